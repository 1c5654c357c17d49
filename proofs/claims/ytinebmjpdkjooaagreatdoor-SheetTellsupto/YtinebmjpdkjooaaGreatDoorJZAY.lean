/-
  Dims with their members while a text is read: how they lie in rows of a call's own.
-/
import Derived.Laws.OwnMore
import Derived.Test.YtinebmjpdkjooaaGreatDoorJZAV
import Derived.Test.YtinebmjpdkjooaaGreatDoorJZAX
namespace Go.Proofs.YtinebmjpdkjooaaGreatDoor
open Go Go.ChangeShapes Go.WideShapes Go.ChangeAt Go.RowKit
set_option maxRecDepth 20000
theorem own_kept {w w':World} {base e size n:Nat} {v:Value} {xs:List Value} (h:w.ownsRow base e size v n xs) (hk:∀ b,v.ownBlock=some b→w'.heap[b]?=w.heap[b]?):w'.ownsRow base e size v n xs:=by
 refine ⟨h.1,?_⟩
 rcases h.2 with h0 | ⟨g',cap,cur,rfl,h2,h3,h4⟩
 ·exact Or.inl h0
 ·exact Or.inr ⟨g',cap,cur,rfl,h2,(hk g' rfl).trans h3,h4⟩
def dmL (L:List RDm):Nat→Dm:=fun i=>toDm (L.getD i noRD)
theorem cellsDo_cg {D D':Nat→Dm} {A A':Nat→Option Addr} {C C':Nat→Nat}:∀ k,(∀ i,i<k→D i=D' i∧A i=A' i∧C i=C' i)→cellsDo D A C k=cellsDo D' A' C' k
 | 0,_=>rfl
 | k+1,h=>by
  obtain ⟨h1,h2,h3⟩:=h k (by omega)
  rw [cellsDo,cellsDo,cellsDo_cg k fun i hi=>h i (by omega),h1,h2,h3]
theorem cellsMb_cg {M M':Nat→Mem}:∀ k,(∀ i,i<k→M i=M' i)→cellsMb M k=cellsMb M' k
 | 0,_=>rfl
 | k+1,h=>by rw [cellsMb,cellsMb,cellsMb_cg k fun i hi=>h i (by omega),h k (by omega)]
structure DmV (w:World) (B:Nat) (vd:Value) (A:Nat→Option Addr) (C:Nat→Nat) (L:List RDm):Prop where
 dims:w.ownsRow B 43 3 vd L.length (cellsDo (dmL L) A C L.length)
 mems:∀ j,j<L.length→w.ownsRow B 46 4 (.slice (A j) (dmL L j).n (C j)) (dmL L j).n (cellsMb (dmL L j).mem (dmL L j).n)
 last:∀ j,j+1<L.length→∀ g,(Value.slice (A j) 0 0).ownBlock=some g→(Value.slice (A (L.length-1)) 0 0).ownBlock≠some g
theorem own_slice (A:Option Addr) (n c:Nat):(Value.slice A n c).ownBlock=(Value.slice A 0 0).ownBlock:=by cases A <;> rfl
theorem DmV.nil (w:World) (B:Nat) (A:Nat→Option Addr) (C:Nat→Nat):DmV w B (.slice none 0 0) A C []:=⟨World.ownsRow_nil w B _ 3,fun j hj=>absurd hj (Nat.not_lt_zero _),fun j hj=>by simp at hj⟩
theorem DmV.keep {w w':World} {B:Nat} {vd:Value} {A:Nat→Option Addr} {C:Nat→Nat} {L:List RDm} (h:DmV w B vd A C L) (hk:∀ b cs fr t,B≤b→w.heap[b]?=some (.cells cs t fr)→t=43∨t=46→w'.heap[b]?=w.heap[b]?):DmV w' B vd A C L :=
 ⟨own_kept h.dims fun b hb=>by obtain ⟨h1,-,cur,h2⟩:=own_blk h.dims hb;exact hk b cur _ _ h1 h2 (Or.inl rfl),
  fun j hj=>own_kept (h.mems j hj) fun b hb=>by obtain ⟨h1,-,cur,h2⟩:=own_blk (h.mems j hj) hb;exact hk b cur _ _ h1 h2 (Or.inr rfl),h.last⟩
theorem DmV.later {w w':World} {B:Nat} {vd:Value} {A:Nat→Option Addr} {C:Nat→Nat} {L:List RDm} (h:DmV w B vd A C L) (hb:Below w.heap.size w w'):DmV w' B vd A C L :=
 h.keep fun b _ _ _ _ h1 _=>hb.block b (Array.getElem?_eq_some_iff.1 h1).1
theorem getD_ahead {L:List RDm} {d:RDm} {i:Nat} (h:i<L.length):(L ++ [d]).getD i noRD=L.getD i noRD:=by
 simp [List.getD,List.getElem?_append_left h]
theorem getD_new {L:List RDm} {d:RDm}:(L ++ [d]).getD L.length noRD=d:=by simp [List.getD]
theorem DmV.push {w w':World} {B:Nat} {vd vd':Value} {A:Nat→Option Addr} {C:Nat→Nat} {L:List RDm} {nm:ByteArray} {sv:Int} (h:DmV w B vd A C L) (hk:∀ b cs fr,B≤b→w.heap[b]?=some (.cells cs 46 fr)→w'.heap[b]?=w.heap[b]?) (hown:w'.ownsRow B 43 3 vd' (L.length+1) (cellsDo (dmL L) A C L.length ++ [.string nm,.int .i64 sv,.slice none 0 0])):DmV w' B vd' (fun j=>if j<L.length then A j else none) (fun j=>if j<L.length then C j else 0) (L ++ [⟨nm,sv,[]⟩]):=by
 have e1:∀ j,j<L.length→dmL (L ++ [⟨nm,sv,[]⟩]) j=dmL L j:=fun j hj=>by unfold dmL;rw [getD_ahead hj]
 have e2:dmL (L ++ [⟨nm,sv,[]⟩]) L.length=⟨nm,sv,0,fun k=>List.getD [] k noM⟩:=by unfold dmL;rw [getD_new];rfl
 have hl:(L ++ [(⟨nm,sv,[]⟩:RDm)]).length=L.length+1:=by simp
 refine ⟨?_,fun j hj=>?_,fun j hj g hg=>?_⟩
 ·rw [hl,cellsDo,e2,cellsDo_cg (A':=A) (C':=C) L.length fun i hi=>⟨e1 i hi,if_pos hi,if_pos hi⟩]
  simp only [Nat.lt_irrefl,if_false]
  exact hown
 ·rw [hl] at hj
  by_cases hlt:j<L.length
  ·rw [e1 j hlt]
   simp only [if_pos hlt]
   exact own_kept (h.mems j hlt) fun b hb=>by obtain ⟨h1,-,cur,h2⟩:=own_blk (h.mems j hlt) hb;exact hk b cur _ h1 h2
  ·obtain rfl:j=L.length:=by omega
   rw [e2]
   simp only [Nat.lt_irrefl,if_false]
   exact World.ownsRow_nil w' B _ 4
 ·rw [hl]
  simp [Value.ownBlock]
theorem getD_addM {L:List RDm} {m:Mem} {j:Nat} (hj:j+1<L.length):(addM L m).getD j noRD=L.getD j noRD:=by
 unfold addM
 simp only [List.getD,List.getElem?_set]
 rw [if_neg (by omega)]
theorem getD_addM_last {L:List RDm} {m:Mem} (hn:0<L.length):(addM L m).getD (L.length-1) noRD=⟨(L.getD (L.length-1) noRD).name,(L.getD (L.length-1) noRD).solve,(L.getD (L.length-1) noRD).mem ++ [m]⟩:=by
 unfold addM
 rw [List.getD,List.getElem?_set,if_pos rfl,if_pos (by omega)]
 rfl
theorem DmV.more {w wa w1:World} {B gd cd g cg:Nat} {A:Nat→Option Addr} {C:Nat→Nat} {L:List RDm} {m:Mem} (h:DmV w B (.slice (some ⟨gd,0,none⟩) L.length cd) A C L) (hn:0<L.length) (hb:Below w.heap.size w wa)
  (hown:w1.ownsRow B 46 4 (.slice (some ⟨g,0,none⟩) ((dmL L (L.length-1)).n+1) cg) ((dmL L (L.length-1)).n+1) (cellsMb (dmL L (L.length-1)).mem (dmL L (L.length-1)).n ++ [.string m.name,.int .i64 m.parent,.int .i64 m.sign,.string m.formula]))
  (hgrow:wa.grownBy w1 (Value.slice (A (L.length-1)) (dmL L (L.length-1)).n (C (L.length-1))).ownBlock) (hat:(Value.slice (A (L.length-1)) (dmL L (L.length-1)).n (C (L.length-1))).ownBlock=some g∨wa.heap.size≤g) :
  DmV (w1.setCell ⟨gd,(L.length-1)*3+2,none⟩ (.slice (some ⟨g,0,none⟩) ((dmL L (L.length-1)).n+1) cg)) B (.slice (some ⟨gd,0,none⟩) L.length cd) (fun j=>if j=L.length-1 then some ⟨g,0,none⟩ else A j) (fun j=>if j=L.length-1 then cg else C j) (addM L m):=by
 obtain ⟨hgd0,hgd1,curd,hgd2⟩:=own_blk h.dims (b:=gd) rfl
 have hl:L.length-1<L.length:=by omega
 have hadd:(addM L m).length=L.length:=addM_len L m
 have e1:∀ j,j+1<L.length→dmL (addM L m) j=dmL L j:=fun j hj=>by unfold dmL;rw [getD_addM hj]
 have e2:dmL (addM L m) (L.length-1)=⟨(dmL L (L.length-1)).name,(dmL L (L.length-1)).solve,(dmL L (L.length-1)).n+1,fun k=>((L.getD (L.length-1) noRD).mem ++ [m]).getD k noM⟩:=by
  unfold dmL
  rw [getD_addM_last hn]
  unfold toDm
  simp
 have hrow:w1.heap[gd]?=w.heap[gd]?:=by
  refine (hgrow.block gd (Nat.lt_of_lt_of_le hgd1 hb.size) fun e=>?_).trans (hb.block gd hgd1)
  exact own_ne (h.mems _ hl) hgd2 (by decide) e.symm
 have hd1:w1.ownsRow B 43 3 (.slice (some ⟨gd,0,none⟩) L.length cd) L.length (cellsDo (dmL L) A C L.length):=own_kept h.dims fun b hb'=>by cases hb';exact hrow
 have hne:g≠gd:=fun e=>by
  subst e
  exact own_ne hown (hrow.trans hgd2) (by decide) rfl
 refine ⟨?_,fun j hj=>?_,fun j hj g' hg'=>?_⟩
 ·rw [hadd]
  have h2:=(hd1.stored ((L.length-1)*3+2) (.slice (some ⟨g,0,none⟩) ((dmL L (L.length-1)).n+1) cg)).1
  have e3:(cellsDo (dmL L) A C L.length).set ((L.length-1)*3+2) (.slice (some ⟨g,0,none⟩) ((dmL L (L.length-1)).n+1) cg)=cellsDo (dmL (addM L m)) (fun j=>if j=L.length-1 then some ⟨g,0,none⟩ else A j) (fun j=>if j=L.length-1 then cg else C j) L.length:=by
   obtain ⟨l,hl'⟩:∃ l,L.length=l+1:=⟨L.length-1,by omega⟩
   simp only [hl',Nat.add_sub_cancel] at e1 e2 ⊢
   rw [cellsDo,cellsDo,e2,List.set_append_right _ _ (by rw [cellsDo_len];omega),cellsDo_len,show l*3+2-l*3=2 by omega]
   simp only [if_true]
   congr 1
   refine cellsDo_cg l fun i hi=>⟨(e1 i (by omega)).symm,?_,?_⟩ <;> rw [if_neg (by omega)]
  rw [←e3]
  exact h2
 ·rw [hadd] at hj
  by_cases hlt:j=L.length-1
  ·subst hlt
   rw [e2]
   simp only [if_true]
   rw [cellsMb]
   have e4:cellsMb (fun k=>((L.getD (L.length-1) noRD).mem ++ [m]).getD k noM) (dmL L (L.length-1)).n=cellsMb (dmL L (L.length-1)).mem (dmL L (L.length-1)).n:=cellsMb_cg _ fun i hi=>by
    show ((L.getD (L.length-1) noRD).mem ++ [m]).getD i noM=(L.getD (L.length-1) noRD).mem.getD i noM
    have hi':i<(L.getD (L.length-1) noRD).mem.length:=hi
    generalize (L.getD (L.length-1) noRD).mem=mm at hi'
    simp [List.getD,List.getElem?_append_left hi']
   have e5:((L.getD (L.length-1) noRD).mem ++ [m]).getD (dmL L (L.length-1)).n noM=m:=by
    show ((L.getD (L.length-1) noRD).mem ++ [m]).getD (L.getD (L.length-1) noRD).mem.length noM=m
    generalize (L.getD (L.length-1) noRD).mem=mm
    simp [List.getD]
   rw [e4,e5]
   exact own_setc hown (fun e=>hne (Option.some.inj e))
  ·rw [e1 j (by omega)]
   simp only [if_neg hlt]
   refine own_kept (h.mems j hj) fun b hb'=>?_
   obtain ⟨h1,h2,cur,h3⟩:=own_blk (h.mems j hj) hb'
   have hne2:b≠gd:=fun e=>by
    subst e
    rw [hgd2] at h3
    have:=(Obj.cells.inj (Option.some.inj h3)).2.1
    exact absurd this (by decide)
   rw [setCell_off _ _ _ _ _ hne2,hgrow.block b (Nat.lt_of_lt_of_le h2 hb.size) fun e=>?_,hb.block b h2]
   rw [own_slice] at hb' e
   exact h.last j (by omega) b hb' e.symm
 ·rw [hadd] at hj ⊢
  simp only [if_true]
  rw [if_neg (by omega)] at hg'
  intro e
  have hgg:g=g':=by simpa [Value.ownBlock] using e
  subst hgg
  obtain ⟨h1,h2,-⟩:=own_blk (h.mems j (by omega)) (by rw [own_slice];exact hg')
  rcases hat with h3 | h3
  ·rw [own_slice] at h3
   exact h.last j hj g hg' h3
  ·have:=hb.size
   omega
theorem DmV.toV {w:World} {B:Nat} {vd:Value} {A:Nat→Option Addr} {C:Nat→Nat} {L:List RDm} (h:DmV w B vd A C L):∃ A0 cap,vd=.slice A0 L.length cap∧DimsV w A0 cap L.length (dmL L) A C:=by
 refine dims_own h.dims fun j hj=>?_
 obtain ⟨A1,c1,h1,h2⟩:=memT_own (h.mems j hj)
 cases h1
 exact h2
def cellsW (S:RdQ):Nat→List Value
 | 0=>[]
 | k+1=>cellsW S k ++ [.int .i64 ((S.first+k:Nat):Int),.string (S.pl.getD k noWd),.int .i64 (S.num.getD k 0)]
theorem cellsW_len (S:RdQ):∀ k,(cellsW S k).length=k*3
 | 0=>rfl
 | k+1=>by rw [cellsW,List.length_append,cellsW_len S k];simp;omega
theorem cellsW_cg {S S':RdQ} (hf:S.first=S'.first):∀ k,(∀ i,i<k→S.pl.getD i noWd=S'.pl.getD i noWd∧S.num.getD i 0=S'.num.getD i 0)→cellsW S k=cellsW S' k
 | 0,_=>rfl
 | k+1,h=>by
  obtain ⟨h1,h2⟩:=h k (by omega)
  rw [cellsW,cellsW,cellsW_cg hf k fun i hi=>h i (by omega),hf,h1,h2]
theorem cellsW_at (S:RdQ) (n:Nat):∀ k,k<n→(cellsW S n)[k*3]?=some (.int .i64 ((S.first+k:Nat):Int))∧(cellsW S n)[k*3+1]?=some (.string (S.pl.getD k noWd))∧(cellsW S n)[k*3+2]?=some (.int .i64 (S.num.getD k 0)):=by
 induction n with
 | zero=>intro k h;omega
 | succ n ih =>
  intro k hk
  rw [cellsW]
  have hl:=cellsW_len S n
  by_cases h:k=n
  ·subst h
   refine ⟨?_,?_,?_⟩ <;> rw [List.getElem?_append_right (by omega),hl]
   ·rw [Nat.sub_self];rfl
   ·rw [show k*3+1-k*3=1 by omega];rfl
   ·rw [show k*3+2-k*3=2 by omega];rfl
  ·have:=ih k (by omega)
   refine ⟨?_,?_,?_⟩ <;> rw [List.getElem?_append_left (by omega)]
   ·exact this.1
   ·exact this.2.1
   ·exact this.2.2
theorem cellsW_more {S:RdQ} {i:Nat} {p:ByteArray} {x:Int} (hn:S.num.length=S.pl.length) (hi:S.pl.length=0∨S.first+S.pl.length=i):cellsW ⟨S.dims,S.pl ++ [p],S.num ++ [x],if S.pl.length=0 then i else S.first⟩ (S.pl.length+1)=cellsW S S.pl.length ++ [.int .i64 (i:Int),.string p,.int .i64 x]:=by
 rw [cellsW]
 congr 1
 ·by_cases h0:S.pl.length=0
  ·rw [h0];rfl
  ·refine cellsW_cg (by simp only [if_neg h0]) _ fun k hk=>⟨?_,?_⟩
   ·simp [List.getD,List.getElem?_append_left hk]
   ·simp only [List.getD]
    rw [List.getElem?_append_left (by omega)]
 ·have e1:(S.pl ++ [p]).getD S.pl.length noWd=p:=by simp [List.getD]
  have e2:(S.num ++ [x]).getD S.pl.length 0=x:=by rw [←hn];simp [List.getD]
  simp only [e1,e2]
  congr 3
  split
  ·omega
  ·omega
structure DrV (q:Nat) (S:RdQ) (A:Nat→Option Addr) (C:Nat→Nat) (vd vc:Value) (w:World):Prop where
 box:w.heap[q]?=some (.cells #[vd,vc] 76 (0,0))
 dm:DmV w (q+1) vd A C S.dims
 cells:w.ownsRow (q+1) 99 3 vc S.pl.length (cellsW S S.pl.length)
 num:S.num.length=S.pl.length
theorem DrV.lt {q:Nat} {S:RdQ} {A:Nat→Option Addr} {C:Nat→Nat} {vd vc:Value} {w:World} (h:DrV q S A C vd vc w):q<w.heap.size:=(Array.getElem?_eq_some_iff.1 h.box).1
theorem DrV.later {q:Nat} {S:RdQ} {A:Nat→Option Addr} {C:Nat→Nat} {vd vc:Value} {w w':World} (h:DrV q S A C vd vc w) (hb:Below w.heap.size w w'):DrV q S A C vd vc w' :=
 ⟨(hb.block q h.lt).trans h.box,h.dm.later hb,own_later h.cells hb,h.num⟩
theorem box2_0 {w:World} {q T:Nat} {a b v:Value} (h:w.heap[q]?=some (.cells #[a,b] T (0,0))):(w.setCell ⟨q,0,none⟩ v).heap[q]?=some (.cells #[v,b] T (0,0)):=by simp [World.setCell,Array.getElem?_modify,h]
theorem box2_1 {w:World} {q T:Nat} {a b v:Value} (h:w.heap[q]?=some (.cells #[a,b] T (0,0))):(w.setCell ⟨q,1,none⟩ v).heap[q]?=some (.cells #[a,v] T (0,0)):=by simp [World.setCell,Array.getElem?_modify,h]
theorem DrV.dim {q:Nat} {S:RdQ} {A:Nat→Option Addr} {C:Nat→Nat} {vd vc v':Value} {w wa w1:World} {nm:ByteArray} {sv:Int} (h:DrV q S A C vd vc w) (hb:Below w.heap.size w wa)
  (hown:w1.ownsRow (q+1) 43 3 v' (S.dims.length+1) (cellsDo (dmL S.dims) A C S.dims.length ++ [.string nm,.int .i64 sv,.slice none 0 0])) (hgrow:wa.grownBy w1 vd.ownBlock) :
  DrV q ⟨S.dims ++ [⟨nm,sv,[]⟩],S.pl,S.num,S.first⟩ (fun j=>if j<S.dims.length then A j else none) (fun j=>if j<S.dims.length then C j else 0) v' vc (w1.setCell ⟨q,0,none⟩ v')∧Below q w (w1.setCell ⟨q,0,none⟩ v'):=by
 have hq:=h.lt
 have hkeep:∀ (b:Nat) (cs:Array Value) (fr:Nat×Nat) (t:Nat),w.heap[b]?=some (Obj.cells cs t fr)→t≠43→w1.heap[b]?=w.heap[b]?:=fun b cs fr t hx ht=>by
  have hlt:=(Array.getElem?_eq_some_iff.1 hx).1
  exact (hgrow.block b (Nat.lt_of_lt_of_le hlt hb.size) fun e=>own_ne h.dm.dims hx ht e.symm).trans (hb.block b hlt)
 have hbox:=(hkeep q _ _ _ h.box (by decide)).trans h.box
 have hvq:v'.ownBlock≠some q:=fun e=>by have:=(hown.lt q e).1;omega
 refine ⟨⟨box2_0 hbox,h.dm.push (fun b cs fr hB hx=>?_) (own_setc hown hvq),?_,h.num⟩,?_⟩
 ·rw [setCell_off _ _ _ _ _ (by omega)]
  exact hkeep b cs fr _ hx (by decide)
 ·have e:cellsW ⟨S.dims ++ [⟨nm,sv,[]⟩],S.pl,S.num,S.first⟩ S.pl.length=cellsW S S.pl.length:=cellsW_cg (S:=⟨S.dims ++ [⟨nm,sv,[]⟩],S.pl,S.num,S.first⟩) (S':=S) rfl _ fun _ _=>⟨rfl,rfl⟩
  show World.ownsRow _ _ _ _ _ S.pl.length (cellsW ⟨S.dims ++ [⟨nm,sv,[]⟩],S.pl,S.num,S.first⟩ S.pl.length)
  rw [e]
  refine own_kept h.cells fun b hx=>?_
  obtain ⟨h1,-,cur,h3⟩:=own_blk h.cells hx
  rw [setCell_off _ _ _ _ _ (by omega)]
  exact hkeep b cur _ _ h3 (by decide)
 ·have hb':Below q w wa:=hb.mono (by omega)
  have hb2:Below q w w1:=hb'.grown hgrow (by have:=hb.size;omega) fun k hk=>by have:=(h.dm.dims.lt k hk).1;omega
  exact hb2.setCell (Nat.le_refl _) _
theorem Tryz.infoDimP:(Tryz.prog.info? 43).map (fun i=>(i.zero,i.size,i.bytes))=some (some (.agg #[.string ⟨#[]⟩,.int .i64 0,.slice none 0 0]),3,48):=by kernel_rfl
set_option maxHeartbeats 8000000 in
theorem stdim_any (q:Nat) (S:RdQ) (A:Nat→Option Addr) (C:Nat→Nat) (vd vc:Value) (nm sv:ByteArray) (w:World) (h:DrV q S A C vd vc w) (hE:EnvS w) (hn:S.dims.length≤1048577) (hnm:nm.size≤1048576) (hsv:sv.size≤1048576) :
  Calls Tryz.prog 74 #[.pointer (some ⟨q,0,none⟩),.string nm,.string sv] w fun e w'=>e=.returned (.bool (cntB sv && nmW nm && decide (S.pl.length=0)))∧Below q w w'∧(cntB sv=true∧nmW nm=true∧S.pl.length=0→∃ A' C' vd' vc',DrV q ⟨S.dims ++ [⟨nm,intI sv,[]⟩],S.pl,S.num,S.first⟩ A' C' vd' vc' w'):=by
 have hcn:=scount_any sv w hE hsv
 have hna:=fun w=>sname_any nm w hnm
 have hqs:=h.lt
 obtain ⟨i0,hi0,hz0,hz1,hz2⟩:=info_parts Tryz.infoDimP
 obtain ⟨Ad,cd,hvd⟩:=own_formK h.dm.dims
 obtain ⟨Ac,cc,hvc⟩:=own_formK h.cells
 subst hvd hvc
 have HV:=hid_of h
 have c0:w.cell? ⟨q,0,none⟩=some (.slice Ad S.dims.length cd):=(Lib.cell_of_heap h.box 0).trans rfl
 have c1:w.cell? ⟨q,1,none⟩=some (.slice Ac S.pl.length cc):=(Lib.cell_of_heap h.box 1).trans rfl
 have f0:w.frozen? ⟨q,0,none⟩=false:=Lib.frozen_of_heap h.box 0
 have HC:Hid (∀ w',Below w.heap.size w w'→w'.cell? ⟨q,0,none⟩=some (.slice Ad S.dims.length cd)∧w'.frozen? ⟨q,0,none⟩=false∧w'.cell? ⟨q,1,none⟩=some (.slice Ac S.pl.length cc)):=fun w' hb=>⟨(hb.cell (p:=⟨q,0,none⟩) hqs).trans c0,(hb.frozen (p:=⟨q,0,none⟩) hqs).trans f0,(hb.cell (p:=⟨q,1,none⟩) hqs).trans c1⟩
 clear c0 c1 f0 h hE hsv
 have HQ:Hid (∀ w',Below w.heap.size w w'→Below q w w'):=fun w' hb=>hb.mono (by omega)
 cases hc:cntB sv with
 | false =>
  rw [hc] at hcn
  simp only [Bool.false_and]
  generalize cntI sv=x at hcn
  clear hna hc HC HV hi0
  go_enter Tryz.func74,Tryz.ntmps74
  go_wp2_with fail
  refine hcn.mono ?_
  rintro e w1 ⟨rfl,hb1⟩
  go_wp2_with fail
  go_ret
  exact ⟨rfl,HQ.out _ hb1,fun h=>absurd h.1 (by decide)⟩
 | true =>
  rw [hc] at hcn
  have hx:cntI sv=intI sv:=by unfold cntI;rw [if_pos hc]
  rw [hx] at hcn
  generalize intI sv=x at hcn
  clear hx hc
  cases hw:nmW nm with
  | false =>
   simp only [hw] at hna
   simp only [Bool.and_false,Bool.false_and]
   clear HC HV hi0 hw
   go_enter Tryz.func74,Tryz.ntmps74
   go_wp2_with fail
   refine hcn.mono ?_
   rintro e w1 ⟨rfl,hb1⟩
   go_wp2_with fail
   refine (hna _).mono ?_
   rintro e w2 ⟨rfl,hb2⟩
   have HB2:=HQ.out _ (onB hb1 hb2)
   go_wp2_with fail
   go_ret
   exact ⟨rfl,HB2,fun h=>absurd h.2.1 (by decide)⟩
  | true =>
   simp only [hw] at hna
   simp only [Bool.true_and]
   clear hw
   by_cases hp:S.pl.length=0
   ·rw [decide_eq_true hp]
    have HP:=hid_of hp
    have hp1:((S.pl.length:Nat):Int)=0:=by omega
    obtain ⟨pl,hpl⟩:∃ pl,S.pl.length=pl:=⟨_,rfl⟩
    rw [hpl] at HC hp1
    obtain ⟨n,hn'⟩:∃ n,S.dims.length=n:=⟨_,rfl⟩
    have HN:=hid_of hn'
    rw [hn'] at HC hn
    have hown:=HV.out.dm.dims
    rw [hn'] at hown
    have HO:=hid_of hown
    obtain ⟨XS,hXS⟩:∃ XS,cellsDo (dmL S.dims) A C n=XS:=⟨_,rfl⟩
    have HXS:=hid_of hXS
    rw [hXS] at HO
    have HCl:Hid (∀ w',Calls Tryz.prog 107 #[.string nm] w' fun e w''=>e=.returned (.string nm)∧Below w'.heap.size w' w''):=fun w'=>sclone_any nm w' (by omega)
    have HNE:Hid (some q≠(Value.slice Ad n cd).ownBlock):=fun e=>by have:=(HO.out.lt _ e.symm).1;omega
    clear hown hp hpl hXS hn'
    go_enter Tryz.func74,Tryz.ntmps74
    go_wp2_with fail
    refine hcn.mono ?_
    rintro e w1 ⟨rfl,hb1⟩
    go_wp2_with fail
    refine (hna _).mono ?_
    rintro e w2 ⟨rfl,hb2⟩
    have HB2:=hid_of (onB hb1 hb2)
    obtain ⟨x1,x2,x3⟩:=HC.out _ HB2.out
    have hqr:q<w2.heap.size:=Nat.lt_of_lt_of_le hqs HB2.out.size
    have HC2:Hid (∀ w',Below w2.heap.size w2 w'→w'.cell? ⟨q,0,none⟩=some (.slice Ad n cd)∧w'.frozen? ⟨q,0,none⟩=false):=fun w' hb=>⟨(hb.cell (p:=⟨q,0,none⟩) hqr).trans x1,(hb.frozen (p:=⟨q,0,none⟩) hqr).trans x2⟩
    have HO2:=hid_of (own_later HO.out HB2.out)
    clear hb1 hb2 hcn hna
    go_wp2_with fail
    go_region_law ((first
     | (refine step_append_lies _ (by rfl) _ _ _ (by rfl) (q+1) 43 i0 _ 3 48 Tryz.underlying22 hi0 hz0 hz1 hz2 rfl (by omega) (.slice Ad n cd) n XS (by rfl) (own_stays HO2.out (by go_grown)) ⟨w4.heap.size,0,none⟩ 1 1 [.string nm,.int .i64 x,.slice none 0 0] (by rfl) (by rfl) (World.news_of_block (cs := #[.string nm,.int .i64 x,.slice none 0 0]) (t:=43) (fr:=(0,0)) (heap_alloc_new w4 _)) (by simp [Value.oneCell']) (by omega) (by unfold maxLen;omega) (by omega) (by simp;omega) (w4.heap.size+1) (by simp) ?_;intro gg cg w6 hown6 hgrow hat hlt6;have y1:=(hgrow.cell_far ⟨q,0,none⟩ (by simp;omega) HNE.out).trans (HC2.out _ (by go_grown)).1;have y2:=(hgrow.frozen_far ⟨q,0,none⟩ (by simp;omega) HNE.out).trans (HC2.out _ (by go_grown)).2)
     | (go_simp;refine (HCl.out _).mono ?_;rintro e w4 ⟨rfl,hb4⟩;have hN4:=onB (W0:=w2) (by go_grown) hb4;have hs4:=hN4.size;obtain ⟨z1,z2⟩:=HC2.out _ hN4;have hq4:q<w4.heap.size:=Nat.lt_of_lt_of_le hqr hs4;clear hb4)))
    all_goals rw [←HXS.out,←HN.out] at hown6
    all_goals rw [←HN.out] at hgrow
    all_goals (have hS:=DrV.dim (HV.out.later HB2.out) (by go_grown) hown6 hgrow)
    all_goals rw [HN.out] at hS
    all_goals (have HS:=hid_of hS)
    all_goals clear hown6 hgrow hS hN4
    all_goals go_wp2_with fail
    all_goals go_ret
    all_goals exact ⟨rfl,(HQ.out _ HB2.out).trans HS.out.2,fun _=>⟨_,_,_,_,HS.out.1⟩⟩
   ·rw [decide_eq_false hp]
    have hp1:0<((S.pl.length:Nat):Int):=by omega
    have HP:=hid_of hp
    generalize S.pl.length=pl at HC hp1 HP
    clear HV hi0 hp
    go_enter Tryz.func74,Tryz.ntmps74
    go_wp2_with fail
    refine hcn.mono ?_
    rintro e w1 ⟨rfl,hb1⟩
    go_wp2_with fail
    refine (hna _).mono ?_
    rintro e w2 ⟨rfl,hb2⟩
    have HB2:=hid_of (onB hb1 hb2)
    obtain ⟨x1,x2,x3⟩:=HC.out _ HB2.out
    go_wp2_with fail
    go_ret
    exact ⟨rfl,HQ.out _ HB2.out,fun h=>absurd h.2.2 HP.out⟩
end Go.Proofs.YtinebmjpdkjooaaGreatDoor
