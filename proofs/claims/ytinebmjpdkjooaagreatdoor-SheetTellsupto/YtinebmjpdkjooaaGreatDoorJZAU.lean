/-
  Members and dims in rows of a call's own: the cells that they are, and what such rows are as an outline's dims.
-/
import Derived.OneCell
import Derived.Sort.Walk0
import Derived.Maps.AppendAt
import Derived.Lib.OwnBridge
import Derived.Shelf.Slices.In.SortNone
import Derived.Test.YtinebmjpdkjooaaGreatDoorJZAR
namespace Go.Proofs.YtinebmjpdkjooaaGreatDoor
open Go.ChangeShapes Go.WideShapes Go.ChangeAt Go.RowKit
set_option maxRecDepth 20000
def MemT (w:World) (A:Option Addr) (c n:Nat) (M:Nat→Mem):Prop:=n≤c∧(n=0∨∃ b cs fr,A=some ⟨b,0,none⟩∧w.heap[b]?=some (.cells cs 46 fr)∧MemsAt w b 0 n M)
theorem MemT.toV {w:World} {A:Option Addr} {c n:Nat} {M:Nat→Mem} (h:MemT w A c n M):MemsV w A c n M:=by
 obtain ⟨h1,h2 | ⟨b,cs,fr,h2,-,h3⟩⟩:=h
 ·exact ⟨h1,Or.inl h2⟩
 ·exact ⟨h1,Or.inr ⟨b,0,h2,h3⟩⟩
def cellsMb (M:Nat→Mem):Nat→List Value
 | 0=>[]
 | k+1=>cellsMb M k ++ [.string (M k).name,.int .i64 (M k).parent,.int .i64 (M k).sign,.string (M k).formula]
theorem cellsMb_len (M:Nat→Mem):∀ k,(cellsMb M k).length=k*4
 | 0=>rfl
 | k+1=>by rw [cellsMb,List.length_append,cellsMb_len M k];simp;omega
theorem cellsMb_at (M:Nat→Mem) (n:Nat):∀ k,k<n→(cellsMb M n)[k*4]?=some (.string (M k).name)∧(cellsMb M n)[k*4+1]?=some (.int .i64 (M k).parent)∧(cellsMb M n)[k*4+2]?=some (.int .i64 (M k).sign)∧(cellsMb M n)[k*4+3]?=some (.string (M k).formula):=by
 induction n with
 | zero=>intro k h;omega
 | succ n ih =>
  intro k hk
  rw [cellsMb]
  have hl:=cellsMb_len M n
  by_cases h:k=n
  ·subst h
   refine ⟨?_,?_,?_,?_⟩ <;> rw [List.getElem?_append_right (by omega),hl]
   ·rw [Nat.sub_self];rfl
   ·rw [show k*4+1-k*4=1 by omega];rfl
   ·rw [show k*4+2-k*4=2 by omega];rfl
   ·rw [show k*4+3-k*4=3 by omega];rfl
  ·have:=ih k (by omega)
   refine ⟨?_,?_,?_,?_⟩ <;> rw [List.getElem?_append_left (by omega)]
   ·exact this.1
   ·exact this.2.1
   ·exact this.2.2.1
   ·exact this.2.2.2
theorem memT_own {w:World} {base n:Nat} {v:Value} {M:Nat→Mem} (h:w.ownsRow base 46 4 v n (cellsMb M n)):∃ A c,v=.slice A n c∧MemT w A c n M:=by
 rcases h.2 with ⟨rfl,h0⟩ | ⟨g,cap,cur,rfl,hb,hg,h4,h5,h6,h7⟩
 ·subst h0
  exact ⟨none,0,rfl,Nat.le_refl _,Or.inl rfl⟩
 ·refine ⟨_,cap,rfl,h4,Or.inr ⟨g,cur,_,rfl,hg,(Array.getElem?_eq_some_iff.1 hg).1,fun k hk=>?_⟩⟩
  obtain ⟨x0,x1,x2,x3⟩:=cellsMb_at M n k hk
  rw [←h7,List.getElem?_take,if_pos (by omega),Array.getElem?_toList] at x0 x1 x2 x3
  rw [Nat.zero_add]
  exact ⟨by simp [World.cell?,hg,x0],by simp [World.cell?,hg,x1],by simp [World.cell?,hg,x2],by simp [World.cell?,hg,x3]⟩
def cellsDo (D:Nat→Dm) (A:Nat→Option Addr) (C:Nat→Nat):Nat→List Value
 | 0=>[]
 | k+1=>cellsDo D A C k ++ [.string (D k).name,.int .i64 (D k).solve,.slice (A k) (D k).n (C k)]
theorem cellsDo_len (D:Nat→Dm) (A:Nat→Option Addr) (C:Nat→Nat):∀ k,(cellsDo D A C k).length=k*3
 | 0=>rfl
 | k+1=>by rw [cellsDo,List.length_append,cellsDo_len D A C k];simp;omega
theorem cellsDo_at (D:Nat→Dm) (A:Nat→Option Addr) (C:Nat→Nat) (n:Nat):∀ k,k<n→(cellsDo D A C n)[k*3]?=some (.string (D k).name)∧(cellsDo D A C n)[k*3+1]?=some (.int .i64 (D k).solve)∧(cellsDo D A C n)[k*3+2]?=some (.slice (A k) (D k).n (C k)):=by
 induction n with
 | zero=>intro k h;omega
 | succ n ih =>
  intro k hk
  rw [cellsDo]
  have hl:=cellsDo_len D A C n
  by_cases h:k=n
  ·subst h
   refine ⟨?_,?_,?_⟩ <;> rw [List.getElem?_append_right (by omega),hl]
   ·rw [Nat.sub_self];rfl
   ·rw [show k*3+1-k*3=1 by omega];rfl
   ·rw [show k*3+2-k*3=2 by omega];rfl
  ·have:=ih k (by omega)
   refine ⟨?_,?_,?_⟩ <;> rw [List.getElem?_append_left (by omega)]
   ·exact this.1
   ·exact this.2.1
   ·exact this.2.2
theorem dims_own {w:World} {base n:Nat} {v:Value} {D:Nat→Dm} {A:Nat→Option Addr} {C:Nat→Nat} (h:w.ownsRow base 43 3 v n (cellsDo D A C n)) (hM:∀ j,j<n→MemT w (A j) (C j) (D j).n (D j).mem):∃ A0 cap,v=.slice A0 n cap∧DimsV w A0 cap n D A C:=by
 rcases h.2 with ⟨rfl,h0⟩ | ⟨g,cap,cur,rfl,hb,hg,h4,h5,h6,h7⟩
 ·subst h0
  exact ⟨none,0,rfl,Nat.le_refl _,Or.inl rfl⟩
 ·refine ⟨_,cap,rfl,h4,Or.inr ⟨g,0,rfl,(Array.getElem?_eq_some_iff.1 hg).1,fun k hk=>?_⟩⟩
  obtain ⟨x0,x1,x2⟩:=cellsDo_at D A C n k hk
  rw [←h7,List.getElem?_take,if_pos (by omega),Array.getElem?_toList] at x0 x1 x2
  rw [Nat.zero_add]
  exact ⟨by simp [World.cell?,hg,x0],by simp [World.cell?,hg,x1],by simp [World.cell?,hg,x2],(hM k hk).toV⟩
def IntT (w:World) (A:Option Addr) (c:Nat) (L:List Int):Prop:=L.length≤c∧c≤9223372036854775807∧(L=[]∨∃ b cs fr,A=some ⟨b,0,none⟩∧w.heap[b]?=some (.cells cs 3 fr)∧∀ j,j<L.length→w.cell? ⟨b,j,none⟩=some (.int .i64 (L.getD j 0)))
theorem IntT.at {w:World} {A:Option Addr} {c:Nat} {L:List Int} (h:IntT w A c L):IntsAt w A c L:=by
 obtain ⟨h1,-,h2 | ⟨b,cs,fr,h2,h3,h4⟩⟩:=h
 ·exact ⟨h1,Or.inl h2⟩
 ·exact ⟨h1,Or.inr ⟨b,h2,(Array.getElem?_eq_some_iff.1 h3).1,h4⟩⟩
theorem IntT.nil (w:World) (A:Option Addr) (c:Nat) (h:c≤9223372036854775807):IntT w A c []:=⟨Nat.zero_le _,h,Or.inl rfl⟩
theorem IntT.keep {w w':World} {A:Option Addr} {c:Nat} {L:List Int} (h:IntT w A c L) (hB:∀ (b:Nat) (cs:Array Value) (fr:Nat×Nat),w.heap[b]?=some (Obj.cells cs 3 fr)→w'.heap[b]?=w.heap[b]?):IntT w' A c L:=by
 obtain ⟨h1,h0,h2 | ⟨b,cs,fr,h2,h3,h4⟩⟩:=h
 ·exact ⟨h1,h0,Or.inl h2⟩
 ·have hb:=hB b cs fr h3
  exact ⟨h1,h0,Or.inr ⟨b,cs,fr,h2,hb.trans h3,fun j hj=>(World.cell?_of_block (a:=⟨b,j,none⟩) hb).trans (h4 j hj)⟩⟩
theorem IntT.later {w w':World} {A:Option Addr} {c:Nat} {L:List Int} (h:IntT w A c L) (hB:Below w.heap.size w w'):IntT w' A c L :=
 h.keep fun b _ _ hb=>hB.block b (Array.getElem?_eq_some_iff.1 hb).1
theorem intT_own {w:World} {base:Nat} {v:Value} {L:List Int} (h:w.ownsRow base 3 1 v L.length (mapI L)):∃ A c,v=.slice A L.length c∧IntT w A c L:=by
 rcases h.2 with ⟨rfl,h0⟩ | ⟨g,cap,cur,rfl,hb,hg,hc,hm,_,_⟩
 ·have:L=[]:=List.eq_nil_of_length_eq_zero h0
  subst this
  exact ⟨none,0,rfl,IntT.nil _ _ _ (by omega)⟩
 ·refine ⟨_,cap,rfl,hc,by unfold maxLen at hm;omega,Or.inr ⟨g,cur,_,rfl,hg,fun j hj=>?_⟩⟩
  have hx:=h.cells (g:=g) rfl j (.int .i64 (L.getD j 0)) (by simp [mapI,List.getD,List.getElem?_eq_getElem hj])
  have hadd:(⟨g,0,none⟩:Addr).add j=⟨g,j,none⟩:=by unfold Addr.add;split <;> simp_all
  rw [hadd] at hx
  exact hx
theorem row_ne_int:(3:Nat)≠48:=by decide
theorem IntT.row {w w':World} {base:Nat} {v:Value} {n:Nat} {zs:List Value} {A:Option Addr} {c:Nat} {L:List Int} (h:IntT w A c L) (hown:w.ownsRow base 48 1 v n zs) (hG:w.grownBy w' v.ownBlock):IntT w' A c L:=by
 refine h.keep fun b cs fr hb=>hG.block b (Array.getElem?_eq_some_iff.1 hb).1 fun e=>?_
 rcases hown.2 with ⟨rfl,-⟩ | ⟨g,cap,cur,rfl,-,hg,-⟩
 ·cases e
 ·simp only [Value.ownBlock,Option.some.injEq] at e
  rw [e,hg] at hb
  simp only [Option.some.injEq,Obj.cells.injEq] at hb
  exact row_ne_int hb.2.1.symm
structure RL where
 p:List Int
 A:Option Addr
 c:Nat
def noR:RL:=⟨[],none,0⟩
def lR (xs:List RL):List (List Int):=xs.map RL.p
theorem lR_len (xs:List RL):(lR xs).length=xs.length:=by simp [lR]
theorem lR_append (a b:List RL):lR (a ++ b)=lR a ++ lR b:=by simp [lR]
def cellsR (xs:List RL):List Value:=xs.map fun x=>.slice x.A x.p.length x.c
theorem cellsR_append (a b:List RL):cellsR (a ++ b)=cellsR a ++ cellsR b:=by simp [cellsR]
theorem rl_mem {xs:List RL} {k:Nat} (h:k<xs.length):xs.getD k noR∈xs:=by
 rw [List.getD_eq_getElem?_getD,List.getElem?_eq_getElem h]
 exact List.getElem_mem h
theorem lR_at (xs:List RL) (k:Nat):(lR xs).getD k []=(xs.getD k noR).p:=by
 rw [List.getD_eq_getElem?_getD,List.getD_eq_getElem?_getD,lR,List.getElem?_map]
 cases xs[k]? <;> rfl
theorem cellsR_at {xs:List RL} {k:Nat} (h:k<xs.length):(cellsR xs)[k]?=some (.slice (xs.getD k noR).A (xs.getD k noR).p.length (xs.getD k noR).c):=by
 simp [cellsR,List.getD,h]
def RowsV (w:World) (A:Option Addr) (cap:Nat) (xs:List RL):Prop:=xs.length≤cap∧(xs=[]∨∃ b,A=some ⟨b,0,none⟩∧b<w.heap.size∧∀ k,k<xs.length→w.cell? ⟨b,k,none⟩=some (.slice (xs.getD k noR).A (xs.getD k noR).p.length (xs.getD k noR).c))∧∀ x∈xs,IntT w x.A x.c x.p
theorem RowsV.later {w w':World} {A:Option Addr} {cap:Nat} {xs:List RL} (h:RowsV w A cap xs) (hB:Below w.heap.size w w'):RowsV w' A cap xs:=by
 obtain ⟨h1,h2,h3⟩:=h
 refine ⟨h1,?_,fun x hx=>(h3 x hx).later hB⟩
 rcases h2 with h2 | ⟨b,h2,h4,h5⟩
 ·exact Or.inl h2
 ·exact Or.inr ⟨b,h2,Nat.lt_of_lt_of_le h4 hB.size,fun k hk=>(hB.cell (p:=⟨b,k,none⟩) h4).trans (h5 k hk)⟩
theorem RowsV.nil (w:World) (A:Option Addr) (cap:Nat):RowsV w A cap []:=⟨Nat.zero_le _,Or.inl rfl,fun x hx=>by cases hx⟩
theorem rows_own {w:World} {base:Nat} {v:Value} {xs:List RL} (h:w.ownsRow base 48 1 v xs.length (cellsR xs)) (hp:∀ x∈xs,IntT w x.A x.c x.p):∃ A c,v=.slice A xs.length c∧RowsV w A c xs:=by
 rcases h.2 with ⟨rfl,h0⟩ | ⟨g,cap,cur,rfl,hb,hg,hc,_,_,_⟩
 ·have:xs=[]:=List.eq_nil_of_length_eq_zero h0
  subst this
  exact ⟨none,0,rfl,RowsV.nil _ _ _⟩
 ·refine ⟨_,cap,rfl,hc,Or.inr ⟨g,rfl,(Array.getElem?_eq_some_iff.1 hg).1,fun k hk=>?_⟩,hp⟩
  have y:=h.cells (g:=g) rfl k _ (cellsR_at hk)
  have hadd:(⟨g,0,none⟩:Addr).add k=⟨g,k,none⟩:=by unfold Addr.add;split <;> simp_all
  rw [hadd] at y
  exact y
theorem Tryz.infoRow:(Tryz.prog.info? 48).map (fun i=>(i.zero,i.size,i.bytes))=some (some (.slice none 0 0),1,24):=by kernel_rfl
theorem iclone_any (A:Option Addr) (c:Nat) (L:List Int) (w:World) (hL:L.length≤12) (hP:IntT w A c L):Calls Tryz.prog 130 #[.slice A L.length c] w fun e w'=>(∃ v,e=.returned v∧w'.ownsRow w.heap.size 3 1 v L.length (mapI L))∧Below w.heap.size w w' :=
 iclone_pl A c L w (by omega) (pl_ints hP.at)
theorem own_blk {w:World} {base e size n b:Nat} {v:Value} {xs:List Value} (h:w.ownsRow base e size v n xs) (hb:v.ownBlock=some b):base≤b∧b<w.heap.size∧∃ cur,w.heap[b]?=some (.cells cur e (0,0)):=by
 rcases h.2 with ⟨rfl,-⟩ | ⟨g,cap,cur,rfl,h2,h3,h4⟩
 ·cases hb
 ·cases hb
  exact ⟨h2,(Array.getElem?_eq_some_iff.1 h3).1,cur,h3⟩
theorem own_setc {w:World} {base e size n g j:Nat} {v x:Value} {xs:List Value} (h:w.ownsRow base e size v n xs) (hg:v.ownBlock≠some g):(w.setCell ⟨g,j,none⟩ x).ownsRow base e size v n xs:=by
 refine ⟨h.1,?_⟩
 rcases h.2 with h0 | ⟨g',cap,cur,rfl,h2,h3,h4⟩
 ·exact Or.inl h0
 ·exact Or.inr ⟨g',cap,cur,rfl,h2,by rw [setCell_off _ _ _ _ _ (fun e=>hg (by rw [←e];rfl))];exact h3,h4⟩
theorem own_ne {w:World} {B e T size:Nat} {v:Value} {n:Nat} {xs:List Value} {b:Nat} {cs:Array Value} {fr:Nat×Nat} (hown:w.ownsRow B e size v n xs) (hb:w.heap[b]?=some (.cells cs T fr)) (hTe:T≠e):v.ownBlock≠some b:=by
 rcases hown.2 with ⟨rfl,_⟩ | ⟨g,cap,cur,rfl,_,hg,_⟩
 ·simp [Value.ownBlock]
 ·intro h
  simp only [Value.ownBlock,Option.some.injEq] at h
  subst h
  rw [hg] at hb
  simp only [Option.some.injEq,Obj.cells.injEq] at hb
  exact hTe hb.2.1.symm
theorem own_stays {w w':World} {base e size:Nat} {v:Value} {n:Nat} {xs:List Value} (h:w.ownsRow base e size v n xs) (hB:Below w.heap.size w w'):w'.ownsRow base e size v n xs:=by
 refine ⟨h.1,?_⟩
 rcases h.2 with h0 | ⟨g,cap,cur,rfl,hb,hg,h1⟩
 ·exact Or.inl h0
 ·exact Or.inr ⟨g,cap,cur,rfl,hb,(hB.block g (Array.getElem?_eq_some_iff.1 hg).1).trans hg,h1⟩
theorem news5 {w:World} {x:Nd} {n:Nat} (hn:w.heap.size=n):∀ j u,(cellsNd1 x)[j]?=some u→(w.alloc (.cells #[.int .i64 x.op,.int .i64 x.n,.string x.name,.int .i64 x.left,.int .i64 x.right] 146)).cell? ((⟨n,0,none⟩:Addr).add j)=some u:=by
 subst hn
 exact World.news_of_block (cs := #[.int .i64 x.op,.int .i64 x.n,.string x.name,.int .i64 x.left,.int .i64 x.right]) (t:=146) (fr:=(0,0)) (heap_alloc_new _ _)
theorem ones5 {x:Nd}:∀ u∈cellsNd1 x,u.oneCell'=true:=by intro u hu;simp [cellsNd1] at hu;rcases hu with rfl | rfl | rfl | rfl | rfl <;> rfl
theorem name_empty {s:ByteArray} (h:s.size=0):s=noT:=by
 obtain ⟨d⟩:=s
 have:d=#[]:=Array.eq_empty_of_size_eq_zero h
 subst this
 rfl
end Go.Proofs.YtinebmjpdkjooaaGreatDoor
namespace Go.Proofs.YtinebmjpdkjooaaGreatDoor
open Go.ChangeShapes Go.WideShapes Go.ChangeAt Go.RowKit
open Go.Sort (putRow Holds grow holds_putRow)
set_option maxRecDepth 20000
def nmsTo (l:List Nd) (k:Nat):List (List UInt8):=((l.take k).filter fun x=>decide (x.op=2)).map fun x=>x.name.data.toList
def refsP (l:List Nd):List (List UInt8):=if formErr l=0 then Lib.compact ((nmsTo l l.length).mergeSort fun x y=>decide (x≤y)) else []
theorem nms_hit {l:List Nd} {k:Nat} {x:Nd} (hk:k<l.length) (hx:l.getD k noN=x) (h:x.op=2):nmsTo l (k+1)=nmsTo l k ++ [x.name.data.toList]:=by
 unfold nmsTo
 rw [take_snoc l hk,hx,List.filter_append,List.map_append]
 simp [h]
theorem nms_miss {l:List Nd} {k:Nat} {x:Nd} (hk:k<l.length) (hx:l.getD k noN=x) (h:x.op≠2):nmsTo l (k+1)=nmsTo l k:=by
 unfold nmsTo
 rw [take_snoc l hk,hx,List.filter_append,List.map_append]
 simp [h]
theorem nms_len (l:List Nd) (k:Nat):(nmsTo l k).length≤k:=by
 unfold nmsTo
 rw [List.length_map]
 exact Nat.le_trans (List.length_filter_le _ _) (by rw [List.length_take];omega)
def StrsV (w:World) (A:Option Addr) (c:Nat) (L:List (List UInt8)):Prop:=L.length≤c∧c≤9223372036854775807∧(L=[]∨∃ b o,A=some ⟨b,o,none⟩∧b<w.heap.size∧∀ j,j<L.length→w.cell? ⟨b,o+j,none⟩=some (.string ⟨(L.getD j []).toArray⟩))
theorem StrsV.nil (w:World) (A:Option Addr) (c:Nat) (h:c≤9223372036854775807):StrsV w A c []:=⟨Nat.zero_le _,h,Or.inl rfl⟩
theorem StrsV.later {w w':World} {A:Option Addr} {c:Nat} {L:List (List UInt8)} (h:StrsV w A c L) (hB:Below w.heap.size w w'):StrsV w' A c L:=by
 obtain ⟨h1,h2,h3 | ⟨b,o,h3,h4,h5⟩⟩:=h
 ·exact ⟨h1,h2,Or.inl h3⟩
 ·exact ⟨h1,h2,Or.inr ⟨b,o,h3,Nat.lt_of_lt_of_le h4 hB.size,fun j hj=>(hB.cell (p:=⟨b,o+j,none⟩) h4).trans (h5 j hj)⟩⟩
theorem put_off {w:World} {g k:Nat} {d:Array (List UInt8)} (h:k≠g):(putRow encStr w g 0 d).heap[k]?=w.heap[k]?:=by
 unfold putRow Sort.mapBlock
 simp only [Array.getElem?_modify]
 rw [if_neg (fun e=>h e.symm)]
theorem sorted_below {w0 w:World} {g n:Nat} {d:Array (List UInt8)} {os:Array Obj} (h:Below w0.heap.size w0 w) (hg:w0.heap.size≤g):Below w0.heap.size w0 (grow (putRow encStr (Sort.ahead w n) g 0 d) os):=by
 refine ⟨h.os,h.tape,h.output,by have:=h.size;simp;omega,fun k hk=>?_⟩
 have hs:=h.size
 rw [Sort.heap_grow_old _ _ (by simp;omega),put_off (by omega)]
 exact h.block k hk
theorem packed_below {w0 w:World} {g n:Nat} {d:Array (List UInt8)} (h:Below w0.heap.size w0 w) (hg:w0.heap.size≤g):Below w0.heap.size w0 (putRow encStr (Sort.ahead w n) g 0 d):=by
 refine ⟨h.os,h.tape,h.output,by have:=h.size;simp;omega,fun k hk=>?_⟩
 rw [put_off (by omega)]
 exact h.block k hk
theorem compact_len (zs:List (List UInt8)):(Lib.compact zs).length≤zs.length:=by
 unfold Lib.compact Lib.compactUpTo
 rw [List.length_map]
 exact Nat.le_trans (List.length_filter_le _ _) (by simp)
theorem packed_strs {w:World} {g n cap:Nat} {zs:List (List UInt8)} (hH:Holds encStr w g 0 zs.toArray) (hc:zs.length≤cap) (hm:cap≤maxLen) (hg:g<w.heap.size) :
  StrsV (putRow encStr (Sort.ahead w n) g 0 (Lib.compact zs ++ List.replicate (zs.length-(Lib.compact zs).length) []).toArray) (some ⟨g,0,none⟩) cap (Lib.compact zs):=by
 have hl:=compact_len zs
 refine ⟨by omega,by unfold maxLen at hm;omega,Or.inr ⟨g,0,rfl,by simpa using hg,fun j hj=>?_⟩⟩
 have hs:(Lib.compact zs ++ List.replicate (zs.length-(Lib.compact zs).length) []).toArray.size=zs.toArray.size:=by simp;omega
 have h1:=(holds_putRow encStr (Sort.ahead w n) g 0 zs.toArray _ hH hs j (by rw [hs];simp;omega)).1
 rw [h1]
 have e:(Lib.compact zs ++ List.replicate (zs.length-(Lib.compact zs).length) ([]:List UInt8)).toArray[j]! = (Lib.compact zs).getD j []:=by
  rw [getElem!_pos _ j (by rw [hs];simp;omega)]
  simp [List.getD,List.getElem?_eq_getElem hj,List.getElem_append_left hj]
 rw [e]
end Go.Proofs.YtinebmjpdkjooaaGreatDoor
namespace Go.Proofs.YtinebmjpdkjooaaGreatDoor
open Go.ChangeShapes Go.WideShapes Go.ChangeAt Go.RowKit
set_option maxRecDepth 20000
set_option maxHeartbeats 2000000 in
theorem rparts_any (d:Dm) (b o cap:Nat) (i:Int) (w:World) (hn:d.n≤12) (hM:MemsAt w b o d.n d.mem):Calls Tryz.prog 84 #[.agg #[.string d.name,.int .i64 d.solve,.slice (some ⟨b,o,none⟩) d.n cap],.int .i64 i] w fun e w'=>(∃ A c,e=.returned (.slice A (partsOf d.mem d.n i).length c)∧IntsAt w' A c (partsOf d.mem d.n i))∧Below w.heap.size w w':=by
 obtain ⟨i0,hi0,hz0,hz1,hz2⟩:=info_parts Tryz.infoInt
 have hS:=ownDim_size w d (some ⟨b,o,none⟩) cap 43
 have hB0:=ownDim_below w d (some ⟨b,o,none⟩) cap 43
 have hA:=(ownDim_at w d (some ⟨b,o,none⟩) cap 43).2.2
 obtain ⟨W,hW⟩:∃ W,W=ownDim w d (some ⟨b,o,none⟩) cap 43:=⟨_,rfl⟩
 rw [←hW] at hS hB0 hA
 have HW:Hid (W=ownDim w d (some ⟨b,o,none⟩) cap 43):=hW
 have HB0:Hid (Below w.heap.size w W):=hB0
 have HM:Hid (MemsAt W b o d.n d.mem):=hM.later hB0
 have HA:Hid (W.cell? ⟨w.heap.size,2,none⟩=some (.slice (some ⟨b,o,none⟩) d.n cap)):=hA
 have hsz:w.heap.size<W.heap.size:=by omega
 have hn':(d.n:Int)≤12:=by omega
 obtain ⟨p,hp⟩:∃ p:Nat→Bool,p=partB d.mem i:=⟨_,rfl⟩
 have HP:Hid (p=partB d.mem i):=hp
 unfold partsOf
 rw [←hp]
 clear hM hW hB0 hA hS hp
 go_enter Tryz.func84,Tryz.ntmps84
 go_wp2_with fail
 go_loopg [5,6] d.n (fun g s5 s6 wr => ∃ (k:Nat),k≤d.n∧g=d.n-k∧s6=.int .i64 k∧wr.ownsRow W.heap.size 3 1 s5 (selTo p k).length (mapI (selTo p k))∧Below W.heap.size W wr)
 case atStart=>exact ⟨0,Nat.zero_le _,rfl,rfl,World.ownsRow_nil _ _ _ _,by rw [HW.out];exact Below.refl _ _⟩
 case round =>
  obtain ⟨k,hk,rfl,rfl,hown,hBw⟩:=hrel
  have HWr:Hid (Below W.heap.size W wr):=hBw
  have HO:Hid (wr.ownsRow W.heap.size 3 1 _ (selTo p k).length (mapI (selTo p k))):=hown
  have c2:wr.cell? ⟨w.heap.size,2,none⟩=some (.slice (some ⟨b,o,none⟩) d.n cap):=(hBw.cell (p:=⟨w.heap.size,2,none⟩) hsz).trans HA.out
  have hszr:=hBw.size
  by_cases hlt:k<d.n
  ·have hki:(k:Int)<(d.n:Int):=by omega
   obtain ⟨-,h1,-,-⟩:=(HM.out.later hBw).2 k hlt
   have hlen:=selTo_len p k
   have hpk:p k=((d.mem k).parent == i):=by rw [HP.out];rfl
   clear hBw
   cases hb:p k
   ·have HK:Hid (p k=false):=hb
    rw [hb] at hpk
    have hpe:((d.mem k).parent == i)=false:=hpk.symm
    clear hb hpk hown
    go_wp2_with fail
    go_roundg (d.n-(k+1))
    case measure=>omega
    case rel=>exact ⟨k+1,by omega,rfl,by go_num,by rw [selTo_miss HK.out];exact HO.out,HWr.out⟩
   ·have HK:Hid (p k=true):=hb
    rw [hb] at hpk
    have hpe:((d.mem k).parent == i)=true:=hpk.symm
    clear hb hpk
    go_wp2_with (at_builtin;refine wpList_append_own _ rfl _ _ 48 rfl W.heap.size 3 i0 (.int .i64 0) 1 8 Tryz.underlying48 hi0 hz0 hz1 hz2 rfl (by decide) _ _ _ rfl (hown.alloc _) ⟨wr.heap.size,0,none⟩ 1 1 [.int .i64 k] rfl rfl one_cell one_one (by unfold maxLen;omega) (by omega) (by simp;omega) ?_)
    intro v' w2 hown' hgrow _
    have HB2:Hid (Below W.heap.size W w2):=grown_own HWr.out hown hgrow
    have HO2:Hid (w2.ownsRow W.heap.size 3 1 v' (selTo p (k+1)).length (mapI (selTo p (k+1)))):=by
     show World.ownsRow ..
     rw [selTo_hit HK.out,mapI_snoc,List.length_append];exact hown'
    clear hown' hgrow hown c2
    go_wp2_with fail
    go_roundg (d.n-(k+1))
    case measure=>omega
    case rel=>exact ⟨k+1,by omega,rfl,by go_num,HO2.out,HB2.out⟩
  ·have hke:k=d.n:=by omega
   subst hke
   clear hBw hown
   go_wp2_with fail
   go_ret
   obtain ⟨A,c,h1,h2⟩:=ints_of HO.out
   exact ⟨⟨A,c,by rw [←h1];rfl,h2⟩,onB HB0.out HWr.out⟩
theorem sel_empty {p:Nat→Bool} {n:Nat}:((selTo p n).length=0)↔¬ 0≤findFrom p n 0:=by
 rcases findFrom_cases p n 0 with ⟨h1,h2⟩ | ⟨k,h1,_,h3,h4,_⟩
 ·rw [h1,selTo_none (fun j hj=>h2 j (Nat.zero_le _) (by omega))]
  simp
 ·rw [h1]
  constructor
  ·intro h
   have h5:∀ m,k<m→0<(selTo p m).length:=fun m hm=>by
    induction m with
    | zero=>omega
    | succ m ih =>
     rw [selTo,List.length_append]
     by_cases hk:k=m
     ·subst hk;rw [if_pos h4];simp
     ·have:=ih (by omega);omega
   have:=h5 n (by omega)
   omega
  ·intro h;omega
set_option maxHeartbeats 2000000 in
theorem rleaf_any (d:Dm) (b o cap i:Nat) (w:World) (hn:d.n≤12) (hi:i<d.n) (hM:MemsAt w b o d.n d.mem):Calls Tryz.prog 54 #[.agg #[.string d.name,.int .i64 d.solve,.slice (some ⟨b,o,none⟩) d.n cap],.int .i64 i] w fun e w'=>e=.returned (.bool (leafB d.mem d.n i))∧Below w.heap.size w w':=by
 have hS:=ownDim_size w d (some ⟨b,o,none⟩) cap 43
 have hB0:=ownDim_below w d (some ⟨b,o,none⟩) cap 43
 have hM0:=hM.later hB0
 have hpt:=rparts_any d b o cap i (ownDim w d (some ⟨b,o,none⟩) cap 43) hn hM0
 have HB0:Hid (Below w.heap.size w (ownDim w d (some ⟨b,o,none⟩) cap 43)):=hB0
 obtain ⟨-,-,-,h3⟩:=hM.2 i hi
 have hbw:=hM.1
 have hii:(i:Int)<(d.n:Int):=by omega
 have hn':(d.n:Int)≤12:=by omega
 clear hM hM0 hB0 hS
 by_cases hf:(d.mem i).formula.size=0
 ·have hf':(d.mem i).formula.toList.isEmpty=true:=by rw [empty_same];simpa using hf
  have HR:Hid (leafB d.mem d.n i=(((partsOf d.mem d.n i).length:Int) == 0)):=by
   show _=_
   rw [leafB_parts hf,Bool.eq_iff_iff]
   have:=sel_empty (p:=partB d.mem i) (n:=d.n)
   simp only [Bool.not_eq_true',decide_eq_false_iff_not,beq_iff_eq]
   rw [←this]
   show _↔((partsOf d.mem d.n i).length:Int)=0
   unfold partsOf
   omega
  clear hf
  generalize (partsOf d.mem d.n i).length=np at hpt HR
  go_enter Tryz.func54,Tryz.ntmps54
  go_wp2_with fail
  refine hpt.mono ?_
  rintro e w1 ⟨⟨A',c',rfl,hI⟩,hb1⟩
  go_wp2_with fail
  go_ret
  exact ⟨by rw [HR.out];rfl,onB HB0.out hb1⟩
 ·have hf':(d.mem i).formula.toList.isEmpty=false:=by rw [empty_same];simpa using hf
  have HR:Hid (leafB d.mem d.n i=false):=leafB_told hf
  clear hf hpt
  go_enter Tryz.func54,Tryz.ntmps54
  go_wp2_with fail
  go_ret
  exact ⟨by rw [HR.out];rfl,by go_grown⟩
end Go.Proofs.YtinebmjpdkjooaaGreatDoor
namespace Go.Proofs.YtinebmjpdkjooaaGreatDoor
open Go.ChangeShapes Go.WideShapes Go.ChangeAt Go.RowKit
theorem eachO {w:World} {o:Obj} {k:Nat} {x:Obj} (h:w.heap[k]?=some x):(w.alloc o).heap[k]?=some x:=by
 rw [heap_alloc_old _ _ (Array.getElem?_eq_some_iff.1 h).1]
 exact h
end Go.Proofs.YtinebmjpdkjooaaGreatDoor
