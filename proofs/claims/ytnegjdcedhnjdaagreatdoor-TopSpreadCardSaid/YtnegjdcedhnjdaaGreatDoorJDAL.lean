/-
  Cells in a row, in memory: a slice of them, a block of a call's own that holds them.
-/
import Derived.Lib.SliceRun
import Derived.Sort.Walk0
import Derived.Test.YtnegjdcedhnjdaaGreatDoorJDAJ
namespace Go.Proofs.YtnegjdcedhnjdaaGreatDoor
open Go.ChangeShapes Go.WideShapes Go.ChangeAt Go.RowKit
set_option maxRecDepth 20000
def noC:Int×Int:=(0,0)
def cellsC:List (Int×Int)→List Value
 | []=>[]
 | c :: r=>.int .i64 c.1 :: .int .i64 c.2 :: cellsC r
theorem cellsC_append (a b:List (Int×Int)):cellsC (a ++ b)=cellsC a ++ cellsC b:=by
 induction a with
 | nil=>rfl
 | cons x r ih=>simp [cellsC,ih]
theorem cellsC_one (L:List (Int×Int)):∀ v∈cellsC L,v.oneCell'=true:=by
 induction L with
 | nil=>intro v hv;cases hv
 | cons x r ih =>
  intro v hv
  simp only [cellsC,List.mem_cons] at hv
  rcases hv with rfl | rfl | hv
  ·rfl
  ·rfl
  ·exact ih v hv
theorem cellsC_at (L:List (Int×Int)):∀ k,k<L.length→(cellsC L)[k*2]?=some (.int .i64 (L.getD k noC).1)∧(cellsC L)[k*2+1]?=some (.int .i64 (L.getD k noC).2):=by
 induction L with
 | nil=>intro k hk;cases hk
 | cons x r ih =>
  intro k hk
  cases k with
  | zero=>simp [cellsC]
  | succ k =>
   rw [show (k+1)*2=k*2+1+1 by omega]
   simp only [cellsC,List.getElem?_cons_succ,List.getD_cons_succ]
   exact ih k (by simpa using hk)
def CelAt (w:World) (b o:Nat) (L:List (Int×Int)):Prop:=b<w.heap.size∧∀ k,k<L.length→w.cell? ⟨b,o+k*2,none⟩=some (.int .i64 (L.getD k noC).1)∧w.cell? ⟨b,o+k*2+1,none⟩=some (.int .i64 (L.getD k noC).2)
theorem CelAt.later {w w':World} {b o:Nat} {L:List (Int×Int)} (h:CelAt w b o L) (hB:Below w.heap.size w w'):CelAt w' b o L :=
 ⟨Nat.lt_of_lt_of_le h.1 hB.size,fun k hk=>⟨(hB.cell (p:=⟨b,o+k*2,none⟩) h.1).trans (h.2 k hk).1,(hB.cell (p:=⟨b,o+k*2+1,none⟩) h.1).trans (h.2 k hk).2⟩⟩
def CelV (w:World) (A:Option Addr) (cap:Nat) (L:List (Int×Int)):Prop:=L.length≤cap∧cap≤9223372036854775807∧(L=[]∨∃ b o,A=some ⟨b,o,none⟩∧CelAt w b o L)
theorem CelV.later {w w':World} {A:Option Addr} {cap:Nat} {L:List (Int×Int)} (h:CelV w A cap L) (hB:Below w.heap.size w w'):CelV w' A cap L:=by
 obtain ⟨h1,h0,h2 | ⟨b,o,h2,h3⟩⟩:=h
 ·exact ⟨h1,h0,Or.inl h2⟩
 ·exact ⟨h1,h0,Or.inr ⟨b,o,h2,h3.later hB⟩⟩
theorem CelV.nil (w:World) (A:Option Addr) (cap:Nat) (h:cap≤9223372036854775807):CelV w A cap []:=⟨Nat.zero_le _,h,Or.inl rfl⟩
def CelB (w:World) (g:Nat) (L:List (Int×Int)):Prop := ∃ cur:Array Value,w.heap[g]?=some (.cells cur 48 (0,0))∧∀ k,k<L.length→cur[k*2]?=some (.int .i64 (L.getD k noC).1)∧cur[k*2+1]?=some (.int .i64 (L.getD k noC).2)
section
variable {w w':World} {g:Nat} {L:List (Int×Int)}
theorem CelB.lt (h:CelB w g L):g<w.heap.size:=by
 obtain ⟨cur,h1,_⟩:=h
 exact (Array.getElem?_eq_some_iff.1 h1).1
theorem CelB.same (h:CelB w g L) (hb:w'.heap[g]?=w.heap[g]?):CelB w' g L:=by
 obtain ⟨cur,h1,h2⟩:=h
 exact ⟨cur,hb.trans h1,h2⟩
theorem CelB.later (h:CelB w g L) (hB:Below w.heap.size w w'):CelB w' g L:=h.same (hB.block g h.lt)
theorem CelB.at (h:CelB w g L) {k:Nat} (hk:k<L.length):w.cell? ⟨g,k*2,none⟩=some (.int .i64 (L.getD k noC).1)∧w.cell? ⟨g,k*2+1,none⟩=some (.int .i64 (L.getD k noC).2):=by
 obtain ⟨cur,h1,h2⟩:=h
 obtain ⟨h3,h4⟩:=h2 k hk
 exact ⟨by simp [World.cell?,h1,h3],by simp [World.cell?,h1,h4]⟩
theorem CelB.frozen (h:CelB w g L) (j:Nat):w.frozen? ⟨g,j,none⟩=false:=by
 obtain ⟨cur,h1,_⟩:=h
 exact Lib.frozen_of_heap h1 j
theorem CelB.celAt (h:CelB w g L):CelAt w g 0 L:=⟨h.lt,fun k hk=>by rw [Nat.zero_add];exact h.at hk⟩
theorem CelB.set (h:CelB w g L) {x:Nat} (hx:x<L.length) (a b:Int):CelB ((w.setCell ⟨g,x*2,none⟩ (.int .i64 a)).setCell ⟨g,x*2+1,none⟩ (.int .i64 b)) g (L.set x (a,b)):=by
 obtain ⟨cur,h1,h2⟩:=h
 refine ⟨(cur.setIfInBounds (x*2) (.int .i64 a)).setIfInBounds (x*2+1) (.int .i64 b),by simp [World.setCell,Array.getElem?_modify,h1],fun k hk=>?_⟩
 rw [List.length_set] at hk
 obtain ⟨h3,h4⟩:=h2 k hk
 obtain ⟨h5,h6⟩:=h2 x hx
 have z0:=(Array.getElem?_eq_some_iff.1 h5).1
 have z1:=(Array.getElem?_eq_some_iff.1 h6).1
 by_cases e:k=x
 ·subst e
  constructor
  ·rw [Array.getElem?_setIfInBounds_ne (by omega),Array.getElem?_setIfInBounds_self_of_lt z0]
   simp [List.getD,hk]
  ·rw [Array.getElem?_setIfInBounds_self_of_lt (by simpa using z1)]
   simp [List.getD,hk]
 ·have e1:(L.set x (a,b)).getD k noC=L.getD k noC:=by simp [List.getD,List.getElem?_set_ne (fun h=>e h.symm)]
  rw [e1]
  constructor
  ·rw [Array.getElem?_setIfInBounds_ne (by omega),Array.getElem?_setIfInBounds_ne (by omega)];exact h3
  ·rw [Array.getElem?_setIfInBounds_ne (by omega),Array.getElem?_setIfInBounds_ne (by omega)];exact h4
theorem celB_own {base:Nat} {v:Value} (h:w.ownsRow base 48 2 v L.length (cellsC L)) (hl:0<L.length):∃ g c,v=.slice (some ⟨g,0,none⟩) L.length c∧base≤g∧L.length≤c∧c≤9223372036854775807∧CelB w g L:=by
 rcases h.2 with ⟨_,h0⟩ | ⟨g,cap,cur,rfl,hb,hg,h4,h5,h6,h7⟩
 ·omega
 ·refine ⟨g,cap,rfl,hb,h4,by unfold maxLen at h5;omega,cur,hg,fun k hk=>?_⟩
  obtain ⟨x0,x1⟩:=cellsC_at L k hk
  rw [←h7,List.getElem?_take,if_pos (by omega),Array.getElem?_toList] at x0 x1
  exact ⟨x0,x1⟩
end
theorem Tryz.infoCe:(Tryz.prog.info? 48).map (fun i=>(i.zero,i.size,i.bytes))=some (some (.agg #[.int .i64 0,.int .i64 0]),2,16):=by kernel_rfl
def goodB (L:List (Int×Int)) (k:Nat):Bool := !(good (L.getD k noC).1 (L.getD k noC).2)
set_option maxHeartbeats 2000000 in
theorem iclone_pl (A:Option Addr) (c:Nat) (L:List Int) (w:World) (hL:L.length≤1048576) (hP:PlAt w A c L):Calls Tryz.prog 132 #[.slice A L.length c] w fun e w'=>(∃ v,e=.returned v∧w'.ownsRow w.heap.size 3 1 v L.length (mapI L))∧Below w.heap.size w w':=by
 have hq:∀ (w:World) (a:Option Addr) (n c n' c':Nat),(binOp .eql 26 (.slice a n c) (.slice none n' c')).run Tryz.prog w=.ok (.bool a.isNone) w:=fun w a n c n' c'=>Lib.run_eql_slice_nil w _ _ a n c n' c' Tryz.underlying26
 cases A with
 | none =>
  obtain ⟨-,h0 | ⟨b,o,h0,-⟩⟩:=hP
  ·subst h0
   simp only [List.length_nil]
   go_enter Tryz.func132,Tryz.ntmps132
   go_wp2_with fail
   go_ret
   exact ⟨⟨_,rfl,World.ownsRow_nil _ _ _ _⟩,Below.refl _ _⟩
  ·cases h0
 | some a =>
  obtain ⟨i0,hi0,hz0,hz1,hz2⟩:=info_parts Tryz.infoInt
  have HC:Hid (∀ j u,(mapI L)[j]?=some u→w.cell? (a.add j)=some u):=by
   intro j u hj
   obtain ⟨-,h0 | ⟨b,o,h0,-,hcell⟩⟩:=hP
   ·subst h0;simp [mapI] at hj
   ·cases h0
    have hlt:j<L.length:=by have:=(List.getElem?_eq_some_iff.1 hj).1;simpa [mapI] using this
    rw [plain_add,hcell j hlt]
    simp only [mapI,List.getElem?_map,List.getElem?_eq_getElem hlt,Option.map_some,Option.some.injEq] at hj
    rw [←hj,List.getD_eq_getElem?_getD,List.getElem?_eq_getElem hlt]
    rfl
  have hl:(mapI L).length=L.length*1:=by simp [mapI]
  have h1:∀ u∈mapI L,u.oneCell'=true:=by intro u hu;simp [mapI] at hu;obtain ⟨x,-,rfl⟩:=hu;rfl
  clear hP
  go_enter Tryz.func132,Tryz.ntmps132
  go_wp2_with (at_builtin;refine wpList_append_own _ rfl _ _ 26 rfl w.heap.size 3 i0 (.int .i64 0) 1 8 Tryz.underlying26 hi0 hz0 hz1 hz2 rfl (by decide) _ _ _ rfl (World.ownsRow_made w #[] 0 (Nat.le_refl _) (Nat.zero_le _) (by simp)) a L.length c (mapI L) rfl ?qc1 ?qc2 ?qc3 ?qc4 ?qc5 ?qc6 ?_)
  case qc1=>exact hl
  case qc2=>exact fun j u hj=>Lib.cell?_alloc_some _ (HC.out j u hj)
  case qc3=>exact h1
  case qc4=>simp only [maxLen];omega
  case qc5=>omega
  case qc6=>simp
  intro v' w1 hown hgrow hnil
  have HO:Hid (w1.ownsRow w.heap.size 3 1 v' L.length (mapI L)):=hown
  have HB:Hid (Below w.heap.size w w1):=((Below.refl _ w).alloc (Nat.le_refl _) _).grown hgrow (by simp) (by intro k hk;simp [Value.ownBlock] at hk;omega)
  clear hown hgrow hnil
  go_wp2_with fail
  go_ret
  exact ⟨⟨_,rfl,HO.out⟩,HB.out⟩
def IntT (w:World) (A:Option Addr) (c:Nat) (L:List Int):Prop:=L.length≤c∧c≤9223372036854775807∧(L=[]∨∃ b cs fr,A=some ⟨b,0,none⟩∧w.heap[b]?=some (.cells cs 3 fr)∧∀ j,j<L.length→w.cell? ⟨b,j,none⟩=some (.int .i64 (L.getD j 0)))
theorem IntT.at {w:World} {A:Option Addr} {c:Nat} {L:List Int} (h:IntT w A c L):IntsAt w A c L:=by
 obtain ⟨h1,-,h2 | ⟨b,cs,fr,h2,h3,h4⟩⟩:=h
 ·exact ⟨h1,Or.inl h2⟩
 ·exact ⟨h1,Or.inr ⟨b,h2,(Array.getElem?_eq_some_iff.1 h3).1,h4⟩⟩
theorem IntT.nil (w:World) (A:Option Addr) (c:Nat) (h:c≤9223372036854775807):IntT w A c []:=⟨Nat.zero_le _,h,Or.inl rfl⟩
theorem IntT.keep {w w':World} {A:Option Addr} {c:Nat} {L:List Int} (h:IntT w A c L) (hB:∀ (b:Nat) (cs:Array Value) (fr:Nat×Nat),w.heap[b]?=some (Obj.cells cs 3 fr)→w'.heap[b]?=w.heap[b]?):IntT w' A c L:=by
 obtain ⟨h1,h0,h2 | ⟨b,cs,fr,h2,h3,h4⟩⟩:=h
 ·exact ⟨h1,h0,Or.inl h2⟩
 ·have hb:=hB b cs fr h3
  exact ⟨h1,h0,Or.inr ⟨b,cs,fr,h2,hb.trans h3,fun j hj=>(World.cell?_of_block (a:=⟨b,j,none⟩) hb).trans (h4 j hj)⟩⟩
theorem IntT.later {w w':World} {A:Option Addr} {c:Nat} {L:List Int} (h:IntT w A c L) (hB:Below w.heap.size w w'):IntT w' A c L :=
 h.keep fun b _ _ hb=>hB.block b (Array.getElem?_eq_some_iff.1 hb).1
theorem intT_own {w:World} {base:Nat} {v:Value} {L:List Int} (h:w.ownsRow base 3 1 v L.length (mapI L)):∃ A c,v=.slice A L.length c∧IntT w A c L:=by
 rcases h.2 with ⟨rfl,h0⟩ | ⟨g,cap,cur,rfl,hb,hg,hc,hm,_,_⟩
 ·have:L=[]:=List.eq_nil_of_length_eq_zero h0
  subst this
  exact ⟨none,0,rfl,IntT.nil _ _ _ (by omega)⟩
 ·refine ⟨_,cap,rfl,hc,by unfold maxLen at hm;omega,Or.inr ⟨g,cur,_,rfl,hg,fun j hj=>?_⟩⟩
  have hx:=h.cells (g:=g) rfl j (.int .i64 (L.getD j 0)) (by simp [mapI,List.getD,List.getElem?_eq_getElem hj])
  have hadd:(⟨g,0,none⟩:Addr).add j=⟨g,j,none⟩:=by unfold Addr.add;split <;> simp_all
  rw [hadd] at hx
  exact hx
theorem row_ne_int:(3:Nat)≠26:=by decide
theorem IntT.row {w w':World} {base:Nat} {v:Value} {n:Nat} {zs:List Value} {A:Option Addr} {c:Nat} {L:List Int} (h:IntT w A c L) (hown:w.ownsRow base 26 1 v n zs) (hG:w.grownBy w' v.ownBlock):IntT w' A c L:=by
 refine h.keep fun b cs fr hb=>hG.block b (Array.getElem?_eq_some_iff.1 hb).1 fun e=>?_
 rcases hown.2 with ⟨rfl,-⟩ | ⟨g,cap,cur,rfl,-,hg,-⟩
 ·cases e
 ·simp only [Value.ownBlock,Option.some.injEq] at e
  rw [e,hg] at hb
  simp only [Option.some.injEq,Obj.cells.injEq] at hb
  exact row_ne_int hb.2.1.symm
structure RL where
 p:List Int
 A:Option Addr
 c:Nat
def noR:RL:=⟨[],none,0⟩
def lR (xs:List RL):List (List Int):=xs.map RL.p
theorem lR_len (xs:List RL):(lR xs).length=xs.length:=by simp [lR]
theorem lR_append (a b:List RL):lR (a ++ b)=lR a ++ lR b:=by simp [lR]
def cellsR (xs:List RL):List Value:=xs.map fun x=>.slice x.A x.p.length x.c
theorem cellsR_append (a b:List RL):cellsR (a ++ b)=cellsR a ++ cellsR b:=by simp [cellsR]
theorem rl_mem {xs:List RL} {k:Nat} (h:k<xs.length):xs.getD k noR∈xs:=by
 rw [List.getD_eq_getElem?_getD,List.getElem?_eq_getElem h]
 exact List.getElem_mem h
theorem lR_at (xs:List RL) (k:Nat):(lR xs).getD k []=(xs.getD k noR).p:=by
 rw [List.getD_eq_getElem?_getD,List.getD_eq_getElem?_getD,lR,List.getElem?_map]
 cases xs[k]? <;> rfl
theorem cellsR_at {xs:List RL} {k:Nat} (h:k<xs.length):(cellsR xs)[k]?=some (.slice (xs.getD k noR).A (xs.getD k noR).p.length (xs.getD k noR).c):=by
 simp [cellsR,List.getD,h]
def RowsV (w:World) (A:Option Addr) (cap:Nat) (xs:List RL):Prop:=xs.length≤cap∧(xs=[]∨∃ b,A=some ⟨b,0,none⟩∧b<w.heap.size∧∀ k,k<xs.length→w.cell? ⟨b,k,none⟩=some (.slice (xs.getD k noR).A (xs.getD k noR).p.length (xs.getD k noR).c))∧∀ x∈xs,IntT w x.A x.c x.p
theorem RowsV.later {w w':World} {A:Option Addr} {cap:Nat} {xs:List RL} (h:RowsV w A cap xs) (hB:Below w.heap.size w w'):RowsV w' A cap xs:=by
 obtain ⟨h1,h2,h3⟩:=h
 refine ⟨h1,?_,fun x hx=>(h3 x hx).later hB⟩
 rcases h2 with h2 | ⟨b,h2,h4,h5⟩
 ·exact Or.inl h2
 ·exact Or.inr ⟨b,h2,Nat.lt_of_lt_of_le h4 hB.size,fun k hk=>(hB.cell (p:=⟨b,k,none⟩) h4).trans (h5 k hk)⟩
theorem RowsV.nil (w:World) (A:Option Addr) (cap:Nat):RowsV w A cap []:=⟨Nat.zero_le _,Or.inl rfl,fun x hx=>by cases hx⟩
theorem rows_own {w:World} {base:Nat} {v:Value} {xs:List RL} (h:w.ownsRow base 26 1 v xs.length (cellsR xs)) (hp:∀ x∈xs,IntT w x.A x.c x.p):∃ A c,v=.slice A xs.length c∧RowsV w A c xs:=by
 rcases h.2 with ⟨rfl,h0⟩ | ⟨g,cap,cur,rfl,hb,hg,hc,_,_,_⟩
 ·have:xs=[]:=List.eq_nil_of_length_eq_zero h0
  subst this
  exact ⟨none,0,rfl,RowsV.nil _ _ _⟩
 ·refine ⟨_,cap,rfl,hc,Or.inr ⟨g,rfl,(Array.getElem?_eq_some_iff.1 hg).1,fun k hk=>?_⟩,hp⟩
  have y:=h.cells (g:=g) rfl k _ (cellsR_at hk)
  have hadd:(⟨g,0,none⟩:Addr).add k=⟨g,k,none⟩:=by unfold Addr.add;split <;> simp_all
  rw [hadd] at y
  exact y
theorem Tryz.infoRow:(Tryz.prog.info? 26).map (fun i=>(i.zero,i.size,i.bytes))=some (some (.slice none 0 0),1,24):=by kernel_rfl
theorem iclone_any (A:Option Addr) (c:Nat) (L:List Int) (w:World) (hL:L.length≤12) (hP:IntT w A c L):Calls Tryz.prog 132 #[.slice A L.length c] w fun e w'=>(∃ v,e=.returned v∧w'.ownsRow w.heap.size 3 1 v L.length (mapI L))∧Below w.heap.size w w' :=
 iclone_pl A c L w (by omega) (pl_ints hP.at)
theorem pair_set {w:World} {q:Nat} {x y a b:Value} {T:Nat} (h:w.heap[q]?=some (.cells #[x,y] T)):((w.setCell ⟨q,0,none⟩ a).setCell ⟨q,1,none⟩ b).heap[q]?=some (.cells #[a,b] T):=by
 simp [World.setCell,Array.getElem?_modify,h]
theorem pair_grown {w w':World} {q:Nat} {a b:Value} (h:w.grownBy w' (some q)):w.grownBy ((w'.setCell ⟨q,0,none⟩ a).setCell ⟨q,1,none⟩ b) (some q) :=
 ⟨h.os,h.tape,h.output,by simpa [World.setCell] using h.size,fun i hi hr=>(Below.heap_setCell _ ⟨q,1,none⟩ b i fun e=>hr (by rw [e])).trans ((Below.heap_setCell w' ⟨q,0,none⟩ a i fun e=>hr (by rw [e])).trans (h.block i hi hr))⟩
theorem grown_then {w w1 w2:World} {r:Option Nat} (h:w.grownBy w1 r) (k:Below w1.heap.size w1 w2):w.grownBy w2 r :=
 ⟨k.os.trans h.os,k.tape.trans h.tape,k.output.trans h.output,Nat.le_trans h.size k.size,fun i hi hr=>(k.block i (Nat.lt_of_lt_of_le hi h.size)).trans (h.block i hi hr)⟩
theorem pair_at {w:World} {q:Nat} {x y:Value} {T:Nat} (h:w.heap[q]?=some (.cells #[x,y] T)):w.cell? ⟨q,0,none⟩=some x∧w.cell? ⟨q,1,none⟩=some y∧w.frozen? ⟨q,0,none⟩=false∧w.frozen? ⟨q,1,none⟩=false :=
 ⟨by rw [Lib.cell_of_heap h];rfl,by rw [Lib.cell_of_heap h];rfl,Lib.frozen_of_heap h 0,Lib.frozen_of_heap h 1⟩
theorem take_part {M:Nat→Mem} {at':Int→Int×Int} {P:List Int} {k:Nat} (h:k<P.length):(P.take (k+1)).foldl (partStep M at') (0,0)=partStep M at' ((P.take k).foldl (partStep M at') (0,0)) (P.getD k 0):=by
 rw [List.take_succ_eq_append_getElem h,List.foldl_append,List.getD_eq_getElem?_getD,List.getElem?_eq_getElem h]
 rfl
def BoxN (w:World) (q:Nat) (v:Value):Prop:=q<w.heap.size∧w.cell? ⟨q,0,none⟩=some v
theorem BoxN.same {w w':World} {q:Nat} {v:Value} (h:BoxN w q v) (hz:w.heap.size≤w'.heap.size) (hb:w'.heap[q]?=w.heap[q]?):BoxN w' q v :=
 ⟨Nat.lt_of_lt_of_le h.1 hz,(World.cell?_of_block (a:=⟨q,0,none⟩) hb).trans h.2⟩
theorem BoxN.later {w w':World} {q:Nat} {v:Value} (h:BoxN w q v) (hB:Below w.heap.size w w'):BoxN w' q v:=h.same hB.size (hB.block q h.1)
theorem cel_grown {w w':World} {g i j:Nat} {a b:Value} (h:w.grownBy w' (some g)):w.grownBy ((w'.setCell ⟨g,i,none⟩ a).setCell ⟨g,j,none⟩ b) (some g) :=
 ⟨h.os,h.tape,h.output,by simpa [World.setCell] using h.size,fun k hk hr=>(Below.heap_setCell _ ⟨g,j,none⟩ b k fun e=>hr (by rw [e])).trans ((Below.heap_setCell w' ⟨g,i,none⟩ a k fun e=>hr (by rw [e])).trans (h.block k hk hr))⟩
theorem boxn_other {w w':World} {q g:Nat} {v:Value} (h:BoxN w q v) (hne:q≠g) (hG:w.grownBy w' (some g)):BoxN w' q v:=h.same hG.size (hG.block q h.1 fun e=>hne (by simpa using e))
def RInv (N:List (List Int)) (i:Nat) (L:List Int) (k:Nat):Prop:=L.Nodup∧(∀ x∈L,Rch N i x)∧(∀ x∈N.getD i [],x∈L)∧∀ j,j<k→∀ y∈rowN N (L.getD j 0),y∈L
theorem rinv_start {N:List (List Int)} {i:Nat} (h:(N.getD i []).Nodup):RInv N i (N.getD i []) 0 :=
 ⟨h,fun x hx=>.one (by unfold rowN;simpa using hx),fun _ h=>h,fun j hj=>absurd hj (Nat.not_lt_zero _)⟩
theorem rinv_in {N:List (List Int)} {i:Nat} {L:List Int} {k:Nat} (h:RInv N i L k) (hN:Inn N) (hi:i<N.length):∀ x∈L,0≤x∧x<(N.length:Int):=fun x hx=>(h.2.1 x hx).inn hN (by omega) (by omega)
theorem rinv_len {N:List (List Int)} {i:Nat} {L:List Int} {k:Nat} (h:RInv N i L k) (hN:Inn N) (hi:i<N.length):L.length≤N.length:=few _ _ h.1 (rinv_in h hN hi)
theorem rinv_end {N:List (List Int)} {i:Nat} {L:List Int} (h:RInv N i L L.length):∀ x,x∈L↔Rch N i x:=fun x=>by
 refine ⟨h.2.1 x,fun hr=>hr.closed (S:=fun y=>y∈L) (fun y hy=>h.2.2.1 y (by unfold rowN at hy;simpa using hy)) fun y hy z hz=>?_⟩
 obtain ⟨j,hj,rfl⟩:=List.getElem_of_mem hy
 refine h.2.2.2 j hj z ?_
 rw [List.getD_eq_getElem?_getD,List.getElem?_eq_getElem hj]
 exact hz
theorem getD_app {L T:List Int} {j:Nat} (h:j<L.length):(L ++ T).getD j 0=L.getD j 0:=by
 rw [List.getD_eq_getElem?_getD,List.getD_eq_getElem?_getD,List.getElem?_append_left h]
theorem rinv_put {N:List (List Int)} {i:Nat} {L:List Int} {k:Nat} {x:Int} (h:RInv N i L k) (hk:k≤L.length) (hx:x∉L) (hr:Rch N i x):RInv N i (L ++ [x]) k:=by
 refine ⟨?_,fun y hy=>?_,fun y hy=>List.mem_append_left _ (h.2.2.1 y hy),fun j hj y hy=>?_⟩
 ·rw [List.nodup_append]
  refine ⟨h.1,by simp,fun a ha b hb e=>?_⟩
  rw [List.mem_singleton.1 hb] at e
  exact hx (e ▸ ha)
 ·rcases List.mem_append.1 hy with hy | hy
  ·exact h.2.1 y hy
  ·rw [List.mem_singleton.1 hy];exact hr
 ·rw [getD_app (by omega)] at hy
  exact List.mem_append_left _ (h.2.2.2 j hj y hy)
theorem rinv_next {N:List (List Int)} {i:Nat} {L:List Int} {k:Nat} (h:RInv N i L k) (hy:∀ y∈rowN N (L.getD k 0),y∈L):RInv N i L (k+1) :=
 ⟨h.1,h.2.1,h.2.2.1,fun j hj y hyj=>by
  by_cases e:j=k
  ·rw [e] at hyj;exact hy y hyj
  ·exact h.2.2.2 j (by omega) y hyj⟩
theorem mem_at {L:List Int} {j:Nat} (h:j<L.length):L.getD j 0∈L:=by
 rw [List.getD_eq_getElem?_getD,List.getElem?_eq_getElem h]
 exact List.getElem_mem h
set_option maxHeartbeats 4000000 in
theorem rureach_any (A:Option Addr) (cap:Nat) (xs:List RL) (i:Nat) (w:World) (hn:xs.length≤12) (hi:i<xs.length) (hN:Inn (lR xs)) (hnd:∀ x∈xs,x.p.Nodup∧x.p.length≤12) (hR:RowsV w A cap xs) :
  Calls Tryz.prog 90 #[.slice A xs.length cap,.int .i64 i] w fun e w'=>(∃ A' c' L,e=.returned (.slice A' L.length c')∧IntsAt w' A' c' L∧L.length≤12∧∀ x,x∈L↔Rch (lR xs) i x)∧Below w.heap.size w w':=by
 obtain ⟨i0,hi0,hz0,hz1,hz2⟩:=info_parts Tryz.infoInt
 have HR:Hid (RowsV w A cap xs):=hR
 have HNd:Hid (∀ x∈xs,x.p.Nodup∧x.p.length≤12):=hnd
 have HIn:Hid (Inn (lR xs)):=hN
 have HLen:Hid ((lR xs).length=xs.length):=lR_len xs
 obtain ⟨hcap,h0 | ⟨b,rfl,hbw,hcell⟩,hrows⟩:=hR
 ·rw [h0] at hi;simp at hi
 have hci:=hcell i hi
 have hri:=hrows _ (rl_mem hi)
 have hni:=hnd _ (rl_mem hi)
 have HC:Hid (∀ k,k<xs.length→w.cell? ⟨b,k,none⟩=some (.slice (xs.getD k noR).A (xs.getD k noR).p.length (xs.getD k noR).c)):=hcell
 have HRw:Hid (∀ x∈xs,IntT w x.A x.c x.p):=hrows
 have HSt:Hid (RInv (lR xs) i (xs.getD i noR).p 0):=by
  have h:=rinv_start (N:=lR xs) (i:=i) (by rw [lR_at];exact hni.1)
  rw [lR_at] at h
  exact h
 have hcl:=iclone_any (xs.getD i noR).A (xs.getD i noR).c (xs.getD i noR).p w hni.2 hri
 obtain ⟨n,hnn⟩:∃ n,xs.length=n:=⟨_,rfl⟩
 have HX:Hid (xs.length=n):=hnn
 rw [hnn] at hn hi hcap ⊢
 have hii:(i:Int)<(n:Int):=by omega
 have hnI:(n:Int)≤12:=by omega
 obtain ⟨pi,hpi⟩:∃ pi,(xs.getD i noR).p=pi:=⟨_,rfl⟩
 rw [hpi] at hci hcl HSt
 generalize (xs.getD i noR).A=Ai at hci hcl
 generalize (xs.getD i noR).c=ci at hci hcl
 clear hcell hrows hnd hN hri hni hpi hnn
 go_enter Tryz.func90,Tryz.ntmps90
 go_wp2_with fail
 refine hcl.mono ?_
 rintro e w1 ⟨⟨v1,rfl,hO1⟩,hb1⟩
 have HO1:Hid (w1.ownsRow w.heap.size 3 1 v1 pi.length (mapI pi)):=hO1
 have HB1:Hid (Below w.heap.size w w1):=hb1
 clear hO1 hb1 hcl hci
 go_wp2_with fail
 go_loopg [5,6] n (fun g s5 s6 wr => ∃ (k:Nat) (L:List Int),k≤L.length∧g=n-k∧s6=.int .i64 k∧Hid (RInv (lR xs) i L k)∧wr.ownsRow w.heap.size 3 1 s5 L.length (mapI L)∧Below w.heap.size w wr)
 case atStart=>exact ⟨0,pi,Nat.zero_le _,rfl,rfl,HSt,HO1.out,HB1.out⟩
 case round =>
  obtain ⟨k,L,hk,rfl,rfl,HI,hown,hBw⟩:=hrel
  have HBw:Hid (Below w.heap.size w wr):=hBw
  have HO:Hid (wr.ownsRow w.heap.size 3 1 u5 L.length (mapI L)):=hown
  have hLn:L.length≤n:=by rw [←HX.out,←HLen.out];exact rinv_len HI.out HIn.out (by rw [HLen.out,HX.out];exact hi)
  obtain ⟨AL,cL,rfl,hIL⟩:=intT_own hown
  obtain ⟨m,hm⟩:∃ m,L.length=m:=⟨_,rfl⟩
  have HM:Hid (L.length=m):=hm
  have hmI:(m:Int)≤12:=by omega
  rw [hm] at hk hLn
  rw [hm]
  by_cases hlt:k<m
  ·have hki:(k:Int)<(m:Int):=by omega
   obtain ⟨hcL,-,hL0 | ⟨bl,cs,fr,rfl,hbl,hcl⟩⟩:=hIL
   ·rw [hL0] at hm;simp at hm;omega
   have cx:=hcl k (by omega)
   have hx:=rinv_in HI.out HIn.out (by rw [HLen.out,HX.out];exact hi) _ (mem_at (L:=L) (j:=k) (by omega))
   rw [HLen.out,HX.out] at hx
   obtain ⟨y,hy⟩:∃ y:Nat,L.getD k 0=(y:Int):=⟨(L.getD k 0).toNat,by omega⟩
   have HY:Hid (L.getD k 0=(y:Int)):=hy
   rw [hy] at cx hx
   have hyn:y<n:=by omega
   have hyi:(y:Int)<(n:Int):=by omega
   have cy:=(hBw.cell (p:=⟨b,y,none⟩) hbw).trans (HC.out y (by rw [HX.out];exact hyn))
   have HRy:Hid (IntT w (xs.getD y noR).A (xs.getD y noR).c (xs.getD y noR).p):=HRw.out _ (rl_mem (by rw [HX.out];exact hyn))
   have hry:=(HNd.out _ (rl_mem (k:=y) (by rw [HX.out];exact hyn))).2
   have HRow:Hid (rowN (lR xs) (L.getD k 0)=(xs.getD y noR).p):=by
    show _=_
    rw [hy]
    unfold rowN
    rw [Int.toNat_natCast,lR_at]
   have HRk:Hid (Rch (lR xs) i (L.getD k 0)):=HI.out.2.1 _ (mem_at (by omega))
   obtain ⟨R,hRe⟩:∃ R,(xs.getD y noR).p=R:=⟨_,rfl⟩
   rw [hRe] at cy HRy hry HRow
   generalize (xs.getD y noR).A=Ay at cy HRy
   generalize (xs.getD y noR).c=cy' at cy HRy
   obtain ⟨r,hr⟩:∃ r,R.length=r:=⟨_,rfl⟩
   have HRl:Hid (R.length=r):=hr
   rw [hr] at cy hry
   have hrI:(r:Int)≤12:=by omega
   have hblt:bl<wr.heap.size:=(Array.getElem?_eq_some_iff.1 hbl).1
   clear hcl hx hown hBw hbl hy hRe hr hm
   go_wp2_with fail
   go_loopg [5,28] r (fun gg s5 s28 wi => ∃ (j:Nat) (K:List Int),j≤r∧gg=r-j∧s28=.int .i64 j∧Hid (RInv (lR xs) i K k∧(∃ T,K=L ++ T)∧∀ t,t<j→R.getD t 0∈K)∧wi.ownsRow w.heap.size 3 1 s5 K.length (mapI K)∧Below w.heap.size w wi)
   case atStart=>exact ⟨0,L,Nat.zero_le _,rfl,rfl,(⟨HI.out,⟨[],by simp⟩,fun t ht=>absurd ht (Nat.not_lt_zero _)⟩:_∧_∧_),by have h:=HO.out;rw [HM.out] at h;rw [HM.out];exact h,HBw.out⟩
   case round =>
    obtain ⟨wj,rfl⟩:∃ wj:World,wj=wr:=⟨_,rfl⟩
    obtain ⟨j,K,hj,rfl,rfl,HK,hown,hBj⟩:=hrel
    have HBj:Hid (Below w.heap.size w wj):=hBj
    have HOj:Hid (wj.ownsRow w.heap.size 3 1 u5 K.length (mapI K)):=hown
    have hKn:K.length≤n:=by rw [←HX.out,←HLen.out];exact rinv_len HK.out.1 HIn.out (by rw [HLen.out,HX.out];exact hi)
    obtain ⟨AK,cK,rfl,hIK⟩:=intT_own hown
    by_cases hjl:j<r
    ·have hji:(j:Int)<(r:Int):=by omega
     obtain ⟨hcR,-,hR0 | ⟨br,csr,frr,rfl,hbr,hcr⟩⟩:=HRy.out.later hBj
     ·have:=HRl.out;rw [hR0] at this;simp at this;omega
     have cz:=hcr j (by rw [HRl.out];exact hjl)
     have hbrl:br<wj.heap.size:=(Array.getElem?_eq_some_iff.1 hbr).1
     rw [HRl.out] at hcR
     have hcRi:(r:Int)≤(cy':Int):=by omega
     obtain ⟨x,hx⟩:∃ x,R.getD j 0=x:=⟨_,rfl⟩
     have HXx:Hid (R.getD j 0=x):=hx
     rw [hx] at cz
     have hct:=contains_ints AK cK K x wj (by omega) hIK.at
     obtain ⟨mk,hmk⟩:∃ mk,K.length=mk:=⟨_,rfl⟩
     have HMk:Hid (K.length=mk):=hmk
     have HKn:Hid (mk≤n):=by show _≤_;omega
     rw [hmk] at hct hKn
     rw [hmk]
     clear hcr hbr hown hBj hIK hx hmk
     by_cases hin:x∈K
     ·have hb:inB K x=true:=by unfold inB;exact decide_eq_true hin
      rw [hb] at hct
      have HK2:Hid (RInv (lR xs) i K k∧(∃ T,K=L ++ T)∧∀ t,t<j+1→R.getD t 0∈K):=⟨HK.out.1,HK.out.2.1,fun t ht=>by
       by_cases e:t=j
       ·rw [e,HXx.out];exact hin
       ·exact HK.out.2.2 t (by omega)⟩
      clear hb hin
      go_wp2_with fail
      refine hct.mono ?_
      rintro e w2 ⟨rfl,hb2⟩
      have HB2:Hid (Below w.heap.size w w2):=onB HBj.out hb2
      have HO2:Hid (w2.ownsRow w.heap.size 3 1 (.slice AK mk cK) K.length (mapI K)):=by have h:=own_later HOj.out hb2;rw [HMk.out] at h;show World.ownsRow ..;rw [HMk.out];exact h
      clear hb2 hct
      go_wp2_with fail
      go_roundg (r-(j+1))
      case measure=>omega
      case rel=>exact ⟨j+1,K,by omega,rfl,by go_num,HK2,HO2.out,HB2.out⟩
     ·have hb:inB K x=false:=by unfold inB;exact decide_eq_false hin
      rw [hb] at hct
      have HK2:Hid (RInv (lR xs) i (K ++ [x]) k∧(∃ T,K ++ [x]=L ++ T)∧∀ t,t<j+1→R.getD t 0∈K ++ [x]):=by
       obtain ⟨hI,⟨T,hT⟩,hA⟩:=HK.out
       refine ⟨rinv_put hI ?_ hin ?_,⟨T ++ [x],by rw [hT,List.append_assoc]⟩,fun t ht=>?_⟩
       ·rw [hT,List.length_append,HM.out];omega
       ·refine HRk.out.snoc ?_
        rw [HRow.out,←HXx.out]
        exact mem_at (by rw [HRl.out];exact hjl)
       ·by_cases e:t=j
        ·rw [e,HXx.out];simp
        ·exact List.mem_append_left _ (hA t (by omega))
      clear hb hin
      go_wp2_with fail
      refine hct.mono ?_
      rintro e w2 ⟨rfl,hb2⟩
      have hB2:Below w.heap.size w w2:=onB HBj.out hb2
      have HB2:Hid (Below w.heap.size w w2):=hB2
      have HO2:Hid (w2.ownsRow w.heap.size 3 1 (.slice AK mk cK) mk (mapI K)):=by have h:=own_later HOj.out hb2;rw [HMk.out] at h;exact h
      have hsz:=hB2.size
      clear hb2 hct hB2
      go_wp2_with (at_builtin;refine wpList_append_own _ rfl _ _ 26 rfl w.heap.size 3 i0 (.int .i64 0) 1 8 Tryz.underlying26 hi0 hz0 hz1 hz2 rfl (by decide) _ _ _ rfl (HO2.out.alloc _) ⟨w2.heap.size,0,none⟩ 1 1 [.int .i64 x] rfl rfl one_cell one_one (by have:=HKn.out;unfold maxLen;omega) (by have:=HKn.out;omega) (by simp;omega) ?_)
      intro v' w3 hown' hgrow _
      have HB3:Hid (Below w.heap.size w w3):=grown_own HB2.out HO2.out hgrow
      have HO3:Hid (w3.ownsRow w.heap.size 3 1 v' (K ++ [x]).length (mapI (K ++ [x]))):=by
       show World.ownsRow ..
       rw [mapI_snoc,List.length_append,HMk.out];exact hown'
      clear hown' hgrow
      go_wp2_with fail
      go_roundg (r-(j+1))
      case measure=>omega
      case rel=>exact ⟨j+1,K ++ [x],by omega,rfl,by go_num,HK2,HO3.out,HB3.out⟩
    ·have hje:j=r:=by omega
     subst hje
     have HI2:Hid (k+1≤K.length∧RInv (lR xs) i K (k+1)):=by
      obtain ⟨hI,⟨T,hT⟩,hA⟩:=HK.out
      refine ⟨by rw [hT,List.length_append,HM.out];omega,rinv_next hI fun y' hy'=>?_⟩
      rw [hT,getD_app (by rw [HM.out];exact hlt),HRow.out] at hy'
      obtain ⟨t,ht,rfl⟩:=List.getElem_of_mem hy'
      have h:=hA t (by rw [←HRl.out];exact ht)
      rw [List.getD_eq_getElem?_getD,List.getElem?_eq_getElem ht] at h
      exact h
     clear hown hBj hIK hKn
     go_wp2_with fail
     go_roundg (n-(k+1))
     case measure=>omega
     case rel=>exact ⟨k+1,K,HI2.out.1,rfl,by go_num,HI2.out.2,HOj.out,HBj.out⟩
  ·have hke:k=m:=by omega
   subst hke
   have HEnd:Hid (∀ x,x∈L↔Rch (lR xs) i x):=rinv_end (by rw [HM.out];exact HI.out)
   have HIL:Hid (IntsAt wr AL cL L):=hIL.at
   clear hown hBw hIL hm
   go_wp2_with fail
   go_ret
   exact ⟨⟨AL,cL,L,by rw [HM.out];rfl,HIL.out,by rw [HM.out];omega,HEnd.out⟩,HBw.out⟩
end Go.Proofs.YtnegjdcedhnjdaaGreatDoor
namespace Go.Proofs.YtnegjdcedhnjdaaGreatDoor
def noS:ByteArray:=⟨#[]⟩
def okC (c:Int×Int):Prop:=good c.1 c.2=true
theorem okC_no:okC noC:=rfl
theorem okC_ofP (n:Int):okC (ofP n):=by
 unfold okC ofP good
 split
 ·rename_i h;simp [h.1,h.2]
 ·simp
theorem okC_quo (x y:Int):okC (quoP x y):=by
 unfold quoP
 split
 ·rfl
 ·exact okC_ofP _
theorem okC_join (b:Bool) (ka kb:Int) {r:Int×Int} (h:okC r):okC (joinP b ka kb r):=by
 unfold joinP
 split
 ·rfl
 ·split
  ·rfl
  ·exact h
def opP (o:Int) (a b:Int×Int):Int×Int:=if o=3 then plusP a.1 a.2 b.1 b.2 else if o=4 then minusP a.1 a.2 b.1 b.2 else if o=5 then timesP a.1 a.2 b.1 b.2 else overP a.1 a.2 b.1 b.2
theorem opP_ok (o:Int) (a b:Int×Int):okC (opP o a b):=by
 unfold opP
 split
 ·exact okC_join _ _ _ (okC_ofP _)
 ·split
  ·exact okC_join _ _ _ (okC_ofP _)
  ·split
   ·exact okC_join _ _ _ (okC_ofP _)
   ·exact okC_join _ _ _ (okC_quo _ _)
def isS (N:List ByteArray) (s:ByteArray) (i:Nat):Bool:=decide (N.getD i noS=s)
def whereS (N:List ByteArray) (s:ByteArray):Int:=findFrom (isS N s) N.length 0
theorem where_cases (N:List ByteArray) (s:ByteArray):(whereS N s = -1∧∀ j,j<N.length→N.getD j noS≠s)∨∃ i:Nat,whereS N s=(i:Int)∧i<N.length∧N.getD i noS=s:=by
 unfold whereS
 rcases findFrom_cases (isS N s) N.length 0 with ⟨h1,h2⟩ | ⟨m,h1,h2,h3,h4,h5⟩
 ·left
  refine ⟨h1,fun j hj=>?_⟩
  have:=h2 j (Nat.zero_le _) (by omega)
  simpa [isS] using this
 ·right
  exact ⟨m,h1,by omega,of_decide_eq_true h4⟩
def downS (N:List ByteArray) (i:Nat):Bool:=Op.bytesLess (N.getD i noS).toList (N.getD (i-1) noS).toList || (N.getD i noS).toList == (N.getD (i-1) noS).toList
def ckErr (N:List ByteArray) (C:List (Int×Int)):Int:=if C.length≠N.length then 3 else if 0≤findFrom (goodB C) C.length 0 then 1 else if 0≤findFrom (downS N) (N.length-1) 1 then 7 else 0
theorem ck_shape {N:List ByteArray} {C:List (Int×Int)} (h:C.length≠N.length):ckErr N C=3:=by unfold ckErr;rw [if_pos h]
theorem ck_cell {N:List ByteArray} {C:List (Int×Int)} (h:C.length=N.length) {i:Nat} (hi:i<C.length) (hb:goodB C i=true):ckErr N C=1:=by
 unfold ckErr
 rw [if_neg (by simpa using h)]
 rcases findFrom_cases (goodB C) C.length 0 with ⟨_,h5⟩ | ⟨m,e,_⟩
 ·rw [h5 i (Nat.zero_le _) (by omega)] at hb;cases hb
 ·rw [e,if_pos (by omega)]
theorem ck_down {N:List ByteArray} {C:List (Int×Int)} (h:C.length=N.length) (hg:∀ j,j<C.length→goodB C j=false) {i:Nat} (h1:1≤i) (hi:i<N.length) (hb:downS N i=true):ckErr N C=7:=by
 unfold ckErr
 rw [if_neg (by simpa using h),findFrom_none (fun j _ hj=>hg j (by omega)),if_neg (by omega)]
 rcases findFrom_cases (downS N) (N.length-1) 1 with ⟨_,h5⟩ | ⟨m,e,_⟩
 ·rw [h5 i h1 (by omega)] at hb;cases hb
 ·rw [e,if_pos (by omega)]
theorem ck_good {N:List ByteArray} {C:List (Int×Int)} (h:C.length=N.length) (hg:∀ j,j<C.length→goodB C j=false) (hd:∀ j,1≤j→j<N.length→downS N j=false):ckErr N C=0:=by
 unfold ckErr
 rw [if_neg (by simpa using h),findFrom_none (fun j _ hj=>hg j (by omega)),if_neg (by omega),findFrom_none (fun j h1 hj=>hd j h1 (by omega)),if_neg (by omega)]
theorem ck_right {N:List ByteArray} {C:List (Int×Int)} (h:ckErr N C=0):C.length=N.length∧(∀ j,j<C.length→goodB C j=false)∧∀ j,1≤j→j<N.length→downS N j=false:=by
 by_cases h1:C.length=N.length
 ·refine ⟨h1,?_⟩
  by_cases h2:∀ j,j<C.length→goodB C j=false
  ·refine ⟨h2,fun j hj1 hj=>?_⟩
   cases hd:downS N j
   ·rfl
   ·rw [ck_down h1 h2 hj1 hj hd] at h;cases h
  ·exfalso
   apply h2
   intro j hj
   cases hd:goodB C j
   ·rfl
   ·rw [ck_cell h1 hj hd] at h;cases h
 ·rw [ck_shape h1] at h;cases h
theorem ck_ok {N:List ByteArray} {C:List (Int×Int)} (h:ckErr N C=0):∀ c∈C,okC c:=by
 intro c hc
 obtain ⟨j,hj,rfl⟩:=List.getElem_of_mem hc
 have:=(ck_right h).2.1 j hj
 unfold goodB at this
 rw [List.getD_eq_getElem?_getD,List.getElem?_eq_getElem hj] at this
 simpa [okC] using this
/-! names that rise -/
theorem down_not {N:List ByteArray} {i:Nat} (h:downS N i=false):(N.getD (i-1) noS).toList<(N.getD i noS).toList:=by
 unfold downS at h
 rw [Bool.or_eq_false_iff,bytesLess_eq] at h
 have h1:=of_decide_eq_false h.1
 have h2:(N.getD i noS).toList≠(N.getD (i-1) noS).toList:=by simpa using h.2
 rcases Std.lt_trichotomy (N.getD i noS).toList (N.getD (i-1) noS).toList with h3 | h3 | h3
 ·exact absurd h3 h1
 ·exact absurd h3 h2
 ·exact h3
theorem rise_all {N:List ByteArray} (h:∀ j,1≤j→j<N.length→downS N j=false):∀ i j,i<j→j<N.length→(N.getD i noS).toList<(N.getD j noS).toList:=by
 intro i j hij
 induction j with
 | zero=>omega
 | succ j ih =>
  intro hj
  have h1:=down_not (h (j+1) (by omega) hj)
  by_cases e:i=j
  ·subst e;exact h1
  ·exact List.lt_trans (ih (by omega) (by omega)) h1
end Go.Proofs.YtnegjdcedhnjdaaGreatDoor
