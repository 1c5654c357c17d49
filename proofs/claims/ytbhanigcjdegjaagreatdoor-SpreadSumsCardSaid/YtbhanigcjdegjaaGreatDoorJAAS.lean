/-
  Cells in a row, in memory: a slice of them, a block of a call's own that holds them.
-/
import Derived.Lib.AppendZerosOnto
import Derived.Laws.AppendOwnNone
import Derived.Laws.OwnMore
import Derived.Test.YtbhanigcjdegjaaGreatDoorJAAR
namespace Go.Proofs.YtbhanigcjdegjaaGreatDoor
open Go.ChangeShapes Go.WideShapes Go.ChangeAt Go.RowKit
set_option maxRecDepth 20000
def noC:Int×Int:=(0,0)
def CelAt (w:World) (b o:Nat) (L:List (Int×Int)):Prop:=b<w.heap.size∧∀ k,k<L.length→w.cell? ⟨b,o+k*2,none⟩=some (.int .i64 (L.getD k noC).1)∧w.cell? ⟨b,o+k*2+1,none⟩=some (.int .i64 (L.getD k noC).2)
theorem CelAt.later {w w':World} {b o:Nat} {L:List (Int×Int)} (h:CelAt w b o L) (hB:Below w.heap.size w w'):CelAt w' b o L :=
 ⟨Nat.lt_of_lt_of_le h.1 hB.size,fun k hk=>⟨(hB.cell (p:=⟨b,o+k*2,none⟩) h.1).trans (h.2 k hk).1,(hB.cell (p:=⟨b,o+k*2+1,none⟩) h.1).trans (h.2 k hk).2⟩⟩
def CelV (w:World) (A:Option Addr) (cap:Nat) (L:List (Int×Int)):Prop:=L.length≤cap∧cap≤9223372036854775807∧(L=[]∨∃ b o,A=some ⟨b,o,none⟩∧CelAt w b o L)
theorem CelV.later {w w':World} {A:Option Addr} {cap:Nat} {L:List (Int×Int)} (h:CelV w A cap L) (hB:Below w.heap.size w w'):CelV w' A cap L:=by
 obtain ⟨h1,h0,h2 | ⟨b,o,h2,h3⟩⟩:=h
 ·exact ⟨h1,h0,Or.inl h2⟩
 ·exact ⟨h1,h0,Or.inr ⟨b,o,h2,h3.later hB⟩⟩
theorem CelV.nil (w:World) (A:Option Addr) (cap:Nat) (h:cap≤9223372036854775807):CelV w A cap []:=⟨Nat.zero_le _,h,Or.inl rfl⟩
def CelB (w:World) (g:Nat) (L:List (Int×Int)):Prop := ∃ cur:Array Value,w.heap[g]?=some (.cells cur 39 (0,0))∧∀ k,k<L.length→cur[k*2]?=some (.int .i64 (L.getD k noC).1)∧cur[k*2+1]?=some (.int .i64 (L.getD k noC).2)
section
variable {w w':World} {g:Nat} {L:List (Int×Int)}
theorem CelB.lt (h:CelB w g L):g<w.heap.size:=by
 obtain ⟨cur,h1,_⟩:=h
 exact (Array.getElem?_eq_some_iff.1 h1).1
theorem CelB.same (h:CelB w g L) (hb:w'.heap[g]?=w.heap[g]?):CelB w' g L:=by
 obtain ⟨cur,h1,h2⟩:=h
 exact ⟨cur,hb.trans h1,h2⟩
theorem CelB.later (h:CelB w g L) (hB:Below w.heap.size w w'):CelB w' g L:=h.same (hB.block g h.lt)
theorem CelB.at (h:CelB w g L) {k:Nat} (hk:k<L.length):w.cell? ⟨g,k*2,none⟩=some (.int .i64 (L.getD k noC).1)∧w.cell? ⟨g,k*2+1,none⟩=some (.int .i64 (L.getD k noC).2):=by
 obtain ⟨cur,h1,h2⟩:=h
 obtain ⟨h3,h4⟩:=h2 k hk
 exact ⟨by simp [World.cell?,h1,h3],by simp [World.cell?,h1,h4]⟩
theorem CelB.frozen (h:CelB w g L) (j:Nat):w.frozen? ⟨g,j,none⟩=false:=by
 obtain ⟨cur,h1,_⟩:=h
 exact Lib.frozen_of_heap h1 j
theorem CelB.celAt (h:CelB w g L):CelAt w g 0 L:=⟨h.lt,fun k hk=>by rw [Nat.zero_add];exact h.at hk⟩
theorem CelB.set (h:CelB w g L) {x:Nat} (hx:x<L.length) (a b:Int):CelB ((w.setCell ⟨g,x*2,none⟩ (.int .i64 a)).setCell ⟨g,x*2+1,none⟩ (.int .i64 b)) g (L.set x (a,b)):=by
 obtain ⟨cur,h1,h2⟩:=h
 refine ⟨(cur.setIfInBounds (x*2) (.int .i64 a)).setIfInBounds (x*2+1) (.int .i64 b),by simp [World.setCell,Array.getElem?_modify,h1],fun k hk=>?_⟩
 rw [List.length_set] at hk
 obtain ⟨h3,h4⟩:=h2 k hk
 obtain ⟨h5,h6⟩:=h2 x hx
 have z0:=(Array.getElem?_eq_some_iff.1 h5).1
 have z1:=(Array.getElem?_eq_some_iff.1 h6).1
 by_cases e:k=x
 ·subst e
  constructor
  ·rw [Array.getElem?_setIfInBounds_ne (by omega),Array.getElem?_setIfInBounds_self_of_lt z0]
   simp [List.getD,hk]
  ·rw [Array.getElem?_setIfInBounds_self_of_lt (by simpa using z1)]
   simp [List.getD,hk]
 ·have e1:(L.set x (a,b)).getD k noC=L.getD k noC:=by simp [List.getD,List.getElem?_set_ne (fun h=>e h.symm)]
  rw [e1]
  constructor
  ·rw [Array.getElem?_setIfInBounds_ne (by omega),Array.getElem?_setIfInBounds_ne (by omega)];exact h3
  ·rw [Array.getElem?_setIfInBounds_ne (by omega),Array.getElem?_setIfInBounds_ne (by omega)];exact h4
end
theorem Tryz.infoCe:(Tryz.prog.info? 39).map (fun i=>(i.zero,i.size,i.bytes))=some (some (.agg #[.int .i64 0,.int .i64 0]),2,16):=by kernel_rfl
theorem ck1 {D:Nat→Dm} {n:Nat} {L:List (Int×Int)} (h:(allErr D n).2.2=0) (h1:L.length≠prodN D n):chkErr D n L=3:=by unfold chkErr;rw [if_neg (by simpa using h),if_pos h1]
theorem grown_then {w w1 w2:World} {r:Option Nat} (h:w.grownBy w1 r) (k:Below w1.heap.size w1 w2):w.grownBy w2 r :=
 ⟨k.os.trans h.os,k.tape.trans h.tape,k.output.trans h.output,Nat.le_trans h.size k.size,fun i hi hr=>(k.block i (Nat.lt_of_lt_of_le hi h.size)).trans (h.block i hi hr)⟩
theorem pair_at {w:World} {q:Nat} {x y:Value} {T:Nat} (h:w.heap[q]?=some (.cells #[x,y] T)):w.cell? ⟨q,0,none⟩=some x∧w.cell? ⟨q,1,none⟩=some y∧w.frozen? ⟨q,0,none⟩=false∧w.frozen? ⟨q,1,none⟩=false :=
 ⟨by rw [Lib.cell_of_heap h];rfl,by rw [Lib.cell_of_heap h];rfl,Lib.frozen_of_heap h 0,Lib.frozen_of_heap h 1⟩
def BoxN (w:World) (q:Nat) (v:Value):Prop:=q<w.heap.size∧w.cell? ⟨q,0,none⟩=some v
theorem BoxN.same {w w':World} {q:Nat} {v:Value} (h:BoxN w q v) (hz:w.heap.size≤w'.heap.size) (hb:w'.heap[q]?=w.heap[q]?):BoxN w' q v :=
 ⟨Nat.lt_of_lt_of_le h.1 hz,(World.cell?_of_block (a:=⟨q,0,none⟩) hb).trans h.2⟩
theorem BoxN.later {w w':World} {q:Nat} {v:Value} (h:BoxN w q v) (hB:Below w.heap.size w w'):BoxN w' q v:=h.same hB.size (hB.block q h.1)
theorem cel_grown {w w':World} {g i j:Nat} {a b:Value} (h:w.grownBy w' (some g)):w.grownBy ((w'.setCell ⟨g,i,none⟩ a).setCell ⟨g,j,none⟩ b) (some g) :=
 ⟨h.os,h.tape,h.output,by simpa [World.setCell] using h.size,fun k hk hr=>(Below.heap_setCell _ ⟨g,j,none⟩ b k fun e=>hr (by rw [e])).trans ((Below.heap_setCell w' ⟨g,i,none⟩ a k fun e=>hr (by rw [e])).trans (h.block k hk hr))⟩
theorem boxn_other {w w':World} {q g:Nat} {v:Value} (h:BoxN w q v) (hne:q≠g) (hG:w.grownBy w' (some g)):BoxN w' q v:=h.same hG.size (hG.block q h.1 fun e=>hne (by simpa using e))
end Go.Proofs.YtbhanigcjdegjaaGreatDoor
namespace Go.Proofs.YtbhanigcjdegjaaGreatDoor
open Go Go.ChangeShapes Go.WideShapes Go.ChangeAt Go.RowKit
set_option maxRecDepth 20000
set_option maxHeartbeats 4000000 in
theorem grow_any (n:Nat) (w:World) (h1:1≤n) (h8:n≤8):Calls Tryz.prog 80 #[.slice none 0 0,.int .i64 n] w fun e w'=>(∃ v,e=.returned v∧w'.ownsRow w.heap.size 3 1 v 0 [])∧Below w.heap.size w w':=by
 obtain ⟨i0,hi0,hz0,hz1,hz2⟩:=info_parts Tryz.infoIntP
 have hn0 : ¬ ((n:Int)<0):=by omega
 have hn1:(n:Int) > 0:=by omega
 have hn8:(n:Int)≤8:=by omega
 have hold:(Builtin.firstCells i0.size 0 (.slice none 0 0)).run Tryz.prog w.drew=.ok (([]:List Value).toArray) w.drew:=by rw [hz1];exact run_firstCells_none w.drew 1 0 0 0
 have hrz:∀ ty,(Builtin.append_ #[27,3] ty #[.slice none 0 0,.int .i64 (n:Int)]).run Tryz.prog w=_:=fun ty=>Lib.run_append_grow_zeros w 27 3 ty 3 i0 (.int .i64 0) .i64 .i64 Tryz.underlying27 Tryz.underlying3 hi0 hz0 none 0 0 [] hold n (by omega) (by omega) (by omega) (by omega) (by rw [hz2];omega) (by rw [hz2,Nat.zero_add];exact growslice_fits (by omega) (by omega))
 rw [Nat.zero_add] at hrz
 have hGn:n≤grownCap w n 0 3:=grownCap_ge w _ _ _
 have hGm:=grownCap_le_maxLen w n 0 3 (by unfold maxLen;omega)
 obtain ⟨G,hG⟩:∃ G,G=grownCap w n 0 3:=⟨_,rfl⟩
 rw [←hG] at hrz hGn hGm
 have hG63:G≤9223372036854775807:=by unfold maxLen at hGm;omega
 obtain ⟨cs,hcs⟩:∃ cs,cs=([]:List Value).toArray ++ Builtin.zeroCells (Value.int .i64 0).cells n ++ Builtin.zeroCells (Value.int .i64 0).cells (G-n):=⟨_,rfl⟩
 have hsz:cs.size=G:=by rw [hcs];simp [Builtin.zeroCells,Value.cells];omega
 rw [←hcs] at hrz
 have HO:Hid ((w.drew.alloc (.cells cs 3)).ownsRow w.heap.size 3 1 (.slice (some ⟨w.heap.size,0,none⟩) 0 G) 0 []):=⟨rfl,Or.inr ⟨w.heap.size,G,cs,rfl,Nat.le_refl _,heap_alloc_new w.drew _,Nat.zero_le _,hGm,by rw [hsz];omega,by simp⟩⟩
 have HB:Hid (Below w.heap.size w (w.drew.alloc (.cells cs 3))):=by show Below _ _ _;go_grown
 clear hold hG hcs hsz hGm
 go_enter Tryz.func80,Tryz.ntmps80
 go_wp2_with (at_builtin;refine Lib.wpList_append_run _ rfl _ _ _ _ rfl _ _ rfl rfl _ _ (hrz _) ?_)
 all_goals go_ret
 all_goals exact ⟨⟨_,rfl,HO.out⟩,HB.out⟩
def HeadV (w:World) (A:Option Addr) (c:Nat) (L:List Int):Prop:=(A=none∧c=0∧L=[])∨(L≠[]∧PlTy w A c L)
theorem HeadV.pl {w:World} {A:Option Addr} {c:Nat} {L:List Int} (h:HeadV w A c L):PlAt w A c L:=by
 rcases h with ⟨rfl,rfl,rfl⟩ | ⟨-,h⟩
 ·exact PlAt.nil _ _ _
 ·exact h.pl
theorem HeadV.later {w w':World} {A:Option Addr} {c:Nat} {L:List Int} (h:HeadV w A c L) (hB:Below w.heap.size w w'):HeadV w' A c L:=by
 rcases h with h | ⟨h1,h⟩
 ·exact Or.inl h
 ·exact Or.inr ⟨h1,h.later hB⟩
theorem HeadV.cells {w:World} {b o c:Nat} {L:List Int} (h:HeadV w (some ⟨b,o,none⟩) c L):∀ j u,(L.map (Value.int .i64))[j]?=some u→w.cell? ((⟨b,o,none⟩:Addr).add j)=some u:=by
 intro j u hj
 obtain ⟨-,h0 | ⟨b',o',h0,-,hcell⟩⟩:=h.pl
 ·subst h0;simp at hj
 ·cases h0
  have hlt:j<L.length:=by have:=(List.getElem?_eq_some_iff.1 hj).1;simpa using this
  rw [plain_add,hcell j hlt]
  simp only [List.getElem?_map,List.getElem?_eq_getElem hlt,Option.map_some,Option.some.injEq] at hj
  rw [←hj,List.getD_eq_getElem?_getD,List.getElem?_eq_getElem hlt]
  rfl
theorem one_at {w:World} {q:Nat} {x:Value} (h:w.cell? ⟨q,0,none⟩=some x):∀ j u,[x][j]?=some u→w.cell? ((⟨q,0,none⟩:Addr).add j)=some u:=by
 intro j u hj
 cases j with
 | zero =>
  simp at hj
  rw [plain_add,←hj]
  exact h
 | succ j=>simp at hj
set_option maxHeartbeats 8000000 in
theorem concat_any (b bk:Nat) (Ah:Option Addr) (ch:Nat) (h:List Int) (k:Int) (w:World) (h3:h.length≤3) (hH:HeadV w Ah ch h) (c0:w.cell? ⟨b,0,none⟩=some (.slice Ah h.length ch)) (c1:w.cell? ⟨b,1,none⟩=some (.slice (some ⟨bk,0,none⟩) 1 1)) (ck:w.cell? ⟨bk,0,none⟩=some (.int .i64 k)) :
  Calls Tryz.prog 56 #[.slice (some ⟨b,0,none⟩) 2 2] w fun e w'=>(∃ A' c',e=.returned (.slice A' (h ++ [k]).length c')∧PlTy w' A' c' (h ++ [k]))∧Below w.heap.size w w':=by
 obtain ⟨i0,hi0,hz0,hz1,hz2⟩:=info_parts Tryz.infoIntP
 have HH:Hid (HeadV w Ah ch h):=hH
 have zb:=World.block_lt_of_cell? _ _ c0
 have zk:=World.block_lt_of_cell? _ _ ck
 have HCells:Hid (w.cell? ⟨b,0,none⟩=some (.slice Ah h.length ch)∧w.cell? ⟨b,1,none⟩=some (.slice (some ⟨bk,0,none⟩) 1 1)∧w.cell? ⟨bk,0,none⟩=some (.int .i64 k)):=⟨c0,c1,ck⟩
 obtain ⟨nh,hnh⟩:∃ nh,h.length=nh:=⟨_,rfl⟩
 have HNH:Hid (h.length=nh):=hnh
 have hgr:=grow_any (nh+1) w (by omega) (by omega)
 have hnh3:(nh:Int)≤3:=by omega
 have hcast:((nh+1:Nat):Int)=(nh:Int)+1:=by omega
 rw [hcast] at hgr
 rw [hnh] at c0
 have HF:Hid (∀ (w':World) (v:Value),w'.ownsRow w.heap.size 3 1 v (nh+1) ((h ++ [k]).map (Value.int .i64))→∃ A' c',v=.slice A' (h ++ [k]).length c'∧PlTy w' A' c' (h ++ [k])):=fun w' v hv=>plty_own (by rw [List.length_append,HNH.out];exact hv)
 clear hH hnh hcast
 go_enter Tryz.func56,Tryz.ntmps56
 go_wp2_with fail
 refine wp_loop_rounds 3 ?_
 rw [rounds_succ]
 go_wp2_with fail
 rw [rounds_succ]
 go_wp2_with fail
 rw [rounds_succ]
 go_wp2_with fail
 refine hgr.mono ?_
 rintro e w1 ⟨⟨v,rfl,hown⟩,hb1⟩
 have HB1:Hid (Below w.heap.size w w1):=hb1
 have HO1:Hid (w1.ownsRow w.heap.size 3 1 v 0 []):=hown
 have x0:=(hb1.cell (p:=⟨b,0,none⟩) zb).trans HCells.out.1
 have x1:=(hb1.cell (p:=⟨b,1,none⟩) zb).trans HCells.out.2.1
 rw [HNH.out] at x0
 clear hb1 hown hgr c0 c1 ck
 go_wp2_with fail
 refine wp_loop_rounds 3 ?_
 rw [rounds_succ]
 cases Ah with
 | none =>
  have h0:h=[]∧ch=0:=by
   rcases HH.out with ⟨-,h2,h1⟩ | ⟨h1,h2⟩
   ·exact ⟨h1,h2⟩
   ·obtain ⟨-,h4 | ⟨b',o',cs,fr,h4,-⟩⟩:=h2
    ·exact absurd h4 h1
    ·cases h4
  obtain ⟨rfl,rfl⟩:=h0
  have hn0:nh=0:=by have:=HNH.out;simp at this;exact this.symm
  subst hn0
  go_wp2_with (at_builtin;refine wpList_append_own_none rfl _ _ 27 rfl w.heap.size 3 i0 1 Tryz.underlying27 hi0 _ 0 _ rfl HO1.out rfl ?_)
  rw [rounds_succ]
  have ck1:=(HB1.out.cell (p:=⟨bk,0,none⟩) zk).trans HCells.out.2.2
  have hsz:=HB1.out.size
  clear x0
  go_wp2_with (at_builtin;refine wpList_append_own _ rfl _ _ 27 rfl w.heap.size 3 i0 (.int .i64 0) 1 8 Tryz.underlying27 hi0 hz0 hz1 hz2 rfl (by decide) _ _ _ rfl HO1.out ⟨bk,0,none⟩ 1 1 [.int .i64 k] rfl rfl ?qc2 one_one ?qc4 ?qc5 ?qc6 ?_)
  case qc2=>exact one_at ck1
  case qc4=>simp only [maxLen];omega
  case qc5=>omega
  case qc6=>exact hsz
  intro v' w2 hown hgrow hnil
  obtain ⟨A',c',rfl,hT⟩:=HF.out _ _ hown
  have HT:Hid (PlTy w2 A' c' ([] ++ [k])):=hT
  have HB:Hid (Below w.heap.size w w2):=HB1.out.grown hgrow hsz (fun j hj=>(HO1.out.lt j hj).1)
  clear hown hgrow hnil hT
  go_wp2_with fail
  rw [rounds_succ]
  go_wp2_with fail
  go_ret
  exact ⟨⟨A',c',rfl,HT.out⟩,HB.out⟩
 | some a =>
  obtain ⟨b',o',rfl⟩:∃ b' o',a=⟨b',o',none⟩:=by
   rcases HH.out with ⟨h1,-⟩ | ⟨h1,-,h4 | ⟨b',o',cs,fr,h4,-⟩⟩
   ·cases h1
   ·exact absurd h4 h1
   ·cases h4;exact ⟨b',o',rfl⟩
  have hsz:=HB1.out.size
  have HHc:=(HH.out.later HB1.out).cells
  go_wp2_with (at_builtin;refine wpList_append_own _ rfl _ _ 27 rfl w.heap.size 3 i0 (.int .i64 0) 1 8 Tryz.underlying27 hi0 hz0 hz1 hz2 rfl (by decide) _ _ _ rfl HO1.out ⟨b',o',none⟩ nh ch (h.map (Value.int .i64)) rfl ?qc1 ?qc2 ?qc3 ?qc4 ?qc5 ?qc6 ?_)
  case qc1=>simp [HNH.out]
  case qc2=>exact HHc
  case qc3=>intro u hu;simp at hu;obtain ⟨x,-,rfl⟩:=hu;rfl
  case qc4=>simp only [maxLen];omega
  case qc5=>omega
  case qc6=>exact hsz
  intro v2 w2 hown hgrow hnil
  have HO2:Hid (w2.ownsRow w.heap.size 3 1 v2 nh (h.map (Value.int .i64))):=by
   show World.ownsRow ..
   simpa using hown
  have hne:∀ q,q<w.heap.size→some q≠v.ownBlock:=fun q hq e=>by have:=(HO1.out.lt q e.symm).1;omega
  have y1:=(World.cell?_of_block (a:=⟨b,1,none⟩) (hgrow.block b (Nat.lt_of_lt_of_le zb hsz) (hne b zb))).trans x1
  have yk:=(World.cell?_of_block (a:=⟨bk,0,none⟩) (hgrow.block bk (Nat.lt_of_lt_of_le zk hsz) (hne bk zk))).trans ((HB1.out.cell (p:=⟨bk,0,none⟩) zk).trans HCells.out.2.2)
  have HB2:Hid (Below w.heap.size w w2):=HB1.out.grown hgrow hsz (fun j hj=>(HO1.out.lt j hj).1)
  have hsz2:=HB2.out.size
  clear hown hgrow hnil hne HHc x0 x1
  go_wp2_with fail
  rw [rounds_succ]
  go_wp2_with (at_builtin;refine wpList_append_own _ rfl _ _ 27 rfl w.heap.size 3 i0 (.int .i64 0) 1 8 Tryz.underlying27 hi0 hz0 hz1 hz2 rfl (by decide) _ _ _ rfl HO2.out ⟨bk,0,none⟩ 1 1 [.int .i64 k] rfl rfl ?qd2 one_one ?qd4 ?qd5 ?qd6 ?_)
  case qd2=>exact one_at yk
  case qd4=>simp only [maxLen];omega
  case qd5=>omega
  case qd6=>exact hsz2
  intro v' w3 hown hgrow hnil
  obtain ⟨A',c',rfl,hT⟩:=HF.out w3 v' (by rw [List.map_append];simpa using hown)
  have HT:Hid (PlTy w3 A' c' (h ++ [k])):=hT
  have HB:Hid (Below w.heap.size w w3):=HB2.out.grown hgrow hsz2 (fun j hj=>(HO2.out.lt j hj).1)
  clear hown hgrow hnil hT
  go_wp2_with fail
  rw [rounds_succ]
  go_wp2_with fail
  go_ret
  exact ⟨⟨A',c',rfl,HT.out⟩,HB.out⟩
end Go.Proofs.YtbhanigcjdegjaaGreatDoor
namespace Go.Proofs.YtbhanigcjdegjaaGreatDoor
open Go.ChangeShapes Go.WideShapes Go.ChangeAt Go.RowKit Go.Lib
set_option maxRecDepth 20000
theorem RowE.put {w:World} {g cap:Nat} {zs:List EnL} (h:RowE w g cap zs) (hk:zs.length<cap) {x:EnL} (hx:PlTy w x.A x.c x.e.pl):RowE ((w.setCell ⟨g,zs.length*2,none⟩ (.slice x.A x.e.pl.length x.c)).setCell ⟨g,zs.length*2+1,none⟩ (.int .i64 x.e.n)) g cap (zs ++ [x])∧w.grownBy ((w.setCell ⟨g,zs.length*2,none⟩ (.slice x.A x.e.pl.length x.c)).setCell ⟨g,zs.length*2+1,none⟩ (.int .i64 x.e.n)) (some g):=by
 obtain ⟨⟨cur,h1,h2,h3⟩,h4,h5,h6⟩:=id h
 have e:(w.setCell ⟨g,zs.length*2,none⟩ (.slice x.A x.e.pl.length x.c)).setCell ⟨g,zs.length*2+1,none⟩ (.int .i64 x.e.n)=w.setCells g (zs.length*2) (cellsE [x]):=rfl
 have hx2:(cellsE [x]).length=2:=by rw [cellsE_len];rfl
 have hl:cur.toList.length=cap*2:=by simpa using h2
 rw [e,setCells_row g 68 (cellsE [x]) (zs.length*2) cur w h1 (by rw [hx2];omega)]
 refine ⟨h.lay ?_ ?_ (by simp;omega) fun y hy=>?_,grown_setRow ..⟩
 ·simp only [List.length_append,List.length_take,List.length_drop,hx2,hl]
  omega
 ·rw [cellsE_append,h3]
  exact take_join (by simp only [List.length_append,cellsE_len,List.length_cons,List.length_nil];omega)
 ·rcases List.mem_append.1 hy with hy | hy
  ·exact h6 y hy
  ·rw [List.mem_singleton.1 hy];exact hx
theorem grown_set {w w':World} {g:Nat} (h:w.grownBy w' (some g)) (o:Nat) (v:Value):w.grownBy (w'.setCell ⟨g,o,none⟩ v) (some g) :=
 ⟨h.os,h.tape,h.output,by simpa using h.size,fun i hi hr=>(Below.heap_setCell w' ⟨g,o,none⟩ v i fun e=>hr (by rw [e])).trans (h.block i hi hr)⟩
theorem grown_new {w w':World} {r:Option Nat} (h:w.grownBy w' r) (o:Obj):w.grownBy (w'.alloc o) r :=
 ⟨h.os,h.tape,h.output,by have:=h.size;simp;omega,fun i hi hr=>(Below.heap_alloc w' o i (Nat.lt_of_lt_of_le hi h.size)).trans (h.block i hi hr)⟩
theorem keepG {W w':World} {g q:Nat} {u v:Value} (h:q<W.heap.size∧q≠g∧W.cell? ⟨q,0,none⟩=some u∧W.cell? ⟨q,1,none⟩=some v) (hG:W.grownBy w' (some g)):W.grownBy w' (some g)∧w'.cell? ⟨q,0,none⟩=some u∧w'.cell? ⟨q,1,none⟩=some v:=by
 have hb:w'.heap[q]?=W.heap[q]?:=hG.block q h.1 fun e=>h.2.1 (by simpa using e)
 exact ⟨hG,(World.cell?_of_block (a:=⟨q,0,none⟩) hb).trans h.2.2.1,(World.cell?_of_block (a:=⟨q,1,none⟩) hb).trans h.2.2.2⟩
set_option maxHeartbeats 8000000 in
theorem fresh_new (AE:Option Addr) (ce:Nat) (xs:List EnL) (w:World) (hn:xs.length≤3000) (hS:∀ k,k<xs.length→(xs.getD k noL).e.pl.length≤4) (hE:EnsV w AE ce xs) :
  Calls Tryz.prog 21 #[.slice AE xs.length ce] w fun e w'=>(∃ ys,e=.returned (.slice (some ⟨w.heap.size,0,none⟩) xs.length xs.length)∧RowE w' w.heap.size xs.length ys∧lE ys=lE xs∧NewE w.heap.size ys)∧Below w.heap.size w w':=by
 obtain ⟨i0,hi0,hz0,hz1,hz2⟩:=info_parts Tryz.infoEnt
 have HE:Hid (EnsV w AE ce xs):=hE
 have HS:Hid (∀ k,k<xs.length→(xs.getD k noL).e.pl.length≤4):=hS
 obtain ⟨n,hnn⟩:∃ n,xs.length=n:=⟨_,rfl⟩
 have HN:Hid (xs.length=n):=hnn
 rw [hnn] at hn ⊢
 have hmk:∀ w',(Instr.makeSlice 26 (.int .i64 n) (.int .i64 n)).run Tryz.prog w'=.ok (.slice (some ⟨w'.heap.size,0,none⟩) n n) (w'.alloc (.cells (madeCells (Value.agg #[.slice none 0 0,.int .i64 0]).cells (n*2)) 68)):=fun w'=>by
  have h:=run_make (P:=Tryz.prog) w' 26 68 i0 _ Tryz.underlying26 hi0 hz0 .i64 .i64 n n (by omega) (Int.le_refl _) (by rw [hz2];omega) (by omega)
  rw [hz1] at h
  simpa using h
 have HR0:Hid (RowE (w.alloc (.cells (madeCells (Value.agg #[.slice none 0 0,.int .i64 0]).cells (n*2)) 68)) w.heap.size n []):=⟨⟨_,heap_alloc_new w _,size_madeCells _ _,by simp [cellsE]⟩,Nat.zero_le _,by unfold maxLen;omega,fun x hx=>by cases hx⟩
 have hn':(n:Int)≤3000:=by omega
 clear hE hS hnn
 go_enter Tryz.func21,Tryz.ntmps21
 go_wp2_with fail
 clear hmk
 go_loopg [11] n (fun g s11 wr => ∃ (k:Nat) (zs:List EnL),k≤n∧g=n-k∧s11=.int .i64 k∧zs.length=k∧Hid (lE zs=(lE xs).take k∧NewE w.heap.size zs)∧RowE wr w.heap.size n zs∧Below w.heap.size w wr)
 case atStart=>exact ⟨0,[],Nat.zero_le _,rfl,rfl,rfl,(⟨by simp [lE],fun _ h=>by cases h⟩:lE []=(lE xs).take 0∧NewE w.heap.size []),HR0.out,by go_grown⟩
 case round =>
  obtain ⟨k,zs,hk,rfl,rfl,hzl,HZ,hRow,hBw⟩:=hrel
  have HRow:Hid (RowE wr w.heap.size n zs):=hRow
  have HBw:Hid (Below w.heap.size w wr):=hBw
  have HZL:Hid (zs.length=k):=hzl
  by_cases hlt:k<n
  ·have hkx:k<xs.length:=by rw [HN.out];exact hlt
   have hki:(k:Int)<(n:Int):=by omega
   obtain ⟨-,-,h0 | ⟨b,o,rfl,hEs⟩⟩:=HE.out.later hBw
   ·have:=HN.out;rw [h0] at this;simp at this;omega
   obtain ⟨c1,c2⟩:=hEs.at hkx
   have HCl:Hid (∀ w',Below wr.heap.size wr w'→Calls Tryz.prog 42 #[.slice (xs.getD k noL).A (xs.getD k noL).e.pl.length (xs.getD k noL).c] w' fun e w''=>(∃ A' c',e=.returned (.slice A' (xs.getD k noL).e.pl.length c')∧PlTy w'' A' c' (xs.getD k noL).e.pl∧NewA w.heap.size A')∧Below w'.heap.size w' w''):=fun w' hw'=>(clone_new _ _ _ w' (HS.out k hkx) ((hEs.pl hkx).later hw')).mono fun _ _ ⟨⟨A',c',h1,h2,h3⟩,h4⟩=>⟨⟨A',c',h1,h2,h3.le (Nat.le_trans HBw.out.size hw'.size)⟩,h4⟩
   have hBo:=ownEn_below wr (xs.getD k noL).A (xs.getD k noL).e.pl.length (xs.getD k noL).c (xs.getD k noL).e.n 68
   have HBo:Hid (Below wr.heap.size wr (ownEn wr (xs.getD k noL).A (xs.getD k noL).e.pl.length (xs.getD k noL).c (xs.getD k noL).e.n 68)):=hBo
   have hzo:=ownEn_size wr (xs.getD k noL).A (xs.getD k noL).e.pl.length (xs.getD k noL).c (xs.getD k noL).e.n 68
   have ho0:=ownEn_0 wr (xs.getD k noL).A (xs.getD k noL).e.pl.length (xs.getD k noL).c (xs.getD k noL).e.n 68
   have ho1:=ownEn_1 wr (xs.getD k noL).A (xs.getD k noL).e.pl.length (xs.getD k noL).c (xs.getD k noL).e.n 68
   have HLE:Hid ((lE xs).take (k+1)=(lE xs).take k ++ [(xs.getD k noL).e]):=by
    show _=_
    rw [List.take_succ_eq_append_getElem (by rw [lE_len];exact hkx),←lE_at,List.getD_eq_getElem?_getD,List.getElem?_eq_getElem (by rw [lE_len];exact hkx)]
    rfl
   have hwg:w.heap.size<wr.heap.size:=hRow.lt
   generalize xs.getD k noL=x at c1 c2 HCl HBo hzo ho0 ho1 HLE
   clear hEs hBo hRow hBw hzl
   have HPut:Hid (∀ (w3:World) (A':Option Addr) (c':Nat),RowE w3 w.heap.size n zs→PlTy w3 A' c' x.e.pl→RowE ((w3.setCell ⟨w.heap.size,k*2,none⟩ (.slice A' x.e.pl.length c')).setCell ⟨w.heap.size,k*2+1,none⟩ (.int .i64 x.e.n)) w.heap.size n (zs ++ [⟨x.e,A',c'⟩])∧w3.grownBy ((w3.setCell ⟨w.heap.size,k*2,none⟩ (.slice A' x.e.pl.length c')).setCell ⟨w.heap.size,k*2+1,none⟩ (.int .i64 x.e.n)) (some w.heap.size)):=fun w3 A' c' h1 h2=>by
    have h3:=h1.put (by rw [HZL.out];exact hlt) (x:=⟨x.e,A',c'⟩) h2
    rw [HZL.out] at h3
    exact h3
   have HLN:Hid (∀ A' c',NewA w.heap.size A'→lE (zs ++ [⟨x.e,A',c'⟩])=(lE xs).take (k+1)∧NewE w.heap.size (zs ++ [⟨x.e,A',c'⟩])):=fun A' c' hn'=>⟨by rw [lE_append,HZ.out.1,HLE.out];rfl,fun y hy=>by
    rcases List.mem_append.1 hy with hy | hy
    ·exact HZ.out.2 y hy
    ·rw [List.mem_singleton.1 hy];exact hn'⟩
   generalize hxl:x.e.pl.length=m at c1 HCl HBo hzo ho0 ho1 HPut
   generalize x.e.n=N at c2 HBo hzo ho0 ho1 HPut
   clear hxl HLE
   go_wp2_with fail
   obtain ⟨W2,hW2⟩:∃ W2,wr.alloc (.cells #[.slice x.A m x.c,.int .i64 N] 68)=W2:=⟨_,rfl⟩
   have hBo:Below wr.heap.size wr W2:=by rw [←hW2];exact HBo.out
   have hz2:wr.heap.size<W2.heap.size:=by rw [←hW2];show _<(ownEn wr x.A m x.c N 68).heap.size;rw [hzo];omega
   have HBox:Hid (wr.heap.size<W2.heap.size∧wr.heap.size≠w.heap.size∧W2.cell? ⟨wr.heap.size,0,none⟩=some (.slice x.A m x.c)∧W2.cell? ⟨wr.heap.size,1,none⟩=some (.int .i64 N)):=by rw [←hW2];exact ⟨by rw [hW2];exact hz2,by omega,ho0,ho1⟩
   have HB2:Hid (Below wr.heap.size wr W2):=hBo
   have HRow2:Hid (RowE W2 w.heap.size n zs):=HRow.out.later hBo
   rw [hW2]
   clear hW2 hBo hzo ho0 ho1 HBo c1 c2
   go_region_held3 (fun w'=>W2.grownBy w' (some w.heap.size)∧w'.cell? ⟨wr.heap.size,0,none⟩=some (.slice x.A m x.c)∧w'.cell? ⟨wr.heap.size,1,none⟩=some (.int .i64 N))
    ((refine keepG HBox.out ?_;(repeat (first | exact grown_refl _ _ | assumption | refine grown_drew ?_ | refine grown_set ?_ _ _));done))
    (first | (go_at_call 42;refine (HCl.out _ (onB HB2.out (by go_grown))).mono ?_;rintro e w3 ⟨⟨A',c',rfl,hPT,hNw⟩,hb3⟩;have hN3:=onB (W0:=W2) (by go_grown) hb3;have HNw:Hid (NewA w.heap.size A'):=hNw;clear hNw;have hG3:W2.grownBy w3 (some w.heap.size):=grown_below hN3;have HB3:Hid (Below W2.heap.size W2 w3):=hN3;have HPT:Hid (PlTy w3 A' c' x.e.pl):=hPT;obtain ⟨u0,d0⟩:=Option.isSome_iff_exists.1 ((HRow2.out.later hN3).full (j:=k*2) (by omega));obtain ⟨u1,d1⟩:=Option.isSome_iff_exists.1 ((HRow2.out.later hN3).full (j:=k*2+1) (by omega));have f0:=(HRow2.out.later hN3).frozen (k*2);have f1:=(HRow2.out.later hN3).frozen (k*2+1);clear hb3 hN3 hPT))
   clear d0 d1 f0 f1 hG3
   go_wp2_with fail
   go_roundg (n-(k+1))
   case measure=>omega
   case rel =>
    obtain ⟨h1,h2⟩:=HPut.out w3 A' c' (HRow2.out.later HB3.out) HPT.out
    refine ⟨k+1,_,by omega,rfl,by go_num,?_,HLN.out A' c' HNw.out,h1,?_⟩
    ·rw [List.length_append,HZL.out];rfl
    ·exact below_grown (onB HBw.out (onB HB2.out HB3.out)) h2 (onB HBw.out (onB HB2.out HB3.out)).size (Nat.le_refl _)
  ·have hke:k=n:=by omega
   subst hke
   have HFin:Hid (lE zs=lE xs∧NewE w.heap.size zs):=⟨by rw [HZ.out.1,List.take_of_length_le (by rw [lE_len,HN.out];exact Nat.le_refl _)],HZ.out.2⟩
   clear hRow hBw hzl
   go_wp2_with fail
   go_ret
   exact ⟨⟨zs,rfl,HRow.out,HFin.out⟩,HBw.out⟩
def Edited (M:Nat) (w:World) (g:Nat) (E:Int) (l:List En) (e:Ending) (w':World):Prop :=
 (∃ B c ys,e=.returned (.tuple #[.slice B ys.length c,errV E])∧((E≠0∧B=none∧c=0∧ys=[])∨(E=0∧∃ g',B=some ⟨g',0,none⟩∧g≤g'∧RowE w' g' c ys∧lE ys=l∧NewE M ys)))∧w.grownBy w' (some g)
theorem edit_set (D:Nat→Dm) (n:Nat) (l:List En) (p:List Int) (N:Int):editErr D n l ⟨p,N,false⟩=entOne D n ⟨p,N⟩:=by
 unfold editErr entOne
 rfl
set_option maxHeartbeats 8000000 in
theorem iset1_any {M:Nat} (A0:Option Addr) (cap n:Nat) (D:Nat→Dm) (A:Nat→Option Addr) (C:Nat→Nat) (g cg:Nat) (xs:List EnL) (Ap:Option Addr) (cp:Nat) (p:List Int) (N:Int) (w:World) (hM:DimsV w A0 cap n D A C) (hP:PlAt w Ap cp p) (hR:RowE w g cg xs) (hEs:Ens D n (lE xs)) (hMx:NewE M xs) (hMw:M≤w.heap.size) :
  Calls Tryz.prog 44 #[.agg #[.slice A0 n cap],.slice (some ⟨g,0,none⟩) xs.length cg,.agg #[.slice Ap p.length cp,.int .i64 N]] w fun e w'=>Edited M w g (editErr D n (lE xs) ⟨p,N,false⟩) (setL (lE xs) p N) e w':=by
 rw [edit_set]
 have hB0:=ownOE_below w A0 n cap Ap p.length cp N
 have h:=icheck1_any A0 cap n D A C Ap cp ⟨p,N⟩ (ownOE w A0 n cap Ap p.length cp N) hEs.right (hM.later hB0) (hP.later hB0)
 have HB0:Hid (Below w.heap.size w (ownOE w A0 n cap Ap p.length cp N)):=hB0
 have hS0:=ownOE_size w A0 n cap Ap p.length cp N
 have h00:=ownOE_0 w A0 n cap Ap p.length cp N
 have h01:=ownOE_1 w A0 n cap Ap p.length cp N
 have HP:Hid (PlAt w Ap cp p):=hP
 have HR:Hid (RowE w g cg xs):=hR
 have HEs:Hid (Ens D n (lE xs)):=hEs
 have hgw:g<w.heap.size:=hR.lt
 have hfew:=few_of hEs
 unfold Edited
 clear hM hP hB0 hR
 by_cases he:entOne D n ⟨p,N⟩=0
 ·obtain ⟨hI,-,-⟩:=entOne_right hEs.right he
  have HF:Hid (∀ w',Below w.heap.size w w'→Calls Tryz.prog 62 #[.slice (some ⟨g,0,none⟩) xs.length cg,.slice Ap p.length cp] w' fun e w''=>e=.returned (.tuple #[.int .i64 (cntE (lE xs) p:Nat),.bool (hasE (lE xs) p)])∧Below w'.heap.size w' w''):=fun w' hw'=>ifind_any _ _ xs Ap cp p w' hfew ((HR.out.later hw').ensV) HEs.out.rise (short_of HEs.out hI) (HP.out.later hw')
  have HCl:Hid (∀ w',Below w.heap.size w w'→Calls Tryz.prog 42 #[.slice Ap p.length cp] w' fun e w''=>(∃ A' c',e=.returned (.slice A' p.length c')∧PlTy w'' A' c' p∧NewA M A')∧Below w'.heap.size w' w''):=fun w' hw'=>(clone_new _ _ _ w' (inO_short hI) (HP.out.later hw')).mono fun _ _ ⟨⟨A',c',h1,h2,h3⟩,h4⟩=>⟨⟨A',c',h1,h2,h3.le (Nat.le_trans hMw hw'.size)⟩,h4⟩
  have hcl:=cnt_le (lE xs) p
  rw [lE_len] at hcl
  rw [he,errV_zero] at h ⊢
  clear he hI
  cases hh:hasE (lE xs) p
  ·-- nothing stood there
   have HIn:Hid (∀ (w3:World) (A':Option Addr) (c':Nat),Below w.heap.size w w3→PlTy w3 A' c' p∧NewA M A'→Calls Tryz.prog 64 #[.slice (some ⟨g,0,none⟩) xs.length cg,.int .i64 (cntE (lE xs) p:Nat),.slice (some ⟨w3.heap.size,0,none⟩) 1 1] (ownEn w3 A' p.length c' N 68) fun e w' => ∃ g' cap' ys,e=.returned (.slice (some ⟨g',0,none⟩) (xs.length+1) cap')∧ys.length=xs.length+1∧RowE w' g' cap' ys∧lE ys=setL (lE xs) p N∧NewE M ys∧g≤g'∧(ownEn w3 A' p.length c' N 68).grownBy w' (some g)):=fun w3 A' c' hw' hT=>by
    have hb:=ownEn_below w3 A' p.length c' N 68
    have h1:=insert_any g cg (cntE (lE xs) p) w3.heap.size xs ⟨⟨p,N⟩,A',c'⟩ (ownEn w3 A' p.length c' N 68) hfew hcl (by have:=hw'.size;omega) ((HR.out.later hw').later hb) (hT.1.later hb) (heap_alloc_new w3 _)
    refine h1.mono ?_
    rintro e w' ⟨g',cap',rfl,hRow,hgg,hgr⟩
    exact ⟨g',cap',_,rfl,by simp;omega,hRow,by rw [lE_ins,set_new hh],hMx.put hT.2,hgg,hgr⟩
   have HFF:Hid (∀ w',Below w.heap.size w w'→Calls Tryz.prog 62 #[.slice (some ⟨g,0,none⟩) xs.length cg,.slice Ap p.length cp] w' fun e w''=>e=.returned (.tuple #[.int .i64 (cntE (lE xs) p:Nat),.bool false])∧Below w'.heap.size w' w''):=fun w' hw'=>by have h1:=HF.out w' hw';rw [hh] at h1;exact h1
   clear HF hh
   generalize cntE (lE xs) p=i at HFF HIn hcl
   obtain ⟨m,hm⟩:∃ m,p.length=m:=⟨_,rfl⟩
   obtain ⟨nx,hnx⟩:∃ nx,xs.length=nx:=⟨_,rfl⟩
   rw [hm] at h HB0 hS0 h00 h01 HCl HFF HIn ⊢
   rw [hnx] at HFF HIn hfew hcl ⊢
   clear hm hnx
   go_enter Tryz.func44,Tryz.ntmps44
   go_wp2_with fail
   refine h.mono ?_
   rintro e w1 ⟨rfl,hb1⟩
   have hB1:Below w.heap.size w w1:=onB HB0.out hb1
   have HB1:Hid (Below w.heap.size w w1):=hB1
   have c0:w1.cell? ⟨w.heap.size+1,0,none⟩=some (.slice Ap m cp):=(hb1.cell (p:=⟨w.heap.size+1,0,none⟩) (by show w.heap.size+1<_;omega)).trans h00
   have c1:w1.cell? ⟨w.heap.size+1,1,none⟩=some (.int .i64 N):=(hb1.cell (p:=⟨w.heap.size+1,1,none⟩) (by show w.heap.size+1<_;omega)).trans h01
   have hz1:w.heap.size+1<w1.heap.size:=by have:=hb1.size;omega
   have h2:=HFF.out w1 hB1
   clear hb1 h hB1 h00 h01 hS0
   go_wp2_with fail
   refine h2.mono ?_
   rintro e w2 ⟨rfl,hb2⟩
   have HB2:Hid (Below w.heap.size w w2):=onB HB1.out hb2
   have d0:w2.cell? ⟨w.heap.size+1,0,none⟩=some (.slice Ap m cp):=(hb2.cell (p:=⟨w.heap.size+1,0,none⟩) hz1).trans c0
   have d1:w2.cell? ⟨w.heap.size+1,1,none⟩=some (.int .i64 N):=(hb2.cell (p:=⟨w.heap.size+1,1,none⟩) hz1).trans c1
   have HBox:Hid (w.heap.size+1<w2.heap.size∧w.heap.size+1≠g∧w2.cell? ⟨w.heap.size+1,0,none⟩=some (.slice Ap m cp)∧w2.cell? ⟨w.heap.size+1,1,none⟩=some (.int .i64 N)):=⟨Nat.lt_of_lt_of_le hz1 hb2.size,by omega,d0,d1⟩
   clear hb2 c0 c1 h2 d0 d1
   go_wp2_with fail
   go_region_held3 (fun w'=>w2.grownBy w' (some g)∧w'.cell? ⟨w.heap.size+1,0,none⟩=some (.slice Ap m cp)∧w'.cell? ⟨w.heap.size+1,1,none⟩=some (.int .i64 N))
    ((refine keepG HBox.out ?_;(repeat (first | exact grown_refl _ _ | assumption | refine grown_drew ?_ | refine grown_set ?_ _ _ | refine grown_new ?_ _));done))
    (first | (go_at_call 42;refine (HCl.out _ (onB HB2.out (by go_grown))).mono ?_;rintro e w3 ⟨⟨A',c',rfl,hPT,hNw⟩,hb3⟩;have hN3:=onB (W0:=w2) (by go_grown) hb3;have hG3:w2.grownBy w3 (some g):=grown_below hN3;have HB3:Hid (Below w2.heap.size w2 w3):=hN3;have HPT:Hid (PlTy w3 A' c' p∧NewA M A'):=⟨hPT,hNw⟩;clear hb3 hN3 hPT hNw) | (go_at_call 64;refine (HIn.out w3 A' c' (onB HB2.out HB3.out) HPT.out).mono ?_;rintro e w4 ⟨g',cap',ys,rfl,hyl,hRow,hle,hnw,hgg,hgr⟩;have hG4:w2.grownBy w4 (some g):=grown_trans (grown_trans hG3 (grown_below (ownEn_below ..))) hgr;have HRow:Hid (RowE w4 g' cap' ys):=hRow;have HLE:Hid (lE ys=setL (lE xs) p N∧NewE M ys):=⟨hle,hnw⟩;have HYL:Hid (ys.length=nx+1):=hyl;clear hRow hle hgr hyl hnw))
   go_wp2_with fail
   go_ret2
   exact ⟨⟨some ⟨g',0,none⟩,cap',ys,by rw [HYL.out];rfl,Or.inr ⟨by trivial,g',rfl,hgg,HRow.out,HLE.out⟩⟩,grown_trans (grown_below HB2.out) hG4⟩
  ·-- something stood there
   obtain ⟨hso,hil,-⟩:=set_old hh N
   have HSN:Hid (∀ w',Below w.heap.size w w'→RowE (w'.setCell ⟨g,cntE (lE xs) p*2+1,none⟩ (.int .i64 N)) g cg (xs.set (cntE (lE xs) p) ⟨⟨(xs.getD (cntE (lE xs) p) noL).e.pl,N⟩,(xs.getD (cntE (lE xs) p) noL).A,(xs.getD (cntE (lE xs) p) noL).c⟩)∧w'.grownBy (w'.setCell ⟨g,cntE (lE xs) p*2+1,none⟩ (.int .i64 N)) (some g)):=fun w' hw'=>(HR.out.later hw').setN (by rw [lE_len] at hil;exact hil) N
   have HLE:Hid (lE (xs.set (cntE (lE xs) p) ⟨⟨(xs.getD (cntE (lE xs) p) noL).e.pl,N⟩,(xs.getD (cntE (lE xs) p) noL).A,(xs.getD (cntE (lE xs) p) noL).c⟩)=setL (lE xs) p N∧NewE M (xs.set (cntE (lE xs) p) ⟨⟨(xs.getD (cntE (lE xs) p) noL).e.pl,N⟩,(xs.getD (cntE (lE xs) p) noL).A,(xs.getD (cntE (lE xs) p) noL).c⟩)):=⟨by rw [lE_set,hso,lE_at],hMx.set (by rw [lE_len] at hil;exact hil) _ _⟩
   have HFF:Hid (∀ w',Below w.heap.size w w'→Calls Tryz.prog 62 #[.slice (some ⟨g,0,none⟩) xs.length cg,.slice Ap p.length cp] w' fun e w''=>e=.returned (.tuple #[.int .i64 (cntE (lE xs) p:Nat),.bool true])∧Below w'.heap.size w' w''):=fun w' hw'=>by have h1:=HF.out w' hw';rw [hh] at h1;exact h1
   have HYL:Hid ((xs.set (cntE (lE xs) p) ⟨⟨(xs.getD (cntE (lE xs) p) noL).e.pl,N⟩,(xs.getD (cntE (lE xs) p) noL).A,(xs.getD (cntE (lE xs) p) noL).c⟩).length=xs.length):=List.length_set
   rw [lE_len] at hil
   clear HF hh hso
   generalize xs.set (cntE (lE xs) p) ⟨⟨(xs.getD (cntE (lE xs) p) noL).e.pl,N⟩,(xs.getD (cntE (lE xs) p) noL).A,(xs.getD (cntE (lE xs) p) noL).c⟩=ys at HSN HLE HYL
   generalize cntE (lE xs) p=i at HFF HSN hcl hil
   obtain ⟨m,hm⟩:∃ m,p.length=m:=⟨_,rfl⟩
   obtain ⟨nx,hnx⟩:∃ nx,xs.length=nx:=⟨_,rfl⟩
   rw [hm] at h HB0 hS0 h00 h01 HCl HFF ⊢
   rw [hnx] at HFF hfew hcl hil HYL ⊢
   have hil':(i:Int)<(nx:Int):=by omega
   have hcg:nx≤cg:=by rw [←hnx];exact HR.out.2.1
   clear hm hnx HCl
   go_enter Tryz.func44,Tryz.ntmps44
   go_wp2_with fail
   refine h.mono ?_
   rintro e w1 ⟨rfl,hb1⟩
   have hB1:Below w.heap.size w w1:=onB HB0.out hb1
   have HB1:Hid (Below w.heap.size w w1):=hB1
   have c0:w1.cell? ⟨w.heap.size+1,0,none⟩=some (.slice Ap m cp):=(hb1.cell (p:=⟨w.heap.size+1,0,none⟩) (by show w.heap.size+1<_;omega)).trans h00
   have c1:w1.cell? ⟨w.heap.size+1,1,none⟩=some (.int .i64 N):=(hb1.cell (p:=⟨w.heap.size+1,1,none⟩) (by show w.heap.size+1<_;omega)).trans h01
   have hz1:w.heap.size+1<w1.heap.size:=by have:=hb1.size;omega
   have h2:=HFF.out w1 hB1
   clear hb1 h hB1 h00 h01 hS0
   go_wp2_with fail
   refine h2.mono ?_
   rintro e w2 ⟨rfl,hb2⟩
   have hB2:Below w.heap.size w w2:=onB HB1.out hb2
   have HB2:Hid (Below w.heap.size w w2):=hB2
   have d1:w2.cell? ⟨w.heap.size+1,1,none⟩=some (.int .i64 N):=(hb2.cell (p:=⟨w.heap.size+1,1,none⟩) hz1).trans c1
   obtain ⟨u,hu⟩:=Option.isSome_iff_exists.1 ((HR.out.later hB2).full (j:=i*2+1) (by omega))
   have hf:=(HR.out.later hB2).frozen (i*2+1)
   clear hb2 c0 c1 h2 hB2
   go_wp2_with fail
   go_ret2
   obtain ⟨r1,r2⟩:=HSN.out w2 HB2.out
   exact ⟨⟨some ⟨g,0,none⟩,cg,ys,by rw [HYL.out];rfl,Or.inr ⟨by trivial,g,rfl,Nat.le_refl _,r1,HLE.out⟩⟩,grown_trans (grown_below HB2.out) r2⟩
 ·have HV:Hid (errV (entOne D n ⟨p,N⟩)=.iface 45 (.int .i64 (entOne D n ⟨p,N⟩))):=errV_some he
  rw [errV_some he] at h
  have HE:Hid (entOne D n ⟨p,N⟩≠0):=he
  generalize entOne D n ⟨p,N⟩=E at h HV HE
  generalize p.length=m at h HB0
  generalize xs.length=nx
  clear he hS0 h00 h01 hfew
  go_enter Tryz.func44,Tryz.ntmps44
  go_wp2_with fail
  refine h.mono ?_
  rintro e w1 ⟨rfl,hb1⟩
  have HB1:Hid (Below w.heap.size w w1):=onB HB0.out hb1
  clear hb1
  go_wp2_with fail
  go_ret2
  rw [HV.out]
  exact ⟨⟨none,0,[],rfl,Or.inl ⟨HE.out,rfl,rfl,rfl⟩⟩,grown_below HB1.out⟩
theorem edit_clr {D:Nat→Dm} {n:Nat} {l:List En} (hR:(allErr D n).2.2=0) (p:List Int) (N:Int):editErr D n l ⟨p,N,true⟩=if placeErr D n p≠0 then placeErr D n p else if hasE l p=true then 0 else 5:=by
 rw [pe1 hR]
 unfold editErr
 rfl
theorem clr_in {l:List En} {p:List Int} (h:hasE l p=true):cntE l p<l.length:=(set_old h 0).2.1
set_option maxHeartbeats 8000000 in
theorem without_any {M:Nat} (A0:Option Addr) (cap n:Nat) (D:Nat→Dm) (A:Nat→Option Addr) (C:Nat→Nat) (g cg:Nat) (xs:List EnL) (Ap:Option Addr) (cp:Nat) (p:List Int) (N:Int) (w:World) (hM:DimsV w A0 cap n D A C) (hP:PlAt w Ap cp p) (hR:RowE w g cg xs) (hEs:Ens D n (lE xs)) (hMx:NewE M xs) :
  Calls Tryz.prog 43 #[.agg #[.slice A0 n cap],.slice (some ⟨g,0,none⟩) xs.length cg,.slice Ap p.length cp] w fun e w'=>Edited M w g (editErr D n (lE xs) ⟨p,N,true⟩) (clrL (lE xs) p) e w':=by
 have hV:=edit_clr (l:=lE xs) hEs.right p N
 have hB0:=ownOut_below w A0 n cap 25
 have h:=pcheck_any A0 cap n D A C Ap cp p (ownOut w A0 n cap 25) (hM.later hB0) (hP.later hB0)
 have HB0:Hid (Below w.heap.size w (ownOut w A0 n cap 25)):=hB0
 have HP:Hid (PlAt w Ap cp p):=hP
 have HR:Hid (RowE w g cg xs):=hR
 have HEs:Hid (Ens D n (lE xs)):=hEs
 have hfew:=few_of hEs
 unfold Edited
 clear hM hP hB0 hR
 by_cases hp:placeErr D n p=0
 ·rw [if_neg (by simpa using hp)] at hV
  have hI:=inO_of hp
  have HF:Hid (∀ w',Below w.heap.size w w'→Calls Tryz.prog 62 #[.slice (some ⟨g,0,none⟩) xs.length cg,.slice Ap p.length cp] w' fun e w''=>e=.returned (.tuple #[.int .i64 (cntE (lE xs) p:Nat),.bool (hasE (lE xs) p)])∧Below w'.heap.size w' w''):=fun w' hw'=>ifind_any _ _ xs Ap cp p w' hfew ((HR.out.later hw').ensV) HEs.out.rise (short_of HEs.out hI) (HP.out.later hw')
  rw [hp,errV_zero] at h
  clear hp hI
  cases hh:hasE (lE xs) p
  ·rw [hh,if_neg (by simp)] at hV
   have HV:Hid (errV (editErr D n (lE xs) ⟨p,N,true⟩)=.iface 45 (.int .i64 5)∧editErr D n (lE xs) ⟨p,N,true⟩≠0):=by rw [hV];exact ⟨rfl,by decide⟩
   have HFF:Hid (∀ w',Below w.heap.size w w'→Calls Tryz.prog 62 #[.slice (some ⟨g,0,none⟩) xs.length cg,.slice Ap p.length cp] w' fun e w''=>e=.returned (.tuple #[.int .i64 (cntE (lE xs) p:Nat),.bool false])∧Below w'.heap.size w' w''):=fun w' hw'=>by have h1:=HF.out w' hw';rw [hh] at h1;exact h1
   clear HF hh hV
   generalize cntE (lE xs) p=i at HFF
   generalize editErr D n (lE xs) ⟨p,N,true⟩=E at HV
   obtain ⟨m,hm⟩:∃ m,p.length=m:=⟨_,rfl⟩
   obtain ⟨nx,hnx⟩:∃ nx,xs.length=nx:=⟨_,rfl⟩
   rw [hm] at h HFF ⊢
   rw [hnx] at HFF hfew ⊢
   clear hm hnx
   go_enter Tryz.func43,Tryz.ntmps43
   go_wp2_with fail
   refine h.mono ?_
   rintro e w1 ⟨rfl,hb1⟩
   have hB1:Below w.heap.size w w1:=onB HB0.out hb1
   have HB1:Hid (Below w.heap.size w w1):=hB1
   have h2:=HFF.out w1 hB1
   clear hb1 h hB1
   go_wp2_with fail
   refine h2.mono ?_
   rintro e w2 ⟨rfl,hb2⟩
   have HB2:Hid (Below w.heap.size w w2):=onB HB1.out hb2
   clear hb2 h2
   go_wp2_with fail
   go_ret2
   rw [HV.out.1]
   exact ⟨⟨none,0,[],rfl,Or.inl ⟨HV.out.2,rfl,rfl,rfl⟩⟩,grown_below HB2.out⟩
  ·rw [hh,if_pos rfl] at hV
   have hil:=clr_in hh
   rw [lE_len] at hil
   have HDel:Hid (∀ w',Below w.heap.size w w'→Calls Tryz.prog 63 #[.slice (some ⟨g,0,none⟩) xs.length cg,.int .i64 (cntE (lE xs) p:Nat),.int .i64 ((cntE (lE xs) p:Int)+1)] w' fun e w''=>e=.returned (.slice (some ⟨g,0,none⟩) (xs.length-1) cg)∧RowE w'' g cg (xs.take (cntE (lE xs) p) ++ xs.drop (cntE (lE xs) p+1))∧w'.grownBy w'' (some g)):=fun w' hw'=>delete_any g cg (cntE (lE xs) p) xs w' hfew hil (HR.out.later hw')
   have HLE:Hid (lE (xs.take (cntE (lE xs) p) ++ xs.drop (cntE (lE xs) p+1))=clrL (lE xs) p∧NewE M (xs.take (cntE (lE xs) p) ++ xs.drop (cntE (lE xs) p+1))):=⟨by unfold clrL;rw [lE_append,lE_take,lE_drop],hMx.cut⟩
   have HYL:Hid ((xs.take (cntE (lE xs) p) ++ xs.drop (cntE (lE xs) p+1)).length=xs.length-1):=by show _=_;simp;omega
   have HFF:Hid (∀ w',Below w.heap.size w w'→Calls Tryz.prog 62 #[.slice (some ⟨g,0,none⟩) xs.length cg,.slice Ap p.length cp] w' fun e w''=>e=.returned (.tuple #[.int .i64 (cntE (lE xs) p:Nat),.bool true])∧Below w'.heap.size w' w''):=fun w' hw'=>by have h1:=HF.out w' hw';rw [hh] at h1;exact h1
   rw [hV,errV_zero]
   clear HF hh hV
   generalize hys:xs.take (cntE (lE xs) p) ++ xs.drop (cntE (lE xs) p+1)=ys at HDel HLE HYL
   clear hys
   generalize cntE (lE xs) p=i at HFF HDel hil
   obtain ⟨m,hm⟩:∃ m,p.length=m:=⟨_,rfl⟩
   obtain ⟨nx,hnx⟩:∃ nx,xs.length=nx:=⟨_,rfl⟩
   rw [hm] at h HFF ⊢
   rw [hnx] at HFF HDel hfew hil HYL ⊢
   have hil':(i:Int)<(nx:Int):=by omega
   clear hm hnx
   go_enter Tryz.func43,Tryz.ntmps43
   go_wp2_with fail
   refine h.mono ?_
   rintro e w1 ⟨rfl,hb1⟩
   have hB1:Below w.heap.size w w1:=onB HB0.out hb1
   have HB1:Hid (Below w.heap.size w w1):=hB1
   have h2:=HFF.out w1 hB1
   clear hb1 h hB1
   go_wp2_with fail
   refine h2.mono ?_
   rintro e w2 ⟨rfl,hb2⟩
   have hB2:Below w.heap.size w w2:=onB HB1.out hb2
   have HB2:Hid (Below w.heap.size w w2):=hB2
   have h3:=HDel.out w2 hB2
   clear hb2 h2 hB2
   go_wp2_with fail
   refine h3.mono ?_
   rintro e w3 ⟨rfl,hRow,hgr⟩
   have HRow:Hid (RowE w3 g cg ys):=hRow
   have HG:Hid (w2.grownBy w3 (some g)):=hgr
   clear hRow hgr h3
   go_wp2_with fail
   go_ret2
   exact ⟨⟨some ⟨g,0,none⟩,cg,ys,by rw [HYL.out];rfl,Or.inr ⟨by trivial,g,rfl,Nat.le_refl _,HRow.out,HLE.out⟩⟩,grown_trans (grown_below HB2.out) HG.out⟩
 ·rw [if_pos (by simpa using hp)] at hV
  have HV:Hid (errV (editErr D n (lE xs) ⟨p,N,true⟩)=.iface 45 (.int .i64 (placeErr D n p))∧editErr D n (lE xs) ⟨p,N,true⟩≠0):=by rw [hV];exact ⟨errV_some hp,hp⟩
  rw [errV_some hp] at h
  clear hp hV
  generalize placeErr D n p=F at h HV
  generalize editErr D n (lE xs) ⟨p,N,true⟩=E at HV
  generalize p.length=m at h
  generalize xs.length=nx
  clear hfew
  go_enter Tryz.func43,Tryz.ntmps43
  go_wp2_with fail
  refine h.mono ?_
  rintro e w1 ⟨rfl,hb1⟩
  have HB1:Hid (Below w.heap.size w w1):=onB HB0.out hb1
  clear hb1
  go_wp2_with fail
  go_ret2
  rw [HV.out.1]
  exact ⟨⟨none,0,[],rfl,Or.inl ⟨HV.out.2,rfl,rfl,rfl⟩⟩,grown_below HB1.out⟩
theorem fresh_of {D:Nat→Dm} {n:Nat} {xs:List EnL} (hEs:Ens D n (lE xs)):∀ k,k<xs.length→(xs.getD k noL).e.pl.length≤4:=fun k hk=>by
 have h1:(xs.getD k noL).e∈lE xs:=List.mem_map.2 ⟨_,enl_mem hk,rfl⟩
 exact inO_short (hEs.each _ h1).1
theorem len_eq {xs ys:List EnL} (h:lE ys=lE xs):ys.length=xs.length:=by rw [←lE_len,h,lE_len]
end Go.Proofs.YtbhanigcjdegjaaGreatDoor
