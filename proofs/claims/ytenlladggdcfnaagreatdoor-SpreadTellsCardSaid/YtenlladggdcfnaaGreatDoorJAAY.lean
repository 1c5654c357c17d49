/-
  Two places put together: what slices.Grow of nothing and slices.Concat answer, called in whatever memory: a place in a block of ints of its own.
-/
import Derived.Lib.AppendZerosOnto
import Derived.Laws.AppendOwnNone
import Derived.Test.YtenlladggdcfnaaGreatDoorJAAU
import Derived.Test.YtenlladggdcfnaaGreatDoorJAAX
namespace Go.Proofs.YtenlladggdcfnaaGreatDoor
open Go Go.ChangeShapes Go.WideShapes Go.ChangeAt Go.RowKit
set_option maxRecDepth 20000
set_option maxHeartbeats 4000000 in
theorem grow_any (n:Nat) (w:World) (h1:1≤n) (h8:n≤8):Calls Tryz.prog 103 #[.slice none 0 0,.int .i64 n] w fun e w'=>(∃ v,e=.returned v∧w'.ownsRow w.heap.size 3 1 v 0 [])∧Below w.heap.size w w':=by
 obtain ⟨i0,hi0,hz0,hz1,hz2⟩:=info_parts Tryz.infoIntP
 have hn0 : ¬ ((n:Int)<0):=by omega
 have hn1:(n:Int) > 0:=by omega
 have hn8:(n:Int)≤8:=by omega
 have hold:(Builtin.firstCells i0.size 0 (.slice none 0 0)).run Tryz.prog w.drew=.ok (([]:List Value).toArray) w.drew:=by rw [hz1];exact run_firstCells_none w.drew 1 0 0 0
 have hrz:∀ ty,(Builtin.append_ #[27,3] ty #[.slice none 0 0,.int .i64 (n:Int)]).run Tryz.prog w=_:=fun ty=>Lib.run_append_grow_zeros w 27 3 ty 3 i0 (.int .i64 0) .i64 .i64 Tryz.underlying27 Tryz.underlying3 hi0 hz0 none 0 0 [] hold n (by omega) (by omega) (by omega) (by omega) (by rw [hz2];omega) (by rw [hz2,Nat.zero_add];exact growslice_fits (by omega) (by omega))
 rw [Nat.zero_add] at hrz
 have hGn:n≤grownCap w n 0 3:=grownCap_ge w _ _ _
 have hGm:=grownCap_le_maxLen w n 0 3 (by unfold maxLen;omega)
 obtain ⟨G,hG⟩:∃ G,G=grownCap w n 0 3:=⟨_,rfl⟩
 rw [←hG] at hrz hGn hGm
 have hG63:G≤9223372036854775807:=by unfold maxLen at hGm;omega
 obtain ⟨cs,hcs⟩:∃ cs,cs=([]:List Value).toArray ++ Builtin.zeroCells (Value.int .i64 0).cells n ++ Builtin.zeroCells (Value.int .i64 0).cells (G-n):=⟨_,rfl⟩
 have hsz:cs.size=G:=by rw [hcs];simp [Builtin.zeroCells,Value.cells];omega
 rw [←hcs] at hrz
 have HO:Hid ((w.drew.alloc (.cells cs 3)).ownsRow w.heap.size 3 1 (.slice (some ⟨w.heap.size,0,none⟩) 0 G) 0 []):=⟨rfl,Or.inr ⟨w.heap.size,G,cs,rfl,Nat.le_refl _,heap_alloc_new w.drew _,Nat.zero_le _,hGm,by rw [hsz];omega,by simp⟩⟩
 have HB:Hid (Below w.heap.size w (w.drew.alloc (.cells cs 3))):=by show Below _ _ _;go_grown
 clear hold hG hcs hsz hGm
 go_enter Tryz.func103,Tryz.ntmps103
 go_wp2_with (at_builtin;refine Lib.wpList_append_run _ rfl _ _ _ _ rfl _ _ rfl rfl _ _ (hrz _) ?_)
 all_goals go_ret
 all_goals exact ⟨⟨_,rfl,HO.out⟩,HB.out⟩
def HeadV (w:World) (A:Option Addr) (c:Nat) (L:List Int):Prop:=(A=none∧c=0∧L=[])∨(L≠[]∧PlTy w A c L)
theorem HeadV.pl {w:World} {A:Option Addr} {c:Nat} {L:List Int} (h:HeadV w A c L):PlAt w A c L:=by
 rcases h with ⟨rfl,rfl,rfl⟩ | ⟨-,h⟩
 ·exact PlAt.nil _ _ _
 ·exact h.pl
theorem HeadV.later {w w':World} {A:Option Addr} {c:Nat} {L:List Int} (h:HeadV w A c L) (hB:Below w.heap.size w w'):HeadV w' A c L:=by
 rcases h with h | ⟨h1,h⟩
 ·exact Or.inl h
 ·exact Or.inr ⟨h1,h.later hB⟩
theorem HeadV.cells {w:World} {b o c:Nat} {L:List Int} (h:HeadV w (some ⟨b,o,none⟩) c L):∀ j u,(L.map (Value.int .i64))[j]?=some u→w.cell? ((⟨b,o,none⟩:Addr).add j)=some u:=by
 intro j u hj
 obtain ⟨-,h0 | ⟨b',o',h0,-,hcell⟩⟩:=h.pl
 ·subst h0;simp at hj
 ·cases h0
  have hlt:j<L.length:=by have:=(List.getElem?_eq_some_iff.1 hj).1;simpa using this
  rw [plain_add,hcell j hlt]
  simp only [List.getElem?_map,List.getElem?_eq_getElem hlt,Option.map_some,Option.some.injEq] at hj
  rw [←hj,List.getD_eq_getElem?_getD,List.getElem?_eq_getElem hlt]
  rfl
theorem one_at {w:World} {q:Nat} {x:Value} (h:w.cell? ⟨q,0,none⟩=some x):∀ j u,[x][j]?=some u→w.cell? ((⟨q,0,none⟩:Addr).add j)=some u:=by
 intro j u hj
 cases j with
 | zero =>
  simp at hj
  rw [plain_add,←hj]
  exact h
 | succ j=>simp at hj
set_option maxHeartbeats 8000000 in
theorem concat_any (b bk:Nat) (Ah:Option Addr) (ch:Nat) (h:List Int) (k:Int) (w:World) (h3:h.length≤3) (hH:HeadV w Ah ch h) (c0:w.cell? ⟨b,0,none⟩=some (.slice Ah h.length ch)) (c1:w.cell? ⟨b,1,none⟩=some (.slice (some ⟨bk,0,none⟩) 1 1)) (ck:w.cell? ⟨bk,0,none⟩=some (.int .i64 k)) :
  Calls Tryz.prog 75 #[.slice (some ⟨b,0,none⟩) 2 2] w fun e w'=>(∃ A' c',e=.returned (.slice A' (h ++ [k]).length c')∧PlTy w' A' c' (h ++ [k]))∧Below w.heap.size w w':=by
 obtain ⟨i0,hi0,hz0,hz1,hz2⟩:=info_parts Tryz.infoIntP
 have HH:Hid (HeadV w Ah ch h):=hH
 have zb:=World.block_lt_of_cell? _ _ c0
 have zk:=World.block_lt_of_cell? _ _ ck
 have HCells:Hid (w.cell? ⟨b,0,none⟩=some (.slice Ah h.length ch)∧w.cell? ⟨b,1,none⟩=some (.slice (some ⟨bk,0,none⟩) 1 1)∧w.cell? ⟨bk,0,none⟩=some (.int .i64 k)):=⟨c0,c1,ck⟩
 obtain ⟨nh,hnh⟩:∃ nh,h.length=nh:=⟨_,rfl⟩
 have HNH:Hid (h.length=nh):=hnh
 have hgr:=grow_any (nh+1) w (by omega) (by omega)
 have hnh3:(nh:Int)≤3:=by omega
 have hcast:((nh+1:Nat):Int)=(nh:Int)+1:=by omega
 rw [hcast] at hgr
 rw [hnh] at c0
 have HF:Hid (∀ (w':World) (v:Value),w'.ownsRow w.heap.size 3 1 v (nh+1) ((h ++ [k]).map (Value.int .i64))→∃ A' c',v=.slice A' (h ++ [k]).length c'∧PlTy w' A' c' (h ++ [k])):=fun w' v hv=>plty_own (by rw [List.length_append,HNH.out];exact hv)
 clear hH hnh hcast
 go_enter Tryz.func75,Tryz.ntmps75
 go_wp2_with fail
 refine wp_loop_rounds 3 ?_
 rw [rounds_succ]
 go_wp2_with fail
 rw [rounds_succ]
 go_wp2_with fail
 rw [rounds_succ]
 go_wp2_with fail
 refine hgr.mono ?_
 rintro e w1 ⟨⟨v,rfl,hown⟩,hb1⟩
 have HB1:Hid (Below w.heap.size w w1):=hb1
 have HO1:Hid (w1.ownsRow w.heap.size 3 1 v 0 []):=hown
 have x0:=(hb1.cell (p:=⟨b,0,none⟩) zb).trans HCells.out.1
 have x1:=(hb1.cell (p:=⟨b,1,none⟩) zb).trans HCells.out.2.1
 rw [HNH.out] at x0
 clear hb1 hown hgr c0 c1 ck
 go_wp2_with fail
 refine wp_loop_rounds 3 ?_
 rw [rounds_succ]
 cases Ah with
 | none =>
  have h0:h=[]∧ch=0:=by
   rcases HH.out with ⟨-,h2,h1⟩ | ⟨h1,h2⟩
   ·exact ⟨h1,h2⟩
   ·obtain ⟨-,h4 | ⟨b',o',cs,fr,h4,-⟩⟩:=h2
    ·exact absurd h4 h1
    ·cases h4
  obtain ⟨rfl,rfl⟩:=h0
  have hn0:nh=0:=by have:=HNH.out;simp at this;exact this.symm
  subst hn0
  go_wp2_with (at_builtin;refine wpList_append_own_none rfl _ _ 27 rfl w.heap.size 3 i0 1 Tryz.underlying27 hi0 _ 0 _ rfl HO1.out rfl ?_)
  rw [rounds_succ]
  have ck1:=(HB1.out.cell (p:=⟨bk,0,none⟩) zk).trans HCells.out.2.2
  have hsz:=HB1.out.size
  clear x0
  go_wp2_with (at_builtin;refine wpList_append_own _ rfl _ _ 27 rfl w.heap.size 3 i0 (.int .i64 0) 1 8 Tryz.underlying27 hi0 hz0 hz1 hz2 rfl (by decide) _ _ _ rfl HO1.out ⟨bk,0,none⟩ 1 1 [.int .i64 k] rfl rfl ?qc2 one_one ?qc4 ?qc5 ?qc6 ?_)
  case qc2=>exact one_at ck1
  case qc4=>simp only [maxLen];omega
  case qc5=>omega
  case qc6=>exact hsz
  intro v' w2 hown hgrow hnil
  obtain ⟨A',c',rfl,hT⟩:=HF.out _ _ hown
  have HT:Hid (PlTy w2 A' c' ([] ++ [k])):=hT
  have HB:Hid (Below w.heap.size w w2):=HB1.out.grown hgrow hsz (fun j hj=>(HO1.out.lt j hj).1)
  clear hown hgrow hnil hT
  go_wp2_with fail
  rw [rounds_succ]
  go_wp2_with fail
  go_ret
  exact ⟨⟨A',c',rfl,HT.out⟩,HB.out⟩
 | some a =>
  obtain ⟨b',o',rfl⟩:∃ b' o',a=⟨b',o',none⟩:=by
   rcases HH.out with ⟨h1,-⟩ | ⟨h1,-,h4 | ⟨b',o',cs,fr,h4,-⟩⟩
   ·cases h1
   ·exact absurd h4 h1
   ·cases h4;exact ⟨b',o',rfl⟩
  have hsz:=HB1.out.size
  have HHc:=(HH.out.later HB1.out).cells
  go_wp2_with (at_builtin;refine wpList_append_own _ rfl _ _ 27 rfl w.heap.size 3 i0 (.int .i64 0) 1 8 Tryz.underlying27 hi0 hz0 hz1 hz2 rfl (by decide) _ _ _ rfl HO1.out ⟨b',o',none⟩ nh ch (h.map (Value.int .i64)) rfl ?qc1 ?qc2 ?qc3 ?qc4 ?qc5 ?qc6 ?_)
  case qc1=>simp [HNH.out]
  case qc2=>exact HHc
  case qc3=>intro u hu;simp at hu;obtain ⟨x,-,rfl⟩:=hu;rfl
  case qc4=>simp only [maxLen];omega
  case qc5=>omega
  case qc6=>exact hsz
  intro v2 w2 hown hgrow hnil
  have HO2:Hid (w2.ownsRow w.heap.size 3 1 v2 nh (h.map (Value.int .i64))):=by
   show World.ownsRow ..
   simpa using hown
  have hne:∀ q,q<w.heap.size→some q≠v.ownBlock:=fun q hq e=>by have:=(HO1.out.lt q e.symm).1;omega
  have y1:=(World.cell?_of_block (a:=⟨b,1,none⟩) (hgrow.block b (Nat.lt_of_lt_of_le zb hsz) (hne b zb))).trans x1
  have yk:=(World.cell?_of_block (a:=⟨bk,0,none⟩) (hgrow.block bk (Nat.lt_of_lt_of_le zk hsz) (hne bk zk))).trans ((HB1.out.cell (p:=⟨bk,0,none⟩) zk).trans HCells.out.2.2)
  have HB2:Hid (Below w.heap.size w w2):=HB1.out.grown hgrow hsz (fun j hj=>(HO1.out.lt j hj).1)
  have hsz2:=HB2.out.size
  clear hown hgrow hnil hne HHc x0 x1
  go_wp2_with fail
  rw [rounds_succ]
  go_wp2_with (at_builtin;refine wpList_append_own _ rfl _ _ 27 rfl w.heap.size 3 i0 (.int .i64 0) 1 8 Tryz.underlying27 hi0 hz0 hz1 hz2 rfl (by decide) _ _ _ rfl HO2.out ⟨bk,0,none⟩ 1 1 [.int .i64 k] rfl rfl ?qd2 one_one ?qd4 ?qd5 ?qd6 ?_)
  case qd2=>exact one_at yk
  case qd4=>simp only [maxLen];omega
  case qd5=>omega
  case qd6=>exact hsz2
  intro v' w3 hown hgrow hnil
  obtain ⟨A',c',rfl,hT⟩:=HF.out w3 v' (by rw [List.map_append];simpa using hown)
  have HT:Hid (PlTy w3 A' c' (h ++ [k])):=hT
  have HB:Hid (Below w.heap.size w w3):=HB2.out.grown hgrow hsz2 (fun j hj=>(HO2.out.lt j hj).1)
  clear hown hgrow hnil hT
  go_wp2_with fail
  rw [rounds_succ]
  go_wp2_with fail
  go_ret
  exact ⟨⟨A',c',rfl,HT.out⟩,HB.out⟩
end Go.Proofs.YtenlladggdcfnaaGreatDoor
namespace Go.Proofs.YtenlladggdcfnaaGreatDoor
open Go.ChangeShapes Go.WideShapes Go.ChangeAt Go.RowKit
set_option maxRecDepth 20000
theorem MemsAt.grown {w w':World} {b o n:Nat} {M:Nat→Mem} {r:Option Nat} (h:MemsAt w b o n M) (hG:w.grownBy w' r) (hr:some b≠r):MemsAt w' b o n M:=by
 have hb:w'.heap[b]?=w.heap[b]?:=hG.block b h.1 hr
 have hc:∀ k,w'.cell? ⟨b,k,none⟩=w.cell? ⟨b,k,none⟩:=fun k=>World.cell?_of_block (a:=⟨b,k,none⟩) hb
 refine ⟨Nat.lt_of_lt_of_le h.1 hG.size,fun i hi=>?_⟩
 obtain ⟨h0,h1,h2,h3⟩:=h.2 i hi
 exact ⟨(hc _).trans h0,(hc _).trans h1,(hc _).trans h2,(hc _).trans h3⟩
def noSg (d:Dm) (k:Int):Bool:=decide ((d.mem k.toNat).sign=0)
theorem noSg_sg (d:Dm):(fun x => !noSg d x)=sgB d:=by
 funext x
 unfold noSg sgB
 by_cases h:(d.mem x.toNat).sign=0 <;> simp [h]
theorem ent_sign (args:Array Value) (w:World):(callFunc 121 args).run Tryz.prog w=.ok (.enter 121 args) w:=by simp [go_sem]
theorem rsign_any (d:Dm) (b o cap q k:Nat) (w:World) (hk:k<d.n) (hn:d.n≤12) (hM:MemsAt w b o d.n d.mem) (hc:w.cell? ⟨q,2,none⟩=some (.slice (some ⟨b,o,none⟩) d.n cap)) :
  Calls Tryz.prog 121 #[.int .i64 k,.pointer (some ⟨q,0,none⟩)] w fun e w'=>e=.returned (.bool (noSg d k))∧Below w.heap.size w w':=by
 obtain ⟨-,-,h2,-⟩:=hM.2 k hk
 have hki:(k:Int)<(d.n:Int):=by omega
 have hni:(d.n:Int)≤12:=by omega
 unfold noSg
 rw [Int.toNat_natCast]
 generalize (d.mem k).sign=sg at h2 ⊢
 generalize d.n=n at *
 clear hM
 go_enter Tryz.func121,Tryz.ntmps121
 go_wp2_with fail
 go_ret
 exact ⟨by by_cases h:sg=0 <;> simp [h],Below.refl _ _⟩
theorem memErr_form {M:Nat→Mem} {i:Nat} (h:memErr M i=0):(M i).formula.size≤100:=by
 unfold memErr at h
 split at h
 ·simp at h
 ·split at h
  ·simp at h
  ·split at h
   ·simp at h
   ·split at h
    ·simp at h
    ·split at h
     ·simp at h
     ·split at h
      ·simp at h
      ·omega
theorem rf_mem {d:Dm} (hd:(dimErr d).2=0) {i:Nat} (hf:(d.mem i).formula.size≠0):rfE d (d.mem i).formula=mErr d i∧rfL d (d.mem i).formula=lst (mErr d i) (mNd d i):=by
 have e:rfE d (d.mem i).formula=mErr d i:=by
  unfold rfE mErr nmsOf
  rw [if_neg hf]
 refine ⟨e,?_⟩
 unfold rfL lst
 rw [e]
 by_cases h:mErr d i=0
 ·rw [if_pos h,if_pos h]
  refine sort_need hd hf h ?_
  unfold mErr at h
  rw [if_neg hf] at h
  split at h
  ·rename_i h1;exact absurd h h1
  ·rename_i h1;simpa using h1
 ·rw [if_neg h,if_neg h]
set_option maxHeartbeats 4000000 in
theorem rmember_any (d:Dm) (A:Option Addr) (cap i:Nat) (w:World) (hd:(dimErr d).2=0) (hi:i<d.n) (hM:MemsV w A cap d.n d.mem) :
  Calls Tryz.prog 92 #[dimV d A cap,.int .i64 i] w fun e w'=>(∃ A' c',e=.returned (.tuple #[.slice A' (lst (mErr d i) (mNd d i)).length c',errV (mErr d i)])∧IntT w' A' c' (lst (mErr d i) (mNd d i)))∧Below w.heap.size w w':=by
 obtain ⟨-,-,hd2,hall⟩:=dimErr_right hd
 obtain ⟨hcap,h0 | ⟨b,o,rfl,hMs⟩⟩:=hM
 ·omega
 have hB0:=ownDim_below w d (some ⟨b,o,none⟩) cap 81
 have hS:=ownDim_size w d (some ⟨b,o,none⟩) cap 81
 obtain ⟨o0,o1,o2⟩:=ownDim_at w d (some ⟨b,o,none⟩) cap 81
 unfold dimV
 obtain ⟨W,hW⟩:∃ W,ownDim w d (some ⟨b,o,none⟩) cap 81=W:=⟨_,rfl⟩
 rw [hW] at hB0 hS o0 o1 o2
 unfold ownDim at hW
 have hMW:=hMs.later hB0
 obtain ⟨-,-,-,c3⟩:=hMW.2 i hi
 have hii:(i:Int)<(d.n:Int):=by omega
 have hni:(d.n:Int)≤12:=by omega
 have hq:w.heap.size<W.heap.size:=by omega
 have HB0:Hid (Below w.heap.size w W):=hB0
 by_cases hf:(d.mem i).formula.size=0
 ·have hf':(d.mem i).formula.toList.isEmpty=true:=by rw [empty_same];simpa using hf
  have hme:mErr d i=0:=by unfold mErr;rw [if_pos hf]
  rw [hme,lst_ok rfl,errV_zero]
  have hpa:=parts_own d (some ⟨b,o,none⟩) cap i W hd hi ⟨hcap,Or.inr ⟨b,o,rfl,hMW⟩⟩
  unfold dimV at hpa
  have HNd:Hid ((partsOf d.mem d.n i).filter (sgB d)=mNd d i):=parts_need hf
  have HPl:Hid ((partsOf d.mem d.n i).length≤12):=Nat.le_trans (selTo_len _ _) hd2
  have HPm:Hid (∀ x∈partsOf d.mem d.n i,∃ k:Nat,x=(k:Int)∧k<d.n):=fun x hx=>by
   obtain ⟨m,h1,h2,-⟩:=selTo_mem x hx
   exact ⟨m,h1,h2⟩
  have HMW:Hid (MemsAt W b o d.n d.mem):=hMW
  have HO2:Hid (W.cell? ⟨w.heap.size,2,none⟩=some (.slice (some ⟨b,o,none⟩) d.n cap)):=o2
  generalize (d.mem i).formula=fm at c3 hf'
  clear hMs hall hf hme
  go_enter Tryz.func92,Tryz.ntmps92
  go_wp2_with fail
  refine hpa.mono ?_
  rintro e w1 ⟨⟨v1,rfl,hO1⟩,hb1⟩
  have HB1:Hid (Below W.heap.size W w1):=hb1
  have hq1:w.heap.size<w1.heap.size:=by have:=hb1.size;omega
  have hdel:=delf_any 121 #[.pointer (some ⟨w.heap.size,0,none⟩)] (noSg d) ent_sign W.heap.size v1 (partsOf d.mem d.n i) w1 (by have:=HPl.out;omega) hO1 fun x w' hx hG=>by
   obtain ⟨k,rfl,hk⟩:=HPm.out x hx
   have hown:∀ j,v1.ownBlock=some j→W.heap.size≤j:=fun j hj=>(hO1.lt j hj).1
   have hbw:b<W.heap.size:=HMW.out.1
   have hne:∀ j,j<W.heap.size→some j≠v1.ownBlock:=fun j hj e=>by have:=hown j e.symm;omega
   refine rsign_any d b o cap w.heap.size k w' hk hd2 ((HMW.out.later hb1).grown hG (hne b hbw)) ?_
   have h1:w1.cell? ⟨w.heap.size,2,none⟩=some (.slice (some ⟨b,o,none⟩) d.n cap):=(hb1.cell (p:=⟨w.heap.size,2,none⟩) hq).trans HO2.out
   rw [World.cell?_of_block (a:=⟨w.heap.size,2,none⟩) (hG.block w.heap.size hq1 (hne _ hq))]
   exact h1
  rw [noSg_sg,HNd.out] at hdel
  have HBd:Hid (∀ w',w1.grownBy w' v1.ownBlock→Below w.heap.size w w'):=fun w' hG=>(onB HB0.out hb1).grown hG (by have:=HB0.out.size;have:=hb1.size;omega) fun j hj=>by have:=(hO1.lt j hj).1;omega
  clear hO1 hb1 hpa
  go_wp2_with fail
  refine hdel.mono ?_
  rintro e w2 ⟨⟨A2,c2,rfl,hT⟩,hG⟩
  have HT:Hid (IntT w2 A2 c2 (mNd d i)):=hT
  have HB2:Hid (Below w.heap.size w w2):=HBd.out w2 hG
  clear hT hG hdel
  go_wp2_with fail
  go_ret2
  exact ⟨⟨A2,c2,rfl,HT.out⟩,HB2.out⟩
 ·have hf':(d.mem i).formula.toList.isEmpty=false:=by rw [empty_same];simpa using hf
  obtain ⟨e1,e2⟩:=rf_mem hd hf
  have hIs:IsF d w.heap.size W:=fun s w' hB=>is_any d b o cap w.heap.size s w' hd2 (hMW.later hB) (Nat.lt_of_lt_of_le hq hB.size) ((hB.cell (p:=⟨w.heap.size,2,none⟩) hq).trans o2)
  have hrf:=refs_any d w.heap.size (d.mem i).formula W (memErr_form (hall i hi)) hIs
  rw [←e2,←e1]
  unfold isV at hrf
  obtain ⟨fm,hfm⟩:∃ fm,(d.mem i).formula=fm:=⟨_,rfl⟩
  rw [hfm] at c3 hf' hrf ⊢
  generalize rfL d fm=L at hrf ⊢
  generalize errV (rfE d fm)=ev at hrf ⊢
  clear hMs hall hf hIs hMW e1 e2 hfm
  go_enter Tryz.func92,Tryz.ntmps92
  go_wp2_with fail
  refine hrf.mono ?_
  rintro e w1 ⟨⟨A1,c1,rfl,hT⟩,hb1⟩
  have HT:Hid (IntT w1 A1 c1 L):=hT
  clear hT hrf
  go_wp2_with fail
  go_ret2
  exact ⟨⟨A1,c1,rfl,HT.out⟩,onB HB0.out hb1⟩
def ndTo (d:Dm) (k:Nat):List (List Int):=(List.range k).map (mNd d)
theorem ndTo_snoc (d:Dm) (k:Nat):ndTo d (k+1)=ndTo d k ++ [mNd d k]:=by simp [ndTo,List.range_succ]
theorem nd_rows {d:Dm} {xs:List RL} (h:lR xs=ndL d):∀ x∈xs,x.p.Nodup∧x.p.length≤d.n:=fun x hx=>by
 have h1:x.p∈ndL d:=by rw [←h];exact List.mem_map.2 ⟨x,hx,rfl⟩
 obtain ⟨i,-,e⟩:=List.mem_map.1 h1
 rw [←e]
 exact ⟨rise_nodup (mNd_rise d i),mNd_len d i⟩
theorem dim_cells {w w1:World} {d:Dm} {A:Option Addr} {cap:Nat} (hB:Below (ownDim w d A cap 81).heap.size (ownDim w d A cap 81) w1):w1.cell? ⟨w.heap.size,0,none⟩=some (.string d.name)∧w1.cell? ⟨w.heap.size,1,none⟩=some (.int .i64 d.solve)∧w1.cell? ⟨w.heap.size,2,none⟩=some (.slice A d.n cap)∧w.heap.size<w1.heap.size:=by
 have hS:=ownDim_size w d A cap 81
 obtain ⟨o0,o1,o2⟩:=ownDim_at w d A cap 81
 have hl:w.heap.size<(ownDim w d A cap 81).heap.size:=by omega
 exact ⟨(hB.cell (p:=⟨w.heap.size,0,none⟩) hl).trans o0,(hB.cell (p:=⟨w.heap.size,1,none⟩) hl).trans o1,(hB.cell (p:=⟨w.heap.size,2,none⟩) hl).trans o2,by have:=hB.size;omega⟩
set_option maxHeartbeats 4000000 in
theorem rneeds_any (d:Dm) (A:Option Addr) (cap:Nat) (w:World) (hM:MemsV w A cap d.n d.mem) :
  Calls Tryz.prog 68 #[dimV d A cap] w fun e w'=>(∃ A' c' xs,e=.returned (.tuple #[.slice A' xs.length c',.int .i64 (rErr d).1,errV (rErr d).2])∧RowsV w' A' c' xs∧((rErr d).2=0→lR xs=ndL d))∧Below w.heap.size w w':=by
 have hB0:=ownDim_below w d A cap 81
 have hck:=dcheck_any d A cap (ownDim w d A cap 81) (hM.later hB0)
 have HM:Hid (MemsV w A cap d.n d.mem):=hM
 have HDC:Hid (∀ w1,Below (ownDim w d A cap 81).heap.size (ownDim w d A cap 81) w1→w1.cell? ⟨w.heap.size,0,none⟩=some (.string d.name)∧w1.cell? ⟨w.heap.size,1,none⟩=some (.int .i64 d.solve)∧w1.cell? ⟨w.heap.size,2,none⟩=some (.slice A d.n cap)∧w.heap.size<w1.heap.size):=fun w1 h=>dim_cells h
 unfold dimV at hck ⊢
 obtain ⟨W,hW⟩:∃ W,ownDim w d A cap 81=W:=⟨_,rfl⟩
 rw [hW] at hB0 hck HDC
 unfold ownDim at hW
 have HB0:Hid (Below w.heap.size w W):=hB0
 clear hM hB0
 by_cases hd:(dimErr d).2=0
 case neg =>
  rw [re0 hd]
  rw [errV_some hd] at hck ⊢
  have HE:Hid ((dimErr d).2≠0):=hd
  generalize (dimErr d).1=x at hck ⊢
  generalize (dimErr d).2=c at hck HE ⊢
  obtain ⟨d0,d1,d2,hqW⟩:=HDC.out W (Below.refl _ _)
  clear hd
  go_enter Tryz.func68,Tryz.ntmps68
  go_wp2_with fail
  refine hck.mono ?_
  rintro e w1 ⟨rfl,hb1⟩
  go_wp2_with fail
  go_returns
  exact ⟨⟨none,0,[],rfl,RowsV.nil _ _ _,fun e=>absurd e HE.out⟩,onB HB0.out hb1⟩
 obtain ⟨hd1,hdn,hd12,-⟩:=dimErr_right hd
 have HD:Hid ((dimErr d).2=0):=hd
 rw [hd,hd1,errV_zero] at hck
 obtain ⟨i0,hi0,hz0,hz1,hz2⟩:=info_parts Tryz.infoRow
 obtain ⟨n,hn⟩:∃ n,d.n=n:=⟨_,rfl⟩
 have HNn:Hid (d.n=n):=hn
 rw [hn] at hck hW HDC hdn hd12 ⊢
 have hmk:∀ w',(Instr.makeSlice 94 (.int .i64 0) (.int .i64 (n:Int))).run Tryz.prog w'=.ok (.slice (some ⟨w'.heap.size,0,none⟩) 0 n) (w'.alloc (.cells (madeCells #[.slice none 0 0] n) 22)):=fun w'=>by
  have h:=run_make (P:=Tryz.prog) w' 94 22 i0 _ Tryz.underlying94 hi0 hz0 .i64 .i64 0 n (Int.le_refl _) (by omega) (by rw [hz2];omega) (by omega)
  simp only [Int.toNat_natCast,hz1,Nat.mul_one] at h
  exact h
 have hnI:(n:Int)≤12:=by omega
 obtain ⟨d0,d1,d2,hqW⟩:=HDC.out W (Below.refl _ _)
 clear hd hn hd1
 go_enter Tryz.func68,Tryz.ntmps68
 go_wp2_with fail
 refine hck.mono ?_
 rintro e w1 ⟨rfl,hb1⟩
 obtain ⟨c0,c1,c2,hq1⟩:=HDC.out w1 hb1
 have HB1:Hid (Below W.heap.size W w1):=hb1
 clear hb1 hck c0 c1 d0 d1 d2 hW
 obtain ⟨W1,hW1⟩:∃ W1,w1.alloc (.cells (madeCells #[.slice none 0 0] n) 22)=W1:=⟨_,rfl⟩
 have hBW1:Below w1.heap.size w1 W1:=by rw [←hW1];exact (Below.refl _ _).alloc (Nat.le_refl _) _
 have HBW1:Hid (Below w1.heap.size w1 W1):=hBW1
 have HOW1:Hid (W1.ownsRow w1.heap.size 22 1 (.slice (some ⟨w1.heap.size,0,none⟩) 0 n) 0 []):=by
  rw [←hW1]
  exact World.ownsRow_made w1 _ n (Nat.le_refl _) (by unfold maxLen;omega) (by simp [madeCells])
 obtain ⟨-,-,c2',hq1'⟩:=HDC.out W1 (onB HB1.out hBW1)
 clear hBW1
 go_wp2_with fail
 clear hW1 hmk
 go_loopg [7,28] n (fun g s7 s28 wr => ∃ (k:Nat) (xs:List RL),k≤n∧g=n-k∧s28=.int .i64 k∧Hid (lR xs=ndTo d k∧(∀ j,j<k→mErr d j=0)∧∀ x∈xs,IntT wr x.A x.c x.p)∧wr.ownsRow w1.heap.size 22 1 s7 xs.length (cellsR xs)∧Below w1.heap.size w1 wr)
 case atStart=>exact ⟨0,[],Nat.zero_le _,rfl,rfl,(⟨rfl,fun j hj=>absurd hj (Nat.not_lt_zero _),fun x hx=>by cases hx⟩:_∧_∧_),HOW1.out,HBW1.out⟩
 case round =>
  obtain ⟨k,xs,hk,rfl,rfl,HX,hO,hBw⟩:=hrel
  have HO:Hid (wr.ownsRow w1.heap.size 22 1 u7 xs.length (cellsR xs)):=hO
  have HBw:Hid (Below w1.heap.size w1 wr):=hBw
  have HXl:Hid (xs.length=k):=by
   have h:=HX.out.1
   show _=_
   rw [←lR_len,h]
   simp [ndTo]
  obtain ⟨c0,c1,c2,hq⟩:=HDC.out wr (onB HB1.out hBw)
  by_cases hlt:k<n
  ·have hki:(k:Int)<(n:Int):=by omega
   have hme:=rmember_any d A cap k wr HD.out (by rw [HNn.out];exact hlt) (HM.out.later (onB HB0.out (onB HB1.out hBw)))
   unfold dimV at hme
   rw [HNn.out] at hme
   by_cases he:mErr d k=0
   ·rw [lst_ok he,he,errV_zero] at hme
    have HE:Hid (mErr d k=0):=he
    obtain ⟨r,hr⟩:∃ r,(mNd d k).length=r:=⟨_,rfl⟩
    have HR:Hid ((mNd d k).length=r):=hr
    rw [hr] at hme
    clear hO hBw he hr
    go_wp2_with fail
    refine hme.mono ?_
    rintro e w2 ⟨⟨A2,c2',rfl,hT⟩,hb2⟩
    have HB2:Hid (Below w1.heap.size w1 w2):=onB HBw.out hb2
    have HO2:Hid (w2.ownsRow w1.heap.size 22 1 u7 k (cellsR xs)):=by
     have h:=own_later HO.out hb2
     rw [HXl.out] at h
     exact h
    have HT2:Hid (IntT w2 A2 c2' (mNd d k)):=hT
    have HX2:Hid (∀ x∈xs,IntT w2 x.A x.c x.p):=fun x hx=>(HX.out.2.2 x hx).later hb2
    have hsz:=HB2.out.size
    clear hT hb2 hme c0 c1 c2
    go_wp2_with (at_builtin;refine wpList_append_own _ rfl _ _ 94 rfl w1.heap.size 22 i0 (.slice none 0 0) 1 24 Tryz.underlying94 hi0 hz0 hz1 hz2 rfl (by decide) _ _ _ rfl (HO2.out.alloc _) ⟨w2.heap.size,0,none⟩ 1 1 [.slice A2 r c2'] rfl rfl one_cell (by intro u hu;simp at hu;subst hu;rfl) (by unfold maxLen;omega) (by omega) (by simp;omega) ?_)
    intro v' w3 hown' hgrow _
    have HB3:Hid (Below w1.heap.size w1 w3):=grown_own HB2.out HO2.out hgrow
    have HX3:Hid (lR (xs ++ [(⟨mNd d k,A2,c2'⟩:RL)])=ndTo d (k+1)∧(∀ j,j<k+1→mErr d j=0)∧∀ x∈xs ++ [(⟨mNd d k,A2,c2'⟩:RL)],IntT w3 x.A x.c x.p):=by
     refine ⟨by rw [lR_append,HX.out.1,ndTo_snoc];rfl,fun j hj=>?_,fun x hx=>?_⟩
     ·by_cases e:j=k
      ·rw [e];exact HE.out
      ·exact HX.out.2.1 j (by omega)
     ·rcases List.mem_append.1 hx with hx | hx
      ·exact ((HX2.out x hx).later (by go_grown)).row (HO2.out.alloc _) hgrow
      ·rw [List.mem_singleton.1 hx]
       exact (HT2.out.later (by go_grown)).row (HO2.out.alloc _) hgrow
    have HO3:Hid (w3.ownsRow w1.heap.size 22 1 v' (xs ++ [(⟨mNd d k,A2,c2'⟩:RL)]).length (cellsR (xs ++ [(⟨mNd d k,A2,c2'⟩:RL)]))):=by
     show World.ownsRow ..
     rw [cellsR_append,List.length_append,HXl.out]
     have e:cellsR [(⟨mNd d k,A2,c2'⟩:RL)]=[.slice A2 r c2']:=by simp [cellsR,HR.out]
     rw [e]
     exact hown'
    clear hown' hgrow
    go_wp2_with fail
    go_roundg (n-(k+1))
    case measure=>omega
    case rel=>exact ⟨k+1,_,by omega,rfl,by go_num,HX3,HO3.out,HB3.out⟩
   ·have HRe:Hid (rErr d=((k:Int),mErr d k)):=re1 HD.out (i:=k) (by rw [HNn.out];exact hlt) he HX.out.2.1
    have HE:Hid (mErr d k≠0):=he
    rw [lst_bad he,errV_some he] at hme
    generalize mErr d k=ec at hme HE HRe
    clear hO hBw he
    go_wp2_with fail
    refine hme.mono ?_
    rintro e w2 ⟨⟨A2,c2',rfl,-⟩,hb2⟩
    go_wp2_with fail
    go_returns
    rw [HRe.out]
    exact ⟨⟨none,0,[],by rw [errV_some HE.out];rfl,RowsV.nil _ _ _,fun e=>absurd e HE.out⟩,onB HB0.out (onB HB1.out (onB HBw.out hb2))⟩
  ·have hke:k=n:=by omega
   subst hke
   have HL:Hid (lR xs=ndL d):=by show _=_;rw [HX.out.1,←HNn.out];rfl
   have HAll:Hid (∀ j,j<d.n→mErr d j=0):=by rw [HNn.out];exact HX.out.2.1
   obtain ⟨Ar,cr,hv,hRv⟩:=rows_own hO HX.out.2.2
   subst hv
   have HRv:Hid (RowsV wr Ar cr xs):=hRv
   have HBa:Hid (Below w.heap.size w wr):=onB HB0.out (onB HB1.out hBw)
   clear hO hBw hRv c0 c1 c2 HDC
   rw [HXl.out]
   obtain ⟨w4,rfl⟩:∃ w4:World,w4=wr:=⟨_,rfl⟩
   go_wp2_with fail
   go_loopg [48] k (fun g s48 wi => ∃ (j:Nat),j≤k∧g=k-j∧s48=.int .i64 j∧Hid (∀ t,t<j→cycB (ndL d) t=false)∧Below w4.heap.size w4 wi)
   case atStart=>exact ⟨0,Nat.zero_le _,rfl,rfl,(fun t ht=>absurd ht (Nat.not_lt_zero _):∀ t,t<0→_),Below.refl _ _⟩
   case round =>
    obtain ⟨j,hj,rfl,rfl,HCy,hBj⟩:=hrel
    have HBj:Hid (Below w4.heap.size w4 wr):=hBj
    by_cases hlt:j<k
    ·have hji:(j:Int)<(k:Int):=by omega
     have hrc:=rureach_any Ar cr xs j wr (by rw [HXl.out];exact hd12) (by rw [HXl.out];exact hlt) (by rw [HL.out];exact ndL_inn d) (fun x hx=>by
      have h:=nd_rows HL.out x hx
      rw [HNn.out] at h
      exact ⟨h.1,by omega⟩) (HRv.out.later hBj)
     rw [HXl.out,HL.out] at hrc
     clear hBj
     go_wp2_with fail
     refine hrc.mono ?_
     rintro e w5 ⟨⟨A5,c5,R,rfl,hI5,hR12,hRr⟩,hb5⟩
     have hct:=contains_ints A5 c5 R j w5 hR12 hI5
     have HB5:Hid (Below w4.heap.size w4 w5):=onB HBj.out hb5
     have HIn:Hid (inB R j=cycB (ndL d) j):=by
      show _=_
      rw [Bool.eq_iff_iff,cyc_iff,←hRr]
      unfold inB
      exact decide_eq_true_iff
     rw [HIn.out] at hct
     generalize R.length=m at hct
     clear hrc hb5 hI5 hRr hR12
     cases hcy:cycB (ndL d) j
     ·rw [hcy] at hct
      have HCy2:Hid (∀ t,t<j+1→cycB (ndL d) t=false):=fun t ht=>by
       by_cases e:t=j
       ·rw [e];exact hcy
       ·exact HCy.out t (by omega)
      clear hcy
      go_wp2_with fail
      refine hct.mono ?_
      rintro e w6 ⟨rfl,hb6⟩
      have HB6:Hid (Below w4.heap.size w4 w6):=onB HB5.out hb6
      clear hb6 hct
      go_wp2_with fail
      go_roundg (k-(j+1))
      case measure=>omega
      case rel=>exact ⟨j+1,by omega,rfl,by go_num,HCy2,HB6.out⟩
     ·rw [hcy] at hct
      have HRe:Hid (rErr d=((j:Int),8)):=re2 HD.out HAll.out (by rw [HNn.out];exact hlt) hcy HCy.out
      clear hcy
      go_wp2_with fail
      refine hct.mono ?_
      rintro e w6 ⟨rfl,hb6⟩
      have HB6:Hid (Below w4.heap.size w4 w6):=onB HB5.out hb6
      clear hb6 hct
      go_wp2_with fail
      go_returns
      rw [HRe.out]
      exact ⟨⟨none,0,[],rfl,RowsV.nil _ _ _,fun e=>by cases e⟩,onB HBa.out HB6.out⟩
    ·have hje:j=k:=by omega
     subst hje
     have HRe:Hid (rErr d=(-1,0)):=re3 HD.out HAll.out (by rw [HNn.out];exact HCy.out)
     clear hBj
     go_wp2_with fail
     go_returns
     rw [HRe.out]
     exact ⟨⟨Ar,cr,xs,by rw [HXl.out];rfl,HRv.out.later HBj.out,fun _=>HL.out⟩,onB HBa.out HBj.out⟩
end Go.Proofs.YtenlladggdcfnaaGreatDoor
