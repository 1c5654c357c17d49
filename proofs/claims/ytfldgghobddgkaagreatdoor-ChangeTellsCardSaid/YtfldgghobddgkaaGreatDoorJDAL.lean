/-
  An outline in rows of a call's own: its dims, and each dim's members in a row of their own, apart from each other; lists of dims and of members copied so.
-/
import Derived.Test.YtfldgghobddgkaaGreatDoorJDAK
namespace Go.Proofs.YtfldgghobddgkaaGreatDoor
open Go.ChangeShapes Go.WideShapes Go.ChangeAt Go.RowKit
set_option maxRecDepth 20000
theorem rowF_mc (M:Nat→Mem) (n:Nat):rowF (mcV M) (n*4)=cellsMb M n:=by
 refine List.ext_getElem? fun j=>?_
 by_cases hj:j<n*4
 ·rw [rowF_get _ hj]
  obtain ⟨x0,x1,x2,x3⟩:=cellsMb_at M n (j / 4) (by omega)
  unfold mcV
  split
  ·rw [show (cellsMb M n)[j]?=(cellsMb M n)[j / 4*4]? from congrArg (fun t=>(cellsMb M n)[t]?) (by omega)];exact x0.symm
  ·split
   ·rw [show (cellsMb M n)[j]?=(cellsMb M n)[j / 4*4+1]? from congrArg (fun t=>(cellsMb M n)[t]?) (by omega)];exact x1.symm
   ·split
    ·rw [show (cellsMb M n)[j]?=(cellsMb M n)[j / 4*4+2]? from congrArg (fun t=>(cellsMb M n)[t]?) (by omega)];exact x2.symm
    ·rw [show (cellsMb M n)[j]?=(cellsMb M n)[j / 4*4+3]? from congrArg (fun t=>(cellsMb M n)[t]?) (by omega)];exact x3.symm
 ·rw [List.getElem?_eq_none (by rw [rowF_len];omega),List.getElem?_eq_none (by rw [cellsMb_len];omega)]
theorem rowF_dc (D:Nat→Dm) (A:Nat→Option Addr) (C:Nat→Nat) (n:Nat):rowF (dcV D A C) (n*3)=cellsDo D A C n:=by
 refine List.ext_getElem? fun j=>?_
 by_cases hj:j<n*3
 ·rw [rowF_get _ hj]
  obtain ⟨x0,x1,x2⟩:=cellsDo_at D A C n (j / 3) (by omega)
  unfold dcV
  split
  ·rw [show (cellsDo D A C n)[j]?=(cellsDo D A C n)[j / 3*3]? from congrArg (fun t=>(cellsDo D A C n)[t]?) (by omega)];exact x0.symm
  ·split
   ·rw [show (cellsDo D A C n)[j]?=(cellsDo D A C n)[j / 3*3+1]? from congrArg (fun t=>(cellsDo D A C n)[t]?) (by omega)];exact x1.symm
   ·rw [show (cellsDo D A C n)[j]?=(cellsDo D A C n)[j / 3*3+2]? from congrArg (fun t=>(cellsDo D A C n)[t]?) (by omega)];exact x2.symm
 ·rw [List.getElem?_eq_none (by rw [rowF_len];omega),List.getElem?_eq_none (by rw [cellsDo_len];omega)]
set_option maxHeartbeats 2000000 in
theorem mclone_own (b o c n:Nat) (M:Nat→Mem) (w:World) (hn0:0<n) (hn:n≤12) (hL:MemsAt w b o n M):Calls Tryz.prog 42 #[.slice (some ⟨b,o,none⟩) n c] w fun e w'=>(∃ g c',e=.returned (.slice (some ⟨g,0,none⟩) n c')∧w'.ownsRow w.heap.size 43 4 (.slice (some ⟨g,0,none⟩) n c') n (cellsMb M n))∧Below w.heap.size w w':=by
 have hq:∀ (w:World) (a:Option Addr) (n c n' c':Nat),(binOp .eql 39 (.slice a n c) (.slice none n' c')).run Tryz.prog w=.ok (.bool a.isNone) w:=fun w a n c n' c'=>Lib.run_eql_slice_nil w _ _ a n c n' c' Tryz.underlying39
 obtain ⟨i0,hi0,hz0,hz1,hz2⟩:=info_parts Tryz.infoMemH
 have HC:Hid (∀ j u,(rowF (mcV M) (n*4))[j]?=some u→w.cell? ((⟨b,o,none⟩:Addr).add j)=some u):=fun j u hj=>by
  obtain ⟨h1,rfl⟩:=rowF_at hj
  rw [plain_add]
  exact hL.mc h1
 have HF:Hid (∀ (w':World) (v:Value),w'.ownsRow w.heap.size 43 4 v n (rowF (mcV M) (n*4))→∃ g c',v=.slice (some ⟨g,0,none⟩) n c'∧w'.ownsRow w.heap.size 43 4 (.slice (some ⟨g,0,none⟩) n c') n (cellsMb M n)):=fun w' v h=>by
  rw [rowF_mc] at h
  rcases h.2 with ⟨rfl,h0⟩ | ⟨g,cap,cur,rfl,_⟩
  ·omega
  ·exact ⟨g,cap,rfl,h⟩
 have hl:(rowF (mcV M) (n*4)).length=n*4:=rowF_len _ _
 have h1:=mcV_one M (n*4)
 generalize rowF (mcV M) (n*4)=R at HC HF hl h1
 clear hL
 go_enter Tryz.func42,Tryz.ntmps42
 go_wp2_with (at_builtin;refine wpList_append_own _ rfl _ _ 39 rfl w.heap.size 43 i0 (.agg #[.string ⟨#[]⟩,.int .i64 0,.int .i64 0,.string ⟨#[]⟩]) 4 48 Tryz.underlying39 hi0 hz0 hz1 hz2 rfl (by decide) _ _ _ rfl (World.ownsRow_made w #[] 0 (Nat.le_refl _) (Nat.zero_le _) (by simp)) ⟨b,o,none⟩ n c R rfl ?qc1 ?qc2 ?qc3 ?qc4 ?qc5 ?qc6 ?_)
 case qc1=>exact hl
 case qc2=>exact fun j u hj=>Lib.cell?_alloc_some _ (HC.out j u hj)
 case qc3=>exact h1
 case qc4=>simp only [maxLen];omega
 case qc5=>omega
 case qc6=>simp
 intro v' w1 hown hgrow hnil
 obtain ⟨g,c',rfl,hg⟩:=HF.out _ _ (by simpa using hown)
 have HT:=hid_of hg
 have HB:Hid (Below w.heap.size w w1):=((Below.refl _ w).alloc (Nat.le_refl _) _).grown hgrow (by simp) (by intro k hk;simp [Value.ownBlock] at hk;omega)
 clear hown hgrow hnil hg
 go_wp2_with fail
 go_ret
 exact ⟨⟨g,c',rfl,HT.out⟩,HB.out⟩
set_option maxHeartbeats 2000000 in
theorem dclone_own (b o c n:Nat) (D:Nat→Dm) (A:Nat→Option Addr) (C:Nat→Nat) (w:World) (hn0:0<n) (hn:n≤4) (hL:DimsAt w b o n D A C):Calls Tryz.prog 40 #[.slice (some ⟨b,o,none⟩) n c] w fun e w'=>(∃ g c',e=.returned (.slice (some ⟨g,0,none⟩) n c')∧w'.ownsRow w.heap.size 41 3 (.slice (some ⟨g,0,none⟩) n c') n (cellsDo D A C n))∧Below w.heap.size w w':=by
 have hq:∀ (w:World) (a:Option Addr) (n c n' c':Nat),(binOp .eql 22 (.slice a n c) (.slice none n' c')).run Tryz.prog w=.ok (.bool a.isNone) w:=fun w a n c n' c'=>Lib.run_eql_slice_nil w _ _ a n c n' c' Tryz.underlying22
 obtain ⟨i0,hi0,hz0,hz1,hz2⟩:=info_parts Tryz.infoDimH
 have HC:Hid (∀ j u,(rowF (dcV D A C) (n*3))[j]?=some u→w.cell? ((⟨b,o,none⟩:Addr).add j)=some u):=fun j u hj=>by
  obtain ⟨h1,rfl⟩:=rowF_at hj
  rw [plain_add]
  exact hL.dc h1
 have HF:Hid (∀ (w':World) (v:Value),w'.ownsRow w.heap.size 41 3 v n (rowF (dcV D A C) (n*3))→∃ g c',v=.slice (some ⟨g,0,none⟩) n c'∧w'.ownsRow w.heap.size 41 3 (.slice (some ⟨g,0,none⟩) n c') n (cellsDo D A C n)):=fun w' v h=>by
  rw [rowF_dc] at h
  rcases h.2 with ⟨rfl,h0⟩ | ⟨g,cap,cur,rfl,_⟩
  ·omega
  ·exact ⟨g,cap,rfl,h⟩
 have hl:(rowF (dcV D A C) (n*3)).length=n*3:=rowF_len _ _
 have h1:=dcV_one D A C (n*3)
 generalize rowF (dcV D A C) (n*3)=R at HC HF hl h1
 clear hL
 go_enter Tryz.func40,Tryz.ntmps40
 go_wp2_with (at_builtin;refine wpList_append_own _ rfl _ _ 22 rfl w.heap.size 41 i0 (.agg #[.string ⟨#[]⟩,.int .i64 0,.slice none 0 0]) 3 48 Tryz.underlying22 hi0 hz0 hz1 hz2 rfl (by decide) _ _ _ rfl (World.ownsRow_made w #[] 0 (Nat.le_refl _) (Nat.zero_le _) (by simp)) ⟨b,o,none⟩ n c R rfl ?qc1 ?qc2 ?qc3 ?qc4 ?qc5 ?qc6 ?_)
 case qc1=>exact hl
 case qc2=>exact fun j u hj=>Lib.cell?_alloc_some _ (HC.out j u hj)
 case qc3=>exact h1
 case qc4=>simp only [maxLen];omega
 case qc5=>omega
 case qc6=>simp
 intro v' w1 hown hgrow hnil
 obtain ⟨g,c',rfl,hg⟩:=HF.out _ _ (by simpa using hown)
 have HT:=hid_of hg
 have HB:Hid (Below w.heap.size w w1):=((Below.refl _ w).alloc (Nat.le_refl _) _).grown hgrow (by simp) (by intro k hk;simp [Value.ownBlock] at hk;omega)
 clear hown hgrow hnil hg
 go_wp2_with fail
 go_ret
 exact ⟨⟨g,c',rfl,HT.out⟩,HB.out⟩
/-! rows of a call's own: what stays, what is stored -/
theorem ow_keep {w w':World} {B e size n:Nat} {v:Value} {xs:List Value} (h:w.ownsRow B e size v n xs) (hk:∀ b cs,B≤b→w.heap[b]?=some (.cells cs e (0,0))→w'.heap[b]?=w.heap[b]?):w'.ownsRow B e size v n xs:=by
 refine ⟨h.1,?_⟩
 rcases h.2 with h4 | ⟨g,cap,cur,h4,hb,hg,h5⟩
 ·exact Or.inl h4
 ·exact Or.inr ⟨g,cap,cur,h4,hb,(hk g cur hb hg).trans hg,h5⟩
theorem ow_base {w:World} {B B' e size n:Nat} {v:Value} {xs:List Value} (h:w.ownsRow B e size v n xs) (hB:B'≤B):w.ownsRow B' e size v n xs:=by
 refine ⟨h.1,?_⟩
 rcases h.2 with h4 | ⟨g,cap,cur,h4,hb,hg,h5⟩
 ·exact Or.inl h4
 ·exact Or.inr ⟨g,cap,cur,h4,Nat.le_trans hB hb,hg,h5⟩
theorem ow_same {w:World} {B e size n g cap j:Nat} {xs:List Value} {u:Value} (h:w.ownsRow B e size (.slice (some ⟨g,0,none⟩) n cap) n xs) (hu:xs[j]?=some u):(w.setCell ⟨g,j,none⟩ u).ownsRow B e size (.slice (some ⟨g,0,none⟩) n cap) n xs:=by
 have h1:=(h.stored j u).1
 rwa [show xs.set j u=xs from by
  refine List.ext_getElem? fun k=>?_
  rw [List.getElem?_set]
  split
  ·rename_i e;subst e;rw [hu];simp [(List.getElem?_eq_some_iff.1 hu).1]
  ·rfl] at h1
theorem ow_off {w:World} {B e size n g j:Nat} {v u:Value} {xs:List Value} (h:w.ownsRow B e size v n xs) (hne:v.ownBlock≠some g):(w.setCell ⟨g,j,none⟩ u).ownsRow B e size v n xs:=by
 refine ⟨h.1,?_⟩
 rcases h.2 with h4 | ⟨g',cap,cur,rfl,hb,hg,h5⟩
 ·exact Or.inl h4
 ·exact Or.inr ⟨g',cap,cur,rfl,hb,(setCell_off _ _ _ _ _ fun e=>hne (by rw [e];rfl)).trans hg,h5⟩
theorem ow_blk {w:World} {B e size n g cap:Nat} {xs:List Value} (h:w.ownsRow B e size (.slice (some ⟨g,0,none⟩) n cap) n xs):B≤g∧g<w.heap.size∧n≤cap∧cap≤maxLen∧∃ cur,w.heap[g]?=some (.cells cur e (0,0)):=by
 rcases h.2 with ⟨h',_⟩ | ⟨g',cap',cur,h',hb,hg,hnc,hcm,_⟩
 ·cases h'
 ·cases h'
  exact ⟨hb,(Array.getElem?_eq_some_iff.1 hg).1,hnc,hcm,cur,hg⟩
theorem ow_mems {w:World} {B n g cap:Nat} {M:Nat→Mem} (h:w.ownsRow B 43 4 (.slice (some ⟨g,0,none⟩) n cap) n (cellsMb M n)):MemsAt w g 0 n M:=by
 refine ⟨(ow_blk h).2.1,fun i hi=>?_⟩
 obtain ⟨x0,x1,x2,x3⟩:=cellsMb_at M n i hi
 refine ⟨?_,?_,?_,?_⟩
 ·rw [Nat.zero_add,h.cellAt _ (by omega)];exact x0
 ·rw [Nat.zero_add,h.cellAt _ (by omega)];exact x1
 ·rw [Nat.zero_add,h.cellAt _ (by omega)];exact x2
 ·rw [Nat.zero_add,h.cellAt _ (by omega)];exact x3
structure OwD (w:World) (B g cd n:Nat) (D:Nat→Dm) (G C:Nat→Nat):Prop where
 dims:w.ownsRow B 41 3 (.slice (some ⟨g,0,none⟩) n cd) n (cellsDo D (fun i=>some ⟨G i,0,none⟩) C n)
 mems:∀ i,i<n→w.ownsRow B 43 4 (.slice (some ⟨G i,0,none⟩) (D i).n (C i)) (D i).n (cellsMb (D i).mem (D i).n)
 apart:∀ i j,i<n→j<n→i≠j→G i≠G j
theorem OwD.keep {w w':World} {B g cd n:Nat} {D:Nat→Dm} {G C:Nat→Nat} (h:OwD w B g cd n D G C) (hk:∀ b cs e,B≤b→w.heap[b]?=some (.cells cs e (0,0))→e=41∨e=43→w'.heap[b]?=w.heap[b]?):OwD w' B g cd n D G C :=
 ⟨ow_keep h.dims fun b cs hb hg=>hk b cs _ hb hg (Or.inl rfl),fun i hi=>ow_keep (h.mems i hi) fun b cs hb hg=>hk b cs _ hb hg (Or.inr rfl),h.apart⟩
theorem OwD.later {w w':World} {B g cd n:Nat} {D:Nat→Dm} {G C:Nat→Nat} (h:OwD w B g cd n D G C) (hB:Below w.heap.size w w'):OwD w' B g cd n D G C :=
 h.keep fun b _ _ _ hg _=>hB.block b (Array.getElem?_eq_some_iff.1 hg).1
theorem OwD.toV {w:World} {B g cd n:Nat} {D:Nat→Dm} {G C:Nat→Nat} (h:OwD w B g cd n D G C):DimsV w (some ⟨g,0,none⟩) cd n D (fun i=>some ⟨G i,0,none⟩) C:=by
 obtain ⟨A0,cap,e,hV⟩:=dims_own h.dims fun j hj=>by
  obtain ⟨A1,c1,h1,h2⟩:=memT_own (h.mems j hj)
  cases h1
  exact h2
 cases e
 exact hV
def FrW (w wr:World) (g cg k n:Nat) (D:Nat→Dm) (A:Nat→Option Addr) (C:Nat→Nat):Prop := ∃ G C':Nat→Nat,wr.ownsRow w.heap.size 41 3 (.slice (some ⟨g,0,none⟩) n cg) n (cellsDo D (fun i=>if i<k then some ⟨G i,0,none⟩ else A i) (fun i=>if i<k then C' i else C i) n)∧(∀ i,i<k→wr.ownsRow w.heap.size 43 4 (.slice (some ⟨G i,0,none⟩) (D i).n (C' i)) (D i).n (cellsMb (D i).mem (D i).n))∧∀ i j,i<k→j<k→i≠j→G i≠G j
theorem FrW.later {w wr w':World} {g cg k n:Nat} {D:Nat→Dm} {A:Nat→Option Addr} {C:Nat→Nat} (h:FrW w wr g cg k n D A C) (hB:Below wr.heap.size wr w'):FrW w w' g cg k n D A C:=by
 obtain ⟨G,C',h1,h2,h3⟩:=h
 exact ⟨G,C',own_later h1 hB,fun i hi=>own_later (h2 i hi) hB,h3⟩
theorem FrW.row {w wr:World} {g cg k n:Nat} {D:Nat→Dm} {A:Nat→Option Addr} {C:Nat→Nat} (h:FrW w wr g cg k n D A C) (hk:k<n):w.heap.size≤g∧g<wr.heap.size∧n≤cg∧wr.cell? ⟨g,k*3,none⟩=some (.string (D k).name)∧wr.cell? ⟨g,k*3+1,none⟩=some (.int .i64 (D k).solve)∧wr.cell? ⟨g,k*3+2,none⟩=some (.slice (A k) (D k).n (C k))∧∀ j,wr.frozen? ⟨g,j,none⟩=false:=by
 obtain ⟨G,C',h1,-,-⟩:=h
 obtain ⟨b1,b2,b3,-,-⟩:=ow_blk h1
 obtain ⟨x0,x1,x2⟩:=cellsDo_at D (fun i=>if i<k then some ⟨G i,0,none⟩ else A i) (fun i=>if i<k then C' i else C i) n k hk
 simp only [Nat.lt_irrefl,if_false] at x2
 exact ⟨b1,b2,b3,by rw [h1.cellAt _ (by omega)];exact x0,by rw [h1.cellAt _ (by omega)];exact x1,by rw [h1.cellAt _ (by omega)];exact x2,fun j=>h1.frozenAt j⟩
theorem FrW.name {w wr:World} {g cg k n:Nat} {D:Nat→Dm} {A:Nat→Option Addr} {C:Nat→Nat} (h:FrW w wr g cg k n D A C) (hk:k<n):FrW w (wr.setCell ⟨g,k*3,none⟩ (.string (D k).name)) g cg k n D A C:=by
 obtain ⟨G,C',h1,h2,h3⟩:=h
 obtain ⟨-,-,-,-,cur,hg⟩:=ow_blk h1
 exact ⟨G,C',ow_same h1 (cellsDo_at D _ _ n k hk).1,fun i hi=>ow_off (h2 i hi) (own_ne (h2 i hi) hg (by decide)),h3⟩
theorem FrW.put {w wy wr:World} {g cg k n gm cm:Nat} {D:Nat→Dm} {A:Nat→Option Addr} {C:Nat→Nat} (h:FrW w wy g cg k n D A C) (hk:k<n) (hB:Below wy.heap.size wy wr) (hww:w.heap.size≤wy.heap.size) (hm:wr.ownsRow wy.heap.size 43 4 (.slice (some ⟨gm,0,none⟩) (D k).n cm) (D k).n (cellsMb (D k).mem (D k).n)):FrW w (wr.setCell ⟨g,k*3+2,none⟩ (.slice (some ⟨gm,0,none⟩) (D k).n cm)) g cg (k+1) n D A C:=by
 obtain ⟨G,C',h1,h2,h3⟩:=h
 have g1:=own_later h1 hB
 obtain ⟨-,-,-,-,cur,hg⟩:=ow_blk g1
 have hgm:=(ow_blk hm).1
 have hlt:∀ i,i<k→G i<wy.heap.size:=fun i hi=>(ow_blk (h2 i hi)).2.1
 refine ⟨fun i=>if i=k then gm else G i,fun i=>if i=k then cm else C' i,?_,fun i hi=>?_,fun i j hi hj hne=>?_⟩
 ·have h4:=(g1.stored (k*3+2) (.slice (some ⟨gm,0,none⟩) (D k).n cm)).1
  rwa [show (cellsDo D (fun i=>if i<k then some ⟨G i,0,none⟩ else A i) (fun i=>if i<k then C' i else C i) n).set (k*3+2) (.slice (some ⟨gm,0,none⟩) (D k).n cm)=cellsDo D (fun i=>if i<k+1 then some ⟨if i=k then gm else G i,0,none⟩ else A i) (fun i=>if i<k+1 then (if i=k then cm else C' i) else C i) n from by
   refine List.ext_getElem? fun j=>?_
   rw [List.getElem?_set]
   by_cases hj:j<n*3
   ·obtain ⟨x0,x1,x2⟩:=cellsDo_at D (fun i=>if i<k then some ⟨G i,0,none⟩ else A i) (fun i=>if i<k then C' i else C i) n (j / 3) (by omega)
    obtain ⟨y0,y1,y2⟩:=cellsDo_at D (fun i=>if i<k+1 then some ⟨if i=k then gm else G i,0,none⟩ else A i) (fun i=>if i<k+1 then (if i=k then cm else C' i) else C i) n (j / 3) (by omega)
    rcases (by omega:j % 3=0∨j % 3=1∨j % 3=2) with e | e | e
    ·rw [if_neg (by omega),show j=j / 3*3 by omega,x0,y0]
    ·rw [if_neg (by omega),show j=j / 3*3+1 by omega,x1,y1]
    ·rw [show j=j / 3*3+2 by omega,x2,y2]
     by_cases e2:j / 3=k
     ·rw [if_pos (by omega),if_pos (by rw [cellsDo_len];omega),if_pos (by omega),if_pos e2,if_pos (by omega),if_pos e2,e2]
     ·rw [if_neg (by omega),if_neg e2,if_neg e2]
      by_cases e3:j / 3<k
      ·rw [if_pos e3,if_pos e3,if_pos (by omega),if_pos (by omega)]
      ·rw [if_neg e3,if_neg e3,if_neg (by omega),if_neg (by omega)]
   ·rw [if_neg (by omega),List.getElem?_eq_none (by rw [cellsDo_len];omega),List.getElem?_eq_none (by rw [cellsDo_len];omega)]] at h4
 ·dsimp only
  by_cases e:i=k
  ·subst e
   rw [if_pos rfl,if_pos rfl]
   exact ow_base (ow_off hm (own_ne hm hg (by decide))) hww
  ·rw [if_neg e,if_neg e]
   have h5:=own_later (h2 i (by omega)) hB
   exact ow_off h5 (own_ne h5 hg (by decide))
 ·dsimp only
  by_cases e1:i=k
  ·rw [if_pos e1,if_neg (by omega)]
   have:=hlt j (by omega)
   omega
  ·rw [if_neg e1]
   by_cases e2:j=k
   ·rw [if_pos e2]
    have:=hlt i (by omega)
    omega
   ·rw [if_neg e2]
    exact h3 i j (by omega) (by omega) hne
theorem FrW.all {w wr:World} {g cg n:Nat} {D:Nat→Dm} {A:Nat→Option Addr} {C:Nat→Nat} (h:FrW w wr g cg n n D A C):∃ G C',OwD wr w.heap.size g cg n D G C':=by
 obtain ⟨G,C',h1,h2,h3⟩:=h
 refine ⟨G,C',?_,h2,h3⟩
 rwa [cellsDo_same (A':=fun i=>some ⟨G i,0,none⟩) (C':=C') n fun i hi=>⟨if_pos hi,if_pos hi⟩] at h1
end Go.Proofs.YtfldgghobddgkaaGreatDoor
namespace Go.Proofs.YtfldgghobddgkaaGreatDoor
open Go.ChangeShapes Go.WideShapes Go.ChangeAt Go.RowKit Go.Lib
set_option maxRecDepth 100000
def PlO (w:World) (N:Nat) (A:Option Addr) (c:Nat) (L:List Int):Prop := ∃ g,A=some ⟨g,0,none⟩∧w.ownsRow N 3 1 (.slice (some ⟨g,0,none⟩) L.length c) L.length (mapI L)
theorem plo_of {w:World} {N:Nat} {v:Value} {L:List Int} (hL:0<L.length) (h:w.ownsRow N 3 1 v L.length (L.map (Value.int .i64))):∃ A c,v=.slice A L.length c∧PlTy w A c L∧PlO w N A c L:=by
 obtain ⟨A',c',e,h4,-⟩:=plty_new h
 rcases h.2 with ⟨rfl,h0⟩ | ⟨g,cap,cur,rfl,hr⟩
 ·omega
 ·cases e
  exact ⟨_,_,rfl,h4,g,rfl,h⟩
theorem PlO.later {w w':World} {N:Nat} {A:Option Addr} {c:Nat} {L:List Int} (h:PlO w N A c L) (hB:Below w.heap.size w w'):PlO w' N A c L:=by
 obtain ⟨g,h1,h2⟩:=h
 exact ⟨g,h1,own_later h2 hB⟩
theorem PlO.base {w:World} {N M:Nat} {A:Option Addr} {c:Nat} {L:List Int} (h:PlO w N A c L) (hM:M≤N):PlO w M A c L:=by
 obtain ⟨g,h1,h2⟩:=h
 exact ⟨g,h1,ow_base h2 hM⟩
theorem PlO.off {w:World} {N g j:Nat} {A:Option Addr} {c:Nat} {L:List Int} {u:Value} (h:PlO w N A c L) (hne:∀ b,A=some ⟨b,0,none⟩→b≠g):PlO (w.setCell ⟨g,j,none⟩ u) N A c L:=by
 obtain ⟨b,rfl,h2⟩:=h
 exact ⟨b,rfl,ow_off h2 fun e=>hne b rfl (Option.some.inj e)⟩
theorem PlO.ty {w:World} {N:Nat} {A:Option Addr} {c:Nat} {L:List Int} (h:PlO w N A c L):PlTy w A c L:=by
 obtain ⟨g,rfl,h2⟩:=h
 obtain ⟨A',c',e,h4,-⟩:=plty_new h2
 cases e
 exact h4
def OwP (w:World) (N:Nat) (ys:List EnL):Prop:=(∀ y∈ys,PlO w N y.A y.c y.e.pl)∧ys.Pairwise fun a b=>a.A≠b.A
theorem OwP.push {w w':World} {N:Nat} {ys:List EnL} {y:EnL} (h:OwP w N ys) (hB:Below w.heap.size w w') (hN:N≤w.heap.size) (hy:PlO w' w.heap.size y.A y.c y.e.pl):OwP w' N (ys ++ [y]):=by
 refine ⟨fun z hz=>?_,?_⟩
 ·rcases List.mem_append.1 hz with hz | hz
  ·exact (h.1 z hz).later hB
  ·rw [List.mem_singleton.1 hz];exact hy.base hN
 ·refine List.pairwise_append.2 ⟨h.2,List.pairwise_singleton _ _,fun a ha b hb=>?_⟩
  rw [List.mem_singleton.1 hb]
  obtain ⟨g1,e1,o1⟩:=h.1 a ha
  obtain ⟨g2,e2,o2⟩:=hy
  have h1:=(ow_blk o1).2.1
  have h2:=(ow_blk o2).1
  rw [e1,e2]
  intro e
  have e3:=congrArg (fun a:Option Addr=>a.map Addr.block) e
  simp only [Option.map_some,Option.some.injEq] at e3
  omega
theorem OwP.off {w:World} {N g j:Nat} {ys:List EnL} {u:Value} {n:Nat} {zs:List EnL} (h:OwP w N ys) (hr:RowE w g n zs):OwP (w.setCell ⟨g,j,none⟩ u) N ys:=by
 refine ⟨fun y hy=>(h.1 y hy).off fun b hb e=>?_,h.2⟩
 obtain ⟨g1,e1,o1⟩:=h.1 y hy
 obtain ⟨-,-,-,-,cur,hc⟩:=ow_blk o1
 obtain ⟨⟨cur2,hc2,-⟩,-⟩:=hr
 rw [e1] at hb
 simp at hb
 rw [hb,e,hc2] at hc
 simp only [Option.some.injEq,Obj.cells.injEq] at hc
 exact absurd hc.2.1 (by decide)
theorem off2 {w:World} {N g i j:Nat} {ys:List EnL} {u v:Value} {n:Nat} {zs:List EnL} (h:OwP w N ys) (hr:RowE w g n zs):OwP ((w.setCell ⟨g,i,none⟩ u).setCell ⟨g,j,none⟩ v) N ys:=by
 have h1:=h.off (j:=i) (u:=u) hr
 obtain ⟨⟨cur2,hc2,-⟩,-⟩:=hr
 have hc3:=set_tyD (k:=i) (v:=u) hc2
 refine ⟨fun y hy=>(h1.1 y hy).off fun b hb e=>?_,h.2⟩
 obtain ⟨g1,e1,o1⟩:=h1.1 y hy
 obtain ⟨-,-,-,-,cur,hc⟩:=ow_blk o1
 rw [e1] at hb
 simp at hb
 rw [hb,e,hc3] at hc
 simp only [Option.some.injEq,Obj.cells.injEq] at hc
 exact absurd hc.2.1 (by decide)
structure OwE (w:World) (B g cap:Nat) (ys:List EnL):Prop where
 row:RowE w g cap ys
 low:B≤g
 each:∀ y∈ys,PlO w B y.A y.c y.e.pl
 apart:ys.Pairwise fun a b=>a.A≠b.A
set_option maxHeartbeats 8000000 in
theorem fresh_own (AE:Option Addr) (ce:Nat) (xs:List EnL) (w:World) (hn:xs.length≤3000) (hS:∀ k,k<xs.length→0<(xs.getD k noL).e.pl.length∧(xs.getD k noL).e.pl.length≤4) (hE:EnsV w AE ce xs) :
  Calls Tryz.prog 24 #[.slice AE xs.length ce] w fun e w'=>(∃ ys,e=.returned (.slice (some ⟨w.heap.size,0,none⟩) xs.length xs.length)∧OwE w' w.heap.size w.heap.size xs.length ys∧lE ys=lE xs)∧Below w.heap.size w w':=by
 obtain ⟨i0,hi0,hz0,hz1,hz2⟩:=info_parts Tryz.infoEnt
 have HE:Hid (EnsV w AE ce xs):=hE
 have HS:Hid (∀ k,k<xs.length→0<(xs.getD k noL).e.pl.length∧(xs.getD k noL).e.pl.length≤4):=hS
 obtain ⟨n,hnn⟩:∃ n,xs.length=n:=⟨_,rfl⟩
 have HN:Hid (xs.length=n):=hnn
 rw [hnn] at hn ⊢
 have hmk:∀ w',(Instr.makeSlice 25 (.int .i64 n) (.int .i64 n)).run Tryz.prog w'=.ok (.slice (some ⟨w'.heap.size,0,none⟩) n n) (w'.alloc (.cells (madeCells (Value.agg #[.slice none 0 0,.int .i64 0]).cells (n*2)) 51)):=fun w'=>by
  have h:=run_make (P:=Tryz.prog) w' 25 51 i0 _ Tryz.underlying25 hi0 hz0 .i64 .i64 n n (by omega) (Int.le_refl _) (by rw [hz2];omega) (by omega)
  rw [hz1] at h
  simpa using h
 have HR0:Hid (RowE (w.alloc (.cells (madeCells (Value.agg #[.slice none 0 0,.int .i64 0]).cells (n*2)) 51)) w.heap.size n []):=⟨⟨_,heap_alloc_new w _,size_madeCells _ _,by simp [cellsE]⟩,Nat.zero_le _,by unfold maxLen;omega,fun x hx=>by cases hx⟩
 have hn':(n:Int)≤3000:=by omega
 clear hE hS hnn
 go_enter Tryz.func24,Tryz.ntmps24
 go_wp2_with fail
 clear hmk
 go_loopg [11] n (fun g s11 wr => ∃ (k:Nat) (zs:List EnL),k≤n∧g=n-k∧s11=.int .i64 k∧zs.length=k∧Hid (lE zs=(lE xs).take k∧OwP wr w.heap.size zs)∧RowE wr w.heap.size n zs∧Below w.heap.size w wr)
 case atStart=>exact ⟨0,[],Nat.zero_le _,rfl,rfl,rfl,hid_of (⟨by simp [lE],fun _ h=>(by cases h),List.Pairwise.nil⟩),HR0.out,by go_grown⟩
 case round =>
  obtain ⟨k,zs,hk,rfl,rfl,hzl,HZ,hRow,hBw⟩:=hrel
  have HRow:Hid (RowE wr w.heap.size n zs):=hRow
  have HBw:Hid (Below w.heap.size w wr):=hBw
  have HZL:Hid (zs.length=k):=hzl
  by_cases hlt:k<n
  ·have hkx:k<xs.length:=by rw [HN.out];exact hlt
   have hki:(k:Int)<(n:Int):=by omega
   obtain ⟨-,-,h0 | ⟨b,o,rfl,hEs⟩⟩:=HE.out.later hBw
   ·have:=HN.out;rw [h0] at this;simp at this;omega
   obtain ⟨c1,c2⟩:=hEs.at hkx
   have HCl:Hid (∀ w',Below wr.heap.size wr w'→Calls Tryz.prog 43 #[.slice (xs.getD k noL).A (xs.getD k noL).e.pl.length (xs.getD k noL).c] w' fun e w''=>(∃ A' c',e=.returned (.slice A' (xs.getD k noL).e.pl.length c')∧PlTy w'' A' c' (xs.getD k noL).e.pl∧PlO w'' wr.heap.size A' c' (xs.getD k noL).e.pl)∧Below w'.heap.size w' w''):=fun w' hw'=>(clone_own _ _ _ w' (HS.out k hkx).2 ((hEs.pl hkx).later hw')).mono fun _ _ ⟨⟨v,h1,h2⟩,h4⟩=>by
    obtain ⟨A',c',rfl,h5,h6⟩:=plo_of (HS.out k hkx).1 (ow_base h2 hw'.size)
    exact ⟨⟨A',c',h1,h5,h6⟩,h4⟩
   have hBo:=ownEn_below wr (xs.getD k noL).A (xs.getD k noL).e.pl.length (xs.getD k noL).c (xs.getD k noL).e.n 51
   have HBo:Hid (Below wr.heap.size wr (ownEn wr (xs.getD k noL).A (xs.getD k noL).e.pl.length (xs.getD k noL).c (xs.getD k noL).e.n 51)):=hBo
   have hzo:=ownEn_size wr (xs.getD k noL).A (xs.getD k noL).e.pl.length (xs.getD k noL).c (xs.getD k noL).e.n 51
   have ho0:=ownEn_0 wr (xs.getD k noL).A (xs.getD k noL).e.pl.length (xs.getD k noL).c (xs.getD k noL).e.n 51
   have ho1:=ownEn_1 wr (xs.getD k noL).A (xs.getD k noL).e.pl.length (xs.getD k noL).c (xs.getD k noL).e.n 51
   have HLE:Hid ((lE xs).take (k+1)=(lE xs).take k ++ [(xs.getD k noL).e]):=by
    show _=_
    rw [List.take_succ_eq_append_getElem (by rw [lE_len];exact hkx),←lE_at,List.getD_eq_getElem?_getD,List.getElem?_eq_getElem (by rw [lE_len];exact hkx)]
    rfl
   have hwg:w.heap.size<wr.heap.size:=hRow.lt
   generalize xs.getD k noL=x at c1 c2 HCl HBo hzo ho0 ho1 HLE
   clear hEs hBo hRow hBw hzl
   have HPut:Hid (∀ (w3:World) (A':Option Addr) (c':Nat),RowE w3 w.heap.size n zs→PlTy w3 A' c' x.e.pl→RowE ((w3.setCell ⟨w.heap.size,k*2,none⟩ (.slice A' x.e.pl.length c')).setCell ⟨w.heap.size,k*2+1,none⟩ (.int .i64 x.e.n)) w.heap.size n (zs ++ [⟨x.e,A',c'⟩])∧w3.grownBy ((w3.setCell ⟨w.heap.size,k*2,none⟩ (.slice A' x.e.pl.length c')).setCell ⟨w.heap.size,k*2+1,none⟩ (.int .i64 x.e.n)) (some w.heap.size)):=fun w3 A' c' h1 h2=>by
    have h3:=h1.put (by rw [HZL.out];exact hlt) (x:=⟨x.e,A',c'⟩) h2
    rw [HZL.out] at h3
    exact h3
   have HLN:Hid (∀ (w3:World) A' c',Below wr.heap.size wr w3→RowE w3 w.heap.size n zs→PlO w3 wr.heap.size A' c' x.e.pl→lE (zs ++ [⟨x.e,A',c'⟩])=(lE xs).take (k+1)∧OwP ((w3.setCell ⟨w.heap.size,k*2,none⟩ (.slice A' x.e.pl.length c')).setCell ⟨w.heap.size,k*2+1,none⟩ (.int .i64 x.e.n)) w.heap.size (zs ++ [⟨x.e,A',c'⟩])):=fun w3 A' c' hb hr hp=>⟨by rw [lE_append,HZ.out.1,HLE.out];rfl,off2 (HZ.out.2.push hb HBw.out.size hp) hr⟩
   generalize hxl:x.e.pl.length=m at c1 HCl HBo hzo ho0 ho1 HPut HLN
   generalize x.e.n=N at c2 HBo hzo ho0 ho1 HPut HLN
   clear hxl HLE
   go_wp2_with fail
   obtain ⟨W2,hW2⟩:∃ W2,wr.alloc (.cells #[.slice x.A m x.c,.int .i64 N] 51)=W2:=⟨_,rfl⟩
   have hBo:Below wr.heap.size wr W2:=by rw [←hW2];exact HBo.out
   have hz2:wr.heap.size<W2.heap.size:=by rw [←hW2];show _<(ownEn wr x.A m x.c N 51).heap.size;rw [hzo];omega
   have HBox:Hid (wr.heap.size<W2.heap.size∧wr.heap.size≠w.heap.size∧W2.cell? ⟨wr.heap.size,0,none⟩=some (.slice x.A m x.c)∧W2.cell? ⟨wr.heap.size,1,none⟩=some (.int .i64 N)):=by rw [←hW2];exact ⟨by rw [hW2];exact hz2,by omega,ho0,ho1⟩
   have HB2:Hid (Below wr.heap.size wr W2):=hBo
   have HRow2:Hid (RowE W2 w.heap.size n zs):=HRow.out.later hBo
   rw [hW2]
   clear hW2 hBo hzo ho0 ho1 HBo c1 c2
   go_region_held3 (fun w'=>W2.grownBy w' (some w.heap.size)∧w'.cell? ⟨wr.heap.size,0,none⟩=some (.slice x.A m x.c)∧w'.cell? ⟨wr.heap.size,1,none⟩=some (.int .i64 N))
    ((refine keepG HBox.out ?_;(repeat (first | exact grown_refl _ _ | assumption | refine grown_drew ?_ | refine grown_set ?_ _ _));done))
    (first | (go_at_call 43;refine (HCl.out _ (onB HB2.out (by go_grown))).mono ?_;rintro e w3 ⟨⟨A',c',rfl,hPT,hNw⟩,hb3⟩;have hN3:=onB (W0:=W2) (by go_grown) hb3;have HNw:=hid_of hNw;clear hNw;have hG3:W2.grownBy w3 (some w.heap.size):=grown_below hN3;have HB3:Hid (Below W2.heap.size W2 w3):=hN3;have HPT:Hid (PlTy w3 A' c' x.e.pl):=hPT;obtain ⟨u0,d0⟩:=Option.isSome_iff_exists.1 ((HRow2.out.later hN3).full (j:=k*2) (by omega));obtain ⟨u1,d1⟩:=Option.isSome_iff_exists.1 ((HRow2.out.later hN3).full (j:=k*2+1) (by omega));have f0:=(HRow2.out.later hN3).frozen (k*2);have f1:=(HRow2.out.later hN3).frozen (k*2+1);clear hb3 hN3 hPT))
   clear d0 d1 f0 f1 hG3
   go_wp2_with fail
   go_roundg (n-(k+1))
   case measure=>omega
   case rel =>
    obtain ⟨h1,h2⟩:=HPut.out w3 A' c' (HRow2.out.later HB3.out) HPT.out
    refine ⟨k+1,_,by omega,rfl,by go_num,?_,hid_of (HLN.out w3 A' c' (onB HB2.out HB3.out) (HRow2.out.later HB3.out) HNw.out),h1,?_⟩
    ·rw [List.length_append,HZL.out];rfl
    ·exact below_grown (onB HBw.out (onB HB2.out HB3.out)) h2 (onB HBw.out (onB HB2.out HB3.out)).size (Nat.le_refl _)
  ·have hke:k=n:=by omega
   subst hke
   have HFin:Hid (lE zs=lE xs∧OwP wr w.heap.size zs):=⟨by rw [HZ.out.1,List.take_of_length_le (by rw [lE_len,HN.out];exact Nat.le_refl _)],HZ.out.2⟩
   clear hRow hBw hzl
   go_wp2_with fail
   go_ret
   exact ⟨⟨zs,rfl,⟨HRow.out,Nat.le_refl _,HFin.out.2.1,HFin.out.2.2⟩,HFin.out.1⟩,HBw.out⟩
end Go.Proofs.YtfldgghobddgkaaGreatDoor
