/-
  What tallylaw2.SolveTells answers, called in whatever memory: true.
-/
import Derived.Test.YtaodedckffjpgafGreatDoorJXBC
import Derived.Test.YtaodedckffjpgafGreatDoorJXBT
import Derived.Test.YtaodedckffjpgafGreatDoorJXBZ
namespace Go.Proofs.YtaodedckffjpgafGreatDoor
open Go.ChangeShapes Go.WideShapes Go.ChangeAt Go.RowKit
set_option maxRecDepth 20000
theorem same_errS (c:Int) (w:World) (hk:Kind0 w):Calls Tryz.prog 13 #[errV c,.int .i64 c] w fun e w'=>e=.returned (.bool true)∧Below w.heap.size w w':=by
 by_cases h:c=0
 ·subst h
  have:=same_nil 0 w
  rw [errV_zero]
  exact this
 ·have:=same_hit c c w hk
  rw [errV_some h]
  simpa using this
theorem place_shape {D:Nat→Dm} {n:Nat} {p:List Int} (h:(allErr D n).2.2=0):placeErr D n p=shapeErr D n p:=by unfold placeErr;rw [if_neg (by simpa using h)]
theorem out_cell {w w1:World} {A0:Option Addr} {n cap:Nat} (hB:Below (ownOut w A0 n cap 42).heap.size (ownOut w A0 n cap 42) w1):w1.cell? ⟨w.heap.size,0,none⟩=some (.slice A0 n cap)∧w.heap.size<w1.heap.size:=by
 have hS:=ownOut_size w A0 n cap 42
 exact ⟨(hB.cell (p:=⟨w.heap.size,0,none⟩) (by show w.heap.size<_;omega)).trans (ownOut_at ..),by have:=hB.size;omega⟩
def PairQ (q:Nat) (a b:Int) (w:World):Prop := ∃ fr,w.heap[q]?=some (.cells #[.int .i64 a,.int .i64 b] 48 fr)
theorem pairQ_later {q:Nat} {a b:Int} {w w':World} (h:Hid (PairQ q a b w)) (hB:Below w.heap.size w w'):Hid (PairQ q a b w'):=by
 obtain ⟨fr,h⟩:=h.out
 exact ⟨fr,(hB.block q (Array.getElem?_eq_some_iff.1 h).1).trans h⟩
theorem PairQ.at {q:Nat} {a b:Int} {w:World} (h:PairQ q a b w):q<w.heap.size∧w.cell? ⟨q,0,none⟩=some (.int .i64 a)∧w.cell? ⟨q,1,none⟩=some (.int .i64 b):=by
 obtain ⟨fr,h⟩:=h
 exact ⟨(Array.getElem?_eq_some_iff.1 h).1,by simp [World.cell?,h],by simp [World.cell?,h]⟩
set_option maxHeartbeats 8000000 in
theorem stell1 (A0:Option Addr) (cap n:Nat) (D:Nat→Dm) (A:Nat→Option Addr) (C:Nat→Nat) (AE:Option Addr) (ce:Nat) (xs:List EnL) (Ap:Option Addr) (cp:Nat) (p:List Int) (w:World) (hM:DimsV w A0 cap n D A C) (hEn:EnsV w AE ce xs) (hP:PlAt w Ap cp p) (hK:Kind0 w) (hr:(ruErr D n).2.2≠0):Calls Tryz.prog 5 #[.agg #[.slice A0 n cap],.slice AE xs.length ce,.slice Ap p.length cp] w fun e w'=>e=.returned (.bool true)∧Below w.heap.size w w':=by
 obtain ⟨ee,hee0⟩:∃ ee,(ruErr D n).2.2=ee:=⟨_,rfl⟩
 have hne:(ee == 0)=false:=by rw [←hee0];simpa using hr
 have c1:cuErr D n (lE xs)=ee:=by unfold cuErr;rw [if_pos hr,hee0]
 have e1:soErr D n (lE xs) p=ee:=by unfold soErr;rw [c1,if_pos (by rw [←hee0];exact hr)]
 have e2:byErr D n p=ee:=by unfold byErr;rw [if_pos hr,hee0]
 have f1:soV D n (lE xs) p=(0,0):=by unfold soV;rw [e1,if_neg (by rw [←hee0];exact hr)]
 have f2:byV D n p=0:=by unfold byV;rw [e2,if_neg (by rw [←hee0];exact hr)]
 have r1:(ruErr D n).2.2=ee:=hee0
 have hB0:=ownOut_below w A0 n cap 42
 have HBx:Hid (∀ w1,Below (ownOut w A0 n cap 42).heap.size (ownOut w A0 n cap 42) w1→w1.cell? ⟨w.heap.size,0,none⟩=some (.slice A0 n cap)∧w.heap.size<w1.heap.size):=fun w1 h=>out_cell h
 obtain ⟨W,hW⟩:∃ W,ownOut w A0 n cap 42=W:=⟨_,rfl⟩
 rw [hW] at hB0 HBx
 unfold ownOut at hW
 have HB0:Hid (Below w.heap.size w W):=hB0
 have HCu:Hid (∀ w',Below W.heap.size W w'→Calls Tryz.prog 14 #[.agg #[.slice A0 n cap],.slice AE xs.length ce] w' fun e w''=>e=.returned (.int .i64 (cuErr D n (lE xs)))∧Below w'.heap.size w' w''):=fun w' hB=>scube_any A0 cap n D A C AE ce xs w' (hM.later (onB hB0 hB)) (hEn.later (onB hB0 hB))
 have HRi:Hid (∀ w',Below W.heap.size W w'→Calls Tryz.prog 19 #[.agg #[.slice A0 n cap]] w' fun e w''=>e=.returned (.int .i64 (ruErr D n).2.2)∧Below w'.heap.size w' w''):=fun w' hB=>sright_any A0 cap n D A C w' (hM.later (onB hB0 hB))
 have HVa:Hid (∀ w',Below W.heap.size W w'→Calls Tryz.prog 18 #[.agg #[.slice A0 n cap],.slice AE xs.length ce,.slice Ap p.length cp] w' fun e w''=>e=.returned (.tuple #[.agg #[.int .i64 (soV D n (lE xs) p).1,.int .i64 (soV D n (lE xs) p).2],errV (soErr D n (lE xs) p)])∧Below w'.heap.size w' w''):=fun w' hB=>pvalue_any A0 cap n D A C AE ce xs Ap cp p w' (hM.later (onB hB0 hB)) (hEn.later (onB hB0 hB)) (hP.later (onB hB0 hB))
 have HPb:Hid (∀ w',Below W.heap.size W w'→Calls Tryz.prog 21 #[.agg #[.slice A0 n cap],.slice Ap p.length cp] w' fun e w''=>e=.returned (.tuple #[.int .i64 (byV D n p),errV (byErr D n p)])∧Below w'.heap.size w' w''):=fun w' hB=>pby_any A0 cap n D A C Ap cp p w' (hM.later (onB hB0 hB)) (hP.later (onB hB0 hB))
 have HE1:Hid (∀ w',Below W.heap.size W w'→Calls Tryz.prog 13 #[errV (soErr D n (lE xs) p),.int .i64 (soErr D n (lE xs) p)] w' fun e w''=>e=.returned (.bool true)∧Below w'.heap.size w' w''):=fun w' hB=>same_errS _ w' (hK.later (onB hB0 hB))
 have HE2:Hid (∀ w',Below W.heap.size W w'→Calls Tryz.prog 13 #[errV (byErr D n p),.int .i64 (byErr D n p)] w' fun e w''=>e=.returned (.bool true)∧Below w'.heap.size w' w''):=fun w' hB=>same_errS _ w' (hK.later (onB hB0 hB))
 rw [e1] at HE1 HVa
 rw [e2] at HE2 HPb
 rw [f1] at HVa
 rw [f2] at HPb
 rw [c1] at HCu
 rw [r1] at HRi
 generalize p.length=pl at *
 generalize xs.length=xl at *
 obtain ⟨⟨sa,sb⟩,hsv⟩:∃ v:Int×Int,v=(0,0):=⟨_,rfl⟩
 rw [←hsv] at HVa
 simp only at HVa
 have HZ:Hid (sa=0∧sb=0):=by cases hsv;exact ⟨rfl,rfl⟩
 obtain ⟨o0,hq⟩:=HBx.out W (Below.refl _ _)
 have hc:=HCu.out W (Below.refl _ _)
 clear hM hEn hP hK hB0 hr hee0 c1 e1 e2 f1 f2 r1 hsv
 go_enter Tryz.func5,Tryz.ntmps5
 go_wp2_with fail
 refine hc.mono ?_
 rintro e w1 ⟨rfl,hb1⟩
 have HB1:Hid (Below W.heap.size W w1):=hb1
 clear hc hb1 o0 hq hW
 obtain ⟨y,hy⟩:∃ y,w1.alloc (.cells #[.int .i64 0,.int .i64 0] 48)=y:=⟨_,rfl⟩
 have hBy:Below w1.heap.size w1 y:=by rw [←hy];go_grown
 have HBy':Hid (Below W.heap.size W y):=onB HB1.out hBy
 have hyb:y.heap[w1.heap.size]?=some (.cells #[.int .i64 0,.int .i64 0] 48 (0,0)):=by rw [←hy];exact heap_alloc_new ..
 have HQe:Hid (W.heap.size≤w1.heap.size):=HB1.out.size
 have HQz:Hid (PairQ w1.heap.size 0 0 y):=⟨_,hyb⟩
 have HBz:=HBy'
 clear hyb hBy
 obtain ⟨o0,hq⟩:=HBx.out y HBz.out
 have hc:=HVa.out y HBz.out
 go_wp2_with fail
 refine hc.mono ?_
 rintro e v1 ⟨rfl,hb1⟩
 have HV1:Hid (Below W.heap.size W v1):=onB HBz.out hb1
 have HQ1:=pairQ_later HQz hb1
 obtain ⟨u,hu⟩:∃ u,v1.alloc (.cells #[.int .i64 sa,.int .i64 sb] 48)=u:=⟨_,rfl⟩
 have hBu:Below v1.heap.size v1 u:=by rw [←hu];go_grown
 have HU:Hid (Below W.heap.size W u):=onB HV1.out hBu
 have HQu:=pairQ_later HQ1 hBu
 have HGu:Hid (PairQ v1.heap.size sa sb u):=⟨_,by rw [←hu];exact heap_alloc_new ..⟩
 have hce:=HE1.out u HU.out
 clear hc hb1 o0 hq hBu hy
 go_wp2_with fail
 refine hce.mono ?_
 rintro e v2 ⟨rfl,hb2⟩
 have HV2:Hid (Below W.heap.size W v2):=onB HU.out hb2
 have HQ2:=pairQ_later HQu hb2
 have HG2:=pairQ_later HGu hb2
 clear hce hb2 hu
 obtain ⟨o0,hq⟩:=HBx.out v2 HV2.out
 have hc:=HRi.out v2 HV2.out
 go_wp2_with fail
 refine hc.mono ?_
 rintro e v3 ⟨rfl,hb⟩
 have HV3:Hid (Below W.heap.size W v3):=onB HV2.out hb
 have HQ3:=pairQ_later HQ2 hb
 have HG3:=pairQ_later HG2 hb
 clear hc hb o0 hq
 obtain ⟨o0,hq⟩:=HBx.out v3 HV3.out
 have hc:=HPb.out v3 HV3.out
 go_wp2_with fail
 refine hc.mono ?_
 rintro e v4 ⟨rfl,hb⟩
 have HV4:Hid (Below W.heap.size W v4):=onB HV3.out hb
 have HQ4:=pairQ_later HQ3 hb
 have HG4:=pairQ_later HG3 hb
 clear hc hb o0 hq
 obtain ⟨o0,hq⟩:=HBx.out v4 HV4.out
 have hc:=HE2.out v4 HV4.out
 go_wp2_with fail
 refine hc.mono ?_
 rintro e v5 ⟨rfl,hb⟩
 have HV5:Hid (Below W.heap.size W v5):=onB HV4.out hb
 have HQ5:=pairQ_later HQ4 hb
 have HG5:=pairQ_later HG4 hb
 clear hc hb o0 hq
 obtain ⟨a0,a1,a2⟩:=HQ5.out.at
 obtain ⟨b0,b1,b2⟩:=HG5.out.at
 obtain ⟨rfl,rfl⟩:=HZ.out
 go_wp2_with fail
 first | (go_quiet (fail);go_wp2_with fail) | skip
 go_ret
 exact ⟨by simp,by first | exact onB HB0.out HV5.out | exact below_drewN (onB HB0.out HV5.out) _⟩
set_option maxHeartbeats 8000000 in
theorem stell2 (A0:Option Addr) (cap n:Nat) (D:Nat→Dm) (A:Nat→Option Addr) (C:Nat→Nat) (AE:Option Addr) (ce:Nat) (xs:List EnL) (Ap:Option Addr) (cp:Nat) (p:List Int) (w:World) (hM:DimsV w A0 cap n D A C) (hEn:EnsV w AE ce xs) (hP:PlAt w Ap cp p) (hK:Kind0 w) (hr:(ruErr D n).2.2=0) (hee:entsErr D n (lE xs)≠0) (hpe:placeErr D n p≠0):Calls Tryz.prog 5 #[.agg #[.slice A0 n cap],.slice AE xs.length ce,.slice Ap p.length cp] w fun e w'=>e=.returned (.bool true)∧Below w.heap.size w w':=by
 obtain ⟨hE,hRa⟩:=ru_right hr
 have r1:(ruErr D n).2.2=0:=hr
 have hbe:byErr D n p=placeErr D n p:=by unfold byErr;rw [if_neg (by simpa using hr)]
 have hcu:cuErr D n (lE xs)=entsErr D n (lE xs):=by unfold cuErr;rw [if_neg (by simpa using hr)]
 obtain ⟨ee,hee0⟩:∃ ee,entsErr D n (lE xs)=ee:=⟨_,rfl⟩
 have hne:(ee == 0)=false:=by rw [←hee0];simpa using hee
 have c1:cuErr D n (lE xs)=ee:=by rw [hcu,hee0]
 have e1:soErr D n (lE xs) p=ee:=by unfold soErr;rw [c1,if_pos (by rw [←hee0];exact hee)]
 have f1:soV D n (lE xs) p=(0,0):=by unfold soV;rw [e1,if_neg (by rw [←hee0];exact hee)]
 obtain ⟨pe,hpe0⟩:∃ pe,placeErr D n p=pe:=⟨_,rfl⟩
 have hpl:placeErr D n p=pe:=hpe0
 have hpn:(pe == 0)=false:=by rw [←hpe0];simpa using hpe
 have e2:byErr D n p=pe:=by rw [hbe,hpe0]
 have f2:byV D n p=0:=by unfold byV;rw [e2,if_neg (by rw [←hpe0];exact hpe)]
 have hB0:=ownOut_below w A0 n cap 42
 have HBx:Hid (∀ w1,Below (ownOut w A0 n cap 42).heap.size (ownOut w A0 n cap 42) w1→w1.cell? ⟨w.heap.size,0,none⟩=some (.slice A0 n cap)∧w.heap.size<w1.heap.size):=fun w1 h=>out_cell h
 obtain ⟨W,hW⟩:∃ W,ownOut w A0 n cap 42=W:=⟨_,rfl⟩
 rw [hW] at hB0 HBx
 unfold ownOut at hW
 have HB0:Hid (Below w.heap.size w W):=hB0
 have HCu:Hid (∀ w',Below W.heap.size W w'→Calls Tryz.prog 14 #[.agg #[.slice A0 n cap],.slice AE xs.length ce] w' fun e w''=>e=.returned (.int .i64 (cuErr D n (lE xs)))∧Below w'.heap.size w' w''):=fun w' hB=>scube_any A0 cap n D A C AE ce xs w' (hM.later (onB hB0 hB)) (hEn.later (onB hB0 hB))
 have HRi:Hid (∀ w',Below W.heap.size W w'→Calls Tryz.prog 19 #[.agg #[.slice A0 n cap]] w' fun e w''=>e=.returned (.int .i64 (ruErr D n).2.2)∧Below w'.heap.size w' w''):=fun w' hB=>sright_any A0 cap n D A C w' (hM.later (onB hB0 hB))
 have HVa:Hid (∀ w',Below W.heap.size W w'→Calls Tryz.prog 18 #[.agg #[.slice A0 n cap],.slice AE xs.length ce,.slice Ap p.length cp] w' fun e w''=>e=.returned (.tuple #[.agg #[.int .i64 (soV D n (lE xs) p).1,.int .i64 (soV D n (lE xs) p).2],errV (soErr D n (lE xs) p)])∧Below w'.heap.size w' w''):=fun w' hB=>pvalue_any A0 cap n D A C AE ce xs Ap cp p w' (hM.later (onB hB0 hB)) (hEn.later (onB hB0 hB)) (hP.later (onB hB0 hB))
 have HPb:Hid (∀ w',Below W.heap.size W w'→Calls Tryz.prog 21 #[.agg #[.slice A0 n cap],.slice Ap p.length cp] w' fun e w''=>e=.returned (.tuple #[.int .i64 (byV D n p),errV (byErr D n p)])∧Below w'.heap.size w' w''):=fun w' hB=>pby_any A0 cap n D A C Ap cp p w' (hM.later (onB hB0 hB)) (hP.later (onB hB0 hB))
 have HE1:Hid (∀ w',Below W.heap.size W w'→Calls Tryz.prog 13 #[errV (soErr D n (lE xs) p),.int .i64 (soErr D n (lE xs) p)] w' fun e w''=>e=.returned (.bool true)∧Below w'.heap.size w' w''):=fun w' hB=>same_errS _ w' (hK.later (onB hB0 hB))
 have HE2:Hid (∀ w',Below W.heap.size W w'→Calls Tryz.prog 13 #[errV (byErr D n p),.int .i64 (byErr D n p)] w' fun e w''=>e=.returned (.bool true)∧Below w'.heap.size w' w''):=fun w' hB=>same_errS _ w' (hK.later (onB hB0 hB))
 have HPl:Hid (∀ w',Below W.heap.size W w'→Calls Tryz.prog 15 #[.agg #[.slice A0 n cap],.slice Ap p.length cp] w' fun e w''=>e=.returned (.int .i64 (placeErr D n p))∧Below w'.heap.size w' w''):=fun w' hB=>by
  rw [place_shape hE]
  exact rplace_any A0 cap n D A C Ap cp p w' hE (hM.later (onB hB0 hB)) (hP.later (onB hB0 hB))
 rw [e1] at HE1 HVa
 rw [e2] at HE2 HPb
 rw [f1] at HVa
 rw [f2] at HPb
 rw [c1] at HCu
 rw [r1] at HRi
 rw [hpl] at HPl
 generalize p.length=pl at *
 generalize xs.length=xl at *
 obtain ⟨⟨sa,sb⟩,hsv⟩:∃ v:Int×Int,v=(0,0):=⟨_,rfl⟩
 rw [←hsv] at HVa
 simp only at HVa
 have HZ:Hid (sa=0∧sb=0):=by cases hsv;exact ⟨rfl,rfl⟩
 obtain ⟨o0,hq⟩:=HBx.out W (Below.refl _ _)
 have hc:=HCu.out W (Below.refl _ _)
 clear hM hEn hP hK hB0 hr hee hee0 hpe hpe0 hE hRa hbe hcu c1 e1 e2 f1 f2 r1 hpl hsv
 go_enter Tryz.func5,Tryz.ntmps5
 go_wp2_with fail
 refine hc.mono ?_
 rintro e w1 ⟨rfl,hb1⟩
 have HB1:Hid (Below W.heap.size W w1):=hb1
 clear hc hb1 o0 hq hW
 obtain ⟨y,hy⟩:∃ y,w1.alloc (.cells #[.int .i64 0,.int .i64 0] 48)=y:=⟨_,rfl⟩
 have hBy:Below w1.heap.size w1 y:=by rw [←hy];go_grown
 have HBy':Hid (Below W.heap.size W y):=onB HB1.out hBy
 have hyb:y.heap[w1.heap.size]?=some (.cells #[.int .i64 0,.int .i64 0] 48 (0,0)):=by rw [←hy];exact heap_alloc_new ..
 have HQe:Hid (W.heap.size≤w1.heap.size):=HB1.out.size
 have HQz:Hid (PairQ w1.heap.size 0 0 y):=⟨_,hyb⟩
 have HBz:=HBy'
 clear hyb hBy
 obtain ⟨o0,hq⟩:=HBx.out y HBz.out
 have hc:=HVa.out y HBz.out
 go_wp2_with fail
 refine hc.mono ?_
 rintro e v1 ⟨rfl,hb1⟩
 have HV1:Hid (Below W.heap.size W v1):=onB HBz.out hb1
 have HQ1:=pairQ_later HQz hb1
 obtain ⟨u,hu⟩:∃ u,v1.alloc (.cells #[.int .i64 sa,.int .i64 sb] 48)=u:=⟨_,rfl⟩
 have hBu:Below v1.heap.size v1 u:=by rw [←hu];go_grown
 have HU:Hid (Below W.heap.size W u):=onB HV1.out hBu
 have HQu:=pairQ_later HQ1 hBu
 have HGu:Hid (PairQ v1.heap.size sa sb u):=⟨_,by rw [←hu];exact heap_alloc_new ..⟩
 have hce:=HE1.out u HU.out
 clear hc hb1 o0 hq hBu hy
 go_wp2_with fail
 refine hce.mono ?_
 rintro e v2 ⟨rfl,hb2⟩
 have HV2:Hid (Below W.heap.size W v2):=onB HU.out hb2
 have HQ2:=pairQ_later HQu hb2
 have HG2:=pairQ_later HGu hb2
 clear hce hb2 hu
 obtain ⟨o0,hq⟩:=HBx.out v2 HV2.out
 have hc:=HRi.out v2 HV2.out
 go_wp2_with fail
 refine hc.mono ?_
 rintro e v3 ⟨rfl,hb⟩
 have HV3:Hid (Below W.heap.size W v3):=onB HV2.out hb
 have HQ3:=pairQ_later HQ2 hb
 have HG3:=pairQ_later HG2 hb
 clear hc hb o0 hq
 obtain ⟨o0,hq⟩:=HBx.out v3 HV3.out
 have hc:=HPl.out v3 HV3.out
 go_wp2_with fail
 refine hc.mono ?_
 rintro e v4 ⟨rfl,hb⟩
 have HV4:Hid (Below W.heap.size W v4):=onB HV3.out hb
 have HQ4:=pairQ_later HQ3 hb
 have HG4:=pairQ_later HG3 hb
 clear hc hb o0 hq
 obtain ⟨o0,hq⟩:=HBx.out v4 HV4.out
 have hc:=HPb.out v4 HV4.out
 go_wp2_with fail
 refine hc.mono ?_
 rintro e v5 ⟨rfl,hb⟩
 have HV5:Hid (Below W.heap.size W v5):=onB HV4.out hb
 have HQ5:=pairQ_later HQ4 hb
 have HG5:=pairQ_later HG4 hb
 clear hc hb o0 hq
 obtain ⟨o0,hq⟩:=HBx.out v5 HV5.out
 have hc:=HE2.out v5 HV5.out
 go_wp2_with fail
 refine hc.mono ?_
 rintro e v6 ⟨rfl,hb⟩
 have HV6:Hid (Below W.heap.size W v6):=onB HV5.out hb
 have HQ6:=pairQ_later HQ5 hb
 have HG6:=pairQ_later HG5 hb
 clear hc hb o0 hq
 obtain ⟨a0,a1,a2⟩:=HQ6.out.at
 obtain ⟨b0,b1,b2⟩:=HG6.out.at
 obtain ⟨rfl,rfl⟩:=HZ.out
 go_wp2_with fail
 first | (go_quiet (fail);go_wp2_with fail) | skip
 go_ret
 exact ⟨by simp,by first | exact onB HB0.out HV6.out | exact below_drewN (onB HB0.out HV6.out) _⟩
set_option maxHeartbeats 8000000 in
theorem stell3 (A0:Option Addr) (cap n:Nat) (D:Nat→Dm) (A:Nat→Option Addr) (C:Nat→Nat) (AE:Option Addr) (ce:Nat) (xs:List EnL) (Ap:Option Addr) (cp:Nat) (p:List Int) (w:World) (hM:DimsV w A0 cap n D A C) (hEn:EnsV w AE ce xs) (hP:PlAt w Ap cp p) (hK:Kind0 w) (hr:(ruErr D n).2.2=0) (hee:entsErr D n (lE xs)≠0) (hpe:placeErr D n p=0):Calls Tryz.prog 5 #[.agg #[.slice A0 n cap],.slice AE xs.length ce,.slice Ap p.length cp] w fun e w'=>e=.returned (.bool true)∧Below w.heap.size w w':=by
 obtain ⟨hE,hRa⟩:=ru_right hr
 have r1:(ruErr D n).2.2=0:=hr
 have hbe:byErr D n p=placeErr D n p:=by unfold byErr;rw [if_neg (by simpa using hr)]
 have hcu:cuErr D n (lE xs)=entsErr D n (lE xs):=by unfold cuErr;rw [if_neg (by simpa using hr)]
 obtain ⟨ee,hee0⟩:∃ ee,entsErr D n (lE xs)=ee:=⟨_,rfl⟩
 have hne:(ee == 0)=false:=by rw [←hee0];simpa using hee
 have c1:cuErr D n (lE xs)=ee:=by rw [hcu,hee0]
 have e1:soErr D n (lE xs) p=ee:=by unfold soErr;rw [c1,if_pos (by rw [←hee0];exact hee)]
 have f1:soV D n (lE xs) p=(0,0):=by unfold soV;rw [e1,if_neg (by rw [←hee0];exact hee)]
 have hpl:placeErr D n p=0:=hpe
 have e2:byErr D n p=0:=by rw [hbe,hpe]
 have f2:byV D n p=byTo D p n:=by unfold byV;rw [e2,if_pos rfl]
 have hB0:=ownOut_below w A0 n cap 42
 have HBx:Hid (∀ w1,Below (ownOut w A0 n cap 42).heap.size (ownOut w A0 n cap 42) w1→w1.cell? ⟨w.heap.size,0,none⟩=some (.slice A0 n cap)∧w.heap.size<w1.heap.size):=fun w1 h=>out_cell h
 obtain ⟨W,hW⟩:∃ W,ownOut w A0 n cap 42=W:=⟨_,rfl⟩
 rw [hW] at hB0 HBx
 unfold ownOut at hW
 have HB0:Hid (Below w.heap.size w W):=hB0
 have HCu:Hid (∀ w',Below W.heap.size W w'→Calls Tryz.prog 14 #[.agg #[.slice A0 n cap],.slice AE xs.length ce] w' fun e w''=>e=.returned (.int .i64 (cuErr D n (lE xs)))∧Below w'.heap.size w' w''):=fun w' hB=>scube_any A0 cap n D A C AE ce xs w' (hM.later (onB hB0 hB)) (hEn.later (onB hB0 hB))
 have HRi:Hid (∀ w',Below W.heap.size W w'→Calls Tryz.prog 19 #[.agg #[.slice A0 n cap]] w' fun e w''=>e=.returned (.int .i64 (ruErr D n).2.2)∧Below w'.heap.size w' w''):=fun w' hB=>sright_any A0 cap n D A C w' (hM.later (onB hB0 hB))
 have HVa:Hid (∀ w',Below W.heap.size W w'→Calls Tryz.prog 18 #[.agg #[.slice A0 n cap],.slice AE xs.length ce,.slice Ap p.length cp] w' fun e w''=>e=.returned (.tuple #[.agg #[.int .i64 (soV D n (lE xs) p).1,.int .i64 (soV D n (lE xs) p).2],errV (soErr D n (lE xs) p)])∧Below w'.heap.size w' w''):=fun w' hB=>pvalue_any A0 cap n D A C AE ce xs Ap cp p w' (hM.later (onB hB0 hB)) (hEn.later (onB hB0 hB)) (hP.later (onB hB0 hB))
 have HPb:Hid (∀ w',Below W.heap.size W w'→Calls Tryz.prog 21 #[.agg #[.slice A0 n cap],.slice Ap p.length cp] w' fun e w''=>e=.returned (.tuple #[.int .i64 (byV D n p),errV (byErr D n p)])∧Below w'.heap.size w' w''):=fun w' hB=>pby_any A0 cap n D A C Ap cp p w' (hM.later (onB hB0 hB)) (hP.later (onB hB0 hB))
 have HE1:Hid (∀ w',Below W.heap.size W w'→Calls Tryz.prog 13 #[errV (soErr D n (lE xs) p),.int .i64 (soErr D n (lE xs) p)] w' fun e w''=>e=.returned (.bool true)∧Below w'.heap.size w' w''):=fun w' hB=>same_errS _ w' (hK.later (onB hB0 hB))
 have HE2:Hid (∀ w',Below W.heap.size W w'→Calls Tryz.prog 13 #[errV (byErr D n p),.int .i64 (byErr D n p)] w' fun e w''=>e=.returned (.bool true)∧Below w'.heap.size w' w''):=fun w' hB=>same_errS _ w' (hK.later (onB hB0 hB))
 have HPl:Hid (∀ w',Below W.heap.size W w'→Calls Tryz.prog 15 #[.agg #[.slice A0 n cap],.slice Ap p.length cp] w' fun e w''=>e=.returned (.int .i64 (placeErr D n p))∧Below w'.heap.size w' w''):=fun w' hB=>by
  rw [place_shape hE]
  exact rplace_any A0 cap n D A C Ap cp p w' hE (hM.later (onB hB0 hB)) (hP.later (onB hB0 hB))
 have hIn:=inO_of hpe
 have HBy:Hid (∀ w',Below W.heap.size W w'→Calls Tryz.prog 20 #[.agg #[.slice A0 n cap],.slice Ap p.length cp] w' fun e w''=>e=.returned (.int .i64 (byTo D p n))∧Below w'.heap.size w' w''):=fun w' hB=>sby_any A0 cap n D A C Ap cp p w' hIn (hM.later (onB hB0 hB)) (hP.later (onB hB0 hB))
 rw [e1] at HE1 HVa
 rw [e2] at HE2 HPb
 rw [f1] at HVa
 rw [f2] at HPb
 rw [c1] at HCu
 rw [r1] at HRi
 rw [hpl] at HPl
 generalize p.length=pl at *
 generalize xs.length=xl at *
 obtain ⟨⟨sa,sb⟩,hsv⟩:∃ v:Int×Int,v=(0,0):=⟨_,rfl⟩
 rw [←hsv] at HVa
 simp only at HVa
 have HZ:Hid (sa=0∧sb=0):=by cases hsv;exact ⟨rfl,rfl⟩
 obtain ⟨o0,hq⟩:=HBx.out W (Below.refl _ _)
 have hc:=HCu.out W (Below.refl _ _)
 clear hM hEn hP hK hB0 hr hee hee0 hpe hE hRa hbe hcu c1 e1 e2 f1 f2 r1 hpl hsv hIn
 go_enter Tryz.func5,Tryz.ntmps5
 go_wp2_with fail
 refine hc.mono ?_
 rintro e w1 ⟨rfl,hb1⟩
 have HB1:Hid (Below W.heap.size W w1):=hb1
 clear hc hb1 o0 hq hW
 obtain ⟨y,hy⟩:∃ y,w1.alloc (.cells #[.int .i64 0,.int .i64 0] 48)=y:=⟨_,rfl⟩
 have hBy:Below w1.heap.size w1 y:=by rw [←hy];go_grown
 have HBy':Hid (Below W.heap.size W y):=onB HB1.out hBy
 have hyb:y.heap[w1.heap.size]?=some (.cells #[.int .i64 0,.int .i64 0] 48 (0,0)):=by rw [←hy];exact heap_alloc_new ..
 have HQe:Hid (W.heap.size≤w1.heap.size):=HB1.out.size
 have HQz:Hid (PairQ w1.heap.size 0 0 y):=⟨_,hyb⟩
 have HBz:=HBy'
 clear hyb hBy
 obtain ⟨o0,hq⟩:=HBx.out y HBz.out
 have hc:=HVa.out y HBz.out
 go_wp2_with fail
 refine hc.mono ?_
 rintro e v1 ⟨rfl,hb1⟩
 have HV1:Hid (Below W.heap.size W v1):=onB HBz.out hb1
 have HQ1:=pairQ_later HQz hb1
 obtain ⟨u,hu⟩:∃ u,v1.alloc (.cells #[.int .i64 sa,.int .i64 sb] 48)=u:=⟨_,rfl⟩
 have hBu:Below v1.heap.size v1 u:=by rw [←hu];go_grown
 have HU:Hid (Below W.heap.size W u):=onB HV1.out hBu
 have HQu:=pairQ_later HQ1 hBu
 have HGu:Hid (PairQ v1.heap.size sa sb u):=⟨_,by rw [←hu];exact heap_alloc_new ..⟩
 have hce:=HE1.out u HU.out
 clear hc hb1 o0 hq hBu hy
 go_wp2_with fail
 refine hce.mono ?_
 rintro e v2 ⟨rfl,hb2⟩
 have HV2:Hid (Below W.heap.size W v2):=onB HU.out hb2
 have HQ2:=pairQ_later HQu hb2
 have HG2:=pairQ_later HGu hb2
 clear hce hb2 hu
 obtain ⟨o0,hq⟩:=HBx.out v2 HV2.out
 have hc:=HRi.out v2 HV2.out
 go_wp2_with fail
 refine hc.mono ?_
 rintro e v3 ⟨rfl,hb⟩
 have HV3:Hid (Below W.heap.size W v3):=onB HV2.out hb
 have HQ3:=pairQ_later HQ2 hb
 have HG3:=pairQ_later HG2 hb
 clear hc hb o0 hq
 obtain ⟨o0,hq⟩:=HBx.out v3 HV3.out
 have hc:=HPl.out v3 HV3.out
 go_wp2_with fail
 refine hc.mono ?_
 rintro e v4 ⟨rfl,hb⟩
 have HV4:Hid (Below W.heap.size W v4):=onB HV3.out hb
 have HQ4:=pairQ_later HQ3 hb
 have HG4:=pairQ_later HG3 hb
 clear hc hb o0 hq
 obtain ⟨o0,hq⟩:=HBx.out v4 HV4.out
 have hc:=HBy.out v4 HV4.out
 go_wp2_with fail
 refine hc.mono ?_
 rintro e v5 ⟨rfl,hb⟩
 have HV5:Hid (Below W.heap.size W v5):=onB HV4.out hb
 have HQ5:=pairQ_later HQ4 hb
 have HG5:=pairQ_later HG4 hb
 clear hc hb o0 hq
 obtain ⟨o0,hq⟩:=HBx.out v5 HV5.out
 have hc:=HPb.out v5 HV5.out
 go_wp2_with fail
 refine hc.mono ?_
 rintro e v6 ⟨rfl,hb⟩
 have HV6:Hid (Below W.heap.size W v6):=onB HV5.out hb
 have HQ6:=pairQ_later HQ5 hb
 have HG6:=pairQ_later HG5 hb
 clear hc hb o0 hq
 obtain ⟨o0,hq⟩:=HBx.out v6 HV6.out
 have hc:=HE2.out v6 HV6.out
 go_wp2_with fail
 refine hc.mono ?_
 rintro e v7 ⟨rfl,hb⟩
 have HV7:Hid (Below W.heap.size W v7):=onB HV6.out hb
 have HQ7:=pairQ_later HQ6 hb
 have HG7:=pairQ_later HG6 hb
 clear hc hb o0 hq
 obtain ⟨a0,a1,a2⟩:=HQ7.out.at
 obtain ⟨b0,b1,b2⟩:=HG7.out.at
 obtain ⟨rfl,rfl⟩:=HZ.out
 go_wp2_with fail
 first | (go_quiet (fail);go_wp2_with fail) | skip
 go_ret
 exact ⟨by simp,by first | exact onB HB0.out HV7.out | exact below_drewN (onB HB0.out HV7.out) _⟩
set_option maxHeartbeats 8000000 in
theorem stell4 (A0:Option Addr) (cap n:Nat) (D:Nat→Dm) (A:Nat→Option Addr) (C:Nat→Nat) (AE:Option Addr) (ce:Nat) (xs:List EnL) (Ap:Option Addr) (cp:Nat) (p:List Int) (w:World) (hM:DimsV w A0 cap n D A C) (hEn:EnsV w AE ce xs) (hP:PlAt w Ap cp p) (hK:Kind0 w) (hr:(ruErr D n).2.2=0) (hee:entsErr D n (lE xs)=0) (hpe:placeErr D n p≠0):Calls Tryz.prog 5 #[.agg #[.slice A0 n cap],.slice AE xs.length ce,.slice Ap p.length cp] w fun e w'=>e=.returned (.bool true)∧Below w.heap.size w w':=by
 obtain ⟨hE,hRa⟩:=ru_right hr
 have r1:(ruErr D n).2.2=0:=hr
 have hbe:byErr D n p=placeErr D n p:=by unfold byErr;rw [if_neg (by simpa using hr)]
 have hcu:cuErr D n (lE xs)=entsErr D n (lE xs):=by unfold cuErr;rw [if_neg (by simpa using hr)]
 have c1:cuErr D n (lE xs)=0:=by rw [hcu,hee]
 obtain ⟨pe,hpe0⟩:∃ pe,placeErr D n p=pe:=⟨_,rfl⟩
 have hpl:placeErr D n p=pe:=hpe0
 have hpn:(pe == 0)=false:=by rw [←hpe0];simpa using hpe
 have e2:byErr D n p=pe:=by rw [hbe,hpe0]
 have f2:byV D n p=0:=by unfold byV;rw [e2,if_neg (by rw [←hpe0];exact hpe)]
 have e1:soErr D n (lE xs) p=pe:=by unfold soErr;rw [c1,if_neg (by simp),hpe0]
 have f1:soV D n (lE xs) p=(0,0):=by unfold soV;rw [e1,if_neg (by rw [←hpe0];exact hpe)]
 have hB0:=ownOut_below w A0 n cap 42
 have HBx:Hid (∀ w1,Below (ownOut w A0 n cap 42).heap.size (ownOut w A0 n cap 42) w1→w1.cell? ⟨w.heap.size,0,none⟩=some (.slice A0 n cap)∧w.heap.size<w1.heap.size):=fun w1 h=>out_cell h
 obtain ⟨W,hW⟩:∃ W,ownOut w A0 n cap 42=W:=⟨_,rfl⟩
 rw [hW] at hB0 HBx
 unfold ownOut at hW
 have HB0:Hid (Below w.heap.size w W):=hB0
 have HCu:Hid (∀ w',Below W.heap.size W w'→Calls Tryz.prog 14 #[.agg #[.slice A0 n cap],.slice AE xs.length ce] w' fun e w''=>e=.returned (.int .i64 (cuErr D n (lE xs)))∧Below w'.heap.size w' w''):=fun w' hB=>scube_any A0 cap n D A C AE ce xs w' (hM.later (onB hB0 hB)) (hEn.later (onB hB0 hB))
 have HRi:Hid (∀ w',Below W.heap.size W w'→Calls Tryz.prog 19 #[.agg #[.slice A0 n cap]] w' fun e w''=>e=.returned (.int .i64 (ruErr D n).2.2)∧Below w'.heap.size w' w''):=fun w' hB=>sright_any A0 cap n D A C w' (hM.later (onB hB0 hB))
 have HVa:Hid (∀ w',Below W.heap.size W w'→Calls Tryz.prog 18 #[.agg #[.slice A0 n cap],.slice AE xs.length ce,.slice Ap p.length cp] w' fun e w''=>e=.returned (.tuple #[.agg #[.int .i64 (soV D n (lE xs) p).1,.int .i64 (soV D n (lE xs) p).2],errV (soErr D n (lE xs) p)])∧Below w'.heap.size w' w''):=fun w' hB=>pvalue_any A0 cap n D A C AE ce xs Ap cp p w' (hM.later (onB hB0 hB)) (hEn.later (onB hB0 hB)) (hP.later (onB hB0 hB))
 have HPb:Hid (∀ w',Below W.heap.size W w'→Calls Tryz.prog 21 #[.agg #[.slice A0 n cap],.slice Ap p.length cp] w' fun e w''=>e=.returned (.tuple #[.int .i64 (byV D n p),errV (byErr D n p)])∧Below w'.heap.size w' w''):=fun w' hB=>pby_any A0 cap n D A C Ap cp p w' (hM.later (onB hB0 hB)) (hP.later (onB hB0 hB))
 have HE1:Hid (∀ w',Below W.heap.size W w'→Calls Tryz.prog 13 #[errV (soErr D n (lE xs) p),.int .i64 (soErr D n (lE xs) p)] w' fun e w''=>e=.returned (.bool true)∧Below w'.heap.size w' w''):=fun w' hB=>same_errS _ w' (hK.later (onB hB0 hB))
 have HE2:Hid (∀ w',Below W.heap.size W w'→Calls Tryz.prog 13 #[errV (byErr D n p),.int .i64 (byErr D n p)] w' fun e w''=>e=.returned (.bool true)∧Below w'.heap.size w' w''):=fun w' hB=>same_errS _ w' (hK.later (onB hB0 hB))
 have HPl:Hid (∀ w',Below W.heap.size W w'→Calls Tryz.prog 15 #[.agg #[.slice A0 n cap],.slice Ap p.length cp] w' fun e w''=>e=.returned (.int .i64 (placeErr D n p))∧Below w'.heap.size w' w''):=fun w' hB=>by
  rw [place_shape hE]
  exact rplace_any A0 cap n D A C Ap cp p w' hE (hM.later (onB hB0 hB)) (hP.later (onB hB0 hB))
 rw [e1] at HE1 HVa
 rw [e2] at HE2 HPb
 rw [f1] at HVa
 rw [f2] at HPb
 rw [c1] at HCu
 rw [r1] at HRi
 rw [hpl] at HPl
 generalize p.length=pl at *
 generalize xs.length=xl at *
 obtain ⟨⟨sa,sb⟩,hsv⟩:∃ v:Int×Int,v=(0,0):=⟨_,rfl⟩
 rw [←hsv] at HVa
 simp only at HVa
 have HZ:Hid (sa=0∧sb=0):=by cases hsv;exact ⟨rfl,rfl⟩
 obtain ⟨o0,hq⟩:=HBx.out W (Below.refl _ _)
 have hc:=HCu.out W (Below.refl _ _)
 clear hM hEn hP hK hB0 hr hee hpe hpe0 hE hRa hbe hcu c1 e1 e2 f1 f2 r1 hpl hsv
 go_enter Tryz.func5,Tryz.ntmps5
 go_wp2_with fail
 refine hc.mono ?_
 rintro e w1 ⟨rfl,hb1⟩
 have HB1:Hid (Below W.heap.size W w1):=hb1
 clear hc hb1 o0 hq hW
 obtain ⟨o0,hq⟩:=HBx.out w1 HB1.out
 have hc:=HPl.out w1 HB1.out
 go_wp2_with fail
 refine hc.mono ?_
 rintro e w2 ⟨rfl,hb2⟩
 have HB2:Hid (Below W.heap.size W w2):=onB HB1.out hb2
 clear hc hb2 o0 hq
 obtain ⟨y,hy⟩:∃ y,w2.alloc (.cells #[.int .i64 0,.int .i64 0] 48)=y:=⟨_,rfl⟩
 have hBy:Below w2.heap.size w2 y:=by rw [←hy];go_grown
 have HBy':Hid (Below W.heap.size W y):=onB HB2.out hBy
 have hyb:y.heap[w2.heap.size]?=some (.cells #[.int .i64 0,.int .i64 0] 48 (0,0)):=by rw [←hy];exact heap_alloc_new ..
 have HQe:Hid (W.heap.size≤w2.heap.size):=HB2.out.size
 have HQz:Hid (PairQ w2.heap.size 0 0 y):=⟨_,hyb⟩
 have HBz:=HBy'
 clear hyb hBy
 obtain ⟨o0,hq⟩:=HBx.out y HBz.out
 have hc:=HVa.out y HBz.out
 go_wp2_with fail
 refine hc.mono ?_
 rintro e v1 ⟨rfl,hb1⟩
 have HV1:Hid (Below W.heap.size W v1):=onB HBz.out hb1
 have HQ1:=pairQ_later HQz hb1
 obtain ⟨u,hu⟩:∃ u,v1.alloc (.cells #[.int .i64 sa,.int .i64 sb] 48)=u:=⟨_,rfl⟩
 have hBu:Below v1.heap.size v1 u:=by rw [←hu];go_grown
 have HU:Hid (Below W.heap.size W u):=onB HV1.out hBu
 have HQu:=pairQ_later HQ1 hBu
 have HGu:Hid (PairQ v1.heap.size sa sb u):=⟨_,by rw [←hu];exact heap_alloc_new ..⟩
 have hce:=HE1.out u HU.out
 clear hc hb1 o0 hq hBu hy
 go_wp2_with fail
 refine hce.mono ?_
 rintro e v2 ⟨rfl,hb2⟩
 have HV2:Hid (Below W.heap.size W v2):=onB HU.out hb2
 have HQ2:=pairQ_later HQu hb2
 have HG2:=pairQ_later HGu hb2
 clear hce hb2 hu
 obtain ⟨o0,hq⟩:=HBx.out v2 HV2.out
 have hc:=HRi.out v2 HV2.out
 go_wp2_with fail
 refine hc.mono ?_
 rintro e v3 ⟨rfl,hb⟩
 have HV3:Hid (Below W.heap.size W v3):=onB HV2.out hb
 have HQ3:=pairQ_later HQ2 hb
 have HG3:=pairQ_later HG2 hb
 clear hc hb o0 hq
 obtain ⟨o0,hq⟩:=HBx.out v3 HV3.out
 have hc:=HPl.out v3 HV3.out
 go_wp2_with fail
 refine hc.mono ?_
 rintro e v4 ⟨rfl,hb⟩
 have HV4:Hid (Below W.heap.size W v4):=onB HV3.out hb
 have HQ4:=pairQ_later HQ3 hb
 have HG4:=pairQ_later HG3 hb
 clear hc hb o0 hq
 obtain ⟨o0,hq⟩:=HBx.out v4 HV4.out
 have hc:=HPb.out v4 HV4.out
 go_wp2_with fail
 refine hc.mono ?_
 rintro e v5 ⟨rfl,hb⟩
 have HV5:Hid (Below W.heap.size W v5):=onB HV4.out hb
 have HQ5:=pairQ_later HQ4 hb
 have HG5:=pairQ_later HG4 hb
 clear hc hb o0 hq
 obtain ⟨o0,hq⟩:=HBx.out v5 HV5.out
 have hc:=HE2.out v5 HV5.out
 go_wp2_with fail
 refine hc.mono ?_
 rintro e v6 ⟨rfl,hb⟩
 have HV6:Hid (Below W.heap.size W v6):=onB HV5.out hb
 have HQ6:=pairQ_later HQ5 hb
 have HG6:=pairQ_later HG5 hb
 clear hc hb o0 hq
 obtain ⟨a0,a1,a2⟩:=HQ6.out.at
 obtain ⟨b0,b1,b2⟩:=HG6.out.at
 obtain ⟨rfl,rfl⟩:=HZ.out
 go_wp2_with fail
 first | (go_quiet (fail);go_wp2_with fail) | skip
 go_ret
 exact ⟨by simp,by first | exact onB HB0.out HV6.out | exact below_drewN (onB HB0.out HV6.out) _⟩
set_option maxHeartbeats 8000000 in
theorem stell5 (A0:Option Addr) (cap n:Nat) (D:Nat→Dm) (A:Nat→Option Addr) (C:Nat→Nat) (AE:Option Addr) (ce:Nat) (xs:List EnL) (Ap:Option Addr) (cp:Nat) (p:List Int) (w:World) (hM:DimsV w A0 cap n D A C) (hEn:EnsV w AE ce xs) (hP:PlAt w Ap cp p) (hK:Kind0 w) (hr:(ruErr D n).2.2=0) (hee:entsErr D n (lE xs)=0) (hpe:placeErr D n p=0):Calls Tryz.prog 5 #[.agg #[.slice A0 n cap],.slice AE xs.length ce,.slice Ap p.length cp] w fun e w'=>e=.returned (.bool true)∧Below w.heap.size w w':=by
 obtain ⟨hE,hRa⟩:=ru_right hr
 have r1:(ruErr D n).2.2=0:=hr
 have hbe:byErr D n p=placeErr D n p:=by unfold byErr;rw [if_neg (by simpa using hr)]
 have hcu:cuErr D n (lE xs)=entsErr D n (lE xs):=by unfold cuErr;rw [if_neg (by simpa using hr)]
 have c1:cuErr D n (lE xs)=0:=by rw [hcu,hee]
 have hpl:placeErr D n p=0:=hpe
 have e2:byErr D n p=0:=by rw [hbe,hpe]
 have f2:byV D n p=byTo D p n:=by unfold byV;rw [e2,if_pos rfl]
 have e1:soErr D n (lE xs) p=0:=by unfold soErr;rw [c1,if_neg (by simp),hpe]
 have f1:soV D n (lE xs) p=solV D n (getE (lE xs)) p:=by unfold soV;rw [e1,if_pos rfl]
 have hB0:=ownOut_below w A0 n cap 42
 have HBx:Hid (∀ w1,Below (ownOut w A0 n cap 42).heap.size (ownOut w A0 n cap 42) w1→w1.cell? ⟨w.heap.size,0,none⟩=some (.slice A0 n cap)∧w.heap.size<w1.heap.size):=fun w1 h=>out_cell h
 obtain ⟨W,hW⟩:∃ W,ownOut w A0 n cap 42=W:=⟨_,rfl⟩
 rw [hW] at hB0 HBx
 unfold ownOut at hW
 have HB0:Hid (Below w.heap.size w W):=hB0
 have HCu:Hid (∀ w',Below W.heap.size W w'→Calls Tryz.prog 14 #[.agg #[.slice A0 n cap],.slice AE xs.length ce] w' fun e w''=>e=.returned (.int .i64 (cuErr D n (lE xs)))∧Below w'.heap.size w' w''):=fun w' hB=>scube_any A0 cap n D A C AE ce xs w' (hM.later (onB hB0 hB)) (hEn.later (onB hB0 hB))
 have HRi:Hid (∀ w',Below W.heap.size W w'→Calls Tryz.prog 19 #[.agg #[.slice A0 n cap]] w' fun e w''=>e=.returned (.int .i64 (ruErr D n).2.2)∧Below w'.heap.size w' w''):=fun w' hB=>sright_any A0 cap n D A C w' (hM.later (onB hB0 hB))
 have HVa:Hid (∀ w',Below W.heap.size W w'→Calls Tryz.prog 18 #[.agg #[.slice A0 n cap],.slice AE xs.length ce,.slice Ap p.length cp] w' fun e w''=>e=.returned (.tuple #[.agg #[.int .i64 (soV D n (lE xs) p).1,.int .i64 (soV D n (lE xs) p).2],errV (soErr D n (lE xs) p)])∧Below w'.heap.size w' w''):=fun w' hB=>pvalue_any A0 cap n D A C AE ce xs Ap cp p w' (hM.later (onB hB0 hB)) (hEn.later (onB hB0 hB)) (hP.later (onB hB0 hB))
 have HPb:Hid (∀ w',Below W.heap.size W w'→Calls Tryz.prog 21 #[.agg #[.slice A0 n cap],.slice Ap p.length cp] w' fun e w''=>e=.returned (.tuple #[.int .i64 (byV D n p),errV (byErr D n p)])∧Below w'.heap.size w' w''):=fun w' hB=>pby_any A0 cap n D A C Ap cp p w' (hM.later (onB hB0 hB)) (hP.later (onB hB0 hB))
 have HE1:Hid (∀ w',Below W.heap.size W w'→Calls Tryz.prog 13 #[errV (soErr D n (lE xs) p),.int .i64 (soErr D n (lE xs) p)] w' fun e w''=>e=.returned (.bool true)∧Below w'.heap.size w' w''):=fun w' hB=>same_errS _ w' (hK.later (onB hB0 hB))
 have HE2:Hid (∀ w',Below W.heap.size W w'→Calls Tryz.prog 13 #[errV (byErr D n p),.int .i64 (byErr D n p)] w' fun e w''=>e=.returned (.bool true)∧Below w'.heap.size w' w''):=fun w' hB=>same_errS _ w' (hK.later (onB hB0 hB))
 have HPl:Hid (∀ w',Below W.heap.size W w'→Calls Tryz.prog 15 #[.agg #[.slice A0 n cap],.slice Ap p.length cp] w' fun e w''=>e=.returned (.int .i64 (placeErr D n p))∧Below w'.heap.size w' w''):=fun w' hB=>by
  rw [place_shape hE]
  exact rplace_any A0 cap n D A C Ap cp p w' hE (hM.later (onB hB0 hB)) (hP.later (onB hB0 hB))
 have hIn:=inO_of hpe
 have HBy:Hid (∀ w',Below W.heap.size W w'→Calls Tryz.prog 20 #[.agg #[.slice A0 n cap],.slice Ap p.length cp] w' fun e w''=>e=.returned (.int .i64 (byTo D p n))∧Below w'.heap.size w' w''):=fun w' hB=>sby_any A0 cap n D A C Ap cp p w' hIn (hM.later (onB hB0 hB)) (hP.later (onB hB0 hB))
 obtain ⟨x,hx1,hx2,hx3⟩:=num_lt hIn
 have HNu:Hid (∀ w',Below W.heap.size W w'→Calls Tryz.prog 17 #[.agg #[.slice A0 n cap],.slice Ap p.length cp] w' fun e w''=>e=.returned (.int .i64 x)∧Below w'.heap.size w' w''):=fun w' hB=>by
  have h:=rnumber_any A0 cap n D A C Ap cp p w' hIn (hM.later (onB hB0 hB)) (hP.later (onB hB0 hB))
  rw [hx1] at h
  exact h
 obtain ⟨⟨sa,sb⟩,hsv⟩:∃ v,solV D n (getE (lE xs)) p=v:=⟨_,rfl⟩
 have HSo:Hid (∀ w',Below W.heap.size W w'→Calls Tryz.prog 16 #[.agg #[.slice A0 n cap],.slice AE xs.length ce] w' fun e w''=>(∃ g,e=.returned (.slice (some ⟨g,0,none⟩) (prodN D n) (prodN D n))∧∀ w3,Below w''.heap.size w'' w3→w3.cell? ⟨g,x*2,none⟩=some (.int .i64 sa)∧w3.cell? ⟨g,x*2+1,none⟩=some (.int .i64 sb))∧Below w'.heap.size w' w''):=fun w' hB=>by
  refine (ssolve_any A0 cap n D A C AE ce xs w' hE hRa (ens_of hee) (hM.later (onB hB0 hB)) (hEn.later (onB hB0 hB))).mono ?_
  rintro e w'' ⟨⟨g,L,rfl,hL,hC,hV⟩,hb⟩
  refine ⟨⟨g,rfl,fun w3 h3=>?_⟩,hb⟩
  have h:=(hC.later h3).at (k:=x) (by omega)
  rw [hV x hx2,hx3,hsv] at h
  exact h
 obtain ⟨-,-,hp3,-⟩:=allErr_some hE
 obtain ⟨N,hN⟩:∃ N,prodN D n=N:=⟨_,rfl⟩
 rw [hN] at HSo hx2 hp3
 have hNI:(N:Int)≤3000:=by omega
 have hxI:(x:Int)<(N:Int):=by omega
 rw [e1] at HE1 HVa
 rw [e2] at HE2 HPb
 rw [f1] at HVa
 rw [f2] at HPb
 rw [c1] at HCu
 rw [r1] at HRi
 rw [hpl] at HPl
 generalize p.length=pl at *
 generalize xs.length=xl at *
 rw [hsv] at HVa
 simp only at HVa
 obtain ⟨o0,hq⟩:=HBx.out W (Below.refl _ _)
 have hc:=HCu.out W (Below.refl _ _)
 clear hM hEn hP hK hB0 hr hee hpe hE hRa hbe hcu c1 e1 e2 f1 f2 r1 hpl hsv hIn hx1 hx2 hx3 hN
 go_enter Tryz.func5,Tryz.ntmps5
 go_wp2_with fail
 refine hc.mono ?_
 rintro e w1 ⟨rfl,hb1⟩
 have HB1:Hid (Below W.heap.size W w1):=hb1
 clear hc hb1 o0 hq hW
 obtain ⟨o0,hq⟩:=HBx.out w1 HB1.out
 have hc:=HPl.out w1 HB1.out
 go_wp2_with fail
 refine hc.mono ?_
 rintro e w2 ⟨rfl,hb2⟩
 have HB2:Hid (Below W.heap.size W w2):=onB HB1.out hb2
 clear hc hb2 o0 hq
 obtain ⟨y,hy⟩:∃ y,w2.alloc (.cells #[.int .i64 0,.int .i64 0] 48)=y:=⟨_,rfl⟩
 have hBy:Below w2.heap.size w2 y:=by rw [←hy];go_grown
 have HBy':Hid (Below W.heap.size W y):=onB HB2.out hBy
 have hyb:y.heap[w2.heap.size]?=some (.cells #[.int .i64 0,.int .i64 0] 48 (0,0)):=by rw [←hy];exact heap_alloc_new ..
 have HQe:Hid (W.heap.size≤w2.heap.size):=HB2.out.size
 have HKq:Hid (∀ w',Below y.heap.size y w'→(w'.cell? ⟨w.heap.size,0,none⟩=some (.slice A0 n cap)∧w.heap.size<w'.heap.size)∧w'.cell? ⟨w2.heap.size,0,none⟩=some (.int .i64 0)∧w'.cell? ⟨w2.heap.size,1,none⟩=some (.int .i64 0)∧w'.frozen? ⟨w2.heap.size,0,none⟩=false∧w'.frozen? ⟨w2.heap.size,1,none⟩=false):=fun w' h=>⟨HBx.out w' (onB HBy'.out h),pair_at ((h.block _ (Array.getElem?_eq_some_iff.1 hyb).1).trans hyb)⟩
 have HYb:Hid (y.heap[w2.heap.size]?=some (.cells #[.int .i64 0,.int .i64 0] 48 (0,0))):=hyb
 obtain ⟨⟨o0,hq⟩,q0,q1,q2,q3⟩:=HKq.out y (Below.refl _ _)
 have hyl:w2.heap.size<y.heap.size:=(Array.getElem?_eq_some_iff.1 hyb).1
 clear hyb hBy
 go_upto_region 6 with fail
 clear hy
 go_cut [] from 25 (fun wx=>wx.heap[w2.heap.size]?=some (.cells #[.int .i64 sa,.int .i64 sb] 48 (0,0))∧Below W.heap.size W wx)
 case first =>
  go_region_law ((first
   | (go_simp;refine (HSo.out _ (onB HBy'.out (by go_grown))).mono ?_;rintro e w6 ⟨⟨g6,rfl,hk6⟩,hb6⟩;have hN6:=onB (W0:=y) (by go_grown) hb6;have HK6:Hid (∀ w3,Below w6.heap.size w6 w3→w3.cell? ⟨g6,x*2,none⟩=some (.int .i64 sa)∧w3.cell? ⟨g6,x*2+1,none⟩=some (.int .i64 sb)):=hk6;obtain ⟨m0,m1⟩:=HK6.out w6 (Below.refl _ _);obtain ⟨⟨i0,i1⟩,i2,i3,i4,i5⟩:=HKq.out _ hN6;clear hb6 hk6)
   | (go_simp;refine (HNu.out _ (onB HBy'.out (by go_grown))).mono ?_;rintro e w7 ⟨rfl,hb7⟩;have hN7:=onB (W0:=y) (by go_grown) hb7;(try obtain ⟨m0',m1'⟩:=HK6.out w7 (by first | exact hb7 | exact onB (by go_grown) hb7));obtain ⟨⟨j0,j1⟩,j2,j3,j4,j5⟩:=HKq.out _ hN7;clear hb7)))
  all_goals go_wp2_with fail
  all_goals go_meet
  all_goals first
   | exact ⟨pair_set ((hN7.block _ hyl).trans HYb.out),((onB HBy'.out hN7).setCell HQe.out _).setCell HQe.out _⟩
   | exact ⟨pair_set ((hN6.block _ hyl).trans HYb.out),((onB HBy'.out hN6).setCell HQe.out _).setCell HQe.out _⟩
   | exact ⟨pair_set ((hN7.block _ hyl).trans HYb.out),below_drewN (((onB HBy'.out hN7).setCell HQe.out _).setCell HQe.out _) 1⟩
   | exact ⟨pair_set ((hN6.block _ hyl).trans HYb.out),below_drewN (((onB HBy'.out hN6).setCell HQe.out _).setCell HQe.out _) 1⟩
 case rest =>
 obtain ⟨hyb,hBc⟩:=hcut
 obtain ⟨z,rfl⟩:∃ z:World,z=wc:=⟨_,rfl⟩
 have HBz:Hid (Below W.heap.size W z):=hBc
 have HQz:Hid (PairQ w2.heap.size sa sb z):=⟨_,hyb⟩
 clear hBc hyb o0 hq q0 q1 q2 q3
 obtain ⟨o0,hq⟩:=HBx.out z HBz.out
 have hc:=HVa.out z HBz.out
 go_wp2_with fail
 refine hc.mono ?_
 rintro e v1 ⟨rfl,hb1⟩
 have HV1:Hid (Below W.heap.size W v1):=onB HBz.out hb1
 have HQ1:=pairQ_later HQz hb1
 obtain ⟨u,hu⟩:∃ u,v1.alloc (.cells #[.int .i64 sa,.int .i64 sb] 48)=u:=⟨_,rfl⟩
 have hBu:Below v1.heap.size v1 u:=by rw [←hu];go_grown
 have HU:Hid (Below W.heap.size W u):=onB HV1.out hBu
 have HQu:=pairQ_later HQ1 hBu
 have HGu:Hid (PairQ v1.heap.size sa sb u):=⟨_,by rw [←hu];exact heap_alloc_new ..⟩
 have hce:=HE1.out u HU.out
 clear hc hb1 o0 hq hBu
 go_wp2_with fail
 refine hce.mono ?_
 rintro e v2 ⟨rfl,hb2⟩
 have HV2:Hid (Below W.heap.size W v2):=onB HU.out hb2
 have HQ2:=pairQ_later HQu hb2
 have HG2:=pairQ_later HGu hb2
 clear hce hb2 hu
 obtain ⟨o0,hq⟩:=HBx.out v2 HV2.out
 have hc:=HRi.out v2 HV2.out
 go_wp2_with fail
 refine hc.mono ?_
 rintro e v3 ⟨rfl,hb⟩
 have HV3:Hid (Below W.heap.size W v3):=onB HV2.out hb
 have HQ3:=pairQ_later HQ2 hb
 have HG3:=pairQ_later HG2 hb
 clear hc hb o0 hq
 obtain ⟨o0,hq⟩:=HBx.out v3 HV3.out
 have hc:=HPl.out v3 HV3.out
 go_wp2_with fail
 refine hc.mono ?_
 rintro e v4 ⟨rfl,hb⟩
 have HV4:Hid (Below W.heap.size W v4):=onB HV3.out hb
 have HQ4:=pairQ_later HQ3 hb
 have HG4:=pairQ_later HG3 hb
 clear hc hb o0 hq
 obtain ⟨o0,hq⟩:=HBx.out v4 HV4.out
 have hc:=HBy.out v4 HV4.out
 go_wp2_with fail
 refine hc.mono ?_
 rintro e v5 ⟨rfl,hb⟩
 have HV5:Hid (Below W.heap.size W v5):=onB HV4.out hb
 have HQ5:=pairQ_later HQ4 hb
 have HG5:=pairQ_later HG4 hb
 clear hc hb o0 hq
 obtain ⟨o0,hq⟩:=HBx.out v5 HV5.out
 have hc:=HPb.out v5 HV5.out
 go_wp2_with fail
 refine hc.mono ?_
 rintro e v6 ⟨rfl,hb⟩
 have HV6:Hid (Below W.heap.size W v6):=onB HV5.out hb
 have HQ6:=pairQ_later HQ5 hb
 have HG6:=pairQ_later HG5 hb
 clear hc hb o0 hq
 obtain ⟨o0,hq⟩:=HBx.out v6 HV6.out
 have hc:=HE2.out v6 HV6.out
 go_wp2_with fail
 refine hc.mono ?_
 rintro e v7 ⟨rfl,hb⟩
 have HV7:Hid (Below W.heap.size W v7):=onB HV6.out hb
 have HQ7:=pairQ_later HQ6 hb
 have HG7:=pairQ_later HG6 hb
 clear hc hb o0 hq
 obtain ⟨a0,a1,a2⟩:=HQ7.out.at
 obtain ⟨b0,b1,b2⟩:=HG7.out.at
 go_wp2_with fail
 first | (go_quiet (fail);go_wp2_with fail) | skip
 go_ret
 exact ⟨by simp,by first | exact onB HB0.out HV7.out | exact below_drewN (onB HB0.out HV7.out) _⟩
theorem stell_law (A0:Option Addr) (cap n:Nat) (D:Nat→Dm) (A:Nat→Option Addr) (C:Nat→Nat) (AE:Option Addr) (ce:Nat) (xs:List EnL) (Ap:Option Addr) (cp:Nat) (p:List Int) (w:World) (hM:DimsV w A0 cap n D A C) (hEn:EnsV w AE ce xs) (hP:PlAt w Ap cp p) (hK:Kind0 w):Calls Tryz.prog 5 #[.agg #[.slice A0 n cap],.slice AE xs.length ce,.slice Ap p.length cp] w fun e w'=>e=.returned (.bool true)∧Below w.heap.size w w':=by
 by_cases hr:(ruErr D n).2.2=0
 ·by_cases hee:entsErr D n (lE xs)=0
  ·by_cases hpe:placeErr D n p=0
   ·exact stell5 A0 cap n D A C AE ce xs Ap cp p w hM hEn hP hK hr hee hpe
   ·exact stell4 A0 cap n D A C AE ce xs Ap cp p w hM hEn hP hK hr hee hpe
  ·by_cases hpe:placeErr D n p=0
   ·exact stell3 A0 cap n D A C AE ce xs Ap cp p w hM hEn hP hK hr hee hpe
   ·exact stell2 A0 cap n D A C AE ce xs Ap cp p w hM hEn hP hK hr hee hpe
 ·exact stell1 A0 cap n D A C AE ce xs Ap cp p w hM hEn hP hK hr
end Go.Proofs.YtaodedckffjpgafGreatDoor
