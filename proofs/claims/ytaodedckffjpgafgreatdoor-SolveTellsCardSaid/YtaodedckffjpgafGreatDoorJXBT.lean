/-
  What Value and By of package solve answer, called in whatever memory.
-/
import Derived.Test.YtaodedckffjpgafGreatDoorJXBS
namespace Go.Proofs.YtaodedckffjpgafGreatDoor
open Go.ChangeShapes Go.WideShapes Go.ChangeAt Go.RowKit
set_option maxRecDepth 20000
noncomputable def byErr (D:Nat→Dm) (n:Nat) (p:List Int):Int:=if (ruErr D n).2.2≠0 then (ruErr D n).2.2 else placeErr D n p
noncomputable def byV (D:Nat→Dm) (n:Nat) (p:List Int):Int:=if byErr D n p=0 then byTo D p n else 0
set_option maxHeartbeats 4000000 in
theorem pby_any (A0:Option Addr) (cap n:Nat) (D:Nat→Dm) (A:Nat→Option Addr) (C:Nat→Nat) (Ap:Option Addr) (cp:Nat) (p:List Int) (w:World) (hM:DimsV w A0 cap n D A C) (hP:PlAt w Ap cp p) :
  Calls Tryz.prog 21 #[.agg #[.slice A0 n cap],.slice Ap p.length cp] w fun e w'=>e=.returned (.tuple #[.int .i64 (byV D n p),errV (byErr D n p)])∧Below w.heap.size w w':=by
 have hB0:=ownOut_below w A0 n cap 42
 have hS:=ownOut_size w A0 n cap 42
 have hA:=ownOut_at w A0 n cap 42
 obtain ⟨W,hW⟩:∃ W,ownOut w A0 n cap 42=W:=⟨_,rfl⟩
 rw [hW] at hB0 hS hA
 unfold ownOut at hW
 have HB0:Hid (Below w.heap.size w W):=hB0
 have hsz:w.heap.size<W.heap.size:=by omega
 have HA:Hid (W.cell? ⟨w.heap.size,0,none⟩=some (.slice A0 n cap)):=hA
 have HNum:Hid (∀ w',Below w.heap.size w w'→Calls Tryz.prog 40 #[.agg #[.slice A0 n cap],.slice Ap p.length cp] w' fun e w''=>e=.returned (.tuple #[.int .i64 (numV D n p),errV (placeErr D n p)])∧Below w'.heap.size w' w''):=fun w' hB=>pnumber_any A0 cap n D A C Ap cp p w' (hM.later hB) (hP.later hB)
 by_cases hr:(ruErr D n).2.2=0
 case neg =>
  have hl:=new_bad A0 cap n D A C W hr (hM.later hB0)
  have HE:Hid (byErr D n p=(ruErr D n).2.2∧byV D n p=0):=by
   have e:byErr D n p=(ruErr D n).2.2:=by unfold byErr;rw [if_pos hr]
   exact ⟨e,by unfold byV;rw [e,if_neg hr]⟩
  have HEr:Hid (errV (ruErr D n).2.2=.iface 77 (.int .i64 (ruErr D n).2.2)):=errV_some hr
  rw [errV_some hr] at hl
  generalize p.length=pl at HNum ⊢
  clear hM hP hB0 hr hS
  generalize (ruErr D n).2.2=z at hl HE HEr
  go_enter Tryz.func21,Tryz.ntmps21
  go_wp2_with fail
  refine hl.mono ?_
  rintro e w1 ⟨rfl,hb1⟩
  go_wp2_with fail
  go_returns
  exact ⟨by rw [HE.out.1,HE.out.2,HEr.out];rfl,onB HB0.out hb1⟩
 obtain ⟨hE,hR⟩:=ru_right hr
 have hl:=new_any A0 cap n D A C W hE hR (hM.later hB0)
 have HBE:Hid (byErr D n p=placeErr D n p):=by show _=_;unfold byErr;rw [if_neg (by simpa using hr)]
 by_cases hp:placeErr D n p=0
 case neg =>
  have HE:Hid (byV D n p=0):=by show _=_;unfold byV;rw [HBE.out,if_neg hp]
  have HEr:Hid (errV (placeErr D n p)=.iface 77 (.int .i64 (placeErr D n p))):=errV_some hp
  rw [errV_some hp] at HNum
  generalize p.length=pl at HNum ⊢
  generalize placeErr D n p=z at HNum HBE HEr
  generalize numV D n p=nv at HNum
  clear hM hP hB0 hr hS hE hR hp
  go_enter Tryz.func21,Tryz.ntmps21
  go_wp2_with fail
  refine hl.mono ?_
  rintro e w1 ⟨⟨qp,g,X,rfl,-,-,-⟩,hb1⟩
  have HB1:Hid (Below w.heap.size w w1):=onB HB0.out hb1
  have c1:=(hb1.cell (p:=⟨w.heap.size,0,none⟩) hsz).trans HA.out
  have hs1:w.heap.size<w1.heap.size:=Nat.lt_of_lt_of_le hsz hb1.size
  clear hb1 hl hA hW
  go_wp2_with fail
  refine (HNum.out w1 HB1.out).mono ?_
  rintro e w2 ⟨rfl,hb2⟩
  go_wp2_with fail
  go_returns
  exact ⟨by rw [HE.out,HBE.out,HEr.out];rfl,onB HB1.out hb2⟩
 obtain ⟨x,hx1,hx2,hx3⟩:=num_lt (inO_of hp)
 have hnv:numV D n p=(x:Int):=by unfold numV;rw [if_pos hp,hx1]
 have HE:Hid (byErr D n p=0∧byV D n p=byTo D p n):=⟨by rw [HBE.out,hp],by unfold byV;rw [HBE.out,if_pos hp]⟩
 rw [hp,hnv,errV_zero] at HNum
 have HBy:Hid (∀ qp g X w',PlanV w' qp g n D X→Calls Tryz.prog 44 #[.pointer (some ⟨qp,0,none⟩),.int .i64 x] w' fun e w''=>e=.returned (.int .i64 (byTo D p n))∧Below w'.heap.size w' w''):=fun qp g X w' h=>by
  have h:=by_any2 qp g n D X x w' hE hx2 h
  rw [hx3] at h
  exact h
 generalize p.length=pl at HNum ⊢
 generalize byTo D p n=r at HE HBy
 clear hM hP hB0 hr hS hE hR hp hnv hx1 hx2 hx3
 go_enter Tryz.func21,Tryz.ntmps21
 go_wp2_with fail
 refine hl.mono ?_
 rintro e w1 ⟨⟨qp,g,X,rfl,-,-,hAx⟩,hb1⟩
 have HB1:Hid (Below w.heap.size w w1):=onB HB0.out hb1
 have HAx:Hid (PlanV w1 qp g n D X):=hAx
 have c1:=(hb1.cell (p:=⟨w.heap.size,0,none⟩) hsz).trans HA.out
 have hs1:w.heap.size<w1.heap.size:=Nat.lt_of_lt_of_le hsz hb1.size
 clear hb1 hl hA hW hAx
 go_wp2_with fail
 refine (HNum.out w1 HB1.out).mono ?_
 rintro e w2 ⟨rfl,hb2⟩
 have HB2:Hid (Below w.heap.size w w2):=onB HB1.out hb2
 have hby:=HBy.out qp g X w2 (HAx.out.later hb2)
 clear hb2 c1
 go_wp2_with fail
 refine hby.mono ?_
 rintro e w3 ⟨rfl,hb3⟩
 go_wp2_with fail
 go_returns
 exact ⟨by rw [HE.out.1,HE.out.2];rfl,onB HB2.out hb3⟩
end Go.Proofs.YtaodedckffjpgafGreatDoor
