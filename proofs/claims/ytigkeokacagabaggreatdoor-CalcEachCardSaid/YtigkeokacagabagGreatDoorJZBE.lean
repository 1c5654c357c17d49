/-
  What checkOutline, Cells and Of of package place answer, called in whatever memory: how many places an outline has; the place of a number, in new memory.
-/
import Derived.Test.YtigkeokacagabagGreatDoorJZBD
namespace Go.Proofs.YtigkeokacagabagGreatDoor
open Go.ChangeShapes Go.WideShapes Go.ChangeAt Go.RowKit
set_option maxRecDepth 20000
theorem IntB.pl {w:World} {g:Nat} {L:List Int} (h:IntB w g L):PlAt w (some ⟨g,0,none⟩) L.length L :=
 ⟨Nat.le_refl _,Or.inr ⟨g,0,rfl,h.lt,fun j hj=>by rw [Nat.zero_add];exact h.cell hj⟩⟩
theorem num_lt {D:Nat→Dm} {n:Nat} {p:List Int} (h:InO D n p):∃ x:Nat,numI D p n=(x:Int)∧x<prodN D n∧placeL D n x=p:=by
 obtain ⟨h1,h2,-⟩:=numI_bound h (Nat.le_refl n)
 have h3:=place_num h
 exact ⟨(numI D p n).toNat,by omega,by omega,h3⟩
end Go.Proofs.YtigkeokacagabagGreatDoor
namespace Go.Proofs.YtigkeokacagabagGreatDoor
open Go.ChangeShapes Go.WideShapes Go.ChangeAt Go.RowKit
noncomputable def neE (D:Nat→Dm) (n:Nat) (p:List Int):Int:=if (ruErr D n).2.2≠0 then (ruErr D n).2.2 else shapeErr D n p
theorem place_shapeN {D:Nat→Dm} {n:Nat} {p:List Int} (h:(allErr D n).2.2=0):placeErr D n p=shapeErr D n p:=by unfold placeErr;rw [if_neg (by simpa using h)]
end Go.Proofs.YtigkeokacagabagGreatDoor
namespace Go.Proofs.YtigkeokacagabagGreatDoor
open Go.ChangeShapes Go.WideShapes Go.ChangeAt Go.RowKit
set_option maxRecDepth 20000
theorem ne_right {D:Nat→Dm} {n:Nat} {p:List Int} (h:neE D n p=0):(ruErr D n).2.2=0∧(allErr D n).2.2=0∧AllR D n∧placeErr D n p=0∧∃ x:Nat,numI D p n=(x:Int)∧x<prodN D n∧placeL D n x=p:=by
 unfold neE at h
 by_cases hr:(ruErr D n).2.2=0
 ·rw [if_neg (by simpa using hr)] at h
  obtain ⟨hE,hR⟩:=ru_right hr
  have hp:placeErr D n p=0:=by rw [place_shapeN hE];exact h
  exact ⟨hr,hE,hR,hp,num_lt (inO_of hp)⟩
 ·rw [if_pos hr] at h
  exact absurd h hr
set_option maxHeartbeats 4000000 in
theorem find_bad (A0:Option Addr) (cap n:Nat) (D:Nat→Dm) (A:Nat→Option Addr) (C:Nat→Nat) (Ap:Option Addr) (cp:Nat) (p:List Int) (w:World) (he:neE D n p≠0) (hM:DimsV w A0 cap n D A C) (hP:PlAt w Ap cp p) :
  Calls Tryz.prog 40 #[.agg #[.slice A0 n cap],.slice Ap p.length cp] w fun e w'=>e=.returned (.tuple #[.pointer none,.int .i64 0,errV (neE D n p)])∧Below w.heap.size w w':=by
 have hB0:=ownOut_below w A0 n cap 29
 have hS:=ownOut_size w A0 n cap 29
 have hA:=ownOut_at w A0 n cap 29
 obtain ⟨W,hW⟩:∃ W,ownOut w A0 n cap 29=W:=⟨_,rfl⟩
 rw [hW] at hB0 hS hA
 unfold ownOut at hW
 have HB0:Hid (Below w.heap.size w W):=hB0
 have hsz:w.heap.size<W.heap.size:=by omega
 have HA:Hid (W.cell? ⟨w.heap.size,0,none⟩=some (.slice A0 n cap)):=hA
 have HNum:Hid (∀ w',Below w.heap.size w w'→Calls Tryz.prog 14 #[.agg #[.slice A0 n cap],.slice Ap p.length cp] w' fun e w''=>e=.returned (.tuple #[.int .i64 (numV D n p),errV (placeErr D n p)])∧Below w'.heap.size w' w''):=fun w' hB=>pnumber_any A0 cap n D A C Ap cp p w' (hM.later hB) (hP.later hB)
 by_cases hr:(ruErr D n).2.2=0
 case neg =>
  have hl:=new_bad A0 cap n D A C W hr (hM.later hB0)
  have HE:Hid (neE D n p=(ruErr D n).2.2):=by show _=_;unfold neE;rw [if_pos hr]
  have HEr:Hid (errV (ruErr D n).2.2=.iface 83 (.int .i64 (ruErr D n).2.2)):=errV_some hr
  rw [errV_some hr] at hl
  generalize p.length=pl at HNum ⊢
  clear hM hP hB0 hr hS he
  generalize (ruErr D n).2.2=z at hl HE HEr
  go_enter Tryz.func40,Tryz.ntmps40
  go_wp2_with fail
  refine hl.mono ?_
  rintro e w1 ⟨rfl,hb1⟩
  go_wp2_with fail
  go_returns
  exact ⟨by rw [HE.out,HEr.out];rfl,onB HB0.out hb1⟩
 obtain ⟨hE,hR⟩:=ru_right hr
 have hl:=new_any A0 cap n D A C W hE hR (hM.later hB0)
 have hz:neE D n p=placeErr D n p:=by unfold neE;rw [if_neg (by simpa using hr),place_shapeN hE]
 have HBE:Hid (neE D n p=placeErr D n p):=hz
 have hp:placeErr D n p≠0:=by rw [←hz];exact he
 have HEr:Hid (errV (placeErr D n p)=.iface 83 (.int .i64 (placeErr D n p))):=errV_some hp
 rw [errV_some hp] at HNum
 generalize p.length=pl at HNum ⊢
 generalize placeErr D n p=z at HNum HBE HEr
 generalize numV D n p=nv at HNum
 clear hM hP hB0 hr hS hE hR hp he hz
 go_enter Tryz.func40,Tryz.ntmps40
 go_wp2_with fail
 refine hl.mono ?_
 rintro e w1 ⟨⟨qp,g,X,rfl,-,-,-⟩,hb1⟩
 have HB1:Hid (Below w.heap.size w w1):=onB HB0.out hb1
 have c1:=(hb1.cell (p:=⟨w.heap.size,0,none⟩) hsz).trans HA.out
 have hs1:w.heap.size<w1.heap.size:=Nat.lt_of_lt_of_le hsz hb1.size
 clear hb1 hl hA hW
 go_wp2_with fail
 refine (HNum.out w1 HB1.out).mono ?_
 rintro e w2 ⟨rfl,hb2⟩
 go_wp2_with fail
 go_returns
 exact ⟨by rw [HBE.out,HEr.out];rfl,onB HB1.out hb2⟩
set_option maxHeartbeats 4000000 in
theorem find_any' (A0:Option Addr) (cap n:Nat) (D:Nat→Dm) (A:Nat→Option Addr) (C:Nat→Nat) (Ap:Option Addr) (cp:Nat) (p:List Int) (x:Nat) (w:World) (he:neE D n p=0) (hx:numI D p n=(x:Int)) (hM:DimsV w A0 cap n D A C) (hP:PlAt w Ap cp p) :
  Calls Tryz.prog 40 #[.agg #[.slice A0 n cap],.slice Ap p.length cp] w fun e w'=>(∃ q g X,e=.returned (.tuple #[.pointer (some ⟨q,0,none⟩),.int .i64 x,.nilIface])∧PlanV w' q g n D X)∧Below w.heap.size w w':=by
 obtain ⟨hr,hE,hR,hp,-⟩:=ne_right he
 have hB0:=ownOut_below w A0 n cap 29
 have hS:=ownOut_size w A0 n cap 29
 have hA:=ownOut_at w A0 n cap 29
 obtain ⟨W,hW⟩:∃ W,ownOut w A0 n cap 29=W:=⟨_,rfl⟩
 rw [hW] at hB0 hS hA
 unfold ownOut at hW
 have HB0:Hid (Below w.heap.size w W):=hB0
 have hsz:w.heap.size<W.heap.size:=by omega
 have HA:Hid (W.cell? ⟨w.heap.size,0,none⟩=some (.slice A0 n cap)):=hA
 have hnv:numV D n p=(x:Int):=by unfold numV;rw [if_pos hp,hx]
 have HNum:Hid (∀ w',Below w.heap.size w w'→Calls Tryz.prog 14 #[.agg #[.slice A0 n cap],.slice Ap p.length cp] w' fun e w''=>e=.returned (.tuple #[.int .i64 (x:Int),.nilIface])∧Below w'.heap.size w' w''):=fun w' hB=>by
  have h:=pnumber_any A0 cap n D A C Ap cp p w' (hM.later hB) (hP.later hB)
  rw [hp,hnv,errV_zero] at h
  exact h
 have hl:=new_any A0 cap n D A C W hE hR (hM.later hB0)
 generalize p.length=pl at HNum ⊢
 clear hM hP hB0 hr hS hE hR hp hnv hx he
 go_enter Tryz.func40,Tryz.ntmps40
 go_wp2_with fail
 refine hl.mono ?_
 rintro e w1 ⟨⟨qp,g,X,rfl,-,-,hPl⟩,hb1⟩
 have HPl:Hid (PlanV w1 qp g n D X):=hPl
 have HB1:Hid (Below w.heap.size w w1):=onB HB0.out hb1
 have c1:=(hb1.cell (p:=⟨w.heap.size,0,none⟩) hsz).trans HA.out
 have hs1:w.heap.size<w1.heap.size:=Nat.lt_of_lt_of_le hsz hb1.size
 clear hb1 hl hA hW hPl
 go_wp2_with fail
 refine (HNum.out w1 HB1.out).mono ?_
 rintro e w2 ⟨rfl,hb2⟩
 have HB2:Hid (Below w.heap.size w w2):=onB HB1.out hb2
 have HP2:Hid (PlanV w2 qp g n D X):=HPl.out.later hb2
 clear hb2
 go_wp2_with fail
 go_returns
 exact ⟨⟨qp,g,X,rfl,HP2.out⟩,HB2.out⟩
end Go.Proofs.YtigkeokacagabagGreatDoor
