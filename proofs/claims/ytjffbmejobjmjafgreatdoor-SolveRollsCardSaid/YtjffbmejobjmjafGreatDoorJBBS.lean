/-
 What Value and By of package solve answer, called in whatever memory.
-/
import Derived.Test.YtjffbmejobjmjafGreatDoorJBBR
import Derived.Test.YtjffbmejobjmjafGreatDoorJBAZ
import Derived.Test.YtjffbmejobjmjafGreatDoorJBBL
import Derived.Test.YtjffbmejobjmjafGreatDoorJBBM
namespace Go.Proofs.YtjffbmejobjmjafGreatDoor
open Go.ChangeShapes Go.WideShapes Go.ChangeAt Go.RowKit
set_option maxRecDepth 20000

theorem ru_right {D : Nat → Dm} {n : Nat} (h : (ruErr D n).2.2 = 0) : (allErr D n).2.2 = 0 ∧ AllR D n := by
 by_cases h1 : (allErr D n).2.2 = 0
 ·refine ⟨h1, Classical.byContradiction fun hn => ?_⟩
  have hex : ∃ i, i < n ∧ (rErr (D i)).2 ≠ 0 := Classical.byContradiction fun he => hn fun i hi => Classical.byContradiction fun hb => he ⟨i, hi, hb⟩
  have hleast : ∀ m, (∃ i, i < m ∧ i < n ∧ (rErr (D i)).2 ≠ 0) → ∃ i, i < n ∧ (rErr (D i)).2 ≠ 0 ∧ ∀ j, j < i → (rErr (D j)).2 = 0 := by
   intro m
   induction m with
   | zero => rintro ⟨i, h, -⟩; omega
   | succ m ih =>
    rintro ⟨i, h3, h4, h5⟩
    by_cases hm : ∃ i, i < m ∧ i < n ∧ (rErr (D i)).2 ≠ 0
    ·exact ih hm
    ·exact ⟨i, h4, h5, fun j hj => Classical.byContradiction fun hb => hm ⟨j, by omega, by omega, hb⟩⟩
  obtain ⟨i0, hi0, hb0⟩ := hex
  obtain ⟨i, hi, hb, hf⟩ := hleast n ⟨i0, hi0, hi0, hb0⟩
  rw [ru1 h1 hi hb hf] at h
  exact hb h
 ·rw [ru0 h1] at h
  exact absurd h h1
theorem ru_zero {D : Nat → Dm} {n : Nat} (h1 : (allErr D n).2.2 = 0) (h2 : AllR D n) : (ruErr D n).2.2 = 0 := by rw [ru2 h1 h2]
theorem good_getE {D : Nat → Dm} {n : Nat} {l : List En} (h : Ens D n l) (p : List Int) : goodC (getE l p) := by
 unfold getE
 split
 ·exact good_zero
 ·rename_i e r he
  split
  ·exact good_zero
  ·have hm : e ∈ l := List.mem_of_mem_drop (i := cntE l p) (by rw [he]; exact List.mem_cons_self ..)
   exact goodC_num (h.each e hm).2.2
theorem wr_at {D : Nat → Dm} {n : Nat} {l : List En} (h : Ens D n l) {j : Nat} (hj : j < prodN D n) : (wrV D n l).getD j noC = getE l (placeL D n j) := by
 rw [wr_rwL h]
 simp [rwL, List.getD, hj]
theorem num_lt {D : Nat → Dm} {n : Nat} {p : List Int} (h : InO D n p) : ∃ x : Nat, numI D p n = (x : Int) ∧ x < prodN D n ∧ placeL D n x = p := by
 obtain ⟨h1, h2, -⟩ := numI_bound h (Nat.le_refl n)
 have h3 := place_num h
 exact ⟨(numI D p n).toNat, by omega, by omega, h3⟩

noncomputable def byErr (D : Nat → Dm) (n : Nat) (p : List Int) : Int := if (ruErr D n).2.2 ≠ 0 then (ruErr D n).2.2 else placeErr D n p
noncomputable def byV (D : Nat → Dm) (n : Nat) (p : List Int) : Int := if byErr D n p = 0 then byTo D p n else 0
noncomputable def soErr (D : Nat → Dm) (n : Nat) (l : List En) (p : List Int) : Int := if cuErr D n l ≠ 0 then cuErr D n l else placeErr D n p
noncomputable def soV (D : Nat → Dm) (n : Nat) (l : List En) (p : List Int) : Int × Int := if soErr D n l p = 0 then solV D n (getE l) p else (0, 0)

set_option maxHeartbeats 4000000 in
theorem pby_any (A0 : Option Addr) (cap n : Nat) (D : Nat → Dm) (A : Nat → Option Addr) (C : Nat → Nat) (Ap : Option Addr) (cp : Nat) (p : List Int) (w : World) (hM : DimsV w A0 cap n D A C) (hP : PlAt w Ap cp p) :
  Calls Tryz.prog 20 #[.agg #[.slice A0 n cap], .slice Ap p.length cp] w fun e w' => e = .returned (.tuple #[.int .i64 (byV D n p), errV (byErr D n p)]) ∧ Below w.heap.size w w' := by
 have hB0 := ownOut_below w A0 n cap 42
 have hS := ownOut_size w A0 n cap 42
 have hA := ownOut_at w A0 n cap 42
 obtain ⟨W, hW⟩ : ∃ W, ownOut w A0 n cap 42 = W := ⟨_, rfl⟩
 rw [hW] at hB0 hS hA
 unfold ownOut at hW
 have HB0 : Hid (Below w.heap.size w W) := hB0
 have hsz : w.heap.size < W.heap.size := by omega
 have HA : Hid (W.cell? ⟨w.heap.size, 0, none⟩ = some (.slice A0 n cap)) := hA
 have HNum : Hid (∀ w', Below w.heap.size w w' → Calls Tryz.prog 32 #[.agg #[.slice A0 n cap], .slice Ap p.length cp] w' fun e w'' => e = .returned (.tuple #[.int .i64 (numV D n p), errV (placeErr D n p)]) ∧ Below w'.heap.size w' w'') := fun w' hB => pnumber_any A0 cap n D A C Ap cp p w' (hM.later hB) (hP.later hB)
 by_cases hr : (ruErr D n).2.2 = 0
 case neg =>
  have hl := lay_bad A0 cap n D A C W hr (hM.later hB0)
  have HE : Hid (byErr D n p = (ruErr D n).2.2 ∧ byV D n p = 0) := by
   have e : byErr D n p = (ruErr D n).2.2 := by unfold byErr; rw [if_pos hr]
   exact ⟨e, by unfold byV; rw [e, if_neg hr]⟩
  have HEr : Hid (errV (ruErr D n).2.2 = .iface 65 (.int .i64 (ruErr D n).2.2)) := errV_some hr
  rw [errV_some hr] at hl
  generalize p.length = pl at HNum ⊢
  clear hM hP hB0 hr hS
  generalize (ruErr D n).2.2 = z at hl HE HEr
  go_enter Tryz.func20, Tryz.ntmps20
  go_wp2_with fail
  refine hl.mono ?_
  rintro e w1 ⟨rfl, hb1⟩
  go_wp2_with fail
  go_returns
  exact ⟨by rw [HE.out.1, HE.out.2, HEr.out]; rfl, onB HB0.out hb1⟩
 obtain ⟨hE, hR⟩ := ru_right hr
 have hl := lay_any2 A0 cap n D A C W hE hR (hM.later hB0)
 have HBE : Hid (byErr D n p = placeErr D n p) := by show _ = _; unfold byErr; rw [if_neg (by simpa using hr)]
 by_cases hp : placeErr D n p = 0
 case neg =>
  have HE : Hid (byV D n p = 0) := by show _ = _; unfold byV; rw [HBE.out, if_neg hp]
  have HEr : Hid (errV (placeErr D n p) = .iface 65 (.int .i64 (placeErr D n p))) := errV_some hp
  rw [errV_some hp] at HNum
  generalize p.length = pl at HNum ⊢
  generalize placeErr D n p = z at HNum HBE HEr
  generalize numV D n p = nv at HNum
  clear hM hP hB0 hr hS hE hR hp
  go_enter Tryz.func20, Tryz.ntmps20
  go_wp2_with fail
  refine hl.mono ?_
  rintro e w1 ⟨⟨g, X, rfl, -⟩, hb1⟩
  have HB1 : Hid (Below w.heap.size w w1) := onB HB0.out hb1
  have c1 := (hb1.cell (p := ⟨w.heap.size, 0, none⟩) hsz).trans HA.out
  have hs1 : w.heap.size < w1.heap.size := Nat.lt_of_lt_of_le hsz hb1.size
  clear hb1 hl hA hW
  go_wp2_with fail
  refine (HNum.out w1 HB1.out).mono ?_
  rintro e w2 ⟨rfl, hb2⟩
  go_wp2_with fail
  go_returns
  exact ⟨by rw [HE.out, HBE.out, HEr.out]; rfl, onB HB1.out hb2⟩
 obtain ⟨x, hx1, hx2, hx3⟩ := num_lt (inO_of hp)
 have hnv : numV D n p = (x : Int) := by unfold numV; rw [if_pos hp, hx1]
 have HE : Hid (byErr D n p = 0 ∧ byV D n p = byTo D p n) := ⟨by rw [HBE.out, hp], by unfold byV; rw [HBE.out, if_pos hp]⟩
 rw [hp, hnv, errV_zero] at HNum
 have HBy : Hid (∀ g X w', AxesV w' g n D A C X → Calls Tryz.prog 36 #[.slice (some ⟨g, 0, none⟩) n n, .int .i64 x] w' fun e w'' => e = .returned (.int .i64 (byTo D p n)) ∧ Below w'.heap.size w' w'') := fun g X w' h => by
  have h := by_any2 g n n D A C X x w' hE hx2 (Nat.le_refl _) h
  rw [hx3] at h
  exact h
 generalize p.length = pl at HNum ⊢
 generalize byTo D p n = r at HE HBy
 clear hM hP hB0 hr hS hE hR hp hnv hx1 hx2 hx3
 go_enter Tryz.func20, Tryz.ntmps20
 go_wp2_with fail
 refine hl.mono ?_
 rintro e w1 ⟨⟨g, X, rfl, hAx⟩, hb1⟩
 have HB1 : Hid (Below w.heap.size w w1) := onB HB0.out hb1
 have HAx : Hid (AxesV w1 g n D A C X) := hAx
 have c1 := (hb1.cell (p := ⟨w.heap.size, 0, none⟩) hsz).trans HA.out
 have hs1 : w.heap.size < w1.heap.size := Nat.lt_of_lt_of_le hsz hb1.size
 clear hb1 hl hA hW hAx
 go_wp2_with fail
 refine (HNum.out w1 HB1.out).mono ?_
 rintro e w2 ⟨rfl, hb2⟩
 have HB2 : Hid (Below w.heap.size w w2) := onB HB1.out hb2
 have hby := HBy.out g X w2 (HAx.out.later hb2)
 clear hb2 c1
 go_wp2_with fail
 refine hby.mono ?_
 rintro e w3 ⟨rfl, hb3⟩
 go_wp2_with fail
 go_returns
 exact ⟨by rw [HE.out.1, HE.out.2]; rfl, onB HB2.out hb3⟩

set_option maxHeartbeats 8000000 in
theorem pvalue_any (A0 : Option Addr) (cap n : Nat) (D : Nat → Dm) (A : Nat → Option Addr) (C : Nat → Nat) (AE : Option Addr) (ce : Nat) (xs : List EnL) (Ap : Option Addr) (cp : Nat) (p : List Int) (w : World) (hM : DimsV w A0 cap n D A C) (hEn : EnsV w AE ce xs) (hP : PlAt w Ap cp p) :
  Calls Tryz.prog 17 #[.agg #[.slice A0 n cap], .slice AE xs.length ce, .slice Ap p.length cp] w fun e w' => e = .returned (.tuple #[.agg #[.int .i64 (soV D n (lE xs) p).1, .int .i64 (soV D n (lE xs) p).2], errV (soErr D n (lE xs) p)]) ∧ Below w.heap.size w w' := by
 have hB0 := ownOC_below w A0 n cap
 have hS := ownOC_size w A0 n cap
 have hA := ownOC_o w A0 n cap
 have hk1 := ownOC_b w A0 n cap
 obtain ⟨W, hW⟩ : ∃ W, ownOC w A0 n cap = W := ⟨_, rfl⟩
 rw [hW] at hB0 hS hA hk1
 unfold ownOC ownOut at hW
 have HB0 : Hid (Below w.heap.size w W) := hB0
 have hsz : w.heap.size < W.heap.size := by omega
 have hsz1 : w.heap.size + 1 < W.heap.size := by omega
 have HA : Hid (W.cell? ⟨w.heap.size, 0, none⟩ = some (.slice A0 n cap)) := hA
 have HK : Hid (W.heap[w.heap.size + 1]? = some (.cells #[.int .i64 0, .int .i64 0] 48 (0, 0))) := hk1
 have HNum : Hid (∀ w', Below w.heap.size w w' → Calls Tryz.prog 32 #[.agg #[.slice A0 n cap], .slice Ap p.length cp] w' fun e w'' => e = .returned (.tuple #[.int .i64 (numV D n p), errV (placeErr D n p)]) ∧ Below w'.heap.size w' w'') := fun w' hB => pnumber_any A0 cap n D A C Ap cp p w' (hM.later hB) (hP.later hB)
 by_cases hr : (ruErr D n).2.2 = 0
 case neg =>
  have hl := lay_bad A0 cap n D A C W hr (hM.later hB0)
  have HE : Hid (soErr D n (lE xs) p = (ruErr D n).2.2 ∧ soV D n (lE xs) p = (0, 0)) := by
   have e1 : cuErr D n (lE xs) = (ruErr D n).2.2 := by unfold cuErr; rw [if_pos hr]
   have e : soErr D n (lE xs) p = (ruErr D n).2.2 := by unfold soErr; rw [e1, if_pos hr]
   exact ⟨e, by unfold soV; rw [e, if_neg hr]⟩
  have HEr : Hid (errV (ruErr D n).2.2 = .iface 65 (.int .i64 (ruErr D n).2.2)) := errV_some hr
  rw [errV_some hr] at hl
  generalize p.length = pl at HNum ⊢
  generalize xs.length = xl
  clear hM hP hB0 hr hS hEn hk1
  generalize (ruErr D n).2.2 = z at hl HE HEr
  go_enter Tryz.func17, Tryz.ntmps17
  go_wp2_with fail
  refine hl.mono ?_
  rintro e w1 ⟨rfl, hb1⟩
  have HB1 : Hid (Below w.heap.size w w1) := onB HB0.out hb1
  obtain ⟨e0, e1, g0, g1⟩ := pair_at ((hb1.block (w.heap.size + 1) hsz1).trans HK.out)
  have hs1 : w.heap.size + 1 < w1.heap.size := Nat.lt_of_lt_of_le hsz1 hb1.size
  clear hb1 hl hA hW
  go_wp2_with fail
  refine bodyPost_ret (v := .tuple #[.agg #[.int .i64 0, .int .i64 0], .iface 65 (.int .i64 z)]) (by simp [results, Tryz.results17, go_sem, e0, e1]) rfl ⟨by rw [HE.out.1, HE.out.2, HEr.out], ?_⟩
  exact (HB1.out.setCell (by simp) _).setCell (by simp) _
 obtain ⟨hE, hR⟩ := ru_right hr
 have hl := lay_any2 A0 cap n D A C W hE hR (hM.later hB0)
 have hce : cuErr D n (lE xs) = entsErr D n (lE xs) := by unfold cuErr; rw [if_neg (by simpa using hr)]
 by_cases he : entsErr D n (lE xs) = 0
 case neg =>
  have HE : Hid (soErr D n (lE xs) p = entsErr D n (lE xs) ∧ soV D n (lE xs) p = (0, 0)) := by
   have e : soErr D n (lE xs) p = entsErr D n (lE xs) := by unfold soErr; rw [hce, if_pos he]
   exact ⟨e, by unfold soV; rw [e, if_neg he]⟩
  have HEr : Hid (errV (entsErr D n (lE xs)) = .iface 65 (.int .i64 (entsErr D n (lE xs)))) := errV_some he
  have HCe : Hid (∀ w', Below w.heap.size w w' → Calls Tryz.prog 31 #[.agg #[.slice A0 n cap], .slice AE xs.length ce] w' fun e w'' => (∃ A' c', e = .returned (.tuple #[.slice A' 0 c', .iface 65 (.int .i64 (entsErr D n (lE xs)))])) ∧ Below w'.heap.size w' w'') := fun w' hB => by
   have h := fcells_any A0 cap n D A C AE ce xs w' (hM.later hB) (hEn.later hB)
   rw [fc_bad he, errV_some he] at h
   refine h.mono ?_
   rintro e w'' ⟨⟨A', c', rfl, -⟩, hb⟩
   exact ⟨⟨A', c', rfl⟩, hb⟩
  generalize p.length = pl at HNum ⊢
  generalize xs.length = xl at HCe ⊢
  generalize entsErr D n (lE xs) = z at HE HEr HCe
  clear hM hP hB0 hr hS hEn hk1 hE hR he hce
  go_enter Tryz.func17, Tryz.ntmps17
  go_wp2_with fail
  refine hl.mono ?_
  rintro e w1 ⟨⟨g, X, rfl, -⟩, hb1⟩
  have HB1 : Hid (Below W.heap.size W w1) := hb1
  have c1 := (hb1.cell (p := ⟨w.heap.size, 0, none⟩) hsz).trans HA.out
  have hs1 : w.heap.size < w1.heap.size := Nat.lt_of_lt_of_le hsz hb1.size
  clear hb1 hl hA hW
  go_wp2_with fail
  refine (HCe.out w1 (onB HB0.out HB1.out)).mono ?_
  rintro e w2 ⟨⟨A2, c2, rfl⟩, hb2⟩
  have HB2 : Hid (Below w.heap.size w w2) := onB (onB HB0.out HB1.out) hb2
  obtain ⟨e0, e1, g0, g1⟩ := pair_at (((onB HB1.out hb2).block (w.heap.size + 1) hsz1).trans HK.out)
  have hs2 : w.heap.size + 1 < w2.heap.size := Nat.lt_of_lt_of_le hsz1 (onB HB1.out hb2).size
  clear hb2 c1
  go_wp2_with fail
  refine bodyPost_ret (v := .tuple #[.agg #[.int .i64 0, .int .i64 0], .iface 65 (.int .i64 z)]) (by simp [results, Tryz.results17, go_sem, e0, e1]) rfl ⟨by rw [HE.out.1, HE.out.2, HEr.out], ?_⟩
  exact (HB2.out.setCell (by simp) _).setCell (by simp) _
 have hEs := ens_of he
 have HCe : Hid (∀ w', Below w.heap.size w w' → Calls Tryz.prog 31 #[.agg #[.slice A0 n cap], .slice AE xs.length ce] w' fun e w'' => (∃ g, e = .returned (.tuple #[.slice (some ⟨g, 0, none⟩) (prodN D n) (prodN D n), .nilIface]) ∧ w'.heap.size ≤ g ∧ CelB w'' g (wrV D n (lE xs))) ∧ Below w'.heap.size w' w'') := fun w' hB => fcells_own A0 cap n D A C AE ce xs w' (hM.later hB) (hEn.later hB) he
 have HSE : Hid (soErr D n (lE xs) p = placeErr D n p) := by show _ = _; unfold soErr; rw [hce, if_neg (by simpa using he)]
 obtain ⟨N, hN⟩ : ∃ N, prodN D n = N := ⟨_, rfl⟩
 have HN : Hid (prodN D n = N) := hN
 obtain ⟨-, -, hp3, -⟩ := allErr_some hE
 rw [hN] at HCe hp3
 have hNI : (N : Int) ≤ 3000 := by omega
 by_cases hp : placeErr D n p = 0
 case neg =>
  have HE : Hid (soV D n (lE xs) p = (0, 0)) := by show _ = _; unfold soV; rw [HSE.out, if_neg hp]
  have HEr : Hid (errV (placeErr D n p) = .iface 65 (.int .i64 (placeErr D n p))) := errV_some hp
  rw [errV_some hp] at HNum
  generalize p.length = pl at HNum ⊢
  generalize xs.length = xl at HCe ⊢
  generalize placeErr D n p = z at HNum HSE HEr
  generalize numV D n p = nv at HNum
  clear hM hP hB0 hr hS hEn hk1 hE hR he hce hp hEs hN
  go_enter Tryz.func17, Tryz.ntmps17
  go_wp2_with fail
  refine hl.mono ?_
  rintro e w1 ⟨⟨g, X, rfl, -⟩, hb1⟩
  have HB1 : Hid (Below W.heap.size W w1) := hb1
  have c1 := (hb1.cell (p := ⟨w.heap.size, 0, none⟩) hsz).trans HA.out
  have hs1 : w.heap.size < w1.heap.size := Nat.lt_of_lt_of_le hsz hb1.size
  clear hb1 hl hA hW
  go_wp2_with fail
  refine (HCe.out w1 (onB HB0.out HB1.out)).mono ?_
  rintro e w2 ⟨⟨gC, rfl, -, -⟩, hb2⟩
  have HB2 : Hid (Below W.heap.size W w2) := onB HB1.out hb2
  have c2 := (hb2.cell (p := ⟨w.heap.size, 0, none⟩) hs1).trans c1
  have hs2 : w.heap.size < w2.heap.size := Nat.lt_of_lt_of_le hs1 hb2.size
  clear hb2 c1
  go_wp2_with fail
  refine (HNum.out w2 (onB HB0.out HB2.out)).mono ?_
  rintro e w3 ⟨rfl, hb3⟩
  have HB3 : Hid (Below w.heap.size w w3) := onB (onB HB0.out HB2.out) hb3
  obtain ⟨e0, e1, g0, g1⟩ := pair_at (((onB HB2.out hb3).block (w.heap.size + 1) hsz1).trans HK.out)
  have hs3 : w.heap.size + 1 < w3.heap.size := Nat.lt_of_lt_of_le hsz1 (onB HB2.out hb3).size
  clear hb3 c2
  go_wp2_with fail
  refine bodyPost_ret (v := .tuple #[.agg #[.int .i64 0, .int .i64 0], .iface 65 (.int .i64 z)]) (by simp [results, Tryz.results17, go_sem, e0, e1]) rfl ⟨by rw [HE.out, HSE.out, HEr.out], ?_⟩
  exact (HB3.out.setCell (by simp) _).setCell (by simp) _
 obtain ⟨x, hx1, hx2, hx3⟩ := num_lt (inO_of hp)
 have hnv : numV D n p = (x : Int) := by unfold numV; rw [if_pos hp, hx1]
 have HE : Hid (soErr D n (lE xs) p = 0 ∧ soV D n (lE xs) p = solV D n (getE (lE xs)) p) := ⟨by rw [HSE.out, hp], by unfold soV; rw [HSE.out, if_pos hp]⟩
 rw [hp, hnv, errV_zero] at HNum
 have HAt : Hid (∀ wB qc g gC gT A' X w', CtxA wB qc g n gC N gT D A' C X (getE (lE xs)) → StC wB qc g n gC N gT D (getE (lE xs)) w' → Calls Tryz.prog 33 #[.pointer (some ⟨qc, 0, none⟩), .int .i64 x] w' fun e w2 => e = .returned (.tuple #[.agg #[.int .i64 (solV D n (getE (lE xs)) p).1, .int .i64 (solV D n (getE (lE xs)) p).2], .nilIface]) ∧ StC wB qc g n gC N gT D (getE (lE xs)) w2 ∧ FrC gC gT w' w2) := fun wB qc g gC gT A' X w' hX hSt => by
  have h := at_all hX _ x w' hx2 (Nat.lt_succ_self _) hSt
  rw [hx3] at h
  exact h
 have HCtx : Hid (∀ wB qc g gC gT X, AxesV wB g n D A C X → wB.heap.size ≤ qc → wB.heap.size ≤ gC → wB.heap.size ≤ gT → CtxA wB qc g n gC N gT D A C X (getE (lE xs))) := fun wB qc g gC gT X h1 h2 h3 h4 => ⟨hE, hR, h1, good_getE hEs, h2, h3, h4, by rw [hN]; exact Nat.le_refl _⟩
 have HWr : Hid (∀ j, j < N → (wrV D n (lE xs)).getD j noC = getE (lE xs) (placeL D n j)) := fun j hj => wr_at hEs (by rw [hN]; exact hj)
 have hmk := run_make_bols N hp3
 generalize p.length = pl at HNum ⊢
 generalize xs.length = xl at HCe ⊢
 obtain ⟨⟨ra, rb⟩, hR2⟩ : ∃ R, solV D n (getE (lE xs)) p = R := ⟨_, rfl⟩
 rw [hR2] at HE HAt
 simp only at HAt
 clear hM hP hB0 hr hS hEn hk1 hE hR he hce hp hEs hN hnv hx1 hx2 hx3 hR2
 go_enter Tryz.func17, Tryz.ntmps17
 go_wp2_with fail
 refine hl.mono ?_
 rintro e w1 ⟨⟨g, X, rfl, hAx⟩, hb1⟩
 have HAx : Hid (AxesV w1 g n D A C X) := hAx
 have HB1 : Hid (Below W.heap.size W w1) := hb1
 have c1 := (hb1.cell (p := ⟨w.heap.size, 0, none⟩) hsz).trans HA.out
 have hs1 : w.heap.size < w1.heap.size := Nat.lt_of_lt_of_le hsz hb1.size
 clear hb1 hl hA hW hAx
 go_wp2_with fail
 refine (HCe.out w1 (onB HB0.out HB1.out)).mono ?_
 rintro e w2 ⟨⟨gC, rfl, hgC, hCb⟩, hb2⟩
 have HB2 : Hid (Below w1.heap.size w1 w2) := hb2
 have HCb : Hid (CelB w2 gC (wrV D n (lE xs))) := hCb
 have c2 := (hb2.cell (p := ⟨w.heap.size, 0, none⟩) hs1).trans c1
 have hs2 : w.heap.size < w2.heap.size := Nat.lt_of_lt_of_le hs1 hb2.size
 clear hb2 c1 hCb
 go_wp2_with fail
 refine (HNum.out w2 (onB HB0.out (onB HB1.out HB2.out))).mono ?_
 rintro e w3 ⟨rfl, hb3⟩
 have HB3 : Hid (Below w1.heap.size w1 w3) := onB HB2.out hb3
 have HC3 : Hid (CelB w3 gC (wrV D n (lE xs))) := HCb.out.later hb3
 obtain ⟨y, hy⟩ : ∃ y, w3.alloc (.cells (madeCells #[.bool false] N) 4) = y := ⟨_, rfl⟩
 have hBy : Below w3.heap.size w3 y := by rw [← hy]; go_grown
 have HTb : Hid (BolB y w3.heap.size N fun _ => false) := by rw [← hy]; exact BolB.made w3 N
 obtain ⟨z, hz⟩ : ∃ z, y.alloc (.cells #[.slice (some ⟨g, 0, none⟩) n n, .slice (some ⟨gC, 0, none⟩) N N, .slice (some ⟨w3.heap.size, 0, none⟩) N N] 76) = z := ⟨_, rfl⟩
 have hBz : Below y.heap.size y z := by rw [← hz]; go_grown
 have hqz : z.heap[y.heap.size]? = some (.cells #[.slice (some ⟨g, 0, none⟩) n n, .slice (some ⟨gC, 0, none⟩) N N, .slice (some ⟨w3.heap.size, 0, none⟩) N N] 76 (0, 0)) := by rw [← hz]; exact heap_alloc_new ..
 have hysz : y.heap.size = w3.heap.size + 1 := by rw [← hy]; simp
 have HYs : Hid (y.heap.size = w3.heap.size + 1) := hysz
 have hs13 := HB3.out.size
 have HSt : Hid (StC w1 y.heap.size g n gC N w3.heap.size D (getE (lE xs)) z) := by
  refine ⟨onB HB3.out (onB hBy hBz), by rw [HN.out]; exact hqz, wrV D n (lE xs), fun _ => false, HC3.out.later (onB hBy hBz), wrV_len .., by rw [HN.out]; exact HTb.out.later hBz, fun j hj => ⟨fun h => (by cases h), fun _ => HWr.out j (by rw [← HN.out]; exact hj)⟩⟩
 have hat := HAt.out w1 y.heap.size g gC w3.heap.size A X z (HCtx.out w1 y.heap.size g gC w3.heap.size X HAx.out (by omega) hgC (by omega)) HSt.out
 have HBz : Hid (Below w1.heap.size w1 z) := onB HB3.out (onB hBy hBz)
 clear hb3 c2 hBy hBz hqz HAt HCtx HWr hysz
 go_wp2_with fail
 refine hat.mono ?_
 rintro e w5 ⟨rfl, hS5, hF5⟩
 have hlow : Below w1.heap.size w1 w5 := hS5.1
 have HB5 : Hid (Below W.heap.size W w5) := onB HB1.out hlow
 obtain ⟨e0, e1, g0, g1⟩ := pair_at ((HB5.out.block (w.heap.size + 1) hsz1).trans HK.out)
 have hs5 : w.heap.size + 1 < w5.heap.size := Nat.lt_of_lt_of_le hsz1 HB5.out.size
 clear hS5 hF5 hlow hat hy hz hmk
 go_wp2_with fail
 refine bodyPost_ret (v := .tuple #[.agg #[.int .i64 ra, .int .i64 rb], .nilIface]) (by simp [results, Tryz.results17, go_sem, e0, e1]) rfl ⟨by rw [HE.out.1, HE.out.2]; rfl, ?_⟩
 exact ((onB HB0.out HB5.out).setCell (by simp) _).setCell (by simp) _
end Go.Proofs.YtjffbmejobjmjafGreatDoor

