/-
  A number put among entries of a call's own: what set of package input answers.
-/
import Derived.Test.YtfngmnhkhfgmjacDoorInpK
namespace Go.Proofs.YtfngmnhkhfgmjacDoor
open Go.ChangeShapes Go.WideShapes Go.ChangeAt Go.RowKit Go.Lib
set_option maxRecDepth 20000

/-- what an edit of a row of one's own leaves: what is wrong, or a row that holds what it should -/
def Edited (M : Nat) (w : World) (g : Nat) (E : Int) (l : List En) (e : Ending) (w' : World) : Prop :=
  (∃ B c ys, e = .returned (.tuple #[.slice B ys.length c, errV E]) ∧ ((E ≠ 0 ∧ B = none ∧ c = 0 ∧ ys = []) ∨ (E = 0 ∧ ∃ g', B = some ⟨g', 0, none⟩ ∧ g ≤ g' ∧ RowE w' g' c ys ∧ lE ys = l ∧ NewE M ys))) ∧ w.grownBy w' (some g)
theorem edit_set (D : Nat → Dm) (n : Nat) (l : List En) (p : List Int) (N : Int) : editErr D n l ⟨p, N, false⟩ = entOne D n ⟨p, N⟩ := by
  unfold editErr entOne
  rfl

set_option maxHeartbeats 8000000 in
theorem iset1_any {M : Nat} (A0 : Option Addr) (cap n : Nat) (D : Nat → Dm) (A : Nat → Option Addr) (C : Nat → Nat) (g cg : Nat) (xs : List EnL) (Ap : Option Addr) (cp : Nat) (p : List Int) (N : Int) (w : World) (hM : DimsV w A0 cap n D A C) (hP : PlAt w Ap cp p) (hR : RowE w g cg xs) (hEs : Ens D n (lE xs)) (hMx : NewE M xs) (hMw : M ≤ w.heap.size) :
    Calls Tryd.prog 40 #[.agg #[.slice A0 n cap], .slice (some ⟨g, 0, none⟩) xs.length cg, .agg #[.slice Ap p.length cp, .int .i64 N]] w fun e w' => Edited M w g (editErr D n (lE xs) ⟨p, N, false⟩) (setL (lE xs) p N) e w' := by
  rw [edit_set]
  have hB0 := ownOE_below w A0 n cap Ap p.length cp N
  have h := icheck1_any A0 cap n D A C Ap cp ⟨p, N⟩ (ownOE w A0 n cap Ap p.length cp N) hEs.right (hM.later hB0) (hP.later hB0)
  have HB0 : Hid (Below w.heap.size w (ownOE w A0 n cap Ap p.length cp N)) := hB0
  have hS0 := ownOE_size w A0 n cap Ap p.length cp N
  have h00 := ownOE_0 w A0 n cap Ap p.length cp N
  have h01 := ownOE_1 w A0 n cap Ap p.length cp N
  have HP : Hid (PlAt w Ap cp p) := hP
  have HR : Hid (RowE w g cg xs) := hR
  have HEs : Hid (Ens D n (lE xs)) := hEs
  have hgw : g < w.heap.size := hR.lt
  have hfew := few_of hEs
  unfold Edited
  clear hM hP hB0 hR
  by_cases he : entOne D n ⟨p, N⟩ = 0
  · obtain ⟨hI, -, -⟩ := entOne_right hEs.right he
    have HF : Hid (∀ w', Below w.heap.size w w' → Calls Tryd.prog 38 #[.slice (some ⟨g, 0, none⟩) xs.length cg, .slice Ap p.length cp] w' fun e w'' => e = .returned (.tuple #[.int .i64 (cntE (lE xs) p : Nat), .bool (hasE (lE xs) p)]) ∧ Below w'.heap.size w' w'') := fun w' hw' => ifind_any _ _ xs Ap cp p w' hfew ((HR.out.later hw').ensV) HEs.out.rise (short_of HEs.out hI) (HP.out.later hw')
    have HCl : Hid (∀ w', Below w.heap.size w w' → Calls Tryd.prog 58 #[.slice Ap p.length cp] w' fun e w'' => (∃ A' c', e = .returned (.slice A' p.length c') ∧ PlTy w'' A' c' p ∧ NewA M A') ∧ Below w'.heap.size w' w'') := fun w' hw' => (clone_new _ _ _ w' (inO_short hI) (HP.out.later hw')).mono fun _ _ ⟨⟨A', c', h1, h2, h3⟩, h4⟩ => ⟨⟨A', c', h1, h2, h3.le (Nat.le_trans hMw hw'.size)⟩, h4⟩
    have hcl := cnt_le (lE xs) p
    rw [lE_len] at hcl
    rw [he, errV_zero] at h ⊢
    clear he hI
    cases hh : hasE (lE xs) p
    · -- nothing stood there
      have HIn : Hid (∀ (w3 : World) (A' : Option Addr) (c' : Nat), Below w.heap.size w w3 → PlTy w3 A' c' p ∧ NewA M A' → Calls Tryd.prog 57 #[.slice (some ⟨g, 0, none⟩) xs.length cg, .int .i64 (cntE (lE xs) p : Nat), .slice (some ⟨w3.heap.size, 0, none⟩) 1 1] (ownEn w3 A' p.length c' N 77) fun e w' => ∃ g' cap' ys, e = .returned (.slice (some ⟨g', 0, none⟩) (xs.length + 1) cap') ∧ ys.length = xs.length + 1 ∧ RowE w' g' cap' ys ∧ lE ys = setL (lE xs) p N ∧ NewE M ys ∧ g ≤ g' ∧ (ownEn w3 A' p.length c' N 77).grownBy w' (some g)) := fun w3 A' c' hw' hT => by
        have hb := ownEn_below w3 A' p.length c' N 77
        have h1 := insert_any g cg (cntE (lE xs) p) w3.heap.size xs ⟨⟨p, N⟩, A', c'⟩ (ownEn w3 A' p.length c' N 77) hfew hcl (by have := hw'.size; omega) ((HR.out.later hw').later hb) (hT.1.later hb) (heap_alloc_new w3 _)
        refine h1.mono ?_
        rintro e w' ⟨g', cap', rfl, hRow, hgg, hgr⟩
        exact ⟨g', cap', _, rfl, by simp; omega, hRow, by rw [lE_ins, set_new hh], hMx.put hT.2, hgg, hgr⟩
      have HFF : Hid (∀ w', Below w.heap.size w w' → Calls Tryd.prog 38 #[.slice (some ⟨g, 0, none⟩) xs.length cg, .slice Ap p.length cp] w' fun e w'' => e = .returned (.tuple #[.int .i64 (cntE (lE xs) p : Nat), .bool false]) ∧ Below w'.heap.size w' w'') := fun w' hw' => by have h1 := HF.out w' hw'; rw [hh] at h1; exact h1
      clear HF hh
      generalize cntE (lE xs) p = i at HFF HIn hcl
      obtain ⟨m, hm⟩ : ∃ m, p.length = m := ⟨_, rfl⟩
      obtain ⟨nx, hnx⟩ : ∃ nx, xs.length = nx := ⟨_, rfl⟩
      rw [hm] at h HB0 hS0 h00 h01 HCl HFF HIn ⊢
      rw [hnx] at HFF HIn hfew hcl ⊢
      clear hm hnx
      go_enter Tryd.func40, Tryd.ntmps40
      go_wp2_with fail
      refine h.mono ?_
      rintro e w1 ⟨rfl, hb1⟩
      have hB1 : Below w.heap.size w w1 := onB HB0.out hb1
      have HB1 : Hid (Below w.heap.size w w1) := hB1
      have c0 : w1.cell? ⟨w.heap.size + 1, 0, none⟩ = some (.slice Ap m cp) := (hb1.cell (p := ⟨w.heap.size + 1, 0, none⟩) (by show w.heap.size + 1 < _; omega)).trans h00
      have c1 : w1.cell? ⟨w.heap.size + 1, 1, none⟩ = some (.int .i64 N) := (hb1.cell (p := ⟨w.heap.size + 1, 1, none⟩) (by show w.heap.size + 1 < _; omega)).trans h01
      have hz1 : w.heap.size + 1 < w1.heap.size := by have := hb1.size; omega
      have h2 := HFF.out w1 hB1
      clear hb1 h hB1 h00 h01 hS0
      go_wp2_with fail
      refine h2.mono ?_
      rintro e w2 ⟨rfl, hb2⟩
      have HB2 : Hid (Below w.heap.size w w2) := onB HB1.out hb2
      have d0 : w2.cell? ⟨w.heap.size + 1, 0, none⟩ = some (.slice Ap m cp) := (hb2.cell (p := ⟨w.heap.size + 1, 0, none⟩) hz1).trans c0
      have d1 : w2.cell? ⟨w.heap.size + 1, 1, none⟩ = some (.int .i64 N) := (hb2.cell (p := ⟨w.heap.size + 1, 1, none⟩) hz1).trans c1
      have HBox : Hid (w.heap.size + 1 < w2.heap.size ∧ w.heap.size + 1 ≠ g ∧ w2.cell? ⟨w.heap.size + 1, 0, none⟩ = some (.slice Ap m cp) ∧ w2.cell? ⟨w.heap.size + 1, 1, none⟩ = some (.int .i64 N)) := ⟨Nat.lt_of_lt_of_le hz1 hb2.size, by omega, d0, d1⟩
      clear hb2 c0 c1 h2 d0 d1
      go_wp2_with fail
      go_region_held3 (fun w' => w2.grownBy w' (some g) ∧ w'.cell? ⟨w.heap.size + 1, 0, none⟩ = some (.slice Ap m cp) ∧ w'.cell? ⟨w.heap.size + 1, 1, none⟩ = some (.int .i64 N))
        ((refine keepG HBox.out ?_; (repeat (first | exact grown_refl _ _ | assumption | refine grown_drew ?_ | refine grown_set ?_ _ _ | refine grown_new ?_ _)); done))
        (first | (go_at_call 58; refine (HCl.out _ (onB HB2.out (by go_grown))).mono ?_; rintro e w3 ⟨⟨A', c', rfl, hPT, hNw⟩, hb3⟩; have hN3 := onB (W0 := w2) (by go_grown) hb3; have hG3 : w2.grownBy w3 (some g) := grown_below hN3; have HB3 : Hid (Below w2.heap.size w2 w3) := hN3; have HPT : Hid (PlTy w3 A' c' p ∧ NewA M A') := ⟨hPT, hNw⟩; clear hb3 hN3 hPT hNw) | (go_at_call 57; refine (HIn.out w3 A' c' (onB HB2.out HB3.out) HPT.out).mono ?_; rintro e w4 ⟨g', cap', ys, rfl, hyl, hRow, hle, hnw, hgg, hgr⟩; have hG4 : w2.grownBy w4 (some g) := grown_trans (grown_trans hG3 (grown_below (ownEn_below ..))) hgr; have HRow : Hid (RowE w4 g' cap' ys) := hRow; have HLE : Hid (lE ys = setL (lE xs) p N ∧ NewE M ys) := ⟨hle, hnw⟩; have HYL : Hid (ys.length = nx + 1) := hyl; clear hRow hle hgr hyl hnw))
      go_wp2_with fail
      go_ret2
      exact ⟨⟨some ⟨g', 0, none⟩, cap', ys, by rw [HYL.out]; rfl, Or.inr ⟨by trivial, g', rfl, hgg, HRow.out, HLE.out⟩⟩, grown_trans (grown_below HB2.out) hG4⟩
    · -- something stood there
      obtain ⟨hso, hil, -⟩ := set_old hh N
      have HSN : Hid (∀ w', Below w.heap.size w w' → RowE (w'.setCell ⟨g, cntE (lE xs) p * 2 + 1, none⟩ (.int .i64 N)) g cg (xs.set (cntE (lE xs) p) ⟨⟨(xs.getD (cntE (lE xs) p) noL).e.pl, N⟩, (xs.getD (cntE (lE xs) p) noL).A, (xs.getD (cntE (lE xs) p) noL).c⟩) ∧ w'.grownBy (w'.setCell ⟨g, cntE (lE xs) p * 2 + 1, none⟩ (.int .i64 N)) (some g)) := fun w' hw' => (HR.out.later hw').setN (by rw [lE_len] at hil; exact hil) N
      have HLE : Hid (lE (xs.set (cntE (lE xs) p) ⟨⟨(xs.getD (cntE (lE xs) p) noL).e.pl, N⟩, (xs.getD (cntE (lE xs) p) noL).A, (xs.getD (cntE (lE xs) p) noL).c⟩) = setL (lE xs) p N ∧ NewE M (xs.set (cntE (lE xs) p) ⟨⟨(xs.getD (cntE (lE xs) p) noL).e.pl, N⟩, (xs.getD (cntE (lE xs) p) noL).A, (xs.getD (cntE (lE xs) p) noL).c⟩)) := ⟨by rw [lE_set, hso, lE_at], hMx.set (by rw [lE_len] at hil; exact hil) _ _⟩
      have HFF : Hid (∀ w', Below w.heap.size w w' → Calls Tryd.prog 38 #[.slice (some ⟨g, 0, none⟩) xs.length cg, .slice Ap p.length cp] w' fun e w'' => e = .returned (.tuple #[.int .i64 (cntE (lE xs) p : Nat), .bool true]) ∧ Below w'.heap.size w' w'') := fun w' hw' => by have h1 := HF.out w' hw'; rw [hh] at h1; exact h1
      have HYL : Hid ((xs.set (cntE (lE xs) p) ⟨⟨(xs.getD (cntE (lE xs) p) noL).e.pl, N⟩, (xs.getD (cntE (lE xs) p) noL).A, (xs.getD (cntE (lE xs) p) noL).c⟩).length = xs.length) := List.length_set
      rw [lE_len] at hil
      clear HF hh hso
      generalize xs.set (cntE (lE xs) p) ⟨⟨(xs.getD (cntE (lE xs) p) noL).e.pl, N⟩, (xs.getD (cntE (lE xs) p) noL).A, (xs.getD (cntE (lE xs) p) noL).c⟩ = ys at HSN HLE HYL
      generalize cntE (lE xs) p = i at HFF HSN hcl hil
      obtain ⟨m, hm⟩ : ∃ m, p.length = m := ⟨_, rfl⟩
      obtain ⟨nx, hnx⟩ : ∃ nx, xs.length = nx := ⟨_, rfl⟩
      rw [hm] at h HB0 hS0 h00 h01 HCl HFF ⊢
      rw [hnx] at HFF hfew hcl hil HYL ⊢
      have hil' : (i : Int) < (nx : Int) := by omega
      have hcg : nx ≤ cg := by rw [← hnx]; exact HR.out.2.1
      clear hm hnx HCl
      go_enter Tryd.func40, Tryd.ntmps40
      go_wp2_with fail
      refine h.mono ?_
      rintro e w1 ⟨rfl, hb1⟩
      have hB1 : Below w.heap.size w w1 := onB HB0.out hb1
      have HB1 : Hid (Below w.heap.size w w1) := hB1
      have c0 : w1.cell? ⟨w.heap.size + 1, 0, none⟩ = some (.slice Ap m cp) := (hb1.cell (p := ⟨w.heap.size + 1, 0, none⟩) (by show w.heap.size + 1 < _; omega)).trans h00
      have c1 : w1.cell? ⟨w.heap.size + 1, 1, none⟩ = some (.int .i64 N) := (hb1.cell (p := ⟨w.heap.size + 1, 1, none⟩) (by show w.heap.size + 1 < _; omega)).trans h01
      have hz1 : w.heap.size + 1 < w1.heap.size := by have := hb1.size; omega
      have h2 := HFF.out w1 hB1
      clear hb1 h hB1 h00 h01 hS0
      go_wp2_with fail
      refine h2.mono ?_
      rintro e w2 ⟨rfl, hb2⟩
      have hB2 : Below w.heap.size w w2 := onB HB1.out hb2
      have HB2 : Hid (Below w.heap.size w w2) := hB2
      have d1 : w2.cell? ⟨w.heap.size + 1, 1, none⟩ = some (.int .i64 N) := (hb2.cell (p := ⟨w.heap.size + 1, 1, none⟩) hz1).trans c1
      obtain ⟨u, hu⟩ := Option.isSome_iff_exists.1 ((HR.out.later hB2).full (j := i * 2 + 1) (by omega))
      have hf := (HR.out.later hB2).frozen (i * 2 + 1)
      clear hb2 c0 c1 h2 hB2
      go_wp2_with fail
      go_ret2
      obtain ⟨r1, r2⟩ := HSN.out w2 HB2.out
      exact ⟨⟨some ⟨g, 0, none⟩, cg, ys, by rw [HYL.out]; rfl, Or.inr ⟨by trivial, g, rfl, Nat.le_refl _, r1, HLE.out⟩⟩, grown_trans (grown_below HB2.out) r2⟩
  · have HV : Hid (errV (entOne D n ⟨p, N⟩) = .iface 69 (.int .i64 (entOne D n ⟨p, N⟩))) := errV_some he
    rw [errV_some he] at h
    have HE : Hid (entOne D n ⟨p, N⟩ ≠ 0) := he
    generalize entOne D n ⟨p, N⟩ = E at h HV HE
    generalize p.length = m at h HB0
    generalize xs.length = nx
    clear he hS0 h00 h01 hfew
    go_enter Tryd.func40, Tryd.ntmps40
    go_wp2_with fail
    refine h.mono ?_
    rintro e w1 ⟨rfl, hb1⟩
    have HB1 : Hid (Below w.heap.size w w1) := onB HB0.out hb1
    clear hb1
    go_wp2_with fail
    go_ret2
    rw [HV.out]
    exact ⟨⟨none, 0, [], rfl, Or.inl ⟨HE.out, rfl, rfl, rfl⟩⟩, grown_below HB1.out⟩
end Go.Proofs.YtfngmnhkhfgmjacDoor
