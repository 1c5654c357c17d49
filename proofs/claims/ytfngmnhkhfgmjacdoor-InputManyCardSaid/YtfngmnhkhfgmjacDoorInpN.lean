/-
  A number put, a place cleared: what Set and Clear of package input answer, called in whatever memory.
-/
import Derived.Test.YtfngmnhkhfgmjacDoorInpM
namespace Go.Proofs.YtfngmnhkhfgmjacDoor
open Go.ChangeShapes Go.WideShapes Go.ChangeAt Go.RowKit Go.Lib
set_option maxRecDepth 20000

/-- entries, if nothing is wrong -/
def pickL (E : Int) (l : List En) : List En := if E = 0 then l else []
theorem pickL_bad {E : Int} (h : E ≠ 0) (l : List En) : pickL E l = [] := by unfold pickL; rw [if_neg h]
theorem pickL_in (l : List En) : pickL 0 l = l := rfl
/-- entries, or what is wrong -/
def Answer (w : World) (E : Int) (l : List En) (e : Ending) (w' : World) : Prop := (∃ B c zs, e = .returned (.tuple #[.slice B zs.length c, errV E]) ∧ EnsV w' B c zs ∧ lE zs = pickL E l) ∧ Below w.heap.size w w'
theorem edited_ens {M : Nat} {w' : World} {g c : Nat} {E : Int} {l : List En} {B : Option Addr} {ys : List EnL} (h : (E ≠ 0 ∧ B = none ∧ c = 0 ∧ ys = []) ∨ (E = 0 ∧ ∃ g', B = some ⟨g', 0, none⟩ ∧ g ≤ g' ∧ RowE w' g' c ys ∧ lE ys = l ∧ NewE M ys)) : EnsV w' B c ys ∧ lE ys = pickL E l := by
  rcases h with ⟨h1, rfl, rfl, rfl⟩ | ⟨h1, g', rfl, _, h2, h3, _⟩
  · exact ⟨EnsV.nil _ _ _ (by decide), by rw [pickL_bad h1]; rfl⟩
  · exact ⟨h2.ensV, by rw [h1, pickL_in, h3]⟩
/-- what is wrong, with an edit of entries -/
def changeErr (D : Nat → Dm) (n : Nat) (l : List En) (x : Ed) : Int := if entsErr D n l ≠ 0 then entsErr D n l else editErr D n l x
theorem change_bad {D : Nat → Dm} {n : Nat} {l : List En} (x : Ed) (h : entsErr D n l ≠ 0) : changeErr D n l x = entsErr D n l := by unfold changeErr; rw [if_pos h]
theorem change_in {D : Nat → Dm} {n : Nat} {l : List En} (x : Ed) (h : entsErr D n l = 0) : changeErr D n l x = editErr D n l x := by unfold changeErr; rw [if_neg (by simpa using h)]
theorem keepO {W w' : World} {q : Nat} {u : Value} (h : q < W.heap.size ∧ W.cell? ⟨q, 0, none⟩ = some u) (hB : Below W.heap.size W w') : Below W.heap.size W w' ∧ w'.cell? ⟨q, 0, none⟩ = some u := ⟨hB, (hB.cell (p := ⟨q, 0, none⟩) h.1).trans h.2⟩
theorem fresh_of {D : Nat → Dm} {n : Nat} {xs : List EnL} (hEs : Ens D n (lE xs)) : ∀ k, k < xs.length → (xs.getD k noL).e.pl.length ≤ 4 := fun k hk => by
  have h1 : (xs.getD k noL).e ∈ lE xs := List.mem_map.2 ⟨_, enl_mem hk, rfl⟩
  exact inO_short (hEs.each _ h1).1
theorem len_eq {xs ys : List EnL} (h : lE ys = lE xs) : ys.length = xs.length := by rw [← lE_len, h, lE_len]

set_option maxHeartbeats 8000000 in
theorem iset_any (A0 : Option Addr) (cap n : Nat) (D : Nat → Dm) (A : Nat → Option Addr) (C : Nat → Nat) (AE : Option Addr) (ce : Nat) (xs : List EnL) (Ap : Option Addr) (cp : Nat) (p : List Int) (N : Int) (w : World) (hM : DimsV w A0 cap n D A C) (hE : EnsV w AE ce xs) (hP : PlAt w Ap cp p) :
    Calls Tryd.prog 20 #[.agg #[.slice A0 n cap], .slice AE xs.length ce, .slice Ap p.length cp, .int .i64 N] w fun e w' => Answer w (changeErr D n (lE xs) ⟨p, N, false⟩) (setL (lE xs) p N) e w' := by
  have hB0 := ownOut_below w A0 n cap 24
  have h := icheck_any A0 cap n D A C AE ce xs (ownOut w A0 n cap 24) (hM.later hB0) (hE.later hB0)
  have HB0 : Hid (Below w.heap.size w (ownOut w A0 n cap 24)) := hB0
  have HM : Hid (DimsV w A0 cap n D A C) := hM
  have HE : Hid (EnsV w AE ce xs) := hE
  have HP : Hid (PlAt w Ap cp p) := hP
  unfold Answer
  clear hM hE hP hB0
  by_cases he : entsErr D n (lE xs) = 0
  · have hEs := ens_of he
    have HFr : Hid (∀ w', Below w.heap.size w w' → Calls Tryd.prog 41 #[.slice AE xs.length ce] w' fun e w'' => ∃ g ys, e = .returned (.slice (some ⟨g, 0, none⟩) xs.length xs.length) ∧ w'.heap.size ≤ g ∧ RowE w'' g xs.length ys ∧ lE ys = lE xs ∧ Below w'.heap.size w' w'') := fun w' hw' => by
      refine (fresh_any AE ce xs w' (few_of hEs) (fresh_of hEs) (HE.out.later hw')).mono ?_
      rintro e w'' ⟨⟨ys, rfl, hRow, hle⟩, hb⟩
      exact ⟨w'.heap.size, ys, rfl, Nat.le_refl _, hRow, hle, hb⟩
    have HSt : Hid (∀ (w3 : World) (g : Nat) (ys : List EnL), Below w.heap.size w w3 → RowE w3 g xs.length ys → lE ys = lE xs → Calls Tryd.prog 40 #[.agg #[.slice A0 n cap], .slice (some ⟨g, 0, none⟩) xs.length xs.length, .agg #[.slice Ap p.length cp, .int .i64 N]] w3 fun e w' => (∃ B c zs, e = .returned (.tuple #[.slice B zs.length c, errV (changeErr D n (lE xs) ⟨p, N, false⟩)]) ∧ EnsV w' B c zs ∧ lE zs = pickL (changeErr D n (lE xs) ⟨p, N, false⟩) (setL (lE xs) p N)) ∧ w3.grownBy w' (some g)) := fun w3 g ys hw3 hRow hle => by
      have h1 := iset1_any (M := 0) A0 cap n D A C g xs.length ys Ap cp p N w3 (HM.out.later hw3) (HP.out.later hw3) hRow (by rw [hle]; exact hEs) (NewE.zero _) (Nat.zero_le _)
      rw [hle, len_eq hle, ← change_in _ he] at h1
      refine h1.mono ?_
      rintro e w' ⟨⟨B, c, zs, rfl, hc⟩, hg⟩
      obtain ⟨h2, h3⟩ := edited_ens hc
      exact ⟨⟨B, c, zs, rfl, h2, h3⟩, hg⟩
    rw [he, errV_zero] at h
    generalize changeErr D n (lE xs) ⟨p, N, false⟩ = E at HSt
    obtain ⟨m, hm⟩ : ∃ m, p.length = m := ⟨_, rfl⟩
    obtain ⟨nx, hnx⟩ : ∃ nx, xs.length = nx := ⟨_, rfl⟩
    rw [hm] at HSt ⊢
    rw [hnx] at h HFr HSt ⊢
    clear he hEs hm hnx
    go_enter Tryd.func20, Tryd.ntmps20
    go_wp2_with fail
    refine h.mono ?_
    rintro e w1 ⟨rfl, hb1⟩
    have HB1 : Hid (Below w.heap.size w w1) := onB HB0.out hb1
    have c0 : w1.cell? ⟨w.heap.size, 0, none⟩ = some (.slice A0 n cap) := (hb1.cell (p := ⟨w.heap.size, 0, none⟩) (by show w.heap.size < _; rw [ownOut_size]; omega)).trans (ownOut_at ..)
    have HBox : Hid (w.heap.size < w1.heap.size ∧ w1.cell? ⟨w.heap.size, 0, none⟩ = some (.slice A0 n cap)) := ⟨by have := hb1.size; rw [ownOut_size] at this; omega, c0⟩
    clear hb1 h c0
    go_wp2_with fail
    go_region_held3 (fun w' => Below w1.heap.size w1 w' ∧ w'.cell? ⟨w.heap.size, 0, none⟩ = some (.slice A0 n cap))
      ((refine keepO HBox.out ?_; go_grown; done))
      (first | (go_at_call 41; refine (HFr.out _ (onB HB1.out (by go_grown))).mono ?_; rintro e w3 ⟨g, ys, rfl, hgg, hRow, hle, hb3⟩; have hN3 := onB (W0 := w1) (by go_grown) hb3; have hy3 := hN3.size; have HG3 : Hid (w1.heap.size ≤ g) := hgg; have HB3 : Hid (Below w1.heap.size w1 w3) := hN3; have HRow : Hid (RowE w3 g nx ys) := hRow; have HLE : Hid (lE ys = lE xs) := hle; clear hb3 hgg hRow hle) | (go_at_call 40; refine (HSt.out w3 g ys (onB HB1.out HB3.out) HRow.out HLE.out).mono ?_; rintro e w4 ⟨⟨B, c, zs, rfl, hV, hl⟩, hgr⟩; have hN4 : Below w1.heap.size w1 w4 := below_grown HB3.out hgr HB3.out.size HG3.out; have hy4 := hN4.size; have HV : Hid (EnsV w4 B c zs) := hV; have HL : Hid (lE zs = pickL E (setL (lE xs) p N)) := hl; clear hgr hV hl))
    have HB4 : Hid (Below w.heap.size w w4) := onB HB1.out hN4
    clear hN3 hN4 hy3 hy4
    go_wp2_with fail
    go_ret2
    exact ⟨⟨B, c, zs, rfl, HV.out, HL.out⟩, HB4.out⟩
  · have hc := change_bad (⟨p, N, false⟩ : Ed) he
    have HV : Hid (errV (changeErr D n (lE xs) ⟨p, N, false⟩) = .iface 69 (.int .i64 (entsErr D n (lE xs))) ∧ changeErr D n (lE xs) ⟨p, N, false⟩ ≠ 0) := by rw [hc]; exact ⟨errV_some he, he⟩
    rw [errV_some he] at h
    clear hc he
    generalize entsErr D n (lE xs) = F at h HV
    generalize changeErr D n (lE xs) ⟨p, N, false⟩ = E at HV
    generalize xs.length = nx at h
    generalize p.length = m
    go_enter Tryd.func20, Tryd.ntmps20
    go_wp2_with fail
    refine h.mono ?_
    rintro e w1 ⟨rfl, hb1⟩
    have HB1 : Hid (Below w.heap.size w w1) := onB HB0.out hb1
    clear hb1
    go_wp2_with fail
    go_ret2
    rw [HV.out.1, pickL_bad HV.out.2]
    exact ⟨⟨none, 0, [], rfl, EnsV.nil _ _ _ (by decide), rfl⟩, HB1.out⟩
set_option maxHeartbeats 8000000 in
theorem iclear_any (A0 : Option Addr) (cap n : Nat) (D : Nat → Dm) (A : Nat → Option Addr) (C : Nat → Nat) (AE : Option Addr) (ce : Nat) (xs : List EnL) (Ap : Option Addr) (cp : Nat) (p : List Int) (N : Int) (w : World) (hM : DimsV w A0 cap n D A C) (hE : EnsV w AE ce xs) (hP : PlAt w Ap cp p) :
    Calls Tryd.prog 22 #[.agg #[.slice A0 n cap], .slice AE xs.length ce, .slice Ap p.length cp] w fun e w' => Answer w (changeErr D n (lE xs) ⟨p, N, true⟩) (clrL (lE xs) p) e w' := by
  have hB0 := ownOut_below w A0 n cap 24
  have h := icheck_any A0 cap n D A C AE ce xs (ownOut w A0 n cap 24) (hM.later hB0) (hE.later hB0)
  have HB0 : Hid (Below w.heap.size w (ownOut w A0 n cap 24)) := hB0
  have HM : Hid (DimsV w A0 cap n D A C) := hM
  have HE : Hid (EnsV w AE ce xs) := hE
  have HP : Hid (PlAt w Ap cp p) := hP
  unfold Answer
  clear hM hE hP hB0
  by_cases he : entsErr D n (lE xs) = 0
  · have hEs := ens_of he
    have HFr : Hid (∀ w', Below w.heap.size w w' → Calls Tryd.prog 41 #[.slice AE xs.length ce] w' fun e w'' => ∃ g ys, e = .returned (.slice (some ⟨g, 0, none⟩) xs.length xs.length) ∧ w'.heap.size ≤ g ∧ RowE w'' g xs.length ys ∧ lE ys = lE xs ∧ Below w'.heap.size w' w'') := fun w' hw' => by
      refine (fresh_any AE ce xs w' (few_of hEs) (fresh_of hEs) (HE.out.later hw')).mono ?_
      rintro e w'' ⟨⟨ys, rfl, hRow, hle⟩, hb⟩
      exact ⟨w'.heap.size, ys, rfl, Nat.le_refl _, hRow, hle, hb⟩
    have HSt : Hid (∀ (w3 : World) (g : Nat) (ys : List EnL), Below w.heap.size w w3 → RowE w3 g xs.length ys → lE ys = lE xs → Calls Tryd.prog 43 #[.agg #[.slice A0 n cap], .slice (some ⟨g, 0, none⟩) xs.length xs.length, .slice Ap p.length cp] w3 fun e w' => (∃ B c zs, e = .returned (.tuple #[.slice B zs.length c, errV (changeErr D n (lE xs) ⟨p, N, true⟩)]) ∧ EnsV w' B c zs ∧ lE zs = pickL (changeErr D n (lE xs) ⟨p, N, true⟩) (clrL (lE xs) p)) ∧ w3.grownBy w' (some g)) := fun w3 g ys hw3 hRow hle => by
      have h1 := without_any (M := 0) A0 cap n D A C g xs.length ys Ap cp p N w3 (HM.out.later hw3) (HP.out.later hw3) hRow (by rw [hle]; exact hEs) (NewE.zero _)
      rw [hle, len_eq hle, ← change_in _ he] at h1
      refine h1.mono ?_
      rintro e w' ⟨⟨B, c, zs, rfl, hc⟩, hg⟩
      obtain ⟨h2, h3⟩ := edited_ens hc
      exact ⟨⟨B, c, zs, rfl, h2, h3⟩, hg⟩
    rw [he, errV_zero] at h
    generalize changeErr D n (lE xs) ⟨p, N, true⟩ = E at HSt
    obtain ⟨m, hm⟩ : ∃ m, p.length = m := ⟨_, rfl⟩
    obtain ⟨nx, hnx⟩ : ∃ nx, xs.length = nx := ⟨_, rfl⟩
    rw [hm] at HSt ⊢
    rw [hnx] at h HFr HSt ⊢
    clear he hEs hm hnx
    go_enter Tryd.func22, Tryd.ntmps22
    go_wp2_with fail
    refine h.mono ?_
    rintro e w1 ⟨rfl, hb1⟩
    have HB1 : Hid (Below w.heap.size w w1) := onB HB0.out hb1
    have c0 : w1.cell? ⟨w.heap.size, 0, none⟩ = some (.slice A0 n cap) := (hb1.cell (p := ⟨w.heap.size, 0, none⟩) (by show w.heap.size < _; rw [ownOut_size]; omega)).trans (ownOut_at ..)
    have HBox : Hid (w.heap.size < w1.heap.size ∧ w1.cell? ⟨w.heap.size, 0, none⟩ = some (.slice A0 n cap)) := ⟨by have := hb1.size; rw [ownOut_size] at this; omega, c0⟩
    clear hb1 h c0
    go_wp2_with fail
    go_region_held3 (fun w' => Below w1.heap.size w1 w' ∧ w'.cell? ⟨w.heap.size, 0, none⟩ = some (.slice A0 n cap))
      ((refine keepO HBox.out ?_; go_grown; done))
      (first | (go_at_call 41; refine (HFr.out _ (onB HB1.out (by go_grown))).mono ?_; rintro e w3 ⟨g, ys, rfl, hgg, hRow, hle, hb3⟩; have hN3 := onB (W0 := w1) (by go_grown) hb3; have hy3 := hN3.size; have HG3 : Hid (w1.heap.size ≤ g) := hgg; have HB3 : Hid (Below w1.heap.size w1 w3) := hN3; have HRow : Hid (RowE w3 g nx ys) := hRow; have HLE : Hid (lE ys = lE xs) := hle; clear hb3 hgg hRow hle) | (go_at_call 43; refine (HSt.out w3 g ys (onB HB1.out HB3.out) HRow.out HLE.out).mono ?_; rintro e w4 ⟨⟨B, c, zs, rfl, hV, hl⟩, hgr⟩; have hN4 : Below w1.heap.size w1 w4 := below_grown HB3.out hgr HB3.out.size HG3.out; have hy4 := hN4.size; have HV : Hid (EnsV w4 B c zs) := hV; have HL : Hid (lE zs = pickL E (clrL (lE xs) p)) := hl; clear hgr hV hl))
    have HB4 : Hid (Below w.heap.size w w4) := onB HB1.out hN4
    clear hN3 hN4 hy3 hy4
    go_wp2_with fail
    go_ret2
    exact ⟨⟨B, c, zs, rfl, HV.out, HL.out⟩, HB4.out⟩
  · have hc := change_bad (⟨p, N, true⟩ : Ed) he
    have HV : Hid (errV (changeErr D n (lE xs) ⟨p, N, true⟩) = .iface 69 (.int .i64 (entsErr D n (lE xs))) ∧ changeErr D n (lE xs) ⟨p, N, true⟩ ≠ 0) := by rw [hc]; exact ⟨errV_some he, he⟩
    rw [errV_some he] at h
    clear hc he
    generalize entsErr D n (lE xs) = F at h HV
    generalize changeErr D n (lE xs) ⟨p, N, true⟩ = E at HV
    generalize xs.length = nx at h
    generalize p.length = m
    go_enter Tryd.func22, Tryd.ntmps22
    go_wp2_with fail
    refine h.mono ?_
    rintro e w1 ⟨rfl, hb1⟩
    have HB1 : Hid (Below w.heap.size w w1) := onB HB0.out hb1
    clear hb1
    go_wp2_with fail
    go_ret2
    rw [HV.out.1, pickL_bad HV.out.2]
    exact ⟨⟨none, 0, [], rfl, EnsV.nil _ _ _ (by decide), rfl⟩, HB1.out⟩
end Go.Proofs.YtfngmnhkhfgmjacDoor
