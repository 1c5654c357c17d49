/-
  What the walks of tallylaw1.RollTells hold on to: an outline, entries and two places in memory; cells in boxes; that an error and its own number are the same.
  Walks of tallylaw1.RollTells, a case each: what is wrong with the entries, the place, the leaf.
  Walks of tallylaw1.RollTells, a case each: what is wrong with the entries, the place, the leaf.
  Walks of tallylaw1.RollTells, a case each: what is wrong with the entries, the place, the leaf.
  Walks of tallylaw1.RollTells, a case each: what is wrong with the entries, the place, the leaf.
  tallylaw1.RollTells returns true for every outline, all entries and every two places, called in whatever memory.
-/
import Derived.Test.YtmjcnlpjnbcfjacGreatDoorRMA
import Derived.Test.YtmjcnlpjnbcfjacGreatDoorRMB
import Derived.Test.YtmjcnlpjnbcfjacGreatDoorToldT
import Derived.Deep.QuietTactic
import Derived.BigQuiet
import Derived.WalkSmall
namespace Go.Proofs.YtmjcnlpjnbcfjacGreatDoor
open Go Go.ChangeShapes Go.WideShapes Go.ChangeAt Go.RowKit
set_option maxRecDepth 20000

theorem same_err (c : Int) (w : World) (hk : Kind0 w) : Calls Tryz.prog 8 #[errV c, .int .i64 c] w fun e w' => e = .returned (.bool true) ∧ Below w.heap.size w w' := by
  by_cases h : c = 0
  · subst h
    have := same_nil 0 w
    simpa [errV] using this
  · rw [errV_some h]
    have := same_hit c c w hk
    simpa using this
/-- an outline, entries and two places, with all that they hold -/
def CtxT (A0 : Option Addr) (cap n : Nat) (D : Nat → Dm) (A : Nat → Option Addr) (C : Nat → Nat) (AE : Option Addr) (ce : Nat) (xs : List EnL) (Ap : Option Addr) (cp : Nat) (p : List Int) (Aq : Option Addr) (cq : Nat) (r : List Int) (w : World) : Prop :=
  DimsV w A0 cap n D A C ∧ EnsV w AE ce xs ∧ PlAt w Ap cp p ∧ PlAt w Aq cq r ∧ Kind0 w
theorem CtxT.later {A0 : Option Addr} {cap n : Nat} {D : Nat → Dm} {A : Nat → Option Addr} {C : Nat → Nat} {AE : Option Addr} {ce : Nat} {xs : List EnL} {Ap : Option Addr} {cp : Nat} {p : List Int} {Aq : Option Addr} {cq : Nat} {r : List Int} {w w' : World} (h : CtxT A0 cap n D A C AE ce xs Ap cp p Aq cq r w) (hB : Below w.heap.size w w') : CtxT A0 cap n D A C AE ce xs Ap cp p Aq cq r w' :=
  ⟨h.1.later hB, h.2.1.later hB, h.2.2.1.later hB, h.2.2.2.1.later hB, h.2.2.2.2.later hB⟩
/-- a cell in a box of one's own -/
def BoxT (w : World) (b : Nat) (x y : Int) : Prop := w.heap[b]? = some (.cells #[.int .i64 x, .int .i64 y] 31 (0, 0))
theorem BoxT.lt {w : World} {b : Nat} {x y : Int} (h : BoxT w b x y) : b < w.heap.size := (Array.getElem?_eq_some_iff.1 h).1
theorem BoxT.later {w w' : World} {b : Nat} {x y : Int} (h : BoxT w b x y) (hB : Below w.heap.size w w') : BoxT w' b x y := (hB.block b h.lt).trans h
theorem BoxT.made (w : World) (x y : Int) : BoxT (w.alloc (.cells #[.int .i64 x, .int .i64 y] 31)) w.heap.size x y := heap_alloc_new w _
theorem BoxT.at {w : World} {b : Nat} {x y : Int} (h : BoxT w b x y) : w.cell? ⟨b, 0, none⟩ = some (.int .i64 x) ∧ w.cell? ⟨b, 1, none⟩ = some (.int .i64 y) ∧ w.frozen? ⟨b, 0, none⟩ = false ∧ w.frozen? ⟨b, 1, none⟩ = false :=
  ⟨by rw [Lib.cell_of_heap h]; rfl, by rw [Lib.cell_of_heap h]; rfl, Lib.frozen_of_heap h 0, Lib.frozen_of_heap h 1⟩
theorem BoxT.set {w : World} {b : Nat} {x y : Int} (h : BoxT w b x y) (a c : Int) : BoxT ((w.setCell ⟨b, 0, none⟩ (.int .i64 a)).setCell ⟨b, 1, none⟩ (.int .i64 c)) b a c := by
  unfold BoxT at *
  simp [World.setCell, Array.getElem?_modify, h]
/-- the outline in the law's own box -/
def BoxO (w : World) (q : Nat) (v : Value) : Prop := q < w.heap.size ∧ w.cell? ⟨q, 0, none⟩ = some v
theorem BoxO.later {w w' : World} {q : Nat} {v : Value} (h : BoxO w q v) (hB : Below w.heap.size w w') : BoxO w' q v := ⟨Nat.lt_of_lt_of_le h.1 hB.size, (hB.cell (p := ⟨q, 0, none⟩) h.1).trans h.2⟩
theorem rw_p {D : Nat → Dm} {n : Nat} {p q : List Int} (h : placeErr D n p ≠ 0) : rwErr D n p q = placeErr D n p ∧ rwV D n p q = 0 := by
  have h1 : rwErr D n p q = placeErr D n p := by unfold rwErr; rw [if_pos h]
  exact ⟨h1, by unfold rwV; rw [h1, if_neg h]⟩
theorem rw_q {D : Nat → Dm} {n : Nat} {p q : List Int} (h : placeErr D n p = 0) (h2 : placeErr D n q ≠ 0) : rwErr D n p q = placeErr D n q ∧ rwV D n p q = 0 := by
  have h1 : rwErr D n p q = placeErr D n q := by unfold rwErr; rw [if_neg (by simpa using h), if_pos h2]
  exact ⟨h1, by unfold rwV; rw [h1, if_neg h2]⟩
theorem rw_3 {D : Nat → Dm} {n : Nat} {p q : List Int} (h : placeErr D n p = 0) (h2 : placeErr D n q = 0) (h3 : (leafV D n q && inTo D p q n) = false) : rwErr D n p q = 3 ∧ rwV D n p q = 0 := by
  have h1 : rwErr D n p q = 3 := by unfold rwErr; rw [if_neg (by simpa using h), if_neg (by simpa using h2), h3]; rfl
  exact ⟨h1, by unfold rwV; rw [h1, if_neg (by decide)]⟩
theorem rw_0 {D : Nat → Dm} {n : Nat} {p q : List Int} (h : placeErr D n p = 0) (h2 : placeErr D n q = 0) (h3 : (leafV D n q && inTo D p q n) = true) : rwErr D n p q = 0 ∧ rwV D n p q = pwTo D p q n := by
  have h1 : rwErr D n p q = 0 := by unfold rwErr; rw [if_neg (by simpa using h), if_neg (by simpa using h2), h3]; rfl
  exact ⟨h1, by unfold rwV; rw [h1, if_pos rfl]⟩
end Go.Proofs.YtmjcnlpjnbcfjacGreatDoor

namespace Go.Proofs.YtmjcnlpjnbcfjacGreatDoor
open Go Go.ChangeShapes Go.WideShapes Go.ChangeAt Go.RowKit
set_option maxRecDepth 20000

set_option maxHeartbeats 16000000 in
theorem rt_1R (A0 : Option Addr) (cap n : Nat) (D : Nat → Dm) (A : Nat → Option Addr) (C : Nat → Nat) (AE : Option Addr) (ce : Nat) (xs : List EnL) (Ap : Option Addr) (cp : Nat) (p : List Int) (Aq : Option Addr) (cq : Nat) (r : List Int) (w : World) (hE1 : entsErr D n (lE xs) ≠ 0) (hR1 : (allErr D n).2.2 ≠ 0) (hC : CtxT A0 cap n D A C AE ce xs Ap cp p Aq cq r w) :
    Calls Tryz.prog 3 #[.agg #[.slice A0 n cap], .slice AE xs.length ce, .slice Ap p.length cp, .slice Aq r.length cq] w fun e w' => e = .returned (.bool true) ∧ Below w.heap.size w w' := by
  have hB0 := ownOut_below w A0 n cap 24
  have HC0 : Hid (CtxT A0 cap n D A C AE ce xs Ap cp p Aq cq r (ownOut w A0 n cap 24)) := hC.later hB0
  have HB00 : Hid (Below w.heap.size w (ownOut w A0 n cap 24)) := hB0
  have HBox0 : Hid (BoxO (ownOut w A0 n cap 24) w.heap.size (.slice A0 n cap)) := ⟨by rw [ownOut_size]; omega, ownOut_at ..⟩
  obtain ⟨W, hW⟩ : ∃ W, w.alloc (.cells #[.slice A0 n cap] 24) = W := ⟨_, rfl⟩
  have hWo : ownOut w A0 n cap 24 = W := hW
  rw [hWo] at HC0 HB00 HBox0
  have KEn : Hid (∀ w', Below W.heap.size W w' → Calls Tryz.prog 4 #[.agg #[.slice A0 n cap], .slice AE xs.length ce] w' fun e w'' => e = .returned (.int .i64 (entsErr D n (lE xs))) ∧ Below w'.heap.size w' w'') := fun w' hw' => by
    have hX := HC0.out.later hw'
    exact rentries_any A0 cap n D A C AE ce xs w' hX.1 hX.2.1
  have KVa : Hid (∀ w', Below W.heap.size W w' → Calls Tryz.prog 7 #[.agg #[.slice A0 n cap], .slice AE xs.length ce, .slice Ap p.length cp] w' fun e w'' => e = .returned (.tuple #[.agg #[.int .i64 0, .int .i64 0], errV (entsErr D n (lE xs))]) ∧ Below w'.heap.size w' w'') := fun w' hw' => by
    have hX := HC0.out.later hw'
    have hv : rvErr D n (lE xs) p = entsErr D n (lE xs) := rvErr_ents hE1
    have hw : rvV D n (lE xs) p = (0, 0) := rvV_bad (by rw [hv]; exact hE1)
    have h := rval_any A0 cap n D A C AE ce xs Ap cp p w' hX.1 hX.2.1 hX.2.2.1
    rw [hv, hw] at h
    exact h
  have KSa : Hid (∀ (c : Int) w', Below W.heap.size W w' → Calls Tryz.prog 8 #[errV c, .int .i64 c] w' fun e w'' => e = .returned (.bool true) ∧ Below w'.heap.size w' w'') := fun c w' hw' => by
    have hX := HC0.out.later hw'
    exact same_err c w' hX.2.2.2.2
  have KRi : Hid (∀ w', Below W.heap.size W w' → Calls Tryz.prog 9 #[.agg #[.slice A0 n cap]] w' fun e w'' => e = .returned (.int .i64 (allErr D n).2.2) ∧ Below w'.heap.size w' w'') := fun w' hw' => by
    have hX := HC0.out.later hw'
    have h := rright_any A0 cap n D A C w' hX.1
    exact h
  have KLe : Hid (∀ w', Below W.heap.size W w' → Calls Tryz.prog 11 #[.agg #[.slice A0 n cap], .slice Ap p.length cp] w' fun e w'' => e = .returned (.tuple #[.slice none 0 0, errV (allErr D n).2.2]) ∧ Below w'.heap.size w' w'') := fun w' hw' => by
    have hX := HC0.out.later hw'
    have hp : placeErr D n p = (allErr D n).2.2 := pe0 hR1
    have h := rlfs_bad A0 cap n D A C Ap cp p w' (by rw [hp]; exact hR1) hX.1 hX.2.2.1
    rw [hp, ← errV_some hR1] at h
    exact h
  have KSp : Hid (∀ w', Calls Tryz.prog 12 #[.slice none 0 0, .slice none 0 0] w' fun e w'' => e = .returned (.bool true) ∧ Below w'.heap.size w' w'') := fun w' => samepls_any none none 0 0 [] [] w' rfl (by decide) (fun x hx => by cases hx) (PlsV.nil _ _ _) (PlsV.nil _ _ _)
  have KWe : Hid (∀ w', Below W.heap.size W w' → Calls Tryz.prog 15 #[.agg #[.slice A0 n cap], .slice Ap p.length cp, .slice Aq r.length cq] w' fun e w'' => e = .returned (.tuple #[.int .i64 0, errV (allErr D n).2.2]) ∧ Below w'.heap.size w' w'') := fun w' hw' => by
    have hX := HC0.out.later hw'
    have hp : placeErr D n p = (allErr D n).2.2 := pe0 hR1
    have h2 := rw_p (q := r) (by rw [hp]; exact hR1)
    rw [hp] at h2
    have h := rwt_any A0 cap n D A C Ap cp p Aq cq r w' hX.1 hX.2.2.1 hX.2.2.2.1
    rw [h2.1, h2.2] at h
    exact h
  have t1 : (entsErr D n (lE xs) == 0) = false := by simpa using hE1
  have t2 : ((allErr D n).2.2 == 0) = false := by simpa using hR1
  generalize entsErr D n (lE xs) = EE at KEn KVa t1
  generalize (allErr D n).2.2 = RR at KRi KLe KWe t2
  generalize xs.length = NX at KEn KVa
  generalize p.length = NP at KVa KLe KWe
  generalize r.length = NR at KWe
  clear hC hB0 hWo hE1 hR1
  go_enter Tryz.func3, Tryz.ntmps3
  have x0 := HBox0.out.2
  go_wp2_with fail
  clear hW
  refine (KEn.out _ (Below.refl _ _)).mono ?_
  rintro e w1 ⟨rfl, hb⟩
  have HB1 : Hid (Below W.heap.size W w1) := onB (Below.refl _ _) hb
  have x1 := (HBox0.out.later HB1.out).2
  clear hb x0
  obtain ⟨w2, hy2⟩ : ∃ y, w1.alloc (.cells #[.int .i64 0, .int .i64 0] 31) = y := ⟨_, rfl⟩
  have hb : Below w1.heap.size w1 w2 := by rw [← hy2]; go_grown
  have HB2 : Hid (Below W.heap.size W w2) := onB HB1.out hb
  have x2 := (HBox0.out.later HB2.out).2
  have HQ0_2 : Hid (BoxT w2 w1.heap.size 0 0) := by rw [← hy2]; exact BoxT.made ..
  have hz2 : W.heap.size ≤ w1.heap.size := HB1.out.size
  clear hb x1
  go_wp2_with fail
  clear hy2
  refine (KVa.out _ HB2.out).mono ?_
  rintro e w3 ⟨rfl, hb⟩
  have HB3 : Hid (Below W.heap.size W w3) := onB HB2.out hb
  have x3 := (HBox0.out.later HB3.out).2
  have HQ0_3 : Hid (BoxT w3 w1.heap.size 0 0) := HQ0_2.out.later hb
  clear hb x2
  obtain ⟨w4, hy4⟩ : ∃ y, w3.alloc (.cells #[.int .i64 0, .int .i64 0] 31) = y := ⟨_, rfl⟩
  have hb : Below w3.heap.size w3 w4 := by rw [← hy4]; go_grown
  have HB4 : Hid (Below W.heap.size W w4) := onB HB3.out hb
  have x4 := (HBox0.out.later HB4.out).2
  have HQ0_4 : Hid (BoxT w4 w1.heap.size 0 0) := HQ0_3.out.later hb
  have HQ1_4 : Hid (BoxT w4 w3.heap.size 0 0) := by rw [← hy4]; exact BoxT.made ..
  have hz4 : W.heap.size ≤ w3.heap.size := HB3.out.size
  clear hb x3
  have HY4 : Hid (w3.alloc (.cells #[.int .i64 0, .int .i64 0] 31) = w4) := hy4
  clear hy4
  go_wp2_with fail
  rw [HY4.out]
  refine (KSa.out EE _ HB4.out).mono ?_
  rintro e w5 ⟨rfl, hb⟩
  have HB5 : Hid (Below W.heap.size W w5) := onB HB4.out hb
  have x5 := (HBox0.out.later HB5.out).2
  have HQ0_5 : Hid (BoxT w5 w1.heap.size 0 0) := HQ0_4.out.later hb
  have HQ1_5 : Hid (BoxT w5 w3.heap.size 0 0) := HQ1_4.out.later hb
  clear hb x4
  go_wp2_with fail
  refine (KRi.out _ HB5.out).mono ?_
  rintro e w6 ⟨rfl, hb⟩
  have HB6 : Hid (Below W.heap.size W w6) := onB HB5.out hb
  have x6 := (HBox0.out.later HB6.out).2
  have HQ0_6 : Hid (BoxT w6 w1.heap.size 0 0) := HQ0_5.out.later hb
  have HQ1_6 : Hid (BoxT w6 w3.heap.size 0 0) := HQ1_5.out.later hb
  clear hb x5
  go_wp2_with fail
  refine (KLe.out _ HB6.out).mono ?_
  rintro e w7 ⟨rfl, hb⟩
  have HB7 : Hid (Below W.heap.size W w7) := onB HB6.out hb
  have x7 := (HBox0.out.later HB7.out).2
  have HQ0_7 : Hid (BoxT w7 w1.heap.size 0 0) := HQ0_6.out.later hb
  have HQ1_7 : Hid (BoxT w7 w3.heap.size 0 0) := HQ1_6.out.later hb
  clear hb x6
  go_wp2_with fail
  refine (KSa.out RR _ HB7.out).mono ?_
  rintro e w8 ⟨rfl, hb⟩
  have HB8 : Hid (Below W.heap.size W w8) := onB HB7.out hb
  have x8 := (HBox0.out.later HB8.out).2
  have HQ0_8 : Hid (BoxT w8 w1.heap.size 0 0) := HQ0_7.out.later hb
  have HQ1_8 : Hid (BoxT w8 w3.heap.size 0 0) := HQ1_7.out.later hb
  clear hb x7
  go_wp2_with fail
  refine (KSp.out _).mono ?_
  rintro e w9 ⟨rfl, hb⟩
  have HB9 : Hid (Below W.heap.size W w9) := onB HB8.out hb
  have x9 := (HBox0.out.later HB9.out).2
  have HQ0_9 : Hid (BoxT w9 w1.heap.size 0 0) := HQ0_8.out.later hb
  have HQ1_9 : Hid (BoxT w9 w3.heap.size 0 0) := HQ1_8.out.later hb
  clear hb x8
  go_wp2_with fail
  refine (KWe.out _ HB9.out).mono ?_
  rintro e w10 ⟨rfl, hb⟩
  have HB10 : Hid (Below W.heap.size W w10) := onB HB9.out hb
  have x10 := (HBox0.out.later HB10.out).2
  have HQ0_10 : Hid (BoxT w10 w1.heap.size 0 0) := HQ0_9.out.later hb
  have HQ1_10 : Hid (BoxT w10 w3.heap.size 0 0) := HQ1_9.out.later hb
  clear hb x9
  go_wp2_with fail
  refine (KSa.out RR _ HB10.out).mono ?_
  rintro e w11 ⟨rfl, hb⟩
  have HB11 : Hid (Below W.heap.size W w11) := onB HB10.out hb
  have x11 := (HBox0.out.later HB11.out).2
  have HQ0_11 : Hid (BoxT w11 w1.heap.size 0 0) := HQ0_10.out.later hb
  have HQ1_11 : Hid (BoxT w11 w3.heap.size 0 0) := HQ1_10.out.later hb
  clear hb x10
  obtain ⟨a0, a1, -, -⟩ := HQ0_11.out.at
  obtain ⟨b0, b1, -, -⟩ := HQ1_11.out.at
  go_wp2_with fail
  first | (go_quiet (fail); go_wp2_with fail) | skip
  go_ret
  exact ⟨by simp, by first | exact onB HB00.out HB11.out | exact below_drewN (onB HB00.out HB11.out) _⟩

set_option maxHeartbeats 16000000 in
theorem rt_1P (A0 : Option Addr) (cap n : Nat) (D : Nat → Dm) (A : Nat → Option Addr) (C : Nat → Nat) (AE : Option Addr) (ce : Nat) (xs : List EnL) (Ap : Option Addr) (cp : Nat) (p : List Int) (Aq : Option Addr) (cq : Nat) (r : List Int) (w : World) (hE1 : entsErr D n (lE xs) ≠ 0) (hR0 : (allErr D n).2.2 = 0) (hP1 : shapeErr D n p ≠ 0) (hC : CtxT A0 cap n D A C AE ce xs Ap cp p Aq cq r w) :
    Calls Tryz.prog 3 #[.agg #[.slice A0 n cap], .slice AE xs.length ce, .slice Ap p.length cp, .slice Aq r.length cq] w fun e w' => e = .returned (.bool true) ∧ Below w.heap.size w w' := by
  have hB0 := ownOut_below w A0 n cap 24
  have HC0 : Hid (CtxT A0 cap n D A C AE ce xs Ap cp p Aq cq r (ownOut w A0 n cap 24)) := hC.later hB0
  have HB00 : Hid (Below w.heap.size w (ownOut w A0 n cap 24)) := hB0
  have HBox0 : Hid (BoxO (ownOut w A0 n cap 24) w.heap.size (.slice A0 n cap)) := ⟨by rw [ownOut_size]; omega, ownOut_at ..⟩
  obtain ⟨W, hW⟩ : ∃ W, w.alloc (.cells #[.slice A0 n cap] 24) = W := ⟨_, rfl⟩
  have hWo : ownOut w A0 n cap 24 = W := hW
  rw [hWo] at HC0 HB00 HBox0
  have KEn : Hid (∀ w', Below W.heap.size W w' → Calls Tryz.prog 4 #[.agg #[.slice A0 n cap], .slice AE xs.length ce] w' fun e w'' => e = .returned (.int .i64 (entsErr D n (lE xs))) ∧ Below w'.heap.size w' w'') := fun w' hw' => by
    have hX := HC0.out.later hw'
    exact rentries_any A0 cap n D A C AE ce xs w' hX.1 hX.2.1
  have KVa : Hid (∀ w', Below W.heap.size W w' → Calls Tryz.prog 7 #[.agg #[.slice A0 n cap], .slice AE xs.length ce, .slice Ap p.length cp] w' fun e w'' => e = .returned (.tuple #[.agg #[.int .i64 0, .int .i64 0], errV (entsErr D n (lE xs))]) ∧ Below w'.heap.size w' w'') := fun w' hw' => by
    have hX := HC0.out.later hw'
    have hv : rvErr D n (lE xs) p = entsErr D n (lE xs) := rvErr_ents hE1
    have hw : rvV D n (lE xs) p = (0, 0) := rvV_bad (by rw [hv]; exact hE1)
    have h := rval_any A0 cap n D A C AE ce xs Ap cp p w' hX.1 hX.2.1 hX.2.2.1
    rw [hv, hw] at h
    exact h
  have KSa : Hid (∀ (c : Int) w', Below W.heap.size W w' → Calls Tryz.prog 8 #[errV c, .int .i64 c] w' fun e w'' => e = .returned (.bool true) ∧ Below w'.heap.size w' w'') := fun c w' hw' => by
    have hX := HC0.out.later hw'
    exact same_err c w' hX.2.2.2.2
  have KRi : Hid (∀ w', Below W.heap.size W w' → Calls Tryz.prog 9 #[.agg #[.slice A0 n cap]] w' fun e w'' => e = .returned (.int .i64 0) ∧ Below w'.heap.size w' w'') := fun w' hw' => by
    have hX := HC0.out.later hw'
    have h := rright_any A0 cap n D A C w' hX.1
    rw [hR0] at h
    exact h
  have KPl : Hid (∀ w', Below W.heap.size W w' → Calls Tryz.prog 5 #[.agg #[.slice A0 n cap], .slice Ap p.length cp] w' fun e w'' => e = .returned (.int .i64 (shapeErr D n p)) ∧ Below w'.heap.size w' w'') := fun w' hw' => by
    have hX := HC0.out.later hw'
    have h := rplace_any A0 cap n D A C Ap cp p w' hR0 hX.1 hX.2.2.1
    exact h
  have KLe : Hid (∀ w', Below W.heap.size W w' → Calls Tryz.prog 11 #[.agg #[.slice A0 n cap], .slice Ap p.length cp] w' fun e w'' => e = .returned (.tuple #[.slice none 0 0, errV (shapeErr D n p)]) ∧ Below w'.heap.size w' w'') := fun w' hw' => by
    have hX := HC0.out.later hw'
    have hp : placeErr D n p = (shapeErr D n p) := pe1 hR0
    have h := rlfs_bad A0 cap n D A C Ap cp p w' (by rw [hp]; exact hP1) hX.1 hX.2.2.1
    rw [hp, ← errV_some hP1] at h
    exact h
  have KSp : Hid (∀ w', Calls Tryz.prog 12 #[.slice none 0 0, .slice none 0 0] w' fun e w'' => e = .returned (.bool true) ∧ Below w'.heap.size w' w'') := fun w' => samepls_any none none 0 0 [] [] w' rfl (by decide) (fun x hx => by cases hx) (PlsV.nil _ _ _) (PlsV.nil _ _ _)
  have KWe : Hid (∀ w', Below W.heap.size W w' → Calls Tryz.prog 15 #[.agg #[.slice A0 n cap], .slice Ap p.length cp, .slice Aq r.length cq] w' fun e w'' => e = .returned (.tuple #[.int .i64 0, errV (shapeErr D n p)]) ∧ Below w'.heap.size w' w'') := fun w' hw' => by
    have hX := HC0.out.later hw'
    have hp : placeErr D n p = shapeErr D n p := pe1 hR0
    have h2 := rw_p (q := r) (by rw [hp]; exact hP1)
    rw [hp] at h2
    have h := rwt_any A0 cap n D A C Ap cp p Aq cq r w' hX.1 hX.2.2.1 hX.2.2.2.1
    rw [h2.1, h2.2] at h
    exact h
  have t1 : (entsErr D n (lE xs) == 0) = false := by simpa using hE1
  have t2 : (shapeErr D n p == 0) = false := by simpa using hP1
  generalize entsErr D n (lE xs) = EE at KEn KVa t1
  generalize shapeErr D n p = SP at KPl KLe KWe t2
  generalize xs.length = NX at KEn KVa
  generalize p.length = NP at KVa KPl KLe KWe
  generalize r.length = NR at KWe
  clear hC hB0 hWo hE1 hR0 hP1
  go_enter Tryz.func3, Tryz.ntmps3
  have x0 := HBox0.out.2
  go_wp2_with fail
  clear hW
  refine (KEn.out _ (Below.refl _ _)).mono ?_
  rintro e w1 ⟨rfl, hb⟩
  have HB1 : Hid (Below W.heap.size W w1) := onB (Below.refl _ _) hb
  have x1 := (HBox0.out.later HB1.out).2
  clear hb x0
  obtain ⟨w2, hy2⟩ : ∃ y, w1.alloc (.cells #[.int .i64 0, .int .i64 0] 31) = y := ⟨_, rfl⟩
  have hb : Below w1.heap.size w1 w2 := by rw [← hy2]; go_grown
  have HB2 : Hid (Below W.heap.size W w2) := onB HB1.out hb
  have x2 := (HBox0.out.later HB2.out).2
  have HQ0_2 : Hid (BoxT w2 w1.heap.size 0 0) := by rw [← hy2]; exact BoxT.made ..
  have hz2 : W.heap.size ≤ w1.heap.size := HB1.out.size
  clear hb x1
  go_wp2_with fail
  clear hy2
  refine (KVa.out _ HB2.out).mono ?_
  rintro e w3 ⟨rfl, hb⟩
  have HB3 : Hid (Below W.heap.size W w3) := onB HB2.out hb
  have x3 := (HBox0.out.later HB3.out).2
  have HQ0_3 : Hid (BoxT w3 w1.heap.size 0 0) := HQ0_2.out.later hb
  clear hb x2
  obtain ⟨w4, hy4⟩ : ∃ y, w3.alloc (.cells #[.int .i64 0, .int .i64 0] 31) = y := ⟨_, rfl⟩
  have hb : Below w3.heap.size w3 w4 := by rw [← hy4]; go_grown
  have HB4 : Hid (Below W.heap.size W w4) := onB HB3.out hb
  have x4 := (HBox0.out.later HB4.out).2
  have HQ0_4 : Hid (BoxT w4 w1.heap.size 0 0) := HQ0_3.out.later hb
  have HQ1_4 : Hid (BoxT w4 w3.heap.size 0 0) := by rw [← hy4]; exact BoxT.made ..
  have hz4 : W.heap.size ≤ w3.heap.size := HB3.out.size
  clear hb x3
  have HY4 : Hid (w3.alloc (.cells #[.int .i64 0, .int .i64 0] 31) = w4) := hy4
  clear hy4
  go_wp2_with fail
  rw [HY4.out]
  refine (KSa.out EE _ HB4.out).mono ?_
  rintro e w5 ⟨rfl, hb⟩
  have HB5 : Hid (Below W.heap.size W w5) := onB HB4.out hb
  have x5 := (HBox0.out.later HB5.out).2
  have HQ0_5 : Hid (BoxT w5 w1.heap.size 0 0) := HQ0_4.out.later hb
  have HQ1_5 : Hid (BoxT w5 w3.heap.size 0 0) := HQ1_4.out.later hb
  clear hb x4
  go_wp2_with fail
  refine (KRi.out _ HB5.out).mono ?_
  rintro e w6 ⟨rfl, hb⟩
  have HB6 : Hid (Below W.heap.size W w6) := onB HB5.out hb
  have x6 := (HBox0.out.later HB6.out).2
  have HQ0_6 : Hid (BoxT w6 w1.heap.size 0 0) := HQ0_5.out.later hb
  have HQ1_6 : Hid (BoxT w6 w3.heap.size 0 0) := HQ1_5.out.later hb
  clear hb x5
  go_wp2_with fail
  refine (KPl.out _ HB6.out).mono ?_
  rintro e w7 ⟨rfl, hb⟩
  have HB7 : Hid (Below W.heap.size W w7) := onB HB6.out hb
  have x7 := (HBox0.out.later HB7.out).2
  have HQ0_7 : Hid (BoxT w7 w1.heap.size 0 0) := HQ0_6.out.later hb
  have HQ1_7 : Hid (BoxT w7 w3.heap.size 0 0) := HQ1_6.out.later hb
  clear hb x6
  go_wp2_with fail
  refine (KLe.out _ HB7.out).mono ?_
  rintro e w8 ⟨rfl, hb⟩
  have HB8 : Hid (Below W.heap.size W w8) := onB HB7.out hb
  have x8 := (HBox0.out.later HB8.out).2
  have HQ0_8 : Hid (BoxT w8 w1.heap.size 0 0) := HQ0_7.out.later hb
  have HQ1_8 : Hid (BoxT w8 w3.heap.size 0 0) := HQ1_7.out.later hb
  clear hb x7
  go_wp2_with fail
  refine (KSa.out SP _ HB8.out).mono ?_
  rintro e w9 ⟨rfl, hb⟩
  have HB9 : Hid (Below W.heap.size W w9) := onB HB8.out hb
  have x9 := (HBox0.out.later HB9.out).2
  have HQ0_9 : Hid (BoxT w9 w1.heap.size 0 0) := HQ0_8.out.later hb
  have HQ1_9 : Hid (BoxT w9 w3.heap.size 0 0) := HQ1_8.out.later hb
  clear hb x8
  go_wp2_with fail
  refine (KSp.out _).mono ?_
  rintro e w10 ⟨rfl, hb⟩
  have HB10 : Hid (Below W.heap.size W w10) := onB HB9.out hb
  have x10 := (HBox0.out.later HB10.out).2
  have HQ0_10 : Hid (BoxT w10 w1.heap.size 0 0) := HQ0_9.out.later hb
  have HQ1_10 : Hid (BoxT w10 w3.heap.size 0 0) := HQ1_9.out.later hb
  clear hb x9
  go_wp2_with fail
  refine (KWe.out _ HB10.out).mono ?_
  rintro e w11 ⟨rfl, hb⟩
  have HB11 : Hid (Below W.heap.size W w11) := onB HB10.out hb
  have x11 := (HBox0.out.later HB11.out).2
  have HQ0_11 : Hid (BoxT w11 w1.heap.size 0 0) := HQ0_10.out.later hb
  have HQ1_11 : Hid (BoxT w11 w3.heap.size 0 0) := HQ1_10.out.later hb
  clear hb x10
  go_wp2_with fail
  refine (KSa.out SP _ HB11.out).mono ?_
  rintro e w12 ⟨rfl, hb⟩
  have HB12 : Hid (Below W.heap.size W w12) := onB HB11.out hb
  have x12 := (HBox0.out.later HB12.out).2
  have HQ0_12 : Hid (BoxT w12 w1.heap.size 0 0) := HQ0_11.out.later hb
  have HQ1_12 : Hid (BoxT w12 w3.heap.size 0 0) := HQ1_11.out.later hb
  clear hb x11
  obtain ⟨a0, a1, -, -⟩ := HQ0_12.out.at
  obtain ⟨b0, b1, -, -⟩ := HQ1_12.out.at
  go_wp2_with fail
  first | (go_quiet (fail); go_wp2_with fail) | skip
  go_ret
  exact ⟨by simp, by first | exact onB HB00.out HB12.out | exact below_drewN (onB HB00.out HB12.out) _⟩

set_option maxHeartbeats 16000000 in
theorem rt_1Q (A0 : Option Addr) (cap n : Nat) (D : Nat → Dm) (A : Nat → Option Addr) (C : Nat → Nat) (AE : Option Addr) (ce : Nat) (xs : List EnL) (Ap : Option Addr) (cp : Nat) (p : List Int) (Aq : Option Addr) (cq : Nat) (r : List Int) (w : World) (hE1 : entsErr D n (lE xs) ≠ 0) (hR0 : (allErr D n).2.2 = 0) (hP0 : shapeErr D n p = 0) (hQ1 : shapeErr D n r ≠ 0) (hC : CtxT A0 cap n D A C AE ce xs Ap cp p Aq cq r w) :
    Calls Tryz.prog 3 #[.agg #[.slice A0 n cap], .slice AE xs.length ce, .slice Ap p.length cp, .slice Aq r.length cq] w fun e w' => e = .returned (.bool true) ∧ Below w.heap.size w w' := by
  have hB0 := ownOut_below w A0 n cap 24
  have HC0 : Hid (CtxT A0 cap n D A C AE ce xs Ap cp p Aq cq r (ownOut w A0 n cap 24)) := hC.later hB0
  have HB00 : Hid (Below w.heap.size w (ownOut w A0 n cap 24)) := hB0
  have HBox0 : Hid (BoxO (ownOut w A0 n cap 24) w.heap.size (.slice A0 n cap)) := ⟨by rw [ownOut_size]; omega, ownOut_at ..⟩
  obtain ⟨W, hW⟩ : ∃ W, w.alloc (.cells #[.slice A0 n cap] 24) = W := ⟨_, rfl⟩
  have hWo : ownOut w A0 n cap 24 = W := hW
  rw [hWo] at HC0 HB00 HBox0
  have KEn : Hid (∀ w', Below W.heap.size W w' → Calls Tryz.prog 4 #[.agg #[.slice A0 n cap], .slice AE xs.length ce] w' fun e w'' => e = .returned (.int .i64 (entsErr D n (lE xs))) ∧ Below w'.heap.size w' w'') := fun w' hw' => by
    have hX := HC0.out.later hw'
    exact rentries_any A0 cap n D A C AE ce xs w' hX.1 hX.2.1
  have KVa : Hid (∀ w', Below W.heap.size W w' → Calls Tryz.prog 7 #[.agg #[.slice A0 n cap], .slice AE xs.length ce, .slice Ap p.length cp] w' fun e w'' => e = .returned (.tuple #[.agg #[.int .i64 0, .int .i64 0], errV (entsErr D n (lE xs))]) ∧ Below w'.heap.size w' w'') := fun w' hw' => by
    have hX := HC0.out.later hw'
    have hv : rvErr D n (lE xs) p = entsErr D n (lE xs) := rvErr_ents hE1
    have hw : rvV D n (lE xs) p = (0, 0) := rvV_bad (by rw [hv]; exact hE1)
    have h := rval_any A0 cap n D A C AE ce xs Ap cp p w' hX.1 hX.2.1 hX.2.2.1
    rw [hv, hw] at h
    exact h
  have KSa : Hid (∀ (c : Int) w', Below W.heap.size W w' → Calls Tryz.prog 8 #[errV c, .int .i64 c] w' fun e w'' => e = .returned (.bool true) ∧ Below w'.heap.size w' w'') := fun c w' hw' => by
    have hX := HC0.out.later hw'
    exact same_err c w' hX.2.2.2.2
  have KRi : Hid (∀ w', Below W.heap.size W w' → Calls Tryz.prog 9 #[.agg #[.slice A0 n cap]] w' fun e w'' => e = .returned (.int .i64 0) ∧ Below w'.heap.size w' w'') := fun w' hw' => by
    have hX := HC0.out.later hw'
    have h := rright_any A0 cap n D A C w' hX.1
    rw [hR0] at h
    exact h
  have KPl : Hid (∀ w', Below W.heap.size W w' → Calls Tryz.prog 5 #[.agg #[.slice A0 n cap], .slice Ap p.length cp] w' fun e w'' => e = .returned (.int .i64 0) ∧ Below w'.heap.size w' w'') := fun w' hw' => by
    have hX := HC0.out.later hw'
    have h := rplace_any A0 cap n D A C Ap cp p w' hR0 hX.1 hX.2.2.1
    rw [hP0] at h
    exact h
  have KRl : Hid (∀ w', Below W.heap.size W w' → Calls Tryz.prog 10 #[.agg #[.slice A0 n cap], .slice Ap p.length cp] w' fun e w'' => (∃ A' c' ys, e = .returned (.slice A' ys.length c') ∧ PlsV w'' A' c' ys ∧ lP ys = lfTo D p n) ∧ Below w'.heap.size w' w'') := fun w' hw' => by
    have hX := HC0.out.later hw'
    exact rrlf_any A0 cap n D A C Ap cp p w' (inO_of (by rw [pe1 hR0]; exact hP0)) hX.1 hX.2.2.1
  have KLe : Hid (∀ w', Below W.heap.size W w' → Calls Tryz.prog 11 #[.agg #[.slice A0 n cap], .slice Ap p.length cp] w' fun e w'' => (∃ A' c' ys, e = .returned (.tuple #[.slice A' ys.length c', .nilIface]) ∧ PlsV w'' A' c' ys ∧ lP ys = lfTo D p n) ∧ Below w'.heap.size w' w'') := fun w' hw' => by
    have hX := HC0.out.later hw'
    exact rlfs_any A0 cap n D A C Ap cp p w' (inO_of (by rw [pe1 hR0]; exact hP0)) hX.1 hX.2.2.1
  have KSp : Hid (∀ (A' B' : Option Addr) (ca cb : Nat) (xa ya : List PL) w', lP xa = lfTo D p n → lP ya = lfTo D p n → PlsV w' A' ca xa → PlsV w' B' cb ya → Calls Tryz.prog 12 #[.slice A' xa.length ca, .slice B' ya.length cb] w' fun e w'' => e = .returned (.bool true) ∧ Below w'.heap.size w' w'') := fun A' B' ca cb xa ya w' h1 h2 h3 h4 => by
    obtain ⟨-, hn4, hp3, hd⟩ := allErr_some hR0
    refine samepls_any A' B' ca cb xa ya w' (h1.trans h2.symm) ?_ (fun x hx => ?_) h3 h4
    · rw [← lP_len, h1]; exact Nat.le_trans (lfTo_len p n) (by omega)
    · have : x.p ∈ lfTo D p n := by rw [← h1]; exact List.mem_map.2 ⟨x, hx, rfl⟩
      rw [lfTo_each p n _ this]; exact hn4
  have KPq : Hid (∀ w', Below W.heap.size W w' → Calls Tryz.prog 5 #[.agg #[.slice A0 n cap], .slice Aq r.length cq] w' fun e w'' => e = .returned (.int .i64 (shapeErr D n r)) ∧ Below w'.heap.size w' w'') := fun w' hw' => by
    have hX := HC0.out.later hw'
    have h := rplace_any A0 cap n D A C Aq cq r w' hR0 hX.1 hX.2.2.2.1
    exact h
  have KWe : Hid (∀ w', Below W.heap.size W w' → Calls Tryz.prog 15 #[.agg #[.slice A0 n cap], .slice Ap p.length cp, .slice Aq r.length cq] w' fun e w'' => e = .returned (.tuple #[.int .i64 0, errV (shapeErr D n r)]) ∧ Below w'.heap.size w' w'') := fun w' hw' => by
    have hX := HC0.out.later hw'
    have hp : placeErr D n p = 0 := by rw [pe1 hR0]; exact hP0
    have hq : placeErr D n r = shapeErr D n r := pe1 hR0
    have h2 := rw_q hp (by rw [hq]; exact hQ1)
    rw [hq] at h2
    have h := rwt_any A0 cap n D A C Ap cp p Aq cq r w' hX.1 hX.2.2.1 hX.2.2.2.1
    rw [h2.1, h2.2] at h
    exact h
  have t1 : (entsErr D n (lE xs) == 0) = false := by simpa using hE1
  have t3 : (shapeErr D n r == 0) = false := by simpa using hQ1
  generalize entsErr D n (lE xs) = EE at KEn KVa t1
  generalize shapeErr D n r = SQ at KPq KWe t3
  generalize xs.length = NX at KEn KVa
  generalize p.length = NP at KVa KPl KLe KRl KWe
  generalize r.length = NR at KPq KWe
  clear hC hB0 hWo hE1 hR0 hP0 hQ1
  go_enter Tryz.func3, Tryz.ntmps3
  have x0 := HBox0.out.2
  go_wp2_with fail
  clear hW
  refine (KEn.out _ (Below.refl _ _)).mono ?_
  rintro e w1 ⟨rfl, hb⟩
  have HB1 : Hid (Below W.heap.size W w1) := onB (Below.refl _ _) hb
  have x1 := (HBox0.out.later HB1.out).2
  clear hb x0
  obtain ⟨w2, hy2⟩ : ∃ y, w1.alloc (.cells #[.int .i64 0, .int .i64 0] 31) = y := ⟨_, rfl⟩
  have hb : Below w1.heap.size w1 w2 := by rw [← hy2]; go_grown
  have HB2 : Hid (Below W.heap.size W w2) := onB HB1.out hb
  have x2 := (HBox0.out.later HB2.out).2
  have HQ0_2 : Hid (BoxT w2 w1.heap.size 0 0) := by rw [← hy2]; exact BoxT.made ..
  have hz2 : W.heap.size ≤ w1.heap.size := HB1.out.size
  clear hb x1
  go_wp2_with fail
  clear hy2
  refine (KVa.out _ HB2.out).mono ?_
  rintro e w3 ⟨rfl, hb⟩
  have HB3 : Hid (Below W.heap.size W w3) := onB HB2.out hb
  have x3 := (HBox0.out.later HB3.out).2
  have HQ0_3 : Hid (BoxT w3 w1.heap.size 0 0) := HQ0_2.out.later hb
  clear hb x2
  obtain ⟨w4, hy4⟩ : ∃ y, w3.alloc (.cells #[.int .i64 0, .int .i64 0] 31) = y := ⟨_, rfl⟩
  have hb : Below w3.heap.size w3 w4 := by rw [← hy4]; go_grown
  have HB4 : Hid (Below W.heap.size W w4) := onB HB3.out hb
  have x4 := (HBox0.out.later HB4.out).2
  have HQ0_4 : Hid (BoxT w4 w1.heap.size 0 0) := HQ0_3.out.later hb
  have HQ1_4 : Hid (BoxT w4 w3.heap.size 0 0) := by rw [← hy4]; exact BoxT.made ..
  have hz4 : W.heap.size ≤ w3.heap.size := HB3.out.size
  clear hb x3
  have HY4 : Hid (w3.alloc (.cells #[.int .i64 0, .int .i64 0] 31) = w4) := hy4
  clear hy4
  go_wp2_with fail
  rw [HY4.out]
  refine (KSa.out EE _ HB4.out).mono ?_
  rintro e w5 ⟨rfl, hb⟩
  have HB5 : Hid (Below W.heap.size W w5) := onB HB4.out hb
  have x5 := (HBox0.out.later HB5.out).2
  have HQ0_5 : Hid (BoxT w5 w1.heap.size 0 0) := HQ0_4.out.later hb
  have HQ1_5 : Hid (BoxT w5 w3.heap.size 0 0) := HQ1_4.out.later hb
  clear hb x4
  go_wp2_with fail
  refine (KRi.out _ HB5.out).mono ?_
  rintro e w6 ⟨rfl, hb⟩
  have HB6 : Hid (Below W.heap.size W w6) := onB HB5.out hb
  have x6 := (HBox0.out.later HB6.out).2
  have HQ0_6 : Hid (BoxT w6 w1.heap.size 0 0) := HQ0_5.out.later hb
  have HQ1_6 : Hid (BoxT w6 w3.heap.size 0 0) := HQ1_5.out.later hb
  clear hb x5
  go_wp2_with fail
  refine (KPl.out _ HB6.out).mono ?_
  rintro e w7 ⟨rfl, hb⟩
  have HB7 : Hid (Below W.heap.size W w7) := onB HB6.out hb
  have x7 := (HBox0.out.later HB7.out).2
  have HQ0_7 : Hid (BoxT w7 w1.heap.size 0 0) := HQ0_6.out.later hb
  have HQ1_7 : Hid (BoxT w7 w3.heap.size 0 0) := HQ1_6.out.later hb
  clear hb x6
  go_wp2_with fail
  refine (KRl.out _ HB7.out).mono ?_
  rintro e w8 ⟨⟨AR, cR, yR, rfl, hPR, hLR⟩, hb⟩
  have HB8 : Hid (Below W.heap.size W w8) := onB HB7.out hb
  have x8 := (HBox0.out.later HB8.out).2
  have HQ0_8 : Hid (BoxT w8 w1.heap.size 0 0) := HQ0_7.out.later hb
  have HQ1_8 : Hid (BoxT w8 w3.heap.size 0 0) := HQ1_7.out.later hb
  have HL0_8 : Hid (PlsV w8 AR cR yR) := hPR
  have HLR : Hid (lP yR = lfTo D p n) := hLR
  clear hPR hLR
  clear hb x7
  go_wp2_with fail
  refine (KLe.out _ HB8.out).mono ?_
  rintro e w9 ⟨⟨AL, cL, yL, rfl, hPL, hLL⟩, hb⟩
  have HB9 : Hid (Below W.heap.size W w9) := onB HB8.out hb
  have x9 := (HBox0.out.later HB9.out).2
  have HQ0_9 : Hid (BoxT w9 w1.heap.size 0 0) := HQ0_8.out.later hb
  have HQ1_9 : Hid (BoxT w9 w3.heap.size 0 0) := HQ1_8.out.later hb
  have HL0_9 : Hid (PlsV w9 AR cR yR) := HL0_8.out.later hb
  have HL1_9 : Hid (PlsV w9 AL cL yL) := hPL
  have HLL : Hid (lP yL = lfTo D p n) := hLL
  clear hPL hLL
  clear hb x8
  go_wp2_with fail
  refine (KSa.out 0 _ HB9.out).mono ?_
  rintro e w10 ⟨rfl, hb⟩
  have HB10 : Hid (Below W.heap.size W w10) := onB HB9.out hb
  have x10 := (HBox0.out.later HB10.out).2
  have HQ0_10 : Hid (BoxT w10 w1.heap.size 0 0) := HQ0_9.out.later hb
  have HQ1_10 : Hid (BoxT w10 w3.heap.size 0 0) := HQ1_9.out.later hb
  have HL0_10 : Hid (PlsV w10 AR cR yR) := HL0_9.out.later hb
  have HL1_10 : Hid (PlsV w10 AL cL yL) := HL1_9.out.later hb
  clear hb x9
  go_wp2_with fail
  refine (KSp.out AL AR cL cR yL yR _ HLL.out HLR.out HL1_10.out HL0_10.out).mono ?_
  rintro e w11 ⟨rfl, hb⟩
  have HB11 : Hid (Below W.heap.size W w11) := onB HB10.out hb
  have x11 := (HBox0.out.later HB11.out).2
  have HQ0_11 : Hid (BoxT w11 w1.heap.size 0 0) := HQ0_10.out.later hb
  have HQ1_11 : Hid (BoxT w11 w3.heap.size 0 0) := HQ1_10.out.later hb
  have HL0_11 : Hid (PlsV w11 AR cR yR) := HL0_10.out.later hb
  have HL1_11 : Hid (PlsV w11 AL cL yL) := HL1_10.out.later hb
  clear hb x10
  go_wp2_with fail
  refine (KPq.out _ HB11.out).mono ?_
  rintro e w12 ⟨rfl, hb⟩
  have HB12 : Hid (Below W.heap.size W w12) := onB HB11.out hb
  have x12 := (HBox0.out.later HB12.out).2
  have HQ0_12 : Hid (BoxT w12 w1.heap.size 0 0) := HQ0_11.out.later hb
  have HQ1_12 : Hid (BoxT w12 w3.heap.size 0 0) := HQ1_11.out.later hb
  clear hb x11
  go_wp2_with fail
  refine (KWe.out _ HB12.out).mono ?_
  rintro e w13 ⟨rfl, hb⟩
  have HB13 : Hid (Below W.heap.size W w13) := onB HB12.out hb
  have x13 := (HBox0.out.later HB13.out).2
  have HQ0_13 : Hid (BoxT w13 w1.heap.size 0 0) := HQ0_12.out.later hb
  have HQ1_13 : Hid (BoxT w13 w3.heap.size 0 0) := HQ1_12.out.later hb
  clear hb x12
  go_wp2_with fail
  refine (KSa.out SQ _ HB13.out).mono ?_
  rintro e w14 ⟨rfl, hb⟩
  have HB14 : Hid (Below W.heap.size W w14) := onB HB13.out hb
  have x14 := (HBox0.out.later HB14.out).2
  have HQ0_14 : Hid (BoxT w14 w1.heap.size 0 0) := HQ0_13.out.later hb
  have HQ1_14 : Hid (BoxT w14 w3.heap.size 0 0) := HQ1_13.out.later hb
  clear hb x13
  obtain ⟨a0, a1, -, -⟩ := HQ0_14.out.at
  obtain ⟨b0, b1, -, -⟩ := HQ1_14.out.at
  go_wp2_with fail
  first | (go_quiet (fail); go_wp2_with fail) | skip
  go_ret
  exact ⟨by simp, by first | exact onB HB00.out HB14.out | exact below_drewN (onB HB00.out HB14.out) _⟩
end Go.Proofs.YtmjcnlpjnbcfjacGreatDoor

namespace Go.Proofs.YtmjcnlpjnbcfjacGreatDoor
open Go Go.ChangeShapes Go.WideShapes Go.ChangeAt Go.RowKit
set_option maxRecDepth 20000

set_option maxHeartbeats 16000000 in
theorem rt_1N (A0 : Option Addr) (cap n : Nat) (D : Nat → Dm) (A : Nat → Option Addr) (C : Nat → Nat) (AE : Option Addr) (ce : Nat) (xs : List EnL) (Ap : Option Addr) (cp : Nat) (p : List Int) (Aq : Option Addr) (cq : Nat) (r : List Int) (w : World) (hE1 : entsErr D n (lE xs) ≠ 0) (hR0 : (allErr D n).2.2 = 0) (hP0 : shapeErr D n p = 0) (hQ0 : shapeErr D n r = 0) (hin : inTo D p r n = false) (hC : CtxT A0 cap n D A C AE ce xs Ap cp p Aq cq r w) :
    Calls Tryz.prog 3 #[.agg #[.slice A0 n cap], .slice AE xs.length ce, .slice Ap p.length cp, .slice Aq r.length cq] w fun e w' => e = .returned (.bool true) ∧ Below w.heap.size w w' := by
  have hB0 := ownOut_below w A0 n cap 24
  have HC0 : Hid (CtxT A0 cap n D A C AE ce xs Ap cp p Aq cq r (ownOut w A0 n cap 24)) := hC.later hB0
  have HB00 : Hid (Below w.heap.size w (ownOut w A0 n cap 24)) := hB0
  have HBox0 : Hid (BoxO (ownOut w A0 n cap 24) w.heap.size (.slice A0 n cap)) := ⟨by rw [ownOut_size]; omega, ownOut_at ..⟩
  obtain ⟨W, hW⟩ : ∃ W, w.alloc (.cells #[.slice A0 n cap] 24) = W := ⟨_, rfl⟩
  have hWo : ownOut w A0 n cap 24 = W := hW
  rw [hWo] at HC0 HB00 HBox0
  have KEn : Hid (∀ w', Below W.heap.size W w' → Calls Tryz.prog 4 #[.agg #[.slice A0 n cap], .slice AE xs.length ce] w' fun e w'' => e = .returned (.int .i64 (entsErr D n (lE xs))) ∧ Below w'.heap.size w' w'') := fun w' hw' => by
    have hX := HC0.out.later hw'
    exact rentries_any A0 cap n D A C AE ce xs w' hX.1 hX.2.1
  have KVa : Hid (∀ w', Below W.heap.size W w' → Calls Tryz.prog 7 #[.agg #[.slice A0 n cap], .slice AE xs.length ce, .slice Ap p.length cp] w' fun e w'' => e = .returned (.tuple #[.agg #[.int .i64 0, .int .i64 0], errV (entsErr D n (lE xs))]) ∧ Below w'.heap.size w' w'') := fun w' hw' => by
    have hX := HC0.out.later hw'
    have hv : rvErr D n (lE xs) p = entsErr D n (lE xs) := rvErr_ents hE1
    have hw : rvV D n (lE xs) p = (0, 0) := rvV_bad (by rw [hv]; exact hE1)
    have h := rval_any A0 cap n D A C AE ce xs Ap cp p w' hX.1 hX.2.1 hX.2.2.1
    rw [hv, hw] at h
    exact h
  have KSa : Hid (∀ (c : Int) w', Below W.heap.size W w' → Calls Tryz.prog 8 #[errV c, .int .i64 c] w' fun e w'' => e = .returned (.bool true) ∧ Below w'.heap.size w' w'') := fun c w' hw' => by
    have hX := HC0.out.later hw'
    exact same_err c w' hX.2.2.2.2
  have KRi : Hid (∀ w', Below W.heap.size W w' → Calls Tryz.prog 9 #[.agg #[.slice A0 n cap]] w' fun e w'' => e = .returned (.int .i64 0) ∧ Below w'.heap.size w' w'') := fun w' hw' => by
    have hX := HC0.out.later hw'
    have h := rright_any A0 cap n D A C w' hX.1
    rw [hR0] at h
    exact h
  have KPl : Hid (∀ w', Below W.heap.size W w' → Calls Tryz.prog 5 #[.agg #[.slice A0 n cap], .slice Ap p.length cp] w' fun e w'' => e = .returned (.int .i64 0) ∧ Below w'.heap.size w' w'') := fun w' hw' => by
    have hX := HC0.out.later hw'
    have h := rplace_any A0 cap n D A C Ap cp p w' hR0 hX.1 hX.2.2.1
    rw [hP0] at h
    exact h
  have KRl : Hid (∀ w', Below W.heap.size W w' → Calls Tryz.prog 10 #[.agg #[.slice A0 n cap], .slice Ap p.length cp] w' fun e w'' => (∃ A' c' ys, e = .returned (.slice A' ys.length c') ∧ PlsV w'' A' c' ys ∧ lP ys = lfTo D p n) ∧ Below w'.heap.size w' w'') := fun w' hw' => by
    have hX := HC0.out.later hw'
    exact rrlf_any A0 cap n D A C Ap cp p w' (inO_of (by rw [pe1 hR0]; exact hP0)) hX.1 hX.2.2.1
  have KLe : Hid (∀ w', Below W.heap.size W w' → Calls Tryz.prog 11 #[.agg #[.slice A0 n cap], .slice Ap p.length cp] w' fun e w'' => (∃ A' c' ys, e = .returned (.tuple #[.slice A' ys.length c', .nilIface]) ∧ PlsV w'' A' c' ys ∧ lP ys = lfTo D p n) ∧ Below w'.heap.size w' w'') := fun w' hw' => by
    have hX := HC0.out.later hw'
    exact rlfs_any A0 cap n D A C Ap cp p w' (inO_of (by rw [pe1 hR0]; exact hP0)) hX.1 hX.2.2.1
  have KSp : Hid (∀ (A' B' : Option Addr) (ca cb : Nat) (xa ya : List PL) w', lP xa = lfTo D p n → lP ya = lfTo D p n → PlsV w' A' ca xa → PlsV w' B' cb ya → Calls Tryz.prog 12 #[.slice A' xa.length ca, .slice B' ya.length cb] w' fun e w'' => e = .returned (.bool true) ∧ Below w'.heap.size w' w'') := fun A' B' ca cb xa ya w' h1 h2 h3 h4 => by
    obtain ⟨-, hn4, hp3, hd⟩ := allErr_some hR0
    refine samepls_any A' B' ca cb xa ya w' (h1.trans h2.symm) ?_ (fun x hx => ?_) h3 h4
    · rw [← lP_len, h1]; exact Nat.le_trans (lfTo_len p n) (by omega)
    · have : x.p ∈ lfTo D p n := by rw [← h1]; exact List.mem_map.2 ⟨x, hx, rfl⟩
      rw [lfTo_each p n _ this]; exact hn4
  have KPq : Hid (∀ w', Below W.heap.size W w' → Calls Tryz.prog 5 #[.agg #[.slice A0 n cap], .slice Aq r.length cq] w' fun e w'' => e = .returned (.int .i64 0) ∧ Below w'.heap.size w' w'') := fun w' hw' => by
    have hX := HC0.out.later hw'
    have h := rplace_any A0 cap n D A C Aq cq r w' hR0 hX.1 hX.2.2.2.1
    rw [hQ0] at h
    exact h
  have KPw : Hid (∀ w', Below W.heap.size W w' → Calls Tryz.prog 13 #[.agg #[.slice A0 n cap], .slice Ap p.length cp, .slice Aq r.length cq] w' fun e w'' => e = .returned (.tuple #[.int .i64 (pwTo D p r n), .bool false]) ∧ Below w'.heap.size w' w'') := fun w' hw' => by
    have hX := HC0.out.later hw'
    have h := rpw_any A0 cap n D A C Ap cp p Aq cq r w' (inO_of (by rw [pe1 hR0]; exact hP0)) (inO_of (by rw [pe1 hR0]; exact hQ0)) hX.1 hX.2.2.1 hX.2.2.2.1
    rw [hin] at h
    exact h
  have KLp : Hid (∀ w', Below W.heap.size W w' → Calls Tryz.prog 14 #[.agg #[.slice A0 n cap], .slice Aq r.length cq] w' fun e w'' => e = .returned (.bool (leafV D n r)) ∧ Below w'.heap.size w' w'') := fun w' hw' => by
    have hX := HC0.out.later hw'
    have h := rleafplace_any A0 cap n D A C Aq cq r w' (inO_of (by rw [pe1 hR0]; exact hQ0)) hX.1 hX.2.2.2.1
    exact h
  have KWe : Hid (∀ w', Below W.heap.size W w' → Calls Tryz.prog 15 #[.agg #[.slice A0 n cap], .slice Ap p.length cp, .slice Aq r.length cq] w' fun e w'' => e = .returned (.tuple #[.int .i64 0, errV 3]) ∧ Below w'.heap.size w' w'') := fun w' hw' => by
    have hX := HC0.out.later hw'
    have hp : placeErr D n p = 0 := by rw [pe1 hR0]; exact hP0
    have hq : placeErr D n r = 0 := by rw [pe1 hR0]; exact hQ0
    have h2 := rw_3 hp hq (by rw [hin]; simp)
    have h := rwt_any A0 cap n D A C Ap cp p Aq cq r w' hX.1 hX.2.2.1 hX.2.2.2.1
    rw [h2.1, h2.2] at h
    exact h
  have t1 : (entsErr D n (lE xs) == 0) = false := by simpa using hE1
  generalize entsErr D n (lE xs) = EE at KEn KVa t1
  generalize leafV D n r = TL at KLp
  generalize pwTo D p r n = PW at KPw
  generalize xs.length = NX at KEn KVa
  generalize p.length = NP at KVa KPl KLe KRl KPw KWe
  generalize r.length = NR at KPq KPw KLp KWe
  clear hC hB0 hWo hE1 hR0 hP0 hQ0 hin
  go_enter Tryz.func3, Tryz.ntmps3
  have x0 := HBox0.out.2
  go_wp2_with fail
  clear hW
  refine (KEn.out _ (Below.refl _ _)).mono ?_
  rintro e w1 ⟨rfl, hb⟩
  have HB1 : Hid (Below W.heap.size W w1) := onB (Below.refl _ _) hb
  have x1 := (HBox0.out.later HB1.out).2
  clear hb x0
  obtain ⟨w2, hy2⟩ : ∃ y, w1.alloc (.cells #[.int .i64 0, .int .i64 0] 31) = y := ⟨_, rfl⟩
  have hb : Below w1.heap.size w1 w2 := by rw [← hy2]; go_grown
  have HB2 : Hid (Below W.heap.size W w2) := onB HB1.out hb
  have x2 := (HBox0.out.later HB2.out).2
  have HQ0_2 : Hid (BoxT w2 w1.heap.size 0 0) := by rw [← hy2]; exact BoxT.made ..
  have hz2 : W.heap.size ≤ w1.heap.size := HB1.out.size
  clear hb x1
  go_wp2_with fail
  clear hy2
  refine (KVa.out _ HB2.out).mono ?_
  rintro e w3 ⟨rfl, hb⟩
  have HB3 : Hid (Below W.heap.size W w3) := onB HB2.out hb
  have x3 := (HBox0.out.later HB3.out).2
  have HQ0_3 : Hid (BoxT w3 w1.heap.size 0 0) := HQ0_2.out.later hb
  clear hb x2
  obtain ⟨w4, hy4⟩ : ∃ y, w3.alloc (.cells #[.int .i64 0, .int .i64 0] 31) = y := ⟨_, rfl⟩
  have hb : Below w3.heap.size w3 w4 := by rw [← hy4]; go_grown
  have HB4 : Hid (Below W.heap.size W w4) := onB HB3.out hb
  have x4 := (HBox0.out.later HB4.out).2
  have HQ0_4 : Hid (BoxT w4 w1.heap.size 0 0) := HQ0_3.out.later hb
  have HQ1_4 : Hid (BoxT w4 w3.heap.size 0 0) := by rw [← hy4]; exact BoxT.made ..
  have hz4 : W.heap.size ≤ w3.heap.size := HB3.out.size
  clear hb x3
  have HY4 : Hid (w3.alloc (.cells #[.int .i64 0, .int .i64 0] 31) = w4) := hy4
  clear hy4
  go_wp2_with fail
  rw [HY4.out]
  refine (KSa.out EE _ HB4.out).mono ?_
  rintro e w5 ⟨rfl, hb⟩
  have HB5 : Hid (Below W.heap.size W w5) := onB HB4.out hb
  have x5 := (HBox0.out.later HB5.out).2
  have HQ0_5 : Hid (BoxT w5 w1.heap.size 0 0) := HQ0_4.out.later hb
  have HQ1_5 : Hid (BoxT w5 w3.heap.size 0 0) := HQ1_4.out.later hb
  clear hb x4
  go_wp2_with fail
  refine (KRi.out _ HB5.out).mono ?_
  rintro e w6 ⟨rfl, hb⟩
  have HB6 : Hid (Below W.heap.size W w6) := onB HB5.out hb
  have x6 := (HBox0.out.later HB6.out).2
  have HQ0_6 : Hid (BoxT w6 w1.heap.size 0 0) := HQ0_5.out.later hb
  have HQ1_6 : Hid (BoxT w6 w3.heap.size 0 0) := HQ1_5.out.later hb
  clear hb x5
  go_wp2_with fail
  refine (KPl.out _ HB6.out).mono ?_
  rintro e w7 ⟨rfl, hb⟩
  have HB7 : Hid (Below W.heap.size W w7) := onB HB6.out hb
  have x7 := (HBox0.out.later HB7.out).2
  have HQ0_7 : Hid (BoxT w7 w1.heap.size 0 0) := HQ0_6.out.later hb
  have HQ1_7 : Hid (BoxT w7 w3.heap.size 0 0) := HQ1_6.out.later hb
  clear hb x6
  go_wp2_with fail
  refine (KRl.out _ HB7.out).mono ?_
  rintro e w8 ⟨⟨AR, cR, yR, rfl, hPR, hLR⟩, hb⟩
  have HB8 : Hid (Below W.heap.size W w8) := onB HB7.out hb
  have x8 := (HBox0.out.later HB8.out).2
  have HQ0_8 : Hid (BoxT w8 w1.heap.size 0 0) := HQ0_7.out.later hb
  have HQ1_8 : Hid (BoxT w8 w3.heap.size 0 0) := HQ1_7.out.later hb
  have HL0_8 : Hid (PlsV w8 AR cR yR) := hPR
  have HLR : Hid (lP yR = lfTo D p n) := hLR
  clear hPR hLR
  clear hb x7
  go_wp2_with fail
  refine (KLe.out _ HB8.out).mono ?_
  rintro e w9 ⟨⟨AL, cL, yL, rfl, hPL, hLL⟩, hb⟩
  have HB9 : Hid (Below W.heap.size W w9) := onB HB8.out hb
  have x9 := (HBox0.out.later HB9.out).2
  have HQ0_9 : Hid (BoxT w9 w1.heap.size 0 0) := HQ0_8.out.later hb
  have HQ1_9 : Hid (BoxT w9 w3.heap.size 0 0) := HQ1_8.out.later hb
  have HL0_9 : Hid (PlsV w9 AR cR yR) := HL0_8.out.later hb
  have HL1_9 : Hid (PlsV w9 AL cL yL) := hPL
  have HLL : Hid (lP yL = lfTo D p n) := hLL
  clear hPL hLL
  clear hb x8
  go_wp2_with fail
  refine (KSa.out 0 _ HB9.out).mono ?_
  rintro e w10 ⟨rfl, hb⟩
  have HB10 : Hid (Below W.heap.size W w10) := onB HB9.out hb
  have x10 := (HBox0.out.later HB10.out).2
  have HQ0_10 : Hid (BoxT w10 w1.heap.size 0 0) := HQ0_9.out.later hb
  have HQ1_10 : Hid (BoxT w10 w3.heap.size 0 0) := HQ1_9.out.later hb
  have HL0_10 : Hid (PlsV w10 AR cR yR) := HL0_9.out.later hb
  have HL1_10 : Hid (PlsV w10 AL cL yL) := HL1_9.out.later hb
  clear hb x9
  go_wp2_with fail
  refine (KSp.out AL AR cL cR yL yR _ HLL.out HLR.out HL1_10.out HL0_10.out).mono ?_
  rintro e w11 ⟨rfl, hb⟩
  have HB11 : Hid (Below W.heap.size W w11) := onB HB10.out hb
  have x11 := (HBox0.out.later HB11.out).2
  have HQ0_11 : Hid (BoxT w11 w1.heap.size 0 0) := HQ0_10.out.later hb
  have HQ1_11 : Hid (BoxT w11 w3.heap.size 0 0) := HQ1_10.out.later hb
  have HL0_11 : Hid (PlsV w11 AR cR yR) := HL0_10.out.later hb
  have HL1_11 : Hid (PlsV w11 AL cL yL) := HL1_10.out.later hb
  clear hb x10
  go_wp2_with fail
  refine (KPq.out _ HB11.out).mono ?_
  rintro e w12 ⟨rfl, hb⟩
  have HB12 : Hid (Below W.heap.size W w12) := onB HB11.out hb
  have x12 := (HBox0.out.later HB12.out).2
  have HQ0_12 : Hid (BoxT w12 w1.heap.size 0 0) := HQ0_11.out.later hb
  have HQ1_12 : Hid (BoxT w12 w3.heap.size 0 0) := HQ1_11.out.later hb
  clear hb x11
  go_wp2_with fail
  refine (KPw.out _ HB12.out).mono ?_
  rintro e w13 ⟨rfl, hb⟩
  have HB13 : Hid (Below W.heap.size W w13) := onB HB12.out hb
  have x13 := (HBox0.out.later HB13.out).2
  have HQ0_13 : Hid (BoxT w13 w1.heap.size 0 0) := HQ0_12.out.later hb
  have HQ1_13 : Hid (BoxT w13 w3.heap.size 0 0) := HQ1_12.out.later hb
  clear hb x12
  go_wp2_with fail
  refine (KLp.out _ HB13.out).mono ?_
  rintro e w14 ⟨rfl, hb⟩
  have HB14 : Hid (Below W.heap.size W w14) := onB HB13.out hb
  have x14 := (HBox0.out.later HB14.out).2
  have HQ0_14 : Hid (BoxT w14 w1.heap.size 0 0) := HQ0_13.out.later hb
  have HQ1_14 : Hid (BoxT w14 w3.heap.size 0 0) := HQ1_13.out.later hb
  clear hb x13
  go_wp2_with fail
  refine (KWe.out _ HB14.out).mono ?_
  rintro e w15 ⟨rfl, hb⟩
  have HB15 : Hid (Below W.heap.size W w15) := onB HB14.out hb
  have x15 := (HBox0.out.later HB15.out).2
  have HQ0_15 : Hid (BoxT w15 w1.heap.size 0 0) := HQ0_14.out.later hb
  have HQ1_15 : Hid (BoxT w15 w3.heap.size 0 0) := HQ1_14.out.later hb
  clear hb x14
  go_wp2_with fail
  refine (KSa.out 3 _ HB15.out).mono ?_
  rintro e w16 ⟨rfl, hb⟩
  have HB16 : Hid (Below W.heap.size W w16) := onB HB15.out hb
  have x16 := (HBox0.out.later HB16.out).2
  have HQ0_16 : Hid (BoxT w16 w1.heap.size 0 0) := HQ0_15.out.later hb
  have HQ1_16 : Hid (BoxT w16 w3.heap.size 0 0) := HQ1_15.out.later hb
  clear hb x15
  obtain ⟨a0, a1, -, -⟩ := HQ0_16.out.at
  obtain ⟨b0, b1, -, -⟩ := HQ1_16.out.at
  go_wp2_with fail
  first | (go_quiet (fail); go_wp2_with fail) | skip
  go_ret
  exact ⟨by simp, by first | exact onB HB00.out HB16.out | exact below_drewN (onB HB00.out HB16.out) _⟩

set_option maxHeartbeats 16000000 in
theorem rt_1M (A0 : Option Addr) (cap n : Nat) (D : Nat → Dm) (A : Nat → Option Addr) (C : Nat → Nat) (AE : Option Addr) (ce : Nat) (xs : List EnL) (Ap : Option Addr) (cp : Nat) (p : List Int) (Aq : Option Addr) (cq : Nat) (r : List Int) (w : World) (hE1 : entsErr D n (lE xs) ≠ 0) (hR0 : (allErr D n).2.2 = 0) (hP0 : shapeErr D n p = 0) (hQ0 : shapeErr D n r = 0) (hin : inTo D p r n = true) (hlf : leafV D n r = false) (hC : CtxT A0 cap n D A C AE ce xs Ap cp p Aq cq r w) :
    Calls Tryz.prog 3 #[.agg #[.slice A0 n cap], .slice AE xs.length ce, .slice Ap p.length cp, .slice Aq r.length cq] w fun e w' => e = .returned (.bool true) ∧ Below w.heap.size w w' := by
  have hB0 := ownOut_below w A0 n cap 24
  have HC0 : Hid (CtxT A0 cap n D A C AE ce xs Ap cp p Aq cq r (ownOut w A0 n cap 24)) := hC.later hB0
  have HB00 : Hid (Below w.heap.size w (ownOut w A0 n cap 24)) := hB0
  have HBox0 : Hid (BoxO (ownOut w A0 n cap 24) w.heap.size (.slice A0 n cap)) := ⟨by rw [ownOut_size]; omega, ownOut_at ..⟩
  obtain ⟨W, hW⟩ : ∃ W, w.alloc (.cells #[.slice A0 n cap] 24) = W := ⟨_, rfl⟩
  have hWo : ownOut w A0 n cap 24 = W := hW
  rw [hWo] at HC0 HB00 HBox0
  have KEn : Hid (∀ w', Below W.heap.size W w' → Calls Tryz.prog 4 #[.agg #[.slice A0 n cap], .slice AE xs.length ce] w' fun e w'' => e = .returned (.int .i64 (entsErr D n (lE xs))) ∧ Below w'.heap.size w' w'') := fun w' hw' => by
    have hX := HC0.out.later hw'
    exact rentries_any A0 cap n D A C AE ce xs w' hX.1 hX.2.1
  have KVa : Hid (∀ w', Below W.heap.size W w' → Calls Tryz.prog 7 #[.agg #[.slice A0 n cap], .slice AE xs.length ce, .slice Ap p.length cp] w' fun e w'' => e = .returned (.tuple #[.agg #[.int .i64 0, .int .i64 0], errV (entsErr D n (lE xs))]) ∧ Below w'.heap.size w' w'') := fun w' hw' => by
    have hX := HC0.out.later hw'
    have hv : rvErr D n (lE xs) p = entsErr D n (lE xs) := rvErr_ents hE1
    have hw : rvV D n (lE xs) p = (0, 0) := rvV_bad (by rw [hv]; exact hE1)
    have h := rval_any A0 cap n D A C AE ce xs Ap cp p w' hX.1 hX.2.1 hX.2.2.1
    rw [hv, hw] at h
    exact h
  have KSa : Hid (∀ (c : Int) w', Below W.heap.size W w' → Calls Tryz.prog 8 #[errV c, .int .i64 c] w' fun e w'' => e = .returned (.bool true) ∧ Below w'.heap.size w' w'') := fun c w' hw' => by
    have hX := HC0.out.later hw'
    exact same_err c w' hX.2.2.2.2
  have KRi : Hid (∀ w', Below W.heap.size W w' → Calls Tryz.prog 9 #[.agg #[.slice A0 n cap]] w' fun e w'' => e = .returned (.int .i64 0) ∧ Below w'.heap.size w' w'') := fun w' hw' => by
    have hX := HC0.out.later hw'
    have h := rright_any A0 cap n D A C w' hX.1
    rw [hR0] at h
    exact h
  have KPl : Hid (∀ w', Below W.heap.size W w' → Calls Tryz.prog 5 #[.agg #[.slice A0 n cap], .slice Ap p.length cp] w' fun e w'' => e = .returned (.int .i64 0) ∧ Below w'.heap.size w' w'') := fun w' hw' => by
    have hX := HC0.out.later hw'
    have h := rplace_any A0 cap n D A C Ap cp p w' hR0 hX.1 hX.2.2.1
    rw [hP0] at h
    exact h
  have KRl : Hid (∀ w', Below W.heap.size W w' → Calls Tryz.prog 10 #[.agg #[.slice A0 n cap], .slice Ap p.length cp] w' fun e w'' => (∃ A' c' ys, e = .returned (.slice A' ys.length c') ∧ PlsV w'' A' c' ys ∧ lP ys = lfTo D p n) ∧ Below w'.heap.size w' w'') := fun w' hw' => by
    have hX := HC0.out.later hw'
    exact rrlf_any A0 cap n D A C Ap cp p w' (inO_of (by rw [pe1 hR0]; exact hP0)) hX.1 hX.2.2.1
  have KLe : Hid (∀ w', Below W.heap.size W w' → Calls Tryz.prog 11 #[.agg #[.slice A0 n cap], .slice Ap p.length cp] w' fun e w'' => (∃ A' c' ys, e = .returned (.tuple #[.slice A' ys.length c', .nilIface]) ∧ PlsV w'' A' c' ys ∧ lP ys = lfTo D p n) ∧ Below w'.heap.size w' w'') := fun w' hw' => by
    have hX := HC0.out.later hw'
    exact rlfs_any A0 cap n D A C Ap cp p w' (inO_of (by rw [pe1 hR0]; exact hP0)) hX.1 hX.2.2.1
  have KSp : Hid (∀ (A' B' : Option Addr) (ca cb : Nat) (xa ya : List PL) w', lP xa = lfTo D p n → lP ya = lfTo D p n → PlsV w' A' ca xa → PlsV w' B' cb ya → Calls Tryz.prog 12 #[.slice A' xa.length ca, .slice B' ya.length cb] w' fun e w'' => e = .returned (.bool true) ∧ Below w'.heap.size w' w'') := fun A' B' ca cb xa ya w' h1 h2 h3 h4 => by
    obtain ⟨-, hn4, hp3, hd⟩ := allErr_some hR0
    refine samepls_any A' B' ca cb xa ya w' (h1.trans h2.symm) ?_ (fun x hx => ?_) h3 h4
    · rw [← lP_len, h1]; exact Nat.le_trans (lfTo_len p n) (by omega)
    · have : x.p ∈ lfTo D p n := by rw [← h1]; exact List.mem_map.2 ⟨x, hx, rfl⟩
      rw [lfTo_each p n _ this]; exact hn4
  have KPq : Hid (∀ w', Below W.heap.size W w' → Calls Tryz.prog 5 #[.agg #[.slice A0 n cap], .slice Aq r.length cq] w' fun e w'' => e = .returned (.int .i64 0) ∧ Below w'.heap.size w' w'') := fun w' hw' => by
    have hX := HC0.out.later hw'
    have h := rplace_any A0 cap n D A C Aq cq r w' hR0 hX.1 hX.2.2.2.1
    rw [hQ0] at h
    exact h
  have KPw : Hid (∀ w', Below W.heap.size W w' → Calls Tryz.prog 13 #[.agg #[.slice A0 n cap], .slice Ap p.length cp, .slice Aq r.length cq] w' fun e w'' => e = .returned (.tuple #[.int .i64 (pwTo D p r n), .bool true]) ∧ Below w'.heap.size w' w'') := fun w' hw' => by
    have hX := HC0.out.later hw'
    have h := rpw_any A0 cap n D A C Ap cp p Aq cq r w' (inO_of (by rw [pe1 hR0]; exact hP0)) (inO_of (by rw [pe1 hR0]; exact hQ0)) hX.1 hX.2.2.1 hX.2.2.2.1
    rw [hin] at h
    exact h
  have KLp : Hid (∀ w', Below W.heap.size W w' → Calls Tryz.prog 14 #[.agg #[.slice A0 n cap], .slice Aq r.length cq] w' fun e w'' => e = .returned (.bool false) ∧ Below w'.heap.size w' w'') := fun w' hw' => by
    have hX := HC0.out.later hw'
    have h := rleafplace_any A0 cap n D A C Aq cq r w' (inO_of (by rw [pe1 hR0]; exact hQ0)) hX.1 hX.2.2.2.1
    rw [hlf] at h
    exact h
  have KWe : Hid (∀ w', Below W.heap.size W w' → Calls Tryz.prog 15 #[.agg #[.slice A0 n cap], .slice Ap p.length cp, .slice Aq r.length cq] w' fun e w'' => e = .returned (.tuple #[.int .i64 0, errV 3]) ∧ Below w'.heap.size w' w'') := fun w' hw' => by
    have hX := HC0.out.later hw'
    have hp : placeErr D n p = 0 := by rw [pe1 hR0]; exact hP0
    have hq : placeErr D n r = 0 := by rw [pe1 hR0]; exact hQ0
    have h2 := rw_3 hp hq (by rw [hlf]; simp)
    have h := rwt_any A0 cap n D A C Ap cp p Aq cq r w' hX.1 hX.2.2.1 hX.2.2.2.1
    rw [h2.1, h2.2] at h
    exact h
  have t1 : (entsErr D n (lE xs) == 0) = false := by simpa using hE1
  generalize entsErr D n (lE xs) = EE at KEn KVa t1
  generalize pwTo D p r n = PW at KPw
  generalize xs.length = NX at KEn KVa
  generalize p.length = NP at KVa KPl KLe KRl KPw KWe
  generalize r.length = NR at KPq KPw KLp KWe
  clear hC hB0 hWo hE1 hR0 hP0 hQ0 hin hlf
  go_enter Tryz.func3, Tryz.ntmps3
  have x0 := HBox0.out.2
  go_wp2_with fail
  clear hW
  refine (KEn.out _ (Below.refl _ _)).mono ?_
  rintro e w1 ⟨rfl, hb⟩
  have HB1 : Hid (Below W.heap.size W w1) := onB (Below.refl _ _) hb
  have x1 := (HBox0.out.later HB1.out).2
  clear hb x0
  obtain ⟨w2, hy2⟩ : ∃ y, w1.alloc (.cells #[.int .i64 0, .int .i64 0] 31) = y := ⟨_, rfl⟩
  have hb : Below w1.heap.size w1 w2 := by rw [← hy2]; go_grown
  have HB2 : Hid (Below W.heap.size W w2) := onB HB1.out hb
  have x2 := (HBox0.out.later HB2.out).2
  have HQ0_2 : Hid (BoxT w2 w1.heap.size 0 0) := by rw [← hy2]; exact BoxT.made ..
  have hz2 : W.heap.size ≤ w1.heap.size := HB1.out.size
  clear hb x1
  go_wp2_with fail
  clear hy2
  refine (KVa.out _ HB2.out).mono ?_
  rintro e w3 ⟨rfl, hb⟩
  have HB3 : Hid (Below W.heap.size W w3) := onB HB2.out hb
  have x3 := (HBox0.out.later HB3.out).2
  have HQ0_3 : Hid (BoxT w3 w1.heap.size 0 0) := HQ0_2.out.later hb
  clear hb x2
  obtain ⟨w4, hy4⟩ : ∃ y, w3.alloc (.cells #[.int .i64 0, .int .i64 0] 31) = y := ⟨_, rfl⟩
  have hb : Below w3.heap.size w3 w4 := by rw [← hy4]; go_grown
  have HB4 : Hid (Below W.heap.size W w4) := onB HB3.out hb
  have x4 := (HBox0.out.later HB4.out).2
  have HQ0_4 : Hid (BoxT w4 w1.heap.size 0 0) := HQ0_3.out.later hb
  have HQ1_4 : Hid (BoxT w4 w3.heap.size 0 0) := by rw [← hy4]; exact BoxT.made ..
  have hz4 : W.heap.size ≤ w3.heap.size := HB3.out.size
  clear hb x3
  have HY4 : Hid (w3.alloc (.cells #[.int .i64 0, .int .i64 0] 31) = w4) := hy4
  clear hy4
  go_wp2_with fail
  rw [HY4.out]
  refine (KSa.out EE _ HB4.out).mono ?_
  rintro e w5 ⟨rfl, hb⟩
  have HB5 : Hid (Below W.heap.size W w5) := onB HB4.out hb
  have x5 := (HBox0.out.later HB5.out).2
  have HQ0_5 : Hid (BoxT w5 w1.heap.size 0 0) := HQ0_4.out.later hb
  have HQ1_5 : Hid (BoxT w5 w3.heap.size 0 0) := HQ1_4.out.later hb
  clear hb x4
  go_wp2_with fail
  refine (KRi.out _ HB5.out).mono ?_
  rintro e w6 ⟨rfl, hb⟩
  have HB6 : Hid (Below W.heap.size W w6) := onB HB5.out hb
  have x6 := (HBox0.out.later HB6.out).2
  have HQ0_6 : Hid (BoxT w6 w1.heap.size 0 0) := HQ0_5.out.later hb
  have HQ1_6 : Hid (BoxT w6 w3.heap.size 0 0) := HQ1_5.out.later hb
  clear hb x5
  go_wp2_with fail
  refine (KPl.out _ HB6.out).mono ?_
  rintro e w7 ⟨rfl, hb⟩
  have HB7 : Hid (Below W.heap.size W w7) := onB HB6.out hb
  have x7 := (HBox0.out.later HB7.out).2
  have HQ0_7 : Hid (BoxT w7 w1.heap.size 0 0) := HQ0_6.out.later hb
  have HQ1_7 : Hid (BoxT w7 w3.heap.size 0 0) := HQ1_6.out.later hb
  clear hb x6
  go_wp2_with fail
  refine (KRl.out _ HB7.out).mono ?_
  rintro e w8 ⟨⟨AR, cR, yR, rfl, hPR, hLR⟩, hb⟩
  have HB8 : Hid (Below W.heap.size W w8) := onB HB7.out hb
  have x8 := (HBox0.out.later HB8.out).2
  have HQ0_8 : Hid (BoxT w8 w1.heap.size 0 0) := HQ0_7.out.later hb
  have HQ1_8 : Hid (BoxT w8 w3.heap.size 0 0) := HQ1_7.out.later hb
  have HL0_8 : Hid (PlsV w8 AR cR yR) := hPR
  have HLR : Hid (lP yR = lfTo D p n) := hLR
  clear hPR hLR
  clear hb x7
  go_wp2_with fail
  refine (KLe.out _ HB8.out).mono ?_
  rintro e w9 ⟨⟨AL, cL, yL, rfl, hPL, hLL⟩, hb⟩
  have HB9 : Hid (Below W.heap.size W w9) := onB HB8.out hb
  have x9 := (HBox0.out.later HB9.out).2
  have HQ0_9 : Hid (BoxT w9 w1.heap.size 0 0) := HQ0_8.out.later hb
  have HQ1_9 : Hid (BoxT w9 w3.heap.size 0 0) := HQ1_8.out.later hb
  have HL0_9 : Hid (PlsV w9 AR cR yR) := HL0_8.out.later hb
  have HL1_9 : Hid (PlsV w9 AL cL yL) := hPL
  have HLL : Hid (lP yL = lfTo D p n) := hLL
  clear hPL hLL
  clear hb x8
  go_wp2_with fail
  refine (KSa.out 0 _ HB9.out).mono ?_
  rintro e w10 ⟨rfl, hb⟩
  have HB10 : Hid (Below W.heap.size W w10) := onB HB9.out hb
  have x10 := (HBox0.out.later HB10.out).2
  have HQ0_10 : Hid (BoxT w10 w1.heap.size 0 0) := HQ0_9.out.later hb
  have HQ1_10 : Hid (BoxT w10 w3.heap.size 0 0) := HQ1_9.out.later hb
  have HL0_10 : Hid (PlsV w10 AR cR yR) := HL0_9.out.later hb
  have HL1_10 : Hid (PlsV w10 AL cL yL) := HL1_9.out.later hb
  clear hb x9
  go_wp2_with fail
  refine (KSp.out AL AR cL cR yL yR _ HLL.out HLR.out HL1_10.out HL0_10.out).mono ?_
  rintro e w11 ⟨rfl, hb⟩
  have HB11 : Hid (Below W.heap.size W w11) := onB HB10.out hb
  have x11 := (HBox0.out.later HB11.out).2
  have HQ0_11 : Hid (BoxT w11 w1.heap.size 0 0) := HQ0_10.out.later hb
  have HQ1_11 : Hid (BoxT w11 w3.heap.size 0 0) := HQ1_10.out.later hb
  have HL0_11 : Hid (PlsV w11 AR cR yR) := HL0_10.out.later hb
  have HL1_11 : Hid (PlsV w11 AL cL yL) := HL1_10.out.later hb
  clear hb x10
  go_wp2_with fail
  refine (KPq.out _ HB11.out).mono ?_
  rintro e w12 ⟨rfl, hb⟩
  have HB12 : Hid (Below W.heap.size W w12) := onB HB11.out hb
  have x12 := (HBox0.out.later HB12.out).2
  have HQ0_12 : Hid (BoxT w12 w1.heap.size 0 0) := HQ0_11.out.later hb
  have HQ1_12 : Hid (BoxT w12 w3.heap.size 0 0) := HQ1_11.out.later hb
  clear hb x11
  go_wp2_with fail
  refine (KPw.out _ HB12.out).mono ?_
  rintro e w13 ⟨rfl, hb⟩
  have HB13 : Hid (Below W.heap.size W w13) := onB HB12.out hb
  have x13 := (HBox0.out.later HB13.out).2
  have HQ0_13 : Hid (BoxT w13 w1.heap.size 0 0) := HQ0_12.out.later hb
  have HQ1_13 : Hid (BoxT w13 w3.heap.size 0 0) := HQ1_12.out.later hb
  clear hb x12
  go_wp2_with fail
  refine (KLp.out _ HB13.out).mono ?_
  rintro e w14 ⟨rfl, hb⟩
  have HB14 : Hid (Below W.heap.size W w14) := onB HB13.out hb
  have x14 := (HBox0.out.later HB14.out).2
  have HQ0_14 : Hid (BoxT w14 w1.heap.size 0 0) := HQ0_13.out.later hb
  have HQ1_14 : Hid (BoxT w14 w3.heap.size 0 0) := HQ1_13.out.later hb
  clear hb x13
  go_wp2_with fail
  refine (KWe.out _ HB14.out).mono ?_
  rintro e w15 ⟨rfl, hb⟩
  have HB15 : Hid (Below W.heap.size W w15) := onB HB14.out hb
  have x15 := (HBox0.out.later HB15.out).2
  have HQ0_15 : Hid (BoxT w15 w1.heap.size 0 0) := HQ0_14.out.later hb
  have HQ1_15 : Hid (BoxT w15 w3.heap.size 0 0) := HQ1_14.out.later hb
  clear hb x14
  go_wp2_with fail
  refine (KSa.out 3 _ HB15.out).mono ?_
  rintro e w16 ⟨rfl, hb⟩
  have HB16 : Hid (Below W.heap.size W w16) := onB HB15.out hb
  have x16 := (HBox0.out.later HB16.out).2
  have HQ0_16 : Hid (BoxT w16 w1.heap.size 0 0) := HQ0_15.out.later hb
  have HQ1_16 : Hid (BoxT w16 w3.heap.size 0 0) := HQ1_15.out.later hb
  clear hb x15
  obtain ⟨a0, a1, -, -⟩ := HQ0_16.out.at
  obtain ⟨b0, b1, -, -⟩ := HQ1_16.out.at
  go_wp2_with fail
  first | (go_quiet (fail); go_wp2_with fail) | skip
  go_ret
  exact ⟨by simp, by first | exact onB HB00.out HB16.out | exact below_drewN (onB HB00.out HB16.out) _⟩

set_option maxHeartbeats 16000000 in
theorem rt_1Y (A0 : Option Addr) (cap n : Nat) (D : Nat → Dm) (A : Nat → Option Addr) (C : Nat → Nat) (AE : Option Addr) (ce : Nat) (xs : List EnL) (Ap : Option Addr) (cp : Nat) (p : List Int) (Aq : Option Addr) (cq : Nat) (r : List Int) (w : World) (hE1 : entsErr D n (lE xs) ≠ 0) (hR0 : (allErr D n).2.2 = 0) (hP0 : shapeErr D n p = 0) (hQ0 : shapeErr D n r = 0) (hin : inTo D p r n = true) (hlf : leafV D n r = true) (hC : CtxT A0 cap n D A C AE ce xs Ap cp p Aq cq r w) :
    Calls Tryz.prog 3 #[.agg #[.slice A0 n cap], .slice AE xs.length ce, .slice Ap p.length cp, .slice Aq r.length cq] w fun e w' => e = .returned (.bool true) ∧ Below w.heap.size w w' := by
  have hB0 := ownOut_below w A0 n cap 24
  have HC0 : Hid (CtxT A0 cap n D A C AE ce xs Ap cp p Aq cq r (ownOut w A0 n cap 24)) := hC.later hB0
  have HB00 : Hid (Below w.heap.size w (ownOut w A0 n cap 24)) := hB0
  have HBox0 : Hid (BoxO (ownOut w A0 n cap 24) w.heap.size (.slice A0 n cap)) := ⟨by rw [ownOut_size]; omega, ownOut_at ..⟩
  obtain ⟨W, hW⟩ : ∃ W, w.alloc (.cells #[.slice A0 n cap] 24) = W := ⟨_, rfl⟩
  have hWo : ownOut w A0 n cap 24 = W := hW
  rw [hWo] at HC0 HB00 HBox0
  have KEn : Hid (∀ w', Below W.heap.size W w' → Calls Tryz.prog 4 #[.agg #[.slice A0 n cap], .slice AE xs.length ce] w' fun e w'' => e = .returned (.int .i64 (entsErr D n (lE xs))) ∧ Below w'.heap.size w' w'') := fun w' hw' => by
    have hX := HC0.out.later hw'
    exact rentries_any A0 cap n D A C AE ce xs w' hX.1 hX.2.1
  have KVa : Hid (∀ w', Below W.heap.size W w' → Calls Tryz.prog 7 #[.agg #[.slice A0 n cap], .slice AE xs.length ce, .slice Ap p.length cp] w' fun e w'' => e = .returned (.tuple #[.agg #[.int .i64 0, .int .i64 0], errV (entsErr D n (lE xs))]) ∧ Below w'.heap.size w' w'') := fun w' hw' => by
    have hX := HC0.out.later hw'
    have hv : rvErr D n (lE xs) p = entsErr D n (lE xs) := rvErr_ents hE1
    have hw : rvV D n (lE xs) p = (0, 0) := rvV_bad (by rw [hv]; exact hE1)
    have h := rval_any A0 cap n D A C AE ce xs Ap cp p w' hX.1 hX.2.1 hX.2.2.1
    rw [hv, hw] at h
    exact h
  have KSa : Hid (∀ (c : Int) w', Below W.heap.size W w' → Calls Tryz.prog 8 #[errV c, .int .i64 c] w' fun e w'' => e = .returned (.bool true) ∧ Below w'.heap.size w' w'') := fun c w' hw' => by
    have hX := HC0.out.later hw'
    exact same_err c w' hX.2.2.2.2
  have KRi : Hid (∀ w', Below W.heap.size W w' → Calls Tryz.prog 9 #[.agg #[.slice A0 n cap]] w' fun e w'' => e = .returned (.int .i64 0) ∧ Below w'.heap.size w' w'') := fun w' hw' => by
    have hX := HC0.out.later hw'
    have h := rright_any A0 cap n D A C w' hX.1
    rw [hR0] at h
    exact h
  have KPl : Hid (∀ w', Below W.heap.size W w' → Calls Tryz.prog 5 #[.agg #[.slice A0 n cap], .slice Ap p.length cp] w' fun e w'' => e = .returned (.int .i64 0) ∧ Below w'.heap.size w' w'') := fun w' hw' => by
    have hX := HC0.out.later hw'
    have h := rplace_any A0 cap n D A C Ap cp p w' hR0 hX.1 hX.2.2.1
    rw [hP0] at h
    exact h
  have KRl : Hid (∀ w', Below W.heap.size W w' → Calls Tryz.prog 10 #[.agg #[.slice A0 n cap], .slice Ap p.length cp] w' fun e w'' => (∃ A' c' ys, e = .returned (.slice A' ys.length c') ∧ PlsV w'' A' c' ys ∧ lP ys = lfTo D p n) ∧ Below w'.heap.size w' w'') := fun w' hw' => by
    have hX := HC0.out.later hw'
    exact rrlf_any A0 cap n D A C Ap cp p w' (inO_of (by rw [pe1 hR0]; exact hP0)) hX.1 hX.2.2.1
  have KLe : Hid (∀ w', Below W.heap.size W w' → Calls Tryz.prog 11 #[.agg #[.slice A0 n cap], .slice Ap p.length cp] w' fun e w'' => (∃ A' c' ys, e = .returned (.tuple #[.slice A' ys.length c', .nilIface]) ∧ PlsV w'' A' c' ys ∧ lP ys = lfTo D p n) ∧ Below w'.heap.size w' w'') := fun w' hw' => by
    have hX := HC0.out.later hw'
    exact rlfs_any A0 cap n D A C Ap cp p w' (inO_of (by rw [pe1 hR0]; exact hP0)) hX.1 hX.2.2.1
  have KSp : Hid (∀ (A' B' : Option Addr) (ca cb : Nat) (xa ya : List PL) w', lP xa = lfTo D p n → lP ya = lfTo D p n → PlsV w' A' ca xa → PlsV w' B' cb ya → Calls Tryz.prog 12 #[.slice A' xa.length ca, .slice B' ya.length cb] w' fun e w'' => e = .returned (.bool true) ∧ Below w'.heap.size w' w'') := fun A' B' ca cb xa ya w' h1 h2 h3 h4 => by
    obtain ⟨-, hn4, hp3, hd⟩ := allErr_some hR0
    refine samepls_any A' B' ca cb xa ya w' (h1.trans h2.symm) ?_ (fun x hx => ?_) h3 h4
    · rw [← lP_len, h1]; exact Nat.le_trans (lfTo_len p n) (by omega)
    · have : x.p ∈ lfTo D p n := by rw [← h1]; exact List.mem_map.2 ⟨x, hx, rfl⟩
      rw [lfTo_each p n _ this]; exact hn4
  have KPq : Hid (∀ w', Below W.heap.size W w' → Calls Tryz.prog 5 #[.agg #[.slice A0 n cap], .slice Aq r.length cq] w' fun e w'' => e = .returned (.int .i64 0) ∧ Below w'.heap.size w' w'') := fun w' hw' => by
    have hX := HC0.out.later hw'
    have h := rplace_any A0 cap n D A C Aq cq r w' hR0 hX.1 hX.2.2.2.1
    rw [hQ0] at h
    exact h
  have KPw : Hid (∀ w', Below W.heap.size W w' → Calls Tryz.prog 13 #[.agg #[.slice A0 n cap], .slice Ap p.length cp, .slice Aq r.length cq] w' fun e w'' => e = .returned (.tuple #[.int .i64 (pwTo D p r n), .bool true]) ∧ Below w'.heap.size w' w'') := fun w' hw' => by
    have hX := HC0.out.later hw'
    have h := rpw_any A0 cap n D A C Ap cp p Aq cq r w' (inO_of (by rw [pe1 hR0]; exact hP0)) (inO_of (by rw [pe1 hR0]; exact hQ0)) hX.1 hX.2.2.1 hX.2.2.2.1
    rw [hin] at h
    exact h
  have KLp : Hid (∀ w', Below W.heap.size W w' → Calls Tryz.prog 14 #[.agg #[.slice A0 n cap], .slice Aq r.length cq] w' fun e w'' => e = .returned (.bool true) ∧ Below w'.heap.size w' w'') := fun w' hw' => by
    have hX := HC0.out.later hw'
    have h := rleafplace_any A0 cap n D A C Aq cq r w' (inO_of (by rw [pe1 hR0]; exact hQ0)) hX.1 hX.2.2.2.1
    rw [hlf] at h
    exact h
  have KWe : Hid (∀ w', Below W.heap.size W w' → Calls Tryz.prog 15 #[.agg #[.slice A0 n cap], .slice Ap p.length cp, .slice Aq r.length cq] w' fun e w'' => e = .returned (.tuple #[.int .i64 (pwTo D p r n), errV 0]) ∧ Below w'.heap.size w' w'') := fun w' hw' => by
    have hX := HC0.out.later hw'
    have hp : placeErr D n p = 0 := by rw [pe1 hR0]; exact hP0
    have hq : placeErr D n r = 0 := by rw [pe1 hR0]; exact hQ0
    have h2 := rw_0 hp hq (by rw [hlf, hin]; simp)
    have h := rwt_any A0 cap n D A C Ap cp p Aq cq r w' hX.1 hX.2.2.1 hX.2.2.2.1
    rw [h2.1, h2.2] at h
    exact h
  have t1 : (entsErr D n (lE xs) == 0) = false := by simpa using hE1
  generalize entsErr D n (lE xs) = EE at KEn KVa t1
  generalize pwTo D p r n = PW at KPw KWe
  generalize xs.length = NX at KEn KVa
  generalize p.length = NP at KVa KPl KLe KRl KPw KWe
  generalize r.length = NR at KPq KPw KLp KWe
  clear hC hB0 hWo hE1 hR0 hP0 hQ0 hin hlf
  go_enter Tryz.func3, Tryz.ntmps3
  have x0 := HBox0.out.2
  go_wp2_with fail
  clear hW
  refine (KEn.out _ (Below.refl _ _)).mono ?_
  rintro e w1 ⟨rfl, hb⟩
  have HB1 : Hid (Below W.heap.size W w1) := onB (Below.refl _ _) hb
  have x1 := (HBox0.out.later HB1.out).2
  clear hb x0
  obtain ⟨w2, hy2⟩ : ∃ y, w1.alloc (.cells #[.int .i64 0, .int .i64 0] 31) = y := ⟨_, rfl⟩
  have hb : Below w1.heap.size w1 w2 := by rw [← hy2]; go_grown
  have HB2 : Hid (Below W.heap.size W w2) := onB HB1.out hb
  have x2 := (HBox0.out.later HB2.out).2
  have HQ0_2 : Hid (BoxT w2 w1.heap.size 0 0) := by rw [← hy2]; exact BoxT.made ..
  have hz2 : W.heap.size ≤ w1.heap.size := HB1.out.size
  clear hb x1
  go_wp2_with fail
  clear hy2
  refine (KVa.out _ HB2.out).mono ?_
  rintro e w3 ⟨rfl, hb⟩
  have HB3 : Hid (Below W.heap.size W w3) := onB HB2.out hb
  have x3 := (HBox0.out.later HB3.out).2
  have HQ0_3 : Hid (BoxT w3 w1.heap.size 0 0) := HQ0_2.out.later hb
  clear hb x2
  obtain ⟨w4, hy4⟩ : ∃ y, w3.alloc (.cells #[.int .i64 0, .int .i64 0] 31) = y := ⟨_, rfl⟩
  have hb : Below w3.heap.size w3 w4 := by rw [← hy4]; go_grown
  have HB4 : Hid (Below W.heap.size W w4) := onB HB3.out hb
  have x4 := (HBox0.out.later HB4.out).2
  have HQ0_4 : Hid (BoxT w4 w1.heap.size 0 0) := HQ0_3.out.later hb
  have HQ1_4 : Hid (BoxT w4 w3.heap.size 0 0) := by rw [← hy4]; exact BoxT.made ..
  have hz4 : W.heap.size ≤ w3.heap.size := HB3.out.size
  clear hb x3
  have HY4 : Hid (w3.alloc (.cells #[.int .i64 0, .int .i64 0] 31) = w4) := hy4
  clear hy4
  go_wp2_with fail
  rw [HY4.out]
  refine (KSa.out EE _ HB4.out).mono ?_
  rintro e w5 ⟨rfl, hb⟩
  have HB5 : Hid (Below W.heap.size W w5) := onB HB4.out hb
  have x5 := (HBox0.out.later HB5.out).2
  have HQ0_5 : Hid (BoxT w5 w1.heap.size 0 0) := HQ0_4.out.later hb
  have HQ1_5 : Hid (BoxT w5 w3.heap.size 0 0) := HQ1_4.out.later hb
  clear hb x4
  go_wp2_with fail
  refine (KRi.out _ HB5.out).mono ?_
  rintro e w6 ⟨rfl, hb⟩
  have HB6 : Hid (Below W.heap.size W w6) := onB HB5.out hb
  have x6 := (HBox0.out.later HB6.out).2
  have HQ0_6 : Hid (BoxT w6 w1.heap.size 0 0) := HQ0_5.out.later hb
  have HQ1_6 : Hid (BoxT w6 w3.heap.size 0 0) := HQ1_5.out.later hb
  clear hb x5
  go_wp2_with fail
  refine (KPl.out _ HB6.out).mono ?_
  rintro e w7 ⟨rfl, hb⟩
  have HB7 : Hid (Below W.heap.size W w7) := onB HB6.out hb
  have x7 := (HBox0.out.later HB7.out).2
  have HQ0_7 : Hid (BoxT w7 w1.heap.size 0 0) := HQ0_6.out.later hb
  have HQ1_7 : Hid (BoxT w7 w3.heap.size 0 0) := HQ1_6.out.later hb
  clear hb x6
  go_wp2_with fail
  refine (KRl.out _ HB7.out).mono ?_
  rintro e w8 ⟨⟨AR, cR, yR, rfl, hPR, hLR⟩, hb⟩
  have HB8 : Hid (Below W.heap.size W w8) := onB HB7.out hb
  have x8 := (HBox0.out.later HB8.out).2
  have HQ0_8 : Hid (BoxT w8 w1.heap.size 0 0) := HQ0_7.out.later hb
  have HQ1_8 : Hid (BoxT w8 w3.heap.size 0 0) := HQ1_7.out.later hb
  have HL0_8 : Hid (PlsV w8 AR cR yR) := hPR
  have HLR : Hid (lP yR = lfTo D p n) := hLR
  clear hPR hLR
  clear hb x7
  go_wp2_with fail
  refine (KLe.out _ HB8.out).mono ?_
  rintro e w9 ⟨⟨AL, cL, yL, rfl, hPL, hLL⟩, hb⟩
  have HB9 : Hid (Below W.heap.size W w9) := onB HB8.out hb
  have x9 := (HBox0.out.later HB9.out).2
  have HQ0_9 : Hid (BoxT w9 w1.heap.size 0 0) := HQ0_8.out.later hb
  have HQ1_9 : Hid (BoxT w9 w3.heap.size 0 0) := HQ1_8.out.later hb
  have HL0_9 : Hid (PlsV w9 AR cR yR) := HL0_8.out.later hb
  have HL1_9 : Hid (PlsV w9 AL cL yL) := hPL
  have HLL : Hid (lP yL = lfTo D p n) := hLL
  clear hPL hLL
  clear hb x8
  go_wp2_with fail
  refine (KSa.out 0 _ HB9.out).mono ?_
  rintro e w10 ⟨rfl, hb⟩
  have HB10 : Hid (Below W.heap.size W w10) := onB HB9.out hb
  have x10 := (HBox0.out.later HB10.out).2
  have HQ0_10 : Hid (BoxT w10 w1.heap.size 0 0) := HQ0_9.out.later hb
  have HQ1_10 : Hid (BoxT w10 w3.heap.size 0 0) := HQ1_9.out.later hb
  have HL0_10 : Hid (PlsV w10 AR cR yR) := HL0_9.out.later hb
  have HL1_10 : Hid (PlsV w10 AL cL yL) := HL1_9.out.later hb
  clear hb x9
  go_wp2_with fail
  refine (KSp.out AL AR cL cR yL yR _ HLL.out HLR.out HL1_10.out HL0_10.out).mono ?_
  rintro e w11 ⟨rfl, hb⟩
  have HB11 : Hid (Below W.heap.size W w11) := onB HB10.out hb
  have x11 := (HBox0.out.later HB11.out).2
  have HQ0_11 : Hid (BoxT w11 w1.heap.size 0 0) := HQ0_10.out.later hb
  have HQ1_11 : Hid (BoxT w11 w3.heap.size 0 0) := HQ1_10.out.later hb
  have HL0_11 : Hid (PlsV w11 AR cR yR) := HL0_10.out.later hb
  have HL1_11 : Hid (PlsV w11 AL cL yL) := HL1_10.out.later hb
  clear hb x10
  go_wp2_with fail
  refine (KPq.out _ HB11.out).mono ?_
  rintro e w12 ⟨rfl, hb⟩
  have HB12 : Hid (Below W.heap.size W w12) := onB HB11.out hb
  have x12 := (HBox0.out.later HB12.out).2
  have HQ0_12 : Hid (BoxT w12 w1.heap.size 0 0) := HQ0_11.out.later hb
  have HQ1_12 : Hid (BoxT w12 w3.heap.size 0 0) := HQ1_11.out.later hb
  clear hb x11
  go_wp2_with fail
  refine (KPw.out _ HB12.out).mono ?_
  rintro e w13 ⟨rfl, hb⟩
  have HB13 : Hid (Below W.heap.size W w13) := onB HB12.out hb
  have x13 := (HBox0.out.later HB13.out).2
  have HQ0_13 : Hid (BoxT w13 w1.heap.size 0 0) := HQ0_12.out.later hb
  have HQ1_13 : Hid (BoxT w13 w3.heap.size 0 0) := HQ1_12.out.later hb
  clear hb x12
  go_wp2_with fail
  refine (KLp.out _ HB13.out).mono ?_
  rintro e w14 ⟨rfl, hb⟩
  have HB14 : Hid (Below W.heap.size W w14) := onB HB13.out hb
  have x14 := (HBox0.out.later HB14.out).2
  have HQ0_14 : Hid (BoxT w14 w1.heap.size 0 0) := HQ0_13.out.later hb
  have HQ1_14 : Hid (BoxT w14 w3.heap.size 0 0) := HQ1_13.out.later hb
  clear hb x13
  go_wp2_with fail
  refine (KWe.out _ HB14.out).mono ?_
  rintro e w15 ⟨rfl, hb⟩
  have HB15 : Hid (Below W.heap.size W w15) := onB HB14.out hb
  have x15 := (HBox0.out.later HB15.out).2
  have HQ0_15 : Hid (BoxT w15 w1.heap.size 0 0) := HQ0_14.out.later hb
  have HQ1_15 : Hid (BoxT w15 w3.heap.size 0 0) := HQ1_14.out.later hb
  clear hb x14
  go_wp2_with fail
  refine (KSa.out 0 _ HB15.out).mono ?_
  rintro e w16 ⟨rfl, hb⟩
  have HB16 : Hid (Below W.heap.size W w16) := onB HB15.out hb
  have x16 := (HBox0.out.later HB16.out).2
  have HQ0_16 : Hid (BoxT w16 w1.heap.size 0 0) := HQ0_15.out.later hb
  have HQ1_16 : Hid (BoxT w16 w3.heap.size 0 0) := HQ1_15.out.later hb
  clear hb x15
  obtain ⟨a0, a1, -, -⟩ := HQ0_16.out.at
  obtain ⟨b0, b1, -, -⟩ := HQ1_16.out.at
  go_wp2_with fail
  first | (go_quiet (fail); go_wp2_with fail) | skip
  go_ret
  exact ⟨by simp, by first | exact onB HB00.out HB16.out | exact below_drewN (onB HB00.out HB16.out) _⟩
end Go.Proofs.YtmjcnlpjnbcfjacGreatDoor

namespace Go.Proofs.YtmjcnlpjnbcfjacGreatDoor
open Go Go.ChangeShapes Go.WideShapes Go.ChangeAt Go.RowKit
set_option maxRecDepth 20000

set_option maxHeartbeats 16000000 in
theorem rt_2P (A0 : Option Addr) (cap n : Nat) (D : Nat → Dm) (A : Nat → Option Addr) (C : Nat → Nat) (AE : Option Addr) (ce : Nat) (xs : List EnL) (Ap : Option Addr) (cp : Nat) (p : List Int) (Aq : Option Addr) (cq : Nat) (r : List Int) (w : World) (hE0 : entsErr D n (lE xs) = 0) (hR0 : (allErr D n).2.2 = 0) (hP1 : shapeErr D n p ≠ 0) (hC : CtxT A0 cap n D A C AE ce xs Ap cp p Aq cq r w) :
    Calls Tryz.prog 3 #[.agg #[.slice A0 n cap], .slice AE xs.length ce, .slice Ap p.length cp, .slice Aq r.length cq] w fun e w' => e = .returned (.bool true) ∧ Below w.heap.size w w' := by
  have hB0 := ownOut_below w A0 n cap 24
  have HC0 : Hid (CtxT A0 cap n D A C AE ce xs Ap cp p Aq cq r (ownOut w A0 n cap 24)) := hC.later hB0
  have HB00 : Hid (Below w.heap.size w (ownOut w A0 n cap 24)) := hB0
  have HBox0 : Hid (BoxO (ownOut w A0 n cap 24) w.heap.size (.slice A0 n cap)) := ⟨by rw [ownOut_size]; omega, ownOut_at ..⟩
  obtain ⟨W, hW⟩ : ∃ W, w.alloc (.cells #[.slice A0 n cap] 24) = W := ⟨_, rfl⟩
  have hWo : ownOut w A0 n cap 24 = W := hW
  rw [hWo] at HC0 HB00 HBox0
  have KEn : Hid (∀ w', Below W.heap.size W w' → Calls Tryz.prog 4 #[.agg #[.slice A0 n cap], .slice AE xs.length ce] w' fun e w'' => e = .returned (.int .i64 0) ∧ Below w'.heap.size w' w'') := fun w' hw' => by
    have hX := HC0.out.later hw'
    have h := rentries_any A0 cap n D A C AE ce xs w' hX.1 hX.2.1
    rw [hE0] at h
    exact h
  have KVa : Hid (∀ w', Below W.heap.size W w' → Calls Tryz.prog 7 #[.agg #[.slice A0 n cap], .slice AE xs.length ce, .slice Ap p.length cp] w' fun e w'' => e = .returned (.tuple #[.agg #[.int .i64 0, .int .i64 0], errV (shapeErr D n p)]) ∧ Below w'.heap.size w' w'') := fun w' hw' => by
    have hX := HC0.out.later hw'
    have hv : rvErr D n (lE xs) p = shapeErr D n p := by rw [rvErr_place hE0, pe1 hR0]
    have hw : rvV D n (lE xs) p = (0, 0) := rvV_bad (by rw [hv]; exact hP1)
    have h := rval_any A0 cap n D A C AE ce xs Ap cp p w' hX.1 hX.2.1 hX.2.2.1
    rw [hv, hw] at h
    exact h
  have KSa : Hid (∀ (c : Int) w', Below W.heap.size W w' → Calls Tryz.prog 8 #[errV c, .int .i64 c] w' fun e w'' => e = .returned (.bool true) ∧ Below w'.heap.size w' w'') := fun c w' hw' => by
    have hX := HC0.out.later hw'
    exact same_err c w' hX.2.2.2.2
  have KRi : Hid (∀ w', Below W.heap.size W w' → Calls Tryz.prog 9 #[.agg #[.slice A0 n cap]] w' fun e w'' => e = .returned (.int .i64 0) ∧ Below w'.heap.size w' w'') := fun w' hw' => by
    have hX := HC0.out.later hw'
    have h := rright_any A0 cap n D A C w' hX.1
    rw [hR0] at h
    exact h
  have KPl : Hid (∀ w', Below W.heap.size W w' → Calls Tryz.prog 5 #[.agg #[.slice A0 n cap], .slice Ap p.length cp] w' fun e w'' => e = .returned (.int .i64 (shapeErr D n p)) ∧ Below w'.heap.size w' w'') := fun w' hw' => by
    have hX := HC0.out.later hw'
    have h := rplace_any A0 cap n D A C Ap cp p w' hR0 hX.1 hX.2.2.1
    exact h
  have KLe : Hid (∀ w', Below W.heap.size W w' → Calls Tryz.prog 11 #[.agg #[.slice A0 n cap], .slice Ap p.length cp] w' fun e w'' => e = .returned (.tuple #[.slice none 0 0, errV (shapeErr D n p)]) ∧ Below w'.heap.size w' w'') := fun w' hw' => by
    have hX := HC0.out.later hw'
    have hp : placeErr D n p = (shapeErr D n p) := pe1 hR0
    have h := rlfs_bad A0 cap n D A C Ap cp p w' (by rw [hp]; exact hP1) hX.1 hX.2.2.1
    rw [hp, ← errV_some hP1] at h
    exact h
  have KSp : Hid (∀ w', Calls Tryz.prog 12 #[.slice none 0 0, .slice none 0 0] w' fun e w'' => e = .returned (.bool true) ∧ Below w'.heap.size w' w'') := fun w' => samepls_any none none 0 0 [] [] w' rfl (by decide) (fun x hx => by cases hx) (PlsV.nil _ _ _) (PlsV.nil _ _ _)
  have KWe : Hid (∀ w', Below W.heap.size W w' → Calls Tryz.prog 15 #[.agg #[.slice A0 n cap], .slice Ap p.length cp, .slice Aq r.length cq] w' fun e w'' => e = .returned (.tuple #[.int .i64 0, errV (shapeErr D n p)]) ∧ Below w'.heap.size w' w'') := fun w' hw' => by
    have hX := HC0.out.later hw'
    have hp : placeErr D n p = shapeErr D n p := pe1 hR0
    have h2 := rw_p (q := r) (by rw [hp]; exact hP1)
    rw [hp] at h2
    have h := rwt_any A0 cap n D A C Ap cp p Aq cq r w' hX.1 hX.2.2.1 hX.2.2.2.1
    rw [h2.1, h2.2] at h
    exact h
  have t2 : (shapeErr D n p == 0) = false := by simpa using hP1
  generalize shapeErr D n p = SP at KPl KLe KWe t2 KVa
  generalize xs.length = NX at KEn KVa
  generalize p.length = NP at KVa KPl KLe KWe
  generalize r.length = NR at KWe
  clear hC hB0 hWo hE0 hR0 hP1
  go_enter Tryz.func3, Tryz.ntmps3
  have x0 := HBox0.out.2
  go_wp2_with fail
  clear hW
  refine (KEn.out _ (Below.refl _ _)).mono ?_
  rintro e w1 ⟨rfl, hb⟩
  have HB1 : Hid (Below W.heap.size W w1) := onB (Below.refl _ _) hb
  have x1 := (HBox0.out.later HB1.out).2
  clear hb x0
  go_wp2_with fail
  refine (KPl.out _ HB1.out).mono ?_
  rintro e w2 ⟨rfl, hb⟩
  have HB2 : Hid (Below W.heap.size W w2) := onB HB1.out hb
  have x2 := (HBox0.out.later HB2.out).2
  clear hb x1
  obtain ⟨w3, hy3⟩ : ∃ y, w2.alloc (.cells #[.int .i64 0, .int .i64 0] 31) = y := ⟨_, rfl⟩
  have hb : Below w2.heap.size w2 w3 := by rw [← hy3]; go_grown
  have HB3 : Hid (Below W.heap.size W w3) := onB HB2.out hb
  have x3 := (HBox0.out.later HB3.out).2
  have HQ0_3 : Hid (BoxT w3 w2.heap.size 0 0) := by rw [← hy3]; exact BoxT.made ..
  have hz3 : W.heap.size ≤ w2.heap.size := HB2.out.size
  clear hb x2
  go_wp2_with fail
  clear hy3
  refine (KVa.out _ HB3.out).mono ?_
  rintro e w4 ⟨rfl, hb⟩
  have HB4 : Hid (Below W.heap.size W w4) := onB HB3.out hb
  have x4 := (HBox0.out.later HB4.out).2
  have HQ0_4 : Hid (BoxT w4 w2.heap.size 0 0) := HQ0_3.out.later hb
  clear hb x3
  obtain ⟨w5, hy5⟩ : ∃ y, w4.alloc (.cells #[.int .i64 0, .int .i64 0] 31) = y := ⟨_, rfl⟩
  have hb : Below w4.heap.size w4 w5 := by rw [← hy5]; go_grown
  have HB5 : Hid (Below W.heap.size W w5) := onB HB4.out hb
  have x5 := (HBox0.out.later HB5.out).2
  have HQ0_5 : Hid (BoxT w5 w2.heap.size 0 0) := HQ0_4.out.later hb
  have HQ1_5 : Hid (BoxT w5 w4.heap.size 0 0) := by rw [← hy5]; exact BoxT.made ..
  have hz5 : W.heap.size ≤ w4.heap.size := HB4.out.size
  clear hb x4
  have HY5 : Hid (w4.alloc (.cells #[.int .i64 0, .int .i64 0] 31) = w5) := hy5
  clear hy5
  go_wp2_with fail
  rw [HY5.out]
  refine (KSa.out SP _ HB5.out).mono ?_
  rintro e w6 ⟨rfl, hb⟩
  have HB6 : Hid (Below W.heap.size W w6) := onB HB5.out hb
  have x6 := (HBox0.out.later HB6.out).2
  have HQ0_6 : Hid (BoxT w6 w2.heap.size 0 0) := HQ0_5.out.later hb
  have HQ1_6 : Hid (BoxT w6 w4.heap.size 0 0) := HQ1_5.out.later hb
  clear hb x5
  go_wp2_with fail
  refine (KRi.out _ HB6.out).mono ?_
  rintro e w7 ⟨rfl, hb⟩
  have HB7 : Hid (Below W.heap.size W w7) := onB HB6.out hb
  have x7 := (HBox0.out.later HB7.out).2
  have HQ0_7 : Hid (BoxT w7 w2.heap.size 0 0) := HQ0_6.out.later hb
  have HQ1_7 : Hid (BoxT w7 w4.heap.size 0 0) := HQ1_6.out.later hb
  clear hb x6
  go_wp2_with fail
  refine (KPl.out _ HB7.out).mono ?_
  rintro e w8 ⟨rfl, hb⟩
  have HB8 : Hid (Below W.heap.size W w8) := onB HB7.out hb
  have x8 := (HBox0.out.later HB8.out).2
  have HQ0_8 : Hid (BoxT w8 w2.heap.size 0 0) := HQ0_7.out.later hb
  have HQ1_8 : Hid (BoxT w8 w4.heap.size 0 0) := HQ1_7.out.later hb
  clear hb x7
  go_wp2_with fail
  refine (KLe.out _ HB8.out).mono ?_
  rintro e w9 ⟨rfl, hb⟩
  have HB9 : Hid (Below W.heap.size W w9) := onB HB8.out hb
  have x9 := (HBox0.out.later HB9.out).2
  have HQ0_9 : Hid (BoxT w9 w2.heap.size 0 0) := HQ0_8.out.later hb
  have HQ1_9 : Hid (BoxT w9 w4.heap.size 0 0) := HQ1_8.out.later hb
  clear hb x8
  go_wp2_with fail
  refine (KSa.out SP _ HB9.out).mono ?_
  rintro e w10 ⟨rfl, hb⟩
  have HB10 : Hid (Below W.heap.size W w10) := onB HB9.out hb
  have x10 := (HBox0.out.later HB10.out).2
  have HQ0_10 : Hid (BoxT w10 w2.heap.size 0 0) := HQ0_9.out.later hb
  have HQ1_10 : Hid (BoxT w10 w4.heap.size 0 0) := HQ1_9.out.later hb
  clear hb x9
  go_wp2_with fail
  refine (KSp.out _).mono ?_
  rintro e w11 ⟨rfl, hb⟩
  have HB11 : Hid (Below W.heap.size W w11) := onB HB10.out hb
  have x11 := (HBox0.out.later HB11.out).2
  have HQ0_11 : Hid (BoxT w11 w2.heap.size 0 0) := HQ0_10.out.later hb
  have HQ1_11 : Hid (BoxT w11 w4.heap.size 0 0) := HQ1_10.out.later hb
  clear hb x10
  go_wp2_with fail
  refine (KWe.out _ HB11.out).mono ?_
  rintro e w12 ⟨rfl, hb⟩
  have HB12 : Hid (Below W.heap.size W w12) := onB HB11.out hb
  have x12 := (HBox0.out.later HB12.out).2
  have HQ0_12 : Hid (BoxT w12 w2.heap.size 0 0) := HQ0_11.out.later hb
  have HQ1_12 : Hid (BoxT w12 w4.heap.size 0 0) := HQ1_11.out.later hb
  clear hb x11
  go_wp2_with fail
  refine (KSa.out SP _ HB12.out).mono ?_
  rintro e w13 ⟨rfl, hb⟩
  have HB13 : Hid (Below W.heap.size W w13) := onB HB12.out hb
  have x13 := (HBox0.out.later HB13.out).2
  have HQ0_13 : Hid (BoxT w13 w2.heap.size 0 0) := HQ0_12.out.later hb
  have HQ1_13 : Hid (BoxT w13 w4.heap.size 0 0) := HQ1_12.out.later hb
  clear hb x12
  obtain ⟨a0, a1, -, -⟩ := HQ0_13.out.at
  obtain ⟨b0, b1, -, -⟩ := HQ1_13.out.at
  go_wp2_with fail
  first | (go_quiet (fail); go_wp2_with fail) | skip
  go_ret
  exact ⟨by simp, by first | exact onB HB00.out HB13.out | exact below_drewN (onB HB00.out HB13.out) _⟩

set_option maxHeartbeats 16000000 in
theorem rt_3Q (A0 : Option Addr) (cap n : Nat) (D : Nat → Dm) (A : Nat → Option Addr) (C : Nat → Nat) (AE : Option Addr) (ce : Nat) (xs : List EnL) (Ap : Option Addr) (cp : Nat) (p : List Int) (Aq : Option Addr) (cq : Nat) (r : List Int) (w : World) (hE0 : entsErr D n (lE xs) = 0) (hR0 : (allErr D n).2.2 = 0) (hP0 : shapeErr D n p = 0) (hQ1 : shapeErr D n r ≠ 0) (hC : CtxT A0 cap n D A C AE ce xs Ap cp p Aq cq r w) :
    Calls Tryz.prog 3 #[.agg #[.slice A0 n cap], .slice AE xs.length ce, .slice Ap p.length cp, .slice Aq r.length cq] w fun e w' => e = .returned (.bool true) ∧ Below w.heap.size w w' := by
  have hB0 := ownOut_below w A0 n cap 24
  have HC0 : Hid (CtxT A0 cap n D A C AE ce xs Ap cp p Aq cq r (ownOut w A0 n cap 24)) := hC.later hB0
  have HB00 : Hid (Below w.heap.size w (ownOut w A0 n cap 24)) := hB0
  have HBox0 : Hid (BoxO (ownOut w A0 n cap 24) w.heap.size (.slice A0 n cap)) := ⟨by rw [ownOut_size]; omega, ownOut_at ..⟩
  obtain ⟨W, hW⟩ : ∃ W, w.alloc (.cells #[.slice A0 n cap] 24) = W := ⟨_, rfl⟩
  have hWo : ownOut w A0 n cap 24 = W := hW
  rw [hWo] at HC0 HB00 HBox0
  have KEn : Hid (∀ w', Below W.heap.size W w' → Calls Tryz.prog 4 #[.agg #[.slice A0 n cap], .slice AE xs.length ce] w' fun e w'' => e = .returned (.int .i64 0) ∧ Below w'.heap.size w' w'') := fun w' hw' => by
    have hX := HC0.out.later hw'
    have h := rentries_any A0 cap n D A C AE ce xs w' hX.1 hX.2.1
    rw [hE0] at h
    exact h
  have KVa : Hid (∀ w', Below W.heap.size W w' → Calls Tryz.prog 7 #[.agg #[.slice A0 n cap], .slice AE xs.length ce, .slice Ap p.length cp] w' fun e w'' => e = .returned (.tuple #[.agg #[.int .i64 (rollV D n (lE xs) p).1, .int .i64 (rollV D n (lE xs) p).2], errV 0]) ∧ Below w'.heap.size w' w'') := fun w' hw' => by
    have hX := HC0.out.later hw'
    have hv : rvErr D n (lE xs) p = 0 := by rw [rvErr_place hE0, pe1 hR0]; exact hP0
    have hw : rvV D n (lE xs) p = rollV D n (lE xs) p := rvV_ok hv
    have h := rval_any A0 cap n D A C AE ce xs Ap cp p w' hX.1 hX.2.1 hX.2.2.1
    rw [hv, hw] at h
    exact h
  have KSa : Hid (∀ (c : Int) w', Below W.heap.size W w' → Calls Tryz.prog 8 #[errV c, .int .i64 c] w' fun e w'' => e = .returned (.bool true) ∧ Below w'.heap.size w' w'') := fun c w' hw' => by
    have hX := HC0.out.later hw'
    exact same_err c w' hX.2.2.2.2
  have KRi : Hid (∀ w', Below W.heap.size W w' → Calls Tryz.prog 9 #[.agg #[.slice A0 n cap]] w' fun e w'' => e = .returned (.int .i64 0) ∧ Below w'.heap.size w' w'') := fun w' hw' => by
    have hX := HC0.out.later hw'
    have h := rright_any A0 cap n D A C w' hX.1
    rw [hR0] at h
    exact h
  have KPl : Hid (∀ w', Below W.heap.size W w' → Calls Tryz.prog 5 #[.agg #[.slice A0 n cap], .slice Ap p.length cp] w' fun e w'' => e = .returned (.int .i64 0) ∧ Below w'.heap.size w' w'') := fun w' hw' => by
    have hX := HC0.out.later hw'
    have h := rplace_any A0 cap n D A C Ap cp p w' hR0 hX.1 hX.2.2.1
    rw [hP0] at h
    exact h
  have KRo : Hid (∀ w', Below W.heap.size W w' → Calls Tryz.prog 6 #[.agg #[.slice A0 n cap], .slice AE xs.length ce, .slice Ap p.length cp] w' fun e w'' => e = .returned (.agg #[.int .i64 (rollV D n (lE xs) p).1, .int .i64 (rollV D n (lE xs) p).2]) ∧ Below w'.heap.size w' w'') := fun w' hw' => by
    have hX := HC0.out.later hw'
    exact rroll_any A0 cap n D A C AE ce xs Ap cp p w' (ens_of hE0) (inO_of (by rw [pe1 hR0]; exact hP0)) hX.1 hX.2.1 hX.2.2.1
  have KRl : Hid (∀ w', Below W.heap.size W w' → Calls Tryz.prog 10 #[.agg #[.slice A0 n cap], .slice Ap p.length cp] w' fun e w'' => (∃ A' c' ys, e = .returned (.slice A' ys.length c') ∧ PlsV w'' A' c' ys ∧ lP ys = lfTo D p n) ∧ Below w'.heap.size w' w'') := fun w' hw' => by
    have hX := HC0.out.later hw'
    exact rrlf_any A0 cap n D A C Ap cp p w' (inO_of (by rw [pe1 hR0]; exact hP0)) hX.1 hX.2.2.1
  have KLe : Hid (∀ w', Below W.heap.size W w' → Calls Tryz.prog 11 #[.agg #[.slice A0 n cap], .slice Ap p.length cp] w' fun e w'' => (∃ A' c' ys, e = .returned (.tuple #[.slice A' ys.length c', .nilIface]) ∧ PlsV w'' A' c' ys ∧ lP ys = lfTo D p n) ∧ Below w'.heap.size w' w'') := fun w' hw' => by
    have hX := HC0.out.later hw'
    exact rlfs_any A0 cap n D A C Ap cp p w' (inO_of (by rw [pe1 hR0]; exact hP0)) hX.1 hX.2.2.1
  have KSp : Hid (∀ (A' B' : Option Addr) (ca cb : Nat) (xa ya : List PL) w', lP xa = lfTo D p n → lP ya = lfTo D p n → PlsV w' A' ca xa → PlsV w' B' cb ya → Calls Tryz.prog 12 #[.slice A' xa.length ca, .slice B' ya.length cb] w' fun e w'' => e = .returned (.bool true) ∧ Below w'.heap.size w' w'') := fun A' B' ca cb xa ya w' h1 h2 h3 h4 => by
    obtain ⟨-, hn4, hp3, hd⟩ := allErr_some hR0
    refine samepls_any A' B' ca cb xa ya w' (h1.trans h2.symm) ?_ (fun x hx => ?_) h3 h4
    · rw [← lP_len, h1]; exact Nat.le_trans (lfTo_len p n) (by omega)
    · have : x.p ∈ lfTo D p n := by rw [← h1]; exact List.mem_map.2 ⟨x, hx, rfl⟩
      rw [lfTo_each p n _ this]; exact hn4
  have KPq : Hid (∀ w', Below W.heap.size W w' → Calls Tryz.prog 5 #[.agg #[.slice A0 n cap], .slice Aq r.length cq] w' fun e w'' => e = .returned (.int .i64 (shapeErr D n r)) ∧ Below w'.heap.size w' w'') := fun w' hw' => by
    have hX := HC0.out.later hw'
    have h := rplace_any A0 cap n D A C Aq cq r w' hR0 hX.1 hX.2.2.2.1
    exact h
  have KWe : Hid (∀ w', Below W.heap.size W w' → Calls Tryz.prog 15 #[.agg #[.slice A0 n cap], .slice Ap p.length cp, .slice Aq r.length cq] w' fun e w'' => e = .returned (.tuple #[.int .i64 0, errV (shapeErr D n r)]) ∧ Below w'.heap.size w' w'') := fun w' hw' => by
    have hX := HC0.out.later hw'
    have hp : placeErr D n p = 0 := by rw [pe1 hR0]; exact hP0
    have hq : placeErr D n r = shapeErr D n r := pe1 hR0
    have h2 := rw_q hp (by rw [hq]; exact hQ1)
    rw [hq] at h2
    have h := rwt_any A0 cap n D A C Ap cp p Aq cq r w' hX.1 hX.2.2.1 hX.2.2.2.1
    rw [h2.1, h2.2] at h
    exact h
  have t3 : (shapeErr D n r == 0) = false := by simpa using hQ1
  generalize shapeErr D n r = SQ at KPq KWe t3
  generalize (rollV D n (lE xs) p).1 = V1 at KVa KRo
  generalize (rollV D n (lE xs) p).2 = V2 at KVa KRo
  generalize xs.length = NX at KEn KVa KRo
  generalize p.length = NP at KVa KPl KRo KLe KRl KWe
  generalize r.length = NR at KPq KWe
  clear hC hB0 hWo hE0 hR0 hP0 hQ1
  go_enter Tryz.func3, Tryz.ntmps3
  have x0 := HBox0.out.2
  go_wp2_with fail
  clear hW
  refine (KEn.out _ (Below.refl _ _)).mono ?_
  rintro e w1 ⟨rfl, hb⟩
  have HB1 : Hid (Below W.heap.size W w1) := onB (Below.refl _ _) hb
  have x1 := (HBox0.out.later HB1.out).2
  clear hb x0
  go_wp2_with fail
  refine (KPl.out _ HB1.out).mono ?_
  rintro e w2 ⟨rfl, hb⟩
  have HB2 : Hid (Below W.heap.size W w2) := onB HB1.out hb
  have x2 := (HBox0.out.later HB2.out).2
  clear hb x1
  obtain ⟨w3, hy3⟩ : ∃ y, w2.alloc (.cells #[.int .i64 0, .int .i64 0] 31) = y := ⟨_, rfl⟩
  have hb : Below w2.heap.size w2 w3 := by rw [← hy3]; go_grown
  have HB3 : Hid (Below W.heap.size W w3) := onB HB2.out hb
  have x3 := (HBox0.out.later HB3.out).2
  have HQ0_3 : Hid (BoxT w3 w2.heap.size 0 0) := by rw [← hy3]; exact BoxT.made ..
  have hz3 : W.heap.size ≤ w2.heap.size := HB2.out.size
  clear hb x2
  go_wp2_with fail
  clear hy3
  refine (KRo.out _ HB3.out).mono ?_
  rintro e w4 ⟨rfl, hb⟩
  have HB4 : Hid (Below W.heap.size W w4) := onB HB3.out hb
  have x4 := (HBox0.out.later HB4.out).2
  have HQ0_4 : Hid (BoxT w4 w2.heap.size 0 0) := HQ0_3.out.later hb
  clear hb x3
  obtain ⟨s0, s1, f0, f1⟩ := HQ0_4.out.at
  obtain ⟨w5, hy5⟩ : ∃ y, (w4.setCell ⟨w2.heap.size, 0, none⟩ (.int .i64 V1)).setCell ⟨w2.heap.size, 1, none⟩ (.int .i64 V2) = y := ⟨_, rfl⟩
  have HB5 : Hid (Below W.heap.size W w5) := by show Below _ _ _; rw [← hy5]; exact (HB4.out.setCell hz3 _).setCell hz3 _
  have HQ0_5 : Hid (BoxT w5 w2.heap.size V1 V2) := by rw [← hy5]; exact HQ0_4.out.set V1 V2
  have x5 := (HBox0.out.later HB5.out).2
  have HY5 : Hid ((w4.setCell ⟨w2.heap.size, 0, none⟩ (.int .i64 V1)).setCell ⟨w2.heap.size, 1, none⟩ (.int .i64 V2) = w5) := hy5
  clear hy5 x4
  have x4 := (HBox0.out.later HB4.out).2
  have hnq : ¬ (w.heap.size = w2.heap.size) := by have := HBox0.out.1; omega
  go_wp2_with fail
  first | rw [HY5.out] | skip
  clear s0 s1 f0 f1 x4
  refine (KVa.out _ HB5.out).mono ?_
  rintro e w6 ⟨rfl, hb⟩
  have HB6 : Hid (Below W.heap.size W w6) := onB HB5.out hb
  have x6 := (HBox0.out.later HB6.out).2
  have HQ0_6 : Hid (BoxT w6 w2.heap.size V1 V2) := HQ0_5.out.later hb
  clear hb x5
  obtain ⟨w7, hy7⟩ : ∃ y, w6.alloc (.cells #[.int .i64 V1, .int .i64 V2] 31) = y := ⟨_, rfl⟩
  have hb : Below w6.heap.size w6 w7 := by rw [← hy7]; go_grown
  have HB7 : Hid (Below W.heap.size W w7) := onB HB6.out hb
  have x7 := (HBox0.out.later HB7.out).2
  have HQ0_7 : Hid (BoxT w7 w2.heap.size V1 V2) := HQ0_6.out.later hb
  have HQ1_7 : Hid (BoxT w7 w6.heap.size V1 V2) := by rw [← hy7]; exact BoxT.made ..
  have hz7 : W.heap.size ≤ w6.heap.size := HB6.out.size
  clear hb x6
  go_wp2_with fail
  clear hy7
  refine (KSa.out 0 _ HB7.out).mono ?_
  rintro e w8 ⟨rfl, hb⟩
  have HB8 : Hid (Below W.heap.size W w8) := onB HB7.out hb
  have x8 := (HBox0.out.later HB8.out).2
  have HQ0_8 : Hid (BoxT w8 w2.heap.size V1 V2) := HQ0_7.out.later hb
  have HQ1_8 : Hid (BoxT w8 w6.heap.size V1 V2) := HQ1_7.out.later hb
  clear hb x7
  go_wp2_with fail
  refine (KRi.out _ HB8.out).mono ?_
  rintro e w9 ⟨rfl, hb⟩
  have HB9 : Hid (Below W.heap.size W w9) := onB HB8.out hb
  have x9 := (HBox0.out.later HB9.out).2
  have HQ0_9 : Hid (BoxT w9 w2.heap.size V1 V2) := HQ0_8.out.later hb
  have HQ1_9 : Hid (BoxT w9 w6.heap.size V1 V2) := HQ1_8.out.later hb
  clear hb x8
  go_wp2_with fail
  refine (KPl.out _ HB9.out).mono ?_
  rintro e w10 ⟨rfl, hb⟩
  have HB10 : Hid (Below W.heap.size W w10) := onB HB9.out hb
  have x10 := (HBox0.out.later HB10.out).2
  have HQ0_10 : Hid (BoxT w10 w2.heap.size V1 V2) := HQ0_9.out.later hb
  have HQ1_10 : Hid (BoxT w10 w6.heap.size V1 V2) := HQ1_9.out.later hb
  clear hb x9
  go_wp2_with fail
  refine (KRl.out _ HB10.out).mono ?_
  rintro e w11 ⟨⟨AR, cR, yR, rfl, hPR, hLR⟩, hb⟩
  have HB11 : Hid (Below W.heap.size W w11) := onB HB10.out hb
  have x11 := (HBox0.out.later HB11.out).2
  have HQ0_11 : Hid (BoxT w11 w2.heap.size V1 V2) := HQ0_10.out.later hb
  have HQ1_11 : Hid (BoxT w11 w6.heap.size V1 V2) := HQ1_10.out.later hb
  have HL0_11 : Hid (PlsV w11 AR cR yR) := hPR
  have HLR : Hid (lP yR = lfTo D p n) := hLR
  clear hPR hLR
  clear hb x10
  go_wp2_with fail
  refine (KLe.out _ HB11.out).mono ?_
  rintro e w12 ⟨⟨AL, cL, yL, rfl, hPL, hLL⟩, hb⟩
  have HB12 : Hid (Below W.heap.size W w12) := onB HB11.out hb
  have x12 := (HBox0.out.later HB12.out).2
  have HQ0_12 : Hid (BoxT w12 w2.heap.size V1 V2) := HQ0_11.out.later hb
  have HQ1_12 : Hid (BoxT w12 w6.heap.size V1 V2) := HQ1_11.out.later hb
  have HL0_12 : Hid (PlsV w12 AR cR yR) := HL0_11.out.later hb
  have HL1_12 : Hid (PlsV w12 AL cL yL) := hPL
  have HLL : Hid (lP yL = lfTo D p n) := hLL
  clear hPL hLL
  clear hb x11
  go_wp2_with fail
  refine (KSa.out 0 _ HB12.out).mono ?_
  rintro e w13 ⟨rfl, hb⟩
  have HB13 : Hid (Below W.heap.size W w13) := onB HB12.out hb
  have x13 := (HBox0.out.later HB13.out).2
  have HQ0_13 : Hid (BoxT w13 w2.heap.size V1 V2) := HQ0_12.out.later hb
  have HQ1_13 : Hid (BoxT w13 w6.heap.size V1 V2) := HQ1_12.out.later hb
  have HL0_13 : Hid (PlsV w13 AR cR yR) := HL0_12.out.later hb
  have HL1_13 : Hid (PlsV w13 AL cL yL) := HL1_12.out.later hb
  clear hb x12
  go_wp2_with fail
  refine (KSp.out AL AR cL cR yL yR _ HLL.out HLR.out HL1_13.out HL0_13.out).mono ?_
  rintro e w14 ⟨rfl, hb⟩
  have HB14 : Hid (Below W.heap.size W w14) := onB HB13.out hb
  have x14 := (HBox0.out.later HB14.out).2
  have HQ0_14 : Hid (BoxT w14 w2.heap.size V1 V2) := HQ0_13.out.later hb
  have HQ1_14 : Hid (BoxT w14 w6.heap.size V1 V2) := HQ1_13.out.later hb
  have HL0_14 : Hid (PlsV w14 AR cR yR) := HL0_13.out.later hb
  have HL1_14 : Hid (PlsV w14 AL cL yL) := HL1_13.out.later hb
  clear hb x13
  go_wp2_with fail
  refine (KPq.out _ HB14.out).mono ?_
  rintro e w15 ⟨rfl, hb⟩
  have HB15 : Hid (Below W.heap.size W w15) := onB HB14.out hb
  have x15 := (HBox0.out.later HB15.out).2
  have HQ0_15 : Hid (BoxT w15 w2.heap.size V1 V2) := HQ0_14.out.later hb
  have HQ1_15 : Hid (BoxT w15 w6.heap.size V1 V2) := HQ1_14.out.later hb
  clear hb x14
  go_wp2_with fail
  refine (KWe.out _ HB15.out).mono ?_
  rintro e w16 ⟨rfl, hb⟩
  have HB16 : Hid (Below W.heap.size W w16) := onB HB15.out hb
  have x16 := (HBox0.out.later HB16.out).2
  have HQ0_16 : Hid (BoxT w16 w2.heap.size V1 V2) := HQ0_15.out.later hb
  have HQ1_16 : Hid (BoxT w16 w6.heap.size V1 V2) := HQ1_15.out.later hb
  clear hb x15
  go_wp2_with fail
  refine (KSa.out SQ _ HB16.out).mono ?_
  rintro e w17 ⟨rfl, hb⟩
  have HB17 : Hid (Below W.heap.size W w17) := onB HB16.out hb
  have x17 := (HBox0.out.later HB17.out).2
  have HQ0_17 : Hid (BoxT w17 w2.heap.size V1 V2) := HQ0_16.out.later hb
  have HQ1_17 : Hid (BoxT w17 w6.heap.size V1 V2) := HQ1_16.out.later hb
  clear hb x16
  obtain ⟨a0, a1, -, -⟩ := HQ0_17.out.at
  obtain ⟨b0, b1, -, -⟩ := HQ1_17.out.at
  go_wp2_with fail
  first | (go_quiet (fail); go_wp2_with fail) | skip
  go_ret
  exact ⟨by simp, by first | exact onB HB00.out HB17.out | exact below_drewN (onB HB00.out HB17.out) _⟩

set_option maxHeartbeats 16000000 in
theorem rt_3N (A0 : Option Addr) (cap n : Nat) (D : Nat → Dm) (A : Nat → Option Addr) (C : Nat → Nat) (AE : Option Addr) (ce : Nat) (xs : List EnL) (Ap : Option Addr) (cp : Nat) (p : List Int) (Aq : Option Addr) (cq : Nat) (r : List Int) (w : World) (hE0 : entsErr D n (lE xs) = 0) (hR0 : (allErr D n).2.2 = 0) (hP0 : shapeErr D n p = 0) (hQ0 : shapeErr D n r = 0) (hin : inTo D p r n = false) (hC : CtxT A0 cap n D A C AE ce xs Ap cp p Aq cq r w) :
    Calls Tryz.prog 3 #[.agg #[.slice A0 n cap], .slice AE xs.length ce, .slice Ap p.length cp, .slice Aq r.length cq] w fun e w' => e = .returned (.bool true) ∧ Below w.heap.size w w' := by
  have hB0 := ownOut_below w A0 n cap 24
  have HC0 : Hid (CtxT A0 cap n D A C AE ce xs Ap cp p Aq cq r (ownOut w A0 n cap 24)) := hC.later hB0
  have HB00 : Hid (Below w.heap.size w (ownOut w A0 n cap 24)) := hB0
  have HBox0 : Hid (BoxO (ownOut w A0 n cap 24) w.heap.size (.slice A0 n cap)) := ⟨by rw [ownOut_size]; omega, ownOut_at ..⟩
  obtain ⟨W, hW⟩ : ∃ W, w.alloc (.cells #[.slice A0 n cap] 24) = W := ⟨_, rfl⟩
  have hWo : ownOut w A0 n cap 24 = W := hW
  rw [hWo] at HC0 HB00 HBox0
  have KEn : Hid (∀ w', Below W.heap.size W w' → Calls Tryz.prog 4 #[.agg #[.slice A0 n cap], .slice AE xs.length ce] w' fun e w'' => e = .returned (.int .i64 0) ∧ Below w'.heap.size w' w'') := fun w' hw' => by
    have hX := HC0.out.later hw'
    have h := rentries_any A0 cap n D A C AE ce xs w' hX.1 hX.2.1
    rw [hE0] at h
    exact h
  have KVa : Hid (∀ w', Below W.heap.size W w' → Calls Tryz.prog 7 #[.agg #[.slice A0 n cap], .slice AE xs.length ce, .slice Ap p.length cp] w' fun e w'' => e = .returned (.tuple #[.agg #[.int .i64 (rollV D n (lE xs) p).1, .int .i64 (rollV D n (lE xs) p).2], errV 0]) ∧ Below w'.heap.size w' w'') := fun w' hw' => by
    have hX := HC0.out.later hw'
    have hv : rvErr D n (lE xs) p = 0 := by rw [rvErr_place hE0, pe1 hR0]; exact hP0
    have hw : rvV D n (lE xs) p = rollV D n (lE xs) p := rvV_ok hv
    have h := rval_any A0 cap n D A C AE ce xs Ap cp p w' hX.1 hX.2.1 hX.2.2.1
    rw [hv, hw] at h
    exact h
  have KSa : Hid (∀ (c : Int) w', Below W.heap.size W w' → Calls Tryz.prog 8 #[errV c, .int .i64 c] w' fun e w'' => e = .returned (.bool true) ∧ Below w'.heap.size w' w'') := fun c w' hw' => by
    have hX := HC0.out.later hw'
    exact same_err c w' hX.2.2.2.2
  have KRi : Hid (∀ w', Below W.heap.size W w' → Calls Tryz.prog 9 #[.agg #[.slice A0 n cap]] w' fun e w'' => e = .returned (.int .i64 0) ∧ Below w'.heap.size w' w'') := fun w' hw' => by
    have hX := HC0.out.later hw'
    have h := rright_any A0 cap n D A C w' hX.1
    rw [hR0] at h
    exact h
  have KPl : Hid (∀ w', Below W.heap.size W w' → Calls Tryz.prog 5 #[.agg #[.slice A0 n cap], .slice Ap p.length cp] w' fun e w'' => e = .returned (.int .i64 0) ∧ Below w'.heap.size w' w'') := fun w' hw' => by
    have hX := HC0.out.later hw'
    have h := rplace_any A0 cap n D A C Ap cp p w' hR0 hX.1 hX.2.2.1
    rw [hP0] at h
    exact h
  have KRo : Hid (∀ w', Below W.heap.size W w' → Calls Tryz.prog 6 #[.agg #[.slice A0 n cap], .slice AE xs.length ce, .slice Ap p.length cp] w' fun e w'' => e = .returned (.agg #[.int .i64 (rollV D n (lE xs) p).1, .int .i64 (rollV D n (lE xs) p).2]) ∧ Below w'.heap.size w' w'') := fun w' hw' => by
    have hX := HC0.out.later hw'
    exact rroll_any A0 cap n D A C AE ce xs Ap cp p w' (ens_of hE0) (inO_of (by rw [pe1 hR0]; exact hP0)) hX.1 hX.2.1 hX.2.2.1
  have KRl : Hid (∀ w', Below W.heap.size W w' → Calls Tryz.prog 10 #[.agg #[.slice A0 n cap], .slice Ap p.length cp] w' fun e w'' => (∃ A' c' ys, e = .returned (.slice A' ys.length c') ∧ PlsV w'' A' c' ys ∧ lP ys = lfTo D p n) ∧ Below w'.heap.size w' w'') := fun w' hw' => by
    have hX := HC0.out.later hw'
    exact rrlf_any A0 cap n D A C Ap cp p w' (inO_of (by rw [pe1 hR0]; exact hP0)) hX.1 hX.2.2.1
  have KLe : Hid (∀ w', Below W.heap.size W w' → Calls Tryz.prog 11 #[.agg #[.slice A0 n cap], .slice Ap p.length cp] w' fun e w'' => (∃ A' c' ys, e = .returned (.tuple #[.slice A' ys.length c', .nilIface]) ∧ PlsV w'' A' c' ys ∧ lP ys = lfTo D p n) ∧ Below w'.heap.size w' w'') := fun w' hw' => by
    have hX := HC0.out.later hw'
    exact rlfs_any A0 cap n D A C Ap cp p w' (inO_of (by rw [pe1 hR0]; exact hP0)) hX.1 hX.2.2.1
  have KSp : Hid (∀ (A' B' : Option Addr) (ca cb : Nat) (xa ya : List PL) w', lP xa = lfTo D p n → lP ya = lfTo D p n → PlsV w' A' ca xa → PlsV w' B' cb ya → Calls Tryz.prog 12 #[.slice A' xa.length ca, .slice B' ya.length cb] w' fun e w'' => e = .returned (.bool true) ∧ Below w'.heap.size w' w'') := fun A' B' ca cb xa ya w' h1 h2 h3 h4 => by
    obtain ⟨-, hn4, hp3, hd⟩ := allErr_some hR0
    refine samepls_any A' B' ca cb xa ya w' (h1.trans h2.symm) ?_ (fun x hx => ?_) h3 h4
    · rw [← lP_len, h1]; exact Nat.le_trans (lfTo_len p n) (by omega)
    · have : x.p ∈ lfTo D p n := by rw [← h1]; exact List.mem_map.2 ⟨x, hx, rfl⟩
      rw [lfTo_each p n _ this]; exact hn4
  have KPq : Hid (∀ w', Below W.heap.size W w' → Calls Tryz.prog 5 #[.agg #[.slice A0 n cap], .slice Aq r.length cq] w' fun e w'' => e = .returned (.int .i64 0) ∧ Below w'.heap.size w' w'') := fun w' hw' => by
    have hX := HC0.out.later hw'
    have h := rplace_any A0 cap n D A C Aq cq r w' hR0 hX.1 hX.2.2.2.1
    rw [hQ0] at h
    exact h
  have KPw : Hid (∀ w', Below W.heap.size W w' → Calls Tryz.prog 13 #[.agg #[.slice A0 n cap], .slice Ap p.length cp, .slice Aq r.length cq] w' fun e w'' => e = .returned (.tuple #[.int .i64 (pwTo D p r n), .bool false]) ∧ Below w'.heap.size w' w'') := fun w' hw' => by
    have hX := HC0.out.later hw'
    have h := rpw_any A0 cap n D A C Ap cp p Aq cq r w' (inO_of (by rw [pe1 hR0]; exact hP0)) (inO_of (by rw [pe1 hR0]; exact hQ0)) hX.1 hX.2.2.1 hX.2.2.2.1
    rw [hin] at h
    exact h
  have KLp : Hid (∀ w', Below W.heap.size W w' → Calls Tryz.prog 14 #[.agg #[.slice A0 n cap], .slice Aq r.length cq] w' fun e w'' => e = .returned (.bool (leafV D n r)) ∧ Below w'.heap.size w' w'') := fun w' hw' => by
    have hX := HC0.out.later hw'
    have h := rleafplace_any A0 cap n D A C Aq cq r w' (inO_of (by rw [pe1 hR0]; exact hQ0)) hX.1 hX.2.2.2.1
    exact h
  have KWe : Hid (∀ w', Below W.heap.size W w' → Calls Tryz.prog 15 #[.agg #[.slice A0 n cap], .slice Ap p.length cp, .slice Aq r.length cq] w' fun e w'' => e = .returned (.tuple #[.int .i64 0, errV 3]) ∧ Below w'.heap.size w' w'') := fun w' hw' => by
    have hX := HC0.out.later hw'
    have hp : placeErr D n p = 0 := by rw [pe1 hR0]; exact hP0
    have hq : placeErr D n r = 0 := by rw [pe1 hR0]; exact hQ0
    have h2 := rw_3 hp hq (by rw [hin]; simp)
    have h := rwt_any A0 cap n D A C Ap cp p Aq cq r w' hX.1 hX.2.2.1 hX.2.2.2.1
    rw [h2.1, h2.2] at h
    exact h
  generalize leafV D n r = TL at KLp
  generalize pwTo D p r n = PW at KPw
  generalize (rollV D n (lE xs) p).1 = V1 at KVa KRo
  generalize (rollV D n (lE xs) p).2 = V2 at KVa KRo
  generalize xs.length = NX at KEn KVa KRo
  generalize p.length = NP at KVa KPl KRo KLe KRl KPw KWe
  generalize r.length = NR at KPq KPw KLp KWe
  clear hC hB0 hWo hE0 hR0 hP0 hQ0 hin
  go_enter Tryz.func3, Tryz.ntmps3
  have x0 := HBox0.out.2
  go_wp2_with fail
  clear hW
  refine (KEn.out _ (Below.refl _ _)).mono ?_
  rintro e w1 ⟨rfl, hb⟩
  have HB1 : Hid (Below W.heap.size W w1) := onB (Below.refl _ _) hb
  have x1 := (HBox0.out.later HB1.out).2
  clear hb x0
  go_wp2_with fail
  refine (KPl.out _ HB1.out).mono ?_
  rintro e w2 ⟨rfl, hb⟩
  have HB2 : Hid (Below W.heap.size W w2) := onB HB1.out hb
  have x2 := (HBox0.out.later HB2.out).2
  clear hb x1
  obtain ⟨w3, hy3⟩ : ∃ y, w2.alloc (.cells #[.int .i64 0, .int .i64 0] 31) = y := ⟨_, rfl⟩
  have hb : Below w2.heap.size w2 w3 := by rw [← hy3]; go_grown
  have HB3 : Hid (Below W.heap.size W w3) := onB HB2.out hb
  have x3 := (HBox0.out.later HB3.out).2
  have HQ0_3 : Hid (BoxT w3 w2.heap.size 0 0) := by rw [← hy3]; exact BoxT.made ..
  have hz3 : W.heap.size ≤ w2.heap.size := HB2.out.size
  clear hb x2
  go_wp2_with fail
  clear hy3
  refine (KRo.out _ HB3.out).mono ?_
  rintro e w4 ⟨rfl, hb⟩
  have HB4 : Hid (Below W.heap.size W w4) := onB HB3.out hb
  have x4 := (HBox0.out.later HB4.out).2
  have HQ0_4 : Hid (BoxT w4 w2.heap.size 0 0) := HQ0_3.out.later hb
  clear hb x3
  obtain ⟨s0, s1, f0, f1⟩ := HQ0_4.out.at
  obtain ⟨w5, hy5⟩ : ∃ y, (w4.setCell ⟨w2.heap.size, 0, none⟩ (.int .i64 V1)).setCell ⟨w2.heap.size, 1, none⟩ (.int .i64 V2) = y := ⟨_, rfl⟩
  have HB5 : Hid (Below W.heap.size W w5) := by show Below _ _ _; rw [← hy5]; exact (HB4.out.setCell hz3 _).setCell hz3 _
  have HQ0_5 : Hid (BoxT w5 w2.heap.size V1 V2) := by rw [← hy5]; exact HQ0_4.out.set V1 V2
  have x5 := (HBox0.out.later HB5.out).2
  have HY5 : Hid ((w4.setCell ⟨w2.heap.size, 0, none⟩ (.int .i64 V1)).setCell ⟨w2.heap.size, 1, none⟩ (.int .i64 V2) = w5) := hy5
  clear hy5 x4
  have x4 := (HBox0.out.later HB4.out).2
  have hnq : ¬ (w.heap.size = w2.heap.size) := by have := HBox0.out.1; omega
  go_wp2_with fail
  first | rw [HY5.out] | skip
  clear s0 s1 f0 f1 x4
  refine (KVa.out _ HB5.out).mono ?_
  rintro e w6 ⟨rfl, hb⟩
  have HB6 : Hid (Below W.heap.size W w6) := onB HB5.out hb
  have x6 := (HBox0.out.later HB6.out).2
  have HQ0_6 : Hid (BoxT w6 w2.heap.size V1 V2) := HQ0_5.out.later hb
  clear hb x5
  obtain ⟨w7, hy7⟩ : ∃ y, w6.alloc (.cells #[.int .i64 V1, .int .i64 V2] 31) = y := ⟨_, rfl⟩
  have hb : Below w6.heap.size w6 w7 := by rw [← hy7]; go_grown
  have HB7 : Hid (Below W.heap.size W w7) := onB HB6.out hb
  have x7 := (HBox0.out.later HB7.out).2
  have HQ0_7 : Hid (BoxT w7 w2.heap.size V1 V2) := HQ0_6.out.later hb
  have HQ1_7 : Hid (BoxT w7 w6.heap.size V1 V2) := by rw [← hy7]; exact BoxT.made ..
  have hz7 : W.heap.size ≤ w6.heap.size := HB6.out.size
  clear hb x6
  go_wp2_with fail
  clear hy7
  refine (KSa.out 0 _ HB7.out).mono ?_
  rintro e w8 ⟨rfl, hb⟩
  have HB8 : Hid (Below W.heap.size W w8) := onB HB7.out hb
  have x8 := (HBox0.out.later HB8.out).2
  have HQ0_8 : Hid (BoxT w8 w2.heap.size V1 V2) := HQ0_7.out.later hb
  have HQ1_8 : Hid (BoxT w8 w6.heap.size V1 V2) := HQ1_7.out.later hb
  clear hb x7
  go_wp2_with fail
  refine (KRi.out _ HB8.out).mono ?_
  rintro e w9 ⟨rfl, hb⟩
  have HB9 : Hid (Below W.heap.size W w9) := onB HB8.out hb
  have x9 := (HBox0.out.later HB9.out).2
  have HQ0_9 : Hid (BoxT w9 w2.heap.size V1 V2) := HQ0_8.out.later hb
  have HQ1_9 : Hid (BoxT w9 w6.heap.size V1 V2) := HQ1_8.out.later hb
  clear hb x8
  go_wp2_with fail
  refine (KPl.out _ HB9.out).mono ?_
  rintro e w10 ⟨rfl, hb⟩
  have HB10 : Hid (Below W.heap.size W w10) := onB HB9.out hb
  have x10 := (HBox0.out.later HB10.out).2
  have HQ0_10 : Hid (BoxT w10 w2.heap.size V1 V2) := HQ0_9.out.later hb
  have HQ1_10 : Hid (BoxT w10 w6.heap.size V1 V2) := HQ1_9.out.later hb
  clear hb x9
  go_wp2_with fail
  refine (KRl.out _ HB10.out).mono ?_
  rintro e w11 ⟨⟨AR, cR, yR, rfl, hPR, hLR⟩, hb⟩
  have HB11 : Hid (Below W.heap.size W w11) := onB HB10.out hb
  have x11 := (HBox0.out.later HB11.out).2
  have HQ0_11 : Hid (BoxT w11 w2.heap.size V1 V2) := HQ0_10.out.later hb
  have HQ1_11 : Hid (BoxT w11 w6.heap.size V1 V2) := HQ1_10.out.later hb
  have HL0_11 : Hid (PlsV w11 AR cR yR) := hPR
  have HLR : Hid (lP yR = lfTo D p n) := hLR
  clear hPR hLR
  clear hb x10
  go_wp2_with fail
  refine (KLe.out _ HB11.out).mono ?_
  rintro e w12 ⟨⟨AL, cL, yL, rfl, hPL, hLL⟩, hb⟩
  have HB12 : Hid (Below W.heap.size W w12) := onB HB11.out hb
  have x12 := (HBox0.out.later HB12.out).2
  have HQ0_12 : Hid (BoxT w12 w2.heap.size V1 V2) := HQ0_11.out.later hb
  have HQ1_12 : Hid (BoxT w12 w6.heap.size V1 V2) := HQ1_11.out.later hb
  have HL0_12 : Hid (PlsV w12 AR cR yR) := HL0_11.out.later hb
  have HL1_12 : Hid (PlsV w12 AL cL yL) := hPL
  have HLL : Hid (lP yL = lfTo D p n) := hLL
  clear hPL hLL
  clear hb x11
  go_wp2_with fail
  refine (KSa.out 0 _ HB12.out).mono ?_
  rintro e w13 ⟨rfl, hb⟩
  have HB13 : Hid (Below W.heap.size W w13) := onB HB12.out hb
  have x13 := (HBox0.out.later HB13.out).2
  have HQ0_13 : Hid (BoxT w13 w2.heap.size V1 V2) := HQ0_12.out.later hb
  have HQ1_13 : Hid (BoxT w13 w6.heap.size V1 V2) := HQ1_12.out.later hb
  have HL0_13 : Hid (PlsV w13 AR cR yR) := HL0_12.out.later hb
  have HL1_13 : Hid (PlsV w13 AL cL yL) := HL1_12.out.later hb
  clear hb x12
  go_wp2_with fail
  refine (KSp.out AL AR cL cR yL yR _ HLL.out HLR.out HL1_13.out HL0_13.out).mono ?_
  rintro e w14 ⟨rfl, hb⟩
  have HB14 : Hid (Below W.heap.size W w14) := onB HB13.out hb
  have x14 := (HBox0.out.later HB14.out).2
  have HQ0_14 : Hid (BoxT w14 w2.heap.size V1 V2) := HQ0_13.out.later hb
  have HQ1_14 : Hid (BoxT w14 w6.heap.size V1 V2) := HQ1_13.out.later hb
  have HL0_14 : Hid (PlsV w14 AR cR yR) := HL0_13.out.later hb
  have HL1_14 : Hid (PlsV w14 AL cL yL) := HL1_13.out.later hb
  clear hb x13
  go_wp2_with fail
  refine (KPq.out _ HB14.out).mono ?_
  rintro e w15 ⟨rfl, hb⟩
  have HB15 : Hid (Below W.heap.size W w15) := onB HB14.out hb
  have x15 := (HBox0.out.later HB15.out).2
  have HQ0_15 : Hid (BoxT w15 w2.heap.size V1 V2) := HQ0_14.out.later hb
  have HQ1_15 : Hid (BoxT w15 w6.heap.size V1 V2) := HQ1_14.out.later hb
  clear hb x14
  go_wp2_with fail
  refine (KPw.out _ HB15.out).mono ?_
  rintro e w16 ⟨rfl, hb⟩
  have HB16 : Hid (Below W.heap.size W w16) := onB HB15.out hb
  have x16 := (HBox0.out.later HB16.out).2
  have HQ0_16 : Hid (BoxT w16 w2.heap.size V1 V2) := HQ0_15.out.later hb
  have HQ1_16 : Hid (BoxT w16 w6.heap.size V1 V2) := HQ1_15.out.later hb
  clear hb x15
  go_wp2_with fail
  refine (KLp.out _ HB16.out).mono ?_
  rintro e w17 ⟨rfl, hb⟩
  have HB17 : Hid (Below W.heap.size W w17) := onB HB16.out hb
  have x17 := (HBox0.out.later HB17.out).2
  have HQ0_17 : Hid (BoxT w17 w2.heap.size V1 V2) := HQ0_16.out.later hb
  have HQ1_17 : Hid (BoxT w17 w6.heap.size V1 V2) := HQ1_16.out.later hb
  clear hb x16
  go_wp2_with fail
  refine (KWe.out _ HB17.out).mono ?_
  rintro e w18 ⟨rfl, hb⟩
  have HB18 : Hid (Below W.heap.size W w18) := onB HB17.out hb
  have x18 := (HBox0.out.later HB18.out).2
  have HQ0_18 : Hid (BoxT w18 w2.heap.size V1 V2) := HQ0_17.out.later hb
  have HQ1_18 : Hid (BoxT w18 w6.heap.size V1 V2) := HQ1_17.out.later hb
  clear hb x17
  go_wp2_with fail
  refine (KSa.out 3 _ HB18.out).mono ?_
  rintro e w19 ⟨rfl, hb⟩
  have HB19 : Hid (Below W.heap.size W w19) := onB HB18.out hb
  have x19 := (HBox0.out.later HB19.out).2
  have HQ0_19 : Hid (BoxT w19 w2.heap.size V1 V2) := HQ0_18.out.later hb
  have HQ1_19 : Hid (BoxT w19 w6.heap.size V1 V2) := HQ1_18.out.later hb
  clear hb x18
  obtain ⟨a0, a1, -, -⟩ := HQ0_19.out.at
  obtain ⟨b0, b1, -, -⟩ := HQ1_19.out.at
  go_wp2_with fail
  first | (go_quiet (fail); go_wp2_with fail) | skip
  go_ret
  exact ⟨by simp, by first | exact onB HB00.out HB19.out | exact below_drewN (onB HB00.out HB19.out) _⟩
end Go.Proofs.YtmjcnlpjnbcfjacGreatDoor

namespace Go.Proofs.YtmjcnlpjnbcfjacGreatDoor
open Go Go.ChangeShapes Go.WideShapes Go.ChangeAt Go.RowKit
set_option maxRecDepth 20000

set_option maxHeartbeats 16000000 in
theorem rt_3M (A0 : Option Addr) (cap n : Nat) (D : Nat → Dm) (A : Nat → Option Addr) (C : Nat → Nat) (AE : Option Addr) (ce : Nat) (xs : List EnL) (Ap : Option Addr) (cp : Nat) (p : List Int) (Aq : Option Addr) (cq : Nat) (r : List Int) (w : World) (hE0 : entsErr D n (lE xs) = 0) (hR0 : (allErr D n).2.2 = 0) (hP0 : shapeErr D n p = 0) (hQ0 : shapeErr D n r = 0) (hin : inTo D p r n = true) (hlf : leafV D n r = false) (hC : CtxT A0 cap n D A C AE ce xs Ap cp p Aq cq r w) :
    Calls Tryz.prog 3 #[.agg #[.slice A0 n cap], .slice AE xs.length ce, .slice Ap p.length cp, .slice Aq r.length cq] w fun e w' => e = .returned (.bool true) ∧ Below w.heap.size w w' := by
  have hB0 := ownOut_below w A0 n cap 24
  have HC0 : Hid (CtxT A0 cap n D A C AE ce xs Ap cp p Aq cq r (ownOut w A0 n cap 24)) := hC.later hB0
  have HB00 : Hid (Below w.heap.size w (ownOut w A0 n cap 24)) := hB0
  have HBox0 : Hid (BoxO (ownOut w A0 n cap 24) w.heap.size (.slice A0 n cap)) := ⟨by rw [ownOut_size]; omega, ownOut_at ..⟩
  obtain ⟨W, hW⟩ : ∃ W, w.alloc (.cells #[.slice A0 n cap] 24) = W := ⟨_, rfl⟩
  have hWo : ownOut w A0 n cap 24 = W := hW
  rw [hWo] at HC0 HB00 HBox0
  have KEn : Hid (∀ w', Below W.heap.size W w' → Calls Tryz.prog 4 #[.agg #[.slice A0 n cap], .slice AE xs.length ce] w' fun e w'' => e = .returned (.int .i64 0) ∧ Below w'.heap.size w' w'') := fun w' hw' => by
    have hX := HC0.out.later hw'
    have h := rentries_any A0 cap n D A C AE ce xs w' hX.1 hX.2.1
    rw [hE0] at h
    exact h
  have KVa : Hid (∀ w', Below W.heap.size W w' → Calls Tryz.prog 7 #[.agg #[.slice A0 n cap], .slice AE xs.length ce, .slice Ap p.length cp] w' fun e w'' => e = .returned (.tuple #[.agg #[.int .i64 (rollV D n (lE xs) p).1, .int .i64 (rollV D n (lE xs) p).2], errV 0]) ∧ Below w'.heap.size w' w'') := fun w' hw' => by
    have hX := HC0.out.later hw'
    have hv : rvErr D n (lE xs) p = 0 := by rw [rvErr_place hE0, pe1 hR0]; exact hP0
    have hw : rvV D n (lE xs) p = rollV D n (lE xs) p := rvV_ok hv
    have h := rval_any A0 cap n D A C AE ce xs Ap cp p w' hX.1 hX.2.1 hX.2.2.1
    rw [hv, hw] at h
    exact h
  have KSa : Hid (∀ (c : Int) w', Below W.heap.size W w' → Calls Tryz.prog 8 #[errV c, .int .i64 c] w' fun e w'' => e = .returned (.bool true) ∧ Below w'.heap.size w' w'') := fun c w' hw' => by
    have hX := HC0.out.later hw'
    exact same_err c w' hX.2.2.2.2
  have KRi : Hid (∀ w', Below W.heap.size W w' → Calls Tryz.prog 9 #[.agg #[.slice A0 n cap]] w' fun e w'' => e = .returned (.int .i64 0) ∧ Below w'.heap.size w' w'') := fun w' hw' => by
    have hX := HC0.out.later hw'
    have h := rright_any A0 cap n D A C w' hX.1
    rw [hR0] at h
    exact h
  have KPl : Hid (∀ w', Below W.heap.size W w' → Calls Tryz.prog 5 #[.agg #[.slice A0 n cap], .slice Ap p.length cp] w' fun e w'' => e = .returned (.int .i64 0) ∧ Below w'.heap.size w' w'') := fun w' hw' => by
    have hX := HC0.out.later hw'
    have h := rplace_any A0 cap n D A C Ap cp p w' hR0 hX.1 hX.2.2.1
    rw [hP0] at h
    exact h
  have KRo : Hid (∀ w', Below W.heap.size W w' → Calls Tryz.prog 6 #[.agg #[.slice A0 n cap], .slice AE xs.length ce, .slice Ap p.length cp] w' fun e w'' => e = .returned (.agg #[.int .i64 (rollV D n (lE xs) p).1, .int .i64 (rollV D n (lE xs) p).2]) ∧ Below w'.heap.size w' w'') := fun w' hw' => by
    have hX := HC0.out.later hw'
    exact rroll_any A0 cap n D A C AE ce xs Ap cp p w' (ens_of hE0) (inO_of (by rw [pe1 hR0]; exact hP0)) hX.1 hX.2.1 hX.2.2.1
  have KRl : Hid (∀ w', Below W.heap.size W w' → Calls Tryz.prog 10 #[.agg #[.slice A0 n cap], .slice Ap p.length cp] w' fun e w'' => (∃ A' c' ys, e = .returned (.slice A' ys.length c') ∧ PlsV w'' A' c' ys ∧ lP ys = lfTo D p n) ∧ Below w'.heap.size w' w'') := fun w' hw' => by
    have hX := HC0.out.later hw'
    exact rrlf_any A0 cap n D A C Ap cp p w' (inO_of (by rw [pe1 hR0]; exact hP0)) hX.1 hX.2.2.1
  have KLe : Hid (∀ w', Below W.heap.size W w' → Calls Tryz.prog 11 #[.agg #[.slice A0 n cap], .slice Ap p.length cp] w' fun e w'' => (∃ A' c' ys, e = .returned (.tuple #[.slice A' ys.length c', .nilIface]) ∧ PlsV w'' A' c' ys ∧ lP ys = lfTo D p n) ∧ Below w'.heap.size w' w'') := fun w' hw' => by
    have hX := HC0.out.later hw'
    exact rlfs_any A0 cap n D A C Ap cp p w' (inO_of (by rw [pe1 hR0]; exact hP0)) hX.1 hX.2.2.1
  have KSp : Hid (∀ (A' B' : Option Addr) (ca cb : Nat) (xa ya : List PL) w', lP xa = lfTo D p n → lP ya = lfTo D p n → PlsV w' A' ca xa → PlsV w' B' cb ya → Calls Tryz.prog 12 #[.slice A' xa.length ca, .slice B' ya.length cb] w' fun e w'' => e = .returned (.bool true) ∧ Below w'.heap.size w' w'') := fun A' B' ca cb xa ya w' h1 h2 h3 h4 => by
    obtain ⟨-, hn4, hp3, hd⟩ := allErr_some hR0
    refine samepls_any A' B' ca cb xa ya w' (h1.trans h2.symm) ?_ (fun x hx => ?_) h3 h4
    · rw [← lP_len, h1]; exact Nat.le_trans (lfTo_len p n) (by omega)
    · have : x.p ∈ lfTo D p n := by rw [← h1]; exact List.mem_map.2 ⟨x, hx, rfl⟩
      rw [lfTo_each p n _ this]; exact hn4
  have KPq : Hid (∀ w', Below W.heap.size W w' → Calls Tryz.prog 5 #[.agg #[.slice A0 n cap], .slice Aq r.length cq] w' fun e w'' => e = .returned (.int .i64 0) ∧ Below w'.heap.size w' w'') := fun w' hw' => by
    have hX := HC0.out.later hw'
    have h := rplace_any A0 cap n D A C Aq cq r w' hR0 hX.1 hX.2.2.2.1
    rw [hQ0] at h
    exact h
  have KPw : Hid (∀ w', Below W.heap.size W w' → Calls Tryz.prog 13 #[.agg #[.slice A0 n cap], .slice Ap p.length cp, .slice Aq r.length cq] w' fun e w'' => e = .returned (.tuple #[.int .i64 (pwTo D p r n), .bool true]) ∧ Below w'.heap.size w' w'') := fun w' hw' => by
    have hX := HC0.out.later hw'
    have h := rpw_any A0 cap n D A C Ap cp p Aq cq r w' (inO_of (by rw [pe1 hR0]; exact hP0)) (inO_of (by rw [pe1 hR0]; exact hQ0)) hX.1 hX.2.2.1 hX.2.2.2.1
    rw [hin] at h
    exact h
  have KLp : Hid (∀ w', Below W.heap.size W w' → Calls Tryz.prog 14 #[.agg #[.slice A0 n cap], .slice Aq r.length cq] w' fun e w'' => e = .returned (.bool false) ∧ Below w'.heap.size w' w'') := fun w' hw' => by
    have hX := HC0.out.later hw'
    have h := rleafplace_any A0 cap n D A C Aq cq r w' (inO_of (by rw [pe1 hR0]; exact hQ0)) hX.1 hX.2.2.2.1
    rw [hlf] at h
    exact h
  have KWe : Hid (∀ w', Below W.heap.size W w' → Calls Tryz.prog 15 #[.agg #[.slice A0 n cap], .slice Ap p.length cp, .slice Aq r.length cq] w' fun e w'' => e = .returned (.tuple #[.int .i64 0, errV 3]) ∧ Below w'.heap.size w' w'') := fun w' hw' => by
    have hX := HC0.out.later hw'
    have hp : placeErr D n p = 0 := by rw [pe1 hR0]; exact hP0
    have hq : placeErr D n r = 0 := by rw [pe1 hR0]; exact hQ0
    have h2 := rw_3 hp hq (by rw [hlf]; simp)
    have h := rwt_any A0 cap n D A C Ap cp p Aq cq r w' hX.1 hX.2.2.1 hX.2.2.2.1
    rw [h2.1, h2.2] at h
    exact h
  generalize pwTo D p r n = PW at KPw
  generalize (rollV D n (lE xs) p).1 = V1 at KVa KRo
  generalize (rollV D n (lE xs) p).2 = V2 at KVa KRo
  generalize xs.length = NX at KEn KVa KRo
  generalize p.length = NP at KVa KPl KRo KLe KRl KPw KWe
  generalize r.length = NR at KPq KPw KLp KWe
  clear hC hB0 hWo hE0 hR0 hP0 hQ0 hin hlf
  go_enter Tryz.func3, Tryz.ntmps3
  have x0 := HBox0.out.2
  go_wp2_with fail
  clear hW
  refine (KEn.out _ (Below.refl _ _)).mono ?_
  rintro e w1 ⟨rfl, hb⟩
  have HB1 : Hid (Below W.heap.size W w1) := onB (Below.refl _ _) hb
  have x1 := (HBox0.out.later HB1.out).2
  clear hb x0
  go_wp2_with fail
  refine (KPl.out _ HB1.out).mono ?_
  rintro e w2 ⟨rfl, hb⟩
  have HB2 : Hid (Below W.heap.size W w2) := onB HB1.out hb
  have x2 := (HBox0.out.later HB2.out).2
  clear hb x1
  obtain ⟨w3, hy3⟩ : ∃ y, w2.alloc (.cells #[.int .i64 0, .int .i64 0] 31) = y := ⟨_, rfl⟩
  have hb : Below w2.heap.size w2 w3 := by rw [← hy3]; go_grown
  have HB3 : Hid (Below W.heap.size W w3) := onB HB2.out hb
  have x3 := (HBox0.out.later HB3.out).2
  have HQ0_3 : Hid (BoxT w3 w2.heap.size 0 0) := by rw [← hy3]; exact BoxT.made ..
  have hz3 : W.heap.size ≤ w2.heap.size := HB2.out.size
  clear hb x2
  go_wp2_with fail
  clear hy3
  refine (KRo.out _ HB3.out).mono ?_
  rintro e w4 ⟨rfl, hb⟩
  have HB4 : Hid (Below W.heap.size W w4) := onB HB3.out hb
  have x4 := (HBox0.out.later HB4.out).2
  have HQ0_4 : Hid (BoxT w4 w2.heap.size 0 0) := HQ0_3.out.later hb
  clear hb x3
  obtain ⟨s0, s1, f0, f1⟩ := HQ0_4.out.at
  obtain ⟨w5, hy5⟩ : ∃ y, (w4.setCell ⟨w2.heap.size, 0, none⟩ (.int .i64 V1)).setCell ⟨w2.heap.size, 1, none⟩ (.int .i64 V2) = y := ⟨_, rfl⟩
  have HB5 : Hid (Below W.heap.size W w5) := by show Below _ _ _; rw [← hy5]; exact (HB4.out.setCell hz3 _).setCell hz3 _
  have HQ0_5 : Hid (BoxT w5 w2.heap.size V1 V2) := by rw [← hy5]; exact HQ0_4.out.set V1 V2
  have x5 := (HBox0.out.later HB5.out).2
  have HY5 : Hid ((w4.setCell ⟨w2.heap.size, 0, none⟩ (.int .i64 V1)).setCell ⟨w2.heap.size, 1, none⟩ (.int .i64 V2) = w5) := hy5
  clear hy5 x4
  have x4 := (HBox0.out.later HB4.out).2
  have hnq : ¬ (w.heap.size = w2.heap.size) := by have := HBox0.out.1; omega
  go_wp2_with fail
  first | rw [HY5.out] | skip
  clear s0 s1 f0 f1 x4
  refine (KVa.out _ HB5.out).mono ?_
  rintro e w6 ⟨rfl, hb⟩
  have HB6 : Hid (Below W.heap.size W w6) := onB HB5.out hb
  have x6 := (HBox0.out.later HB6.out).2
  have HQ0_6 : Hid (BoxT w6 w2.heap.size V1 V2) := HQ0_5.out.later hb
  clear hb x5
  obtain ⟨w7, hy7⟩ : ∃ y, w6.alloc (.cells #[.int .i64 V1, .int .i64 V2] 31) = y := ⟨_, rfl⟩
  have hb : Below w6.heap.size w6 w7 := by rw [← hy7]; go_grown
  have HB7 : Hid (Below W.heap.size W w7) := onB HB6.out hb
  have x7 := (HBox0.out.later HB7.out).2
  have HQ0_7 : Hid (BoxT w7 w2.heap.size V1 V2) := HQ0_6.out.later hb
  have HQ1_7 : Hid (BoxT w7 w6.heap.size V1 V2) := by rw [← hy7]; exact BoxT.made ..
  have hz7 : W.heap.size ≤ w6.heap.size := HB6.out.size
  clear hb x6
  go_wp2_with fail
  clear hy7
  refine (KSa.out 0 _ HB7.out).mono ?_
  rintro e w8 ⟨rfl, hb⟩
  have HB8 : Hid (Below W.heap.size W w8) := onB HB7.out hb
  have x8 := (HBox0.out.later HB8.out).2
  have HQ0_8 : Hid (BoxT w8 w2.heap.size V1 V2) := HQ0_7.out.later hb
  have HQ1_8 : Hid (BoxT w8 w6.heap.size V1 V2) := HQ1_7.out.later hb
  clear hb x7
  go_wp2_with fail
  refine (KRi.out _ HB8.out).mono ?_
  rintro e w9 ⟨rfl, hb⟩
  have HB9 : Hid (Below W.heap.size W w9) := onB HB8.out hb
  have x9 := (HBox0.out.later HB9.out).2
  have HQ0_9 : Hid (BoxT w9 w2.heap.size V1 V2) := HQ0_8.out.later hb
  have HQ1_9 : Hid (BoxT w9 w6.heap.size V1 V2) := HQ1_8.out.later hb
  clear hb x8
  go_wp2_with fail
  refine (KPl.out _ HB9.out).mono ?_
  rintro e w10 ⟨rfl, hb⟩
  have HB10 : Hid (Below W.heap.size W w10) := onB HB9.out hb
  have x10 := (HBox0.out.later HB10.out).2
  have HQ0_10 : Hid (BoxT w10 w2.heap.size V1 V2) := HQ0_9.out.later hb
  have HQ1_10 : Hid (BoxT w10 w6.heap.size V1 V2) := HQ1_9.out.later hb
  clear hb x9
  go_wp2_with fail
  refine (KRl.out _ HB10.out).mono ?_
  rintro e w11 ⟨⟨AR, cR, yR, rfl, hPR, hLR⟩, hb⟩
  have HB11 : Hid (Below W.heap.size W w11) := onB HB10.out hb
  have x11 := (HBox0.out.later HB11.out).2
  have HQ0_11 : Hid (BoxT w11 w2.heap.size V1 V2) := HQ0_10.out.later hb
  have HQ1_11 : Hid (BoxT w11 w6.heap.size V1 V2) := HQ1_10.out.later hb
  have HL0_11 : Hid (PlsV w11 AR cR yR) := hPR
  have HLR : Hid (lP yR = lfTo D p n) := hLR
  clear hPR hLR
  clear hb x10
  go_wp2_with fail
  refine (KLe.out _ HB11.out).mono ?_
  rintro e w12 ⟨⟨AL, cL, yL, rfl, hPL, hLL⟩, hb⟩
  have HB12 : Hid (Below W.heap.size W w12) := onB HB11.out hb
  have x12 := (HBox0.out.later HB12.out).2
  have HQ0_12 : Hid (BoxT w12 w2.heap.size V1 V2) := HQ0_11.out.later hb
  have HQ1_12 : Hid (BoxT w12 w6.heap.size V1 V2) := HQ1_11.out.later hb
  have HL0_12 : Hid (PlsV w12 AR cR yR) := HL0_11.out.later hb
  have HL1_12 : Hid (PlsV w12 AL cL yL) := hPL
  have HLL : Hid (lP yL = lfTo D p n) := hLL
  clear hPL hLL
  clear hb x11
  go_wp2_with fail
  refine (KSa.out 0 _ HB12.out).mono ?_
  rintro e w13 ⟨rfl, hb⟩
  have HB13 : Hid (Below W.heap.size W w13) := onB HB12.out hb
  have x13 := (HBox0.out.later HB13.out).2
  have HQ0_13 : Hid (BoxT w13 w2.heap.size V1 V2) := HQ0_12.out.later hb
  have HQ1_13 : Hid (BoxT w13 w6.heap.size V1 V2) := HQ1_12.out.later hb
  have HL0_13 : Hid (PlsV w13 AR cR yR) := HL0_12.out.later hb
  have HL1_13 : Hid (PlsV w13 AL cL yL) := HL1_12.out.later hb
  clear hb x12
  go_wp2_with fail
  refine (KSp.out AL AR cL cR yL yR _ HLL.out HLR.out HL1_13.out HL0_13.out).mono ?_
  rintro e w14 ⟨rfl, hb⟩
  have HB14 : Hid (Below W.heap.size W w14) := onB HB13.out hb
  have x14 := (HBox0.out.later HB14.out).2
  have HQ0_14 : Hid (BoxT w14 w2.heap.size V1 V2) := HQ0_13.out.later hb
  have HQ1_14 : Hid (BoxT w14 w6.heap.size V1 V2) := HQ1_13.out.later hb
  have HL0_14 : Hid (PlsV w14 AR cR yR) := HL0_13.out.later hb
  have HL1_14 : Hid (PlsV w14 AL cL yL) := HL1_13.out.later hb
  clear hb x13
  go_wp2_with fail
  refine (KPq.out _ HB14.out).mono ?_
  rintro e w15 ⟨rfl, hb⟩
  have HB15 : Hid (Below W.heap.size W w15) := onB HB14.out hb
  have x15 := (HBox0.out.later HB15.out).2
  have HQ0_15 : Hid (BoxT w15 w2.heap.size V1 V2) := HQ0_14.out.later hb
  have HQ1_15 : Hid (BoxT w15 w6.heap.size V1 V2) := HQ1_14.out.later hb
  clear hb x14
  go_wp2_with fail
  refine (KPw.out _ HB15.out).mono ?_
  rintro e w16 ⟨rfl, hb⟩
  have HB16 : Hid (Below W.heap.size W w16) := onB HB15.out hb
  have x16 := (HBox0.out.later HB16.out).2
  have HQ0_16 : Hid (BoxT w16 w2.heap.size V1 V2) := HQ0_15.out.later hb
  have HQ1_16 : Hid (BoxT w16 w6.heap.size V1 V2) := HQ1_15.out.later hb
  clear hb x15
  go_wp2_with fail
  refine (KLp.out _ HB16.out).mono ?_
  rintro e w17 ⟨rfl, hb⟩
  have HB17 : Hid (Below W.heap.size W w17) := onB HB16.out hb
  have x17 := (HBox0.out.later HB17.out).2
  have HQ0_17 : Hid (BoxT w17 w2.heap.size V1 V2) := HQ0_16.out.later hb
  have HQ1_17 : Hid (BoxT w17 w6.heap.size V1 V2) := HQ1_16.out.later hb
  clear hb x16
  go_wp2_with fail
  refine (KWe.out _ HB17.out).mono ?_
  rintro e w18 ⟨rfl, hb⟩
  have HB18 : Hid (Below W.heap.size W w18) := onB HB17.out hb
  have x18 := (HBox0.out.later HB18.out).2
  have HQ0_18 : Hid (BoxT w18 w2.heap.size V1 V2) := HQ0_17.out.later hb
  have HQ1_18 : Hid (BoxT w18 w6.heap.size V1 V2) := HQ1_17.out.later hb
  clear hb x17
  go_wp2_with fail
  refine (KSa.out 3 _ HB18.out).mono ?_
  rintro e w19 ⟨rfl, hb⟩
  have HB19 : Hid (Below W.heap.size W w19) := onB HB18.out hb
  have x19 := (HBox0.out.later HB19.out).2
  have HQ0_19 : Hid (BoxT w19 w2.heap.size V1 V2) := HQ0_18.out.later hb
  have HQ1_19 : Hid (BoxT w19 w6.heap.size V1 V2) := HQ1_18.out.later hb
  clear hb x18
  obtain ⟨a0, a1, -, -⟩ := HQ0_19.out.at
  obtain ⟨b0, b1, -, -⟩ := HQ1_19.out.at
  go_wp2_with fail
  first | (go_quiet (fail); go_wp2_with fail) | skip
  go_ret
  exact ⟨by simp, by first | exact onB HB00.out HB19.out | exact below_drewN (onB HB00.out HB19.out) _⟩

set_option maxHeartbeats 16000000 in
theorem rt_3Y (A0 : Option Addr) (cap n : Nat) (D : Nat → Dm) (A : Nat → Option Addr) (C : Nat → Nat) (AE : Option Addr) (ce : Nat) (xs : List EnL) (Ap : Option Addr) (cp : Nat) (p : List Int) (Aq : Option Addr) (cq : Nat) (r : List Int) (w : World) (hE0 : entsErr D n (lE xs) = 0) (hR0 : (allErr D n).2.2 = 0) (hP0 : shapeErr D n p = 0) (hQ0 : shapeErr D n r = 0) (hin : inTo D p r n = true) (hlf : leafV D n r = true) (hC : CtxT A0 cap n D A C AE ce xs Ap cp p Aq cq r w) :
    Calls Tryz.prog 3 #[.agg #[.slice A0 n cap], .slice AE xs.length ce, .slice Ap p.length cp, .slice Aq r.length cq] w fun e w' => e = .returned (.bool true) ∧ Below w.heap.size w w' := by
  have hB0 := ownOut_below w A0 n cap 24
  have HC0 : Hid (CtxT A0 cap n D A C AE ce xs Ap cp p Aq cq r (ownOut w A0 n cap 24)) := hC.later hB0
  have HB00 : Hid (Below w.heap.size w (ownOut w A0 n cap 24)) := hB0
  have HBox0 : Hid (BoxO (ownOut w A0 n cap 24) w.heap.size (.slice A0 n cap)) := ⟨by rw [ownOut_size]; omega, ownOut_at ..⟩
  obtain ⟨W, hW⟩ : ∃ W, w.alloc (.cells #[.slice A0 n cap] 24) = W := ⟨_, rfl⟩
  have hWo : ownOut w A0 n cap 24 = W := hW
  rw [hWo] at HC0 HB00 HBox0
  have KEn : Hid (∀ w', Below W.heap.size W w' → Calls Tryz.prog 4 #[.agg #[.slice A0 n cap], .slice AE xs.length ce] w' fun e w'' => e = .returned (.int .i64 0) ∧ Below w'.heap.size w' w'') := fun w' hw' => by
    have hX := HC0.out.later hw'
    have h := rentries_any A0 cap n D A C AE ce xs w' hX.1 hX.2.1
    rw [hE0] at h
    exact h
  have KVa : Hid (∀ w', Below W.heap.size W w' → Calls Tryz.prog 7 #[.agg #[.slice A0 n cap], .slice AE xs.length ce, .slice Ap p.length cp] w' fun e w'' => e = .returned (.tuple #[.agg #[.int .i64 (rollV D n (lE xs) p).1, .int .i64 (rollV D n (lE xs) p).2], errV 0]) ∧ Below w'.heap.size w' w'') := fun w' hw' => by
    have hX := HC0.out.later hw'
    have hv : rvErr D n (lE xs) p = 0 := by rw [rvErr_place hE0, pe1 hR0]; exact hP0
    have hw : rvV D n (lE xs) p = rollV D n (lE xs) p := rvV_ok hv
    have h := rval_any A0 cap n D A C AE ce xs Ap cp p w' hX.1 hX.2.1 hX.2.2.1
    rw [hv, hw] at h
    exact h
  have KSa : Hid (∀ (c : Int) w', Below W.heap.size W w' → Calls Tryz.prog 8 #[errV c, .int .i64 c] w' fun e w'' => e = .returned (.bool true) ∧ Below w'.heap.size w' w'') := fun c w' hw' => by
    have hX := HC0.out.later hw'
    exact same_err c w' hX.2.2.2.2
  have KRi : Hid (∀ w', Below W.heap.size W w' → Calls Tryz.prog 9 #[.agg #[.slice A0 n cap]] w' fun e w'' => e = .returned (.int .i64 0) ∧ Below w'.heap.size w' w'') := fun w' hw' => by
    have hX := HC0.out.later hw'
    have h := rright_any A0 cap n D A C w' hX.1
    rw [hR0] at h
    exact h
  have KPl : Hid (∀ w', Below W.heap.size W w' → Calls Tryz.prog 5 #[.agg #[.slice A0 n cap], .slice Ap p.length cp] w' fun e w'' => e = .returned (.int .i64 0) ∧ Below w'.heap.size w' w'') := fun w' hw' => by
    have hX := HC0.out.later hw'
    have h := rplace_any A0 cap n D A C Ap cp p w' hR0 hX.1 hX.2.2.1
    rw [hP0] at h
    exact h
  have KRo : Hid (∀ w', Below W.heap.size W w' → Calls Tryz.prog 6 #[.agg #[.slice A0 n cap], .slice AE xs.length ce, .slice Ap p.length cp] w' fun e w'' => e = .returned (.agg #[.int .i64 (rollV D n (lE xs) p).1, .int .i64 (rollV D n (lE xs) p).2]) ∧ Below w'.heap.size w' w'') := fun w' hw' => by
    have hX := HC0.out.later hw'
    exact rroll_any A0 cap n D A C AE ce xs Ap cp p w' (ens_of hE0) (inO_of (by rw [pe1 hR0]; exact hP0)) hX.1 hX.2.1 hX.2.2.1
  have KRl : Hid (∀ w', Below W.heap.size W w' → Calls Tryz.prog 10 #[.agg #[.slice A0 n cap], .slice Ap p.length cp] w' fun e w'' => (∃ A' c' ys, e = .returned (.slice A' ys.length c') ∧ PlsV w'' A' c' ys ∧ lP ys = lfTo D p n) ∧ Below w'.heap.size w' w'') := fun w' hw' => by
    have hX := HC0.out.later hw'
    exact rrlf_any A0 cap n D A C Ap cp p w' (inO_of (by rw [pe1 hR0]; exact hP0)) hX.1 hX.2.2.1
  have KLe : Hid (∀ w', Below W.heap.size W w' → Calls Tryz.prog 11 #[.agg #[.slice A0 n cap], .slice Ap p.length cp] w' fun e w'' => (∃ A' c' ys, e = .returned (.tuple #[.slice A' ys.length c', .nilIface]) ∧ PlsV w'' A' c' ys ∧ lP ys = lfTo D p n) ∧ Below w'.heap.size w' w'') := fun w' hw' => by
    have hX := HC0.out.later hw'
    exact rlfs_any A0 cap n D A C Ap cp p w' (inO_of (by rw [pe1 hR0]; exact hP0)) hX.1 hX.2.2.1
  have KSp : Hid (∀ (A' B' : Option Addr) (ca cb : Nat) (xa ya : List PL) w', lP xa = lfTo D p n → lP ya = lfTo D p n → PlsV w' A' ca xa → PlsV w' B' cb ya → Calls Tryz.prog 12 #[.slice A' xa.length ca, .slice B' ya.length cb] w' fun e w'' => e = .returned (.bool true) ∧ Below w'.heap.size w' w'') := fun A' B' ca cb xa ya w' h1 h2 h3 h4 => by
    obtain ⟨-, hn4, hp3, hd⟩ := allErr_some hR0
    refine samepls_any A' B' ca cb xa ya w' (h1.trans h2.symm) ?_ (fun x hx => ?_) h3 h4
    · rw [← lP_len, h1]; exact Nat.le_trans (lfTo_len p n) (by omega)
    · have : x.p ∈ lfTo D p n := by rw [← h1]; exact List.mem_map.2 ⟨x, hx, rfl⟩
      rw [lfTo_each p n _ this]; exact hn4
  have KPq : Hid (∀ w', Below W.heap.size W w' → Calls Tryz.prog 5 #[.agg #[.slice A0 n cap], .slice Aq r.length cq] w' fun e w'' => e = .returned (.int .i64 0) ∧ Below w'.heap.size w' w'') := fun w' hw' => by
    have hX := HC0.out.later hw'
    have h := rplace_any A0 cap n D A C Aq cq r w' hR0 hX.1 hX.2.2.2.1
    rw [hQ0] at h
    exact h
  have KPw : Hid (∀ w', Below W.heap.size W w' → Calls Tryz.prog 13 #[.agg #[.slice A0 n cap], .slice Ap p.length cp, .slice Aq r.length cq] w' fun e w'' => e = .returned (.tuple #[.int .i64 (pwTo D p r n), .bool true]) ∧ Below w'.heap.size w' w'') := fun w' hw' => by
    have hX := HC0.out.later hw'
    have h := rpw_any A0 cap n D A C Ap cp p Aq cq r w' (inO_of (by rw [pe1 hR0]; exact hP0)) (inO_of (by rw [pe1 hR0]; exact hQ0)) hX.1 hX.2.2.1 hX.2.2.2.1
    rw [hin] at h
    exact h
  have KLp : Hid (∀ w', Below W.heap.size W w' → Calls Tryz.prog 14 #[.agg #[.slice A0 n cap], .slice Aq r.length cq] w' fun e w'' => e = .returned (.bool true) ∧ Below w'.heap.size w' w'') := fun w' hw' => by
    have hX := HC0.out.later hw'
    have h := rleafplace_any A0 cap n D A C Aq cq r w' (inO_of (by rw [pe1 hR0]; exact hQ0)) hX.1 hX.2.2.2.1
    rw [hlf] at h
    exact h
  have KWe : Hid (∀ w', Below W.heap.size W w' → Calls Tryz.prog 15 #[.agg #[.slice A0 n cap], .slice Ap p.length cp, .slice Aq r.length cq] w' fun e w'' => e = .returned (.tuple #[.int .i64 (pwTo D p r n), errV 0]) ∧ Below w'.heap.size w' w'') := fun w' hw' => by
    have hX := HC0.out.later hw'
    have hp : placeErr D n p = 0 := by rw [pe1 hR0]; exact hP0
    have hq : placeErr D n r = 0 := by rw [pe1 hR0]; exact hQ0
    have h2 := rw_0 hp hq (by rw [hlf, hin]; simp)
    have h := rwt_any A0 cap n D A C Ap cp p Aq cq r w' hX.1 hX.2.2.1 hX.2.2.2.1
    rw [h2.1, h2.2] at h
    exact h
  generalize pwTo D p r n = PW at KPw KWe
  generalize (rollV D n (lE xs) p).1 = V1 at KVa KRo
  generalize (rollV D n (lE xs) p).2 = V2 at KVa KRo
  generalize xs.length = NX at KEn KVa KRo
  generalize p.length = NP at KVa KPl KRo KLe KRl KPw KWe
  generalize r.length = NR at KPq KPw KLp KWe
  clear hC hB0 hWo hE0 hR0 hP0 hQ0 hin hlf
  go_enter Tryz.func3, Tryz.ntmps3
  have x0 := HBox0.out.2
  go_wp2_with fail
  clear hW
  refine (KEn.out _ (Below.refl _ _)).mono ?_
  rintro e w1 ⟨rfl, hb⟩
  have HB1 : Hid (Below W.heap.size W w1) := onB (Below.refl _ _) hb
  have x1 := (HBox0.out.later HB1.out).2
  clear hb x0
  go_wp2_with fail
  refine (KPl.out _ HB1.out).mono ?_
  rintro e w2 ⟨rfl, hb⟩
  have HB2 : Hid (Below W.heap.size W w2) := onB HB1.out hb
  have x2 := (HBox0.out.later HB2.out).2
  clear hb x1
  obtain ⟨w3, hy3⟩ : ∃ y, w2.alloc (.cells #[.int .i64 0, .int .i64 0] 31) = y := ⟨_, rfl⟩
  have hb : Below w2.heap.size w2 w3 := by rw [← hy3]; go_grown
  have HB3 : Hid (Below W.heap.size W w3) := onB HB2.out hb
  have x3 := (HBox0.out.later HB3.out).2
  have HQ0_3 : Hid (BoxT w3 w2.heap.size 0 0) := by rw [← hy3]; exact BoxT.made ..
  have hz3 : W.heap.size ≤ w2.heap.size := HB2.out.size
  clear hb x2
  go_wp2_with fail
  clear hy3
  refine (KRo.out _ HB3.out).mono ?_
  rintro e w4 ⟨rfl, hb⟩
  have HB4 : Hid (Below W.heap.size W w4) := onB HB3.out hb
  have x4 := (HBox0.out.later HB4.out).2
  have HQ0_4 : Hid (BoxT w4 w2.heap.size 0 0) := HQ0_3.out.later hb
  clear hb x3
  obtain ⟨s0, s1, f0, f1⟩ := HQ0_4.out.at
  obtain ⟨w5, hy5⟩ : ∃ y, (w4.setCell ⟨w2.heap.size, 0, none⟩ (.int .i64 V1)).setCell ⟨w2.heap.size, 1, none⟩ (.int .i64 V2) = y := ⟨_, rfl⟩
  have HB5 : Hid (Below W.heap.size W w5) := by show Below _ _ _; rw [← hy5]; exact (HB4.out.setCell hz3 _).setCell hz3 _
  have HQ0_5 : Hid (BoxT w5 w2.heap.size V1 V2) := by rw [← hy5]; exact HQ0_4.out.set V1 V2
  have x5 := (HBox0.out.later HB5.out).2
  have HY5 : Hid ((w4.setCell ⟨w2.heap.size, 0, none⟩ (.int .i64 V1)).setCell ⟨w2.heap.size, 1, none⟩ (.int .i64 V2) = w5) := hy5
  clear hy5 x4
  have x4 := (HBox0.out.later HB4.out).2
  have hnq : ¬ (w.heap.size = w2.heap.size) := by have := HBox0.out.1; omega
  go_wp2_with fail
  first | rw [HY5.out] | skip
  clear s0 s1 f0 f1 x4
  refine (KVa.out _ HB5.out).mono ?_
  rintro e w6 ⟨rfl, hb⟩
  have HB6 : Hid (Below W.heap.size W w6) := onB HB5.out hb
  have x6 := (HBox0.out.later HB6.out).2
  have HQ0_6 : Hid (BoxT w6 w2.heap.size V1 V2) := HQ0_5.out.later hb
  clear hb x5
  obtain ⟨w7, hy7⟩ : ∃ y, w6.alloc (.cells #[.int .i64 V1, .int .i64 V2] 31) = y := ⟨_, rfl⟩
  have hb : Below w6.heap.size w6 w7 := by rw [← hy7]; go_grown
  have HB7 : Hid (Below W.heap.size W w7) := onB HB6.out hb
  have x7 := (HBox0.out.later HB7.out).2
  have HQ0_7 : Hid (BoxT w7 w2.heap.size V1 V2) := HQ0_6.out.later hb
  have HQ1_7 : Hid (BoxT w7 w6.heap.size V1 V2) := by rw [← hy7]; exact BoxT.made ..
  have hz7 : W.heap.size ≤ w6.heap.size := HB6.out.size
  clear hb x6
  go_wp2_with fail
  clear hy7
  refine (KSa.out 0 _ HB7.out).mono ?_
  rintro e w8 ⟨rfl, hb⟩
  have HB8 : Hid (Below W.heap.size W w8) := onB HB7.out hb
  have x8 := (HBox0.out.later HB8.out).2
  have HQ0_8 : Hid (BoxT w8 w2.heap.size V1 V2) := HQ0_7.out.later hb
  have HQ1_8 : Hid (BoxT w8 w6.heap.size V1 V2) := HQ1_7.out.later hb
  clear hb x7
  go_wp2_with fail
  refine (KRi.out _ HB8.out).mono ?_
  rintro e w9 ⟨rfl, hb⟩
  have HB9 : Hid (Below W.heap.size W w9) := onB HB8.out hb
  have x9 := (HBox0.out.later HB9.out).2
  have HQ0_9 : Hid (BoxT w9 w2.heap.size V1 V2) := HQ0_8.out.later hb
  have HQ1_9 : Hid (BoxT w9 w6.heap.size V1 V2) := HQ1_8.out.later hb
  clear hb x8
  go_wp2_with fail
  refine (KPl.out _ HB9.out).mono ?_
  rintro e w10 ⟨rfl, hb⟩
  have HB10 : Hid (Below W.heap.size W w10) := onB HB9.out hb
  have x10 := (HBox0.out.later HB10.out).2
  have HQ0_10 : Hid (BoxT w10 w2.heap.size V1 V2) := HQ0_9.out.later hb
  have HQ1_10 : Hid (BoxT w10 w6.heap.size V1 V2) := HQ1_9.out.later hb
  clear hb x9
  go_wp2_with fail
  refine (KRl.out _ HB10.out).mono ?_
  rintro e w11 ⟨⟨AR, cR, yR, rfl, hPR, hLR⟩, hb⟩
  have HB11 : Hid (Below W.heap.size W w11) := onB HB10.out hb
  have x11 := (HBox0.out.later HB11.out).2
  have HQ0_11 : Hid (BoxT w11 w2.heap.size V1 V2) := HQ0_10.out.later hb
  have HQ1_11 : Hid (BoxT w11 w6.heap.size V1 V2) := HQ1_10.out.later hb
  have HL0_11 : Hid (PlsV w11 AR cR yR) := hPR
  have HLR : Hid (lP yR = lfTo D p n) := hLR
  clear hPR hLR
  clear hb x10
  go_wp2_with fail
  refine (KLe.out _ HB11.out).mono ?_
  rintro e w12 ⟨⟨AL, cL, yL, rfl, hPL, hLL⟩, hb⟩
  have HB12 : Hid (Below W.heap.size W w12) := onB HB11.out hb
  have x12 := (HBox0.out.later HB12.out).2
  have HQ0_12 : Hid (BoxT w12 w2.heap.size V1 V2) := HQ0_11.out.later hb
  have HQ1_12 : Hid (BoxT w12 w6.heap.size V1 V2) := HQ1_11.out.later hb
  have HL0_12 : Hid (PlsV w12 AR cR yR) := HL0_11.out.later hb
  have HL1_12 : Hid (PlsV w12 AL cL yL) := hPL
  have HLL : Hid (lP yL = lfTo D p n) := hLL
  clear hPL hLL
  clear hb x11
  go_wp2_with fail
  refine (KSa.out 0 _ HB12.out).mono ?_
  rintro e w13 ⟨rfl, hb⟩
  have HB13 : Hid (Below W.heap.size W w13) := onB HB12.out hb
  have x13 := (HBox0.out.later HB13.out).2
  have HQ0_13 : Hid (BoxT w13 w2.heap.size V1 V2) := HQ0_12.out.later hb
  have HQ1_13 : Hid (BoxT w13 w6.heap.size V1 V2) := HQ1_12.out.later hb
  have HL0_13 : Hid (PlsV w13 AR cR yR) := HL0_12.out.later hb
  have HL1_13 : Hid (PlsV w13 AL cL yL) := HL1_12.out.later hb
  clear hb x12
  go_wp2_with fail
  refine (KSp.out AL AR cL cR yL yR _ HLL.out HLR.out HL1_13.out HL0_13.out).mono ?_
  rintro e w14 ⟨rfl, hb⟩
  have HB14 : Hid (Below W.heap.size W w14) := onB HB13.out hb
  have x14 := (HBox0.out.later HB14.out).2
  have HQ0_14 : Hid (BoxT w14 w2.heap.size V1 V2) := HQ0_13.out.later hb
  have HQ1_14 : Hid (BoxT w14 w6.heap.size V1 V2) := HQ1_13.out.later hb
  have HL0_14 : Hid (PlsV w14 AR cR yR) := HL0_13.out.later hb
  have HL1_14 : Hid (PlsV w14 AL cL yL) := HL1_13.out.later hb
  clear hb x13
  go_wp2_with fail
  refine (KPq.out _ HB14.out).mono ?_
  rintro e w15 ⟨rfl, hb⟩
  have HB15 : Hid (Below W.heap.size W w15) := onB HB14.out hb
  have x15 := (HBox0.out.later HB15.out).2
  have HQ0_15 : Hid (BoxT w15 w2.heap.size V1 V2) := HQ0_14.out.later hb
  have HQ1_15 : Hid (BoxT w15 w6.heap.size V1 V2) := HQ1_14.out.later hb
  clear hb x14
  go_wp2_with fail
  refine (KPw.out _ HB15.out).mono ?_
  rintro e w16 ⟨rfl, hb⟩
  have HB16 : Hid (Below W.heap.size W w16) := onB HB15.out hb
  have x16 := (HBox0.out.later HB16.out).2
  have HQ0_16 : Hid (BoxT w16 w2.heap.size V1 V2) := HQ0_15.out.later hb
  have HQ1_16 : Hid (BoxT w16 w6.heap.size V1 V2) := HQ1_15.out.later hb
  clear hb x15
  go_wp2_with fail
  refine (KLp.out _ HB16.out).mono ?_
  rintro e w17 ⟨rfl, hb⟩
  have HB17 : Hid (Below W.heap.size W w17) := onB HB16.out hb
  have x17 := (HBox0.out.later HB17.out).2
  have HQ0_17 : Hid (BoxT w17 w2.heap.size V1 V2) := HQ0_16.out.later hb
  have HQ1_17 : Hid (BoxT w17 w6.heap.size V1 V2) := HQ1_16.out.later hb
  clear hb x16
  go_wp2_with fail
  refine (KWe.out _ HB17.out).mono ?_
  rintro e w18 ⟨rfl, hb⟩
  have HB18 : Hid (Below W.heap.size W w18) := onB HB17.out hb
  have x18 := (HBox0.out.later HB18.out).2
  have HQ0_18 : Hid (BoxT w18 w2.heap.size V1 V2) := HQ0_17.out.later hb
  have HQ1_18 : Hid (BoxT w18 w6.heap.size V1 V2) := HQ1_17.out.later hb
  clear hb x17
  go_wp2_with fail
  refine (KSa.out 0 _ HB18.out).mono ?_
  rintro e w19 ⟨rfl, hb⟩
  have HB19 : Hid (Below W.heap.size W w19) := onB HB18.out hb
  have x19 := (HBox0.out.later HB19.out).2
  have HQ0_19 : Hid (BoxT w19 w2.heap.size V1 V2) := HQ0_18.out.later hb
  have HQ1_19 : Hid (BoxT w19 w6.heap.size V1 V2) := HQ1_18.out.later hb
  clear hb x18
  obtain ⟨a0, a1, -, -⟩ := HQ0_19.out.at
  obtain ⟨b0, b1, -, -⟩ := HQ1_19.out.at
  go_wp2_with fail
  first | (go_quiet (fail); go_wp2_with fail) | skip
  go_ret
  exact ⟨by simp, by first | exact onB HB00.out HB19.out | exact below_drewN (onB HB00.out HB19.out) _⟩
end Go.Proofs.YtmjcnlpjnbcfjacGreatDoor

namespace Go.Proofs.YtmjcnlpjnbcfjacGreatDoor
open Go Go.ChangeShapes Go.WideShapes Go.ChangeAt Go.RowKit

theorem rtells_any (A0 : Option Addr) (cap n : Nat) (D : Nat → Dm) (A : Nat → Option Addr) (C : Nat → Nat) (AE : Option Addr) (ce : Nat) (xs : List EnL) (Ap : Option Addr) (cp : Nat) (p : List Int) (Aq : Option Addr) (cq : Nat) (r : List Int) (w : World) (hC : CtxT A0 cap n D A C AE ce xs Ap cp p Aq cq r w) :
    Calls Tryz.prog 3 #[.agg #[.slice A0 n cap], .slice AE xs.length ce, .slice Ap p.length cp, .slice Aq r.length cq] w fun e w' => e = .returned (.bool true) ∧ Below w.heap.size w w' := by
  by_cases hR : (allErr D n).2.2 = 0
  · by_cases hE : entsErr D n (lE xs) = 0
    · by_cases hP : shapeErr D n p = 0
      · by_cases hQ : shapeErr D n r = 0
        · cases hin : inTo D p r n
          · exact rt_3N A0 cap n D A C AE ce xs Ap cp p Aq cq r w hE hR hP hQ hin hC
          · cases hlf : leafV D n r
            · exact rt_3M A0 cap n D A C AE ce xs Ap cp p Aq cq r w hE hR hP hQ hin hlf hC
            · exact rt_3Y A0 cap n D A C AE ce xs Ap cp p Aq cq r w hE hR hP hQ hin hlf hC
        · exact rt_3Q A0 cap n D A C AE ce xs Ap cp p Aq cq r w hE hR hP hQ hC
      · exact rt_2P A0 cap n D A C AE ce xs Ap cp p Aq cq r w hE hR hP hC
    · by_cases hP : shapeErr D n p = 0
      · by_cases hQ : shapeErr D n r = 0
        · cases hin : inTo D p r n
          · exact rt_1N A0 cap n D A C AE ce xs Ap cp p Aq cq r w hE hR hP hQ hin hC
          · cases hlf : leafV D n r
            · exact rt_1M A0 cap n D A C AE ce xs Ap cp p Aq cq r w hE hR hP hQ hin hlf hC
            · exact rt_1Y A0 cap n D A C AE ce xs Ap cp p Aq cq r w hE hR hP hQ hin hlf hC
        · exact rt_1Q A0 cap n D A C AE ce xs Ap cp p Aq cq r w hE hR hP hQ hC
      · exact rt_1P A0 cap n D A C AE ce xs Ap cp p Aq cq r w hE hR hP hC
  · have hE : entsErr D n (lE xs) ≠ 0 := by unfold entsErr; rw [if_pos hR]; exact hR
    exact rt_1R A0 cap n D A C AE ce xs Ap cp p Aq cq r w hE hR hC
end Go.Proofs.YtmjcnlpjnbcfjacGreatDoor
