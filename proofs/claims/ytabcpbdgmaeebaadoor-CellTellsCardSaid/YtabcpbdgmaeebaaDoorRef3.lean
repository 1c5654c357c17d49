/-
  The document's own quotient of cells that are right (tallyref1.Over) comes to the same as the program's.
-/
import Derived.Test.YtabcpbdgmaeebaaDoorRef2
import Derived.WalkSmall
namespace Go.Proofs.YtabcpbdgmaeebaaDoor
open Go.ChangeShapes Go.WideShapes Go.ChangeAt Go.RowKit

theorem tdiv_ab (x y : Int) : x.tdiv y = if (decide (x < 0) != decide (y < 0)) = true then -(ab x / ab y) else ab x / ab y := by
  unfold ab
  by_cases hx : x < 0 <;> by_cases h : y < 0
  · rw [if_neg (by simp [hx, h]), if_pos hx, if_pos h]
    rw [← Int.tdiv_eq_ediv_of_nonneg (by omega), Int.neg_tdiv, Int.tdiv_neg, Int.neg_neg]
  · rw [if_pos (by simp [hx, h]), if_pos hx, if_neg h]
    rw [← Int.tdiv_eq_ediv_of_nonneg (by omega), Int.neg_tdiv, Int.neg_neg]
  · rw [if_pos (by simp [hx, h]), if_neg hx, if_pos h]
    rw [← Int.tdiv_eq_ediv_of_nonneg (by omega), Int.tdiv_neg, Int.neg_neg]
  · rw [if_neg (by simp [hx, h]), if_neg hx, if_neg h]
    rw [← Int.tdiv_eq_ediv_of_nonneg (by omega)]

theorem rover_zero (ka na kb : Int) (w : World) (q1 : (ka == 2) = false) (q2 : (kb == 2) = false) (q3 : (ka == 0) = false) (q4 : (kb == 0) = false) :
    Calls Tryd.prog 12 #[.agg #[.int .i64 ka, .int .i64 na], .agg #[.int .i64 kb, .int .i64 0]] w fun e w' => e = .returned (.agg #[.int .i64 2, .int .i64 0]) ∧ Below w.heap.size w w' := by
  go_enter Tryd.func12, Tryd.ntmps12
  go_wp2
  go_returns
  exact ⟨rfl, by go_grown⟩

set_option maxHeartbeats 1000000 in
theorem rover_made (ka na kb nb : Int) (w : World) (q1 : (ka == 2) = false) (q2 : (kb == 2) = false) (q3 : (ka == 0) = false) (q4 : (kb == 0) = false) (a1 : -1000000000000 ≤ na) (a2 : na ≤ 1000000000000) (b1 : -1000000000000 ≤ nb) (b2 : nb ≤ 1000000000000) (h0 : (nb == 0) = false) (hy : ¬ nb = 0) :
    Calls Tryd.prog 12 #[.agg #[.int .i64 ka, .int .i64 na], .agg #[.int .i64 kb, .int .i64 nb]] w fun e w' => e = .returned (.agg #[.int .i64 (ofP (na.tdiv nb)).1, .int .i64 (ofP (na.tdiv nb)).2]) ∧ Below w.heap.size w w' := by
  obtain ⟨ax0, ax1⟩ := ab_in a1 a2
  obtain ⟨_, ay1⟩ := ab_in b1 b2
  have ay0 := ab_pos hy
  have hsx := rsize_any na
  have hsy := rsize_any nb
  have hq0 : 0 ≤ ab na / ab nb := Int.ediv_nonneg ax0 (by omega)
  have hq1 : ab na / ab nb ≤ 1000000000000 := Int.le_trans (Int.ediv_le_self _ ax0) ax1
  rw [tdiv_ab]
  by_cases hsg : (decide (na < 0) != decide (nb < 0)) = true
  · rw [if_pos hsg]
    have hs1 : (decide (na < 0) == decide (nb < 0)) = false := by simpa using hsg
    clear hsg
    have ho := rof_any (-(ab na / ab nb))
    go_enter Tryd.func12, Tryd.ntmps12
    go_wp2_with fail
    go_quiet (first | (go_at_call_of 25 na; exact Calls.quiet_of_same (hsx _ a1 a2)) | (go_at_call_of 25 nb; exact Calls.quiet_of_same (hsy _ b1 b2)))
    go_wp2_with fail
    refine (ho _).mono ?_
    rintro e w1 ⟨rfl, hb⟩
    have hB : Below w.heap.size w w1 := Below.trans (below_drewN (by go_grown) _) (hb.mono (by show _ ≤ (World.alloc _ _).heap.size; simp; omega))
    obtain ⟨hc, hf⟩ := bcell hb
    have hz := bsize hb
    simp at hz
    go_wp2_with fail
    refine bodyPost_ret (v := .agg #[.int .i64 (ofP (-(ab na / ab nb))).1, .int .i64 (ofP (-(ab na / ab nb))).2]) (by simp [results, Tryd.results12, go_sem, hc]) rfl ⟨rfl, ?_⟩
    go_grown
  · rw [if_neg hsg]
    have hs1 : (decide (na < 0) == decide (nb < 0)) = true := by simpa using hsg
    clear hsg
    have ho := rof_any (ab na / ab nb)
    go_enter Tryd.func12, Tryd.ntmps12
    go_wp2_with fail
    go_quiet (first | (go_at_call_of 25 na; exact Calls.quiet_of_same (hsx _ a1 a2)) | (go_at_call_of 25 nb; exact Calls.quiet_of_same (hsy _ b1 b2)))
    go_wp2_with fail
    refine (ho _).mono ?_
    rintro e w1 ⟨rfl, hb⟩
    have hB : Below w.heap.size w w1 := Below.trans (below_drewN (by go_grown) _) (hb.mono (by show _ ≤ (World.alloc _ _).heap.size; simp; omega))
    obtain ⟨hc, hf⟩ := bcell hb
    have hz := bsize hb
    simp at hz
    go_wp2_with fail
    refine bodyPost_ret (v := .agg #[.int .i64 (ofP (ab na / ab nb)).1, .int .i64 (ofP (ab na / ab nb)).2]) (by simp [results, Tryd.results12, go_sem, hc]) rfl ⟨rfl, ?_⟩
    go_grown

theorem rover_any (ka na kb nb : Int) (ha : good ka na = true) (hb : good kb nb = true) : RefTo 12 #[.agg #[.int .i64 ka, .int .i64 na], .agg #[.int .i64 kb, .int .i64 nb]] (overP ka na kb nb) := by
  obtain ⟨a1, a2⟩ := good_bd ha
  obtain ⟨b1, b2⟩ := good_bd hb
  intro w
  unfold overP joinP
  by_cases h2 : ka = 2 ∨ kb = 2
  · rw [if_pos h2]
    exact rover_fault ka na kb nb w h2
  · rw [if_neg h2]
    by_cases h0 : ka = 0 ∨ kb = 0
    · rw [if_pos (by simp; omega)]
      exact rover_blank ka na kb nb w (bool2 (by omega)) (bool2 (by omega)) h0
    · rw [if_neg (by simp; omega)]
      unfold quoP
      by_cases hy : nb = 0
      · subst hy
        rw [if_pos rfl]
        exact rover_zero ka na kb w (bool2 (by omega)) (bool2 (by omega)) (bool0 (by omega)) (bool0 (by omega))
      · rw [if_neg hy]
        exact rover_made ka na kb nb w (bool2 (by omega)) (bool2 (by omega)) (bool0 (by omega)) (bool0 (by omega)) a1 a2 b1 b2 (bool0 hy) hy
end Go.Proofs.YtabcpbdgmaeebaaDoor
