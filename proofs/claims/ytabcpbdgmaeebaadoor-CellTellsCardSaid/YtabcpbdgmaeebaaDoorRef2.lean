/-
  The document's own sum, difference, product and quotient of cells that are right (tallyref1: Plus, Times, Over) come to the same as the program's.
-/
import Derived.Test.YtabcpbdgmaeebaaDoorRef1
namespace Go.Proofs.YtabcpbdgmaeebaaDoor
open Go.ChangeShapes Go.WideShapes Go.ChangeAt Go.RowKit

def RefTo (f : Nat) (args : Array Value) (r : Int × Int) : Prop := ∀ (w : World), Calls Tryd.prog f args w fun e w' => e = .returned (.agg #[.int .i64 r.1, .int .i64 r.2]) ∧ Below w.heap.size w w'

theorem bool2 {k : Int} (h : ¬ k = 2) : (k == 2) = false := by simpa using h
theorem bool0 {k : Int} (h : ¬ k = 0) : (k == 0) = false := by simpa using h

theorem rplus_made (ka na kb nb sg r : Int) (w : World) (q1 : (ka == 2) = false) (q2 : (kb == 2) = false) (q3 : ((ka == 0) && (kb == 0)) = false) (hm : wrap64 (na + wrap64 (sg * nb)) = r) :
    Calls Tryd.prog 10 #[.agg #[.int .i64 ka, .int .i64 na], .agg #[.int .i64 kb, .int .i64 nb], .int .i64 sg] w fun e w' => e = .returned (.agg #[.int .i64 (ofP r).1, .int .i64 (ofP r).2]) ∧ Below w.heap.size w w' := by
  subst hm
  have HR := rof_any (wrap64 (na + wrap64 (sg * nb)))
  cases q4 : (ka == 0)
  all_goals
    rw [q4] at q3
    try simp only [Bool.true_and, Bool.false_and] at q3
    go_enter Tryd.func10, Tryd.ntmps10
    go_wp2_with fail
    refine (HR _).mono ?_
    rintro e w1 ⟨rfl, hb⟩
    have hB : Below w.heap.size w w1 := Below.trans (by go_grown) (hb.mono (by simp; omega))
    obtain ⟨hc, hf⟩ := bcell hb
    have hz := bsize hb
    simp at hz
    go_wp2_with fail
    refine bodyPost_ret (v := .agg #[.int .i64 (ofP (wrap64 (na + wrap64 (sg * nb)))).1, .int .i64 (ofP (wrap64 (na + wrap64 (sg * nb)))).2]) (by simp [results, Tryd.results10, go_sem, hc]) rfl ⟨rfl, ?_⟩
    go_grown

theorem rplus_fault (ka na kb nb sg : Int) (w : World) (h : ka = 2 ∨ kb = 2) : Calls Tryd.prog 10 #[.agg #[.int .i64 ka, .int .i64 na], .agg #[.int .i64 kb, .int .i64 nb], .int .i64 sg] w fun e w' => e = .returned (.agg #[.int .i64 2, .int .i64 0]) ∧ Below w.heap.size w w' := by
  by_cases h1 : ka = 2
  · subst h1
    clear h
    go_enter Tryd.func10, Tryd.ntmps10
    go_wp2
    go_returns
    exact ⟨rfl, by go_grown⟩
  · have q1 := bool2 h1
    have h2 : kb = 2 := by omega
    subst h2
    clear h h1
    go_enter Tryd.func10, Tryd.ntmps10
    go_wp2
    go_returns
    exact ⟨rfl, by go_grown⟩

theorem rplus_blank (na nb sg : Int) (w : World) : Calls Tryd.prog 10 #[.agg #[.int .i64 0, .int .i64 na], .agg #[.int .i64 0, .int .i64 nb], .int .i64 sg] w fun e w' => e = .returned (.agg #[.int .i64 0, .int .i64 0]) ∧ Below w.heap.size w w' := by
  go_enter Tryd.func10, Tryd.ntmps10
  go_wp2
  go_returns
  exact ⟨rfl, by go_grown⟩

theorem rplus_any (ka na kb nb sg r : Int) (hr : wrap64 (na + wrap64 (sg * nb)) = r) : RefTo 10 #[.agg #[.int .i64 ka, .int .i64 na], .agg #[.int .i64 kb, .int .i64 nb], .int .i64 sg] (joinP (!(ka != 0 || kb != 0)) ka kb (ofP r)) := by
  intro w
  unfold joinP
  by_cases h2 : ka = 2 ∨ kb = 2
  · rw [if_pos h2]
    exact rplus_fault ka na kb nb sg w h2
  · rw [if_neg h2]
    by_cases h0 : ka = 0 ∧ kb = 0
    · obtain ⟨rfl, rfl⟩ := h0
      exact rplus_blank na nb sg w
    · rw [if_neg (by simp; omega)]
      exact rplus_made ka na kb nb sg r w (bool2 (by omega)) (bool2 (by omega)) (by simp; omega) hr
theorem rplus_plus (ka na kb nb : Int) (ha : good ka na = true) (hb : good kb nb = true) : RefTo 10 #[.agg #[.int .i64 ka, .int .i64 na], .agg #[.int .i64 kb, .int .i64 nb], .int .i64 1] (plusP ka na kb nb) := by
  obtain ⟨a1, a2⟩ := good_bd ha
  obtain ⟨b1, b2⟩ := good_bd hb
  exact rplus_any ka na kb nb 1 (na + nb) (by unfold wrap64; omega)
theorem rplus_minus (ka na kb nb : Int) (ha : good ka na = true) (hb : good kb nb = true) : RefTo 10 #[.agg #[.int .i64 ka, .int .i64 na], .agg #[.int .i64 kb, .int .i64 nb], .int .i64 (-1)] (minusP ka na kb nb) := by
  obtain ⟨a1, a2⟩ := good_bd ha
  obtain ⟨b1, b2⟩ := good_bd hb
  exact rplus_any ka na kb nb (-1) (na - nb) (by unfold wrap64; omega)

theorem rtimes_fault (ka na kb nb : Int) (w : World) (h : ka = 2 ∨ kb = 2) : Calls Tryd.prog 11 #[.agg #[.int .i64 ka, .int .i64 na], .agg #[.int .i64 kb, .int .i64 nb]] w fun e w' => e = .returned (.agg #[.int .i64 2, .int .i64 0]) ∧ Below w.heap.size w w' := by
  by_cases h1 : ka = 2
  · subst h1
    clear h
    go_enter Tryd.func11, Tryd.ntmps11
    go_wp2
    go_returns
    exact ⟨rfl, by go_grown⟩
  · have q1 := bool2 h1
    have h2 : kb = 2 := by omega
    subst h2
    clear h h1
    go_enter Tryd.func11, Tryd.ntmps11
    go_wp2
    go_returns
    exact ⟨rfl, by go_grown⟩

theorem rover_fault (ka na kb nb : Int) (w : World) (h : ka = 2 ∨ kb = 2) : Calls Tryd.prog 12 #[.agg #[.int .i64 ka, .int .i64 na], .agg #[.int .i64 kb, .int .i64 nb]] w fun e w' => e = .returned (.agg #[.int .i64 2, .int .i64 0]) ∧ Below w.heap.size w w' := by
  by_cases h1 : ka = 2
  · subst h1
    clear h
    go_enter Tryd.func12, Tryd.ntmps12
    go_wp2
    go_returns
    exact ⟨rfl, by go_grown⟩
  · have q1 := bool2 h1
    have h2 : kb = 2 := by omega
    subst h2
    clear h h1
    go_enter Tryd.func12, Tryd.ntmps12
    go_wp2
    go_returns
    exact ⟨rfl, by go_grown⟩

theorem rtimes_blank (ka na kb nb : Int) (w : World) (q1 : (ka == 2) = false) (q2 : (kb == 2) = false) (h : ka = 0 ∨ kb = 0) : Calls Tryd.prog 11 #[.agg #[.int .i64 ka, .int .i64 na], .agg #[.int .i64 kb, .int .i64 nb]] w fun e w' => e = .returned (.agg #[.int .i64 0, .int .i64 0]) ∧ Below w.heap.size w w' := by
  by_cases h1 : ka = 0
  · subst h1
    clear h q1
    go_enter Tryd.func11, Tryd.ntmps11
    go_wp2
    go_returns
    exact ⟨rfl, by go_grown⟩
  · have q3 := bool0 h1
    have h2 : kb = 0 := by omega
    subst h2
    clear h h1 q2
    go_enter Tryd.func11, Tryd.ntmps11
    go_wp2
    go_returns
    exact ⟨rfl, by go_grown⟩

theorem rover_blank (ka na kb nb : Int) (w : World) (q1 : (ka == 2) = false) (q2 : (kb == 2) = false) (h : ka = 0 ∨ kb = 0) : Calls Tryd.prog 12 #[.agg #[.int .i64 ka, .int .i64 na], .agg #[.int .i64 kb, .int .i64 nb]] w fun e w' => e = .returned (.agg #[.int .i64 0, .int .i64 0]) ∧ Below w.heap.size w w' := by
  by_cases h1 : ka = 0
  · subst h1
    clear h q1
    go_enter Tryd.func12, Tryd.ntmps12
    go_wp2
    go_returns
    exact ⟨rfl, by go_grown⟩
  · have q3 := bool0 h1
    have h2 : kb = 0 := by omega
    subst h2
    clear h h1 q2
    go_enter Tryd.func12, Tryd.ntmps12
    go_wp2
    go_returns
    exact ⟨rfl, by go_grown⟩

set_option maxHeartbeats 1000000 in
theorem rtimes_made (ka na kb nb : Int) (w : World) (q1 : (ka == 2) = false) (q2 : (kb == 2) = false) (q3 : (ka == 0) = false) (q4 : (kb == 0) = false) (a1 : -1000000000000 ≤ na) (a2 : na ≤ 1000000000000) (b1 : -1000000000000 ≤ nb) (b2 : nb ≤ 1000000000000) :
    Calls Tryd.prog 11 #[.agg #[.int .i64 ka, .int .i64 na], .agg #[.int .i64 kb, .int .i64 nb]] w fun e w' => e = .returned (.agg #[.int .i64 (ofP (na * nb)).1, .int .i64 (ofP (na * nb)).2]) ∧ Below w.heap.size w w' := by
  obtain ⟨ax0, ax1⟩ := ab_in a1 a2
  obtain ⟨ay0, ay1⟩ := ab_in b1 b2
  have hsx := rsize_any na
  have hsy := rsize_any nb
  by_cases hz0 : na = 0
  · subst hz0
    have hx0 : ab 0 = 0 := rfl
    rw [hx0] at hsx
    have ho := rof_any (0 * nb)
    rw [Int.zero_mul] at ho ⊢
    clear hx0 ax0 ax1
    go_enter Tryd.func11, Tryd.ntmps11
    go_wp2_with fail
    refine (hsx _ a1 a2).mono ?_
    rintro e w1 ⟨rfl, rfl⟩
    go_wp2_with fail
    refine (hsy _ b1 b2).mono ?_
    rintro e w1 ⟨rfl, rfl⟩
    go_wp2_with fail
    refine (ho _).mono ?_
    rintro e w1 ⟨rfl, hb⟩
    have hB : Below w.heap.size w w1 := Below.trans (by go_grown) (hb.mono (by simp; omega))
    obtain ⟨hc, hf⟩ := bcell hb
    have hz := bsize hb
    simp at hz
    go_wp2_with fail
    refine bodyPost_ret (v := .agg #[.int .i64 (ofP 0).1, .int .i64 (ofP 0).2]) (by simp [results, Tryd.results11, go_sem, hc]) rfl ⟨rfl, ?_⟩
    go_grown
  · have ap := ab_pos hz0
    by_cases hg : 1000000000000 / ab na < ab nb
    · have hout : ofP (na * nb) = (2, 0) := by
        refine ofP_out (ab_out (m := 1000000000000) ?_)
        rw [ab_mul, Int.mul_comm]
        exact (Int.ediv_lt_iff_lt_mul (by omega)).mp hg
      rw [hout]
      go_enter Tryd.func11, Tryd.ntmps11
      go_wp2_with fail
      refine (hsx _ a1 a2).mono ?_
      rintro e w1 ⟨rfl, rfl⟩
      go_wp2_with fail
      refine (hsy _ b1 b2).mono ?_
      rintro e w1 ⟨rfl, rfl⟩
      go_wp2
      go_returns
      exact ⟨rfl, by go_grown⟩
    · have hin : ab (na * nb) ≤ 1000000000000 := by
        rw [ab_mul, Int.mul_comm]
        exact Int.not_lt.mp (fun h => hg ((Int.ediv_lt_iff_lt_mul (by omega)).mpr h))
      obtain ⟨hp1, hp2⟩ := ab_bd hin
      have ho := rof_any (na * nb)
      clear hin
      go_enter Tryd.func11, Tryd.ntmps11
      go_wp2_with fail
      refine (hsx _ a1 a2).mono ?_
      rintro e w1 ⟨rfl, rfl⟩
      go_wp2_with fail
      refine (hsy _ b1 b2).mono ?_
      rintro e w1 ⟨rfl, rfl⟩
      go_wp2_with fail
      refine (ho _).mono ?_
      rintro e w1 ⟨rfl, hb⟩
      have hB : Below w.heap.size w w1 := Below.trans (by go_grown) (hb.mono (by simp; omega))
      obtain ⟨hc, hf⟩ := bcell hb
      have hz := bsize hb
      simp at hz
      go_wp2_with fail
      refine bodyPost_ret (v := .agg #[.int .i64 (ofP (na * nb)).1, .int .i64 (ofP (na * nb)).2]) (by simp [results, Tryd.results11, go_sem, hc]) rfl ⟨rfl, ?_⟩
      go_grown

theorem rtimes_any (ka na kb nb : Int) (ha : good ka na = true) (hb : good kb nb = true) : RefTo 11 #[.agg #[.int .i64 ka, .int .i64 na], .agg #[.int .i64 kb, .int .i64 nb]] (timesP ka na kb nb) := by
  obtain ⟨a1, a2⟩ := good_bd ha
  obtain ⟨b1, b2⟩ := good_bd hb
  intro w
  unfold timesP joinP
  by_cases h2 : ka = 2 ∨ kb = 2
  · rw [if_pos h2]
    exact rtimes_fault ka na kb nb w h2
  · rw [if_neg h2]
    by_cases h0 : ka = 0 ∨ kb = 0
    · rw [if_pos (by simp; omega)]
      exact rtimes_blank ka na kb nb w (bool2 (by omega)) (bool2 (by omega)) h0
    · rw [if_neg (by simp; omega)]
      exact rtimes_made ka na kb nb w (bool2 (by omega)) (bool2 (by omega)) (bool0 (by omega)) (bool0 (by omega)) a1 a2 b1 b2
end Go.Proofs.YtabcpbdgmaeebaaDoor
