/-
  What the document's own answers for cells (tallyref1: Cell, Of, Plus, Times, Over) come to: the same pure functions as the program's.
-/
import Derived.Test.YtabcpbdgmaeebaaDoorCells6
import Derived.Deep.RegionWith
import Derived.Deep.QuietTactic
import Derived.BigQuiet
namespace Go.Proofs.YtabcpbdgmaeebaaDoor
open Go.ChangeShapes Go.WideShapes Go.ChangeAt Go.RowKit

theorem rof_any (n : Int) (w : World) : Calls Tryd.prog 20 #[.int .i64 n] w fun e w' => e = .returned (.agg #[.int .i64 (ofP n).1, .int .i64 (ofP n).2]) ∧ Below w.heap.size w w' := by
  by_cases h1 : n < -1000000000000
  · rw [ofP_out (by omega)]
    go_enter Tryd.func20, Tryd.ntmps20
    go_wp2
    go_returns
    exact ⟨rfl, by go_grown⟩
  · by_cases h2 : 1000000000000 < n
    · rw [ofP_out (by omega)]
      go_enter Tryd.func20, Tryd.ntmps20
      go_wp2
      go_returns
      exact ⟨rfl, by go_grown⟩
    · rw [ofP_in (by omega) (by omega)]
      go_enter Tryd.func20, Tryd.ntmps20
      go_wp2
      go_returns
      exact ⟨rfl, by go_grown⟩

theorem rcell_no (k n : Int) (w : World) (h : good k n = false) : Calls Tryd.prog 5 #[.agg #[.int .i64 k, .int .i64 n]] w fun e w' => e = .returned (.int .i64 1) ∧ Below w.heap.size w w' := by
  have h' : ¬ ((k = 1 ∧ -1000000000000 ≤ n ∧ n ≤ 1000000000000) ∨ ((k = 0 ∨ k = 2) ∧ n = 0)) := by simpa [good] using h
  by_cases h1 : k < 0
  · clear h'
    go_enter Tryd.func5, Tryd.ntmps5
    go_wp2
    go_ret
    exact ⟨rfl, by go_grown⟩
  · by_cases h2 : 2 < k
    · clear h'
      go_enter Tryd.func5, Tryd.ntmps5
      go_wp2
      go_ret
      exact ⟨rfl, by go_grown⟩
    · by_cases h3 : n < -1000000000000
      · clear h'
        go_enter Tryd.func5, Tryd.ntmps5
        go_wp2
        go_ret
        exact ⟨rfl, by go_grown⟩
      · by_cases h4 : 1000000000000 < n
        · clear h'
          go_enter Tryd.func5, Tryd.ntmps5
          go_wp2
          go_ret
          exact ⟨rfl, by go_grown⟩
        · have h5 : (k != 1) = true := by simp; omega
          have h6 : (n != 0) = true := by simp; omega
          clear h' h
          go_enter Tryd.func5, Tryd.ntmps5
          go_wp2
          go_ret
          exact ⟨rfl, by go_grown⟩
theorem rcell_yes (k n : Int) (w : World) (h : good k n = true) : Calls Tryd.prog 5 #[.agg #[.int .i64 k, .int .i64 n]] w fun e w' => e = .returned (.int .i64 0) ∧ Below w.heap.size w w' := by
  have h' : (k = 1 ∧ -1000000000000 ≤ n ∧ n ≤ 1000000000000) ∨ ((k = 0 ∨ k = 2) ∧ n = 0) := by simpa [good] using h
  clear h
  rcases h' with ⟨rfl, h1, h2⟩ | ⟨rfl | rfl, rfl⟩
  all_goals
    go_enter Tryd.func5, Tryd.ntmps5
    go_wp2
    go_ret
    exact ⟨rfl, by go_grown⟩

theorem rsize_any (n : Int) (w : World) (h1 : -1000000000000 ≤ n) (h2 : n ≤ 1000000000000) : Calls Tryd.prog 25 #[.int .i64 n] w fun e w' => e = .returned (.int .i64 (ab n)) ∧ w' = w := by
  unfold ab
  by_cases h : n < 0
  · rw [if_pos h]
    go_enter Tryd.func25, Tryd.ntmps25
    go_wp2
    go_ret
    exact ⟨rfl, rfl⟩
  · rw [if_neg h]
    go_enter Tryd.func25, Tryd.ntmps25
    go_wp2
    go_ret
    exact ⟨rfl, rfl⟩
end Go.Proofs.YtabcpbdgmaeebaaDoor
