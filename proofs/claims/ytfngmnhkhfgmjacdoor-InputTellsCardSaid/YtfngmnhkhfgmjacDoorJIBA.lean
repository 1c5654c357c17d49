/-
  What the small functions of package cell answer, called in whatever memory: within, Of, Check: of all numbers, with new memory alone.
-/
import Derived.Test.YtfngmnhkhfgmjacDoorProg
import Derived.WalkKit
import Derived.ProofKit
import Derived.OpenShut
import Derived.Handy
import Derived.Outline
namespace Go.Proofs.YtfngmnhkhfgmjacDoor
open Go.ChangeShapes Go.WideShapes Go.ChangeAt Go.RowKit
def ofP (n : Int) : Int × Int := if -1000000000000 ≤ n ∧ n ≤ 1000000000000 then (1, n) else (2, 0)
theorem ofP_in {n : Int} (h1 : -1000000000000 ≤ n) (h2 : n ≤ 1000000000000) : ofP n = (1, n) := by unfold ofP; rw [if_pos ⟨h1, h2⟩]
theorem ofP_out {n : Int} (h : n < -1000000000000 ∨ 1000000000000 < n) : ofP n = (2, 0) := by unfold ofP; rw [if_neg (by omega)]
theorem of_any (n : Int) (w : World) : Calls Tryd.prog 39 #[.int .i64 n] w fun e w' => e = .returned (.agg #[.int .i64 (ofP n).1, .int .i64 (ofP n).2]) ∧ Below w.heap.size w w' := by
 by_cases h1 : -1000000000000 ≤ n
 ·by_cases h2 : n ≤ 1000000000000
  ·rw [ofP_in h1 h2]
   go_enter Tryd.func39, Tryd.ntmps39
   go_wp2
   go_returns
   exact ⟨rfl, by go_grown⟩
  ·rw [ofP_out (by omega)]
   go_enter Tryd.func39, Tryd.ntmps39
   go_wp2
   go_returns
   exact ⟨rfl, by go_grown⟩
 ·rw [ofP_out (by omega)]
  go_enter Tryd.func39, Tryd.ntmps39
  go_wp2
  go_returns
  exact ⟨rfl, by go_grown⟩
def good (k n : Int) : Bool := decide ((k = 1 ∧ -1000000000000 ≤ n ∧ n ≤ 1000000000000) ∨ ((k = 0 ∨ k = 2) ∧ n = 0))
end Go.Proofs.YtfngmnhkhfgmjacDoor
