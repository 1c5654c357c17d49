/-
  What frame and member of package outline answer: what is wrong with a dim apart from its members; what is wrong with a member.
-/
import Derived.Test.YtklfenojapgmnaeDoorOut3
namespace Go.Proofs.YtklfenojapgmnaeDoor
open Go.ChangeShapes Go.WideShapes Go.ChangeAt Go.RowKit
set_option maxRecDepth 20000

def dimV (d : Dm) (A : Option Addr) (cap : Nat) : Value := .agg #[.string d.name, .int .i64 d.solve, .slice A d.n cap]
def frameErr (d : Dm) : Int := if nameErr d.name ≠ 0 then 2 else if d.solve < 0 ∨ 9 < d.solve then 1 else if 12 < d.n then 4 else if d.n = 0 then 5 else 0
theorem nameErr_two {s : ByteArray} (h : nameErr s ≠ 0) : nameErr s = 2 := by
  unfold nameErr at h ⊢
  split
  · rfl
  · split
    · rfl
    · rename_i h1 h2; rw [if_neg h1, if_neg h2] at h; exact absurd rfl h

theorem fr0 {d : Dm} (h : nameErr d.name ≠ 0) : frameErr d = 2 := by unfold frameErr; rw [if_pos h]
theorem fr1 {d : Dm} (h : nameErr d.name = 0) (h1 : d.solve < 0 ∨ 9 < d.solve) : frameErr d = 1 := by unfold frameErr; rw [if_neg (by simpa using h), if_pos h1]
theorem fr2 {d : Dm} (h : nameErr d.name = 0) (h1 : ¬ (d.solve < 0 ∨ 9 < d.solve)) (h2 : 12 < d.n) : frameErr d = 4 := by unfold frameErr; rw [if_neg (by simpa using h), if_neg h1, if_pos h2]
theorem fr3 {d : Dm} (h : nameErr d.name = 0) (h1 : ¬ (d.solve < 0 ∨ 9 < d.solve)) (h2 : ¬ 12 < d.n) (h3 : d.n = 0) : frameErr d = 5 := by unfold frameErr; rw [if_neg (by simpa using h), if_neg h1, if_neg h2, if_pos h3]
theorem fr4 {d : Dm} (h : nameErr d.name = 0) (h1 : ¬ (d.solve < 0 ∨ 9 < d.solve)) (h2 : ¬ 12 < d.n) (h3 : ¬ d.n = 0) : frameErr d = 0 := by unfold frameErr; rw [if_neg (by simpa using h), if_neg h1, if_neg h2, if_neg h3]

end Go.Proofs.YtklfenojapgmnaeDoor
