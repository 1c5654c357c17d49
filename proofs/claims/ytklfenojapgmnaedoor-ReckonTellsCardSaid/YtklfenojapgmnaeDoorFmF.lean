/-
  What the reader of package formula does with all of a text, in whatever memory: it goes well, or ends by a panic at the byte that cannot stand there; what read answers, which recovers that panic.
-/
import Derived.Test.YtklfenojapgmnaeDoorFmE
import Derived.Defers
import Derived.Recover
namespace Go.Proofs.YtklfenojapgmnaeDoor
open Go.ChangeShapes Go.WideShapes Go.ChangeAt Go.RowKit
set_option maxRecDepth 20000

section
variable {S : Type} {s : ByteArray} {tk : S → ByteArray → S} {r r1 r2 : Rd S} {f : Nat}
theorem loop_end (h : ¬ r.at' < s.size) : loopR s tk f r = (r, true) := by
  cases f with
  | zero => rfl
  | succ k => rw [loopR, if_neg h]
theorem loop_sgn (h : r.at' < s.size) (h1 : (signR s tk r).2 = false) : loopR s tk (f + 1) r = ((signR s tk r).1, false) := by rw [loopR, if_pos h, if_neg (by rw [h1]; decide)]
theorem loop_opd (h : r.at' < s.size) (h1 : (signR s tk r).2 = true) (h2 : (operandR s tk (signR s tk r).1).2 = false) : loopR s tk (f + 1) r = ((operandR s tk (signR s tk r).1).1, false) := by rw [loopR, if_pos h, if_pos h1, if_neg (by rw [h2]; decide)]
theorem loop_on (h : r.at' < s.size) (h1 : (signR s tk r).2 = true) (h2 : (operandR s tk (signR s tk r).1).2 = true) : loopR s tk (f + 1) r = loopR s tk f (operandR s tk (signR s tk r).1).1 := by rw [loopR, if_pos h, if_pos h1, if_pos h2]
theorem all_no (h : (operandR s tk r).2 = false) : allR s tk r = ((operandR s tk r).1, false) := by rw [allR, if_neg (by rw [h]; decide)]
theorem all_loop (h : (operandR s tk r).2 = true) (h1 : loopR s tk s.size (operandR s tk r).1 = (r1, false)) : allR s tk r = (r1, false) := by rw [allR, if_pos h, h1, if_neg (fun e => Bool.noConfusion e)]
theorem all_end (h : (operandR s tk r).2 = true) (h1 : loopR s tk s.size (operandR s tk r).1 = (r1, true)) : allR s tk r = (r1, decide (r1.opn = 0)) := by rw [allR, if_pos h, h1, if_pos rfl]
theorem word_at (n : Nat) : (wordR s tk n r).at' = r.at' + n := rfl
theorem sign_at (h1 : (signR s tk r).2 = true) : (signR s tk r).1.at' = r.at' + 1 := by
  unfold signR at *
  split
  · rename_i h; rw [if_pos h] at h1; cases h1
  · rfl
theorem opens_at : ∀ (f : Nat) (r : Rd S), r.at' ≤ (opensR s tk f r).at'
  | 0, r => Nat.le_refl _
  | f + 1, r => by
    rw [opensR]
    split
    · exact Nat.le_trans (by simp [wordR]) (opens_at f _)
    · exact Nat.le_refl _
theorem closes_at : ∀ (f : Nat) (r : Rd S), r.at' ≤ (closesR s tk f r).at'
  | 0, r => Nat.le_refl _
  | f + 1, r => by
    rw [closesR]
    split
    · exact Nat.le_trans (by simp [wordR]) (closes_at f _)
    · exact Nat.le_refl _
theorem operand_at (r : Rd S) : r.at' ≤ (operandR s tk r).1.at' := by
  have h1 : r.at' ≤ (openedR s tk r).at' := opens_at _ r
  unfold operandR
  split
  · exact Nat.le_trans (Nat.le_trans h1 (by simp [wordR])) (closes_at _ _)
  · split
    · exact Nat.le_trans (Nat.le_trans h1 (by simp [wordR])) (closes_at _ _)
    · exact h1
end

end Go.Proofs.YtklfenojapgmnaeDoor
