/-
  What the reader of package formula does, in whatever memory: digits; a sign; an operand with the brackets about it; all of a text: it goes well, or ends by a panic at the byte that cannot stand there.
-/
import Derived.Test.YtklfenojapgmnaeDoorFmC
import Derived.Test.YtklfenojapgmnaeDoorShelfI
import Derived.Lib.Strings
namespace Go.Proofs.YtklfenojapgmnaeDoor
open Go.ChangeShapes Go.WideShapes Go.ChangeAt Go.RowKit
set_option maxRecDepth 20000

theorem next_zero {s : ByteArray} {a : Nat} (h : nextB s a ≠ 0) (ha : a ≤ s.size) : a < s.size := by
  by_cases e : a = s.size
  · subst e; simp [nextB] at h
  · omega
theorem tail_size (s : ByteArray) (a : Nat) : (s.extract a s.size).size = s.size - a := by rw [ByteArray.size_extract]; omega

section
variable {S : Type} {T : Tkr S} {w w' : World} {q : Nat} {s : ByteArray} {ph : Bool} {r : Rd S}
end
section
variable {S : Type} {T : Tkr S} {w w' : World} {q : Nat} {s : ByteArray} {ph : Bool} {x : Rd S × Bool} {r : Rd S}
end

theorem byteN_ext {s : ByteArray} {a b i : Nat} (h : i < b - a) : byteN (s.extract a b) i = byteN s (a + i) := by
  unfold byteN
  rw [Lib.extract_data]
  simp only [List.getD, List.getElem?_take, List.getElem?_drop]
  rw [if_pos h]
theorem next_at {s : ByteArray} {a : Nat} (h : a < s.size) : nextB s a = byteN s a := by rw [nextB, if_neg (by omega)]

theorem sgn_stp {s : ByteArray} {a o : Nat} (ha : a ≤ s.size) (h : ¬ signI (nextB s a) < 0) : a + 1 ≤ s.size ∧ Stp o true (s.extract a (a + 1)) o false := by
  have hlt : a < s.size := next_zero (fun e => h (by rw [e]; decide)) ha
  refine ⟨hlt, Stp.sgn o _ (slice_ok hlt) ?_⟩
  rw [byteN_ext (by omega), Nat.add_zero, ← next_at hlt]
  omega

end Go.Proofs.YtklfenojapgmnaeDoor
