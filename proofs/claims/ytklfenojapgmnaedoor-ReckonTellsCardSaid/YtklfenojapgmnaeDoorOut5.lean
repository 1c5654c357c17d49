/-
  What member of package outline answers: what is wrong with the member at a place, those ahead of it being told before.
-/
import Derived.Test.YtklfenojapgmnaeDoorOut4
namespace Go.Proofs.YtklfenojapgmnaeDoor
open Go.ChangeShapes Go.WideShapes Go.ChangeAt Go.RowKit
set_option maxRecDepth 20000

def ownMem (w : World) (m : Mem) (T : Nat) : World := w.alloc (.cells #[.string m.name, .int .i64 m.parent, .int .i64 m.sign, .string m.formula] T)
theorem ownMem_at (w : World) (m : Mem) (T : Nat) : MemAt (ownMem w m T) w.heap.size 0 m := by unfold ownMem; exact ⟨by simp, by simp, by simp, by simp⟩
theorem ownMem_size (w : World) (m : Mem) (T : Nat) : (ownMem w m T).heap.size = w.heap.size + 1 := by unfold ownMem; simp
theorem ownMem_below (w : World) (m : Mem) (T : Nat) : Below w.heap.size w (ownMem w m T) := by unfold ownMem; go_grown
theorem empty_same {s : ByteArray} : s.toList.isEmpty = decide (s.size = 0) := by
  rw [ByteArray.toList_eq]
  have e : s.size = s.data.toList.length := Array.length_toList.symm
  rw [e]
  cases s.data.toList <;> simp

theorem me0 {M : Nat → Mem} {i : Nat} (h : nameErr (M i).name ≠ 0) : memErr M i = 2 := by unfold memErr; rw [if_pos h]
theorem me1 {M : Nat → Mem} {i : Nat} (h : nameErr (M i).name = 0) (h1 : clash M i = true) : memErr M i = 7 := by unfold memErr; rw [if_neg (by simpa using h), if_pos h1]
theorem me2 {M : Nat → Mem} {i : Nat} (h : nameErr (M i).name = 0) (h1 : clash M i = false) (h2 : (M i).parent < -1 ∨ (i : Int) ≤ (M i).parent) : memErr M i = 1 := by unfold memErr; rw [if_neg (by simpa using h), if_neg (by simp [h1]), if_pos h2]
theorem me3 {M : Nat → Mem} {i : Nat} (h : nameErr (M i).name = 0) (h1 : clash M i = false) (h2 : ¬ ((M i).parent < -1 ∨ (i : Int) ≤ (M i).parent)) (h3 : 0 ≤ (M i).parent ∧ (M (M i).parent.toNat).formula.size ≠ 0) : memErr M i = 6 := by unfold memErr; rw [if_neg (by simpa using h), if_neg (by simp [h1]), if_neg h2, if_pos h3]
theorem me4 {M : Nat → Mem} {i : Nat} (h : nameErr (M i).name = 0) (h1 : clash M i = false) (h2 : ¬ ((M i).parent < -1 ∨ (i : Int) ≤ (M i).parent)) (h3 : ¬ (0 ≤ (M i).parent ∧ (M (M i).parent.toNat).formula.size ≠ 0)) (h4 : (M i).sign < -1 ∨ 1 < (M i).sign) : memErr M i = 1 := by unfold memErr; rw [if_neg (by simpa using h), if_neg (by simp [h1]), if_neg h2, if_neg h3, if_pos h4]
theorem me5 {M : Nat → Mem} {i : Nat} (h : nameErr (M i).name = 0) (h1 : clash M i = false) (h2 : ¬ ((M i).parent < -1 ∨ (i : Int) ≤ (M i).parent)) (h3 : ¬ (0 ≤ (M i).parent ∧ (M (M i).parent.toNat).formula.size ≠ 0)) (h4 : ¬ ((M i).sign < -1 ∨ 1 < (M i).sign)) (h5 : 100 < (M i).formula.size) : memErr M i = 4 := by unfold memErr; rw [if_neg (by simpa using h), if_neg (by simp [h1]), if_neg h2, if_neg h3, if_neg h4, if_pos h5]
theorem me6 {M : Nat → Mem} {i : Nat} (h : nameErr (M i).name = 0) (h1 : clash M i = false) (h2 : ¬ ((M i).parent < -1 ∨ (i : Int) ≤ (M i).parent)) (h3 : ¬ (0 ≤ (M i).parent ∧ (M (M i).parent.toNat).formula.size ≠ 0)) (h4 : ¬ ((M i).sign < -1 ∨ 1 < (M i).sign)) (h5 : ¬ 100 < (M i).formula.size) : memErr M i = 0 := by unfold memErr; rw [if_neg (by simpa using h), if_neg (by simp [h1]), if_neg h2, if_neg h3, if_neg h4, if_neg h5]

end Go.Proofs.YtklfenojapgmnaeDoor
