/-
  What isLeaf and path of package tree answer, called in whatever memory: whether a member is a leaf; its path, in new memory.
-/
import Derived.Test.YtpnfmpbgjkhicafGreatDoorTree1
import Derived.OwnWalk
namespace Go.Proofs.YtpnfmpbgjkhicafGreatDoor
open Go.ChangeShapes Go.WideShapes Go.ChangeAt Go.RowKit
set_option maxRecDepth 20000

def ownInt (w : World) (i : Int) (T : Nat) : World := w.alloc (.cells #[.int .i64 i] T)
theorem ownInt_at (w : World) (i : Int) (T : Nat) : (ownInt w i T).cell? ⟨w.heap.size, 0, none⟩ = some (.int .i64 i) := by unfold ownInt; simp
theorem ownInt_size (w : World) (i : Int) (T : Nat) : (ownInt w i T).heap.size = w.heap.size + 1 := by unfold ownInt; simp
theorem ownInt_below (w : World) (i : Int) (T : Nat) : Below w.heap.size w (ownInt w i T) := by unfold ownInt; go_grown

theorem leafB_told {M : Nat → Mem} {n k : Nat} (h : (M k).formula.size ≠ 0) : leafB M n k = false := by simp [leafB, h]
theorem leafB_parts {M : Nat → Mem} {n k : Nat} (h : (M k).formula.size = 0) : leafB M n k = !decide (0 ≤ findFrom (partB M k) n 0) := by simp [leafB, h]

end Go.Proofs.YtpnfmpbgjkhicafGreatDoor
