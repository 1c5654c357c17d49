/-
  What isLeaf and path of package tree answer, called in whatever memory: whether a member is a leaf; its path, in new memory.
-/
import Derived.OwnWalk
import Derived.Test.YtfngmnhkhfgmjacDoorJIAF
namespace Go.Proofs.YtfngmnhkhfgmjacDoor
open Go.ChangeShapes Go.WideShapes Go.ChangeAt Go.RowKit
set_option maxRecDepth 20000
theorem isleaf1_in : EntersO 90 := fun args w => by simp [callFunc, Tryd.func90]; rfl
theorem isleaf1_any (m : Mem) (i : Int) (q : Nat) (w : World) (hq : q < w.heap.size) (h : w.cell? ⟨q, 0, none⟩ = some (.int .i64 i)) : Calls Tryd.prog 90 #[memV m, .pointer (some ⟨q, 0, none⟩)] w fun e w' => e = .returned (.bool (m.parent == i)) ∧ Below w.heap.size w w' := by
 unfold memV
 go_enter Tryd.func90, Tryd.ntmps90
 go_wp2_with fail
 go_ret
 exact ⟨by simp, by go_grown⟩
def ownInt (w : World) (i : Int) (T : Nat) : World := w.alloc (.cells #[.int .i64 i] T)
theorem ownInt_at (w : World) (i : Int) (T : Nat) : (ownInt w i T).cell? ⟨w.heap.size, 0, none⟩ = some (.int .i64 i) := by unfold ownInt; simp
theorem ownInt_size (w : World) (i : Int) (T : Nat) : (ownInt w i T).heap.size = w.heap.size + 1 := by unfold ownInt; simp
theorem ownInt_below (w : World) (i : Int) (T : Nat) : Below w.heap.size w (ownInt w i T) := by unfold ownInt; go_grown
theorem leafB_told {M : Nat → Mem} {n k : Nat} (h : (M k).formula.size ≠ 0) : leafB M n k = false := by simp [leafB, h]
theorem leafB_parts {M : Nat → Mem} {n k : Nat} (h : (M k).formula.size = 0) : leafB M n k = !decide (0 ≤ findFrom (partB M k) n 0) := by simp [leafB, h]
set_option maxHeartbeats 2000000 in
theorem isleaf_any (b o n cap i : Nat) (M : Nat → Mem) (w : World) (hn : n ≤ 12) (hi : i < n) (hM : MemsAt w b o n M) : Calls Tryd.prog 84 #[.slice (some ⟨b, o, none⟩) n cap, .int .i64 i] w fun e w' => e = .returned (.bool (leafB M n i)) ∧ Below w.heap.size w w' := by
 have hS := ownInt_size w i 3
 have hB0 := ownInt_below w i 3
 have hA := ownInt_at w i 3
 have hM0 := hM.later hB0
 have hcl := contains_mems 90 w.heap.size isleaf1_in b o n cap M (partB M i) (ownInt w i 3) hn hM0 (fun j w' _ hw' => isleaf1_any (M j) i w.heap.size w' (by have := hw'.size; omega) ((hw'.cell (p := ⟨w.heap.size, 0, none⟩) (by show w.heap.size < _; omega)).trans hA))
 have HB0 : Hid (Below w.heap.size w (ownInt w i 3)) := hB0
 obtain ⟨-, -, -, h3⟩ := hM.2 i hi
 have hbw := hM.1
 have hii : (i : Int) < (n : Int) := by omega
 have hn' : (n : Int) ≤ 12 := by omega
 clear hM hS hB0 hA hM0
 by_cases hf : (M i).formula.size = 0
 ·have hf' : (M i).formula.toList.isEmpty = true := by rw [empty_same]; simpa using hf
  have HR : Hid (leafB M n i = !decide (0 ≤ findFrom (partB M i) n 0)) := leafB_parts hf
  clear hf
  generalize decide (0 ≤ findFrom (partB M i) n 0) = f at hcl HR
  go_enter Tryd.func84, Tryd.ntmps84
  go_wp2_with fail
  refine hcl.mono ?_
  rintro e w1 ⟨rfl, hb1⟩
  go_wp2_with fail
  go_ret
  exact ⟨by rw [HR.out]; rfl, onB HB0.out hb1⟩
 ·have hf' : (M i).formula.toList.isEmpty = false := by rw [empty_same]; simpa using hf
  have HR : Hid (leafB M n i = false) := leafB_told hf
  clear hf hcl
  go_enter Tryd.func84, Tryd.ntmps84
  go_wp2_with fail
  go_ret
  exact ⟨by rw [HR.out]; rfl, by go_grown⟩
end Go.Proofs.YtfngmnhkhfgmjacDoor
