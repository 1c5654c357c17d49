/-
  The table of numbers of strings.IndexByte at this program; the place of a sign among the four.
-/
import Derived.Shelf.Small.Strs
import Derived.Test.YtklfenojapgmnaeDoorProg
import Derived.Test.YtklfenojapgmnaeDoorFmB
namespace Go.Proofs
open Go.Shelf
namespace YtklfenojapgmnaeDoor
open Go.ChangeShapes Go.WideShapes Go.ChangeAt Go.RowKit
theorem signI_fin : ∀ c : Fin 256, Lib.indexByte [43, 45, 42, 47] c.val.toUInt8 = signI (c.val : Int) := by decide +kernel
theorem signI_eq (c : Int) (h0 : 0 ≤ c) (h1 : c < 256) : Lib.indexByte [43, 45, 42, 47] c.toNat.toUInt8 = signI c := by
  have h := signI_fin ⟨c.toNat, by omega⟩
  simp only at h
  rw [h, show ((c.toNat : Nat) : Int) = c by omega]
theorem byteN_range (s : ByteArray) (i : Nat) : 0 ≤ byteN s i ∧ byteN s i < 256 := by
  unfold byteN
  have := (s.data.toList.getD i 0).toNat_lt
  omega
theorem nextB_range (s : ByteArray) (i : Nat) : 0 ≤ nextB s i ∧ nextB s i < 256 := by
  unfold nextB
  split
  · omega
  · exact byteN_range s i
end YtklfenojapgmnaeDoor
end Go.Proofs
