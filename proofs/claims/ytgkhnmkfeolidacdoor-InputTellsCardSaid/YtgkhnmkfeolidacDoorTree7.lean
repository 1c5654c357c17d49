/-
  What weight and Weight of package tree answer: how a leaf counts in a member, or what is wrong.
-/
import Derived.Test.YtgkhnmkfeolidacDoorTree6
namespace Go.Proofs.YtgkhnmkfeolidacDoor
open Go.ChangeShapes Go.WideShapes Go.ChangeAt Go.RowKit
set_option maxRecDepth 20000

theorem drop_at {L : List Int} {k : Nat} (h : k < L.length) : L.drop k = L.getD k 0 :: L.drop (k + 1) := by
  rw [List.drop_eq_getElem_cons h]; simp [List.getD, List.getElem?_eq_getElem h]
theorem getD_mem {L : List Int} {k : Nat} (h : k < L.length) : L.getD k 0 ∈ L := by
  simp [List.getD, List.getElem?_eq_getElem h]

end Go.Proofs.YtgkhnmkfeolidacDoor
