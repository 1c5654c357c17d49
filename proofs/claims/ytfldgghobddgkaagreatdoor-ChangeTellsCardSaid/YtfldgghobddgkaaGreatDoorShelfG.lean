/-
  Tables of numbers of library functions at this program: slices.BinarySearch at strings.
-/
import Derived.Shelf.Spec.SearchS
import Derived.Test.YtfldgghobddgkaaGreatDoorProg
namespace Go.Proofs
open Go.Shelf
end Go.Proofs
