/-
  Tables of numbers of library functions at this program: slices.Insert and slices.BinarySearch at ints.
-/
import Derived.Shelf.Spec.SlicesInsertGrow
import Derived.Shelf.Slices.SearchI
import Derived.Shelf.Slices.Empties
import Derived.Test.YtenlladggdcfnaaGreatDoorProg
namespace Go.Proofs
open Go.Shelf
end Go.Proofs
