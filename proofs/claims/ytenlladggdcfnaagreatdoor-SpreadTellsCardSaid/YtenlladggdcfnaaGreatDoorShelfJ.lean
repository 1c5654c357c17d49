/-
  Tables of numbers of library functions at this program: strings.Join.
-/
import Derived.Shelf.Strings.OnBuilder
import Derived.Test.YtenlladggdcfnaaGreatDoorProg
namespace Go.Proofs
open Go.Shelf
end Go.Proofs
