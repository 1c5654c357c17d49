/-
  Tables of numbers of library functions at this program: strings.Index, strings.Count.
-/
import Derived.Shelf.Strings.Search3
import Derived.Shelf.Strings.Count
import Derived.Test.YtfldgghobddgkaaGreatDoorProg
namespace Go.Proofs
open Go.Shelf
end Go.Proofs
