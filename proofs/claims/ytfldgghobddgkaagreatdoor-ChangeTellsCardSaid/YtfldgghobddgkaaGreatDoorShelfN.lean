/-
  Tables of numbers of library functions at this program: strings.Contains, strings.ContainsAny and strings.IndexAny with what they call, internal/stringslite.Index.
-/
import Derived.Shelf.Strings.Search3
import Derived.Shelf.Strings.IndexAnyAll
import Derived.Test.YtfldgghobddgkaaGreatDoorProg
namespace Go.Proofs
open Go.Shelf
end Go.Proofs
