/-
 The document's own reading of an outline (tallyref1.Outline): which dim is the first that is wrong, in which member, and how.
 The document's own answers on places (tallyref1): what is wrong with a place, its number, whether it is of leafs, a number's place.
-/
import Derived.Test.YtjffbmejobjmjafGreatDoorJBBH
import Derived.Test.YtjffbmejobjmjafGreatDoorJBBG
import Derived.Deep.QuietTactic
import Derived.BigQuiet
import Derived.WalkSmall
import Derived.Test.YtjffbmejobjmjafGreatDoorJBBC
import Derived.Test.YtjffbmejobjmjafGreatDoorJBBI
namespace Go.Proofs.YtjffbmejobjmjafGreatDoor
open Go.ChangeShapes Go.WideShapes Go.ChangeAt Go.RowKit
set_option maxRecDepth 20000

end Go.Proofs.YtjffbmejobjmjafGreatDoor

namespace Go.Proofs.YtjffbmejobjmjafGreatDoor
open Go.ChangeShapes Go.WideShapes Go.ChangeAt Go.RowKit
set_option maxRecDepth 20000

end Go.Proofs.YtjffbmejobjmjafGreatDoor

