/-
 The document's own reading of a dim (tallyref1.Dim): which member is the first that is wrong, and how.
-/
import Derived.Test.YtjffbmejobjmjafGreatDoorJBBG
namespace Go.Proofs.YtjffbmejobjmjafGreatDoor
open Go.ChangeShapes Go.WideShapes Go.ChangeAt Go.RowKit
set_option maxRecDepth 20000

end Go.Proofs.YtjffbmejobjmjafGreatDoor

