/-
 What the document's Entries and Input answer, called in whatever memory.
-/
import Derived.Test.YtjffbmejobjmjafGreatDoorJBBF
import Derived.Test.YtjffbmejobjmjafGreatDoorJBBJ
namespace Go.Proofs.YtjffbmejobjmjafGreatDoor
open Go.ChangeShapes Go.WideShapes Go.ChangeAt Go.RowKit
set_option maxRecDepth 20000

end Go.Proofs.YtjffbmejobjmjafGreatDoor

