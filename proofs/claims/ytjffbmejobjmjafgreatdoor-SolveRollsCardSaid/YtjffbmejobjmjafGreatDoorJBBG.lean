/-
 The document's own reading of outlines (tallyref1.Name, tallyref1.Where, tallyref1.Size): what is wrong with a name, where a member of a name is, how many places an outline has.
 The document's own count of an outline's cells (tallyref1.Size).
-/
import Derived.Test.YtjffbmejobjmjafGreatDoorJBAC
import Derived.WalkSpells
import Derived.WalkLawsBesides
import Derived.Test.YtjffbmejobjmjafGreatDoorJBAD
namespace Go.Proofs.YtjffbmejobjmjafGreatDoor
open Go.ChangeShapes Go.WideShapes Go.ChangeAt Go.RowKit
set_option maxRecDepth 20000

end Go.Proofs.YtjffbmejobjmjafGreatDoor

namespace Go.Proofs.YtjffbmejobjmjafGreatDoor
open Go.ChangeShapes Go.WideShapes Go.ChangeAt Go.RowKit
set_option maxRecDepth 20000

end Go.Proofs.YtjffbmejobjmjafGreatDoor

