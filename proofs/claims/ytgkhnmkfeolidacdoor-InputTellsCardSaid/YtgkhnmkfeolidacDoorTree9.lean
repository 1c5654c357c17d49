/-
  What Leafs of package tree answers: the leafs of a member, or what is wrong.
-/
import Derived.Test.YtgkhnmkfeolidacDoorTree8
namespace Go.Proofs.YtgkhnmkfeolidacDoor
open Go.ChangeShapes Go.WideShapes Go.ChangeAt Go.RowKit
set_option maxRecDepth 20000

end Go.Proofs.YtgkhnmkfeolidacDoor
