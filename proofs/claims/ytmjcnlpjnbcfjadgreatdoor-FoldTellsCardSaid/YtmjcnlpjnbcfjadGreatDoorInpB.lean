/-
  An entry found among those that rise: what slices.BinarySearchFunc and find answer, called in whatever memory.
-/
import Derived.Test.YtmjcnlpjnbcfjadGreatDoorInpA
namespace Go.Proofs.YtmjcnlpjnbcfjadGreatDoor
open Go.ChangeShapes Go.WideShapes Go.ChangeAt Go.RowKit
set_option maxRecDepth 20000

theorem order_in : EntersO 39 := fun args w => by simp [callFunc, Tryz.func39]; rfl
/-- places of entries of one outline, and one more, are short -/
def Short (xs : List EnL) (p : List Int) : Prop := (∀ k, k < xs.length → (xs.getD k noL).e.pl.length ≤ 4) ∧ p.length ≤ 4

end Go.Proofs.YtmjcnlpjnbcfjadGreatDoor
