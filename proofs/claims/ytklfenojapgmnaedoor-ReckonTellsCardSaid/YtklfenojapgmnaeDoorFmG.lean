/-
  What read of package formula answers, in whatever memory: a reading that goes well, or the byte at which a panic ended it.
-/
import Derived.Test.YtklfenojapgmnaeDoorFmF
import Derived.Laws.EntriesVeiled
namespace Go.Proofs.YtklfenojapgmnaeDoor
open Go.ChangeShapes Go.WideShapes Go.ChangeAt Go.RowKit
set_option maxRecDepth 20000

theorem one_of {w : World} {q T : Nat} {v : Value} (h : w.heap[q]? = some (.cells #[v] T (0, 0))) : w.cell? ⟨q, 0, none⟩ = some v ∧ w.frozen? ⟨q, 0, none⟩ = false := ⟨by simp [World.cell?, h], by simp [World.frozen?, h]⟩

end Go.Proofs.YtklfenojapgmnaeDoor
