/-
  What places of package tree answers: the places of those of whom a question is told yes; slices.Index, IndexFunc, Contains, ContainsFunc over ints; what check of package tree answers.
-/
import Derived.Test.YtfngmnhkhfgmjacDoorJIAM
namespace Go.Proofs.YtfngmnhkhfgmjacDoor
open Go.ChangeShapes Go.WideShapes Go.ChangeAt Go.RowKit
set_option maxRecDepth 20000
def AskP (fn q r : Nat) (w : World) (n : Nat) (p : Nat → Bool) : Prop := ∀ (i : Nat) (w' : World), i < n → Below w.heap.size w w' → Calls Tryd.prog fn #[.int .i64 i, .pointer (some ⟨q, 0, none⟩), .pointer (some ⟨r, 0, none⟩)] w' fun e w'' => e = .returned (.bool (p i)) ∧ Below w'.heap.size w' w''
end Go.Proofs.YtfngmnhkhfgmjacDoor
