/-
  For every outline, all entries, every place, every two numbers and every grid, together of at most 1048576 values and letters, the Go function tallylaw3.GridTells returns true, in whatever memory it is called: what Make, Check, Turn and Lines of package grid tell is what the document asks (tallyref2: Cube, Solve, GridCheck; tallyref1: Place, Number, Right, Show).
  Conditions: the bound (of a grid without rows and with 2^43 columns both the program's Turn and the document's own answer hold a list for each column: more than a slice can hold); the listed package-level variables of Go's library begin as the program's text lays them (the card ties them to the pruned copy of the project); it writes nothing but memory that it makes.
-/
import Derived.Test.YthlhjjabkgpenaaGreatDoorRows
import Derived.Test.YthlhjjabkgpenaaGreatDoorTie
import Derived.Test.YthlhjjabkgpenaaGreatDoorCards
import Derived.Test.YthlhjjabkgpenaaGreatDoorGTellsProofMN
import Derived.ProofKit
import Derived.LaidMore
import Derived.LaidLaws
import Derived.LaidHandle
import Derived.OpenShut
import Derived.SizedLaws
import Derived.Stop.Joined
import Derived.Stop.LaidErr
import Derived.Lib.SmallJoins
import Derived.SevenTiedAt
import Derived.Carry
import Derived.Deep.DeepHandedRow
namespace Go.Proofs.YthlhjjabkgpenaaGreatDoor
open Go
theorem gridTells_holds : Rows.GridTellsUptoCardSaid :=
  Claim7.holds_tied_plain_at .later [] [.data, .data, .data, .handle, .sentinel, .sentinel] true (true, "ffc73bab92a690e2391eb39538d4a56fa5bb9163e7cafd1e025c49ae70226d4d") true
    gridTells.said (fun _ h => by cases h) (by as_aux_lemma => kernel_rfl) (fun _ h => by cases h) gridTellsUpto_row_tie rfl ⟨rfl, rfl⟩ (by as_aux_lemma => kernel_rfl) rfl
    (fun f fn hf hfn => by
      obtain rfl : f = 3 := Option.some.inj ((show Tryz.prog.funcNamed "tallyhall/tallylaw3.GridTells" = some 3 by as_aux_lemma => kernel_rfl).symm.trans hf) |>.symm
      obtain rfl : fn = Tryz.f3 := (Option.some.inj (Tryz.func3.symm.trans hfn)).symm
      exact ⟨(by as_aux_lemma => kernel_rfl), fun j t ht => by
        rw [Tryz.params3] at ht
        have hm : t ∈ [24, 25, 27, 3, 3, 30] := by simpa using Array.mem_of_getElem? ht
        have hall : ([24, 25, 27, 3, 3, 30].all fun u => !Tryz.prog.wantsStandIn u) = true := by as_aux_lemma => kernel_rfl
        exact (show Tryz.prog.wantsStandIn t = false by simpa using List.all_eq_true.1 hall t hm)⟩)
    (by as_aux_lemma => kernel_rfl)
#print axioms gridTells_holds
end Go.Proofs.YthlhjjabkgpenaaGreatDoor
