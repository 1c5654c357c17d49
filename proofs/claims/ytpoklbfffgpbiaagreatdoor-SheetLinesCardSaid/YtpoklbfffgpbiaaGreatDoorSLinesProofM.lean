/-
  For every outline and all entries the Go function tallylaw4.SheetLines returns true, in whatever memory it is called: what sheet.Print writes of a cube has as many lines as the cube has dims, members and entries together; of one dim of one member it is the text that the law names.
  Conditions: the listed package-level variables of Go's library begin as the program's text lays them (the card ties them to the pruned copy of the project); it writes nothing but memory that it makes.
-/
import Derived.Test.YtpoklbfffgpbiaaGreatDoorRows
import Derived.Test.YtpoklbfffgpbiaaGreatDoorTie
import Derived.Test.YtpoklbfffgpbiaaGreatDoorCards
import Derived.Test.YtpoklbfffgpbiaaGreatDoorSLinesProofMN
import Derived.ProofKit
import Derived.LaidMore
import Derived.LaidLaws
import Derived.LaidHandle
import Derived.OpenShut
import Derived.SizedLaws
import Derived.Stop.Joined
import Derived.Stop.LaidErr
import Derived.Lib.SmallJoins
import Derived.SevenTiedAt
import Derived.Carry
namespace Go.Proofs.YtpoklbfffgpbiaaGreatDoor
open Go
theorem sheetLines_holds : Rows.SheetLinesCardSaid :=
  Claim7.holds_tied_plain_at .later [] [.data, .data, .data, .sentinel, .sentinel] true (true, "826c90467a85ce545eab22bb0369d742750a1af1e324d9d260a1a54f3fdb3941") true
    sheetLines.said (fun _ h => by cases h) (by as_aux_lemma => kernel_rfl) (fun _ h => by cases h) sheetLines_row_tie rfl ⟨rfl, rfl⟩ (by as_aux_lemma => kernel_rfl) rfl
    (fun f fn hf hfn => by
      obtain rfl : f = 4 := Option.some.inj ((show Tryz.prog.funcNamed "tallyhall/tallylaw4.SheetLines" = some 4 by as_aux_lemma => kernel_rfl).symm.trans hf) |>.symm
      obtain rfl : fn = Tryz.f4 := (Option.some.inj (Tryz.func4.symm.trans hfn)).symm
      exact ⟨(by as_aux_lemma => kernel_rfl), fun j t ht => by
        rw [Tryz.params4] at ht
        have hm : t ∈ [24, 25] := by simpa using Array.mem_of_getElem? ht
        have hall : ([24, 25].all fun u => !Tryz.prog.wantsStandIn u) = true := by as_aux_lemma => kernel_rfl
        exact (show Tryz.prog.wantsStandIn t = false by simpa using List.all_eq_true.1 hall t hm)⟩)
    (by as_aux_lemma => kernel_rfl)
#print axioms sheetLines_holds
end Go.Proofs.YtpoklbfffgpbiaaGreatDoor
