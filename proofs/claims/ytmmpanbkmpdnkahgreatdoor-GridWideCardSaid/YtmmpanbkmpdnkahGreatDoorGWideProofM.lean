/-
  For every number the Go function tallylaw4.GridWide returns true, in whatever memory it is called: the grid of a square of at most nine parts a side has a row and a column for each member, and a line more than rows.
  Conditions: the listed package-level variables of Go's library begin as the program's text lays them (the card ties them to the pruned copy of the project); it writes nothing but memory that it makes.
-/
import Derived.Test.YtmmpanbkmpdnkahGreatDoorRows
import Derived.Test.YtmmpanbkmpdnkahGreatDoorTie
import Derived.Test.YtmmpanbkmpdnkahGreatDoorCards
import Derived.Test.YtmmpanbkmpdnkahGreatDoorGWideProofMN
import Derived.ProofKit
import Derived.LaidMore
import Derived.LaidLaws
import Derived.LaidHandle
import Derived.OpenShut
import Derived.SizedLaws
import Derived.Stop.Joined
import Derived.Stop.LaidErr
import Derived.Lib.SmallJoins
import Derived.SevenTiedAt
import Derived.Carry
namespace Go.Proofs.YtmmpanbkmpdnkahGreatDoor
open Go
theorem gridWide_holds : Rows.GridWideCardSaid :=
  Claim7.holds_tied_plain_at .later [] [.data, .data, .data, .sentinel, .sentinel] true (true, "93e187dab51760bd901561b15d4dc20f88d347b9eb898b7a957535b3bf28df5a") true
    gridWide.said (fun _ h => by cases h) (by as_aux_lemma => kernel_rfl) (fun _ h => by cases h) gridWide_row_tie rfl ⟨rfl, rfl⟩ (by as_aux_lemma => kernel_rfl) rfl
    (fun f fn hf hfn => by
      obtain rfl : f = 8 := Option.some.inj ((show Tryz.prog.funcNamed "tallyhall/tallylaw4.GridWide" = some 8 by as_aux_lemma => kernel_rfl).symm.trans hf) |>.symm
      obtain rfl : fn = Tryz.f8 := (Option.some.inj (Tryz.func8.symm.trans hfn)).symm
      exact ⟨(by as_aux_lemma => kernel_rfl), fun j t ht => by
        rw [Tryz.params8] at ht
        have hm : t ∈ [3] := by simpa using Array.mem_of_getElem? ht
        have hall : ([3].all fun u => !Tryz.prog.wantsStandIn u) = true := by as_aux_lemma => kernel_rfl
        exact (show Tryz.prog.wantsStandIn t = false by simpa using List.all_eq_true.1 hall t hm)⟩)
    (by as_aux_lemma => kernel_rfl)
#print axioms gridWide_holds
end Go.Proofs.YtmmpanbkmpdnkahGreatDoor
