/-
  For every outline, all entries, every place and every two numbers the Go function tallylaw3.GridTurns returns true, in whatever memory it is called: a grid turned is the grid of the dims the other way round, turned twice it is itself, and at the place itself it has what solve.Value tells there.
  Conditions: the listed package-level variables of Go's library begin as the program's text lays them (the card ties them to the pruned copy of the project); it writes nothing but memory that it makes.
-/
import Derived.Test.YtmmpanbkmpdnkahGreatDoorRows
import Derived.Test.YtmmpanbkmpdnkahGreatDoorTie
import Derived.Test.YtmmpanbkmpdnkahGreatDoorCards
import Derived.Test.YtmmpanbkmpdnkahGreatDoorGTurnsProofMN
import Derived.ProofKit
import Derived.LaidMore
import Derived.LaidLaws
import Derived.LaidHandle
import Derived.OpenShut
import Derived.SizedLaws
import Derived.Stop.Joined
import Derived.Stop.LaidErr
import Derived.Lib.SmallJoins
import Derived.SevenTiedAt
import Derived.Carry
namespace Go.Proofs.YtmmpanbkmpdnkahGreatDoor
open Go
theorem gridTurns_holds : Rows.GridTurnsCardSaid :=
  Claim7.holds_tied_plain_at .later [] [.data, .data, .data, .sentinel, .sentinel] true (true, "93e187dab51760bd901561b15d4dc20f88d347b9eb898b7a957535b3bf28df5a") true
    gridTurns.said (fun _ h => by cases h) (by as_aux_lemma => kernel_rfl) (fun _ h => by cases h) gridTurns_row_tie rfl ⟨rfl, rfl⟩ (by as_aux_lemma => kernel_rfl) rfl
    (fun f fn hf hfn => by
      obtain rfl : f = 7 := Option.some.inj ((show Tryz.prog.funcNamed "tallyhall/tallylaw3.GridTurns" = some 7 by as_aux_lemma => kernel_rfl).symm.trans hf) |>.symm
      obtain rfl : fn = Tryz.f7 := (Option.some.inj (Tryz.func7.symm.trans hfn)).symm
      exact ⟨(by as_aux_lemma => kernel_rfl), fun j t ht => by
        rw [Tryz.params7] at ht
        have hm : t ∈ [30, 48, 35, 3, 3] := by simpa using Array.mem_of_getElem? ht
        have hall : ([30, 48, 35, 3, 3].all fun u => !Tryz.prog.wantsStandIn u) = true := by as_aux_lemma => kernel_rfl
        exact (show Tryz.prog.wantsStandIn t = false by simpa using List.all_eq_true.1 hall t hm)⟩)
    (by as_aux_lemma => kernel_rfl)
#print axioms gridTurns_holds
end Go.Proofs.YtmmpanbkmpdnkahGreatDoor
