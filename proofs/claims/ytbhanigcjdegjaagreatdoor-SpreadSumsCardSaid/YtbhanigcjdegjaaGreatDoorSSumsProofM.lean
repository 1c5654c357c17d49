/-
  For every two numbers, all weights, every outline, all entries and every place the Go function tallylaw3.SpreadSums returns true, in whatever memory it is called: parts are together what was spread, evenly or by weights, each within 1 of its share; what is spread on the leafs of a place is taken by input.All and comes together at the place.
  Conditions: the listed package-level variables of Go's library begin as the program's text lays them (the card ties them to the pruned copy of the project); it writes nothing but memory that it makes.
-/
import Derived.Test.YtbhanigcjdegjaaGreatDoorRows
import Derived.Test.YtbhanigcjdegjaaGreatDoorTie
import Derived.Test.YtbhanigcjdegjaaGreatDoorCards
import Derived.Test.YtbhanigcjdegjaaGreatDoorSSumsProofMN
import Derived.ProofKit
import Derived.LaidMore
import Derived.LaidLaws
import Derived.LaidHandle
import Derived.OpenShut
import Derived.SizedLaws
import Derived.Stop.Joined
import Derived.Stop.LaidErr
import Derived.Lib.SmallJoins
import Derived.SevenTiedAt
import Derived.Carry
namespace Go.Proofs.YtbhanigcjdegjaaGreatDoor
open Go
theorem spreadSums_holds : Rows.SpreadSumsCardSaid :=
  Claim7.holds_tied_plain_at .later [] [.data, .data, .data, .sentinel, .sentinel] true (true, "b3221ca4f440c646fe6c578eebb00046e301a8bd696328d3bc244cf6c1d56d94") true
    spreadSums.said (fun _ h => by cases h) (by as_aux_lemma => kernel_rfl) (fun _ h => by cases h) spreadSums_row_tie rfl ⟨rfl, rfl⟩ (by as_aux_lemma => kernel_rfl) rfl
    (fun f fn hf hfn => by
      obtain rfl : f = 3 := Option.some.inj ((show Tryz.prog.funcNamed "tallyhall/tallylaw3.SpreadSums" = some 3 by as_aux_lemma => kernel_rfl).symm.trans hf) |>.symm
      obtain rfl : fn = Tryz.f3 := (Option.some.inj (Tryz.func3.symm.trans hfn)).symm
      exact ⟨(by as_aux_lemma => kernel_rfl), fun j t ht => by
        rw [Tryz.params3] at ht
        have hm : t ∈ [3, 3, 22, 25, 26, 27] := by simpa using Array.mem_of_getElem? ht
        have hall : ([3, 3, 22, 25, 26, 27].all fun u => !Tryz.prog.wantsStandIn u) = true := by as_aux_lemma => kernel_rfl
        exact (show Tryz.prog.wantsStandIn t = false by simpa using List.all_eq_true.1 hall t hm)⟩)
    (by as_aux_lemma => kernel_rfl)
#print axioms spreadSums_holds
end Go.Proofs.YtbhanigcjdegjaaGreatDoor
