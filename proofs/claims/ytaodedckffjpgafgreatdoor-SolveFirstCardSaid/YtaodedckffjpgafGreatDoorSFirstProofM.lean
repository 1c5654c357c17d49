/-
  For every four numbers and either word the Go function tallylaw4.SolveFirst returns true, in whatever memory it is called: of a cube of a ratio and a sum, where the dim of the ratio solves last, the ratio of the sums is told, and else the sum of the ratios.
  Conditions: the listed package-level variables of Go's library begin as the program's text lays them (the card ties them to the pruned copy of the project); it writes nothing but memory that it makes.
-/
import Derived.Test.YtaodedckffjpgafGreatDoorRows
import Derived.Test.YtaodedckffjpgafGreatDoorTie
import Derived.Test.YtaodedckffjpgafGreatDoorCards
import Derived.Test.YtaodedckffjpgafGreatDoorSFirstProofMN
import Derived.ProofKit
import Derived.LaidMore
import Derived.LaidLaws
import Derived.LaidHandle
import Derived.OpenShut
import Derived.SizedLaws
import Derived.Stop.Joined
import Derived.Stop.LaidErr
import Derived.Lib.SmallJoins
import Derived.SevenTiedAt
import Derived.Carry
namespace Go.Proofs.YtaodedckffjpgafGreatDoor
open Go
theorem solveFirst_holds : Rows.SolveFirstCardSaid :=
  Claim7.holds_tied_plain_at .later [] [.data, .data, .data, .sentinel, .sentinel] true (true, "ab0b219bb6515d76e4fdc9f05250af507b0735aa821f31e435cd5466e6a9bafd") true
    solveFirst.said (fun _ h => by cases h) (by kernel_rfl) (fun _ h => by cases h) solveFirst_row_tie rfl ⟨rfl, rfl⟩ (by kernel_rfl) rfl
    (fun f fn hf hfn => by
      obtain rfl : f = 7 := Option.some.inj ((show Tryz.prog.funcNamed "tallyhall/tallylaw4.SolveFirst" = some 7 by kernel_rfl).symm.trans hf) |>.symm
      obtain rfl : fn = Tryz.f7 := (Option.some.inj (Tryz.func7.symm.trans hfn)).symm
      exact ⟨by kernel_rfl, fun j t ht => by
        rw [Tryz.params7] at ht
        have hm : t ∈ [3, 3, 3, 3, 4] := by simpa using Array.mem_of_getElem? ht
        have hall : ([3, 3, 3, 3, 4].all fun u => !Tryz.prog.wantsStandIn u) = true := by kernel_rfl
        exact (show Tryz.prog.wantsStandIn t = false by simpa using List.all_eq_true.1 hall t hm)⟩)
    (by kernel_rfl)
#print axioms solveFirst_holds
end Go.Proofs.YtaodedckffjpgafGreatDoor
