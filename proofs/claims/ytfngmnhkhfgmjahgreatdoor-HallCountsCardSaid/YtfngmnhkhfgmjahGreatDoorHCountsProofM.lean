/-
  For every number and all numbers the Go function tallylaw4.HallCounts returns true, in whatever memory it is called: in a square of at most nine parts a side each edit of a leaf makes four cells be reckoned anew, and the cell of the whole is the sum of what was written last at each leaf.
  Conditions: the listed package-level variables of Go's library begin as the program's text lays them (the card ties them to the pruned copy of the project); it writes nothing but memory that it makes.
-/
import Derived.Test.YtfngmnhkhfgmjahGreatDoorRows
import Derived.Test.YtfngmnhkhfgmjahGreatDoorTie
import Derived.Test.YtfngmnhkhfgmjahGreatDoorCards
import Derived.Test.YtfngmnhkhfgmjahGreatDoorHCountsProofMN
import Derived.ProofKit
import Derived.LaidMore
import Derived.LaidLaws
import Derived.LaidHandle
import Derived.OpenShut
import Derived.SizedLaws
import Derived.Stop.Joined
import Derived.Stop.LaidErr
import Derived.Lib.SmallJoins
import Derived.SevenTiedAt
import Derived.Carry
namespace Go.Proofs.YtfngmnhkhfgmjahGreatDoor
open Go
theorem hallCounts_holds : Rows.HallCountsCardSaid :=
  Claim7.holds_tied_plain_at .later [] [.data, .data, .data, .sentinel, .sentinel] true (true, "1b98df73662356c765e58d546fa90ec98b6d970cefe68686a0ad5a7d46583556") true
    hallCounts.said (fun _ h => by cases h) (by kernel_rfl) (fun _ h => by cases h) hallCounts_row_tie rfl ⟨rfl, rfl⟩ (by kernel_rfl) rfl
    (fun f fn hf hfn => by
      obtain rfl : f = 3 := Option.some.inj ((show Tryz.prog.funcNamed "tallyhall/tallylaw4.HallCounts" = some 3 by kernel_rfl).symm.trans hf) |>.symm
      obtain rfl : fn = Tryz.f3 := (Option.some.inj (Tryz.func3.symm.trans hfn)).symm
      exact ⟨by kernel_rfl, fun j t ht => by
        rw [Tryz.params3] at ht
        have hm : t ∈ [3, 22] := by simpa using Array.mem_of_getElem? ht
        have hall : ([3, 22].all fun u => !Tryz.prog.wantsStandIn u) = true := by kernel_rfl
        exact (show Tryz.prog.wantsStandIn t = false by simpa using List.all_eq_true.1 hall t hm)⟩)
    (by kernel_rfl)
#print axioms hallCounts_holds
end Go.Proofs.YtfngmnhkhfgmjahGreatDoor
