/-
  For every number and all numbers the Go function tallylaw4.HallCounts returns true, in whatever memory it is called: in a square of at most nine parts a side each edit of a leaf makes four cells be reckoned anew, and the cell of the whole is the sum of what was written last at each leaf.
  Conditions: the listed package-level variables of Go's library begin as the program's text lays them (the card ties them to the pruned copy of the project); it writes nothing but memory that it makes.
-/
import Derived.Test.YtfgegmpoejilnaaGreatDoorRows
import Derived.Test.YtfgegmpoejilnaaGreatDoorTie
import Derived.Test.YtfgegmpoejilnaaGreatDoorCards
import Derived.Test.YtfgegmpoejilnaaGreatDoorHCountsProofMN
import Derived.ProofKit
import Derived.LaidMore
import Derived.LaidLaws
import Derived.LaidHandle
import Derived.OpenShut
import Derived.SizedLaws
import Derived.Stop.Joined
import Derived.Stop.LaidErr
import Derived.Lib.SmallJoins
import Derived.SevenTiedAt
import Derived.Carry
namespace Go.Proofs.YtfgegmpoejilnaaGreatDoor
open Go
theorem hallCounts_holds : Rows.HallCountsCardSaid :=
  Claim7.holds_tied_plain_at .later [] [.data, .data, .data, .sentinel, .sentinel] true (true, "299648428495dbf369d41fce2faf7b509e88da1afe854db3aced64e87972dfc9") true
    hallCounts.said (fun _ h => by cases h) (by as_aux_lemma => kernel_rfl) (fun _ h => by cases h) hallCounts_row_tie rfl ⟨rfl, rfl⟩ (by as_aux_lemma => kernel_rfl) rfl
    (fun f fn hf hfn => by
      obtain rfl : f = 4 := Option.some.inj ((show Tryz.prog.funcNamed "tallyhall/tallylaw4.HallCounts" = some 4 by as_aux_lemma => kernel_rfl).symm.trans hf) |>.symm
      obtain rfl : fn = Tryz.f4 := (Option.some.inj (Tryz.func4.symm.trans hfn)).symm
      exact ⟨(by as_aux_lemma => kernel_rfl), fun j t ht => by
        rw [Tryz.params4] at ht
        have hm : t ∈ [3, 38] := by simpa using Array.mem_of_getElem? ht
        have hall : ([3, 38].all fun u => !Tryz.prog.wantsStandIn u) = true := by as_aux_lemma => kernel_rfl
        exact (show Tryz.prog.wantsStandIn t = false by simpa using List.all_eq_true.1 hall t hm)⟩)
    (by as_aux_lemma => kernel_rfl)
#print axioms hallCounts_holds
end Go.Proofs.YtfgegmpoejilnaaGreatDoor
