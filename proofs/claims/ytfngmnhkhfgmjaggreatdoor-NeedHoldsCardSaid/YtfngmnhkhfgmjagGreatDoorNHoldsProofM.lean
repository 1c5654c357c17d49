/-
  For every outline, all entries, every two places and every number the Go function tallylaw2.NeedHolds returns true, in whatever memory it is called: a number that is written changes no cell but those that need.Dirty tells, and a place is among these just if the other is among its leafs.
  Conditions: the listed package-level variables of Go's library begin as the program's text lays them (the card ties them to the pruned copy of the project); it writes nothing but memory that it makes.
-/
import Derived.Test.YtfngmnhkhfgmjagGreatDoorRows
import Derived.Test.YtfngmnhkhfgmjagGreatDoorTie
import Derived.Test.YtfngmnhkhfgmjagGreatDoorCards
import Derived.Test.YtfngmnhkhfgmjagGreatDoorNHoldsProofMN
import Derived.ProofKit
import Derived.LaidMore
import Derived.LaidLaws
import Derived.LaidHandle
import Derived.OpenShut
import Derived.SizedLaws
import Derived.Stop.Joined
import Derived.Stop.LaidErr
import Derived.Lib.SmallJoins
import Derived.SevenTiedAt
import Derived.Carry
namespace Go.Proofs.YtfngmnhkhfgmjagGreatDoor
open Go
theorem needHolds_holds : Rows.NeedHoldsCardSaid :=
  Claim7.holds_tied_plain_at .later [] [.data, .data, .data, .sentinel, .sentinel] true (true, "935a7610d1b52f643850ceaa417010dd89ed808a1892875a7c48d4cddcdce9b7") true
    needHolds.said (fun _ h => by cases h) (by kernel_rfl) (fun _ h => by cases h) needHolds_row_tie rfl ⟨rfl, rfl⟩ (by kernel_rfl) rfl
    (fun f fn hf hfn => by
      obtain rfl : f = 6 := Option.some.inj ((show Tryz.prog.funcNamed "tallyhall/tallylaw2.NeedHolds" = some 6 by kernel_rfl).symm.trans hf) |>.symm
      obtain rfl : fn = Tryz.f6 := (Option.some.inj (Tryz.func6.symm.trans hfn)).symm
      exact ⟨by kernel_rfl, fun j t ht => by
        rw [Tryz.params6] at ht
        have hm : t ∈ [29, 37, 44, 3, 44] := by simpa using Array.mem_of_getElem? ht
        have hall : ([29, 37, 44, 3, 44].all fun u => !Tryz.prog.wantsStandIn u) = true := by kernel_rfl
        exact (show Tryz.prog.wantsStandIn t = false by simpa using List.all_eq_true.1 hall t hm)⟩)
    (by kernel_rfl)
#print axioms needHolds_holds
end Go.Proofs.YtfngmnhkhfgmjagGreatDoor
