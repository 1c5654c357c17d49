/-
  For every number the Go function tallylaw4.CalcEmpty returns true, in whatever memory it is called: of a square of at most nine parts a side in which nothing is written All tells as many cells as there are places, all of them empty, and Faults none.
  Conditions: the listed package-level variables of Go's library begin as the program's text lays them (the card ties them to the pruned copy of the project); it writes nothing but memory that it makes.
-/
import Derived.Test.YtigkeokacagabagGreatDoorRows
import Derived.Test.YtigkeokacagabagGreatDoorTie
import Derived.Test.YtigkeokacagabagGreatDoorCards
import Derived.Test.YtigkeokacagabagGreatDoorCEmptyProofMN
import Derived.ProofKit
import Derived.LaidMore
import Derived.LaidLaws
import Derived.LaidHandle
import Derived.OpenShut
import Derived.SizedLaws
import Derived.Stop.Joined
import Derived.Stop.LaidErr
import Derived.Lib.SmallJoins
import Derived.SevenTiedAt
import Derived.Carry
namespace Go.Proofs.YtigkeokacagabagGreatDoor
open Go
theorem calcEmpty_holds : Rows.CalcEmptyCardSaid :=
  Claim7.holds_tied_plain_at .later [] [.data, .data, .data, .sentinel, .sentinel] true (true, "96671a60dfd02a69755d914d17898ea0897789114005759ff7240b09b5a68928") true
    calcEmpty.said (fun _ h => by cases h) (by kernel_rfl) (fun _ h => by cases h) calcEmpty_row_tie rfl ⟨rfl, rfl⟩ (by kernel_rfl) rfl
    (fun f fn hf hfn => by
      obtain rfl : f = 3 := Option.some.inj ((show Tryz.prog.funcNamed "tallyhall/tallylaw4.CalcEmpty" = some 3 by kernel_rfl).symm.trans hf) |>.symm
      obtain rfl : fn = Tryz.f3 := (Option.some.inj (Tryz.func3.symm.trans hfn)).symm
      exact ⟨by kernel_rfl, fun j t ht => by
        rw [Tryz.params3] at ht
        have hm : t ∈ [3] := by simpa using Array.mem_of_getElem? ht
        have hall : ([3].all fun u => !Tryz.prog.wantsStandIn u) = true := by kernel_rfl
        exact (show Tryz.prog.wantsStandIn t = false by simpa using List.all_eq_true.1 hall t hm)⟩)
    (by kernel_rfl)
#print axioms calcEmpty_holds
end Go.Proofs.YtigkeokacagabagGreatDoor
