/-
  For every outline and all entries the Go function tallylaw2.CalcTells returns true, in whatever memory it is called: what All, Faults and Order of package calc tell is what the document asks (tallyref2: Cube, Solve, Right, AllTold, Behind; tallyref1: At).
  Conditions: the listed package-level variables of Go's library begin as the program's text lays them (the card ties them to the pruned copy of the project); it writes nothing but memory that it makes.
-/
import Derived.Test.YtigkeokacagabafGreatDoorRows
import Derived.Test.YtigkeokacagabafGreatDoorTie
import Derived.Test.YtigkeokacagabafGreatDoorCards
import Derived.Test.YtigkeokacagabafGreatDoorCTellProofMN
import Derived.ProofKit
import Derived.LaidMore
import Derived.LaidLaws
import Derived.LaidHandle
import Derived.OpenShut
import Derived.SizedLaws
import Derived.Stop.Joined
import Derived.Stop.LaidErr
import Derived.Lib.SmallJoins
import Derived.SevenTiedAt
import Derived.Carry
namespace Go.Proofs.YtigkeokacagabafGreatDoor
open Go
theorem calcTells_holds : Rows.CalcTellsCardSaid :=
  Claim7.holds_tied_plain_at .later [] [.data, .data, .data, .handle, .sentinel, .sentinel] true (true, "ab0b219bb6515d76e4fdc9f05250af507b0735aa821f31e435cd5466e6a9bafd") true
    calcTells.said (fun _ h => by cases h) (by kernel_rfl) (fun _ h => by cases h) calcTells_row_tie rfl ⟨rfl, rfl⟩ (by kernel_rfl) rfl
    (fun f fn hf hfn => by
      obtain rfl : f = 8 := Option.some.inj ((show Tryz.prog.funcNamed "tallyhall/tallylaw2.CalcTells" = some 8 by kernel_rfl).symm.trans hf) |>.symm
      obtain rfl : fn = Tryz.f8 := (Option.some.inj (Tryz.func8.symm.trans hfn)).symm
      exact ⟨by kernel_rfl, fun j t ht => by
        rw [Tryz.params8] at ht
        have hm : t ∈ [42, 43] := by simpa using Array.mem_of_getElem? ht
        have hall : ([42, 43].all fun u => !Tryz.prog.wantsStandIn u) = true := by kernel_rfl
        exact (show Tryz.prog.wantsStandIn t = false by simpa using List.all_eq_true.1 hall t hm)⟩)
    (by kernel_rfl)
#print axioms calcTells_holds
end Go.Proofs.YtigkeokacagabafGreatDoor
