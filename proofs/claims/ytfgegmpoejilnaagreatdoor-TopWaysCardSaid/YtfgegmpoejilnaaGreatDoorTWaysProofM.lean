/-
  For every outline, all entries, every place and all numbers the Go function tallytop.TopWays returns true, in whatever memory it is called: in a cube without formulas, of at most sixty entries, what roll.Value tells of a place is what solve.Value tells there, what a hall has of it behind the entries as edits, and what fold.All has at its number in whichever order.
  Conditions: the listed package-level variables of Go's library begin as the program's text lays them (the card ties them to the pruned copy of the project); it writes nothing but memory that it makes.
-/
import Derived.Test.YtfgegmpoejilnaaGreatDoorRows
import Derived.Test.YtfgegmpoejilnaaGreatDoorTie
import Derived.Test.YtfgegmpoejilnaaGreatDoorCards
import Derived.Test.YtfgegmpoejilnaaGreatDoorTWaysProofMN
import Derived.ProofKit
import Derived.LaidMore
import Derived.LaidLaws
import Derived.LaidHandle
import Derived.OpenShut
import Derived.SizedLaws
import Derived.Stop.Joined
import Derived.Stop.LaidErr
import Derived.Lib.SmallJoins
import Derived.SevenTiedAt
import Derived.Carry
namespace Go.Proofs.YtfgegmpoejilnaaGreatDoor
open Go
theorem topWays_holds : Rows.TopWaysCardSaid :=
  Claim7.holds_tied_plain_at .later [] [.data, .data, .data, .sentinel, .sentinel] true (true, "299648428495dbf369d41fce2faf7b509e88da1afe854db3aced64e87972dfc9") true
    topWays.said (fun _ h => by cases h) (by as_aux_lemma => kernel_rfl) (fun _ h => by cases h) topWays_row_tie rfl ⟨rfl, rfl⟩ (by as_aux_lemma => kernel_rfl) rfl
    (fun f fn hf hfn => by
      obtain rfl : f = 5 := Option.some.inj ((show Tryz.prog.funcNamed "tallyhall/tallytop.TopWays" = some 5 by as_aux_lemma => kernel_rfl).symm.trans hf) |>.symm
      obtain rfl : fn = Tryz.f5 := (Option.some.inj (Tryz.func5.symm.trans hfn)).symm
      exact ⟨(by as_aux_lemma => kernel_rfl), fun j t ht => by
        rw [Tryz.params5] at ht
        have hm : t ∈ [24, 46, 39, 38] := by simpa using Array.mem_of_getElem? ht
        have hall : ([24, 46, 39, 38].all fun u => !Tryz.prog.wantsStandIn u) = true := by as_aux_lemma => kernel_rfl
        exact (show Tryz.prog.wantsStandIn t = false by simpa using List.all_eq_true.1 hall t hm)⟩)
    (by as_aux_lemma => kernel_rfl)
#print axioms topWays_holds
end Go.Proofs.YtfgegmpoejilnaaGreatDoor
