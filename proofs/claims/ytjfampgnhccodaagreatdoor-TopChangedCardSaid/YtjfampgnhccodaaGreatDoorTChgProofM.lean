/-
  For every outline, all entries and all changes the Go function tallytop.TopChanged returns true, in whatever memory it is called: behind the first ten changes (those that Do refuses are passed by) the entries are right; where a cube of at most sixty entries comes to something, the cells of a hall of it, behind these entries as edits, are those that calc.All tells, and what sheet.Print writes of it is read as it is.
  Conditions: the listed package-level variables of Go's library begin as the program's text lays them (the card ties them to the text); internal/bytealg.MaxLen holds an int. Outlines, entries and changes of any kind, nil or not, shared or not.
-/
import Derived.Test.YtjfampgnhccodaaGreatDoorRows
import Derived.Test.YtjfampgnhccodaaGreatDoorTie
import Derived.Test.YtjfampgnhccodaaGreatDoorCards
import Derived.Test.YtjfampgnhccodaaGreatDoorTChgProofMN
import Derived.ProofKit
import Derived.LaidMore
import Derived.LaidLaws
import Derived.LaidHandle
import Derived.OpenShut
import Derived.SizedLaws
import Derived.Stop.Joined
import Derived.Stop.LaidErr
import Derived.Lib.SmallJoins
import Derived.SevenTiedAt
import Derived.Carry
import Derived.Lay
import Derived.Deep.DeepHandedRow
import Derived.Shelf.Vars
namespace Go.Proofs.YtjfampgnhccodaaGreatDoor
open Go
theorem topChanged_holds : Rows.TopChangedCardSaid :=
  Claim7.holds_tied_plain_at .later [] [.data, .data, .data, .data, .sentinel, .sentinel, .pinned] true (true, "06407785923536a66e03d415f22de44d88df83ab492004349e5a4f4120392999") true
    topChanged.said (fun _ h => by cases h) (by as_aux_lemma => kernel_rfl) (fun _ h => by cases h) topChanged_row_tie rfl ⟨rfl, rfl⟩ (by as_aux_lemma => kernel_rfl) rfl
    (fun f fn hf hfn => by
      obtain rfl : f = 3 := Option.some.inj ((show Tryz.prog.funcNamed "tallyhall/tallytop.TopChanged" = some 3 by as_aux_lemma => kernel_rfl).symm.trans hf) |>.symm
      obtain rfl : fn = Tryz.f3 := (Option.some.inj (Tryz.func3.symm.trans hfn)).symm
      exact ⟨(by as_aux_lemma => kernel_rfl), fun j t ht => by
        rw [Tryz.params3] at ht
        have hm : t ∈ [24, 25, 26] := by simpa using Array.mem_of_getElem? ht
        have hall : ([24, 25, 26].all fun u => !Tryz.prog.wantsStandIn u) = true := by as_aux_lemma => kernel_rfl
        exact (show Tryz.prog.wantsStandIn t = false by simpa using List.all_eq_true.1 hall t hm)⟩)
    (by as_aux_lemma => kernel_rfl)
#print axioms topChanged_holds
end Go.Proofs.YtjfampgnhccodaaGreatDoor
