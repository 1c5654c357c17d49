/-
  What path and places of package tree answer, called in whatever memory: a member's path; the places of those of whom a question is told yes: each a list in new memory.
-/
import Derived.Test.YtaodedckffjpgafGreatDoorJXAL
import Derived.Test.YtaodedckffjpgafGreatDoorJXAV
namespace Go.Proofs.YtaodedckffjpgafGreatDoor
open Go.ChangeShapes Go.WideShapes Go.ChangeAt Go.RowKit
set_option maxRecDepth 20000
theorem IntsAt.nil (w:World) (A:Option Addr) (cap:Nat):IntsAt w A cap []:=⟨Nat.zero_le _,Or.inl rfl⟩
theorem own_set {w:World} {base e size n g j:Nat} {v x:Value} {xs:List Value} (h:w.ownsRow base e size v n xs) (hg:g<base):(w.setCell ⟨g,j,none⟩ x).ownsRow base e size v n xs:=by
 refine ⟨h.1,?_⟩
 rcases h.2 with h0 | ⟨g',cap,cur,h1,hb,hg',h2⟩
 ·exact Or.inl h0
 ·refine Or.inr ⟨g',cap,cur,h1,hb,?_,h2⟩
  simp only [World.setCell,Array.getElem?_modify]
  rw [if_neg (by omega)]
  exact hg'
end Go.Proofs.YtaodedckffjpgafGreatDoor
