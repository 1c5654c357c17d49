/-
  tallylaw1.InputTells returns true for every outline, all entries, every place, number and edits, called in whatever memory; and what is read of an argument that is a list of edits.
-/
import Derived.Test.YtfngmnhkhfgmjacDoorJIBQ
import Derived.Test.YtfngmnhkhfgmjacDoorJIBR
namespace Go.Proofs.YtfngmnhkhfgmjacDoor
open Go Go.ChangeShapes Go.WideShapes Go.ChangeAt Go.RowKit Go.Deep
set_option maxRecDepth 100000
theorem tells_any (A0 : Option Addr) (cap n : Nat) (D : Nat → Dm) (A : Nat → Option Addr) (C : Nat → Nat) (AE : Option Addr) (ce : Nat) (xs : List EnL) (Ap : Option Addr) (cp : Nat) (p : List Int) (N : Int) (AX : Option Addr) (cx : Nat) (ys : List EdL) (w : World) (hM : DimsV w A0 cap n D A C) (hE : EnsN w AE ce xs) (hP : PlAt w Ap cp p) (hX : EdsV w AX cx ys) (hK : Kind0 w) :
  Calls Tryd.prog 5 #[.agg #[.slice A0 n cap], .slice AE xs.length ce, .slice Ap p.length cp, .int .i64 N, .slice AX ys.length cx] w fun e w' => e = .returned (.bool true) ∧ Below w.heap.size w w' := by
 have hB0 := ownOut_below w A0 n cap 24
 have hT : Tells (ownOut w A0 n cap 24) A0 cap n AE xs.length ce Ap p.length cp N AX ys.length cx (entsErr D n (lE xs)) (getErr D n (lE xs) p) (getV D n (lE xs) p).1 (getV D n (lE xs) p).2 (changeErr D n (lE xs) ⟨p, N, false⟩) (changeErr D n (lE xs) ⟨p, 0, true⟩) (editsV D n (lE xs) (lD ys)).2.1 (editsV D n (lE xs) (lD ys)).2.2 (pickL (changeErr D n (lE xs) ⟨p, N, false⟩) (setL (lE xs) p N)) (pickL (changeErr D n (lE xs) ⟨p, 0, true⟩) (clrL (lE xs) p)) (editsV D n (lE xs) (lD ys)).1 := by
  refine ⟨fun w' hw' => ?_, fun w' hw' => ?_, fun c w' hw' => ?_, fun w' hw' => ?_, fun w' hw' => ?_, fun w' hw' => ?_, fun w' hw' => ?_, fun w' hw' => ?_, fun A' B' ca cb zs ws l w' hl hz hw hA hB => ?_⟩
  ·exact rentries_any A0 cap n D A C AE ce xs w' (hM.later (onB hB0 hw')) (hE.1.later (onB hB0 hw'))
  ·exact icheck_any A0 cap n D A C AE ce xs w' (hM.later (onB hB0 hw')) (hE.1.later (onB hB0 hw'))
  ·exact same_err c w' (hK.later (onB hB0 hw'))
  ·exact iget_any A0 cap n D A C AE ce xs Ap cp p w' (hM.later (onB hB0 hw')) (hE.1.later (onB hB0 hw')) (hP.later (onB hB0 hw'))
  ·exact iset_any A0 cap n D A C AE ce xs Ap cp p N w' (hM.later (onB hB0 hw')) (hE.1.later (onB hB0 hw')) (hP.later (onB hB0 hw'))
  ·exact iclear_any A0 cap n D A C AE ce xs Ap cp p 0 w' (hM.later (onB hB0 hw')) (hE.1.later (onB hB0 hw')) (hP.later (onB hB0 hw'))
  ·exact redits_any A0 cap n D A C AE ce xs AX cx ys w' (hM.later (onB hB0 hw')) (hE.later (onB hB0 hw')) (hX.later (onB hB0 hw'))
  ·exact iall_any A0 cap n D A C AE ce xs AX cx ys w' (hM.later (onB hB0 hw')) (hE.1.later (onB hB0 hw')) (hX.later (onB hB0 hw'))
  ·have hOk : l = [] ∨ Ens D n l := by
    rcases hl with rfl | rfl | rfl
    ·exact change_ens (D := D) (n := n) (l := lE xs) ⟨p, N, false⟩
    ·exact change_ens (D := D) (n := n) (l := lE xs) ⟨p, 0, true⟩
    ·exact editsV_ens D n (lE xs) (lD ys)
   exact same_of A' B' ca cb zs ws l w' hz hw hOk hA hB
 by_cases h0 : entsErr D n (lE xs) = 0
 ·have hEs := ens_of h0
  have hG := getErr_in p h0
  have h1 := change_in (⟨p, N, false⟩ : Ed) h0
  have h2 := change_in (⟨p, 0, true⟩ : Ed) h0
  have hI : TellsIn (ownOut w A0 n cap 24) A0 cap n AE xs.length ce Ap p.length cp N (getErr D n (lE xs) p) (changeErr D n (lE xs) ⟨p, N, false⟩) (changeErr D n (lE xs) ⟨p, 0, true⟩) (pickL (changeErr D n (lE xs) ⟨p, N, false⟩) (setL (lE xs) p N)) (pickL (changeErr D n (lE xs) ⟨p, 0, true⟩) (clrL (lE xs) p)) := by
   refine ⟨fun w' hw' => ?_, fun w' hw' => ?_, fun w' hw' => ?_⟩
   ·have h := rplace_any A0 cap n D A C Ap cp p w' hEs.right (hM.later (onB hB0 hw')) (hP.later (onB hB0 hw'))
    rw [hG, pe1 hEs.right]
    exact h
   ·have h := redit_any A0 cap n D A C AE ce xs Ap cp ⟨p, N, false⟩ w' (hM.later (onB hB0 hw')) (hE.later (onB hB0 hw')) (hP.later (onB hB0 hw')) hEs
    rw [h1]
    exact h
   ·have h := redit_any A0 cap n D A C AE ce xs Ap cp ⟨p, 0, true⟩ w' (hM.later (onB hB0 hw')) (hE.later (onB hB0 hw')) (hP.later (onB hB0 hw')) hEs
    rw [h2]
    exact h
  by_cases hg : getErr D n (lE xs) p = 0
  ·refine tells_c A0 cap n AE xs.length ce Ap p.length cp N AX ys.length cx _ _ _ _ _ _ _ _ _ _ _ w hT h0 hg hI ⟨fun w' hw' => ?_⟩
   have h := rinput_any AE ce xs Ap cp p w' (few_of hEs) (hE.1.later (onB hB0 hw')) (short_of hEs (inO_of (by rw [← hG]; exact hg))) (hP.later (onB hB0 hw'))
   rw [getV_in hg]
   exact h
  ·refine tells_b A0 cap n AE xs.length ce Ap p.length cp N AX ys.length cx _ _ _ _ _ _ _ _ _ _ _ w hT h0 hg ?_ hI
   rw [getV_bad hg]
   exact ⟨rfl, rfl⟩
 ·have hG := getErr_bad p h0
  have h1 := change_bad (⟨p, N, false⟩ : Ed) h0
  have h2 := change_bad (⟨p, 0, true⟩ : Ed) h0
  refine tells_a A0 cap n AE xs.length ce Ap p.length cp N AX ys.length cx _ _ _ _ _ _ _ _ _ _ _ w hT h0 ?_ ⟨h1.symm, h2.symm, hG.symm⟩ ?_
  ·exact ⟨pickL_bad (by rw [h1]; exact h0) _, pickL_bad (by rw [h2]; exact h0) _⟩
  ·rw [getV_bad (by rw [hG]; exact h0)]
   exact ⟨rfl, rfl⟩
section
variable {H : Type} {enc : TypeId × Value → H} {w : World} {held : Bool}
theorem ens_nil {n cap : Nat} {d : DataW H} {p : List MemPlace} (h : DataW.Trod enc Tryd.prog w 0 (fun _ => true) held 43 (.slice none n cap) d p) : cap = 0 := by
 obtain ⟨fuel, hf⟩ := h
 have hf' : DataW.trod enc Tryd.prog w 0 (fun _ => true) held fuel 43 [.slice none n cap] = some (d, p) := hf
 rcases open_slice Tryd.underlying43 hf' with ⟨e, -⟩ | ⟨a, len, cap', m, n', D, Pl, e, -⟩
 ·simp at e
  exact e.2
 ·simp at e
end
end Go.Proofs.YtfngmnhkhfgmjacDoor
