/-
  What All of package outline answers: which dim of an outline is the first that is wrong, in which member, and how.
-/
import Derived.Test.YtpnfmpbgjkhicafGreatDoorOut8
namespace Go.Proofs.YtpnfmpbgjkhicafGreatDoor
open Go.ChangeShapes Go.WideShapes Go.ChangeAt Go.RowKit
set_option maxRecDepth 20000

def DimsV (w : World) (A0 : Option Addr) (cap n : Nat) (D : Nat → Dm) (A : Nat → Option Addr) (C : Nat → Nat) : Prop := n ≤ cap ∧ (n = 0 ∨ ∃ b o, A0 = some ⟨b, o, none⟩ ∧ DimsAt w b o n D A C)
theorem DimsV.later {w w' : World} {A0 : Option Addr} {cap n : Nat} {D : Nat → Dm} {A : Nat → Option Addr} {C : Nat → Nat} (h : DimsV w A0 cap n D A C) (hB : Below w.heap.size w w') : DimsV w' A0 cap n D A C := by
  obtain ⟨h1, h2 | ⟨b, o, h2, h3⟩⟩ := h
  · exact ⟨h1, Or.inl h2⟩
  · exact ⟨h1, Or.inr ⟨b, o, h2, h3.later hB⟩⟩

theorem al0 {D : Nat → Dm} {n : Nat} (h : 4 < n) : allErr D n = (-1, -1, 4) := by unfold allErr; rw [if_pos h]
theorem al1 {D : Nat → Dm} {n : Nat} (h : n = 0) : allErr D n = (-1, -1, 5) := by unfold allErr; rw [if_neg (by omega), if_pos h]
theorem al2 {D : Nat → Dm} {n : Nat} (h : ¬ 4 < n) (h1 : ¬ n = 0) (h2 : (scanD D n 0).2.2 ≠ 0) : allErr D n = scanD D n 0 := by unfold allErr; rw [if_neg h, if_neg h1, if_pos h2]
theorem al3 {D : Nat → Dm} {n : Nat} (h : ¬ 4 < n) (h1 : ¬ n = 0) (h2 : (scanD D n 0).2.2 = 0) (h3 : 3000 < prodN D n) : allErr D n = (-1, -1, 4) := by unfold allErr; rw [if_neg h, if_neg h1, if_neg (by simpa using h2), if_pos h3]
theorem al4 {D : Nat → Dm} {n : Nat} (h : ¬ 4 < n) (h1 : ¬ n = 0) (h2 : (scanD D n 0).2.2 = 0) (h3 : ¬ 3000 < prodN D n) : allErr D n = (-1, -1, 0) := by unfold allErr; rw [if_neg h, if_neg h1, if_neg (by simpa using h2), if_neg h3]
theorem one0 {D : Nat → Dm} {i : Nat} (h : (dimErr (D i)).2 ≠ 0) : oneD D i = dimErr (D i) := by unfold oneD; rw [if_pos h]
theorem one1 {D : Nat → Dm} {i : Nat} (h : (dimErr (D i)).2 = 0) (h1 : clashD D i = true) : oneD D i = (-1, 7) := by unfold oneD; rw [if_neg (by simpa using h), if_pos h1]
theorem one2 {D : Nat → Dm} {i : Nat} (h : (dimErr (D i)).2 = 0) (h1 : clashD D i = false) : oneD D i = (-1, 0) := by unfold oneD; rw [if_neg (by simpa using h), if_neg (by simp [h1])]

def ownOut (w : World) (A0 : Option Addr) (n cap T : Nat) : World := w.alloc (.cells #[.slice A0 n cap] T)
theorem ownOut_at (w : World) (A0 : Option Addr) (n cap T : Nat) : (ownOut w A0 n cap T).cell? ⟨w.heap.size, 0, none⟩ = some (.slice A0 n cap) := by unfold ownOut; simp
theorem ownOut_size (w : World) (A0 : Option Addr) (n cap T : Nat) : (ownOut w A0 n cap T).heap.size = w.heap.size + 1 := by unfold ownOut; simp
theorem ownOut_below (w : World) (A0 : Option Addr) (n cap T : Nat) : Below w.heap.size w (ownOut w A0 n cap T) := by unfold ownOut; go_grown

end Go.Proofs.YtpnfmpbgjkhicafGreatDoor
