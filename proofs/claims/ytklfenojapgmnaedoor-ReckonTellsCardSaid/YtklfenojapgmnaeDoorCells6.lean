/-
  Small facts on two numbers that lie in a block (a cell of the program in a variable), on worlds that grew, and on Of a number that may be told.
-/
import Derived.Test.YtklfenojapgmnaeDoorCells5
import Derived.Deep.RegionHeld3
import Derived.Deep.DeepCutAuto
namespace Go.Proofs.YtklfenojapgmnaeDoor
open Go.ChangeShapes Go.WideShapes Go.ChangeAt Go.RowKit

def At (s : Nat) (k n : Int) (w : World) : Prop := s < w.heap.size ∧ w.cell? ⟨s, 0, none⟩ = some (.int .i64 k) ∧ w.cell? ⟨s, 1, none⟩ = some (.int .i64 n)
theorem At.later {s : Nat} {k n : Int} {w w' : World} (h : At s k n w) (hb : Below w.heap.size w w') : At s k n w' :=
  ⟨Nat.lt_of_lt_of_le h.1 hb.size, (hb.cell (p := ⟨s, 0, none⟩) h.1).trans h.2.1, (hb.cell (p := ⟨s, 1, none⟩) h.1).trans h.2.2⟩
theorem At.new (k n : Int) (w : World) (T : Nat) : At w.heap.size k n (w.alloc (.cells #[.int .i64 k, .int .i64 n] T)) := ⟨by simp, by simp, by simp⟩
theorem At.set {s : Nat} {k n : Int} {w : World} {u v : Value} (hs : s < w.heap.size) (h0 : w.cell? ⟨s, 0, none⟩ = some u) (h1 : w.cell? ⟨s, 1, none⟩ = some v) : At s k n ((w.setCell ⟨s, 0, none⟩ (.int .i64 k)).setCell ⟨s, 1, none⟩ (.int .i64 n)) := by
  refine ⟨by simpa using hs, ?_, ?_⟩ <;> simp [go_sem, h0, h1]
theorem Below.next {W0 W w4 : World} (h : Below W0.heap.size W0 W) (hb : Below W.heap.size W w4) : Below W0.heap.size W0 w4 := h.trans (hb.mono h.size)
theorem held_of {s : Nat} {k n : Int} {W0 w' : World} (h : At s k n W0) (hB : Below W0.heap.size W0 w') : Below W0.heap.size W0 w' ∧ w'.cell? ⟨s, 0, none⟩ = some (.int .i64 k) ∧ w'.cell? ⟨s, 1, none⟩ = some (.int .i64 n) := ⟨hB, (h.later hB).2⟩

theorem held_of2 {s t : Nat} {k n k' n' : Int} {W0 w' : World} (h : At s k n W0) (h' : At t k' n' W0) (hB : Below W0.heap.size W0 w') : Below W0.heap.size W0 w' ∧ w'.cell? ⟨s, 0, none⟩ = some (.int .i64 k) ∧ w'.cell? ⟨s, 1, none⟩ = some (.int .i64 n) ∧ w'.cell? ⟨t, 0, none⟩ = some (.int .i64 k') ∧ w'.cell? ⟨t, 1, none⟩ = some (.int .i64 n') := ⟨hB, (h.later hB).2.1, (h.later hB).2.2, (h'.later hB).2⟩

theorem of_in {n : Int} (h1 : -1000000000000 ≤ n) (h2 : n ≤ 1000000000000) (w : World) : Calls Tryd.prog 53 #[.int .i64 n] w fun e w' => e = .returned (.agg #[.int .i64 1, .int .i64 n]) ∧ Below w.heap.size w w' := by
  have h := of_any n w
  rw [ofP_in h1 h2] at h
  exact h

end Go.Proofs.YtklfenojapgmnaeDoor
