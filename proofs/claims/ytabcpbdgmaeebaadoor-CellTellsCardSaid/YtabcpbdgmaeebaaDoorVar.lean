/-
  A variable that holds a cell, and may be written: small facts.
-/
import Derived.Test.YtabcpbdgmaeebaaDoorTexts
import Derived.Test.YtabcpbdgmaeebaaDoorTold
namespace Go.Proofs.YtabcpbdgmaeebaaDoor
open Go.ChangeShapes Go.WideShapes Go.ChangeAt Go.RowKit

def Var (s : Nat) (k n : Int) (w : World) : Prop := At s k n w ∧ w.frozen? ⟨s, 0, none⟩ = false ∧ w.frozen? ⟨s, 1, none⟩ = false
theorem Var.later {s : Nat} {k n : Int} {w w' : World} (h : Var s k n w) (hb : Below w.heap.size w w') : Var s k n w' :=
  ⟨h.1.later hb, (hb.frozen (p := ⟨s, 0, none⟩) h.1.1).trans h.2.1, (hb.frozen (p := ⟨s, 1, none⟩) h.1.1).trans h.2.2⟩
theorem Var.next {s : Nat} {k n : Int} {w0 W w' : World} (h : Var s k n w0) (h0 : Below w0.heap.size w0 W) (hb : Below W.heap.size W w') : Var s k n w' := h.later (Below.next h0 hb)
theorem Var.new (k n : Int) (w : World) (T : Nat) : Var w.heap.size k n (w.alloc (.cells #[.int .i64 k, .int .i64 n] T)) := ⟨At.new k n w T, by simp [go_sem], by simp [go_sem]⟩
theorem Var.set {s : Nat} {k n k' n' : Int} {w : World} (h : Var s k n w) : Var s k' n' ((w.setCell ⟨s, 0, none⟩ (.int .i64 k')).setCell ⟨s, 1, none⟩ (.int .i64 n')) :=
  ⟨At.set h.1.1 h.1.2.1 h.1.2.2, by simp [go_sem, h.2.1], by simp [go_sem, h.2.2]⟩
theorem Var.other {s t : Nat} {k n k' n' : Int} {w : World} (h : Var s k n w) (hne : ¬ s = t) : Var s k n ((w.setCell ⟨t, 0, none⟩ (.int .i64 k')).setCell ⟨t, 1, none⟩ (.int .i64 n')) := by
  have h1 : ¬ t = s := fun e => hne e.symm
  refine ⟨⟨by simpa using h.1.1, ?_, ?_⟩, by simp [go_sem, h.2.1], by simp [go_sem, h.2.2]⟩
  · rw [World.cell?_setCell_far _ _ _ _ (by exact h1), World.cell?_setCell_far _ _ _ _ (by exact h1)]; exact h.1.2.1
  · rw [World.cell?_setCell_far _ _ _ _ (by exact h1), World.cell?_setCell_far _ _ _ _ (by exact h1)]; exact h.1.2.2
theorem four_cell {w : World} {b o : Nat} {v : Value} (h : w.cell? ⟨b, o, none⟩ = some v) (hlt : b < w.heap.size) (o1 o2 o3 o4 : Obj) : ((((w.alloc o1).alloc o2).alloc o3).alloc o4).cell? ⟨b, o, none⟩ = some v := by
  have hb : Below w.heap.size w ((((w.alloc o1).alloc o2).alloc o3).alloc o4) := by go_grown
  rw [hb.cell (p := ⟨b, o, none⟩) hlt]
  exact h
theorem Var.at1 {s : Nat} {k n : Int} {w : World} {T : Nat} (h : s = w.heap.size) (hk : k = 0) (hn : n = 0) : Var s k n (w.alloc (.cells #[.int .i64 0, .int .i64 0] T)) := by subst h hk hn; exact Var.new 0 0 w T
theorem four (w : World) (T : Nat) : Var w.heap.size 0 0 ((((w.alloc (.cells #[.int .i64 0, .int .i64 0] T)).alloc (.cells #[.int .i64 0, .int .i64 0] T)).alloc (.cells #[.int .i64 0, .int .i64 0] T)).alloc (.cells #[.int .i64 0, .int .i64 0] T)) ∧ Var (w.heap.size + 1) 0 0 ((((w.alloc (.cells #[.int .i64 0, .int .i64 0] T)).alloc (.cells #[.int .i64 0, .int .i64 0] T)).alloc (.cells #[.int .i64 0, .int .i64 0] T)).alloc (.cells #[.int .i64 0, .int .i64 0] T)) ∧ Var (w.heap.size + 1 + 1) 0 0 ((((w.alloc (.cells #[.int .i64 0, .int .i64 0] T)).alloc (.cells #[.int .i64 0, .int .i64 0] T)).alloc (.cells #[.int .i64 0, .int .i64 0] T)).alloc (.cells #[.int .i64 0, .int .i64 0] T)) ∧ Var (w.heap.size + 1 + 1 + 1) 0 0 ((((w.alloc (.cells #[.int .i64 0, .int .i64 0] T)).alloc (.cells #[.int .i64 0, .int .i64 0] T)).alloc (.cells #[.int .i64 0, .int .i64 0] T)).alloc (.cells #[.int .i64 0, .int .i64 0] T)) ∧ Below w.heap.size w ((((w.alloc (.cells #[.int .i64 0, .int .i64 0] T)).alloc (.cells #[.int .i64 0, .int .i64 0] T)).alloc (.cells #[.int .i64 0, .int .i64 0] T)).alloc (.cells #[.int .i64 0, .int .i64 0] T)) := by
  have st : ∀ {X : World} (o : Obj), Below X.heap.size X (X.alloc o) := fun o => (Below.refl _ _).alloc (Nat.le_refl _) _
  refine ⟨(((Var.new 0 0 w T).later (st _)).later (st _)).later (st _), ((Var.at1 (by simp) rfl rfl).later (st _)).later (st _), (Var.at1 (by simp) rfl rfl).later (st _), Var.at1 (by simp) rfl rfl, by go_grown⟩
end Go.Proofs.YtabcpbdgmaeebaaDoor
