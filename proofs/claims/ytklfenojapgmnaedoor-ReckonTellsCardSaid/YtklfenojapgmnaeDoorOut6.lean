/-
  What Check and Find of package outline answer: which member of a dim is the first that is wrong, and how; where a member of a name is.
-/
import Derived.Test.YtklfenojapgmnaeDoorOut5
namespace Go.Proofs.YtklfenojapgmnaeDoor
open Go.ChangeShapes Go.WideShapes Go.ChangeAt Go.RowKit
set_option maxRecDepth 20000

def MemsV (w : World) (A : Option Addr) (cap n : Nat) (M : Nat → Mem) : Prop := n ≤ cap ∧ (n = 0 ∨ ∃ b o, A = some ⟨b, o, none⟩ ∧ MemsAt w b o n M)
theorem MemsV.later {w w' : World} {A : Option Addr} {cap n : Nat} {M : Nat → Mem} (h : MemsV w A cap n M) (hB : Below w.heap.size w w') : MemsV w' A cap n M := by
  obtain ⟨h1, h2 | ⟨b, o, h2, h3⟩⟩ := h
  · exact ⟨h1, Or.inl h2⟩
  · exact ⟨h1, Or.inr ⟨b, o, h2, h3.later hB⟩⟩

theorem dimErr_frame {d : Dm} (h : frameErr d ≠ 0) : dimErr d = (-1, frameErr d) := by
  unfold frameErr at h ⊢
  unfold dimErr
  split
  · rfl
  · split
    · rfl
    · split
      · rfl
      · split
        · rfl
        · rename_i h1 h2 h3 h4
          rw [if_neg h1, if_neg h2, if_neg h3, if_neg h4] at h
          exact absurd rfl h
theorem dimErr_scan {d : Dm} (h : frameErr d = 0) : dimErr d = scan d.mem d.n 0 ∧ 1 ≤ d.n ∧ d.n ≤ 12 := by
  unfold frameErr at h
  unfold dimErr
  split at h
  · simp at h
  · split at h
    · simp at h
    · split at h
      · simp at h
      · split at h
        · simp at h
        · rename_i h1 h2 h3 h4
          rw [if_neg h1, if_neg h2, if_neg h3, if_neg h4]
          exact ⟨rfl, by omega, by omega⟩

def ownDim (w : World) (d : Dm) (A : Option Addr) (cap T : Nat) : World := w.alloc (.cells #[.string d.name, .int .i64 d.solve, .slice A d.n cap] T)
theorem ownDim_at (w : World) (d : Dm) (A : Option Addr) (cap T : Nat) : (ownDim w d A cap T).cell? ⟨w.heap.size, 0, none⟩ = some (.string d.name) ∧ (ownDim w d A cap T).cell? ⟨w.heap.size, 1, none⟩ = some (.int .i64 d.solve) ∧ (ownDim w d A cap T).cell? ⟨w.heap.size, 2, none⟩ = some (.slice A d.n cap) := by unfold ownDim; exact ⟨by simp, by simp, by simp⟩
theorem ownDim_size (w : World) (d : Dm) (A : Option Addr) (cap T : Nat) : (ownDim w d A cap T).heap.size = w.heap.size + 1 := by unfold ownDim; simp
theorem ownDim_below (w : World) (d : Dm) (A : Option Addr) (cap T : Nat) : Below w.heap.size w (ownDim w d A cap T) := by unfold ownDim; go_grown

end Go.Proofs.YtklfenojapgmnaeDoor
