/-
  The builder of package formula in memory: three rows of its own; what add and join make of it.
-/
import Derived.Test.YtklfenojapgmnaeDoorFmG
namespace Go.Proofs.YtklfenojapgmnaeDoor
open Go.ChangeShapes Go.WideShapes Go.ChangeAt Go.RowKit
set_option maxRecDepth 20000

def cellsNd1 (x : Nd) : List Value := [.int .i64 x.op, .int .i64 x.n, .string x.name, .int .i64 x.left, .int .i64 x.right]
def cellsN (l : List Nd) : List Value := l.flatMap cellsNd1
theorem cellsN_snoc (l : List Nd) (x : Nd) : cellsN (l ++ [x]) = cellsN l ++ cellsNd1 x := by simp [cellsN]
theorem cellsN_len (l : List Nd) : (cellsN l).length = l.length * 5 := by
  induction l with
  | nil => rfl
  | cons x r ih => rw [show cellsN (x :: r) = cellsNd1 x ++ cellsN r from rfl, List.length_append, ih, List.length_cons]; show 5 + _ = _; omega
theorem cellsN_at : ∀ (l : List Nd) (k : Nat), k < l.length → (cellsN l)[k * 5]? = some (.int .i64 (l.getD k noN).op) ∧ (cellsN l)[k * 5 + 1]? = some (.int .i64 (l.getD k noN).n) ∧ (cellsN l)[k * 5 + 2]? = some (.string (l.getD k noN).name) ∧ (cellsN l)[k * 5 + 3]? = some (.int .i64 (l.getD k noN).left) ∧ (cellsN l)[k * 5 + 4]? = some (.int .i64 (l.getD k noN).right)
  | x :: r, 0, _ => ⟨rfl, rfl, rfl, rfl, rfl⟩
  | x :: r, k + 1, h => by
    have h' := cellsN_at r k (by simpa using h)
    have e : ∀ j, (cellsN (x :: r))[(k + 1) * 5 + j]? = (cellsN r)[k * 5 + j]? := fun j => by
      rw [show cellsN (x :: r) = cellsNd1 x ++ cellsN r from rfl, List.getElem?_append_right (by show 5 ≤ _; omega)]
      congr 1
      show _ - 5 = _
      omega
    exact ⟨(e 0).trans h'.1, (e 1).trans h'.2.1, (e 2).trans h'.2.2.1, (e 3).trans h'.2.2.2.1, (e 4).trans h'.2.2.2.2⟩

section
variable {w w' w2 W : World} {base e size n : Nat} {v : Value} {xs : List Value}
theorem own_form (h : w.ownsRow base e size v n xs) : ∃ A cap, v = .slice A n cap := by
  rcases h.2 with ⟨rfl, h0⟩ | ⟨g, cap, cur, rfl, _⟩
  · exact ⟨none, 0, by rw [h0]⟩
  · exact ⟨_, _, rfl⟩
theorem own_keep (h : w.ownsRow base e size v n xs) (hk : ∀ g, v.ownBlock = some g → w'.heap[g]? = w.heap[g]?) : w'.ownsRow base e size v n xs := by
  refine ⟨h.1, ?_⟩
  rcases h.2 with h0 | ⟨g, cap, cur, rfl, hb, hg, h1⟩
  · exact Or.inl h0
  · exact Or.inr ⟨g, cap, cur, rfl, hb, (hk g rfl).trans hg, h1⟩
theorem own_block {g : Nat} (h : w.ownsRow base e size v n xs) (hv : v.ownBlock = some g) : base ≤ g ∧ g < w.heap.size ∧ ∃ cur, w.heap[g]? = some (.cells cur e (0, 0)) := by
  rcases h.2 with ⟨rfl, h0⟩ | ⟨g', cap, cur, rfl, hb, hg, h1⟩
  · cases hv
  · cases hv
    exact ⟨hb, (Array.getElem?_eq_some_iff.1 hg).1, cur, hg⟩
/-- a row cut short -/
theorem own_cut {k : Nat} {A : Option Addr} {cap : Nat} (h : w.ownsRow base e size (.slice A n cap) n xs) (hk : k ≤ n) : w.ownsRow base e size (.slice A k cap) k (xs.take (k * size)) := by
  refine ⟨by rw [List.length_take, h.1]; exact Nat.min_eq_left (Nat.mul_le_mul_right _ hk), ?_⟩
  rcases h.2 with ⟨h0, h1⟩ | ⟨g, cap', cur, h0, hb, hg, h1, h2, h3, h4⟩
  · left
    cases h0
    have : k = 0 := by omega
    subst this
    exact ⟨rfl, rfl⟩
  · right
    cases h0
    refine ⟨g, cap, cur, rfl, hb, hg, by omega, h2, h3, ?_⟩
    rw [← h4, List.take_take, Nat.min_eq_left (Nat.mul_le_mul_right _ hk)]
theorem own_int {A : Option Addr} {cap : Nat} {L : List Int} {k : Nat} (h : w.ownsRow base 3 1 (.slice A L.length cap) L.length (mapI L)) (hk : k < L.length) : ∃ g, A = some ⟨g, 0, none⟩ ∧ w.cell? ⟨g, k, none⟩ = some (.int .i64 (L.getD k 0)) := by
  obtain ⟨A', cap', h1, h2⟩ := ints_of h
  cases h1
  obtain ⟨_, h0 | ⟨b, rfl, _, h3⟩⟩ := h2
  · subst h0; cases hk
  · exact ⟨b, rfl, h3 k hk⟩
end

theorem nd_ne_int : (45 : Nat) ≠ 3 := by decide
section
variable {N p cN cR cW : Nat} {AN AR AW : Option Addr} {b : Bld} {w w' w2 W : World}
theorem set3_heap {w : World} {p T : Nat} {x y z v : Value} (j : Nat) (h : w.heap[p]? = some (.cells #[x, y, z] T (0, 0))) : (w.setCell ⟨p, j, none⟩ v).heap[p]? = some (.cells (#[x, y, z].setIfInBounds j v) T (0, 0)) := by
  rw [setCell_eq_setRow w p j _ _ (0, 0) _ h, setRow_heap w p _ _ _ _ h]

end
end Go.Proofs.YtklfenojapgmnaeDoor
