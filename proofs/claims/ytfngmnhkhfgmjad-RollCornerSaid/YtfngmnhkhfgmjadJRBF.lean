/-
  Edits appended one by one, in a row of a call's own; edits that are all right leave entries that are right.
-/
import Derived.Test.YtfngmnhkhfgmjadJRBC
import Derived.Test.YtfngmnhkhfgmjadJRBE
namespace Go.Proofs.Ytfngmnhkhfgmjad
open Go.ChangeShapes Go.WideShapes Go.ChangeAt Go.RowKit
set_option maxRecDepth 20000
theorem Ens.edits {D : Nat → Dm} {n : Nat} : ∀ (xs : List Ed) (l : List En) (i : Nat), Ens D n l → (editsFrom D n l i xs).2.2 = 0 → Ens D n (editsFrom D n l i xs).1
 | [], l, i, h, _ => h
 | x :: r, l, i, h, h0 => by
  by_cases he : editErr D n l x = 0
  ·rw [editsFrom_ok r he] at h0 ⊢
   exact Ens.edits r _ _ (h.edit he).2 h0
  ·rw [editsFrom_bad r he] at h0
   exact absurd h0 he
theorem Try.infoEd : (Try.prog.info? 50).map (fun i => (i.zero, i.size, i.bytes)) = some (some (.agg #[.slice none 0 0, .int .i64 0, .bool false]), 3, 40) := by kernel_rfl
theorem edit_ne_int : (3 : Nat) ≠ 50 := by decide
def cellsX : List EdL → List Value
 | [] => []
 | y :: r => .slice y.A y.x.pl.length y.c :: .int .i64 y.x.n :: .bool y.x.clear :: cellsX r
theorem cellsX_append (a b : List EdL) : cellsX (a ++ b) = cellsX a ++ cellsX b := by
 induction a with
 | nil => rfl
 | cons x r ih => simp [cellsX, ih]
theorem cellsX_at (ys : List EdL) : ∀ k, k < ys.length → (cellsX ys)[k * 3]? = some (.slice (ys.getD k noD).A (ys.getD k noD).x.pl.length (ys.getD k noD).c) ∧ (cellsX ys)[k * 3 + 1]? = some (.int .i64 (ys.getD k noD).x.n) ∧ (cellsX ys)[k * 3 + 2]? = some (.bool (ys.getD k noD).x.clear) := by
 induction ys with
 | nil => intro k hk; cases hk
 | cons x r ih =>
  intro k hk
  cases k with
  | zero => simp [cellsX]
  | succ k =>
   rw [show (k + 1) * 3 = k * 3 + 1 + 1 + 1 by omega]
   simp only [cellsX, List.getElem?_cons_succ, List.getD_cons_succ]
   exact ih k (by simpa using hk)
theorem plty_own_stays {w w' : World} {base : Nat} {v : Value} {n : Nat} {zs : List Value} {A : Option Addr} {c : Nat} {L : List Int} (h : PlTy w A c L) (hown : w.ownsRow base 50 3 v n zs) (hG : w.grownBy w' v.ownBlock) : PlTy w' A c L := by
 obtain ⟨h1, h2 | ⟨b, o, cs, fr', h2, h3, h4⟩⟩ := h
 ·exact ⟨h1, Or.inl h2⟩
 ·have hne := own_ne hown h3 edit_ne_int
  have hb : w'.heap[b]? = w.heap[b]? := hG.block b (Array.getElem?_eq_some_iff.1 h3).1 (Ne.symm hne)
  exact ⟨h1, Or.inr ⟨b, o, cs, fr', h2, hb.trans h3, fun j hj => (World.cell?_of_block (a := ⟨b, o + j, none⟩) hb).trans (h4 j hj)⟩⟩
theorem eds_own {w : World} {base : Nat} {v : Value} {ys : List EdL} (h : w.ownsRow base 50 3 v ys.length (cellsX ys)) (hp : ∀ y ∈ ys, PlTy w y.A y.c y.x.pl) : ∃ A c, v = .slice A ys.length c ∧ EdsV w A c ys := by
 rcases h.2 with ⟨rfl, h0⟩ | ⟨g, cap, cur, rfl, hb, hg, hc, hm, _, _⟩
 ·refine ⟨none, 0, by rw [h0], by omega, by decide, Or.inl (List.eq_nil_of_length_eq_zero h0)⟩
 ·refine ⟨_, cap, rfl, hc, by unfold maxLen at hm; omega, Or.inr ⟨g, 0, rfl, (Array.getElem?_eq_some_iff.1 hg).1, fun k hk => ?_⟩⟩
  obtain ⟨x0, x1, x2⟩ := cellsX_at ys k hk
  have y := fun j u => h.cells (g := g) rfl j u
  simp only [plain_add] at y
  refine ⟨y _ _ x0, ?_, ?_, ?_⟩
  ·rw [Nat.add_assoc]; exact y _ _ x1
  ·rw [Nat.add_assoc]; exact y _ _ x2
  ·refine (hp _ ?_).pl
   rw [List.getD_eq_getElem?_getD, List.getElem?_eq_getElem hk]
   exact List.getElem_mem hk
theorem lD_append (a b : List EdL) : lD (a ++ b) = lD a ++ lD b := by simp [lD]
end Go.Proofs.Ytfngmnhkhfgmjad
