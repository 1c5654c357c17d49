/-
  What path and places of package tree answer, called in whatever memory: a member's path; the places of those of whom a question is told yes: each a list in new memory.
-/
import Derived.Test.YtfngmnhkhfgmjacDoorJIAL
namespace Go.Proofs.YtfngmnhkhfgmjacDoor
open Go.ChangeShapes Go.WideShapes Go.ChangeAt Go.RowKit
set_option maxRecDepth 20000
def IntsAt (w : World) (A : Option Addr) (cap : Nat) (L : List Int) : Prop := L.length ≤ cap ∧ (L = [] ∨ ∃ b, A = some ⟨b, 0, none⟩ ∧ b < w.heap.size ∧ ∀ j, j < L.length → w.cell? ⟨b, j, none⟩ = some (.int .i64 (L.getD j 0)))
theorem IntsAt.later {w w' : World} {A : Option Addr} {cap : Nat} {L : List Int} (h : IntsAt w A cap L) (hB : Below w.heap.size w w') : IntsAt w' A cap L := by
 obtain ⟨h1, h2 | ⟨b, h2, h3, h4⟩⟩ := h
 ·exact ⟨h1, Or.inl h2⟩
 ·exact ⟨h1, Or.inr ⟨b, h2, Nat.lt_of_lt_of_le h3 hB.size, fun j hj => (hB.cell (p := ⟨b, j, none⟩) h3).trans (h4 j hj)⟩⟩
def mapI (L : List Int) : List Value := L.map (Value.int .i64)
theorem mapI_snoc (L : List Int) (x : Int) : mapI (L ++ [x]) = mapI L ++ [Value.int .i64 x] := by simp [mapI]
theorem ints_of {w : World} {base e : Nat} {v : Value} {L : List Int} (h : w.ownsRow base e 1 v L.length (mapI L)) : ∃ A cap, v = .slice A L.length cap ∧ IntsAt w A cap L := by
 rcases h.2 with ⟨rfl, h0⟩ | ⟨g, cap, cur, rfl, hb, hg, hc, _, _, _⟩
 ·exact ⟨none, 0, by rw [h0], by omega, Or.inl (List.eq_nil_of_length_eq_zero h0)⟩
 ·refine ⟨_, cap, rfl, hc, Or.inr ⟨g, rfl, (Array.getElem?_eq_some_iff.1 hg).1, fun j hj => ?_⟩⟩
  have hx := h.cells (g := g) rfl j (.int .i64 (L.getD j 0)) (by simp [mapI, List.getD, List.getElem?_eq_getElem hj])
  have hadd : (⟨g, 0, none⟩ : Addr).add j = ⟨g, j, none⟩ := by unfold Addr.add; split <;> simp_all
  rw [hadd] at hx
  exact hx
theorem own_later {w w' : World} {base e size : Nat} {v : Value} {n : Nat} {xs : List Value} (h : w.ownsRow base e size v n xs) (hB : Below w.heap.size w w') : w'.ownsRow base e size v n xs := by
 refine ⟨h.1, ?_⟩
 rcases h.2 with h0 | ⟨g, cap, cur, rfl, hb, hg, h1⟩
 ·exact Or.inl h0
 ·exact Or.inr ⟨g, cap, cur, rfl, hb, (hB.block g (Array.getElem?_eq_some_iff.1 hg).1).trans hg, h1⟩
theorem grown_own {w wr w1 : World} {e size n : Nat} {v : Value} {xs : List Value} {o : Obj} (hB : Below w.heap.size w wr) (hown : wr.ownsRow w.heap.size e size v n xs) (hgrow : (wr.alloc o).grownBy w1 v.ownBlock) : Below w.heap.size w w1 :=
 (hB.alloc hB.size o).grown hgrow (by have := hB.size; simp; omega) (fun j hj => (hown.lt j hj).1)
theorem one_cell {wr : World} {x : Value} {T : Nat} : ∀ j u, [x][j]? = some u → (wr.alloc (.cells #[x] T)).cell? ((⟨wr.heap.size, 0, none⟩ : Addr).add j) = some u := by
 intro j u hj
 match j, hj with
 | 0, hj => simp at hj; subst hj; simp [Addr.add]
theorem one_one {x : Int} : ∀ u ∈ [Value.int .i64 x], u.oneCell' = true := by intro u hu; simp at hu; subst hu; rfl
theorem Tryd.infoInt : (Tryd.prog.info? 3).map (fun i => (i.zero, i.size, i.bytes)) = some (some (.int .i64 0), 1, 8) := by kernel_rfl
end Go.Proofs.YtfngmnhkhfgmjacDoor
