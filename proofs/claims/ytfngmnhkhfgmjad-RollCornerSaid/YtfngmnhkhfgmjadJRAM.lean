/-
  What path and places of package tree answer, called in whatever memory: a member's path; the places of those of whom a question is told yes: each a list in new memory.
-/
import Derived.Test.YtfngmnhkhfgmjadJRAL
namespace Go.Proofs.Ytfngmnhkhfgmjad
open Go.ChangeShapes Go.WideShapes Go.ChangeAt Go.RowKit
set_option maxRecDepth 20000
def IntsAt (w : World) (A : Option Addr) (cap : Nat) (L : List Int) : Prop := L.length ≤ cap ∧ (L = [] ∨ ∃ b, A = some ⟨b, 0, none⟩ ∧ b < w.heap.size ∧ ∀ j, j < L.length → w.cell? ⟨b, j, none⟩ = some (.int .i64 (L.getD j 0)))
theorem IntsAt.later {w w' : World} {A : Option Addr} {cap : Nat} {L : List Int} (h : IntsAt w A cap L) (hB : Below w.heap.size w w') : IntsAt w' A cap L := by
 obtain ⟨h1, h2 | ⟨b, h2, h3, h4⟩⟩ := h
 ·exact ⟨h1, Or.inl h2⟩
 ·exact ⟨h1, Or.inr ⟨b, h2, Nat.lt_of_lt_of_le h3 hB.size, fun j hj => (hB.cell (p := ⟨b, j, none⟩) h3).trans (h4 j hj)⟩⟩
theorem IntsAt.nil (w : World) (A : Option Addr) (cap : Nat) : IntsAt w A cap [] := ⟨Nat.zero_le _, Or.inl rfl⟩
def mapI (L : List Int) : List Value := L.map (Value.int .i64)
theorem mapI_snoc (L : List Int) (x : Int) : mapI (L ++ [x]) = mapI L ++ [Value.int .i64 x] := by simp [mapI]
theorem ints_of {w : World} {base e : Nat} {v : Value} {L : List Int} (h : w.ownsRow base e 1 v L.length (mapI L)) : ∃ A cap, v = .slice A L.length cap ∧ IntsAt w A cap L := by
 rcases h.2 with ⟨rfl, h0⟩ | ⟨g, cap, cur, rfl, hb, hg, hc, _, _, _⟩
 ·exact ⟨none, 0, by rw [h0], by omega, Or.inl (List.eq_nil_of_length_eq_zero h0)⟩
 ·refine ⟨_, cap, rfl, hc, Or.inr ⟨g, rfl, (Array.getElem?_eq_some_iff.1 hg).1, fun j hj => ?_⟩⟩
  have hx := h.cells (g := g) rfl j (.int .i64 (L.getD j 0)) (by simp [mapI, List.getD, List.getElem?_eq_getElem hj])
  have hadd : (⟨g, 0, none⟩ : Addr).add j = ⟨g, j, none⟩ := by unfold Addr.add; split <;> simp_all
  rw [hadd] at hx
  exact hx
theorem own_later {w w' : World} {base e size : Nat} {v : Value} {n : Nat} {xs : List Value} (h : w.ownsRow base e size v n xs) (hB : Below w.heap.size w w') : w'.ownsRow base e size v n xs := by
 refine ⟨h.1, ?_⟩
 rcases h.2 with h0 | ⟨g, cap, cur, rfl, hb, hg, h1⟩
 ·exact Or.inl h0
 ·exact Or.inr ⟨g, cap, cur, rfl, hb, (hB.block g (Array.getElem?_eq_some_iff.1 hg).1).trans hg, h1⟩
theorem grown_own {w wr w1 : World} {e size n : Nat} {v : Value} {xs : List Value} {o : Obj} (hB : Below w.heap.size w wr) (hown : wr.ownsRow w.heap.size e size v n xs) (hgrow : (wr.alloc o).grownBy w1 v.ownBlock) : Below w.heap.size w w1 :=
 (hB.alloc hB.size o).grown hgrow (by have := hB.size; simp; omega) (fun j hj => (hown.lt j hj).1)
theorem one_cell {wr : World} {x : Value} {T : Nat} : ∀ j u, [x][j]? = some u → (wr.alloc (.cells #[x] T)).cell? ((⟨wr.heap.size, 0, none⟩ : Addr).add j) = some u := by
 intro j u hj
 match j, hj with
 | 0, hj => simp at hj; subst hj; simp [Addr.add]
theorem one_one {x : Int} : ∀ u ∈ [Value.int .i64 x], u.oneCell' = true := by intro u hu; simp at hu; subst hu; rfl
theorem Try.infoInt : (Try.prog.info? 3).map (fun i => (i.zero, i.size, i.bytes)) = some (some (.int .i64 0), 1, 8) := by kernel_rfl
set_option maxHeartbeats 2000000 in
theorem path_any (b o n cap i : Nat) (M : Nat → Mem) (w : World) (hn : n ≤ 12) (hi : i < n) (ht : Tr M n) (hM : MemsAt w b o n M) : Calls Try.prog 77 #[.slice (some ⟨b, o, none⟩) n cap, .int .i64 i] w fun e w' => (∃ A c, e = .returned (.slice A (pathOf M i).length c) ∧ IntsAt w' A c (pathOf M i)) ∧ Below w.heap.size w w' := by
 obtain ⟨i0, hi0, hz0, hz1, hz2⟩ := info_parts Try.infoInt
 have HM : Hid (MemsAt w b o n M) := hM
 have HT : Hid (Tr M n) := ht
 have HL : Hid ((pathOf M i).length ≤ 12) := by have := pathOf_len ht n i (by omega) (by omega); show _ ≤ _; omega
 have hn' : (n : Int) ≤ 12 := by omega
 clear hM ht
 go_enter Try.func77, Try.ntmps77
 go_wp2_with fail
 go_loopg [1, 5] (i + 1) (fun g s1 s5 wr => ∃ (k : Int) (L : List Int), -1 ≤ k ∧ k < n ∧ g = (k + 1).toNat ∧ s1 = .int .i64 k ∧ L ++ pathOf M k = pathOf M i ∧ wr.ownsRow w.heap.size 3 1 s5 L.length (mapI L) ∧ Below w.heap.size w wr)
 case atStart => exact ⟨i, [], by omega, by omega, by omega, rfl, rfl, World.ownsRow_nil _ _ _ _, Below.refl _ _⟩
 case round =>
  obtain ⟨k, L, hk1, hk2, rfl, rfl, hf, hown, hBw⟩ := hrel
  have HF : Hid (L ++ pathOf M k = pathOf M i) := hf
  have HW : Hid (Below w.heap.size w wr) := hBw
  clear hf
  by_cases h0 : 0 ≤ k
  ·obtain ⟨m, rfl⟩ : ∃ m : Nat, k = m := ⟨k.toNat, by omega⟩
   have hmn : m < n := by omega
   have HC : Hid (pathOf M m = (m : Int) :: pathOf M (M m).parent) := pathOf_cons HT.out hmn
   have hlen : L.length + 1 ≤ 12 := by
    have h1 := HL.out
    rw [← HF.out, HC.out, List.length_append, List.length_cons] at h1
    omega
   have hsz := hBw.size
   have hp := HT.out m hmn
   clear hBw
   go_wp2_with (at_builtin; refine wpList_append_own _ rfl _ _ 26 rfl w.heap.size 3 i0 (.int .i64 0) 1 8 Try.underlying26 hi0 hz0 hz1 hz2 rfl (by decide) _ _ _ rfl (hown.alloc _) ⟨wr.heap.size, 0, none⟩ 1 1 [.int .i64 m] rfl rfl one_cell one_one (by unfold maxLen; omega) (by omega) (by simp; omega) ?_)
   intro v' w1 hown' hgrow _
   have HB1 : Hid (Below w.heap.size w w1) := grown_own HW.out hown hgrow
   have HO1 : Hid (w1.ownsRow w.heap.size 3 1 v' (L ++ [(m : Int)]).length (mapI (L ++ [(m : Int)]))) := by
    show World.ownsRow ..
    rw [mapI_snoc, List.length_append]; exact hown'
   obtain ⟨-, h1, -, -⟩ := (HM.out.later HB1.out).2 m hmn
   clear hown' hgrow hown
   go_wp2_with fail
   go_roundg ((M m).parent + 1).toNat
   case measure => omega
   case rel => exact ⟨(M m).parent, L ++ [(m : Int)], by omega, by omega, rfl, rfl, by rw [← HF.out, HC.out]; simp, HO1.out, HB1.out⟩
  ·have hk : k < 0 := by omega
   go_wp2_with fail
   go_ret
   have hL : L = pathOf M i := by rw [← HF.out, pathOf_neg hk]; simp
   rw [← hL]
   obtain ⟨A, c, h1, h2⟩ := ints_of hown
   exact ⟨⟨A, c, by rw [← h1]; rfl, h2⟩, HW.out⟩
end Go.Proofs.Ytfngmnhkhfgmjad
