/-
  Lists of ints at the head of a block of ints, and rows of such lists, in memory.
-/
import Derived.Test.YtpnfmpbgjkhicafGreatDoorParts1
import Derived.Test.YtpnfmpbgjkhicafGreatDoorRuA
import Derived.Lib.SliceRun
import Derived.OwnWalk
namespace Go.Proofs.YtpnfmpbgjkhicafGreatDoor
open Go.ChangeShapes Go.WideShapes Go.ChangeAt Go.RowKit
set_option maxRecDepth 20000

/-- a slice of ints at the head of a block of ints -/
def IntT (w : World) (A : Option Addr) (c : Nat) (L : List Int) : Prop := L.length ≤ c ∧ c ≤ 9223372036854775807 ∧ (L = [] ∨ ∃ b cs fr, A = some ⟨b, 0, none⟩ ∧ w.heap[b]? = some (.cells cs 3 fr) ∧ ∀ j, j < L.length → w.cell? ⟨b, j, none⟩ = some (.int .i64 (L.getD j 0)))
theorem IntT.at {w : World} {A : Option Addr} {c : Nat} {L : List Int} (h : IntT w A c L) : IntsAt w A c L := by
  obtain ⟨h1, -, h2 | ⟨b, cs, fr, h2, h3, h4⟩⟩ := h
  · exact ⟨h1, Or.inl h2⟩
  · exact ⟨h1, Or.inr ⟨b, h2, (Array.getElem?_eq_some_iff.1 h3).1, h4⟩⟩
theorem IntT.nil (w : World) (A : Option Addr) (c : Nat) (h : c ≤ 9223372036854775807) : IntT w A c [] := ⟨Nat.zero_le _, h, Or.inl rfl⟩
theorem IntT.keep {w w' : World} {A : Option Addr} {c : Nat} {L : List Int} (h : IntT w A c L) (hB : ∀ (b : Nat) (cs : Array Value) (fr : Nat × Nat), w.heap[b]? = some (Obj.cells cs 3 fr) → w'.heap[b]? = w.heap[b]?) : IntT w' A c L := by
  obtain ⟨h1, h0, h2 | ⟨b, cs, fr, h2, h3, h4⟩⟩ := h
  · exact ⟨h1, h0, Or.inl h2⟩
  · have hb := hB b cs fr h3
    exact ⟨h1, h0, Or.inr ⟨b, cs, fr, h2, hb.trans h3, fun j hj => (World.cell?_of_block (a := ⟨b, j, none⟩) hb).trans (h4 j hj)⟩⟩
theorem IntT.later {w w' : World} {A : Option Addr} {c : Nat} {L : List Int} (h : IntT w A c L) (hB : Below w.heap.size w w') : IntT w' A c L :=
  h.keep fun b _ _ hb => hB.block b (Array.getElem?_eq_some_iff.1 hb).1
theorem intT_own {w : World} {base : Nat} {v : Value} {L : List Int} (h : w.ownsRow base 3 1 v L.length (mapI L)) : ∃ A c, v = .slice A L.length c ∧ IntT w A c L := by
  rcases h.2 with ⟨rfl, h0⟩ | ⟨g, cap, cur, rfl, hb, hg, hc, hm, _, _⟩
  · have : L = [] := List.eq_nil_of_length_eq_zero h0
    subst this
    exact ⟨none, 0, rfl, IntT.nil _ _ _ (by omega)⟩
  · refine ⟨_, cap, rfl, hc, by unfold maxLen at hm; omega, Or.inr ⟨g, cur, _, rfl, hg, fun j hj => ?_⟩⟩
    have hx := h.cells (g := g) rfl j (.int .i64 (L.getD j 0)) (by simp [mapI, List.getD, List.getElem?_eq_getElem hj])
    have hadd : (⟨g, 0, none⟩ : Addr).add j = ⟨g, j, none⟩ := by unfold Addr.add; split <;> simp_all
    rw [hadd] at hx
    exact hx
theorem row_ne_int : (3 : Nat) ≠ 27 := by decide
theorem IntT.row {w w' : World} {base : Nat} {v : Value} {n : Nat} {zs : List Value} {A : Option Addr} {c : Nat} {L : List Int} (h : IntT w A c L) (hown : w.ownsRow base 27 1 v n zs) (hG : w.grownBy w' v.ownBlock) : IntT w' A c L := by
  refine h.keep fun b cs fr hb => hG.block b (Array.getElem?_eq_some_iff.1 hb).1 fun e => ?_
  rcases hown.2 with ⟨rfl, -⟩ | ⟨g, cap, cur, rfl, -, hg, -⟩
  · cases e
  · simp only [Value.ownBlock, Option.some.injEq] at e
    rw [e, hg] at hb
    simp only [Option.some.injEq, Obj.cells.injEq] at hb
    exact row_ne_int hb.2.1.symm

/-- a list, and where it lies -/
structure RL where
  p : List Int
  A : Option Addr
  c : Nat
def noR : RL := ⟨[], none, 0⟩
def lR (xs : List RL) : List (List Int) := xs.map RL.p
theorem lR_len (xs : List RL) : (lR xs).length = xs.length := by simp [lR]
theorem lR_append (a b : List RL) : lR (a ++ b) = lR a ++ lR b := by simp [lR]
def cellsR (xs : List RL) : List Value := xs.map fun x => .slice x.A x.p.length x.c
theorem cellsR_append (a b : List RL) : cellsR (a ++ b) = cellsR a ++ cellsR b := by simp [cellsR]
theorem rl_mem {xs : List RL} {k : Nat} (h : k < xs.length) : xs.getD k noR ∈ xs := by
  rw [List.getD_eq_getElem?_getD, List.getElem?_eq_getElem h]
  exact List.getElem_mem h
theorem lR_at (xs : List RL) (k : Nat) : (lR xs).getD k [] = (xs.getD k noR).p := by
  rw [List.getD_eq_getElem?_getD, List.getD_eq_getElem?_getD, lR, List.getElem?_map]
  cases xs[k]? <;> rfl
theorem cellsR_at {xs : List RL} {k : Nat} (h : k < xs.length) : (cellsR xs)[k]? = some (.slice (xs.getD k noR).A (xs.getD k noR).p.length (xs.getD k noR).c) := by
  simp [cellsR, List.getD, h]
/-- a slice of lists: none, or laid -/
def RowsV (w : World) (A : Option Addr) (cap : Nat) (xs : List RL) : Prop := xs.length ≤ cap ∧ (xs = [] ∨ ∃ b, A = some ⟨b, 0, none⟩ ∧ b < w.heap.size ∧ ∀ k, k < xs.length → w.cell? ⟨b, k, none⟩ = some (.slice (xs.getD k noR).A (xs.getD k noR).p.length (xs.getD k noR).c)) ∧ ∀ x ∈ xs, IntT w x.A x.c x.p
theorem RowsV.later {w w' : World} {A : Option Addr} {cap : Nat} {xs : List RL} (h : RowsV w A cap xs) (hB : Below w.heap.size w w') : RowsV w' A cap xs := by
  obtain ⟨h1, h2, h3⟩ := h
  refine ⟨h1, ?_, fun x hx => (h3 x hx).later hB⟩
  rcases h2 with h2 | ⟨b, h2, h4, h5⟩
  · exact Or.inl h2
  · exact Or.inr ⟨b, h2, Nat.lt_of_lt_of_le h4 hB.size, fun k hk => (hB.cell (p := ⟨b, k, none⟩) h4).trans (h5 k hk)⟩
theorem RowsV.nil (w : World) (A : Option Addr) (cap : Nat) : RowsV w A cap [] := ⟨Nat.zero_le _, Or.inl rfl, fun x hx => by cases hx⟩
theorem rows_own {w : World} {base : Nat} {v : Value} {xs : List RL} (h : w.ownsRow base 27 1 v xs.length (cellsR xs)) (hp : ∀ x ∈ xs, IntT w x.A x.c x.p) : ∃ A c, v = .slice A xs.length c ∧ RowsV w A c xs := by
  rcases h.2 with ⟨rfl, h0⟩ | ⟨g, cap, cur, rfl, hb, hg, hc, _, _, _⟩
  · have : xs = [] := List.eq_nil_of_length_eq_zero h0
    subst this
    exact ⟨none, 0, rfl, RowsV.nil _ _ _⟩
  · refine ⟨_, cap, rfl, hc, Or.inr ⟨g, rfl, (Array.getElem?_eq_some_iff.1 hg).1, fun k hk => ?_⟩, hp⟩
    have y := h.cells (g := g) rfl k _ (cellsR_at hk)
    have hadd : (⟨g, 0, none⟩ : Addr).add k = ⟨g, k, none⟩ := by unfold Addr.add; split <;> simp_all
    rw [hadd] at y
    exact y
theorem Tryz.infoRow : (Tryz.prog.info? 27).map (fun i => (i.zero, i.size, i.bytes)) = some (some (.slice none 0 0), 1, 24) := by kernel_rfl

set_option maxHeartbeats 2000000 in
theorem iclone_any (A : Option Addr) (c : Nat) (L : List Int) (w : World) (hL : L.length ≤ 12) (hP : IntT w A c L) : Calls Tryz.prog 30 #[.slice A L.length c] w fun e w' => (∃ v, e = .returned v ∧ w'.ownsRow w.heap.size 3 1 v L.length (mapI L)) ∧ Below w.heap.size w w' := by
  have hq : ∀ (w : World) (a : Option Addr) (n c n' c' : Nat), (binOp .eql 27 (.slice a n c) (.slice none n' c')).run Tryz.prog w = .ok (.bool a.isNone) w := fun w a n c n' c' => Lib.run_eql_slice_nil w _ _ a n c n' c' Tryz.underlying27
  cases A with
  | none =>
    obtain ⟨-, -, h0 | ⟨b, cs, fr, h0, -⟩⟩ := hP
    · subst h0
      simp only [List.length_nil]
      go_enter Tryz.func30, Tryz.ntmps30
      go_wp2_with fail
      go_ret
      exact ⟨⟨_, rfl, World.ownsRow_nil _ _ _ _⟩, Below.refl _ _⟩
    · cases h0
  | some a =>
    obtain ⟨i0, hi0, hz0, hz1, hz2⟩ := info_parts Tryz.infoInt
    have HC : Hid (∀ j u, (mapI L)[j]? = some u → w.cell? (a.add j) = some u) := by
      intro j u hj
      obtain ⟨-, -, h0 | ⟨b, cs, fr, h0, -, hcell⟩⟩ := hP
      · subst h0; simp [mapI] at hj
      · cases h0
        have hlt : j < L.length := by have := (List.getElem?_eq_some_iff.1 hj).1; simpa [mapI] using this
        have hadd : (⟨b, 0, none⟩ : Addr).add j = ⟨b, j, none⟩ := by unfold Addr.add; split <;> simp_all
        rw [hadd, hcell j hlt]
        simp only [mapI, List.getElem?_map, List.getElem?_eq_getElem hlt, Option.map_some, Option.some.injEq] at hj
        rw [← hj, List.getD_eq_getElem?_getD, List.getElem?_eq_getElem hlt]
        rfl
    have hl : (mapI L).length = L.length * 1 := by simp [mapI]
    have h1 : ∀ u ∈ mapI L, u.oneCell' = true := by intro u hu; simp [mapI] at hu; obtain ⟨x, -, rfl⟩ := hu; rfl
    clear hP
    go_enter Tryz.func30, Tryz.ntmps30
    go_wp2_with (at_builtin; refine wpList_append_own _ rfl _ _ 27 rfl w.heap.size 3 i0 (.int .i64 0) 1 8 Tryz.underlying27 hi0 hz0 hz1 hz2 rfl (by decide) _ _ _ rfl (World.ownsRow_made w #[] 0 (Nat.le_refl _) (Nat.zero_le _) (by simp)) a L.length c (mapI L) rfl ?qc1 ?qc2 ?qc3 ?qc4 ?qc5 ?qc6 ?_)
    case qc1 => exact hl
    case qc2 => exact fun j u hj => Lib.cell?_alloc_some _ (HC.out j u hj)
    case qc3 => exact h1
    case qc4 => simp only [maxLen]; omega
    case qc5 => omega
    case qc6 => simp
    intro v' w1 hown hgrow hnil
    have HO : Hid (w1.ownsRow w.heap.size 3 1 v' L.length (mapI L)) := hown
    have HB : Hid (Below w.heap.size w w1) := ((Below.refl _ w).alloc (Nat.le_refl _) _).grown hgrow (by simp) (by intro k hk; simp [Value.ownBlock] at hk; omega)
    clear hown hgrow hnil
    go_wp2_with fail
    go_ret
    exact ⟨⟨_, rfl, HO.out⟩, HB.out⟩
end Go.Proofs.YtpnfmpbgjkhicafGreatDoor
