/-
  What the four closures that reckon answer (the sum, the difference, the product, the quotient of two numbers of cells): Of what comes of it.
-/
import Derived.Test.YtmjcnlpjnbcfjadGreatDoorCells2
namespace Go.Proofs.YtmjcnlpjnbcfjadGreatDoor
open Go.ChangeShapes Go.WideShapes Go.ChangeAt Go.RowKit

def Makes (fn : Nat) (x y : Int) (r : Int × Int) : Prop := ∀ (w : World), Calls Tryz.prog fn #[.int .i64 x, .int .i64 y] w fun e w' => e = .returned (.agg #[.int .i64 r.1, .int .i64 r.2]) ∧ Below w.heap.size w w'

theorem bsize {W w1 : World} {n : Nat} (hb : Below n W w1) : W.heap.size ≤ w1.heap.size := hb.size

theorem plus_any (x y : Int) (hx1 : -1000000000000 ≤ x) (hx2 : x ≤ 1000000000000) (hy1 : -1000000000000 ≤ y) (hy2 : y ≤ 1000000000000) : Makes 85 x y (ofP (x + y)) := by
  intro w
  go_enter Tryz.func85, Tryz.ntmps85
  go_wp2_with (go_at_call 24; refine (of_any _ _).mono ?_; rintro e w1 ⟨rfl, hb⟩; obtain ⟨hc, hf⟩ := bcell hb; have hz := bsize hb; simp at hz)
  refine bodyPost_ret (v := .agg #[.int .i64 (ofP (x + y)).1, .int .i64 (ofP (x + y)).2]) (by simp [results, Tryz.results85, go_sem, hc]) rfl ⟨rfl, ?_⟩
  exact (((((Below.refl _ _).alloc (Nat.le_refl _) _).trans (hb.mono (by simp))).setCell (by simp) _).setCell (by simp) _)
theorem minus_any (x y : Int) (hx1 : -1000000000000 ≤ x) (hx2 : x ≤ 1000000000000) (hy1 : -1000000000000 ≤ y) (hy2 : y ≤ 1000000000000) : Makes 86 x y (ofP (x - y)) := by
  intro w
  go_enter Tryz.func86, Tryz.ntmps86
  go_wp2_with (go_at_call 24; refine (of_any _ _).mono ?_; rintro e w1 ⟨rfl, hb⟩; obtain ⟨hc, hf⟩ := bcell hb; have hz := bsize hb; simp at hz)
  refine bodyPost_ret (v := .agg #[.int .i64 (ofP (x - y)).1, .int .i64 (ofP (x - y)).2]) (by simp [results, Tryz.results86, go_sem, hc]) rfl ⟨rfl, ?_⟩
  exact (((((Below.refl _ _).alloc (Nat.le_refl _) _).trans (hb.mono (by simp))).setCell (by simp) _).setCell (by simp) _)

def ab (n : Int) : Int := if n < 0 then -n else n
theorem ab_mul (x y : Int) : ab (x * y) = ab x * ab y := by
  unfold ab
  by_cases hx : x < 0 <;> by_cases hy : y < 0
  · rw [if_neg (Int.not_lt.mpr (Int.le_of_lt (Int.mul_pos_of_neg_of_neg hx hy))), if_pos hx, if_pos hy, Int.neg_mul_neg]
  · by_cases h0 : y = 0
    · subst h0; simp
    · rw [if_pos (Int.mul_neg_of_neg_of_pos hx (by omega)), if_pos hx, if_neg hy, Int.neg_mul]
  · by_cases h0 : x = 0
    · subst h0; simp
    · rw [if_pos (Int.mul_neg_of_pos_of_neg (by omega) hy), if_neg hx, if_pos hy, Int.mul_neg]
  · rw [if_neg (Int.not_lt.mpr (Int.mul_nonneg (by omega) (by omega))), if_neg hx, if_neg hy]
theorem ab_bd {n m : Int} (h : ab n ≤ m) : -m ≤ n ∧ n ≤ m := by unfold ab at h; split at h <;> omega
theorem ab_out {n m : Int} (h : m < ab n) : n < -m ∨ m < n := by unfold ab at h; split at h <;> omega
theorem ab_in {n m : Int} (h1 : -m ≤ n) (h2 : n ≤ m) : 0 ≤ ab n ∧ ab n ≤ m := by unfold ab; split <;> omega
theorem ab_pos {n : Int} (h : ¬ n = 0) : 1 ≤ ab n := by unfold ab; split <;> omega

def quoP (x y : Int) : Int × Int := if y = 0 then (2, 0) else ofP (x.tdiv y)
theorem tdiv_bd (x y : Int) : ab (x.tdiv y) ≤ ab x := by
  have h := Int.natAbs_tdiv_le_natAbs x y
  unfold ab
  split <;> split <;> omega

end Go.Proofs.YtmjcnlpjnbcfjadGreatDoor
