/-
  What the four closures that reckon answer (the sum, the difference, the product, the quotient of two numbers of cells): Of what comes of it.
-/
import Derived.Test.YtklfenojapgmnaeDoorCells2
namespace Go.Proofs.YtklfenojapgmnaeDoor
open Go.ChangeShapes Go.WideShapes Go.ChangeAt Go.RowKit

def Makes (fn : Nat) (x y : Int) (r : Int × Int) : Prop := ∀ (w : World), Calls Tryd.prog fn #[.int .i64 x, .int .i64 y] w fun e w' => e = .returned (.agg #[.int .i64 r.1, .int .i64 r.2]) ∧ Below w.heap.size w w'

theorem bsize {W w1 : World} {n : Nat} (hb : Below n W w1) : W.heap.size ≤ w1.heap.size := hb.size

theorem plus_any (x y : Int) (hx1 : -1000000000000 ≤ x) (hx2 : x ≤ 1000000000000) (hy1 : -1000000000000 ≤ y) (hy2 : y ≤ 1000000000000) : Makes 69 x y (ofP (x + y)) := by
  intro w
  go_enter Tryd.func69, Tryd.ntmps69
  go_wp2_with (go_at_call 53; refine (of_any _ _).mono ?_; rintro e w1 ⟨rfl, hb⟩; obtain ⟨hc, hf⟩ := bcell hb; have hz := bsize hb; simp at hz)
  refine bodyPost_ret (v := .agg #[.int .i64 (ofP (x + y)).1, .int .i64 (ofP (x + y)).2]) (by simp [results, Tryd.results69, go_sem, hc]) rfl ⟨rfl, ?_⟩
  exact (((((Below.refl _ _).alloc (Nat.le_refl _) _).trans (hb.mono (by simp))).setCell (by simp) _).setCell (by simp) _)
theorem minus_any (x y : Int) (hx1 : -1000000000000 ≤ x) (hx2 : x ≤ 1000000000000) (hy1 : -1000000000000 ≤ y) (hy2 : y ≤ 1000000000000) : Makes 70 x y (ofP (x - y)) := by
  intro w
  go_enter Tryd.func70, Tryd.ntmps70
  go_wp2_with (go_at_call 53; refine (of_any _ _).mono ?_; rintro e w1 ⟨rfl, hb⟩; obtain ⟨hc, hf⟩ := bcell hb; have hz := bsize hb; simp at hz)
  refine bodyPost_ret (v := .agg #[.int .i64 (ofP (x - y)).1, .int .i64 (ofP (x - y)).2]) (by simp [results, Tryd.results70, go_sem, hc]) rfl ⟨rfl, ?_⟩
  exact (((((Below.refl _ _).alloc (Nat.le_refl _) _).trans (hb.mono (by simp))).setCell (by simp) _).setCell (by simp) _)

def ab (n : Int) : Int := if n < 0 then -n else n
theorem ab_mul (x y : Int) : ab (x * y) = ab x * ab y := by
  unfold ab
  by_cases hx : x < 0 <;> by_cases hy : y < 0
  · rw [if_neg (Int.not_lt.mpr (Int.le_of_lt (Int.mul_pos_of_neg_of_neg hx hy))), if_pos hx, if_pos hy, Int.neg_mul_neg]
  · by_cases h0 : y = 0
    · subst h0; simp
    · rw [if_pos (Int.mul_neg_of_neg_of_pos hx (by omega)), if_pos hx, if_neg hy, Int.neg_mul]
  · by_cases h0 : x = 0
    · subst h0; simp
    · rw [if_pos (Int.mul_neg_of_pos_of_neg (by omega) hy), if_neg hx, if_pos hy, Int.mul_neg]
  · rw [if_neg (Int.not_lt.mpr (Int.mul_nonneg (by omega) (by omega))), if_neg hx, if_neg hy]
theorem ab_bd {n m : Int} (h : ab n ≤ m) : -m ≤ n ∧ n ≤ m := by unfold ab at h; split at h <;> omega
theorem ab_out {n m : Int} (h : m < ab n) : n < -m ∨ m < n := by unfold ab at h; split at h <;> omega
theorem ab_in {n m : Int} (h1 : -m ≤ n) (h2 : n ≤ m) : 0 ≤ ab n ∧ ab n ≤ m := by unfold ab; split <;> omega
theorem ab_pos {n : Int} (h : ¬ n = 0) : 1 ≤ ab n := by unfold ab; split <;> omega

theorem size_any (n : Int) (w : World) (h1 : -1000000000000 ≤ n) (h2 : n ≤ 1000000000000) : Calls Tryd.prog 86 #[.int .i64 n] w fun e w' => e = .returned (.int .i64 (ab n)) ∧ w' = w := by
  unfold ab
  by_cases h : n < 0
  · rw [if_pos h]
    go_enter Tryd.func86, Tryd.ntmps86
    go_wp2
    go_ret
    exact ⟨by first | rfl | (congr 2; omega), rfl⟩
  · rw [if_neg h]
    go_enter Tryd.func86, Tryd.ntmps86
    go_wp2
    go_ret
    exact ⟨by first | rfl | (congr 2; omega), rfl⟩

def quoP (x y : Int) : Int × Int := if y = 0 then (2, 0) else ofP (x.tdiv y)
theorem tdiv_bd (x y : Int) : ab (x.tdiv y) ≤ ab x := by
  have h := Int.natAbs_tdiv_le_natAbs x y
  unfold ab
  split <;> split <;> omega

theorem quo_wrap (x y : Int) (hy : ¬ y = 0) : Makes 73 x y (ofP (wrap64 (x.tdiv y))) := by
  intro w
  have hy0 : (y == 0) = false := by simp; omega
  go_enter Tryd.func73, Tryd.ntmps73
  go_wp2_with (go_at_call 53; refine (of_any _ _).mono ?_; rintro e w1 ⟨rfl, hb⟩; obtain ⟨hc, hf⟩ := bcell hb; have hz := bsize hb; simp at hz)
  refine bodyPost_ret (v := .agg #[.int .i64 (ofP (wrap64 (x.tdiv y))).1, .int .i64 (ofP (wrap64 (x.tdiv y))).2]) (by simp [results, Tryd.results73, go_sem, hc]) rfl ⟨rfl, ?_⟩
  exact (((((Below.refl _ _).alloc (Nat.le_refl _) _).trans (hb.mono (by simp))).setCell (by simp) _).setCell (by simp) _)

theorem quotient_any (x y : Int) (hx1 : -1000000000000 ≤ x) (hx2 : x ≤ 1000000000000) : Makes 73 x y (quoP x y) := by
  unfold quoP
  by_cases hy : y = 0
  · subst hy
    rw [if_pos rfl]
    intro w
    go_enter Tryd.func73, Tryd.ntmps73
    go_wp2
    go_returns
    exact ⟨rfl, by go_grown⟩
  · rw [if_neg hy]
    have hq := quo_wrap x y hy
    have hb := ab_bd (Int.le_trans (tdiv_bd x y) (ab_in hx1 hx2).2)
    have hw : wrap64 (x.tdiv y) = x.tdiv y := by unfold wrap64; omega
    rw [hw] at hq
    exact hq

theorem product_any (x y : Int) (hx1 : -1000000000000 ≤ x) (hx2 : x ≤ 1000000000000) (hy1 : -1000000000000 ≤ y) (hy2 : y ≤ 1000000000000) : Makes 72 x y (ofP (x * y)) := by
  intro w
  by_cases hy : y = 0
  · subst hy
    have hb0 : ofP (x * 0) = (1, 0) := by rw [Int.mul_zero]; exact ofP_in (by omega) (by omega)
    rw [hb0]
    have ho := of_any 0
    rw [ofP_in (by omega) (by omega)] at ho
    go_enter Tryd.func72, Tryd.ntmps72
    go_wp2_with (go_at_call 53; refine (ho _).mono ?_; rintro e w1 ⟨rfl, hb⟩; obtain ⟨hc, hf⟩ := bcell hb; have hz := bsize hb; simp at hz)
    refine bodyPost_ret (v := .agg #[.int .i64 1, .int .i64 0]) (by simp [results, Tryd.results72, go_sem, hc]) rfl ⟨rfl, ?_⟩
    exact (((((Below.refl _ _).alloc (Nat.le_refl _) _).trans (hb.mono (by simp))).setCell (by simp) _).setCell (by simp) _)
  · have hy0 : (y != 0) = true := by simp; omega
    obtain ⟨ax0, ax1⟩ := ab_in hx1 hx2
    obtain ⟨_, ay1⟩ := ab_in hy1 hy2
    have ay0 := ab_pos hy
    have hsx := size_any x
    have hsy := size_any y
    by_cases hg : 1000000000000 / ab y < ab x
    · have hout : ofP (x * y) = (2, 0) := by
        refine ofP_out (ab_out (m := 1000000000000) ?_)
        rw [ab_mul]
        exact (Int.ediv_lt_iff_lt_mul (by omega)).mp hg
      rw [hout]
      go_enter Tryd.func72, Tryd.ntmps72
      go_wp2_with fail
      refine (hsx _ hx1 hx2).mono ?_
      rintro e w1 ⟨rfl, rfl⟩
      go_wp2_with fail
      refine (hsy _ hy1 hy2).mono ?_
      rintro e w1 ⟨rfl, rfl⟩
      go_wp2
      go_returns
      exact ⟨rfl, by go_grown⟩
    · have hin : ab (x * y) ≤ 1000000000000 := by
        rw [ab_mul]
        exact Int.not_lt.mp (fun h => hg ((Int.ediv_lt_iff_lt_mul (by omega)).mpr h))
      obtain ⟨hp1, hp2⟩ := ab_bd hin
      have ho := of_any (x * y)
      clear hin
      go_enter Tryd.func72, Tryd.ntmps72
      go_wp2_with fail
      refine (hsx _ hx1 hx2).mono ?_
      rintro e w1 ⟨rfl, rfl⟩
      go_wp2_with fail
      refine (hsy _ hy1 hy2).mono ?_
      rintro e w1 ⟨rfl, rfl⟩
      go_wp2_with fail
      refine (ho _).mono ?_
      rintro e w1 ⟨rfl, hb⟩
      obtain ⟨hc, hf⟩ := bcell hb
      have hz := bsize hb
      simp at hz
      go_wp2_with fail
      refine bodyPost_ret (v := .agg #[.int .i64 (ofP (x * y)).1, .int .i64 (ofP (x * y)).2]) (by simp [results, Tryd.results72, go_sem, hc]) rfl ⟨rfl, ?_⟩
      exact (((((Below.refl _ _).alloc (Nat.le_refl _) _).trans (hb.mono (by simp))).setCell (by simp) _).setCell (by simp) _)
end Go.Proofs.YtklfenojapgmnaeDoor
