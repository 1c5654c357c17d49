/-
  Numbers written into a square, on plain data: what comes of the whole, of each row and of each column, and that rows, and columns, add up to the whole.
-/
import Derived.Test.YtfngmnhkhfgmjadJRAU
import Derived.Test.YtfngmnhkhfgmjadJRBF
import Derived.Test.YtfngmnhkhfgmjadJRBL
namespace Go.Proofs.Ytfngmnhkhfgmjad
theorem sq_in {n i j : Nat} (hn : n ≤ 8) (hi : i ≤ n) (hj : j ≤ n) : InO (squareD n) 2 [(i : Int), (j : Int)] := by
 refine ⟨(sq_right (by omega)).1, rfl, fun k hk => ?_, fun k hk => ?_⟩
 ·have : k = 0 ∨ k = 1 := by omega
  rcases this with rfl | rfl
  ·show (0 : Int) ≤ (i : Int); omega
  ·show (0 : Int) ≤ (j : Int); omega
 ·have : k = 0 ∨ k = 1 := by omega
  rcases this with rfl | rfl
  ·show (i : Int) < ((n + 1 : Nat) : Int); omega
  ·show (j : Int) < ((n + 1 : Nat) : Int); omega
section
variable {n m : Nat} {v : Nat → Int} (hn1 : 1 ≤ n) (hn8 : n ≤ 8) (hm : m ≤ n * n) (h60 : m ≤ 60) (hv : ∀ k, k < m → -1000000 ≤ v k ∧ v k ≤ 1000000)
include hn1 hn8 hm h60 hv
theorem corn_ens : Ens (squareD n) 2 (cornL n v m) := by
 have h0 := square_ents ⟨n, by omega⟩
 have h := corn_all hn1 hn8 hm h60 hv
 have e : editsV (squareD n) 2 [] (cornD n v m) = editsFrom (squareD n) 2 [] 0 (cornD n v m) := by
  unfold editsV
  rw [if_neg (by simp [cornD]; omega), if_neg (by simpa using h0)]
 have h1 := Ens.edits (cornD n v m) [] 0 (ens_of h0) (by rw [← e, h])
 rw [← e, h] at h1
 exact h1
theorem corn_err {i j : Nat} (hi : i ≤ n) (hj : j ≤ n) : rvErr (squareD n) 2 (cornL n v m) [(i : Int), (j : Int)] = 0 := by
 rw [rvErr_place (corn_ens hn1 hn8 hm h60 hv).ok]
 exact (sq_in hn8 hi hj).ok
end
def atB (n i j k : Nat) : Bool := (decide (i = 0) || decide (i = 1 + k / n)) && (decide (j = 0) || decide (j = 1 + k % n))
def cornK (n m i j : Nat) : Int := if (List.range m).any (atB n i j) = true then 1 else 0
theorem corn_val {n m : Nat} {v : Nat → Int} (hn1 : 1 ≤ n) (hn8 : n ≤ 8) (hm : m ≤ n * n) (h60 : m ≤ 60) (hv : ∀ k, k < m → -1000000 ≤ v k ∧ v k ≤ 1000000) {i j : Nat} (hi : i ≤ n) (hj : j ≤ n) : rvV (squareD n) 2 (cornL n v m) [(i : Int), (j : Int)] = (cornK n m i j, sumIf (atB n i j) v m) := by
 rw [rvV_ok (corn_err hn1 hn8 hm h60 hv hi hj)]
 unfold rollV rollK
 rw [corn_roll hn1 hn8 v hi hj m hm]
 refine Prod.ext ?_ rfl
 show (if (cornL n v m).any (cntR (squareD n) 2 [(i : Int), (j : Int)]) = true then (1 : Int) else 0) = cornK n m i j
 unfold cornK
 have e : (cornL n v m).any (cntR (squareD n) 2 [(i : Int), (j : Int)]) = (List.range m).any (atB n i j) := by
  unfold cornL
  rw [List.any_map, Bool.eq_iff_iff, List.any_eq_true, List.any_eq_true]
  refine ⟨fun ⟨k, hk, h⟩ => ⟨k, hk, ?_⟩, fun ⟨k, hk, h⟩ => ⟨k, hk, ?_⟩⟩
  ·have hk' : k < m := by simpa using hk
   rw [← h]; exact ((corn_cnt hn1 hn8 (by omega) v hi hj).1).symm
  ·have hk' : k < m := by simpa using hk
   rw [← h]; exact (corn_cnt hn1 hn8 (by omega) v hi hj).1
 rw [e]
theorem sumIf_bound {b : Nat → Bool} {v : Nat → Int} : ∀ m : Nat, (∀ k, k < m → -1000000 ≤ v k ∧ v k ≤ 1000000) → -1000000 * (m : Int) ≤ sumIf b v m ∧ sumIf b v m ≤ 1000000 * (m : Int)
 | 0, _ => by simp [sumIf]
 | m + 1, h => by
  have ih := sumIf_bound (b := b) m fun k hk => h k (by omega)
  have hm := h m (by omega)
  rw [sumIf]
  split <;> omega
theorem sumRows_bound {f : Nat → Nat} {v : Nat → Int} {m : Nat} (h60 : m ≤ 60) (hv : ∀ k, k < m → -1000000 ≤ v k ∧ v k ≤ 1000000) : ∀ i : Nat, -60000000 * (i : Int) ≤ sumRows f v m i ∧ sumRows f v m i ≤ 60000000 * (i : Int)
 | 0 => by simp [sumRows]
 | i + 1 => by
  have ih := sumRows_bound (f := f) h60 hv i
  have hb := sumIf_bound (b := fun k => decide (i + 1 = f k)) m hv
  rw [sumRows]
  omega
theorem sumIf_none {b : Nat → Bool} {v : Nat → Int} : ∀ m, (List.range m).any b = false → sumIf b v m = 0
 | 0, _ => rfl
 | m + 1, h => by
  rw [List.range_succ, List.any_append, Bool.or_eq_false_iff] at h
  have hb : b m = false := by simpa using h.2
  rw [sumIf, sumIf_none m h.1, if_neg (by rw [hb]; simp)]
  rfl
theorem cornK_one {n m i j : Nat} (hm : 0 < m) (h : atB n i j 0 = true) : cornK n m i j = 1 := by
 unfold cornK
 rw [if_pos]
 rw [List.any_eq_true]
 exact ⟨0, by simpa using hm, h⟩
theorem cornK_two (n m i j : Nat) (v : Nat → Int) : (cornK n m i j = 1) ∨ (cornK n m i j = 0 ∧ sumIf (atB n i j) v m = 0) := by
 unfold cornK
 cases h : (List.range m).any (atB n i j)
 ·right; exact ⟨by simp, sumIf_none m h⟩
 ·left; simp
def accP (f : Nat → Nat) (v : Nat → Int) (m i : Nat) : Int × Int := if i = 0 then (0, 0) else (1, sumRows f v m i)
theorem plus_sum {k1 S k2 s : Int} (h1 : k1 = 1 ∨ (k1 = 0 ∧ S = 0)) (h2 : k2 = 1 ∨ (k2 = 0 ∧ s = 0)) (h3 : k1 = 1 ∨ k2 = 1) (hb : -1000000000000 ≤ S + s ∧ S + s ≤ 1000000000000) : plusP k1 S k2 s = (1, S + s) := by
 rcases h1 with rfl | ⟨rfl, rfl⟩
 ·rcases h2 with rfl | ⟨rfl, rfl⟩
  ·unfold plusP joinP; rw [ofP_in hb.1 hb.2]; rfl
  ·unfold plusP joinP; rw [ofP_in hb.1 hb.2]; rfl
 ·rcases h2 with rfl | ⟨rfl, rfl⟩
  ·unfold plusP joinP; rw [ofP_in hb.1 hb.2]; rfl
  ·rcases h3 with h3 | h3 <;> cases h3
theorem good_of {k s : Int} (h : k = 1 ∨ (k = 0 ∧ s = 0)) (hb : -1000000000000 ≤ s ∧ s ≤ 1000000000000) : good k s = true := by
 unfold good
 refine decide_eq_true ?_
 rcases h with rfl | ⟨rfl, rfl⟩
 ·exact Or.inl ⟨rfl, hb⟩
 ·exact Or.inr ⟨Or.inl rfl, rfl⟩
theorem acc_step {f : Nat → Nat} {v : Nat → Int} {m i : Nat} {b : Nat → Bool} {K : Int} (h60 : m ≤ 60) (hi8 : i ≤ 7) (hv : ∀ k, k < m → -1000000 ≤ v k ∧ v k ≤ 1000000) (hb : ∀ k, k < m → b k = decide (i + 1 = f k)) (hK : K = 1 ∨ (K = 0 ∧ sumIf b v m = 0)) (h1 : i = 0 → K = 1) :
  good (accP f v m i).1 (accP f v m i).2 = true ∧ good K (sumIf b v m) = true ∧ plusP (accP f v m i).1 (accP f v m i).2 K (sumIf b v m) = accP f v m (i + 1) := by
 have hs : sumIf b v m = sumIf (fun k => decide (i + 1 = f k)) v m := sumIf_same m hb
 have hb1 := sumIf_bound (b := b) m hv
 have hb2 := sumRows_bound (f := f) h60 hv i
 have h3 : (accP f v m i).1 = 1 ∨ ((accP f v m i).1 = 0 ∧ (accP f v m i).2 = 0) := by
  unfold accP
  split
  ·right; exact ⟨rfl, rfl⟩
  ·left; rfl
 have h4 : (accP f v m i).2 = sumRows f v m i := by
  unfold accP
  split
  ·rename_i h; subst h; rfl
  ·rfl
 have h5 : accP f v m (i + 1) = (1, (accP f v m i).2 + sumIf b v m) := by
  rw [h4, hs]
  unfold accP
  rw [if_neg (by omega)]
  rfl
 refine ⟨good_of h3 (by rw [h4]; omega), good_of hK (by omega), ?_⟩
 rw [h5]
 refine plus_sum h3 hK ?_ (by rw [h4]; omega)
 by_cases h : i = 0
 ·right; exact h1 h
 ·left; unfold accP; rw [if_neg h]
end Go.Proofs.Ytfngmnhkhfgmjad
