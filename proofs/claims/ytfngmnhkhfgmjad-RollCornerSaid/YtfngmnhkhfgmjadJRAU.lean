/-
  Numbers written into a square, one behind the other, on plain data: each edit is right; what comes of the whole is their sum, and what comes of the rows, and of the columns, adds up to it.
-/
import Derived.Test.YtfngmnhkhfgmjadJRAT
namespace Go.Proofs.Ytfngmnhkhfgmjad
theorem sq_count : ∀ n : Fin 9, ∀ i : Fin 9, ∀ a : Fin 9, 1 ≤ a.val → a.val ≤ n.val → i.val ≤ n.val →
  inB (pathOf flatM (a.val : Int)) (i.val : Int) = (decide (i.val = 0) || decide (i.val = a.val)) ∧ weightOf flatM (i.val : Int) (a.val : Int) = if i.val = 0 ∨ i.val = a.val then 1 else 0 := by decide +kernel
theorem sq_leaf : ∀ n : Fin 9, ∀ a : Fin 9, ∀ b : Fin 9, 1 ≤ a.val → a.val ≤ n.val → 1 ≤ b.val → b.val ≤ n.val →
  shapeErr (squareD n.val) 2 [(a.val : Int), (b.val : Int)] = 0 ∧ leafV (squareD n.val) 2 [(a.val : Int), (b.val : Int)] = true := by decide +kernel
def cornP (n k : Nat) : List Int := [((1 + k / n : Nat) : Int), ((1 + k % n : Nat) : Int)]
def cornX (n : Nat) (v : Nat → Int) (k : Nat) : Ed := ⟨cornP n k, v k, false⟩
def cornE (n : Nat) (v : Nat → Int) (k : Nat) : En := ⟨cornP n k, v k⟩
def cornL (n : Nat) (v : Nat → Int) (m : Nat) : List En := (List.range m).map (cornE n v)
def cornD (n : Nat) (v : Nat → Int) (m : Nat) : List Ed := (List.range m).map (cornX n v)
theorem corn_row {n k : Nat} (hn : 1 ≤ n) (hk : k < n * n) : 1 ≤ 1 + k / n ∧ 1 + k / n ≤ n ∧ 1 ≤ 1 + k % n ∧ 1 + k % n ≤ n := by
 have h1 : k / n < n := Nat.div_lt_of_lt_mul hk
 have h2 : k % n < n := Nat.mod_lt _ hn
 exact ⟨Nat.le_add_right _ _, by omega, Nat.le_add_right _ _, by omega⟩
theorem corn_less {n j k : Nat} (hjk : j < k) : lessL (cornP n j) (cornP n k) = true := by
 unfold cornP
 simp only [lessL]
 have h1 : j / n ≤ k / n := Nat.div_le_div_right (by omega)
 by_cases h : j / n = k / n
 ·rw [if_pos (by rw [h])]
  have e1 := Nat.div_add_mod j n
  have e2 := Nat.div_add_mod k n
  rw [h] at e1
  have h2 : j % n < k % n := by omega
  rw [if_neg (by omega)]
  exact decide_eq_true (by omega)
 ·rw [if_neg (by omega)]
  exact decide_eq_true (by omega)
theorem set_last {l : List En} {p : List Int} (h : ∀ e ∈ l, lessL e.pl p = true) (x : Int) : setL l p x = l ++ [⟨p, x⟩] := by
 have hw : l.takeWhile (fun e => lessL e.pl p) = l := by
  induction l with
  | nil => rfl
  | cons e r ih => rw [List.takeWhile_cons, if_pos (h e (List.mem_cons_self ..)), ih fun y hy => h y (List.mem_cons_of_mem _ hy)]
 have hc : cntE l p = l.length := by unfold cntE; rw [hw]
 have hh : hasE l p = false := by unfold hasE; rw [hc, List.drop_length]
 unfold setL
 rw [hh, hc]
 simp
theorem corn_edit {n k : Nat} (hn1 : 1 ≤ n) (hn8 : n ≤ 8) (hk : k < n * n) {v : Nat → Int} (hv : -1000000 ≤ v k ∧ v k ≤ 1000000) : editErr (squareD n) 2 (cornL n v k) (cornX n v k) = 0 ∧ editV (cornL n v k) (cornX n v k) = cornL n v (k + 1) := by
 obtain ⟨h1, h2, h3, h4⟩ := corn_row hn1 hk
 obtain ⟨s1, s2⟩ := sq_leaf ⟨n, by omega⟩ ⟨1 + k / n, by omega⟩ ⟨1 + k % n, by omega⟩ h1 h2 h3 h4
 refine ⟨?_, ?_⟩
 ·unfold editErr
  have e1 : shapeErr (squareD n) 2 (cornX n v k).pl = 0 := s1
  have e2 : leafV (squareD n) 2 (cornX n v k).pl = true := s2
  have e3 : numOk (cornX n v k).n = true := by show (decide (-1000000 ≤ v k) && decide (v k ≤ 1000000)) = true; rw [decide_eq_true hv.1, decide_eq_true hv.2]; rfl
  rw [if_neg (by rw [e1]; simp), if_neg (by simp [cornX]), if_neg (by rw [e2]; simp), if_neg (by rw [e3]; simp)]
 ·show setL (cornL n v k) (cornP n k) (v k) = _
  rw [set_last]
  ·simp [cornL, List.range_succ, cornE]
  ·intro e he
   simp only [cornL, List.mem_map, List.mem_range] at he
   obtain ⟨j, hj, rfl⟩ := he
   exact corn_less hj
theorem corn_from {n : Nat} (hn1 : 1 ≤ n) (hn8 : n ≤ 8) {v : Nat → Int} {m : Nat} (hm : m ≤ n * n) (hv : ∀ k, k < m → -1000000 ≤ v k ∧ v k ≤ 1000000) : ∀ r k, k + r = m → editsFrom (squareD n) 2 (cornL n v k) k ((cornD n v m).drop k) = (cornL n v m, 0, 0)
 | 0, k, hk => by
  have : k = m := by omega
  subst this
  rw [List.drop_eq_nil_of_le (by simp [cornD])]
  rfl
 | r + 1, k, hk => by
  have hlt : k < (cornD n v m).length := by simp [cornD]; omega
  have hd : (cornD n v m).drop k = cornX n v k :: (cornD n v m).drop (k + 1) := by rw [List.drop_eq_getElem_cons hlt]; congr 1; simp [cornD]
  obtain ⟨h1, h2⟩ := corn_edit (v := v) hn1 hn8 (by omega : k < n * n) (hv k (by omega))
  rw [hd, editsFrom_ok _ h1, h2]
  exact corn_from hn1 hn8 hm hv r (k + 1) (by omega)
theorem square_ents : ∀ n : Fin 9, entsErr (squareD n.val) 2 [] = 0 := by decide +kernel
theorem corn_all {n : Nat} (hn1 : 1 ≤ n) (hn8 : n ≤ 8) {v : Nat → Int} {m : Nat} (hm : m ≤ n * n) (h60 : m ≤ 60) (hv : ∀ k, k < m → -1000000 ≤ v k ∧ v k ≤ 1000000) : editsV (squareD n) 2 [] (cornD n v m) = (cornL n v m, 0, 0) := by
 unfold editsV
 rw [if_neg (by simp [cornD]; omega), if_neg (by rw [square_ents ⟨n, by omega⟩]; simp)]
 have := corn_from hn1 hn8 hm hv m 0 (by omega)
 simpa [cornL] using this
theorem corn_cnt {n k : Nat} (hn1 : 1 ≤ n) (hn8 : n ≤ 8) (hk : k < n * n) (v : Nat → Int) {i j : Nat} (hi : i ≤ n) (hj : j ≤ n) :
  cntR (squareD n) 2 [(i : Int), (j : Int)] (cornE n v k) = ((decide (i = 0) || decide (i = 1 + k / n)) && (decide (j = 0) || decide (j = 1 + k % n))) ∧
  (cntR (squareD n) 2 [(i : Int), (j : Int)] (cornE n v k) = true → valR (squareD n) 2 [(i : Int), (j : Int)] (cornE n v k) = v k) := by
 obtain ⟨h1, h2, h3, h4⟩ := corn_row hn1 hk
 obtain ⟨a1, a2⟩ := sq_count ⟨n, by omega⟩ ⟨i, by omega⟩ ⟨1 + k / n, by omega⟩ h1 h2 hi
 obtain ⟨b1, b2⟩ := sq_count ⟨n, by omega⟩ ⟨j, by omega⟩ ⟨1 + k % n, by omega⟩ h3 h4 hj
 simp only at a1 a2 b1 b2
 have e1 : inTo (squareD n) [(i : Int), (j : Int)] (cornE n v k).pl 2 = ((decide (i = 0) || decide (i = 1 + k / n)) && (decide (j = 0) || decide (j = 1 + k % n))) := by
  show (true && inB (pathOf flatM ((1 + k / n : Nat) : Int)) (i : Int) && inB (pathOf flatM ((1 + k % n : Nat) : Int)) (j : Int)) = _
  rw [a1, b1, Bool.true_and]
 have e2 : pwTo (squareD n) [(i : Int), (j : Int)] (cornE n v k).pl 2 = (if i = 0 ∨ i = 1 + k / n then 1 else 0) * (if j = 0 ∨ j = 1 + k % n then 1 else 0) := by
  show 1 * weightOf flatM (i : Int) ((1 + k / n : Nat) : Int) * weightOf flatM (j : Int) ((1 + k % n : Nat) : Int) = _
  rw [a2, b2, Int.one_mul]
 unfold cntR valR
 rw [e1, e2]
 by_cases c1 : i = 0 ∨ i = 1 + k / n
 ·by_cases c2 : j = 0 ∨ j = 1 + k % n
  ·have d1 : (decide (i = 0) || decide (i = 1 + k / n)) = true := by simpa using c1
   have d2 : (decide (j = 0) || decide (j = 1 + k % n)) = true := by simpa using c2
   rw [d1, d2, if_pos c1, if_pos c2]
   exact ⟨rfl, fun _ => by simp [cornE]⟩
  ·have d2 : (decide (j = 0) || decide (j = 1 + k % n)) = false := by simpa using c2
   rw [d2, Bool.and_false]
   exact ⟨rfl, fun h => by cases h⟩
 ·have d1 : (decide (i = 0) || decide (i = 1 + k / n)) = false := by simpa using c1
  rw [d1, Bool.false_and]
  exact ⟨rfl, fun h => by cases h⟩
def sumIf (b : Nat → Bool) (v : Nat → Int) : Nat → Int
 | 0 => 0
 | k + 1 => sumIf b v k + (if b k = true then v k else 0)
theorem corn_roll {n : Nat} (hn1 : 1 ≤ n) (hn8 : n ≤ 8) (v : Nat → Int) {i j : Nat} (hi : i ≤ n) (hj : j ≤ n) : ∀ m, m ≤ n * n → rollN (squareD n) 2 [(i : Int), (j : Int)] (cornL n v m) = sumIf (fun k => (decide (i = 0) || decide (i = 1 + k / n)) && (decide (j = 0) || decide (j = 1 + k % n))) v m
 | 0, _ => rfl
 | m + 1, hm => by
  have ih := corn_roll hn1 hn8 v hi hj m (by omega)
  obtain ⟨h1, h2⟩ := corn_cnt hn1 hn8 (by omega : m < n * n) v hi hj
  have e : cornL n v (m + 1) = cornL n v m ++ [cornE n v m] := by simp [cornL, List.range_succ]
  rw [e, rollN_append, ih, sumIf, rollN, rollN, h1]
  by_cases hb : ((decide (i = 0) || decide (i = 1 + m / n)) && (decide (j = 0) || decide (j = 1 + m % n))) = true
  ·rw [if_pos hb, if_pos hb, h2 (by rw [h1]; exact hb)]; omega
  ·rw [if_neg hb, if_neg hb]; omega
def sumRows (f : Nat → Nat) (v : Nat → Int) (m : Nat) : Nat → Int
 | 0 => 0
 | i + 1 => sumRows f v m i + sumIf (fun k => decide (i + 1 = f k)) v m
theorem sumr_step (f : Nat → Nat) (v : Nat → Int) (m : Nat) : ∀ i, sumRows f v (m + 1) i = sumRows f v m i + (if 1 ≤ f m ∧ f m ≤ i then v m else 0)
 | 0 => by rw [sumRows, sumRows, if_neg (by omega)]; rfl
 | i + 1 => by
  rw [sumRows, sumRows, sumr_step f v m i, sumIf]
  have e1 : (if decide (i + 1 = f m) = true then v m else 0) = if i + 1 = f m then v m else 0 := by by_cases h : i + 1 = f m <;> simp [h]
  rw [e1]
  by_cases h : i + 1 = f m
  ·rw [if_pos h, if_neg (show ¬ (1 ≤ f m ∧ f m ≤ i) by omega), if_pos (show 1 ≤ f m ∧ f m ≤ i + 1 by omega)]; omega
  ·rw [if_neg h]
   by_cases h1 : 1 ≤ f m ∧ f m ≤ i
   ·rw [if_pos h1, if_pos (show 1 ≤ f m ∧ f m ≤ i + 1 by omega)]; omega
   ·rw [if_neg h1, if_neg (show ¬ (1 ≤ f m ∧ f m ≤ i + 1) by omega)]; omega
theorem sum_rows (f : Nat → Nat) (v : Nat → Int) (n : Nat) : ∀ m, (∀ k, k < m → 1 ≤ f k ∧ f k ≤ n) → sumRows f v m n = sumIf (fun _ => true) v m
 | 0, _ => by
  have : ∀ i, sumRows f v 0 i = 0 := fun i => by induction i with
   | zero => rfl
   | succ i ih => rw [sumRows, ih]; rfl
  rw [this]; rfl
 | m + 1, h => by rw [sumr_step, sum_rows f v n m fun k hk => h k (by omega), sumIf, if_pos (h m (by omega)), if_pos rfl]
theorem sumIf_same {a b : Nat → Bool} {v : Nat → Int} : ∀ m, (∀ k, k < m → a k = b k) → sumIf a v m = sumIf b v m
 | 0, _ => rfl
 | m + 1, h => by rw [sumIf, sumIf, sumIf_same m fun k hk => h k (by omega), h m (by omega)]
end Go.Proofs.Ytfngmnhkhfgmjad
