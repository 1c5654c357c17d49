/-
  Cells folded by a dim, on plain data: what comes of parts by their signs, member by member from the last; that cells that are right stay right; that a dim that is folded once more changes nothing.
-/
import Derived.Test.YtmjcnlpjnbcfjadGreatDoorCells5
import Derived.Test.YtmjcnlpjnbcfjadGreatDoorPl1
import Derived.Test.YtmjcnlpjnbcfjadGreatDoorTree1
namespace Go.Proofs.YtmjcnlpjnbcfjadGreatDoor

/-- how far apart places are that differ in a dim alone: t dims behind it -/
def stepTo (D : Nat → Dm) (dim : Nat) : Nat → Nat
  | 0 => 1
  | t + 1 => stepTo D dim t * (D (dim + 1 + t)).n
def stepD (D : Nat → Dm) (n dim : Nat) : Nat := stepTo D dim (n - 1 - dim)
theorem stepTo_front (D : Nat → Dm) (dim : Nat) : ∀ t, stepTo D dim (t + 1) = (D (dim + 1)).n * stepTo D (dim + 1) t
  | 0 => by simp [stepTo]
  | t + 1 => by
    rw [stepTo, stepTo_front D dim t, stepTo, Nat.mul_assoc, show dim + 1 + (t + 1) = dim + 1 + 1 + t by omega]
theorem rest_step (D : Nat → Dm) (m x : Nat) : ∀ r, r < m → restAt D m x r = x / stepTo D (m - 1 - r) r
  | 0, _ => by simp [restAt, stepTo]
  | r + 1, h => by
    rw [restAt, rest_step D m x r (by omega), Nat.div_div_eq_div_mul, stepTo_front, show m - 1 - (r + 1) + 1 = m - 1 - r by omega, Nat.mul_comm]
theorem digit_step {D : Nat → Dm} {n x k : Nat} (hk : k < n) : digitAt D n x k = x / stepD D n k % (D k).n := by
  unfold digitAt stepD
  rw [rest_step D n x _ (by omega), show n - 1 - (n - 1 - k) = k by omega]
theorem stepTo_prod (D : Nat → Dm) (dim : Nat) : ∀ t, prodN D (dim + 1) * stepTo D dim t = prodN D (dim + 1 + t)
  | 0 => by simp [stepTo]
  | t + 1 => by rw [stepTo, ← Nat.mul_assoc, stepTo_prod D dim t]; rfl
theorem prodN_pos {D : Nat → Dm} {n : Nat} (h : ∀ j, j < n → 1 ≤ (D j).n) : 1 ≤ prodN D n := by
  induction n with
  | zero => exact Nat.le_refl _
  | succ n ih =>
    have h1 := ih fun j hj => h j (by omega)
    have h2 := h n (by omega)
    rw [prodN]
    exact Nat.mul_le_mul h1 h2
theorem stepTo_pos {D : Nat → Dm} {dim : Nat} : ∀ t, (∀ j, j < dim + 1 + t → 1 ≤ (D j).n) → 1 ≤ stepTo D dim t
  | 0, _ => Nat.le_refl _
  | t + 1, h => by
    rw [stepTo]
    exact Nat.mul_le_mul (stepTo_pos t fun j hj => h j (by omega)) (h (dim + 1 + t) (by omega))
theorem stepTo_le {D : Nat → Dm} {n dim : Nat} (h : ∀ j, j < n → 1 ≤ (D j).n) {t : Nat} (ht : dim + 1 + t ≤ n) : stepTo D dim t ≤ prodN D (dim + 1 + t) := by
  rw [← stepTo_prod]
  exact Nat.le_mul_of_pos_left _ (prodN_pos fun j hj => h j (by omega))
theorem stepD_pos {D : Nat → Dm} {n dim : Nat} (h : ∀ j, j < n → 1 ≤ (D j).n) (hd : dim < n) : 1 ≤ stepD D n dim := stepTo_pos _ fun j hj => h j (by omega)

/-- of parts, in order, each by its sign -/
def partStep (M : Nat → Mem) (at' : Int → Int × Int) (c : Int × Int) (k : Int) : Int × Int := if (M k.toNat).sign = 1 then plusP c.1 c.2 (at' k).1 (at' k).2 else if (M k.toNat).sign = -1 then minusP c.1 c.2 (at' k).1 (at' k).2 else c
def partsV (M : Nat → Mem) (at' : Int → Int × Int) (L : List Int) : Int × Int := L.foldl (partStep M at') (0, 0)
def goodC (c : Int × Int) : Prop := good c.1 c.2 = true
theorem good_ofP (x : Int) : goodC (ofP x) := by
  unfold goodC ofP good
  split
  · rename_i h; exact decide_eq_true (Or.inl ⟨rfl, h⟩)
  · exact decide_eq_true (Or.inr ⟨Or.inr rfl, rfl⟩)
theorem good_join (b : Bool) (ka kb : Int) {r : Int × Int} (h : goodC r) : goodC (joinP b ka kb r) := by
  unfold joinP
  split
  · exact decide_eq_true (Or.inr ⟨Or.inr rfl, rfl⟩)
  · split
    · exact decide_eq_true (Or.inr ⟨Or.inl rfl, rfl⟩)
    · exact h
theorem good_zero : goodC (0, 0) := decide_eq_true (Or.inr ⟨Or.inl rfl, rfl⟩)
theorem good_step (M : Nat → Mem) (at' : Int → Int × Int) {c : Int × Int} (h : goodC c) (k : Int) : goodC (partStep M at' c k) := by
  unfold partStep
  split
  · exact good_join _ _ _ (good_ofP _)
  · split
    · exact good_join _ _ _ (good_ofP _)
    · exact h
theorem good_fold (M : Nat → Mem) (at' : Int → Int × Int) : ∀ (L : List Int) (c : Int × Int), goodC c → goodC (L.foldl (partStep M at') c)
  | [], _, h => h
  | k :: r, _, h => good_fold M at' r _ (good_step M at' h k)
theorem good_parts (M : Nat → Mem) (at' : Int → Int × Int) (L : List Int) : goodC (partsV M at' L) := good_fold M at' L _ good_zero
theorem parts_same {M : Nat → Mem} {f g : Int → Int × Int} : ∀ (L : List Int) (c : Int × Int), (∀ k ∈ L, f k = g k) → L.foldl (partStep M f) c = L.foldl (partStep M g) c
  | [], _, _ => rfl
  | k :: r, c, h => by
    have e : partStep M f c k = partStep M g c k := by unfold partStep; rw [h k (List.mem_cons_self ..)]
    rw [List.foldl_cons, List.foldl_cons, e]
    exact parts_same r _ fun j hj => h j (List.mem_cons_of_mem _ hj)

/-- the cell of a number -/
def cAt (L : List (Int × Int)) (x : Int) : Int × Int := L.getD x.toNat (0, 0)
/-- what stands at a place with one of the parts in the place of a member -/
def atP (D : Nat → Dm) (n dim m x : Nat) (L : List (Int × Int)) (k : Int) : Int × Int := cAt L ((x : Int) + (k - (m : Int)) * (stepD D n dim : Int))
/-- one member of a dim, at the first x places -/
def passTo (D : Nat → Dm) (n dim m : Nat) (L : List (Int × Int)) : Nat → List (Int × Int)
  | 0 => L
  | x + 1 => if x / stepD D n dim % (D dim).n = m then (passTo D n dim m L x).set x (partsV (D dim).mem (atP D n dim m x (passTo D n dim m L x)) (partsOf (D dim).mem (D dim).n m)) else passTo D n dim m L x
def mbrV (D : Nat → Dm) (n dim m : Nat) (L : List (Int × Int)) : List (Int × Int) := if partsOf (D dim).mem (D dim).n (m : Int) = [] then L else passTo D n dim m L L.length
/-- the last r members of a dim -/
def onceTo (D : Nat → Dm) (n dim : Nat) (L : List (Int × Int)) : Nat → List (Int × Int)
  | 0 => L
  | r + 1 => mbrV D n dim ((D dim).n - 1 - r) (onceTo D n dim L r)
def onceV (D : Nat → Dm) (n dim : Nat) (L : List (Int × Int)) : List (Int × Int) := onceTo D n dim L (D dim).n
theorem pass_len (D : Nat → Dm) (n dim m : Nat) (L : List (Int × Int)) : ∀ x, (passTo D n dim m L x).length = L.length
  | 0 => rfl
  | x + 1 => by
    rw [passTo]
    split
    · rw [List.length_set, pass_len D n dim m L x]
    · exact pass_len D n dim m L x
theorem mbr_len (D : Nat → Dm) (n dim m : Nat) (L : List (Int × Int)) : (mbrV D n dim m L).length = L.length := by
  unfold mbrV
  split
  · rfl
  · exact pass_len ..
theorem once_len (D : Nat → Dm) (n dim : Nat) (L : List (Int × Int)) : ∀ r, (onceTo D n dim L r).length = L.length
  | 0 => rfl
  | r + 1 => by rw [onceTo, mbr_len, once_len D n dim L r]
def goodL (L : List (Int × Int)) : Prop := ∀ c ∈ L, goodC c
theorem goodL_set {L : List (Int × Int)} (h : goodL L) (x : Nat) {c : Int × Int} (hc : goodC c) : goodL (L.set x c) := fun y hy => by
  rcases List.mem_or_eq_of_mem_set hy with h1 | h1
  · exact h y h1
  · rw [h1]; exact hc
theorem good_at {L : List (Int × Int)} (h : goodL L) (x : Int) : goodC (cAt L x) := by
  unfold cAt
  rw [List.getD_eq_getElem?_getD]
  cases he : L[x.toNat]? with
  | none => exact good_zero
  | some c => exact h c (List.mem_of_getElem? he)
theorem pass_good {D : Nat → Dm} {n dim m : Nat} {L : List (Int × Int)} (h : goodL L) : ∀ x, goodL (passTo D n dim m L x)
  | 0 => h
  | x + 1 => by
    rw [passTo]
    split
    · exact goodL_set (pass_good h x) _ (good_parts ..)
    · exact pass_good h x
theorem mbr_good {D : Nat → Dm} {n dim m : Nat} {L : List (Int × Int)} (h : goodL L) : goodL (mbrV D n dim m L) := by
  unfold mbrV
  split
  · exact h
  · exact pass_good h _
theorem once_good {D : Nat → Dm} {n dim : Nat} {L : List (Int × Int)} (h : goodL L) : ∀ r, goodL (onceTo D n dim L r)
  | 0 => h
  | r + 1 => mbr_good (once_good h r)

/-- a part stands behind that of which it is one -/
theorem part_behind {M : Nat → Mem} {n : Nat} (ht : Tr M n) {m : Nat} {k : Int} (h : k ∈ partsOf M n (m : Int)) : ∃ j : Nat, k = j ∧ m < j ∧ j < n ∧ (M j).parent = (m : Int) := by
  obtain ⟨j, rfl, hj, hp⟩ := selTo_mem k h
  have h1 : (M j).parent = (m : Int) := by simpa [partB] using hp
  have := (ht j hj).2
  exact ⟨j, rfl, by omega, hj, h1⟩
/-- the place with one of the parts: a number of the outline's, with that part -/
theorem part_place {D : Nat → Dm} {n dim m x j : Nat} (hp : ∀ i, i < n → 1 ≤ (D i).n) (hd : dim < n) (hx : x < prodN D n) (hm : x / stepD D n dim % (D dim).n = m) (hj : j < (D dim).n) :
    ∃ y : Nat, (x : Int) + ((j : Int) - (m : Int)) * (stepD D n dim : Int) = y ∧ y < prodN D n ∧ y / stepD D n dim % (D dim).n = j ∧ ∀ i, i < n → i ≠ dim → digitAt D n y i = digitAt D n x i := by
  have hS := stepD_pos hp hd
  have hdn := hp dim hd
  have hlt : ∀ i, i < n → digitAt D n x i < (D i).n := fun i hi => digit_lt (hp i hi)
  obtain ⟨P, hP⟩ : ∃ P : Nat → Nat, P = fun i => if i = dim then j else digitAt D n x i := ⟨_, rfl⟩
  have hPlt : ∀ i, i < n → P i < (D i).n := fun i hi => by
    rw [hP]
    simp only
    split
    · rename_i h; rw [h]; exact hj
    · exact hlt i hi
  have hy := numTo_lt n hPlt
  have hdig : ∀ i, i < n → digitAt D n (numTo D P n) i = P i := fun i hi => digit_num hPlt hi
  refine ⟨numTo D P n, ?_, hy, ?_, fun i hi hne => ?_⟩
  · have h1 : ∀ k, k ≤ n → (numTo D P k : Int) = (numTo D (digitAt D n x) k : Int) + (if dim < k then ((j : Int) - (m : Int)) * (stepTo D dim (k - 1 - dim) : Int) else 0) := by
      intro k
      induction k with
      | zero => intro _; simp [numTo]
      | succ k ih =>
        intro hk
        rw [numTo, numTo]
        have ih' := ih (by omega)
        rcases Nat.lt_trichotomy dim k with h | h | h
        · rw [if_pos h] at ih'
          rw [if_pos (by omega)]
          have e : P k = digitAt D n x k := by rw [hP]; simp only; rw [if_neg (by omega)]
          rw [e, show k + 1 - 1 - dim = (k - 1 - dim) + 1 by omega, stepTo, show dim + 1 + (k - 1 - dim) = k by omega]
          push_cast
          rw [ih', Int.add_mul, Int.mul_assoc]
          omega
        · subst h
          rw [if_neg (by omega), Int.add_zero] at ih'
          rw [if_pos (by omega)]
          have e : P dim = j := by rw [hP]; simp
          have e2 : digitAt D n x dim = m := by rw [digit_step hd, hm]
          rw [e, e2, show dim + 1 - 1 - dim = 0 by omega, stepTo]
          push_cast
          rw [ih']
          omega
        · rw [if_neg (by omega), Int.add_zero] at ih'
          rw [if_neg (by omega)]
          have e : P k = digitAt D n x k := by rw [hP]; simp only; rw [if_neg (by omega)]
          rw [e]
          push_cast
          rw [ih']
          omega
    have h2 := h1 n (Nat.le_refl _)
    rw [if_pos hd, num_back hx] at h2
    rw [h2]
    rfl
  · have h3 := hdig dim hd
    rw [digit_step hd] at h3
    rw [h3, hP]
    simp
  · rw [hdig i hi, hP]
    simp [hne]
end Go.Proofs.YtmjcnlpjnbcfjadGreatDoor
