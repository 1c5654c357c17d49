/-
  Places by number, on plain data: how many stand ahead of a place, and the place of a number; dims of a whole and so many parts, and outlines of such dims.
-/
import Derived.Test.YtfngmnhkhfgmjacDoorOut9
namespace Go.Proofs.YtfngmnhkhfgmjacDoor

/-- the number of a place in the first k dims -/
def numTo (D : Nat → Dm) (P : Nat → Nat) : Nat → Nat
  | 0 => 0
  | k + 1 => numTo D P k * (D k).n + P k
/-- how many places the dims from k on have, r of them -/
def prodFrom (D : Nat → Dm) : Nat → Nat → Nat
  | 0, _ => 1
  | r + 1, k => (D k).n * prodFrom D r (k + 1)
theorem prodFrom_split (D : Nat → Dm) (r : Nat) : ∀ k, prodN D k * prodFrom D r k = prodN D (k + r) := by
  induction r with
  | zero => intro k; simp [prodFrom]
  | succ r ih => intro k; rw [prodFrom, ← Nat.mul_assoc, show prodN D k * (D k).n = prodN D (k + 1) from rfl, ih, show k + 1 + r = k + (r + 1) by omega]
theorem numTo_lt {D : Nat → Dm} {P : Nat → Nat} (k : Nat) (h : ∀ j, j < k → P j < (D j).n) : numTo D P k < prodN D k := by
  induction k with
  | zero => exact Nat.one_pos
  | succ k ih =>
    have h1 := ih fun j hj => h j (by omega)
    have h2 := h k (by omega)
    rw [numTo, prodN]
    have h3 : (numTo D P k + 1) * (D k).n ≤ prodN D k * (D k).n := Nat.mul_le_mul_right _ h1
    rw [Nat.add_mul] at h3
    omega
/-- what is left of a number when the dims from k on, of m, have been taken off -/
def restAt (D : Nat → Dm) (m n : Nat) : Nat → Nat
  | 0 => n
  | r + 1 => restAt D m n r / (D (m - 1 - r)).n
/-- the place of a number in dim k, of m -/
def digitAt (D : Nat → Dm) (m n k : Nat) : Nat := restAt D m n (m - 1 - k) % (D k).n
theorem restAt_num {D : Nat → Dm} {P : Nat → Nat} {m : Nat} (h : ∀ j, j < m → P j < (D j).n) (r : Nat) : r ≤ m → restAt D m (numTo D P m) r = numTo D P (m - r) := by
  induction r with
  | zero => intro _; rfl
  | succ r ih =>
    intro hr
    rw [restAt, ih (by omega)]
    have e : m - r = (m - 1 - r) + 1 := by omega
    rw [e, numTo, show m - (r + 1) = m - 1 - r by omega]
    have hp := h (m - 1 - r) (by omega)
    rw [Nat.mul_comm, Nat.mul_add_div (by omega), Nat.div_eq_of_lt hp, Nat.add_zero]
/-- the place of a place's number is that place -/
theorem digit_num {D : Nat → Dm} {P : Nat → Nat} {m : Nat} (h : ∀ j, j < m → P j < (D j).n) {k : Nat} (hk : k < m) : digitAt D m (numTo D P m) k = P k := by
  unfold digitAt
  rw [restAt_num h _ (by omega), show m - (m - 1 - k) = k + 1 by omega, numTo]
  have hp := h k hk
  rw [Nat.mul_comm, Nat.mul_add_mod, Nat.mod_eq_of_lt hp]
/-- the number of a number's place is that number -/
theorem num_digit {D : Nat → Dm} {m n : Nat} (hn : n < prodN D m) (k : Nat) : k ≤ m → numTo D (digitAt D m n) k = restAt D m n (m - k) := by
  have hlt : ∀ r, r ≤ m → restAt D m n r < prodN D (m - r) := by
    intro r
    induction r with
    | zero => intro _; exact hn
    | succ r ih =>
      intro hr
      have h1 := ih (by omega)
      have e : m - r = (m - 1 - r) + 1 := by omega
      rw [e, prodN] at h1
      rw [restAt, show m - (r + 1) = m - 1 - r by omega]
      exact Nat.div_lt_of_lt_mul (by rw [Nat.mul_comm]; exact h1)
  induction k with
  | zero =>
    intro _
    have h1 := hlt m (Nat.le_refl _)
    rw [Nat.sub_self] at h1
    have h2 : prodN D 0 = 1 := rfl
    rw [numTo, Nat.sub_zero]
    omega
  | succ k ih =>
    intro hk
    rw [numTo, ih (by omega)]
    have e : m - k = (m - 1 - k) + 1 := by omega
    rw [e, restAt, show m - 1 - (m - 1 - k) = k by omega, show m - (k + 1) = m - 1 - k by omega]
    unfold digitAt
    have := Nat.div_add_mod (restAt D m n (m - 1 - k)) (D k).n
    rw [Nat.mul_comm] at this
    exact this
theorem num_back {D : Nat → Dm} {m n : Nat} (hn : n < prodN D m) : numTo D (digitAt D m n) m = n := by
  rw [num_digit hn m (Nat.le_refl _), Nat.sub_self]; rfl
theorem digit_lt {D : Nat → Dm} {m n k : Nat} (h : 1 ≤ (D k).n) : digitAt D m n k < (D k).n := Nat.mod_lt _ h
end Go.Proofs.YtfngmnhkhfgmjacDoor
