/-
  Decimal numerals as rows of bytes: what is written of a number is read as that number, and a row of at most 15 digits without a needless nought is what is written of the number that it spells.
-/
import Derived.Lib.ItoaMem
import Derived.Lib.AtoiTie
import Derived.Lib.Strings
namespace Go.Proofs.YtpnfmpbgjkhicafGreatDoor
open Go.Lib

theorem decFrom_append (l1 l2 : List UInt8) : ∀ acc, decFrom acc (l1 ++ l2) = (decFrom acc l1).bind fun m => decFrom m l2 := by
  induction l1 with
  | nil => intro acc; rfl
  | cons a t ih =>
    intro acc
    simp only [List.cons_append, decFrom]
    cases digitVal a with
    | none => rfl
    | some d => exact ih _

theorem digitVal_ofNat (d : Nat) (h : d < 10) : digitVal (UInt8.ofNat (48 + d)) = some d := by
  have e : (UInt8.ofNat (48 + d)).toNat = 48 + d := by simp; omega
  unfold digitVal
  rw [e, if_pos (by omega)]
  congr 1
  omega

theorem decFrom_decDigits (u : Nat) : ∀ acc, decFrom acc (decDigits u) = some (acc * 10 ^ (decDigits u).length + u) := by
  induction u using Nat.strongRecOn with
  | _ u ih =>
    intro acc
    by_cases h : u < 10
    · rw [decDigits_one h]
      simp only [decFrom, digitVal_ofNat u h, List.length_singleton, Nat.pow_one]
    · rw [decDigits, dif_neg h, decFrom_append, ih (u / 10) (by omega)]
      simp only [Option.bind_some, decFrom, digitVal_ofNat (u % 10) (by omega), List.length_append, List.length_singleton, Nat.pow_succ]
      congr 1
      have e : u / 10 * 10 + u % 10 = u := by omega
      generalize 10 ^ (decDigits (u / 10)).length = p at *
      rw [Nat.add_mul, Nat.mul_assoc]
      omega

theorem decDigits_ne (u : Nat) : decDigits u ≠ [] := by
  rw [decDigits]
  split <;> simp

theorem decNat_decDigits (u : Nat) : decNat (decDigits u) = some u := by
  unfold decNat
  rw [if_neg (by simp [decDigits_ne]), decFrom_decDigits]
  simp

theorem digit_toNat {b : UInt8} {d : Nat} (h : digitVal b = some d) : b.toNat = 48 + d ∧ d < 10 := by
  unfold digitVal at h
  split at h
  · injection h with h; omega
  · cases h

theorem head_decDigits (u : Nat) : ∃ d r, decDigits u = UInt8.ofNat (48 + d) :: r ∧ d < 10 ∧ (1 ≤ u → 1 ≤ d) ∧ (u < 10 → r = []) := by
  induction u using Nat.strongRecOn with
  | _ u ih =>
    by_cases h : u < 10
    · exact ⟨u, [], by rw [decDigits_one h], h, fun h => h, fun _ => rfl⟩
    · obtain ⟨d, r, h1, h2, h3, _⟩ := ih (u / 10) (by omega)
      exact ⟨d, r ++ [UInt8.ofNat (48 + u % 10)], by rw [decDigits, dif_neg h, h1]; rfl, h2, fun _ => h3 (by omega), fun h' => absurd h' h⟩

theorem ofNat_toNat_digit (d : Nat) (h : d < 10) : (UInt8.ofNat (48 + d)).toNat = 48 + d := by simp; omega

theorem atoi_itoa (n : Int) : atoi (itoa n) = some n := by
  unfold itoa
  split
  · next h =>
    simp only [atoi, beq_self_eq_true, if_true, decNat_decDigits, Option.map_some]
    congr 1
    omega
  · next h =>
    obtain ⟨d, r, e, hd, _, _⟩ := head_decDigits n.toNat
    have h45 : (UInt8.ofNat (48 + d) == 45) = false := by
      rw [beq_eq_false_iff_ne]; intro he
      have := congrArg UInt8.toNat he; rw [ofNat_toNat_digit d hd] at this
      have e45 : (45 : UInt8).toNat = 45 := rfl
      omega
    have h43 : (UInt8.ofNat (48 + d) == 43) = false := by
      rw [beq_eq_false_iff_ne]; intro he
      have := congrArg UInt8.toNat he; rw [ofNat_toNat_digit d hd] at this
      have e45 : (43 : UInt8).toNat = 43 := rfl
      omega
    have hn := decNat_decDigits n.toNat
    rw [e] at hn ⊢
    simp only [atoi, h45, h43, Bool.false_eq_true, if_false, hn, Option.map_some]
    congr 1
    omega

def numP (l : List UInt8) : Option Int :=
  if (trimPrefix l [45]).length ≤ 15 then (match atoi l with | some v => if itoa v = l then some v else none | none => none) else none

theorem nDigits_le (u k : Nat) (hk : 1 ≤ k) (h : u < 10 ^ k) : (decDigits u).length ≤ k := by
  induction k generalizing u with
  | zero => omega
  | succ k ih =>
    by_cases hu : u < 10
    · rw [decDigits_one hu]; simp
    · rw [decDigits, dif_neg hu, List.length_append, List.length_singleton]
      have hk1 : 1 ≤ k := by
        rcases Nat.eq_zero_or_pos k with rfl | h0
        · omega
        · exact h0
      have := ih (u / 10) hk1 (by rw [Nat.pow_succ] at h; omega)
      omega

theorem trim_itoa (n : Int) : trimPrefix (itoa n) [45] = decDigits n.natAbs := by
  unfold itoa
  split
  · next h => simp [trimPrefix, hasPrefix]
  · next h =>
    have e : n.toNat = n.natAbs := by omega
    rw [e]
    obtain ⟨d, r, e, hd, _, _⟩ := head_decDigits n.natAbs
    rw [e]
    have hne : ¬ (45 : UInt8) = UInt8.ofNat (48 + d) := by
      intro he
      have h3 := congrArg UInt8.toNat he
      have e45 : (45 : UInt8).toNat = 45 := rfl
      rw [ofNat_toNat_digit d hd, e45] at h3
      omega
    generalize UInt8.ofNat (48 + d) = b at *
    unfold trimPrefix
    rw [if_neg]
    unfold hasPrefix
    simp [hne]

theorem numP_itoa (n : Int) (h1 : -1000000000000 ≤ n) (h2 : n ≤ 1000000000000) : numP (itoa n) = some n := by
  unfold numP
  have hl := nDigits_le n.natAbs 15 (by omega) (by omega)
  rw [trim_itoa, if_pos hl, atoi_itoa]
  simp

theorem numP_back {l : List UInt8} {n : Int} (h : numP l = some n) : itoa n = l := by
  unfold numP at h
  split at h
  · split at h
    · split at h
      · injection h with h; subst h; assumption
      · cases h
    · cases h
  · cases h
end Go.Proofs.YtpnfmpbgjkhicafGreatDoor
