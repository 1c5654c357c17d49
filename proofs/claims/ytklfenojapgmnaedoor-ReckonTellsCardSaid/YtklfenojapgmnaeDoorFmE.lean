/-
  What the reader of package formula does with an operand and the brackets about it, in whatever memory.
-/
import Derived.Test.YtklfenojapgmnaeDoorFmD
namespace Go.Proofs.YtklfenojapgmnaeDoor
open Go.ChangeShapes Go.WideShapes Go.ChangeAt Go.RowKit
set_option maxRecDepth 20000

section
variable {S : Type} {s : ByteArray} {tk : S → ByteArray → S} {r : Rd S}
theorem opens_hit (hr : r.at' < s.size) (h : nextB s r.at' = 40) : opensR s tk (s.size - r.at') r = opensR s tk (s.size - (r.at' + 1)) (wordR s tk 1 ⟨r.at', r.opn + 1, r.st⟩) := by
  rw [show s.size - r.at' = (s.size - (r.at' + 1)) + 1 by omega, opensR, if_pos h]
theorem opens_miss (h : nextB s r.at' ≠ 40) : opensR s tk (s.size - r.at') r = r := by
  cases e : s.size - r.at' with
  | zero => rfl
  | succ k => rw [opensR, if_neg h]
theorem closes_hit {f : Nat} (h1 : 0 < r.opn) (h : nextB s r.at' = 41) : closesR s tk (f + 1) r = closesR s tk f (wordR s tk 1 ⟨r.at', r.opn - 1, r.st⟩) := by rw [closesR, if_pos ⟨h1, h⟩]
theorem closes_miss {f : Nat} (h : ¬ (0 < r.opn ∧ nextB s r.at' = 41)) : closesR s tk f r = r := by
  cases f with
  | zero => rfl
  | succ k => rw [closesR, if_neg h]
theorem opnd_dig (h : digB (nextB s (openedR s tk r).at') = true) : operandR s tk r = (closesR s tk s.size (wordR s tk (digitsN s (openedR s tk r).at') (openedR s tk r)), true) := by rw [operandR, if_pos h]
theorem opnd_let (h0 : digB (nextB s (openedR s tk r).at') = false) (h : letB (nextB s (openedR s tk r).at') = true) : operandR s tk r = (closesR s tk s.size (wordR s tk (leadN letB (s.extract (openedR s tk r).at' s.size)) (openedR s tk r)), true) := by
  rw [operandR, if_neg (by rw [h0]; decide), if_pos h]
theorem opnd_no (h0 : digB (nextB s (openedR s tk r).at') = false) (h : letB (nextB s (openedR s tk r).at') = false) : operandR s tk r = (openedR s tk r, false) := by
  rw [operandR, if_neg (by rw [h0]; decide), if_neg (by rw [h]; decide)]
end
/-- the bytes that a text begins with -/
theorem leadTo_all (p : Int → Bool) (t : ByteArray) : ∀ f i, i ≤ leadTo p t f i ∧ leadTo p t f i ≤ i + f ∧ ∀ j, i ≤ j → j < leadTo p t f i → p (byteN t j) = true
  | 0, i => ⟨Nat.le_refl _, Nat.le_refl _, fun j h1 h2 => by simp only [leadTo] at h2; omega⟩
  | f + 1, i => by
    by_cases h : p (byteN t i) = true
    · obtain ⟨h1, h2, h3⟩ := leadTo_all p t f (i + 1)
      rw [leadTo, if_pos h]
      refine ⟨by omega, by omega, fun j hj hj' => ?_⟩
      by_cases e : i = j
      · rw [← e]; exact h
      · exact h3 j (by omega) hj'
    · rw [leadTo, if_neg h]
      exact ⟨Nat.le_refl _, by omega, fun j h1 h2 => by omega⟩
theorem lead_pos {p : Int → Bool} {t : ByteArray} (h0 : 0 < t.size) (h : p (byteN t 0) = true) : 1 ≤ leadN p t := by
  unfold leadN
  obtain ⟨k, hk⟩ : ∃ k, t.size = k + 1 := ⟨t.size - 1, by omega⟩
  rw [hk, leadTo, if_pos h]
  exact (leadTo_all p t k 1).1
theorem lead_word {p : Int → Bool} {s : ByteArray} {a n : Nat} (ha : a < s.size) (h : p (nextB s a) = true) (hn : n ≤ leadN p (s.extract a s.size)) : 1 ≤ leadN p (s.extract a s.size) ∧ a + n ≤ s.size ∧ ∀ i, i < n → p (byteN (s.extract a (a + n)) i) = true := by
  obtain ⟨_, h2, h3⟩ := leadTo_all p (s.extract a s.size) (s.extract a s.size).size 0
  have hsz := tail_size s a
  unfold leadN at *
  have h0 : byteN (s.extract a s.size) 0 = nextB s a := by rw [byteN_ext (by omega), next_at ha]; rfl
  refine ⟨lead_pos (by omega) (by rw [h0]; exact h), by omega, fun i hi => ?_⟩
  have := h3 i (Nat.zero_le _) (by omega)
  rw [byteN_ext (by omega)] at this ⊢
  exact this
theorem dig_word {s : ByteArray} {a o : Nat} (ha : a ≤ s.size) (h : digB (nextB s a) = true) : a + digitsN s a ≤ s.size ∧ Stp o false (s.extract a (a + digitsN s a)) o true := by
  have hlt : a < s.size := next_zero (fun e => by rw [e] at h; revert h; decide) ha
  have hle : 1 ≤ digitsN s a ∧ digitsN s a ≤ 7 ∧ digitsN s a ≤ leadN digB (s.extract a s.size) := by
    have := (lead_word (n := 0) hlt h (Nat.zero_le _)).1
    unfold digitsN
    split <;> omega
  obtain ⟨-, h2, h3⟩ := lead_word hlt h hle.2.2
  refine ⟨h2, Stp.num o _ ?_ ?_ fun i hi => h3 i ?_⟩
  · rw [slice_ok h2]; exact hle.1
  · rw [slice_ok h2]; exact hle.2.1
  · rw [slice_ok h2] at hi; exact hi
theorem let_word {s : ByteArray} {a o : Nat} (ha : a ≤ s.size) (h : letB (nextB s a) = true) : a + leadN letB (s.extract a s.size) ≤ s.size ∧ Stp o false (s.extract a (a + leadN letB (s.extract a s.size))) o true := by
  have hlt : a < s.size := next_zero (fun e => by rw [e] at h; revert h; decide) ha
  obtain ⟨h1, h2, h3⟩ := lead_word hlt h (Nat.le_refl _)
  refine ⟨h2, Stp.nam o _ ?_ fun i hi => h3 i ?_⟩
  · rw [slice_ok h2]; exact h1
  · rw [slice_ok h2] at hi; exact hi
theorem opn_word {s : ByteArray} {a o : Nat} (ha : a ≤ s.size) (h : nextB s a = 40) : a + 1 ≤ s.size ∧ Stp o false (s.extract a (a + 1)) (o + 1) false := by
  have hlt : a < s.size := next_zero (by rw [h]; decide) ha
  refine ⟨hlt, Stp.opn o _ (slice_ok hlt) ?_⟩
  rw [byteN_ext (by omega), Nat.add_zero, ← next_at hlt]
  exact h
theorem cls_word {s : ByteArray} {a o : Nat} (ha : a ≤ s.size) (h : nextB s a = 41) : a + 1 ≤ s.size ∧ Stp (o + 1) true (s.extract a (a + 1)) o true := by
  have hlt : a < s.size := next_zero (by rw [h]; decide) ha
  refine ⟨hlt, Stp.cls o _ (slice_ok hlt) ?_⟩
  rw [byteN_ext (by omega), Nat.add_zero, ← next_at hlt]
  exact h

end Go.Proofs.YtklfenojapgmnaeDoor
