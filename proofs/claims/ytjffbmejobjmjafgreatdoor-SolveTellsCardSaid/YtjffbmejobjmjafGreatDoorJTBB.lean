/-
 A text read from the outside in, on plain data: words that spell a tree at a level (1: a sum, 2: a product, 3: an operand); a builder that takes them comes to the tree's nodes; what is so read is what word by word is read.
-/
import Derived.Test.YtjffbmejobjmjafGreatDoorJTAP
namespace Go.Proofs.YtjffbmejobjmjafGreatDoor

def leafT (w : ByteArray) : Tre := if 97 ≤ byteN w 0 ∧ byteN w 0 ≤ 122 then .ref w else .num (numW w)
theorem leaf_opnd (w : ByteArray) (k : Nat) : post (leafT w) k = [opndN w] ∧ sizT (leafT w) = 1 := by
 unfold leafT opndN
 split
 ·exact ⟨rfl, rfl⟩
 ·exact ⟨rfl, rfl⟩
inductive Spl : Nat → Tre → List ByteArray → Prop
 | word (w : ByteArray) : 48 ≤ byteN w 0 → Spl 3 (leafT w) [w]
 | brk (t : Tre) (ws : List ByteArray) : Spl 1 t ws → Spl 3 t ([⟨#[40]⟩] ++ ws ++ [⟨#[41]⟩])
 | up (k : Nat) (t : Tre) (ws : List ByteArray) : 1 ≤ k → k ≤ 2 → Spl (k + 1) t ws → Spl k t ws
 | bin (k : Nat) (o : Int) (a c : Tre) (wa wc : List ByteArray) : 3 ≤ o → o ≤ 6 → bindN o = (k : Int) → Spl k a wa → Spl (k + 1) c wc → Spl k (.bin o a c) (wa ++ [sgnT o] ++ wc)
theorem spl_take {k : Nat} {t : Tre} {ws : List ByteArray} (h : Spl k t ws) : ∀ (b : Bld), Low b (k : Int) → ∀ least : Int, least ≤ k → settleB least (ws.foldl takeB b) = settleB least (pushT t b) := by
 induction h with
 | word w hw =>
  intro b _ least _
  show settleB least (takeB b w) = _
  rw [take_is_opd hw]
  obtain ⟨e1, e2⟩ := leaf_opnd w b.nodes.length
  unfold pushT addB
  rw [e1, e2]
  rfl
 | brk t ws _ ih =>
  intro b _ least _
  have := take_brk (l := ws) (t := t) (b := b) (ih _ (low_open _ _ _ _) 0 (by omega))
  rw [brkL, if_pos rfl] at this
  rw [this]
 | up k t ws h1 h2 _ ih =>
  intro b hl least hle
  exact ih b (hl.up (by omega)) least (by omega)
 | bin k o a c wa wc h1 h2 h3 _ _ iha ihc =>
  intro b hl least hle
  have e1 : settleB (bindN o) (wa.foldl takeB b) = pushT a b := by
   rw [h3, iha b hl k (Int.le_refl _)]
   exact settle_low (low_push a hl)
  rw [List.foldl_append, List.foldl_append]
  show settleB least (wc.foldl takeB (takeB (wa.foldl takeB b) (sgnT o))) = _
  rw [take_sign _ ⟨h1, h2⟩, e1, ihc ⟨(pushT a b).nodes, (pushT a b).ready, (pushT a b).waiting ++ [o]⟩ (Or.inr ⟨_, o, rfl, Or.inr (by rw [h3]; omega)⟩) least (by omega)]
  show settleB least ⟨(pushT c ⟨(pushT a b).nodes, (pushT a b).ready, b.waiting ++ [o]⟩).nodes, (pushT c ⟨(pushT a b).nodes, (pushT a b).ready, b.waiting ++ [o]⟩).ready, b.waiting ++ [o]⟩ = _
  rw [settle_pop (by omega) (by rw [h3]; exact hle), join_push]

def Rds (s : ByteArray) (k a a' : Nat) (t : Tre) : Prop := a < a' ∧ a' ≤ s.size ∧ ∃ ws, Spl k t ws ∧ ∀ r : Rd Bld, r.at' = a → toEnd s takeB false r = toEnd s takeB true ⟨a', r.opn, ws.foldl takeB r.st⟩
def Fls (s : ByteArray) (a a' : Nat) : Prop := a ≤ a' ∧ a' ≤ s.size ∧ ∀ r : Rd Bld, r.at' = a → ∃ o st, toEnd s takeB false r = (⟨a', o, st⟩, false)
def NoSg (s : ByteArray) (k a : Nat) : Prop := a < s.size → signI (nextB s a) < 0 ∨ bindN (3 + signI (nextB s a)) < (k : Int)
section
variable {s : ByteArray} {k a a1 a2 a' : Nat} {t u : Tre}
theorem word_first {n : Nat} (ha : a < s.size) (hn : 1 ≤ n) : byteN (s.extract a (a + n)) 0 = nextB s a := by
 rw [byteN_ext (by omega), nextB, if_neg (by omega), Nat.add_zero]
theorem rds_dig (ha : a ≤ s.size) (h : digB (nextB s a) = true) : Rds s 3 a (a + digitsN s a) (leafT (s.extract a (a + digitsN s a))) := by
 obtain ⟨h1, h2⟩ := dig_pos ha h
 obtain ⟨h3, h4⟩ := dig_word (o := 0) ha h
 refine ⟨by omega, h2, [s.extract a (a + digitsN s a)], Spl.word _ ?_, fun r hr => ?_⟩
 ·have hd := word_first (by omega : a < s.size) h1
  rw [hd]
  unfold digB at h
  simp at h
  omega
 ·have he := end_dig (tk := takeB) (r := r) (by rw [hr]; exact ha) (by rw [hr]; exact h)
  rw [he, wordR, hr]
  rfl
theorem rds_let (ha : a ≤ s.size) (h : letB (nextB s a) = true) : Rds s 3 a (a + leadN letB (s.extract a s.size)) (leafT (s.extract a (a + leadN letB (s.extract a s.size)))) := by
 obtain ⟨h1, h2⟩ := let_pos ha h
 refine ⟨by omega, h2, [s.extract a (a + leadN letB (s.extract a s.size))], Spl.word _ ?_, fun r hr => ?_⟩
 ·have hd := word_first (by omega : a < s.size) h1
  rw [hd]
  unfold letB at h
  simp at h
  omega
 ·have he := end_let (tk := takeB) (r := r) (by rw [hr]; exact ha) (by rw [hr]; exact h)
  rw [he, wordR, hr]
  rfl
theorem byte_one (ha : a < s.size) (c : UInt8) (h : nextB s a = (c.toNat : Int)) : s.extract a (a + 1) = ⟨#[c]⟩ := by
 have hz := slice_ok (s := s) (a := a) (n := 1) (by omega)
 have hb := word_first (n := 1) ha (by omega)
 rw [h] at hb
 apply ByteArray.ext
 apply Array.ext
 ·exact hz
 ·intro i h1 h2
  have hi : i = 0 := by simp at h2; omega
  subst hi
  have e : byteN (s.extract a (a + 1)) 0 = (((s.extract a (a + 1)).data[0]'h1).toNat : Int) := by
   unfold byteN
   rw [List.getD, List.getElem?_eq_getElem (by rw [Array.length_toList]; exact h1)]
   rfl
  rw [e] at hb
  have : ((s.extract a (a + 1)).data[0]'h1).toNat = c.toNat := by omega
  simpa using UInt8.toNat_inj.1 this
theorem rds_brk (ha : a ≤ s.size) (h40 : nextB s a = 40) (h : Rds s 1 (a + 1) a1 t) (h41 : nextB s a1 = 41) : Rds s 3 a (a1 + 1) t := by
 obtain ⟨h1, h2, ws, h3, h4⟩ := h
 have hlt : a < s.size := next_zero (by rw [h40]; decide) ha
 have hlt1 : a1 < s.size := next_zero (by rw [h41]; decide) h2
 refine ⟨by omega, by omega, _, Spl.brk t ws h3, fun r hr => ?_⟩
 have e1 := end_open (tk := takeB) (r := r) (by rw [hr]; exact ha) (by rw [hr]; exact h40)
 have e2 := h4 (wordR s takeB 1 ⟨r.at', r.opn + 1, r.st⟩) (by rw [wordR, hr])
 have e3 := end_close (tk := takeB) (r := ⟨a1, (wordR s takeB 1 ⟨r.at', r.opn + 1, r.st⟩).opn, ws.foldl takeB (wordR s takeB 1 ⟨r.at', r.opn + 1, r.st⟩).st⟩) h2 ⟨by show 0 < r.opn + 1; omega, h41⟩
 rw [e1, e2, e3]
 unfold wordR
 simp only
 rw [hr, byte_one hlt 40 (by rw [h40]; rfl), byte_one hlt1 41 (by rw [h41]; rfl), List.foldl_append, List.foldl_append]
 rfl
theorem rds_up (h1 : 1 ≤ k) (h2 : k ≤ 2) (h : Rds s (k + 1) a a' t) : Rds s k a a' t := by
 obtain ⟨g1, g2, ws, g3, g4⟩ := h
 exact ⟨g1, g2, ws, Spl.up k t ws h1 h2 g3, g4⟩
theorem sgn_four {c : Int} (h : ¬ signI c < 0) : (c = 43 ∧ signI c = 0) ∨ (c = 45 ∧ signI c = 1) ∨ (c = 42 ∧ signI c = 2) ∨ (c = 47 ∧ signI c = 3) := by
 unfold signI at *
 by_cases h1 : c = 43
 ·left; exact ⟨h1, by rw [if_pos h1]⟩
 by_cases h2 : c = 45
 ·right; left; exact ⟨h2, by rw [if_neg h1, if_pos h2]⟩
 by_cases h3 : c = 42
 ·right; right; left; exact ⟨h3, by rw [if_neg h1, if_neg h2, if_pos h3]⟩
 by_cases h4 : c = 47
 ·right; right; right; exact ⟨h4, by rw [if_neg h1, if_neg h2, if_neg h3, if_pos h4]⟩
 ·rw [if_neg h1, if_neg h2, if_neg h3, if_neg h4] at h; omega
theorem sign_word (hlt : a < s.size) (h : ¬ signI (nextB s a) < 0) : s.extract a (a + 1) = sgnT (3 + signI (nextB s a)) ∧ 3 ≤ 3 + signI (nextB s a) ∧ 3 + signI (nextB s a) ≤ 6 ∧ nextB s a ≠ 41 := by
 rcases sgn_four h with ⟨e, e2⟩ | ⟨e, e2⟩ | ⟨e, e2⟩ | ⟨e, e2⟩
 ·rw [e2, byte_one hlt 43 (by rw [e]; rfl), e]; exact ⟨rfl, by omega, by omega, by omega⟩
 ·rw [e2, byte_one hlt 45 (by rw [e]; rfl), e]; exact ⟨rfl, by omega, by omega, by omega⟩
 ·rw [e2, byte_one hlt 42 (by rw [e]; rfl), e]; exact ⟨rfl, by omega, by omega, by omega⟩
 ·rw [e2, byte_one hlt 47 (by rw [e]; rfl), e]; exact ⟨rfl, by omega, by omega, by omega⟩
theorem rds_bin (h : Rds s k a a1 t) (hlt : a1 < s.size) (hs : ¬ signI (nextB s a1) < 0) (hk : bindN (3 + signI (nextB s a1)) = (k : Int)) (h2 : Rds s (k + 1) (a1 + 1) a2 u) : Rds s k a a2 (.bin (3 + signI (nextB s a1)) t u) := by
 obtain ⟨g1, g2, ws, g3, g4⟩ := h
 obtain ⟨f1, f2, vs, f3, f4⟩ := h2
 obtain ⟨w1, w2, w3, w4⟩ := sign_word hlt hs
 refine ⟨by omega, f2, _, Spl.bin k _ t u ws vs w2 w3 hk g3 f3, fun r hr => ?_⟩
 have e2 := end_sign (tk := takeB) (r := ⟨a1, r.opn, ws.foldl takeB r.st⟩) (fun e => w4 e.2) hlt hs
 have e3 := f4 (wordR s takeB 1 ⟨a1, r.opn, ws.foldl takeB r.st⟩) rfl
 rw [g4 r hr, e2, e3]
 unfold wordR
 simp only
 rw [w1, List.foldl_append, List.foldl_append]
 rfl
/-! where it goes wrong -/
theorem fls_none (ha : a ≤ s.size) (h : nextB s a ≠ 40) (h1 : digB (nextB s a) = false) (h2 : letB (nextB s a) = false) : Fls s a a :=
 ⟨Nat.le_refl _, ha, fun r hr => ⟨r.opn, r.st, by rw [end_none (by rw [hr]; exact h) (by rw [hr]; exact h1) (by rw [hr]; exact h2), ← hr]⟩⟩
theorem fls_open (ha : a ≤ s.size) (h40 : nextB s a = 40) (h : Fls s (a + 1) a') : Fls s a a' := by
 obtain ⟨h1, h2, h3⟩ := h
 refine ⟨by omega, h2, fun r hr => ?_⟩
 rw [end_open (by rw [hr]; exact ha) (by rw [hr]; exact h40)]
 exact h3 _ (by rw [wordR, hr])
theorem fls_shut (ha : a ≤ s.size) (h40 : nextB s a = 40) (h : Rds s 1 (a + 1) a1 t) (hn : NoSg s 1 a1) (h41 : nextB s a1 ≠ 41) : Fls s a a1 := by
 obtain ⟨h1, h2, ws, h3, h4⟩ := h
 refine ⟨by omega, h2, fun r hr => ?_⟩
 rw [end_open (tk := takeB) (r := r) (by rw [hr]; exact ha) (by rw [hr]; exact h40), h4 _ (by rw [wordR, hr])]
 by_cases hlt : a1 < s.size
 ·have hs : signI (nextB s a1) < 0 := by
   rcases hn hlt with h | h
   ·exact h
   ·have := bindN_ge (3 + signI (nextB s a1)); omega
  rw [end_bad (fun e => h41 e.2) hlt hs]
  exact ⟨_, _, rfl⟩
 ·rw [end_end (fun e => h41 e.2) hlt]
  refine ⟨(wordR s takeB 1 ⟨r.at', r.opn + 1, r.st⟩).opn, ws.foldl takeB (wordR s takeB 1 ⟨r.at', r.opn + 1, r.st⟩).st, ?_⟩
  rw [decide_eq_false (show ¬ (wordR s takeB 1 ⟨r.at', r.opn + 1, r.st⟩).opn = 0 by show ¬ r.opn + 1 = 0; omega)]
theorem fls_sign (h : Rds s k a a1 t) (hlt : a1 < s.size) (hs : ¬ signI (nextB s a1) < 0) (h2 : Fls s (a1 + 1) a2) : Fls s a a2 := by
 obtain ⟨g1, g2, ws, g3, g4⟩ := h
 obtain ⟨f1, f2, f3⟩ := h2
 obtain ⟨w1, w2, w3, w4⟩ := sign_word hlt hs
 refine ⟨by omega, f2, fun r hr => ?_⟩
 rw [g4 r hr, end_sign (tk := takeB) (r := ⟨a1, r.opn, ws.foldl takeB r.st⟩) (fun e => w4 e.2) hlt hs]
 exact f3 _ rfl
end
/-! all of a text -/
section
variable {s : ByteArray} {a' : Nat} {t : Tre}
theorem read_all (h : Rds s 1 0 s.size t) : (goneB s).2 = true ∧ nodesP s = post t 0 := by
 obtain ⟨h1, h2, ws, h3, h4⟩ := h
 have e : goneB s = (⟨s.size, 0, ws.foldl takeB noB⟩, true) := by
  unfold goneB
  rw [all_end_eq (r := ⟨0, 0, noB⟩) (Nat.zero_le _), h4 ⟨0, 0, noB⟩ rfl, end_end (fun e => absurd e.1 (Nat.lt_irrefl 0)) (Nat.lt_irrefl _)]
  rfl
 refine ⟨by rw [e], ?_⟩
 unfold nodesP
 rw [e]
 show (settleB 0 (ws.foldl takeB noB)).nodes = _
 rw [spl_take h3 noB (Or.inl rfl) 0 (by omega)]
 rw [settle_low (b := pushT t noB) (Or.inl rfl)]
 show [] ++ post t 0 = _
 rfl
theorem read_part (h : Rds s 1 0 a' t) (hn : NoSg s 1 a') (hlt : a' < s.size) : (goneB s).2 = false ∧ (goneB s).1.at' = a' := by
 obtain ⟨h1, h2, ws, h3, h4⟩ := h
 have hs : signI (nextB s a') < 0 := by
  rcases hn hlt with h | h
  ·exact h
  ·have := bindN_ge (3 + signI (nextB s a')); omega
 have e : goneB s = (⟨a', 0, ws.foldl takeB noB⟩, false) := by
  unfold goneB
  rw [all_end_eq (r := ⟨0, 0, noB⟩) (Nat.zero_le _), h4 ⟨0, 0, noB⟩ rfl, end_bad (fun e => absurd e.1 (Nat.lt_irrefl 0)) hlt hs]
 rw [e]
 exact ⟨rfl, rfl⟩
theorem read_not (h : Fls s 0 a') : (goneB s).2 = false ∧ (goneB s).1.at' = a' := by
 obtain ⟨h1, h2, h3⟩ := h
 obtain ⟨o, st, e⟩ := h3 ⟨0, 0, noB⟩ rfl
 have e2 : goneB s = (⟨a', o, st⟩, false) := by
  unfold goneB
  rw [all_end_eq (r := ⟨0, 0, noB⟩) (Nat.zero_le _), e]
 rw [e2]
 exact ⟨rfl, rfl⟩
end
end Go.Proofs.YtjffbmejobjmjafGreatDoor

