/-
  Formulas as trees, on plain data: their nodes one behind the other, their words; a builder that takes the words of a tree comes to its nodes.
  Reading a text word by word, on plain data: one step at a time it comes to what all of it comes to.
  The text of a tree, on plain data: it is read as its words, and so as its nodes.
  A text read from the outside in, on plain data: words that spell a tree at a level (1: a sum, 2: a product, 3: an operand); a builder that takes them comes to the tree's nodes; what is so read is what word by word is read.
  The document's own reader of formulas (tallyref2.Input) in memory: where it is, whether it went wrong, its nodes in a row of its own; what in and rank tell.
  A formula that is right as a tree, on plain data: what Print writes is the text of its tree.
  Written and read again, on plain data: of a formula that is right the text is read as nodes of the same tree, which are right, and written the same.
-/
import Derived.Test.YtpnfmpbgjkhicaeGreatDoorFmP
import Derived.Maps.AppendAt
namespace Go.Proofs.YtpnfmpbgjkhicaeGreatDoor

inductive Tre where
  | num (n : Int)
  | ref (s : ByteArray)
  | bin (o : Int) (a b : Tre)
def bindT : Tre → Int
  | .num _ => 3
  | .ref _ => 3
  | .bin o _ _ => bindN o
def sizT : Tre → Nat
  | .num _ => 1
  | .ref _ => 1
  | .bin _ a b => sizT a + sizT b + 1
theorem siz_pos : ∀ t : Tre, 1 ≤ sizT t
  | .num _ => Nat.le_refl _
  | .ref _ => Nat.le_refl _
  | .bin _ a b => by show 1 ≤ sizT a + sizT b + 1; omega
/-- the nodes of a tree, the first of them at a place -/
def post : Tre → Nat → List Nd
  | .num n, _ => [⟨1, n, noT, 0, 0⟩]
  | .ref s, _ => [⟨2, 0, s, 0, 0⟩]
  | .bin o a b, k => post a k ++ post b (k + sizT a) ++ [⟨o, 0, noT, ((k + sizT a - 1 : Nat) : Int), ((k + sizT a + sizT b - 1 : Nat) : Int)⟩]
theorem post_len : ∀ (t : Tre) (k : Nat), (post t k).length = sizT t
  | .num _, _ => rfl
  | .ref _, _ => rfl
  | .bin o a b, k => by simp [post, sizT, post_len a, post_len b]; omega
def numB (n : Int) : ByteArray := ⟨(Lib.itoa n).toArray⟩
def okT : Tre → Prop
  | .num n => 0 ≤ n ∧ n ≤ 1000000
  | .ref s => nameErr s = 0
  | .bin o a b => (3 ≤ o ∧ o ≤ 6) ∧ okT a ∧ okT b
def brkL (l : List ByteArray) (c : Bool) : List ByteArray := if c then [⟨#[40]⟩] ++ l ++ [⟨#[41]⟩] else l
/-- the words of a tree -/
def tokT : Tre → List ByteArray
  | .num n => [numB n]
  | .ref s => [s]
  | .bin o a b => brkL (tokT a) (decide (bindT a < bindN o)) ++ [sgnT o] ++ brkL (tokT b) (decide (bindT b ≤ bindN o))
/-- a tree behind what there is -/
def pushT (t : Tre) (b : Bld) : Bld := ⟨b.nodes ++ post t b.nodes.length, b.ready ++ [((b.nodes.length + sizT t - 1 : Nat) : Int)], b.waiting⟩
/-- nothing that waits binds as much -/
def Low (b : Bld) (k : Int) : Prop := b.waiting = [] ∨ ∃ w x, b.waiting = w ++ [x] ∧ (x = 0 ∨ bindN x < k)
theorem Low.up {b : Bld} {k m : Int} (h : Low b k) (hm : k ≤ m) : Low b m := by
  rcases h with h | ⟨w, x, h, h0 | h0⟩
  · exact Or.inl h
  · exact Or.inr ⟨w, x, h, Or.inl h0⟩
  · exact Or.inr ⟨w, x, h, Or.inr (by omega)⟩
theorem settle_low {b : Bld} {k : Int} (h : Low b k) : settleB k b = b := by
  unfold settleB
  rcases h with h | ⟨w, x, h, h0⟩
  · rw [h]; rfl
  · rw [h, List.length_append, List.length_singleton]
    have e : b.waiting.getD w.length 0 = x := by rw [h]; simp [List.getD]
    exact settle_stop (by rw [e]; exact h0)
/-- what waits last is settled -/
theorem settle_pop {n : List Nd} {r w : List Int} {o least : Int} (h0 : o ≠ 0) (h : least ≤ bindN o) : settleB least ⟨n, r, w ++ [o]⟩ = settleB least (joinBd o ⟨n, r, w⟩) := by
  unfold settleB
  have e1 : (w ++ [o]).length = w.length + 1 := by simp
  have e2 : (w ++ [o]).getD w.length 0 = o := by simp [List.getD]
  have e3 : (w ++ [o]).take w.length = w := by simp
  show settleTo least (w ++ [o]).length _ = _
  rw [e1, settle_on (by show ¬ ((w ++ [o]).getD w.length 0 = 0 ∨ bindN ((w ++ [o]).getD w.length 0) < least); rw [e2]; omega)]
  show settleTo least w.length (joinBd ((w ++ [o]).getD w.length 0) ⟨n, r, (w ++ [o]).take w.length⟩) = settleTo least (joinBd o ⟨n, r, w⟩).waiting.length _
  rw [e2, e3]
  rfl
theorem join_push (o : Int) (a c : Tre) (b : Bld) (w : List Int) : joinBd o ⟨(pushT c ⟨(pushT a b).nodes, (pushT a b).ready, w⟩).nodes, (pushT c ⟨(pushT a b).nodes, (pushT a b).ready, w⟩).ready, b.waiting⟩ = pushT (.bin o a c) b := by
  have l1 : (b.nodes ++ post a b.nodes.length).length = b.nodes.length + sizT a := by simp [post_len]
  have pa := siz_pos a
  have pc := siz_pos c
  unfold joinBd pushT addB
  simp only [post, sizT, l1, List.length_append, List.length_singleton, post_len]
  have e1 : b.ready.length + 1 + 1 - 2 = b.ready.length := by omega
  rw [e1]
  have g1 : (b.ready ++ [((b.nodes.length + sizT a - 1 : Nat) : Int)] ++ [((b.nodes.length + sizT a + sizT c - 1 : Nat) : Int)]).getD b.ready.length 0 = ((b.nodes.length + sizT a - 1 : Nat) : Int) := by simp [List.getD]
  have g2 : (b.ready ++ [((b.nodes.length + sizT a - 1 : Nat) : Int)] ++ [((b.nodes.length + sizT a + sizT c - 1 : Nat) : Int)]).getD (b.ready.length + 1) 0 = ((b.nodes.length + sizT a + sizT c - 1 : Nat) : Int) := by simp [List.getD]
  have g3 : (b.ready ++ [((b.nodes.length + sizT a - 1 : Nat) : Int)] ++ [((b.nodes.length + sizT a + sizT c - 1 : Nat) : Int)]).take b.ready.length = b.ready := by simp
  rw [g1, g2, g3]
  congr 1
  · simp [noT]
  · congr 2
    omega

theorem take_open (b : Bld) : takeB b ⟨#[40]⟩ = ⟨b.nodes, b.ready, b.waiting ++ [0]⟩ := by
  rw [takeB, if_pos (by decide)]
theorem take_close (b : Bld) : takeB b ⟨#[41]⟩ = ⟨(settleB 0 b).nodes, (settleB 0 b).ready, (settleB 0 b).waiting.take ((settleB 0 b).waiting.length - 1)⟩ := by
  rw [takeB, if_neg (by decide), if_pos (by decide)]
theorem take_sign (b : Bld) {o : Int} (h : 3 ≤ o ∧ o ≤ 6) : takeB b (sgnT o) = ⟨(settleB (bindN o) b).nodes, (settleB (bindN o) b).ready, (settleB (bindN o) b).waiting ++ [o]⟩ := by
  have hc : o = 3 ∨ o = 4 ∨ o = 5 ∨ o = 6 := by omega
  rcases hc with rfl | rfl | rfl | rfl
  · rw [takeB, if_neg (by decide), if_neg (by decide), if_pos (by decide)]; rfl
  · rw [takeB, if_neg (by decide), if_neg (by decide), if_pos (by decide)]; rfl
  · rw [takeB, if_neg (by decide), if_neg (by decide), if_pos (by decide)]; rfl
  · rw [takeB, if_neg (by decide), if_neg (by decide), if_pos (by decide)]; rfl
theorem low_open (n : List Nd) (r w : List Int) (k : Int) : Low ⟨n, r, w ++ [0]⟩ k := Or.inr ⟨w, 0, rfl, Or.inl rfl⟩
theorem low_push {b : Bld} {k : Int} (t : Tre) (h : Low b k) : Low (pushT t b) k := h
/-- the words of a tree in brackets -/
theorem take_brk {l : List ByteArray} {t : Tre} {b : Bld} (ih : settleB 0 (l.foldl takeB ⟨b.nodes, b.ready, b.waiting ++ [0]⟩) = settleB 0 (pushT t ⟨b.nodes, b.ready, b.waiting ++ [0]⟩)) : (brkL l true).foldl takeB b = pushT t b := by
  show ([ByteArray.mk #[40]] ++ l ++ [ByteArray.mk #[41]]).foldl takeB b = _
  rw [List.foldl_append, List.foldl_append]
  show takeB (l.foldl takeB (takeB b ⟨#[40]⟩)) ⟨#[41]⟩ = _
  rw [take_open, take_close, ih, settle_low (low_push t (low_open _ _ _ _))]
  simp [pushT]

theorem first_byte (l : List UInt8) (x : UInt8) : byteN ⟨(x :: l).toArray⟩ 0 = (x.toNat : Int) := by simp [byteN, List.getD]
theorem num_digits (n : Int) (h0 : 0 ≤ n) : ∃ d r, Lib.itoa n = UInt8.ofNat (48 + d) :: r ∧ d < 10 := by
  obtain ⟨u, rfl⟩ : ∃ u : Nat, n = u := ⟨n.toNat, by omega⟩
  obtain ⟨d, r, h, hd, -, -⟩ := head_decDigits u
  exact ⟨d, r, by rw [Lib.itoa_nonneg]; exact h, hd⟩
theorem num_all (u : Nat) : ∀ b ∈ Lib.decDigits u, 48 ≤ b.toNat ∧ b.toNat ≤ 57 := by
  induction u using Nat.strongRecOn with
  | _ u ih =>
    intro b hb
    by_cases h : u < 10
    · rw [Lib.decDigits_one h, List.mem_singleton] at hb
      subst hb
      have e : (UInt8.ofNat (48 + u)).toNat = 48 + u := by simp; omega
      omega
    · rw [Lib.decDigits, dif_neg h, List.mem_append, List.mem_singleton] at hb
      rcases hb with hb | hb
      · exact ih (u / 10) (by omega) b hb
      · subst hb
        have e : (UInt8.ofNat (48 + u % 10)).toNat = 48 + u % 10 := by simp; omega
        omega
theorem numW_B (n : Int) (h0 : 0 ≤ n) : numW (numB n) = n := by
  obtain ⟨u, rfl⟩ : ∃ u : Nat, n = u := ⟨n.toNat, by omega⟩
  unfold numW numB
  rw [Lib.itoa_nonneg]
  obtain ⟨m, h1, h2⟩ := dec_fold (Lib.decDigits u) 0 (num_all u)
  have h3 := decFrom_decDigits u 0
  rw [h1] at h3
  have h4 : m = u := by simpa using h3
  have hz : ((0 : Nat) : Int) = 0 := rfl
  rw [hz] at h2
  simp only [h2, h4]
theorem opnd_num (n : Int) (h0 : 0 ≤ n) : opndN (numB n) = ⟨1, n, noT, 0, 0⟩ ∧ 48 ≤ byteN (numB n) 0 := by
  obtain ⟨d, r, hd, h10⟩ := num_digits n h0
  have hb : byteN (numB n) 0 = ((48 + d : Nat) : Int) := by
    unfold numB
    rw [hd, first_byte]
    have : (UInt8.ofNat (48 + d)).toNat = 48 + d := by simp; omega
    rw [this]
  refine ⟨?_, by omega⟩
  unfold opndN
  rw [if_neg (by omega), numW_B n h0]
  rfl
theorem name_first {s : ByteArray} (h : nameErr s = 0) : 1 ≤ s.size ∧ s.size ≤ 8 ∧ ∀ i, i < s.size → letB (byteN s i) = true := by
  unfold nameErr at h
  split at h
  · cases h
  · rename_i h1
    split at h
    · cases h
    · rename_i h2
      refine ⟨by omega, by omega, fun i hi => ?_⟩
      rcases findFrom_cases (badByte s) s.size 0 with ⟨_, h3⟩ | ⟨m, e, _⟩
      · have := h3 i (Nat.zero_le _) (by omega)
        unfold badByte badB at this
        unfold letB
        simp at this ⊢
        omega
      · omega
theorem opnd_ref {s : ByteArray} (h : nameErr s = 0) : opndN s = ⟨2, 0, s, 0, 0⟩ ∧ 48 ≤ byteN s 0 := by
  obtain ⟨h1, _, h3⟩ := name_first h
  have h0 := h3 0 (by omega)
  unfold letB at h0
  simp at h0
  refine ⟨?_, by omega⟩
  unfold opndN
  rw [if_pos (by omega)]

/-- a builder that takes the words of a tree comes to its nodes, once what waits is settled -/
theorem take_tree : ∀ (t : Tre) (b : Bld), okT t → Low b (bindT t) → ∀ least, least ≤ bindT t → settleB least ((tokT t).foldl takeB b) = settleB least (pushT t b)
  | .num n, b, hk, _, least, _ => by
    have h := opnd_num n hk.1
    show settleB least (takeB b (numB n)) = _
    rw [take_is_opd h.2, h.1]
    rfl
  | .ref s, b, hk, _, least, _ => by
    have h := opnd_ref hk
    show settleB least (takeB b s) = _
    rw [take_is_opd h.2, h.1]
    rfl
  | .bin o a c, b, ⟨ho, ha, hc⟩, hl, least, hle => by
    have hb1 : bindN o ≤ 2 := by unfold bindN; split <;> (try split) <;> omega
    have hl' : Low b (bindN o) := hl
    have hle' : least ≤ bindN o := hle
    -- the left side
    have e1 : settleB (bindN o) ((brkL (tokT a) (decide (bindT a < bindN o))).foldl takeB b) = pushT a b := by
      by_cases h : bindT a < bindN o
      · rw [decide_eq_true h, take_brk (t := a) (take_tree a _ ha (low_open _ _ _ _) 0 (by cases a <;> simp [bindT, bindN] <;> (try split) <;> (try split) <;> omega))]
        exact settle_low (low_push a hl')
      · rw [decide_eq_false h]
        show settleB (bindN o) ((tokT a).foldl takeB b) = _
        rw [take_tree a b ha (hl'.up (by omega)) (bindN o) (by omega)]
        exact settle_low (low_push a hl')
    show settleB least ((brkL (tokT a) (decide (bindT a < bindN o)) ++ [sgnT o] ++ brkL (tokT c) (decide (bindT c ≤ bindN o))).foldl takeB b) = _
    rw [List.foldl_append, List.foldl_append]
    show settleB least ((brkL (tokT c) (decide (bindT c ≤ bindN o))).foldl takeB (takeB ((brkL (tokT a) (decide (bindT a < bindN o))).foldl takeB b) (sgnT o))) = _
    rw [take_sign _ ho, e1]
    -- the right side
    have e2 : settleB least ((brkL (tokT c) (decide (bindT c ≤ bindN o))).foldl takeB ⟨(pushT a b).nodes, (pushT a b).ready, (pushT a b).waiting ++ [o]⟩) = settleB least (pushT c ⟨(pushT a b).nodes, (pushT a b).ready, (pushT a b).waiting ++ [o]⟩) := by
      by_cases h : bindT c ≤ bindN o
      · rw [decide_eq_true h, take_brk (t := c) (take_tree c _ hc (low_open _ _ _ _) 0 (by cases c <;> simp [bindT, bindN] <;> (try split) <;> (try split) <;> omega))]
      · rw [decide_eq_false h]
        exact take_tree c _ hc (Or.inr ⟨_, o, rfl, Or.inr (by omega)⟩) least (by omega)
    rw [e2]
    show settleB least ⟨(pushT c ⟨(pushT a b).nodes, (pushT a b).ready, b.waiting ++ [o]⟩).nodes, (pushT c ⟨(pushT a b).nodes, (pushT a b).ready, b.waiting ++ [o]⟩).ready, b.waiting ++ [o]⟩ = _
    rw [settle_pop (by omega) hle', join_push]
end Go.Proofs.YtpnfmpbgjkhicaeGreatDoor

namespace Go.Proofs.YtpnfmpbgjkhicaeGreatDoor

section
variable {S : Type} (s : ByteArray) (tk : S → ByteArray → S)
/-- reading step by step: ahead of an operand (false), or behind one (true) -/
def runR : Nat → Bool → Rd S → Rd S × Bool
  | 0, _, r => (r, false)
  | f + 1, false, r =>
    if nextB s r.at' = 40 then runR f false (wordR s tk 1 ⟨r.at', r.opn + 1, r.st⟩)
    else if digB (nextB s r.at') then runR f true (wordR s tk (digitsN s r.at') r)
    else if letB (nextB s r.at') then runR f true (wordR s tk (leadN letB (s.extract r.at' s.size)) r)
    else (r, false)
  | f + 1, true, r =>
    if 0 < r.opn ∧ nextB s r.at' = 41 then runR f true (wordR s tk 1 ⟨r.at', r.opn - 1, r.st⟩)
    else if r.at' < s.size then (if signI (nextB s r.at') < 0 then (r, false) else runR f false (wordR s tk 1 r))
    else (r, decide (r.opn = 0))
end
section
variable {S : Type} {s : ByteArray} {tk : S → ByteArray → S}
theorem dig_pos {a : Nat} (ha : a ≤ s.size) (h : digB (nextB s a) = true) : 1 ≤ digitsN s a ∧ a + digitsN s a ≤ s.size := by
  have hlt : a < s.size := next_zero (fun e => by rw [e] at h; revert h; decide) ha
  have h1 := (lead_word (n := 0) hlt h (Nat.zero_le _)).1
  refine ⟨?_, (dig_word (o := 0) ha h).1⟩
  unfold digitsN
  split <;> omega
theorem let_pos {a : Nat} (ha : a ≤ s.size) (h : letB (nextB s a) = true) : 1 ≤ leadN letB (s.extract a s.size) ∧ a + leadN letB (s.extract a s.size) ≤ s.size := by
  have hlt : a < s.size := next_zero (fun e => by rw [e] at h; revert h; decide) ha
  exact ⟨(lead_word (n := 0) hlt h (Nat.zero_le _)).1, (let_word (o := 0) ha h).1⟩
theorem run_fuel : ∀ (f g : Nat) (ph : Bool) (r : Rd S), r.at' ≤ s.size → s.size - r.at' < f → s.size - r.at' < g → runR s tk f ph r = runR s tk g ph r
  | 0, _, _, _, _, h, _ => by omega
  | _ + 1, 0, _, _, _, _, h => by omega
  | f + 1, g + 1, false, r, hr, hf, hg => by
    rw [runR, runR]
    by_cases h1 : nextB s r.at' = 40
    · rw [if_pos h1, if_pos h1]
      have h := (opn_word (o := 0) hr h1).1
      exact run_fuel f g false _ h (by show s.size - (r.at' + 1) < f; omega) (by show s.size - (r.at' + 1) < g; omega)
    rw [if_neg h1, if_neg h1]
    by_cases h2 : digB (nextB s r.at') = true
    · rw [if_pos h2, if_pos h2]
      have h := dig_pos hr h2
      exact run_fuel f g true _ h.2 (by show s.size - (r.at' + digitsN s r.at') < f; omega) (by show s.size - (r.at' + digitsN s r.at') < g; omega)
    rw [if_neg h2, if_neg h2]
    by_cases h3 : letB (nextB s r.at') = true
    · rw [if_pos h3, if_pos h3]
      have h := let_pos hr h3
      exact run_fuel f g true _ h.2 (by show s.size - (r.at' + leadN letB (s.extract r.at' s.size)) < f; omega) (by show s.size - (r.at' + leadN letB (s.extract r.at' s.size)) < g; omega)
    rw [if_neg h3, if_neg h3]
  | f + 1, g + 1, true, r, hr, hf, hg => by
    rw [runR, runR]
    by_cases h1 : 0 < r.opn ∧ nextB s r.at' = 41
    · rw [if_pos h1, if_pos h1]
      have h := (cls_word (o := 0) hr h1.2).1
      exact run_fuel f g true _ h (by show s.size - (r.at' + 1) < f; omega) (by show s.size - (r.at' + 1) < g; omega)
    rw [if_neg h1, if_neg h1]
    by_cases h2 : r.at' < s.size
    · rw [if_pos h2, if_pos h2]
      by_cases h3 : signI (nextB s r.at') < 0
      · rw [if_pos h3, if_pos h3]
      · rw [if_neg h3, if_neg h3]
        exact run_fuel f g false _ h2 (by show s.size - (r.at' + 1) < f; omega) (by show s.size - (r.at' + 1) < g; omega)
    · rw [if_neg h2, if_neg h2]
end
/-- reading from here to the end -/
def toEnd {S : Type} (s : ByteArray) (tk : S → ByteArray → S) (ph : Bool) (r : Rd S) : Rd S × Bool := runR s tk (s.size + 1) ph r
section
variable {S : Type} {s : ByteArray} {tk : S → ByteArray → S} {r : Rd S}
theorem end_open (hr : r.at' ≤ s.size) (h : nextB s r.at' = 40) : toEnd s tk false r = toEnd s tk false (wordR s tk 1 ⟨r.at', r.opn + 1, r.st⟩) := by
  have h1 := (opn_word (o := 0) hr h).1
  unfold toEnd
  rw [runR, if_pos h]
  exact run_fuel _ _ _ _ h1 (by show s.size - (r.at' + 1) < _; omega) (by show s.size - (r.at' + 1) < _; omega)
theorem end_dig (hr : r.at' ≤ s.size) (h : digB (nextB s r.at') = true) : toEnd s tk false r = toEnd s tk true (wordR s tk (digitsN s r.at') r) := by
  have h1 := dig_pos hr h
  have h40 : nextB s r.at' ≠ 40 := fun e => by rw [e] at h; revert h; decide
  unfold toEnd
  rw [runR, if_neg h40, if_pos h]
  exact run_fuel _ _ _ _ h1.2 (by show s.size - (r.at' + digitsN s r.at') < _; omega) (by show s.size - (r.at' + digitsN s r.at') < _; omega)
theorem end_let (hr : r.at' ≤ s.size) (h : letB (nextB s r.at') = true) : toEnd s tk false r = toEnd s tk true (wordR s tk (leadN letB (s.extract r.at' s.size)) r) := by
  have h1 := let_pos hr h
  have h40 : nextB s r.at' ≠ 40 := fun e => by rw [e] at h; revert h; decide
  have hd : ¬ digB (nextB s r.at') = true := fun e => by unfold digB at e; unfold letB at h; simp at e h; omega
  unfold toEnd
  rw [runR, if_neg h40, if_neg hd, if_pos h]
  exact run_fuel _ _ _ _ h1.2 (by show s.size - (r.at' + leadN letB (s.extract r.at' s.size)) < _; omega) (by show s.size - (r.at' + leadN letB (s.extract r.at' s.size)) < _; omega)
theorem end_none (h : nextB s r.at' ≠ 40) (h1 : digB (nextB s r.at') = false) (h2 : letB (nextB s r.at') = false) : toEnd s tk false r = (r, false) := by
  unfold toEnd
  rw [runR, if_neg h, if_neg (by rw [h1]; decide), if_neg (by rw [h2]; decide)]
theorem end_close (hr : r.at' ≤ s.size) (h : 0 < r.opn ∧ nextB s r.at' = 41) : toEnd s tk true r = toEnd s tk true (wordR s tk 1 ⟨r.at', r.opn - 1, r.st⟩) := by
  have h1 := (cls_word (o := 0) hr h.2).1
  unfold toEnd
  rw [runR, if_pos h]
  exact run_fuel _ _ _ _ h1 (by show s.size - (r.at' + 1) < _; omega) (by show s.size - (r.at' + 1) < _; omega)
theorem end_sign (h : ¬ (0 < r.opn ∧ nextB s r.at' = 41)) (hlt : r.at' < s.size) (hs : ¬ signI (nextB s r.at') < 0) : toEnd s tk true r = toEnd s tk false (wordR s tk 1 r) := by
  have e : runR s tk (s.size + 1) true r = runR s tk s.size false (wordR s tk 1 r) := by rw [runR, if_neg h, if_pos hlt, if_neg hs]
  unfold toEnd
  rw [e]
  exact run_fuel _ _ _ _ hlt (by show s.size - (r.at' + 1) < _; omega) (by show s.size - (r.at' + 1) < _; omega)
theorem end_bad (h : ¬ (0 < r.opn ∧ nextB s r.at' = 41)) (hlt : r.at' < s.size) (hs : signI (nextB s r.at') < 0) : toEnd s tk true r = (r, false) := by
  unfold toEnd
  rw [runR, if_neg h, if_pos hlt, if_pos hs]
theorem end_end (h : ¬ (0 < r.opn ∧ nextB s r.at' = 41)) (hlt : ¬ r.at' < s.size) : toEnd s tk true r = (r, decide (r.opn = 0)) := by
  unfold toEnd
  rw [runR, if_neg h, if_neg hlt]
theorem end_opens : ∀ (f : Nat) (r : Rd S), r.at' ≤ s.size → toEnd s tk false r = toEnd s tk false (opensR s tk f r)
  | 0, _, _ => rfl
  | f + 1, r, hr => by
    rw [opensR]
    split
    · rename_i h
      rw [end_open hr h]
      exact end_opens f _ (opn_word (o := 0) hr h).1
    · rfl
theorem opened_ne : ∀ (f : Nat) (r : Rd S), r.at' ≤ s.size → s.size - r.at' ≤ f → nextB s (opensR s tk f r).at' ≠ 40
  | 0, r, hr, hf => by
    have e : r.at' = s.size := by omega
    rw [opensR, e, nextB, if_pos rfl]
    decide
  | f + 1, r, hr, hf => by
    rw [opensR]
    split
    · rename_i h
      have h1 := (opn_word (o := 0) hr h).1
      exact opened_ne f _ h1 (by show s.size - (r.at' + 1) ≤ f; omega)
    · rename_i h; exact h
theorem end_closes : ∀ (f : Nat) (r : Rd S), r.at' ≤ s.size → toEnd s tk true r = toEnd s tk true (closesR s tk f r)
  | 0, _, _ => rfl
  | f + 1, r, hr => by
    rw [closesR]
    split
    · rename_i h
      rw [end_close hr h]
      exact end_closes f _ (cls_word (o := 0) hr h.2).1
    · rfl
theorem closed_ne : ∀ (f : Nat) (r : Rd S), r.at' ≤ s.size → s.size - r.at' ≤ f → ¬ (0 < (closesR s tk f r).opn ∧ nextB s (closesR s tk f r).at' = 41)
  | 0, r, hr, hf => by
    have e : r.at' = s.size := by omega
    rw [closesR, e, nextB, if_pos rfl]
    intro h
    exact absurd h.2 (by decide)
  | f + 1, r, hr, hf => by
    rw [closesR]
    split
    · rename_i h
      have h1 := (cls_word (o := 0) hr h.2).1
      exact closed_ne f _ h1 (by show s.size - (r.at' + 1) ≤ f; omega)
    · rename_i h; exact h
/-- an operand with the brackets about it -/
theorem end_operand (hr : r.at' ≤ s.size) : ((operandR s tk r).2 = true ∧ toEnd s tk false r = toEnd s tk true (operandR s tk r).1 ∧ ¬ (0 < (operandR s tk r).1.opn ∧ nextB s (operandR s tk r).1.at' = 41)) ∨ ((operandR s tk r).2 = false ∧ toEnd s tk false r = ((operandR s tk r).1, false)) := by
  have ho : (openedR s tk r).at' ≤ s.size := opens_in _ r hr
  have e0 : toEnd s tk false r = toEnd s tk false (openedR s tk r) := end_opens _ r hr
  have hne : nextB s (openedR s tk r).at' ≠ 40 := opened_ne _ r hr (Nat.le_refl _)
  cases hd : digB (nextB s (openedR s tk r).at')
  · cases hl : letB (nextB s (openedR s tk r).at')
    · right
      have e := opnd_no (s := s) (tk := tk) (r := r) hd hl
      rw [e]
      exact ⟨rfl, by rw [e0]; exact end_none hne hd hl⟩
    · left
      have e := opnd_let (s := s) (tk := tk) (r := r) hd hl
      rw [e]
      have h1 := let_pos ho hl
      refine ⟨rfl, ?_, closed_ne _ _ h1.2 (by omega)⟩
      rw [e0, end_let ho hl]
      exact end_closes _ _ h1.2
  · left
    have e := opnd_dig (s := s) (tk := tk) (r := r) hd
    rw [e]
    have h1 := dig_pos ho hd
    refine ⟨rfl, ?_, closed_ne _ _ h1.2 (by omega)⟩
    rw [e0, end_dig ho hd]
    exact end_closes _ _ h1.2
theorem end_loop : ∀ (f : Nat) (r : Rd S), r.at' ≤ s.size → s.size - r.at' ≤ f → ¬ (0 < r.opn ∧ nextB s r.at' = 41) → toEnd s tk true r = if (loopR s tk f r).2 then ((loopR s tk f r).1, decide ((loopR s tk f r).1.opn = 0)) else ((loopR s tk f r).1, false)
  | 0, r, hr, hf, hc => by
    rw [loopR, if_pos rfl]
    exact end_end hc (by omega)
  | f + 1, r, hr, hf, hc => by
    by_cases hlt : r.at' < s.size
    · by_cases hs : signI (nextB s r.at') < 0
      · have e : signR s tk r = (r, false) := by rw [signR, if_pos hs]
        rw [loop_sgn hlt (by rw [e]), e, if_neg (fun e => Bool.noConfusion e)]
        exact end_bad hc hlt hs
      · have e : signR s tk r = (wordR s tk 1 r, true) := by rw [signR, if_neg hs]
        have h1 : (wordR s tk 1 r).at' ≤ s.size := hlt
        rw [end_sign hc hlt hs]
        rcases end_operand (tk := tk) h1 with ⟨g1, g2, g3⟩ | ⟨g1, g2⟩
        · rw [loop_on hlt (by rw [e]) (by rw [e]; exact g1), e, g2]
          have hat := operand_at (s := s) (tk := tk) (wordR s tk 1 r)
          have hw : (wordR s tk 1 r).at' = r.at' + 1 := rfl
          exact end_loop f _ (operand_in _ h1) (by omega) g3
        · rw [loop_opd hlt (by rw [e]) (by rw [e]; exact g1), e, if_neg (fun e => Bool.noConfusion e)]
          exact g2
    · rw [loop_end hlt, if_pos rfl]
      exact end_end hc hlt
/-- all of a text, step by step -/
theorem all_end_eq (hr : r.at' ≤ s.size) : allR s tk r = toEnd s tk false r := by
  rcases end_operand (tk := tk) hr with ⟨g1, g2, g3⟩ | ⟨g1, g2⟩
  · rw [g2, end_loop s.size _ (operand_in _ hr) (by omega) g3]
    unfold allR
    rw [if_pos g1]
  · rw [g2, all_no g1]
end
end Go.Proofs.YtpnfmpbgjkhicaeGreatDoor

namespace Go.Proofs.YtpnfmpbgjkhicaeGreatDoor

/-- bytes that stand in a text at a place -/
def Has (s : ByteArray) (p : Nat) (l : List UInt8) : Prop := ∃ pre post, s.data.toList = pre ++ l ++ post ∧ pre.length = p
section
variable {s : ByteArray} {p : Nat} {l l1 l2 : List UInt8}
theorem Has.size (h : Has s p l) : p + l.length ≤ s.size := by
  obtain ⟨pre, post, h1, h2⟩ := h
  have e : s.size = s.data.toList.length := Array.length_toList.symm
  rw [e, h1]
  simp
  omega
theorem Has.left (h : Has s p (l1 ++ l2)) : Has s p l1 := by
  obtain ⟨pre, post, h1, h2⟩ := h
  exact ⟨pre, l2 ++ post, by rw [h1]; simp, h2⟩
theorem Has.right (h : Has s p (l1 ++ l2)) : Has s (p + l1.length) l2 := by
  obtain ⟨pre, post, h1, h2⟩ := h
  exact ⟨pre ++ l1, post, by rw [h1]; simp, by simp [h2]⟩
theorem Has.byte (h : Has s p l) {i : Nat} (hi : i < l.length) : byteN s (p + i) = ((l.getD i 0).toNat : Int) := by
  obtain ⟨pre, post, h1, h2⟩ := h
  unfold byteN
  rw [h1]
  congr 2
  simp only [List.getD]
  rw [List.append_assoc, List.getElem?_append_right (by omega), List.getElem?_append_left (by omega)]
  congr 2
  omega
theorem Has.word (h : Has s p l) : s.extract p (p + l.length) = ⟨l.toArray⟩ := by
  obtain ⟨pre, post, h1, h2⟩ := h
  apply ByteArray.ext
  apply Array.toList_inj.1
  rw [Lib.extract_data, h1]
  simp [← h2]
theorem Has.next (h : Has s p l) {x : UInt8} {r : List UInt8} (hl : l = x :: r) : nextB s p = (x.toNat : Int) := by
  have hs := h.size
  rw [hl, List.length_cons] at hs
  have hb := h.byte (i := 0) (by rw [hl]; simp)
  rw [next_at (by omega), ← Nat.add_zero p, hb, hl]
  rfl
end
/-- neither a digit nor a letter stands there -/
def Fol (s : ByteArray) (p : Nat) : Prop := digB (nextB s p) = false ∧ letB (nextB s p) = false
theorem leadTo_exact {q : Int → Bool} {t : ByteArray} {m : Nat} (h1 : ∀ i, i < m → q (byteN t i) = true) (h2 : m = t.size ∨ q (byteN t m) = false) : ∀ (f i : Nat), i ≤ m → i + f = t.size → leadTo q t f i = m
  | 0, i, hi, hf => by
    rcases h2 with h2 | h2
    · show i = m; omega
    · by_cases e : i = m
      · exact e
      · have := h1 i (by omega)
        show i = m
        exfalso
        have hz : byteN t i = 0 := by
          unfold byteN
          have e2 : t.size = t.data.toList.length := Array.length_toList.symm
          rw [List.getD, List.getElem?_eq_none (by omega)]
          rfl
        have hz2 : byteN t m = 0 := by
          unfold byteN
          have e2 : t.size = t.data.toList.length := Array.length_toList.symm
          rw [List.getD, List.getElem?_eq_none (by omega)]
          rfl
        rw [hz] at this
        rw [hz2, this] at h2
        cases h2
  | f + 1, i, hi, hf => by
    by_cases e : i = m
    · rcases h2 with h2 | h2
      · omega
      · rw [leadTo, e, if_neg (by rw [h2]; decide)]
    · rw [leadTo, if_pos (h1 i (by omega))]
      exact leadTo_exact h1 h2 f (i + 1) (by omega) (by omega)
theorem lead_has {q : Int → Bool} {s : ByteArray} {p : Nat} {l : List UInt8} (h : Has s p l) (h1 : ∀ b ∈ l, q (b.toNat : Int) = true) (hf : q (nextB s (p + l.length)) = false) : leadN q (s.extract p s.size) = l.length := by
  have hs := h.size
  have ht := tail_size s p
  unfold leadN
  refine leadTo_exact (m := l.length) (fun i hi => ?_) ?_ _ 0 (Nat.zero_le _) (by omega)
  · rw [byteN_ext (by omega), h.byte hi, List.getD, List.getElem?_eq_getElem hi]
    exact h1 _ (List.getElem_mem hi)
  · by_cases e : p + l.length = s.size
    · left; omega
    · right
      rw [byteN_ext (by omega), ← next_at (by omega)]
      exact hf

def bytesOf (ts : List ByteArray) : List UInt8 := ts.flatMap fun t => t.data.toList
def txtL (t : Tre) : List UInt8 := bytesOf (tokT t)
theorem bytes_app (a b : List ByteArray) : bytesOf (a ++ b) = bytesOf a ++ bytesOf b := by simp [bytesOf]
theorem bytes_one (a : ByteArray) : bytesOf [a] = a.data.toList := by simp [bytesOf]

theorem dig7_le (u : Nat) (h : u < 10000000) : (Lib.decDigits u).length ≤ 7 := by
  rw [Lib.decDigits_length]
  have step : ∀ v k, (v < 10 ^ k → Lib.nDigits v ≤ k) ∨ k = 0 := by
    intro v k
    induction k generalizing v with
    | zero => exact Or.inr rfl
    | succ k ih =>
      left
      intro hv
      rw [Lib.nDigits]
      split
      · omega
      · rename_i h10
        rcases ih (v / 10) with h | h
        · have := h (by rw [Nat.pow_succ] at hv; omega)
          omega
        · subst h
          simp at hv
          omega
  rcases step u 7 with h7 | h7
  · exact h7 (by simpa using h)
  · omega
section
variable {S : Type} {s : ByteArray} {tk : S → ByteArray → S}
theorem read_num {r : Rd S} {n : Int} (h0 : 0 ≤ n) (h1 : n ≤ 1000000) (hH : Has s r.at' (numB n).data.toList) (hF : Fol s (r.at' + (numB n).data.toList.length)) : toEnd s tk false r = toEnd s tk true ⟨r.at' + (numB n).data.toList.length, r.opn, tk r.st (numB n)⟩ := by
  obtain ⟨u, rfl⟩ : ∃ u : Nat, n = u := ⟨n.toNat, by omega⟩
  have hl : (numB (u : Int)).data.toList = Lib.decDigits u := by simp [numB, Lib.itoa_nonneg]
  have hw := hH.word
  have hs := hH.size
  have hB : (⟨(numB (u : Int)).data.toList.toArray⟩ : ByteArray) = numB u := by simp
  rw [hB] at hw
  rw [hl] at hH hF hw hs ⊢
  obtain ⟨d, t, hd, h10, hpos, hone⟩ := head_decDigits u
  have hnx : nextB s r.at' = ((48 + d : Nat) : Int) := by
    rw [hH.next hd]
    have : (UInt8.ofNat (48 + d)).toNat = 48 + d := by simp; omega
    rw [this]
  have hdg : digB (nextB s r.at') = true := by rw [hnx]; unfold digB; simp; omega
  have hlead := lead_has (q := digB) hH (fun b hb => by have := num_all u b hb; unfold digB; simp; omega) hF.1
  have hlen := dig7_le u (by omega)
  have hdn : digitsN s r.at' = (Lib.decDigits u).length := by
    unfold digitsN
    by_cases hd0 : d = 0
    · subst hd0
      rw [if_pos (by rw [hnx]; rfl)]
      have hu : u < 10 := by
        by_cases h : 1 ≤ u
        · have := hpos h; omega
        · omega
      rw [hd, hone hu]
      rfl
    · rw [if_neg (by rw [hnx]; omega), hlead]
      omega
  rw [end_dig (by omega) hdg, hdn]
  unfold wordR
  rw [hw]
theorem read_ref {r : Rd S} {nm : ByteArray} (h : nameErr nm = 0) (hH : Has s r.at' nm.data.toList) (hF : Fol s (r.at' + nm.data.toList.length)) : toEnd s tk false r = toEnd s tk true ⟨r.at' + nm.data.toList.length, r.opn, tk r.st nm⟩ := by
  obtain ⟨h1, _, h3⟩ := name_first h
  have hs := hH.size
  have hsz : nm.size = nm.data.toList.length := Array.length_toList.symm
  have hw := hH.word
  have hB : (⟨nm.data.toList.toArray⟩ : ByteArray) = nm := by simp
  rw [hB] at hw
  have hall : ∀ b ∈ nm.data.toList, letB (b.toNat : Int) = true := by
    intro b hb
    obtain ⟨i, hi, rfl⟩ := List.getElem_of_mem hb
    have := h3 i (by omega)
    unfold byteN at this
    rw [List.getD, List.getElem?_eq_getElem hi] at this
    exact this
  have hlt : letB (nextB s r.at') = true := by
    have hb := hH.byte (i := 0) (by omega)
    rw [next_at (by omega), ← Nat.add_zero r.at', hb, List.getD, List.getElem?_eq_getElem (by omega)]
    exact hall _ (List.getElem_mem _)
  rw [end_let (by omega) hlt, lead_has (q := letB) hH hall hF.2]
  unfold wordR
  rw [hw]
theorem fol_sign {p : Nat} {c : UInt8} {l : List UInt8} (h : Has s p (c :: l)) (hc : c = 43 ∨ c = 45 ∨ c = 42 ∨ c = 47 ∨ c = 41) : Fol s p := by
  have hn := h.next rfl
  unfold Fol
  rw [hn]
  rcases hc with rfl | rfl | rfl | rfl | rfl <;> decide
/-- a tree in brackets, or without -/
theorem read_brk {t : Tre} (ih : ∀ r : Rd S, Has s r.at' (txtL t) → Fol s (r.at' + (txtL t).length) → toEnd s tk false r = toEnd s tk true ⟨r.at' + (txtL t).length, r.opn, (tokT t).foldl tk r.st⟩) (c : Bool) (r : Rd S) (hH : Has s r.at' (bytesOf (brkL (tokT t) c))) (hF : Fol s (r.at' + (bytesOf (brkL (tokT t) c)).length)) :
    toEnd s tk false r = toEnd s tk true ⟨r.at' + (bytesOf (brkL (tokT t) c)).length, r.opn, (brkL (tokT t) c).foldl tk r.st⟩ := by
  cases c
  · exact ih r hH hF
  · have hb : bytesOf (brkL (tokT t) true) = [40] ++ txtL t ++ [41] := by
      show bytesOf ([ByteArray.mk #[40]] ++ tokT t ++ [ByteArray.mk #[41]]) = _
      rw [bytes_app, bytes_app, bytes_one, bytes_one]
      rfl
    have hf : (brkL (tokT t) true).foldl tk r.st = tk ((tokT t).foldl tk (tk r.st ⟨#[40]⟩)) ⟨#[41]⟩ := by
      show ([ByteArray.mk #[40]] ++ tokT t ++ [ByteArray.mk #[41]]).foldl tk r.st = _
      rw [List.foldl_append, List.foldl_append]
      rfl
    rw [hb] at hH hF ⊢
    rw [hf]
    have hs := hH.size
    have h1 : Has s r.at' [40] := hH.left.left
    have h2 : Has s (r.at' + 1) (txtL t) := hH.left.right
    have h3 := hH.right
    simp only [List.length_append, List.length_singleton] at h3 hs ⊢
    have n1 := h1.next rfl
    have w1 := h1.word
    have n3 := h3.next rfl
    have w3 := h3.word
    simp only [List.length_singleton] at w1 w3
    rw [end_open (by omega) n1]
    have e1 : wordR s tk 1 ⟨r.at', r.opn + 1, r.st⟩ = ⟨r.at' + 1, r.opn + 1, tk r.st ⟨#[40]⟩⟩ := by
      unfold wordR
      simp only [w1]
    rw [e1]
    have hF2 : Fol s (r.at' + 1 + (txtL t).length) := by
      rw [show r.at' + 1 + (txtL t).length = r.at' + (1 + (txtL t).length) by omega]
      exact fol_sign h3 (by simp)
    rw [ih _ h2 hF2, end_close (by show r.at' + 1 + (txtL t).length ≤ _; omega) ⟨Nat.succ_pos _, by
      show nextB s (r.at' + 1 + (txtL t).length) = 41
      rw [show r.at' + 1 + (txtL t).length = r.at' + (1 + (txtL t).length) by omega]
      exact n3⟩]
    have e2 : wordR s tk 1 ⟨r.at' + 1 + (txtL t).length, r.opn + 1 - 1, (tokT t).foldl tk (tk r.st ⟨#[40]⟩)⟩ = ⟨r.at' + (1 + (txtL t).length + 1), r.opn, tk ((tokT t).foldl tk (tk r.st ⟨#[40]⟩)) ⟨#[41]⟩⟩ := by
      show (⟨r.at' + 1 + (txtL t).length + 1, r.opn + 1 - 1, tk ((tokT t).foldl tk (tk r.st ⟨#[40]⟩)) (s.extract (r.at' + 1 + (txtL t).length) (r.at' + 1 + (txtL t).length + 1))⟩ : Rd S) = _
      rw [show r.at' + 1 + (txtL t).length = r.at' + (1 + (txtL t).length) by omega, w3]
      rfl
    show toEnd s tk true (wordR s tk 1 ⟨r.at' + 1 + (txtL t).length, r.opn + 1 - 1, (tokT t).foldl tk (tk r.st ⟨#[40]⟩)⟩) = _
    rw [e2]
/-- the text of a tree is read as its words -/
theorem read_tree : ∀ (t : Tre) (r : Rd S), okT t → Has s r.at' (txtL t) → Fol s (r.at' + (txtL t).length) → toEnd s tk false r = toEnd s tk true ⟨r.at' + (txtL t).length, r.opn, (tokT t).foldl tk r.st⟩
  | .num n, r, hk, hH, hF => by
    have e : txtL (.num n) = (numB n).data.toList := bytes_one _
    rw [e] at hH hF ⊢
    exact read_num hk.1 hk.2 hH hF
  | .ref nm, r, hk, hH, hF => by
    have e : txtL (.ref nm) = nm.data.toList := bytes_one _
    rw [e] at hH hF ⊢
    exact read_ref hk hH hF
  | .bin o a b, r, ⟨ho, ha, hb⟩, hH, hF => by
    obtain ⟨ca, hca⟩ : ∃ c, decide (bindT a < bindN o) = c := ⟨_, rfl⟩
    obtain ⟨cb, hcb⟩ : ∃ c, decide (bindT b ≤ bindN o) = c := ⟨_, rfl⟩
    have ht : tokT (.bin o a b) = brkL (tokT a) ca ++ [sgnT o] ++ brkL (tokT b) cb := by rw [tokT, hca, hcb]
    have e : txtL (.bin o a b) = bytesOf (brkL (tokT a) ca) ++ (sgnT o).data.toList ++ bytesOf (brkL (tokT b) cb) := by
      unfold txtL
      rw [ht, bytes_app, bytes_app, bytes_one]
    obtain ⟨c, hc, hcs, hsg⟩ : ∃ c : UInt8, (sgnT o).data.toList = [c] ∧ (c = 43 ∨ c = 45 ∨ c = 42 ∨ c = 47 ∨ c = 41) ∧ (¬ signI (c.toNat : Int) < 0 ∧ (c.toNat : Int) ≠ 41) := by
      have hoc : o = 3 ∨ o = 4 ∨ o = 5 ∨ o = 6 := by omega
      rcases hoc with rfl | rfl | rfl | rfl
      · exact ⟨43, rfl, by simp, by decide⟩
      · exact ⟨45, rfl, by simp, by decide⟩
      · exact ⟨42, rfl, by simp, by decide⟩
      · exact ⟨47, rfl, by simp, by decide⟩
    rw [e, hc] at hH hF ⊢
    rw [ht]
    obtain ⟨la, hla⟩ : ∃ l, bytesOf (brkL (tokT a) ca) = l := ⟨_, rfl⟩
    obtain ⟨lb, hlb⟩ : ∃ l, bytesOf (brkL (tokT b) cb) = l := ⟨_, rfl⟩
    rw [hla, hlb] at hH hF ⊢
    have hs := hH.size
    have h1 : Has s r.at' la := hH.left.left
    have h2 : Has s (r.at' + la.length) [c] := hH.left.right
    have h3 := hH.right
    simp only [List.length_append, List.length_singleton] at h3 hs hF ⊢
    have n2 := h2.next rfl
    have w2 := h2.word
    simp only [List.length_singleton] at w2
    have hws : (⟨[c].toArray⟩ : ByteArray) = sgnT o := by
      apply ByteArray.ext
      apply Array.toList_inj.1
      rw [hc]
    rw [hws] at w2
    have r1 := read_brk (t := a) (fun r h hf => read_tree a r ha h hf) ca r (by rw [hla]; exact h1) (by rw [hla]; exact fol_sign h2 hcs)
    rw [hla] at r1
    rw [r1, end_sign (by show ¬ (0 < r.opn ∧ nextB s (r.at' + la.length) = 41); rw [n2]; intro h; exact hsg.2 h.2) (by show r.at' + la.length < s.size; omega) (by show ¬ signI (nextB s (r.at' + la.length)) < 0; rw [n2]; exact hsg.1)]
    have e2 : wordR s tk 1 ⟨r.at' + la.length, r.opn, (brkL (tokT a) ca).foldl tk r.st⟩ = ⟨r.at' + (la.length + 1), r.opn, tk ((brkL (tokT a) ca).foldl tk r.st) (sgnT o)⟩ := by
      show (⟨r.at' + la.length + 1, r.opn, tk ((brkL (tokT a) ca).foldl tk r.st) (s.extract (r.at' + la.length) (r.at' + la.length + 1))⟩ : Rd S) = _
      rw [w2]
      rfl
    rw [e2]
    have r2 := read_brk (tk := tk) (t := b) (fun r h hf => read_tree b r hb h hf) cb ⟨r.at' + (la.length + 1), r.opn, tk ((brkL (tokT a) ca).foldl tk r.st) (sgnT o)⟩ (by rw [hlb]; exact h3) (by rw [hlb]; show Fol s (r.at' + (la.length + 1) + lb.length); rw [show r.at' + (la.length + 1) + lb.length = r.at' + (la.length + 1 + lb.length) by omega]; exact hF)
    rw [hlb] at r2
    rw [r2]
    simp only [List.foldl_append, List.foldl_cons, List.foldl_nil, Nat.add_assoc]
end

/-- the text of a tree -/
def treT (t : Tre) : ByteArray := ⟨(txtL t).toArray⟩
/-- what is read of the text of a tree: its nodes -/
theorem gone_tree (t : Tre) (h : okT t) : (goneB (treT t)).2 = true ∧ nodesP (treT t) = post t 0 := by
  have hH : Has (treT t) 0 (txtL t) := ⟨[], [], by simp [treT], rfl⟩
  have hz : (treT t).size = (txtL t).length := by simp [treT, ByteArray.size]
  have hn : nextB (treT t) (txtL t).length = 0 := by rw [nextB, if_pos hz.symm]
  have hF : Fol (treT t) (0 + (txtL t).length) := by
    rw [Nat.zero_add]
    unfold Fol
    rw [hn]
    decide
  have e : goneB (treT t) = (⟨0 + (txtL t).length, 0, (tokT t).foldl takeB noB⟩, true) := by
    unfold goneB
    rw [all_end_eq (Nat.zero_le _), read_tree t ⟨0, 0, noB⟩ h hH hF, end_end (by intro h; exact absurd h.1 (Nat.lt_irrefl 0)) (by show ¬ 0 + (txtL t).length < _; omega)]
    rfl
  refine ⟨by rw [e], ?_⟩
  unfold nodesP
  rw [e]
  show (settleB 0 ((tokT t).foldl takeB noB)).nodes = _
  rw [take_tree t noB h (Or.inl rfl) 0 (by cases t <;> simp [bindT, bindN] <;> (try split) <;> (try split) <;> omega), settle_low (low_push t (Or.inl rfl))]
  simp [pushT, noB]
end Go.Proofs.YtpnfmpbgjkhicaeGreatDoor

namespace Go.Proofs.YtpnfmpbgjkhicaeGreatDoor

/-- the tree of a word -/
def leafT (w : ByteArray) : Tre := if 97 ≤ byteN w 0 ∧ byteN w 0 ≤ 122 then .ref w else .num (numW w)
theorem leaf_opnd (w : ByteArray) (k : Nat) : post (leafT w) k = [opndN w] ∧ sizT (leafT w) = 1 := by
  unfold leafT opndN
  split
  · exact ⟨rfl, rfl⟩
  · exact ⟨rfl, rfl⟩
/-- words that spell a tree at a level -/
inductive Spl : Nat → Tre → List ByteArray → Prop
  | word (w : ByteArray) : 48 ≤ byteN w 0 → Spl 3 (leafT w) [w]
  | brk (t : Tre) (ws : List ByteArray) : Spl 1 t ws → Spl 3 t ([⟨#[40]⟩] ++ ws ++ [⟨#[41]⟩])
  | up (k : Nat) (t : Tre) (ws : List ByteArray) : 1 ≤ k → k ≤ 2 → Spl (k + 1) t ws → Spl k t ws
  | bin (k : Nat) (o : Int) (a c : Tre) (wa wc : List ByteArray) : 3 ≤ o → o ≤ 6 → bindN o = (k : Int) → Spl k a wa → Spl (k + 1) c wc → Spl k (.bin o a c) (wa ++ [sgnT o] ++ wc)
theorem spl_range {k : Nat} {t : Tre} {ws : List ByteArray} (h : Spl k t ws) : 1 ≤ k ∧ k ≤ 3 := by
  induction h with
  | word => omega
  | brk => omega
  | up k t ws h1 h2 => omega
  | bin k o a c wa wc h1 h2 h3 =>
    unfold bindN at h3
    split at h3
    · omega
    · split at h3 <;> omega
/-- a builder that takes the words that spell a tree comes to its nodes, once what waits is settled -/
theorem spl_take {k : Nat} {t : Tre} {ws : List ByteArray} (h : Spl k t ws) : ∀ (b : Bld), Low b (k : Int) → ∀ least : Int, least ≤ k → settleB least (ws.foldl takeB b) = settleB least (pushT t b) := by
  induction h with
  | word w hw =>
    intro b _ least _
    show settleB least (takeB b w) = _
    rw [take_is_opd hw]
    obtain ⟨e1, e2⟩ := leaf_opnd w b.nodes.length
    unfold pushT addB
    rw [e1, e2]
    rfl
  | brk t ws _ ih =>
    intro b _ least _
    have := take_brk (l := ws) (t := t) (b := b) (ih _ (low_open _ _ _ _) 0 (by omega))
    rw [brkL, if_pos rfl] at this
    rw [this]
  | up k t ws h1 h2 _ ih =>
    intro b hl least hle
    exact ih b (hl.up (by omega)) least (by omega)
  | bin k o a c wa wc h1 h2 h3 _ _ iha ihc =>
    intro b hl least hle
    have e1 : settleB (bindN o) (wa.foldl takeB b) = pushT a b := by
      rw [h3, iha b hl k (Int.le_refl _)]
      exact settle_low (low_push a hl)
    rw [List.foldl_append, List.foldl_append]
    show settleB least (wc.foldl takeB (takeB (wa.foldl takeB b) (sgnT o))) = _
    rw [take_sign _ ⟨h1, h2⟩, e1, ihc ⟨(pushT a b).nodes, (pushT a b).ready, (pushT a b).waiting ++ [o]⟩ (Or.inr ⟨_, o, rfl, Or.inr (by rw [h3]; omega)⟩) least (by omega)]
    show settleB least ⟨(pushT c ⟨(pushT a b).nodes, (pushT a b).ready, b.waiting ++ [o]⟩).nodes, (pushT c ⟨(pushT a b).nodes, (pushT a b).ready, b.waiting ++ [o]⟩).ready, b.waiting ++ [o]⟩ = _
    rw [settle_pop (by omega) (by rw [h3]; exact hle), join_push]

/-- from here to there the text spells a tree -/
def Rds (s : ByteArray) (k a a' : Nat) (t : Tre) : Prop := a < a' ∧ a' ≤ s.size ∧ ∃ ws, Spl k t ws ∧ ∀ r : Rd Bld, r.at' = a → toEnd s takeB false r = toEnd s takeB true ⟨a', r.opn, ws.foldl takeB r.st⟩
/-- from here it goes wrong there -/
def Fls (s : ByteArray) (a a' : Nat) : Prop := a ≤ a' ∧ a' ≤ s.size ∧ ∀ r : Rd Bld, r.at' = a → ∃ o st, toEnd s takeB false r = (⟨a', o, st⟩, false)
/-- no sign that binds as much comes next -/
def NoSg (s : ByteArray) (k a : Nat) : Prop := a < s.size → signI (nextB s a) < 0 ∨ bindN (3 + signI (nextB s a)) < (k : Int)
section
variable {s : ByteArray} {k a a1 a2 a' : Nat} {t u : Tre}
theorem word_first {n : Nat} (ha : a < s.size) (hn : 1 ≤ n) : byteN (s.extract a (a + n)) 0 = nextB s a := by
  rw [byteN_ext (by omega), nextB, if_neg (by omega), Nat.add_zero]
/-- an operand that is a number -/
theorem rds_dig (ha : a ≤ s.size) (h : digB (nextB s a) = true) : Rds s 3 a (a + digitsN s a) (leafT (s.extract a (a + digitsN s a))) := by
  obtain ⟨h1, h2⟩ := dig_pos ha h
  obtain ⟨h3, h4⟩ := dig_word (o := 0) ha h
  refine ⟨by omega, h2, [s.extract a (a + digitsN s a)], Spl.word _ ?_, fun r hr => ?_⟩
  · have hd := word_first (by omega : a < s.size) h1
    rw [hd]
    unfold digB at h
    simp at h
    omega
  · have he := end_dig (tk := takeB) (r := r) (by rw [hr]; exact ha) (by rw [hr]; exact h)
    rw [he, wordR, hr]
    rfl
/-- an operand that is a name -/
theorem rds_let (ha : a ≤ s.size) (h : letB (nextB s a) = true) : Rds s 3 a (a + leadN letB (s.extract a s.size)) (leafT (s.extract a (a + leadN letB (s.extract a s.size)))) := by
  obtain ⟨h1, h2⟩ := let_pos ha h
  refine ⟨by omega, h2, [s.extract a (a + leadN letB (s.extract a s.size))], Spl.word _ ?_, fun r hr => ?_⟩
  · have hd := word_first (by omega : a < s.size) h1
    rw [hd]
    unfold letB at h
    simp at h
    omega
  · have he := end_let (tk := takeB) (r := r) (by rw [hr]; exact ha) (by rw [hr]; exact h)
    rw [he, wordR, hr]
    rfl
theorem byte_one (ha : a < s.size) (c : UInt8) (h : nextB s a = (c.toNat : Int)) : s.extract a (a + 1) = ⟨#[c]⟩ := by
  have hz := slice_ok (s := s) (a := a) (n := 1) (by omega)
  have hb := word_first (n := 1) ha (by omega)
  rw [h] at hb
  apply ByteArray.ext
  apply Array.ext
  · exact hz
  · intro i h1 h2
    have hi : i = 0 := by simp at h2; omega
    subst hi
    have e : byteN (s.extract a (a + 1)) 0 = (((s.extract a (a + 1)).data[0]'h1).toNat : Int) := by
      unfold byteN
      rw [List.getD, List.getElem?_eq_getElem (by rw [Array.length_toList]; exact h1)]
      rfl
    rw [e] at hb
    have : ((s.extract a (a + 1)).data[0]'h1).toNat = c.toNat := by omega
    simpa using UInt8.toNat_inj.1 this
/-- brackets about what is read -/
theorem rds_brk (ha : a ≤ s.size) (h40 : nextB s a = 40) (h : Rds s 1 (a + 1) a1 t) (h41 : nextB s a1 = 41) : Rds s 3 a (a1 + 1) t := by
  obtain ⟨h1, h2, ws, h3, h4⟩ := h
  have hlt : a < s.size := next_zero (by rw [h40]; decide) ha
  have hlt1 : a1 < s.size := next_zero (by rw [h41]; decide) h2
  refine ⟨by omega, by omega, _, Spl.brk t ws h3, fun r hr => ?_⟩
  have e1 := end_open (tk := takeB) (r := r) (by rw [hr]; exact ha) (by rw [hr]; exact h40)
  have e2 := h4 (wordR s takeB 1 ⟨r.at', r.opn + 1, r.st⟩) (by rw [wordR, hr])
  have e3 := end_close (tk := takeB) (r := ⟨a1, (wordR s takeB 1 ⟨r.at', r.opn + 1, r.st⟩).opn, ws.foldl takeB (wordR s takeB 1 ⟨r.at', r.opn + 1, r.st⟩).st⟩) h2 ⟨by show 0 < r.opn + 1; omega, h41⟩
  rw [e1, e2, e3]
  unfold wordR
  simp only
  rw [hr, byte_one hlt 40 (by rw [h40]; rfl), byte_one hlt1 41 (by rw [h41]; rfl), List.foldl_append, List.foldl_append]
  rfl
theorem rds_up (h1 : 1 ≤ k) (h2 : k ≤ 2) (h : Rds s (k + 1) a a' t) : Rds s k a a' t := by
  obtain ⟨g1, g2, ws, g3, g4⟩ := h
  exact ⟨g1, g2, ws, Spl.up k t ws h1 h2 g3, g4⟩
/-- the op of a sign -/
theorem sgn_four {c : Int} (h : ¬ signI c < 0) : (c = 43 ∧ signI c = 0) ∨ (c = 45 ∧ signI c = 1) ∨ (c = 42 ∧ signI c = 2) ∨ (c = 47 ∧ signI c = 3) := by
  unfold signI at *
  by_cases h1 : c = 43
  · left; exact ⟨h1, by rw [if_pos h1]⟩
  by_cases h2 : c = 45
  · right; left; exact ⟨h2, by rw [if_neg h1, if_pos h2]⟩
  by_cases h3 : c = 42
  · right; right; left; exact ⟨h3, by rw [if_neg h1, if_neg h2, if_pos h3]⟩
  by_cases h4 : c = 47
  · right; right; right; exact ⟨h4, by rw [if_neg h1, if_neg h2, if_neg h3, if_pos h4]⟩
  · rw [if_neg h1, if_neg h2, if_neg h3, if_neg h4] at h; omega
theorem sign_word (hlt : a < s.size) (h : ¬ signI (nextB s a) < 0) : s.extract a (a + 1) = sgnT (3 + signI (nextB s a)) ∧ 3 ≤ 3 + signI (nextB s a) ∧ 3 + signI (nextB s a) ≤ 6 ∧ nextB s a ≠ 41 := by
  rcases sgn_four h with ⟨e, e2⟩ | ⟨e, e2⟩ | ⟨e, e2⟩ | ⟨e, e2⟩
  · rw [e2, byte_one hlt 43 (by rw [e]; rfl), e]; exact ⟨rfl, by omega, by omega, by omega⟩
  · rw [e2, byte_one hlt 45 (by rw [e]; rfl), e]; exact ⟨rfl, by omega, by omega, by omega⟩
  · rw [e2, byte_one hlt 42 (by rw [e]; rfl), e]; exact ⟨rfl, by omega, by omega, by omega⟩
  · rw [e2, byte_one hlt 47 (by rw [e]; rfl), e]; exact ⟨rfl, by omega, by omega, by omega⟩
/-- a sign, and what is behind it -/
theorem rds_bin (h : Rds s k a a1 t) (hlt : a1 < s.size) (hs : ¬ signI (nextB s a1) < 0) (hk : bindN (3 + signI (nextB s a1)) = (k : Int)) (h2 : Rds s (k + 1) (a1 + 1) a2 u) : Rds s k a a2 (.bin (3 + signI (nextB s a1)) t u) := by
  obtain ⟨g1, g2, ws, g3, g4⟩ := h
  obtain ⟨f1, f2, vs, f3, f4⟩ := h2
  obtain ⟨w1, w2, w3, w4⟩ := sign_word hlt hs
  refine ⟨by omega, f2, _, Spl.bin k _ t u ws vs w2 w3 hk g3 f3, fun r hr => ?_⟩
  have e2 := end_sign (tk := takeB) (r := ⟨a1, r.opn, ws.foldl takeB r.st⟩) (fun e => w4 e.2) hlt hs
  have e3 := f4 (wordR s takeB 1 ⟨a1, r.opn, ws.foldl takeB r.st⟩) rfl
  rw [g4 r hr, e2, e3]
  unfold wordR
  simp only
  rw [w1, List.foldl_append, List.foldl_append]
  rfl
/-! where it goes wrong -/
theorem fls_none (ha : a ≤ s.size) (h : nextB s a ≠ 40) (h1 : digB (nextB s a) = false) (h2 : letB (nextB s a) = false) : Fls s a a :=
  ⟨Nat.le_refl _, ha, fun r hr => ⟨r.opn, r.st, by rw [end_none (by rw [hr]; exact h) (by rw [hr]; exact h1) (by rw [hr]; exact h2), ← hr]⟩⟩
theorem fls_open (ha : a ≤ s.size) (h40 : nextB s a = 40) (h : Fls s (a + 1) a') : Fls s a a' := by
  obtain ⟨h1, h2, h3⟩ := h
  refine ⟨by omega, h2, fun r hr => ?_⟩
  rw [end_open (by rw [hr]; exact ha) (by rw [hr]; exact h40)]
  exact h3 _ (by rw [wordR, hr])
theorem fls_shut (ha : a ≤ s.size) (h40 : nextB s a = 40) (h : Rds s 1 (a + 1) a1 t) (hn : NoSg s 1 a1) (h41 : nextB s a1 ≠ 41) : Fls s a a1 := by
  obtain ⟨h1, h2, ws, h3, h4⟩ := h
  refine ⟨by omega, h2, fun r hr => ?_⟩
  rw [end_open (tk := takeB) (r := r) (by rw [hr]; exact ha) (by rw [hr]; exact h40), h4 _ (by rw [wordR, hr])]
  by_cases hlt : a1 < s.size
  · have hs : signI (nextB s a1) < 0 := by
      rcases hn hlt with h | h
      · exact h
      · have := bindN_ge (3 + signI (nextB s a1)); omega
    rw [end_bad (fun e => h41 e.2) hlt hs]
    exact ⟨_, _, rfl⟩
  · rw [end_end (fun e => h41 e.2) hlt]
    refine ⟨(wordR s takeB 1 ⟨r.at', r.opn + 1, r.st⟩).opn, ws.foldl takeB (wordR s takeB 1 ⟨r.at', r.opn + 1, r.st⟩).st, ?_⟩
    rw [decide_eq_false (show ¬ (wordR s takeB 1 ⟨r.at', r.opn + 1, r.st⟩).opn = 0 by show ¬ r.opn + 1 = 0; omega)]
theorem fls_sign (h : Rds s k a a1 t) (hlt : a1 < s.size) (hs : ¬ signI (nextB s a1) < 0) (h2 : Fls s (a1 + 1) a2) : Fls s a a2 := by
  obtain ⟨g1, g2, ws, g3, g4⟩ := h
  obtain ⟨f1, f2, f3⟩ := h2
  obtain ⟨w1, w2, w3, w4⟩ := sign_word hlt hs
  refine ⟨by omega, f2, fun r hr => ?_⟩
  rw [g4 r hr, end_sign (tk := takeB) (r := ⟨a1, r.opn, ws.foldl takeB r.st⟩) (fun e => w4 e.2) hlt hs]
  exact f3 _ rfl
end
/-! all of a text -/
section
variable {s : ByteArray} {a' : Nat} {t : Tre}
theorem read_all (h : Rds s 1 0 s.size t) : (goneB s).2 = true ∧ nodesP s = post t 0 := by
  obtain ⟨h1, h2, ws, h3, h4⟩ := h
  have e : goneB s = (⟨s.size, 0, ws.foldl takeB noB⟩, true) := by
    unfold goneB
    rw [all_end_eq (r := ⟨0, 0, noB⟩) (Nat.zero_le _), h4 ⟨0, 0, noB⟩ rfl, end_end (fun e => absurd e.1 (Nat.lt_irrefl 0)) (Nat.lt_irrefl _)]
    rfl
  refine ⟨by rw [e], ?_⟩
  unfold nodesP
  rw [e]
  show (settleB 0 (ws.foldl takeB noB)).nodes = _
  rw [spl_take h3 noB (Or.inl rfl) 0 (by omega)]
  rw [settle_low (b := pushT t noB) (Or.inl rfl)]
  show [] ++ post t 0 = _
  rfl
theorem read_part (h : Rds s 1 0 a' t) (hn : NoSg s 1 a') (hlt : a' < s.size) : (goneB s).2 = false ∧ (goneB s).1.at' = a' := by
  obtain ⟨h1, h2, ws, h3, h4⟩ := h
  have hs : signI (nextB s a') < 0 := by
    rcases hn hlt with h | h
    · exact h
    · have := bindN_ge (3 + signI (nextB s a')); omega
  have e : goneB s = (⟨a', 0, ws.foldl takeB noB⟩, false) := by
    unfold goneB
    rw [all_end_eq (r := ⟨0, 0, noB⟩) (Nat.zero_le _), h4 ⟨0, 0, noB⟩ rfl, end_bad (fun e => absurd e.1 (Nat.lt_irrefl 0)) hlt hs]
  rw [e]
  exact ⟨rfl, rfl⟩
theorem read_not (h : Fls s 0 a') : (goneB s).2 = false ∧ (goneB s).1.at' = a' := by
  obtain ⟨h1, h2, h3⟩ := h
  obtain ⟨o, st, e⟩ := h3 ⟨0, 0, noB⟩ rfl
  have e2 : goneB s = (⟨a', o, st⟩, false) := by
    unfold goneB
    rw [all_end_eq (r := ⟨0, 0, noB⟩) (Nat.zero_le _), e]
  rw [e2]
  exact ⟨rfl, rfl⟩
end
end Go.Proofs.YtpnfmpbgjkhicaeGreatDoor

namespace Go.Proofs.YtpnfmpbgjkhicaeGreatDoor
open Go.ChangeShapes Go.WideShapes Go.ChangeAt Go.RowKit
set_option maxRecDepth 20000

/-- a reader in its block -/
def InV (w : World) (q : Nat) (s : ByteArray) (a : Nat) (bad : Bool) (v : Value) : Prop := w.heap[q]? = some (.cells #[.string s, .int .i64 a, .bool bad, v] 126 (0, 0))
section
variable {w w' : World} {q a : Nat} {s : ByteArray} {bad : Bool} {v : Value}
theorem InV.lt (h : InV w q s a bad v) : q < w.heap.size := (Array.getElem?_eq_some_iff.1 h).1
theorem InV.c0 (h : InV w q s a bad v) : w.cell? ⟨q, 0, none⟩ = some (.string s) := by unfold InV at h; simp [World.cell?, h]
theorem InV.c1 (h : InV w q s a bad v) : w.cell? ⟨q, 1, none⟩ = some (.int .i64 a) := by unfold InV at h; simp [World.cell?, h]
theorem InV.c2 (h : InV w q s a bad v) : w.cell? ⟨q, 2, none⟩ = some (.bool bad) := by unfold InV at h; simp [World.cell?, h]
theorem InV.c3 (h : InV w q s a bad v) : w.cell? ⟨q, 3, none⟩ = some v := by unfold InV at h; simp [World.cell?, h]
theorem InV.fr (h : InV w q s a bad v) (j : Nat) : w.frozen? ⟨q, j, none⟩ = false := by unfold InV at h; simp [World.frozen?, h]
theorem InV.later (h : InV w q s a bad v) (hB : Below w.heap.size w w') : InV w' q s a bad v := (hB.block q h.lt).trans h
theorem InV.same (h : InV w q s a bad v) (hB : w'.heap[q]? = w.heap[q]?) : InV w' q s a bad v := hB.trans h
theorem InV.set1 (h : InV w q s a bad v) (n : Nat) : InV (w.setCell ⟨q, 1, none⟩ (.int .i64 n)) q s n bad v := by
  unfold InV at *
  rw [setCell_eq_setRow w q 1 _ _ (0, 0) _ h, setRow_heap w q _ _ _ _ h]
  rfl
theorem InV.set2 (h : InV w q s a bad v) (b : Bool) : InV (w.setCell ⟨q, 2, none⟩ (.bool b)) q s a b v := by
  unfold InV at *
  rw [setCell_eq_setRow w q 2 _ _ (0, 0) _ h, setRow_heap w q _ _ _ _ h]
  rfl
theorem InV.set3 (h : InV w q s a bad v) (u : Value) : InV (w.setCell ⟨q, 3, none⟩ u) q s a bad u := by
  unfold InV at *
  rw [setCell_eq_setRow w q 3 _ _ (0, 0) _ h, setRow_heap w q _ _ _ _ h]
  rfl
end
theorem next_small (s : ByteArray) (a : Nat) : 0 ≤ nextB s a ∧ nextB s a ≤ 255 := by
  unfold nextB
  split
  · omega
  · unfold byteN
    cases h : s.data.toList[a]? with
    | none => simp [List.getD, h]
    | some c => simp [List.getD, h]; have := c.toNat_lt; omega

set_option maxHeartbeats 1000000 in
theorem in_bad (q a : Nat) (s : ByteArray) (v : Value) (lo hi : Int) (w : World) (hI : InV w q s a true v) : Calls Tryz.prog 158 #[.pointer (some ⟨q, 0, none⟩), .int .u8 lo, .int .u8 hi] w fun e w' => e = .returned (.bool false) ∧ Below w.heap.size w w' := by
  have c0 := hI.c0
  have c1 := hI.c1
  have c2 := hI.c2
  have hq := hI.lt
  clear hI
  go_enter Tryz.func158, Tryz.ntmps158
  go_wp2_with fail
  go_quiet (fail)
  go_wp2_with fail
  go_ret
  exact ⟨rfl, below_drewN (Below.refl _ _) _⟩
set_option maxHeartbeats 1000000 in
theorem in_any (q a : Nat) (s : ByteArray) (v : Value) (lo hi : Int) (w : World) (hl : 0 < lo) (ha : a ≤ s.size) (hI : InV w q s a false v) : Calls Tryz.prog 158 #[.pointer (some ⟨q, 0, none⟩), .int .u8 lo, .int .u8 hi] w fun e w' => e = .returned (.bool (decide (lo ≤ nextB s a) && decide (nextB s a ≤ hi))) ∧ Below w.heap.size w w' := by
  have c0 := hI.c0
  have c1 := hI.c1
  have c2 := hI.c2
  have hq := hI.lt
  clear hI
  by_cases he : a = s.size
  · subst he
    have h0 : nextB s s.size = 0 := by simp [nextB]
    rw [h0, decide_eq_false (by omega), Bool.false_and]
    go_enter Tryz.func158, Tryz.ntmps158
    go_wp2_with fail
    go_quiet (fail)
    go_wp2_with fail
    go_ret
    exact ⟨rfl, below_drewN (Below.refl _ _) _⟩
  · have hlt : a < s.size := by omega
    have hai : (a : Int) < (s.size : Int) := by omega
    have h0 : nextB s a = byteN s a := by simp [nextB, he]
    have hby := byteN_get s a hlt
    rw [h0]
    by_cases h1 : lo ≤ byteN s a
    · rw [decide_eq_true h1, Bool.true_and]
      go_enter Tryz.func158, Tryz.ntmps158
      go_wp2_with fail
      go_quiet (fail)
      go_wp2_with fail
      go_ret
      exact ⟨by first | rfl | simp, below_drewN (Below.refl _ _) _⟩
    · rw [decide_eq_false h1, Bool.false_and]
      have h1' : byteN s a < lo := by omega
      have hd1 : decide (lo ≤ byteN s a) = false := decide_eq_false h1
      have hd2 : decide (byteN s a < lo) = true := decide_eq_true h1'
      clear h1
      go_enter Tryz.func158, Tryz.ntmps158
      go_wp2_with fail
      go_quiet (fail)
      go_wp2_with fail
      go_ret
      exact ⟨rfl, below_drewN (Below.refl _ _) _⟩
theorem rank_any (op : Int) (w : World) : Calls Tryz.prog 118 #[.int .i64 op] w fun e w' => e = .returned (.int .i64 (bindN op)) ∧ Below w.heap.size w w' := by
  unfold bindN
  by_cases h3 : op = 3
  · subst h3
    go_enter Tryz.func118, Tryz.ntmps118
    go_wp2
    go_ret
    exact ⟨by simp, by go_grown⟩
  by_cases h4 : op = 4
  · subst h4
    go_enter Tryz.func118, Tryz.ntmps118
    go_wp2
    go_ret
    exact ⟨by simp, by go_grown⟩
  by_cases h5 : op = 5
  · subst h5
    go_enter Tryz.func118, Tryz.ntmps118
    go_wp2
    go_ret
    exact ⟨by simp, by go_grown⟩
  by_cases h6 : op = 6
  · subst h6
    go_enter Tryz.func118, Tryz.ntmps118
    go_wp2
    go_ret
    exact ⟨by simp, by go_grown⟩
  rw [if_neg (by omega), if_neg (by omega)]
  have e3 : (op == 3) = false := by simpa using h3
  have e4 : (op == 4) = false := by simpa using h4
  have e5 : (op == 5) = false := by simpa using h5
  have e6 : (op == 6) = false := by simpa using h6
  clear h3 h4 h5 h6
  go_enter Tryz.func118, Tryz.ntmps118
  go_wp2
  go_ret
  exact ⟨rfl, by go_grown⟩
end Go.Proofs.YtpnfmpbgjkhicaeGreatDoor

namespace Go.Proofs.YtpnfmpbgjkhicaeGreatDoor

/-- the tree of a node -/
def trF (l : List Nd) : Nat → Nat → Tre
  | 0, _ => .num 0
  | f + 1, i => if (l.getD i noN).op = 1 then .num (l.getD i noN).n else if (l.getD i noN).op = 2 then .ref (l.getD i noN).name else .bin (l.getD i noN).op (trF l f (l.getD i noN).left.toNat) (trF l f (l.getD i noN).right.toNat)
def treeOf (l : List Nd) (i : Nat) : Tre := trF l (i + 1) i
/-- all nodes of a list are right by themselves -/
def RightL (l : List Nd) : Prop := ∀ j, j < l.length → ndErr (l.getD j noN) j = 0
theorem op_range {x : Nd} {i : Nat} (h : ndErr x i = 0) : 1 ≤ x.op ∧ x.op ≤ 6 := by
  unfold ndErr at h
  split at h
  · cases h
  · omega
theorem trF_fuel {l : List Nd} (hl : RightL l) : ∀ (f g i : Nat), i < l.length → i < f → i < g → trF l f i = trF l g i
  | 0, _, _, _, h, _ => by omega
  | _ + 1, 0, _, _, _, h => by omega
  | f + 1, g + 1, i, hi, hf, hg => by
    rw [trF, trF]
    by_cases h1 : (l.getD i noN).op = 1
    · rw [if_pos h1, if_pos h1]
    rw [if_neg h1, if_neg h1]
    by_cases h2 : (l.getD i noN).op = 2
    · rw [if_pos h2, if_pos h2]
    rw [if_neg h2, if_neg h2]
    have ho := op_range (hl i hi)
    obtain ⟨a1, a2, a3, a4⟩ := nd_sides (hl i hi) (by omega)
    rw [trF_fuel hl f g _ (by omega) (by omega) (by omega), trF_fuel hl f g (l.getD i noN).right.toNat (by omega) (by omega) (by omega)]
section
variable {l : List Nd} {i : Nat}
theorem tree_num (h : (l.getD i noN).op = 1) : treeOf l i = .num (l.getD i noN).n := by unfold treeOf; rw [trF, if_pos h]
theorem tree_ref (h : (l.getD i noN).op = 2) : treeOf l i = .ref (l.getD i noN).name := by unfold treeOf; rw [trF, if_neg (by omega), if_pos h]
theorem tree_bin (hl : RightL l) (hi : i < l.length) (h : 2 < (l.getD i noN).op) : treeOf l i = .bin (l.getD i noN).op (treeOf l (l.getD i noN).left.toNat) (treeOf l (l.getD i noN).right.toNat) := by
  obtain ⟨a1, a2, a3, a4⟩ := nd_sides (hl i hi) h
  unfold treeOf
  rw [trF, if_neg (by omega), if_neg (by omega), trF_fuel hl i _ _ (by omega) (by omega) (Nat.lt_succ_self _), trF_fuel hl i _ (l.getD i noN).right.toNat (by omega) (by omega) (Nat.lt_succ_self _)]
theorem bind_tree (hl : RightL l) (hi : i < l.length) : bindT (treeOf l i) = bindN (l.getD i noN).op := by
  have ho := op_range (hl i hi)
  by_cases h1 : (l.getD i noN).op = 1
  · rw [tree_num h1, h1]; rfl
  by_cases h2 : (l.getD i noN).op = 2
  · rw [tree_ref h2, h2]; rfl
  · rw [tree_bin hl hi (by omega)]; rfl
end
theorem ok_tree {l : List Nd} (hl : RightL l) : ∀ i, i < l.length → okT (treeOf l i) := by
  intro i
  induction i using Nat.strongRecOn with
  | _ i ih =>
    intro hi
    have hg := hl i hi
    have ho := op_range hg
    by_cases h1 : (l.getD i noN).op = 1
    · rw [tree_num h1]
      unfold ndErr at hg
      rw [if_neg (by omega), if_pos h1] at hg
      split at hg
      · cases hg
      · show 0 ≤ _ ∧ _ ≤ (1000000 : Int); omega
    by_cases h2 : (l.getD i noN).op = 2
    · rw [tree_ref h2]
      unfold ndErr at hg
      rw [if_neg (by omega), if_neg h1, if_pos h2] at hg
      split at hg
      · cases hg
      · rename_i h; show nameErr _ = 0; simpa using h
    · obtain ⟨a1, a2, a3, a4⟩ := nd_sides hg (by omega)
      rw [tree_bin hl hi (by omega)]
      exact ⟨by omega, ih _ (by omega) (by omega), ih _ (by omega) (by omega)⟩
theorem byte_ext3 {l : List UInt8} {b : ByteArray} (h : l = b.data.toList) : (⟨l.toArray⟩ : ByteArray) = b := by
  apply ByteArray.ext
  apply Array.toList_inj.1
  rw [h]
theorem tre_num (n : Int) : treT (.num n) = numB n := by
  apply byte_ext3
  show bytesOf [numB n] = _
  rw [bytes_one]
theorem tre_ref (s : ByteArray) : treT (.ref s) = s := by
  apply byte_ext3
  show bytesOf [s] = _
  rw [bytes_one]
theorem tre_bin (o : Int) (a b : Tre) : treT (.bin o a b) = brk (treT a) (decide (bindT a < bindN o)) ++ sgnT o ++ brk (treT b) (decide (bindT b ≤ bindN o)) := by
  have hbr : ∀ (t : Tre) (c : Bool), (brk (treT t) c).data.toList = bytesOf (brkL (tokT t) c) := by
    intro t c
    cases c
    · simp [brk, brkL, treT, txtL]
    · show ((⟨#[40]⟩ ++ treT t ++ ⟨#[41]⟩ : ByteArray)).data.toList = bytesOf ([ByteArray.mk #[40]] ++ tokT t ++ [ByteArray.mk #[41]])
      rw [bytes_app, bytes_app, bytes_one, bytes_one]
      simp [treT, txtL]
  apply byte_ext3
  rw [ByteArray.data_append, ByteArray.data_append, Array.toList_append, Array.toList_append, hbr, hbr]
  show bytesOf (brkL (tokT a) (decide (bindT a < bindN o)) ++ [sgnT o] ++ brkL (tokT b) (decide (bindT b ≤ bindN o))) = _
  rw [bytes_app, bytes_app, bytes_one]
/-- what is written of the nodes ahead -/
theorem texts_tree {l : List Nd} (hl : RightL l) : ∀ k, k ≤ l.length → ∀ j, j < k → (textsTo l k).getD j noT = treT (treeOf l j)
  | 0, _, j, h => by omega
  | k + 1, hk, j, hj => by
    have ih := texts_tree hl k (by omega)
    rw [textsTo, List.getD_eq_getElem?_getD, List.getElem?_set]
    by_cases e : k = j
    · subst e
      rw [if_pos rfl, if_pos (by rw [texts_len]; omega)]
      simp only [Option.getD_some]
      have ho := op_range (hl k (by omega))
      by_cases h1 : (l.getD k noN).op = 1
      · rw [txt_num h1, tree_num h1, tre_num]; rfl
      by_cases h2 : (l.getD k noN).op = 2
      · rw [txt_ref h2, tree_ref h2, tre_ref]
      · obtain ⟨a1, a2, a3, a4⟩ := nd_sides (hl k (by omega)) (by omega)
        rw [txt_op (a := (l.getD k noN).left.toNat) (c := (l.getD k noN).right.toNat) (by omega) (by omega) (by omega), tree_bin hl (by omega) (by omega), tre_bin, ih _ (by omega), ih _ (by omega), bind_tree hl (by omega), bind_tree hl (by omega)]
    · rw [if_neg e, ← List.getD_eq_getElem?_getD]
      exact ih j (by omega)
theorem print_tree {l : List Nd} (h : formErr l = 0) : printT l = treT (treeOf l (l.length - 1)) := by
  obtain ⟨h1, h2, h3, -⟩ := form_right h
  unfold printT
  rw [if_pos h]
  exact texts_tree h3 l.length (Nat.le_refl _) _ (by omega)
end Go.Proofs.YtpnfmpbgjkhicaeGreatDoor

namespace Go.Proofs.YtpnfmpbgjkhicaeGreatDoor

/-- a tree whose nodes stand in a list -/
theorem tree_in {L : List Nd} : ∀ (t : Tre) (k f : Nat), okT t → (∀ j, j < sizT t → L.getD (k + j) noN = (post t k).getD j noN) → sizT t ≤ f → trF L f (k + sizT t - 1) = t
  | .num n, k, f, _, h, hf => by
    obtain ⟨g, rfl⟩ : ∃ g, f = g + 1 := ⟨f - 1, by have : sizT (.num n) = 1 := rfl; omega⟩
    have h0 := h 0 (by show 0 < 1; omega)
    show trF L (g + 1) k = _
    rw [Nat.add_zero] at h0
    have e : L.getD k noN = ⟨1, n, noT, 0, 0⟩ := h0
    rw [trF, if_pos (by rw [e]), e]
  | .ref s, k, f, _, h, hf => by
    obtain ⟨g, rfl⟩ : ∃ g, f = g + 1 := ⟨f - 1, by have : sizT (.ref s) = 1 := rfl; omega⟩
    have h0 := h 0 (by show 0 < 1; omega)
    show trF L (g + 1) k = _
    rw [Nat.add_zero] at h0
    have e : L.getD k noN = ⟨2, 0, s, 0, 0⟩ := h0
    rw [trF, if_neg (by rw [e]; show ¬ (2 : Int) = 1; omega), if_pos (by rw [e]), e]
  | .bin o a b, k, f, ⟨ho, ha, hb⟩, h, hf => by
    have hs : sizT (.bin o a b) = sizT a + sizT b + 1 := rfl
    have la := post_len a k
    have lb := post_len b (k + sizT a)
    have pa := siz_pos a
    have pb := siz_pos b
    obtain ⟨g, rfl⟩ : ∃ g, f = g + 1 := ⟨f - 1, by omega⟩
    have hp : post (.bin o a b) k = post a k ++ post b (k + sizT a) ++ [⟨o, 0, noT, ((k + sizT a - 1 : Nat) : Int), ((k + sizT a + sizT b - 1 : Nat) : Int)⟩] := rfl
    have e : L.getD (k + (sizT a + sizT b)) noN = ⟨o, 0, noT, ((k + sizT a - 1 : Nat) : Int), ((k + sizT a + sizT b - 1 : Nat) : Int)⟩ := by
      rw [h _ (by omega), hp, List.getD_eq_getElem?_getD, List.getElem?_append_right (by simp [la, lb])]
      simp [la, lb]
    have ia := tree_in (L := L) a k g ha (fun j hj => by
      rw [h j (by omega), hp, List.append_assoc, List.getD_eq_getElem?_getD, List.getElem?_append_left (by omega), ← List.getD_eq_getElem?_getD]) (by omega)
    have ib := tree_in (L := L) b (k + sizT a) g hb (fun j hj => by
      rw [Nat.add_assoc, h (sizT a + j) (by omega), hp, List.getD_eq_getElem?_getD, List.getElem?_append_left (by simp [la, lb]; omega), List.getElem?_append_right (by omega), ← List.getD_eq_getElem?_getD, la, Nat.add_sub_cancel_left]) (by omega)
    rw [hs, show k + (sizT a + sizT b + 1) - 1 = k + (sizT a + sizT b) by omega, trF, e]
    simp only
    rw [if_neg (by omega), if_neg (by omega), Int.toNat_natCast, Int.toNat_natCast, ia, ib]
theorem tree_post (t : Tre) (h : okT t) : treeOf (post t 0) ((post t 0).length - 1) = t := by
  have hl := post_len t 0
  have hp := siz_pos t
  unfold treeOf
  have e := tree_in (L := post t 0) t 0 (sizT t) h (fun j _ => by rw [Nat.zero_add]) (Nat.le_refl _)
  rw [Nat.zero_add] at e
  rw [hl, show sizT t - 1 + 1 = sizT t by omega]
  exact e
theorem noT_nil : noT.toList = [] := by rw [toL_nil]; rfl
theorem post_right : ∀ (t : Tre) (k j : Nat), okT t → j < sizT t → ndErr ((post t k).getD j noN) (k + j) = 0
  | .num n, k, j, h, hj => by
    have hj0 : j = 0 := by have : sizT (.num n) = 1 := rfl; omega
    subst hj0
    show ndErr ⟨1, n, noT, 0, 0⟩ _ = 0
    rw [nd1 h.1 h.2, if_pos ⟨noT_nil, rfl, rfl⟩]
  | .ref s, k, j, h, hj => by
    have hj0 : j = 0 := by have : sizT (.ref s) = 1 := rfl; omega
    subst hj0
    show ndErr ⟨2, 0, s, 0, 0⟩ _ = 0
    rw [nd2 h, if_pos ⟨rfl, rfl, rfl⟩]
  | .bin o a b, k, j, ⟨ho, ha, hb⟩, hj => by
    have hs : sizT (.bin o a b) = sizT a + sizT b + 1 := rfl
    have la := post_len a k
    have lb := post_len b (k + sizT a)
    have pa := siz_pos a
    have pb := siz_pos b
    have hp : post (.bin o a b) k = post a k ++ post b (k + sizT a) ++ [⟨o, 0, noT, ((k + sizT a - 1 : Nat) : Int), ((k + sizT a + sizT b - 1 : Nat) : Int)⟩] := rfl
    rw [hp]
    by_cases h1 : j < sizT a
    · rw [List.append_assoc, List.getD_eq_getElem?_getD, List.getElem?_append_left (by omega), ← List.getD_eq_getElem?_getD]
      exact post_right a k j ha h1
    by_cases h2 : j < sizT a + sizT b
    · rw [List.getD_eq_getElem?_getD, List.getElem?_append_left (by simp [la, lb]; omega), List.getElem?_append_right (by omega), ← List.getD_eq_getElem?_getD, la]
      have := post_right b (k + sizT a) (j - sizT a) hb (by omega)
      rw [show k + sizT a + (j - sizT a) = k + j by omega] at this
      exact this
    · have hj2 : j = sizT a + sizT b := by omega
      subst hj2
      rw [List.getD_eq_getElem?_getD, List.getElem?_append_right (by simp [la, lb])]
      simp only [List.length_append, la, lb, Nat.sub_self, List.getElem?_cons_zero, Option.getD_some]
      have ha2 : anyL (outI (k + (sizT a + sizT b))) [((k + sizT a - 1 : Nat) : Int), ((k + sizT a + sizT b - 1 : Nat) : Int)] = false := by
        simp [anyL, outI]
        omega
      rw [nd3 ho.1 ho.2 ha2, if_pos ⟨rfl, noT_nil⟩]
/-- how often nodes use a place -/
def usesSum (L : List Nd) (m : Nat) : Nat := (L.map fun x => uses x m).sum
theorem usedTo_sum (l : List Nd) (m : Nat) : ∀ k, k ≤ l.length → usedTo l k m = usesSum (l.take k) m
  | 0, _ => rfl
  | k + 1, hk => by
    rw [take_snoc l (by omega)]
    show usedTo l k m + uses (l.getD k noN) m = _
    rw [usedTo_sum l m k (by omega)]
    simp [usesSum]
theorem uses_post : ∀ (t : Tre) (k m : Nat), okT t → usesSum (post t k) m = if k ≤ m ∧ m + 1 < k + sizT t then 1 else 0
  | .num n, k, m, _ => by
    have hs : sizT (.num n) = 1 := rfl
    rw [if_neg (by omega)]
    rfl
  | .ref s, k, m, _ => by
    have hs : sizT (.ref s) = 1 := rfl
    rw [if_neg (by omega)]
    rfl
  | .bin o a b, k, m, ⟨ho, ha, hb⟩ => by
    have hs : sizT (.bin o a b) = sizT a + sizT b + 1 := rfl
    have pa := siz_pos a
    have pb := siz_pos b
    have e : usesSum (post (.bin o a b) k) m = usesSum (post a k) m + usesSum (post b (k + sizT a)) m + uses ⟨o, 0, noT, ((k + sizT a - 1 : Nat) : Int), ((k + sizT a + sizT b - 1 : Nat) : Int)⟩ m := by
      simp [usesSum, post]
      omega
    have eu : uses ⟨o, 0, noT, ((k + sizT a - 1 : Nat) : Int), ((k + sizT a + sizT b - 1 : Nat) : Int)⟩ m = (if ((k + sizT a - 1 : Nat) : Int) = (m : Int) then 1 else 0) + (if ((k + sizT a + sizT b - 1 : Nat) : Int) = (m : Int) then 1 else 0) := by
      unfold uses
      exact if_pos (show 2 < o by omega)
    rw [e, eu, uses_post a k m ha, uses_post b (k + sizT a) m hb, hs]
    have c1 : (((k + sizT a - 1 : Nat) : Int) = (m : Int)) ↔ k + sizT a - 1 = m := by omega
    have c2 : (((k + sizT a + sizT b - 1 : Nat) : Int) = (m : Int)) ↔ k + sizT a + sizT b - 1 = m := by omega
    simp only [c1, c2]
    (repeat' split) <;> omega
theorem form_post (t : Tre) (h : okT t) (h30 : sizT t ≤ 30) : formErr (post t 0) = 0 := by
  have hl := post_len t 0
  have hp := siz_pos t
  refine form_good (by omega) (by omega) (fun j hj => ?_) (fun j hj => ?_)
  · unfold badN
    have := post_right t 0 j h (by omega)
    rw [Nat.zero_add] at this
    rw [this]
    rfl
  · unfold oddN
    rw [usedTo_sum _ _ _ (Nat.le_refl _), List.take_length, uses_post t 0 j h, if_pos (by omega)]
    rfl

/-! how many nodes a tree has -/
def sumN (f : Nat → Nat) : Nat → Nat
  | 0 => 0
  | n + 1 => sumN f n + f n
theorem sum_same {f g : Nat → Nat} : ∀ n, (∀ i, i < n → f i = g i) → sumN f n = sumN g n
  | 0, _ => rfl
  | n + 1, h => by rw [sumN, sumN, sum_same n (fun i hi => h i (by omega)), h n (by omega)]
theorem sum_drop {f : Nat → Nat} {a : Nat} : ∀ n, a < n → sumN (fun i => if i = a then 0 else f i) n + f a = sumN f n
  | 0, h => by omega
  | n + 1, h => by
    by_cases e : a = n
    · subst e
      rw [sumN, sumN, if_pos rfl, sum_same a (g := f) (fun i hi => if_neg (by omega))]
      omega
    · rw [sumN, sumN, if_neg (by omega)]
      have := sum_drop (f := f) n (by omega : a < n)
      omega
theorem used_none {l : List Nd} (hl : RightL l) : ∀ k j, k ≤ l.length → k ≤ j + 1 → usedTo l k j = 0
  | 0, _, _, _ => rfl
  | k + 1, j, hk, hj => by
    show usedTo l k j + uses (l.getD k noN) j = 0
    rw [used_none hl k j (by omega) (by omega)]
    unfold uses
    split
    · rename_i h
      have := nd_sides (hl k (by omega)) h
      rw [if_neg (by omega), if_neg (by omega)]
    · rfl
theorem used_mono (l : List Nd) (j : Nat) : ∀ k m, k ≤ m → usedTo l k j ≤ usedTo l m j := by
  intro k m h
  induction m with
  | zero => have : k = 0 := by omega
            subst this; exact Nat.le_refl _
  | succ m ih =>
    by_cases e : k = m + 1
    · subst e; exact Nat.le_refl _
    · have := ih (by omega)
      show _ ≤ usedTo l m j + uses (l.getD m noN) j
      omega
theorem open_sum {l : List Nd} (hl : RightL l) (hu : ∀ j, j < l.length - 1 → usedTo l l.length j = 1) : ∀ k, k ≤ l.length → sumN (fun i => if usedTo l k i = 0 then sizT (treeOf l i) else 0) k = k
  | 0, _ => rfl
  | k + 1, hk => by
    have ih := open_sum hl hu k (by omega)
    have hnew : usedTo l (k + 1) k = 0 := used_none hl (k + 1) k hk (Nat.le_refl _)
    have ho := op_range (hl k (by omega))
    rw [sumN, if_pos hnew]
    by_cases h2 : (l.getD k noN).op ≤ 2
    · have hz : ∀ i, uses (l.getD k noN) i = 0 := fun i => by unfold uses; rw [if_neg (by omega)]
      have e : sumN (fun i => if usedTo l (k + 1) i = 0 then sizT (treeOf l i) else 0) k = sumN (fun i => if usedTo l k i = 0 then sizT (treeOf l i) else 0) k := by
        refine sum_same k fun i _ => ?_
        have : usedTo l (k + 1) i = usedTo l k i := by
          show usedTo l k i + uses (l.getD k noN) i = _
          rw [hz]; rfl
        simp only [this]
      have hs : sizT (treeOf l k) = 1 := by
        by_cases h1 : (l.getD k noN).op = 1
        · rw [tree_num h1]; rfl
        · rw [tree_ref (by omega)]; rfl
      omega
    · obtain ⟨a1, a2, a3, a4⟩ := nd_sides (hl k (by omega)) (by omega)
      obtain ⟨a, ha⟩ : ∃ a : Nat, (l.getD k noN).left = a := ⟨(l.getD k noN).left.toNat, by omega⟩
      obtain ⟨c, hc⟩ : ∃ c : Nat, (l.getD k noN).right = c := ⟨(l.getD k noN).right.toNat, by omega⟩
      have hus : ∀ i, usedTo l (k + 1) i = usedTo l k i + ((if a = i then 1 else 0) + (if c = i then 1 else 0)) := fun i => by
        show usedTo l k i + uses (l.getD k noN) i = _
        unfold uses
        rw [if_pos (by omega), ha, hc]
        have c1 : ((a : Int) = (i : Int)) ↔ a = i := by omega
        have c2 : ((c : Int) = (i : Int)) ↔ c = i := by omega
        simp only [c1, c2]
      have hmax : ∀ i, i < k → usedTo l (k + 1) i ≤ 1 := fun i hi => by
        have := used_mono l i (k + 1) l.length hk
        have := hu i (by omega)
        omega
      have hac : a ≠ c := fun e => by
        have h1 := hmax a (by omega)
        rw [hus a, if_pos rfl, if_pos e.symm] at h1
        omega
      have ua : usedTo l k a = 0 := by
        have h1 := hmax a (by omega)
        rw [hus a, if_pos rfl] at h1
        omega
      have uc : usedTo l k c = 0 := by
        have h1 := hmax c (by omega)
        rw [hus c, if_neg hac, if_pos rfl] at h1
        omega
      have hs : sizT (treeOf l k) = sizT (treeOf l a) + sizT (treeOf l c) + 1 := by
        rw [tree_bin hl (by omega) (by omega), ha, hc]
        rfl
      have d1 := sum_drop (f := fun i => if usedTo l k i = 0 then sizT (treeOf l i) else 0) (a := a) k (by omega)
      have d2 := sum_drop (f := fun i => if i = a then 0 else if usedTo l k i = 0 then sizT (treeOf l i) else 0) (a := c) k (by omega)
      simp only [if_pos ua] at d1
      simp only [if_neg (fun e : c = a => hac e.symm), if_pos uc] at d2
      have e : sumN (fun i => if usedTo l (k + 1) i = 0 then sizT (treeOf l i) else 0) k = sumN (fun i => if i = c then 0 else if i = a then 0 else if usedTo l k i = 0 then sizT (treeOf l i) else 0) k := by
        refine sum_same k fun i hi => ?_
        rw [hus i]
        by_cases e1 : i = c
        · subst e1
          rw [if_pos rfl, if_pos rfl, if_neg (by omega)]
        · by_cases e2 : i = a
          · subst e2
            rw [if_neg e1, if_pos rfl, if_pos rfl, if_neg (by omega)]
          · have e3 : usedTo l k i + ((if a = i then 1 else 0) + (if c = i then 1 else 0)) = usedTo l k i := by
              have x1 : (if a = i then 1 else 0) = 0 := if_neg (fun e => e2 e.symm)
              have x2 : (if c = i then 1 else 0) = 0 := if_neg (fun e => e1 e.symm)
              rw [x1, x2]; omega
            rw [e3, if_neg e1, if_neg e2]
      omega
theorem sum_last {f : Nat → Nat} : ∀ n, (∀ i, i < n → f i = 0) → sumN f (n + 1) = f n := by
  intro n h
  rw [sumN, sum_same n (g := fun _ => 0) h]
  have : ∀ m, sumN (fun _ => 0) m = 0 := by
    intro m
    induction m with
    | zero => rfl
    | succ m ih => rw [sumN, ih]
  rw [this]
  omega
/-- the tree of a formula that is right has all its nodes -/
theorem siz_tree {l : List Nd} (h : formErr l = 0) : sizT (treeOf l (l.length - 1)) = l.length := by
  obtain ⟨h1, h2, h3, h4⟩ := form_right h
  have hs := open_sum h3 h4 l.length (Nat.le_refl _)
  have hz := used_last h3 l.length (Nat.le_refl _)
  obtain ⟨n, hn⟩ : ∃ n, l.length = n + 1 := ⟨l.length - 1, by omega⟩
  rw [hn] at hs hz h4 ⊢
  rw [sum_last n (fun i hi => by rw [if_neg (by rw [h4 i (by omega)]; decide)])] at hs
  simp only [Nat.add_sub_cancel] at hz h4 ⊢
  rw [if_pos hz] at hs
  exact hs
/-- written and read again: nodes that are right, of the same tree, written the same -/
theorem back_print {l : List Nd} (h : formErr l = 0) (hs : (printT l).size ≤ 100) : prsE (printT l) = 0 ∧ prsL (printT l) = post (treeOf l (l.length - 1)) 0 ∧ formErr (prsL (printT l)) = 0 ∧ printT (prsL (printT l)) = printT l := by
  obtain ⟨h1, h2, h3, h4⟩ := form_right h
  have hk := ok_tree h3 (l.length - 1) (by omega)
  have hz := siz_tree h
  have hp := print_tree h
  obtain ⟨g1, g2⟩ := gone_tree _ hk
  have hf := form_post _ hk (by omega)
  have hE : prsE (printT l) = 0 := by
    unfold prsE
    rw [if_neg (by omega), hp, if_pos g1, g2]
    exact hf
  have hL : prsL (printT l) = post (treeOf l (l.length - 1)) 0 := by
    unfold prsL
    rw [if_pos hE, hp, g2]
  refine ⟨hE, hL, by rw [hL]; exact hf, ?_⟩
  rw [hL, print_tree hf, tree_post _ hk, hp]
end Go.Proofs.YtpnfmpbgjkhicaeGreatDoor
