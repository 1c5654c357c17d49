/-
  What was written, on plain data: places in order, entries that rise, what stands at a place, with a number there, without; that what is written is there, and all else as it was.
  Entries and edits that lie in memory, and what is read of arguments that are lists of them.
  Places compared, entries found and entries checked, step by step as the program does it: on plain data.
-/
import Derived.Test.YtfngmnhkhfgmjacDoorJIAR
namespace Go.Proofs.YtfngmnhkhfgmjacDoor
def lessL : List Int → List Int → Bool
 | [], [] => false
 | [], _ :: _ => true
 | _ :: _, [] => false
 | a :: r, b :: t => if a = b then lessL r t else decide (a < b)
theorem lessL_self (a : List Int) : lessL a a = false := by
 induction a with
 | nil => rfl
 | cons x r ih => simp [lessL, ih]
theorem lessL_trans : ∀ (a b c : List Int), lessL a b = true → lessL b c = true → lessL a c = true
 | [], [], _, h, _ => by simp [lessL] at h
 | [], _ :: _, [], _, h => by simp [lessL] at h
 | [], _ :: _, _ :: _, _, _ => rfl
 | _ :: _, [], _, h, _ => by simp [lessL] at h
 | _ :: _, _ :: _, [], _, h => by simp [lessL] at h
 | x :: r, y :: t, z :: u, h1, h2 => by
  simp only [lessL] at h1 h2 ⊢
  by_cases e1 : x = y
  ·by_cases e2 : y = z
   ·rw [if_pos e1] at h1
    rw [if_pos e2] at h2
    rw [if_pos (e1.trans e2)]
    exact lessL_trans r t u h1 h2
   ·rw [if_neg e2] at h2
    rw [if_neg (by rw [e1]; exact e2), e1]
    exact h2
  ·rw [if_neg e1] at h1
   have h3 := of_decide_eq_true h1
   by_cases e2 : y = z
   ·rw [if_neg (by rw [← e2]; exact e1), ← e2]
    exact h1
   ·rw [if_neg e2] at h2
    have h4 := of_decide_eq_true h2
    rw [if_neg (by omega)]
    exact decide_eq_true (by omega)
theorem lessL_total : ∀ (a b : List Int), a ≠ b → lessL a b = true ∨ lessL b a = true
 | [], [], h => absurd rfl h
 | [], _ :: _, _ => Or.inl rfl
 | _ :: _, [], _ => Or.inr rfl
 | x :: r, y :: t, h => by
  simp only [lessL]
  by_cases e : x = y
  ·rw [if_pos e, if_pos e.symm]
   exact lessL_total r t fun h1 => h (by rw [e, h1])
  ·rw [if_neg e, if_neg fun h1 => e h1.symm]
   rcases Int.lt_or_gt_of_ne e with h1 | h1
   ·exact Or.inl (decide_eq_true h1)
   ·exact Or.inr (decide_eq_true h1)
theorem lessL_ne {a b : List Int} (h : lessL a b = true) : a ≠ b := fun e => by rw [e, lessL_self] at h; cases h
theorem lessL_eq {a b : List Int} (h1 : lessL a b = false) (h2 : lessL b a = false) : a = b :=
 Decidable.byContradiction fun e => by
  rcases lessL_total a b e with h | h
  ·rw [h] at h1; cases h1
  ·rw [h] at h2; cases h2
theorem lessL_part : ∀ (a b : List Int), a.length = b.length → lessL a b = true → ∃ j, j < a.length ∧ (∀ i, i < j → a.getD i 0 = b.getD i 0) ∧ a.getD j 0 < b.getD j 0
 | [], [], _, h => by simp [lessL] at h
 | [], _ :: _, h, _ => by simp at h
 | _ :: _, [], h, _ => by simp at h
 | x :: r, y :: t, hl, h => by
  simp only [lessL] at h
  by_cases e : x = y
  ·rw [if_pos e] at h
   obtain ⟨j, h1, h2, h3⟩ := lessL_part r t (by simpa using hl) h
   refine ⟨j + 1, by simpa using h1, fun i hi => ?_, by simpa using h3⟩
   cases i with
   | zero => simpa using e
   | succ i => simpa using h2 i (by omega)
  ·rw [if_neg e] at h
   exact ⟨0, by simp, fun i hi => by omega, by simpa using of_decide_eq_true h⟩
theorem less_num {D : Nat → Dm} {n : Nat} {a b : List Int} (ha : InO D n a) (hb : InO D n b) (h : lessL a b = true) : numI D a n < numI D b n := by
 obtain ⟨j, hj, he, hlt⟩ := lessL_part a b (by rw [ha.len, hb.len]) h
 rw [ha.len] at hj
 have h1 : ∀ k, k ≤ j → numI D a k = numI D b k := by
  intro k
  induction k with
  | zero => intro _; rfl
  | succ k ih => intro hk; rw [numI, numI, ih (by omega), he k (by omega)]
 have h2 : ∀ k, j < k → k ≤ n → numI D a k + 1 ≤ numI D b k := by
  intro k
  induction k with
  | zero => intro h; omega
  | succ k ih =>
   intro hjk hk
   rw [numI, numI]
   have a2 := ha.hi k (by omega)
   have b1 := hb.lo k (by omega)
   by_cases e : k = j
   ·rw [h1 k (by omega), e]; omega
   ·have h3 := ih (by omega) (by omega)
    have h4 : (numI D a k + 1) * ((D k).n : Int) ≤ numI D b k * ((D k).n : Int) := Int.mul_le_mul_of_nonneg_right h3 (by omega)
    rw [Int.add_mul, Int.one_mul] at h4
    omega
 exact h2 n hj (Nat.le_refl _)
structure En where
 pl : List Int
 n : Int
def numOk (x : Int) : Bool := decide (-1000000 ≤ x) && decide (x ≤ 1000000)
def entOne (D : Nat → Dm) (n : Nat) (e : En) : Int := if shapeErr D n e.pl ≠ 0 then shapeErr D n e.pl else if leafV D n e.pl = false then 6 else if numOk e.n = false then 1 else 0
def aheadOk : Option (List Int) → List Int → Bool
 | none, _ => true
 | some a, b => lessL a b
def entFrom (D : Nat → Dm) (n : Nat) : Option (List Int) → List En → Int
 | _, [] => 0
 | q, e :: r => if entOne D n e ≠ 0 then entOne D n e else if aheadOk q e.pl = true then entFrom D n (some e.pl) r else 7
def entsErr (D : Nat → Dm) (n : Nat) (l : List En) : Int := if (allErr D n).2.2 ≠ 0 then (allErr D n).2.2 else entFrom D n none l
structure Ens (D : Nat → Dm) (n : Nat) (l : List En) : Prop where
 right : (allErr D n).2.2 = 0
 each : ∀ e ∈ l, InO D n e.pl ∧ leafV D n e.pl = true ∧ numOk e.n = true
 rise : l.Pairwise fun a b => lessL a.pl b.pl = true
theorem entOne_right {D : Nat → Dm} {n : Nat} {e : En} (hR : (allErr D n).2.2 = 0) (h : entOne D n e = 0) : InO D n e.pl ∧ leafV D n e.pl = true ∧ numOk e.n = true := by
 unfold entOne at h
 split at h
 ·rename_i h1; exact absurd h h1
 ·split at h
  ·cases h
  ·split at h
   ·cases h
   ·rename_i h1 h2 h3
    exact ⟨inO_of (by rw [pe1 hR]; simpa using h1), by simpa using h2, by simpa using h3⟩
theorem entFrom_right {D : Nat → Dm} {n : Nat} (hR : (allErr D n).2.2 = 0) : ∀ (l : List En) (q : Option (List Int)), entFrom D n q l = 0 → (∀ e ∈ l, InO D n e.pl ∧ leafV D n e.pl = true ∧ numOk e.n = true) ∧ (∀ a, q = some a → ∀ e ∈ l, lessL a e.pl = true) ∧ l.Pairwise fun a b => lessL a.pl b.pl = true
 | [], _, _ => ⟨fun _ h => (by cases h), fun _ _ _ h => (by cases h), List.Pairwise.nil⟩
 | e :: r, q, h => by
  rw [entFrom] at h
  by_cases h1 : entOne D n e = 0
  ·rw [if_neg (by simpa using h1)] at h
   have go : ∀ (h2 : entFrom D n (some e.pl) r = 0) (h3 : ∀ a, q = some a → lessL a e.pl = true), (∀ x ∈ e :: r, InO D n x.pl ∧ leafV D n x.pl = true ∧ numOk x.n = true) ∧ (∀ a, q = some a → ∀ x ∈ e :: r, lessL a x.pl = true) ∧ (e :: r).Pairwise fun a b => lessL a.pl b.pl = true := fun h2 h3 => by
    obtain ⟨g1, g2, g3⟩ := entFrom_right hR r _ h2
    refine ⟨fun x hx => ?_, fun a ha x hx => ?_, List.Pairwise.cons (fun x hx => g2 _ rfl x hx) g3⟩
    ·rcases List.mem_cons.1 hx with rfl | hx
     ·exact entOne_right hR h1
     ·exact g1 x hx
    ·rcases List.mem_cons.1 hx with rfl | hx
     ·exact h3 a ha
     ·exact lessL_trans _ _ _ (h3 a ha) (g2 _ rfl x hx)
   split at h
   ·rename_i h4
    exact go h fun b hb => by rw [hb] at h4; exact h4
   ·cases h
  ·rw [if_pos (by simpa using h1)] at h
   exact absurd h h1
theorem ens_of {D : Nat → Dm} {n : Nat} {l : List En} (h : entsErr D n l = 0) : Ens D n l := by
 unfold entsErr at h
 split at h
 ·rename_i h1; exact absurd h h1
 ·rename_i h1
  have hR : (allErr D n).2.2 = 0 := by simpa using h1
  obtain ⟨g1, _, g3⟩ := entFrom_right hR l none h
  exact ⟨hR, g1, g3⟩
theorem Ens.few {D : Nat → Dm} {n : Nat} {l : List En} (h : Ens D n l) : l.length ≤ 3000 := by
 have hp := (allErr_some h.right).2.2.1
 have key : ∀ (m : List En) (lo : Int), (∀ e ∈ m, InO D n e.pl) → (m.Pairwise fun a b => lessL a.pl b.pl = true) → (∀ e ∈ m, lo ≤ numI D e.pl n) → 0 ≤ lo → lo ≤ (prodN D n : Int) → lo + (m.length : Int) ≤ (prodN D n : Int) := by
  intro m
  induction m with
  | nil => intro lo _ _ _ _ h5; simpa using h5
  | cons e r ih =>
   intro lo h1 h2 h3 h4 h5
   obtain ⟨h6, h7⟩ := List.pairwise_cons.1 h2
   have he := h1 e (List.mem_cons_self ..)
   have h8 := h3 e (List.mem_cons_self ..)
   have h9 := (numI_bound he (Nat.le_refl n)).2.1
   have := ih (numI D e.pl n + 1) (fun x hx => h1 x (List.mem_cons_of_mem _ hx)) h7 (fun x hx => by have := less_num he (h1 x (List.mem_cons_of_mem _ hx)) (h6 x hx); omega) (by omega) (by omega)
   rw [List.length_cons]
   omega
 have := key l 0 (fun e he => (h.each e he).1) h.rise (fun e he => (numI_bound (h.each e he).1 (Nat.le_refl n)).1) (Int.le_refl _) (by omega)
 omega
def cntE (l : List En) (p : List Int) : Nat := (l.takeWhile fun e => lessL e.pl p).length
def hasE (l : List En) (p : List Int) : Bool := match l.drop (cntE l p) with
 | [] => false
 | e :: _ => !lessL p e.pl
def getE (l : List En) (p : List Int) : Int × Int := match l.drop (cntE l p) with
 | [] => (0, 0)
 | e :: _ => if lessL p e.pl = true then (0, 0) else (1, e.n)
def setL (l : List En) (p : List Int) (x : Int) : List En := l.take (cntE l p) ++ ⟨p, x⟩ :: l.drop (cntE l p + (if hasE l p = true then 1 else 0))
def clrL (l : List En) (p : List Int) : List En := l.take (cntE l p) ++ l.drop (cntE l p + 1)
theorem drop_while {α : Type} (q : α → Bool) (l : List α) : l.drop (l.takeWhile q).length = l.dropWhile q := by
 induction l with
 | nil => rfl
 | cons x r ih =>
  by_cases h : q x = true
  ·rw [List.takeWhile_cons, List.dropWhile_cons, if_pos h, if_pos h, List.length_cons, List.drop_succ_cons, ih]
  ·rw [List.takeWhile_cons, List.dropWhile_cons, if_neg h, if_neg h]; rfl
theorem take_while {α : Type} (q : α → Bool) (l : List α) : l.take (l.takeWhile q).length = l.takeWhile q := by
 induction l with
 | nil => rfl
 | cons x r ih =>
  by_cases h : q x = true
  ·rw [List.takeWhile_cons, if_pos h, List.length_cons, List.take_succ_cons, ih]
  ·rw [List.takeWhile_cons, if_neg h]; rfl
theorem mem_while {α : Type} {q : α → Bool} {l : List α} {x : α} (h : x ∈ l.takeWhile q) : q x = true := by
 induction l with
 | nil => cases h
 | cons y r ih =>
  by_cases hy : q y = true
  ·rw [List.takeWhile_cons, if_pos hy] at h
   rcases List.mem_cons.1 h with rfl | h
   ·exact hy
   ·exact ih h
  ·rw [List.takeWhile_cons, if_neg hy] at h
   cases h
theorem head_while {α : Type} {q : α → Bool} {l r : List α} {x : α} (h : l.dropWhile q = x :: r) : q x = false := by
 induction l with
 | nil => cases h
 | cons y t ih =>
  by_cases hy : q y = true
  ·rw [List.dropWhile_cons, if_pos hy] at h; exact ih h
  ·rw [List.dropWhile_cons, if_neg hy] at h
   cases h
   simpa using hy
theorem cut_rise {l : List En} (h : l.Pairwise fun a b => lessL a.pl b.pl = true) (p : List Int) :
  ∃ A B, l.take (cntE l p) = A ∧ (∀ e ∈ A, lessL e.pl p = true) ∧ (∀ e ∈ B, lessL p e.pl = true) ∧
   ((hasE l p = false ∧ l.drop (cntE l p) = B ∧ l = A ++ B ∧ getE l p = (0, 0)) ∨ ∃ x, hasE l p = true ∧ l.drop (cntE l p) = ⟨p, x⟩ :: B ∧ l = A ++ ⟨p, x⟩ :: B ∧ getE l p = (1, x)) := by
 have e1 : l.take (cntE l p) = l.takeWhile fun e => lessL e.pl p := take_while _ _
 have e2 : l.drop (cntE l p) = l.dropWhile fun e => lessL e.pl p := drop_while _ _
 have e3 : l.take (cntE l p) ++ l.drop (cntE l p) = l := List.take_append_drop _ _
 have hA : ∀ e ∈ l.take (cntE l p), lessL e.pl p = true := fun e he => by rw [e1] at he; exact mem_while (q := fun e : En => lessL e.pl p) he
 cases hd : l.drop (cntE l p) with
 | nil =>
  refine ⟨_, [], rfl, hA, fun _ h => (by cases h), Or.inl ⟨?_, rfl, ?_, ?_⟩⟩
  ·unfold hasE; rw [hd]
  ·conv => lhs; rw [← e3, hd]
  ·unfold getE; rw [hd]
 | cons x r =>
  have hx : lessL x.pl p = false := by rw [e2] at hd; exact head_while (q := fun e : En => lessL e.pl p) hd
  have hpw : (x :: r).Pairwise fun a b => lessL a.pl b.pl = true := by rw [← hd]; exact h.sublist (List.drop_sublist _ _)
  obtain ⟨h4, _⟩ := List.pairwise_cons.1 hpw
  by_cases hl : lessL p x.pl = true
  ·refine ⟨_, x :: r, rfl, hA, fun e he => ?_, Or.inl ⟨?_, rfl, ?_, ?_⟩⟩
   ·rcases List.mem_cons.1 he with rfl | he
    ·exact hl
    ·exact lessL_trans _ _ _ hl (h4 e he)
   ·unfold hasE; rw [hd]; simp [hl]
   ·conv => lhs; rw [← e3, hd]
   ·unfold getE; rw [hd]; simp [hl]
  ·have hl' : lessL p x.pl = false := by simpa using hl
   have hp : x.pl = p := lessL_eq hx hl'
   have hxe : x = ⟨p, x.n⟩ := by cases x; simp at hp ⊢; exact hp
   refine ⟨_, r, rfl, hA, fun e he => by rw [← hp]; exact h4 e he, Or.inr ⟨x.n, ?_, ?_, ?_, ?_⟩⟩
   ·unfold hasE; rw [hd]; simp [hl']
   ·rw [← hxe]
   ·conv => lhs; rw [← e3, hd]
    rw [← hxe]
   ·unfold getE; rw [hd]; simp [hl']
theorem rise_join {A B : List En} {p : List Int} {x : Int} (hA : ∀ e ∈ A, lessL e.pl p = true) (hB : ∀ e ∈ B, lessL p e.pl = true) (h1 : A.Pairwise fun a b => lessL a.pl b.pl = true) (h2 : B.Pairwise fun a b => lessL a.pl b.pl = true) : (A ++ ⟨p, x⟩ :: B).Pairwise fun a b => lessL a.pl b.pl = true := by
 refine List.pairwise_append.2 ⟨h1, List.Pairwise.cons (fun e he => hB e he) h2, fun a ha b hb => ?_⟩
 rcases List.mem_cons.1 hb with rfl | hb
 ·exact hA a ha
 ·exact lessL_trans _ _ _ (hA a ha) (hB b hb)
theorem set_parts {l : List En} (h : l.Pairwise fun a b => lessL a.pl b.pl = true) (p : List Int) (x : Int) :
  (setL l p x).Pairwise (fun a b => lessL a.pl b.pl = true) ∧ (∀ e, e ∈ setL l p x ↔ e = ⟨p, x⟩ ∨ (e ∈ l ∧ e.pl ≠ p)) ∧ (setL l p x).length = l.length + (if hasE l p = true then 0 else 1) := by
 obtain ⟨A, B, hTA, hA, hB, ⟨h1, hd, h2, _⟩ | ⟨y, h1, hd, h2, _⟩⟩ := cut_rise h p
 ·have e : setL l p x = A ++ ⟨p, x⟩ :: B := by unfold setL; rw [hTA, h1, if_neg (by simp), Nat.add_zero, hd]
  rw [e, h1]
  have hpw := h
  rw [h2] at hpw
  obtain ⟨p1, p2, _⟩ := List.pairwise_append.1 hpw
  refine ⟨rise_join hA hB p1 p2, fun z => ?_, by rw [h2]; simp; omega⟩
  rw [h2]
  constructor
  ·intro hz
   rcases List.mem_append.1 hz with hz | hz
   ·exact Or.inr ⟨List.mem_append.2 (Or.inl hz), lessL_ne (hA z hz)⟩
   ·rcases List.mem_cons.1 hz with hz | hz
    ·exact Or.inl hz
    ·exact Or.inr ⟨List.mem_append.2 (Or.inr hz), fun e => lessL_ne (hB z hz) e.symm⟩
  ·rintro (hz | ⟨hz, _⟩)
   ·rw [hz]; simp
   ·rcases List.mem_append.1 hz with hz | hz
    ·exact List.mem_append.2 (Or.inl hz)
    ·exact List.mem_append.2 (Or.inr (List.mem_cons_of_mem _ hz))
 ·have e : setL l p x = A ++ ⟨p, x⟩ :: B := by
   unfold setL
   rw [hTA, h1, if_pos rfl, ← List.drop_drop, hd]
   rfl
  rw [e, h1]
  have hpw := h
  rw [h2] at hpw
  obtain ⟨p1, p2, _⟩ := List.pairwise_append.1 hpw
  refine ⟨rise_join hA hB p1 (List.pairwise_cons.1 p2).2, fun z => ?_, by rw [h2]; simp⟩
  rw [h2]
  constructor
  ·intro hz
   rcases List.mem_append.1 hz with hz | hz
   ·exact Or.inr ⟨List.mem_append.2 (Or.inl hz), lessL_ne (hA z hz)⟩
   ·rcases List.mem_cons.1 hz with hz | hz
    ·exact Or.inl hz
    ·exact Or.inr ⟨List.mem_append.2 (Or.inr (List.mem_cons_of_mem _ hz)), fun e => lessL_ne (hB z hz) e.symm⟩
  ·rintro (hz | ⟨hz, hne⟩)
   ·rw [hz]; simp
   ·rcases List.mem_append.1 hz with hz | hz
    ·exact List.mem_append.2 (Or.inl hz)
    ·rcases List.mem_cons.1 hz with hz | hz
     ·exact absurd (by rw [hz]) hne
     ·exact List.mem_append.2 (Or.inr (List.mem_cons_of_mem _ hz))
theorem clr_parts {l : List En} (h : l.Pairwise fun a b => lessL a.pl b.pl = true) (p : List Int) (hh : hasE l p = true) :
  (clrL l p).Pairwise (fun a b => lessL a.pl b.pl = true) ∧ (∀ e, e ∈ clrL l p ↔ e ∈ l ∧ e.pl ≠ p) ∧ (clrL l p).length + 1 = l.length := by
 obtain ⟨A, B, hTA, hA, hB, ⟨h1, _⟩ | ⟨y, h1, hd, h2, _⟩⟩ := cut_rise h p
 ·rw [h1] at hh; cases hh
 ·have e : clrL l p = A ++ B := by
   unfold clrL
   rw [hTA, ← List.drop_drop, hd]
   rfl
  rw [e]
  have hpw := h
  rw [h2] at hpw
  obtain ⟨p1, p2, _⟩ := List.pairwise_append.1 hpw
  refine ⟨List.pairwise_append.2 ⟨p1, (List.pairwise_cons.1 p2).2, fun a ha b hb => lessL_trans _ _ _ (hA a ha) (hB b hb)⟩, fun z => ?_, by rw [h2]; simp; omega⟩
  rw [h2]
  constructor
  ·intro hz
   rcases List.mem_append.1 hz with hz | hz
   ·exact ⟨List.mem_append.2 (Or.inl hz), lessL_ne (hA z hz)⟩
   ·exact ⟨List.mem_append.2 (Or.inr (List.mem_cons_of_mem _ hz)), fun e => lessL_ne (hB z hz) e.symm⟩
  ·rintro ⟨hz, hne⟩
   rcases List.mem_append.1 hz with hz | hz
   ·exact List.mem_append.2 (Or.inl hz)
   ·rcases List.mem_cons.1 hz with hz | hz
    ·exact absurd (by rw [hz]) hne
    ·exact List.mem_append.2 (Or.inr hz)
theorem Ens.set {D : Nat → Dm} {n : Nat} {l : List En} (h : Ens D n l) {p : List Int} {x : Int} (hp : InO D n p) (hf : leafV D n p = true) (hx : numOk x = true) : Ens D n (setL l p x) := by
 obtain ⟨h1, h2, _⟩ := set_parts h.rise p x
 refine ⟨h.right, fun e he => ?_, h1⟩
 rcases (h2 e).1 he with rfl | ⟨h3, _⟩
 ·exact ⟨hp, hf, hx⟩
 ·exact h.each e h3
theorem Ens.clr {D : Nat → Dm} {n : Nat} {l : List En} (h : Ens D n l) {p : List Int} (hh : hasE l p = true) : Ens D n (clrL l p) := by
 obtain ⟨h1, h2, _⟩ := clr_parts h.rise p hh
 exact ⟨h.right, fun e he => h.each e ((h2 e).1 he).1, h1⟩
structure Ed where
 pl : List Int
 n : Int
 clear : Bool
def editErr (D : Nat → Dm) (n : Nat) (l : List En) (x : Ed) : Int :=
 if shapeErr D n x.pl ≠ 0 then shapeErr D n x.pl
 else if x.clear = true then (if hasE l x.pl = true then 0 else 5)
 else if leafV D n x.pl = false then 6
 else if numOk x.n = false then 1
 else 0
def editV (l : List En) (x : Ed) : List En := if x.clear = true then clrL l x.pl else setL l x.pl x.n
def editsFrom (D : Nat → Dm) (n : Nat) : List En → Nat → List Ed → List En × Int × Int
 | l, _, [] => (l, 0, 0)
 | l, i, x :: r => if editErr D n l x = 0 then editsFrom D n (editV l x) (i + 1) r else ([], (i : Int), editErr D n l x)
def editsV (D : Nat → Dm) (n : Nat) (l : List En) (xs : List Ed) : List En × Int × Int :=
 if 60 < xs.length then ([], 0, 4) else if entsErr D n l ≠ 0 then ([], 0, entsErr D n l) else editsFrom D n l 0 xs
theorem editsFrom_ok {D : Nat → Dm} {n i : Nat} {l : List En} {x : Ed} (r : List Ed) (h : editErr D n l x = 0) : editsFrom D n l i (x :: r) = editsFrom D n (editV l x) (i + 1) r := by rw [editsFrom, if_pos h]
theorem editsFrom_bad {D : Nat → Dm} {n i : Nat} {l : List En} {x : Ed} (r : List Ed) (h : editErr D n l x ≠ 0) : editsFrom D n l i (x :: r) = ([], (i : Int), editErr D n l x) := by rw [editsFrom, if_neg h]
theorem Ens.edit {D : Nat → Dm} {n : Nat} {l : List En} (h : Ens D n l) {x : Ed} (hx : editErr D n l x = 0) : InO D n x.pl ∧ Ens D n (editV l x) := by
 unfold editErr at hx
 split at hx
 ·rename_i h1; exact absurd hx h1
 ·rename_i h1
  have hI : InO D n x.pl := inO_of (by rw [pe1 h.right]; simpa using h1)
  refine ⟨hI, ?_⟩
  unfold editV
  split at hx
  ·rename_i h2
   split at hx
   ·rename_i h3
    rw [if_pos h2]
    exact h.clr h3
   ·cases hx
  ·rename_i h2
   rw [if_neg h2]
   split at hx
   ·cases hx
   ·split at hx
    ·cases hx
    ·rename_i h3 h4
     exact h.set hI (by simpa using h3) (by simpa using h4)
end Go.Proofs.YtfngmnhkhfgmjacDoor
namespace Go.Proofs.YtfngmnhkhfgmjacDoor
open Go Go.ChangeShapes Go.WideShapes Go.ChangeAt Go.RowKit Go.Deep
set_option maxRecDepth 100000
structure EnL where
 e : En
 A : Option Addr
 c : Nat
def noEn : En := ⟨[], 0⟩
def noL : EnL := ⟨noEn, none, 0⟩
def lE (xs : List EnL) : List En := xs.map EnL.e
theorem lE_len (xs : List EnL) : (lE xs).length = xs.length := by simp [lE]
theorem lE_at (xs : List EnL) (k : Nat) : (lE xs).getD k noEn = (xs.getD k noL).e := by
 rw [List.getD_eq_getElem?_getD, List.getD_eq_getElem?_getD, lE, List.getElem?_map]
 cases xs[k]? <;> rfl
def cellsE : List EnL → List Value
 | [] => []
 | x :: r => .slice x.A x.e.pl.length x.c :: .int .i64 x.e.n :: cellsE r
theorem cellsE_len (xs : List EnL) : (cellsE xs).length = xs.length * 2 := by
 induction xs with
 | nil => rfl
 | cons x r ih => simp [cellsE, ih]; omega
theorem cellsE_append (a b : List EnL) : cellsE (a ++ b) = cellsE a ++ cellsE b := by
 induction a with
 | nil => rfl
 | cons x r ih => simp [cellsE, ih]
theorem cellsE_take (xs : List EnL) : ∀ k, (cellsE xs).take (k * 2) = cellsE (xs.take k) := by
 induction xs with
 | nil => intro k; simp [cellsE]
 | cons x r ih =>
  intro k
  cases k with
  | zero => simp [cellsE]
  | succ k => rw [show (k + 1) * 2 = k * 2 + 1 + 1 by omega]; simp [cellsE, ih]
theorem cellsE_drop (xs : List EnL) : ∀ k, (cellsE xs).drop (k * 2) = cellsE (xs.drop k) := by
 induction xs with
 | nil => intro k; simp [cellsE]
 | cons x r ih =>
  intro k
  cases k with
  | zero => simp
  | succ k => rw [show (k + 1) * 2 = k * 2 + 1 + 1 by omega]; simp [cellsE, ih]
theorem cellsE_one (xs : List EnL) : ∀ v ∈ cellsE xs, v.oneCell' = true := by
 induction xs with
 | nil => intro v hv; cases hv
 | cons x r ih =>
  intro v hv
  simp only [cellsE, List.mem_cons] at hv
  rcases hv with rfl | rfl | hv
  ·rfl
  ·rfl
  ·exact ih v hv
theorem cellsE_at (xs : List EnL) : ∀ k, k < xs.length → (cellsE xs)[k * 2]? = some (.slice (xs.getD k noL).A (xs.getD k noL).e.pl.length (xs.getD k noL).c) ∧ (cellsE xs)[k * 2 + 1]? = some (.int .i64 (xs.getD k noL).e.n) := by
 induction xs with
 | nil => intro k hk; cases hk
 | cons x r ih =>
  intro k hk
  cases k with
  | zero => simp [cellsE]
  | succ k =>
   rw [show (k + 1) * 2 = k * 2 + 1 + 1 by omega]
   simp only [cellsE, List.getElem?_cons_succ, List.getD_cons_succ]
   exact ih k (by simpa using hk)
theorem enl_mem {xs : List EnL} {k : Nat} (h : k < xs.length) : xs.getD k noL ∈ xs := by
 rw [List.getD_eq_getElem?_getD, List.getElem?_eq_getElem h]
 exact List.getElem_mem h
def EnsAt (w : World) (b o : Nat) (xs : List EnL) : Prop := b < w.heap.size ∧ (∀ j u, (cellsE xs)[j]? = some u → w.cell? ⟨b, o + j, none⟩ = some u) ∧ ∀ x ∈ xs, PlAt w x.A x.c x.e.pl
theorem EnsAt.later {w w' : World} {b o : Nat} {xs : List EnL} (h : EnsAt w b o xs) (hB : Below w.heap.size w w') : EnsAt w' b o xs :=
 ⟨Nat.lt_of_lt_of_le h.1 hB.size, fun j u hj => (hB.cell (p := ⟨b, o + j, none⟩) h.1).trans (h.2.1 j u hj), fun x hx => (h.2.2 x hx).later hB⟩
theorem EnsAt.pl {w : World} {b o : Nat} {xs : List EnL} (h : EnsAt w b o xs) {k : Nat} (hk : k < xs.length) : PlAt w (xs.getD k noL).A (xs.getD k noL).c (xs.getD k noL).e.pl := h.2.2 _ (enl_mem hk)
theorem EnsAt.at {w : World} {b o : Nat} {xs : List EnL} (h : EnsAt w b o xs) {k : Nat} (hk : k < xs.length) : w.cell? ⟨b, o + k * 2, none⟩ = some (.slice (xs.getD k noL).A (xs.getD k noL).e.pl.length (xs.getD k noL).c) ∧ w.cell? ⟨b, o + k * 2 + 1, none⟩ = some (.int .i64 (xs.getD k noL).e.n) := by
 obtain ⟨h1, h2⟩ := cellsE_at xs k hk
 exact ⟨h.2.1 _ _ h1, by rw [Nat.add_assoc]; exact h.2.1 _ _ h2⟩
def EnsV (w : World) (A : Option Addr) (cap : Nat) (xs : List EnL) : Prop := xs.length ≤ cap ∧ cap ≤ 9223372036854775807 ∧ (xs = [] ∨ ∃ b o, A = some ⟨b, o, none⟩ ∧ EnsAt w b o xs)
theorem EnsV.later {w w' : World} {A : Option Addr} {cap : Nat} {xs : List EnL} (h : EnsV w A cap xs) (hB : Below w.heap.size w w') : EnsV w' A cap xs := by
 obtain ⟨h1, h0, h2 | ⟨b, o, h2, h3⟩⟩ := h
 ·exact ⟨h1, h0, Or.inl h2⟩
 ·exact ⟨h1, h0, Or.inr ⟨b, o, h2, h3.later hB⟩⟩
theorem EnsV.nil (w : World) (A : Option Addr) (cap : Nat) (h : cap ≤ 9223372036854775807) : EnsV w A cap [] := ⟨Nat.zero_le _, h, Or.inl rfl⟩
structure EdL where
 x : Ed
 A : Option Addr
 c : Nat
def noD : EdL := ⟨⟨[], 0, false⟩, none, 0⟩
def lD (ys : List EdL) : List Ed := ys.map EdL.x
theorem lD_len (ys : List EdL) : (lD ys).length = ys.length := by simp [lD]
def EdsAt (w : World) (b o : Nat) (ys : List EdL) : Prop := b < w.heap.size ∧ ∀ k, k < ys.length → w.cell? ⟨b, o + k * 3, none⟩ = some (.slice (ys.getD k noD).A (ys.getD k noD).x.pl.length (ys.getD k noD).c) ∧ w.cell? ⟨b, o + k * 3 + 1, none⟩ = some (.int .i64 (ys.getD k noD).x.n) ∧ w.cell? ⟨b, o + k * 3 + 2, none⟩ = some (.bool (ys.getD k noD).x.clear) ∧ PlAt w (ys.getD k noD).A (ys.getD k noD).c (ys.getD k noD).x.pl
theorem EdsAt.later {w w' : World} {b o : Nat} {ys : List EdL} (h : EdsAt w b o ys) (hB : Below w.heap.size w w') : EdsAt w' b o ys := by
 refine ⟨Nat.lt_of_lt_of_le h.1 hB.size, fun k hk => ?_⟩
 obtain ⟨h1, h2, h3, h4⟩ := h.2 k hk
 exact ⟨(hB.cell (p := ⟨b, o + k * 3, none⟩) h.1).trans h1, (hB.cell (p := ⟨b, o + k * 3 + 1, none⟩) h.1).trans h2, (hB.cell (p := ⟨b, o + k * 3 + 2, none⟩) h.1).trans h3, h4.later hB⟩
def EdsV (w : World) (A : Option Addr) (cap : Nat) (ys : List EdL) : Prop := ys.length ≤ cap ∧ cap ≤ 9223372036854775807 ∧ (ys = [] ∨ ∃ b o, A = some ⟨b, o, none⟩ ∧ EdsAt w b o ys)
theorem EdsV.later {w w' : World} {A : Option Addr} {cap : Nat} {ys : List EdL} (h : EdsV w A cap ys) (hB : Below w.heap.size w w') : EdsV w' A cap ys := by
 obtain ⟨h1, h0, h2 | ⟨b, o, h2, h3⟩⟩ := h
 ·exact ⟨h1, h0, Or.inl h2⟩
 ·exact ⟨h1, h0, Or.inr ⟨b, o, h2, h3.later hB⟩⟩
section
variable {H : Type} {enc : TypeId × Value → H} {w : World} {held : Bool}
theorem cellsEn : Tryd.prog.cellsOf 77 = 2 := by kernel_rfl
theorem open_pl {fuel : Nat} {cs : List Value} {x : DataW H × List MemPlace} (h : DataW.trod enc Tryd.prog w 0 (fun _ => true) held fuel 40 cs = some x) :
  ∃ (Ap : Option Addr) (cp : Nat) (L : List Int), cs = [.slice Ap L.length cp] ∧ PlAt w Ap cp L := by
 rcases open_ints Tryd.underlying40 Tryd.underlying3 (by kernel_rfl) h with ⟨rfl, _⟩ | ⟨a', len, cap, zs, rfl, _, hl, _, hzl, _, hc, _⟩
 ·exact ⟨none, 0, [], rfl, PlAt.nil _ _ _⟩
 ·simp at hzl
  have hlen : (zs.take len).length = len := by simp; omega
  refine ⟨some a', cap, zs.take len, by rw [hlen], by rw [hlen]; exact hl, ?_⟩
  rcases Nat.eq_zero_or_pos len with h0 | h0
  ·left
   subst h0
   simp
  right
  have c0 := hc 0 (by omega)
  have hp := addr_plain c0 rfl
  have hb := World.block_lt_of_cell? _ _ c0
  refine ⟨a'.block, a'.off, by rw [← hp], by simpa [Addr.add] using hb, fun j hj => ?_⟩
  rw [hlen] at hj
  have := hc j (by omega)
  rw [hp, plain_add] at this
  rw [this]
  simp [List.getD, hj]
theorem open_en {fuel : Nat} {cs : List Value} {x : DataW H × List MemPlace} (h : DataW.trod enc Tryd.prog w 0 (fun _ => true) held fuel 77 cs = some x) :
  ∃ (e : En) (A : Option Addr) (c : Nat), cs = [.slice A e.pl.length c, .int .i64 e.n] ∧ PlAt w A c e.pl := by
 obtain ⟨hl, n, hf⟩ := trod_one Tryd.underlying77 (by kernel_rfl) h
 rw [cellsEn] at hl
 match cs, hl with
 | [v0, v1], _ =>
  obtain ⟨y0, h0⟩ := hf 0 _ v0 rfl rfl
  obtain ⟨y1, h1⟩ := hf 1 _ v1 rfl rfl
  obtain ⟨A, c, L, e0, hP⟩ := open_pl h0
  obtain ⟨n1, e1, -, -⟩ := DataW.trod_int Tryd.underlying3 h1
  simp at e0 e1
  exact ⟨⟨L, n1⟩, A, c, by rw [e0, e1], hP⟩
theorem cells_of_each {b o : Nat} {xs : List EnL} (h : ∀ i, i < xs.length → w.cell? ⟨b, o + i * 2, none⟩ = some (.slice (xs.getD i noL).A (xs.getD i noL).e.pl.length (xs.getD i noL).c) ∧ w.cell? ⟨b, o + i * 2 + 1, none⟩ = some (.int .i64 (xs.getD i noL).e.n)) : ∀ j u, (cellsE xs)[j]? = some u → w.cell? ⟨b, o + j, none⟩ = some u := by
 intro j u hj
 have hlt : j < (cellsE xs).length := (List.getElem?_eq_some_iff.1 hj).1
 rw [cellsE_len] at hlt
 have hk : j / 2 < xs.length := by omega
 obtain ⟨h1, h2⟩ := cellsE_at xs _ hk
 obtain ⟨c1, c2⟩ := h _ hk
 rcases Nat.mod_two_eq_zero_or_one j with hm | hm
 ·have e : j = j / 2 * 2 := by omega
  rw [e] at hj ⊢
  rw [h1] at hj
  rw [c1]
  exact hj
 ·have e : j = j / 2 * 2 + 1 := by omega
  rw [e] at hj ⊢
  rw [h2] at hj
  rw [← Nat.add_assoc, c2]
  exact hj
theorem open_ens {r : Reach} {b0 : Nat} {v : Value} {d : DataW H} {p : List MemPlace} (hv : Value.okWide Tryd.prog w r b0 43 v) (h : DataW.Trod enc Tryd.prog w 0 (fun _ => true) held 43 v d p) :
  ∃ (A : Option Addr) (cap : Nat) (xs : List EnL), v = .slice A xs.length cap ∧ EnsV w A cap xs := by
 obtain ⟨a0, len0, cap0, rfl⟩ := okWide_slice Tryd.underlying43 hv
 obtain ⟨fuel, hf⟩ := h
 have hf' : DataW.trod enc Tryd.prog w 0 (fun _ => true) held fuel 43 [.slice a0 len0 cap0] = some (d, p) := hf
 rcases open_slice Tryd.underlying43 hf' with ⟨e, -⟩ | ⟨a, len, cap, m, n, D, Pl, e, -, hl, hcm, hm, -, hx⟩
 ·simp at e
  obtain ⟨rfl, rfl, rfl⟩ := e
  exact ⟨none, 0, [], rfl, Nat.le_refl _, Nat.zero_le _, Or.inl rfl⟩
 simp at e
 obtain ⟨rfl, rfl, rfl⟩ := e
 rw [cellsEn] at hx
 simp at hm
 subst hm
 haveI : Inhabited EnL := ⟨noL⟩
 have each : ∀ i, i < len0 → ∃ y : EnL, w.cells? 0 (a.add (i * 2)) 2 = some [.slice y.A y.e.pl.length y.c, .int .i64 y.e.n] ∧ PlAt w y.A y.c y.e.pl := fun i hi => by
  obtain ⟨cs', h1, h2⟩ := hx i (by omega)
  obtain ⟨e, A, c, rfl, hp⟩ := open_en h2
  exact ⟨⟨e, A, c⟩, h1, hp⟩
 obtain ⟨Y, hY⟩ := choose_lt each
 have hlen : ((List.range len0).map Y).length = len0 := by simp
 have hg : ∀ i, i < len0 → ((List.range len0).map Y).getD i noL = Y i := fun i hi => by simp [List.getD, hi]
 refine ⟨some a, _, (List.range len0).map Y, by rw [hlen], by rw [hlen]; exact hl, hcm, ?_⟩
 rcases Nat.eq_zero_or_pos len0 with h0 | h0
 ·left; subst h0; rfl
 right
 have c0 := (World.cells?_some (hY 0 h0).1).2.2 0 (by omega)
 rw [add_add] at c0
 have hp := addr_plain c0 (by omega)
 have hb := World.block_lt_of_cell? _ _ c0
 refine ⟨a.block, a.off, by rw [← hp], by simpa [Addr.add] using hb, cells_of_each fun i hi => ?_, fun x hx => ?_⟩
 ·rw [hlen] at hi
  have hc := (World.cells?_some (hY i hi).1).2.2
  rw [hp] at hc
  simp only [plain_add, Nat.add_assoc] at hc
  rw [hg i hi]
  refine ⟨?_, ?_⟩
  ·have := hc 0 (by omega); simpa using this
  ·have := hc 1 (by omega); simpa [Nat.add_assoc] using this
 ·simp only [List.mem_map, List.mem_range] at hx
  obtain ⟨i, hi, rfl⟩ := hx
  exact (hY i hi).2
end
end Go.Proofs.YtfngmnhkhfgmjacDoor
namespace Go.Proofs.YtfngmnhkhfgmjacDoor
def cmpL : List Int → List Int → Int
 | [], [] => 0
 | [], _ :: _ => -1
 | _ :: _, [] => 1
 | a :: r, b :: t => if a < b then -1 else if b < a then 1 else cmpL r t
theorem cmpL_three : ∀ a b : List Int, (cmpL a b = -1 ∧ lessL a b = true ∧ a ≠ b) ∨ (cmpL a b = 0 ∧ lessL a b = false ∧ a = b) ∨ (cmpL a b = 1 ∧ lessL a b = false ∧ a ≠ b)
 | [], [] => Or.inr (Or.inl ⟨rfl, rfl, rfl⟩)
 | [], _ :: _ => Or.inl ⟨rfl, rfl, by simp⟩
 | _ :: _, [] => Or.inr (Or.inr ⟨rfl, rfl, by simp⟩)
 | a :: r, b :: t => by
  simp only [cmpL, lessL]
  by_cases h1 : a < b
  ·rw [if_pos h1, if_neg (by omega)]
   exact Or.inl ⟨rfl, decide_eq_true h1, by simp; omega⟩
  ·rw [if_neg h1]
   by_cases h2 : b < a
   ·rw [if_pos h2, if_neg (by omega)]
    exact Or.inr (Or.inr ⟨rfl, decide_eq_false h1, by simp; omega⟩)
   ·have h3 : a = b := by omega
    rw [if_neg h2, if_pos h3]
    subst h3
    rcases cmpL_three r t with ⟨e1, e2, e3⟩ | ⟨e1, e2, e3⟩ | ⟨e1, e2, e3⟩
    ·exact Or.inl ⟨e1, e2, by simpa using e3⟩
    ·exact Or.inr (Or.inl ⟨e1, e2, by rw [e3]⟩)
    ·exact Or.inr (Or.inr ⟨e1, e2, by simpa using e3⟩)
theorem cmpL_neg (a b : List Int) : decide (cmpL a b < 0) = lessL a b := by
 rcases cmpL_three a b with ⟨e1, e2, _⟩ | ⟨e1, e2, _⟩ | ⟨e1, e2, _⟩ <;> rw [e1, e2] <;> rfl
theorem cmpL_nonneg (a b : List Int) : decide (0 ≤ cmpL a b) = !lessL a b := by
 rcases cmpL_three a b with ⟨e1, e2, _⟩ | ⟨e1, e2, _⟩ | ⟨e1, e2, _⟩ <;> rw [e1, e2] <;> rfl
theorem dropI_at (l : List Int) {k : Nat} (h : k < l.length) : l.drop k = l.getD k 0 :: l.drop (k + 1) := by
 rw [List.drop_eq_getElem_cons h, List.getD_eq_getElem?_getD, List.getElem?_eq_getElem h]
 rfl
theorem cmpL_in {a b : List Int} {k : Nat} (h1 : k < a.length) (h2 : k < b.length) : cmpL (a.drop k) (b.drop k) = if a.getD k 0 < b.getD k 0 then -1 else if b.getD k 0 < a.getD k 0 then 1 else cmpL (a.drop (k + 1)) (b.drop (k + 1)) := by
 rw [dropI_at a h1, dropI_at b h2, cmpL]
theorem cmpL_long {a b : List Int} {k : Nat} (h1 : k < a.length) (h2 : b.length ≤ k) : cmpL (a.drop k) (b.drop k) = 1 := by
 rw [dropI_at a h1, List.drop_eq_nil_of_le h2]; rfl
theorem cmpL_short {a b : List Int} {k : Nat} (h1 : a.length ≤ k) (h2 : k < b.length) : cmpL (a.drop k) (b.drop k) = -1 := by
 rw [dropI_at b h2, List.drop_eq_nil_of_le h1]; rfl
theorem cmpL_end {a b : List Int} {k : Nat} (h1 : a.length ≤ k) (h2 : b.length ≤ k) : cmpL (a.drop k) (b.drop k) = 0 := by
 rw [List.drop_eq_nil_of_le h1, List.drop_eq_nil_of_le h2]; rfl
theorem lessL_in {a b : List Int} {k : Nat} (h1 : k < a.length) (h2 : k < b.length) : lessL (a.drop k) (b.drop k) = if a.getD k 0 = b.getD k 0 then lessL (a.drop (k + 1)) (b.drop (k + 1)) else decide (a.getD k 0 < b.getD k 0) := by
 rw [dropI_at a h1, dropI_at b h2, lessL]
theorem lessL_long {a b : List Int} {k : Nat} (h2 : b.length ≤ k) : lessL (a.drop k) (b.drop k) = false := by
 rw [List.drop_eq_nil_of_le h2]
 cases a.drop k <;> rfl
theorem lessL_short {a b : List Int} {k : Nat} (h1 : a.length ≤ k) (h2 : k < b.length) : lessL (a.drop k) (b.drop k) = true := by
 rw [dropI_at b h2, List.drop_eq_nil_of_le h1]; rfl
theorem drop_en (l : List En) {k : Nat} (h : k < l.length) : l.drop k = l.getD k noEn :: l.drop (k + 1) := by
 rw [List.drop_eq_getElem_cons h, List.getD_eq_getElem?_getD, List.getElem?_eq_getElem h]
 rfl
theorem cnt_at : ∀ (l : List En) (p : List Int) (i : Nat), i ≤ l.length → (∀ t, t < i → lessL (l.getD t noEn).pl p = true) → (i < l.length → lessL (l.getD i noEn).pl p = false) → cntE l p = i
 | [], p, i, hi, _, _ => by simp at hi; subst hi; rfl
 | e :: r, p, 0, _, _, h2 => by
  have h3 := h2 (by simp)
  simp at h3
  simp [cntE, h3]
 | e :: r, p, i + 1, hi, h1, h2 => by
  have h3 := h1 0 (by omega)
  simp at h3
  have h4 := cnt_at r p i (by simpa using hi) (fun t ht => by simpa using h1 (t + 1) (by omega)) (fun ht => by simpa using h2 (by simpa using ht))
  unfold cntE at h4 ⊢
  rw [List.takeWhile_cons, if_pos h3, List.length_cons, h4]
theorem cnt_le (l : List En) (p : List Int) : cntE l p ≤ l.length := by
 unfold cntE
 exact (List.takeWhile_sublist _).length_le
theorem has_in {l : List En} {p : List Int} {i : Nat} (h : cntE l p = i) (hi : i < l.length) : hasE l p = !lessL p (l.getD i noEn).pl ∧ getE l p = if lessL p (l.getD i noEn).pl = true then (0, 0) else (1, (l.getD i noEn).n) := by
 have e : l.drop (cntE l p) = l.getD i noEn :: l.drop (i + 1) := by rw [h, drop_en l hi]
 unfold hasE getE
 rw [e]
 exact ⟨rfl, rfl⟩
theorem has_out {l : List En} {p : List Int} {i : Nat} (h : cntE l p = i) (hi : l.length ≤ i) : hasE l p = false ∧ getE l p = (0, 0) := by
 have e : l.drop (cntE l p) = [] := by rw [h, List.drop_eq_nil_of_le hi]
 unfold hasE getE
 rw [e]
 exact ⟨rfl, rfl⟩
theorem rise_at {l : List En} (h : l.Pairwise fun a b => lessL a.pl b.pl = true) {a b : Nat} (hab : a < b) (hb : b < l.length) : lessL (l.getD a noEn).pl (l.getD b noEn).pl = true := by
 have := List.pairwise_iff_getElem.1 h a b (by omega) hb hab
 rw [List.getD_eq_getElem?_getD, List.getD_eq_getElem?_getD, List.getElem?_eq_getElem hb, List.getElem?_eq_getElem (by omega : a < l.length)]
 exact this
theorem less_mono {l : List En} (h : l.Pairwise fun a b => lessL a.pl b.pl = true) {p : List Int} {a b : Nat} (hab : a ≤ b) (hb : b < l.length) (hl : lessL (l.getD b noEn).pl p = true) : lessL (l.getD a noEn).pl p = true := by
 rcases Nat.eq_or_lt_of_le hab with rfl | h1
 ·exact hl
 ·exact lessL_trans _ _ _ (rise_at h h1 hb) hl
theorem has_cmp {l : List En} {p : List Int} {i : Nat} (h : cntE l p = i) (hi : i < l.length) : decide (cmpL (l.getD i noEn).pl p = 0) = hasE l p := by
 have h1 : lessL (l.getD i noEn).pl p = false := by
  have e : l.dropWhile (fun e => lessL e.pl p) = l.getD i noEn :: l.drop (i + 1) := by rw [← drop_while]; show l.drop (cntE l p) = _; rw [h, drop_en l hi]
  exact head_while (q := fun e : En => lessL e.pl p) e
 rw [(has_in h hi).1]
 rcases cmpL_three (l.getD i noEn).pl p with ⟨_, e2, _⟩ | ⟨e1, _, e3⟩ | ⟨e1, _, e3⟩
 ·rw [e2] at h1; cases h1
 ·rw [e1, e3, lessL_self]; rfl
 ·rw [e1]
  rcases lessL_total _ _ e3 with h2 | h2
  ·rw [h2] at h1; cases h1
  ·rw [h2]; rfl
def qOf (l : List En) : Nat → Option (List Int)
 | 0 => none
 | k + 1 => some (l.getD k noEn).pl
theorem ent_step {D : Nat → Dm} {n : Nat} {l : List En} {k : Nat} (h : k < l.length) : entFrom D n (qOf l k) (l.drop k) = if entOne D n (l.getD k noEn) ≠ 0 then entOne D n (l.getD k noEn) else if aheadOk (qOf l k) (l.getD k noEn).pl = true then entFrom D n (qOf l (k + 1)) (l.drop (k + 1)) else 7 := by
 rw [drop_en l h, entFrom]
 rfl
theorem ent_bad {D : Nat → Dm} {n : Nat} {l : List En} {k : Nat} (h : k < l.length) (he : entOne D n (l.getD k noEn) ≠ 0) : entFrom D n (qOf l k) (l.drop k) = entOne D n (l.getD k noEn) := by rw [ent_step h, if_pos he]
theorem ent_clash {D : Nat → Dm} {n : Nat} {l : List En} {k : Nat} (h : k < l.length) (he : entOne D n (l.getD k noEn) = 0) (hq : aheadOk (qOf l k) (l.getD k noEn).pl = false) : entFrom D n (qOf l k) (l.drop k) = 7 := by rw [ent_step h, if_neg (by simpa using he), if_neg (by rw [hq]; decide)]
theorem ent_on {D : Nat → Dm} {n : Nat} {l : List En} {k : Nat} (h : k < l.length) (he : entOne D n (l.getD k noEn) = 0) (hq : aheadOk (qOf l k) (l.getD k noEn).pl = true) : entFrom D n (qOf l k) (l.drop k) = entFrom D n (qOf l (k + 1)) (l.drop (k + 1)) := by rw [ent_step h, if_neg (by simpa using he), if_pos hq]
theorem ent_end {D : Nat → Dm} {n : Nat} {l : List En} {k : Nat} (h : l.length ≤ k) : entFrom D n (qOf l k) (l.drop k) = 0 := by
 rw [List.drop_eq_nil_of_le h]
 cases qOf l k <;> rfl
theorem ents_bad {D : Nat → Dm} {n : Nat} (l : List En) (h : (allErr D n).2.2 ≠ 0) : entsErr D n l = (allErr D n).2.2 := by unfold entsErr; rw [if_pos h]
theorem ents_in {D : Nat → Dm} {n : Nat} (l : List En) (h : (allErr D n).2.2 = 0) : entsErr D n l = entFrom D n (qOf l 0) (l.drop 0) := by unfold entsErr; rw [if_neg (by simpa using h)]; rfl
theorem one_place {D : Nat → Dm} {n : Nat} {e : En} (hR : (allErr D n).2.2 = 0) (h : placeErr D n e.pl ≠ 0) : entOne D n e = placeErr D n e.pl := by
 rw [pe1 hR] at h ⊢
 unfold entOne
 rw [if_pos h]
theorem one_leaf {D : Nat → Dm} {n : Nat} {e : En} (hR : (allErr D n).2.2 = 0) (h : placeErr D n e.pl = 0) (hf : leafV D n e.pl = false) : entOne D n e = 6 := by
 rw [pe1 hR] at h
 unfold entOne
 rw [if_neg (by simpa using h), if_pos hf]
theorem one_num {D : Nat → Dm} {n : Nat} {e : En} (hR : (allErr D n).2.2 = 0) (h : placeErr D n e.pl = 0) (hf : leafV D n e.pl = true) : entOne D n e = if numOk e.n = false then 1 else 0 := by
 rw [pe1 hR] at h
 unfold entOne
 rw [if_neg (by simpa using h), if_neg (by simp [hf])]
end Go.Proofs.YtfngmnhkhfgmjacDoor
