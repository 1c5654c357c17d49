/-
 What was written, on plain data: places in order, entries that rise, what stands at a place, with a number there, without; that what is written is there, and all else as it was.
 Entries and edits that lie in memory, and what is read of arguments that are lists of them.
 Places compared, entries found and entries checked, step by step as the program does it: on plain data.
 Places compared, and an entry found among those that rise: what slices.Compare, order, slices.BinarySearchFunc and find answer, called in whatever memory.
 An entry found among those that rise: what slices.BinarySearchFunc and find answer, called in whatever memory.
 All parts together, on plain data: how a place counts in another one, what comes of entries at a place, and that a number more is as much more.
 All parts together, on plain data: how the members of a dim count in one of them, laid out; the leafs of a place, dim by dim, and that these are the places of the outline, in order, that are leafs of it.
-/
import Derived.Test.YtjffbmejobjmjafGreatDoorJBBC
import Derived.Test.YtjffbmejobjmjafGreatDoorJBAN
import Derived.Deep.CutBlock
import Derived.Deep.QuietTactic
import Derived.BigQuiet
import Derived.WalkSmall
import Derived.Deep.RegionLaw
namespace Go.Proofs.YtjffbmejobjmjafGreatDoor

def lessL : List Int → List Int → Bool
 | [], [] => false
 | [], _ :: _ => true
 | _ :: _, [] => false
 | a :: r, b :: t => if a = b then lessL r t else decide (a < b)
theorem lessL_self (a : List Int) : lessL a a = false := by
 induction a with
 | nil => rfl
 | cons x r ih => simp [lessL, ih]
theorem lessL_trans : ∀ (a b c : List Int), lessL a b = true → lessL b c = true → lessL a c = true
 | [], [], _, h, _ => by simp [lessL] at h
 | [], _ :: _, [], _, h => by simp [lessL] at h
 | [], _ :: _, _ :: _, _, _ => rfl
 | _ :: _, [], _, h, _ => by simp [lessL] at h
 | _ :: _, _ :: _, [], _, h => by simp [lessL] at h
 | x :: r, y :: t, z :: u, h1, h2 => by
  simp only [lessL] at h1 h2 ⊢
  by_cases e1 : x = y
  ·by_cases e2 : y = z
   ·rw [if_pos e1] at h1
    rw [if_pos e2] at h2
    rw [if_pos (e1.trans e2)]
    exact lessL_trans r t u h1 h2
   ·rw [if_neg e2] at h2
    rw [if_neg (by rw [e1]; exact e2), e1]
    exact h2
  ·rw [if_neg e1] at h1
   have h3 := of_decide_eq_true h1
   by_cases e2 : y = z
   ·rw [if_neg (by rw [← e2]; exact e1), ← e2]
    exact h1
   ·rw [if_neg e2] at h2
    have h4 := of_decide_eq_true h2
    rw [if_neg (by omega)]
    exact decide_eq_true (by omega)
theorem lessL_total : ∀ (a b : List Int), a ≠ b → lessL a b = true ∨ lessL b a = true
 | [], [], h => absurd rfl h
 | [], _ :: _, _ => Or.inl rfl
 | _ :: _, [], _ => Or.inr rfl
 | x :: r, y :: t, h => by
  simp only [lessL]
  by_cases e : x = y
  ·rw [if_pos e, if_pos e.symm]
   exact lessL_total r t fun h1 => h (by rw [e, h1])
  ·rw [if_neg e, if_neg fun h1 => e h1.symm]
   rcases Int.lt_or_gt_of_ne e with h1 | h1
   ·exact Or.inl (decide_eq_true h1)
   ·exact Or.inr (decide_eq_true h1)
theorem lessL_eq {a b : List Int} (h1 : lessL a b = false) (h2 : lessL b a = false) : a = b :=
 Decidable.byContradiction fun e => by
  rcases lessL_total a b e with h | h
  ·rw [h] at h1; cases h1
  ·rw [h] at h2; cases h2
theorem lessL_part : ∀ (a b : List Int), a.length = b.length → lessL a b = true → ∃ j, j < a.length ∧ (∀ i, i < j → a.getD i 0 = b.getD i 0) ∧ a.getD j 0 < b.getD j 0
 | [], [], _, h => by simp [lessL] at h
 | [], _ :: _, h, _ => by simp at h
 | _ :: _, [], h, _ => by simp at h
 | x :: r, y :: t, hl, h => by
  simp only [lessL] at h
  by_cases e : x = y
  ·rw [if_pos e] at h
   obtain ⟨j, h1, h2, h3⟩ := lessL_part r t (by simpa using hl) h
   refine ⟨j + 1, by simpa using h1, fun i hi => ?_, by simpa using h3⟩
   cases i with
   | zero => simpa using e
   | succ i => simpa using h2 i (by omega)
  ·rw [if_neg e] at h
   exact ⟨0, by simp, fun i hi => by omega, by simpa using of_decide_eq_true h⟩
theorem less_num {D : Nat → Dm} {n : Nat} {a b : List Int} (ha : InO D n a) (hb : InO D n b) (h : lessL a b = true) : numI D a n < numI D b n := by
 obtain ⟨j, hj, he, hlt⟩ := lessL_part a b (by rw [ha.len, hb.len]) h
 rw [ha.len] at hj
 have h1 : ∀ k, k ≤ j → numI D a k = numI D b k := by
  intro k
  induction k with
  | zero => intro _; rfl
  | succ k ih => intro hk; rw [numI, numI, ih (by omega), he k (by omega)]
 have h2 : ∀ k, j < k → k ≤ n → numI D a k + 1 ≤ numI D b k := by
  intro k
  induction k with
  | zero => intro h; omega
  | succ k ih =>
   intro hjk hk
   rw [numI, numI]
   have a2 := ha.hi k (by omega)
   have b1 := hb.lo k (by omega)
   by_cases e : k = j
   ·rw [h1 k (by omega), e]; omega
   ·have h3 := ih (by omega) (by omega)
    have h4 : (numI D a k + 1) * ((D k).n : Int) ≤ numI D b k * ((D k).n : Int) := Int.mul_le_mul_of_nonneg_right h3 (by omega)
    rw [Int.add_mul, Int.one_mul] at h4
    omega
 exact h2 n hj (Nat.le_refl _)

structure En where
 pl : List Int
 n : Int

def numOk (x : Int) : Bool := decide (-1000000 ≤ x) && decide (x ≤ 1000000)
def entOne (D : Nat → Dm) (n : Nat) (e : En) : Int := if shapeErr D n e.pl ≠ 0 then shapeErr D n e.pl else if leafV D n e.pl = false then 6 else if numOk e.n = false then 1 else 0
def aheadOk : Option (List Int) → List Int → Bool
 | none, _ => true
 | some a, b => lessL a b
def entFrom (D : Nat → Dm) (n : Nat) : Option (List Int) → List En → Int
 | _, [] => 0
 | q, e :: r => if entOne D n e ≠ 0 then entOne D n e else if aheadOk q e.pl = true then entFrom D n (some e.pl) r else 7
def entsErr (D : Nat → Dm) (n : Nat) (l : List En) : Int := if (allErr D n).2.2 ≠ 0 then (allErr D n).2.2 else entFrom D n none l

structure Ens (D : Nat → Dm) (n : Nat) (l : List En) : Prop where
 right : (allErr D n).2.2 = 0
 each : ∀ e ∈ l, InO D n e.pl ∧ leafV D n e.pl = true ∧ numOk e.n = true
 rise : l.Pairwise fun a b => lessL a.pl b.pl = true

theorem entOne_right {D : Nat → Dm} {n : Nat} {e : En} (hR : (allErr D n).2.2 = 0) (h : entOne D n e = 0) : InO D n e.pl ∧ leafV D n e.pl = true ∧ numOk e.n = true := by
 unfold entOne at h
 split at h
 ·rename_i h1; exact absurd h h1
 ·split at h
  ·cases h
  ·split at h
   ·cases h
   ·rename_i h1 h2 h3
    exact ⟨inO_of (by rw [pe1 hR]; simpa using h1), by simpa using h2, by simpa using h3⟩
theorem entOne_ok {D : Nat → Dm} {n : Nat} {e : En} (h : InO D n e.pl ∧ leafV D n e.pl = true ∧ numOk e.n = true) : entOne D n e = 0 := by
 have h1 : shapeErr D n e.pl = 0 := by rw [← pe1 h.1.right]; exact h.1.ok
 unfold entOne
 rw [if_neg (by simpa using h1), if_neg (by simp [h.2.1]), if_neg (by simp [h.2.2])]
theorem entFrom_right {D : Nat → Dm} {n : Nat} (hR : (allErr D n).2.2 = 0) : ∀ (l : List En) (q : Option (List Int)), entFrom D n q l = 0 → (∀ e ∈ l, InO D n e.pl ∧ leafV D n e.pl = true ∧ numOk e.n = true) ∧ (∀ a, q = some a → ∀ e ∈ l, lessL a e.pl = true) ∧ l.Pairwise fun a b => lessL a.pl b.pl = true
 | [], _, _ => ⟨fun _ h => (by cases h), fun _ _ _ h => (by cases h), List.Pairwise.nil⟩
 | e :: r, q, h => by
  rw [entFrom] at h
  by_cases h1 : entOne D n e = 0
  ·rw [if_neg (by simpa using h1)] at h
   have go : ∀ (h2 : entFrom D n (some e.pl) r = 0) (h3 : ∀ a, q = some a → lessL a e.pl = true), (∀ x ∈ e :: r, InO D n x.pl ∧ leafV D n x.pl = true ∧ numOk x.n = true) ∧ (∀ a, q = some a → ∀ x ∈ e :: r, lessL a x.pl = true) ∧ (e :: r).Pairwise fun a b => lessL a.pl b.pl = true := fun h2 h3 => by
    obtain ⟨g1, g2, g3⟩ := entFrom_right hR r _ h2
    refine ⟨fun x hx => ?_, fun a ha x hx => ?_, List.Pairwise.cons (fun x hx => g2 _ rfl x hx) g3⟩
    ·rcases List.mem_cons.1 hx with rfl | hx
     ·exact entOne_right hR h1
     ·exact g1 x hx
    ·rcases List.mem_cons.1 hx with rfl | hx
     ·exact h3 a ha
     ·exact lessL_trans _ _ _ (h3 a ha) (g2 _ rfl x hx)
   split at h
   ·rename_i h4
    exact go h fun b hb => by rw [hb] at h4; exact h4
   ·cases h
  ·rw [if_pos (by simpa using h1)] at h
   exact absurd h h1
theorem ens_of {D : Nat → Dm} {n : Nat} {l : List En} (h : entsErr D n l = 0) : Ens D n l := by
 unfold entsErr at h
 split at h
 ·rename_i h1; exact absurd h h1
 ·rename_i h1
  have hR : (allErr D n).2.2 = 0 := by simpa using h1
  obtain ⟨g1, _, g3⟩ := entFrom_right hR l none h
  exact ⟨hR, g1, g3⟩
theorem entFrom_ok {D : Nat → Dm} {n : Nat} : ∀ (l : List En) (q : Option (List Int)), (∀ e ∈ l, InO D n e.pl ∧ leafV D n e.pl = true ∧ numOk e.n = true) → (∀ a, q = some a → ∀ e ∈ l, lessL a e.pl = true) → (l.Pairwise fun a b => lessL a.pl b.pl = true) → entFrom D n q l = 0
 | [], _, _, _, _ => rfl
 | e :: r, q, h1, h2, h3 => by
  obtain ⟨h4, h5⟩ := List.pairwise_cons.1 h3
  have h6 := entFrom_ok r (some e.pl) (fun x hx => h1 x (List.mem_cons_of_mem _ hx)) (fun a ha x hx => by cases ha; exact h4 x hx) h5
  rw [entFrom, if_neg (by simpa using entOne_ok (h1 e (List.mem_cons_self ..)))]
  rw [if_pos]
  ·exact h6
  ·cases q with
   | none => rfl
   | some a => exact h2 a rfl e (List.mem_cons_self ..)
theorem Ens.ok {D : Nat → Dm} {n : Nat} {l : List En} (h : Ens D n l) : entsErr D n l = 0 := by
 unfold entsErr
 rw [if_neg (by simpa using h.right)]
 exact entFrom_ok l none h.each (fun a ha => by cases ha) h.rise

theorem Ens.few {D : Nat → Dm} {n : Nat} {l : List En} (h : Ens D n l) : l.length ≤ 3000 := by
 have hp := (allErr_some h.right).2.2.1
 have key : ∀ (m : List En) (lo : Int), (∀ e ∈ m, InO D n e.pl) → (m.Pairwise fun a b => lessL a.pl b.pl = true) → (∀ e ∈ m, lo ≤ numI D e.pl n) → 0 ≤ lo → lo ≤ (prodN D n : Int) → lo + (m.length : Int) ≤ (prodN D n : Int) := by
  intro m
  induction m with
  | nil => intro lo _ _ _ _ h5; simpa using h5
  | cons e r ih =>
   intro lo h1 h2 h3 h4 h5
   obtain ⟨h6, h7⟩ := List.pairwise_cons.1 h2
   have he := h1 e (List.mem_cons_self ..)
   have h8 := h3 e (List.mem_cons_self ..)
   have h9 := (numI_bound he (Nat.le_refl n)).2.1
   have := ih (numI D e.pl n + 1) (fun x hx => h1 x (List.mem_cons_of_mem _ hx)) h7 (fun x hx => by have := less_num he (h1 x (List.mem_cons_of_mem _ hx)) (h6 x hx); omega) (by omega) (by omega)
   rw [List.length_cons]
   omega
 have := key l 0 (fun e he => (h.each e he).1) h.rise (fun e he => (numI_bound (h.each e he).1 (Nat.le_refl n)).1) (Int.le_refl _) (by omega)
 omega

def cntE (l : List En) (p : List Int) : Nat := (l.takeWhile fun e => lessL e.pl p).length
def hasE (l : List En) (p : List Int) : Bool := match l.drop (cntE l p) with
 | [] => false
 | e :: _ => !lessL p e.pl
def getE (l : List En) (p : List Int) : Int × Int := match l.drop (cntE l p) with
 | [] => (0, 0)
 | e :: _ => if lessL p e.pl = true then (0, 0) else (1, e.n)
theorem drop_while {α : Type} (q : α → Bool) (l : List α) : l.drop (l.takeWhile q).length = l.dropWhile q := by
 induction l with
 | nil => rfl
 | cons x r ih =>
  by_cases h : q x = true
  ·rw [List.takeWhile_cons, List.dropWhile_cons, if_pos h, if_pos h, List.length_cons, List.drop_succ_cons, ih]
  ·rw [List.takeWhile_cons, List.dropWhile_cons, if_neg h, if_neg h]; rfl
theorem take_while {α : Type} (q : α → Bool) (l : List α) : l.take (l.takeWhile q).length = l.takeWhile q := by
 induction l with
 | nil => rfl
 | cons x r ih =>
  by_cases h : q x = true
  ·rw [List.takeWhile_cons, if_pos h, List.length_cons, List.take_succ_cons, ih]
  ·rw [List.takeWhile_cons, if_neg h]; rfl
theorem mem_while {α : Type} {q : α → Bool} {l : List α} {x : α} (h : x ∈ l.takeWhile q) : q x = true := by
 induction l with
 | nil => cases h
 | cons y r ih =>
  by_cases hy : q y = true
  ·rw [List.takeWhile_cons, if_pos hy] at h
   rcases List.mem_cons.1 h with rfl | h
   ·exact hy
   ·exact ih h
  ·rw [List.takeWhile_cons, if_neg hy] at h
   cases h
theorem head_while {α : Type} {q : α → Bool} {l r : List α} {x : α} (h : l.dropWhile q = x :: r) : q x = false := by
 induction l with
 | nil => cases h
 | cons y t ih =>
  by_cases hy : q y = true
  ·rw [List.dropWhile_cons, if_pos hy] at h; exact ih h
  ·rw [List.dropWhile_cons, if_neg hy] at h
   cases h
   simpa using hy

theorem cut_rise {l : List En} (h : l.Pairwise fun a b => lessL a.pl b.pl = true) (p : List Int) :
  ∃ A B, l.take (cntE l p) = A ∧ (∀ e ∈ A, lessL e.pl p = true) ∧ (∀ e ∈ B, lessL p e.pl = true) ∧
   ((hasE l p = false ∧ l.drop (cntE l p) = B ∧ l = A ++ B ∧ getE l p = (0, 0)) ∨ ∃ x, hasE l p = true ∧ l.drop (cntE l p) = ⟨p, x⟩ :: B ∧ l = A ++ ⟨p, x⟩ :: B ∧ getE l p = (1, x)) := by
 have e1 : l.take (cntE l p) = l.takeWhile fun e => lessL e.pl p := take_while _ _
 have e2 : l.drop (cntE l p) = l.dropWhile fun e => lessL e.pl p := drop_while _ _
 have e3 : l.take (cntE l p) ++ l.drop (cntE l p) = l := List.take_append_drop _ _
 have hA : ∀ e ∈ l.take (cntE l p), lessL e.pl p = true := fun e he => by rw [e1] at he; exact mem_while (q := fun e : En => lessL e.pl p) he
 cases hd : l.drop (cntE l p) with
 | nil =>
  refine ⟨_, [], rfl, hA, fun _ h => (by cases h), Or.inl ⟨?_, rfl, ?_, ?_⟩⟩
  ·unfold hasE; rw [hd]
  ·conv => lhs; rw [← e3, hd]
  ·unfold getE; rw [hd]
 | cons x r =>
  have hx : lessL x.pl p = false := by rw [e2] at hd; exact head_while (q := fun e : En => lessL e.pl p) hd
  have hpw : (x :: r).Pairwise fun a b => lessL a.pl b.pl = true := by rw [← hd]; exact h.sublist (List.drop_sublist _ _)
  obtain ⟨h4, _⟩ := List.pairwise_cons.1 hpw
  by_cases hl : lessL p x.pl = true
  ·refine ⟨_, x :: r, rfl, hA, fun e he => ?_, Or.inl ⟨?_, rfl, ?_, ?_⟩⟩
   ·rcases List.mem_cons.1 he with rfl | he
    ·exact hl
    ·exact lessL_trans _ _ _ hl (h4 e he)
   ·unfold hasE; rw [hd]; simp [hl]
   ·conv => lhs; rw [← e3, hd]
   ·unfold getE; rw [hd]; simp [hl]
  ·have hl' : lessL p x.pl = false := by simpa using hl
   have hp : x.pl = p := lessL_eq hx hl'
   have hxe : x = ⟨p, x.n⟩ := by cases x; simp at hp ⊢; exact hp
   refine ⟨_, r, rfl, hA, fun e he => by rw [← hp]; exact h4 e he, Or.inr ⟨x.n, ?_, ?_, ?_, ?_⟩⟩
   ·unfold hasE; rw [hd]; simp [hl']
   ·rw [← hxe]
   ·conv => lhs; rw [← e3, hd]
    rw [← hxe]
   ·unfold getE; rw [hd]; simp [hl']

theorem get_mem {l : List En} (h : l.Pairwise fun a b => lessL a.pl b.pl = true) {e : En} (he : e ∈ l) : getE l e.pl = (1, e.n) := by
 obtain ⟨A, B, _, hA, hB, ⟨_, _, h2, _⟩ | ⟨x, _, _, h2, h3⟩⟩ := cut_rise h e.pl
 ·rw [h2] at he
  rcases List.mem_append.1 he with h4 | h4
  ·have := hA e h4; rw [lessL_self] at this; cases this
  ·have := hB e h4; rw [lessL_self] at this; cases this
 ·rw [h3]
  have h4 : e = ⟨e.pl, x⟩ := by
   rw [h2] at he
   rcases List.mem_append.1 he with h4 | h4
   ·have := hA e h4; rw [lessL_self] at this; cases this
   ·rcases List.mem_cons.1 h4 with h5 | h5
    ·exact h5
    ·have := hB e h5; rw [lessL_self] at this; cases this
  rw [h4]
theorem get_none {l : List En} (h : l.Pairwise fun a b => lessL a.pl b.pl = true) {p : List Int} (hp : ∀ e ∈ l, e.pl ≠ p) : getE l p = (0, 0) ∧ hasE l p = false := by
 obtain ⟨A, B, _, _, _, ⟨h1, _, _, h3⟩ | ⟨x, _, _, h2, _⟩⟩ := cut_rise h p
 ·exact ⟨h3, h1⟩
 ·exact absurd rfl (hp ⟨p, x⟩ (by rw [h2]; simp))
end Go.Proofs.YtjffbmejobjmjafGreatDoor

namespace Go.Proofs.YtjffbmejobjmjafGreatDoor
open Go Go.ChangeShapes Go.WideShapes Go.ChangeAt Go.RowKit Go.Deep
set_option maxRecDepth 100000

structure EnL where
 e : En
 A : Option Addr
 c : Nat
def noEn : En := ⟨[], 0⟩
def noL : EnL := ⟨noEn, none, 0⟩
def lE (xs : List EnL) : List En := xs.map EnL.e
theorem lE_len (xs : List EnL) : (lE xs).length = xs.length := by simp [lE]
theorem lE_at (xs : List EnL) (k : Nat) : (lE xs).getD k noEn = (xs.getD k noL).e := by
 rw [List.getD_eq_getElem?_getD, List.getD_eq_getElem?_getD, lE, List.getElem?_map]
 cases xs[k]? <;> rfl
def cellsE : List EnL → List Value
 | [] => []
 | x :: r => .slice x.A x.e.pl.length x.c :: .int .i64 x.e.n :: cellsE r
theorem cellsE_len (xs : List EnL) : (cellsE xs).length = xs.length * 2 := by
 induction xs with
 | nil => rfl
 | cons x r ih => simp [cellsE, ih]; omega
theorem cellsE_at (xs : List EnL) : ∀ k, k < xs.length → (cellsE xs)[k * 2]? = some (.slice (xs.getD k noL).A (xs.getD k noL).e.pl.length (xs.getD k noL).c) ∧ (cellsE xs)[k * 2 + 1]? = some (.int .i64 (xs.getD k noL).e.n) := by
 induction xs with
 | nil => intro k hk; cases hk
 | cons x r ih =>
  intro k hk
  cases k with
  | zero => simp [cellsE]
  | succ k =>
   rw [show (k + 1) * 2 = k * 2 + 1 + 1 by omega]
   simp only [cellsE, List.getElem?_cons_succ, List.getD_cons_succ]
   exact ih k (by simpa using hk)
theorem enl_mem {xs : List EnL} {k : Nat} (h : k < xs.length) : xs.getD k noL ∈ xs := by
 rw [List.getD_eq_getElem?_getD, List.getElem?_eq_getElem h]
 exact List.getElem_mem h

def EnsAt (w : World) (b o : Nat) (xs : List EnL) : Prop := b < w.heap.size ∧ (∀ j u, (cellsE xs)[j]? = some u → w.cell? ⟨b, o + j, none⟩ = some u) ∧ ∀ x ∈ xs, PlAt w x.A x.c x.e.pl
theorem EnsAt.later {w w' : World} {b o : Nat} {xs : List EnL} (h : EnsAt w b o xs) (hB : Below w.heap.size w w') : EnsAt w' b o xs :=
 ⟨Nat.lt_of_lt_of_le h.1 hB.size, fun j u hj => (hB.cell (p := ⟨b, o + j, none⟩) h.1).trans (h.2.1 j u hj), fun x hx => (h.2.2 x hx).later hB⟩
theorem EnsAt.pl {w : World} {b o : Nat} {xs : List EnL} (h : EnsAt w b o xs) {k : Nat} (hk : k < xs.length) : PlAt w (xs.getD k noL).A (xs.getD k noL).c (xs.getD k noL).e.pl := h.2.2 _ (enl_mem hk)
theorem EnsAt.at {w : World} {b o : Nat} {xs : List EnL} (h : EnsAt w b o xs) {k : Nat} (hk : k < xs.length) : w.cell? ⟨b, o + k * 2, none⟩ = some (.slice (xs.getD k noL).A (xs.getD k noL).e.pl.length (xs.getD k noL).c) ∧ w.cell? ⟨b, o + k * 2 + 1, none⟩ = some (.int .i64 (xs.getD k noL).e.n) := by
 obtain ⟨h1, h2⟩ := cellsE_at xs k hk
 exact ⟨h.2.1 _ _ h1, by rw [Nat.add_assoc]; exact h.2.1 _ _ h2⟩
def EnsV (w : World) (A : Option Addr) (cap : Nat) (xs : List EnL) : Prop := xs.length ≤ cap ∧ cap ≤ 9223372036854775807 ∧ (xs = [] ∨ ∃ b o, A = some ⟨b, o, none⟩ ∧ EnsAt w b o xs)
theorem EnsV.later {w w' : World} {A : Option Addr} {cap : Nat} {xs : List EnL} (h : EnsV w A cap xs) (hB : Below w.heap.size w w') : EnsV w' A cap xs := by
 obtain ⟨h1, h0, h2 | ⟨b, o, h2, h3⟩⟩ := h
 ·exact ⟨h1, h0, Or.inl h2⟩
 ·exact ⟨h1, h0, Or.inr ⟨b, o, h2, h3.later hB⟩⟩
section
variable {H : Type} {enc : TypeId × Value → H} {w : World} {held : Bool}
theorem cellsEn : Tryz.prog.cellsOf 57 = 2 := by kernel_rfl

theorem open_pl {fuel : Nat} {cs : List Value} {x : DataW H × List MemPlace} (h : DataW.trod enc Tryz.prog w 0 (fun _ => true) held fuel 44 cs = some x) :
  ∃ (Ap : Option Addr) (cp : Nat) (L : List Int), cs = [.slice Ap L.length cp] ∧ PlAt w Ap cp L := by
 rcases open_ints Tryz.underlying44 Tryz.underlying3 (by kernel_rfl) h with ⟨rfl, _⟩ | ⟨a', len, cap, zs, rfl, _, hl, _, hzl, _, hc, _⟩
 ·exact ⟨none, 0, [], rfl, PlAt.nil _ _ _⟩
 ·simp at hzl
  have hlen : (zs.take len).length = len := by simp; omega
  refine ⟨some a', cap, zs.take len, by rw [hlen], by rw [hlen]; exact hl, ?_⟩
  rcases Nat.eq_zero_or_pos len with h0 | h0
  ·left
   subst h0
   simp
  right
  have c0 := hc 0 (by omega)
  have hp := addr_plain c0 rfl
  have hb := World.block_lt_of_cell? _ _ c0
  refine ⟨a'.block, a'.off, by rw [← hp], by simpa [Addr.add] using hb, fun j hj => ?_⟩
  rw [hlen] at hj
  have := hc j (by omega)
  rw [hp, plain_add] at this
  rw [this]
  simp [List.getD, hj]

theorem open_en {fuel : Nat} {cs : List Value} {x : DataW H × List MemPlace} (h : DataW.trod enc Tryz.prog w 0 (fun _ => true) held fuel 57 cs = some x) :
  ∃ (e : En) (A : Option Addr) (c : Nat), cs = [.slice A e.pl.length c, .int .i64 e.n] ∧ PlAt w A c e.pl := by
 obtain ⟨hl, n, hf⟩ := trod_one Tryz.underlying57 (by kernel_rfl) h
 rw [cellsEn] at hl
 match cs, hl with
 | [v0, v1], _ =>
  obtain ⟨y0, h0⟩ := hf 0 _ v0 rfl rfl
  obtain ⟨y1, h1⟩ := hf 1 _ v1 rfl rfl
  obtain ⟨A, c, L, e0, hP⟩ := open_pl h0
  obtain ⟨n1, e1, -, -⟩ := DataW.trod_int Tryz.underlying3 h1
  simp at e0 e1
  exact ⟨⟨L, n1⟩, A, c, by rw [e0, e1], hP⟩

theorem cells_of_each {b o : Nat} {xs : List EnL} (h : ∀ i, i < xs.length → w.cell? ⟨b, o + i * 2, none⟩ = some (.slice (xs.getD i noL).A (xs.getD i noL).e.pl.length (xs.getD i noL).c) ∧ w.cell? ⟨b, o + i * 2 + 1, none⟩ = some (.int .i64 (xs.getD i noL).e.n)) : ∀ j u, (cellsE xs)[j]? = some u → w.cell? ⟨b, o + j, none⟩ = some u := by
 intro j u hj
 have hlt : j < (cellsE xs).length := (List.getElem?_eq_some_iff.1 hj).1
 rw [cellsE_len] at hlt
 have hk : j / 2 < xs.length := by omega
 obtain ⟨h1, h2⟩ := cellsE_at xs _ hk
 obtain ⟨c1, c2⟩ := h _ hk
 rcases Nat.mod_two_eq_zero_or_one j with hm | hm
 ·have e : j = j / 2 * 2 := by omega
  rw [e] at hj ⊢
  rw [h1] at hj
  rw [c1]
  exact hj
 ·have e : j = j / 2 * 2 + 1 := by omega
  rw [e] at hj ⊢
  rw [h2] at hj
  rw [← Nat.add_assoc, c2]
  exact hj

theorem open_ens {r : Reach} {b0 : Nat} {v : Value} {d : DataW H} {p : List MemPlace} (hv : Value.okWide Tryz.prog w r b0 43 v) (h : DataW.Trod enc Tryz.prog w 0 (fun _ => true) held 43 v d p) :
  ∃ (A : Option Addr) (cap : Nat) (xs : List EnL), v = .slice A xs.length cap ∧ EnsV w A cap xs := by
 obtain ⟨a0, len0, cap0, rfl⟩ := okWide_slice Tryz.underlying43 hv
 obtain ⟨fuel, hf⟩ := h
 have hf' : DataW.trod enc Tryz.prog w 0 (fun _ => true) held fuel 43 [.slice a0 len0 cap0] = some (d, p) := hf
 rcases open_slice Tryz.underlying43 hf' with ⟨e, -⟩ | ⟨a, len, cap, m, n, D, Pl, e, -, hl, hcm, hm, -, hx⟩
 ·simp at e
  obtain ⟨rfl, rfl, rfl⟩ := e
  exact ⟨none, 0, [], rfl, Nat.le_refl _, Nat.zero_le _, Or.inl rfl⟩
 simp at e
 obtain ⟨rfl, rfl, rfl⟩ := e
 rw [cellsEn] at hx
 simp at hm
 subst hm
 haveI : Inhabited EnL := ⟨noL⟩
 have each : ∀ i, i < len0 → ∃ y : EnL, w.cells? 0 (a.add (i * 2)) 2 = some [.slice y.A y.e.pl.length y.c, .int .i64 y.e.n] ∧ PlAt w y.A y.c y.e.pl := fun i hi => by
  obtain ⟨cs', h1, h2⟩ := hx i (by omega)
  obtain ⟨e, A, c, rfl, hp⟩ := open_en h2
  exact ⟨⟨e, A, c⟩, h1, hp⟩
 obtain ⟨Y, hY⟩ := choose_lt each
 have hlen : ((List.range len0).map Y).length = len0 := by simp
 have hg : ∀ i, i < len0 → ((List.range len0).map Y).getD i noL = Y i := fun i hi => by simp [List.getD, hi]
 refine ⟨some a, _, (List.range len0).map Y, by rw [hlen], by rw [hlen]; exact hl, hcm, ?_⟩
 rcases Nat.eq_zero_or_pos len0 with h0 | h0
 ·left; subst h0; rfl
 right
 have c0 := (World.cells?_some (hY 0 h0).1).2.2 0 (by omega)
 rw [add_add] at c0
 have hp := addr_plain c0 (by omega)
 have hb := World.block_lt_of_cell? _ _ c0
 refine ⟨a.block, a.off, by rw [← hp], by simpa [Addr.add] using hb, cells_of_each fun i hi => ?_, fun x hx => ?_⟩
 ·rw [hlen] at hi
  have hc := (World.cells?_some (hY i hi).1).2.2
  rw [hp] at hc
  simp only [plain_add, Nat.add_assoc] at hc
  rw [hg i hi]
  refine ⟨?_, ?_⟩
  ·have := hc 0 (by omega); simpa using this
  ·have := hc 1 (by omega); simpa [Nat.add_assoc] using this
 ·simp only [List.mem_map, List.mem_range] at hx
  obtain ⟨i, hi, rfl⟩ := hx
  exact (hY i hi).2
end
end Go.Proofs.YtjffbmejobjmjafGreatDoor

namespace Go.Proofs.YtjffbmejobjmjafGreatDoor

def cmpL : List Int → List Int → Int
 | [], [] => 0
 | [], _ :: _ => -1
 | _ :: _, [] => 1
 | a :: r, b :: t => if a < b then -1 else if b < a then 1 else cmpL r t
theorem cmpL_three : ∀ a b : List Int, (cmpL a b = -1 ∧ lessL a b = true ∧ a ≠ b) ∨ (cmpL a b = 0 ∧ lessL a b = false ∧ a = b) ∨ (cmpL a b = 1 ∧ lessL a b = false ∧ a ≠ b)
 | [], [] => Or.inr (Or.inl ⟨rfl, rfl, rfl⟩)
 | [], _ :: _ => Or.inl ⟨rfl, rfl, by simp⟩
 | _ :: _, [] => Or.inr (Or.inr ⟨rfl, rfl, by simp⟩)
 | a :: r, b :: t => by
  simp only [cmpL, lessL]
  by_cases h1 : a < b
  ·rw [if_pos h1, if_neg (by omega)]
   exact Or.inl ⟨rfl, decide_eq_true h1, by simp; omega⟩
  ·rw [if_neg h1]
   by_cases h2 : b < a
   ·rw [if_pos h2, if_neg (by omega)]
    exact Or.inr (Or.inr ⟨rfl, decide_eq_false h1, by simp; omega⟩)
   ·have h3 : a = b := by omega
    rw [if_neg h2, if_pos h3]
    subst h3
    rcases cmpL_three r t with ⟨e1, e2, e3⟩ | ⟨e1, e2, e3⟩ | ⟨e1, e2, e3⟩
    ·exact Or.inl ⟨e1, e2, by simpa using e3⟩
    ·exact Or.inr (Or.inl ⟨e1, e2, by rw [e3]⟩)
    ·exact Or.inr (Or.inr ⟨e1, e2, by simpa using e3⟩)
theorem cmpL_nonneg (a b : List Int) : decide (0 ≤ cmpL a b) = !lessL a b := by
 rcases cmpL_three a b with ⟨e1, e2, _⟩ | ⟨e1, e2, _⟩ | ⟨e1, e2, _⟩ <;> rw [e1, e2] <;> rfl
theorem dropI_at (l : List Int) {k : Nat} (h : k < l.length) : l.drop k = l.getD k 0 :: l.drop (k + 1) := by
 rw [List.drop_eq_getElem_cons h, List.getD_eq_getElem?_getD, List.getElem?_eq_getElem h]
 rfl
theorem cmpL_in {a b : List Int} {k : Nat} (h1 : k < a.length) (h2 : k < b.length) : cmpL (a.drop k) (b.drop k) = if a.getD k 0 < b.getD k 0 then -1 else if b.getD k 0 < a.getD k 0 then 1 else cmpL (a.drop (k + 1)) (b.drop (k + 1)) := by
 rw [dropI_at a h1, dropI_at b h2, cmpL]
theorem cmpL_long {a b : List Int} {k : Nat} (h1 : k < a.length) (h2 : b.length ≤ k) : cmpL (a.drop k) (b.drop k) = 1 := by
 rw [dropI_at a h1, List.drop_eq_nil_of_le h2]; rfl
theorem cmpL_short {a b : List Int} {k : Nat} (h1 : a.length ≤ k) (h2 : k < b.length) : cmpL (a.drop k) (b.drop k) = -1 := by
 rw [dropI_at b h2, List.drop_eq_nil_of_le h1]; rfl
theorem cmpL_end {a b : List Int} {k : Nat} (h1 : a.length ≤ k) (h2 : b.length ≤ k) : cmpL (a.drop k) (b.drop k) = 0 := by
 rw [List.drop_eq_nil_of_le h1, List.drop_eq_nil_of_le h2]; rfl
theorem drop_en (l : List En) {k : Nat} (h : k < l.length) : l.drop k = l.getD k noEn :: l.drop (k + 1) := by
 rw [List.drop_eq_getElem_cons h, List.getD_eq_getElem?_getD, List.getElem?_eq_getElem h]
 rfl
def qOf (l : List En) : Nat → Option (List Int)
 | 0 => none
 | k + 1 => some (l.getD k noEn).pl
theorem ent_step {D : Nat → Dm} {n : Nat} {l : List En} {k : Nat} (h : k < l.length) : entFrom D n (qOf l k) (l.drop k) = if entOne D n (l.getD k noEn) ≠ 0 then entOne D n (l.getD k noEn) else if aheadOk (qOf l k) (l.getD k noEn).pl = true then entFrom D n (qOf l (k + 1)) (l.drop (k + 1)) else 7 := by
 rw [drop_en l h, entFrom]
 rfl
theorem ent_bad {D : Nat → Dm} {n : Nat} {l : List En} {k : Nat} (h : k < l.length) (he : entOne D n (l.getD k noEn) ≠ 0) : entFrom D n (qOf l k) (l.drop k) = entOne D n (l.getD k noEn) := by rw [ent_step h, if_pos he]
theorem ent_clash {D : Nat → Dm} {n : Nat} {l : List En} {k : Nat} (h : k < l.length) (he : entOne D n (l.getD k noEn) = 0) (hq : aheadOk (qOf l k) (l.getD k noEn).pl = false) : entFrom D n (qOf l k) (l.drop k) = 7 := by rw [ent_step h, if_neg (by simpa using he), if_neg (by rw [hq]; decide)]
theorem ent_on {D : Nat → Dm} {n : Nat} {l : List En} {k : Nat} (h : k < l.length) (he : entOne D n (l.getD k noEn) = 0) (hq : aheadOk (qOf l k) (l.getD k noEn).pl = true) : entFrom D n (qOf l k) (l.drop k) = entFrom D n (qOf l (k + 1)) (l.drop (k + 1)) := by rw [ent_step h, if_neg (by simpa using he), if_pos hq]
theorem ent_end {D : Nat → Dm} {n : Nat} {l : List En} {k : Nat} (h : l.length ≤ k) : entFrom D n (qOf l k) (l.drop k) = 0 := by
 rw [List.drop_eq_nil_of_le h]
 cases qOf l k <;> rfl
theorem ents_bad {D : Nat → Dm} {n : Nat} (l : List En) (h : (allErr D n).2.2 ≠ 0) : entsErr D n l = (allErr D n).2.2 := by unfold entsErr; rw [if_pos h]
theorem ents_in {D : Nat → Dm} {n : Nat} (l : List En) (h : (allErr D n).2.2 = 0) : entsErr D n l = entFrom D n (qOf l 0) (l.drop 0) := by unfold entsErr; rw [if_neg (by simpa using h)]; rfl
theorem one_place {D : Nat → Dm} {n : Nat} {e : En} (hR : (allErr D n).2.2 = 0) (h : placeErr D n e.pl ≠ 0) : entOne D n e = placeErr D n e.pl := by
 rw [pe1 hR] at h ⊢
 unfold entOne
 rw [if_pos h]
theorem one_leaf {D : Nat → Dm} {n : Nat} {e : En} (hR : (allErr D n).2.2 = 0) (h : placeErr D n e.pl = 0) (hf : leafV D n e.pl = false) : entOne D n e = 6 := by
 rw [pe1 hR] at h
 unfold entOne
 rw [if_neg (by simpa using h), if_pos hf]
theorem one_num {D : Nat → Dm} {n : Nat} {e : En} (hR : (allErr D n).2.2 = 0) (h : placeErr D n e.pl = 0) (hf : leafV D n e.pl = true) : entOne D n e = if numOk e.n = false then 1 else 0 := by
 rw [pe1 hR] at h
 unfold entOne
 rw [if_neg (by simpa using h), if_neg (by simp [hf])]
end Go.Proofs.YtjffbmejobjmjafGreatDoor

namespace Go.Proofs.YtjffbmejobjmjafGreatDoor
open Go.ChangeShapes Go.WideShapes Go.ChangeAt Go.RowKit
set_option maxRecDepth 20000

theorem isnan_any (x : Int) (w : World) : Calls Tryz.prog 177 #[.int .i64 x] w fun e w' => e = .returned (.bool false) ∧ w' = w := by
 go_enter Tryz.func177, Tryz.ntmps177
 go_wp2_with fail
 go_ret
 exact ⟨rfl, rfl⟩

def cmpI (x y : Int) : Int := if x < y then -1 else if y < x then 1 else 0
set_option maxHeartbeats 1000000 in
theorem compare_any (x y : Int) (w : World) : Calls Tryz.prog 146 #[.int .i64 x, .int .i64 y] w fun e w' => e = .returned (.int .i64 (cmpI x y)) ∧ w' = w := by
 have h1 := isnan_any x
 have h2 := isnan_any y
 by_cases hxy : x < y
 ·have HV : Hid (cmpI x y = -1) := by show _ = _; unfold cmpI; rw [if_pos hxy]
  go_enter Tryz.func146, Tryz.ntmps146
  go_wp2_with fail
  refine (h1 _).mono ?_
  rintro e w1 ⟨rfl, rfl⟩
  go_wp2_with fail
  refine (h2 _).mono ?_
  rintro e w2 ⟨rfl, rfl⟩
  go_wp2_with fail
  go_ret
  rw [HV.out]
  exact ⟨rfl, rfl⟩
 ·by_cases hyx : y < x
  ·have HV : Hid (cmpI x y = 1) := by show _ = _; unfold cmpI; rw [if_neg hxy, if_pos hyx]
   go_enter Tryz.func146, Tryz.ntmps146
   go_wp2_with fail
   refine (h1 _).mono ?_
   rintro e w1 ⟨rfl, rfl⟩
   go_wp2_with fail
   refine (h2 _).mono ?_
   rintro e w2 ⟨rfl, rfl⟩
   go_wp2_with fail
   go_ret
   rw [HV.out]
   exact ⟨rfl, rfl⟩
  ·have HV : Hid (cmpI x y = 0) := by show _ = _; unfold cmpI; rw [if_neg hxy, if_neg hyx]
   have e : x = y := by omega
   subst e
   go_enter Tryz.func146, Tryz.ntmps146
   go_wp2_with fail
   refine (h1 _).mono ?_
   rintro e w1 ⟨rfl, rfl⟩
   go_wp2_with fail
   refine (h2 _).mono ?_
   rintro e w2 ⟨rfl, rfl⟩
   go_wp2_with fail
   go_ret
   rw [HV.out]
   exact ⟨rfl, rfl⟩

set_option maxHeartbeats 2000000 in
theorem scompare_any (A B : Option Addr) (ca cb : Nat) (a b : List Int) (w : World) (ha : a.length ≤ 4) (hb : b.length ≤ 4) (hA : PlAt w A ca a) (hB : PlAt w B cb b) : Calls Tryz.prog 112 #[.slice A a.length ca, .slice B b.length cb] w fun e w' => e = .returned (.int .i64 (cmpL a b)) ∧ w' = w := by
 have HA : Hid (PlAt w A ca a) := hA
 have HB : Hid (PlAt w B cb b) := hB
 have HN : Hid (∀ k, k < a.length → k < b.length → cmpL (a.drop k) (b.drop k) = if a.getD k 0 < b.getD k 0 then -1 else if b.getD k 0 < a.getD k 0 then 1 else cmpL (a.drop (k + 1)) (b.drop (k + 1))) := fun k h1 h2 => cmpL_in h1 h2
 have HL : Hid (∀ k, k < a.length → b.length ≤ k → cmpL (a.drop k) (b.drop k) = 1) := fun k h1 h2 => cmpL_long h1 h2
 have HS : Hid (∀ k, a.length ≤ k → k < b.length → cmpL (a.drop k) (b.drop k) = -1) := fun k h1 h2 => cmpL_short h1 h2
 have HE : Hid (∀ k, a.length ≤ k → b.length ≤ k → cmpL (a.drop k) (b.drop k) = 0) := fun k h1 h2 => cmpL_end h1 h2
 obtain ⟨na, hna⟩ : ∃ na, a.length = na := ⟨_, rfl⟩
 obtain ⟨nb, hnb⟩ : ∃ nb, b.length = nb := ⟨_, rfl⟩
 have HNA : Hid (a.length = na) := hna
 have HNB : Hid (b.length = nb) := hnb
 rw [hna] at HN HL HS HE ha
 rw [hnb] at HN HL HS HE hb
 rw [hna, hnb]
 have ha' : (na : Int) ≤ 4 := by omega
 have hb' : (nb : Int) ≤ 4 := by omega
 clear hA hB hna hnb
 go_enter Tryz.func112, Tryz.ntmps112
 go_wp2_with fail
 go_loopg [11] na (fun g s11 wr => ∃ (k : Nat), k ≤ na ∧ k ≤ nb ∧ g = na - k ∧ s11 = .int .i64 k ∧ Hid (cmpL (a.drop k) (b.drop k) = cmpL a b) ∧ wr = w)
 case atStart => exact ⟨0, Nat.zero_le _, Nat.zero_le _, rfl, rfl, (rfl : cmpL (a.drop 0) (b.drop 0) = cmpL a b), rfl⟩
 case round =>
  obtain ⟨k, hk, hk2, rfl, rfl, HF, hw⟩ := hrel
  subst hw
  by_cases hlt : k < na
  ·obtain ⟨hc, h0 | ⟨g1, o1, rfl, hbw, hcell⟩⟩ := HA.out
   ·have := HNA.out; rw [h0] at this; simp at this; omega
   have x1 := hcell k (by rw [HNA.out]; exact hlt)
   have hki : (k : Int) < (na : Int) := by omega
   by_cases hlb : k < nb
   ·obtain ⟨hc', h0 | ⟨g2, o2, rfl, hbw2, hcell2⟩⟩ := HB.out
    ·have := HNB.out; rw [h0] at this; simp at this; omega
    have x2 := hcell2 k (by rw [HNB.out]; exact hlb)
    have hkb : (k : Int) < (nb : Int) := by omega
    have hst := HN.out k hlt hlb
    have hcmp := compare_any (a.getD k 0) (b.getD k 0) wr
    generalize a.getD k 0 = x at x1 hst hcmp
    generalize b.getD k 0 = y at x2 hst hcmp
    have HST : Hid (cmpL (a.drop k) (b.drop k) = if x < y then -1 else if y < x then 1 else cmpL (a.drop (k + 1)) (b.drop (k + 1))) := hst
    clear hcell hcell2 hst
    by_cases hxy : x < y
    ·have hv : cmpI x y = -1 := by unfold cmpI; rw [if_pos hxy]
     rw [hv] at hcmp
     have HR : Hid (cmpL a b = -1) := by show _ = _; rw [← HF.out, HST.out, if_pos hxy]
     clear hv hxy
     go_wp2_with fail
     refine hcmp.mono ?_
     rintro e w1 ⟨rfl, rfl⟩
     go_wp2_with fail
     go_ret
     rw [HR.out]
     exact ⟨rfl, rfl⟩
    ·by_cases hyx : y < x
     ·have hv : cmpI x y = 1 := by unfold cmpI; rw [if_neg hxy, if_pos hyx]
      rw [hv] at hcmp
      have HR : Hid (cmpL a b = 1) := by show _ = _; rw [← HF.out, HST.out, if_neg hxy, if_pos hyx]
      clear hv hxy hyx
      go_wp2_with fail
      refine hcmp.mono ?_
      rintro e w1 ⟨rfl, rfl⟩
      go_wp2_with fail
      go_ret
      rw [HR.out]
      exact ⟨rfl, rfl⟩
     ·have hv : cmpI x y = 0 := by unfold cmpI; rw [if_neg hxy, if_neg hyx]
      rw [hv] at hcmp
      have HR : Hid (cmpL (a.drop (k + 1)) (b.drop (k + 1)) = cmpL a b) := by show _ = _; rw [← HF.out, HST.out, if_neg hxy, if_neg hyx]
      clear hv hxy hyx
      go_wp2_with fail
      refine hcmp.mono ?_
      rintro e w1 ⟨rfl, rfl⟩
      go_wp2_with fail
      go_roundg (na - (k + 1))
      case measure => omega
      case rel => exact ⟨k + 1, by omega, by omega, rfl, by go_num, HR, rfl⟩
   ·have HR : Hid (cmpL a b = 1) := by show _ = _; rw [← HF.out, HL.out k hlt (by omega)]
    have hkb : (nb : Int) ≤ (k : Int) := by omega
    clear hcell
    generalize a.getD k 0 = x at x1
    go_wp2_with fail
    go_ret
    rw [HR.out]
    exact ⟨rfl, rfl⟩
  ·have hke : k = na := by omega
   subst hke
   by_cases hlb : k < nb
   ·have HR : Hid (cmpL a b = -1) := by show _ = _; rw [← HF.out, HS.out k (Nat.le_refl _) hlb]
    have hkb : (k : Int) < (nb : Int) := by omega
    go_wp2_with fail
    go_ret
    rw [HR.out]
    exact ⟨rfl, rfl⟩
   ·have HR : Hid (cmpL a b = 0) := by show _ = _; rw [← HF.out, HE.out k (Nat.le_refl _) (by omega)]
    have hkb : (nb : Int) ≤ (k : Int) := by omega
    go_wp2_with fail
    go_ret
    rw [HR.out]
    exact ⟨rfl, rfl⟩

theorem order_any (A B : Option Addr) (ca cb : Nat) (a b : List Int) (N : Int) (w : World) (ha : a.length ≤ 4) (hb : b.length ≤ 4) (hA : PlAt w A ca a) (hB : PlAt w B cb b) : Calls Tryz.prog 73 #[.agg #[.slice A a.length ca, .int .i64 N], .slice B b.length cb] w fun e w' => e = .returned (.int .i64 (cmpL a b)) ∧ Below w.heap.size w w' := by
 have h0 : ∀ w', Below w.heap.size w w' → Calls Tryz.prog 112 #[.slice A a.length ca, .slice B b.length cb] w' fun e w'' => e = .returned (.int .i64 (cmpL a b)) ∧ w'' = w' := fun w' hw' => scompare_any A B ca cb a b w' ha hb (hA.later hw') (hB.later hw')
 have H : Hid (∀ w', Below w.heap.size w w' → Calls Tryz.prog 112 #[.slice A a.length ca, .slice B b.length cb] w' fun e w'' => e = .returned (.int .i64 (cmpL a b)) ∧ w'' = w') := h0
 generalize cmpL a b = c at H
 generalize a.length = na at H
 generalize b.length = nb at H
 clear hA hB h0 ha hb
 go_enter Tryz.func73, Tryz.ntmps73
 go_wp2_with fail
 refine (H.out _ (by go_grown)).mono ?_
 rintro e w1 ⟨rfl, rfl⟩
 go_wp2_with fail
 go_ret
 exact ⟨rfl, by go_grown⟩
end Go.Proofs.YtjffbmejobjmjafGreatDoor

namespace Go.Proofs.YtjffbmejobjmjafGreatDoor
open Go.ChangeShapes Go.WideShapes Go.ChangeAt Go.RowKit
set_option maxRecDepth 20000

end Go.Proofs.YtjffbmejobjmjafGreatDoor

namespace Go.Proofs.YtjffbmejobjmjafGreatDoor

def inTo (D : Nat → Dm) (p q : List Int) : Nat → Bool
 | 0 => true
 | k + 1 => inTo D p q k && inB (pathOf (D k).mem (q.getD k 0)) (p.getD k 0)
def pwTo (D : Nat → Dm) (p q : List Int) : Nat → Int
 | 0 => 1
 | k + 1 => pwTo D p q k * weightOf (D k).mem (p.getD k 0) (q.getD k 0)
theorem pwTo_out {D : Nat → Dm} {p q : List Int} {k : Nat} (h : inTo D p q k = false) : pwTo D p q k = 0 := by
 induction k with
 | zero => simp [inTo] at h
 | succ k ih =>
  simp only [inTo, Bool.and_eq_false_iff] at h
  rcases h with h | h
  ·rw [pwTo, ih h, Int.zero_mul]
  ·have h1 : p.getD k 0 ∉ pathOf (D k).mem (q.getD k 0) := by unfold inB at h; exact of_decide_eq_false h
   rw [pwTo, weightOf, wgt_out _ h1, Int.mul_zero]
theorem weight_small {D : Nat → Dm} {n : Nat} {q : List Int} (hq : InO D n q) {k : Nat} (hk : k < n) (i : Int) : -1 ≤ weightOf (D k).mem i (q.getD k 0) ∧ weightOf (D k).mem i (q.getD k 0) ≤ 1 := by
 have hd := (allErr_right hq.right).2 k hk
 have hlo := hq.lo k hk
 have hhi := hq.hi k hk
 have ht : Tr (D k).mem (D k).n := Tr.of hd
 refine wgt_small (Sg.of hd) i _ (fun j hj => ?_) 1 (by omega)
 have := pathOf_mem ht (D k).n (q.getD k 0) hhi hhi j hj
 omega
theorem pwTo_small {D : Nat → Dm} {n : Nat} {q : List Int} (hq : InO D n q) (p : List Int) : ∀ k, k ≤ n → -1 ≤ pwTo D p q k ∧ pwTo D p q k ≤ 1
 | 0, _ => by simp [pwTo]
 | k + 1, hk => by
  rw [pwTo]
  exact small_mul (pwTo_small hq p k (by omega)) (weight_small hq (by omega) _)

def cntR (D : Nat → Dm) (n : Nat) (p : List Int) (e : En) : Bool := inTo D p e.pl n && !(pwTo D p e.pl n == 0)
def valR (D : Nat → Dm) (n : Nat) (p : List Int) (e : En) : Int := pwTo D p e.pl n * e.n
def rollN (D : Nat → Dm) (n : Nat) (p : List Int) : List En → Int
 | [] => 0
 | e :: r => (if cntR D n p e = true then valR D n p e else 0) + rollN D n p r
def rollK (D : Nat → Dm) (n : Nat) (p : List Int) (l : List En) : Int := if l.any (cntR D n p) = true then 1 else 0
def rollV (D : Nat → Dm) (n : Nat) (l : List En) (p : List Int) : Int × Int := (rollK D n p l, rollN D n p l)
def rollStep (D : Nat → Dm) (n : Nat) (p : List Int) (c : Int × Int) (e : En) : Int × Int := if cntR D n p e = true then (1, c.2 + valR D n p e) else c
theorem roll_steps (D : Nat → Dm) (n : Nat) (p : List Int) (l : List En) : ∀ c : Int × Int, l.foldl (rollStep D n p) c = (if l.any (cntR D n p) = true then 1 else c.1, c.2 + rollN D n p l) := by
 induction l with
 | nil => intro c; simp [rollN]
 | cons e r ih =>
  intro c
  rw [List.foldl_cons, ih, rollStep, rollN, List.any_cons]
  by_cases h : cntR D n p e = true
  ·simp only [h, Bool.true_or, if_true]
   refine Prod.ext ?_ (by simp only; omega)
   simp only
   split <;> rfl
  ·simp only [h, Bool.false_eq_true, if_false] at *
   simp
theorem roll_fold (D : Nat → Dm) (n : Nat) (l : List En) (p : List Int) : l.foldl (rollStep D n p) (0, 0) = rollV D n l p := by
 rw [roll_steps]
 unfold rollV rollK
 simp
theorem rollN_append (D : Nat → Dm) (n : Nat) (p : List Int) (a b : List En) : rollN D n p (a ++ b) = rollN D n p a + rollN D n p b := by
 induction a with
 | nil => simp [rollN]
 | cons e r ih => rw [List.cons_append, rollN, rollN, ih]; omega
theorem roll_bound {D : Nat → Dm} {n : Nat} (p : List Int) : ∀ l : List En, (∀ e ∈ l, InO D n e.pl ∧ leafV D n e.pl = true ∧ numOk e.n = true) → -1000000 * (l.length : Int) ≤ rollN D n p l ∧ rollN D n p l ≤ 1000000 * (l.length : Int)
 | [], _ => by simp [rollN]
 | e :: r, h => by
  obtain ⟨h1, -, h2⟩ := h e (List.mem_cons_self ..)
  have ih := roll_bound p r fun x hx => h x (List.mem_cons_of_mem _ hx)
  have hw := pwTo_small h1 p n (Nat.le_refl _)
  have hn : -1000000 ≤ e.n ∧ e.n ≤ 1000000 := by simpa [numOk] using h2
  have hv : -1000000 ≤ valR D n p e ∧ valR D n p e ≤ 1000000 := by
   unfold valR
   have h3 : pwTo D p e.pl n = -1 ∨ pwTo D p e.pl n = 0 ∨ pwTo D p e.pl n = 1 := by omega
   rcases h3 with h3 | h3 | h3 <;> rw [h3] <;> omega
  rw [rollN, List.length_cons]
  split <;> omega
end Go.Proofs.YtjffbmejobjmjafGreatDoor

namespace Go.Proofs.YtjffbmejobjmjafGreatDoor

def lfs (D : Nat → Dm) (p : List Int) (i : Nat) : List Int := leafsOf (D i).mem (D i).n (p.getD i 0)
def cnts (d : Dm) (i : Int) (X : List Int) : List Int := (List.range d.n).map fun (k : Nat) => if (k : Int) ∈ X then weightOf d.mem i (k : Int) else 0
theorem cnts_len (d : Dm) (i : Int) (X : List Int) : (cnts d i X).length = d.n := by simp [cnts]
theorem cnts_nil (d : Dm) (i : Int) : cnts d i [] = List.replicate d.n 0 := by
 apply List.ext_getElem
 ·simp [cnts]
 ·intro j h1 h2; simp [cnts]
theorem cnts_at {d : Dm} {i : Int} {X : List Int} {k : Nat} (hk : k < d.n) : (cnts d i X).getD k 0 = if (k : Int) ∈ X then weightOf d.mem i k else 0 := by
 simp [cnts, List.getD, hk]
theorem cnts_set {d : Dm} {i : Int} {X : List Int} {k : Nat} : (cnts d i X).set k (weightOf d.mem i k) = cnts d i (X ++ [(k : Int)]) := by
 apply List.ext_getElem
 ·simp [cnts]
 ·intro j h1 h2
  rw [List.getElem_set]
  by_cases e : k = j
  ·subst e; simp [cnts]
  ·have e' : ¬ ((j : Int) = (k : Int)) := by omega
   rw [if_neg e]; simp [cnts, e']
theorem sel_in {p : Nat → Bool} {k m : Nat} (hm : m < k) (hp : p m = true) : (m : Int) ∈ selTo p k := by
 induction k with
 | zero => omega
 | succ k ih =>
  by_cases e : m = k
  ·subst e; rw [selTo_hit hp]; simp
  ·have h1 := ih (by omega)
   cases hk : p k
   ·rw [selTo_miss hk]; exact h1
   ·rw [selTo_hit hk]; simp [h1]
theorem lfs_mem {D : Nat → Dm} {p : List Int} {i : Nat} : ∀ j ∈ lfs D p i, ∃ m : Nat, j = m ∧ m < (D i).n ∧ leafIn (D i).mem (D i).n (p.getD i 0) m = true := selTo_mem
theorem lfs_len (D : Nat → Dm) (p : List Int) (i : Nat) : (lfs D p i).length ≤ (D i).n := selTo_len _ _
def wts (D : Nat → Dm) (p : List Int) (i : Nat) : List Int := cnts (D i) (p.getD i 0) (lfs D p i)
theorem wts_at {D : Nat → Dm} {p : List Int} {i k : Nat} (hk : k < (D i).n) (hl : leafB (D i).mem (D i).n k = true) : (wts D p i).getD k 0 = weightOf (D i).mem (p.getD i 0) k := by
 unfold wts
 rw [cnts_at hk]
 by_cases h : (k : Int) ∈ lfs D p i
 ·rw [if_pos h]
 ·rw [if_neg h]
  have h1 : inB (pathOf (D i).mem k) (p.getD i 0) = false := by
   cases hb : inB (pathOf (D i).mem k) (p.getD i 0)
   ·rfl
   ·exact absurd (sel_in hk (by unfold leafIn; rw [hl, hb]; rfl)) h
  have h2 : p.getD i 0 ∉ pathOf (D i).mem k := by unfold inB at h1; exact of_decide_eq_false h1
  rw [weightOf, wgt_out _ h2]
theorem wts_small {D : Nat → Dm} {n : Nat} (hR : (allErr D n).2.2 = 0) (p : List Int) {i : Nat} (hi : i < n) (k : Nat) : -1 ≤ (wts D p i).getD k 0 ∧ (wts D p i).getD k 0 ≤ 1 := by
 by_cases hk : k < (D i).n
 ·unfold wts
  rw [cnts_at hk]
  split
  ·have hd := (allErr_right hR).2 i hi
   refine wgt_small (Sg.of hd) _ _ (fun j hj => ?_) 1 (by omega)
   have := pathOf_mem (Tr.of hd) (D i).n k (by omega) (by omega) j hj
   omega
  ·omega
 ·have : (wts D p i).getD k 0 = 0 := by unfold wts; rw [List.getD_eq_getElem?_getD, List.getElem?_eq_none (by rw [cnts_len]; omega)]; rfl
  rw [this]; omega
def prTo (R : Nat → List Int) (q : List Int) : Nat → Int
 | 0 => 1
 | k + 1 => prTo R q k * (R k).getD (q.getD k 0).toNat 0
theorem leaf_each {D : Nat → Dm} {n : Nat} {q : List Int} (h : leafV D n q = true) : ∀ k, k < n → leafB (D k).mem (D k).n (q.getD k 0).toNat = true := by
 unfold leafV at h
 split at h
 ·intro k hk
  cases hb : leafB (D k).mem (D k).n (q.getD k 0).toNat
  ·have h1 : ∀ m i, i ≤ k → k < i + m → 0 ≤ findFrom (notLeaf D q) m i := by
    intro m
    induction m with
    | zero => intro i h1 h2; omega
    | succ m ih =>
     intro i h1 h2
     cases hn : notLeaf D q i
     ·rw [findFrom_miss _ hn]
      refine ih (i + 1) ?_ (by omega)
      rcases Nat.lt_or_ge i k with h3 | h3
      ·omega
      ·have : i = k := by omega
       subst this
       unfold notLeaf at hn
       rw [hb] at hn
       cases hn
     ·rw [findFrom_hit _ hn]; omega
   have := h1 n 0 (by omega) (by omega)
   rw [decide_eq_true this] at h
   cases h
  ·rfl
 ·cases h
theorem pr_wts {D : Nat → Dm} {n : Nat} {q : List Int} (hq : InO D n q) (hl : leafV D n q = true) (p : List Int) : ∀ k, k ≤ n → prTo (wts D p) q k = pwTo D p q k
 | 0, _ => rfl
 | k + 1, hk => by
  have hlo := hq.lo k (by omega)
  have hhi := hq.hi k (by omega)
  rw [prTo, pwTo, pr_wts hq hl p k (by omega), wts_at (by omega) (leaf_each hl k (by omega)), show ((q.getD k 0).toNat : Int) = q.getD k 0 by omega]
theorem prTo_small {D : Nat → Dm} {n : Nat} (hR : (allErr D n).2.2 = 0) (p q : List Int) : ∀ k, k ≤ n → -1 ≤ prTo (wts D p) q k ∧ prTo (wts D p) q k ≤ 1
 | 0, _ => by simp [prTo]
 | k + 1, hk => by
  rw [prTo]
  exact small_mul (prTo_small hR p q k (by omega)) (wts_small hR p (by omega) _)
theorem cnt_pw {D : Nat → Dm} {n : Nat} {p : List Int} {e : En} : cntR D n p e = !(pwTo D p e.pl n == 0) := by
 unfold cntR
 cases h : inTo D p e.pl n
 ·rw [pwTo_out h]; rfl
 ·rfl
theorem roll_none {D : Nat → Dm} {n : Nat} {p : List Int} : ∀ {l : List En}, l.any (cntR D n p) = false → rollN D n p l = 0
 | [], _ => rfl
 | e :: r, h => by
  rw [List.any_cons, Bool.or_eq_false_iff] at h
  rw [rollN, roll_none h.2, if_neg (by rw [h.1]; simp)]
  rfl

end Go.Proofs.YtjffbmejobjmjafGreatDoor

