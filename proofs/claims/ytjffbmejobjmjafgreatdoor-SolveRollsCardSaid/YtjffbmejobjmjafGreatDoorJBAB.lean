/-
 What is wrong with a formula, as a plain function on plain data: of a node at its place, of all nodes in order, of who uses whom; small facts on them.
 Formulas as texts, as plain functions on plain data: how much an op binds; a builder of nodes (nodes, those that no other uses yet, ops that wait); a reader (where it is, how many brackets are open) that hands on word by word.
-/
import Derived.Test.YtjffbmejobjmjafGreatDoorJBAA
namespace Go.Proofs.YtjffbmejobjmjafGreatDoor

structure Nd where
 op : Int
 n : Int
 name : ByteArray
 left : Int
 right : Int
def noN : Nd := ⟨0, 0, ⟨#[]⟩, 0, 0⟩

def ndErr (x : Nd) (i : Nat) : Int :=
 if x.op < 1 ∨ 6 < x.op then 1
 else if x.op = 1 then (if x.n < 0 ∨ 1000000 < x.n then 1 else if x.name.size ≠ 0 ∨ x.left ≠ 0 ∨ x.right ≠ 0 then 3 else 0)
 else if x.op = 2 then (if nameErr x.name ≠ 0 then 2 else if x.n ≠ 0 ∨ x.left ≠ 0 ∨ x.right ≠ 0 then 3 else 0)
 else if x.left < 0 ∨ (i : Int) ≤ x.left ∨ x.right < 0 ∨ (i : Int) ≤ x.right then 1
 else if x.n ≠ 0 ∨ x.name.size ≠ 0 then 3 else 0
def uses (x : Nd) (k : Nat) : Nat := if 2 < x.op then (if x.left = (k : Int) then 1 else 0) + (if x.right = (k : Int) then 1 else 0) else 0
def usedTo (l : List Nd) : Nat → Nat → Nat
 | 0, _ => 0
 | i + 1, k => usedTo l i k + uses (l.getD i noN) k
def badN (l : List Nd) (i : Nat) : Bool := decide (ndErr (l.getD i noN) i ≠ 0)
def oddN (l : List Nd) (i : Nat) : Bool := decide (usedTo l l.length i ≠ 1)
def formErr (l : List Nd) : Int :=
 if l.length = 0 then 5
 else if 30 < l.length then 4
 else if 0 ≤ findFrom (badN l) l.length 0 then ndErr (l.getD (findFrom (badN l) l.length 0).toNat noN) (findFrom (badN l) l.length 0).toNat
 else if 0 ≤ findFrom (oddN l) (l.length - 1) 0 then 3 else 0

section
variable {l : List Nd} {i : Nat}
theorem form_none (h : l.length = 0) : formErr l = 5 := by simp [formErr, h]
theorem form_full (h : 30 < l.length) : formErr l = 4 := by
 have h1 : l.length ≠ 0 := by omega
 rw [formErr, if_neg h1, if_pos h]
theorem form_bad (h : l.length ≤ 30) (hi : i < l.length) (hb : badN l i = true) (ha : ∀ j, j < i → badN l j = false) : formErr l = ndErr (l.getD i noN) i := by
 have h1 : ¬ l.length = 0 := by omega
 have h2 : ¬ 30 < l.length := by omega
 have h3 : findFrom (badN l) l.length 0 = (i : Int) := findFrom_at (Nat.zero_le _) (by omega) hb (fun j _ hj => ha j hj)
 rw [formErr, if_neg h1, if_neg h2, h3, if_pos (by omega)]
 simp
theorem form_odd (h0 : l.length ≠ 0) (h : l.length ≤ 30) (hb : ∀ j, j < l.length → badN l j = false) (hi : i < l.length - 1) (ho : oddN l i = true) : formErr l = 3 := by
 have h2 : ¬ 30 < l.length := by omega
 have h3 : findFrom (badN l) l.length 0 = -1 := findFrom_none (fun j _ hj => hb j (by omega))
 rw [formErr, if_neg h0, if_neg h2, h3, if_neg (by omega)]
 rcases findFrom_cases (oddN l) (l.length - 1) 0 with ⟨_, h5⟩ | ⟨m, e, _⟩
 ·rw [h5 i (Nat.zero_le _) (by omega)] at ho; cases ho
 ·rw [e, if_pos (by omega)]
theorem form_good (h0 : l.length ≠ 0) (h : l.length ≤ 30) (hb : ∀ j, j < l.length → badN l j = false) (ho : ∀ j, j < l.length - 1 → oddN l j = false) : formErr l = 0 := by
 have h2 : ¬ 30 < l.length := by omega
 have h3 : findFrom (badN l) l.length 0 = -1 := findFrom_none (fun j _ hj => hb j (by omega))
 have h4 : findFrom (oddN l) (l.length - 1) 0 = -1 := findFrom_none (fun j _ hj => ho j (by omega))
 rw [formErr, if_neg h0, if_neg h2, h3, if_neg (by omega), h4, if_neg (by omega)]
theorem form_right (h : formErr l = 0) : 0 < l.length ∧ l.length ≤ 30 ∧ (∀ j, j < l.length → ndErr (l.getD j noN) j = 0) ∧ ∀ j, j < l.length - 1 → usedTo l l.length j = 1 := by
 by_cases h0 : l.length = 0
 ·rw [form_none h0] at h; cases h
 by_cases h1 : 30 < l.length
 ·rw [form_full h1] at h; cases h
 refine ⟨by omega, by omega, ?_⟩
 rcases findFrom_cases (badN l) l.length 0 with ⟨_, h5⟩ | ⟨m, _, _, h6, h7, h8⟩
 ·have hb : ∀ j, j < l.length → badN l j = false := fun j hj => h5 j (Nat.zero_le _) (by omega)
  refine ⟨fun j hj => by simpa [badN] using hb j hj, fun j hj => ?_⟩
  rcases Bool.eq_false_or_eq_true (oddN l j) with ho | ho
  ·rw [form_odd h0 (by omega) hb hj ho] at h; cases h
  ·simpa [oddN] using ho
 ·rw [form_bad (by omega) (by omega) h7 (fun j hj => h8 j (Nat.zero_le _) hj)] at h
  exact absurd h (of_decide_eq_true h7)
end
end Go.Proofs.YtjffbmejobjmjafGreatDoor

namespace Go.Proofs.YtjffbmejobjmjafGreatDoor

def bindN (op : Int) : Int := if op = 3 ∨ op = 4 then 1 else if op = 5 ∨ op = 6 then 2 else 3
theorem bindN_ge (op : Int) : 1 ≤ bindN op := by unfold bindN; split <;> (try split) <;> omega
structure Bld where
 nodes : List Nd
 ready : List Int
 waiting : List Int
def noB : Bld := ⟨[], [], []⟩
def addB (x : Nd) (b : Bld) : Bld := ⟨b.nodes ++ [x], b.ready ++ [(b.nodes.length : Int)], b.waiting⟩
def joinBd (op : Int) (b : Bld) : Bld := addB ⟨op, 0, ⟨#[]⟩, b.ready.getD (b.ready.length - 2) 0, b.ready.getD (b.ready.length - 2 + 1) 0⟩ ⟨b.nodes, b.ready.take (b.ready.length - 2), b.waiting⟩
def settleTo (least : Int) : Nat → Bld → Bld
 | 0, b => b
 | k + 1, b => if b.waiting.getD k 0 = 0 ∨ bindN (b.waiting.getD k 0) < least then b else settleTo least k (joinBd (b.waiting.getD k 0) ⟨b.nodes, b.ready, b.waiting.take k⟩)
def settleB (least : Int) (b : Bld) : Bld := settleTo least b.waiting.length b
def numW (t : ByteArray) : Int := t.data.toList.foldl (fun n c => n * 10 + ((c.toNat : Int) - 48)) 0
def opndN (t : ByteArray) : Nd := if 97 ≤ byteN t 0 ∧ byteN t 0 ≤ 122 then ⟨2, 0, t, 0, 0⟩ else ⟨1, numW t, ⟨#[]⟩, 0, 0⟩
def signI (c : Int) : Int := if c = 43 then 0 else if c = 45 then 1 else if c = 42 then 2 else if c = 47 then 3 else -1
def takeB (b : Bld) (t : ByteArray) : Bld :=
 if byteN t 0 = 40 then ⟨b.nodes, b.ready, b.waiting ++ [0]⟩
 else if byteN t 0 = 41 then ⟨(settleB 0 b).nodes, (settleB 0 b).ready, (settleB 0 b).waiting.take ((settleB 0 b).waiting.length - 1)⟩
 else if 0 ≤ signI (byteN t 0) then ⟨(settleB (bindN (3 + signI (byteN t 0))) b).nodes, (settleB (bindN (3 + signI (byteN t 0))) b).ready, (settleB (bindN (3 + signI (byteN t 0))) b).waiting ++ [3 + signI (byteN t 0)]⟩
 else addB (opndN t) b

def zerosN (l : List Int) : Nat := l.countP (fun x => decide (x = 0))
def opsN (l : List Int) : Nat := l.countP (fun x => decide (x ≠ 0))
theorem zo_len (l : List Int) : zerosN l + opsN l = l.length := by
 induction l with
 | nil => rfl
 | cons x r ih =>
  simp only [zerosN, opsN, List.countP_cons, List.length_cons] at *
  by_cases h : x = 0
  ·rw [if_pos (by simpa using h), if_neg (by simpa using h)]; omega
  ·rw [if_neg (by simpa using h), if_pos (by simpa using h)]; omega

def digB (c : Int) : Bool := decide (48 ≤ c) && decide (c ≤ 57)
def letB (c : Int) : Bool := decide (97 ≤ c) && decide (c ≤ 122)
def leadTo (p : Int → Bool) (t : ByteArray) : Nat → Nat → Nat
 | 0, i => i
 | f + 1, i => if p (byteN t i) then leadTo p t f (i + 1) else i
def leadN (p : Int → Bool) (t : ByteArray) : Nat := leadTo p t t.size 0
def nextB (s : ByteArray) (a : Nat) : Int := if a = s.size then 0 else byteN s a

structure Rd (S : Type) where
 at' : Nat
 opn : Nat
 st : S
section
variable {S : Type} (s : ByteArray) (tk : S → ByteArray → S)
def wordR (n : Nat) (r : Rd S) : Rd S := ⟨r.at' + n, r.opn, tk r.st (s.extract r.at' (r.at' + n))⟩
def opensR : Nat → Rd S → Rd S
 | 0, r => r
 | f + 1, r => if nextB s r.at' = 40 then opensR f (wordR s tk 1 ⟨r.at', r.opn + 1, r.st⟩) else r
def closesR : Nat → Rd S → Rd S
 | 0, r => r
 | f + 1, r => if 0 < r.opn ∧ nextB s r.at' = 41 then closesR f (wordR s tk 1 ⟨r.at', r.opn - 1, r.st⟩) else r
def digitsN (a : Nat) : Nat := if nextB s a = 48 then 1 else min (leadN digB (s.extract a s.size)) 7
def openedR (r : Rd S) : Rd S := opensR s tk (s.size - r.at') r
def operandR (r : Rd S) : Rd S × Bool :=
 if digB (nextB s (openedR s tk r).at') then (closesR s tk s.size (wordR s tk (digitsN s (openedR s tk r).at') (openedR s tk r)), true)
 else if letB (nextB s (openedR s tk r).at') then (closesR s tk s.size (wordR s tk (leadN letB (s.extract (openedR s tk r).at' s.size)) (openedR s tk r)), true)
 else (openedR s tk r, false)
def signR (r : Rd S) : Rd S × Bool := if signI (nextB s r.at') < 0 then (r, false) else (wordR s tk 1 r, true)
def loopR : Nat → Rd S → Rd S × Bool
 | 0, r => (r, true)
 | f + 1, r => if r.at' < s.size then
   (if (signR s tk r).2 then (if (operandR s tk (signR s tk r).1).2 then loopR f (operandR s tk (signR s tk r).1).1 else ((operandR s tk (signR s tk r).1).1, false)) else ((signR s tk r).1, false))
  else (r, true)
def allR (r : Rd S) : Rd S × Bool :=
 if (operandR s tk r).2 then (if (loopR s tk s.size (operandR s tk r).1).2 then ((loopR s tk s.size (operandR s tk r).1).1, decide ((loopR s tk s.size (operandR s tk r).1).1.opn = 0)) else ((loopR s tk s.size (operandR s tk r).1).1, false))
 else ((operandR s tk r).1, false)
end

end Go.Proofs.YtjffbmejobjmjafGreatDoor

