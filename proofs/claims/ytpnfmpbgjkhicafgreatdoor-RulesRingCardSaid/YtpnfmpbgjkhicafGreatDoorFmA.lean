/-
  Formulas as texts, as plain functions on plain data: how much an op binds; a builder of nodes (nodes, those that no other uses yet, ops that wait); a reader (where it is, how many brackets are open) that hands on word by word.
-/
import Derived.Test.YtpnfmpbgjkhicafGreatDoorForm1
namespace Go.Proofs.YtpnfmpbgjkhicafGreatDoor

def bindN (op : Int) : Int := if op = 3 ∨ op = 4 then 1 else if op = 5 ∨ op = 6 then 2 else 3
theorem bindN_ge (op : Int) : 1 ≤ bindN op := by unfold bindN; split <;> (try split) <;> omega
structure Bld where
  nodes : List Nd
  ready : List Int
  waiting : List Int
def noB : Bld := ⟨[], [], []⟩
def addB (x : Nd) (b : Bld) : Bld := ⟨b.nodes ++ [x], b.ready ++ [(b.nodes.length : Int)], b.waiting⟩
def joinBd (op : Int) (b : Bld) : Bld := addB ⟨op, 0, ⟨#[]⟩, b.ready.getD (b.ready.length - 2) 0, b.ready.getD (b.ready.length - 2 + 1) 0⟩ ⟨b.nodes, b.ready.take (b.ready.length - 2), b.waiting⟩
def settleTo (least : Int) : Nat → Bld → Bld
  | 0, b => b
  | k + 1, b => if b.waiting.getD k 0 = 0 ∨ bindN (b.waiting.getD k 0) < least then b else settleTo least k (joinBd (b.waiting.getD k 0) ⟨b.nodes, b.ready, b.waiting.take k⟩)
def settleB (least : Int) (b : Bld) : Bld := settleTo least b.waiting.length b
/-- the number that digits are -/
def numW (t : ByteArray) : Int := t.data.toList.foldl (fun n c => n * 10 + ((c.toNat : Int) - 48)) 0
def opndN (t : ByteArray) : Nd := if 97 ≤ byteN t 0 ∧ byteN t 0 ≤ 122 then ⟨2, 0, t, 0, 0⟩ else ⟨1, numW t, ⟨#[]⟩, 0, 0⟩
/-- the place of a sign among the four, or -1 -/
def signI (c : Int) : Int := if c = 43 then 0 else if c = 45 then 1 else if c = 42 then 2 else if c = 47 then 3 else -1
def takeB (b : Bld) (t : ByteArray) : Bld :=
  if byteN t 0 = 40 then ⟨b.nodes, b.ready, b.waiting ++ [0]⟩
  else if byteN t 0 = 41 then ⟨(settleB 0 b).nodes, (settleB 0 b).ready, (settleB 0 b).waiting.take ((settleB 0 b).waiting.length - 1)⟩
  else if 0 ≤ signI (byteN t 0) then ⟨(settleB (bindN (3 + signI (byteN t 0))) b).nodes, (settleB (bindN (3 + signI (byteN t 0))) b).ready, (settleB (bindN (3 + signI (byteN t 0))) b).waiting ++ [3 + signI (byteN t 0)]⟩
  else addB (opndN t) b

def zerosN (l : List Int) : Nat := l.countP (fun x => decide (x = 0))
def opsN (l : List Int) : Nat := l.countP (fun x => decide (x ≠ 0))
theorem zo_len (l : List Int) : zerosN l + opsN l = l.length := by
  induction l with
  | nil => rfl
  | cons x r ih =>
    simp only [zerosN, opsN, List.countP_cons, List.length_cons] at *
    by_cases h : x = 0
    · rw [if_pos (by simpa using h), if_neg (by simpa using h)]; omega
    · rw [if_neg (by simpa using h), if_pos (by simpa using h)]; omega

def digB (c : Int) : Bool := decide (48 ≤ c) && decide (c ≤ 57)
def letB (c : Int) : Bool := decide (97 ≤ c) && decide (c ≤ 122)
def leadTo (p : Int → Bool) (t : ByteArray) : Nat → Nat → Nat
  | 0, i => i
  | f + 1, i => if p (byteN t i) then leadTo p t f (i + 1) else i
def leadN (p : Int → Bool) (t : ByteArray) : Nat := leadTo p t t.size 0
def nextB (s : ByteArray) (a : Nat) : Int := if a = s.size then 0 else byteN s a

/-- what is read: where it is, how many brackets are open, what became of the words -/
structure Rd (S : Type) where
  at' : Nat
  opn : Nat
  st : S
section
variable {S : Type} (s : ByteArray) (tk : S → ByteArray → S)
def wordR (n : Nat) (r : Rd S) : Rd S := ⟨r.at' + n, r.opn, tk r.st (s.extract r.at' (r.at' + n))⟩
def opensR : Nat → Rd S → Rd S
  | 0, r => r
  | f + 1, r => if nextB s r.at' = 40 then opensR f (wordR s tk 1 ⟨r.at', r.opn + 1, r.st⟩) else r
def closesR : Nat → Rd S → Rd S
  | 0, r => r
  | f + 1, r => if 0 < r.opn ∧ nextB s r.at' = 41 then closesR f (wordR s tk 1 ⟨r.at', r.opn - 1, r.st⟩) else r
def digitsN (a : Nat) : Nat := if nextB s a = 48 then 1 else min (leadN digB (s.extract a s.size)) 7
def openedR (r : Rd S) : Rd S := opensR s tk (s.size - r.at') r
/-- an operand, with the brackets about it: what is read, and whether it went well -/
def operandR (r : Rd S) : Rd S × Bool :=
  if digB (nextB s (openedR s tk r).at') then (closesR s tk s.size (wordR s tk (digitsN s (openedR s tk r).at') (openedR s tk r)), true)
  else if letB (nextB s (openedR s tk r).at') then (closesR s tk s.size (wordR s tk (leadN letB (s.extract (openedR s tk r).at' s.size)) (openedR s tk r)), true)
  else (openedR s tk r, false)
def signR (r : Rd S) : Rd S × Bool := if signI (nextB s r.at') < 0 then (r, false) else (wordR s tk 1 r, true)
def loopR : Nat → Rd S → Rd S × Bool
  | 0, r => (r, true)
  | f + 1, r => if r.at' < s.size then
      (if (signR s tk r).2 then (if (operandR s tk (signR s tk r).1).2 then loopR f (operandR s tk (signR s tk r).1).1 else ((operandR s tk (signR s tk r).1).1, false)) else ((signR s tk r).1, false))
    else (r, true)
def allR (r : Rd S) : Rd S × Bool :=
  if (operandR s tk r).2 then (if (loopR s tk s.size (operandR s tk r).1).2 then ((loopR s tk s.size (operandR s tk r).1).1, decide ((loopR s tk s.size (operandR s tk r).1).1.opn = 0)) else ((loopR s tk s.size (operandR s tk r).1).1, false))
  else ((operandR s tk r).1, false)
end

end Go.Proofs.YtpnfmpbgjkhicafGreatDoor
