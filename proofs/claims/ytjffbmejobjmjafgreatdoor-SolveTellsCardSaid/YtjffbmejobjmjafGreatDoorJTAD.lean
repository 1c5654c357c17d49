/-
 What is wrong with a formula, as a plain function on plain data: of a node at its place, of all nodes in order, of who uses whom; small facts on them.
 Formulas as texts, as plain functions on plain data: how much an op binds; a builder of nodes (nodes, those that no other uses yet, ops that wait); a reader (where it is, how many brackets are open) that hands on word by word.
 errors.As at a target of type *api.Errno, of an error that is an api.Errno (it is found, and set), and of nil; plain.Told and tallysame.Error of such errors.
 plain.Told and tallysame.Error: of nil 0, of an api.Errno its number.
-/
import Derived.Test.YtjffbmejobjmjafGreatDoorJTAA
import Derived.LaidEql
import Derived.Stop.Asserts
import Derived.RowKitTokens
namespace Go.Proofs.YtjffbmejobjmjafGreatDoor

structure Nd where
 op : Int
 n : Int
 name : ByteArray
 left : Int
 right : Int
def noN : Nd := ⟨0, 0, ⟨#[]⟩, 0, 0⟩

def ndErr (x : Nd) (i : Nat) : Int :=
 if x.op < 1 ∨ 6 < x.op then 1
 else if x.op = 1 then (if x.n < 0 ∨ 1000000 < x.n then 1 else if x.name.size ≠ 0 ∨ x.left ≠ 0 ∨ x.right ≠ 0 then 3 else 0)
 else if x.op = 2 then (if nameErr x.name ≠ 0 then 2 else if x.n ≠ 0 ∨ x.left ≠ 0 ∨ x.right ≠ 0 then 3 else 0)
 else if x.left < 0 ∨ (i : Int) ≤ x.left ∨ x.right < 0 ∨ (i : Int) ≤ x.right then 1
 else if x.n ≠ 0 ∨ x.name.size ≠ 0 then 3 else 0
def uses (x : Nd) (k : Nat) : Nat := if 2 < x.op then (if x.left = (k : Int) then 1 else 0) + (if x.right = (k : Int) then 1 else 0) else 0
def usedTo (l : List Nd) : Nat → Nat → Nat
 | 0, _ => 0
 | i + 1, k => usedTo l i k + uses (l.getD i noN) k
def badN (l : List Nd) (i : Nat) : Bool := decide (ndErr (l.getD i noN) i ≠ 0)
def oddN (l : List Nd) (i : Nat) : Bool := decide (usedTo l l.length i ≠ 1)
def formErr (l : List Nd) : Int :=
 if l.length = 0 then 5
 else if 30 < l.length then 4
 else if 0 ≤ findFrom (badN l) l.length 0 then ndErr (l.getD (findFrom (badN l) l.length 0).toNat noN) (findFrom (badN l) l.length 0).toNat
 else if 0 ≤ findFrom (oddN l) (l.length - 1) 0 then 3 else 0

section
variable {l : List Nd} {i : Nat}
theorem form_none (h : l.length = 0) : formErr l = 5 := by simp [formErr, h]
theorem form_full (h : 30 < l.length) : formErr l = 4 := by
 have h1 : l.length ≠ 0 := by omega
 rw [formErr, if_neg h1, if_pos h]
theorem form_bad (h : l.length ≤ 30) (hi : i < l.length) (hb : badN l i = true) (ha : ∀ j, j < i → badN l j = false) : formErr l = ndErr (l.getD i noN) i := by
 have h1 : ¬ l.length = 0 := by omega
 have h2 : ¬ 30 < l.length := by omega
 have h3 : findFrom (badN l) l.length 0 = (i : Int) := findFrom_at (Nat.zero_le _) (by omega) hb (fun j _ hj => ha j hj)
 rw [formErr, if_neg h1, if_neg h2, h3, if_pos (by omega)]
 simp
theorem form_odd (h0 : l.length ≠ 0) (h : l.length ≤ 30) (hb : ∀ j, j < l.length → badN l j = false) (hi : i < l.length - 1) (ho : oddN l i = true) : formErr l = 3 := by
 have h2 : ¬ 30 < l.length := by omega
 have h3 : findFrom (badN l) l.length 0 = -1 := findFrom_none (fun j _ hj => hb j (by omega))
 rw [formErr, if_neg h0, if_neg h2, h3, if_neg (by omega)]
 rcases findFrom_cases (oddN l) (l.length - 1) 0 with ⟨_, h5⟩ | ⟨m, e, _⟩
 ·rw [h5 i (Nat.zero_le _) (by omega)] at ho; cases ho
 ·rw [e, if_pos (by omega)]
theorem form_good (h0 : l.length ≠ 0) (h : l.length ≤ 30) (hb : ∀ j, j < l.length → badN l j = false) (ho : ∀ j, j < l.length - 1 → oddN l j = false) : formErr l = 0 := by
 have h2 : ¬ 30 < l.length := by omega
 have h3 : findFrom (badN l) l.length 0 = -1 := findFrom_none (fun j _ hj => hb j (by omega))
 have h4 : findFrom (oddN l) (l.length - 1) 0 = -1 := findFrom_none (fun j _ hj => ho j (by omega))
 rw [formErr, if_neg h0, if_neg h2, h3, if_neg (by omega), h4, if_neg (by omega)]
theorem form_right (h : formErr l = 0) : 0 < l.length ∧ l.length ≤ 30 ∧ (∀ j, j < l.length → ndErr (l.getD j noN) j = 0) ∧ ∀ j, j < l.length - 1 → usedTo l l.length j = 1 := by
 by_cases h0 : l.length = 0
 ·rw [form_none h0] at h; cases h
 by_cases h1 : 30 < l.length
 ·rw [form_full h1] at h; cases h
 refine ⟨by omega, by omega, ?_⟩
 rcases findFrom_cases (badN l) l.length 0 with ⟨_, h5⟩ | ⟨m, _, _, h6, h7, h8⟩
 ·have hb : ∀ j, j < l.length → badN l j = false := fun j hj => h5 j (Nat.zero_le _) (by omega)
  refine ⟨fun j hj => by simpa [badN] using hb j hj, fun j hj => ?_⟩
  rcases Bool.eq_false_or_eq_true (oddN l j) with ho | ho
  ·rw [form_odd h0 (by omega) hb hj ho] at h; cases h
  ·simpa [oddN] using ho
 ·rw [form_bad (by omega) (by omega) h7 (fun j hj => h8 j (Nat.zero_le _) hj)] at h
  exact absurd h (of_decide_eq_true h7)
end
end Go.Proofs.YtjffbmejobjmjafGreatDoor

namespace Go.Proofs.YtjffbmejobjmjafGreatDoor

def bindN (op : Int) : Int := if op = 3 ∨ op = 4 then 1 else if op = 5 ∨ op = 6 then 2 else 3
theorem bindN_ge (op : Int) : 1 ≤ bindN op := by unfold bindN; split <;> (try split) <;> omega
structure Bld where
 nodes : List Nd
 ready : List Int
 waiting : List Int
def noB : Bld := ⟨[], [], []⟩
def addB (x : Nd) (b : Bld) : Bld := ⟨b.nodes ++ [x], b.ready ++ [(b.nodes.length : Int)], b.waiting⟩
def joinBd (op : Int) (b : Bld) : Bld := addB ⟨op, 0, ⟨#[]⟩, b.ready.getD (b.ready.length - 2) 0, b.ready.getD (b.ready.length - 2 + 1) 0⟩ ⟨b.nodes, b.ready.take (b.ready.length - 2), b.waiting⟩
def settleTo (least : Int) : Nat → Bld → Bld
 | 0, b => b
 | k + 1, b => if b.waiting.getD k 0 = 0 ∨ bindN (b.waiting.getD k 0) < least then b else settleTo least k (joinBd (b.waiting.getD k 0) ⟨b.nodes, b.ready, b.waiting.take k⟩)
def settleB (least : Int) (b : Bld) : Bld := settleTo least b.waiting.length b
def numW (t : ByteArray) : Int := t.data.toList.foldl (fun n c => n * 10 + ((c.toNat : Int) - 48)) 0
def opndN (t : ByteArray) : Nd := if 97 ≤ byteN t 0 ∧ byteN t 0 ≤ 122 then ⟨2, 0, t, 0, 0⟩ else ⟨1, numW t, ⟨#[]⟩, 0, 0⟩
def signI (c : Int) : Int := if c = 43 then 0 else if c = 45 then 1 else if c = 42 then 2 else if c = 47 then 3 else -1
def takeB (b : Bld) (t : ByteArray) : Bld :=
 if byteN t 0 = 40 then ⟨b.nodes, b.ready, b.waiting ++ [0]⟩
 else if byteN t 0 = 41 then ⟨(settleB 0 b).nodes, (settleB 0 b).ready, (settleB 0 b).waiting.take ((settleB 0 b).waiting.length - 1)⟩
 else if 0 ≤ signI (byteN t 0) then ⟨(settleB (bindN (3 + signI (byteN t 0))) b).nodes, (settleB (bindN (3 + signI (byteN t 0))) b).ready, (settleB (bindN (3 + signI (byteN t 0))) b).waiting ++ [3 + signI (byteN t 0)]⟩
 else addB (opndN t) b

def zerosN (l : List Int) : Nat := l.countP (fun x => decide (x = 0))
def opsN (l : List Int) : Nat := l.countP (fun x => decide (x ≠ 0))
theorem zo_len (l : List Int) : zerosN l + opsN l = l.length := by
 induction l with
 | nil => rfl
 | cons x r ih =>
  simp only [zerosN, opsN, List.countP_cons, List.length_cons] at *
  by_cases h : x = 0
  ·rw [if_pos (by simpa using h), if_neg (by simpa using h)]; omega
  ·rw [if_neg (by simpa using h), if_pos (by simpa using h)]; omega

def digB (c : Int) : Bool := decide (48 ≤ c) && decide (c ≤ 57)
def letB (c : Int) : Bool := decide (97 ≤ c) && decide (c ≤ 122)
def leadTo (p : Int → Bool) (t : ByteArray) : Nat → Nat → Nat
 | 0, i => i
 | f + 1, i => if p (byteN t i) then leadTo p t f (i + 1) else i
def leadN (p : Int → Bool) (t : ByteArray) : Nat := leadTo p t t.size 0
def nextB (s : ByteArray) (a : Nat) : Int := if a = s.size then 0 else byteN s a

structure Rd (S : Type) where
 at' : Nat
 opn : Nat
 st : S
section
variable {S : Type} (s : ByteArray) (tk : S → ByteArray → S)
def wordR (n : Nat) (r : Rd S) : Rd S := ⟨r.at' + n, r.opn, tk r.st (s.extract r.at' (r.at' + n))⟩
def opensR : Nat → Rd S → Rd S
 | 0, r => r
 | f + 1, r => if nextB s r.at' = 40 then opensR f (wordR s tk 1 ⟨r.at', r.opn + 1, r.st⟩) else r
def closesR : Nat → Rd S → Rd S
 | 0, r => r
 | f + 1, r => if 0 < r.opn ∧ nextB s r.at' = 41 then closesR f (wordR s tk 1 ⟨r.at', r.opn - 1, r.st⟩) else r
def digitsN (a : Nat) : Nat := if nextB s a = 48 then 1 else min (leadN digB (s.extract a s.size)) 7
def openedR (r : Rd S) : Rd S := opensR s tk (s.size - r.at') r
def operandR (r : Rd S) : Rd S × Bool :=
 if digB (nextB s (openedR s tk r).at') then (closesR s tk s.size (wordR s tk (digitsN s (openedR s tk r).at') (openedR s tk r)), true)
 else if letB (nextB s (openedR s tk r).at') then (closesR s tk s.size (wordR s tk (leadN letB (s.extract (openedR s tk r).at' s.size)) (openedR s tk r)), true)
 else (openedR s tk r, false)
def signR (r : Rd S) : Rd S × Bool := if signI (nextB s r.at') < 0 then (r, false) else (wordR s tk 1 r, true)
def loopR : Nat → Rd S → Rd S × Bool
 | 0, r => (r, true)
 | f + 1, r => if r.at' < s.size then
   (if (signR s tk r).2 then (if (operandR s tk (signR s tk r).1).2 then loopR f (operandR s tk (signR s tk r).1).1 else ((operandR s tk (signR s tk r).1).1, false)) else ((signR s tk r).1, false))
  else (r, true)
def allR (r : Rd S) : Rd S × Bool :=
 if (operandR s tk r).2 then (if (loopR s tk s.size (operandR s tk r).1).2 then ((loopR s tk s.size (operandR s tk r).1).1, decide ((loopR s tk s.size (operandR s tk r).1).1.opn = 0)) else ((loopR s tk s.size (operandR s tk r).1).1, false))
 else ((operandR s tk r).1, false)
end

end Go.Proofs.YtjffbmejobjmjafGreatDoor

namespace Go.Proofs.YtjffbmejobjmjafGreatDoor
open Go.RowKit Go.Extern.Stop Go.Stop Go.Extern

theorem valueOfP (t : Addr) (w : World) : (ReflectliteValue.unpack (.iface 91 (.pointer (some t)))).run Tryz.prog w
  = .ok (.agg #[.pointer (some ⟨7, 91, none⟩), .pointer (some ⟨w.heap.size, 0, none⟩), .int .u64 150]) (w.alloc (.cells #[.pointer (some t)] 91)) := by kernel_rfl
theorem typeP (a : Addr) (w : World) : (ReflectliteValue.methodAny (ReflectliteValue.valueError "reflectlite.Value.Type" 0) (fun t _ _ _ => ReflectliteType.toType t) #[.agg #[.pointer (some ⟨7, 91, none⟩), .pointer (some a), .int .u64 150]]).run Tryz.prog w
  = .ok (.iface 187 (.agg #[.pointer (some ⟨7, 91, none⟩)])) w := by kernel_rfl
theorem methodKind (h : Value) (w : World) : (Go.method 434 187 (.agg #[h]) "Kind").run Tryz.prog w = .ok (283, h) w := by kernel_rfl
theorem kindP (w : World) : ((ReflectliteType.abiMethod fun t => Functor.map (fun a : Nat => Value.int IntKind.u8 (a : Int)) (Rtype.kind t)) #[.pointer (some ⟨7, 91, none⟩)]).run Tryz.prog w = .ok (.int .u8 22) w := by kernel_rfl
theorem kindN (w : World) : ((ReflectliteType.abiMethod fun t => Functor.map (fun a : Nat => Value.int IntKind.u8 (a : Int)) (Rtype.kind t)) #[.pointer (some ⟨7, 65, none⟩)]).run Tryz.prog w = .ok (.int .u8 2) w := by kernel_rfl
theorem methodNil (a : Addr) (W : World) : (ReflectliteValue.method (ReflectliteValue.valueError "reflectlite.Value.IsNil" 0) ReflectliteValue.isNil #[.agg #[.pointer (some ⟨7, 91, none⟩), .pointer (some a), .int .u64 150]]).run Tryz.prog W = (ReflectliteValue.isNil 91 a 150 22).run Tryz.prog W := by kernel_rfl
theorem methodElemV (a : Addr) (W : World) : (ReflectliteValue.method (ReflectliteValue.valueError "reflectlite.Value.Elem" 0) ReflectliteValue.elem #[.agg #[.pointer (some ⟨7, 91, none⟩), .pointer (some a), .int .u64 150]]).run Tryz.prog W = (ReflectliteValue.elem 91 a 150 22).run Tryz.prog W := by kernel_rfl
theorem setRun (ta b : Addr) (W : World) : (ReflectliteValue.set #[.agg #[.pointer (some ⟨7, 65, none⟩), .pointer (some ta), .int .u64 386], .agg #[.pointer (some ⟨7, 65, none⟩), .pointer (some b), .int .u64 130]]).run Tryz.prog W = (do let v ← loadVar 65 b; storeVar 65 ta v; pure (Value.tuple #[]) : Sem Value).run Tryz.prog W := by kernel_rfl
theorem isNilP (a p : Addr) (W : World) (ha : W.cell? a = some (.pointer (some p))) :
  (ReflectliteValue.method (ReflectliteValue.valueError "reflectlite.Value.IsNil" 0) ReflectliteValue.isNil #[.agg #[.pointer (some ⟨7, 91, none⟩), .pointer (some a), .int .u64 150]]).run Tryz.prog W = .ok (.bool false) W := by
 rw [methodNil]
 simp [ReflectliteValue.isNil, loadVar, isAgg, underlying, Tryz.underlying91, ha, Result.andThen]
theorem methodElem (h : Value) (w : World) : (Go.method 434 187 (.agg #[h]) "Elem").run Tryz.prog w = .ok (293, .agg #[h]) w := by kernel_rfl
theorem methodImplements (h : Value) (w : World) : (Go.method 434 187 (.agg #[h]) "Implements").run Tryz.prog w = .ok (294, .agg #[h]) w := by kernel_rfl
theorem methodAssignableTo (h : Value) (w : World) : (Go.method 434 187 (.agg #[h]) "AssignableTo").run Tryz.prog w = .ok (291, .agg #[h]) w := by kernel_rfl
theorem elemP (w : World) : (ReflectliteType.method ReflectliteType.elem #[.agg #[.pointer (some ⟨7, 91, none⟩)]]).run Tryz.prog w = .ok (.iface 187 (.agg #[.pointer (some ⟨7, 65, none⟩)])) w := by kernel_rfl
theorem implementsN (w : World) : (ReflectliteType.relation "Implements" ReflectliteType.implements_ #[.agg #[.pointer (some ⟨7, 65, none⟩)], .iface 187 (.agg #[.pointer (some ⟨7, 29, none⟩)])]).run Tryz.prog w = .ok (.bool true) w := by kernel_rfl
theorem typeOfN (v : Value) (w : World) : (ReflectliteType.typeOf #[.iface 65 v]).run Tryz.prog w = .ok (.iface 187 (.agg #[.pointer (some ⟨7, 65, none⟩)])) w := by kernel_rfl
theorem assignableN (w : World) : (ReflectliteType.relation "AssignableTo" ReflectliteType.assignableTo #[.agg #[.pointer (some ⟨7, 65, none⟩)], .iface 187 (.agg #[.pointer (some ⟨7, 65, none⟩)])]).run Tryz.prog w = .ok (.bool true) w := by kernel_rfl
theorem valueOfN (c : Int) (w : World) : (ReflectliteValue.unpack (.iface 65 (.int .i64 c))).run Tryz.prog w
  = .ok (.agg #[.pointer (some ⟨7, 65, none⟩), .pointer (some ⟨w.heap.size, 0, none⟩), .int .u64 130]) (w.alloc (.cells #[.int .i64 c] 65)) := by kernel_rfl
theorem elemOfP (w : World) : (Rtype.elem? 91).run Tryz.prog w = .ok (some 65) w := by kernel_rfl
theorem mkN (p : Addr) (w : World) : (ReflectliteValue.mk 65 p ReflectliteValue.flagAddr).run Tryz.prog w = .ok (.agg #[.pointer (some ⟨7, 65, none⟩), .pointer (some p), .int .u64 386]) w := by kernel_rfl
theorem elemVP (a p : Addr) (W : World) (ha : W.cell? a = some (.pointer (some p))) :
  (ReflectliteValue.method (ReflectliteValue.valueError "reflectlite.Value.Elem" 0) ReflectliteValue.elem #[.agg #[.pointer (some ⟨7, 91, none⟩), .pointer (some a), .int .u64 150]]).run Tryz.prog W
   = .ok (.agg #[.pointer (some ⟨7, 65, none⟩), .pointer (some p), .int .u64 386]) W := by
 rw [methodElemV]
 simp [ReflectliteValue.elem, loadVar, isAgg, underlying, Tryz.underlying91, ha, Result.andThen, elemOfP, mkN]
theorem setN (ta b : Addr) (c : Int) (old : Value) (W : World) (hb : W.cell? b = some (.int .i64 c)) (ht : W.cell? ta = some old) (hf : W.frozen? ta = false) :
  (ReflectliteValue.set #[.agg #[.pointer (some ⟨7, 65, none⟩), .pointer (some ta), .int .u64 386], .agg #[.pointer (some ⟨7, 65, none⟩), .pointer (some b), .int .u64 130]]).run Tryz.prog W
   = .ok (.tuple #[]) (W.setCell ta (.int .i64 c)) := by
 rw [setRun]
 simp [loadVar, isAgg, underlying, Tryz.underlying65, hb, Result.andThen, storeVar, Value.cells, storeCells, Addr.add]
 rw [run_store Tryz.prog W ta _ _ (by rfl)]
 simp [ht, hf]

def Kind0 (w : World) : Prop := w.cell? ⟨0, 0, none⟩ = some (.iface 187 (.agg #[.pointer (some ⟨7, 29, none⟩)]))
theorem Kind0.lt {w : World} (h : Kind0 w) : 0 < w.heap.size := by
 rcases Nat.lt_or_ge 0 w.heap.size with h' | h'
 ·exact h'
 ·unfold Kind0 at h
  simp [World.cell?, Array.getElem?_eq_none h'] at h
theorem Kind0.later {w w' : World} (h : Kind0 w) (hb : Below w.heap.size w w') : Kind0 w' := (hb.cell (p := ⟨0, 0, none⟩) h.lt).trans h

set_option maxHeartbeats 4000000 in
theorem as_hit (c : Int) (b : Nat) (w : World) (hk : Kind0 w) (htl : b < w.heap.size) (ht0 : w.cell? ⟨b, 0, none⟩ = some (.int .i64 0)) (hf0 : w.frozen? ⟨b, 0, none⟩ = false) :
  Calls Tryz.prog 47 #[.iface 65 (.int .i64 c), .iface 91 (.pointer (some ⟨b, 0, none⟩))] w fun ev w' => ev = .returned (.bool true) ∧ w' = ((((w.alloc (.cells #[.pointer (some ⟨b, 0, none⟩)] 91)).alloc (.cells #[.pointer (some ⟨7, 91, none⟩), .pointer (some ⟨w.heap.size, 0, none⟩), .int .u64 150] 140)).alloc (.cells #[.pointer (some ⟨7, 91, none⟩), .pointer (some ⟨w.heap.size, 0, none⟩), .int .u64 150] 140)).alloc (.cells #[.int .i64 c] 65)).setCell ⟨b, 0, none⟩ (.int .i64 c) := by
 have x1 := @run_callFunc_extern Tryz.prog 88 _ (fun args => ReflectliteValue.unpack (args.getD 0 (.tuple #[]))) Tryz.func88 (by kernel_rfl) (by kernel_rfl) (by kernel_rfl) (by kernel_rfl)
 have x2 := @run_callFunc_extern Tryz.prog 89 _ (ReflectliteValue.methodAny (ReflectliteValue.valueError "reflectlite.Value.Type" 0) (fun t _ _ _ => ReflectliteType.toType t)) Tryz.func89 (by kernel_rfl) (by kernel_rfl) (by kernel_rfl) (by kernel_rfl)
 have x3 := @run_callFunc_extern Tryz.prog 90 _ (ReflectliteValue.method (ReflectliteValue.valueError "reflectlite.Value.IsNil" 0) ReflectliteValue.isNil) Tryz.func90 (by kernel_rfl) (by kernel_rfl) (by kernel_rfl) (by kernel_rfl)
 have x4 := @run_callFunc_extern Tryz.prog 283 _ (ReflectliteType.abiMethod fun t => do pure (.int .u8 (← Rtype.kind t))) Tryz.func283 (by kernel_rfl) (by kernel_rfl) (by kernel_rfl) (by kernel_rfl)
 have x5 := @run_callFunc_extern Tryz.prog 293 _ (ReflectliteType.method ReflectliteType.elem) Tryz.func293 (by kernel_rfl) (by kernel_rfl) (by kernel_rfl) (by kernel_rfl)
 have x6 := @run_callFunc_extern Tryz.prog 294 _ (ReflectliteType.relation "Implements" ReflectliteType.implements_) Tryz.func294 (by kernel_rfl) (by kernel_rfl) (by kernel_rfl) (by kernel_rfl)
 have x7 := @run_callFunc_extern Tryz.prog 127 _ ReflectliteType.typeOf Tryz.func127 (by kernel_rfl) (by kernel_rfl) (by kernel_rfl) (by kernel_rfl)
 have x8 := @run_callFunc_extern Tryz.prog 291 _ (ReflectliteType.relation "AssignableTo" ReflectliteType.assignableTo) Tryz.func291 (by kernel_rfl) (by kernel_rfl) (by kernel_rfl) (by kernel_rfl)
 have x9 := @run_callFunc_extern Tryz.prog 128 _ (ReflectliteValue.method (ReflectliteValue.valueError "reflectlite.Value.Elem" 0) ReflectliteValue.elem) Tryz.func128 (by kernel_rfl) (by kernel_rfl) (by kernel_rfl) (by kernel_rfl)
 have xa := @run_callFunc_extern Tryz.prog 129 _ ReflectliteValue.set Tryz.func129 (by kernel_rfl) (by kernel_rfl) (by kernel_rfl) (by kernel_rfl)
 have y1 := typeOfN
 have y2 := methodAssignableTo
 have y3 := assignableN
 have y4 := valueOfN
 have y5 := valueOfP
 have y6 := typeP
 have y7 := methodKind
 have y8 := methodElem
 have y9 := methodImplements
 have ya := kindP
 have yb := kindN
 have yc := elemP
 have yd := implementsN
 have n8 := isNilP ⟨w.heap.size, 0, none⟩ ⟨b, 0, none⟩ ((w.alloc (.cells #[.pointer (some ⟨b, 0, none⟩)] 91)).alloc (.cells #[.pointer (some ⟨7, 91, none⟩), .pointer (some ⟨w.heap.size, 0, none⟩), .int .u64 150] 140)) (by simp)
 have hlt := hk.lt
 have hg2 : ((w.alloc (.cells #[.pointer (some ⟨b, 0, none⟩)] 91)).alloc (.cells #[.pointer (some ⟨7, 91, none⟩), .pointer (some ⟨w.heap.size, 0, none⟩), .int .u64 150] 140)).cell? ⟨0, 0, none⟩ = some (.iface 187 (.agg #[.pointer (some ⟨7, 29, none⟩)])) := by
  rw [World.cell?_alloc_lt _ _ ⟨0, 0, none⟩ (by simp), World.cell?_alloc_lt _ _ ⟨0, 0, none⟩ hlt]; exact hk
 have el := elemVP ⟨w.heap.size, 0, none⟩ ⟨b, 0, none⟩ (((w.alloc (.cells #[.pointer (some ⟨b, 0, none⟩)] 91)).alloc (.cells #[.pointer (some ⟨7, 91, none⟩), .pointer (some ⟨w.heap.size, 0, none⟩), .int .u64 150] 140)).alloc (.cells #[.pointer (some ⟨7, 91, none⟩), .pointer (some ⟨w.heap.size, 0, none⟩), .int .u64 150] 140)) (by rw [World.cell?_alloc_lt _ _ ⟨w.heap.size, 0, none⟩ (by simp; omega)]; simp)
 have st := setN ⟨b, 0, none⟩ ⟨w.heap.size + 1 + 1 + 1, 0, none⟩ c (.int .i64 0) ((((w.alloc (.cells #[.pointer (some ⟨b, 0, none⟩)] 91)).alloc (.cells #[.pointer (some ⟨7, 91, none⟩), .pointer (some ⟨w.heap.size, 0, none⟩), .int .u64 150] 140)).alloc (.cells #[.pointer (some ⟨7, 91, none⟩), .pointer (some ⟨w.heap.size, 0, none⟩), .int .u64 150] 140)).alloc (.cells #[.int .i64 c] 65))
  (by rw [World.cell?_alloc_at _ _ _ _ (by simp)]; rfl)
  (by rw [World.cell?_alloc_lt _ _ ⟨b, 0, none⟩ (by simp; omega), World.cell?_alloc_lt _ _ ⟨b, 0, none⟩ (by simp; omega), World.cell?_alloc_lt _ _ ⟨b, 0, none⟩ (by simp; omega), World.cell?_alloc_lt _ _ ⟨b, 0, none⟩ htl]; exact ht0)
  (by rw [World.frozen?_alloc_old _ _ ⟨b, 0, none⟩ (by simp; omega), World.frozen?_alloc_old _ _ ⟨b, 0, none⟩ (by simp; omega), World.frozen?_alloc_old _ _ ⟨b, 0, none⟩ (by simp; omega), World.frozen?_alloc_old _ _ ⟨b, 0, none⟩ (Nat.ne_of_lt htl)]; exact hf0)
 clear hk
 go_enter Tryz.func47, Tryz.ntmps47
 go_wp2
 refine wp_loop_rounds 1 ?_
 rw [rounds_succ]
 go_wp2
 go_ret
 exact ⟨rfl, rfl⟩
end Go.Proofs.YtjffbmejobjmjafGreatDoor

namespace Go.Proofs.YtjffbmejobjmjafGreatDoor
open Go.ChangeShapes Go.WideShapes Go.ChangeAt Go.RowKit

theorem told_nil (w : World) : Calls Tryz.prog 25 #[.nilIface] w fun e w' => e = .returned (.int .i64 0) ∧ w' = w := by
 go_enter Tryz.func25, Tryz.ntmps25
 go_wp2
 go_ret
 exact ⟨rfl, rfl⟩

theorem told_hit (c : Int) (w : World) (hk : Kind0 w) : Calls Tryz.prog 25 #[.iface 65 (.int .i64 c)] w fun e w' => e = .returned (.int .i64 c) ∧ Below w.heap.size w w' := by
 have h := as_hit c w.heap.size (w.alloc (.cells #[.int .i64 0] 65)) (hk.later ((Below.refl _ _).alloc (Nat.le_refl _) _)) (by simp) (by simp) (by simp)
 go_enter Tryz.func25, Tryz.ntmps25
 go_wp2_with fail
 refine h.mono ?_
 rintro e w1 ⟨rfl, hw1⟩
 have hB : Below w.heap.size w w1 := by rw [hw1]; go_grown
 have hc : w1.cell? ⟨w.heap.size, 0, none⟩ = some (.int .i64 c) := by
  rw [hw1]
  refine World.cell?_setCell_same _ _ _ (u := .int .i64 0) ?_
  rw [World.cell?_alloc_lt _ _ ⟨w.heap.size, 0, none⟩ (by first | (simp; done) | (simp; omega)), World.cell?_alloc_lt _ _ ⟨w.heap.size, 0, none⟩ (by first | (simp; done) | (simp; omega)), World.cell?_alloc_lt _ _ ⟨w.heap.size, 0, none⟩ (by first | (simp; done) | (simp; omega)), World.cell?_alloc_lt _ _ ⟨w.heap.size, 0, none⟩ (by first | (simp; done) | (simp; omega))]
  simp
 clear hw1 h hk
 go_wp2_with fail
 go_ret
 exact ⟨rfl, hB⟩

theorem same_nil (n : Int) (w : World) : Calls Tryz.prog 12 #[.nilIface, .int .i64 n] w fun e w' => e = .returned (.bool (0 == n)) ∧ Below w.heap.size w w' := by
 go_enter Tryz.func12, Tryz.ntmps12
 go_wp2_with (go_at_call 25; refine (told_nil _).mono ?_; rintro e w1 ⟨rfl, rfl⟩)
 go_ret
 exact ⟨rfl, Below.refl _ _⟩
theorem same_hit (c n : Int) (w : World) (hk : Kind0 w) : Calls Tryz.prog 12 #[.iface 65 (.int .i64 c), .int .i64 n] w fun e w' => e = .returned (.bool (c == n)) ∧ Below w.heap.size w w' := by
 go_enter Tryz.func12, Tryz.ntmps12
 go_wp2_with fail
 refine (told_hit c _ hk).mono ?_
 rintro e w1 ⟨rfl, hb⟩
 go_wp2_with fail
 go_ret
 exact ⟨rfl, hb⟩
end Go.Proofs.YtjffbmejobjmjafGreatDoor

