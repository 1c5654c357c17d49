/-
  slices.IndexFunc and slices.ContainsFunc over the members of a dim, at any question that is told by a contract; the question of package outline: whether a member's name is the one of a member.
-/
import Derived.Test.YtklfenojapgmnaeDoorOut2
namespace Go.Proofs.YtklfenojapgmnaeDoor
open Go.ChangeShapes Go.WideShapes Go.ChangeAt Go.RowKit
set_option maxRecDepth 20000

def memV (m : Mem) : Value := .agg #[.string m.name, .int .i64 m.parent, .int .i64 m.sign, .string m.formula]
def MemAt (w : World) (b o : Nat) (m : Mem) : Prop := w.cell? ⟨b, o, none⟩ = some (.string m.name) ∧ w.cell? ⟨b, o + 1, none⟩ = some (.int .i64 m.parent) ∧ w.cell? ⟨b, o + 2, none⟩ = some (.int .i64 m.sign) ∧ w.cell? ⟨b, o + 3, none⟩ = some (.string m.formula)
def MemsAt (w : World) (b o n : Nat) (M : Nat → Mem) : Prop := b < w.heap.size ∧ ∀ i, i < n → MemAt w b (o + i * 4) (M i)
theorem MemAt.later {w w' : World} {b o : Nat} {m : Mem} (h : MemAt w b o m) (hb : b < w.heap.size) (hB : Below w.heap.size w w') : MemAt w' b o m :=
  ⟨(hB.cell (p := ⟨b, o, none⟩) hb).trans h.1, (hB.cell (p := ⟨b, o + 1, none⟩) hb).trans h.2.1, (hB.cell (p := ⟨b, o + 2, none⟩) hb).trans h.2.2.1, (hB.cell (p := ⟨b, o + 3, none⟩) hb).trans h.2.2.2⟩
theorem MemsAt.later {w w' : World} {b o n : Nat} {M : Nat → Mem} (h : MemsAt w b o n M) (hB : Below w.heap.size w w') : MemsAt w' b o n M :=
  ⟨Nat.lt_of_lt_of_le h.1 hB.size, fun i hi => (h.2 i hi).later h.1 hB⟩
theorem MemsAt.less {w : World} {b o n m : Nat} {M : Nat → Mem} (h : MemsAt w b o n M) (hm : m ≤ n) : MemsAt w b o m M := ⟨h.1, fun i hi => h.2 i (by omega)⟩

def EntersO (fn : Nat) : Prop := ∀ (args : Array Value) (w : World), (callFunc fn args).run Tryd.prog w = .ok (.enter fn args) w
def AskM (fn q : Nat) (w : World) (n : Nat) (M : Nat → Mem) (p : Nat → Bool) : Prop := ∀ (i : Nat) (w' : World), i < n → Below w.heap.size w w' → Calls Tryd.prog fn #[memV (M i), .pointer (some ⟨q, 0, none⟩)] w' fun e w'' => e = .returned (.bool (p i)) ∧ Below w'.heap.size w' w''

end Go.Proofs.YtklfenojapgmnaeDoor
