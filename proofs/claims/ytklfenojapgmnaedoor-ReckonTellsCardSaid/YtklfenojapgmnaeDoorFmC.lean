/-
  What the reader of package formula does, in whatever memory: the byte that is next, how many digits; a word that is handed on; where it stops.
-/
import Derived.Test.YtklfenojapgmnaeDoorFmB
import Derived.WalkSmall
import Derived.Deep.AppendLies
import Derived.Deep.RegionLaw
import Derived.Deep.DeepCutAuto
namespace Go.Proofs.YtklfenojapgmnaeDoor
open Go.ChangeShapes Go.WideShapes Go.ChangeAt Go.RowKit
set_option maxRecDepth 20000

theorem below_drewN {B : Nat} {a w : World} (h : Below B a w) (n : Nat) : Below B a (w.drewN n) := h.trans ⟨rfl, rfl, rfl, Nat.le_refl _, fun _ _ => rfl⟩

section
variable {w w' : World} {q a o : Nat} {s : ByteArray} {tv : Value}
end

/-- what lies below a number stays but for some blocks -/
structure Kept (N : Nat) (X : Nat → Prop) (w w' : World) : Prop where
  os : w'.os = w.os
  tape : w'.tape = w.tape
  output : w'.output = w.output
  size : w.heap.size ≤ w'.heap.size
  block : ∀ k, k < N → ¬ X k → w'.heap[k]? = w.heap[k]?
section
variable {N : Nat} {X Y : Nat → Prop} {w w' w'' : World}
theorem Kept.refl (N : Nat) (X : Nat → Prop) (w : World) : Kept N X w w := ⟨rfl, rfl, rfl, Nat.le_refl _, fun _ _ _ => rfl⟩
theorem Kept.trans (h : Kept N X w w') (k : Kept N X w' w'') : Kept N X w w'' := ⟨k.os.trans h.os, k.tape.trans h.tape, k.output.trans h.output, Nat.le_trans h.size k.size, fun i hi hx => (k.block i hi hx).trans (h.block i hi hx)⟩
theorem Kept.wide (h : Kept N X w w') (hx : ∀ k, X k → Y k) : Kept N Y w w' := ⟨h.os, h.tape, h.output, h.size, fun i hi hy => h.block i hi fun e => hy (hx i e)⟩
theorem kept_below (h : Below w.heap.size w w') (hN : N ≤ w.heap.size) : Kept N X w w' := ⟨h.os, h.tape, h.output, h.size, fun i hi _ => h.block i (Nat.lt_of_lt_of_le hi hN)⟩
theorem kept_grown {q : Nat} (h : w.grownBy w' (some q)) (hN : N ≤ w.heap.size) (hX : X q) : Kept N X w w' := ⟨h.os, h.tape, h.output, h.size, fun i hi hx => h.block i (Nat.lt_of_lt_of_le hi hN) fun e => hx (by cases e; exact hX)⟩
end
theorem setCell_off (w : World) (q j k : Nat) (v : Value) (h : k ≠ q) : (w.setCell ⟨q, j, none⟩ v).heap[k]? = w.heap[k]? := by
  simp only [World.setCell]
  rw [Array.getElem?_modify, if_neg (fun e => h e.symm)]
theorem grownF_refl (w : World) (r : Option Nat) : w.grownBy w r := ⟨rfl, rfl, rfl, Nat.le_refl _, fun _ _ _ => rfl⟩
theorem grownF_below {w w' : World} {r : Option Nat} (h : Below w.heap.size w w') : w.grownBy w' r := ⟨h.os, h.tape, h.output, h.size, fun i hi _ => h.block i hi⟩
theorem grownF_set {w w' : World} {q j : Nat} {v : Value} (h : w.grownBy w' (some q)) : w.grownBy (w'.setCell ⟨q, j, none⟩ v) (some q) :=
  ⟨h.os, h.tape, h.output, by simpa using h.size, fun k hk hr => by
    have hne : k ≠ q := fun e => hr (by rw [e])
    exact (setCell_off w' q j k v hne).trans (h.block k hk hr)⟩

/-- which words may come, and what becomes of the brackets: ahead of an operand (false) or behind one (true) -/
inductive Stp : Nat → Bool → ByteArray → Nat → Bool → Prop
  | opn (o : Nat) (t : ByteArray) : t.size = 1 → byteN t 0 = 40 → Stp o false t (o + 1) false
  | cls (o : Nat) (t : ByteArray) : t.size = 1 → byteN t 0 = 41 → Stp (o + 1) true t o true
  | num (o : Nat) (t : ByteArray) : 1 ≤ t.size → t.size ≤ 7 → (∀ i, i < t.size → digB (byteN t i) = true) → Stp o false t o true
  | nam (o : Nat) (t : ByteArray) : 1 ≤ t.size → (∀ i, i < t.size → letB (byteN t i) = true) → Stp o false t o true
  | sgn (o : Nat) (t : ByteArray) : t.size = 1 → 0 ≤ signI (byteN t 0) → Stp o true t o false
/-- whoever takes words: where it lies, what it is called by, what it makes of a word, how it lies in memory, when it is fit to be handed one -/
structure Tkr (S : Type) where
  N : Nat
  p : Nat
  M : Nat
  F : Nat
  first : Array Value
  tk : S → ByteArray → S
  I : S → World → Prop
  G : Nat → Nat → Bool → S → Prop
def Tkr.fv {S : Type} (T : Tkr S) : Value := .func (.func T.F) T.first #[]
structure Tkr.Ok {S : Type} (T : Tkr S) : Prop where
  small : T.M ≤ 4611686018427387904
  ent : ∀ (args : Array Value) (w : World), (callFunc T.F args).run Tryd.prog w = .ok (.enter T.F args) w
  stay : ∀ (q : Nat) (st : S) (w w' : World), q < T.N → q ≠ T.p → T.I st w → w.grownBy w' (some q) → T.I st w'
  step : ∀ (a o : Nat) (ph : Bool) (st : S) (t : ByteArray) (o' : Nat) (ph' : Bool), Stp o ph t o' ph' → T.G a o ph st → a + t.size ≤ T.M → T.G (a + t.size) o' ph' (T.tk st t)
  call : ∀ (a o : Nat) (ph : Bool) (st : S) (t : ByteArray) (o' : Nat) (ph' : Bool) (w : World), Stp o ph t o' ph' → T.G a o ph st → a + t.size ≤ T.M → T.N ≤ w.heap.size → T.I st w → Calls Tryd.prog T.F (T.first ++ #[.string t]) w fun e w' => e = .returned (.tuple #[]) ∧ T.I (T.tk st t) w' ∧ Kept T.N (fun k => k = T.p) w w'

theorem slice_ok {s : ByteArray} {a n : Nat} (h : a + n ≤ s.size) : (s.extract a (a + n)).size = n := by rw [ByteArray.size_extract]; omega

end Go.Proofs.YtklfenojapgmnaeDoor
