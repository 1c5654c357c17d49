/-
  What join and settle of package formula's builder do, in whatever memory.
-/
import Derived.Test.YtklfenojapgmnaeDoorFmI
namespace Go.Proofs.YtklfenojapgmnaeDoor
open Go.ChangeShapes Go.WideShapes Go.ChangeAt Go.RowKit
set_option maxRecDepth 20000

theorem join_len {op : Int} {b : Bld} (h : 2 ≤ b.ready.length) : (joinBd op b).nodes.length = b.nodes.length + 1 ∧ (joinBd op b).ready.length + 1 = b.ready.length ∧ (joinBd op b).waiting = b.waiting := by
  refine ⟨by simp [joinBd, addB], ?_, rfl⟩
  simp [joinBd, addB]
  omega
theorem ops_last {l : List Int} {k : Nat} (h : l.length = k + 1) : opsN l = opsN (l.take k) + (if l.getD k 0 ≠ 0 then 1 else 0) ∧ zerosN l = zerosN (l.take k) + (if l.getD k 0 = 0 then 1 else 0) := by
  have hl : l = l.take k ++ [l.getD k 0] := by
    have h1 : l.getD k 0 = l[k]'(by omega) := by simp [List.getD, List.getElem?_eq_getElem (show k < l.length by omega)]
    rw [h1]
    conv => lhs; rw [← List.take_append_drop k l]
    congr 1
    rw [List.drop_eq_getElem_cons (by omega), List.drop_eq_nil_of_le (by omega)]
  constructor
  · conv => lhs; rw [hl]
    unfold opsN
    rw [List.countP_append]
    by_cases e : l.getD k 0 = 0 <;> simp
  · conv => lhs; rw [hl]
    unfold zerosN
    rw [List.countP_append]
    by_cases e : l.getD k 0 = 0 <;> simp
theorem settle_stop {least : Int} {b : Bld} {k : Nat} (h : b.waiting.getD k 0 = 0 ∨ bindN (b.waiting.getD k 0) < least) : settleTo least (k + 1) b = b := by rw [settleTo, if_pos h]
theorem settle_on {least : Int} {b : Bld} {k : Nat} (h : ¬ (b.waiting.getD k 0 = 0 ∨ bindN (b.waiting.getD k 0) < least)) : settleTo least (k + 1) b = settleTo least k (joinBd (b.waiting.getD k 0) ⟨b.nodes, b.ready, b.waiting.take k⟩) := by rw [settleTo, if_neg h]

end Go.Proofs.YtklfenojapgmnaeDoor
