/-
  What operand and take of package formula do, in whatever memory; who takes the words of a text: a builder, or nobody.
-/
import Derived.Test.YtklfenojapgmnaeDoorFmJ
import Derived.Test.YtklfenojapgmnaeDoorShelfK
import Derived.Test.YtklfenojapgmnaeDoorShelfF
import Derived.Test.YtklfenojapgmnaeDoorNums
import Derived.Lib.AtoiErrMem
namespace Go.Proofs.YtklfenojapgmnaeDoor
open Go.ChangeShapes Go.WideShapes Go.ChangeAt Go.RowKit
set_option maxRecDepth 20000

theorem dec_fold : ∀ (l : List UInt8) (acc : Nat), (∀ b ∈ l, 48 ≤ b.toNat ∧ b.toNat ≤ 57) → ∃ m : Nat, Lib.decFrom acc l = some m ∧ l.foldl (fun n c => n * 10 + ((c.toNat : Int) - 48)) (acc : Int) = (m : Int)
  | [], acc, _ => ⟨acc, rfl, rfl⟩
  | b :: r, acc, h => by
    have hb := h b (List.mem_cons_self ..)
    have hd : Lib.digitVal b = some (b.toNat - 48) := by unfold Lib.digitVal; rw [if_pos hb]
    obtain ⟨m, h1, h2⟩ := dec_fold r (acc * 10 + (b.toNat - 48)) (fun c hc => h c (List.mem_cons_of_mem _ hc))
    refine ⟨m, ?_, ?_⟩
    · simp only [Lib.decFrom, hd]; exact h1
    · rw [List.foldl_cons, ← h2]
      congr 1
      omega
theorem digits_all {t : ByteArray} (h : ∀ i, i < t.size → digB (byteN t i) = true) : ∀ b ∈ t.data.toList, 48 ≤ b.toNat ∧ b.toNat ≤ 57 := by
  intro b hb
  obtain ⟨i, hi, rfl⟩ := List.getElem_of_mem hb
  have h1 := h i (by simpa using hi)
  unfold byteN digB at h1
  rw [List.getD, List.getElem?_eq_getElem hi] at h1
  simp only [Option.getD_some, Bool.and_eq_true, decide_eq_true_eq] at h1
  omega
theorem atoi_num {t : ByteArray} (h1 : 1 ≤ t.size) (h : ∀ i, i < t.size → digB (byteN t i) = true) : Lib.atoi t.data.toList = some (numW t) := by
  have hall := digits_all h
  obtain ⟨m, hm, hn⟩ := dec_fold t.data.toList 0 hall
  unfold numW
  have hz : ((0 : Nat) : Int) = 0 := rfl
  rw [hz] at hn
  rw [hn]
  have hne : t.data.toList ≠ [] := by
    intro e
    have : t.data.toList.length = 0 := by rw [e]; rfl
    have h2 : t.size = t.data.toList.length := by simp
    omega
  cases hl : t.data.toList with
  | nil => exact absurd hl hne
  | cons b r =>
    rw [hl] at hall hm
    have hb := hall b (List.mem_cons_self ..)
    have e1 : (b == 45) = false := by
      apply Bool.eq_false_iff.2; intro e; rw [beq_iff_eq] at e; subst e; revert hb; decide
    have e2 : (b == 43) = false := by
      apply Bool.eq_false_iff.2; intro e; rw [beq_iff_eq] at e; subst e; revert hb; decide
    simp only [Lib.atoi, e1, e2, Bool.false_eq_true, if_false]
    unfold Lib.decNat
    rw [if_neg (by simp), hm]
    rfl
theorem ndV_def (x : Nd) : ndV x = .agg #[.int .i64 x.op, .int .i64 x.n, .string x.name, .int .i64 x.left, .int .i64 x.right] := rfl
theorem zero_box {w w1 w2 : World} (h1 : Below (w.alloc (.cells #[.int .i64 0, .int .i64 0, .string ⟨#[]⟩, .int .i64 0, .int .i64 0] 45)).heap.size (w.alloc (.cells #[.int .i64 0, .int .i64 0, .string ⟨#[]⟩, .int .i64 0, .int .i64 0] 45)) w1) (h2 : Below w1.heap.size w1 w2) :
    Below w.heap.size w w2 ∧ (∀ j, w2.frozen? ⟨w.heap.size, j, none⟩ = false) ∧ w2.cell? ⟨w.heap.size, 0, none⟩ = some (.int .i64 0) ∧ w2.cell? ⟨w.heap.size, 1, none⟩ = some (.int .i64 0) ∧ w2.cell? ⟨w.heap.size, 2, none⟩ = some (.string ⟨#[]⟩) ∧ w2.cell? ⟨w.heap.size, 3, none⟩ = some (.int .i64 0) ∧ w2.cell? ⟨w.heap.size, 4, none⟩ = some (.int .i64 0) := by
  have hb := onB h1 h2
  have hz : w.heap.size < (w.alloc (.cells #[.int .i64 0, .int .i64 0, .string ⟨#[]⟩, .int .i64 0, .int .i64 0] 45)).heap.size := by simp
  have h := (hb.block _ hz).trans (heap_alloc_new w _)
  exact ⟨onB (by go_grown) hb, fun j => by simp [World.frozen?, h], by simp [World.cell?, h], by simp [World.cell?, h], by simp [World.cell?, h], by simp [World.cell?, h], by simp [World.cell?, h]⟩

/-- when a builder is fit for a word -/
structure FitB (a o : Nat) (ph : Bool) (b : Bld) : Prop where
  zero : zerosN b.waiting = o
  ops : opsN b.waiting + (if ph then 1 else 0) ≤ b.ready.length
  nodes : b.nodes.length + opsN b.waiting ≤ a
  wait : b.waiting.length ≤ a
  ready : b.ready.length ≤ a

theorem hid_of {p : Prop} (h : p) : Hid p := h

/-- what settling leaves -/
theorem settle_inv (least : Int) : ∀ (k : Nat) (b : Bld), b.waiting.length = k → opsN b.waiting + 1 ≤ b.ready.length →
    zerosN (settleTo least k b).waiting = zerosN b.waiting ∧ (settleTo least k b).ready.length + opsN b.waiting = b.ready.length + opsN (settleTo least k b).waiting ∧ (settleTo least k b).nodes.length + opsN (settleTo least k b).waiting = b.nodes.length + opsN b.waiting ∧ (settleTo least k b).waiting.length ≤ b.waiting.length ∧ opsN (settleTo least k b).waiting ≤ opsN b.waiting
  | 0, b, _, _ => ⟨rfl, rfl, rfl, Nat.le_refl _, Nat.le_refl _⟩
  | k + 1, b, hk, hr => by
    by_cases h : b.waiting.getD k 0 = 0 ∨ bindN (b.waiting.getD k 0) < least
    · rw [settle_stop h]; exact ⟨rfl, rfl, rfl, Nat.le_refl _, Nat.le_refl _⟩
    · rw [settle_on h]
      obtain ⟨o1, o2⟩ := ops_last hk
      have hne : b.waiting.getD k 0 ≠ 0 := fun e => h (Or.inl e)
      rw [if_pos hne] at o1
      rw [if_neg hne] at o2
      obtain ⟨l1, l2, l3⟩ := join_len (op := b.waiting.getD k 0) (b := ⟨b.nodes, b.ready, b.waiting.take k⟩) (by show 2 ≤ b.ready.length; omega)
      have hl : (joinBd (b.waiting.getD k 0) ⟨b.nodes, b.ready, b.waiting.take k⟩).waiting.length = k := by rw [l3]; simp; omega
      simp only at l1 l2 l3
      obtain ⟨q1, q2, q3, q4, q5⟩ := settle_inv least k (joinBd (b.waiting.getD k 0) ⟨b.nodes, b.ready, b.waiting.take k⟩) hl (by rw [l3]; omega)
      rw [l3] at q1 q2 q3 q5
      exact ⟨by omega, by omega, by omega, by omega, by omega⟩
theorem settleB_inv (least : Int) (b : Bld) (h : opsN b.waiting + 1 ≤ b.ready.length) :
    zerosN (settleB least b).waiting = zerosN b.waiting ∧ (settleB least b).ready.length + opsN b.waiting = b.ready.length + opsN (settleB least b).waiting ∧ (settleB least b).nodes.length + opsN (settleB least b).waiting = b.nodes.length + opsN b.waiting ∧ (settleB least b).waiting.length ≤ b.waiting.length ∧ opsN (settleB least b).waiting ≤ opsN b.waiting := settle_inv least _ b rfl h
/-- with no least all ops behind the last bracket are settled -/
theorem settle_zero : ∀ (k : Nat) (b : Bld), b.waiting.length = k → ∀ j, (settleTo 0 k b).waiting.length = j + 1 → (settleTo 0 k b).waiting.getD j 0 = 0
  | 0, b, hk, j, h => by rw [settleTo] at h; omega
  | k + 1, b, hk, j, h => by
    by_cases hz : b.waiting.getD k 0 = 0 ∨ bindN (b.waiting.getD k 0) < 0
    · rw [settle_stop hz] at h ⊢
      have e : j = k := by omega
      rw [e]
      exact hz.resolve_right (by have := bindN_ge (b.waiting.getD k 0); omega)
    · rw [settle_on hz] at h ⊢
      exact settle_zero k _ (by show (b.waiting.take k).length = k; simp; omega) j h

theorem sign_cases {c : Int} (h : 0 ≤ signI c) : (c = 43 ∧ signI c = 0) ∨ (c = 45 ∧ signI c = 1) ∨ (c = 42 ∧ signI c = 2) ∨ (c = 47 ∧ signI c = 3) := by
  unfold signI at *
  by_cases h1 : c = 43
  · left; exact ⟨h1, by rw [if_pos h1]⟩
  by_cases h2 : c = 45
  · right; left; exact ⟨h2, by rw [if_neg h1, if_pos h2]⟩
  by_cases h3 : c = 42
  · right; right; left; exact ⟨h3, by rw [if_neg h1, if_neg h2, if_pos h3]⟩
  by_cases h4 : c = 47
  · right; right; right; exact ⟨h4, by rw [if_neg h1, if_neg h2, if_neg h3, if_pos h4]⟩
  · rw [if_neg h1, if_neg h2, if_neg h3, if_neg h4] at h; omega

end Go.Proofs.YtklfenojapgmnaeDoor
