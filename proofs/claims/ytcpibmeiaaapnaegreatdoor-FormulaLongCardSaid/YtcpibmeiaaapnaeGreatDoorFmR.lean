/-
  Rows of names with a sign between: how they are read, written, and to whom they refer: closed facts, reckoned one by one.
-/
import Derived.Test.YtcpibmeiaaapnaeGreatDoorFmQ
namespace Go.Proofs.YtcpibmeiaaapnaeGreatDoor

/-- a row of k + 1 names with a sign between -/
def longS (op : Nat) : Nat → ByteArray
  | 0 => ⟨#[97, 98]⟩
  | k + 1 => longS op k ++ (ByteArray.mk #[43, 45, 42, 47]).extract op (op + 1) ++ ⟨#[97, 98]⟩
def longB (op n : Nat) : Bool :=
  if 15 ≤ n then decide (prsE (longS op n) = 4)
  else decide (prsE (longS op n) = 0) && decide ((prsL (longS op n)).length = 2 * n + 1) && decide ((printT (prsL (longS op n))).data.toList = (longS op n).data.toList) && decide (nmsTo (prsL (longS op n)) (2 * n + 1) = List.replicate (n + 1) [97, 98])
theorem lng0a : ∀ n : Fin 10, longB 0 n = true := by decide +kernel
theorem lng0b : ∀ n : Fin 5, longB 0 (10 + n) = true := by decide +kernel
theorem lng0c : ∀ n : Fin 5, longB 0 (15 + n) = true := by decide +kernel
theorem lng1a : ∀ n : Fin 10, longB 1 n = true := by decide +kernel
theorem lng1b : ∀ n : Fin 5, longB 1 (10 + n) = true := by decide +kernel
theorem lng1c : ∀ n : Fin 5, longB 1 (15 + n) = true := by decide +kernel
theorem lng2a : ∀ n : Fin 10, longB 2 n = true := by decide +kernel
theorem lng2b : ∀ n : Fin 5, longB 2 (10 + n) = true := by decide +kernel
theorem lng2c : ∀ n : Fin 5, longB 2 (15 + n) = true := by decide +kernel
theorem lng3a : ∀ n : Fin 10, longB 3 n = true := by decide +kernel
theorem lng3b : ∀ n : Fin 5, longB 3 (10 + n) = true := by decide +kernel
theorem lng3c : ∀ n : Fin 5, longB 3 (15 + n) = true := by decide +kernel
theorem long_all (op n : Nat) (ho : op < 4) (hn : n < 20) : longB op n = true := by
  have key : ∀ (o : Nat), (∀ n : Fin 10, longB o n = true) → (∀ n : Fin 5, longB o (10 + n) = true) → (∀ n : Fin 5, longB o (15 + n) = true) → longB o n = true := by
    intro o h1 h2 h3
    by_cases a : n < 10
    · exact h1 ⟨n, a⟩
    by_cases b : n < 15
    · have h := h2 ⟨n - 10, by omega⟩
      simp only [show 10 + (n - 10) = n by omega] at h
      exact h
    · have h := h3 ⟨n - 15, by omega⟩
      simp only [show 15 + (n - 15) = n by omega] at h
      exact h
  match op, ho with
  | 0, _ => exact key 0 lng0a lng0b lng0c
  | 1, _ => exact key 1 lng1a lng1b lng1c
  | 2, _ => exact key 2 lng2a lng2b lng2c
  | 3, _ => exact key 3 lng3a lng3b lng3c
theorem sgn_one (op : Nat) (h : op < 4) : ((ByteArray.mk #[43, 45, 42, 47]).extract op (op + 1)).size = 1 := by
  rw [ByteArray.size_extract]
  show min (op + 1) 4 - op = 1
  omega
theorem long_size (op : Nat) (h : op < 4) : ∀ k, (longS op k).size = 3 * k + 2
  | 0 => rfl
  | k + 1 => by
    rw [longS, ByteArray.size_append, ByteArray.size_append, long_size op h k, sgn_one op h]
    show 3 * k + 2 + 1 + 2 = _
    omega
theorem byte_same {a b : ByteArray} (h : a.data.toList = b.data.toList) : a = b := ByteArray.ext (Array.toList_inj.1 h)
theorem comp_rep : ∀ n : Fin 15, Lib.compact (List.replicate (n.val + 1) ([97, 98] : List UInt8)) = [[97, 98]] := by decide +kernel
theorem sort_rep (n : Nat) (x : List UInt8) : ((List.replicate n x).mergeSort fun a b => decide (a ≤ b)) = List.replicate n x :=
  List.perm_replicate.1 (List.mergeSort_perm _ _)
theorem form_of_prs {s : ByteArray} (h : prsE s = 0) : formErr (prsL s) = 0 := by
  have hL : prsL s = nodesP s := by unfold prsL; rw [if_pos h]
  rw [hL]
  unfold prsE at h
  split at h
  · split at h <;> cases h
  · split at h
    · exact h
    · cases h
theorem long_big (op n : Nat) (ho : op < 4) (h1 : 15 ≤ n) (hn : n < 20) : prsE (longS op n) = 4 := by
  have h := long_all op n ho hn
  rw [longB, if_pos h1] at h
  exact of_decide_eq_true h
theorem long_small (op n : Nat) (ho : op < 4) (hn : n < 15) : prsE (longS op n) = 0 ∧ (prsL (longS op n)).length = 2 * n + 1 ∧ formErr (prsL (longS op n)) = 0 ∧ printT (prsL (longS op n)) = longS op n ∧ refsP (prsL (longS op n)) = [[97, 98]] := by
  have h := long_all op n ho (by omega)
  rw [longB, if_neg (by omega)] at h
  simp only [Bool.and_eq_true, decide_eq_true_eq] at h
  obtain ⟨⟨⟨h1, h2⟩, h3⟩, h4⟩ := h
  have h5 := form_of_prs h1
  refine ⟨h1, h2, h5, byte_same h3, ?_⟩
  unfold refsP
  rw [if_pos h5, h2, h4, sort_rep]
  exact comp_rep ⟨n, hn⟩
end Go.Proofs.YtcpibmeiaaapnaeGreatDoor
