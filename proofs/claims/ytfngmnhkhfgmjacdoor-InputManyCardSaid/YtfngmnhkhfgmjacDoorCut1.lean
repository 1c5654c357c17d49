/-
  Texts that are cut at a byte, and put together with it between, on plain data: each undoes the other.
-/
import Derived.Test.YtfngmnhkhfgmjacDoorProg
namespace Go.Proofs.YtfngmnhkhfgmjacDoor

def cutB (c : UInt8) : List UInt8 → List (List UInt8)
  | [] => [[]]
  | x :: t => if x = c then [] :: cutB c t else match cutB c t with
    | [] => [[x]]
    | a :: r => (x :: a) :: r
def joinB (c : UInt8) : List (List UInt8) → List UInt8
  | [] => []
  | [a] => a
  | a :: b :: r => a ++ c :: joinB c (b :: r)
theorem cutB_ne (c : UInt8) (s : List UInt8) : cutB c s ≠ [] := by
  cases s with
  | nil => simp [cutB]
  | cons x t =>
    rw [cutB]
    split
    · simp
    · split <;> simp
theorem joinB_cons (c : UInt8) (a : List UInt8) {r : List (List UInt8)} (h : r ≠ []) : joinB c (a :: r) = a ++ c :: joinB c r := by
  cases r with
  | nil => exact absurd rfl h
  | cons b r => rfl
theorem join_cut (c : UInt8) (s : List UInt8) : joinB c (cutB c s) = s := by
  induction s with
  | nil => rfl
  | cons x t ih =>
    rw [cutB]
    split
    · rename_i h; rw [joinB_cons c [] (cutB_ne c t), ih, h]; rfl
    · cases h : cutB c t with
      | nil => exact absurd h (cutB_ne c t)
      | cons a r =>
        rw [h] at ih
        cases r with
        | nil => simp only [joinB] at ih ⊢; rw [ih]
        | cons b r => simp only [joinB, List.cons_append] at ih ⊢; rw [ih]
theorem cut_none {c : UInt8} {a : List UInt8} (h : c ∉ a) : cutB c a = [a] := by
  induction a with
  | nil => rfl
  | cons x t ih =>
    simp only [List.mem_cons, not_or] at h
    rw [cutB, if_neg (fun e => h.1 e.symm), ih h.2]
theorem cut_ahead {c : UInt8} {a : List UInt8} (h : c ∉ a) (s : List UInt8) : cutB c (a ++ c :: s) = a :: cutB c s := by
  induction a with
  | nil => simp [cutB]
  | cons x t ih =>
    simp only [List.mem_cons, not_or] at h
    rw [List.cons_append, cutB, if_neg (fun e => h.1 e.symm), ih h.2]
theorem cut_join {c : UInt8} {l : List (List UInt8)} (hl : l ≠ []) (h : ∀ a ∈ l, c ∉ a) : cutB c (joinB c l) = l := by
  induction l with
  | nil => exact absurd rfl hl
  | cons a r ih =>
    cases r with
    | nil => exact cut_none (h a (List.mem_cons_self ..))
    | cons b r => rw [joinB, cut_ahead (h a (List.mem_cons_self ..)), ih (by simp) fun x hx => h x (List.mem_cons_of_mem _ hx)]
/-- byte by byte: what is cut off already, and what has begun -/
theorem cut_run {c : UInt8} {a : List UInt8} (h : c ∉ a) (s : List UInt8) : cutB c (a ++ s) = match cutB c s with
    | [] => [a]
    | b :: r => (a ++ b) :: r := by
  induction a with
  | nil => cases hs : cutB c s with
    | nil => exact absurd hs (cutB_ne c s)
    | cons b r => simp [hs]
  | cons x t ih =>
    simp only [List.mem_cons, not_or] at h
    rw [List.cons_append, cutB, if_neg (fun e => h.1 e.symm), ih h.2]
    cases hs : cutB c s with
    | nil => exact absurd hs (cutB_ne c s)
    | cons b r => rfl
end Go.Proofs.YtfngmnhkhfgmjacDoor
