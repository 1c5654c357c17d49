/-
  Members in a row, each the part of the one ahead of it: what the program tells of them, on plain data; and what tallylaw4.letters answers.
-/
import Derived.Test.YtiaogjjhpnjhiabDoorTreeR1
namespace Go.Proofs.YtiaogjjhpnjhiabDoor
open Go.ChangeShapes Go.WideShapes Go.ChangeAt Go.RowKit
set_option maxRecDepth 20000

def lett (k : Nat) : ByteArray := ⟨#[97, (97 + k).toUInt8]⟩
def lineM (sg : Int) (k : Nat) : Mem := ⟨lett k, (k : Int) - 1, sg, ⟨#[]⟩⟩
def lineD (sg : Int) (n : Nat) : Dm := ⟨⟨#[97]⟩, 0, n, lineM sg⟩
def pw (sg : Int) : Nat → Int
  | 0 => 1
  | t + 1 => pw sg t * sg

def lineGood (sg : Int) (n : Nat) : Bool := decide ((dimErr (lineD sg n)).2 = 0) && decide (depTo (lineM sg) n = n)
def lineOne (sg : Int) (n i : Nat) : Bool := decide ((pathOf (lineM sg) i).length = i + 1) && decide (leafsOf (lineM sg) n i = [((n - 1 : Nat) : Int)]) && leafB (lineM sg) n (n - 1) && decide (weightOf (lineM sg) i ((n - 1 : Nat) : Int) = pw sg (n - 1 - i))
theorem line_good : ∀ s : Fin 3, ∀ n : Fin 12, lineGood ((s.val : Int) - 1) (n.val + 1) = true := by decide +kernel
theorem line_one : ∀ s : Fin 3, ∀ n : Fin 12, ∀ i : Fin 12, i.val < n.val + 1 → lineOne ((s.val : Int) - 1) (n.val + 1) i.val = true := by decide +kernel

theorem sign_fin {sg : Int} (h1 : -1 ≤ sg) (h2 : sg ≤ 1) : ∃ s : Fin 3, sg = (s.val : Int) - 1 := ⟨⟨(sg + 1).toNat, by omega⟩, by simp; omega⟩
theorem line_right {sg : Int} {n : Nat} (h1 : -1 ≤ sg) (h2 : sg ≤ 1) (hn : 1 ≤ n) (hn' : n ≤ 12) : (dimErr (lineD sg n)).2 = 0 ∧ depTo (lineM sg) n = n := by
  obtain ⟨s, rfl⟩ := sign_fin h1 h2
  have h := line_good s ⟨n - 1, by omega⟩
  unfold lineGood at h
  simp only [Bool.and_eq_true, decide_eq_true_eq] at h
  rw [show n - 1 + 1 = n by omega] at h
  exact h
theorem line_at {sg : Int} {n i : Nat} (h1 : -1 ≤ sg) (h2 : sg ≤ 1) (hi : i < n) (hn' : n ≤ 12) : (pathOf (lineM sg) i).length = i + 1 ∧ leafsOf (lineM sg) n i = [((n - 1 : Nat) : Int)] ∧ leafB (lineM sg) n (n - 1) = true ∧ weightOf (lineM sg) i ((n - 1 : Nat) : Int) = pw sg (n - 1 - i) := by
  obtain ⟨s, rfl⟩ := sign_fin h1 h2
  have h := line_one s ⟨n - 1, by omega⟩ ⟨i, by omega⟩ (by show i < n - 1 + 1; omega)
  unfold lineOne at h
  simp only [Bool.and_eq_true, decide_eq_true_eq] at h
  rw [show n - 1 + 1 = n by omega] at h
  exact ⟨h.1.1.1, h.1.1.2, h.1.2, h.2⟩
theorem pw_small {sg : Int} (h1 : -1 ≤ sg) (h2 : sg ≤ 1) (t : Nat) : -1 ≤ pw sg t ∧ pw sg t ≤ 1 := by
  induction t with
  | zero => simp [pw]
  | succ t ih => exact small_mul ih ⟨h1, h2⟩

def cellsL (sg : Int) : Nat → List Value
  | 0 => []
  | k + 1 => cellsL sg k ++ [.string (lett k), .int .i64 ((k : Int) - 1), .int .i64 sg, .string ⟨#[]⟩]
theorem cellsL_len (sg : Int) (k : Nat) : (cellsL sg k).length = k * 4 := by
  induction k with
  | zero => rfl
  | succ k ih => rw [cellsL, List.length_append, ih]; simp; omega
theorem cellsL_at (sg : Int) (n : Nat) : ∀ k, k < n → (cellsL sg n)[k * 4]? = some (.string (lett k)) ∧ (cellsL sg n)[k * 4 + 1]? = some (.int .i64 ((k : Int) - 1)) ∧ (cellsL sg n)[k * 4 + 2]? = some (.int .i64 sg) ∧ (cellsL sg n)[k * 4 + 3]? = some (.string ⟨#[]⟩) := by
  induction n with
  | zero => intro k h; omega
  | succ n ih =>
    intro k hk
    rw [cellsL]
    have hl := cellsL_len sg n
    by_cases h : k = n
    · subst h
      refine ⟨?_, ?_, ?_, ?_⟩ <;> rw [List.getElem?_append_right (by omega), hl]
      · rw [Nat.sub_self]; rfl
      · rw [show k * 4 + 1 - k * 4 = 1 by omega]; rfl
      · rw [show k * 4 + 2 - k * 4 = 2 by omega]; rfl
      · rw [show k * 4 + 3 - k * 4 = 3 by omega]; rfl
    · have := ih k (by omega)
      refine ⟨?_, ?_, ?_, ?_⟩ <;> rw [List.getElem?_append_left (by omega)]
      · exact this.1
      · exact this.2.1
      · exact this.2.2.1
      · exact this.2.2.2
theorem line_mems {w : World} {base e : Nat} {v : Value} {sg : Int} {n : Nat} (h : w.ownsRow base e 4 v n (cellsL sg n)) : ∃ A cap, v = .slice A n cap ∧ MemsV w A cap n (lineM sg) := by
  rcases h.2 with ⟨rfl, h0⟩ | ⟨g, cap, cur, rfl, hb, hg, hc, _, _, _⟩
  · exact ⟨none, 0, by rw [h0], by omega, Or.inl h0⟩
  · refine ⟨_, cap, rfl, hc, Or.inr ⟨g, 0, rfl, (Array.getElem?_eq_some_iff.1 hg).1, fun j hj => ?_⟩⟩
    have hadd : ∀ j, (⟨g, 0, none⟩ : Addr).add j = ⟨g, j, none⟩ := fun j => by unfold Addr.add; split <;> simp_all
    obtain ⟨x0, x1, x2, x3⟩ := cellsL_at sg n j hj
    have y := fun j u => h.cells (g := g) rfl j u
    simp only [hadd] at y
    simp only [Nat.zero_add]
    exact ⟨y _ _ x0, y _ _ x1, y _ _ x2, y _ _ x3⟩

set_option maxHeartbeats 4000000 in
theorem letters_any (k : Nat) (w : World) (hk : k < 12) : Calls Tryd.prog 18 #[.int .i64 k] w fun e w' => e = .returned (.string (lett k)) ∧ Below w.heap.size w w' := by
  rcases (show k = 0 ∨ k = 1 ∨ k = 2 ∨ k = 3 ∨ k = 4 ∨ k = 5 ∨ k = 6 ∨ k = 7 ∨ k = 8 ∨ k = 9 ∨ k = 10 ∨ k = 11 by omega) with rfl | rfl | rfl | rfl | rfl | rfl | rfl | rfl | rfl | rfl | rfl | rfl
  all_goals go_enter Tryd.func18, Tryd.ntmps18
  all_goals go_wp2_with fail
  all_goals go_quiet (fail)
  all_goals go_wp2_with fail
  all_goals go_ret
  all_goals exact ⟨rfl, below_drewN (Below.refl _ _) _⟩
end Go.Proofs.YtiaogjjhpnjhiabDoor
