/-
  What Add, Sub, Mul and Div of package cell answer of any two cells: the pure functions below, or ErrRange where a cell is wrong; new memory alone is written.
-/
import Derived.Test.YtklfenojapgmnaeDoorCells4
namespace Go.Proofs.YtklfenojapgmnaeDoor
open Go.ChangeShapes Go.WideShapes Go.ChangeAt Go.RowKit

def joinP (blank : Bool) (ka kb : Int) (r : Int × Int) : Int × Int := if ka = 2 ∨ kb = 2 then (2, 0) else if blank = true then (0, 0) else r
def JoinsTo (fb fo : Nat) (ka na kb nb k n : Int) (er : Value) : Prop := ∀ (w : World), Calls Tryd.prog 67 #[.agg #[.int .i64 ka, .int .i64 na], .agg #[.int .i64 kb, .int .i64 nb], .func (.func fb) #[] #[], .func (.func fo) #[] #[]] w fun e w' => e = .returned (.tuple #[.agg #[.int .i64 k, .int .i64 n], er]) ∧ Below w.heap.size w w'
def OpTo (f : Nat) (ka na kb nb k n : Int) (er : Value) : Prop := ∀ (w : World), Calls Tryd.prog f #[.agg #[.int .i64 ka, .int .i64 na], .agg #[.int .i64 kb, .int .i64 nb]] w fun e w' => e = .returned (.tuple #[.agg #[.int .i64 k, .int .i64 n], er]) ∧ Below w.heap.size w w'

theorem joins_yes (fb fo : Nat) (p : Int → Int → Bool) (he : Enters fb) (hp : Blank fb p) (heo : Enters fo) (ka na kb nb : Int) (ha : good ka na = true) (hb : good kb nb = true) (r : Int × Int) (ho : Makes fo na nb r) :
    JoinsTo fb fo ka na kb nb (joinP (p ka kb) ka kb r).1 (joinP (p ka kb) ka kb r).2 .nilIface := by
  intro w
  unfold joinP
  by_cases hf : ka = 2 ∨ kb = 2
  · rw [if_pos hf]
    exact join_fault _ _ ka na kb nb w ha hb (by simp; exact hf)
  · rw [if_neg hf]
    have hff : ((fun k : Int => k == 2) ka || (fun k : Int => k == 2) kb) = false := by simp; omega
    cases hpp : p ka kb
    · rw [if_neg (by simp)]
      exact join_made fb fo p he hp heo ka na kb nb w ha hb r ho hff hpp
    · rw [if_pos rfl]
      exact join_blank fb p he hp _ ka na kb nb w ha hb hff hpp
theorem joins_no (fb fo : Nat) (ka na kb nb : Int) (h : (good ka na && good kb nb) = false) : JoinsTo fb fo ka na kb nb 0 0 (.iface 58 (.int .i64 1)) := by
  intro w
  cases ha : good ka na
  · exact join_no1 ka na kb nb _ _ w ha
  · rw [ha] at h
    exact join_no2 ka na kb nb _ _ w ha (by simpa using h)
theorem good_bd {k n : Int} (h : good k n = true) : -1000000000000 ≤ n ∧ n ≤ 1000000000000 := by simp [good] at h; omega

def plusP (ka na kb nb : Int) : Int × Int := joinP (!(ka != 0 || kb != 0)) ka kb (ofP (na + nb))
def minusP (ka na kb nb : Int) : Int × Int := joinP (!(ka != 0 || kb != 0)) ka kb (ofP (na - nb))
def timesP (ka na kb nb : Int) : Int × Int := joinP (ka == 0 || kb == 0) ka kb (ofP (na * nb))
def overP (ka na kb nb : Int) : Int × Int := joinP (ka == 0 || kb == 0) ka kb (quoP na nb)

theorem add_of (ka na kb nb k n : Int) (er : Value) (h : JoinsTo 68 69 ka na kb nb k n er) : OpTo 54 ka na kb nb k n er := by
  intro w
  unfold JoinsTo at h
  go_enter Tryd.func54, Tryd.ntmps54
  go_wp2_with fail
  refine (h _).mono ?_
  rintro e w1 ⟨rfl, hb⟩
  have hB : Below w.heap.size w w1 := Below.trans (by go_grown) (hb.mono (by simp; omega))
  obtain ⟨hc, hf⟩ := bcell hb
  have hz := bsize hb
  simp at hz
  go_wp2_with fail
  refine bodyPost_ret (v := .tuple #[.agg #[.int .i64 k, .int .i64 n], er]) (by simp [results, Tryd.results54, go_sem, hc]) rfl ⟨rfl, ?_⟩
  go_grown
theorem add_yes (ka na kb nb : Int) (ha : good ka na = true) (hb : good kb nb = true) : OpTo 54 ka na kb nb (plusP ka na kb nb).1 (plusP ka na kb nb).2 .nilIface := by
  obtain ⟨h1, h2⟩ := good_bd ha
  obtain ⟨h3, h4⟩ := good_bd hb
  exact add_of _ _ _ _ _ _ _ (joins_yes _ _ _ both_in both_any plus_in ka na kb nb ha hb _ (plus_any na nb h1 h2 h3 h4))
theorem add_no (ka na kb nb : Int) (h : (good ka na && good kb nb) = false) : OpTo 54 ka na kb nb 0 0 (.iface 58 (.int .i64 1)) := add_of _ _ _ _ _ _ _ (joins_no _ _ ka na kb nb h)

theorem sub_of (ka na kb nb k n : Int) (er : Value) (h : JoinsTo 68 70 ka na kb nb k n er) : OpTo 55 ka na kb nb k n er := by
  intro w
  unfold JoinsTo at h
  go_enter Tryd.func55, Tryd.ntmps55
  go_wp2_with fail
  refine (h _).mono ?_
  rintro e w1 ⟨rfl, hb⟩
  have hB : Below w.heap.size w w1 := Below.trans (by go_grown) (hb.mono (by simp; omega))
  obtain ⟨hc, hf⟩ := bcell hb
  have hz := bsize hb
  simp at hz
  go_wp2_with fail
  refine bodyPost_ret (v := .tuple #[.agg #[.int .i64 k, .int .i64 n], er]) (by simp [results, Tryd.results55, go_sem, hc]) rfl ⟨rfl, ?_⟩
  go_grown
theorem sub_yes (ka na kb nb : Int) (ha : good ka na = true) (hb : good kb nb = true) : OpTo 55 ka na kb nb (minusP ka na kb nb).1 (minusP ka na kb nb).2 .nilIface := by
  obtain ⟨h1, h2⟩ := good_bd ha
  obtain ⟨h3, h4⟩ := good_bd hb
  exact sub_of _ _ _ _ _ _ _ (joins_yes _ _ _ both_in both_any minus_in ka na kb nb ha hb _ (minus_any na nb h1 h2 h3 h4))
theorem sub_no (ka na kb nb : Int) (h : (good ka na && good kb nb) = false) : OpTo 55 ka na kb nb 0 0 (.iface 58 (.int .i64 1)) := sub_of _ _ _ _ _ _ _ (joins_no _ _ ka na kb nb h)

theorem mul_of (ka na kb nb k n : Int) (er : Value) (h : JoinsTo 71 72 ka na kb nb k n er) : OpTo 56 ka na kb nb k n er := by
  intro w
  unfold JoinsTo at h
  go_enter Tryd.func56, Tryd.ntmps56
  go_wp2_with fail
  refine (h _).mono ?_
  rintro e w1 ⟨rfl, hb⟩
  have hB : Below w.heap.size w w1 := Below.trans (by go_grown) (hb.mono (by simp; omega))
  obtain ⟨hc, hf⟩ := bcell hb
  have hz := bsize hb
  simp at hz
  go_wp2_with fail
  refine bodyPost_ret (v := .tuple #[.agg #[.int .i64 k, .int .i64 n], er]) (by simp [results, Tryd.results56, go_sem, hc]) rfl ⟨rfl, ?_⟩
  go_grown
theorem mul_yes (ka na kb nb : Int) (ha : good ka na = true) (hb : good kb nb = true) : OpTo 56 ka na kb nb (timesP ka na kb nb).1 (timesP ka na kb nb).2 .nilIface := by
  obtain ⟨h1, h2⟩ := good_bd ha
  obtain ⟨h3, h4⟩ := good_bd hb
  exact mul_of _ _ _ _ _ _ _ (joins_yes _ _ _ one_in one_any product_in ka na kb nb ha hb _ (product_any na nb h1 h2 h3 h4))
theorem mul_no (ka na kb nb : Int) (h : (good ka na && good kb nb) = false) : OpTo 56 ka na kb nb 0 0 (.iface 58 (.int .i64 1)) := mul_of _ _ _ _ _ _ _ (joins_no _ _ ka na kb nb h)

theorem div_of (ka na kb nb k n : Int) (er : Value) (h : JoinsTo 71 73 ka na kb nb k n er) : OpTo 57 ka na kb nb k n er := by
  intro w
  unfold JoinsTo at h
  go_enter Tryd.func57, Tryd.ntmps57
  go_wp2_with fail
  refine (h _).mono ?_
  rintro e w1 ⟨rfl, hb⟩
  have hB : Below w.heap.size w w1 := Below.trans (by go_grown) (hb.mono (by simp; omega))
  obtain ⟨hc, hf⟩ := bcell hb
  have hz := bsize hb
  simp at hz
  go_wp2_with fail
  refine bodyPost_ret (v := .tuple #[.agg #[.int .i64 k, .int .i64 n], er]) (by simp [results, Tryd.results57, go_sem, hc]) rfl ⟨rfl, ?_⟩
  go_grown
theorem div_yes (ka na kb nb : Int) (ha : good ka na = true) (hb : good kb nb = true) : OpTo 57 ka na kb nb (overP ka na kb nb).1 (overP ka na kb nb).2 .nilIface := by
  obtain ⟨h1, h2⟩ := good_bd ha
  obtain ⟨h3, h4⟩ := good_bd hb
  exact div_of _ _ _ _ _ _ _ (joins_yes _ _ _ one_in one_any quotient_in ka na kb nb ha hb _ (quotient_any na nb h1 h2))
theorem div_no (ka na kb nb : Int) (h : (good ka na && good kb nb) = false) : OpTo 57 ka na kb nb 0 0 (.iface 58 (.int .i64 1)) := div_of _ _ _ _ _ _ _ (joins_no _ _ ka na kb nb h)
end Go.Proofs.YtklfenojapgmnaeDoor
