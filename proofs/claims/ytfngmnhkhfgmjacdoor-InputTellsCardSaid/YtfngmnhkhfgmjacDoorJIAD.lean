/-
  What frame and member of package outline answer: what is wrong with a dim apart from its members; what is wrong with a member.
-/
import Derived.Test.YtfngmnhkhfgmjacDoorJIAC
namespace Go.Proofs.YtfngmnhkhfgmjacDoor
open Go.ChangeShapes Go.WideShapes Go.ChangeAt Go.RowKit
set_option maxRecDepth 20000
def dimV (d : Dm) (A : Option Addr) (cap : Nat) : Value := .agg #[.string d.name, .int .i64 d.solve, .slice A d.n cap]
def frameErr (d : Dm) : Int := if nameErr d.name ≠ 0 then 2 else if d.solve < 0 ∨ 9 < d.solve then 1 else if 12 < d.n then 4 else if d.n = 0 then 5 else 0
theorem nameErr_two {s : ByteArray} (h : nameErr s ≠ 0) : nameErr s = 2 := by
 unfold nameErr at h ⊢
 split
 ·rfl
 ·split
  ·rfl
  ·rename_i h1 h2; rw [if_neg h1, if_neg h2] at h; exact absurd rfl h
theorem fr0 {d : Dm} (h : nameErr d.name ≠ 0) : frameErr d = 2 := by unfold frameErr; rw [if_pos h]
theorem fr1 {d : Dm} (h : nameErr d.name = 0) (h1 : d.solve < 0 ∨ 9 < d.solve) : frameErr d = 1 := by unfold frameErr; rw [if_neg (by simpa using h), if_pos h1]
theorem fr2 {d : Dm} (h : nameErr d.name = 0) (h1 : ¬ (d.solve < 0 ∨ 9 < d.solve)) (h2 : 12 < d.n) : frameErr d = 4 := by unfold frameErr; rw [if_neg (by simpa using h), if_neg h1, if_pos h2]
theorem fr3 {d : Dm} (h : nameErr d.name = 0) (h1 : ¬ (d.solve < 0 ∨ 9 < d.solve)) (h2 : ¬ 12 < d.n) (h3 : d.n = 0) : frameErr d = 5 := by unfold frameErr; rw [if_neg (by simpa using h), if_neg h1, if_neg h2, if_pos h3]
theorem fr4 {d : Dm} (h : nameErr d.name = 0) (h1 : ¬ (d.solve < 0 ∨ 9 < d.solve)) (h2 : ¬ 12 < d.n) (h3 : ¬ d.n = 0) : frameErr d = 0 := by unfold frameErr; rw [if_neg (by simpa using h), if_neg h1, if_neg h2, if_neg h3]
set_option maxHeartbeats 1000000 in
theorem frame_any (d : Dm) (A : Option Addr) (cap : Nat) (w : World) : Calls Tryd.prog 45 #[dimV d A cap] w fun e w' => e = .returned (errV (frameErr d)) ∧ Below w.heap.size w w' := by
 have hnm := name_any d.name
 unfold dimV
 by_cases hn : nameErr d.name = 0
 ·rw [hn, errV_zero] at hnm
  have HN : Hid (nameErr d.name = 0) := hn
  clear hn
  go_enter Tryd.func45, Tryd.ntmps45
  go_wp2_with fail
  refine (hnm _).mono ?_
  rintro e w1 ⟨rfl, hb1⟩
  have hB : Below w.heap.size w w1 := onB (by go_grown) hb1
  have h1 : w1.cell? ⟨w.heap.size, 1, none⟩ = some (.int .i64 d.solve) := by rw [hb1.cell (p := ⟨w.heap.size, 1, none⟩) (by simp)]; simp [go_sem]
  have h2 : w1.cell? ⟨w.heap.size, 2, none⟩ = some (.slice A d.n cap) := by rw [hb1.cell (p := ⟨w.heap.size, 2, none⟩) (by simp)]; simp [go_sem]
  clear hb1 hnm
  by_cases c1 : d.solve < 0
  ·go_wp2_with fail
   go_ret
   exact ⟨by rw [fr1 HN.out (Or.inl c1)]; rfl, hB⟩
  ·by_cases c2 : 9 < d.solve
   ·go_wp2_with fail
    go_ret
    exact ⟨by rw [fr1 HN.out (Or.inr c2)]; rfl, hB⟩
   ·by_cases c3 : 12 < d.n
    ·have c3' : 12 < (d.n : Int) := by omega
     go_wp2_with fail
     go_ret
     exact ⟨by rw [fr2 HN.out (by omega) c3]; rfl, hB⟩
    ·have c3' : (d.n : Int) ≤ 12 := by omega
     by_cases c4 : d.n = 0
     ·have c4' : ((d.n : Int) == 0) = true := by simp [c4]
      have C4 : Hid (d.n = 0) := c4
      clear c4
      go_wp2_with fail
      go_ret
      exact ⟨by rw [fr3 HN.out (by omega) (by omega) C4.out]; rfl, hB⟩
     ·have c4' : ((d.n : Int) == 0) = false := by simp; omega
      have C4 : Hid (¬ d.n = 0) := c4
      clear c4
      go_wp2_with fail
      go_ret
      exact ⟨by rw [fr4 HN.out (by omega) (by omega) C4.out]; rfl, hB⟩
 ·rw [nameErr_two hn, errV_some (by decide)] at hnm
  have HN : Hid (nameErr d.name ≠ 0) := hn
  clear hn
  go_enter Tryd.func45, Tryd.ntmps45
  go_wp2_with fail
  refine (hnm _).mono ?_
  rintro e w1 ⟨rfl, hb1⟩
  have hB : Below w.heap.size w w1 := onB (by go_grown) hb1
  clear hb1
  go_wp2_with fail
  go_ret
  exact ⟨by rw [fr0 HN.out]; rfl, hB⟩
end Go.Proofs.YtfngmnhkhfgmjacDoor
