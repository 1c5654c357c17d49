/-
  The document's own answers on places (tallyref1): what is wrong with a place, its number, whether it is of leafs, a number's place.
-/
import Derived.Test.YtfngmnhkhfgmjacDoorJIBE
import Derived.Test.YtfngmnhkhfgmjacDoorJIBG
namespace Go.Proofs.YtfngmnhkhfgmjacDoor
open Go.ChangeShapes Go.WideShapes Go.ChangeAt Go.RowKit
set_option maxRecDepth 20000
theorem rright_any (A0 : Option Addr) (cap n : Nat) (D : Nat → Dm) (A : Nat → Option Addr) (C : Nat → Nat) (w : World) (hM : DimsV w A0 cap n D A C) : Calls Tryd.prog 31 #[.agg #[.slice A0 n cap]] w fun e w' => e = .returned (.int .i64 (allErr D n).2.2) ∧ Below w.heap.size w w' := by
 have hB0 := ownOut_below w A0 n cap 24
 have h := routline_any A0 cap n D A C (ownOut w A0 n cap 24) (hM.later hB0)
 have HB0 : Hid (Below w.heap.size w (ownOut w A0 n cap 24)) := hB0
 clear hM hB0
 generalize (allErr D n).2.2 = v at h
 generalize (allErr D n).1 = x at h
 generalize (allErr D n).2.1 = y at h
 go_enter Tryd.func31, Tryd.ntmps31
 go_wp2_with fail
 refine h.mono ?_
 rintro e w1 ⟨rfl, hb1⟩
 go_wp2_with fail
 go_ret
 exact ⟨rfl, onB HB0.out hb1⟩
set_option maxHeartbeats 4000000 in
theorem rplace_any (A0 : Option Addr) (cap n : Nat) (D : Nat → Dm) (A : Nat → Option Addr) (C : Nat → Nat) (Ap : Option Addr) (cp : Nat) (L : List Int) (w : World) (hR : (allErr D n).2.2 = 0) (hM : DimsV w A0 cap n D A C) (hP : PlAt w Ap cp L) : Calls Tryd.prog 16 #[.agg #[.slice A0 n cap], .slice Ap L.length cp] w fun e w' => e = .returned (.int .i64 (shapeErr D n L)) ∧ Below w.heap.size w w' := by
 obtain ⟨hn1, hn4, -, hd⟩ := allErr_some hR
 have hn' : (n : Int) ≤ 4 := by omega
 have HD : Hid (∀ i, i < n → 1 ≤ (D i).n ∧ (D i).n ≤ 12) := hd
 clear hd hR
 by_cases hl : L.length = n
 ·have hle : ((L.length : Int) == (n : Int)) = true := by simp [hl]
  have HL : Hid (L.length = n) := hl
  obtain ⟨hcp, h0 | ⟨bp, op, rfl, hbp, hcell⟩⟩ := hP
  ·rw [h0] at hl; simp at hl; omega
  obtain ⟨hcap, h0 | ⟨b, o, rfl, hMs⟩⟩ := hM
  ·omega
  rw [hl] at hle hcp
  rw [hl]
  have HC : Hid (∀ j, j < n → w.cell? ⟨bp, op + j, none⟩ = some (.int .i64 (L.getD j 0))) := fun j hj => hcell j (by omega)
  have HMs : Hid (DimsAt w b o n D A C) := hMs
  have HB0 : Hid (Below w.heap.size w (ownOut w (some ⟨b, o, none⟩) n cap 24)) := ownOut_below ..
  have HO : Hid (∀ w', Below (w.heap.size + 1) (ownOut w (some ⟨b, o, none⟩) n cap 24) w' → w'.cell? ⟨w.heap.size, 0, none⟩ = some (.slice (some ⟨b, o, none⟩) n cap)) := fun w' hw' => (hw'.cell (p := ⟨w.heap.size, 0, none⟩) (by show w.heap.size < _; omega)).trans (ownOut_at ..)
  clear hl hcell hMs
  go_enter Tryd.func16, Tryd.ntmps16
  go_wp2_with fail
  go_loopg [5] n (fun g s5 wr => ∃ (k : Nat), k ≤ n ∧ g = n - k ∧ s5 = .int .i64 k ∧ findFrom (outP D L) (n - k) k = findFrom (outP D L) n 0 ∧ Below (w.heap.size + 1) (ownOut w (some ⟨b, o, none⟩) n cap 24) wr)
  case atStart => exact ⟨0, Nat.zero_le _, rfl, rfl, rfl, Below.refl _ _⟩
  case round =>
   obtain ⟨k, hk, rfl, rfl, hf, hBw⟩ := hrel
   have HF : Hid (findFrom (outP D L) (n - k) k = findFrom (outP D L) n 0) := hf
   have HW : Hid (Below (w.heap.size + 1) (ownOut w (some ⟨b, o, none⟩) n cap 24) wr) := hBw
   have hBo : Below w.heap.size w wr := HB0.out.trans (hBw.mono (by omega))
   have HBo : Hid (Below w.heap.size w wr) := hBo
   by_cases hlt : k < n
   ·have hki : (k : Int) < (n : Int) := by omega
    have HSK : Hid (n - k = (n - (k + 1)) + 1) := by show _ = _; omega
    obtain ⟨-, -, h3, -⟩ := (HMs.out.later hBo).2 k hlt
    have hcx : wr.cell? ⟨bp, op + k, none⟩ = some (.int .i64 (L.getD k 0)) := (hBo.cell (p := ⟨bp, op + k, none⟩) hbp).trans (HC.out k hlt)
    have c0 := HO.out wr hBw
    have hm := (HD.out k hlt).2
    have HOK : Hid (outP D L k = (decide (L.getD k 0 < 0) || decide (((D k).n : Int) ≤ L.getD k 0))) := rfl
    generalize L.getD k 0 = x at hcx HOK
    generalize (D k).n = m at h3 hm HOK
    have hm' : (m : Int) ≤ 12 := by omega
    clear hf hBw hBo
    by_cases hx0 : x < 0
    ·have HN : Hid (outP D L k = true) := by show _ = _; rw [HOK.out, decide_eq_true hx0]; rfl
     go_wp2_with fail
     go_quiet (fail)
     go_wp2_with fail
     go_ret
     refine ⟨?_, below_drewN HBo.out _⟩
     rw [sh1 HL.out]
     ·rfl
     ·rw [← HF.out, HSK.out, findFrom_hit _ HN.out]; omega
    ·have hx0' : 0 ≤ x := by omega
     have hxd : decide (x < 0) = false := decide_eq_false hx0
     by_cases hx1 : (m : Int) ≤ x
     ·have HN : Hid (outP D L k = true) := by show _ = _; rw [HOK.out, decide_eq_true hx1]; simp
      go_wp2_with fail
      go_quiet (fail)
      go_wp2_with fail
      go_ret
      refine ⟨?_, below_drewN HBo.out _⟩
      rw [sh1 HL.out]
      ·rfl
      ·rw [← HF.out, HSK.out, findFrom_hit _ HN.out]; omega
     ·have hx1' : x < (m : Int) := by omega
      have HN : Hid (outP D L k = false) := by show _ = _; rw [HOK.out, hxd, decide_eq_false hx1]; rfl
      go_wp2_with fail
      go_quiet (fail)
      go_wp2_with fail
      go_roundg (n - (k + 1))
      case measure => omega
      case rel => exact ⟨k + 1, by omega, rfl, by go_num, by rw [← HF.out, HSK.out, findFrom_miss _ HN.out], below_drewN HW.out _⟩
   ·have hke : k = n := by omega
    subst hke
    clear hf hBw hBo
    go_wp2_with fail
    go_ret
    refine ⟨?_, HBo.out⟩
    rw [sh2 HL.out]
    ·rfl
    ·rw [← HF.out, Nat.sub_self]; show ¬ (0 : Int) ≤ -1; decide
 ·have hle : ((L.length : Int) == (n : Int)) = false := by simp; omega
  have HR : Hid (shapeErr D n L = 3) := sh0 hl
  generalize L.length = m at hle
  clear hl hM hP
  go_enter Tryd.func16, Tryd.ntmps16
  go_wp2_with fail
  go_ret
  exact ⟨by rw [HR.out]; rfl, by go_grown⟩
set_option maxHeartbeats 4000000 in
theorem rleafplace_any (A0 : Option Addr) (cap n : Nat) (D : Nat → Dm) (A : Nat → Option Addr) (C : Nat → Nat) (Ap : Option Addr) (cp : Nat) (L : List Int) (w : World) (hI : InO D n L) (hM : DimsV w A0 cap n D A C) (hP : PlAt w Ap cp L) : Calls Tryd.prog 32 #[.agg #[.slice A0 n cap], .slice Ap L.length cp] w fun e w' => e = .returned (.bool (leafV D n L)) ∧ Below w.heap.size w w' := by
 obtain ⟨hn1, hn4, -, hd⟩ := allErr_some hI.right
 have hn' : (n : Int) ≤ 4 := by omega
 have HD : Hid (∀ i, i < n → 1 ≤ (D i).n ∧ (D i).n ≤ 12) := hd
 have HI : Hid (InO D n L) := hI
 have HV : Hid (leafV D n L = !decide (0 ≤ findFrom (notLeaf D L) n 0)) := by show _ = _; unfold leafV; rw [if_pos hI.ok]
 have hl := hI.len
 obtain ⟨hcp, h0 | ⟨bp, op, rfl, hbp, hcell⟩⟩ := hP
 ·rw [h0] at hl; simp at hl; omega
 obtain ⟨hcap, h0 | ⟨b, o, rfl, hMs⟩⟩ := hM
 ·omega
 rw [hl]
 have HC : Hid (∀ j, j < n → w.cell? ⟨bp, op + j, none⟩ = some (.int .i64 (L.getD j 0))) := fun j hj => hcell j (by omega)
 have HMs : Hid (DimsAt w b o n D A C) := hMs
 have HB0 : Hid (Below w.heap.size w (ownOut w (some ⟨b, o, none⟩) n cap 24)) := ownOut_below ..
 have HO : Hid (∀ w', Below (w.heap.size + 1) (ownOut w (some ⟨b, o, none⟩) n cap 24) w' → w'.cell? ⟨w.heap.size, 0, none⟩ = some (.slice (some ⟨b, o, none⟩) n cap)) := fun w' hw' => (hw'.cell (p := ⟨w.heap.size, 0, none⟩) (by show w.heap.size < _; omega)).trans (ownOut_at ..)
 have hS0 := ownOut_size w (some ⟨b, o, none⟩) n cap 24
 clear hl hcell hMs hd hI
 go_enter Tryd.func32, Tryd.ntmps32
 go_wp2_with fail
 go_loopg [5, 6] n (fun g s5 s6 wr => ∃ (k : Nat), k ≤ n ∧ g = n - k ∧ s5 = .int .i64 k ∧ findFrom (notLeaf D L) (n - k) k = findFrom (notLeaf D L) n 0 ∧ Below (w.heap.size + 1) (ownOut w (some ⟨b, o, none⟩) n cap 24) wr)
 case atStart => exact ⟨0, Nat.zero_le _, rfl, rfl, rfl, Below.refl _ _⟩
 case round =>
  obtain ⟨k, hk, rfl, rfl, hf, hBw⟩ := hrel
  have HF : Hid (findFrom (notLeaf D L) (n - k) k = findFrom (notLeaf D L) n 0) := hf
  have HW : Hid (Below (w.heap.size + 1) (ownOut w (some ⟨b, o, none⟩) n cap 24) wr) := hBw
  have hBo : Below w.heap.size w wr := HB0.out.trans (hBw.mono (by omega))
  have HBo : Hid (Below w.heap.size w wr) := hBo
  by_cases hlt : k < n
  ·have hki : (k : Int) < (n : Int) := by omega
   have HSK : Hid (n - k = (n - (k + 1)) + 1) := by show _ = _; omega
   obtain ⟨h0, h1, h3, h4⟩ := (HMs.out.later hBo).2 k hlt
   have hlo := HI.out.lo k hlt
   have hhi := HI.out.hi k hlt
   obtain ⟨X, hX⟩ : ∃ X : Nat, L.getD k 0 = X := ⟨(L.getD k 0).toNat, by omega⟩
   have hcx : wr.cell? ⟨bp, op + k, none⟩ = some (.int .i64 (L.getD k 0)) := (hBo.cell (p := ⟨bp, op + k, none⟩) hbp).trans (HC.out k hlt)
   have HNL : Hid (notLeaf D L k = !leafB (D k).mem (D k).n X) := by show _ = _; unfold notLeaf; rw [hX]; rfl
   rw [hX] at hcx hlo hhi
   have c0 := HO.out wr hBw
   have hwz : w.heap.size + 1 ≤ wr.heap.size := by have := hBw.size; omega
   obtain ⟨hd1, hd2⟩ := HD.out k hlt
   obtain ⟨hcm, h5 | ⟨b', o', hA, hMm⟩⟩ := h4
   ·omega
   rw [hA] at h3
   have HLf : Hid (∀ w', Below wr.heap.size wr w' → Calls Tryd.prog 50 #[.agg #[.string (D k).name, .int .i64 (D k).solve, .slice (some ⟨b', o', none⟩) (D k).n (C k)], .int .i64 X] w' fun e w'' => e = .returned (.bool (leafB (D k).mem (D k).n X)) ∧ Below w'.heap.size w' w'') := fun w' hw' => rleaf_any (D k) b' o' (C k) X w' hd2 (by omega) (hMm.later hw')
   clear hf hBw hBo hX hMm hA
   cases hb : leafB (D k).mem (D k).n X
   ·rw [hb] at HLf HNL
    have HN : Hid (notLeaf D L k = true) := HNL.out
    clear hb
    go_wp2_with fail
    go_region_law ((go_simp; refine (HLf.out _ (by go_grown)).mono ?_; rintro e w2 ⟨rfl, hb2⟩; have hN2 := onB (W0 := wr) (by go_grown) hb2; clear hb2))
    all_goals go_wp2_with fail
    all_goals go_ret
    all_goals refine ⟨?_, onB HBo.out hN2⟩
    all_goals rw [HV.out, ← HF.out, HSK.out, findFrom_hit _ HN.out, decide_eq_true (by omega)]
    all_goals rfl
   ·rw [hb] at HLf HNL
    have HN : Hid (notLeaf D L k = false) := HNL.out
    clear hb
    go_wp2_with fail
    go_region_law ((go_simp; refine (HLf.out _ (by go_grown)).mono ?_; rintro e w2 ⟨rfl, hb2⟩; have hN2 := onB (W0 := wr) (by go_grown) hb2; clear hb2))
    all_goals go_wp2_with fail
    all_goals go_roundg (n - (k + 1))
    all_goals first | omega | exact ⟨k + 1, by omega, rfl, by go_num, by rw [← HF.out, HSK.out, findFrom_miss _ HN.out], HW.out.trans (hN2.mono hwz)⟩
  ·have hke : k = n := by omega
   subst hke
   clear hf hBw hBo
   go_wp2_with fail
   go_ret
   refine ⟨?_, HBo.out⟩
   rw [HV.out, ← HF.out, Nat.sub_self]
   rfl
end Go.Proofs.YtfngmnhkhfgmjacDoor
