/-
  Entries checked: what check and Check of package input answer, called in whatever memory.
-/
import Derived.Test.YtfngmnhkhfgmjacDoorJIAX
namespace Go.Proofs.YtfngmnhkhfgmjacDoor
open Go.ChangeShapes Go.WideShapes Go.ChangeAt Go.RowKit
set_option maxRecDepth 20000
def ownEn (w : World) (A : Option Addr) (m c : Nat) (N : Int) (T : Nat) : World := w.alloc (.cells #[.slice A m c, .int .i64 N] T)
theorem ownEn_size (w : World) (A : Option Addr) (m c : Nat) (N : Int) (T : Nat) : (ownEn w A m c N T).heap.size = w.heap.size + 1 := by unfold ownEn; simp
theorem ownEn_below (w : World) (A : Option Addr) (m c : Nat) (N : Int) (T : Nat) : Below w.heap.size w (ownEn w A m c N T) := by unfold ownEn; go_grown
theorem ownEn_0 (w : World) (A : Option Addr) (m c : Nat) (N : Int) (T : Nat) : (ownEn w A m c N T).cell? ⟨w.heap.size, 0, none⟩ = some (.slice A m c) := by unfold ownEn; simp
theorem ownEn_1 (w : World) (A : Option Addr) (m c : Nat) (N : Int) (T : Nat) : (ownEn w A m c N T).cell? ⟨w.heap.size, 1, none⟩ = some (.int .i64 N) := by unfold ownEn; simp
def ownOE (w : World) (A0 : Option Addr) (n cap : Nat) (A : Option Addr) (m c : Nat) (N : Int) : World := ownEn (ownOut w A0 n cap 24) A m c N 77
theorem ownOE_size (w : World) (A0 : Option Addr) (n cap : Nat) (A : Option Addr) (m c : Nat) (N : Int) : (ownOE w A0 n cap A m c N).heap.size = w.heap.size + 2 := by unfold ownOE; rw [ownEn_size, ownOut_size]
theorem ownOE_below (w : World) (A0 : Option Addr) (n cap : Nat) (A : Option Addr) (m c : Nat) (N : Int) : Below w.heap.size w (ownOE w A0 n cap A m c N) := onB (ownOut_below ..) (ownEn_below ..)
theorem ownOE_0 (w : World) (A0 : Option Addr) (n cap : Nat) (A : Option Addr) (m c : Nat) (N : Int) : (ownOE w A0 n cap A m c N).cell? ⟨w.heap.size + 1, 0, none⟩ = some (.slice A m c) := by
 have h := ownEn_0 (ownOut w A0 n cap 24) A m c N 77
 rw [ownOut_size] at h
 exact h
theorem ownOE_1 (w : World) (A0 : Option Addr) (n cap : Nat) (A : Option Addr) (m c : Nat) (N : Int) : (ownOE w A0 n cap A m c N).cell? ⟨w.heap.size + 1, 1, none⟩ = some (.int .i64 N) := by
 have h := ownEn_1 (ownOut w A0 n cap 24) A m c N 77
 rw [ownOut_size] at h
 exact h
set_option maxHeartbeats 4000000 in
theorem icheck1_any (A0 : Option Addr) (cap n : Nat) (D : Nat → Dm) (A : Nat → Option Addr) (C : Nat → Nat) (Ae : Option Addr) (ce : Nat) (e : En) (w : World) (hR : (allErr D n).2.2 = 0) (hM : DimsV w A0 cap n D A C) (hP : PlAt w Ae ce e.pl) :
  Calls Tryd.prog 34 #[.agg #[.slice A0 n cap], .agg #[.slice Ae e.pl.length ce, .int .i64 e.n]] w fun r w' => r = .returned (errV (entOne D n e)) ∧ Below w.heap.size w w' := by
 have hB0 := ownOE_below w A0 n cap Ae e.pl.length ce e.n
 have h := pleaf_any A0 cap n D A C Ae ce e.pl (ownOE w A0 n cap Ae e.pl.length ce e.n) (hM.later hB0) (hP.later hB0)
 have HB0 : Hid (Below w.heap.size w (ownOE w A0 n cap Ae e.pl.length ce e.n)) := hB0
 have HS : Hid (w.heap.size + 1 < (ownOE w A0 n cap Ae e.pl.length ce e.n).heap.size) := by show _ < _; rw [ownOE_size]; omega
 have H1 : Hid ((ownOE w A0 n cap Ae e.pl.length ce e.n).cell? ⟨w.heap.size + 1, 1, none⟩ = some (.int .i64 e.n)) := ownOE_1 ..
 clear hM hP hB0
 by_cases hp : placeErr D n e.pl = 0
 ·by_cases hf : leafV D n e.pl = true
  ·have hv := one_num hR hp hf
   rw [hp, hf, errV_zero] at h
   clear hp hf
   by_cases hlo : e.n < -1000000
   ·have HV : Hid (errV (entOne D n e) = .iface 69 (.int .i64 1)) := by
     show _ = _
     rw [hv, if_pos (by simp [numOk]; omega)]; rfl
    generalize e.pl.length = m at h HB0 HS H1
    generalize e.n = N at h HB0 HS H1 hlo
    clear hv
    go_enter Tryd.func34, Tryd.ntmps34
    go_wp2_with fail
    refine h.mono ?_
    rintro r w1 ⟨rfl, hb1⟩
    have c1 := (hb1.cell (p := ⟨w.heap.size + 1, 1, none⟩) HS.out).trans H1.out
    have HB1 : Hid (Below w.heap.size w w1) := onB HB0.out hb1
    clear hb1
    go_wp2_with fail
    go_ret
    rw [HV.out]
    exact ⟨rfl, HB1.out⟩
   ·by_cases hhi : 1000000 < e.n
    ·have HV : Hid (errV (entOne D n e) = .iface 69 (.int .i64 1)) := by
      show _ = _
      rw [hv, if_pos (by simp [numOk]; omega)]; rfl
     generalize e.pl.length = m at h HB0 HS H1
     generalize e.n = N at h HB0 HS H1 hlo hhi
     clear hv
     go_enter Tryd.func34, Tryd.ntmps34
     go_wp2_with fail
     refine h.mono ?_
     rintro r w1 ⟨rfl, hb1⟩
     have c1 := (hb1.cell (p := ⟨w.heap.size + 1, 1, none⟩) HS.out).trans H1.out
     have HB1 : Hid (Below w.heap.size w w1) := onB HB0.out hb1
     clear hb1
     go_wp2_with fail
     go_ret
     rw [HV.out]
     exact ⟨rfl, HB1.out⟩
    ·have HV : Hid (errV (entOne D n e) = .nilIface) := by
      show _ = _
      rw [hv, if_neg (by simp [numOk]; omega)]; rfl
     generalize e.pl.length = m at h HB0 HS H1
     generalize e.n = N at h HB0 HS H1 hlo hhi
     clear hv
     go_enter Tryd.func34, Tryd.ntmps34
     go_wp2_with fail
     refine h.mono ?_
     rintro r w1 ⟨rfl, hb1⟩
     have c1 := (hb1.cell (p := ⟨w.heap.size + 1, 1, none⟩) HS.out).trans H1.out
     have HB1 : Hid (Below w.heap.size w w1) := onB HB0.out hb1
     clear hb1
     go_wp2_with fail
     go_ret
     rw [HV.out]
     exact ⟨rfl, HB1.out⟩
  ·have hf' : leafV D n e.pl = false := by simpa using hf
   have HV : Hid (errV (entOne D n e) = .iface 69 (.int .i64 6)) := by show _ = _; rw [one_leaf hR hp hf']; rfl
   rw [hp, hf', errV_zero] at h
   generalize e.pl.length = m at h HB0
   generalize e.n = N at h HB0
   clear hp hf hf' HS H1
   go_enter Tryd.func34, Tryd.ntmps34
   go_wp2_with fail
   refine h.mono ?_
   rintro r w1 ⟨rfl, hb1⟩
   have HB1 : Hid (Below w.heap.size w w1) := onB HB0.out hb1
   clear hb1
   go_wp2_with fail
   go_ret
   rw [HV.out]
   exact ⟨rfl, HB1.out⟩
 ·have HV : Hid (errV (entOne D n e) = .iface 69 (.int .i64 (placeErr D n e.pl))) := by show _ = _; rw [one_place hR hp, errV_some hp]
  rw [errV_some hp] at h
  generalize placeErr D n e.pl = E at h HV
  generalize leafV D n e.pl = lf at h
  generalize e.pl.length = m at h HB0
  generalize e.n = N at h HB0
  clear hp HS H1
  go_enter Tryd.func34, Tryd.ntmps34
  go_wp2_with fail
  refine h.mono ?_
  rintro r w1 ⟨rfl, hb1⟩
  have HB1 : Hid (Below w.heap.size w w1) := onB HB0.out hb1
  clear hb1
  go_wp2_with fail
  go_ret
  rw [HV.out]
  exact ⟨rfl, HB1.out⟩
end Go.Proofs.YtfngmnhkhfgmjacDoor
