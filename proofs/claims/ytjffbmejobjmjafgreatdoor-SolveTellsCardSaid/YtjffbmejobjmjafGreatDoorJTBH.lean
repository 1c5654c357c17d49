/-
 Entries checked: what check and Check of package input answer, called in whatever memory.
 Entries checked: what Check of package input answers, called in whatever memory.
 What is written at a place: what Get of package input answers, called in whatever memory.
 A place cloned: what slices.Clone answers, called in whatever memory: the same numbers in a block of ints of its own.
 An entry put into a row of entries of a call's own: what slices.Insert answers: in place where there is room, in a new row where there is none.
 An entry put into a row of entries of a call's own, in place: what slices.Insert answers where there is room.
 An entry put into a row of entries of a call's own, into a new row: what slices.Insert answers where there is no room; and all ways together.
 An entry taken out of a row of entries of a call's own: what slices.Delete answers.
 Entries made anew: what fresh of package input answers, called in whatever memory: a row of its own that holds the same.
 A number put among entries of a call's own: what set of package input answers.
 A place taken out of entries of a call's own: what without of package input answers.
 A number put, a place cleared: what Set and Clear of package input answer, called in whatever memory.
 What the document's Less, Find and Input answer, called in whatever memory.
-/
import Derived.Test.YtjffbmejobjmjafGreatDoorJTAS
import Derived.Deep.RegionHeld3
import Derived.Deep.DeepCutAuto
import Derived.Test.YtjffbmejobjmjafGreatDoorJTAK
import Derived.Lib.SliceRun
import Derived.OwnWalk
import Derived.Shelf.Spec.SlicesInsertGrow
import Derived.Deep.RegionLaw
import Derived.Laws.OwnMore
namespace Go.Proofs.YtjffbmejobjmjafGreatDoor
open Go.ChangeShapes Go.WideShapes Go.ChangeAt Go.RowKit
set_option maxRecDepth 20000

def ownEn (w : World) (A : Option Addr) (m c : Nat) (N : Int) (T : Nat) : World := w.alloc (.cells #[.slice A m c, .int .i64 N] T)
theorem ownEn_size (w : World) (A : Option Addr) (m c : Nat) (N : Int) (T : Nat) : (ownEn w A m c N T).heap.size = w.heap.size + 1 := by unfold ownEn; simp
theorem ownEn_below (w : World) (A : Option Addr) (m c : Nat) (N : Int) (T : Nat) : Below w.heap.size w (ownEn w A m c N T) := by unfold ownEn; go_grown
theorem ownEn_0 (w : World) (A : Option Addr) (m c : Nat) (N : Int) (T : Nat) : (ownEn w A m c N T).cell? ⟨w.heap.size, 0, none⟩ = some (.slice A m c) := by unfold ownEn; simp
theorem ownEn_1 (w : World) (A : Option Addr) (m c : Nat) (N : Int) (T : Nat) : (ownEn w A m c N T).cell? ⟨w.heap.size, 1, none⟩ = some (.int .i64 N) := by unfold ownEn; simp
def ownOE (w : World) (A0 : Option Addr) (n cap : Nat) (A : Option Addr) (m c : Nat) (N : Int) : World := ownEn (ownOut w A0 n cap 42) A m c N 57
theorem ownOE_size (w : World) (A0 : Option Addr) (n cap : Nat) (A : Option Addr) (m c : Nat) (N : Int) : (ownOE w A0 n cap A m c N).heap.size = w.heap.size + 2 := by unfold ownOE; rw [ownEn_size, ownOut_size]
theorem ownOE_below (w : World) (A0 : Option Addr) (n cap : Nat) (A : Option Addr) (m c : Nat) (N : Int) : Below w.heap.size w (ownOE w A0 n cap A m c N) := onB (ownOut_below ..) (ownEn_below ..)
theorem ownOE_1 (w : World) (A0 : Option Addr) (n cap : Nat) (A : Option Addr) (m c : Nat) (N : Int) : (ownOE w A0 n cap A m c N).cell? ⟨w.heap.size + 1, 1, none⟩ = some (.int .i64 N) := by
 have h := ownEn_1 (ownOut w A0 n cap 42) A m c N 57
 rw [ownOut_size] at h
 exact h

set_option maxHeartbeats 4000000 in
theorem icheck1_any (A0 : Option Addr) (cap n : Nat) (D : Nat → Dm) (A : Nat → Option Addr) (C : Nat → Nat) (Ae : Option Addr) (ce : Nat) (e : En) (w : World) (hR : (allErr D n).2.2 = 0) (hM : DimsV w A0 cap n D A C) (hP : PlAt w Ae ce e.pl) :
  Calls Tryz.prog 72 #[.agg #[.slice A0 n cap], .agg #[.slice Ae e.pl.length ce, .int .i64 e.n]] w fun r w' => r = .returned (errV (entOne D n e)) ∧ Below w.heap.size w w' := by
 have hB0 := ownOE_below w A0 n cap Ae e.pl.length ce e.n
 have h := pleaf_any A0 cap n D A C Ae ce e.pl (ownOE w A0 n cap Ae e.pl.length ce e.n) (hM.later hB0) (hP.later hB0)
 have HB0 : Hid (Below w.heap.size w (ownOE w A0 n cap Ae e.pl.length ce e.n)) := hB0
 have HS : Hid (w.heap.size + 1 < (ownOE w A0 n cap Ae e.pl.length ce e.n).heap.size) := by show _ < _; rw [ownOE_size]; omega
 have H1 : Hid ((ownOE w A0 n cap Ae e.pl.length ce e.n).cell? ⟨w.heap.size + 1, 1, none⟩ = some (.int .i64 e.n)) := ownOE_1 ..
 clear hM hP hB0
 by_cases hp : placeErr D n e.pl = 0
 ·by_cases hf : leafV D n e.pl = true
  ·have hv := one_num hR hp hf
   rw [hp, hf, errV_zero] at h
   clear hp hf
   by_cases hlo : e.n < -1000000
   ·have HV : Hid (errV (entOne D n e) = .iface 65 (.int .i64 1)) := by
     show _ = _
     rw [hv, if_pos (by simp [numOk]; omega)]; rfl
    generalize e.pl.length = m at h HB0 HS H1
    generalize e.n = N at h HB0 HS H1 hlo
    clear hv
    go_enter Tryz.func72, Tryz.ntmps72
    go_wp2_with fail
    refine h.mono ?_
    rintro r w1 ⟨rfl, hb1⟩
    have c1 := (hb1.cell (p := ⟨w.heap.size + 1, 1, none⟩) HS.out).trans H1.out
    have HB1 : Hid (Below w.heap.size w w1) := onB HB0.out hb1
    clear hb1
    go_wp2_with fail
    go_ret
    rw [HV.out]
    exact ⟨rfl, HB1.out⟩
   ·by_cases hhi : 1000000 < e.n
    ·have HV : Hid (errV (entOne D n e) = .iface 65 (.int .i64 1)) := by
      show _ = _
      rw [hv, if_pos (by simp [numOk]; omega)]; rfl
     generalize e.pl.length = m at h HB0 HS H1
     generalize e.n = N at h HB0 HS H1 hlo hhi
     clear hv
     go_enter Tryz.func72, Tryz.ntmps72
     go_wp2_with fail
     refine h.mono ?_
     rintro r w1 ⟨rfl, hb1⟩
     have c1 := (hb1.cell (p := ⟨w.heap.size + 1, 1, none⟩) HS.out).trans H1.out
     have HB1 : Hid (Below w.heap.size w w1) := onB HB0.out hb1
     clear hb1
     go_wp2_with fail
     go_ret
     rw [HV.out]
     exact ⟨rfl, HB1.out⟩
    ·have HV : Hid (errV (entOne D n e) = .nilIface) := by
      show _ = _
      rw [hv, if_neg (by simp [numOk]; omega)]; rfl
     generalize e.pl.length = m at h HB0 HS H1
     generalize e.n = N at h HB0 HS H1 hlo hhi
     clear hv
     go_enter Tryz.func72, Tryz.ntmps72
     go_wp2_with fail
     refine h.mono ?_
     rintro r w1 ⟨rfl, hb1⟩
     have c1 := (hb1.cell (p := ⟨w.heap.size + 1, 1, none⟩) HS.out).trans H1.out
     have HB1 : Hid (Below w.heap.size w w1) := onB HB0.out hb1
     clear hb1
     go_wp2_with fail
     go_ret
     rw [HV.out]
     exact ⟨rfl, HB1.out⟩
  ·have hf' : leafV D n e.pl = false := by simpa using hf
   have HV : Hid (errV (entOne D n e) = .iface 65 (.int .i64 6)) := by show _ = _; rw [one_leaf hR hp hf']; rfl
   rw [hp, hf', errV_zero] at h
   generalize e.pl.length = m at h HB0
   generalize e.n = N at h HB0
   clear hp hf hf' HS H1
   go_enter Tryz.func72, Tryz.ntmps72
   go_wp2_with fail
   refine h.mono ?_
   rintro r w1 ⟨rfl, hb1⟩
   have HB1 : Hid (Below w.heap.size w w1) := onB HB0.out hb1
   clear hb1
   go_wp2_with fail
   go_ret
   rw [HV.out]
   exact ⟨rfl, HB1.out⟩
 ·have HV : Hid (errV (entOne D n e) = .iface 65 (.int .i64 (placeErr D n e.pl))) := by show _ = _; rw [one_place hR hp, errV_some hp]
  rw [errV_some hp] at h
  generalize placeErr D n e.pl = E at h HV
  generalize leafV D n e.pl = lf at h
  generalize e.pl.length = m at h HB0
  generalize e.n = N at h HB0
  clear hp HS H1
  go_enter Tryz.func72, Tryz.ntmps72
  go_wp2_with fail
  refine h.mono ?_
  rintro r w1 ⟨rfl, hb1⟩
  have HB1 : Hid (Below w.heap.size w w1) := onB HB0.out hb1
  clear hb1
  go_wp2_with fail
  go_ret
  rw [HV.out]
  exact ⟨rfl, HB1.out⟩
end Go.Proofs.YtjffbmejobjmjafGreatDoor

namespace Go.Proofs.YtjffbmejobjmjafGreatDoor
open Go.ChangeShapes Go.WideShapes Go.ChangeAt Go.RowKit
set_option maxRecDepth 20000

theorem inO_short {D : Nat → Dm} {n : Nat} {L : List Int} (h : InO D n L) : L.length ≤ 4 := by rw [h.len]; exact (allErr_some h.right).2.1

theorem keep3 {W w' : World} {b b' o1 o2 o3 : Nat} {u v z : Value} (h : b < W.heap.size ∧ b' < W.heap.size ∧ W.cell? ⟨b, o1, none⟩ = some u ∧ W.cell? ⟨b, o2, none⟩ = some v ∧ W.cell? ⟨b', o3, none⟩ = some z) (hB : Below W.heap.size W w') : Below W.heap.size W w' ∧ w'.cell? ⟨b, o1, none⟩ = some u ∧ w'.cell? ⟨b, o2, none⟩ = some v ∧ w'.cell? ⟨b', o3, none⟩ = some z :=
 ⟨hB, (hB.cell (p := ⟨b, o1, none⟩) h.1).trans h.2.2.1, (hB.cell (p := ⟨b, o2, none⟩) h.1).trans h.2.2.2.1, (hB.cell (p := ⟨b', o3, none⟩) h.2.1).trans h.2.2.2.2⟩

set_option maxHeartbeats 8000000 in
theorem icheck_any (A0 : Option Addr) (cap n : Nat) (D : Nat → Dm) (A : Nat → Option Addr) (C : Nat → Nat) (AE : Option Addr) (ce : Nat) (xs : List EnL) (w : World) (hM : DimsV w A0 cap n D A C) (hE : EnsV w AE ce xs) :
  Calls Tryz.prog 37 #[.agg #[.slice A0 n cap], .slice AE xs.length ce] w fun r w' => r = .returned (errV (entsErr D n (lE xs))) ∧ Below w.heap.size w w' := by
 have hB0 := ownOut_below w A0 n cap 42
 have h := all_any A0 cap n D A C (ownOut w A0 n cap 42) (hM.later hB0)
 have HB0 : Hid (Below w.heap.size w (ownOut w A0 n cap 42)) := hB0
 have HM : Hid (DimsV w A0 cap n D A C) := hM
 have HE : Hid (EnsV w AE ce xs) := hE
 generalize (allErr D n).1 = x1 at h
 generalize (allErr D n).2.1 = x2 at h
 clear hM hB0
 by_cases hR : (allErr D n).2.2 = 0
 ·have HR : Hid ((allErr D n).2.2 = 0) := hR
  have HV : Hid (entsErr D n (lE xs) = entFrom D n (qOf (lE xs) 0) ((lE xs).drop 0)) := ents_in _ hR
  rw [hR, errV_zero] at h
  obtain ⟨N, hN⟩ : ∃ N, xs.length = N := ⟨_, rfl⟩
  have HN : Hid (xs.length = N) := hN
  have hNb : (N : Int) ≤ 9223372036854775807 := by have h1 := hE.1; have h2 := hE.2.1; omega
  rw [hN]
  clear hR hN hE
  go_enter Tryz.func37, Tryz.ntmps37
  go_wp2_with fail
  refine h.mono ?_
  rintro e w1 ⟨rfl, hb1⟩
  have hB : Below w.heap.size w w1 := onB HB0.out hb1
  have hz : w.heap.size < w1.heap.size := by have := hb1.size; rw [ownOut_size] at this; omega
  have h2 : w1.cell? ⟨w.heap.size, 0, none⟩ = some (.slice A0 n cap) := (hb1.cell (p := ⟨w.heap.size, 0, none⟩) (by show w.heap.size < _; rw [ownOut_size]; omega)).trans (ownOut_at ..)
  have HM1 : Hid (DimsV w1 A0 cap n D A C) := HM.out.later hB
  have HE1 : Hid (EnsV w1 AE ce xs) := HE.out.later hB
  have HB : Hid (Below w.heap.size w w1) := hB
  clear hb1 h hB HM HE HB0
  go_wp2_with fail
  go_loopg [22] N (fun g s22 wr => ∃ (k : Nat), k ≤ N ∧ g = N - k ∧ s22 = .int .i64 k ∧ Hid (entFrom D n (qOf (lE xs) k) ((lE xs).drop k) = entFrom D n (qOf (lE xs) 0) ((lE xs).drop 0)) ∧ Hid (∀ j, j < k → entOne D n ((lE xs).getD j noEn) = 0) ∧ Below w1.heap.size w1 wr)
  case atStart => exact ⟨0, Nat.zero_le _, rfl, rfl, (rfl : entFrom D n (qOf (lE xs) 0) ((lE xs).drop 0) = entFrom D n (qOf (lE xs) 0) ((lE xs).drop 0)), fun j hj => absurd hj (Nat.not_lt_zero _), Below.refl _ _⟩
  case round =>
   obtain ⟨k, hk, rfl, rfl, HF, HO, hBw⟩ := hrel
   have HBw : Hid (Below w1.heap.size w1 wr) := hBw
   by_cases hlt : k < N
   ·have hkx : k < xs.length := by rw [HN.out]; exact hlt
    have hki : (k : Int) < (N : Int) := by omega
    have hk1 : (k : Int) + 1 ≤ 9223372036854775807 := by omega
    obtain ⟨-, -, h0 | ⟨b, o, rfl, hEs⟩⟩ := HE1.out.later hBw
    ·have := HN.out; rw [h0] at this; simp at this; omega
    obtain ⟨c1, c2⟩ := hEs.at hkx
    have hpl := hEs.pl hkx
    have c0 : wr.cell? ⟨w.heap.size, 0, none⟩ = some (.slice A0 n cap) := (hBw.cell (p := ⟨w.heap.size, 0, none⟩) hz).trans h2
    have hzr : w.heap.size < wr.heap.size := Nat.lt_of_lt_of_le hz hBw.size
    have hBo := ownEn_below wr (xs.getD k noL).A (xs.getD k noL).e.pl.length (xs.getD k noL).c (xs.getD k noL).e.n 57
    have hck := icheck1_any A0 cap n D A C (xs.getD k noL).A (xs.getD k noL).c (xs.getD k noL).e (ownEn wr (xs.getD k noL).A (xs.getD k noL).e.pl.length (xs.getD k noL).c (xs.getD k noL).e.n 57) HR.out ((HM1.out.later hBw).later hBo) (hpl.later hBo)
    have HBo : Hid (Below wr.heap.size wr (ownEn wr (xs.getD k noL).A (xs.getD k noL).e.pl.length (xs.getD k noL).c (xs.getD k noL).e.n 57)) := hBo
    have HEs : Hid (EnsAt wr b o xs) := hEs
    have HPL : Hid (PlAt wr (xs.getD k noL).A (xs.getD k noL).c (xs.getD k noL).e.pl) := hpl
    have H0 : Hid ((ownEn wr (xs.getD k noL).A (xs.getD k noL).e.pl.length (xs.getD k noL).c (xs.getD k noL).e.n 57).cell? ⟨wr.heap.size, 0, none⟩ = some (.slice (xs.getD k noL).A (xs.getD k noL).e.pl.length (xs.getD k noL).c)) := ownEn_0 ..
    have HS : Hid (wr.heap.size < (ownEn wr (xs.getD k noL).A (xs.getD k noL).e.pl.length (xs.getD k noL).c (xs.getD k noL).e.n 57).heap.size) := by show _ < _; rw [ownEn_size]; omega
    clear hBw hEs hpl hBo
    by_cases he : entOne D n (xs.getD k noL).e = 0
    ·have hKO := entOne_right HR.out he
     have HK0 : Hid (entOne D n ((lE xs).getD k noEn) = 0) := by show _ = _; rw [lE_at]; exact he
     have HSh : Hid ((xs.getD k noL).e.pl.length ≤ 4) := inO_short hKO.1
     rw [he, errV_zero] at hck
     clear he hKO
     rcases Nat.eq_zero_or_pos k with hk0 | hk0
     ·subst hk0
      have HQ : Hid (aheadOk (qOf (lE xs) 0) ((lE xs).getD 0 noEn).pl = true) := rfl
      have HST : Hid (entFrom D n (qOf (lE xs) 0) ((lE xs).drop 0) = entFrom D n (qOf (lE xs) (0 + 1)) ((lE xs).drop (0 + 1))) := ent_on (by rw [lE_len]; exact hkx) HK0.out HQ.out
      generalize (xs.getD 0 noL).A = A1 at c1 hck HBo H0 HS
      generalize (xs.getD 0 noL).c = k1 at c1 hck HBo H0 HS
      generalize (xs.getD 0 noL).e.n = n1 at c2 hck HBo H0 HS
      generalize (xs.getD 0 noL).e.pl.length = m1 at c1 hck HBo H0 HS
      simp only [Nat.zero_mul, Nat.add_zero] at c1 c2
      clear HPL HSh
      go_wp2_with fail
      refine hck.mono ?_
      rintro e w2 ⟨rfl, hb2⟩
      have HB2 : Hid (Below wr.heap.size wr w2) := onB HBo.out hb2
      clear hb2
      go_wp2_with fail
      go_quiet (fail)
      go_wp2_with fail
      go_roundg (N - (0 + 1))
      case measure => omega
      case rel =>
       refine ⟨0 + 1, by omega, rfl, by go_num, HST.out.symm, fun j hj => ?_, below_drewN (onB HBw.out HB2.out) _⟩
       have : j = 0 := by omega
       subst this
       exact HK0.out
     ·obtain ⟨j, hj⟩ : ∃ j, k = j + 1 := ⟨k - 1, by omega⟩
      have hjx : j < xs.length := by omega
      obtain ⟨d1, d2⟩ := HEs.out.at hjx
      have hjO := entOne_right HR.out (HO.out j (by omega))
      rw [lE_at] at hjO
      have HJ : Hid (∀ w', Below wr.heap.size wr w' → Calls Tryz.prog 73 #[.agg #[.slice (xs.getD j noL).A (xs.getD j noL).e.pl.length (xs.getD j noL).c, .int .i64 (xs.getD j noL).e.n], .slice (xs.getD k noL).A (xs.getD k noL).e.pl.length (xs.getD k noL).c] w' fun e w'' => e = .returned (.int .i64 (cmpL (xs.getD j noL).e.pl (xs.getD k noL).e.pl)) ∧ Below w'.heap.size w' w'') := fun w' hw' => order_any _ _ _ _ _ _ _ w' (inO_short hjO.1) HSh.out ((HEs.out.pl hjx).later hw') (HPL.out.later hw')
      have HCN : Hid (decide (0 ≤ cmpL (xs.getD j noL).e.pl (xs.getD k noL).e.pl) = !lessL (xs.getD j noL).e.pl (xs.getD k noL).e.pl) := cmpL_nonneg (xs.getD j noL).e.pl (xs.getD k noL).e.pl
      have HQ : Hid (aheadOk (qOf (lE xs) k) ((lE xs).getD k noEn).pl = lessL (xs.getD j noL).e.pl (xs.getD k noL).e.pl) := by show _ = _; rw [← lE_at, ← lE_at, hj]; rfl
      have hwr : IntKind.i64.wrap ((k : Int) - 1) = (j : Int) := by rw [IntKind.wrap_i64]; omega
      have hj0 : (0 : Int) < (k : Int) := by omega
      have HKJ : Hid (k = j + 1) := hj
      have hjN : (j : Int) < (N : Int) := by omega
      generalize (xs.getD k noL).A = A1 at c1 hck HBo H0 HS HJ
      generalize (xs.getD k noL).c = k1 at c1 hck HBo H0 HS HJ
      generalize (xs.getD k noL).e.n = n1 at c2 hck HBo H0 HS
      generalize (xs.getD k noL).e.pl.length = m1 at c1 hck HBo H0 HS HJ
      generalize (xs.getD j noL).A = A2 at d1 HJ
      generalize (xs.getD j noL).c = k2 at d1 HJ
      generalize (xs.getD j noL).e.n = n2 at d2 HJ
      generalize (xs.getD j noL).e.pl.length = m2 at d1 HJ
      generalize cmpL (xs.getD j noL).e.pl (xs.getD k noL).e.pl = cc at HJ HCN
      have hbb := HEs.out.1
      clear HPL HSh hjO hj
      go_wp2_with fail
      refine hck.mono ?_
      rintro e w2 ⟨rfl, hb2⟩
      have hB2 : Below wr.heap.size wr w2 := onB HBo.out hb2
      have HB2 : Hid (Below wr.heap.size wr w2) := hB2
      have e1 : w2.cell? ⟨b, o + j * 2, none⟩ = some (.slice A2 m2 k2) := (hB2.cell (p := ⟨b, o + j * 2, none⟩) hbb).trans d1
      have e2 : w2.cell? ⟨b, o + j * 2 + 1, none⟩ = some (.int .i64 n2) := (hB2.cell (p := ⟨b, o + j * 2 + 1, none⟩) hbb).trans d2
      have e3 : w2.cell? ⟨wr.heap.size, 0, none⟩ = some (.slice A1 m1 k1) := (hb2.cell (p := ⟨wr.heap.size, 0, none⟩) HS.out).trans H0.out
      have hz2 : wr.heap.size < w2.heap.size := Nat.lt_of_lt_of_le HS.out hb2.size
      clear hb2 hB2 c1 c2 d1 d2
      have HC3 : Hid (b < w2.heap.size ∧ wr.heap.size < w2.heap.size ∧ w2.cell? ⟨b, o + j * 2, none⟩ = some (.slice A2 m2 k2) ∧ w2.cell? ⟨b, o + j * 2 + 1, none⟩ = some (.int .i64 n2) ∧ w2.cell? ⟨wr.heap.size, 0, none⟩ = some (.slice A1 m1 k1)) := ⟨Nat.lt_of_lt_of_le hbb HB2.out.size, hz2, e1, e2, e3⟩
      go_wp2_with fail
      go_cut [45] (fun s45 wx => s45 = .bool (decide (0 ≤ cc)) ∧ Below w2.heap.size w2 wx)
      case first =>
       go_region_held3 (fun w' => Below w2.heap.size w2 w' ∧ w'.cell? ⟨b, o + j * 2, none⟩ = some (.slice A2 m2 k2) ∧ w'.cell? ⟨b, o + j * 2 + 1, none⟩ = some (.int .i64 n2) ∧ w'.cell? ⟨wr.heap.size, 0, none⟩ = some (.slice A1 m1 k1))
        ((refine keep3 HC3.out ?_; go_grown; done))
        (first | (go_at_call 73; refine (HJ.out _ (onB HB2.out (by go_grown))).mono ?_; rintro e w3 ⟨rfl, hb3⟩; have hN3 := onB (W0 := w2) (by go_grown) hb3; have hy3 := hN3.size; clear hb3))
       all_goals go_wp2_with fail
       all_goals go_meet
       all_goals exact ⟨rfl, by go_grown⟩
      case rest =>
       obtain ⟨rfl, hb3⟩ := hcut
       have HB3 : Hid (Below w2.heap.size w2 wc) := hb3
       clear hb3 e1 e2 e3 HC3 HJ hz2 hwr hjN
       obtain ⟨tC, htC⟩ : ∃ t, decide (0 ≤ cc) = t := ⟨_, rfl⟩
       rw [htC]
       have HTC : Hid (decide (0 ≤ cc) = tC) := htC
       clear htC hk0 hj0 hbb hzr c0
       cases tC
       case true =>
        have HST : Hid (errV (entsErr D n (lE xs)) = .iface 65 (.int .i64 7)) := by
         show _ = _
         have h3 := HCN.out
         rw [HTC.out] at h3
         rw [HV.out, ← HF.out, ent_clash (by rw [lE_len]; exact hkx) HK0.out (by rw [HQ.out]; simpa using h3)]; rfl
        go_wp2_with fail
        go_ret
        rw [HST.out]
        exact ⟨rfl, onB HB.out (onB HBw.out (onB HB2.out HB3.out))⟩
       case false =>
        have HST : Hid (entFrom D n (qOf (lE xs) k) ((lE xs).drop k) = entFrom D n (qOf (lE xs) (k + 1)) ((lE xs).drop (k + 1))) := by
         show _ = _
         have h3 := HCN.out
         rw [HTC.out] at h3
         exact ent_on (by rw [lE_len]; exact hkx) HK0.out (by rw [HQ.out]; simpa using h3)
        go_wp2_with fail
        go_roundg (N - (k + 1))
        case measure => omega
        case rel =>
         refine ⟨k + 1, by omega, rfl, by go_num, HST.out.symm.trans HF.out, fun i hi => ?_, onB HBw.out (onB HB2.out HB3.out)⟩
         rcases Nat.lt_succ_iff_lt_or_eq.1 hi with h1 | rfl
         ·exact HO.out i h1
         ·exact HK0.out
    ·have HFin : Hid (errV (entsErr D n (lE xs)) = .iface 65 (.int .i64 (entOne D n (xs.getD k noL).e))) := by
      show _ = _
      rw [HV.out, ← HF.out, ent_bad (by rw [lE_len]; exact hkx) (by rw [lE_at]; exact he), lE_at, errV_some he]
     rw [errV_some he] at hck
     generalize entOne D n (xs.getD k noL).e = E at hck HFin
     generalize (xs.getD k noL).A = A1 at c1 hck HBo H0 HS
     generalize (xs.getD k noL).c = k1 at c1 hck HBo H0 HS
     generalize (xs.getD k noL).e.n = n1 at c2 hck HBo H0 HS
     generalize (xs.getD k noL).e.pl.length = m1 at c1 hck HBo H0 HS
     clear HPL he
     go_wp2_with fail
     refine hck.mono ?_
     rintro e w2 ⟨rfl, hb2⟩
     have HB2 : Hid (Below wr.heap.size wr w2) := onB HBo.out hb2
     clear hb2
     go_wp2_with fail
     go_ret
     rw [HFin.out]
     exact ⟨rfl, onB HB.out (onB HBw.out HB2.out)⟩
   ·have hke : k = N := by omega
    subst hke
    have HFin : Hid (errV (entsErr D n (lE xs)) = .nilIface) := by show _ = _; rw [HV.out, ← HF.out, ent_end (by rw [lE_len, HN.out]; exact Nat.le_refl _)]; rfl
    clear hBw
    go_wp2_with fail
    go_ret
    rw [HFin.out]
    exact ⟨rfl, onB HB.out HBw.out⟩
 ·have HV : Hid (errV (entsErr D n (lE xs)) = .iface 65 (.int .i64 (allErr D n).2.2)) := by show _ = _; rw [ents_bad _ hR, errV_some hR]
  rw [errV_some hR] at h
  generalize (allErr D n).2.2 = E at h HV
  generalize xs.length = N
  clear hR hE HM HE
  go_enter Tryz.func37, Tryz.ntmps37
  go_wp2_with fail
  refine h.mono ?_
  rintro e w1 ⟨rfl, hb1⟩
  go_wp2_with fail
  go_ret
  rw [HV.out]
  exact ⟨rfl, onB HB0.out hb1⟩
end Go.Proofs.YtjffbmejobjmjafGreatDoor

namespace Go.Proofs.YtjffbmejobjmjafGreatDoor
open Go.ChangeShapes Go.WideShapes Go.ChangeAt Go.RowKit
set_option maxRecDepth 20000

def ownOC (w : World) (A0 : Option Addr) (n cap : Nat) : World := (ownOut w A0 n cap 42).alloc (.cells #[.int .i64 0, .int .i64 0] 48)
theorem ownOC_size (w : World) (A0 : Option Addr) (n cap : Nat) : (ownOC w A0 n cap).heap.size = w.heap.size + 2 := by unfold ownOC; simp [ownOut_size]
theorem ownOC_below (w : World) (A0 : Option Addr) (n cap : Nat) : Below w.heap.size w (ownOC w A0 n cap) := by unfold ownOC ownOut; go_grown
theorem ownOC_o (w : World) (A0 : Option Addr) (n cap : Nat) : (ownOC w A0 n cap).cell? ⟨w.heap.size, 0, none⟩ = some (.slice A0 n cap) := by
 unfold ownOC
 rw [World.cell?_alloc_lt _ _ ⟨w.heap.size, 0, none⟩ (by simp [ownOut_size])]
 exact ownOut_at ..
theorem ownOC_b (w : World) (A0 : Option Addr) (n cap : Nat) : (ownOC w A0 n cap).heap[w.heap.size + 1]? = some (.cells #[.int .i64 0, .int .i64 0] 48) := by
 have h := heap_alloc_new (ownOut w A0 n cap 42) (.cells #[.int .i64 0, .int .i64 0] 48)
 rw [ownOut_size] at h
 exact h

end Go.Proofs.YtjffbmejobjmjafGreatDoor

namespace Go.Proofs.YtjffbmejobjmjafGreatDoor
open Go.ChangeShapes Go.WideShapes Go.ChangeAt Go.RowKit
set_option maxRecDepth 20000

end Go.Proofs.YtjffbmejobjmjafGreatDoor

namespace Go.Proofs.YtjffbmejobjmjafGreatDoor
open Go.ChangeShapes Go.WideShapes Go.ChangeAt Go.RowKit Go.Lib
set_option maxRecDepth 100000

end Go.Proofs.YtjffbmejobjmjafGreatDoor

namespace Go.Proofs.YtjffbmejobjmjafGreatDoor
open Go.ChangeShapes Go.WideShapes Go.ChangeAt Go.RowKit Go.Lib
set_option maxRecDepth 100000

end Go.Proofs.YtjffbmejobjmjafGreatDoor

namespace Go.Proofs.YtjffbmejobjmjafGreatDoor
open Go.ChangeShapes Go.WideShapes Go.ChangeAt Go.RowKit Go.Lib
set_option maxRecDepth 100000

end Go.Proofs.YtjffbmejobjmjafGreatDoor

namespace Go.Proofs.YtjffbmejobjmjafGreatDoor
open Go.ChangeShapes Go.WideShapes Go.ChangeAt Go.RowKit Go.Lib
set_option maxRecDepth 100000

end Go.Proofs.YtjffbmejobjmjafGreatDoor

namespace Go.Proofs.YtjffbmejobjmjafGreatDoor
open Go.ChangeShapes Go.WideShapes Go.ChangeAt Go.RowKit Go.Lib
set_option maxRecDepth 20000

end Go.Proofs.YtjffbmejobjmjafGreatDoor

namespace Go.Proofs.YtjffbmejobjmjafGreatDoor
open Go.ChangeShapes Go.WideShapes Go.ChangeAt Go.RowKit Go.Lib
set_option maxRecDepth 20000

end Go.Proofs.YtjffbmejobjmjafGreatDoor

namespace Go.Proofs.YtjffbmejobjmjafGreatDoor
open Go.ChangeShapes Go.WideShapes Go.ChangeAt Go.RowKit Go.Lib
set_option maxRecDepth 20000

theorem clr_in {l : List En} {p : List Int} (h : hasE l p = true) : cntE l p < l.length := (set_old h 0).2.1

end Go.Proofs.YtjffbmejobjmjafGreatDoor

namespace Go.Proofs.YtjffbmejobjmjafGreatDoor
open Go.ChangeShapes Go.WideShapes Go.ChangeAt Go.RowKit Go.Lib
set_option maxRecDepth 20000

end Go.Proofs.YtjffbmejobjmjafGreatDoor

namespace Go.Proofs.YtjffbmejobjmjafGreatDoor
open Go.ChangeShapes Go.WideShapes Go.ChangeAt Go.RowKit
set_option maxRecDepth 20000

set_option maxHeartbeats 2000000 in
theorem rless_any (A B : Option Addr) (ca cb : Nat) (a b : List Int) (w : World) (ha : a.length ≤ 4) (hb : b.length ≤ 4) (hA : PlAt w A ca a) (hB : PlAt w B cb b) : Calls Tryz.prog 50 #[.slice A a.length ca, .slice B b.length cb] w fun e w' => e = .returned (.bool (lessL a b)) ∧ Below w.heap.size w w' := by
 have HA : Hid (PlAt w A ca a) := hA
 have HB : Hid (PlAt w B cb b) := hB
 have HN : Hid (∀ k, k < a.length → k < b.length → lessL (a.drop k) (b.drop k) = if a.getD k 0 = b.getD k 0 then lessL (a.drop (k + 1)) (b.drop (k + 1)) else decide (a.getD k 0 < b.getD k 0)) := fun k h1 h2 => lessL_in h1 h2
 have HL : Hid (∀ k, b.length ≤ k → lessL (a.drop k) (b.drop k) = false) := fun k h2 => lessL_long h2
 have HS : Hid (∀ k, a.length ≤ k → k < b.length → lessL (a.drop k) (b.drop k) = true) := fun k h1 h2 => lessL_short h1 h2
 obtain ⟨na, hna⟩ : ∃ na, a.length = na := ⟨_, rfl⟩
 obtain ⟨nb, hnb⟩ : ∃ nb, b.length = nb := ⟨_, rfl⟩
 have HNA : Hid (a.length = na) := hna
 have HNB : Hid (b.length = nb) := hnb
 rw [hna] at HN HS ha
 rw [hnb] at HN HL HS hb
 rw [hna, hnb]
 have ha' : (na : Int) ≤ 4 := by omega
 have hb' : (nb : Int) ≤ 4 := by omega
 clear hA hB hna hnb
 go_enter Tryz.func50, Tryz.ntmps50
 go_wp2_with fail
 go_loopg [5] na (fun g s5 wr => ∃ (k : Nat), k ≤ na ∧ k ≤ nb ∧ g = na - k ∧ s5 = .int .i64 k ∧ Hid (lessL (a.drop k) (b.drop k) = lessL a b) ∧ Below w.heap.size w wr)
 case atStart => exact ⟨0, Nat.zero_le _, Nat.zero_le _, rfl, rfl, (rfl : lessL (a.drop 0) (b.drop 0) = lessL a b), Below.refl _ _⟩
 case round =>
  obtain ⟨k, hk, hk2, rfl, rfl, HF, hBw⟩ := hrel
  have HBw : Hid (Below w.heap.size w wr) := hBw
  by_cases hlt : k < na
  ·have hki : (k : Int) < (na : Int) := by omega
   by_cases hlb : k < nb
   ·obtain ⟨hc, h0 | ⟨g1, o1, rfl, hbw, hcell⟩⟩ := HA.out.later hBw
    ·have := HNA.out; rw [h0] at this; simp at this; omega
    obtain ⟨hc', h0 | ⟨g2, o2, rfl, hbw2, hcell2⟩⟩ := HB.out.later hBw
    ·have := HNB.out; rw [h0] at this; simp at this; omega
    have x1 := hcell k (by rw [HNA.out]; exact hlt)
    have x2 := hcell2 k (by rw [HNB.out]; exact hlb)
    have hkb : (k : Int) < (nb : Int) := by omega
    have hst := HN.out k hlt hlb
    generalize a.getD k 0 = x at x1 hst
    generalize b.getD k 0 = y at x2 hst
    clear hcell hcell2 hBw
    by_cases hxy : x = y
    ·have HR : Hid (lessL (a.drop (k + 1)) (b.drop (k + 1)) = lessL a b) := by show _ = _; rw [← HF.out, hst, if_pos hxy]
     subst hxy
     clear hst
     go_wp2_with fail
     go_quiet (fail)
     go_wp2_with fail
     go_roundg (na - (k + 1))
     case measure => omega
     case rel => exact ⟨k + 1, by omega, by omega, rfl, by go_num, HR, below_drewN HBw.out _⟩
    ·have HR : Hid (lessL a b = decide (x < y)) := by show _ = _; rw [← HF.out, hst, if_neg hxy]
     clear hst
     go_wp2_with fail
     go_quiet (fail)
     go_wp2_with fail
     go_quiet (fail)
     go_wp2_with fail
     go_ret
     rw [HR.out]
     exact ⟨rfl, below_drewN (below_drewN HBw.out _) _⟩
   ·have HR : Hid (lessL a b = false) := by show _ = _; rw [← HF.out, HL.out k (by omega)]
    have hkb : (nb : Int) ≤ (k : Int) := by omega
    have hnn : decide ((na : Int) < (nb : Int)) = false := decide_eq_false (by omega)
    have hnn' : decide (na < nb) = false := decide_eq_false (by omega)
    clear hBw
    go_wp2_with fail
    go_ret
    rw [HR.out]
    exact ⟨rfl, HBw.out⟩
  ·have hke : k = na := by omega
   subst hke
   by_cases hlb : k < nb
   ·have HR : Hid (lessL a b = true) := by show _ = _; rw [← HF.out, HS.out k (Nat.le_refl _) hlb]
    have hkb : (k : Int) < (nb : Int) := by omega
    clear hBw
    go_wp2_with fail
    go_ret
    rw [HR.out]
    exact ⟨rfl, HBw.out⟩
   ·have HR : Hid (lessL a b = false) := by show _ = _; rw [← HF.out, HL.out k (by omega)]
    have hkb : (nb : Int) ≤ (k : Int) := by omega
    clear hBw
    go_wp2_with fail
    go_ret
    rw [HR.out]
    exact ⟨rfl, HBw.out⟩

set_option maxHeartbeats 4000000 in
theorem rfind_any (A : Option Addr) (cap : Nat) (xs : List EnL) (Ap : Option Addr) (cp : Nat) (p : List Int) (w : World) (hn : xs.length ≤ 3000) (hE : EnsV w A cap xs) (hS : Short xs p) (hP : PlAt w Ap cp p) :
  Calls Tryz.prog 93 #[.slice A xs.length cap, .slice Ap p.length cp] w fun e w' => e = .returned (.tuple #[.int .i64 (cntE (lE xs) p : Nat), .bool (hasE (lE xs) p)]) ∧ Below w.heap.size w w' := by
 have HE : Hid (EnsV w A cap xs) := hE
 have HLs : Hid (∀ k w', k < xs.length → Below w.heap.size w w' → Calls Tryz.prog 50 #[.slice (xs.getD k noL).A (xs.getD k noL).e.pl.length (xs.getD k noL).c, .slice Ap p.length cp] w' fun e w'' => e = .returned (.bool (lessL (xs.getD k noL).e.pl p)) ∧ Below w'.heap.size w' w'') := fun k w' hk hw' => by
  obtain ⟨-, -, h0 | ⟨b, o, h0, hA⟩⟩ := hE.later hw'
  ·rw [h0] at hk; simp at hk
  ·exact rless_any _ _ _ _ _ _ w' (hS.1 k hk) hS.2 (hA.pl hk) (hP.later hw')
 have HLb : Hid (∀ k w', k < xs.length → Below w.heap.size w w' → Calls Tryz.prog 50 #[.slice Ap p.length cp, .slice (xs.getD k noL).A (xs.getD k noL).e.pl.length (xs.getD k noL).c] w' fun e w'' => e = .returned (.bool (lessL p (xs.getD k noL).e.pl)) ∧ Below w'.heap.size w' w'') := fun k w' hk hw' => by
  obtain ⟨-, -, h0 | ⟨b, o, h0, hA⟩⟩ := hE.later hw'
  ·rw [h0] at hk; simp at hk
  ·exact rless_any _ _ _ _ _ _ w' hS.2 (hS.1 k hk) (hP.later hw') (hA.pl hk)
 have HC : Hid (∀ i, i ≤ xs.length → (∀ t, t < i → lessL (xs.getD t noL).e.pl p = true) → (i < xs.length → lessL (xs.getD i noL).e.pl p = false) → cntE (lE xs) p = i) := fun i hi h1 h2 => cnt_at _ _ i (by rw [lE_len]; exact hi) (fun t ht => by rw [lE_at]; exact h1 t ht) (fun h3 => by rw [lE_len] at h3; rw [lE_at]; exact h2 h3)
 have HH : Hid (∀ i, cntE (lE xs) p = i → i < xs.length → hasE (lE xs) p = !lessL p (xs.getD i noL).e.pl) := fun i h1 h2 => by rw [← lE_at]; exact (has_in h1 (by rw [lE_len]; exact h2)).1
 have HH2 : Hid (∀ i, cntE (lE xs) p = i → xs.length ≤ i → hasE (lE xs) p = false) := fun i h1 h2 => (has_out h1 (by rw [lE_len]; exact h2)).1
 obtain ⟨n, hnn⟩ : ∃ n, xs.length = n := ⟨_, rfl⟩
 obtain ⟨np, hnp⟩ : ∃ np, p.length = np := ⟨_, rfl⟩
 have HN : Hid (xs.length = n) := hnn
 rw [hnn] at hn HLs HLb HC HH HH2 ⊢
 rw [hnp] at HLs HLb ⊢
 generalize cntE (lE xs) p = cnt at HC HH HH2
 generalize hasE (lE xs) p = has at HH HH2
 have hn' : (n : Int) ≤ 3000 := by omega
 clear hE hS hP hnn hnp
 go_enter Tryz.func93, Tryz.ntmps93
 go_wp2_with fail
 go_loopg [6] n (fun g s6 wr => ∃ (k : Nat), k ≤ n ∧ g = n - k ∧ s6 = .int .i64 k ∧ Hid (∀ t, t < k → lessL (xs.getD t noL).e.pl p = true) ∧ Below w.heap.size w wr)
 case atStart => exact ⟨0, Nat.zero_le _, rfl, rfl, fun t ht => absurd ht (Nat.not_lt_zero _), Below.refl _ _⟩
 case round =>
  obtain ⟨k, hk, rfl, rfl, HLt, hBw⟩ := hrel
  have HBw : Hid (Below w.heap.size w wr) := hBw
  by_cases hlt : k < n
  ·obtain ⟨-, -, h0 | ⟨b, o, rfl, hA⟩⟩ := HE.out.later hBw
   ·have := HN.out; rw [h0] at this; simp at this; omega
   obtain ⟨c1, -⟩ := hA.at (k := k) (by rw [HN.out]; exact hlt)
   have h1 := HLs.out k wr hlt hBw
   have HLk : Hid (∀ w', Below w.heap.size w w' → Calls Tryz.prog 50 #[.slice Ap np cp, .slice (xs.getD k noL).A (xs.getD k noL).e.pl.length (xs.getD k noL).c] w' fun e w'' => e = .returned (.bool (lessL p (xs.getD k noL).e.pl)) ∧ Below w'.heap.size w' w'') := fun w' hw' => HLb.out k w' hlt hw'
   have hki : (k : Int) < (n : Int) := by omega
   have hbb := hA.1
   cases hl : lessL (xs.getD k noL).e.pl p
   ·have HCN : Hid (cnt = k) := HC.out k hk HLt.out (fun _ => hl)
    have HHI : Hid (has = !lessL p (xs.getD k noL).e.pl) := HH.out k HCN.out hlt
    rw [hl] at h1
    generalize lessL p (xs.getD k noL).e.pl = bk at HLk HHI
    generalize (xs.getD k noL).A = A1 at c1 h1 HLk
    generalize (xs.getD k noL).c = k1 at c1 h1 HLk
    generalize (xs.getD k noL).e.pl.length = m1 at c1 h1 HLk
    have hne : ((k : Int) == (n : Int)) = false := by simp; omega
    clear hl hA hBw
    go_wp2_with fail
    refine h1.mono ?_
    rintro e w1 ⟨rfl, hb1⟩
    have hB1 : Below w.heap.size w w1 := onB HBw.out hb1
    have HB1 : Hid (Below w.heap.size w w1) := hB1
    have d1 : w1.cell? ⟨b, o + k * 2, none⟩ = some (.slice A1 m1 k1) := (hb1.cell (p := ⟨b, o + k * 2, none⟩) hbb).trans c1
    have h2 := HLk.out w1 hB1
    clear hb1 h1 c1 hB1
    go_wp2_with fail
    refine h2.mono ?_
    rintro e w2 ⟨rfl, hb2⟩
    have HB2 : Hid (Below w.heap.size w w2) := onB HB1.out hb2
    clear hb2 h2 d1
    go_wp2_with fail
    go_ret2
    rw [HCN.out, HHI.out]
    exact ⟨rfl, HB2.out⟩
   ·have HT : Hid (∀ t, t < k + 1 → lessL (xs.getD t noL).e.pl p = true) := fun t ht => by
     rcases Nat.lt_succ_iff_lt_or_eq.1 ht with h2 | rfl
     ·exact HLt.out t h2
     ·exact hl
    rw [hl] at h1
    generalize (xs.getD k noL).A = A1 at c1 h1
    generalize (xs.getD k noL).c = k1 at c1 h1
    generalize (xs.getD k noL).e.pl.length = m1 at c1 h1
    clear hl hA hBw HLk
    go_wp2_with fail
    refine h1.mono ?_
    rintro e w1 ⟨rfl, hb1⟩
    have HB1 : Hid (Below w.heap.size w w1) := onB HBw.out hb1
    clear hb1 h1 c1
    go_wp2_with fail
    go_roundg (n - (k + 1))
    case measure => omega
    case rel => exact ⟨k + 1, by omega, rfl, by go_num, HT, HB1.out⟩
  ·have hke : k = n := by omega
   subst hke
   have HCN : Hid (cnt = k) := HC.out k hk HLt.out (fun h => absurd h (Nat.lt_irrefl _))
   have HHI : Hid (has = false) := HH2.out k HCN.out (Nat.le_refl _)
   go_wp2_with fail
   go_ret2
   rw [HCN.out, HHI.out]
   exact ⟨rfl, hBw⟩
end Go.Proofs.YtjffbmejobjmjafGreatDoor

