/-
  A place taken out of entries of a call's own: what without of package input answers.
-/
import Derived.Test.YtfngmnhkhfgmjacDoorInpL
namespace Go.Proofs.YtfngmnhkhfgmjacDoor
open Go.ChangeShapes Go.WideShapes Go.ChangeAt Go.RowKit Go.Lib
set_option maxRecDepth 20000

theorem edit_clr {D : Nat → Dm} {n : Nat} {l : List En} (hR : (allErr D n).2.2 = 0) (p : List Int) (N : Int) : editErr D n l ⟨p, N, true⟩ = if placeErr D n p ≠ 0 then placeErr D n p else if hasE l p = true then 0 else 5 := by
  rw [pe1 hR]
  unfold editErr
  rfl
theorem clr_in {l : List En} {p : List Int} (h : hasE l p = true) : cntE l p < l.length := (set_old h 0).2.1

set_option maxHeartbeats 8000000 in
theorem without_any {M : Nat} (A0 : Option Addr) (cap n : Nat) (D : Nat → Dm) (A : Nat → Option Addr) (C : Nat → Nat) (g cg : Nat) (xs : List EnL) (Ap : Option Addr) (cp : Nat) (p : List Int) (N : Int) (w : World) (hM : DimsV w A0 cap n D A C) (hP : PlAt w Ap cp p) (hR : RowE w g cg xs) (hEs : Ens D n (lE xs)) (hMx : NewE M xs) :
    Calls Tryd.prog 43 #[.agg #[.slice A0 n cap], .slice (some ⟨g, 0, none⟩) xs.length cg, .slice Ap p.length cp] w fun e w' => Edited M w g (editErr D n (lE xs) ⟨p, N, true⟩) (clrL (lE xs) p) e w' := by
  have hV := edit_clr (l := lE xs) hEs.right p N
  have hB0 := ownOut_below w A0 n cap 24
  have h := pcheck_any A0 cap n D A C Ap cp p (ownOut w A0 n cap 24) (hM.later hB0) (hP.later hB0)
  have HB0 : Hid (Below w.heap.size w (ownOut w A0 n cap 24)) := hB0
  have HP : Hid (PlAt w Ap cp p) := hP
  have HR : Hid (RowE w g cg xs) := hR
  have HEs : Hid (Ens D n (lE xs)) := hEs
  have hfew := few_of hEs
  unfold Edited
  clear hM hP hB0 hR
  by_cases hp : placeErr D n p = 0
  · rw [if_neg (by simpa using hp)] at hV
    have hI := inO_of hp
    have HF : Hid (∀ w', Below w.heap.size w w' → Calls Tryd.prog 38 #[.slice (some ⟨g, 0, none⟩) xs.length cg, .slice Ap p.length cp] w' fun e w'' => e = .returned (.tuple #[.int .i64 (cntE (lE xs) p : Nat), .bool (hasE (lE xs) p)]) ∧ Below w'.heap.size w' w'') := fun w' hw' => ifind_any _ _ xs Ap cp p w' hfew ((HR.out.later hw').ensV) HEs.out.rise (short_of HEs.out hI) (HP.out.later hw')
    rw [hp, errV_zero] at h
    clear hp hI
    cases hh : hasE (lE xs) p
    · rw [hh, if_neg (by simp)] at hV
      have HV : Hid (errV (editErr D n (lE xs) ⟨p, N, true⟩) = .iface 69 (.int .i64 5) ∧ editErr D n (lE xs) ⟨p, N, true⟩ ≠ 0) := by rw [hV]; exact ⟨rfl, by decide⟩
      have HFF : Hid (∀ w', Below w.heap.size w w' → Calls Tryd.prog 38 #[.slice (some ⟨g, 0, none⟩) xs.length cg, .slice Ap p.length cp] w' fun e w'' => e = .returned (.tuple #[.int .i64 (cntE (lE xs) p : Nat), .bool false]) ∧ Below w'.heap.size w' w'') := fun w' hw' => by have h1 := HF.out w' hw'; rw [hh] at h1; exact h1
      clear HF hh hV
      generalize cntE (lE xs) p = i at HFF
      generalize editErr D n (lE xs) ⟨p, N, true⟩ = E at HV
      obtain ⟨m, hm⟩ : ∃ m, p.length = m := ⟨_, rfl⟩
      obtain ⟨nx, hnx⟩ : ∃ nx, xs.length = nx := ⟨_, rfl⟩
      rw [hm] at h HFF ⊢
      rw [hnx] at HFF hfew ⊢
      clear hm hnx
      go_enter Tryd.func43, Tryd.ntmps43
      go_wp2_with fail
      refine h.mono ?_
      rintro e w1 ⟨rfl, hb1⟩
      have hB1 : Below w.heap.size w w1 := onB HB0.out hb1
      have HB1 : Hid (Below w.heap.size w w1) := hB1
      have h2 := HFF.out w1 hB1
      clear hb1 h hB1
      go_wp2_with fail
      refine h2.mono ?_
      rintro e w2 ⟨rfl, hb2⟩
      have HB2 : Hid (Below w.heap.size w w2) := onB HB1.out hb2
      clear hb2 h2
      go_wp2_with fail
      go_ret2
      rw [HV.out.1]
      exact ⟨⟨none, 0, [], rfl, Or.inl ⟨HV.out.2, rfl, rfl, rfl⟩⟩, grown_below HB2.out⟩
    · rw [hh, if_pos rfl] at hV
      have hil := clr_in hh
      rw [lE_len] at hil
      have HDel : Hid (∀ w', Below w.heap.size w w' → Calls Tryd.prog 59 #[.slice (some ⟨g, 0, none⟩) xs.length cg, .int .i64 (cntE (lE xs) p : Nat), .int .i64 ((cntE (lE xs) p : Int) + 1)] w' fun e w'' => e = .returned (.slice (some ⟨g, 0, none⟩) (xs.length - 1) cg) ∧ RowE w'' g cg (xs.take (cntE (lE xs) p) ++ xs.drop (cntE (lE xs) p + 1)) ∧ w'.grownBy w'' (some g)) := fun w' hw' => delete_any g cg (cntE (lE xs) p) xs w' hfew hil (HR.out.later hw')
      have HLE : Hid (lE (xs.take (cntE (lE xs) p) ++ xs.drop (cntE (lE xs) p + 1)) = clrL (lE xs) p ∧ NewE M (xs.take (cntE (lE xs) p) ++ xs.drop (cntE (lE xs) p + 1))) := ⟨by unfold clrL; rw [lE_append, lE_take, lE_drop], hMx.cut⟩
      have HYL : Hid ((xs.take (cntE (lE xs) p) ++ xs.drop (cntE (lE xs) p + 1)).length = xs.length - 1) := by show _ = _; simp; omega
      have HFF : Hid (∀ w', Below w.heap.size w w' → Calls Tryd.prog 38 #[.slice (some ⟨g, 0, none⟩) xs.length cg, .slice Ap p.length cp] w' fun e w'' => e = .returned (.tuple #[.int .i64 (cntE (lE xs) p : Nat), .bool true]) ∧ Below w'.heap.size w' w'') := fun w' hw' => by have h1 := HF.out w' hw'; rw [hh] at h1; exact h1
      rw [hV, errV_zero]
      clear HF hh hV
      generalize hys : xs.take (cntE (lE xs) p) ++ xs.drop (cntE (lE xs) p + 1) = ys at HDel HLE HYL
      clear hys
      generalize cntE (lE xs) p = i at HFF HDel hil
      obtain ⟨m, hm⟩ : ∃ m, p.length = m := ⟨_, rfl⟩
      obtain ⟨nx, hnx⟩ : ∃ nx, xs.length = nx := ⟨_, rfl⟩
      rw [hm] at h HFF ⊢
      rw [hnx] at HFF HDel hfew hil HYL ⊢
      have hil' : (i : Int) < (nx : Int) := by omega
      clear hm hnx
      go_enter Tryd.func43, Tryd.ntmps43
      go_wp2_with fail
      refine h.mono ?_
      rintro e w1 ⟨rfl, hb1⟩
      have hB1 : Below w.heap.size w w1 := onB HB0.out hb1
      have HB1 : Hid (Below w.heap.size w w1) := hB1
      have h2 := HFF.out w1 hB1
      clear hb1 h hB1
      go_wp2_with fail
      refine h2.mono ?_
      rintro e w2 ⟨rfl, hb2⟩
      have hB2 : Below w.heap.size w w2 := onB HB1.out hb2
      have HB2 : Hid (Below w.heap.size w w2) := hB2
      have h3 := HDel.out w2 hB2
      clear hb2 h2 hB2
      go_wp2_with fail
      refine h3.mono ?_
      rintro e w3 ⟨rfl, hRow, hgr⟩
      have HRow : Hid (RowE w3 g cg ys) := hRow
      have HG : Hid (w2.grownBy w3 (some g)) := hgr
      clear hRow hgr h3
      go_wp2_with fail
      go_ret2
      exact ⟨⟨some ⟨g, 0, none⟩, cg, ys, by rw [HYL.out]; rfl, Or.inr ⟨by trivial, g, rfl, Nat.le_refl _, HRow.out, HLE.out⟩⟩, grown_trans (grown_below HB2.out) HG.out⟩
  · rw [if_pos (by simpa using hp)] at hV
    have HV : Hid (errV (editErr D n (lE xs) ⟨p, N, true⟩) = .iface 69 (.int .i64 (placeErr D n p)) ∧ editErr D n (lE xs) ⟨p, N, true⟩ ≠ 0) := by rw [hV]; exact ⟨errV_some hp, hp⟩
    rw [errV_some hp] at h
    clear hp hV
    generalize placeErr D n p = F at h HV
    generalize editErr D n (lE xs) ⟨p, N, true⟩ = E at HV
    generalize p.length = m at h
    generalize xs.length = nx
    clear hfew
    go_enter Tryd.func43, Tryd.ntmps43
    go_wp2_with fail
    refine h.mono ?_
    rintro e w1 ⟨rfl, hb1⟩
    have HB1 : Hid (Below w.heap.size w w1) := onB HB0.out hb1
    clear hb1
    go_wp2_with fail
    go_ret2
    rw [HV.out.1]
    exact ⟨⟨none, 0, [], rfl, Or.inl ⟨HV.out.2, rfl, rfl, rfl⟩⟩, grown_below HB1.out⟩
end Go.Proofs.YtfngmnhkhfgmjacDoor
