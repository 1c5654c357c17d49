/-
  The walk of tallylaw1.PlaceTells: what is wrong with a place, its number, a number's place, either as text, whether it is of leafs: the program tells what the document tells, of every outline, place, number, and text that is not too great.
-/
import Derived.Test.YtckjjmljpbibkabDoorPBack
import Derived.Test.YtckjjmljpbibkabDoorPlR3
import Derived.Test.YtckjjmljpbibkabDoorToldT
import Derived.Deep.DeepCutAuto
import Derived.Deep.CutBlock
namespace Go.Proofs.YtckjjmljpbibkabDoor
open Go.ChangeShapes Go.WideShapes Go.ChangeAt Go.RowKit
set_option maxRecDepth 20000

theorem same_err (c : Int) (w : World) (hk : Kind0 w) : Calls Tryd.prog 12 #[errV c, .int .i64 c] w fun e w' => e = .returned (.bool true) ∧ Below w.heap.size w w' := by
  by_cases h : c = 0
  · subst h
    have := same_nil 0 w
    simpa [errV] using this
  · rw [errV_some h]
    have := same_hit c c w hk
    simpa using this

theorem ofL_len {D : Nat → Dm} {n : Nat} {x : Int} : (ofL D n x).length ≤ 4 := by
  by_cases h : ofErr D n x = 0
  · obtain ⟨h1, _⟩ := ofErr_in h
    unfold ofL
    rw [if_pos h, placeL_len]
    exact (allErr_some h1).2.1
  · unfold ofL
    rw [if_neg h]
    decide
theorem parseL_len {D : Nat → Dm} {n : Nat} {s : ByteArray} : (parseL D n s).length ≤ 4 := by
  by_cases h : parseErr D n s = 0
  · unfold parseL
    rw [if_pos h, readL_len]
    exact (allErr_some (parse_in h).1).2.1
  · unfold parseL
    rw [if_neg h]
    decide
def outO (f v x : Int) : Bool := decide (f = 0) && (decide (x < 0) || decide (v ≤ x))
theorem outO_of {D : Nat → Dm} {n : Nat} {x : Int} : ofErr D n x = if outO (allErr D n).2.2 (cellsV D n) x = true then 1 else (allErr D n).2.2 := by
  unfold outO cellsV
  by_cases h : (allErr D n).2.2 = 0
  · rw [if_pos h, h]
    by_cases h1 : x < 0 ∨ (prodN D n : Int) ≤ x
    · rw [of1 h h1, if_pos (by simpa using h1)]
    · rw [of2 h h1, if_neg (by simpa using h1)]
  · rw [of0 h, if_neg (by simp [h])]
theorem textTo_app (D : Nat → Dm) (L : List Int) (k : Nat) (hk : ¬ k = 0) : ((⟨(textTo D L k).toArray⟩ : ByteArray) ++ ⟨#[46]⟩) ++ nameB D L k = ⟨(textTo D L (k + 1)).toArray⟩ := by
  refine (byte_ext ?_).symm
  rw [textTo, if_neg hk]
  simp [ByteArray.data_append]
theorem textTo_first (D : Nat → Dm) (L : List Int) (k : Nat) (hk : k = 0) : (⟨(textTo D L k).toArray⟩ : ByteArray) ++ nameB D L k = ⟨(textTo D L (k + 1)).toArray⟩ := by
  refine (byte_ext ?_).symm
  rw [textTo, if_pos hk]
  simp [ByteArray.data_append]

set_option maxHeartbeats 32000000 in
theorem ptells_any (A0 : Option Addr) (cap n : Nat) (D : Nat → Dm) (A : Nat → Option Addr) (C : Nat → Nat) (Ap : Option Addr) (cp : Nat) (L : List Int) (x : Int) (s : ByteArray) (w : World) (hs : s.size ≤ 1048576) (hD : DimsV w A0 cap n D A C) (hP : PlAt w Ap cp L) (hk : Kind0 w) :
    Calls Tryd.prog 5 #[.agg #[.slice A0 n cap], .slice Ap L.length cp, .int .i64 x, .string s] w fun e w' => e = .returned (.bool true) ∧ Below w.heap.size w w' := by
  have hB0 := ownOut_below w A0 n cap 50
  have hX0 : CtxB w.heap.size A0 cap n D A C Ap cp L (ownOut w A0 n cap 50) := ⟨by rw [ownOut_size]; omega, ownOut_at .., hD.later hB0, hP.later hB0⟩
  have hrr := rright_any A0 cap n D A C (ownOut w A0 n cap 50) hX0.2.2.1
  have HX0 : Hid (CtxB w.heap.size A0 cap n D A C Ap cp L (ownOut w A0 n cap 50)) := hX0
  have HB0 : Hid (Below w.heap.size w (ownOut w A0 n cap 50)) := hB0
  have HSz : Hid (s.size ≤ 1048576) := hs
  have HK : Hid (∀ w', Below w.heap.size w w' → Kind0 w') := fun w' hw' => hk.later hw'
  obtain ⟨m, hm⟩ : ∃ m, L.length = m := ⟨_, rfl⟩
  have HM : Hid (L.length = m) := hm
  rw [hm]
  obtain ⟨F, hF⟩ : ∃ F, (allErr D n).2.2 = F := ⟨_, rfl⟩
  have HF : Hid ((allErr D n).2.2 = F) := hF
  rw [hF] at hrr
  obtain ⟨E, hE⟩ : ∃ E, placeErr D n L = E := ⟨_, rfl⟩
  have HE : Hid (placeErr D n L = E) := hE
  obtain ⟨K, hK⟩ : ∃ K, numV D n L = K := ⟨_, rfl⟩
  have HKn : Hid (numV D n L = K) := hK
  obtain ⟨T, hT⟩ : ∃ T, textV D n L = T := ⟨_, rfl⟩
  have HT : Hid (textV D n L = T) := hT
  obtain ⟨Y, hY⟩ : ∃ Y, leafV D n L = Y := ⟨_, rfl⟩
  have HY : Hid (leafV D n L = Y) := hY
  obtain ⟨V, hV⟩ : ∃ V, cellsV D n = V := ⟨_, rfl⟩
  have HV : Hid (cellsV D n = V) := hV
  obtain ⟨OE, hOE⟩ : ∃ OE, ofErr D n x = OE := ⟨_, rfl⟩
  have HOE : Hid (ofErr D n x = OE) := hOE
  have HOE1 : Hid (OE = if outO F V x = true then 1 else F) := by show _ = _; rw [← hOE, ← hF, ← hV]; exact outO_of
  obtain ⟨mo, hmo⟩ : ∃ mo, (ofL D n x).length = mo := ⟨_, rfl⟩
  have HMO : Hid ((ofL D n x).length = mo) := hmo
  obtain ⟨PE, hPE⟩ : ∃ PE, parseErr D n s = PE := ⟨_, rfl⟩
  have HPE : Hid (parseErr D n s = PE) := hPE
  obtain ⟨mp, hmp⟩ : ∃ mp, (parseL D n s).length = mp := ⟨_, rfl⟩
  have HMP : Hid ((parseL D n s).length = mp) := hmp
  clear hD hP hk hX0 hB0 hm hs hF hE hK hT hY hV hOE hmo hPE hmp
  go_enter Tryd.func5, Tryd.ntmps5
  go_wp2_with fail
  refine hrr.mono ?_
  rintro e w1 ⟨rfl, hb⟩
  have HX1 : Hid (CtxB w.heap.size A0 cap n D A C Ap cp L w1) := HX0.out.later hb
  have HB1 : Hid (Below w.heap.size w w1) := onB HB0.out hb
  clear hb hrr HX0 HB0
  have c1 := HX1.out.2.1
  go_upto_if 38 with fail
  go_cut [10] from 34 (fun s10 wx => s10 = .int .i64 E ∧ Below w1.heap.size w1 wx)
  case first => as_aux_lemma =>
    by_cases hF0 : F = 0
    · have hb : (F == 0) = true := by simpa using hF0
      have hR := HF.out.trans hF0
      have h1 := rplace_any A0 cap n D A C Ap cp L w1 hR HX1.out.2.2.1 HX1.out.2.2.2
      rw [← pe1 hR, HE.out, HM.out] at h1
      clear hF0 hR
      go_wp2_with fail
      refine h1.mono ?_
      rintro e w2 ⟨rfl, hb2⟩
      go_wp2_with fail
      go_meet
      exact ⟨rfl, hb2⟩
    · have hb : (F == 0) = false := by simpa using hF0
      have HEF : Hid (F = E) := by show _ = _; rw [← HE.out, pe0 (by rw [HF.out]; exact hF0), HF.out]
      clear hF0
      go_wp2_with fail
      go_meet
      exact ⟨by rw [HEF.out], Below.refl _ _⟩
  case rest => as_aux_lemma =>
  obtain ⟨rfl, hBc⟩ := hcut

  obtain ⟨w2, rfl⟩ : ∃ w2 : World, w2 = wc := ⟨_, rfl⟩
  have HX2 : Hid (CtxB w.heap.size A0 cap n D A C Ap cp L w2) := HX1.out.later hBc
  have HB2 : Hid (Below w.heap.size w w2) := onB HB1.out hBc
  clear hBc c1 HX1 HB1
  have c2 := HX2.out.2.1

  have h3 := pcheck_any A0 cap n D A C Ap cp L w2 HX2.out.2.2.1 HX2.out.2.2.2
  rw [HE.out, HM.out] at h3
  go_wp2_with fail
  refine h3.mono ?_
  rintro e w3 ⟨rfl, hb⟩
  have HX3 : Hid (CtxB w.heap.size A0 cap n D A C Ap cp L w3) := HX2.out.later hb
  have HB3 : Hid (Below w.heap.size w w3) := onB HB2.out hb
  clear hb h3 c2 HX2 HB2
  have c3 := HX3.out.2.1

  have h4 := same_err E w3 (HK.out w3 HB3.out)

  go_wp2_with fail
  refine h4.mono ?_
  rintro e w4 ⟨rfl, hb⟩
  have HX4 : Hid (CtxB w.heap.size A0 cap n D A C Ap cp L w4) := HX3.out.later hb
  have HB4 : Hid (Below w.heap.size w w4) := onB HB3.out hb
  clear hb h4 c3 HX3 HB3
  have c4 := HX4.out.2.1

  go_upto_if 48 with fail
  go_cut [12, 13, 14, 15] from 34 (fun s12 s13 s14 s15 wx => s12 = .int .i64 K ∧ s13 = .string T ∧ s14 = .bool Y ∧ Below w4.heap.size w4 wx)
  case first => as_aux_lemma =>
    by_cases hE0 : E = 0
    · have hb : (E == 0) = true := by simpa using hE0
      have hI : InO D n L := inO_of (HE.out.trans hE0)
      have HI : Hid (InO D n L) := hI
      have h5 := rnumber_any A0 cap n D A C Ap cp L w4 hI HX4.out.2.2.1 HX4.out.2.2.2
      rw [← numV_of hI, HKn.out, HM.out] at h5
      obtain ⟨hn1, hn4, -, hd⟩ := allErr_some hI.right
      have HD : Hid (∀ i, i < n → 1 ≤ (D i).n ∧ (D i).n ≤ 12) := hd
      have hmn : m = n := by rw [← HM.out, hI.len]
      subst hmn
      have hn' : (m : Int) ≤ 4 := by omega
      clear hE0 hI hd
      go_wp2_with fail
      refine h5.mono ?_
      rintro e w5 ⟨rfl, hb5⟩
      have HX5 : Hid (CtxB w.heap.size A0 cap m D A C Ap cp L w5) := HX4.out.later hb5
      have HB5 : Hid (Below w4.heap.size w4 w5) := hb5
      have h6 := rleafplace_any A0 cap m D A C Ap cp L w5 HI.out HX5.out.2.2.1 HX5.out.2.2.2
      rw [HY.out, HM.out] at h6
      clear hb5 h5 c4
      have c5 := HX5.out.2.1
      go_wp2_with fail
      refine h6.mono ?_
      rintro e w6 ⟨rfl, hb6⟩
      have HX6 : Hid (CtxB w.heap.size A0 cap m D A C Ap cp L w6) := HX5.out.later hb6
      have HB6 : Hid (Below w4.heap.size w4 w6) := onB HB5.out hb6
      have hq6 := HX6.out.1
      obtain ⟨hcp, h0 | ⟨bp, op, rfl, hbp, hcell⟩⟩ := HX6.out.2.2.2
      · have := HI.out.len; rw [h0] at this; simp at this; omega
      obtain ⟨hcap, h0 | ⟨b, o, rfl, hMs⟩⟩ := HX6.out.2.2.1
      · omega
      have HC6 : Hid (∀ j, j < m → w6.cell? ⟨bp, op + j, none⟩ = some (.int .i64 (L.getD j 0))) := fun j hj => hcell j (by rw [HI.out.len]; exact hj)
      have HM6 : Hid (DimsAt w6 b o m D A C) := hMs
      have H06 : Hid (w6.cell? ⟨w.heap.size, 0, none⟩ = some (.slice (some ⟨b, o, none⟩) m cap)) := HX6.out.2.1
      clear hb6 h6 c5 hcell hMs
      go_wp2_with fail
      go_loopg [13, 15] m (fun g s13 s15 wr => ∃ (k : Nat), k ≤ m ∧ g = m - k ∧ s15 = .int .i64 k ∧ s13 = .string ⟨(textTo D L k).toArray⟩ ∧ Below w6.heap.size w6 wr)
      case atStart => exact ⟨0, Nat.zero_le _, rfl, rfl, rfl, Below.refl _ _⟩
      case round =>
        obtain ⟨k, hk, rfl, rfl, rfl, hBw⟩ := hrel
        have HW : Hid (Below w6.heap.size w6 wr) := hBw
        by_cases hlt : k < m
        · have hki : (k : Int) < (m : Int) := by omega
          obtain ⟨-, -, h3, h4⟩ := (HM6.out.later hBw).2 k hlt
          have c0 : wr.cell? ⟨w.heap.size, 0, none⟩ = some (.slice (some ⟨b, o, none⟩) m cap) := (hBw.cell (p := ⟨w.heap.size, 0, none⟩) hq6).trans H06.out
          have hcx : wr.cell? ⟨bp, op + k, none⟩ = some (.int .i64 (L.getD k 0)) := (hBw.cell (p := ⟨bp, op + k, none⟩) hbp).trans (HC6.out k hlt)
          have hx0 := HI.out.lo k hlt
          have hx1 := HI.out.hi k hlt
          have hnm := (HI.out.name hlt).2
          have htx := HI.out.short (k := k) (by omega)
          have hts : (⟨(textTo D L k).toArray⟩ : ByteArray).size = (textTo D L k).length := by show (textTo D L k).toArray.size = _; simp
          obtain ⟨X, hX⟩ : ∃ X : Nat, L.getD k 0 = X := ⟨(L.getD k 0).toNat, by omega⟩
          have HNB : Hid (nameB D L k = ((D k).mem X).name) := by show _ = _; unfold nameB; rw [hX]; rfl
          rw [hX] at hx0 hx1 hcx
          rw [HNB.out] at hnm
          have hXn : X < (D k).n := by omega
          obtain ⟨hd1, hd2⟩ := HD.out k hlt
          obtain ⟨hcm, h5 | ⟨b', o', hA, hMm⟩⟩ := h4
          · omega
          obtain ⟨hn0, -, -, -⟩ := hMm.2 X hXn
          rw [hA] at h3
          have HT1 : Hid (¬ k = 0 → ((⟨(textTo D L k).toArray⟩ : ByteArray) ++ ⟨#[46]⟩) ++ ((D k).mem X).name = ⟨(textTo D L (k + 1)).toArray⟩) := fun h => by rw [← HNB.out]; exact textTo_app D L k h
          have HT2 : Hid (k = 0 → (⟨(textTo D L k).toArray⟩ : ByteArray) ++ ((D k).mem X).name = ⟨(textTo D L (k + 1)).toArray⟩) := fun h => by rw [← HNB.out]; exact textTo_first D L k h
          generalize ((D k).mem X).name = nm at hn0 hnm HT1 HT2
          generalize (D k).n = dn at h3 hx1 hXn hd1 hd2 hcm
          generalize (⟨(textTo D L k).toArray⟩ : ByteArray) = tk at hts HT1 HT2
          have hXi : (X : Int) < (dn : Int) := by omega
          have hdn : (dn : Int) ≤ 12 := by omega
          have hsz1 : tk.size ≤ 36 := by omega
          have hsz2 : (tk.size : Int) ≤ 36 := by omega
          have hsz3 : (nm.size : Int) ≤ 8 := by omega
          clear hBw hX hMm hA hts htx
          by_cases hk0 : k = 0
          · have hkd : decide ((0 : Int) < (k : Int)) = false := decide_eq_false (by omega)
            have hkd' : decide (0 < k) = false := decide_eq_false (by omega)
            have HTK := HT2.out hk0
            clear hk0
            go_wp2_with fail
            go_quiet (fail)
            go_wp2_with fail
            go_roundg (m - (k + 1))
            case measure => omega
            case rel => exact ⟨k + 1, by omega, rfl, by go_num, rfl, below_drewN HW.out _⟩
          · have hkd : (0 : Int) < (k : Int) := by omega
            have HTK := HT1.out hk0
            clear hk0
            go_wp2_with fail
            go_quiet (fail)
            go_wp2_with fail
            go_roundg (m - (k + 1))
            case measure => omega
            case rel => exact ⟨k + 1, by omega, rfl, by go_num, rfl, below_drewN HW.out _⟩
        · have hke : k = m := by omega
          subst hke
          have HTe : Hid ((⟨(textTo D L k).toArray⟩ : ByteArray) = T) := by show _ = _; rw [← HT.out, textV_of HI.out]
          clear hBw
          go_wp2_with fail
          go_meet
          exact ⟨rfl, by rw [HTe.out], rfl, onB HB6.out HW.out⟩
    · have hb : (E == 0) = false := by simpa using hE0
      have hE1 : ¬ placeErr D n L = 0 := by rw [HE.out]; exact hE0
      have HK0 : Hid (K = 0) := by show _ = _; rw [← HKn.out]; unfold numV; rw [if_neg hE1]
      have HT0 : Hid (T = ⟨#[]⟩) := by show _ = _; rw [← HT.out]; unfold textV; rw [if_neg hE1]
      have HY0 : Hid (Y = false) := by show _ = _; rw [← HY.out]; unfold leafV; rw [if_neg hE1]
      clear hE0 hE1
      go_wp2_with fail
      go_meet
      exact ⟨by rw [HK0.out], by rw [HT0.out], by rw [HY0.out], Below.refl _ _⟩
  case rest => as_aux_lemma =>
  obtain ⟨rfl, rfl, rfl, hBc⟩ := hcut

  obtain ⟨w5, rfl⟩ : ∃ w5 : World, w5 = wc := ⟨_, rfl⟩
  have HX5 : Hid (CtxB w.heap.size A0 cap n D A C Ap cp L w5) := HX4.out.later hBc
  have HB5 : Hid (Below w.heap.size w w5) := onB HB4.out hBc
  clear hBc c4 HX4 HB4
  have c5 := HX5.out.2.1

  have h6 := pnumber_any A0 cap n D A C Ap cp L w5 HX5.out.2.2.1 HX5.out.2.2.2
  rw [HE.out, HKn.out, HM.out] at h6
  go_wp2_with fail
  refine h6.mono ?_
  rintro e w6 ⟨rfl, hb⟩
  have HX6 : Hid (CtxB w.heap.size A0 cap n D A C Ap cp L w6) := HX5.out.later hb
  have HB6 : Hid (Below w.heap.size w w6) := onB HB5.out hb
  clear hb h6 c5 HX5 HB5
  have c6 := HX6.out.2.1

  have h7 := same_err E w6 (HK.out w6 HB6.out)

  go_wp2_with fail
  refine h7.mono ?_
  rintro e w7 ⟨rfl, hb⟩
  have HX7 : Hid (CtxB w.heap.size A0 cap n D A C Ap cp L w7) := HX6.out.later hb
  have HB7 : Hid (Below w.heap.size w w7) := onB HB6.out hb
  clear hb h7 c6 HX6 HB6
  have c7 := HX7.out.2.1

  have h8 := pleaf_any A0 cap n D A C Ap cp L w7 HX7.out.2.2.1 HX7.out.2.2.2
  rw [HE.out, HY.out, HM.out] at h8
  go_wp2_with fail
  refine h8.mono ?_
  rintro e w8 ⟨rfl, hb⟩
  have HX8 : Hid (CtxB w.heap.size A0 cap n D A C Ap cp L w8) := HX7.out.later hb
  have HB8 : Hid (Below w.heap.size w w8) := onB HB7.out hb
  clear hb h8 c7 HX7 HB7
  have c8 := HX8.out.2.1

  have h9 := same_err E w8 (HK.out w8 HB8.out)

  go_wp2_with fail
  refine h9.mono ?_
  rintro e w9 ⟨rfl, hb⟩
  have HX9 : Hid (CtxB w.heap.size A0 cap n D A C Ap cp L w9) := HX8.out.later hb
  have HB9 : Hid (Below w.heap.size w w9) := onB HB8.out hb
  clear hb h9 c8 HX8 HB8
  have c9 := HX9.out.2.1

  have h10 := pprint_any A0 cap n D A C Ap cp L w9 HX9.out.2.2.1 HX9.out.2.2.2
  rw [HE.out, HT.out, HM.out] at h10
  go_wp2_with fail
  refine h10.mono ?_
  rintro e w10 ⟨rfl, hb⟩
  have HX10 : Hid (CtxB w.heap.size A0 cap n D A C Ap cp L w10) := HX9.out.later hb
  have HB10 : Hid (Below w.heap.size w w10) := onB HB9.out hb
  clear hb h10 c9 HX9 HB9
  have c10 := HX10.out.2.1

  have h11 := same_err E w10 (HK.out w10 HB10.out)

  go_wp2_with fail
  refine h11.mono ?_
  rintro e w11 ⟨rfl, hb⟩
  have HX11 : Hid (CtxB w.heap.size A0 cap n D A C Ap cp L w11) := HX10.out.later hb
  have HB11 : Hid (Below w.heap.size w w11) := onB HB10.out hb
  clear hb h11 c10 HX10 HB10
  have c11 := HX11.out.2.1

  go_upto_if 108 with fail
  go_cut [23] from 34 (fun s23 wx => s23 = .int .i64 V ∧ Below w11.heap.size w11 wx)
  case first => as_aux_lemma =>
    by_cases hF0 : F = 0
    · have hb : (F == 0) = true := by simpa using hF0
      have hR := HF.out.trans hF0
      obtain ⟨hn1, hn4, -, hd⟩ := allErr_some hR
      obtain ⟨hcap, h0 | ⟨b, o, rfl, hMs⟩⟩ := HX11.out.2.2.1
      · omega
      have h12 := osize_any b o n cap D A C w11 hn4 (fun j hj => (hd j hj).2) hMs
      have HVe : Hid ((prodN D n : Int) = V) := by show _ = _; rw [← HV.out]; unfold cellsV; rw [if_pos hR]
      rw [HVe.out] at h12
      clear hF0 hR hd hMs
      go_wp2_with fail
      refine h12.mono ?_
      rintro e w12 ⟨rfl, hb12⟩
      go_wp2_with fail
      go_meet
      exact ⟨rfl, hb12⟩
    · have hb : (F == 0) = false := by simpa using hF0
      have HVe : Hid (0 = V) := by show _ = _; rw [← HV.out]; unfold cellsV; rw [if_neg (by rw [HF.out]; exact hF0)]
      clear hF0
      go_wp2_with fail
      go_meet
      exact ⟨by rw [HVe.out], Below.refl _ _⟩
  case rest => as_aux_lemma =>
  obtain ⟨rfl, hBc⟩ := hcut

  obtain ⟨w12, rfl⟩ : ∃ w12 : World, w12 = wc := ⟨_, rfl⟩
  have HX12 : Hid (CtxB w.heap.size A0 cap n D A C Ap cp L w12) := HX11.out.later hBc
  have HB12 : Hid (Below w.heap.size w w12) := onB HB11.out hBc
  clear hBc c11 HX11 HB11
  have c12 := HX12.out.2.1

  have h13 := pcells_any A0 cap n D A C w12 HX12.out.2.2.1
  rw [HV.out, HF.out] at h13
  go_wp2_with fail
  refine h13.mono ?_
  rintro e w13 ⟨rfl, hb⟩
  have HX13 : Hid (CtxB w.heap.size A0 cap n D A C Ap cp L w13) := HX12.out.later hb
  have HB13 : Hid (Below w.heap.size w w13) := onB HB12.out hb
  clear hb h13 c12 HX12 HB12
  have c13 := HX13.out.2.1

  have h14 := same_err F w13 (HK.out w13 HB13.out)

  go_wp2_with fail
  refine h14.mono ?_
  rintro e w14 ⟨rfl, hb⟩
  have HX14 : Hid (CtxB w.heap.size A0 cap n D A C Ap cp L w14) := HX13.out.later hb
  have HB14 : Hid (Below w.heap.size w w14) := onB HB13.out hb
  clear hb h14 c13 HX13 HB13
  have c14 := HX14.out.2.1

  go_upto_region 31 with fail
  go_cut [130] from 34 (fun s130 wx => s130 = .bool (outO F V x) ∧ wx = w14)
  case first => as_aux_lemma =>
    by_cases hF0 : F = 0
    · have hb : (F == 0) = true := by simpa using hF0
      have HF0 : Hid (F = 0) := hF0
      clear hF0
      by_cases h1 : x < 0
      · go_wp2_with fail
        go_meet
        exact ⟨by simp [outO, HF0.out, h1], rfl⟩
      · by_cases h2 : V ≤ x
        · have h1' : decide (x < 0) = false := decide_eq_false h1
          go_wp2_with fail
          go_meet
          exact ⟨by simp [outO, HF0.out, h2], rfl⟩
        · have h1' : decide (x < 0) = false := decide_eq_false h1
          have h2' : decide (V ≤ x) = false := decide_eq_false h2
          go_wp2_with fail
          go_meet
          exact ⟨by simp [outO, h1, h2], rfl⟩
    · have hb : (F == 0) = false := by simpa using hF0
      go_wp2_with fail
      go_meet
      exact ⟨by simp [outO, hF0], rfl⟩
  case rest => as_aux_lemma =>
  obtain ⟨rfl, hwx⟩ := hcut
  subst hwx
  obtain ⟨t, ht⟩ : ∃ t, outO F V x = t := ⟨_, rfl⟩
  rw [ht] at HOE1 ⊢
  have HTt : Hid (outO F V x = t) := ht
  clear ht
  obtain ⟨w14, rfl⟩ : ∃ w14 : World, w14 = wc := ⟨_, rfl⟩
  go_upto_if 130 with fail
  go_cut [10, 26] from 34 (fun s10 s26 wx => s10 = .int .i64 OE ∧ (∃ A' c', s26 = .slice A' mo c' ∧ PlAt wx A' c' (ofL D n x)) ∧ Below w14.heap.size w14 wx)
  case first => as_aux_lemma =>
    cases t
    case true =>
      have HO1 : Hid (1 = OE) := by show _ = _; rw [HOE1.out]; rfl
      have hl : ofL D n x = [] := by unfold ofL; rw [HOE.out, ← HO1.out]; rfl
      have HL : Hid (ofL D n x = []) := hl
      have HM0 : Hid (mo = 0) := by show _ = _; rw [← HMO.out, hl]; rfl
      clear hl
      go_wp2_with fail
      go_meet
      rw [HL.out, HM0.out]
      exact ⟨by rw [← HO1.out], ⟨none, 0, rfl, PlAt.nil _ _ _⟩, Below.refl _ _⟩
    case false =>
      have HO1 : Hid (F = OE) := by show _ = _; rw [HOE1.out]; rfl
      by_cases hF0 : F = 0
      · have hb : (F == 0) = true := by simpa using hF0
        have hOE := HOE.out.trans (HO1.out.symm.trans hF0)
        obtain ⟨hR, X, rfl, hX⟩ := ofErr_in hOE
        have h15 := rat_any A0 cap n D A C X w14 hR hX HX14.out.2.2.1
        have hl : ofL D n (X : Int) = placeL D n X := by unfold ofL; rw [if_pos hOE]; rfl
        rw [← hl, HMO.out] at h15
        clear hF0 hOE hR hX hl
        go_wp2_with fail
        refine h15.mono ?_
        rintro e w15 ⟨⟨A', c', rfl, hP'⟩, hb15⟩
        go_wp2_with fail
        go_meet
        exact ⟨by rw [HO1.out], ⟨A', c', rfl, hP'⟩, hb15⟩
      · have hb : (F == 0) = false := by simpa using hF0
        have hl : ofL D n x = [] := by unfold ofL; rw [if_neg (by rw [HOE.out, ← HO1.out]; exact hF0)]
        have HL : Hid (ofL D n x = []) := hl
        have HM0 : Hid (mo = 0) := by show _ = _; rw [← HMO.out, hl]; rfl
        clear hF0 hl
        go_wp2_with fail
        go_meet
        rw [HL.out, HM0.out]
        exact ⟨by rw [HO1.out], ⟨none, 0, rfl, PlAt.nil _ _ _⟩, Below.refl _ _⟩
  case rest => as_aux_lemma =>
  obtain ⟨rfl, ⟨Aa, ca, rfl, hPa⟩, hBc⟩ := hcut
  have HPa : Hid (PlAt wc Aa ca (ofL D n x)) := hPa
  clear hPa

  obtain ⟨w15, rfl⟩ : ∃ w15 : World, w15 = wc := ⟨_, rfl⟩
  have HX15 : Hid (CtxB w.heap.size A0 cap n D A C Ap cp L w15) := HX14.out.later hBc
  have HB15 : Hid (Below w.heap.size w w15) := onB HB14.out hBc
  clear hBc c14 HX14 HB14
  have c15 := HX15.out.2.1

  have h16 := pof_any A0 cap n D A C x w15 HX15.out.2.2.1
  rw [HOE.out, HMO.out] at h16
  go_wp2_with fail
  refine h16.mono ?_
  rintro e w16 ⟨⟨A16, k16, rfl, hP16⟩, hb⟩
  have HX16 : Hid (CtxB w.heap.size A0 cap n D A C Ap cp L w16) := HX15.out.later hb
  have HB16 : Hid (Below w.heap.size w w16) := onB HB15.out hb
  have HP16 : Hid (PlAt w16 A16 k16 (ofL D n x)) := hP16
  have HPa16 : Hid (PlAt w16 Aa ca (ofL D n x)) := HPa.out.later hb
  clear hP16 HPa
  clear hb h16 c15 HX15 HB15
  have c16 := HX16.out.2.1

  have h17 := same_err OE w16 (HK.out w16 HB16.out)

  go_wp2_with fail
  refine h17.mono ?_
  rintro e w17 ⟨rfl, hb⟩
  have HX17 : Hid (CtxB w.heap.size A0 cap n D A C Ap cp L w17) := HX16.out.later hb
  have HB17 : Hid (Below w.heap.size w w17) := onB HB16.out hb
  have HP17 : Hid (PlAt w17 A16 k16 (ofL D n x)) := HP16.out.later hb
  have HPa17 : Hid (PlAt w17 Aa ca (ofL D n x)) := HPa16.out.later hb
  clear HP16 HPa16
  clear hb h17 c16 HX16 HB16
  have c17 := HX17.out.2.1

  have h18 := sameplace_any A16 Aa k16 ca (ofL D n x) w17 ofL_len HP17.out HPa17.out
  rw [HMO.out] at h18
  go_wp2_with fail
  refine h18.mono ?_
  rintro e w18 ⟨rfl, hb⟩
  have HX18 : Hid (CtxB w.heap.size A0 cap n D A C Ap cp L w18) := HX17.out.later hb
  have HB18 : Hid (Below w.heap.size w w18) := onB HB17.out hb
  clear HP17 HPa17
  clear hb h18 c17 HX17 HB17
  have c18 := HX18.out.2.1

  go_upto_if 149 with fail
  go_cut [9, 30] from 34 (fun s9 s30 wx => s9 = .int .i64 PE ∧ (∃ A' c', s30 = .slice A' mp c' ∧ PlAt wx A' c' (parseL D n s)) ∧ Below w18.heap.size w18 wx)
  case first => as_aux_lemma =>
    by_cases hF0 : F = 0
    · have hb : (F == 0) = true := by simpa using hF0
      have hR := HF.out.trans hF0
      have h19 := rread_any A0 cap n D A C s w18 hR HSz.out HX18.out.2.2.1
      have hl : readV D n s = parseL D n s := by unfold readV parseL; rw [pa1 hR]
      rw [← pa1 hR, HPE.out, hl, HMP.out] at h19
      clear hF0 hR hl
      go_wp2_with fail
      refine h19.mono ?_
      rintro e w19 ⟨⟨A', c', rfl, hP'⟩, hb19⟩
      go_wp2_with fail
      go_meet
      exact ⟨rfl, ⟨A', c', rfl, hP'⟩, hb19⟩
    · have hb : (F == 0) = false := by simpa using hF0
      have HO1 : Hid (F = PE) := by show _ = _; rw [← HPE.out, pa0 (by rw [HF.out]; exact hF0), HF.out]
      have hl : parseL D n s = [] := by unfold parseL; rw [if_neg (by rw [HPE.out, ← HO1.out]; exact hF0)]
      have HL : Hid (parseL D n s = []) := hl
      have HM0 : Hid (mp = 0) := by show _ = _; rw [← HMP.out, hl]; rfl
      clear hF0 hl
      go_wp2_with fail
      go_meet
      rw [HL.out, HM0.out]
      exact ⟨by rw [HO1.out], ⟨none, 0, rfl, PlAt.nil _ _ _⟩, Below.refl _ _⟩
  case rest => as_aux_lemma =>
  obtain ⟨rfl, ⟨Ar, cr, rfl, hPr⟩, hBc⟩ := hcut
  have HPr : Hid (PlAt wc Ar cr (parseL D n s)) := hPr
  clear hPr

  obtain ⟨w19, rfl⟩ : ∃ w19 : World, w19 = wc := ⟨_, rfl⟩
  have HX19 : Hid (CtxB w.heap.size A0 cap n D A C Ap cp L w19) := HX18.out.later hBc
  have HB19 : Hid (Below w.heap.size w w19) := onB HB18.out hBc
  clear hBc c18 HX18 HB18
  have c19 := HX19.out.2.1

  have h20 := pparse_any A0 cap n D A C s w19 (Nat.le_trans HSz.out (by decide)) HX19.out.2.2.1
  rw [HPE.out, HMP.out] at h20
  go_wp2_with fail
  refine h20.mono ?_
  rintro e w20 ⟨⟨A20, k20, rfl, hP20⟩, hb⟩
  have HX20 : Hid (CtxB w.heap.size A0 cap n D A C Ap cp L w20) := HX19.out.later hb
  have HB20 : Hid (Below w.heap.size w w20) := onB HB19.out hb
  have HP20 : Hid (PlAt w20 A20 k20 (parseL D n s)) := hP20
  have HPr20 : Hid (PlAt w20 Ar cr (parseL D n s)) := HPr.out.later hb
  clear hP20 HPr
  clear hb h20 c19 HX19 HB19
  have c20 := HX20.out.2.1

  have h21 := same_err PE w20 (HK.out w20 HB20.out)

  go_wp2_with fail
  refine h21.mono ?_
  rintro e w21 ⟨rfl, hb⟩
  have HX21 : Hid (CtxB w.heap.size A0 cap n D A C Ap cp L w21) := HX20.out.later hb
  have HB21 : Hid (Below w.heap.size w w21) := onB HB20.out hb
  have HP21 : Hid (PlAt w21 A20 k20 (parseL D n s)) := HP20.out.later hb
  have HPr21 : Hid (PlAt w21 Ar cr (parseL D n s)) := HPr20.out.later hb
  clear HP20 HPr20
  clear hb h21 c20 HX20 HB20
  have c21 := HX21.out.2.1

  have h22 := sameplace_any A20 Ar k20 cr (parseL D n s) w21 parseL_len HP21.out HPr21.out
  rw [HMP.out] at h22
  go_wp2_with fail
  refine h22.mono ?_
  rintro e w22 ⟨rfl, hb⟩
  have HX22 : Hid (CtxB w.heap.size A0 cap n D A C Ap cp L w22) := HX21.out.later hb
  have HB22 : Hid (Below w.heap.size w w22) := onB HB21.out hb
  clear HP21 HPr21
  clear hb h22 c21 HX21 HB21
  have c22 := HX22.out.2.1

  clear c22
  go_wp2_with fail
  go_ret
  exact ⟨by simp, HB22.out⟩
end Go.Proofs.YtckjjmljpbibkabDoor
