/-
  The walk of tallylaw1.FoldTells: what is written, by number, any cells folded by any dim, and all dims in any order are told as the document tells them.
-/
import Derived.Test.YtmjcnlpjnbcfjadGreatDoorFR3M
import Derived.Test.YtmjcnlpjnbcfjadGreatDoorFMA
import Derived.Test.YtmjcnlpjnbcfjadGreatDoorToldT
import Derived.Deep.CutBlock
import Derived.WalkSmall
namespace Go.Proofs.YtmjcnlpjnbcfjadGreatDoor
open Go Go.ChangeShapes Go.WideShapes Go.ChangeAt Go.RowKit
set_option maxRecDepth 20000

theorem same_err (c : Int) (w : World) (hk : Kind0 w) : Calls Tryz.prog 7 #[errV c, .int .i64 c] w fun e w' => e = .returned (.bool true) ∧ Below w.heap.size w w' := by
  by_cases h : c = 0
  · subst h
    have := same_nil 0 w
    simpa [errV] using this
  · rw [errV_some h]
    have := same_hit c c w hk
    simpa using this
/-- an outline, entries, cells and an order, with all that they hold -/
def CtxU (A0 : Option Addr) (cap n : Nat) (D : Nat → Dm) (A : Nat → Option Addr) (C : Nat → Nat) (AE : Option Addr) (ce : Nat) (xs : List EnL) (AC : Option Addr) (cc : Nat) (L : List (Int × Int)) (AO : Option Addr) (cO : Nat) (O : List Int) (w : World) : Prop :=
  DimsV w A0 cap n D A C ∧ EnsV w AE ce xs ∧ CelV w AC cc L ∧ PlAt w AO cO O ∧ Kind0 w
theorem CtxU.later {A0 : Option Addr} {cap n : Nat} {D : Nat → Dm} {A : Nat → Option Addr} {C : Nat → Nat} {AE : Option Addr} {ce : Nat} {xs : List EnL} {AC : Option Addr} {cc : Nat} {L : List (Int × Int)} {AO : Option Addr} {cO : Nat} {O : List Int} {w w' : World} (h : CtxU A0 cap n D A C AE ce xs AC cc L AO cO O w) (hB : Below w.heap.size w w') : CtxU A0 cap n D A C AE ce xs AC cc L AO cO O w' :=
  ⟨h.1.later hB, h.2.1.later hB, h.2.2.1.later hB, h.2.2.2.1.later hB, h.2.2.2.2.later hB⟩
theorem fc_len {D : Nat → Dm} {n : Nat} {l : List En} : (fcL D n l).length ≤ 3000 := by
  by_cases h : entsErr D n l = 0
  · rw [fc_ok h, wrV_len]; exact (allErr_some (ens_of h).right).2.2.1
  · rw [fc_bad h]; exact Nat.zero_le _
theorem fa_len {D : Nat → Dm} {n : Nat} {l : List En} {O : List Int} : (faL D n l O).length ≤ 3000 := by
  by_cases h : entsErr D n l = 0
  · cases h2 : eachB n O
    · rw [(fa1 h h2).2]; exact Nat.zero_le _
    · rw [(fa2 h h2).2, foldO_len, wrV_len]; exact (allErr_some (ens_of h).right).2.2.1
  · rw [(fa0 h).2]; exact Nat.zero_le _
theorem on_len {D : Nat → Dm} {n : Nat} {L : List (Int × Int)} {dim : Int} : (onceR D n L dim).length ≤ 3000 := by
  by_cases h : chkErr D n L = 0
  · by_cases h2 : dim < 0 ∨ (n : Int) ≤ dim
    · rw [(on1 h h2).2]; exact Nat.zero_le _
    · obtain ⟨j, rfl⟩ : ∃ j : Nat, dim = j := ⟨dim.toNat, by omega⟩
      obtain ⟨h3, h4, -⟩ := chk_right h
      rw [(on2 h (by omega)).2]
      unfold onceV
      rw [once_len, h4]
      exact (allErr_some h3).2.2.1
  · rw [(on0 h).2]; exact Nat.zero_le _
theorem rcell_if (k n : Int) (w : World) : Calls Tryz.prog 14 #[.agg #[.int .i64 k, .int .i64 n]] w fun e w' => e = .returned (.int .i64 (if good k n = true then 0 else 1)) ∧ Below w.heap.size w w' := by
  cases h : good k n
  · exact rcell_no k n w h
  · exact rcell_yes k n w h
theorem keepU {W w' : World} {q b o : Nat} {u v : Value} (h : q < W.heap.size ∧ b < W.heap.size ∧ W.cell? ⟨q, 0, none⟩ = some u ∧ W.cell? ⟨b, o, none⟩ = some v) (hB : Below W.heap.size W w') : Below W.heap.size W w' ∧ w'.cell? ⟨q, 0, none⟩ = some u ∧ w'.cell? ⟨b, o, none⟩ = some v :=
  ⟨hB, (hB.cell (p := ⟨q, 0, none⟩) h.1).trans h.2.2.1, (hB.cell (p := ⟨b, o, none⟩) h.2.1).trans h.2.2.2⟩

set_option maxHeartbeats 64000000 in
theorem ftells_any (A0 : Option Addr) (cap n : Nat) (D : Nat → Dm) (A : Nat → Option Addr) (C : Nat → Nat) (AE : Option Addr) (ce : Nat) (xs : List EnL) (AC : Option Addr) (cc : Nat) (L : List (Int × Int)) (dim : Int) (AO : Option Addr) (cO : Nat) (O : List Int) (w : World) (hC : CtxU A0 cap n D A C AE ce xs AC cc L AO cO O w) :
    Calls Tryz.prog 3 #[.agg #[.slice A0 n cap], .slice AE xs.length ce, .slice AC L.length cc, .int .i64 dim, .slice AO O.length cO] w fun e w' => e = .returned (.bool true) ∧ Below w.heap.size w w' := by
  have hB0 := ownOut_below w A0 n cap 24
  have HC0 : Hid (CtxU A0 cap n D A C AE ce xs AC cc L AO cO O (ownOut w A0 n cap 24)) := hC.later hB0
  have HB00 : Hid (Below w.heap.size w (ownOut w A0 n cap 24)) := hB0
  have HBox0 : Hid (BoxN (ownOut w A0 n cap 24) w.heap.size (.slice A0 n cap)) := ⟨by rw [ownOut_size]; omega, ownOut_at ..⟩
  obtain ⟨W, hW⟩ : ∃ W, w.alloc (.cells #[.slice A0 n cap] 24) = W := ⟨_, rfl⟩
  have hWo : ownOut w A0 n cap 24 = W := hW
  rw [hWo] at HC0 HB00 HBox0
  have KEn : Hid (∀ w', Below W.heap.size W w' → Calls Tryz.prog 4 #[.agg #[.slice A0 n cap], .slice AE xs.length ce] w' fun e w'' => e = .returned (.int .i64 (entsErr D n (lE xs))) ∧ Below w'.heap.size w' w'') := fun w' hw' => rentries_any A0 cap n D A C AE ce xs w' (HC0.out.later hw').1 (HC0.out.later hw').2.1
  have KWr : Hid (entsErr D n (lE xs) = 0 → ∀ w', Below W.heap.size W w' → Calls Tryz.prog 5 #[.agg #[.slice A0 n cap], .slice AE xs.length ce] w' fun e w'' => (∃ A' c', e = .returned (.slice A' (fcL D n (lE xs)).length c') ∧ CelV w'' A' c' (fcL D n (lE xs))) ∧ Below w'.heap.size w' w'') := fun he w' hw' => by
    rw [fc_ok he]
    exact rwritten_any A0 cap n D A C AE ce xs w' (ens_of he) (HC0.out.later hw').1 (HC0.out.later hw').2.1
  have KCe : Hid (∀ w', Below W.heap.size W w' → Calls Tryz.prog 6 #[.agg #[.slice A0 n cap], .slice AE xs.length ce] w' fun e w'' => (∃ A' c', e = .returned (.tuple #[.slice A' (fcL D n (lE xs)).length c', errV (entsErr D n (lE xs))]) ∧ CelV w'' A' c' (fcL D n (lE xs))) ∧ Below w'.heap.size w' w'') := fun w' hw' => fcells_any A0 cap n D A C AE ce xs w' (HC0.out.later hw').1 (HC0.out.later hw').2.1
  have KSa : Hid (∀ (c : Int) w', Below W.heap.size W w' → Calls Tryz.prog 7 #[errV c, .int .i64 c] w' fun e w'' => e = .returned (.bool true) ∧ Below w'.heap.size w' w'') := fun c w' hw' => same_err c w' (HC0.out.later hw').2.2.2.2
  have KSc1 : Hid (∀ (X Y : Option Addr) (cx cy : Nat) w', CelV w' X cx (fcL D n (lE xs)) → CelV w' Y cy (fcL D n (lE xs)) → Calls Tryz.prog 8 #[.slice X (fcL D n (lE xs)).length cx, .slice Y (fcL D n (lE xs)).length cy] w' fun e w'' => e = .returned (.bool true) ∧ Below w'.heap.size w' w'') := fun X Y cx cy w' h1 h2 => samecells_any X Y cx cy _ w' fc_len h1 h2
  have KSc2 : Hid (∀ (X Y : Option Addr) (cx cy : Nat) w', CelV w' X cx (faL D n (lE xs) O) → CelV w' Y cy (faL D n (lE xs) O) → Calls Tryz.prog 8 #[.slice X (faL D n (lE xs) O).length cx, .slice Y (faL D n (lE xs) O).length cy] w' fun e w'' => e = .returned (.bool true) ∧ Below w'.heap.size w' w'') := fun X Y cx cy w' h1 h2 => samecells_any X Y cx cy _ w' fa_len h1 h2
  have KSc3 : Hid (∀ (X Y : Option Addr) (cx cy : Nat) w', CelV w' X cx (onceR D n L dim) → CelV w' Y cy (onceR D n L dim) → Calls Tryz.prog 8 #[.slice X (onceR D n L dim).length cx, .slice Y (onceR D n L dim).length cy] w' fun e w'' => e = .returned (.bool true) ∧ Below w'.heap.size w' w'') := fun X Y cx cy w' h1 h2 => samecells_any X Y cx cy _ w' on_len h1 h2
  have KEa : Hid (entsErr D n (lE xs) = 0 → ∀ w', Below W.heap.size W w' → Calls Tryz.prog 9 #[.agg #[.slice A0 n cap], .slice AO O.length cO] w' fun e w'' => e = .returned (.bool (eachB n O)) ∧ Below w'.heap.size w' w'') := fun he w' hw' => reach_any A0 cap n AO cO O w' (allErr_some (ens_of he).right).2.1 (HC0.out.later hw').2.2.2.1
  have KAl : Hid (∀ w', Below W.heap.size W w' → Calls Tryz.prog 11 #[.agg #[.slice A0 n cap], .slice AE xs.length ce, .slice AO O.length cO] w' fun e w'' => (∃ A' c', e = .returned (.tuple #[.slice A' (faL D n (lE xs) O).length c', errV (faErr D n (lE xs) O)]) ∧ CelV w'' A' c' (faL D n (lE xs) O)) ∧ Below w'.heap.size w' w'') := fun w' hw' => fall_any A0 cap n D A C AE ce xs AO cO O w' (HC0.out.later hw').1 (HC0.out.later hw').2.1 (HC0.out.later hw').2.2.2.1
  have KRi : Hid (∀ w', Below W.heap.size W w' → Calls Tryz.prog 12 #[.agg #[.slice A0 n cap]] w' fun e w'' => e = .returned (.int .i64 (allErr D n).2.2) ∧ Below w'.heap.size w' w'') := fun w' hw' => rright_any A0 cap n D A C w' (HC0.out.later hw').1
  have KSz : Hid ((allErr D n).2.2 = 0 → ∀ w', Below W.heap.size W w' → Calls Tryz.prog 13 #[.agg #[.slice A0 n cap]] w' fun e w'' => e = .returned (.int .i64 (prodN D n)) ∧ Below w'.heap.size w' w'') := fun hR w' hw' => by
    obtain ⟨hn1, hn4, -, hd⟩ := allErr_some hR
    obtain ⟨-, h0 | ⟨b, o, rfl, hMs⟩⟩ := (HC0.out.later hw').1
    · omega
    · exact osize_any b o n cap D A C w' hn4 (fun j hj => (hd j hj).2) hMs
  have KFo : Hid (∀ (j : Nat) (Y : List (Int × Int)) (AY : Option Addr) (cy : Nat) w', (allErr D n).2.2 = 0 → j < n → Y.length = prodN D n → goodL Y → Below W.heap.size W w' → CelV w' AY cy Y → Calls Tryz.prog 10 #[.agg #[.slice A0 n cap], .slice AY Y.length cy, .int .i64 j] w' fun e w'' => (∃ A' c', e = .returned (.slice A' Y.length c') ∧ CelV w'' A' c' (onceV D n j Y)) ∧ Below w'.heap.size w' w'') := fun j Y AY cy w' hR hj hl hg hw' hY => rfold_any A0 cap n D A C AY cy Y j w' hR hj hl hg (HC0.out.later hw').1 hY
  have KOn : Hid (∀ w', Below W.heap.size W w' → Calls Tryz.prog 15 #[.agg #[.slice A0 n cap], .slice AC L.length cc, .int .i64 dim] w' fun e w'' => (∃ A' c', e = .returned (.tuple #[.slice A' (onceR D n L dim).length c', errV (onceErr D n L dim)]) ∧ CelV w'' A' c' (onceR D n L dim)) ∧ Below w'.heap.size w' w'') := fun w' hw' => fonce_any A0 cap n D A C AC cc L dim w' (HC0.out.later hw').1 (HC0.out.later hw').2.2.1
  obtain ⟨E1, hE1⟩ : ∃ E, entsErr D n (lE xs) = E := ⟨_, rfl⟩
  have HE1 : Hid (entsErr D n (lE xs) = E1) := hE1
  obtain ⟨M1, hM1⟩ : ∃ m, (fcL D n (lE xs)).length = m := ⟨_, rfl⟩
  have HM1 : Hid ((fcL D n (lE xs)).length = M1) := hM1
  obtain ⟨FE, hFE⟩ : ∃ E, faErr D n (lE xs) O = E := ⟨_, rfl⟩
  have HFE : Hid (faErr D n (lE xs) O = FE) := hFE
  obtain ⟨M2, hM2⟩ : ∃ m, (faL D n (lE xs) O).length = m := ⟨_, rfl⟩
  have HM2 : Hid ((faL D n (lE xs) O).length = M2) := hM2
  obtain ⟨EB, hEB⟩ : ∃ t, eachB n O = t := ⟨_, rfl⟩
  have HEB : Hid (eachB n O = EB) := hEB
  obtain ⟨RR, hRR⟩ : ∃ E, (allErr D n).2.2 = E := ⟨_, rfl⟩
  have HRR : Hid ((allErr D n).2.2 = RR) := hRR
  obtain ⟨M3, hM3⟩ : ∃ m, (onceR D n L dim).length = m := ⟨_, rfl⟩
  have HM3 : Hid ((onceR D n L dim).length = M3) := hM3
  obtain ⟨OE, hOE⟩ : ∃ E, onceErr D n L dim = E := ⟨_, rfl⟩
  have HOE : Hid (onceErr D n L dim = OE) := hOE
  obtain ⟨NX, hNX⟩ : ∃ m, xs.length = m := ⟨_, rfl⟩
  obtain ⟨NO, hNO⟩ : ∃ m, O.length = m := ⟨_, rfl⟩
  have HNO : Hid (O.length = NO) := hNO
  obtain ⟨NC, hNC⟩ : ∃ m, L.length = m := ⟨_, rfl⟩
  have HNC : Hid (L.length = NC) := hNC
  rw [hNX, hE1] at KEn
  rw [hNX, hE1, hM1] at KWr KCe
  rw [hM1] at KSc1
  rw [hM2] at KSc2
  rw [hM3] at KSc3
  rw [hE1, hNO, hEB] at KEa
  rw [hNX, hNO, hM2, hFE] at KAl
  rw [hRR] at KRi
  rw [hNC, hM3, hOE] at KOn
  rw [hNX, hNC, hNO]
  clear hC hB0 hWo hE1 hM1 hFE hM2 hEB hRR hM3 hOE hNX hNO hNC
  go_enter Tryz.func3, Tryz.ntmps3
  have x0 := HBox0.out.2
  go_wp2_with fail
  clear hW
  refine (KEn.out _ (Below.refl _ _)).mono ?_
  rintro e w1 ⟨rfl, hb⟩
  have HB1 : Hid (Below W.heap.size W w1) := hb
  have x1 := (HBox0.out.later hb).2
  clear hb x0
  go_upto_if 28 with fail
  go_cut [12] from 24 (fun s12 wx => (∃ A' c', s12 = .slice A' M1 c' ∧ CelV wx A' c' (fcL D n (lE xs))) ∧ Below W.heap.size W wx)
  case first => as_aux_lemma =>
    by_cases h0 : E1 = 0
    · have t0 : (E1 == 0) = true := by simpa using h0
      have h1 := KWr.out h0 w1 HB1.out
      clear h0
      go_wp2_with fail
      refine h1.mono ?_
      rintro e w2 ⟨⟨A', c', rfl, hc⟩, hb2⟩
      have HF : Hid (CelV w2 A' c' (fcL D n (lE xs)) ∧ Below W.heap.size W w2) := ⟨hc, onB HB1.out hb2⟩
      clear hc hb2 h1
      go_wp2_with fail
      go_meet
      exact ⟨⟨A', c', rfl, HF.out.1⟩, HF.out.2⟩
    · have t0 : (E1 == 0) = false := by simpa using h0
      have HF : Hid (fcL D n (lE xs) = [] ∧ M1 = 0) := by
        have h2 := fc_bad (D := D) (n := n) (l := lE xs) (by rw [HE1.out]; exact h0)
        exact ⟨h2, by rw [← HM1.out, h2]; rfl⟩
      clear h0
      go_wp2_with fail
      go_meet
      exact ⟨⟨none, 0, by rw [HF.out.2], by rw [HF.out.1]; exact CelV.nil _ _ _ (by decide)⟩, HB1.out⟩
  case rest => as_aux_lemma =>
  obtain ⟨⟨AW, cW, rfl, hcW⟩, hb⟩ := hcut
  obtain ⟨w2, rfl⟩ : ∃ w2 : World, w2 = wc := ⟨_, rfl⟩
  have HB2 : Hid (Below W.heap.size W w2) := hb
  have HW2 : Hid (CelV w2 AW cW (fcL D n (lE xs))) := hcW
  have x2 := (HBox0.out.later hb).2
  clear hb hcW x1
  go_wp2_with fail
  refine (KCe.out _ HB2.out).mono ?_
  rintro e w3 ⟨⟨AG, cG, rfl, hcG⟩, hb⟩
  have HB3 : Hid (Below W.heap.size W w3) := onB HB2.out hb
  have HW3 : Hid (CelV w3 AW cW (fcL D n (lE xs))) := HW2.out.later hb
  have HG3 : Hid (CelV w3 AG cG (fcL D n (lE xs))) := hcG
  clear hb hcG x2
  go_wp2_with fail
  refine (KSa.out E1 _ HB3.out).mono ?_
  rintro e w4 ⟨rfl, hb⟩
  have HB4 : Hid (Below W.heap.size W w4) := onB HB3.out hb
  have HW4 : Hid (CelV w4 AW cW (fcL D n (lE xs))) := HW3.out.later hb
  have HG4 : Hid (CelV w4 AG cG (fcL D n (lE xs))) := HG3.out.later hb
  clear hb
  go_wp2_with fail
  refine (KSc1.out AG AW cG cW _ HG4.out HW4.out).mono ?_
  rintro e w5 ⟨rfl, hb⟩
  have HB5 : Hid (Below W.heap.size W w5) := onB HB4.out hb
  have HW5 : Hid (CelV w5 AW cW (fcL D n (lE xs))) := HW4.out.later hb
  have x5 := (HBox0.out.later HB5.out).2
  clear hb
  obtain ⟨TB, hTB⟩ : ∃ t, (decide (E1 = 0) && EB) = t := ⟨_, rfl⟩
  have HTB : Hid ((decide (E1 = 0) && EB) = TB) := hTB
  obtain ⟨T2, hT2⟩ : ∃ t, (decide (E1 = 0) && !EB) = t := ⟨_, rfl⟩
  have HT2 : Hid ((decide (E1 = 0) && !EB) = T2) := hT2
  clear hTB hT2
  go_upto_region 8 with fail
  go_cut [17] from 24 (fun s17 wx => s17 = .bool TB ∧ Below w5.heap.size w5 wx)
  case first => as_aux_lemma =>
    by_cases h0 : E1 = 0
    · have t0 : (E1 == 0) = true := by simpa using h0
      have h1 := KEa.out h0 w5 HB5.out
      have HD1 : Hid (EB = TB) := by show _ = _; rw [← HTB.out, decide_eq_true h0, Bool.true_and]
      clear h0
      go_wp2_with fail
      refine h1.mono ?_
      rintro e w6 ⟨rfl, hb⟩
      have HB6 : Hid (Below w5.heap.size w5 w6) := hb
      clear hb h1
      go_wp2_with fail
      go_meet
      exact ⟨by rw [HD1.out], HB6.out⟩
    · have t0 : (E1 == 0) = false := by simpa using h0
      have HD1 : Hid (false = TB) := by show _ = _; rw [← HTB.out, decide_eq_false h0, Bool.false_and]
      clear h0
      go_wp2_with fail
      go_meet
      exact ⟨by rw [HD1.out], Below.refl _ _⟩
  case rest => as_aux_lemma =>
  obtain ⟨rfl, hb⟩ := hcut
  obtain ⟨w6, rfl⟩ : ∃ w6 : World, w6 = wc := ⟨_, rfl⟩
  have HB6 : Hid (Below W.heap.size W w6) := onB HB5.out hb
  have HW6 : Hid (CelV w6 AW cW (fcL D n (lE xs))) := HW5.out.later hb
  clear hb x5
  go_upto_region 9 with fail
  go_cut [56] from 24 (fun s56 wx => s56 = .bool T2 ∧ Below w6.heap.size w6 wx)
  case first => as_aux_lemma =>
    by_cases h0 : E1 = 0
    · have t0 : (E1 == 0) = true := by simpa using h0
      have HD1 : Hid ((!TB) = T2) := by show _ = _; rw [← HTB.out, ← HT2.out, decide_eq_true h0, Bool.true_and, Bool.true_and]
      clear h0
      go_wp2_with fail
      go_meet
      exact ⟨by rw [HD1.out], Below.refl _ _⟩
    · have t0 : (E1 == 0) = false := by simpa using h0
      have HD1 : Hid (false = T2) := by show _ = _; rw [← HT2.out, decide_eq_false h0, Bool.false_and]
      clear h0
      go_wp2_with fail
      go_meet
      exact ⟨by rw [HD1.out], Below.refl _ _⟩
  case rest => as_aux_lemma =>
  obtain ⟨rfl, hb⟩ := hcut
  obtain ⟨w7, rfl⟩ : ∃ w7 : World, w7 = wc := ⟨_, rfl⟩
  have HB7 : Hid (Below W.heap.size W w7) := onB HB6.out hb
  have HW7 : Hid (CelV w7 AW cW (fcL D n (lE xs))) := HW6.out.later hb
  clear hb
  obtain ⟨ST, hST⟩ : ∃ ST, (if FE = 0 then wrV D n (lE xs) else []) = ST := ⟨_, rfl⟩
  have HST : Hid ((if FE = 0 then wrV D n (lE xs) else []) = ST) := hST
  obtain ⟨M4, hM4⟩ : ∃ m, ST.length = m := ⟨_, rfl⟩
  have HM4 : Hid (ST.length = M4) := hM4
  clear hST hM4
  go_upto_if 56 with fail
  go_cut [11, 12] from 24 (fun s11 s12 wx => s11 = .int .i64 FE ∧ (∃ A' c', s12 = .slice A' M4 c' ∧ CelV wx A' c' ST) ∧ Below w7.heap.size w7 wx)
  case first => as_aux_lemma =>
    cases hT : T2
    · have HF : Hid (E1 = FE ∧ fcL D n (lE xs) = ST ∧ M1 = M4) := by
        have hx := HT2.out
        rw [hT] at hx
        have h3 : E1 = FE ∧ fcL D n (lE xs) = ST := by
          by_cases h0 : E1 = 0
          · rw [decide_eq_true h0, Bool.true_and] at hx
            have hEB : EB = true := by simpa using hx
            have h1 := fa2 (D := D) (n := n) (l := lE xs) (O := O) (by rw [HE1.out]; exact h0) (by rw [HEB.out]; exact hEB)
            have h2 : FE = 0 := by rw [← HFE.out]; exact h1.1
            exact ⟨by omega, by rw [← HST.out, if_pos h2, fc_ok (by rw [HE1.out]; exact h0)]⟩
          · have h1 := fa0 (D := D) (n := n) (l := lE xs) (O := O) (by rw [HE1.out]; exact h0)
            have h2 : FE = E1 := by rw [← HFE.out, h1.1]; exact HE1.out
            exact ⟨h2.symm, by rw [← HST.out, if_neg (by omega), fc_bad (by rw [HE1.out]; exact h0)]⟩
        exact ⟨h3.1, h3.2, by rw [← HM4.out, ← h3.2, HM1.out]⟩
      clear hT
      go_wp2_with fail
      go_meet
      exact ⟨by rw [HF.out.1], ⟨AW, cW, by rw [HF.out.2.2], by rw [← HF.out.2.1]; exact HW7.out⟩, Below.refl _ _⟩
    · have HF : Hid (3 = FE ∧ ST = [] ∧ 0 = M4) := by
        have hx := HT2.out
        rw [hT, Bool.and_eq_true] at hx
        have h0 : E1 = 0 := of_decide_eq_true hx.1
        have hEB : EB = false := by simpa using hx.2
        have h1 := fa1 (D := D) (n := n) (l := lE xs) (O := O) (by rw [HE1.out]; exact h0) (by rw [HEB.out]; exact hEB)
        have h2 : FE = 3 := by rw [← HFE.out]; exact h1.1
        have h3 : ST = [] := by rw [← HST.out, if_neg (by omega)]
        exact ⟨h2.symm, h3, by rw [← HM4.out, h3]; rfl⟩
      clear hT
      go_wp2_with fail
      go_meet
      exact ⟨by rw [HF.out.1], ⟨none, 0, by rw [← HF.out.2.2], by rw [HF.out.2.1]; exact CelV.nil _ _ _ (by decide)⟩, Below.refl _ _⟩
  case rest => as_aux_lemma =>
  obtain ⟨rfl, ⟨AS, cS, rfl, hcS⟩, hb⟩ := hcut
  obtain ⟨w8, rfl⟩ : ∃ w8 : World, w8 = wc := ⟨_, rfl⟩
  have HB8 : Hid (Below W.heap.size W w8) := onB HB7.out hb
  have HS8 : Hid (CelV w8 AS cS ST) := hcS
  clear hb hcS
  go_upto_block 0 with fail
  go_cut [12, 18] from 24 (fun s12 s18 wx => (∃ A' c', s12 = .slice A' M2 c' ∧ CelV wx A' c' (faL D n (lE xs) O)) ∧ Below w8.heap.size w8 wx)
  case first => as_aux_lemma =>
    by_cases h0 : FE = 0
    · obtain ⟨hE0, hEB0⟩ : entsErr D n (lE xs) = 0 ∧ eachB n O = true := by
        have h1 := HFE.out
        rw [h0] at h1
        by_cases he : entsErr D n (lE xs) = 0
        · refine ⟨he, ?_⟩
          cases hb : eachB n O
          · rw [(fa1 he hb).1] at h1; cases h1
          · rfl
        · rw [(fa0 he).1] at h1; exact absurd h1 he
      have hEs := ens_of hE0
      have HEs : Hid (Ens D n (lE xs)) := hEs
      have hST : ST = wrV D n (lE xs) := by rw [← HST.out, if_pos h0]
      have HSl : Hid (ST.length = prodN D n ∧ goodL ST) := ⟨by rw [hST, wrV_len], by rw [hST]; exact wrV_good hEs⟩
      have HFA : Hid (faL D n (lE xs) O = foldO D n ST O) := by show _ = _; rw [(fa2 hE0 hEB0).2, hST]
      have hON := (each_in hEB0).1
      have HOi : Hid (∀ d ∈ O, ∃ j : Nat, d = j ∧ j < n) := (each_in hEB0).2
      have hNn : NO = n := by rw [← HNO.out]; exact hON
      obtain ⟨hn1, hn4, -, -⟩ := allErr_some hEs.right
      have HMM : Hid (M2 = M4) := by show _ = _; rw [← HM2.out, HFA.out, foldO_len, HM4.out]
      have HON : Hid (O.length = n) := hON
      have t0 : (FE == 0) = true := by simpa using h0
      have hn' : (n : Int) ≤ 4 := by omega
      have HR0 : Hid ((allErr D n).2.2 = 0) := hEs.right
      subst hNn
      clear h0 hE0 hEB0 hEs hST hON
      go_wp2_with fail
      go_loopg [12, 18] NO (fun gg s12 s18 wr => ∃ (k : Nat) (Ac : Option Addr) (ac : Nat), k ≤ NO ∧ gg = NO - k ∧ s18 = .int .i64 k ∧ s12 = .slice Ac M4 ac ∧ Hid (CelV wr Ac ac (foldO D NO ST (O.take k))) ∧ Below w8.heap.size w8 wr)
      case atStart => exact ⟨0, AS, cS, Nat.zero_le _, rfl, rfl, rfl, HS8, Below.refl _ _⟩
      case round =>
        obtain ⟨k, Ac, ac, hk, rfl, rfl, rfl, HCr, hBw⟩ := hrel
        have HBw : Hid (Below w8.heap.size w8 wr) := hBw
        have HBr : Hid (Below W.heap.size W wr) := onB HB8.out hBw
        by_cases hlt : k < NO
        · have hki : (k : Int) < (NO : Int) := by omega
          have tk : decide ((k : Int) < (NO : Int)) = true := decide_eq_true hki
          have hkO : k < O.length := by rw [HON.out]; exact hlt
          have hOr := (HC0.out.later HBr.out).2.2.2.1
          obtain ⟨hcO, h9 | ⟨bo, oo, rfl, hbo, hcell⟩⟩ := hOr
          · rw [h9] at hkO; simp at hkO
          rw [HON.out] at hcO
          have co := hcell k hkO
          have hmem : O.getD k 0 ∈ O := by rw [List.getD_eq_getElem?_getD, List.getElem?_eq_getElem hkO]; exact List.getElem_mem hkO
          obtain ⟨j, hj, hjn⟩ := HOi.out _ hmem
          have hNx := foldO_take (D := D) (n := NO) (L := ST) hkO
          rw [hj] at co hNx
          rw [show ((j : Int)).toNat = j by omega] at hNx
          obtain ⟨Lk, hLk⟩ : ∃ Lk, foldO D NO ST (O.take k) = Lk := ⟨_, rfl⟩
          have hLl : Lk.length = prodN D NO := by rw [← hLk, foldO_len]; exact HSl.out.1
          have hLg : goodL Lk := by rw [← hLk]; exact foldO_good _ HSl.out.2
          have hLm : Lk.length = M4 := by rw [← hLk, foldO_len]; exact HM4.out
          rw [hLk] at hNx HCr
          have HNx : Hid (foldO D NO ST (O.take (k + 1)) = onceV D NO j Lk) := hNx
          have HFo : Hid (∀ w', Below wr.heap.size wr w' → Calls Tryz.prog 10 #[.agg #[.slice A0 NO cap], .slice Ac M4 ac, .int .i64 j] w' fun e w'' => (∃ A' c', e = .returned (.slice A' M4 c') ∧ CelV w'' A' c' (onceV D NO j Lk)) ∧ Below w'.heap.size w' w'') := fun w' hw' => by
            have h := KFo.out j Lk Ac ac w' HR0.out hjn hLl hLg (onB HBr.out hw') (HCr.out.later hw')
            rw [hLm] at h
            exact h
          have HKu : Hid (w.heap.size < wr.heap.size ∧ bo < wr.heap.size ∧ wr.cell? ⟨w.heap.size, 0, none⟩ = some (.slice A0 NO cap) ∧ wr.cell? ⟨bo, oo + k, none⟩ = some (.int .i64 j)) := ⟨(HBox0.out.later HBr.out).1, hbo, (HBox0.out.later HBr.out).2, co⟩
          clear hj hmem hcell hLk hLl hLg hLm hNx hBw co hkO
          go_wp2_with fail
          go_region_held3 (fun w' => Below wr.heap.size wr w' ∧ w'.cell? ⟨w.heap.size, 0, none⟩ = some (.slice A0 NO cap) ∧ w'.cell? ⟨bo, oo + k, none⟩ = some (.int .i64 j))
            ((refine keepU HKu.out ?_; go_grown; done))
            (first | (go_at_call 10; refine (HFo.out _ (by go_grown)).mono ?_; rintro e w3 ⟨⟨A', c', rfl, hc3⟩, hb3⟩; have hM3 := onB (W0 := wr) (by go_grown) hb3; have hy3 := hM3.size; clear hb3))
          all_goals go_wp2_with fail
          all_goals go_roundg (NO - (k + 1))
          all_goals first
            | omega
            | exact ⟨k + 1, _, _, by omega, rfl, by go_num, rfl, (by rw [HNx.out]; first | assumption | (refine CelV.later (by assumption) ?_; go_grown) : CelV _ _ _ (foldO D NO ST (O.take (k + 1)))), onB HBw.out (by go_grown)⟩
        · have hke : k = NO := by omega
          subst hke
          have tk : decide ((k : Int) < (k : Int)) = false := decide_eq_false (by omega)
          have HCe : Hid (CelV wr Ac ac (faL D k (lE xs) O)) := by
            show CelV _ _ _ _
            have e1 : O.take k = O := List.take_of_length_le (by rw [HON.out]; exact Nat.le_refl _)
            rw [HFA.out]
            have := HCr.out
            rw [e1] at this
            exact this
          clear hBw
          go_wp2_with fail
          go_meet
          exact ⟨⟨Ac, ac, by rw [HMM.out], HCe.out⟩, HBw.out⟩
    · have t0 : (FE == 0) = false := by simpa using h0
      have HF : Hid (faL D n (lE xs) O = ST ∧ M2 = M4) := by
        have h1 : ST = [] := by rw [← HST.out, if_neg h0]
        have h2 : faL D n (lE xs) O = [] := by unfold faL; rw [HFE.out, if_neg h0]
        exact ⟨by rw [h1, h2], by rw [← HM2.out, ← HM4.out, h1, h2]⟩
      clear h0
      by_cases hN0 : NO = 0
      · subst hN0
        go_wp2_with fail
        refine wp_loop_rounds 1 ?_
        rw [rounds_succ]
        go_wp2_with fail
        go_meet
        exact ⟨⟨AS, cS, by rw [HF.out.2], by rw [HF.out.1]; exact HS8.out⟩, Below.refl _ _⟩
      · have hNp : 0 < NO := by omega
        have hNi : (0 : Int) < (NO : Int) := by omega
        have hNd : decide ((0 : Int) < (NO : Int)) = true := decide_eq_true hNi
        clear hN0
        go_wp2_with fail
        refine wp_loop_rounds 1 ?_
        rw [rounds_succ]
        go_wp2_with fail
        go_meet
        exact ⟨⟨AS, cS, by rw [HF.out.2], by rw [HF.out.1]; exact HS8.out⟩, Below.refl _ _⟩
  case rest => as_aux_lemma =>
  obtain ⟨⟨AV, cV, rfl, hcV⟩, hb⟩ := hcut
  obtain ⟨w9, rfl⟩ : ∃ w9 : World, w9 = wc := ⟨_, rfl⟩
  have HB9 : Hid (Below W.heap.size W w9) := onB HB8.out hb
  have HV9 : Hid (CelV w9 AV cV (faL D n (lE xs) O)) := hcV
  have x9 := (HBox0.out.later HB9.out).2
  clear hb hcV
  go_wp2_with fail
  refine (KAl.out _ HB9.out).mono ?_
  rintro e w10 ⟨⟨AL, cL, rfl, hcL⟩, hb⟩
  have HB10 : Hid (Below W.heap.size W w10) := onB HB9.out hb
  have HV10 : Hid (CelV w10 AV cV (faL D n (lE xs) O)) := HV9.out.later hb
  have HL10 : Hid (CelV w10 AL cL (faL D n (lE xs) O)) := hcL
  clear hb hcL x9
  go_wp2_with fail
  refine (KSa.out FE _ HB10.out).mono ?_
  rintro e w11 ⟨rfl, hb⟩
  have HB11 : Hid (Below W.heap.size W w11) := onB HB10.out hb
  have HV11 : Hid (CelV w11 AV cV (faL D n (lE xs) O)) := HV10.out.later hb
  have HL11 : Hid (CelV w11 AL cL (faL D n (lE xs) O)) := HL10.out.later hb
  clear hb
  go_wp2_with fail
  refine (KSc2.out AL AV cL cV _ HL11.out HV11.out).mono ?_
  rintro e w12 ⟨rfl, hb⟩
  have HB12 : Hid (Below W.heap.size W w12) := onB HB11.out hb
  have x12 := (HBox0.out.later HB12.out).2
  clear hb
  go_wp2_with fail
  refine (KRi.out _ HB12.out).mono ?_
  rintro e w13 ⟨rfl, hb⟩
  have HB13 : Hid (Below W.heap.size W w13) := onB HB12.out hb
  have x13 := (HBox0.out.later HB13.out).2
  clear hb x12
  obtain ⟨T5, hT5⟩ : ∃ t, (decide (RR = 0) && ((NC : Int) != (prodN D n : Int))) = t := ⟨_, rfl⟩
  have HT5 : Hid ((decide (RR = 0) && ((NC : Int) != (prodN D n : Int))) = T5) := hT5
  obtain ⟨E5, hE5⟩ : ∃ e, (if T5 = true then 3 else RR) = e := ⟨_, rfl⟩
  have HE5 : Hid ((if T5 = true then 3 else RR) = E5) := hE5
  obtain ⟨CE, hCE⟩ : ∃ e, chkErr D n L = e := ⟨_, rfl⟩
  have HCE : Hid (chkErr D n L = CE) := hCE
  obtain ⟨T6, hT6⟩ : ∃ t, (decide (CE = 0) && (decide (dim < 0) || decide ((n : Int) ≤ dim))) = t := ⟨_, rfl⟩
  have HT6 : Hid ((decide (CE = 0) && (decide (dim < 0) || decide ((n : Int) ≤ dim))) = T6) := hT6
  clear hT5 hE5 hCE hT6
  go_upto_region 20 with fail
  go_cut [97] from 24 (fun s97 wx => s97 = .bool T5 ∧ Below w13.heap.size w13 wx)
  case first => as_aux_lemma =>
    by_cases h0 : RR = 0
    · have t0 : (RR == 0) = true := by simpa using h0
      have h1 := KSz.out (by rw [HRR.out]; exact h0) w13 HB13.out
      have HD1 : Hid (((NC : Int) != (prodN D n : Int)) = T5) := by show _ = _; rw [← HT5.out, decide_eq_true h0, Bool.true_and]
      generalize (prodN D n : Int) = PN at h1 HD1
      clear h0
      go_wp2_with fail
      refine h1.mono ?_
      rintro e w14 ⟨rfl, hb⟩
      have HB14 : Hid (Below w13.heap.size w13 w14) := hb
      clear hb h1
      go_wp2_with fail
      go_meet
      exact ⟨by rw [← HD1.out], HB14.out⟩
    · have t0 : (RR == 0) = false := by simpa using h0
      have HD1 : Hid (false = T5) := by show _ = _; rw [← HT5.out, decide_eq_false h0, Bool.false_and]
      clear h0
      go_wp2_with fail
      go_meet
      exact ⟨by rw [HD1.out], Below.refl _ _⟩
  case rest => as_aux_lemma =>
  obtain ⟨rfl, hb⟩ := hcut
  obtain ⟨w14, rfl⟩ : ∃ w14 : World, w14 = wc := ⟨_, rfl⟩
  have HB14 : Hid (Below W.heap.size W w14) := onB HB13.out hb
  clear hb x13
  go_upto_if 97 with fail
  go_cut [11] from 24 (fun s11 wx => s11 = .int .i64 E5 ∧ Below w14.heap.size w14 wx)
  case first => as_aux_lemma =>
    cases hT : T5
    · have HF : Hid (RR = E5) := by show _ = _; rw [← HE5.out, hT]; rfl
      clear hT
      go_wp2_with fail
      go_meet
      exact ⟨by rw [HF.out], Below.refl _ _⟩
    · have HF : Hid (3 = E5) := by show _ = _; rw [← HE5.out, hT]; rfl
      clear hT
      go_wp2_with fail
      go_meet
      exact ⟨by rw [HF.out], Below.refl _ _⟩
  case rest => as_aux_lemma =>
  obtain ⟨rfl, hb⟩ := hcut
  obtain ⟨w15, rfl⟩ : ∃ w15 : World, w15 = wc := ⟨_, rfl⟩
  have HB15 : Hid (Below W.heap.size W w15) := onB HB14.out hb
  clear hb
  go_upto_block 2 with fail
  go_cut [11, 21] from 24 (fun s11 s21 wx => s11 = .int .i64 CE ∧ Below w15.heap.size w15 wx)
  case first => as_aux_lemma =>
    by_cases h0 : E5 = 0
    · obtain ⟨hR0, hCN⟩ : (allErr D n).2.2 = 0 ∧ L.length = prodN D n := by
        have h1 := HE5.out
        rw [h0] at h1
        cases hT : T5
        · rw [hT] at h1
          have h2 : RR = 0 := h1
          have h3 := HT5.out
          rw [hT, decide_eq_true h2, Bool.true_and] at h3
          have h4 : (NC : Int) = (prodN D n : Int) := by simpa using h3
          have h5 : L.length = prodN D n := by have h5 := HNC.out; omega
          exact ⟨by rw [HRR.out]; exact h2, h5⟩
        · rw [hT] at h1; cases h1
      obtain ⟨-, -, hp3, -⟩ := allErr_some hR0
      have HCk : Hid (CE = if 0 ≤ findFrom (goodB L) NC 0 then 1 else 0) := by show _ = _; rw [← HCE.out, ck2 hR0 hCN, HNC.out]
      have hN3 : (NC : Int) ≤ 3000 := by have := HNC.out; omega
      have HE0 : Hid (E5 = 0) := h0
      have hLc := (HC0.out.later HB15.out).2.2.1
      have HLc : Hid (CelV w15 AC cc L) := hLc
      clear h0 hR0 hCN hp3 hLc
      go_wp2_with fail
      go_loopg [11, 21] NC (fun gg s11 s21 wr => ∃ (k : Nat) (e : Int), k ≤ NC ∧ gg = NC - k ∧ s21 = .int .i64 k ∧ s11 = .int .i64 e ∧ Hid ((e = 0 ∧ findFrom (goodB L) (NC - k) k = findFrom (goodB L) NC 0) ∨ (e = 1 ∧ 0 ≤ findFrom (goodB L) NC 0)) ∧ Below w15.heap.size w15 wr)
      case atStart => exact ⟨0, E5, Nat.zero_le _, rfl, rfl, rfl, (Or.inl ⟨HE0.out, rfl⟩ : _ ∨ _), Below.refl _ _⟩
      case round =>
        obtain ⟨k, e, hk, rfl, rfl, rfl, HK, hBw⟩ := hrel
        have HBw : Hid (Below w15.heap.size w15 wr) := hBw
        by_cases hlt : k < NC
        · have hki : (k : Int) < (NC : Int) := by omega
          have tk : decide ((k : Int) < (NC : Int)) = true := decide_eq_true hki
          by_cases he : e = 0
          · have te : (e == 0) = true := by simpa using he
            have hkL : k < L.length := by rw [HNC.out]; exact hlt
            obtain ⟨hcc, -, h9 | ⟨b, o, rfl, hA⟩⟩ := HLc.out.later hBw
            · rw [h9] at hkL; simp at hkL
            rw [HNC.out] at hcc
            obtain ⟨c1, c2⟩ := hA.2 k hkL
            have HFd : Hid (findFrom (goodB L) (NC - k) k = findFrom (goodB L) NC 0) := by
              rcases HK.out with h | h
              · exact h.2
              · omega
            have HSK : Hid (NC - k = (NC - (k + 1)) + 1) := by show _ = _; omega
            have hgb : goodB L k = !(good (L.getD k noC).1 (L.getD k noC).2) := rfl
            generalize (L.getD k noC).1 = ck at c1 hgb
            generalize (L.getD k noC).2 = cn at c2 hgb
            have hrc := rcell_if ck cn
            cases hg : good ck cn
            · rw [hg] at hrc hgb
              simp only [Bool.false_eq_true, if_false] at hrc
              have HK2 : Hid (((1 : Int) = 0 ∧ findFrom (goodB L) (NC - (k + 1)) (k + 1) = findFrom (goodB L) NC 0) ∨ ((1 : Int) = 1 ∧ 0 ≤ findFrom (goodB L) NC 0)) := Or.inr ⟨rfl, by rw [← HFd.out, HSK.out, findFrom_hit _ hgb]; omega⟩
              clear hA hBw hgb hg he
              go_wp2_with fail
              refine (hrc _).mono ?_
              rintro e' w3 ⟨rfl, hb3⟩
              have HB3 : Hid (Below w15.heap.size w15 w3) := onB HBw.out hb3
              clear hb3
              go_wp2_with fail
              go_roundg (NC - (k + 1))
              case measure => omega
              case rel =>
                have HK3 : Hid (((1 : Int) = 0 ∧ findFrom (goodB L) (NC - (k + 1)) (k + 1) = findFrom (goodB L) NC 0) ∨ ((1 : Int) = 1 ∧ 0 ≤ findFrom (goodB L) NC 0)) := by
                  have h := HK2.out
                  show _ ∨ _
                  rcases h with h | h
                  · exact Or.inl ⟨by first | exact h.1 | rfl, h.2⟩
                  · exact Or.inr ⟨by first | exact h.1 | rfl, h.2⟩
                exact ⟨k + 1, 1, by omega, rfl, by go_num, rfl, HK3, HB3.out⟩
            · rw [hg] at hrc hgb
              simp only [if_true] at hrc
              have HK2 : Hid (((0 : Int) = 0 ∧ findFrom (goodB L) (NC - (k + 1)) (k + 1) = findFrom (goodB L) NC 0) ∨ ((0 : Int) = 1 ∧ 0 ≤ findFrom (goodB L) NC 0)) := Or.inl ⟨rfl, by rw [← HFd.out, HSK.out, findFrom_miss _ hgb]⟩
              clear hA hBw hgb hg he
              go_wp2_with fail
              refine (hrc _).mono ?_
              rintro e' w3 ⟨rfl, hb3⟩
              have HB3 : Hid (Below w15.heap.size w15 w3) := onB HBw.out hb3
              clear hb3
              go_wp2_with fail
              go_roundg (NC - (k + 1))
              case measure => omega
              case rel =>
                have HK3 : Hid (((0 : Int) = 0 ∧ findFrom (goodB L) (NC - (k + 1)) (k + 1) = findFrom (goodB L) NC 0) ∨ ((0 : Int) = 1 ∧ 0 ≤ findFrom (goodB L) NC 0)) := by
                  have h := HK2.out
                  show _ ∨ _
                  rcases h with h | h
                  · exact Or.inl ⟨by first | exact h.1 | rfl, h.2⟩
                  · exact Or.inr ⟨by first | exact h.1 | rfl, h.2⟩
                exact ⟨k + 1, 0, by omega, rfl, by go_num, rfl, HK3, HB3.out⟩
          · have te : (e == 0) = false := by simpa using he
            have HR1 : Hid (e = CE) := by
              rcases HK.out with h | h
              · exact absurd h.1 he
              · show _ = _; rw [HCk.out, if_pos h.2]; exact h.1
            clear hBw he
            go_wp2_with fail
            go_meet
            exact ⟨by rw [HR1.out], HBw.out⟩
        · have hke : k = NC := by omega
          subst hke
          have tk : decide ((k : Int) < (k : Int)) = false := decide_eq_false (by omega)
          have HR1 : Hid (e = CE) := by
            rcases HK.out with h | h
            · have h2 := h.2
              rw [Nat.sub_self] at h2
              have h3 : findFrom (goodB L) 0 k = -1 := rfl
              show _ = _
              rw [HCk.out, if_neg (by omega)]
              exact h.1
            · show _ = _; rw [HCk.out, if_pos h.2]; exact h.1
          clear hBw
          go_wp2_with fail
          go_meet
          exact ⟨by rw [HR1.out], HBw.out⟩
    · have t0 : (E5 == 0) = false := by simpa using h0
      have HF : Hid (E5 = CE) := by
        show _ = _
        rw [← HE5.out, ← HCE.out]
        cases hT : T5
        · have h1 := HE5.out
          rw [hT] at h1
          have h2 : RR = E5 := h1
          rw [ck0 (by rw [HRR.out]; omega), HRR.out]
          rfl
        · have h3 := HT5.out
          rw [hT, Bool.and_eq_true] at h3
          have h4 : RR = 0 := of_decide_eq_true h3.1
          rw [ck1 (by rw [HRR.out]; exact h4) (by have := h3.2; have h6 := HNC.out; intro h7; rw [← h6, h7] at this; simp at this)]
          rfl
      clear h0
      by_cases hN0 : NC = 0
      · subst hN0
        go_wp2_with fail
        refine wp_loop_rounds 1 ?_
        rw [rounds_succ]
        go_wp2_with fail
        go_meet
        exact ⟨by rw [HF.out], Below.refl _ _⟩
      · have hNp : 0 < NC := by omega
        have hNi : (0 : Int) < (NC : Int) := by omega
        have hNd : decide ((0 : Int) < (NC : Int)) = true := decide_eq_true hNi
        clear hN0
        go_wp2_with fail
        refine wp_loop_rounds 1 ?_
        rw [rounds_succ]
        go_wp2_with fail
        go_meet
        exact ⟨by rw [HF.out], Below.refl _ _⟩
  case rest => as_aux_lemma =>
  obtain ⟨rfl, hb⟩ := hcut
  obtain ⟨w16, rfl⟩ : ∃ w16 : World, w16 = wc := ⟨_, rfl⟩
  have HB16 : Hid (Below W.heap.size W w16) := onB HB15.out hb
  have x16 := (HBox0.out.later HB16.out).2
  clear hb
  go_upto_region 26 with fail
  go_cut [125] from 24 (fun s125 wx => s125 = .bool T6 ∧ Below w16.heap.size w16 wx)
  case first => as_aux_lemma =>
    by_cases h0 : CE = 0
    · have t0 : (CE == 0) = true := by simpa using h0
      have HD1 : Hid ((decide (dim < 0) || decide ((n : Int) ≤ dim)) = T6) := by show _ = _; rw [← HT6.out, decide_eq_true h0, Bool.true_and]
      by_cases h2 : dim < 0
      · have t2 : decide (dim < 0) = true := decide_eq_true h2
        have HD2 : Hid (true = T6) := by show _ = _; rw [← HD1.out, t2, Bool.true_or]
        clear h0 h2
        go_wp2_with fail
        go_meet
        exact ⟨by rw [HD2.out], Below.refl _ _⟩
      · have t2 : decide (dim < 0) = false := decide_eq_false h2
        have HD2 : Hid (decide ((n : Int) ≤ dim) = T6) := by show _ = _; rw [← HD1.out, t2, Bool.false_or]
        clear h0 h2
        go_wp2_with fail
        go_meet
        exact ⟨by rw [← HD2.out], Below.refl _ _⟩
    · have t0 : (CE == 0) = false := by simpa using h0
      have HD1 : Hid (false = T6) := by show _ = _; rw [← HT6.out, decide_eq_false h0, Bool.false_and]
      clear h0
      go_wp2_with fail
      go_meet
      exact ⟨by rw [HD1.out], Below.refl _ _⟩
  case rest => as_aux_lemma =>
  obtain ⟨rfl, hb⟩ := hcut
  obtain ⟨w17, rfl⟩ : ∃ w17 : World, w17 = wc := ⟨_, rfl⟩
  have HB17 : Hid (Below W.heap.size W w17) := onB HB16.out hb
  clear hb x16
  go_upto_if 125 with fail
  go_cut [11] from 24 (fun s11 wx => s11 = .int .i64 OE ∧ Below w17.heap.size w17 wx)
  case first => as_aux_lemma =>
    cases hT : T6
    · have HF : Hid (CE = OE) := by
        show _ = _
        rw [← HOE.out, ← HCE.out]
        by_cases hc : chkErr D n L = 0
        · have h3 := HT6.out
          rw [hT, ← HCE.out, decide_eq_true hc, Bool.true_and] at h3
          simp at h3
          obtain ⟨j, hj⟩ : ∃ j : Nat, dim = j := ⟨dim.toNat, by omega⟩
          rw [hj, (on2 hc (by omega)).1, hc]
        · rw [(on0 hc).1]
      clear hT
      go_wp2_with fail
      go_meet
      exact ⟨by rw [HF.out], Below.refl _ _⟩
    · have HF : Hid (1 = OE) := by
        show _ = _
        have h3 := HT6.out
        rw [hT, Bool.and_eq_true] at h3
        have hc : chkErr D n L = 0 := by rw [HCE.out]; exact of_decide_eq_true h3.1
        have h4 := h3.2
        simp at h4
        rw [← HOE.out, (on1 hc h4).1]
      clear hT
      go_wp2_with fail
      go_meet
      exact ⟨by rw [HF.out], Below.refl _ _⟩
  case rest => as_aux_lemma =>
  obtain ⟨rfl, hb⟩ := hcut
  obtain ⟨w18, rfl⟩ : ∃ w18 : World, w18 = wc := ⟨_, rfl⟩
  have HB18 : Hid (Below W.heap.size W w18) := onB HB17.out hb
  have x18 := (HBox0.out.later HB18.out).2
  clear hb
  go_upto_if 127 with fail
  go_cut [12] from 24 (fun s12 wx => (∃ A' c', s12 = .slice A' M3 c' ∧ CelV wx A' c' (onceR D n L dim)) ∧ Below w18.heap.size w18 wx)
  case first => as_aux_lemma =>
    by_cases h0 : OE = 0
    · have t0 : (OE == 0) = true := by simpa using h0
      obtain ⟨hc, j, hj, hjn⟩ : chkErr D n L = 0 ∧ ∃ j : Nat, dim = j ∧ j < n := by
        have h1 := HOE.out
        rw [h0] at h1
        by_cases hc : chkErr D n L = 0
        · refine ⟨hc, ?_⟩
          by_cases h2 : dim < 0 ∨ (n : Int) ≤ dim
          · rw [(on1 hc h2).1] at h1; cases h1
          · exact ⟨dim.toNat, by omega, by omega⟩
        · rw [(on0 hc).1] at h1; exact absurd h1 hc
      subst hj
      obtain ⟨g1, g2, g3⟩ := chk_right hc
      have h1 := KFo.out j L AC cc w18 g1 hjn g2 g3 HB18.out (HC0.out.later HB18.out).2.2.1
      have HRr : Hid (onceR D n L (j : Int) = onceV D n j L ∧ NC = M3) := by
        have h5 := (on2 hc hjn).2
        refine ⟨h5, ?_⟩
        rw [← HM3.out, h5, ← HNC.out]
        unfold onceV
        rw [once_len]
      rw [HNC.out] at h1
      clear h0 hc g1 g2 g3 hjn
      go_wp2_with fail
      refine h1.mono ?_
      rintro e w19 ⟨⟨A', c', rfl, hc⟩, hb⟩
      have HB19 : Hid (Below w18.heap.size w18 w19) := hb
      have HC19 : Hid (CelV w19 A' c' (onceV D n j L)) := hc
      clear hb hc h1
      go_wp2_with fail
      go_meet
      exact ⟨⟨A', c', by rw [HRr.out.2], by rw [HRr.out.1]; exact HC19.out⟩, HB19.out⟩
    · have t0 : (OE == 0) = false := by simpa using h0
      have HF : Hid (onceR D n L dim = [] ∧ 0 = M3) := by
        have h2 : onceR D n L dim = [] := by unfold onceR; rw [HOE.out, if_neg h0]
        exact ⟨h2, by rw [← HM3.out, h2]; rfl⟩
      clear h0
      go_wp2_with fail
      go_meet
      exact ⟨⟨none, 0, by rw [← HF.out.2], by rw [HF.out.1]; exact CelV.nil _ _ _ (by decide)⟩, Below.refl _ _⟩
  case rest => as_aux_lemma =>
  obtain ⟨⟨AZ, cZ, rfl, hcZ⟩, hb⟩ := hcut
  obtain ⟨w19, rfl⟩ : ∃ w19 : World, w19 = wc := ⟨_, rfl⟩
  have HB19 : Hid (Below W.heap.size W w19) := onB HB18.out hb
  have HZ19 : Hid (CelV w19 AZ cZ (onceR D n L dim)) := hcZ
  have x19 := (HBox0.out.later HB19.out).2
  clear hb hcZ x18
  go_wp2_with fail
  refine (KOn.out _ HB19.out).mono ?_
  rintro e w20 ⟨⟨AQ, cQ, rfl, hcQ⟩, hb⟩
  have HB20 : Hid (Below W.heap.size W w20) := onB HB19.out hb
  have HZ20 : Hid (CelV w20 AZ cZ (onceR D n L dim)) := HZ19.out.later hb
  have HQ20 : Hid (CelV w20 AQ cQ (onceR D n L dim)) := hcQ
  clear hb hcQ x19
  go_wp2_with fail
  refine (KSa.out OE _ HB20.out).mono ?_
  rintro e w21 ⟨rfl, hb⟩
  have HB21 : Hid (Below W.heap.size W w21) := onB HB20.out hb
  have HZ21 : Hid (CelV w21 AZ cZ (onceR D n L dim)) := HZ20.out.later hb
  have HQ21 : Hid (CelV w21 AQ cQ (onceR D n L dim)) := HQ20.out.later hb
  clear hb
  go_wp2_with fail
  refine (KSc3.out AQ AZ cQ cZ _ HQ21.out HZ21.out).mono ?_
  rintro e w22 ⟨rfl, hb⟩
  have HB22 : Hid (Below W.heap.size W w22) := onB HB21.out hb
  clear hb
  go_wp2_with fail
  first | (go_quiet (fail); go_wp2_with fail) | skip
  go_ret
  exact ⟨by simp, by first | exact onB HB00.out HB22.out | exact below_drewN (onB HB00.out HB22.out) _⟩
end Go.Proofs.YtmjcnlpjnbcfjadGreatDoor
