/-
  The walk of tallylaw1.RollAdds: what is written at a leaf in the place of nothing changes what comes of a place by as much as it counts there, and no other: it returns true for every outline, entries, two places and number.
-/
import Derived.Test.YtfngmnhkhfgmjadRAdds1
import Derived.Deep.CutBlock
import Derived.Deep.QuietTactic
import Derived.BigQuiet
import Derived.WalkSmall
namespace Go.Proofs.Ytfngmnhkhfgmjad
open Go.ChangeShapes Go.WideShapes Go.ChangeAt Go.RowKit
set_option maxRecDepth 20000

/-- what holds where a number was put in the place of nothing -/
theorem more_ok {D : Nat → Dm} {n : Nat} {l : List En} {p q : List Int} {N : Int} (h1 : rvErr D n l p = 0) (h2 : getErr D n l q = 0) (h3 : changeErr D n l ⟨q, N, false⟩ = 0) (h4 : (getV D n l q).1 = 0) :
    rvErr D n (setL l q N) p = 0 ∧ (-1000000 ≤ N ∧ N ≤ 1000000) ∧ (-3000000000 ≤ (rvV D n l p).2 ∧ (rvV D n l p).2 ≤ 3000000000) ∧ (-1 ≤ rwV D n p q ∧ rwV D n p q ≤ 1) ∧
    (rwErr D n p q = 0 → rwV D n p q ≠ 0 → rvV D n (setL l q N) p = (1, (rvV D n l p).2 + rwV D n p q * N)) ∧
    (rwErr D n p q ≠ 0 ∨ rwV D n p q = 0 → rvV D n (setL l q N) p = rvV D n l p) := by
  obtain ⟨hEs, hp⟩ := rvErr_in h1
  rw [change_in _ hEs.ok, edit_set] at h3
  obtain ⟨hq, hlf, hnm⟩ := entOne_right hEs.right h3
  have hS := hEs.set hq hlf hnm
  have hr : rvErr D n (setL l q N) p = 0 := by rw [rvErr_place hS.ok]; exact hp.ok
  have hN : -1000000 ≤ N ∧ N ≤ 1000000 := by simpa [numOk] using hnm
  have hh : hasE l q = false := by
    rw [getV_in h2] at h4
    unfold getE at h4
    unfold hasE
    cases hd : l.drop (cntE l q) with
    | nil => rfl
    | cons e r =>
      rw [hd] at h4
      simp only at h4 ⊢
      split at h4 <;> simp_all
  have hb := roll_bound p l hEs.each
  have hf := hEs.few
  have hw := pwTo_small hq p n (Nat.le_refl _)
  have hRE : rwErr D n p q = if inTo D p q n = true then 0 else 3 := by unfold rwErr; rw [hp.ok, hq.ok, hlf]; rfl
  have hV : rwV D n p q = pwTo D p q n := by
    unfold rwV
    rw [hRE]
    cases hi : inTo D p q n
    · rw [pwTo_out hi]; rfl
    · rfl
  have hc : cntR D n p ⟨q, N⟩ = !(pwTo D p q n == 0) := cnt_pw
  have hm := roll_more (D := D) (n := n) hh p N
  refine ⟨hr, hN, ?_, by rw [hV]; exact hw, fun _ h6 => ?_, fun h6 => ?_⟩
  · rw [rvV_ok h1]
    show _ ≤ rollN D n p l ∧ rollN D n p l ≤ _
    omega
  · rw [rvV_ok hr, rvV_ok h1, hV]
    rw [hV] at h6
    exact hm.1 (by rw [hc]; simpa using h6)
  · rw [rvV_ok hr, rvV_ok h1]
    refine hm.2 ?_
    rw [hc]
    rcases h6 with h6 | h6
    · rw [hRE] at h6
      cases hi : inTo D p q n
      · rw [pwTo_out hi]; rfl
      · rw [hi] at h6; simp at h6
    · rw [hV] at h6; rw [h6]; rfl

/-- an outline in a block, entries and two places, with all that they hold -/
def CtxA (q : Nat) (A0 : Option Addr) (cap n : Nat) (D : Nat → Dm) (A : Nat → Option Addr) (C : Nat → Nat) (AE : Option Addr) (ce : Nat) (xs : List EnL) (Ap : Option Addr) (cp : Nat) (p : List Int) (Aq : Option Addr) (cq : Nat) (r : List Int) (w : World) : Prop :=
  q < w.heap.size ∧ w.cell? ⟨q, 0, none⟩ = some (.slice A0 n cap) ∧ DimsV w A0 cap n D A C ∧ EnsV w AE ce xs ∧ PlAt w Ap cp p ∧ PlAt w Aq cq r
section
variable {q : Nat} {A0 : Option Addr} {cap n : Nat} {D : Nat → Dm} {A : Nat → Option Addr} {C : Nat → Nat} {AE : Option Addr} {ce : Nat} {xs : List EnL} {Ap : Option Addr} {cp : Nat} {p : List Int} {Aq : Option Addr} {cq : Nat} {r : List Int} {w w' : World}
theorem CtxA.later (h : CtxA q A0 cap n D A C AE ce xs Ap cp p Aq cq r w) (hB : Below w.heap.size w w') : CtxA q A0 cap n D A C AE ce xs Ap cp p Aq cq r w' := by
  obtain ⟨h1, h2, h3, h4, h5, h6⟩ := h
  exact ⟨Nat.lt_of_lt_of_le h1 hB.size, (hB.cell (p := ⟨q, 0, none⟩) h1).trans h2, h3.later hB, h4.later hB, h5.later hB, h6.later hB⟩
end
/-- a cell in a box -/
def BoxC (w : World) (b : Nat) (x y : Int) : Prop := b < w.heap.size ∧ w.cell? ⟨b, 0, none⟩ = some (.int .i64 x) ∧ w.cell? ⟨b, 1, none⟩ = some (.int .i64 y)
theorem BoxC.later {w w' : World} {b : Nat} {x y : Int} (h : BoxC w b x y) (hB : Below w.heap.size w w') : BoxC w' b x y :=
  ⟨Nat.lt_of_lt_of_le h.1 hB.size, (hB.cell (p := ⟨b, 0, none⟩) h.1).trans h.2.1, (hB.cell (p := ⟨b, 1, none⟩) h.1).trans h.2.2⟩
theorem BoxC.made (w : World) (x y : Int) (T : Nat) : BoxC (w.alloc (.cells #[.int .i64 x, .int .i64 y] T)) w.heap.size x y := ⟨by simp, by simp, by simp⟩

set_option maxHeartbeats 32000000 in
theorem radds_any (A0 : Option Addr) (cap n : Nat) (D : Nat → Dm) (A : Nat → Option Addr) (C : Nat → Nat) (AE : Option Addr) (ce : Nat) (xs : List EnL) (Ap : Option Addr) (cp : Nat) (p : List Int) (Aq : Option Addr) (cq : Nat) (r : List Int) (N : Int) (w : World) (hM : DimsV w A0 cap n D A C) (hE : EnsV w AE ce xs) (hP : PlAt w Ap cp p) (hQ : PlAt w Aq cq r) :
    Calls Try.prog 3 #[.agg #[.slice A0 n cap], .slice AE xs.length ce, .slice Ap p.length cp, .slice Aq r.length cq, .int .i64 N] w fun e w' => e = .returned (.bool true) ∧ Below w.heap.size w w' := by
  have hB0 := raW_below w A0 n cap
  have h1 := rval_any (some ⟨w.heap.size + 2, 0, none⟩) 1 1 raD (fun _ => some ⟨w.heap.size + 1, 0, none⟩) (fun _ => 3) (some ⟨w.heap.size + 6, 0, none⟩) 2 (raX w.heap.size) (some ⟨w.heap.size + 7, 0, none⟩) 1 [0] (raW w A0 n cap) (raW_dims ..) (raW_ens ..) (raW_one w A0 n cap 7 0 rfl)
  have e0 : lE (raX w.heap.size) = [⟨[1], 7⟩, ⟨[2], 3⟩] := rfl
  rw [e0, ra_ok, ra_val, errV_zero] at h1
  simp only [List.length_singleton] at h1
  have e1 : (raX w.heap.size).length = 2 := rfl
  rw [e1] at h1
  have HX0 : Hid (CtxA w.heap.size A0 cap n D A C AE ce xs Ap cp p Aq cq r (raW w A0 n cap)) := ⟨by rw [raW_size]; omega, raW_at .., hM.later hB0, hE.later hB0, hP.later hB0, hQ.later hB0⟩
  have HB0 : Hid (Below w.heap.size w (raW w A0 n cap)) := hB0
  have H2 : Hid (∀ w', CtxA w.heap.size A0 cap n D A C AE ce xs Ap cp p Aq cq r w' → Calls Try.prog 7 #[.agg #[.slice A0 n cap], .slice AE xs.length ce, .slice Ap p.length cp] w' fun e w'' => e = .returned (.tuple #[.agg #[.int .i64 (rvV D n (lE xs) p).1, .int .i64 (rvV D n (lE xs) p).2], errV (rvErr D n (lE xs) p)]) ∧ Below w'.heap.size w' w'') := fun w' hX => rval_any A0 cap n D A C AE ce xs Ap cp p w' hX.2.2.1 hX.2.2.2.1 hX.2.2.2.2.1
  have H3 : Hid (∀ w', CtxA w.heap.size A0 cap n D A C AE ce xs Ap cp p Aq cq r w' → Calls Try.prog 8 #[.agg #[.slice A0 n cap], .slice AE xs.length ce, .slice Aq r.length cq] w' fun e w'' => e = .returned (.tuple #[.agg #[.int .i64 (getV D n (lE xs) r).1, .int .i64 (getV D n (lE xs) r).2], errV (getErr D n (lE xs) r)]) ∧ Below w'.heap.size w' w'') := fun w' hX => iget_any A0 cap n D A C AE ce xs Aq cq r w' hX.2.2.1 hX.2.2.2.1 hX.2.2.2.2.2
  have H4 : Hid (∀ w', CtxA w.heap.size A0 cap n D A C AE ce xs Ap cp p Aq cq r w' → Calls Try.prog 9 #[.agg #[.slice A0 n cap], .slice AE xs.length ce, .slice Aq r.length cq, .int .i64 N] w' fun e w'' => (∃ B c zs, e = .returned (.tuple #[.slice B zs.length c, errV (changeErr D n (lE xs) ⟨r, N, false⟩)]) ∧ EnsV w'' B c zs ∧ lE zs = pickL (changeErr D n (lE xs) ⟨r, N, false⟩) (setL (lE xs) r N)) ∧ Below w'.heap.size w' w'') := fun w' hX => iset_any A0 cap n D A C AE ce xs Aq cq r N w' hX.2.2.1 hX.2.2.2.1 hX.2.2.2.2.2
  have H5 : Hid (∀ w' B c zs, CtxA w.heap.size A0 cap n D A C AE ce xs Ap cp p Aq cq r w' → EnsV w' B c zs → Calls Try.prog 7 #[.agg #[.slice A0 n cap], .slice B zs.length c, .slice Ap p.length cp] w' fun e w'' => e = .returned (.tuple #[.agg #[.int .i64 (rvV D n (lE zs) p).1, .int .i64 (rvV D n (lE zs) p).2], errV (rvErr D n (lE zs) p)]) ∧ Below w'.heap.size w' w'') := fun w' B c zs hX hZ => rval_any A0 cap n D A C B c zs Ap cp p w' hX.2.2.1 hZ hX.2.2.2.2.1
  have H6 : Hid (∀ w', CtxA w.heap.size A0 cap n D A C AE ce xs Ap cp p Aq cq r w' → Calls Try.prog 10 #[.agg #[.slice A0 n cap], .slice Ap p.length cp, .slice Aq r.length cq] w' fun e w'' => e = .returned (.tuple #[.int .i64 (rwV D n p r), errV (rwErr D n p r)]) ∧ Below w'.heap.size w' w'') := fun w' hX => rwt_any A0 cap n D A C Ap cp p Aq cq r w' hX.2.2.1 hX.2.2.2.2.1 hX.2.2.2.2.2
  have HMore : Hid (rvErr D n (lE xs) p = 0 → getErr D n (lE xs) r = 0 → changeErr D n (lE xs) ⟨r, N, false⟩ = 0 → (getV D n (lE xs) r).1 = 0 → _) := more_ok (D := D) (n := n) (l := lE xs) (p := p) (q := r) (N := N)
  clear hM hE hP hQ hB0 e0 e1
  generalize rvErr D n (lE xs) p = E1 at H2 HMore
  generalize getErr D n (lE xs) r = E2 at H3 HMore
  generalize changeErr D n (lE xs) ⟨r, N, false⟩ = E3 at H4 HMore
  generalize hk1 : (getV D n (lE xs) r).1 = K1 at H3 HMore
  generalize (getV D n (lE xs) r).2 = K2 at H3
  generalize setL (lE xs) r N = SL at H4 HMore
  generalize rvV D n (lE xs) p = V1 at H2 HMore
  obtain ⟨v1, v2⟩ := V1
  generalize rwV D n p r = Wt at H6 HMore
  generalize rwErr D n p r = E6 at H6 HMore
  generalize xs.length = nx at H2 H3 H4
  generalize p.length = np at H2 H5 H6
  generalize r.length = nq at H3 H4 H6
  simp only at H2
  clear hk1
  go_enter Try.func3, Try.ntmps3
  go_wp2_with fail
  refine h1.mono ?_
  rintro e w1 ⟨rfl, hb⟩
  obtain ⟨y1, hy1⟩ : ∃ y1, w1.alloc (.cells #[.int .i64 1, .int .i64 4] 34) = y1 := ⟨_, rfl⟩
  have hB1 : Below w1.heap.size w1 y1 := by rw [← hy1]; go_grown
  have HX1 : Hid (CtxA w.heap.size A0 cap n D A C AE ce xs Ap cp p Aq cq r y1) := (HX0.out.later hb).later hB1
  have HB1 : Hid (Below w.heap.size w y1) := onB HB0.out (onB hb hB1)
  have c1 := HX1.out.2.1
  have f1 : y1.cell? ⟨w1.heap.size, 1, none⟩ = some (.int .i64 4) := by rw [← hy1]; simp
  have h2 := H2.out y1 HX1.out
  clear hb h1 HX0 HB0 hB1
  go_wp2_with fail
  clear hy1
  refine h2.mono ?_
  rintro e w2 ⟨rfl, hb⟩
  obtain ⟨y2, hy2⟩ : ∃ y2, w2.alloc (.cells #[.int .i64 v1, .int .i64 v2] 34) = y2 := ⟨_, rfl⟩
  have hB2 : Below w2.heap.size w2 y2 := by rw [← hy2]; go_grown
  have HX2 : Hid (CtxA w.heap.size A0 cap n D A C AE ce xs Ap cp p Aq cq r y2) := (HX1.out.later hb).later hB2
  have HB2 : Hid (Below w.heap.size w y2) := onB HB1.out (onB hb hB2)
  have HW2 : Hid (BoxC y2 w2.heap.size v1 v2) := by rw [← hy2]; exact BoxC.made ..
  have c2 := HX2.out.2.1
  have h3 := H3.out y2 HX2.out
  clear hb h2 c1 f1 HX1 HB1 hB2 H2
  go_wp2_with fail
  clear hy2
  refine h3.mono ?_
  rintro e w3 ⟨rfl, hb⟩
  obtain ⟨y3, hy3⟩ : ∃ y3, w3.alloc (.cells #[.int .i64 K1, .int .i64 K2] 34) = y3 := ⟨_, rfl⟩
  have hB3 : Below w3.heap.size w3 y3 := by rw [← hy3]; go_grown
  have HX3 : Hid (CtxA w.heap.size A0 cap n D A C AE ce xs Ap cp p Aq cq r y3) := (HX2.out.later hb).later hB3
  have HB3 : Hid (Below w.heap.size w y3) := onB HB2.out (onB hb hB3)
  have HW3 : Hid (BoxC y3 w2.heap.size v1 v2) := (HW2.out.later hb).later hB3
  have HG3 : Hid (BoxC y3 w3.heap.size K1 K2) := by rw [← hy3]; exact BoxC.made ..
  have c3 := HX3.out.2.1
  have h4 := H4.out y3 HX3.out
  clear hb h3 c2 HX2 HB2 HW2 hB3 H3
  go_wp2_with fail
  clear hy3
  refine h4.mono ?_
  rintro e w4 ⟨⟨B, c, zs, rfl, hZ, hl⟩, hb⟩
  have HX4 : Hid (CtxA w.heap.size A0 cap n D A C AE ce xs Ap cp p Aq cq r w4) := HX3.out.later hb
  have HB4 : Hid (Below w.heap.size w w4) := onB HB3.out hb
  have HW4 : Hid (BoxC w4 w2.heap.size v1 v2) := HW3.out.later hb
  have HZ4 : Hid (EnsV w4 B c zs) := hZ
  have HL : Hid (lE zs = pickL E3 SL) := hl
  obtain ⟨-, g0, g1⟩ := HG3.out.later hb
  clear hb h4 c3 HX3 HB3 HW3 HG3 H4 hZ hl
  obtain ⟨nz, hnz⟩ : ∃ nz, zs.length = nz := ⟨_, rfl⟩
  have HNZ : Hid (zs.length = nz) := hnz
  rw [hnz]
  clear hnz
  by_cases a1 : E1 = 0
  case neg =>
    have v1e : errV E1 = .iface 77 (.int .i64 E1) := errV_some a1
    clear a1
    go_wp2_with fail
    first | (go_quiet (fail); go_wp2_with fail) | skip
    go_ret
    exact ⟨rfl, by first | exact HB4.out | exact below_drewN HB4.out _⟩
  case pos =>
  have v1e : errV E1 = .nilIface := by rw [a1]; rfl
  by_cases a2 : E2 = 0
  case neg =>
    have v2e : errV E2 = .iface 77 (.int .i64 E2) := errV_some a2
    clear a1 a2
    go_wp2_with fail
    first | (go_quiet (fail); go_wp2_with fail) | skip
    go_ret
    exact ⟨rfl, by first | exact HB4.out | exact below_drewN HB4.out _⟩
  case pos =>
  have v2e : errV E2 = .nilIface := by rw [a2]; rfl
  by_cases a3 : E3 = 0
  case neg =>
    have v3e : errV E3 = .iface 77 (.int .i64 E3) := errV_some a3
    clear a1 a2 a3
    go_wp2_with fail
    first | (go_quiet (fail); go_wp2_with fail) | skip
    go_ret
    exact ⟨rfl, by first | exact HB4.out | exact below_drewN HB4.out _⟩
  case pos =>
  have v3e : errV E3 = .nilIface := by rw [a3]; rfl
  by_cases a4 : K1 = 0
  case neg =>
    have e5 : (K1 == 0) = false := by simpa using a4
    clear a1 a2 a3
    go_wp2_with fail
    first | (go_quiet (fail); go_wp2_with fail) | skip
    go_ret
    exact ⟨rfl, by first | exact HB4.out | exact below_drewN HB4.out _⟩
  case pos =>
  obtain ⟨m1, ⟨m2, m3⟩, ⟨m4, m5⟩, ⟨m6, m7⟩, m8, m9⟩ := HMore.out a1 a2 a3 a4
  have hlz : lE zs = SL := by rw [HL.out, a3, pickL_in]
  have h5 := H5.out w4 B c zs HX4.out HZ4.out
  rw [hlz, m1, errV_zero, HNZ.out] at h5
  have HM8 : Hid (E6 = 0 → Wt ≠ 0 → rvV D n SL p = (1, v2 + Wt * N)) := m8
  have HM9 : Hid (E6 ≠ 0 ∨ Wt = 0 → rvV D n SL p = (v1, v2)) := m9
  generalize rvV D n SL p = V2 at h5 HM8 HM9
  obtain ⟨u1, u2⟩ := V2
  simp only at h5 m4 m5
  have c5 := HX4.out.2.1
  clear HMore HL hlz m1 m8 m9 a1 a2 a3 H5 HZ4
  subst a4
  go_wp2_with fail
  refine h5.mono ?_
  rintro e w6 ⟨rfl, hb⟩
  obtain ⟨y6, hy6⟩ : ∃ y6, w6.alloc (.cells #[.int .i64 u1, .int .i64 u2] 34) = y6 := ⟨_, rfl⟩
  have hB6 : Below w6.heap.size w6 y6 := by rw [← hy6]; go_grown
  have HX6 : Hid (CtxA w.heap.size A0 cap n D A C AE ce xs Ap cp p Aq cq r y6) := (HX4.out.later hb).later hB6
  have HB6 : Hid (Below w.heap.size w y6) := onB HB4.out (onB hb hB6)
  have HW6 : Hid (BoxC y6 w2.heap.size v1 v2) := (HW4.out.later hb).later hB6
  have HN6 : Hid (BoxC y6 w6.heap.size u1 u2) := by rw [← hy6]; exact BoxC.made ..
  have c6 := HX6.out.2.1
  have h6 := H6.out y6 HX6.out
  clear hb h5 c5 HX4 HB4 HW4 hB6 H6
  go_wp2_with fail
  clear hy6
  refine h6.mono ?_
  rintro e w7 ⟨rfl, hb⟩
  have HB7 : Hid (Below w.heap.size w w7) := onB HB6.out hb
  obtain ⟨-, p0, p1⟩ := HW6.out.later hb
  obtain ⟨-, q0, q1⟩ := HN6.out.later hb
  clear hb h6 c6 HX6 HB6 HW6 HN6
  by_cases z6 : E6 = 0
  · have ve : errV E6 = .nilIface := by rw [z6]; rfl
    by_cases z7 : Wt = 0
    · have hv := HM9.out (Or.inr z7)
      obtain ⟨rfl, rfl⟩ : u1 = v1 ∧ u2 = v2 := by simpa using hv
      clear hv z6
      subst z7
      go_wp2_with fail
      first | (go_quiet (fail); go_wp2_with fail) | skip
      go_ret
      exact ⟨rfl, by first | exact HB7.out | exact below_drewN HB7.out _⟩
    · have hv := HM8.out z6 z7
      obtain ⟨rfl, rfl⟩ : u1 = 1 ∧ u2 = v2 + Wt * N := by simpa using hv
      have hw0 : (Wt == 0) = false := by simpa using z7
      have hcs : Wt = 1 ∨ Wt = -1 := by omega
      clear hv z6
      rcases hcs with rfl | rfl
      · go_wp2_with fail
        first | (go_quiet (fail); go_wp2_with fail) | skip
        go_ret
        exact ⟨rfl, by first | exact HB7.out | exact below_drewN HB7.out _⟩
      · go_wp2_with fail
        first | (go_quiet (fail); go_wp2_with fail) | skip
        go_ret
        exact ⟨rfl, by first | exact HB7.out | exact below_drewN HB7.out _⟩
  · have ve : errV E6 = .iface 77 (.int .i64 E6) := errV_some z6
    have hv := HM9.out (Or.inl z6)
    obtain ⟨rfl, rfl⟩ : u1 = v1 ∧ u2 = v2 := by simpa using hv
    clear hv z6
    go_wp2_with fail
    first | (go_quiet (fail); go_wp2_with fail) | skip
    go_ret
    exact ⟨rfl, by first | exact HB7.out | exact below_drewN HB7.out _⟩
end Go.Proofs.Ytfngmnhkhfgmjad
