/-
  The walk of tallylaw1.InputStays where a number was put: it is there, all else is as it was, cleared it is not.
-/
import Derived.Test.YtfngmnhkhfgmjacInpS
import Derived.Deep.CutBlock
import Derived.Deep.QuietTactic
import Derived.BigQuiet
import Derived.WalkSmall
namespace Go.Proofs.Ytfngmnhkhfgmjac
open Go.ChangeShapes Go.WideShapes Go.ChangeAt Go.RowKit
set_option maxRecDepth 20000

/-- what holds where a number was put -/
structure PutOk (D : Nat → Dm) (n : Nat) (l : List En) (p : List Int) (N : Int) : Prop where
  was : Ens D n l
  now : Ens D n (setL l p N)
  pl : InO D n p
  num : numOk N = true
theorem put_ok {D : Nat → Dm} {n : Nat} {l : List En} {p : List Int} {N : Int} (h : changeErr D n l ⟨p, N, false⟩ = 0) : PutOk D n l p N := by
  have he : entsErr D n l = 0 := Decidable.byContradiction fun h1 => h1 (by rw [← change_bad (⟨p, N, false⟩ : Ed) h1]; exact h)
  have hEs := ens_of he
  rw [change_in _ he, edit_set] at h
  obtain ⟨h1, h2, h3⟩ := entOne_right hEs.right h
  exact ⟨hEs, hEs.set h1 h2 h3, h1, h3⟩
section
variable {D : Nat → Dm} {n : Nat} {l : List En} {p : List Int} {N : Int}
theorem PutOk.get (h : PutOk D n l p N) : getErr D n (setL l p N) p = 0 ∧ getV D n (setL l p N) p = (1, N) := by
  have h1 : getErr D n (setL l p N) p = 0 := (getErr_in p h.now.ok).trans h.pl.ok
  exact ⟨h1, by rw [getV_in h1]; exact (h.was.there p N).1⟩
theorem PutOk.err (h : PutOk D n l p N) (r : List Int) : getErr D n l r = placeErr D n r ∧ getErr D n (setL l p N) r = placeErr D n r := ⟨getErr_in r h.was.ok, getErr_in r h.now.ok⟩
theorem PutOk.same (h : PutOk D n l p N) {r : List Int} (hr : p ≠ r) : getV D n (setL l p N) r = getV D n l r := by
  unfold getV
  rw [(h.err r).1, (h.err r).2, h.was.else (Ne.symm hr)]
theorem PutOk.clr (h : PutOk D n l p N) : changeErr D n (setL l p N) ⟨p, 0, true⟩ = 0 := by
  rw [change_in _ h.now.ok, edit_clr h.now.right, if_neg (by simpa using h.pl.ok), if_pos (h.was.there p N).2]
theorem PutOk.gone (h : PutOk D n l p N) : getErr D n (clrL (setL l p N) p) p = 0 ∧ getV D n (clrL (setL l p N) p) p = (0, 0) ∧ (clrL (setL l p N) p).length + 1 = (setL l p N).length := by
  have h0 := (h.was.there p N).2
  have h1 : getErr D n (clrL (setL l p N) p) p = 0 := (getErr_in p (h.now.clr h0).ok).trans h.pl.ok
  exact ⟨h1, by rw [getV_in h1]; exact (h.now.gone h0).1, (h.now.gone h0).2⟩
end
theorem keepC {W w' : World} {q b : Nat} {u v z : Value} (h : q < W.heap.size ∧ b < W.heap.size ∧ W.cell? ⟨q, 0, none⟩ = some u ∧ W.cell? ⟨b, 0, none⟩ = some v ∧ W.cell? ⟨b, 1, none⟩ = some z) (hB : Below W.heap.size W w') : Below W.heap.size W w' ∧ w'.cell? ⟨q, 0, none⟩ = some u ∧ w'.cell? ⟨b, 0, none⟩ = some v ∧ w'.cell? ⟨b, 1, none⟩ = some z :=
  ⟨hB, (hB.cell (p := ⟨q, 0, none⟩) h.1).trans h.2.2.1, (hB.cell (p := ⟨b, 0, none⟩) h.2.1).trans h.2.2.2.1, (hB.cell (p := ⟨b, 1, none⟩) h.2.1).trans h.2.2.2.2⟩

set_option maxHeartbeats 32000000 in
theorem stays_good (A0 : Option Addr) (cap n : Nat) (D : Nat → Dm) (A : Nat → Option Addr) (C : Nat → Nat) (AE : Option Addr) (ce : Nat) (xs : List EnL) (Ap : Option Addr) (cp : Nat) (p : List Int) (N : Int) (Aq : Option Addr) (cq : Nat) (r : List Int) (w : World) (hM : DimsV w A0 cap n D A C) (hE : EnsV w AE ce xs) (hP : PlAt w Ap cp p) (hQ : PlAt w Aq cq r) (he : changeErr D n (lE xs) ⟨p, N, false⟩ = 0) :
    Calls Try.prog 3 #[.agg #[.slice A0 n cap], .slice AE xs.length ce, .slice Ap p.length cp, .int .i64 N, .slice Aq r.length cq] w fun e w' => e = .returned (.bool true) ∧ Below w.heap.size w w' := by
  have hB0 := stW_below w A0 n cap
  have h1 := iset_any (some ⟨w.heap.size + 2, 0, none⟩) 1 1 stD (fun _ => some ⟨w.heap.size + 1, 0, none⟩) (fun _ => 1) none 0 [] (some ⟨w.heap.size + 4, 0, none⟩) 1 [0] 7 (stW w A0 n cap) (stW_dims ..) (EnsV.nil _ _ _ (by decide)) (stW_pl ..)
  have e0 : lE [] = [] := rfl
  rw [e0, st_ok, st_set] at h1
  unfold Answer at h1
  rw [errV_zero, pickL_in] at h1
  simp only [List.length_nil, List.length_singleton] at h1
  have hOk := put_ok he
  obtain ⟨hn1, hn2⟩ : -1000000 ≤ N ∧ N ≤ 1000000 := by have := hOk.num; simpa [numOk] using this
  have HX0 : Hid (CtxS w.heap.size A0 cap n D A C AE ce xs Ap cp p Aq cq r (stW w A0 n cap)) := ⟨by rw [stW_size]; omega, stW_at .., hM.later hB0, hE.later hB0, hP.later hB0, hQ.later hB0⟩
  have HB0 : Hid (Below w.heap.size w (stW w A0 n cap)) := hB0
  obtain ⟨X, hX⟩ : ∃ X, X = setL (lE xs) p N := ⟨_, rfl⟩
  obtain ⟨nY, hnY⟩ : ∃ nY, (clrL (setL (lE xs) p N) p).length = nY := ⟨_, rfl⟩
  have hXl : X.length = nY + 1 := by rw [hX, ← hOk.gone.2.2, hnY]
  have hY3 : nY ≤ 3000 := by have := hOk.now.few; rw [← hX, hXl] at this; omega
  have H2 : Hid (∀ w', CtxS w.heap.size A0 cap n D A C AE ce xs Ap cp p Aq cq r w' → Calls Try.prog 4 #[.agg #[.slice A0 n cap], .slice AE xs.length ce, .slice Ap p.length cp, .int .i64 N] w' fun e w'' => (∃ B c zs, e = .returned (.tuple #[.slice B (nY + 1) c, .nilIface]) ∧ EnsV w'' B c zs ∧ lE zs = X) ∧ Below w'.heap.size w' w'') := fun w' hC => by
    refine (iset_any A0 cap n D A C AE ce xs Ap cp p N w' hC.2.2.1 hC.2.2.2.1 hC.2.2.2.2.1).mono ?_
    rintro e w'' ⟨⟨B, c, zs, rfl, hV, hl⟩, hb⟩
    rw [he, pickL_in, ← hX] at hl
    have hz : zs.length = nY + 1 := by rw [← lE_len, hl, hXl]
    exact ⟨⟨B, c, zs, by rw [hz, he]; rfl, hV, hl⟩, hb⟩
  have H3 : Hid (∀ w' B c zs, CtxS w.heap.size A0 cap n D A C AE ce xs Ap cp p Aq cq r w' → EnsV w' B c zs → lE zs = X → Calls Try.prog 5 #[.agg #[.slice A0 n cap], .slice B (nY + 1) c, .slice Ap p.length cp] w' fun e w'' => e = .returned (.tuple #[.agg #[.int .i64 1, .int .i64 N], .nilIface]) ∧ Below w'.heap.size w' w'') := fun w' B c zs hC hV hl => by
    have h := iget_any A0 cap n D A C B c zs Ap cp p w' hC.2.2.1 hV hC.2.2.2.2.1
    have hz : zs.length = nY + 1 := by rw [← lE_len, hl, hXl]
    rw [hl, hX, hOk.get.1, hOk.get.2, hz] at h
    exact h
  have H4 : Hid (∀ w' B c zs, CtxS w.heap.size A0 cap n D A C AE ce xs Ap cp p Aq cq r w' → EnsV w' B c zs → lE zs = X → Calls Try.prog 7 #[.agg #[.slice A0 n cap], .slice B (nY + 1) c] w' fun e w'' => e = .returned .nilIface ∧ Below w'.heap.size w' w'') := fun w' B c zs hC hV hl => by
    have h := icheck_any A0 cap n D A C B c zs w' hC.2.2.1 hV
    have hz : zs.length = nY + 1 := by rw [← lE_len, hl, hXl]
    rw [hl, hX, hOk.now.ok, hz] at h
    exact h
  have H5 : Hid (∀ w', Calls Try.prog 6 #[.int .i64 N] w' fun e w'' => e = .returned (.agg #[.int .i64 1, .int .i64 N]) ∧ Below w'.heap.size w' w'') := fun w' => by
    have h := of_any N w'
    rw [ofP_in (by omega) (by omega)] at h
    exact h
  have H6 : Hid (∀ w', CtxS w.heap.size A0 cap n D A C AE ce xs Ap cp p Aq cq r w' → Calls Try.prog 8 #[.slice Ap p.length cp, .slice Aq r.length cq] w' fun e w'' => e = .returned (.bool (decide (p = r))) ∧ Below w'.heap.size w' w'') := fun w' hC => samepl_any Ap Aq cp cq p r w' (inO_short hOk.pl) hC.2.2.2.2.1 hC.2.2.2.2.2
  have H7 : Hid (∀ w', CtxS w.heap.size A0 cap n D A C AE ce xs Ap cp p Aq cq r w' → Calls Try.prog 5 #[.agg #[.slice A0 n cap], .slice AE xs.length ce, .slice Aq r.length cq] w' fun e w'' => e = .returned (.tuple #[.agg #[.int .i64 (getV D n (lE xs) r).1, .int .i64 (getV D n (lE xs) r).2], errV (placeErr D n r)]) ∧ Below w'.heap.size w' w'') := fun w' hC => by
    have h := iget_any A0 cap n D A C AE ce xs Aq cq r w' hC.2.2.1 hC.2.2.2.1 hC.2.2.2.2.2
    rw [(hOk.err r).1] at h
    exact h
  have H8 : Hid (∀ w' B c zs, CtxS w.heap.size A0 cap n D A C AE ce xs Ap cp p Aq cq r w' → EnsV w' B c zs → lE zs = X → Calls Try.prog 5 #[.agg #[.slice A0 n cap], .slice B (nY + 1) c, .slice Aq r.length cq] w' fun e w'' => e = .returned (.tuple #[.agg #[.int .i64 (getV D n X r).1, .int .i64 (getV D n X r).2], errV (placeErr D n r)]) ∧ Below w'.heap.size w' w'') := fun w' B c zs hC hV hl => by
    have h := iget_any A0 cap n D A C B c zs Aq cq r w' hC.2.2.1 hV hC.2.2.2.2.2
    have hz : zs.length = nY + 1 := by rw [← lE_len, hl, hXl]
    rw [hl, hz, hX, (hOk.err r).2, ← hX] at h
    exact h
  have H9 : Hid (∀ w' B c zs, CtxS w.heap.size A0 cap n D A C AE ce xs Ap cp p Aq cq r w' → EnsV w' B c zs → lE zs = X → Calls Try.prog 9 #[.agg #[.slice A0 n cap], .slice B (nY + 1) c, .slice Ap p.length cp] w' fun e w'' => (∃ B' c' ys, e = .returned (.tuple #[.slice B' nY c', .nilIface]) ∧ EnsV w'' B' c' ys ∧ lE ys = clrL X p) ∧ Below w'.heap.size w' w'') := fun w' B c zs hC hV hl => by
    have h := iclear_any A0 cap n D A C B c zs Ap cp p 0 w' hC.2.2.1 hV hC.2.2.2.2.1
    have hz : zs.length = nY + 1 := by rw [← lE_len, hl, hXl]
    rw [hl, hX, hOk.clr, hz] at h
    refine h.mono ?_
    rintro e w'' ⟨⟨B', c', ys, rfl, hV', hl'⟩, hb⟩
    rw [pickL_in] at hl'
    have hy : ys.length = nY := by rw [← lE_len, hl', hnY]
    exact ⟨⟨B', c', ys, by rw [hy]; rfl, hV', by rw [hX]; exact hl'⟩, hb⟩
  have H10 : Hid (∀ w' B c ys, CtxS w.heap.size A0 cap n D A C AE ce xs Ap cp p Aq cq r w' → EnsV w' B c ys → lE ys = clrL X p → Calls Try.prog 5 #[.agg #[.slice A0 n cap], .slice B nY c, .slice Ap p.length cp] w' fun e w'' => e = .returned (.tuple #[.agg #[.int .i64 0, .int .i64 0], .nilIface]) ∧ Below w'.heap.size w' w'') := fun w' B c ys hC hV hl => by
    have h := iget_any A0 cap n D A C B c ys Ap cp p w' hC.2.2.1 hV hC.2.2.2.2.1
    have hy : ys.length = nY := by rw [← lE_len, hl, hX, hnY]
    rw [hl, hX, hOk.gone.1, hOk.gone.2.1, hy] at h
    exact h
  have HVV : Hid (decide (p = r) = false → (getV D n X r).1 = (getV D n (lE xs) r).1 ∧ (getV D n X r).2 = (getV D n (lE xs) r).2) := fun h => by
    rw [hX, hOk.same (of_decide_eq_false h)]
    exact ⟨rfl, rfl⟩
  have hy1 : (nY : Int) ≤ 3000 := by omega
  clear hM hE hP hQ hB0 hOk he hnY hXl hX
  generalize (getV D n X r).1 = a1 at H8 HVV
  generalize (getV D n X r).2 = a2 at H8 HVV
  generalize (getV D n (lE xs) r).1 = b1 at H7 HVV
  generalize (getV D n (lE xs) r).2 = b2 at H7 HVV
  generalize placeErr D n r = F at H7 H8
  obtain ⟨nx, hnx⟩ : ∃ nx, xs.length = nx := ⟨_, rfl⟩
  obtain ⟨m, hm⟩ : ∃ m, p.length = m := ⟨_, rfl⟩
  obtain ⟨mr, hmr⟩ : ∃ mr, r.length = mr := ⟨_, rfl⟩
  rw [hnx] at H2 H7 ⊢
  rw [hm] at H2 H3 H6 H9 H10 ⊢
  rw [hmr] at H6 H7 H8 ⊢
  obtain ⟨tS, htS⟩ : ∃ t, decide (p = r) = t := ⟨_, rfl⟩
  rw [htS] at H6 HVV
  clear hnx hm hmr htS
  go_enter Try.func3, Try.ntmps3
  go_wp2_with fail
  refine h1.mono ?_
  rintro e w1 ⟨⟨B, c, zs, rfl, hV, hl⟩, hb⟩
  obtain ⟨b, o, rfl, d1, hzl⟩ := one_at hV hl
  have HX1 : Hid (CtxS w.heap.size A0 cap n D A C AE ce xs Ap cp p Aq cq r w1) := HX0.out.later hb
  have HB1 : Hid (Below w.heap.size w w1) := onB HB0.out hb
  have c1 := HX1.out.2.1
  have h2 := H2.out w1 HX1.out
  rw [hzl]
  clear hV hl hb h1 hzl HX0 HB0 zs
  go_wp2_with fail
  refine h2.mono ?_
  rintro e w2 ⟨⟨B2, k2, zs, rfl, hV, hl⟩, hb⟩
  have HX2 : Hid (CtxS w.heap.size A0 cap n D A C AE ce xs Ap cp p Aq cq r w2) := HX1.out.later hb
  have HB2 : Hid (Below w.heap.size w w2) := onB HB1.out hb
  have HV2 : Hid (EnsV w2 B2 k2 zs) := hV
  have HL : Hid (lE zs = X) := hl
  have h3 := H3.out w2 B2 k2 zs HX2.out hV hl
  clear hb h2 c1 d1 HX1 HB1 hV hl H2 H3
  have c2 := HX2.out.2.1
  go_wp2_with fail
  refine h3.mono ?_
  rintro e w3 ⟨rfl, hb⟩
  obtain ⟨v3, hv3⟩ : ∃ v3, w3.alloc (.cells #[.int .i64 1, .int .i64 N] 40) = v3 := ⟨_, rfl⟩
  have hB3 : Below w3.heap.size w3 v3 := by rw [← hv3]; go_grown
  have HX3 : Hid (CtxS w.heap.size A0 cap n D A C AE ce xs Ap cp p Aq cq r v3) := (HX2.out.later hb).later hB3
  have HB3 : Hid (Below w.heap.size w v3) := onB HB2.out (onB hb hB3)
  have HV3 : Hid (EnsV v3 B2 k2 zs) := (HV2.out.later hb).later hB3
  have HBox : Hid (w.heap.size < v3.heap.size ∧ w3.heap.size < v3.heap.size ∧ v3.cell? ⟨w.heap.size, 0, none⟩ = some (.slice A0 n cap) ∧ v3.cell? ⟨w3.heap.size, 0, none⟩ = some (.int .i64 1) ∧ v3.cell? ⟨w3.heap.size, 1, none⟩ = some (.int .i64 N)) := ⟨HX3.out.1, by rw [← hv3]; simp, HX3.out.2.1, by rw [← hv3]; simp, by rw [← hv3]; simp⟩
  have HChk : Hid (∀ w', Below v3.heap.size v3 w' → Calls Try.prog 7 #[.agg #[.slice A0 n cap], .slice B2 (nY + 1) k2] w' fun e w'' => e = .returned .nilIface ∧ Below w'.heap.size w' w'') := fun w' hw' => H4.out w' B2 k2 zs (HX3.out.later hw') (HV3.out.later hw') HL.out
  clear hb h3 c2 HX2 HB2 HV2 hB3
  go_wp2_with fail
  clear hv3
  go_cut [81] (fun s81 wx => s81 = .bool false ∧ Below v3.heap.size v3 wx)
  case first => as_aux_lemma =>
    go_region_held3 (fun w' => Below v3.heap.size v3 w' ∧ w'.cell? ⟨w.heap.size, 0, none⟩ = some (.slice A0 n cap) ∧ w'.cell? ⟨w3.heap.size, 0, none⟩ = some (.int .i64 1) ∧ w'.cell? ⟨w3.heap.size, 1, none⟩ = some (.int .i64 N))
      ((refine keepC HBox.out ?_; go_grown; done))
      (first | (go_at_call 6; refine (H5.out _).mono ?_; rintro e w4 ⟨rfl, hb4⟩; have hN4 := onB (W0 := v3) (by go_grown) hb4; have hy4 := hN4.size; clear hb4) | (go_at_call 7; refine (HChk.out _ (by go_grown)).mono ?_; rintro e w5 ⟨rfl, hb5⟩; have hN5 := onB (W0 := v3) (by go_grown) hb5; have hy5 := hN5.size; clear hb5))
    all_goals go_wp2_with fail
    all_goals go_meet
    all_goals exact ⟨rfl, by go_grown⟩
  case rest => as_aux_lemma =>
  obtain ⟨rfl, hb⟩ := hcut
  obtain ⟨w5, rfl⟩ : ∃ w5 : World, w5 = wc := ⟨_, rfl⟩
  have HX5 : Hid (CtxS w.heap.size A0 cap n D A C AE ce xs Ap cp p Aq cq r w5) := HX3.out.later hb
  have HB5 : Hid (Below w.heap.size w w5) := onB HB3.out hb
  have HV5 : Hid (EnsV w5 B2 k2 zs) := HV3.out.later hb
  have h6 := H6.out w5 HX5.out
  clear hb HX3 HB3 HV3 HBox HChk H4 H5 H6
  go_wp2_with fail
  refine h6.mono ?_
  rintro e w6 ⟨rfl, hb⟩
  have HX6 : Hid (CtxS w.heap.size A0 cap n D A C AE ce xs Ap cp p Aq cq r w6) := HX5.out.later hb
  have HB6 : Hid (Below w.heap.size w w6) := onB HB5.out hb
  have HV6 : Hid (EnsV w6 B2 k2 zs) := HV5.out.later hb
  have c6 := HX6.out.2.1
  have h7 := H7.out w6 HX6.out
  clear hb h6 HX5 HB5 HV5 H7
  go_wp2_with fail
  refine h7.mono ?_
  rintro e w7 ⟨rfl, hb⟩
  obtain ⟨v7, hv7⟩ : ∃ v7, w7.alloc (.cells #[.int .i64 b1, .int .i64 b2] 40) = v7 := ⟨_, rfl⟩
  have hB7 : Below w7.heap.size w7 v7 := by rw [← hv7]; go_grown
  have HX7 : Hid (CtxS w.heap.size A0 cap n D A C AE ce xs Ap cp p Aq cq r v7) := (HX6.out.later hb).later hB7
  have HB7 : Hid (Below w.heap.size w v7) := onB HB6.out (onB hb hB7)
  have HV7 : Hid (EnsV v7 B2 k2 zs) := (HV6.out.later hb).later hB7
  have HC7 : Hid (w7.heap.size < v7.heap.size ∧ v7.cell? ⟨w7.heap.size, 0, none⟩ = some (.int .i64 b1) ∧ v7.cell? ⟨w7.heap.size, 1, none⟩ = some (.int .i64 b2)) := ⟨by rw [← hv7]; simp, by rw [← hv7]; simp, by rw [← hv7]; simp⟩
  have c7 := HX7.out.2.1
  have h8 := H8.out v7 B2 k2 zs HX7.out HV7.out HL.out
  clear hb h7 c6 HX6 HB6 HV6 hB7 H8
  go_wp2_with fail
  clear hv7
  refine h8.mono ?_
  rintro e w8 ⟨rfl, hb⟩
  obtain ⟨v8, hv8⟩ : ∃ v8, w8.alloc (.cells #[.int .i64 a1, .int .i64 a2] 40) = v8 := ⟨_, rfl⟩
  have hB8 : Below w8.heap.size w8 v8 := by rw [← hv8]; go_grown
  have HX8 : Hid (CtxS w.heap.size A0 cap n D A C AE ce xs Ap cp p Aq cq r v8) := (HX7.out.later hb).later hB8
  have HB8 : Hid (Below w.heap.size w v8) := onB HB7.out (onB hb hB8)
  have HV8 : Hid (EnsV v8 B2 k2 zs) := (HV7.out.later hb).later hB8
  have f0 : v8.cell? ⟨w8.heap.size, 0, none⟩ = some (.int .i64 a1) := by rw [← hv8]; simp
  have f1 : v8.cell? ⟨w8.heap.size, 1, none⟩ = some (.int .i64 a2) := by rw [← hv8]; simp
  have g0 : v8.cell? ⟨w7.heap.size, 0, none⟩ = some (.int .i64 b1) := ((onB hb hB8).cell (p := ⟨w7.heap.size, 0, none⟩) HC7.out.1).trans HC7.out.2.1
  have g1 : v8.cell? ⟨w7.heap.size, 1, none⟩ = some (.int .i64 b2) := ((onB hb hB8).cell (p := ⟨w7.heap.size, 1, none⟩) HC7.out.1).trans HC7.out.2.2
  clear hb h8 c7 HX7 HB7 HV7 hB8 HC7
  go_wp2_with fail
  clear hv8
  go_cut [17, 18, 21, 112] (fun s17 s18 s21 s112 wx => s112 = .bool false ∧ Below v8.heap.size v8 wx)
  case first => as_aux_lemma =>
    cases tS
    case true =>
      by_cases hF : F = 0
      · have hv : errV F = .nilIface := by rw [hF]; rfl
        clear hF f0 f1 g0 g1
        go_quiet (fail)
        go_wp2_with fail
        go_meet
        exact ⟨rfl, below_drewN (Below.refl _ _) _⟩
      · have hv : errV F = .iface 58 (.int .i64 F) := errV_some hF
        clear hF f0 f1 g0 g1
        go_quiet (fail)
        go_wp2_with fail
        go_meet
        exact ⟨rfl, below_drewN (Below.refl _ _) _⟩
    case false =>
      obtain ⟨rfl, rfl⟩ := HVV.out rfl
      by_cases hF : F = 0
      · have hv : errV F = .nilIface := by rw [hF]; rfl
        clear hF
        go_quiet (fail)
        go_wp2_with fail
        go_meet
        exact ⟨rfl, below_drewN (Below.refl _ _) _⟩
      · have hv : errV F = .iface 58 (.int .i64 F) := errV_some hF
        clear hF
        go_quiet (fail)
        go_wp2_with fail
        go_meet
        exact ⟨rfl, below_drewN (Below.refl _ _) _⟩
  case rest => as_aux_lemma =>
  obtain ⟨rfl, hb⟩ := hcut
  obtain ⟨w9, rfl⟩ : ∃ w9 : World, w9 = wc := ⟨_, rfl⟩
  have HX9 : Hid (CtxS w.heap.size A0 cap n D A C AE ce xs Ap cp p Aq cq r w9) := HX8.out.later hb
  have HB9 : Hid (Below w.heap.size w w9) := onB HB8.out hb
  have HV9 : Hid (EnsV w9 B2 k2 zs) := HV8.out.later hb
  have c9 := HX9.out.2.1
  have h9 := H9.out w9 B2 k2 zs HX9.out HV9.out HL.out
  clear hb HX8 HB8 HV8 f0 f1 g0 g1 H9
  go_wp2_with fail
  refine h9.mono ?_
  rintro e w10 ⟨⟨B3, k3, ys, rfl, hV, hl⟩, hb⟩
  have HX10 : Hid (CtxS w.heap.size A0 cap n D A C AE ce xs Ap cp p Aq cq r w10) := HX9.out.later hb
  have HB10 : Hid (Below w.heap.size w w10) := onB HB9.out hb
  have c10 := HX10.out.2.1
  have h10 := H10.out w10 B3 k3 ys HX10.out hV hl
  clear hb h9 c9 HX9 HB9 HV9 hV hl H10
  go_wp2_with fail
  refine h10.mono ?_
  rintro e w11 ⟨rfl, hb⟩
  have HB11 : Hid (Below w.heap.size w w11) := onB HB10.out hb
  have hwr : IntKind.i64.wrap ((nY : Int) + 1 - 1) = (nY : Int) := by rw [IntKind.wrap_i64]; omega
  clear hb h10 c10 HX10 HB10
  go_wp2_with fail
  go_ret
  exact ⟨rfl, onB HB11.out (by go_grown)⟩
end Go.Proofs.Ytfngmnhkhfgmjac
