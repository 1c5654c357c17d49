/-
  Edits of entries, one by one, as the document does it: what its Edit and Edits answer, called in whatever memory.
-/
import Derived.Test.YtfngmnhkhfgmjacDoorJIBO
namespace Go.Proofs.YtfngmnhkhfgmjacDoor
open Go.ChangeShapes Go.WideShapes Go.ChangeAt Go.RowKit
set_option maxRecDepth 20000
theorem redit_any (A0 : Option Addr) (cap n : Nat) (D : Nat → Dm) (A : Nat → Option Addr) (C : Nat → Nat) (AE : Option Addr) (ce : Nat) (xs : List EnL) (Ax : Option Addr) (cx : Nat) (x : Ed) (w : World) (hM : DimsV w A0 cap n D A C) (hE : EnsN w AE ce xs) (hP : PlAt w Ax cx x.pl) (hEs : Ens D n (lE xs)) :
  Calls Tryd.prog 19 #[.agg #[.slice A0 n cap], .slice AE xs.length ce, .agg #[.slice Ax x.pl.length cx, .int .i64 x.n, .bool x.clear]] w fun e w' => REdited w (editErr D n (lE xs) x) (editV (lE xs) x) e w' := by
 obtain ⟨p, N, cl⟩ := x
 simp only at hP ⊢
 have hB0 := ownOX_below w A0 n cap Ax p.length cx N cl
 have hX : EditCalls (ownOX w A0 n cap Ax p.length cx N cl) A0 cap n AE xs.length ce Ax p.length cx (shapeErr D n p) (cntE (lE xs) p) (hasE (lE xs) p) (leafV D n p) := by
  refine ⟨fun w' hw' => ?_, fun hs w' hw' => ?_, fun hs w' hw' => ?_⟩
  ·exact rplace_any A0 cap n D A C Ax cx p w' hEs.right ((hM.later hB0).later hw') ((hP.later hB0).later hw')
  ·exact rfind_any AE ce xs Ax cx p w' (few_of hEs) ((hE.1.later hB0).later hw') (short_of hEs (inO_of (by rw [pe1 hEs.right]; exact hs))) ((hP.later hB0).later hw')
  ·exact rleafplace_any A0 cap n D A C Ax cx p w' (inO_of (by rw [pe1 hEs.right]; exact hs)) ((hM.later hB0).later hw') ((hP.later hB0).later hw')
 have hEE : editErr D n (lE xs) ⟨p, N, cl⟩ = if shapeErr D n p ≠ 0 then shapeErr D n p else if cl = true then (if hasE (lE xs) p = true then 0 else 5) else if leafV D n p = false then 6 else if numOk N = false then 1 else 0 := rfl
 by_cases h0 : editErr D n (lE xs) ⟨p, N, cl⟩ = 0
 ·have hs : shapeErr D n p = 0 := by
   rw [hEE] at h0
   split at h0
   ·rename_i h1; exact absurd h0 h1
   ·rename_i h1; simpa using h1
  rw [hs] at hX hEE
  rw [if_neg (by simp)] at hEE
  rw [h0] at hEE
  unfold REdited
  rw [h0, pickL_in]
  have hcl := cnt_le (lE xs) p
  rw [lE_len] at hcl
  have good : ∀ b o j, AE = some ⟨b, o, none⟩ → j ≤ xs.length → cntE (lE xs) p ≤ j ∧ j ≤ cntE (lE xs) p + 1 → EditGood w b o ce xs Ax cx p (cntE (lE xs) p) j := fun b o j hA hj hij => by
   refine ⟨fun w' hw' k u hk => ?_, fun y hy => ?_, hP, few_of hEs, hE.1.1, hE.1.2.1, hcl, hj, hij⟩
   ·obtain ⟨-, -, rfl | ⟨b', o', hA', hL⟩⟩ := hE.1.later hw'
    ·cases hk
    ·rw [hA] at hA'
     cases hA'
     exact hL.2.1 k u hk
   ·obtain ⟨-, -, rfl | ⟨b', o', hA', hL⟩⟩ := hE.1
    ·cases hy
    ·exact hL.2.2 y hy
  cases cl
  ·rw [if_neg (by simp)] at hEE
   have hlf : leafV D n p = true := by
    cases h1 : leafV D n p
    ·rw [h1, if_pos rfl] at hEE; cases hEE
    ·rfl
   rw [hlf, if_neg (by simp)] at hEE
   have hnum : numOk N = true := by
    cases h1 : numOk N
    ·rw [h1, if_pos rfl] at hEE; cases hEE
    ·rfl
   have hlh : -1000000 ≤ N ∧ N ≤ 1000000 := by simpa [numOk] using hnum
   show Calls _ _ _ _ fun e w' => (∃ B c zs, _ ∧ _ ∧ lE zs = setL (lE xs) p N) ∧ _
   unfold setL
   by_cases hx : xs = []
   ·subst hx
    have hc0 : cntE (lE []) p = 0 := rfl
    have hh0 : hasE (lE []) p = false := rfl
    rw [hc0, hh0] at hX
    simp only [List.length_nil] at hX ⊢
    show Calls _ _ _ _ fun e w' => (∃ B c zs, _ ∧ _ ∧ lE zs = [⟨p, N⟩]) ∧ _
    cases AE with
    | none =>
     have hce := hE.2 rfl
     subst hce
     exact redit_nil A0 cap n Ax p.length cx p N _ w rfl hP hX hlf (by omega) (by omega)
    | some a =>
     obtain ⟨b, o, sp⟩ := a
     exact redit_some A0 cap n b o sp ce Ax p.length cx p N _ w rfl hP hX hlf (by omega) (by omega)
   ·obtain ⟨b, o, hA⟩ : ∃ b o, AE = some ⟨b, o, none⟩ := by
     obtain ⟨-, -, h1 | ⟨b, o, h1, -⟩⟩ := hE.1
     ·exact absurd h1 hx
     ·exact ⟨b, o, h1⟩
    cases hh : hasE (lE xs) p
    ·rw [hh, hA] at hX
     rw [hA, if_neg (by simp), Nat.add_zero]
     exact redit_new A0 cap n b o ce xs Ax p.length cx p N _ _ w rfl hX hlf (by omega) (by omega) (good b o _ hA hcl ⟨Nat.le_refl _, by omega⟩)
    ·have hlt := clr_in hh
     rw [lE_len] at hlt
     rw [hh, hA] at hX
     rw [hA, if_pos rfl]
     exact redit_old A0 cap n b o ce xs Ax p.length cx p N _ _ w rfl hX hlf (by omega) (by omega) (good b o _ hA hlt ⟨by omega, Nat.le_refl _⟩)
  ·rw [if_pos rfl] at hEE
   have hh : hasE (lE xs) p = true := by
    cases h1 : hasE (lE xs) p
    ·rw [h1, if_neg (by simp)] at hEE; cases hEE
    ·rfl
   have hlt := clr_in hh
   rw [lE_len] at hlt
   obtain ⟨b, o, hA⟩ : ∃ b o, AE = some ⟨b, o, none⟩ := by
    obtain ⟨-, -, h1 | ⟨b, o, h1, -⟩⟩ := hE.1
    ·rw [h1] at hlt; simp at hlt
    ·exact ⟨b, o, h1⟩
   rw [hh, hA] at hX
   rw [hA]
   show Calls _ _ _ _ fun e w' => (∃ B c zs, _ ∧ _ ∧ lE zs = clrL (lE xs) p) ∧ _
   unfold clrL
   exact redit_clr A0 cap n b o ce xs Ax p.length cx p N _ _ w rfl hX (good b o _ hA hlt ⟨by omega, Nat.le_refl _⟩)
 ·have h := redit_bad A0 cap n AE xs.length ce Ax p.length cx N cl _ _ _ _ _ w hX hEE h0
  refine h.mono ?_
  rintro e w' ⟨rfl, hb⟩
  exact ⟨⟨none, 0, [], rfl, ⟨EnsV.nil _ _ _ (by decide), fun _ => rfl⟩, by rw [pickL_bad h0]; rfl⟩, hb⟩
theorem keepX {W w' : World} {q b o : Nat} {u v y z : Value} (h : q < W.heap.size ∧ b < W.heap.size ∧ W.cell? ⟨q, 0, none⟩ = some u ∧ W.cell? ⟨b, o, none⟩ = some v ∧ W.cell? ⟨b, o + 1, none⟩ = some y ∧ W.cell? ⟨b, o + 2, none⟩ = some z) (hB : Below W.heap.size W w') : Below W.heap.size W w' ∧ w'.cell? ⟨q, 0, none⟩ = some u ∧ w'.cell? ⟨b, o, none⟩ = some v ∧ w'.cell? ⟨b, o + 1, none⟩ = some y ∧ w'.cell? ⟨b, o + 2, none⟩ = some z :=
 ⟨hB, (hB.cell (p := ⟨q, 0, none⟩) h.1).trans h.2.2.1, (hB.cell (p := ⟨b, o, none⟩) h.2.1).trans h.2.2.2.1, (hB.cell (p := ⟨b, o + 1, none⟩) h.2.1).trans h.2.2.2.2.1, (hB.cell (p := ⟨b, o + 2, none⟩) h.2.1).trans h.2.2.2.2.2⟩
def Answer3i (w : World) (v : List En × Int × Int) (e : Ending) (w' : World) : Prop := (∃ B c zs, e = .returned (.tuple #[.slice B zs.length c, .int .i64 v.2.1, .int .i64 v.2.2]) ∧ EnsV w' B c zs ∧ lE zs = v.1) ∧ Below w.heap.size w w'
def Answer3j (w : World) (v : List En × Int × Int) (e : Ending) (w' : World) : Prop := (∃ B c zs, e = .returned (.tuple #[.slice B zs.length c, .int .i64 v.2.1, .int .i64 v.2.2]) ∧ EnsN w' B c zs ∧ lE zs = v.1) ∧ Below w.heap.size w w'
set_option maxHeartbeats 8000000 in
theorem redits_n (A0 : Option Addr) (cap n : Nat) (D : Nat → Dm) (A : Nat → Option Addr) (C : Nat → Nat) (AE : Option Addr) (ce : Nat) (xs : List EnL) (AX : Option Addr) (cx : Nat) (ys : List EdL) (w : World) (hM : DimsV w A0 cap n D A C) (hE : EnsN w AE ce xs) (hX : EdsV w AX cx ys) :
  Calls Tryd.prog 23 #[.agg #[.slice A0 n cap], .slice AE xs.length ce, .slice AX ys.length cx] w fun e w' => Answer3j w (editsV D n (lE xs) (lD ys)) e w' := by
 have hB0 := ownOut_below w A0 n cap 24
 have HB0 : Hid (Below w.heap.size w (ownOut w A0 n cap 24)) := hB0
 unfold Answer3j
 by_cases h60 : 60 < ys.length
 ·have HV : Hid (editsV D n (lE xs) (lD ys) = ([], 0, 4)) := editsV_full _ h60
  have h60' : 60 < (ys.length : Int) := by omega
  generalize editsV D n (lE xs) (lD ys) = V at HV
  generalize xs.length = nx
  generalize ys.length = ny at h60 h60'
  clear hM hE hX hB0
  go_enter Tryd.func23, Tryd.ntmps23
  go_wp2_with fail
  go_ret3
  rw [HV.out]
  exact ⟨⟨none, 0, [], rfl, ⟨EnsV.nil _ _ _ (by decide), fun _ => rfl⟩, rfl⟩, HB0.out⟩
 have h := rentries_any A0 cap n D A C AE ce xs (ownOut w A0 n cap 24) (hM.later hB0) (hE.1.later hB0)
 have h60' : (ys.length : Int) ≤ 60 := by omega
 by_cases he : entsErr D n (lE xs) = 0
 ·have hEs := ens_of he
  have HV : Hid (editsV D n (lE xs) (lD ys) = editsFrom D n (lE xs) 0 ((lD ys).drop 0)) := editsV_in h60 he
  have HM : Hid (DimsV w A0 cap n D A C) := hM
  have HX : Hid (EdsV w AX cx ys) := hX
  have HE : Hid (EnsN w AE ce xs) := hE
  have HEs : Hid (Ens D n (lE xs)) := hEs
  rw [he] at h
  generalize editsV D n (lE xs) (lD ys) = V at HV
  obtain ⟨ny, hny⟩ : ∃ ny, ys.length = ny := ⟨_, rfl⟩
  have HNY : Hid (ys.length = ny) := hny
  rw [hny] at h60' ⊢
  clear he hEs hM hE hX hB0 h60 hny
  go_enter Tryd.func23, Tryd.ntmps23
  go_wp2_with fail
  refine h.mono ?_
  rintro e w1 ⟨rfl, hb1⟩
  have hB1 : Below w.heap.size w w1 := onB HB0.out hb1
  have HB1 : Hid (Below w.heap.size w w1) := hB1
  have c1 : w1.cell? ⟨w.heap.size, 0, none⟩ = some (.slice A0 n cap) := (hb1.cell (p := ⟨w.heap.size, 0, none⟩) (by show w.heap.size < _; rw [ownOut_size]; omega)).trans (ownOut_at ..)
  have hz1 : w.heap.size < w1.heap.size := by have := hb1.size; rw [ownOut_size] at this; omega
  have HM1 : Hid (DimsV w1 A0 cap n D A C) := HM.out.later hB1
  have HX1 : Hid (EdsV w1 AX cx ys) := HX.out.later hB1
  have HE1 : Hid (EnsN w1 AE ce xs) := HE.out.later hB1
  clear hb1 h hB1 HM HX HE HB0
  go_wp2_with fail
  go_loopg [1, 10] ny (fun gm s1 s10 wr => ∃ (k : Nat) (B : Option Addr) (c : Nat) (zs : List EnL), k ≤ ny ∧ gm = ny - k ∧ s10 = .int .i64 k ∧ s1 = .slice B zs.length c ∧ Hid (EnsN wr B c zs ∧ Ens D n (lE zs)) ∧ Hid (editsFrom D n (lE zs) k ((lD ys).drop k) = editsFrom D n (lE xs) 0 ((lD ys).drop 0)) ∧ Below w1.heap.size w1 wr)
  case atStart => exact ⟨0, AE, ce, xs, Nat.zero_le _, rfl, rfl, rfl, ⟨HE1.out, HEs.out⟩, (rfl : editsFrom D n (lE xs) 0 ((lD ys).drop 0) = editsFrom D n (lE xs) 0 ((lD ys).drop 0)), Below.refl _ _⟩
  case round =>
   obtain ⟨k, B, c, zs, hk, rfl, rfl, rfl, HRw, HF, hBw⟩ := hrel
   have HBw : Hid (Below w1.heap.size w1 wr) := hBw
   by_cases hlt : k < ny
   ·have hkx : k < ys.length := by rw [HNY.out]; exact hlt
    have hki : (k : Int) < (ny : Int) := by omega
    obtain ⟨-, -, h0 | ⟨b, o, rfl, hXs⟩⟩ := HX1.out.later hBw
    ·have := HNY.out; rw [h0] at this; simp at this; omega
    obtain ⟨d0, d1, d2, hpl⟩ := hXs.2 k hkx
    have c0 : wr.cell? ⟨w.heap.size, 0, none⟩ = some (.slice A0 n cap) := (hBw.cell (p := ⟨w.heap.size, 0, none⟩) hz1).trans c1
    have hzr : w.heap.size < wr.heap.size := Nat.lt_of_lt_of_le hz1 hBw.size
    have HMr : Hid (DimsV wr A0 cap n D A C) := HM1.out.later hBw
    have HEd : Hid (∀ w', Below wr.heap.size wr w' → Calls Tryd.prog 19 #[.agg #[.slice A0 n cap], .slice B zs.length c, .agg #[.slice (ys.getD k noD).A (ys.getD k noD).x.pl.length (ys.getD k noD).c, .int .i64 (ys.getD k noD).x.n, .bool (ys.getD k noD).x.clear]] w' fun e w'' => (∃ B' c' zs', e = .returned (.tuple #[.slice B' zs'.length c', .int .i64 (editErr D n (lE zs) (ys.getD k noD).x)]) ∧ EnsN w'' B' c' zs' ∧ lE zs' = pickL (editErr D n (lE zs) (ys.getD k noD).x) (editV (lE zs) (ys.getD k noD).x)) ∧ Below w'.heap.size w' w'') := fun w' hw' => redit_any A0 cap n D A C B c zs _ _ _ w' (HMr.out.later hw') (HRw.out.1.later hw') (hpl.later hw') HRw.out.2
    have HST : Hid (editErr D n (lE zs) (ys.getD k noD).x = 0 → editsFrom D n (editV (lE zs) (ys.getD k noD).x) (k + 1) ((lD ys).drop (k + 1)) = editsFrom D n (lE xs) 0 ((lD ys).drop 0) ∧ Ens D n (editV (lE zs) (ys.getD k noD).x)) := fun h0 => ⟨by rw [← edits_on hkx h0]; exact HF.out, (HRw.out.2.edit h0).2⟩
    have HBd : Hid (editErr D n (lE zs) (ys.getD k noD).x ≠ 0 → V = ([], (k : Int), editErr D n (lE zs) (ys.getD k noD).x)) := fun h0 => by rw [HV.out, ← HF.out, edits_bad hkx h0]
    generalize editErr D n (lE zs) (ys.getD k noD).x = E at HEd HST HBd
    generalize editV (lE zs) (ys.getD k noD).x = l2 at HEd HST
    generalize (ys.getD k noD).A = A1 at d0 HEd
    generalize (ys.getD k noD).c = k1 at d0 HEd
    generalize (ys.getD k noD).x.n = n1 at d1 HEd
    generalize (ys.getD k noD).x.clear = q1 at d2 HEd
    generalize (ys.getD k noD).x.pl.length = m1 at d0 HEd
    obtain ⟨nz, hnz⟩ : ∃ nz, zs.length = nz := ⟨_, rfl⟩
    rw [hnz] at HEd ⊢
    have hbb := hXs.1
    have HC : Hid (w.heap.size < wr.heap.size ∧ b < wr.heap.size ∧ wr.cell? ⟨w.heap.size, 0, none⟩ = some (.slice A0 n cap) ∧ wr.cell? ⟨b, o + k * 3, none⟩ = some (.slice A1 m1 k1) ∧ wr.cell? ⟨b, o + k * 3 + 1, none⟩ = some (.int .i64 n1) ∧ wr.cell? ⟨b, o + k * 3 + 2, none⟩ = some (.bool q1)) := ⟨hzr, hbb, c0, d0, d1, d2⟩
    clear hXs hpl hBw hnz c0 d0 d1 d2
    go_wp2_with fail
    go_cut [11, 12] (fun s11 s12 wx => ∃ B' c' zs', s11 = .slice B' zs'.length c' ∧ s12 = .int .i64 E ∧ Hid (EnsN wx B' c' zs' ∧ lE zs' = pickL E l2) ∧ Below wr.heap.size wr wx)
    case first => as_aux_lemma =>
     go_region_held3 (fun w' => Below wr.heap.size wr w' ∧ w'.cell? ⟨w.heap.size, 0, none⟩ = some (.slice A0 n cap) ∧ w'.cell? ⟨b, o + k * 3, none⟩ = some (.slice A1 m1 k1) ∧ w'.cell? ⟨b, o + k * 3 + 1, none⟩ = some (.int .i64 n1) ∧ w'.cell? ⟨b, o + k * 3 + 2, none⟩ = some (.bool q1))
      ((refine keepX HC.out ?_; go_grown; done))
      (first | (go_at_call 19; refine (HEd.out _ (by go_grown)).mono ?_; rintro e w3 ⟨⟨B', c', zs', rfl, hV', hl'⟩, hb3⟩; have hN3 := onB (W0 := wr) (by go_grown) hb3; have hy3 := hN3.size; have HV' : Hid (EnsN w3 B' c' zs' ∧ lE zs' = pickL E l2) := ⟨hV', hl'⟩; clear hb3 hV' hl'))
     all_goals go_wp2_with fail
     all_goals go_meet
     all_goals exact ⟨B', c', zs', rfl, rfl, HV', by go_grown⟩
    case rest => as_aux_lemma =>
    obtain ⟨B', c', zs', rfl, rfl, HV', hb⟩ := hcut
    obtain ⟨w2, rfl⟩ : ∃ w2 : World, w2 = wc := ⟨_, rfl⟩
    have HB2 : Hid (Below w1.heap.size w1 w2) := onB HBw.out hb
    clear hb HC HEd
    by_cases h0 : E = 0
    ·have HN2 : Hid (EnsN w2 B' c' zs' ∧ Ens D n (lE zs')) := ⟨HV'.out.1, by rw [HV'.out.2, h0, pickL_in]; exact (HST.out h0).2⟩
     have HF2 : Hid (editsFrom D n (lE zs') (k + 1) ((lD ys).drop (k + 1)) = editsFrom D n (lE xs) 0 ((lD ys).drop 0)) := by show _ = _; rw [HV'.out.2, h0, pickL_in]; exact (HST.out h0).1
     subst h0
     clear HST HBd HV'
     go_wp2_with fail
     go_roundg (ny - (k + 1))
     case measure => omega
     case rel => exact ⟨k + 1, B', c', zs', by omega, rfl, by go_num, rfl, HN2, HF2, HB2.out⟩
    ·have HFin : Hid (V = ([], (k : Int), E)) := HBd.out h0
     have h0' : (E != 0) = true := by simpa using h0
     clear HST HBd HV' h0
     go_wp2_with fail
     go_ret3
     rw [HFin.out]
     exact ⟨⟨none, 0, [], rfl, ⟨EnsV.nil _ _ _ (by decide), fun _ => rfl⟩, rfl⟩, onB HB1.out HB2.out⟩
   ·have hke : k = ny := by omega
    subst hke
    have HFin : Hid (V = (lE zs, 0, 0)) := by show _ = _; rw [HV.out, ← HF.out, edits_end (by rw [HNY.out]; exact Nat.le_refl _)]
    clear hBw
    go_wp2_with fail
    go_ret3
    rw [HFin.out]
    exact ⟨⟨_, _, zs, rfl, HRw.out.1, rfl⟩, onB HB1.out HBw.out⟩
 ·have HV : Hid (editsV D n (lE xs) (lD ys) = ([], 0, entsErr D n (lE xs))) := editsV_bad h60 he
  have he' : (entsErr D n (lE xs) != 0) = true := by simpa using he
  generalize editsV D n (lE xs) (lD ys) = V at HV
  generalize entsErr D n (lE xs) = E at h HV he he'
  generalize xs.length = nx at h
  generalize ys.length = ny at h60 h60'
  clear hM hE hX hB0 h60 he
  go_enter Tryd.func23, Tryd.ntmps23
  go_wp2_with fail
  refine h.mono ?_
  rintro e w1 ⟨rfl, hb1⟩
  have HB1 : Hid (Below w.heap.size w w1) := onB HB0.out hb1
  clear hb1
  go_wp2_with fail
  go_ret3
  rw [HV.out]
  exact ⟨⟨none, 0, [], rfl, ⟨EnsV.nil _ _ _ (by decide), fun _ => rfl⟩, rfl⟩, HB1.out⟩
theorem redits_any (A0 : Option Addr) (cap n : Nat) (D : Nat → Dm) (A : Nat → Option Addr) (C : Nat → Nat) (AE : Option Addr) (ce : Nat) (xs : List EnL) (AX : Option Addr) (cx : Nat) (ys : List EdL) (w : World) (hM : DimsV w A0 cap n D A C) (hE : EnsN w AE ce xs) (hX : EdsV w AX cx ys) :
  Calls Tryd.prog 23 #[.agg #[.slice A0 n cap], .slice AE xs.length ce, .slice AX ys.length cx] w fun e w' => Answer3i w (editsV D n (lE xs) (lD ys)) e w' :=
 (redits_n A0 cap n D A C AE ce xs AX cx ys w hM hE hX).mono fun _ _ ⟨⟨B, c, zs, h1, h2, h3⟩, h4⟩ => ⟨⟨B, c, zs, h1, h2.1, h3⟩, h4⟩
end Go.Proofs.YtfngmnhkhfgmjacDoor
