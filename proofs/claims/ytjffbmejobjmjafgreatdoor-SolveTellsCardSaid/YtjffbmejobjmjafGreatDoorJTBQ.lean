/-
 What the document's own AllTold answers, in whatever memory: of each place, by number, the numbers of the places that it needs.
 What the document's own tell answers at a place that no rule tells: the input there.
 Cells folded by a dim, as the document reckons it: what its Fold answers, called in whatever memory: the same as the program's.
 The boxes of the document's own tell, and the number of a place with another member in a dim.
 Whoever waits needs one that waits: then nobody waits. And what is told of places whose needs are told.
-/
import Derived.Test.YtjffbmejobjmjafGreatDoorJTBO
import Derived.Test.YtjffbmejobjmjafGreatDoorJTAY
import Derived.Test.YtjffbmejobjmjafGreatDoorJTBN
import Derived.Test.YtjffbmejobjmjafGreatDoorJTBP
namespace Go.Proofs.YtjffbmejobjmjafGreatDoor
open Go.ChangeShapes Go.WideShapes Go.ChangeAt Go.RowKit
set_option maxRecDepth 20000

set_option maxHeartbeats 8000000 in
theorem salltold_any (A0 : Option Addr) (cap n : Nat) (D : Nat → Dm) (A : Nat → Option Addr) (C : Nat → Nat) (w : World) (hR : AllR D n) (hE : (allErr D n).2.2 = 0) (hM : DimsV w A0 cap n D A C) :
  Calls Tryz.prog 27 #[.agg #[.slice A0 n cap]] w fun e w' => (∃ A' c' xs, e = .returned (.slice A' (prodN D n) c') ∧ xs.length = prodN D n ∧ RowsV w' A' c' xs ∧ ∀ i, i < prodN D n → ToldP D n (placeL D n i) (xs.getD i noR).p) ∧ Below w.heap.size w w' := by
 obtain ⟨i0, hi0, hz0, hz1, hz2⟩ := info_parts Tryz.infoRow
 obtain ⟨hn1, hn4, hp3, hd⟩ := allErr_some hE
 have hB0 := ownOut_below w A0 n cap 42
 have hS := ownOut_size w A0 n cap 42
 have hA := ownOut_at w A0 n cap 42
 obtain ⟨W, hW⟩ : ∃ W, ownOut w A0 n cap 42 = W := ⟨_, rfl⟩
 rw [hW] at hB0 hS hA
 unfold ownOut at hW
 have HB0 : Hid (Below w.heap.size w W) := hB0
 have HM : Hid (DimsV w A0 cap n D A C) := hM
 have HA : Hid (W.cell? ⟨w.heap.size, 0, none⟩ = some (.slice A0 n cap)) := hA
 have HR : Hid (AllR D n) := hR
 have HE : Hid ((allErr D n).2.2 = 0) := hE
 have hsz : w.heap.size < W.heap.size := by omega
 have hnI : (n : Int) ≤ 4 := by omega
 have hmb := smembers_any A0 cap n D A C W hn4 hR (hM.later hB0)
 have HSz : Hid (∀ w', Below W.heap.size W w' → Calls Tryz.prog 52 #[.agg #[.slice A0 n cap]] w' fun e w'' => e = .returned (.int .i64 (prodN D n)) ∧ Below w'.heap.size w' w'') := fun w' hB => by
  obtain ⟨hcap, h0 | ⟨b, o, rfl, hMs⟩⟩ := HM.out.later (onB HB0.out hB)
  ·omega
  exact osize_any b o n cap D A C w' hn4 (fun j hj => (hd j hj).2) hMs
 obtain ⟨PN, hPN⟩ : ∃ PN, prodN D n = PN := ⟨_, rfl⟩
 have HPN : Hid (prodN D n = PN) := hPN
 rw [hPN] at HSz hp3 ⊢
 have hPI : (PN : Int) ≤ 3000 := by omega
 clear hM hB0 hR hS hE hd hPN
 go_enter Tryz.func27, Tryz.ntmps27
 go_wp2_with fail
 refine hmb.mono ?_
 rintro e w1 ⟨⟨AN, cN, ys, rfl, hyl, hY, hyn⟩, hb1⟩
 have HB1 : Hid (Below W.heap.size W w1) := hb1
 have HYl : Hid (ys.length = n) := hyl
 have HY : Hid (Rows2V w1 AN cN ys) := hY
 have HYn : Hid (∀ i, i < n → lR (ys.getD i noR2).xs = ndL (D i)) := hyn
 have cw1 : w1.cell? ⟨w.heap.size, 0, none⟩ = some (.slice A0 n cap) := (hb1.cell (p := ⟨w.heap.size, 0, none⟩) hsz).trans HA.out
 have hsz1 : w.heap.size < w1.heap.size := Nat.lt_of_lt_of_le hsz hb1.size
 have hszc := HSz.out w1 hb1
 clear hb1 hyl hY hyn hmb hW hA
 go_wp2_with fail
 refine hszc.mono ?_
 rintro e w2 ⟨rfl, hb2⟩
 have HB2 : Hid (Below w1.heap.size w1 w2) := hb2
 have HA2 : Hid (w2.cell? ⟨w.heap.size, 0, none⟩ = some (.slice A0 n cap)) := (hb2.cell (p := ⟨w.heap.size, 0, none⟩) hsz1).trans cw1
 have hsz2 : w.heap.size < w2.heap.size := Nat.lt_of_lt_of_le hsz1 hb2.size
 clear hb2 hszc cw1
 go_wp2_with fail
 go_loopg [4, 6] PN (fun g s4 s6 wr => ∃ (k : Nat) (xs : List RL), k ≤ PN ∧ g = PN - k ∧ s6 = .int .i64 k ∧ Hid (xs.length = k ∧ (∀ i, i < k → ToldP D n (placeL D n i) (xs.getD i noR).p) ∧ ∀ x ∈ xs, IntT wr x.A x.c x.p) ∧ wr.ownsRow w2.heap.size 27 1 s4 k (cellsR xs) ∧ Below w2.heap.size w2 wr)
 case atStart => exact ⟨0, [], Nat.zero_le _, rfl, rfl, (⟨rfl, fun i hi => absurd hi (Nat.not_lt_zero _), fun x hx => by cases hx⟩ : _ ∧ _ ∧ _), World.ownsRow_nil _ _ _ _, Below.refl _ _⟩
 case round =>
  obtain ⟨k, xs, hk, rfl, rfl, HX, hO, hBw⟩ := hrel
  have HO : Hid (wr.ownsRow w2.heap.size 27 1 u4 k (cellsR xs)) := hO
  have HBw : Hid (Below w2.heap.size w2 wr) := hBw
  have cw : wr.cell? ⟨w.heap.size, 0, none⟩ = some (.slice A0 n cap) := (hBw.cell (p := ⟨w.heap.size, 0, none⟩) hsz2).trans HA2.out
  have hszr : w.heap.size < wr.heap.size := Nat.lt_of_lt_of_le hsz2 hBw.size
  by_cases hlt : k < PN
  ·have hki : (k : Int) < (PN : Int) := by omega
   have HBa : Hid (Below w.heap.size w wr) := onB HB0.out (onB HB1.out (onB HB2.out hBw))
   have HIk : Hid (InO D n (placeL D n k)) := placeL_in HE.out
   have hpl := placeL_len D n k
   have HAt : Hid (∀ w', Below wr.heap.size wr w' → Calls Tryz.prog 29 #[.agg #[.slice A0 n cap], .int .i64 k] w' fun e w'' => (∃ A' c', e = .returned (.slice A' n c') ∧ PlAt w'' A' c' (placeL D n k)) ∧ Below w'.heap.size w' w'') := fun w' hB => by
    have h := rat_any A0 cap n D A C k w' HE.out (by rw [HPN.out]; exact hlt) (HM.out.later (onB HBa.out hB))
    rw [hpl] at h
    exact h
   have HTo : Hid (∀ A' c' w', Below wr.heap.size wr w' → PlAt w' A' c' (placeL D n k) → Calls Tryz.prog 53 #[.agg #[.slice A0 n cap], .slice AN n cN, .slice A' n c'] w' fun e w'' => (∃ A' c' T, e = .returned (.slice A' T.length c') ∧ RiseV w'' A' c' T ∧ ToldP D n (placeL D n k) T) ∧ Below w'.heap.size w' w'') := fun A' c' w' hB hP' => by
    have h := stold_any A0 cap n D A C AN cN ys A' c' (placeL D n k) w' HR.out HIk.out (HM.out.later (onB HBa.out hB)) HYl.out (HY.out.later (onB HB2.out (onB HBw.out hB))) HYn.out hP'
    rw [hpl] at h
    exact h
   have HCw : Hid (∀ w', Below wr.heap.size wr w' → w'.cell? ⟨w.heap.size, 0, none⟩ = some (.slice A0 n cap) ∧ w.heap.size < w'.heap.size) := fun w' hB => ⟨(hB.cell (p := ⟨w.heap.size, 0, none⟩) hszr).trans cw, Nat.lt_of_lt_of_le hszr hB.size⟩
   clear hBw hO hpl
   obtain ⟨q, hq⟩ : ∃ q, placeL D n k = q := ⟨_, rfl⟩
   have HQ : Hid (placeL D n k = q) := hq
   rw [hq] at HAt HTo
   clear hq
   go_upto_region 7 with fail
   go_cut [7] from 12 to 26 (fun s7 wx => ∃ A' c' T, s7 = .slice A' T.length c' ∧ RiseV wx A' c' T ∧ ToldP D n q T ∧ Below wr.heap.size wr wx)
   case first =>
    go_region_law ((first
     | (go_simp; refine (HAt.out _ (by go_grown)).mono ?_; rintro e w3 ⟨⟨A3, c3, rfl, hP3⟩, hb3⟩; have hN3 := onB (W0 := wr) (by go_grown) hb3; obtain ⟨cw3, hw3⟩ := HCw.out _ hN3; clear hb3)
     | (go_simp; refine (HTo.out _ _ _ (by go_grown) (by first | exact hP3 | exact hP3.later (by go_grown))).mono ?_; rintro e w4 ⟨⟨A4, c4, T4, rfl, hR4, hT4⟩, hb4⟩; have hN4 := onB (W0 := wr) (by go_grown) hb4; obtain ⟨cw4, hw4⟩ := HCw.out _ hN4; have HR4 := hid_of hR4; have HT4 := hid_of hT4; have HN4 := hid_of hN4; clear hb4)))
    all_goals clear hP3 hR4 hT4 hN3 hN4
    all_goals go_wp2_with fail
    all_goals go_meet
    all_goals first
     | exact ⟨A4, c4, T4, rfl, HR4.out, HT4.out, HN4.out⟩
     | exact ⟨A4, c4, T4, rfl, HR4.out.later (below_drewN (Below.refl _ _) _), HT4.out, below_drewN HN4.out _⟩
   case rest =>
    obtain ⟨A7, c7, T, rfl, hR7, hT7, hb7⟩ := hcut
    obtain ⟨wx, rfl⟩ : ∃ wx : World, wx = wc := ⟨_, rfl⟩
    have HB7 : Hid (Below w2.heap.size w2 wx) := onB HBw.out hb7
    have HO7 : Hid (wx.ownsRow w2.heap.size 27 1 u4 k (cellsR xs)) := own_later HO.out hb7
    have HX7 : Hid (∀ x ∈ xs, IntT wx x.A x.c x.p) := fun x hx => (HX.out.2.2 x hx).later hb7
    have HR7 : Hid (IntT wx A7 c7 T) := hR7.intT
    have HT7 : Hid (ToldP D n q T) := hT7
    have hs7 := HB7.out.size
    obtain ⟨tl, htl⟩ : ∃ tl, T.length = tl := ⟨_, rfl⟩
    have HTl : Hid (T.length = tl) := htl
    rw [htl]
    clear hb7 hR7 hT7 htl
    go_wp2_with (at_builtin; refine wpList_append_own _ rfl _ _ 61 rfl w2.heap.size 27 i0 (.slice none 0 0) 1 24 Tryz.underlying61 hi0 hz0 hz1 hz2 rfl (by decide) _ _ _ rfl (HO7.out.alloc _) ⟨wx.heap.size, 0, none⟩ 1 1 [.slice A7 tl c7] rfl rfl one_cell (by intro u hu; simp at hu; subst hu; rfl) (by unfold maxLen; omega) (by omega) (by simp; omega) ?_)
    intro v' w5 hown' hgrow _
    have HB5 : Hid (Below w2.heap.size w2 w5) := grown_own HB7.out HO7.out hgrow
    have HX5 : Hid ((xs ++ [(⟨T, A7, c7⟩ : RL)]).length = k + 1 ∧ (∀ i, i < k + 1 → ToldP D n (placeL D n i) ((xs ++ [(⟨T, A7, c7⟩ : RL)]).getD i noR).p) ∧ ∀ x ∈ xs ++ [(⟨T, A7, c7⟩ : RL)], IntT w5 x.A x.c x.p) := by
     have hlen := HX.out.1
     refine ⟨by rw [List.length_append, hlen]; rfl, fun i hi => ?_, fun x hx => ?_⟩
     ·by_cases e : i = k
      ·rw [e, List.getD_eq_getElem?_getD, List.getElem?_append_right (by omega), hlen, Nat.sub_self, HQ.out]
       exact HT7.out
      ·rw [List.getD_eq_getElem?_getD, List.getElem?_append_left (by omega), ← List.getD_eq_getElem?_getD]
       exact HX.out.2.1 i (by omega)
     ·rcases List.mem_append.1 hx with hx | hx
      ·exact ((HX7.out x hx).later (by go_grown)).row (HO7.out.alloc _) hgrow
      ·rw [List.mem_singleton.1 hx]
       exact (HR7.out.later (by go_grown)).row (HO7.out.alloc _) hgrow
    have HO5 : Hid (w5.ownsRow w2.heap.size 27 1 v' (k + 1) (cellsR (xs ++ [(⟨T, A7, c7⟩ : RL)]))) := by
     show World.ownsRow ..
     rw [cellsR_append]
     have e : cellsR [(⟨T, A7, c7⟩ : RL)] = [.slice A7 tl c7] := by simp [cellsR, HTl.out]
     rw [e]
     exact hown'
    clear hown' hgrow
    go_wp2_with fail
    go_roundg (PN - (k + 1))
    case measure => omega
    case rel => exact ⟨k + 1, _, by omega, rfl, by go_num, HX5, HO5.out, HB5.out⟩
  ·have hke : k = PN := by omega
   subst hke
   have HF : Hid (∃ A' c', u4 = .slice A' k c' ∧ RowsV wr A' c' xs) := by
    have hlen := HX.out.1
    have h := hO
    rw [← hlen] at h
    obtain ⟨A', c', e, hv⟩ := rows_own h HX.out.2.2
    rw [hlen] at e
    exact ⟨A', c', e, hv⟩
   clear hO hBw
   go_wp2_with fail
   go_ret
   obtain ⟨A', c', e, hv⟩ := HF.out
   exact ⟨⟨A', c', xs, by rw [← e]; rfl, HX.out.1, hv, HX.out.2.1⟩, onB HB0.out (onB HB1.out (onB HB2.out HBw.out))⟩
end Go.Proofs.YtjffbmejobjmjafGreatDoor

namespace Go.Proofs.YtjffbmejobjmjafGreatDoor
open Go.ChangeShapes Go.WideShapes Go.ChangeAt Go.RowKit
set_option maxRecDepth 20000

set_option maxHeartbeats 4000000 in
theorem stell_leaf (A0 : Option Addr) (cap n : Nat) (D : Nat → Dm) (A : Nat → Option Addr) (C : Nat → Nat) (Ae : Option Addr) (ce : Nat) (xs : List EnL) (Ap : Option Addr) (cp : Nat) (L : List Int) (vc : Value) (w : World) (hI : InO D n L) (hM : DimsV w A0 cap n D A C) (hP : PlAt w Ap cp L) (hx : xs.length ≤ 3000) (hE : EnsV w Ae ce xs) (hS : Short xs L) (hb : byTo D L n < 0) :
  Calls Tryz.prog 28 #[.agg #[.slice A0 n cap], .slice Ae xs.length ce, .slice Ap L.length cp, vc] w fun e w' => e = .returned (.agg #[.int .i64 (getE (lE xs) L).1, .int .i64 (getE (lE xs) L).2]) ∧ Below w.heap.size w w' := by
 have hb1 : byTo D L n = -1 := by
  rcases by_in D L n with h | ⟨b, h1, _⟩
  ·exact h
  ·omega
 obtain ⟨W, hW⟩ : ∃ W, (w.alloc (.cells #[.slice A0 n cap] 42)).alloc (.cells #[.int .i64 0, .int .i64 0] 48) = W := ⟨_, rfl⟩
 have HBW : Hid (Below w.heap.size w W) := by show Below w.heap.size w W; rw [← hW]; go_grown
 have HR : Hid (W.heap[w.heap.size + 1]? = some (.cells #[.int .i64 0, .int .i64 0] 48 (0, 0))) := by show _ = _; rw [← hW]; exact topF1 _ _ _
 have hO : W.heap[w.heap.size]? = some (.cells #[.slice A0 n cap] 42 (0, 0)) := by rw [← hW]; exact topF0 _ _ _
 have d0 : W.cell? ⟨w.heap.size, 0, none⟩ = some (.slice A0 n cap) := by simp [World.cell?, hO]
 have hsz : w.heap.size < W.heap.size := (Array.getElem?_eq_some_iff.1 hO).1
 have hby := sby_any A0 cap n D A C Ap cp L W hI (hM.later HBW.out) (hP.later HBW.out)
 have HIn : Hid (∀ w', Below w.heap.size w w' → Calls Tryz.prog 54 #[.slice Ae xs.length ce, .slice Ap L.length cp] w' fun e w'' => e = .returned (.agg #[.int .i64 (getE (lE xs) L).1, .int .i64 (getE (lE xs) L).2]) ∧ Below w'.heap.size w' w'') := fun w' hB => rinput_any Ae ce xs Ap cp L w' hx (hE.later hB) hS (hP.later hB)
 rw [hb1] at hby
 generalize getE (lE xs) L = c at HIn ⊢
 clear hI hM hP hE hS hb hb1 hx hO
 go_enter Tryz.func28, Tryz.ntmps28
 go_wp2_with fail
 refine hby.mono ?_
 rintro e w1 ⟨rfl, hb1⟩
 have HB1 : Hid (Below W.heap.size W w1) := hb1
 have hin := HIn.out w1 (onB HBW.out hb1)
 clear hb1 hby d0 hW
 go_wp2_with fail
 refine hin.mono ?_
 rintro e w2 ⟨rfl, hb2⟩
 obtain ⟨r1, r2, r3, rf0, rf1⟩ := box2 HR.out (onB HB1.out hb2)
 have HB2 := hid_of (onB HBW.out (onB HB1.out hb2))
 clear hb2 hin
 go_wp2_with fail
 refine bodyPost_ret (v := .agg #[.int .i64 c.1, .int .i64 c.2]) (by simp [results, Tryz.results28, go_sem, r2, r3]) rfl ⟨rfl, ?_⟩
 exact (HB2.out.setCell (Nat.le_succ _) _).setCell (Nat.le_succ _) _
end Go.Proofs.YtjffbmejobjmjafGreatDoor

namespace Go.Proofs.YtjffbmejobjmjafGreatDoor
open Go Go.ChangeShapes Go.WideShapes Go.ChangeAt Go.RowKit
set_option maxRecDepth 20000

section
variable {w0 : World} {A0 : Option Addr} {cap n q bd : Nat} {dd : Dm} {AA : Option Addr} {CC : Nat} {w w' : World}
end
theorem plus_one {ka na kb nb : Int} (ha : good ka na = true) (hb : good kb nb = true) : ∀ w, Calls Tryz.prog 61 #[.agg #[.int .i64 ka, .int .i64 na], .agg #[.int .i64 kb, .int .i64 nb], .int .i64 1] w fun e w' => e = .returned (.agg #[.int .i64 (plusP ka na kb nb).1, .int .i64 (plusP ka na kb nb).2]) ∧ Below w.heap.size w w' := by
 obtain ⟨h1, h2⟩ := good_bd ha
 obtain ⟨h3, h4⟩ := good_bd hb
 have h := rplus_any ka na kb nb 1 (na + nb) (by unfold wrap64; omega)
 unfold RefTo at h
 exact h
theorem plus_less {ka na kb nb : Int} (ha : good ka na = true) (hb : good kb nb = true) : ∀ w, Calls Tryz.prog 61 #[.agg #[.int .i64 ka, .int .i64 na], .agg #[.int .i64 kb, .int .i64 nb], .int .i64 (-1)] w fun e w' => e = .returned (.agg #[.int .i64 (minusP ka na kb nb).1, .int .i64 (minusP ka na kb nb).2]) ∧ Below w.heap.size w w' := by
 obtain ⟨h1, h2⟩ := good_bd ha
 obtain ⟨h3, h4⟩ := good_bd hb
 have h := rplus_any ka na kb nb (-1) (na - nb) (by unfold wrap64; omega)
 unfold RefTo at h
 exact h

end Go.Proofs.YtjffbmejobjmjafGreatDoor

namespace Go.Proofs.YtjffbmejobjmjafGreatDoor
open Go.ChangeShapes Go.WideShapes Go.ChangeAt Go.RowKit
set_option maxRecDepth 20000

def TelB (w : World) (A0 : Option Addr) (cap n qd : Nat) (d : Dm) (Am : Option Addr) (cm : Nat) (w1 : World) : Prop := Below w.heap.size w w1 ∧ BoxN w1 w.heap.size (.slice A0 n cap) ∧ w1.heap[w.heap.size + 1]? = some (.cells #[.int .i64 0, .int .i64 0] 48 (0, 0)) ∧ BoxD w1 qd d Am cm
theorem TelB.later {w w1 w2 : World} {A0 Am : Option Addr} {cap n qd cm : Nat} {d : Dm} (h : TelB w A0 cap n qd d Am cm w1) (hB : Below w1.heap.size w1 w2) : TelB w A0 cap n qd d Am cm w2 := ⟨onB h.1 hB, h.2.1.later hB, (hB.block _ (Array.getElem?_eq_some_iff.1 h.2.2.1).1).trans h.2.2.1, h.2.2.2.later hB⟩
theorem TelB.grown {w w1 w2 : World} {A0 Am : Option Addr} {cap n qd cm g : Nat} {d : Dm} (h : TelB w A0 cap n qd d Am cm w1) (hG : w1.grownBy w2 (some g)) (h0 : w.heap.size + 1 < g) (h1 : qd ≠ g) : TelB w A0 cap n qd d Am cm w2 :=
 ⟨h.1.grown hG h.1.size (fun j hj => by cases hj; omega), boxn_other h.2.1 (by omega) hG, (hG.block _ (Array.getElem?_eq_some_iff.1 h.2.2.1).1 (fun e => by simp at e; omega)).trans h.2.2.1, boxd_other h.2.2.2 h1 hG⟩
theorem num_set {D : Nat → Dm} {n b : Nat} {L : List Int} (h : InO D n L) (hb : b < n) {j : Nat} (hj : j < (D b).n) : ∃ y : Nat, numI D (L.set b j) n = (y : Int) ∧ y < prodN D n ∧ InO D n (L.set b j) := by
 have hI := inO_set h hb (x := (j : Int)) (by omega) (by omega)
 obtain ⟨h1, h2, -⟩ := numI_bound hI (Nat.le_refl n)
 exact ⟨(numI D (L.set b j) n).toNat, by omega, by omega, hI⟩

end Go.Proofs.YtjffbmejobjmjafGreatDoor

namespace Go.Proofs.YtjffbmejobjmjafGreatDoor

section
variable {D : Nat → Dm} {n : Nat}
theorem told_less (hR : AllR D n) (hE : (allErr D n).2.2 = 0) {i : Nat} {T : List Int} (hT : ToldP D n (placeL D n i) T) {z : Int} (hz : z ∈ T) : ∃ j : Nat, z = (j : Int) ∧ j < prodN D n ∧ msrTo D (placeL D n j) n < msrTo D (placeL D n i) n := by
 obtain ⟨b, hb, x, hx, rfl⟩ := (hT.2.2 z).1 hz
 have hI : InO D n (placeL D n i) := placeL_in hE
 have hbn : b < n := by
  rcases by_in D (placeL D n i) n with h | ⟨b', h1, h2⟩
  ·omega
  ·omega
 have hxi := mNd_in hx
 have hI2 := inO_set hI hbn hxi.1 hxi.2
 have hp0 := hI.lo b hbn
 have hp1 := hI.hi b hbn
 have hrk := rk_less (hR b hbn) (i := ((placeL D n i).getD b 0).toNat) (by omega) hx
 rw [Int.toNat_of_nonneg hp0] at hrk
 have hms := (msr_less (by rw [hI.len]; exact hbn) hrk n).2 hbn
 obtain ⟨j, hj⟩ : ∃ j : Nat, numI D ((placeL D n i).set b x) n = (j : Int) := ⟨(numI D ((placeL D n i).set b x) n).toNat, by have := (numI_bound hI2 (Nat.le_refl n)).1; omega⟩
 refine ⟨j, hj, by have := (numI_bound hI2 (Nat.le_refl n)).2.1; omega, ?_⟩
 have hpn := place_num hI2
 rw [hj, Int.toNat_natCast] at hpn
 rw [hpn]
 exact hms
theorem none_waits (hR : AllR D n) (hE : (allErr D n).2.2 = 0) (T : Nat → List Int) (hT : ∀ i, i < prodN D n → ToldP D n (placeL D n i) (T i)) (done : Nat → Bool) (h : ∀ i, i < prodN D n → done i = false → ∃ z ∈ T i, done z.toNat = false) : ∀ i, i < prodN D n → done i = true := by
 have hall : ∀ (m i : Nat), i < prodN D n → msrTo D (placeL D n i) n < m → done i = true := by
  intro m
  induction m with
  | zero => intro i _ hm; omega
  | succ m ih =>
   intro i hi hm
   cases hd : done i with
   | true => rfl
   | false =>
    obtain ⟨z, hz, hn⟩ := h i hi hd
    obtain ⟨j, rfl, hj, hl⟩ := told_less hR hE (hT i hi) hz
    rw [Int.toNat_natCast, ih j hj (by omega)] at hn
    cases hn
 exact fun i hi => hall _ i hi (Nat.lt_succ_self _)
theorem sol_at (hR : AllR D n) (hE : (allErr D n).2.2 = 0) (inp : List Int → Int × Int) (c : Nat → Int × Int) {i : Nat} {T : List Int} (hT : ToldP D n (placeL D n i) T) (hc : ∀ z ∈ T, c z.toNat = solV D n inp (placeL D n z.toNat)) {b : Nat} (hb : byTo D (placeL D n i) n = (b : Int)) : solV D n inp (placeL D n i) = oneV (D b) (fun x => c (numI D ((placeL D n i).set b x) n).toNat) ((placeL D n i).getD b 0).toNat := by
 have hI : InO D n (placeL D n i) := placeL_in hE
 have hbn : b < n := by
  rcases by_in D (placeL D n i) n with h | ⟨b', h1, h2⟩
  ·omega
  ·omega
 rw [sol_by hR inp hI hb]
 obtain ⟨hd, hm, -, -⟩ := rErr_right (hR b hbn)
 have hp0 := hI.lo b hbn
 have hp1 := hI.hi b hbn
 refine oneV_same hd (hm _ (by omega)) fun x hx => ?_
 have hxi := mNd_in hx
 have h1 := hc _ ((hT.2.2 _).2 ⟨b, hb, x, hx, rfl⟩)
 rw [place_num (inO_set hI hbn hxi.1 hxi.2)] at h1
 exact h1.symm
end
end Go.Proofs.YtjffbmejobjmjafGreatDoor

