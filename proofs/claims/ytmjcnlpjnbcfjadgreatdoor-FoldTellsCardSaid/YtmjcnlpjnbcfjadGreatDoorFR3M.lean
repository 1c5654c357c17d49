/-
  Cells folded by a dim, as the document reckons it: what its Fold answers, called in whatever memory: the same as the program's.
-/
import Derived.Test.YtmjcnlpjnbcfjadGreatDoorFMC
namespace Go.Proofs.YtmjcnlpjnbcfjadGreatDoor
open Go Go.ChangeShapes Go.WideShapes Go.ChangeAt Go.RowKit
set_option maxRecDepth 20000

/-- the boxes of the document's Fold -/
def FX (w0 : World) (A0 : Option Addr) (cap n q bd : Nat) (dd : Dm) (AA : Option Addr) (CC : Nat) (w : World) : Prop := Below w0.heap.size w0 w ∧ BoxN w q (.slice A0 n cap) ∧ BoxD w bd dd AA CC
section
variable {w0 : World} {A0 : Option Addr} {cap n q bd : Nat} {dd : Dm} {AA : Option Addr} {CC : Nat} {w w' : World}
theorem FX.later (h : FX w0 A0 cap n q bd dd AA CC w) (hB : Below w.heap.size w w') : FX w0 A0 cap n q bd dd AA CC w' := ⟨onB h.1 hB, h.2.1.later hB, h.2.2.later hB⟩
theorem FX.grown (h : FX w0 A0 cap n q bd dd AA CC w) {g : Nat} (hG : w.grownBy w' (some g)) (h0 : w0.heap.size ≤ g) (h1 : q ≠ g) (h2 : bd ≠ g) : FX w0 A0 cap n q bd dd AA CC w' :=
  ⟨h.1.grown hG h.1.size (fun j hj => by cases hj; exact h0), boxn_other h.2.1 h1 hG, boxd_other h.2.2 h2 hG⟩
end
/-- a place with a part in the place of a member -/
theorem with_place {D : Nat → Dm} {n dim m x j : Nat} (hp : ∀ i, i < n → 1 ≤ (D i).n) (hd : dim < n) (hx : x < prodN D n) (hm : x / stepD D n dim % (D dim).n = m) (hj : j < (D dim).n) :
    ∃ y : Nat, (placeL D n x).set dim (j : Int) = placeL D n y ∧ (x : Int) + ((j : Int) - (m : Int)) * (stepD D n dim : Int) = y ∧ y < prodN D n := by
  obtain ⟨y, h1, h2, h3, h4⟩ := part_place hp hd hx hm hj
  refine ⟨y, ?_, h1, h2⟩
  apply List.ext_getElem (by simp [placeL_len])
  intro i hi1 hi2
  rw [placeL_len] at hi2
  rw [List.getElem_set]
  by_cases e : dim = i
  · subst e
    rw [if_pos rfl]
    simp only [placeL, List.getElem_map, List.getElem_range]
    rw [digit_step hd, h3]
  · rw [if_neg e]
    simp only [placeL, List.getElem_map, List.getElem_range]
    rw [h4 i hi2 (fun h => e h.symm)]
theorem pl_other {w w' : World} {b o g c : Nat} {X : List Int} (h : PlAt w (some ⟨b, o, none⟩) c X) (hne : b ≠ g) (hG : w.grownBy w' (some g)) : PlAt w' (some ⟨b, o, none⟩) c X := by
  obtain ⟨h1, h2 | ⟨b', o', h2, h3, h4⟩⟩ := h
  · exact ⟨h1, Or.inl h2⟩
  · cases h2
    exact ⟨h1, Or.inr ⟨b, o, rfl, Nat.lt_of_lt_of_le h3 hG.size, fun j hj => (World.cell?_of_block (a := ⟨b, o + j, none⟩) (hG.block b h3 fun e => hne (by simpa using e))).trans (h4 j hj)⟩⟩
theorem plus_one {ka na kb nb : Int} (ha : good ka na = true) (hb : good kb nb = true) : ∀ w, Calls Tryz.prog 27 #[.agg #[.int .i64 ka, .int .i64 na], .agg #[.int .i64 kb, .int .i64 nb], .int .i64 1] w fun e w' => e = .returned (.agg #[.int .i64 (plusP ka na kb nb).1, .int .i64 (plusP ka na kb nb).2]) ∧ Below w.heap.size w w' := by
  obtain ⟨h1, h2⟩ := good_bd ha
  obtain ⟨h3, h4⟩ := good_bd hb
  have h := rplus_any ka na kb nb 1 (na + nb) (by unfold wrap64; omega)
  unfold RefTo at h
  exact h
theorem plus_less {ka na kb nb : Int} (ha : good ka na = true) (hb : good kb nb = true) : ∀ w, Calls Tryz.prog 27 #[.agg #[.int .i64 ka, .int .i64 na], .agg #[.int .i64 kb, .int .i64 nb], .int .i64 (-1)] w fun e w' => e = .returned (.agg #[.int .i64 (minusP ka na kb nb).1, .int .i64 (minusP ka na kb nb).2]) ∧ Below w.heap.size w w' := by
  obtain ⟨h1, h2⟩ := good_bd ha
  obtain ⟨h3, h4⟩ := good_bd hb
  have h := rplus_any ka na kb nb (-1) (na - nb) (by unfold wrap64; omega)
  unfold RefTo at h
  exact h

set_option maxHeartbeats 32000000 in
theorem rfold_any (A0 : Option Addr) (cap n : Nat) (D : Nat → Dm) (A : Nat → Option Addr) (C : Nat → Nat) (AC : Option Addr) (cc : Nat) (L : List (Int × Int)) (dim : Nat) (w : World) (hR : (allErr D n).2.2 = 0) (hdim : dim < n) (hLN : L.length = prodN D n) (hgood : goodL L) (hM : DimsV w A0 cap n D A C) (hL : CelV w AC cc L) :
    Calls Tryz.prog 10 #[.agg #[.slice A0 n cap], .slice AC L.length cc, .int .i64 dim] w fun e w' => (∃ A' c', e = .returned (.slice A' L.length c') ∧ CelV w' A' c' (onceV D n dim L)) ∧ Below w.heap.size w w' := by
  obtain ⟨i0, hi0, hz0, hz1, hz2⟩ := info_parts Tryz.infoCe
  obtain ⟨hn1, hn4, hp3, hd⟩ := allErr_some hR
  have hdk := (allErr_right hR).2 dim hdim
  obtain ⟨hd1, hd12⟩ := hd dim hdim
  have hPos : 1 ≤ prodN D n := prodN_pos fun j hj => (hd j hj).1
  have HR : Hid ((allErr D n).2.2 = 0) := hR
  have HM : Hid (DimsV w A0 cap n D A C) := hM
  have HGd : Hid (goodL L) := hgood
  have HD : Hid (∀ j, j < n → 1 ≤ (D j).n ∧ (D j).n ≤ 12) := hd
  have HLN : Hid (L.length = prodN D n) := hLN
  obtain ⟨N, hN⟩ : ∃ N, L.length = N := ⟨_, rfl⟩
  have HN : Hid (L.length = N) := hN
  have hN1 : 1 ≤ N := by omega
  have hN3 : N ≤ 3000 := by omega
  have hN3' : (N : Int) ≤ 3000 := by omega
  have hdi : (dim : Int) < (n : Int) := by omega
  have hn' : (n : Int) ≤ 4 := by omega
  rw [hN]
  obtain ⟨hcc, hcc3, h0 | ⟨bc, oc, rfl, hCA⟩⟩ := hL
  · rw [h0] at hN; simp at hN; omega
  rw [hN] at hcc
  obtain ⟨hcap, h0 | ⟨b, o, rfl, hMs⟩⟩ := hM
  · omega
  have hB0 := ownOut_below w (some ⟨b, o, none⟩) n cap 24
  obtain ⟨W, hW⟩ : ∃ W, w.alloc (.cells #[.slice (some ⟨b, o, none⟩) n cap] 24) = W := ⟨_, rfl⟩
  have hWo : ownOut w (some ⟨b, o, none⟩) n cap 24 = W := hW
  rw [hWo] at hB0
  have HB0 : Hid (Below w.heap.size w W) := hB0
  have HBW : Hid (BoxN W w.heap.size (.slice (some ⟨b, o, none⟩) n cap)) := ⟨by rw [← hWo, ownOut_size]; omega, by rw [← hWo]; exact ownOut_at ..⟩
  have HCs : Hid (∀ j u, (cellsC L)[j]? = some u → W.cell? ((⟨bc, oc, none⟩ : Addr).add j) = some u) := fun j u hj => by rw [plain_add]; exact (hCA.later hB0).cells j u hj
  have hlc : (cellsC L).length = N * 2 := by rw [cellsC_len, hN]
  have hone := cellsC_one L
  clear hMs hCA hB0 hWo hd hN hLN hgood hR
  go_enter Tryz.func10, Tryz.ntmps10
  go_wp2_with (at_builtin; refine wpList_append_own _ rfl _ _ 26 rfl W.heap.size 42 i0 (.agg #[.int .i64 0, .int .i64 0]) 2 16 Tryz.underlying26 hi0 hz0 hz1 hz2 rfl (by decide) _ _ _ rfl (World.ownsRow_nil W W.heap.size 42 2) ⟨bc, oc, none⟩ N cc (cellsC L) rfl ?qc1 ?qc2 ?qc3 ?qc4 ?qc5 ?qc6 ?_)
  case qc1 => exact hlc
  case qc2 => exact HCs.out
  case qc3 => exact hone
  case qc4 => simp only [maxLen]; omega
  case qc5 => omega
  case qc6 => exact Nat.le_refl _
  intro v' w1 hown hgrow hnil
  have hown1 : w1.ownsRow W.heap.size 42 2 v' L.length (cellsC L) := by rw [HN.out]; simpa using hown
  obtain ⟨g, c', rfl, hgW, hgc, hgc3, hCB⟩ := celB_own hown1 (by rw [HN.out]; omega)
  have hB1 : Below W.heap.size W w1 := (Below.refl _ W).grown hgrow (Nat.le_refl _) (by intro k hk; cases hk)
  have HB1 : Hid (Below W.heap.size W w1) := hB1
  have HCB : Hid (CelB w1 g L) := hCB
  rw [HN.out] at hgc ⊢
  have HBo1 : Hid (BoxN w1 w.heap.size (.slice (some ⟨b, o, none⟩) n cap)) := HBW.out.later hB1
  have hMs1 : DimsAt w1 b o n D A C := by
    obtain ⟨-, h0 | ⟨b', o', h0, hMs⟩⟩ := HM.out.later (onB HB0.out hB1)
    · omega
    · cases h0; exact hMs
  obtain ⟨d0, d1, d2, hmv⟩ := hMs1.2 dim hdim
  obtain ⟨dd, hdd⟩ : ∃ d, D dim = d := ⟨_, rfl⟩
  obtain ⟨AA, hAA⟩ : ∃ d, A dim = d := ⟨_, rfl⟩
  obtain ⟨CC, hCC⟩ : ∃ d, C dim = d := ⟨_, rfl⟩
  have HDD : Hid (D dim = dd ∧ A dim = AA ∧ C dim = CC) := ⟨hdd, hAA, hCC⟩
  rw [hdd] at hdk hd1 hd12 d0 d1 d2 hmv
  rw [hAA, hCC] at d2 hmv
  have hzb := hMs1.1
  have c1 := HBo1.out.2
  obtain ⟨w2, hw2⟩ : ∃ w2, w1.alloc (.cells #[.string dd.name, .int .i64 dd.solve, .slice AA dd.n CC] 62) = w2 := ⟨_, rfl⟩
  have hB2 : Below w1.heap.size w1 w2 := by rw [← hw2]; go_grown
  have HBd2 : Hid (BoxD w2 w1.heap.size dd AA CC) := BoxD.of (T := 62) (fr := (0, 0)) (by rw [← hw2]; exact heap_alloc_new ..)
  have HFX2 : Hid (FX w (some ⟨b, o, none⟩) cap n w.heap.size w1.heap.size dd AA CC w2) := ⟨onB HB0.out (onB hB1 hB2), HBo1.out.later hB2, HBd2.out⟩
  have HC2 : Hid (CelB w2 g L) := hCB.later hB2
  have HZ : Hid (w.heap.size < W.heap.size ∧ W.heap.size ≤ g ∧ g < w1.heap.size) := ⟨HBW.out.1, hgW, hCB.lt⟩
  have hdn1 : (1 : Int) ≤ (dd.n : Int) := by omega
  have hdn2 : (dd.n : Int) ≤ 12 := by omega
  obtain ⟨-, k0, k1, k2⟩ := HBd2.out
  clear hown hown1 hgrow hnil hCB hB1 hdd hAA hCC hB2 hmv hMs1
  go_wp2_with fail
  clear hw2 d0 d1 d2 c1 k0 k1 k2
  go_loopg [9] dd.n (fun gg s9 wr => ∃ (r : Nat), r ≤ dd.n ∧ gg = dd.n - r ∧ s9 = .int .i64 ((dd.n : Int) - 1 - (r : Int)) ∧ Hid (CelB wr g (onceTo D n dim L r)) ∧ Hid (w2.grownBy wr (some g)))
  case atStart => exact ⟨0, Nat.zero_le _, rfl, by simp, HC2, grown_refl w2 (some g)⟩
  case round =>
    obtain ⟨wo, rfl⟩ : ∃ wo : World, wo = wr := ⟨_, rfl⟩
    obtain ⟨r, hr, rfl, rfl, HCo, HGo⟩ := hrel
    have hzz := HZ.out
    have HFXo : Hid (FX w (some ⟨b, o, none⟩) cap n w.heap.size w1.heap.size dd AA CC wo) := HFX2.out.grown HGo.out (by omega) (by omega) (by omega)
    obtain ⟨xo1, xo2, xo3, xo4⟩ := HFXo.out.2.2
    by_cases hlt : r < dd.n
    · obtain ⟨mm, hmm⟩ : ∃ mm : Nat, (dd.n : Int) - 1 - (r : Int) = mm := ⟨dd.n - 1 - r, by omega⟩
      have HMM : Hid (mm = (D dim).n - 1 - r) := by show _ = _; rw [HDD.out.1]; omega
      have HMm : Hid ((dd.n : Int) - 1 - (r : Int) = mm) := hmm
      have hge : decide (0 ≤ (mm : Int)) = true := decide_eq_true (by omega)
      have hm12 : (mm : Int) ≤ 12 := by omega
      have HNx : Hid (onceTo D n dim L (r + 1) = mbrV D n dim mm (onceTo D n dim L r)) := by show _ = _; rw [once_next, ← HMM.out]
      have hmo : MemsV wo AA CC dd.n dd.mem := by
        obtain ⟨-, h0 | ⟨b', o', h0, hMs⟩⟩ := HM.out.later HFXo.out.1
        · omega
        · have := (hMs.2 dim hdim).2.2.2
          rw [HDD.out.1, HDD.out.2.1, HDD.out.2.2] at this
          exact this
      obtain ⟨hCC, h0 | ⟨bm, om, rfl, hMm⟩⟩ := hmo
      · omega
      have hpa := rparts_new dd bm om CC (mm : Int) wo hd12 hMm
      obtain ⟨P, hP⟩ : ∃ P, partsOf dd.mem dd.n (mm : Int) = P := ⟨_, rfl⟩
      have HPe : Hid (partsOf dd.mem dd.n (mm : Int) = P) := hP
      rw [hP] at hpa
      have hP12 : P.length ≤ 12 := by rw [← hP]; exact Nat.le_trans (selTo_len _ _) hd12
      obtain ⟨NP, hNP⟩ : ∃ NP, P.length = NP := ⟨_, rfl⟩
      have HNP : Hid (P.length = NP) := hNP
      rw [hNP] at hpa hP12
      have hNP' : (NP : Int) ≤ 12 := by omega
      obtain ⟨Lr, hLr⟩ : ∃ Lr, onceTo D n dim L r = Lr := ⟨_, rfl⟩
      have hLrl : Lr.length = N := by rw [← hLr, once_len]; exact HN.out
      have hLrg : goodL Lr := by rw [← hLr]; exact once_good HGd.out r
      rw [hLr] at HNx HCo
      have HLrl : Hid (Lr.length = N) := hLrl
      have HLrg : Hid (goodL Lr) := hLrg
      rw [hmm]
      clear hmm hMm hP hNP hLr hLrl hLrg
      go_wp2_with fail
      refine hpa.mono ?_
      rintro e w3 ⟨⟨AP, cP, rfl, hI, hNew⟩, hb3⟩
      have HB3 : Hid (Below wo.heap.size wo w3) := hb3
      have HI : Hid (IntsAt w3 AP cP P) := hI
      have HNew : Hid (∀ b o, AP = some ⟨b, o, none⟩ → wo.heap.size ≤ b) := hNew
      have HFX3 : Hid (FX w (some ⟨b, o, none⟩) cap n w.heap.size w1.heap.size dd (some ⟨bm, om, none⟩) CC w3) := HFXo.out.later hb3
      have HC3 : Hid (CelB w3 g Lr) := HCo.out.later hb3
      have HG3 : Hid (w2.grownBy w3 (some g)) := grown_then HGo.out hb3
      have HOs : Hid (w1.heap.size < wo.heap.size) := xo1
      clear hb3 hI hNew hpa xo1 xo2 xo3 xo4
      by_cases hP0 : NP = 0
      · subst hP0
        have HEq : Hid (onceTo D n dim L (r + 1) = Lr) := by
          show _ = _
          rw [HNx.out]
          unfold mbrV
          rw [HDD.out.1, if_pos]
          rw [HPe.out]
          exact List.eq_nil_of_length_eq_zero HNP.out
        have HC4 : Hid (CelB w3 g (onceTo D n dim L (r + 1))) := by show CelB _ _ _; rw [HEq.out]; exact HC3.out
        have h0N : decide ((0 : Int) < (N : Int)) = true := decide_eq_true (by omega)
        go_wp2_with fail
        refine wp_loop_rounds 1 ?_
        rw [rounds_succ]
        go_wp2_with fail
        go_roundg (dd.n - (r + 1))
        case measure => omega
        case rel => exact ⟨r + 1, by omega, rfl, by have := HMm.out; congr 1; omega, HC4, HG3⟩
      have HPne : Hid (P ≠ []) := fun e => by have := HNP.out; rw [e] at this; simp at this; omega
      obtain ⟨bp, hbp⟩ : ∃ bp, AP = some ⟨bp, 0, none⟩ := by
        obtain ⟨-, h0 | ⟨b', h0, -⟩⟩ := HI.out
        · exact absurd h0 HPne.out
        · exact ⟨b', h0⟩
      subst hbp
      have HBp : Hid (wo.heap.size ≤ bp) := HNew.out bp 0 rfl
      have hNPp : decide ((0 : Int) < (NP : Int)) = true := decide_eq_true (by omega)
      have HEq : Hid (onceTo D n dim L (r + 1) = passTo D n dim mm Lr N) := by
        show _ = _
        rw [HNx.out]
        unfold mbrV
        rw [HDD.out.1, if_neg (by rw [HPe.out]; exact HPne.out), HLrl.out]
      go_wp2_with fail
      go_loopg [11] N (fun gg s11 wr => ∃ (x : Nat), x ≤ N ∧ gg = N - x ∧ s11 = .int .i64 x ∧ Hid (CelB wr g (passTo D n dim mm Lr x)) ∧ Hid (w3.grownBy wr (some g)))
      case atStart => exact ⟨0, Nat.zero_le _, rfl, rfl, HC3, grown_refl w3 (some g)⟩
      case round =>
        obtain ⟨wm, rfl⟩ : ∃ wm : World, wm = wr := ⟨_, rfl⟩
        obtain ⟨x, hx, rfl, rfl, HCm, HGm⟩ := hrel
        have hzz := HZ.out
        have hos := HOs.out
        have hbp := HBp.out
        have HFXm : Hid (FX w (some ⟨b, o, none⟩) cap n w.heap.size w1.heap.size dd (some ⟨bm, om, none⟩) CC wm) := HFX3.out.grown HGm.out (by omega) (by omega) (by omega)
        have HIm : Hid (IntsAt wm (some ⟨bp, 0, none⟩) cP P) := ints_other HI.out (by omega) HGm.out
        have xm := HFXm.out.2.1.2
        by_cases hxl : x < N
        · have hxi : (x : Int) < (N : Int) := by omega
          have t1 : decide ((x : Int) < (N : Int)) = true := decide_eq_true hxi
          have hxP : x < prodN D n := by have := HN.out; have := HLN.out; omega
          have hat := rat_any (some ⟨b, o, none⟩) cap n D A C x wm HR.out hxP (HM.out.later HFXm.out.1)
          rw [placeL_len] at hat
          obtain ⟨dg, hdg⟩ : ∃ dg, x / stepD D n dim % (D dim).n = dg := ⟨_, rfl⟩
          have HDg : Hid (x / stepD D n dim % (D dim).n = dg) := hdg
          have HPd : Hid ((placeL D n x).getD dim 0 = (dg : Int)) := by show _ = _; rw [placeL_at hdim, digit_step hdim, hdg]
          have hdg12 : (dg : Int) ≤ 12 := by
            have : dg < (D dim).n := by rw [← hdg]; exact Nat.mod_lt _ (HD.out dim hdim).1
            have := (HD.out dim hdim).2
            omega
          clear hdg
          go_wp2_with fail
          refine hat.mono ?_
          rintro e w4 ⟨⟨Aq, cq, rfl, hq⟩, hb4⟩
          have HB4 : Hid (Below wm.heap.size wm w4) := hb4
          have HQ4 : Hid (PlAt w4 Aq cq (placeL D n x)) := hq
          have HFX4 : Hid (FX w (some ⟨b, o, none⟩) cap n w.heap.size w1.heap.size dd (some ⟨bm, om, none⟩) CC w4) := HFXm.out.later hb4
          have HI4 : Hid (IntsAt w4 (some ⟨bp, 0, none⟩) cP P) := HIm.out.later hb4
          have HC4 : Hid (CelB w4 g (passTo D n dim mm Lr x)) := HCm.out.later hb4
          have HG4 : Hid (w3.grownBy w4 (some g)) := grown_then HGm.out hb4
          obtain ⟨hcq, h0 | ⟨bq, oq, rfl, hbq, hcellq⟩⟩ := hq
          · have := placeL_len D n x; rw [h0] at this; simp at this; omega
          have q1 := hcellq dim (by rw [placeL_len]; exact hdim)
          rw [HPd.out] at q1
          rw [placeL_len] at hcq
          clear hb4 hat xm hcellq
          by_cases hdm : dg = mm
          · have hne : ((dg : Int) != (mm : Int)) = false := by simp [hdm]
            have HDm : Hid (x / stepD D n dim % (D dim).n = mm) := by show _ = _; rw [HDg.out]; exact hdm
            obtain ⟨Lx, hLx⟩ : ∃ Lx, passTo D n dim mm Lr x = Lx := ⟨_, rfl⟩
            have HLxN : Hid (Lx.length = N) := by show _ = _; rw [← hLx, pass_len]; exact HLrl.out
            have HLxg : Hid (goodL Lx) := by rw [← hLx]; exact pass_good HLrg.out x
            have HNx2 : Hid (passTo D n dim mm Lr (x + 1) = Lx.set x (partsV dd.mem (atP D n dim mm x Lx) P)) := by
              show _ = _
              rw [pass_hit HDm.out, hLx, HDD.out.1, HPe.out]
            rw [hLx] at HC4
            have HIn : Hid (∀ k ∈ P, ∃ j : Nat, k = j ∧ j < dd.n) := fun k hk => by
              rw [← HPe.out] at hk
              obtain ⟨j, h1, -, h3, -⟩ := part_behind (Tr.of hdk) hk
              exact ⟨j, h1, h3⟩
            have HFinP : Hid ((P.take NP).foldl (partStep dd.mem (atP D n dim mm x Lx)) (0, 0) = partsV dd.mem (atP D n dim mm x Lx) P) := by show _ = _; rw [← HNP.out, List.take_length]; rfl
            obtain ⟨y4, hy4⟩ : ∃ y, w4.alloc (.cells #[.int .i64 0, .int .i64 0] 42) = y := ⟨_, rfl⟩
            have hBy4 : Below w4.heap.size w4 y4 := by rw [← hy4]; go_grown
            have HBx4 : Hid (y4.heap[w4.heap.size]? = some (.cells #[.int .i64 0, .int .i64 0] 42 (0, 0))) := by show _ = _; rw [← hy4]; exact heap_alloc_new ..
            have HFX5 : Hid (FX w (some ⟨b, o, none⟩) cap n w.heap.size w1.heap.size dd (some ⟨bm, om, none⟩) CC y4) := HFX4.out.later hBy4
            have HI5 : Hid (IntsAt y4 (some ⟨bp, 0, none⟩) cP P) := HI4.out.later hBy4
            have HC5 : Hid (CelB y4 g Lx) := HC4.out.later hBy4
            have HQ5 : Hid (PlAt y4 (some ⟨bq, oq, none⟩) cq (placeL D n x)) := HQ4.out.later hBy4
            have HG5 : Hid (w3.grownBy y4 (some g)) := grown_then HG4.out hBy4
            have HZ4 : Hid (g < w4.heap.size ∧ w.heap.size < w4.heap.size ∧ w1.heap.size < w4.heap.size ∧ bp < w4.heap.size ∧ bq < w4.heap.size) := by
              have h1 := HC4.out.lt
              have h2 := HFX4.out.2.1.1
              have h3 := HFX4.out.2.2.1
              obtain ⟨-, h5 | ⟨b', h5, h6, -⟩⟩ := HI4.out
              · exact absurd h5 HPne.out
              · cases h5; exact ⟨h1, h2, h3, h6, hbq⟩
            clear hdm hLx hBy4
            go_wp2_with fail
            clear hy4 q1
            go_loopg [14] NP (fun gg s14 wr => ∃ (i : Nat) (a b' : Int), i ≤ NP ∧ gg = NP - i ∧ s14 = .int .i64 i ∧ Hid ((P.take i).foldl (partStep dd.mem (atP D n dim mm x Lx)) (0, 0) = (a, b')) ∧ Hid (wr.heap[w4.heap.size]? = some (.cells #[.int .i64 a, .int .i64 b'] 42 (0, 0))) ∧ Hid (y4.grownBy wr (some w4.heap.size)))
            case atStart => exact ⟨0, 0, 0, Nat.zero_le _, rfl, rfl, (rfl : (P.take 0).foldl (partStep dd.mem (atP D n dim mm x Lx)) (0, 0) = (0, 0)), HBx4, grown_refl y4 _⟩
            case round =>
              obtain ⟨wi, rfl⟩ : ∃ wi : World, wi = wr := ⟨_, rfl⟩
              obtain ⟨i, a, b', hi, rfl, rfl, HFi, HCi2, HGi⟩ := hrel
              have hz4 := HZ4.out
              have hqi : w4.heap.size < wi.heap.size := (Array.getElem?_eq_some_iff.1 HCi2.out).1
              have HFXi : Hid (FX w (some ⟨b, o, none⟩) cap n w.heap.size w1.heap.size dd (some ⟨bm, om, none⟩) CC wi) := HFX5.out.grown HGi.out (by omega) (by omega) (by omega)
              have HIi : Hid (IntsAt wi (some ⟨bp, 0, none⟩) cP P) := ints_other HI5.out (by omega) HGi.out
              have HCi : Hid (CelB wi g Lx) := HC5.out.same (HGi.out.block g HC5.out.lt (fun e => by simp at e; omega))
              have HQi : Hid (PlAt wi (some ⟨bq, oq, none⟩) cq (placeL D n x)) := pl_other HQ5.out (by omega) HGi.out
              obtain ⟨s0, s1, f0, f1⟩ := pair_at HCi2.out
              by_cases hil : i < NP
              · have hii : (i : Int) < (NP : Int) := by omega
                have hiP : i < P.length := by rw [HNP.out]; exact hil
                obtain ⟨hcP, h0 | ⟨b'', h0, hbp2, hcellp⟩⟩ := HIi.out
                · exact absurd h0 HPne.out
                cases h0
                have cp1 := hcellp i hiP
                rw [HNP.out] at hcP
                have hmem : P.getD i 0 ∈ P := by rw [List.getD_eq_getElem?_getD, List.getElem?_eq_getElem hiP]; exact List.getElem_mem hiP
                obtain ⟨j, hj, hjn⟩ := HIn.out _ hmem
                have hmi : MemsV wi (some ⟨bm, om, none⟩) CC dd.n dd.mem := by
                  obtain ⟨-, h0 | ⟨b3, o3, h0, hMs⟩⟩ := HM.out.later HFXi.out.1
                  · omega
                  · have := (hMs.2 dim hdim).2.2.2
                    rw [HDD.out.1, HDD.out.2.1, HDD.out.2.2] at this
                    exact this
                obtain ⟨-, h0 | ⟨b4, o4, h0, hMm⟩⟩ := hmi
                · omega
                cases h0
                obtain ⟨-, -, m2, -⟩ := hMm.2 j hjn
                have hsg := (Sg.of hdk) j hjn
                obtain ⟨e1, e2, e3, e4⟩ := HFXi.out.2.2
                obtain ⟨-, e5⟩ := HFXi.out.2.1
                obtain ⟨y, hy1, hy2, hy3⟩ := with_place (D := D) (n := n) (dim := dim) (m := mm) (x := x) (j := j) (fun i hi => (HD.out i hi).1) hdim hxP HDm.out (by rw [HDD.out.1]; exact hjn)
                have hyN : y < N := by have := HN.out; have := HLN.out; omega
                have hyi : (y : Int) < (N : Int) := by omega
                have hSt := take_part (M := dd.mem) (at' := atP D n dim mm x Lx) hiP
                rw [HFi.out, hj] at hSt
                have hatP : atP D n dim mm x Lx (j : Int) = Lx.getD y noC := by unfold atP cAt; rw [hy2]; rfl
                unfold partStep at hSt
                rw [show ((j : Int)).toNat = j by omega, hatP] at hSt
                simp only at hSt
                have hgd : goodC (Lx.getD y noC) := good_at HLxg.out (y : Int)
                have hgab : goodC (a, b') := by rw [← HFi.out]; exact good_fold _ _ _ _ good_zero
                rw [hj] at cp1
                have HWith : Hid (∀ w', Below wi.heap.size wi w' → Calls Tryz.prog 29 #[.slice (some ⟨bq, oq, none⟩) n cq, .int .i64 dim, .int .i64 j] w' fun e w'' => (∃ A' c', e = .returned (.slice A' n c') ∧ PlAt w'' A' c' (placeL D n y)) ∧ Below w'.heap.size w' w'') := fun w' hw' => by
                  have h := rwith_any (some ⟨bq, oq, none⟩) cq (placeL D n x) dim (j : Int) w' (by rw [placeL_len]; exact hdim) (by rw [placeL_len]; exact hn4) (HQi.out.later hw')
                  rw [hy1, placeL_len] at h
                  exact h
                have HNum : Hid (∀ w' A' c', Below wi.heap.size wi w' → PlAt w' A' c' (placeL D n y) → Calls Tryz.prog 28 #[.agg #[.slice (some ⟨b, o, none⟩) n cap], .slice A' n c'] w' fun e w'' => e = .returned (.int .i64 y) ∧ Below w'.heap.size w' w'') := fun w' A' c' hw' hp => by
                  have h := rnumber_any (some ⟨b, o, none⟩) cap n D A C A' c' (placeL D n y) w' (placeL_in HR.out) (HM.out.later (onB HFXi.out.1 hw')) hp
                  rw [num_place HR.out hy3, placeL_len] at h
                  exact h
                obtain ⟨g1, g2⟩ := HCi.out.at (k := y) (by rw [HLxN.out]; exact hyN)
                have hP1 := plus_one (ka := a) (na := b') (kb := (Lx.getD y noC).1) (nb := (Lx.getD y noC).2) hgab hgd
                have hP2 := plus_less (ka := a) (na := b') (kb := (Lx.getD y noC).1) (nb := (Lx.getD y noC).2) hgab hgd
                generalize (Lx.getD y noC).1 = v1 at g1 hSt hP1 hP2
                generalize (Lx.getD y noC).2 = v2 at g2 hSt hP1 hP2
                generalize (dd.mem j).sign = sg at m2 hSt hsg
                have HKp : Hid ((w4.heap.size < wi.heap.size ∧ w.heap.size < wi.heap.size ∧ bp < wi.heap.size ∧ g < wi.heap.size) ∧ wi.cell? ⟨bp, i, none⟩ = some (.int .i64 j) ∧ wi.cell? ⟨w.heap.size, 0, none⟩ = some (.slice (some ⟨b, o, none⟩) n cap) ∧ wi.cell? ⟨g, y * 2, none⟩ = some (.int .i64 v1) ∧ wi.cell? ⟨g, y * 2 + 1, none⟩ = some (.int .i64 v2)) := ⟨⟨hqi, HFXi.out.2.1.1, hbp2, HCi.out.lt⟩, cp1, e5, g1, g2⟩
                have HKeep : Hid (∀ w', Below wi.heap.size wi w' → w'.cell? ⟨w4.heap.size, 0, none⟩ = some (.int .i64 a) ∧ w'.cell? ⟨w4.heap.size, 1, none⟩ = some (.int .i64 b') ∧ w'.frozen? ⟨w4.heap.size, 0, none⟩ = false ∧ w'.frozen? ⟨w4.heap.size, 1, none⟩ = false ∧ w'.cell? ⟨bp, i, none⟩ = some (.int .i64 j) ∧ w'.cell? ⟨w.heap.size, 0, none⟩ = some (.slice (some ⟨b, o, none⟩) n cap) ∧ w'.cell? ⟨g, y * 2, none⟩ = some (.int .i64 v1) ∧ w'.cell? ⟨g, y * 2 + 1, none⟩ = some (.int .i64 v2)) := fun w' hw' => by
                  obtain ⟨p0, p1, p2, p3⟩ := pair_at ((hw'.block _ hqi).trans HCi2.out)
                  obtain ⟨⟨-, z2, z3, z4⟩, z5, z6, z7, z8⟩ := HKp.out
                  exact ⟨p0, p1, p2, p3, (hw'.cell (p := ⟨bp, i, none⟩) z3).trans z5, (hw'.cell (p := ⟨w.heap.size, 0, none⟩) z2).trans z6, (hw'.cell (p := ⟨g, y * 2, none⟩) z4).trans z7, (hw'.cell (p := ⟨g, y * 2 + 1, none⟩) z4).trans z8⟩
                have hjd : (j : Int) < (dd.n : Int) := by omega
                clear hmem hj hMm hcellp hy1 hy2 hatP hgd hgab hiP e1 e2 e3 hz4
                by_cases hs0 : sg = 0
                · subst hs0
                  rw [if_neg (by decide), if_neg (by decide)] at hSt
                  have HNi : Hid ((P.take (i + 1)).foldl (partStep dd.mem (atP D n dim mm x Lx)) (0, 0) = (a, b')) := hSt
                  clear hSt hsg hP1 hP2
                  go_wp2_with fail
                  first | (go_quiet (fail); go_wp2_with fail) | skip
                  go_roundg (NP - (i + 1))
                  case measure => omega
                  case rel => first | exact ⟨i + 1, a, b', by omega, rfl, by go_num, HNi, HCi2, HGi⟩ | exact ⟨i + 1, a, b', by omega, rfl, by go_num, HNi, HCi2.out, grown_then HGi.out (below_drewN (Below.refl _ _) _)⟩
                by_cases hs1 : sg = 1
                · subst hs1
                  rw [if_pos rfl] at hSt
                  obtain ⟨⟨rk, rn⟩, hr1⟩ : ∃ r : Int × Int, plusP a b' v1 v2 = r := ⟨_, rfl⟩
                  rw [hr1] at hSt hP1
                  simp only at hP1
                  have HNi : Hid ((P.take (i + 1)).foldl (partStep dd.mem (atP D n dim mm x Lx)) (0, 0) = (rk, rn)) := hSt
                  have HPlus : Hid (∀ w', Calls Tryz.prog 27 #[.agg #[.int .i64 a, .int .i64 b'], .agg #[.int .i64 v1, .int .i64 v2], .int .i64 1] w' fun e w'' => e = .returned (.agg #[.int .i64 rk, .int .i64 rn]) ∧ Below w'.heap.size w' w'') := hP1
                  clear hSt hsg hP1 hP2 hr1 hs0
                  go_wp2_with fail
                  go_quiet (fail)
                  go_wp2_with fail
                  generalize hwj : wi.drewN nq = wj
                  have hBj : Below wi.heap.size wi wj := by rw [← hwj]; exact below_drewN (Below.refl _ _) _
                  have HBj : Hid (Below wi.heap.size wi wj) := hBj
                  have HWith2 : Hid (∀ w', Below wj.heap.size wj w' → _) := fun w' hw' => HWith.out w' (onB HBj.out hw')
                  have HNum2 : Hid (∀ w' A' c', Below wj.heap.size wj w' → _) := fun w' A' c' hw' => HNum.out w' A' c' (onB HBj.out hw')
                  have HKeep2 : Hid (∀ w', Below wj.heap.size wj w' → _) := fun w' hw' => HKeep.out w' (onB HBj.out hw')
                  obtain ⟨j0, j1, j2, j3, j4, j5, j6, j7⟩ := HKeep.out _ hBj
                  clear hwj hBj HWith HNum HKeep s0 s1 f0 f1 cp1 e4 e5 g1 g2 m2
                  go_region_law ((first
                    | (go_simp; refine (HWith2.out _ (by go_grown)).mono ?_; rintro e w5 ⟨⟨A5, c5, rfl, hP5⟩, hb5⟩; have hN5 := onB (W0 := wj) (by go_grown) hb5; obtain ⟨l0, l1, l2, l3, l4, l5, l6, l7⟩ := HKeep2.out _ hN5; have HP5 : Hid (PlAt w5 A5 c5 (placeL D n y)) := hP5; clear hb5 hP5)
                    | (go_simp; refine (HNum2.out _ _ _ (by go_grown) (HP5.out.later (by go_grown))).mono ?_; rintro e w6 ⟨rfl, hb6⟩; have hN6 := onB (W0 := wj) (by go_grown) hb6; obtain ⟨n0, n1, n2, n3, n4, n5, n6, n7⟩ := HKeep2.out _ hN6; clear hb6)
                    | (go_simp; refine (HPlus.out _).mono ?_; rintro e w7 ⟨rfl, hb7⟩; have hN7 := onB (W0 := wj) (by go_grown) hb7; obtain ⟨r0, r1, r2, r3, r4, r5, r6, r7⟩ := HKeep2.out _ hN7; have HN7 : Hid (Below wi.heap.size wi _) := onB HBj.out hN7; clear hb7)))
                  all_goals clear hN5 hN6 hN7
                  all_goals go_wp2_with fail
                  all_goals go_roundg (NP - (i + 1))
                  all_goals first
                    | omega
                    | exact ⟨i + 1, rk, rn, by omega, rfl, by go_num, HNi, pair_set ((HN7.out.block _ hqi).trans HCi2.out), pair_grown (grown_then HGi.out HN7.out)⟩
                    | exact ⟨i + 1, rk, rn, by omega, rfl, by go_num, HNi, pair_set ((HN7.out.block _ hqi).trans HCi2.out), grown_drew (pair_grown (grown_then HGi.out HN7.out))⟩
                · have hs2 : sg = -1 := by omega
                  subst hs2
                  rw [if_neg (by decide), if_pos rfl] at hSt
                  obtain ⟨⟨rk, rn⟩, hr1⟩ : ∃ r : Int × Int, minusP a b' v1 v2 = r := ⟨_, rfl⟩
                  rw [hr1] at hSt hP2
                  simp only at hP2
                  have HNi : Hid ((P.take (i + 1)).foldl (partStep dd.mem (atP D n dim mm x Lx)) (0, 0) = (rk, rn)) := hSt
                  have HPlus : Hid (∀ w', Calls Tryz.prog 27 #[.agg #[.int .i64 a, .int .i64 b'], .agg #[.int .i64 v1, .int .i64 v2], .int .i64 (-1)] w' fun e w'' => e = .returned (.agg #[.int .i64 rk, .int .i64 rn]) ∧ Below w'.heap.size w' w'') := hP2
                  clear hSt hsg hP1 hP2 hr1 hs0 hs1
                  go_wp2_with fail
                  go_quiet (fail)
                  go_wp2_with fail
                  generalize hwj : wi.drewN nq = wj
                  have hBj : Below wi.heap.size wi wj := by rw [← hwj]; exact below_drewN (Below.refl _ _) _
                  have HBj : Hid (Below wi.heap.size wi wj) := hBj
                  have HWith2 : Hid (∀ w', Below wj.heap.size wj w' → _) := fun w' hw' => HWith.out w' (onB HBj.out hw')
                  have HNum2 : Hid (∀ w' A' c', Below wj.heap.size wj w' → _) := fun w' A' c' hw' => HNum.out w' A' c' (onB HBj.out hw')
                  have HKeep2 : Hid (∀ w', Below wj.heap.size wj w' → _) := fun w' hw' => HKeep.out w' (onB HBj.out hw')
                  obtain ⟨j0, j1, j2, j3, j4, j5, j6, j7⟩ := HKeep.out _ hBj
                  clear hwj hBj HWith HNum HKeep s0 s1 f0 f1 cp1 e4 e5 g1 g2 m2
                  go_region_law ((first
                    | (go_simp; refine (HWith2.out _ (by go_grown)).mono ?_; rintro e w5 ⟨⟨A5, c5, rfl, hP5⟩, hb5⟩; have hN5 := onB (W0 := wj) (by go_grown) hb5; obtain ⟨l0, l1, l2, l3, l4, l5, l6, l7⟩ := HKeep2.out _ hN5; have HP5 : Hid (PlAt w5 A5 c5 (placeL D n y)) := hP5; clear hb5 hP5)
                    | (go_simp; refine (HNum2.out _ _ _ (by go_grown) (HP5.out.later (by go_grown))).mono ?_; rintro e w6 ⟨rfl, hb6⟩; have hN6 := onB (W0 := wj) (by go_grown) hb6; obtain ⟨n0, n1, n2, n3, n4, n5, n6, n7⟩ := HKeep2.out _ hN6; clear hb6)
                    | (go_simp; refine (HPlus.out _).mono ?_; rintro e w7 ⟨rfl, hb7⟩; have hN7 := onB (W0 := wj) (by go_grown) hb7; obtain ⟨r0, r1, r2, r3, r4, r5, r6, r7⟩ := HKeep2.out _ hN7; have HN7 : Hid (Below wi.heap.size wi _) := onB HBj.out hN7; clear hb7)))
                  all_goals clear hN5 hN6 hN7
                  all_goals go_wp2_with fail
                  all_goals go_roundg (NP - (i + 1))
                  all_goals first
                    | omega
                    | exact ⟨i + 1, rk, rn, by omega, rfl, by go_num, HNi, pair_set ((HN7.out.block _ hqi).trans HCi2.out), pair_grown (grown_then HGi.out HN7.out)⟩
                    | exact ⟨i + 1, rk, rn, by omega, rfl, by go_num, HNi, pair_set ((HN7.out.block _ hqi).trans HCi2.out), grown_drew (pair_grown (grown_then HGi.out HN7.out))⟩
              · have hie : i = NP := by omega
                subst hie
                have hxL : x < Lx.length := by rw [HLxN.out]; exact hxl
                obtain ⟨g1, g2⟩ := HCi.out.at hxL
                have g3 := HCi.out.frozen (x * 2)
                have g4 := HCi.out.frozen (x * 2 + 1)
                have HC6 : Hid (CelB ((wi.setCell ⟨g, x * 2, none⟩ (.int .i64 a)).setCell ⟨g, x * 2 + 1, none⟩ (.int .i64 b')) g (passTo D n dim mm Lr (x + 1))) := by
                  show CelB _ _ _
                  rw [HNx2.out, ← HFinP.out, HFi.out]
                  exact HCi.out.set hxL a b'
                have HG6 : Hid (w3.grownBy ((wi.setCell ⟨g, x * 2, none⟩ (.int .i64 a)).setCell ⟨g, x * 2 + 1, none⟩ (.int .i64 b')) (some g)) := by
                  refine cel_grown ?_
                  refine ⟨HGi.out.os.trans HG5.out.os, HGi.out.tape.trans HG5.out.tape, HGi.out.output.trans HG5.out.output, Nat.le_trans HG5.out.size HGi.out.size, fun k hk hr => ?_⟩
                  refine (HGi.out.block k (Nat.lt_of_lt_of_le hk HG5.out.size) (fun e => ?_)).trans (HG5.out.block k hk hr)
                  have h6 := HG4.out.size
                  simp at e
                  omega
                clear hxL
                go_wp2_with fail
                go_roundg (N - (x + 1))
                case measure => omega
                case rel => exact ⟨x + 1, by omega, rfl, by go_num, HC6, HG6⟩
          · have hne : ((dg : Int) != (mm : Int)) = true := by simp; omega
            have HC5 : Hid (CelB w4 g (passTo D n dim mm Lr (x + 1))) := by show CelB _ _ _; rw [pass_miss (by rw [HDg.out]; exact hdm)]; exact HC4.out
            clear hdm
            go_wp2_with fail
            go_roundg (N - (x + 1))
            case measure => omega
            case rel => exact ⟨x + 1, by omega, rfl, by go_num, HC5, HG4⟩
        · have hxe : x = N := by omega
          subst hxe
          have t1 : decide ((x : Int) < (x : Int)) = false := decide_eq_false (by omega)
          have HC5 : Hid (CelB wm g (onceTo D n dim L (r + 1))) := by show CelB _ _ _; rw [HEq.out]; exact HCm.out
          have HG5 : Hid (w2.grownBy wm (some g)) := grown_trans HG3.out HGm.out
          clear xm
          go_wp2_with fail
          go_roundg (dd.n - (r + 1))
          case measure => omega
          case rel => exact ⟨r + 1, by omega, rfl, by have := HMm.out; congr 1; omega, HC5, HG5⟩
    · have hre : r = dd.n := by omega
      subst hre
      have hge : decide (0 ≤ (dd.n : Int) - 1 - (dd.n : Int)) = false := decide_eq_false (by omega)
      have HV : Hid (CelB wo g (onceV D n dim L)) := by show CelB _ _ _; unfold onceV; rw [HDD.out.1]; exact HCo.out
      have HVL : Hid ((onceV D n dim L).length = N) := by show _ = _; unfold onceV; rw [once_len]; exact HN.out
      clear xo1 xo2 xo3 xo4
      go_wp2_with fail
      go_ret
      exact ⟨⟨_, c', rfl, by rw [HVL.out]; exact hgc, hgc3, Or.inr ⟨g, 0, rfl, HV.out.celAt⟩⟩, HFXo.out.1⟩
end Go.Proofs.YtmjcnlpjnbcfjadGreatDoor
