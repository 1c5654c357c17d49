/-
  Cells folded by a dim: what Once of package fold answers, called in whatever memory.
-/
import Derived.Test.YtmjcnlpjnbcfjadFold4
namespace Go.Proofs.Ytmjcnlpjnbcfjad
open Go.ChangeShapes Go.WideShapes Go.ChangeAt Go.RowKit
set_option maxRecDepth 20000

def onceErr (D : Nat → Dm) (n : Nat) (L : List (Int × Int)) (dim : Int) : Int := if chkErr D n L ≠ 0 then chkErr D n L else if dim < 0 ∨ (n : Int) ≤ dim then 1 else 0
def onceR (D : Nat → Dm) (n : Nat) (L : List (Int × Int)) (dim : Int) : List (Int × Int) := if onceErr D n L dim = 0 then onceV D n dim.toNat L else []
theorem on0 {D : Nat → Dm} {n : Nat} {L : List (Int × Int)} {dim : Int} (h : chkErr D n L ≠ 0) : onceErr D n L dim = chkErr D n L ∧ onceR D n L dim = [] := by
  have h1 : onceErr D n L dim = chkErr D n L := by unfold onceErr; rw [if_pos h]
  exact ⟨h1, by unfold onceR; rw [h1, if_neg h]⟩
theorem on1 {D : Nat → Dm} {n : Nat} {L : List (Int × Int)} {dim : Int} (h : chkErr D n L = 0) (h1 : dim < 0 ∨ (n : Int) ≤ dim) : onceErr D n L dim = 1 ∧ onceR D n L dim = [] := by
  have h2 : onceErr D n L dim = 1 := by unfold onceErr; rw [if_neg (by simpa using h), if_pos h1]
  exact ⟨h2, by unfold onceR; rw [h2, if_neg (by decide)]⟩
theorem on2 {D : Nat → Dm} {n : Nat} {L : List (Int × Int)} {dim : Nat} (h : chkErr D n L = 0) (h1 : dim < n) : onceErr D n L dim = 0 ∧ onceR D n L dim = onceV D n dim L := by
  have h2 : onceErr D n L dim = 0 := by unfold onceErr; rw [if_neg (by simpa using h), if_neg (by omega)]
  exact ⟨h2, by unfold onceR; rw [h2, if_pos rfl]; rfl⟩
theorem once_next {D : Nat → Dm} {n dim : Nat} {L : List (Int × Int)} (r : Nat) : onceTo D n dim L (r + 1) = mbrV D n dim ((D dim).n - 1 - r) (onceTo D n dim L r) := rfl

set_option maxHeartbeats 8000000 in
theorem fonce_any (A0 : Option Addr) (cap n : Nat) (D : Nat → Dm) (A : Nat → Option Addr) (C : Nat → Nat) (AC : Option Addr) (cc : Nat) (L : List (Int × Int)) (dim : Int) (w : World) (hM : DimsV w A0 cap n D A C) (hL : CelV w AC cc L) :
    Calls Try.prog 19 #[.agg #[.slice A0 n cap], .slice AC L.length cc, .int .i64 dim] w fun e w' => (∃ A' c', e = .returned (.tuple #[.slice A' (onceR D n L dim).length c', errV (onceErr D n L dim)]) ∧ CelV w' A' c' (onceR D n L dim)) ∧ Below w.heap.size w w' := by
  have hB0 := ownOut_below w A0 n cap 24
  have h := fcheck_any A0 cap n D A C AC cc L (ownOut w A0 n cap 24) (hM.later hB0) (hL.later hB0)
  have HB0 : Hid (Below w.heap.size w (ownOut w A0 n cap 24)) := hB0
  have HLv : Hid (CelV w AC cc L) := hL
  have HM : Hid (DimsV w A0 cap n D A C) := hM
  clear hM hL hB0
  by_cases he : chkErr D n L = 0
  · obtain ⟨hR, hLN, hgood⟩ := chk_right he
    obtain ⟨hn1, hn4, hp3, hd⟩ := allErr_some hR
    have HE : Hid (chkErr D n L = 0) := he
    have HR : Hid ((allErr D n).2.2 = 0) := hR
    have HGd : Hid (goodL L) := hgood
    have HLN : Hid (L.length = prodN D n) := hLN
    have HD : Hid (∀ j, j < n → 1 ≤ (D j).n ∧ (D j).n ≤ 12) := hd
    have hL0 : 0 < L.length := by rw [hLN]; exact prodN_pos fun j hj => (hd j hj).1
    have hL3 : L.length ≤ 3000 := by omega
    rw [he, errV_zero] at h
    obtain ⟨N, hN⟩ : ∃ N, L.length = N := ⟨_, rfl⟩
    have HN : Hid (L.length = N) := hN
    rw [hN] at h hL0 hL3 ⊢
    have hn' : (n : Int) ≤ 4 := by omega
    clear he hR hgood hLN hd hN
    by_cases hdm : dim < 0 ∨ (n : Int) ≤ dim
    · have HO : Hid (onceErr D n L dim = 1 ∧ onceR D n L dim = []) := on1 HE.out hdm
      by_cases hd0 : dim < 0
      · have hdd : decide (dim < 0) = true := decide_eq_true hd0
        clear hdm
        go_enter Try.func19, Try.ntmps19
        go_wp2_with fail
        refine h.mono ?_
        rintro e w1 ⟨rfl, hb1⟩
        have HB : Hid (Below w.heap.size w w1) := onB HB0.out hb1
        clear hb1 h
        go_wp2_with fail
        first | (go_quiet (fail); go_wp2_with fail) | skip
        go_ret2
        rw [HO.out.1, HO.out.2]
        exact ⟨⟨none, 0, rfl, CelV.nil _ _ _ (by decide)⟩, by first | exact HB.out | exact below_drewN HB.out _⟩
      · have hdd : decide (dim < 0) = false := decide_eq_false hd0
        have hdn : decide ((n : Int) ≤ dim) = true := decide_eq_true (by omega)
        have hb0 : w.heap.size < (ownOut w A0 n cap 24).heap.size := by rw [ownOut_size]; omega
        have hbo := ownOut_at w A0 n cap 24
        have HBo : Hid (w.heap.size < (ownOut w A0 n cap 24).heap.size ∧ (ownOut w A0 n cap 24).cell? ⟨w.heap.size, 0, none⟩ = some (.slice A0 n cap)) := ⟨hb0, hbo⟩
        clear hdm hb0 hbo
        go_enter Try.func19, Try.ntmps19
        go_wp2_with fail
        refine h.mono ?_
        rintro e w1 ⟨rfl, hb1⟩
        have HB : Hid (Below w.heap.size w w1) := onB HB0.out hb1
        have c1 := (hb1.cell (p := ⟨w.heap.size, 0, none⟩) HBo.out.1).trans HBo.out.2
        clear hb1 h
        go_wp2_with fail
        first | (go_quiet (fail); go_wp2_with fail) | skip
        go_ret2
        rw [HO.out.1, HO.out.2]
        exact ⟨⟨none, 0, rfl, CelV.nil _ _ _ (by decide)⟩, by first | exact HB.out | exact below_drewN HB.out _⟩
    · obtain ⟨dm, rfl⟩ : ∃ dm : Nat, dim = dm := ⟨dim.toNat, by omega⟩
      have hdmn : dm < n := by omega
      have HO : Hid (onceErr D n L (dm : Int) = 0 ∧ onceR D n L (dm : Int) = onceV D n dm L) := on2 HE.out hdmn
      have hdd : decide ((dm : Int) < 0) = false := decide_eq_false (by omega)
      have hdn : decide ((n : Int) ≤ (dm : Int)) = false := decide_eq_false (by omega)
      have hdi : (dm : Int) < (n : Int) := by omega
      have HBo : Hid (w.heap.size < (ownOut w A0 n cap 24).heap.size ∧ (ownOut w A0 n cap 24).cell? ⟨w.heap.size, 0, none⟩ = some (.slice A0 n cap)) := ⟨by rw [ownOut_size]; omega, ownOut_at ..⟩
      obtain ⟨hk1, hk2⟩ := HD.out dm hdmn
      clear hdm
      go_enter Try.func19, Try.ntmps19
      go_wp2_with fail
      refine h.mono ?_
      rintro e w1 ⟨rfl, hb1⟩
      have hB : Below w.heap.size w w1 := onB HB0.out hb1
      have HB : Hid (Below w.heap.size w w1) := hB
      have HBox : Hid (BoxN w1 w.heap.size (.slice A0 n cap)) := ⟨Nat.lt_of_lt_of_le HBo.out.1 hb1.size, (hb1.cell (p := ⟨w.heap.size, 0, none⟩) HBo.out.1).trans HBo.out.2⟩
      have c1 := HBox.out.2
      obtain ⟨hcap, h0 | ⟨b, o, rfl, hMs⟩⟩ := HM.out.later hB
      · omega
      have HMs : Hid (DimsAt w1 b o n D A C) := hMs
      obtain ⟨hcc, hcc3, h0 | ⟨bc, oc, rfl, hCA⟩⟩ := HLv.out.later hB
      · have := HN.out; rw [h0] at this; simp at this; omega
      have hcl := cclone_any bc oc cc L w1 (by rw [HN.out]; exact hL0) (by rw [HN.out]; exact hL3) hCA
      rw [HN.out] at hcl hcc
      clear hb1 h hMs hB hCA
      go_wp2_with fail
      first | (go_quiet (fail); go_wp2_with fail) | skip
      refine hcl.mono ?_
      rintro e w2 ⟨⟨g, c', rfl, hg, hc1, hc2, hCB⟩, hb2⟩
      have HB2 : Hid (Below w1.heap.size w1 w2) := hb2
      have HCB : Hid (CelB w2 g L) := hCB
      have HBox2 : Hid (BoxN w2 w.heap.size (.slice (some ⟨b, o, none⟩) n cap)) := HBox.out.later hb2
      have HMs2 : Hid (DimsAt w2 b o n D A C) := HMs.out.later hb2
      obtain ⟨d0, d1, d2, -⟩ := HMs2.out.2 dm hdmn
      have c2 := HBox2.out.2
      have hwg : w.heap.size < g := Nat.lt_of_lt_of_le HBox.out.1 hg
      have hbz := HMs2.out.1
      have HLt : Hid (g < w2.heap.size) := hCB.lt
      obtain ⟨dn, hdn'⟩ : ∃ dn, (D dm).n = dn := ⟨_, rfl⟩
      have HDN : Hid ((D dm).n = dn) := hdn'
      rw [hdn'] at d2 hk1 hk2
      have hdn1 : (1 : Int) ≤ (dn : Int) := by omega
      have hdn2 : (dn : Int) ≤ 12 := by omega
      clear hcl hb2 hCB hdn' d0 d1 c1
      go_wp2_with fail
      clear d2 c2
      go_loopg [10] dn (fun gg s10 wr => ∃ (r : Nat), r ≤ dn ∧ gg = dn - r ∧ s10 = .int .i64 ((dn : Int) - 1 - (r : Int)) ∧ Hid (CelB wr g (onceTo D n dm L r)) ∧ Hid (w2.grownBy wr (some g)))
      case atStart => exact ⟨0, Nat.zero_le _, rfl, by simp, HCB, grown_refl w2 (some g)⟩
      case round =>
        obtain ⟨r, hr, rfl, rfl, HC, HG⟩ := hrel
        have hB1 : Below w1.heap.size w1 wr := HB2.out.grown HG.out HB2.out.size (fun j hj => by cases hj; exact hg)
        have HB1 : Hid (Below w1.heap.size w1 wr) := hB1
        have HBr : Hid (BoxN wr w.heap.size (.slice (some ⟨b, o, none⟩) n cap)) := boxn_other HBox2.out (by omega) HG.out
        have cr := HBr.out.2
        by_cases hlt : r < dn
        · obtain ⟨mm, hmm⟩ : ∃ mm : Nat, (dn : Int) - 1 - (r : Int) = mm := ⟨dn - 1 - r, by omega⟩
          have HMM : Hid (mm = (D dm).n - 1 - r) := by show _ = _; rw [HDN.out]; omega
          have HMm : Hid ((dn : Int) - 1 - (r : Int) = mm) := hmm
          have hf := fmem_any b o cap n dm mm g c' D A C (onceTo D n dm L r) w1 wr HR.out hdmn hcap (by rw [HDN.out]; omega) (by rw [once_len]; exact HLN.out) (by rw [once_len, HN.out]; exact hc1) hc2 (once_good HGd.out r) HMs.out hB1 hg HC.out
          rw [once_len, HN.out] at hf
          have hge : decide (0 ≤ (mm : Int)) = true := decide_eq_true (by omega)
          have hm12 : (mm : Int) ≤ 12 := by omega
          have HNx : Hid (onceTo D n dm L (r + 1) = mbrV D n dm mm (onceTo D n dm L r)) := by show _ = _; rw [once_next, ← HMM.out]
          rw [hmm]
          clear hB1 hmm
          go_wp2_with fail
          refine hf.mono ?_
          rintro e w3 ⟨rfl, hC3, hG3⟩
          have HC3 : Hid (CelB w3 g (onceTo D n dm L (r + 1))) := by show CelB _ _ _; rw [HNx.out]; exact hC3
          have HG3 : Hid (w2.grownBy w3 (some g)) := grown_trans HG.out hG3
          clear hC3 hG3 hf
          go_wp2_with fail
          go_roundg (dn - (r + 1))
          case measure => omega
          case rel => exact ⟨r + 1, by omega, rfl, by have := HMm.out; congr 1; omega, HC3, HG3⟩
        · have hre : r = dn := by omega
          subst hre
          have hge : decide (0 ≤ (r : Int) - 1 - (r : Int)) = false := decide_eq_false (by omega)
          have HV : Hid (onceV D n dm L = onceTo D n dm L r) := by show _ = _; unfold onceV; rw [HDN.out]
          have HVL : Hid ((onceTo D n dm L r).length = N) := by show _ = _; rw [once_len]; exact HN.out
          clear hB1
          go_wp2_with fail
          go_ret2
          rw [HO.out.1, HO.out.2, HV.out, HVL.out]
          exact ⟨⟨_, c', rfl, by rw [HVL.out]; exact hc1, hc2, Or.inr ⟨g, 0, rfl, HC.out.celAt⟩⟩, onB HB.out HB1.out⟩
  · obtain ⟨h1, h2⟩ := on0 (dim := dim) he
    have HO : Hid (onceErr D n L dim = chkErr D n L ∧ onceR D n L dim = []) := ⟨h1, h2⟩
    have HE : Hid (errV (chkErr D n L) = .iface 77 (.int .i64 (chkErr D n L))) := errV_some he
    rw [errV_some he] at h
    clear h1 h2 he
    generalize chkErr D n L = ce at h HE HO
    generalize L.length = N at h
    go_enter Try.func19, Try.ntmps19
    go_wp2_with fail
    refine h.mono ?_
    rintro e w1 ⟨rfl, hb1⟩
    have HB : Hid (Below w.heap.size w w1) := onB HB0.out hb1
    clear hb1 h
    go_wp2_with fail
    go_ret2
    rw [HO.out.1, HO.out.2, HE.out]
    exact ⟨⟨none, 0, rfl, CelV.nil _ _ _ (by decide)⟩, HB.out⟩
end Go.Proofs.Ytmjcnlpjnbcfjad
