/-
  Cells folded by a dim: what Once of package fold answers, called in whatever memory.
  What is written, by number, and all dims folded in an order: what Cells, eachOnce and All of package fold answer, called in whatever memory.
  All dims folded in an order: what eachOnce and All of package fold answer, called in whatever memory.
  A dim that is folded once more changes nothing, on plain data; what tallysame.Cells answers of the same cells, called in whatever memory.
-/
import Derived.Test.YtmjcnlpjnbcfjadGreatDoorFold4
import Derived.Test.YtmjcnlpjnbcfjadGreatDoorInpD
import Derived.Test.YtmjcnlpjnbcfjadGreatDoorPl3
import Derived.Test.YtmjcnlpjnbcfjadGreatDoorTree4
namespace Go.Proofs.YtmjcnlpjnbcfjadGreatDoor
open Go.ChangeShapes Go.WideShapes Go.ChangeAt Go.RowKit
set_option maxRecDepth 20000

def onceErr (D : Nat → Dm) (n : Nat) (L : List (Int × Int)) (dim : Int) : Int := if chkErr D n L ≠ 0 then chkErr D n L else if dim < 0 ∨ (n : Int) ≤ dim then 1 else 0
def onceR (D : Nat → Dm) (n : Nat) (L : List (Int × Int)) (dim : Int) : List (Int × Int) := if onceErr D n L dim = 0 then onceV D n dim.toNat L else []
theorem on0 {D : Nat → Dm} {n : Nat} {L : List (Int × Int)} {dim : Int} (h : chkErr D n L ≠ 0) : onceErr D n L dim = chkErr D n L ∧ onceR D n L dim = [] := by
  have h1 : onceErr D n L dim = chkErr D n L := by unfold onceErr; rw [if_pos h]
  exact ⟨h1, by unfold onceR; rw [h1, if_neg h]⟩
theorem on1 {D : Nat → Dm} {n : Nat} {L : List (Int × Int)} {dim : Int} (h : chkErr D n L = 0) (h1 : dim < 0 ∨ (n : Int) ≤ dim) : onceErr D n L dim = 1 ∧ onceR D n L dim = [] := by
  have h2 : onceErr D n L dim = 1 := by unfold onceErr; rw [if_neg (by simpa using h), if_pos h1]
  exact ⟨h2, by unfold onceR; rw [h2, if_neg (by decide)]⟩
theorem on2 {D : Nat → Dm} {n : Nat} {L : List (Int × Int)} {dim : Nat} (h : chkErr D n L = 0) (h1 : dim < n) : onceErr D n L dim = 0 ∧ onceR D n L dim = onceV D n dim L := by
  have h2 : onceErr D n L dim = 0 := by unfold onceErr; rw [if_neg (by simpa using h), if_neg (by omega)]
  exact ⟨h2, by unfold onceR; rw [h2, if_pos rfl]; rfl⟩
theorem once_next {D : Nat → Dm} {n dim : Nat} {L : List (Int × Int)} (r : Nat) : onceTo D n dim L (r + 1) = mbrV D n dim ((D dim).n - 1 - r) (onceTo D n dim L r) := rfl

set_option maxHeartbeats 8000000 in
theorem fonce_any (A0 : Option Addr) (cap n : Nat) (D : Nat → Dm) (A : Nat → Option Addr) (C : Nat → Nat) (AC : Option Addr) (cc : Nat) (L : List (Int × Int)) (dim : Int) (w : World) (hM : DimsV w A0 cap n D A C) (hL : CelV w AC cc L) :
    Calls Tryz.prog 15 #[.agg #[.slice A0 n cap], .slice AC L.length cc, .int .i64 dim] w fun e w' => (∃ A' c', e = .returned (.tuple #[.slice A' (onceR D n L dim).length c', errV (onceErr D n L dim)]) ∧ CelV w' A' c' (onceR D n L dim)) ∧ Below w.heap.size w w' := by
  have hB0 := ownOut_below w A0 n cap 24
  have h := fcheck_any A0 cap n D A C AC cc L (ownOut w A0 n cap 24) (hM.later hB0) (hL.later hB0)
  have HB0 : Hid (Below w.heap.size w (ownOut w A0 n cap 24)) := hB0
  have HLv : Hid (CelV w AC cc L) := hL
  have HM : Hid (DimsV w A0 cap n D A C) := hM
  clear hM hL hB0
  by_cases he : chkErr D n L = 0
  · obtain ⟨hR, hLN, hgood⟩ := chk_right he
    obtain ⟨hn1, hn4, hp3, hd⟩ := allErr_some hR
    have HE : Hid (chkErr D n L = 0) := he
    have HR : Hid ((allErr D n).2.2 = 0) := hR
    have HGd : Hid (goodL L) := hgood
    have HLN : Hid (L.length = prodN D n) := hLN
    have HD : Hid (∀ j, j < n → 1 ≤ (D j).n ∧ (D j).n ≤ 12) := hd
    have hL0 : 0 < L.length := by rw [hLN]; exact prodN_pos fun j hj => (hd j hj).1
    have hL3 : L.length ≤ 3000 := by omega
    rw [he, errV_zero] at h
    obtain ⟨N, hN⟩ : ∃ N, L.length = N := ⟨_, rfl⟩
    have HN : Hid (L.length = N) := hN
    rw [hN] at h hL0 hL3 ⊢
    have hn' : (n : Int) ≤ 4 := by omega
    clear he hR hgood hLN hd hN
    by_cases hdm : dim < 0 ∨ (n : Int) ≤ dim
    · have HO : Hid (onceErr D n L dim = 1 ∧ onceR D n L dim = []) := on1 HE.out hdm
      by_cases hd0 : dim < 0
      · have hdd : decide (dim < 0) = true := decide_eq_true hd0
        clear hdm
        go_enter Tryz.func15, Tryz.ntmps15
        go_wp2_with fail
        refine h.mono ?_
        rintro e w1 ⟨rfl, hb1⟩
        have HB : Hid (Below w.heap.size w w1) := onB HB0.out hb1
        clear hb1 h
        go_wp2_with fail
        first | (go_quiet (fail); go_wp2_with fail) | skip
        go_ret2
        rw [HO.out.1, HO.out.2]
        exact ⟨⟨none, 0, rfl, CelV.nil _ _ _ (by decide)⟩, by first | exact HB.out | exact below_drewN HB.out _⟩
      · have hdd : decide (dim < 0) = false := decide_eq_false hd0
        have hdn : decide ((n : Int) ≤ dim) = true := decide_eq_true (by omega)
        have hb0 : w.heap.size < (ownOut w A0 n cap 24).heap.size := by rw [ownOut_size]; omega
        have hbo := ownOut_at w A0 n cap 24
        have HBo : Hid (w.heap.size < (ownOut w A0 n cap 24).heap.size ∧ (ownOut w A0 n cap 24).cell? ⟨w.heap.size, 0, none⟩ = some (.slice A0 n cap)) := ⟨hb0, hbo⟩
        clear hdm hb0 hbo
        go_enter Tryz.func15, Tryz.ntmps15
        go_wp2_with fail
        refine h.mono ?_
        rintro e w1 ⟨rfl, hb1⟩
        have HB : Hid (Below w.heap.size w w1) := onB HB0.out hb1
        have c1 := (hb1.cell (p := ⟨w.heap.size, 0, none⟩) HBo.out.1).trans HBo.out.2
        clear hb1 h
        go_wp2_with fail
        first | (go_quiet (fail); go_wp2_with fail) | skip
        go_ret2
        rw [HO.out.1, HO.out.2]
        exact ⟨⟨none, 0, rfl, CelV.nil _ _ _ (by decide)⟩, by first | exact HB.out | exact below_drewN HB.out _⟩
    · obtain ⟨dm, rfl⟩ : ∃ dm : Nat, dim = dm := ⟨dim.toNat, by omega⟩
      have hdmn : dm < n := by omega
      have HO : Hid (onceErr D n L (dm : Int) = 0 ∧ onceR D n L (dm : Int) = onceV D n dm L) := on2 HE.out hdmn
      have hdd : decide ((dm : Int) < 0) = false := decide_eq_false (by omega)
      have hdn : decide ((n : Int) ≤ (dm : Int)) = false := decide_eq_false (by omega)
      have hdi : (dm : Int) < (n : Int) := by omega
      have HBo : Hid (w.heap.size < (ownOut w A0 n cap 24).heap.size ∧ (ownOut w A0 n cap 24).cell? ⟨w.heap.size, 0, none⟩ = some (.slice A0 n cap)) := ⟨by rw [ownOut_size]; omega, ownOut_at ..⟩
      obtain ⟨hk1, hk2⟩ := HD.out dm hdmn
      clear hdm
      go_enter Tryz.func15, Tryz.ntmps15
      go_wp2_with fail
      refine h.mono ?_
      rintro e w1 ⟨rfl, hb1⟩
      have hB : Below w.heap.size w w1 := onB HB0.out hb1
      have HB : Hid (Below w.heap.size w w1) := hB
      have HBox : Hid (BoxN w1 w.heap.size (.slice A0 n cap)) := ⟨Nat.lt_of_lt_of_le HBo.out.1 hb1.size, (hb1.cell (p := ⟨w.heap.size, 0, none⟩) HBo.out.1).trans HBo.out.2⟩
      have c1 := HBox.out.2
      obtain ⟨hcap, h0 | ⟨b, o, rfl, hMs⟩⟩ := HM.out.later hB
      · omega
      have HMs : Hid (DimsAt w1 b o n D A C) := hMs
      obtain ⟨hcc, hcc3, h0 | ⟨bc, oc, rfl, hCA⟩⟩ := HLv.out.later hB
      · have := HN.out; rw [h0] at this; simp at this; omega
      have hcl := cclone_any bc oc cc L w1 (by rw [HN.out]; exact hL0) (by rw [HN.out]; exact hL3) hCA
      rw [HN.out] at hcl hcc
      clear hb1 h hMs hB hCA
      go_wp2_with fail
      first | (go_quiet (fail); go_wp2_with fail) | skip
      refine hcl.mono ?_
      rintro e w2 ⟨⟨g, c', rfl, hg, hc1, hc2, hCB⟩, hb2⟩
      have HB2 : Hid (Below w1.heap.size w1 w2) := hb2
      have HCB : Hid (CelB w2 g L) := hCB
      have HBox2 : Hid (BoxN w2 w.heap.size (.slice (some ⟨b, o, none⟩) n cap)) := HBox.out.later hb2
      have HMs2 : Hid (DimsAt w2 b o n D A C) := HMs.out.later hb2
      obtain ⟨d0, d1, d2, -⟩ := HMs2.out.2 dm hdmn
      have c2 := HBox2.out.2
      have hwg : w.heap.size < g := Nat.lt_of_lt_of_le HBox.out.1 hg
      have hbz := HMs2.out.1
      have HLt : Hid (g < w2.heap.size) := hCB.lt
      obtain ⟨dn, hdn'⟩ : ∃ dn, (D dm).n = dn := ⟨_, rfl⟩
      have HDN : Hid ((D dm).n = dn) := hdn'
      rw [hdn'] at d2 hk1 hk2
      have hdn1 : (1 : Int) ≤ (dn : Int) := by omega
      have hdn2 : (dn : Int) ≤ 12 := by omega
      clear hcl hb2 hCB hdn' d0 d1 c1
      go_wp2_with fail
      clear d2 c2
      go_loopg [10] dn (fun gg s10 wr => ∃ (r : Nat), r ≤ dn ∧ gg = dn - r ∧ s10 = .int .i64 ((dn : Int) - 1 - (r : Int)) ∧ Hid (CelB wr g (onceTo D n dm L r)) ∧ Hid (w2.grownBy wr (some g)))
      case atStart => exact ⟨0, Nat.zero_le _, rfl, by simp, HCB, grown_refl w2 (some g)⟩
      case round =>
        obtain ⟨r, hr, rfl, rfl, HC, HG⟩ := hrel
        have hB1 : Below w1.heap.size w1 wr := HB2.out.grown HG.out HB2.out.size (fun j hj => by cases hj; exact hg)
        have HB1 : Hid (Below w1.heap.size w1 wr) := hB1
        have HBr : Hid (BoxN wr w.heap.size (.slice (some ⟨b, o, none⟩) n cap)) := boxn_other HBox2.out (by omega) HG.out
        have cr := HBr.out.2
        by_cases hlt : r < dn
        · obtain ⟨mm, hmm⟩ : ∃ mm : Nat, (dn : Int) - 1 - (r : Int) = mm := ⟨dn - 1 - r, by omega⟩
          have HMM : Hid (mm = (D dm).n - 1 - r) := by show _ = _; rw [HDN.out]; omega
          have HMm : Hid ((dn : Int) - 1 - (r : Int) = mm) := hmm
          have hf := fmem_any b o cap n dm mm g c' D A C (onceTo D n dm L r) w1 wr HR.out hdmn hcap (by rw [HDN.out]; omega) (by rw [once_len]; exact HLN.out) (by rw [once_len, HN.out]; exact hc1) hc2 (once_good HGd.out r) HMs.out hB1 hg HC.out
          rw [once_len, HN.out] at hf
          have hge : decide (0 ≤ (mm : Int)) = true := decide_eq_true (by omega)
          have hm12 : (mm : Int) ≤ 12 := by omega
          have HNx : Hid (onceTo D n dm L (r + 1) = mbrV D n dm mm (onceTo D n dm L r)) := by show _ = _; rw [once_next, ← HMM.out]
          rw [hmm]
          clear hB1 hmm
          go_wp2_with fail
          refine hf.mono ?_
          rintro e w3 ⟨rfl, hC3, hG3⟩
          have HC3 : Hid (CelB w3 g (onceTo D n dm L (r + 1))) := by show CelB _ _ _; rw [HNx.out]; exact hC3
          have HG3 : Hid (w2.grownBy w3 (some g)) := grown_trans HG.out hG3
          clear hC3 hG3 hf
          go_wp2_with fail
          go_roundg (dn - (r + 1))
          case measure => omega
          case rel => exact ⟨r + 1, by omega, rfl, by have := HMm.out; congr 1; omega, HC3, HG3⟩
        · have hre : r = dn := by omega
          subst hre
          have hge : decide (0 ≤ (r : Int) - 1 - (r : Int)) = false := decide_eq_false (by omega)
          have HV : Hid (onceV D n dm L = onceTo D n dm L r) := by show _ = _; unfold onceV; rw [HDN.out]
          have HVL : Hid ((onceTo D n dm L r).length = N) := by show _ = _; rw [once_len]; exact HN.out
          clear hB1
          go_wp2_with fail
          go_ret2
          rw [HO.out.1, HO.out.2, HV.out, HVL.out]
          exact ⟨⟨_, c', rfl, by rw [HVL.out]; exact hc1, hc2, Or.inr ⟨g, 0, rfl, HC.out.celAt⟩⟩, onB HB.out HB1.out⟩
  · obtain ⟨h1, h2⟩ := on0 (dim := dim) he
    have HO : Hid (onceErr D n L dim = chkErr D n L ∧ onceR D n L dim = []) := ⟨h1, h2⟩
    have HE : Hid (errV (chkErr D n L) = .iface 58 (.int .i64 (chkErr D n L))) := errV_some he
    rw [errV_some he] at h
    clear h1 h2 he
    generalize chkErr D n L = ce at h HE HO
    generalize L.length = N at h
    go_enter Tryz.func15, Tryz.ntmps15
    go_wp2_with fail
    refine h.mono ?_
    rintro e w1 ⟨rfl, hb1⟩
    have HB : Hid (Below w.heap.size w w1) := onB HB0.out hb1
    clear hb1 h
    go_wp2_with fail
    go_ret2
    rw [HO.out.1, HO.out.2, HE.out]
    exact ⟨⟨none, 0, rfl, CelV.nil _ _ _ (by decide)⟩, HB.out⟩
end Go.Proofs.YtmjcnlpjnbcfjadGreatDoor

namespace Go.Proofs.YtmjcnlpjnbcfjadGreatDoor
open Go.ChangeShapes Go.WideShapes Go.ChangeAt Go.RowKit
set_option maxRecDepth 20000

/-- what is written, entry by entry -/
def wrStep (D : Nat → Dm) (n : Nat) (L : List (Int × Int)) (e : En) : List (Int × Int) := L.set (numI D e.pl n).toNat (1, e.n)
def wrV (D : Nat → Dm) (n : Nat) (l : List En) : List (Int × Int) := l.foldl (wrStep D n) (List.replicate (prodN D n) (0, 0))
theorem wrs_len (D : Nat → Dm) (n : Nat) : ∀ (l : List En) (L : List (Int × Int)), (l.foldl (wrStep D n) L).length = L.length
  | [], _ => rfl
  | e :: r, L => by rw [List.foldl_cons, wrs_len D n r]; unfold wrStep; rw [List.length_set]
theorem wrV_len (D : Nat → Dm) (n : Nat) (l : List En) : (wrV D n l).length = prodN D n := by unfold wrV; rw [wrs_len]; simp
theorem take_wr (D : Nat → Dm) (n : Nat) (L : List (Int × Int)) (xs : List EnL) {k : Nat} (h : k < xs.length) : ((lE xs).take (k + 1)).foldl (wrStep D n) L = wrStep D n (((lE xs).take k).foldl (wrStep D n) L) (xs.getD k noL).e := by
  have hk : k < (lE xs).length := by rw [lE_len]; exact h
  rw [List.take_succ_eq_append_getElem hk, List.foldl_append]
  have e : (lE xs)[k] = (xs.getD k noL).e := by rw [← lE_at, List.getD_eq_getElem?_getD, List.getElem?_eq_getElem hk]; rfl
  rw [e]
  rfl
theorem goodC_num {x : Int} (h : numOk x = true) : goodC (1, x) := by
  have hn : -1000000 ≤ x ∧ x ≤ 1000000 := by simpa [numOk] using h
  exact decide_eq_true (Or.inl ⟨rfl, by omega, by omega⟩)
theorem wrs_good {D : Nat → Dm} {n : Nat} : ∀ (l : List En) (L : List (Int × Int)), (∀ e ∈ l, numOk e.n = true) → goodL L → goodL (l.foldl (wrStep D n) L)
  | [], _, _, h => h
  | e :: r, _, hl, h => wrs_good r _ (fun x hx => hl x (List.mem_cons_of_mem _ hx)) (goodL_set h _ (goodC_num (hl e (List.mem_cons_self ..))))
theorem wrV_good {D : Nat → Dm} {n : Nat} {l : List En} (h : Ens D n l) : goodL (wrV D n l) :=
  wrs_good l _ (fun e he => (h.each e he).2.2) (fun c hc => by rw [List.eq_of_mem_replicate hc]; exact good_zero)

theorem run_make_cells (n : Nat) (hn : n ≤ 3000) (w : World) : (Instr.makeSlice 26 (.int .i64 (n : Int)) (.int .i64 (n : Int))).run Tryz.prog w = .ok (.slice (some ⟨w.heap.size, 0, none⟩) n n) (w.alloc (.cells (madeCells #[.int .i64 0, .int .i64 0] (n * 2)) 42)) := by
  obtain ⟨i0, hi0, hz0, hz1, hz2⟩ := info_parts Tryz.infoCe
  have hr := run_make (P := Tryz.prog) w 26 42 i0 _ Tryz.underlying26 hi0 hz0 .i64 .i64 n n (by omega) (Int.le_refl _) (by rw [hz2]; omega) (by omega)
  simp only [Int.toNat_natCast, hz1] at hr
  exact hr
theorem celB_made (w : World) (n : Nat) : CelB (w.alloc (.cells (madeCells #[.int .i64 0, .int .i64 0] (n * 2)) 42)) w.heap.size (List.replicate n (0, 0)) := by
  refine ⟨_, heap_alloc_new w _, fun k hk => ?_⟩
  have hk' : k < n := by simpa using hk
  have e1 : (List.replicate n ((0 : Int), (0 : Int))).getD k noC = (0, 0) := by simp [List.getD, hk']
  rw [e1]
  constructor
  · simp [madeCells, show k * 2 < n * 2 by omega]
  · simp [madeCells, show k * 2 + 1 < n * 2 by omega, show (k * 2 + 1) % 2 = 1 by omega]

def fcL (D : Nat → Dm) (n : Nat) (l : List En) : List (Int × Int) := if entsErr D n l = 0 then wrV D n l else []
theorem fc_ok {D : Nat → Dm} {n : Nat} {l : List En} (h : entsErr D n l = 0) : fcL D n l = wrV D n l := by unfold fcL; rw [if_pos h]
theorem fc_bad {D : Nat → Dm} {n : Nat} {l : List En} (h : entsErr D n l ≠ 0) : fcL D n l = [] := by unfold fcL; rw [if_neg h]

set_option maxHeartbeats 8000000 in
theorem fcells_any (A0 : Option Addr) (cap n : Nat) (D : Nat → Dm) (A : Nat → Option Addr) (C : Nat → Nat) (AE : Option Addr) (ce : Nat) (xs : List EnL) (w : World) (hM : DimsV w A0 cap n D A C) (hE : EnsV w AE ce xs) :
    Calls Tryz.prog 6 #[.agg #[.slice A0 n cap], .slice AE xs.length ce] w fun e w' => (∃ A' c', e = .returned (.tuple #[.slice A' (fcL D n (lE xs)).length c', errV (entsErr D n (lE xs))]) ∧ CelV w' A' c' (fcL D n (lE xs))) ∧ Below w.heap.size w w' := by
  have hB0 := ownOut_below w A0 n cap 24
  have h := icheck_any A0 cap n D A C AE ce xs (ownOut w A0 n cap 24) (hM.later hB0) (hE.later hB0)
  have HB0 : Hid (Below w.heap.size w (ownOut w A0 n cap 24)) := hB0
  have HM : Hid (DimsV w A0 cap n D A C) := hM
  have HE : Hid (EnsV w AE ce xs) := hE
  clear hM hE hB0
  by_cases he : entsErr D n (lE xs) = 0
  · have hEs := ens_of he
    have HEs : Hid (Ens D n (lE xs)) := hEs
    have hfew : xs.length ≤ 3000 := by have := hEs.few; rw [lE_len] at this; exact this
    have hR := hEs.right
    have HR : Hid ((allErr D n).2.2 = 0) := hR
    obtain ⟨hn1, hn4, hp3, hd⟩ := allErr_some hR
    have HF : Hid (fcL D n (lE xs) = wrV D n (lE xs) ∧ errV (entsErr D n (lE xs)) = .nilIface) := ⟨fc_ok he, by rw [he]; rfl⟩
    rw [he, errV_zero] at h
    have HBo : Hid (w.heap.size < (ownOut w A0 n cap 24).heap.size ∧ (ownOut w A0 n cap 24).cell? ⟨w.heap.size, 0, none⟩ = some (.slice A0 n cap)) := ⟨by rw [ownOut_size]; omega, ownOut_at ..⟩
    obtain ⟨N, hN⟩ : ∃ N, xs.length = N := ⟨_, rfl⟩
    have HN : Hid (xs.length = N) := hN
    rw [hN] at h hfew ⊢
    have hN' : (N : Int) ≤ 3000 := by omega
    obtain ⟨PN, hPN⟩ : ∃ PN, prodN D n = PN := ⟨_, rfl⟩
    have HPN : Hid (prodN D n = PN) := hPN
    rw [hPN] at hp3
    have hmk := run_make_cells PN hp3
    have hPN' : (PN : Int) ≤ 3000 := by omega
    have HWE : Hid (((lE xs).take N).foldl (wrStep D n) (List.replicate PN (0, 0)) = wrV D n (lE xs)) := by show _ = _; rw [List.take_of_length_le (by rw [lE_len, hN]; exact Nat.le_refl _), ← hPN]; rfl
    clear he hEs hR hd hN hPN
    go_enter Tryz.func6, Tryz.ntmps6
    go_wp2_with fail
    refine h.mono ?_
    rintro e w1 ⟨rfl, hb1⟩
    have hB : Below w.heap.size w w1 := onB HB0.out hb1
    have HB : Hid (Below w.heap.size w w1) := hB
    have HBox : Hid (BoxN w1 w.heap.size (.slice A0 n cap)) := ⟨Nat.lt_of_lt_of_le HBo.out.1 hb1.size, (hb1.cell (p := ⟨w.heap.size, 0, none⟩) HBo.out.1).trans HBo.out.2⟩
    have c1 := HBox.out.2
    have hpc := pcells_any A0 cap n D A C w1 (HM.out.later hB)
    have hcv : cellsV D n = (PN : Int) := by unfold cellsV; rw [if_pos HR.out, HPN.out]
    rw [HR.out, errV_zero, hcv] at hpc
    clear hb1 h hB hcv
    go_wp2_with fail
    refine hpc.mono ?_
    rintro e w2 ⟨rfl, hb2⟩
    have HB2 : Hid (Below w.heap.size w w2) := onB HB.out hb2
    have HBox2 : Hid (BoxN w2 w.heap.size (.slice A0 n cap)) := HBox.out.later hb2
    obtain ⟨v2, hv2⟩ : ∃ v, w2.alloc (.cells (madeCells #[.int .i64 0, .int .i64 0] (PN * 2)) 42) = v := ⟨_, rfl⟩
    have hBv : Below w2.heap.size w2 v2 := by rw [← hv2]; go_grown
    have HBv : Hid (Below w2.heap.size w2 v2) := hBv
    have HCv : Hid (CelB v2 w2.heap.size (List.replicate PN (0, 0))) := by rw [← hv2]; exact celB_made w2 PN
    have HBoxv : Hid (BoxN v2 w.heap.size (.slice A0 n cap)) := HBox2.out.later hBv
    have hwz : w.heap.size < w2.heap.size := HBox2.out.1
    clear hpc hb2 c1 hBv
    go_wp2_with fail
    clear hmk hv2
    go_loopg [32] N (fun gg s32 wr => ∃ (k : Nat), k ≤ N ∧ gg = N - k ∧ s32 = .int .i64 k ∧ Hid (CelB wr w2.heap.size (((lE xs).take k).foldl (wrStep D n) (List.replicate PN (0, 0)))) ∧ Hid (v2.grownBy wr (some w2.heap.size)))
    case atStart => exact ⟨0, Nat.zero_le _, rfl, rfl, HCv, grown_refl v2 _⟩
    case round =>
      obtain ⟨k, hk, rfl, rfl, HC, HG⟩ := hrel
      have hB2r : Below w2.heap.size w2 wr := HBv.out.grown HG.out HBv.out.size (fun j hj => by cases hj; exact Nat.le_refl _)
      have HB2r : Hid (Below w2.heap.size w2 wr) := hB2r
      have HBr : Hid (Below w.heap.size w wr) := onB HB2.out hB2r
      by_cases hlt : k < N
      · have hkx : k < xs.length := by rw [HN.out]; exact hlt
        have hki : (k : Int) < (N : Int) := by omega
        obtain ⟨-, -, h0 | ⟨bb, oo, rfl, hA⟩⟩ := HE.out.later HBr.out
        · have := HN.out; rw [h0] at this; simp at this; omega
        obtain ⟨c1, c2⟩ := hA.at hkx
        have hmem : (xs.getD k noL).e ∈ lE xs := List.mem_map.2 ⟨_, enl_mem hkx, rfl⟩
        obtain ⟨hqI, -, hnum⟩ := HEs.out.each _ hmem
        have hnn : -1000000 ≤ (xs.getD k noL).e.n ∧ (xs.getD k noL).e.n ≤ 1000000 := by simpa [numOk] using hnum
        obtain ⟨hq1, hq2, -⟩ := numI_bound hqI (Nat.le_refl n)
        have hpl := hA.pl hkx
        have HWr := take_wr D n (List.replicate PN (0, 0)) xs hkx
        unfold wrStep at HWr
        obtain ⟨X, hX⟩ : ∃ X : Nat, numI D (xs.getD k noL).e.pl n = X := ⟨(numI D (xs.getD k noL).e.pl n).toNat, by omega⟩
        have hnv : numV D n (xs.getD k noL).e.pl = (X : Int) := by unfold numV; rw [if_pos hqI.ok, hX]
        have hXN : X < PN := by have := HPN.out; omega
        have hNum : ∀ w', Below wr.heap.size wr w' → _ := fun w' hw' => pnumber_any A0 cap n D A C (xs.getD k noL).A (xs.getD k noL).c (xs.getD k noL).e.pl w' (HM.out.later (onB HBr.out hw')) (hpl.later hw')
        rw [hnv, hqI.ok, errV_zero] at hNum
        have HNum : Hid (∀ w', Below wr.heap.size wr w' → _) := hNum
        have hof := fun w' => of_any (xs.getD k noL).e.n w'
        rw [ofP_in (by omega) (by omega)] at hof
        rw [hX, show ((X : Int)).toNat = X by omega] at HWr
        have HWR : Hid _ := HWr
        obtain ⟨LL, hLL⟩ : ∃ LL, ((lE xs).take k).foldl (wrStep D n) (List.replicate PN (0, 0)) = LL := ⟨_, rfl⟩
        have hLLn : LL.length = PN := by rw [← hLL, wrs_len]; simp
        have HCL : Hid (CelB wr w2.heap.size LL) := by rw [← hLL]; exact HC.out
        have HNx : Hid (((lE xs).take (k + 1)).foldl (wrStep D n) (List.replicate PN (0, 0)) = LL.set X (1, (xs.getD k noL).e.n)) := by
          show _ = _
          rw [← hLL]
          exact HWR.out
        have HBxr : Hid (BoxN wr w.heap.size (.slice A0 n cap)) := boxn_other HBoxv.out (by omega) HG.out
        have hXL : X < LL.length := by omega
        have HXL : Hid (X < LL.length) := hXL
        generalize (xs.getD k noL).A = A1 at c1 HNum
        generalize (xs.getD k noL).c = k1 at c1 HNum
        generalize (xs.getD k noL).e.n = num at c2 hnn hof HNx
        generalize (xs.getD k noL).e.pl.length = m1 at c1 HNum
        have hcr := HBxr.out.2
        have hXi : (X : Int) < (PN : Int) := by omega
        obtain ⟨y, hy⟩ : ∃ y, wr.alloc (.cells #[.slice A1 m1 k1, .int .i64 num] 48) = y := ⟨_, rfl⟩
        have hBy : Below wr.heap.size wr y := by rw [← hy]; go_grown
        have HBy : Hid (Below wr.heap.size wr y) := hBy
        have HPy : Hid (y.heap[wr.heap.size]? = some (.cells #[.slice A1 m1 k1, .int .i64 num] 48 (0, 0))) := by show _ = _; rw [← hy]; exact heap_alloc_new ..
        obtain ⟨p0, p1, -, -⟩ := pair_at HPy.out
        have hyo := (HBxr.out.later hBy).2
        clear hB2r hA hmem hqI hnum hpl HWr hNum hnv hLL hLLn hX hq1 hq2 hBy hXL HWR
        go_wp2_with fail
        refine (HNum.out _ HBy.out).mono ?_
        rintro e w5 ⟨rfl, hb5⟩
        have HB5 : Hid (Below y.heap.size y w5) := hb5
        have hwr : wr.heap.size < y.heap.size := (Array.getElem?_eq_some_iff.1 HPy.out).1
        have hP5 : w5.heap[wr.heap.size]? = some (.cells #[.slice A1 m1 k1, .int .i64 num] 48 (0, 0)) := (hb5.block _ hwr).trans HPy.out
        obtain ⟨-, s1, -, -⟩ := pair_at hP5
        clear hb5 hP5 p0 p1 hyo
        go_wp2_with fail
        refine (hof _).mono ?_
        rintro e w6 ⟨rfl, hb6⟩
        have hB6 : Below wr.heap.size wr w6 := onB (onB HBy.out HB5.out) hb6
        have HC6 : Hid (CelB w6 w2.heap.size LL) := HCL.out.later hB6
        obtain ⟨g1, g2⟩ := HC6.out.at HXL.out
        have g3 := HC6.out.frozen (X * 2)
        have g4 := HC6.out.frozen (X * 2 + 1)
        have HC7 : Hid (CelB ((w6.setCell ⟨w2.heap.size, X * 2, none⟩ (.int .i64 1)).setCell ⟨w2.heap.size, X * 2 + 1, none⟩ (.int .i64 num)) w2.heap.size (((lE xs).take (k + 1)).foldl (wrStep D n) (List.replicate PN (0, 0)))) := by show CelB _ _ _; rw [HNx.out]; exact HC6.out.set HXL.out 1 num
        have HG7 : Hid (v2.grownBy ((w6.setCell ⟨w2.heap.size, X * 2, none⟩ (.int .i64 1)).setCell ⟨w2.heap.size, X * 2 + 1, none⟩ (.int .i64 num)) (some w2.heap.size)) := cel_grown (grown_then HG.out hB6)
        clear hb6 hB6 hof s1
        go_wp2_with fail
        go_roundg (N - (k + 1))
        case measure => omega
        case rel => exact ⟨k + 1, by omega, rfl, by go_num, HC7, HG7⟩
      · have hke : k = N := by omega
        subst hke
        have HV : Hid (CelB wr w2.heap.size (wrV D n (lE xs))) := by rw [← HWE.out]; exact HC.out
        have HVL : Hid ((wrV D n (lE xs)).length = PN) := by show _ = _; rw [wrV_len]; exact HPN.out
        clear hB2r
        go_wp2_with fail
        go_ret2
        rw [HF.out.1, HF.out.2, HVL.out]
        exact ⟨⟨_, PN, rfl, by rw [HVL.out]; exact Nat.le_refl _, by omega, Or.inr ⟨_, 0, rfl, HV.out.celAt⟩⟩, HBr.out⟩
  · have HF : Hid (fcL D n (lE xs) = []) := fc_bad he
    have HEr : Hid (errV (entsErr D n (lE xs)) = .iface 58 (.int .i64 (entsErr D n (lE xs)))) := errV_some he
    rw [errV_some he] at h
    clear he
    generalize entsErr D n (lE xs) = ee at h HEr
    generalize xs.length = N at h
    go_enter Tryz.func6, Tryz.ntmps6
    go_wp2_with fail
    refine h.mono ?_
    rintro e w1 ⟨rfl, hb1⟩
    have HB : Hid (Below w.heap.size w w1) := onB HB0.out hb1
    clear hb1 h
    go_wp2_with fail
    go_ret2
    rw [HF.out, HEr.out]
    exact ⟨⟨none, 0, rfl, CelV.nil _ _ _ (by decide)⟩, HB.out⟩
end Go.Proofs.YtmjcnlpjnbcfjadGreatDoor

namespace Go.Proofs.YtmjcnlpjnbcfjadGreatDoor
open Go.ChangeShapes Go.WideShapes Go.ChangeAt Go.RowKit
set_option maxRecDepth 20000

set_option maxHeartbeats 1000000 in
theorem index_pl (A : Option Addr) (cap : Nat) (L : List Int) (i : Int) (w : World) (hn : L.length ≤ 12) (hL : PlAt w A cap L) : Calls Tryz.prog 64 #[.slice A L.length cap, .int .i64 i] w fun e w' => e = .returned (.int .i64 (findFrom (fun j => L.getD j 0 == i) L.length 0)) ∧ Below w.heap.size w w' := by
  obtain ⟨hc, h0 | ⟨b, o, rfl, hbw, hcell⟩⟩ := hL
  · subst h0
    simp only [List.length_nil]
    go_enter Tryz.func64, Tryz.ntmps64
    go_wp2_with fail
    refine wp_loop_rounds 1 ?_
    rw [rounds_succ]
    go_wp2_with fail
    go_ret
    exact ⟨rfl, Below.refl _ _⟩
  · have HC : Hid (∀ j, j < L.length → w.cell? ⟨b, o + j, none⟩ = some (.int .i64 (L.getD j 0))) := hcell
    obtain ⟨p, hp⟩ : ∃ p : Nat → Bool, p = fun j => L.getD j 0 == i := ⟨_, rfl⟩
    have HP : Hid (∀ j, p j = (L.getD j 0 == i)) := fun j => by rw [hp]
    rw [← hp]
    generalize hnn : L.length = n at hn hc HC
    clear hcell hp hnn
    go_enter Tryz.func64, Tryz.ntmps64
    go_wp2_with fail
    go_loopg [8] n (fun g s8 wr => ∃ (k : Nat), k ≤ n ∧ g = n - k ∧ s8 = .int .i64 k ∧ findFrom p (n - k) k = findFrom p n 0 ∧ wr = w)
    case atStart => exact ⟨0, Nat.zero_le _, rfl, rfl, rfl, rfl⟩
    case round =>
      obtain ⟨k, hk, rfl, rfl, hf, rfl⟩ := hrel
      have HF : Hid (findFrom p (n - k) k = findFrom p n 0) := hf
      clear hf
      by_cases hlt : k < n
      · have hki : (k : Int) < (n : Int) := by omega
        have hcx := HC.out k hlt
        have hsk : n - k = (n - (k + 1)) + 1 := by omega
        have hn' : (n : Int) ≤ 12 := by omega
        have hpk := HP.out k
        have HSK : Hid (n - k = (n - (k + 1)) + 1) := hsk
        generalize L.getD k 0 = x at hcx hpk
        clear hsk
        cases hb : p k
        · have HK : Hid (p k = false) := hb
          rw [hb] at hpk
          have hx : (i == x) = false := by
            have h1 : x ≠ i := by simpa using hpk.symm
            simpa using fun h : i = x => h1 h.symm
          clear hb hpk
          go_wp2_with fail
          go_roundg (n - (k + 1))
          case measure => omega
          case rel => exact ⟨k + 1, by omega, rfl, by go_num, by rw [← HF.out, HSK.out, findFrom_miss _ HK.out], rfl⟩
        · have HK : Hid (p k = true) := hb
          rw [hb] at hpk
          have hx : (i == x) = true := by
            have h1 : x = i := by simpa using hpk.symm
            simpa using h1.symm
          clear hb hpk
          go_wp2_with fail
          go_ret
          exact ⟨by rw [← HF.out, HSK.out, findFrom_hit _ HK.out]; rfl, Below.refl _ _⟩
      · have hke : k = n := by omega
        subst hke
        go_wp2_with fail
        go_ret
        exact ⟨by rw [← HF.out, Nat.sub_self]; rfl, Below.refl _ _⟩

theorem contains_pl (A : Option Addr) (cap : Nat) (L : List Int) (i : Int) (w : World) (hn : L.length ≤ 12) (hL : PlAt w A cap L) : Calls Tryz.prog 45 #[.slice A L.length cap, .int .i64 i] w fun e w' => e = .returned (.bool (inB L i)) ∧ Below w.heap.size w w' := by
  have h := index_pl A cap L i w hn hL
  have HI : Hid (decide (0 ≤ findFrom (fun j => L.getD j 0 == i) L.length 0) = inB L i) := find_in L i
  generalize findFrom (fun j => L.getD j 0 == i) L.length 0 = f at h HI
  generalize L.length = n at h
  clear hL hn
  go_enter Tryz.func45, Tryz.ntmps45
  go_wp2_with fail
  refine h.mono ?_
  rintro e w1 ⟨rfl, hb1⟩
  go_wp2_with fail
  go_ret
  exact ⟨by rw [← HI.out]; rfl, hb1⟩

/-- does an order name each of so many dims once -/
def missB (O : List Int) (i : Nat) : Bool := !(inB O (i : Int))
def eachB (n : Nat) (O : List Int) : Bool := decide (O.length = n) && decide (findFrom (missB O) n 0 < 0)
theorem pig : ∀ (R O : List Int), R.Nodup → (∀ x ∈ R, x ∈ O) → O.length ≤ R.length → O.Perm R
  | [], O, _, _, hl => by
    have : O = [] := List.eq_nil_of_length_eq_zero (by simpa using hl)
    rw [this]
  | a :: R, O, hn, hs, hl => by
    have ha : a ∈ O := hs a (List.mem_cons_self ..)
    have h1 := List.nodup_cons.1 hn
    have h2 := List.length_erase_of_mem ha
    have h3 : (O.erase a).Perm R := pig R (O.erase a) h1.2 (fun x hx => (List.mem_erase_of_ne (fun e => h1.1 (by rw [← e]; exact hx))).2 (hs x (List.mem_cons_of_mem _ hx))) (by simp only [List.length_cons] at hl; omega)
    exact (List.perm_cons_erase ha).trans (h3.cons a)
def rangeI (n : Nat) : List Int := (List.range n).map fun j => ((j : Nat) : Int)
theorem rangeI_nodup (n : Nat) : (rangeI n).Nodup := by
  unfold rangeI
  induction n with
  | zero => simp
  | succ n ih =>
    rw [List.range_succ, List.map_append, List.nodup_append]
    refine ⟨ih, by simp, fun a ha b hb e => ?_⟩
    simp only [List.map_cons, List.map_nil, List.mem_singleton] at hb
    simp only [List.mem_map, List.mem_range] at ha
    obtain ⟨j, hj, rfl⟩ := ha
    omega
theorem each_perm {n : Nat} {O : List Int} (h : eachB n O = true) : O.Perm (rangeI n) := by
  unfold eachB at h
  rw [Bool.and_eq_true] at h
  have h1 : O.length = n := of_decide_eq_true h.1
  have h2 := of_decide_eq_true h.2
  refine pig _ _ (rangeI_nodup n) (fun x hx => ?_) (by rw [h1]; simp [rangeI])
  simp only [rangeI, List.mem_map, List.mem_range] at hx
  obtain ⟨j, hj, rfl⟩ := hx
  have := find_none_all _ _ h2 j (Nat.zero_le _) (by omega)
  unfold missB inB at this
  simpa using this
theorem each_in {n : Nat} {O : List Int} (h : eachB n O = true) : O.length = n ∧ ∀ d ∈ O, ∃ j : Nat, d = j ∧ j < n := by
  have hp := each_perm h
  refine ⟨by rw [hp.length_eq]; simp [rangeI], fun d hd => ?_⟩
  have := hp.mem_iff.1 hd
  simp only [rangeI, List.mem_map, List.mem_range] at this
  obtain ⟨j, hj, rfl⟩ := this
  exact ⟨j, rfl, hj⟩

set_option maxHeartbeats 2000000 in
theorem each_any (AO : Option Addr) (cO : Nat) (O : List Int) (n : Nat) (w : World) (hn : n ≤ 4) (hO : PlAt w AO cO O) : Calls Tryz.prog 30 #[.slice AO O.length cO, .int .i64 n] w fun e w' => e = .returned (.bool (eachB n O)) ∧ Below w.heap.size w w' := by
  have hn' : (n : Int) ≤ 4 := by omega
  by_cases hl : O.length = n
  · have HR : Hid (eachB n O = decide (findFrom (missB O) n 0 < 0)) := by show _ = _; unfold eachB; rw [decide_eq_true hl, Bool.true_and]
    have hne : ((n : Int) != (n : Int)) = false := by simp
    have HO : Hid (PlAt w AO cO O) := hO
    have HL : Hid (O.length = n) := hl
    rw [hl]
    clear hO hl
    go_enter Tryz.func30, Tryz.ntmps30
    go_wp2_with fail
    go_loopg [11] n (fun g s11 wr => ∃ (k : Nat), k ≤ n ∧ g = n - k ∧ s11 = .int .i64 k ∧ Hid (findFrom (missB O) (n - k) k = findFrom (missB O) n 0) ∧ Below w.heap.size w wr)
    case atStart => exact ⟨0, Nat.zero_le _, rfl, rfl, (rfl : findFrom (missB O) (n - 0) 0 = findFrom (missB O) n 0), Below.refl _ _⟩
    case round =>
      obtain ⟨k, hk, rfl, rfl, HF, hBw⟩ := hrel
      have HW : Hid (Below w.heap.size w wr) := hBw
      by_cases hlt : k < n
      · have hki : (k : Int) < (n : Int) := by omega
        have hco := contains_pl AO cO O (k : Int) wr (by rw [HL.out]; omega) (HO.out.later hBw)
        rw [HL.out] at hco
        have HSK : Hid (n - k = (n - (k + 1)) + 1) := by show _ = _; omega
        have hms : missB O k = !(inB O (k : Int)) := rfl
        generalize inB O (k : Int) = t at hco hms
        clear hBw
        cases t
        · have HK : Hid (missB O k = true) := hms
          clear hms
          go_wp2_with fail
          refine hco.mono ?_
          rintro e w1 ⟨rfl, hb1⟩
          go_wp2_with fail
          go_ret
          refine ⟨?_, onB HW.out hb1⟩
          rw [HR.out, ← HF.out, HSK.out, findFrom_hit _ HK.out, decide_eq_false (by omega)]
          rfl
        · have HK : Hid (missB O k = false) := hms
          clear hms
          go_wp2_with fail
          refine hco.mono ?_
          rintro e w1 ⟨rfl, hb1⟩
          go_wp2_with fail
          go_roundg (n - (k + 1))
          case measure => omega
          case rel => exact ⟨k + 1, by omega, rfl, by go_num, (by rw [← HF.out, HSK.out, findFrom_miss _ HK.out] : findFrom (missB O) (n - (k + 1)) (k + 1) = findFrom (missB O) n 0), onB HW.out hb1⟩
      · have hke : k = n := by omega
        subst hke
        clear hBw
        go_wp2_with fail
        go_ret
        refine ⟨?_, HW.out⟩
        rw [HR.out, ← HF.out, Nat.sub_self]
        rfl
  · have HR : Hid (eachB n O = false) := by show _ = _; unfold eachB; rw [decide_eq_false hl, Bool.false_and]
    have hne : ((O.length : Int) != (n : Int)) = true := by simp; omega
    generalize O.length = N at hne
    clear hO hl
    go_enter Tryz.func30, Tryz.ntmps30
    go_wp2_with fail
    go_ret
    exact ⟨by rw [HR.out]; rfl, Below.refl _ _⟩

/-- folded by the dims of an order -/
def foldO (D : Nat → Dm) (n : Nat) (L : List (Int × Int)) (O : List Int) : List (Int × Int) := O.foldl (fun L d => onceV D n d.toNat L) L
theorem foldO_len (D : Nat → Dm) (n : Nat) : ∀ (O : List Int) (L : List (Int × Int)), (foldO D n L O).length = L.length
  | [], _ => rfl
  | d :: r, L => by
    have := foldO_len D n r (onceV D n d.toNat L)
    unfold foldO at this ⊢
    rw [List.foldl_cons, this]
    exact once_len ..
theorem foldO_good {D : Nat → Dm} {n : Nat} : ∀ (O : List Int) {L : List (Int × Int)}, goodL L → goodL (foldO D n L O)
  | [], _, h => h
  | d :: r, L, h => by
    have := foldO_good r (L := onceV D n d.toNat L) (D := D) (n := n) (once_good h _)
    unfold foldO at this ⊢
    rw [List.foldl_cons]
    exact this
def faErr (D : Nat → Dm) (n : Nat) (l : List En) (O : List Int) : Int := if entsErr D n l ≠ 0 then entsErr D n l else if eachB n O = true then 0 else 3
def faL (D : Nat → Dm) (n : Nat) (l : List En) (O : List Int) : List (Int × Int) := if faErr D n l O = 0 then foldO D n (wrV D n l) O else []
theorem fa0 {D : Nat → Dm} {n : Nat} {l : List En} {O : List Int} (h : entsErr D n l ≠ 0) : faErr D n l O = entsErr D n l ∧ faL D n l O = [] := by
  have h1 : faErr D n l O = entsErr D n l := by unfold faErr; rw [if_pos h]
  exact ⟨h1, by unfold faL; rw [h1, if_neg h]⟩
theorem fa1 {D : Nat → Dm} {n : Nat} {l : List En} {O : List Int} (h : entsErr D n l = 0) (h1 : eachB n O = false) : faErr D n l O = 3 ∧ faL D n l O = [] := by
  have h2 : faErr D n l O = 3 := by unfold faErr; rw [if_neg (by simpa using h), h1]; rfl
  exact ⟨h2, by unfold faL; rw [h2, if_neg (by decide)]⟩
theorem fa2 {D : Nat → Dm} {n : Nat} {l : List En} {O : List Int} (h : entsErr D n l = 0) (h1 : eachB n O = true) : faErr D n l O = 0 ∧ faL D n l O = foldO D n (wrV D n l) O := by
  have h2 : faErr D n l O = 0 := by unfold faErr; rw [if_neg (by simpa using h), h1]; rfl
  exact ⟨h2, by unfold faL; rw [h2, if_pos rfl]⟩
theorem foldO_take {D : Nat → Dm} {n : Nat} {L : List (Int × Int)} {O : List Int} {k : Nat} (h : k < O.length) : foldO D n L (O.take (k + 1)) = onceV D n (O.getD k 0).toNat (foldO D n L (O.take k)) := by
  unfold foldO
  rw [List.take_succ_eq_append_getElem h, List.foldl_append, List.getD_eq_getElem?_getD, List.getElem?_eq_getElem h]
  rfl

set_option maxHeartbeats 8000000 in
theorem fall_any (A0 : Option Addr) (cap n : Nat) (D : Nat → Dm) (A : Nat → Option Addr) (C : Nat → Nat) (AE : Option Addr) (ce : Nat) (xs : List EnL) (AO : Option Addr) (cO : Nat) (O : List Int) (w : World) (hM : DimsV w A0 cap n D A C) (hE : EnsV w AE ce xs) (hO : PlAt w AO cO O) :
    Calls Tryz.prog 11 #[.agg #[.slice A0 n cap], .slice AE xs.length ce, .slice AO O.length cO] w fun e w' => (∃ A' c', e = .returned (.tuple #[.slice A' (faL D n (lE xs) O).length c', errV (faErr D n (lE xs) O)]) ∧ CelV w' A' c' (faL D n (lE xs) O)) ∧ Below w.heap.size w w' := by
  have hB0 := ownOut_below w A0 n cap 24
  have h := fcells_any A0 cap n D A C AE ce xs (ownOut w A0 n cap 24) (hM.later hB0) (hE.later hB0)
  have HB0 : Hid (Below w.heap.size w (ownOut w A0 n cap 24)) := hB0
  have HM : Hid (DimsV w A0 cap n D A C) := hM
  have HO : Hid (PlAt w AO cO O) := hO
  have HBo : Hid (w.heap.size < (ownOut w A0 n cap 24).heap.size ∧ (ownOut w A0 n cap 24).cell? ⟨w.heap.size, 0, none⟩ = some (.slice A0 n cap)) := ⟨by rw [ownOut_size]; omega, ownOut_at ..⟩
  clear hM hE hB0 hO
  by_cases he : entsErr D n (lE xs) = 0
  · have hEs := ens_of he
    have HEs : Hid (Ens D n (lE xs)) := hEs
    obtain ⟨hn1, hn4, hp3, hd⟩ := allErr_some hEs.right
    have HE : Hid (entsErr D n (lE xs) = 0) := he
    have hn' : (n : Int) ≤ 4 := by omega
    rw [he, errV_zero, fc_ok he, wrV_len] at h
    obtain ⟨PN, hPN⟩ : ∃ PN, prodN D n = PN := ⟨_, rfl⟩
    have HPN : Hid (prodN D n = PN) := hPN
    rw [hPN] at hp3 h
    generalize xs.length = N at h
    clear he hEs hd hPN
    cases heb : eachB n O
    · have HF : Hid (faErr D n (lE xs) O = 3 ∧ faL D n (lE xs) O = []) := fa1 HE.out heb
      have hea := fun w' (hw' : Below w.heap.size w w') => each_any AO cO O n w' hn4 (HO.out.later hw')
      rw [heb] at hea
      generalize O.length = NO at hea
      clear heb
      go_enter Tryz.func11, Tryz.ntmps11
      go_wp2_with fail
      refine h.mono ?_
      rintro e w1 ⟨⟨AC, cc, rfl, -⟩, hb1⟩
      have HB : Hid (Below w.heap.size w w1) := onB HB0.out hb1
      have c1 := (hb1.cell (p := ⟨w.heap.size, 0, none⟩) HBo.out.1).trans HBo.out.2
      have hea1 := hea w1 HB.out
      clear hb1 h hea
      go_wp2_with fail
      refine hea1.mono ?_
      rintro e w2 ⟨rfl, hb2⟩
      have HB2 : Hid (Below w.heap.size w w2) := onB HB.out hb2
      clear hb2 hea1 c1
      go_wp2_with fail
      go_ret2
      rw [HF.out.1, HF.out.2]
      exact ⟨⟨none, 0, rfl, CelV.nil _ _ _ (by decide)⟩, HB2.out⟩
    · have HF : Hid (faErr D n (lE xs) O = 0 ∧ faL D n (lE xs) O = foldO D n (wrV D n (lE xs)) O) := fa2 HE.out heb
      obtain ⟨hOl, hOi⟩ := each_in heb
      have HOi : Hid (∀ d ∈ O, ∃ j : Nat, d = j ∧ j < n) := hOi
      have HOl : Hid (O.length = n) := hOl
      have hea := fun w' (hw' : Below w.heap.size w w') => each_any AO cO O n w' hn4 (HO.out.later hw')
      rw [heb, hOl] at hea
      have HFin : Hid (foldO D n (wrV D n (lE xs)) (O.take n) = foldO D n (wrV D n (lE xs)) O) := by show _ = _; rw [List.take_of_length_le (by rw [hOl]; exact Nat.le_refl _)]
      rw [hOl]
      clear heb hOl hOi
      go_enter Tryz.func11, Tryz.ntmps11
      go_wp2_with fail
      refine h.mono ?_
      rintro e w1 ⟨⟨AC, cc, rfl, hC⟩, hb1⟩
      have HB : Hid (Below w.heap.size w w1) := onB HB0.out hb1
      have HBox : Hid (BoxN w1 w.heap.size (.slice A0 n cap)) := ⟨Nat.lt_of_lt_of_le HBo.out.1 hb1.size, (hb1.cell (p := ⟨w.heap.size, 0, none⟩) HBo.out.1).trans HBo.out.2⟩
      have HC : Hid (CelV w1 AC cc (wrV D n (lE xs))) := hC
      have c1 := HBox.out.2
      have hea1 := hea w1 HB.out
      clear hb1 h hea hC
      go_wp2_with fail
      refine hea1.mono ?_
      rintro e w2 ⟨rfl, hb2⟩
      have HB2 : Hid (Below w.heap.size w w2) := onB HB.out hb2
      have HBox2 : Hid (BoxN w2 w.heap.size (.slice A0 n cap)) := HBox.out.later hb2
      have HC2 : Hid (CelV w2 AC cc (wrV D n (lE xs))) := HC.out.later hb2
      clear hb2 hea1 c1
      go_wp2_with fail
      go_loopg [8, 9, 30] n (fun gg s8 s9 s30 wr => ∃ (k : Nat) (Ac : Option Addr) (ac : Nat), k ≤ n ∧ gg = n - k ∧ s30 = .int .i64 k ∧ s9 = .nilIface ∧ s8 = .slice Ac PN ac ∧ Hid (CelV wr Ac ac (foldO D n (wrV D n (lE xs)) (O.take k))) ∧ Below w2.heap.size w2 wr)
      case atStart => exact ⟨0, AC, cc, Nat.zero_le _, rfl, rfl, rfl, rfl, HC2, Below.refl _ _⟩
      case round =>
        obtain ⟨k, Ac, ac, hk, rfl, rfl, rfl, rfl, HCr, hBw⟩ := hrel
        have HBw : Hid (Below w2.heap.size w2 wr) := hBw
        have HBr : Hid (Below w.heap.size w wr) := onB HB2.out hBw
        have cr := (HBox2.out.later hBw).2
        by_cases hlt : k < n
        · have hki : (k : Int) < (n : Int) := by omega
          have hkO : k < O.length := by rw [HOl.out]; exact hlt
          obtain ⟨hcO, h0 | ⟨bo, oo, rfl, hbo, hcell⟩⟩ := HO.out.later HBr.out
          · rw [h0] at hkO; simp at hkO
          rw [HOl.out] at hcO
          have co := hcell k hkO
          have hmem : O.getD k 0 ∈ O := by rw [List.getD_eq_getElem?_getD, List.getElem?_eq_getElem hkO]; exact List.getElem_mem hkO
          obtain ⟨j, hj, hjn⟩ := HOi.out _ hmem
          have hNx := foldO_take (D := D) (n := n) (L := wrV D n (lE xs)) hkO
          rw [hj] at co hNx
          rw [show ((j : Int)).toNat = j by omega] at hNx
          obtain ⟨Lk, hLk⟩ : ∃ Lk, foldO D n (wrV D n (lE xs)) (O.take k) = Lk := ⟨_, rfl⟩
          have hLl : Lk.length = prodN D n := by rw [← hLk, foldO_len, wrV_len]
          have hLg : goodL Lk := by rw [← hLk]; exact foldO_good _ (wrV_good HEs.out)
          rw [hLk] at hNx
          have HNx : Hid (foldO D n (wrV D n (lE xs)) (O.take (k + 1)) = onceV D n j Lk) := hNx
          have hck : chkErr D n Lk = 0 := chk_ok HEs.out.right hLl hLg
          have hfo := fonce_any A0 cap n D A C Ac ac Lk (j : Int) wr (HM.out.later HBr.out) (by rw [← hLk]; exact HCr.out)
          obtain ⟨o1, o2⟩ := on2 hck hjn
          rw [o1, o2, errV_zero, hLl, show (onceV D n j Lk).length = PN from by unfold onceV; rw [once_len, hLl]; exact HPN.out, HPN.out, ← HNx.out] at hfo
          clear hj hmem hcell hLk hLl hLg hNx hck o1 o2 hBw
          go_wp2_with fail
          refine hfo.mono ?_
          rintro e w3 ⟨⟨A3, c3, rfl, hC3⟩, hb3⟩
          have HC3 : Hid (CelV w3 A3 c3 (foldO D n (wrV D n (lE xs)) (O.take (k + 1)))) := hC3
          have HB3 : Hid (Below w2.heap.size w2 w3) := onB HBw.out hb3
          clear hC3 hb3 hfo
          go_wp2_with fail
          go_roundg (n - (k + 1))
          case measure => omega
          case rel => exact ⟨k + 1, A3, c3, by omega, rfl, by go_num, rfl, rfl, HC3, HB3.out⟩
        · have hke : k = n := by omega
          subst hke
          have HCf : Hid (CelV wr Ac ac (foldO D k (wrV D k (lE xs)) O)) := by rw [← HFin.out]; exact HCr.out
          have HFl : Hid ((foldO D k (wrV D k (lE xs)) O).length = PN) := by show _ = _; rw [foldO_len, wrV_len]; exact HPN.out
          clear hBw
          go_wp2_with fail
          go_ret2
          rw [HF.out.1, HF.out.2, HFl.out]
          exact ⟨⟨Ac, ac, rfl, HCf.out⟩, HBr.out⟩
  · obtain ⟨h1, h2⟩ := fa0 (O := O) he
    have HF : Hid (faErr D n (lE xs) O = entsErr D n (lE xs) ∧ faL D n (lE xs) O = []) := ⟨h1, h2⟩
    have HEr : Hid (errV (entsErr D n (lE xs)) = .iface 58 (.int .i64 (entsErr D n (lE xs)))) := errV_some he
    rw [errV_some he, fc_bad he] at h
    clear h1 h2 he
    generalize entsErr D n (lE xs) = ee at h HEr HF
    generalize xs.length = N at h
    generalize O.length = NO
    simp only [List.length_nil] at h
    go_enter Tryz.func11, Tryz.ntmps11
    go_wp2_with fail
    refine h.mono ?_
    rintro e w1 ⟨⟨AC, cc, rfl, -⟩, hb1⟩
    have HB : Hid (Below w.heap.size w w1) := onB HB0.out hb1
    clear hb1 h
    go_wp2_with fail
    go_ret2
    rw [HF.out.1, HF.out.2, HEr.out]
    exact ⟨⟨none, 0, rfl, CelV.nil _ _ _ (by decide)⟩, HB.out⟩
end Go.Proofs.YtmjcnlpjnbcfjadGreatDoor

namespace Go.Proofs.YtmjcnlpjnbcfjadGreatDoor
open Go.ChangeShapes Go.WideShapes Go.ChangeAt Go.RowKit
set_option maxRecDepth 20000

theorem getD_set {L : List (Int × Int)} {x y : Nat} {c : Int × Int} (hx : x < L.length) : (L.set x c).getD y (0, 0) = if y = x then c else L.getD y (0, 0) := by
  by_cases e : y = x
  · subst e; rw [if_pos rfl]; simp [List.getD, hx]
  · rw [if_neg e]; simp [List.getD, List.getElem?_set_ne (fun h => e h.symm)]
theorem list_same {a b : List (Int × Int)} (hl : a.length = b.length) (h : ∀ y, y < a.length → a.getD y (0, 0) = b.getD y (0, 0)) : a = b := by
  apply List.ext_getElem hl
  intro y h1 h2
  have := h y h1
  simpa [List.getD, h1, h2] using this
section
variable {D : Nat → Dm} {n dim : Nat} (hp : ∀ i, i < n → 1 ≤ (D i).n) (hd : dim < n) (ht : Tr (D dim).mem (D dim).n)
include hp hd ht
/-- what is read of parts does not change where only another member is reckoned -/
theorem atP_same {m : Nat} {L L' : List (Int × Int)} {y : Nat} (hy : y < prodN D n) (hm : y / stepD D n dim % (D dim).n = m) (h : ∀ z, z < prodN D n → m < z / stepD D n dim % (D dim).n → L'.getD z (0, 0) = L.getD z (0, 0)) : ∀ k ∈ partsOf (D dim).mem (D dim).n (m : Int), atP D n dim m y L' k = atP D n dim m y L k := fun k hk => by
  obtain ⟨j, rfl, h1, h2, -⟩ := part_behind ht hk
  obtain ⟨z, hz, hzl, hzd, -⟩ := part_place hp hd hy hm h2
  unfold atP cAt
  rw [hz]
  exact h z hzl (by rw [hzd]; exact h1)
theorem pass_get {m : Nat} {L : List (Int × Int)} (hL : L.length = prodN D n) : ∀ k, k ≤ L.length → ∀ y, y < L.length → (passTo D n dim m L k).getD y (0, 0) = if y < k ∧ y / stepD D n dim % (D dim).n = m then partsV (D dim).mem (atP D n dim m y L) (partsOf (D dim).mem (D dim).n m) else L.getD y (0, 0)
  | 0, _, y, _ => by rw [passTo, if_neg (by omega)]
  | k + 1, hk, y, hy => by
    have ih := pass_get hL (m := m) k (by omega)
    rw [passTo]
    by_cases hm : k / stepD D n dim % (D dim).n = m
    · rw [if_pos hm, getD_set (by rw [pass_len]; omega)]
      by_cases e : y = k
      · subst e
        rw [if_pos rfl, if_pos ⟨by omega, hm⟩]
        unfold partsV
        exact parts_same _ _ (atP_same hp hd ht (by omega) hm fun z hz hzm => by rw [ih z (by omega), if_neg (by omega)])
      · rw [if_neg e, ih y hy]
        by_cases h1 : y < k ∧ y / stepD D n dim % (D dim).n = m
        · rw [if_pos h1, if_pos ⟨by omega, h1.2⟩]
        · rw [if_neg h1, if_neg (by omega)]
    · rw [if_neg hm, ih y hy]
      by_cases h1 : y < k ∧ y / stepD D n dim % (D dim).n = m
      · rw [if_pos h1, if_pos ⟨by omega, h1.2⟩]
      · rw [if_neg h1, if_neg]
        rintro ⟨h2, h3⟩
        by_cases e : y = k
        · exact hm (by rw [← e]; exact h3)
        · exact h1 ⟨by omega, h3⟩
theorem mbr_get {m : Nat} {L : List (Int × Int)} (hL : L.length = prodN D n) {y : Nat} (hy : y < L.length) : (mbrV D n dim m L).getD y (0, 0) = if partsOf (D dim).mem (D dim).n (m : Int) ≠ [] ∧ y / stepD D n dim % (D dim).n = m then partsV (D dim).mem (atP D n dim m y L) (partsOf (D dim).mem (D dim).n m) else L.getD y (0, 0) := by
  unfold mbrV
  by_cases h : partsOf (D dim).mem (D dim).n (m : Int) = []
  · rw [if_pos h, if_neg (by simp [h])]
  · rw [if_neg h, pass_get hp hd ht hL _ (Nat.le_refl _) y hy]
    by_cases h1 : y / stepD D n dim % (D dim).n = m
    · rw [if_pos ⟨hy, h1⟩, if_pos ⟨h, h1⟩]
    · rw [if_neg (by omega), if_neg (by simp [h1])]
/-- each cell with a member is what comes of its parts -/
def FixAt (D : Nat → Dm) (n dim m : Nat) (L : List (Int × Int)) : Prop := ∀ y, y < L.length → y / stepD D n dim % (D dim).n = m → partsOf (D dim).mem (D dim).n (m : Int) ≠ [] → L.getD y (0, 0) = partsV (D dim).mem (atP D n dim m y L) (partsOf (D dim).mem (D dim).n m)
theorem fix_same {m : Nat} {L : List (Int × Int)} (hL : L.length = prodN D n) (h : FixAt D n dim m L) : mbrV D n dim m L = L := by
  refine list_same (mbr_len ..) fun y hy => ?_
  rw [mbr_len] at hy
  rw [mbr_get hp hd ht hL hy]
  split
  · rename_i h1; exact (h y hy h1.2 h1.1).symm
  · rfl
theorem fix_here {m : Nat} {L : List (Int × Int)} (hL : L.length = prodN D n) : FixAt D n dim m (mbrV D n dim m L) := fun y hy hm hP => by
  rw [mbr_len] at hy
  rw [mbr_get hp hd ht hL hy, if_pos ⟨hP, hm⟩]
  exact parts_same _ _ fun k hk => (atP_same hp hd ht (by omega) hm (fun z hz hzm => by rw [mbr_get hp hd ht hL (by omega), if_neg (by omega)]) k hk).symm
theorem fix_step {m m' : Nat} (hmm : m' < m) {L : List (Int × Int)} (hL : L.length = prodN D n) (h : FixAt D n dim m L) : FixAt D n dim m (mbrV D n dim m' L) := fun y hy hm hP => by
  rw [mbr_len] at hy
  rw [mbr_get hp hd ht hL hy, if_neg (by omega), h y hy hm hP]
  exact parts_same _ _ fun k hk => (atP_same hp hd ht (by omega) hm (fun z hz hzm => by rw [mbr_get hp hd ht hL (by omega), if_neg (by omega)]) k hk).symm
theorem once_fix {L : List (Int × Int)} (hL : L.length = prodN D n) : ∀ r, r ≤ (D dim).n → ∀ m, (D dim).n - r ≤ m → m < (D dim).n → FixAt D n dim m (onceTo D n dim L r)
  | 0, _, m, h1, h2 => by omega
  | r + 1, hr, m, h1, h2 => by
    rw [onceTo]
    have hl : (onceTo D n dim L r).length = prodN D n := by rw [once_len]; exact hL
    by_cases e : m = (D dim).n - 1 - r
    · rw [e]; exact fix_here hp hd ht hl
    · exact fix_step hp hd ht (by omega) hl (once_fix hL r (by omega) m (by omega) h2)
theorem once_twice {L : List (Int × Int)} (hL : L.length = prodN D n) : onceV D n dim (onceV D n dim L) = onceV D n dim L := by
  have hf := once_fix hp hd ht hL (D dim).n (Nat.le_refl _)
  have hl : (onceV D n dim L).length = prodN D n := by unfold onceV; rw [once_len]; exact hL
  have : ∀ r, r ≤ (D dim).n → onceTo D n dim (onceV D n dim L) r = onceV D n dim L := by
    intro r
    induction r with
    | zero => intro _; rfl
    | succ r ih =>
      intro hr
      rw [onceTo, ih (by omega)]
      exact fix_same hp hd ht hl (hf _ (by omega) (by omega))
  exact this _ (Nat.le_refl _)
end

set_option maxHeartbeats 4000000 in
theorem samecells_any (A B : Option Addr) (ca cb : Nat) (L : List (Int × Int)) (w : World) (hn : L.length ≤ 3000) (hA : CelV w A ca L) (hB : CelV w B cb L) : Calls Tryz.prog 8 #[.slice A L.length ca, .slice B L.length cb] w fun e w' => e = .returned (.bool true) ∧ Below w.heap.size w w' := by
  have HA : Hid (CelV w A ca L) := hA
  have HB : Hid (CelV w B cb L) := hB
  obtain ⟨N, hN⟩ : ∃ N, L.length = N := ⟨_, rfl⟩
  have HN : Hid (L.length = N) := hN
  rw [hN] at hn ⊢
  have hn' : (N : Int) ≤ 3000 := by omega
  have hne : ((N : Int) != (N : Int)) = false := by simp
  clear hA hB hN
  go_enter Tryz.func8, Tryz.ntmps8
  go_wp2_with fail
  go_loopg [5] N (fun g s5 wr => ∃ (k : Nat), k ≤ N ∧ g = N - k ∧ s5 = .int .i64 k ∧ Below w.heap.size w wr)
  case atStart => exact ⟨0, Nat.zero_le _, rfl, rfl, Below.refl _ _⟩
  case round =>
    obtain ⟨k, hk, rfl, rfl, hBw⟩ := hrel
    have HW : Hid (Below w.heap.size w wr) := hBw
    by_cases hlt : k < N
    · have hki : (k : Int) < (N : Int) := by omega
      have hkL : k < L.length := by rw [HN.out]; exact hlt
      obtain ⟨hca, -, h0 | ⟨b1, o1, rfl, hA⟩⟩ := HA.out.later hBw
      · rw [h0] at hkL; simp at hkL
      obtain ⟨hcb, -, h0 | ⟨b2, o2, rfl, hB⟩⟩ := HB.out.later hBw
      · rw [h0] at hkL; simp at hkL
      obtain ⟨a1, a2⟩ := hA.2 k hkL
      obtain ⟨b1', b2'⟩ := hB.2 k hkL
      rw [HN.out] at hca hcb
      generalize (L.getD k noC).1 = x at a1 b1'
      generalize (L.getD k noC).2 = y at a2 b2'
      clear hA hB hBw
      go_wp2_with fail
      first | (go_quiet (fail); go_wp2_with fail) | skip
      go_roundg (N - (k + 1))
      case measure => omega
      case rel => first | exact ⟨k + 1, by omega, rfl, by go_num, HW.out⟩ | exact ⟨k + 1, by omega, rfl, by go_num, below_drewN HW.out _⟩
    · have hke : k = N := by omega
      subst hke
      clear hBw
      go_wp2_with fail
      go_ret
      exact ⟨rfl, HW.out⟩
end Go.Proofs.YtmjcnlpjnbcfjadGreatDoor
