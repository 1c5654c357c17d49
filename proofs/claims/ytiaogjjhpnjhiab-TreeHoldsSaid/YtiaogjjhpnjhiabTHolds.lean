/-
  The walk of tallylaw1.TreeHolds: of a member that is no leaf the leafs are those of its parts, each in one; a path leads from part to whole; a leaf counts in what it is a part of as much as its path says: it returns true for every dim and place.
-/
import Derived.Test.YtiaogjjhpnjhiabTree9
import Derived.Test.YtiaogjjhpnjhiabTreeSum
import Derived.Deep.DeepCutAuto
namespace Go.Proofs.Ytiaogjjhpnjhiab
open Go.ChangeShapes Go.WideShapes Go.ChangeAt Go.RowKit
set_option maxRecDepth 20000

def thM (i : Nat) : Mem := if i = 0 then ⟨⟨#[98]⟩, -1, 0, ⟨#[]⟩⟩ else ⟨⟨#[99]⟩, 0, -1, ⟨#[]⟩⟩
def thD : Dm := ⟨⟨#[97]⟩, 0, 2, thM⟩
theorem th_val : wVal thD 0 1 = -1 := by decide +kernel
theorem th_err : wErr thD 0 1 = 0 := by decide +kernel

def thW (w : World) (d : Dm) (A : Option Addr) (cap T T' : Nat) : World := ((ownDim w d A cap T).alloc (.cells #[.string ⟨#[98]⟩, .int .i64 (-1), .int .i64 0, .string ⟨#[]⟩, .string ⟨#[99]⟩, .int .i64 0, .int .i64 (-1), .string ⟨#[]⟩] T')).alloc (.cells #[.string ⟨#[97]⟩, .int .i64 0, .slice (some ⟨w.heap.size + 1, 0, none⟩) 2 2] T)
theorem thW_size (w : World) (d : Dm) (A : Option Addr) (cap T T' : Nat) : (thW w d A cap T T').heap.size = w.heap.size + 3 := by unfold thW; simp [ownDim_size]
theorem thW_below (w : World) (d : Dm) (A : Option Addr) (cap T T' : Nat) : Below w.heap.size w (thW w d A cap T T') := by unfold thW ownDim; go_grown
theorem thW_over (w : World) (d : Dm) (A : Option Addr) (cap T T' : Nat) : Below (ownDim w d A cap T).heap.size (ownDim w d A cap T) (thW w d A cap T T') := by unfold thW; go_grown
theorem thW_mem (w : World) (d : Dm) (A : Option Addr) (cap T T' j : Nat) (v : Value) (h : (#[.string ⟨#[98]⟩, .int .i64 (-1), .int .i64 0, .string ⟨#[]⟩, .string ⟨#[99]⟩, .int .i64 0, .int .i64 (-1), .string ⟨#[]⟩] : Array Value)[j]? = some v) : (thW w d A cap T T').cell? ⟨w.heap.size + 1, j, none⟩ = some v := by
  unfold thW
  rw [World.cell?_alloc_lt _ _ ⟨w.heap.size + 1, j, none⟩ (by simp [ownDim_size])]
  rw [← ownDim_size w d A cap T, World.cell?_alloc_mark]
  exact h
theorem thW_mems (w : World) (d : Dm) (A : Option Addr) (cap T T' : Nat) : MemsV (thW w d A cap T T') (some ⟨w.heap.size + 1, 0, none⟩) 2 thD.n thD.mem := by
  refine ⟨Nat.le_refl _, Or.inr ⟨_, _, rfl, by rw [thW_size]; omega, fun i hi => ?_⟩⟩
  have hi' : i < 2 := hi
  match i, hi' with
  | 0, _ => exact ⟨thW_mem _ _ _ _ _ _ 0 _ rfl, thW_mem _ _ _ _ _ _ 1 _ rfl, thW_mem _ _ _ _ _ _ 2 _ rfl, thW_mem _ _ _ _ _ _ 3 _ rfl⟩
  | 1, _ => exact ⟨thW_mem _ _ _ _ _ _ 4 _ rfl, thW_mem _ _ _ _ _ _ 5 _ rfl, thW_mem _ _ _ _ _ _ 6 _ rfl, thW_mem _ _ _ _ _ _ 7 _ rfl⟩

/-- a dim that lies in a block, with its members -/
def DimIn (q : Nat) (d : Dm) (A : Option Addr) (cap : Nat) (w : World) : Prop :=
  q < w.heap.size ∧ (w.cell? ⟨q, 0, none⟩ = some (.string d.name) ∧ w.cell? ⟨q, 1, none⟩ = some (.int .i64 d.solve) ∧ w.cell? ⟨q, 2, none⟩ = some (.slice A d.n cap)) ∧ MemsV w A cap d.n d.mem
theorem DimIn.later {q : Nat} {d : Dm} {A : Option Addr} {cap : Nat} {w w' : World} (h : DimIn q d A cap w) (hB : Below w.heap.size w w') : DimIn q d A cap w' := by
  obtain ⟨h1, ⟨h2, h3, h4⟩, h5⟩ := h
  exact ⟨Nat.lt_of_lt_of_le h1 hB.size, ⟨(hB.cell (p := ⟨q, 0, none⟩) h1).trans h2, (hB.cell (p := ⟨q, 1, none⟩) h1).trans h3, (hB.cell (p := ⟨q, 2, none⟩) h1).trans h4⟩, h5.later hB⟩
theorem DimIn.own {w : World} {d : Dm} {A : Option Addr} {cap : Nat} (T : Nat) (hM : MemsV w A cap d.n d.mem) : DimIn w.heap.size d A cap (ownDim w d A cap T) :=
  ⟨by rw [ownDim_size]; omega, ownDim_at w d A cap T, hM.later (ownDim_below w d A cap T)⟩

theorem sumL_take_le (g : Int → Nat) (L : List Int) (j : Nat) : sumL g (L.take j) ≤ sumL g L := by
  have h := sumL_append g (L.take j) (L.drop j)
  rw [List.take_append_drop] at h
  omega
theorem sumL_take_succ (g : Int → Nat) (L : List Int) (j : Nat) (h : j < L.length) : sumL g (L.take (j + 1)) = sumL g (L.take j) + g (L.getD j 0) := by
  rw [List.take_add_one, List.getElem?_eq_getElem h, sumL_append]
  simp [sumL, List.getD, List.getElem?_eq_getElem h]
theorem IntsAt.some {w : World} {A : Option Addr} {cap : Nat} {L : List Int} (h : IntsAt w A cap L) (hl : 0 < L.length) : ∃ b, A = some ⟨b, 0, none⟩ ∧ b < w.heap.size ∧ ∀ j, j < L.length → w.cell? ⟨b, j, none⟩ = some (.int .i64 (L.getD j 0)) := by
  obtain ⟨_, h0 | h1⟩ := h
  · rw [h0] at hl; cases hl
  · exact h1

theorem kept {W w' : World} {p : Addr} {v : Value} (h : p.block < W.heap.size ∧ W.cell? p = some v) (hB : Below W.heap.size W w') : w'.cell? p = some v := (hB.cell h.1).trans h.2
theorem treeErr_k {d : Dm} (h : (dimErr d).2 = 0) {m : Nat} (hm : m < d.n) : treeErr d [(m : Int)] = 0 := by rw [treeErr_one h, if_neg (by omega)]
theorem treeErr_kk {d : Dm} (h : (dimErr d).2 = 0) {m q : Nat} (hm : m < d.n) (hq : q < d.n) : treeErr d [(m : Int), (q : Int)] = 0 := by rw [treeErr_two h, if_neg (by omega)]
/-- Path at a place, told as a slice of a length of its own -/
theorem tpath_at {d : Dm} {A : Option Addr} {cap m np : Nat} {w : World} (hM : MemsV w A cap d.n d.mem) (hd : (dimErr d).2 = 0) (hm : m < d.n) (hnp : (pathOf d.mem m).length = np) : Calls Try.prog 11 #[.agg #[.string d.name, .int .i64 d.solve, .slice A d.n cap], .int .i64 m] w fun e w' => (∃ A' c', e = .returned (.tuple #[.slice A' np c', .nilIface]) ∧ IntsAt w' A' c' (pathOf d.mem m)) ∧ Below w.heap.size w w' := by
  have h := tpath_any d A cap m w hM
  rw [treeErr_k hd hm, errV_zero, lst_ok rfl, hnp] at h
  exact h
theorem leafs_at {d : Dm} {A : Option Addr} {cap m nl : Nat} {w : World} (hM : MemsV w A cap d.n d.mem) (hd : (dimErr d).2 = 0) (hm : m < d.n) (hnl : (leafsOf d.mem d.n m).length = nl) : Calls Try.prog 9 #[.agg #[.string d.name, .int .i64 d.solve, .slice A d.n cap], .int .i64 m] w fun e w' => (∃ A' c', e = .returned (.tuple #[.slice A' nl c', .nilIface]) ∧ IntsAt w' A' c' (leafsOf d.mem d.n m)) ∧ Below w.heap.size w w' := by
  have h := leafs_any d A cap m w hM
  rw [treeErr_k hd hm, errV_zero, lst_ok rfl, hnl] at h
  exact h
theorem weight_at {d : Dm} {A : Option Addr} {cap m q : Nat} {w : World} (hM : MemsV w A cap d.n d.mem) (hd : (dimErr d).2 = 0) (hm : m < d.n) (hq : q < d.n) (hl : leafB d.mem d.n q = true) {v : Int} (hv : weightOf d.mem m q = v) : Calls Try.prog 8 #[.agg #[.string d.name, .int .i64 d.solve, .slice A d.n cap], .int .i64 m, .int .i64 q] w fun e w' => e = .returned (.tuple #[.int .i64 v, .nilIface]) ∧ Below w.heap.size w w' := by
  have h := tweight_any d A cap m q w hM
  have he : wErr d m q = 0 := wErr_ok (treeErr_kk hd hm hq) (by simpa using hl)
  rw [wVal_ok he, he, errV_zero, hv] at h
  exact h

/-- two slots hold a list and no error -/
def ListGot (n : Nat) (L : List Int) (w : World) (s t : Value) (wx : World) : Prop := ∃ A c, s = .slice A n c ∧ t = .nilIface ∧ IntsAt wx A c L ∧ Below w.heap.size w wx

set_option maxHeartbeats 8000000 in
theorem tholds_any (d : Dm) (A : Option Addr) (cap : Nat) (i : Int) (w : World) (hM : MemsV w A cap d.n d.mem) : Calls Try.prog 4 #[dimV d A cap, .int .i64 i] w fun e w' => e = .returned (.bool true) ∧ Below w.heap.size w w' := by
  have hwx := tweight_any thD (some ⟨w.heap.size + 1, 0, none⟩) 2 0 1 (thW w d A cap 29 26) (thW_mems ..)
  rw [th_val, th_err, errV_zero] at hwx
  have HX0 : Hid (DimIn w.heap.size d A cap (thW w d A cap 29 26)) := (DimIn.own 29 hM).later (thW_over ..)
  have HB0 : Hid (Below w.heap.size w (thW w d A cap 29 26)) := thW_below ..
  clear hM
  unfold dimV
  go_enter Try.func4, Try.ntmps4
  go_wp2_with fail
  refine hwx.mono ?_
  rintro e w1 ⟨rfl, hb⟩
  have HX1 : Hid (DimIn w.heap.size d A cap w1) := HX0.out.later hb
  have HB1 : Hid (Below w.heap.size w w1) := onB HB0.out hb
  obtain ⟨c0, c1, c2⟩ := HX1.out.2.1
  have hlf := leafs_any d A cap i w1 HX1.out.2.2
  unfold dimV at hlf
  clear hb hwx HX0 HB0
  by_cases he : treeErr d [i] = 0
  · obtain ⟨hd, k, rfl, hk⟩ := treeErr_in he
    rw [he, errV_zero, lst_ok rfl] at hlf
    have HE : Hid (treeErr d [(k : Int)] = 0) := he
    have HD : Hid ((dimErr d).2 = 0) := hd
    have hd2 := (dimErr_right hd).2.2.1
    have hd2' : (d.n : Int) ≤ 12 := by omega
    have hki : (k : Int) < (d.n : Int) := by omega
    have HT : Hid (Tr d.mem d.n) := Tr.of hd
    have hll : (leafsOf d.mem d.n k).length ≤ 12 := Nat.le_trans (selTo_len _ _) hd2
    clear he hd
    go_wp2_with fail
    refine hlf.mono ?_
    rintro e w2 ⟨⟨Al, cl, rfl, hIl⟩, hb⟩
    have HX2 : Hid (DimIn w.heap.size d A cap w2) := HX1.out.later hb
    have HB2 : Hid (Below w.heap.size w w2) := onB HB1.out hb
    have HL2 : Hid (IntsAt w2 Al cl (leafsOf d.mem d.n k)) := hIl
    clear c0 c1 c2 hb hIl hlf
    obtain ⟨c0, c1, c2⟩ := HX2.out.2.1
    have hpt := parts_any d A cap k w2 HX2.out.2.2
    unfold dimV at hpt
    rw [HE.out, errV_zero, lst_ok rfl] at hpt
    go_wp2_with fail
    refine hpt.mono ?_
    rintro e w3 ⟨⟨Ap, cp, rfl, hIp⟩, hb⟩
    have HX3 : Hid (DimIn w.heap.size d A cap w3) := HX2.out.later hb
    have HB3 : Hid (Below w.heap.size w w3) := onB HB2.out hb
    have HL3 : Hid (IntsAt w3 Al cl (leafsOf d.mem d.n k)) := HL2.out.later hb
    have HP3 : Hid (IntsAt w3 Ap cp (partsOf d.mem d.n k)) := hIp
    clear c0 c1 c2 hb hIp hpt HL2
    obtain ⟨c0, c1, c2⟩ := HX3.out.2.1
    have hpa := tpath_any d A cap k w3 HX3.out.2.2
    unfold dimV at hpa
    rw [HE.out, errV_zero, lst_ok rfl] at hpa
    go_wp2_with fail
    refine hpa.mono ?_
    rintro e w4 ⟨⟨Aa, ca, rfl, hIa⟩, hb⟩
    have HX4 : Hid (DimIn w.heap.size d A cap w4) := HX3.out.later hb
    have HB4 : Hid (Below w.heap.size w w4) := onB HB3.out hb
    have HL4 : Hid (IntsAt w4 Al cl (leafsOf d.mem d.n k)) := HL3.out.later hb
    have HP4 : Hid (IntsAt w4 Ap cp (partsOf d.mem d.n k)) := HP3.out.later hb
    have HA4 : Hid (IntsAt w4 Aa ca (pathOf d.mem k)) := hIa
    clear c0 c1 c2 hb hIa hpa HL3 HP3
    obtain ⟨c0, c1, c2⟩ := HX4.out.2.1
    have hle := tleaf_any d A cap k w4 HX4.out.2.2
    have hlfe : lfOf d k = leafB d.mem d.n k := by simp [lfOf, HE.out]
    unfold dimV at hle
    rw [HE.out, errV_zero, hlfe] at hle
    clear hlfe
    have hpl : (pathOf d.mem k).length ≤ 12 := Nat.le_trans (pathOf_len HT.out d.n k (by omega) (by omega)) hd2
    have HPC : Hid (pathOf d.mem k = (k : Int) :: pathOf d.mem (d.mem k).parent) := pathOf_cons HT.out hk
    have hp1 : 1 ≤ (pathOf d.mem k).length := by rw [HPC.out]; simp
    cases hlb : leafB d.mem d.n k
    · rw [hlb] at hle
      have HS : Hid (sumL (fun p => (leafsOf d.mem d.n p).length) (partsOf d.mem d.n k) = (leafsOf d.mem d.n k).length) := leafs_sum HT.out hlb
      have HPM : Hid (∀ x ∈ partsOf d.mem d.n k, ∃ m : Nat, x = m ∧ m < d.n ∧ partB d.mem k m = true) := selTo_mem
      have hpn : (partsOf d.mem d.n k).length ≤ 12 := Nat.le_trans (selTo_len _ _) hd2
      go_wp2_with fail
      refine hle.mono ?_
      rintro e w5 ⟨rfl, hb⟩
      obtain ⟨ba, rfl, hba, hca⟩ := (HA4.out.later hb).some hp1
      have x1 := hca 0 hp1
      rw [HPC.out] at x1
      have HX5 : Hid (DimIn w.heap.size d A cap w5) := HX4.out.later hb
      have HB5 : Hid (Below w.heap.size w w5) := onB HB4.out hb
      have HP5 : Hid (IntsAt w5 Ap cp (partsOf d.mem d.n k)) := HP4.out.later hb
      obtain ⟨hcap, h0 | ⟨b, o, rfl, hMs⟩⟩ := HX5.out.2.2
      · omega
      have HMs : Hid (MemsAt w5 b o d.n d.mem) := hMs
      clear hMs
      clear c0 c1 c2 hb hle hca hlb HL4 HP4 HA4
      obtain ⟨c0, c1, c2⟩ := HX5.out.2.1
      simp only [List.getD_cons_zero] at x1
      have hp1' : (((pathOf d.mem k).length : Int) == 0) = false := beq_eq_false_iff_ne.2 (by omega)
      have hp12 : ((pathOf d.mem k).length : Int) ≤ 12 := by omega
      obtain ⟨np, hnp⟩ : ∃ np, (pathOf d.mem k).length = np := ⟨_, rfl⟩
      have HNP : Hid ((pathOf d.mem k).length = np) := hnp
      rw [hnp] at hp1 hpl hp1' hp12 ⊢
      clear hnp
      have hg1 : decide (d.n ≤ k) = false := decide_eq_false (by omega)
      have hg2 : decide ((k : Int) < 0) = false := decide_eq_false (by omega)
      generalize hlp : partsOf d.mem d.n k = Lp at hpn HPM HS HP5
      generalize (leafsOf d.mem d.n k).length = nl at hll HS
      clear hlp
      go_wp2_with fail
      have hpn' : (Lp.length : Int) ≤ 12 := by omega
      clear x1 c0 c1 c2 hp1'
      go_loopg [16, 17] Lp.length (fun g s16 s17 wr => ∃ (j : Nat), j ≤ Lp.length ∧ g = Lp.length - j ∧ s17 = .int .i64 j ∧ s16 = .int .i64 (sumL (fun p => (leafsOf d.mem d.n p).length) (Lp.take j)) ∧ Below w5.heap.size w5 wr)
      case atStart => exact ⟨0, Nat.zero_le _, rfl, rfl, rfl, Below.refl _ _⟩
      case round =>
        obtain ⟨j, hj, rfl, rfl, rfl, hBw⟩ := hrel
        have HBw : Hid (Below w5.heap.size w5 wr) := hBw
        clear hBw
        by_cases hlt : j < Lp.length
        · obtain ⟨bp, rfl, hbp, hcp⟩ := (HP5.out.later HBw.out).some (by omega)
          obtain ⟨m, hm, hmn, hmp⟩ := HPM.out _ (getD_mem hlt)
          have y1 := hcp j hlt
          rw [hm] at y1
          have HXr : Hid (DimIn w.heap.size d (some ⟨b, o, none⟩) cap wr) := HX5.out.later HBw.out
          obtain ⟨c0, c1, c2⟩ := HXr.out.2.1
          have hq0 : w.heap.size < wr.heap.size := HXr.out.1
          have HMP : Hid ((d.mem m).parent = k) := by show _ = _; simpa [partB] using hmp
          have HPP : Hid (pathOf d.mem m = (m : Int) :: pathOf d.mem k) := by show _ = _; rw [pathOf_cons HT.out hmn, HMP.out]
          have HPL : Hid ((pathOf d.mem m).length = np + 1) := by show _ = _; rw [HPP.out, List.length_cons, HNP.out]
          have hji : (j : Int) < (Lp.length : Int) := by omega
          have hmi : (m : Int) < (d.n : Int) := by omega
          have HSJ : Hid (sumL (fun p => (leafsOf d.mem d.n p).length) (Lp.take (j + 1)) = sumL (fun p => (leafsOf d.mem d.n p).length) (Lp.take j) + (leafsOf d.mem d.n m).length) := by show _ = _; rw [sumL_take_succ _ _ _ hlt, hm]
          have HSB : Hid (sumL (fun p => (leafsOf d.mem d.n p).length) (Lp.take (j + 1)) ≤ nl) := by have := sumL_take_le (fun p => (leafsOf d.mem d.n p).length) Lp (j + 1); rw [HS.out] at this; exact this
          have HH : Hid (∀ w', Below wr.heap.size wr w' → Below wr.heap.size wr w' ∧ w'.cell? ⟨w.heap.size, 0, none⟩ = some (.string d.name) ∧ w'.cell? ⟨w.heap.size, 1, none⟩ = some (.int .i64 d.solve) ∧ w'.cell? ⟨w.heap.size, 2, none⟩ = some (.slice (some ⟨b, o, none⟩) d.n cap) ∧ w'.cell? ⟨bp, j, none⟩ = some (.int .i64 m)) := fun w' hw' => ⟨hw', kept ⟨hq0, c0⟩ hw', kept ⟨hq0, c1⟩ hw', kept ⟨hq0, c2⟩ hw', kept ⟨hbp, y1⟩ hw'⟩
          have HC1 : Hid (∀ w', Below wr.heap.size wr w' → Calls Try.prog 11 #[.agg #[.string d.name, .int .i64 d.solve, .slice (some ⟨b, o, none⟩) d.n cap], .int .i64 m] w' fun e w'' => (∃ A' c', e = .returned (.tuple #[.slice A' (np + 1) c', .nilIface]) ∧ IntsAt w'' A' c' (pathOf d.mem m)) ∧ Below w'.heap.size w' w'') := fun w' hw' => tpath_at (HXr.out.later hw').2.2 HD.out hmn HPL.out
          clear hcp hm hmp
          go_wp2_with fail
          go_cut [18, 19] (fun s18 s19 wx => ListGot (np + 1) (pathOf d.mem m) wr s18 s19 wx)
          case first =>
            go_region_held3 (fun w' => Below wr.heap.size wr w' ∧ w'.cell? ⟨w.heap.size, 0, none⟩ = some (.string d.name) ∧ w'.cell? ⟨w.heap.size, 1, none⟩ = some (.int .i64 d.solve) ∧ w'.cell? ⟨w.heap.size, 2, none⟩ = some (.slice (some ⟨b, o, none⟩) d.n cap) ∧ w'.cell? ⟨bp, j, none⟩ = some (.int .i64 m))
              ((refine HH.out _ ?_; go_grown; done))
              ((go_at_call 11; refine (HC1.out _ (by go_grown)).mono ?_; rintro e w4 ⟨⟨A', c', rfl, hI⟩, hb4⟩; have hN4 := onB (W0 := wr) (by go_grown) hb4; clear hb4))
            all_goals go_wp2_with fail
            all_goals go_meet
            all_goals exact ⟨_, _, rfl, rfl, by assumption, by assumption⟩
          case rest =>
            obtain ⟨Aq, cq, rfl, rfl, hIq, hBx⟩ := hcut
            obtain ⟨wx, rfl⟩ : ∃ wx : World, wx = wc := ⟨_, rfl⟩
            have HBx : Hid (Below w5.heap.size w5 wx) := onB HBw.out hBx
            have HXx : Hid (DimIn w.heap.size d (some ⟨b, o, none⟩) cap wx) := HXr.out.later hBx
            have HIq : Hid (IntsAt wx Aq cq (pathOf d.mem m)) := hIq
            have y2 : wx.cell? ⟨bp, j, none⟩ = some (.int .i64 m) := kept ⟨hbp, y1⟩ hBx
            have hbpx : bp < wx.heap.size := Nat.lt_of_lt_of_le hbp hBx.size
            clear c0 c1 c2 y1 hIq hBx HH HC1 hbp
            obtain ⟨c0, c1, c2⟩ := HXx.out.2.1
            have hqx : w.heap.size < wx.heap.size := HXx.out.1
            obtain ⟨nm, hnm⟩ : ∃ nm, (leafsOf d.mem d.n m).length = nm := ⟨_, rfl⟩
            have HNM : Hid ((leafsOf d.mem d.n m).length = nm) := hnm
            have hnm12 : nm ≤ 12 := by rw [← hnm]; exact Nat.le_trans (selTo_len _ _) hd2
            clear hnm
            have HH : Hid (∀ w', Below wx.heap.size wx w' → Below wx.heap.size wx w' ∧ w'.cell? ⟨w.heap.size, 0, none⟩ = some (.string d.name) ∧ w'.cell? ⟨w.heap.size, 1, none⟩ = some (.int .i64 d.solve) ∧ w'.cell? ⟨w.heap.size, 2, none⟩ = some (.slice (some ⟨b, o, none⟩) d.n cap) ∧ w'.cell? ⟨bp, j, none⟩ = some (.int .i64 m)) := fun w' hw' => ⟨hw', kept ⟨hqx, c0⟩ hw', kept ⟨hqx, c1⟩ hw', kept ⟨hqx, c2⟩ hw', kept ⟨hbpx, y2⟩ hw'⟩
            have HC2 : Hid (∀ w', Below wx.heap.size wx w' → Calls Try.prog 9 #[.agg #[.string d.name, .int .i64 d.solve, .slice (some ⟨b, o, none⟩) d.n cap], .int .i64 m] w' fun e w'' => (∃ A' c', e = .returned (.tuple #[.slice A' nm c', .nilIface]) ∧ IntsAt w'' A' c' (leafsOf d.mem d.n m)) ∧ Below w'.heap.size w' w'') := fun w' hw' => leafs_at (HXx.out.later hw').2.2 HD.out hmn HNM.out
            go_wp2_with fail
            go_cut [20, 21] (fun s20 s21 wx' => ListGot nm (leafsOf d.mem d.n m) wx s20 s21 wx')
            case first =>
              go_region_held3 (fun w' => Below wx.heap.size wx w' ∧ w'.cell? ⟨w.heap.size, 0, none⟩ = some (.string d.name) ∧ w'.cell? ⟨w.heap.size, 1, none⟩ = some (.int .i64 d.solve) ∧ w'.cell? ⟨w.heap.size, 2, none⟩ = some (.slice (some ⟨b, o, none⟩) d.n cap) ∧ w'.cell? ⟨bp, j, none⟩ = some (.int .i64 m))
                ((refine HH.out _ ?_; go_grown; done))
                ((go_at_call 9; refine (HC2.out _ (by go_grown)).mono ?_; rintro e w4 ⟨⟨A', c', rfl, hI⟩, hb4⟩; have hN4 := onB (W0 := wx) (by go_grown) hb4; clear hb4))
              all_goals go_wp2_with fail
              all_goals go_meet
              all_goals exact ⟨_, _, rfl, rfl, by assumption, by assumption⟩
            case rest =>
              obtain ⟨Am, cm, rfl, rfl, hIm, hBy⟩ := hcut
              obtain ⟨wy, rfl⟩ : ∃ wy : World, wy = wc := ⟨_, rfl⟩
              have HBy : Hid (Below w5.heap.size w5 wy) := onB HBx.out hBy
              have HXy : Hid (DimIn w.heap.size d (some ⟨b, o, none⟩) cap wy) := HXx.out.later hBy
              have HIm : Hid (IntsAt wy Am cm (leafsOf d.mem d.n m)) := hIm
              obtain ⟨bq, rfl, hbq, hcq⟩ := (HIq.out.later hBy).some (by rw [HPL.out]; omega)
              have y4 := hcq 1 (by rw [HPL.out]; omega)
              rw [HPP.out, HPC.out] at y4
              simp only [List.getD_cons_succ, List.getD_cons_zero] at y4
              have y3 : wy.cell? ⟨bp, j, none⟩ = some (.int .i64 m) := kept ⟨hbpx, y2⟩ hBy
              have hbpy : bp < wy.heap.size := Nat.lt_of_lt_of_le hbpx hBy.size
              clear c0 c1 c2 y2 hIm hBy HH HC2 hbpx hcq
              obtain ⟨c0, c1, c2⟩ := HXy.out.2.1
              have hg3 : decide (d.n ≤ m) = false := decide_eq_false (by omega)
              have hg4 : decide ((m : Int) < 0) = false := decide_eq_false (by omega)
              have hSB : sumL (fun p => (leafsOf d.mem d.n p).length) (Lp.take j) + nm ≤ 12 := by have h1 := HSB.out; rw [HSJ.out, HNM.out] at h1; omega
              have HSM : Hid (sumL (fun p => (leafsOf d.mem d.n p).length) (Lp.take (j + 1)) = sumL (fun p => (leafsOf d.mem d.n p).length) (Lp.take j) + nm) := by show _ = _; rw [HSJ.out, HNM.out]
              generalize hsm : sumL (fun p => (leafsOf d.mem d.n p).length) (Lp.take j) = sm at hSB HSM
              clear hsm
              go_wp2_with fail
              go_quiet (fail)
              go_wp2_with fail
              clear c0 c1 c2 y4
              have hnm' : (nm : Int) ≤ 12 := by omega
              go_loopg [22] nm (fun g s22 wr => ∃ (t : Nat), t ≤ nm ∧ g = nm - t ∧ s22 = .int .i64 t ∧ Below wy.heap.size wy wr)
              case atStart => exact ⟨0, Nat.zero_le _, rfl, rfl, below_drewN (Below.refl _ _) _⟩
              case round =>
                obtain ⟨t, ht, rfl, rfl, hBt⟩ := hrel
                obtain ⟨wi, rfl⟩ : ∃ wi : World, wi = wr := ⟨_, rfl⟩
                have HBi : Hid (Below w5.heap.size w5 wi) := onB HBy.out hBt
                have HBt : Hid (Below wy.heap.size wy wi) := hBt
                by_cases hltt : t < nm
                · have HXi : Hid (DimIn w.heap.size d (some ⟨b, o, none⟩) cap wi) := HXy.out.later hBt
                  obtain ⟨bl, rfl, hbl, hcl⟩ := (HIm.out.later hBt).some (by rw [HNM.out]; omega)
                  have z1 := hcl t (by rw [HNM.out]; exact hltt)
                  obtain ⟨q, hq, hqn, hqp⟩ := selTo_mem _ (getD_mem (L := leafsOf d.mem d.n m) (k := t) (by rw [HNM.out]; exact hltt))
                  rw [hq] at z1
                  have y5 : wi.cell? ⟨bp, j, none⟩ = some (.int .i64 m) := kept ⟨hbpy, y3⟩ hBt
                  have hbpi : bp < wi.heap.size := Nat.lt_of_lt_of_le hbpy hBt.size
                  obtain ⟨c0, c1, c2⟩ := HXi.out.2.1
                  have hqi : w.heap.size < wi.heap.size := HXi.out.1
                  unfold leafIn at hqp
                  rw [Bool.and_eq_true, inB_true] at hqp
                  have HW : Hid (weightOf d.mem k q = weightOf d.mem m q * (d.mem m).sign) := part_weight HT.out hmn HMP.out (q + 1) q 1 hqn (by omega) hqp.2
                  have HWS : Hid (-1 ≤ weightOf d.mem m q ∧ weightOf d.mem m q ≤ 1) := wgt_small (Sg.of HD.out) _ _ (fun x hx => by have := pathOf_mem HT.out d.n q (by omega) (by omega) x hx; omega) 1 (by omega)
                  have HSG : Hid (-1 ≤ (d.mem m).sign ∧ (d.mem m).sign ≤ 1) := Sg.of HD.out m hmn
                  have HLB : Hid (leafB d.mem d.n q = true) := hqp.1
                  obtain ⟨wb, hwb⟩ : ∃ x, weightOf d.mem m q = x := ⟨_, rfl⟩
                  obtain ⟨sg, hsg⟩ : ∃ x, (d.mem m).sign = x := ⟨_, rfl⟩
                  rw [hwb, hsg] at HW
                  rw [hwb] at HWS
                  rw [hsg] at HSG
                  have HWB : Hid (weightOf d.mem m q = wb) := hwb
                  have HSE : Hid ((d.mem m).sign = sg) := hsg
                  have hti : (t : Int) < (nm : Int) := by omega
                  clear hBt hcl hq hqp hwb hsg
                  have HH : Hid (∀ w', Below wi.heap.size wi w' → Below wi.heap.size wi w' ∧ w'.cell? ⟨w.heap.size, 0, none⟩ = some (.string d.name) ∧ w'.cell? ⟨w.heap.size, 1, none⟩ = some (.int .i64 d.solve) ∧ w'.cell? ⟨w.heap.size, 2, none⟩ = some (.slice (some ⟨b, o, none⟩) d.n cap) ∧ w'.cell? ⟨bl, t, none⟩ = some (.int .i64 q)) := fun w' hw' => ⟨hw', kept ⟨hqi, c0⟩ hw', kept ⟨hqi, c1⟩ hw', kept ⟨hqi, c2⟩ hw', kept ⟨hbl, z1⟩ hw'⟩
                  have HC3 : Hid (∀ w', Below wi.heap.size wi w' → Calls Try.prog 8 #[.agg #[.string d.name, .int .i64 d.solve, .slice (some ⟨b, o, none⟩) d.n cap], .int .i64 k, .int .i64 q] w' fun e w'' => e = .returned (.tuple #[.int .i64 (wb * sg), .nilIface]) ∧ Below w'.heap.size w' w'') := fun w' hw' => weight_at (HXi.out.later hw').2.2 HD.out hk hqn HLB.out HW.out
                  go_wp2_with fail
                  go_cut [23, 24] (fun s23 s24 wx' => s23 = .int .i64 (wb * sg) ∧ s24 = .nilIface ∧ Below wi.heap.size wi wx')
                  case first =>
                    go_region_held3 (fun w' => Below wi.heap.size wi w' ∧ w'.cell? ⟨w.heap.size, 0, none⟩ = some (.string d.name) ∧ w'.cell? ⟨w.heap.size, 1, none⟩ = some (.int .i64 d.solve) ∧ w'.cell? ⟨w.heap.size, 2, none⟩ = some (.slice (some ⟨b, o, none⟩) d.n cap) ∧ w'.cell? ⟨bl, t, none⟩ = some (.int .i64 q))
                      ((refine HH.out _ ?_; go_grown; done))
                      ((go_at_call 8; refine (HC3.out _ (by go_grown)).mono ?_; rintro e w4 ⟨rfl, hb4⟩; have hN4 := onB (W0 := wi) (by go_grown) hb4; clear hb4))
                    all_goals go_wp2_with fail
                    all_goals go_meet
                    all_goals exact ⟨rfl, rfl, by assumption⟩
                  case rest =>
                    obtain ⟨rfl, rfl, hBv⟩ := hcut
                    obtain ⟨wv, rfl⟩ : ∃ wv : World, wv = wc := ⟨_, rfl⟩
                    have HXv : Hid (DimIn w.heap.size d (some ⟨b, o, none⟩) cap wv) := HXi.out.later hBv
                    have HBv : Hid (Below wy.heap.size wy wv) := onB HBt.out hBv
                    have y6 : wv.cell? ⟨bp, j, none⟩ = some (.int .i64 m) := kept ⟨hbpi, y5⟩ hBv
                    have z2 : wv.cell? ⟨bl, t, none⟩ = some (.int .i64 q) := kept ⟨hbl, z1⟩ hBv
                    have hbpv : bp < wv.heap.size := Nat.lt_of_lt_of_le hbpi hBv.size
                    have hblv : bl < wv.heap.size := Nat.lt_of_lt_of_le hbl hBv.size
                    clear c0 c1 c2 y5 z1 hBv HH HC3 hbpi hbl
                    obtain ⟨c0, c1, c2⟩ := HXv.out.2.1
                    have hqv : w.heap.size < wv.heap.size := HXv.out.1
                    have HH : Hid (∀ w', Below wv.heap.size wv w' → Below wv.heap.size wv w' ∧ w'.cell? ⟨w.heap.size, 0, none⟩ = some (.string d.name) ∧ w'.cell? ⟨w.heap.size, 1, none⟩ = some (.int .i64 d.solve) ∧ w'.cell? ⟨w.heap.size, 2, none⟩ = some (.slice (some ⟨b, o, none⟩) d.n cap) ∧ w'.cell? ⟨bp, j, none⟩ = some (.int .i64 m) ∧ w'.cell? ⟨bl, t, none⟩ = some (.int .i64 q)) := fun w' hw' => ⟨hw', kept ⟨hqv, c0⟩ hw', kept ⟨hqv, c1⟩ hw', kept ⟨hqv, c2⟩ hw', kept ⟨hbpv, y6⟩ hw', kept ⟨hblv, z2⟩ hw'⟩
                    have HC4 : Hid (∀ w', Below wv.heap.size wv w' → Calls Try.prog 8 #[.agg #[.string d.name, .int .i64 d.solve, .slice (some ⟨b, o, none⟩) d.n cap], .int .i64 m, .int .i64 q] w' fun e w'' => e = .returned (.tuple #[.int .i64 wb, .nilIface]) ∧ Below w'.heap.size w' w'') := fun w' hw' => weight_at (HXv.out.later hw').2.2 HD.out hmn hqn HLB.out HWB.out
                    go_wp2_with fail
                    go_cut [25, 26] (fun s25 s26 wx' => s25 = .int .i64 wb ∧ s26 = .nilIface ∧ Below wv.heap.size wv wx')
                    case first =>
                      go_region_held3 (fun w' => Below wv.heap.size wv w' ∧ w'.cell? ⟨w.heap.size, 0, none⟩ = some (.string d.name) ∧ w'.cell? ⟨w.heap.size, 1, none⟩ = some (.int .i64 d.solve) ∧ w'.cell? ⟨w.heap.size, 2, none⟩ = some (.slice (some ⟨b, o, none⟩) d.n cap) ∧ w'.cell? ⟨bp, j, none⟩ = some (.int .i64 m) ∧ w'.cell? ⟨bl, t, none⟩ = some (.int .i64 q))
                        ((refine HH.out _ ?_; go_grown; done))
                        ((go_at_call 8; refine (HC4.out _ (by go_grown)).mono ?_; rintro e w4 ⟨rfl, hb4⟩; have hN4 := onB (W0 := wv) (by go_grown) hb4; clear hb4))
                      all_goals go_wp2_with fail
                      all_goals go_meet
                      all_goals exact ⟨rfl, rfl, by assumption⟩
                    case rest =>
                      obtain ⟨rfl, rfl, hBu⟩ := hcut
                      obtain ⟨wu, rfl⟩ : ∃ wu : World, wu = wc := ⟨_, rfl⟩
                      have HXu : Hid (DimIn w.heap.size d (some ⟨b, o, none⟩) cap wu) := HXv.out.later hBu
                      have HBu : Hid (Below wy.heap.size wy wu) := onB HBv.out hBu
                      have y7 : wu.cell? ⟨bp, j, none⟩ = some (.int .i64 m) := kept ⟨hbpv, y6⟩ hBu
                      clear c0 c1 c2 y6 z2 HH HC4
                      obtain ⟨c0, c1, c2⟩ := HXu.out.2.1
                      obtain ⟨-, -, m2, -⟩ := (HMs.out.later (onB HBy.out HBu.out)).2 m hmn
                      rw [HSE.out] at m2
                      have hmul := small_mul HWS.out HSG.out
                      have hml1 := hmul.1
                      have hml2 := hmul.2
                      clear hBu hmul
                      go_wp2_with fail
                      go_quiet (fail)
                      go_wp2_with fail
                      go_roundg (nm - (t + 1))
                      case measure => omega
                      case rel => exact ⟨t + 1, by omega, rfl, by go_num, onB HBu.out (below_drewN (Below.refl _ _) _)⟩
                · have hte : t = nm := by omega
                  have hti : (nm : Int) ≤ (t : Int) := by omega
                  go_wp2_with fail
                  go_roundg (Lp.length - (j + 1))
                  case measure => omega
                  case rel => exact ⟨j + 1, by omega, rfl, by go_num, by rw [HSM.out]; go_num, HBi.out⟩
        · have hje : j = Lp.length := by omega
          subst hje
          have HF : Hid (sumL (fun p => (leafsOf d.mem d.n p).length) (Lp.take Lp.length) = nl) := by show _ = _; rw [List.take_length]; exact HS.out
          generalize sumL (fun p => (leafsOf d.mem d.n p).length) (Lp.take Lp.length) = sm at HF
          have hsm : sm = nl := HF.out
          subst hsm
          go_wp2_with fail
          go_ret
          exact ⟨rfl, onB HB5.out HBw.out⟩
    · rw [hlb] at hle
      have e1 := leaf_leafs HT.out hk hlb
      have e2 := leaf_parts hlb
      rw [e1, e2]
      go_wp2_with fail
      refine hle.mono ?_
      rintro e w5 ⟨rfl, hb⟩
      obtain ⟨ba, rfl, hba, hca⟩ := (HA4.out.later hb).some hp1
      obtain ⟨bl, rfl, hbl, hcl⟩ := (HL4.out.later hb).some (by rw [e1]; simp)
      have x1 := hca 0 hp1
      have x2 := hcl 0 (by rw [e1]; simp)
      rw [e1] at x2
      rw [HPC.out] at x1
      have HX5 : Hid (DimIn w.heap.size d A cap w5) := HX4.out.later hb
      have HB5 : Hid (Below w.heap.size w w5) := onB HB4.out hb
      clear c0 c1 c2 hb hle hcl hca e1 e2 hlb HL4 HP4 HA4
      obtain ⟨c0, c1, c2⟩ := HX5.out.2.1
      simp only [List.getD_cons_zero] at x1 x2
      have hp1' : (((pathOf d.mem k).length : Int) == 0) = false := beq_eq_false_iff_ne.2 (by omega)
      have hp12 : ((pathOf d.mem k).length : Int) ≤ 12 := by omega
      generalize (pathOf d.mem k).length = np at hp1 hpl hp1' hp12
      go_wp2_with fail
      go_ret
      exact ⟨by rfl, HB5.out⟩
  · rw [errV_some he] at hlf
    generalize treeErr d [i] = c at hlf
    clear he
    go_wp2_with fail
    refine hlf.mono ?_
    rintro e w2 ⟨⟨Al, cl, rfl, hIl⟩, hb⟩
    go_wp2_with fail
    go_ret
    exact ⟨rfl, onB HB1.out hb⟩
end Go.Proofs.Ytiaogjjhpnjhiab
