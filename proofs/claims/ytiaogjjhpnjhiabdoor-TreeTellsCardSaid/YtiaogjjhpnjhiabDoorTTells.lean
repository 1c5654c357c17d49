/-
  The walk of tallylaw1.TreeTells: the parts of a member, its leafs, its path, whether it is one, how a leaf counts in it, how long paths are: the program tells what the document tells, of every dim and places.
-/
import Derived.Test.YtiaogjjhpnjhiabDoorTreeR2
import Derived.Test.YtiaogjjhpnjhiabDoorRefO2
import Derived.Test.YtiaogjjhpnjhiabDoorToldT
import Derived.Deep.DeepCutAuto
import Derived.Deep.CutBlock
namespace Go.Proofs.YtiaogjjhpnjhiabDoor
open Go.ChangeShapes Go.WideShapes Go.ChangeAt Go.RowKit
set_option maxRecDepth 20000

theorem same_err (c : Int) (w : World) (hk : Kind0 w) : Calls Tryd.prog 10 #[errV c, .int .i64 c] w fun e w' => e = .returned (.bool true) ∧ Below w.heap.size w w' := by
  by_cases h : c = 0
  · subst h
    have := same_nil 0 w
    simpa [errV] using this
  · rw [errV_some h]
    have := same_hit c c w hk
    simpa using this

/-- a dim that lies in a block, with its members; and the library's variable -/
def DimK (q : Nat) (d : Dm) (A : Option Addr) (cap : Nat) (w : World) : Prop :=
  q < w.heap.size ∧ (w.cell? ⟨q, 0, none⟩ = some (.string d.name) ∧ w.cell? ⟨q, 1, none⟩ = some (.int .i64 d.solve) ∧ w.cell? ⟨q, 2, none⟩ = some (.slice A d.n cap)) ∧ MemsV w A cap d.n d.mem ∧ Kind0 w
theorem DimK.later {q : Nat} {d : Dm} {A : Option Addr} {cap : Nat} {w w' : World} (h : DimK q d A cap w) (hB : Below w.heap.size w w') : DimK q d A cap w' := by
  obtain ⟨h1, ⟨h2, h3, h4⟩, h5, h6⟩ := h
  exact ⟨Nat.lt_of_lt_of_le h1 hB.size, ⟨(hB.cell (p := ⟨q, 0, none⟩) h1).trans h2, (hB.cell (p := ⟨q, 1, none⟩) h1).trans h3, (hB.cell (p := ⟨q, 2, none⟩) h1).trans h4⟩, h5.later hB, h6.later hB⟩
theorem DimK.own {w : World} {d : Dm} {A : Option Addr} {cap : Nat} (T : Nat) (hM : MemsV w A cap d.n d.mem) (hk : Kind0 w) : DimK w.heap.size d A cap (ownDim w d A cap T) :=
  ⟨by rw [ownDim_size]; omega, ownDim_at w d A cap T, hM.later (ownDim_below w d A cap T), hk.later (ownDim_below w d A cap T)⟩

def outT (n : Nat) (c i : Int) : Bool := decide (c = 0) && (decide (i < 0) || decide ((n : Int) ≤ i))
theorem tree_first {d : Dm} {i : Int} : treeErr d [i] = if outT d.n (dimErr d).2 i = true then 1 else (dimErr d).2 := by
  unfold outT
  by_cases h : (dimErr d).2 = 0
  · rw [treeErr_one h, h]
    by_cases h1 : i < 0 ∨ (d.n : Int) ≤ i
    · rw [if_pos h1, if_pos (by simpa using h1)]
    · rw [if_neg h1, if_neg (by simpa using h1)]
  · rw [treeErr_dim h, if_neg (by simp [h])]
theorem tree_second {d : Dm} {i j : Int} : treeErr d [i, j] = if outT d.n (treeErr d [i]) j = true then 1 else treeErr d [i] := by
  unfold outT
  by_cases h : (dimErr d).2 = 0
  · rw [treeErr_one h, treeErr_two h]
    by_cases h1 : i < 0 ∨ (d.n : Int) ≤ i
    · rw [if_pos h1, if_pos (by omega), if_neg (by simp)]
    · rw [if_neg h1]
      by_cases h2 : j < 0 ∨ (d.n : Int) ≤ j
      · rw [if_pos (by omega), if_pos (by simpa using h2)]
      · rw [if_neg (by omega), if_neg (by simpa using h2)]
  · rw [treeErr_dim h, treeErr_dim h, if_neg (by simp [h])]

/-- three lists, and whether a member is a leaf, as the document tells them -/
def Told3 (L1 L2 L3 : List Int) (x : Bool) (w : World) (s1 s2 s3 s4 : Value) (wx : World) : Prop :=
  ∃ A1 c1 A2 c2 A3 c3, s1 = .slice A1 L1.length c1 ∧ s2 = .slice A2 L2.length c2 ∧ s3 = .slice A3 L3.length c3 ∧ s4 = .bool x ∧ (IntsAt wx A1 c1 L1 ∧ IntsAt wx A2 c2 L2 ∧ IntsAt wx A3 c3 L3) ∧ Below w.heap.size w wx

set_option maxHeartbeats 16000000 in
theorem ttells_any (d : Dm) (A : Option Addr) (cap : Nat) (i j : Int) (w : World) (hM : MemsV w A cap d.n d.mem) (hk : Kind0 w) :
    Calls Tryd.prog 3 #[dimV d A cap, .int .i64 i, .int .i64 j] w fun e w' => e = .returned (.bool true) ∧ Below w.heap.size w w' := by
  have HX0 : Hid (DimK w.heap.size d A cap (ownDim w d A cap 24)) := DimK.own 24 hM hk
  have HB0 : Hid (Below w.heap.size w (ownDim w d A cap 24)) := ownDim_below w d A cap 24
  have hrd := rdim_any d A cap (ownDim w d A cap 24) HX0.out.2.2.1
  clear hM hk
  unfold dimV at hrd ⊢
  obtain ⟨c, hc⟩ : ∃ x, (dimErr d).2 = x := ⟨_, rfl⟩
  obtain ⟨c', hc'⟩ : ∃ x, (dimErr d).1 = x := ⟨_, rfl⟩
  rw [hc, hc'] at hrd
  have HC : Hid ((dimErr d).2 = c) := hc
  obtain ⟨F, hF⟩ : ∃ x, treeErr d [i] = x := ⟨_, rfl⟩
  have HF : Hid (treeErr d [i] = F) := hF
  have HF1 : Hid (F = if outT d.n c i = true then 1 else c) := by show _ = _; rw [← hF, ← hc]; exact tree_first
  obtain ⟨G, hG⟩ : ∃ x, treeErr d [i, j] = x := ⟨_, rfl⟩
  have HG : Hid (treeErr d [i, j] = G) := hG
  have HG1 : Hid (G = if outT d.n F j = true then 1 else F) := by show _ = _; rw [← hG, ← hF]; exact tree_second
  have HN : Hid (F = 0 → d.n ≤ 12 ∧ c = 0) := fun h => by
    rw [h] at hF
    have h1 := treeErr_right hF
    exact ⟨(dimErr_right h1).2.2.1, by rw [← hc, h1]⟩
  have HNc : Hid (c = 0 → 1 ≤ d.n ∧ d.n ≤ 12) := fun h => by rw [← hc] at h; exact ⟨(dimErr_right h).2.1, (dimErr_right h).2.2.1⟩
  obtain ⟨H, hH⟩ : ∃ x, wErr d i j = x := ⟨_, rfl⟩
  have HH : Hid (wErr d i j = H) := hH
  obtain ⟨V, hV⟩ : ∃ x, wVal d i j = x := ⟨_, rfl⟩
  have HV : Hid (wVal d i j = V) := hV
  obtain ⟨Z, hZ⟩ : ∃ x, dVal d = x := ⟨_, rfl⟩
  have HZ : Hid (dVal d = Z) := hZ
  obtain ⟨X, hX⟩ : ∃ x, lfOf d i = x := ⟨_, rfl⟩
  have HX : Hid (lfOf d i = X) := hX
  clear hc hc' hF hG hH hV hZ hX
  go_enter Tryd.func3, Tryd.ntmps3
  go_wp2_with fail
  refine hrd.mono ?_
  rintro e w1 ⟨rfl, hb⟩
  have HX1 : Hid (DimK w.heap.size d A cap w1) := HX0.out.later hb
  have HB1 : Hid (Below w.heap.size w w1) := onB HB0.out hb
  obtain ⟨c0, c1, c2⟩ := HX1.out.2.1
  clear hb hrd HX0 HB0
  go_upto_region 3 with fail
  go_cut [55] from 37 (fun s55 wx => s55 = .bool (outT d.n c i) ∧ wx = w1)
  case first => as_aux_lemma =>
    by_cases hc0 : c = 0
    · subst hc0
      by_cases h1 : i < 0
      · go_wp2_with fail
        go_meet
        exact ⟨by simp [outT, h1], rfl⟩
      · by_cases h2 : (d.n : Int) ≤ i
        · go_wp2_with fail
          go_meet
          exact ⟨by simp [outT, h2], rfl⟩
        · go_wp2_with fail
          go_meet
          exact ⟨by simp [outT, h1, h2], rfl⟩
    · have hce : (c == 0) = false := by simpa using hc0
      go_wp2_with fail
      go_meet
      exact ⟨by simp [outT, hc0], rfl⟩
  case rest => as_aux_lemma =>
  obtain ⟨rfl, hwx⟩ := hcut
  subst hwx
  obtain ⟨t, ht⟩ : ∃ x, outT d.n c i = x := ⟨_, rfl⟩
  rw [ht] at HF1 ⊢
  clear ht
  go_upto_if 55 with fail
  go_cut [9] from 37 (fun s9 wx => s9 = .int .i64 F ∧ wx = wc)
  case first => as_aux_lemma =>
    cases t
    · have hFc : Hid (c = F) := by show _ = _; rw [HF1.out]; rfl
      go_wp2_with fail
      go_meet
      exact ⟨by rw [← hFc.out], rfl⟩
    · have hFc : Hid (1 = F) := by show _ = _; rw [HF1.out]; rfl
      go_wp2_with fail
      go_meet
      exact ⟨by rw [← hFc.out], rfl⟩
  case rest => as_aux_lemma =>
  obtain ⟨rfl, hwx⟩ := hcut
  subst hwx
  obtain ⟨w2, rfl⟩ : ∃ w2 : World, w2 = wc := ⟨_, rfl⟩
  go_upto_if 57 with fail
  go_cut [10, 11, 12, 13] from 37 (fun s10 s11 s12 s13 wx => Told3 (lst F (partsOf d.mem d.n i)) (lst F (leafsOf d.mem d.n i)) (lst F (pathOf d.mem i)) X w2 s10 s11 s12 s13 wx)
  case first => as_aux_lemma =>
    by_cases hF0 : F = 0
    · have hn12 := (HN.out hF0).1
      subst hF0
      obtain ⟨hd, k, rfl, hk⟩ := treeErr_in HF.out
      obtain ⟨hcap, h0 | ⟨b, o, rfl, hMs⟩⟩ := HX1.out.2.2.1
      · omega
      have HT : Hid (Tr d.mem d.n) := Tr.of hd
      have HS : Hid (Sg d.mem d.n) := Sg.of hd
      have HXl : Hid (leafB d.mem d.n k = X) := by show _ = _; rw [← HX.out]; simp [lfOf, HF.out]
      have hki : (k : Int) < (d.n : Int) := by omega
      have hn12' : (d.n : Int) ≤ 12 := by omega
      have hr1 := rparts_any d b o cap k w2 hn12 hMs
      have HM2 : Hid (MemsAt w2 b o d.n d.mem) := hMs
      clear hMs hd
      go_wp2_with fail
      refine hr1.mono ?_
      rintro e w3 ⟨⟨A1, k1, rfl, hI1⟩, hb⟩
      have HX3 : Hid (DimK w.heap.size d (some ⟨b, o, none⟩) cap w3) := HX1.out.later hb
      have HB3 : Hid (Below w2.heap.size w2 w3) := hb
      have H13 : Hid (IntsAt w3 A1 k1 (partsOf d.mem d.n k)) := hI1
      have hr2 := rleafs_any d b o cap k w3 hn12 HT.out HS.out (HM2.out.later hb)
      clear c0 c1 c2 hb hI1 hr1
      obtain ⟨c0, c1, c2⟩ := HX3.out.2.1
      go_wp2_with fail
      refine hr2.mono ?_
      rintro e w4 ⟨⟨A2, k2, rfl, hI2⟩, hb⟩
      have HX4 : Hid (DimK w.heap.size d (some ⟨b, o, none⟩) cap w4) := HX3.out.later hb
      have HB4 : Hid (Below w2.heap.size w2 w4) := onB HB3.out hb
      have H14 : Hid (IntsAt w4 A1 k1 (partsOf d.mem d.n k)) := H13.out.later hb
      have H24 : Hid (IntsAt w4 A2 k2 (leafsOf d.mem d.n k)) := hI2
      have hr3 := rleaf_any d b o cap k w4 hn12 hk (HM2.out.later HB4.out)
      rw [HXl.out] at hr3
      clear c0 c1 c2 hb hI2 hr2 H13
      obtain ⟨c0, c1, c2⟩ := HX4.out.2.1
      go_wp2_with fail
      refine hr3.mono ?_
      rintro e w5 ⟨rfl, hb⟩
      have HX5 : Hid (DimK w.heap.size d (some ⟨b, o, none⟩) cap w5) := HX4.out.later hb
      have HB5 : Hid (Below w2.heap.size w2 w5) := onB HB4.out hb
      have H15 : Hid (IntsAt w5 A1 k1 (partsOf d.mem d.n k)) := H14.out.later hb
      have H25 : Hid (IntsAt w5 A2 k2 (leafsOf d.mem d.n k)) := H24.out.later hb
      have HM5 : Hid (MemsAt w5 b o d.n d.mem) := HM2.out.later HB5.out
      have HL : Hid ((pathOf d.mem k).length ≤ 12) := by have := pathOf_len HT.out d.n k (by omega) (by omega); show _ ≤ _; omega
      clear c0 c1 c2 hb hr3 H14 H24
      obtain ⟨i0, hi0, hz0, hz1, hz2⟩ := info_parts Tryd.infoInt
      go_wp2_with fail
      go_loopg [12, 14] (k + 1) (fun g s12 s14 wr => ∃ (x : Int) (L : List Int), -1 ≤ x ∧ x < d.n ∧ g = (x + 1).toNat ∧ s14 = .int .i64 x ∧ L ++ pathOf d.mem x = pathOf d.mem k ∧ wr.ownsRow w5.heap.size 3 1 s12 L.length (mapI L) ∧ Below w5.heap.size w5 wr)
      case atStart => exact ⟨k, [], by omega, by omega, by omega, rfl, rfl, World.ownsRow_nil _ _ _ _, Below.refl _ _⟩
      case round =>
        obtain ⟨x, L, hx1, hx2, rfl, rfl, hf, hown, hBw⟩ := hrel
        have HFx : Hid (L ++ pathOf d.mem x = pathOf d.mem k) := hf
        have HWr : Hid (Below w5.heap.size w5 wr) := hBw
        clear hf
        by_cases h0 : 0 ≤ x
        · obtain ⟨m, rfl⟩ : ∃ m : Nat, x = m := ⟨x.toNat, by omega⟩
          have hmn : m < d.n := by omega
          have HCm : Hid (pathOf d.mem m = (m : Int) :: pathOf d.mem (d.mem m).parent) := pathOf_cons HT.out hmn
          have hlen : L.length + 1 ≤ 12 := by
            have h1 := HL.out
            rw [← HFx.out, HCm.out, List.length_append, List.length_cons] at h1
            omega
          have hsz := hBw.size
          have HPm : Hid (-1 ≤ (d.mem m).parent ∧ (d.mem m).parent < (m : Int)) := HT.out m hmn
          have hmi : (m : Int) < (d.n : Int) := by omega
          clear hBw
          go_wp2_with (at_builtin; refine wpList_append_own _ rfl _ _ 27 rfl w5.heap.size 3 i0 (.int .i64 0) 1 8 Tryd.underlying27 hi0 hz0 hz1 hz2 rfl (by decide) _ _ _ rfl (hown.alloc _) ⟨wr.heap.size, 0, none⟩ 1 1 [.int .i64 m] rfl rfl one_cell one_one (by unfold maxLen; omega) (by omega) (by simp; omega) ?_)
          intro v' w6 hown' hgrow _
          have HB6 : Hid (Below w5.heap.size w5 w6) := grown_own HWr.out hown hgrow
          have HO6 : Hid (w6.ownsRow w5.heap.size 3 1 v' (L ++ [(m : Int)]).length (mapI (L ++ [(m : Int)]))) := by
            show World.ownsRow ..
            rw [mapI_snoc, List.length_append]; exact hown'
          obtain ⟨-, h1, -, -⟩ := (HM5.out.later HB6.out).2 m hmn
          obtain ⟨c0, c1, c2⟩ := (HX5.out.later HB6.out).2.1
          clear hown' hgrow hown
          go_wp2_with fail
          go_roundg ((d.mem m).parent + 1).toNat
          case measure => have := HPm.out; omega
          case rel => exact ⟨(d.mem m).parent, L ++ [(m : Int)], HPm.out.1, by have := HPm.out; omega, rfl, rfl, by rw [← HFx.out, HCm.out]; simp, HO6.out, HB6.out⟩
        · have hx : x < 0 := by omega
          go_wp2_with fail
          go_meet
          have hL : L = pathOf d.mem k := by rw [← HFx.out, pathOf_neg hx]; simp
          rw [hL] at hown
          obtain ⟨A3, k3, h1, h2⟩ := ints_of hown
          exact ⟨A1, k1, A2, k2, A3, k3, rfl, rfl, h1, rfl, ⟨H15.out.later HWr.out, H25.out.later HWr.out, h2⟩, onB HB5.out HWr.out⟩
    · have hFe : (F == 0) = false := by simpa using hF0
      have hXf : Hid (false = X) := by show _ = _; rw [← HX.out]; simp [lfOf, HF.out, hF0]
      have HL : Hid (∀ L, lst F L = []) := fun L => lst_bad hF0 L
      go_wp2_with fail
      go_meet
      rw [HL.out, HL.out, HL.out]
      exact ⟨none, 0, none, 0, none, 0, rfl, rfl, rfl, by rw [← hXf.out], ⟨IntsAt.nil _ _ _, IntsAt.nil _ _ _, IntsAt.nil _ _ _⟩, Below.refl _ _⟩
  case rest => as_aux_lemma =>
  obtain ⟨A1, k1, A2, k2, A3, k3, rfl, rfl, rfl, rfl, hI, hbx⟩ := hcut
  obtain ⟨w3, rfl⟩ : ∃ w3 : World, w3 = wc := ⟨_, rfl⟩
  have HX3 : Hid (DimK w.heap.size d A cap w3) := HX1.out.later hbx
  have HB3 : Hid (Below w.heap.size w w3) := onB HB1.out hbx
  obtain ⟨L1, hL1⟩ : ∃ x, lst F (partsOf d.mem d.n i) = x := ⟨_, rfl⟩
  obtain ⟨L2, hL2⟩ : ∃ x, lst F (leafsOf d.mem d.n i) = x := ⟨_, rfl⟩
  obtain ⟨L3, hL3⟩ : ∃ x, lst F (pathOf d.mem i) = x := ⟨_, rfl⟩
  have HLn : Hid (L1.length ≤ 12 ∧ L2.length ≤ 12 ∧ L3.length ≤ 12) := by
    show _ ∧ _ ∧ _
    rw [← hL1, ← hL2, ← hL3]
    by_cases hF0 : F = 0
    · have hn12 := (HN.out hF0).1
      rw [lst_ok hF0, lst_ok hF0, lst_ok hF0]
      obtain ⟨hd, k, hik, hk⟩ := treeErr_in (HF.out.trans hF0)
      refine ⟨Nat.le_trans (selTo_len _ _) hn12, Nat.le_trans (selTo_len _ _) hn12, ?_⟩
      rw [hik]
      exact Nat.le_trans (pathOf_len (Tr.of hd) d.n k (by omega) (by omega)) hn12
    · rw [lst_bad hF0, lst_bad hF0, lst_bad hF0]
      simp
  rw [hL1, hL2, hL3] at hI ⊢
  have HL1 : Hid (lst F (partsOf d.mem d.n i) = L1) := hL1
  have HL2 : Hid (lst F (leafsOf d.mem d.n i) = L2) := hL2
  have HL3 : Hid (lst F (pathOf d.mem i) = L3) := hL3
  have HI3 : Hid (IntsAt w3 A1 k1 L1 ∧ IntsAt w3 A2 k2 L2 ∧ IntsAt w3 A3 k3 L3) := hI
  clear c0 c1 c2 hbx hI hL1 hL2 hL3 HX1 HB1
  obtain ⟨c0, c1, c2⟩ := HX3.out.2.1
  have hq3 := parts_any d A cap i w3 HX3.out.2.2.1
  unfold dimV at hq3
  rw [HF.out, HL1.out] at hq3
  go_wp2_with fail
  refine hq3.mono ?_
  rintro e w4 ⟨⟨B1, m1, rfl, hJ⟩, hb⟩
  have HX4 : Hid (DimK w.heap.size d A cap w4) := HX3.out.later hb
  have HB4 : Hid (Below w.heap.size w w4) := onB HB3.out hb
  have HI4 : Hid (IntsAt w4 A1 k1 L1 ∧ IntsAt w4 A2 k2 L2 ∧ IntsAt w4 A3 k3 L3) := ⟨HI3.out.1.later hb, HI3.out.2.1.later hb, HI3.out.2.2.later hb⟩
  have HJa4 : Hid (IntsAt w4 B1 m1 L1) := hJ
  clear hJ
  clear c0 c1 c2 hb hq3 HX3 HB3 HI3 
  obtain ⟨c0, c1, c2⟩ := HX4.out.2.1
  have hq4 := same_err F w4 HX4.out.2.2.2
  go_wp2_with fail
  refine hq4.mono ?_
  rintro e w5 ⟨rfl, hb⟩
  have HX5 : Hid (DimK w.heap.size d A cap w5) := HX4.out.later hb
  have HB5 : Hid (Below w.heap.size w w5) := onB HB4.out hb
  have HI5 : Hid (IntsAt w5 A1 k1 L1 ∧ IntsAt w5 A2 k2 L2 ∧ IntsAt w5 A3 k3 L3) := ⟨HI4.out.1.later hb, HI4.out.2.1.later hb, HI4.out.2.2.later hb⟩
  have HJa5 : Hid (IntsAt w5 B1 m1 L1) := HJa4.out.later hb
  clear c0 c1 c2 hb hq4 HX4 HB4 HI4 HJa4
  obtain ⟨c0, c1, c2⟩ := HX5.out.2.1
  have hq5 := leafs_any d A cap i w5 HX5.out.2.2.1
  unfold dimV at hq5
  rw [HF.out, HL2.out] at hq5
  go_wp2_with fail
  refine hq5.mono ?_
  rintro e w6 ⟨⟨B2, m2, rfl, hJ⟩, hb⟩
  have HX6 : Hid (DimK w.heap.size d A cap w6) := HX5.out.later hb
  have HB6 : Hid (Below w.heap.size w w6) := onB HB5.out hb
  have HI6 : Hid (IntsAt w6 A1 k1 L1 ∧ IntsAt w6 A2 k2 L2 ∧ IntsAt w6 A3 k3 L3) := ⟨HI5.out.1.later hb, HI5.out.2.1.later hb, HI5.out.2.2.later hb⟩
  have HJa6 : Hid (IntsAt w6 B1 m1 L1) := HJa5.out.later hb
  have HJb6 : Hid (IntsAt w6 B2 m2 L2) := hJ
  clear hJ
  clear c0 c1 c2 hb hq5 HX5 HB5 HI5 HJa5
  obtain ⟨c0, c1, c2⟩ := HX6.out.2.1
  have hq6 := same_err F w6 HX6.out.2.2.2
  go_wp2_with fail
  refine hq6.mono ?_
  rintro e w7 ⟨rfl, hb⟩
  have HX7 : Hid (DimK w.heap.size d A cap w7) := HX6.out.later hb
  have HB7 : Hid (Below w.heap.size w w7) := onB HB6.out hb
  have HI7 : Hid (IntsAt w7 A1 k1 L1 ∧ IntsAt w7 A2 k2 L2 ∧ IntsAt w7 A3 k3 L3) := ⟨HI6.out.1.later hb, HI6.out.2.1.later hb, HI6.out.2.2.later hb⟩
  have HJa7 : Hid (IntsAt w7 B1 m1 L1) := HJa6.out.later hb
  have HJb7 : Hid (IntsAt w7 B2 m2 L2) := HJb6.out.later hb
  clear c0 c1 c2 hb hq6 HX6 HB6 HI6 HJa6 HJb6
  obtain ⟨c0, c1, c2⟩ := HX7.out.2.1
  have hq7 := tpath_any d A cap i w7 HX7.out.2.2.1
  unfold dimV at hq7
  rw [HF.out, HL3.out] at hq7
  go_wp2_with fail
  refine hq7.mono ?_
  rintro e w8 ⟨⟨B3, m3, rfl, hJ⟩, hb⟩
  have HX8 : Hid (DimK w.heap.size d A cap w8) := HX7.out.later hb
  have HB8 : Hid (Below w.heap.size w w8) := onB HB7.out hb
  have HI8 : Hid (IntsAt w8 A1 k1 L1 ∧ IntsAt w8 A2 k2 L2 ∧ IntsAt w8 A3 k3 L3) := ⟨HI7.out.1.later hb, HI7.out.2.1.later hb, HI7.out.2.2.later hb⟩
  have HJa8 : Hid (IntsAt w8 B1 m1 L1) := HJa7.out.later hb
  have HJb8 : Hid (IntsAt w8 B2 m2 L2) := HJb7.out.later hb
  have HJc8 : Hid (IntsAt w8 B3 m3 L3) := hJ
  clear hJ
  clear c0 c1 c2 hb hq7 HX7 HB7 HI7 HJa7 HJb7
  obtain ⟨c0, c1, c2⟩ := HX8.out.2.1
  have hq8 := same_err F w8 HX8.out.2.2.2
  go_wp2_with fail
  refine hq8.mono ?_
  rintro e w9 ⟨rfl, hb⟩
  have HX9 : Hid (DimK w.heap.size d A cap w9) := HX8.out.later hb
  have HB9 : Hid (Below w.heap.size w w9) := onB HB8.out hb
  have HI9 : Hid (IntsAt w9 A1 k1 L1 ∧ IntsAt w9 A2 k2 L2 ∧ IntsAt w9 A3 k3 L3) := ⟨HI8.out.1.later hb, HI8.out.2.1.later hb, HI8.out.2.2.later hb⟩
  have HJa9 : Hid (IntsAt w9 B1 m1 L1) := HJa8.out.later hb
  have HJb9 : Hid (IntsAt w9 B2 m2 L2) := HJb8.out.later hb
  have HJc9 : Hid (IntsAt w9 B3 m3 L3) := HJc8.out.later hb
  clear c0 c1 c2 hb hq8 HX8 HB8 HI8 HJa8 HJb8 HJc8
  obtain ⟨c0, c1, c2⟩ := HX9.out.2.1
  have hq9 := tleaf_any d A cap i w9 HX9.out.2.2.1
  unfold dimV at hq9
  rw [HF.out, HX.out] at hq9
  go_wp2_with fail
  refine hq9.mono ?_
  rintro e w10 ⟨rfl, hb⟩
  have HX10 : Hid (DimK w.heap.size d A cap w10) := HX9.out.later hb
  have HB10 : Hid (Below w.heap.size w w10) := onB HB9.out hb
  have HI10 : Hid (IntsAt w10 A1 k1 L1 ∧ IntsAt w10 A2 k2 L2 ∧ IntsAt w10 A3 k3 L3) := ⟨HI9.out.1.later hb, HI9.out.2.1.later hb, HI9.out.2.2.later hb⟩
  have HJa10 : Hid (IntsAt w10 B1 m1 L1) := HJa9.out.later hb
  have HJb10 : Hid (IntsAt w10 B2 m2 L2) := HJb9.out.later hb
  have HJc10 : Hid (IntsAt w10 B3 m3 L3) := HJc9.out.later hb
  clear c0 c1 c2 hb hq9 HX9 HB9 HI9 HJa9 HJb9 HJc9
  obtain ⟨c0, c1, c2⟩ := HX10.out.2.1
  have hq10 := same_err F w10 HX10.out.2.2.2
  go_wp2_with fail
  refine hq10.mono ?_
  rintro e w11 ⟨rfl, hb⟩
  have HX11 : Hid (DimK w.heap.size d A cap w11) := HX10.out.later hb
  have HB11 : Hid (Below w.heap.size w w11) := onB HB10.out hb
  have HI11 : Hid (IntsAt w11 A1 k1 L1 ∧ IntsAt w11 A2 k2 L2 ∧ IntsAt w11 A3 k3 L3) := ⟨HI10.out.1.later hb, HI10.out.2.1.later hb, HI10.out.2.2.later hb⟩
  have HJa11 : Hid (IntsAt w11 B1 m1 L1) := HJa10.out.later hb
  have HJb11 : Hid (IntsAt w11 B2 m2 L2) := HJb10.out.later hb
  have HJc11 : Hid (IntsAt w11 B3 m3 L3) := HJc10.out.later hb
  clear c0 c1 c2 hb hq10 HX10 HB10 HI10 HJa10 HJb10 HJc10
  obtain ⟨c0, c1, c2⟩ := HX11.out.2.1
  go_upto_region 24 with fail
  go_cut [128] from 37 (fun s128 wx => s128 = .bool (outT d.n F j) ∧ wx = w11)
  case first => as_aux_lemma =>
    by_cases hc0 : F = 0
    · subst hc0
      by_cases h1 : j < 0
      · go_wp2_with fail
        go_meet
        exact ⟨by simp [outT, h1], rfl⟩
      · by_cases h2 : (d.n : Int) ≤ j
        · go_wp2_with fail
          go_meet
          exact ⟨by simp [outT, h2], rfl⟩
        · go_wp2_with fail
          go_meet
          exact ⟨by simp [outT, h1, h2], rfl⟩
    · have hce : (F == 0) = false := by simpa using hc0
      go_wp2_with fail
      go_meet
      exact ⟨by simp [outT, hc0], rfl⟩
  case rest => as_aux_lemma =>
  obtain ⟨rfl, hwx⟩ := hcut
  subst hwx
  obtain ⟨t2, ht2⟩ : ∃ x, outT d.n F j = x := ⟨_, rfl⟩
  rw [ht2] at HG1 ⊢
  clear ht2
  go_upto_if 128 with fail
  go_cut [9] from 37 (fun s9 wx => s9 = .int .i64 G ∧ wx = wc)
  case first => as_aux_lemma =>
    cases t2
    · have hFc : Hid (F = G) := by show _ = _; rw [HG1.out]; rfl
      go_wp2_with fail
      go_meet
      exact ⟨by rw [← hFc.out], rfl⟩
    · have hFc : Hid (1 = G) := by show _ = _; rw [HG1.out]; rfl
      go_wp2_with fail
      go_meet
      exact ⟨by rw [← hFc.out], rfl⟩
  case rest => as_aux_lemma =>
  obtain ⟨rfl, hwx⟩ := hcut
  subst hwx
  obtain ⟨wa, rfl⟩ : ∃ wa : World, wa = wc := ⟨_, rfl⟩
  go_upto_if 130 with fail
  go_cut [9, 24] from 37 (fun s9 s24 wx => s9 = .int .i64 H ∧ s24 = .int .i64 V ∧ Below wa.heap.size wa wx)
  case first => as_aux_lemma =>
    by_cases hG0 : G = 0
    · subst hG0
      obtain ⟨hd, ⟨k, rfl, hk⟩, m, rfl, hm⟩ := treeErr_in2 HG.out
      have hn12 := (dimErr_right hd).2.2.1
      obtain ⟨hcap, h0 | ⟨b, o, rfl, hMs⟩⟩ := HX11.out.2.2.1
      · omega
      have HMs : Hid (MemsAt wa b o d.n d.mem) := hMs
      have HT : Hid (Tr d.mem d.n) := Tr.of hd
      have HS : Hid (Sg d.mem d.n) := Sg.of hd
      have hr1 := rleaf_any d b o cap m wa hn12 hm hMs
      clear hMs hd
      cases hl : leafB d.mem d.n m
      · have HR : Hid (3 = H) := by show _ = _; rw [← HH.out]; exact (wErr_no HG.out (by simpa using hl)).symm
        have HR2 : Hid (0 = V) := by show _ = _; rw [← HV.out]; exact (wVal_bad (by rw [HH.out, ← HR.out]; decide)).symm
        rw [hl] at hr1
        clear hl
        go_wp2_with fail
        refine hr1.mono ?_
        rintro e w4 ⟨rfl, hb⟩
        clear c0 c1 c2
        go_wp2_with fail
        go_meet
        exact ⟨by rw [← HR.out], by rw [← HR2.out], hb⟩
      · have HR : Hid (0 = H) := by show _ = _; rw [← HH.out]; exact (wErr_ok HG.out (by simpa using hl)).symm
        have HR2 : Hid (weightOf d.mem k m = V) := by show _ = _; rw [← HV.out]; exact (wVal_ok (by rw [HH.out, ← HR.out])).symm
        rw [hl] at hr1
        clear hl
        go_wp2_with fail
        refine hr1.mono ?_
        rintro e w4 ⟨rfl, hb⟩
        clear c0 c1 c2
        obtain ⟨c0, c1, c2⟩ := (HX11.out.later hb).2.1
        have hr2 := rweight_any d b o cap k m w4 hn12 hm HT.out HS.out (HMs.out.later hb)
        rw [HR2.out] at hr2
        generalize inB (pathOf d.mem m) k = ib at hr2
        have HB4 : Hid (Below wa.heap.size wa w4) := hb
        clear hb hr1
        go_wp2_with fail
        refine hr2.mono ?_
        rintro e w5 ⟨rfl, hb⟩
        clear c0 c1 c2
        go_wp2_with fail
        go_meet
        exact ⟨by rw [← HR.out], rfl, onB HB4.out hb⟩
    · have hGe : (G == 0) = false := by simpa using hG0
      have HR : Hid (G = H) := by show _ = _; rw [← HH.out, ← HG.out]; exact (wErr_bad (by rw [HG.out]; exact hG0)).symm
      have HR2 : Hid (0 = V) := by show _ = _; rw [← HV.out]; exact (wVal_bad (by rw [HH.out, ← HR.out]; exact hG0)).symm
      clear c0 c1 c2
      go_wp2_with fail
      go_meet
      exact ⟨by rw [← HR.out], by rw [← HR2.out], Below.refl _ _⟩
  case rest => as_aux_lemma =>
  obtain ⟨rfl, rfl, hb⟩ := hcut
  obtain ⟨w50, rfl⟩ : ∃ w50 : World, w50 = wc := ⟨_, rfl⟩
  have HX50 : Hid (DimK w.heap.size d A cap w50) := HX11.out.later hb
  have HB50 : Hid (Below w.heap.size w w50) := onB HB11.out hb
  have HI50 : Hid (IntsAt w50 A1 k1 L1 ∧ IntsAt w50 A2 k2 L2 ∧ IntsAt w50 A3 k3 L3) := ⟨HI11.out.1.later hb, HI11.out.2.1.later hb, HI11.out.2.2.later hb⟩
  have HJa50 : Hid (IntsAt w50 B1 m1 L1) := HJa11.out.later hb
  have HJb50 : Hid (IntsAt w50 B2 m2 L2) := HJb11.out.later hb
  have HJc50 : Hid (IntsAt w50 B3 m3 L3) := HJc11.out.later hb
  clear c0 c1 c2 hb HX11 HB11 HI11 HJa11 HJb11 HJc11
  obtain ⟨c0, c1, c2⟩ := HX50.out.2.1
  have hq50 := tweight_any d A cap i j w50 HX50.out.2.2.1
  unfold dimV at hq50
  rw [HH.out, HV.out] at hq50
  go_wp2_with fail
  refine hq50.mono ?_
  rintro e w51 ⟨rfl, hb⟩
  have HX51 : Hid (DimK w.heap.size d A cap w51) := HX50.out.later hb
  have HB51 : Hid (Below w.heap.size w w51) := onB HB50.out hb
  have HI51 : Hid (IntsAt w51 A1 k1 L1 ∧ IntsAt w51 A2 k2 L2 ∧ IntsAt w51 A3 k3 L3) := ⟨HI50.out.1.later hb, HI50.out.2.1.later hb, HI50.out.2.2.later hb⟩
  have HJa51 : Hid (IntsAt w51 B1 m1 L1) := HJa50.out.later hb
  have HJb51 : Hid (IntsAt w51 B2 m2 L2) := HJb50.out.later hb
  have HJc51 : Hid (IntsAt w51 B3 m3 L3) := HJc50.out.later hb
  clear c0 c1 c2 hb hq50 HX50 HB50 HI50 HJa50 HJb50 HJc50
  obtain ⟨c0, c1, c2⟩ := HX51.out.2.1
  have hq51 := same_err H w51 HX51.out.2.2.2
  go_wp2_with fail
  refine hq51.mono ?_
  rintro e w52 ⟨rfl, hb⟩
  have HX52 : Hid (DimK w.heap.size d A cap w52) := HX51.out.later hb
  have HB52 : Hid (Below w.heap.size w w52) := onB HB51.out hb
  have HI52 : Hid (IntsAt w52 A1 k1 L1 ∧ IntsAt w52 A2 k2 L2 ∧ IntsAt w52 A3 k3 L3) := ⟨HI51.out.1.later hb, HI51.out.2.1.later hb, HI51.out.2.2.later hb⟩
  have HJa52 : Hid (IntsAt w52 B1 m1 L1) := HJa51.out.later hb
  have HJb52 : Hid (IntsAt w52 B2 m2 L2) := HJb51.out.later hb
  have HJc52 : Hid (IntsAt w52 B3 m3 L3) := HJc51.out.later hb
  clear c0 c1 c2 hb hq51 HX51 HB51 HI51 HJa51 HJb51 HJc51
  obtain ⟨c0, c1, c2⟩ := HX52.out.2.1
  go_upto_block 2 with fail
  go_cut [28] from 37 (fun s28 wx => s28 = .int .i64 Z ∧ wx = w52)
  case first => as_aux_lemma =>
    by_cases hcz : c = 0
    · subst hcz
      obtain ⟨hn1, hn12⟩ := HNc.out rfl
      obtain ⟨hcap, h0 | ⟨b, o, rfl, hMs⟩⟩ := HX52.out.2.2.1
      · omega
      have HMs : Hid (MemsAt w52 b o d.n d.mem) := hMs
      have HT : Hid (Tr d.mem d.n) := Tr.of HC.out
      have HZ2 : Hid ((depTo d.mem d.n : Int) = Z) := by show _ = _; rw [← HZ.out, dVal_ok HC.out]
      have hn12' : (d.n : Int) ≤ 12 := by omega
      clear hMs
      go_wp2_with fail
      go_loopg [28, 29] d.n (fun g s28 s29 wr => ∃ (k : Nat), k ≤ d.n ∧ g = d.n - k ∧ s29 = .int .i64 k ∧ s28 = .int .i64 (depTo d.mem k) ∧ wr = w52)
      case atStart => exact ⟨0, Nat.zero_le _, rfl, rfl, rfl, rfl⟩
      case round =>
        obtain ⟨k, hk, rfl, rfl, rfl, rfl⟩ := hrel
        obtain ⟨w52, rfl⟩ : ∃ w52 : World, w52 = wr := ⟨_, rfl⟩
        by_cases hlt : k < d.n
        · have hki : (k : Int) < (d.n : Int) := by omega
          have HLk : Hid ((pathOf d.mem k).length ≤ 12) := by have := pathOf_len HT.out d.n k (by omega) (by omega); show _ ≤ _; omega
          go_wp2_with fail
          go_loopg [30, 31] (k + 1) (fun g s30 s31 wr => ∃ (x : Int) (q : Nat), -1 ≤ x ∧ x < d.n ∧ g = (x + 1).toNat ∧ s31 = .int .i64 x ∧ s30 = .int .i64 q ∧ q + (pathOf d.mem x).length = (pathOf d.mem k).length ∧ wr = w52)
          case atStart => exact ⟨k, 0, by omega, by omega, by omega, rfl, rfl, by omega, rfl⟩
          case round =>
            obtain ⟨x, q, hx1, hx2, rfl, rfl, rfl, hf, rfl⟩ := hrel
            have HFx : Hid (q + (pathOf d.mem x).length = (pathOf d.mem k).length) := hf
            clear hf
            by_cases h0 : 0 ≤ x
            · obtain ⟨m, rfl⟩ : ∃ m : Nat, x = m := ⟨x.toNat, by omega⟩
              have hmn : m < d.n := by omega
              have HCm : Hid (pathOf d.mem m = (m : Int) :: pathOf d.mem (d.mem m).parent) := pathOf_cons HT.out hmn
              have hq12 : (q : Int) ≤ 12 := by
                have h1 := HLk.out
                rw [← HFx.out] at h1
                omega
              have HPm : Hid (-1 ≤ (d.mem m).parent ∧ (d.mem m).parent < (m : Int)) := HT.out m hmn
              have HFm : Hid (q + 1 + (pathOf d.mem (d.mem m).parent).length = (pathOf d.mem k).length) := by show _ = _; rw [← HFx.out, HCm.out, List.length_cons]; omega
              have hmi : (m : Int) < (d.n : Int) := by omega
              obtain ⟨-, h1, -, -⟩ := HMs.out.2 m hmn
              go_wp2_with fail
              go_roundg ((d.mem m).parent + 1).toNat
              case measure => have := HPm.out; omega
              case rel => exact ⟨(d.mem m).parent, q + 1, HPm.out.1, by have := HPm.out; omega, rfl, rfl, by go_num, HFm.out, rfl⟩
            · have hx : x < 0 := by omega
              have HQ : Hid (depTo d.mem (k + 1) = max (depTo d.mem k) q) := by
                show _ = _
                have h1 := HFx.out
                rw [pathOf_neg hx] at h1
                simp only [List.length_nil, Nat.add_zero] at h1
                rw [depTo, h1]
              by_cases hgt : depTo d.mem k < q
              · have hgt' : (depTo d.mem k : Int) < (q : Int) := by omega
                have HQ2 : Hid (depTo d.mem (k + 1) = q) := by show _ = _; rw [HQ.out]; omega
                clear hgt
                go_wp2_with fail
                go_roundg (d.n - (k + 1))
                case measure => omega
                case rel => exact ⟨k + 1, by omega, rfl, by go_num, by rw [HQ2.out], rfl⟩
              · have hgt' : (q : Int) ≤ (depTo d.mem k : Int) := by omega
                have HQ2 : Hid (depTo d.mem (k + 1) = depTo d.mem k) := by show _ = _; rw [HQ.out]; omega
                clear hgt
                go_wp2_with fail
                go_roundg (d.n - (k + 1))
                case measure => omega
                case rel => exact ⟨k + 1, by omega, rfl, by go_num, by rw [HQ2.out], rfl⟩
        · have hke : k = d.n := by omega
          subst hke
          go_wp2_with fail
          go_meet
          exact ⟨by rw [← HZ2.out], rfl⟩
    · have hce : (c == 0) = false := by simpa using hcz
      have HZ2 : Hid (0 = Z) := by show _ = _; rw [← HZ.out, dVal_bad (by rw [HC.out]; exact hcz)]
      by_cases hn0 : d.n = 0
      · have hn0' : (d.n : Int) ≤ 0 := by omega
        go_wp2_with fail
        refine wp_loop_rounds 1 ?_
        rw [rounds_succ]
        go_wp2_with fail
        go_meet
        exact ⟨by rw [← HZ2.out], rfl⟩
      · have hn0' : 0 < (d.n : Int) := by omega
        clear hn0
        go_wp2_with fail
        refine wp_loop_rounds 1 ?_
        rw [rounds_succ]
        go_wp2_with fail
        go_meet
        exact ⟨by rw [← HZ2.out], rfl⟩
  case rest => as_aux_lemma =>
  obtain ⟨rfl, hwx⟩ := hcut
  subst hwx
  obtain ⟨w60, rfl⟩ : ∃ w60 : World, w60 = wc := ⟨_, rfl⟩
  have HX60 : Hid (DimK w.heap.size d A cap w60) := HX52
  have HB60 : Hid (Below w.heap.size w w60) := HB52
  have HI60 : Hid (IntsAt w60 A1 k1 L1 ∧ IntsAt w60 A2 k2 L2 ∧ IntsAt w60 A3 k3 L3) := HI52
  have HJa60 : Hid (IntsAt w60 B1 m1 L1) := HJa52
  have HJb60 : Hid (IntsAt w60 B2 m2 L2) := HJb52
  have HJc60 : Hid (IntsAt w60 B3 m3 L3) := HJc52
  clear HX52 HB52 HI52 HJa52 HJb52 HJc52
  have hq60 := tdepth_any d A cap w60 HX60.out.2.2.1
  unfold dimV at hq60
  rw [HC.out, HZ.out] at hq60
  go_wp2_with fail
  refine hq60.mono ?_
  rintro e w61 ⟨rfl, hb⟩
  have HX61 : Hid (DimK w.heap.size d A cap w61) := HX60.out.later hb
  have HB61 : Hid (Below w.heap.size w w61) := onB HB60.out hb
  have HI61 : Hid (IntsAt w61 A1 k1 L1 ∧ IntsAt w61 A2 k2 L2 ∧ IntsAt w61 A3 k3 L3) := ⟨HI60.out.1.later hb, HI60.out.2.1.later hb, HI60.out.2.2.later hb⟩
  have HJa61 : Hid (IntsAt w61 B1 m1 L1) := HJa60.out.later hb
  have HJb61 : Hid (IntsAt w61 B2 m2 L2) := HJb60.out.later hb
  have HJc61 : Hid (IntsAt w61 B3 m3 L3) := HJc60.out.later hb
  clear c0 c1 c2 hb hq60 HX60 HB60 HI60 HJa60 HJb60 HJc60
  obtain ⟨c0, c1, c2⟩ := HX61.out.2.1
  have hq61 := same_err c w61 HX61.out.2.2.2
  go_wp2_with fail
  refine hq61.mono ?_
  rintro e w62 ⟨rfl, hb⟩
  have HX62 : Hid (DimK w.heap.size d A cap w62) := HX61.out.later hb
  have HB62 : Hid (Below w.heap.size w w62) := onB HB61.out hb
  have HI62 : Hid (IntsAt w62 A1 k1 L1 ∧ IntsAt w62 A2 k2 L2 ∧ IntsAt w62 A3 k3 L3) := ⟨HI61.out.1.later hb, HI61.out.2.1.later hb, HI61.out.2.2.later hb⟩
  have HJa62 : Hid (IntsAt w62 B1 m1 L1) := HJa61.out.later hb
  have HJb62 : Hid (IntsAt w62 B2 m2 L2) := HJb61.out.later hb
  have HJc62 : Hid (IntsAt w62 B3 m3 L3) := HJc61.out.later hb
  clear c0 c1 c2 hb hq61 HX61 HB61 HI61 HJa61 HJb61 HJc61
  obtain ⟨c0, c1, c2⟩ := HX62.out.2.1
  have hq62 := sameints_any B1 A1 m1 k1 L1 w62 HLn.out.1 HJa62.out HI62.out.1
  go_wp2_with fail
  refine hq62.mono ?_
  rintro e w63 ⟨rfl, hb⟩
  have HX63 : Hid (DimK w.heap.size d A cap w63) := HX62.out.later hb
  have HB63 : Hid (Below w.heap.size w w63) := onB HB62.out hb
  have HI63 : Hid (IntsAt w63 A1 k1 L1 ∧ IntsAt w63 A2 k2 L2 ∧ IntsAt w63 A3 k3 L3) := ⟨HI62.out.1.later hb, HI62.out.2.1.later hb, HI62.out.2.2.later hb⟩
  have HJa63 : Hid (IntsAt w63 B1 m1 L1) := HJa62.out.later hb
  have HJb63 : Hid (IntsAt w63 B2 m2 L2) := HJb62.out.later hb
  have HJc63 : Hid (IntsAt w63 B3 m3 L3) := HJc62.out.later hb
  clear c0 c1 c2 hb hq62 HX62 HB62 HI62 HJa62 HJb62 HJc62
  obtain ⟨c0, c1, c2⟩ := HX63.out.2.1
  have hq63 := sameints_any B2 A2 m2 k2 L2 w63 HLn.out.2.1 HJb63.out HI63.out.2.1
  go_wp2_with fail
  refine hq63.mono ?_
  rintro e w64 ⟨rfl, hb⟩
  have HX64 : Hid (DimK w.heap.size d A cap w64) := HX63.out.later hb
  have HB64 : Hid (Below w.heap.size w w64) := onB HB63.out hb
  have HI64 : Hid (IntsAt w64 A1 k1 L1 ∧ IntsAt w64 A2 k2 L2 ∧ IntsAt w64 A3 k3 L3) := ⟨HI63.out.1.later hb, HI63.out.2.1.later hb, HI63.out.2.2.later hb⟩
  have HJa64 : Hid (IntsAt w64 B1 m1 L1) := HJa63.out.later hb
  have HJb64 : Hid (IntsAt w64 B2 m2 L2) := HJb63.out.later hb
  have HJc64 : Hid (IntsAt w64 B3 m3 L3) := HJc63.out.later hb
  clear c0 c1 c2 hb hq63 HX63 HB63 HI63 HJa63 HJb63 HJc63
  obtain ⟨c0, c1, c2⟩ := HX64.out.2.1
  have hq64 := sameints_any B3 A3 m3 k3 L3 w64 HLn.out.2.2 HJc64.out HI64.out.2.2
  go_wp2_with fail
  refine hq64.mono ?_
  rintro e w65 ⟨rfl, hb⟩
  have HX65 : Hid (DimK w.heap.size d A cap w65) := HX64.out.later hb
  have HB65 : Hid (Below w.heap.size w w65) := onB HB64.out hb
  have HI65 : Hid (IntsAt w65 A1 k1 L1 ∧ IntsAt w65 A2 k2 L2 ∧ IntsAt w65 A3 k3 L3) := ⟨HI64.out.1.later hb, HI64.out.2.1.later hb, HI64.out.2.2.later hb⟩
  have HJa65 : Hid (IntsAt w65 B1 m1 L1) := HJa64.out.later hb
  have HJb65 : Hid (IntsAt w65 B2 m2 L2) := HJb64.out.later hb
  have HJc65 : Hid (IntsAt w65 B3 m3 L3) := HJc64.out.later hb
  clear c0 c1 c2 hb hq64 HX64 HB64 HI64 HJa64 HJb64 HJc64
  obtain ⟨c0, c1, c2⟩ := HX65.out.2.1
  clear c0 c1 c2
  go_wp2_with fail
  go_ret
  exact ⟨by first | rfl | simp, HB65.out⟩
end Go.Proofs.YtiaogjjhpnjhiabDoor
