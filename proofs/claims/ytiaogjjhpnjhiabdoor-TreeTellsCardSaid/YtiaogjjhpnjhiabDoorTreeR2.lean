/-
  The document's own weight of a leaf and its own leafs (tallyref1.Weight, tallyref1.Leafs).
-/
import Derived.Test.YtiaogjjhpnjhiabDoorTreeR1
namespace Go.Proofs.YtiaogjjhpnjhiabDoor
open Go.ChangeShapes Go.WideShapes Go.ChangeAt Go.RowKit
set_option maxRecDepth 20000

theorem in_cons {i x : Int} {t : List Int} (h : x ≠ i) : inB (x :: t) i = inB t i := by
  unfold inB; rw [decide_eq_decide, List.mem_cons]
  exact ⟨fun h1 => h1.resolve_left fun e => h e.symm, Or.inr⟩
theorem in_head {i : Int} {t : List Int} : inB (i :: t) i = true := by simp [inB]

set_option maxHeartbeats 2000000 in
theorem rweight_any (d : Dm) (b o cap i j : Nat) (w : World) (hn : d.n ≤ 12) (hj : j < d.n) (ht : Tr d.mem d.n) (hs : Sg d.mem d.n) (hM : MemsAt w b o d.n d.mem) : Calls Tryd.prog 14 #[.agg #[.string d.name, .int .i64 d.solve, .slice (some ⟨b, o, none⟩) d.n cap], .int .i64 i, .int .i64 j] w fun e w' => e = .returned (.tuple #[.int .i64 (weightOf d.mem i j), .bool (inB (pathOf d.mem j) i)]) ∧ Below w.heap.size w w' := by
  have hS := ownDim_size w d (some ⟨b, o, none⟩) cap 24
  have hB0 := ownDim_below w d (some ⟨b, o, none⟩) cap 24
  have hA := (ownDim_at w d (some ⟨b, o, none⟩) cap 24).2.2
  obtain ⟨W, hW⟩ : ∃ W, W = ownDim w d (some ⟨b, o, none⟩) cap 24 := ⟨_, rfl⟩
  rw [← hW] at hS hB0 hA
  have HW : Hid (W = ownDim w d (some ⟨b, o, none⟩) cap 24) := hW
  have HB0 : Hid (Below w.heap.size w W) := hB0
  have HM : Hid (MemsAt W b o d.n d.mem) := hM.later hB0
  have HA : Hid (W.cell? ⟨w.heap.size, 2, none⟩ = some (.slice (some ⟨b, o, none⟩) d.n cap)) := hA
  have hsz : w.heap.size < W.heap.size := by omega
  have hn' : (d.n : Int) ≤ 12 := by omega
  have HT : Hid (Tr d.mem d.n) := ht
  have HS : Hid (Sg d.mem d.n) := hs
  obtain ⟨wv, hwv⟩ : ∃ x, weightOf d.mem i j = x := ⟨_, rfl⟩
  obtain ⟨wi, hwi⟩ : ∃ x, inB (pathOf d.mem j) i = x := ⟨_, rfl⟩
  have HV : Hid (wgt d.mem i (pathOf d.mem j) 1 = wv) := hwv
  have HI : Hid (inB (pathOf d.mem j) i = wi) := hwi
  rw [hwv, hwi]
  clear hM hW hB0 hA hS ht hs hwv hwi
  go_enter Tryd.func14, Tryd.ntmps14
  go_wp2_with fail
  go_loopg [2, 8] (j + 1) (fun g s2 s8 wr => ∃ (x a : Int), -1 ≤ x ∧ x < d.n ∧ g = (x + 1).toNat ∧ s2 = .int .i64 x ∧ s8 = .int .i64 a ∧ (-1 ≤ a ∧ a ≤ 1) ∧ wgt d.mem i (pathOf d.mem x) a = wv ∧ inB (pathOf d.mem x) i = wi ∧ wr = W)
  case atStart => exact ⟨j, 1, by omega, by omega, by omega, rfl, rfl, by omega, HV.out, HI.out, HW.out.symm⟩
  case round =>
    obtain ⟨x, a, hx1, hx2, rfl, rfl, rfl, ha, hf1, hf2, rfl⟩ := hrel
    have HF1 : Hid (wgt d.mem i (pathOf d.mem x) a = wv) := hf1
    have HF2 : Hid (inB (pathOf d.mem x) i = wi) := hf2
    have hA := HA.out
    clear hf1 hf2
    by_cases h0 : 0 ≤ x
    · obtain ⟨m, rfl⟩ : ∃ m : Nat, x = m := ⟨x.toNat, by omega⟩
      have hmn : m < d.n := by omega
      have HC : Hid (pathOf d.mem m = (m : Int) :: pathOf d.mem (d.mem m).parent) := pathOf_cons HT.out hmn
      by_cases hq : m = i
      · subst hq
        have HR : Hid (a = wv ∧ true = wi) := ⟨by rw [← HF1.out, HC.out, wgt_hit], by rw [← HF2.out, HC.out, in_head]⟩
        go_wp2_with fail
        go_ret2
        rw [← HR.out.1, ← HR.out.2]
        exact ⟨rfl, HB0.out⟩
      · have hq' : ((m : Int) == (i : Int)) = false := beq_eq_false_iff_ne.2 (by omega)
        obtain ⟨-, p1, p2, -⟩ := HM.out.2 m hmn
        have hsm := HS.out m hmn
        have htm := HT.out m hmn
        have hmul := small_mul ha hsm
        have HMul : Hid (-1 ≤ a * (d.mem m).sign ∧ a * (d.mem m).sign ≤ 1) := hmul
        have HR1 : Hid (wgt d.mem i (pathOf d.mem (d.mem m).parent) (a * (d.mem m).sign) = wv) := by show _ = _; rw [← HF1.out, HC.out, wgt_miss (by omega)]; rfl
        have HR2 : Hid (inB (pathOf d.mem (d.mem m).parent) i = wi) := by show _ = _; rw [← HF2.out, HC.out, in_cons (by omega)]
        have hmi : (m : Int) < (d.n : Int) := by omega
        have HTm : Hid (-1 ≤ (d.mem m).parent ∧ (d.mem m).parent < (m : Int)) := htm
        clear hq htm
        go_wp2_with fail
        go_roundg ((d.mem m).parent + 1).toNat
        case measure => have := HTm.out; omega
        case rel => exact ⟨(d.mem m).parent, a * (d.mem m).sign, HTm.out.1, by have := HTm.out; omega, rfl, rfl, by go_num, HMul.out, HR1.out, HR2.out, rfl⟩
    · have hk : x < 0 := by omega
      have hq' : (x == (i : Int)) = false := beq_eq_false_iff_ne.2 (by omega)
      have HR : Hid (0 = wv ∧ false = wi) := ⟨by rw [← HF1.out, pathOf_neg hk]; rfl, by rw [← HF2.out, pathOf_neg hk]; rfl⟩
      go_wp2_with fail
      go_ret2
      rw [← HR.out.1, ← HR.out.2]
      exact ⟨rfl, HB0.out⟩

set_option maxHeartbeats 2000000 in
theorem rleafs_any (d : Dm) (b o cap i : Nat) (w : World) (hn : d.n ≤ 12) (ht : Tr d.mem d.n) (hs : Sg d.mem d.n) (hM : MemsAt w b o d.n d.mem) : Calls Tryd.prog 7 #[.agg #[.string d.name, .int .i64 d.solve, .slice (some ⟨b, o, none⟩) d.n cap], .int .i64 i] w fun e w' => (∃ A c, e = .returned (.slice A (leafsOf d.mem d.n i).length c) ∧ IntsAt w' A c (leafsOf d.mem d.n i)) ∧ Below w.heap.size w w' := by
  obtain ⟨i0, hi0, hz0, hz1, hz2⟩ := info_parts Tryd.infoInt
  have hS := ownDim_size w d (some ⟨b, o, none⟩) cap 24
  have hB0 := ownDim_below w d (some ⟨b, o, none⟩) cap 24
  have hA := ownDim_at w d (some ⟨b, o, none⟩) cap 24
  obtain ⟨W, hW⟩ : ∃ W, W = ownDim w d (some ⟨b, o, none⟩) cap 24 := ⟨_, rfl⟩
  rw [← hW] at hS hB0 hA
  have HW : Hid (W = ownDim w d (some ⟨b, o, none⟩) cap 24) := hW
  have HB0 : Hid (Below w.heap.size w W) := hB0
  have HM : Hid (MemsAt W b o d.n d.mem) := hM.later hB0
  have HA : Hid (W.cell? ⟨w.heap.size, 0, none⟩ = some (.string d.name) ∧ W.cell? ⟨w.heap.size, 1, none⟩ = some (.int .i64 d.solve) ∧ W.cell? ⟨w.heap.size, 2, none⟩ = some (.slice (some ⟨b, o, none⟩) d.n cap)) := hA
  have hsz : w.heap.size < W.heap.size := by omega
  have hn' : (d.n : Int) ≤ 12 := by omega
  have HT : Hid (Tr d.mem d.n) := ht
  have HS : Hid (Sg d.mem d.n) := hs
  obtain ⟨p, hp⟩ : ∃ p : Nat → Bool, p = leafIn d.mem d.n i := ⟨_, rfl⟩
  have HP : Hid (∀ k, p k = (leafB d.mem d.n k && inB (pathOf d.mem k) i)) := fun k => by rw [hp]; rfl
  unfold leafsOf
  rw [← hp]
  clear hM hW hB0 hA hS hp ht hs
  go_enter Tryd.func7, Tryd.ntmps7
  go_wp2_with fail
  go_loopg [5, 6] d.n (fun g s5 s6 wr => ∃ (k : Nat), k ≤ d.n ∧ g = d.n - k ∧ s6 = .int .i64 k ∧ wr.ownsRow W.heap.size 3 1 s5 (selTo p k).length (mapI (selTo p k)) ∧ Below W.heap.size W wr)
  case atStart => exact ⟨0, Nat.zero_le _, rfl, rfl, World.ownsRow_nil _ _ _ _, by rw [HW.out]; exact Below.refl _ _⟩
  case round =>
    obtain ⟨k, hk, rfl, rfl, hown, hBw⟩ := hrel
    have HWr : Hid (Below W.heap.size W wr) := hBw
    have HO : Hid (wr.ownsRow W.heap.size 3 1 _ (selTo p k).length (mapI (selTo p k))) := hown
    have c0 : wr.cell? ⟨w.heap.size, 0, none⟩ = some (.string d.name) := (hBw.cell (p := ⟨w.heap.size, 0, none⟩) hsz).trans HA.out.1
    have c1 : wr.cell? ⟨w.heap.size, 1, none⟩ = some (.int .i64 d.solve) := (hBw.cell (p := ⟨w.heap.size, 1, none⟩) hsz).trans HA.out.2.1
    have c2 : wr.cell? ⟨w.heap.size, 2, none⟩ = some (.slice (some ⟨b, o, none⟩) d.n cap) := (hBw.cell (p := ⟨w.heap.size, 2, none⟩) hsz).trans HA.out.2.2
    have hszr := Nat.lt_of_lt_of_le hsz hBw.size
    by_cases hlt : k < d.n
    · have hki : (k : Int) < (d.n : Int) := by omega
      have hlf := rleaf_any d b o cap k wr hn hlt (HM.out.later hBw)
      have hlen := selTo_len p k
      have hpk := HP.out k
      generalize leafB d.mem d.n k = lf at hlf hpk
      clear hBw hown
      go_wp2_with fail
      refine hlf.mono ?_
      rintro e w1 ⟨rfl, hb1⟩
      have hown := own_later HO.out hb1
      have hB1 := onB HWr.out hb1
      have d0 : w1.cell? ⟨w.heap.size, 0, none⟩ = some (.string d.name) := (hb1.cell (p := ⟨w.heap.size, 0, none⟩) hszr).trans c0
      have d1 : w1.cell? ⟨w.heap.size, 1, none⟩ = some (.int .i64 d.solve) := (hb1.cell (p := ⟨w.heap.size, 1, none⟩) hszr).trans c1
      have d2 : w1.cell? ⟨w.heap.size, 2, none⟩ = some (.slice (some ⟨b, o, none⟩) d.n cap) := (hb1.cell (p := ⟨w.heap.size, 2, none⟩) hszr).trans c2
      have hwt := rweight_any d b o cap i k w1 hn hlt HT.out HS.out (HM.out.later hB1)
      generalize inB (pathOf d.mem k) i = ib at hwt hpk
      generalize weightOf d.mem i k = wv at hwt
      have HO1 : Hid (w1.ownsRow W.heap.size 3 1 _ (selTo p k).length (mapI (selTo p k))) := hown
      have HB1 : Hid (Below W.heap.size W w1) := hB1
      clear hb1 hB1 hown c0 c1 c2 hlf HO
      go_wp2_with fail
      refine hwt.mono ?_
      rintro e w2 ⟨rfl, hb2⟩
      have hown := own_later HO1.out hb2
      have hB2 := onB HB1.out hb2
      have hsz2 := hB2.size
      have HB2 : Hid (Below W.heap.size W w2) := hB2
      have HO2 : Hid (w2.ownsRow W.heap.size 3 1 _ (selTo p k).length (mapI (selTo p k))) := hown
      clear hb2 hB2 d0 d1 d2 hwt HO1
      cases lf
      · have HK : Hid (p k = false) := by show _ = _; rw [hpk]; rfl
        clear hpk hown
        go_wp2_with fail
        go_roundg (d.n - (k + 1))
        case measure => omega
        case rel => exact ⟨k + 1, by omega, rfl, by go_num, by rw [selTo_miss HK.out]; exact HO2.out, HB2.out⟩
      · cases ib
        · have HK : Hid (p k = false) := by show _ = _; rw [hpk]; rfl
          clear hpk hown
          go_wp2_with fail
          go_roundg (d.n - (k + 1))
          case measure => omega
          case rel => exact ⟨k + 1, by omega, rfl, by go_num, by rw [selTo_miss HK.out]; exact HO2.out, HB2.out⟩
        · have HK : Hid (p k = true) := by show _ = _; rw [hpk]; rfl
          clear hpk
          go_wp2_with (at_builtin; refine wpList_append_own _ rfl _ _ 27 rfl W.heap.size 3 i0 (.int .i64 0) 1 8 Tryd.underlying27 hi0 hz0 hz1 hz2 rfl (by decide) _ _ _ rfl (hown.alloc _) ⟨w2.heap.size, 0, none⟩ 1 1 [.int .i64 k] rfl rfl one_cell one_one (by unfold maxLen; omega) (by omega) (by simp; omega) ?_)
          intro v' w3 hown' hgrow _
          have HB3 : Hid (Below W.heap.size W w3) := grown_own HB2.out hown hgrow
          have HO3 : Hid (w3.ownsRow W.heap.size 3 1 v' (selTo p (k + 1)).length (mapI (selTo p (k + 1)))) := by
            show World.ownsRow ..
            rw [selTo_hit HK.out, mapI_snoc, List.length_append]; exact hown'
          clear hown' hgrow hown
          go_wp2_with fail
          go_roundg (d.n - (k + 1))
          case measure => omega
          case rel => exact ⟨k + 1, by omega, rfl, by go_num, HO3.out, HB3.out⟩
    · have hke : k = d.n := by omega
      subst hke
      clear hBw hown
      go_wp2_with fail
      go_ret
      obtain ⟨A, c, h1, h2⟩ := ints_of HO.out
      exact ⟨⟨A, c, by rw [← h1]; rfl, h2⟩, onB HB0.out HWr.out⟩
end Go.Proofs.YtiaogjjhpnjhiabDoor
