/-
  The document's own reading of a place's text (tallyref1.ReadPlace): the place that it names, or what is wrong.
-/
import Derived.Test.YtckjjmljpbibkabDoorPlR2
namespace Go.Proofs.YtckjjmljpbibkabDoor
open Go.ChangeShapes Go.WideShapes Go.ChangeAt Go.RowKit
set_option maxRecDepth 20000

def readV (D : Nat → Dm) (n : Nat) (s : ByteArray) : List Int := if readErr D n s = 0 then readL D s n else []
theorem pl_ints {w : World} {A : Option Addr} {cap : Nat} {L : List Int} (h : IntsAt w A cap L) : PlAt w A cap L := by
  obtain ⟨h1, h2 | ⟨b, h2, h3, h4⟩⟩ := h
  · exact ⟨h1, Or.inl h2⟩
  · exact ⟨h1, Or.inr ⟨b, 0, h2, h3, fun j hj => by rw [Nat.zero_add]; exact h4 j hj⟩⟩
theorem readL_snoc (D : Nat → Dm) (s : ByteArray) (k : Nat) : readL D s (k + 1) = readL D s k ++ [pk D s k] := by
  unfold readL
  rw [List.range_succ, List.map_append, List.map_singleton]

set_option maxHeartbeats 4000000 in
theorem rread_any (A0 : Option Addr) (cap n : Nat) (D : Nat → Dm) (A : Nat → Option Addr) (C : Nat → Nat) (s : ByteArray) (w : World) (hR : (allErr D n).2.2 = 0) (hs : s.size ≤ 1048576) (hM : DimsV w A0 cap n D A C) : Calls Tryd.prog 34 #[.agg #[.slice A0 n cap], .string s] w fun e w' => (∃ A' c', e = .returned (.tuple #[.slice A' (readV D n s).length c', .int .i64 (readErr D n s)]) ∧ PlAt w' A' c' (readV D n s)) ∧ Below w.heap.size w w' := by
  obtain ⟨i0, hi0, hz0, hz1, hz2⟩ := info_parts Tryd.infoIntP
  obtain ⟨hn1, hn4, -, hd⟩ := allErr_some hR
  have HD : Hid (∀ i, i < n → 1 ≤ (D i).n ∧ (D i).n ≤ 12) := hd
  have hn' : (n : Int) ≤ 4 := by omega
  have hB0 := ownOut_below w A0 n cap 50
  have h := rcut_any s (ownOut w A0 n cap 50) hs
  have HB0 : Hid (Below w.heap.size w (ownOut w A0 n cap 50)) := hB0
  have HM : Hid (DimsV w A0 cap n D A C) := hM
  have hple := pieces_le s
  obtain ⟨m, hm⟩ : ∃ m, (pieces s).length = m := ⟨_, rfl⟩
  have Hm : Hid ((pieces s).length = m) := hm
  rw [hm] at h hple
  have hmb : (m : Int) ≤ 1048577 := by omega
  clear hM hB0 hd hR hm hple
  go_enter Tryd.func34, Tryd.ntmps34
  go_wp2_with fail
  refine h.mono ?_
  rintro e w1 ⟨⟨Ac, cc, rfl, hcc, g, rfl, hgz, hstr⟩, hb1⟩
  have hB : Below w.heap.size w w1 := onB HB0.out hb1
  have hz : w.heap.size < w1.heap.size := by have := hb1.size; rw [ownOut_size] at this; omega
  have h2 : w1.cell? ⟨w.heap.size, 0, none⟩ = some (.slice A0 n cap) := (hb1.cell (p := ⟨w.heap.size, 0, none⟩) (by show w.heap.size < _; rw [ownOut_size]; omega)).trans (ownOut_at ..)
  obtain ⟨hcap, h0 | ⟨b, o, rfl, hMs⟩⟩ := HM.out.later hB
  · omega
  have HMs : Hid (DimsAt w1 b o n D A C) := hMs
  have HB : Hid (Below w.heap.size w w1) := hB
  have HS : Hid (∀ j, j < m → w1.cell? ⟨g, j, none⟩ = some (.string (pieceB s j))) := fun j hj => hstr j (by rw [Hm.out]; exact hj)
  clear hb1 h hMs hB hstr
  by_cases hmn : m = n
  · have hmb' : ((m : Int) == (n : Int)) = true := by simp; omega
    have HR : Hid ((pieces s).length = n) := by show _ = _; rw [Hm.out, hmn]
    subst hmn
    go_wp2_with fail
    go_loopg [7, 8, 9] m (fun gg s7 s8 s9 wr => ∃ (k : Nat), k ≤ m ∧ gg = m - k ∧ s8 = .int .i64 k ∧ findFrom (noneB D s) (m - k) k = findFrom (noneB D s) m 0 ∧ wr.ownsRow w1.heap.size 3 1 s7 (readL D s k).length (mapI (readL D s k)) ∧ Below w1.heap.size w1 wr)
    case atStart => exact ⟨0, Nat.zero_le _, rfl, rfl, rfl, World.ownsRow_nil _ _ _ _, Below.refl _ _⟩
    case round =>
      obtain ⟨k, hk, rfl, rfl, hf, hown, hBw⟩ := hrel
      have HF : Hid (findFrom (noneB D s) (m - k) k = findFrom (noneB D s) m 0) := hf
      have HW : Hid (Below w1.heap.size w1 wr) := hBw
      have HO : Hid (wr.ownsRow w1.heap.size 3 1 _ (readL D s k).length (mapI (readL D s k))) := hown
      by_cases hlt : k < m
      · have hki : (k : Int) < (m : Int) := by omega
        have HSK : Hid (m - k = (m - (k + 1)) + 1) := by show _ = _; omega
        obtain ⟨h0, h1, h3, h4⟩ := (HMs.out.later hBw).2 k hlt
        have c0 : wr.cell? ⟨w.heap.size, 0, none⟩ = some (.slice (some ⟨b, o, none⟩) m cap) := (hBw.cell (p := ⟨w.heap.size, 0, none⟩) hz).trans h2
        have cs : wr.cell? ⟨g, k, none⟩ = some (.string (pieceB s k)) := (hBw.cell (p := ⟨g, k, none⟩) hgz).trans (HS.out k hlt)
        have HWh : Hid (∀ w', Below wr.heap.size wr w' → Calls Tryd.prog 37 #[.agg #[.string (D k).name, .int .i64 (D k).solve, .slice (A k) (D k).n (C k)], .string (pieceB s k)] w' fun e w'' => e = .returned (.int .i64 (pk D s k)) ∧ Below w'.heap.size w' w'') := fun w' hw' => where_any (D k) (A k) (C k) (pieceB s k) w' (HD.out k hlt).2 (h4.later hw')
        have HSn : Hid (readL D s (k + 1) = readL D s k ++ [pk D s k]) := readL_snoc D s k
        have HNB : Hid (noneB D s k = decide (pk D s k < 0)) := rfl
        have hrl := readL_len D s k
        have hsz := hBw.size
        generalize pk D s k = x at HWh HSn HNB
        generalize pieceB s k = ps at cs HWh
        clear hf hBw h4 hown
        go_wp2_with fail
        go_cut [9] (fun s9 wx => s9 = .int .i64 x ∧ Below wr.heap.size wr wx)
        case first => as_aux_lemma =>
          go_region_law ((go_simp; refine (HWh.out _ (by go_grown)).mono ?_; rintro e w2 ⟨rfl, hb2⟩; have hN2 := onB (W0 := wr) (by go_grown) hb2; clear hb2))
          all_goals go_wp2_with fail
          all_goals go_meet
          all_goals exact ⟨rfl, hN2⟩
        case rest => as_aux_lemma =>
        obtain ⟨rfl, hBc⟩ := hcut
        obtain ⟨w2, rfl⟩ : ∃ w2 : World, w2 = wc := ⟨_, rfl⟩
        have HW2 : Hid (Below w1.heap.size w1 w2) := HW.out.trans (hBc.mono (by omega))
        have hown2 := own_later HO.out hBc
        have hsz2 := HW2.out.size
        clear hBc c0 cs h0 h1 h3
        by_cases hx : x < 0
        · have HN : Hid (noneB D s k = true) := by show _ = _; rw [HNB.out, decide_eq_true hx]
          have HE : Hid (readErr D m s = 5) := by
            show _ = _
            rw [rd1 HR.out]
            rw [← HF.out, HSK.out, findFrom_hit _ HN.out]
            omega
          have HL : Hid (readV D m s = []) := by show _ = _; unfold readV; rw [HE.out]; rfl
          go_wp2_with fail
          go_ret2
          rw [HL.out, HE.out]
          exact ⟨⟨none, 0, rfl, PlAt.nil _ _ _⟩, onB HB.out HW2.out⟩
        · have HN : Hid (noneB D s k = false) := by show _ = _; rw [HNB.out, decide_eq_false hx]
          have hx0 : 0 ≤ x := by omega
          go_wp2_with (at_builtin; refine wpList_append_own _ rfl _ _ 51 rfl w1.heap.size 3 i0 (.int .i64 0) 1 8 Tryd.underlying51 hi0 hz0 hz1 hz2 rfl (by decide) _ _ _ rfl (hown2.alloc _) ⟨w2.heap.size, 0, none⟩ 1 1 [.int .i64 x] rfl rfl one_cell one_one (by unfold maxLen; omega) (by omega) (by simp; omega) ?_)
          intro v' w3 hown' hgrow _
          have HB3 : Hid (Below w1.heap.size w1 w3) := grown_own HW2.out hown2 hgrow
          have HO3 : Hid (w3.ownsRow w1.heap.size 3 1 v' (readL D s (k + 1)).length (mapI (readL D s (k + 1)))) := by
            show World.ownsRow ..
            rw [HSn.out, mapI_snoc, List.length_append, readL_len]; exact hown'
          clear hown' hgrow hown2
          go_wp2_with fail
          go_roundg (m - (k + 1))
          case measure => omega
          case rel => exact ⟨k + 1, by omega, rfl, by go_num, by rw [← HF.out, HSK.out, findFrom_miss _ HN.out], HO3.out, HB3.out⟩
      · have hke : k = m := by omega
        subst hke
        have HE : Hid (readErr D k s = 0) := by
          show _ = _
          rw [rd2 HR.out]
          rw [← HF.out, Nat.sub_self]
          show ¬ (0 : Int) ≤ -1
          decide
        have HL : Hid (readV D k s = readL D s k) := by show _ = _; unfold readV; rw [if_pos HE.out]
        clear hf hown hBw
        go_wp2_with fail
        go_ret2
        rw [HL.out, HE.out]
        obtain ⟨A', c', e1, e2⟩ := ints_of HO.out
        exact ⟨⟨A', c', by rw [← e1]; rfl, pl_ints e2⟩, onB HB.out HW.out⟩
  · have hmb' : ((m : Int) == (n : Int)) = false := by simp; omega
    have HE : Hid (readErr D n s = 2) := rd0 (by rw [Hm.out]; exact hmn)
    have HL : Hid (readV D n s = []) := by show _ = _; unfold readV; rw [HE.out]; rfl
    clear hmn
    go_wp2_with fail
    go_ret2
    rw [HL.out, HE.out]
    exact ⟨⟨none, 0, rfl, PlAt.nil _ _ _⟩, HB.out⟩
end Go.Proofs.YtckjjmljpbibkabDoor
