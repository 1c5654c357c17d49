/-
  The parts of a member, as Parts of package tree answers, in a block that was not there before.
-/
import Derived.Test.YtpnfmpbgjkhicafGreatDoorTree6
namespace Go.Proofs.YtpnfmpbgjkhicafGreatDoor
open Go.ChangeShapes Go.WideShapes Go.ChangeAt Go.RowKit
set_option maxRecDepth 20000

theorem ints_new {w : World} {base e : Nat} {v : Value} {L : List Int} (h : w.ownsRow base e 1 v L.length (mapI L)) : ∃ A cap, v = .slice A L.length cap ∧ IntsAt w A cap L ∧ ∀ b o, A = some ⟨b, o, none⟩ → base ≤ b := by
  obtain ⟨A, cap, h1, h2⟩ := ints_of h
  refine ⟨A, cap, h1, h2, fun b o e => ?_⟩
  subst h1
  exact (h.lt b (by simp [Value.ownBlock, e])).1

set_option maxHeartbeats 2000000 in
theorem places_new (fn q r : Nat) (he : EntersO fn) (A : Option Addr) (n cap : Nat) (p : Nat → Bool) (w : World) (hn : n ≤ 12) (hp : AskP fn q r w n p) : Calls Tryz.prog 45 #[.slice A n cap, .func (.func fn) #[] #[.pointer (some ⟨q, 0, none⟩), .pointer (some ⟨r, 0, none⟩)]] w fun e w' => (∃ A c, e = .returned (.slice A (selTo p n).length c) ∧ IntsAt w' A c (selTo p n) ∧ ∀ b o, A = some ⟨b, o, none⟩ → w.heap.size ≤ b) ∧ Below w.heap.size w w' := by
  obtain ⟨i0, hi0, hz0, hz1, hz2⟩ := info_parts Tryz.infoInt
  have HP : Hid (AskP fn q r w n p) := hp
  have hn' : (n : Int) ≤ 12 := by omega
  clear hp
  unfold EntersO at he
  go_enter Tryz.func45, Tryz.ntmps45
  go_wp2_with fail
  go_loopg [5, 9] n (fun g s5 s9 wr => ∃ (k : Nat), k ≤ n ∧ g = n - k ∧ s9 = .int .i64 k ∧ wr.ownsRow w.heap.size 3 1 s5 (selTo p k).length (mapI (selTo p k)) ∧ Below w.heap.size w wr)
  case atStart => exact ⟨0, Nat.zero_le _, rfl, rfl, World.ownsRow_nil _ _ _ _, Below.refl _ _⟩
  case round =>
    obtain ⟨k, hk, rfl, rfl, hown, hBw⟩ := hrel
    have HW : Hid (Below w.heap.size w wr) := hBw
    have HO : Hid (wr.ownsRow w.heap.size 3 1 _ (selTo p k).length (mapI (selTo p k))) := hown
    by_cases hlt : k < n
    · have hki : (k : Int) < (n : Int) := by omega
      have hbd := HP.out k wr hlt hBw
      clear hBw hown
      cases hb : p k
      · rw [hb] at hbd
        have HK : Hid (p k = false) := hb
        clear hb
        go_wp2_with fail
        refine hbd.mono ?_
        rintro e w1 ⟨rfl, hb1⟩
        go_wp2_with fail
        go_roundg (n - (k + 1))
        case measure => omega
        case rel => exact ⟨k + 1, by omega, rfl, by go_num, by rw [selTo_miss HK.out]; exact own_later HO.out hb1, onB HW.out hb1⟩
      · rw [hb] at hbd
        have HK : Hid (p k = true) := hb
        have hlen := selTo_len p k
        clear hb
        go_wp2_with fail
        refine hbd.mono ?_
        rintro e w1 ⟨rfl, hb1⟩
        have hown := own_later HO.out hb1
        have hB1 := onB HW.out hb1
        have hsz := hB1.size
        have HB1 : Hid (Below w.heap.size w w1) := hB1
        clear hb1 hB1
        go_wp2_with (at_builtin; refine wpList_append_own _ rfl _ _ 27 rfl w.heap.size 3 i0 (.int .i64 0) 1 8 Tryz.underlying27 hi0 hz0 hz1 hz2 rfl (by decide) _ _ _ rfl (hown.alloc _) ⟨w1.heap.size, 0, none⟩ 1 1 [.int .i64 k] rfl rfl one_cell one_one (by unfold maxLen; omega) (by omega) (by simp; omega) ?_)
        intro v' w2 hown' hgrow _
        have HB2 : Hid (Below w.heap.size w w2) := grown_own HB1.out hown hgrow
        have HO2 : Hid (w2.ownsRow w.heap.size 3 1 v' (selTo p (k + 1)).length (mapI (selTo p (k + 1)))) := by
          show World.ownsRow ..
          rw [selTo_hit HK.out, mapI_snoc, List.length_append]; exact hown'
        clear hown' hgrow hown
        go_wp2_with fail
        go_roundg (n - (k + 1))
        case measure => omega
        case rel => exact ⟨k + 1, by omega, rfl, by go_num, HO2.out, HB2.out⟩
    · have hke : k = n := by omega
      subst hke
      clear hBw hown
      go_wp2_with fail
      go_ret
      obtain ⟨A, c, h1, h2, h3⟩ := ints_new HO.out
      exact ⟨⟨A, c, by rw [← h1]; rfl, h2, h3⟩, HW.out⟩

set_option maxHeartbeats 2000000 in
theorem parts_new (d : Dm) (A : Option Addr) (cap : Nat) (i : Int) (w : World) (hM : MemsV w A cap d.n d.mem) : Calls Tryz.prog 26 #[dimV d A cap, .int .i64 i] w fun e w' => (∃ A' c', e = .returned (.tuple #[.slice A' (lst (treeErr d [i]) (partsOf d.mem d.n i)).length c', errV (treeErr d [i])]) ∧ IntsAt w' A' c' (lst (treeErr d [i]) (partsOf d.mem d.n i)) ∧ ∀ b o, A' = some ⟨b, o, none⟩ → w.heap.size ≤ b) ∧ Below w.heap.size w w' := by
  have hB0 := ownQ_below w d A cap i 24 3
  have hck := tcheck_any d A cap _ 1 [i] (ownQ w d A cap i 24 3) (hM.later hB0) (by simp) (ownQ_ints ..)
  have HB0 : Hid (Below w.heap.size w (ownQ w d A cap i 24 3)) := hB0
  have HM : Hid (MemsV w A cap d.n d.mem) := hM
  unfold dimV at hck ⊢
  simp only [List.length_singleton] at hck
  clear hM hB0
  by_cases he : treeErr d [i] = 0
  · obtain ⟨hd, k, rfl, hk⟩ := treeErr_in he
    rw [he, errV_zero] at hck
    obtain ⟨-, -, hd2, -⟩ := dimErr_right hd
    have HR : Hid (lst (treeErr d [(k : Int)]) (partsOf d.mem d.n k) = selTo (partB d.mem k) d.n) := lst_ok he _
    have HE : Hid (errV (treeErr d [(k : Int)]) = .nilIface) := by show _ = _; rw [he]; rfl
    clear he hd
    go_enter Tryz.func26, Tryz.ntmps26
    go_wp2_with fail
    refine hck.mono ?_
    rintro e w1 ⟨rfl, hb1⟩
    have hB : Below w.heap.size w w1 := onB HB0.out hb1
    have hz : w.heap.size + 1 < w1.heap.size := by have := hb1.size; rw [ownQ_size] at this; omega
    have h2 : w1.cell? ⟨w.heap.size, 2, none⟩ = some (.slice A d.n cap) := (hb1.cell (p := ⟨w.heap.size, 2, none⟩) (by show w.heap.size < _; rw [ownQ_size]; omega)).trans (ownQ_dim ..)
    have h3 : w1.cell? ⟨w.heap.size + 1, 0, none⟩ = some (.int .i64 k) := (hb1.cell (p := ⟨w.heap.size + 1, 0, none⟩) (by show w.heap.size + 1 < _; rw [ownQ_size]; omega)).trans (ownQ_int ..)
    obtain ⟨hcap, h0 | ⟨b, o, rfl, hMs⟩⟩ := HM.out.later hB
    · omega
    have hpl := places_new 46 w.heap.size (w.heap.size + 1) parts1_in (some ⟨b, o, none⟩) d.n cap (partB d.mem k) w1 hd2 (fun j w' hj hw' => parts1_any b o d.n cap j w.heap.size (w.heap.size + 1) d.mem k w' hj hd2 (hMs.later hw') ((hw'.cell (p := ⟨w.heap.size, 2, none⟩) (by show w.heap.size < _; omega)).trans h2) ((hw'.cell (p := ⟨w.heap.size + 1, 0, none⟩) hz).trans h3))
    have HB : Hid (Below w.heap.size w w1) := hB
    clear hb1 hck hMs h3 hB
    go_wp2_with fail
    refine hpl.mono ?_
    rintro e w2 ⟨⟨A', c', rfl, hI, hN⟩, hb2⟩
    have HNw : Hid (∀ b o, A' = some ⟨b, o, none⟩ → w.heap.size ≤ b) := fun b o e => Nat.le_trans HB.out.size (hN b o e)
    clear hN
    go_wp2_with fail
    go_ret2
    rw [HR.out, HE.out]
    exact ⟨⟨A', c', rfl, hI, HNw.out⟩, onB HB.out hb2⟩
  · have HR : Hid (lst (treeErr d [i]) (partsOf d.mem d.n i) = []) := lst_bad he _
    have HE : Hid (errV (treeErr d [i]) = .iface 44 (.int .i64 (treeErr d [i]))) := errV_some he
    rw [errV_some he] at hck
    clear he
    generalize treeErr d [i] = c at hck HR HE
    go_enter Tryz.func26, Tryz.ntmps26
    go_wp2_with fail
    refine hck.mono ?_
    rintro e w1 ⟨rfl, hb1⟩
    go_wp2_with fail
    go_ret2
    rw [HR.out, HE.out]
    exact ⟨⟨none, 0, rfl, IntsAt.nil _ _ _, fun b o e => by cases e⟩, onB HB0.out hb1⟩

end Go.Proofs.YtpnfmpbgjkhicafGreatDoor
