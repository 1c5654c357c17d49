/-
  What Depth of package tree answers; that tallysame.Ints finds a list the same as itself; the document's own parts and leaf (tallyref1.Parts, tallyref1.Leaf).
-/
import Derived.Deep.RegionHeld3
import Derived.Test.YtfngmnhkhfgmjacDoorJIAP
namespace Go.Proofs.YtfngmnhkhfgmjacDoor
open Go.ChangeShapes Go.WideShapes Go.ChangeAt Go.RowKit
set_option maxRecDepth 20000
set_option maxHeartbeats 2000000 in
theorem rparts_any (d : Dm) (b o cap : Nat) (i : Int) (w : World) (hn : d.n ≤ 12) (hM : MemsAt w b o d.n d.mem) : Calls Tryd.prog 69 #[.agg #[.string d.name, .int .i64 d.solve, .slice (some ⟨b, o, none⟩) d.n cap], .int .i64 i] w fun e w' => (∃ A c, e = .returned (.slice A (partsOf d.mem d.n i).length c) ∧ IntsAt w' A c (partsOf d.mem d.n i)) ∧ Below w.heap.size w w' := by
 obtain ⟨i0, hi0, hz0, hz1, hz2⟩ := info_parts Tryd.infoInt
 have hS := ownDim_size w d (some ⟨b, o, none⟩) cap 27
 have hB0 := ownDim_below w d (some ⟨b, o, none⟩) cap 27
 have hA := (ownDim_at w d (some ⟨b, o, none⟩) cap 27).2.2
 obtain ⟨W, hW⟩ : ∃ W, W = ownDim w d (some ⟨b, o, none⟩) cap 27 := ⟨_, rfl⟩
 rw [← hW] at hS hB0 hA
 have HW : Hid (W = ownDim w d (some ⟨b, o, none⟩) cap 27) := hW
 have HB0 : Hid (Below w.heap.size w W) := hB0
 have HM : Hid (MemsAt W b o d.n d.mem) := hM.later hB0
 have HA : Hid (W.cell? ⟨w.heap.size, 2, none⟩ = some (.slice (some ⟨b, o, none⟩) d.n cap)) := hA
 have hsz : w.heap.size < W.heap.size := by omega
 have hn' : (d.n : Int) ≤ 12 := by omega
 obtain ⟨p, hp⟩ : ∃ p : Nat → Bool, p = partB d.mem i := ⟨_, rfl⟩
 have HP : Hid (p = partB d.mem i) := hp
 unfold partsOf
 rw [← hp]
 clear hM hW hB0 hA hS hp
 go_enter Tryd.func69, Tryd.ntmps69
 go_wp2_with fail
 go_loopg [5, 6] d.n (fun g s5 s6 wr => ∃ (k : Nat), k ≤ d.n ∧ g = d.n - k ∧ s6 = .int .i64 k ∧ wr.ownsRow W.heap.size 3 1 s5 (selTo p k).length (mapI (selTo p k)) ∧ Below W.heap.size W wr)
 case atStart => exact ⟨0, Nat.zero_le _, rfl, rfl, World.ownsRow_nil _ _ _ _, by rw [HW.out]; exact Below.refl _ _⟩
 case round =>
  obtain ⟨k, hk, rfl, rfl, hown, hBw⟩ := hrel
  have HWr : Hid (Below W.heap.size W wr) := hBw
  have HO : Hid (wr.ownsRow W.heap.size 3 1 _ (selTo p k).length (mapI (selTo p k))) := hown
  have c2 : wr.cell? ⟨w.heap.size, 2, none⟩ = some (.slice (some ⟨b, o, none⟩) d.n cap) := (hBw.cell (p := ⟨w.heap.size, 2, none⟩) hsz).trans HA.out
  have hszr := hBw.size
  by_cases hlt : k < d.n
  ·have hki : (k : Int) < (d.n : Int) := by omega
   obtain ⟨-, h1, -, -⟩ := (HM.out.later hBw).2 k hlt
   have hlen := selTo_len p k
   have hpk : p k = ((d.mem k).parent == i) := by rw [HP.out]; rfl
   clear hBw
   cases hb : p k
   ·have HK : Hid (p k = false) := hb
    rw [hb] at hpk
    have hpe : ((d.mem k).parent == i) = false := hpk.symm
    clear hb hpk hown
    go_wp2_with fail
    go_roundg (d.n - (k + 1))
    case measure => omega
    case rel => exact ⟨k + 1, by omega, rfl, by go_num, by rw [selTo_miss HK.out]; exact HO.out, HWr.out⟩
   ·have HK : Hid (p k = true) := hb
    rw [hb] at hpk
    have hpe : ((d.mem k).parent == i) = true := hpk.symm
    clear hb hpk
    go_wp2_with (at_builtin; refine wpList_append_own _ rfl _ _ 39 rfl W.heap.size 3 i0 (.int .i64 0) 1 8 Tryd.underlying39 hi0 hz0 hz1 hz2 rfl (by decide) _ _ _ rfl (hown.alloc _) ⟨wr.heap.size, 0, none⟩ 1 1 [.int .i64 k] rfl rfl one_cell one_one (by unfold maxLen; omega) (by omega) (by simp; omega) ?_)
    intro v' w2 hown' hgrow _
    have HB2 : Hid (Below W.heap.size W w2) := grown_own HWr.out hown hgrow
    have HO2 : Hid (w2.ownsRow W.heap.size 3 1 v' (selTo p (k + 1)).length (mapI (selTo p (k + 1)))) := by
     show World.ownsRow ..
     rw [selTo_hit HK.out, mapI_snoc, List.length_append]; exact hown'
    clear hown' hgrow hown c2
    go_wp2_with fail
    go_roundg (d.n - (k + 1))
    case measure => omega
    case rel => exact ⟨k + 1, by omega, rfl, by go_num, HO2.out, HB2.out⟩
  ·have hke : k = d.n := by omega
   subst hke
   clear hBw hown
   go_wp2_with fail
   go_ret
   obtain ⟨A, c, h1, h2⟩ := ints_of HO.out
   exact ⟨⟨A, c, by rw [← h1]; rfl, h2⟩, onB HB0.out HWr.out⟩
theorem sel_empty {p : Nat → Bool} {n : Nat} : ((selTo p n).length = 0) ↔ ¬ 0 ≤ findFrom p n 0 := by
 rcases findFrom_cases p n 0 with ⟨h1, h2⟩ | ⟨k, h1, _, h3, h4, _⟩
 ·rw [h1, selTo_none (fun j hj => h2 j (Nat.zero_le _) (by omega))]
  simp
 ·rw [h1]
  constructor
  ·intro h
   have h5 : ∀ m, k < m → 0 < (selTo p m).length := fun m hm => by
    induction m with
    | zero => omega
    | succ m ih =>
     rw [selTo, List.length_append]
     by_cases hk : k = m
     ·subst hk; rw [if_pos h4]; simp
     ·have := ih (by omega); omega
   have := h5 n (by omega)
   omega
  ·intro h; omega
set_option maxHeartbeats 2000000 in
theorem rleaf_any (d : Dm) (b o cap i : Nat) (w : World) (hn : d.n ≤ 12) (hi : i < d.n) (hM : MemsAt w b o d.n d.mem) : Calls Tryd.prog 50 #[.agg #[.string d.name, .int .i64 d.solve, .slice (some ⟨b, o, none⟩) d.n cap], .int .i64 i] w fun e w' => e = .returned (.bool (leafB d.mem d.n i)) ∧ Below w.heap.size w w' := by
 have hS := ownDim_size w d (some ⟨b, o, none⟩) cap 27
 have hB0 := ownDim_below w d (some ⟨b, o, none⟩) cap 27
 have hM0 := hM.later hB0
 have hpt := rparts_any d b o cap i (ownDim w d (some ⟨b, o, none⟩) cap 27) hn hM0
 have HB0 : Hid (Below w.heap.size w (ownDim w d (some ⟨b, o, none⟩) cap 27)) := hB0
 obtain ⟨-, -, -, h3⟩ := hM.2 i hi
 have hbw := hM.1
 have hii : (i : Int) < (d.n : Int) := by omega
 have hn' : (d.n : Int) ≤ 12 := by omega
 clear hM hM0 hB0 hS
 by_cases hf : (d.mem i).formula.size = 0
 ·have hf' : (d.mem i).formula.toList.isEmpty = true := by rw [empty_same]; simpa using hf
  have HR : Hid (leafB d.mem d.n i = (((partsOf d.mem d.n i).length : Int) == 0)) := by
   show _ = _
   rw [leafB_parts hf, Bool.eq_iff_iff]
   have := sel_empty (p := partB d.mem i) (n := d.n)
   simp only [Bool.not_eq_true', decide_eq_false_iff_not, beq_iff_eq]
   rw [← this]
   show _ ↔ ((partsOf d.mem d.n i).length : Int) = 0
   unfold partsOf
   omega
  clear hf
  generalize (partsOf d.mem d.n i).length = np at hpt HR
  go_enter Tryd.func50, Tryd.ntmps50
  go_wp2_with fail
  refine hpt.mono ?_
  rintro e w1 ⟨⟨A', c', rfl, hI⟩, hb1⟩
  go_wp2_with fail
  go_ret
  exact ⟨by rw [HR.out]; rfl, onB HB0.out hb1⟩
 ·have hf' : (d.mem i).formula.toList.isEmpty = false := by rw [empty_same]; simpa using hf
  have HR : Hid (leafB d.mem d.n i = false) := leafB_told hf
  clear hf hpt
  go_enter Tryd.func50, Tryd.ntmps50
  go_wp2_with fail
  go_ret
  exact ⟨by rw [HR.out]; rfl, by go_grown⟩
end Go.Proofs.YtfngmnhkhfgmjacDoor
