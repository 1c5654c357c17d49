/-
  What weight and Weight of package tree answer: how a leaf counts in a member, or what is wrong.
  What Weight and Leafs of package tree answer: how a leaf counts in a member; the leafs of a member; or what is wrong.
  What Leafs of package tree answers: the leafs of a member, or what is wrong.
  What Depth of package tree answers; that tallysame.Ints finds a list the same as itself; the document's own parts and leaf (tallyref1.Parts, tallyref1.Leaf).
  The document's own reading of outlines (tallyref1.Name, tallyref1.Where, tallyref1.Size): what is wrong with a name, where a member of a name is, how many places an outline has.
  The document's own reading of a dim (tallyref1.Dim): which member is the first that is wrong, and how.
  The document's own count of an outline's cells (tallyref1.Size).
  The document's own reading of an outline (tallyref1.Outline): which dim is the first that is wrong, in which member, and how.
  The document's own answers on places (tallyref1): what is wrong with a place, its number, whether it is of leafs, a number's place.
-/
import Derived.Test.YtmjcnlpjnbcfjadGreatDoorTree6
import Derived.Deep.RegionHeld3
import Derived.Test.YtmjcnlpjnbcfjadGreatDoorOut6
import Derived.WalkSpells
import Derived.WalkLawsBesides
import Derived.Test.YtmjcnlpjnbcfjadGreatDoorOut9
import Derived.Deep.QuietTactic
import Derived.BigQuiet
import Derived.WalkSmall
import Derived.Test.YtmjcnlpjnbcfjadGreatDoorPl4
namespace Go.Proofs.YtmjcnlpjnbcfjadGreatDoor
open Go.ChangeShapes Go.WideShapes Go.ChangeAt Go.RowKit
set_option maxRecDepth 20000

theorem drop_at {L : List Int} {k : Nat} (h : k < L.length) : L.drop k = L.getD k 0 :: L.drop (k + 1) := by
  rw [List.drop_eq_getElem_cons h]; simp [List.getD, List.getElem?_eq_getElem h]
theorem getD_mem {L : List Int} {k : Nat} (h : k < L.length) : L.getD k 0 ∈ L := by
  simp [List.getD, List.getElem?_eq_getElem h]

end Go.Proofs.YtmjcnlpjnbcfjadGreatDoor

namespace Go.Proofs.YtmjcnlpjnbcfjadGreatDoor
open Go.ChangeShapes Go.WideShapes Go.ChangeAt Go.RowKit
set_option maxRecDepth 20000

theorem treeErr_in2 {d : Dm} {i j : Int} (h : treeErr d [i, j] = 0) : (dimErr d).2 = 0 ∧ (∃ k : Nat, i = k ∧ k < d.n) ∧ ∃ m : Nat, j = m ∧ m < d.n := by
  have h0 := treeErr_right h
  rw [treeErr_two h0] at h
  by_cases h1 : i < 0 ∨ (d.n : Int) ≤ i ∨ j < 0 ∨ (d.n : Int) ≤ j
  · rw [if_pos h1] at h; cases h
  · exact ⟨h0, ⟨i.toNat, by omega, by omega⟩, j.toNat, by omega, by omega⟩
def wErr (d : Dm) (i j : Int) : Int := if treeErr d [i, j] ≠ 0 then treeErr d [i, j] else if leafB d.mem d.n j.toNat = true then 0 else 3
def wVal (d : Dm) (i j : Int) : Int := if wErr d i j = 0 then weightOf d.mem i j else 0
theorem wErr_bad {d : Dm} {i j : Int} (h : treeErr d [i, j] ≠ 0) : wErr d i j = treeErr d [i, j] := by unfold wErr; rw [if_pos h]
theorem wErr_no {d : Dm} {i j : Int} (h : treeErr d [i, j] = 0) (h1 : leafB d.mem d.n j.toNat = false) : wErr d i j = 3 := by unfold wErr; rw [if_neg (by simpa using h), if_neg (by simp [h1])]
theorem wErr_ok {d : Dm} {i j : Int} (h : treeErr d [i, j] = 0) (h1 : leafB d.mem d.n j.toNat = true) : wErr d i j = 0 := by unfold wErr; rw [if_neg (by simpa using h), if_pos h1]
theorem wVal_ok {d : Dm} {i j : Int} (h : wErr d i j = 0) : wVal d i j = weightOf d.mem i j := by unfold wVal; rw [if_pos h]
theorem wVal_bad {d : Dm} {i j : Int} (h : wErr d i j ≠ 0) : wVal d i j = 0 := by unfold wVal; rw [if_neg h]

def ownW (w : World) (d : Dm) (A : Option Addr) (cap : Nat) (i j : Int) (T T' : Nat) : World := (ownDim w d A cap T).alloc (.cells #[.int .i64 i, .int .i64 j] T')
theorem ownW_size (w : World) (d : Dm) (A : Option Addr) (cap : Nat) (i j : Int) (T T' : Nat) : (ownW w d A cap i j T T').heap.size = w.heap.size + 2 := by unfold ownW; simp [ownDim_size]
theorem ownW_below (w : World) (d : Dm) (A : Option Addr) (cap : Nat) (i j : Int) (T T' : Nat) : Below w.heap.size w (ownW w d A cap i j T T') := by unfold ownW ownDim; go_grown
theorem ownW_dim (w : World) (d : Dm) (A : Option Addr) (cap : Nat) (i j : Int) (T T' : Nat) : (ownW w d A cap i j T T').cell? ⟨w.heap.size, 2, none⟩ = some (.slice A d.n cap) := by
  unfold ownW
  rw [World.cell?_alloc_lt _ _ ⟨w.heap.size, 2, none⟩ (by rw [ownDim_size]; exact Nat.lt_succ_self _)]
  exact (ownDim_at w d A cap T).2.2
theorem ownW_ints (w : World) (d : Dm) (A : Option Addr) (cap : Nat) (i j : Int) (T T' : Nat) : IntsAt (ownW w d A cap i j T T') (some ⟨w.heap.size + 1, 0, none⟩) 2 [i, j] := by
  refine ⟨Nat.le_refl _, Or.inr ⟨_, rfl, by rw [ownW_size]; omega, fun k hk => ?_⟩⟩
  have hk' : k < 2 := hk
  unfold ownW
  rw [← ownDim_size w d A cap T]
  match k, hk' with
  | 0, _ => simp
  | 1, _ => simp

theorem held2 {W w' : World} {p0 p1 : Addr} {v0 v1 : Value} (a0 : p0.block < W.heap.size ∧ W.cell? p0 = some v0) (a1 : p1.block < W.heap.size ∧ W.cell? p1 = some v1) (hB : Below W.heap.size W w') :
    Below W.heap.size W w' ∧ w'.cell? p0 = some v0 ∧ w'.cell? p1 = some v1 :=
  ⟨hB, (hB.cell a0.1).trans a0.2, (hB.cell a1.1).trans a1.2⟩

end Go.Proofs.YtmjcnlpjnbcfjadGreatDoor

namespace Go.Proofs.YtmjcnlpjnbcfjadGreatDoor
open Go.ChangeShapes Go.WideShapes Go.ChangeAt Go.RowKit
set_option maxRecDepth 20000

end Go.Proofs.YtmjcnlpjnbcfjadGreatDoor

namespace Go.Proofs.YtmjcnlpjnbcfjadGreatDoor
open Go.ChangeShapes Go.WideShapes Go.ChangeAt Go.RowKit
set_option maxRecDepth 20000

def dVal (d : Dm) : Int := if (dimErr d).2 = 0 then (depTo d.mem d.n : Int) else 0
theorem dVal_ok {d : Dm} (h : (dimErr d).2 = 0) : dVal d = (depTo d.mem d.n : Int) := by unfold dVal; rw [if_pos h]
theorem dVal_bad {d : Dm} (h : (dimErr d).2 ≠ 0) : dVal d = 0 := by unfold dVal; rw [if_neg h]
theorem treeErr_nil {d : Dm} : treeErr d [] = (dimErr d).2 := by
  by_cases h : (dimErr d).2 = 0
  · rw [treeErr_none h, h]
  · rw [treeErr_dim h]

set_option maxHeartbeats 2000000 in
theorem rparts_any (d : Dm) (b o cap : Nat) (i : Int) (w : World) (hn : d.n ≤ 12) (hM : MemsAt w b o d.n d.mem) : Calls Tryz.prog 26 #[.agg #[.string d.name, .int .i64 d.solve, .slice (some ⟨b, o, none⟩) d.n cap], .int .i64 i] w fun e w' => (∃ A c, e = .returned (.slice A (partsOf d.mem d.n i).length c) ∧ IntsAt w' A c (partsOf d.mem d.n i)) ∧ Below w.heap.size w w' := by
  obtain ⟨i0, hi0, hz0, hz1, hz2⟩ := info_parts Tryz.infoInt
  have hS := ownDim_size w d (some ⟨b, o, none⟩) cap 62
  have hB0 := ownDim_below w d (some ⟨b, o, none⟩) cap 62
  have hA := (ownDim_at w d (some ⟨b, o, none⟩) cap 62).2.2
  obtain ⟨W, hW⟩ : ∃ W, W = ownDim w d (some ⟨b, o, none⟩) cap 62 := ⟨_, rfl⟩
  rw [← hW] at hS hB0 hA
  have HW : Hid (W = ownDim w d (some ⟨b, o, none⟩) cap 62) := hW
  have HB0 : Hid (Below w.heap.size w W) := hB0
  have HM : Hid (MemsAt W b o d.n d.mem) := hM.later hB0
  have HA : Hid (W.cell? ⟨w.heap.size, 2, none⟩ = some (.slice (some ⟨b, o, none⟩) d.n cap)) := hA
  have hsz : w.heap.size < W.heap.size := by omega
  have hn' : (d.n : Int) ≤ 12 := by omega
  obtain ⟨p, hp⟩ : ∃ p : Nat → Bool, p = partB d.mem i := ⟨_, rfl⟩
  have HP : Hid (p = partB d.mem i) := hp
  unfold partsOf
  rw [← hp]
  clear hM hW hB0 hA hS hp
  go_enter Tryz.func26, Tryz.ntmps26
  go_wp2_with fail
  go_loopg [5, 6] d.n (fun g s5 s6 wr => ∃ (k : Nat), k ≤ d.n ∧ g = d.n - k ∧ s6 = .int .i64 k ∧ wr.ownsRow W.heap.size 3 1 s5 (selTo p k).length (mapI (selTo p k)) ∧ Below W.heap.size W wr)
  case atStart => exact ⟨0, Nat.zero_le _, rfl, rfl, World.ownsRow_nil _ _ _ _, by rw [HW.out]; exact Below.refl _ _⟩
  case round =>
    obtain ⟨k, hk, rfl, rfl, hown, hBw⟩ := hrel
    have HWr : Hid (Below W.heap.size W wr) := hBw
    have HO : Hid (wr.ownsRow W.heap.size 3 1 _ (selTo p k).length (mapI (selTo p k))) := hown
    have c2 : wr.cell? ⟨w.heap.size, 2, none⟩ = some (.slice (some ⟨b, o, none⟩) d.n cap) := (hBw.cell (p := ⟨w.heap.size, 2, none⟩) hsz).trans HA.out
    have hszr := hBw.size
    by_cases hlt : k < d.n
    · have hki : (k : Int) < (d.n : Int) := by omega
      obtain ⟨-, h1, -, -⟩ := (HM.out.later hBw).2 k hlt
      have hlen := selTo_len p k
      have hpk : p k = ((d.mem k).parent == i) := by rw [HP.out]; rfl
      clear hBw
      cases hb : p k
      · have HK : Hid (p k = false) := hb
        rw [hb] at hpk
        have hpe : ((d.mem k).parent == i) = false := hpk.symm
        clear hb hpk hown
        go_wp2_with fail
        go_roundg (d.n - (k + 1))
        case measure => omega
        case rel => exact ⟨k + 1, by omega, rfl, by go_num, by rw [selTo_miss HK.out]; exact HO.out, HWr.out⟩
      · have HK : Hid (p k = true) := hb
        rw [hb] at hpk
        have hpe : ((d.mem k).parent == i) = true := hpk.symm
        clear hb hpk
        go_wp2_with (at_builtin; refine wpList_append_own _ rfl _ _ 27 rfl W.heap.size 3 i0 (.int .i64 0) 1 8 Tryz.underlying27 hi0 hz0 hz1 hz2 rfl (by decide) _ _ _ rfl (hown.alloc _) ⟨wr.heap.size, 0, none⟩ 1 1 [.int .i64 k] rfl rfl one_cell one_one (by unfold maxLen; omega) (by omega) (by simp; omega) ?_)
        intro v' w2 hown' hgrow _
        have HB2 : Hid (Below W.heap.size W w2) := grown_own HWr.out hown hgrow
        have HO2 : Hid (w2.ownsRow W.heap.size 3 1 v' (selTo p (k + 1)).length (mapI (selTo p (k + 1)))) := by
          show World.ownsRow ..
          rw [selTo_hit HK.out, mapI_snoc, List.length_append]; exact hown'
        clear hown' hgrow hown c2
        go_wp2_with fail
        go_roundg (d.n - (k + 1))
        case measure => omega
        case rel => exact ⟨k + 1, by omega, rfl, by go_num, HO2.out, HB2.out⟩
    · have hke : k = d.n := by omega
      subst hke
      clear hBw hown
      go_wp2_with fail
      go_ret
      obtain ⟨A, c, h1, h2⟩ := ints_of HO.out
      exact ⟨⟨A, c, by rw [← h1]; rfl, h2⟩, onB HB0.out HWr.out⟩

theorem sel_empty {p : Nat → Bool} {n : Nat} : ((selTo p n).length = 0) ↔ ¬ 0 ≤ findFrom p n 0 := by
  rcases findFrom_cases p n 0 with ⟨h1, h2⟩ | ⟨k, h1, _, h3, h4, _⟩
  · rw [h1, selTo_none (fun j hj => h2 j (Nat.zero_le _) (by omega))]
    simp
  · rw [h1]
    constructor
    · intro h
      have h5 : ∀ m, k < m → 0 < (selTo p m).length := fun m hm => by
        induction m with
        | zero => omega
        | succ m ih =>
          rw [selTo, List.length_append]
          by_cases hk : k = m
          · subst hk; rw [if_pos h4]; simp
          · have := ih (by omega); omega
      have := h5 n (by omega)
      omega
    · intro h; omega

set_option maxHeartbeats 2000000 in
theorem rleaf_any (d : Dm) (b o cap i : Nat) (w : World) (hn : d.n ≤ 12) (hi : i < d.n) (hM : MemsAt w b o d.n d.mem) : Calls Tryz.prog 35 #[.agg #[.string d.name, .int .i64 d.solve, .slice (some ⟨b, o, none⟩) d.n cap], .int .i64 i] w fun e w' => e = .returned (.bool (leafB d.mem d.n i)) ∧ Below w.heap.size w w' := by
  have hS := ownDim_size w d (some ⟨b, o, none⟩) cap 62
  have hB0 := ownDim_below w d (some ⟨b, o, none⟩) cap 62
  have hM0 := hM.later hB0
  have hpt := rparts_any d b o cap i (ownDim w d (some ⟨b, o, none⟩) cap 62) hn hM0
  have HB0 : Hid (Below w.heap.size w (ownDim w d (some ⟨b, o, none⟩) cap 62)) := hB0
  obtain ⟨-, -, -, h3⟩ := hM.2 i hi
  have hbw := hM.1
  have hii : (i : Int) < (d.n : Int) := by omega
  have hn' : (d.n : Int) ≤ 12 := by omega
  clear hM hM0 hB0 hS
  by_cases hf : (d.mem i).formula.size = 0
  · have hf' : (d.mem i).formula.toList.isEmpty = true := by rw [empty_same]; simpa using hf
    have HR : Hid (leafB d.mem d.n i = (((partsOf d.mem d.n i).length : Int) == 0)) := by
      show _ = _
      rw [leafB_parts hf, Bool.eq_iff_iff]
      have := sel_empty (p := partB d.mem i) (n := d.n)
      simp only [Bool.not_eq_true', decide_eq_false_iff_not, beq_iff_eq]
      rw [← this]
      show _ ↔ ((partsOf d.mem d.n i).length : Int) = 0
      unfold partsOf
      omega
    clear hf
    generalize (partsOf d.mem d.n i).length = np at hpt HR
    go_enter Tryz.func35, Tryz.ntmps35
    go_wp2_with fail
    refine hpt.mono ?_
    rintro e w1 ⟨⟨A', c', rfl, hI⟩, hb1⟩
    go_wp2_with fail
    go_ret
    exact ⟨by rw [HR.out]; rfl, onB HB0.out hb1⟩
  · have hf' : (d.mem i).formula.toList.isEmpty = false := by rw [empty_same]; simpa using hf
    have HR : Hid (leafB d.mem d.n i = false) := leafB_told hf
    clear hf hpt
    go_enter Tryz.func35, Tryz.ntmps35
    go_wp2_with fail
    go_ret
    exact ⟨by rw [HR.out]; rfl, by go_grown⟩
end Go.Proofs.YtmjcnlpjnbcfjadGreatDoor

namespace Go.Proofs.YtmjcnlpjnbcfjadGreatDoor
open Go.ChangeShapes Go.WideShapes Go.ChangeAt Go.RowKit
set_option maxRecDepth 20000

theorem byteN_eq (s : ByteArray) (k : Nat) (h : k < s.size) : byteN s k = (s[k].toNat : Int) := by
  unfold byteN
  rw [List.getD, List.getElem?_eq_getElem (by simpa using h)]
  rfl

set_option maxHeartbeats 1000000 in
theorem rname_any (s : ByteArray) (w : World) : Calls Tryz.prog 65 #[.string s] w fun e w' => e = .returned (.int .i64 (nameErr s)) ∧ w' = w := by
  by_cases h1 : s.size < 1
  · rw [nameErr_short (Or.inl h1)]
    have h2 : s.toList.isEmpty = true := by rw [empty_same]; simpa using (by omega : s.size = 0)
    clear h1
    go_enter Tryz.func65, Tryz.ntmps65
    go_wp2
    go_ret
    exact ⟨rfl, rfl⟩
  · have h0 : s.toList.isEmpty = false := by rw [empty_same]; simpa using (by omega : ¬ s.size = 0)
    by_cases h2 : 8 < s.size
    · rw [nameErr_short (Or.inr h2)]
      have h2' : 8 < (s.size : Int) := by omega
      clear h1
      go_enter Tryz.func65, Tryz.ntmps65
      go_wp2
      go_ret
      exact ⟨rfl, rfl⟩
    · have h2' : (s.size : Int) ≤ 8 := by omega
      have HN : Hid (nameErr s = if 0 ≤ findFrom (badByte s) s.size 0 then 2 else 0) := nameErr_bytes (by omega) (by omega)
      clear h1
      go_enter Tryz.func65, Tryz.ntmps65
      go_wp2
      go_loopg [3] s.size (fun g s3 wr => ∃ k : Nat, k ≤ s.size ∧ g = s.size - k ∧ s3 = .int .i64 k ∧ findFrom (badByte s) (s.size - k) k = findFrom (badByte s) s.size 0 ∧ wr = w)
      case atStart => exact ⟨0, Nat.zero_le _, rfl, rfl, rfl, rfl⟩
      case round =>
        obtain ⟨k, hk, rfl, rfl, hf, rfl⟩ := hrel
        by_cases hlt : k < s.size
        · have HF : Hid (findFrom (badByte s) (s.size - k) k = findFrom (badByte s) s.size 0) := hf
          have hsk : s.size - k = (s.size - (k + 1)) + 1 := by omega
          have hki : (k : Int) < (s.size : Int) := by omega
          have HY := byteN_eq s k hlt
          have HZ : Hid (byteN s k = (s[k].toNat : Int)) := HY
          clear hf HY
          by_cases b1 : (s[k].toNat : Int) < 97
          · go_wp2
            go_ret
            have hb : badByte s k = true := by unfold badByte badB; rw [HZ.out]; simp [b1]
            exact ⟨by rw [HN.out, ← HF.out, hsk, findFrom_hit _ hb, if_pos (by omega)]; rfl, rfl⟩
          · by_cases b2 : 122 < (s[k].toNat : Int)
            · go_wp2
              go_ret
              have hb : badByte s k = true := by unfold badByte badB; rw [HZ.out]; simp [b2]
              exact ⟨by rw [HN.out, ← HF.out, hsk, findFrom_hit _ hb, if_pos (by omega)]; rfl, rfl⟩
            · have HB : Hid (badByte s k = false) := by show badByte s k = false; unfold badByte badB; rw [HZ.out]; simp; omega
              go_wp2
              go_roundg (s.size - (k + 1))
              case measure => omega
              case rel => exact ⟨k + 1, by omega, rfl, by go_num, by rw [← HF.out, hsk, findFrom_miss _ HB.out], rfl⟩
        · have hke : k = s.size := by omega
          have HF : Hid (findFrom (badByte s) (s.size - k) k = findFrom (badByte s) s.size 0) := hf
          have hki : (s.size : Int) ≤ (k : Int) := by omega
          clear hf
          go_wp2
          go_ret
          exact ⟨by rw [HN.out, ← HF.out, hke, Nat.sub_self]; rfl, rfl⟩

set_option maxHeartbeats 1000000 in
theorem where_any (d : Dm) (A : Option Addr) (cap : Nat) (s : ByteArray) (w : World) (hn : d.n ≤ 12) (hM : MemsV w A cap d.n d.mem) : Calls Tryz.prog 66 #[dimV d A cap, .string s] w fun e w' => e = .returned (.int .i64 (findFrom (fun j => same (d.mem j).name s) d.n 0)) ∧ Below w.heap.size w w' := by
  have HM : Hid (MemsV w A cap d.n d.mem) := hM
  clear hM
  unfold dimV
  have hn' : (d.n : Int) ≤ 12 := by omega
  have hS := ownDim_size w d A cap 62
  have hB0 := ownDim_below w d A cap 62
  have hA2 := (ownDim_at w d A cap 62).2.2
  obtain ⟨W, hW⟩ : ∃ W, W = ownDim w d A cap 62 := ⟨_, rfl⟩
  rw [← hW] at hB0 hS hA2
  have HW : Hid (W = ownDim w d A cap 62) := hW
  have HA : Hid (W.cell? ⟨w.heap.size, 2, none⟩ = some (.slice A d.n cap)) := hA2
  have HB0 : Hid (Below w.heap.size w W) := hB0
  have hsz : w.heap.size < W.heap.size := by omega
  clear hW hA2 hB0 hS
  go_enter Tryz.func66, Tryz.ntmps66
  go_wp2_with fail
  go_loopg [5] d.n (fun g s5 wr => ∃ k : Nat, k ≤ d.n ∧ g = d.n - k ∧ s5 = .int .i64 k ∧ findFrom (fun j => same (d.mem j).name s) (d.n - k) k = findFrom (fun j => same (d.mem j).name s) d.n 0 ∧ wr = W)
  case atStart => exact ⟨0, Nat.zero_le _, rfl, rfl, rfl, by rw [HW.out]; rfl⟩
  case round =>
    obtain ⟨k, hk, rfl, rfl, hf, rfl⟩ := hrel
    have HF : Hid (findFrom (fun j => same (d.mem j).name s) (d.n - k) k = findFrom (fun j => same (d.mem j).name s) d.n 0) := hf
    have c2 := HA.out
    clear hf
    by_cases hlt : k < d.n
    · obtain ⟨hcap, h0 | ⟨b, o, rfl, hMs⟩⟩ := HM.out.later HB0.out
      · omega
      obtain ⟨n0, -, -, -⟩ := hMs.2 k hlt
      have hki : (k : Int) < (d.n : Int) := by omega
      have hsk : d.n - k = (d.n - (k + 1)) + 1 := by omega
      clear hMs
      cases hq : ((d.mem k).name.toList == s.toList)
      · have HQ : Hid ((fun j => same (d.mem j).name s) k = false) := hq
        go_wp2_with fail
        go_roundg (d.n - (k + 1))
        case measure => omega
        case rel => exact ⟨k + 1, by omega, rfl, by go_num, by rw [← HF.out, hsk, findFrom_miss _ HQ.out], rfl⟩
      · have HQ : Hid ((fun j => same (d.mem j).name s) k = true) := hq
        go_wp2_with fail
        go_ret
        exact ⟨by rw [← HF.out, hsk, findFrom_hit _ HQ.out]; rfl, HB0.out⟩
    · have hke : k = d.n := by omega
      have hki : (d.n : Int) ≤ (k : Int) := by omega
      go_wp2_with fail
      go_ret
      exact ⟨by rw [← HF.out, hke, Nat.sub_self]; rfl, HB0.out⟩

end Go.Proofs.YtmjcnlpjnbcfjadGreatDoor

namespace Go.Proofs.YtmjcnlpjnbcfjadGreatDoor
open Go.ChangeShapes Go.WideShapes Go.ChangeAt Go.RowKit
set_option maxRecDepth 20000

theorem clash_where {M : Nat → Mem} {n i : Nat} (hi : i < n) : decide (findFrom (fun j => same (M j).name (M i).name) n 0 < (i : Int)) = clash M i := by
  unfold clash
  rw [decide_eq_decide]
  exact findFrom_ahead (q := fun j => same (M j).name (M i).name) hi (same_refl _)

theorem dim_name {d : Dm} (h : nameErr d.name ≠ 0) : dimErr d = (-1, 2) := by rw [dimErr_frame (by rw [fr0 h]; decide), fr0 h]
theorem dim_solve {d : Dm} (h : nameErr d.name = 0) (h1 : d.solve < 0 ∨ 9 < d.solve) : dimErr d = (-1, 1) := by rw [dimErr_frame (by rw [fr1 h h1]; decide), fr1 h h1]
theorem dim_full {d : Dm} (h : nameErr d.name = 0) (h1 : ¬ (d.solve < 0 ∨ 9 < d.solve)) (h2 : 12 < d.n) : dimErr d = (-1, 4) := by rw [dimErr_frame (by rw [fr2 h h1 h2]; decide), fr2 h h1 h2]
theorem dim_none {d : Dm} (h : nameErr d.name = 0) (h1 : ¬ (d.solve < 0 ∨ 9 < d.solve)) (h2 : ¬ 12 < d.n) (h3 : d.n = 0) : dimErr d = (-1, 5) := by rw [dimErr_frame (by rw [fr3 h h1 h2 h3]; decide), fr3 h h1 h2 h3]
theorem dim_scan {d : Dm} (h : nameErr d.name = 0) (h1 : ¬ (d.solve < 0 ∨ 9 < d.solve)) (h2 : ¬ 12 < d.n) (h3 : ¬ d.n = 0) : dimErr d = scan d.mem d.n 0 := (dimErr_scan (fr4 h h1 h2 h3)).1

set_option maxHeartbeats 8000000 in
theorem rdim_any (d : Dm) (A : Option Addr) (cap : Nat) (w : World) (hM : MemsV w A cap d.n d.mem) : Calls Tryz.prog 46 #[dimV d A cap] w fun e w' => e = .returned (.tuple #[.int .i64 (dimErr d).1, .int .i64 (dimErr d).2]) ∧ Below w.heap.size w w' := by
  have HM : Hid (MemsV w A cap d.n d.mem) := hM
  have hnm := rname_any d.name
  clear hM
  unfold dimV
  by_cases hn : nameErr d.name = 0
  · rw [hn] at hnm
    have HN : Hid (nameErr d.name = 0) := hn
    clear hn
    by_cases c1 : d.solve < 0
    · have HR : Hid (dimErr d = (-1, 1)) := dim_solve HN.out (Or.inl c1)
      go_enter Tryz.func46, Tryz.ntmps46
      go_wp2_with fail
      refine (hnm _).mono ?_
      rintro e w1 ⟨rfl, rfl⟩
      go_wp2_with fail
      go_ret2
      exact ⟨by rw [HR.out]; rfl, by go_grown⟩
    by_cases c2 : 9 < d.solve
    · have HR : Hid (dimErr d = (-1, 1)) := dim_solve HN.out (Or.inr c2)
      go_enter Tryz.func46, Tryz.ntmps46
      go_wp2_with fail
      refine (hnm _).mono ?_
      rintro e w1 ⟨rfl, rfl⟩
      go_wp2_with fail
      go_ret2
      exact ⟨by rw [HR.out]; rfl, by go_grown⟩
    have HC : Hid (¬ (d.solve < 0 ∨ 9 < d.solve)) := by show ¬ _; omega
    by_cases c3 : 12 < d.n
    · have HR : Hid (dimErr d = (-1, 4)) := dim_full HN.out HC.out c3
      have c3' : 12 < (d.n : Int) := by omega
      go_enter Tryz.func46, Tryz.ntmps46
      go_wp2_with fail
      refine (hnm _).mono ?_
      rintro e w1 ⟨rfl, rfl⟩
      go_wp2_with fail
      go_ret2
      exact ⟨by rw [HR.out]; rfl, by go_grown⟩
    have c3' : (d.n : Int) ≤ 12 := by omega
    by_cases c4 : d.n = 0
    · have HR : Hid (dimErr d = (-1, 5)) := dim_none HN.out HC.out c3 c4
      have c4' : ((d.n : Int) == 0) = true := by simp [c4]
      clear c4
      go_enter Tryz.func46, Tryz.ntmps46
      go_wp2_with fail
      refine (hnm _).mono ?_
      rintro e w1 ⟨rfl, rfl⟩
      go_wp2_with fail
      go_ret2
      exact ⟨by rw [HR.out]; rfl, by go_grown⟩
    have HD : Hid (dimErr d = scan d.mem d.n 0) := dim_scan HN.out HC.out c3 c4
    have c4' : ((d.n : Int) == 0) = false := by simp; omega
    have hS := ownDim_size w d A cap 62
    have hB0 := ownDim_below w d A cap 62
    have hA := ownDim_at w d A cap 62
    obtain ⟨W, hW⟩ : ∃ W, W = ownDim w d A cap 62 := ⟨_, rfl⟩
    rw [← hW] at hB0 hS hA
    have HW : Hid (W = ownDim w d A cap 62) := hW
    have HB0 : Hid (Below w.heap.size w W) := hB0
    have hsz : w.heap.size < W.heap.size := by omega
    obtain ⟨hcap, h0 | ⟨b, o, rfl, hMs⟩⟩ := HM.out.later hB0
    · omega
    have HMs : Hid (MemsAt W b o d.n d.mem) := hMs
    have HA : Hid (W.cell? ⟨w.heap.size, 0, none⟩ = some (.string d.name) ∧ W.cell? ⟨w.heap.size, 1, none⟩ = some (.int .i64 d.solve) ∧ W.cell? ⟨w.heap.size, 2, none⟩ = some (.slice (some ⟨b, o, none⟩) d.n cap)) := hA
    clear hW hB0 hS hA hMs HM
    go_enter Tryz.func46, Tryz.ntmps46
    go_wp2_with fail
    refine (hnm _).mono ?_
    rintro e w1 ⟨rfl, rfl⟩
    clear hnm
    go_wp2_with fail
    go_loopg [4] d.n (fun g s4 wr => ∃ (k : Nat), k ≤ d.n ∧ g = d.n - k ∧ s4 = .int .i64 k ∧ scan d.mem (d.n - k) k = scan d.mem d.n 0 ∧ Below W.heap.size W wr)
    case atStart => exact ⟨0, Nat.zero_le _, rfl, rfl, rfl, by rw [HW.out]; exact Below.refl _ _⟩
    case round =>
      obtain ⟨k, hk, rfl, rfl, hsc, hBw⟩ := hrel
      have HF : Hid (scan d.mem (d.n - k) k = scan d.mem d.n 0) := hsc
      have hMr := HMs.out.later hBw
      have q0 : wr.cell? ⟨w.heap.size, 0, none⟩ = some (.string d.name) := (hBw.cell (p := ⟨w.heap.size, 0, none⟩) hsz).trans HA.out.1
      have q1 : wr.cell? ⟨w.heap.size, 1, none⟩ = some (.int .i64 d.solve) := (hBw.cell (p := ⟨w.heap.size, 1, none⟩) hsz).trans HA.out.2.1
      have q2 : wr.cell? ⟨w.heap.size, 2, none⟩ = some (.slice (some ⟨b, o, none⟩) d.n cap) := (hBw.cell (p := ⟨w.heap.size, 2, none⟩) hsz).trans HA.out.2.2
      have hszr : w.heap.size < wr.heap.size := Nat.lt_of_lt_of_le hsz hBw.size
      have HBr : Hid (Below w.heap.size w wr) := onB HB0.out hBw
      have HBw : Hid (Below W.heap.size W wr) := hBw
      clear hsc hBw
      by_cases hlt : k < d.n
      · obtain ⟨h0, h1, h2, h3⟩ := hMr.2 k hlt
        have hki : (k : Int) < (d.n : Int) := by omega
        have hsk : d.n - k = (d.n - (k + 1)) + 1 := by omega
        have hnk := rname_any (d.mem k).name
        have hbr := hMr.1
        have HBm : Hid (Below wr.heap.size wr (ownMem wr (d.mem k) 65)) := ownMem_below wr (d.mem k) 65
        have HSm : Hid ((ownMem wr (d.mem k) 65).heap.size = wr.heap.size + 1) := ownMem_size wr (d.mem k) 65
        have HAm : Hid (MemAt (ownMem wr (d.mem k) 65) wr.heap.size 0 (d.mem k)) := ownMem_at wr (d.mem k) 65
        have hwh := where_any d (some ⟨b, o, none⟩) cap (d.mem k).name (ownMem wr (d.mem k) 65) (by omega) ⟨hcap, Or.inr ⟨b, o, rfl, hMr.later HBm.out⟩⟩
        unfold dimV at hwh
        have HC2 : Hid (decide (findFrom (fun j => same (d.mem j).name (d.mem k).name) d.n 0 < (k : Int)) = clash d.mem k) := clash_where hlt
        have HMr : Hid (MemsAt wr b o d.n d.mem) := hMr
        generalize findFrom (fun j => same (d.mem j).name (d.mem k).name) d.n 0 = f at hwh HC2
        clear hMr
        by_cases hnk0 : nameErr (d.mem k).name = 0
        · rw [hnk0] at hnk
          have HK : Hid (nameErr (d.mem k).name = 0) := hnk0
          clear hnk0
          go_wp2_with fail
          refine (hnk _).mono ?_
          rintro e w1 ⟨rfl, rfl⟩
          clear hnk
          go_wp2_with fail
          refine hwh.mono ?_
          rintro e w2 ⟨rfl, hb2⟩
          have hB2 : Below wr.heap.size wr w2 := onB HBm.out hb2
          have hzm : wr.heap.size < (ownMem wr (d.mem k) 65).heap.size := by rw [HSm.out]; omega
          have hAm2 := HAm.out.later hzm hb2
          obtain ⟨-, m1, m2, m3⟩ := hAm2
          have v2 : w2.cell? ⟨w.heap.size, 2, none⟩ = some (.slice (some ⟨b, o, none⟩) d.n cap) := (hB2.cell (p := ⟨w.heap.size, 2, none⟩) hszr).trans q2
          have hM2 := HMr.out.later hB2
          have HB2 : Hid (Below W.heap.size W w2) := onB HBw.out hB2
          have HBe : Hid (Below w.heap.size w w2) := onB HBr.out hB2
          clear hb2 hwh h0 h1 h2 h3 q0 q1 q2 hzm HAm HSm HBm HMr hB2
          by_cases hf : f < (k : Int)
          · have hcl : clash d.mem k = true := by rw [← HC2.out]; simpa using hf
            have HE : Hid (memErr d.mem k = 7) := me1 HK.out hcl
            clear hM2 hcl
            go_wp2_with fail
            go_ret2
            exact ⟨by rw [HD.out, ← HF.out, hsk, scan_bad _ (by rw [HE.out]; decide), HE.out]; rfl, HBe.out⟩
          · have HL : Hid (clash d.mem k = false) := by show _ = _; rw [← HC2.out]; simpa using hf
            clear HC2
            by_cases p1 : (d.mem k).parent < -1
            · have HE : Hid (memErr d.mem k = 1) := me2 HK.out HL.out (Or.inl p1)
              clear hM2
              go_wp2_with fail
              go_ret2
              exact ⟨by rw [HD.out, ← HF.out, hsk, scan_bad _ (by rw [HE.out]; decide), HE.out]; rfl, HBe.out⟩
            by_cases p2 : (k : Int) ≤ (d.mem k).parent
            · have HE : Hid (memErr d.mem k = 1) := me2 HK.out HL.out (Or.inr p2)
              clear hM2
              go_wp2_with fail
              go_ret2
              exact ⟨by rw [HD.out, ← HF.out, hsk, scan_bad _ (by rw [HE.out]; decide), HE.out]; rfl, HBe.out⟩
            have HP : Hid (¬ ((d.mem k).parent < -1 ∨ (k : Int) ≤ (d.mem k).parent)) := by show ¬ _; omega
            by_cases p3 : 0 ≤ (d.mem k).parent
            · obtain ⟨p, hp⟩ : ∃ p : Nat, (d.mem k).parent = (p : Int) := ⟨(d.mem k).parent.toNat, by omega⟩
              obtain ⟨-, -, -, d3⟩ := hM2.2 p (by omega)
              rw [hp] at m1 p1 p2 p3
              have HQ : Hid ((d.mem k).parent.toNat = p ∧ 0 ≤ (d.mem k).parent) := ⟨by omega, by omega⟩
              have hpi : (p : Int) < (d.n : Int) := by omega
              clear hp hM2
              by_cases p4 : (d.mem p).formula.size = 0
              · have p4' : (d.mem p).formula.toList.isEmpty = true := by rw [empty_same]; simpa using p4
                have HG : Hid (¬ (0 ≤ (d.mem k).parent ∧ (d.mem (d.mem k).parent.toNat).formula.size ≠ 0)) := by show ¬ _; rw [HQ.out.1]; omega
                clear p4
                by_cases p5 : (d.mem k).sign < -1
                · have HE : Hid (memErr d.mem k = 1) := me4 HK.out HL.out HP.out HG.out (Or.inl p5)
                  go_wp2_with fail
                  go_ret2
                  exact ⟨by rw [HD.out, ← HF.out, hsk, scan_bad _ (by rw [HE.out]; decide), HE.out]; rfl, HBe.out⟩
                by_cases p6 : 1 < (d.mem k).sign
                · have HE : Hid (memErr d.mem k = 1) := me4 HK.out HL.out HP.out HG.out (Or.inr p6)
                  go_wp2_with fail
                  go_ret2
                  exact ⟨by rw [HD.out, ← HF.out, hsk, scan_bad _ (by rw [HE.out]; decide), HE.out]; rfl, HBe.out⟩
                by_cases p7 : 100 < (d.mem k).formula.size
                · have HE : Hid (memErr d.mem k = 4) := me5 HK.out HL.out HP.out HG.out (by omega) p7
                  have p7' : 100 < ((d.mem k).formula.size : Int) := by omega
                  go_wp2_with fail
                  go_ret2
                  exact ⟨by rw [HD.out, ← HF.out, hsk, scan_bad _ (by rw [HE.out]; decide), HE.out]; rfl, HBe.out⟩
                · have HE : Hid (memErr d.mem k = 0) := me6 HK.out HL.out HP.out HG.out (by omega) p7
                  have p7' : ((d.mem k).formula.size : Int) ≤ 100 := by omega
                  go_wp2_with fail
                  go_roundg (d.n - (k + 1))
                  case measure => omega
                  case rel => exact ⟨k + 1, by omega, rfl, by go_num, by rw [← HF.out, hsk, scan_ok _ HE.out], HB2.out⟩
              · have p4' : (d.mem p).formula.toList.isEmpty = false := by rw [empty_same]; simpa using p4
                have HG : Hid (0 ≤ (d.mem k).parent ∧ (d.mem (d.mem k).parent.toNat).formula.size ≠ 0) := by refine ⟨HQ.out.2, ?_⟩; rw [HQ.out.1]; exact p4
                have HE : Hid (memErr d.mem k = 6) := me3 HK.out HL.out HP.out HG.out
                clear p4
                go_wp2_with fail
                go_ret2
                exact ⟨by rw [HD.out, ← HF.out, hsk, scan_bad _ (by rw [HE.out]; decide), HE.out]; rfl, HBe.out⟩
            · have HG : Hid (¬ (0 ≤ (d.mem k).parent ∧ (d.mem (d.mem k).parent.toNat).formula.size ≠ 0)) := by show ¬ _; omega
              clear hM2
              by_cases p5 : (d.mem k).sign < -1
              · have HE : Hid (memErr d.mem k = 1) := me4 HK.out HL.out HP.out HG.out (Or.inl p5)
                go_wp2_with fail
                go_ret2
                exact ⟨by rw [HD.out, ← HF.out, hsk, scan_bad _ (by rw [HE.out]; decide), HE.out]; rfl, HBe.out⟩
              by_cases p6 : 1 < (d.mem k).sign
              · have HE : Hid (memErr d.mem k = 1) := me4 HK.out HL.out HP.out HG.out (Or.inr p6)
                go_wp2_with fail
                go_ret2
                exact ⟨by rw [HD.out, ← HF.out, hsk, scan_bad _ (by rw [HE.out]; decide), HE.out]; rfl, HBe.out⟩
              by_cases p7 : 100 < (d.mem k).formula.size
              · have HE : Hid (memErr d.mem k = 4) := me5 HK.out HL.out HP.out HG.out (by omega) p7
                have p7' : 100 < ((d.mem k).formula.size : Int) := by omega
                go_wp2_with fail
                go_ret2
                exact ⟨by rw [HD.out, ← HF.out, hsk, scan_bad _ (by rw [HE.out]; decide), HE.out]; rfl, HBe.out⟩
              · have HE : Hid (memErr d.mem k = 0) := me6 HK.out HL.out HP.out HG.out (by omega) p7
                have p7' : ((d.mem k).formula.size : Int) ≤ 100 := by omega
                go_wp2_with fail
                go_roundg (d.n - (k + 1))
                case measure => omega
                case rel => exact ⟨k + 1, by omega, rfl, by go_num, by rw [← HF.out, hsk, scan_ok _ HE.out], HB2.out⟩
        · rw [nameErr_two hnk0] at hnk
          have HE : Hid (memErr d.mem k = 2) := me0 hnk0
          clear hnk0 hwh
          go_wp2_with fail
          refine (hnk _).mono ?_
          rintro e w1 ⟨rfl, rfl⟩
          clear hnk
          go_wp2_with fail
          go_ret2
          exact ⟨by rw [HD.out, ← HF.out, hsk, scan_bad _ (by rw [HE.out]; decide), HE.out]; rfl, onB HBr.out HBm.out⟩
      · have hke : k = d.n := by omega
        have hki : (d.n : Int) ≤ (k : Int) := by omega
        clear hMr
        go_wp2_with fail
        go_ret2
        exact ⟨by rw [HD.out, ← HF.out, hke, Nat.sub_self]; rfl, HBr.out⟩
  · rw [nameErr_two hn] at hnm
    have HR : Hid (dimErr d = (-1, 2)) := dim_name hn
    clear hn
    go_enter Tryz.func46, Tryz.ntmps46
    go_wp2_with fail
    refine (hnm _).mono ?_
    rintro e w1 ⟨rfl, rfl⟩
    go_wp2_with fail
    go_ret2
    exact ⟨by rw [HR.out]; rfl, by go_grown⟩
end Go.Proofs.YtmjcnlpjnbcfjadGreatDoor

namespace Go.Proofs.YtmjcnlpjnbcfjadGreatDoor
open Go.ChangeShapes Go.WideShapes Go.ChangeAt Go.RowKit
set_option maxRecDepth 20000

set_option maxHeartbeats 1000000 in
theorem osize_any (b o n cap : Nat) (D : Nat → Dm) (A : Nat → Option Addr) (C : Nat → Nat) (w : World) (hn : n ≤ 4) (hd : ∀ j, j < n → (D j).n ≤ 12) (hM : DimsAt w b o n D A C) : Calls Tryz.prog 13 #[.agg #[.slice (some ⟨b, o, none⟩) n cap]] w fun e w' => e = .returned (.int .i64 (prodN D n)) ∧ Below w.heap.size w w' := by
  have HB : Hid (DimsAt w b o n D A C) := hM
  have HD : Hid (∀ j, j < n → (D j).n ≤ 12) := hd
  clear hM hd
  have hS := ownOut_size w (some ⟨b, o, none⟩) n cap 24
  have hB0 := ownOut_below w (some ⟨b, o, none⟩) n cap 24
  have hA2 := ownOut_at w (some ⟨b, o, none⟩) n cap 24
  obtain ⟨W, hW⟩ : ∃ W, W = ownOut w (some ⟨b, o, none⟩) n cap 24 := ⟨_, rfl⟩
  rw [← hW] at hB0 hS hA2
  have HW : Hid (W = ownOut w (some ⟨b, o, none⟩) n cap 24) := hW
  have HA : Hid (W.cell? ⟨w.heap.size, 0, none⟩ = some (.slice (some ⟨b, o, none⟩) n cap)) := hA2
  have HB0 : Hid (Below w.heap.size w W) := hB0
  have hs8 : (n : Int) ≤ 4 := by omega
  clear hW hA2 hB0 hS
  go_enter Tryz.func13, Tryz.ntmps13
  go_wp2_with fail
  go_loopg [3, 4] n (fun g s3 s4 wr => ∃ (k : Nat), k ≤ n ∧ g = n - k ∧ s4 = .int .i64 k ∧ s3 = .int .i64 (prodN D k) ∧ wr = W)
  case atStart => exact ⟨0, Nat.zero_le _, rfl, rfl, rfl, by rw [HW.out]; rfl⟩
  case round =>
    obtain ⟨k, hk, rfl, rfl, rfl, rfl⟩ := hrel
    have c0 := HA.out
    by_cases hlt : k < n
    · obtain ⟨h0, h1, h2, -⟩ := (HB.out.later HB0.out).2 k hlt
      have hki : (k : Int) < (n : Int) := by omega
      have hp1 : prodN D (k + 1) ≤ 20736 := prod_small (fun j hj => HD.out j (by omega)) (by omega)
      have hp2 : (prodN D (k + 1) : Int) = (prodN D k : Int) * ((D k).n : Int) := by rw [prodN]; exact Int.natCast_mul _ _
      have hp3 : 0 ≤ (prodN D k : Int) * ((D k).n : Int) := by omega
      have hp4 : (prodN D k : Int) * ((D k).n : Int) ≤ 20736 := by omega
      have HP : Hid ((prodN D (k + 1) : Int) = (prodN D k : Int) * ((D k).n : Int)) := hp2
      clear hp1 hp2
      go_wp2_with fail
      go_roundg (n - (k + 1))
      case measure => omega
      case rel => exact ⟨k + 1, by omega, rfl, by go_num, by rw [HP.out], rfl⟩
    · have hke : k = n := by omega
      subst hke
      go_wp2_with fail
      go_ret
      exact ⟨rfl, HB0.out⟩
end Go.Proofs.YtmjcnlpjnbcfjadGreatDoor

namespace Go.Proofs.YtmjcnlpjnbcfjadGreatDoor
open Go.ChangeShapes Go.WideShapes Go.ChangeAt Go.RowKit
set_option maxRecDepth 20000

theorem clashD_hit {D : Nat → Dm} {k j : Nat} (hj : j < k) (h : same (D j).name (D k).name = true) : clashD D k = true := by
  unfold clashD
  exact decide_eq_true (findFrom_nonneg (q := fun j => same (D j).name (D k).name) hj h)
theorem clashD_none {D : Nat → Dm} {k : Nat} (h : findFrom (fun j => same (D j).name (D k).name) k 0 = -1) : clashD D k = false := by
  unfold clashD
  rw [h]
  rfl

set_option maxHeartbeats 8000000 in
theorem routline_any (A0 : Option Addr) (cap n : Nat) (D : Nat → Dm) (A : Nat → Option Addr) (C : Nat → Nat) (w : World) (hM : DimsV w A0 cap n D A C) : Calls Tryz.prog 31 #[.agg #[.slice A0 n cap]] w fun e w' => e = .returned (.tuple #[.int .i64 (allErr D n).1, .int .i64 (allErr D n).2.1, .int .i64 (allErr D n).2.2]) ∧ Below w.heap.size w w' := by
  by_cases hn4 : 4 < n
  · have hn' : 4 < (n : Int) := by omega
    have HR : Hid (allErr D n = (-1, -1, 4)) := al0 hn4
    clear hn4 hM
    go_enter Tryz.func31, Tryz.ntmps31
    go_wp2_with fail
    refine bodyPost_ret (v := .tuple #[.int .i64 (-1), .int .i64 (-1), .int .i64 4]) (by simp [results, Tryz.results31, go_sem]) rfl ⟨by rw [HR.out], ?_⟩
    go_grown
  have hn' : (n : Int) ≤ 4 := by omega
  by_cases hn0 : n = 0
  · have HR : Hid (allErr D n = (-1, -1, 5)) := al1 hn0
    have hz : ((n : Int) == 0) = true := by simp [hn0]
    clear hn0 hM hn4
    go_enter Tryz.func31, Tryz.ntmps31
    go_wp2_with fail
    refine bodyPost_ret (v := .tuple #[.int .i64 (-1), .int .i64 (-1), .int .i64 5]) (by simp [results, Tryz.results31, go_sem]) rfl ⟨by rw [HR.out], ?_⟩
    go_grown
  have hz : ((n : Int) == 0) = false := by simp; omega
  obtain ⟨hcap, h0 | ⟨b, o, rfl, hMs⟩⟩ := hM
  · omega
  have hcap' : (n : Int) ≤ (cap : Int) := by omega
  have hB0 := ownOut_below w (some ⟨b, o, none⟩) n cap 24
  have hS := ownOut_size w (some ⟨b, o, none⟩) n cap 24
  have hA := ownOut_at w (some ⟨b, o, none⟩) n cap 24
  obtain ⟨W, hW⟩ : ∃ W, W = ownOut w (some ⟨b, o, none⟩) n cap 24 := ⟨_, rfl⟩
  rw [← hW] at hB0 hS hA
  have HMs : Hid (DimsAt W b o n D A C) := hMs.later hB0
  have hsz : w.heap.size < W.heap.size := by omega
  clear hMs
  have HW : Hid (W = ownOut w (some ⟨b, o, none⟩) n cap 24) := hW
  have HA : Hid (W.cell? ⟨w.heap.size, 0, none⟩ = some (.slice (some ⟨b, o, none⟩) n cap)) := hA
  have HB0 : Hid (Below w.heap.size w W) := hB0
  clear hW hA hB0 hS
  go_enter Tryz.func31, Tryz.ntmps31
  go_wp2_with fail
  go_loopg [5] n (fun g s5 wr => ∃ (k : Nat), k ≤ n ∧ g = n - k ∧ s5 = .int .i64 k ∧ scanD D (n - k) k = scanD D n 0 ∧ Below W.heap.size W wr)
  case atStart => exact ⟨0, Nat.zero_le _, rfl, rfl, rfl, by rw [HW.out]; exact Below.refl _ _⟩
  case round =>
    obtain ⟨k, hk, rfl, rfl, hsc, hBw⟩ := hrel
    obtain ⟨wo, rfl⟩ : ∃ wo : World, wo = wr := ⟨_, rfl⟩
    have HBr : Hid (Below W.heap.size W wo) := hBw
    have HF : Hid (scanD D (n - k) k = scanD D n 0) := hsc
    have c0 : wo.cell? ⟨w.heap.size, 0, none⟩ = some (.slice (some ⟨b, o, none⟩) n cap) := (hBw.cell (p := ⟨w.heap.size, 0, none⟩) hsz).trans HA.out
    have hMr := HMs.out.later hBw
    have hszr : w.heap.size < wo.heap.size := Nat.lt_of_lt_of_le hsz hBw.size
    clear hsc hBw
    by_cases hlt : k < n
    · obtain ⟨h0, h1, h2, h3⟩ := hMr.2 k hlt
      have hki : (k : Int) < (n : Int) := by omega
      have hsk : n - k = (n - (k + 1)) + 1 := by omega
      have hck := rdim_any (D k) (A k) (C k) wo h3
      unfold dimV at hck
      have HMr : Hid (DimsAt wo b o n D A C) := hMr
      clear h3 hMr
      by_cases he : (dimErr (D k)).2 = 0
      · obtain ⟨e1, hd1, hd2, -⟩ := dimErr_right he
        rw [he, e1] at hck
        have HE : Hid ((dimErr (D k)).2 = 0) := he
        clear he e1
        go_wp2_with fail
        refine hck.mono ?_
        rintro e w1 ⟨rfl, hb1⟩
        have hz1 : w.heap.size < w1.heap.size := Nat.lt_of_lt_of_le hszr hb1.size
        have c1 : w1.cell? ⟨w.heap.size, 0, none⟩ = some (.slice (some ⟨b, o, none⟩) n cap) := (hb1.cell (p := ⟨w.heap.size, 0, none⟩) hszr).trans c0
        have HM1 : Hid (DimsAt w1 b o n D A C) := HMr.out.later hb1
        have HB1 : Hid (Below W.heap.size W w1) := onB HBr.out hb1
        clear hb1 hck c0 h0 h1 h2 HMr hd1 hd2
        go_wp2_with fail
        go_loopg [7, 8] k (fun g s7 s8 wr => ∃ (j : Nat), j ≤ k ∧ g = k - j ∧ s8 = .int .i64 j ∧ ((s7 = .int .i64 0 ∧ findFrom (fun j => same (D j).name (D k).name) (k - j) j = findFrom (fun j => same (D j).name (D k).name) k 0) ∨ (s7 = .int .i64 7 ∧ clashD D k = true)) ∧ Below w1.heap.size w1 wr)
        case atStart => exact ⟨0, Nat.zero_le _, rfl, rfl, Or.inl ⟨rfl, rfl⟩, Below.refl _ _⟩
        case round =>
          obtain ⟨j, hj, rfl, rfl, hs, hBi⟩ := hrel
          have HBi : Hid (Below w1.heap.size w1 wr) := hBi
          have c2 : wr.cell? ⟨w.heap.size, 0, none⟩ = some (.slice (some ⟨b, o, none⟩) n cap) := (hBi.cell (p := ⟨w.heap.size, 0, none⟩) hz1).trans c1
          have hMi := HM1.out.later hBi
          clear hBi
          rcases hs with ⟨rfl, hff⟩ | ⟨rfl, hcl⟩
          · have HFF : Hid (findFrom (fun j => same (D j).name (D k).name) (k - j) j = findFrom (fun j => same (D j).name (D k).name) k 0) := hff
            clear hff
            by_cases hjk : j < k
            · obtain ⟨a0, -, -, -⟩ := hMi.2 j (by omega)
              obtain ⟨b0, -, -, -⟩ := hMi.2 k hlt
              have hji : (j : Int) < (k : Int) := by omega
              have hjn : (j : Int) < (n : Int) := by omega
              have hsj : k - j = (k - (j + 1)) + 1 := by omega
              clear hMi
              cases hq : ((D j).name.toList == (D k).name.toList)
              · have HQ : Hid ((fun j => same (D j).name (D k).name) j = false) := hq
                go_wp2_with fail
                go_quiet (fail)
                go_wp2_with fail
                go_roundg (k - (j + 1))
                case measure => omega
                case rel => exact ⟨j + 1, by omega, rfl, by go_num, Or.inl ⟨rfl, by rw [← HFF.out, hsj, findFrom_miss _ HQ.out]⟩, onB HBi.out (below_drewN (Below.refl _ _) _)⟩
              · have HQ : Hid (clashD D k = true) := clashD_hit hjk hq
                go_wp2_with fail
                go_quiet (fail)
                go_wp2_with fail
                go_roundg (k - (j + 1))
                case measure => omega
                case rel => exact ⟨j + 1, by omega, rfl, by go_num, Or.inr ⟨rfl, HQ.out⟩, onB HBi.out (below_drewN (Below.refl _ _) _)⟩
            · have hje : j = k := by omega
              have hji : (k : Int) ≤ (j : Int) := by omega
              have hcl : clashD D k = false := clashD_none (by rw [← HFF.out, hje, Nat.sub_self]; rfl)
              have HK : Hid (oneD D k = (-1, 0)) := one2 HE.out hcl
              clear hMi hcl
              go_wp2_with fail
              go_roundg (n - (k + 1))
              case measure => omega
              case rel => exact ⟨k + 1, by omega, rfl, by go_num, by rw [← HF.out, hsk, scanD_ok _ (by rw [HK.out])], onB HB1.out HBi.out⟩
          · have HK : Hid (oneD D k = (-1, 7)) := one1 HE.out hcl
            clear hMi hcl
            have hsb : scanD D n 0 = ((k : Int), -1, 7) := by rw [← HF.out, hsk, scanD_bad _ (by rw [HK.out]; decide), HK.out]
            have HR : Hid (allErr D n = ((k : Int), -1, 7)) := by show _ = _; rw [al2 (by omega) (by omega) (by rw [hsb]; show (7 : Int) ≠ 0; decide), hsb]
            clear hsb
            by_cases hjk : (j : Int) < (k : Int)
            · go_wp2_with fail
              refine bodyPost_ret (v := .tuple #[.int .i64 k, .int .i64 (-1), .int .i64 7]) (by simp [results, Tryz.results31, go_sem]) rfl ⟨by rw [HR.out], ?_⟩
              exact onB HB0.out (onB HB1.out HBi.out)
            · go_wp2_with fail
              refine bodyPost_ret (v := .tuple #[.int .i64 k, .int .i64 (-1), .int .i64 7]) (by simp [results, Tryz.results31, go_sem]) rfl ⟨by rw [HR.out], ?_⟩
              exact onB HB0.out (onB HB1.out HBi.out)
      · have HK : Hid (oneD D k = dimErr (D k)) := one0 he
        have HE : Hid ((dimErr (D k)).2 ≠ 0) := he
        have hsb : scanD D n 0 = ((k : Int), (dimErr (D k)).1, (dimErr (D k)).2) := by rw [← HF.out, hsk, scanD_bad _ (by rw [HK.out]; exact he), HK.out]
        have HR : Hid (allErr D n = ((k : Int), (dimErr (D k)).1, (dimErr (D k)).2)) := by show _ = _; rw [al2 (by omega) (by omega) (by rw [hsb]; exact he), hsb]
        have he2 : ((dimErr (D k)).2 == 0) = false := by simpa using he
        clear he hsb HK HE
        generalize (dimErr (D k)).2 = ec at hck HR he2
        generalize (dimErr (D k)).1 = kc at hck HR
        go_wp2_with fail
        refine hck.mono ?_
        rintro e w1 ⟨rfl, hb1⟩
        have HB1 : Hid (Below W.heap.size W w1) := onB HBr.out hb1
        clear hb1 hck
        go_wp2_with fail
        by_cases hk0 : (0 : Int) < (k : Int)
        · refine wp_loop_rounds 1 ?_
          rw [rounds_succ]
          go_wp2_with fail
          refine bodyPost_ret (v := .tuple #[.int .i64 k, .int .i64 kc, .int .i64 ec]) (by simp [results, Tryz.results31, go_sem]) rfl ⟨by rw [HR.out], ?_⟩
          exact onB HB0.out HB1.out
        · have hk0' : (k : Int) ≤ 0 := by omega
          refine wp_loop_rounds 1 ?_
          rw [rounds_succ]
          go_wp2_with fail
          refine bodyPost_ret (v := .tuple #[.int .i64 k, .int .i64 kc, .int .i64 ec]) (by simp [results, Tryz.results31, go_sem]) rfl ⟨by rw [HR.out], ?_⟩
          exact onB HB0.out HB1.out
    · have hke : k = n := by omega
      subst hke
      have hs0 : (scanD D k 0).2.2 = 0 := by rw [← HF.out, Nat.sub_self]; rfl
      have hone := (scanD_right k 0 hs0).2
      have hcs := osize_any b o k cap D A C wo (by omega) (fun j hj => (dimErr_right (oneD_right (hone j (Nat.zero_le _) (by omega)))).2.2.1) hMr
      clear hone hMr
      by_cases hp : 3000 < prodN D k
      · have hp' : 3000 < (prodN D k : Int) := by omega
        have HR : Hid (allErr D k = (-1, -1, 4)) := al3 (by omega) (by omega) hs0 hp
        clear hs0 hp
        go_wp2_with fail
        refine hcs.mono ?_
        rintro e w2 ⟨rfl, hb2⟩
        go_wp2_with fail
        refine bodyPost_ret (v := .tuple #[.int .i64 (-1), .int .i64 (-1), .int .i64 4]) (by simp [results, Tryz.results31, go_sem]) rfl ⟨by rw [HR.out], ?_⟩
        exact onB HB0.out (onB HBr.out hb2)
      · have hp' : (prodN D k : Int) ≤ 3000 := by omega
        have HR : Hid (allErr D k = (-1, -1, 0)) := al4 (by omega) (by omega) hs0 hp
        clear hs0 hp
        go_wp2_with fail
        refine hcs.mono ?_
        rintro e w2 ⟨rfl, hb2⟩
        go_wp2_with fail
        refine bodyPost_ret (v := .tuple #[.int .i64 (-1), .int .i64 (-1), .int .i64 0]) (by simp [results, Tryz.results31, go_sem]) rfl ⟨by rw [HR.out], ?_⟩
        exact onB HB0.out (onB HBr.out hb2)
end Go.Proofs.YtmjcnlpjnbcfjadGreatDoor

namespace Go.Proofs.YtmjcnlpjnbcfjadGreatDoor
open Go.ChangeShapes Go.WideShapes Go.ChangeAt Go.RowKit
set_option maxRecDepth 20000

theorem rright_any (A0 : Option Addr) (cap n : Nat) (D : Nat → Dm) (A : Nat → Option Addr) (C : Nat → Nat) (w : World) (hM : DimsV w A0 cap n D A C) : Calls Tryz.prog 12 #[.agg #[.slice A0 n cap]] w fun e w' => e = .returned (.int .i64 (allErr D n).2.2) ∧ Below w.heap.size w w' := by
  have hB0 := ownOut_below w A0 n cap 24
  have h := routline_any A0 cap n D A C (ownOut w A0 n cap 24) (hM.later hB0)
  have HB0 : Hid (Below w.heap.size w (ownOut w A0 n cap 24)) := hB0
  clear hM hB0
  generalize (allErr D n).2.2 = v at h
  generalize (allErr D n).1 = x at h
  generalize (allErr D n).2.1 = y at h
  go_enter Tryz.func12, Tryz.ntmps12
  go_wp2_with fail
  refine h.mono ?_
  rintro e w1 ⟨rfl, hb1⟩
  go_wp2_with fail
  go_ret
  exact ⟨rfl, onB HB0.out hb1⟩

set_option maxHeartbeats 4000000 in
theorem rplace_any (A0 : Option Addr) (cap n : Nat) (D : Nat → Dm) (A : Nat → Option Addr) (C : Nat → Nat) (Ap : Option Addr) (cp : Nat) (L : List Int) (w : World) (hR : (allErr D n).2.2 = 0) (hM : DimsV w A0 cap n D A C) (hP : PlAt w Ap cp L) : Calls Tryz.prog 16 #[.agg #[.slice A0 n cap], .slice Ap L.length cp] w fun e w' => e = .returned (.int .i64 (shapeErr D n L)) ∧ Below w.heap.size w w' := by
  obtain ⟨hn1, hn4, -, hd⟩ := allErr_some hR
  have hn' : (n : Int) ≤ 4 := by omega
  have HD : Hid (∀ i, i < n → 1 ≤ (D i).n ∧ (D i).n ≤ 12) := hd
  clear hd hR
  by_cases hl : L.length = n
  · have hle : ((L.length : Int) == (n : Int)) = true := by simp [hl]
    have HL : Hid (L.length = n) := hl
    obtain ⟨hcp, h0 | ⟨bp, op, rfl, hbp, hcell⟩⟩ := hP
    · rw [h0] at hl; simp at hl; omega
    obtain ⟨hcap, h0 | ⟨b, o, rfl, hMs⟩⟩ := hM
    · omega
    rw [hl] at hle hcp
    rw [hl]
    have HC : Hid (∀ j, j < n → w.cell? ⟨bp, op + j, none⟩ = some (.int .i64 (L.getD j 0))) := fun j hj => hcell j (by omega)
    have HMs : Hid (DimsAt w b o n D A C) := hMs
    have HB0 : Hid (Below w.heap.size w (ownOut w (some ⟨b, o, none⟩) n cap 24)) := ownOut_below ..
    have HO : Hid (∀ w', Below (w.heap.size + 1) (ownOut w (some ⟨b, o, none⟩) n cap 24) w' → w'.cell? ⟨w.heap.size, 0, none⟩ = some (.slice (some ⟨b, o, none⟩) n cap)) := fun w' hw' => (hw'.cell (p := ⟨w.heap.size, 0, none⟩) (by show w.heap.size < _; omega)).trans (ownOut_at ..)
    clear hl hcell hMs
    go_enter Tryz.func16, Tryz.ntmps16
    go_wp2_with fail
    go_loopg [5] n (fun g s5 wr => ∃ (k : Nat), k ≤ n ∧ g = n - k ∧ s5 = .int .i64 k ∧ findFrom (outP D L) (n - k) k = findFrom (outP D L) n 0 ∧ Below (w.heap.size + 1) (ownOut w (some ⟨b, o, none⟩) n cap 24) wr)
    case atStart => exact ⟨0, Nat.zero_le _, rfl, rfl, rfl, Below.refl _ _⟩
    case round =>
      obtain ⟨k, hk, rfl, rfl, hf, hBw⟩ := hrel
      have HF : Hid (findFrom (outP D L) (n - k) k = findFrom (outP D L) n 0) := hf
      have HW : Hid (Below (w.heap.size + 1) (ownOut w (some ⟨b, o, none⟩) n cap 24) wr) := hBw
      have hBo : Below w.heap.size w wr := HB0.out.trans (hBw.mono (by omega))
      have HBo : Hid (Below w.heap.size w wr) := hBo
      by_cases hlt : k < n
      · have hki : (k : Int) < (n : Int) := by omega
        have HSK : Hid (n - k = (n - (k + 1)) + 1) := by show _ = _; omega
        obtain ⟨-, -, h3, -⟩ := (HMs.out.later hBo).2 k hlt
        have hcx : wr.cell? ⟨bp, op + k, none⟩ = some (.int .i64 (L.getD k 0)) := (hBo.cell (p := ⟨bp, op + k, none⟩) hbp).trans (HC.out k hlt)
        have c0 := HO.out wr hBw
        have hm := (HD.out k hlt).2
        have HOK : Hid (outP D L k = (decide (L.getD k 0 < 0) || decide (((D k).n : Int) ≤ L.getD k 0))) := rfl
        generalize L.getD k 0 = x at hcx HOK
        generalize (D k).n = m at h3 hm HOK
        have hm' : (m : Int) ≤ 12 := by omega
        clear hf hBw hBo
        by_cases hx0 : x < 0
        · have HN : Hid (outP D L k = true) := by show _ = _; rw [HOK.out, decide_eq_true hx0]; rfl
          go_wp2_with fail
          go_quiet (fail)
          go_wp2_with fail
          go_ret
          refine ⟨?_, below_drewN HBo.out _⟩
          rw [sh1 HL.out]
          · rfl
          · rw [← HF.out, HSK.out, findFrom_hit _ HN.out]; omega
        · have hx0' : 0 ≤ x := by omega
          have hxd : decide (x < 0) = false := decide_eq_false hx0
          by_cases hx1 : (m : Int) ≤ x
          · have HN : Hid (outP D L k = true) := by show _ = _; rw [HOK.out, decide_eq_true hx1]; simp
            go_wp2_with fail
            go_quiet (fail)
            go_wp2_with fail
            go_ret
            refine ⟨?_, below_drewN HBo.out _⟩
            rw [sh1 HL.out]
            · rfl
            · rw [← HF.out, HSK.out, findFrom_hit _ HN.out]; omega
          · have hx1' : x < (m : Int) := by omega
            have HN : Hid (outP D L k = false) := by show _ = _; rw [HOK.out, hxd, decide_eq_false hx1]; rfl
            go_wp2_with fail
            go_quiet (fail)
            go_wp2_with fail
            go_roundg (n - (k + 1))
            case measure => omega
            case rel => exact ⟨k + 1, by omega, rfl, by go_num, by rw [← HF.out, HSK.out, findFrom_miss _ HN.out], below_drewN HW.out _⟩
      · have hke : k = n := by omega
        subst hke
        clear hf hBw hBo
        go_wp2_with fail
        go_ret
        refine ⟨?_, HBo.out⟩
        rw [sh2 HL.out]
        · rfl
        · rw [← HF.out, Nat.sub_self]; show ¬ (0 : Int) ≤ -1; decide
  · have hle : ((L.length : Int) == (n : Int)) = false := by simp; omega
    have HR : Hid (shapeErr D n L = 3) := sh0 hl
    generalize L.length = m at hle
    clear hl hM hP
    go_enter Tryz.func16, Tryz.ntmps16
    go_wp2_with fail
    go_ret
    exact ⟨by rw [HR.out]; rfl, by go_grown⟩

set_option maxHeartbeats 4000000 in
theorem rnumber_any (A0 : Option Addr) (cap n : Nat) (D : Nat → Dm) (A : Nat → Option Addr) (C : Nat → Nat) (Ap : Option Addr) (cp : Nat) (L : List Int) (w : World) (hI : InO D n L) (hM : DimsV w A0 cap n D A C) (hP : PlAt w Ap cp L) : Calls Tryz.prog 28 #[.agg #[.slice A0 n cap], .slice Ap L.length cp] w fun e w' => e = .returned (.int .i64 (numI D L n)) ∧ Below w.heap.size w w' := by
  obtain ⟨hn1, hn4, -, hd⟩ := allErr_some hI.right
  have hn' : (n : Int) ≤ 4 := by omega
  have HD : Hid (∀ i, i < n → 1 ≤ (D i).n ∧ (D i).n ≤ 12) := hd
  have HI : Hid (InO D n L) := hI
  have hl := hI.len
  obtain ⟨hcp, h0 | ⟨bp, op, rfl, hbp, hcell⟩⟩ := hP
  · rw [h0] at hl; simp at hl; omega
  obtain ⟨hcap, h0 | ⟨b, o, rfl, hMs⟩⟩ := hM
  · omega
  rw [hl]
  have HC : Hid (∀ j, j < n → w.cell? ⟨bp, op + j, none⟩ = some (.int .i64 (L.getD j 0))) := fun j hj => hcell j (by omega)
  have HMs : Hid (DimsAt w b o n D A C) := hMs
  have HB0 : Hid (Below w.heap.size w (ownOut w (some ⟨b, o, none⟩) n cap 24)) := ownOut_below ..
  have HO : Hid (∀ w', Below (w.heap.size + 1) (ownOut w (some ⟨b, o, none⟩) n cap 24) w' → w'.cell? ⟨w.heap.size, 0, none⟩ = some (.slice (some ⟨b, o, none⟩) n cap)) := fun w' hw' => (hw'.cell (p := ⟨w.heap.size, 0, none⟩) (by show w.heap.size < _; omega)).trans (ownOut_at ..)
  clear hl hcell hMs hd hI
  go_enter Tryz.func28, Tryz.ntmps28
  go_wp2_with fail
  go_loopg [5, 6] n (fun g s5 s6 wr => ∃ (k : Nat), k ≤ n ∧ g = n - k ∧ s6 = .int .i64 k ∧ s5 = .int .i64 (numI D L k) ∧ Below (w.heap.size + 1) (ownOut w (some ⟨b, o, none⟩) n cap 24) wr)
  case atStart => exact ⟨0, Nat.zero_le _, rfl, rfl, rfl, Below.refl _ _⟩
  case round =>
    obtain ⟨k, hk, rfl, rfl, rfl, hBw⟩ := hrel
    have HW : Hid (Below (w.heap.size + 1) (ownOut w (some ⟨b, o, none⟩) n cap 24) wr) := hBw
    have hBo : Below w.heap.size w wr := HB0.out.trans (hBw.mono (by omega))
    have HBo : Hid (Below w.heap.size w wr) := hBo
    by_cases hlt : k < n
    · have hki : (k : Int) < (n : Int) := by omega
      obtain ⟨-, -, h3, -⟩ := (HMs.out.later hBo).2 k hlt
      have hcx : wr.cell? ⟨bp, op + k, none⟩ = some (.int .i64 (L.getD k 0)) := (hBo.cell (p := ⟨bp, op + k, none⟩) hbp).trans (HC.out k hlt)
      have c0 := HO.out wr hBw
      obtain ⟨hb1, hb2, hb3⟩ := numI_bound HI.out (k := k + 1) (by omega)
      obtain ⟨hb4, hb5, hb6⟩ := numI_bound HI.out (k := k) (by omega)
      have hx0 := HI.out.lo k hlt
      have hx1 := HI.out.hi k hlt
      obtain ⟨hd1, hd2⟩ := HD.out k hlt
      have HN : Hid (numI D L (k + 1) = numI D L k * ((D k).n : Int) + L.getD k 0) := rfl
      rw [HN.out] at hb1 hb2
      generalize L.getD k 0 = x at hcx hb1 hb2 hx0 hx1 HN
      generalize (D k).n = m at h3 hb1 hb2 hd1 hd2 hx1 HN
      generalize numI D L k = y at hb1 hb2 hb4 hb5 HN
      have hm0 : 0 ≤ y * (m : Int) := Int.mul_nonneg hb4 (by omega)
      have hm1 : y * (m : Int) ≤ 20736 := by omega
      have hm2 : y * (m : Int) + x ≤ 20736 := by omega
      clear hBw hBo hb2 hb5
      go_wp2_with fail
      go_quiet (fail)
      go_wp2_with fail
      go_roundg (n - (k + 1))
      case measure => omega
      case rel => exact ⟨k + 1, by omega, rfl, by go_num, by rw [HN.out], below_drewN HW.out _⟩
    · have hke : k = n := by omega
      subst hke
      clear hBw hBo
      go_wp2_with fail
      go_ret
      exact ⟨rfl, HBo.out⟩

set_option maxHeartbeats 4000000 in
theorem rleafplace_any (A0 : Option Addr) (cap n : Nat) (D : Nat → Dm) (A : Nat → Option Addr) (C : Nat → Nat) (Ap : Option Addr) (cp : Nat) (L : List Int) (w : World) (hI : InO D n L) (hM : DimsV w A0 cap n D A C) (hP : PlAt w Ap cp L) : Calls Tryz.prog 17 #[.agg #[.slice A0 n cap], .slice Ap L.length cp] w fun e w' => e = .returned (.bool (leafV D n L)) ∧ Below w.heap.size w w' := by
  obtain ⟨hn1, hn4, -, hd⟩ := allErr_some hI.right
  have hn' : (n : Int) ≤ 4 := by omega
  have HD : Hid (∀ i, i < n → 1 ≤ (D i).n ∧ (D i).n ≤ 12) := hd
  have HI : Hid (InO D n L) := hI
  have HV : Hid (leafV D n L = !decide (0 ≤ findFrom (notLeaf D L) n 0)) := by show _ = _; unfold leafV; rw [if_pos hI.ok]
  have hl := hI.len
  obtain ⟨hcp, h0 | ⟨bp, op, rfl, hbp, hcell⟩⟩ := hP
  · rw [h0] at hl; simp at hl; omega
  obtain ⟨hcap, h0 | ⟨b, o, rfl, hMs⟩⟩ := hM
  · omega
  rw [hl]
  have HC : Hid (∀ j, j < n → w.cell? ⟨bp, op + j, none⟩ = some (.int .i64 (L.getD j 0))) := fun j hj => hcell j (by omega)
  have HMs : Hid (DimsAt w b o n D A C) := hMs
  have HB0 : Hid (Below w.heap.size w (ownOut w (some ⟨b, o, none⟩) n cap 24)) := ownOut_below ..
  have HO : Hid (∀ w', Below (w.heap.size + 1) (ownOut w (some ⟨b, o, none⟩) n cap 24) w' → w'.cell? ⟨w.heap.size, 0, none⟩ = some (.slice (some ⟨b, o, none⟩) n cap)) := fun w' hw' => (hw'.cell (p := ⟨w.heap.size, 0, none⟩) (by show w.heap.size < _; omega)).trans (ownOut_at ..)
  have hS0 := ownOut_size w (some ⟨b, o, none⟩) n cap 24
  clear hl hcell hMs hd hI
  go_enter Tryz.func17, Tryz.ntmps17
  go_wp2_with fail
  go_loopg [5, 6] n (fun g s5 s6 wr => ∃ (k : Nat), k ≤ n ∧ g = n - k ∧ s5 = .int .i64 k ∧ findFrom (notLeaf D L) (n - k) k = findFrom (notLeaf D L) n 0 ∧ Below (w.heap.size + 1) (ownOut w (some ⟨b, o, none⟩) n cap 24) wr)
  case atStart => exact ⟨0, Nat.zero_le _, rfl, rfl, rfl, Below.refl _ _⟩
  case round =>
    obtain ⟨k, hk, rfl, rfl, hf, hBw⟩ := hrel
    have HF : Hid (findFrom (notLeaf D L) (n - k) k = findFrom (notLeaf D L) n 0) := hf
    have HW : Hid (Below (w.heap.size + 1) (ownOut w (some ⟨b, o, none⟩) n cap 24) wr) := hBw
    have hBo : Below w.heap.size w wr := HB0.out.trans (hBw.mono (by omega))
    have HBo : Hid (Below w.heap.size w wr) := hBo
    by_cases hlt : k < n
    · have hki : (k : Int) < (n : Int) := by omega
      have HSK : Hid (n - k = (n - (k + 1)) + 1) := by show _ = _; omega
      obtain ⟨h0, h1, h3, h4⟩ := (HMs.out.later hBo).2 k hlt
      have hlo := HI.out.lo k hlt
      have hhi := HI.out.hi k hlt
      obtain ⟨X, hX⟩ : ∃ X : Nat, L.getD k 0 = X := ⟨(L.getD k 0).toNat, by omega⟩
      have hcx : wr.cell? ⟨bp, op + k, none⟩ = some (.int .i64 (L.getD k 0)) := (hBo.cell (p := ⟨bp, op + k, none⟩) hbp).trans (HC.out k hlt)
      have HNL : Hid (notLeaf D L k = !leafB (D k).mem (D k).n X) := by show _ = _; unfold notLeaf; rw [hX]; rfl
      rw [hX] at hcx hlo hhi
      have c0 := HO.out wr hBw
      have hwz : w.heap.size + 1 ≤ wr.heap.size := by have := hBw.size; omega
      obtain ⟨hd1, hd2⟩ := HD.out k hlt
      obtain ⟨hcm, h5 | ⟨b', o', hA, hMm⟩⟩ := h4
      · omega
      rw [hA] at h3
      have HLf : Hid (∀ w', Below wr.heap.size wr w' → Calls Tryz.prog 35 #[.agg #[.string (D k).name, .int .i64 (D k).solve, .slice (some ⟨b', o', none⟩) (D k).n (C k)], .int .i64 X] w' fun e w'' => e = .returned (.bool (leafB (D k).mem (D k).n X)) ∧ Below w'.heap.size w' w'') := fun w' hw' => rleaf_any (D k) b' o' (C k) X w' hd2 (by omega) (hMm.later hw')
      clear hf hBw hBo hX hMm hA
      cases hb : leafB (D k).mem (D k).n X
      · rw [hb] at HLf HNL
        have HN : Hid (notLeaf D L k = true) := HNL.out
        clear hb
        go_wp2_with fail
        go_region_law ((go_simp; refine (HLf.out _ (by go_grown)).mono ?_; rintro e w2 ⟨rfl, hb2⟩; have hN2 := onB (W0 := wr) (by go_grown) hb2; clear hb2))
        all_goals go_wp2_with fail
        all_goals go_ret
        all_goals refine ⟨?_, onB HBo.out hN2⟩
        all_goals rw [HV.out, ← HF.out, HSK.out, findFrom_hit _ HN.out, decide_eq_true (by omega)]
        all_goals rfl
      · rw [hb] at HLf HNL
        have HN : Hid (notLeaf D L k = false) := HNL.out
        clear hb
        go_wp2_with fail
        go_region_law ((go_simp; refine (HLf.out _ (by go_grown)).mono ?_; rintro e w2 ⟨rfl, hb2⟩; have hN2 := onB (W0 := wr) (by go_grown) hb2; clear hb2))
        all_goals go_wp2_with fail
        all_goals go_roundg (n - (k + 1))
        all_goals first | omega | exact ⟨k + 1, by omega, rfl, by go_num, by rw [← HF.out, HSK.out, findFrom_miss _ HN.out], HW.out.trans (hN2.mono hwz)⟩
    · have hke : k = n := by omega
      subst hke
      clear hf hBw hBo
      go_wp2_with fail
      go_ret
      refine ⟨?_, HBo.out⟩
      rw [HV.out, ← HF.out, Nat.sub_self]
      rfl

set_option maxHeartbeats 4000000 in
theorem rat_any (A0 : Option Addr) (cap n : Nat) (D : Nat → Dm) (A : Nat → Option Addr) (C : Nat → Nat) (X : Nat) (w : World) (hR : (allErr D n).2.2 = 0) (hX : X < prodN D n) (hM : DimsV w A0 cap n D A C) : Calls Tryz.prog 20 #[.agg #[.slice A0 n cap], .int .i64 X] w fun e w' => (∃ A' c', e = .returned (.slice A' (placeL D n X).length c') ∧ PlAt w' A' c' (placeL D n X)) ∧ Below w.heap.size w w' := by
  obtain ⟨hn1, hn4, hp3, hd⟩ := allErr_some hR
  have HD : Hid (∀ i, i < n → 1 ≤ (D i).n ∧ (D i).n ≤ 12) := hd
  have hn' : (n : Int) ≤ 4 := by omega
  have hn1' : (1 : Int) ≤ (n : Int) := by omega
  have hX3 : X ≤ 3000 := by omega
  have hmk := run_make_row' (P := Tryz.prog) 46 3 (.int .i64 0) 8 Tryz.underlying46 Tryz.infoIntP rfl .i64 .i64 n (by omega) (by omega)
  obtain ⟨hcap, h0 | ⟨b, o, rfl, hMs⟩⟩ := hM
  · omega
  obtain ⟨w1, hw1⟩ : ∃ w1, w1 = ownOut w (some ⟨b, o, none⟩) n cap 24 := ⟨_, rfl⟩
  have hB1 : Below w.heap.size w w1 := by rw [hw1]; exact ownOut_below ..
  have h2 : w1.cell? ⟨w.heap.size, 0, none⟩ = some (.slice (some ⟨b, o, none⟩) n cap) := by rw [hw1]; exact ownOut_at ..
  have hz1 : w1.heap.size = w.heap.size + 1 := by rw [hw1]; exact ownOut_size ..
  have HMs : Hid (DimsAt w1 b o n D A C) := hMs.later hB1
  have HB1 : Hid (Below w.heap.size w w1) := hB1
  have H2 : Hid (w1.cell? ⟨w.heap.size, 0, none⟩ = some (.slice (some ⟨b, o, none⟩) n cap)) := h2
  have HZ1 : Hid (w1.heap.size = w.heap.size + 1) := hz1
  have HW1 : Hid (w1 = ownOut w (some ⟨b, o, none⟩) n cap 24) := hw1
  have HI0 : Hid (IntB (w1.alloc (.cells (madeCells #[.int .i64 0] n) 3)) w1.heap.size (digL D n X 0)) := by show IntB _ _ _; rw [digL_zero]; exact IntB.made w1 n
  have HBm : Hid (Below w1.heap.size w1 (w1.alloc (.cells (madeCells #[.int .i64 0] n) 3))) := by show Below _ _ _; go_grown
  rw [hw1] at HI0 HBm
  unfold ownOut at HI0 HBm
  clear hd hMs hB1 h2 hz1 hw1 hX hp3 hR
  go_enter Tryz.func20, Tryz.ntmps20
  go_wp2_with fail
  clear hmk
  go_loopg [1, 6, 7] n (fun g s1 s6 s7 wr => ∃ (r : Nat), r ≤ n ∧ g = n - r ∧ s6 = .int .i64 ((n : Int) - 1 - r) ∧ s1 = .int .i64 (restAt D n X r) ∧ IntB wr w1.heap.size (digL D n X r) ∧ Below w1.heap.size w1 wr)
  case atStart => exact ⟨0, Nat.zero_le _, rfl, by simp, rfl, by rw [HW1.out]; exact HI0.out, by rw [HW1.out]; exact HBm.out⟩
  case round =>
    obtain ⟨r, hr, rfl, rfl, rfl, hI, hBw⟩ := hrel
    have HI : Hid (IntB wr w1.heap.size (digL D n X r)) := hI
    have HBw : Hid (Below w1.heap.size w1 wr) := hBw
    by_cases hlt : r < n
    · obtain ⟨k, hk⟩ : ∃ k : Nat, k = n - 1 - r := ⟨_, rfl⟩
      have hki : (n : Int) - 1 - (r : Int) = (k : Int) := by omega
      rw [hki]
      have HK : Hid (k = n - 1 - r) := hk
      have hkn : k < n := by omega
      obtain ⟨-, -, h3, -⟩ := (HMs.out.later hBw).2 k hkn
      have c2 : wr.cell? ⟨w.heap.size, 0, none⟩ = some (.slice (some ⟨b, o, none⟩) n cap) := (hBw.cell (p := ⟨w.heap.size, 0, none⟩) (by show w.heap.size < _; rw [HZ1.out]; omega)).trans H2.out
      have hkn' : (k : Int) < (n : Int) := by omega
      have c4 := hI.cell (j := k) (by rw [digL_len]; exact hkn)
      have c5 := hI.frozen k
      rw [HZ1.out] at c4 c5
      obtain ⟨hd1, hd2⟩ := HD.out k hkn
      have hre := restAt_le D n X r
      have HR1 : Hid (restAt D n X (r + 1) = restAt D n X r / (D k).n) := by show _ = _; rw [restAt, hk]
      have HR2 : Hid (digitAt D n X k = restAt D n X r % (D k).n) := by show _ = _; rw [digitAt, show n - 1 - k = r by omega]
      have HS : Hid ((digL D n X r).set k (digitAt D n X k : Int) = digL D n X (r + 1)) := by show _ = _; rw [hk]; exact digL_set D n X r hlt
      generalize (digL D n X r).getD k 0 = old at c4
      generalize restAt D n X r = R at HR1 HR2 hre
      generalize hm : (D k).n = m at h3 hd1 hd2 HR1 HR2
      have hm1 : (1 : Int) ≤ (m : Int) := by omega
      have hm2 : (m : Int) ≤ 12 := by omega
      have hRR : (R : Int) ≤ 3000 := by omega
      have hR0 : (0 : Int) ≤ (R : Int) := by omega
      have hm0 : ((m : Int) == 0) = false := by simp; omega
      clear hI hBw hk hki hm
      go_wp2_with fail
      go_roundg (n - (r + 1))
      case measure => omega
      case rel =>
        have hdm := Nat.div_le_self R m
        have hw : wrap64 ((R : Int) / (m : Int)) = ((R / m : Nat) : Int) := by
          rw [← Int.natCast_ediv]
          exact wrap_small (Nat.le_trans hdm (by omega))
        refine ⟨r + 1, by omega, rfl, ?_, ?_, ?_, HBw.out.setCell (by show w1.heap.size ≤ w.heap.size + 1; rw [HZ1.out]; exact Nat.le_refl _) _⟩
        · have := HK.out
          congr 1
          omega
        · rw [hw, HR1.out]
        · have hs := HI.out.set k (digitAt D n X k : Int)
          rw [HS.out, HR2.out, Int.natCast_emod] at hs
          rw [HZ1.out] at hs ⊢
          exact hs
    · have hre : r = n := by omega
      subst hre
      have hk0 : (r : Int) - 1 - (r : Int) = -1 := by omega
      rw [hk0]
      clear hI hBw
      go_wp2_with fail
      go_ret
      have hp := HI.out.pl
      rw [digL_all] at hp
      rw [placeL_len] at hp ⊢
      rw [HZ1.out] at hp
      exact ⟨⟨_, _, rfl, hp⟩, onB HB1.out HBw.out⟩
end Go.Proofs.YtmjcnlpjnbcfjadGreatDoor
