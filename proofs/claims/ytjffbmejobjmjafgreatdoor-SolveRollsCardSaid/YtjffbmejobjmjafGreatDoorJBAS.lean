/-
 What places of package tree answers: the places of those of whom a question is told yes; slices.Index, IndexFunc, Contains, ContainsFunc over ints; what check of package tree answers.
 slices.IndexFunc and slices.ContainsFunc over ints, at the question of package tree's check; what check answers: what is wrong with a dim, or else with places in it.
-/
import Derived.Test.YtjffbmejobjmjafGreatDoorJBAE
namespace Go.Proofs.YtjffbmejobjmjafGreatDoor
open Go.ChangeShapes Go.WideShapes Go.ChangeAt Go.RowKit
set_option maxRecDepth 20000

def AskP (fn q r : Nat) (w : World) (n : Nat) (p : Nat → Bool) : Prop := ∀ (i : Nat) (w' : World), i < n → Below w.heap.size w w' → Calls Tryz.prog fn #[.int .i64 i, .pointer (some ⟨q, 0, none⟩), .pointer (some ⟨r, 0, none⟩)] w' fun e w'' => e = .returned (.bool (p i)) ∧ Below w'.heap.size w' w''

set_option maxHeartbeats 2000000 in
theorem places_any (fn q r : Nat) (he : EntersO fn) (A : Option Addr) (n cap : Nat) (p : Nat → Bool) (w : World) (hn : n ≤ 12) (hp : AskP fn q r w n p) : Calls Tryz.prog 125 #[.slice A n cap, .func (.func fn) #[] #[.pointer (some ⟨q, 0, none⟩), .pointer (some ⟨r, 0, none⟩)]] w fun e w' => (∃ A c, e = .returned (.slice A (selTo p n).length c) ∧ IntsAt w' A c (selTo p n)) ∧ Below w.heap.size w w' := by
 obtain ⟨i0, hi0, hz0, hz1, hz2⟩ := info_parts Tryz.infoInt
 have HP : Hid (AskP fn q r w n p) := hp
 have hn' : (n : Int) ≤ 12 := by omega
 clear hp
 unfold EntersO at he
 go_enter Tryz.func125, Tryz.ntmps125
 go_wp2_with fail
 go_loopg [5, 9] n (fun g s5 s9 wr => ∃ (k : Nat), k ≤ n ∧ g = n - k ∧ s9 = .int .i64 k ∧ wr.ownsRow w.heap.size 3 1 s5 (selTo p k).length (mapI (selTo p k)) ∧ Below w.heap.size w wr)
 case atStart => exact ⟨0, Nat.zero_le _, rfl, rfl, World.ownsRow_nil _ _ _ _, Below.refl _ _⟩
 case round =>
  obtain ⟨k, hk, rfl, rfl, hown, hBw⟩ := hrel
  have HW : Hid (Below w.heap.size w wr) := hBw
  have HO : Hid (wr.ownsRow w.heap.size 3 1 _ (selTo p k).length (mapI (selTo p k))) := hown
  by_cases hlt : k < n
  ·have hki : (k : Int) < (n : Int) := by omega
   have hbd := HP.out k wr hlt hBw
   clear hBw hown
   cases hb : p k
   ·rw [hb] at hbd
    have HK : Hid (p k = false) := hb
    clear hb
    go_wp2_with fail
    refine hbd.mono ?_
    rintro e w1 ⟨rfl, hb1⟩
    go_wp2_with fail
    go_roundg (n - (k + 1))
    case measure => omega
    case rel => exact ⟨k + 1, by omega, rfl, by go_num, by rw [selTo_miss HK.out]; exact own_later HO.out hb1, onB HW.out hb1⟩
   ·rw [hb] at hbd
    have HK : Hid (p k = true) := hb
    have hlen := selTo_len p k
    clear hb
    go_wp2_with fail
    refine hbd.mono ?_
    rintro e w1 ⟨rfl, hb1⟩
    have hown := own_later HO.out hb1
    have hB1 := onB HW.out hb1
    have hsz := hB1.size
    have HB1 : Hid (Below w.heap.size w w1) := hB1
    clear hb1 hB1
    go_wp2_with (at_builtin; refine wpList_append_own _ rfl _ _ 27 rfl w.heap.size 3 i0 (.int .i64 0) 1 8 Tryz.underlying27 hi0 hz0 hz1 hz2 rfl (by decide) _ _ _ rfl (hown.alloc _) ⟨w1.heap.size, 0, none⟩ 1 1 [.int .i64 k] rfl rfl one_cell one_one (by unfold maxLen; omega) (by omega) (by simp; omega) ?_)
    intro v' w2 hown' hgrow _
    have HB2 : Hid (Below w.heap.size w w2) := grown_own HB1.out hown hgrow
    have HO2 : Hid (w2.ownsRow w.heap.size 3 1 v' (selTo p (k + 1)).length (mapI (selTo p (k + 1)))) := by
     show World.ownsRow ..
     rw [selTo_hit HK.out, mapI_snoc, List.length_append]; exact hown'
    clear hown' hgrow hown
    go_wp2_with fail
    go_roundg (n - (k + 1))
    case measure => omega
    case rel => exact ⟨k + 1, by omega, rfl, by go_num, HO2.out, HB2.out⟩
  ·have hke : k = n := by omega
   subst hke
   clear hBw hown
   go_wp2_with fail
   go_ret
   obtain ⟨A, c, h1, h2⟩ := ints_of HO.out
   exact ⟨⟨A, c, by rw [← h1]; rfl, h2⟩, HW.out⟩

set_option maxHeartbeats 1000000 in
theorem index_ints (A : Option Addr) (cap : Nat) (L : List Int) (i : Int) (w : World) (hn : L.length ≤ 12) (hL : IntsAt w A cap L) : Calls Tryz.prog 85 #[.slice A L.length cap, .int .i64 i] w fun e w' => e = .returned (.int .i64 (findFrom (fun j => L.getD j 0 == i) L.length 0)) ∧ Below w.heap.size w w' := by
 obtain ⟨hc, h0 | ⟨b, rfl, hbw, hcell⟩⟩ := hL
 ·subst h0
  simp only [List.length_nil]
  go_enter Tryz.func85, Tryz.ntmps85
  go_wp2_with fail
  refine wp_loop_rounds 1 ?_
  rw [rounds_succ]
  go_wp2_with fail
  go_ret
  exact ⟨rfl, Below.refl _ _⟩
 ·have HC : Hid (∀ j, j < L.length → w.cell? ⟨b, j, none⟩ = some (.int .i64 (L.getD j 0))) := hcell
  obtain ⟨p, hp⟩ : ∃ p : Nat → Bool, p = fun j => L.getD j 0 == i := ⟨_, rfl⟩
  have HP : Hid (∀ j, p j = (L.getD j 0 == i)) := fun j => by rw [hp]
  rw [← hp]
  generalize hnn : L.length = n at hn hc HC
  clear hcell hp hnn
  go_enter Tryz.func85, Tryz.ntmps85
  go_wp2_with fail
  go_loopg [8] n (fun g s8 wr => ∃ (k : Nat), k ≤ n ∧ g = n - k ∧ s8 = .int .i64 k ∧ findFrom p (n - k) k = findFrom p n 0 ∧ wr = w)
  case atStart => exact ⟨0, Nat.zero_le _, rfl, rfl, rfl, rfl⟩
  case round =>
   obtain ⟨k, hk, rfl, rfl, hf, rfl⟩ := hrel
   have HF : Hid (findFrom p (n - k) k = findFrom p n 0) := hf
   clear hf
   by_cases hlt : k < n
   ·have hki : (k : Int) < (n : Int) := by omega
    have hcx := HC.out k hlt
    have hsk : n - k = (n - (k + 1)) + 1 := by omega
    have hn' : (n : Int) ≤ 12 := by omega
    have hpk := HP.out k
    have HSK : Hid (n - k = (n - (k + 1)) + 1) := hsk
    generalize L.getD k 0 = x at hcx hpk
    clear hsk
    cases hb : p k
    ·have HK : Hid (p k = false) := hb
     rw [hb] at hpk
     have hx : (i == x) = false := by
      have h1 : x ≠ i := by simpa using hpk.symm
      simpa using fun h : i = x => h1 h.symm
     clear hb hpk
     go_wp2_with fail
     go_roundg (n - (k + 1))
     case measure => omega
     case rel => exact ⟨k + 1, by omega, rfl, by go_num, by rw [← HF.out, HSK.out, findFrom_miss _ HK.out], rfl⟩
    ·have HK : Hid (p k = true) := hb
     rw [hb] at hpk
     have hx : (i == x) = true := by
      have h1 : x = i := by simpa using hpk.symm
      simpa using h1.symm
     clear hb hpk
     go_wp2_with fail
     go_ret
     exact ⟨by rw [← HF.out, HSK.out, findFrom_hit _ HK.out]; rfl, Below.refl _ _⟩
   ·have hke : k = n := by omega
    subst hke
    go_wp2_with fail
    go_ret
    exact ⟨by rw [← HF.out, Nat.sub_self]; rfl, Below.refl _ _⟩

theorem contains_ints (A : Option Addr) (cap : Nat) (L : List Int) (i : Int) (w : World) (hn : L.length ≤ 12) (hL : IntsAt w A cap L) : Calls Tryz.prog 43 #[.slice A L.length cap, .int .i64 i] w fun e w' => e = .returned (.bool (inB L i)) ∧ Below w.heap.size w w' := by
 have h := index_ints A cap L i w hn hL
 have HI : Hid (decide (0 ≤ findFrom (fun j => L.getD j 0 == i) L.length 0) = inB L i) := find_in L i
 generalize findFrom (fun j => L.getD j 0 == i) L.length 0 = f at h HI
 generalize L.length = n at h
 clear hL hn
 go_enter Tryz.func43, Tryz.ntmps43
 go_wp2_with fail
 refine h.mono ?_
 rintro e w1 ⟨rfl, hb1⟩
 go_wp2_with fail
 go_ret
 exact ⟨by rw [← HI.out]; rfl, hb1⟩
end Go.Proofs.YtjffbmejobjmjafGreatDoor

namespace Go.Proofs.YtjffbmejobjmjafGreatDoor
open Go.ChangeShapes Go.WideShapes Go.ChangeAt Go.RowKit
set_option maxRecDepth 20000

def outB (n : Nat) (i : Int) : Bool := decide (i < 0) || decide ((n : Int) ≤ i)

theorem check1_any (i : Int) (A : Option Addr) (n cap q : Nat) (w : World) (h : w.cell? ⟨q, 2, none⟩ = some (.slice A n cap)) : Calls Tryz.prog 149 #[.int .i64 i, .pointer (some ⟨q, 0, none⟩)] w fun e w' => e = .returned (.bool (outB n i)) ∧ Below w.heap.size w w' := by
 unfold outB
 by_cases h1 : i < 0
 ·go_enter Tryz.func149, Tryz.ntmps149
  go_wp2
  go_ret
  exact ⟨by simp <;> omega, by go_grown⟩
 ·go_enter Tryz.func149, Tryz.ntmps149
  go_wp2
  go_ret
  exact ⟨by simp <;> omega, by go_grown⟩

set_option maxHeartbeats 1000000 in
theorem indexf_ints (A : Option Addr) (cap : Nat) (L : List Int) (Am : Option Addr) (nm cm q : Nat) (w : World) (hn : L.length ≤ 2) (hL : IntsAt w A cap L) (hq : q < w.heap.size) (hqc : w.cell? ⟨q, 2, none⟩ = some (.slice Am nm cm)) :
  Calls Tryz.prog 87 #[.slice A L.length cap, .func (.func 149) #[] #[.pointer (some ⟨q, 0, none⟩)]] w fun e w' => e = .returned (.int .i64 (findFrom (fun j => outB nm (L.getD j 0)) L.length 0)) ∧ Below w.heap.size w w' := by
 obtain ⟨hc, h0 | ⟨b, rfl, hbw, hcell⟩⟩ := hL
 ·subst h0
  simp only [List.length_nil]
  go_enter Tryz.func87, Tryz.ntmps87
  go_wp2_with fail
  refine wp_loop_rounds 1 ?_
  rw [rounds_succ]
  go_wp2_with fail
  go_ret
  exact ⟨rfl, Below.refl _ _⟩
 ·have HC : Hid (∀ j, j < L.length → w.cell? ⟨b, j, none⟩ = some (.int .i64 (L.getD j 0))) := hcell
  have HQ : Hid (w.cell? ⟨q, 2, none⟩ = some (.slice Am nm cm)) := hqc
  obtain ⟨p, hp⟩ : ∃ p : Nat → Bool, p = fun j => outB nm (L.getD j 0) := ⟨_, rfl⟩
  have HP : Hid (∀ j, p j = outB nm (L.getD j 0)) := fun j => by rw [hp]
  rw [← hp]
  generalize hnn : L.length = n at hn hc HC
  clear hcell hp hnn hqc
  go_enter Tryz.func87, Tryz.ntmps87
  go_wp2_with fail
  go_loopg [8] n (fun g s8 wr => ∃ (k : Nat), k ≤ n ∧ g = n - k ∧ s8 = .int .i64 k ∧ findFrom p (n - k) k = findFrom p n 0 ∧ Below w.heap.size w wr)
  case atStart => exact ⟨0, Nat.zero_le _, rfl, rfl, rfl, Below.refl _ _⟩
  case round =>
   obtain ⟨k, hk, rfl, rfl, hf, hBw⟩ := hrel
   have HF : Hid (findFrom p (n - k) k = findFrom p n 0) := hf
   have HW : Hid (Below w.heap.size w wr) := hBw
   clear hf
   by_cases hlt : k < n
   ·have hki : (k : Int) < (n : Int) := by omega
    have hcx := (hBw.cell (p := ⟨b, k, none⟩) hbw).trans (HC.out k hlt)
    have hn' : (n : Int) ≤ 2 := by omega
    have hpk := HP.out k
    have HSK : Hid (n - k = (n - (k + 1)) + 1) := by show _ = _; omega
    have hbd := check1_any (L.getD k 0) Am nm cm q wr ((hBw.cell (p := ⟨q, 2, none⟩) hq).trans HQ.out)
    rw [← hpk] at hbd
    generalize L.getD k 0 = x at hcx hpk hbd
    clear hBw hpk
    cases hb : p k
    ·have HK : Hid (p k = false) := hb
     rw [hb] at hbd
     clear hb
     go_wp2_with fail
     refine hbd.mono ?_
     rintro e w1 ⟨rfl, hb1⟩
     go_wp2_with fail
     go_roundg (n - (k + 1))
     case measure => omega
     case rel => exact ⟨k + 1, by omega, rfl, by go_num, by rw [← HF.out, HSK.out, findFrom_miss _ HK.out], onB HW.out hb1⟩
    ·have HK : Hid (p k = true) := hb
     rw [hb] at hbd
     clear hb
     go_wp2_with fail
     refine hbd.mono ?_
     rintro e w1 ⟨rfl, hb1⟩
     go_wp2_with fail
     go_ret
     exact ⟨by rw [← HF.out, HSK.out, findFrom_hit _ HK.out]; rfl, onB HW.out hb1⟩
   ·have hke : k = n := by omega
    subst hke
    clear hBw
    go_wp2_with fail
    go_ret
    exact ⟨by rw [← HF.out, Nat.sub_self]; rfl, HW.out⟩

theorem containsf_ints (A : Option Addr) (cap : Nat) (L : List Int) (Am : Option Addr) (nm cm q : Nat) (w : World) (hn : L.length ≤ 2) (hL : IntsAt w A cap L) (hq : q < w.heap.size) (hqc : w.cell? ⟨q, 2, none⟩ = some (.slice Am nm cm)) :
  Calls Tryz.prog 46 #[.slice A L.length cap, .func (.func 149) #[] #[.pointer (some ⟨q, 0, none⟩)]] w fun e w' => e = .returned (.bool (decide (0 ≤ findFrom (fun j => outB nm (L.getD j 0)) L.length 0))) ∧ Below w.heap.size w w' := by
 have h := indexf_ints A cap L Am nm cm q w hn hL hq hqc
 generalize findFrom (fun j => outB nm (L.getD j 0)) L.length 0 = f at h
 generalize L.length = n at h
 clear hL hn hq hqc
 go_enter Tryz.func46, Tryz.ntmps46
 go_wp2_with fail
 refine h.mono ?_
 rintro e w1 ⟨rfl, hb1⟩
 go_wp2_with fail
 go_ret
 exact ⟨rfl, hb1⟩

theorem treeErr_range {d : Dm} {L : List Int} (h : (dimErr d).2 = 0) : treeErr d L = if 0 ≤ findFrom (fun j => outB d.n (L.getD j 0)) L.length 0 then 1 else 0 := by
 unfold treeErr rangeErr; rw [if_neg (by simpa using h)]; rfl

set_option maxHeartbeats 2000000 in
theorem tcheck_any (d : Dm) (A : Option Addr) (cap : Nat) (Ai : Option Addr) (ci : Nat) (L : List Int) (w : World) (hM : MemsV w A cap d.n d.mem) (hn : L.length ≤ 2) (hL : IntsAt w Ai ci L) : Calls Tryz.prog 114 #[dimV d A cap, .slice Ai L.length ci] w fun e w' => e = .returned (errV (treeErr d L)) ∧ Below w.heap.size w w' := by
 have hS := ownDim_size w d A cap 24
 have hB0 := ownDim_below w d A cap 24
 have hA := (ownDim_at w d A cap 24).2.2
 have hck := dcheck_any d A cap (ownDim w d A cap 24) (hM.later hB0)
 unfold dimV at hck ⊢
 have HB0 : Hid (Below w.heap.size w (ownDim w d A cap 24)) := hB0
 have HS : Hid ((ownDim w d A cap 24).heap.size = w.heap.size + 1) := hS
 have HA : Hid ((ownDim w d A cap 24).cell? ⟨w.heap.size, 2, none⟩ = some (.slice A d.n cap)) := hA
 have HL : Hid (IntsAt w Ai ci L) := hL
 clear hM hS hB0 hA hL
 by_cases he : (dimErr d).2 = 0
 ·obtain ⟨e1, hd1, hd2, -⟩ := dimErr_right he
  rw [he, e1, errV_zero] at hck
  have HE : Hid ((dimErr d).2 = 0) := he
  clear he e1
  go_enter Tryz.func114, Tryz.ntmps114
  go_wp2_with fail
  refine hck.mono ?_
  rintro e w1 ⟨rfl, hb1⟩
  have hB : Below w.heap.size w w1 := onB HB0.out hb1
  have hz : w.heap.size < w1.heap.size := by
   have := hb1.size
   rw [HS.out] at this
   omega
  have h2 : w1.cell? ⟨w.heap.size, 2, none⟩ = some (.slice A d.n cap) := (hb1.cell (p := ⟨w.heap.size, 2, none⟩) (by show w.heap.size < _; rw [HS.out]; omega)).trans HA.out
  have hcf := containsf_ints Ai ci L A d.n cap w.heap.size w1 hn (HL.out.later hB) hz h2
  have HR : Hid (treeErr d L = if 0 ≤ findFrom (fun j => outB d.n (L.getD j 0)) L.length 0 then 1 else 0) := treeErr_range HE.out
  have HB : Hid (Below w.heap.size w w1) := hB
  generalize findFrom (fun j => outB d.n (L.getD j 0)) L.length 0 = f at hcf HR
  generalize L.length = n at hcf
  clear hb1 hck h2 hB
  by_cases hf : 0 ≤ f
  ·rw [decide_eq_true hf] at hcf
   have HR1 : Hid (treeErr d L = 1) := by show _ = _; rw [HR.out, if_pos hf]
   clear hf HR
   go_wp2_with fail
   refine hcf.mono ?_
   rintro e w2 ⟨rfl, hb2⟩
   go_wp2_with fail
   go_ret
   exact ⟨by rw [HR1.out]; rfl, onB HB.out hb2⟩
  ·rw [decide_eq_false hf] at hcf
   have HR1 : Hid (treeErr d L = 0) := by show _ = _; rw [HR.out, if_neg hf]
   clear hf HR
   go_wp2_with fail
   refine hcf.mono ?_
   rintro e w2 ⟨rfl, hb2⟩
   go_wp2_with fail
   go_ret
   exact ⟨by rw [HR1.out]; rfl, onB HB.out hb2⟩
 ·have HK : Hid (errV (treeErr d L) = .iface 65 (.int .i64 (dimErr d).2)) := by show _ = _; rw [treeErr_dim he, errV_some he]
  rw [errV_some he] at hck
  clear he
  generalize (dimErr d).2 = c at hck HK
  go_enter Tryz.func114, Tryz.ntmps114
  go_wp2_with fail
  refine hck.mono ?_
  rintro e w1 ⟨rfl, hb1⟩
  go_wp2_with fail
  go_ret
  exact ⟨by rw [HK.out]; rfl, onB HB0.out hb1⟩
end Go.Proofs.YtjffbmejobjmjafGreatDoor

