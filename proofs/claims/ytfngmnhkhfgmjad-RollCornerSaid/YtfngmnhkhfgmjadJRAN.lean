/-
  What places of package tree answers: the places of those of whom a question is told yes; slices.Index, IndexFunc, Contains, ContainsFunc over ints; what check of package tree answers.
-/
import Derived.Test.YtfngmnhkhfgmjadJRAM
namespace Go.Proofs.Ytfngmnhkhfgmjad
open Go.ChangeShapes Go.WideShapes Go.ChangeAt Go.RowKit
set_option maxRecDepth 20000
def AskP (fn q r : Nat) (w : World) (n : Nat) (p : Nat → Bool) : Prop := ∀ (i : Nat) (w' : World), i < n → Below w.heap.size w w' → Calls Try.prog fn #[.int .i64 i, .pointer (some ⟨q, 0, none⟩), .pointer (some ⟨r, 0, none⟩)] w' fun e w'' => e = .returned (.bool (p i)) ∧ Below w'.heap.size w' w''
set_option maxHeartbeats 2000000 in
theorem places_any (fn q r : Nat) (he : EntersO fn) (A : Option Addr) (n cap : Nat) (p : Nat → Bool) (w : World) (hn : n ≤ 12) (hp : AskP fn q r w n p) : Calls Try.prog 75 #[.slice A n cap, .func (.func fn) #[] #[.pointer (some ⟨q, 0, none⟩), .pointer (some ⟨r, 0, none⟩)]] w fun e w' => (∃ A c, e = .returned (.slice A (selTo p n).length c) ∧ IntsAt w' A c (selTo p n)) ∧ Below w.heap.size w w' := by
 obtain ⟨i0, hi0, hz0, hz1, hz2⟩ := info_parts Try.infoInt
 have HP : Hid (AskP fn q r w n p) := hp
 have hn' : (n : Int) ≤ 12 := by omega
 clear hp
 unfold EntersO at he
 go_enter Try.func75, Try.ntmps75
 go_wp2_with fail
 go_loopg [5, 9] n (fun g s5 s9 wr => ∃ (k : Nat), k ≤ n ∧ g = n - k ∧ s9 = .int .i64 k ∧ wr.ownsRow w.heap.size 3 1 s5 (selTo p k).length (mapI (selTo p k)) ∧ Below w.heap.size w wr)
 case atStart => exact ⟨0, Nat.zero_le _, rfl, rfl, World.ownsRow_nil _ _ _ _, Below.refl _ _⟩
 case round =>
  obtain ⟨k, hk, rfl, rfl, hown, hBw⟩ := hrel
  have HW : Hid (Below w.heap.size w wr) := hBw
  have HO : Hid (wr.ownsRow w.heap.size 3 1 _ (selTo p k).length (mapI (selTo p k))) := hown
  by_cases hlt : k < n
  ·have hki : (k : Int) < (n : Int) := by omega
   have hbd := HP.out k wr hlt hBw
   clear hBw hown
   cases hb : p k
   ·rw [hb] at hbd
    have HK : Hid (p k = false) := hb
    clear hb
    go_wp2_with fail
    refine hbd.mono ?_
    rintro e w1 ⟨rfl, hb1⟩
    go_wp2_with fail
    go_roundg (n - (k + 1))
    case measure => omega
    case rel => exact ⟨k + 1, by omega, rfl, by go_num, by rw [selTo_miss HK.out]; exact own_later HO.out hb1, onB HW.out hb1⟩
   ·rw [hb] at hbd
    have HK : Hid (p k = true) := hb
    have hlen := selTo_len p k
    clear hb
    go_wp2_with fail
    refine hbd.mono ?_
    rintro e w1 ⟨rfl, hb1⟩
    have hown := own_later HO.out hb1
    have hB1 := onB HW.out hb1
    have hsz := hB1.size
    have HB1 : Hid (Below w.heap.size w w1) := hB1
    clear hb1 hB1
    go_wp2_with (at_builtin; refine wpList_append_own _ rfl _ _ 26 rfl w.heap.size 3 i0 (.int .i64 0) 1 8 Try.underlying26 hi0 hz0 hz1 hz2 rfl (by decide) _ _ _ rfl (hown.alloc _) ⟨w1.heap.size, 0, none⟩ 1 1 [.int .i64 k] rfl rfl one_cell one_one (by unfold maxLen; omega) (by omega) (by simp; omega) ?_)
    intro v' w2 hown' hgrow _
    have HB2 : Hid (Below w.heap.size w w2) := grown_own HB1.out hown hgrow
    have HO2 : Hid (w2.ownsRow w.heap.size 3 1 v' (selTo p (k + 1)).length (mapI (selTo p (k + 1)))) := by
     show World.ownsRow ..
     rw [selTo_hit HK.out, mapI_snoc, List.length_append]; exact hown'
    clear hown' hgrow hown
    go_wp2_with fail
    go_roundg (n - (k + 1))
    case measure => omega
    case rel => exact ⟨k + 1, by omega, rfl, by go_num, HO2.out, HB2.out⟩
  ·have hke : k = n := by omega
   subst hke
   clear hBw hown
   go_wp2_with fail
   go_ret
   obtain ⟨A, c, h1, h2⟩ := ints_of HO.out
   exact ⟨⟨A, c, by rw [← h1]; rfl, h2⟩, HW.out⟩
set_option maxHeartbeats 1000000 in
theorem index_ints (A : Option Addr) (cap : Nat) (L : List Int) (i : Int) (w : World) (hn : L.length ≤ 12) (hL : IntsAt w A cap L) : Calls Try.prog 53 #[.slice A L.length cap, .int .i64 i] w fun e w' => e = .returned (.int .i64 (findFrom (fun j => L.getD j 0 == i) L.length 0)) ∧ Below w.heap.size w w' := by
 obtain ⟨hc, h0 | ⟨b, rfl, hbw, hcell⟩⟩ := hL
 ·subst h0
  simp only [List.length_nil]
  go_enter Try.func53, Try.ntmps53
  go_wp2_with fail
  refine wp_loop_rounds 1 ?_
  rw [rounds_succ]
  go_wp2_with fail
  go_ret
  exact ⟨rfl, Below.refl _ _⟩
 ·have HC : Hid (∀ j, j < L.length → w.cell? ⟨b, j, none⟩ = some (.int .i64 (L.getD j 0))) := hcell
  obtain ⟨p, hp⟩ : ∃ p : Nat → Bool, p = fun j => L.getD j 0 == i := ⟨_, rfl⟩
  have HP : Hid (∀ j, p j = (L.getD j 0 == i)) := fun j => by rw [hp]
  rw [← hp]
  generalize hnn : L.length = n at hn hc HC
  clear hcell hp hnn
  go_enter Try.func53, Try.ntmps53
  go_wp2_with fail
  go_loopg [8] n (fun g s8 wr => ∃ (k : Nat), k ≤ n ∧ g = n - k ∧ s8 = .int .i64 k ∧ findFrom p (n - k) k = findFrom p n 0 ∧ wr = w)
  case atStart => exact ⟨0, Nat.zero_le _, rfl, rfl, rfl, rfl⟩
  case round =>
   obtain ⟨k, hk, rfl, rfl, hf, rfl⟩ := hrel
   have HF : Hid (findFrom p (n - k) k = findFrom p n 0) := hf
   clear hf
   by_cases hlt : k < n
   ·have hki : (k : Int) < (n : Int) := by omega
    have hcx := HC.out k hlt
    have hsk : n - k = (n - (k + 1)) + 1 := by omega
    have hn' : (n : Int) ≤ 12 := by omega
    have hpk := HP.out k
    have HSK : Hid (n - k = (n - (k + 1)) + 1) := hsk
    generalize L.getD k 0 = x at hcx hpk
    clear hsk
    cases hb : p k
    ·have HK : Hid (p k = false) := hb
     rw [hb] at hpk
     have hx : (i == x) = false := by
      have h1 : x ≠ i := by simpa using hpk.symm
      simpa using fun h : i = x => h1 h.symm
     clear hb hpk
     go_wp2_with fail
     go_roundg (n - (k + 1))
     case measure => omega
     case rel => exact ⟨k + 1, by omega, rfl, by go_num, by rw [← HF.out, HSK.out, findFrom_miss _ HK.out], rfl⟩
    ·have HK : Hid (p k = true) := hb
     rw [hb] at hpk
     have hx : (i == x) = true := by
      have h1 : x = i := by simpa using hpk.symm
      simpa using h1.symm
     clear hb hpk
     go_wp2_with fail
     go_ret
     exact ⟨by rw [← HF.out, HSK.out, findFrom_hit _ HK.out]; rfl, Below.refl _ _⟩
   ·have hke : k = n := by omega
    subst hke
    go_wp2_with fail
    go_ret
    exact ⟨by rw [← HF.out, Nat.sub_self]; rfl, Below.refl _ _⟩
theorem contains_ints (A : Option Addr) (cap : Nat) (L : List Int) (i : Int) (w : World) (hn : L.length ≤ 12) (hL : IntsAt w A cap L) : Calls Try.prog 30 #[.slice A L.length cap, .int .i64 i] w fun e w' => e = .returned (.bool (inB L i)) ∧ Below w.heap.size w w' := by
 have h := index_ints A cap L i w hn hL
 have HI : Hid (decide (0 ≤ findFrom (fun j => L.getD j 0 == i) L.length 0) = inB L i) := find_in L i
 generalize findFrom (fun j => L.getD j 0 == i) L.length 0 = f at h HI
 generalize L.length = n at h
 clear hL hn
 go_enter Try.func30, Try.ntmps30
 go_wp2_with fail
 refine h.mono ?_
 rintro e w1 ⟨rfl, hb1⟩
 go_wp2_with fail
 go_ret
 exact ⟨by rw [← HI.out]; rfl, hb1⟩
end Go.Proofs.Ytfngmnhkhfgmjad
