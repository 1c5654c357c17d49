/-
  slices.IndexFunc and slices.ContainsFunc over ints, at the question of package tree's check; what check answers: what is wrong with a dim, or else with places in it.
-/
import Derived.Test.YtfngmnhkhfgmjacDoorJIAN
namespace Go.Proofs.YtfngmnhkhfgmjacDoor
open Go.ChangeShapes Go.WideShapes Go.ChangeAt Go.RowKit
set_option maxRecDepth 20000
def outB (n : Nat) (i : Int) : Bool := decide (i < 0) || decide ((n : Int) ≤ i)
theorem check1_any (i : Int) (A : Option Addr) (n cap q : Nat) (w : World) (h : w.cell? ⟨q, 2, none⟩ = some (.slice A n cap)) : Calls Tryd.prog 89 #[.int .i64 i, .pointer (some ⟨q, 0, none⟩)] w fun e w' => e = .returned (.bool (outB n i)) ∧ Below w.heap.size w w' := by
 unfold outB
 by_cases h1 : i < 0
 ·go_enter Tryd.func89, Tryd.ntmps89
  go_wp2
  go_ret
  exact ⟨by simp <;> omega, by go_grown⟩
 ·go_enter Tryd.func89, Tryd.ntmps89
  go_wp2
  go_ret
  exact ⟨by simp <;> omega, by go_grown⟩
set_option maxHeartbeats 1000000 in
theorem indexf_ints (A : Option Addr) (cap : Nat) (L : List Int) (Am : Option Addr) (nm cm q : Nat) (w : World) (hn : L.length ≤ 2) (hL : IntsAt w A cap L) (hq : q < w.heap.size) (hqc : w.cell? ⟨q, 2, none⟩ = some (.slice Am nm cm)) :
  Calls Tryd.prog 92 #[.slice A L.length cap, .func (.func 89) #[] #[.pointer (some ⟨q, 0, none⟩)]] w fun e w' => e = .returned (.int .i64 (findFrom (fun j => outB nm (L.getD j 0)) L.length 0)) ∧ Below w.heap.size w w' := by
 obtain ⟨hc, h0 | ⟨b, rfl, hbw, hcell⟩⟩ := hL
 ·subst h0
  simp only [List.length_nil]
  go_enter Tryd.func92, Tryd.ntmps92
  go_wp2_with fail
  refine wp_loop_rounds 1 ?_
  rw [rounds_succ]
  go_wp2_with fail
  go_ret
  exact ⟨rfl, Below.refl _ _⟩
 ·have HC : Hid (∀ j, j < L.length → w.cell? ⟨b, j, none⟩ = some (.int .i64 (L.getD j 0))) := hcell
  have HQ : Hid (w.cell? ⟨q, 2, none⟩ = some (.slice Am nm cm)) := hqc
  obtain ⟨p, hp⟩ : ∃ p : Nat → Bool, p = fun j => outB nm (L.getD j 0) := ⟨_, rfl⟩
  have HP : Hid (∀ j, p j = outB nm (L.getD j 0)) := fun j => by rw [hp]
  rw [← hp]
  generalize hnn : L.length = n at hn hc HC
  clear hcell hp hnn hqc
  go_enter Tryd.func92, Tryd.ntmps92
  go_wp2_with fail
  go_loopg [8] n (fun g s8 wr => ∃ (k : Nat), k ≤ n ∧ g = n - k ∧ s8 = .int .i64 k ∧ findFrom p (n - k) k = findFrom p n 0 ∧ Below w.heap.size w wr)
  case atStart => exact ⟨0, Nat.zero_le _, rfl, rfl, rfl, Below.refl _ _⟩
  case round =>
   obtain ⟨k, hk, rfl, rfl, hf, hBw⟩ := hrel
   have HF : Hid (findFrom p (n - k) k = findFrom p n 0) := hf
   have HW : Hid (Below w.heap.size w wr) := hBw
   clear hf
   by_cases hlt : k < n
   ·have hki : (k : Int) < (n : Int) := by omega
    have hcx := (hBw.cell (p := ⟨b, k, none⟩) hbw).trans (HC.out k hlt)
    have hn' : (n : Int) ≤ 2 := by omega
    have hpk := HP.out k
    have HSK : Hid (n - k = (n - (k + 1)) + 1) := by show _ = _; omega
    have hbd := check1_any (L.getD k 0) Am nm cm q wr ((hBw.cell (p := ⟨q, 2, none⟩) hq).trans HQ.out)
    rw [← hpk] at hbd
    generalize L.getD k 0 = x at hcx hpk hbd
    clear hBw hpk
    cases hb : p k
    ·have HK : Hid (p k = false) := hb
     rw [hb] at hbd
     clear hb
     go_wp2_with fail
     refine hbd.mono ?_
     rintro e w1 ⟨rfl, hb1⟩
     go_wp2_with fail
     go_roundg (n - (k + 1))
     case measure => omega
     case rel => exact ⟨k + 1, by omega, rfl, by go_num, by rw [← HF.out, HSK.out, findFrom_miss _ HK.out], onB HW.out hb1⟩
    ·have HK : Hid (p k = true) := hb
     rw [hb] at hbd
     clear hb
     go_wp2_with fail
     refine hbd.mono ?_
     rintro e w1 ⟨rfl, hb1⟩
     go_wp2_with fail
     go_ret
     exact ⟨by rw [← HF.out, HSK.out, findFrom_hit _ HK.out]; rfl, onB HW.out hb1⟩
   ·have hke : k = n := by omega
    subst hke
    clear hBw
    go_wp2_with fail
    go_ret
    exact ⟨by rw [← HF.out, Nat.sub_self]; rfl, HW.out⟩
theorem containsf_ints (A : Option Addr) (cap : Nat) (L : List Int) (Am : Option Addr) (nm cm q : Nat) (w : World) (hn : L.length ≤ 2) (hL : IntsAt w A cap L) (hq : q < w.heap.size) (hqc : w.cell? ⟨q, 2, none⟩ = some (.slice Am nm cm)) :
  Calls Tryd.prog 88 #[.slice A L.length cap, .func (.func 89) #[] #[.pointer (some ⟨q, 0, none⟩)]] w fun e w' => e = .returned (.bool (decide (0 ≤ findFrom (fun j => outB nm (L.getD j 0)) L.length 0))) ∧ Below w.heap.size w w' := by
 have h := indexf_ints A cap L Am nm cm q w hn hL hq hqc
 generalize findFrom (fun j => outB nm (L.getD j 0)) L.length 0 = f at h
 generalize L.length = n at h
 clear hL hn hq hqc
 go_enter Tryd.func88, Tryd.ntmps88
 go_wp2_with fail
 refine h.mono ?_
 rintro e w1 ⟨rfl, hb1⟩
 go_wp2_with fail
 go_ret
 exact ⟨rfl, hb1⟩
theorem treeErr_range {d : Dm} {L : List Int} (h : (dimErr d).2 = 0) : treeErr d L = if 0 ≤ findFrom (fun j => outB d.n (L.getD j 0)) L.length 0 then 1 else 0 := by
 unfold treeErr rangeErr; rw [if_neg (by simpa using h)]; rfl
set_option maxHeartbeats 2000000 in
theorem tcheck_any (d : Dm) (A : Option Addr) (cap : Nat) (Ai : Option Addr) (ci : Nat) (L : List Int) (w : World) (hM : MemsV w A cap d.n d.mem) (hn : L.length ≤ 2) (hL : IntsAt w Ai ci L) : Calls Tryd.prog 83 #[dimV d A cap, .slice Ai L.length ci] w fun e w' => e = .returned (errV (treeErr d L)) ∧ Below w.heap.size w w' := by
 have hS := ownDim_size w d A cap 27
 have hB0 := ownDim_below w d A cap 27
 have hA := (ownDim_at w d A cap 27).2.2
 have hck := dcheck_any d A cap (ownDim w d A cap 27) (hM.later hB0)
 unfold dimV at hck ⊢
 have HB0 : Hid (Below w.heap.size w (ownDim w d A cap 27)) := hB0
 have HS : Hid ((ownDim w d A cap 27).heap.size = w.heap.size + 1) := hS
 have HA : Hid ((ownDim w d A cap 27).cell? ⟨w.heap.size, 2, none⟩ = some (.slice A d.n cap)) := hA
 have HL : Hid (IntsAt w Ai ci L) := hL
 clear hM hS hB0 hA hL
 by_cases he : (dimErr d).2 = 0
 ·obtain ⟨e1, hd1, hd2, -⟩ := dimErr_right he
  rw [he, e1, errV_zero] at hck
  have HE : Hid ((dimErr d).2 = 0) := he
  clear he e1
  go_enter Tryd.func83, Tryd.ntmps83
  go_wp2_with fail
  refine hck.mono ?_
  rintro e w1 ⟨rfl, hb1⟩
  have hB : Below w.heap.size w w1 := onB HB0.out hb1
  have hz : w.heap.size < w1.heap.size := by
   have := hb1.size
   rw [HS.out] at this
   omega
  have h2 : w1.cell? ⟨w.heap.size, 2, none⟩ = some (.slice A d.n cap) := (hb1.cell (p := ⟨w.heap.size, 2, none⟩) (by show w.heap.size < _; rw [HS.out]; omega)).trans HA.out
  have hcf := containsf_ints Ai ci L A d.n cap w.heap.size w1 hn (HL.out.later hB) hz h2
  have HR : Hid (treeErr d L = if 0 ≤ findFrom (fun j => outB d.n (L.getD j 0)) L.length 0 then 1 else 0) := treeErr_range HE.out
  have HB : Hid (Below w.heap.size w w1) := hB
  generalize findFrom (fun j => outB d.n (L.getD j 0)) L.length 0 = f at hcf HR
  generalize L.length = n at hcf
  clear hb1 hck h2 hB
  by_cases hf : 0 ≤ f
  ·rw [decide_eq_true hf] at hcf
   have HR1 : Hid (treeErr d L = 1) := by show _ = _; rw [HR.out, if_pos hf]
   clear hf HR
   go_wp2_with fail
   refine hcf.mono ?_
   rintro e w2 ⟨rfl, hb2⟩
   go_wp2_with fail
   go_ret
   exact ⟨by rw [HR1.out]; rfl, onB HB.out hb2⟩
  ·rw [decide_eq_false hf] at hcf
   have HR1 : Hid (treeErr d L = 0) := by show _ = _; rw [HR.out, if_neg hf]
   clear hf HR
   go_wp2_with fail
   refine hcf.mono ?_
   rintro e w2 ⟨rfl, hb2⟩
   go_wp2_with fail
   go_ret
   exact ⟨by rw [HR1.out]; rfl, onB HB.out hb2⟩
 ·have HK : Hid (errV (treeErr d L) = .iface 69 (.int .i64 (dimErr d).2)) := by show _ = _; rw [treeErr_dim he, errV_some he]
  rw [errV_some he] at hck
  clear he
  generalize (dimErr d).2 = c at hck HK
  go_enter Tryd.func83, Tryd.ntmps83
  go_wp2_with fail
  refine hck.mono ?_
  rintro e w1 ⟨rfl, hb1⟩
  go_wp2_with fail
  go_ret
  exact ⟨by rw [HK.out]; rfl, onB HB0.out hb1⟩
end Go.Proofs.YtfngmnhkhfgmjacDoor
