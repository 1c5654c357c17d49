/-
  slices.IndexFunc and slices.ContainsFunc over the members of a dim, at any question that is told by a contract; the question of package outline: whether a member's name is the one of a member.
-/
import Derived.Test.YtfngmnhkhfgmjacDoorJIAB
namespace Go.Proofs.YtfngmnhkhfgmjacDoor
open Go.ChangeShapes Go.WideShapes Go.ChangeAt Go.RowKit
set_option maxRecDepth 20000
def memV (m : Mem) : Value := .agg #[.string m.name, .int .i64 m.parent, .int .i64 m.sign, .string m.formula]
def MemAt (w : World) (b o : Nat) (m : Mem) : Prop := w.cell? ⟨b, o, none⟩ = some (.string m.name) ∧ w.cell? ⟨b, o + 1, none⟩ = some (.int .i64 m.parent) ∧ w.cell? ⟨b, o + 2, none⟩ = some (.int .i64 m.sign) ∧ w.cell? ⟨b, o + 3, none⟩ = some (.string m.formula)
def MemsAt (w : World) (b o n : Nat) (M : Nat → Mem) : Prop := b < w.heap.size ∧ ∀ i, i < n → MemAt w b (o + i * 4) (M i)
theorem MemAt.later {w w' : World} {b o : Nat} {m : Mem} (h : MemAt w b o m) (hb : b < w.heap.size) (hB : Below w.heap.size w w') : MemAt w' b o m :=
 ⟨(hB.cell (p := ⟨b, o, none⟩) hb).trans h.1, (hB.cell (p := ⟨b, o + 1, none⟩) hb).trans h.2.1, (hB.cell (p := ⟨b, o + 2, none⟩) hb).trans h.2.2.1, (hB.cell (p := ⟨b, o + 3, none⟩) hb).trans h.2.2.2⟩
theorem MemsAt.later {w w' : World} {b o n : Nat} {M : Nat → Mem} (h : MemsAt w b o n M) (hB : Below w.heap.size w w') : MemsAt w' b o n M :=
 ⟨Nat.lt_of_lt_of_le h.1 hB.size, fun i hi => (h.2 i hi).later h.1 hB⟩
theorem MemsAt.less {w : World} {b o n m : Nat} {M : Nat → Mem} (h : MemsAt w b o n M) (hm : m ≤ n) : MemsAt w b o m M := ⟨h.1, fun i hi => h.2 i (by omega)⟩
def EntersO (fn : Nat) : Prop := ∀ (args : Array Value) (w : World), (callFunc fn args).run Tryd.prog w = .ok (.enter fn args) w
theorem member1_in : EntersO 62 := fun args w => by simp [callFunc, Tryd.func62]; rfl
def AskM (fn q : Nat) (w : World) (n : Nat) (M : Nat → Mem) (p : Nat → Bool) : Prop := ∀ (i : Nat) (w' : World), i < n → Below w.heap.size w w' → Calls Tryd.prog fn #[memV (M i), .pointer (some ⟨q, 0, none⟩)] w' fun e w'' => e = .returned (.bool (p i)) ∧ Below w'.heap.size w' w''
set_option maxHeartbeats 1000000 in
theorem index_mems (fn q : Nat) (he : EntersO fn) (b o n cap : Nat) (M : Nat → Mem) (p : Nat → Bool) (w : World) (hn : n ≤ 12) (hM : MemsAt w b o n M) (hp : AskM fn q w n M p) :
  Calls Tryd.prog 77 #[.slice (some ⟨b, o, none⟩) n cap, .func (.func fn) #[] #[.pointer (some ⟨q, 0, none⟩)]] w fun e w' => e = .returned (.int .i64 (findFrom p n 0)) ∧ Below w.heap.size w w' := by
 have HB : Hid (MemsAt w b o n M) := hM
 have HP : Hid (AskM fn q w n M p) := hp
 clear hM hp
 unfold EntersO at he
 go_enter Tryd.func77, Tryd.ntmps77
 go_wp2_with fail
 go_loopg [8] n (fun g s8 wr => ∃ (k : Nat), k ≤ n ∧ g = n - k ∧ s8 = .int .i64 k ∧ findFrom p (n - k) k = findFrom p n 0 ∧ Below w.heap.size w wr)
 case atStart => exact ⟨0, Nat.zero_le _, rfl, rfl, rfl, Below.refl _ _⟩
 case round =>
  obtain ⟨k, hk, rfl, rfl, hf, hBw⟩ := hrel
  by_cases hlt : k < n
  ·obtain ⟨h0, h1, h2, h3⟩ := (HB.out.later hBw).2 k hlt
   have hki : (k : Int) < (n : Int) := by omega
   have HF : Hid (findFrom p (n - k) k = findFrom p n 0) := hf
   have HW : Hid (Below w.heap.size w wr) := hBw
   have hsk : n - k = (n - (k + 1)) + 1 := by omega
   have hbd := HP.out k wr hlt hBw
   unfold memV at hbd
   have hs8 : (n : Int) ≤ 12 := by omega
   clear hf hBw
   cases hb : p k
   ·rw [hb] at hbd
    have HK : Hid (p k = false) := hb
    clear hb
    go_wp2_with fail
    refine hbd.mono ?_
    rintro e w1 ⟨rfl, hb1⟩
    go_wp2_with fail
    go_roundg (n - (k + 1))
    case measure => omega
    case rel => exact ⟨k + 1, by omega, rfl, by go_num, by rw [← HF.out, hsk, findFrom_miss _ HK.out], onB HW.out hb1⟩
   ·rw [hb] at hbd
    have HK : Hid (p k = true) := hb
    clear hb
    go_wp2_with fail
    refine hbd.mono ?_
    rintro e w1 ⟨rfl, hb1⟩
    go_wp2_with fail
    go_ret
    exact ⟨by rw [← HF.out, hsk, findFrom_hit _ HK.out]; rfl, onB HW.out hb1⟩
  ·have hke : k = n := by omega
   subst hke
   go_wp2_with fail
   go_ret
   exact ⟨by rw [← hf, Nat.sub_self]; rfl, hBw⟩
theorem contains_mems (fn q : Nat) (he : EntersO fn) (b o n cap : Nat) (M : Nat → Mem) (p : Nat → Bool) (w : World) (hn : n ≤ 12) (hM : MemsAt w b o n M) (hp : AskM fn q w n M p) :
  Calls Tryd.prog 61 #[.slice (some ⟨b, o, none⟩) n cap, .func (.func fn) #[] #[.pointer (some ⟨q, 0, none⟩)]] w fun e w' => e = .returned (.bool (decide (0 ≤ findFrom p n 0))) ∧ Below w.heap.size w w' := by
 have h := index_mems fn q he b o n cap M p w hn hM hp
 clear hM hp he
 go_enter Tryd.func61, Tryd.ntmps61
 go_wp2_with fail
 refine h.mono ?_
 rintro e w1 ⟨rfl, hb1⟩
 go_wp2_with fail
 go_ret
 exact ⟨rfl, hb1⟩
theorem member1_any (m x : Mem) (q : Nat) (w : World) (hq : q < w.heap.size) (h : w.cell? ⟨q, 0, none⟩ = some (.string x.name)) : Calls Tryd.prog 62 #[memV m, .pointer (some ⟨q, 0, none⟩)] w fun e w' => e = .returned (.bool (same m.name x.name)) ∧ Below w.heap.size w w' := by
 unfold memV
 go_enter Tryd.func62, Tryd.ntmps62
 go_wp2_with fail
 go_ret
 exact ⟨by simp [same], by go_grown⟩
end Go.Proofs.YtfngmnhkhfgmjacDoor
