/-
  What Name of package outline answers, called in whatever memory: of any text nil, or ErrSyntax.
-/
import Derived.WalkKit
import Derived.ProofKit
import Derived.OpenShut
import Derived.Handy
import Derived.Outline
import Derived.Laws.IdiomStrings
import Derived.Deep.LoopGhost
import Derived.Test.YtfngmnhkhfgmjacDoorJIAA
namespace Go.Proofs.YtfngmnhkhfgmjacDoor
open Go.ChangeShapes Go.WideShapes Go.ChangeAt Go.RowKit
set_option maxRecDepth 20000
def errV (c : Int) : Value := if c = 0 then .nilIface else .iface 69 (.int .i64 c)
theorem errV_zero : errV 0 = .nilIface := rfl
theorem errV_some {c : Int} (h : c ≠ 0) : errV c = .iface 69 (.int .i64 c) := by simp [errV, h]
theorem bad_any (c : Int) (w : World) : Calls Tryd.prog 76 #[.int .u8 c] w fun e w' => e = .returned (.bool (badB c)) ∧ Below w.heap.size w w' := by
 unfold badB
 by_cases h1 : c < 97
 ·go_enter Tryd.func76, Tryd.ntmps76
  go_wp2
  go_ret
  exact ⟨by simp <;> omega, by go_grown⟩
 ·go_enter Tryd.func76, Tryd.ntmps76
  go_wp2
  go_ret
  exact ⟨by simp <;> omega, by go_grown⟩
def BytesAt (w : World) (b : Nat) (s : ByteArray) : Prop := b < w.heap.size ∧ ∀ i, i < s.size → w.cell? ⟨b, i, none⟩ = some (.int .u8 (byteN s i))
theorem BytesAt.later {w w' : World} {b : Nat} {s : ByteArray} (h : BytesAt w b s) (hb : Below w.heap.size w w') : BytesAt w' b s :=
 ⟨Nat.lt_of_lt_of_le h.1 hb.size, fun i hi => (hb.cell (p := ⟨b, i, none⟩) h.1).trans (h.2 i hi)⟩
theorem onB {W0 W w4 : World} (h : Below W0.heap.size W0 W) (hb : Below W.heap.size W w4) : Below W0.heap.size W0 w4 := h.trans (hb.mono h.size)
set_option maxHeartbeats 1000000 in
theorem index_bytes (s : ByteArray) (b cap : Nat) (w : World) (hs : s.size ≤ 8) (hB : BytesAt w b s) : Calls Tryd.prog 87 #[.slice (some ⟨b, 0, none⟩) s.size cap, .func (.func 76) #[] #[]] w fun e w' => e = .returned (.int .i64 (findFrom (badByte s) s.size 0)) ∧ Below w.heap.size w w' := by
 have HB : Hid (BytesAt w b s) := hB
 clear hB
 go_enter Tryd.func87, Tryd.ntmps87
 go_wp2_with fail
 go_loopg [8] s.size (fun g s8 wr => ∃ (k : Nat), k ≤ s.size ∧ g = s.size - k ∧ s8 = .int .i64 k ∧ findFrom (badByte s) (s.size - k) k = findFrom (badByte s) s.size 0 ∧ Below w.heap.size w wr)
 case atStart => exact ⟨0, Nat.zero_le _, rfl, rfl, rfl, Below.refl _ _⟩
 case round =>
  obtain ⟨k, hk, rfl, rfl, hf, hBw⟩ := hrel
  by_cases hlt : k < s.size
  ·have hc : wr.cell? ⟨b, k, none⟩ = some (.int .u8 (byteN s k)) := (HB.out.later hBw).2 k hlt
   have hki : (k : Int) < (s.size : Int) := by omega
   have HF : Hid (findFrom (badByte s) (s.size - k) k = findFrom (badByte s) s.size 0) := hf
   have HW : Hid (Below w.heap.size w wr) := hBw
   have hsk : s.size - k = (s.size - (k + 1)) + 1 := by omega
   have hbd := bad_any (byteN s k)
   have hs8 : (s.size : Int) ≤ 8 := by omega
   clear hf hBw
   cases hb : badB (byteN s k)
   ·rw [hb] at hbd
    have HK : Hid (badByte s k = false) := hb
    clear hb
    go_wp2_with fail
    refine (hbd _).mono ?_
    rintro e w1 ⟨rfl, hb1⟩
    go_wp2_with fail
    go_roundg (s.size - (k + 1))
    case measure => omega
    case rel => exact ⟨k + 1, by omega, rfl, by go_num, by rw [← HF.out, hsk, findFrom_miss _ HK.out], onB HW.out hb1⟩
   ·rw [hb] at hbd
    have HK : Hid (badByte s k = true) := hb
    clear hb
    go_wp2_with fail
    refine (hbd _).mono ?_
    rintro e w1 ⟨rfl, hb1⟩
    go_wp2_with fail
    go_ret
    exact ⟨by rw [← HF.out, hsk, findFrom_hit _ HK.out]; rfl, onB HW.out hb1⟩
  ·have hke : k = s.size := by omega
   subst hke
   go_wp2_with fail
   go_ret
   exact ⟨by rw [← hf, Nat.sub_self]; rfl, hBw⟩
theorem contains_bytes (s : ByteArray) (b cap : Nat) (w : World) (hs : s.size ≤ 8) (hB : BytesAt w b s) : Calls Tryd.prog 75 #[.slice (some ⟨b, 0, none⟩) s.size cap, .func (.func 76) #[] #[]] w fun e w' => e = .returned (.bool (decide (0 ≤ findFrom (badByte s) s.size 0))) ∧ Below w.heap.size w w' := by
 have h := index_bytes s b cap w hs hB
 clear hB
 go_enter Tryd.func75, Tryd.ntmps75
 go_wp2_with fail
 refine h.mono ?_
 rintro e w1 ⟨rfl, hb1⟩
 go_wp2_with fail
 go_ret
 exact ⟨rfl, hb1⟩
theorem conv_bytes (s : ByteArray) (w : World) : ∃ cap w1, (convert 9 129 (.string s)).run Tryd.prog w = .ok (.slice (some ⟨w.heap.size, 0, none⟩) s.size cap) w1 ∧ Below w.heap.size w w1 ∧ BytesAt w1 w.heap.size s := by
 refine ⟨_, _, run_bytes_of_string w 9 129 5 s Tryd.underlying9 Tryd.underlying129 Tryd.underlying5, by go_grown, by simp [go_sem], fun i hi => ?_⟩
 have h := World.cell?_alloc_mark w.drew (bytesRow s (grownCap w s.size 0 5)) 5 ((bytesRow s (grownCap w s.size 0 5)).size, (bytesRow s (grownCap w s.size 0 5)).size + 1) i
 rw [bytesRow_at s _ i hi] at h
 rw [show w.drew.heap.size = w.heap.size from rfl] at h
 rw [h]
 unfold byteN
 rw [List.getD, List.getElem?_eq_getElem (by simpa using hi)]
 rfl
theorem nameErr_short {s : ByteArray} (h : s.size < 1 ∨ 8 < s.size) : nameErr s = 2 := by unfold nameErr; rw [if_pos h]
theorem nameErr_bytes {s : ByteArray} (h : 1 ≤ s.size) (h' : s.size ≤ 8) : nameErr s = if 0 ≤ findFrom (badByte s) s.size 0 then 2 else 0 := by
 unfold nameErr; rw [if_neg (by omega)]
theorem name_any (s : ByteArray) (w : World) : Calls Tryd.prog 60 #[.string s] w fun e w' => e = .returned (errV (nameErr s)) ∧ Below w.heap.size w w' := by
 by_cases h1 : s.size < 1
 ·rw [nameErr_short (Or.inl h1), errV_some (by decide)]
  have h1' : (s.size : Int) < 1 := by omega
  go_enter Tryd.func60, Tryd.ntmps60
  go_wp2
  go_ret
  exact ⟨rfl, by go_grown⟩
 ·by_cases h2 : 8 < s.size
  ·rw [nameErr_short (Or.inr h2), errV_some (by decide)]
   have h1' : 1 ≤ (s.size : Int) := by omega
   have h2' : 8 < (s.size : Int) := by omega
   go_enter Tryd.func60, Tryd.ntmps60
   go_wp2
   go_ret
   exact ⟨rfl, by go_grown⟩
  ·rw [nameErr_bytes (by omega) (by omega)]
   have h1' : 1 ≤ (s.size : Int) := by omega
   have h2' : (s.size : Int) ≤ 8 := by omega
   obtain ⟨cap, w1, hconv, hb0, hB⟩ := conv_bytes s w
   have hc := contains_bytes s w.heap.size cap w1 (by omega) hB
   clear hB
   by_cases hf : 0 ≤ findFrom (badByte s) s.size 0
   ·rw [decide_eq_true hf] at hc
    rw [if_pos hf, errV_some (by decide)]
    clear hf
    go_enter Tryd.func60, Tryd.ntmps60
    go_wp2_with fail
    refine hc.mono ?_
    rintro e w2 ⟨rfl, hb2⟩
    go_wp2_with fail
    go_ret
    exact ⟨rfl, onB hb0 hb2⟩
   ·rw [decide_eq_false hf] at hc
    rw [if_neg hf, errV_zero]
    clear hf
    go_enter Tryd.func60, Tryd.ntmps60
    go_wp2_with fail
    refine hc.mono ?_
    rintro e w2 ⟨rfl, hb2⟩
    go_wp2_with fail
    go_ret
    exact ⟨rfl, onB hb0 hb2⟩
end Go.Proofs.YtfngmnhkhfgmjacDoor
