/-
  The document's own reading of outlines (tallyref1.Name, tallyref1.Where, tallyref1.Size): what is wrong with a name, where a member of a name is, how many places an outline has.
-/
import Derived.WalkSpells
import Derived.WalkLawsBesides
import Derived.Test.YtfngmnhkhfgmjacDoorJIAF
namespace Go.Proofs.YtfngmnhkhfgmjacDoor
open Go.ChangeShapes Go.WideShapes Go.ChangeAt Go.RowKit
set_option maxRecDepth 20000
theorem byteN_eq (s : ByteArray) (k : Nat) (h : k < s.size) : byteN s k = (s[k].toNat : Int) := by
 unfold byteN
 rw [List.getD, List.getElem?_eq_getElem (by simpa using h)]
 rfl
set_option maxHeartbeats 1000000 in
theorem rname_any (s : ByteArray) (w : World) : Calls Tryd.prog 81 #[.string s] w fun e w' => e = .returned (.int .i64 (nameErr s)) ∧ w' = w := by
 by_cases h1 : s.size < 1
 ·rw [nameErr_short (Or.inl h1)]
  have h2 : s.toList.isEmpty = true := by rw [empty_same]; simpa using (by omega : s.size = 0)
  clear h1
  go_enter Tryd.func81, Tryd.ntmps81
  go_wp2
  go_ret
  exact ⟨rfl, rfl⟩
 ·have h0 : s.toList.isEmpty = false := by rw [empty_same]; simpa using (by omega : ¬ s.size = 0)
  by_cases h2 : 8 < s.size
  ·rw [nameErr_short (Or.inr h2)]
   have h2' : 8 < (s.size : Int) := by omega
   clear h1
   go_enter Tryd.func81, Tryd.ntmps81
   go_wp2
   go_ret
   exact ⟨rfl, rfl⟩
  ·have h2' : (s.size : Int) ≤ 8 := by omega
   have HN : Hid (nameErr s = if 0 ≤ findFrom (badByte s) s.size 0 then 2 else 0) := nameErr_bytes (by omega) (by omega)
   clear h1
   go_enter Tryd.func81, Tryd.ntmps81
   go_wp2
   go_loopg [3] s.size (fun g s3 wr => ∃ k : Nat, k ≤ s.size ∧ g = s.size - k ∧ s3 = .int .i64 k ∧ findFrom (badByte s) (s.size - k) k = findFrom (badByte s) s.size 0 ∧ wr = w)
   case atStart => exact ⟨0, Nat.zero_le _, rfl, rfl, rfl, rfl⟩
   case round =>
    obtain ⟨k, hk, rfl, rfl, hf, rfl⟩ := hrel
    by_cases hlt : k < s.size
    ·have HF : Hid (findFrom (badByte s) (s.size - k) k = findFrom (badByte s) s.size 0) := hf
     have hsk : s.size - k = (s.size - (k + 1)) + 1 := by omega
     have hki : (k : Int) < (s.size : Int) := by omega
     have HY := byteN_eq s k hlt
     have HZ : Hid (byteN s k = (s[k].toNat : Int)) := HY
     clear hf HY
     by_cases b1 : (s[k].toNat : Int) < 97
     ·go_wp2
      go_ret
      have hb : badByte s k = true := by unfold badByte badB; rw [HZ.out]; simp [b1]
      exact ⟨by rw [HN.out, ← HF.out, hsk, findFrom_hit _ hb, if_pos (by omega)]; rfl, rfl⟩
     ·by_cases b2 : 122 < (s[k].toNat : Int)
      ·go_wp2
       go_ret
       have hb : badByte s k = true := by unfold badByte badB; rw [HZ.out]; simp [b2]
       exact ⟨by rw [HN.out, ← HF.out, hsk, findFrom_hit _ hb, if_pos (by omega)]; rfl, rfl⟩
      ·have HB : Hid (badByte s k = false) := by show badByte s k = false; unfold badByte badB; rw [HZ.out]; simp; omega
       go_wp2
       go_roundg (s.size - (k + 1))
       case measure => omega
       case rel => exact ⟨k + 1, by omega, rfl, by go_num, by rw [← HF.out, hsk, findFrom_miss _ HB.out], rfl⟩
    ·have hke : k = s.size := by omega
     have HF : Hid (findFrom (badByte s) (s.size - k) k = findFrom (badByte s) s.size 0) := hf
     have hki : (s.size : Int) ≤ (k : Int) := by omega
     clear hf
     go_wp2
     go_ret
     exact ⟨by rw [HN.out, ← HF.out, hke, Nat.sub_self]; rfl, rfl⟩
set_option maxHeartbeats 1000000 in
theorem where_any (d : Dm) (A : Option Addr) (cap : Nat) (s : ByteArray) (w : World) (hn : d.n ≤ 12) (hM : MemsV w A cap d.n d.mem) : Calls Tryd.prog 82 #[dimV d A cap, .string s] w fun e w' => e = .returned (.int .i64 (findFrom (fun j => same (d.mem j).name s) d.n 0)) ∧ Below w.heap.size w w' := by
 have HM : Hid (MemsV w A cap d.n d.mem) := hM
 clear hM
 unfold dimV
 have hn' : (d.n : Int) ≤ 12 := by omega
 have hS := ownDim_size w d A cap 27
 have hB0 := ownDim_below w d A cap 27
 have hA2 := (ownDim_at w d A cap 27).2.2
 obtain ⟨W, hW⟩ : ∃ W, W = ownDim w d A cap 27 := ⟨_, rfl⟩
 rw [← hW] at hB0 hS hA2
 have HW : Hid (W = ownDim w d A cap 27) := hW
 have HA : Hid (W.cell? ⟨w.heap.size, 2, none⟩ = some (.slice A d.n cap)) := hA2
 have HB0 : Hid (Below w.heap.size w W) := hB0
 have hsz : w.heap.size < W.heap.size := by omega
 clear hW hA2 hB0 hS
 go_enter Tryd.func82, Tryd.ntmps82
 go_wp2_with fail
 go_loopg [5] d.n (fun g s5 wr => ∃ k : Nat, k ≤ d.n ∧ g = d.n - k ∧ s5 = .int .i64 k ∧ findFrom (fun j => same (d.mem j).name s) (d.n - k) k = findFrom (fun j => same (d.mem j).name s) d.n 0 ∧ wr = W)
 case atStart => exact ⟨0, Nat.zero_le _, rfl, rfl, rfl, by rw [HW.out]; rfl⟩
 case round =>
  obtain ⟨k, hk, rfl, rfl, hf, rfl⟩ := hrel
  have HF : Hid (findFrom (fun j => same (d.mem j).name s) (d.n - k) k = findFrom (fun j => same (d.mem j).name s) d.n 0) := hf
  have c2 := HA.out
  clear hf
  by_cases hlt : k < d.n
  ·obtain ⟨hcap, h0 | ⟨b, o, rfl, hMs⟩⟩ := HM.out.later HB0.out
   ·omega
   obtain ⟨n0, -, -, -⟩ := hMs.2 k hlt
   have hki : (k : Int) < (d.n : Int) := by omega
   have hsk : d.n - k = (d.n - (k + 1)) + 1 := by omega
   clear hMs
   cases hq : ((d.mem k).name.toList == s.toList)
   ·have HQ : Hid ((fun j => same (d.mem j).name s) k = false) := hq
    go_wp2_with fail
    go_roundg (d.n - (k + 1))
    case measure => omega
    case rel => exact ⟨k + 1, by omega, rfl, by go_num, by rw [← HF.out, hsk, findFrom_miss _ HQ.out], rfl⟩
   ·have HQ : Hid ((fun j => same (d.mem j).name s) k = true) := hq
    go_wp2_with fail
    go_ret
    exact ⟨by rw [← HF.out, hsk, findFrom_hit _ HQ.out]; rfl, HB0.out⟩
  ·have hke : k = d.n := by omega
   have hki : (d.n : Int) ≤ (k : Int) := by omega
   go_wp2_with fail
   go_ret
   exact ⟨by rw [← HF.out, hke, Nat.sub_self]; rfl, HB0.out⟩
end Go.Proofs.YtfngmnhkhfgmjacDoor
