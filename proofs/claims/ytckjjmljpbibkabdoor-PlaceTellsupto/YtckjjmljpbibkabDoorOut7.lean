/-
  What Find of package outline answers: where a member of a name is in a dim, or what is wrong.
-/
import Derived.Test.YtckjjmljpbibkabDoorOut6
namespace Go.Proofs.YtckjjmljpbibkabDoor
open Go.ChangeShapes Go.WideShapes Go.ChangeAt Go.RowKit
set_option maxRecDepth 20000

theorem find1_in : EntersO 72 := fun args w => by simp [callFunc, Tryd.func72]; rfl
theorem find1_any (m : Mem) (s : ByteArray) (q : Nat) (w : World) (hq : q < w.heap.size) (h : w.cell? ⟨q, 0, none⟩ = some (.string s)) : Calls Tryd.prog 72 #[memV m, .pointer (some ⟨q, 0, none⟩)] w fun e w' => e = .returned (.bool (same m.name s)) ∧ Below w.heap.size w w' := by
  unfold memV
  go_enter Tryd.func72, Tryd.ntmps72
  go_wp2_with fail
  go_ret
  exact ⟨by simp [same], by go_grown⟩

def ownFind (w : World) (d : Dm) (A : Option Addr) (cap : Nat) (s : ByteArray) (T T' : Nat) : World := (ownDim w d A cap T).alloc (.cells #[.string s] T')
theorem ownFind_at (w : World) (d : Dm) (A : Option Addr) (cap : Nat) (s : ByteArray) (T T' : Nat) : (ownFind w d A cap s T T').cell? ⟨w.heap.size, 2, none⟩ = some (.slice A d.n cap) ∧ (ownFind w d A cap s T T').cell? ⟨w.heap.size + 1, 0, none⟩ = some (.string s) := by
  refine ⟨?_, ?_⟩
  · unfold ownFind
    rw [World.cell?_alloc_lt _ _ ⟨w.heap.size, 2, none⟩ (by rw [ownDim_size]; exact Nat.lt_succ_self _)]
    exact (ownDim_at w d A cap T).2.2
  · unfold ownFind
    rw [← ownDim_size w d A cap T]
    simp
theorem ownFind_size (w : World) (d : Dm) (A : Option Addr) (cap : Nat) (s : ByteArray) (T T' : Nat) : (ownFind w d A cap s T T').heap.size = w.heap.size + 2 := by unfold ownFind; simp [ownDim_size]
theorem ownFind_below (w : World) (d : Dm) (A : Option Addr) (cap : Nat) (s : ByteArray) (T T' : Nat) : Below w.heap.size w (ownFind w d A cap s T T') := by unfold ownFind ownDim; go_grown

theorem findErr_dim {d : Dm} {s : ByteArray} (h : (dimErr d).2 ≠ 0) : findErr d s = (0, (dimErr d).2) := by unfold findErr; rw [if_pos h]
theorem findErr_none {d : Dm} {s : ByteArray} (h : (dimErr d).2 = 0) (h1 : findFrom (fun j => same (d.mem j).name s) d.n 0 < 0) : findErr d s = (0, 5) := by unfold findErr; rw [if_neg (by simpa using h), if_pos h1]
theorem findErr_some {d : Dm} {s : ByteArray} (h : (dimErr d).2 = 0) (h1 : ¬ findFrom (fun j => same (d.mem j).name s) d.n 0 < 0) : findErr d s = (findFrom (fun j => same (d.mem j).name s) d.n 0, 0) := by unfold findErr; rw [if_neg (by simpa using h), if_neg h1]

set_option maxHeartbeats 2000000 in
theorem find_any (d : Dm) (A : Option Addr) (cap : Nat) (s : ByteArray) (w : World) (hM : MemsV w A cap d.n d.mem) : Calls Tryd.prog 57 #[dimV d A cap, .string s] w fun e w' => e = .returned (.tuple #[.int .i64 (findErr d s).1, errV (findErr d s).2]) ∧ Below w.heap.size w w' := by
  have hS := ownFind_size w d A cap s 24 9
  have hB0 := ownFind_below w d A cap s 24 9
  have hck := dcheck_any d A cap (ownFind w d A cap s 24 9) (hM.later hB0)
  obtain ⟨o2, o3⟩ := ownFind_at w d A cap s 24 9
  unfold dimV at hck ⊢
  have HM : Hid (MemsV w A cap d.n d.mem) := hM
  have H2 : Hid ((ownFind w d A cap s 24 9).cell? ⟨w.heap.size, 2, none⟩ = some (.slice A d.n cap) ∧ (ownFind w d A cap s 24 9).cell? ⟨w.heap.size + 1, 0, none⟩ = some (.string s)) := ⟨o2, o3⟩
  have HB0 : Hid (Below w.heap.size w (ownFind w d A cap s 24 9)) := hB0
  have HS : Hid ((ownFind w d A cap s 24 9).heap.size = w.heap.size + 2) := hS
  clear hM o2 o3 hB0 hS
  by_cases he : (dimErr d).2 = 0
  · obtain ⟨e1, hd1, hd2, -⟩ := dimErr_right he
    rw [he, e1, errV_zero] at hck
    have HE : Hid ((dimErr d).2 = 0) := he
    clear he e1
    go_enter Tryd.func57, Tryd.ntmps57
    go_wp2_with fail
    refine hck.mono ?_
    rintro e w1 ⟨rfl, hb1⟩
    have hB : Below w.heap.size w w1 := onB HB0.out hb1
    have hz : w.heap.size + 1 < w1.heap.size := by
      have := hb1.size
      rw [HS.out] at this
      omega
    have h2 : w1.cell? ⟨w.heap.size, 2, none⟩ = some (.slice A d.n cap) := (hb1.cell (p := ⟨w.heap.size, 2, none⟩) (by show w.heap.size < _; rw [HS.out]; omega)).trans H2.out.1
    have h3 : w1.cell? ⟨w.heap.size + 1, 0, none⟩ = some (.string s) := (hb1.cell (p := ⟨w.heap.size + 1, 0, none⟩) (by show w.heap.size + 1 < _; rw [HS.out]; omega)).trans H2.out.2
    obtain ⟨hcap, h0 | ⟨b, o, rfl, hMs⟩⟩ := HM.out.later hB
    · omega
    have hix := index_mems 72 (w.heap.size + 1) find1_in b o d.n cap d.mem (fun j => same (d.mem j).name s) w1 hd2 hMs (fun j w' _ hw' => find1_any (d.mem j) s (w.heap.size + 1) w' (Nat.lt_of_lt_of_le hz hw'.size) ((hw'.cell (p := ⟨w.heap.size + 1, 0, none⟩) hz).trans h3))
    clear hb1 hck hMs h3 HB0 HS H2 HM
    by_cases hk : findFrom (fun j => same (d.mem j).name s) d.n 0 < 0
    · have HK : Hid (findErr d s = (0, 5)) := findErr_none HE.out hk
      generalize findFrom (fun j => same (d.mem j).name s) d.n 0 = f at hix hk
      go_wp2_with fail
      refine hix.mono ?_
      rintro e w2 ⟨rfl, hb2⟩
      go_wp2_with fail
      go_ret2
      exact ⟨by rw [HK.out]; rfl, onB hB hb2⟩
    · have HK : Hid (findErr d s = (findFrom (fun j => same (d.mem j).name s) d.n 0, 0)) := findErr_some HE.out hk
      generalize findFrom (fun j => same (d.mem j).name s) d.n 0 = f at hix hk HK
      go_wp2_with fail
      refine hix.mono ?_
      rintro e w2 ⟨rfl, hb2⟩
      go_wp2_with fail
      go_ret2
      exact ⟨by rw [HK.out]; rfl, onB hB hb2⟩
  · have HK : Hid (findErr d s = (0, (dimErr d).2)) := findErr_dim he
    rw [errV_some he] at hck
    have HE : Hid (errV (dimErr d).2 = .iface 74 (.int .i64 (dimErr d).2)) := errV_some he
    clear he
    generalize (dimErr d).2 = c at hck HK HE
    go_enter Tryd.func57, Tryd.ntmps57
    go_wp2_with fail
    refine hck.mono ?_
    rintro e w1 ⟨rfl, hb1⟩
    go_wp2_with fail
    go_ret2
    exact ⟨by rw [HK.out, HE.out]; rfl, onB HB0.out hb1⟩
end Go.Proofs.YtckjjmljpbibkabDoor
