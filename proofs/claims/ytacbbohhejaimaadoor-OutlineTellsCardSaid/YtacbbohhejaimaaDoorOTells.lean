/-
  The walk of tallylaw1.OutlineTells: which dim of an outline is wrong, in which member, and how; where a member of a name is; what is wrong with a name: the program tells what the document tells, of every outline, dim and text.
-/
import Derived.Test.YtacbbohhejaimaaDoorRefO3
import Derived.Test.YtacbbohhejaimaaDoorTold
namespace Go.Proofs.YtacbbohhejaimaaDoor
open Go.ChangeShapes Go.WideShapes Go.ChangeAt Go.RowKit
set_option maxRecDepth 20000

theorem same_err (c : Int) (w : World) (hk : Kind0 w) : Calls Tryd.prog 7 #[errV c, .int .i64 c] w fun e w' => e = .returned (.bool true) ∧ Below w.heap.size w w' := by
  by_cases h : c = 0
  · subst h
    have := same_nil 0 w
    simpa [errV] using this
  · rw [errV_some h]
    have := same_hit c c w hk
    simpa using this

def Ctx (q : Nat) (A0 : Option Addr) (cap n : Nat) (D : Nat → Dm) (A : Nat → Option Addr) (C : Nat → Nat) (d : Dm) (Ad : Option Addr) (cd : Nat) (w : World) : Prop :=
  q + 1 < w.heap.size ∧ w.cell? ⟨q, 0, none⟩ = some (.slice A0 n cap) ∧ (w.cell? ⟨q + 1, 0, none⟩ = some (.string d.name) ∧ w.cell? ⟨q + 1, 1, none⟩ = some (.int .i64 d.solve) ∧ w.cell? ⟨q + 1, 2, none⟩ = some (.slice Ad d.n cd)) ∧ DimsV w A0 cap n D A C ∧ MemsV w Ad cd d.n d.mem ∧ Kind0 w
theorem Ctx.later {q : Nat} {A0 : Option Addr} {cap n : Nat} {D : Nat → Dm} {A : Nat → Option Addr} {C : Nat → Nat} {d : Dm} {Ad : Option Addr} {cd : Nat} {w w' : World} (h : Ctx q A0 cap n D A C d Ad cd w) (hB : Below w.heap.size w w') : Ctx q A0 cap n D A C d Ad cd w' := by
  obtain ⟨h1, h2, ⟨h3, h4, h5⟩, h6, h7, h8⟩ := h
  have hq : q < w.heap.size := by omega
  exact ⟨Nat.lt_of_lt_of_le h1 hB.size, (hB.cell (p := ⟨q, 0, none⟩) hq).trans h2, ⟨(hB.cell (p := ⟨q + 1, 0, none⟩) h1).trans h3, (hB.cell (p := ⟨q + 1, 1, none⟩) h1).trans h4, (hB.cell (p := ⟨q + 1, 2, none⟩) h1).trans h5⟩, h6.later hB, h7.later hB, h8.later hB⟩
theorem Ctx.start {A0 : Option Addr} {cap n : Nat} {D : Nat → Dm} {A : Nat → Option Addr} {C : Nat → Nat} {d : Dm} {Ad : Option Addr} {cd : Nat} {w : World} (T T' : Nat) (hD : DimsV w A0 cap n D A C) (hM : MemsV w Ad cd d.n d.mem) (hk : Kind0 w) :
    Ctx w.heap.size A0 cap n D A C d Ad cd (ownDim (ownOut w A0 n cap T) d Ad cd T') ∧ Below w.heap.size w (ownDim (ownOut w A0 n cap T) d Ad cd T') := by
  have hB1 := ownOut_below w A0 n cap T
  have hS1 := ownOut_size w A0 n cap T
  have hB2 := ownDim_below (ownOut w A0 n cap T) d Ad cd T'
  have hS2 := ownDim_size (ownOut w A0 n cap T) d Ad cd T'
  have hB := onB hB1 hB2
  have hA := ownDim_at (ownOut w A0 n cap T) d Ad cd T'
  rw [hS1] at hA
  exact ⟨⟨by omega, (hB2.cell (p := ⟨w.heap.size, 0, none⟩) (by show w.heap.size < _; omega)).trans (ownOut_at w A0 n cap T), hA, hD.later hB, hM.later hB, hk.later hB⟩, hB⟩

set_option maxHeartbeats 8000000 in
theorem otells_any (A0 : Option Addr) (cap n : Nat) (D : Nat → Dm) (A : Nat → Option Addr) (C : Nat → Nat) (d : Dm) (Ad : Option Addr) (cd : Nat) (s : ByteArray) (w : World) (hD : DimsV w A0 cap n D A C) (hM : MemsV w Ad cd d.n d.mem) (hk : Kind0 w) :
    Calls Tryd.prog 5 #[.agg #[.slice A0 n cap], dimV d Ad cd, .string s] w fun e w' => e = .returned (.bool true) ∧ Below w.heap.size w w' := by
  obtain ⟨hX0, hB0⟩ := Ctx.start 44 47 hD hM hk
  obtain ⟨W, hW⟩ : ∃ W, W = ownDim (ownOut w A0 n cap 44) d Ad cd 47 := ⟨_, rfl⟩
  rw [← hW] at hX0 hB0
  have HX0 : Hid (Ctx w.heap.size A0 cap n D A C d Ad cd W) := hX0
  have HB0 : Hid (Below w.heap.size w W) := hB0
  have HW : Hid (W = ownDim (ownOut w A0 n cap 44) d Ad cd 47) := hW
  have hro : Calls Tryd.prog 22 #[.agg #[.slice A0 n cap]] W fun e w' => e = .returned (.tuple #[.int .i64 (allErr D n).1, .int .i64 (allErr D n).2.1, .int .i64 (allErr D n).2.2]) ∧ Below W.heap.size W w' := routline_any A0 cap n D A C W hX0.2.2.2.1
  rw [hW] at hro
  have HFr : Hid ((dimErr d).2 = 0 → d.n ≤ 12) := fun h => (dimErr_right h).2.2.1
  clear hD hM hk hX0 hB0 hW
  unfold dimV
  obtain ⟨a1, ha1⟩ : ∃ x, (allErr D n).1 = x := ⟨_, rfl⟩
  obtain ⟨a2, ha2⟩ : ∃ x, (allErr D n).2.1 = x := ⟨_, rfl⟩
  obtain ⟨a3, ha3⟩ : ∃ x, (allErr D n).2.2 = x := ⟨_, rfl⟩
  obtain ⟨d1, hd1⟩ : ∃ x, (dimErr d).1 = x := ⟨_, rfl⟩
  obtain ⟨d2, hd2⟩ : ∃ x, (dimErr d).2 = x := ⟨_, rfl⟩
  have HV : Hid ((allErr D n).1 = a1 ∧ (allErr D n).2.1 = a2 ∧ (allErr D n).2.2 = a3 ∧ (dimErr d).1 = d1 ∧ (dimErr d).2 = d2) := ⟨ha1, ha2, ha3, hd1, hd2⟩
  rw [ha1, ha2, ha3] at hro
  clear ha1 ha2 ha3 hd1 hd2
  go_enter Tryd.func5, Tryd.ntmps5
  go_wp2_with fail
  refine hro.mono ?_
  rintro e w1 ⟨rfl, hb⟩
  rw [← HW.out] at hb
  have HX1 : Hid (Ctx w.heap.size A0 cap n D A C d Ad cd w1) := HX0.out.later hb
  have HB1 : Hid (Below w.heap.size w w1) := onB HB0.out hb
  have c0 := HX1.out.2.1
  obtain ⟨c1, c2, c3⟩ := HX1.out.2.2.1
  have hal := all_any A0 cap n D A C w1 HX1.out.2.2.2.1
  rw [HV.out.1, HV.out.2.1, HV.out.2.2.1] at hal
  clear hb hro
  go_wp2_with fail
  refine hal.mono ?_
  rintro e w2 ⟨rfl, hb⟩
  have HX2 : Hid (Ctx w.heap.size A0 cap n D A C d Ad cd w2) := HX1.out.later hb
  have HB2 : Hid (Below w.heap.size w w2) := onB HB1.out hb
  clear c0 c1 c2 c3
  have c0 := HX2.out.2.1
  obtain ⟨c1, c2, c3⟩ := HX2.out.2.2.1
  clear hb
  have hn2 := same_err a3 w2 HX2.out.2.2.2.2.2
  clear hal
  go_wp2_with fail
  refine hn2.mono ?_
  rintro e w3 ⟨rfl, hb⟩
  have HX3 : Hid (Ctx w.heap.size A0 cap n D A C d Ad cd w3) := HX2.out.later hb
  have HB3 : Hid (Below w.heap.size w w3) := onB HB2.out hb
  clear c0 c1 c2 c3
  have c0 := HX3.out.2.1
  obtain ⟨c1, c2, c3⟩ := HX3.out.2.2.1
  clear hb
  have hn3 := rdim_any d Ad cd w3 HX3.out.2.2.2.2.1
  unfold dimV at hn3
  rw [HV.out.2.2.2.1, HV.out.2.2.2.2] at hn3
  clear hn2
  go_wp2_with fail
  refine hn3.mono ?_
  rintro e w4 ⟨rfl, hb⟩
  have HX4 : Hid (Ctx w.heap.size A0 cap n D A C d Ad cd w4) := HX3.out.later hb
  have HB4 : Hid (Below w.heap.size w w4) := onB HB3.out hb
  clear c0 c1 c2 c3
  have c0 := HX4.out.2.1
  obtain ⟨c1, c2, c3⟩ := HX4.out.2.2.1
  clear hb
  have hn4 := dcheck_any d Ad cd w4 HX4.out.2.2.2.2.1
  unfold dimV at hn4
  rw [HV.out.2.2.2.1, HV.out.2.2.2.2] at hn4
  clear hn3
  go_wp2_with fail
  refine hn4.mono ?_
  rintro e w5 ⟨rfl, hb⟩
  have HX5 : Hid (Ctx w.heap.size A0 cap n D A C d Ad cd w5) := HX4.out.later hb
  have HB5 : Hid (Below w.heap.size w w5) := onB HB4.out hb
  clear c0 c1 c2 c3
  have c0 := HX5.out.2.1
  obtain ⟨c1, c2, c3⟩ := HX5.out.2.2.1
  clear hb
  have hn5 := same_err d2 w5 HX5.out.2.2.2.2.2
  clear hn4
  go_wp2_with fail
  by_cases he : d2 = 0
  · have HE : Hid ((dimErr d).2 = 0) := by show _ = _; rw [HV.out.2.2.2.2, he]
    subst he
    refine hn5.mono ?_
    rintro e w6 ⟨rfl, hb⟩
    have HX6 : Hid (Ctx w.heap.size A0 cap n D A C d Ad cd w6) := HX5.out.later hb
    have HB6 : Hid (Below w.heap.size w w6) := onB HB5.out hb
    clear c0 c1 c2 c3
    have c0 := HX6.out.2.1
    obtain ⟨c1, c2, c3⟩ := HX6.out.2.2.1
    clear hb
    have hw6 := where_any d Ad cd s w6 (HFr.out HE.out) HX6.out.2.2.2.2.1
    unfold dimV at hw6
    obtain ⟨f, hf⟩ : ∃ x, findFrom (fun j => same (d.mem j).name s) d.n 0 = x := ⟨_, rfl⟩
    rw [hf] at hw6
    have HFF : Hid (findFrom (fun j => same (d.mem j).name s) d.n 0 = f) := hf
    clear hn5 hf
    go_wp2_with fail
    by_cases hf0 : f < 0
    · have HR : Hid (findErr d s = (0, 5)) := findErr_none HE.out (by rw [HFF.out]; exact hf0)
      refine hw6.mono ?_
      rintro e w7 ⟨rfl, hb⟩
      have HX7 : Hid (Ctx w.heap.size A0 cap n D A C d Ad cd w7) := HX6.out.later hb
      have HB7 : Hid (Below w.heap.size w w7) := onB HB6.out hb
      clear c0 c1 c2 c3
      have c0 := HX7.out.2.1
      obtain ⟨c1, c2, c3⟩ := HX7.out.2.2.1
      clear hb
      have hf7 := find_any d Ad cd s w7 HX7.out.2.2.2.2.1
      unfold dimV at hf7
      rw [HR.out] at hf7
      clear hw6
      go_wp2_with fail
      refine hf7.mono ?_
      rintro e w8 ⟨rfl, hb⟩
      have HX8 : Hid (Ctx w.heap.size A0 cap n D A C d Ad cd w8) := HX7.out.later hb
      have HB8 : Hid (Below w.heap.size w w8) := onB HB7.out hb
      clear c0 c1 c2 c3
      have c0 := HX8.out.2.1
      obtain ⟨c1, c2, c3⟩ := HX8.out.2.2.1
      clear hb
      have hg8 := same_err 5 w8 HX8.out.2.2.2.2.2
      clear hf7
      go_wp2_with fail
      refine hg8.mono ?_
      rintro e w9 ⟨rfl, hb⟩
      have HX9 : Hid (Ctx w.heap.size A0 cap n D A C d Ad cd w9) := HX8.out.later hb
      have HB9 : Hid (Below w.heap.size w w9) := onB HB8.out hb
      clear c0 c1 c2 c3
      have c0 := HX9.out.2.1
      obtain ⟨c1, c2, c3⟩ := HX9.out.2.2.1
      clear hb
      have hh9 := name_any s w9
      clear hg8
      go_wp2_with fail
      refine hh9.mono ?_
      rintro e w10 ⟨rfl, hb⟩
      have HX10 : Hid (Ctx w.heap.size A0 cap n D A C d Ad cd w10) := HX9.out.later hb
      have HB10 : Hid (Below w.heap.size w w10) := onB HB9.out hb
      clear c0 c1 c2 c3
      have c0 := HX10.out.2.1
      obtain ⟨c1, c2, c3⟩ := HX10.out.2.2.1
      clear hb
      have hr := rname_any s
      clear hh9
      go_wp2_with fail
      refine (hr _).mono ?_
      rintro e wq ⟨rfl, rfl⟩
      have hs := same_err (nameErr s) wq HX10.out.2.2.2.2.2
      clear hr
      go_wp2_with fail
      refine hs.mono ?_
      rintro e wz ⟨rfl, hb⟩
      have hBz : Below w.heap.size w wz := onB HB10.out hb
      clear hb hs c0 c1 c2 c3
      go_wp2
      go_ret
      exact ⟨by simp, hBz⟩
    · have HR : Hid (findErr d s = (f, 0)) := by show _ = _; rw [findErr_some HE.out (by rw [HFF.out]; exact hf0), HFF.out]
      refine hw6.mono ?_
      rintro e w7 ⟨rfl, hb⟩
      have HX7 : Hid (Ctx w.heap.size A0 cap n D A C d Ad cd w7) := HX6.out.later hb
      have HB7 : Hid (Below w.heap.size w w7) := onB HB6.out hb
      clear c0 c1 c2 c3
      have c0 := HX7.out.2.1
      obtain ⟨c1, c2, c3⟩ := HX7.out.2.2.1
      clear hb
      have hf7 := find_any d Ad cd s w7 HX7.out.2.2.2.2.1
      unfold dimV at hf7
      rw [HR.out] at hf7
      clear hw6
      go_wp2_with fail
      refine hf7.mono ?_
      rintro e w8 ⟨rfl, hb⟩
      have HX8 : Hid (Ctx w.heap.size A0 cap n D A C d Ad cd w8) := HX7.out.later hb
      have HB8 : Hid (Below w.heap.size w w8) := onB HB7.out hb
      clear c0 c1 c2 c3
      have c0 := HX8.out.2.1
      obtain ⟨c1, c2, c3⟩ := HX8.out.2.2.1
      clear hb
      have hg8 := same_err 0 w8 HX8.out.2.2.2.2.2
      clear hf7
      go_wp2_with fail
      refine hg8.mono ?_
      rintro e w9 ⟨rfl, hb⟩
      have HX9 : Hid (Ctx w.heap.size A0 cap n D A C d Ad cd w9) := HX8.out.later hb
      have HB9 : Hid (Below w.heap.size w w9) := onB HB8.out hb
      clear c0 c1 c2 c3
      have c0 := HX9.out.2.1
      obtain ⟨c1, c2, c3⟩ := HX9.out.2.2.1
      clear hb
      have hh9 := name_any s w9
      clear hg8
      go_wp2_with fail
      refine hh9.mono ?_
      rintro e w10 ⟨rfl, hb⟩
      have HX10 : Hid (Ctx w.heap.size A0 cap n D A C d Ad cd w10) := HX9.out.later hb
      have HB10 : Hid (Below w.heap.size w w10) := onB HB9.out hb
      clear c0 c1 c2 c3
      have c0 := HX10.out.2.1
      obtain ⟨c1, c2, c3⟩ := HX10.out.2.2.1
      clear hb
      have hr := rname_any s
      clear hh9
      go_wp2_with fail
      refine (hr _).mono ?_
      rintro e wq ⟨rfl, rfl⟩
      have hs := same_err (nameErr s) wq HX10.out.2.2.2.2.2
      clear hr
      go_wp2_with fail
      refine hs.mono ?_
      rintro e wz ⟨rfl, hb⟩
      have hBz : Below w.heap.size w wz := onB HB10.out hb
      clear hb hs c0 c1 c2 c3
      go_wp2
      go_ret
      exact ⟨by simp, hBz⟩
  · have heq : (d2 == 0) = false := by simpa using he
    have HR : Hid (findErr d s = (0, d2)) := by show _ = _; rw [findErr_dim (by rw [HV.out.2.2.2.2]; exact he), HV.out.2.2.2.2]
    clear he
    refine hn5.mono ?_
    rintro e w6 ⟨rfl, hb⟩
    have HX6 : Hid (Ctx w.heap.size A0 cap n D A C d Ad cd w6) := HX5.out.later hb
    have HB6 : Hid (Below w.heap.size w w6) := onB HB5.out hb
    clear c0 c1 c2 c3
    have c0 := HX6.out.2.1
    obtain ⟨c1, c2, c3⟩ := HX6.out.2.2.1
    clear hb
    have hf6 := find_any d Ad cd s w6 HX6.out.2.2.2.2.1
    unfold dimV at hf6
    rw [HR.out] at hf6
    clear hn5
    go_wp2_with fail
    refine hf6.mono ?_
    rintro e w7 ⟨rfl, hb⟩
    have HX7 : Hid (Ctx w.heap.size A0 cap n D A C d Ad cd w7) := HX6.out.later hb
    have HB7 : Hid (Below w.heap.size w w7) := onB HB6.out hb
    clear c0 c1 c2 c3
    have c0 := HX7.out.2.1
    obtain ⟨c1, c2, c3⟩ := HX7.out.2.2.1
    clear hb
    have hg7 := same_err d2 w7 HX7.out.2.2.2.2.2
    clear hf6
    go_wp2_with fail
    refine hg7.mono ?_
    rintro e w8 ⟨rfl, hb⟩
    have HX8 : Hid (Ctx w.heap.size A0 cap n D A C d Ad cd w8) := HX7.out.later hb
    have HB8 : Hid (Below w.heap.size w w8) := onB HB7.out hb
    clear c0 c1 c2 c3
    have c0 := HX8.out.2.1
    obtain ⟨c1, c2, c3⟩ := HX8.out.2.2.1
    clear hb
    have hh8 := name_any s w8
    clear hg7
    go_wp2_with fail
    refine hh8.mono ?_
    rintro e w9 ⟨rfl, hb⟩
    have HX9 : Hid (Ctx w.heap.size A0 cap n D A C d Ad cd w9) := HX8.out.later hb
    have HB9 : Hid (Below w.heap.size w w9) := onB HB8.out hb
    clear c0 c1 c2 c3
    have c0 := HX9.out.2.1
    obtain ⟨c1, c2, c3⟩ := HX9.out.2.2.1
    clear hb
    have hr := rname_any s
    clear hh8
    go_wp2_with fail
    refine (hr _).mono ?_
    rintro e wq ⟨rfl, rfl⟩
    have hs := same_err (nameErr s) wq HX9.out.2.2.2.2.2
    clear hr
    go_wp2_with fail
    refine hs.mono ?_
    rintro e wz ⟨rfl, hb⟩
    have hBz : Below w.heap.size w wz := onB HB9.out hb
    clear hb hs c0 c1 c2 c3
    go_wp2
    go_ret
    exact ⟨by simp, hBz⟩
end Go.Proofs.YtacbbohhejaimaaDoor
