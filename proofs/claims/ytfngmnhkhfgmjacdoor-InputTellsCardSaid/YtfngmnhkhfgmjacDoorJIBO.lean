/-
  An edit of no entries, as the document does it: what its Edit answers, called in whatever memory, wherever the empty list lies.
-/
import Derived.Test.YtfngmnhkhfgmjacDoorJIBN
namespace Go.Proofs.YtfngmnhkhfgmjacDoor
open Go.ChangeShapes Go.WideShapes Go.ChangeAt Go.RowKit
set_option maxRecDepth 20000
set_option maxHeartbeats 8000000 in
theorem redit_nil (A0 : Option Addr) (cap n : Nat) (Ax : Option Addr) (m cx : Nat) (p : List Int) (N : Int) (lf : Bool) (w : World) (hm : p.length = m) (hP : PlAt w Ax cx p) (hX : EditCalls (ownOX w A0 n cap Ax m cx N false) A0 cap n none 0 0 Ax m cx 0 0 false lf) (hlf : lf = true) (hlo : ¬ N < -1000000) (hhi : ¬ 1000000 < N) :
  Calls Tryd.prog 19 #[.agg #[.slice A0 n cap], .slice none 0 0, .agg #[.slice Ax m cx, .int .i64 N, .bool false]] w fun e w' => (∃ B c zs, e = .returned (.tuple #[.slice B zs.length c, .int .i64 0]) ∧ EnsN w' B c zs ∧ lE zs = [⟨p, N⟩]) ∧ Below w.heap.size w w' := by
 obtain ⟨i0, hi0, hz0, hz1', hz2'⟩ := info_parts Tryd.infoEnt
 have HX : Hid (EditCalls (ownOX w A0 n cap Ax m cx N false) A0 cap n none 0 0 Ax m cx 0 0 false lf) := hX
 have HB0 : Hid (Below w.heap.size w (ownOX w A0 n cap Ax m cx N false)) := ownOX_below ..
 have h1 := hX.place _ (Below.refl _ _)
 have HM : Hid (p.length = m) := hm
 have HP : Hid (PlAt w Ax cx p) := hP
 clear hX hm hP
 subst hlf
 go_enter Tryd.func19, Tryd.ntmps19
 go_wp2_with fail
 refine h1.mono ?_
 rintro e w1 ⟨rfl, hb⟩
 have HB1 : Hid (Below (ownOX w A0 n cap Ax m cx N false).heap.size (ownOX w A0 n cap Ax m cx N false) w1) := hb
 have c0 := (hb.cell (p := ⟨w.heap.size, 0, none⟩) (by show w.heap.size < _; rw [ownOX_size]; omega)).trans (ownOX_o w A0 n cap Ax m cx N false)
 have c1 := (hb.cell (p := ⟨w.heap.size + 1, 0, none⟩) (by show w.heap.size + 1 < _; rw [ownOX_size]; omega)).trans (ownOX_x w A0 n cap Ax m cx N false).1
 have HC2 : Hid (w1.cell? ⟨w.heap.size + 1, 1, none⟩ = some (.int .i64 N)) := (hb.cell (p := ⟨w.heap.size + 1, 1, none⟩) (by show w.heap.size + 1 < _; rw [ownOX_size]; omega)).trans (ownOX_x w A0 n cap Ax m cx N false).2.1
 have HC3 : Hid (w1.cell? ⟨w.heap.size + 1, 2, none⟩ = some (.bool false)) := (hb.cell (p := ⟨w.heap.size + 1, 2, none⟩) (by show w.heap.size + 1 < _; rw [ownOX_size]; omega)).trans (ownOX_x w A0 n cap Ax m cx N false).2.2
 have hz1 : w.heap.size + 1 < w1.heap.size := by have := hb.size; rw [ownOX_size] at this; omega
 have HC0 : Hid (w1.cell? ⟨w.heap.size, 0, none⟩ = some (.slice A0 n cap)) := c0
 have HC1 : Hid (w1.cell? ⟨w.heap.size + 1, 0, none⟩ = some (.slice Ax m cx)) := c1
 have h2 := HX.out.find rfl w1 hb
 clear hb h1
 go_wp2_with fail
 refine h2.mono ?_
 rintro e w2 ⟨rfl, hb⟩
 have HB2 : Hid (Below (ownOX w A0 n cap Ax m cx N false).heap.size (ownOX w A0 n cap Ax m cx N false) w2) := onB HB1.out hb
 have d0 : w2.cell? ⟨w.heap.size, 0, none⟩ = some (.slice A0 n cap) := (hb.cell (p := ⟨w.heap.size, 0, none⟩) (by show w.heap.size < _; omega)).trans HC0.out
 have d1 : w2.cell? ⟨w.heap.size + 1, 0, none⟩ = some (.slice Ax m cx) := (hb.cell (p := ⟨w.heap.size + 1, 0, none⟩) hz1).trans HC1.out
 have HD1 : Hid (w2.cell? ⟨w.heap.size + 1, 0, none⟩ = some (.slice Ax m cx)) := d1
 have HD2 : Hid (w2.cell? ⟨w.heap.size + 1, 1, none⟩ = some (.int .i64 N)) := (hb.cell (p := ⟨w.heap.size + 1, 1, none⟩) hz1).trans HC2.out
 have HD3 : Hid (w2.cell? ⟨w.heap.size + 1, 2, none⟩ = some (.bool false)) := (hb.cell (p := ⟨w.heap.size + 1, 2, none⟩) hz1).trans HC3.out
 have hz2 : w.heap.size + 1 < w2.heap.size := Nat.lt_of_lt_of_le hz1 hb.size
 have h3 := HX.out.leaf rfl w2 HB2.out
 clear hb h2 c0 c1 HC0 HC1 HC2 HC3
 go_wp2_with fail
 refine h3.mono ?_
 rintro e w3 ⟨rfl, hb⟩
 have HB3 : Hid (Below (ownOX w A0 n cap Ax m cx N false).heap.size (ownOX w A0 n cap Ax m cx N false) w3) := onB HB2.out hb
 have f1 : w3.cell? ⟨w.heap.size + 1, 0, none⟩ = some (.slice Ax m cx) := (hb.cell (p := ⟨w.heap.size + 1, 0, none⟩) hz2).trans HD1.out
 have f2 : w3.cell? ⟨w.heap.size + 1, 1, none⟩ = some (.int .i64 N) := (hb.cell (p := ⟨w.heap.size + 1, 1, none⟩) hz2).trans HD2.out
 have f3 : w3.cell? ⟨w.heap.size + 1, 2, none⟩ = some (.bool false) := (hb.cell (p := ⟨w.heap.size + 1, 2, none⟩) hz2).trans HD3.out
 have hz3 : w.heap.size + 1 < w3.heap.size := Nat.lt_of_lt_of_le hz2 hb.size
 clear hb h3 d0 d1 HD1 HD2 HD3
 obtain ⟨w4, hw4⟩ : ∃ w4 : World, w4 = w3 := ⟨_, rfl⟩
 subst hw4
 have hB4 := HB3.out
 have hzW : w.heap.size + 1 < (ownOX w A0 n cap Ax m cx N false).heap.size := by rw [ownOX_size]; omega
 have HB4 : Hid (Below (ownOX w A0 n cap Ax m cx N false).heap.size (ownOX w A0 n cap Ax m cx N false) w4) := hB4
 have g1 : w4.cell? ⟨w.heap.size + 1, 0, none⟩ = some (.slice Ax m cx) := (hB4.cell (p := ⟨w.heap.size + 1, 0, none⟩) hzW).trans (ownOX_x w A0 n cap Ax m cx N false).1
 have g2 : w4.cell? ⟨w.heap.size + 1, 1, none⟩ = some (.int .i64 N) := (hB4.cell (p := ⟨w.heap.size + 1, 1, none⟩) hzW).trans (ownOX_x w A0 n cap Ax m cx N false).2.1
 have g3 : w4.cell? ⟨w.heap.size + 1, 2, none⟩ = some (.bool false) := (hB4.cell (p := ⟨w.heap.size + 1, 2, none⟩) hzW).trans (ownOX_x w A0 n cap Ax m cx N false).2.2
 clear hB4 f1 f2 f3
 have hbe := ownEn_below w4 Ax m cx N 77
 have HOe : Hid ((ownEn w4 Ax m cx N 77).ownsRow (ownOX w A0 n cap Ax m cx N false).heap.size 77 2 (.slice none 0 0) 0 []) := World.ownsRow_nil _ _ _ _
 have HBe : Hid (Below (ownOX w A0 n cap Ax m cx N false).heap.size (ownOX w A0 n cap Ax m cx N false) (ownEn w4 Ax m cx N 77)) := onB HB4.out hbe
 have HAt : Hid (∀ k u, (cellsE [⟨⟨p, N⟩, Ax, cx⟩])[k]? = some u → (ownEn w4 Ax m cx N 77).cell? ((⟨w4.heap.size, 0, none⟩ : Addr).add k) = some u) := fun k u hk => by
  have hh : (ownEn w4 Ax m cx N 77).heap[w4.heap.size]? = some (.cells #[.slice Ax m cx, .int .i64 N] 77 (0, 0)) := heap_alloc_new w4 _
  rw [plain_add, Nat.zero_add, Lib.cell_of_heap hh]
  simpa [cellsE, HM.out] using hk
 clear hbe
 go_wp2_with (at_builtin; refine wpList_append_own _ rfl _ _ 43 rfl (ownOX w A0 n cap Ax m cx N false).heap.size 77 i0 (.agg #[.slice none 0 0, .int .i64 0]) 2 32 Tryd.underlying43 hi0 hz0 hz1' hz2' rfl (by decide) _ _ _ rfl HOe.out ⟨w4.heap.size, 0, none⟩ 1 1 (cellsE [⟨⟨p, N⟩, Ax, cx⟩]) rfl rfl HAt.out (cellsE_one _) ?qd4 ?qd5 HBe.out.size ?_)
 case qd4 => simp only [maxLen]; omega
 case qd5 => omega
 intro v2 w5 hown2 hgrow2 _
 have ho2 : w5.ownsRow (ownOX w A0 n cap Ax m cx N false).heap.size 77 2 v2 1 (cellsE [⟨⟨p, N⟩, Ax, cx⟩]) := by simpa using hown2
 have HO2 : Hid (w5.ownsRow (ownOX w A0 n cap Ax m cx N false).heap.size 77 2 v2 1 (cellsE [⟨⟨p, N⟩, Ax, cx⟩])) := ho2
 have HB5 : Hid (Below (ownOX w A0 n cap Ax m cx N false).heap.size (ownOX w A0 n cap Ax m cx N false) w5) := own_on HBe.out HBe.out.size HOe.out hgrow2
 clear hown2 hgrow2 ho2 g1 g2 g3
 go_wp2_with (at_builtin; refine wpList_append_own_none rfl _ _ 43 rfl (ownOX w A0 n cap Ax m cx N false).heap.size 77 i0 2 Tryd.underlying43 hi0 _ 1 _ rfl HO2.out rfl ?_)
 obtain ⟨w6, hw6⟩ : ∃ w6 : World, w6 = w5 := ⟨_, rfl⟩
 subst hw6
 have HB6 : Hid (Below w.heap.size w w6) := onB HB0.out HB5.out
 have ho3 := HO2.out
 obtain ⟨B, c, hv3, hV⟩ := ens_own (zs := [⟨⟨p, N⟩, Ax, cx⟩]) ho3 (fun y hy => by rw [List.mem_singleton.1 hy]; exact HP.out.later HB6.out)
 have HV : Hid (EnsN w6 B c [⟨⟨p, N⟩, Ax, cx⟩]) := hV
 rw [hv3]
 clear ho3 hV hv3
 go_wp2_with fail
 go_ret2
 exact ⟨⟨B, c, _, rfl, HV.out, rfl⟩, HB6.out⟩
set_option maxHeartbeats 8000000 in
theorem redit_some (A0 : Option Addr) (cap n : Nat) (b o : Nat) (sp : Option Nat) (ce : Nat) (Ax : Option Addr) (m cx : Nat) (p : List Int) (N : Int) (lf : Bool) (w : World) (hm : p.length = m) (hP : PlAt w Ax cx p) (hX : EditCalls (ownOX w A0 n cap Ax m cx N false) A0 cap n (some ⟨b, o, sp⟩) 0 ce Ax m cx 0 0 false lf) (hlf : lf = true) (hlo : ¬ N < -1000000) (hhi : ¬ 1000000 < N) :
  Calls Tryd.prog 19 #[.agg #[.slice A0 n cap], .slice (some ⟨b, o, sp⟩) 0 ce, .agg #[.slice Ax m cx, .int .i64 N, .bool false]] w fun e w' => (∃ B c zs, e = .returned (.tuple #[.slice B zs.length c, .int .i64 0]) ∧ EnsN w' B c zs ∧ lE zs = [⟨p, N⟩]) ∧ Below w.heap.size w w' := by
 obtain ⟨i0, hi0, hz0, hz1', hz2'⟩ := info_parts Tryd.infoEnt
 have HX : Hid (EditCalls (ownOX w A0 n cap Ax m cx N false) A0 cap n (some ⟨b, o, sp⟩) 0 ce Ax m cx 0 0 false lf) := hX
 have HB0 : Hid (Below w.heap.size w (ownOX w A0 n cap Ax m cx N false)) := ownOX_below ..
 have h1 := hX.place _ (Below.refl _ _)
 have HM : Hid (p.length = m) := hm
 have HP : Hid (PlAt w Ax cx p) := hP
 clear hX hm hP
 subst hlf
 go_enter Tryd.func19, Tryd.ntmps19
 go_wp2_with fail
 refine h1.mono ?_
 rintro e w1 ⟨rfl, hb⟩
 have HB1 : Hid (Below (ownOX w A0 n cap Ax m cx N false).heap.size (ownOX w A0 n cap Ax m cx N false) w1) := hb
 have c0 := (hb.cell (p := ⟨w.heap.size, 0, none⟩) (by show w.heap.size < _; rw [ownOX_size]; omega)).trans (ownOX_o w A0 n cap Ax m cx N false)
 have c1 := (hb.cell (p := ⟨w.heap.size + 1, 0, none⟩) (by show w.heap.size + 1 < _; rw [ownOX_size]; omega)).trans (ownOX_x w A0 n cap Ax m cx N false).1
 have HC2 : Hid (w1.cell? ⟨w.heap.size + 1, 1, none⟩ = some (.int .i64 N)) := (hb.cell (p := ⟨w.heap.size + 1, 1, none⟩) (by show w.heap.size + 1 < _; rw [ownOX_size]; omega)).trans (ownOX_x w A0 n cap Ax m cx N false).2.1
 have HC3 : Hid (w1.cell? ⟨w.heap.size + 1, 2, none⟩ = some (.bool false)) := (hb.cell (p := ⟨w.heap.size + 1, 2, none⟩) (by show w.heap.size + 1 < _; rw [ownOX_size]; omega)).trans (ownOX_x w A0 n cap Ax m cx N false).2.2
 have hz1 : w.heap.size + 1 < w1.heap.size := by have := hb.size; rw [ownOX_size] at this; omega
 have HC0 : Hid (w1.cell? ⟨w.heap.size, 0, none⟩ = some (.slice A0 n cap)) := c0
 have HC1 : Hid (w1.cell? ⟨w.heap.size + 1, 0, none⟩ = some (.slice Ax m cx)) := c1
 have h2 := HX.out.find rfl w1 hb
 clear hb h1
 go_wp2_with fail
 refine h2.mono ?_
 rintro e w2 ⟨rfl, hb⟩
 have HB2 : Hid (Below (ownOX w A0 n cap Ax m cx N false).heap.size (ownOX w A0 n cap Ax m cx N false) w2) := onB HB1.out hb
 have d0 : w2.cell? ⟨w.heap.size, 0, none⟩ = some (.slice A0 n cap) := (hb.cell (p := ⟨w.heap.size, 0, none⟩) (by show w.heap.size < _; omega)).trans HC0.out
 have d1 : w2.cell? ⟨w.heap.size + 1, 0, none⟩ = some (.slice Ax m cx) := (hb.cell (p := ⟨w.heap.size + 1, 0, none⟩) hz1).trans HC1.out
 have HD1 : Hid (w2.cell? ⟨w.heap.size + 1, 0, none⟩ = some (.slice Ax m cx)) := d1
 have HD2 : Hid (w2.cell? ⟨w.heap.size + 1, 1, none⟩ = some (.int .i64 N)) := (hb.cell (p := ⟨w.heap.size + 1, 1, none⟩) hz1).trans HC2.out
 have HD3 : Hid (w2.cell? ⟨w.heap.size + 1, 2, none⟩ = some (.bool false)) := (hb.cell (p := ⟨w.heap.size + 1, 2, none⟩) hz1).trans HC3.out
 have hz2 : w.heap.size + 1 < w2.heap.size := Nat.lt_of_lt_of_le hz1 hb.size
 have h3 := HX.out.leaf rfl w2 HB2.out
 clear hb h2 c0 c1 HC0 HC1 HC2 HC3
 go_wp2_with fail
 refine h3.mono ?_
 rintro e w3 ⟨rfl, hb⟩
 have HB3 : Hid (Below (ownOX w A0 n cap Ax m cx N false).heap.size (ownOX w A0 n cap Ax m cx N false) w3) := onB HB2.out hb
 have f1 : w3.cell? ⟨w.heap.size + 1, 0, none⟩ = some (.slice Ax m cx) := (hb.cell (p := ⟨w.heap.size + 1, 0, none⟩) hz2).trans HD1.out
 have f2 : w3.cell? ⟨w.heap.size + 1, 1, none⟩ = some (.int .i64 N) := (hb.cell (p := ⟨w.heap.size + 1, 1, none⟩) hz2).trans HD2.out
 have f3 : w3.cell? ⟨w.heap.size + 1, 2, none⟩ = some (.bool false) := (hb.cell (p := ⟨w.heap.size + 1, 2, none⟩) hz2).trans HD3.out
 have hz3 : w.heap.size + 1 < w3.heap.size := Nat.lt_of_lt_of_le hz2 hb.size
 clear hb h3 d0 d1 HD1 HD2 HD3
 obtain ⟨w4, hw4⟩ : ∃ w4 : World, w4 = w3 := ⟨_, rfl⟩
 subst hw4
 have hB4 := HB3.out
 have hzW : w.heap.size + 1 < (ownOX w A0 n cap Ax m cx N false).heap.size := by rw [ownOX_size]; omega
 have HB4 : Hid (Below (ownOX w A0 n cap Ax m cx N false).heap.size (ownOX w A0 n cap Ax m cx N false) w4) := hB4
 have g1 : w4.cell? ⟨w.heap.size + 1, 0, none⟩ = some (.slice Ax m cx) := (hB4.cell (p := ⟨w.heap.size + 1, 0, none⟩) hzW).trans (ownOX_x w A0 n cap Ax m cx N false).1
 have g2 : w4.cell? ⟨w.heap.size + 1, 1, none⟩ = some (.int .i64 N) := (hB4.cell (p := ⟨w.heap.size + 1, 1, none⟩) hzW).trans (ownOX_x w A0 n cap Ax m cx N false).2.1
 have g3 : w4.cell? ⟨w.heap.size + 1, 2, none⟩ = some (.bool false) := (hB4.cell (p := ⟨w.heap.size + 1, 2, none⟩) hzW).trans (ownOX_x w A0 n cap Ax m cx N false).2.2
 clear hB4 f1 f2 f3
 have hbe := ownEn_below w4 Ax m cx N 77
 have HOe : Hid ((ownEn w4 Ax m cx N 77).ownsRow (ownOX w A0 n cap Ax m cx N false).heap.size 77 2 (.slice none 0 0) 0 []) := World.ownsRow_nil _ _ _ _
 have HBe : Hid (Below (ownOX w A0 n cap Ax m cx N false).heap.size (ownOX w A0 n cap Ax m cx N false) (ownEn w4 Ax m cx N 77)) := onB HB4.out hbe
 have HAt : Hid (∀ k u, (cellsE [⟨⟨p, N⟩, Ax, cx⟩])[k]? = some u → (ownEn w4 Ax m cx N 77).cell? ((⟨w4.heap.size, 0, none⟩ : Addr).add k) = some u) := fun k u hk => by
  have hh : (ownEn w4 Ax m cx N 77).heap[w4.heap.size]? = some (.cells #[.slice Ax m cx, .int .i64 N] 77 (0, 0)) := heap_alloc_new w4 _
  rw [plain_add, Nat.zero_add, Lib.cell_of_heap hh]
  simpa [cellsE, HM.out] using hk
 clear hbe
 go_wp2_with (at_builtin; refine wpList_append_own _ rfl _ _ 43 rfl (ownOX w A0 n cap Ax m cx N false).heap.size 77 i0 (.agg #[.slice none 0 0, .int .i64 0]) 2 32 Tryd.underlying43 hi0 hz0 hz1' hz2' rfl (by decide) _ _ _ rfl HOe.out ⟨w4.heap.size, 0, none⟩ 1 1 (cellsE [⟨⟨p, N⟩, Ax, cx⟩]) rfl rfl HAt.out (cellsE_one _) ?qd4 ?qd5 HBe.out.size ?_)
 case qd4 => simp only [maxLen]; omega
 case qd5 => omega
 intro v2 w5 hown2 hgrow2 _
 have ho2 : w5.ownsRow (ownOX w A0 n cap Ax m cx N false).heap.size 77 2 v2 1 (cellsE [⟨⟨p, N⟩, Ax, cx⟩]) := by simpa using hown2
 have HO2 : Hid (w5.ownsRow (ownOX w A0 n cap Ax m cx N false).heap.size 77 2 v2 1 (cellsE [⟨⟨p, N⟩, Ax, cx⟩])) := ho2
 have HB5 : Hid (Below (ownOX w A0 n cap Ax m cx N false).heap.size (ownOX w A0 n cap Ax m cx N false) w5) := own_on HBe.out HBe.out.size HOe.out hgrow2
 clear hown2 hgrow2 ho2 g1 g2 g3
 go_wp2_with (at_builtin; refine wpList_append_own _ rfl _ _ 43 rfl (ownOX w A0 n cap Ax m cx N false).heap.size 77 i0 (.agg #[.slice none 0 0, .int .i64 0]) 2 32 Tryd.underlying43 hi0 hz0 hz1' hz2' rfl (by decide) _ _ _ rfl HO2.out ⟨b, o, sp⟩ 0 ce [] rfl rfl (fun k u hk => by simp at hk) (fun u hu => by cases hu) ?qe4 ?qe5 HB5.out.size ?_)
 case qe4 => simp only [maxLen]; omega
 case qe5 => omega
 intro v3 w6 hown3 hgrow3 _
 have HB6 : Hid (Below w.heap.size w w6) := onB HB0.out (own_on HB5.out HB5.out.size HO2.out hgrow3)
 have ho3 : w6.ownsRow (ownOX w A0 n cap Ax m cx N false).heap.size 77 2 v3 1 (cellsE [⟨⟨p, N⟩, Ax, cx⟩]) := by simpa using hown3
 clear hown3 hgrow3
 obtain ⟨B, c, hv3, hV⟩ := ens_own (zs := [⟨⟨p, N⟩, Ax, cx⟩]) ho3 (fun y hy => by rw [List.mem_singleton.1 hy]; exact HP.out.later HB6.out)
 have HV : Hid (EnsN w6 B c [⟨⟨p, N⟩, Ax, cx⟩]) := hV
 rw [hv3]
 clear ho3 hV hv3
 go_wp2_with fail
 go_ret2
 exact ⟨⟨B, c, _, rfl, HV.out, rfl⟩, HB6.out⟩
end Go.Proofs.YtfngmnhkhfgmjacDoor
