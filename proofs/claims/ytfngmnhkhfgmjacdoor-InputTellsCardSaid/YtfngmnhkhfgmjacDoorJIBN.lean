/-
  An edit of entries that is right, as the document does it: what its Edit answers, called in whatever memory.
-/
import Derived.Test.YtfngmnhkhfgmjacDoorJIBM
namespace Go.Proofs.YtfngmnhkhfgmjacDoor
open Go.ChangeShapes Go.WideShapes Go.ChangeAt Go.RowKit
set_option maxRecDepth 20000
theorem zs_set (xs : List EnL) (x : EnL) (i j : Nat) : cellsE (xs.take i ++ x :: xs.drop j) = cellsE (xs.take i) ++ cellsE [x] ++ cellsE (xs.drop j) := by
 rw [show x :: xs.drop j = [x] ++ xs.drop j from rfl, cellsE_append, cellsE_append, List.append_assoc]
structure EditGood (w : World) (b o ce : Nat) (xs : List EnL) (Ax : Option Addr) (cx : Nat) (p : List Int) (i j : Nat) : Prop where
 cells : ∀ w', Below w.heap.size w w' → ∀ k u, (cellsE xs)[k]? = some u → w'.cell? ⟨b, o + k, none⟩ = some u
 pls : ∀ x ∈ xs, PlAt w x.A x.c x.e.pl
 pl : PlAt w Ax cx p
 few : xs.length ≤ 3000
 cap : xs.length ≤ ce
 big : ce ≤ 9223372036854775807
 fst : i ≤ xs.length
 snd : j ≤ xs.length
 ij : i ≤ j ∧ j ≤ i + 1
set_option maxHeartbeats 8000000 in
theorem redit_new (A0 : Option Addr) (cap n : Nat) (b o ce : Nat) (xs : List EnL) (Ax : Option Addr) (m cx : Nat) (p : List Int) (N : Int) (cnt : Nat) (lf : Bool) (w : World) (hm : p.length = m) (hX : EditCalls (ownOX w A0 n cap Ax m cx N false) A0 cap n (some ⟨b, o, none⟩) xs.length ce Ax m cx 0 cnt false lf) (hlf : lf = true) (hlo : ¬ N < -1000000) (hhi : ¬ 1000000 < N) (hG : EditGood w b o ce xs Ax cx p cnt (cnt)) :
  Calls Tryd.prog 19 #[.agg #[.slice A0 n cap], .slice (some ⟨b, o, none⟩) xs.length ce, .agg #[.slice Ax m cx, .int .i64 N, .bool false]] w fun e w' => (∃ B c zs, e = .returned (.tuple #[.slice B zs.length c, .int .i64 0]) ∧ EnsN w' B c zs ∧ lE zs = (lE xs).take cnt ++ ⟨p, N⟩ :: (lE xs).drop (cnt)) ∧ Below w.heap.size w w' := by
 obtain ⟨i0, hi0, hz0, hz1', hz2'⟩ := info_parts Tryd.infoEnt
 have HX : Hid (EditCalls (ownOX w A0 n cap Ax m cx N false) A0 cap n (some ⟨b, o, none⟩) xs.length ce Ax m cx 0 cnt false lf) := hX
 have HB0 : Hid (Below w.heap.size w (ownOX w A0 n cap Ax m cx N false)) := ownOX_below ..
 have h1 := hX.place _ (Below.refl _ _)
 have HG : Hid (EditGood w b o ce xs Ax cx p cnt (cnt)) := hG
 have HM : Hid (p.length = m) := hm
 obtain ⟨nx, hnx⟩ : ∃ nx, xs.length = nx := ⟨_, rfl⟩
 have hfew := hG.few
 have hcap := hG.cap
 have hbig := hG.big
 have hfst := hG.fst
 have hsnd := hG.snd
 have HL1 : Hid ((cellsE (xs.take cnt)).length = cnt * 2) := by show _ = _; rw [cellsE_len, List.length_take, Nat.min_eq_left hfst]
 have HL2 : Hid ((cellsE (xs.drop (cnt))).length = (nx - (cnt)) * 2) := by show _ = _; rw [cellsE_len, List.length_drop, hnx]
 have HS1 : Hid (∀ w', Below w.heap.size w w' → ∀ k u, (cellsE (xs.take cnt))[k]? = some u → w'.cell? ((⟨b, o, none⟩ : Addr).add k) = some u) := fun w' hw' k u hk => by
  rw [plain_add]
  rw [← cellsE_take, List.getElem?_take] at hk
  split at hk
  ·exact hG.cells w' hw' k u hk
  ·cases hk
 obtain ⟨A2, hA2, HS2⟩ : ∃ A2 : Addr, (if ce = cnt then some (⟨b, o, none⟩ : Addr) else some ⟨b, o + (cnt) * 2, none⟩) = some A2 ∧ Hid (∀ w', Below w.heap.size w w' → ∀ k u, (cellsE (xs.drop (cnt)))[k]? = some u → w'.cell? (A2.add k) = some u) := by
  by_cases h : ce = cnt
  ·refine ⟨⟨b, o, none⟩, by simp [h], fun w' hw' k u hk => ?_⟩
   have h0 : cellsE (xs.drop (cnt)) = [] := List.eq_nil_of_length_eq_zero (by rw [HL2.out]; omega)
   rw [h0] at hk
   simp at hk
  ·refine ⟨⟨b, o + (cnt) * 2, none⟩, by simp [h], fun w' hw' k u hk => ?_⟩
   rw [← cellsE_drop, List.getElem?_drop] at hk
   rw [plain_add, Nat.add_assoc]
   exact hG.cells w' hw' _ u hk
 have HZ : Hid ((xs.take cnt ++ ⟨⟨p, N⟩, Ax, cx⟩ :: xs.drop (cnt)).length = cnt + 1 + (nx - (cnt))) := by show _ = _; simp only [List.length_append, List.length_cons, List.length_take, List.length_drop, hnx]; omega
 have HLE : Hid (lE (xs.take cnt ++ ⟨⟨p, N⟩, Ax, cx⟩ :: xs.drop (cnt)) = (lE xs).take cnt ++ ⟨p, N⟩ :: (lE xs).drop (cnt)) := by show _ = _; simp [lE]
 have HCZ : Hid (cellsE (xs.take cnt ++ ⟨⟨p, N⟩, Ax, cx⟩ :: xs.drop (cnt)) = cellsE (xs.take cnt) ++ cellsE [⟨⟨p, N⟩, Ax, cx⟩] ++ cellsE (xs.drop (cnt))) := zs_set ..
 rw [hnx] at HX hfew hcap hfst hsnd ⊢
 have hi' : (cnt : Int) ≤ (nx : Int) := by omega
 have hj' : (((cnt : Nat)) : Int) ≤ (nx : Int) := by omega
 have hn' : (nx : Int) ≤ 3000 := by omega
 have hcc : (nx : Int) ≤ (ce : Int) := by omega
 clear hX hG hm hnx
 subst hlf
 go_enter Tryd.func19, Tryd.ntmps19
 go_wp2_with fail
 refine h1.mono ?_
 rintro e w1 ⟨rfl, hb⟩
 have HB1 : Hid (Below (ownOX w A0 n cap Ax m cx N false).heap.size (ownOX w A0 n cap Ax m cx N false) w1) := hb
 have c0 := (hb.cell (p := ⟨w.heap.size, 0, none⟩) (by show w.heap.size < _; rw [ownOX_size]; omega)).trans (ownOX_o w A0 n cap Ax m cx N false)
 have c1 := (hb.cell (p := ⟨w.heap.size + 1, 0, none⟩) (by show w.heap.size + 1 < _; rw [ownOX_size]; omega)).trans (ownOX_x w A0 n cap Ax m cx N false).1
 have HC2 : Hid (w1.cell? ⟨w.heap.size + 1, 1, none⟩ = some (.int .i64 N)) := (hb.cell (p := ⟨w.heap.size + 1, 1, none⟩) (by show w.heap.size + 1 < _; rw [ownOX_size]; omega)).trans (ownOX_x w A0 n cap Ax m cx N false).2.1
 have HC3 : Hid (w1.cell? ⟨w.heap.size + 1, 2, none⟩ = some (.bool false)) := (hb.cell (p := ⟨w.heap.size + 1, 2, none⟩) (by show w.heap.size + 1 < _; rw [ownOX_size]; omega)).trans (ownOX_x w A0 n cap Ax m cx N false).2.2
 have hz1 : w.heap.size + 1 < w1.heap.size := by have := hb.size; rw [ownOX_size] at this; omega
 have HC0 : Hid (w1.cell? ⟨w.heap.size, 0, none⟩ = some (.slice A0 n cap)) := c0
 have HC1 : Hid (w1.cell? ⟨w.heap.size + 1, 0, none⟩ = some (.slice Ax m cx)) := c1
 have h2 := HX.out.find rfl w1 hb
 clear hb h1
 go_wp2_with fail
 refine h2.mono ?_
 rintro e w2 ⟨rfl, hb⟩
 have HB2 : Hid (Below (ownOX w A0 n cap Ax m cx N false).heap.size (ownOX w A0 n cap Ax m cx N false) w2) := onB HB1.out hb
 have d0 : w2.cell? ⟨w.heap.size, 0, none⟩ = some (.slice A0 n cap) := (hb.cell (p := ⟨w.heap.size, 0, none⟩) (by show w.heap.size < _; omega)).trans HC0.out
 have d1 : w2.cell? ⟨w.heap.size + 1, 0, none⟩ = some (.slice Ax m cx) := (hb.cell (p := ⟨w.heap.size + 1, 0, none⟩) hz1).trans HC1.out
 have HD1 : Hid (w2.cell? ⟨w.heap.size + 1, 0, none⟩ = some (.slice Ax m cx)) := d1
 have HD2 : Hid (w2.cell? ⟨w.heap.size + 1, 1, none⟩ = some (.int .i64 N)) := (hb.cell (p := ⟨w.heap.size + 1, 1, none⟩) hz1).trans HC2.out
 have HD3 : Hid (w2.cell? ⟨w.heap.size + 1, 2, none⟩ = some (.bool false)) := (hb.cell (p := ⟨w.heap.size + 1, 2, none⟩) hz1).trans HC3.out
 have hz2 : w.heap.size + 1 < w2.heap.size := Nat.lt_of_lt_of_le hz1 hb.size
 have h3 := HX.out.leaf rfl w2 HB2.out
 clear hb h2 c0 c1 HC0 HC1 HC2 HC3
 go_wp2_with fail
 refine h3.mono ?_
 rintro e w3 ⟨rfl, hb⟩
 have HB3 : Hid (Below (ownOX w A0 n cap Ax m cx N false).heap.size (ownOX w A0 n cap Ax m cx N false) w3) := onB HB2.out hb
 have f1 : w3.cell? ⟨w.heap.size + 1, 0, none⟩ = some (.slice Ax m cx) := (hb.cell (p := ⟨w.heap.size + 1, 0, none⟩) hz2).trans HD1.out
 have f2 : w3.cell? ⟨w.heap.size + 1, 1, none⟩ = some (.int .i64 N) := (hb.cell (p := ⟨w.heap.size + 1, 1, none⟩) hz2).trans HD2.out
 have f3 : w3.cell? ⟨w.heap.size + 1, 2, none⟩ = some (.bool false) := (hb.cell (p := ⟨w.heap.size + 1, 2, none⟩) hz2).trans HD3.out
 have hz3 : w.heap.size + 1 < w3.heap.size := Nat.lt_of_lt_of_le hz2 hb.size
 clear hb h3 d0 d1 HD1 HD2 HD3
 have HW3 : Hid (Below w.heap.size w w3) := onB HB0.out HB3.out
 go_wp2_with (at_builtin; refine wpList_append_own _ rfl _ _ 43 rfl (ownOX w A0 n cap Ax m cx N false).heap.size 77 i0 (.agg #[.slice none 0 0, .int .i64 0]) 2 32 Tryd.underlying43 hi0 hz0 hz1' hz2' rfl (by decide) _ _ _ rfl (World.ownsRow_nil w3 (ownOX w A0 n cap Ax m cx N false).heap.size 77 2) ⟨b, o, none⟩ cnt ce (cellsE (xs.take cnt)) rfl ?qc1 ?qc2 ?qc3 ?qc4 ?qc5 ?qc6 ?_)
 case qc1 => exact HL1.out
 case qc2 => exact HS1.out w3 HW3.out
 case qc3 => exact cellsE_one _
 case qc4 => simp only [maxLen]; omega
 case qc5 => omega
 case qc6 => exact HB3.out.size
 intro v1 w4 hown1 hgrow1 _
 have ho1 : w4.ownsRow (ownOX w A0 n cap Ax m cx N false).heap.size 77 2 v1 cnt (cellsE (xs.take cnt)) := by simpa using hown1
 have HO1 : Hid (w4.ownsRow (ownOX w A0 n cap Ax m cx N false).heap.size 77 2 v1 cnt (cellsE (xs.take cnt))) := ho1
 have hB4 : Below (ownOX w A0 n cap Ax m cx N false).heap.size (ownOX w A0 n cap Ax m cx N false) w4 := own_on HB3.out HB3.out.size (World.ownsRow_nil w3 (ownOX w A0 n cap Ax m cx N false).heap.size 77 2) hgrow1
 have HB4 : Hid (Below (ownOX w A0 n cap Ax m cx N false).heap.size (ownOX w A0 n cap Ax m cx N false) w4) := hB4
 have hzW : w.heap.size + 1 < (ownOX w A0 n cap Ax m cx N false).heap.size := by rw [ownOX_size]; omega
 have g1 : w4.cell? ⟨w.heap.size + 1, 0, none⟩ = some (.slice Ax m cx) := (hB4.cell (p := ⟨w.heap.size + 1, 0, none⟩) hzW).trans (ownOX_x w A0 n cap Ax m cx N false).1
 have g2 : w4.cell? ⟨w.heap.size + 1, 1, none⟩ = some (.int .i64 N) := (hB4.cell (p := ⟨w.heap.size + 1, 1, none⟩) hzW).trans (ownOX_x w A0 n cap Ax m cx N false).2.1
 have g3 : w4.cell? ⟨w.heap.size + 1, 2, none⟩ = some (.bool false) := (hB4.cell (p := ⟨w.heap.size + 1, 2, none⟩) hzW).trans (ownOX_x w A0 n cap Ax m cx N false).2.2
 clear hown1 hgrow1 ho1 f1 f2 f3 hB4
 have hbe := ownEn_below w4 Ax m cx N 77
 have HOe : Hid ((ownEn w4 Ax m cx N 77).ownsRow (ownOX w A0 n cap Ax m cx N false).heap.size 77 2 v1 cnt (cellsE (xs.take cnt))) := own_later HO1.out hbe
 have HBe : Hid (Below (ownOX w A0 n cap Ax m cx N false).heap.size (ownOX w A0 n cap Ax m cx N false) (ownEn w4 Ax m cx N 77)) := onB HB4.out hbe
 have HAt : Hid (∀ k u, (cellsE [⟨⟨p, N⟩, Ax, cx⟩])[k]? = some u → (ownEn w4 Ax m cx N 77).cell? ((⟨w4.heap.size, 0, none⟩ : Addr).add k) = some u) := fun k u hk => by
  have hh : (ownEn w4 Ax m cx N 77).heap[w4.heap.size]? = some (.cells #[.slice Ax m cx, .int .i64 N] 77 (0, 0)) := heap_alloc_new w4 _
  rw [plain_add, Nat.zero_add, Lib.cell_of_heap hh]
  simpa [cellsE, HM.out] using hk
 clear hbe
 go_wp2_with (at_builtin; refine wpList_append_own _ rfl _ _ 43 rfl (ownOX w A0 n cap Ax m cx N false).heap.size 77 i0 (.agg #[.slice none 0 0, .int .i64 0]) 2 32 Tryd.underlying43 hi0 hz0 hz1' hz2' rfl (by decide) _ _ _ rfl HOe.out ⟨w4.heap.size, 0, none⟩ 1 1 (cellsE [⟨⟨p, N⟩, Ax, cx⟩]) rfl rfl HAt.out (cellsE_one _) ?qd4 ?qd5 HBe.out.size ?_)
 case qd4 => simp only [maxLen]; omega
 case qd5 => omega
 intro v2 w5 hown2 hgrow2 _
 have HO2 : Hid (w5.ownsRow (ownOX w A0 n cap Ax m cx N false).heap.size 77 2 v2 (cnt + 1) (cellsE (xs.take cnt) ++ cellsE [⟨⟨p, N⟩, Ax, cx⟩])) := hown2
 have HB5 : Hid (Below (ownOX w A0 n cap Ax m cx N false).heap.size (ownOX w A0 n cap Ax m cx N false) w5) := own_on HBe.out HBe.out.size HOe.out hgrow2
 clear hown2 hgrow2 g1 g2 g3
 have hwj : IntKind.i64.wrap ((cnt : Int) + 1) = (cnt : Int) + 1 := by rw [IntKind.wrap_i64]; omega
 have htn : ((cnt : Int) + 1).toNat = cnt + 1 := by omega
 have hS3 := HS2.out w5 (onB HB0.out HB5.out)
 go_wp2_with (at_builtin; refine wpList_append_own _ rfl _ _ 43 rfl (ownOX w A0 n cap Ax m cx N false).heap.size 77 i0 (.agg #[.slice none 0 0, .int .i64 0]) 2 32 Tryd.underlying43 hi0 hz0 hz1' hz2' rfl (by decide) _ _ _ rfl HO2.out A2 (nx - (cnt)) (ce - (cnt)) (cellsE (xs.drop (cnt))) rfl HL2.out hS3 (cellsE_one _) ?qe4 ?qe5 HB5.out.size ?_)
 case qe4 => simp only [maxLen]; omega
 case qe5 => omega
 intro v3 w6 hown3 hgrow3 _
 have HB6 : Hid (Below w.heap.size w w6) := onB HB0.out (own_on HB5.out HB5.out.size HO2.out hgrow3)
 obtain ⟨B, c, hv3, hV⟩ := ens_own (w := w6) (base := (ownOX w A0 n cap Ax m cx N false).heap.size) (v := v3) (zs := xs.take cnt ++ ⟨⟨p, N⟩, Ax, cx⟩ :: xs.drop (cnt)) (by rw [HCZ.out, HZ.out, List.append_assoc]; exact hown3) (fun y hy => by
  have hB := HB6.out
  rcases List.mem_append.1 hy with hy | hy
  ·exact (HG.out.pls y (List.mem_of_mem_take hy)).later hB
  ·rcases List.mem_cons.1 hy with rfl | hy
   ·exact HG.out.pl.later hB
   ·exact (HG.out.pls y (List.mem_of_mem_drop hy)).later hB)
 have HV : Hid (EnsN w6 B c (xs.take cnt ++ ⟨⟨p, N⟩, Ax, cx⟩ :: xs.drop (cnt))) := hV
 rw [hv3, HZ.out]
 clear hown3 hgrow3 hV hv3
 go_wp2_with fail
 go_ret2
 exact ⟨⟨B, c, _, by rw [HZ.out]; rfl, HV.out, HLE.out⟩, HB6.out⟩
set_option maxHeartbeats 8000000 in
theorem redit_old (A0 : Option Addr) (cap n : Nat) (b o ce : Nat) (xs : List EnL) (Ax : Option Addr) (m cx : Nat) (p : List Int) (N : Int) (cnt : Nat) (lf : Bool) (w : World) (hm : p.length = m) (hX : EditCalls (ownOX w A0 n cap Ax m cx N false) A0 cap n (some ⟨b, o, none⟩) xs.length ce Ax m cx 0 cnt true lf) (hlf : lf = true) (hlo : ¬ N < -1000000) (hhi : ¬ 1000000 < N) (hG : EditGood w b o ce xs Ax cx p cnt (cnt + 1)) :
  Calls Tryd.prog 19 #[.agg #[.slice A0 n cap], .slice (some ⟨b, o, none⟩) xs.length ce, .agg #[.slice Ax m cx, .int .i64 N, .bool false]] w fun e w' => (∃ B c zs, e = .returned (.tuple #[.slice B zs.length c, .int .i64 0]) ∧ EnsN w' B c zs ∧ lE zs = (lE xs).take cnt ++ ⟨p, N⟩ :: (lE xs).drop (cnt + 1)) ∧ Below w.heap.size w w' := by
 obtain ⟨i0, hi0, hz0, hz1', hz2'⟩ := info_parts Tryd.infoEnt
 have HX : Hid (EditCalls (ownOX w A0 n cap Ax m cx N false) A0 cap n (some ⟨b, o, none⟩) xs.length ce Ax m cx 0 cnt true lf) := hX
 have HB0 : Hid (Below w.heap.size w (ownOX w A0 n cap Ax m cx N false)) := ownOX_below ..
 have h1 := hX.place _ (Below.refl _ _)
 have HG : Hid (EditGood w b o ce xs Ax cx p cnt (cnt + 1)) := hG
 have HM : Hid (p.length = m) := hm
 obtain ⟨nx, hnx⟩ : ∃ nx, xs.length = nx := ⟨_, rfl⟩
 have hfew := hG.few
 have hcap := hG.cap
 have hbig := hG.big
 have hfst := hG.fst
 have hsnd := hG.snd
 have HL1 : Hid ((cellsE (xs.take cnt)).length = cnt * 2) := by show _ = _; rw [cellsE_len, List.length_take, Nat.min_eq_left hfst]
 have HL2 : Hid ((cellsE (xs.drop (cnt + 1))).length = (nx - (cnt + 1)) * 2) := by show _ = _; rw [cellsE_len, List.length_drop, hnx]
 have HS1 : Hid (∀ w', Below w.heap.size w w' → ∀ k u, (cellsE (xs.take cnt))[k]? = some u → w'.cell? ((⟨b, o, none⟩ : Addr).add k) = some u) := fun w' hw' k u hk => by
  rw [plain_add]
  rw [← cellsE_take, List.getElem?_take] at hk
  split at hk
  ·exact hG.cells w' hw' k u hk
  ·cases hk
 obtain ⟨A2, hA2, HS2⟩ : ∃ A2 : Addr, (if ce = cnt + 1 then some (⟨b, o, none⟩ : Addr) else some ⟨b, o + (cnt + 1) * 2, none⟩) = some A2 ∧ Hid (∀ w', Below w.heap.size w w' → ∀ k u, (cellsE (xs.drop (cnt + 1)))[k]? = some u → w'.cell? (A2.add k) = some u) := by
  by_cases h : ce = cnt + 1
  ·refine ⟨⟨b, o, none⟩, by simp [h], fun w' hw' k u hk => ?_⟩
   have h0 : cellsE (xs.drop (cnt + 1)) = [] := List.eq_nil_of_length_eq_zero (by rw [HL2.out]; omega)
   rw [h0] at hk
   simp at hk
  ·refine ⟨⟨b, o + (cnt + 1) * 2, none⟩, by simp [h], fun w' hw' k u hk => ?_⟩
   rw [← cellsE_drop, List.getElem?_drop] at hk
   rw [plain_add, Nat.add_assoc]
   exact hG.cells w' hw' _ u hk
 have HZ : Hid ((xs.take cnt ++ ⟨⟨p, N⟩, Ax, cx⟩ :: xs.drop (cnt + 1)).length = cnt + 1 + (nx - (cnt + 1))) := by show _ = _; simp only [List.length_append, List.length_cons, List.length_take, List.length_drop, hnx]; omega
 have HLE : Hid (lE (xs.take cnt ++ ⟨⟨p, N⟩, Ax, cx⟩ :: xs.drop (cnt + 1)) = (lE xs).take cnt ++ ⟨p, N⟩ :: (lE xs).drop (cnt + 1)) := by show _ = _; simp [lE]
 have HCZ : Hid (cellsE (xs.take cnt ++ ⟨⟨p, N⟩, Ax, cx⟩ :: xs.drop (cnt + 1)) = cellsE (xs.take cnt) ++ cellsE [⟨⟨p, N⟩, Ax, cx⟩] ++ cellsE (xs.drop (cnt + 1))) := zs_set ..
 rw [hnx] at HX hfew hcap hfst hsnd ⊢
 have hi' : (cnt : Int) ≤ (nx : Int) := by omega
 have hj' : (((cnt + 1 : Nat)) : Int) ≤ (nx : Int) := by omega
 have hn' : (nx : Int) ≤ 3000 := by omega
 have hcc : (nx : Int) ≤ (ce : Int) := by omega
 clear hX hG hm hnx
 subst hlf
 go_enter Tryd.func19, Tryd.ntmps19
 go_wp2_with fail
 refine h1.mono ?_
 rintro e w1 ⟨rfl, hb⟩
 have HB1 : Hid (Below (ownOX w A0 n cap Ax m cx N false).heap.size (ownOX w A0 n cap Ax m cx N false) w1) := hb
 have c0 := (hb.cell (p := ⟨w.heap.size, 0, none⟩) (by show w.heap.size < _; rw [ownOX_size]; omega)).trans (ownOX_o w A0 n cap Ax m cx N false)
 have c1 := (hb.cell (p := ⟨w.heap.size + 1, 0, none⟩) (by show w.heap.size + 1 < _; rw [ownOX_size]; omega)).trans (ownOX_x w A0 n cap Ax m cx N false).1
 have HC2 : Hid (w1.cell? ⟨w.heap.size + 1, 1, none⟩ = some (.int .i64 N)) := (hb.cell (p := ⟨w.heap.size + 1, 1, none⟩) (by show w.heap.size + 1 < _; rw [ownOX_size]; omega)).trans (ownOX_x w A0 n cap Ax m cx N false).2.1
 have HC3 : Hid (w1.cell? ⟨w.heap.size + 1, 2, none⟩ = some (.bool false)) := (hb.cell (p := ⟨w.heap.size + 1, 2, none⟩) (by show w.heap.size + 1 < _; rw [ownOX_size]; omega)).trans (ownOX_x w A0 n cap Ax m cx N false).2.2
 have hz1 : w.heap.size + 1 < w1.heap.size := by have := hb.size; rw [ownOX_size] at this; omega
 have HC0 : Hid (w1.cell? ⟨w.heap.size, 0, none⟩ = some (.slice A0 n cap)) := c0
 have HC1 : Hid (w1.cell? ⟨w.heap.size + 1, 0, none⟩ = some (.slice Ax m cx)) := c1
 have h2 := HX.out.find rfl w1 hb
 clear hb h1
 go_wp2_with fail
 refine h2.mono ?_
 rintro e w2 ⟨rfl, hb⟩
 have HB2 : Hid (Below (ownOX w A0 n cap Ax m cx N false).heap.size (ownOX w A0 n cap Ax m cx N false) w2) := onB HB1.out hb
 have d0 : w2.cell? ⟨w.heap.size, 0, none⟩ = some (.slice A0 n cap) := (hb.cell (p := ⟨w.heap.size, 0, none⟩) (by show w.heap.size < _; omega)).trans HC0.out
 have d1 : w2.cell? ⟨w.heap.size + 1, 0, none⟩ = some (.slice Ax m cx) := (hb.cell (p := ⟨w.heap.size + 1, 0, none⟩) hz1).trans HC1.out
 have HD1 : Hid (w2.cell? ⟨w.heap.size + 1, 0, none⟩ = some (.slice Ax m cx)) := d1
 have HD2 : Hid (w2.cell? ⟨w.heap.size + 1, 1, none⟩ = some (.int .i64 N)) := (hb.cell (p := ⟨w.heap.size + 1, 1, none⟩) hz1).trans HC2.out
 have HD3 : Hid (w2.cell? ⟨w.heap.size + 1, 2, none⟩ = some (.bool false)) := (hb.cell (p := ⟨w.heap.size + 1, 2, none⟩) hz1).trans HC3.out
 have hz2 : w.heap.size + 1 < w2.heap.size := Nat.lt_of_lt_of_le hz1 hb.size
 have h3 := HX.out.leaf rfl w2 HB2.out
 clear hb h2 c0 c1 HC0 HC1 HC2 HC3
 go_wp2_with fail
 refine h3.mono ?_
 rintro e w3 ⟨rfl, hb⟩
 have HB3 : Hid (Below (ownOX w A0 n cap Ax m cx N false).heap.size (ownOX w A0 n cap Ax m cx N false) w3) := onB HB2.out hb
 have f1 : w3.cell? ⟨w.heap.size + 1, 0, none⟩ = some (.slice Ax m cx) := (hb.cell (p := ⟨w.heap.size + 1, 0, none⟩) hz2).trans HD1.out
 have f2 : w3.cell? ⟨w.heap.size + 1, 1, none⟩ = some (.int .i64 N) := (hb.cell (p := ⟨w.heap.size + 1, 1, none⟩) hz2).trans HD2.out
 have f3 : w3.cell? ⟨w.heap.size + 1, 2, none⟩ = some (.bool false) := (hb.cell (p := ⟨w.heap.size + 1, 2, none⟩) hz2).trans HD3.out
 have hz3 : w.heap.size + 1 < w3.heap.size := Nat.lt_of_lt_of_le hz2 hb.size
 clear hb h3 d0 d1 HD1 HD2 HD3
 have HW3 : Hid (Below w.heap.size w w3) := onB HB0.out HB3.out
 go_wp2_with (at_builtin; refine wpList_append_own _ rfl _ _ 43 rfl (ownOX w A0 n cap Ax m cx N false).heap.size 77 i0 (.agg #[.slice none 0 0, .int .i64 0]) 2 32 Tryd.underlying43 hi0 hz0 hz1' hz2' rfl (by decide) _ _ _ rfl (World.ownsRow_nil w3 (ownOX w A0 n cap Ax m cx N false).heap.size 77 2) ⟨b, o, none⟩ cnt ce (cellsE (xs.take cnt)) rfl ?qc1 ?qc2 ?qc3 ?qc4 ?qc5 ?qc6 ?_)
 case qc1 => exact HL1.out
 case qc2 => exact HS1.out w3 HW3.out
 case qc3 => exact cellsE_one _
 case qc4 => simp only [maxLen]; omega
 case qc5 => omega
 case qc6 => exact HB3.out.size
 intro v1 w4 hown1 hgrow1 _
 have ho1 : w4.ownsRow (ownOX w A0 n cap Ax m cx N false).heap.size 77 2 v1 cnt (cellsE (xs.take cnt)) := by simpa using hown1
 have HO1 : Hid (w4.ownsRow (ownOX w A0 n cap Ax m cx N false).heap.size 77 2 v1 cnt (cellsE (xs.take cnt))) := ho1
 have hB4 : Below (ownOX w A0 n cap Ax m cx N false).heap.size (ownOX w A0 n cap Ax m cx N false) w4 := own_on HB3.out HB3.out.size (World.ownsRow_nil w3 (ownOX w A0 n cap Ax m cx N false).heap.size 77 2) hgrow1
 have HB4 : Hid (Below (ownOX w A0 n cap Ax m cx N false).heap.size (ownOX w A0 n cap Ax m cx N false) w4) := hB4
 have hzW : w.heap.size + 1 < (ownOX w A0 n cap Ax m cx N false).heap.size := by rw [ownOX_size]; omega
 have g1 : w4.cell? ⟨w.heap.size + 1, 0, none⟩ = some (.slice Ax m cx) := (hB4.cell (p := ⟨w.heap.size + 1, 0, none⟩) hzW).trans (ownOX_x w A0 n cap Ax m cx N false).1
 have g2 : w4.cell? ⟨w.heap.size + 1, 1, none⟩ = some (.int .i64 N) := (hB4.cell (p := ⟨w.heap.size + 1, 1, none⟩) hzW).trans (ownOX_x w A0 n cap Ax m cx N false).2.1
 have g3 : w4.cell? ⟨w.heap.size + 1, 2, none⟩ = some (.bool false) := (hB4.cell (p := ⟨w.heap.size + 1, 2, none⟩) hzW).trans (ownOX_x w A0 n cap Ax m cx N false).2.2
 clear hown1 hgrow1 ho1 f1 f2 f3 hB4
 have hbe := ownEn_below w4 Ax m cx N 77
 have HOe : Hid ((ownEn w4 Ax m cx N 77).ownsRow (ownOX w A0 n cap Ax m cx N false).heap.size 77 2 v1 cnt (cellsE (xs.take cnt))) := own_later HO1.out hbe
 have HBe : Hid (Below (ownOX w A0 n cap Ax m cx N false).heap.size (ownOX w A0 n cap Ax m cx N false) (ownEn w4 Ax m cx N 77)) := onB HB4.out hbe
 have HAt : Hid (∀ k u, (cellsE [⟨⟨p, N⟩, Ax, cx⟩])[k]? = some u → (ownEn w4 Ax m cx N 77).cell? ((⟨w4.heap.size, 0, none⟩ : Addr).add k) = some u) := fun k u hk => by
  have hh : (ownEn w4 Ax m cx N 77).heap[w4.heap.size]? = some (.cells #[.slice Ax m cx, .int .i64 N] 77 (0, 0)) := heap_alloc_new w4 _
  rw [plain_add, Nat.zero_add, Lib.cell_of_heap hh]
  simpa [cellsE, HM.out] using hk
 clear hbe
 go_wp2_with (at_builtin; refine wpList_append_own _ rfl _ _ 43 rfl (ownOX w A0 n cap Ax m cx N false).heap.size 77 i0 (.agg #[.slice none 0 0, .int .i64 0]) 2 32 Tryd.underlying43 hi0 hz0 hz1' hz2' rfl (by decide) _ _ _ rfl HOe.out ⟨w4.heap.size, 0, none⟩ 1 1 (cellsE [⟨⟨p, N⟩, Ax, cx⟩]) rfl rfl HAt.out (cellsE_one _) ?qd4 ?qd5 HBe.out.size ?_)
 case qd4 => simp only [maxLen]; omega
 case qd5 => omega
 intro v2 w5 hown2 hgrow2 _
 have HO2 : Hid (w5.ownsRow (ownOX w A0 n cap Ax m cx N false).heap.size 77 2 v2 (cnt + 1) (cellsE (xs.take cnt) ++ cellsE [⟨⟨p, N⟩, Ax, cx⟩])) := hown2
 have HB5 : Hid (Below (ownOX w A0 n cap Ax m cx N false).heap.size (ownOX w A0 n cap Ax m cx N false) w5) := own_on HBe.out HBe.out.size HOe.out hgrow2
 clear hown2 hgrow2 g1 g2 g3
 have hwj : IntKind.i64.wrap ((cnt : Int) + 1) = (cnt : Int) + 1 := by rw [IntKind.wrap_i64]; omega
 have htn : ((cnt : Int) + 1).toNat = cnt + 1 := by omega
 have hS3 := HS2.out w5 (onB HB0.out HB5.out)
 go_wp2_with (at_builtin; refine wpList_append_own _ rfl _ _ 43 rfl (ownOX w A0 n cap Ax m cx N false).heap.size 77 i0 (.agg #[.slice none 0 0, .int .i64 0]) 2 32 Tryd.underlying43 hi0 hz0 hz1' hz2' rfl (by decide) _ _ _ rfl HO2.out A2 (nx - (cnt + 1)) (ce - (cnt + 1)) (cellsE (xs.drop (cnt + 1))) rfl HL2.out hS3 (cellsE_one _) ?qe4 ?qe5 HB5.out.size ?_)
 case qe4 => simp only [maxLen]; omega
 case qe5 => omega
 intro v3 w6 hown3 hgrow3 _
 have HB6 : Hid (Below w.heap.size w w6) := onB HB0.out (own_on HB5.out HB5.out.size HO2.out hgrow3)
 obtain ⟨B, c, hv3, hV⟩ := ens_own (w := w6) (base := (ownOX w A0 n cap Ax m cx N false).heap.size) (v := v3) (zs := xs.take cnt ++ ⟨⟨p, N⟩, Ax, cx⟩ :: xs.drop (cnt + 1)) (by rw [HCZ.out, HZ.out, List.append_assoc, show cnt + 1 + (nx - (cnt + 1)) = nx by omega]; exact hown3) (fun y hy => by
  have hB := HB6.out
  rcases List.mem_append.1 hy with hy | hy
  ·exact (HG.out.pls y (List.mem_of_mem_take hy)).later hB
  ·rcases List.mem_cons.1 hy with rfl | hy
   ·exact HG.out.pl.later hB
   ·exact (HG.out.pls y (List.mem_of_mem_drop hy)).later hB)
 have HV : Hid (EnsN w6 B c (xs.take cnt ++ ⟨⟨p, N⟩, Ax, cx⟩ :: xs.drop (cnt + 1))) := hV
 rw [hv3, HZ.out]
 clear hown3 hgrow3 hV hv3
 go_wp2_with fail
 go_ret2
 exact ⟨⟨B, c, _, by rw [HZ.out]; rfl, HV.out, HLE.out⟩, HB6.out⟩
set_option maxHeartbeats 8000000 in
theorem redit_clr (A0 : Option Addr) (cap n : Nat) (b o ce : Nat) (xs : List EnL) (Ax : Option Addr) (m cx : Nat) (p : List Int) (N : Int) (cnt : Nat) (lf : Bool) (w : World) (hm : p.length = m) (hX : EditCalls (ownOX w A0 n cap Ax m cx N true) A0 cap n (some ⟨b, o, none⟩) xs.length ce Ax m cx 0 cnt true lf) (hG : EditGood w b o ce xs Ax cx p cnt (cnt + 1)) :
  Calls Tryd.prog 19 #[.agg #[.slice A0 n cap], .slice (some ⟨b, o, none⟩) xs.length ce, .agg #[.slice Ax m cx, .int .i64 N, .bool true]] w fun e w' => (∃ B c zs, e = .returned (.tuple #[.slice B zs.length c, .int .i64 0]) ∧ EnsN w' B c zs ∧ lE zs = (lE xs).take cnt ++ (lE xs).drop (cnt + 1)) ∧ Below w.heap.size w w' := by
 obtain ⟨i0, hi0, hz0, hz1', hz2'⟩ := info_parts Tryd.infoEnt
 have HX : Hid (EditCalls (ownOX w A0 n cap Ax m cx N true) A0 cap n (some ⟨b, o, none⟩) xs.length ce Ax m cx 0 cnt true lf) := hX
 have HB0 : Hid (Below w.heap.size w (ownOX w A0 n cap Ax m cx N true)) := ownOX_below ..
 have h1 := hX.place _ (Below.refl _ _)
 have HG : Hid (EditGood w b o ce xs Ax cx p cnt (cnt + 1)) := hG
 have HM : Hid (p.length = m) := hm
 obtain ⟨nx, hnx⟩ : ∃ nx, xs.length = nx := ⟨_, rfl⟩
 have hfew := hG.few
 have hcap := hG.cap
 have hbig := hG.big
 have hfst := hG.fst
 have hsnd := hG.snd
 have HL1 : Hid ((cellsE (xs.take cnt)).length = cnt * 2) := by show _ = _; rw [cellsE_len, List.length_take, Nat.min_eq_left hfst]
 have HL2 : Hid ((cellsE (xs.drop (cnt + 1))).length = (nx - (cnt + 1)) * 2) := by show _ = _; rw [cellsE_len, List.length_drop, hnx]
 have HS1 : Hid (∀ w', Below w.heap.size w w' → ∀ k u, (cellsE (xs.take cnt))[k]? = some u → w'.cell? ((⟨b, o, none⟩ : Addr).add k) = some u) := fun w' hw' k u hk => by
  rw [plain_add]
  rw [← cellsE_take, List.getElem?_take] at hk
  split at hk
  ·exact hG.cells w' hw' k u hk
  ·cases hk
 obtain ⟨A2, hA2, HS2⟩ : ∃ A2 : Addr, (if ce = cnt + 1 then some (⟨b, o, none⟩ : Addr) else some ⟨b, o + (cnt + 1) * 2, none⟩) = some A2 ∧ Hid (∀ w', Below w.heap.size w w' → ∀ k u, (cellsE (xs.drop (cnt + 1)))[k]? = some u → w'.cell? (A2.add k) = some u) := by
  by_cases h : ce = cnt + 1
  ·refine ⟨⟨b, o, none⟩, by simp [h], fun w' hw' k u hk => ?_⟩
   have h0 : cellsE (xs.drop (cnt + 1)) = [] := List.eq_nil_of_length_eq_zero (by rw [HL2.out]; omega)
   rw [h0] at hk
   simp at hk
  ·refine ⟨⟨b, o + (cnt + 1) * 2, none⟩, by simp [h], fun w' hw' k u hk => ?_⟩
   rw [← cellsE_drop, List.getElem?_drop] at hk
   rw [plain_add, Nat.add_assoc]
   exact hG.cells w' hw' _ u hk
 have HZ : Hid ((xs.take cnt ++ xs.drop (cnt + 1)).length = cnt + (nx - (cnt + 1))) := by show _ = _; simp only [List.length_append, List.length_take, List.length_drop, hnx]; omega
 have HLE : Hid (lE (xs.take cnt ++ xs.drop (cnt + 1)) = (lE xs).take cnt ++ (lE xs).drop (cnt + 1)) := by show _ = _; simp [lE]
 have HCZ : Hid (cellsE (xs.take cnt ++ xs.drop (cnt + 1)) = cellsE (xs.take cnt) ++ cellsE (xs.drop (cnt + 1))) := cellsE_append ..
 rw [hnx] at HX hfew hcap hfst hsnd ⊢
 have hi' : (cnt : Int) ≤ (nx : Int) := by omega
 have hj' : (((cnt + 1 : Nat)) : Int) ≤ (nx : Int) := by omega
 have hn' : (nx : Int) ≤ 3000 := by omega
 have hcc : (nx : Int) ≤ (ce : Int) := by omega
 clear hX hG hm hnx
 go_enter Tryd.func19, Tryd.ntmps19
 go_wp2_with fail
 refine h1.mono ?_
 rintro e w1 ⟨rfl, hb⟩
 have HB1 : Hid (Below (ownOX w A0 n cap Ax m cx N true).heap.size (ownOX w A0 n cap Ax m cx N true) w1) := hb
 have c0 := (hb.cell (p := ⟨w.heap.size, 0, none⟩) (by show w.heap.size < _; rw [ownOX_size]; omega)).trans (ownOX_o w A0 n cap Ax m cx N true)
 have c1 := (hb.cell (p := ⟨w.heap.size + 1, 0, none⟩) (by show w.heap.size + 1 < _; rw [ownOX_size]; omega)).trans (ownOX_x w A0 n cap Ax m cx N true).1
 have HC2 : Hid (w1.cell? ⟨w.heap.size + 1, 1, none⟩ = some (.int .i64 N)) := (hb.cell (p := ⟨w.heap.size + 1, 1, none⟩) (by show w.heap.size + 1 < _; rw [ownOX_size]; omega)).trans (ownOX_x w A0 n cap Ax m cx N true).2.1
 have HC3 : Hid (w1.cell? ⟨w.heap.size + 1, 2, none⟩ = some (.bool true)) := (hb.cell (p := ⟨w.heap.size + 1, 2, none⟩) (by show w.heap.size + 1 < _; rw [ownOX_size]; omega)).trans (ownOX_x w A0 n cap Ax m cx N true).2.2
 have hz1 : w.heap.size + 1 < w1.heap.size := by have := hb.size; rw [ownOX_size] at this; omega
 have HC0 : Hid (w1.cell? ⟨w.heap.size, 0, none⟩ = some (.slice A0 n cap)) := c0
 have HC1 : Hid (w1.cell? ⟨w.heap.size + 1, 0, none⟩ = some (.slice Ax m cx)) := c1
 have h2 := HX.out.find rfl w1 hb
 clear hb h1
 go_wp2_with fail
 refine h2.mono ?_
 rintro e w2 ⟨rfl, hb⟩
 have HB2 : Hid (Below (ownOX w A0 n cap Ax m cx N true).heap.size (ownOX w A0 n cap Ax m cx N true) w2) := onB HB1.out hb
 have d0 : w2.cell? ⟨w.heap.size, 0, none⟩ = some (.slice A0 n cap) := (hb.cell (p := ⟨w.heap.size, 0, none⟩) (by show w.heap.size < _; omega)).trans HC0.out
 have d1 : w2.cell? ⟨w.heap.size + 1, 0, none⟩ = some (.slice Ax m cx) := (hb.cell (p := ⟨w.heap.size + 1, 0, none⟩) hz1).trans HC1.out
 have HD1 : Hid (w2.cell? ⟨w.heap.size + 1, 0, none⟩ = some (.slice Ax m cx)) := d1
 have HD2 : Hid (w2.cell? ⟨w.heap.size + 1, 1, none⟩ = some (.int .i64 N)) := (hb.cell (p := ⟨w.heap.size + 1, 1, none⟩) hz1).trans HC2.out
 have HD3 : Hid (w2.cell? ⟨w.heap.size + 1, 2, none⟩ = some (.bool true)) := (hb.cell (p := ⟨w.heap.size + 1, 2, none⟩) hz1).trans HC3.out
 have hz2 : w.heap.size + 1 < w2.heap.size := Nat.lt_of_lt_of_le hz1 hb.size
 have h3 := HX.out.leaf rfl w2 HB2.out
 clear hb h2 c0 c1 HC0 HC1 HC2 HC3
 go_wp2_with fail
 refine h3.mono ?_
 rintro e w3 ⟨rfl, hb⟩
 have HB3 : Hid (Below (ownOX w A0 n cap Ax m cx N true).heap.size (ownOX w A0 n cap Ax m cx N true) w3) := onB HB2.out hb
 have f1 : w3.cell? ⟨w.heap.size + 1, 0, none⟩ = some (.slice Ax m cx) := (hb.cell (p := ⟨w.heap.size + 1, 0, none⟩) hz2).trans HD1.out
 have f2 : w3.cell? ⟨w.heap.size + 1, 1, none⟩ = some (.int .i64 N) := (hb.cell (p := ⟨w.heap.size + 1, 1, none⟩) hz2).trans HD2.out
 have f3 : w3.cell? ⟨w.heap.size + 1, 2, none⟩ = some (.bool true) := (hb.cell (p := ⟨w.heap.size + 1, 2, none⟩) hz2).trans HD3.out
 have hz3 : w.heap.size + 1 < w3.heap.size := Nat.lt_of_lt_of_le hz2 hb.size
 clear hb h3 d0 d1 HD1 HD2 HD3
 have HW3 : Hid (Below w.heap.size w w3) := onB HB0.out HB3.out
 go_wp2_with (at_builtin; refine wpList_append_own _ rfl _ _ 43 rfl (ownOX w A0 n cap Ax m cx N true).heap.size 77 i0 (.agg #[.slice none 0 0, .int .i64 0]) 2 32 Tryd.underlying43 hi0 hz0 hz1' hz2' rfl (by decide) _ _ _ rfl (World.ownsRow_nil w3 (ownOX w A0 n cap Ax m cx N true).heap.size 77 2) ⟨b, o, none⟩ cnt ce (cellsE (xs.take cnt)) rfl ?qc1 ?qc2 ?qc3 ?qc4 ?qc5 ?qc6 ?_)
 case qc1 => exact HL1.out
 case qc2 => exact HS1.out w3 HW3.out
 case qc3 => exact cellsE_one _
 case qc4 => simp only [maxLen]; omega
 case qc5 => omega
 case qc6 => exact HB3.out.size
 intro v1 w4 hown1 hgrow1 _
 have ho1 : w4.ownsRow (ownOX w A0 n cap Ax m cx N true).heap.size 77 2 v1 cnt (cellsE (xs.take cnt)) := by simpa using hown1
 have HO1 : Hid (w4.ownsRow (ownOX w A0 n cap Ax m cx N true).heap.size 77 2 v1 cnt (cellsE (xs.take cnt))) := ho1
 have hB4 : Below (ownOX w A0 n cap Ax m cx N true).heap.size (ownOX w A0 n cap Ax m cx N true) w4 := own_on HB3.out HB3.out.size (World.ownsRow_nil w3 (ownOX w A0 n cap Ax m cx N true).heap.size 77 2) hgrow1
 have HB4 : Hid (Below (ownOX w A0 n cap Ax m cx N true).heap.size (ownOX w A0 n cap Ax m cx N true) w4) := hB4
 have hzW : w.heap.size + 1 < (ownOX w A0 n cap Ax m cx N true).heap.size := by rw [ownOX_size]; omega
 have g1 : w4.cell? ⟨w.heap.size + 1, 0, none⟩ = some (.slice Ax m cx) := (hB4.cell (p := ⟨w.heap.size + 1, 0, none⟩) hzW).trans (ownOX_x w A0 n cap Ax m cx N true).1
 have g2 : w4.cell? ⟨w.heap.size + 1, 1, none⟩ = some (.int .i64 N) := (hB4.cell (p := ⟨w.heap.size + 1, 1, none⟩) hzW).trans (ownOX_x w A0 n cap Ax m cx N true).2.1
 have g3 : w4.cell? ⟨w.heap.size + 1, 2, none⟩ = some (.bool true) := (hB4.cell (p := ⟨w.heap.size + 1, 2, none⟩) hzW).trans (ownOX_x w A0 n cap Ax m cx N true).2.2
 clear hown1 hgrow1 ho1 f1 f2 f3 hB4
 have hwj : IntKind.i64.wrap ((cnt : Int) + 1) = (cnt : Int) + 1 := by rw [IntKind.wrap_i64]; omega
 have htn : ((cnt : Int) + 1).toNat = cnt + 1 := by omega
 have hS3 := HS2.out w4 (onB HB0.out HB4.out)
 go_wp2_with (at_builtin; refine wpList_append_own _ rfl _ _ 43 rfl (ownOX w A0 n cap Ax m cx N true).heap.size 77 i0 (.agg #[.slice none 0 0, .int .i64 0]) 2 32 Tryd.underlying43 hi0 hz0 hz1' hz2' rfl (by decide) _ _ _ rfl HO1.out A2 (nx - (cnt + 1)) (ce - (cnt + 1)) (cellsE (xs.drop (cnt + 1))) rfl HL2.out hS3 (cellsE_one _) ?qe4 ?qe5 HB4.out.size ?_)
 case qe4 => simp only [maxLen]; omega
 case qe5 => omega
 intro v3 w6 hown3 hgrow3 _
 have HB6 : Hid (Below w.heap.size w w6) := onB HB0.out (own_on HB4.out HB4.out.size HO1.out hgrow3)
 obtain ⟨B, c, hv3, hV⟩ := ens_own (w := w6) (base := (ownOX w A0 n cap Ax m cx N true).heap.size) (v := v3) (zs := xs.take cnt ++ xs.drop (cnt + 1)) (by rw [HCZ.out, HZ.out]; exact hown3) (fun y hy => by
  have hB := HB6.out
  rcases List.mem_append.1 hy with hy | hy
  ·exact (HG.out.pls y (List.mem_of_mem_take hy)).later hB
  ·exact (HG.out.pls y (List.mem_of_mem_drop hy)).later hB)
 have HV : Hid (EnsN w6 B c (xs.take cnt ++ xs.drop (cnt + 1))) := hV
 rw [hv3, HZ.out]
 clear hown3 hgrow3 hV hv3
 go_wp2_with fail
 go_ret2
 exact ⟨⟨B, c, _, by rw [HZ.out]; rfl, HV.out, HLE.out⟩, HB6.out⟩
end Go.Proofs.YtfngmnhkhfgmjacDoor
