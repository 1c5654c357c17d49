/-
  An entry put into a row of entries of a call's own, into a new row: what slices.Insert answers where there is no room; and all ways together.
  An entry taken out of a row of entries of a call's own: what slices.Delete answers.
  Entries made anew: what fresh of package input answers, called in whatever memory: a row of its own that holds the same.
  A number put among entries of a call's own: what set of package input answers.
  A place taken out of entries of a call's own: what without of package input answers.
  A number put, a place cleared: what Set and Clear of package input answer, called in whatever memory.
-/
import Derived.Laws.OwnMore
import Derived.Test.YtfngmnhkhfgmjacDoorJIBB
namespace Go.Proofs.YtfngmnhkhfgmjacDoor
open Go.ChangeShapes Go.WideShapes Go.ChangeAt Go.RowKit Go.Lib
set_option maxRecDepth 100000
theorem zero_size (k : Nat) : (Builtin.zeroCells (Value.agg #[.slice none 0 0, .int .i64 0]).cells k).size = k * 2 := by
 simp [Builtin.zeroCells, Value.cells]
set_option maxHeartbeats 4000000 in
theorem insert_grow (g cap i vb : Nat) (xs : List EnL) (x : EnL) (w : World) (hn : xs.length ≤ 3000) (hi : i < xs.length) (hroom : cap < xs.length + 1) (hR : RowE w g cap xs) (hx : PlTy w x.A x.c x.e.pl) (hv : OneE w vb x) :
  Calls Tryd.prog 57 #[.slice (some ⟨g, 0, none⟩) xs.length cap, .int .i64 i, .slice (some ⟨vb, 0, none⟩) 1 1] w fun e w' => Inserted w g i xs x e w' := by
 obtain ⟨i0, hi0, hz0, hz1, hz2⟩ := info_parts Tryd.infoEnt
 have hsz : (Tryd.prog.info? 77).map (·.size) = some 2 := by rw [hi0]; simp [hz1]
 have hcm := hR.2.2.1
 unfold maxLen at hcm
 have hnc := hR.2.1
 have hgw : g < w.heap.size := hR.lt
 have hvw : vb < w.heap.size := (Array.getElem?_eq_some_iff.1 hv).1
 obtain ⟨n, hnn⟩ : ∃ n, xs.length = n := ⟨_, rfl⟩
 rw [hnn] at hn hi hroom hnc
 have hdl : (cellsE (xs.drop i)).length = (n - i) * 2 := by rw [cellsE_len, List.length_drop, hnn]
 have htl : (cellsE (xs.take i)).length = i * 2 := by rw [cellsE_len, List.length_take, hnn, Nat.min_eq_left (by omega)]
 have hkk : (n : Int) + 1 - (i : Int) = ((n + 1 - i : Nat) : Int) := by omega
 have hik : i + (n + 1 - i) = n + 1 := by omega
 have hold : (Builtin.firstCells i0.size i (.slice (some ⟨g, 0, none⟩) i cap)).run Tryd.prog w.drew = .ok (cellsE (xs.take i)).toArray w.drew := by
  rw [hz1]
  exact run_firstCells_some w.drew 2 i ⟨g, 0, none⟩ i cap (cellsE (xs.take i)) htl (fun j v hj => by
   rw [plain_add, Nat.zero_add]
   rw [← cellsE_take, List.getElem?_take] at hj
   split at hj
   ·exact hR.cells j v hj
   ·cases hj)
 obtain ⟨G, hG⟩ : ∃ G, G = grownCap w (n + 1) cap 77 := ⟨_, rfl⟩
 obtain ⟨ROW, hROW⟩ : ∃ ROW : Array Value, ROW = (cellsE (xs.take i)).toArray ++ Builtin.zeroCells (Value.agg #[.slice none 0 0, .int .i64 0]).cells (n + 1 - i) ++ Builtin.zeroCells (Value.agg #[.slice none 0 0, .int .i64 0]).cells (G - (n + 1)) := ⟨_, rfl⟩
 have hrz : ∀ ty, (Builtin.append_ #[43, 3] ty #[.slice (some ⟨g, 0, none⟩) i cap, .int .i64 ((n : Int) + 1 - (i : Int))]).run Tryd.prog w = .ok (.slice (some ⟨w.heap.size, 0, none⟩) (n + 1) G) (w.drew.alloc (.cells ROW 77)) := fun ty => by
  have h := Lib.run_append_grow_zeros w 43 3 ty 77 i0 _ .i64 .i64 Tryd.underlying43 Tryd.underlying3 hi0 hz0 (some ⟨g, 0, none⟩) i cap (cellsE (xs.take i)) hold (n + 1 - i) (by omega) (by omega) (by omega) (by omega) (by rw [hz2]; omega) (by rw [hz2, hik]; exact growslice_fits hroom (by omega))
  rw [hik] at h
  rw [hkk, hROW, hG]
  exact h
 have hGn : n + 1 ≤ G := by rw [hG]; exact grownCap_ge w _ _ _
 have hG63 : G ≤ maxLen := by
  rw [hG]
  exact grownCap_le_maxLen w (n + 1) cap 77 (by unfold maxLen; omega)
 have hRs : ROW.size = G * 2 := by
  rw [hROW, Array.size_append, Array.size_append, zero_size, zero_size, List.size_toArray, htl]
  omega
 obtain ⟨C1, hC1⟩ : ∃ C1, C1 = ROW.toList.take (i * 2) ++ cellsE [x] ++ ROW.toList.drop (i * 2 + (cellsE [x]).length) := ⟨_, rfl⟩
 obtain ⟨C2, hC2⟩ : ∃ C2, C2 = C1.take ((i + 1) * 2) ++ cellsE (xs.drop i) ++ C1.drop ((i + 1) * 2 + (cellsE (xs.drop i)).length) := ⟨_, rfl⟩
 have hRl : ROW.toList.length = G * 2 := by simpa using hRs
 have hRt : ROW.toList.take (i * 2) = cellsE (xs.take i) := by
  rw [hROW, Array.toList_append, Array.toList_append, List.append_assoc]
  exact take_join htl
 obtain ⟨hl2, ht2⟩ := grow_cells (xs := xs) (x := x) (i := i) hRt (by rw [hRl, hnn]; omega) (by omega) hC1 hC2
 have hx2 : (cellsE [x]).length = 2 := by rw [cellsE_len]; rfl
 have hl1 : C1.length = G * 2 := by
  rw [hC1]
  simp only [List.length_append, List.length_take, List.length_drop, hx2, hRl]
  omega
 have hW1 : (w.drew.alloc (.cells ROW 77)).heap[w.heap.size]? = some (.cells ROW 77 (0, 0)) := heap_alloc_new w.drew _
 have hOld : ∀ k, k < w.heap.size → (w.drew.alloc (.cells ROW 77)).heap[k]? = w.heap[k]? := fun k hk => Below.heap_alloc w.drew _ k hk
 have hcpA : ∀ (W : World), W.heap = (w.drew.alloc (.cells ROW 77)).heap → ∀ ty dc, (Builtin.copy_ #[43, 43] ty #[.slice (some ⟨w.heap.size, i * 2, none⟩) (n + 1 - i) dc, .slice (some ⟨vb, 0, none⟩) 1 1]).run Tryd.prog W = .ok (goInt (Nat.min 1 (n + 1 - i))) (W.setRow w.heap.size C1.toArray) := fun W hW ty dc => by
  have h := run_copy_k (P := Tryd.prog) 2 W _ 43 ty 77 w.heap.size (i * 2) (n + 1 - i) dc ⟨vb, 0, none⟩ 1 1 ROW 77 (cellsE [x]) Tryd.underlying43 hsz (by rw [hW]; exact hW1) (by rw [hx2]; simp only [Nat.min_def]; split <;> omega)
   (fun j v hj => by
    rw [plain_add, Nat.zero_add]
    have hb : W.heap[vb]? = w.heap[vb]? := by rw [hW]; exact hOld vb hvw
    exact (World.cell?_of_block (a := ⟨vb, j, none⟩) hb).trans (hv.cells j v hj))
   (by rw [hx2, hRs]; omega) (cellsE_one _)
  rw [h, hC1]
 have hW2 : ((w.drew.alloc (.cells ROW 77)).setRow w.heap.size C1.toArray).heap[w.heap.size]? = some (.cells C1.toArray 77 (0, 0)) := setRow_heap _ _ ROW _ _ _ hW1
 have hcpB : ∀ (W : World), W.heap = ((w.drew.alloc (.cells ROW 77)).setRow w.heap.size C1.toArray).heap → ∀ ty dc sc, (Builtin.copy_ #[43, 43] ty #[.slice (some ⟨w.heap.size, (i + 1) * 2, none⟩) (n - i) dc, .slice (some ⟨g, i * 2, none⟩) (n - i) sc]).run Tryd.prog W = .ok (goInt (Nat.min (n - i) (n - i))) (W.setRow w.heap.size C2.toArray) := fun W hW ty dc sc => by
  have h := run_copy_k (P := Tryd.prog) 2 W _ 43 ty 77 w.heap.size ((i + 1) * 2) (n - i) dc ⟨g, i * 2, none⟩ (n - i) sc C1.toArray 77 (cellsE (xs.drop i)) Tryd.underlying43 hsz (by rw [hW]; exact hW2) (by rw [hdl]; simp only [Nat.min_def]; split <;> omega)
   (fun j v hj => by
    rw [plain_add]
    have hb : W.heap[g]? = w.heap[g]? := by rw [hW, setRow_other _ _ _ _ (Nat.ne_of_lt hgw)]; exact hOld g hgw
    refine (World.cell?_of_block (a := ⟨g, i * 2 + j, none⟩) hb).trans (hR.cells (i * 2 + j) v ?_)
    rw [← cellsE_drop, List.getElem?_drop] at hj
    exact hj)
   (by rw [hdl, List.size_toArray, hl1]; omega) (cellsE_one _)
  rw [h, hC2]
 have HFin : Hid (∀ w', w'.heap = (((w.drew.alloc (.cells ROW 77)).setRow w.heap.size C1.toArray).setRow w.heap.size C2.toArray).heap → w'.os = w.os → w'.tape = w.tape → w'.output = w.output → RowE w' w.heap.size G (xs.take i ++ x :: xs.drop i) ∧ w.grownBy w' (some g)) := by
  intro w' hw' h1 h2 h3
  rw [setRow_setRow] at hw'
  have hB : Below w.heap.size w w' := ⟨h1, h2, h3, by rw [hw', setRow_size]; show w.heap.size ≤ (w.alloc _).heap.size; simp, fun k hk => by rw [hw', setRow_other _ _ _ _ (Nat.ne_of_lt hk)]; exact hOld k hk⟩
  refine ⟨⟨⟨C2.toArray, by rw [hw']; exact setRow_heap _ _ ROW _ _ _ hW1, by rw [List.size_toArray, hl2, hRl], ht2⟩, by simp; omega, hG63, fun y hy => ?_⟩, grown_below hB⟩
  refine PlTy.later ?_ hB
  rcases List.mem_append.1 hy with hy | hy
  ·exact hR.2.2.2 y (List.mem_of_mem_take hy)
  ·rcases List.mem_cons.1 hy with rfl | hy
   ·exact hx
   ·exact hR.2.2.2 y (List.mem_of_mem_drop hy)
 have hE1 : ((w.alloc (.cells ROW 77)).drew).heap = (w.drew.alloc (.cells ROW 77)).heap := rfl
 have hF1 : (((w.alloc (.cells ROW 77)).drew.setRow w.heap.size C1.toArray).drew).heap = ((w.drew.alloc (.cells ROW 77)).setRow w.heap.size C1.toArray).heap := rfl
 unfold Inserted
 rw [hnn]
 unfold maxLen at hG63
 have hn' : (n : Int) ≤ 3000 := by omega
 have hi' : (i : Int) < (n : Int) := by omega
 have hr' : (cap : Int) < (n : Int) + 1 := by omega
 have hne : ¬ ((i : Int) = (n : Int)) := by omega
 have hGi : ¬ (G = i) := by omega
 have hGim : ¬ (G = i + 1) := by omega
 have hci : ¬ (cap = i) := by omega
 have hw1 : IntKind.i64.wrap ((i : Int) + 1) = (i : Int) + 1 := by rw [IntKind.wrap_i64]; omega
 have hb1 : (0 : Int) ≤ (i : Int) + 1 := by omega
 have htn : ((i : Int) + 1).toNat = i + 1 := by omega
 have hin : i ≤ n := by omega
 have hb3 : (i : Int) ≤ (n : Int) + 1 := by omega
 have hgl : g ≤ w.heap.size := Nat.le_of_lt hgw
 clear hnn hl1 hl2 ht2 hC1 hC2 hdl htl hW1 hW2 hR hx hv hkk hik hold hROW hG hRs hRl hRt hx2 hOld
 go_enter Tryd.func57, Tryd.ntmps57
 go_wp2_with (first
  | (at_builtin; refine Lib.wpList_append_run _ rfl _ _ _ _ rfl _ _ rfl rfl _ _ (hrz _) ?_)
  | (at_builtin; refine wpList_copy_runI _ rfl _ _ 43 43 rfl _ _ rfl rfl (hcpA _ hE1 _ _) ?_))
 go_region_law (refine step_copy_runI rfl _ _ 43 43 rfl (.slice (some ⟨w.heap.size, (i + 1) * 2, none⟩) (n - i) (G - (i + 1))) (.slice (some ⟨g, i * 2, none⟩) (n - i) (cap - i)) (by simp [Act.eval, Act.put]) (by simp [Act.eval, Act.put]) (hcpB _ hF1 3 (G - (i + 1)) (cap - i)) ?_)
 go_wp2_with fail
 go_ret
 obtain ⟨h1, h2⟩ := HFin.out (((w.alloc (.cells ROW 77)).drew.setRow w.heap.size C1.toArray).drew.setRow w.heap.size C2.toArray) rfl rfl rfl rfl
 exact ⟨w.heap.size, G, rfl, h1, hgl, h2⟩
theorem insert_any (g cap i vb : Nat) (xs : List EnL) (x : EnL) (w : World) (hn : xs.length ≤ 3000) (hi : i ≤ xs.length) (hvb : vb ≠ g) (hR : RowE w g cap xs) (hx : PlTy w x.A x.c x.e.pl) (hv : OneE w vb x) :
  Calls Tryd.prog 57 #[.slice (some ⟨g, 0, none⟩) xs.length cap, .int .i64 i, .slice (some ⟨vb, 0, none⟩) 1 1] w fun e w' => Inserted w g i xs x e w' := by
 rcases Nat.eq_or_lt_of_le hi with rfl | hlt
 ·exact insert_end g cap vb xs x w hn hR hx hv
 ·rcases Nat.lt_or_ge cap (xs.length + 1) with hc | hc
  ·exact insert_grow g cap i vb xs x w hn hlt hc hR hx hv
  ·exact insert_shift g cap i vb xs x w hn hlt hc hvb hR hx hv
end Go.Proofs.YtfngmnhkhfgmjacDoor
namespace Go.Proofs.YtfngmnhkhfgmjacDoor
open Go.ChangeShapes Go.WideShapes Go.ChangeAt Go.RowKit Go.Lib
set_option maxRecDepth 100000
set_option maxHeartbeats 4000000 in
theorem delete_any (g cap i : Nat) (xs : List EnL) (w : World) (hn : xs.length ≤ 3000) (hi : i < xs.length) (hR : RowE w g cap xs) :
  Calls Tryd.prog 59 #[.slice (some ⟨g, 0, none⟩) xs.length cap, .int .i64 i, .int .i64 ((i : Int) + 1)] w fun e w' => e = .returned (.slice (some ⟨g, 0, none⟩) (xs.length - 1) cap) ∧ RowE w' g cap (xs.take i ++ xs.drop (i + 1)) ∧ w.grownBy w' (some g) := by
 obtain ⟨i0, hi0, hz0, hz1, hz2⟩ := info_parts Tryd.infoEnt
 have hcm := hR.2.2.1
 unfold maxLen at hcm
 have hnc := hR.2.1
 obtain ⟨⟨cur, hcur, hcs, hct⟩, -, -, hpl⟩ := id hR
 obtain ⟨n, hnn⟩ : ∃ n, xs.length = n := ⟨_, rfl⟩
 obtain ⟨news, hnews⟩ : ∃ news, news = cellsE (xs.drop (i + 1)) := ⟨_, rfl⟩
 have hdl : news.length = (n - (i + 1)) * 2 := by rw [hnews, cellsE_len, List.length_drop, hnn]
 have hcl0 : cur.toList.length = cap * 2 := by simpa using hcs
 rw [hnn] at hn hi hnc
 obtain ⟨C1, hC1⟩ : ∃ C1, C1 = cur.toList.take (i * 2) ++ cellsE (xs.drop (i + 1)) ++ cur.toList.drop (i * 2 + (cellsE (xs.drop (i + 1))).length) := ⟨_, rfl⟩
 obtain ⟨C2, hC2⟩ : ∃ C2, C2 = C1.take ((xs.length - 1) * 2) ++ [.slice none 0 0, .int .i64 0] ++ C1.drop ((xs.length - 1) * 2 + 2) := ⟨_, rfl⟩
 obtain ⟨hl2, ht2⟩ := del_cells hct (by rw [hcl0, hnn]; omega) (by rw [hnn]; exact hi) hC1 hC2
 have hl1 : C1.length = cap * 2 := by
  rw [hC1, ← hnews]
  simp only [List.length_append, List.length_take, List.length_drop, hdl, hcl0]
  omega
 obtain ⟨A, hA, hsrc⟩ : ∃ A : Addr, (if cap = i + 1 then some (⟨g, 0, none⟩ : Addr) else some ⟨g, (i + 1) * 2, none⟩) = some A ∧ Hid (∀ t u, news[t]? = some u → w.drew.cell? (A.add t) = some u) := by
  by_cases h : cap = i + 1
  ·refine ⟨⟨g, 0, none⟩, by simp [h], fun t u hu => ?_⟩
   have h0 : news.length = 0 := by rw [hdl]; omega
   rw [List.length_eq_zero_iff.1 h0] at hu
   simp at hu
  ·refine ⟨⟨g, (i + 1) * 2, none⟩, by simp [h], fun t u hu => ?_⟩
   rw [hnews, ← cellsE_drop, List.getElem?_drop] at hu
   rw [plain_add]
   exact hR.cells _ u hu
 have s1 : Hid (news.length = (n - (i + 1)) * 2) := hdl
 have s2 : Hid (∀ u ∈ news, u.oneCell' = true) := by rw [hnews]; exact cellsE_one _
 have s3 : Hid (∀ t, t < news.length → (w.drew.cell? ⟨g, 0 + i * 2 + t, none⟩).isSome = true ∧ w.drew.frozen? ⟨g, 0 + i * 2 + t, none⟩ = false) := by
  intro t ht
  rw [hdl] at ht
  exact ⟨hR.full (by omega), hR.frozen _⟩
 obtain ⟨W1, hW1⟩ : ∃ W1, W1 = w.drew.setRow g C1.toArray := ⟨_, rfl⟩
 have HW : Hid (W1 = w.drew.setCells g (0 + i * 2) news) := by
  show _ = _
  rw [setCells_row g 77 news (0 + i * 2) cur w.drew hcur (by rw [hdl]; omega), hW1, hC1, Nat.zero_add, hnews]
 have hW1h : W1.heap[g]? = some (.cells C1.toArray 77 (0, 0)) := by rw [hW1]; exact setRow_heap w.drew g cur _ _ _ hcur
 have hcl : ∀ ty c, (Builtin.clear_ #[43] ty #[.slice (some ⟨g, (i + (n - (i + 1))) * 2, none⟩) (n - (i + (n - (i + 1)))) c]).run Tryd.prog W1 = .ok (.tuple #[]) (W1.setRow g C2.toArray) := fun ty c => by
  rw [show n - (i + (n - (i + 1))) = 1 by omega, show i + (n - (i + 1)) = n - 1 by omega]
  rw [run_clear_one W1 43 77 ty (.agg #[.slice none 0 0, .int .i64 0]) (.slice none 0 0) (.int .i64 0) Tryd.underlying43 Tryd.zeroValue77 rfl rfl rfl g ((n - 1) * 2) c C1.toArray 77 hW1h (by rw [List.size_toArray, hl1]; omega), hC2, hnn]
 have HFin : Hid (RowE (W1.setRow g C2.toArray) g cap (xs.take i ++ xs.drop (i + 1)) ∧ w.grownBy (W1.setRow g C2.toArray) (some g)) := by
  rw [hW1, setRow_setRow]
  have hg' : w.grownBy (w.drew.setRow g C2.toArray) (some g) := grown_trans (grown_drew (grown_refl w _)) (grown_setRow ..)
  refine ⟨⟨⟨C2.toArray, setRow_heap w.drew g cur _ _ _ hcur, by rw [List.size_toArray, hl2, hcl0], ht2⟩, by simp; omega, hR.2.2.1, fun y hy => ?_⟩, hg'⟩
  refine PlTy.grown ?_ hcur hg'
  rcases List.mem_append.1 hy with hy | hy
  ·exact hpl y (List.mem_of_mem_take hy)
  ·exact hpl y (List.mem_of_mem_drop hy)
 rw [hnn]
 have hn' : (n : Int) ≤ 3000 := by omega
 have hi' : (i : Int) < (n : Int) := by omega
 have hc' : (n : Int) ≤ (cap : Int) := by omega
 have htn : ((i : Int) + 1).toNat = i + 1 := by omega
 have hb1 : (0 : Int) ≤ (i : Int) + 1 := by omega
 have hb2 : (i : Int) + 1 ≤ (n : Int) := by omega
 have hb3 : (i : Int) + 1 ≤ (cap : Int) := by omega
 have hb4 : (i : Int) ≤ (cap : Int) := by omega
 have hic : i ≤ cap := by omega
 have hjc : i + 1 ≤ cap := by omega
 have hRn : Hid (n - 1 = i + (n - (i + 1))) := by show _ = _; omega
 clear hnn hl1 hl2 ht2 hC1 hC2 hdl hW1 hW1h hR hcur hcs hct hcl0 hpl hnews
 go_enter Tryd.func59, Tryd.ntmps59
 go_wp2_with fail
 go_region_law (refine step_append_room rfl (.tmp 22) (.tmp 25) 43 rfl 77 i0 2 Tryd.underlying43 hi0 hz1 g 0 i cap (by simp [Act.eval, Act.put]) A (n - (i + 1)) (cap - (i + 1)) news (by simp [Act.eval, Act.put]) s1.out hsrc.out s2.out (by omega) s3.out ?_; rw [← HW.out])
 go_wp2_with fail
 go_ret
 rw [hRn.out]
 exact ⟨rfl, HFin.out⟩
end Go.Proofs.YtfngmnhkhfgmjacDoor
namespace Go.Proofs.YtfngmnhkhfgmjacDoor
open Go.ChangeShapes Go.WideShapes Go.ChangeAt Go.RowKit Go.Lib
set_option maxRecDepth 20000
theorem RowE.put {w : World} {g cap : Nat} {zs : List EnL} (h : RowE w g cap zs) (hk : zs.length < cap) {x : EnL} (hx : PlTy w x.A x.c x.e.pl) : RowE ((w.setCell ⟨g, zs.length * 2, none⟩ (.slice x.A x.e.pl.length x.c)).setCell ⟨g, zs.length * 2 + 1, none⟩ (.int .i64 x.e.n)) g cap (zs ++ [x]) ∧ w.grownBy ((w.setCell ⟨g, zs.length * 2, none⟩ (.slice x.A x.e.pl.length x.c)).setCell ⟨g, zs.length * 2 + 1, none⟩ (.int .i64 x.e.n)) (some g) := by
 obtain ⟨⟨cur, h1, h2, h3⟩, h4, h5, h6⟩ := id h
 have e : (w.setCell ⟨g, zs.length * 2, none⟩ (.slice x.A x.e.pl.length x.c)).setCell ⟨g, zs.length * 2 + 1, none⟩ (.int .i64 x.e.n) = w.setCells g (zs.length * 2) (cellsE [x]) := rfl
 have hx2 : (cellsE [x]).length = 2 := by rw [cellsE_len]; rfl
 have hl : cur.toList.length = cap * 2 := by simpa using h2
 rw [e, setCells_row g 77 (cellsE [x]) (zs.length * 2) cur w h1 (by rw [hx2]; omega)]
 refine ⟨h.lay ?_ ?_ (by simp; omega) fun y hy => ?_, grown_setRow ..⟩
 ·simp only [List.length_append, List.length_take, List.length_drop, hx2, hl]
  omega
 ·rw [cellsE_append, h3]
  exact take_join (by simp only [List.length_append, cellsE_len, List.length_cons, List.length_nil]; omega)
 ·rcases List.mem_append.1 hy with hy | hy
  ·exact h6 y hy
  ·rw [List.mem_singleton.1 hy]; exact hx
theorem grown_set {w w' : World} {g : Nat} (h : w.grownBy w' (some g)) (o : Nat) (v : Value) : w.grownBy (w'.setCell ⟨g, o, none⟩ v) (some g) :=
 ⟨h.os, h.tape, h.output, by simpa using h.size, fun i hi hr => (Below.heap_setCell w' ⟨g, o, none⟩ v i fun e => hr (by rw [e])).trans (h.block i hi hr)⟩
theorem grown_new {w w' : World} {r : Option Nat} (h : w.grownBy w' r) (o : Obj) : w.grownBy (w'.alloc o) r :=
 ⟨h.os, h.tape, h.output, by have := h.size; simp; omega, fun i hi hr => (Below.heap_alloc w' o i (Nat.lt_of_lt_of_le hi h.size)).trans (h.block i hi hr)⟩
theorem keepG {W w' : World} {g q : Nat} {u v : Value} (h : q < W.heap.size ∧ q ≠ g ∧ W.cell? ⟨q, 0, none⟩ = some u ∧ W.cell? ⟨q, 1, none⟩ = some v) (hG : W.grownBy w' (some g)) : W.grownBy w' (some g) ∧ w'.cell? ⟨q, 0, none⟩ = some u ∧ w'.cell? ⟨q, 1, none⟩ = some v := by
 have hb : w'.heap[q]? = W.heap[q]? := hG.block q h.1 fun e => h.2.1 (by simpa using e)
 exact ⟨hG, (World.cell?_of_block (a := ⟨q, 0, none⟩) hb).trans h.2.2.1, (World.cell?_of_block (a := ⟨q, 1, none⟩) hb).trans h.2.2.2⟩
set_option maxHeartbeats 8000000 in
theorem fresh_new (AE : Option Addr) (ce : Nat) (xs : List EnL) (w : World) (hn : xs.length ≤ 3000) (hS : ∀ k, k < xs.length → (xs.getD k noL).e.pl.length ≤ 4) (hE : EnsV w AE ce xs) :
  Calls Tryd.prog 41 #[.slice AE xs.length ce] w fun e w' => (∃ ys, e = .returned (.slice (some ⟨w.heap.size, 0, none⟩) xs.length xs.length) ∧ RowE w' w.heap.size xs.length ys ∧ lE ys = lE xs ∧ NewE w.heap.size ys) ∧ Below w.heap.size w w' := by
 obtain ⟨i0, hi0, hz0, hz1, hz2⟩ := info_parts Tryd.infoEnt
 have HE : Hid (EnsV w AE ce xs) := hE
 have HS : Hid (∀ k, k < xs.length → (xs.getD k noL).e.pl.length ≤ 4) := hS
 obtain ⟨n, hnn⟩ : ∃ n, xs.length = n := ⟨_, rfl⟩
 have HN : Hid (xs.length = n) := hnn
 rw [hnn] at hn ⊢
 have hmk : ∀ w', (Instr.makeSlice 43 (.int .i64 n) (.int .i64 n)).run Tryd.prog w' = .ok (.slice (some ⟨w'.heap.size, 0, none⟩) n n) (w'.alloc (.cells (madeCells (Value.agg #[.slice none 0 0, .int .i64 0]).cells (n * 2)) 77)) := fun w' => by
  have h := run_make (P := Tryd.prog) w' 43 77 i0 _ Tryd.underlying43 hi0 hz0 .i64 .i64 n n (by omega) (Int.le_refl _) (by rw [hz2]; omega) (by omega)
  rw [hz1] at h
  simpa using h
 have HR0 : Hid (RowE (w.alloc (.cells (madeCells (Value.agg #[.slice none 0 0, .int .i64 0]).cells (n * 2)) 77)) w.heap.size n []) := ⟨⟨_, heap_alloc_new w _, size_madeCells _ _, by simp [cellsE]⟩, Nat.zero_le _, by unfold maxLen; omega, fun x hx => by cases hx⟩
 have hn' : (n : Int) ≤ 3000 := by omega
 clear hE hS hnn
 go_enter Tryd.func41, Tryd.ntmps41
 go_wp2_with fail
 clear hmk
 go_loopg [11] n (fun g s11 wr => ∃ (k : Nat) (zs : List EnL), k ≤ n ∧ g = n - k ∧ s11 = .int .i64 k ∧ zs.length = k ∧ Hid (lE zs = (lE xs).take k ∧ NewE w.heap.size zs) ∧ RowE wr w.heap.size n zs ∧ Below w.heap.size w wr)
 case atStart => exact ⟨0, [], Nat.zero_le _, rfl, rfl, rfl, (⟨by simp [lE], fun _ h => by cases h⟩ : lE [] = (lE xs).take 0 ∧ NewE w.heap.size []), HR0.out, by go_grown⟩
 case round =>
  obtain ⟨k, zs, hk, rfl, rfl, hzl, HZ, hRow, hBw⟩ := hrel
  have HRow : Hid (RowE wr w.heap.size n zs) := hRow
  have HBw : Hid (Below w.heap.size w wr) := hBw
  have HZL : Hid (zs.length = k) := hzl
  by_cases hlt : k < n
  ·have hkx : k < xs.length := by rw [HN.out]; exact hlt
   have hki : (k : Int) < (n : Int) := by omega
   obtain ⟨-, -, h0 | ⟨b, o, rfl, hEs⟩⟩ := HE.out.later hBw
   ·have := HN.out; rw [h0] at this; simp at this; omega
   obtain ⟨c1, c2⟩ := hEs.at hkx
   have HCl : Hid (∀ w', Below wr.heap.size wr w' → Calls Tryd.prog 58 #[.slice (xs.getD k noL).A (xs.getD k noL).e.pl.length (xs.getD k noL).c] w' fun e w'' => (∃ A' c', e = .returned (.slice A' (xs.getD k noL).e.pl.length c') ∧ PlTy w'' A' c' (xs.getD k noL).e.pl ∧ NewA w.heap.size A') ∧ Below w'.heap.size w' w'') := fun w' hw' => (clone_new _ _ _ w' (HS.out k hkx) ((hEs.pl hkx).later hw')).mono fun _ _ ⟨⟨A', c', h1, h2, h3⟩, h4⟩ => ⟨⟨A', c', h1, h2, h3.le (Nat.le_trans HBw.out.size hw'.size)⟩, h4⟩
   have hBo := ownEn_below wr (xs.getD k noL).A (xs.getD k noL).e.pl.length (xs.getD k noL).c (xs.getD k noL).e.n 77
   have HBo : Hid (Below wr.heap.size wr (ownEn wr (xs.getD k noL).A (xs.getD k noL).e.pl.length (xs.getD k noL).c (xs.getD k noL).e.n 77)) := hBo
   have hzo := ownEn_size wr (xs.getD k noL).A (xs.getD k noL).e.pl.length (xs.getD k noL).c (xs.getD k noL).e.n 77
   have ho0 := ownEn_0 wr (xs.getD k noL).A (xs.getD k noL).e.pl.length (xs.getD k noL).c (xs.getD k noL).e.n 77
   have ho1 := ownEn_1 wr (xs.getD k noL).A (xs.getD k noL).e.pl.length (xs.getD k noL).c (xs.getD k noL).e.n 77
   have HLE : Hid ((lE xs).take (k + 1) = (lE xs).take k ++ [(xs.getD k noL).e]) := by
    show _ = _
    rw [List.take_succ_eq_append_getElem (by rw [lE_len]; exact hkx), ← lE_at, List.getD_eq_getElem?_getD, List.getElem?_eq_getElem (by rw [lE_len]; exact hkx)]
    rfl
   have hwg : w.heap.size < wr.heap.size := hRow.lt
   generalize xs.getD k noL = x at c1 c2 HCl HBo hzo ho0 ho1 HLE
   clear hEs hBo hRow hBw hzl
   have HPut : Hid (∀ (w3 : World) (A' : Option Addr) (c' : Nat), RowE w3 w.heap.size n zs → PlTy w3 A' c' x.e.pl → RowE ((w3.setCell ⟨w.heap.size, k * 2, none⟩ (.slice A' x.e.pl.length c')).setCell ⟨w.heap.size, k * 2 + 1, none⟩ (.int .i64 x.e.n)) w.heap.size n (zs ++ [⟨x.e, A', c'⟩]) ∧ w3.grownBy ((w3.setCell ⟨w.heap.size, k * 2, none⟩ (.slice A' x.e.pl.length c')).setCell ⟨w.heap.size, k * 2 + 1, none⟩ (.int .i64 x.e.n)) (some w.heap.size)) := fun w3 A' c' h1 h2 => by
    have h3 := h1.put (by rw [HZL.out]; exact hlt) (x := ⟨x.e, A', c'⟩) h2
    rw [HZL.out] at h3
    exact h3
   have HLN : Hid (∀ A' c', NewA w.heap.size A' → lE (zs ++ [⟨x.e, A', c'⟩]) = (lE xs).take (k + 1) ∧ NewE w.heap.size (zs ++ [⟨x.e, A', c'⟩])) := fun A' c' hn' => ⟨by rw [lE_append, HZ.out.1, HLE.out]; rfl, fun y hy => by
    rcases List.mem_append.1 hy with hy | hy
    ·exact HZ.out.2 y hy
    ·rw [List.mem_singleton.1 hy]; exact hn'⟩
   generalize hxl : x.e.pl.length = m at c1 HCl HBo hzo ho0 ho1 HPut
   generalize x.e.n = N at c2 HBo hzo ho0 ho1 HPut
   clear hxl HLE
   go_wp2_with fail
   obtain ⟨W2, hW2⟩ : ∃ W2, wr.alloc (.cells #[.slice x.A m x.c, .int .i64 N] 77) = W2 := ⟨_, rfl⟩
   have hBo : Below wr.heap.size wr W2 := by rw [← hW2]; exact HBo.out
   have hz2 : wr.heap.size < W2.heap.size := by rw [← hW2]; show _ < (ownEn wr x.A m x.c N 77).heap.size; rw [hzo]; omega
   have HBox : Hid (wr.heap.size < W2.heap.size ∧ wr.heap.size ≠ w.heap.size ∧ W2.cell? ⟨wr.heap.size, 0, none⟩ = some (.slice x.A m x.c) ∧ W2.cell? ⟨wr.heap.size, 1, none⟩ = some (.int .i64 N)) := by rw [← hW2]; exact ⟨by rw [hW2]; exact hz2, by omega, ho0, ho1⟩
   have HB2 : Hid (Below wr.heap.size wr W2) := hBo
   have HRow2 : Hid (RowE W2 w.heap.size n zs) := HRow.out.later hBo
   rw [hW2]
   clear hW2 hBo hzo ho0 ho1 HBo c1 c2
   go_region_held3 (fun w' => W2.grownBy w' (some w.heap.size) ∧ w'.cell? ⟨wr.heap.size, 0, none⟩ = some (.slice x.A m x.c) ∧ w'.cell? ⟨wr.heap.size, 1, none⟩ = some (.int .i64 N))
    ((refine keepG HBox.out ?_; (repeat (first | exact grown_refl _ _ | assumption | refine grown_drew ?_ | refine grown_set ?_ _ _)); done))
    (first | (go_at_call 58; refine (HCl.out _ (onB HB2.out (by go_grown))).mono ?_; rintro e w3 ⟨⟨A', c', rfl, hPT, hNw⟩, hb3⟩; have hN3 := onB (W0 := W2) (by go_grown) hb3; have HNw : Hid (NewA w.heap.size A') := hNw; clear hNw; have hG3 : W2.grownBy w3 (some w.heap.size) := grown_below hN3; have HB3 : Hid (Below W2.heap.size W2 w3) := hN3; have HPT : Hid (PlTy w3 A' c' x.e.pl) := hPT; obtain ⟨u0, d0⟩ := Option.isSome_iff_exists.1 ((HRow2.out.later hN3).full (j := k * 2) (by omega)); obtain ⟨u1, d1⟩ := Option.isSome_iff_exists.1 ((HRow2.out.later hN3).full (j := k * 2 + 1) (by omega)); have f0 := (HRow2.out.later hN3).frozen (k * 2); have f1 := (HRow2.out.later hN3).frozen (k * 2 + 1); clear hb3 hN3 hPT))
   clear d0 d1 f0 f1 hG3
   go_wp2_with fail
   go_roundg (n - (k + 1))
   case measure => omega
   case rel =>
    obtain ⟨h1, h2⟩ := HPut.out w3 A' c' (HRow2.out.later HB3.out) HPT.out
    refine ⟨k + 1, _, by omega, rfl, by go_num, ?_, HLN.out A' c' HNw.out, h1, ?_⟩
    ·rw [List.length_append, HZL.out]; rfl
    ·exact below_grown (onB HBw.out (onB HB2.out HB3.out)) h2 (onB HBw.out (onB HB2.out HB3.out)).size (Nat.le_refl _)
  ·have hke : k = n := by omega
   subst hke
   have HFin : Hid (lE zs = lE xs ∧ NewE w.heap.size zs) := ⟨by rw [HZ.out.1, List.take_of_length_le (by rw [lE_len, HN.out]; exact Nat.le_refl _)], HZ.out.2⟩
   clear hRow hBw hzl
   go_wp2_with fail
   go_ret
   exact ⟨⟨zs, rfl, HRow.out, HFin.out⟩, HBw.out⟩
theorem fresh_any (AE : Option Addr) (ce : Nat) (xs : List EnL) (w : World) (hn : xs.length ≤ 3000) (hS : ∀ k, k < xs.length → (xs.getD k noL).e.pl.length ≤ 4) (hE : EnsV w AE ce xs) :
  Calls Tryd.prog 41 #[.slice AE xs.length ce] w fun e w' => (∃ ys, e = .returned (.slice (some ⟨w.heap.size, 0, none⟩) xs.length xs.length) ∧ RowE w' w.heap.size xs.length ys ∧ lE ys = lE xs) ∧ Below w.heap.size w w' :=
 (fresh_new AE ce xs w hn hS hE).mono fun _ _ ⟨⟨ys, h1, h2, h3, _⟩, h4⟩ => ⟨⟨ys, h1, h2, h3⟩, h4⟩
end Go.Proofs.YtfngmnhkhfgmjacDoor
namespace Go.Proofs.YtfngmnhkhfgmjacDoor
open Go.ChangeShapes Go.WideShapes Go.ChangeAt Go.RowKit Go.Lib
set_option maxRecDepth 20000
def Edited (M : Nat) (w : World) (g : Nat) (E : Int) (l : List En) (e : Ending) (w' : World) : Prop :=
 (∃ B c ys, e = .returned (.tuple #[.slice B ys.length c, errV E]) ∧ ((E ≠ 0 ∧ B = none ∧ c = 0 ∧ ys = []) ∨ (E = 0 ∧ ∃ g', B = some ⟨g', 0, none⟩ ∧ g ≤ g' ∧ RowE w' g' c ys ∧ lE ys = l ∧ NewE M ys))) ∧ w.grownBy w' (some g)
theorem edit_set (D : Nat → Dm) (n : Nat) (l : List En) (p : List Int) (N : Int) : editErr D n l ⟨p, N, false⟩ = entOne D n ⟨p, N⟩ := by
 unfold editErr entOne
 rfl
set_option maxHeartbeats 8000000 in
theorem iset1_any {M : Nat} (A0 : Option Addr) (cap n : Nat) (D : Nat → Dm) (A : Nat → Option Addr) (C : Nat → Nat) (g cg : Nat) (xs : List EnL) (Ap : Option Addr) (cp : Nat) (p : List Int) (N : Int) (w : World) (hM : DimsV w A0 cap n D A C) (hP : PlAt w Ap cp p) (hR : RowE w g cg xs) (hEs : Ens D n (lE xs)) (hMx : NewE M xs) (hMw : M ≤ w.heap.size) :
  Calls Tryd.prog 40 #[.agg #[.slice A0 n cap], .slice (some ⟨g, 0, none⟩) xs.length cg, .agg #[.slice Ap p.length cp, .int .i64 N]] w fun e w' => Edited M w g (editErr D n (lE xs) ⟨p, N, false⟩) (setL (lE xs) p N) e w' := by
 rw [edit_set]
 have hB0 := ownOE_below w A0 n cap Ap p.length cp N
 have h := icheck1_any A0 cap n D A C Ap cp ⟨p, N⟩ (ownOE w A0 n cap Ap p.length cp N) hEs.right (hM.later hB0) (hP.later hB0)
 have HB0 : Hid (Below w.heap.size w (ownOE w A0 n cap Ap p.length cp N)) := hB0
 have hS0 := ownOE_size w A0 n cap Ap p.length cp N
 have h00 := ownOE_0 w A0 n cap Ap p.length cp N
 have h01 := ownOE_1 w A0 n cap Ap p.length cp N
 have HP : Hid (PlAt w Ap cp p) := hP
 have HR : Hid (RowE w g cg xs) := hR
 have HEs : Hid (Ens D n (lE xs)) := hEs
 have hgw : g < w.heap.size := hR.lt
 have hfew := few_of hEs
 unfold Edited
 clear hM hP hB0 hR
 by_cases he : entOne D n ⟨p, N⟩ = 0
 ·obtain ⟨hI, -, -⟩ := entOne_right hEs.right he
  have HF : Hid (∀ w', Below w.heap.size w w' → Calls Tryd.prog 38 #[.slice (some ⟨g, 0, none⟩) xs.length cg, .slice Ap p.length cp] w' fun e w'' => e = .returned (.tuple #[.int .i64 (cntE (lE xs) p : Nat), .bool (hasE (lE xs) p)]) ∧ Below w'.heap.size w' w'') := fun w' hw' => ifind_any _ _ xs Ap cp p w' hfew ((HR.out.later hw').ensV) HEs.out.rise (short_of HEs.out hI) (HP.out.later hw')
  have HCl : Hid (∀ w', Below w.heap.size w w' → Calls Tryd.prog 58 #[.slice Ap p.length cp] w' fun e w'' => (∃ A' c', e = .returned (.slice A' p.length c') ∧ PlTy w'' A' c' p ∧ NewA M A') ∧ Below w'.heap.size w' w'') := fun w' hw' => (clone_new _ _ _ w' (inO_short hI) (HP.out.later hw')).mono fun _ _ ⟨⟨A', c', h1, h2, h3⟩, h4⟩ => ⟨⟨A', c', h1, h2, h3.le (Nat.le_trans hMw hw'.size)⟩, h4⟩
  have hcl := cnt_le (lE xs) p
  rw [lE_len] at hcl
  rw [he, errV_zero] at h ⊢
  clear he hI
  cases hh : hasE (lE xs) p
  ·-- nothing stood there
   have HIn : Hid (∀ (w3 : World) (A' : Option Addr) (c' : Nat), Below w.heap.size w w3 → PlTy w3 A' c' p ∧ NewA M A' → Calls Tryd.prog 57 #[.slice (some ⟨g, 0, none⟩) xs.length cg, .int .i64 (cntE (lE xs) p : Nat), .slice (some ⟨w3.heap.size, 0, none⟩) 1 1] (ownEn w3 A' p.length c' N 77) fun e w' => ∃ g' cap' ys, e = .returned (.slice (some ⟨g', 0, none⟩) (xs.length + 1) cap') ∧ ys.length = xs.length + 1 ∧ RowE w' g' cap' ys ∧ lE ys = setL (lE xs) p N ∧ NewE M ys ∧ g ≤ g' ∧ (ownEn w3 A' p.length c' N 77).grownBy w' (some g)) := fun w3 A' c' hw' hT => by
    have hb := ownEn_below w3 A' p.length c' N 77
    have h1 := insert_any g cg (cntE (lE xs) p) w3.heap.size xs ⟨⟨p, N⟩, A', c'⟩ (ownEn w3 A' p.length c' N 77) hfew hcl (by have := hw'.size; omega) ((HR.out.later hw').later hb) (hT.1.later hb) (heap_alloc_new w3 _)
    refine h1.mono ?_
    rintro e w' ⟨g', cap', rfl, hRow, hgg, hgr⟩
    exact ⟨g', cap', _, rfl, by simp; omega, hRow, by rw [lE_ins, set_new hh], hMx.put hT.2, hgg, hgr⟩
   have HFF : Hid (∀ w', Below w.heap.size w w' → Calls Tryd.prog 38 #[.slice (some ⟨g, 0, none⟩) xs.length cg, .slice Ap p.length cp] w' fun e w'' => e = .returned (.tuple #[.int .i64 (cntE (lE xs) p : Nat), .bool false]) ∧ Below w'.heap.size w' w'') := fun w' hw' => by have h1 := HF.out w' hw'; rw [hh] at h1; exact h1
   clear HF hh
   generalize cntE (lE xs) p = i at HFF HIn hcl
   obtain ⟨m, hm⟩ : ∃ m, p.length = m := ⟨_, rfl⟩
   obtain ⟨nx, hnx⟩ : ∃ nx, xs.length = nx := ⟨_, rfl⟩
   rw [hm] at h HB0 hS0 h00 h01 HCl HFF HIn ⊢
   rw [hnx] at HFF HIn hfew hcl ⊢
   clear hm hnx
   go_enter Tryd.func40, Tryd.ntmps40
   go_wp2_with fail
   refine h.mono ?_
   rintro e w1 ⟨rfl, hb1⟩
   have hB1 : Below w.heap.size w w1 := onB HB0.out hb1
   have HB1 : Hid (Below w.heap.size w w1) := hB1
   have c0 : w1.cell? ⟨w.heap.size + 1, 0, none⟩ = some (.slice Ap m cp) := (hb1.cell (p := ⟨w.heap.size + 1, 0, none⟩) (by show w.heap.size + 1 < _; omega)).trans h00
   have c1 : w1.cell? ⟨w.heap.size + 1, 1, none⟩ = some (.int .i64 N) := (hb1.cell (p := ⟨w.heap.size + 1, 1, none⟩) (by show w.heap.size + 1 < _; omega)).trans h01
   have hz1 : w.heap.size + 1 < w1.heap.size := by have := hb1.size; omega
   have h2 := HFF.out w1 hB1
   clear hb1 h hB1 h00 h01 hS0
   go_wp2_with fail
   refine h2.mono ?_
   rintro e w2 ⟨rfl, hb2⟩
   have HB2 : Hid (Below w.heap.size w w2) := onB HB1.out hb2
   have d0 : w2.cell? ⟨w.heap.size + 1, 0, none⟩ = some (.slice Ap m cp) := (hb2.cell (p := ⟨w.heap.size + 1, 0, none⟩) hz1).trans c0
   have d1 : w2.cell? ⟨w.heap.size + 1, 1, none⟩ = some (.int .i64 N) := (hb2.cell (p := ⟨w.heap.size + 1, 1, none⟩) hz1).trans c1
   have HBox : Hid (w.heap.size + 1 < w2.heap.size ∧ w.heap.size + 1 ≠ g ∧ w2.cell? ⟨w.heap.size + 1, 0, none⟩ = some (.slice Ap m cp) ∧ w2.cell? ⟨w.heap.size + 1, 1, none⟩ = some (.int .i64 N)) := ⟨Nat.lt_of_lt_of_le hz1 hb2.size, by omega, d0, d1⟩
   clear hb2 c0 c1 h2 d0 d1
   go_wp2_with fail
   go_region_held3 (fun w' => w2.grownBy w' (some g) ∧ w'.cell? ⟨w.heap.size + 1, 0, none⟩ = some (.slice Ap m cp) ∧ w'.cell? ⟨w.heap.size + 1, 1, none⟩ = some (.int .i64 N))
    ((refine keepG HBox.out ?_; (repeat (first | exact grown_refl _ _ | assumption | refine grown_drew ?_ | refine grown_set ?_ _ _ | refine grown_new ?_ _)); done))
    (first | (go_at_call 58; refine (HCl.out _ (onB HB2.out (by go_grown))).mono ?_; rintro e w3 ⟨⟨A', c', rfl, hPT, hNw⟩, hb3⟩; have hN3 := onB (W0 := w2) (by go_grown) hb3; have hG3 : w2.grownBy w3 (some g) := grown_below hN3; have HB3 : Hid (Below w2.heap.size w2 w3) := hN3; have HPT : Hid (PlTy w3 A' c' p ∧ NewA M A') := ⟨hPT, hNw⟩; clear hb3 hN3 hPT hNw) | (go_at_call 57; refine (HIn.out w3 A' c' (onB HB2.out HB3.out) HPT.out).mono ?_; rintro e w4 ⟨g', cap', ys, rfl, hyl, hRow, hle, hnw, hgg, hgr⟩; have hG4 : w2.grownBy w4 (some g) := grown_trans (grown_trans hG3 (grown_below (ownEn_below ..))) hgr; have HRow : Hid (RowE w4 g' cap' ys) := hRow; have HLE : Hid (lE ys = setL (lE xs) p N ∧ NewE M ys) := ⟨hle, hnw⟩; have HYL : Hid (ys.length = nx + 1) := hyl; clear hRow hle hgr hyl hnw))
   go_wp2_with fail
   go_ret2
   exact ⟨⟨some ⟨g', 0, none⟩, cap', ys, by rw [HYL.out]; rfl, Or.inr ⟨by trivial, g', rfl, hgg, HRow.out, HLE.out⟩⟩, grown_trans (grown_below HB2.out) hG4⟩
  ·-- something stood there
   obtain ⟨hso, hil, -⟩ := set_old hh N
   have HSN : Hid (∀ w', Below w.heap.size w w' → RowE (w'.setCell ⟨g, cntE (lE xs) p * 2 + 1, none⟩ (.int .i64 N)) g cg (xs.set (cntE (lE xs) p) ⟨⟨(xs.getD (cntE (lE xs) p) noL).e.pl, N⟩, (xs.getD (cntE (lE xs) p) noL).A, (xs.getD (cntE (lE xs) p) noL).c⟩) ∧ w'.grownBy (w'.setCell ⟨g, cntE (lE xs) p * 2 + 1, none⟩ (.int .i64 N)) (some g)) := fun w' hw' => (HR.out.later hw').setN (by rw [lE_len] at hil; exact hil) N
   have HLE : Hid (lE (xs.set (cntE (lE xs) p) ⟨⟨(xs.getD (cntE (lE xs) p) noL).e.pl, N⟩, (xs.getD (cntE (lE xs) p) noL).A, (xs.getD (cntE (lE xs) p) noL).c⟩) = setL (lE xs) p N ∧ NewE M (xs.set (cntE (lE xs) p) ⟨⟨(xs.getD (cntE (lE xs) p) noL).e.pl, N⟩, (xs.getD (cntE (lE xs) p) noL).A, (xs.getD (cntE (lE xs) p) noL).c⟩)) := ⟨by rw [lE_set, hso, lE_at], hMx.set (by rw [lE_len] at hil; exact hil) _ _⟩
   have HFF : Hid (∀ w', Below w.heap.size w w' → Calls Tryd.prog 38 #[.slice (some ⟨g, 0, none⟩) xs.length cg, .slice Ap p.length cp] w' fun e w'' => e = .returned (.tuple #[.int .i64 (cntE (lE xs) p : Nat), .bool true]) ∧ Below w'.heap.size w' w'') := fun w' hw' => by have h1 := HF.out w' hw'; rw [hh] at h1; exact h1
   have HYL : Hid ((xs.set (cntE (lE xs) p) ⟨⟨(xs.getD (cntE (lE xs) p) noL).e.pl, N⟩, (xs.getD (cntE (lE xs) p) noL).A, (xs.getD (cntE (lE xs) p) noL).c⟩).length = xs.length) := List.length_set
   rw [lE_len] at hil
   clear HF hh hso
   generalize xs.set (cntE (lE xs) p) ⟨⟨(xs.getD (cntE (lE xs) p) noL).e.pl, N⟩, (xs.getD (cntE (lE xs) p) noL).A, (xs.getD (cntE (lE xs) p) noL).c⟩ = ys at HSN HLE HYL
   generalize cntE (lE xs) p = i at HFF HSN hcl hil
   obtain ⟨m, hm⟩ : ∃ m, p.length = m := ⟨_, rfl⟩
   obtain ⟨nx, hnx⟩ : ∃ nx, xs.length = nx := ⟨_, rfl⟩
   rw [hm] at h HB0 hS0 h00 h01 HCl HFF ⊢
   rw [hnx] at HFF hfew hcl hil HYL ⊢
   have hil' : (i : Int) < (nx : Int) := by omega
   have hcg : nx ≤ cg := by rw [← hnx]; exact HR.out.2.1
   clear hm hnx HCl
   go_enter Tryd.func40, Tryd.ntmps40
   go_wp2_with fail
   refine h.mono ?_
   rintro e w1 ⟨rfl, hb1⟩
   have hB1 : Below w.heap.size w w1 := onB HB0.out hb1
   have HB1 : Hid (Below w.heap.size w w1) := hB1
   have c0 : w1.cell? ⟨w.heap.size + 1, 0, none⟩ = some (.slice Ap m cp) := (hb1.cell (p := ⟨w.heap.size + 1, 0, none⟩) (by show w.heap.size + 1 < _; omega)).trans h00
   have c1 : w1.cell? ⟨w.heap.size + 1, 1, none⟩ = some (.int .i64 N) := (hb1.cell (p := ⟨w.heap.size + 1, 1, none⟩) (by show w.heap.size + 1 < _; omega)).trans h01
   have hz1 : w.heap.size + 1 < w1.heap.size := by have := hb1.size; omega
   have h2 := HFF.out w1 hB1
   clear hb1 h hB1 h00 h01 hS0
   go_wp2_with fail
   refine h2.mono ?_
   rintro e w2 ⟨rfl, hb2⟩
   have hB2 : Below w.heap.size w w2 := onB HB1.out hb2
   have HB2 : Hid (Below w.heap.size w w2) := hB2
   have d1 : w2.cell? ⟨w.heap.size + 1, 1, none⟩ = some (.int .i64 N) := (hb2.cell (p := ⟨w.heap.size + 1, 1, none⟩) hz1).trans c1
   obtain ⟨u, hu⟩ := Option.isSome_iff_exists.1 ((HR.out.later hB2).full (j := i * 2 + 1) (by omega))
   have hf := (HR.out.later hB2).frozen (i * 2 + 1)
   clear hb2 c0 c1 h2 hB2
   go_wp2_with fail
   go_ret2
   obtain ⟨r1, r2⟩ := HSN.out w2 HB2.out
   exact ⟨⟨some ⟨g, 0, none⟩, cg, ys, by rw [HYL.out]; rfl, Or.inr ⟨by trivial, g, rfl, Nat.le_refl _, r1, HLE.out⟩⟩, grown_trans (grown_below HB2.out) r2⟩
 ·have HV : Hid (errV (entOne D n ⟨p, N⟩) = .iface 69 (.int .i64 (entOne D n ⟨p, N⟩))) := errV_some he
  rw [errV_some he] at h
  have HE : Hid (entOne D n ⟨p, N⟩ ≠ 0) := he
  generalize entOne D n ⟨p, N⟩ = E at h HV HE
  generalize p.length = m at h HB0
  generalize xs.length = nx
  clear he hS0 h00 h01 hfew
  go_enter Tryd.func40, Tryd.ntmps40
  go_wp2_with fail
  refine h.mono ?_
  rintro e w1 ⟨rfl, hb1⟩
  have HB1 : Hid (Below w.heap.size w w1) := onB HB0.out hb1
  clear hb1
  go_wp2_with fail
  go_ret2
  rw [HV.out]
  exact ⟨⟨none, 0, [], rfl, Or.inl ⟨HE.out, rfl, rfl, rfl⟩⟩, grown_below HB1.out⟩
end Go.Proofs.YtfngmnhkhfgmjacDoor
namespace Go.Proofs.YtfngmnhkhfgmjacDoor
open Go.ChangeShapes Go.WideShapes Go.ChangeAt Go.RowKit Go.Lib
set_option maxRecDepth 20000
theorem edit_clr {D : Nat → Dm} {n : Nat} {l : List En} (hR : (allErr D n).2.2 = 0) (p : List Int) (N : Int) : editErr D n l ⟨p, N, true⟩ = if placeErr D n p ≠ 0 then placeErr D n p else if hasE l p = true then 0 else 5 := by
 rw [pe1 hR]
 unfold editErr
 rfl
theorem clr_in {l : List En} {p : List Int} (h : hasE l p = true) : cntE l p < l.length := (set_old h 0).2.1
set_option maxHeartbeats 8000000 in
theorem without_any {M : Nat} (A0 : Option Addr) (cap n : Nat) (D : Nat → Dm) (A : Nat → Option Addr) (C : Nat → Nat) (g cg : Nat) (xs : List EnL) (Ap : Option Addr) (cp : Nat) (p : List Int) (N : Int) (w : World) (hM : DimsV w A0 cap n D A C) (hP : PlAt w Ap cp p) (hR : RowE w g cg xs) (hEs : Ens D n (lE xs)) (hMx : NewE M xs) :
  Calls Tryd.prog 43 #[.agg #[.slice A0 n cap], .slice (some ⟨g, 0, none⟩) xs.length cg, .slice Ap p.length cp] w fun e w' => Edited M w g (editErr D n (lE xs) ⟨p, N, true⟩) (clrL (lE xs) p) e w' := by
 have hV := edit_clr (l := lE xs) hEs.right p N
 have hB0 := ownOut_below w A0 n cap 24
 have h := pcheck_any A0 cap n D A C Ap cp p (ownOut w A0 n cap 24) (hM.later hB0) (hP.later hB0)
 have HB0 : Hid (Below w.heap.size w (ownOut w A0 n cap 24)) := hB0
 have HP : Hid (PlAt w Ap cp p) := hP
 have HR : Hid (RowE w g cg xs) := hR
 have HEs : Hid (Ens D n (lE xs)) := hEs
 have hfew := few_of hEs
 unfold Edited
 clear hM hP hB0 hR
 by_cases hp : placeErr D n p = 0
 ·rw [if_neg (by simpa using hp)] at hV
  have hI := inO_of hp
  have HF : Hid (∀ w', Below w.heap.size w w' → Calls Tryd.prog 38 #[.slice (some ⟨g, 0, none⟩) xs.length cg, .slice Ap p.length cp] w' fun e w'' => e = .returned (.tuple #[.int .i64 (cntE (lE xs) p : Nat), .bool (hasE (lE xs) p)]) ∧ Below w'.heap.size w' w'') := fun w' hw' => ifind_any _ _ xs Ap cp p w' hfew ((HR.out.later hw').ensV) HEs.out.rise (short_of HEs.out hI) (HP.out.later hw')
  rw [hp, errV_zero] at h
  clear hp hI
  cases hh : hasE (lE xs) p
  ·rw [hh, if_neg (by simp)] at hV
   have HV : Hid (errV (editErr D n (lE xs) ⟨p, N, true⟩) = .iface 69 (.int .i64 5) ∧ editErr D n (lE xs) ⟨p, N, true⟩ ≠ 0) := by rw [hV]; exact ⟨rfl, by decide⟩
   have HFF : Hid (∀ w', Below w.heap.size w w' → Calls Tryd.prog 38 #[.slice (some ⟨g, 0, none⟩) xs.length cg, .slice Ap p.length cp] w' fun e w'' => e = .returned (.tuple #[.int .i64 (cntE (lE xs) p : Nat), .bool false]) ∧ Below w'.heap.size w' w'') := fun w' hw' => by have h1 := HF.out w' hw'; rw [hh] at h1; exact h1
   clear HF hh hV
   generalize cntE (lE xs) p = i at HFF
   generalize editErr D n (lE xs) ⟨p, N, true⟩ = E at HV
   obtain ⟨m, hm⟩ : ∃ m, p.length = m := ⟨_, rfl⟩
   obtain ⟨nx, hnx⟩ : ∃ nx, xs.length = nx := ⟨_, rfl⟩
   rw [hm] at h HFF ⊢
   rw [hnx] at HFF hfew ⊢
   clear hm hnx
   go_enter Tryd.func43, Tryd.ntmps43
   go_wp2_with fail
   refine h.mono ?_
   rintro e w1 ⟨rfl, hb1⟩
   have hB1 : Below w.heap.size w w1 := onB HB0.out hb1
   have HB1 : Hid (Below w.heap.size w w1) := hB1
   have h2 := HFF.out w1 hB1
   clear hb1 h hB1
   go_wp2_with fail
   refine h2.mono ?_
   rintro e w2 ⟨rfl, hb2⟩
   have HB2 : Hid (Below w.heap.size w w2) := onB HB1.out hb2
   clear hb2 h2
   go_wp2_with fail
   go_ret2
   rw [HV.out.1]
   exact ⟨⟨none, 0, [], rfl, Or.inl ⟨HV.out.2, rfl, rfl, rfl⟩⟩, grown_below HB2.out⟩
  ·rw [hh, if_pos rfl] at hV
   have hil := clr_in hh
   rw [lE_len] at hil
   have HDel : Hid (∀ w', Below w.heap.size w w' → Calls Tryd.prog 59 #[.slice (some ⟨g, 0, none⟩) xs.length cg, .int .i64 (cntE (lE xs) p : Nat), .int .i64 ((cntE (lE xs) p : Int) + 1)] w' fun e w'' => e = .returned (.slice (some ⟨g, 0, none⟩) (xs.length - 1) cg) ∧ RowE w'' g cg (xs.take (cntE (lE xs) p) ++ xs.drop (cntE (lE xs) p + 1)) ∧ w'.grownBy w'' (some g)) := fun w' hw' => delete_any g cg (cntE (lE xs) p) xs w' hfew hil (HR.out.later hw')
   have HLE : Hid (lE (xs.take (cntE (lE xs) p) ++ xs.drop (cntE (lE xs) p + 1)) = clrL (lE xs) p ∧ NewE M (xs.take (cntE (lE xs) p) ++ xs.drop (cntE (lE xs) p + 1))) := ⟨by unfold clrL; rw [lE_append, lE_take, lE_drop], hMx.cut⟩
   have HYL : Hid ((xs.take (cntE (lE xs) p) ++ xs.drop (cntE (lE xs) p + 1)).length = xs.length - 1) := by show _ = _; simp; omega
   have HFF : Hid (∀ w', Below w.heap.size w w' → Calls Tryd.prog 38 #[.slice (some ⟨g, 0, none⟩) xs.length cg, .slice Ap p.length cp] w' fun e w'' => e = .returned (.tuple #[.int .i64 (cntE (lE xs) p : Nat), .bool true]) ∧ Below w'.heap.size w' w'') := fun w' hw' => by have h1 := HF.out w' hw'; rw [hh] at h1; exact h1
   rw [hV, errV_zero]
   clear HF hh hV
   generalize hys : xs.take (cntE (lE xs) p) ++ xs.drop (cntE (lE xs) p + 1) = ys at HDel HLE HYL
   clear hys
   generalize cntE (lE xs) p = i at HFF HDel hil
   obtain ⟨m, hm⟩ : ∃ m, p.length = m := ⟨_, rfl⟩
   obtain ⟨nx, hnx⟩ : ∃ nx, xs.length = nx := ⟨_, rfl⟩
   rw [hm] at h HFF ⊢
   rw [hnx] at HFF HDel hfew hil HYL ⊢
   have hil' : (i : Int) < (nx : Int) := by omega
   clear hm hnx
   go_enter Tryd.func43, Tryd.ntmps43
   go_wp2_with fail
   refine h.mono ?_
   rintro e w1 ⟨rfl, hb1⟩
   have hB1 : Below w.heap.size w w1 := onB HB0.out hb1
   have HB1 : Hid (Below w.heap.size w w1) := hB1
   have h2 := HFF.out w1 hB1
   clear hb1 h hB1
   go_wp2_with fail
   refine h2.mono ?_
   rintro e w2 ⟨rfl, hb2⟩
   have hB2 : Below w.heap.size w w2 := onB HB1.out hb2
   have HB2 : Hid (Below w.heap.size w w2) := hB2
   have h3 := HDel.out w2 hB2
   clear hb2 h2 hB2
   go_wp2_with fail
   refine h3.mono ?_
   rintro e w3 ⟨rfl, hRow, hgr⟩
   have HRow : Hid (RowE w3 g cg ys) := hRow
   have HG : Hid (w2.grownBy w3 (some g)) := hgr
   clear hRow hgr h3
   go_wp2_with fail
   go_ret2
   exact ⟨⟨some ⟨g, 0, none⟩, cg, ys, by rw [HYL.out]; rfl, Or.inr ⟨by trivial, g, rfl, Nat.le_refl _, HRow.out, HLE.out⟩⟩, grown_trans (grown_below HB2.out) HG.out⟩
 ·rw [if_pos (by simpa using hp)] at hV
  have HV : Hid (errV (editErr D n (lE xs) ⟨p, N, true⟩) = .iface 69 (.int .i64 (placeErr D n p)) ∧ editErr D n (lE xs) ⟨p, N, true⟩ ≠ 0) := by rw [hV]; exact ⟨errV_some hp, hp⟩
  rw [errV_some hp] at h
  clear hp hV
  generalize placeErr D n p = F at h HV
  generalize editErr D n (lE xs) ⟨p, N, true⟩ = E at HV
  generalize p.length = m at h
  generalize xs.length = nx
  clear hfew
  go_enter Tryd.func43, Tryd.ntmps43
  go_wp2_with fail
  refine h.mono ?_
  rintro e w1 ⟨rfl, hb1⟩
  have HB1 : Hid (Below w.heap.size w w1) := onB HB0.out hb1
  clear hb1
  go_wp2_with fail
  go_ret2
  rw [HV.out.1]
  exact ⟨⟨none, 0, [], rfl, Or.inl ⟨HV.out.2, rfl, rfl, rfl⟩⟩, grown_below HB1.out⟩
end Go.Proofs.YtfngmnhkhfgmjacDoor
namespace Go.Proofs.YtfngmnhkhfgmjacDoor
open Go.ChangeShapes Go.WideShapes Go.ChangeAt Go.RowKit Go.Lib
set_option maxRecDepth 20000
def pickL (E : Int) (l : List En) : List En := if E = 0 then l else []
theorem pickL_bad {E : Int} (h : E ≠ 0) (l : List En) : pickL E l = [] := by unfold pickL; rw [if_neg h]
theorem pickL_in (l : List En) : pickL 0 l = l := rfl
def Answer (w : World) (E : Int) (l : List En) (e : Ending) (w' : World) : Prop := (∃ B c zs, e = .returned (.tuple #[.slice B zs.length c, errV E]) ∧ EnsV w' B c zs ∧ lE zs = pickL E l) ∧ Below w.heap.size w w'
theorem edited_ens {M : Nat} {w' : World} {g c : Nat} {E : Int} {l : List En} {B : Option Addr} {ys : List EnL} (h : (E ≠ 0 ∧ B = none ∧ c = 0 ∧ ys = []) ∨ (E = 0 ∧ ∃ g', B = some ⟨g', 0, none⟩ ∧ g ≤ g' ∧ RowE w' g' c ys ∧ lE ys = l ∧ NewE M ys)) : EnsV w' B c ys ∧ lE ys = pickL E l := by
 rcases h with ⟨h1, rfl, rfl, rfl⟩ | ⟨h1, g', rfl, _, h2, h3, _⟩
 ·exact ⟨EnsV.nil _ _ _ (by decide), by rw [pickL_bad h1]; rfl⟩
 ·exact ⟨h2.ensV, by rw [h1, pickL_in, h3]⟩
def changeErr (D : Nat → Dm) (n : Nat) (l : List En) (x : Ed) : Int := if entsErr D n l ≠ 0 then entsErr D n l else editErr D n l x
theorem change_bad {D : Nat → Dm} {n : Nat} {l : List En} (x : Ed) (h : entsErr D n l ≠ 0) : changeErr D n l x = entsErr D n l := by unfold changeErr; rw [if_pos h]
theorem change_in {D : Nat → Dm} {n : Nat} {l : List En} (x : Ed) (h : entsErr D n l = 0) : changeErr D n l x = editErr D n l x := by unfold changeErr; rw [if_neg (by simpa using h)]
theorem keepO {W w' : World} {q : Nat} {u : Value} (h : q < W.heap.size ∧ W.cell? ⟨q, 0, none⟩ = some u) (hB : Below W.heap.size W w') : Below W.heap.size W w' ∧ w'.cell? ⟨q, 0, none⟩ = some u := ⟨hB, (hB.cell (p := ⟨q, 0, none⟩) h.1).trans h.2⟩
theorem fresh_of {D : Nat → Dm} {n : Nat} {xs : List EnL} (hEs : Ens D n (lE xs)) : ∀ k, k < xs.length → (xs.getD k noL).e.pl.length ≤ 4 := fun k hk => by
 have h1 : (xs.getD k noL).e ∈ lE xs := List.mem_map.2 ⟨_, enl_mem hk, rfl⟩
 exact inO_short (hEs.each _ h1).1
theorem len_eq {xs ys : List EnL} (h : lE ys = lE xs) : ys.length = xs.length := by rw [← lE_len, h, lE_len]
set_option maxHeartbeats 8000000 in
theorem iset_any (A0 : Option Addr) (cap n : Nat) (D : Nat → Dm) (A : Nat → Option Addr) (C : Nat → Nat) (AE : Option Addr) (ce : Nat) (xs : List EnL) (Ap : Option Addr) (cp : Nat) (p : List Int) (N : Int) (w : World) (hM : DimsV w A0 cap n D A C) (hE : EnsV w AE ce xs) (hP : PlAt w Ap cp p) :
  Calls Tryd.prog 20 #[.agg #[.slice A0 n cap], .slice AE xs.length ce, .slice Ap p.length cp, .int .i64 N] w fun e w' => Answer w (changeErr D n (lE xs) ⟨p, N, false⟩) (setL (lE xs) p N) e w' := by
 have hB0 := ownOut_below w A0 n cap 24
 have h := icheck_any A0 cap n D A C AE ce xs (ownOut w A0 n cap 24) (hM.later hB0) (hE.later hB0)
 have HB0 : Hid (Below w.heap.size w (ownOut w A0 n cap 24)) := hB0
 have HM : Hid (DimsV w A0 cap n D A C) := hM
 have HE : Hid (EnsV w AE ce xs) := hE
 have HP : Hid (PlAt w Ap cp p) := hP
 unfold Answer
 clear hM hE hP hB0
 by_cases he : entsErr D n (lE xs) = 0
 ·have hEs := ens_of he
  have HFr : Hid (∀ w', Below w.heap.size w w' → Calls Tryd.prog 41 #[.slice AE xs.length ce] w' fun e w'' => ∃ g ys, e = .returned (.slice (some ⟨g, 0, none⟩) xs.length xs.length) ∧ w'.heap.size ≤ g ∧ RowE w'' g xs.length ys ∧ lE ys = lE xs ∧ Below w'.heap.size w' w'') := fun w' hw' => by
   refine (fresh_any AE ce xs w' (few_of hEs) (fresh_of hEs) (HE.out.later hw')).mono ?_
   rintro e w'' ⟨⟨ys, rfl, hRow, hle⟩, hb⟩
   exact ⟨w'.heap.size, ys, rfl, Nat.le_refl _, hRow, hle, hb⟩
  have HSt : Hid (∀ (w3 : World) (g : Nat) (ys : List EnL), Below w.heap.size w w3 → RowE w3 g xs.length ys → lE ys = lE xs → Calls Tryd.prog 40 #[.agg #[.slice A0 n cap], .slice (some ⟨g, 0, none⟩) xs.length xs.length, .agg #[.slice Ap p.length cp, .int .i64 N]] w3 fun e w' => (∃ B c zs, e = .returned (.tuple #[.slice B zs.length c, errV (changeErr D n (lE xs) ⟨p, N, false⟩)]) ∧ EnsV w' B c zs ∧ lE zs = pickL (changeErr D n (lE xs) ⟨p, N, false⟩) (setL (lE xs) p N)) ∧ w3.grownBy w' (some g)) := fun w3 g ys hw3 hRow hle => by
   have h1 := iset1_any (M := 0) A0 cap n D A C g xs.length ys Ap cp p N w3 (HM.out.later hw3) (HP.out.later hw3) hRow (by rw [hle]; exact hEs) (NewE.zero _) (Nat.zero_le _)
   rw [hle, len_eq hle, ← change_in _ he] at h1
   refine h1.mono ?_
   rintro e w' ⟨⟨B, c, zs, rfl, hc⟩, hg⟩
   obtain ⟨h2, h3⟩ := edited_ens hc
   exact ⟨⟨B, c, zs, rfl, h2, h3⟩, hg⟩
  rw [he, errV_zero] at h
  generalize changeErr D n (lE xs) ⟨p, N, false⟩ = E at HSt
  obtain ⟨m, hm⟩ : ∃ m, p.length = m := ⟨_, rfl⟩
  obtain ⟨nx, hnx⟩ : ∃ nx, xs.length = nx := ⟨_, rfl⟩
  rw [hm] at HSt ⊢
  rw [hnx] at h HFr HSt ⊢
  clear he hEs hm hnx
  go_enter Tryd.func20, Tryd.ntmps20
  go_wp2_with fail
  refine h.mono ?_
  rintro e w1 ⟨rfl, hb1⟩
  have HB1 : Hid (Below w.heap.size w w1) := onB HB0.out hb1
  have c0 : w1.cell? ⟨w.heap.size, 0, none⟩ = some (.slice A0 n cap) := (hb1.cell (p := ⟨w.heap.size, 0, none⟩) (by show w.heap.size < _; rw [ownOut_size]; omega)).trans (ownOut_at ..)
  have HBox : Hid (w.heap.size < w1.heap.size ∧ w1.cell? ⟨w.heap.size, 0, none⟩ = some (.slice A0 n cap)) := ⟨by have := hb1.size; rw [ownOut_size] at this; omega, c0⟩
  clear hb1 h c0
  go_wp2_with fail
  go_region_held3 (fun w' => Below w1.heap.size w1 w' ∧ w'.cell? ⟨w.heap.size, 0, none⟩ = some (.slice A0 n cap))
   ((refine keepO HBox.out ?_; go_grown; done))
   (first | (go_at_call 41; refine (HFr.out _ (onB HB1.out (by go_grown))).mono ?_; rintro e w3 ⟨g, ys, rfl, hgg, hRow, hle, hb3⟩; have hN3 := onB (W0 := w1) (by go_grown) hb3; have hy3 := hN3.size; have HG3 : Hid (w1.heap.size ≤ g) := hgg; have HB3 : Hid (Below w1.heap.size w1 w3) := hN3; have HRow : Hid (RowE w3 g nx ys) := hRow; have HLE : Hid (lE ys = lE xs) := hle; clear hb3 hgg hRow hle) | (go_at_call 40; refine (HSt.out w3 g ys (onB HB1.out HB3.out) HRow.out HLE.out).mono ?_; rintro e w4 ⟨⟨B, c, zs, rfl, hV, hl⟩, hgr⟩; have hN4 : Below w1.heap.size w1 w4 := below_grown HB3.out hgr HB3.out.size HG3.out; have hy4 := hN4.size; have HV : Hid (EnsV w4 B c zs) := hV; have HL : Hid (lE zs = pickL E (setL (lE xs) p N)) := hl; clear hgr hV hl))
  have HB4 : Hid (Below w.heap.size w w4) := onB HB1.out hN4
  clear hN3 hN4 hy3 hy4
  go_wp2_with fail
  go_ret2
  exact ⟨⟨B, c, zs, rfl, HV.out, HL.out⟩, HB4.out⟩
 ·have hc := change_bad (⟨p, N, false⟩ : Ed) he
  have HV : Hid (errV (changeErr D n (lE xs) ⟨p, N, false⟩) = .iface 69 (.int .i64 (entsErr D n (lE xs))) ∧ changeErr D n (lE xs) ⟨p, N, false⟩ ≠ 0) := by rw [hc]; exact ⟨errV_some he, he⟩
  rw [errV_some he] at h
  clear hc he
  generalize entsErr D n (lE xs) = F at h HV
  generalize changeErr D n (lE xs) ⟨p, N, false⟩ = E at HV
  generalize xs.length = nx at h
  generalize p.length = m
  go_enter Tryd.func20, Tryd.ntmps20
  go_wp2_with fail
  refine h.mono ?_
  rintro e w1 ⟨rfl, hb1⟩
  have HB1 : Hid (Below w.heap.size w w1) := onB HB0.out hb1
  clear hb1
  go_wp2_with fail
  go_ret2
  rw [HV.out.1, pickL_bad HV.out.2]
  exact ⟨⟨none, 0, [], rfl, EnsV.nil _ _ _ (by decide), rfl⟩, HB1.out⟩
set_option maxHeartbeats 8000000 in
theorem iclear_any (A0 : Option Addr) (cap n : Nat) (D : Nat → Dm) (A : Nat → Option Addr) (C : Nat → Nat) (AE : Option Addr) (ce : Nat) (xs : List EnL) (Ap : Option Addr) (cp : Nat) (p : List Int) (N : Int) (w : World) (hM : DimsV w A0 cap n D A C) (hE : EnsV w AE ce xs) (hP : PlAt w Ap cp p) :
  Calls Tryd.prog 22 #[.agg #[.slice A0 n cap], .slice AE xs.length ce, .slice Ap p.length cp] w fun e w' => Answer w (changeErr D n (lE xs) ⟨p, N, true⟩) (clrL (lE xs) p) e w' := by
 have hB0 := ownOut_below w A0 n cap 24
 have h := icheck_any A0 cap n D A C AE ce xs (ownOut w A0 n cap 24) (hM.later hB0) (hE.later hB0)
 have HB0 : Hid (Below w.heap.size w (ownOut w A0 n cap 24)) := hB0
 have HM : Hid (DimsV w A0 cap n D A C) := hM
 have HE : Hid (EnsV w AE ce xs) := hE
 have HP : Hid (PlAt w Ap cp p) := hP
 unfold Answer
 clear hM hE hP hB0
 by_cases he : entsErr D n (lE xs) = 0
 ·have hEs := ens_of he
  have HFr : Hid (∀ w', Below w.heap.size w w' → Calls Tryd.prog 41 #[.slice AE xs.length ce] w' fun e w'' => ∃ g ys, e = .returned (.slice (some ⟨g, 0, none⟩) xs.length xs.length) ∧ w'.heap.size ≤ g ∧ RowE w'' g xs.length ys ∧ lE ys = lE xs ∧ Below w'.heap.size w' w'') := fun w' hw' => by
   refine (fresh_any AE ce xs w' (few_of hEs) (fresh_of hEs) (HE.out.later hw')).mono ?_
   rintro e w'' ⟨⟨ys, rfl, hRow, hle⟩, hb⟩
   exact ⟨w'.heap.size, ys, rfl, Nat.le_refl _, hRow, hle, hb⟩
  have HSt : Hid (∀ (w3 : World) (g : Nat) (ys : List EnL), Below w.heap.size w w3 → RowE w3 g xs.length ys → lE ys = lE xs → Calls Tryd.prog 43 #[.agg #[.slice A0 n cap], .slice (some ⟨g, 0, none⟩) xs.length xs.length, .slice Ap p.length cp] w3 fun e w' => (∃ B c zs, e = .returned (.tuple #[.slice B zs.length c, errV (changeErr D n (lE xs) ⟨p, N, true⟩)]) ∧ EnsV w' B c zs ∧ lE zs = pickL (changeErr D n (lE xs) ⟨p, N, true⟩) (clrL (lE xs) p)) ∧ w3.grownBy w' (some g)) := fun w3 g ys hw3 hRow hle => by
   have h1 := without_any (M := 0) A0 cap n D A C g xs.length ys Ap cp p N w3 (HM.out.later hw3) (HP.out.later hw3) hRow (by rw [hle]; exact hEs) (NewE.zero _)
   rw [hle, len_eq hle, ← change_in _ he] at h1
   refine h1.mono ?_
   rintro e w' ⟨⟨B, c, zs, rfl, hc⟩, hg⟩
   obtain ⟨h2, h3⟩ := edited_ens hc
   exact ⟨⟨B, c, zs, rfl, h2, h3⟩, hg⟩
  rw [he, errV_zero] at h
  generalize changeErr D n (lE xs) ⟨p, N, true⟩ = E at HSt
  obtain ⟨m, hm⟩ : ∃ m, p.length = m := ⟨_, rfl⟩
  obtain ⟨nx, hnx⟩ : ∃ nx, xs.length = nx := ⟨_, rfl⟩
  rw [hm] at HSt ⊢
  rw [hnx] at h HFr HSt ⊢
  clear he hEs hm hnx
  go_enter Tryd.func22, Tryd.ntmps22
  go_wp2_with fail
  refine h.mono ?_
  rintro e w1 ⟨rfl, hb1⟩
  have HB1 : Hid (Below w.heap.size w w1) := onB HB0.out hb1
  have c0 : w1.cell? ⟨w.heap.size, 0, none⟩ = some (.slice A0 n cap) := (hb1.cell (p := ⟨w.heap.size, 0, none⟩) (by show w.heap.size < _; rw [ownOut_size]; omega)).trans (ownOut_at ..)
  have HBox : Hid (w.heap.size < w1.heap.size ∧ w1.cell? ⟨w.heap.size, 0, none⟩ = some (.slice A0 n cap)) := ⟨by have := hb1.size; rw [ownOut_size] at this; omega, c0⟩
  clear hb1 h c0
  go_wp2_with fail
  go_region_held3 (fun w' => Below w1.heap.size w1 w' ∧ w'.cell? ⟨w.heap.size, 0, none⟩ = some (.slice A0 n cap))
   ((refine keepO HBox.out ?_; go_grown; done))
   (first | (go_at_call 41; refine (HFr.out _ (onB HB1.out (by go_grown))).mono ?_; rintro e w3 ⟨g, ys, rfl, hgg, hRow, hle, hb3⟩; have hN3 := onB (W0 := w1) (by go_grown) hb3; have hy3 := hN3.size; have HG3 : Hid (w1.heap.size ≤ g) := hgg; have HB3 : Hid (Below w1.heap.size w1 w3) := hN3; have HRow : Hid (RowE w3 g nx ys) := hRow; have HLE : Hid (lE ys = lE xs) := hle; clear hb3 hgg hRow hle) | (go_at_call 43; refine (HSt.out w3 g ys (onB HB1.out HB3.out) HRow.out HLE.out).mono ?_; rintro e w4 ⟨⟨B, c, zs, rfl, hV, hl⟩, hgr⟩; have hN4 : Below w1.heap.size w1 w4 := below_grown HB3.out hgr HB3.out.size HG3.out; have hy4 := hN4.size; have HV : Hid (EnsV w4 B c zs) := hV; have HL : Hid (lE zs = pickL E (clrL (lE xs) p)) := hl; clear hgr hV hl))
  have HB4 : Hid (Below w.heap.size w w4) := onB HB1.out hN4
  clear hN3 hN4 hy3 hy4
  go_wp2_with fail
  go_ret2
  exact ⟨⟨B, c, zs, rfl, HV.out, HL.out⟩, HB4.out⟩
 ·have hc := change_bad (⟨p, N, true⟩ : Ed) he
  have HV : Hid (errV (changeErr D n (lE xs) ⟨p, N, true⟩) = .iface 69 (.int .i64 (entsErr D n (lE xs))) ∧ changeErr D n (lE xs) ⟨p, N, true⟩ ≠ 0) := by rw [hc]; exact ⟨errV_some he, he⟩
  rw [errV_some he] at h
  clear hc he
  generalize entsErr D n (lE xs) = F at h HV
  generalize changeErr D n (lE xs) ⟨p, N, true⟩ = E at HV
  generalize xs.length = nx at h
  generalize p.length = m
  go_enter Tryd.func22, Tryd.ntmps22
  go_wp2_with fail
  refine h.mono ?_
  rintro e w1 ⟨rfl, hb1⟩
  have HB1 : Hid (Below w.heap.size w w1) := onB HB0.out hb1
  clear hb1
  go_wp2_with fail
  go_ret2
  rw [HV.out.1, pickL_bad HV.out.2]
  exact ⟨⟨none, 0, [], rfl, EnsV.nil _ _ _ (by decide), rfl⟩, HB1.out⟩
end Go.Proofs.YtfngmnhkhfgmjacDoor
