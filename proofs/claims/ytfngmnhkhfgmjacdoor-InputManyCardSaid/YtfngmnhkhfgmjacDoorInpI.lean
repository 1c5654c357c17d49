/-
  An entry put into a row of entries of a call's own, into a new row: what slices.Insert answers where there is no room; and all ways together.
-/
import Derived.Test.YtfngmnhkhfgmjacDoorInpH
namespace Go.Proofs.YtfngmnhkhfgmjacDoor
open Go.ChangeShapes Go.WideShapes Go.ChangeAt Go.RowKit Go.Lib
set_option maxRecDepth 100000

theorem zero_size (k : Nat) : (Builtin.zeroCells (Value.agg #[.slice none 0 0, .int .i64 0]).cells k).size = k * 2 := by
  simp [Builtin.zeroCells, Value.cells]

set_option maxHeartbeats 4000000 in
theorem insert_grow (g cap i vb : Nat) (xs : List EnL) (x : EnL) (w : World) (hn : xs.length ≤ 3000) (hi : i < xs.length) (hroom : cap < xs.length + 1) (hR : RowE w g cap xs) (hx : PlTy w x.A x.c x.e.pl) (hv : OneE w vb x) :
    Calls Tryd.prog 57 #[.slice (some ⟨g, 0, none⟩) xs.length cap, .int .i64 i, .slice (some ⟨vb, 0, none⟩) 1 1] w fun e w' => Inserted w g i xs x e w' := by
  obtain ⟨i0, hi0, hz0, hz1, hz2⟩ := info_parts Tryd.infoEnt
  have hsz : (Tryd.prog.info? 77).map (·.size) = some 2 := by rw [hi0]; simp [hz1]
  have hcm := hR.2.2.1
  unfold maxLen at hcm
  have hnc := hR.2.1
  have hgw : g < w.heap.size := hR.lt
  have hvw : vb < w.heap.size := (Array.getElem?_eq_some_iff.1 hv).1
  obtain ⟨n, hnn⟩ : ∃ n, xs.length = n := ⟨_, rfl⟩
  rw [hnn] at hn hi hroom hnc
  have hdl : (cellsE (xs.drop i)).length = (n - i) * 2 := by rw [cellsE_len, List.length_drop, hnn]
  have htl : (cellsE (xs.take i)).length = i * 2 := by rw [cellsE_len, List.length_take, hnn, Nat.min_eq_left (by omega)]
  have hkk : (n : Int) + 1 - (i : Int) = ((n + 1 - i : Nat) : Int) := by omega
  have hik : i + (n + 1 - i) = n + 1 := by omega
  have hold : (Builtin.firstCells i0.size i (.slice (some ⟨g, 0, none⟩) i cap)).run Tryd.prog w.drew = .ok (cellsE (xs.take i)).toArray w.drew := by
    rw [hz1]
    exact run_firstCells_some w.drew 2 i ⟨g, 0, none⟩ i cap (cellsE (xs.take i)) htl (fun j v hj => by
      rw [plain_add, Nat.zero_add]
      rw [← cellsE_take, List.getElem?_take] at hj
      split at hj
      · exact hR.cells j v hj
      · cases hj)
  obtain ⟨G, hG⟩ : ∃ G, G = grownCap w (n + 1) cap 77 := ⟨_, rfl⟩
  obtain ⟨ROW, hROW⟩ : ∃ ROW : Array Value, ROW = (cellsE (xs.take i)).toArray ++ Builtin.zeroCells (Value.agg #[.slice none 0 0, .int .i64 0]).cells (n + 1 - i) ++ Builtin.zeroCells (Value.agg #[.slice none 0 0, .int .i64 0]).cells (G - (n + 1)) := ⟨_, rfl⟩
  have hrz : ∀ ty, (Builtin.append_ #[43, 3] ty #[.slice (some ⟨g, 0, none⟩) i cap, .int .i64 ((n : Int) + 1 - (i : Int))]).run Tryd.prog w = .ok (.slice (some ⟨w.heap.size, 0, none⟩) (n + 1) G) (w.drew.alloc (.cells ROW 77)) := fun ty => by
    have h := Lib.run_append_grow_zeros w 43 3 ty 77 i0 _ .i64 .i64 Tryd.underlying43 Tryd.underlying3 hi0 hz0 (some ⟨g, 0, none⟩) i cap (cellsE (xs.take i)) hold (n + 1 - i) (by omega) (by omega) (by omega) (by omega) (by rw [hz2]; omega) (by rw [hz2, hik]; exact growslice_fits hroom (by omega))
    rw [hik] at h
    rw [hkk, hROW, hG]
    exact h
  have hGn : n + 1 ≤ G := by rw [hG]; exact grownCap_ge w _ _ _
  have hG63 : G ≤ maxLen := by
    rw [hG]
    exact grownCap_le_maxLen w (n + 1) cap 77 (by unfold maxLen; omega)
  have hRs : ROW.size = G * 2 := by
    rw [hROW, Array.size_append, Array.size_append, zero_size, zero_size, List.size_toArray, htl]
    omega
  obtain ⟨C1, hC1⟩ : ∃ C1, C1 = ROW.toList.take (i * 2) ++ cellsE [x] ++ ROW.toList.drop (i * 2 + (cellsE [x]).length) := ⟨_, rfl⟩
  obtain ⟨C2, hC2⟩ : ∃ C2, C2 = C1.take ((i + 1) * 2) ++ cellsE (xs.drop i) ++ C1.drop ((i + 1) * 2 + (cellsE (xs.drop i)).length) := ⟨_, rfl⟩
  have hRl : ROW.toList.length = G * 2 := by simpa using hRs
  have hRt : ROW.toList.take (i * 2) = cellsE (xs.take i) := by
    rw [hROW, Array.toList_append, Array.toList_append, List.append_assoc]
    exact take_join htl
  obtain ⟨hl2, ht2⟩ := grow_cells (xs := xs) (x := x) (i := i) hRt (by rw [hRl, hnn]; omega) (by omega) hC1 hC2
  have hx2 : (cellsE [x]).length = 2 := by rw [cellsE_len]; rfl
  have hl1 : C1.length = G * 2 := by
    rw [hC1]
    simp only [List.length_append, List.length_take, List.length_drop, hx2, hRl]
    omega
  have hW1 : (w.drew.alloc (.cells ROW 77)).heap[w.heap.size]? = some (.cells ROW 77 (0, 0)) := heap_alloc_new w.drew _
  have hOld : ∀ k, k < w.heap.size → (w.drew.alloc (.cells ROW 77)).heap[k]? = w.heap[k]? := fun k hk => Below.heap_alloc w.drew _ k hk
  have hcpA : ∀ (W : World), W.heap = (w.drew.alloc (.cells ROW 77)).heap → ∀ ty dc, (Builtin.copy_ #[43, 43] ty #[.slice (some ⟨w.heap.size, i * 2, none⟩) (n + 1 - i) dc, .slice (some ⟨vb, 0, none⟩) 1 1]).run Tryd.prog W = .ok (goInt (Nat.min 1 (n + 1 - i))) (W.setRow w.heap.size C1.toArray) := fun W hW ty dc => by
    have h := run_copy_k (P := Tryd.prog) 2 W _ 43 ty 77 w.heap.size (i * 2) (n + 1 - i) dc ⟨vb, 0, none⟩ 1 1 ROW 77 (cellsE [x]) Tryd.underlying43 hsz (by rw [hW]; exact hW1) (by rw [hx2]; simp only [Nat.min_def]; split <;> omega)
      (fun j v hj => by
        rw [plain_add, Nat.zero_add]
        have hb : W.heap[vb]? = w.heap[vb]? := by rw [hW]; exact hOld vb hvw
        exact (World.cell?_of_block (a := ⟨vb, j, none⟩) hb).trans (hv.cells j v hj))
      (by rw [hx2, hRs]; omega) (cellsE_one _)
    rw [h, hC1]
  have hW2 : ((w.drew.alloc (.cells ROW 77)).setRow w.heap.size C1.toArray).heap[w.heap.size]? = some (.cells C1.toArray 77 (0, 0)) := setRow_heap _ _ ROW _ _ _ hW1
  have hcpB : ∀ (W : World), W.heap = ((w.drew.alloc (.cells ROW 77)).setRow w.heap.size C1.toArray).heap → ∀ ty dc sc, (Builtin.copy_ #[43, 43] ty #[.slice (some ⟨w.heap.size, (i + 1) * 2, none⟩) (n - i) dc, .slice (some ⟨g, i * 2, none⟩) (n - i) sc]).run Tryd.prog W = .ok (goInt (Nat.min (n - i) (n - i))) (W.setRow w.heap.size C2.toArray) := fun W hW ty dc sc => by
    have h := run_copy_k (P := Tryd.prog) 2 W _ 43 ty 77 w.heap.size ((i + 1) * 2) (n - i) dc ⟨g, i * 2, none⟩ (n - i) sc C1.toArray 77 (cellsE (xs.drop i)) Tryd.underlying43 hsz (by rw [hW]; exact hW2) (by rw [hdl]; simp only [Nat.min_def]; split <;> omega)
      (fun j v hj => by
        rw [plain_add]
        have hb : W.heap[g]? = w.heap[g]? := by rw [hW, setRow_other _ _ _ _ (Nat.ne_of_lt hgw)]; exact hOld g hgw
        refine (World.cell?_of_block (a := ⟨g, i * 2 + j, none⟩) hb).trans (hR.cells (i * 2 + j) v ?_)
        rw [← cellsE_drop, List.getElem?_drop] at hj
        exact hj)
      (by rw [hdl, List.size_toArray, hl1]; omega) (cellsE_one _)
    rw [h, hC2]
  have HFin : Hid (∀ w', w'.heap = (((w.drew.alloc (.cells ROW 77)).setRow w.heap.size C1.toArray).setRow w.heap.size C2.toArray).heap → w'.os = w.os → w'.tape = w.tape → w'.output = w.output → RowE w' w.heap.size G (xs.take i ++ x :: xs.drop i) ∧ w.grownBy w' (some g)) := by
    intro w' hw' h1 h2 h3
    rw [setRow_setRow] at hw'
    have hB : Below w.heap.size w w' := ⟨h1, h2, h3, by rw [hw', setRow_size]; show w.heap.size ≤ (w.alloc _).heap.size; simp, fun k hk => by rw [hw', setRow_other _ _ _ _ (Nat.ne_of_lt hk)]; exact hOld k hk⟩
    refine ⟨⟨⟨C2.toArray, by rw [hw']; exact setRow_heap _ _ ROW _ _ _ hW1, by rw [List.size_toArray, hl2, hRl], ht2⟩, by simp; omega, hG63, fun y hy => ?_⟩, grown_below hB⟩
    refine PlTy.later ?_ hB
    rcases List.mem_append.1 hy with hy | hy
    · exact hR.2.2.2 y (List.mem_of_mem_take hy)
    · rcases List.mem_cons.1 hy with rfl | hy
      · exact hx
      · exact hR.2.2.2 y (List.mem_of_mem_drop hy)
  have hE1 : ((w.alloc (.cells ROW 77)).drew).heap = (w.drew.alloc (.cells ROW 77)).heap := rfl
  have hF1 : (((w.alloc (.cells ROW 77)).drew.setRow w.heap.size C1.toArray).drew).heap = ((w.drew.alloc (.cells ROW 77)).setRow w.heap.size C1.toArray).heap := rfl
  unfold Inserted
  rw [hnn]
  unfold maxLen at hG63
  have hn' : (n : Int) ≤ 3000 := by omega
  have hi' : (i : Int) < (n : Int) := by omega
  have hr' : (cap : Int) < (n : Int) + 1 := by omega
  have hne : ¬ ((i : Int) = (n : Int)) := by omega
  have hGi : ¬ (G = i) := by omega
  have hGim : ¬ (G = i + 1) := by omega
  have hci : ¬ (cap = i) := by omega
  have hw1 : IntKind.i64.wrap ((i : Int) + 1) = (i : Int) + 1 := by rw [IntKind.wrap_i64]; omega
  have hb1 : (0 : Int) ≤ (i : Int) + 1 := by omega
  have htn : ((i : Int) + 1).toNat = i + 1 := by omega
  have hin : i ≤ n := by omega
  have hb3 : (i : Int) ≤ (n : Int) + 1 := by omega
  have hgl : g ≤ w.heap.size := Nat.le_of_lt hgw
  clear hnn hl1 hl2 ht2 hC1 hC2 hdl htl hW1 hW2 hR hx hv hkk hik hold hROW hG hRs hRl hRt hx2 hOld
  go_enter Tryd.func57, Tryd.ntmps57
  go_wp2_with (first
    | (at_builtin; refine Lib.wpList_append_run _ rfl _ _ _ _ rfl _ _ rfl rfl _ _ (hrz _) ?_)
    | (at_builtin; refine wpList_copy_runI _ rfl _ _ 43 43 rfl _ _ rfl rfl (hcpA _ hE1 _ _) ?_))
  go_region_law (refine step_copy_runI rfl _ _ 43 43 rfl (.slice (some ⟨w.heap.size, (i + 1) * 2, none⟩) (n - i) (G - (i + 1))) (.slice (some ⟨g, i * 2, none⟩) (n - i) (cap - i)) (by simp [Act.eval, Act.put]) (by simp [Act.eval, Act.put]) (hcpB _ hF1 3 (G - (i + 1)) (cap - i)) ?_)
  go_wp2_with fail
  go_ret
  obtain ⟨h1, h2⟩ := HFin.out (((w.alloc (.cells ROW 77)).drew.setRow w.heap.size C1.toArray).drew.setRow w.heap.size C2.toArray) rfl rfl rfl rfl
  exact ⟨w.heap.size, G, rfl, h1, hgl, h2⟩

theorem insert_any (g cap i vb : Nat) (xs : List EnL) (x : EnL) (w : World) (hn : xs.length ≤ 3000) (hi : i ≤ xs.length) (hvb : vb ≠ g) (hR : RowE w g cap xs) (hx : PlTy w x.A x.c x.e.pl) (hv : OneE w vb x) :
    Calls Tryd.prog 57 #[.slice (some ⟨g, 0, none⟩) xs.length cap, .int .i64 i, .slice (some ⟨vb, 0, none⟩) 1 1] w fun e w' => Inserted w g i xs x e w' := by
  rcases Nat.eq_or_lt_of_le hi with rfl | hlt
  · exact insert_end g cap vb xs x w hn hR hx hv
  · rcases Nat.lt_or_ge cap (xs.length + 1) with hc | hc
    · exact insert_grow g cap i vb xs x w hn hlt hc hR hx hv
    · exact insert_shift g cap i vb xs x w hn hlt hc hvb hR hx hv
end Go.Proofs.YtfngmnhkhfgmjacDoor
