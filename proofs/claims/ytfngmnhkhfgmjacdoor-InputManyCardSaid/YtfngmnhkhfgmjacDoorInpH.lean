/-
  An entry put into a row of entries of a call's own, in place: what slices.Insert answers where there is room.
-/
import Derived.Test.YtfngmnhkhfgmjacDoorInpG
namespace Go.Proofs.YtfngmnhkhfgmjacDoor
open Go.ChangeShapes Go.WideShapes Go.ChangeAt Go.RowKit Go.Lib
set_option maxRecDepth 100000

theorem ent_over (w : World) (g vb o lb cb kB : Nat) (x : EnL) (cur : Array Value) (hvb : vb ≠ g) (hv : OneE w vb x) (hg : w.heap[g]? = some (.cells cur 77 (0, 0))) (hk : cur.size = kB) (hk0 : kB ≠ 0) :
    (callFunc 73 #[.slice (some ⟨vb, 0, none⟩) 1 1, .slice (some ⟨g, o, none⟩) lb cb]).run Tryd.prog w = .ok (.value (.bool false)) w := by
  rw [run_callFunc_extern Tryd.func73 (by kernel_rfl) (by kernel_rfl) (by kernel_rfl) (e := Extern.SlicesOverlaps.overlaps #[43, 43] #[4]) (by kernel_rfl),
    Lib.run_overlaps_apart w 43 4 77 Tryd.underlying43 2 Tryd.sizeOf77 ⟨vb, 0, none⟩ ⟨g, o, none⟩ 1 1 lb cb hvb 77 77 2 kB (by simp [World.shape?, show w.heap[vb]? = _ from hv]) (by simp [World.shape?, hg, hk]) hk0 (Lib.frozen_of_heap hv 0) (Lib.frozen_of_heap hv 2)]
  rfl

set_option maxHeartbeats 4000000 in
theorem insert_shift (g cap i vb : Nat) (xs : List EnL) (x : EnL) (w : World) (hn : xs.length ≤ 3000) (hi : i < xs.length) (hroom : xs.length + 1 ≤ cap) (hvb : vb ≠ g) (hR : RowE w g cap xs) (hx : PlTy w x.A x.c x.e.pl) (hv : OneE w vb x) :
    Calls Tryd.prog 57 #[.slice (some ⟨g, 0, none⟩) xs.length cap, .int .i64 i, .slice (some ⟨vb, 0, none⟩) 1 1] w fun e w' => Inserted w g i xs x e w' := by
  obtain ⟨i0, hi0, hz0, hz1, hz2⟩ := info_parts Tryd.infoEnt
  have hsz : (Tryd.prog.info? 77).map (·.size) = some 2 := by rw [hi0]; simp [hz1]
  have hcm := hR.2.2.1
  unfold maxLen at hcm
  obtain ⟨⟨cur, hcur, hcs, hct⟩, -, -, hpl⟩ := id hR
  have hov : ∀ o lb cb, (callFunc 73 #[.slice (some ⟨vb, 0, none⟩) 1 1, .slice (some ⟨g, o, none⟩) lb cb]).run Tryd.prog w = .ok (.value (.bool false)) w := fun o lb cb => ent_over w g vb o lb cb (cap * 2) x cur hvb hv hcur hcs (by omega)
  obtain ⟨n, hnn⟩ : ∃ n, xs.length = n := ⟨_, rfl⟩
  have hdl : (cellsE (xs.drop i)).length = (n - i) * 2 := by rw [cellsE_len, List.length_drop, hnn]
  obtain ⟨C1, hC1⟩ : ∃ C1, C1 = cur.toList.take ((i + 1) * 2) ++ cellsE (xs.drop i) ++ cur.toList.drop ((i + 1) * 2 + (cellsE (xs.drop i)).length) := ⟨_, rfl⟩
  obtain ⟨C2, hC2⟩ : ∃ C2, C2 = C1.take (i * 2) ++ cellsE [x] ++ C1.drop (i * 2 + (cellsE [x]).length) := ⟨_, rfl⟩
  have hlen : (xs.length + 1) * 2 ≤ cur.toList.length := by
    have h1 : cur.toList.length = cap * 2 := by simpa using hcs
    omega
  obtain ⟨hl2, ht2⟩ := ins_cells hct hlen (Nat.le_of_lt hi) hC1 hC2
  have hl1 : C1.length = cur.size := by
    rw [hC1]
    simp only [List.length_append, List.length_take, List.length_drop, hdl, Array.length_toList, hcs]
    omega
  have hcp1 : ∀ ty dc sc, (Builtin.copy_ #[43, 43] ty #[.slice (some ⟨g, (i + 1) * 2, none⟩) (n - i) dc, .slice (some ⟨g, i * 2, none⟩) (n + 1 - i) sc]).run Tryd.prog w.drew = .ok (goInt (Nat.min (n + 1 - i) (n - i))) (w.drew.setRow g C1.toArray) := fun ty dc sc => by
    rw [hC1]
    exact run_copy_k 2 w.drew _ _ ty 77 g ((i + 1) * 2) (n - i) dc ⟨g, i * 2, none⟩ (n + 1 - i) sc cur 77 (cellsE (xs.drop i)) Tryd.underlying43 hsz hcur (by rw [hdl]; simp only [Nat.min_def]; split <;> omega)
      (fun j v hj => by
        rw [plain_add]
        refine hR.cells (i * 2 + j) v ?_
        rw [← cellsE_drop, List.getElem?_drop] at hj
        exact hj)
      (by rw [hdl]; omega) (cellsE_one _)
  have hW1 : (w.drew.setRow g C1.toArray).heap[g]? = some (.cells C1.toArray 77 (0, 0)) := setRow_heap w.drew g cur _ _ _ hcur
  have hcp2 : ∀ (W : World), W.heap = (w.drew.setRow g C1.toArray).heap → ∀ ty dc, (Builtin.copy_ #[43, 43] ty #[.slice (some ⟨g, i * 2, none⟩) (n + 1 - i) dc, .slice (some ⟨vb, 0, none⟩) 1 1]).run Tryd.prog W = .ok (goInt (Nat.min 1 (n + 1 - i))) (W.setRow g C2.toArray) := fun W hW ty dc => by
    have h := run_copy_k (P := Tryd.prog) 2 W _ 43 ty 77 g (i * 2) (n + 1 - i) dc ⟨vb, 0, none⟩ 1 1 C1.toArray 77 (cellsE [x]) Tryd.underlying43 hsz (by rw [hW]; exact hW1) (by rw [cellsE_len]; simp only [Nat.min_def]; split <;> simp <;> omega)
      (fun j v hj => by
        rw [plain_add, Nat.zero_add]
        have hb : W.heap[vb]? = w.heap[vb]? := by rw [hW, setRow_other _ _ _ _ hvb]; rfl
        exact (World.cell?_of_block (a := ⟨vb, j, none⟩) hb).trans (hv.cells j v hj))
      (by rw [cellsE_len]; simp [hl1, hcs]; omega) (cellsE_one _)
    rw [h, hC2]
  have HFin : Hid (∀ w', w'.heap = ((w.drew.setRow g C1.toArray).setRow g C2.toArray).heap → w'.os = w.os → w'.tape = w.tape → w'.output = w.output → RowE w' g cap (xs.take i ++ x :: xs.drop i) ∧ w.grownBy w' (some g)) := by
    intro w' hw' h1 h2 h3
    rw [setRow_setRow] at hw'
    have hg' : w.grownBy w' (some g) := ⟨h1, h2, h3, by rw [hw', setRow_size]; exact Nat.le_refl _, fun k hk hne => by rw [hw', setRow_other _ _ _ _ fun e => hne (by rw [e])]; rfl⟩
    refine ⟨⟨⟨C2.toArray, by rw [hw']; exact setRow_heap w.drew g cur _ _ _ hcur, by rw [List.size_toArray, hl2, Array.length_toList, hcs], ht2⟩, by simp; omega, hR.2.2.1, fun y hy => ?_⟩, hg'⟩
    refine PlTy.grown ?_ hcur hg'
    rcases List.mem_append.1 hy with hy | hy
    · exact hpl y (List.mem_of_mem_take hy)
    · rcases List.mem_cons.1 hy with rfl | hy
      · exact hx
      · exact hpl y (List.mem_of_mem_drop hy)
  unfold Inserted
  rw [hnn] at hn hi hroom ⊢
  have hn' : (n : Int) ≤ 3000 := by omega
  have hi' : (i : Int) < (n : Int) := by omega
  have hr' : (n : Int) + 1 ≤ (cap : Int) := by omega
  have hz2 : ¬ ((i : Int) = (n : Int)) := by omega
  have hb2 : ¬ (cap = i + 1) := by omega
  have hb4 : ¬ (cap = i) := by omega
  have hw1 : IntKind.i64.wrap ((i : Int) + 1) = (i : Int) + 1 := by rw [IntKind.wrap_i64]; omega
  have hb1 : (0 : Int) ≤ (i : Int) + 1 := by omega
  have htn : ((i : Int) + 1).toNat = i + 1 := by omega
  have hin : i ≤ n := by omega
  have hb3 : (i : Int) ≤ (n : Int) + 1 := by omega
  clear hcm hpl hnn hl1 hl2 ht2 hC1 hC2 hlen hdl hW1 hcur hcs hct hR hx hv
  go_enter Tryd.func57, Tryd.ntmps57
  go_wp2_with (simp only [hov])
  go_region_law (refine step_copy_runI rfl _ _ 43 43 rfl _ _ (by simp [Act.eval, Act.put]) (by simp [Act.eval, Act.put]) (hcp1 _ _ _) ?_)
  go_wp2_with (at_builtin; refine wpList_copy_runI _ rfl _ _ 43 43 rfl _ _ rfl rfl (hcp2 _ rfl _ _) ?_)
  go_ret
  obtain ⟨h1, h2⟩ := HFin.out _ rfl rfl rfl rfl
  exact ⟨g, cap, rfl, h1, Nat.le_refl _, h2⟩
end Go.Proofs.YtfngmnhkhfgmjacDoor
