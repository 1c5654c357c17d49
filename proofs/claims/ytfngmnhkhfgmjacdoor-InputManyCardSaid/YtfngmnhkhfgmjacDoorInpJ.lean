/-
  An entry taken out of a row of entries of a call's own: what slices.Delete answers.
-/
import Derived.Test.YtfngmnhkhfgmjacDoorInpI
namespace Go.Proofs.YtfngmnhkhfgmjacDoor
open Go.ChangeShapes Go.WideShapes Go.ChangeAt Go.RowKit Go.Lib
set_option maxRecDepth 100000

set_option maxHeartbeats 4000000 in
theorem delete_any (g cap i : Nat) (xs : List EnL) (w : World) (hn : xs.length ≤ 3000) (hi : i < xs.length) (hR : RowE w g cap xs) :
    Calls Tryd.prog 59 #[.slice (some ⟨g, 0, none⟩) xs.length cap, .int .i64 i, .int .i64 ((i : Int) + 1)] w fun e w' => e = .returned (.slice (some ⟨g, 0, none⟩) (xs.length - 1) cap) ∧ RowE w' g cap (xs.take i ++ xs.drop (i + 1)) ∧ w.grownBy w' (some g) := by
  obtain ⟨i0, hi0, hz0, hz1, hz2⟩ := info_parts Tryd.infoEnt
  have hcm := hR.2.2.1
  unfold maxLen at hcm
  have hnc := hR.2.1
  obtain ⟨⟨cur, hcur, hcs, hct⟩, -, -, hpl⟩ := id hR
  obtain ⟨n, hnn⟩ : ∃ n, xs.length = n := ⟨_, rfl⟩
  obtain ⟨news, hnews⟩ : ∃ news, news = cellsE (xs.drop (i + 1)) := ⟨_, rfl⟩
  have hdl : news.length = (n - (i + 1)) * 2 := by rw [hnews, cellsE_len, List.length_drop, hnn]
  have hcl0 : cur.toList.length = cap * 2 := by simpa using hcs
  rw [hnn] at hn hi hnc
  obtain ⟨C1, hC1⟩ : ∃ C1, C1 = cur.toList.take (i * 2) ++ cellsE (xs.drop (i + 1)) ++ cur.toList.drop (i * 2 + (cellsE (xs.drop (i + 1))).length) := ⟨_, rfl⟩
  obtain ⟨C2, hC2⟩ : ∃ C2, C2 = C1.take ((xs.length - 1) * 2) ++ [.slice none 0 0, .int .i64 0] ++ C1.drop ((xs.length - 1) * 2 + 2) := ⟨_, rfl⟩
  obtain ⟨hl2, ht2⟩ := del_cells hct (by rw [hcl0, hnn]; omega) (by rw [hnn]; exact hi) hC1 hC2
  have hl1 : C1.length = cap * 2 := by
    rw [hC1, ← hnews]
    simp only [List.length_append, List.length_take, List.length_drop, hdl, hcl0]
    omega
  obtain ⟨A, hA, hsrc⟩ : ∃ A : Addr, (if cap = i + 1 then some (⟨g, 0, none⟩ : Addr) else some ⟨g, (i + 1) * 2, none⟩) = some A ∧ Hid (∀ t u, news[t]? = some u → w.drew.cell? (A.add t) = some u) := by
    by_cases h : cap = i + 1
    · refine ⟨⟨g, 0, none⟩, by simp [h], fun t u hu => ?_⟩
      have h0 : news.length = 0 := by rw [hdl]; omega
      rw [List.length_eq_zero_iff.1 h0] at hu
      simp at hu
    · refine ⟨⟨g, (i + 1) * 2, none⟩, by simp [h], fun t u hu => ?_⟩
      rw [hnews, ← cellsE_drop, List.getElem?_drop] at hu
      rw [plain_add]
      exact hR.cells _ u hu
  have s1 : Hid (news.length = (n - (i + 1)) * 2) := hdl
  have s2 : Hid (∀ u ∈ news, u.oneCell' = true) := by rw [hnews]; exact cellsE_one _
  have s3 : Hid (∀ t, t < news.length → (w.drew.cell? ⟨g, 0 + i * 2 + t, none⟩).isSome = true ∧ w.drew.frozen? ⟨g, 0 + i * 2 + t, none⟩ = false) := by
    intro t ht
    rw [hdl] at ht
    exact ⟨hR.full (by omega), hR.frozen _⟩
  obtain ⟨W1, hW1⟩ : ∃ W1, W1 = w.drew.setRow g C1.toArray := ⟨_, rfl⟩
  have HW : Hid (W1 = w.drew.setCells g (0 + i * 2) news) := by
    show _ = _
    rw [setCells_row g 77 news (0 + i * 2) cur w.drew hcur (by rw [hdl]; omega), hW1, hC1, Nat.zero_add, hnews]
  have hW1h : W1.heap[g]? = some (.cells C1.toArray 77 (0, 0)) := by rw [hW1]; exact setRow_heap w.drew g cur _ _ _ hcur
  have hcl : ∀ ty c, (Builtin.clear_ #[43] ty #[.slice (some ⟨g, (i + (n - (i + 1))) * 2, none⟩) (n - (i + (n - (i + 1)))) c]).run Tryd.prog W1 = .ok (.tuple #[]) (W1.setRow g C2.toArray) := fun ty c => by
    rw [show n - (i + (n - (i + 1))) = 1 by omega, show i + (n - (i + 1)) = n - 1 by omega]
    rw [run_clear_one W1 43 77 ty (.agg #[.slice none 0 0, .int .i64 0]) (.slice none 0 0) (.int .i64 0) Tryd.underlying43 Tryd.zeroValue77 rfl rfl rfl g ((n - 1) * 2) c C1.toArray 77 hW1h (by rw [List.size_toArray, hl1]; omega), hC2, hnn]
  have HFin : Hid (RowE (W1.setRow g C2.toArray) g cap (xs.take i ++ xs.drop (i + 1)) ∧ w.grownBy (W1.setRow g C2.toArray) (some g)) := by
    rw [hW1, setRow_setRow]
    have hg' : w.grownBy (w.drew.setRow g C2.toArray) (some g) := grown_trans (grown_drew (grown_refl w _)) (grown_setRow ..)
    refine ⟨⟨⟨C2.toArray, setRow_heap w.drew g cur _ _ _ hcur, by rw [List.size_toArray, hl2, hcl0], ht2⟩, by simp; omega, hR.2.2.1, fun y hy => ?_⟩, hg'⟩
    refine PlTy.grown ?_ hcur hg'
    rcases List.mem_append.1 hy with hy | hy
    · exact hpl y (List.mem_of_mem_take hy)
    · exact hpl y (List.mem_of_mem_drop hy)
  rw [hnn]
  have hn' : (n : Int) ≤ 3000 := by omega
  have hi' : (i : Int) < (n : Int) := by omega
  have hc' : (n : Int) ≤ (cap : Int) := by omega
  have htn : ((i : Int) + 1).toNat = i + 1 := by omega
  have hb1 : (0 : Int) ≤ (i : Int) + 1 := by omega
  have hb2 : (i : Int) + 1 ≤ (n : Int) := by omega
  have hb3 : (i : Int) + 1 ≤ (cap : Int) := by omega
  have hb4 : (i : Int) ≤ (cap : Int) := by omega
  have hic : i ≤ cap := by omega
  have hjc : i + 1 ≤ cap := by omega
  have hRn : Hid (n - 1 = i + (n - (i + 1))) := by show _ = _; omega
  clear hnn hl1 hl2 ht2 hC1 hC2 hdl hW1 hW1h hR hcur hcs hct hcl0 hpl hnews
  go_enter Tryd.func59, Tryd.ntmps59
  go_wp2_with fail
  go_region_law (refine step_append_room rfl (.tmp 22) (.tmp 25) 43 rfl 77 i0 2 Tryd.underlying43 hi0 hz1 g 0 i cap (by simp [Act.eval, Act.put]) A (n - (i + 1)) (cap - (i + 1)) news (by simp [Act.eval, Act.put]) s1.out hsrc.out s2.out (by omega) s3.out ?_; rw [← HW.out])
  go_wp2_with fail
  go_ret
  rw [hRn.out]
  exact ⟨rfl, HFin.out⟩
end Go.Proofs.YtfngmnhkhfgmjacDoor
