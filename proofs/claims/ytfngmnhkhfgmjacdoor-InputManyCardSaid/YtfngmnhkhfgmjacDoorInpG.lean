/-
  An entry put into a row of entries of a call's own: what slices.Insert answers: in place where there is room, in a new row where there is none.
-/
import Derived.Test.YtfngmnhkhfgmjacDoorInpF
import Derived.Shelf.Spec.SlicesInsertGrow
import Derived.Deep.RegionLaw
namespace Go.Proofs.YtfngmnhkhfgmjacDoor
open Go.ChangeShapes Go.WideShapes Go.ChangeAt Go.RowKit Go.Lib
set_option maxRecDepth 100000

theorem Tryd.infoEnt : (Tryd.prog.info? 77).map (fun i => (i.zero, i.size, i.bytes)) = some (some (.agg #[.slice none 0 0, .int .i64 0]), 2, 32) := by kernel_rfl
/-- the block of an entry that is handed on -/
def OneE (w : World) (vb : Nat) (x : EnL) : Prop := w.heap[vb]? = some (.cells #[.slice x.A x.e.pl.length x.c, .int .i64 x.e.n] 77 (0, 0))
theorem OneE.cells {w : World} {vb : Nat} {x : EnL} (h : OneE w vb x) : ∀ j u, (cellsE [x])[j]? = some u → w.cell? ⟨vb, j, none⟩ = some u := by
  intro j u hj
  rw [Lib.cell_of_heap h]
  simpa [cellsE] using hj
/-- what an insert leaves -/
def Inserted (w : World) (g i : Nat) (xs : List EnL) (x : EnL) (e : Ending) (w' : World) : Prop := ∃ g' cap', e = .returned (.slice (some ⟨g', 0, none⟩) (xs.length + 1) cap') ∧ RowE w' g' cap' (xs.take i ++ x :: xs.drop i) ∧ g ≤ g' ∧ w.grownBy w' (some g)

set_option maxHeartbeats 4000000 in
/-- at the end -/
theorem insert_end (g cap vb : Nat) (xs : List EnL) (x : EnL) (w : World) (hn : xs.length ≤ 3000) (hR : RowE w g cap xs) (hx : PlTy w x.A x.c x.e.pl) (hv : OneE w vb x) :
    Calls Tryd.prog 57 #[.slice (some ⟨g, 0, none⟩) xs.length cap, .int .i64 xs.length, .slice (some ⟨vb, 0, none⟩) 1 1] w fun e w' => Inserted w g xs.length xs x e w' := by
  obtain ⟨i0, hi0, hz0, hz1, hz2⟩ := info_parts Tryd.infoEnt
  have hown := hR.own (Nat.le_refl g)
  have hgs : g ≤ w.heap.size := Nat.le_of_lt hR.lt
  have hcap := hR.2.1
  have hcm := hR.2.2.1
  have HR : Hid (RowE w g cap xs) := hR
  have HX : Hid (PlTy w x.A x.c x.e.pl) := hx
  have HV : Hid (∀ j u, (cellsE [x])[j]? = some u → w.cell? ⟨vb, j, none⟩ = some u) := hv.cells
  have HE : Hid (cellsE (xs ++ [x]) = cellsE xs ++ cellsE [x]) := cellsE_append ..
  have HL : Hid ((cellsE [x]).length = 1 * 2) := cellsE_len [x]
  have H1 : Hid (∀ v ∈ cellsE [x], v.oneCell' = true) := cellsE_one [x]
  have HT : Hid (xs.take xs.length ++ x :: xs.drop xs.length = xs ++ [x] ∧ (xs ++ [x]).length = xs.length + 1) := ⟨by simp, by simp⟩
  obtain ⟨n, hnn⟩ : ∃ n, xs.length = n := ⟨_, rfl⟩
  have HN : Hid (xs.length = n) := hnn
  rw [hnn] at hown hn hcap HT
  unfold Inserted
  rw [hnn]
  generalize hcx : cellsE xs = CX at hown HE
  generalize hc1 : cellsE [x] = C1 at HV HE HL H1
  unfold maxLen at hcm
  clear hR hx hv hnn hcx hc1
  have hn' : (n : Int) ≤ 3000 := by omega
  by_cases hce : cap = n
  · subst hce
    go_enter Tryd.func57, Tryd.ntmps57
    go_wp2_with (at_builtin; refine wpList_append_own _ rfl _ _ 43 rfl g 77 i0 (.agg #[.slice none 0 0, .int .i64 0]) 2 32 Tryd.underlying43 hi0 hz0 hz1 hz2 rfl (by decide) _ _ _ rfl hown ⟨vb, 0, none⟩ 1 1 C1 rfl ?qc1 ?qc2 ?qc3 ?qc4 ?qc5 ?qc6 ?_)
    case qc1 => exact HL.out
    case qc2 => exact fun j u hj => by rw [plain_add, Nat.zero_add]; exact HV.out j u hj
    case qc3 => exact H1.out
    case qc4 => simp only [maxLen]; omega
    case qc5 => omega
    case qc6 => exact hgs
    intro v' w1 hown1 hgrow hnil
    rw [← HE.out, ← HT.out.2] at hown1
    have hg1 : w.grownBy w1 (some g) := hgrow
    obtain ⟨⟨cur, hcur, -, -⟩, -⟩ := HR.out
    have hpl : ∀ y ∈ xs ++ [x], PlTy w1 y.A y.c y.e.pl := fun y hy => by
      rcases List.mem_append.1 hy with hy | hy
      · exact (HR.out.2.2.2 y hy).grown hcur hg1
      · rw [List.mem_singleton.1 hy]; exact HX.out.grown hcur hg1
    obtain ⟨g', cap', rfl, hgg, hRow⟩ := row_own hown1 (by simpa using hnil) hpl
    have HRow : Hid (RowE w1 g' cap' (xs ++ [x])) := hRow
    have HG : Hid (w.grownBy w1 (some g)) := hg1
    rw [HT.out.2]
    clear hown1 hgrow hnil hcur hpl hRow hg1
    go_wp2_with fail
    go_ret
    refine ⟨g', cap', rfl, ?_, hgg, HG.out⟩
    rw [HT.out.1]
    exact HRow.out
  · have hce' : ¬ ((cap : Int) = (n : Int)) := by omega
    go_enter Tryd.func57, Tryd.ntmps57
    go_wp2_with (at_builtin; refine wpList_append_own _ rfl _ _ 43 rfl g 77 i0 (.agg #[.slice none 0 0, .int .i64 0]) 2 32 Tryd.underlying43 hi0 hz0 hz1 hz2 rfl (by decide) _ _ _ rfl hown ⟨vb, 0, none⟩ 1 1 C1 rfl ?qc1 ?qc2 ?qc3 ?qc4 ?qc5 ?qc6 ?_)
    case qc1 => exact HL.out
    case qc2 => exact fun j u hj => by rw [plain_add, Nat.zero_add]; exact HV.out j u hj
    case qc3 => exact H1.out
    case qc4 => simp only [maxLen]; omega
    case qc5 => omega
    case qc6 => exact hgs
    intro v' w1 hown1 hgrow hnil
    rw [← HE.out, ← HT.out.2] at hown1
    have hg1 : w.grownBy w1 (some g) := hgrow
    obtain ⟨⟨cur, hcur, -, -⟩, -⟩ := HR.out
    have hpl : ∀ y ∈ xs ++ [x], PlTy w1 y.A y.c y.e.pl := fun y hy => by
      rcases List.mem_append.1 hy with hy | hy
      · exact (HR.out.2.2.2 y hy).grown hcur hg1
      · rw [List.mem_singleton.1 hy]; exact HX.out.grown hcur hg1
    obtain ⟨g', cap', rfl, hgg, hRow⟩ := row_own hown1 (by simpa using hnil) hpl
    have HRow : Hid (RowE w1 g' cap' (xs ++ [x])) := hRow
    have HG : Hid (w.grownBy w1 (some g)) := hg1
    rw [HT.out.2]
    clear hown1 hgrow hnil hcur hpl hRow hg1
    go_wp2_with fail
    go_ret
    refine ⟨g', cap', rfl, ?_, hgg, HG.out⟩
    rw [HT.out.1]
    exact HRow.out
end Go.Proofs.YtfngmnhkhfgmjacDoor
