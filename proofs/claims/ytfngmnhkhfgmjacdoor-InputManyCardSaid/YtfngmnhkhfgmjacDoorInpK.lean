/-
  Entries made anew: what fresh of package input answers, called in whatever memory: a row of its own that holds the same.
-/
import Derived.Test.YtfngmnhkhfgmjacDoorInpJ
import Derived.Laws.OwnMore
namespace Go.Proofs.YtfngmnhkhfgmjacDoor
open Go.ChangeShapes Go.WideShapes Go.ChangeAt Go.RowKit Go.Lib
set_option maxRecDepth 20000

/-- one more put behind those that lie there -/
theorem RowE.put {w : World} {g cap : Nat} {zs : List EnL} (h : RowE w g cap zs) (hk : zs.length < cap) {x : EnL} (hx : PlTy w x.A x.c x.e.pl) : RowE ((w.setCell ⟨g, zs.length * 2, none⟩ (.slice x.A x.e.pl.length x.c)).setCell ⟨g, zs.length * 2 + 1, none⟩ (.int .i64 x.e.n)) g cap (zs ++ [x]) ∧ w.grownBy ((w.setCell ⟨g, zs.length * 2, none⟩ (.slice x.A x.e.pl.length x.c)).setCell ⟨g, zs.length * 2 + 1, none⟩ (.int .i64 x.e.n)) (some g) := by
  obtain ⟨⟨cur, h1, h2, h3⟩, h4, h5, h6⟩ := id h
  have e : (w.setCell ⟨g, zs.length * 2, none⟩ (.slice x.A x.e.pl.length x.c)).setCell ⟨g, zs.length * 2 + 1, none⟩ (.int .i64 x.e.n) = w.setCells g (zs.length * 2) (cellsE [x]) := rfl
  have hx2 : (cellsE [x]).length = 2 := by rw [cellsE_len]; rfl
  have hl : cur.toList.length = cap * 2 := by simpa using h2
  rw [e, setCells_row g 77 (cellsE [x]) (zs.length * 2) cur w h1 (by rw [hx2]; omega)]
  refine ⟨h.lay ?_ ?_ (by simp; omega) fun y hy => ?_, grown_setRow ..⟩
  · simp only [List.length_append, List.length_take, List.length_drop, hx2, hl]
    omega
  · rw [cellsE_append, h3]
    exact take_join (by simp only [List.length_append, cellsE_len, List.length_cons, List.length_nil]; omega)
  · rcases List.mem_append.1 hy with hy | hy
    · exact h6 y hy
    · rw [List.mem_singleton.1 hy]; exact hx
theorem grown_set {w w' : World} {g : Nat} (h : w.grownBy w' (some g)) (o : Nat) (v : Value) : w.grownBy (w'.setCell ⟨g, o, none⟩ v) (some g) :=
  ⟨h.os, h.tape, h.output, by simpa using h.size, fun i hi hr => (Below.heap_setCell w' ⟨g, o, none⟩ v i fun e => hr (by rw [e])).trans (h.block i hi hr)⟩
theorem grown_new {w w' : World} {r : Option Nat} (h : w.grownBy w' r) (o : Obj) : w.grownBy (w'.alloc o) r :=
  ⟨h.os, h.tape, h.output, by have := h.size; simp; omega, fun i hi hr => (Below.heap_alloc w' o i (Nat.lt_of_lt_of_le hi h.size)).trans (h.block i hi hr)⟩
theorem keepG {W w' : World} {g q : Nat} {u v : Value} (h : q < W.heap.size ∧ q ≠ g ∧ W.cell? ⟨q, 0, none⟩ = some u ∧ W.cell? ⟨q, 1, none⟩ = some v) (hG : W.grownBy w' (some g)) : W.grownBy w' (some g) ∧ w'.cell? ⟨q, 0, none⟩ = some u ∧ w'.cell? ⟨q, 1, none⟩ = some v := by
  have hb : w'.heap[q]? = W.heap[q]? := hG.block q h.1 fun e => h.2.1 (by simpa using e)
  exact ⟨hG, (World.cell?_of_block (a := ⟨q, 0, none⟩) hb).trans h.2.2.1, (World.cell?_of_block (a := ⟨q, 1, none⟩) hb).trans h.2.2.2⟩

set_option maxHeartbeats 8000000 in
theorem fresh_new (AE : Option Addr) (ce : Nat) (xs : List EnL) (w : World) (hn : xs.length ≤ 3000) (hS : ∀ k, k < xs.length → (xs.getD k noL).e.pl.length ≤ 4) (hE : EnsV w AE ce xs) :
    Calls Tryd.prog 41 #[.slice AE xs.length ce] w fun e w' => (∃ ys, e = .returned (.slice (some ⟨w.heap.size, 0, none⟩) xs.length xs.length) ∧ RowE w' w.heap.size xs.length ys ∧ lE ys = lE xs ∧ NewE w.heap.size ys) ∧ Below w.heap.size w w' := by
  obtain ⟨i0, hi0, hz0, hz1, hz2⟩ := info_parts Tryd.infoEnt
  have HE : Hid (EnsV w AE ce xs) := hE
  have HS : Hid (∀ k, k < xs.length → (xs.getD k noL).e.pl.length ≤ 4) := hS
  obtain ⟨n, hnn⟩ : ∃ n, xs.length = n := ⟨_, rfl⟩
  have HN : Hid (xs.length = n) := hnn
  rw [hnn] at hn ⊢
  have hmk : ∀ w', (Instr.makeSlice 43 (.int .i64 n) (.int .i64 n)).run Tryd.prog w' = .ok (.slice (some ⟨w'.heap.size, 0, none⟩) n n) (w'.alloc (.cells (madeCells (Value.agg #[.slice none 0 0, .int .i64 0]).cells (n * 2)) 77)) := fun w' => by
    have h := run_make (P := Tryd.prog) w' 43 77 i0 _ Tryd.underlying43 hi0 hz0 .i64 .i64 n n (by omega) (Int.le_refl _) (by rw [hz2]; omega) (by omega)
    rw [hz1] at h
    simpa using h
  have HR0 : Hid (RowE (w.alloc (.cells (madeCells (Value.agg #[.slice none 0 0, .int .i64 0]).cells (n * 2)) 77)) w.heap.size n []) := ⟨⟨_, heap_alloc_new w _, size_madeCells _ _, by simp [cellsE]⟩, Nat.zero_le _, by unfold maxLen; omega, fun x hx => by cases hx⟩
  have hn' : (n : Int) ≤ 3000 := by omega
  clear hE hS hnn
  go_enter Tryd.func41, Tryd.ntmps41
  go_wp2_with fail
  clear hmk
  go_loopg [11] n (fun g s11 wr => ∃ (k : Nat) (zs : List EnL), k ≤ n ∧ g = n - k ∧ s11 = .int .i64 k ∧ zs.length = k ∧ Hid (lE zs = (lE xs).take k ∧ NewE w.heap.size zs) ∧ RowE wr w.heap.size n zs ∧ Below w.heap.size w wr)
  case atStart => exact ⟨0, [], Nat.zero_le _, rfl, rfl, rfl, (⟨by simp [lE], fun _ h => by cases h⟩ : lE [] = (lE xs).take 0 ∧ NewE w.heap.size []), HR0.out, by go_grown⟩
  case round =>
    obtain ⟨k, zs, hk, rfl, rfl, hzl, HZ, hRow, hBw⟩ := hrel
    have HRow : Hid (RowE wr w.heap.size n zs) := hRow
    have HBw : Hid (Below w.heap.size w wr) := hBw
    have HZL : Hid (zs.length = k) := hzl
    by_cases hlt : k < n
    · have hkx : k < xs.length := by rw [HN.out]; exact hlt
      have hki : (k : Int) < (n : Int) := by omega
      obtain ⟨-, -, h0 | ⟨b, o, rfl, hEs⟩⟩ := HE.out.later hBw
      · have := HN.out; rw [h0] at this; simp at this; omega
      obtain ⟨c1, c2⟩ := hEs.at hkx
      have HCl : Hid (∀ w', Below wr.heap.size wr w' → Calls Tryd.prog 58 #[.slice (xs.getD k noL).A (xs.getD k noL).e.pl.length (xs.getD k noL).c] w' fun e w'' => (∃ A' c', e = .returned (.slice A' (xs.getD k noL).e.pl.length c') ∧ PlTy w'' A' c' (xs.getD k noL).e.pl ∧ NewA w.heap.size A') ∧ Below w'.heap.size w' w'') := fun w' hw' => (clone_new _ _ _ w' (HS.out k hkx) ((hEs.pl hkx).later hw')).mono fun _ _ ⟨⟨A', c', h1, h2, h3⟩, h4⟩ => ⟨⟨A', c', h1, h2, h3.le (Nat.le_trans HBw.out.size hw'.size)⟩, h4⟩
      have hBo := ownEn_below wr (xs.getD k noL).A (xs.getD k noL).e.pl.length (xs.getD k noL).c (xs.getD k noL).e.n 77
      have HBo : Hid (Below wr.heap.size wr (ownEn wr (xs.getD k noL).A (xs.getD k noL).e.pl.length (xs.getD k noL).c (xs.getD k noL).e.n 77)) := hBo
      have hzo := ownEn_size wr (xs.getD k noL).A (xs.getD k noL).e.pl.length (xs.getD k noL).c (xs.getD k noL).e.n 77
      have ho0 := ownEn_0 wr (xs.getD k noL).A (xs.getD k noL).e.pl.length (xs.getD k noL).c (xs.getD k noL).e.n 77
      have ho1 := ownEn_1 wr (xs.getD k noL).A (xs.getD k noL).e.pl.length (xs.getD k noL).c (xs.getD k noL).e.n 77
      have HLE : Hid ((lE xs).take (k + 1) = (lE xs).take k ++ [(xs.getD k noL).e]) := by
        show _ = _
        rw [List.take_succ_eq_append_getElem (by rw [lE_len]; exact hkx), ← lE_at, List.getD_eq_getElem?_getD, List.getElem?_eq_getElem (by rw [lE_len]; exact hkx)]
        rfl
      have hwg : w.heap.size < wr.heap.size := hRow.lt
      generalize xs.getD k noL = x at c1 c2 HCl HBo hzo ho0 ho1 HLE
      clear hEs hBo hRow hBw hzl
      have HPut : Hid (∀ (w3 : World) (A' : Option Addr) (c' : Nat), RowE w3 w.heap.size n zs → PlTy w3 A' c' x.e.pl → RowE ((w3.setCell ⟨w.heap.size, k * 2, none⟩ (.slice A' x.e.pl.length c')).setCell ⟨w.heap.size, k * 2 + 1, none⟩ (.int .i64 x.e.n)) w.heap.size n (zs ++ [⟨x.e, A', c'⟩]) ∧ w3.grownBy ((w3.setCell ⟨w.heap.size, k * 2, none⟩ (.slice A' x.e.pl.length c')).setCell ⟨w.heap.size, k * 2 + 1, none⟩ (.int .i64 x.e.n)) (some w.heap.size)) := fun w3 A' c' h1 h2 => by
        have h3 := h1.put (by rw [HZL.out]; exact hlt) (x := ⟨x.e, A', c'⟩) h2
        rw [HZL.out] at h3
        exact h3
      have HLN : Hid (∀ A' c', NewA w.heap.size A' → lE (zs ++ [⟨x.e, A', c'⟩]) = (lE xs).take (k + 1) ∧ NewE w.heap.size (zs ++ [⟨x.e, A', c'⟩])) := fun A' c' hn' => ⟨by rw [lE_append, HZ.out.1, HLE.out]; rfl, fun y hy => by
        rcases List.mem_append.1 hy with hy | hy
        · exact HZ.out.2 y hy
        · rw [List.mem_singleton.1 hy]; exact hn'⟩
      generalize hxl : x.e.pl.length = m at c1 HCl HBo hzo ho0 ho1 HPut
      generalize x.e.n = N at c2 HBo hzo ho0 ho1 HPut
      clear hxl HLE
      go_wp2_with fail
      obtain ⟨W2, hW2⟩ : ∃ W2, wr.alloc (.cells #[.slice x.A m x.c, .int .i64 N] 77) = W2 := ⟨_, rfl⟩
      have hBo : Below wr.heap.size wr W2 := by rw [← hW2]; exact HBo.out
      have hz2 : wr.heap.size < W2.heap.size := by rw [← hW2]; show _ < (ownEn wr x.A m x.c N 77).heap.size; rw [hzo]; omega
      have HBox : Hid (wr.heap.size < W2.heap.size ∧ wr.heap.size ≠ w.heap.size ∧ W2.cell? ⟨wr.heap.size, 0, none⟩ = some (.slice x.A m x.c) ∧ W2.cell? ⟨wr.heap.size, 1, none⟩ = some (.int .i64 N)) := by rw [← hW2]; exact ⟨by rw [hW2]; exact hz2, by omega, ho0, ho1⟩
      have HB2 : Hid (Below wr.heap.size wr W2) := hBo
      have HRow2 : Hid (RowE W2 w.heap.size n zs) := HRow.out.later hBo
      rw [hW2]
      clear hW2 hBo hzo ho0 ho1 HBo c1 c2
      go_region_held3 (fun w' => W2.grownBy w' (some w.heap.size) ∧ w'.cell? ⟨wr.heap.size, 0, none⟩ = some (.slice x.A m x.c) ∧ w'.cell? ⟨wr.heap.size, 1, none⟩ = some (.int .i64 N))
        ((refine keepG HBox.out ?_; (repeat (first | exact grown_refl _ _ | assumption | refine grown_drew ?_ | refine grown_set ?_ _ _)); done))
        (first | (go_at_call 58; refine (HCl.out _ (onB HB2.out (by go_grown))).mono ?_; rintro e w3 ⟨⟨A', c', rfl, hPT, hNw⟩, hb3⟩; have hN3 := onB (W0 := W2) (by go_grown) hb3; have HNw : Hid (NewA w.heap.size A') := hNw; clear hNw; have hG3 : W2.grownBy w3 (some w.heap.size) := grown_below hN3; have HB3 : Hid (Below W2.heap.size W2 w3) := hN3; have HPT : Hid (PlTy w3 A' c' x.e.pl) := hPT; obtain ⟨u0, d0⟩ := Option.isSome_iff_exists.1 ((HRow2.out.later hN3).full (j := k * 2) (by omega)); obtain ⟨u1, d1⟩ := Option.isSome_iff_exists.1 ((HRow2.out.later hN3).full (j := k * 2 + 1) (by omega)); have f0 := (HRow2.out.later hN3).frozen (k * 2); have f1 := (HRow2.out.later hN3).frozen (k * 2 + 1); clear hb3 hN3 hPT))
      clear d0 d1 f0 f1 hG3
      go_wp2_with fail
      go_roundg (n - (k + 1))
      case measure => omega
      case rel =>
        obtain ⟨h1, h2⟩ := HPut.out w3 A' c' (HRow2.out.later HB3.out) HPT.out
        refine ⟨k + 1, _, by omega, rfl, by go_num, ?_, HLN.out A' c' HNw.out, h1, ?_⟩
        · rw [List.length_append, HZL.out]; rfl
        · exact below_grown (onB HBw.out (onB HB2.out HB3.out)) h2 (onB HBw.out (onB HB2.out HB3.out)).size (Nat.le_refl _)
    · have hke : k = n := by omega
      subst hke
      have HFin : Hid (lE zs = lE xs ∧ NewE w.heap.size zs) := ⟨by rw [HZ.out.1, List.take_of_length_le (by rw [lE_len, HN.out]; exact Nat.le_refl _)], HZ.out.2⟩
      clear hRow hBw hzl
      go_wp2_with fail
      go_ret
      exact ⟨⟨zs, rfl, HRow.out, HFin.out⟩, HBw.out⟩
theorem fresh_any (AE : Option Addr) (ce : Nat) (xs : List EnL) (w : World) (hn : xs.length ≤ 3000) (hS : ∀ k, k < xs.length → (xs.getD k noL).e.pl.length ≤ 4) (hE : EnsV w AE ce xs) :
    Calls Tryd.prog 41 #[.slice AE xs.length ce] w fun e w' => (∃ ys, e = .returned (.slice (some ⟨w.heap.size, 0, none⟩) xs.length xs.length) ∧ RowE w' w.heap.size xs.length ys ∧ lE ys = lE xs) ∧ Below w.heap.size w w' :=
  (fresh_new AE ce xs w hn hS hE).mono fun _ _ ⟨⟨ys, h1, h2, h3, _⟩, h4⟩ => ⟨⟨ys, h1, h2, h3⟩, h4⟩
end Go.Proofs.YtfngmnhkhfgmjacDoor
