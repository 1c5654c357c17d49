/-
  The walk of tallylaw4.InputMany: sixty edits at a time and no more; what they wrote is there.
-/
import Derived.Test.YtfngmnhkhfgmjacDoorInpO
import Derived.Test.YtfngmnhkhfgmjacDoorMany1
import Derived.Test.YtfngmnhkhfgmjacDoorFlat3
namespace Go.Proofs.YtfngmnhkhfgmjacDoor
open Go.ChangeShapes Go.WideShapes Go.ChangeAt Go.RowKit
set_option maxRecDepth 20000

/-- edits that are all right leave entries that are right -/
theorem Ens.edits {D : Nat → Dm} {n : Nat} : ∀ (xs : List Ed) (l : List En) (i : Nat), Ens D n l → (editsFrom D n l i xs).2.2 = 0 → Ens D n (editsFrom D n l i xs).1
  | [], l, i, h, _ => h
  | x :: r, l, i, h, h0 => by
    by_cases he : editErr D n l x = 0
    · rw [editsFrom_ok r he] at h0 ⊢
      exact Ens.edits r _ _ (h.edit he).2 h0
    · rw [editsFrom_bad r he] at h0
      exact absurd h0 he
theorem many_ens {k : Nat} (h : k ≤ 60) : entsErr (squareD 9) 2 (editsV (squareD 9) 2 [] (manyL k)).1 = 0 := by
  have h2 : entsErr (squareD 9) 2 [] = 0 := by decide +kernel
  have h3 := (many_right h).1
  have e : editsV (squareD 9) 2 [] (manyL k) = editsFrom (squareD 9) 2 [] 0 (manyL k) := by
    unfold editsV
    rw [if_neg (by simp [manyL]; omega), if_neg (by simpa using h2)]
  rw [e] at h3 ⊢
  exact (Ens.edits _ _ _ (ens_of h2) (by rw [h3])).ok

theorem Tryd.infoEd : (Tryd.prog.info? 56).map (fun i => (i.zero, i.size, i.bytes)) = some (some (.agg #[.slice none 0 0, .int .i64 0, .bool false]), 3, 40) := by kernel_rfl
theorem edit_ne_int : (3 : Nat) ≠ 56 := by decide
def cellsX : List EdL → List Value
  | [] => []
  | y :: r => .slice y.A y.x.pl.length y.c :: .int .i64 y.x.n :: .bool y.x.clear :: cellsX r
theorem cellsX_append (a b : List EdL) : cellsX (a ++ b) = cellsX a ++ cellsX b := by
  induction a with
  | nil => rfl
  | cons x r ih => simp [cellsX, ih]
theorem cellsX_at (ys : List EdL) : ∀ k, k < ys.length → (cellsX ys)[k * 3]? = some (.slice (ys.getD k noD).A (ys.getD k noD).x.pl.length (ys.getD k noD).c) ∧ (cellsX ys)[k * 3 + 1]? = some (.int .i64 (ys.getD k noD).x.n) ∧ (cellsX ys)[k * 3 + 2]? = some (.bool (ys.getD k noD).x.clear) := by
  induction ys with
  | nil => intro k hk; cases hk
  | cons x r ih =>
    intro k hk
    cases k with
    | zero => simp [cellsX]
    | succ k =>
      rw [show (k + 1) * 3 = k * 3 + 1 + 1 + 1 by omega]
      simp only [cellsX, List.getElem?_cons_succ, List.getD_cons_succ]
      exact ih k (by simpa using hk)
theorem plty_own_stays {w w' : World} {base : Nat} {v : Value} {n : Nat} {zs : List Value} {A : Option Addr} {c : Nat} {L : List Int} (h : PlTy w A c L) (hown : w.ownsRow base 56 3 v n zs) (hG : w.grownBy w' v.ownBlock) : PlTy w' A c L := by
  obtain ⟨h1, h2 | ⟨b, o, cs, fr', h2, h3, h4⟩⟩ := h
  · exact ⟨h1, Or.inl h2⟩
  · have hne := own_ne hown h3 edit_ne_int
    have hb : w'.heap[b]? = w.heap[b]? := hG.block b (Array.getElem?_eq_some_iff.1 h3).1 (Ne.symm hne)
    exact ⟨h1, Or.inr ⟨b, o, cs, fr', h2, hb.trans h3, fun j hj => (World.cell?_of_block (a := ⟨b, o + j, none⟩) hb).trans (h4 j hj)⟩⟩
theorem eds_own {w : World} {base : Nat} {v : Value} {ys : List EdL} (h : w.ownsRow base 56 3 v ys.length (cellsX ys)) (hp : ∀ y ∈ ys, PlTy w y.A y.c y.x.pl) : ∃ A c, v = .slice A ys.length c ∧ EdsV w A c ys := by
  rcases h.2 with ⟨rfl, h0⟩ | ⟨g, cap, cur, rfl, hb, hg, hc, hm, _, _⟩
  · refine ⟨none, 0, by rw [h0], by omega, by decide, Or.inl (List.eq_nil_of_length_eq_zero h0)⟩
  · refine ⟨_, cap, rfl, hc, by unfold maxLen at hm; omega, Or.inr ⟨g, 0, rfl, (Array.getElem?_eq_some_iff.1 hg).1, fun k hk => ?_⟩⟩
    obtain ⟨x0, x1, x2⟩ := cellsX_at ys k hk
    have y := fun j u => h.cells (g := g) rfl j u
    simp only [plain_add] at y
    refine ⟨y _ _ x0, ?_, ?_, ?_⟩
    · rw [Nat.add_assoc]; exact y _ _ x1
    · rw [Nat.add_assoc]; exact y _ _ x2
    · refine (hp _ ?_).pl
      rw [List.getD_eq_getElem?_getD, List.getElem?_eq_getElem hk]
      exact List.getElem_mem hk
theorem lD_append (a b : List EdL) : lD (a ++ b) = lD a ++ lD b := by simp [lD]
theorem manyL_succ (k : Nat) : manyL (k + 1) = manyL k ++ [manyX k] := by simp [manyL, List.range_succ]

/-- a world with a place of two in a block, and an edit of it in the next one -/
def manyW (w : World) (a b i : Int) : World := (w.alloc (.cells #[.int .i64 a, .int .i64 b] 3)).alloc (.cells #[.slice (some ⟨w.heap.size, 0, none⟩) 2 2, .int .i64 i, .bool false] 56)
theorem manyW_below (w : World) (a b i : Int) : Below w.heap.size w (manyW w a b i) := by unfold manyW; go_grown
theorem manyW_size (w : World) (a b i : Int) : (manyW w a b i).heap.size = w.heap.size + 2 := by unfold manyW; simp
theorem manyW_pl (w : World) (a b i : Int) : PlTy (manyW w a b i) (some ⟨w.heap.size, 0, none⟩) 2 [a, b] := by
  have h : (manyW w a b i).heap[w.heap.size]? = some (.cells #[.int .i64 a, .int .i64 b] 3 (0, 0)) := by
    unfold manyW
    rw [Below.heap_alloc _ _ _ (by simp)]
    exact heap_alloc_new w _
  refine ⟨by simp, Or.inr ⟨_, _, _, _, rfl, h, fun j hj => ?_⟩⟩
  rw [Lib.cell_of_heap h]
  match j, hj with
  | 0, _ => rfl
  | 1, _ => rfl
theorem manyW_at (w : World) (a b i : Int) : ∀ j u, (cellsX [⟨⟨[a, b], i, false⟩, some ⟨w.heap.size, 0, none⟩, 2⟩])[j]? = some u → (manyW w a b i).cell? ((⟨w.heap.size + 1, 0, none⟩ : Addr).add j) = some u := by
  intro j u hj
  have h : (manyW w a b i).heap[w.heap.size + 1]? = some (.cells #[.slice (some ⟨w.heap.size, 0, none⟩) 2 2, .int .i64 i, .bool false] 56 (0, 0)) := by
    unfold manyW
    have h := heap_alloc_new (w.alloc (.cells #[.int .i64 a, .int .i64 b] 3)) (.cells #[.slice (some ⟨w.heap.size, 0, none⟩) 2 2, .int .i64 i, .bool false] 56)
    rw [show (w.alloc (.cells #[.int .i64 a, .int .i64 b] 3)).heap.size = w.heap.size + 1 by simp] at h
    exact h
  rw [plain_add, Lib.cell_of_heap h]
  simpa [cellsX] using hj

set_option maxHeartbeats 8000000 in
theorem many_core (N : Nat) (w : World) (hN : N ≤ 80) (hk0 : Kind0 w) : Calls Tryd.prog 6 #[.int .i64 N] w fun e w' => e = .returned (.bool true) ∧ Below w.heap.size w w' := by
  obtain ⟨i0, hi0, hz0, hz1, hz2⟩ := info_parts Tryd.infoEd
  have hsq := square_any 9 w (by decide)
  have HK : Hid (Kind0 w) := hk0
  have hN' : (N : Int) ≤ 80 := by omega
  clear hk0
  go_enter Tryd.func6, Tryd.ntmps6
  go_wp2_with fail
  refine hsq.mono ?_
  rintro e w1 ⟨⟨A0, A, C, rfl, hD⟩, hb⟩
  have HB1 : Hid (Below w.heap.size w w1) := hb
  have HD1 : Hid (DimsV w1 A0 2 2 (squareD 9) A C) := hD
  clear hb hD hsq
  go_wp2_with fail
  obtain ⟨v1, hv1⟩ : ∃ v1, w1.alloc (.cells #[.slice A0 2 2] 24) = v1 := ⟨_, rfl⟩
  have hBv : Below w1.heap.size w1 v1 := by rw [← hv1]; go_grown
  have HDv : Hid (DimsV v1 A0 2 2 (squareD 9) A C) := HD1.out.later hBv
  have HBv : Hid (Below w.heap.size w v1) := onB HB1.out hBv
  have cv : v1.cell? ⟨w1.heap.size, 0, none⟩ = some (.slice A0 2 2) := by rw [← hv1]; simp
  have hzv : w1.heap.size < v1.heap.size := by rw [← hv1]; simp
  rw [hv1]
  clear hv1 hBv HD1
  go_loopg [4, 5] N (fun g s4 s5 wr => ∃ (k : Nat) (ys : List EdL), k ≤ N ∧ g = N - k ∧ s5 = .int .i64 k ∧ Hid (ys.length = k ∧ lD ys = manyL k ∧ ∀ y ∈ ys, PlTy wr y.A y.c y.x.pl) ∧ wr.ownsRow v1.heap.size 56 3 s4 k (cellsX ys) ∧ Below v1.heap.size v1 wr)
  case atStart => exact ⟨0, [], Nat.zero_le _, rfl, rfl, ⟨rfl, rfl, fun y hy => by cases hy⟩, World.ownsRow_nil _ _ _ _, Below.refl _ _⟩
  case round =>
    obtain ⟨k, ys, hk, rfl, rfl, HY, hown, hBw⟩ := hrel
    have HBw : Hid (Below v1.heap.size v1 wr) := hBw
    have HOwn : Hid (wr.ownsRow v1.heap.size 56 3 u4 k (cellsX ys)) := hown
    by_cases hlt : k < N
    · have hki : (k : Int) < (N : Int) := by omega
      have hk0 : (0 : Int) ≤ (k : Int) := by omega
      have hkq : (1 + (k : Int) / 9 % 9) = ((1 + k / 9 % 9 : Nat) : Int) := by omega
      have hkr : (1 + (k : Int) % 9) = ((1 + k % 9 : Nat) : Int) := by omega
      have HX : Hid ((⟨[1 + (k : Int) / 9 % 9, 1 + (k : Int) % 9], (k : Int), false⟩ : Ed) = manyX k) := by show _ = _; rw [hkq, hkr]; rfl
      have hbm := manyW_below wr (1 + (k : Int) / 9 % 9) (1 + (k : Int) % 9) k
      have HOm : Hid ((manyW wr (1 + (k : Int) / 9 % 9) (1 + (k : Int) % 9) k).ownsRow v1.heap.size 56 3 u4 k (cellsX ys)) := own_stays hown hbm
      have HBm : Hid (Below v1.heap.size v1 (manyW wr (1 + (k : Int) / 9 % 9) (1 + (k : Int) % 9) k)) := onB HBw.out hbm
      have HPm : Hid (PlTy (manyW wr (1 + (k : Int) / 9 % 9) (1 + (k : Int) % 9) k) (some ⟨wr.heap.size, 0, none⟩) 2 [1 + (k : Int) / 9 % 9, 1 + (k : Int) % 9]) := manyW_pl ..
      have HPs : Hid (∀ y ∈ ys, PlTy (manyW wr (1 + (k : Int) / 9 % 9) (1 + (k : Int) % 9) k) y.A y.c y.x.pl) := fun y hy => (HY.out.2.2 y hy).later hbm
      have HAt : Hid (∀ j u, (cellsX [⟨⟨[1 + (k : Int) / 9 % 9, 1 + (k : Int) % 9], k, false⟩, some ⟨wr.heap.size, 0, none⟩, 2⟩])[j]? = some u → (manyW wr (1 + (k : Int) / 9 % 9) (1 + (k : Int) % 9) k).cell? ((⟨wr.heap.size + 1, 0, none⟩ : Addr).add j) = some u) := manyW_at wr _ _ _
      have hzm := (onB HBw.out hbm).size
      clear hbm hkq hkr hown hBw
      go_wp2_with (at_builtin; refine wpList_append_own _ rfl _ _ 44 rfl v1.heap.size 56 i0 (.agg #[.slice none 0 0, .int .i64 0, .bool false]) 3 40 Tryd.underlying44 hi0 hz0 hz1 hz2 rfl (by decide) _ _ _ rfl HOm.out ⟨wr.heap.size + 1, 0, none⟩ 1 1 (cellsX [⟨⟨[1 + (k : Int) / 9 % 9, 1 + (k : Int) % 9], k, false⟩, some ⟨wr.heap.size, 0, none⟩, 2⟩]) rfl rfl HAt.out ?qc3 ?qc4 ?qc5 hzm ?_)
      case qc3 => intro u hu; simp [cellsX] at hu; rcases hu with rfl | rfl | rfl <;> rfl
      case qc4 => simp only [maxLen]; omega
      case qc5 => omega
      intro v' w2 hown' hgrow _
      have HB2 : Hid (Below v1.heap.size v1 w2) := HBm.out.grown hgrow hzm (fun j hj => (HOm.out.lt j hj).1)
      have HP2 : Hid (∀ y ∈ ys ++ [⟨⟨[1 + (k : Int) / 9 % 9, 1 + (k : Int) % 9], k, false⟩, some ⟨wr.heap.size, 0, none⟩, 2⟩], PlTy w2 y.A y.c y.x.pl) := fun y hy => by
        rcases List.mem_append.1 hy with hy | hy
        · exact plty_own_stays (HPs.out y hy) HOm.out hgrow
        · rw [List.mem_singleton.1 hy]; exact plty_own_stays HPm.out HOm.out hgrow
      have HO2 : Hid (w2.ownsRow v1.heap.size 56 3 v' (k + 1) (cellsX (ys ++ [⟨⟨[1 + (k : Int) / 9 % 9, 1 + (k : Int) % 9], k, false⟩, some ⟨wr.heap.size, 0, none⟩, 2⟩]))) := by show World.ownsRow ..; rw [cellsX_append]; exact hown'
      clear hown' hgrow
      go_wp2_with fail
      go_roundg (N - (k + 1))
      case measure => omega
      case rel =>
        refine ⟨k + 1, _, by omega, rfl, by go_num, ⟨?_, ?_, HP2.out⟩, HO2.out, HB2.out⟩
        · rw [List.length_append, HY.out.1]; rfl
        · rw [lD_append, HY.out.2.1, manyL_succ, ← HX.out]; rfl
    · have hke : k = N := by omega
      obtain ⟨AX, cx, hs4, hX⟩ := eds_own (by rw [HY.out.1]; exact hown) HY.out.2.2
      rw [HY.out.1] at hs4
      subst hke
      have HX : Hid (EdsV wr AX cx ys) := hX
      have hall := iall_any A0 2 2 (squareD 9) A C none 0 [] AX cx ys wr (HDv.out.later hBw) (EnsV.nil _ _ _ (by decide)) hX
      have e0 : lE [] = [] := rfl
      rw [e0, HY.out.2.1, HY.out.1] at hall
      simp only [List.length_nil] at hall
      have c1 : wr.cell? ⟨w1.heap.size, 0, none⟩ = some (.slice A0 2 2) := (hBw.cell (p := ⟨w1.heap.size, 0, none⟩) hzv).trans cv
      have HDr : Hid (DimsV wr A0 2 2 (squareD 9) A C) := HDv.out.later hBw
      have hzr : w1.heap.size < wr.heap.size := Nat.lt_of_lt_of_le hzv hBw.size
      unfold Answer3 at hall
      subst hs4
      by_cases h60 : 60 < k
      · rw [many_full h60] at hall
        have h60' : 60 < (k : Int) := by omega
        have HS : Hid (∀ w', Below v1.heap.size v1 w' → Calls Tryd.prog 10 #[.iface 69 (.int .i64 4), .int .i64 4] w' fun e w'' => e = .returned (.bool true) ∧ Below w'.heap.size w' w'') := fun w' hw' => same_hit 4 4 w' (HK.out.later (onB HBv.out hw'))
        clear hown hBw hX e0 HY HOwn
        go_wp2_with fail
        refine hall.mono ?_
        rintro e w2 ⟨⟨B, c, zs, rfl, -, -⟩, hb⟩
        have hs := HS.out w2 (onB HBw.out hb)
        have HB2 : Hid (Below v1.heap.size v1 w2) := onB HBw.out hb
        rw [errV_some (by decide)]
        clear hb hall
        go_wp2_with fail
        refine hs.mono ?_
        rintro e w3 ⟨rfl, hb⟩
        go_wp2_with fail
        go_ret
        exact ⟨rfl, onB HBv.out (onB HB2.out hb)⟩
      · have hr := many_right (k := k) (by omega)
        have hen := many_ens (k := k) (by omega)
        obtain ⟨V, hV⟩ : ∃ V, V = editsV (squareD 9) 2 [] (manyL k) := ⟨_, rfl⟩
        rw [← hV] at hall hr hen
        obtain ⟨L, v1', v2'⟩ := V
        obtain ⟨hr1, hr2⟩ := hr
        simp only [Prod.mk.injEq] at hr1
        obtain ⟨rfl, rfl⟩ := hr1
        simp only at hall hr2 hen
        have h60' : (k : Int) ≤ 60 := by omega
        have HChk : Hid (∀ w' B c zs, Below wr.heap.size wr w' → EnsV w' B c zs → lE zs = L → Calls Tryd.prog 15 #[.agg #[.slice A0 2 2], .slice B k c] w' fun e w'' => e = .returned .nilIface ∧ Below w'.heap.size w' w'') := fun w' B c zs hw' hE hl => by
          have h := icheck_any A0 2 2 (squareD 9) A C B c zs w' (HDr.out.later hw') hE
          rw [hl, hen, show zs.length = k by rw [← lE_len, hl, hr2]] at h
          exact h
        have HZ : Hid (∀ zs, lE zs = L → zs.length = k) := fun zs hl => by rw [← lE_len, hl, hr2]
        rw [errV_zero] at hall
        clear hown hBw hX e0 HY HOwn hV hen hr2
        go_wp2_with fail
        refine hall.mono ?_
        rintro e w2 ⟨⟨B, c, zs, rfl, hE, hl⟩, hb⟩
        have h3 := HChk.out w2 B c zs hb hE hl
        have HB2 : Hid (Below v1.heap.size v1 w2) := onB HBw.out hb
        have c2 : w2.cell? ⟨w1.heap.size, 0, none⟩ = some (.slice A0 2 2) := (hb.cell (p := ⟨w1.heap.size, 0, none⟩) hzr).trans c1
        rw [HZ.out zs hl]
        clear hb hall hE hl c1
        go_wp2_with fail
        refine h3.mono ?_
        rintro e w3 ⟨rfl, hb⟩
        go_wp2_with fail
        go_ret
        exact ⟨rfl, onB HBv.out (onB HB2.out hb)⟩
theorem many_any (n : Int) (w : World) (hk0 : Kind0 w) : Calls Tryd.prog 6 #[.int .i64 n] w fun e w' => e = .returned (.bool true) ∧ Below w.heap.size w w' := by
  by_cases h1 : n < 0
  · clear hk0
    go_enter Tryd.func6, Tryd.ntmps6
    go_wp2_with fail
    go_ret
    exact ⟨rfl, Below.refl _ _⟩
  by_cases h2 : 80 < n
  · clear hk0
    go_enter Tryd.func6, Tryd.ntmps6
    go_wp2_with fail
    go_ret
    exact ⟨rfl, Below.refl _ _⟩
  obtain ⟨N, rfl⟩ : ∃ N : Nat, n = N := ⟨n.toNat, by omega⟩
  exact many_core N w (by omega) hk0
end Go.Proofs.YtfngmnhkhfgmjacDoor
