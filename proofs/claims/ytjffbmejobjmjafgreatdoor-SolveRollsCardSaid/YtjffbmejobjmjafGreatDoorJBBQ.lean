/-
 What a member comes to, as package solve tells it (tell), where whoever is asked for the cell of another one may write on the cube's cells.
 What is told at the place of a number, as package solve tells it (at and its closure), in whatever memory: by induction on how far a place stands from those that need none.
-/
import Derived.Test.YtjffbmejobjmjafGreatDoorJBBO
import Derived.Test.YtjffbmejobjmjafGreatDoorJBBP
import Derived.Test.YtjffbmejobjmjafGreatDoorJBAZ
import Derived.BigRegion
namespace Go.Proofs.YtjffbmejobjmjafGreatDoor
open Go.ChangeShapes Go.WideShapes Go.ChangeAt Go.RowKit
set_option maxRecDepth 20000

def FrC (gC gT : Nat) (w w' : World) : Prop := Kept w.heap.size (fun k => k = gC ∨ k = gT) w w'
theorem FrC.refl (gC gT : Nat) (w : World) : FrC gC gT w w := Kept.refl _ _ _
theorem FrC.trans {gC gT : Nat} {w w1 w2 : World} (h : FrC gC gT w w1) (k : FrC gC gT w1 w2) : FrC gC gT w w2 := ⟨k.os.trans h.os, k.tape.trans h.tape, k.output.trans h.output, Nat.le_trans h.size k.size, fun i hi hx => (k.block i (Nat.lt_of_lt_of_le hi h.size) hx).trans (h.block i hi hx)⟩
theorem frC_below {gC gT : Nat} {w w' : World} (h : Below w.heap.size w w') : FrC gC gT w w' := kept_below h (Nat.le_refl _)
theorem own_frC {gC gT base e size n : Nat} {w w' : World} {v : Value} {xs : List Value} (h : w.ownsRow base e size v n xs) (k : FrC gC gT w w') (h1 : gC < base) (h2 : gT < base) : w'.ownsRow base e size v n xs := by
 refine ⟨h.1, ?_⟩
 rcases h.2 with h3 | ⟨g, cap, cur, h3, hb, hg, h4⟩
 ·exact Or.inl h3
 ·exact Or.inr ⟨g, cap, cur, h3, hb, (k.block g (Array.getElem?_eq_some_iff.1 hg).1 (by rintro (e | e) <;> omega)).trans hg, h4⟩
theorem ms_nm {w : World} {A : Option Addr} {c : Nat} {L : List (List UInt8)} (h : StrsV w A c L) (hl : L.length ≤ 30) : NmV w A c (L.map nmB) := by
 obtain ⟨h1, h2, h3⟩ := h
 refine ⟨by rw [List.length_map]; exact h1, by rw [List.length_map]; omega, h2, ?_⟩
 rcases h3 with h3 | ⟨b, o, h3, h4, h5⟩
 ·exact Or.inl (by rw [h3]; rfl)
 ·refine Or.inr ⟨b, o, h3, h4, fun j hj => ?_⟩
  rw [List.length_map] at hj
  rw [h5 j hj, List.getD_eq_getElem?_getD, List.getD_eq_getElem?_getD, List.getElem?_map, List.getElem?_eq_getElem hj]
  rfl
def telW (w : World) (d : Dm) (A : Option Addr) (c S : Nat) (al : AL) (x : WL) : World := ((w.alloc (.cells #[.string d.name, .int .i64 d.solve, .slice A d.n c, .int .i64 S, .slice al.A d.n al.c] 114)).alloc (.cells #[.int .i64 0, .int .i64 0] 48)).alloc (.cells #[.bool x.lf, .slice x.An x.nd.length x.cn, .slice x.As x.nm.length x.cs, .slice x.Ai x.ne.length x.ci] 123)
theorem telW_size (w : World) (d : Dm) (A : Option Addr) (c S : Nat) (al : AL) (x : WL) : (telW w d A c S al x).heap.size = w.heap.size + 3 := by unfold telW; simp
theorem telW_below (w : World) (d : Dm) (A : Option Addr) (c S : Nat) (al : AL) (x : WL) : Below w.heap.size w (telW w d A c S al x) := by unfold telW; go_grown
theorem telW_0 (w : World) (d : Dm) (A : Option Addr) (c S : Nat) (al : AL) (x : WL) : (telW w d A c S al x).heap[w.heap.size]? = some (.cells #[.string d.name, .int .i64 d.solve, .slice A d.n c, .int .i64 S, .slice al.A d.n al.c] 114 (0, 0)) := by
 unfold telW
 rw [heap_alloc_old _ _ (by simp; omega), heap_alloc_old _ _ (by simp)]
 exact heap_alloc_new ..
theorem telW_1 (w : World) (d : Dm) (A : Option Addr) (c S : Nat) (al : AL) (x : WL) : (telW w d A c S al x).heap[w.heap.size + 1]? = some (.cells #[.int .i64 0, .int .i64 0] 48) := by
 unfold telW
 rw [heap_alloc_old _ _ (by simp)]
 exact topF1 ..
theorem telW_2 (w : World) (d : Dm) (A : Option Addr) (c S : Nat) (al : AL) (x : WL) : (telW w d A c S al x).heap[w.heap.size + 2]? = some (.cells #[.bool x.lf, .slice x.An x.nd.length x.cn, .slice x.As x.nm.length x.cs, .slice x.Ai x.ne.length x.ci] 123 (0, 0)) := by
 unfold telW
 have h := heap_alloc_new ((w.alloc (.cells #[.string d.name, .int .i64 d.solve, .slice A d.n c, .int .i64 S, .slice al.A d.n al.c] 114)).alloc (.cells #[.int .i64 0, .int .i64 0] 48)) (.cells #[.bool x.lf, .slice x.An x.nd.length x.cn, .slice x.As x.nm.length x.cs, .slice x.Ai x.ne.length x.ci] 123)
 simpa using h
theorem way_len {d : Dm} (hR : (rErr d).2 = 0) {m : Nat} (hm : m < d.n) {x : WL} (h : WayOf d m x) : x.ne.length ≤ 30 ∧ ∀ z, z ∈ x.ne ↔ z ∈ mNd d m := by
 obtain ⟨hd, hme, -, -⟩ := rErr_right hR
 obtain ⟨-, -, hd2, -⟩ := dimErr_right hd
 by_cases hf : (d.mem m).formula.size = 0
 ·rw [(h.1 hf).2.2.2]
  exact ⟨Nat.le_trans (selTo_len _ _) (by omega), fun z => Iff.rfl⟩
 ·have hpe := mErr_prsE hf (hme m hm)
  have hfe := form_read hpe
  rw [(h.2 hf).2.2.2]
  refine ⟨by rw [List.length_map]; exact refs_len hfe, fun z => ?_⟩
  rw [need_names hd hf (hme m hm), List.mem_map]
  constructor
  ·rintro ⟨nm, h1, rfl⟩
   exact ⟨nm, ((refs_once hfe).2 nm).1 h1, rfl⟩
  ·rintro ⟨nm, h1, rfl⟩
   exact ⟨nm, ((refs_once hfe).2 nm).2 h1, rfl⟩
theorem run_make_cap (n : Nat) (hn : n ≤ 3000) (w : World) : (Instr.makeSlice 49 (.int .i64 0) (.int .i64 (n : Int))).run Tryz.prog w = .ok (.slice (some ⟨w.heap.size, 0, none⟩) 0 n) (w.alloc (.cells (madeCells #[.int .i64 0, .int .i64 0] (n * 2)) 48)) := by
 obtain ⟨i0, hi0, hz0, hz1, hz2⟩ := info_parts Tryz.infoCe
 have hr := run_make (P := Tryz.prog) w 49 48 i0 _ Tryz.underlying49 hi0 hz0 .i64 .i64 0 n (by omega) (by omega) (by rw [hz2]; omega) (by omega)
 simp only [Int.toNat_natCast, hz1] at hr
 exact hr
theorem below_low {N M : Nat} {w w' : World} (h : Below N w w') (hM : M ≤ N) : Below M w w' := ⟨h.os, h.tape, h.output, h.size, fun i hi => h.block i (Nat.lt_of_lt_of_le hi hM)⟩
theorem frC_set {gC gT q j : Nat} {w w' : World} {v : Value} (h : FrC gC gT w w') (hq : w.heap.size ≤ q) : FrC gC gT w (w'.setCell ⟨q, j, none⟩ v) := ⟨h.os, h.tape, h.output, by simp only [World.size_setCell]; exact h.size, fun i hi hx => by rw [setCell_off _ _ _ _ _ (by omega)]; exact h.block i hi hx⟩
theorem frC_drew {gC gT : Nat} {w w' : World} (h : FrC gC gT w w') : FrC gC gT w w'.drew := ⟨h.os, h.tape, h.output, h.size, h.block⟩
theorem map_snoc (f : Int → Int × Int) (P : List Int) {k : Nat} (h : k < P.length) : (P.take (k + 1)).map f = (P.take k).map f ++ [f (P.getD k 0)] := by
 rw [List.take_succ_eq_append_getElem h, List.map_append, List.getD_eq_getElem?_getD, List.getElem?_eq_getElem h]
 rfl

theorem low_grown {B base e size n : Nat} {y w4 : World} {o : Obj} {v : Value} {xs : List Value} (hB : B ≤ base) (hs : B ≤ y.heap.size) (hown : y.ownsRow base e size v n xs) (hgrow : (y.alloc o).grownBy w4 v.ownBlock) : Below B y w4 :=
 ((Below.refl B y).alloc hs o).grown hgrow (by simp; omega) (fun j hj => Nat.le_trans hB (hown.lt j hj).1)
theorem frC_then {gC gT : Nat} {w y w4 : World} (h : FrC gC gT w y) (k : Below w.heap.size y w4) : FrC gC gT w w4 := ⟨k.os.trans h.os, k.tape.trans h.tape, k.output.trans h.output, Nat.le_trans h.size k.size, fun i hi hx => (k.block i hi).trans (h.block i hi hx)⟩
theorem celV_own {w : World} {base : Nat} {v : Value} {L : List (Int × Int)} (h : w.ownsRow base 48 2 v L.length (cellsC L)) : ∃ A c, v = .slice A L.length c ∧ CelV w A c L := by
 by_cases hl : 0 < L.length
 ·obtain ⟨g, c, h1, -, h2, h3, h4⟩ := celB_own h hl
  exact ⟨_, c, h1, h2, h3, Or.inr ⟨g, 0, rfl, h4.celAt⟩⟩
 ·have hL : L = [] := List.eq_nil_of_length_eq_zero (by omega)
  subst hL
  rcases h.2 with ⟨rfl, -⟩ | ⟨g, cap, cur, rfl, -, -, -, h5, -⟩
  ·exact ⟨none, 0, rfl, CelV.nil _ _ _ (by omega)⟩
  ·exact ⟨_, cap, rfl, CelV.nil _ _ _ (by unfold maxLen at h5; omega)⟩
theorem part_sign {d : Dm} {m : Nat} (hf : (d.mem m).formula.size = 0) : ∀ k ∈ mNd d m, ∃ j : Nat, k = j ∧ j < d.n ∧ (d.mem j).sign ≠ 0 := fun k hk => by
 rw [← parts_need hf, List.mem_filter] at hk
 obtain ⟨j, h1, h2, -⟩ := selTo_mem k hk.1
 refine ⟨j, h1, h2, ?_⟩
 have := hk.2
 rw [h1] at this
 unfold sgB at this
 simpa using this

set_option maxHeartbeats 8000000 in
theorem tell_any (S0 : World → Prop) (gC gT F q1 q2 q3 q4 : Nat) (hent : EntersO F) (bm om c S : Nat) (al : AL) (d : Dm) (m : Nat) (f : Int → Int × Int) (w : World) (hR : (rErr d).2 = 0) (hm : m < d.n) (hgC : gC < w.heap.size) (hgT : gT < w.heap.size)
  (hS0 : S0 w) (hSB : ∀ w1 w2, S0 w1 → w.heap.size ≤ w1.heap.size → Below w.heap.size w1 w2 → S0 w2) (hAx : ∀ w1, S0 w1 → AxOne w1 d al ∧ MemsV w1 (some ⟨bm, om, none⟩) c d.n d.mem)
  (hok : ∀ z ∈ mNd d m, goodC (f z))
  (hAt : ∀ z ∈ mNd d m, ∀ w1, S0 w1 → FrC gC gT w w1 → Calls Tryz.prog F #[.int .i64 z, .pointer (some ⟨q1, 0, none⟩), .pointer (some ⟨q2, 0, none⟩), .pointer (some ⟨q3, 0, none⟩), .pointer (some ⟨q4, 0, none⟩)] w1 fun e w2 => e = .returned (.tuple #[.agg #[.int .i64 (f z).1, .int .i64 (f z).2], .nilIface]) ∧ S0 w2 ∧ FrC gC gT w1 w2) :
  Calls Tryz.prog 67 #[axV d (some ⟨bm, om, none⟩) c S al, .int .i64 m, .func (.func F) #[] #[.pointer (some ⟨q1, 0, none⟩), .pointer (some ⟨q2, 0, none⟩), .pointer (some ⟨q3, 0, none⟩), .pointer (some ⟨q4, 0, none⟩)]] w fun e w' => e = .returned (.tuple #[.agg #[.int .i64 (oneV d f m).1, .int .i64 (oneV d f m).2], .nilIface]) ∧ S0 w' ∧ FrC gC gT w w' := by
 obtain ⟨hd, hme, -, -⟩ := rErr_right hR
 obtain ⟨-, -, hd2, -⟩ := dimErr_right hd
 obtain ⟨i0, hi0, hz0, hz1, hz2⟩ := info_parts Tryz.infoCe
 obtain ⟨hone, -⟩ := hAx w hS0
 obtain ⟨b, hAb, hbc, hbl, ⟨y0, y1, y2, y3⟩, -⟩ := hone.way hm
 have hwo := hone.2.2 m hm
 have HXs : Hid (al.xs.getD m noW ∈ al.xs) := by
  show _ ∈ _
  rw [List.getD_eq_getElem?_getD, List.getElem?_eq_getElem (by rw [hone.1]; exact hm)]
  exact List.getElem_mem _
 obtain ⟨x, hx⟩ : ∃ x, al.xs.getD m noW = x := ⟨_, rfl⟩
 rw [hx] at y0 y1 y2 y3 hwo HXs
 have HWy : Hid (∀ w1, S0 w1 → WayT w1 x) := fun w1 h => (hAx w1 h).1.2.1.2.2 x HXs.out
 have HMy : Hid (∀ w1, S0 w1 → MemsAt w1 bm om d.n d.mem) := fun w1 h => by
  obtain ⟨-, h0 | ⟨b', o', h1, h2⟩⟩ := (hAx w1 h).2
  ·omega
  ·cases h1; exact h2
 obtain ⟨hne30, hnem⟩ := way_len hR hm hwo
 have HWo : Hid (WayOf d m x) := hwo
 have HNe : Hid (∀ z, z ∈ x.ne ↔ z ∈ mNd d m) := hnem
 have hB0 := telW_below w d (some ⟨bm, om, none⟩) c S al x
 have hSz := telW_size w d (some ⟨bm, om, none⟩) c S al x
 have hk0 := telW_0 w d (some ⟨bm, om, none⟩) c S al x
 have hk1 := telW_1 w d (some ⟨bm, om, none⟩) c S al x
 have hk2 := telW_2 w d (some ⟨bm, om, none⟩) c S al x
 obtain ⟨W, hW⟩ : ∃ W, telW w d (some ⟨bm, om, none⟩) c S al x = W := ⟨_, rfl⟩
 rw [hW] at hB0 hSz hk0 hk1 hk2
 unfold telW at hW
 unfold axV
 rw [hAb] at hW hk0 ⊢
 obtain ⟨n, hn⟩ : ∃ n, x.ne.length = n := ⟨_, rfl⟩
 have HN : Hid (x.ne.length = n) := hn
 obtain ⟨ai, hai⟩ : ∃ ai, x.Ai = ai := ⟨_, rfl⟩
 have HAi : Hid (x.Ai = ai) := hai
 rw [hn] at hne30 y3 hW hk2
 rw [hai] at y3 hW hk2
 have c4 : W.cell? ⟨w.heap.size, 4, none⟩ = some (.slice (some ⟨b, 0, none⟩) d.n al.c) := by simp [World.cell?, hk0]
 have c3 : W.cell? ⟨w.heap.size + 2, 3, none⟩ = some (.slice ai n x.ci) := by simp [World.cell?, hk2]
 have hmk := run_make_cap n (by omega)
 have hmI : (m : Int) < (d.n : Int) := by omega
 have hdI : (d.n : Int) ≤ 12 := by omega
 have hnI : (n : Int) ≤ 30 := by omega
 have HB0 : Hid (Below w.heap.size w W) := hB0
 have HSz : Hid (W.heap.size = w.heap.size + 3) := hSz
 have HK : Hid (W.heap[w.heap.size]? = some (.cells #[.string d.name, .int .i64 d.solve, .slice (some ⟨bm, om, none⟩) d.n c, .int .i64 S, .slice (some ⟨b, 0, none⟩) d.n al.c] 114 (0, 0)) ∧ W.heap[w.heap.size + 1]? = some (.cells #[.int .i64 0, .int .i64 0] 48) ∧ W.heap[w.heap.size + 2]? = some (.cells #[.bool x.lf, .slice x.An x.nd.length x.cn, .slice x.As x.nm.length x.cs, .slice ai n x.ci] 123 (0, 0))) := ⟨hk0, hk1, hk2⟩
 have HS0 : Hid (S0 w) := hS0
 have HSB : Hid (∀ w1 w2, S0 w1 → w.heap.size ≤ w1.heap.size → Below w.heap.size w1 w2 → S0 w2) := hSB
 have HAt : Hid (∀ z ∈ mNd d m, ∀ w1, S0 w1 → FrC gC gT w w1 → Calls Tryz.prog F #[.int .i64 z, .pointer (some ⟨q1, 0, none⟩), .pointer (some ⟨q2, 0, none⟩), .pointer (some ⟨q3, 0, none⟩), .pointer (some ⟨q4, 0, none⟩)] w1 fun e w2 => e = .returned (.tuple #[.agg #[.int .i64 (f z).1, .int .i64 (f z).2], .nilIface]) ∧ S0 w2 ∧ FrC gC gT w1 w2) := hAt
 have HOk : Hid (∀ z ∈ mNd d m, goodC (f z)) := hok
 have HRr : Hid ((dimErr d).2 = 0 ∧ mErr d m = 0) := ⟨hd, hme m hm⟩
 have HAb : Hid (al.A = some ⟨b, 0, none⟩) := hAb
 obtain ⟨v, hv⟩ : ∃ v, W.alloc (.cells (madeCells #[.int .i64 0, .int .i64 0] (n * 2)) 48) = v := ⟨_, rfl⟩
 have hBv : Below W.heap.size W v := by rw [← hv]; go_grown
 have HBv : Hid (Below W.heap.size W v) := hBv
 have HOv : Hid (v.ownsRow W.heap.size 48 2 (.slice (some ⟨W.heap.size, 0, none⟩) 0 n) 0 (cellsC ((x.ne.take 0).map f))) := by
  show World.ownsRow ..
  rw [← hv]
  exact World.ownsRow_made W _ n (Nat.le_refl _) (by unfold maxLen; omega) (by simp [madeCells])
 have HWlt : Hid (w.heap.size < W.heap.size ∧ w.heap.size + 1 < W.heap.size ∧ w.heap.size + 2 < W.heap.size) := ⟨by omega, by omega, by omega⟩
 have cv3 := (hBv.cell (p := ⟨w.heap.size + 2, 3, none⟩) (by show w.heap.size + 2 < _; omega)).trans c3
 have hent' : ∀ (args : Array Value) (w : World), (callFunc F args).run Tryz.prog w = .ok (.enter F args) w := hent
 clear hone hx hwo hnem hai hB0 hk0 hk1 hk2 hn hS0 hSB hAt hok hAx hd hme hBv hSz hR hAb hent
 go_enter Tryz.func67, Tryz.ntmps67
 go_wp2_with fail
 clear hW hv hmk y0 y1 y2 y3 c4 c3 cv3
 go_loopg [9, 26] n (fun g s9 s26 wr => ∃ (k : Nat) (u : Value), k ≤ n ∧ g = n - k ∧ s26 = .int .i64 k ∧ u = s9 ∧ Hid (wr.ownsRow W.heap.size 48 2 u k (cellsC ((x.ne.take k).map f))) ∧ Hid (S0 wr) ∧ Hid (FrC gC gT W wr))
 case atStart => exact ⟨0, _, Nat.zero_le _, rfl, rfl, rfl, HOv, HSB.out _ _ HS0.out (Nat.le_refl _) (onB HB0.out HBv.out), frC_below HBv.out⟩
 case round =>
  obtain ⟨k, u, hk, rfl, rfl, rfl, HO, HS, HF⟩ := hrel
  have hax := (HF.out.block w.heap.size HWlt.out.1 (by rintro (e | e) <;> omega)).trans HK.out.1
  have hrs := (HF.out.block (w.heap.size + 1) HWlt.out.2.1 (by rintro (e | e) <;> omega)).trans HK.out.2.1
  have hwy := (HF.out.block (w.heap.size + 2) HWlt.out.2.2 (by rintro (e | e) <;> omega)).trans HK.out.2.2
  have hlt2 : w.heap.size + 2 < wr.heap.size := (Array.getElem?_eq_some_iff.1 hwy).1
  have HWr : Hid (FrC gC gT w wr) := (frC_below HB0.out).trans HF.out
  by_cases hlt : k < n
  ·have hki : (k : Int) < (n : Int) := by omega
   have hkx : k < x.ne.length := by rw [HN.out]; exact hlt
   obtain ⟨hcI, -, h0 | ⟨bi, csi, fri, hAi, hbi, hcell⟩⟩ := (HWy.out wr HS.out).2.2
   ·have := HN.out; rw [h0] at this; simp at this; omega
   have ci := hcell k hkx
   have hbil : bi < wr.heap.size := (Array.getElem?_eq_some_iff.1 hbi).1
   have hciI : (n : Int) ≤ (x.ci : Int) := by rw [HN.out] at hcI; omega
   have hmem : x.ne.getD k 0 ∈ mNd d m := (HNe.out _).1 (by rw [List.getD_eq_getElem?_getD, List.getElem?_eq_getElem hkx]; exact List.getElem_mem hkx)
   have hcall := HAt.out _ hmem wr HS.out HWr.out
   have HSn : Hid ((x.ne.take (k + 1)).map f = (x.ne.take k).map f ++ [f (x.ne.getD k 0)]) := map_snoc f x.ne hkx
   generalize f (x.ne.getD k 0) = r at hcall HSn
   obtain ⟨ra, rb⟩ := r
   simp only at hcall
   generalize x.ne.getD k 0 = z at ci hcall
   have hae : ai = some ⟨bi, 0, none⟩ := HAi.out.symm.trans hAi
   subst hae
   clear hmem hcell hbi hAi hax hrs hwy hcI
   go_wp2_with fail
   refine hcall.mono ?_
   rintro e w2 ⟨rfl, hS2, hF2⟩
   obtain ⟨y, hy⟩ : ∃ y, w2.alloc (.cells #[.int .i64 ra, .int .i64 rb] 48) = y := ⟨_, rfl⟩
   have hBy : Below w2.heap.size w2 y := by rw [← hy]; go_grown
   obtain ⟨p0, p1, -, -⟩ := pair_at (show y.heap[w2.heap.size]? = some (.cells #[.int .i64 ra, .int .i64 rb] 48 (0, 0)) from by rw [← hy]; exact heap_alloc_new ..)
   have hsw := HWr.out.size
   have hs2 := hF2.size
   have hsy := hBy.size
   have HOy : Hid (y.ownsRow W.heap.size 48 2 u k (cellsC ((x.ne.take k).map f))) := own_later (own_frC HO.out hF2 (by have := HWlt.out.1; omega) (by have := HWlt.out.1; omega)) hBy
   have HSy : Hid (S0 y) := HSB.out w2 y hS2 (by omega) (below_low hBy (by omega))
   have HFy : Hid (FrC gC gT W y) := (HF.out.trans hF2).trans (frC_below hBy)
   have hsW : W.heap.size ≤ y.heap.size := HFy.out.size
   clear hS2 hF2 hBy hcall
   go_wp2_with (at_builtin; refine wpList_append_own _ rfl _ _ 49 rfl W.heap.size 48 i0 (.agg #[.int .i64 0, .int .i64 0]) 2 16 Tryz.underlying49 hi0 hz0 hz1 hz2 rfl (by decide) _ _ _ rfl (HOy.out.alloc _) ⟨y.heap.size, 0, none⟩ 1 1 [.int .i64 ra, .int .i64 rb] rfl rfl ?qe2 ?qe3 ?qe4 ?qe5 ?qe6 ?_)
   case qe2 =>
    intro j t hj
    rw [plain_addW, Lib.cell_of_heap (heap_alloc_new y (.cells #[.int .i64 ra, .int .i64 rb] 48))]
    simpa using hj
   case qe3 => intro t ht; simp at ht; rcases ht with rfl | rfl <;> rfl
   case qe4 => simp only [maxLen]; omega
   case qe5 => omega
   case qe6 => simp; omega
   intro v' w4 hown' hgrow hnil
   have HF4 : Hid (FrC gC gT W w4) := frC_then HFy.out (low_grown (Nat.le_refl _) hsW HOy.out hgrow)
   have HS4 : Hid (S0 w4) := HSB.out y w4 HSy.out (by omega) (low_grown (by have := HWlt.out.1; omega) (by omega) HOy.out hgrow)
   have HO4 : Hid (w4.ownsRow W.heap.size 48 2 v' (k + 1) (cellsC ((x.ne.take (k + 1)).map f))) := by
    show World.ownsRow ..
    rw [HSn.out, cellsC_append, List.map_take]
    exact hown'
   clear hown' hgrow hnil p0 p1 hy
   go_wp2_with fail
   go_roundg (n - (k + 1))
   case measure => omega
   case rel => exact ⟨k + 1, _, by omega, rfl, by go_num, rfl, HO4, HS4, HF4⟩
  ·have hke : k = n := by omega
   subst hke
   have HCx : Hid (∃ A c, u = .slice A k c ∧ CelV wr A c (x.ne.map f)) := by
    have h := HO.out
    rw [List.take_of_length_le (by rw [HN.out]; exact Nat.le_refl _)] at h
    have hlen : (x.ne.map f).length = k := by rw [List.length_map]; exact HN.out
    rw [← hlen] at h
    obtain ⟨A', c', e, hv⟩ := celV_own h
    rw [hlen] at e
    exact ⟨A', c', e, hv⟩
   obtain ⟨Ac, cc, rfl, hCv⟩ := HCx.out
   have t0 : wr.cell? ⟨w.heap.size, 0, none⟩ = some (.string d.name) := by simp [World.cell?, hax]
   have t1 : wr.cell? ⟨w.heap.size, 1, none⟩ = some (.int .i64 d.solve) := by simp [World.cell?, hax]
   have t2 : wr.cell? ⟨w.heap.size, 2, none⟩ = some (.slice (some ⟨bm, om, none⟩) d.n c) := by simp [World.cell?, hax]
   have t3 : wr.cell? ⟨w.heap.size, 3, none⟩ = some (.int .i64 S) := by simp [World.cell?, hax]
   have t4 : wr.cell? ⟨w.heap.size, 4, none⟩ = some (.slice (some ⟨b, 0, none⟩) d.n al.c) := by simp [World.cell?, hax]
   have x1 : wr.cell? ⟨w.heap.size + 2, 1, none⟩ = some (.slice x.An x.nd.length x.cn) := by simp [World.cell?, hwy]
   have x2 : wr.cell? ⟨w.heap.size + 2, 2, none⟩ = some (.slice x.As x.nm.length x.cs) := by simp [World.cell?, hwy]
   have x3 : wr.cell? ⟨w.heap.size + 2, 3, none⟩ = some (.slice ai k x.ci) := by simp [World.cell?, hwy]
   have HRs : Hid (wr.heap[w.heap.size + 1]? = some (.cells #[.int .i64 0, .int .i64 0] 48)) := hrs
   have hl1 : w.heap.size + 1 < wr.heap.size := (Array.getElem?_eq_some_iff.1 hrs).1
   have hsw := HWr.out.size
   by_cases hf : (d.mem m).formula.size = 0
   ·obtain ⟨-, e1, -, e3⟩ := HWo.out.1 hf
    have htg := together_any bm om c S al d x.Ai x.ci x.ne Ac cc (x.ne.map f) f wr hd2 (by rw [e3]; exact Nat.le_trans (selTo_len _ _) hd2) (by rw [e3]; exact part_sign hf) (Sg.of HRr.out.1) rfl (by rw [e3]; exact HOk.out) (HMy.out wr HS.out) (HWy.out wr HS.out).2.2.at hCv
    unfold axV at htg
    rw [HAb.out, HAi.out, HN.out, e3, parts_value hf] at htg
    rw [e1] at x1
    simp only [List.length_nil] at x1
    obtain ⟨⟨ra, rb⟩, hRe⟩ : ∃ R, oneV d f m = R := ⟨_, rfl⟩
    have HRe : Hid (oneV d f m = (ra, rb)) := hRe
    rw [hRe] at htg
    simp only at htg
    clear hRe
    clear hCv hax hrs hwy hf e1 e3 HCx
    go_wp2_with fail
    refine htg.mono ?_
    rintro e w4 ⟨rfl, hb4⟩
    have HB4 : Hid (Below wr.heap.size wr w4) := hb4
    obtain ⟨e0, e1, g0, g1⟩ := pair_at ((hb4.block (w.heap.size + 1) hl1).trans HRs.out)
    have hl4 : w.heap.size + 1 < w4.heap.size := Nat.lt_of_lt_of_le hl1 hb4.size
    clear hb4 htg t0 t1 t2 t3 t4 x1 x2 x3
    go_wp2_with fail
    refine bodyPost_ret (v := .tuple #[.agg #[.int .i64 ra, .int .i64 rb], .nilIface]) (by simp [results, Tryz.results67, go_sem, e0, e1]) rfl ⟨by rw [HRe.out], ?_, ?_⟩
    ·exact HSB.out w4 _ (HSB.out wr w4 HS.out (by omega) (below_low HB4.out (by omega))) (by omega) (((Below.refl _ _).setCell (by simp) _).setCell (by simp) _)
    ·exact frC_set (frC_set (HWr.out.trans (frC_below HB4.out)) (by omega)) (by omega)
   ·obtain ⟨-, e1, e2, e3⟩ := HWo.out.2 hf
    have hpe := mErr_prsE hf HRr.out.2
    have hfe := form_read hpe
    have hrl := refs_len hfe
    obtain ⟨v1, v2⟩ := form_value HRr.out.1 hf HRr.out.2 f HOk.out
    have hpos := (form_right hfe).1
    rw [← e2] at hrl
    have hvl := value_any x.An x.cn x.nd x.As x.cs (x.nm.map nmB) Ac cc (x.ne.map f) wr (HWy.out wr HS.out).1.1 (ms_nm (HWy.out wr HS.out).2.1.1 hrl) hCv
    have q1 : valE x.nd (x.nm.map nmB) (x.ne.map f) = 0 := by rw [e1, e2, e3]; exact v1
    have q2 : valC x.nd (x.nm.map nmB) (x.ne.map f) = oneV d f m := by rw [e1, e2, e3]; exact v2
    rw [q1, q2, errV_zero, List.length_map, List.length_map, HN.out] at hvl
    have hposI : 0 < (x.nd.length : Int) := by rw [e1]; omega
    have hposB : decide (0 < (x.nd.length : Int)) = true := decide_eq_true hposI
    obtain ⟨⟨ra, rb⟩, hRe⟩ : ∃ R, oneV d f m = R := ⟨_, rfl⟩
    have HRe : Hid (oneV d f m = (ra, rb)) := hRe
    rw [hRe] at hvl
    simp only at hvl
    clear hRe
    generalize x.nd.length = nl at x1 hvl hposB
    generalize x.nm.length = ml at x2 hvl
    clear hCv hax hrs hwy hf e1 e2 e3 HCx hpe hfe hrl v1 v2 hpos q1 q2 hposI
    obtain ⟨nk, rfl⟩ : ∃ nk, nl = nk + 1 := ⟨nl - 1, by have := of_decide_eq_true hposB; omega⟩
    clear hposB
    go_wp2_with fail
    refine hvl.mono ?_
    rintro e w4 ⟨rfl, hb4⟩
    have HB4 : Hid (Below wr.heap.size wr w4) := hb4
    obtain ⟨e0, e1, g0, g1⟩ := pair_at ((hb4.block (w.heap.size + 1) hl1).trans HRs.out)
    have hl4 : w.heap.size + 1 < w4.heap.size := Nat.lt_of_lt_of_le hl1 hb4.size
    clear hb4 hvl t0 t1 t2 t3 t4 x1 x2 x3
    go_wp2_with fail
    refine bodyPost_ret (v := .tuple #[.agg #[.int .i64 ra, .int .i64 rb], .nilIface]) (by simp [results, Tryz.results67, go_sem, e0, e1]) rfl ⟨by rw [HRe.out], ?_, ?_⟩
    ·exact HSB.out w4 _ (HSB.out wr w4 HS.out (by omega) (below_low HB4.out (by omega))) (by omega) (((Below.refl _ _).setCell (by simp) _).setCell (by simp) _)
    ·exact frC_set (frC_set (HWr.out.trans (frC_below HB4.out)) (by omega)) (by omega)
end Go.Proofs.YtjffbmejobjmjafGreatDoor

namespace Go.Proofs.YtjffbmejobjmjafGreatDoor
open Go.ChangeShapes Go.WideShapes Go.ChangeAt Go.RowKit
set_option maxRecDepth 20000

def StC (wB : World) (qc g n gC cC gT : Nat) (D : Nat → Dm) (inp : List Int → Int × Int) (w : World) : Prop :=
 Below wB.heap.size wB w ∧ w.heap[qc]? = some (.cells #[.slice (some ⟨g, 0, none⟩) n n, .slice (some ⟨gC, 0, none⟩) (prodN D n) cC, .slice (some ⟨gT, 0, none⟩) (prodN D n) (prodN D n)] 76 (0, 0)) ∧ ∃ L f, CelB w gC L ∧ L.length = prodN D n ∧ BolB w gT (prodN D n) f ∧ ∀ j, j < prodN D n → (f j = true → L.getD j noC = solV D n inp (placeL D n j)) ∧ (f j = false → L.getD j noC = inp (placeL D n j))
structure CtxA (wB : World) (qc g n gC cC gT : Nat) (D : Nat → Dm) (A : Nat → Option Addr) (C : Nat → Nat) (X : Nat → AL) (inp : List Int → Int × Int) : Prop where
 hE : (allErr D n).2.2 = 0
 hR : AllR D n
 hA : AxesV wB g n D A C X
 hg : ∀ p, goodC (inp p)
 hq : wB.heap.size ≤ qc
 hC : wB.heap.size ≤ gC
 hT : wB.heap.size ≤ gT
 hcc : prodN D n ≤ cC
section
variable {wB : World} {qc g n gC cC gT : Nat} {D : Nat → Dm} {A : Nat → Option Addr} {C : Nat → Nat} {X : Nat → AL} {inp : List Int → Int × Int}
theorem StC.lts {w : World} (h : StC wB qc g n gC cC gT D inp w) : qc < w.heap.size ∧ gC < w.heap.size ∧ gT < w.heap.size ∧ wB.heap.size ≤ w.heap.size := by
 obtain ⟨h1, h2, L, f, h3, -, h4, -⟩ := h
 exact ⟨(Array.getElem?_eq_some_iff.1 h2).1, h3.lt, h4.lt, h1.size⟩
theorem StC.ne {w : World} (h : StC wB qc g n gC cC gT D inp w) : qc ≠ gC ∧ qc ≠ gT ∧ gC ≠ gT := by
 obtain ⟨-, h2, L, f, ⟨cur, h3, -⟩, -, h4, -⟩ := h
 unfold BolB at h4
 refine ⟨fun e => ?_, fun e => ?_, fun e => ?_⟩
 ·rw [e, h3] at h2; simp at h2
 ·rw [e, h4] at h2; simp at h2
 ·rw [e, h4] at h3; simp at h3
theorem StC.next {w0 w1 w2 : World} (h0 : StC wB qc g n gC cC gT D inp w0) (h : StC wB qc g n gC cC gT D inp w1) (hB : Below w0.heap.size w1 w2) : StC wB qc g n gC cC gT D inp w2 := by
 obtain ⟨l1, l2, l3, l4⟩ := h0.lts
 obtain ⟨h1, h2, L, f, h3, h5, h4, h6⟩ := h
 exact ⟨⟨hB.os.trans h1.os, hB.tape.trans h1.tape, hB.output.trans h1.output, Nat.le_trans h1.size hB.size, fun i hi => (hB.block i (by omega)).trans (h1.block i hi)⟩, (hB.block qc l1).trans h2, L, f, h3.same (hB.block gC l2), h5, (hB.block gT l3).trans h4, h6⟩
theorem StC.drew {w : World} (h : StC wB qc g n gC cC gT D inp w) : StC wB qc g n gC cC gT D inp w.drew := h.next h (below_drewN (Below.refl _ _) 1)

theorem set_num (hE : (allErr D n).2.2 = 0) {x b j : Nat} (hb : b < n) (hx : x < prodN D n) (hj : j < (D b).n) : ∃ y : Nat, (x : Int) + ((j : Int) - (x / stepD D n b % (D b).n : Nat)) * (stepD D n b : Int) = y ∧ y < prodN D n ∧ placeL D n y = (placeL D n x).set b j := by
 obtain ⟨-, -, -, hd⟩ := allErr_some hE
 obtain ⟨y, h1, h2, h3, h4⟩ := part_place (D := D) (n := n) (dim := b) (x := x) (j := j) (fun i hi => (hd i hi).1) hb hx rfl hj
 refine ⟨y, h1, h2, ?_⟩
 apply List.ext_getElem?
 intro i
 by_cases hi : i < n
 ·rw [List.getElem?_set]
  simp only [placeL_len, hb, if_true]
  by_cases e : b = i
  ·subst e
   rw [if_pos rfl]
   have : digitAt D n y b = j := by rw [digit_step hb]; exact h3
   simp [placeL, hi, this]
  ·rw [if_neg e]
   have := h4 i hi (fun h => e h.symm)
   simp [placeL, hi, this]
 ·rw [List.getElem?_eq_none (by rw [placeL_len]; omega), List.getElem?_eq_none (by rw [List.length_set, placeL_len]; omega)]

theorem at1_in : EntersO 68 := fun args w => by simp [callFunc, Tryz.func68]; rfl

set_option maxHeartbeats 2000000 in
theorem at1_any (S0 : World → Prop) (gC gT qc qb qn qm qa x m S y : Nat) (k ra rb : Int) (w : World) (hSB : ∀ w1 w2, S0 w1 → w.heap.size ≤ w1.heap.size → Below w.heap.size w1 w2 → S0 w2) (hS0 : S0 w) (hgC : gC < w.heap.size) (hgT : gT < w.heap.size)
  (lb : qb < w.heap.size) (ln : qn < w.heap.size) (lm : qm < w.heap.size) (la : qa < w.heap.size)
  (cb : w.cell? ⟨qb, 0, none⟩ = some (.pointer (some ⟨qc, 0, none⟩))) (cn : w.cell? ⟨qn, 0, none⟩ = some (.int .i64 x)) (cm : w.cell? ⟨qm, 0, none⟩ = some (.int .i64 m)) (ca : w.cell? ⟨qa, 3, none⟩ = some (.int .i64 S))
  (hk : 0 ≤ k ∧ k ≤ 12) (hm : m ≤ 12) (hx : x ≤ 20736) (hy : (x : Int) + (k - (m : Int)) * (S : Int) = (y : Int)) (hy2 : y ≤ 20736)
  (hAt : ∀ w1, S0 w1 → FrC gC gT w w1 → Calls Tryz.prog 33 #[.pointer (some ⟨qc, 0, none⟩), .int .i64 y] w1 fun e w2 => e = .returned (.tuple #[.agg #[.int .i64 ra, .int .i64 rb], .nilIface]) ∧ S0 w2 ∧ FrC gC gT w1 w2) :
  Calls Tryz.prog 68 #[.int .i64 k, .pointer (some ⟨qb, 0, none⟩), .pointer (some ⟨qn, 0, none⟩), .pointer (some ⟨qm, 0, none⟩), .pointer (some ⟨qa, 0, none⟩)] w fun e w' => e = .returned (.tuple #[.agg #[.int .i64 ra, .int .i64 rb], .nilIface]) ∧ S0 w' ∧ FrC gC gT w w' := by
 obtain ⟨W, hW⟩ : ∃ W, w.alloc (.cells #[.int .i64 0, .int .i64 0] 48) = W := ⟨_, rfl⟩
 have hB0 : Below w.heap.size w W := by rw [← hW]; go_grown
 have hWb : W.heap[w.heap.size]? = some (.cells #[.int .i64 0, .int .i64 0] 48 (0, 0)) := by rw [← hW]; exact heap_alloc_new ..
 have c1 := (hB0.cell (p := ⟨qb, 0, none⟩) lb).trans cb
 have c2 := (hB0.cell (p := ⟨qn, 0, none⟩) ln).trans cn
 have c3 := (hB0.cell (p := ⟨qm, 0, none⟩) lm).trans cm
 have c4 := (hB0.cell (p := ⟨qa, 3, none⟩) la).trans ca
 have HWr : Hid (wrap64 ((x : Int) + wrap64 (wrap64 (k - (m : Int)) * (S : Int))) = (y : Int)) := by
  show _ = _
  obtain ⟨t1, ht1⟩ : ∃ t : Int, k - (m : Int) = t := ⟨_, rfl⟩
  obtain ⟨t2, ht2⟩ : ∃ t : Int, t1 * (S : Int) = t := ⟨_, rfl⟩
  have e1 : wrap64 t1 = t1 := by unfold wrap64; omega
  rw [ht1] at hy ⊢
  rw [e1]
  rw [ht2] at hy ⊢
  have e2 : wrap64 t2 = t2 := by unfold wrap64; omega
  rw [e2, hy]
  unfold wrap64
  omega
 have hat := hAt W (hSB w W hS0 (Nat.le_refl _) hB0) (frC_below hB0)
 have HB0 : Hid (Below w.heap.size w W) := hB0
 have HWb : Hid (W.heap[w.heap.size]? = some (.cells #[.int .i64 0, .int .i64 0] 48 (0, 0))) := hWb
 have HSB : Hid (∀ w1 w2, S0 w1 → w.heap.size ≤ w1.heap.size → Below w.heap.size w1 w2 → S0 w2) := hSB
 have hl0 : w.heap.size < W.heap.size := (Array.getElem?_eq_some_iff.1 hWb).1
 clear hB0 hWb hS0 hAt hSB cb cn cm ca hk hm hx hy hy2
 go_enter Tryz.func68, Tryz.ntmps68
 go_wp2_with fail
 rw [HWr.out]
 refine hat.mono ?_
 rintro e w4 ⟨rfl, hS4, hF4⟩
 obtain ⟨e0, e1, g0, g1⟩ := pair_at ((hF4.block w.heap.size hl0 (by rintro (e | e) <;> omega)).trans HWb.out)
 have HS4 : Hid (S0 w4) := hS4
 have HF4 : Hid (FrC gC gT W w4) := hF4
 have hl4 : w.heap.size < w4.heap.size := Nat.lt_of_lt_of_le hl0 hF4.size
 clear hat hS4 hF4
 go_wp2_with fail
 refine bodyPost_ret (v := .tuple #[.agg #[.int .i64 ra, .int .i64 rb], .nilIface]) (by simp [results, Tryz.results68, go_sem, e0, e1]) rfl ⟨rfl, ?_, ?_⟩
 ·exact HSB.out w4 _ HS4.out (by omega) (((Below.refl _ _).setCell (by simp) _).setCell (by simp) _)
 ·exact frC_set (frC_set ((frC_below HB0.out).trans HF4.out) (Nat.le_refl _)) (Nat.le_refl _)
end
end Go.Proofs.YtjffbmejobjmjafGreatDoor

