/-
 What is written, by number, and all dims folded in an order: what Cells, eachOnce and All of package fold answer, called in whatever memory.
 How a member is told, as package solve lays it out: byParts, byFormula, wayOf, in whatever memory.
 How all members of a dim, and all dims of an outline, are told, as package solve lays them out: waysOf, lay, in whatever memory.
 What is written, by number, in a row of the call's own, as package fold's Cells lays it.
-/
import Derived.Test.YtjffbmejobjmjafGreatDoorJTAT
import Derived.Test.YtjffbmejobjmjafGreatDoorJTBH
import Derived.Test.YtjffbmejobjmjafGreatDoorJTAQ
import Derived.Test.YtjffbmejobjmjafGreatDoorJTBI
import Derived.Test.YtjffbmejobjmjafGreatDoorJTAZ
import Derived.Test.YtjffbmejobjmjafGreatDoorJTBA
namespace Go.Proofs.YtjffbmejobjmjafGreatDoor
open Go.ChangeShapes Go.WideShapes Go.ChangeAt Go.RowKit
set_option maxRecDepth 20000

def wrStep (D : Nat → Dm) (n : Nat) (L : List (Int × Int)) (e : En) : List (Int × Int) := L.set (numI D e.pl n).toNat (1, e.n)
def wrV (D : Nat → Dm) (n : Nat) (l : List En) : List (Int × Int) := l.foldl (wrStep D n) (List.replicate (prodN D n) (0, 0))
theorem wrs_len (D : Nat → Dm) (n : Nat) : ∀ (l : List En) (L : List (Int × Int)), (l.foldl (wrStep D n) L).length = L.length
 | [], _ => rfl
 | e :: r, L => by rw [List.foldl_cons, wrs_len D n r]; unfold wrStep; rw [List.length_set]
theorem wrV_len (D : Nat → Dm) (n : Nat) (l : List En) : (wrV D n l).length = prodN D n := by unfold wrV; rw [wrs_len]; simp
theorem take_wr (D : Nat → Dm) (n : Nat) (L : List (Int × Int)) (xs : List EnL) {k : Nat} (h : k < xs.length) : ((lE xs).take (k + 1)).foldl (wrStep D n) L = wrStep D n (((lE xs).take k).foldl (wrStep D n) L) (xs.getD k noL).e := by
 have hk : k < (lE xs).length := by rw [lE_len]; exact h
 rw [List.take_succ_eq_append_getElem hk, List.foldl_append]
 have e : (lE xs)[k] = (xs.getD k noL).e := by rw [← lE_at, List.getD_eq_getElem?_getD, List.getElem?_eq_getElem hk]; rfl
 rw [e]
 rfl
theorem goodC_num {x : Int} (h : numOk x = true) : goodC (1, x) := by
 have hn : -1000000 ≤ x ∧ x ≤ 1000000 := by simpa [numOk] using h
 exact decide_eq_true (Or.inl ⟨rfl, by omega, by omega⟩)
theorem run_make_cells (n : Nat) (hn : n ≤ 3000) (w : World) : (Instr.makeSlice 49 (.int .i64 (n : Int)) (.int .i64 (n : Int))).run Tryz.prog w = .ok (.slice (some ⟨w.heap.size, 0, none⟩) n n) (w.alloc (.cells (madeCells #[.int .i64 0, .int .i64 0] (n * 2)) 48)) := by
 obtain ⟨i0, hi0, hz0, hz1, hz2⟩ := info_parts Tryz.infoCe
 have hr := run_make (P := Tryz.prog) w 49 48 i0 _ Tryz.underlying49 hi0 hz0 .i64 .i64 n n (by omega) (Int.le_refl _) (by rw [hz2]; omega) (by omega)
 simp only [Int.toNat_natCast, hz1] at hr
 exact hr
theorem celB_made (w : World) (n : Nat) : CelB (w.alloc (.cells (madeCells #[.int .i64 0, .int .i64 0] (n * 2)) 48)) w.heap.size (List.replicate n (0, 0)) := by
 refine ⟨_, heap_alloc_new w _, fun k hk => ?_⟩
 have hk' : k < n := by simpa using hk
 have e1 : (List.replicate n ((0 : Int), (0 : Int))).getD k noC = (0, 0) := by simp [List.getD, hk']
 rw [e1]
 constructor
 ·simp [madeCells, show k * 2 < n * 2 by omega]
 ·simp [madeCells, show k * 2 + 1 < n * 2 by omega, show (k * 2 + 1) % 2 = 1 by omega]

def fcL (D : Nat → Dm) (n : Nat) (l : List En) : List (Int × Int) := if entsErr D n l = 0 then wrV D n l else []
theorem fc_ok {D : Nat → Dm} {n : Nat} {l : List En} (h : entsErr D n l = 0) : fcL D n l = wrV D n l := by unfold fcL; rw [if_pos h]
theorem fc_bad {D : Nat → Dm} {n : Nat} {l : List En} (h : entsErr D n l ≠ 0) : fcL D n l = [] := by unfold fcL; rw [if_neg h]

set_option maxHeartbeats 8000000 in
theorem fcells_any (A0 : Option Addr) (cap n : Nat) (D : Nat → Dm) (A : Nat → Option Addr) (C : Nat → Nat) (AE : Option Addr) (ce : Nat) (xs : List EnL) (w : World) (hM : DimsV w A0 cap n D A C) (hE : EnsV w AE ce xs) :
  Calls Tryz.prog 31 #[.agg #[.slice A0 n cap], .slice AE xs.length ce] w fun e w' => (∃ A' c', e = .returned (.tuple #[.slice A' (fcL D n (lE xs)).length c', errV (entsErr D n (lE xs))]) ∧ CelV w' A' c' (fcL D n (lE xs))) ∧ Below w.heap.size w w' := by
 have hB0 := ownOut_below w A0 n cap 42
 have h := icheck_any A0 cap n D A C AE ce xs (ownOut w A0 n cap 42) (hM.later hB0) (hE.later hB0)
 have HB0 : Hid (Below w.heap.size w (ownOut w A0 n cap 42)) := hB0
 have HM : Hid (DimsV w A0 cap n D A C) := hM
 have HE : Hid (EnsV w AE ce xs) := hE
 clear hM hE hB0
 by_cases he : entsErr D n (lE xs) = 0
 ·have hEs := ens_of he
  have HEs : Hid (Ens D n (lE xs)) := hEs
  have hfew : xs.length ≤ 3000 := by have := hEs.few; rw [lE_len] at this; exact this
  have hR := hEs.right
  have HR : Hid ((allErr D n).2.2 = 0) := hR
  obtain ⟨hn1, hn4, hp3, hd⟩ := allErr_some hR
  have HF : Hid (fcL D n (lE xs) = wrV D n (lE xs) ∧ errV (entsErr D n (lE xs)) = .nilIface) := ⟨fc_ok he, by rw [he]; rfl⟩
  rw [he, errV_zero] at h
  have HBo : Hid (w.heap.size < (ownOut w A0 n cap 42).heap.size ∧ (ownOut w A0 n cap 42).cell? ⟨w.heap.size, 0, none⟩ = some (.slice A0 n cap)) := ⟨by rw [ownOut_size]; omega, ownOut_at ..⟩
  obtain ⟨N, hN⟩ : ∃ N, xs.length = N := ⟨_, rfl⟩
  have HN : Hid (xs.length = N) := hN
  rw [hN] at h hfew ⊢
  have hN' : (N : Int) ≤ 3000 := by omega
  obtain ⟨PN, hPN⟩ : ∃ PN, prodN D n = PN := ⟨_, rfl⟩
  have HPN : Hid (prodN D n = PN) := hPN
  rw [hPN] at hp3
  have hmk := run_make_cells PN hp3
  have hPN' : (PN : Int) ≤ 3000 := by omega
  have HWE : Hid (((lE xs).take N).foldl (wrStep D n) (List.replicate PN (0, 0)) = wrV D n (lE xs)) := by show _ = _; rw [List.take_of_length_le (by rw [lE_len, hN]; exact Nat.le_refl _), ← hPN]; rfl
  clear he hEs hR hd hN hPN
  go_enter Tryz.func31, Tryz.ntmps31
  go_wp2_with fail
  refine h.mono ?_
  rintro e w1 ⟨rfl, hb1⟩
  have hB : Below w.heap.size w w1 := onB HB0.out hb1
  have HB : Hid (Below w.heap.size w w1) := hB
  have HBox : Hid (BoxN w1 w.heap.size (.slice A0 n cap)) := ⟨Nat.lt_of_lt_of_le HBo.out.1 hb1.size, (hb1.cell (p := ⟨w.heap.size, 0, none⟩) HBo.out.1).trans HBo.out.2⟩
  have c1 := HBox.out.2
  have hpc := pcells_any A0 cap n D A C w1 (HM.out.later hB)
  have hcv : cellsV D n = (PN : Int) := by unfold cellsV; rw [if_pos HR.out, HPN.out]
  rw [HR.out, errV_zero, hcv] at hpc
  clear hb1 h hB hcv
  go_wp2_with fail
  refine hpc.mono ?_
  rintro e w2 ⟨rfl, hb2⟩
  have HB2 : Hid (Below w.heap.size w w2) := onB HB.out hb2
  have HBox2 : Hid (BoxN w2 w.heap.size (.slice A0 n cap)) := HBox.out.later hb2
  obtain ⟨v2, hv2⟩ : ∃ v, w2.alloc (.cells (madeCells #[.int .i64 0, .int .i64 0] (PN * 2)) 48) = v := ⟨_, rfl⟩
  have hBv : Below w2.heap.size w2 v2 := by rw [← hv2]; go_grown
  have HBv : Hid (Below w2.heap.size w2 v2) := hBv
  have HCv : Hid (CelB v2 w2.heap.size (List.replicate PN (0, 0))) := by rw [← hv2]; exact celB_made w2 PN
  have HBoxv : Hid (BoxN v2 w.heap.size (.slice A0 n cap)) := HBox2.out.later hBv
  have hwz : w.heap.size < w2.heap.size := HBox2.out.1
  clear hpc hb2 c1 hBv
  go_wp2_with fail
  clear hmk hv2
  go_loopg [32] N (fun gg s32 wr => ∃ (k : Nat), k ≤ N ∧ gg = N - k ∧ s32 = .int .i64 k ∧ Hid (CelB wr w2.heap.size (((lE xs).take k).foldl (wrStep D n) (List.replicate PN (0, 0)))) ∧ Hid (v2.grownBy wr (some w2.heap.size)))
  case atStart => exact ⟨0, Nat.zero_le _, rfl, rfl, HCv, grown_refl v2 _⟩
  case round =>
   obtain ⟨k, hk, rfl, rfl, HC, HG⟩ := hrel
   have hB2r : Below w2.heap.size w2 wr := HBv.out.grown HG.out HBv.out.size (fun j hj => by cases hj; exact Nat.le_refl _)
   have HB2r : Hid (Below w2.heap.size w2 wr) := hB2r
   have HBr : Hid (Below w.heap.size w wr) := onB HB2.out hB2r
   by_cases hlt : k < N
   ·have hkx : k < xs.length := by rw [HN.out]; exact hlt
    have hki : (k : Int) < (N : Int) := by omega
    obtain ⟨-, -, h0 | ⟨bb, oo, rfl, hA⟩⟩ := HE.out.later HBr.out
    ·have := HN.out; rw [h0] at this; simp at this; omega
    obtain ⟨c1, c2⟩ := hA.at hkx
    have hmem : (xs.getD k noL).e ∈ lE xs := List.mem_map.2 ⟨_, enl_mem hkx, rfl⟩
    obtain ⟨hqI, -, hnum⟩ := HEs.out.each _ hmem
    have hnn : -1000000 ≤ (xs.getD k noL).e.n ∧ (xs.getD k noL).e.n ≤ 1000000 := by simpa [numOk] using hnum
    obtain ⟨hq1, hq2, -⟩ := numI_bound hqI (Nat.le_refl n)
    have hpl := hA.pl hkx
    have HWr := take_wr D n (List.replicate PN (0, 0)) xs hkx
    unfold wrStep at HWr
    obtain ⟨X, hX⟩ : ∃ X : Nat, numI D (xs.getD k noL).e.pl n = X := ⟨(numI D (xs.getD k noL).e.pl n).toNat, by omega⟩
    have hnv : numV D n (xs.getD k noL).e.pl = (X : Int) := by unfold numV; rw [if_pos hqI.ok, hX]
    have hXN : X < PN := by have := HPN.out; omega
    have hNum : ∀ w', Below wr.heap.size wr w' → _ := fun w' hw' => pnumber_any A0 cap n D A C (xs.getD k noL).A (xs.getD k noL).c (xs.getD k noL).e.pl w' (HM.out.later (onB HBr.out hw')) (hpl.later hw')
    rw [hnv, hqI.ok, errV_zero] at hNum
    have HNum : Hid (∀ w', Below wr.heap.size wr w' → _) := hNum
    have hof := fun w' => of_any (xs.getD k noL).e.n w'
    rw [ofP_in (by omega) (by omega)] at hof
    rw [hX, show ((X : Int)).toNat = X by omega] at HWr
    have HWR : Hid _ := HWr
    obtain ⟨LL, hLL⟩ : ∃ LL, ((lE xs).take k).foldl (wrStep D n) (List.replicate PN (0, 0)) = LL := ⟨_, rfl⟩
    have hLLn : LL.length = PN := by rw [← hLL, wrs_len]; simp
    have HCL : Hid (CelB wr w2.heap.size LL) := by rw [← hLL]; exact HC.out
    have HNx : Hid (((lE xs).take (k + 1)).foldl (wrStep D n) (List.replicate PN (0, 0)) = LL.set X (1, (xs.getD k noL).e.n)) := by
     show _ = _
     rw [← hLL]
     exact HWR.out
    have HBxr : Hid (BoxN wr w.heap.size (.slice A0 n cap)) := boxn_other HBoxv.out (by omega) HG.out
    have hXL : X < LL.length := by omega
    have HXL : Hid (X < LL.length) := hXL
    generalize (xs.getD k noL).A = A1 at c1 HNum
    generalize (xs.getD k noL).c = k1 at c1 HNum
    generalize (xs.getD k noL).e.n = num at c2 hnn hof HNx
    generalize (xs.getD k noL).e.pl.length = m1 at c1 HNum
    have hcr := HBxr.out.2
    have hXi : (X : Int) < (PN : Int) := by omega
    obtain ⟨y, hy⟩ : ∃ y, wr.alloc (.cells #[.slice A1 m1 k1, .int .i64 num] 57) = y := ⟨_, rfl⟩
    have hBy : Below wr.heap.size wr y := by rw [← hy]; go_grown
    have HBy : Hid (Below wr.heap.size wr y) := hBy
    have HPy : Hid (y.heap[wr.heap.size]? = some (.cells #[.slice A1 m1 k1, .int .i64 num] 57 (0, 0))) := by show _ = _; rw [← hy]; exact heap_alloc_new ..
    obtain ⟨p0, p1, -, -⟩ := pair_at HPy.out
    have hyo := (HBxr.out.later hBy).2
    clear hB2r hA hmem hqI hnum hpl HWr hNum hnv hLL hLLn hX hq1 hq2 hBy hXL HWR
    go_wp2_with fail
    refine (HNum.out _ HBy.out).mono ?_
    rintro e w5 ⟨rfl, hb5⟩
    have HB5 : Hid (Below y.heap.size y w5) := hb5
    have hwr : wr.heap.size < y.heap.size := (Array.getElem?_eq_some_iff.1 HPy.out).1
    have hP5 : w5.heap[wr.heap.size]? = some (.cells #[.slice A1 m1 k1, .int .i64 num] 57 (0, 0)) := (hb5.block _ hwr).trans HPy.out
    obtain ⟨-, s1, -, -⟩ := pair_at hP5
    clear hb5 hP5 p0 p1 hyo
    go_wp2_with fail
    refine (hof _).mono ?_
    rintro e w6 ⟨rfl, hb6⟩
    have hB6 : Below wr.heap.size wr w6 := onB (onB HBy.out HB5.out) hb6
    have HC6 : Hid (CelB w6 w2.heap.size LL) := HCL.out.later hB6
    obtain ⟨g1, g2⟩ := HC6.out.at HXL.out
    have g3 := HC6.out.frozen (X * 2)
    have g4 := HC6.out.frozen (X * 2 + 1)
    have HC7 : Hid (CelB ((w6.setCell ⟨w2.heap.size, X * 2, none⟩ (.int .i64 1)).setCell ⟨w2.heap.size, X * 2 + 1, none⟩ (.int .i64 num)) w2.heap.size (((lE xs).take (k + 1)).foldl (wrStep D n) (List.replicate PN (0, 0)))) := by show CelB _ _ _; rw [HNx.out]; exact HC6.out.set HXL.out 1 num
    have HG7 : Hid (v2.grownBy ((w6.setCell ⟨w2.heap.size, X * 2, none⟩ (.int .i64 1)).setCell ⟨w2.heap.size, X * 2 + 1, none⟩ (.int .i64 num)) (some w2.heap.size)) := cel_grown (grown_then HG.out hB6)
    clear hb6 hB6 hof s1
    go_wp2_with fail
    go_roundg (N - (k + 1))
    case measure => omega
    case rel => exact ⟨k + 1, by omega, rfl, by go_num, HC7, HG7⟩
   ·have hke : k = N := by omega
    subst hke
    have HV : Hid (CelB wr w2.heap.size (wrV D n (lE xs))) := by rw [← HWE.out]; exact HC.out
    have HVL : Hid ((wrV D n (lE xs)).length = PN) := by show _ = _; rw [wrV_len]; exact HPN.out
    clear hB2r
    go_wp2_with fail
    go_ret2
    rw [HF.out.1, HF.out.2, HVL.out]
    exact ⟨⟨_, PN, rfl, by rw [HVL.out]; exact Nat.le_refl _, by omega, Or.inr ⟨_, 0, rfl, HV.out.celAt⟩⟩, HBr.out⟩
 ·have HF : Hid (fcL D n (lE xs) = []) := fc_bad he
  have HEr : Hid (errV (entsErr D n (lE xs)) = .iface 65 (.int .i64 (entsErr D n (lE xs)))) := errV_some he
  rw [errV_some he] at h
  clear he
  generalize entsErr D n (lE xs) = ee at h HEr
  generalize xs.length = N at h
  go_enter Tryz.func31, Tryz.ntmps31
  go_wp2_with fail
  refine h.mono ?_
  rintro e w1 ⟨rfl, hb1⟩
  have HB : Hid (Below w.heap.size w w1) := onB HB0.out hb1
  clear hb1 h
  go_wp2_with fail
  go_ret2
  rw [HF.out, HEr.out]
  exact ⟨⟨none, 0, rfl, CelV.nil _ _ _ (by decide)⟩, HB.out⟩
end Go.Proofs.YtjffbmejobjmjafGreatDoor

namespace Go.Proofs.YtjffbmejobjmjafGreatDoor
open Go.ChangeShapes Go.WideShapes Go.ChangeAt Go.RowKit
set_option maxRecDepth 20000

structure WL where
 lf : Bool
 nd : List Nd
 An : Option Addr
 cn : Nat
 nm : List (List UInt8)
 As : Option Addr
 cs : Nat
 ne : List Int
 Ai : Option Addr
 ci : Nat
def noW : WL := ⟨false, [], none, 0, [], none, 0, [], none, 0⟩
def cellsW1 (x : WL) : List Value := [.bool x.lf, .slice x.An x.nd.length x.cn, .slice x.As x.nm.length x.cs, .slice x.Ai x.ne.length x.ci]
def wayV (x : WL) : Value := .agg #[.bool x.lf, .slice x.An x.nd.length x.cn, .slice x.As x.nm.length x.cs, .slice x.Ai x.ne.length x.ci]
def WayT (w : World) (x : WL) : Prop := NdsT w x.An x.cn x.nd ∧ StrT w x.As x.cs x.nm ∧ IntT w x.Ai x.ci x.ne
theorem way_ne_nd : (158 : Nat) ≠ 123 := by decide
theorem way_ne_str : (9 : Nat) ≠ 123 := by decide
theorem way_ne_int : (3 : Nat) ≠ 123 := by decide
theorem ax_ne_nd : (158 : Nat) ≠ 114 := by decide
theorem ax_ne_str : (9 : Nat) ≠ 114 := by decide
theorem ax_ne_int : (3 : Nat) ≠ 114 := by decide
theorem ax_ne_way : (123 : Nat) ≠ 114 := by decide
def OffT (T : Nat) (w w' : World) : Prop := ∀ (b : Nat) (cs : Array Value) (t : Nat) (fr : Nat × Nat), w.heap[b]? = some (Obj.cells cs t fr) → t ≠ T → w'.heap[b]? = w.heap[b]?
theorem WayT.keepW {w w' : World} {x : WL} (h : WayT w x) (hB : OffT 123 w w') : WayT w' x :=
 ⟨h.1.keep fun b cs fr hb => hB b cs _ fr hb way_ne_nd, h.2.1.keep fun b cs fr hb => hB b cs _ fr hb way_ne_str, h.2.2.keep fun b cs fr hb => hB b cs _ fr hb way_ne_int⟩
theorem WayT.keepA {w w' : World} {x : WL} (h : WayT w x) (hB : OffT 114 w w') : WayT w' x :=
 ⟨h.1.keep fun b cs fr hb => hB b cs _ fr hb ax_ne_nd, h.2.1.keep fun b cs fr hb => hB b cs _ fr hb ax_ne_str, h.2.2.keep fun b cs fr hb => hB b cs _ fr hb ax_ne_int⟩
theorem WayT.later {w w' : World} {x : WL} (h : WayT w x) (hB : Below w.heap.size w w') : WayT w' x := ⟨h.1.later hB, h.2.1.later hB, h.2.2.later hB⟩
theorem offT_set {w : World} {g k T : Nat} {cs : Array Value} {fr : Nat × Nat} {v : Value} (h : w.heap[g]? = some (.cells cs T fr)) : OffT T w (w.setCell ⟨g, k, none⟩ v) := fun b cs' t fr' hb ht => by
 refine setCell_off _ _ _ _ _ fun e => ?_
 rw [e, h] at hb
 simp only [Option.some.injEq, Obj.cells.injEq] at hb
 exact ht hb.2.1.symm
theorem offT_trans {T : Nat} {w w1 w2 : World} (h : OffT T w w1) (k : OffT T w1 w2) : OffT T w w2 := fun b cs t fr hb ht => by
 have e := h b cs t fr hb ht
 exact (k b cs t fr (e.trans hb) ht).trans e
theorem set_ty {w : World} {g k T : Nat} {cs : Array Value} {fr : Nat × Nat} {v : Value} (h : w.heap[g]? = some (.cells cs T fr)) : (w.setCell ⟨g, k, none⟩ v).heap[g]? = some (.cells (cs.setIfInBounds k v) T fr) := by
 rw [Sort.setCell_eq]
 unfold Sort.mapBlock
 simp only [Array.getElem?_modify, if_true, h, Option.map_some]
 rfl
theorem offT_set4 {w : World} {g T : Nat} {cs : Array Value} {fr : Nat × Nat} {a b c d : Value} (h : w.heap[g]? = some (.cells cs T fr)) : OffT T w ((((w.setCell ⟨g, 0, none⟩ a).setCell ⟨g, 1, none⟩ b).setCell ⟨g, 2, none⟩ c).setCell ⟨g, 3, none⟩ d) :=
 offT_trans (offT_trans (offT_trans (offT_set h) (offT_set (set_ty h))) (offT_set (set_ty (set_ty h)))) (offT_set (set_ty (set_ty (set_ty h))))

def WayOf (d : Dm) (i : Nat) (x : WL) : Prop := ((d.mem i).formula.size = 0 → x.lf = leafB d.mem d.n i ∧ x.nd = [] ∧ x.nm = [] ∧ x.ne = mNd d i) ∧ ((d.mem i).formula.size ≠ 0 → x.lf = false ∧ x.nd = prsL (d.mem i).formula ∧ x.nm = refsP (prsL (d.mem i).formula) ∧ x.ne = (refsP (prsL (d.mem i).formula)).map (whL d))

def ownWay (w : World) (d : Dm) (A : Option Addr) (cap : Nat) : World := (ownDim w d A cap 24).alloc (.cells #[.bool false, .slice none 0 0, .slice none 0 0, .slice none 0 0] 123)
theorem ownWay_below (w : World) (d : Dm) (A : Option Addr) (cap : Nat) : Below w.heap.size w (ownWay w d A cap) := by unfold ownWay ownDim; go_grown
theorem ownWay_size (w : World) (d : Dm) (A : Option Addr) (cap : Nat) : (ownWay w d A cap).heap.size = w.heap.size + 2 := by unfold ownWay ownDim; simp
theorem way_cells {w w1 : World} {d : Dm} {A : Option Addr} {cap : Nat} (hB : Below (ownWay w d A cap).heap.size (ownWay w d A cap) w1) : (w1.cell? ⟨w.heap.size, 0, none⟩ = some (.string d.name) ∧ w1.cell? ⟨w.heap.size, 1, none⟩ = some (.int .i64 d.solve) ∧ w1.cell? ⟨w.heap.size, 2, none⟩ = some (.slice A d.n cap) ∧ w.heap.size < w1.heap.size) ∧ w1.heap[w.heap.size + 1]? = some (.cells #[.bool false, .slice none 0 0, .slice none 0 0, .slice none 0 0] 123 (0, 0)) := by
 have hb : Below (ownDim w d A cap 24).heap.size (ownDim w d A cap 24) (ownWay w d A cap) := by unfold ownWay; go_grown
 refine ⟨dim_cells (onB hb hB), ?_⟩
 rw [hB.block _ (by rw [ownWay_size]; omega)]
 unfold ownWay
 have h := heap_alloc_new (ownDim w d A cap 24) (.cells #[.bool false, .slice none 0 0, .slice none 0 0, .slice none 0 0] 123)
 rw [ownDim_size] at h
 exact h
theorem way_block {w : World} {g : Nat} (h : w.heap[g]? = some (.cells #[.bool false, .slice none 0 0, .slice none 0 0, .slice none 0 0] 123 (0, 0))) : g < w.heap.size ∧ (w.cell? ⟨g, 0, none⟩ = some (.bool false) ∧ w.cell? ⟨g, 1, none⟩ = some (.slice none 0 0) ∧ w.cell? ⟨g, 2, none⟩ = some (.slice none 0 0) ∧ w.cell? ⟨g, 3, none⟩ = some (.slice none 0 0)) ∧ ∀ k, w.frozen? ⟨g, k, none⟩ = false :=
 ⟨(Array.getElem?_eq_some_iff.1 h).1, ⟨by simp [World.cell?, h], by simp [World.cell?, h], by simp [World.cell?, h], by simp [World.cell?, h]⟩, fun k => by simp [World.frozen?, h]⟩

set_option maxHeartbeats 4000000 in
theorem byparts_any (d : Dm) (A : Option Addr) (cap i : Nat) (w : World) (hR : (rErr d).2 = 0) (hi : i < d.n) (hf : (d.mem i).formula.size = 0) (hM : MemsV w A cap d.n d.mem) :
  Calls Tryz.prog 135 #[dimV d A cap, .int .i64 i] w fun e w' => (∃ x, e = .returned (.tuple #[wayV x, .nilIface]) ∧ WayT w' x ∧ WayOf d i x) ∧ Below w.heap.size w w' := by
 obtain ⟨hd, -, -, -⟩ := rErr_right hR
 have hB0 := ownWay_below w d A cap
 have hS := ownWay_size w d A cap
 obtain ⟨⟨o0, o1, o2, hq⟩, hwy⟩ := way_cells (w := w) (d := d) (A := A) (cap := cap) (Below.refl _ _)
 have hte : treeErr d [(i : Int)] = 0 := by rw [treeErr_one hd, if_neg (by omega)]
 have hlf : lfOf d i = leafB d.mem d.n i := by unfold lfOf; rw [hte]; simp
 have hle := tleaf_any d A cap i (ownWay w d A cap) (hM.later hB0)
 rw [hte, hlf, errV_zero] at hle
 have HNd : Hid (∀ w', Below w.heap.size w w' → Calls Tryz.prog 10 #[dimV d A cap, .int .i64 i] w' fun e w'' => (∃ A' c', e = .returned (.tuple #[.slice A' (mNd d i).length c', .nilIface]) ∧ IntT w'' A' c' (mNd d i)) ∧ Below w'.heap.size w' w'') := fun w' hb => by
  have h := rneed_any d A cap i w' (hM.later hb)
  rw [(ne2 hR hi).1, (ne2 hR hi).2, errV_zero] at h
  exact h
 have HWc : Hid (∀ w1, Below (ownWay w d A cap).heap.size (ownWay w d A cap) w1 → (w1.cell? ⟨w.heap.size, 0, none⟩ = some (.string d.name) ∧ w1.cell? ⟨w.heap.size, 1, none⟩ = some (.int .i64 d.solve) ∧ w1.cell? ⟨w.heap.size, 2, none⟩ = some (.slice A d.n cap) ∧ w.heap.size < w1.heap.size) ∧ w1.heap[w.heap.size + 1]? = some (.cells #[.bool false, .slice none 0 0, .slice none 0 0, .slice none 0 0] 123 (0, 0))) := fun w1 h => way_cells h
 unfold dimV at hle HNd ⊢
 obtain ⟨W, hW⟩ : ∃ W, ownWay w d A cap = W := ⟨_, rfl⟩
 rw [hW] at hB0 hS o0 o1 o2 hq hwy hle HWc
 unfold ownWay ownDim at hW
 have HB0 : Hid (Below w.heap.size w W) := hB0
 have HWo : Hid (∀ A' c', WayOf d i ⟨leafB d.mem d.n i, [], none, 0, [], none, 0, mNd d i, A', c'⟩) := fun A' c' => ⟨fun _ => ⟨rfl, rfl, rfl, rfl⟩, fun h => absurd hf h⟩
 generalize leafB d.mem d.n i = lf at hle HWo
 clear hd hte hlf hR hf hM hB0 hwy
 go_enter Tryz.func135, Tryz.ntmps135
 go_wp2_with fail
 refine hle.mono ?_
 rintro e w1 ⟨rfl, hb1⟩
 have HB1 : Hid (Below W.heap.size W w1) := hb1
 obtain ⟨⟨p0, p1, p2, hq1⟩, -⟩ := HWc.out w1 hb1
 clear hb1 hle o0 o1 o2 hW
 go_wp2_with fail
 refine (HNd.out w1 (onB HB0.out HB1.out)).mono ?_
 rintro e w2 ⟨⟨A2, c2, rfl, hI2⟩, hb2⟩
 have HB2 : Hid (Below W.heap.size W w2) := onB HB1.out hb2
 obtain ⟨-, hr⟩ := HWc.out w2 HB2.out
 obtain ⟨hg, ⟨r0, r1, r2, r3⟩, hfr⟩ := way_block hr
 have f0 := hfr 0
 have f1 := hfr 1
 have f2 := hfr 2
 have f3 := hfr 3
 have HI2 : Hid (IntT w2 A2 c2 (mNd d i)) := hI2
 have HR : Hid (w2.heap[w.heap.size + 1]? = some (.cells #[.bool false, .slice none 0 0, .slice none 0 0, .slice none 0 0] 123 (0, 0))) := hr
 clear hb2 hr hfr p0 p1 p2 hI2
 go_wp2_with fail
 refine bodyPost_ret (v := .tuple #[wayV ⟨lf, [], none, 0, [], none, 0, mNd d i, A2, c2⟩, .nilIface]) (by simp [results, Tryz.results135, go_sem, r0, r1, r2, r3, wayV]) rfl ⟨⟨_, rfl, ?_, HWo.out _ _⟩, ?_⟩
 ·exact WayT.keepW (⟨NdsT.nil _ _ _ (Nat.zero_le _), StrT.nil _ _ _ (Nat.zero_le _), HI2.out⟩ : WayT w2 _) (offT_set4 HR.out)
 ·exact ((((onB HB0.out HB2.out).setCell (by simp) _).setCell (by simp) _).setCell (by simp) _).setCell (by simp) _
theorem bf1_in : EntersO 164 := fun args w => by simp [callFunc, Tryz.func164]; rfl
theorem bf1_any (m : Mem) (s : ByteArray) (q : Nat) (w : World) (hq : q < w.heap.size) (h : w.cell? ⟨q, 0, none⟩ = some (.string s)) : Calls Tryz.prog 164 #[memV m, .pointer (some ⟨q, 0, none⟩)] w fun e w' => e = .returned (.bool (same m.name s)) ∧ Below w.heap.size w w' := by
 unfold memV
 go_enter Tryz.func164, Tryz.ntmps164
 go_wp2_with fail
 go_ret
 exact ⟨by simp [same], by go_grown⟩

set_option maxHeartbeats 4000000 in
theorem byformula_any (d : Dm) (A : Option Addr) (cap i : Nat) (w : World) (hR : (rErr d).2 = 0) (hi : i < d.n) (hf : (d.mem i).formula.size ≠ 0) (hM : MemsV w A cap d.n d.mem) :
  Calls Tryz.prog 134 #[dimV d A cap, .string (d.mem i).formula] w fun e w' => (∃ x, e = .returned (.tuple #[wayV x, .nilIface]) ∧ WayT w' x ∧ WayOf d i x) ∧ Below w.heap.size w w' := by
 obtain ⟨hd, hme, -, -⟩ := rErr_right hR
 obtain ⟨-, -, hd2, hall⟩ := dimErr_right hd
 obtain ⟨i0, hi0, hz0, hz1, hz2⟩ := info_parts Tryz.infoInt
 have hmf : ∀ (fn : Fn) (first cap : Array Value) (w : World), (Instr.makeFunc fn first cap).run Tryz.prog w = .ok (.func fn first cap) w := fun _ _ _ _ => rfl
 obtain ⟨hcap, h0 | ⟨b, o, rfl, hMs⟩⟩ := hM
 ·omega
 have hpe := mErr_prsE hf (hme i hi)
 have hfe := form_read hpe
 have hrl := refs_len hfe
 have hB0 := ownWay_below w d (some ⟨b, o, none⟩) cap
 have hS := ownWay_size w d (some ⟨b, o, none⟩) cap
 obtain ⟨⟨o0, o1, o2, hq⟩, -⟩ := way_cells (w := w) (d := d) (A := (some ⟨b, o, none⟩)) (cap := cap) (Below.refl _ _)
 have HWc : Hid (∀ w1, Below (ownWay w d (some ⟨b, o, none⟩) cap).heap.size (ownWay w d (some ⟨b, o, none⟩) cap) w1 → (w1.cell? ⟨w.heap.size, 0, none⟩ = some (.string d.name) ∧ w1.cell? ⟨w.heap.size, 1, none⟩ = some (.int .i64 d.solve) ∧ w1.cell? ⟨w.heap.size, 2, none⟩ = some (.slice (some ⟨b, o, none⟩) d.n cap) ∧ w.heap.size < w1.heap.size) ∧ w1.heap[w.heap.size + 1]? = some (.cells #[.bool false, .slice none 0 0, .slice none 0 0, .slice none 0 0] 123 (0, 0))) := fun w1 h => way_cells h
 have HM : Hid (MemsAt w b o d.n d.mem) := hMs
 unfold dimV
 obtain ⟨W, hW⟩ : ∃ W, ownWay w d (some ⟨b, o, none⟩) cap = W := ⟨_, rfl⟩
 rw [hW] at hB0 hS o0 o1 o2 hq HWc
 unfold ownWay ownDim at hW
 have HB0 : Hid (Below w.heap.size w W) := hB0
 have HWo : Hid (∀ An cn As cs Ai ci, WayOf d i ⟨false, prsL (d.mem i).formula, An, cn, refsP (prsL (d.mem i).formula), As, cs, (refsP (prsL (d.mem i).formula)).map (whL d), Ai, ci⟩) := fun _ _ _ _ _ _ => ⟨fun h => absurd h hf, fun _ => ⟨rfl, rfl, rfl, rfl⟩⟩
 have hfs := memErr_form (hall i hi)
 generalize (d.mem i).formula = s at *
 have hpr := fparse_typ s W hfs
 have hrf := fun A c w' hN => frefs_typ A c (prsL s) w' hN
 rw [hfe, errV_zero] at hrf
 rw [hpe, errV_zero] at hpr
 obtain ⟨L, hL⟩ : ∃ L, refsP (prsL s) = L := ⟨_, rfl⟩
 rw [hL] at hrl hrf HWo
 obtain ⟨l, hl⟩ : ∃ l, prsL s = l := ⟨_, rfl⟩
 rw [hl] at hpr hrf HWo
 generalize (prsA s : Int) = at' at hpr
 obtain ⟨n, hn⟩ : ∃ n, L.length = n := ⟨_, rfl⟩
 have HN : Hid (L.length = n) := hn
 obtain ⟨m, hm⟩ : ∃ m, l.length = m := ⟨_, rfl⟩
 have HMm : Hid (l.length = m) := hm
 have HRfs : Hid (∀ A c w', NdsT w' A c l → Calls Tryz.prog 121 #[.slice A m c] w' fun e w'' => (∃ A' c', e = .returned (.tuple #[.slice A' n c', .nilIface]) ∧ StrT w'' A' c' L) ∧ Below w'.heap.size w' w'') := fun A c w' h => by rw [← hn, ← hm]; exact hrf A c w' h.1
 rw [hm] at hpr
 rw [hn] at hrl
 have hnI : (n : Int) ≤ 30 := by omega
 have hdI : (d.n : Int) ≤ 12 := by omega
 clear hpe hfe hL hl hn hm hrf hd hme hall hR hf hMs hB0 hfs
 go_enter Tryz.func134, Tryz.ntmps134
 go_wp2_with fail
 refine hpr.mono ?_
 rintro e w1 ⟨⟨A1, c1, rfl, hN1⟩, hb1⟩
 have hrf := HRfs.out A1 c1 w1 hN1
 have HN1 : Hid (NdsT w1 A1 c1 l) := hN1
 have HB1 : Hid (Below W.heap.size W w1) := hb1
 clear hpr hN1 hb1 o0 o1 o2 hW
 go_wp2_with fail
 refine hrf.mono ?_
 rintro e w2 ⟨⟨A2, c2, rfl, hS2⟩, hb2⟩
 have HB2 : Hid (Below W.heap.size W w2) := onB HB1.out hb2
 have HS2 : Hid (StrT w2 A2 c2 L) := hS2
 have HN2 : Hid (NdsT w2 A1 c1 l) := HN1.out.later hb2
 clear hrf hb2 hS2
 go_wp2_with fail
 go_loopg [10, 34] n (fun g s10 s34 wr => ∃ (k : Nat) (v : Value), k ≤ n ∧ g = n - k ∧ s34 = .int .i64 k ∧ v = s10 ∧ wr.ownsRow w2.heap.size 3 1 v k (mapI ((L.take k).map (whL d))) ∧ Below w2.heap.size w2 wr)
 case atStart => exact ⟨0, _, Nat.zero_le _, rfl, rfl, rfl, World.ownsRow_nil _ _ _ _, Below.refl _ _⟩
 case round =>
  obtain ⟨k, v, hk, rfl, rfl, rfl, hO, hBw⟩ := hrel
  have HO : Hid (wr.ownsRow w2.heap.size 3 1 v k (mapI ((L.take k).map (whL d)))) := hO
  have HBw : Hid (Below w2.heap.size w2 wr) := hBw
  by_cases hlt : k < n
  ·have hki : (k : Int) < (n : Int) := by omega
   obtain ⟨hcS, -, hS0 | ⟨bs, os, rfl, hbS, hcl⟩⟩ := (HS2.out.later hBw).1
   ·have := HN.out; rw [hS0] at this; simp at this; omega
   have cx := hcl k (by rw [HN.out]; exact hlt)
   rw [HN.out] at hcS
   have HNx : Hid ((L.take (k + 1)).map (whL d) = (L.take k).map (whL d) ++ [whL d (L.getD k [])]) := map_one d L (by rw [HN.out]; exact hlt)
   have hWr := onB HB2.out hBw
   obtain ⟨⟨-, -, p2, hq2⟩, -⟩ := HWc.out wr hWr
   have hMr := HM.out.later (onB HB0.out hWr)
   obtain ⟨x, hx⟩ : ∃ x, (⟨(L.getD k []).toArray⟩ : ByteArray) = x := ⟨_, rfl⟩
   have HX : Hid (x.data.toList = L.getD k []) := by show _ = _; rw [← hx]
   rw [hx] at cx
   obtain ⟨y, hy⟩ : ∃ y, wr.alloc (.cells #[.string x] 9) = y := ⟨_, rfl⟩
   have hBy : Below wr.heap.size wr y := by rw [← hy]; exact (Below.refl _ _).alloc (Nat.le_refl _) _
   have hsy : y.heap.size = wr.heap.size + 1 := by rw [← hy]; simp
   have hcy : y.cell? ⟨wr.heap.size, 0, none⟩ = some (.string x) := by
    have h : y.heap[wr.heap.size]? = some (.cells #[.string x] 9 (0, 0)) := by rw [← hy]; exact heap_alloc_new _ _
    rw [Lib.cell_of_heap h]
    rfl
   have py := (hBy.cell (p := ⟨w.heap.size, 2, none⟩) hq2).trans p2
   have hix := index_mems 164 wr.heap.size bf1_in b o d.n cap d.mem (fun j => same (d.mem j).name x) y hd2 (hMr.later hBy) (fun j w' _ hw' => bf1_any (d.mem j) x wr.heap.size w' (by have := hw'.size; omega) ((hw'.cell (p := ⟨wr.heap.size, 0, none⟩) (by show wr.heap.size < _; omega)).trans hcy))
   rw [whL_same, HX.out] at hix
   generalize whL d (L.getD k []) = r at hix HNx
   have HBy : Hid (Below wr.heap.size wr y) := hBy
   generalize d.n = dn at *
   clear hcl hO hBw hWr hMr hBy hcy hx hsy
   go_wp2_with fail
   refine hix.mono ?_
   rintro e w4 ⟨rfl, hb4⟩
   have hB4 : Below w2.heap.size w2 w4 := onB HBw.out (onB HBy.out hb4)
   have HB4 : Hid (Below w2.heap.size w2 w4) := hB4
   have HO4 : Hid (w4.ownsRow w2.heap.size 3 1 v k (mapI ((L.take k).map (whL d)))) := own_later (own_later HO.out HBy.out) hb4
   have hsz := hB4.size
   clear hb4 hix hB4 hy
   go_wp2_with (at_builtin; refine wpList_append_own _ rfl _ _ 27 rfl w2.heap.size 3 i0 (.int .i64 0) 1 8 Tryz.underlying27 hi0 hz0 hz1 hz2 rfl (by decide) _ _ _ rfl (HO4.out.alloc _) ⟨w4.heap.size, 0, none⟩ 1 1 [.int .i64 r] rfl rfl one_cell one_one (by unfold maxLen; omega) (by omega) (by simp; omega) ?_)
   intro v' w5 hown' hgrow _
   have HB5 : Hid (Below w2.heap.size w2 w5) := grown_own HB4.out HO4.out hgrow
   have HO5 : Hid (w5.ownsRow w2.heap.size 3 1 v' (k + 1) (mapI ((L.take (k + 1)).map (whL d)))) := by
    show World.ownsRow ..
    rw [HNx.out, mapI_snoc, List.map_take]; exact hown'
   clear hown' hgrow
   go_wp2_with fail
   go_roundg (n - (k + 1))
   case measure => omega
   case rel => exact ⟨k + 1, _, by omega, rfl, by go_num, rfl, HO5.out, HB5.out⟩
  ·have hke : k = n := by omega
   subst hke
   have hL0 : L.take k = L := List.take_of_length_le (by rw [HN.out]; exact Nat.le_refl _)
   have HF : Hid (∃ A' c', v = .slice A' k c' ∧ IntT wr A' c' (L.map (whL d))) := by
    have h := hO
    rw [hL0] at h
    have hlen : (L.map (whL d)).length = k := by rw [List.length_map]; exact HN.out
    rw [← hlen] at h
    obtain ⟨A', c', e, hv⟩ := intT_own h
    rw [hlen] at e
    exact ⟨A', c', e, hv⟩
   obtain ⟨A3, c3, rfl, hI3⟩ := HF.out
   have HI3 : Hid (IntT wr A3 c3 (L.map (whL d))) := hI3
   obtain ⟨-, hr⟩ := HWc.out wr (onB HB2.out HBw.out)
   obtain ⟨hg, ⟨r0, r1, r2, r3⟩, hfr⟩ := way_block hr
   have f0 := hfr 0
   have f1 := hfr 1
   have f2 := hfr 2
   have f3 := hfr 3
   have HRr : Hid (wr.heap[w.heap.size + 1]? = some (.cells #[.bool false, .slice none 0 0, .slice none 0 0, .slice none 0 0] 123 (0, 0))) := hr
   clear hO hBw hr hfr hI3 hL0 HO HF
   go_wp2_with fail
   refine bodyPost_ret (v := .tuple #[wayV ⟨false, l, A1, c1, L, A2, c2, L.map (whL d), A3, c3⟩, .nilIface]) (by simp [results, Tryz.results134, go_sem, r0, r1, r2, r3, wayV, HN.out, HMm.out]) rfl ⟨⟨_, rfl, ?_, HWo.out _ _ _ _ _ _⟩, ?_⟩
   ·exact WayT.keepW (⟨HN2.out.later HBw.out, HS2.out.later HBw.out, HI3.out⟩ : WayT wr _) (offT_set4 HRr.out)
   ·exact ((((onB HB0.out (onB HB2.out HBw.out)).setCell (by simp) _).setCell (by simp) _).setCell (by simp) _).setCell (by simp) _

set_option maxHeartbeats 4000000 in
theorem wayof_any (d : Dm) (A : Option Addr) (cap i : Nat) (w : World) (hR : (rErr d).2 = 0) (hi : i < d.n) (hM : MemsV w A cap d.n d.mem) :
  Calls Tryz.prog 100 #[dimV d A cap, .int .i64 i] w fun e w' => (∃ x, e = .returned (.tuple #[wayV x, .nilIface]) ∧ WayT w' x ∧ WayOf d i x) ∧ Below w.heap.size w w' := by
 obtain ⟨hd, -, -, -⟩ := rErr_right hR
 obtain ⟨-, -, hd2, -⟩ := dimErr_right hd
 have hB0 := ownWay_below w d A cap
 have hS := ownWay_size w d A cap
 obtain ⟨⟨o0, o1, o2, hq⟩, -⟩ := way_cells (w := w) (d := d) (A := A) (cap := cap) (Below.refl _ _)
 have HWc : Hid (∀ w1, Below (ownWay w d A cap).heap.size (ownWay w d A cap) w1 → w1.heap[w.heap.size + 1]? = some (.cells #[.bool false, .slice none 0 0, .slice none 0 0, .slice none 0 0] 123 (0, 0))) := fun w1 h => (way_cells h).2
 have hMW := hM.later hB0
 obtain ⟨hcap, h0 | ⟨b, o, rfl, hMs⟩⟩ := hM
 ·omega
 obtain ⟨-, -, -, c3⟩ := (hMs.later hB0).2 i hi
 have hbl : b < (ownWay w d (some ⟨b, o, none⟩) cap).heap.size := (hMs.later hB0).1
 have hp := fun h => byparts_any d (some ⟨b, o, none⟩) cap i (ownWay w d (some ⟨b, o, none⟩) cap) hR hi h hMW
 have hfo := fun h => byformula_any d (some ⟨b, o, none⟩) cap i (ownWay w d (some ⟨b, o, none⟩) cap) hR hi h hMW
 unfold dimV at hp hfo ⊢
 obtain ⟨W, hW⟩ : ∃ W, ownWay w d (some ⟨b, o, none⟩) cap = W := ⟨_, rfl⟩
 rw [hW] at hB0 hS o0 o1 o2 hq HWc c3 hbl hp hfo
 unfold ownWay ownDim at hW
 have HB0 : Hid (Below w.heap.size w W) := hB0
 have hii : (i : Int) < (d.n : Int) := by omega
 have hdI : (d.n : Int) ≤ 12 := by omega
 by_cases hf : (d.mem i).formula.size = 0
 ·have hf' : (d.mem i).formula.toList.isEmpty = true := by rw [empty_same]; simpa using hf
  have hpp := hp hf
  have HFo : Hid (∀ x, WayOf d i x → WayOf d i x) := fun _ h => h
  generalize (d.mem i).formula = fm at c3 hf'
  clear hp hfo hf hMs hMW hB0 hR hd
  go_enter Tryz.func100, Tryz.ntmps100
  go_wp2_with fail
  refine hpp.mono ?_
  rintro e w1 ⟨⟨x, rfl, hT, hO⟩, hb1⟩
  have HT : Hid (WayT w1 x) := hT
  have HO : Hid (WayOf d i x) := hO
  have HB1 : Hid (Below W.heap.size W w1) := hb1
  have hr := HWc.out w1 hb1
  obtain ⟨hg, ⟨r0, r1, r2, r3⟩, hfr⟩ := way_block hr
  have f0 := hfr 0
  have f1 := hfr 1
  have f2 := hfr 2
  have f3 := hfr 3
  have HRr : Hid (w1.heap[w.heap.size + 1]? = some (.cells #[.bool false, .slice none 0 0, .slice none 0 0, .slice none 0 0] 123 (0, 0))) := hr
  unfold wayV
  clear hT hO hb1 hpp hr hfr
  go_wp2_with fail
  refine bodyPost_ret (v := .tuple #[wayV x, .nilIface]) (by simp [results, Tryz.results100, go_sem, r0, r1, r2, r3, wayV]) rfl ⟨⟨_, rfl, ?_, HO.out⟩, ?_⟩
  ·exact HT.out.keepW (offT_set4 HRr.out)
  ·exact ((((onB HB0.out HB1.out).setCell (by simp) _).setCell (by simp) _).setCell (by simp) _).setCell (by simp) _
 ·have hf' : (d.mem i).formula.toList.isEmpty = false := by rw [empty_same]; simpa using hf
  have hpp := hfo hf
  generalize (d.mem i).formula = fm at c3 hf' hpp
  clear hp hfo hf hMs hMW hB0 hR hd
  go_enter Tryz.func100, Tryz.ntmps100
  go_wp2_with fail
  refine hpp.mono ?_
  rintro e w1 ⟨⟨x, rfl, hT, hO⟩, hb1⟩
  have HT : Hid (WayT w1 x) := hT
  have HO : Hid (WayOf d i x) := hO
  have HB1 : Hid (Below W.heap.size W w1) := hb1
  have hr := HWc.out w1 hb1
  obtain ⟨hg, ⟨r0, r1, r2, r3⟩, hfr⟩ := way_block hr
  have f0 := hfr 0
  have f1 := hfr 1
  have f2 := hfr 2
  have f3 := hfr 3
  have HRr : Hid (w1.heap[w.heap.size + 1]? = some (.cells #[.bool false, .slice none 0 0, .slice none 0 0, .slice none 0 0] 123 (0, 0))) := hr
  unfold wayV
  clear hT hO hb1 hpp hr hfr
  go_wp2_with fail
  refine bodyPost_ret (v := .tuple #[wayV x, .nilIface]) (by simp [results, Tryz.results100, go_sem, r0, r1, r2, r3, wayV]) rfl ⟨⟨_, rfl, ?_, HO.out⟩, ?_⟩
  ·exact HT.out.keepW (offT_set4 HRr.out)
  ·exact ((((onB HB0.out HB1.out).setCell (by simp) _).setCell (by simp) _).setCell (by simp) _).setCell (by simp) _
end Go.Proofs.YtjffbmejobjmjafGreatDoor

namespace Go.Proofs.YtjffbmejobjmjafGreatDoor
open Go.ChangeShapes Go.WideShapes Go.ChangeAt Go.RowKit
set_option maxRecDepth 20000

def cellsW (l : List WL) : List Value := l.flatMap cellsW1
theorem cellsW_snoc (l : List WL) (x : WL) : cellsW (l ++ [x]) = cellsW l ++ cellsW1 x := by simp [cellsW]
theorem cellsW_at : ∀ (l : List WL) (k : Nat), k < l.length → (cellsW l)[k * 4]? = some (.bool (l.getD k noW).lf) ∧ (cellsW l)[k * 4 + 1]? = some (.slice (l.getD k noW).An (l.getD k noW).nd.length (l.getD k noW).cn) ∧ (cellsW l)[k * 4 + 2]? = some (.slice (l.getD k noW).As (l.getD k noW).nm.length (l.getD k noW).cs) ∧ (cellsW l)[k * 4 + 3]? = some (.slice (l.getD k noW).Ai (l.getD k noW).ne.length (l.getD k noW).ci)
 | x :: r, 0, _ => ⟨rfl, rfl, rfl, rfl⟩
 | x :: r, k + 1, h => by
  have ih := cellsW_at r k (by simpa using h)
  have e : cellsW (x :: r) = cellsW1 x ++ cellsW r := rfl
  have hl : (cellsW1 x).length = 4 := rfl
  rw [e]
  refine ⟨?_, ?_, ?_, ?_⟩
  ·rw [List.getElem?_append_right (by omega), hl, show (k + 1) * 4 - 4 = k * 4 by omega]; exact ih.1
  ·rw [List.getElem?_append_right (by omega), hl, show (k + 1) * 4 + 1 - 4 = k * 4 + 1 by omega]; exact ih.2.1
  ·rw [List.getElem?_append_right (by omega), hl, show (k + 1) * 4 + 2 - 4 = k * 4 + 2 by omega]; exact ih.2.2.1
  ·rw [List.getElem?_append_right (by omega), hl, show (k + 1) * 4 + 3 - 4 = k * 4 + 3 by omega]; exact ih.2.2.2
def WaysV (w : World) (A : Option Addr) (cap : Nat) (xs : List WL) : Prop := xs.length ≤ cap ∧ (xs = [] ∨ ∃ b cs fr, A = some ⟨b, 0, none⟩ ∧ w.heap[b]? = some (.cells cs 123 fr) ∧ ∀ k, k < xs.length → cs[k * 4]? = some (.bool (xs.getD k noW).lf) ∧ cs[k * 4 + 1]? = some (.slice (xs.getD k noW).An (xs.getD k noW).nd.length (xs.getD k noW).cn) ∧ cs[k * 4 + 2]? = some (.slice (xs.getD k noW).As (xs.getD k noW).nm.length (xs.getD k noW).cs) ∧ cs[k * 4 + 3]? = some (.slice (xs.getD k noW).Ai (xs.getD k noW).ne.length (xs.getD k noW).ci)) ∧ ∀ x ∈ xs, WayT w x
theorem WaysV.keepA {w w' : World} {A : Option Addr} {cap : Nat} {xs : List WL} (h : WaysV w A cap xs) (hB : OffT 114 w w') : WaysV w' A cap xs := by
 obtain ⟨h1, h2, h3⟩ := h
 refine ⟨h1, ?_, fun x hx => (h3 x hx).keepA hB⟩
 rcases h2 with h2 | ⟨b, cs, fr, h2, h4, h5⟩
 ·exact Or.inl h2
 ·exact Or.inr ⟨b, cs, fr, h2, (hB b cs _ fr h4 ax_ne_way).trans h4, h5⟩
theorem WaysV.later {w w' : World} {A : Option Addr} {cap : Nat} {xs : List WL} (h : WaysV w A cap xs) (hB : Below w.heap.size w w') : WaysV w' A cap xs := by
 obtain ⟨h1, h2, h3⟩ := h
 refine ⟨h1, ?_, fun x hx => (h3 x hx).later hB⟩
 rcases h2 with h2 | ⟨b, cs, fr, h2, h4, h5⟩
 ·exact Or.inl h2
 ·exact Or.inr ⟨b, cs, fr, h2, (hB.block b (Array.getElem?_eq_some_iff.1 h4).1).trans h4, h5⟩
theorem ways_own {w : World} {base : Nat} {v : Value} {xs : List WL} (h : w.ownsRow base 123 4 v xs.length (cellsW xs)) (hp : ∀ x ∈ xs, WayT w x) : ∃ A c, v = .slice A xs.length c ∧ WaysV w A c xs := by
 rcases h.2 with ⟨rfl, h0⟩ | ⟨g, cap, cur, rfl, hb, hg, h4, h5, h6, h7⟩
 ·have hL : xs = [] := List.eq_nil_of_length_eq_zero h0
  subst hL
  exact ⟨none, 0, rfl, by simp, Or.inl rfl, hp⟩
 ·refine ⟨_, _, rfl, h4, Or.inr ⟨g, cur, _, rfl, hg, fun k hk => ?_⟩, hp⟩
  obtain ⟨x0, x1, x2, x3⟩ := cellsW_at xs k hk
  rw [← h7, List.getElem?_take, if_pos (by omega), Array.getElem?_toList] at x0 x1 x2 x3
  exact ⟨x0, x1, x2, x3⟩
theorem Tryz.infoWay : (Tryz.prog.info? 123).map (fun i => (i.zero, i.size, i.bytes)) = some (some (.agg #[.bool false, .slice none 0 0, .slice none 0 0, .slice none 0 0]), 4, 80) := by kernel_rfl
theorem off_way {w w' : World} {base n : Nat} {v : Value} {zs : List Value} (hown : w.ownsRow base 123 4 v n zs) (hG : w.grownBy w' v.ownBlock) : OffT 123 w w' := fun b cs t fr hb ht => by
 refine hG.block b (Array.getElem?_eq_some_iff.1 hb).1 fun e => ?_
 rcases hown.2 with ⟨rfl, -⟩ | ⟨g, cap, cur, rfl, -, hg, -⟩
 ·cases e
 ·simp only [Value.ownBlock, Option.some.injEq] at e
  rw [e, hg] at hb
  simp only [Option.some.injEq, Obj.cells.injEq] at hb
  exact ht hb.2.1.symm
theorem plain_addW (b j : Nat) : (⟨b, 0, none⟩ : Addr).add j = ⟨b, j, none⟩ := by unfold Addr.add; split <;> simp_all

set_option maxHeartbeats 4000000 in
theorem waysof_any (d : Dm) (A : Option Addr) (cap : Nat) (w : World) (hR : (rErr d).2 = 0) (hM : MemsV w A cap d.n d.mem) :
  Calls Tryz.prog 63 #[dimV d A cap] w fun e w' => (∃ A' c' xs, e = .returned (.tuple #[.slice A' d.n c', .nilIface]) ∧ xs.length = d.n ∧ WaysV w' A' c' xs ∧ ∀ k, k < d.n → WayOf d k (xs.getD k noW)) ∧ Below w.heap.size w w' := by
 obtain ⟨i0, hi0, hz0, hz1, hz2⟩ := info_parts Tryz.infoWay
 obtain ⟨hd, -, -, -⟩ := rErr_right hR
 obtain ⟨-, -, hd2, -⟩ := dimErr_right hd
 have hB0 := ownDim_below w d A cap 24
 have hS := ownDim_size w d A cap 24
 have HDc : Hid (∀ w1, Below (ownDim w d A cap 24).heap.size (ownDim w d A cap 24) w1 → w1.cell? ⟨w.heap.size, 0, none⟩ = some (.string d.name) ∧ w1.cell? ⟨w.heap.size, 1, none⟩ = some (.int .i64 d.solve) ∧ w1.cell? ⟨w.heap.size, 2, none⟩ = some (.slice A d.n cap) ∧ w.heap.size < w1.heap.size) := fun w1 h => dim_cells h
 have HWy : Hid (∀ w' i, Below w.heap.size w w' → i < d.n → Calls Tryz.prog 100 #[dimV d A cap, .int .i64 i] w' fun e w'' => (∃ x, e = .returned (.tuple #[wayV x, .nilIface]) ∧ WayT w'' x ∧ WayOf d i x) ∧ Below w'.heap.size w' w'') := fun w' i hb hi => wayof_any d A cap i w' hR hi (hM.later hb)
 unfold dimV at HWy ⊢
 obtain ⟨W, hW⟩ : ∃ W, ownDim w d A cap 24 = W := ⟨_, rfl⟩
 rw [hW] at hB0 hS HDc
 unfold ownDim at hW
 obtain ⟨o0, o1, o2, hq⟩ := HDc.out W (Below.refl _ _)
 have HB0 : Hid (Below w.heap.size w W) := hB0
 obtain ⟨n, hn⟩ : ∃ n, d.n = n := ⟨_, rfl⟩
 have HN : Hid (d.n = n) := hn
 rw [hn] at o2 HWy hd2 hW HDc ⊢
 have hnI : (n : Int) ≤ 12 := by omega
 clear hB0 hR hM hd hn hS
 go_enter Tryz.func63, Tryz.ntmps63
 go_wp2_with fail
 clear hW o0 o1 o2
 go_loopg [4, 11] n (fun g s4 s11 wr => ∃ (k : Nat) (v : Value) (xs : List WL), k ≤ n ∧ g = n - k ∧ s11 = .int .i64 k ∧ v = s4 ∧ Hid (xs.length = k ∧ (∀ j, j < k → WayOf d j (xs.getD j noW)) ∧ ∀ x ∈ xs, WayT wr x) ∧ wr.ownsRow W.heap.size 123 4 v k (cellsW xs) ∧ Below W.heap.size W wr)
 case atStart => exact ⟨0, _, [], Nat.zero_le _, rfl, rfl, rfl, (⟨rfl, fun j hj => absurd hj (Nat.not_lt_zero _), fun x hx => by cases hx⟩ : _ ∧ _ ∧ _), World.ownsRow_nil _ _ _ _, Below.refl _ _⟩
 case round =>
  obtain ⟨k, v, xs, hk, rfl, rfl, rfl, HY, hO, hBw⟩ := hrel
  have HO : Hid (wr.ownsRow W.heap.size 123 4 v k (cellsW xs)) := hO
  have HBw : Hid (Below W.heap.size W wr) := hBw
  by_cases hlt : k < n
  ·have hki : (k : Int) < (n : Int) := by omega
   obtain ⟨p0, p1, p2, hq1⟩ := HDc.out wr hBw
   have hwy := HWy.out wr k (onB HB0.out hBw) hlt
   clear hO hBw
   go_wp2_with fail
   refine hwy.mono ?_
   rintro e w1 ⟨⟨x, rfl, hT, hOf⟩, hb1⟩
   have HT1 : Hid (WayT w1 x ∧ WayOf d k x) := ⟨hT, hOf⟩
   have HB1 : Hid (Below wr.heap.size wr w1) := hb1
   obtain ⟨y, hy⟩ : ∃ y, w1.alloc (.cells #[.bool x.lf, .slice x.An x.nd.length x.cn, .slice x.As x.nm.length x.cs, .slice x.Ai x.ne.length x.ci] 123) = y := ⟨_, rfl⟩
   have hyb : y.heap[w1.heap.size]? = some (.cells #[.bool x.lf, .slice x.An x.nd.length x.cn, .slice x.As x.nm.length x.cs, .slice x.Ai x.ne.length x.ci] 123 (0, 0)) := by rw [← hy]; exact heap_alloc_new ..
   have y0 : y.cell? ⟨w1.heap.size, 0, none⟩ = some (.bool x.lf) := by simp [World.cell?, hyb]
   have y1 : y.cell? ⟨w1.heap.size, 1, none⟩ = some (.slice x.An x.nd.length x.cn) := by simp [World.cell?, hyb]
   have y2 : y.cell? ⟨w1.heap.size, 2, none⟩ = some (.slice x.As x.nm.length x.cs) := by simp [World.cell?, hyb]
   have y3 : y.cell? ⟨w1.heap.size, 3, none⟩ = some (.slice x.Ai x.ne.length x.ci) := by simp [World.cell?, hyb]
   have hBy : Below w1.heap.size w1 y := by rw [← hy]; go_grown
   have HBy : Hid (Below wr.heap.size wr y) := onB hb1 hBy
   have HTy : Hid (WayT y x ∧ WayOf d k x) := ⟨hT.later hBy, hOf⟩
   have HOy : Hid (y.ownsRow W.heap.size 123 4 v k (cellsW xs)) := own_later HO.out HBy.out
   have HBWy : Hid (Below W.heap.size W y) := onB HBw.out HBy.out
   have HYy : Hid (∀ z ∈ xs, WayT y z) := fun z hz => (HY.out.2.2 z hz).later HBy.out
   have hszy := HBWy.out.size
   unfold wayV
   clear hb1 hT hOf hwy hyb hBy p0 p1 p2
   go_wp2_with (at_builtin; refine wpList_append_own _ rfl _ _ 110 rfl W.heap.size 123 i0 (.agg #[.bool false, .slice none 0 0, .slice none 0 0, .slice none 0 0]) 4 80 Tryz.underlying110 hi0 hz0 hz1 hz2 rfl (by decide) _ _ _ rfl (HOy.out.alloc _) ⟨y.heap.size, 0, none⟩ 1 1 (cellsW1 x) rfl rfl ?qe2 ?qe3 ?qe4 ?qe5 ?qe6 ?_)
   case qe2 =>
    intro j u hj
    rw [plain_addW, Lib.cell_of_heap (heap_alloc_new y (.cells #[.bool x.lf, .slice x.An x.nd.length x.cn, .slice x.As x.nm.length x.cs, .slice x.Ai x.ne.length x.ci] 123))]
    simpa [cellsW1] using hj
   case qe3 => intro u hu; simp [cellsW1] at hu; rcases hu with rfl | rfl | rfl | rfl <;> rfl
   case qe4 => simp only [maxLen]; omega
   case qe5 => omega
   case qe6 => simp; omega
   intro v' w4 hown' hgrow hnil
   have HB4 : Hid (Below W.heap.size W w4) := grown_own HBWy.out HOy.out hgrow
   have HO4 : Hid (w4.ownsRow W.heap.size 123 4 v' (k + 1) (cellsW (xs ++ [x]))) := by
    show World.ownsRow ..
    rw [cellsW_snoc]
    exact hown'
   have hoff : ∀ z, WayT y z → WayT w4 z := fun z hz => (hz.later (by go_grown)).keepW (off_way (HOy.out.alloc _) hgrow)
   have HY4 : Hid ((xs ++ [x]).length = k + 1 ∧ (∀ j, j < k + 1 → WayOf d j ((xs ++ [x]).getD j noW)) ∧ ∀ z ∈ xs ++ [x], WayT w4 z) := by
    have hlen := HY.out.1
    refine ⟨by rw [List.length_append, hlen]; rfl, fun j hj => ?_, fun z hz => ?_⟩
    ·by_cases e : j = k
     ·rw [e, List.getD_eq_getElem?_getD, List.getElem?_append_right (by omega), hlen, Nat.sub_self]
      exact HTy.out.2
     ·rw [List.getD_eq_getElem?_getD, List.getElem?_append_left (by omega), ← List.getD_eq_getElem?_getD]
      exact HY.out.2.1 j (by omega)
    ·rcases List.mem_append.1 hz with hz | hz
     ·exact hoff z (HYy.out z hz)
     ·rw [List.mem_singleton.1 hz]
      exact hoff x HTy.out.1
   clear hown' hgrow hnil y0 y1 y2 y3 hy hoff
   go_wp2_with fail
   go_roundg (n - (k + 1))
   case measure => omega
   case rel => exact ⟨k + 1, _, xs ++ [x], by omega, rfl, by go_num, rfl, HY4, HO4.out, HB4.out⟩
  ·have hke : k = n := by omega
   subst hke
   have HF : Hid (∃ A' c', v = .slice A' k c' ∧ WaysV wr A' c' xs) := by
    have hlen := HY.out.1
    have h := hO
    rw [← hlen] at h
    obtain ⟨A', c', e, hv⟩ := ways_own h HY.out.2.2
    rw [hlen] at e
    exact ⟨A', c', e, hv⟩
   clear hO hBw
   go_wp2_with fail
   go_returns
   obtain ⟨A', c', e, hv⟩ := HF.out
   exact ⟨⟨A', c', xs, by rw [← e]; rfl, HY.out.1, hv, HY.out.2.1⟩, onB HB0.out HBw.out⟩
end Go.Proofs.YtjffbmejobjmjafGreatDoor

namespace Go.Proofs.YtjffbmejobjmjafGreatDoor
open Go.ChangeShapes Go.WideShapes Go.ChangeAt Go.RowKit
set_option maxRecDepth 20000

set_option maxHeartbeats 8000000 in
theorem fcells_own (A0 : Option Addr) (cap n : Nat) (D : Nat → Dm) (A : Nat → Option Addr) (C : Nat → Nat) (AE : Option Addr) (ce : Nat) (xs : List EnL) (w : World) (hM : DimsV w A0 cap n D A C) (hE : EnsV w AE ce xs) (he : entsErr D n (lE xs) = 0) :
  Calls Tryz.prog 31 #[.agg #[.slice A0 n cap], .slice AE xs.length ce] w fun e w' => (∃ g, e = .returned (.tuple #[.slice (some ⟨g, 0, none⟩) (prodN D n) (prodN D n), .nilIface]) ∧ w.heap.size ≤ g ∧ CelB w' g (wrV D n (lE xs))) ∧ Below w.heap.size w w' := by
 have hB0 := ownOut_below w A0 n cap 42
 have h := icheck_any A0 cap n D A C AE ce xs (ownOut w A0 n cap 42) (hM.later hB0) (hE.later hB0)
 have HB0 : Hid (Below w.heap.size w (ownOut w A0 n cap 42)) := hB0
 have HM : Hid (DimsV w A0 cap n D A C) := hM
 have HE : Hid (EnsV w AE ce xs) := hE
 clear hM hE hB0
 have hEs := ens_of he
 have HEs : Hid (Ens D n (lE xs)) := hEs
 have hfew : xs.length ≤ 3000 := by have := hEs.few; rw [lE_len] at this; exact this
 have hR := hEs.right
 have HR : Hid ((allErr D n).2.2 = 0) := hR
 obtain ⟨hn1, hn4, hp3, hd⟩ := allErr_some hR
 rw [he, errV_zero] at h
 have HBo : Hid (w.heap.size < (ownOut w A0 n cap 42).heap.size ∧ (ownOut w A0 n cap 42).cell? ⟨w.heap.size, 0, none⟩ = some (.slice A0 n cap)) := ⟨by rw [ownOut_size]; omega, ownOut_at ..⟩
 obtain ⟨N, hN⟩ : ∃ N, xs.length = N := ⟨_, rfl⟩
 have HN : Hid (xs.length = N) := hN
 rw [hN] at h hfew ⊢
 have hN' : (N : Int) ≤ 3000 := by omega
 obtain ⟨PN, hPN⟩ : ∃ PN, prodN D n = PN := ⟨_, rfl⟩
 have HPN : Hid (prodN D n = PN) := hPN
 rw [hPN] at hp3
 have hmk := run_make_cells PN hp3
 have hPN' : (PN : Int) ≤ 3000 := by omega
 have HWE : Hid (((lE xs).take N).foldl (wrStep D n) (List.replicate PN (0, 0)) = wrV D n (lE xs)) := by show _ = _; rw [List.take_of_length_le (by rw [lE_len, hN]; exact Nat.le_refl _), ← hPN]; rfl
 clear he hEs hR hd hN hPN
 go_enter Tryz.func31, Tryz.ntmps31
 go_wp2_with fail
 refine h.mono ?_
 rintro e w1 ⟨rfl, hb1⟩
 have hB : Below w.heap.size w w1 := onB HB0.out hb1
 have HB : Hid (Below w.heap.size w w1) := hB
 have HBox : Hid (BoxN w1 w.heap.size (.slice A0 n cap)) := ⟨Nat.lt_of_lt_of_le HBo.out.1 hb1.size, (hb1.cell (p := ⟨w.heap.size, 0, none⟩) HBo.out.1).trans HBo.out.2⟩
 have c1 := HBox.out.2
 have hpc := pcells_any A0 cap n D A C w1 (HM.out.later hB)
 have hcv : cellsV D n = (PN : Int) := by unfold cellsV; rw [if_pos HR.out, HPN.out]
 rw [HR.out, errV_zero, hcv] at hpc
 clear hb1 h hB hcv
 go_wp2_with fail
 refine hpc.mono ?_
 rintro e w2 ⟨rfl, hb2⟩
 have HB2 : Hid (Below w.heap.size w w2) := onB HB.out hb2
 have HBox2 : Hid (BoxN w2 w.heap.size (.slice A0 n cap)) := HBox.out.later hb2
 obtain ⟨v2, hv2⟩ : ∃ v, w2.alloc (.cells (madeCells #[.int .i64 0, .int .i64 0] (PN * 2)) 48) = v := ⟨_, rfl⟩
 have hBv : Below w2.heap.size w2 v2 := by rw [← hv2]; go_grown
 have HBv : Hid (Below w2.heap.size w2 v2) := hBv
 have HCv : Hid (CelB v2 w2.heap.size (List.replicate PN (0, 0))) := by rw [← hv2]; exact celB_made w2 PN
 have HBoxv : Hid (BoxN v2 w.heap.size (.slice A0 n cap)) := HBox2.out.later hBv
 have hwz : w.heap.size < w2.heap.size := HBox2.out.1
 clear hpc hb2 c1 hBv
 go_wp2_with fail
 clear hmk hv2
 go_loopg [32] N (fun gg s32 wr => ∃ (k : Nat), k ≤ N ∧ gg = N - k ∧ s32 = .int .i64 k ∧ Hid (CelB wr w2.heap.size (((lE xs).take k).foldl (wrStep D n) (List.replicate PN (0, 0)))) ∧ Hid (v2.grownBy wr (some w2.heap.size)))
 case atStart => exact ⟨0, Nat.zero_le _, rfl, rfl, HCv, grown_refl v2 _⟩
 case round =>
  obtain ⟨k, hk, rfl, rfl, HC, HG⟩ := hrel
  have hB2r : Below w2.heap.size w2 wr := HBv.out.grown HG.out HBv.out.size (fun j hj => by cases hj; exact Nat.le_refl _)
  have HB2r : Hid (Below w2.heap.size w2 wr) := hB2r
  have HBr : Hid (Below w.heap.size w wr) := onB HB2.out hB2r
  by_cases hlt : k < N
  ·have hkx : k < xs.length := by rw [HN.out]; exact hlt
   have hki : (k : Int) < (N : Int) := by omega
   obtain ⟨-, -, h0 | ⟨bb, oo, rfl, hA⟩⟩ := HE.out.later HBr.out
   ·have := HN.out; rw [h0] at this; simp at this; omega
   obtain ⟨c1, c2⟩ := hA.at hkx
   have hmem : (xs.getD k noL).e ∈ lE xs := List.mem_map.2 ⟨_, enl_mem hkx, rfl⟩
   obtain ⟨hqI, -, hnum⟩ := HEs.out.each _ hmem
   have hnn : -1000000 ≤ (xs.getD k noL).e.n ∧ (xs.getD k noL).e.n ≤ 1000000 := by simpa [numOk] using hnum
   obtain ⟨hq1, hq2, -⟩ := numI_bound hqI (Nat.le_refl n)
   have hpl := hA.pl hkx
   have HWr := take_wr D n (List.replicate PN (0, 0)) xs hkx
   unfold wrStep at HWr
   obtain ⟨X, hX⟩ : ∃ X : Nat, numI D (xs.getD k noL).e.pl n = X := ⟨(numI D (xs.getD k noL).e.pl n).toNat, by omega⟩
   have hnv : numV D n (xs.getD k noL).e.pl = (X : Int) := by unfold numV; rw [if_pos hqI.ok, hX]
   have hXN : X < PN := by have := HPN.out; omega
   have hNum : ∀ w', Below wr.heap.size wr w' → _ := fun w' hw' => pnumber_any A0 cap n D A C (xs.getD k noL).A (xs.getD k noL).c (xs.getD k noL).e.pl w' (HM.out.later (onB HBr.out hw')) (hpl.later hw')
   rw [hnv, hqI.ok, errV_zero] at hNum
   have HNum : Hid (∀ w', Below wr.heap.size wr w' → _) := hNum
   have hof := fun w' => of_any (xs.getD k noL).e.n w'
   rw [ofP_in (by omega) (by omega)] at hof
   rw [hX, show ((X : Int)).toNat = X by omega] at HWr
   have HWR : Hid _ := HWr
   obtain ⟨LL, hLL⟩ : ∃ LL, ((lE xs).take k).foldl (wrStep D n) (List.replicate PN (0, 0)) = LL := ⟨_, rfl⟩
   have hLLn : LL.length = PN := by rw [← hLL, wrs_len]; simp
   have HCL : Hid (CelB wr w2.heap.size LL) := by rw [← hLL]; exact HC.out
   have HNx : Hid (((lE xs).take (k + 1)).foldl (wrStep D n) (List.replicate PN (0, 0)) = LL.set X (1, (xs.getD k noL).e.n)) := by
    show _ = _
    rw [← hLL]
    exact HWR.out
   have HBxr : Hid (BoxN wr w.heap.size (.slice A0 n cap)) := boxn_other HBoxv.out (by omega) HG.out
   have hXL : X < LL.length := by omega
   have HXL : Hid (X < LL.length) := hXL
   generalize (xs.getD k noL).A = A1 at c1 HNum
   generalize (xs.getD k noL).c = k1 at c1 HNum
   generalize (xs.getD k noL).e.n = num at c2 hnn hof HNx
   generalize (xs.getD k noL).e.pl.length = m1 at c1 HNum
   have hcr := HBxr.out.2
   have hXi : (X : Int) < (PN : Int) := by omega
   obtain ⟨y, hy⟩ : ∃ y, wr.alloc (.cells #[.slice A1 m1 k1, .int .i64 num] 57) = y := ⟨_, rfl⟩
   have hBy : Below wr.heap.size wr y := by rw [← hy]; go_grown
   have HBy : Hid (Below wr.heap.size wr y) := hBy
   have HPy : Hid (y.heap[wr.heap.size]? = some (.cells #[.slice A1 m1 k1, .int .i64 num] 57 (0, 0))) := by show _ = _; rw [← hy]; exact heap_alloc_new ..
   obtain ⟨p0, p1, -, -⟩ := pair_at HPy.out
   have hyo := (HBxr.out.later hBy).2
   clear hB2r hA hmem hqI hnum hpl HWr hNum hnv hLL hLLn hX hq1 hq2 hBy hXL HWR
   go_wp2_with fail
   refine (HNum.out _ HBy.out).mono ?_
   rintro e w5 ⟨rfl, hb5⟩
   have HB5 : Hid (Below y.heap.size y w5) := hb5
   have hwr : wr.heap.size < y.heap.size := (Array.getElem?_eq_some_iff.1 HPy.out).1
   have hP5 : w5.heap[wr.heap.size]? = some (.cells #[.slice A1 m1 k1, .int .i64 num] 57 (0, 0)) := (hb5.block _ hwr).trans HPy.out
   obtain ⟨-, s1, -, -⟩ := pair_at hP5
   clear hb5 hP5 p0 p1 hyo
   go_wp2_with fail
   refine (hof _).mono ?_
   rintro e w6 ⟨rfl, hb6⟩
   have hB6 : Below wr.heap.size wr w6 := onB (onB HBy.out HB5.out) hb6
   have HC6 : Hid (CelB w6 w2.heap.size LL) := HCL.out.later hB6
   obtain ⟨g1, g2⟩ := HC6.out.at HXL.out
   have g3 := HC6.out.frozen (X * 2)
   have g4 := HC6.out.frozen (X * 2 + 1)
   have HC7 : Hid (CelB ((w6.setCell ⟨w2.heap.size, X * 2, none⟩ (.int .i64 1)).setCell ⟨w2.heap.size, X * 2 + 1, none⟩ (.int .i64 num)) w2.heap.size (((lE xs).take (k + 1)).foldl (wrStep D n) (List.replicate PN (0, 0)))) := by show CelB _ _ _; rw [HNx.out]; exact HC6.out.set HXL.out 1 num
   have HG7 : Hid (v2.grownBy ((w6.setCell ⟨w2.heap.size, X * 2, none⟩ (.int .i64 1)).setCell ⟨w2.heap.size, X * 2 + 1, none⟩ (.int .i64 num)) (some w2.heap.size)) := cel_grown (grown_then HG.out hB6)
   clear hb6 hB6 hof s1
   go_wp2_with fail
   go_roundg (N - (k + 1))
   case measure => omega
   case rel => exact ⟨k + 1, by omega, rfl, by go_num, HC7, HG7⟩
  ·have hke : k = N := by omega
   subst hke
   have HV : Hid (CelB wr w2.heap.size (wrV D n (lE xs))) := by rw [← HWE.out]; exact HC.out
   clear hB2r
   go_wp2_with fail
   go_ret2
   exact ⟨⟨w2.heap.size, by rw [HPN.out]; rfl, HB2.out.size, HV.out⟩, HBr.out⟩
end Go.Proofs.YtjffbmejobjmjafGreatDoor

