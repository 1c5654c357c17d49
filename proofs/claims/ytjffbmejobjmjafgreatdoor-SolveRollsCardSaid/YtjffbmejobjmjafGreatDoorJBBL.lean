/-
 What is written, by number, and all dims folded in an order: what Cells, eachOnce and All of package fold answer, called in whatever memory.
 What is written, by number, in a row of the call's own, as package fold's Cells lays it.
 All dims folded in an order: what eachOnce and All of package fold answer, called in whatever memory.
 A place with another member, what is written, and whether an order names each dim once, as the document reckons them: what its With, Written and Each answer, called in whatever memory.
 Folded in any order all cells come to what comes of all parts together, on plain data.
 A dim more that is folded, on plain data: cells that count by some dims count by one more; and so in any order all come to the same.
-/
import Derived.Test.YtjffbmejobjmjafGreatDoorJBBF
import Derived.Test.YtjffbmejobjmjafGreatDoorJBBE
import Derived.Test.YtjffbmejobjmjafGreatDoorJBAT
import Derived.Test.YtjffbmejobjmjafGreatDoorJBAS
import Derived.Test.YtjffbmejobjmjafGreatDoorJBBK
import Derived.Test.YtjffbmejobjmjafGreatDoorJBBJ
import Derived.Test.YtjffbmejobjmjafGreatDoorJBBG
import Derived.Deep.QuietTactic
import Derived.BigQuiet
import Derived.Test.YtjffbmejobjmjafGreatDoorJBAE
import Derived.Test.YtjffbmejobjmjafGreatDoorJBBD
namespace Go.Proofs.YtjffbmejobjmjafGreatDoor
open Go.ChangeShapes Go.WideShapes Go.ChangeAt Go.RowKit
set_option maxRecDepth 20000

def wrStep (D : Nat → Dm) (n : Nat) (L : List (Int × Int)) (e : En) : List (Int × Int) := L.set (numI D e.pl n).toNat (1, e.n)
def wrV (D : Nat → Dm) (n : Nat) (l : List En) : List (Int × Int) := l.foldl (wrStep D n) (List.replicate (prodN D n) (0, 0))
theorem wrs_len (D : Nat → Dm) (n : Nat) : ∀ (l : List En) (L : List (Int × Int)), (l.foldl (wrStep D n) L).length = L.length
 | [], _ => rfl
 | e :: r, L => by rw [List.foldl_cons, wrs_len D n r]; unfold wrStep; rw [List.length_set]
theorem wrV_len (D : Nat → Dm) (n : Nat) (l : List En) : (wrV D n l).length = prodN D n := by unfold wrV; rw [wrs_len]; simp
theorem take_wr (D : Nat → Dm) (n : Nat) (L : List (Int × Int)) (xs : List EnL) {k : Nat} (h : k < xs.length) : ((lE xs).take (k + 1)).foldl (wrStep D n) L = wrStep D n (((lE xs).take k).foldl (wrStep D n) L) (xs.getD k noL).e := by
 have hk : k < (lE xs).length := by rw [lE_len]; exact h
 rw [List.take_succ_eq_append_getElem hk, List.foldl_append]
 have e : (lE xs)[k] = (xs.getD k noL).e := by rw [← lE_at, List.getD_eq_getElem?_getD, List.getElem?_eq_getElem hk]; rfl
 rw [e]
 rfl
theorem goodC_num {x : Int} (h : numOk x = true) : goodC (1, x) := by
 have hn : -1000000 ≤ x ∧ x ≤ 1000000 := by simpa [numOk] using h
 exact decide_eq_true (Or.inl ⟨rfl, by omega, by omega⟩)
theorem run_make_cells (n : Nat) (hn : n ≤ 3000) (w : World) : (Instr.makeSlice 49 (.int .i64 (n : Int)) (.int .i64 (n : Int))).run Tryz.prog w = .ok (.slice (some ⟨w.heap.size, 0, none⟩) n n) (w.alloc (.cells (madeCells #[.int .i64 0, .int .i64 0] (n * 2)) 48)) := by
 obtain ⟨i0, hi0, hz0, hz1, hz2⟩ := info_parts Tryz.infoCe
 have hr := run_make (P := Tryz.prog) w 49 48 i0 _ Tryz.underlying49 hi0 hz0 .i64 .i64 n n (by omega) (Int.le_refl _) (by rw [hz2]; omega) (by omega)
 simp only [Int.toNat_natCast, hz1] at hr
 exact hr
theorem celB_made (w : World) (n : Nat) : CelB (w.alloc (.cells (madeCells #[.int .i64 0, .int .i64 0] (n * 2)) 48)) w.heap.size (List.replicate n (0, 0)) := by
 refine ⟨_, heap_alloc_new w _, fun k hk => ?_⟩
 have hk' : k < n := by simpa using hk
 have e1 : (List.replicate n ((0 : Int), (0 : Int))).getD k noC = (0, 0) := by simp [List.getD, hk']
 rw [e1]
 constructor
 ·simp [madeCells, show k * 2 < n * 2 by omega]
 ·simp [madeCells, show k * 2 + 1 < n * 2 by omega, show (k * 2 + 1) % 2 = 1 by omega]

def fcL (D : Nat → Dm) (n : Nat) (l : List En) : List (Int × Int) := if entsErr D n l = 0 then wrV D n l else []
theorem fc_ok {D : Nat → Dm} {n : Nat} {l : List En} (h : entsErr D n l = 0) : fcL D n l = wrV D n l := by unfold fcL; rw [if_pos h]
theorem fc_bad {D : Nat → Dm} {n : Nat} {l : List En} (h : entsErr D n l ≠ 0) : fcL D n l = [] := by unfold fcL; rw [if_neg h]

set_option maxHeartbeats 8000000 in
theorem fcells_any (A0 : Option Addr) (cap n : Nat) (D : Nat → Dm) (A : Nat → Option Addr) (C : Nat → Nat) (AE : Option Addr) (ce : Nat) (xs : List EnL) (w : World) (hM : DimsV w A0 cap n D A C) (hE : EnsV w AE ce xs) :
  Calls Tryz.prog 31 #[.agg #[.slice A0 n cap], .slice AE xs.length ce] w fun e w' => (∃ A' c', e = .returned (.tuple #[.slice A' (fcL D n (lE xs)).length c', errV (entsErr D n (lE xs))]) ∧ CelV w' A' c' (fcL D n (lE xs))) ∧ Below w.heap.size w w' := by
 have hB0 := ownOut_below w A0 n cap 42
 have h := icheck_any A0 cap n D A C AE ce xs (ownOut w A0 n cap 42) (hM.later hB0) (hE.later hB0)
 have HB0 : Hid (Below w.heap.size w (ownOut w A0 n cap 42)) := hB0
 have HM : Hid (DimsV w A0 cap n D A C) := hM
 have HE : Hid (EnsV w AE ce xs) := hE
 clear hM hE hB0
 by_cases he : entsErr D n (lE xs) = 0
 ·have hEs := ens_of he
  have HEs : Hid (Ens D n (lE xs)) := hEs
  have hfew : xs.length ≤ 3000 := by have := hEs.few; rw [lE_len] at this; exact this
  have hR := hEs.right
  have HR : Hid ((allErr D n).2.2 = 0) := hR
  obtain ⟨hn1, hn4, hp3, hd⟩ := allErr_some hR
  have HF : Hid (fcL D n (lE xs) = wrV D n (lE xs) ∧ errV (entsErr D n (lE xs)) = .nilIface) := ⟨fc_ok he, by rw [he]; rfl⟩
  rw [he, errV_zero] at h
  have HBo : Hid (w.heap.size < (ownOut w A0 n cap 42).heap.size ∧ (ownOut w A0 n cap 42).cell? ⟨w.heap.size, 0, none⟩ = some (.slice A0 n cap)) := ⟨by rw [ownOut_size]; omega, ownOut_at ..⟩
  obtain ⟨N, hN⟩ : ∃ N, xs.length = N := ⟨_, rfl⟩
  have HN : Hid (xs.length = N) := hN
  rw [hN] at h hfew ⊢
  have hN' : (N : Int) ≤ 3000 := by omega
  obtain ⟨PN, hPN⟩ : ∃ PN, prodN D n = PN := ⟨_, rfl⟩
  have HPN : Hid (prodN D n = PN) := hPN
  rw [hPN] at hp3
  have hmk := run_make_cells PN hp3
  have hPN' : (PN : Int) ≤ 3000 := by omega
  have HWE : Hid (((lE xs).take N).foldl (wrStep D n) (List.replicate PN (0, 0)) = wrV D n (lE xs)) := by show _ = _; rw [List.take_of_length_le (by rw [lE_len, hN]; exact Nat.le_refl _), ← hPN]; rfl
  clear he hEs hR hd hN hPN
  go_enter Tryz.func31, Tryz.ntmps31
  go_wp2_with fail
  refine h.mono ?_
  rintro e w1 ⟨rfl, hb1⟩
  have hB : Below w.heap.size w w1 := onB HB0.out hb1
  have HB : Hid (Below w.heap.size w w1) := hB
  have HBox : Hid (BoxN w1 w.heap.size (.slice A0 n cap)) := ⟨Nat.lt_of_lt_of_le HBo.out.1 hb1.size, (hb1.cell (p := ⟨w.heap.size, 0, none⟩) HBo.out.1).trans HBo.out.2⟩
  have c1 := HBox.out.2
  have hpc := pcells_any A0 cap n D A C w1 (HM.out.later hB)
  have hcv : cellsV D n = (PN : Int) := by unfold cellsV; rw [if_pos HR.out, HPN.out]
  rw [HR.out, errV_zero, hcv] at hpc
  clear hb1 h hB hcv
  go_wp2_with fail
  refine hpc.mono ?_
  rintro e w2 ⟨rfl, hb2⟩
  have HB2 : Hid (Below w.heap.size w w2) := onB HB.out hb2
  have HBox2 : Hid (BoxN w2 w.heap.size (.slice A0 n cap)) := HBox.out.later hb2
  obtain ⟨v2, hv2⟩ : ∃ v, w2.alloc (.cells (madeCells #[.int .i64 0, .int .i64 0] (PN * 2)) 48) = v := ⟨_, rfl⟩
  have hBv : Below w2.heap.size w2 v2 := by rw [← hv2]; go_grown
  have HBv : Hid (Below w2.heap.size w2 v2) := hBv
  have HCv : Hid (CelB v2 w2.heap.size (List.replicate PN (0, 0))) := by rw [← hv2]; exact celB_made w2 PN
  have HBoxv : Hid (BoxN v2 w.heap.size (.slice A0 n cap)) := HBox2.out.later hBv
  have hwz : w.heap.size < w2.heap.size := HBox2.out.1
  clear hpc hb2 c1 hBv
  go_wp2_with fail
  clear hmk hv2
  go_loopg [32] N (fun gg s32 wr => ∃ (k : Nat), k ≤ N ∧ gg = N - k ∧ s32 = .int .i64 k ∧ Hid (CelB wr w2.heap.size (((lE xs).take k).foldl (wrStep D n) (List.replicate PN (0, 0)))) ∧ Hid (v2.grownBy wr (some w2.heap.size)))
  case atStart => exact ⟨0, Nat.zero_le _, rfl, rfl, HCv, grown_refl v2 _⟩
  case round =>
   obtain ⟨k, hk, rfl, rfl, HC, HG⟩ := hrel
   have hB2r : Below w2.heap.size w2 wr := HBv.out.grown HG.out HBv.out.size (fun j hj => by cases hj; exact Nat.le_refl _)
   have HB2r : Hid (Below w2.heap.size w2 wr) := hB2r
   have HBr : Hid (Below w.heap.size w wr) := onB HB2.out hB2r
   by_cases hlt : k < N
   ·have hkx : k < xs.length := by rw [HN.out]; exact hlt
    have hki : (k : Int) < (N : Int) := by omega
    obtain ⟨-, -, h0 | ⟨bb, oo, rfl, hA⟩⟩ := HE.out.later HBr.out
    ·have := HN.out; rw [h0] at this; simp at this; omega
    obtain ⟨c1, c2⟩ := hA.at hkx
    have hmem : (xs.getD k noL).e ∈ lE xs := List.mem_map.2 ⟨_, enl_mem hkx, rfl⟩
    obtain ⟨hqI, -, hnum⟩ := HEs.out.each _ hmem
    have hnn : -1000000 ≤ (xs.getD k noL).e.n ∧ (xs.getD k noL).e.n ≤ 1000000 := by simpa [numOk] using hnum
    obtain ⟨hq1, hq2, -⟩ := numI_bound hqI (Nat.le_refl n)
    have hpl := hA.pl hkx
    have HWr := take_wr D n (List.replicate PN (0, 0)) xs hkx
    unfold wrStep at HWr
    obtain ⟨X, hX⟩ : ∃ X : Nat, numI D (xs.getD k noL).e.pl n = X := ⟨(numI D (xs.getD k noL).e.pl n).toNat, by omega⟩
    have hnv : numV D n (xs.getD k noL).e.pl = (X : Int) := by unfold numV; rw [if_pos hqI.ok, hX]
    have hXN : X < PN := by have := HPN.out; omega
    have hNum : ∀ w', Below wr.heap.size wr w' → _ := fun w' hw' => pnumber_any A0 cap n D A C (xs.getD k noL).A (xs.getD k noL).c (xs.getD k noL).e.pl w' (HM.out.later (onB HBr.out hw')) (hpl.later hw')
    rw [hnv, hqI.ok, errV_zero] at hNum
    have HNum : Hid (∀ w', Below wr.heap.size wr w' → _) := hNum
    have hof := fun w' => of_any (xs.getD k noL).e.n w'
    rw [ofP_in (by omega) (by omega)] at hof
    rw [hX, show ((X : Int)).toNat = X by omega] at HWr
    have HWR : Hid _ := HWr
    obtain ⟨LL, hLL⟩ : ∃ LL, ((lE xs).take k).foldl (wrStep D n) (List.replicate PN (0, 0)) = LL := ⟨_, rfl⟩
    have hLLn : LL.length = PN := by rw [← hLL, wrs_len]; simp
    have HCL : Hid (CelB wr w2.heap.size LL) := by rw [← hLL]; exact HC.out
    have HNx : Hid (((lE xs).take (k + 1)).foldl (wrStep D n) (List.replicate PN (0, 0)) = LL.set X (1, (xs.getD k noL).e.n)) := by
     show _ = _
     rw [← hLL]
     exact HWR.out
    have HBxr : Hid (BoxN wr w.heap.size (.slice A0 n cap)) := boxn_other HBoxv.out (by omega) HG.out
    have hXL : X < LL.length := by omega
    have HXL : Hid (X < LL.length) := hXL
    generalize (xs.getD k noL).A = A1 at c1 HNum
    generalize (xs.getD k noL).c = k1 at c1 HNum
    generalize (xs.getD k noL).e.n = num at c2 hnn hof HNx
    generalize (xs.getD k noL).e.pl.length = m1 at c1 HNum
    have hcr := HBxr.out.2
    have hXi : (X : Int) < (PN : Int) := by omega
    obtain ⟨y, hy⟩ : ∃ y, wr.alloc (.cells #[.slice A1 m1 k1, .int .i64 num] 57) = y := ⟨_, rfl⟩
    have hBy : Below wr.heap.size wr y := by rw [← hy]; go_grown
    have HBy : Hid (Below wr.heap.size wr y) := hBy
    have HPy : Hid (y.heap[wr.heap.size]? = some (.cells #[.slice A1 m1 k1, .int .i64 num] 57 (0, 0))) := by show _ = _; rw [← hy]; exact heap_alloc_new ..
    obtain ⟨p0, p1, -, -⟩ := pair_at HPy.out
    have hyo := (HBxr.out.later hBy).2
    clear hB2r hA hmem hqI hnum hpl HWr hNum hnv hLL hLLn hX hq1 hq2 hBy hXL HWR
    go_wp2_with fail
    refine (HNum.out _ HBy.out).mono ?_
    rintro e w5 ⟨rfl, hb5⟩
    have HB5 : Hid (Below y.heap.size y w5) := hb5
    have hwr : wr.heap.size < y.heap.size := (Array.getElem?_eq_some_iff.1 HPy.out).1
    have hP5 : w5.heap[wr.heap.size]? = some (.cells #[.slice A1 m1 k1, .int .i64 num] 57 (0, 0)) := (hb5.block _ hwr).trans HPy.out
    obtain ⟨-, s1, -, -⟩ := pair_at hP5
    clear hb5 hP5 p0 p1 hyo
    go_wp2_with fail
    refine (hof _).mono ?_
    rintro e w6 ⟨rfl, hb6⟩
    have hB6 : Below wr.heap.size wr w6 := onB (onB HBy.out HB5.out) hb6
    have HC6 : Hid (CelB w6 w2.heap.size LL) := HCL.out.later hB6
    obtain ⟨g1, g2⟩ := HC6.out.at HXL.out
    have g3 := HC6.out.frozen (X * 2)
    have g4 := HC6.out.frozen (X * 2 + 1)
    have HC7 : Hid (CelB ((w6.setCell ⟨w2.heap.size, X * 2, none⟩ (.int .i64 1)).setCell ⟨w2.heap.size, X * 2 + 1, none⟩ (.int .i64 num)) w2.heap.size (((lE xs).take (k + 1)).foldl (wrStep D n) (List.replicate PN (0, 0)))) := by show CelB _ _ _; rw [HNx.out]; exact HC6.out.set HXL.out 1 num
    have HG7 : Hid (v2.grownBy ((w6.setCell ⟨w2.heap.size, X * 2, none⟩ (.int .i64 1)).setCell ⟨w2.heap.size, X * 2 + 1, none⟩ (.int .i64 num)) (some w2.heap.size)) := cel_grown (grown_then HG.out hB6)
    clear hb6 hB6 hof s1
    go_wp2_with fail
    go_roundg (N - (k + 1))
    case measure => omega
    case rel => exact ⟨k + 1, by omega, rfl, by go_num, HC7, HG7⟩
   ·have hke : k = N := by omega
    subst hke
    have HV : Hid (CelB wr w2.heap.size (wrV D n (lE xs))) := by rw [← HWE.out]; exact HC.out
    have HVL : Hid ((wrV D n (lE xs)).length = PN) := by show _ = _; rw [wrV_len]; exact HPN.out
    clear hB2r
    go_wp2_with fail
    go_ret2
    rw [HF.out.1, HF.out.2, HVL.out]
    exact ⟨⟨_, PN, rfl, by rw [HVL.out]; exact Nat.le_refl _, by omega, Or.inr ⟨_, 0, rfl, HV.out.celAt⟩⟩, HBr.out⟩
 ·have HF : Hid (fcL D n (lE xs) = []) := fc_bad he
  have HEr : Hid (errV (entsErr D n (lE xs)) = .iface 65 (.int .i64 (entsErr D n (lE xs)))) := errV_some he
  rw [errV_some he] at h
  clear he
  generalize entsErr D n (lE xs) = ee at h HEr
  generalize xs.length = N at h
  go_enter Tryz.func31, Tryz.ntmps31
  go_wp2_with fail
  refine h.mono ?_
  rintro e w1 ⟨rfl, hb1⟩
  have HB : Hid (Below w.heap.size w w1) := onB HB0.out hb1
  clear hb1 h
  go_wp2_with fail
  go_ret2
  rw [HF.out, HEr.out]
  exact ⟨⟨none, 0, rfl, CelV.nil _ _ _ (by decide)⟩, HB.out⟩
end Go.Proofs.YtjffbmejobjmjafGreatDoor

namespace Go.Proofs.YtjffbmejobjmjafGreatDoor
open Go.ChangeShapes Go.WideShapes Go.ChangeAt Go.RowKit
set_option maxRecDepth 20000

set_option maxHeartbeats 8000000 in
theorem fcells_own (A0 : Option Addr) (cap n : Nat) (D : Nat → Dm) (A : Nat → Option Addr) (C : Nat → Nat) (AE : Option Addr) (ce : Nat) (xs : List EnL) (w : World) (hM : DimsV w A0 cap n D A C) (hE : EnsV w AE ce xs) (he : entsErr D n (lE xs) = 0) :
  Calls Tryz.prog 31 #[.agg #[.slice A0 n cap], .slice AE xs.length ce] w fun e w' => (∃ g, e = .returned (.tuple #[.slice (some ⟨g, 0, none⟩) (prodN D n) (prodN D n), .nilIface]) ∧ w.heap.size ≤ g ∧ CelB w' g (wrV D n (lE xs))) ∧ Below w.heap.size w w' := by
 have hB0 := ownOut_below w A0 n cap 42
 have h := icheck_any A0 cap n D A C AE ce xs (ownOut w A0 n cap 42) (hM.later hB0) (hE.later hB0)
 have HB0 : Hid (Below w.heap.size w (ownOut w A0 n cap 42)) := hB0
 have HM : Hid (DimsV w A0 cap n D A C) := hM
 have HE : Hid (EnsV w AE ce xs) := hE
 clear hM hE hB0
 have hEs := ens_of he
 have HEs : Hid (Ens D n (lE xs)) := hEs
 have hfew : xs.length ≤ 3000 := by have := hEs.few; rw [lE_len] at this; exact this
 have hR := hEs.right
 have HR : Hid ((allErr D n).2.2 = 0) := hR
 obtain ⟨hn1, hn4, hp3, hd⟩ := allErr_some hR
 rw [he, errV_zero] at h
 have HBo : Hid (w.heap.size < (ownOut w A0 n cap 42).heap.size ∧ (ownOut w A0 n cap 42).cell? ⟨w.heap.size, 0, none⟩ = some (.slice A0 n cap)) := ⟨by rw [ownOut_size]; omega, ownOut_at ..⟩
 obtain ⟨N, hN⟩ : ∃ N, xs.length = N := ⟨_, rfl⟩
 have HN : Hid (xs.length = N) := hN
 rw [hN] at h hfew ⊢
 have hN' : (N : Int) ≤ 3000 := by omega
 obtain ⟨PN, hPN⟩ : ∃ PN, prodN D n = PN := ⟨_, rfl⟩
 have HPN : Hid (prodN D n = PN) := hPN
 rw [hPN] at hp3
 have hmk := run_make_cells PN hp3
 have hPN' : (PN : Int) ≤ 3000 := by omega
 have HWE : Hid (((lE xs).take N).foldl (wrStep D n) (List.replicate PN (0, 0)) = wrV D n (lE xs)) := by show _ = _; rw [List.take_of_length_le (by rw [lE_len, hN]; exact Nat.le_refl _), ← hPN]; rfl
 clear he hEs hR hd hN hPN
 go_enter Tryz.func31, Tryz.ntmps31
 go_wp2_with fail
 refine h.mono ?_
 rintro e w1 ⟨rfl, hb1⟩
 have hB : Below w.heap.size w w1 := onB HB0.out hb1
 have HB : Hid (Below w.heap.size w w1) := hB
 have HBox : Hid (BoxN w1 w.heap.size (.slice A0 n cap)) := ⟨Nat.lt_of_lt_of_le HBo.out.1 hb1.size, (hb1.cell (p := ⟨w.heap.size, 0, none⟩) HBo.out.1).trans HBo.out.2⟩
 have c1 := HBox.out.2
 have hpc := pcells_any A0 cap n D A C w1 (HM.out.later hB)
 have hcv : cellsV D n = (PN : Int) := by unfold cellsV; rw [if_pos HR.out, HPN.out]
 rw [HR.out, errV_zero, hcv] at hpc
 clear hb1 h hB hcv
 go_wp2_with fail
 refine hpc.mono ?_
 rintro e w2 ⟨rfl, hb2⟩
 have HB2 : Hid (Below w.heap.size w w2) := onB HB.out hb2
 have HBox2 : Hid (BoxN w2 w.heap.size (.slice A0 n cap)) := HBox.out.later hb2
 obtain ⟨v2, hv2⟩ : ∃ v, w2.alloc (.cells (madeCells #[.int .i64 0, .int .i64 0] (PN * 2)) 48) = v := ⟨_, rfl⟩
 have hBv : Below w2.heap.size w2 v2 := by rw [← hv2]; go_grown
 have HBv : Hid (Below w2.heap.size w2 v2) := hBv
 have HCv : Hid (CelB v2 w2.heap.size (List.replicate PN (0, 0))) := by rw [← hv2]; exact celB_made w2 PN
 have HBoxv : Hid (BoxN v2 w.heap.size (.slice A0 n cap)) := HBox2.out.later hBv
 have hwz : w.heap.size < w2.heap.size := HBox2.out.1
 clear hpc hb2 c1 hBv
 go_wp2_with fail
 clear hmk hv2
 go_loopg [32] N (fun gg s32 wr => ∃ (k : Nat), k ≤ N ∧ gg = N - k ∧ s32 = .int .i64 k ∧ Hid (CelB wr w2.heap.size (((lE xs).take k).foldl (wrStep D n) (List.replicate PN (0, 0)))) ∧ Hid (v2.grownBy wr (some w2.heap.size)))
 case atStart => exact ⟨0, Nat.zero_le _, rfl, rfl, HCv, grown_refl v2 _⟩
 case round =>
  obtain ⟨k, hk, rfl, rfl, HC, HG⟩ := hrel
  have hB2r : Below w2.heap.size w2 wr := HBv.out.grown HG.out HBv.out.size (fun j hj => by cases hj; exact Nat.le_refl _)
  have HB2r : Hid (Below w2.heap.size w2 wr) := hB2r
  have HBr : Hid (Below w.heap.size w wr) := onB HB2.out hB2r
  by_cases hlt : k < N
  ·have hkx : k < xs.length := by rw [HN.out]; exact hlt
   have hki : (k : Int) < (N : Int) := by omega
   obtain ⟨-, -, h0 | ⟨bb, oo, rfl, hA⟩⟩ := HE.out.later HBr.out
   ·have := HN.out; rw [h0] at this; simp at this; omega
   obtain ⟨c1, c2⟩ := hA.at hkx
   have hmem : (xs.getD k noL).e ∈ lE xs := List.mem_map.2 ⟨_, enl_mem hkx, rfl⟩
   obtain ⟨hqI, -, hnum⟩ := HEs.out.each _ hmem
   have hnn : -1000000 ≤ (xs.getD k noL).e.n ∧ (xs.getD k noL).e.n ≤ 1000000 := by simpa [numOk] using hnum
   obtain ⟨hq1, hq2, -⟩ := numI_bound hqI (Nat.le_refl n)
   have hpl := hA.pl hkx
   have HWr := take_wr D n (List.replicate PN (0, 0)) xs hkx
   unfold wrStep at HWr
   obtain ⟨X, hX⟩ : ∃ X : Nat, numI D (xs.getD k noL).e.pl n = X := ⟨(numI D (xs.getD k noL).e.pl n).toNat, by omega⟩
   have hnv : numV D n (xs.getD k noL).e.pl = (X : Int) := by unfold numV; rw [if_pos hqI.ok, hX]
   have hXN : X < PN := by have := HPN.out; omega
   have hNum : ∀ w', Below wr.heap.size wr w' → _ := fun w' hw' => pnumber_any A0 cap n D A C (xs.getD k noL).A (xs.getD k noL).c (xs.getD k noL).e.pl w' (HM.out.later (onB HBr.out hw')) (hpl.later hw')
   rw [hnv, hqI.ok, errV_zero] at hNum
   have HNum : Hid (∀ w', Below wr.heap.size wr w' → _) := hNum
   have hof := fun w' => of_any (xs.getD k noL).e.n w'
   rw [ofP_in (by omega) (by omega)] at hof
   rw [hX, show ((X : Int)).toNat = X by omega] at HWr
   have HWR : Hid _ := HWr
   obtain ⟨LL, hLL⟩ : ∃ LL, ((lE xs).take k).foldl (wrStep D n) (List.replicate PN (0, 0)) = LL := ⟨_, rfl⟩
   have hLLn : LL.length = PN := by rw [← hLL, wrs_len]; simp
   have HCL : Hid (CelB wr w2.heap.size LL) := by rw [← hLL]; exact HC.out
   have HNx : Hid (((lE xs).take (k + 1)).foldl (wrStep D n) (List.replicate PN (0, 0)) = LL.set X (1, (xs.getD k noL).e.n)) := by
    show _ = _
    rw [← hLL]
    exact HWR.out
   have HBxr : Hid (BoxN wr w.heap.size (.slice A0 n cap)) := boxn_other HBoxv.out (by omega) HG.out
   have hXL : X < LL.length := by omega
   have HXL : Hid (X < LL.length) := hXL
   generalize (xs.getD k noL).A = A1 at c1 HNum
   generalize (xs.getD k noL).c = k1 at c1 HNum
   generalize (xs.getD k noL).e.n = num at c2 hnn hof HNx
   generalize (xs.getD k noL).e.pl.length = m1 at c1 HNum
   have hcr := HBxr.out.2
   have hXi : (X : Int) < (PN : Int) := by omega
   obtain ⟨y, hy⟩ : ∃ y, wr.alloc (.cells #[.slice A1 m1 k1, .int .i64 num] 57) = y := ⟨_, rfl⟩
   have hBy : Below wr.heap.size wr y := by rw [← hy]; go_grown
   have HBy : Hid (Below wr.heap.size wr y) := hBy
   have HPy : Hid (y.heap[wr.heap.size]? = some (.cells #[.slice A1 m1 k1, .int .i64 num] 57 (0, 0))) := by show _ = _; rw [← hy]; exact heap_alloc_new ..
   obtain ⟨p0, p1, -, -⟩ := pair_at HPy.out
   have hyo := (HBxr.out.later hBy).2
   clear hB2r hA hmem hqI hnum hpl HWr hNum hnv hLL hLLn hX hq1 hq2 hBy hXL HWR
   go_wp2_with fail
   refine (HNum.out _ HBy.out).mono ?_
   rintro e w5 ⟨rfl, hb5⟩
   have HB5 : Hid (Below y.heap.size y w5) := hb5
   have hwr : wr.heap.size < y.heap.size := (Array.getElem?_eq_some_iff.1 HPy.out).1
   have hP5 : w5.heap[wr.heap.size]? = some (.cells #[.slice A1 m1 k1, .int .i64 num] 57 (0, 0)) := (hb5.block _ hwr).trans HPy.out
   obtain ⟨-, s1, -, -⟩ := pair_at hP5
   clear hb5 hP5 p0 p1 hyo
   go_wp2_with fail
   refine (hof _).mono ?_
   rintro e w6 ⟨rfl, hb6⟩
   have hB6 : Below wr.heap.size wr w6 := onB (onB HBy.out HB5.out) hb6
   have HC6 : Hid (CelB w6 w2.heap.size LL) := HCL.out.later hB6
   obtain ⟨g1, g2⟩ := HC6.out.at HXL.out
   have g3 := HC6.out.frozen (X * 2)
   have g4 := HC6.out.frozen (X * 2 + 1)
   have HC7 : Hid (CelB ((w6.setCell ⟨w2.heap.size, X * 2, none⟩ (.int .i64 1)).setCell ⟨w2.heap.size, X * 2 + 1, none⟩ (.int .i64 num)) w2.heap.size (((lE xs).take (k + 1)).foldl (wrStep D n) (List.replicate PN (0, 0)))) := by show CelB _ _ _; rw [HNx.out]; exact HC6.out.set HXL.out 1 num
   have HG7 : Hid (v2.grownBy ((w6.setCell ⟨w2.heap.size, X * 2, none⟩ (.int .i64 1)).setCell ⟨w2.heap.size, X * 2 + 1, none⟩ (.int .i64 num)) (some w2.heap.size)) := cel_grown (grown_then HG.out hB6)
   clear hb6 hB6 hof s1
   go_wp2_with fail
   go_roundg (N - (k + 1))
   case measure => omega
   case rel => exact ⟨k + 1, by omega, rfl, by go_num, HC7, HG7⟩
  ·have hke : k = N := by omega
   subst hke
   have HV : Hid (CelB wr w2.heap.size (wrV D n (lE xs))) := by rw [← HWE.out]; exact HC.out
   clear hB2r
   go_wp2_with fail
   go_ret2
   exact ⟨⟨w2.heap.size, by rw [HPN.out]; rfl, HB2.out.size, HV.out⟩, HBr.out⟩
end Go.Proofs.YtjffbmejobjmjafGreatDoor

namespace Go.Proofs.YtjffbmejobjmjafGreatDoor
open Go.ChangeShapes Go.WideShapes Go.ChangeAt Go.RowKit
set_option maxRecDepth 20000

end Go.Proofs.YtjffbmejobjmjafGreatDoor

namespace Go.Proofs.YtjffbmejobjmjafGreatDoor
open Go Go.ChangeShapes Go.WideShapes Go.ChangeAt Go.RowKit
set_option maxRecDepth 20000

def rwL (D : Nat → Dm) (n : Nat) (l : List En) (m : Nat) : List (Int × Int) := (List.range m).map fun x => getE l (placeL D n x)
theorem rwL_len (D : Nat → Dm) (n : Nat) (l : List En) (m : Nat) : (rwL D n l m).length = m := by simp [rwL]
theorem wr_none {D : Nat → Dm} {n x : Nat} : ∀ (l : List En) (L : List (Int × Int)), (∀ e ∈ l, InO D n e.pl) → L.length = prodN D n → (∀ e ∈ l, (numI D e.pl n).toNat ≠ x) → (l.foldl (wrStep D n) L).getD x (0, 0) = L.getD x (0, 0)
 | [], _, _, _, _ => rfl
 | e :: r, L, hi, hL, h => by
  obtain ⟨h1, h2, -⟩ := numI_bound (hi e (List.mem_cons_self ..)) (Nat.le_refl n)
  rw [List.foldl_cons, wr_none r _ (fun y hy => hi y (List.mem_cons_of_mem _ hy)) (by unfold wrStep; rw [List.length_set]; exact hL) fun y hy => h y (List.mem_cons_of_mem _ hy)]
  unfold wrStep
  have := h e (List.mem_cons_self ..)
  simp [List.getD, List.getElem?_set_ne this]
theorem wr_some {D : Nat → Dm} {n : Nat} {e : En} : ∀ (l : List En) (L : List (Int × Int)), (∀ y ∈ l, InO D n y.pl) → (l.Pairwise fun a b => lessL a.pl b.pl = true) → L.length = prodN D n → e ∈ l → (l.foldl (wrStep D n) L).getD (numI D e.pl n).toNat (0, 0) = (1, e.n)
 | [], _, _, _, _, h => by cases h
 | y :: r, L, hi, hr, hL, h => by
  have hr' := List.pairwise_cons.1 hr
  have hiy := hi y (List.mem_cons_self ..)
  have hir := fun z hz => hi z (List.mem_cons_of_mem y hz)
  obtain ⟨h1, h2, -⟩ := numI_bound hiy (Nat.le_refl n)
  rw [List.foldl_cons]
  have hL' : (wrStep D n L y).length = prodN D n := by unfold wrStep; rw [List.length_set]; exact hL
  rcases List.mem_cons.1 h with rfl | h
  ·rw [wr_none r _ hir hL' fun z hz => by
    have h3 := less_num hiy (hir z hz) (hr'.1 z hz)
    obtain ⟨h4, -, -⟩ := numI_bound (hir z hz) (Nat.le_refl n)
    omega]
   unfold wrStep
   have : (numI D e.pl n).toNat < L.length := by omega
   simp [List.getD, this]
  ·exact wr_some r _ hir hr'.2 hL' h
theorem wr_rwL {D : Nat → Dm} {n : Nat} {l : List En} (h : Ens D n l) : wrV D n l = rwL D n l (prodN D n) := by
 apply List.ext_getElem (by rw [wrV_len, rwL_len])
 intro x h1 h2
 rw [wrV_len] at h1
 have e1 : (wrV D n l).getD x (0, 0) = getE l (placeL D n x) := by
  unfold wrV
  by_cases hx : ∃ e, e ∈ l ∧ (numI D e.pl n).toNat = x
  ·obtain ⟨e, he, hn⟩ := hx
   have h3 := wr_some l (List.replicate (prodN D n) (0, 0)) (fun y hy => (h.each y hy).1) h.rise (by simp) he
   rw [hn] at h3
   rw [h3, ← hn, place_num (h.each e he).1, get_mem h.rise he]
  ·rw [wr_none l _ (fun y hy => (h.each y hy).1) (by simp) fun e he hn => hx ⟨e, he, hn⟩]
   rw [(get_none h.rise fun e he e2 => hx ⟨e, he, by rw [e2, num_place h.right h1]; omega⟩).1]
   simp [List.getD, h1]
 have h3 : x < (wrV D n l).length := by rw [wrV_len]; exact h1
 rw [List.getD_eq_getElem?_getD, List.getElem?_eq_getElem h3] at e1
 simp only [Option.getD_some] at e1
 rw [e1]
 simp [rwL]

end Go.Proofs.YtjffbmejobjmjafGreatDoor

namespace Go.Proofs.YtjffbmejobjmjafGreatDoor

def facS (D : Nat → Dm) (S : Nat → Bool) (p q : List Int) (k : Nat) : Int := if S k = true then weightOf (D k).mem (p.getD k 0) (q.getD k 0) else if p.getD k 0 = q.getD k 0 then 1 else 0
def gwTo (D : Nat → Dm) (S : Nat → Bool) (p q : List Int) : Nat → Int
 | 0 => 1
 | k + 1 => gwTo D S p q k * facS D S p q k
theorem gw_congr {D : Nat → Dm} {S S' : Nat → Bool} {p p' q : List Int} : ∀ k, (∀ j, j < k → facS D S p q j = facS D S' p' q j) → gwTo D S p q k = gwTo D S' p' q k
 | 0, _ => rfl
 | k + 1, h => by rw [gwTo, gwTo, gw_congr k fun j hj => h j (by omega), h k (by omega)]
def grTo (D : Nat → Dm) (S : Nat → Bool) (dim : Nat) (p q : List Int) : Nat → Int
 | 0 => 1
 | k + 1 => grTo D S dim p q k * (if k = dim then 1 else facS D S p q k)
theorem gw_split (D : Nat → Dm) (S : Nat → Bool) (dim : Nat) (p q : List Int) : ∀ k, gwTo D S p q k = grTo D S dim p q k * (if dim < k then facS D S p q dim else 1)
 | 0 => by simp [gwTo, grTo]
 | k + 1 => by
  rw [gwTo, grTo, gw_split D S dim p q k]
  rcases Nat.lt_trichotomy dim k with h | h | h
  ·rw [if_pos h, if_pos (show dim < k + 1 by omega), if_neg (show ¬ k = dim by omega), Int.mul_assoc, Int.mul_comm (facS D S p q dim), ← Int.mul_assoc]
  ·subst h
   rw [if_neg (show ¬ dim < dim by omega), if_pos (show dim < dim + 1 by omega), if_pos (show dim = dim from rfl)]
  ·rw [if_neg (show ¬ dim < k by omega), if_neg (show ¬ dim < k + 1 by omega), if_neg (show ¬ k = dim by omega), Int.mul_one, Int.mul_one]
theorem gr_congr {D : Nat → Dm} {S : Nat → Bool} {dim : Nat} {p p' q : List Int} : ∀ k, (∀ j, j < k → j ≠ dim → p.getD j 0 = p'.getD j 0) → grTo D S dim p q k = grTo D S dim p' q k
 | 0, _ => rfl
 | k + 1, h => by
  rw [grTo, grTo, gr_congr k fun j hj => h j (by omega)]
  by_cases e : k = dim
  ·rw [if_pos e, if_pos e]
  ·rw [if_neg e, if_neg e]
   unfold facS
   rw [h k (by omega) e]
theorem fac_small {D : Nat → Dm} {n : Nat} {q : List Int} (hq : InO D n q) (S : Nat → Bool) (p : List Int) {k : Nat} (hk : k < n) : -1 ≤ facS D S p q k ∧ facS D S p q k ≤ 1 := by
 unfold facS
 split
 ·exact weight_small hq hk _
 ·split <;> omega
theorem gw_small {D : Nat → Dm} {n : Nat} {q : List Int} (hq : InO D n q) (S : Nat → Bool) (p : List Int) : ∀ k, k ≤ n → -1 ≤ gwTo D S p q k ∧ gwTo D S p q k ≤ 1
 | 0, _ => by simp [gwTo]
 | k + 1, hk => by
  rw [gwTo]
  exact small_mul (gw_small hq S p k (by omega)) (fac_small hq S p (by omega))

def gN (D : Nat → Dm) (n : Nat) (S : Nat → Bool) (p : List Int) : List En → Int
 | [] => 0
 | e :: r => gwTo D S p e.pl n * e.n + gN D n S p r
def gB (D : Nat → Dm) (n : Nat) (S : Nat → Bool) (p : List Int) (e : En) : Bool := !(gwTo D S p e.pl n == 0)
def gV (D : Nat → Dm) (n : Nat) (S : Nat → Bool) (l : List En) (p : List Int) : Int × Int := (if l.any (gB D n S p) = true then 1 else 0, gN D n S p l)
def gL (D : Nat → Dm) (n : Nat) (S : Nat → Bool) (l : List En) : List (Int × Int) := (List.range (prodN D n)).map fun x => gV D n S l (placeL D n x)
theorem gL_len (D : Nat → Dm) (n : Nat) (S : Nat → Bool) (l : List En) : (gL D n S l).length = prodN D n := by simp [gL]
theorem gL_at {D : Nat → Dm} {n : Nat} {S : Nat → Bool} {l : List En} {x : Nat} (hx : x < prodN D n) : (gL D n S l).getD x (0, 0) = gV D n S l (placeL D n x) := by simp [gL, List.getD, hx]
theorem gV_congr {D : Nat → Dm} {n : Nat} {S S' : Nat → Bool} {p p' : List Int} : ∀ {l : List En}, (∀ e ∈ l, gwTo D S p e.pl n = gwTo D S' p' e.pl n) → gV D n S l p = gV D n S' l p'
 | [], _ => rfl
 | e :: r, h => by
  have ih := gV_congr (l := r) fun x hx => h x (List.mem_cons_of_mem _ hx)
  have he := h e (List.mem_cons_self ..)
  unfold gV at ih ⊢
  simp only [Prod.mk.injEq] at ih
  have hb : gB D n S p e = gB D n S' p' e := by unfold gB; rw [he]
  rw [List.any_cons, List.any_cons, hb, gN, gN, he, ih.2]
  refine Prod.ext ?_ rfl
  have h1 := ih.1
  simp only at h1 ⊢
  cases gB D n S' p' e
  ·simpa using h1
  ·simp
theorem gN_bound {D : Nat → Dm} {n : Nat} (S : Nat → Bool) (p : List Int) : ∀ l : List En, (∀ e ∈ l, InO D n e.pl ∧ leafV D n e.pl = true ∧ numOk e.n = true) → -1000000 * (l.length : Int) ≤ gN D n S p l ∧ gN D n S p l ≤ 1000000 * (l.length : Int)
 | [], _ => by simp [gN]
 | e :: r, h => by
  obtain ⟨h1, -, h2⟩ := h e (List.mem_cons_self ..)
  have ih := gN_bound S p r fun x hx => h x (List.mem_cons_of_mem _ hx)
  have hw := gw_small h1 S p n (Nat.le_refl _)
  have hn : -1000000 ≤ e.n ∧ e.n ≤ 1000000 := by simpa [numOk] using h2
  have hv : -1000000 ≤ gwTo D S p e.pl n * e.n ∧ gwTo D S p e.pl n * e.n ≤ 1000000 := by
   have h3 : gwTo D S p e.pl n = -1 ∨ gwTo D S p e.pl n = 0 ∨ gwTo D S p e.pl n = 1 := by omega
   rcases h3 with h3 | h3 | h3 <;> rw [h3] <;> omega
  rw [gN, List.length_cons]
  omega
theorem gN_none {D : Nat → Dm} {n : Nat} {S : Nat → Bool} {p : List Int} : ∀ {l : List En}, l.any (gB D n S p) = false → gN D n S p l = 0
 | [], _ => rfl
 | e :: r, h => by
  rw [List.any_cons, Bool.or_eq_false_iff] at h
  have : gwTo D S p e.pl n = 0 := by have := h.1; unfold gB at this; simpa using this
  rw [gN, gN_none h.2, this]
  simp
theorem gw_all {D : Nat → Dm} {S : Nat → Bool} {p q : List Int} : ∀ k, (∀ j, j < k → S j = true) → gwTo D S p q k = pwTo D p q k
 | 0, _ => rfl
 | k + 1, h => by rw [gwTo, pwTo, gw_all k fun j hj => h j (by omega), facS, if_pos (h k (by omega))]
theorem gV_all {D : Nat → Dm} {n : Nat} {S : Nat → Bool} (hS : ∀ j, j < n → S j = true) (l : List En) (p : List Int) : gV D n S l p = rollV D n l p := by
 have h1 : ∀ l : List En, l.any (gB D n S p) = l.any (cntR D n p) := fun l => by
  induction l with
  | nil => rfl
  | cons e r ih => rw [List.any_cons, List.any_cons, ih, cnt_pw, gB, gw_all n hS]
 have h2 : ∀ l : List En, gN D n S p l = rollN D n p l := fun l => by
  induction l with
  | nil => rfl
  | cons e r ih =>
   rw [gN, rollN, ih, gw_all n hS, cnt_pw]
   by_cases h : pwTo D p e.pl n = 0
   ·rw [h]; simp
   ·rw [if_pos (by simpa using h)]; rfl
 unfold gV rollV rollK
 rw [h1, h2]

theorem gw_none {D : Nat → Dm} {p q : List Int} : ∀ k, gwTo D (fun _ => false) p q k = if ∀ j, j < k → p.getD j 0 = q.getD j 0 then 1 else 0
 | 0 => by simp [gwTo]
 | k + 1 => by
  rw [gwTo, gw_none k, facS]
  simp only [Bool.false_eq_true, if_false]
  by_cases h : ∀ j, j < k → p.getD j 0 = q.getD j 0
  ·rw [if_pos h]
   by_cases e : p.getD k 0 = q.getD k 0
   ·rw [if_pos e, if_pos]
    ·rfl
    ·intro j hj
     rcases Nat.lt_succ_iff_lt_or_eq.1 hj with h1 | rfl
     ·exact h j h1
     ·exact e
   ·rw [if_neg e, if_neg]
    ·rfl
    ·exact fun h1 => e (h1 k (by omega))
  ·rw [if_neg h, if_neg (show ¬ ∀ j, j < k + 1 → p.getD j 0 = q.getD j 0 from fun h1 => h fun j hj => h1 j (by omega)), Int.zero_mul]
theorem gw_num {D : Nat → Dm} {n x : Nat} {q : List Int} (hq : InO D n q) (hx : x < prodN D n) : gwTo D (fun _ => false) (placeL D n x) q n = if (numI D q n).toNat = x then 1 else 0 := by
 rw [gw_none]
 by_cases h : (numI D q n).toNat = x
 ·rw [if_pos h, if_pos]
  intro j _
  rw [← h, place_num hq]
 ·rw [if_neg h, if_neg]
  intro h1
  have e : placeL D n x = q := by
   apply List.ext_getElem (by rw [placeL_len]; exact hq.len.symm)
   intro j h2 h3
   have := h1 j (by rw [placeL_len] at h2; exact h2)
   simpa [List.getD, h2, h3] using this
  apply h
  rw [← e, num_place hq.right hx]
  omega
theorem wr_get {D : Nat → Dm} {n : Nat} {x : Nat} (hx : x < prodN D n) : ∀ (l : List En) (L : List (Int × Int)), L.length = prodN D n → (∀ e ∈ l, InO D n e.pl) → (l.Pairwise fun a b => lessL a.pl b.pl = true) → (l.foldl (wrStep D n) L).getD x (0, 0) = if l.any (gB D n (fun _ => false) (placeL D n x)) = true then (1, gN D n (fun _ => false) (placeL D n x) l) else L.getD x (0, 0)
 | [], L, _, _, _ => by simp
 | e :: r, L, hL, hi, hr => by
  have hie := hi e (List.mem_cons_self ..)
  have hr' := List.pairwise_cons.1 hr
  obtain ⟨hb1, hb2, -⟩ := numI_bound hie (Nat.le_refl n)
  rw [List.foldl_cons, wr_get hx r _ (by unfold wrStep; rw [List.length_set]; exact hL) (fun y hy => hi y (List.mem_cons_of_mem _ hy)) hr'.2, List.any_cons, gN]
  have hg := gw_num hie hx
  unfold wrStep
  rw [getD_set (by omega)]
  by_cases h : (numI D e.pl n).toNat = x
  ·have hno : r.any (gB D n (fun _ => false) (placeL D n x)) = false := by
    rw [Bool.eq_false_iff]
    intro ha
    obtain ⟨y, hy, hyb⟩ := List.any_eq_true.1 ha
    have hiy := hi y (List.mem_cons_of_mem _ hy)
    have h1 := gw_num hiy hx
    have h2 := less_num hie hiy (hr'.1 y hy)
    obtain ⟨h3, -, -⟩ := numI_bound hiy (Nat.le_refl n)
    rw [if_neg (by omega)] at h1
    unfold gB at hyb
    rw [h1] at hyb
    simp at hyb
   rw [if_pos h] at hg
   have hbe : gB D n (fun _ => false) (placeL D n x) e = true := by unfold gB; rw [hg]; rfl
   rw [hno, hbe, gN_none hno, hg]
   simp [h]
  ·rw [if_neg h] at hg
   have hbe : gB D n (fun _ => false) (placeL D n x) e = false := by unfold gB; rw [hg]; rfl
   rw [hbe, hg, if_neg (show ¬ x = (numI D e.pl n).toNat from fun e => h e.symm)]
   simp
theorem wr_gL {D : Nat → Dm} {n : Nat} {l : List En} (h : Ens D n l) : wrV D n l = gL D n (fun _ => false) l := by
 refine list_same (by rw [wrV_len, gL_len]) fun x hx => ?_
 rw [wrV_len] at hx
 rw [gL_at hx]
 unfold wrV
 rw [wr_get hx l _ (by simp) (fun e he => (h.each e he).1) h.rise]
 unfold gV
 split
 ·rfl
 ·rename_i hn
  rw [gN_none (by simpa using hn)]
  simp [List.getD, hx]

def sumP (f : Int → Int) : List Int → Int
 | [] => 0
 | k :: r => f k + sumP f r
theorem sumP_congr {f g : Int → Int} : ∀ {P : List Int}, (∀ k ∈ P, f k = g k) → sumP f P = sumP g P
 | [], _ => rfl
 | k :: r, h => by rw [sumP, sumP, h k (List.mem_cons_self ..), sumP_congr fun j hj => h j (List.mem_cons_of_mem _ hj)]
theorem sumP_add (f g : Int → Int) : ∀ P : List Int, sumP (fun k => f k + g k) P = sumP f P + sumP g P
 | [] => rfl
 | k :: r => by rw [sumP, sumP, sumP, sumP_add f g r]; omega
theorem sumP_mul (f : Int → Int) (c : Int) : ∀ P : List Int, sumP (fun k => f k * c) P = sumP f P * c
 | [] => by simp [sumP]
 | k :: r => by rw [sumP, sumP, sumP_mul f c r, Int.add_mul]
theorem sumP_append (f : Int → Int) : ∀ (P Q : List Int), sumP f (P ++ Q) = sumP f P + sumP f Q
 | [], Q => by simp [sumP]
 | k :: r, Q => by rw [List.cons_append, sumP, sumP, sumP_append f r Q]; omega
theorem sumP_zero {f : Int → Int} : ∀ {P : List Int}, (∀ k ∈ P, f k = 0) → sumP f P = 0
 | [], _ => rfl
 | k :: r, h => by rw [sumP, h k (List.mem_cons_self ..), sumP_zero fun j hj => h j (List.mem_cons_of_mem _ hj)]; rfl
theorem sel_single {f : Int → Int} {p : Nat → Bool} {k0 : Nat} : ∀ n, k0 < n → p k0 = true → (∀ k, k < n → p k = true → k ≠ k0 → f k = 0) → sumP f (selTo p n) = f k0
 | 0, h, _, _ => by omega
 | n + 1, h, hp, hz => by
  by_cases e : k0 = n
  ·subst e
   have h0 : sumP f (selTo p k0) = 0 := sumP_zero fun k hk => by
    obtain ⟨m, rfl, hm, hpm⟩ := selTo_mem k hk
    exact hz m (by omega) hpm (by omega)
   rw [selTo_hit hp, sumP_append, h0]
   simp [sumP]
  ·have ih := sel_single n (by omega) hp fun k hk => hz k (by omega)
   cases hn : p n
   ·rw [selTo_miss hn]; exact ih
   ·rw [selTo_hit hn, sumP_append, ih, sumP, sumP, hz n (by omega) hn (fun h => e h.symm)]; omega
theorem sumTo_none {f : Nat → Nat} : ∀ n, sumTo f n = 0 → ∀ k, k < n → f k = 0
 | 0, _, k, hk => by omega
 | n + 1, h, k, hk => by
  rw [sumTo] at h
  by_cases e : k = n
  ·rw [e]; omega
  ·exact sumTo_none n (by omega) k (by omega)
theorem sumTo_only {f : Nat → Nat} : ∀ n, sumTo f n = 1 → ∃ k, k < n ∧ f k = 1 ∧ ∀ j, j < n → j ≠ k → f j = 0
 | 0, h => by simp [sumTo] at h
 | n + 1, h => by
  rw [sumTo] at h
  by_cases e : f n = 0
  ·obtain ⟨k, h1, h2, h3⟩ := sumTo_only (f := f) n (by omega)
   refine ⟨k, by omega, h2, fun j hj hne => ?_⟩
   by_cases e2 : j = n
   ·rw [e2]; exact e
   ·exact h3 j (by omega) hne
  ·have h0 : sumTo f n = 0 := by omega
   refine ⟨n, by omega, by omega, fun j hj hne => sumTo_none n h0 j (by omega)⟩
theorem part_cases {M : Nat → Mem} {n : Nat} (ht : Tr M n) {m j : Nat} (hj : j < n) (hne : j ≠ m) :
  (weightOf M (m : Int) (j : Int) = 0 ∧ ∀ k, k < n → partB M (m : Int) k = true → weightOf M (k : Int) (j : Int) = 0) ∨
  ∃ k0, k0 < n ∧ partB M (m : Int) k0 = true ∧ weightOf M (m : Int) (j : Int) = (M k0).sign * weightOf M (k0 : Int) (j : Int) ∧ ∀ k, k < n → partB M (m : Int) k = true → k ≠ k0 → weightOf M (k : Int) (j : Int) = 0 := by
 have hs := steps_one ht (i := m) (j + 1) j hj (by omega)
 have hd : decide (j = m) = false := decide_eq_false hne
 rw [hd] at hs
 cases hin : inB (pathOf M (j : Int)) (m : Int)
 ·left
  rw [hin] at hs
  have h0 : sumTo (fun p => one (partB M m p && inB (pathOf M j) p)) n = 0 := hs
  refine ⟨wgt_out _ (inB_false.1 hin) _, fun k hk hp => wgt_out _ (inB_false.1 ?_) _⟩
  have := sumTo_none n h0 k hk
  simp only [hp, Bool.true_and] at this
  cases h : inB (pathOf M (j : Int)) (k : Int)
  ·rfl
  ·rw [h] at this; cases this
 ·right
  rw [hin] at hs
  have h1 : sumTo (fun p => one (partB M m p && inB (pathOf M j) p)) n = 1 := hs
  obtain ⟨k0, hk0, h2, h3⟩ := sumTo_only n h1
  have h4 : partB M (m : Int) k0 = true ∧ inB (pathOf M (j : Int)) (k0 : Int) = true := by
   cases ha : partB M (m : Int) k0
   ·simp [ha, one] at h2
   ·cases hb : inB (pathOf M (j : Int)) (k0 : Int)
    ·simp [hb, one] at h2
    ·exact ⟨rfl, rfl⟩
  refine ⟨k0, hk0, h4.1, ?_, fun k hk hp hne => wgt_out _ (inB_false.1 ?_) _⟩
  ·rw [Int.mul_comm]
   exact part_weight ht hk0 (by simpa [partB] using h4.1) (j + 1) j 1 hj (by omega) (inB_true.1 h4.2)
  ·have := h3 k hk hne
   simp only [hp, Bool.true_and] at this
   cases h : inB (pathOf M (j : Int)) (k : Int)
   ·rfl
   ·rw [h] at this; cases this
end Go.Proofs.YtjffbmejobjmjafGreatDoor

namespace Go.Proofs.YtjffbmejobjmjafGreatDoor
set_option maxRecDepth 20000

def someP (M : Nat → Mem) (f : Int → Int × Int) (k : Int) : Bool := !((M k.toNat).sign == 0) && ((f k).1 == 1)
theorem parts_sum {M : Nat → Mem} {f : Int → Int × Int} (P : List Int) (a b : Int) (hs : ∀ k ∈ P, -1 ≤ (M k.toNat).sign ∧ (M k.toNat).sign ≤ 1) (hf : ∀ k ∈ P, ((f k).1 = 1 ∨ ((f k).1 = 0 ∧ (f k).2 = 0)) ∧ -3000000000 ≤ (f k).2 ∧ (f k).2 ≤ 3000000000) (hab : a = 1 ∨ (a = 0 ∧ b = 0)) (h1 : -(1000000000000 - 3000000000 * (P.length : Int)) ≤ b) (h2 : b ≤ 1000000000000 - 3000000000 * (P.length : Int)) :
  P.foldl (partStep M f) (a, b) = (if (decide (a = 1) || P.any (someP M f)) = true then 1 else 0, b + sumP (fun k => (M k.toNat).sign * (f k).2) P) := by
 induction P generalizing a b with
 | nil =>
  simp only [List.foldl_nil, List.any_nil, Bool.or_false, sumP, Int.add_zero]
  rcases hab with rfl | ⟨rfl, rfl⟩ <;> simp
 | cons k r ih =>
  have hsk := hs k (List.mem_cons_self ..)
  obtain ⟨hfk, hb1, hb2⟩ := hf k (List.mem_cons_self ..)
  have hs' := fun j hj => hs j (List.mem_cons_of_mem k hj)
  have hf' := fun j hj => hf j (List.mem_cons_of_mem k hj)
  simp only [List.length_cons] at h1 h2
  have hlen : (0 : Int) ≤ (r.length : Int) := by omega
  rw [List.foldl_cons, List.any_cons, sumP]
  have e3 : (M k.toNat).sign = 1 ∨ (M k.toNat).sign = -1 ∨ (M k.toNat).sign = 0 := by omega
  rcases e3 with e3 | e3 | e3
  ·have hst : partStep M f (a, b) k = (if (decide (a = 1) || decide ((f k).1 = 1)) = true then 1 else 0, b + (f k).2) := by
    unfold partStep
    rw [if_pos e3]
    show plusP a b (f k).1 (f k).2 = _
    rcases hab with rfl | ⟨rfl, rfl⟩
    ·rcases hfk with hk | ⟨hk, hk2⟩
     ·rw [hk]; unfold plusP joinP; rw [ofP_in (by omega) (by omega)]; rfl
     ·rw [hk, hk2]; unfold plusP joinP; rw [ofP_in (by omega) (by omega)]; rfl
    ·rcases hfk with hk | ⟨hk, hk2⟩
     ·rw [hk]; unfold plusP joinP; rw [ofP_in (by omega) (by omega)]; rfl
     ·rw [hk, hk2]; rfl
   rw [hst, ih _ _ hs' hf' ?_ (by omega) (by omega)]
   ·have hsp : someP M f k = decide ((f k).1 = 1) := by
     unfold someP
     rw [e3]
     simp
     rfl
    rw [hsp]
    refine Prod.ext ?_ (by simp only [e3]; omega)
    simp only
    by_cases ha : a = 1
    ·simp [ha]
    ·by_cases hk : (f k).1 = 1
     ·simp [hk]
     ·simp [ha, hk]
   ·rcases hab with rfl | ⟨rfl, rfl⟩
    ·left; simp
    ·rcases hfk with hk | ⟨hk, hk2⟩
     ·left; simp [hk]
     ·right; simp [hk, hk2]
  ·have hst : partStep M f (a, b) k = (if (decide (a = 1) || decide ((f k).1 = 1)) = true then 1 else 0, b - (f k).2) := by
    unfold partStep
    rw [if_neg (by omega), if_pos e3]
    show minusP a b (f k).1 (f k).2 = _
    rcases hab with rfl | ⟨rfl, rfl⟩
    ·rcases hfk with hk | ⟨hk, hk2⟩
     ·rw [hk]; unfold minusP joinP; rw [ofP_in (by omega) (by omega)]; rfl
     ·rw [hk, hk2]; unfold minusP joinP; rw [ofP_in (by omega) (by omega)]; rfl
    ·rcases hfk with hk | ⟨hk, hk2⟩
     ·rw [hk]; unfold minusP joinP; rw [ofP_in (by omega) (by omega)]; rfl
     ·rw [hk, hk2]; rfl
   rw [hst, ih _ _ hs' hf' ?_ (by omega) (by omega)]
   ·have hsp : someP M f k = decide ((f k).1 = 1) := by
     unfold someP
     rw [e3]
     simp
     rfl
    rw [hsp]
    refine Prod.ext ?_ (by simp only [e3]; omega)
    simp only
    by_cases ha : a = 1
    ·simp [ha]
    ·by_cases hk : (f k).1 = 1
     ·simp [hk]
     ·simp [ha, hk]
   ·rcases hab with rfl | ⟨rfl, rfl⟩
    ·left; simp
    ·rcases hfk with hk | ⟨hk, hk2⟩
     ·left; simp [hk]
     ·right; simp [hk, hk2]
  ·have hst : partStep M f (a, b) k = (a, b) := by
    unfold partStep
    rw [if_neg (by omega), if_neg (by omega)]
   rw [hst, ih _ _ hs' hf' hab (by omega) (by omega)]
   have hsp : someP M f k = false := by
    unfold someP
    rw [e3]
    rfl
   rw [hsp, e3, Int.zero_mul, Int.zero_add, Bool.false_or]

section
variable {D : Nat → Dm} {n dim : Nat} {l : List En} (hE : Ens D n l) (hd : dim < n) {S : Nat → Bool} (hS : S dim = false)
def addS (S : Nat → Bool) (dim : Nat) (k : Nat) : Bool := S k || decide (k = dim)
include hE hd
theorem leaf_dim {e : En} (he : e ∈ l) : ∃ j : Nat, e.pl.getD dim 0 = j ∧ j < (D dim).n ∧ leafB (D dim).mem (D dim).n j = true := by
 obtain ⟨h1, h2, -⟩ := hE.each e he
 have h3 := h1.lo dim hd
 have h4 := h1.hi dim hd
 have h5 := leaf_each h2 dim hd
 refine ⟨(e.pl.getD dim 0).toNat, by omega, by omega, h5⟩
include hS
theorem gw_bare {e : En} (he : e ∈ l) {p : List Int} {m : Nat} (hm : m < (D dim).n) (hp : p.getD dim 0 = m) (hP : partsOf (D dim).mem (D dim).n (m : Int) = []) : gwTo D (addS S dim) p e.pl n = gwTo D S p e.pl n := by
 have ht : Tr (D dim).mem (D dim).n := Tr.of ((allErr_right hE.right).2 dim hd)
 obtain ⟨j, hj, hjn, -⟩ := leaf_dim hE hd he
 refine gw_congr n fun k hk => ?_
 by_cases e1 : k = dim
 ·subst e1
  unfold facS addS
  rw [hS, hp, hj]
  simp only [decide_true, Bool.or_true, if_true, Bool.false_eq_true, if_false]
  by_cases e2 : m = j
  ·subst e2
   rw [if_pos rfl, weightOf, pathOf_cons ht hm, wgt_hit]
  ·rw [if_neg (by omega), weightOf, wgt_out]
   intro h
   obtain ⟨q, h1, h2⟩ := part_has ht (j + 1) j hjn (by omega) (fun h => e2 h.symm) h
   have := sel_in h1 h2
   rw [show selTo (partB (D k).mem (m : Int)) (D k).n = [] from hP] at this
   cases this
 ·unfold facS addS
  simp [e1]
omit hS
theorem gw_parts {e : En} (he : e ∈ l) {p : List Int} {m : Nat} (hp : p.getD dim 0 = m) (hP : partsOf (D dim).mem (D dim).n (m : Int) ≠ []) (pk : Int → List Int) (hpk : ∀ k, k ∈ partsOf (D dim).mem (D dim).n (m : Int) → (pk k).getD dim 0 = k ∧ ∀ i, i < n → i ≠ dim → (pk k).getD i 0 = p.getD i 0) :
  gwTo D (addS S dim) p e.pl n = sumP (fun k => ((D dim).mem k.toNat).sign * gwTo D (addS S dim) (pk k) e.pl n) (partsOf (D dim).mem (D dim).n (m : Int)) ∧
  (gwTo D (addS S dim) p e.pl n ≠ 0 ↔ ∃ k, k ∈ partsOf (D dim).mem (D dim).n (m : Int) ∧ ((D dim).mem k.toNat).sign ≠ 0 ∧ gwTo D (addS S dim) (pk k) e.pl n ≠ 0) := by
 have ht : Tr (D dim).mem (D dim).n := Tr.of ((allErr_right hE.right).2 dim hd)
 obtain ⟨j, hj, hjn, hjl⟩ := leaf_dim hE hd he
 have hne : j ≠ m := fun e => hP (by rw [← e]; exact leaf_parts hjl)
 have hfac : ∀ q : List Int, facS D (addS S dim) q e.pl dim = weightOf (D dim).mem (q.getD dim 0) (j : Int) := fun q => by unfold facS addS; rw [hj]; simp
 have hw : ∀ q : List Int, gwTo D (addS S dim) q e.pl n = grTo D (addS S dim) dim q e.pl n * weightOf (D dim).mem (q.getD dim 0) (j : Int) := fun q => by rw [gw_split D (addS S dim) dim q e.pl n, if_pos hd, hfac]
 obtain ⟨c, hc⟩ : ∃ c, grTo D (addS S dim) dim p e.pl n = c := ⟨_, rfl⟩
 have hwk : ∀ k, k ∈ partsOf (D dim).mem (D dim).n (m : Int) → gwTo D (addS S dim) (pk k) e.pl n = c * weightOf (D dim).mem k (j : Int) := fun k hk => by
  obtain ⟨h1, h2⟩ := hpk k hk
  rw [hw, h1, ← hc, gr_congr n h2]
 rw [hw, hp, hc]
 rcases part_cases ht hjn hne with ⟨h0, hz⟩ | ⟨k0, hk0, hp0, h0, hz⟩
 ·have hall : ∀ k, k ∈ partsOf (D dim).mem (D dim).n (m : Int) → gwTo D (addS S dim) (pk k) e.pl n = 0 := fun k hk => by
   obtain ⟨q, rfl, hq, hpq⟩ := selTo_mem k hk
   rw [hwk _ hk, hz q hq hpq, Int.mul_zero]
  rw [h0, Int.mul_zero]
  refine ⟨(sumP_zero fun k hk => by rw [hall k hk, Int.mul_zero]).symm, fun h => absurd rfl h, fun ⟨k, hk, _, h⟩ => absurd (hall k hk) h⟩
 ·have hk0m : (k0 : Int) ∈ partsOf (D dim).mem (D dim).n (m : Int) := sel_in hk0 hp0
  have hkz : ∀ q, q < (D dim).n → partB (D dim).mem (m : Int) q = true → q ≠ k0 → gwTo D (addS S dim) (pk (q : Int)) e.pl n = 0 := fun q hq hpq hqn => by rw [hwk _ (sel_in hq hpq), hz q hq hpq hqn, Int.mul_zero]
  have e1 : c * weightOf (D dim).mem (m : Int) (j : Int) = ((D dim).mem k0).sign * gwTo D (addS S dim) (pk (k0 : Int)) e.pl n := by rw [h0, hwk _ hk0m, ← Int.mul_assoc, Int.mul_comm c, Int.mul_assoc]
  rw [e1]
  refine ⟨?_, fun h => ⟨k0, hk0m, fun h1 => h (by rw [show ((k0 : Int)).toNat = k0 by omega] at h1; rw [h1, Int.zero_mul]), fun h1 => h (by rw [h1, Int.mul_zero])⟩, fun ⟨k, hk, hs, hg⟩ => ?_⟩
  ·have := sel_single (f := fun k => ((D dim).mem k.toNat).sign * gwTo D (addS S dim) (pk k) e.pl n) (D dim).n hk0 hp0 fun q hq hpq hqn => by rw [hkz q hq hpq hqn, Int.mul_zero]
   exact this.symm
  ·obtain ⟨q, rfl, hq, hpq⟩ := selTo_mem k hk
   by_cases e2 : q = k0
   ·subst e2
    rw [show ((q : Int)).toNat = q by omega] at hs
    exact Int.mul_ne_zero hs hg
   ·exact absurd (hkz q hq hpq e2) hg
end
theorem gN_parts {D : Nat → Dm} {n : Nat} {S : Nat → Bool} {p : List Int} {P : List Int} {sg : Int → Int} {pk : Int → List Int} : ∀ l : List En, (∀ e ∈ l, gwTo D S p e.pl n = sumP (fun k => sg k * gwTo D S (pk k) e.pl n) P) → gN D n S p l = sumP (fun k => sg k * gN D n S (pk k) l) P
 | [], _ => by
  rw [gN]
  exact (sumP_zero fun k _ => by rw [gN, Int.mul_zero]).symm
 | e :: r, h => by
  rw [gN, gN_parts r fun x hx => h x (List.mem_cons_of_mem _ hx), h e (List.mem_cons_self ..), ← sumP_mul, ← sumP_add]
  exact sumP_congr fun k _ => by rw [gN, Int.mul_add, Int.mul_assoc]

section
variable {D : Nat → Dm} {n dim : Nat} {l : List En} (hE : Ens D n l) (hd : dim < n) {S : Nat → Bool}
include hE hd
theorem gL_fix {m : Nat} : FixAt D n dim m (gL D n (addS S dim) l) := fun y hy hm hP => by
 rw [gL_len] at hy
 have hR := hE.right
 obtain ⟨-, -, hp3, hdn⟩ := allErr_some hR
 have hdk := (allErr_right hR).2 dim hd
 have hpos : ∀ i, i < n → 1 ≤ (D i).n := fun i hi => (hdn i hi).1
 have ht := Tr.of hdk
 have hsg := Sg.of hdk
 rw [gL_at hy]
 obtain ⟨pk, hpkd⟩ : ∃ pk : Int → List Int, pk = fun k => placeL D n (((y : Int) + (k - (m : Int)) * (stepD D n dim : Int)).toNat) := ⟨_, rfl⟩
 have hat : ∀ k, k ∈ partsOf (D dim).mem (D dim).n (m : Int) → atP D n dim m y (gL D n (addS S dim) l) k = gV D n (addS S dim) l (pk k) ∧ ((pk k).getD dim 0 = k ∧ ∀ i, i < n → i ≠ dim → (pk k).getD i 0 = (placeL D n y).getD i 0) := fun k hk => by
  obtain ⟨j, rfl, h1, h2, -⟩ := part_behind ht hk
  obtain ⟨z, hz, hzl, hzd, hzo⟩ := part_place hpos hd hy hm h2
  have e : pk (j : Int) = placeL D n z := by rw [hpkd]; simp only; rw [hz]; rfl
  rw [e]
  refine ⟨?_, ?_, fun i hi hne => ?_⟩
  ·unfold atP cAt
   rw [hz]
   exact gL_at hzl
  ·rw [placeL_at hd, digit_step hd, hzd]
  ·rw [placeL_at hi, placeL_at hi, hzo i hi hne]
 have hpd : (placeL D n y).getD dim 0 = (m : Int) := by rw [placeL_at hd, digit_step hd, hm]
 have hgp := fun e he => gw_parts (S := S) hE hd (e := e) he hpd hP pk fun k hk => (hat k hk).2
 unfold partsV
 rw [parts_same (g := fun k => gV D n (addS S dim) l (pk k)) _ _ fun k hk => (hat k hk).1]
 have hfew := hE.few
 have hPl : (partsOf (D dim).mem (D dim).n (m : Int)).length ≤ 12 := Nat.le_trans (selTo_len _ _) (hdn dim hd).2
 rw [parts_sum _ 0 0 (fun k hk => by obtain ⟨j, rfl, -, h2, -⟩ := part_behind ht hk; exact hsg j h2) (fun k _ => by
  have hb := gN_bound (D := D) (n := n) (addS S dim) (pk k) l hE.each
  refine ⟨?_, by unfold gV; simp only; omega, by unfold gV; simp only; omega⟩
  unfold gV
  simp only
  cases ha : l.any (gB D n (addS S dim) (pk k))
  ·right; exact ⟨by simp, gN_none ha⟩
  ·left; simp) (Or.inr ⟨rfl, rfl⟩) (by omega) (by omega)]
 unfold gV
 refine Prod.ext ?_ ?_
 ·simp only
  have : l.any (gB D n (addS S dim) (placeL D n y)) = (decide ((0 : Int) = 1) || (partsOf (D dim).mem (D dim).n (m : Int)).any (someP (D dim).mem fun k => (if l.any (gB D n (addS S dim) (pk k)) = true then 1 else 0, gN D n (addS S dim) (pk k) l))) := by
   rw [show decide ((0 : Int) = 1) = false from rfl, Bool.false_or, Bool.eq_iff_iff, List.any_eq_true, List.any_eq_true]
   constructor
   ·rintro ⟨e, he, hb⟩
    have hb' : gwTo D (addS S dim) (placeL D n y) e.pl n ≠ 0 := by unfold gB at hb; simpa using hb
    obtain ⟨k, hk, hs, hg⟩ := (hgp e he).2.1 hb'
    refine ⟨k, hk, ?_⟩
    unfold someP
    have : l.any (gB D n (addS S dim) (pk k)) = true := List.any_eq_true.2 ⟨e, he, by unfold gB; simpa using hg⟩
    simp [this, hs]
   ·rintro ⟨k, hk, hb⟩
    unfold someP at hb
    simp only [Bool.and_eq_true] at hb
    have hs : ((D dim).mem k.toNat).sign ≠ 0 := by simpa using hb.1
    have hany : l.any (gB D n (addS S dim) (pk k)) = true := by
     cases ha : l.any (gB D n (addS S dim) (pk k))
     ·rw [ha] at hb; simp at hb
     ·rfl
    obtain ⟨e, he, hg⟩ := List.any_eq_true.1 hany
    refine ⟨e, he, ?_⟩
    have := (hgp e he).2.2 ⟨k, hk, hs, by unfold gB at hg; simpa using hg⟩
    unfold gB
    simpa using this
  rw [this]
 ·simp only [Int.zero_add]
  exact gN_parts l fun e he => (hgp e he).1
end
end Go.Proofs.YtjffbmejobjmjafGreatDoor

