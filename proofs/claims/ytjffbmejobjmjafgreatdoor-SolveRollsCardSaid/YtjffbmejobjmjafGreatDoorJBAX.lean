/-
 Cells joined by an op; names, and where one of them is; what is wrong with names and cells: plain data.
 Names in a row, in memory; what check of package reckon answers: as many cells as names, each cell right, names that rise; where a name is among names that rise.
 Where a name is among names that rise: what slices.BinarySearch over strings and the closure of reckon.Value answer, called in whatever memory.
 What one and comes of package reckon answer: node by node what is told, by whoever tells what a name is.
-/
import Derived.Test.YtjffbmejobjmjafGreatDoorJBAN
import Derived.Sort.Walk0
import Derived.Test.YtjffbmejobjmjafGreatDoorJBAG
import Derived.Test.YtjffbmejobjmjafGreatDoorShelfG
import Derived.Laws.Cover1
import Derived.Test.YtjffbmejobjmjafGreatDoorJBAQ
namespace Go.Proofs.YtjffbmejobjmjafGreatDoor

def noS : ByteArray := ⟨#[]⟩
def okC (c : Int × Int) : Prop := good c.1 c.2 = true
theorem okC_no : okC noC := rfl
theorem okC_ofP (n : Int) : okC (ofP n) := by
 unfold okC ofP good
 split
 ·rename_i h; simp [h.1, h.2]
 ·simp
theorem okC_quo (x y : Int) : okC (quoP x y) := by
 unfold quoP
 split
 ·rfl
 ·exact okC_ofP _
theorem okC_join (b : Bool) (ka kb : Int) {r : Int × Int} (h : okC r) : okC (joinP b ka kb r) := by
 unfold joinP
 split
 ·rfl
 ·split
  ·rfl
  ·exact h
def opP (o : Int) (a b : Int × Int) : Int × Int := if o = 3 then plusP a.1 a.2 b.1 b.2 else if o = 4 then minusP a.1 a.2 b.1 b.2 else if o = 5 then timesP a.1 a.2 b.1 b.2 else overP a.1 a.2 b.1 b.2
theorem opP_ok (o : Int) (a b : Int × Int) : okC (opP o a b) := by
 unfold opP
 split
 ·exact okC_join _ _ _ (okC_ofP _)
 ·split
  ·exact okC_join _ _ _ (okC_ofP _)
  ·split
   ·exact okC_join _ _ _ (okC_ofP _)
   ·exact okC_join _ _ _ (okC_quo _ _)
def isS (N : List ByteArray) (s : ByteArray) (i : Nat) : Bool := decide (N.getD i noS = s)
def whereS (N : List ByteArray) (s : ByteArray) : Int := findFrom (isS N s) N.length 0
theorem where_cases (N : List ByteArray) (s : ByteArray) : (whereS N s = -1 ∧ ∀ j, j < N.length → N.getD j noS ≠ s) ∨ ∃ i : Nat, whereS N s = (i : Int) ∧ i < N.length ∧ N.getD i noS = s := by
 unfold whereS
 rcases findFrom_cases (isS N s) N.length 0 with ⟨h1, h2⟩ | ⟨m, h1, h2, h3, h4, h5⟩
 ·left
  refine ⟨h1, fun j hj => ?_⟩
  have := h2 j (Nat.zero_le _) (by omega)
  simpa [isS] using this
 ·right
  exact ⟨m, h1, by omega, of_decide_eq_true h4⟩

def downS (N : List ByteArray) (i : Nat) : Bool := Op.bytesLess (N.getD i noS).toList (N.getD (i - 1) noS).toList || (N.getD i noS).toList == (N.getD (i - 1) noS).toList
def ckErr (N : List ByteArray) (C : List (Int × Int)) : Int := if C.length ≠ N.length then 3 else if 0 ≤ findFrom (goodB C) C.length 0 then 1 else if 0 ≤ findFrom (downS N) (N.length - 1) 1 then 7 else 0
theorem ck_shape {N : List ByteArray} {C : List (Int × Int)} (h : C.length ≠ N.length) : ckErr N C = 3 := by unfold ckErr; rw [if_pos h]
theorem ck_cell {N : List ByteArray} {C : List (Int × Int)} (h : C.length = N.length) {i : Nat} (hi : i < C.length) (hb : goodB C i = true) : ckErr N C = 1 := by
 unfold ckErr
 rw [if_neg (by simpa using h)]
 rcases findFrom_cases (goodB C) C.length 0 with ⟨_, h5⟩ | ⟨m, e, _⟩
 ·rw [h5 i (Nat.zero_le _) (by omega)] at hb; cases hb
 ·rw [e, if_pos (by omega)]
theorem ck_down {N : List ByteArray} {C : List (Int × Int)} (h : C.length = N.length) (hg : ∀ j, j < C.length → goodB C j = false) {i : Nat} (h1 : 1 ≤ i) (hi : i < N.length) (hb : downS N i = true) : ckErr N C = 7 := by
 unfold ckErr
 rw [if_neg (by simpa using h), findFrom_none (fun j _ hj => hg j (by omega)), if_neg (by omega)]
 rcases findFrom_cases (downS N) (N.length - 1) 1 with ⟨_, h5⟩ | ⟨m, e, _⟩
 ·rw [h5 i h1 (by omega)] at hb; cases hb
 ·rw [e, if_pos (by omega)]
theorem ck_good {N : List ByteArray} {C : List (Int × Int)} (h : C.length = N.length) (hg : ∀ j, j < C.length → goodB C j = false) (hd : ∀ j, 1 ≤ j → j < N.length → downS N j = false) : ckErr N C = 0 := by
 unfold ckErr
 rw [if_neg (by simpa using h), findFrom_none (fun j _ hj => hg j (by omega)), if_neg (by omega), findFrom_none (fun j h1 hj => hd j h1 (by omega)), if_neg (by omega)]
theorem ck_right {N : List ByteArray} {C : List (Int × Int)} (h : ckErr N C = 0) : C.length = N.length ∧ (∀ j, j < C.length → goodB C j = false) ∧ ∀ j, 1 ≤ j → j < N.length → downS N j = false := by
 by_cases h1 : C.length = N.length
 ·refine ⟨h1, ?_⟩
  by_cases h2 : ∀ j, j < C.length → goodB C j = false
  ·refine ⟨h2, fun j hj1 hj => ?_⟩
   cases hd : downS N j
   ·rfl
   ·rw [ck_down h1 h2 hj1 hj hd] at h; cases h
  ·exfalso
   apply h2
   intro j hj
   cases hd : goodB C j
   ·rfl
   ·rw [ck_cell h1 hj hd] at h; cases h
 ·rw [ck_shape h1] at h; cases h
theorem ck_ok {N : List ByteArray} {C : List (Int × Int)} (h : ckErr N C = 0) : ∀ c ∈ C, okC c := by
 intro c hc
 obtain ⟨j, hj, rfl⟩ := List.getElem_of_mem hc
 have := (ck_right h).2.1 j hj
 unfold goodB at this
 rw [List.getD_eq_getElem?_getD, List.getElem?_eq_getElem hj] at this
 simpa [okC] using this

/-! names that rise -/
theorem down_not {N : List ByteArray} {i : Nat} (h : downS N i = false) : (N.getD (i - 1) noS).toList < (N.getD i noS).toList := by
 unfold downS at h
 rw [Bool.or_eq_false_iff, bytesLess_eq] at h
 have h1 := of_decide_eq_false h.1
 have h2 : (N.getD i noS).toList ≠ (N.getD (i - 1) noS).toList := by simpa using h.2
 rcases Std.lt_trichotomy (N.getD i noS).toList (N.getD (i - 1) noS).toList with h3 | h3 | h3
 ·exact absurd h3 h1
 ·exact absurd h3 h2
 ·exact h3
theorem rise_all {N : List ByteArray} (h : ∀ j, 1 ≤ j → j < N.length → downS N j = false) : ∀ i j, i < j → j < N.length → (N.getD i noS).toList < (N.getD j noS).toList := by
 intro i j hij
 induction j with
 | zero => omega
 | succ j ih =>
  intro hj
  have h1 := down_not (h (j + 1) (by omega) hj)
  by_cases e : i = j
  ·subst e; exact h1
  ·exact List.lt_trans (ih (by omega) (by omega)) h1
end Go.Proofs.YtjffbmejobjmjafGreatDoor

namespace Go.Proofs.YtjffbmejobjmjafGreatDoor
open Go.ChangeShapes Go.WideShapes Go.ChangeAt Go.RowKit
set_option maxRecDepth 20000

def NmV (w : World) (A : Option Addr) (c : Nat) (N : List ByteArray) : Prop := N.length ≤ c ∧ N.length < 4611686018427387904 ∧ c ≤ 9223372036854775807 ∧ (N = [] ∨ ∃ b o, A = some ⟨b, o, none⟩ ∧ b < w.heap.size ∧ ∀ j, j < N.length → w.cell? ⟨b, o + j, none⟩ = some (.string (N.getD j noS)))
theorem NmV.later {w w' : World} {A : Option Addr} {c : Nat} {N : List ByteArray} (h : NmV w A c N) (hB : Below w.heap.size w w') : NmV w' A c N := by
 obtain ⟨h1, h2, h3, h4 | ⟨b, o, h4, h5, h6⟩⟩ := h
 ·exact ⟨h1, h2, h3, Or.inl h4⟩
 ·exact ⟨h1, h2, h3, Or.inr ⟨b, o, h4, Nat.lt_of_lt_of_le h5 hB.size, fun j hj => (hB.cell (p := ⟨b, o + j, none⟩) h5).trans (h6 j hj)⟩⟩
set_option maxHeartbeats 4000000 in
theorem rkcheck_any (An : Option Addr) (cn : Nat) (N : List ByteArray) (Ac : Option Addr) (cc : Nat) (C : List (Int × Int)) (w : World) (hN : NmV w An cn N) (hC : CelV w Ac cc C) :
  Calls Tryz.prog 137 #[.slice An N.length cn, .slice Ac C.length cc] w fun e w' => e = .returned (errV (ckErr N C)) ∧ Below w.heap.size w w' := by
 by_cases hne : C.length = N.length
 case neg =>
  have hb : ((C.length : Int) != (N.length : Int)) = true := by simp; omega
  rw [ck_shape hne, errV_some (by decide)]
  clear hne hN hC
  go_enter Tryz.func137, Tryz.ntmps137
  go_wp2_with fail
  go_ret
  exact ⟨rfl, Below.refl _ _⟩
 obtain ⟨-, hN2, -, hN4⟩ := hN
 obtain ⟨-, -, hC3⟩ := hC
 obtain ⟨n, hn⟩ : ∃ n, N.length = n := ⟨_, rfl⟩
 have HNL : Hid (N.length = n) := hn
 have HCL : Hid (C.length = n) := hne.trans hn
 rw [hne, hn]
 rw [hn] at hN2 
 by_cases h0 : n = 0
 ·subst h0
  rw [ck_good (N := N) (C := C) hne (fun j hj => by have := HCL.out; omega) (fun j _ hj => by omega), errV_zero]
  clear hN4 hC3 hne hn hN2
  go_enter Tryz.func137, Tryz.ntmps137
  go_wp2_with fail
  refine wp_loop_rounds 1 ?_
  rw [rounds_succ]
  go_wp2_with fail
  refine wp_loop_rounds 1 ?_
  rw [rounds_succ]
  go_wp2_with fail
  go_ret
  exact ⟨rfl, Below.refl _ _⟩
 obtain ⟨b, o, rfl, hCA⟩ := hC3.resolve_left (fun e => by rw [e] at hne; simp at hne; omega)
 obtain ⟨bn, on, rfl, hNb, hNA⟩ := hN4.resolve_left (fun e => by rw [e] at hn; simp at hn; omega)
 have HC : Hid (CelAt w b o C) := hCA
 have HN : Hid (∀ j, j < N.length → w.cell? ⟨bn, on + j, none⟩ = some (.string (N.getD j noS))) := hNA
 have hni : (n : Int) < 4611686018427387904 := by omega
 have hn0 : 0 < (n : Int) := by omega
 clear hne hn hCA hNA hN2
 go_enter Tryz.func137, Tryz.ntmps137
 go_wp2_with fail
 go_loopg [17] n (fun g s17 wr => ∃ (k : Nat), k ≤ n ∧ g = n - k ∧ s17 = .int .i64 k ∧ (∀ j, j < k → goodB C j = false) ∧ Below w.heap.size w wr)
 case atStart => exact ⟨0, Nat.zero_le _, rfl, rfl, fun j hj => absurd hj (Nat.not_lt_zero j), Below.refl _ _⟩
 case round =>
  obtain ⟨k, hk, rfl, rfl, hbd, hBw⟩ := hrel
  have HBd : Hid (∀ j, j < k → goodB C j = false) := hbd
  have HW : Hid (Below w.heap.size w wr) := hBw
  have hbl : b < w.heap.size := HC.out.1
  have hsz := hBw.size
  clear hbd hBw
  by_cases hlt : k < n
  ·have hki : (k : Int) < (n : Int) := by omega
   obtain ⟨x0, x1⟩ := (HC.out.later HW.out).2 k (by rw [HCL.out]; exact hlt)
   have hck := check_any (C.getD k noC).1 (C.getD k noC).2
   obtain ⟨kk, hkk⟩ : ∃ kk, (C.getD k noC).1 = kk := ⟨_, rfl⟩
   obtain ⟨nn, hnn⟩ : ∃ nn, (C.getD k noC).2 = nn := ⟨_, rfl⟩
   have HG : Hid (goodB C k = !(good kk nn)) := by show _ = _; unfold goodB; rw [hkk, hnn]
   rw [hkk] at x0 hck
   rw [hnn] at x1 hck
   clear hkk hnn
   cases hg : good kk nn
   ·rw [hg] at hck
    have HF : Hid (ckErr N C = 1) := ck_cell (by rw [HCL.out, HNL.out]) (i := k) (by rw [HCL.out]; exact hlt) (by rw [HG.out, hg]; rfl)
    rw [if_neg (by decide)] at hck
    clear hg
    go_wp2_with fail
    refine (hck _).mono ?_
    rintro e w1 ⟨rfl, hb1⟩
    have HB1 : Hid (Below w.heap.size w w1) := onB HW.out (onB (by go_grown) hb1)
    clear hb1 hck
    go_wp2_with fail
    go_ret
    exact ⟨by rw [HF.out]; rfl, HB1.out⟩
   ·rw [hg, if_pos rfl] at hck
    have HGd : Hid (goodB C k = false) := by show _ = _; rw [HG.out, hg]; rfl
    clear hg
    go_wp2_with fail
    refine (hck _).mono ?_
    rintro e w1 ⟨rfl, hb1⟩
    have HB1 : Hid (Below w.heap.size w w1) := onB HW.out (onB (by go_grown) hb1)
    clear hb1 hck
    go_wp2_with fail
    go_roundg (n - (k + 1))
    case measure => omega
    case rel => exact ⟨k + 1, by omega, rfl, by go_num, fun j hj => by rcases Nat.lt_succ_iff_lt_or_eq.1 hj with h | h; exact HBd.out j h; rw [h]; exact HGd.out, HB1.out⟩
  ·have hke : k = n := by omega
   subst hke
   have HAll : Hid (∀ j, j < C.length → goodB C j = false) := fun j hj => HBd.out j (by have := HCL.out; omega)
   go_wp2_with fail
   go_loopg [8] k (fun g s8 ws => ∃ (i : Nat), i < k ∧ g = k - i ∧ s8 = .int .i64 ((i : Int) + 1) ∧ (∀ j, 1 ≤ j → j < i + 1 → downS N j = false) ∧ Below w.heap.size w ws)
   case atStart => exact ⟨0, by omega, rfl, rfl, fun j h1 h2 => by omega, HW.out⟩
   case round =>
    obtain ⟨i, hi, rfl, rfl, hbd, hBw⟩ := hrel
    have HDn : Hid (∀ j, 1 ≤ j → j < i + 1 → downS N j = false) := hbd
    have HV : Hid (Below w.heap.size w wr) := hBw
    clear hbd
    by_cases hlt2 : i + 1 < k
    ·have hki : (i : Int) + 1 < (k : Int) := by omega
     have c1 := (hBw.cell (p := ⟨bn, on + (i + 1), none⟩) hNb).trans (HN.out (i + 1) (by rw [HNL.out]; exact hlt2))
     have c0 := (hBw.cell (p := ⟨bn, on + i, none⟩) hNb).trans (HN.out i (by rw [HNL.out]; omega))
     obtain ⟨x, hx⟩ : ∃ x, N.getD (i + 1) noS = x := ⟨_, rfl⟩
     obtain ⟨y, hy⟩ : ∃ y, N.getD i noS = y := ⟨_, rfl⟩
     have HD : Hid (downS N (i + 1) = (Op.bytesLess x.toList y.toList || x.toList == y.toList)) := by show _ = _; unfold downS; rw [hx, Nat.add_sub_cancel, hy]
     rw [hx] at c1
     rw [hy] at c0
     have hsub : (i : Int) + 1 - 1 = (i : Int) := by omega
     have hto : ((i : Int) + 1).toNat = i + 1 := by omega
     clear hx hy hBw
     cases ht : (Op.bytesLess x.toList y.toList || x.toList == y.toList)
     ·have HDF : Hid (downS N (i + 1) = false) := by show _ = _; rw [HD.out, ht]
      clear HD
      go_wp2_with fail
      go_quiet (fail)
      have HB2 : Hid (Below w.heap.size w (wr.drewN nq)) := below_drewN HV.out _
      go_wp2_with fail
      go_roundg (k - (i + 1))
      case measure => omega
      case rel => exact ⟨i + 1, hlt2, rfl, by go_num, fun j h1 hj => by rcases Nat.lt_succ_iff_lt_or_eq.1 hj with h | h; exact HDn.out j h1 h; rw [h]; exact HDF.out, HB2.out⟩
     ·have HF : Hid (ckErr N C = 7) := ck_down (by rw [HCL.out, HNL.out]) HAll.out (i := i + 1) (by omega) (by rw [HNL.out]; exact hlt2) (by rw [HD.out, ht])
      clear HD
      go_wp2_with fail
      go_quiet (fail)
      have HB2 : Hid (Below w.heap.size w (wr.drewN nq)) := below_drewN HV.out _
      go_wp2_with fail
      go_ret
      exact ⟨by rw [HF.out]; rfl, HB2.out⟩
    ·have hie : k = i + 1 := by omega
     have HF : Hid (ckErr N C = 0) := ck_good (by rw [HCL.out, HNL.out]) HAll.out (fun j h1 hj => HDn.out j h1 (by have := HNL.out; omega))
     have hki : ¬ (i : Int) + 1 < (k : Int) := by omega
     clear hie
     go_wp2_with fail
     go_ret
     exact ⟨by rw [HF.out]; rfl, HV.out⟩
end Go.Proofs.YtjffbmejobjmjafGreatDoor

namespace Go.Proofs.YtjffbmejobjmjafGreatDoor
open Go.ChangeShapes Go.WideShapes Go.ChangeAt Go.RowKit
set_option maxRecDepth 20000

theorem first_false (p : Nat → Bool) : ∀ n, p n = false → ∃ k, k ≤ n ∧ p k = false ∧ ∀ t, t < k → p t = true := by
 intro n
 induction n with
 | zero => intro h; exact ⟨0, Nat.le_refl _, h, fun t ht => absurd ht (Nat.not_lt_zero _)⟩
 | succ n ih =>
  intro h
  by_cases e : ∃ j, j ≤ n ∧ p j = false
  ·obtain ⟨j, hj, h1⟩ := e
   clear ih
   have hw : ∀ m j, j ≤ m → p j = false → ∃ k, k ≤ j ∧ p k = false ∧ ∀ t, t < k → p t = true := by
    intro m
    induction m with
    | zero => intro j hj h1; exact ⟨j, Nat.le_refl _, h1, fun t ht => by omega⟩
    | succ m ih =>
     intro j hj h1
     by_cases e2 : ∃ i, i < j ∧ p i = false
     ·obtain ⟨i, hi, h2⟩ := e2
      obtain ⟨k, h3, h4, h5⟩ := ih i (by omega) h2
      exact ⟨k, by omega, h4, h5⟩
     ·refine ⟨j, Nat.le_refl _, h1, fun t ht => ?_⟩
      cases hp : p t
      ·exact absurd ⟨t, ht, hp⟩ e2
      ·rfl
   obtain ⟨k, h2, h3, h4⟩ := hw j j (Nat.le_refl _) h1
   exact ⟨k, by omega, h3, h4⟩
  ·refine ⟨n + 1, Nat.le_refl _, h, fun t ht => ?_⟩
   cases hp : p t
   ·exact absurd ⟨t, by omega, hp⟩ e
   ·rfl
theorem not_less (x : ByteArray) : Op.bytesLess x.toList x.toList = false := by
 rw [bytesLess_eq]
 exact decide_eq_false (List.lt_irrefl _)
theorem bs_where {N : List ByteArray} (hr : ∀ j, 1 ≤ j → j < N.length → downS N j = false) (x : ByteArray) (S : Nat → ByteArray) (hS : S = fun j => if j < N.length then N.getD j noS else x) :
  (decide (Lib.bsGo (fun t => Op.bytesLess (S t).toList x.toList) N.length 0 N.length < N.length ∧ S (Lib.bsGo (fun t => Op.bytesLess (S t).toList x.toList) N.length 0 N.length) = x) = decide (0 ≤ whereS N x)) ∧
  (0 ≤ whereS N x → (Lib.bsGo (fun t => Op.bytesLess (S t).toList x.toList) N.length 0 N.length : Int) = whereS N x) := by
 have hup := rise_all hr
 have s1 : ∀ j, j < N.length → S j = N.getD j noS := fun j hj => by rw [hS]; exact if_pos hj
 have s2 : ∀ j, N.length ≤ j → S j = x := fun j hj => by rw [hS]; exact if_neg (by omega)
 obtain ⟨k, hk, h1, h2⟩ := first_false (fun t => Op.bytesLess (S t).toList x.toList) N.length (by show Op.bytesLess (S N.length).toList x.toList = false; rw [s2 _ (Nat.le_refl _)]; exact not_less x)
 have h1' : Op.bytesLess (S k).toList x.toList = false := h1
 have h2' : ∀ t, t < k → Op.bytesLess (S t).toList x.toList = true := h2
 have h3 : ∀ t, k ≤ t → Op.bytesLess (S t).toList x.toList = false := by
  intro t ht
  by_cases e : N.length ≤ t
  ·rw [s2 t e]; exact not_less x
  ·by_cases e2 : t = k
   ·rw [e2]; exact h1'
   ·rw [s1 t (by omega), bytesLess_eq]
    rw [s1 k (by omega), bytesLess_eq] at h1'
    refine decide_eq_false fun h => of_decide_eq_false h1' (List.lt_trans (hup k t (by omega) (by omega)) h)
 have hbs : Lib.bsGo (fun t => Op.bytesLess (S t).toList x.toList) N.length 0 N.length = k := Lib.bsGo_spec _ k h2 h3 _ _ _ (by omega) (Nat.zero_le _) hk
 rw [hbs]
 rcases where_cases N x with ⟨hw, hn⟩ | ⟨i, hw, hi, he⟩
 ·refine ⟨?_, fun h => by omega⟩
  rw [hw, decide_eq_false (show ¬ (0 : Int) ≤ -1 by omega)]
  refine decide_eq_false fun h => ?_
  rw [s1 k h.1] at h
  exact hn k h.1 h.2
 ·have hki : k = i := by
   have hle : k ≤ i := by
    apply Nat.le_of_not_lt
    intro h
    have := h2' i h
    rw [s1 i hi, he, not_less] at this
    cases this
   by_cases e : k = i
   ·exact e
   ·have hlt := hup k i (by omega) hi
    rw [s1 k (by omega), bytesLess_eq] at h1'
    rw [he] at hlt
    exact absurd hlt (of_decide_eq_false h1')
  subst hki
  refine ⟨?_, fun _ => hw.symm⟩
  rw [hw, decide_eq_true (show (0 : Int) ≤ (k : Int) by omega)]
  exact decide_eq_true ⟨hi, by rw [s1 k hi]; exact he⟩
theorem bsearch_any (An : Option Addr) (cn : Nat) (N : List ByteArray) (x : ByteArray) (w : World) (hN : NmV w An cn N) (hr : ∀ j, 1 ≤ j → j < N.length → downS N j = false) :
  Calls Tryz.prog 140 #[.slice An N.length cn, .string x] w fun e w' => (∃ i : Nat, e = .returned (.tuple #[.int .i64 i, .bool (decide (0 ≤ whereS N x))]) ∧ (0 ≤ whereS N x → (i : Int) = whereS N x)) ∧ Below w.heap.size w w' := by
 obtain ⟨h1, h2, h3, h4 | ⟨b, o, rfl, h5, h6⟩⟩ := hN
 ·subst h4
  refine (Any2.slices_BinarySearch_string_empty Tryz.lays26 An cn x w).mono ?_
  rintro e w' ⟨rfl, rfl⟩
  exact ⟨⟨0, rfl, fun h => absurd h (by show ¬ (0 : Int) ≤ whereS [] x; unfold whereS; show ¬ (0 : Int) ≤ -1; omega)⟩, Below.refl _ _⟩
 ·obtain ⟨e1, e2⟩ := bs_where hr x (fun j => if j < N.length then N.getD j noS else x) rfl
  refine (Any2.slices_BinarySearch_string Tryz.lays26 b o N.length cn (fun j => if j < N.length then N.getD j noS else x) x w h2 (fun j hj => by simp only [if_pos hj]; exact h6 j hj)).mono ?_
  rintro e w' ⟨rfl, q, rfl⟩
  exact ⟨⟨_, by rw [e1], e2⟩, below_drewN (Below.refl _ _) _⟩

def isC (N : List ByteArray) (C : List (Int × Int)) (x : ByteArray) : Int × Int := if 0 ≤ whereS N x then C.getD (whereS N x).toNat noC else noC
def isE (N : List ByteArray) (x : ByteArray) : Int := if 0 ≤ whereS N x then 0 else 5

set_option maxHeartbeats 1000000 in
theorem value1_any (q r : Nat) (An : Option Addr) (cn : Nat) (N : List ByteArray) (Ac : Option Addr) (cc : Nat) (C : List (Int × Int)) (x : ByteArray) (w : World) (hq : w.cell? ⟨q, 0, none⟩ = some (.slice An N.length cn)) (hrr : w.cell? ⟨r, 0, none⟩ = some (.slice Ac C.length cc)) (hN : NmV w An cn N) (hC : CelV w Ac cc C) (hck : ckErr N C = 0) :
  Calls Tryz.prog 139 #[.string x, .pointer (some ⟨q, 0, none⟩), .pointer (some ⟨r, 0, none⟩)] w fun e w' => e = .returned (.tuple #[.agg #[.int .i64 (isC N C x).1, .int .i64 (isC N C x).2], errV (isE N x)]) ∧ Below w.heap.size w w' := by
 obtain ⟨hlen, -, hr⟩ := ck_right hck
 have hbs := fun w' (hb : Below w.heap.size w w') => bsearch_any An cn N x w' (hN.later hb) hr
 have hrl := World.block_lt_of_cell? _ _ hrr
 have hql := World.block_lt_of_cell? _ _ hq
 simp only at hrl hql
 by_cases h0 : 0 ≤ whereS N x
 ·rw [decide_eq_true h0] at hbs
  obtain ⟨i, hi, hil, -⟩ : ∃ i : Nat, whereS N x = (i : Int) ∧ i < N.length ∧ N.getD i noS = x := by
   rcases where_cases N x with ⟨hw, -⟩ | h
   ·omega
   ·exact h
  obtain ⟨-, -, hC3⟩ := hC
  obtain ⟨b, o, rfl, hCA⟩ := hC3.resolve_left (fun e => by rw [e] at hlen; simp at hlen; omega)
  obtain ⟨c, hc⟩ : ∃ c, C.getD i noC = c := ⟨_, rfl⟩
  have hic : isC N C x = c := by unfold isC; rw [if_pos h0, hi]; exact hc
  have hie : isE N x = 0 := by unfold isE; rw [if_pos h0]
  have HC : Hid (CelAt w b o C) := hCA
  have HI : Hid (∀ j : Nat, (0 ≤ whereS N x → (j : Int) = whereS N x) → j = i) := fun j hj => by have := hj h0; omega
  have HCc : Hid (C.getD i noC = c) := hc
  have hil' : (i : Int) < (C.length : Int) := by omega
  rw [hic, hie, errV_zero]
  obtain ⟨m, hm⟩ : ∃ m, C.length = m := ⟨_, rfl⟩
  have HM : Hid (C.length = m) := hm
  rw [hm] at hrr hil'
  clear hck hN hr hi hic hie hC3 hCA h0 hc hm hil hlen
  go_enter Tryz.func139, Tryz.ntmps139
  go_wp2_with fail
  refine (hbs _ (by go_grown)).mono ?_
  rintro e w1 ⟨⟨j, rfl, hj⟩, hb⟩
  have hji := HI.out j hj
  subst hji
  obtain ⟨hbc, hbf⟩ := bcell hb
  have hz := bsize hb
  simp at hz
  have hb1 : Below w.heap.size w w1 := onB (by go_grown) hb
  clear hb
  obtain ⟨c0, c1⟩ := HC.out.2 j (by rw [HM.out]; omega)
  rw [HCc.out] at c0 c1
  have HB1 : Hid (Below w.heap.size w w1) := hb1
  have hbl : b < w.heap.size := HC.out.1
  clear hb1 hbs hq hj
  go_wp2_with fail
  refine bodyPost_ret (v := .tuple #[.agg #[.int .i64 c.1, .int .i64 c.2], .nilIface]) (by simp [results, Tryz.results139, go_sem, hbc]) rfl ⟨rfl, ?_⟩
  exact ((HB1.out.setCell (Nat.le_refl _) _).setCell (Nat.le_refl _) _)
 ·rw [decide_eq_false h0] at hbs
  have hic : isC N C x = noC := by unfold isC; rw [if_neg h0]
  have hie : isE N x = 5 := by unfold isE; rw [if_neg h0]
  rw [hic, hie, errV_some (by decide)]
  unfold noC
  clear hck hN hr hic hie hC hlen
  go_enter Tryz.func139, Tryz.ntmps139
  go_wp2_with fail
  refine (hbs _ (by go_grown)).mono ?_
  rintro e w1 ⟨⟨j, rfl, hj⟩, hb⟩
  obtain ⟨hbc, hbf⟩ := bcell hb
  have hz := bsize hb
  simp at hz
  have hb1 : Below w.heap.size w w1 := onB (by go_grown) hb
  have HB1 : Hid (Below w.heap.size w w1) := hb1
  clear hb hb1 hbs hq hj h0
  go_wp2_with fail
  refine bodyPost_ret (v := .tuple #[.agg #[.int .i64 0, .int .i64 0], .iface 65 (.int .i64 5)]) (by simp [results, Tryz.results139, go_sem, hbc]) rfl ⟨rfl, ?_⟩
  first | exact HB1.out | exact ((HB1.out.setCell (Nat.le_refl _) _).setCell (Nat.le_refl _) _)
end Go.Proofs.YtjffbmejobjmjafGreatDoor

namespace Go.Proofs.YtjffbmejobjmjafGreatDoor
open Go.ChangeShapes Go.WideShapes Go.ChangeAt Go.RowKit
set_option maxRecDepth 20000

def AskN (fn q r : Nat) (w : World) (N : List ByteArray) (C : List (Int × Int)) : Prop := ∀ (x : ByteArray) (w' : World), Below w.heap.size w w' → Calls Tryz.prog fn #[.string x, .pointer (some ⟨q, 0, none⟩), .pointer (some ⟨r, 0, none⟩)] w' fun e w'' => e = .returned (.tuple #[.agg #[.int .i64 (isC N C x).1, .int .i64 (isC N C x).2], errV (isE N x)]) ∧ Below w'.heap.size w' w''
def oneC (N : List ByteArray) (C T : List (Int × Int)) (x : Nd) : Int × Int := if x.op = 1 then ofP x.n else if x.op = 2 then isC N C x.name else opP x.op (T.getD x.left.toNat noC) (T.getD x.right.toNat noC)
def oneE (N : List ByteArray) (x : Nd) : Int := if x.op = 2 then isE N x.name else 0
theorem one_numK {N : List ByteArray} {C T : List (Int × Int)} {x : Nd} (h : x.op = 1) : oneC N C T x = ofP x.n ∧ oneE N x = 0 := by unfold oneC oneE; rw [if_pos h, if_neg (by omega)]; exact ⟨rfl, rfl⟩
theorem one_ref {N : List ByteArray} {C T : List (Int × Int)} {x : Nd} (h : x.op = 2) : oneC N C T x = isC N C x.name ∧ oneE N x = isE N x.name := by unfold oneC oneE; rw [if_neg (by omega), if_pos h, if_pos h]; exact ⟨rfl, rfl⟩
theorem one_bin {N : List ByteArray} {C T : List (Int × Int)} {x : Nd} (h : 2 < x.op) : oneC N C T x = opP x.op (T.getD x.left.toNat noC) (T.getD x.right.toNat noC) ∧ oneE N x = 0 := by unfold oneC oneE; rw [if_neg (by omega), if_neg (by omega), if_neg (by omega)]; exact ⟨rfl, rfl⟩
theorem op_yes {o : Int} {a b : Int × Int} (ha : okC a) (hb : okC b) : (o = 3 → OpTo 142 a.1 a.2 b.1 b.2 (opP o a b).1 (opP o a b).2 .nilIface) ∧ (o = 4 → OpTo 141 a.1 a.2 b.1 b.2 (opP o a b).1 (opP o a b).2 .nilIface) ∧ (o = 5 → OpTo 201 a.1 a.2 b.1 b.2 (opP o a b).1 (opP o a b).2 .nilIface) ∧ (o = 6 → OpTo 202 a.1 a.2 b.1 b.2 (opP o a b).1 (opP o a b).2 .nilIface) := by
 refine ⟨?_, ?_, ?_, ?_⟩ <;> rintro rfl
 ·exact add_yes _ _ _ _ ha hb
 ·exact sub_yes _ _ _ _ ha hb
 ·exact mul_yes _ _ _ _ ha hb
 ·exact div_yes _ _ _ _ ha hb
theorem cel_ok {T : List (Int × Int)} (hT : ∀ c ∈ T, okC c) (i : Nat) : okC (T.getD i noC) := by
 rw [List.getD_eq_getElem?_getD]
 cases h : T[i]? with
 | none => exact okC_no
 | some c => exact hT c (List.mem_of_getElem? h)

set_option maxHeartbeats 4000000 in
theorem rkone_any (fn q r : Nat) (hent : ∀ (args : Array Value) (w : World), (callFunc fn args).run Tryz.prog w = .ok (.enter fn args) w) (N : List ByteArray) (C T : List (Int × Int)) (At : Option Addr) (ct : Nat) (x : Nd) (w : World) (hx : ndErr x T.length = 0) (hn : T.length ≤ 30) (hT : CelV w At ct T) (hok : ∀ c ∈ T, okC c) (hask : AskN fn q r w N C) :
  Calls Tryz.prog 170 #[ndV x, .slice At T.length ct, .func (.func fn) #[] #[.pointer (some ⟨q, 0, none⟩), .pointer (some ⟨r, 0, none⟩)]] w fun e w' => e = .returned (.tuple #[.agg #[.int .i64 (oneC N C T x).1, .int .i64 (oneC N C T x).2], errV (oneE N x)]) ∧ Below w.heap.size w w' := by
 rw [ndV_def]
 have ho : 1 ≤ x.op ∧ x.op ≤ 6 := by
  unfold ndErr at hx
  split at hx
  ·cases hx
  ·omega
 by_cases h1 : x.op = 1
 ·obtain ⟨e1, e2⟩ := one_numK (N := N) (C := C) (T := T) h1
  rw [e1, e2, errV_zero, h1]
  have hof := of_any x.n
  clear hx hT hask e1 e2 h1
  go_enter Tryz.func170, Tryz.ntmps170
  go_wp2_with fail
  refine (hof _).mono ?_
  rintro e w1 ⟨rfl, hb⟩
  obtain ⟨hbc, hbf⟩ := bcell hb
  have hz := bsize hb
  simp at hz
  have hb1 : Below w.heap.size w w1 := onB (by go_grown) hb
  have HB1 : Hid (Below w.heap.size w w1) := hb1
  clear hb hb1 hof
  go_wp2_with fail
  refine bodyPost_ret (v := .tuple #[.agg #[.int .i64 (ofP x.n).1, .int .i64 (ofP x.n).2], .nilIface]) (by simp [results, Tryz.results170, go_sem, hbc]) rfl ⟨rfl, ?_⟩
  exact ((HB1.out.setCell (by simp) _).setCell (by simp) _)
 by_cases h2 : x.op = 2
 ·obtain ⟨e1, e2⟩ := one_ref (N := N) (C := C) (T := T) h2
  rw [e1, e2, h2]
  have has := hask x.name
  obtain ⟨c, hc⟩ : ∃ c, isC N C x.name = c := ⟨_, rfl⟩
  obtain ⟨er, her⟩ : ∃ er, errV (isE N x.name) = er := ⟨_, rfl⟩
  rw [hc, her] at has
  rw [hc, her]
  clear hx hT hask e1 e2 h2 hc her
  go_enter Tryz.func170, Tryz.ntmps170
  go_wp2_with fail
  refine (has _ (by go_grown)).mono ?_
  rintro e w1 ⟨rfl, hb⟩
  obtain ⟨hbc, hbf⟩ := bcell hb
  have hz := bsize hb
  simp at hz
  have hb1 : Below w.heap.size w w1 := onB (by go_grown) hb
  have HB1 : Hid (Below w.heap.size w w1) := hb1
  clear hb hb1 has
  go_wp2_with fail
  refine bodyPost_ret (v := .tuple #[.agg #[.int .i64 c.1, .int .i64 c.2], er]) (by simp [results, Tryz.results170, go_sem, hbc]) rfl ⟨rfl, ?_⟩
  exact ((HB1.out.setCell (by simp) _).setCell (by simp) _)
 obtain ⟨e1, e2⟩ := one_bin (N := N) (C := C) (T := T) (x := x) (by omega)
 obtain ⟨a1, a2, a3, a4⟩ := nd_sides hx (by omega)
 obtain ⟨a, ha⟩ : ∃ a : Nat, x.left = a := ⟨x.left.toNat, by omega⟩
 obtain ⟨c, hc⟩ : ∃ c : Nat, x.right = c := ⟨x.right.toNat, by omega⟩
 rw [e1, e2, errV_zero, ha, hc, Int.toNat_natCast, Int.toNat_natCast]
 obtain ⟨-, -, hT3⟩ := hT
 obtain ⟨b, o, rfl, hTA⟩ := hT3.resolve_left (fun e => by rw [e] at a2; simp at a2; omega)
 obtain ⟨p3, p4, p5, p6⟩ := op_yes (o := x.op) (cel_ok hok a) (cel_ok hok c)
 obtain ⟨y0, y1⟩ := hTA.2 a (by omega)
 obtain ⟨z0, z1⟩ := hTA.2 c (by omega)
 have hbl := hTA.1
 obtain ⟨u, hu⟩ : ∃ u, T.getD a noC = u := ⟨_, rfl⟩
 obtain ⟨v, hv⟩ : ∃ v, T.getD c noC = v := ⟨_, rfl⟩
 rw [hu] at y0 y1 p3 p4 p5 p6 ⊢
 rw [hv] at z0 z1 p3 p4 p5 p6 ⊢
 obtain ⟨ov, hov⟩ : ∃ ov, x.op = ov := ⟨_, rfl⟩
 rw [hov] at p3 p4 p5 p6 ho h1 h2 ⊢
 obtain ⟨t, ht⟩ : ∃ t, opP ov u v = t := ⟨_, rfl⟩
 rw [ht] at p3 p4 p5 p6 ⊢
 unfold OpTo at p3 p4 p5 p6
 obtain ⟨m, hm⟩ : ∃ m, T.length = m := ⟨_, rfl⟩
 rw [hm] at hn a2 a4 ⊢
 have hai : (a : Int) < (m : Int) := by omega
 have hci : (c : Int) < (m : Int) := by omega
 have hmi : (m : Int) ≤ 30 := by omega
 have hovc : ov = 3 ∨ ov = 4 ∨ ov = 5 ∨ ov = 6 := by omega
 clear hx hask e1 e2 h1 h2 hu hv ht hTA hT3 hok ho hov a1 a3
 rcases hovc with rfl | rfl | rfl | rfl
 ·have hp := p3 rfl
  clear p3 p4 p5 p6
  go_enter Tryz.func170, Tryz.ntmps170
  go_wp2_with fail
  go_region_law ((go_simp; refine (hp _).mono ?_; rintro e w1 ⟨rfl, hb⟩; obtain ⟨hbc, hbf⟩ := bcell hb; have hz := bsize hb; simp at hz; have HB1 : Hid (Below w.heap.size w w1) := (onB (by go_grown) hb); clear hb))
  all_goals
   go_wp2_with fail
   refine bodyPost_ret (v := .tuple #[.agg #[.int .i64 t.1, .int .i64 t.2], .nilIface]) (by simp [results, Tryz.results170, go_sem, hbc]) rfl ⟨rfl, ?_⟩
   exact ((HB1.out.setCell (by simp) _).setCell (by simp) _)
 ·have hp := p4 rfl
  clear p3 p4 p5 p6
  go_enter Tryz.func170, Tryz.ntmps170
  go_wp2_with fail
  go_region_law ((go_simp; refine (hp _).mono ?_; rintro e w1 ⟨rfl, hb⟩; obtain ⟨hbc, hbf⟩ := bcell hb; have hz := bsize hb; simp at hz; have HB1 : Hid (Below w.heap.size w w1) := (onB (by go_grown) hb); clear hb))
  all_goals
   go_wp2_with fail
   refine bodyPost_ret (v := .tuple #[.agg #[.int .i64 t.1, .int .i64 t.2], .nilIface]) (by simp [results, Tryz.results170, go_sem, hbc]) rfl ⟨rfl, ?_⟩
   exact ((HB1.out.setCell (by simp) _).setCell (by simp) _)
 ·have hp := p5 rfl
  clear p3 p4 p5 p6
  go_enter Tryz.func170, Tryz.ntmps170
  go_wp2_with fail
  go_region_law ((go_simp; refine (hp _).mono ?_; rintro e w1 ⟨rfl, hb⟩; obtain ⟨hbc, hbf⟩ := bcell hb; have hz := bsize hb; simp at hz; have HB1 : Hid (Below w.heap.size w w1) := (onB (by go_grown) hb); clear hb))
  all_goals
   go_wp2_with fail
   refine bodyPost_ret (v := .tuple #[.agg #[.int .i64 t.1, .int .i64 t.2], .nilIface]) (by simp [results, Tryz.results170, go_sem, hbc]) rfl ⟨rfl, ?_⟩
   exact ((HB1.out.setCell (by simp) _).setCell (by simp) _)
 ·have hp := p6 rfl
  clear p3 p4 p5 p6
  go_enter Tryz.func170, Tryz.ntmps170
  go_wp2_with fail
  go_region_law ((go_simp; refine (hp _).mono ?_; rintro e w1 ⟨rfl, hb⟩; obtain ⟨hbc, hbf⟩ := bcell hb; have hz := bsize hb; simp at hz; have HB1 : Hid (Below w.heap.size w w1) := (onB (by go_grown) hb); clear hb))
  all_goals
   go_wp2_with fail
   refine bodyPost_ret (v := .tuple #[.agg #[.int .i64 t.1, .int .i64 t.2], .nilIface]) (by simp [results, Tryz.results170, go_sem, hbc]) rfl ⟨rfl, ?_⟩
   exact ((HB1.out.setCell (by simp) _).setCell (by simp) _)
end Go.Proofs.YtjffbmejobjmjafGreatDoor

