/-
  The walk of tallylaw1.PlaceBack: each place has its number, each number its place; places are read as they were written: it returns true for every outline, place, number and text.
-/
import Derived.Test.YtckjjmljpbibkabDoorPl5
import Derived.Test.YtckjjmljpbibkabDoorPl7
import Derived.Deep.CutBlock
namespace Go.Proofs.YtckjjmljpbibkabDoor
open Go.ChangeShapes Go.WideShapes Go.ChangeAt Go.RowKit
set_option maxRecDepth 20000

set_option maxHeartbeats 1000000 in
theorem sameplace_any (A B : Option Addr) (ca cb : Nat) (L : List Int) (w : World) (hn : L.length ≤ 4) (hA : PlAt w A ca L) (hB : PlAt w B cb L) : Calls Tryd.prog 33 #[.slice A L.length ca, .slice B L.length cb] w fun e w' => e = .returned (.bool true) ∧ Below w.heap.size w w' := by
  obtain ⟨hc, h0 | ⟨b, o, rfl, hbw, hcell⟩⟩ := hA
  · subst h0
    simp only [List.length_nil]
    go_enter Tryd.func33, Tryd.ntmps33
    go_wp2_with fail
    refine wp_loop_rounds 1 ?_
    rw [rounds_succ]
    go_wp2_with fail
    go_ret
    exact ⟨rfl, Below.refl _ _⟩
  · obtain ⟨hc', h0 | ⟨b', o', rfl, hbw', hcell'⟩⟩ := hB
    · subst h0
      simp only [List.length_nil]
      go_enter Tryd.func33, Tryd.ntmps33
      go_wp2_with fail
      refine wp_loop_rounds 1 ?_
      rw [rounds_succ]
      go_wp2_with fail
      go_ret
      exact ⟨rfl, Below.refl _ _⟩
    · have HC : Hid (∀ j, j < L.length → w.cell? ⟨b, o + j, none⟩ = some (.int .i64 (L.getD j 0))) := hcell
      have HC' : Hid (∀ j, j < L.length → w.cell? ⟨b', o' + j, none⟩ = some (.int .i64 (L.getD j 0))) := hcell'
      generalize hnn : L.length = n at hn hc hc' HC HC'
      clear hcell hcell' hnn
      have hn' : (n : Int) ≤ 4 := by omega
      go_enter Tryd.func33, Tryd.ntmps33
      go_wp2_with fail
      go_loopg [5] n (fun g s5 wr => ∃ (k : Nat), k ≤ n ∧ g = n - k ∧ s5 = .int .i64 k ∧ Below w.heap.size w wr)
      case atStart => exact ⟨0, Nat.zero_le _, rfl, rfl, Below.refl _ _⟩
      case round =>
        obtain ⟨k, hk, rfl, rfl, hBw⟩ := hrel
        have HBw : Hid (Below w.heap.size w wr) := hBw
        by_cases hlt : k < n
        · have hki : (k : Int) < (n : Int) := by omega
          have x1 := (hBw.cell (p := ⟨b, o + k, none⟩) hbw).trans (HC.out k hlt)
          have x2 := (hBw.cell (p := ⟨b', o' + k, none⟩) hbw').trans (HC'.out k hlt)
          generalize L.getD k 0 = x at x1 x2
          clear hBw
          go_wp2_with fail
          go_quiet (fail)
          go_wp2_with fail
          go_roundg (n - (k + 1))
          case measure => omega
          case rel => exact ⟨k + 1, by omega, rfl, by go_num, below_drewN HBw.out _⟩
        · have hke : k = n := by omega
          subst hke
          go_wp2_with fail
          go_ret
          exact ⟨rfl, hBw⟩

def bkM (i : Nat) : Mem := if i = 0 then ⟨⟨#[98]⟩, -1, 0, ⟨#[]⟩⟩ else ⟨⟨#[99]⟩, -1, 0, ⟨#[]⟩⟩
def bkD (_ : Nat) : Dm := ⟨⟨#[97]⟩, 0, 2, bkM⟩
theorem bk_read : parseErr bkD 1 ⟨#[99]⟩ = 0 ∧ parseL bkD 1 ⟨#[99]⟩ = [1] := by decide +kernel

def bkW (w : World) (A0 : Option Addr) (n cap : Nat) : World := (((ownOut w A0 n cap 50).alloc (.cells #[.string ⟨#[98]⟩, .int .i64 (-1), .int .i64 0, .string ⟨#[]⟩, .string ⟨#[99]⟩, .int .i64 (-1), .int .i64 0, .string ⟨#[]⟩] 31)).alloc (.cells #[.string ⟨#[97]⟩, .int .i64 0, .slice (some ⟨w.heap.size + 1, 0, none⟩) 2 2] 24)).alloc (.cells #[.slice (some ⟨w.heap.size + 1 + 1, 0, none⟩) 1 1] 50)
theorem bkW_size (w : World) (A0 : Option Addr) (n cap : Nat) : (bkW w A0 n cap).heap.size = w.heap.size + 4 := by unfold bkW; simp [ownOut_size]
theorem bkW_below (w : World) (A0 : Option Addr) (n cap : Nat) : Below w.heap.size w (bkW w A0 n cap) := by unfold bkW ownOut; go_grown
theorem bkW_at (w : World) (A0 : Option Addr) (n cap : Nat) : (bkW w A0 n cap).cell? ⟨w.heap.size, 0, none⟩ = some (.slice A0 n cap) := by
  unfold bkW
  rw [World.cell?_alloc_lt _ _ ⟨w.heap.size, 0, none⟩ (by simp [ownOut_size] <;> omega), World.cell?_alloc_lt _ _ ⟨w.heap.size, 0, none⟩ (by simp [ownOut_size] <;> omega), World.cell?_alloc_lt _ _ ⟨w.heap.size, 0, none⟩ (by simp [ownOut_size])]
  exact ownOut_at ..
theorem bkW_mem (w : World) (A0 : Option Addr) (n cap j : Nat) (v : Value) (h : (#[.string ⟨#[98]⟩, .int .i64 (-1), .int .i64 0, .string ⟨#[]⟩, .string ⟨#[99]⟩, .int .i64 (-1), .int .i64 0, .string ⟨#[]⟩] : Array Value)[j]? = some v) : (bkW w A0 n cap).cell? ⟨w.heap.size + 1, j, none⟩ = some v := by
  unfold bkW
  rw [World.cell?_alloc_lt _ _ ⟨w.heap.size + 1, j, none⟩ (by simp [ownOut_size] <;> omega), World.cell?_alloc_lt _ _ ⟨w.heap.size + 1, j, none⟩ (by simp [ownOut_size])]
  rw [← ownOut_size w A0 n cap 50, World.cell?_alloc_mark]
  exact h
theorem bkW_dim (w : World) (A0 : Option Addr) (n cap j : Nat) (v : Value) (h : (#[.string ⟨#[97]⟩, .int .i64 0, .slice (some ⟨w.heap.size + 1, 0, none⟩) 2 2] : Array Value)[j]? = some v) : (bkW w A0 n cap).cell? ⟨w.heap.size + 2, j, none⟩ = some v := by
  unfold bkW
  rw [World.cell?_alloc_lt _ _ ⟨w.heap.size + 2, j, none⟩ (by simp [ownOut_size])]
  have e : w.heap.size + 2 = ((ownOut w A0 n cap 50).alloc (.cells #[.string ⟨#[98]⟩, .int .i64 (-1), .int .i64 0, .string ⟨#[]⟩, .string ⟨#[99]⟩, .int .i64 (-1), .int .i64 0, .string ⟨#[]⟩] 31)).heap.size := by simp [ownOut_size]
  rw [e, World.cell?_alloc_mark]
  exact h
theorem bkW_dims (w : World) (A0 : Option Addr) (n cap : Nat) : DimsV (bkW w A0 n cap) (some ⟨w.heap.size + 2, 0, none⟩) 1 1 bkD (fun _ => some ⟨w.heap.size + 1, 0, none⟩) (fun _ => 2) := by
  refine ⟨Nat.le_refl _, Or.inr ⟨_, _, rfl, by rw [bkW_size]; omega, fun i hi => ?_⟩⟩
  have hi' : i = 0 := by omega
  subst hi'
  refine ⟨bkW_dim _ _ _ _ 0 _ rfl, bkW_dim _ _ _ _ 1 _ rfl, bkW_dim _ _ _ _ 2 _ rfl, Nat.le_refl _, Or.inr ⟨_, _, rfl, by rw [bkW_size]; omega, fun i hi => ?_⟩⟩
  have hi' : i < 2 := hi
  match i, hi' with
  | 0, _ => exact ⟨bkW_mem _ _ _ _ 0 _ rfl, bkW_mem _ _ _ _ 1 _ rfl, bkW_mem _ _ _ _ 2 _ rfl, bkW_mem _ _ _ _ 3 _ rfl⟩
  | 1, _ => exact ⟨bkW_mem _ _ _ _ 4 _ rfl, bkW_mem _ _ _ _ 5 _ rfl, bkW_mem _ _ _ _ 6 _ rfl, bkW_mem _ _ _ _ 7 _ rfl⟩

/-- an outline that lies in a block, and a place, with all that they hold -/
def CtxB (q : Nat) (A0 : Option Addr) (cap n : Nat) (D : Nat → Dm) (A : Nat → Option Addr) (C : Nat → Nat) (Ap : Option Addr) (cp : Nat) (L : List Int) (w : World) : Prop :=
  q < w.heap.size ∧ w.cell? ⟨q, 0, none⟩ = some (.slice A0 n cap) ∧ DimsV w A0 cap n D A C ∧ PlAt w Ap cp L
theorem CtxB.later {q : Nat} {A0 : Option Addr} {cap n : Nat} {D : Nat → Dm} {A : Nat → Option Addr} {C : Nat → Nat} {Ap : Option Addr} {cp : Nat} {L : List Int} {w w' : World} (h : CtxB q A0 cap n D A C Ap cp L w) (hB : Below w.heap.size w w') : CtxB q A0 cap n D A C Ap cp L w' := by
  obtain ⟨h1, h2, h3, h4⟩ := h
  exact ⟨Nat.lt_of_lt_of_le h1 hB.size, (hB.cell (p := ⟨q, 0, none⟩) h1).trans h2, h3.later hB, h4.later hB⟩

theorem ofL_some {D : Nat → Dm} {n : Nat} {x : Int} (h : ofErr D n x = 0) : InO D n (ofL D n x) ∧ numI D (ofL D n x) n = x := by
  obtain ⟨h1, k, rfl, hk⟩ := ofErr_in h
  have e : ofL D n (k : Int) = placeL D n k := by unfold ofL; rw [if_pos h]; rfl
  rw [e]
  exact ⟨placeL_in h1, num_place h1 hk⟩
theorem numV_of {D : Nat → Dm} {n : Nat} {L : List Int} (h : InO D n L) : numV D n L = numI D L n := by unfold numV; rw [if_pos h.ok]
theorem of_num {D : Nat → Dm} {n : Nat} {L : List Int} (h : InO D n L) : ofErr D n (numI D L n) = 0 ∧ ofL D n (numI D L n) = L := by
  have hb := numI_bound h (Nat.le_refl n)
  have e : ofErr D n (numI D L n) = 0 := of2 h.right (by omega)
  refine ⟨e, ?_⟩
  unfold ofL
  rw [if_pos e, place_num h]
theorem textV_of {D : Nat → Dm} {n : Nat} {L : List Int} (h : InO D n L) : textV D n L = ⟨(textTo D L n).toArray⟩ := by unfold textV; rw [if_pos h.ok]
theorem parse_text {D : Nat → Dm} {n : Nat} {L : List Int} (h : InO D n L) : parseErr D n (textV D n L) = 0 ∧ parseL D n (textV D n L) = L := by
  rw [textV_of h]
  obtain ⟨h1, h2⟩ := text_read h
  refine ⟨h1, ?_⟩
  unfold parseL
  rw [if_pos h1, h2]
theorem textV_size {D : Nat → Dm} {n : Nat} {L : List Int} (h : InO D n L) : (textV D n L).size ≤ 36 := by
  rw [textV_of h]
  have h1 := h.short (Nat.le_refl n)
  have h2 := (allErr_some h.right).2.1
  show (textTo D L n).toArray.size ≤ 36
  simp
  omega
theorem text_parse {D : Nat → Dm} {n : Nat} {s : ByteArray} (h : parseErr D n s = 0) : InO D n (parseL D n s) ∧ textV D n (parseL D n s) = s := by
  have e : parseL D n s = readL D s n := by unfold parseL; rw [if_pos h]
  rw [e]
  refine ⟨read_in h, ?_⟩
  rw [textV_of (read_in h), read_text h]

set_option maxHeartbeats 16000000 in
theorem pback_any (A0 : Option Addr) (cap n : Nat) (D : Nat → Dm) (A : Nat → Option Addr) (C : Nat → Nat) (Ap : Option Addr) (cp : Nat) (L : List Int) (x : Int) (s : ByteArray) (w : World) (hs : s.size ≤ 4611686018427387904) (hD : DimsV w A0 cap n D A C) (hP : PlAt w Ap cp L) :
    Calls Tryd.prog 6 #[.agg #[.slice A0 n cap], .slice Ap L.length cp, .int .i64 x, .string s] w fun e w' => e = .returned (.bool true) ∧ Below w.heap.size w w' := by
  have hB0 := bkW_below w A0 n cap
  have hX0 : CtxB w.heap.size A0 cap n D A C Ap cp L (bkW w A0 n cap) := ⟨by rw [bkW_size]; omega, bkW_at .., hD.later hB0, hP.later hB0⟩
  have h1 := pparse_any (some ⟨w.heap.size + 2, 0, none⟩) 1 1 bkD (fun _ => some ⟨w.heap.size + 1, 0, none⟩) (fun _ => 2) ⟨#[99]⟩ (bkW w A0 n cap) (by decide) (bkW_dims ..)
  rw [bk_read.1, bk_read.2, errV_zero] at h1
  simp only [List.length_singleton] at h1
  have HX0 : Hid (CtxB w.heap.size A0 cap n D A C Ap cp L (bkW w A0 n cap)) := hX0
  have HB0 : Hid (Below w.heap.size w (bkW w A0 n cap)) := hB0
  have HSz : Hid (s.size ≤ 4611686018427387904) := hs
  obtain ⟨m, hm⟩ : ∃ m, L.length = m := ⟨_, rfl⟩
  have HM : Hid (L.length = m) := hm
  rw [hm]
  clear hD hP hX0 hB0 hm hs
  go_enter Tryd.func6, Tryd.ntmps6
  go_wp2_with fail
  refine h1.mono ?_
  rintro e w1 ⟨⟨A1, k1, rfl, hP1⟩, hb⟩
  have HX1 : Hid (CtxB w.heap.size A0 cap n D A C Ap cp L w1) := HX0.out.later hb
  have HB1 : Hid (Below w.heap.size w w1) := onB HB0.out hb
  obtain ⟨-, h0 | ⟨b1, o1, rfl, hbw1, hcell1⟩⟩ := hP1
  · cases h0
  have e1 : w1.cell? ⟨b1, o1, none⟩ = some (.int .i64 1) := by have := hcell1 0 (by simp); simpa using this
  have c1 := HX1.out.2.1
  have h2 := pof_any A0 cap n D A C x w1 HX1.out.2.2.1
  clear hb hcell1 h1 HX0 HB0
  go_wp2_with fail
  refine h2.mono ?_
  rintro e w2 ⟨⟨A2, k2, rfl, hP2⟩, hb⟩
  have HX2 : Hid (CtxB w.heap.size A0 cap n D A C Ap cp L w2) := HX1.out.later hb
  have HB2 : Hid (Below w.heap.size w w2) := onB HB1.out hb
  have HP2 : Hid (PlAt w2 A2 k2 (ofL D n x)) := hP2
  obtain ⟨E, hE⟩ : ∃ E, ofErr D n x = E := ⟨_, rfl⟩
  rw [hE]
  have HE : Hid (ofErr D n x = E) := hE
  obtain ⟨mq, hmq⟩ : ∃ mq, (ofL D n x).length = mq := ⟨_, rfl⟩
  rw [hmq]
  have HMQ : Hid ((ofL D n x).length = mq) := hmq
  clear c1 e1 hb hP2 h2 hE hmq hbw1 HX1 HB1
  have c2 := HX2.out.2.1
  go_upto_region 6 with fail
  go_cut [13, 58] from 51 (fun s13 s58 wx => s58 = .bool (decide (E = 0)) ∧ wx = w2)
  case first => as_aux_lemma =>
    by_cases he : E = 0
    · have hv : errV E = .nilIface := by rw [he]; rfl
      have hd : decide (E = 0) = true := decide_eq_true he
      clear he
      go_wp2_with fail
      go_meet
      exact ⟨by rw [hd], rfl⟩
    · have hv : errV E = .iface 74 (.int .i64 E) := errV_some he
      have hd : decide (E = 0) = false := decide_eq_false he
      clear he
      go_wp2_with fail
      go_meet
      exact ⟨by rw [hd], rfl⟩
  case rest => as_aux_lemma =>
  obtain ⟨rfl, hwx⟩ := hcut
  subst hwx
  obtain ⟨tE, htE⟩ : ∃ t, decide (E = 0) = t := ⟨_, rfl⟩
  rw [htE]
  have HTE : Hid (decide (E = 0) = tE) := htE
  clear htE
  obtain ⟨w2, rfl⟩ : ∃ w2 : World, w2 = wc := ⟨_, rfl⟩
  go_upto_if 58 with fail
  go_cut [13, 14, 15] from 51 (fun s13 s14 s15 wx => Below w2.heap.size w2 wx)
  case first => as_aux_lemma =>
    cases tE
    case true =>
      have he : E = 0 := of_decide_eq_true HTE.out
      obtain ⟨hI, hN⟩ := ofL_some (HE.out.trans he)
      have h3 := pnumber_any A0 cap n D A C A2 k2 (ofL D n x) w2 HX2.out.2.2.1 HP2.out
      rw [numV_of hI, hN, hI.ok, errV_zero, HMQ.out] at h3
      clear he hI hN
      go_wp2_with fail
      refine h3.mono ?_
      rintro e w3 ⟨rfl, hb⟩
      go_wp2_with fail
      go_meet
      exact hb
    case false =>
      go_wp2_with fail
      go_meet
      exact Below.refl _ _
  case rest => as_aux_lemma =>
  obtain ⟨w3, hw3⟩ : ∃ w3 : World, w3 = wc := ⟨_, rfl⟩
  subst hw3
  have HX3 : Hid (CtxB w.heap.size A0 cap n D A C Ap cp L w3) := HX2.out.later hcut
  have HB3 : Hid (Below w.heap.size w w3) := onB HB2.out hcut
  clear c2 hcut HX2 HB2 HP2
  have c3 := HX3.out.2.1
  have h4 := pnumber_any A0 cap n D A C Ap cp L w3 HX3.out.2.2.1 HX3.out.2.2.2
  obtain ⟨F, hF⟩ : ∃ F, placeErr D n L = F := ⟨_, rfl⟩
  obtain ⟨K, hK⟩ : ∃ K, numV D n L = K := ⟨_, rfl⟩
  rw [hF, hK, HM.out] at h4
  have HF : Hid (placeErr D n L = F) := hF
  have HK : Hid (numV D n L = K) := hK
  clear hF hK
  go_wp2_with fail
  refine h4.mono ?_
  rintro e w4 ⟨rfl, hb⟩
  have HX4 : Hid (CtxB w.heap.size A0 cap n D A C Ap cp L w4) := HX3.out.later hb
  have HB4 : Hid (Below w.heap.size w w4) := onB HB3.out hb
  clear c3 hb h4 HX3 HB3
  have c4 := HX4.out.2.1
  go_upto_region 11 with fail
  go_cut [13, 79] from 72 (fun s13 s79 wx => s79 = .bool (decide (F = 0)) ∧ wx = w4)
  case first => as_aux_lemma =>
    by_cases he : F = 0
    · have hv : errV F = .nilIface := by rw [he]; rfl
      have hd : decide (F = 0) = true := decide_eq_true he
      clear he
      go_wp2_with fail
      go_meet
      exact ⟨by rw [hd], rfl⟩
    · have hv : errV F = .iface 74 (.int .i64 F) := errV_some he
      have hd : decide (F = 0) = false := decide_eq_false he
      clear he
      go_wp2_with fail
      go_meet
      exact ⟨by rw [hd], rfl⟩
  case rest => as_aux_lemma =>
  obtain ⟨rfl, hwx⟩ := hcut
  subst hwx
  obtain ⟨tF, htF⟩ : ∃ t, decide (F = 0) = t := ⟨_, rfl⟩
  rw [htF]
  have HTF : Hid (decide (F = 0) = tF) := htF
  clear htF
  obtain ⟨w4, rfl⟩ : ∃ w4 : World, w4 = wc := ⟨_, rfl⟩
  go_upto_if 79 with fail
  go_cut [13, 17, 18, 19, 20, 21, 22, 23, 24] from 72 (fun s13 s17 s18 s19 s20 s21 s22 s23 s24 wx => Below w4.heap.size w4 wx)
  case first => as_aux_lemma =>
    cases tF
    case true =>
      have he : F = 0 := of_decide_eq_true HTF.out
      have hI : InO D n L := inO_of (HF.out.trans he)
      have HI : Hid (InO D n L) := hI
      have h5 := pof_any A0 cap n D A C (numI D L n) w4 HX4.out.2.2.1
      rw [(of_num hI).1, (of_num hI).2, errV_zero, ← numV_of hI, HK.out, HM.out] at h5
      clear he hI
      go_wp2_with fail
      refine h5.mono ?_
      rintro e w5 ⟨⟨A5, k5, rfl, hP5⟩, hb⟩
      have HX5 : Hid (CtxB w.heap.size A0 cap n D A C Ap cp L w5) := HX4.out.later hb
      have HB5 : Hid (Below w4.heap.size w4 w5) := hb
      have HP5 : Hid (PlAt w5 A5 k5 L) := hP5
      clear c4 hb h5 hP5
      have c5 := HX5.out.2.1
      have h6 := pprint_any A0 cap n D A C Ap cp L w5 HX5.out.2.2.1 HX5.out.2.2.2
      rw [HI.out.ok, errV_zero, HM.out] at h6
      obtain ⟨t, ht⟩ : ∃ t, textV D n L = t := ⟨_, rfl⟩
      rw [ht] at h6
      have HT : Hid (textV D n L = t) := ht
      clear ht
      go_wp2_with fail
      refine h6.mono ?_
      rintro e w6 ⟨rfl, hb⟩
      have HX6 : Hid (CtxB w.heap.size A0 cap n D A C Ap cp L w6) := HX5.out.later hb
      have HB6 : Hid (Below w4.heap.size w4 w6) := onB HB5.out hb
      have HP6 : Hid (PlAt w6 A5 k5 L) := HP5.out.later hb
      clear c5 hb h6 HP5
      have c6 := HX6.out.2.1
      have h7 := pparse_any A0 cap n D A C (textV D n L) w6 (Nat.le_trans (textV_size HI.out) (by decide)) HX6.out.2.2.1
      rw [(parse_text HI.out).1, (parse_text HI.out).2, errV_zero, HT.out, HM.out] at h7
      go_wp2_with fail
      refine h7.mono ?_
      rintro e w7 ⟨⟨A7, k7, rfl, hP7⟩, hb⟩
      have HX7 : Hid (CtxB w.heap.size A0 cap n D A C Ap cp L w7) := HX6.out.later hb
      have HB7 : Hid (Below w4.heap.size w4 w7) := onB HB6.out hb
      have HQ7 : Hid (PlAt w7 A7 k7 L) := hP7
      have hL4 : L.length ≤ 4 := by rw [HI.out.len]; exact (allErr_some HI.out.right).2.1
      have h8 := sameplace_any A5 Ap k5 cp L w7 hL4 (HP6.out.later hb) HX7.out.2.2.2
      have HL4 : Hid (L.length ≤ 4) := hL4
      rw [HM.out] at h8
      clear c6 hb h7 hP7 hL4
      have c7 := HX7.out.2.1
      go_wp2_with fail
      refine h8.mono ?_
      rintro e w8 ⟨rfl, hb⟩
      have HX8 : Hid (CtxB w.heap.size A0 cap n D A C Ap cp L w8) := HX7.out.later hb
      have HB8 : Hid (Below w4.heap.size w4 w8) := onB HB7.out hb
      have h9 := sameplace_any A7 Ap k7 cp L w8 HL4.out (HQ7.out.later hb) HX8.out.2.2.2
      rw [HM.out] at h9
      clear c7 hb h8
      have c8 := HX8.out.2.1
      go_wp2_with fail
      refine h9.mono ?_
      rintro e w9 ⟨rfl, hb⟩
      have HB9 : Hid (Below w4.heap.size w4 w9) := onB HB8.out hb
      clear c8 hb h9
      go_wp2_with fail
      go_meet
      exact HB9.out
    case false =>
      go_wp2_with fail
      go_meet
      exact Below.refl _ _
  case rest => as_aux_lemma =>
  obtain ⟨w5, hw5⟩ : ∃ w5 : World, w5 = wc := ⟨_, rfl⟩
  subst hw5
  have HX5 : Hid (CtxB w.heap.size A0 cap n D A C Ap cp L w5) := HX4.out.later hcut
  have HB5 : Hid (Below w.heap.size w w5) := onB HB4.out hcut
  clear c4 hcut HX4 HB4
  have c5 := HX5.out.2.1
  have h6 := pparse_any A0 cap n D A C s w5 HSz.out HX5.out.2.2.1
  by_cases he : parseErr D n s = 0
  · obtain ⟨hI, hT⟩ := text_parse he
    rw [he, errV_zero] at h6
    have HI : Hid (InO D n (parseL D n s)) := hI
    have HT : Hid (textV D n (parseL D n s) = s) := hT
    obtain ⟨mr, hmr⟩ : ∃ mr, (parseL D n s).length = mr := ⟨_, rfl⟩
    rw [hmr] at h6
    have HMR : Hid ((parseL D n s).length = mr) := hmr
    clear he hI hT hmr
    go_wp2_with fail
    refine h6.mono ?_
    rintro e w6 ⟨⟨A6, k6, rfl, hP6⟩, hb⟩
    have HX6 : Hid (CtxB w.heap.size A0 cap n D A C Ap cp L w6) := HX5.out.later hb
    have HB6 : Hid (Below w.heap.size w w6) := onB HB5.out hb
    have h7 := pprint_any A0 cap n D A C A6 k6 (parseL D n s) w6 HX6.out.2.2.1 hP6
    rw [HI.out.ok, errV_zero, HT.out, HMR.out] at h7
    clear c5 hb hP6 h6
    have c6 := HX6.out.2.1
    go_wp2_with fail
    refine h7.mono ?_
    rintro e w7 ⟨rfl, hb⟩
    have HB7 : Hid (Below w.heap.size w w7) := onB HB6.out hb
    clear c6 hb h7
    go_wp2_with fail
    go_ret
    exact ⟨by simp, HB7.out⟩
  · rw [errV_some he] at h6
    clear he
    go_wp2_with fail
    refine h6.mono ?_
    rintro e w6 ⟨⟨A6, k6, rfl, -⟩, hb⟩
    clear c5
    go_wp2_with fail
    go_ret
    exact ⟨rfl, onB HB5.out hb⟩
end Go.Proofs.YtckjjmljpbibkabDoor
