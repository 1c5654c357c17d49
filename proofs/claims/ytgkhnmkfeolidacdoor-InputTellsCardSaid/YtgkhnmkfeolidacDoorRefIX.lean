/-
  What the document's Less, Find and Input answer, called in whatever memory.
  What the document's Entries and Input answer, called in whatever memory.
  Two lists of entries compared: what tallysame.Entries answers of two that hold the same.
  An edit of entries, as the document does it: what its Edit answers, called in whatever memory.
  An edit of entries that is right, as the document does it: what its Edit answers, called in whatever memory.
  An edit of no entries, as the document does it: what its Edit answers, called in whatever memory, wherever the empty list lies.
  Edits of entries, one by one, as the document does it: what its Edit and Edits answer, called in whatever memory.
  The walk of tallylaw1.InputTells: what is wrong with any entries, what is written at any place, with a number there, without; edit by edit: the program answers as the document does.
  tallylaw1.InputTells returns true for every outline, all entries, every place, number and edits, called in whatever memory; and what is read of an argument that is a list of edits.
-/
import Derived.Test.YtgkhnmkfeolidacDoorInpFO
import Derived.Test.YtgkhnmkfeolidacDoorPlR1
import Derived.Test.YtgkhnmkfeolidacDoorSame1
import Derived.Laws.AppendOwnNone
import Derived.Test.YtgkhnmkfeolidacDoorToldT
namespace Go.Proofs.YtgkhnmkfeolidacDoor
open Go.ChangeShapes Go.WideShapes Go.ChangeAt Go.RowKit
set_option maxRecDepth 20000

set_option maxHeartbeats 2000000 in
theorem rless_any (A B : Option Addr) (ca cb : Nat) (a b : List Int) (w : World) (ha : a.length ≤ 4) (hb : b.length ≤ 4) (hA : PlAt w A ca a) (hB : PlAt w B cb b) : Calls Tryd.prog 33 #[.slice A a.length ca, .slice B b.length cb] w fun e w' => e = .returned (.bool (lessL a b)) ∧ Below w.heap.size w w' := by
  have HA : Hid (PlAt w A ca a) := hA
  have HB : Hid (PlAt w B cb b) := hB
  have HN : Hid (∀ k, k < a.length → k < b.length → lessL (a.drop k) (b.drop k) = if a.getD k 0 = b.getD k 0 then lessL (a.drop (k + 1)) (b.drop (k + 1)) else decide (a.getD k 0 < b.getD k 0)) := fun k h1 h2 => lessL_in h1 h2
  have HL : Hid (∀ k, b.length ≤ k → lessL (a.drop k) (b.drop k) = false) := fun k h2 => lessL_long h2
  have HS : Hid (∀ k, a.length ≤ k → k < b.length → lessL (a.drop k) (b.drop k) = true) := fun k h1 h2 => lessL_short h1 h2
  obtain ⟨na, hna⟩ : ∃ na, a.length = na := ⟨_, rfl⟩
  obtain ⟨nb, hnb⟩ : ∃ nb, b.length = nb := ⟨_, rfl⟩
  have HNA : Hid (a.length = na) := hna
  have HNB : Hid (b.length = nb) := hnb
  rw [hna] at HN HS ha
  rw [hnb] at HN HL HS hb
  rw [hna, hnb]
  have ha' : (na : Int) ≤ 4 := by omega
  have hb' : (nb : Int) ≤ 4 := by omega
  clear hA hB hna hnb
  go_enter Tryd.func33, Tryd.ntmps33
  go_wp2_with fail
  go_loopg [5] na (fun g s5 wr => ∃ (k : Nat), k ≤ na ∧ k ≤ nb ∧ g = na - k ∧ s5 = .int .i64 k ∧ Hid (lessL (a.drop k) (b.drop k) = lessL a b) ∧ Below w.heap.size w wr)
  case atStart => exact ⟨0, Nat.zero_le _, Nat.zero_le _, rfl, rfl, (rfl : lessL (a.drop 0) (b.drop 0) = lessL a b), Below.refl _ _⟩
  case round =>
    obtain ⟨k, hk, hk2, rfl, rfl, HF, hBw⟩ := hrel
    have HBw : Hid (Below w.heap.size w wr) := hBw
    by_cases hlt : k < na
    · have hki : (k : Int) < (na : Int) := by omega
      by_cases hlb : k < nb
      · obtain ⟨hc, h0 | ⟨g1, o1, rfl, hbw, hcell⟩⟩ := HA.out.later hBw
        · have := HNA.out; rw [h0] at this; simp at this; omega
        obtain ⟨hc', h0 | ⟨g2, o2, rfl, hbw2, hcell2⟩⟩ := HB.out.later hBw
        · have := HNB.out; rw [h0] at this; simp at this; omega
        have x1 := hcell k (by rw [HNA.out]; exact hlt)
        have x2 := hcell2 k (by rw [HNB.out]; exact hlb)
        have hkb : (k : Int) < (nb : Int) := by omega
        have hst := HN.out k hlt hlb
        generalize a.getD k 0 = x at x1 hst
        generalize b.getD k 0 = y at x2 hst
        clear hcell hcell2 hBw
        by_cases hxy : x = y
        · have HR : Hid (lessL (a.drop (k + 1)) (b.drop (k + 1)) = lessL a b) := by show _ = _; rw [← HF.out, hst, if_pos hxy]
          subst hxy
          clear hst
          go_wp2_with fail
          go_quiet (fail)
          go_wp2_with fail
          go_roundg (na - (k + 1))
          case measure => omega
          case rel => exact ⟨k + 1, by omega, by omega, rfl, by go_num, HR, below_drewN HBw.out _⟩
        · have HR : Hid (lessL a b = decide (x < y)) := by show _ = _; rw [← HF.out, hst, if_neg hxy]
          clear hst
          go_wp2_with fail
          go_quiet (fail)
          go_wp2_with fail
          go_quiet (fail)
          go_wp2_with fail
          go_ret
          rw [HR.out]
          exact ⟨rfl, below_drewN (below_drewN HBw.out _) _⟩
      · have HR : Hid (lessL a b = false) := by show _ = _; rw [← HF.out, HL.out k (by omega)]
        have hkb : (nb : Int) ≤ (k : Int) := by omega
        have hnn : decide ((na : Int) < (nb : Int)) = false := decide_eq_false (by omega)
        have hnn' : decide (na < nb) = false := decide_eq_false (by omega)
        clear hBw
        go_wp2_with fail
        go_ret
        rw [HR.out]
        exact ⟨rfl, HBw.out⟩
    · have hke : k = na := by omega
      subst hke
      by_cases hlb : k < nb
      · have HR : Hid (lessL a b = true) := by show _ = _; rw [← HF.out, HS.out k (Nat.le_refl _) hlb]
        have hkb : (k : Int) < (nb : Int) := by omega
        clear hBw
        go_wp2_with fail
        go_ret
        rw [HR.out]
        exact ⟨rfl, HBw.out⟩
      · have HR : Hid (lessL a b = false) := by show _ = _; rw [← HF.out, HL.out k (by omega)]
        have hkb : (nb : Int) ≤ (k : Int) := by omega
        clear hBw
        go_wp2_with fail
        go_ret
        rw [HR.out]
        exact ⟨rfl, HBw.out⟩

set_option maxHeartbeats 4000000 in
theorem rfind_any (A : Option Addr) (cap : Nat) (xs : List EnL) (Ap : Option Addr) (cp : Nat) (p : List Int) (w : World) (hn : xs.length ≤ 3000) (hE : EnsV w A cap xs) (hS : Short xs p) (hP : PlAt w Ap cp p) :
    Calls Tryd.prog 36 #[.slice A xs.length cap, .slice Ap p.length cp] w fun e w' => e = .returned (.tuple #[.int .i64 (cntE (lE xs) p : Nat), .bool (hasE (lE xs) p)]) ∧ Below w.heap.size w w' := by
  have HE : Hid (EnsV w A cap xs) := hE
  have HLs : Hid (∀ k w', k < xs.length → Below w.heap.size w w' → Calls Tryd.prog 33 #[.slice (xs.getD k noL).A (xs.getD k noL).e.pl.length (xs.getD k noL).c, .slice Ap p.length cp] w' fun e w'' => e = .returned (.bool (lessL (xs.getD k noL).e.pl p)) ∧ Below w'.heap.size w' w'') := fun k w' hk hw' => by
    obtain ⟨-, -, h0 | ⟨b, o, h0, hA⟩⟩ := hE.later hw'
    · rw [h0] at hk; simp at hk
    · exact rless_any _ _ _ _ _ _ w' (hS.1 k hk) hS.2 (hA.pl hk) (hP.later hw')
  have HLb : Hid (∀ k w', k < xs.length → Below w.heap.size w w' → Calls Tryd.prog 33 #[.slice Ap p.length cp, .slice (xs.getD k noL).A (xs.getD k noL).e.pl.length (xs.getD k noL).c] w' fun e w'' => e = .returned (.bool (lessL p (xs.getD k noL).e.pl)) ∧ Below w'.heap.size w' w'') := fun k w' hk hw' => by
    obtain ⟨-, -, h0 | ⟨b, o, h0, hA⟩⟩ := hE.later hw'
    · rw [h0] at hk; simp at hk
    · exact rless_any _ _ _ _ _ _ w' hS.2 (hS.1 k hk) (hP.later hw') (hA.pl hk)
  have HC : Hid (∀ i, i ≤ xs.length → (∀ t, t < i → lessL (xs.getD t noL).e.pl p = true) → (i < xs.length → lessL (xs.getD i noL).e.pl p = false) → cntE (lE xs) p = i) := fun i hi h1 h2 => cnt_at _ _ i (by rw [lE_len]; exact hi) (fun t ht => by rw [lE_at]; exact h1 t ht) (fun h3 => by rw [lE_len] at h3; rw [lE_at]; exact h2 h3)
  have HH : Hid (∀ i, cntE (lE xs) p = i → i < xs.length → hasE (lE xs) p = !lessL p (xs.getD i noL).e.pl) := fun i h1 h2 => by rw [← lE_at]; exact (has_in h1 (by rw [lE_len]; exact h2)).1
  have HH2 : Hid (∀ i, cntE (lE xs) p = i → xs.length ≤ i → hasE (lE xs) p = false) := fun i h1 h2 => (has_out h1 (by rw [lE_len]; exact h2)).1
  obtain ⟨n, hnn⟩ : ∃ n, xs.length = n := ⟨_, rfl⟩
  obtain ⟨np, hnp⟩ : ∃ np, p.length = np := ⟨_, rfl⟩
  have HN : Hid (xs.length = n) := hnn
  rw [hnn] at hn HLs HLb HC HH HH2 ⊢
  rw [hnp] at HLs HLb ⊢
  generalize cntE (lE xs) p = cnt at HC HH HH2
  generalize hasE (lE xs) p = has at HH HH2
  have hn' : (n : Int) ≤ 3000 := by omega
  clear hE hS hP hnn hnp
  go_enter Tryd.func36, Tryd.ntmps36
  go_wp2_with fail
  go_loopg [6] n (fun g s6 wr => ∃ (k : Nat), k ≤ n ∧ g = n - k ∧ s6 = .int .i64 k ∧ Hid (∀ t, t < k → lessL (xs.getD t noL).e.pl p = true) ∧ Below w.heap.size w wr)
  case atStart => exact ⟨0, Nat.zero_le _, rfl, rfl, fun t ht => absurd ht (Nat.not_lt_zero _), Below.refl _ _⟩
  case round =>
    obtain ⟨k, hk, rfl, rfl, HLt, hBw⟩ := hrel
    have HBw : Hid (Below w.heap.size w wr) := hBw
    by_cases hlt : k < n
    · obtain ⟨-, -, h0 | ⟨b, o, rfl, hA⟩⟩ := HE.out.later hBw
      · have := HN.out; rw [h0] at this; simp at this; omega
      obtain ⟨c1, -⟩ := hA.at (k := k) (by rw [HN.out]; exact hlt)
      have h1 := HLs.out k wr hlt hBw
      have HLk : Hid (∀ w', Below w.heap.size w w' → Calls Tryd.prog 33 #[.slice Ap np cp, .slice (xs.getD k noL).A (xs.getD k noL).e.pl.length (xs.getD k noL).c] w' fun e w'' => e = .returned (.bool (lessL p (xs.getD k noL).e.pl)) ∧ Below w'.heap.size w' w'') := fun w' hw' => HLb.out k w' hlt hw'
      have hki : (k : Int) < (n : Int) := by omega
      have hbb := hA.1
      cases hl : lessL (xs.getD k noL).e.pl p
      · have HCN : Hid (cnt = k) := HC.out k hk HLt.out (fun _ => hl)
        have HHI : Hid (has = !lessL p (xs.getD k noL).e.pl) := HH.out k HCN.out hlt
        rw [hl] at h1
        generalize lessL p (xs.getD k noL).e.pl = bk at HLk HHI
        generalize (xs.getD k noL).A = A1 at c1 h1 HLk
        generalize (xs.getD k noL).c = k1 at c1 h1 HLk
        generalize (xs.getD k noL).e.pl.length = m1 at c1 h1 HLk
        have hne : ((k : Int) == (n : Int)) = false := by simp; omega
        clear hl hA hBw
        go_wp2_with fail
        refine h1.mono ?_
        rintro e w1 ⟨rfl, hb1⟩
        have hB1 : Below w.heap.size w w1 := onB HBw.out hb1
        have HB1 : Hid (Below w.heap.size w w1) := hB1
        have d1 : w1.cell? ⟨b, o + k * 2, none⟩ = some (.slice A1 m1 k1) := (hb1.cell (p := ⟨b, o + k * 2, none⟩) hbb).trans c1
        have h2 := HLk.out w1 hB1
        clear hb1 h1 c1 hB1
        go_wp2_with fail
        refine h2.mono ?_
        rintro e w2 ⟨rfl, hb2⟩
        have HB2 : Hid (Below w.heap.size w w2) := onB HB1.out hb2
        clear hb2 h2 d1
        go_wp2_with fail
        go_ret2
        rw [HCN.out, HHI.out]
        exact ⟨rfl, HB2.out⟩
      · have HT : Hid (∀ t, t < k + 1 → lessL (xs.getD t noL).e.pl p = true) := fun t ht => by
          rcases Nat.lt_succ_iff_lt_or_eq.1 ht with h2 | rfl
          · exact HLt.out t h2
          · exact hl
        rw [hl] at h1
        generalize (xs.getD k noL).A = A1 at c1 h1
        generalize (xs.getD k noL).c = k1 at c1 h1
        generalize (xs.getD k noL).e.pl.length = m1 at c1 h1
        clear hl hA hBw HLk
        go_wp2_with fail
        refine h1.mono ?_
        rintro e w1 ⟨rfl, hb1⟩
        have HB1 : Hid (Below w.heap.size w w1) := onB HBw.out hb1
        clear hb1 h1 c1
        go_wp2_with fail
        go_roundg (n - (k + 1))
        case measure => omega
        case rel => exact ⟨k + 1, by omega, rfl, by go_num, HT, HB1.out⟩
    · have hke : k = n := by omega
      subst hke
      have HCN : Hid (cnt = k) := HC.out k hk HLt.out (fun h => absurd h (Nat.lt_irrefl _))
      have HHI : Hid (has = false) := HH2.out k HCN.out (Nat.le_refl _)
      go_wp2_with fail
      go_ret2
      rw [HCN.out, HHI.out]
      exact ⟨rfl, hBw⟩
end Go.Proofs.YtgkhnmkfeolidacDoor

namespace Go.Proofs.YtgkhnmkfeolidacDoor
open Go.ChangeShapes Go.WideShapes Go.ChangeAt Go.RowKit
set_option maxRecDepth 20000

set_option maxHeartbeats 4000000 in
theorem rinput_any (A : Option Addr) (cap : Nat) (xs : List EnL) (Ap : Option Addr) (cp : Nat) (p : List Int) (w : World) (hn : xs.length ≤ 3000) (hE : EnsV w A cap xs) (hS : Short xs p) (hP : PlAt w Ap cp p) :
    Calls Tryd.prog 17 #[.slice A xs.length cap, .slice Ap p.length cp] w fun e w' => e = .returned (.agg #[.int .i64 (getE (lE xs) p).1, .int .i64 (getE (lE xs) p).2]) ∧ Below w.heap.size w w' := by
  obtain ⟨v0, hv0⟩ : ∃ v0, w.alloc (.cells #[.int .i64 0, .int .i64 0] 49) = v0 := ⟨_, rfl⟩
  have hB0 : Below w.heap.size w v0 := by rw [← hv0]; go_grown
  have h := rfind_any A cap xs Ap cp p v0 hn (hE.later hB0) hS (hP.later hB0)
  have HB0 : Hid (Below w.heap.size w v0) := hB0
  have k0 : v0.heap[w.heap.size]? = some (.cells #[.int .i64 0, .int .i64 0] 49) := by rw [← hv0]; exact heap_alloc_new w _
  have hz0 : w.heap.size < v0.heap.size := by rw [← hv0]; simp
  have HK0 : Hid (v0.heap[w.heap.size]? = some (.cells #[.int .i64 0, .int .i64 0] 49)) := k0
  have HE : Hid (EnsV w A cap xs) := hE
  clear hP hB0 k0
  cases hh : hasE (lE xs) p
  · have HV : Hid (getE (lE xs) p = (0, 0)) := by
      show _ = _
      rcases Nat.lt_or_ge (cntE (lE xs) p) (lE xs).length with h1 | h1
      · have hx := has_in (l := lE xs) (p := p) rfl h1
        rw [hx.1] at hh
        rw [hx.2, if_pos (by simpa using hh)]
      · exact (has_out rfl h1).2
    rw [hh] at h
    generalize cntE (lE xs) p = i at h
    generalize getE (lE xs) p = V at HV
    generalize xs.length = n at h hn
    generalize p.length = np at h
    clear hh hE hS
    go_enter Tryd.func17, Tryd.ntmps17
    go_wp2_with fail
    clear hv0
    refine h.mono ?_
    rintro e w1 ⟨rfl, hb1⟩
    have k1 : w1.heap[w.heap.size]? = some (.cells #[.int .i64 0, .int .i64 0] 49) := (hb1.block _ hz0).trans HK0.out
    have d0 : w1.cell? ⟨w.heap.size, 0, none⟩ = some (.int .i64 0) := by rw [Lib.cell_of_heap k1]; rfl
    have d1 : w1.cell? ⟨w.heap.size, 1, none⟩ = some (.int .i64 0) := by rw [Lib.cell_of_heap k1]; rfl
    have f0 : w1.frozen? ⟨w.heap.size, 0, none⟩ = false := Lib.frozen_of_heap k1 0
    have f1 : w1.frozen? ⟨w.heap.size, 1, none⟩ = false := Lib.frozen_of_heap k1 1
    have HB1 : Hid (Below w.heap.size w w1) := onB HB0.out hb1
    clear hb1 k1 h
    go_wp2_with fail
    refine bodyPost_ret (v := .agg #[.int .i64 0, .int .i64 0]) (by simp [results, Tryd.results17, go_sem, d0, d1]) rfl ⟨by rw [HV.out], ?_⟩
    exact (HB1.out.setCell (Nat.le_refl _) _).setCell (Nat.le_refl _) _
  · have hi := clr_in hh
    have hx := has_in (l := lE xs) (p := p) rfl hi
    have HV : Hid (getE (lE xs) p = (1, (xs.getD (cntE (lE xs) p) noL).e.n)) := by
      show _ = _
      rw [hx.1] at hh
      rw [hx.2, if_neg (by simpa using hh), lE_at]
    rw [lE_len] at hi
    rw [hh] at h
    obtain ⟨n, hnn⟩ : ∃ n, xs.length = n := ⟨_, rfl⟩
    have HN : Hid (xs.length = n) := hnn
    rw [hnn] at h hn hi ⊢
    generalize cntE (lE xs) p = i at h hi HV
    generalize getE (lE xs) p = V at HV
    generalize hgn : (xs.getD i noL).e.n = num at HV
    have HGN : Hid ((xs.getD i noL).e.n = num) := hgn
    generalize p.length = np at h
    have hi' : (i : Int) < (n : Int) := by omega
    clear hh hE hS hx hgn hnn
    go_enter Tryd.func17, Tryd.ntmps17
    go_wp2_with fail
    clear hv0
    refine h.mono ?_
    rintro e w1 ⟨rfl, hb1⟩
    have k1 : w1.heap[w.heap.size]? = some (.cells #[.int .i64 0, .int .i64 0] 49) := (hb1.block _ hz0).trans HK0.out
    have d0 : w1.cell? ⟨w.heap.size, 0, none⟩ = some (.int .i64 0) := by rw [Lib.cell_of_heap k1]; rfl
    have d1 : w1.cell? ⟨w.heap.size, 1, none⟩ = some (.int .i64 0) := by rw [Lib.cell_of_heap k1]; rfl
    have f0 : w1.frozen? ⟨w.heap.size, 0, none⟩ = false := Lib.frozen_of_heap k1 0
    have f1 : w1.frozen? ⟨w.heap.size, 1, none⟩ = false := Lib.frozen_of_heap k1 1
    have hB1 : Below w.heap.size w w1 := onB HB0.out hb1
    have HB1 : Hid (Below w.heap.size w w1) := hB1
    obtain ⟨-, -, h0 | ⟨b, o, rfl, hA⟩⟩ := HE.out.later hB1
    · have := HN.out; rw [h0] at this; simp at this; omega
    have c3 := (hA.at (k := i) (by rw [HN.out]; exact hi)).2
    rw [HGN.out] at c3
    clear hb1 k1 h hB1 hA
    go_wp2_with fail
    refine bodyPost_ret (v := .agg #[.int .i64 1, .int .i64 num]) (by simp [results, Tryd.results17, go_sem, d0, d1]) rfl ⟨by rw [HV.out], ?_⟩
    exact (HB1.out.setCell (Nat.le_refl _) _).setCell (Nat.le_refl _) _

theorem keep2 {W w' : World} {q b o1 : Nat} {u v : Value} (h : q < W.heap.size ∧ b < W.heap.size ∧ W.cell? ⟨q, 0, none⟩ = some u ∧ W.cell? ⟨b, o1, none⟩ = some v) (hB : Below W.heap.size W w') : Below W.heap.size W w' ∧ w'.cell? ⟨q, 0, none⟩ = some u ∧ w'.cell? ⟨b, o1, none⟩ = some v :=
  ⟨hB, (hB.cell (p := ⟨q, 0, none⟩) h.1).trans h.2.2.1, (hB.cell (p := ⟨b, o1, none⟩) h.2.1).trans h.2.2.2⟩
theorem keepL {W w' : World} {b o1 o2 : Nat} {u v : Value} (h : b < W.heap.size ∧ W.cell? ⟨b, o1, none⟩ = some u ∧ W.cell? ⟨b, o2, none⟩ = some v) (hB : Below W.heap.size W w') : Below W.heap.size W w' ∧ w'.cell? ⟨b, o1, none⟩ = some u ∧ w'.cell? ⟨b, o2, none⟩ = some v :=
  ⟨hB, (hB.cell (p := ⟨b, o1, none⟩) h.1).trans h.2.1, (hB.cell (p := ⟨b, o2, none⟩) h.1).trans h.2.2⟩

set_option maxHeartbeats 16000000 in
theorem rentries_any (A0 : Option Addr) (cap n : Nat) (D : Nat → Dm) (A : Nat → Option Addr) (C : Nat → Nat) (AE : Option Addr) (ce : Nat) (xs : List EnL) (w : World) (hM : DimsV w A0 cap n D A C) (hE : EnsV w AE ce xs) :
    Calls Tryd.prog 14 #[.agg #[.slice A0 n cap], .slice AE xs.length ce] w fun r w' => r = .returned (.int .i64 (entsErr D n (lE xs))) ∧ Below w.heap.size w w' := by
  have hB0 := ownOut_below w A0 n cap 24
  have h := rright_any A0 cap n D A C (ownOut w A0 n cap 24) (hM.later hB0)
  have HB0 : Hid (Below w.heap.size w (ownOut w A0 n cap 24)) := hB0
  have HM : Hid (DimsV w A0 cap n D A C) := hM
  have HE : Hid (EnsV w AE ce xs) := hE
  clear hM hB0
  by_cases hR : (allErr D n).2.2 = 0
  · have HR : Hid ((allErr D n).2.2 = 0) := hR
    have HV : Hid (entsErr D n (lE xs) = entFrom D n (qOf (lE xs) 0) ((lE xs).drop 0)) := ents_in _ hR
    rw [hR] at h
    obtain ⟨N, hN⟩ : ∃ N, xs.length = N := ⟨_, rfl⟩
    have HN : Hid (xs.length = N) := hN
    have hNb : (N : Int) ≤ 9223372036854775807 := by have h1 := hE.1; have h2 := hE.2.1; omega
    rw [hN]
    generalize entsErr D n (lE xs) = RES at HV
    clear hR hN hE
    go_enter Tryd.func14, Tryd.ntmps14
    go_wp2_with fail
    refine h.mono ?_
    rintro e w1 ⟨rfl, hb1⟩
    have hB : Below w.heap.size w w1 := onB HB0.out hb1
    have hz : w.heap.size < w1.heap.size := by have := hb1.size; rw [ownOut_size] at this; omega
    have h2 : w1.cell? ⟨w.heap.size, 0, none⟩ = some (.slice A0 n cap) := (hb1.cell (p := ⟨w.heap.size, 0, none⟩) (by show w.heap.size < _; rw [ownOut_size]; omega)).trans (ownOut_at ..)
    have HM1 : Hid (DimsV w1 A0 cap n D A C) := HM.out.later hB
    have HE1 : Hid (EnsV w1 AE ce xs) := HE.out.later hB
    have HB : Hid (Below w.heap.size w w1) := hB
    clear hb1 h hB HM HE HB0
    go_wp2_with fail
    go_loopg [6] N (fun g s6 wr => ∃ (k : Nat), k ≤ N ∧ g = N - k ∧ s6 = .int .i64 k ∧ Hid (entFrom D n (qOf (lE xs) k) ((lE xs).drop k) = entFrom D n (qOf (lE xs) 0) ((lE xs).drop 0)) ∧ Hid (∀ j, j < k → entOne D n ((lE xs).getD j noEn) = 0) ∧ Below w1.heap.size w1 wr)
    case atStart => exact ⟨0, Nat.zero_le _, rfl, rfl, (rfl : entFrom D n (qOf (lE xs) 0) ((lE xs).drop 0) = entFrom D n (qOf (lE xs) 0) ((lE xs).drop 0)), fun j hj => absurd hj (Nat.not_lt_zero _), Below.refl _ _⟩
    case round =>
      obtain ⟨k, hk, rfl, rfl, HF, HO, hBw⟩ := hrel
      have HBw : Hid (Below w1.heap.size w1 wr) := hBw
      by_cases hlt : k < N
      · have hkx : k < xs.length := by rw [HN.out]; exact hlt
        have hki : (k : Int) < (N : Int) := by omega
        have hk1 : (k : Int) + 1 ≤ 9223372036854775807 := by omega
        obtain ⟨-, -, h0 | ⟨b, o, rfl, hEs⟩⟩ := HE1.out.later hBw
        · have := HN.out; rw [h0] at this; simp at this; omega
        obtain ⟨c1, c2⟩ := hEs.at hkx
        have c0 : wr.cell? ⟨w.heap.size, 0, none⟩ = some (.slice A0 n cap) := (hBw.cell (p := ⟨w.heap.size, 0, none⟩) hz).trans h2
        have hzr : w.heap.size < wr.heap.size := Nat.lt_of_lt_of_le hz hBw.size
        have hbb := hEs.1
        have HMr : Hid (DimsV wr A0 cap n D A C) := HM1.out.later hBw
        have HEs : Hid (EnsAt wr b o xs) := hEs
        have HPl : Hid (∀ w', Below wr.heap.size wr w' → Calls Tryd.prog 16 #[.agg #[.slice A0 n cap], .slice (xs.getD k noL).A (xs.getD k noL).e.pl.length (xs.getD k noL).c] w' fun e w'' => e = .returned (.int .i64 (shapeErr D n (xs.getD k noL).e.pl)) ∧ Below w'.heap.size w' w'') := fun w' hw' => rplace_any A0 cap n D A C _ _ _ w' HR.out (HMr.out.later hw') ((HEs.out.pl hkx).later hw')
        have HLf : Hid (shapeErr D n (xs.getD k noL).e.pl = 0 → ∀ w', Below wr.heap.size wr w' → Calls Tryd.prog 32 #[.agg #[.slice A0 n cap], .slice (xs.getD k noL).A (xs.getD k noL).e.pl.length (xs.getD k noL).c] w' fun e w'' => e = .returned (.bool (leafV D n (xs.getD k noL).e.pl)) ∧ Below w'.heap.size w' w'') := fun hs w' hw' => rleafplace_any A0 cap n D A C _ _ _ w' (inO_of (by rw [pe1 HR.out]; exact hs)) (HMr.out.later hw') ((HEs.out.pl hkx).later hw')
        have HOne : Hid (entOne D n (xs.getD k noL).e = if shapeErr D n (xs.getD k noL).e.pl ≠ 0 then shapeErr D n (xs.getD k noL).e.pl else if leafV D n (xs.getD k noL).e.pl = false then 6 else if numOk (xs.getD k noL).e.n = false then 1 else 0) := rfl
        have HBad : Hid (entOne D n (xs.getD k noL).e ≠ 0 → RES = entOne D n (xs.getD k noL).e) := fun he => by rw [HV.out, ← HF.out, ent_bad (by rw [lE_len]; exact hkx) (by rw [lE_at]; exact he), lE_at]
        have HOn : Hid (entOne D n (xs.getD k noL).e = 0 → ∀ t, aheadOk (qOf (lE xs) k) (xs.getD k noL).e.pl = t → (t = false → RES = 7) ∧ (t = true → entFrom D n (qOf (lE xs) (k + 1)) ((lE xs).drop (k + 1)) = entFrom D n (qOf (lE xs) 0) ((lE xs).drop 0))) := fun he t ht => by
          rw [← lE_at] at he ht
          refine ⟨fun h1 => ?_, fun h1 => ?_⟩
          · rw [HV.out, ← HF.out, ent_clash (by rw [lE_len]; exact hkx) he (by rw [ht]; exact h1)]
          · rw [← ent_on (by rw [lE_len]; exact hkx) he (by rw [ht]; exact h1)]; exact HF.out
        have HK0 : Hid (entOne D n (xs.getD k noL).e = 0 → entOne D n ((lE xs).getD k noEn) = 0) := fun he => by rw [lE_at]; exact he
        have HPrev : Hid (∀ j, k = j + 1 → entOne D n (xs.getD k noL).e = 0 → (∃ A2 m2 k2, wr.cell? ⟨b, o + j * 2, none⟩ = some (.slice A2 m2 k2) ∧ ∀ w', Below wr.heap.size wr w' → Calls Tryd.prog 33 #[.slice A2 m2 k2, .slice (xs.getD k noL).A (xs.getD k noL).e.pl.length (xs.getD k noL).c] w' fun e w'' => e = .returned (.bool (aheadOk (qOf (lE xs) k) (xs.getD k noL).e.pl)) ∧ Below w'.heap.size w' w'')) := fun j hj he => by
          have hjx : j < xs.length := by omega
          have h3 := entOne_right HR.out he
          have h4 := entOne_right HR.out (HO.out j (by omega))
          rw [lE_at] at h4
          refine ⟨_, _, _, (HEs.out.at hjx).1, fun w' hw' => ?_⟩
          have h5 := rless_any _ _ _ _ _ _ w' (inO_short h4.1) (inO_short h3.1) ((HEs.out.pl hjx).later hw') ((HEs.out.pl hkx).later hw')
          have h6 : aheadOk (qOf (lE xs) k) (xs.getD k noL).e.pl = lessL (xs.getD j noL).e.pl (xs.getD k noL).e.pl := by rw [hj, ← lE_at xs j]; rfl
          rw [h6]
          exact h5
        have HQ0 : Hid (k = 0 → aheadOk (qOf (lE xs) k) (xs.getD k noL).e.pl = true) := fun h0 => by rw [h0]; rfl
        clear hEs hBw
        generalize aheadOk (qOf (lE xs) k) (xs.getD k noL).e.pl = tA at HOn HPrev HQ0
        generalize entOne D n (xs.getD k noL).e = E1 at HOne HBad HOn HK0 HPrev
        generalize shapeErr D n (xs.getD k noL).e.pl = SE at HPl HLf HOne
        generalize leafV D n (xs.getD k noL).e.pl = lf at HLf HOne
        generalize (xs.getD k noL).A = A1 at c1 HPl HLf HPrev
        generalize (xs.getD k noL).c = k1 at c1 HPl HLf HPrev
        generalize (xs.getD k noL).e.n = n1 at c2 HOne
        generalize (xs.getD k noL).e.pl.length = m1 at c1 HPl HLf HPrev
        have HC0 : Hid (w.heap.size < wr.heap.size ∧ b < wr.heap.size ∧ wr.cell? ⟨w.heap.size, 0, none⟩ = some (.slice A0 n cap) ∧ wr.cell? ⟨b, o + k * 2, none⟩ = some (.slice A1 m1 k1)) := ⟨hzr, hbb, c0, c1⟩
        have HC2 : Hid (wr.cell? ⟨b, o + k * 2 + 1, none⟩ = some (.int .i64 n1)) := c2
        clear c0 c1 c2
        go_wp2_with fail
        go_cut [5] (fun s5 wx => s5 = .int .i64 SE ∧ Below wr.heap.size wr wx)
        case first => as_aux_lemma =>
          go_region_held3 (fun w' => Below wr.heap.size wr w' ∧ w'.cell? ⟨w.heap.size, 0, none⟩ = some (.slice A0 n cap) ∧ w'.cell? ⟨b, o + k * 2, none⟩ = some (.slice A1 m1 k1))
            ((refine keep2 HC0.out ?_; go_grown; done))
            (first | (go_at_call 16; refine (HPl.out _ (by go_grown)).mono ?_; rintro e w3 ⟨rfl, hb3⟩; have hN3 := onB (W0 := wr) (by go_grown) hb3; have hy3 := hN3.size; clear hb3))
          all_goals go_wp2_with fail
          all_goals go_meet
          all_goals exact ⟨rfl, by go_grown⟩
        case rest => as_aux_lemma =>
        obtain ⟨rfl, hb⟩ := hcut
        obtain ⟨w2, rfl⟩ : ∃ w2 : World, w2 = wc := ⟨_, rfl⟩
        have HB2 : Hid (Below wr.heap.size wr w2) := hb
        clear hb
        by_cases hSE : SE = 0
        · have HLf2 := HLf.out hSE
          have HLf3 : Hid (∀ w', Below wr.heap.size wr w' → Calls Tryd.prog 32 #[.agg #[.slice A0 n cap], .slice A1 m1 k1] w' fun e w'' => e = .returned (.bool lf) ∧ Below w'.heap.size w' w'') := HLf2
          have HC3 : Hid (w.heap.size < w2.heap.size ∧ b < w2.heap.size ∧ w2.cell? ⟨w.heap.size, 0, none⟩ = some (.slice A0 n cap) ∧ w2.cell? ⟨b, o + k * 2, none⟩ = some (.slice A1 m1 k1)) := ⟨Nat.lt_of_lt_of_le HC0.out.1 HB2.out.size, Nat.lt_of_lt_of_le HC0.out.2.1 HB2.out.size, (keep2 HC0.out HB2.out).2.1, (keep2 HC0.out HB2.out).2.2⟩
          have hOne2 : E1 = if lf = false then 6 else if numOk n1 = false then 1 else 0 := by rw [HOne.out, if_neg (by simpa using hSE)]
          have HOne2 : Hid (E1 = if lf = false then 6 else if numOk n1 = false then 1 else 0) := hOne2
          subst hSE
          clear hOne2 HLf2
          go_wp2_with fail
          go_cut [7] (fun s7 wx => s7 = .bool lf ∧ Below w2.heap.size w2 wx)
          case first => as_aux_lemma =>
            go_region_held3 (fun w' => Below w2.heap.size w2 w' ∧ w'.cell? ⟨w.heap.size, 0, none⟩ = some (.slice A0 n cap) ∧ w'.cell? ⟨b, o + k * 2, none⟩ = some (.slice A1 m1 k1))
              ((refine keep2 HC3.out ?_; go_grown; done))
              (first | (go_at_call 32; refine (HLf3.out _ (onB HB2.out (by go_grown))).mono ?_; rintro e w3 ⟨rfl, hb3⟩; have hN3 := onB (W0 := w2) (by go_grown) hb3; have hy3 := hN3.size; clear hb3))
            all_goals go_wp2_with fail
            all_goals go_meet
            all_goals exact ⟨rfl, by go_grown⟩
          case rest => as_aux_lemma =>
          obtain ⟨rfl, hb⟩ := hcut
          obtain ⟨w3, rfl⟩ : ∃ w3 : World, w3 = wc := ⟨_, rfl⟩
          have HB3 : Hid (Below wr.heap.size wr w3) := onB HB2.out hb
          clear hb HC3 HLf3 HB2
          cases lf
          · have HRes : Hid (RES = 6) := by
              have e6 : E1 = 6 := by rw [HOne2.out]; rfl
              show _ = _
              rw [HBad.out (by rw [e6]; decide), e6]
            go_wp2_with fail
            go_ret
            rw [HRes.out]
            exact ⟨rfl, onB HB.out (onB HBw.out HB3.out)⟩
          · have c3 : w3.cell? ⟨b, o + k * 2 + 1, none⟩ = some (.int .i64 n1) := (HB3.out.cell (p := ⟨b, o + k * 2 + 1, none⟩) hbb).trans HC2.out
            by_cases hlo : n1 < -1000000
            · have HRes : Hid (RES = 1) := by
                have e1 : E1 = 1 := by rw [HOne2.out, if_neg (by decide), if_pos (by simp [numOk]; omega)]
                show _ = _
                rw [HBad.out (by rw [e1]; decide), e1]
              go_wp2_with fail
              go_ret
              rw [HRes.out]
              exact ⟨rfl, onB HB.out (onB HBw.out HB3.out)⟩
            by_cases hhi : 1000000 < n1
            · have HRes : Hid (RES = 1) := by
                have e1 : E1 = 1 := by rw [HOne2.out, if_neg (by decide), if_pos (by simp [numOk]; omega)]
                show _ = _
                rw [HBad.out (by rw [e1]; decide), e1]
              go_wp2_with fail
              go_ret
              rw [HRes.out]
              exact ⟨rfl, onB HB.out (onB HBw.out HB3.out)⟩
            have e0 : E1 = 0 := by rw [HOne2.out, if_neg (by decide), if_neg (by simp [numOk]; omega)]
            have HT : Hid ((tA = false → RES = 7) ∧ (tA = true → entFrom D n (qOf (lE xs) (k + 1)) ((lE xs).drop (k + 1)) = entFrom D n (qOf (lE xs) 0) ((lE xs).drop 0))) := HOn.out e0 tA rfl
            have HKk : Hid (entOne D n ((lE xs).getD k noEn) = 0) := HK0.out e0
            have HP2 : Hid (∀ j, k = j + 1 → (∃ A2 m2 k2, wr.cell? ⟨b, o + j * 2, none⟩ = some (.slice A2 m2 k2) ∧ ∀ w', Below wr.heap.size wr w' → Calls Tryd.prog 33 #[.slice A2 m2 k2, .slice A1 m1 k1] w' fun e w'' => e = .returned (.bool tA) ∧ Below w'.heap.size w' w'')) := fun j hj => HPrev.out j hj e0
            clear HOne HOne2 HBad HOn HK0 HPrev HLf HPl e0
            rcases Nat.eq_zero_or_pos k with hk0 | hk0
            · have HTr : Hid (entFrom D n (qOf (lE xs) (k + 1)) ((lE xs).drop (k + 1)) = entFrom D n (qOf (lE xs) 0) ((lE xs).drop 0)) := HT.out.2 (HQ0.out hk0)
              subst hk0
              simp only [Nat.zero_mul, Nat.add_zero] at c3
              clear HP2 HQ0 HT HO HF
              go_wp2_with fail
              go_quiet (fail)
              go_wp2_with fail
              go_roundg (N - (0 + 1))
              case measure => omega
              case rel =>
                refine ⟨0 + 1, by omega, rfl, by go_num, HTr.out, fun j hj => ?_, below_drewN (onB HBw.out HB3.out) _⟩
                have : j = 0 := by omega
                rw [this]
                exact HKk.out
            · obtain ⟨j, hj⟩ : ∃ j, k = j + 1 := ⟨k - 1, by omega⟩
              obtain ⟨A2, m2, k2, hcell, hcalls⟩ := HP2.out j hj
              have HLs : Hid (∀ w', Below wr.heap.size wr w' → Calls Tryd.prog 33 #[.slice A2 m2 k2, .slice A1 m1 k1] w' fun e w'' => e = .returned (.bool tA) ∧ Below w'.heap.size w' w'') := hcalls
              have HC4 : Hid (b < w3.heap.size ∧ w3.cell? ⟨b, o + j * 2, none⟩ = some (.slice A2 m2 k2) ∧ w3.cell? ⟨b, o + k * 2, none⟩ = some (.slice A1 m1 k1)) := ⟨Nat.lt_of_lt_of_le hbb HB3.out.size, (HB3.out.cell (p := ⟨b, o + j * 2, none⟩) hbb).trans hcell, (HB3.out.cell (p := ⟨b, o + k * 2, none⟩) hbb).trans HC0.out.2.2.2⟩
              have hwr : IntKind.i64.wrap ((k : Int) - 1) = (j : Int) := by rw [IntKind.wrap_i64]; omega
              have hkz : ((k : Int) == 0) = false := by simp; omega
              have hkz' : ¬ ((k : Int) = 0) := by omega
              have hjN : (j : Int) < (N : Int) := by omega
              clear hj hcell hcalls HP2 hk0
              go_wp2_with fail
              go_cut [8] (fun s8 wx => s8 = .bool tA ∧ Below w3.heap.size w3 wx)
              case first => as_aux_lemma =>
                go_region_held3 (fun w' => Below w3.heap.size w3 w' ∧ w'.cell? ⟨b, o + j * 2, none⟩ = some (.slice A2 m2 k2) ∧ w'.cell? ⟨b, o + k * 2, none⟩ = some (.slice A1 m1 k1))
                  ((refine keepL HC4.out ?_; go_grown; done))
                  (first | (go_at_call 33; refine (HLs.out _ (onB HB3.out (by go_grown))).mono ?_; rintro e w4 ⟨rfl, hb4⟩; have hN4 := onB (W0 := w3) (by go_grown) hb4; have hy4 := hN4.size; clear hb4))
                all_goals go_wp2_with fail
                all_goals go_meet
                all_goals exact ⟨rfl, by go_grown⟩
              case rest => as_aux_lemma =>
              obtain ⟨rfl, hb⟩ := hcut
              obtain ⟨w4, rfl⟩ : ∃ w4 : World, w4 = wc := ⟨_, rfl⟩
              have HB4 : Hid (Below wr.heap.size wr w4) := onB HB3.out hb
              clear hb HC4 HLs hwr hkz hkz' hjN c3
              cases tA
              · have HRes : Hid (RES = 7) := HT.out.1 rfl
                go_wp2_with fail
                go_ret
                rw [HRes.out]
                exact ⟨rfl, onB HB.out (onB HBw.out HB4.out)⟩
              · have HTr : Hid (entFrom D n (qOf (lE xs) (k + 1)) ((lE xs).drop (k + 1)) = entFrom D n (qOf (lE xs) 0) ((lE xs).drop 0)) := HT.out.2 rfl
                go_wp2_with fail
                go_roundg (N - (k + 1))
                case measure => omega
                case rel =>
                  refine ⟨k + 1, by omega, rfl, by go_num, HTr.out, fun i hi => ?_, onB HBw.out HB4.out⟩
                  rcases Nat.lt_succ_iff_lt_or_eq.1 hi with h1 | rfl
                  · exact HO.out i h1
                  · exact HKk.out
        · have HRes : Hid (RES = SE) := by
            have e1 : E1 = SE := by rw [HOne.out, if_pos (by simpa using hSE)]
            show _ = _
            rw [HBad.out (by rw [e1]; exact hSE), e1]
          have hSE' : (SE != 0) = true := by simpa using hSE
          clear HLf HPl HOne HBad HOn HK0 HPrev hSE HC0 HC2 HEs HMr HE1 HM1 HO HF HQ0 hki hk1 hzr hbb
          go_wp2_with fail
          go_ret
          rw [HRes.out]
          exact ⟨rfl, onB HB.out (onB HBw.out HB2.out)⟩
      · have hke : k = N := by omega
        subst hke
        have HRes : Hid (RES = 0) := by show _ = _; rw [HV.out, ← HF.out, ent_end (by rw [lE_len, HN.out]; exact Nat.le_refl _)]
        clear hBw
        go_wp2_with fail
        go_ret
        rw [HRes.out]
        exact ⟨rfl, onB HB.out HBw.out⟩
  · have HV : Hid (entsErr D n (lE xs) = (allErr D n).2.2) := ents_bad _ hR
    have hR' : ((allErr D n).2.2 == 0) = false := by simpa using hR
    generalize entsErr D n (lE xs) = RES at HV
    generalize (allErr D n).2.2 = E at h HV hR hR'
    generalize xs.length = N
    clear hE HM HE
    go_enter Tryd.func14, Tryd.ntmps14
    go_wp2_with fail
    refine h.mono ?_
    rintro e w1 ⟨rfl, hb1⟩
    go_wp2_with fail
    go_ret
    rw [HV.out]
    exact ⟨rfl, onB HB0.out hb1⟩
end Go.Proofs.YtgkhnmkfeolidacDoor

namespace Go.Proofs.YtgkhnmkfeolidacDoor
open Go.ChangeShapes Go.WideShapes Go.ChangeAt Go.RowKit
set_option maxRecDepth 20000

theorem keepE {W w' : World} {b o b' o' : Nat} {u v : Value} (h : b < W.heap.size ∧ b' < W.heap.size ∧ W.cell? ⟨b, o, none⟩ = some u ∧ W.cell? ⟨b', o', none⟩ = some v) (hB : Below W.heap.size W w') : Below W.heap.size W w' ∧ w'.cell? ⟨b, o, none⟩ = some u ∧ w'.cell? ⟨b', o', none⟩ = some v :=
  ⟨hB, (hB.cell (p := ⟨b, o, none⟩) h.1).trans h.2.2.1, (hB.cell (p := ⟨b', o', none⟩) h.2.1).trans h.2.2.2⟩

set_option maxHeartbeats 8000000 in
theorem sameents_any (A B : Option Addr) (ca cb : Nat) (xs ys : List EnL) (w : World) (hl : lE xs = lE ys) (hn : xs.length ≤ 3000) (hS : ∀ k, k < xs.length → (xs.getD k noL).e.pl.length ≤ 4) (hA : EnsV w A ca xs) (hB : EnsV w B cb ys) :
    Calls Tryd.prog 21 #[.slice A xs.length ca, .slice B ys.length cb] w fun e w' => e = .returned (.bool true) ∧ Below w.heap.size w w' := by
  have hll : ys.length = xs.length := by rw [← lE_len, ← hl, lE_len]
  have HA : Hid (EnsV w A ca xs) := hA
  have HB : Hid (EnsV w B cb ys) := hB
  have HEq : Hid (∀ k, (ys.getD k noL).e = (xs.getD k noL).e) := fun k => by rw [← lE_at, ← lE_at, hl]
  have HS : Hid (∀ k, k < xs.length → (xs.getD k noL).e.pl.length ≤ 4) := hS
  obtain ⟨n, hnn⟩ : ∃ n, xs.length = n := ⟨_, rfl⟩
  have HN : Hid (xs.length = n) := hnn
  have HN2 : Hid (ys.length = n) := hll.trans hnn
  rw [hll]
  rw [hnn] at hn ⊢
  have hn' : (n : Int) ≤ 3000 := by omega
  clear hA hB hl hS hll hnn
  go_enter Tryd.func21, Tryd.ntmps21
  go_wp2_with fail
  go_loopg [5] n (fun g s5 wr => ∃ (k : Nat), k ≤ n ∧ g = n - k ∧ s5 = .int .i64 k ∧ Below w.heap.size w wr)
  case atStart => exact ⟨0, Nat.zero_le _, rfl, rfl, Below.refl _ _⟩
  case round =>
    obtain ⟨k, hk, rfl, rfl, hBw⟩ := hrel
    have HBw : Hid (Below w.heap.size w wr) := hBw
    by_cases hlt : k < n
    · have hki : (k : Int) < (n : Int) := by omega
      obtain ⟨-, -, h0 | ⟨b, o, rfl, hXs⟩⟩ := HA.out.later hBw
      · have := HN.out; rw [h0] at this; simp at this; omega
      obtain ⟨-, -, h0 | ⟨b', o', rfl, hYs⟩⟩ := HB.out.later hBw
      · have := HN2.out; rw [h0] at this; simp at this; omega
      obtain ⟨c1, c2⟩ := hXs.at (k := k) (by rw [HN.out]; exact hlt)
      obtain ⟨d1, d2⟩ := hYs.at (k := k) (by rw [HN2.out]; exact hlt)
      have hp1 := hXs.pl (k := k) (by rw [HN.out]; exact hlt)
      have hp2 := hYs.pl (k := k) (by rw [HN2.out]; exact hlt)
      rw [HEq.out k] at d1 d2 hp2
      have HSm : Hid (∀ w', Below wr.heap.size wr w' → Calls Tryd.prog 42 #[.slice (xs.getD k noL).A (xs.getD k noL).e.pl.length (xs.getD k noL).c, .slice (ys.getD k noL).A (xs.getD k noL).e.pl.length (ys.getD k noL).c] w' fun e w'' => e = .returned (.bool true) ∧ Below w'.heap.size w' w'') := fun w' hw' => by
        have h := samepl_any _ _ _ _ _ _ w' (HS.out k (by rw [HN.out]; exact hlt)) (hp1.later hw') (hp2.later hw')
        rw [decide_eq_true rfl] at h
        exact h
      have hb1 := hXs.1
      have hb2 := hYs.1
      generalize (xs.getD k noL).A = A1 at c1 HSm
      generalize (xs.getD k noL).c = k1 at c1 HSm
      generalize (ys.getD k noL).A = A2 at d1 HSm
      generalize (ys.getD k noL).c = k2 at d1 HSm
      generalize (xs.getD k noL).e.n = n1 at c2 d2
      generalize (xs.getD k noL).e.pl.length = m1 at c1 d1 HSm
      have HC : Hid (b < wr.heap.size ∧ b' < wr.heap.size ∧ wr.cell? ⟨b, o + k * 2, none⟩ = some (.slice A1 m1 k1) ∧ wr.cell? ⟨b', o' + k * 2, none⟩ = some (.slice A2 m1 k2)) := ⟨hb1, hb2, c1, d1⟩
      have HC2 : Hid (wr.cell? ⟨b, o + k * 2 + 1, none⟩ = some (.int .i64 n1) ∧ wr.cell? ⟨b', o' + k * 2 + 1, none⟩ = some (.int .i64 n1)) := ⟨c2, d2⟩
      clear hXs hYs hp1 hp2 c1 c2 d1 d2 hBw
      go_wp2_with fail
      go_cut [6] (fun s6 wx => s6 = .bool true ∧ Below wr.heap.size wr wx)
      case first => as_aux_lemma =>
        go_region_held3 (fun w' => Below wr.heap.size wr w' ∧ w'.cell? ⟨b, o + k * 2, none⟩ = some (.slice A1 m1 k1) ∧ w'.cell? ⟨b', o' + k * 2, none⟩ = some (.slice A2 m1 k2))
          ((refine keepE HC.out ?_; go_grown; done))
          (first | (go_at_call 42; refine (HSm.out _ (by go_grown)).mono ?_; rintro e w3 ⟨rfl, hb3⟩; have hN3 := onB (W0 := wr) (by go_grown) hb3; have hy3 := hN3.size; clear hb3))
        all_goals go_wp2_with fail
        all_goals go_meet
        all_goals exact ⟨rfl, by go_grown⟩
      case rest => as_aux_lemma =>
      obtain ⟨rfl, hb⟩ := hcut
      obtain ⟨w2, rfl⟩ : ∃ w2 : World, w2 = wc := ⟨_, rfl⟩
      have HB2 : Hid (Below wr.heap.size wr w2) := hb
      have f1 : w2.cell? ⟨b, o + k * 2 + 1, none⟩ = some (.int .i64 n1) := (hb.cell (p := ⟨b, o + k * 2 + 1, none⟩) hb1).trans HC2.out.1
      have f2 : w2.cell? ⟨b', o' + k * 2 + 1, none⟩ = some (.int .i64 n1) := (hb.cell (p := ⟨b', o' + k * 2 + 1, none⟩) hb2).trans HC2.out.2
      clear hb HC HC2 HSm
      go_wp2_with fail
      go_quiet (fail)
      go_wp2_with fail
      go_roundg (n - (k + 1))
      case measure => omega
      case rel => exact ⟨k + 1, by omega, rfl, by go_num, below_drewN (onB HBw.out HB2.out) _⟩
    · have hke : k = n := by omega
      subst hke
      go_wp2_with fail
      go_ret
      exact ⟨rfl, hBw⟩
end Go.Proofs.YtgkhnmkfeolidacDoor

namespace Go.Proofs.YtgkhnmkfeolidacDoor
open Go.ChangeShapes Go.WideShapes Go.ChangeAt Go.RowKit
set_option maxRecDepth 20000

/-- entries that lie, or nil -/
def EnsN (w : World) (A : Option Addr) (c : Nat) (zs : List EnL) : Prop := EnsV w A c zs ∧ (A = none → c = 0)
theorem EnsN.later {w w' : World} {A : Option Addr} {c : Nat} {zs : List EnL} (h : EnsN w A c zs) (hB : Below w.heap.size w w') : EnsN w' A c zs := ⟨h.1.later hB, h.2⟩
theorem ens_own {w : World} {base : Nat} {v : Value} {zs : List EnL} (h : w.ownsRow base 77 2 v zs.length (cellsE zs)) (hp : ∀ x ∈ zs, PlAt w x.A x.c x.e.pl) : ∃ A c, v = .slice A zs.length c ∧ EnsN w A c zs := by
  rcases h.2 with ⟨rfl, h0⟩ | ⟨g, cap, cur, rfl, hb, hg, hc, hm, _, _⟩
  · refine ⟨none, 0, by rw [h0], ⟨by omega, by decide, Or.inl (List.eq_nil_of_length_eq_zero h0)⟩, fun _ => rfl⟩
  · refine ⟨_, cap, rfl, ⟨hc, by unfold maxLen at hm; omega, Or.inr ⟨g, 0, rfl, (Array.getElem?_eq_some_iff.1 hg).1, fun j u hj => ?_, hp⟩⟩, fun h => by cases h⟩
    have y := h.cells (g := g) rfl j u hj
    rw [plain_add] at y
    exact y
/-- .. behind an append -/
theorem own_on {w w' W : World} {base : Nat} {v : Value} {n : Nat} {zs : List Value} (hB : Below base W w) (hb : base ≤ w.heap.size) (hown : w.ownsRow base 77 2 v n zs) (hG : w.grownBy w' v.ownBlock) : Below base W w' :=
  hB.grown hG hb fun k hk => (hown.lt k hk).1
theorem edit_pl {D : Nat → Dm} {n : Nat} {l : List En} {x : Ed} (h : shapeErr D n x.pl ≠ 0) : editErr D n l x = shapeErr D n x.pl := by unfold editErr; rw [if_pos h]
theorem edit_in {D : Nat → Dm} {n : Nat} {l : List En} {x : Ed} (h : shapeErr D n x.pl = 0) : editErr D n l x = if x.clear = true then (if hasE l x.pl = true then 0 else 5) else if leafV D n x.pl = false then 6 else if numOk x.n = false then 1 else 0 := by unfold editErr; rw [if_neg (by simpa using h)]
/-- what an edit by the document leaves -/
def REdited (w : World) (E : Int) (l : List En) (e : Ending) (w' : World) : Prop := (∃ B c zs, e = .returned (.tuple #[.slice B zs.length c, .int .i64 E]) ∧ EnsN w' B c zs ∧ lE zs = pickL E l) ∧ Below w.heap.size w w'

/-- the calls that an edit begins with, in the world of its own -/
structure EditCalls (W : World) (A0 : Option Addr) (cap n : Nat) (AE : Option Addr) (nx ce : Nat) (Ax : Option Addr) (m cx : Nat) (SE : Int) (cnt : Nat) (has lf : Bool) : Prop where
  place : ∀ w', Below W.heap.size W w' → Calls Tryd.prog 16 #[.agg #[.slice A0 n cap], .slice Ax m cx] w' fun e w'' => e = .returned (.int .i64 SE) ∧ Below w'.heap.size w' w''
  find : SE = 0 → ∀ w', Below W.heap.size W w' → Calls Tryd.prog 36 #[.slice AE nx ce, .slice Ax m cx] w' fun e w'' => e = .returned (.tuple #[.int .i64 (cnt : Nat), .bool has]) ∧ Below w'.heap.size w' w''
  leaf : SE = 0 → ∀ w', Below W.heap.size W w' → Calls Tryd.prog 32 #[.agg #[.slice A0 n cap], .slice Ax m cx] w' fun e w'' => e = .returned (.bool lf) ∧ Below w'.heap.size w' w''
theorem ownOX_size (w : World) (A0 : Option Addr) (n cap : Nat) (A : Option Addr) (m c : Nat) (N : Int) (cl : Bool) : (ownOX w A0 n cap A m c N cl).heap.size = w.heap.size + 2 := by unfold ownOX; rw [ownEd_size, ownOut_size]
theorem ownOX_o (w : World) (A0 : Option Addr) (n cap : Nat) (A : Option Addr) (m c : Nat) (N : Int) (cl : Bool) : (ownOX w A0 n cap A m c N cl).cell? ⟨w.heap.size, 0, none⟩ = some (.slice A0 n cap) :=
  ((ownEd_below (ownOut w A0 n cap 24) A m c N cl).cell (p := ⟨w.heap.size, 0, none⟩) (by show w.heap.size < _; rw [ownOut_size]; omega)).trans (ownOut_at ..)
theorem ownOX_x (w : World) (A0 : Option Addr) (n cap : Nat) (A : Option Addr) (m c : Nat) (N : Int) (cl : Bool) : (ownOX w A0 n cap A m c N cl).cell? ⟨w.heap.size + 1, 0, none⟩ = some (.slice A m c) ∧ (ownOX w A0 n cap A m c N cl).cell? ⟨w.heap.size + 1, 1, none⟩ = some (.int .i64 N) ∧ (ownOX w A0 n cap A m c N cl).cell? ⟨w.heap.size + 1, 2, none⟩ = some (.bool cl) := by
  have h := heap_alloc_new (ownOut w A0 n cap 24) (.cells #[.slice A m c, .int .i64 N, .bool cl] 56)
  rw [ownOut_size] at h
  exact ⟨by rw [ownOX, ownEd, Lib.cell_of_heap h]; rfl, by rw [ownOX, ownEd, Lib.cell_of_heap h]; rfl, by rw [ownOX, ownEd, Lib.cell_of_heap h]; rfl⟩

set_option maxHeartbeats 8000000 in
/-- where it is refused -/
theorem redit_bad (A0 : Option Addr) (cap n : Nat) (AE : Option Addr) (nx ce : Nat) (Ax : Option Addr) (m cx : Nat) (N : Int) (cl : Bool) (SE : Int) (cnt : Nat) (has lf : Bool) (E : Int) (w : World) (hX : EditCalls (ownOX w A0 n cap Ax m cx N cl) A0 cap n AE nx ce Ax m cx SE cnt has lf)
    (hE : E = if SE ≠ 0 then SE else if cl = true then (if has = true then 0 else 5) else if lf = false then 6 else if numOk N = false then 1 else 0) (h0 : E ≠ 0) :
    Calls Tryd.prog 19 #[.agg #[.slice A0 n cap], .slice AE nx ce, .agg #[.slice Ax m cx, .int .i64 N, .bool cl]] w fun e w' => e = .returned (.tuple #[.slice none 0 0, .int .i64 E]) ∧ Below w.heap.size w w' := by
  have HX : Hid (EditCalls (ownOX w A0 n cap Ax m cx N cl) A0 cap n AE nx ce Ax m cx SE cnt has lf) := hX
  have HB0 : Hid (Below w.heap.size w (ownOX w A0 n cap Ax m cx N cl)) := ownOX_below ..
  have h1 := hX.place _ (Below.refl _ _)
  clear hX
  by_cases hSE : SE = 0
  · subst hSE
    rw [if_neg (by simp)] at hE
    cases cl
    · rw [if_neg (by simp)] at hE
      cases lf
      · have HE : Hid (E = 6) := hE
        clear hE h0
        go_enter Tryd.func19, Tryd.ntmps19
        go_wp2_with fail
        refine h1.mono ?_
        rintro e w1 ⟨rfl, hb⟩
        have HB1 : Hid (Below (ownOX w A0 n cap Ax m cx N false).heap.size (ownOX w A0 n cap Ax m cx N false) w1) := hb
        have c0 := (hb.cell (p := ⟨w.heap.size, 0, none⟩) (by show w.heap.size < _; rw [ownOX_size]; omega)).trans (ownOX_o w A0 n cap Ax m cx N false)
        have c1 := (hb.cell (p := ⟨w.heap.size + 1, 0, none⟩) (by show w.heap.size + 1 < _; rw [ownOX_size]; omega)).trans (ownOX_x w A0 n cap Ax m cx N false).1
        have HC2 : Hid (w1.cell? ⟨w.heap.size + 1, 1, none⟩ = some (.int .i64 N)) := (hb.cell (p := ⟨w.heap.size + 1, 1, none⟩) (by show w.heap.size + 1 < _; rw [ownOX_size]; omega)).trans (ownOX_x w A0 n cap Ax m cx N false).2.1
        have HC3 : Hid (w1.cell? ⟨w.heap.size + 1, 2, none⟩ = some (.bool false)) := (hb.cell (p := ⟨w.heap.size + 1, 2, none⟩) (by show w.heap.size + 1 < _; rw [ownOX_size]; omega)).trans (ownOX_x w A0 n cap Ax m cx N false).2.2
        have hz1 : w.heap.size + 1 < w1.heap.size := by have := hb.size; rw [ownOX_size] at this; omega
        have HC0 : Hid (w1.cell? ⟨w.heap.size, 0, none⟩ = some (.slice A0 n cap)) := c0
        have HC1 : Hid (w1.cell? ⟨w.heap.size + 1, 0, none⟩ = some (.slice Ax m cx)) := c1
        have h2 := HX.out.find rfl w1 hb
        clear hb h1
        go_wp2_with fail
        refine h2.mono ?_
        rintro e w2 ⟨rfl, hb⟩
        have HB2 : Hid (Below (ownOX w A0 n cap Ax m cx N false).heap.size (ownOX w A0 n cap Ax m cx N false) w2) := onB HB1.out hb
        have d0 : w2.cell? ⟨w.heap.size, 0, none⟩ = some (.slice A0 n cap) := (hb.cell (p := ⟨w.heap.size, 0, none⟩) (by show w.heap.size < _; omega)).trans HC0.out
        have d1 : w2.cell? ⟨w.heap.size + 1, 0, none⟩ = some (.slice Ax m cx) := (hb.cell (p := ⟨w.heap.size + 1, 0, none⟩) hz1).trans HC1.out
        have HD1 : Hid (w2.cell? ⟨w.heap.size + 1, 0, none⟩ = some (.slice Ax m cx)) := d1
        have HD2 : Hid (w2.cell? ⟨w.heap.size + 1, 1, none⟩ = some (.int .i64 N)) := (hb.cell (p := ⟨w.heap.size + 1, 1, none⟩) hz1).trans HC2.out
        have HD3 : Hid (w2.cell? ⟨w.heap.size + 1, 2, none⟩ = some (.bool false)) := (hb.cell (p := ⟨w.heap.size + 1, 2, none⟩) hz1).trans HC3.out
        have hz2 : w.heap.size + 1 < w2.heap.size := Nat.lt_of_lt_of_le hz1 hb.size
        have h3 := HX.out.leaf rfl w2 HB2.out
        clear hb h2 c0 c1 HC0 HC1 HC2 HC3
        go_wp2_with fail
        refine h3.mono ?_
        rintro e w3 ⟨rfl, hb⟩
        have HB3 : Hid (Below (ownOX w A0 n cap Ax m cx N false).heap.size (ownOX w A0 n cap Ax m cx N false) w3) := onB HB2.out hb
        have f1 : w3.cell? ⟨w.heap.size + 1, 0, none⟩ = some (.slice Ax m cx) := (hb.cell (p := ⟨w.heap.size + 1, 0, none⟩) hz2).trans HD1.out
        have f2 : w3.cell? ⟨w.heap.size + 1, 1, none⟩ = some (.int .i64 N) := (hb.cell (p := ⟨w.heap.size + 1, 1, none⟩) hz2).trans HD2.out
        have f3 : w3.cell? ⟨w.heap.size + 1, 2, none⟩ = some (.bool false) := (hb.cell (p := ⟨w.heap.size + 1, 2, none⟩) hz2).trans HD3.out
        have hz3 : w.heap.size + 1 < w3.heap.size := Nat.lt_of_lt_of_le hz2 hb.size
        clear hb h3 d0 d1 HD1 HD2 HD3
        go_wp2_with fail
        go_ret2
        rw [HE.out]
        exact ⟨rfl, onB HB0.out HB3.out⟩
      · rw [if_neg (by simp)] at hE
        by_cases hlo : N < -1000000
        · have HE : Hid (E = 1) := by show _ = _; rw [hE, if_pos (by simp [numOk]; omega)]
          clear hE h0
          go_enter Tryd.func19, Tryd.ntmps19
          go_wp2_with fail
          refine h1.mono ?_
          rintro e w1 ⟨rfl, hb⟩
          have HB1 : Hid (Below (ownOX w A0 n cap Ax m cx N false).heap.size (ownOX w A0 n cap Ax m cx N false) w1) := hb
          have c0 := (hb.cell (p := ⟨w.heap.size, 0, none⟩) (by show w.heap.size < _; rw [ownOX_size]; omega)).trans (ownOX_o w A0 n cap Ax m cx N false)
          have c1 := (hb.cell (p := ⟨w.heap.size + 1, 0, none⟩) (by show w.heap.size + 1 < _; rw [ownOX_size]; omega)).trans (ownOX_x w A0 n cap Ax m cx N false).1
          have HC2 : Hid (w1.cell? ⟨w.heap.size + 1, 1, none⟩ = some (.int .i64 N)) := (hb.cell (p := ⟨w.heap.size + 1, 1, none⟩) (by show w.heap.size + 1 < _; rw [ownOX_size]; omega)).trans (ownOX_x w A0 n cap Ax m cx N false).2.1
          have HC3 : Hid (w1.cell? ⟨w.heap.size + 1, 2, none⟩ = some (.bool false)) := (hb.cell (p := ⟨w.heap.size + 1, 2, none⟩) (by show w.heap.size + 1 < _; rw [ownOX_size]; omega)).trans (ownOX_x w A0 n cap Ax m cx N false).2.2
          have hz1 : w.heap.size + 1 < w1.heap.size := by have := hb.size; rw [ownOX_size] at this; omega
          have HC0 : Hid (w1.cell? ⟨w.heap.size, 0, none⟩ = some (.slice A0 n cap)) := c0
          have HC1 : Hid (w1.cell? ⟨w.heap.size + 1, 0, none⟩ = some (.slice Ax m cx)) := c1
          have h2 := HX.out.find rfl w1 hb
          clear hb h1
          go_wp2_with fail
          refine h2.mono ?_
          rintro e w2 ⟨rfl, hb⟩
          have HB2 : Hid (Below (ownOX w A0 n cap Ax m cx N false).heap.size (ownOX w A0 n cap Ax m cx N false) w2) := onB HB1.out hb
          have d0 : w2.cell? ⟨w.heap.size, 0, none⟩ = some (.slice A0 n cap) := (hb.cell (p := ⟨w.heap.size, 0, none⟩) (by show w.heap.size < _; omega)).trans HC0.out
          have d1 : w2.cell? ⟨w.heap.size + 1, 0, none⟩ = some (.slice Ax m cx) := (hb.cell (p := ⟨w.heap.size + 1, 0, none⟩) hz1).trans HC1.out
          have HD1 : Hid (w2.cell? ⟨w.heap.size + 1, 0, none⟩ = some (.slice Ax m cx)) := d1
          have HD2 : Hid (w2.cell? ⟨w.heap.size + 1, 1, none⟩ = some (.int .i64 N)) := (hb.cell (p := ⟨w.heap.size + 1, 1, none⟩) hz1).trans HC2.out
          have HD3 : Hid (w2.cell? ⟨w.heap.size + 1, 2, none⟩ = some (.bool false)) := (hb.cell (p := ⟨w.heap.size + 1, 2, none⟩) hz1).trans HC3.out
          have hz2 : w.heap.size + 1 < w2.heap.size := Nat.lt_of_lt_of_le hz1 hb.size
          have h3 := HX.out.leaf rfl w2 HB2.out
          clear hb h2 c0 c1 HC0 HC1 HC2 HC3
          go_wp2_with fail
          refine h3.mono ?_
          rintro e w3 ⟨rfl, hb⟩
          have HB3 : Hid (Below (ownOX w A0 n cap Ax m cx N false).heap.size (ownOX w A0 n cap Ax m cx N false) w3) := onB HB2.out hb
          have f1 : w3.cell? ⟨w.heap.size + 1, 0, none⟩ = some (.slice Ax m cx) := (hb.cell (p := ⟨w.heap.size + 1, 0, none⟩) hz2).trans HD1.out
          have f2 : w3.cell? ⟨w.heap.size + 1, 1, none⟩ = some (.int .i64 N) := (hb.cell (p := ⟨w.heap.size + 1, 1, none⟩) hz2).trans HD2.out
          have f3 : w3.cell? ⟨w.heap.size + 1, 2, none⟩ = some (.bool false) := (hb.cell (p := ⟨w.heap.size + 1, 2, none⟩) hz2).trans HD3.out
          have hz3 : w.heap.size + 1 < w3.heap.size := Nat.lt_of_lt_of_le hz2 hb.size
          clear hb h3 d0 d1 HD1 HD2 HD3
          go_wp2_with fail
          go_ret2
          rw [HE.out]
          exact ⟨rfl, onB HB0.out HB3.out⟩
        · by_cases hhi : 1000000 < N
          · have HE : Hid (E = 1) := by show _ = _; rw [hE, if_pos (by simp [numOk]; omega)]
            clear hE h0
            go_enter Tryd.func19, Tryd.ntmps19
            go_wp2_with fail
            refine h1.mono ?_
            rintro e w1 ⟨rfl, hb⟩
            have HB1 : Hid (Below (ownOX w A0 n cap Ax m cx N false).heap.size (ownOX w A0 n cap Ax m cx N false) w1) := hb
            have c0 := (hb.cell (p := ⟨w.heap.size, 0, none⟩) (by show w.heap.size < _; rw [ownOX_size]; omega)).trans (ownOX_o w A0 n cap Ax m cx N false)
            have c1 := (hb.cell (p := ⟨w.heap.size + 1, 0, none⟩) (by show w.heap.size + 1 < _; rw [ownOX_size]; omega)).trans (ownOX_x w A0 n cap Ax m cx N false).1
            have HC2 : Hid (w1.cell? ⟨w.heap.size + 1, 1, none⟩ = some (.int .i64 N)) := (hb.cell (p := ⟨w.heap.size + 1, 1, none⟩) (by show w.heap.size + 1 < _; rw [ownOX_size]; omega)).trans (ownOX_x w A0 n cap Ax m cx N false).2.1
            have HC3 : Hid (w1.cell? ⟨w.heap.size + 1, 2, none⟩ = some (.bool false)) := (hb.cell (p := ⟨w.heap.size + 1, 2, none⟩) (by show w.heap.size + 1 < _; rw [ownOX_size]; omega)).trans (ownOX_x w A0 n cap Ax m cx N false).2.2
            have hz1 : w.heap.size + 1 < w1.heap.size := by have := hb.size; rw [ownOX_size] at this; omega
            have HC0 : Hid (w1.cell? ⟨w.heap.size, 0, none⟩ = some (.slice A0 n cap)) := c0
            have HC1 : Hid (w1.cell? ⟨w.heap.size + 1, 0, none⟩ = some (.slice Ax m cx)) := c1
            have h2 := HX.out.find rfl w1 hb
            clear hb h1
            go_wp2_with fail
            refine h2.mono ?_
            rintro e w2 ⟨rfl, hb⟩
            have HB2 : Hid (Below (ownOX w A0 n cap Ax m cx N false).heap.size (ownOX w A0 n cap Ax m cx N false) w2) := onB HB1.out hb
            have d0 : w2.cell? ⟨w.heap.size, 0, none⟩ = some (.slice A0 n cap) := (hb.cell (p := ⟨w.heap.size, 0, none⟩) (by show w.heap.size < _; omega)).trans HC0.out
            have d1 : w2.cell? ⟨w.heap.size + 1, 0, none⟩ = some (.slice Ax m cx) := (hb.cell (p := ⟨w.heap.size + 1, 0, none⟩) hz1).trans HC1.out
            have HD1 : Hid (w2.cell? ⟨w.heap.size + 1, 0, none⟩ = some (.slice Ax m cx)) := d1
            have HD2 : Hid (w2.cell? ⟨w.heap.size + 1, 1, none⟩ = some (.int .i64 N)) := (hb.cell (p := ⟨w.heap.size + 1, 1, none⟩) hz1).trans HC2.out
            have HD3 : Hid (w2.cell? ⟨w.heap.size + 1, 2, none⟩ = some (.bool false)) := (hb.cell (p := ⟨w.heap.size + 1, 2, none⟩) hz1).trans HC3.out
            have hz2 : w.heap.size + 1 < w2.heap.size := Nat.lt_of_lt_of_le hz1 hb.size
            have h3 := HX.out.leaf rfl w2 HB2.out
            clear hb h2 c0 c1 HC0 HC1 HC2 HC3
            go_wp2_with fail
            refine h3.mono ?_
            rintro e w3 ⟨rfl, hb⟩
            have HB3 : Hid (Below (ownOX w A0 n cap Ax m cx N false).heap.size (ownOX w A0 n cap Ax m cx N false) w3) := onB HB2.out hb
            have f1 : w3.cell? ⟨w.heap.size + 1, 0, none⟩ = some (.slice Ax m cx) := (hb.cell (p := ⟨w.heap.size + 1, 0, none⟩) hz2).trans HD1.out
            have f2 : w3.cell? ⟨w.heap.size + 1, 1, none⟩ = some (.int .i64 N) := (hb.cell (p := ⟨w.heap.size + 1, 1, none⟩) hz2).trans HD2.out
            have f3 : w3.cell? ⟨w.heap.size + 1, 2, none⟩ = some (.bool false) := (hb.cell (p := ⟨w.heap.size + 1, 2, none⟩) hz2).trans HD3.out
            have hz3 : w.heap.size + 1 < w3.heap.size := Nat.lt_of_lt_of_le hz2 hb.size
            clear hb h3 d0 d1 HD1 HD2 HD3
            go_wp2_with fail
            go_ret2
            rw [HE.out]
            exact ⟨rfl, onB HB0.out HB3.out⟩
          · exact absurd (by rw [hE, if_neg (by simp [numOk]; omega)]) h0
    · rw [if_pos rfl] at hE
      cases has
      · have HE : Hid (E = 5) := hE
        clear hE h0
        go_enter Tryd.func19, Tryd.ntmps19
        go_wp2_with fail
        refine h1.mono ?_
        rintro e w1 ⟨rfl, hb⟩
        have HB1 : Hid (Below (ownOX w A0 n cap Ax m cx N true).heap.size (ownOX w A0 n cap Ax m cx N true) w1) := hb
        have c0 := (hb.cell (p := ⟨w.heap.size, 0, none⟩) (by show w.heap.size < _; rw [ownOX_size]; omega)).trans (ownOX_o w A0 n cap Ax m cx N true)
        have c1 := (hb.cell (p := ⟨w.heap.size + 1, 0, none⟩) (by show w.heap.size + 1 < _; rw [ownOX_size]; omega)).trans (ownOX_x w A0 n cap Ax m cx N true).1
        have HC2 : Hid (w1.cell? ⟨w.heap.size + 1, 1, none⟩ = some (.int .i64 N)) := (hb.cell (p := ⟨w.heap.size + 1, 1, none⟩) (by show w.heap.size + 1 < _; rw [ownOX_size]; omega)).trans (ownOX_x w A0 n cap Ax m cx N true).2.1
        have HC3 : Hid (w1.cell? ⟨w.heap.size + 1, 2, none⟩ = some (.bool true)) := (hb.cell (p := ⟨w.heap.size + 1, 2, none⟩) (by show w.heap.size + 1 < _; rw [ownOX_size]; omega)).trans (ownOX_x w A0 n cap Ax m cx N true).2.2
        have hz1 : w.heap.size + 1 < w1.heap.size := by have := hb.size; rw [ownOX_size] at this; omega
        have HC0 : Hid (w1.cell? ⟨w.heap.size, 0, none⟩ = some (.slice A0 n cap)) := c0
        have HC1 : Hid (w1.cell? ⟨w.heap.size + 1, 0, none⟩ = some (.slice Ax m cx)) := c1
        have h2 := HX.out.find rfl w1 hb
        clear hb h1
        go_wp2_with fail
        refine h2.mono ?_
        rintro e w2 ⟨rfl, hb⟩
        have HB2 : Hid (Below (ownOX w A0 n cap Ax m cx N true).heap.size (ownOX w A0 n cap Ax m cx N true) w2) := onB HB1.out hb
        have d0 : w2.cell? ⟨w.heap.size, 0, none⟩ = some (.slice A0 n cap) := (hb.cell (p := ⟨w.heap.size, 0, none⟩) (by show w.heap.size < _; omega)).trans HC0.out
        have d1 : w2.cell? ⟨w.heap.size + 1, 0, none⟩ = some (.slice Ax m cx) := (hb.cell (p := ⟨w.heap.size + 1, 0, none⟩) hz1).trans HC1.out
        have HD1 : Hid (w2.cell? ⟨w.heap.size + 1, 0, none⟩ = some (.slice Ax m cx)) := d1
        have HD2 : Hid (w2.cell? ⟨w.heap.size + 1, 1, none⟩ = some (.int .i64 N)) := (hb.cell (p := ⟨w.heap.size + 1, 1, none⟩) hz1).trans HC2.out
        have HD3 : Hid (w2.cell? ⟨w.heap.size + 1, 2, none⟩ = some (.bool true)) := (hb.cell (p := ⟨w.heap.size + 1, 2, none⟩) hz1).trans HC3.out
        have hz2 : w.heap.size + 1 < w2.heap.size := Nat.lt_of_lt_of_le hz1 hb.size
        have h3 := HX.out.leaf rfl w2 HB2.out
        clear hb h2 c0 c1 HC0 HC1 HC2 HC3
        go_wp2_with fail
        refine h3.mono ?_
        rintro e w3 ⟨rfl, hb⟩
        have HB3 : Hid (Below (ownOX w A0 n cap Ax m cx N true).heap.size (ownOX w A0 n cap Ax m cx N true) w3) := onB HB2.out hb
        have f1 : w3.cell? ⟨w.heap.size + 1, 0, none⟩ = some (.slice Ax m cx) := (hb.cell (p := ⟨w.heap.size + 1, 0, none⟩) hz2).trans HD1.out
        have f2 : w3.cell? ⟨w.heap.size + 1, 1, none⟩ = some (.int .i64 N) := (hb.cell (p := ⟨w.heap.size + 1, 1, none⟩) hz2).trans HD2.out
        have f3 : w3.cell? ⟨w.heap.size + 1, 2, none⟩ = some (.bool true) := (hb.cell (p := ⟨w.heap.size + 1, 2, none⟩) hz2).trans HD3.out
        have hz3 : w.heap.size + 1 < w3.heap.size := Nat.lt_of_lt_of_le hz2 hb.size
        clear hb h3 d0 d1 HD1 HD2 HD3
        go_wp2_with fail
        go_ret2
        rw [HE.out]
        exact ⟨rfl, onB HB0.out HB3.out⟩
      · exact absurd hE h0
  · have HE : Hid (E = SE) := by show _ = _; rw [hE, if_pos (by simpa using hSE)]
    have hSE' : (SE == 0) = false := by simpa using hSE
    clear hE h0 HX
    go_enter Tryd.func19, Tryd.ntmps19
    go_wp2_with fail
    refine h1.mono ?_
    rintro e w1 ⟨rfl, hb⟩
    have HB1 : Hid (Below w.heap.size w w1) := onB HB0.out hb
    clear hb
    go_wp2_with fail
    go_ret2
    rw [HE.out]
    exact ⟨rfl, HB1.out⟩
end Go.Proofs.YtgkhnmkfeolidacDoor

namespace Go.Proofs.YtgkhnmkfeolidacDoor
open Go.ChangeShapes Go.WideShapes Go.ChangeAt Go.RowKit
set_option maxRecDepth 20000

theorem zs_set (xs : List EnL) (x : EnL) (i j : Nat) : cellsE (xs.take i ++ x :: xs.drop j) = cellsE (xs.take i) ++ cellsE [x] ++ cellsE (xs.drop j) := by
  rw [show x :: xs.drop j = [x] ++ xs.drop j from rfl, cellsE_append, cellsE_append, List.append_assoc]
/-- what an edit that is right is handed: entries that lie, a place, how many stand ahead -/
structure EditGood (w : World) (b o ce : Nat) (xs : List EnL) (Ax : Option Addr) (cx : Nat) (p : List Int) (i j : Nat) : Prop where
  cells : ∀ w', Below w.heap.size w w' → ∀ k u, (cellsE xs)[k]? = some u → w'.cell? ⟨b, o + k, none⟩ = some u
  pls : ∀ x ∈ xs, PlAt w x.A x.c x.e.pl
  pl : PlAt w Ax cx p
  few : xs.length ≤ 3000
  cap : xs.length ≤ ce
  big : ce ≤ 9223372036854775807
  fst : i ≤ xs.length
  snd : j ≤ xs.length
  ij : i ≤ j ∧ j ≤ i + 1

set_option maxHeartbeats 8000000 in
theorem redit_new (A0 : Option Addr) (cap n : Nat) (b o ce : Nat) (xs : List EnL) (Ax : Option Addr) (m cx : Nat) (p : List Int) (N : Int) (cnt : Nat) (lf : Bool) (w : World) (hm : p.length = m) (hX : EditCalls (ownOX w A0 n cap Ax m cx N false) A0 cap n (some ⟨b, o, none⟩) xs.length ce Ax m cx 0 cnt false lf) (hlf : lf = true) (hlo : ¬ N < -1000000) (hhi : ¬ 1000000 < N) (hG : EditGood w b o ce xs Ax cx p cnt (cnt)) :
    Calls Tryd.prog 19 #[.agg #[.slice A0 n cap], .slice (some ⟨b, o, none⟩) xs.length ce, .agg #[.slice Ax m cx, .int .i64 N, .bool false]] w fun e w' => (∃ B c zs, e = .returned (.tuple #[.slice B zs.length c, .int .i64 0]) ∧ EnsN w' B c zs ∧ lE zs = (lE xs).take cnt ++ ⟨p, N⟩ :: (lE xs).drop (cnt)) ∧ Below w.heap.size w w' := by
  obtain ⟨i0, hi0, hz0, hz1', hz2'⟩ := info_parts Tryd.infoEnt
  have HX : Hid (EditCalls (ownOX w A0 n cap Ax m cx N false) A0 cap n (some ⟨b, o, none⟩) xs.length ce Ax m cx 0 cnt false lf) := hX
  have HB0 : Hid (Below w.heap.size w (ownOX w A0 n cap Ax m cx N false)) := ownOX_below ..
  have h1 := hX.place _ (Below.refl _ _)
  have HG : Hid (EditGood w b o ce xs Ax cx p cnt (cnt)) := hG
  have HM : Hid (p.length = m) := hm
  obtain ⟨nx, hnx⟩ : ∃ nx, xs.length = nx := ⟨_, rfl⟩
  have hfew := hG.few
  have hcap := hG.cap
  have hbig := hG.big
  have hfst := hG.fst
  have hsnd := hG.snd
  have HL1 : Hid ((cellsE (xs.take cnt)).length = cnt * 2) := by show _ = _; rw [cellsE_len, List.length_take, Nat.min_eq_left hfst]
  have HL2 : Hid ((cellsE (xs.drop (cnt))).length = (nx - (cnt)) * 2) := by show _ = _; rw [cellsE_len, List.length_drop, hnx]
  have HS1 : Hid (∀ w', Below w.heap.size w w' → ∀ k u, (cellsE (xs.take cnt))[k]? = some u → w'.cell? ((⟨b, o, none⟩ : Addr).add k) = some u) := fun w' hw' k u hk => by
    rw [plain_add]
    rw [← cellsE_take, List.getElem?_take] at hk
    split at hk
    · exact hG.cells w' hw' k u hk
    · cases hk
  obtain ⟨A2, hA2, HS2⟩ : ∃ A2 : Addr, (if ce = cnt then some (⟨b, o, none⟩ : Addr) else some ⟨b, o + (cnt) * 2, none⟩) = some A2 ∧ Hid (∀ w', Below w.heap.size w w' → ∀ k u, (cellsE (xs.drop (cnt)))[k]? = some u → w'.cell? (A2.add k) = some u) := by
    by_cases h : ce = cnt
    · refine ⟨⟨b, o, none⟩, by simp [h], fun w' hw' k u hk => ?_⟩
      have h0 : cellsE (xs.drop (cnt)) = [] := List.eq_nil_of_length_eq_zero (by rw [HL2.out]; omega)
      rw [h0] at hk
      simp at hk
    · refine ⟨⟨b, o + (cnt) * 2, none⟩, by simp [h], fun w' hw' k u hk => ?_⟩
      rw [← cellsE_drop, List.getElem?_drop] at hk
      rw [plain_add, Nat.add_assoc]
      exact hG.cells w' hw' _ u hk
  have HZ : Hid ((xs.take cnt ++ ⟨⟨p, N⟩, Ax, cx⟩ :: xs.drop (cnt)).length = cnt + 1 + (nx - (cnt))) := by show _ = _; simp only [List.length_append, List.length_cons, List.length_take, List.length_drop, hnx]; omega
  have HLE : Hid (lE (xs.take cnt ++ ⟨⟨p, N⟩, Ax, cx⟩ :: xs.drop (cnt)) = (lE xs).take cnt ++ ⟨p, N⟩ :: (lE xs).drop (cnt)) := by show _ = _; simp [lE]
  have HCZ : Hid (cellsE (xs.take cnt ++ ⟨⟨p, N⟩, Ax, cx⟩ :: xs.drop (cnt)) = cellsE (xs.take cnt) ++ cellsE [⟨⟨p, N⟩, Ax, cx⟩] ++ cellsE (xs.drop (cnt))) := zs_set ..
  rw [hnx] at HX hfew hcap hfst hsnd ⊢
  have hi' : (cnt : Int) ≤ (nx : Int) := by omega
  have hj' : (((cnt : Nat)) : Int) ≤ (nx : Int) := by omega
  have hn' : (nx : Int) ≤ 3000 := by omega
  have hcc : (nx : Int) ≤ (ce : Int) := by omega
  clear hX hG hm hnx
  subst hlf
  go_enter Tryd.func19, Tryd.ntmps19
  go_wp2_with fail
  refine h1.mono ?_
  rintro e w1 ⟨rfl, hb⟩
  have HB1 : Hid (Below (ownOX w A0 n cap Ax m cx N false).heap.size (ownOX w A0 n cap Ax m cx N false) w1) := hb
  have c0 := (hb.cell (p := ⟨w.heap.size, 0, none⟩) (by show w.heap.size < _; rw [ownOX_size]; omega)).trans (ownOX_o w A0 n cap Ax m cx N false)
  have c1 := (hb.cell (p := ⟨w.heap.size + 1, 0, none⟩) (by show w.heap.size + 1 < _; rw [ownOX_size]; omega)).trans (ownOX_x w A0 n cap Ax m cx N false).1
  have HC2 : Hid (w1.cell? ⟨w.heap.size + 1, 1, none⟩ = some (.int .i64 N)) := (hb.cell (p := ⟨w.heap.size + 1, 1, none⟩) (by show w.heap.size + 1 < _; rw [ownOX_size]; omega)).trans (ownOX_x w A0 n cap Ax m cx N false).2.1
  have HC3 : Hid (w1.cell? ⟨w.heap.size + 1, 2, none⟩ = some (.bool false)) := (hb.cell (p := ⟨w.heap.size + 1, 2, none⟩) (by show w.heap.size + 1 < _; rw [ownOX_size]; omega)).trans (ownOX_x w A0 n cap Ax m cx N false).2.2
  have hz1 : w.heap.size + 1 < w1.heap.size := by have := hb.size; rw [ownOX_size] at this; omega
  have HC0 : Hid (w1.cell? ⟨w.heap.size, 0, none⟩ = some (.slice A0 n cap)) := c0
  have HC1 : Hid (w1.cell? ⟨w.heap.size + 1, 0, none⟩ = some (.slice Ax m cx)) := c1
  have h2 := HX.out.find rfl w1 hb
  clear hb h1
  go_wp2_with fail
  refine h2.mono ?_
  rintro e w2 ⟨rfl, hb⟩
  have HB2 : Hid (Below (ownOX w A0 n cap Ax m cx N false).heap.size (ownOX w A0 n cap Ax m cx N false) w2) := onB HB1.out hb
  have d0 : w2.cell? ⟨w.heap.size, 0, none⟩ = some (.slice A0 n cap) := (hb.cell (p := ⟨w.heap.size, 0, none⟩) (by show w.heap.size < _; omega)).trans HC0.out
  have d1 : w2.cell? ⟨w.heap.size + 1, 0, none⟩ = some (.slice Ax m cx) := (hb.cell (p := ⟨w.heap.size + 1, 0, none⟩) hz1).trans HC1.out
  have HD1 : Hid (w2.cell? ⟨w.heap.size + 1, 0, none⟩ = some (.slice Ax m cx)) := d1
  have HD2 : Hid (w2.cell? ⟨w.heap.size + 1, 1, none⟩ = some (.int .i64 N)) := (hb.cell (p := ⟨w.heap.size + 1, 1, none⟩) hz1).trans HC2.out
  have HD3 : Hid (w2.cell? ⟨w.heap.size + 1, 2, none⟩ = some (.bool false)) := (hb.cell (p := ⟨w.heap.size + 1, 2, none⟩) hz1).trans HC3.out
  have hz2 : w.heap.size + 1 < w2.heap.size := Nat.lt_of_lt_of_le hz1 hb.size
  have h3 := HX.out.leaf rfl w2 HB2.out
  clear hb h2 c0 c1 HC0 HC1 HC2 HC3
  go_wp2_with fail
  refine h3.mono ?_
  rintro e w3 ⟨rfl, hb⟩
  have HB3 : Hid (Below (ownOX w A0 n cap Ax m cx N false).heap.size (ownOX w A0 n cap Ax m cx N false) w3) := onB HB2.out hb
  have f1 : w3.cell? ⟨w.heap.size + 1, 0, none⟩ = some (.slice Ax m cx) := (hb.cell (p := ⟨w.heap.size + 1, 0, none⟩) hz2).trans HD1.out
  have f2 : w3.cell? ⟨w.heap.size + 1, 1, none⟩ = some (.int .i64 N) := (hb.cell (p := ⟨w.heap.size + 1, 1, none⟩) hz2).trans HD2.out
  have f3 : w3.cell? ⟨w.heap.size + 1, 2, none⟩ = some (.bool false) := (hb.cell (p := ⟨w.heap.size + 1, 2, none⟩) hz2).trans HD3.out
  have hz3 : w.heap.size + 1 < w3.heap.size := Nat.lt_of_lt_of_le hz2 hb.size
  clear hb h3 d0 d1 HD1 HD2 HD3
  have HW3 : Hid (Below w.heap.size w w3) := onB HB0.out HB3.out
  go_wp2_with (at_builtin; refine wpList_append_own _ rfl _ _ 43 rfl (ownOX w A0 n cap Ax m cx N false).heap.size 77 i0 (.agg #[.slice none 0 0, .int .i64 0]) 2 32 Tryd.underlying43 hi0 hz0 hz1' hz2' rfl (by decide) _ _ _ rfl (World.ownsRow_nil w3 (ownOX w A0 n cap Ax m cx N false).heap.size 77 2) ⟨b, o, none⟩ cnt ce (cellsE (xs.take cnt)) rfl ?qc1 ?qc2 ?qc3 ?qc4 ?qc5 ?qc6 ?_)
  case qc1 => exact HL1.out
  case qc2 => exact HS1.out w3 HW3.out
  case qc3 => exact cellsE_one _
  case qc4 => simp only [maxLen]; omega
  case qc5 => omega
  case qc6 => exact HB3.out.size
  intro v1 w4 hown1 hgrow1 _
  have ho1 : w4.ownsRow (ownOX w A0 n cap Ax m cx N false).heap.size 77 2 v1 cnt (cellsE (xs.take cnt)) := by simpa using hown1
  have HO1 : Hid (w4.ownsRow (ownOX w A0 n cap Ax m cx N false).heap.size 77 2 v1 cnt (cellsE (xs.take cnt))) := ho1
  have hB4 : Below (ownOX w A0 n cap Ax m cx N false).heap.size (ownOX w A0 n cap Ax m cx N false) w4 := own_on HB3.out HB3.out.size (World.ownsRow_nil w3 (ownOX w A0 n cap Ax m cx N false).heap.size 77 2) hgrow1
  have HB4 : Hid (Below (ownOX w A0 n cap Ax m cx N false).heap.size (ownOX w A0 n cap Ax m cx N false) w4) := hB4
  have hzW : w.heap.size + 1 < (ownOX w A0 n cap Ax m cx N false).heap.size := by rw [ownOX_size]; omega
  have g1 : w4.cell? ⟨w.heap.size + 1, 0, none⟩ = some (.slice Ax m cx) := (hB4.cell (p := ⟨w.heap.size + 1, 0, none⟩) hzW).trans (ownOX_x w A0 n cap Ax m cx N false).1
  have g2 : w4.cell? ⟨w.heap.size + 1, 1, none⟩ = some (.int .i64 N) := (hB4.cell (p := ⟨w.heap.size + 1, 1, none⟩) hzW).trans (ownOX_x w A0 n cap Ax m cx N false).2.1
  have g3 : w4.cell? ⟨w.heap.size + 1, 2, none⟩ = some (.bool false) := (hB4.cell (p := ⟨w.heap.size + 1, 2, none⟩) hzW).trans (ownOX_x w A0 n cap Ax m cx N false).2.2
  clear hown1 hgrow1 ho1 f1 f2 f3 hB4
  have hbe := ownEn_below w4 Ax m cx N 77
  have HOe : Hid ((ownEn w4 Ax m cx N 77).ownsRow (ownOX w A0 n cap Ax m cx N false).heap.size 77 2 v1 cnt (cellsE (xs.take cnt))) := own_later HO1.out hbe
  have HBe : Hid (Below (ownOX w A0 n cap Ax m cx N false).heap.size (ownOX w A0 n cap Ax m cx N false) (ownEn w4 Ax m cx N 77)) := onB HB4.out hbe
  have HAt : Hid (∀ k u, (cellsE [⟨⟨p, N⟩, Ax, cx⟩])[k]? = some u → (ownEn w4 Ax m cx N 77).cell? ((⟨w4.heap.size, 0, none⟩ : Addr).add k) = some u) := fun k u hk => by
    have hh : (ownEn w4 Ax m cx N 77).heap[w4.heap.size]? = some (.cells #[.slice Ax m cx, .int .i64 N] 77 (0, 0)) := heap_alloc_new w4 _
    rw [plain_add, Nat.zero_add, Lib.cell_of_heap hh]
    simpa [cellsE, HM.out] using hk
  clear hbe
  go_wp2_with (at_builtin; refine wpList_append_own _ rfl _ _ 43 rfl (ownOX w A0 n cap Ax m cx N false).heap.size 77 i0 (.agg #[.slice none 0 0, .int .i64 0]) 2 32 Tryd.underlying43 hi0 hz0 hz1' hz2' rfl (by decide) _ _ _ rfl HOe.out ⟨w4.heap.size, 0, none⟩ 1 1 (cellsE [⟨⟨p, N⟩, Ax, cx⟩]) rfl rfl HAt.out (cellsE_one _) ?qd4 ?qd5 HBe.out.size ?_)
  case qd4 => simp only [maxLen]; omega
  case qd5 => omega
  intro v2 w5 hown2 hgrow2 _
  have HO2 : Hid (w5.ownsRow (ownOX w A0 n cap Ax m cx N false).heap.size 77 2 v2 (cnt + 1) (cellsE (xs.take cnt) ++ cellsE [⟨⟨p, N⟩, Ax, cx⟩])) := hown2
  have HB5 : Hid (Below (ownOX w A0 n cap Ax m cx N false).heap.size (ownOX w A0 n cap Ax m cx N false) w5) := own_on HBe.out HBe.out.size HOe.out hgrow2
  clear hown2 hgrow2 g1 g2 g3
  have hwj : IntKind.i64.wrap ((cnt : Int) + 1) = (cnt : Int) + 1 := by rw [IntKind.wrap_i64]; omega
  have htn : ((cnt : Int) + 1).toNat = cnt + 1 := by omega
  have hS3 := HS2.out w5 (onB HB0.out HB5.out)
  go_wp2_with (at_builtin; refine wpList_append_own _ rfl _ _ 43 rfl (ownOX w A0 n cap Ax m cx N false).heap.size 77 i0 (.agg #[.slice none 0 0, .int .i64 0]) 2 32 Tryd.underlying43 hi0 hz0 hz1' hz2' rfl (by decide) _ _ _ rfl HO2.out A2 (nx - (cnt)) (ce - (cnt)) (cellsE (xs.drop (cnt))) rfl HL2.out hS3 (cellsE_one _) ?qe4 ?qe5 HB5.out.size ?_)
  case qe4 => simp only [maxLen]; omega
  case qe5 => omega
  intro v3 w6 hown3 hgrow3 _
  have HB6 : Hid (Below w.heap.size w w6) := onB HB0.out (own_on HB5.out HB5.out.size HO2.out hgrow3)
  obtain ⟨B, c, hv3, hV⟩ := ens_own (w := w6) (base := (ownOX w A0 n cap Ax m cx N false).heap.size) (v := v3) (zs := xs.take cnt ++ ⟨⟨p, N⟩, Ax, cx⟩ :: xs.drop (cnt)) (by rw [HCZ.out, HZ.out, List.append_assoc]; exact hown3) (fun y hy => by
    have hB := HB6.out
    rcases List.mem_append.1 hy with hy | hy
    · exact (HG.out.pls y (List.mem_of_mem_take hy)).later hB
    · rcases List.mem_cons.1 hy with rfl | hy
      · exact HG.out.pl.later hB
      · exact (HG.out.pls y (List.mem_of_mem_drop hy)).later hB)
  have HV : Hid (EnsN w6 B c (xs.take cnt ++ ⟨⟨p, N⟩, Ax, cx⟩ :: xs.drop (cnt))) := hV
  rw [hv3, HZ.out]
  clear hown3 hgrow3 hV hv3
  go_wp2_with fail
  go_ret2
  exact ⟨⟨B, c, _, by rw [HZ.out]; rfl, HV.out, HLE.out⟩, HB6.out⟩

set_option maxHeartbeats 8000000 in
theorem redit_old (A0 : Option Addr) (cap n : Nat) (b o ce : Nat) (xs : List EnL) (Ax : Option Addr) (m cx : Nat) (p : List Int) (N : Int) (cnt : Nat) (lf : Bool) (w : World) (hm : p.length = m) (hX : EditCalls (ownOX w A0 n cap Ax m cx N false) A0 cap n (some ⟨b, o, none⟩) xs.length ce Ax m cx 0 cnt true lf) (hlf : lf = true) (hlo : ¬ N < -1000000) (hhi : ¬ 1000000 < N) (hG : EditGood w b o ce xs Ax cx p cnt (cnt + 1)) :
    Calls Tryd.prog 19 #[.agg #[.slice A0 n cap], .slice (some ⟨b, o, none⟩) xs.length ce, .agg #[.slice Ax m cx, .int .i64 N, .bool false]] w fun e w' => (∃ B c zs, e = .returned (.tuple #[.slice B zs.length c, .int .i64 0]) ∧ EnsN w' B c zs ∧ lE zs = (lE xs).take cnt ++ ⟨p, N⟩ :: (lE xs).drop (cnt + 1)) ∧ Below w.heap.size w w' := by
  obtain ⟨i0, hi0, hz0, hz1', hz2'⟩ := info_parts Tryd.infoEnt
  have HX : Hid (EditCalls (ownOX w A0 n cap Ax m cx N false) A0 cap n (some ⟨b, o, none⟩) xs.length ce Ax m cx 0 cnt true lf) := hX
  have HB0 : Hid (Below w.heap.size w (ownOX w A0 n cap Ax m cx N false)) := ownOX_below ..
  have h1 := hX.place _ (Below.refl _ _)
  have HG : Hid (EditGood w b o ce xs Ax cx p cnt (cnt + 1)) := hG
  have HM : Hid (p.length = m) := hm
  obtain ⟨nx, hnx⟩ : ∃ nx, xs.length = nx := ⟨_, rfl⟩
  have hfew := hG.few
  have hcap := hG.cap
  have hbig := hG.big
  have hfst := hG.fst
  have hsnd := hG.snd
  have HL1 : Hid ((cellsE (xs.take cnt)).length = cnt * 2) := by show _ = _; rw [cellsE_len, List.length_take, Nat.min_eq_left hfst]
  have HL2 : Hid ((cellsE (xs.drop (cnt + 1))).length = (nx - (cnt + 1)) * 2) := by show _ = _; rw [cellsE_len, List.length_drop, hnx]
  have HS1 : Hid (∀ w', Below w.heap.size w w' → ∀ k u, (cellsE (xs.take cnt))[k]? = some u → w'.cell? ((⟨b, o, none⟩ : Addr).add k) = some u) := fun w' hw' k u hk => by
    rw [plain_add]
    rw [← cellsE_take, List.getElem?_take] at hk
    split at hk
    · exact hG.cells w' hw' k u hk
    · cases hk
  obtain ⟨A2, hA2, HS2⟩ : ∃ A2 : Addr, (if ce = cnt + 1 then some (⟨b, o, none⟩ : Addr) else some ⟨b, o + (cnt + 1) * 2, none⟩) = some A2 ∧ Hid (∀ w', Below w.heap.size w w' → ∀ k u, (cellsE (xs.drop (cnt + 1)))[k]? = some u → w'.cell? (A2.add k) = some u) := by
    by_cases h : ce = cnt + 1
    · refine ⟨⟨b, o, none⟩, by simp [h], fun w' hw' k u hk => ?_⟩
      have h0 : cellsE (xs.drop (cnt + 1)) = [] := List.eq_nil_of_length_eq_zero (by rw [HL2.out]; omega)
      rw [h0] at hk
      simp at hk
    · refine ⟨⟨b, o + (cnt + 1) * 2, none⟩, by simp [h], fun w' hw' k u hk => ?_⟩
      rw [← cellsE_drop, List.getElem?_drop] at hk
      rw [plain_add, Nat.add_assoc]
      exact hG.cells w' hw' _ u hk
  have HZ : Hid ((xs.take cnt ++ ⟨⟨p, N⟩, Ax, cx⟩ :: xs.drop (cnt + 1)).length = cnt + 1 + (nx - (cnt + 1))) := by show _ = _; simp only [List.length_append, List.length_cons, List.length_take, List.length_drop, hnx]; omega
  have HLE : Hid (lE (xs.take cnt ++ ⟨⟨p, N⟩, Ax, cx⟩ :: xs.drop (cnt + 1)) = (lE xs).take cnt ++ ⟨p, N⟩ :: (lE xs).drop (cnt + 1)) := by show _ = _; simp [lE]
  have HCZ : Hid (cellsE (xs.take cnt ++ ⟨⟨p, N⟩, Ax, cx⟩ :: xs.drop (cnt + 1)) = cellsE (xs.take cnt) ++ cellsE [⟨⟨p, N⟩, Ax, cx⟩] ++ cellsE (xs.drop (cnt + 1))) := zs_set ..
  rw [hnx] at HX hfew hcap hfst hsnd ⊢
  have hi' : (cnt : Int) ≤ (nx : Int) := by omega
  have hj' : (((cnt + 1 : Nat)) : Int) ≤ (nx : Int) := by omega
  have hn' : (nx : Int) ≤ 3000 := by omega
  have hcc : (nx : Int) ≤ (ce : Int) := by omega
  clear hX hG hm hnx
  subst hlf
  go_enter Tryd.func19, Tryd.ntmps19
  go_wp2_with fail
  refine h1.mono ?_
  rintro e w1 ⟨rfl, hb⟩
  have HB1 : Hid (Below (ownOX w A0 n cap Ax m cx N false).heap.size (ownOX w A0 n cap Ax m cx N false) w1) := hb
  have c0 := (hb.cell (p := ⟨w.heap.size, 0, none⟩) (by show w.heap.size < _; rw [ownOX_size]; omega)).trans (ownOX_o w A0 n cap Ax m cx N false)
  have c1 := (hb.cell (p := ⟨w.heap.size + 1, 0, none⟩) (by show w.heap.size + 1 < _; rw [ownOX_size]; omega)).trans (ownOX_x w A0 n cap Ax m cx N false).1
  have HC2 : Hid (w1.cell? ⟨w.heap.size + 1, 1, none⟩ = some (.int .i64 N)) := (hb.cell (p := ⟨w.heap.size + 1, 1, none⟩) (by show w.heap.size + 1 < _; rw [ownOX_size]; omega)).trans (ownOX_x w A0 n cap Ax m cx N false).2.1
  have HC3 : Hid (w1.cell? ⟨w.heap.size + 1, 2, none⟩ = some (.bool false)) := (hb.cell (p := ⟨w.heap.size + 1, 2, none⟩) (by show w.heap.size + 1 < _; rw [ownOX_size]; omega)).trans (ownOX_x w A0 n cap Ax m cx N false).2.2
  have hz1 : w.heap.size + 1 < w1.heap.size := by have := hb.size; rw [ownOX_size] at this; omega
  have HC0 : Hid (w1.cell? ⟨w.heap.size, 0, none⟩ = some (.slice A0 n cap)) := c0
  have HC1 : Hid (w1.cell? ⟨w.heap.size + 1, 0, none⟩ = some (.slice Ax m cx)) := c1
  have h2 := HX.out.find rfl w1 hb
  clear hb h1
  go_wp2_with fail
  refine h2.mono ?_
  rintro e w2 ⟨rfl, hb⟩
  have HB2 : Hid (Below (ownOX w A0 n cap Ax m cx N false).heap.size (ownOX w A0 n cap Ax m cx N false) w2) := onB HB1.out hb
  have d0 : w2.cell? ⟨w.heap.size, 0, none⟩ = some (.slice A0 n cap) := (hb.cell (p := ⟨w.heap.size, 0, none⟩) (by show w.heap.size < _; omega)).trans HC0.out
  have d1 : w2.cell? ⟨w.heap.size + 1, 0, none⟩ = some (.slice Ax m cx) := (hb.cell (p := ⟨w.heap.size + 1, 0, none⟩) hz1).trans HC1.out
  have HD1 : Hid (w2.cell? ⟨w.heap.size + 1, 0, none⟩ = some (.slice Ax m cx)) := d1
  have HD2 : Hid (w2.cell? ⟨w.heap.size + 1, 1, none⟩ = some (.int .i64 N)) := (hb.cell (p := ⟨w.heap.size + 1, 1, none⟩) hz1).trans HC2.out
  have HD3 : Hid (w2.cell? ⟨w.heap.size + 1, 2, none⟩ = some (.bool false)) := (hb.cell (p := ⟨w.heap.size + 1, 2, none⟩) hz1).trans HC3.out
  have hz2 : w.heap.size + 1 < w2.heap.size := Nat.lt_of_lt_of_le hz1 hb.size
  have h3 := HX.out.leaf rfl w2 HB2.out
  clear hb h2 c0 c1 HC0 HC1 HC2 HC3
  go_wp2_with fail
  refine h3.mono ?_
  rintro e w3 ⟨rfl, hb⟩
  have HB3 : Hid (Below (ownOX w A0 n cap Ax m cx N false).heap.size (ownOX w A0 n cap Ax m cx N false) w3) := onB HB2.out hb
  have f1 : w3.cell? ⟨w.heap.size + 1, 0, none⟩ = some (.slice Ax m cx) := (hb.cell (p := ⟨w.heap.size + 1, 0, none⟩) hz2).trans HD1.out
  have f2 : w3.cell? ⟨w.heap.size + 1, 1, none⟩ = some (.int .i64 N) := (hb.cell (p := ⟨w.heap.size + 1, 1, none⟩) hz2).trans HD2.out
  have f3 : w3.cell? ⟨w.heap.size + 1, 2, none⟩ = some (.bool false) := (hb.cell (p := ⟨w.heap.size + 1, 2, none⟩) hz2).trans HD3.out
  have hz3 : w.heap.size + 1 < w3.heap.size := Nat.lt_of_lt_of_le hz2 hb.size
  clear hb h3 d0 d1 HD1 HD2 HD3
  have HW3 : Hid (Below w.heap.size w w3) := onB HB0.out HB3.out
  go_wp2_with (at_builtin; refine wpList_append_own _ rfl _ _ 43 rfl (ownOX w A0 n cap Ax m cx N false).heap.size 77 i0 (.agg #[.slice none 0 0, .int .i64 0]) 2 32 Tryd.underlying43 hi0 hz0 hz1' hz2' rfl (by decide) _ _ _ rfl (World.ownsRow_nil w3 (ownOX w A0 n cap Ax m cx N false).heap.size 77 2) ⟨b, o, none⟩ cnt ce (cellsE (xs.take cnt)) rfl ?qc1 ?qc2 ?qc3 ?qc4 ?qc5 ?qc6 ?_)
  case qc1 => exact HL1.out
  case qc2 => exact HS1.out w3 HW3.out
  case qc3 => exact cellsE_one _
  case qc4 => simp only [maxLen]; omega
  case qc5 => omega
  case qc6 => exact HB3.out.size
  intro v1 w4 hown1 hgrow1 _
  have ho1 : w4.ownsRow (ownOX w A0 n cap Ax m cx N false).heap.size 77 2 v1 cnt (cellsE (xs.take cnt)) := by simpa using hown1
  have HO1 : Hid (w4.ownsRow (ownOX w A0 n cap Ax m cx N false).heap.size 77 2 v1 cnt (cellsE (xs.take cnt))) := ho1
  have hB4 : Below (ownOX w A0 n cap Ax m cx N false).heap.size (ownOX w A0 n cap Ax m cx N false) w4 := own_on HB3.out HB3.out.size (World.ownsRow_nil w3 (ownOX w A0 n cap Ax m cx N false).heap.size 77 2) hgrow1
  have HB4 : Hid (Below (ownOX w A0 n cap Ax m cx N false).heap.size (ownOX w A0 n cap Ax m cx N false) w4) := hB4
  have hzW : w.heap.size + 1 < (ownOX w A0 n cap Ax m cx N false).heap.size := by rw [ownOX_size]; omega
  have g1 : w4.cell? ⟨w.heap.size + 1, 0, none⟩ = some (.slice Ax m cx) := (hB4.cell (p := ⟨w.heap.size + 1, 0, none⟩) hzW).trans (ownOX_x w A0 n cap Ax m cx N false).1
  have g2 : w4.cell? ⟨w.heap.size + 1, 1, none⟩ = some (.int .i64 N) := (hB4.cell (p := ⟨w.heap.size + 1, 1, none⟩) hzW).trans (ownOX_x w A0 n cap Ax m cx N false).2.1
  have g3 : w4.cell? ⟨w.heap.size + 1, 2, none⟩ = some (.bool false) := (hB4.cell (p := ⟨w.heap.size + 1, 2, none⟩) hzW).trans (ownOX_x w A0 n cap Ax m cx N false).2.2
  clear hown1 hgrow1 ho1 f1 f2 f3 hB4
  have hbe := ownEn_below w4 Ax m cx N 77
  have HOe : Hid ((ownEn w4 Ax m cx N 77).ownsRow (ownOX w A0 n cap Ax m cx N false).heap.size 77 2 v1 cnt (cellsE (xs.take cnt))) := own_later HO1.out hbe
  have HBe : Hid (Below (ownOX w A0 n cap Ax m cx N false).heap.size (ownOX w A0 n cap Ax m cx N false) (ownEn w4 Ax m cx N 77)) := onB HB4.out hbe
  have HAt : Hid (∀ k u, (cellsE [⟨⟨p, N⟩, Ax, cx⟩])[k]? = some u → (ownEn w4 Ax m cx N 77).cell? ((⟨w4.heap.size, 0, none⟩ : Addr).add k) = some u) := fun k u hk => by
    have hh : (ownEn w4 Ax m cx N 77).heap[w4.heap.size]? = some (.cells #[.slice Ax m cx, .int .i64 N] 77 (0, 0)) := heap_alloc_new w4 _
    rw [plain_add, Nat.zero_add, Lib.cell_of_heap hh]
    simpa [cellsE, HM.out] using hk
  clear hbe
  go_wp2_with (at_builtin; refine wpList_append_own _ rfl _ _ 43 rfl (ownOX w A0 n cap Ax m cx N false).heap.size 77 i0 (.agg #[.slice none 0 0, .int .i64 0]) 2 32 Tryd.underlying43 hi0 hz0 hz1' hz2' rfl (by decide) _ _ _ rfl HOe.out ⟨w4.heap.size, 0, none⟩ 1 1 (cellsE [⟨⟨p, N⟩, Ax, cx⟩]) rfl rfl HAt.out (cellsE_one _) ?qd4 ?qd5 HBe.out.size ?_)
  case qd4 => simp only [maxLen]; omega
  case qd5 => omega
  intro v2 w5 hown2 hgrow2 _
  have HO2 : Hid (w5.ownsRow (ownOX w A0 n cap Ax m cx N false).heap.size 77 2 v2 (cnt + 1) (cellsE (xs.take cnt) ++ cellsE [⟨⟨p, N⟩, Ax, cx⟩])) := hown2
  have HB5 : Hid (Below (ownOX w A0 n cap Ax m cx N false).heap.size (ownOX w A0 n cap Ax m cx N false) w5) := own_on HBe.out HBe.out.size HOe.out hgrow2
  clear hown2 hgrow2 g1 g2 g3
  have hwj : IntKind.i64.wrap ((cnt : Int) + 1) = (cnt : Int) + 1 := by rw [IntKind.wrap_i64]; omega
  have htn : ((cnt : Int) + 1).toNat = cnt + 1 := by omega
  have hS3 := HS2.out w5 (onB HB0.out HB5.out)
  go_wp2_with (at_builtin; refine wpList_append_own _ rfl _ _ 43 rfl (ownOX w A0 n cap Ax m cx N false).heap.size 77 i0 (.agg #[.slice none 0 0, .int .i64 0]) 2 32 Tryd.underlying43 hi0 hz0 hz1' hz2' rfl (by decide) _ _ _ rfl HO2.out A2 (nx - (cnt + 1)) (ce - (cnt + 1)) (cellsE (xs.drop (cnt + 1))) rfl HL2.out hS3 (cellsE_one _) ?qe4 ?qe5 HB5.out.size ?_)
  case qe4 => simp only [maxLen]; omega
  case qe5 => omega
  intro v3 w6 hown3 hgrow3 _
  have HB6 : Hid (Below w.heap.size w w6) := onB HB0.out (own_on HB5.out HB5.out.size HO2.out hgrow3)
  obtain ⟨B, c, hv3, hV⟩ := ens_own (w := w6) (base := (ownOX w A0 n cap Ax m cx N false).heap.size) (v := v3) (zs := xs.take cnt ++ ⟨⟨p, N⟩, Ax, cx⟩ :: xs.drop (cnt + 1)) (by rw [HCZ.out, HZ.out, List.append_assoc, show cnt + 1 + (nx - (cnt + 1)) = nx by omega]; exact hown3) (fun y hy => by
    have hB := HB6.out
    rcases List.mem_append.1 hy with hy | hy
    · exact (HG.out.pls y (List.mem_of_mem_take hy)).later hB
    · rcases List.mem_cons.1 hy with rfl | hy
      · exact HG.out.pl.later hB
      · exact (HG.out.pls y (List.mem_of_mem_drop hy)).later hB)
  have HV : Hid (EnsN w6 B c (xs.take cnt ++ ⟨⟨p, N⟩, Ax, cx⟩ :: xs.drop (cnt + 1))) := hV
  rw [hv3, HZ.out]
  clear hown3 hgrow3 hV hv3
  go_wp2_with fail
  go_ret2
  exact ⟨⟨B, c, _, by rw [HZ.out]; rfl, HV.out, HLE.out⟩, HB6.out⟩

set_option maxHeartbeats 8000000 in
theorem redit_clr (A0 : Option Addr) (cap n : Nat) (b o ce : Nat) (xs : List EnL) (Ax : Option Addr) (m cx : Nat) (p : List Int) (N : Int) (cnt : Nat) (lf : Bool) (w : World) (hm : p.length = m) (hX : EditCalls (ownOX w A0 n cap Ax m cx N true) A0 cap n (some ⟨b, o, none⟩) xs.length ce Ax m cx 0 cnt true lf) (hG : EditGood w b o ce xs Ax cx p cnt (cnt + 1)) :
    Calls Tryd.prog 19 #[.agg #[.slice A0 n cap], .slice (some ⟨b, o, none⟩) xs.length ce, .agg #[.slice Ax m cx, .int .i64 N, .bool true]] w fun e w' => (∃ B c zs, e = .returned (.tuple #[.slice B zs.length c, .int .i64 0]) ∧ EnsN w' B c zs ∧ lE zs = (lE xs).take cnt ++ (lE xs).drop (cnt + 1)) ∧ Below w.heap.size w w' := by
  obtain ⟨i0, hi0, hz0, hz1', hz2'⟩ := info_parts Tryd.infoEnt
  have HX : Hid (EditCalls (ownOX w A0 n cap Ax m cx N true) A0 cap n (some ⟨b, o, none⟩) xs.length ce Ax m cx 0 cnt true lf) := hX
  have HB0 : Hid (Below w.heap.size w (ownOX w A0 n cap Ax m cx N true)) := ownOX_below ..
  have h1 := hX.place _ (Below.refl _ _)
  have HG : Hid (EditGood w b o ce xs Ax cx p cnt (cnt + 1)) := hG
  have HM : Hid (p.length = m) := hm
  obtain ⟨nx, hnx⟩ : ∃ nx, xs.length = nx := ⟨_, rfl⟩
  have hfew := hG.few
  have hcap := hG.cap
  have hbig := hG.big
  have hfst := hG.fst
  have hsnd := hG.snd
  have HL1 : Hid ((cellsE (xs.take cnt)).length = cnt * 2) := by show _ = _; rw [cellsE_len, List.length_take, Nat.min_eq_left hfst]
  have HL2 : Hid ((cellsE (xs.drop (cnt + 1))).length = (nx - (cnt + 1)) * 2) := by show _ = _; rw [cellsE_len, List.length_drop, hnx]
  have HS1 : Hid (∀ w', Below w.heap.size w w' → ∀ k u, (cellsE (xs.take cnt))[k]? = some u → w'.cell? ((⟨b, o, none⟩ : Addr).add k) = some u) := fun w' hw' k u hk => by
    rw [plain_add]
    rw [← cellsE_take, List.getElem?_take] at hk
    split at hk
    · exact hG.cells w' hw' k u hk
    · cases hk
  obtain ⟨A2, hA2, HS2⟩ : ∃ A2 : Addr, (if ce = cnt + 1 then some (⟨b, o, none⟩ : Addr) else some ⟨b, o + (cnt + 1) * 2, none⟩) = some A2 ∧ Hid (∀ w', Below w.heap.size w w' → ∀ k u, (cellsE (xs.drop (cnt + 1)))[k]? = some u → w'.cell? (A2.add k) = some u) := by
    by_cases h : ce = cnt + 1
    · refine ⟨⟨b, o, none⟩, by simp [h], fun w' hw' k u hk => ?_⟩
      have h0 : cellsE (xs.drop (cnt + 1)) = [] := List.eq_nil_of_length_eq_zero (by rw [HL2.out]; omega)
      rw [h0] at hk
      simp at hk
    · refine ⟨⟨b, o + (cnt + 1) * 2, none⟩, by simp [h], fun w' hw' k u hk => ?_⟩
      rw [← cellsE_drop, List.getElem?_drop] at hk
      rw [plain_add, Nat.add_assoc]
      exact hG.cells w' hw' _ u hk
  have HZ : Hid ((xs.take cnt ++ xs.drop (cnt + 1)).length = cnt + (nx - (cnt + 1))) := by show _ = _; simp only [List.length_append, List.length_take, List.length_drop, hnx]; omega
  have HLE : Hid (lE (xs.take cnt ++ xs.drop (cnt + 1)) = (lE xs).take cnt ++ (lE xs).drop (cnt + 1)) := by show _ = _; simp [lE]
  have HCZ : Hid (cellsE (xs.take cnt ++ xs.drop (cnt + 1)) = cellsE (xs.take cnt) ++ cellsE (xs.drop (cnt + 1))) := cellsE_append ..
  rw [hnx] at HX hfew hcap hfst hsnd ⊢
  have hi' : (cnt : Int) ≤ (nx : Int) := by omega
  have hj' : (((cnt + 1 : Nat)) : Int) ≤ (nx : Int) := by omega
  have hn' : (nx : Int) ≤ 3000 := by omega
  have hcc : (nx : Int) ≤ (ce : Int) := by omega
  clear hX hG hm hnx

  go_enter Tryd.func19, Tryd.ntmps19
  go_wp2_with fail
  refine h1.mono ?_
  rintro e w1 ⟨rfl, hb⟩
  have HB1 : Hid (Below (ownOX w A0 n cap Ax m cx N true).heap.size (ownOX w A0 n cap Ax m cx N true) w1) := hb
  have c0 := (hb.cell (p := ⟨w.heap.size, 0, none⟩) (by show w.heap.size < _; rw [ownOX_size]; omega)).trans (ownOX_o w A0 n cap Ax m cx N true)
  have c1 := (hb.cell (p := ⟨w.heap.size + 1, 0, none⟩) (by show w.heap.size + 1 < _; rw [ownOX_size]; omega)).trans (ownOX_x w A0 n cap Ax m cx N true).1
  have HC2 : Hid (w1.cell? ⟨w.heap.size + 1, 1, none⟩ = some (.int .i64 N)) := (hb.cell (p := ⟨w.heap.size + 1, 1, none⟩) (by show w.heap.size + 1 < _; rw [ownOX_size]; omega)).trans (ownOX_x w A0 n cap Ax m cx N true).2.1
  have HC3 : Hid (w1.cell? ⟨w.heap.size + 1, 2, none⟩ = some (.bool true)) := (hb.cell (p := ⟨w.heap.size + 1, 2, none⟩) (by show w.heap.size + 1 < _; rw [ownOX_size]; omega)).trans (ownOX_x w A0 n cap Ax m cx N true).2.2
  have hz1 : w.heap.size + 1 < w1.heap.size := by have := hb.size; rw [ownOX_size] at this; omega
  have HC0 : Hid (w1.cell? ⟨w.heap.size, 0, none⟩ = some (.slice A0 n cap)) := c0
  have HC1 : Hid (w1.cell? ⟨w.heap.size + 1, 0, none⟩ = some (.slice Ax m cx)) := c1
  have h2 := HX.out.find rfl w1 hb
  clear hb h1
  go_wp2_with fail
  refine h2.mono ?_
  rintro e w2 ⟨rfl, hb⟩
  have HB2 : Hid (Below (ownOX w A0 n cap Ax m cx N true).heap.size (ownOX w A0 n cap Ax m cx N true) w2) := onB HB1.out hb
  have d0 : w2.cell? ⟨w.heap.size, 0, none⟩ = some (.slice A0 n cap) := (hb.cell (p := ⟨w.heap.size, 0, none⟩) (by show w.heap.size < _; omega)).trans HC0.out
  have d1 : w2.cell? ⟨w.heap.size + 1, 0, none⟩ = some (.slice Ax m cx) := (hb.cell (p := ⟨w.heap.size + 1, 0, none⟩) hz1).trans HC1.out
  have HD1 : Hid (w2.cell? ⟨w.heap.size + 1, 0, none⟩ = some (.slice Ax m cx)) := d1
  have HD2 : Hid (w2.cell? ⟨w.heap.size + 1, 1, none⟩ = some (.int .i64 N)) := (hb.cell (p := ⟨w.heap.size + 1, 1, none⟩) hz1).trans HC2.out
  have HD3 : Hid (w2.cell? ⟨w.heap.size + 1, 2, none⟩ = some (.bool true)) := (hb.cell (p := ⟨w.heap.size + 1, 2, none⟩) hz1).trans HC3.out
  have hz2 : w.heap.size + 1 < w2.heap.size := Nat.lt_of_lt_of_le hz1 hb.size
  have h3 := HX.out.leaf rfl w2 HB2.out
  clear hb h2 c0 c1 HC0 HC1 HC2 HC3
  go_wp2_with fail
  refine h3.mono ?_
  rintro e w3 ⟨rfl, hb⟩
  have HB3 : Hid (Below (ownOX w A0 n cap Ax m cx N true).heap.size (ownOX w A0 n cap Ax m cx N true) w3) := onB HB2.out hb
  have f1 : w3.cell? ⟨w.heap.size + 1, 0, none⟩ = some (.slice Ax m cx) := (hb.cell (p := ⟨w.heap.size + 1, 0, none⟩) hz2).trans HD1.out
  have f2 : w3.cell? ⟨w.heap.size + 1, 1, none⟩ = some (.int .i64 N) := (hb.cell (p := ⟨w.heap.size + 1, 1, none⟩) hz2).trans HD2.out
  have f3 : w3.cell? ⟨w.heap.size + 1, 2, none⟩ = some (.bool true) := (hb.cell (p := ⟨w.heap.size + 1, 2, none⟩) hz2).trans HD3.out
  have hz3 : w.heap.size + 1 < w3.heap.size := Nat.lt_of_lt_of_le hz2 hb.size
  clear hb h3 d0 d1 HD1 HD2 HD3
  have HW3 : Hid (Below w.heap.size w w3) := onB HB0.out HB3.out
  go_wp2_with (at_builtin; refine wpList_append_own _ rfl _ _ 43 rfl (ownOX w A0 n cap Ax m cx N true).heap.size 77 i0 (.agg #[.slice none 0 0, .int .i64 0]) 2 32 Tryd.underlying43 hi0 hz0 hz1' hz2' rfl (by decide) _ _ _ rfl (World.ownsRow_nil w3 (ownOX w A0 n cap Ax m cx N true).heap.size 77 2) ⟨b, o, none⟩ cnt ce (cellsE (xs.take cnt)) rfl ?qc1 ?qc2 ?qc3 ?qc4 ?qc5 ?qc6 ?_)
  case qc1 => exact HL1.out
  case qc2 => exact HS1.out w3 HW3.out
  case qc3 => exact cellsE_one _
  case qc4 => simp only [maxLen]; omega
  case qc5 => omega
  case qc6 => exact HB3.out.size
  intro v1 w4 hown1 hgrow1 _
  have ho1 : w4.ownsRow (ownOX w A0 n cap Ax m cx N true).heap.size 77 2 v1 cnt (cellsE (xs.take cnt)) := by simpa using hown1
  have HO1 : Hid (w4.ownsRow (ownOX w A0 n cap Ax m cx N true).heap.size 77 2 v1 cnt (cellsE (xs.take cnt))) := ho1
  have hB4 : Below (ownOX w A0 n cap Ax m cx N true).heap.size (ownOX w A0 n cap Ax m cx N true) w4 := own_on HB3.out HB3.out.size (World.ownsRow_nil w3 (ownOX w A0 n cap Ax m cx N true).heap.size 77 2) hgrow1
  have HB4 : Hid (Below (ownOX w A0 n cap Ax m cx N true).heap.size (ownOX w A0 n cap Ax m cx N true) w4) := hB4
  have hzW : w.heap.size + 1 < (ownOX w A0 n cap Ax m cx N true).heap.size := by rw [ownOX_size]; omega
  have g1 : w4.cell? ⟨w.heap.size + 1, 0, none⟩ = some (.slice Ax m cx) := (hB4.cell (p := ⟨w.heap.size + 1, 0, none⟩) hzW).trans (ownOX_x w A0 n cap Ax m cx N true).1
  have g2 : w4.cell? ⟨w.heap.size + 1, 1, none⟩ = some (.int .i64 N) := (hB4.cell (p := ⟨w.heap.size + 1, 1, none⟩) hzW).trans (ownOX_x w A0 n cap Ax m cx N true).2.1
  have g3 : w4.cell? ⟨w.heap.size + 1, 2, none⟩ = some (.bool true) := (hB4.cell (p := ⟨w.heap.size + 1, 2, none⟩) hzW).trans (ownOX_x w A0 n cap Ax m cx N true).2.2
  clear hown1 hgrow1 ho1 f1 f2 f3 hB4
  have hwj : IntKind.i64.wrap ((cnt : Int) + 1) = (cnt : Int) + 1 := by rw [IntKind.wrap_i64]; omega
  have htn : ((cnt : Int) + 1).toNat = cnt + 1 := by omega
  have hS3 := HS2.out w4 (onB HB0.out HB4.out)
  go_wp2_with (at_builtin; refine wpList_append_own _ rfl _ _ 43 rfl (ownOX w A0 n cap Ax m cx N true).heap.size 77 i0 (.agg #[.slice none 0 0, .int .i64 0]) 2 32 Tryd.underlying43 hi0 hz0 hz1' hz2' rfl (by decide) _ _ _ rfl HO1.out A2 (nx - (cnt + 1)) (ce - (cnt + 1)) (cellsE (xs.drop (cnt + 1))) rfl HL2.out hS3 (cellsE_one _) ?qe4 ?qe5 HB4.out.size ?_)
  case qe4 => simp only [maxLen]; omega
  case qe5 => omega
  intro v3 w6 hown3 hgrow3 _
  have HB6 : Hid (Below w.heap.size w w6) := onB HB0.out (own_on HB4.out HB4.out.size HO1.out hgrow3)
  obtain ⟨B, c, hv3, hV⟩ := ens_own (w := w6) (base := (ownOX w A0 n cap Ax m cx N true).heap.size) (v := v3) (zs := xs.take cnt ++ xs.drop (cnt + 1)) (by rw [HCZ.out, HZ.out]; exact hown3) (fun y hy => by
    have hB := HB6.out
    rcases List.mem_append.1 hy with hy | hy
    · exact (HG.out.pls y (List.mem_of_mem_take hy)).later hB
    · exact (HG.out.pls y (List.mem_of_mem_drop hy)).later hB)
  have HV : Hid (EnsN w6 B c (xs.take cnt ++ xs.drop (cnt + 1))) := hV
  rw [hv3, HZ.out]
  clear hown3 hgrow3 hV hv3
  go_wp2_with fail
  go_ret2
  exact ⟨⟨B, c, _, by rw [HZ.out]; rfl, HV.out, HLE.out⟩, HB6.out⟩
end Go.Proofs.YtgkhnmkfeolidacDoor

namespace Go.Proofs.YtgkhnmkfeolidacDoor
open Go.ChangeShapes Go.WideShapes Go.ChangeAt Go.RowKit
set_option maxRecDepth 20000


set_option maxHeartbeats 8000000 in
theorem redit_nil (A0 : Option Addr) (cap n : Nat) (Ax : Option Addr) (m cx : Nat) (p : List Int) (N : Int) (lf : Bool) (w : World) (hm : p.length = m) (hP : PlAt w Ax cx p) (hX : EditCalls (ownOX w A0 n cap Ax m cx N false) A0 cap n none 0 0 Ax m cx 0 0 false lf) (hlf : lf = true) (hlo : ¬ N < -1000000) (hhi : ¬ 1000000 < N) :
    Calls Tryd.prog 19 #[.agg #[.slice A0 n cap], .slice none 0 0, .agg #[.slice Ax m cx, .int .i64 N, .bool false]] w fun e w' => (∃ B c zs, e = .returned (.tuple #[.slice B zs.length c, .int .i64 0]) ∧ EnsN w' B c zs ∧ lE zs = [⟨p, N⟩]) ∧ Below w.heap.size w w' := by
  obtain ⟨i0, hi0, hz0, hz1', hz2'⟩ := info_parts Tryd.infoEnt
  have HX : Hid (EditCalls (ownOX w A0 n cap Ax m cx N false) A0 cap n none 0 0 Ax m cx 0 0 false lf) := hX
  have HB0 : Hid (Below w.heap.size w (ownOX w A0 n cap Ax m cx N false)) := ownOX_below ..
  have h1 := hX.place _ (Below.refl _ _)
  have HM : Hid (p.length = m) := hm
  have HP : Hid (PlAt w Ax cx p) := hP
  clear hX hm hP
  subst hlf
  go_enter Tryd.func19, Tryd.ntmps19
  go_wp2_with fail
  refine h1.mono ?_
  rintro e w1 ⟨rfl, hb⟩
  have HB1 : Hid (Below (ownOX w A0 n cap Ax m cx N false).heap.size (ownOX w A0 n cap Ax m cx N false) w1) := hb
  have c0 := (hb.cell (p := ⟨w.heap.size, 0, none⟩) (by show w.heap.size < _; rw [ownOX_size]; omega)).trans (ownOX_o w A0 n cap Ax m cx N false)
  have c1 := (hb.cell (p := ⟨w.heap.size + 1, 0, none⟩) (by show w.heap.size + 1 < _; rw [ownOX_size]; omega)).trans (ownOX_x w A0 n cap Ax m cx N false).1
  have HC2 : Hid (w1.cell? ⟨w.heap.size + 1, 1, none⟩ = some (.int .i64 N)) := (hb.cell (p := ⟨w.heap.size + 1, 1, none⟩) (by show w.heap.size + 1 < _; rw [ownOX_size]; omega)).trans (ownOX_x w A0 n cap Ax m cx N false).2.1
  have HC3 : Hid (w1.cell? ⟨w.heap.size + 1, 2, none⟩ = some (.bool false)) := (hb.cell (p := ⟨w.heap.size + 1, 2, none⟩) (by show w.heap.size + 1 < _; rw [ownOX_size]; omega)).trans (ownOX_x w A0 n cap Ax m cx N false).2.2
  have hz1 : w.heap.size + 1 < w1.heap.size := by have := hb.size; rw [ownOX_size] at this; omega
  have HC0 : Hid (w1.cell? ⟨w.heap.size, 0, none⟩ = some (.slice A0 n cap)) := c0
  have HC1 : Hid (w1.cell? ⟨w.heap.size + 1, 0, none⟩ = some (.slice Ax m cx)) := c1
  have h2 := HX.out.find rfl w1 hb
  clear hb h1
  go_wp2_with fail
  refine h2.mono ?_
  rintro e w2 ⟨rfl, hb⟩
  have HB2 : Hid (Below (ownOX w A0 n cap Ax m cx N false).heap.size (ownOX w A0 n cap Ax m cx N false) w2) := onB HB1.out hb
  have d0 : w2.cell? ⟨w.heap.size, 0, none⟩ = some (.slice A0 n cap) := (hb.cell (p := ⟨w.heap.size, 0, none⟩) (by show w.heap.size < _; omega)).trans HC0.out
  have d1 : w2.cell? ⟨w.heap.size + 1, 0, none⟩ = some (.slice Ax m cx) := (hb.cell (p := ⟨w.heap.size + 1, 0, none⟩) hz1).trans HC1.out
  have HD1 : Hid (w2.cell? ⟨w.heap.size + 1, 0, none⟩ = some (.slice Ax m cx)) := d1
  have HD2 : Hid (w2.cell? ⟨w.heap.size + 1, 1, none⟩ = some (.int .i64 N)) := (hb.cell (p := ⟨w.heap.size + 1, 1, none⟩) hz1).trans HC2.out
  have HD3 : Hid (w2.cell? ⟨w.heap.size + 1, 2, none⟩ = some (.bool false)) := (hb.cell (p := ⟨w.heap.size + 1, 2, none⟩) hz1).trans HC3.out
  have hz2 : w.heap.size + 1 < w2.heap.size := Nat.lt_of_lt_of_le hz1 hb.size
  have h3 := HX.out.leaf rfl w2 HB2.out
  clear hb h2 c0 c1 HC0 HC1 HC2 HC3
  go_wp2_with fail
  refine h3.mono ?_
  rintro e w3 ⟨rfl, hb⟩
  have HB3 : Hid (Below (ownOX w A0 n cap Ax m cx N false).heap.size (ownOX w A0 n cap Ax m cx N false) w3) := onB HB2.out hb
  have f1 : w3.cell? ⟨w.heap.size + 1, 0, none⟩ = some (.slice Ax m cx) := (hb.cell (p := ⟨w.heap.size + 1, 0, none⟩) hz2).trans HD1.out
  have f2 : w3.cell? ⟨w.heap.size + 1, 1, none⟩ = some (.int .i64 N) := (hb.cell (p := ⟨w.heap.size + 1, 1, none⟩) hz2).trans HD2.out
  have f3 : w3.cell? ⟨w.heap.size + 1, 2, none⟩ = some (.bool false) := (hb.cell (p := ⟨w.heap.size + 1, 2, none⟩) hz2).trans HD3.out
  have hz3 : w.heap.size + 1 < w3.heap.size := Nat.lt_of_lt_of_le hz2 hb.size
  clear hb h3 d0 d1 HD1 HD2 HD3
  obtain ⟨w4, hw4⟩ : ∃ w4 : World, w4 = w3 := ⟨_, rfl⟩
  subst hw4
  have hB4 := HB3.out
  have hzW : w.heap.size + 1 < (ownOX w A0 n cap Ax m cx N false).heap.size := by rw [ownOX_size]; omega
  have HB4 : Hid (Below (ownOX w A0 n cap Ax m cx N false).heap.size (ownOX w A0 n cap Ax m cx N false) w4) := hB4
  have g1 : w4.cell? ⟨w.heap.size + 1, 0, none⟩ = some (.slice Ax m cx) := (hB4.cell (p := ⟨w.heap.size + 1, 0, none⟩) hzW).trans (ownOX_x w A0 n cap Ax m cx N false).1
  have g2 : w4.cell? ⟨w.heap.size + 1, 1, none⟩ = some (.int .i64 N) := (hB4.cell (p := ⟨w.heap.size + 1, 1, none⟩) hzW).trans (ownOX_x w A0 n cap Ax m cx N false).2.1
  have g3 : w4.cell? ⟨w.heap.size + 1, 2, none⟩ = some (.bool false) := (hB4.cell (p := ⟨w.heap.size + 1, 2, none⟩) hzW).trans (ownOX_x w A0 n cap Ax m cx N false).2.2
  clear hB4 f1 f2 f3
  have hbe := ownEn_below w4 Ax m cx N 77
  have HOe : Hid ((ownEn w4 Ax m cx N 77).ownsRow (ownOX w A0 n cap Ax m cx N false).heap.size 77 2 (.slice none 0 0) 0 []) := World.ownsRow_nil _ _ _ _
  have HBe : Hid (Below (ownOX w A0 n cap Ax m cx N false).heap.size (ownOX w A0 n cap Ax m cx N false) (ownEn w4 Ax m cx N 77)) := onB HB4.out hbe
  have HAt : Hid (∀ k u, (cellsE [⟨⟨p, N⟩, Ax, cx⟩])[k]? = some u → (ownEn w4 Ax m cx N 77).cell? ((⟨w4.heap.size, 0, none⟩ : Addr).add k) = some u) := fun k u hk => by
    have hh : (ownEn w4 Ax m cx N 77).heap[w4.heap.size]? = some (.cells #[.slice Ax m cx, .int .i64 N] 77 (0, 0)) := heap_alloc_new w4 _
    rw [plain_add, Nat.zero_add, Lib.cell_of_heap hh]
    simpa [cellsE, HM.out] using hk
  clear hbe
  go_wp2_with (at_builtin; refine wpList_append_own _ rfl _ _ 43 rfl (ownOX w A0 n cap Ax m cx N false).heap.size 77 i0 (.agg #[.slice none 0 0, .int .i64 0]) 2 32 Tryd.underlying43 hi0 hz0 hz1' hz2' rfl (by decide) _ _ _ rfl HOe.out ⟨w4.heap.size, 0, none⟩ 1 1 (cellsE [⟨⟨p, N⟩, Ax, cx⟩]) rfl rfl HAt.out (cellsE_one _) ?qd4 ?qd5 HBe.out.size ?_)
  case qd4 => simp only [maxLen]; omega
  case qd5 => omega
  intro v2 w5 hown2 hgrow2 _
  have ho2 : w5.ownsRow (ownOX w A0 n cap Ax m cx N false).heap.size 77 2 v2 1 (cellsE [⟨⟨p, N⟩, Ax, cx⟩]) := by simpa using hown2
  have HO2 : Hid (w5.ownsRow (ownOX w A0 n cap Ax m cx N false).heap.size 77 2 v2 1 (cellsE [⟨⟨p, N⟩, Ax, cx⟩])) := ho2
  have HB5 : Hid (Below (ownOX w A0 n cap Ax m cx N false).heap.size (ownOX w A0 n cap Ax m cx N false) w5) := own_on HBe.out HBe.out.size HOe.out hgrow2
  clear hown2 hgrow2 ho2 g1 g2 g3
  go_wp2_with (at_builtin; refine wpList_append_own_none rfl _ _ 43 rfl (ownOX w A0 n cap Ax m cx N false).heap.size 77 i0 2 Tryd.underlying43 hi0 _ 1 _ rfl HO2.out rfl ?_)
  obtain ⟨w6, hw6⟩ : ∃ w6 : World, w6 = w5 := ⟨_, rfl⟩
  subst hw6
  have HB6 : Hid (Below w.heap.size w w6) := onB HB0.out HB5.out
  have ho3 := HO2.out
  obtain ⟨B, c, hv3, hV⟩ := ens_own (zs := [⟨⟨p, N⟩, Ax, cx⟩]) ho3 (fun y hy => by rw [List.mem_singleton.1 hy]; exact HP.out.later HB6.out)
  have HV : Hid (EnsN w6 B c [⟨⟨p, N⟩, Ax, cx⟩]) := hV
  rw [hv3]
  clear ho3 hV hv3
  go_wp2_with fail
  go_ret2
  exact ⟨⟨B, c, _, rfl, HV.out, rfl⟩, HB6.out⟩


set_option maxHeartbeats 8000000 in
theorem redit_some (A0 : Option Addr) (cap n : Nat) (b o : Nat) (sp : Option Nat) (ce : Nat) (Ax : Option Addr) (m cx : Nat) (p : List Int) (N : Int) (lf : Bool) (w : World) (hm : p.length = m) (hP : PlAt w Ax cx p) (hX : EditCalls (ownOX w A0 n cap Ax m cx N false) A0 cap n (some ⟨b, o, sp⟩) 0 ce Ax m cx 0 0 false lf) (hlf : lf = true) (hlo : ¬ N < -1000000) (hhi : ¬ 1000000 < N) :
    Calls Tryd.prog 19 #[.agg #[.slice A0 n cap], .slice (some ⟨b, o, sp⟩) 0 ce, .agg #[.slice Ax m cx, .int .i64 N, .bool false]] w fun e w' => (∃ B c zs, e = .returned (.tuple #[.slice B zs.length c, .int .i64 0]) ∧ EnsN w' B c zs ∧ lE zs = [⟨p, N⟩]) ∧ Below w.heap.size w w' := by
  obtain ⟨i0, hi0, hz0, hz1', hz2'⟩ := info_parts Tryd.infoEnt
  have HX : Hid (EditCalls (ownOX w A0 n cap Ax m cx N false) A0 cap n (some ⟨b, o, sp⟩) 0 ce Ax m cx 0 0 false lf) := hX
  have HB0 : Hid (Below w.heap.size w (ownOX w A0 n cap Ax m cx N false)) := ownOX_below ..
  have h1 := hX.place _ (Below.refl _ _)
  have HM : Hid (p.length = m) := hm
  have HP : Hid (PlAt w Ax cx p) := hP
  clear hX hm hP
  subst hlf
  go_enter Tryd.func19, Tryd.ntmps19
  go_wp2_with fail
  refine h1.mono ?_
  rintro e w1 ⟨rfl, hb⟩
  have HB1 : Hid (Below (ownOX w A0 n cap Ax m cx N false).heap.size (ownOX w A0 n cap Ax m cx N false) w1) := hb
  have c0 := (hb.cell (p := ⟨w.heap.size, 0, none⟩) (by show w.heap.size < _; rw [ownOX_size]; omega)).trans (ownOX_o w A0 n cap Ax m cx N false)
  have c1 := (hb.cell (p := ⟨w.heap.size + 1, 0, none⟩) (by show w.heap.size + 1 < _; rw [ownOX_size]; omega)).trans (ownOX_x w A0 n cap Ax m cx N false).1
  have HC2 : Hid (w1.cell? ⟨w.heap.size + 1, 1, none⟩ = some (.int .i64 N)) := (hb.cell (p := ⟨w.heap.size + 1, 1, none⟩) (by show w.heap.size + 1 < _; rw [ownOX_size]; omega)).trans (ownOX_x w A0 n cap Ax m cx N false).2.1
  have HC3 : Hid (w1.cell? ⟨w.heap.size + 1, 2, none⟩ = some (.bool false)) := (hb.cell (p := ⟨w.heap.size + 1, 2, none⟩) (by show w.heap.size + 1 < _; rw [ownOX_size]; omega)).trans (ownOX_x w A0 n cap Ax m cx N false).2.2
  have hz1 : w.heap.size + 1 < w1.heap.size := by have := hb.size; rw [ownOX_size] at this; omega
  have HC0 : Hid (w1.cell? ⟨w.heap.size, 0, none⟩ = some (.slice A0 n cap)) := c0
  have HC1 : Hid (w1.cell? ⟨w.heap.size + 1, 0, none⟩ = some (.slice Ax m cx)) := c1
  have h2 := HX.out.find rfl w1 hb
  clear hb h1
  go_wp2_with fail
  refine h2.mono ?_
  rintro e w2 ⟨rfl, hb⟩
  have HB2 : Hid (Below (ownOX w A0 n cap Ax m cx N false).heap.size (ownOX w A0 n cap Ax m cx N false) w2) := onB HB1.out hb
  have d0 : w2.cell? ⟨w.heap.size, 0, none⟩ = some (.slice A0 n cap) := (hb.cell (p := ⟨w.heap.size, 0, none⟩) (by show w.heap.size < _; omega)).trans HC0.out
  have d1 : w2.cell? ⟨w.heap.size + 1, 0, none⟩ = some (.slice Ax m cx) := (hb.cell (p := ⟨w.heap.size + 1, 0, none⟩) hz1).trans HC1.out
  have HD1 : Hid (w2.cell? ⟨w.heap.size + 1, 0, none⟩ = some (.slice Ax m cx)) := d1
  have HD2 : Hid (w2.cell? ⟨w.heap.size + 1, 1, none⟩ = some (.int .i64 N)) := (hb.cell (p := ⟨w.heap.size + 1, 1, none⟩) hz1).trans HC2.out
  have HD3 : Hid (w2.cell? ⟨w.heap.size + 1, 2, none⟩ = some (.bool false)) := (hb.cell (p := ⟨w.heap.size + 1, 2, none⟩) hz1).trans HC3.out
  have hz2 : w.heap.size + 1 < w2.heap.size := Nat.lt_of_lt_of_le hz1 hb.size
  have h3 := HX.out.leaf rfl w2 HB2.out
  clear hb h2 c0 c1 HC0 HC1 HC2 HC3
  go_wp2_with fail
  refine h3.mono ?_
  rintro e w3 ⟨rfl, hb⟩
  have HB3 : Hid (Below (ownOX w A0 n cap Ax m cx N false).heap.size (ownOX w A0 n cap Ax m cx N false) w3) := onB HB2.out hb
  have f1 : w3.cell? ⟨w.heap.size + 1, 0, none⟩ = some (.slice Ax m cx) := (hb.cell (p := ⟨w.heap.size + 1, 0, none⟩) hz2).trans HD1.out
  have f2 : w3.cell? ⟨w.heap.size + 1, 1, none⟩ = some (.int .i64 N) := (hb.cell (p := ⟨w.heap.size + 1, 1, none⟩) hz2).trans HD2.out
  have f3 : w3.cell? ⟨w.heap.size + 1, 2, none⟩ = some (.bool false) := (hb.cell (p := ⟨w.heap.size + 1, 2, none⟩) hz2).trans HD3.out
  have hz3 : w.heap.size + 1 < w3.heap.size := Nat.lt_of_lt_of_le hz2 hb.size
  clear hb h3 d0 d1 HD1 HD2 HD3
  obtain ⟨w4, hw4⟩ : ∃ w4 : World, w4 = w3 := ⟨_, rfl⟩
  subst hw4
  have hB4 := HB3.out
  have hzW : w.heap.size + 1 < (ownOX w A0 n cap Ax m cx N false).heap.size := by rw [ownOX_size]; omega
  have HB4 : Hid (Below (ownOX w A0 n cap Ax m cx N false).heap.size (ownOX w A0 n cap Ax m cx N false) w4) := hB4
  have g1 : w4.cell? ⟨w.heap.size + 1, 0, none⟩ = some (.slice Ax m cx) := (hB4.cell (p := ⟨w.heap.size + 1, 0, none⟩) hzW).trans (ownOX_x w A0 n cap Ax m cx N false).1
  have g2 : w4.cell? ⟨w.heap.size + 1, 1, none⟩ = some (.int .i64 N) := (hB4.cell (p := ⟨w.heap.size + 1, 1, none⟩) hzW).trans (ownOX_x w A0 n cap Ax m cx N false).2.1
  have g3 : w4.cell? ⟨w.heap.size + 1, 2, none⟩ = some (.bool false) := (hB4.cell (p := ⟨w.heap.size + 1, 2, none⟩) hzW).trans (ownOX_x w A0 n cap Ax m cx N false).2.2
  clear hB4 f1 f2 f3
  have hbe := ownEn_below w4 Ax m cx N 77
  have HOe : Hid ((ownEn w4 Ax m cx N 77).ownsRow (ownOX w A0 n cap Ax m cx N false).heap.size 77 2 (.slice none 0 0) 0 []) := World.ownsRow_nil _ _ _ _
  have HBe : Hid (Below (ownOX w A0 n cap Ax m cx N false).heap.size (ownOX w A0 n cap Ax m cx N false) (ownEn w4 Ax m cx N 77)) := onB HB4.out hbe
  have HAt : Hid (∀ k u, (cellsE [⟨⟨p, N⟩, Ax, cx⟩])[k]? = some u → (ownEn w4 Ax m cx N 77).cell? ((⟨w4.heap.size, 0, none⟩ : Addr).add k) = some u) := fun k u hk => by
    have hh : (ownEn w4 Ax m cx N 77).heap[w4.heap.size]? = some (.cells #[.slice Ax m cx, .int .i64 N] 77 (0, 0)) := heap_alloc_new w4 _
    rw [plain_add, Nat.zero_add, Lib.cell_of_heap hh]
    simpa [cellsE, HM.out] using hk
  clear hbe
  go_wp2_with (at_builtin; refine wpList_append_own _ rfl _ _ 43 rfl (ownOX w A0 n cap Ax m cx N false).heap.size 77 i0 (.agg #[.slice none 0 0, .int .i64 0]) 2 32 Tryd.underlying43 hi0 hz0 hz1' hz2' rfl (by decide) _ _ _ rfl HOe.out ⟨w4.heap.size, 0, none⟩ 1 1 (cellsE [⟨⟨p, N⟩, Ax, cx⟩]) rfl rfl HAt.out (cellsE_one _) ?qd4 ?qd5 HBe.out.size ?_)
  case qd4 => simp only [maxLen]; omega
  case qd5 => omega
  intro v2 w5 hown2 hgrow2 _
  have ho2 : w5.ownsRow (ownOX w A0 n cap Ax m cx N false).heap.size 77 2 v2 1 (cellsE [⟨⟨p, N⟩, Ax, cx⟩]) := by simpa using hown2
  have HO2 : Hid (w5.ownsRow (ownOX w A0 n cap Ax m cx N false).heap.size 77 2 v2 1 (cellsE [⟨⟨p, N⟩, Ax, cx⟩])) := ho2
  have HB5 : Hid (Below (ownOX w A0 n cap Ax m cx N false).heap.size (ownOX w A0 n cap Ax m cx N false) w5) := own_on HBe.out HBe.out.size HOe.out hgrow2
  clear hown2 hgrow2 ho2 g1 g2 g3
  go_wp2_with (at_builtin; refine wpList_append_own _ rfl _ _ 43 rfl (ownOX w A0 n cap Ax m cx N false).heap.size 77 i0 (.agg #[.slice none 0 0, .int .i64 0]) 2 32 Tryd.underlying43 hi0 hz0 hz1' hz2' rfl (by decide) _ _ _ rfl HO2.out ⟨b, o, sp⟩ 0 ce [] rfl rfl (fun k u hk => by simp at hk) (fun u hu => by cases hu) ?qe4 ?qe5 HB5.out.size ?_)
  case qe4 => simp only [maxLen]; omega
  case qe5 => omega
  intro v3 w6 hown3 hgrow3 _
  have HB6 : Hid (Below w.heap.size w w6) := onB HB0.out (own_on HB5.out HB5.out.size HO2.out hgrow3)
  have ho3 : w6.ownsRow (ownOX w A0 n cap Ax m cx N false).heap.size 77 2 v3 1 (cellsE [⟨⟨p, N⟩, Ax, cx⟩]) := by simpa using hown3
  clear hown3 hgrow3
  obtain ⟨B, c, hv3, hV⟩ := ens_own (zs := [⟨⟨p, N⟩, Ax, cx⟩]) ho3 (fun y hy => by rw [List.mem_singleton.1 hy]; exact HP.out.later HB6.out)
  have HV : Hid (EnsN w6 B c [⟨⟨p, N⟩, Ax, cx⟩]) := hV
  rw [hv3]
  clear ho3 hV hv3
  go_wp2_with fail
  go_ret2
  exact ⟨⟨B, c, _, rfl, HV.out, rfl⟩, HB6.out⟩

end Go.Proofs.YtgkhnmkfeolidacDoor

namespace Go.Proofs.YtgkhnmkfeolidacDoor
open Go.ChangeShapes Go.WideShapes Go.ChangeAt Go.RowKit
set_option maxRecDepth 20000

theorem redit_any (A0 : Option Addr) (cap n : Nat) (D : Nat → Dm) (A : Nat → Option Addr) (C : Nat → Nat) (AE : Option Addr) (ce : Nat) (xs : List EnL) (Ax : Option Addr) (cx : Nat) (x : Ed) (w : World) (hM : DimsV w A0 cap n D A C) (hE : EnsN w AE ce xs) (hP : PlAt w Ax cx x.pl) (hEs : Ens D n (lE xs)) :
    Calls Tryd.prog 19 #[.agg #[.slice A0 n cap], .slice AE xs.length ce, .agg #[.slice Ax x.pl.length cx, .int .i64 x.n, .bool x.clear]] w fun e w' => REdited w (editErr D n (lE xs) x) (editV (lE xs) x) e w' := by
  obtain ⟨p, N, cl⟩ := x
  simp only at hP ⊢
  have hB0 := ownOX_below w A0 n cap Ax p.length cx N cl
  have hX : EditCalls (ownOX w A0 n cap Ax p.length cx N cl) A0 cap n AE xs.length ce Ax p.length cx (shapeErr D n p) (cntE (lE xs) p) (hasE (lE xs) p) (leafV D n p) := by
    refine ⟨fun w' hw' => ?_, fun hs w' hw' => ?_, fun hs w' hw' => ?_⟩
    · exact rplace_any A0 cap n D A C Ax cx p w' hEs.right ((hM.later hB0).later hw') ((hP.later hB0).later hw')
    · exact rfind_any AE ce xs Ax cx p w' (few_of hEs) ((hE.1.later hB0).later hw') (short_of hEs (inO_of (by rw [pe1 hEs.right]; exact hs))) ((hP.later hB0).later hw')
    · exact rleafplace_any A0 cap n D A C Ax cx p w' (inO_of (by rw [pe1 hEs.right]; exact hs)) ((hM.later hB0).later hw') ((hP.later hB0).later hw')
  have hEE : editErr D n (lE xs) ⟨p, N, cl⟩ = if shapeErr D n p ≠ 0 then shapeErr D n p else if cl = true then (if hasE (lE xs) p = true then 0 else 5) else if leafV D n p = false then 6 else if numOk N = false then 1 else 0 := rfl
  by_cases h0 : editErr D n (lE xs) ⟨p, N, cl⟩ = 0
  · have hs : shapeErr D n p = 0 := by
      rw [hEE] at h0
      split at h0
      · rename_i h1; exact absurd h0 h1
      · rename_i h1; simpa using h1
    rw [hs] at hX hEE
    rw [if_neg (by simp)] at hEE
    rw [h0] at hEE
    unfold REdited
    rw [h0, pickL_in]
    have hcl := cnt_le (lE xs) p
    rw [lE_len] at hcl
    have good : ∀ b o j, AE = some ⟨b, o, none⟩ → j ≤ xs.length → cntE (lE xs) p ≤ j ∧ j ≤ cntE (lE xs) p + 1 → EditGood w b o ce xs Ax cx p (cntE (lE xs) p) j := fun b o j hA hj hij => by
      refine ⟨fun w' hw' k u hk => ?_, fun y hy => ?_, hP, few_of hEs, hE.1.1, hE.1.2.1, hcl, hj, hij⟩
      · obtain ⟨-, -, rfl | ⟨b', o', hA', hL⟩⟩ := hE.1.later hw'
        · cases hk
        · rw [hA] at hA'
          cases hA'
          exact hL.2.1 k u hk
      · obtain ⟨-, -, rfl | ⟨b', o', hA', hL⟩⟩ := hE.1
        · cases hy
        · exact hL.2.2 y hy
    cases cl
    · rw [if_neg (by simp)] at hEE
      have hlf : leafV D n p = true := by
        cases h1 : leafV D n p
        · rw [h1, if_pos rfl] at hEE; cases hEE
        · rfl
      rw [hlf, if_neg (by simp)] at hEE
      have hnum : numOk N = true := by
        cases h1 : numOk N
        · rw [h1, if_pos rfl] at hEE; cases hEE
        · rfl
      have hlh : -1000000 ≤ N ∧ N ≤ 1000000 := by simpa [numOk] using hnum
      show Calls _ _ _ _ fun e w' => (∃ B c zs, _ ∧ _ ∧ lE zs = setL (lE xs) p N) ∧ _
      unfold setL
      by_cases hx : xs = []
      · subst hx
        have hc0 : cntE (lE []) p = 0 := rfl
        have hh0 : hasE (lE []) p = false := rfl
        rw [hc0, hh0] at hX
        simp only [List.length_nil] at hX ⊢
        show Calls _ _ _ _ fun e w' => (∃ B c zs, _ ∧ _ ∧ lE zs = [⟨p, N⟩]) ∧ _
        cases AE with
        | none =>
          have hce := hE.2 rfl
          subst hce
          exact redit_nil A0 cap n Ax p.length cx p N _ w rfl hP hX hlf (by omega) (by omega)
        | some a =>
          obtain ⟨b, o, sp⟩ := a
          exact redit_some A0 cap n b o sp ce Ax p.length cx p N _ w rfl hP hX hlf (by omega) (by omega)
      · obtain ⟨b, o, hA⟩ : ∃ b o, AE = some ⟨b, o, none⟩ := by
          obtain ⟨-, -, h1 | ⟨b, o, h1, -⟩⟩ := hE.1
          · exact absurd h1 hx
          · exact ⟨b, o, h1⟩
        cases hh : hasE (lE xs) p
        · rw [hh, hA] at hX
          rw [hA, if_neg (by simp), Nat.add_zero]
          exact redit_new A0 cap n b o ce xs Ax p.length cx p N _ _ w rfl hX hlf (by omega) (by omega) (good b o _ hA hcl ⟨Nat.le_refl _, by omega⟩)
        · have hlt := clr_in hh
          rw [lE_len] at hlt
          rw [hh, hA] at hX
          rw [hA, if_pos rfl]
          exact redit_old A0 cap n b o ce xs Ax p.length cx p N _ _ w rfl hX hlf (by omega) (by omega) (good b o _ hA hlt ⟨by omega, Nat.le_refl _⟩)
    · rw [if_pos rfl] at hEE
      have hh : hasE (lE xs) p = true := by
        cases h1 : hasE (lE xs) p
        · rw [h1, if_neg (by simp)] at hEE; cases hEE
        · rfl
      have hlt := clr_in hh
      rw [lE_len] at hlt
      obtain ⟨b, o, hA⟩ : ∃ b o, AE = some ⟨b, o, none⟩ := by
        obtain ⟨-, -, h1 | ⟨b, o, h1, -⟩⟩ := hE.1
        · rw [h1] at hlt; simp at hlt
        · exact ⟨b, o, h1⟩
      rw [hh, hA] at hX
      rw [hA]
      show Calls _ _ _ _ fun e w' => (∃ B c zs, _ ∧ _ ∧ lE zs = clrL (lE xs) p) ∧ _
      unfold clrL
      exact redit_clr A0 cap n b o ce xs Ax p.length cx p N _ _ w rfl hX (good b o _ hA hlt ⟨by omega, Nat.le_refl _⟩)
  · have h := redit_bad A0 cap n AE xs.length ce Ax p.length cx N cl _ _ _ _ _ w hX hEE h0
    refine h.mono ?_
    rintro e w' ⟨rfl, hb⟩
    exact ⟨⟨none, 0, [], rfl, ⟨EnsV.nil _ _ _ (by decide), fun _ => rfl⟩, by rw [pickL_bad h0]; rfl⟩, hb⟩

theorem keepX {W w' : World} {q b o : Nat} {u v y z : Value} (h : q < W.heap.size ∧ b < W.heap.size ∧ W.cell? ⟨q, 0, none⟩ = some u ∧ W.cell? ⟨b, o, none⟩ = some v ∧ W.cell? ⟨b, o + 1, none⟩ = some y ∧ W.cell? ⟨b, o + 2, none⟩ = some z) (hB : Below W.heap.size W w') : Below W.heap.size W w' ∧ w'.cell? ⟨q, 0, none⟩ = some u ∧ w'.cell? ⟨b, o, none⟩ = some v ∧ w'.cell? ⟨b, o + 1, none⟩ = some y ∧ w'.cell? ⟨b, o + 2, none⟩ = some z :=
  ⟨hB, (hB.cell (p := ⟨q, 0, none⟩) h.1).trans h.2.2.1, (hB.cell (p := ⟨b, o, none⟩) h.2.1).trans h.2.2.2.1, (hB.cell (p := ⟨b, o + 1, none⟩) h.2.1).trans h.2.2.2.2.1, (hB.cell (p := ⟨b, o + 2, none⟩) h.2.1).trans h.2.2.2.2.2⟩

/-- entries and two numbers -/
def Answer3i (w : World) (v : List En × Int × Int) (e : Ending) (w' : World) : Prop := (∃ B c zs, e = .returned (.tuple #[.slice B zs.length c, .int .i64 v.2.1, .int .i64 v.2.2]) ∧ EnsV w' B c zs ∧ lE zs = v.1) ∧ Below w.heap.size w w'

set_option maxHeartbeats 8000000 in
theorem redits_any (A0 : Option Addr) (cap n : Nat) (D : Nat → Dm) (A : Nat → Option Addr) (C : Nat → Nat) (AE : Option Addr) (ce : Nat) (xs : List EnL) (AX : Option Addr) (cx : Nat) (ys : List EdL) (w : World) (hM : DimsV w A0 cap n D A C) (hE : EnsN w AE ce xs) (hX : EdsV w AX cx ys) :
    Calls Tryd.prog 23 #[.agg #[.slice A0 n cap], .slice AE xs.length ce, .slice AX ys.length cx] w fun e w' => Answer3i w (editsV D n (lE xs) (lD ys)) e w' := by
  have hB0 := ownOut_below w A0 n cap 24
  have HB0 : Hid (Below w.heap.size w (ownOut w A0 n cap 24)) := hB0
  unfold Answer3i
  by_cases h60 : 60 < ys.length
  · have HV : Hid (editsV D n (lE xs) (lD ys) = ([], 0, 4)) := editsV_full _ h60
    have h60' : 60 < (ys.length : Int) := by omega
    generalize editsV D n (lE xs) (lD ys) = V at HV
    generalize xs.length = nx
    generalize ys.length = ny at h60 h60'
    clear hM hE hX hB0
    go_enter Tryd.func23, Tryd.ntmps23
    go_wp2_with fail
    go_ret3
    rw [HV.out]
    exact ⟨⟨none, 0, [], rfl, EnsV.nil _ _ _ (by decide), rfl⟩, HB0.out⟩
  have h := rentries_any A0 cap n D A C AE ce xs (ownOut w A0 n cap 24) (hM.later hB0) (hE.1.later hB0)
  have h60' : (ys.length : Int) ≤ 60 := by omega
  by_cases he : entsErr D n (lE xs) = 0
  · have hEs := ens_of he
    have HV : Hid (editsV D n (lE xs) (lD ys) = editsFrom D n (lE xs) 0 ((lD ys).drop 0)) := editsV_in h60 he
    have HM : Hid (DimsV w A0 cap n D A C) := hM
    have HX : Hid (EdsV w AX cx ys) := hX
    have HE : Hid (EnsN w AE ce xs) := hE
    have HEs : Hid (Ens D n (lE xs)) := hEs
    rw [he] at h
    generalize editsV D n (lE xs) (lD ys) = V at HV
    obtain ⟨ny, hny⟩ : ∃ ny, ys.length = ny := ⟨_, rfl⟩
    have HNY : Hid (ys.length = ny) := hny
    rw [hny] at h60' ⊢
    clear he hEs hM hE hX hB0 h60 hny
    go_enter Tryd.func23, Tryd.ntmps23
    go_wp2_with fail
    refine h.mono ?_
    rintro e w1 ⟨rfl, hb1⟩
    have hB1 : Below w.heap.size w w1 := onB HB0.out hb1
    have HB1 : Hid (Below w.heap.size w w1) := hB1
    have c1 : w1.cell? ⟨w.heap.size, 0, none⟩ = some (.slice A0 n cap) := (hb1.cell (p := ⟨w.heap.size, 0, none⟩) (by show w.heap.size < _; rw [ownOut_size]; omega)).trans (ownOut_at ..)
    have hz1 : w.heap.size < w1.heap.size := by have := hb1.size; rw [ownOut_size] at this; omega
    have HM1 : Hid (DimsV w1 A0 cap n D A C) := HM.out.later hB1
    have HX1 : Hid (EdsV w1 AX cx ys) := HX.out.later hB1
    have HE1 : Hid (EnsN w1 AE ce xs) := HE.out.later hB1
    clear hb1 h hB1 HM HX HE HB0
    go_wp2_with fail
    go_loopg [1, 10] ny (fun gm s1 s10 wr => ∃ (k : Nat) (B : Option Addr) (c : Nat) (zs : List EnL), k ≤ ny ∧ gm = ny - k ∧ s10 = .int .i64 k ∧ s1 = .slice B zs.length c ∧ Hid (EnsN wr B c zs ∧ Ens D n (lE zs)) ∧ Hid (editsFrom D n (lE zs) k ((lD ys).drop k) = editsFrom D n (lE xs) 0 ((lD ys).drop 0)) ∧ Below w1.heap.size w1 wr)
    case atStart => exact ⟨0, AE, ce, xs, Nat.zero_le _, rfl, rfl, rfl, ⟨HE1.out, HEs.out⟩, (rfl : editsFrom D n (lE xs) 0 ((lD ys).drop 0) = editsFrom D n (lE xs) 0 ((lD ys).drop 0)), Below.refl _ _⟩
    case round =>
      obtain ⟨k, B, c, zs, hk, rfl, rfl, rfl, HRw, HF, hBw⟩ := hrel
      have HBw : Hid (Below w1.heap.size w1 wr) := hBw
      by_cases hlt : k < ny
      · have hkx : k < ys.length := by rw [HNY.out]; exact hlt
        have hki : (k : Int) < (ny : Int) := by omega
        obtain ⟨-, -, h0 | ⟨b, o, rfl, hXs⟩⟩ := HX1.out.later hBw
        · have := HNY.out; rw [h0] at this; simp at this; omega
        obtain ⟨d0, d1, d2, hpl⟩ := hXs.2 k hkx
        have c0 : wr.cell? ⟨w.heap.size, 0, none⟩ = some (.slice A0 n cap) := (hBw.cell (p := ⟨w.heap.size, 0, none⟩) hz1).trans c1
        have hzr : w.heap.size < wr.heap.size := Nat.lt_of_lt_of_le hz1 hBw.size
        have HMr : Hid (DimsV wr A0 cap n D A C) := HM1.out.later hBw
        have HEd : Hid (∀ w', Below wr.heap.size wr w' → Calls Tryd.prog 19 #[.agg #[.slice A0 n cap], .slice B zs.length c, .agg #[.slice (ys.getD k noD).A (ys.getD k noD).x.pl.length (ys.getD k noD).c, .int .i64 (ys.getD k noD).x.n, .bool (ys.getD k noD).x.clear]] w' fun e w'' => (∃ B' c' zs', e = .returned (.tuple #[.slice B' zs'.length c', .int .i64 (editErr D n (lE zs) (ys.getD k noD).x)]) ∧ EnsN w'' B' c' zs' ∧ lE zs' = pickL (editErr D n (lE zs) (ys.getD k noD).x) (editV (lE zs) (ys.getD k noD).x)) ∧ Below w'.heap.size w' w'') := fun w' hw' => redit_any A0 cap n D A C B c zs _ _ _ w' (HMr.out.later hw') (HRw.out.1.later hw') (hpl.later hw') HRw.out.2
        have HST : Hid (editErr D n (lE zs) (ys.getD k noD).x = 0 → editsFrom D n (editV (lE zs) (ys.getD k noD).x) (k + 1) ((lD ys).drop (k + 1)) = editsFrom D n (lE xs) 0 ((lD ys).drop 0) ∧ Ens D n (editV (lE zs) (ys.getD k noD).x)) := fun h0 => ⟨by rw [← edits_on hkx h0]; exact HF.out, (HRw.out.2.edit h0).2⟩
        have HBd : Hid (editErr D n (lE zs) (ys.getD k noD).x ≠ 0 → V = ([], (k : Int), editErr D n (lE zs) (ys.getD k noD).x)) := fun h0 => by rw [HV.out, ← HF.out, edits_bad hkx h0]
        generalize editErr D n (lE zs) (ys.getD k noD).x = E at HEd HST HBd
        generalize editV (lE zs) (ys.getD k noD).x = l2 at HEd HST
        generalize (ys.getD k noD).A = A1 at d0 HEd
        generalize (ys.getD k noD).c = k1 at d0 HEd
        generalize (ys.getD k noD).x.n = n1 at d1 HEd
        generalize (ys.getD k noD).x.clear = q1 at d2 HEd
        generalize (ys.getD k noD).x.pl.length = m1 at d0 HEd
        obtain ⟨nz, hnz⟩ : ∃ nz, zs.length = nz := ⟨_, rfl⟩
        rw [hnz] at HEd ⊢
        have hbb := hXs.1
        have HC : Hid (w.heap.size < wr.heap.size ∧ b < wr.heap.size ∧ wr.cell? ⟨w.heap.size, 0, none⟩ = some (.slice A0 n cap) ∧ wr.cell? ⟨b, o + k * 3, none⟩ = some (.slice A1 m1 k1) ∧ wr.cell? ⟨b, o + k * 3 + 1, none⟩ = some (.int .i64 n1) ∧ wr.cell? ⟨b, o + k * 3 + 2, none⟩ = some (.bool q1)) := ⟨hzr, hbb, c0, d0, d1, d2⟩
        clear hXs hpl hBw hnz c0 d0 d1 d2
        go_wp2_with fail
        go_cut [11, 12] (fun s11 s12 wx => ∃ B' c' zs', s11 = .slice B' zs'.length c' ∧ s12 = .int .i64 E ∧ Hid (EnsN wx B' c' zs' ∧ lE zs' = pickL E l2) ∧ Below wr.heap.size wr wx)
        case first => as_aux_lemma =>
          go_region_held3 (fun w' => Below wr.heap.size wr w' ∧ w'.cell? ⟨w.heap.size, 0, none⟩ = some (.slice A0 n cap) ∧ w'.cell? ⟨b, o + k * 3, none⟩ = some (.slice A1 m1 k1) ∧ w'.cell? ⟨b, o + k * 3 + 1, none⟩ = some (.int .i64 n1) ∧ w'.cell? ⟨b, o + k * 3 + 2, none⟩ = some (.bool q1))
            ((refine keepX HC.out ?_; go_grown; done))
            (first | (go_at_call 19; refine (HEd.out _ (by go_grown)).mono ?_; rintro e w3 ⟨⟨B', c', zs', rfl, hV', hl'⟩, hb3⟩; have hN3 := onB (W0 := wr) (by go_grown) hb3; have hy3 := hN3.size; have HV' : Hid (EnsN w3 B' c' zs' ∧ lE zs' = pickL E l2) := ⟨hV', hl'⟩; clear hb3 hV' hl'))
          all_goals go_wp2_with fail
          all_goals go_meet
          all_goals exact ⟨B', c', zs', rfl, rfl, HV', by go_grown⟩
        case rest => as_aux_lemma =>
        obtain ⟨B', c', zs', rfl, rfl, HV', hb⟩ := hcut
        obtain ⟨w2, rfl⟩ : ∃ w2 : World, w2 = wc := ⟨_, rfl⟩
        have HB2 : Hid (Below w1.heap.size w1 w2) := onB HBw.out hb
        clear hb HC HEd
        by_cases h0 : E = 0
        · have HN2 : Hid (EnsN w2 B' c' zs' ∧ Ens D n (lE zs')) := ⟨HV'.out.1, by rw [HV'.out.2, h0, pickL_in]; exact (HST.out h0).2⟩
          have HF2 : Hid (editsFrom D n (lE zs') (k + 1) ((lD ys).drop (k + 1)) = editsFrom D n (lE xs) 0 ((lD ys).drop 0)) := by show _ = _; rw [HV'.out.2, h0, pickL_in]; exact (HST.out h0).1
          subst h0
          clear HST HBd HV'
          go_wp2_with fail
          go_roundg (ny - (k + 1))
          case measure => omega
          case rel => exact ⟨k + 1, B', c', zs', by omega, rfl, by go_num, rfl, HN2, HF2, HB2.out⟩
        · have HFin : Hid (V = ([], (k : Int), E)) := HBd.out h0
          have h0' : (E != 0) = true := by simpa using h0
          clear HST HBd HV' h0
          go_wp2_with fail
          go_ret3
          rw [HFin.out]
          exact ⟨⟨none, 0, [], rfl, EnsV.nil _ _ _ (by decide), rfl⟩, onB HB1.out HB2.out⟩
      · have hke : k = ny := by omega
        subst hke
        have HFin : Hid (V = (lE zs, 0, 0)) := by show _ = _; rw [HV.out, ← HF.out, edits_end (by rw [HNY.out]; exact Nat.le_refl _)]
        clear hBw
        go_wp2_with fail
        go_ret3
        rw [HFin.out]
        exact ⟨⟨_, _, zs, rfl, HRw.out.1.1, rfl⟩, onB HB1.out HBw.out⟩
  · have HV : Hid (editsV D n (lE xs) (lD ys) = ([], 0, entsErr D n (lE xs))) := editsV_bad h60 he
    have he' : (entsErr D n (lE xs) != 0) = true := by simpa using he
    generalize editsV D n (lE xs) (lD ys) = V at HV
    generalize entsErr D n (lE xs) = E at h HV he he'
    generalize xs.length = nx at h
    generalize ys.length = ny at h60 h60'
    clear hM hE hX hB0 h60 he
    go_enter Tryd.func23, Tryd.ntmps23
    go_wp2_with fail
    refine h.mono ?_
    rintro e w1 ⟨rfl, hb1⟩
    have HB1 : Hid (Below w.heap.size w w1) := onB HB0.out hb1
    clear hb1
    go_wp2_with fail
    go_ret3
    rw [HV.out]
    exact ⟨⟨none, 0, [], rfl, EnsV.nil _ _ _ (by decide), rfl⟩, HB1.out⟩
end Go.Proofs.YtgkhnmkfeolidacDoor

namespace Go.Proofs.YtgkhnmkfeolidacDoor
open Go.ChangeShapes Go.WideShapes Go.ChangeAt Go.RowKit
set_option maxRecDepth 20000

theorem same_err (c : Int) (w : World) (hk : Kind0 w) : Calls Tryd.prog 10 #[errV c, .int .i64 c] w fun e w' => e = .returned (.bool true) ∧ Below w.heap.size w w' := by
  by_cases h : c = 0
  · subst h
    have := same_nil 0 w
    simpa [errV] using this
  · rw [errV_some h]
    have := same_hit c c w hk
    simpa using this
theorem same_of {D : Nat → Dm} {n : Nat} (A B : Option Addr) (ca cb : Nat) (zs ws : List EnL) (L : List En) (w : World) (hz : lE zs = L) (hw : lE ws = L) (hOk : L = [] ∨ Ens D n L) (hA : EnsV w A ca zs) (hB : EnsV w B cb ws) : Calls Tryd.prog 21 #[.slice A zs.length ca, .slice B ws.length cb] w fun e w' => e = .returned (.bool true) ∧ Below w.heap.size w w' := by
  refine sameents_any A B ca cb zs ws w (hz.trans hw.symm) ?_ ?_ hA hB
  · rcases hOk with h | h
    · rw [← lE_len, hz, h]; simp
    · have := h.few; rw [← hz, lE_len] at this; exact this
  · rcases hOk with h | h
    · intro k hk; rw [← lE_len, hz, h] at hk; simp at hk
    · rw [← hz] at h; exact fresh_of h
theorem edits_ens {D : Nat → Dm} {n : Nat} : ∀ (xs : List Ed) (l : List En) (i : Nat), Ens D n l → (editsFrom D n l i xs).1 = [] ∨ Ens D n (editsFrom D n l i xs).1
  | [], l, i, h => Or.inr h
  | x :: r, l, i, h => by
    by_cases he : editErr D n l x = 0
    · rw [editsFrom_ok r he]
      exact edits_ens r _ _ (h.edit he).2
    · rw [editsFrom_bad r he]
      exact Or.inl rfl
theorem editsV_ens (D : Nat → Dm) (n : Nat) (l : List En) (xs : List Ed) : (editsV D n l xs).1 = [] ∨ Ens D n (editsV D n l xs).1 := by
  unfold editsV
  split
  · exact Or.inl rfl
  · split
    · exact Or.inl rfl
    · rename_i h
      exact edits_ens xs l 0 (ens_of (by simpa using h))
theorem change_ens {D : Nat → Dm} {n : Nat} {l : List En} (x : Ed) : pickL (changeErr D n l x) (editV l x) = [] ∨ Ens D n (pickL (changeErr D n l x) (editV l x)) := by
  by_cases h : changeErr D n l x = 0
  · have he : entsErr D n l = 0 := Decidable.byContradiction fun h1 => h1 (by rw [← change_bad x h1]; exact h)
    have h2 := h
    rw [change_in x he] at h2
    rw [h, pickL_in]
    exact Or.inr ((ens_of he).edit h2).2
  · exact Or.inl (pickL_bad h _)

def CellB (q : Nat) (a b : Int) (w : World) : Prop := q < w.heap.size ∧ w.cell? ⟨q, 0, none⟩ = some (.int .i64 a) ∧ w.cell? ⟨q, 1, none⟩ = some (.int .i64 b)
theorem CellB.later {q : Nat} {a b : Int} {w w' : World} (h : CellB q a b w) (hB : Below w.heap.size w w') : CellB q a b w' := ⟨Nat.lt_of_lt_of_le h.1 hB.size, (hB.cell (p := ⟨q, 0, none⟩) h.1).trans h.2.1, (hB.cell (p := ⟨q, 1, none⟩) h.1).trans h.2.2⟩
theorem CellB.new (w : World) (a b : Int) : CellB w.heap.size a b (w.alloc (.cells #[.int .i64 a, .int .i64 b] 49)) := ⟨by simp, by simp, by simp⟩
theorem CellB.set {q : Nat} {w : World} {x y : Int} (h : w.heap[q]? = some (.cells #[.int .i64 0, .int .i64 0] 49)) : CellB q x y ((w.setCell ⟨q, 0, none⟩ (.int .i64 x)).setCell ⟨q, 1, none⟩ (.int .i64 y)) := by
  have d0 : w.cell? ⟨q, 0, none⟩ = some (.int .i64 0) := by rw [Lib.cell_of_heap h]; rfl
  have d1 : w.cell? ⟨q, 1, none⟩ = some (.int .i64 0) := by rw [Lib.cell_of_heap h]; rfl
  have hq : q < w.heap.size := (Array.getElem?_eq_some_iff.1 h).1
  refine ⟨by simpa using hq, ?_, ?_⟩ <;> simp [go_sem, d0, d1]

/-- an outline in a block, entries, a place and edits, with all that they hold -/
def CtxW (q : Nat) (A0 : Option Addr) (cap n : Nat) (D : Nat → Dm) (A : Nat → Option Addr) (C : Nat → Nat) (AE : Option Addr) (ce : Nat) (xs : List EnL) (Ap : Option Addr) (cp : Nat) (p : List Int) (AX : Option Addr) (cx : Nat) (ys : List EdL) (w : World) : Prop :=
  q < w.heap.size ∧ w.cell? ⟨q, 0, none⟩ = some (.slice A0 n cap) ∧ DimsV w A0 cap n D A C ∧ EnsN w AE ce xs ∧ PlAt w Ap cp p ∧ EdsV w AX cx ys ∧ Kind0 w
section
variable {q : Nat} {A0 : Option Addr} {cap n : Nat} {D : Nat → Dm} {A : Nat → Option Addr} {C : Nat → Nat} {AE : Option Addr} {ce : Nat} {xs : List EnL} {Ap : Option Addr} {cp : Nat} {p : List Int} {AX : Option Addr} {cx : Nat} {ys : List EdL} {w w' : World}
theorem CtxW.later (h : CtxW q A0 cap n D A C AE ce xs Ap cp p AX cx ys w) (hB : Below w.heap.size w w') : CtxW q A0 cap n D A C AE ce xs Ap cp p AX cx ys w' := by
  obtain ⟨h1, h2, h3, h4, h5, h6, h7⟩ := h
  exact ⟨Nat.lt_of_lt_of_le h1 hB.size, (hB.cell (p := ⟨q, 0, none⟩) h1).trans h2, h3.later hB, h4.later hB, h5.later hB, h6.later hB, h7.later hB⟩
end

/-- the answers, as the law asks for them: in whatever world behind the one with the outline's block -/
structure Tells (W : World) (A0 : Option Addr) (cap n : Nat) (AE : Option Addr) (nx ce : Nat) (Ap : Option Addr) (m cp : Nat) (N : Int) (AX : Option Addr) (ny cx : Nat) (E G a1 a2 e1 e2 k5 e5 : Int) (L1 L2 L5 : List En) : Prop where
  entries : ∀ w', Below W.heap.size W w' → Calls Tryd.prog 14 #[.agg #[.slice A0 n cap], .slice AE nx ce] w' fun e w'' => e = .returned (.int .i64 E) ∧ Below w'.heap.size w' w''
  check : ∀ w', Below W.heap.size W w' → Calls Tryd.prog 15 #[.agg #[.slice A0 n cap], .slice AE nx ce] w' fun e w'' => e = .returned (errV E) ∧ Below w'.heap.size w' w''
  err : ∀ (c : Int) w', Below W.heap.size W w' → Calls Tryd.prog 10 #[errV c, .int .i64 c] w' fun e w'' => e = .returned (.bool true) ∧ Below w'.heap.size w' w''
  get : ∀ w', Below W.heap.size W w' → Calls Tryd.prog 18 #[.agg #[.slice A0 n cap], .slice AE nx ce, .slice Ap m cp] w' fun e w'' => e = .returned (.tuple #[.agg #[.int .i64 a1, .int .i64 a2], errV G]) ∧ Below w'.heap.size w' w''
  set : ∀ w', Below W.heap.size W w' → Calls Tryd.prog 20 #[.agg #[.slice A0 n cap], .slice AE nx ce, .slice Ap m cp, .int .i64 N] w' fun e w'' => (∃ B c zs, e = .returned (.tuple #[.slice B zs.length c, errV e1]) ∧ EnsV w'' B c zs ∧ lE zs = L1) ∧ Below w'.heap.size w' w''
  clr : ∀ w', Below W.heap.size W w' → Calls Tryd.prog 22 #[.agg #[.slice A0 n cap], .slice AE nx ce, .slice Ap m cp] w' fun e w'' => (∃ B c zs, e = .returned (.tuple #[.slice B zs.length c, errV e2]) ∧ EnsV w'' B c zs ∧ lE zs = L2) ∧ Below w'.heap.size w' w''
  edits : ∀ w', Below W.heap.size W w' → Calls Tryd.prog 23 #[.agg #[.slice A0 n cap], .slice AE nx ce, .slice AX ny cx] w' fun e w'' => (∃ B c zs, e = .returned (.tuple #[.slice B zs.length c, .int .i64 k5, .int .i64 e5]) ∧ EnsV w'' B c zs ∧ lE zs = L5) ∧ Below w'.heap.size w' w''
  all : ∀ w', Below W.heap.size W w' → Calls Tryd.prog 24 #[.agg #[.slice A0 n cap], .slice AE nx ce, .slice AX ny cx] w' fun e w'' => (∃ B c zs, e = .returned (.tuple #[.slice B zs.length c, .int .i64 k5, errV e5]) ∧ EnsV w'' B c zs ∧ lE zs = L5) ∧ Below w'.heap.size w' w''
  same : ∀ (A B : Option Addr) (ca cb : Nat) (zs ws : List EnL) (l : List En) w', l = L1 ∨ l = L2 ∨ l = L5 → lE zs = l → lE ws = l → EnsV w' A ca zs → EnsV w' B cb ws → Calls Tryd.prog 21 #[.slice A zs.length ca, .slice B ws.length cb] w' fun e w'' => e = .returned (.bool true) ∧ Below w'.heap.size w' w''
/-- .. and the document's, where entries are right -/
structure TellsIn (W : World) (A0 : Option Addr) (cap n : Nat) (AE : Option Addr) (nx ce : Nat) (Ap : Option Addr) (m cp : Nat) (N : Int) (G e1 e2 : Int) (L1 L2 : List En) : Prop where
  place : ∀ w', Below W.heap.size W w' → Calls Tryd.prog 16 #[.agg #[.slice A0 n cap], .slice Ap m cp] w' fun e w'' => e = .returned (.int .i64 G) ∧ Below w'.heap.size w' w''
  rset : ∀ w', Below W.heap.size W w' → Calls Tryd.prog 19 #[.agg #[.slice A0 n cap], .slice AE nx ce, .agg #[.slice Ap m cp, .int .i64 N, .bool false]] w' fun e w'' => (∃ B c zs, e = .returned (.tuple #[.slice B zs.length c, .int .i64 e1]) ∧ EnsN w'' B c zs ∧ lE zs = L1) ∧ Below w'.heap.size w' w''
  rclr : ∀ w', Below W.heap.size W w' → Calls Tryd.prog 19 #[.agg #[.slice A0 n cap], .slice AE nx ce, .agg #[.slice Ap m cp, .int .i64 0, .bool true]] w' fun e w'' => (∃ B c zs, e = .returned (.tuple #[.slice B zs.length c, .int .i64 e2]) ∧ EnsN w'' B c zs ∧ lE zs = L2) ∧ Below w'.heap.size w' w''
structure TellsC (W : World) (AE : Option Addr) (nx ce : Nat) (Ap : Option Addr) (m cp : Nat) (a1 a2 : Int) : Prop where
  input : ∀ w', Below W.heap.size W w' → Calls Tryd.prog 17 #[.slice AE nx ce, .slice Ap m cp] w' fun e w'' => e = .returned (.agg #[.int .i64 a1, .int .i64 a2]) ∧ Below w'.heap.size w' w''

set_option maxHeartbeats 64000000 in
theorem tells_a (A0 : Option Addr) (cap n : Nat) (AE : Option Addr) (nx ce : Nat) (Ap : Option Addr) (m cp : Nat) (N : Int) (AX : Option Addr) (ny cx : Nat) (E G a1 a2 e1 e2 k5 e5 : Int) (L1 L2 L5 : List En) (w : World) (hT : Tells (ownOut w A0 n cap 24) A0 cap n AE nx ce Ap m cp N AX ny cx E G a1 a2 e1 e2 k5 e5 L1 L2 L5) (hE : E ≠ 0) (hL : L1 = [] ∧ L2 = []) (he : E = e1 ∧ E = e2 ∧ E = G) (ha : a1 = 0 ∧ a2 = 0) :
    Calls Tryd.prog 5 #[.agg #[.slice A0 n cap], .slice AE nx ce, .slice Ap m cp, .int .i64 N, .slice AX ny cx] w fun e w' => e = .returned (.bool true) ∧ Below w.heap.size w w' := by
  obtain ⟨rfl, rfl, rfl⟩ := he
  obtain ⟨rfl, rfl⟩ := ha
  obtain ⟨h1l, h2l⟩ := hL
  have HL1 : Hid (lE [] = L1) := by show _ = _; rw [h1l]; rfl
  have HL2 : Hid (lE [] = L2) := by show _ = _; rw [h2l]; rfl
  clear h1l h2l
  obtain ⟨W, hW⟩ : ∃ W, w.alloc (.cells #[.slice A0 n cap] 24) = W := ⟨_, rfl⟩
  have hW' : ownOut w A0 n cap 24 = W := hW
  rw [hW'] at hT
  have HB0 : Hid (Below w.heap.size w W) := by show Below ..; rw [← hW']; exact ownOut_below ..
  have HQ : Hid (w.heap.size < W.heap.size ∧ W.cell? ⟨w.heap.size, 0, none⟩ = some (.slice A0 n cap)) := by rw [← hW']; exact ⟨by rw [ownOut_size]; omega, ownOut_at ..⟩
  have HBW : Hid (Below W.heap.size W W) := Below.refl _ _
  have HT : Hid _ := hT
  clear hT hW'
  have hE' : (E == 0) = false := by simpa using hE
  clear hE
  go_enter Tryd.func5, Tryd.ntmps5
  have h1 := HT.out.entries W HBW.out
  have c1 : W.cell? ⟨w.heap.size, 0, none⟩ = some (.slice A0 n cap) := (HBW.out.cell (p := ⟨w.heap.size, 0, none⟩) HQ.out.1).trans HQ.out.2
  go_wp2_with fail
  clear hW
  refine h1.mono ?_
  rintro e w1 ⟨rfl, hb⟩
  have HB1 : Hid (Below W.heap.size W w1) := onB HBW.out hb
  clear hb h1 c1
  have h2 := HT.out.check w1 HB1.out
  have c2 : w1.cell? ⟨w.heap.size, 0, none⟩ = some (.slice A0 n cap) := (HB1.out.cell (p := ⟨w.heap.size, 0, none⟩) HQ.out.1).trans HQ.out.2
  go_wp2_with fail
  refine h2.mono ?_
  rintro e w2 ⟨rfl, hb⟩
  have HB2 : Hid (Below W.heap.size W w2) := onB HB1.out hb
  clear hb h2 c2 HB1
  have h3 := HT.out.err E w2 HB2.out
  have c3 : w2.cell? ⟨w.heap.size, 0, none⟩ = some (.slice A0 n cap) := (HB2.out.cell (p := ⟨w.heap.size, 0, none⟩) HQ.out.1).trans HQ.out.2
  go_wp2_with fail
  refine h3.mono ?_
  rintro e w3 ⟨rfl, hb⟩
  have HB3 : Hid (Below W.heap.size W w3) := onB HB2.out hb
  clear hb h3 c3 HB2
  obtain ⟨v3, hv3⟩ : ∃ v, w3.alloc (.cells #[.int .i64 0, .int .i64 0] 49) = v := ⟨_, rfl⟩
  have hbv : Below w3.heap.size w3 v3 := by rw [← hv3]; go_grown
  have HBv : Hid (Below W.heap.size W v3) := onB HB3.out hbv
  have HQc : Hid (w3.heap.size = w3.heap.size ∧ W.heap.size ≤ w3.heap.size) := ⟨rfl, HB3.out.size⟩
  have Lc : Hid (CellB w3.heap.size 0 0 v3) := by show CellB ..; rw [← hv3]; exact CellB.new ..
  clear hbv
  have h4 := HT.out.get v3 HBv.out
  have c4 : v3.cell? ⟨w.heap.size, 0, none⟩ = some (.slice A0 n cap) := (HBv.out.cell (p := ⟨w.heap.size, 0, none⟩) HQ.out.1).trans HQ.out.2
  go_wp2_with fail
  clear hv3
  refine h4.mono ?_
  rintro e w4 ⟨rfl, hb⟩
  have HB4 : Hid (Below W.heap.size W w4) := onB HBv.out hb
  have Lcx4 : Hid (CellB w3.heap.size 0 0 w4) := Lc.out.later hb
  clear Lc
  clear hb h4 c4 HBv
  obtain ⟨v4, hv4⟩ : ∃ v, w4.alloc (.cells #[.int .i64 0, .int .i64 0] 49) = v := ⟨_, rfl⟩
  have hb : Below w4.heap.size w4 v4 := by rw [← hv4]; go_grown
  have HBg : Hid (Below W.heap.size W v4) := onB HB4.out hb
  have Lcx4g : Hid (CellB w3.heap.size 0 0 v4) := Lcx4.out.later hb
  clear Lcx4
  have Lg : Hid (CellB w4.heap.size 0 0 v4) := by show CellB ..; rw [← hv4]; exact CellB.new ..
  clear hb
  have HVg : Hid (w4.alloc (.cells #[.int .i64 0, .int .i64 0] 49) = v4) := hv4
  clear hv4
  have h5 := HT.out.err E v4 HBg.out
  have c5 : v4.cell? ⟨w.heap.size, 0, none⟩ = some (.slice A0 n cap) := (HBg.out.cell (p := ⟨w.heap.size, 0, none⟩) HQ.out.1).trans HQ.out.2
  go_wp2_with fail
  rw [HVg.out]
  clear HVg
  refine h5.mono ?_
  rintro e w5 ⟨rfl, hb⟩
  have HB5 : Hid (Below W.heap.size W w5) := onB HBg.out hb
  have Lcx4gx5 : Hid (CellB w3.heap.size 0 0 w5) := Lcx4g.out.later hb
  have Lgx5 : Hid (CellB w4.heap.size 0 0 w5) := Lg.out.later hb
  clear Lcx4g
  clear Lg
  clear hb h5 c5 HBg
  have h6 := HT.out.set w5 HB5.out
  have c6 : w5.cell? ⟨w.heap.size, 0, none⟩ = some (.slice A0 n cap) := (HB5.out.cell (p := ⟨w.heap.size, 0, none⟩) HQ.out.1).trans HQ.out.2
  go_wp2_with fail
  refine h6.mono ?_
  rintro e w6 ⟨⟨Y1, y1, ys1, rfl, hV, hl⟩, hb⟩
  have HB6 : Hid (Below W.heap.size W w6) := onB HB5.out hb
  have Lcx4gx5x6 : Hid (CellB w3.heap.size 0 0 w6) := Lcx4gx5.out.later hb
  have Lgx5x6 : Hid (CellB w4.heap.size 0 0 w6) := Lgx5.out.later hb
  clear Lcx4gx5
  clear Lgx5
  have Ly1 : Hid (EnsV w6 Y1 y1 ys1) := hV
  clear hb h6 c6 HB5
  have HLy1 : Hid (lE ys1 = L1) := hl
  clear hV hl
  have h7 := HT.out.err E w6 HB6.out
  have c7 : w6.cell? ⟨w.heap.size, 0, none⟩ = some (.slice A0 n cap) := (HB6.out.cell (p := ⟨w.heap.size, 0, none⟩) HQ.out.1).trans HQ.out.2
  go_wp2_with fail
  refine h7.mono ?_
  rintro e w7 ⟨rfl, hb⟩
  have HB7 : Hid (Below W.heap.size W w7) := onB HB6.out hb
  have Lcx4gx5x6x7 : Hid (CellB w3.heap.size 0 0 w7) := Lcx4gx5x6.out.later hb
  have Lgx5x6x7 : Hid (CellB w4.heap.size 0 0 w7) := Lgx5x6.out.later hb
  have Ly1x7 : Hid (EnsV w7 Y1 y1 ys1) := Ly1.out.later hb
  clear Lcx4gx5x6
  clear Lgx5x6
  clear Ly1
  clear hb h7 c7 HB6
  have h8 := HT.out.same Y1 none y1 0 ys1 [] L1 w7 (Or.inl rfl) HLy1.out HL1.out Ly1x7.out (EnsV.nil _ _ _ (by decide))
  have c8 : w7.cell? ⟨w.heap.size, 0, none⟩ = some (.slice A0 n cap) := (HB7.out.cell (p := ⟨w.heap.size, 0, none⟩) HQ.out.1).trans HQ.out.2
  go_wp2_with fail
  refine h8.mono ?_
  rintro e w8 ⟨rfl, hb⟩
  have HB8 : Hid (Below W.heap.size W w8) := onB HB7.out hb
  have Lcx4gx5x6x7x8 : Hid (CellB w3.heap.size 0 0 w8) := Lcx4gx5x6x7.out.later hb
  have Lgx5x6x7x8 : Hid (CellB w4.heap.size 0 0 w8) := Lgx5x6x7.out.later hb
  have Ly1x7x8 : Hid (EnsV w8 Y1 y1 ys1) := Ly1x7.out.later hb
  clear Lcx4gx5x6x7
  clear Lgx5x6x7
  clear Ly1x7
  clear hb h8 c8 HB7
  clear Ly1x7x8
  have h9 := HT.out.clr w8 HB8.out
  have c9 : w8.cell? ⟨w.heap.size, 0, none⟩ = some (.slice A0 n cap) := (HB8.out.cell (p := ⟨w.heap.size, 0, none⟩) HQ.out.1).trans HQ.out.2
  go_wp2_with fail
  refine h9.mono ?_
  rintro e w9 ⟨⟨Y2, y2, ys2, rfl, hV, hl⟩, hb⟩
  have HB9 : Hid (Below W.heap.size W w9) := onB HB8.out hb
  have Lcx4gx5x6x7x8x9 : Hid (CellB w3.heap.size 0 0 w9) := Lcx4gx5x6x7x8.out.later hb
  have Lgx5x6x7x8x9 : Hid (CellB w4.heap.size 0 0 w9) := Lgx5x6x7x8.out.later hb
  clear Lcx4gx5x6x7x8
  clear Lgx5x6x7x8
  have Ly2 : Hid (EnsV w9 Y2 y2 ys2) := hV
  clear hb h9 c9 HB8
  have HLy2 : Hid (lE ys2 = L2) := hl
  clear hV hl
  have h10 := HT.out.err E w9 HB9.out
  have c10 : w9.cell? ⟨w.heap.size, 0, none⟩ = some (.slice A0 n cap) := (HB9.out.cell (p := ⟨w.heap.size, 0, none⟩) HQ.out.1).trans HQ.out.2
  go_wp2_with fail
  refine h10.mono ?_
  rintro e w10 ⟨rfl, hb⟩
  have HB10 : Hid (Below W.heap.size W w10) := onB HB9.out hb
  have Lcx4gx5x6x7x8x9x10 : Hid (CellB w3.heap.size 0 0 w10) := Lcx4gx5x6x7x8x9.out.later hb
  have Lgx5x6x7x8x9x10 : Hid (CellB w4.heap.size 0 0 w10) := Lgx5x6x7x8x9.out.later hb
  have Ly2x10 : Hid (EnsV w10 Y2 y2 ys2) := Ly2.out.later hb
  clear Lcx4gx5x6x7x8x9
  clear Lgx5x6x7x8x9
  clear Ly2
  clear hb h10 c10 HB9
  have h11 := HT.out.same Y2 none y2 0 ys2 [] L2 w10 (Or.inr (Or.inl rfl)) HLy2.out HL2.out Ly2x10.out (EnsV.nil _ _ _ (by decide))
  have c11 : w10.cell? ⟨w.heap.size, 0, none⟩ = some (.slice A0 n cap) := (HB10.out.cell (p := ⟨w.heap.size, 0, none⟩) HQ.out.1).trans HQ.out.2
  go_wp2_with fail
  refine h11.mono ?_
  rintro e w11 ⟨rfl, hb⟩
  have HB11 : Hid (Below W.heap.size W w11) := onB HB10.out hb
  have Lcx4gx5x6x7x8x9x10x11 : Hid (CellB w3.heap.size 0 0 w11) := Lcx4gx5x6x7x8x9x10.out.later hb
  have Lgx5x6x7x8x9x10x11 : Hid (CellB w4.heap.size 0 0 w11) := Lgx5x6x7x8x9x10.out.later hb
  have Ly2x10x11 : Hid (EnsV w11 Y2 y2 ys2) := Ly2x10.out.later hb
  clear Lcx4gx5x6x7x8x9x10
  clear Lgx5x6x7x8x9x10
  clear Ly2x10
  clear hb h11 c11 HB10
  clear Ly2x10x11
  have h12 := HT.out.edits w11 HB11.out
  have c12 : w11.cell? ⟨w.heap.size, 0, none⟩ = some (.slice A0 n cap) := (HB11.out.cell (p := ⟨w.heap.size, 0, none⟩) HQ.out.1).trans HQ.out.2
  go_wp2_with fail
  refine h12.mono ?_
  rintro e w12 ⟨⟨R5, r5, rs5, rfl, hV, hl⟩, hb⟩
  have HB12 : Hid (Below W.heap.size W w12) := onB HB11.out hb
  have Lcx4gx5x6x7x8x9x10x11x12 : Hid (CellB w3.heap.size 0 0 w12) := Lcx4gx5x6x7x8x9x10x11.out.later hb
  have Lgx5x6x7x8x9x10x11x12 : Hid (CellB w4.heap.size 0 0 w12) := Lgx5x6x7x8x9x10x11.out.later hb
  clear Lcx4gx5x6x7x8x9x10x11
  clear Lgx5x6x7x8x9x10x11
  have Lr5 : Hid (EnsV w12 R5 r5 rs5) := hV
  clear hb h12 c12 HB11
  have HLr5 : Hid (lE rs5 = L5) := hl
  clear hV hl
  have h13 := HT.out.all w12 HB12.out
  have c13 : w12.cell? ⟨w.heap.size, 0, none⟩ = some (.slice A0 n cap) := (HB12.out.cell (p := ⟨w.heap.size, 0, none⟩) HQ.out.1).trans HQ.out.2
  go_wp2_with fail
  refine h13.mono ?_
  rintro e w13 ⟨⟨Y5, y5, ys5, rfl, hV, hl⟩, hb⟩
  have HB13 : Hid (Below W.heap.size W w13) := onB HB12.out hb
  have Lcx4gx5x6x7x8x9x10x11x12x13 : Hid (CellB w3.heap.size 0 0 w13) := Lcx4gx5x6x7x8x9x10x11x12.out.later hb
  have Lgx5x6x7x8x9x10x11x12x13 : Hid (CellB w4.heap.size 0 0 w13) := Lgx5x6x7x8x9x10x11x12.out.later hb
  have Lr5x13 : Hid (EnsV w13 R5 r5 rs5) := Lr5.out.later hb
  clear Lcx4gx5x6x7x8x9x10x11x12
  clear Lgx5x6x7x8x9x10x11x12
  clear Lr5
  have Ly5 : Hid (EnsV w13 Y5 y5 ys5) := hV
  clear hb h13 c13 HB12
  have HLy5 : Hid (lE ys5 = L5) := hl
  clear hV hl
  have h14 := HT.out.err e5 w13 HB13.out
  have c14 : w13.cell? ⟨w.heap.size, 0, none⟩ = some (.slice A0 n cap) := (HB13.out.cell (p := ⟨w.heap.size, 0, none⟩) HQ.out.1).trans HQ.out.2
  go_wp2_with fail
  refine h14.mono ?_
  rintro e w14 ⟨rfl, hb⟩
  have HB14 : Hid (Below W.heap.size W w14) := onB HB13.out hb
  have Lcx4gx5x6x7x8x9x10x11x12x13x14 : Hid (CellB w3.heap.size 0 0 w14) := Lcx4gx5x6x7x8x9x10x11x12x13.out.later hb
  have Lgx5x6x7x8x9x10x11x12x13x14 : Hid (CellB w4.heap.size 0 0 w14) := Lgx5x6x7x8x9x10x11x12x13.out.later hb
  have Lr5x13x14 : Hid (EnsV w14 R5 r5 rs5) := Lr5x13.out.later hb
  have Ly5x14 : Hid (EnsV w14 Y5 y5 ys5) := Ly5.out.later hb
  clear Lcx4gx5x6x7x8x9x10x11x12x13
  clear Lgx5x6x7x8x9x10x11x12x13
  clear Lr5x13
  clear Ly5
  clear hb h14 c14 HB13
  have h15 := HT.out.same Y5 R5 y5 r5 ys5 rs5 L5 w14 (Or.inr (Or.inr rfl)) HLy5.out HLr5.out Ly5x14.out Lr5x13x14.out
  have c15 : w14.cell? ⟨w.heap.size, 0, none⟩ = some (.slice A0 n cap) := (HB14.out.cell (p := ⟨w.heap.size, 0, none⟩) HQ.out.1).trans HQ.out.2
  go_wp2_with fail
  refine h15.mono ?_
  rintro e w15 ⟨rfl, hb⟩
  have HB15 : Hid (Below W.heap.size W w15) := onB HB14.out hb
  have Lcx4gx5x6x7x8x9x10x11x12x13x14x15 : Hid (CellB w3.heap.size 0 0 w15) := Lcx4gx5x6x7x8x9x10x11x12x13x14.out.later hb
  have Lgx5x6x7x8x9x10x11x12x13x14x15 : Hid (CellB w4.heap.size 0 0 w15) := Lgx5x6x7x8x9x10x11x12x13x14.out.later hb
  have Lr5x13x14x15 : Hid (EnsV w15 R5 r5 rs5) := Lr5x13x14.out.later hb
  have Ly5x14x15 : Hid (EnsV w15 Y5 y5 ys5) := Ly5x14.out.later hb
  clear Lcx4gx5x6x7x8x9x10x11x12x13x14
  clear Lgx5x6x7x8x9x10x11x12x13x14
  clear Lr5x13x14
  clear Ly5x14
  clear hb h15 c15 HB14
  obtain ⟨-, q0, q1⟩ := Lcx4gx5x6x7x8x9x10x11x12x13x14x15.out
  obtain ⟨-, s0, s1⟩ := Lgx5x6x7x8x9x10x11x12x13x14x15.out
  go_wp2_with fail
  go_ret
  exact ⟨rfl, onB HB0.out HB15.out⟩

set_option maxHeartbeats 64000000 in
theorem tells_b (A0 : Option Addr) (cap n : Nat) (AE : Option Addr) (nx ce : Nat) (Ap : Option Addr) (m cp : Nat) (N : Int) (AX : Option Addr) (ny cx : Nat) (E G a1 a2 e1 e2 k5 e5 : Int) (L1 L2 L5 : List En) (w : World) (hT : Tells (ownOut w A0 n cap 24) A0 cap n AE nx ce Ap m cp N AX ny cx E G a1 a2 e1 e2 k5 e5 L1 L2 L5) (hE : E = 0) (hG : G ≠ 0) (ha : a1 = 0 ∧ a2 = 0) (hI : TellsIn (ownOut w A0 n cap 24) A0 cap n AE nx ce Ap m cp N G e1 e2 L1 L2) :
    Calls Tryd.prog 5 #[.agg #[.slice A0 n cap], .slice AE nx ce, .slice Ap m cp, .int .i64 N, .slice AX ny cx] w fun e w' => e = .returned (.bool true) ∧ Below w.heap.size w w' := by
  subst hE
  obtain ⟨rfl, rfl⟩ := ha
  obtain ⟨W, hW⟩ : ∃ W, w.alloc (.cells #[.slice A0 n cap] 24) = W := ⟨_, rfl⟩
  have hW' : ownOut w A0 n cap 24 = W := hW
  rw [hW'] at hT hI
  have HB0 : Hid (Below w.heap.size w W) := by show Below ..; rw [← hW']; exact ownOut_below ..
  have HQ : Hid (w.heap.size < W.heap.size ∧ W.cell? ⟨w.heap.size, 0, none⟩ = some (.slice A0 n cap)) := by rw [← hW']; exact ⟨by rw [ownOut_size]; omega, ownOut_at ..⟩
  have HBW : Hid (Below W.heap.size W W) := Below.refl _ _
  have HT : Hid _ := hT
  have HI : Hid _ := hI
  clear hT hI hW'
  have hG' : (G == 0) = false := by simpa using hG
  clear hG
  go_enter Tryd.func5, Tryd.ntmps5
  have h1 := HT.out.entries W HBW.out
  have c1 : W.cell? ⟨w.heap.size, 0, none⟩ = some (.slice A0 n cap) := (HBW.out.cell (p := ⟨w.heap.size, 0, none⟩) HQ.out.1).trans HQ.out.2
  go_wp2_with fail
  clear hW
  refine h1.mono ?_
  rintro e w1 ⟨rfl, hb⟩
  have HB1 : Hid (Below W.heap.size W w1) := onB HBW.out hb
  clear hb h1 c1
  have h2 := HT.out.check w1 HB1.out
  have c2 : w1.cell? ⟨w.heap.size, 0, none⟩ = some (.slice A0 n cap) := (HB1.out.cell (p := ⟨w.heap.size, 0, none⟩) HQ.out.1).trans HQ.out.2
  go_wp2_with fail
  refine h2.mono ?_
  rintro e w2 ⟨rfl, hb⟩
  have HB2 : Hid (Below W.heap.size W w2) := onB HB1.out hb
  clear hb h2 c2 HB1
  have h3 := HT.out.err 0 w2 HB2.out
  have c3 : w2.cell? ⟨w.heap.size, 0, none⟩ = some (.slice A0 n cap) := (HB2.out.cell (p := ⟨w.heap.size, 0, none⟩) HQ.out.1).trans HQ.out.2
  go_wp2_with fail
  refine h3.mono ?_
  rintro e w3 ⟨rfl, hb⟩
  have HB3 : Hid (Below W.heap.size W w3) := onB HB2.out hb
  clear hb h3 c3 HB2
  have h4 := HI.out.place w3 HB3.out
  have c4 : w3.cell? ⟨w.heap.size, 0, none⟩ = some (.slice A0 n cap) := (HB3.out.cell (p := ⟨w.heap.size, 0, none⟩) HQ.out.1).trans HQ.out.2
  go_wp2_with fail
  refine h4.mono ?_
  rintro e w4 ⟨rfl, hb⟩
  have HB4 : Hid (Below W.heap.size W w4) := onB HB3.out hb
  clear hb h4 c4 HB3
  obtain ⟨v4, hv4⟩ : ∃ v, w4.alloc (.cells #[.int .i64 0, .int .i64 0] 49) = v := ⟨_, rfl⟩
  have hbv : Below w4.heap.size w4 v4 := by rw [← hv4]; go_grown
  have HBv : Hid (Below W.heap.size W v4) := onB HB4.out hbv
  have HQc : Hid (w4.heap.size = w4.heap.size ∧ W.heap.size ≤ w4.heap.size) := ⟨rfl, HB4.out.size⟩
  have Lc : Hid (CellB w4.heap.size 0 0 v4) := by show CellB ..; rw [← hv4]; exact CellB.new ..
  clear hbv
  have h5 := HT.out.get v4 HBv.out
  have c5 : v4.cell? ⟨w.heap.size, 0, none⟩ = some (.slice A0 n cap) := (HBv.out.cell (p := ⟨w.heap.size, 0, none⟩) HQ.out.1).trans HQ.out.2
  go_wp2_with fail
  clear hv4
  refine h5.mono ?_
  rintro e w5 ⟨rfl, hb⟩
  have HB5 : Hid (Below W.heap.size W w5) := onB HBv.out hb
  have Lcx5 : Hid (CellB w4.heap.size 0 0 w5) := Lc.out.later hb
  clear Lc
  clear hb h5 c5 HBv
  obtain ⟨v5, hv5⟩ : ∃ v, w5.alloc (.cells #[.int .i64 0, .int .i64 0] 49) = v := ⟨_, rfl⟩
  have hb : Below w5.heap.size w5 v5 := by rw [← hv5]; go_grown
  have HBg : Hid (Below W.heap.size W v5) := onB HB5.out hb
  have Lcx5g : Hid (CellB w4.heap.size 0 0 v5) := Lcx5.out.later hb
  clear Lcx5
  have Lg : Hid (CellB w5.heap.size 0 0 v5) := by show CellB ..; rw [← hv5]; exact CellB.new ..
  clear hb
  have HVg : Hid (w5.alloc (.cells #[.int .i64 0, .int .i64 0] 49) = v5) := hv5
  clear hv5
  have h6 := HT.out.err G v5 HBg.out
  have c6 : v5.cell? ⟨w.heap.size, 0, none⟩ = some (.slice A0 n cap) := (HBg.out.cell (p := ⟨w.heap.size, 0, none⟩) HQ.out.1).trans HQ.out.2
  go_wp2_with fail
  rw [HVg.out]
  clear HVg
  refine h6.mono ?_
  rintro e w6 ⟨rfl, hb⟩
  have HB6 : Hid (Below W.heap.size W w6) := onB HBg.out hb
  have Lcx5gx6 : Hid (CellB w4.heap.size 0 0 w6) := Lcx5g.out.later hb
  have Lgx6 : Hid (CellB w5.heap.size 0 0 w6) := Lg.out.later hb
  clear Lcx5g
  clear Lg
  clear hb h6 c6 HBg
  have h7 := HI.out.rset w6 HB6.out
  have c7 : w6.cell? ⟨w.heap.size, 0, none⟩ = some (.slice A0 n cap) := (HB6.out.cell (p := ⟨w.heap.size, 0, none⟩) HQ.out.1).trans HQ.out.2
  go_wp2_with fail
  refine h7.mono ?_
  rintro e w7 ⟨⟨R1, r1, rs1, rfl, hV, hl⟩, hb⟩
  have HB7 : Hid (Below W.heap.size W w7) := onB HB6.out hb
  have Lcx5gx6x7 : Hid (CellB w4.heap.size 0 0 w7) := Lcx5gx6.out.later hb
  have Lgx6x7 : Hid (CellB w5.heap.size 0 0 w7) := Lgx6.out.later hb
  clear Lcx5gx6
  clear Lgx6
  have Lr1 : Hid (EnsV w7 R1 r1 rs1) := hV.1
  clear hb h7 c7 HB6
  have HLr1 : Hid (lE rs1 = L1) := hl
  clear hV hl
  have h8 := HT.out.set w7 HB7.out
  have c8 : w7.cell? ⟨w.heap.size, 0, none⟩ = some (.slice A0 n cap) := (HB7.out.cell (p := ⟨w.heap.size, 0, none⟩) HQ.out.1).trans HQ.out.2
  go_wp2_with fail
  refine h8.mono ?_
  rintro e w8 ⟨⟨Y1, y1, ys1, rfl, hV, hl⟩, hb⟩
  have HB8 : Hid (Below W.heap.size W w8) := onB HB7.out hb
  have Lcx5gx6x7x8 : Hid (CellB w4.heap.size 0 0 w8) := Lcx5gx6x7.out.later hb
  have Lgx6x7x8 : Hid (CellB w5.heap.size 0 0 w8) := Lgx6x7.out.later hb
  have Lr1x8 : Hid (EnsV w8 R1 r1 rs1) := Lr1.out.later hb
  clear Lcx5gx6x7
  clear Lgx6x7
  clear Lr1
  have Ly1 : Hid (EnsV w8 Y1 y1 ys1) := hV
  clear hb h8 c8 HB7
  have HLy1 : Hid (lE ys1 = L1) := hl
  clear hV hl
  have h9 := HT.out.err e1 w8 HB8.out
  have c9 : w8.cell? ⟨w.heap.size, 0, none⟩ = some (.slice A0 n cap) := (HB8.out.cell (p := ⟨w.heap.size, 0, none⟩) HQ.out.1).trans HQ.out.2
  go_wp2_with fail
  refine h9.mono ?_
  rintro e w9 ⟨rfl, hb⟩
  have HB9 : Hid (Below W.heap.size W w9) := onB HB8.out hb
  have Lcx5gx6x7x8x9 : Hid (CellB w4.heap.size 0 0 w9) := Lcx5gx6x7x8.out.later hb
  have Lgx6x7x8x9 : Hid (CellB w5.heap.size 0 0 w9) := Lgx6x7x8.out.later hb
  have Lr1x8x9 : Hid (EnsV w9 R1 r1 rs1) := Lr1x8.out.later hb
  have Ly1x9 : Hid (EnsV w9 Y1 y1 ys1) := Ly1.out.later hb
  clear Lcx5gx6x7x8
  clear Lgx6x7x8
  clear Lr1x8
  clear Ly1
  clear hb h9 c9 HB8
  have h10 := HT.out.same Y1 R1 y1 r1 ys1 rs1 L1 w9 (Or.inl rfl) HLy1.out HLr1.out Ly1x9.out Lr1x8x9.out
  have c10 : w9.cell? ⟨w.heap.size, 0, none⟩ = some (.slice A0 n cap) := (HB9.out.cell (p := ⟨w.heap.size, 0, none⟩) HQ.out.1).trans HQ.out.2
  go_wp2_with fail
  refine h10.mono ?_
  rintro e w10 ⟨rfl, hb⟩
  have HB10 : Hid (Below W.heap.size W w10) := onB HB9.out hb
  have Lcx5gx6x7x8x9x10 : Hid (CellB w4.heap.size 0 0 w10) := Lcx5gx6x7x8x9.out.later hb
  have Lgx6x7x8x9x10 : Hid (CellB w5.heap.size 0 0 w10) := Lgx6x7x8x9.out.later hb
  have Lr1x8x9x10 : Hid (EnsV w10 R1 r1 rs1) := Lr1x8x9.out.later hb
  have Ly1x9x10 : Hid (EnsV w10 Y1 y1 ys1) := Ly1x9.out.later hb
  clear Lcx5gx6x7x8x9
  clear Lgx6x7x8x9
  clear Lr1x8x9
  clear Ly1x9
  clear hb h10 c10 HB9
  clear Ly1x9x10
  clear Lr1x8x9x10
  have h11 := HI.out.rclr w10 HB10.out
  have c11 : w10.cell? ⟨w.heap.size, 0, none⟩ = some (.slice A0 n cap) := (HB10.out.cell (p := ⟨w.heap.size, 0, none⟩) HQ.out.1).trans HQ.out.2
  go_wp2_with fail
  refine h11.mono ?_
  rintro e w11 ⟨⟨R2, r2, rs2, rfl, hV, hl⟩, hb⟩
  have HB11 : Hid (Below W.heap.size W w11) := onB HB10.out hb
  have Lcx5gx6x7x8x9x10x11 : Hid (CellB w4.heap.size 0 0 w11) := Lcx5gx6x7x8x9x10.out.later hb
  have Lgx6x7x8x9x10x11 : Hid (CellB w5.heap.size 0 0 w11) := Lgx6x7x8x9x10.out.later hb
  clear Lcx5gx6x7x8x9x10
  clear Lgx6x7x8x9x10
  have Lr2 : Hid (EnsV w11 R2 r2 rs2) := hV.1
  clear hb h11 c11 HB10
  have HLr2 : Hid (lE rs2 = L2) := hl
  clear hV hl
  have h12 := HT.out.clr w11 HB11.out
  have c12 : w11.cell? ⟨w.heap.size, 0, none⟩ = some (.slice A0 n cap) := (HB11.out.cell (p := ⟨w.heap.size, 0, none⟩) HQ.out.1).trans HQ.out.2
  go_wp2_with fail
  refine h12.mono ?_
  rintro e w12 ⟨⟨Y2, y2, ys2, rfl, hV, hl⟩, hb⟩
  have HB12 : Hid (Below W.heap.size W w12) := onB HB11.out hb
  have Lcx5gx6x7x8x9x10x11x12 : Hid (CellB w4.heap.size 0 0 w12) := Lcx5gx6x7x8x9x10x11.out.later hb
  have Lgx6x7x8x9x10x11x12 : Hid (CellB w5.heap.size 0 0 w12) := Lgx6x7x8x9x10x11.out.later hb
  have Lr2x12 : Hid (EnsV w12 R2 r2 rs2) := Lr2.out.later hb
  clear Lcx5gx6x7x8x9x10x11
  clear Lgx6x7x8x9x10x11
  clear Lr2
  have Ly2 : Hid (EnsV w12 Y2 y2 ys2) := hV
  clear hb h12 c12 HB11
  have HLy2 : Hid (lE ys2 = L2) := hl
  clear hV hl
  have h13 := HT.out.err e2 w12 HB12.out
  have c13 : w12.cell? ⟨w.heap.size, 0, none⟩ = some (.slice A0 n cap) := (HB12.out.cell (p := ⟨w.heap.size, 0, none⟩) HQ.out.1).trans HQ.out.2
  go_wp2_with fail
  refine h13.mono ?_
  rintro e w13 ⟨rfl, hb⟩
  have HB13 : Hid (Below W.heap.size W w13) := onB HB12.out hb
  have Lcx5gx6x7x8x9x10x11x12x13 : Hid (CellB w4.heap.size 0 0 w13) := Lcx5gx6x7x8x9x10x11x12.out.later hb
  have Lgx6x7x8x9x10x11x12x13 : Hid (CellB w5.heap.size 0 0 w13) := Lgx6x7x8x9x10x11x12.out.later hb
  have Lr2x12x13 : Hid (EnsV w13 R2 r2 rs2) := Lr2x12.out.later hb
  have Ly2x13 : Hid (EnsV w13 Y2 y2 ys2) := Ly2.out.later hb
  clear Lcx5gx6x7x8x9x10x11x12
  clear Lgx6x7x8x9x10x11x12
  clear Lr2x12
  clear Ly2
  clear hb h13 c13 HB12
  have h14 := HT.out.same Y2 R2 y2 r2 ys2 rs2 L2 w13 (Or.inr (Or.inl rfl)) HLy2.out HLr2.out Ly2x13.out Lr2x12x13.out
  have c14 : w13.cell? ⟨w.heap.size, 0, none⟩ = some (.slice A0 n cap) := (HB13.out.cell (p := ⟨w.heap.size, 0, none⟩) HQ.out.1).trans HQ.out.2
  go_wp2_with fail
  refine h14.mono ?_
  rintro e w14 ⟨rfl, hb⟩
  have HB14 : Hid (Below W.heap.size W w14) := onB HB13.out hb
  have Lcx5gx6x7x8x9x10x11x12x13x14 : Hid (CellB w4.heap.size 0 0 w14) := Lcx5gx6x7x8x9x10x11x12x13.out.later hb
  have Lgx6x7x8x9x10x11x12x13x14 : Hid (CellB w5.heap.size 0 0 w14) := Lgx6x7x8x9x10x11x12x13.out.later hb
  have Lr2x12x13x14 : Hid (EnsV w14 R2 r2 rs2) := Lr2x12x13.out.later hb
  have Ly2x13x14 : Hid (EnsV w14 Y2 y2 ys2) := Ly2x13.out.later hb
  clear Lcx5gx6x7x8x9x10x11x12x13
  clear Lgx6x7x8x9x10x11x12x13
  clear Lr2x12x13
  clear Ly2x13
  clear hb h14 c14 HB13
  clear Ly2x13x14
  clear Lr2x12x13x14
  have h15 := HT.out.edits w14 HB14.out
  have c15 : w14.cell? ⟨w.heap.size, 0, none⟩ = some (.slice A0 n cap) := (HB14.out.cell (p := ⟨w.heap.size, 0, none⟩) HQ.out.1).trans HQ.out.2
  go_wp2_with fail
  refine h15.mono ?_
  rintro e w15 ⟨⟨R5, r5, rs5, rfl, hV, hl⟩, hb⟩
  have HB15 : Hid (Below W.heap.size W w15) := onB HB14.out hb
  have Lcx5gx6x7x8x9x10x11x12x13x14x15 : Hid (CellB w4.heap.size 0 0 w15) := Lcx5gx6x7x8x9x10x11x12x13x14.out.later hb
  have Lgx6x7x8x9x10x11x12x13x14x15 : Hid (CellB w5.heap.size 0 0 w15) := Lgx6x7x8x9x10x11x12x13x14.out.later hb
  clear Lcx5gx6x7x8x9x10x11x12x13x14
  clear Lgx6x7x8x9x10x11x12x13x14
  have Lr5 : Hid (EnsV w15 R5 r5 rs5) := hV
  clear hb h15 c15 HB14
  have HLr5 : Hid (lE rs5 = L5) := hl
  clear hV hl
  have h16 := HT.out.all w15 HB15.out
  have c16 : w15.cell? ⟨w.heap.size, 0, none⟩ = some (.slice A0 n cap) := (HB15.out.cell (p := ⟨w.heap.size, 0, none⟩) HQ.out.1).trans HQ.out.2
  go_wp2_with fail
  refine h16.mono ?_
  rintro e w16 ⟨⟨Y5, y5, ys5, rfl, hV, hl⟩, hb⟩
  have HB16 : Hid (Below W.heap.size W w16) := onB HB15.out hb
  have Lcx5gx6x7x8x9x10x11x12x13x14x15x16 : Hid (CellB w4.heap.size 0 0 w16) := Lcx5gx6x7x8x9x10x11x12x13x14x15.out.later hb
  have Lgx6x7x8x9x10x11x12x13x14x15x16 : Hid (CellB w5.heap.size 0 0 w16) := Lgx6x7x8x9x10x11x12x13x14x15.out.later hb
  have Lr5x16 : Hid (EnsV w16 R5 r5 rs5) := Lr5.out.later hb
  clear Lcx5gx6x7x8x9x10x11x12x13x14x15
  clear Lgx6x7x8x9x10x11x12x13x14x15
  clear Lr5
  have Ly5 : Hid (EnsV w16 Y5 y5 ys5) := hV
  clear hb h16 c16 HB15
  have HLy5 : Hid (lE ys5 = L5) := hl
  clear hV hl
  have h17 := HT.out.err e5 w16 HB16.out
  have c17 : w16.cell? ⟨w.heap.size, 0, none⟩ = some (.slice A0 n cap) := (HB16.out.cell (p := ⟨w.heap.size, 0, none⟩) HQ.out.1).trans HQ.out.2
  go_wp2_with fail
  refine h17.mono ?_
  rintro e w17 ⟨rfl, hb⟩
  have HB17 : Hid (Below W.heap.size W w17) := onB HB16.out hb
  have Lcx5gx6x7x8x9x10x11x12x13x14x15x16x17 : Hid (CellB w4.heap.size 0 0 w17) := Lcx5gx6x7x8x9x10x11x12x13x14x15x16.out.later hb
  have Lgx6x7x8x9x10x11x12x13x14x15x16x17 : Hid (CellB w5.heap.size 0 0 w17) := Lgx6x7x8x9x10x11x12x13x14x15x16.out.later hb
  have Lr5x16x17 : Hid (EnsV w17 R5 r5 rs5) := Lr5x16.out.later hb
  have Ly5x17 : Hid (EnsV w17 Y5 y5 ys5) := Ly5.out.later hb
  clear Lcx5gx6x7x8x9x10x11x12x13x14x15x16
  clear Lgx6x7x8x9x10x11x12x13x14x15x16
  clear Lr5x16
  clear Ly5
  clear hb h17 c17 HB16
  have h18 := HT.out.same Y5 R5 y5 r5 ys5 rs5 L5 w17 (Or.inr (Or.inr rfl)) HLy5.out HLr5.out Ly5x17.out Lr5x16x17.out
  have c18 : w17.cell? ⟨w.heap.size, 0, none⟩ = some (.slice A0 n cap) := (HB17.out.cell (p := ⟨w.heap.size, 0, none⟩) HQ.out.1).trans HQ.out.2
  go_wp2_with fail
  refine h18.mono ?_
  rintro e w18 ⟨rfl, hb⟩
  have HB18 : Hid (Below W.heap.size W w18) := onB HB17.out hb
  have Lcx5gx6x7x8x9x10x11x12x13x14x15x16x17x18 : Hid (CellB w4.heap.size 0 0 w18) := Lcx5gx6x7x8x9x10x11x12x13x14x15x16x17.out.later hb
  have Lgx6x7x8x9x10x11x12x13x14x15x16x17x18 : Hid (CellB w5.heap.size 0 0 w18) := Lgx6x7x8x9x10x11x12x13x14x15x16x17.out.later hb
  have Lr5x16x17x18 : Hid (EnsV w18 R5 r5 rs5) := Lr5x16x17.out.later hb
  have Ly5x17x18 : Hid (EnsV w18 Y5 y5 ys5) := Ly5x17.out.later hb
  clear Lcx5gx6x7x8x9x10x11x12x13x14x15x16x17
  clear Lgx6x7x8x9x10x11x12x13x14x15x16x17
  clear Lr5x16x17
  clear Ly5x17
  clear hb h18 c18 HB17
  obtain ⟨-, q0, q1⟩ := Lcx5gx6x7x8x9x10x11x12x13x14x15x16x17x18.out
  obtain ⟨-, s0, s1⟩ := Lgx6x7x8x9x10x11x12x13x14x15x16x17x18.out
  go_wp2_with fail
  go_ret
  exact ⟨rfl, onB HB0.out HB18.out⟩

set_option maxHeartbeats 64000000 in
theorem tells_c (A0 : Option Addr) (cap n : Nat) (AE : Option Addr) (nx ce : Nat) (Ap : Option Addr) (m cp : Nat) (N : Int) (AX : Option Addr) (ny cx : Nat) (E G a1 a2 e1 e2 k5 e5 : Int) (L1 L2 L5 : List En) (w : World) (hT : Tells (ownOut w A0 n cap 24) A0 cap n AE nx ce Ap m cp N AX ny cx E G a1 a2 e1 e2 k5 e5 L1 L2 L5) (hE : E = 0) (hG : G = 0) (hI : TellsIn (ownOut w A0 n cap 24) A0 cap n AE nx ce Ap m cp N G e1 e2 L1 L2) (hC : TellsC (ownOut w A0 n cap 24) AE nx ce Ap m cp a1 a2) :
    Calls Tryd.prog 5 #[.agg #[.slice A0 n cap], .slice AE nx ce, .slice Ap m cp, .int .i64 N, .slice AX ny cx] w fun e w' => e = .returned (.bool true) ∧ Below w.heap.size w w' := by
  subst hE
  subst hG
  obtain ⟨W, hW⟩ : ∃ W, w.alloc (.cells #[.slice A0 n cap] 24) = W := ⟨_, rfl⟩
  have hW' : ownOut w A0 n cap 24 = W := hW
  rw [hW'] at hT hI hC
  have HB0 : Hid (Below w.heap.size w W) := by show Below ..; rw [← hW']; exact ownOut_below ..
  have HQ : Hid (w.heap.size < W.heap.size ∧ W.cell? ⟨w.heap.size, 0, none⟩ = some (.slice A0 n cap)) := by rw [← hW']; exact ⟨by rw [ownOut_size]; omega, ownOut_at ..⟩
  have HBW : Hid (Below W.heap.size W W) := Below.refl _ _
  have HT : Hid _ := hT
  have HI : Hid _ := hI
  have HC : Hid _ := hC
  clear hT hI hC hW'
  go_enter Tryd.func5, Tryd.ntmps5
  have h1 := HT.out.entries W HBW.out
  have c1 : W.cell? ⟨w.heap.size, 0, none⟩ = some (.slice A0 n cap) := (HBW.out.cell (p := ⟨w.heap.size, 0, none⟩) HQ.out.1).trans HQ.out.2
  go_wp2_with fail
  clear hW
  refine h1.mono ?_
  rintro e w1 ⟨rfl, hb⟩
  have HB1 : Hid (Below W.heap.size W w1) := onB HBW.out hb
  clear hb h1 c1
  have h2 := HT.out.check w1 HB1.out
  have c2 : w1.cell? ⟨w.heap.size, 0, none⟩ = some (.slice A0 n cap) := (HB1.out.cell (p := ⟨w.heap.size, 0, none⟩) HQ.out.1).trans HQ.out.2
  go_wp2_with fail
  refine h2.mono ?_
  rintro e w2 ⟨rfl, hb⟩
  have HB2 : Hid (Below W.heap.size W w2) := onB HB1.out hb
  clear hb h2 c2 HB1
  have h3 := HT.out.err 0 w2 HB2.out
  have c3 : w2.cell? ⟨w.heap.size, 0, none⟩ = some (.slice A0 n cap) := (HB2.out.cell (p := ⟨w.heap.size, 0, none⟩) HQ.out.1).trans HQ.out.2
  go_wp2_with fail
  refine h3.mono ?_
  rintro e w3 ⟨rfl, hb⟩
  have HB3 : Hid (Below W.heap.size W w3) := onB HB2.out hb
  clear hb h3 c3 HB2
  have h4 := HI.out.place w3 HB3.out
  have c4 : w3.cell? ⟨w.heap.size, 0, none⟩ = some (.slice A0 n cap) := (HB3.out.cell (p := ⟨w.heap.size, 0, none⟩) HQ.out.1).trans HQ.out.2
  go_wp2_with fail
  refine h4.mono ?_
  rintro e w4 ⟨rfl, hb⟩
  have HB4 : Hid (Below W.heap.size W w4) := onB HB3.out hb
  clear hb h4 c4 HB3
  obtain ⟨v4, hv4⟩ : ∃ v, w4.alloc (.cells #[.int .i64 0, .int .i64 0] 49) = v := ⟨_, rfl⟩
  have hbv : Below w4.heap.size w4 v4 := by rw [← hv4]; go_grown
  have HBv : Hid (Below W.heap.size W v4) := onB HB4.out hbv
  have HQc : Hid (w4.heap.size = w4.heap.size ∧ W.heap.size ≤ w4.heap.size) := ⟨rfl, HB4.out.size⟩
  have HKc : Hid (v4.heap[w4.heap.size]? = some (.cells #[.int .i64 0, .int .i64 0] 49)) := by show _ = _; rw [← hv4]; exact heap_alloc_new w4 _
  have hzc : w4.heap.size < v4.heap.size := by rw [← hv4]; simp
  clear hbv
  have h5 := HC.out.input v4 HBv.out
  have c5 : v4.cell? ⟨w.heap.size, 0, none⟩ = some (.slice A0 n cap) := (HBv.out.cell (p := ⟨w.heap.size, 0, none⟩) HQ.out.1).trans HQ.out.2
  go_wp2_with fail
  clear hv4
  refine h5.mono ?_
  rintro e w5 ⟨rfl, hb⟩
  have HB5 : Hid (Below W.heap.size W w5) := onB HBv.out hb
  have HKc2 : Hid (w5.heap[w4.heap.size]? = some (.cells #[.int .i64 0, .int .i64 0] 49)) := (hb.block _ hzc).trans HKc.out
  clear hb h5 c5 HBv
  have kc : w5.heap[w4.heap.size]? = some (.cells #[.int .i64 0, .int .i64 0] 49) := HKc2.out
  have d0 : w5.cell? ⟨w4.heap.size, 0, none⟩ = some (.int .i64 0) := by rw [Lib.cell_of_heap kc]; rfl
  have d1 : w5.cell? ⟨w4.heap.size, 1, none⟩ = some (.int .i64 0) := by rw [Lib.cell_of_heap kc]; rfl
  have f0 : w5.frozen? ⟨w4.heap.size, 0, none⟩ = false := Lib.frozen_of_heap kc 0
  have f1 : w5.frozen? ⟨w4.heap.size, 1, none⟩ = false := Lib.frozen_of_heap kc 1
  obtain ⟨u5, hu5⟩ : ∃ v, (w5.setCell ⟨w4.heap.size, 0, none⟩ (.int .i64 a1)).setCell ⟨w4.heap.size, 1, none⟩ (.int .i64 a2) = v := ⟨_, rfl⟩
  have HBu : Hid (Below W.heap.size W u5) := by show Below ..; rw [← hu5]; exact (HB5.out.setCell HQc.out.2 _).setCell HQc.out.2 _
  have Lc : Hid (CellB w4.heap.size a1 a2 u5) := by show CellB ..; rw [← hu5]; exact CellB.set HKc2.out
  clear kc HKc HKc2 hzc
  have h6 := HT.out.get u5 HBu.out
  have c6 : u5.cell? ⟨w.heap.size, 0, none⟩ = some (.slice A0 n cap) := (HBu.out.cell (p := ⟨w.heap.size, 0, none⟩) HQ.out.1).trans HQ.out.2
  go_wp2_with fail
  clear hu5 d0 d1 f0 f1
  refine h6.mono ?_
  rintro e w6 ⟨rfl, hb⟩
  have HB6 : Hid (Below W.heap.size W w6) := onB HBu.out hb
  have Lcx6 : Hid (CellB w4.heap.size a1 a2 w6) := Lc.out.later hb
  clear Lc
  clear hb h6 c6 HBu
  obtain ⟨v6, hv6⟩ : ∃ v, w6.alloc (.cells #[.int .i64 a1, .int .i64 a2] 49) = v := ⟨_, rfl⟩
  have hb : Below w6.heap.size w6 v6 := by rw [← hv6]; go_grown
  have HBg : Hid (Below W.heap.size W v6) := onB HB6.out hb
  have Lcx6g : Hid (CellB w4.heap.size a1 a2 v6) := Lcx6.out.later hb
  clear Lcx6
  have Lg : Hid (CellB w6.heap.size a1 a2 v6) := by show CellB ..; rw [← hv6]; exact CellB.new ..
  clear hb
  have h7 := HT.out.err 0 v6 HBg.out
  have c7 : v6.cell? ⟨w.heap.size, 0, none⟩ = some (.slice A0 n cap) := (HBg.out.cell (p := ⟨w.heap.size, 0, none⟩) HQ.out.1).trans HQ.out.2
  go_wp2_with fail
  clear hv6
  refine h7.mono ?_
  rintro e w7 ⟨rfl, hb⟩
  have HB7 : Hid (Below W.heap.size W w7) := onB HBg.out hb
  have Lcx6gx7 : Hid (CellB w4.heap.size a1 a2 w7) := Lcx6g.out.later hb
  have Lgx7 : Hid (CellB w6.heap.size a1 a2 w7) := Lg.out.later hb
  clear Lcx6g
  clear Lg
  clear hb h7 c7 HBg
  have h8 := HI.out.rset w7 HB7.out
  have c8 : w7.cell? ⟨w.heap.size, 0, none⟩ = some (.slice A0 n cap) := (HB7.out.cell (p := ⟨w.heap.size, 0, none⟩) HQ.out.1).trans HQ.out.2
  go_wp2_with fail
  refine h8.mono ?_
  rintro e w8 ⟨⟨R1, r1, rs1, rfl, hV, hl⟩, hb⟩
  have HB8 : Hid (Below W.heap.size W w8) := onB HB7.out hb
  have Lcx6gx7x8 : Hid (CellB w4.heap.size a1 a2 w8) := Lcx6gx7.out.later hb
  have Lgx7x8 : Hid (CellB w6.heap.size a1 a2 w8) := Lgx7.out.later hb
  clear Lcx6gx7
  clear Lgx7
  have Lr1 : Hid (EnsV w8 R1 r1 rs1) := hV.1
  clear hb h8 c8 HB7
  have HLr1 : Hid (lE rs1 = L1) := hl
  clear hV hl
  have h9 := HT.out.set w8 HB8.out
  have c9 : w8.cell? ⟨w.heap.size, 0, none⟩ = some (.slice A0 n cap) := (HB8.out.cell (p := ⟨w.heap.size, 0, none⟩) HQ.out.1).trans HQ.out.2
  go_wp2_with fail
  refine h9.mono ?_
  rintro e w9 ⟨⟨Y1, y1, ys1, rfl, hV, hl⟩, hb⟩
  have HB9 : Hid (Below W.heap.size W w9) := onB HB8.out hb
  have Lcx6gx7x8x9 : Hid (CellB w4.heap.size a1 a2 w9) := Lcx6gx7x8.out.later hb
  have Lgx7x8x9 : Hid (CellB w6.heap.size a1 a2 w9) := Lgx7x8.out.later hb
  have Lr1x9 : Hid (EnsV w9 R1 r1 rs1) := Lr1.out.later hb
  clear Lcx6gx7x8
  clear Lgx7x8
  clear Lr1
  have Ly1 : Hid (EnsV w9 Y1 y1 ys1) := hV
  clear hb h9 c9 HB8
  have HLy1 : Hid (lE ys1 = L1) := hl
  clear hV hl
  have h10 := HT.out.err e1 w9 HB9.out
  have c10 : w9.cell? ⟨w.heap.size, 0, none⟩ = some (.slice A0 n cap) := (HB9.out.cell (p := ⟨w.heap.size, 0, none⟩) HQ.out.1).trans HQ.out.2
  go_wp2_with fail
  refine h10.mono ?_
  rintro e w10 ⟨rfl, hb⟩
  have HB10 : Hid (Below W.heap.size W w10) := onB HB9.out hb
  have Lcx6gx7x8x9x10 : Hid (CellB w4.heap.size a1 a2 w10) := Lcx6gx7x8x9.out.later hb
  have Lgx7x8x9x10 : Hid (CellB w6.heap.size a1 a2 w10) := Lgx7x8x9.out.later hb
  have Lr1x9x10 : Hid (EnsV w10 R1 r1 rs1) := Lr1x9.out.later hb
  have Ly1x10 : Hid (EnsV w10 Y1 y1 ys1) := Ly1.out.later hb
  clear Lcx6gx7x8x9
  clear Lgx7x8x9
  clear Lr1x9
  clear Ly1
  clear hb h10 c10 HB9
  have h11 := HT.out.same Y1 R1 y1 r1 ys1 rs1 L1 w10 (Or.inl rfl) HLy1.out HLr1.out Ly1x10.out Lr1x9x10.out
  have c11 : w10.cell? ⟨w.heap.size, 0, none⟩ = some (.slice A0 n cap) := (HB10.out.cell (p := ⟨w.heap.size, 0, none⟩) HQ.out.1).trans HQ.out.2
  go_wp2_with fail
  refine h11.mono ?_
  rintro e w11 ⟨rfl, hb⟩
  have HB11 : Hid (Below W.heap.size W w11) := onB HB10.out hb
  have Lcx6gx7x8x9x10x11 : Hid (CellB w4.heap.size a1 a2 w11) := Lcx6gx7x8x9x10.out.later hb
  have Lgx7x8x9x10x11 : Hid (CellB w6.heap.size a1 a2 w11) := Lgx7x8x9x10.out.later hb
  have Lr1x9x10x11 : Hid (EnsV w11 R1 r1 rs1) := Lr1x9x10.out.later hb
  have Ly1x10x11 : Hid (EnsV w11 Y1 y1 ys1) := Ly1x10.out.later hb
  clear Lcx6gx7x8x9x10
  clear Lgx7x8x9x10
  clear Lr1x9x10
  clear Ly1x10
  clear hb h11 c11 HB10
  clear Ly1x10x11
  clear Lr1x9x10x11
  have h12 := HI.out.rclr w11 HB11.out
  have c12 : w11.cell? ⟨w.heap.size, 0, none⟩ = some (.slice A0 n cap) := (HB11.out.cell (p := ⟨w.heap.size, 0, none⟩) HQ.out.1).trans HQ.out.2
  go_wp2_with fail
  refine h12.mono ?_
  rintro e w12 ⟨⟨R2, r2, rs2, rfl, hV, hl⟩, hb⟩
  have HB12 : Hid (Below W.heap.size W w12) := onB HB11.out hb
  have Lcx6gx7x8x9x10x11x12 : Hid (CellB w4.heap.size a1 a2 w12) := Lcx6gx7x8x9x10x11.out.later hb
  have Lgx7x8x9x10x11x12 : Hid (CellB w6.heap.size a1 a2 w12) := Lgx7x8x9x10x11.out.later hb
  clear Lcx6gx7x8x9x10x11
  clear Lgx7x8x9x10x11
  have Lr2 : Hid (EnsV w12 R2 r2 rs2) := hV.1
  clear hb h12 c12 HB11
  have HLr2 : Hid (lE rs2 = L2) := hl
  clear hV hl
  have h13 := HT.out.clr w12 HB12.out
  have c13 : w12.cell? ⟨w.heap.size, 0, none⟩ = some (.slice A0 n cap) := (HB12.out.cell (p := ⟨w.heap.size, 0, none⟩) HQ.out.1).trans HQ.out.2
  go_wp2_with fail
  refine h13.mono ?_
  rintro e w13 ⟨⟨Y2, y2, ys2, rfl, hV, hl⟩, hb⟩
  have HB13 : Hid (Below W.heap.size W w13) := onB HB12.out hb
  have Lcx6gx7x8x9x10x11x12x13 : Hid (CellB w4.heap.size a1 a2 w13) := Lcx6gx7x8x9x10x11x12.out.later hb
  have Lgx7x8x9x10x11x12x13 : Hid (CellB w6.heap.size a1 a2 w13) := Lgx7x8x9x10x11x12.out.later hb
  have Lr2x13 : Hid (EnsV w13 R2 r2 rs2) := Lr2.out.later hb
  clear Lcx6gx7x8x9x10x11x12
  clear Lgx7x8x9x10x11x12
  clear Lr2
  have Ly2 : Hid (EnsV w13 Y2 y2 ys2) := hV
  clear hb h13 c13 HB12
  have HLy2 : Hid (lE ys2 = L2) := hl
  clear hV hl
  have h14 := HT.out.err e2 w13 HB13.out
  have c14 : w13.cell? ⟨w.heap.size, 0, none⟩ = some (.slice A0 n cap) := (HB13.out.cell (p := ⟨w.heap.size, 0, none⟩) HQ.out.1).trans HQ.out.2
  go_wp2_with fail
  refine h14.mono ?_
  rintro e w14 ⟨rfl, hb⟩
  have HB14 : Hid (Below W.heap.size W w14) := onB HB13.out hb
  have Lcx6gx7x8x9x10x11x12x13x14 : Hid (CellB w4.heap.size a1 a2 w14) := Lcx6gx7x8x9x10x11x12x13.out.later hb
  have Lgx7x8x9x10x11x12x13x14 : Hid (CellB w6.heap.size a1 a2 w14) := Lgx7x8x9x10x11x12x13.out.later hb
  have Lr2x13x14 : Hid (EnsV w14 R2 r2 rs2) := Lr2x13.out.later hb
  have Ly2x14 : Hid (EnsV w14 Y2 y2 ys2) := Ly2.out.later hb
  clear Lcx6gx7x8x9x10x11x12x13
  clear Lgx7x8x9x10x11x12x13
  clear Lr2x13
  clear Ly2
  clear hb h14 c14 HB13
  have h15 := HT.out.same Y2 R2 y2 r2 ys2 rs2 L2 w14 (Or.inr (Or.inl rfl)) HLy2.out HLr2.out Ly2x14.out Lr2x13x14.out
  have c15 : w14.cell? ⟨w.heap.size, 0, none⟩ = some (.slice A0 n cap) := (HB14.out.cell (p := ⟨w.heap.size, 0, none⟩) HQ.out.1).trans HQ.out.2
  go_wp2_with fail
  refine h15.mono ?_
  rintro e w15 ⟨rfl, hb⟩
  have HB15 : Hid (Below W.heap.size W w15) := onB HB14.out hb
  have Lcx6gx7x8x9x10x11x12x13x14x15 : Hid (CellB w4.heap.size a1 a2 w15) := Lcx6gx7x8x9x10x11x12x13x14.out.later hb
  have Lgx7x8x9x10x11x12x13x14x15 : Hid (CellB w6.heap.size a1 a2 w15) := Lgx7x8x9x10x11x12x13x14.out.later hb
  have Lr2x13x14x15 : Hid (EnsV w15 R2 r2 rs2) := Lr2x13x14.out.later hb
  have Ly2x14x15 : Hid (EnsV w15 Y2 y2 ys2) := Ly2x14.out.later hb
  clear Lcx6gx7x8x9x10x11x12x13x14
  clear Lgx7x8x9x10x11x12x13x14
  clear Lr2x13x14
  clear Ly2x14
  clear hb h15 c15 HB14
  clear Ly2x14x15
  clear Lr2x13x14x15
  have h16 := HT.out.edits w15 HB15.out
  have c16 : w15.cell? ⟨w.heap.size, 0, none⟩ = some (.slice A0 n cap) := (HB15.out.cell (p := ⟨w.heap.size, 0, none⟩) HQ.out.1).trans HQ.out.2
  go_wp2_with fail
  refine h16.mono ?_
  rintro e w16 ⟨⟨R5, r5, rs5, rfl, hV, hl⟩, hb⟩
  have HB16 : Hid (Below W.heap.size W w16) := onB HB15.out hb
  have Lcx6gx7x8x9x10x11x12x13x14x15x16 : Hid (CellB w4.heap.size a1 a2 w16) := Lcx6gx7x8x9x10x11x12x13x14x15.out.later hb
  have Lgx7x8x9x10x11x12x13x14x15x16 : Hid (CellB w6.heap.size a1 a2 w16) := Lgx7x8x9x10x11x12x13x14x15.out.later hb
  clear Lcx6gx7x8x9x10x11x12x13x14x15
  clear Lgx7x8x9x10x11x12x13x14x15
  have Lr5 : Hid (EnsV w16 R5 r5 rs5) := hV
  clear hb h16 c16 HB15
  have HLr5 : Hid (lE rs5 = L5) := hl
  clear hV hl
  have h17 := HT.out.all w16 HB16.out
  have c17 : w16.cell? ⟨w.heap.size, 0, none⟩ = some (.slice A0 n cap) := (HB16.out.cell (p := ⟨w.heap.size, 0, none⟩) HQ.out.1).trans HQ.out.2
  go_wp2_with fail
  refine h17.mono ?_
  rintro e w17 ⟨⟨Y5, y5, ys5, rfl, hV, hl⟩, hb⟩
  have HB17 : Hid (Below W.heap.size W w17) := onB HB16.out hb
  have Lcx6gx7x8x9x10x11x12x13x14x15x16x17 : Hid (CellB w4.heap.size a1 a2 w17) := Lcx6gx7x8x9x10x11x12x13x14x15x16.out.later hb
  have Lgx7x8x9x10x11x12x13x14x15x16x17 : Hid (CellB w6.heap.size a1 a2 w17) := Lgx7x8x9x10x11x12x13x14x15x16.out.later hb
  have Lr5x17 : Hid (EnsV w17 R5 r5 rs5) := Lr5.out.later hb
  clear Lcx6gx7x8x9x10x11x12x13x14x15x16
  clear Lgx7x8x9x10x11x12x13x14x15x16
  clear Lr5
  have Ly5 : Hid (EnsV w17 Y5 y5 ys5) := hV
  clear hb h17 c17 HB16
  have HLy5 : Hid (lE ys5 = L5) := hl
  clear hV hl
  have h18 := HT.out.err e5 w17 HB17.out
  have c18 : w17.cell? ⟨w.heap.size, 0, none⟩ = some (.slice A0 n cap) := (HB17.out.cell (p := ⟨w.heap.size, 0, none⟩) HQ.out.1).trans HQ.out.2
  go_wp2_with fail
  refine h18.mono ?_
  rintro e w18 ⟨rfl, hb⟩
  have HB18 : Hid (Below W.heap.size W w18) := onB HB17.out hb
  have Lcx6gx7x8x9x10x11x12x13x14x15x16x17x18 : Hid (CellB w4.heap.size a1 a2 w18) := Lcx6gx7x8x9x10x11x12x13x14x15x16x17.out.later hb
  have Lgx7x8x9x10x11x12x13x14x15x16x17x18 : Hid (CellB w6.heap.size a1 a2 w18) := Lgx7x8x9x10x11x12x13x14x15x16x17.out.later hb
  have Lr5x17x18 : Hid (EnsV w18 R5 r5 rs5) := Lr5x17.out.later hb
  have Ly5x18 : Hid (EnsV w18 Y5 y5 ys5) := Ly5.out.later hb
  clear Lcx6gx7x8x9x10x11x12x13x14x15x16x17
  clear Lgx7x8x9x10x11x12x13x14x15x16x17
  clear Lr5x17
  clear Ly5
  clear hb h18 c18 HB17
  have h19 := HT.out.same Y5 R5 y5 r5 ys5 rs5 L5 w18 (Or.inr (Or.inr rfl)) HLy5.out HLr5.out Ly5x18.out Lr5x17x18.out
  have c19 : w18.cell? ⟨w.heap.size, 0, none⟩ = some (.slice A0 n cap) := (HB18.out.cell (p := ⟨w.heap.size, 0, none⟩) HQ.out.1).trans HQ.out.2
  go_wp2_with fail
  refine h19.mono ?_
  rintro e w19 ⟨rfl, hb⟩
  have HB19 : Hid (Below W.heap.size W w19) := onB HB18.out hb
  have Lcx6gx7x8x9x10x11x12x13x14x15x16x17x18x19 : Hid (CellB w4.heap.size a1 a2 w19) := Lcx6gx7x8x9x10x11x12x13x14x15x16x17x18.out.later hb
  have Lgx7x8x9x10x11x12x13x14x15x16x17x18x19 : Hid (CellB w6.heap.size a1 a2 w19) := Lgx7x8x9x10x11x12x13x14x15x16x17x18.out.later hb
  have Lr5x17x18x19 : Hid (EnsV w19 R5 r5 rs5) := Lr5x17x18.out.later hb
  have Ly5x18x19 : Hid (EnsV w19 Y5 y5 ys5) := Ly5x18.out.later hb
  clear Lcx6gx7x8x9x10x11x12x13x14x15x16x17x18
  clear Lgx7x8x9x10x11x12x13x14x15x16x17x18
  clear Lr5x17x18
  clear Ly5x18
  clear hb h19 c19 HB18
  obtain ⟨-, q0, q1⟩ := Lcx6gx7x8x9x10x11x12x13x14x15x16x17x18x19.out
  obtain ⟨-, s0, s1⟩ := Lgx7x8x9x10x11x12x13x14x15x16x17x18x19.out
  go_wp2_with fail
  go_ret
  exact ⟨rfl, onB HB0.out HB19.out⟩
end Go.Proofs.YtgkhnmkfeolidacDoor

namespace Go.Proofs.YtgkhnmkfeolidacDoor
open Go Go.ChangeShapes Go.WideShapes Go.ChangeAt Go.RowKit Go.Deep
set_option maxRecDepth 100000

theorem tells_any (A0 : Option Addr) (cap n : Nat) (D : Nat → Dm) (A : Nat → Option Addr) (C : Nat → Nat) (AE : Option Addr) (ce : Nat) (xs : List EnL) (Ap : Option Addr) (cp : Nat) (p : List Int) (N : Int) (AX : Option Addr) (cx : Nat) (ys : List EdL) (w : World) (hM : DimsV w A0 cap n D A C) (hE : EnsN w AE ce xs) (hP : PlAt w Ap cp p) (hX : EdsV w AX cx ys) (hK : Kind0 w) :
    Calls Tryd.prog 5 #[.agg #[.slice A0 n cap], .slice AE xs.length ce, .slice Ap p.length cp, .int .i64 N, .slice AX ys.length cx] w fun e w' => e = .returned (.bool true) ∧ Below w.heap.size w w' := by
  have hB0 := ownOut_below w A0 n cap 24
  have hT : Tells (ownOut w A0 n cap 24) A0 cap n AE xs.length ce Ap p.length cp N AX ys.length cx (entsErr D n (lE xs)) (getErr D n (lE xs) p) (getV D n (lE xs) p).1 (getV D n (lE xs) p).2 (changeErr D n (lE xs) ⟨p, N, false⟩) (changeErr D n (lE xs) ⟨p, 0, true⟩) (editsV D n (lE xs) (lD ys)).2.1 (editsV D n (lE xs) (lD ys)).2.2 (pickL (changeErr D n (lE xs) ⟨p, N, false⟩) (setL (lE xs) p N)) (pickL (changeErr D n (lE xs) ⟨p, 0, true⟩) (clrL (lE xs) p)) (editsV D n (lE xs) (lD ys)).1 := by
    refine ⟨fun w' hw' => ?_, fun w' hw' => ?_, fun c w' hw' => ?_, fun w' hw' => ?_, fun w' hw' => ?_, fun w' hw' => ?_, fun w' hw' => ?_, fun w' hw' => ?_, fun A' B' ca cb zs ws l w' hl hz hw hA hB => ?_⟩
    · exact rentries_any A0 cap n D A C AE ce xs w' (hM.later (onB hB0 hw')) (hE.1.later (onB hB0 hw'))
    · exact icheck_any A0 cap n D A C AE ce xs w' (hM.later (onB hB0 hw')) (hE.1.later (onB hB0 hw'))
    · exact same_err c w' (hK.later (onB hB0 hw'))
    · exact iget_any A0 cap n D A C AE ce xs Ap cp p w' (hM.later (onB hB0 hw')) (hE.1.later (onB hB0 hw')) (hP.later (onB hB0 hw'))
    · exact iset_any A0 cap n D A C AE ce xs Ap cp p N w' (hM.later (onB hB0 hw')) (hE.1.later (onB hB0 hw')) (hP.later (onB hB0 hw'))
    · exact iclear_any A0 cap n D A C AE ce xs Ap cp p 0 w' (hM.later (onB hB0 hw')) (hE.1.later (onB hB0 hw')) (hP.later (onB hB0 hw'))
    · exact redits_any A0 cap n D A C AE ce xs AX cx ys w' (hM.later (onB hB0 hw')) (hE.later (onB hB0 hw')) (hX.later (onB hB0 hw'))
    · exact iall_any A0 cap n D A C AE ce xs AX cx ys w' (hM.later (onB hB0 hw')) (hE.1.later (onB hB0 hw')) (hX.later (onB hB0 hw'))
    · have hOk : l = [] ∨ Ens D n l := by
        rcases hl with rfl | rfl | rfl
        · exact change_ens (D := D) (n := n) (l := lE xs) ⟨p, N, false⟩
        · exact change_ens (D := D) (n := n) (l := lE xs) ⟨p, 0, true⟩
        · exact editsV_ens D n (lE xs) (lD ys)
      exact same_of A' B' ca cb zs ws l w' hz hw hOk hA hB
  by_cases h0 : entsErr D n (lE xs) = 0
  · have hEs := ens_of h0
    have hG := getErr_in p h0
    have h1 := change_in (⟨p, N, false⟩ : Ed) h0
    have h2 := change_in (⟨p, 0, true⟩ : Ed) h0
    have hI : TellsIn (ownOut w A0 n cap 24) A0 cap n AE xs.length ce Ap p.length cp N (getErr D n (lE xs) p) (changeErr D n (lE xs) ⟨p, N, false⟩) (changeErr D n (lE xs) ⟨p, 0, true⟩) (pickL (changeErr D n (lE xs) ⟨p, N, false⟩) (setL (lE xs) p N)) (pickL (changeErr D n (lE xs) ⟨p, 0, true⟩) (clrL (lE xs) p)) := by
      refine ⟨fun w' hw' => ?_, fun w' hw' => ?_, fun w' hw' => ?_⟩
      · have h := rplace_any A0 cap n D A C Ap cp p w' hEs.right (hM.later (onB hB0 hw')) (hP.later (onB hB0 hw'))
        rw [hG, pe1 hEs.right]
        exact h
      · have h := redit_any A0 cap n D A C AE ce xs Ap cp ⟨p, N, false⟩ w' (hM.later (onB hB0 hw')) (hE.later (onB hB0 hw')) (hP.later (onB hB0 hw')) hEs
        rw [h1]
        exact h
      · have h := redit_any A0 cap n D A C AE ce xs Ap cp ⟨p, 0, true⟩ w' (hM.later (onB hB0 hw')) (hE.later (onB hB0 hw')) (hP.later (onB hB0 hw')) hEs
        rw [h2]
        exact h
    by_cases hg : getErr D n (lE xs) p = 0
    · refine tells_c A0 cap n AE xs.length ce Ap p.length cp N AX ys.length cx _ _ _ _ _ _ _ _ _ _ _ w hT h0 hg hI ⟨fun w' hw' => ?_⟩
      have h := rinput_any AE ce xs Ap cp p w' (few_of hEs) (hE.1.later (onB hB0 hw')) (short_of hEs (inO_of (by rw [← hG]; exact hg))) (hP.later (onB hB0 hw'))
      rw [getV_in hg]
      exact h
    · refine tells_b A0 cap n AE xs.length ce Ap p.length cp N AX ys.length cx _ _ _ _ _ _ _ _ _ _ _ w hT h0 hg ?_ hI
      rw [getV_bad hg]
      exact ⟨rfl, rfl⟩
  · have hG := getErr_bad p h0
    have h1 := change_bad (⟨p, N, false⟩ : Ed) h0
    have h2 := change_bad (⟨p, 0, true⟩ : Ed) h0
    refine tells_a A0 cap n AE xs.length ce Ap p.length cp N AX ys.length cx _ _ _ _ _ _ _ _ _ _ _ w hT h0 ?_ ⟨h1.symm, h2.symm, hG.symm⟩ ?_
    · exact ⟨pickL_bad (by rw [h1]; exact h0) _, pickL_bad (by rw [h2]; exact h0) _⟩
    · rw [getV_bad (by rw [hG]; exact h0)]
      exact ⟨rfl, rfl⟩

section
variable {H : Type} {enc : TypeId × Value → H} {w : World} {held : Bool}
theorem cellsXd : Tryd.prog.cellsOf 56 = 3 := by kernel_rfl
theorem ens_nil {n cap : Nat} {d : DataW H} {p : List MemPlace} (h : DataW.Trod enc Tryd.prog w 0 (fun _ => true) held 43 (.slice none n cap) d p) : cap = 0 := by
  obtain ⟨fuel, hf⟩ := h
  have hf' : DataW.trod enc Tryd.prog w 0 (fun _ => true) held fuel 43 [.slice none n cap] = some (d, p) := hf
  rcases open_slice Tryd.underlying43 hf' with ⟨e, -⟩ | ⟨a, len, cap', m, n', D, Pl, e, -⟩
  · simp at e
    exact e.2
  · simp at e
theorem open_ed {fuel : Nat} {cs : List Value} {x : DataW H × List MemPlace} (h : DataW.trod enc Tryd.prog w 0 (fun _ => true) held fuel 56 cs = some x) :
    ∃ (e : Ed) (A : Option Addr) (c : Nat), cs = [.slice A e.pl.length c, .int .i64 e.n, .bool e.clear] ∧ PlAt w A c e.pl := by
  obtain ⟨hl, n, hf⟩ := trod_one Tryd.underlying56 (by kernel_rfl) h
  rw [cellsXd] at hl
  match cs, hl with
  | [v0, v1, v2], _ =>
    obtain ⟨y0, h0⟩ := hf 0 _ v0 rfl rfl
    obtain ⟨y1, h1⟩ := hf 1 _ v1 rfl rfl
    obtain ⟨y2, h2⟩ := hf 2 _ v2 rfl rfl
    obtain ⟨A, c, L, e0, hP⟩ := open_pl h0
    obtain ⟨n1, e1, -, -⟩ := DataW.trod_int Tryd.underlying3 h1
    obtain ⟨b2, e2, -⟩ := DataW.trod_bool Tryd.underlying4 h2
    simp at e0 e1 e2
    exact ⟨⟨L, n1, b2⟩, A, c, by rw [e0, e1, e2], hP⟩
theorem open_eds {r : Reach} {b0 : Nat} {v : Value} {d : DataW H} {p : List MemPlace} (hv : Value.okWide Tryd.prog w r b0 44 v) (h : DataW.Trod enc Tryd.prog w 0 (fun _ => true) held 44 v d p) :
    ∃ (A : Option Addr) (cap : Nat) (ys : List EdL), v = .slice A ys.length cap ∧ EdsV w A cap ys := by
  obtain ⟨a0, len0, cap0, rfl⟩ := okWide_slice Tryd.underlying44 hv
  obtain ⟨fuel, hf⟩ := h
  have hf' : DataW.trod enc Tryd.prog w 0 (fun _ => true) held fuel 44 [.slice a0 len0 cap0] = some (d, p) := hf
  rcases open_slice Tryd.underlying44 hf' with ⟨e, -⟩ | ⟨a, len, cap, m, n, D, Pl, e, -, hl, hcm, hm, -, hx⟩
  · simp at e
    obtain ⟨rfl, rfl, rfl⟩ := e
    exact ⟨none, 0, [], rfl, Nat.le_refl _, Nat.zero_le _, Or.inl rfl⟩
  simp at e
  obtain ⟨rfl, rfl, rfl⟩ := e
  rw [cellsXd] at hx
  simp at hm
  subst hm
  haveI : Inhabited EdL := ⟨noD⟩
  have each : ∀ i, i < len0 → ∃ y : EdL, w.cells? 0 (a.add (i * 3)) 3 = some [.slice y.A y.x.pl.length y.c, .int .i64 y.x.n, .bool y.x.clear] ∧ PlAt w y.A y.c y.x.pl := fun i hi => by
    obtain ⟨cs', h1, h2⟩ := hx i (by omega)
    obtain ⟨e, A, c, rfl, hp⟩ := open_ed h2
    exact ⟨⟨e, A, c⟩, h1, hp⟩
  obtain ⟨Y, hY⟩ := choose_lt each
  have hlen : ((List.range len0).map Y).length = len0 := by simp
  have hg : ∀ i, i < len0 → ((List.range len0).map Y).getD i noD = Y i := fun i hi => by simp [List.getD, hi]
  refine ⟨some a, _, (List.range len0).map Y, by rw [hlen], by rw [hlen]; exact hl, hcm, ?_⟩
  rcases Nat.eq_zero_or_pos len0 with h0 | h0
  · left; subst h0; rfl
  right
  have c0 := (World.cells?_some (hY 0 h0).1).2.2 0 (by omega)
  rw [add_add] at c0
  have hp := addr_plain c0 (by omega)
  have hb := World.block_lt_of_cell? _ _ c0
  refine ⟨a.block, a.off, by rw [← hp], by simpa [Addr.add] using hb, fun i hi => ?_⟩
  rw [hlen] at hi
  have hc := (World.cells?_some (hY i hi).1).2.2
  rw [hp] at hc
  simp only [plain_add, Nat.add_assoc] at hc
  rw [hg i hi]
  refine ⟨?_, ?_, ?_, (hY i hi).2⟩
  · have := hc 0 (by omega); simpa using this
  · have := hc 1 (by omega); simpa [Nat.add_assoc] using this
  · have := hc 2 (by omega); simpa [Nat.add_assoc] using this
end
end Go.Proofs.YtgkhnmkfeolidacDoor
