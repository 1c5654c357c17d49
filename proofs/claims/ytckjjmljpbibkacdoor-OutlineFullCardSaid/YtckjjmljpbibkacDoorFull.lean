/-
  The walk of tallylaw4.OutlineFull: dims of so many members each: an outline of three thousand places at most, and no more.
-/
import Derived.Test.YtckjjmljpbibkacDoorFlat2
import Derived.Test.YtckjjmljpbibkacDoorPl2
import Derived.Test.YtckjjmljpbibkacDoorToldT
namespace Go.Proofs.YtckjjmljpbibkacDoor
open Go.ChangeShapes Go.WideShapes Go.ChangeAt Go.RowKit
set_option maxRecDepth 20000

theorem Tryd.infoDimF : (Tryd.prog.info? 27).map (fun i => (i.zero, i.size, i.bytes)) = some (some (.agg #[.string ⟨#[]⟩, .int .i64 0, .slice none 0 0]), 3, 48) := by kernel_rfl

def dimC (s : ByteArray) (nn g c : Nat) : List Value := [.string s, .int .i64 0, .slice (some ⟨g, 0, none⟩) (nn + 1) c]
def cellsO (nn : Nat) (G C : Nat → Nat) : Nat → List Value
  | 0 => []
  | k + 1 => cellsO nn G C k ++ dimC (lettF k) nn (G k) (C k)
theorem cellsO_len (nn : Nat) (G C : Nat → Nat) (k : Nat) : (cellsO nn G C k).length = k * 3 := by
  induction k with
  | zero => rfl
  | succ k ih => rw [cellsO, List.length_append, ih]; simp [dimC]; omega
theorem cellsO_same {nn : Nat} {G C G' C' : Nat → Nat} {k : Nat} (h : ∀ i, i < k → G i = G' i ∧ C i = C' i) : cellsO nn G C k = cellsO nn G' C' k := by
  induction k with
  | zero => rfl
  | succ k ih => rw [cellsO, cellsO, ih fun i hi => h i (by omega), (h k (by omega)).1, (h k (by omega)).2]
theorem cellsO_at (nn : Nat) (G C : Nat → Nat) (n : Nat) : ∀ k, k < n → (cellsO nn G C n)[k * 3]? = some (.string (lettF k)) ∧ (cellsO nn G C n)[k * 3 + 1]? = some (.int .i64 0) ∧ (cellsO nn G C n)[k * 3 + 2]? = some (.slice (some ⟨G k, 0, none⟩) (nn + 1) (C k)) := by
  induction n with
  | zero => intro k h; omega
  | succ n ih =>
    intro k hk
    rw [cellsO]
    have hl := cellsO_len nn G C n
    by_cases h : k = n
    · subst h
      refine ⟨?_, ?_, ?_⟩ <;> rw [List.getElem?_append_right (by omega), hl]
      · rw [Nat.sub_self]; rfl
      · rw [show k * 3 + 1 - k * 3 = 1 by omega]; rfl
      · rw [show k * 3 + 2 - k * 3 = 2 by omega]; rfl
    · have := ih k (by omega)
      refine ⟨?_, ?_, ?_⟩ <;> rw [List.getElem?_append_left (by omega)]
      · exact this.1
      · exact this.2.1
      · exact this.2.2

/-- k dims lie in a row of the call's own, each with its members, and the outline in its block shows them -/
def FullAt (w : World) (nn : Nat) (G C : Nat → Nat) (k : Nat) (v : Value) (wr : World) : Prop :=
  wr.ownsRow (w.heap.size + 1) 27 3 v k (cellsO nn G C k) ∧ wr.heap[w.heap.size]? = some (.cells #[v] 24 (0, 0)) ∧ (∀ i, i < k → nn + 1 ≤ C i ∧ MemB wr (G i) (nn + 1)) ∧ Below w.heap.size w wr
theorem mem_ne_dim : (44 : Nat) ≠ 27 := by decide
theorem mem_ne_out : (44 : Nat) ≠ 24 := by decide
theorem FullAt.sz {w : World} {nn : Nat} {G C : Nat → Nat} {k : Nat} {v : Value} {wr : World} (h : FullAt w nn G C k v wr) : w.heap.size < wr.heap.size := (Array.getElem?_eq_some_iff.1 h.2.1).1
theorem memB_off {w : World} {g n q : Nat} {cs : Array Value} {fr : Nat × Nat} (h : MemB w g n) (hq : w.heap[q]? = some (.cells cs 24 fr)) : g ≠ q := fun e => by
  obtain ⟨⟨cur, h1⟩, _⟩ := h
  rw [e, hq] at h1
  simp only [Option.some.injEq, Obj.cells.injEq] at h1
  exact mem_ne_out h1.2.1.symm
theorem full_step {w wr wa w1 : World} {nn : Nat} {G C : Nat → Nat} {k g c : Nat} {v v' : Value} (h : FullAt w nn G C k v wr) (hb : Below wr.heap.size wr wa) (hM : MemB wa g (nn + 1)) (hc : nn + 1 ≤ c)
    (hown : w1.ownsRow (w.heap.size + 1) 27 3 v' (k + 1) (cellsO nn G C k ++ dimC (lettF k) nn g c)) (hgrow : wa.grownBy w1 v.ownBlock) :
    ∃ G' C', FullAt w nn G' C' (k + 1) v' (w1.setCell ⟨w.heap.size, 0, none⟩ v') := by
  have hsz := h.sz
  obtain ⟨h1, h2, h3, hB⟩ := h
  have hne : some w.heap.size ≠ v.ownBlock := fun e => by have := (h1.lt _ e.symm).1; omega
  have h1a := own_stays h1 hb
  have e2 : w1.heap[w.heap.size]? = wr.heap[w.heap.size]? := (hgrow.block _ (Nat.lt_of_lt_of_le hsz hb.size) hne).trans (hb.block _ hsz)
  have h2a : wa.heap[w.heap.size]? = _ := (hb.block _ hsz).trans h2
  have keep : ∀ x, MemB wa x (nn + 1) → MemB (w1.setCell ⟨w.heap.size, 0, none⟩ v') x (nn + 1) := fun x hx => by
    obtain ⟨cur, hcur⟩ := hx.1
    have n1 := own_ne h1a hcur mem_ne_dim
    have n2 := memB_off hx h2a
    refine hx.same ?_
    rw [Below.heap_setCell _ _ _ _ (by show x ≠ w.heap.size; exact n2)]
    exact hgrow.block x hx.lt (fun e => n1 e.symm)
  refine ⟨fun i => if i = k then g else G i, fun i => if i = k then c else C i, ?_, ?_, ?_, ?_⟩
  · have e : cellsO nn (fun i => if i = k then g else G i) (fun i => if i = k then c else C i) (k + 1) = cellsO nn G C k ++ dimC (lettF k) nn g c := by
      rw [cellsO, cellsO_same (G' := G) (C' := C) fun i hi => ⟨if_neg (by omega), if_neg (by omega)⟩]
      simp
    rw [e]
    exact ownsRow_setCell_below hown (by show w.heap.size < w.heap.size + 1; omega) _
  · simp [World.setCell, Array.getElem?_modify, e2, h2]
  · intro i hi
    by_cases hik : i = k
    · subst hik
      simp only [if_true]
      exact ⟨hc, keep g hM⟩
    · simp only [if_neg hik]
      have := h3 i (by omega)
      exact ⟨this.1, keep _ (this.2.later hb)⟩
  · exact ((onB hB hb).grown hgrow (by have := hB.size; have := hb.size; omega) (fun j hj => by have := (h1.lt j hj).1; omega)).setCell (by show w.heap.size ≤ w.heap.size; omega) _
theorem full_start (w : World) (nn : Nat) (G C : Nat → Nat) : FullAt w nn G C 0 (.slice none 0 0) (ownOut w none 0 0 24) := by
  unfold ownOut
  exact ⟨World.ownsRow_nil _ _ _ _, heap_alloc_new w _, fun i hi => by omega, by go_grown⟩
theorem full_dims {w wr : World} {nn : Nat} {G C : Nat → Nat} {k : Nat} {v : Value} (h : FullAt w nn G C k v wr) : ∃ A0 cap, v = .slice A0 k cap ∧ DimsV wr A0 cap k (fullD nn) (fun i => some ⟨G i, 0, none⟩) C := by
  obtain ⟨h1, _, h3, _⟩ := h
  rcases h1.2 with ⟨rfl, h0⟩ | ⟨g, cap, cur, rfl, hb, hg, hc, _, _, _⟩
  · exact ⟨none, 0, by rw [h0], by omega, Or.inl h0⟩
  · refine ⟨_, cap, rfl, hc, Or.inr ⟨g, 0, rfl, (Array.getElem?_eq_some_iff.1 hg).1, fun j hj => ?_⟩⟩
    have hadd : ∀ j, (⟨g, 0, none⟩ : Addr).add j = ⟨g, j, none⟩ := fun j => by unfold Addr.add; split <;> simp_all
    obtain ⟨x0, x1, x2⟩ := cellsO_at nn G C k j hj
    have y := fun j u => h1.cells (g := g) rfl j u
    simp only [hadd] at y
    simp only [Nat.zero_add]
    exact ⟨y _ _ x0, y _ _ x1, y _ _ x2, (h3 j hj).1, Or.inr ⟨G j, 0, rfl, (h3 j hj).2.2⟩⟩

theorem powN_le {n : Nat} (h : n ≤ 13) (k : Nat) : powN n k ≤ 13 ^ k := by
  induction k with
  | zero => exact Nat.le_refl _
  | succ k ih => rw [powN, Nat.pow_succ]; exact Nat.mul_le_mul ih h
theorem powN_small {n k : Nat} (h : n ≤ 13) (hk : k ≤ 5) : powN n k ≤ 371293 := by
  refine Nat.le_trans (powN_le h k) ?_
  exact Nat.le_trans (Nat.pow_le_pow_right (by omega) hk) (by decide)
theorem full_right {m nn : Nat} (h1 : 1 ≤ m) (h2 : m ≤ 5) (h3 : nn ≤ 12) : (allErr (fullD nn) m).2.2 = fullErr m (nn + 1) ∧ prodN (fullD nn) m = powN (nn + 1) m := by
  have := full_all ⟨m - 1, by omega⟩ ⟨nn, by omega⟩
  simp only [show m - 1 + 1 = m by omega] at this
  exact this

set_option maxHeartbeats 8000000 in
theorem full_core (m nn : Nat) (w : World) (hm1 : 1 ≤ m) (hm2 : m ≤ 5) (hn2 : nn ≤ 12) (hk0 : Kind0 w) :
    Calls Tryd.prog 3 #[.int .i64 m, .int .i64 (nn + 1)] w fun e w' => e = .returned (.bool true) ∧ Below w.heap.size w w' := by
  obtain ⟨i0, hi0, hz0, hz1, hz2⟩ := info_parts Tryd.infoDimF
  have HK : Hid (Kind0 w) := hk0
  have hb1 : decide ((m : Int) < 1) = false := decide_eq_false (by omega)
  have hb2 : decide ((5 : Int) < (m : Int)) = false := decide_eq_false (by omega)
  have hb3 : decide ((nn : Int) + 1 < 1) = false := decide_eq_false (by omega)
  have hb4 : decide ((13 : Int) < (nn : Int) + 1) = false := decide_eq_false (by omega)
  have hm2' : (m : Int) ≤ 5 := by omega
  have hm1' : (1 : Int) ≤ (m : Int) := by omega
  have hn2' : (nn : Int) ≤ 12 := by omega
  have HL0 : Hid (FullAt w nn (fun _ => 0) (fun _ => 0) 0 (.slice none 0 0) (ownOut w none 0 0 24)) := full_start ..
  clear hk0
  go_enter Tryd.func3, Tryd.ntmps3
  go_wp2_with fail
  go_loopg [6, 7] m (fun g s6 s7 wr => ∃ (k : Nat) (v : Value) (G C : Nat → Nat), k ≤ m ∧ g = m - k ∧ s7 = .int .i64 k ∧ s6 = .int .i64 (powN (nn + 1) k) ∧ FullAt w nn G C k v wr)
  case atStart => exact ⟨0, _, _, _, Nat.zero_le _, rfl, rfl, rfl, HL0.out⟩
  case round =>
    obtain ⟨k, v, G, C, hk, rfl, rfl, rfl, hrel⟩ := hrel
    have HR : Hid (FullAt w nn G C k v wr) := hrel
    have hqr := hrel.sz
    by_cases hlt : k < m
    · have hki : (k : Int) < (m : Int) := by omega
      obtain ⟨hown, h2, h3, hB⟩ := hrel
      have HO : Hid (wr.ownsRow (w.heap.size + 1) 27 3 v k (cellsO nn G C k)) := hown
      have c2 : wr.cell? ⟨w.heap.size, 0, none⟩ = some v := by rw [Lib.cell_of_heap h2]; rfl
      have c3 : wr.frozen? ⟨w.heap.size, 0, none⟩ = false := Lib.frozen_of_heap h2 0
      have HC : Hid (∀ w', Below wr.heap.size wr w' → w'.cell? ⟨w.heap.size, 0, none⟩ = some v ∧ w'.frozen? ⟨w.heap.size, 0, none⟩ = false) := fun w' hw' => ⟨(hw'.cell (p := ⟨w.heap.size, 0, none⟩) hqr).trans c2, (hw'.frozen (p := ⟨w.heap.size, 0, none⟩) hqr).trans c3⟩
      have HLt : Hid (∀ w', Calls Tryd.prog 6 #[.int .i64 k] w' fun e w'' => e = .returned (.string (lettF k)) ∧ Below w'.heap.size w' w'') := fun w' => lettF_any k w' (by omega)
      have HFl : Hid (∀ w', Calls Tryd.prog 5 #[.string (lettF k), .int .i64 nn] w' fun e w'' => (∃ g cap, e = .returned (.agg #[.string (lettF k), .int .i64 0, .slice (some ⟨g, 0, none⟩) (nn + 1) cap]) ∧ nn + 1 ≤ cap ∧ w'.heap.size ≤ g ∧ MemB w'' g (nn + 1)) ∧ Below w'.heap.size w' w'') := fun w' => flat_any (lettF k) nn w' hn2
      have HNE : Hid (some w.heap.size ≠ v.ownBlock) := fun e => by have := (hown.lt _ e.symm).1; omega
      have hwk : IntKind.i64.wrap (nn : Int) = (nn : Int) := IntWalk.i64_in _ (by omega)
      have hpw := powN_small (n := nn + 1) (k := k + 1) (by omega) (by omega)
      have HP : Hid (((powN (nn + 1) (k + 1) : Nat) : Int) = (powN (nn + 1) k : Int) * ((nn : Int) + 1)) := by show _ = _; rw [powN]; simp [Int.natCast_mul]
      have hp1 : (powN (nn + 1) k : Int) * ((nn : Int) + 1) ≤ 371293 := by rw [← HP.out]; omega
      have hp0 : 0 ≤ (powN (nn + 1) k : Int) * ((nn : Int) + 1) := by rw [← HP.out]; omega
      generalize powN (nn + 1) k = pk at hp1 hp0 HP
      clear hB hown h2 h3 hpw
      go_wp2_with fail
      go_region_law ((first
          | (refine step_append_lies _ (by rfl) _ _ _ (by rfl) (w.heap.size + 1) 27 i0 _ 3 48 Tryd.underlying22 hi0 hz0 hz1 hz2 rfl (by omega) v k (cellsO nn G C k) (by rfl) (own_stays HO.out (by go_grown)) ⟨w5.heap.size, 0, none⟩ 1 1 (dimC (lettF k) nn g5 c5) (by rfl) (by rfl) (World.news_of_block (cs := #[.string (lettF k), .int .i64 0, .slice (some ⟨g5, 0, none⟩) (nn + 1) c5]) (t := 27) (fr := (0, 0)) (heap_alloc_new w5 _)) (by simp [dimC, Value.oneCell']) (by omega) (by unfold maxLen; omega) (by omega) (by simp; omega) (w5.heap.size + 1) (by simp) ?_; intro gg cg w6 hown6 hgrow hat hlt6; have y1 := (hgrow.cell_far ⟨w.heap.size, 0, none⟩ (by simp; omega) HNE.out).trans (HC.out _ (by go_grown)).1; have y2 := (hgrow.frozen_far ⟨w.heap.size, 0, none⟩ (by simp; omega) HNE.out).trans (HC.out _ (by go_grown)).2)
          | (go_simp; refine (HLt.out _).mono ?_; rintro e w4 ⟨rfl, hb4⟩; have hN4 := onB (W0 := wr) (by go_grown) hb4; have hs4 := hN4.size; obtain ⟨x1, x2⟩ := HC.out _ hN4; have hq4 : w.heap.size < w4.heap.size := Nat.lt_of_lt_of_le hqr hs4; clear hb4)
          | (go_simp; refine (HFl.out _).mono ?_; rintro e w5 ⟨⟨g5, c5, rfl, hc5, hg5, hM5⟩, hb5⟩; have hN5 := onB (W0 := wr) (by go_grown) hb5; have hs5 := hN5.size; obtain ⟨z1, z2⟩ := HC.out _ hN5; have hq5 : w.heap.size < w5.heap.size := Nat.lt_of_lt_of_le hqr hs5; clear hb5)))
      all_goals (have HS := full_step HR.out (by go_grown) (hM5.later (by go_grown)) hc5 hown6 hgrow)
      all_goals (obtain ⟨G', C', HS⟩ := HS)
      all_goals clear hown6 hgrow hM5
      all_goals go_wp2_with fail
      all_goals go_roundg (m - (k + 1))
      all_goals first | omega | exact ⟨k + 1, _, G', C', by omega, rfl, by go_num, by rw [HP.out], HS⟩
    · have hke : m = k := by omega
      subst hke
      obtain ⟨A0, cap, rfl, hD⟩ := full_dims hrel
      obtain ⟨-, h2, -, hB⟩ := hrel
      have c2 : wr.cell? ⟨w.heap.size, 0, none⟩ = some (.slice A0 m cap) := by rw [Lib.cell_of_heap h2]; rfl
      obtain ⟨w1, rfl⟩ : ∃ w1 : World, w1 = wr := ⟨_, rfl⟩
      have HD : Hid (DimsV w1 A0 cap m (fullD nn) (fun i => some ⟨G i, 0, none⟩) C) := hD
      have HB1 : Hid (Below w.heap.size w w1) := hB
      have hal := all_any A0 cap m (fullD nn) (fun i => some ⟨G i, 0, none⟩) C w1 hD
      obtain ⟨hr1, hr2⟩ := full_right hm1 hm2 hn2
      rw [hr1] at hal
      have HR1 : Hid ((allErr (fullD nn) m).2.2 = fullErr m (nn + 1)) := hr1
      have HR2 : Hid (prodN (fullD nn) m = powN (nn + 1) m) := hr2
      have hpw := powN_small (n := nn + 1) (k := m) (by omega) hm2
      generalize (allErr (fullD nn) m).1 = x1 at hal
      generalize (allErr (fullD nn) m).2.1 = x2 at hal
      clear hD hB h2 HR HL0 hr1 hr2
      by_cases hbad : 4 < m ∨ 12 < nn + 1 ∨ 3000 < powN (nn + 1) m
      · have he : fullErr m (nn + 1) = 4 := by unfold fullErr; rw [if_pos hbad]
        rw [he, errV_some (by decide)] at hal
        clear HR1 HR2 he
        generalize powN (nn + 1) m = pm at hbad hpw
        by_cases h4 : 4 < m
        · have h4' : 4 < (m : Int) := by omega
          go_wp2_with fail
          refine hal.mono ?_
          rintro e w2 ⟨rfl, hb⟩
          have HB2 : Hid (Below w.heap.size w w2) := onB HB1.out hb
          have hs := same_hit 4 4 w2 (HK.out.later HB2.out)
          clear hal hb
          go_wp2_with fail
          refine hs.mono ?_
          rintro e w3 ⟨rfl, hb⟩
          go_wp2_with fail
          go_ret
          exact ⟨rfl, onB HB2.out hb⟩
        · have h4' : (m : Int) ≤ 4 := by omega
          by_cases h12 : 12 < nn + 1
          · have h12' : 12 < (nn : Int) + 1 := by omega
            go_wp2_with fail
            refine hal.mono ?_
            rintro e w2 ⟨rfl, hb⟩
            have HB2 : Hid (Below w.heap.size w w2) := onB HB1.out hb
            have hs := same_hit 4 4 w2 (HK.out.later HB2.out)
            clear hal hb
            go_wp2_with fail
            refine hs.mono ?_
            rintro e w3 ⟨rfl, hb⟩
            go_wp2_with fail
            go_ret
            exact ⟨rfl, onB HB2.out hb⟩
          · have h12' : (nn : Int) + 1 ≤ 12 := by omega
            have hpm : 3000 < (pm : Int) := by omega
            go_wp2_with fail
            refine hal.mono ?_
            rintro e w2 ⟨rfl, hb⟩
            have HB2 : Hid (Below w.heap.size w w2) := onB HB1.out hb
            have hs := same_hit 4 4 w2 (HK.out.later HB2.out)
            clear hal hb
            go_wp2_with fail
            refine hs.mono ?_
            rintro e w3 ⟨rfl, hb⟩
            go_wp2_with fail
            go_ret
            exact ⟨rfl, onB HB2.out hb⟩
      · have he : fullErr m (nn + 1) = 0 := by unfold fullErr; rw [if_neg hbad]
        have HA : Hid ((allErr (fullD nn) m).2.2 = 0) := by show _ = _; rw [HR1.out, he]
        rw [he, errV_zero] at hal
        have h4' : (m : Int) ≤ 4 := by omega
        have h12' : (nn : Int) + 1 ≤ 12 := by omega
        have hpm : (powN (nn + 1) m : Int) ≤ 3000 := by omega
        have HV : Hid (cellsV (fullD nn) m = (powN (nn + 1) m : Int)) := by show _ = _; unfold cellsV; rw [if_pos HA.out, HR2.out]
        generalize powN (nn + 1) m = pm at hbad hpw hpm HV
        clear he hbad
        go_wp2_with fail
        refine hal.mono ?_
        rintro e w2 ⟨rfl, hb⟩
        have HB2 : Hid (Below w.heap.size w w2) := onB HB1.out hb
        have hz : w.heap.size < w1.heap.size := hqr
        have c3 : w2.cell? ⟨w.heap.size, 0, none⟩ = some (.slice A0 m cap) := (hb.cell (p := ⟨w.heap.size, 0, none⟩) hz).trans c2
        have hcl := pcells_any A0 cap m (fullD nn) (fun i => some ⟨G i, 0, none⟩) C w2 (HD.out.later hb)
        rw [HV.out, HA.out, errV_zero] at hcl
        clear hal hb c2
        go_wp2_with fail
        refine hcl.mono ?_
        rintro e w3 ⟨rfl, hb⟩
        go_wp2_with fail
        go_ret
        exact ⟨rfl, onB HB2.out hb⟩

set_option maxHeartbeats 2000000 in
theorem full_any (m n : Int) (w : World) (hk0 : Kind0 w) : Calls Tryd.prog 3 #[.int .i64 m, .int .i64 n] w fun e w' => e = .returned (.bool true) ∧ Below w.heap.size w w' := by
  by_cases h1 : m < 1
  · clear hk0
    go_enter Tryd.func3, Tryd.ntmps3
    go_wp2_with fail
    go_ret
    exact ⟨rfl, Below.refl _ _⟩
  by_cases h2 : 5 < m
  · clear hk0
    go_enter Tryd.func3, Tryd.ntmps3
    go_wp2_with fail
    go_ret
    exact ⟨rfl, Below.refl _ _⟩
  by_cases h3 : n < 1
  · clear hk0
    go_enter Tryd.func3, Tryd.ntmps3
    go_wp2_with fail
    go_ret
    exact ⟨rfl, Below.refl _ _⟩
  by_cases h4 : 13 < n
  · clear hk0
    go_enter Tryd.func3, Tryd.ntmps3
    go_wp2_with fail
    go_ret
    exact ⟨rfl, Below.refl _ _⟩
  obtain ⟨M, rfl⟩ : ∃ M : Nat, m = M := ⟨m.toNat, by omega⟩
  obtain ⟨N, rfl⟩ : ∃ N : Nat, n = (N : Int) + 1 := ⟨(n - 1).toNat, by omega⟩
  exact full_core M N w (by omega) (by omega) (by omega) hk0
end Go.Proofs.YtckjjmljpbibkacDoor
