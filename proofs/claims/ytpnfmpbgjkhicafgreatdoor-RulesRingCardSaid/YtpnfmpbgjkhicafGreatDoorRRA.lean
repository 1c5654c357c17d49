/-
  What the closures, refs and member of package rules answer, in whatever memory: whom a member needs, or what is wrong with its formula.
  What member of package rules answers, in whatever memory.
  What reach of package rules answers, in whatever memory: all that a member needs, that these need, and so on.
  What order of package rules answers, in whatever memory, of members of whom nobody needs itself in the end.
  What needs of package rules answers, in whatever memory: whom each member of a dim needs, or which member is wrong, and how.
  What Check, Needs and Order of package rules answer, in whatever memory.
  A dim of two members, of whom the first refers to the second: what is needed there, and in which order.
-/
import Derived.Test.YtpnfmpbgjkhicafGreatDoorRuB
import Derived.Test.YtpnfmpbgjkhicafGreatDoorRuD
import Derived.Test.YtpnfmpbgjkhicafGreatDoorParts2
import Derived.Test.YtpnfmpbgjkhicafGreatDoorRuM
import Derived.Test.YtpnfmpbgjkhicafGreatDoorFmM
namespace Go.Proofs.YtpnfmpbgjkhicafGreatDoor
open Go.ChangeShapes Go.WideShapes Go.ChangeAt Go.RowKit
open Go.Sort (putRow Holds grow holds_putRow)
set_option maxRecDepth 20000

theorem whL_same (d : Dm) (s : ByteArray) : findFrom (fun j => same (d.mem j).name s) d.n 0 = whL d s.data.toList := by
  unfold whL
  rw [Array.toArray_toList]
theorem is1_in : EntersO 25 := fun args w => by simp [callFunc, Tryz.func25]; rfl
theorem is1_any (m : Mem) (s : ByteArray) (q : Nat) (w : World) (hq : q < w.heap.size) (h : w.cell? ⟨q, 0, none⟩ = some (.string s)) : Calls Tryz.prog 25 #[memV m, .pointer (some ⟨q, 0, none⟩)] w fun e w' => e = .returned (.bool (same m.name s)) ∧ Below w.heap.size w w' := by
  unfold memV
  go_enter Tryz.func25, Tryz.ntmps25
  go_wp2_with fail
  go_ret
  exact ⟨by simp [same], by go_grown⟩
theorem is_any (d : Dm) (b o cap q : Nat) (s : ByteArray) (w : World) (hn : d.n ≤ 12) (hM : MemsAt w b o d.n d.mem) (hq : q < w.heap.size) (hc : w.cell? ⟨q, 2, none⟩ = some (.slice (some ⟨b, o, none⟩) d.n cap)) :
    Calls Tryz.prog 23 #[.string s, .pointer (some ⟨q, 0, none⟩)] w fun e w' => e = .returned (.int .i64 (whL d s.data.toList)) ∧ Below w.heap.size w w' := by
  obtain ⟨W, hW⟩ : ∃ W, w.alloc (.cells #[.string s] 9) = W := ⟨_, rfl⟩
  have hB0 : Below w.heap.size w W := by rw [← hW]; exact (Below.refl _ _).alloc (Nat.le_refl _) _
  have hs0 : W.heap.size = w.heap.size + 1 := by rw [← hW]; simp
  have hc0 : W.cell? ⟨w.heap.size, 0, none⟩ = some (.string s) := by
    have h : W.heap[w.heap.size]? = some (.cells #[.string s] 9 (0, 0)) := by rw [← hW]; exact heap_alloc_new _ _
    rw [Lib.cell_of_heap h]
    rfl
  have hc2 := (hB0.cell (p := ⟨q, 2, none⟩) hq).trans hc
  have hix := index_mems 25 w.heap.size is1_in b o d.n cap d.mem (fun j => same (d.mem j).name s) W hn (hM.later hB0) (fun j w' _ hw' => is1_any (d.mem j) s w.heap.size w' (by have := hw'.size; omega) ((hw'.cell (p := ⟨w.heap.size, 0, none⟩) (by show w.heap.size < _; omega)).trans hc0))
  rw [whL_same] at hix
  generalize whL d s.data.toList = r at hix ⊢
  have HB0 : Hid (Below w.heap.size w W) := hB0
  clear hM hc hB0 hs0 hc0
  go_enter Tryz.func23, Tryz.ntmps23
  go_wp2_with fail
  refine hix.mono ?_
  rintro e w1 ⟨rfl, hb1⟩
  go_wp2_with fail
  go_ret
  exact ⟨rfl, onB HB0.out hb1⟩

set_option maxHeartbeats 1000000 in
theorem indexs_any (F : Nat) (cap : Array Value) (p : List UInt8 → Bool) (hent : ∀ (args : Array Value) (w : World), (callFunc F args).run Tryz.prog w = .ok (.enter F args) w) (A : Option Addr) (c : Nat) (L : List (List UInt8)) (w : World) (hn : L.length ≤ 200) (hL : StrsV w A c L)
    (hF : ∀ (x : List UInt8) (w' : World), Below w.heap.size w w' → Calls Tryz.prog F (#[.string ⟨x.toArray⟩] ++ cap) w' fun e w'' => e = .returned (.bool (p x)) ∧ Below w'.heap.size w' w'') :
    Calls Tryz.prog 60 #[.slice A L.length c, .func (.func F) #[] cap] w fun e w' => e = .returned (.int .i64 (findFrom (fun j => p (L.getD j [])) L.length 0)) ∧ Below w.heap.size w w' := by
  obtain ⟨hc, -, h0 | ⟨b, o, rfl, hbw, hcell⟩⟩ := hL
  · subst h0
    simp only [List.length_nil]
    go_enter Tryz.func60, Tryz.ntmps60
    go_wp2_with fail
    refine wp_loop_rounds 1 ?_
    rw [rounds_succ]
    go_wp2_with fail
    go_ret
    exact ⟨rfl, Below.refl _ _⟩
  · have HC : Hid (∀ j, j < L.length → w.cell? ⟨b, o + j, none⟩ = some (.string ⟨(L.getD j []).toArray⟩)) := hcell
    have HF : Hid (∀ (x : List UInt8) (w' : World), Below w.heap.size w w' → Calls Tryz.prog F (#[.string ⟨x.toArray⟩] ++ cap) w' fun e w'' => e = .returned (.bool (p x)) ∧ Below w'.heap.size w' w'') := hF
    obtain ⟨pj, hpj⟩ : ∃ pj : Nat → Bool, pj = fun j => p (L.getD j []) := ⟨_, rfl⟩
    have HP : Hid (∀ j, pj j = p (L.getD j [])) := fun j => by rw [hpj]
    rw [← hpj]
    generalize hnn : L.length = n at hn hc HC
    clear hcell hpj hnn hF
    go_enter Tryz.func60, Tryz.ntmps60
    go_wp2_with fail
    go_loopg [8] n (fun g s8 wr => ∃ (k : Nat), k ≤ n ∧ g = n - k ∧ s8 = .int .i64 k ∧ findFrom pj (n - k) k = findFrom pj n 0 ∧ Below w.heap.size w wr)
    case atStart => exact ⟨0, Nat.zero_le _, rfl, rfl, rfl, Below.refl _ _⟩
    case round =>
      obtain ⟨k, hk, rfl, rfl, hf, hBw⟩ := hrel
      have HQ : Hid (findFrom pj (n - k) k = findFrom pj n 0) := hf
      have HW : Hid (Below w.heap.size w wr) := hBw
      clear hf
      by_cases hlt : k < n
      · have hki : (k : Int) < (n : Int) := by omega
        have hcx := (hBw.cell (p := ⟨b, o + k, none⟩) hbw).trans (HC.out k hlt)
        have hn' : (n : Int) ≤ 200 := by omega
        have hpk := HP.out k
        have HSK : Hid (n - k = (n - (k + 1)) + 1) := by show _ = _; omega
        have hbd := HF.out (L.getD k []) wr hBw
        rw [← hpk] at hbd
        generalize (⟨(L.getD k []).toArray⟩ : ByteArray) = x at hcx hbd
        clear hBw hpk
        cases hb : pj k
        · rw [hb] at hbd
          have HK : Hid (pj k = false) := hb
          clear hb
          go_wp2_with fail
          refine hbd.mono ?_
          rintro e w1 ⟨rfl, hb1⟩
          go_wp2_with fail
          go_roundg (n - (k + 1))
          case measure => omega
          case rel => exact ⟨k + 1, by omega, rfl, by go_num, by rw [← HQ.out, HSK.out, findFrom_miss _ HK.out], onB HW.out hb1⟩
        · rw [hb] at hbd
          have HK : Hid (pj k = true) := hb
          clear hb
          go_wp2_with fail
          refine hbd.mono ?_
          rintro e w1 ⟨rfl, hb1⟩
          go_wp2_with fail
          go_ret
          exact ⟨by rw [← HQ.out, HSK.out, findFrom_hit _ HK.out]; rfl, onB HW.out hb1⟩
      · have hke : k = n := by omega
        subst hke
        go_wp2_with fail
        go_ret
        exact ⟨by rw [← HQ.out, Nat.sub_self]; rfl, HW.out⟩
theorem any_findS (p : List UInt8 → Bool) (L : List (List UInt8)) : decide (0 ≤ findFrom (fun j => p (L.getD j [])) L.length 0) = L.any p := by
  rcases findFrom_cases (fun j => p (L.getD j [])) L.length 0 with ⟨h1, h2⟩ | ⟨m, h1, _, h3, h4, _⟩
  · rw [h1, decide_eq_false (by omega)]
    symm
    rw [List.any_eq_false]
    intro x hx
    obtain ⟨i, hi, rfl⟩ := List.getElem_of_mem hx
    have := h2 i (Nat.zero_le _) (by omega)
    simp only [List.getD, List.getElem?_eq_getElem hi, Option.getD_some] at this
    simp [this]
  · rw [h1, decide_eq_true (by omega)]
    symm
    rw [List.any_eq_true]
    have hm : m < L.length := by omega
    refine ⟨L[m], List.getElem_mem hm, ?_⟩
    simpa only [List.getD, List.getElem?_eq_getElem hm, Option.getD_some] using h4
theorem scontf_any (F : Nat) (cap : Array Value) (p : List UInt8 → Bool) (hent : ∀ (args : Array Value) (w : World), (callFunc F args).run Tryz.prog w = .ok (.enter F args) w) (A : Option Addr) (c : Nat) (L : List (List UInt8)) (w : World) (hn : L.length ≤ 200) (hL : StrsV w A c L)
    (hF : ∀ (x : List UInt8) (w' : World), Below w.heap.size w w' → Calls Tryz.prog F (#[.string ⟨x.toArray⟩] ++ cap) w' fun e w'' => e = .returned (.bool (p x)) ∧ Below w'.heap.size w' w'') :
    Calls Tryz.prog 41 #[.slice A L.length c, .func (.func F) #[] cap] w fun e w' => e = .returned (.bool (L.any p)) ∧ Below w.heap.size w w' := by
  have h := indexs_any F cap p hent A c L w hn hL hF
  rw [← any_findS]
  generalize findFrom (fun j => p (L.getD j [])) L.length 0 = r at *
  clear hF hL
  go_enter Tryz.func41, Tryz.ntmps41
  go_wp2_with fail
  refine h.mono ?_
  rintro e w1 ⟨rfl, hb1⟩
  go_wp2_with fail
  go_ret
  exact ⟨rfl, hb1⟩

/-- whoever tells where a name is, from here on -/
def IsF (d : Dm) (q : Nat) (w : World) : Prop := ∀ (s : ByteArray) (w' : World), Below w.heap.size w w' → Calls Tryz.prog 23 #[.string s, .pointer (some ⟨q, 0, none⟩)] w' fun e w'' => e = .returned (.int .i64 (whL d s.data.toList)) ∧ Below w'.heap.size w' w''
theorem IsF.later {d : Dm} {q : Nat} {w w1 : World} (h : IsF d q w) (hB : Below w.heap.size w w1) : IsF d q w1 := fun s w' hB' => h s w' (onB hB hB')
def isV (q : Nat) : Value := .func (.func 23) #[] #[.pointer (some ⟨q, 0, none⟩)]
theorem ent_refs1 (args : Array Value) (w : World) : (callFunc 42 args).run Tryz.prog w = .ok (.enter 42 args) w := by simp [go_sem]
theorem refs1_any (d : Dm) (q r : Nat) (x : List UInt8) (w : World) (hI : IsF d q w) (hr : w.cell? ⟨r, 0, none⟩ = some (isV q)) : Calls Tryz.prog 42 #[.string ⟨x.toArray⟩, .pointer (some ⟨r, 0, none⟩)] w fun e w' => e = .returned (.bool (decide (whL d x < 0))) ∧ Below w.heap.size w w' := by
  have h := hI ⟨x.toArray⟩ w (Below.refl _ _)
  rw [show (⟨x.toArray⟩ : ByteArray).data.toList = x by simp] at h
  generalize whL d x = r1 at *
  generalize (⟨x.toArray⟩ : ByteArray) = s at *
  unfold isV at hr
  clear hI
  go_enter Tryz.func42, Tryz.ntmps42
  go_wp2_with fail
  refine h.mono ?_
  rintro e w1 ⟨rfl, hb1⟩
  go_wp2_with fail
  go_ret
  exact ⟨rfl, hb1⟩

/-- what is wrong with the refs of a text, and where they are, sorted -/
def rfE (d : Dm) (s : ByteArray) : Int := if prsE s ≠ 0 then prsE s else if (nmsTo (prsL s) (prsL s).length).any (fun nm => decide (whL d nm < 0)) = true then 5 else 0
def rfL (d : Dm) (s : ByteArray) : List Int := if rfE d s = 0 then ((refsP (prsL s)).map (whL d)).mergeSort (fun x y => decide (x ≤ y)) else []
theorem rf0 {d : Dm} {s : ByteArray} (h : prsE s ≠ 0) : rfE d s = prsE s ∧ rfL d s = [] := by
  have e : rfE d s = prsE s := by unfold rfE; rw [if_pos h]
  exact ⟨e, by unfold rfL; rw [e, if_neg h]⟩
theorem any_refs {l : List Nd} (h : formErr l = 0) (p : List UInt8 → Bool) : (refsP l).any p = (nmsTo l l.length).any p := by
  obtain ⟨-, h2⟩ := refs_once h
  rw [Bool.eq_iff_iff, List.any_eq_true, List.any_eq_true]
  constructor
  · rintro ⟨x, hx, hp⟩; exact ⟨x, (h2 x).1 hx, hp⟩
  · rintro ⟨x, hx, hp⟩; exact ⟨x, (h2 x).2 hx, hp⟩
theorem rf1 {d : Dm} {s : ByteArray} (h : prsE s = 0) (ha : (refsP (prsL s)).any (fun nm => decide (whL d nm < 0)) = true) : rfE d s = 5 ∧ rfL d s = [] := by
  rw [any_refs (form_read h)] at ha
  have e : rfE d s = 5 := by unfold rfE; rw [if_neg (by simpa using h), if_pos ha]
  exact ⟨e, by unfold rfL; rw [e, if_neg (by decide)]⟩
theorem rf2 {d : Dm} {s : ByteArray} (h : prsE s = 0) (ha : (refsP (prsL s)).any (fun nm => decide (whL d nm < 0)) = false) : rfE d s = 0 ∧ rfL d s = ((refsP (prsL s)).map (whL d)).mergeSort (fun x y => decide (x ≤ y)) := by
  rw [any_refs (form_read h)] at ha
  have e : rfE d s = 0 := by unfold rfE; rw [if_neg (by simpa using h), if_neg (by rw [ha]; decide)]
  exact ⟨e, by unfold rfL; rw [if_pos e]⟩
theorem refs_len {l : List Nd} (h : formErr l = 0) : (refsP l).length ≤ 30 := by
  obtain ⟨-, hl, -⟩ := form_right h
  unfold refsP
  rw [if_pos h]
  refine Nat.le_trans (compact_len _) ?_
  rw [List.length_mergeSort]
  exact Nat.le_trans (nms_len _ _) hl

theorem put_offI {w : World} {g k : Nat} {d : Array Int} (h : k ≠ g) : (putRow (Value.int .i64) w g 0 d).heap[k]? = w.heap[k]? := by
  unfold putRow Sort.mapBlock
  simp only [Array.getElem?_modify]
  rw [if_neg (fun e => h e.symm)]
theorem sorted_belowI {w0 w : World} {g n : Nat} {d : Array Int} {os : Array Obj} (h : Below w0.heap.size w0 w) (hg : w0.heap.size ≤ g) : Below w0.heap.size w0 (grow (putRow (Value.int .i64) (Sort.ahead w n) g 0 d) os) := by
  refine ⟨h.os, h.tape, h.output, by have := h.size; simp; omega, fun k hk => ?_⟩
  have hs := h.size
  rw [Sort.heap_grow_old _ _ (by simp; omega), put_offI (by omega)]
  exact h.block k hk
theorem sorted_intT {w : World} {g n c : Nat} {zs ys : List Int} {cur : Array Value} {fr : Nat × Nat} {os : Array Obj} (hg : w.heap[g]? = some (.cells cur 3 fr)) (hH : Holds (Value.int .i64) w g 0 zs.toArray) (hl : ys.length = zs.length) (hc : zs.length ≤ c) (hc2 : c ≤ 9223372036854775807) :
    IntT (grow (putRow (Value.int .i64) (Sort.ahead w n) g 0 ys.toArray) os) (some ⟨g, 0, none⟩) c ys := by
  have hlt : g < w.heap.size := (Array.getElem?_eq_some_iff.1 hg).1
  have hb : (grow (putRow (Value.int .i64) (Sort.ahead w n) g 0 ys.toArray) os).heap[g]? = some (.cells (Sort.putCells (Value.int .i64) 0 ys.toArray cur) 3 fr) := by
    rw [Sort.heap_grow_old _ _ (by simpa using hlt)]
    unfold putRow Sort.mapBlock
    have hg2 : (Sort.ahead w n).heap[g]? = some (.cells cur 3 fr) := hg
    simp only [Array.getElem?_modify, if_true, hg2, Option.map_some]
    rfl
  have hH2 := Sort.holds_grow (Value.int .i64) _ os g 0 _ (by simpa using hlt) (holds_putRow (Value.int .i64) (Sort.ahead w n) g 0 zs.toArray ys.toArray hH (by simp [hl]))
  refine ⟨by omega, hc2, Or.inr ⟨g, _, _, rfl, hb, fun j hj => ?_⟩⟩
  have h := (hH2 j (by simpa using hj)).1
  rw [Nat.zero_add] at h
  rw [h, getElem!_pos _ j (by simpa using hj)]
  simp [List.getD, List.getElem?_eq_getElem hj]
theorem map_one (d : Dm) (L : List (List UInt8)) {k : Nat} (h : k < L.length) : (L.take (k + 1)).map (whL d) = (L.take k).map (whL d) ++ [whL d (L.getD k [])] := by
  rw [List.take_succ_eq_append_getElem h, List.map_append, List.getD_eq_getElem?_getD, List.getElem?_eq_getElem h]
  rfl

set_option maxHeartbeats 4000000 in
theorem refs_any (d : Dm) (q : Nat) (s : ByteArray) (w : World) (hs : s.size ≤ 100) (hI : IsF d q w) :
    Calls Tryz.prog 22 #[.string s, isV q] w fun e w' => (∃ A' c', e = .returned (.tuple #[.slice A' (rfL d s).length c', errV (rfE d s)]) ∧ IntT w' A' c' (rfL d s)) ∧ Below w.heap.size w w' := by
  obtain ⟨i0, hi0, hz0, hz1, hz2⟩ := info_parts Tryz.infoInt
  obtain ⟨W, hW⟩ : ∃ W, w.alloc (.cells #[isV q] 57) = W := ⟨_, rfl⟩
  have hB0 : Below w.heap.size w W := by rw [← hW]; exact (Below.refl _ _).alloc (Nat.le_refl _) _
  have hs0 : W.heap.size = w.heap.size + 1 := by rw [← hW]; simp
  have hc0 : W.cell? ⟨w.heap.size, 0, none⟩ = some (isV q) := by
    have h : W.heap[w.heap.size]? = some (.cells #[isV q] 57 (0, 0)) := by rw [← hW]; exact heap_alloc_new _ _
    rw [Lib.cell_of_heap h]
    rfl
  have hpr := fparse_any s W (by omega)
  have HI : Hid (IsF d q w) := hI
  have HB0 : Hid (Below w.heap.size w W) := hB0
  have HC0 : Hid (W.cell? ⟨w.heap.size, 0, none⟩ = some (isV q)) := hc0
  have HS0 : Hid (W.heap.size = w.heap.size + 1) := hs0
  have HRf : Hid (∀ w', Below W.heap.size W w' → ∀ x, Calls Tryz.prog 42 #[.string ⟨x.toArray⟩, .pointer (some ⟨w.heap.size, 0, none⟩)] w' fun e w'' => e = .returned (.bool (decide (whL d x < 0))) ∧ Below w'.heap.size w' w'') := fun w' hB x =>
    refs1_any d q w.heap.size x w' (hI.later (onB hB0 hB)) ((hB.cell (p := ⟨w.heap.size, 0, none⟩) (by show w.heap.size < _; omega)).trans hc0)
  unfold isV at hW ⊢
  clear hB0 hs0 hc0 hI
  by_cases hpe : prsE s = 0
  case neg =>
    obtain ⟨e1, e2⟩ := rf0 (d := d) hpe
    rw [e1, e2]
    have HE : Hid (errV (prsE s) = .iface 44 (.int .i64 (prsE s))) := errV_some hpe
    rw [errV_some hpe] at hpr ⊢
    generalize (prsL s).length = m at hpr
    generalize (prsA s : Int) = at' at hpr
    generalize prsE s = ec at hpr
    clear hpe e1 e2
    go_enter Tryz.func22, Tryz.ntmps22
    go_wp2_with fail
    refine hpr.mono ?_
    rintro e w1 ⟨⟨A1, c1, rfl, -⟩, hb1⟩
    go_wp2_with fail
    go_ret2
    exact ⟨⟨none, 0, rfl, IntT.nil _ _ _ (by omega)⟩, onB HB0.out hb1⟩
  have hfe := form_read hpe
  have hrl := refs_len hfe
  have HPe : Hid (prsE s = 0) := hpe
  have hrf := fun A c w' hN => frefs_any A c (prsL s) w' hN
  rw [hfe, errV_zero] at hrf
  rw [hpe, errV_zero] at hpr
  obtain ⟨L, hL⟩ : ∃ L, refsP (prsL s) = L := ⟨_, rfl⟩
  have HL : Hid (refsP (prsL s) = L) := hL
  rw [hL] at hrl hrf
  obtain ⟨l, hl⟩ : ∃ l, prsL s = l := ⟨_, rfl⟩
  rw [hl] at hpr hrf
  generalize (prsA s : Int) = at' at hpr
  obtain ⟨n, hn⟩ : ∃ n, L.length = n := ⟨_, rfl⟩
  have HN : Hid (L.length = n) := hn
  have HRfs : Hid (∀ A c w', NdsV w' A c l → Calls Tryz.prog 40 #[.slice A l.length c] w' fun e w'' => (∃ A' c', e = .returned (.tuple #[.slice A' n c', .nilIface]) ∧ StrsV w'' A' c' L) ∧ Below w'.heap.size w' w'') := fun A c w' h => by rw [← hn]; exact hrf A c w' h
  generalize l.length = m at hpr HRfs
  rw [hn] at hrl
  have hnI : (n : Int) ≤ 30 := by omega
  clear hpe hfe hL hl hn hrf
  go_enter Tryz.func22, Tryz.ntmps22
  go_wp2_with fail
  refine hpr.mono ?_
  rintro e w1 ⟨⟨A1, c1, rfl, hN1⟩, hb1⟩
  have hrf := HRfs.out A1 c1 w1 hN1
  have HB1 : Hid (Below W.heap.size W w1) := hb1
  clear hpr hN1 hb1
  go_wp2_with fail
  refine hrf.mono ?_
  rintro e w2 ⟨⟨A2, c2, rfl, hS2⟩, hb2⟩
  have HB2 : Hid (Below W.heap.size W w2) := onB HB1.out hb2
  have HS2 : Hid (StrsV w2 A2 c2 L) := hS2
  have hct := scontf_any 42 #[.pointer (some ⟨w.heap.size, 0, none⟩)] (fun x => decide (whL d x < 0)) ent_refs1 A2 c2 L w2 (by have := HN.out; omega) hS2 fun x w' hB => HRf.out w' (onB HB2.out hB) x
  rw [HN.out] at hct
  obtain ⟨ra, hra⟩ : ∃ ra, L.any (fun x => decide (whL d x < 0)) = ra := ⟨_, rfl⟩
  have HRa : Hid (L.any (fun x => decide (whL d x < 0)) = ra) := hra
  rw [hra] at hct
  clear hrf hb2 hS2 hra
  go_wp2_with fail
  refine hct.mono ?_
  rintro e w3 ⟨rfl, hb3⟩
  have HB3 : Hid (Below W.heap.size W w3) := onB HB2.out hb3
  have HS3 : Hid (StrsV w3 A2 c2 L) := HS2.out.later hb3
  clear hct hb3
  cases ra
  case true =>
    go_wp2_with fail
    go_ret2
    obtain ⟨e1, e2⟩ := rf1 (d := d) HPe.out (by rw [HL.out]; exact HRa.out)
    rw [e1, e2]
    exact ⟨⟨none, 0, rfl, IntT.nil _ _ _ (by omega)⟩, onB HB0.out HB3.out⟩
  go_wp2_with fail
  go_loopg [10, 36] n (fun g s10 s36 wr => ∃ (k : Nat) (v : Value), k ≤ n ∧ g = n - k ∧ s36 = .int .i64 k ∧ v = s10 ∧ wr.ownsRow w3.heap.size 3 1 v k (mapI ((L.take k).map (whL d))) ∧ Below w3.heap.size w3 wr)
  case atStart => exact ⟨0, _, Nat.zero_le _, rfl, rfl, rfl, World.ownsRow_nil _ _ _ _, Below.refl _ _⟩
  case round =>
    obtain ⟨k, v, hk, rfl, rfl, rfl, hO, hBw⟩ := hrel
    have HO : Hid (wr.ownsRow w3.heap.size 3 1 v k (mapI ((L.take k).map (whL d)))) := hO
    have HBw : Hid (Below w3.heap.size w3 wr) := hBw
    by_cases hlt : k < n
    · have hki : (k : Int) < (n : Int) := by omega
      obtain ⟨hcS, -, hS0 | ⟨b, o, rfl, hbS, hcl⟩⟩ := HS3.out.later hBw
      · have := HN.out; rw [hS0] at this; simp at this; omega
      have cx := hcl k (by rw [HN.out]; exact hlt)
      rw [HN.out] at hcS
      have HNx : Hid ((L.take (k + 1)).map (whL d) = (L.take k).map (whL d) ++ [whL d (L.getD k [])]) := map_one d L (by rw [HN.out]; exact hlt)
      have hcall := HI.out ⟨(L.getD k []).toArray⟩ wr (onB HB0.out (onB HB3.out hBw))
      rw [show (⟨(L.getD k []).toArray⟩ : ByteArray).data.toList = L.getD k [] by simp] at hcall
      have hWr := onB HB3.out hBw
      have cb : wr.cell? ⟨w.heap.size, 0, none⟩ = some (isV q) := (hWr.cell (p := ⟨w.heap.size, 0, none⟩) (by show w.heap.size < _; rw [HS0.out]; omega)).trans HC0.out
      have hbz : w.heap.size < wr.heap.size := by have := hWr.size; rw [HS0.out] at this; omega
      unfold isV at cb
      generalize whL d (L.getD k []) = y at hcall HNx
      generalize (⟨(L.getD k []).toArray⟩ : ByteArray) = x at cx hcall
      clear hcl hO hBw hWr
      go_wp2_with fail
      refine hcall.mono ?_
      rintro e w4 ⟨rfl, hb4⟩
      have hB4 : Below w3.heap.size w3 w4 := onB HBw.out hb4
      have HB4 : Hid (Below w3.heap.size w3 w4) := hB4
      have HO4 : Hid (w4.ownsRow w3.heap.size 3 1 v k (mapI ((L.take k).map (whL d)))) := own_later HO.out hb4
      have hsz := hB4.size
      clear hb4 hcall hB4
      go_wp2_with (at_builtin; refine wpList_append_own _ rfl _ _ 27 rfl w3.heap.size 3 i0 (.int .i64 0) 1 8 Tryz.underlying27 hi0 hz0 hz1 hz2 rfl (by decide) _ _ _ rfl (HO4.out.alloc _) ⟨w4.heap.size, 0, none⟩ 1 1 [.int .i64 y] rfl rfl one_cell one_one (by unfold maxLen; omega) (by omega) (by simp; omega) ?_)
      intro v' w5 hown' hgrow _
      have HB5 : Hid (Below w3.heap.size w3 w5) := grown_own HB4.out HO4.out hgrow
      have HO5 : Hid (w5.ownsRow w3.heap.size 3 1 v' (k + 1) (mapI ((L.take (k + 1)).map (whL d)))) := by
        show World.ownsRow ..
        rw [HNx.out, mapI_snoc, List.map_take]; exact hown'
      clear hown' hgrow
      go_wp2_with fail
      go_roundg (n - (k + 1))
      case measure => omega
      case rel => exact ⟨k + 1, _, by omega, rfl, by go_num, rfl, HO5.out, HB5.out⟩
    · have hke : k = n := by omega
      subst hke
      have hL0 : L.take k = L := List.take_of_length_le (by rw [HN.out]; exact Nat.le_refl _)
      obtain ⟨e1, e2⟩ := rf2 (d := d) HPe.out (by rw [HL.out]; exact HRa.out)
      rw [HL.out] at e2
      have HE1 : Hid (rfE d s = 0) := e1
      have hO' := hO
      rw [hL0] at hO'
      obtain ⟨zs, hzs⟩ : ∃ zs, L.map (whL d) = zs := ⟨_, rfl⟩
      have hzl : zs.length = k := by rw [← hzs, List.length_map]; exact HN.out
      rw [hzs] at e2 hO'
      have HE2 : Hid (rfL d s = zs.mergeSort fun x y => decide (x ≤ y)) := e2
      have HZl : Hid (zs.length = k) := hzl
      clear hO HO hL0 e1 e2 hzs
      by_cases hz : v = .slice none 0 0
      · subst hz
        have hk0 : k = 0 := by
          rcases hO'.2 with ⟨_, h⟩ | ⟨g, c, cur, h, _⟩
          · exact h
          · cases h
        subst hk0
        have HZ0 : Hid (rfL d s = []) := by
          show _ = _
          rw [HE2.out, List.eq_nil_of_length_eq_zero hzl, List.mergeSort_nil]
        have hso := Any.slices_Sort_int_none Tryz.lays189 none 0 wr
        clear hO' hBw hzl
        go_wp2_with fail
        refine Calls.mono hso ?_
        rintro e w4 ⟨rfl, rfl⟩
        go_wp2_with fail
        go_ret2
        rw [HE1.out, HZ0.out]
        exact ⟨⟨none, 0, rfl, IntT.nil _ _ _ (by omega)⟩, onB HB0.out (onB HB3.out HBw.out)⟩
      · obtain ⟨g, c, hv, hgb, hgl, hnc, hcm, -, hH⟩ := Lib.holds_of_ownsRow (enc := Value.int .i64) (zs := zs) hO' hz
        subst hv
        obtain ⟨cur, hg⟩ : ∃ cur : Array Value, wr.heap[g]? = some (.cells cur 3 (0, 0)) := by
          rcases hO'.2 with ⟨h, _⟩ | ⟨g', c', cur, h, _, hg, _⟩
          · cases h
          · cases h; exact ⟨cur, hg⟩
        have hso := Any.slices_Sort_int Tryz.lays189 g 0 c zs wr hH hgl (by omega)
        rw [hzl] at hso
        have HT : Hid (∀ q2 os, IntT (grow (putRow (Value.int .i64) (Sort.ahead wr q2) g 0 (zs.mergeSort fun x y => decide (x ≤ y)).toArray) os) (some ⟨g, 0, none⟩) c (rfL d s)) := fun q2 os => by
          rw [HE2.out]
          exact sorted_intT hg hH (by rw [List.length_mergeSort]) (by omega) (by unfold maxLen at hcm; omega)
        have HBs : Hid (∀ q2 os, Below w.heap.size w (grow (putRow (Value.int .i64) (Sort.ahead wr q2) g 0 (zs.mergeSort fun x y => decide (x ≤ y)).toArray) os)) := fun q2 os => by
          have hBW := onB HB3.out hBw
          have h0 := onB HB0.out hBW
          refine sorted_belowI h0 ?_
          have := HB0.out.size
          have := HB3.out.size
          omega
        have HLl : Hid ((rfL d s).length = k) := by show _ = _; rw [HE2.out, List.length_mergeSort]; exact hzl
        generalize (zs.mergeSort fun x y => decide (x ≤ y)) = ys at hso HT HBs
        clear hO' hBw hzl hH hg
        go_wp2_with fail
        refine Calls.mono hso ?_
        rintro e w4 ⟨rfl, q2, os, hw4⟩
        have HT4 : Hid (IntT w4 (some ⟨g, 0, none⟩) c (rfL d s)) := by rw [hw4]; exact HT.out q2 os
        have HB4 : Hid (Below w.heap.size w w4) := by rw [hw4]; exact HBs.out q2 os
        clear hw4 hso
        go_wp2_with fail
        go_ret2
        rw [HE1.out]
        exact ⟨⟨_, c, by rw [HLl.out]; rfl, HT4.out⟩, HB4.out⟩
end Go.Proofs.YtpnfmpbgjkhicafGreatDoor

namespace Go.Proofs.YtpnfmpbgjkhicafGreatDoor
open Go.ChangeShapes Go.WideShapes Go.ChangeAt Go.RowKit
set_option maxRecDepth 20000

theorem MemsAt.grown {w w' : World} {b o n : Nat} {M : Nat → Mem} {r : Option Nat} (h : MemsAt w b o n M) (hG : w.grownBy w' r) (hr : some b ≠ r) : MemsAt w' b o n M := by
  have hb : w'.heap[b]? = w.heap[b]? := hG.block b h.1 hr
  have hc : ∀ k, w'.cell? ⟨b, k, none⟩ = w.cell? ⟨b, k, none⟩ := fun k => World.cell?_of_block (a := ⟨b, k, none⟩) hb
  refine ⟨Nat.lt_of_lt_of_le h.1 hG.size, fun i hi => ?_⟩
  obtain ⟨h0, h1, h2, h3⟩ := h.2 i hi
  exact ⟨(hc _).trans h0, (hc _).trans h1, (hc _).trans h2, (hc _).trans h3⟩
def noSg (d : Dm) (k : Int) : Bool := decide ((d.mem k.toNat).sign = 0)
theorem noSg_sg (d : Dm) : (fun x => !noSg d x) = sgB d := by
  funext x
  unfold noSg sgB
  by_cases h : (d.mem x.toNat).sign = 0 <;> simp [h]
theorem ent_sign (args : Array Value) (w : World) : (callFunc 28 args).run Tryz.prog w = .ok (.enter 28 args) w := by simp [go_sem]
theorem rsign_any (d : Dm) (b o cap q k : Nat) (w : World) (hk : k < d.n) (hn : d.n ≤ 12) (hM : MemsAt w b o d.n d.mem) (hc : w.cell? ⟨q, 2, none⟩ = some (.slice (some ⟨b, o, none⟩) d.n cap)) :
    Calls Tryz.prog 28 #[.int .i64 k, .pointer (some ⟨q, 0, none⟩)] w fun e w' => e = .returned (.bool (noSg d k)) ∧ Below w.heap.size w w' := by
  obtain ⟨-, -, h2, -⟩ := hM.2 k hk
  have hki : (k : Int) < (d.n : Int) := by omega
  have hni : (d.n : Int) ≤ 12 := by omega
  unfold noSg
  rw [Int.toNat_natCast]
  generalize (d.mem k).sign = sg at h2 ⊢
  generalize d.n = n at *
  clear hM
  go_enter Tryz.func28, Tryz.ntmps28
  go_wp2_with fail
  go_ret
  exact ⟨by by_cases h : sg = 0 <;> simp [h], Below.refl _ _⟩
theorem memErr_form {M : Nat → Mem} {i : Nat} (h : memErr M i = 0) : (M i).formula.size ≤ 100 := by
  unfold memErr at h
  split at h
  · simp at h
  · split at h
    · simp at h
    · split at h
      · simp at h
      · split at h
        · simp at h
        · split at h
          · simp at h
          · split at h
            · simp at h
            · omega
/-- what refs tells of a member's formula is what is wrong with the member, and whom it needs -/
theorem rf_mem {d : Dm} (hd : (dimErr d).2 = 0) {i : Nat} (hf : (d.mem i).formula.size ≠ 0) : rfE d (d.mem i).formula = mErr d i ∧ rfL d (d.mem i).formula = lst (mErr d i) (mNd d i) := by
  have e : rfE d (d.mem i).formula = mErr d i := by
    unfold rfE mErr nmsOf
    rw [if_neg hf]
  refine ⟨e, ?_⟩
  unfold rfL lst
  rw [e]
  by_cases h : mErr d i = 0
  · rw [if_pos h, if_pos h]
    refine sort_need hd hf h ?_
    unfold mErr at h
    rw [if_neg hf] at h
    split at h
    · rename_i h1; exact absurd h h1
    · rename_i h1; simpa using h1
  · rw [if_neg h, if_neg h]

set_option maxHeartbeats 4000000 in
theorem rmember_any (d : Dm) (A : Option Addr) (cap i : Nat) (w : World) (hd : (dimErr d).2 = 0) (hi : i < d.n) (hM : MemsV w A cap d.n d.mem) :
    Calls Tryz.prog 14 #[dimV d A cap, .int .i64 i] w fun e w' => (∃ A' c', e = .returned (.tuple #[.slice A' (lst (mErr d i) (mNd d i)).length c', errV (mErr d i)]) ∧ IntT w' A' c' (lst (mErr d i) (mNd d i))) ∧ Below w.heap.size w w' := by
  obtain ⟨-, -, hd2, hall⟩ := dimErr_right hd
  obtain ⟨hcap, h0 | ⟨b, o, rfl, hMs⟩⟩ := hM
  · omega
  have hB0 := ownDim_below w d (some ⟨b, o, none⟩) cap 24
  have hS := ownDim_size w d (some ⟨b, o, none⟩) cap 24
  obtain ⟨o0, o1, o2⟩ := ownDim_at w d (some ⟨b, o, none⟩) cap 24
  unfold dimV
  obtain ⟨W, hW⟩ : ∃ W, ownDim w d (some ⟨b, o, none⟩) cap 24 = W := ⟨_, rfl⟩
  rw [hW] at hB0 hS o0 o1 o2
  unfold ownDim at hW
  have hMW := hMs.later hB0
  obtain ⟨-, -, -, c3⟩ := hMW.2 i hi
  have hii : (i : Int) < (d.n : Int) := by omega
  have hni : (d.n : Int) ≤ 12 := by omega
  have hq : w.heap.size < W.heap.size := by omega
  have HB0 : Hid (Below w.heap.size w W) := hB0
  by_cases hf : (d.mem i).formula.size = 0
  · have hf' : (d.mem i).formula.toList.isEmpty = true := by rw [empty_same]; simpa using hf
    have hme : mErr d i = 0 := by unfold mErr; rw [if_pos hf]
    rw [hme, lst_ok rfl, errV_zero]
    have hpa := parts_own d (some ⟨b, o, none⟩) cap i W hd hi ⟨hcap, Or.inr ⟨b, o, rfl, hMW⟩⟩
    unfold dimV at hpa
    have HNd : Hid ((partsOf d.mem d.n i).filter (sgB d) = mNd d i) := parts_need hf
    have HPl : Hid ((partsOf d.mem d.n i).length ≤ 12) := Nat.le_trans (selTo_len _ _) hd2
    have HPm : Hid (∀ x ∈ partsOf d.mem d.n i, ∃ k : Nat, x = (k : Int) ∧ k < d.n) := fun x hx => by
      obtain ⟨m, h1, h2, -⟩ := selTo_mem x hx
      exact ⟨m, h1, h2⟩
    have HMW : Hid (MemsAt W b o d.n d.mem) := hMW
    have HO2 : Hid (W.cell? ⟨w.heap.size, 2, none⟩ = some (.slice (some ⟨b, o, none⟩) d.n cap)) := o2
    generalize (d.mem i).formula = fm at c3 hf'
    clear hMs hall hf hme
    go_enter Tryz.func14, Tryz.ntmps14
    go_wp2_with fail
    refine hpa.mono ?_
    rintro e w1 ⟨⟨v1, rfl, hO1⟩, hb1⟩
    have HB1 : Hid (Below W.heap.size W w1) := hb1
    have hq1 : w.heap.size < w1.heap.size := by have := hb1.size; omega
    have hdel := delf_any 28 #[.pointer (some ⟨w.heap.size, 0, none⟩)] (noSg d) ent_sign W.heap.size v1 (partsOf d.mem d.n i) w1 HPl.out hO1 fun x w' hx hG => by
      obtain ⟨k, rfl, hk⟩ := HPm.out x hx
      have hown : ∀ j, v1.ownBlock = some j → W.heap.size ≤ j := fun j hj => (hO1.lt j hj).1
      have hbw : b < W.heap.size := HMW.out.1
      have hne : ∀ j, j < W.heap.size → some j ≠ v1.ownBlock := fun j hj e => by have := hown j e.symm; omega
      refine rsign_any d b o cap w.heap.size k w' hk hd2 ((HMW.out.later hb1).grown hG (hne b hbw)) ?_
      have h1 : w1.cell? ⟨w.heap.size, 2, none⟩ = some (.slice (some ⟨b, o, none⟩) d.n cap) := (hb1.cell (p := ⟨w.heap.size, 2, none⟩) hq).trans HO2.out
      rw [World.cell?_of_block (a := ⟨w.heap.size, 2, none⟩) (hG.block w.heap.size hq1 (hne _ hq))]
      exact h1
    rw [noSg_sg, HNd.out] at hdel
    have HBd : Hid (∀ w', w1.grownBy w' v1.ownBlock → Below w.heap.size w w') := fun w' hG => (onB HB0.out hb1).grown hG (by have := HB0.out.size; have := hb1.size; omega) fun j hj => by have := (hO1.lt j hj).1; omega
    clear hO1 hb1 hpa
    go_wp2_with fail
    refine hdel.mono ?_
    rintro e w2 ⟨⟨A2, c2, rfl, hT⟩, hG⟩
    have HT : Hid (IntT w2 A2 c2 (mNd d i)) := hT
    have HB2 : Hid (Below w.heap.size w w2) := HBd.out w2 hG
    clear hT hG hdel
    go_wp2_with fail
    go_ret2
    exact ⟨⟨A2, c2, rfl, HT.out⟩, HB2.out⟩
  · have hf' : (d.mem i).formula.toList.isEmpty = false := by rw [empty_same]; simpa using hf
    obtain ⟨e1, e2⟩ := rf_mem hd hf
    have hIs : IsF d w.heap.size W := fun s w' hB => is_any d b o cap w.heap.size s w' hd2 (hMW.later hB) (Nat.lt_of_lt_of_le hq hB.size) ((hB.cell (p := ⟨w.heap.size, 2, none⟩) hq).trans o2)
    have hrf := refs_any d w.heap.size (d.mem i).formula W (memErr_form (hall i hi)) hIs
    rw [← e2, ← e1]
    unfold isV at hrf
    obtain ⟨fm, hfm⟩ : ∃ fm, (d.mem i).formula = fm := ⟨_, rfl⟩
    rw [hfm] at c3 hf' hrf ⊢
    generalize rfL d fm = L at hrf ⊢
    generalize errV (rfE d fm) = ev at hrf ⊢
    clear hMs hall hf hIs hMW e1 e2 hfm
    go_enter Tryz.func14, Tryz.ntmps14
    go_wp2_with fail
    refine hrf.mono ?_
    rintro e w1 ⟨⟨A1, c1, rfl, hT⟩, hb1⟩
    have HT : Hid (IntT w1 A1 c1 L) := hT
    clear hT hrf
    go_wp2_with fail
    go_ret2
    exact ⟨⟨A1, c1, rfl, HT.out⟩, onB HB0.out hb1⟩
end Go.Proofs.YtpnfmpbgjkhicafGreatDoor

namespace Go.Proofs.YtpnfmpbgjkhicafGreatDoor
open Go.ChangeShapes Go.WideShapes Go.ChangeAt Go.RowKit
set_option maxRecDepth 20000

/-- what is reached so far: of the first k of them all that they need is there -/
def RInv (N : List (List Int)) (i : Nat) (L : List Int) (k : Nat) : Prop := L.Nodup ∧ (∀ x ∈ L, Rch N i x) ∧ (∀ x ∈ N.getD i [], x ∈ L) ∧ ∀ j, j < k → ∀ y ∈ rowN N (L.getD j 0), y ∈ L
theorem rinv_start {N : List (List Int)} {i : Nat} (h : (N.getD i []).Nodup) : RInv N i (N.getD i []) 0 :=
  ⟨h, fun x hx => .one (by unfold rowN; simpa using hx), fun _ h => h, fun j hj => absurd hj (Nat.not_lt_zero _)⟩
theorem rinv_in {N : List (List Int)} {i : Nat} {L : List Int} {k : Nat} (h : RInv N i L k) (hN : Inn N) (hi : i < N.length) : ∀ x ∈ L, 0 ≤ x ∧ x < (N.length : Int) := fun x hx => (h.2.1 x hx).inn hN (by omega) (by omega)
theorem rinv_len {N : List (List Int)} {i : Nat} {L : List Int} {k : Nat} (h : RInv N i L k) (hN : Inn N) (hi : i < N.length) : L.length ≤ N.length := few _ _ h.1 (rinv_in h hN hi)
theorem rinv_end {N : List (List Int)} {i : Nat} {L : List Int} (h : RInv N i L L.length) : ∀ x, x ∈ L ↔ Rch N i x := fun x => by
  refine ⟨h.2.1 x, fun hr => hr.closed (S := fun y => y ∈ L) (fun y hy => h.2.2.1 y (by unfold rowN at hy; simpa using hy)) fun y hy z hz => ?_⟩
  obtain ⟨j, hj, rfl⟩ := List.getElem_of_mem hy
  refine h.2.2.2 j hj z ?_
  rw [List.getD_eq_getElem?_getD, List.getElem?_eq_getElem hj]
  exact hz
theorem getD_app {L T : List Int} {j : Nat} (h : j < L.length) : (L ++ T).getD j 0 = L.getD j 0 := by
  rw [List.getD_eq_getElem?_getD, List.getD_eq_getElem?_getD, List.getElem?_append_left h]
theorem rinv_put {N : List (List Int)} {i : Nat} {L : List Int} {k : Nat} {x : Int} (h : RInv N i L k) (hk : k ≤ L.length) (hx : x ∉ L) (hr : Rch N i x) : RInv N i (L ++ [x]) k := by
  refine ⟨?_, fun y hy => ?_, fun y hy => List.mem_append_left _ (h.2.2.1 y hy), fun j hj y hy => ?_⟩
  · rw [List.nodup_append]
    refine ⟨h.1, by simp, fun a ha b hb e => ?_⟩
    rw [List.mem_singleton.1 hb] at e
    exact hx (e ▸ ha)
  · rcases List.mem_append.1 hy with hy | hy
    · exact h.2.1 y hy
    · rw [List.mem_singleton.1 hy]; exact hr
  · rw [getD_app (by omega)] at hy
    exact List.mem_append_left _ (h.2.2.2 j hj y hy)
theorem rinv_next {N : List (List Int)} {i : Nat} {L : List Int} {k : Nat} (h : RInv N i L k) (hy : ∀ y ∈ rowN N (L.getD k 0), y ∈ L) : RInv N i L (k + 1) :=
  ⟨h.1, h.2.1, h.2.2.1, fun j hj y hyj => by
    by_cases e : j = k
    · rw [e] at hyj; exact hy y hyj
    · exact h.2.2.2 j (by omega) y hyj⟩
theorem mem_at {L : List Int} {j : Nat} (h : j < L.length) : L.getD j 0 ∈ L := by
  rw [List.getD_eq_getElem?_getD, List.getElem?_eq_getElem h]
  exact List.getElem_mem h

set_option maxHeartbeats 4000000 in
theorem reach_any (A : Option Addr) (cap : Nat) (xs : List RL) (i : Nat) (w : World) (hn : xs.length ≤ 12) (hi : i < xs.length) (hN : Inn (lR xs)) (hnd : ∀ x ∈ xs, x.p.Nodup ∧ x.p.length ≤ 12) (hR : RowsV w A cap xs) :
    Calls Tryz.prog 16 #[.slice A xs.length cap, .int .i64 i] w fun e w' => (∃ A' c' L, e = .returned (.slice A' L.length c') ∧ IntsAt w' A' c' L ∧ L.length ≤ 12 ∧ ∀ x, x ∈ L ↔ Rch (lR xs) i x) ∧ Below w.heap.size w w' := by
  obtain ⟨i0, hi0, hz0, hz1, hz2⟩ := info_parts Tryz.infoInt
  have HR : Hid (RowsV w A cap xs) := hR
  have HNd : Hid (∀ x ∈ xs, x.p.Nodup ∧ x.p.length ≤ 12) := hnd
  have HIn : Hid (Inn (lR xs)) := hN
  have HLen : Hid ((lR xs).length = xs.length) := lR_len xs
  obtain ⟨hcap, h0 | ⟨b, rfl, hbw, hcell⟩, hrows⟩ := hR
  · rw [h0] at hi; simp at hi
  have hci := hcell i hi
  have hri := hrows _ (rl_mem hi)
  have hni := hnd _ (rl_mem hi)
  have HC : Hid (∀ k, k < xs.length → w.cell? ⟨b, k, none⟩ = some (.slice (xs.getD k noR).A (xs.getD k noR).p.length (xs.getD k noR).c)) := hcell
  have HRw : Hid (∀ x ∈ xs, IntT w x.A x.c x.p) := hrows
  have HSt : Hid (RInv (lR xs) i (xs.getD i noR).p 0) := by
    have h := rinv_start (N := lR xs) (i := i) (by rw [lR_at]; exact hni.1)
    rw [lR_at] at h
    exact h
  have hcl := iclone_any (xs.getD i noR).A (xs.getD i noR).c (xs.getD i noR).p w hni.2 hri
  obtain ⟨n, hnn⟩ : ∃ n, xs.length = n := ⟨_, rfl⟩
  have HX : Hid (xs.length = n) := hnn
  rw [hnn] at hn hi hcap ⊢
  have hii : (i : Int) < (n : Int) := by omega
  have hnI : (n : Int) ≤ 12 := by omega
  obtain ⟨pi, hpi⟩ : ∃ pi, (xs.getD i noR).p = pi := ⟨_, rfl⟩
  rw [hpi] at hci hcl HSt
  generalize (xs.getD i noR).A = Ai at hci hcl
  generalize (xs.getD i noR).c = ci at hci hcl
  clear hcell hrows hnd hN hri hni hpi hnn
  go_enter Tryz.func16, Tryz.ntmps16
  go_wp2_with fail
  refine hcl.mono ?_
  rintro e w1 ⟨⟨v1, rfl, hO1⟩, hb1⟩
  have HO1 : Hid (w1.ownsRow w.heap.size 3 1 v1 pi.length (mapI pi)) := hO1
  have HB1 : Hid (Below w.heap.size w w1) := hb1
  clear hO1 hb1 hcl hci
  go_wp2_with fail
  go_loopg [5, 6] n (fun g s5 s6 wr => ∃ (k : Nat) (L : List Int), k ≤ L.length ∧ g = n - k ∧ s6 = .int .i64 k ∧ Hid (RInv (lR xs) i L k) ∧ wr.ownsRow w.heap.size 3 1 s5 L.length (mapI L) ∧ Below w.heap.size w wr)
  case atStart => exact ⟨0, pi, Nat.zero_le _, rfl, rfl, HSt, HO1.out, HB1.out⟩
  case round =>
    obtain ⟨k, L, hk, rfl, rfl, HI, hown, hBw⟩ := hrel
    have HBw : Hid (Below w.heap.size w wr) := hBw
    have HO : Hid (wr.ownsRow w.heap.size 3 1 u5 L.length (mapI L)) := hown
    have hLn : L.length ≤ n := by rw [← HX.out, ← HLen.out]; exact rinv_len HI.out HIn.out (by rw [HLen.out, HX.out]; exact hi)
    obtain ⟨AL, cL, rfl, hIL⟩ := intT_own hown
    obtain ⟨m, hm⟩ : ∃ m, L.length = m := ⟨_, rfl⟩
    have HM : Hid (L.length = m) := hm
    have hmI : (m : Int) ≤ 12 := by omega
    rw [hm] at hk hLn
    rw [hm]
    by_cases hlt : k < m
    · have hki : (k : Int) < (m : Int) := by omega
      obtain ⟨hcL, -, hL0 | ⟨bl, cs, fr, rfl, hbl, hcl⟩⟩ := hIL
      · rw [hL0] at hm; simp at hm; omega
      have cx := hcl k (by omega)
      have hx := rinv_in HI.out HIn.out (by rw [HLen.out, HX.out]; exact hi) _ (mem_at (L := L) (j := k) (by omega))
      rw [HLen.out, HX.out] at hx
      obtain ⟨y, hy⟩ : ∃ y : Nat, L.getD k 0 = (y : Int) := ⟨(L.getD k 0).toNat, by omega⟩
      have HY : Hid (L.getD k 0 = (y : Int)) := hy
      rw [hy] at cx hx
      have hyn : y < n := by omega
      have hyi : (y : Int) < (n : Int) := by omega
      have cy := (hBw.cell (p := ⟨b, y, none⟩) hbw).trans (HC.out y (by rw [HX.out]; exact hyn))
      have HRy : Hid (IntT w (xs.getD y noR).A (xs.getD y noR).c (xs.getD y noR).p) := HRw.out _ (rl_mem (by rw [HX.out]; exact hyn))
      have hry := (HNd.out _ (rl_mem (k := y) (by rw [HX.out]; exact hyn))).2
      have HRow : Hid (rowN (lR xs) (L.getD k 0) = (xs.getD y noR).p) := by
        show _ = _
        rw [hy]
        unfold rowN
        rw [Int.toNat_natCast, lR_at]
      have HRk : Hid (Rch (lR xs) i (L.getD k 0)) := HI.out.2.1 _ (mem_at (by omega))
      obtain ⟨R, hRe⟩ : ∃ R, (xs.getD y noR).p = R := ⟨_, rfl⟩
      rw [hRe] at cy HRy hry HRow
      generalize (xs.getD y noR).A = Ay at cy HRy
      generalize (xs.getD y noR).c = cy' at cy HRy
      obtain ⟨r, hr⟩ : ∃ r, R.length = r := ⟨_, rfl⟩
      have HRl : Hid (R.length = r) := hr
      rw [hr] at cy hry
      have hrI : (r : Int) ≤ 12 := by omega
      have hblt : bl < wr.heap.size := (Array.getElem?_eq_some_iff.1 hbl).1
      clear hcl hx hown hBw hbl hy hRe hr hm
      go_wp2_with fail
      go_loopg [5, 28] r (fun gg s5 s28 wi => ∃ (j : Nat) (K : List Int), j ≤ r ∧ gg = r - j ∧ s28 = .int .i64 j ∧ Hid (RInv (lR xs) i K k ∧ (∃ T, K = L ++ T) ∧ ∀ t, t < j → R.getD t 0 ∈ K) ∧ wi.ownsRow w.heap.size 3 1 s5 K.length (mapI K) ∧ Below w.heap.size w wi)
      case atStart => exact ⟨0, L, Nat.zero_le _, rfl, rfl, (⟨HI.out, ⟨[], by simp⟩, fun t ht => absurd ht (Nat.not_lt_zero _)⟩ : _ ∧ _ ∧ _), by have h := HO.out; rw [HM.out] at h; rw [HM.out]; exact h, HBw.out⟩
      case round =>
        obtain ⟨wj, rfl⟩ : ∃ wj : World, wj = wr := ⟨_, rfl⟩
        obtain ⟨j, K, hj, rfl, rfl, HK, hown, hBj⟩ := hrel
        have HBj : Hid (Below w.heap.size w wj) := hBj
        have HOj : Hid (wj.ownsRow w.heap.size 3 1 u5 K.length (mapI K)) := hown
        have hKn : K.length ≤ n := by rw [← HX.out, ← HLen.out]; exact rinv_len HK.out.1 HIn.out (by rw [HLen.out, HX.out]; exact hi)
        obtain ⟨AK, cK, rfl, hIK⟩ := intT_own hown
        by_cases hjl : j < r
        · have hji : (j : Int) < (r : Int) := by omega
          obtain ⟨hcR, -, hR0 | ⟨br, csr, frr, rfl, hbr, hcr⟩⟩ := HRy.out.later hBj
          · have := HRl.out; rw [hR0] at this; simp at this; omega
          have cz := hcr j (by rw [HRl.out]; exact hjl)
          have hbrl : br < wj.heap.size := (Array.getElem?_eq_some_iff.1 hbr).1
          rw [HRl.out] at hcR
          have hcRi : (r : Int) ≤ (cy' : Int) := by omega
          obtain ⟨x, hx⟩ : ∃ x, R.getD j 0 = x := ⟨_, rfl⟩
          have HXx : Hid (R.getD j 0 = x) := hx
          rw [hx] at cz
          have hct := contains_ints AK cK K x wj (by omega) hIK.at
          obtain ⟨mk, hmk⟩ : ∃ mk, K.length = mk := ⟨_, rfl⟩
          have HMk : Hid (K.length = mk) := hmk
          have HKn : Hid (mk ≤ n) := by show _ ≤ _; omega
          rw [hmk] at hct hKn
          rw [hmk]
          clear hcr hbr hown hBj hIK hx hmk
          by_cases hin : x ∈ K
          · have hb : inB K x = true := by unfold inB; exact decide_eq_true hin
            rw [hb] at hct
            have HK2 : Hid (RInv (lR xs) i K k ∧ (∃ T, K = L ++ T) ∧ ∀ t, t < j + 1 → R.getD t 0 ∈ K) := ⟨HK.out.1, HK.out.2.1, fun t ht => by
              by_cases e : t = j
              · rw [e, HXx.out]; exact hin
              · exact HK.out.2.2 t (by omega)⟩
            clear hb hin
            go_wp2_with fail
            refine hct.mono ?_
            rintro e w2 ⟨rfl, hb2⟩
            have HB2 : Hid (Below w.heap.size w w2) := onB HBj.out hb2
            have HO2 : Hid (w2.ownsRow w.heap.size 3 1 (.slice AK mk cK) K.length (mapI K)) := by have h := own_later HOj.out hb2; rw [HMk.out] at h; show World.ownsRow ..; rw [HMk.out]; exact h
            clear hb2 hct
            go_wp2_with fail
            go_roundg (r - (j + 1))
            case measure => omega
            case rel => exact ⟨j + 1, K, by omega, rfl, by go_num, HK2, HO2.out, HB2.out⟩
          · have hb : inB K x = false := by unfold inB; exact decide_eq_false hin
            rw [hb] at hct
            have HK2 : Hid (RInv (lR xs) i (K ++ [x]) k ∧ (∃ T, K ++ [x] = L ++ T) ∧ ∀ t, t < j + 1 → R.getD t 0 ∈ K ++ [x]) := by
              obtain ⟨hI, ⟨T, hT⟩, hA⟩ := HK.out
              refine ⟨rinv_put hI ?_ hin ?_, ⟨T ++ [x], by rw [hT, List.append_assoc]⟩, fun t ht => ?_⟩
              · rw [hT, List.length_append, HM.out]; omega
              · refine HRk.out.snoc ?_
                rw [HRow.out, ← HXx.out]
                exact mem_at (by rw [HRl.out]; exact hjl)
              · by_cases e : t = j
                · rw [e, HXx.out]; simp
                · exact List.mem_append_left _ (hA t (by omega))
            clear hb hin
            go_wp2_with fail
            refine hct.mono ?_
            rintro e w2 ⟨rfl, hb2⟩
            have hB2 : Below w.heap.size w w2 := onB HBj.out hb2
            have HB2 : Hid (Below w.heap.size w w2) := hB2
            have HO2 : Hid (w2.ownsRow w.heap.size 3 1 (.slice AK mk cK) mk (mapI K)) := by have h := own_later HOj.out hb2; rw [HMk.out] at h; exact h
            have hsz := hB2.size
            clear hb2 hct hB2
            go_wp2_with (at_builtin; refine wpList_append_own _ rfl _ _ 27 rfl w.heap.size 3 i0 (.int .i64 0) 1 8 Tryz.underlying27 hi0 hz0 hz1 hz2 rfl (by decide) _ _ _ rfl (HO2.out.alloc _) ⟨w2.heap.size, 0, none⟩ 1 1 [.int .i64 x] rfl rfl one_cell one_one (by have := HKn.out; unfold maxLen; omega) (by have := HKn.out; omega) (by simp; omega) ?_)
            intro v' w3 hown' hgrow _
            have HB3 : Hid (Below w.heap.size w w3) := grown_own HB2.out HO2.out hgrow
            have HO3 : Hid (w3.ownsRow w.heap.size 3 1 v' (K ++ [x]).length (mapI (K ++ [x]))) := by
              show World.ownsRow ..
              rw [mapI_snoc, List.length_append, HMk.out]; exact hown'
            clear hown' hgrow
            go_wp2_with fail
            go_roundg (r - (j + 1))
            case measure => omega
            case rel => exact ⟨j + 1, K ++ [x], by omega, rfl, by go_num, HK2, HO3.out, HB3.out⟩
        · have hje : j = r := by omega
          subst hje
          have HI2 : Hid (k + 1 ≤ K.length ∧ RInv (lR xs) i K (k + 1)) := by
            obtain ⟨hI, ⟨T, hT⟩, hA⟩ := HK.out
            refine ⟨by rw [hT, List.length_append, HM.out]; omega, rinv_next hI fun y' hy' => ?_⟩
            rw [hT, getD_app (by rw [HM.out]; exact hlt), HRow.out] at hy'
            obtain ⟨t, ht, rfl⟩ := List.getElem_of_mem hy'
            have h := hA t (by rw [← HRl.out]; exact ht)
            rw [List.getD_eq_getElem?_getD, List.getElem?_eq_getElem ht] at h
            exact h
          clear hown hBj hIK hKn
          go_wp2_with fail
          go_roundg (n - (k + 1))
          case measure => omega
          case rel => exact ⟨k + 1, K, HI2.out.1, rfl, by go_num, HI2.out.2, HOj.out, HBj.out⟩
    · have hke : k = m := by omega
      subst hke
      have HEnd : Hid (∀ x, x ∈ L ↔ Rch (lR xs) i x) := rinv_end (by rw [HM.out]; exact HI.out)
      have HIL : Hid (IntsAt wr AL cL L) := hIL.at
      clear hown hBw hIL hm
      go_wp2_with fail
      go_ret
      exact ⟨⟨AL, cL, L, by rw [HM.out]; rfl, HIL.out, by rw [HM.out]; omega, HEnd.out⟩, HBw.out⟩
end Go.Proofs.YtpnfmpbgjkhicafGreatDoor

namespace Go.Proofs.YtpnfmpbgjkhicafGreatDoor
open Go.ChangeShapes Go.WideShapes Go.ChangeAt Go.RowKit
set_option maxRecDepth 20000

theorem inB_contains (L : List Int) (x : Int) : inB L x = L.contains x := by
  unfold inB
  by_cases h : x ∈ L
  · rw [decide_eq_true h, List.contains_iff_mem.2 h]
  · rw [decide_eq_false h]
    symm
    rw [← Bool.not_eq_true, List.contains_iff_mem]
    exact h
theorem icontf_any (F : Nat) (cap : Array Value) (p : Int → Bool) (hent : ∀ (args : Array Value) (w : World), (callFunc F args).run Tryz.prog w = .ok (.enter F args) w) (A : Option Addr) (c : Nat) (L : List Int) (w : World) (hn : L.length ≤ 200) (hL : IntsAt w A c L)
    (hF : ∀ (x : Int) (w' : World), Below w.heap.size w w' → Calls Tryz.prog F (#[.int .i64 x] ++ cap) w' fun e w'' => e = .returned (.bool (p x)) ∧ Below w'.heap.size w' w'') :
    Calls Tryz.prog 18 #[.slice A L.length c, .func (.func F) #[] cap] w fun e w' => e = .returned (.bool (anyL p L)) ∧ Below w.heap.size w w' := by
  have h := indexi_any F cap p hent A c L w hn hL hF
  rw [← any_find]
  generalize findFrom (fun j => p (L.getD j 0)) L.length 0 = r at *
  clear hF hL
  go_enter Tryz.func18, Tryz.ntmps18
  go_wp2_with fail
  refine h.mono ?_
  rintro e w1 ⟨rfl, hb1⟩
  go_wp2_with fail
  go_ret
  exact ⟨rfl, hb1⟩

theorem ent_waits (args : Array Value) (w : World) : (callFunc 17 args).run Tryz.prog w = .ok (.enter 17 args) w := by simp [go_sem]
theorem waits_any (x : Int) (q : Nat) (A : Option Addr) (c : Nat) (L : List Int) (w : World) (hn : L.length ≤ 12) (hq : w.cell? ⟨q, 0, none⟩ = some (.slice A L.length c)) (hL : IntsAt w A c L) : Calls Tryz.prog 17 #[.int .i64 x, .pointer (some ⟨q, 0, none⟩)] w fun e w' => e = .returned (.bool (!inB L x)) ∧ Below w.heap.size w w' := by
  have h := contains_ints A c L x w hn hL
  generalize inB L x = r at *
  generalize L.length = m at *
  clear hL
  go_enter Tryz.func17, Tryz.ntmps17
  go_wp2_with fail
  refine h.mono ?_
  rintro e w1 ⟨rfl, hb1⟩
  go_wp2_with fail
  go_ret
  exact ⟨rfl, hb1⟩

/-- the box of the order, and the order in a row behind it -/
def OBox (w : World) (q : Nat) (A : Option Addr) (c : Nat) (L : List Int) : Prop := w.heap[q]? = some (.cells #[.slice A L.length c] 27 (0, 0)) ∧ w.ownsRow (q + 1) 3 1 (.slice A L.length c) L.length (mapI L)
theorem OBox.later {w w' : World} {q : Nat} {A : Option Addr} {c : Nat} {L : List Int} (h : OBox w q A c L) (hB : Below w.heap.size w w') : OBox w' q A c L :=
  ⟨(hB.block q (Array.getElem?_eq_some_iff.1 h.1).1).trans h.1, own_later h.2 hB⟩
theorem OBox.cell {w : World} {q : Nat} {A : Option Addr} {c : Nat} {L : List Int} (h : OBox w q A c L) : w.cell? ⟨q, 0, none⟩ = some (.slice A L.length c) := by
  rw [Lib.cell_of_heap h.1]
  rfl
theorem OBox.lt {w : World} {q : Nat} {A : Option Addr} {c : Nat} {L : List Int} (h : OBox w q A c L) : q < w.heap.size := (Array.getElem?_eq_some_iff.1 h.1).1
theorem OBox.frozen {w : World} {q : Nat} {A : Option Addr} {c : Nat} {L : List Int} (h : OBox w q A c L) : w.frozen? ⟨q, 0, none⟩ = false := Lib.frozen_of_heap h.1 0
theorem OBox.ints {w : World} {q : Nat} {A : Option Addr} {c : Nat} {L : List Int} (h : OBox w q A c L) : IntsAt w A c L := by
  obtain ⟨A', c', e, hI⟩ := intT_own h.2
  cases e
  exact hI.at
/-- one more, and the box written anew -/
theorem OBox.put {w w1 : World} {q : Nat} {A A1 : Option Addr} {c c1 : Nat} {L L1 : List Int} {o : Obj} (h : OBox w q A c L) (hown : w1.ownsRow (q + 1) 3 1 (.slice A1 L1.length c1) L1.length (mapI L1)) (hG : (w.alloc o).grownBy w1 (Value.ownBlock (.slice A L.length c))) : OBox (w1.setCell ⟨q, 0, none⟩ (.slice A1 L1.length c1)) q A1 c1 L1 := by
  have hq : w1.heap[q]? = some (.cells #[.slice A L.length c] 27 (0, 0)) := by
    rw [hG.block q (by simp; have := h.lt; omega) fun e => by have := (h.2.lt q e.symm).1; omega, Below.heap_alloc _ _ _ h.lt]
    exact h.1
  refine ⟨?_, ?_⟩
  · simp [World.setCell, Array.getElem?_modify, hq]
  · refine ⟨hown.1, ?_⟩
    rcases hown.2 with h0 | ⟨g, cap, cur, h1, hb, hg, h2⟩
    · exact Or.inl h0
    · refine Or.inr ⟨g, cap, cur, h1, hb, ?_, h2⟩
      simp only [World.setCell, Array.getElem?_modify]
      rw [if_neg (by omega)]
      exact hg
theorem OBox.below {B : Nat} {w0 w w1 : World} {q : Nat} {A : Option Addr} {c : Nat} {L : List Int} {o : Obj} {v : Value} (h : OBox w q A c L) (hB : Below B w0 w) (hBq : B ≤ q) (hG : (w.alloc o).grownBy w1 (Value.ownBlock (.slice A L.length c))) : Below B w0 (w1.setCell ⟨q, 0, none⟩ v) := by
  have h1 : Below B w0 w1 := (hB.alloc (by have := h.lt; omega) o).grown hG (by have := h.lt; simp; omega) (fun j hj => by have := (h.2.lt j hj).1; omega)
  refine ⟨h1.os, h1.tape, h1.output, by simpa [World.setCell] using h1.size, fun k hk => ?_⟩
  rw [← h1.block k hk]
  simp only [World.setCell, Array.getElem?_modify]
  rw [if_neg (by omega)]

set_option maxHeartbeats 4000000 in
theorem order_any (A : Option Addr) (cap : Nat) (xs : List RL) (w : World) (hn : xs.length ≤ 12) (hN : Inn (lR xs)) (hl : ∀ x ∈ xs, x.p.length ≤ 12) (hc : ∀ i : Nat, i < (lR xs).length → cycB (lR xs) i = false) (hR : RowsV w A cap xs) :
    Calls Tryz.prog 11 #[.slice A xs.length cap] w fun e w' => (∃ A' c', e = .returned (.slice A' (ordTo (lR xs) xs.length).length c') ∧ IntsAt w' A' c' (ordTo (lR xs) xs.length)) ∧ Below w.heap.size w w' := by
  obtain ⟨i0, hi0, hz0, hz1, hz2⟩ := info_parts Tryz.infoInt
  have HR : Hid (RowsV w A cap xs) := hR
  have HLen : Hid ((lR xs).length = xs.length) := lR_len xs
  obtain ⟨n, hnn⟩ : ∃ n, xs.length = n := ⟨_, rfl⟩
  have HX : Hid (xs.length = n) := hnn
  have HSn : Hid (∀ k, k < n → ∃ m : Nat, m < n ∧ okN (lR xs) (ordTo (lR xs) k) m = true ∧ (∀ j, j < m → okN (lR xs) (ordTo (lR xs) k) j = false) ∧ ordTo (lR xs) (k + 1) = ordTo (lR xs) k ++ [(m : Int)]) := fun k hk => by
    obtain ⟨m, -, h2, h3, h4, h5⟩ := ord_snoc hN hc (k := k) (by rw [lR_len]; omega)
    exact ⟨m, by rw [lR_len] at h2; omega, h3, h4, h5⟩
  have HOl : Hid (∀ k, k ≤ n → (ordTo (lR xs) k).length = k) := fun k hk => ord_len hN hc k (by rw [lR_len]; omega)
  have HLe : Hid (∀ x ∈ xs, x.p.length ≤ 12) := hl
  rw [hnn] at hn ⊢
  have hnI : (n : Int) ≤ 12 := by omega
  obtain ⟨W, hW⟩ : ∃ W, w.alloc (.cells #[.slice none 0 0] 27) = W := ⟨_, rfl⟩
  have HB0 : Hid (Below w.heap.size w W) := by rw [← hW]; exact (Below.refl _ _).alloc (Nat.le_refl _) _
  have HO0 : Hid (OBox W w.heap.size none 0 (ordTo (lR xs) 0)) := by rw [← hW]; exact ⟨heap_alloc_new _ _, World.ownsRow_nil _ _ _ _⟩
  clear hN hl hc hR hnn
  go_enter Tryz.func11, Tryz.ntmps11
  go_wp2_with fail
  clear hW
  go_loopg [10] n (fun g s10 wr => ∃ (k : Nat) (AO : Option Addr) (cO : Nat), k ≤ n ∧ g = n - k ∧ s10 = .int .i64 k ∧ OBox wr w.heap.size AO cO (ordTo (lR xs) k) ∧ Below w.heap.size w wr)
  case atStart => exact ⟨0, none, 0, Nat.zero_le _, rfl, rfl, HO0.out, HB0.out⟩
  case round =>
    obtain ⟨k, AO, cO, hk, rfl, rfl, hO, hBw⟩ := hrel
    have HO : Hid (OBox wr w.heap.size AO cO (ordTo (lR xs) k)) := hO
    have HBw : Hid (Below w.heap.size w wr) := hBw
    have hlen := HOl.out k hk
    have hcell := hO.cell
    have hlt0 := hO.lt
    rw [hlen] at hcell
    by_cases hlt : k < n
    · have hki : (k : Int) < (n : Int) := by omega
      obtain ⟨m, hmn, hok, hno, hsn⟩ := HSn.out k hlt
      have HNo : Hid (∀ j, j < m → okN (lR xs) (ordTo (lR xs) k) j = false) := hno
      have HOk : Hid (okN (lR xs) (ordTo (lR xs) k) m = true) := hok
      have HSk : Hid (ordTo (lR xs) (k + 1) = ordTo (lR xs) k ++ [(m : Int)]) := hsn
      clear hO hBw hok hno hsn hcell
      go_wp2_with fail
      go_loopg [14] n (fun gg s14 wi => ∃ (j : Nat), j ≤ m ∧ gg = n - j ∧ s14 = .int .i64 j ∧ OBox wi w.heap.size AO cO (ordTo (lR xs) k) ∧ Below w.heap.size w wi)
      case atStart => exact ⟨0, Nat.zero_le _, rfl, rfl, HO.out, HBw.out⟩
      case round =>
        obtain ⟨wj, rfl⟩ : ∃ wj : World, wj = wr := ⟨_, rfl⟩
        obtain ⟨j, hj, rfl, rfl, hO, hBj⟩ := hrel
        have HOj : Hid (OBox wj w.heap.size AO cO (ordTo (lR xs) k)) := hO
        have HBj : Hid (Below w.heap.size w wj) := hBj
        have hjn : j < n := by omega
        have hji : (j : Int) < (n : Int) := by omega
        obtain ⟨hcap, h0 | ⟨b, rfl, hbw, hcl⟩, hrw⟩ := HR.out.later hBj
        · have := HX.out; rw [h0] at this; simp at this; omega
        have cj := hcl j (by rw [HX.out]; exact hjn)
        have hrj := hrw _ (rl_mem (k := j) (by rw [HX.out]; exact hjn))
        have hlj := HLe.out _ (rl_mem (k := j) (by rw [HX.out]; exact hjn))
        rw [HX.out] at hcap
        have HNj : Hid ((lR xs).getD j [] = (xs.getD j noR).p) := lR_at xs j
        obtain ⟨R, hRe⟩ : ∃ R, (xs.getD j noR).p = R := ⟨_, rfl⟩
        rw [hRe] at cj hrj hlj HNj
        generalize (xs.getD j noR).A = Aj at cj hrj
        generalize (xs.getD j noR).c = cjj at cj hrj
        have hwt := fun (x : Int) (w' : World) (hB : Below wj.heap.size wj w') => waits_any x w.heap.size AO cO (ordTo (lR xs) k) w' (by rw [hlen]; omega) (hO.later hB).cell (hO.later hB).ints
        have hw1 := hwt j wj (Below.refl _ _)
        have HWt : Hid (∀ (w' : World), Below wj.heap.size wj w' → Calls Tryz.prog 18 #[.slice Aj R.length cjj, .func (.func 17) #[] #[.pointer (some ⟨w.heap.size, 0, none⟩)]] w' fun e w'' => e = .returned (.bool (anyL (fun x => !inB (ordTo (lR xs) k) x) R)) ∧ Below w'.heap.size w' w'') := fun w' hB =>
          icontf_any 17 #[.pointer (some ⟨w.heap.size, 0, none⟩)] (fun x => !inB (ordTo (lR xs) k) x) ent_waits Aj cjj R w' (by omega) (hrj.later hB).at fun x w'' hB2 => hwt x w'' (onB hB hB2)
        have HVal : Hid (okN (lR xs) (ordTo (lR xs) k) j = (!inB (ordTo (lR xs) k) j && !anyL (fun x => !inB (ordTo (lR xs) k) x) R)) := by
          show _ = _
          unfold okN anyL
          rw [HNj.out, inB_contains]
          congr 1
          rw [List.not_any_eq_all_not]
          congr 1
          funext x
          rw [inB_contains]
          simp
        obtain ⟨r1, hr1⟩ : ∃ r1, inB (ordTo (lR xs) k) j = r1 := ⟨_, rfl⟩
        rw [hr1] at hw1 HVal
        obtain ⟨r2, hr2⟩ : ∃ r2, anyL (fun x => !inB (ordTo (lR xs) k) x) R = r2 := ⟨_, rfl⟩
        rw [hr2] at HVal HWt
        have hcj := hO.cell
        rw [hlen] at hcj
        obtain ⟨r, hr⟩ : ∃ r, R.length = r := ⟨_, rfl⟩
        rw [hr] at cj HWt
        clear hcl hrw hrj hRe hwt hr1 hr2 hr hO hBj
        cases r1
        · cases r2
          · have hjm : j = m := by
              rcases Nat.lt_or_ge j m with h | h
              · have h1 := HNo.out j h
                rw [HVal.out] at h1
                cases h1
              · omega
            subst hjm
            go_wp2_with fail
            refine hw1.mono ?_
            rintro e w1 ⟨rfl, hb1⟩
            have hct := HWt.out w1 hb1
            have HB1 : Hid (Below wj.heap.size wj w1) := hb1
            clear hb1 hw1
            go_wp2_with fail
            refine hct.mono ?_
            rintro e w2 ⟨rfl, hb2⟩
            have HO2 : Hid (OBox w2 w.heap.size AO cO (ordTo (lR xs) k)) := HOj.out.later (onB HB1.out hb2)
            have HB2 : Hid (Below w.heap.size w w2) := onB HBj.out (onB HB1.out hb2)
            clear hb2 hct
            have hc2 := HO2.out.cell
            have hq2 := HO2.out.lt
            rw [hlen] at hc2
            have hO2 := HO2.out.2
            rw [hlen] at hO2
            have hq1 : w.heap.size + 1 ≤ w2.heap.size := hq2
            go_wp2_with (at_builtin; refine wpList_append_own _ rfl _ _ 27 rfl (w.heap.size + 1) 3 i0 (.int .i64 0) 1 8 Tryz.underlying27 hi0 hz0 hz1 hz2 rfl (by decide) _ _ _ rfl (hO2.alloc _) ⟨w2.heap.size, 0, none⟩ 1 1 [.int .i64 j] rfl rfl one_cell one_one (by unfold maxLen; omega) (by omega) (by simp; omega) ?_)
            intro v' w3 hown' hgrow _
            obtain ⟨A3, c3, hv⟩ := own_form hown'
            subst hv
            have hon : w3.ownsRow (w.heap.size + 1) 3 1 (.slice A3 (ordTo (lR xs) (k + 1)).length c3) (ordTo (lR xs) (k + 1)).length (mapI (ordTo (lR xs) (k + 1))) := by
              rw [HSk.out, mapI_snoc, List.length_append, hlen]
              exact hown'
            have hgr : ∃ o, (w2.alloc o).grownBy w3 (Value.ownBlock (.slice AO (ordTo (lR xs) k).length cO)) := ⟨_, by rw [hlen]; exact hgrow⟩
            obtain ⟨ob, hgr⟩ := hgr
            have HO3 : Hid (OBox (w3.setCell ⟨w.heap.size, 0, none⟩ (.slice A3 (k + 1) c3)) w.heap.size A3 c3 (ordTo (lR xs) (k + 1))) := by
              have h := HO2.out.put hon hgr
              rw [HOl.out (k + 1) (by omega)] at h
              exact h
            have HB3 : Hid (Below w.heap.size w (w3.setCell ⟨w.heap.size, 0, none⟩ (.slice A3 (k + 1) c3))) := HO2.out.below HB2.out (Nat.le_refl _) hgr
            have hbq : w3.heap[w.heap.size]? = some (.cells #[.slice AO (ordTo (lR xs) k).length cO] 27 (0, 0)) := by
              rw [hgr.block w.heap.size (by simp; omega) fun e => by have := (HO2.out.2.lt _ e.symm).1; omega, Below.heap_alloc _ _ _ hq2]
              exact HO2.out.1
            have hc3 : w3.cell? ⟨w.heap.size, 0, none⟩ = some (.slice AO k cO) := by rw [Lib.cell_of_heap hbq, hlen]; rfl
            have hf3 : w3.frozen? ⟨w.heap.size, 0, none⟩ = false := Lib.frozen_of_heap hbq 0
            have hq3 : w.heap.size < w3.heap.size := (Array.getElem?_eq_some_iff.1 hbq).1
            clear hown' hgrow hon hgr hbq hO2 hc2
            go_wp2_with fail
            go_roundg (n - (k + 1))
            case measure => omega
            case rel => exact ⟨k + 1, A3, c3, by omega, rfl, by go_num, HO3.out, HB3.out⟩
          · have hjm : j < m := by
              rcases Nat.lt_or_ge j m with h | h
              · exact h
              · have hjm : j = m := by omega
                have h1 := HOk.out
                rw [← hjm, HVal.out] at h1
                cases h1
            go_wp2_with fail
            refine hw1.mono ?_
            rintro e w1 ⟨rfl, hb1⟩
            have hct := HWt.out w1 hb1
            have HB1 : Hid (Below wj.heap.size wj w1) := hb1
            clear hb1 hw1
            go_wp2_with fail
            refine hct.mono ?_
            rintro e w2 ⟨rfl, hb2⟩
            have HO2 : Hid (OBox w2 w.heap.size AO cO (ordTo (lR xs) k)) := HOj.out.later (onB HB1.out hb2)
            have HB2 : Hid (Below w.heap.size w w2) := onB HBj.out (onB HB1.out hb2)
            clear hb2 hct
            go_wp2_with fail
            go_roundg (n - (j + 1))
            case measure => omega
            case rel => exact ⟨j + 1, by omega, rfl, by go_num, HO2.out, HB2.out⟩
        · have hjm : j < m := by
            rcases Nat.lt_or_ge j m with h | h
            · exact h
            · have hjm : j = m := by omega
              have h1 := HOk.out
              rw [← hjm, HVal.out] at h1
              cases h1
          go_wp2_with fail
          refine hw1.mono ?_
          rintro e w1 ⟨rfl, hb1⟩
          have HO1 : Hid (OBox w1 w.heap.size AO cO (ordTo (lR xs) k)) := HOj.out.later hb1
          have HB1 : Hid (Below w.heap.size w w1) := onB HBj.out hb1
          clear hb1 hw1
          go_wp2_with fail
          go_roundg (n - (j + 1))
          case measure => omega
          case rel => exact ⟨j + 1, by omega, rfl, by go_num, HO1.out, HB1.out⟩
    · have hke : k = n := by omega
      subst hke
      have HI : Hid (IntsAt wr AO cO (ordTo (lR xs) k)) := hO.ints
      have HLn : Hid ((ordTo (lR xs) k).length = k) := hlen
      clear hO hBw hlen
      go_wp2_with fail
      go_ret
      exact ⟨⟨AO, cO, by rw [HLn.out]; rfl, HI.out⟩, HBw.out⟩
end Go.Proofs.YtpnfmpbgjkhicafGreatDoor

namespace Go.Proofs.YtpnfmpbgjkhicafGreatDoor
open Go.ChangeShapes Go.WideShapes Go.ChangeAt Go.RowKit
set_option maxRecDepth 20000

def ndTo (d : Dm) (k : Nat) : List (List Int) := (List.range k).map (mNd d)
theorem ndTo_snoc (d : Dm) (k : Nat) : ndTo d (k + 1) = ndTo d k ++ [mNd d k] := by simp [ndTo, List.range_succ]
theorem nd_rows {d : Dm} {xs : List RL} (h : lR xs = ndL d) : ∀ x ∈ xs, x.p.Nodup ∧ x.p.length ≤ d.n := fun x hx => by
  have h1 : x.p ∈ ndL d := by rw [← h]; exact List.mem_map.2 ⟨x, hx, rfl⟩
  obtain ⟨i, -, e⟩ := List.mem_map.1 h1
  rw [← e]
  exact ⟨rise_nodup (mNd_rise d i), mNd_len d i⟩
/-- a world with a dim's own block: its three cells -/
theorem dim_cells {w w1 : World} {d : Dm} {A : Option Addr} {cap : Nat} (hB : Below (ownDim w d A cap 24).heap.size (ownDim w d A cap 24) w1) : w1.cell? ⟨w.heap.size, 0, none⟩ = some (.string d.name) ∧ w1.cell? ⟨w.heap.size, 1, none⟩ = some (.int .i64 d.solve) ∧ w1.cell? ⟨w.heap.size, 2, none⟩ = some (.slice A d.n cap) ∧ w.heap.size < w1.heap.size := by
  have hS := ownDim_size w d A cap 24
  obtain ⟨o0, o1, o2⟩ := ownDim_at w d A cap 24
  have hl : w.heap.size < (ownDim w d A cap 24).heap.size := by omega
  exact ⟨(hB.cell (p := ⟨w.heap.size, 0, none⟩) hl).trans o0, (hB.cell (p := ⟨w.heap.size, 1, none⟩) hl).trans o1, (hB.cell (p := ⟨w.heap.size, 2, none⟩) hl).trans o2, by have := hB.size; omega⟩

set_option maxHeartbeats 4000000 in
theorem rneeds_any (d : Dm) (A : Option Addr) (cap : Nat) (w : World) (hM : MemsV w A cap d.n d.mem) :
    Calls Tryz.prog 10 #[dimV d A cap] w fun e w' => (∃ A' c' xs, e = .returned (.tuple #[.slice A' xs.length c', .int .i64 (rErr d).1, errV (rErr d).2]) ∧ RowsV w' A' c' xs ∧ ((rErr d).2 = 0 → lR xs = ndL d)) ∧ Below w.heap.size w w' := by
  have hB0 := ownDim_below w d A cap 24
  have hck := dcheck_any d A cap (ownDim w d A cap 24) (hM.later hB0)
  have HM : Hid (MemsV w A cap d.n d.mem) := hM
  have HDC : Hid (∀ w1, Below (ownDim w d A cap 24).heap.size (ownDim w d A cap 24) w1 → w1.cell? ⟨w.heap.size, 0, none⟩ = some (.string d.name) ∧ w1.cell? ⟨w.heap.size, 1, none⟩ = some (.int .i64 d.solve) ∧ w1.cell? ⟨w.heap.size, 2, none⟩ = some (.slice A d.n cap) ∧ w.heap.size < w1.heap.size) := fun w1 h => dim_cells h
  unfold dimV at hck ⊢
  obtain ⟨W, hW⟩ : ∃ W, ownDim w d A cap 24 = W := ⟨_, rfl⟩
  rw [hW] at hB0 hck HDC
  unfold ownDim at hW
  have HB0 : Hid (Below w.heap.size w W) := hB0
  clear hM hB0
  by_cases hd : (dimErr d).2 = 0
  case neg =>
    rw [re0 hd]
    rw [errV_some hd] at hck ⊢
    have HE : Hid ((dimErr d).2 ≠ 0) := hd
    generalize (dimErr d).1 = x at hck ⊢
    generalize (dimErr d).2 = c at hck HE ⊢
    obtain ⟨d0, d1, d2, hqW⟩ := HDC.out W (Below.refl _ _)
    clear hd
    go_enter Tryz.func10, Tryz.ntmps10
    go_wp2_with fail
    refine hck.mono ?_
    rintro e w1 ⟨rfl, hb1⟩
    go_wp2_with fail
    go_returns
    exact ⟨⟨none, 0, [], rfl, RowsV.nil _ _ _, fun e => absurd e HE.out⟩, onB HB0.out hb1⟩
  obtain ⟨hd1, hdn, hd12, -⟩ := dimErr_right hd
  have HD : Hid ((dimErr d).2 = 0) := hd
  rw [hd, hd1, errV_zero] at hck
  obtain ⟨i0, hi0, hz0, hz1, hz2⟩ := info_parts Tryz.infoRow
  obtain ⟨n, hn⟩ : ∃ n, d.n = n := ⟨_, rfl⟩
  have HNn : Hid (d.n = n) := hn
  rw [hn] at hck hW HDC hdn hd12 ⊢
  have hmk : ∀ w', (Instr.makeSlice 40 (.int .i64 0) (.int .i64 (n : Int))).run Tryz.prog w' = .ok (.slice (some ⟨w'.heap.size, 0, none⟩) 0 n) (w'.alloc (.cells (madeCells #[.slice none 0 0] n) 27)) := fun w' => by
    have h := run_make (P := Tryz.prog) w' 40 27 i0 _ Tryz.underlying40 hi0 hz0 .i64 .i64 0 n (Int.le_refl _) (by omega) (by rw [hz2]; omega) (by omega)
    simp only [Int.toNat_natCast, hz1, Nat.mul_one] at h
    exact h
  have hnI : (n : Int) ≤ 12 := by omega
  obtain ⟨d0, d1, d2, hqW⟩ := HDC.out W (Below.refl _ _)
  clear hd hn hd1
  go_enter Tryz.func10, Tryz.ntmps10
  go_wp2_with fail
  refine hck.mono ?_
  rintro e w1 ⟨rfl, hb1⟩
  obtain ⟨c0, c1, c2, hq1⟩ := HDC.out w1 hb1
  have HB1 : Hid (Below W.heap.size W w1) := hb1
  clear hb1 hck c0 c1 d0 d1 d2 hW
  obtain ⟨W1, hW1⟩ : ∃ W1, w1.alloc (.cells (madeCells #[.slice none 0 0] n) 27) = W1 := ⟨_, rfl⟩
  have hBW1 : Below w1.heap.size w1 W1 := by rw [← hW1]; exact (Below.refl _ _).alloc (Nat.le_refl _) _
  have HBW1 : Hid (Below w1.heap.size w1 W1) := hBW1
  have HOW1 : Hid (W1.ownsRow w1.heap.size 27 1 (.slice (some ⟨w1.heap.size, 0, none⟩) 0 n) 0 []) := by
    rw [← hW1]
    exact World.ownsRow_made w1 _ n (Nat.le_refl _) (by unfold maxLen; omega) (by simp [madeCells])
  obtain ⟨-, -, c2', hq1'⟩ := HDC.out W1 (onB HB1.out hBW1)
  clear hBW1
  go_wp2_with fail
  clear hW1 hmk
  go_loopg [7, 28] n (fun g s7 s28 wr => ∃ (k : Nat) (xs : List RL), k ≤ n ∧ g = n - k ∧ s28 = .int .i64 k ∧ Hid (lR xs = ndTo d k ∧ (∀ j, j < k → mErr d j = 0) ∧ ∀ x ∈ xs, IntT wr x.A x.c x.p) ∧ wr.ownsRow w1.heap.size 27 1 s7 xs.length (cellsR xs) ∧ Below w1.heap.size w1 wr)
  case atStart => exact ⟨0, [], Nat.zero_le _, rfl, rfl, (⟨rfl, fun j hj => absurd hj (Nat.not_lt_zero _), fun x hx => by cases hx⟩ : _ ∧ _ ∧ _), HOW1.out, HBW1.out⟩
  case round =>
    obtain ⟨k, xs, hk, rfl, rfl, HX, hO, hBw⟩ := hrel
    have HO : Hid (wr.ownsRow w1.heap.size 27 1 u7 xs.length (cellsR xs)) := hO
    have HBw : Hid (Below w1.heap.size w1 wr) := hBw
    have HXl : Hid (xs.length = k) := by
      have h := HX.out.1
      show _ = _
      rw [← lR_len, h]
      simp [ndTo]
    obtain ⟨c0, c1, c2, hq⟩ := HDC.out wr (onB HB1.out hBw)
    by_cases hlt : k < n
    · have hki : (k : Int) < (n : Int) := by omega
      have hme := rmember_any d A cap k wr HD.out (by rw [HNn.out]; exact hlt) (HM.out.later (onB HB0.out (onB HB1.out hBw)))
      unfold dimV at hme
      rw [HNn.out] at hme
      by_cases he : mErr d k = 0
      · rw [lst_ok he, he, errV_zero] at hme
        have HE : Hid (mErr d k = 0) := he
        obtain ⟨r, hr⟩ : ∃ r, (mNd d k).length = r := ⟨_, rfl⟩
        have HR : Hid ((mNd d k).length = r) := hr
        rw [hr] at hme
        clear hO hBw he hr
        go_wp2_with fail
        refine hme.mono ?_
        rintro e w2 ⟨⟨A2, c2', rfl, hT⟩, hb2⟩
        have HB2 : Hid (Below w1.heap.size w1 w2) := onB HBw.out hb2
        have HO2 : Hid (w2.ownsRow w1.heap.size 27 1 u7 k (cellsR xs)) := by
          have h := own_later HO.out hb2
          rw [HXl.out] at h
          exact h
        have HT2 : Hid (IntT w2 A2 c2' (mNd d k)) := hT
        have HX2 : Hid (∀ x ∈ xs, IntT w2 x.A x.c x.p) := fun x hx => (HX.out.2.2 x hx).later hb2
        have hsz := HB2.out.size
        clear hT hb2 hme c0 c1 c2
        go_wp2_with (at_builtin; refine wpList_append_own _ rfl _ _ 40 rfl w1.heap.size 27 i0 (.slice none 0 0) 1 24 Tryz.underlying40 hi0 hz0 hz1 hz2 rfl (by decide) _ _ _ rfl (HO2.out.alloc _) ⟨w2.heap.size, 0, none⟩ 1 1 [.slice A2 r c2'] rfl rfl one_cell (by intro u hu; simp at hu; subst hu; rfl) (by unfold maxLen; omega) (by omega) (by simp; omega) ?_)
        intro v' w3 hown' hgrow _
        have HB3 : Hid (Below w1.heap.size w1 w3) := grown_own HB2.out HO2.out hgrow
        have HX3 : Hid (lR (xs ++ [(⟨mNd d k, A2, c2'⟩ : RL)]) = ndTo d (k + 1) ∧ (∀ j, j < k + 1 → mErr d j = 0) ∧ ∀ x ∈ xs ++ [(⟨mNd d k, A2, c2'⟩ : RL)], IntT w3 x.A x.c x.p) := by
          refine ⟨by rw [lR_append, HX.out.1, ndTo_snoc]; rfl, fun j hj => ?_, fun x hx => ?_⟩
          · by_cases e : j = k
            · rw [e]; exact HE.out
            · exact HX.out.2.1 j (by omega)
          · rcases List.mem_append.1 hx with hx | hx
            · exact ((HX2.out x hx).later (by go_grown)).row (HO2.out.alloc _) hgrow
            · rw [List.mem_singleton.1 hx]
              exact (HT2.out.later (by go_grown)).row (HO2.out.alloc _) hgrow
        have HO3 : Hid (w3.ownsRow w1.heap.size 27 1 v' (xs ++ [(⟨mNd d k, A2, c2'⟩ : RL)]).length (cellsR (xs ++ [(⟨mNd d k, A2, c2'⟩ : RL)]))) := by
          show World.ownsRow ..
          rw [cellsR_append, List.length_append, HXl.out]
          have e : cellsR [(⟨mNd d k, A2, c2'⟩ : RL)] = [.slice A2 r c2'] := by simp [cellsR, HR.out]
          rw [e]
          exact hown'
        clear hown' hgrow
        go_wp2_with fail
        go_roundg (n - (k + 1))
        case measure => omega
        case rel => exact ⟨k + 1, _, by omega, rfl, by go_num, HX3, HO3.out, HB3.out⟩
      · have HRe : Hid (rErr d = ((k : Int), mErr d k)) := re1 HD.out (i := k) (by rw [HNn.out]; exact hlt) he HX.out.2.1
        have HE : Hid (mErr d k ≠ 0) := he
        rw [lst_bad he, errV_some he] at hme
        generalize mErr d k = ec at hme HE HRe
        clear hO hBw he
        go_wp2_with fail
        refine hme.mono ?_
        rintro e w2 ⟨⟨A2, c2', rfl, -⟩, hb2⟩
        go_wp2_with fail
        go_returns
        rw [HRe.out]
        exact ⟨⟨none, 0, [], by rw [errV_some HE.out]; rfl, RowsV.nil _ _ _, fun e => absurd e HE.out⟩, onB HB0.out (onB HB1.out (onB HBw.out hb2))⟩
    · have hke : k = n := by omega
      subst hke
      have HL : Hid (lR xs = ndL d) := by show _ = _; rw [HX.out.1, ← HNn.out]; rfl
      have HAll : Hid (∀ j, j < d.n → mErr d j = 0) := by rw [HNn.out]; exact HX.out.2.1
      obtain ⟨Ar, cr, hv, hRv⟩ := rows_own hO HX.out.2.2
      subst hv
      have HRv : Hid (RowsV wr Ar cr xs) := hRv
      have HBa : Hid (Below w.heap.size w wr) := onB HB0.out (onB HB1.out hBw)
      clear hO hBw hRv c0 c1 c2 HDC
      rw [HXl.out]
      obtain ⟨w4, rfl⟩ : ∃ w4 : World, w4 = wr := ⟨_, rfl⟩
      go_wp2_with fail
      go_loopg [48] k (fun g s48 wi => ∃ (j : Nat), j ≤ k ∧ g = k - j ∧ s48 = .int .i64 j ∧ Hid (∀ t, t < j → cycB (ndL d) t = false) ∧ Below w4.heap.size w4 wi)
      case atStart => exact ⟨0, Nat.zero_le _, rfl, rfl, (fun t ht => absurd ht (Nat.not_lt_zero _) : ∀ t, t < 0 → _), Below.refl _ _⟩
      case round =>
        obtain ⟨j, hj, rfl, rfl, HCy, hBj⟩ := hrel
        have HBj : Hid (Below w4.heap.size w4 wr) := hBj
        by_cases hlt : j < k
        · have hji : (j : Int) < (k : Int) := by omega
          have hrc := reach_any Ar cr xs j wr (by rw [HXl.out]; exact hd12) (by rw [HXl.out]; exact hlt) (by rw [HL.out]; exact ndL_inn d) (fun x hx => by
            have h := nd_rows HL.out x hx
            rw [HNn.out] at h
            exact ⟨h.1, by omega⟩) (HRv.out.later hBj)
          rw [HXl.out, HL.out] at hrc
          clear hBj
          go_wp2_with fail
          refine hrc.mono ?_
          rintro e w5 ⟨⟨A5, c5, R, rfl, hI5, hR12, hRr⟩, hb5⟩
          have hct := contains_ints A5 c5 R j w5 hR12 hI5
          have HB5 : Hid (Below w4.heap.size w4 w5) := onB HBj.out hb5
          have HIn : Hid (inB R j = cycB (ndL d) j) := by
            show _ = _
            rw [Bool.eq_iff_iff, cyc_iff, ← hRr]
            unfold inB
            exact decide_eq_true_iff
          rw [HIn.out] at hct
          generalize R.length = m at hct
          clear hrc hb5 hI5 hRr hR12
          cases hcy : cycB (ndL d) j
          · rw [hcy] at hct
            have HCy2 : Hid (∀ t, t < j + 1 → cycB (ndL d) t = false) := fun t ht => by
              by_cases e : t = j
              · rw [e]; exact hcy
              · exact HCy.out t (by omega)
            clear hcy
            go_wp2_with fail
            refine hct.mono ?_
            rintro e w6 ⟨rfl, hb6⟩
            have HB6 : Hid (Below w4.heap.size w4 w6) := onB HB5.out hb6
            clear hb6 hct
            go_wp2_with fail
            go_roundg (k - (j + 1))
            case measure => omega
            case rel => exact ⟨j + 1, by omega, rfl, by go_num, HCy2, HB6.out⟩
          · rw [hcy] at hct
            have HRe : Hid (rErr d = ((j : Int), 8)) := re2 HD.out HAll.out (by rw [HNn.out]; exact hlt) hcy HCy.out
            clear hcy
            go_wp2_with fail
            refine hct.mono ?_
            rintro e w6 ⟨rfl, hb6⟩
            have HB6 : Hid (Below w4.heap.size w4 w6) := onB HB5.out hb6
            clear hb6 hct
            go_wp2_with fail
            go_returns
            rw [HRe.out]
            exact ⟨⟨none, 0, [], rfl, RowsV.nil _ _ _, fun e => by cases e⟩, onB HBa.out HB6.out⟩
        · have hje : j = k := by omega
          subst hje
          have HRe : Hid (rErr d = (-1, 0)) := re3 HD.out HAll.out (by rw [HNn.out]; exact HCy.out)
          clear hBj
          go_wp2_with fail
          go_returns
          rw [HRe.out]
          exact ⟨⟨Ar, cr, xs, by rw [HXl.out]; rfl, HRv.out.later HBj.out, fun _ => HL.out⟩, onB HBa.out HBj.out⟩
end Go.Proofs.YtpnfmpbgjkhicafGreatDoor

namespace Go.Proofs.YtpnfmpbgjkhicafGreatDoor
open Go.ChangeShapes Go.WideShapes Go.ChangeAt Go.RowKit
set_option maxRecDepth 20000

theorem rcheck_any (d : Dm) (A : Option Addr) (cap : Nat) (w : World) (hM : MemsV w A cap d.n d.mem) : Calls Tryz.prog 6 #[dimV d A cap] w fun e w' => e = .returned (.tuple #[.int .i64 (rErr d).1, errV (rErr d).2]) ∧ Below w.heap.size w w' := by
  have hB0 := ownDim_below w d A cap 24
  have hn := rneeds_any d A cap (ownDim w d A cap 24) (hM.later hB0)
  obtain ⟨d0, d1, d2, hqW⟩ := dim_cells (w := w) (d := d) (A := A) (cap := cap) (Below.refl _ _)
  have HB0 : Hid (Below w.heap.size w (ownDim w d A cap 24)) := hB0
  unfold dimV at hn ⊢
  obtain ⟨W, hW⟩ : ∃ W, ownDim w d A cap 24 = W := ⟨_, rfl⟩
  rw [hW] at d0 d1 d2 hqW HB0 hn
  unfold ownDim at hW
  generalize errV (rErr d).2 = ev at hn ⊢
  generalize (rErr d).1 = x at hn ⊢
  clear hM hB0
  go_enter Tryz.func6, Tryz.ntmps6
  go_wp2_with fail
  refine hn.mono ?_
  rintro e w1 ⟨⟨A1, c1, xs, rfl, -⟩, hb1⟩
  go_wp2_with fail
  go_ret2
  exact ⟨rfl, onB HB0.out hb1⟩

/-- what is wrong with a member's needs, and what they are -/
noncomputable def nErr (d : Dm) (i : Int) : Int := if (rErr d).2 ≠ 0 then (rErr d).2 else if i < 0 ∨ (d.n : Int) ≤ i then 1 else 0
noncomputable def nLst (d : Dm) (i : Int) : List Int := if nErr d i = 0 then mNd d i.toNat else []
theorem ne0 {d : Dm} {i : Int} (h : (rErr d).2 ≠ 0) : nErr d i = (rErr d).2 ∧ nLst d i = [] := by
  have e : nErr d i = (rErr d).2 := by unfold nErr; rw [if_pos h]
  exact ⟨e, by unfold nLst; rw [e, if_neg h]⟩
theorem ne1 {d : Dm} {i : Int} (h : (rErr d).2 = 0) (hi : i < 0 ∨ (d.n : Int) ≤ i) : nErr d i = 1 ∧ nLst d i = [] := by
  have e : nErr d i = 1 := by unfold nErr; rw [if_neg (by simpa using h), if_pos hi]
  exact ⟨e, by unfold nLst; rw [e, if_neg (by decide)]⟩
theorem ne2 {d : Dm} {k : Nat} (h : (rErr d).2 = 0) (hk : k < d.n) : nErr d k = 0 ∧ nLst d k = mNd d k := by
  have e : nErr d k = 0 := by unfold nErr; rw [if_neg (by simpa using h), if_neg (by omega)]
  exact ⟨e, by unfold nLst; rw [if_pos e, Int.toNat_natCast]⟩

set_option maxHeartbeats 2000000 in
theorem rneed_any (d : Dm) (A : Option Addr) (cap : Nat) (i : Int) (w : World) (hM : MemsV w A cap d.n d.mem) : Calls Tryz.prog 7 #[dimV d A cap, .int .i64 i] w fun e w' => (∃ A' c', e = .returned (.tuple #[.slice A' (nLst d i).length c', errV (nErr d i)]) ∧ IntT w' A' c' (nLst d i)) ∧ Below w.heap.size w w' := by
  have hB0 := ownDim_below w d A cap 24
  have hn := rneeds_any d A cap (ownDim w d A cap 24) (hM.later hB0)
  obtain ⟨d0, d1, d2, hqW⟩ := dim_cells (w := w) (d := d) (A := A) (cap := cap) (Below.refl _ _)
  have HB0 : Hid (Below w.heap.size w (ownDim w d A cap 24)) := hB0
  unfold dimV at hn ⊢
  obtain ⟨W, hW⟩ : ∃ W, ownDim w d A cap 24 = W := ⟨_, rfl⟩
  rw [hW] at d0 d1 d2 hqW HB0 hn
  unfold ownDim at hW
  clear hM hB0
  by_cases he : (rErr d).2 = 0
  · obtain ⟨hd, -, -, h1⟩ := rErr_right he
    obtain ⟨-, -, hd12, -⟩ := dimErr_right hd
    rw [he, h1, errV_zero] at hn
    have HE : Hid ((rErr d).2 = 0) := he
    obtain ⟨n, hnn⟩ : ∃ n, d.n = n := ⟨_, rfl⟩
    have HN : Hid (d.n = n) := hnn
    rw [hnn] at d2 hd12 hW hn ⊢
    have hnI : (n : Int) ≤ 12 := by omega
    clear he hd h1 hnn
    go_enter Tryz.func7, Tryz.ntmps7
    go_wp2_with fail
    refine hn.mono ?_
    rintro e w1 ⟨⟨A1, c1, xs, rfl, hR, hL⟩, hb1⟩
    have hL' := hL trivial
    have hxl : xs.length = n := by rw [← lR_len, hL', ndL_len]; exact HN.out
    have HB1 : Hid (Below w.heap.size w w1) := onB HB0.out hb1
    have HRx : Hid (RowsV w1 A1 c1 xs ∧ lR xs = ndL d ∧ xs.length = n) := ⟨hR, hL', hxl⟩
    rw [hxl]
    clear hR hL hL' hxl hb1 hn d0 d1 d2
    by_cases h0 : i < 0
    · obtain ⟨e1, e2⟩ := ne1 HE.out (Or.inl h0)
      have HE1 : Hid (nErr d i = 1) := e1
      have HE2 : Hid (nLst d i = []) := e2
      clear e1 e2
      go_wp2_with fail
      go_ret2
      rw [HE1.out, HE2.out]
      exact ⟨⟨none, 0, rfl, IntT.nil _ _ _ (by omega)⟩, HB1.out⟩
    · have h0' : decide (i < 0) = false := decide_eq_false h0
      by_cases h2 : (n : Int) ≤ i
      · obtain ⟨e1, e2⟩ := ne1 HE.out (Or.inr (by rw [HN.out]; exact h2))
        have HE1 : Hid (nErr d i = 1) := e1
        have HE2 : Hid (nLst d i = []) := e2
        clear e1 e2
        go_wp2_with fail
        go_ret2
        rw [HE1.out, HE2.out]
        exact ⟨⟨none, 0, rfl, IntT.nil _ _ _ (by omega)⟩, HB1.out⟩
      · obtain ⟨k, rfl⟩ : ∃ k : Nat, i = k := ⟨i.toNat, by omega⟩
        have hkn : k < n := by omega
        have hki : (k : Int) < (n : Int) := by omega
        obtain ⟨e1, e2⟩ := ne2 HE.out (k := k) (by rw [HN.out]; exact hkn)
        have HE1 : Hid (nErr d k = 0) := e1
        obtain ⟨⟨hcap, hx0 | ⟨b, rfl, hbw, hcl⟩, hrw⟩, hLx, hxl⟩ := HRx.out
        · rw [hx0] at hxl; simp at hxl; omega
        have ck := hcl k (by omega)
        have hTk := hrw _ (rl_mem (k := k) (by omega))
        have HPk : Hid ((xs.getD k noR).p = nLst d k) := by
          show _ = _
          rw [e2, ← lR_at, hLx, ndL_at (by rw [HN.out]; exact hkn)]
        rw [HPk.out] at ck hTk
        generalize (xs.getD k noR).A = Ak at ck hTk
        generalize (xs.getD k noR).c = cck at ck hTk
        have HTk : Hid (IntT w1 Ak cck (nLst d k)) := hTk
        clear hcl hrw hLx e1 e2 hTk h0
        go_wp2_with fail
        go_ret2
        rw [HE1.out]
        exact ⟨⟨Ak, cck, rfl, HTk.out⟩, HB1.out⟩
  · obtain ⟨e1, e2⟩ := ne0 (i := i) he
    rw [e1, e2]
    rw [errV_some he] at hn ⊢
    generalize (rErr d).2 = ec at hn ⊢
    generalize (rErr d).1 = x at hn
    clear he e1 e2
    go_enter Tryz.func7, Tryz.ntmps7
    go_wp2_with fail
    refine hn.mono ?_
    rintro e w1 ⟨⟨A1, c1, xs, rfl, -⟩, hb1⟩
    go_wp2_with fail
    go_ret2
    exact ⟨⟨none, 0, rfl, IntT.nil _ _ _ (by omega)⟩, onB HB0.out hb1⟩

noncomputable def oLst (d : Dm) : List Int := if (rErr d).2 = 0 then ordTo (ndL d) d.n else []
set_option maxHeartbeats 2000000 in
theorem rorder_any (d : Dm) (A : Option Addr) (cap : Nat) (w : World) (hM : MemsV w A cap d.n d.mem) : Calls Tryz.prog 5 #[dimV d A cap] w fun e w' => (∃ A' c', e = .returned (.tuple #[.slice A' (oLst d).length c', errV (rErr d).2]) ∧ IntsAt w' A' c' (oLst d)) ∧ Below w.heap.size w w' := by
  have hB0 := ownDim_below w d A cap 24
  have hn := rneeds_any d A cap (ownDim w d A cap 24) (hM.later hB0)
  obtain ⟨d0, d1, d2, hqW⟩ := dim_cells (w := w) (d := d) (A := A) (cap := cap) (Below.refl _ _)
  have HB0 : Hid (Below w.heap.size w (ownDim w d A cap 24)) := hB0
  unfold dimV at hn ⊢
  obtain ⟨W, hW⟩ : ∃ W, ownDim w d A cap 24 = W := ⟨_, rfl⟩
  rw [hW] at d0 d1 d2 hqW HB0 hn
  unfold ownDim at hW
  clear hM hB0
  by_cases he : (rErr d).2 = 0
  · obtain ⟨hd, -, hcy, h1⟩ := rErr_right he
    obtain ⟨-, -, hd12, -⟩ := dimErr_right hd
    have HOl : Hid (oLst d = ordTo (ndL d) d.n) := by show _ = _; unfold oLst; rw [if_pos he]
    rw [he, h1, errV_zero] at hn
    rw [he, errV_zero]
    have HE : Hid ((rErr d).2 = 0) := he
    have HAc : Hid (∀ i : Nat, i < (ndL d).length → cycB (ndL d) i = false) := rErr_acyc he
    have HD12 : Hid (d.n ≤ 12) := hd12
    clear he hd h1 hcy hd12
    go_enter Tryz.func5, Tryz.ntmps5
    go_wp2_with fail
    refine hn.mono ?_
    rintro e w1 ⟨⟨A1, c1, xs, rfl, hR, hL⟩, hb1⟩
    have hL' := hL trivial
    have hxl : xs.length = d.n := by rw [← lR_len, hL', ndL_len]
    have HB1 : Hid (Below w.heap.size w w1) := onB HB0.out hb1
    have hor := order_any A1 c1 xs w1 (by rw [hxl]; exact HD12.out) (by rw [hL']; exact ndL_inn d) (fun x hx => by have h := (nd_rows hL' x hx).2; have := HD12.out; omega) (by rw [hL']; exact HAc.out) hR
    rw [hL', hxl, ← HOl.out] at hor
    rw [hxl]
    generalize d.n = n at hor
    clear hR hL hL' hxl hb1 hn d0 d1 d2
    go_wp2_with fail
    refine hor.mono ?_
    rintro e w2 ⟨⟨A2, c2, rfl, hI⟩, hb2⟩
    go_wp2_with fail
    go_ret2
    exact ⟨⟨A2, c2, rfl, hI⟩, onB HB1.out hb2⟩
  · have e2 : oLst d = [] := by unfold oLst; rw [if_neg he]
    rw [e2]
    rw [errV_some he] at hn ⊢
    generalize (rErr d).2 = ec at hn ⊢
    generalize (rErr d).1 = x at hn
    clear he e2
    go_enter Tryz.func5, Tryz.ntmps5
    go_wp2_with fail
    refine hn.mono ?_
    rintro e w1 ⟨⟨A1, c1, xs, rfl, -⟩, hb1⟩
    go_wp2_with fail
    go_ret2
    exact ⟨⟨none, 0, rfl, IntsAt.nil _ _ _⟩, onB HB0.out hb1⟩
end Go.Proofs.YtpnfmpbgjkhicafGreatDoor

namespace Go.Proofs.YtpnfmpbgjkhicafGreatDoor
open Go.ChangeShapes Go.WideShapes Go.ChangeAt Go.RowKit
set_option maxRecDepth 20000

def omA : Mem := ⟨⟨#[98]⟩, -1, 0, ⟨#[99, 43, 49]⟩⟩
def omB : Mem := ⟨⟨#[99]⟩, -1, 0, ⟨#[]⟩⟩
def oneM (i : Nat) : Mem := if i = 0 then omA else omB
def oneDm : Dm := ⟨⟨#[97]⟩, 0, 2, oneM⟩
theorem one_dim : dimErr oneDm = (-1, 0) := by decide +kernel
theorem one_m0 : mErr oneDm 0 = 0 := by decide +kernel
theorem one_m1 : mErr oneDm 1 = 0 := by decide +kernel
theorem one_nd : ndL oneDm = [[1], []] := by decide +kernel
theorem one_ord : ordTo [[1], []] 2 = [1, 0] := by decide +kernel
/-- where all that one needs stands behind it nobody needs itself -/
theorem up_acyc {N : List (List Int)} (h : ∀ (a : Int), ∀ x ∈ rowN N a, a < x) (i : Nat) : cycB N i = false := by
  rw [cyc_not]
  intro hr
  have hlt : ∀ {a b : Int}, Rch N a b → a < b := by
    intro a b hab
    induction hab with
    | one hx => exact h _ _ hx
    | more hx _ ih => have := h _ _ hx; omega
  have := hlt hr
  omega
theorem one_acyc (i : Nat) : cycB (ndL oneDm) i = false := by
  rw [one_nd]
  refine up_acyc (fun a x hx => ?_) i
  unfold rowN at hx
  rcases h : a.toNat with _ | _ | k
  · rw [h] at hx
    simp at hx
    omega
  · rw [h] at hx
    simp at hx
  · rw [h] at hx
    simp at hx
theorem one_err : rErr oneDm = (-1, 0) := re3 (by rw [one_dim]) (fun j hj => by
  have hj2 : j < 2 := hj
  rcases j with _ | _ | j
  · exact one_m0
  · exact one_m1
  · omega) fun j _ => one_acyc j
theorem one_lst : oLst oneDm = [1, 0] := by
  unfold oLst
  rw [if_pos (by rw [one_err]), one_nd]
  exact one_ord

/-- the memory with that dim behind another's own block -/
def oneW (w : World) : World := (w.alloc (.cells #[.string ⟨#[98]⟩, .int .i64 (-1), .int .i64 0, .string ⟨#[99, 43, 49]⟩, .string ⟨#[99]⟩, .int .i64 (-1), .int .i64 0, .string ⟨#[]⟩] 26)).alloc (.cells #[.string ⟨#[97]⟩, .int .i64 0, .slice (some ⟨w.heap.size, 0, none⟩) 2 2] 24)
theorem oneW_below (w : World) : Below w.heap.size w (oneW w) := by unfold oneW; go_grown
theorem oneW_mems (w : World) : MemsV (oneW w) (some ⟨w.heap.size, 0, none⟩) 2 oneDm.n oneDm.mem := by
  have h : (oneW w).heap[w.heap.size]? = some (.cells #[.string ⟨#[98]⟩, .int .i64 (-1), .int .i64 0, .string ⟨#[99, 43, 49]⟩, .string ⟨#[99]⟩, .int .i64 (-1), .int .i64 0, .string ⟨#[]⟩] 26 (0, 0)) := by
    unfold oneW
    rw [Below.heap_alloc _ _ _ (by simp)]
    exact heap_alloc_new _ _
  refine ⟨Nat.le_refl _, Or.inr ⟨w.heap.size, 0, rfl, (Array.getElem?_eq_some_iff.1 h).1, fun i hi => ?_⟩⟩
  have hi2 : i < 2 := hi
  rcases i with _ | _ | i
  · exact ⟨(Lib.cell_of_heap h 0).trans rfl, (Lib.cell_of_heap h 1).trans rfl, (Lib.cell_of_heap h 2).trans rfl, (Lib.cell_of_heap h 3).trans rfl⟩
  · exact ⟨(Lib.cell_of_heap h 4).trans rfl, (Lib.cell_of_heap h 5).trans rfl, (Lib.cell_of_heap h 6).trans rfl, (Lib.cell_of_heap h 7).trans rfl⟩
  · omega
theorem oneW_cells (w : World) : (oneW w).cell? ⟨w.heap.size + 1, 0, none⟩ = some (.string ⟨#[97]⟩) ∧ (oneW w).cell? ⟨w.heap.size + 1, 1, none⟩ = some (.int .i64 0) ∧ (oneW w).cell? ⟨w.heap.size + 1, 2, none⟩ = some (.slice (some ⟨w.heap.size, 0, none⟩) 2 2) ∧ (oneW w).heap.size = w.heap.size + 2 := by
  have h : (oneW w).heap[w.heap.size + 1]? = some (.cells #[.string ⟨#[97]⟩, .int .i64 0, .slice (some ⟨w.heap.size, 0, none⟩) 2 2] 24 (0, 0)) := by
    unfold oneW
    rw [← show (w.alloc (.cells #[.string ⟨#[98]⟩, .int .i64 (-1), .int .i64 0, .string ⟨#[99, 43, 49]⟩, .string ⟨#[99]⟩, .int .i64 (-1), .int .i64 0, .string ⟨#[]⟩] 26)).heap.size = w.heap.size + 1 by simp]
    exact heap_alloc_new _ _
  exact ⟨(Lib.cell_of_heap h 0).trans rfl, (Lib.cell_of_heap h 1).trans rfl, (Lib.cell_of_heap h 2).trans rfl, by unfold oneW; simp⟩
end Go.Proofs.YtpnfmpbgjkhicafGreatDoor
