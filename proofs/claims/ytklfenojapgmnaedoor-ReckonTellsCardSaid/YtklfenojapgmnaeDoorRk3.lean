/-
  What one and comes of package reckon answer: node by node what is told, by whoever tells what a name is.
-/
import Derived.Test.YtklfenojapgmnaeDoorRk2
import Derived.Test.YtklfenojapgmnaeDoorFmN
import Derived.Test.YtklfenojapgmnaeDoorCells6
namespace Go.Proofs.YtklfenojapgmnaeDoor
open Go.ChangeShapes Go.WideShapes Go.ChangeAt Go.RowKit
set_option maxRecDepth 20000

/-- whoever tells what a name is -/
def AskN (fn q r : Nat) (w : World) (N : List ByteArray) (C : List (Int × Int)) : Prop := ∀ (x : ByteArray) (w' : World), Below w.heap.size w w' → Calls Tryd.prog fn #[.string x, .pointer (some ⟨q, 0, none⟩), .pointer (some ⟨r, 0, none⟩)] w' fun e w'' => e = .returned (.tuple #[.agg #[.int .i64 (isC N C x).1, .int .i64 (isC N C x).2], errV (isE N x)]) ∧ Below w'.heap.size w' w''
def oneC (N : List ByteArray) (C T : List (Int × Int)) (x : Nd) : Int × Int := if x.op = 1 then ofP x.n else if x.op = 2 then isC N C x.name else opP x.op (T.getD x.left.toNat noC) (T.getD x.right.toNat noC)
def oneE (N : List ByteArray) (x : Nd) : Int := if x.op = 2 then isE N x.name else 0
theorem one_num {N : List ByteArray} {C T : List (Int × Int)} {x : Nd} (h : x.op = 1) : oneC N C T x = ofP x.n ∧ oneE N x = 0 := by unfold oneC oneE; rw [if_pos h, if_neg (by omega)]; exact ⟨rfl, rfl⟩
theorem one_ref {N : List ByteArray} {C T : List (Int × Int)} {x : Nd} (h : x.op = 2) : oneC N C T x = isC N C x.name ∧ oneE N x = isE N x.name := by unfold oneC oneE; rw [if_neg (by omega), if_pos h, if_pos h]; exact ⟨rfl, rfl⟩
theorem one_bin {N : List ByteArray} {C T : List (Int × Int)} {x : Nd} (h : 2 < x.op) : oneC N C T x = opP x.op (T.getD x.left.toNat noC) (T.getD x.right.toNat noC) ∧ oneE N x = 0 := by unfold oneC oneE; rw [if_neg (by omega), if_neg (by omega), if_neg (by omega)]; exact ⟨rfl, rfl⟩
theorem op_yes {o : Int} {a b : Int × Int} (ha : okC a) (hb : okC b) : (o = 3 → OpTo 54 a.1 a.2 b.1 b.2 (opP o a b).1 (opP o a b).2 .nilIface) ∧ (o = 4 → OpTo 55 a.1 a.2 b.1 b.2 (opP o a b).1 (opP o a b).2 .nilIface) ∧ (o = 5 → OpTo 56 a.1 a.2 b.1 b.2 (opP o a b).1 (opP o a b).2 .nilIface) ∧ (o = 6 → OpTo 57 a.1 a.2 b.1 b.2 (opP o a b).1 (opP o a b).2 .nilIface) := by
  refine ⟨?_, ?_, ?_, ?_⟩ <;> rintro rfl
  · exact add_yes _ _ _ _ ha hb
  · exact sub_yes _ _ _ _ ha hb
  · exact mul_yes _ _ _ _ ha hb
  · exact div_yes _ _ _ _ ha hb
theorem cel_ok {T : List (Int × Int)} (hT : ∀ c ∈ T, okC c) (i : Nat) : okC (T.getD i noC) := by
  rw [List.getD_eq_getElem?_getD]
  cases h : T[i]? with
  | none => exact okC_no
  | some c => exact hT c (List.mem_of_getElem? h)

set_option maxHeartbeats 4000000 in
theorem rkone_any (fn q r : Nat) (hent : ∀ (args : Array Value) (w : World), (callFunc fn args).run Tryd.prog w = .ok (.enter fn args) w) (N : List ByteArray) (C T : List (Int × Int)) (At : Option Addr) (ct : Nat) (x : Nd) (w : World) (hx : ndErr x T.length = 0) (hn : T.length ≤ 30) (hT : CelV w At ct T) (hok : ∀ c ∈ T, okC c) (hask : AskN fn q r w N C) :
    Calls Tryd.prog 41 #[ndV x, .slice At T.length ct, .func (.func fn) #[] #[.pointer (some ⟨q, 0, none⟩), .pointer (some ⟨r, 0, none⟩)]] w fun e w' => e = .returned (.tuple #[.agg #[.int .i64 (oneC N C T x).1, .int .i64 (oneC N C T x).2], errV (oneE N x)]) ∧ Below w.heap.size w w' := by
  rw [ndV_def]
  have ho : 1 ≤ x.op ∧ x.op ≤ 6 := by
    unfold ndErr at hx
    split at hx
    · cases hx
    · omega
  by_cases h1 : x.op = 1
  · obtain ⟨e1, e2⟩ := one_num (N := N) (C := C) (T := T) h1
    rw [e1, e2, errV_zero, h1]
    have hof := of_any x.n
    clear hx hT hask e1 e2 h1
    go_enter Tryd.func41, Tryd.ntmps41
    go_wp2_with fail
    refine (hof _).mono ?_
    rintro e w1 ⟨rfl, hb⟩
    obtain ⟨hbc, hbf⟩ := bcell hb
    have hz := bsize hb
    simp at hz
    have hb1 : Below w.heap.size w w1 := onB (by go_grown) hb
    have HB1 : Hid (Below w.heap.size w w1) := hb1
    clear hb hb1 hof
    go_wp2_with fail
    refine bodyPost_ret (v := .tuple #[.agg #[.int .i64 (ofP x.n).1, .int .i64 (ofP x.n).2], .nilIface]) (by simp [results, Tryd.results41, go_sem, hbc]) rfl ⟨rfl, ?_⟩
    exact ((HB1.out.setCell (by simp) _).setCell (by simp) _)
  by_cases h2 : x.op = 2
  · obtain ⟨e1, e2⟩ := one_ref (N := N) (C := C) (T := T) h2
    rw [e1, e2, h2]
    have has := hask x.name
    obtain ⟨c, hc⟩ : ∃ c, isC N C x.name = c := ⟨_, rfl⟩
    obtain ⟨er, her⟩ : ∃ er, errV (isE N x.name) = er := ⟨_, rfl⟩
    rw [hc, her] at has
    rw [hc, her]
    clear hx hT hask e1 e2 h2 hc her
    go_enter Tryd.func41, Tryd.ntmps41
    go_wp2_with fail
    refine (has _ (by go_grown)).mono ?_
    rintro e w1 ⟨rfl, hb⟩
    obtain ⟨hbc, hbf⟩ := bcell hb
    have hz := bsize hb
    simp at hz
    have hb1 : Below w.heap.size w w1 := onB (by go_grown) hb
    have HB1 : Hid (Below w.heap.size w w1) := hb1
    clear hb hb1 has
    go_wp2_with fail
    refine bodyPost_ret (v := .tuple #[.agg #[.int .i64 c.1, .int .i64 c.2], er]) (by simp [results, Tryd.results41, go_sem, hbc]) rfl ⟨rfl, ?_⟩
    exact ((HB1.out.setCell (by simp) _).setCell (by simp) _)
  obtain ⟨e1, e2⟩ := one_bin (N := N) (C := C) (T := T) (x := x) (by omega)
  obtain ⟨a1, a2, a3, a4⟩ := nd_sides hx (by omega)
  obtain ⟨a, ha⟩ : ∃ a : Nat, x.left = a := ⟨x.left.toNat, by omega⟩
  obtain ⟨c, hc⟩ : ∃ c : Nat, x.right = c := ⟨x.right.toNat, by omega⟩
  rw [e1, e2, errV_zero, ha, hc, Int.toNat_natCast, Int.toNat_natCast]
  obtain ⟨-, -, hT3⟩ := hT
  obtain ⟨b, o, rfl, hTA⟩ := hT3.resolve_left (fun e => by rw [e] at a2; simp at a2; omega)
  obtain ⟨p3, p4, p5, p6⟩ := op_yes (o := x.op) (cel_ok hok a) (cel_ok hok c)
  obtain ⟨y0, y1⟩ := hTA.2 a (by omega)
  obtain ⟨z0, z1⟩ := hTA.2 c (by omega)
  have hbl := hTA.1
  obtain ⟨u, hu⟩ : ∃ u, T.getD a noC = u := ⟨_, rfl⟩
  obtain ⟨v, hv⟩ : ∃ v, T.getD c noC = v := ⟨_, rfl⟩
  rw [hu] at y0 y1 p3 p4 p5 p6 ⊢
  rw [hv] at z0 z1 p3 p4 p5 p6 ⊢
  obtain ⟨ov, hov⟩ : ∃ ov, x.op = ov := ⟨_, rfl⟩
  rw [hov] at p3 p4 p5 p6 ho h1 h2 ⊢
  obtain ⟨t, ht⟩ : ∃ t, opP ov u v = t := ⟨_, rfl⟩
  rw [ht] at p3 p4 p5 p6 ⊢
  unfold OpTo at p3 p4 p5 p6
  obtain ⟨m, hm⟩ : ∃ m, T.length = m := ⟨_, rfl⟩
  rw [hm] at hn a2 a4 ⊢
  have hai : (a : Int) < (m : Int) := by omega
  have hci : (c : Int) < (m : Int) := by omega
  have hmi : (m : Int) ≤ 30 := by omega
  have hovc : ov = 3 ∨ ov = 4 ∨ ov = 5 ∨ ov = 6 := by omega
  clear hx hask e1 e2 h1 h2 hu hv ht hTA hT3 hok ho hov a1 a3
  rcases hovc with rfl | rfl | rfl | rfl
  · have hp := p3 rfl
    clear p3 p4 p5 p6
    go_enter Tryd.func41, Tryd.ntmps41
    go_wp2_with fail
    go_region_law ((go_simp; refine (hp _).mono ?_; rintro e w1 ⟨rfl, hb⟩; obtain ⟨hbc, hbf⟩ := bcell hb; have hz := bsize hb; simp at hz; have HB1 : Hid (Below w.heap.size w w1) := (onB (by go_grown) hb); clear hb))
    all_goals
      go_wp2_with fail
      refine bodyPost_ret (v := .tuple #[.agg #[.int .i64 t.1, .int .i64 t.2], .nilIface]) (by simp [results, Tryd.results41, go_sem, hbc]) rfl ⟨rfl, ?_⟩
      exact ((HB1.out.setCell (by simp) _).setCell (by simp) _)
  · have hp := p4 rfl
    clear p3 p4 p5 p6
    go_enter Tryd.func41, Tryd.ntmps41
    go_wp2_with fail
    go_region_law ((go_simp; refine (hp _).mono ?_; rintro e w1 ⟨rfl, hb⟩; obtain ⟨hbc, hbf⟩ := bcell hb; have hz := bsize hb; simp at hz; have HB1 : Hid (Below w.heap.size w w1) := (onB (by go_grown) hb); clear hb))
    all_goals
      go_wp2_with fail
      refine bodyPost_ret (v := .tuple #[.agg #[.int .i64 t.1, .int .i64 t.2], .nilIface]) (by simp [results, Tryd.results41, go_sem, hbc]) rfl ⟨rfl, ?_⟩
      exact ((HB1.out.setCell (by simp) _).setCell (by simp) _)
  · have hp := p5 rfl
    clear p3 p4 p5 p6
    go_enter Tryd.func41, Tryd.ntmps41
    go_wp2_with fail
    go_region_law ((go_simp; refine (hp _).mono ?_; rintro e w1 ⟨rfl, hb⟩; obtain ⟨hbc, hbf⟩ := bcell hb; have hz := bsize hb; simp at hz; have HB1 : Hid (Below w.heap.size w w1) := (onB (by go_grown) hb); clear hb))
    all_goals
      go_wp2_with fail
      refine bodyPost_ret (v := .tuple #[.agg #[.int .i64 t.1, .int .i64 t.2], .nilIface]) (by simp [results, Tryd.results41, go_sem, hbc]) rfl ⟨rfl, ?_⟩
      exact ((HB1.out.setCell (by simp) _).setCell (by simp) _)
  · have hp := p6 rfl
    clear p3 p4 p5 p6
    go_enter Tryd.func41, Tryd.ntmps41
    go_wp2_with fail
    go_region_law ((go_simp; refine (hp _).mono ?_; rintro e w1 ⟨rfl, hb⟩; obtain ⟨hbc, hbf⟩ := bcell hb; have hz := bsize hb; simp at hz; have HB1 : Hid (Below w.heap.size w w1) := (onB (by go_grown) hb); clear hb))
    all_goals
      go_wp2_with fail
      refine bodyPost_ret (v := .tuple #[.agg #[.int .i64 t.1, .int .i64 t.2], .nilIface]) (by simp [results, Tryd.results41, go_sem, hbc]) rfl ⟨rfl, ?_⟩
      exact ((HB1.out.setCell (by simp) _).setCell (by simp) _)
end Go.Proofs.YtklfenojapgmnaeDoor
