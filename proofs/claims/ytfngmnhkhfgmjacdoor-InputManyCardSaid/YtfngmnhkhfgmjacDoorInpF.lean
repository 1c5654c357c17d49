/-
  A place cloned: what slices.Clone answers, called in whatever memory: the same numbers in a block of ints of its own.
-/
import Derived.Test.YtfngmnhkhfgmjacDoorOwn2
import Derived.Test.YtfngmnhkhfgmjacDoorInpE
import Derived.Lib.SliceRun
import Derived.OwnWalk
namespace Go.Proofs.YtfngmnhkhfgmjacDoor
open Go.ChangeShapes Go.WideShapes Go.ChangeAt Go.RowKit
set_option maxRecDepth 20000

def NewE (N : Nat) (xs : List EnL) : Prop := ∀ x ∈ xs, NewA N x.A
theorem NewE.zero (xs : List EnL) : NewE 0 xs := fun _ _ => NewA.zero _
theorem NewE.le {N M : Nat} {xs : List EnL} (h : NewE N xs) (hm : M ≤ N) : NewE M xs := fun x hx => (h x hx).le hm
theorem NewE.put {N i : Nat} {xs : List EnL} {x : EnL} (h : NewE N xs) (hx : NewA N x.A) : NewE N (xs.take i ++ x :: xs.drop i) := fun y hy => by
  rcases List.mem_append.1 hy with hy | hy
  · exact h y (List.mem_of_mem_take hy)
  · rcases List.mem_cons.1 hy with rfl | hy
    · exact hx
    · exact h y (List.mem_of_mem_drop hy)
theorem NewE.cut {N i j : Nat} {xs : List EnL} (h : NewE N xs) : NewE N (xs.take i ++ xs.drop j) := fun y hy => by
  rcases List.mem_append.1 hy with hy | hy
  · exact h y (List.mem_of_mem_take hy)
  · exact h y (List.mem_of_mem_drop hy)
theorem NewE.set {N i : Nat} {xs : List EnL} (h : NewE N xs) (hi : i < xs.length) (e : En) (c : Nat) : NewE N (xs.set i ⟨e, (xs.getD i noL).A, c⟩) := fun y hy => by
  rcases List.mem_or_eq_of_mem_set hy with hy | rfl
  · exact h y hy
  · exact h (xs.getD i noL) (enl_mem hi)
theorem plty_new {w : World} {base : Nat} {v : Value} {L : List Int} (h : w.ownsRow base 3 1 v L.length (L.map (Value.int .i64))) : ∃ A c, v = .slice A L.length c ∧ PlTy w A c L ∧ NewA base A := by
  obtain ⟨A, c, rfl, hP⟩ := plty_own h
  refine ⟨A, c, rfl, hP, fun b o e => ?_⟩
  subst e
  rcases h.2 with ⟨h1, -⟩ | ⟨g, cap, cur, h1, hb, -⟩
  · cases h1
  · cases h1; exact hb

set_option maxHeartbeats 2000000 in
theorem clone_new (A : Option Addr) (c : Nat) (L : List Int) (w : World) (hL : L.length ≤ 4) (hP : PlAt w A c L) : Calls Tryd.prog 58 #[.slice A L.length c] w fun e w' => (∃ A' c', e = .returned (.slice A' L.length c') ∧ PlTy w' A' c' L ∧ NewA w.heap.size A') ∧ Below w.heap.size w w' := by
  have hq : ∀ (w : World) (a : Option Addr) (n c n' c' : Nat), (binOp .eql 40 (.slice a n c) (.slice none n' c')).run Tryd.prog w = .ok (.bool a.isNone) w := fun w a n c n' c' => Lib.run_eql_slice_nil w _ _ a n c n' c' Tryd.underlying40
  cases A with
  | none =>
    obtain ⟨-, h0 | ⟨b, o, h0, -⟩⟩ := hP
    · subst h0
      simp only [List.length_nil]
      go_enter Tryd.func58, Tryd.ntmps58
      go_wp2_with fail
      go_ret
      exact ⟨⟨none, 0, rfl, PlTy.nil _ _ _, NewA.none _⟩, Below.refl _ _⟩
    · cases h0
  | some a =>
    obtain ⟨i0, hi0, hz0, hz1, hz2⟩ := info_parts Tryd.infoIntP
    have HC : Hid (∀ j u, (L.map (Value.int .i64))[j]? = some u → w.cell? (a.add j) = some u) := by
      intro j u hj
      obtain ⟨-, h0 | ⟨b, o, h0, -, hcell⟩⟩ := hP
      · subst h0; simp at hj
      · cases h0
        have hlt : j < L.length := by have := (List.getElem?_eq_some_iff.1 hj).1; simpa using this
        rw [plain_add, hcell j hlt]
        simp only [List.getElem?_map, List.getElem?_eq_getElem hlt, Option.map_some, Option.some.injEq] at hj
        rw [← hj, List.getD_eq_getElem?_getD, List.getElem?_eq_getElem hlt]
        rfl
    have HF : Hid (∀ (w' : World) (v : Value), w'.ownsRow w.heap.size 3 1 v L.length (L.map (Value.int .i64)) → ∃ A' c', v = .slice A' L.length c' ∧ PlTy w' A' c' L ∧ NewA w.heap.size A') := fun w' v h => plty_new h
    have hl : (L.map (Value.int .i64)).length = L.length * 1 := by simp
    have h1 : ∀ u ∈ L.map (Value.int .i64), u.oneCell' = true := by intro u hu; simp at hu; obtain ⟨x, -, rfl⟩ := hu; rfl
    have hm : L.length ≤ 4 := hL
    clear hP hL
    go_enter Tryd.func58, Tryd.ntmps58
    go_wp2_with (at_builtin; refine wpList_append_own _ rfl _ _ 40 rfl w.heap.size 3 i0 (.int .i64 0) 1 8 Tryd.underlying40 hi0 hz0 hz1 hz2 rfl (by decide) _ _ _ rfl (World.ownsRow_made w #[] 0 (Nat.le_refl _) (Nat.zero_le _) (by simp)) a L.length c (L.map (Value.int .i64)) rfl ?qc1 ?qc2 ?qc3 ?qc4 ?qc5 ?qc6 ?_)
    case qc1 => exact hl
    case qc2 => exact fun j u hj => Lib.cell?_alloc_some _ (HC.out j u hj)
    case qc3 => exact h1
    case qc4 => simp only [maxLen]; omega
    case qc5 => omega
    case qc6 => simp
    intro v' w1 hown hgrow hnil
    obtain ⟨A', c', rfl, hT, hNw⟩ := HF.out _ _ hown
    have HT : Hid (PlTy w1 A' c' L ∧ NewA w.heap.size A') := ⟨hT, hNw⟩
    have HB : Hid (Below w.heap.size w w1) := ((Below.refl _ w).alloc (Nat.le_refl _) _).grown hgrow (by simp) (by intro k hk; simp [Value.ownBlock] at hk; omega)
    clear hown hgrow hnil hT hNw
    go_wp2_with fail
    go_ret
    exact ⟨⟨A', c', rfl, HT.out⟩, HB.out⟩
theorem clone_any (A : Option Addr) (c : Nat) (L : List Int) (w : World) (hL : L.length ≤ 4) (hP : PlAt w A c L) : Calls Tryd.prog 58 #[.slice A L.length c] w fun e w' => (∃ A' c', e = .returned (.slice A' L.length c') ∧ PlTy w' A' c' L) ∧ Below w.heap.size w w' :=
  (clone_new A c L w hL hP).mono fun _ _ ⟨⟨A', c', h1, h2, _⟩, h3⟩ => ⟨⟨A', c', h1, h2⟩, h3⟩
end Go.Proofs.YtfngmnhkhfgmjacDoor
