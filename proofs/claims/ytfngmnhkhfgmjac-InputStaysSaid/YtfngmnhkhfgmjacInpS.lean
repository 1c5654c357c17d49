/-
  The walk of tallylaw1.InputStays: what is written is there, and all else as it was; cleared it is not; and what is there then is right: it returns true for every outline, entries, places and number.
-/
import Derived.Test.YtfngmnhkhfgmjacInpN
import Derived.Test.YtfngmnhkhfgmjacSame1
namespace Go.Proofs.Ytfngmnhkhfgmjac
open Go.ChangeShapes Go.WideShapes Go.ChangeAt Go.RowKit
set_option maxRecDepth 20000

def stM (_ : Nat) : Mem := ⟨⟨#[98]⟩, -1, 0, ⟨#[]⟩⟩
def stD (_ : Nat) : Dm := ⟨⟨#[97]⟩, 0, 1, stM⟩
theorem st_ok : changeErr stD 1 [] ⟨[0], 7, false⟩ = 0 := by decide +kernel
theorem st_set : setL [] [0] 7 = [⟨[0], 7⟩] := rfl

def stW (w : World) (A0 : Option Addr) (n cap : Nat) : World := ((((ownOut w A0 n cap 24).alloc (.cells #[.string ⟨#[98]⟩, .int .i64 (-1), .int .i64 0, .string ⟨#[]⟩] 29)).alloc (.cells #[.string ⟨#[97]⟩, .int .i64 0, .slice (some ⟨w.heap.size + 1, 0, none⟩) 1 1] 32)).alloc (.cells #[.slice (some ⟨w.heap.size + 1 + 1, 0, none⟩) 1 1] 24)).alloc (.cells #[.int .i64 0] 3)
theorem stW_size (w : World) (A0 : Option Addr) (n cap : Nat) : (stW w A0 n cap).heap.size = w.heap.size + 5 := by unfold stW; simp [ownOut_size]
theorem stW_below (w : World) (A0 : Option Addr) (n cap : Nat) : Below w.heap.size w (stW w A0 n cap) := by unfold stW ownOut; go_grown
theorem stW_at (w : World) (A0 : Option Addr) (n cap : Nat) : (stW w A0 n cap).cell? ⟨w.heap.size, 0, none⟩ = some (.slice A0 n cap) := by
  unfold stW
  rw [World.cell?_alloc_lt _ _ ⟨w.heap.size, 0, none⟩ (by simp [ownOut_size] <;> omega), World.cell?_alloc_lt _ _ ⟨w.heap.size, 0, none⟩ (by simp [ownOut_size] <;> omega), World.cell?_alloc_lt _ _ ⟨w.heap.size, 0, none⟩ (by simp [ownOut_size] <;> omega), World.cell?_alloc_lt _ _ ⟨w.heap.size, 0, none⟩ (by simp [ownOut_size])]
  exact ownOut_at ..
theorem stW_mem (w : World) (A0 : Option Addr) (n cap j : Nat) (v : Value) (h : (#[.string ⟨#[98]⟩, .int .i64 (-1), .int .i64 0, .string ⟨#[]⟩] : Array Value)[j]? = some v) : (stW w A0 n cap).cell? ⟨w.heap.size + 1, j, none⟩ = some v := by
  unfold stW
  rw [World.cell?_alloc_lt _ _ ⟨w.heap.size + 1, j, none⟩ (by simp [ownOut_size] <;> omega), World.cell?_alloc_lt _ _ ⟨w.heap.size + 1, j, none⟩ (by simp [ownOut_size] <;> omega), World.cell?_alloc_lt _ _ ⟨w.heap.size + 1, j, none⟩ (by simp [ownOut_size])]
  rw [← ownOut_size w A0 n cap 24, World.cell?_alloc_mark]
  exact h
theorem stW_dim (w : World) (A0 : Option Addr) (n cap j : Nat) (v : Value) (h : (#[.string ⟨#[97]⟩, .int .i64 0, .slice (some ⟨w.heap.size + 1, 0, none⟩) 1 1] : Array Value)[j]? = some v) : (stW w A0 n cap).cell? ⟨w.heap.size + 2, j, none⟩ = some v := by
  unfold stW
  rw [World.cell?_alloc_lt _ _ ⟨w.heap.size + 2, j, none⟩ (by simp [ownOut_size] <;> omega), World.cell?_alloc_lt _ _ ⟨w.heap.size + 2, j, none⟩ (by simp [ownOut_size])]
  have e : w.heap.size + 2 = ((ownOut w A0 n cap 24).alloc (.cells #[.string ⟨#[98]⟩, .int .i64 (-1), .int .i64 0, .string ⟨#[]⟩] 29)).heap.size := by simp [ownOut_size]
  rw [e, World.cell?_alloc_mark]
  exact h
theorem stW_pl (w : World) (A0 : Option Addr) (n cap : Nat) : PlAt (stW w A0 n cap) (some ⟨w.heap.size + 4, 0, none⟩) 1 [0] := by
  refine ⟨by simp, Or.inr ⟨_, _, rfl, by rw [stW_size]; omega, fun j hj => ?_⟩⟩
  have hj' : j = 0 := by simp at hj; exact hj
  subst hj'
  have e : w.heap.size + 4 = ((((ownOut w A0 n cap 24).alloc (.cells #[.string ⟨#[98]⟩, .int .i64 (-1), .int .i64 0, .string ⟨#[]⟩] 29)).alloc (.cells #[.string ⟨#[97]⟩, .int .i64 0, .slice (some ⟨w.heap.size + 1, 0, none⟩) 1 1] 32)).alloc (.cells #[.slice (some ⟨w.heap.size + 1 + 1, 0, none⟩) 1 1] 24)).heap.size := by simp [ownOut_size]
  unfold stW
  rw [e, World.cell?_alloc_mark]
  rfl
theorem stW_dims (w : World) (A0 : Option Addr) (n cap : Nat) : DimsV (stW w A0 n cap) (some ⟨w.heap.size + 2, 0, none⟩) 1 1 stD (fun _ => some ⟨w.heap.size + 1, 0, none⟩) (fun _ => 1) := by
  refine ⟨Nat.le_refl _, Or.inr ⟨_, _, rfl, by rw [stW_size]; omega, fun i hi => ?_⟩⟩
  have hi' : i = 0 := by omega
  subst hi'
  refine ⟨stW_dim _ _ _ _ 0 _ rfl, stW_dim _ _ _ _ 1 _ rfl, stW_dim _ _ _ _ 2 _ rfl, Nat.le_refl _, Or.inr ⟨_, _, rfl, by rw [stW_size]; omega, fun i hi => ?_⟩⟩
  have hi' : i = 0 := by have : i < 1 := hi; omega
  subst hi'
  exact ⟨stW_mem _ _ _ _ 0 _ rfl, stW_mem _ _ _ _ 1 _ rfl, stW_mem _ _ _ _ 2 _ rfl, stW_mem _ _ _ _ 3 _ rfl⟩

/-- an outline in a block, entries and two places, with all that they hold -/
def CtxS (q : Nat) (A0 : Option Addr) (cap n : Nat) (D : Nat → Dm) (A : Nat → Option Addr) (C : Nat → Nat) (AE : Option Addr) (ce : Nat) (xs : List EnL) (Ap : Option Addr) (cp : Nat) (p : List Int) (Aq : Option Addr) (cq : Nat) (r : List Int) (w : World) : Prop :=
  q < w.heap.size ∧ w.cell? ⟨q, 0, none⟩ = some (.slice A0 n cap) ∧ DimsV w A0 cap n D A C ∧ EnsV w AE ce xs ∧ PlAt w Ap cp p ∧ PlAt w Aq cq r
section
variable {q : Nat} {A0 : Option Addr} {cap n : Nat} {D : Nat → Dm} {A : Nat → Option Addr} {C : Nat → Nat} {AE : Option Addr} {ce : Nat} {xs : List EnL} {Ap : Option Addr} {cp : Nat} {p : List Int} {Aq : Option Addr} {cq : Nat} {r : List Int} {w w' : World}
theorem CtxS.later (h : CtxS q A0 cap n D A C AE ce xs Ap cp p Aq cq r w) (hB : Below w.heap.size w w') : CtxS q A0 cap n D A C AE ce xs Ap cp p Aq cq r w' := by
  obtain ⟨h1, h2, h3, h4, h5, h6⟩ := h
  exact ⟨Nat.lt_of_lt_of_le h1 hB.size, (hB.cell (p := ⟨q, 0, none⟩) h1).trans h2, h3.later hB, h4.later hB, h5.later hB, h6.later hB⟩
end

/-- the first entry of a list of one -/
theorem one_at {w : World} {B : Option Addr} {c : Nat} {zs : List EnL} {p : List Int} {N : Int} (h : EnsV w B c zs) (hl : lE zs = [⟨p, N⟩]) : ∃ b o, B = some ⟨b, o, none⟩ ∧ w.cell? ⟨b, o + 1, none⟩ = some (.int .i64 N) ∧ zs.length = 1 := by
  have h1 : zs.length = 1 := by rw [← lE_len, hl]; rfl
  obtain ⟨-, -, rfl | ⟨b, o, rfl, hA⟩⟩ := h
  · cases h1
  · refine ⟨b, o, rfl, ?_, h1⟩
    have h2 := (hA.at (k := 0) (by omega)).2
    have h3 : (zs.getD 0 noL).e = ⟨p, N⟩ := by rw [← lE_at, hl]; rfl
    rw [h3, Nat.zero_mul, Nat.add_zero] at h2
    exact h2

set_option maxHeartbeats 16000000 in
/-- where nothing is set -/
theorem stays_bad (A0 : Option Addr) (cap n : Nat) (D : Nat → Dm) (A : Nat → Option Addr) (C : Nat → Nat) (AE : Option Addr) (ce : Nat) (xs : List EnL) (Ap : Option Addr) (cp : Nat) (p : List Int) (N : Int) (Aq : Option Addr) (cq : Nat) (r : List Int) (w : World) (hM : DimsV w A0 cap n D A C) (hE : EnsV w AE ce xs) (hP : PlAt w Ap cp p) (he : changeErr D n (lE xs) ⟨p, N, false⟩ ≠ 0) :
    Calls Try.prog 3 #[.agg #[.slice A0 n cap], .slice AE xs.length ce, .slice Ap p.length cp, .int .i64 N, .slice Aq r.length cq] w fun e w' => e = .returned (.bool true) ∧ Below w.heap.size w w' := by
  have hB0 := stW_below w A0 n cap
  have h1 := iset_any (some ⟨w.heap.size + 2, 0, none⟩) 1 1 stD (fun _ => some ⟨w.heap.size + 1, 0, none⟩) (fun _ => 1) none 0 [] (some ⟨w.heap.size + 4, 0, none⟩) 1 [0] 7 (stW w A0 n cap) (stW_dims ..) (EnsV.nil _ _ _ (by decide)) (stW_pl ..)
  have e0 : lE [] = [] := rfl
  rw [e0, st_ok, st_set] at h1
  unfold Answer at h1
  rw [errV_zero, pickL_in] at h1
  simp only [List.length_nil, List.length_singleton] at h1
  have HX0 : Hid (CtxS w.heap.size A0 cap n D A C AE ce xs Ap cp p none 0 [] (stW w A0 n cap)) := ⟨by rw [stW_size]; omega, stW_at .., hM.later hB0, hE.later hB0, hP.later hB0, PlAt.nil _ _ _⟩
  have HB0 : Hid (Below w.heap.size w (stW w A0 n cap)) := hB0
  have H2 : Hid (∀ w', CtxS w.heap.size A0 cap n D A C AE ce xs Ap cp p none 0 [] w' → Calls Try.prog 4 #[.agg #[.slice A0 n cap], .slice AE xs.length ce, .slice Ap p.length cp, .int .i64 N] w' fun e w'' => (∃ B c, e = .returned (.tuple #[.slice B 0 c, .iface 58 (.int .i64 (changeErr D n (lE xs) ⟨p, N, false⟩))])) ∧ Below w'.heap.size w' w'') := fun w' hX => by
    refine (iset_any A0 cap n D A C AE ce xs Ap cp p N w' hX.2.2.1 hX.2.2.2.1 hX.2.2.2.2.1).mono ?_
    rintro e w'' ⟨⟨B, c, zs, rfl, -, hl⟩, hb⟩
    have hz : zs.length = 0 := by rw [← lE_len, hl, pickL_bad he]; rfl
    exact ⟨⟨B, c, by rw [hz, errV_some he]⟩, hb⟩
  clear hM hE hP hB0
  generalize changeErr D n (lE xs) ⟨p, N, false⟩ = E at H2 he
  generalize xs.length = nx at H2
  generalize p.length = m at H2
  generalize r.length = mr
  clear he
  go_enter Try.func3, Try.ntmps3
  go_wp2_with fail
  refine h1.mono ?_
  rintro e w1 ⟨⟨B, c, zs, rfl, hV, hl⟩, hb⟩
  obtain ⟨b, o, rfl, d1, hzl⟩ := one_at hV hl
  have HX1 : Hid (CtxS w.heap.size A0 cap n D A C AE ce xs Ap cp p none 0 [] w1) := HX0.out.later hb
  have HB1 : Hid (Below w.heap.size w w1) := onB HB0.out hb
  have c1 := HX1.out.2.1
  have h2 := H2.out w1 HX1.out
  rw [hzl]
  clear hV hl hb h1 hzl HX0 HB0
  go_wp2_with fail
  refine h2.mono ?_
  rintro e w2 ⟨⟨B2, c2, rfl⟩, hb⟩
  have HB2 : Hid (Below w.heap.size w w2) := onB HB1.out hb
  clear hb h2 c1 d1
  go_wp2_with fail
  go_ret
  exact ⟨rfl, HB2.out⟩
end Go.Proofs.Ytfngmnhkhfgmjac
