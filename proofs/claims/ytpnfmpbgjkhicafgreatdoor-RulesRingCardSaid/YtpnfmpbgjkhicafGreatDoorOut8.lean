/-
  slices.IndexFunc and slices.ContainsFunc over the dims of an outline, and how many cells an outline has.
-/
import Derived.Test.YtpnfmpbgjkhicafGreatDoorOut6
namespace Go.Proofs.YtpnfmpbgjkhicafGreatDoor
open Go.ChangeShapes Go.WideShapes Go.ChangeAt Go.RowKit
set_option maxRecDepth 20000

def DimAt (w : World) (b o : Nat) (d : Dm) (A : Option Addr) (c : Nat) : Prop := w.cell? ⟨b, o, none⟩ = some (.string d.name) ∧ w.cell? ⟨b, o + 1, none⟩ = some (.int .i64 d.solve) ∧ w.cell? ⟨b, o + 2, none⟩ = some (.slice A d.n c) ∧ MemsV w A c d.n d.mem
def DimsAt (w : World) (b o n : Nat) (D : Nat → Dm) (A : Nat → Option Addr) (C : Nat → Nat) : Prop := b < w.heap.size ∧ ∀ i, i < n → DimAt w b (o + i * 3) (D i) (A i) (C i)
theorem DimAt.later {w w' : World} {b o : Nat} {d : Dm} {A : Option Addr} {c : Nat} (h : DimAt w b o d A c) (hb : b < w.heap.size) (hB : Below w.heap.size w w') : DimAt w' b o d A c :=
  ⟨(hB.cell (p := ⟨b, o, none⟩) hb).trans h.1, (hB.cell (p := ⟨b, o + 1, none⟩) hb).trans h.2.1, (hB.cell (p := ⟨b, o + 2, none⟩) hb).trans h.2.2.1, h.2.2.2.later hB⟩
theorem DimsAt.later {w w' : World} {b o n : Nat} {D : Nat → Dm} {A : Nat → Option Addr} {C : Nat → Nat} (h : DimsAt w b o n D A C) (hB : Below w.heap.size w w') : DimsAt w' b o n D A C :=
  ⟨Nat.lt_of_lt_of_le h.1 hB.size, fun i hi => (h.2 i hi).later h.1 hB⟩
theorem DimsAt.less {w : World} {b o n m : Nat} {D : Nat → Dm} {A : Nat → Option Addr} {C : Nat → Nat} (h : DimsAt w b o n D A C) (hm : m ≤ n) : DimsAt w b o m D A C := ⟨h.1, fun i hi => h.2 i (by omega)⟩

theorem prod_small {D : Nat → Dm} {k : Nat} (h : ∀ j, j < k → (D j).n ≤ 12) (hk : k ≤ 4) : prodN D k ≤ 20736 := by
  refine Nat.le_trans (prodN_le h) ?_
  exact Nat.le_trans (Nat.pow_le_pow_right (by omega) hk) (by decide)

end Go.Proofs.YtpnfmpbgjkhicafGreatDoor
