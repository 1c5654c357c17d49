/-
  Nodes that lie in memory, and what is read of an argument of the type []api.Node.
-/
import Derived.Test.YtpnfmpbgjkhicafGreatDoorForm1
import Derived.Test.YtpnfmpbgjkhicafGreatDoorOpen
namespace Go.Proofs.YtpnfmpbgjkhicafGreatDoor
open Go Go.ChangeShapes Go.WideShapes Go.ChangeAt Go.RowKit Go.Deep
set_option maxRecDepth 100000

/-- nodes that lie in a block -/
def NdsAt (w : World) (b o : Nat) (l : List Nd) : Prop := b < w.heap.size ∧ ∀ k, k < l.length → w.cell? ⟨b, o + k * 5, none⟩ = some (.int .i64 (l.getD k noN).op) ∧ w.cell? ⟨b, o + k * 5 + 1, none⟩ = some (.int .i64 (l.getD k noN).n) ∧ w.cell? ⟨b, o + k * 5 + 2, none⟩ = some (.string (l.getD k noN).name) ∧ w.cell? ⟨b, o + k * 5 + 3, none⟩ = some (.int .i64 (l.getD k noN).left) ∧ w.cell? ⟨b, o + k * 5 + 4, none⟩ = some (.int .i64 (l.getD k noN).right)
theorem NdsAt.later {w w' : World} {b o : Nat} {l : List Nd} (h : NdsAt w b o l) (hB : Below w.heap.size w w') : NdsAt w' b o l := by
  refine ⟨Nat.lt_of_lt_of_le h.1 hB.size, fun k hk => ?_⟩
  obtain ⟨h1, h2, h3, h4, h5⟩ := h.2 k hk
  exact ⟨(hB.cell (p := ⟨b, o + k * 5, none⟩) h.1).trans h1, (hB.cell (p := ⟨b, o + k * 5 + 1, none⟩) h.1).trans h2, (hB.cell (p := ⟨b, o + k * 5 + 2, none⟩) h.1).trans h3, (hB.cell (p := ⟨b, o + k * 5 + 3, none⟩) h.1).trans h4, (hB.cell (p := ⟨b, o + k * 5 + 4, none⟩) h.1).trans h5⟩
/-- a slice of nodes: none, or laid -/
def NdsV (w : World) (A : Option Addr) (cap : Nat) (l : List Nd) : Prop := l.length ≤ cap ∧ cap ≤ 9223372036854775807 ∧ (l = [] ∨ ∃ b o, A = some ⟨b, o, none⟩ ∧ NdsAt w b o l)
theorem NdsV.later {w w' : World} {A : Option Addr} {cap : Nat} {l : List Nd} (h : NdsV w A cap l) (hB : Below w.heap.size w w') : NdsV w' A cap l := by
  obtain ⟨h1, h0, h2 | ⟨b, o, h2, h3⟩⟩ := h
  · exact ⟨h1, h0, Or.inl h2⟩
  · exact ⟨h1, h0, Or.inr ⟨b, o, h2, h3.later hB⟩⟩
theorem NdsV.nil (w : World) (A : Option Addr) (cap : Nat) (h : cap ≤ 9223372036854775807) : NdsV w A cap [] := ⟨Nat.zero_le _, h, Or.inl rfl⟩

section
variable {H : Type} {enc : TypeId × Value → H} {w : World} {held : Bool}
theorem cellsNd : Tryz.prog.cellsOf 112 = 5 := by kernel_rfl

theorem open_nd {fuel : Nat} {cs : List Value} {x : DataW H × List MemPlace} (h : DataW.trod enc Tryz.prog w 0 (fun _ => true) held fuel 112 cs = some x) :
    ∃ y : Nd, cs = [.int .i64 y.op, .int .i64 y.n, .string y.name, .int .i64 y.left, .int .i64 y.right] := by
  obtain ⟨hl, n, hf⟩ := trod_one Tryz.underlying112 (by kernel_rfl) h
  rw [cellsNd] at hl
  match cs, hl with
  | [v0, v1, v2, v3, v4], _ =>
    obtain ⟨y0, h0⟩ := hf 0 _ v0 rfl rfl
    obtain ⟨y1, h1⟩ := hf 1 _ v1 rfl rfl
    obtain ⟨y2, h2⟩ := hf 2 _ v2 rfl rfl
    obtain ⟨y3, h3⟩ := hf 3 _ v3 rfl rfl
    obtain ⟨y4, h4⟩ := hf 4 _ v4 rfl rfl
    obtain ⟨n0, e0, -, -⟩ := DataW.trod_int Tryz.underlying3 h0
    obtain ⟨n1, e1, -, -⟩ := DataW.trod_int Tryz.underlying3 h1
    obtain ⟨s2, e2, -, -⟩ := DataW.trod_string Tryz.underlying9 h2
    obtain ⟨n3, e3, -, -⟩ := DataW.trod_int Tryz.underlying3 h3
    obtain ⟨n4, e4, -, -⟩ := DataW.trod_int Tryz.underlying3 h4
    simp at e0 e1 e2 e3 e4
    exact ⟨⟨n0, n1, s2, n3, n4⟩, by rw [e0, e1, e2, e3, e4]⟩

theorem open_nds {r : Reach} {b0 : Nat} {v : Value} {d : DataW H} {p : List MemPlace} (hv : Value.okWide Tryz.prog w r b0 77 v) (h : DataW.Trod enc Tryz.prog w 0 (fun _ => true) held 77 v d p) :
    ∃ (A : Option Addr) (cap : Nat) (l : List Nd), v = .slice A l.length cap ∧ NdsV w A cap l := by
  obtain ⟨a0, len0, cap0, rfl⟩ := okWide_slice Tryz.underlying77 hv
  obtain ⟨fuel, hf⟩ := h
  have hf' : DataW.trod enc Tryz.prog w 0 (fun _ => true) held fuel 77 [.slice a0 len0 cap0] = some (d, p) := hf
  rcases open_slice Tryz.underlying77 hf' with ⟨e, -⟩ | ⟨a, len, cap, m, n, D, Pl, e, -, hl, hcm, hm, -, hx⟩
  · simp at e
    obtain ⟨rfl, rfl, rfl⟩ := e
    exact ⟨none, 0, [], rfl, Nat.le_refl _, Nat.zero_le _, Or.inl rfl⟩
  simp at e
  obtain ⟨rfl, rfl, rfl⟩ := e
  rw [cellsNd] at hx
  simp at hm
  subst hm
  haveI : Inhabited Nd := ⟨noN⟩
  have each : ∀ i, i < len0 → ∃ y : Nd, w.cells? 0 (a.add (i * 5)) 5 = some [.int .i64 y.op, .int .i64 y.n, .string y.name, .int .i64 y.left, .int .i64 y.right] := fun i hi => by
    obtain ⟨cs', h1, h2⟩ := hx i (by omega)
    obtain ⟨e, rfl⟩ := open_nd h2
    exact ⟨e, h1⟩
  obtain ⟨Y, hY⟩ := choose_lt each
  have hlen : ((List.range len0).map Y).length = len0 := by simp
  have hg : ∀ i, i < len0 → ((List.range len0).map Y).getD i noN = Y i := fun i hi => by simp [List.getD, hi]
  refine ⟨some a, _, (List.range len0).map Y, by rw [hlen], by rw [hlen]; exact hl, hcm, ?_⟩
  rcases Nat.eq_zero_or_pos len0 with h0 | h0
  · left; subst h0; rfl
  right
  have c0 := (World.cells?_some (hY 0 h0)).2.2 0 (by omega)
  rw [add_add] at c0
  have hp := addr_plain c0 (by omega)
  have hb := World.block_lt_of_cell? _ _ c0
  refine ⟨a.block, a.off, by rw [← hp], by simpa [Addr.add] using hb, fun i hi => ?_⟩
  rw [hlen] at hi
  have hc := (World.cells?_some (hY i hi)).2.2
  rw [hp] at hc
  simp only [plain_add, Nat.add_assoc] at hc
  rw [hg i hi]
  refine ⟨?_, ?_, ?_, ?_, ?_⟩
  · have := hc 0 (by omega); simpa using this
  · have := hc 1 (by omega); simpa [Nat.add_assoc] using this
  · have := hc 2 (by omega); simpa [Nat.add_assoc] using this
  · have := hc 3 (by omega); simpa [Nat.add_assoc] using this
  · have := hc 4 (by omega); simpa [Nat.add_assoc] using this
end
end Go.Proofs.YtpnfmpbgjkhicafGreatDoor
