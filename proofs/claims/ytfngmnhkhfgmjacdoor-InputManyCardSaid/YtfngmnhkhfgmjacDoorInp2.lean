/-
  Entries and edits that lie in memory, and what is read of arguments that are lists of them.
-/
import Derived.Test.YtfngmnhkhfgmjacDoorInp1
import Derived.Test.YtfngmnhkhfgmjacDoorOpenP
namespace Go.Proofs.YtfngmnhkhfgmjacDoor
open Go Go.ChangeShapes Go.WideShapes Go.ChangeAt Go.RowKit Go.Deep
set_option maxRecDepth 100000

/-- an entry, and where its place lies -/
structure EnL where
  e : En
  A : Option Addr
  c : Nat
def noEn : En := ⟨[], 0⟩
def noL : EnL := ⟨noEn, none, 0⟩
def lE (xs : List EnL) : List En := xs.map EnL.e
theorem lE_len (xs : List EnL) : (lE xs).length = xs.length := by simp [lE]
theorem lE_at (xs : List EnL) (k : Nat) : (lE xs).getD k noEn = (xs.getD k noL).e := by
  rw [List.getD_eq_getElem?_getD, List.getD_eq_getElem?_getD, lE, List.getElem?_map]
  cases xs[k]? <;> rfl
/-- the cells of entries, one behind the other -/
def cellsE : List EnL → List Value
  | [] => []
  | x :: r => .slice x.A x.e.pl.length x.c :: .int .i64 x.e.n :: cellsE r
theorem cellsE_len (xs : List EnL) : (cellsE xs).length = xs.length * 2 := by
  induction xs with
  | nil => rfl
  | cons x r ih => simp [cellsE, ih]; omega
theorem cellsE_append (a b : List EnL) : cellsE (a ++ b) = cellsE a ++ cellsE b := by
  induction a with
  | nil => rfl
  | cons x r ih => simp [cellsE, ih]
theorem cellsE_take (xs : List EnL) : ∀ k, (cellsE xs).take (k * 2) = cellsE (xs.take k) := by
  induction xs with
  | nil => intro k; simp [cellsE]
  | cons x r ih =>
    intro k
    cases k with
    | zero => simp [cellsE]
    | succ k => rw [show (k + 1) * 2 = k * 2 + 1 + 1 by omega]; simp [cellsE, ih]
theorem cellsE_drop (xs : List EnL) : ∀ k, (cellsE xs).drop (k * 2) = cellsE (xs.drop k) := by
  induction xs with
  | nil => intro k; simp [cellsE]
  | cons x r ih =>
    intro k
    cases k with
    | zero => simp
    | succ k => rw [show (k + 1) * 2 = k * 2 + 1 + 1 by omega]; simp [cellsE, ih]
theorem cellsE_one (xs : List EnL) : ∀ v ∈ cellsE xs, v.oneCell' = true := by
  induction xs with
  | nil => intro v hv; cases hv
  | cons x r ih =>
    intro v hv
    simp only [cellsE, List.mem_cons] at hv
    rcases hv with rfl | rfl | hv
    · rfl
    · rfl
    · exact ih v hv
theorem cellsE_at (xs : List EnL) : ∀ k, k < xs.length → (cellsE xs)[k * 2]? = some (.slice (xs.getD k noL).A (xs.getD k noL).e.pl.length (xs.getD k noL).c) ∧ (cellsE xs)[k * 2 + 1]? = some (.int .i64 (xs.getD k noL).e.n) := by
  induction xs with
  | nil => intro k hk; cases hk
  | cons x r ih =>
    intro k hk
    cases k with
    | zero => simp [cellsE]
    | succ k =>
      rw [show (k + 1) * 2 = k * 2 + 1 + 1 by omega]
      simp only [cellsE, List.getElem?_cons_succ, List.getD_cons_succ]
      exact ih k (by simpa using hk)
theorem enl_mem {xs : List EnL} {k : Nat} (h : k < xs.length) : xs.getD k noL ∈ xs := by
  rw [List.getD_eq_getElem?_getD, List.getElem?_eq_getElem h]
  exact List.getElem_mem h

/-- entries that lie in a block -/
def EnsAt (w : World) (b o : Nat) (xs : List EnL) : Prop := b < w.heap.size ∧ (∀ j u, (cellsE xs)[j]? = some u → w.cell? ⟨b, o + j, none⟩ = some u) ∧ ∀ x ∈ xs, PlAt w x.A x.c x.e.pl
theorem EnsAt.later {w w' : World} {b o : Nat} {xs : List EnL} (h : EnsAt w b o xs) (hB : Below w.heap.size w w') : EnsAt w' b o xs :=
  ⟨Nat.lt_of_lt_of_le h.1 hB.size, fun j u hj => (hB.cell (p := ⟨b, o + j, none⟩) h.1).trans (h.2.1 j u hj), fun x hx => (h.2.2 x hx).later hB⟩
theorem EnsAt.pl {w : World} {b o : Nat} {xs : List EnL} (h : EnsAt w b o xs) {k : Nat} (hk : k < xs.length) : PlAt w (xs.getD k noL).A (xs.getD k noL).c (xs.getD k noL).e.pl := h.2.2 _ (enl_mem hk)
theorem EnsAt.at {w : World} {b o : Nat} {xs : List EnL} (h : EnsAt w b o xs) {k : Nat} (hk : k < xs.length) : w.cell? ⟨b, o + k * 2, none⟩ = some (.slice (xs.getD k noL).A (xs.getD k noL).e.pl.length (xs.getD k noL).c) ∧ w.cell? ⟨b, o + k * 2 + 1, none⟩ = some (.int .i64 (xs.getD k noL).e.n) := by
  obtain ⟨h1, h2⟩ := cellsE_at xs k hk
  exact ⟨h.2.1 _ _ h1, by rw [Nat.add_assoc]; exact h.2.1 _ _ h2⟩
/-- a slice of entries: none, or laid -/
def EnsV (w : World) (A : Option Addr) (cap : Nat) (xs : List EnL) : Prop := xs.length ≤ cap ∧ cap ≤ 9223372036854775807 ∧ (xs = [] ∨ ∃ b o, A = some ⟨b, o, none⟩ ∧ EnsAt w b o xs)
theorem EnsV.later {w w' : World} {A : Option Addr} {cap : Nat} {xs : List EnL} (h : EnsV w A cap xs) (hB : Below w.heap.size w w') : EnsV w' A cap xs := by
  obtain ⟨h1, h0, h2 | ⟨b, o, h2, h3⟩⟩ := h
  · exact ⟨h1, h0, Or.inl h2⟩
  · exact ⟨h1, h0, Or.inr ⟨b, o, h2, h3.later hB⟩⟩
theorem EnsV.nil (w : World) (A : Option Addr) (cap : Nat) (h : cap ≤ 9223372036854775807) : EnsV w A cap [] := ⟨Nat.zero_le _, h, Or.inl rfl⟩

/-- an edit, and where its place lies -/
structure EdL where
  x : Ed
  A : Option Addr
  c : Nat
def noD : EdL := ⟨⟨[], 0, false⟩, none, 0⟩
def lD (ys : List EdL) : List Ed := ys.map EdL.x
theorem lD_len (ys : List EdL) : (lD ys).length = ys.length := by simp [lD]
def EdsAt (w : World) (b o : Nat) (ys : List EdL) : Prop := b < w.heap.size ∧ ∀ k, k < ys.length → w.cell? ⟨b, o + k * 3, none⟩ = some (.slice (ys.getD k noD).A (ys.getD k noD).x.pl.length (ys.getD k noD).c) ∧ w.cell? ⟨b, o + k * 3 + 1, none⟩ = some (.int .i64 (ys.getD k noD).x.n) ∧ w.cell? ⟨b, o + k * 3 + 2, none⟩ = some (.bool (ys.getD k noD).x.clear) ∧ PlAt w (ys.getD k noD).A (ys.getD k noD).c (ys.getD k noD).x.pl
theorem EdsAt.later {w w' : World} {b o : Nat} {ys : List EdL} (h : EdsAt w b o ys) (hB : Below w.heap.size w w') : EdsAt w' b o ys := by
  refine ⟨Nat.lt_of_lt_of_le h.1 hB.size, fun k hk => ?_⟩
  obtain ⟨h1, h2, h3, h4⟩ := h.2 k hk
  exact ⟨(hB.cell (p := ⟨b, o + k * 3, none⟩) h.1).trans h1, (hB.cell (p := ⟨b, o + k * 3 + 1, none⟩) h.1).trans h2, (hB.cell (p := ⟨b, o + k * 3 + 2, none⟩) h.1).trans h3, h4.later hB⟩
def EdsV (w : World) (A : Option Addr) (cap : Nat) (ys : List EdL) : Prop := ys.length ≤ cap ∧ cap ≤ 9223372036854775807 ∧ (ys = [] ∨ ∃ b o, A = some ⟨b, o, none⟩ ∧ EdsAt w b o ys)
theorem EdsV.later {w w' : World} {A : Option Addr} {cap : Nat} {ys : List EdL} (h : EdsV w A cap ys) (hB : Below w.heap.size w w') : EdsV w' A cap ys := by
  obtain ⟨h1, h0, h2 | ⟨b, o, h2, h3⟩⟩ := h
  · exact ⟨h1, h0, Or.inl h2⟩
  · exact ⟨h1, h0, Or.inr ⟨b, o, h2, h3.later hB⟩⟩

section
variable {H : Type} {enc : TypeId × Value → H} {w : World} {held : Bool}
theorem cellsEn : Tryd.prog.cellsOf 77 = 2 := by kernel_rfl

theorem open_pl {fuel : Nat} {cs : List Value} {x : DataW H × List MemPlace} (h : DataW.trod enc Tryd.prog w 0 (fun _ => true) held fuel 40 cs = some x) :
    ∃ (Ap : Option Addr) (cp : Nat) (L : List Int), cs = [.slice Ap L.length cp] ∧ PlAt w Ap cp L := by
  rcases open_ints Tryd.underlying40 Tryd.underlying3 (by kernel_rfl) h with ⟨rfl, _⟩ | ⟨a', len, cap, zs, rfl, _, hl, _, hzl, _, hc, _⟩
  · exact ⟨none, 0, [], rfl, PlAt.nil _ _ _⟩
  · simp at hzl
    have hlen : (zs.take len).length = len := by simp; omega
    refine ⟨some a', cap, zs.take len, by rw [hlen], by rw [hlen]; exact hl, ?_⟩
    rcases Nat.eq_zero_or_pos len with h0 | h0
    · left
      subst h0
      simp
    right
    have c0 := hc 0 (by omega)
    have hp := addr_plain c0 rfl
    have hb := World.block_lt_of_cell? _ _ c0
    refine ⟨a'.block, a'.off, by rw [← hp], by simpa [Addr.add] using hb, fun j hj => ?_⟩
    rw [hlen] at hj
    have := hc j (by omega)
    rw [hp, plain_add] at this
    rw [this]
    simp [List.getD, hj]

theorem open_en {fuel : Nat} {cs : List Value} {x : DataW H × List MemPlace} (h : DataW.trod enc Tryd.prog w 0 (fun _ => true) held fuel 77 cs = some x) :
    ∃ (e : En) (A : Option Addr) (c : Nat), cs = [.slice A e.pl.length c, .int .i64 e.n] ∧ PlAt w A c e.pl := by
  obtain ⟨hl, n, hf⟩ := trod_one Tryd.underlying77 (by kernel_rfl) h
  rw [cellsEn] at hl
  match cs, hl with
  | [v0, v1], _ =>
    obtain ⟨y0, h0⟩ := hf 0 _ v0 rfl rfl
    obtain ⟨y1, h1⟩ := hf 1 _ v1 rfl rfl
    obtain ⟨A, c, L, e0, hP⟩ := open_pl h0
    obtain ⟨n1, e1, -, -⟩ := DataW.trod_int Tryd.underlying3 h1
    simp at e0 e1
    exact ⟨⟨L, n1⟩, A, c, by rw [e0, e1], hP⟩

theorem cells_of_each {b o : Nat} {xs : List EnL} (h : ∀ i, i < xs.length → w.cell? ⟨b, o + i * 2, none⟩ = some (.slice (xs.getD i noL).A (xs.getD i noL).e.pl.length (xs.getD i noL).c) ∧ w.cell? ⟨b, o + i * 2 + 1, none⟩ = some (.int .i64 (xs.getD i noL).e.n)) : ∀ j u, (cellsE xs)[j]? = some u → w.cell? ⟨b, o + j, none⟩ = some u := by
  intro j u hj
  have hlt : j < (cellsE xs).length := (List.getElem?_eq_some_iff.1 hj).1
  rw [cellsE_len] at hlt
  have hk : j / 2 < xs.length := by omega
  obtain ⟨h1, h2⟩ := cellsE_at xs _ hk
  obtain ⟨c1, c2⟩ := h _ hk
  rcases Nat.mod_two_eq_zero_or_one j with hm | hm
  · have e : j = j / 2 * 2 := by omega
    rw [e] at hj ⊢
    rw [h1] at hj
    rw [c1]
    exact hj
  · have e : j = j / 2 * 2 + 1 := by omega
    rw [e] at hj ⊢
    rw [h2] at hj
    rw [← Nat.add_assoc, c2]
    exact hj

theorem open_ens {r : Reach} {b0 : Nat} {v : Value} {d : DataW H} {p : List MemPlace} (hv : Value.okWide Tryd.prog w r b0 43 v) (h : DataW.Trod enc Tryd.prog w 0 (fun _ => true) held 43 v d p) :
    ∃ (A : Option Addr) (cap : Nat) (xs : List EnL), v = .slice A xs.length cap ∧ EnsV w A cap xs := by
  obtain ⟨a0, len0, cap0, rfl⟩ := okWide_slice Tryd.underlying43 hv
  obtain ⟨fuel, hf⟩ := h
  have hf' : DataW.trod enc Tryd.prog w 0 (fun _ => true) held fuel 43 [.slice a0 len0 cap0] = some (d, p) := hf
  rcases open_slice Tryd.underlying43 hf' with ⟨e, -⟩ | ⟨a, len, cap, m, n, D, Pl, e, -, hl, hcm, hm, -, hx⟩
  · simp at e
    obtain ⟨rfl, rfl, rfl⟩ := e
    exact ⟨none, 0, [], rfl, Nat.le_refl _, Nat.zero_le _, Or.inl rfl⟩
  simp at e
  obtain ⟨rfl, rfl, rfl⟩ := e
  rw [cellsEn] at hx
  simp at hm
  subst hm
  haveI : Inhabited EnL := ⟨noL⟩
  have each : ∀ i, i < len0 → ∃ y : EnL, w.cells? 0 (a.add (i * 2)) 2 = some [.slice y.A y.e.pl.length y.c, .int .i64 y.e.n] ∧ PlAt w y.A y.c y.e.pl := fun i hi => by
    obtain ⟨cs', h1, h2⟩ := hx i (by omega)
    obtain ⟨e, A, c, rfl, hp⟩ := open_en h2
    exact ⟨⟨e, A, c⟩, h1, hp⟩
  obtain ⟨Y, hY⟩ := choose_lt each
  have hlen : ((List.range len0).map Y).length = len0 := by simp
  have hg : ∀ i, i < len0 → ((List.range len0).map Y).getD i noL = Y i := fun i hi => by simp [List.getD, hi]
  refine ⟨some a, _, (List.range len0).map Y, by rw [hlen], by rw [hlen]; exact hl, hcm, ?_⟩
  rcases Nat.eq_zero_or_pos len0 with h0 | h0
  · left; subst h0; rfl
  right
  have c0 := (World.cells?_some (hY 0 h0).1).2.2 0 (by omega)
  rw [add_add] at c0
  have hp := addr_plain c0 (by omega)
  have hb := World.block_lt_of_cell? _ _ c0
  refine ⟨a.block, a.off, by rw [← hp], by simpa [Addr.add] using hb, cells_of_each fun i hi => ?_, fun x hx => ?_⟩
  · rw [hlen] at hi
    have hc := (World.cells?_some (hY i hi).1).2.2
    rw [hp] at hc
    simp only [plain_add, Nat.add_assoc] at hc
    rw [hg i hi]
    refine ⟨?_, ?_⟩
    · have := hc 0 (by omega); simpa using this
    · have := hc 1 (by omega); simpa [Nat.add_assoc] using this
  · simp only [List.mem_map, List.mem_range] at hx
    obtain ⟨i, hi, rfl⟩ := hx
    exact (hY i hi).2
end
end Go.Proofs.YtfngmnhkhfgmjacDoor
