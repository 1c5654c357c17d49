/-
  Dims of a whole and so many parts, and outlines of such dims, on plain data: when they are right, how many cells they have.
  What tallylaw4.letters and tallylaw4.flat answer, called in whatever memory: two letters; a dim of a whole and so many parts, in new memory.
  Members in a ring, each of which refers to the next, and the same with the ring open: what is needed there, and in which order.
  Members in a ring, laid one by one, in memory.
-/
import Derived.Test.YtpnfmpbgjkhicafGreatDoorOut9
import Derived.Deep.QuietTactic
import Derived.BigQuiet
import Derived.WalkSmall
import Derived.OwnWalk
import Derived.OneCell
import Derived.Lib.Builder
import Derived.Deep.AppendLies
import Derived.Deep.RegionLaw
import Derived.Test.YtpnfmpbgjkhicafGreatDoorRRA
namespace Go.Proofs.YtpnfmpbgjkhicafGreatDoor

def lettF (k : Nat) : ByteArray := ⟨#[97, (97 + k).toUInt8]⟩
def flatM (k : Nat) : Mem := match k with
  | 0 => ⟨⟨#[97, 108, 108]⟩, -1, 0, ⟨#[]⟩⟩
  | k + 1 => ⟨lettF k, 0, 1, ⟨#[]⟩⟩
/-- a whole, and n parts -/
def flatD (name : ByteArray) (n : Nat) : Dm := ⟨name, 0, n + 1, flatM⟩
def fullD (n : Nat) (i : Nat) : Dm := flatD (lettF i) n
def powN (n : Nat) : Nat → Nat
  | 0 => 1
  | k + 1 => powN n k * n
def fullErr (m n : Nat) : Int := if 4 < m ∨ 12 < n ∨ 3000 < powN n m then 4 else 0
theorem full_all : ∀ m : Fin 5, ∀ n : Fin 13, (allErr (fullD n.val) (m.val + 1)).2.2 = fullErr (m.val + 1) (n.val + 1) ∧ prodN (fullD n.val) (m.val + 1) = powN (n.val + 1) (m.val + 1) := by decide +kernel
def squareD (n : Nat) (i : Nat) : Dm := flatD (if i = 0 then ⟨#[120]⟩ else ⟨#[121]⟩) n
theorem square_all : ∀ n : Fin 11, (allErr (squareD n.val) 2).2.2 = 0 ∧ prodN (squareD n.val) 2 = (n.val + 1) * (n.val + 1) := by decide +kernel
end Go.Proofs.YtpnfmpbgjkhicafGreatDoor

namespace Go.Proofs.YtpnfmpbgjkhicafGreatDoor
open Go.ChangeShapes Go.WideShapes Go.ChangeAt Go.RowKit
set_option maxRecDepth 20000

set_option maxHeartbeats 4000000 in
theorem lettF_any (k : Nat) (w : World) (hk : k < 12) : Calls Tryz.prog 8 #[.int .i64 k] w fun e w' => e = .returned (.string (lettF k)) ∧ Below w.heap.size w w' := by
  rcases (show k = 0 ∨ k = 1 ∨ k = 2 ∨ k = 3 ∨ k = 4 ∨ k = 5 ∨ k = 6 ∨ k = 7 ∨ k = 8 ∨ k = 9 ∨ k = 10 ∨ k = 11 by omega) with rfl | rfl | rfl | rfl | rfl | rfl | rfl | rfl | rfl | rfl | rfl | rfl
  all_goals go_enter Tryz.func8, Tryz.ntmps8
  all_goals go_wp2_with fail
  all_goals go_quiet (fail)
  all_goals go_wp2_with fail
  all_goals go_ret
  all_goals exact ⟨rfl, below_drewN (Below.refl _ _) _⟩

theorem Tryz.infoMemF : (Tryz.prog.info? 26).map (fun i => (i.zero, i.size, i.bytes)) = some (some (.agg #[.string ⟨#[]⟩, .int .i64 0, .int .i64 0, .string ⟨#[]⟩]), 4, 48) := by kernel_rfl

def cellsF : Nat → List Value
  | 0 => [.string ⟨#[97, 108, 108]⟩, .int .i64 (-1), .int .i64 0, .string ⟨#[]⟩]
  | k + 1 => cellsF k ++ [.string (lettF k), .int .i64 0, .int .i64 1, .string ⟨#[]⟩]
theorem cellsF_len (k : Nat) : (cellsF k).length = (k + 1) * 4 := by
  induction k with
  | zero => rfl
  | succ k ih => rw [cellsF, List.length_append, ih]; simp; omega
theorem cellsF_at (n : Nat) : ∀ k, k < n + 1 → (cellsF n)[k * 4]? = some (.string (flatM k).name) ∧ (cellsF n)[k * 4 + 1]? = some (.int .i64 (flatM k).parent) ∧ (cellsF n)[k * 4 + 2]? = some (.int .i64 (flatM k).sign) ∧ (cellsF n)[k * 4 + 3]? = some (.string (flatM k).formula) := by
  induction n with
  | zero =>
    intro k h
    have h0 : k = 0 := by omega
    subst h0
    exact ⟨rfl, rfl, rfl, rfl⟩
  | succ n ih =>
    intro k hk
    rw [cellsF]
    have hl := cellsF_len n
    by_cases h : k = n + 1
    · subst h
      refine ⟨?_, ?_, ?_, ?_⟩ <;> rw [List.getElem?_append_right (by omega), hl]
      · rw [Nat.sub_self]; rfl
      · rw [show (n + 1) * 4 + 1 - (n + 1) * 4 = 1 by omega]; rfl
      · rw [show (n + 1) * 4 + 2 - (n + 1) * 4 = 2 by omega]; rfl
      · rw [show (n + 1) * 4 + 3 - (n + 1) * 4 = 3 by omega]; rfl
    · have := ih k (by omega)
      refine ⟨?_, ?_, ?_, ?_⟩ <;> rw [List.getElem?_append_left (by omega)]
      · exact this.1
      · exact this.2.1
      · exact this.2.2.1
      · exact this.2.2.2

/-- members that lie in a block of their own -/
def MemB (w : World) (g n : Nat) : Prop := (∃ cur, w.heap[g]? = some (.cells cur 26 (0, 0))) ∧ MemsAt w g 0 n flatM
theorem mems_same {w w' : World} {g n : Nat} {M : Nat → Mem} (h : MemsAt w g 0 n M) (he : w'.heap[g]? = w.heap[g]?) : MemsAt w' g 0 n M := by
  have hc : ∀ j, w'.cell? ⟨g, j, none⟩ = w.cell? ⟨g, j, none⟩ := fun j => World.cell?_of_block (w := w) he
  refine ⟨?_, fun i hi => ?_⟩
  · have h1 := h.1
    rw [Array.getElem?_eq_getElem h1] at he
    exact (Array.getElem?_eq_some_iff.1 he).1
  · obtain ⟨a, b, c, d⟩ := h.2 i hi
    exact ⟨(hc _).trans a, (hc _).trans b, (hc _).trans c, (hc _).trans d⟩
theorem MemB.same {w w' : World} {g n : Nat} (h : MemB w g n) (he : w'.heap[g]? = w.heap[g]?) : MemB w' g n := by
  obtain ⟨⟨cur, h1⟩, h2⟩ := h
  exact ⟨⟨cur, he.trans h1⟩, mems_same h2 he⟩
theorem MemB.lt {w : World} {g n : Nat} (h : MemB w g n) : g < w.heap.size := h.2.1
theorem MemB.later {w w' : World} {g n : Nat} (h : MemB w g n) (hB : Below w.heap.size w w') : MemB w' g n := h.same (hB.block g h.lt)
theorem flat_mems {w : World} {base : Nat} {v : Value} {n : Nat} (h : w.ownsRow base 26 4 v (n + 1) (cellsF n)) : ∃ g cap, v = .slice (some ⟨g, 0, none⟩) (n + 1) cap ∧ n + 1 ≤ cap ∧ base ≤ g ∧ MemB w g (n + 1) := by
  rcases h.2 with ⟨rfl, h0⟩ | ⟨g, cap, cur, rfl, hb, hg, hc, _, _, _⟩
  · omega
  · refine ⟨g, cap, rfl, hc, hb, ⟨cur, hg⟩, (Array.getElem?_eq_some_iff.1 hg).1, fun j hj => ?_⟩
    have hadd : ∀ j, (⟨g, 0, none⟩ : Addr).add j = ⟨g, j, none⟩ := fun j => by unfold Addr.add; split <;> simp_all
    obtain ⟨x0, x1, x2, x3⟩ := cellsF_at n j hj
    have y := fun j u => h.cells (g := g) rfl j u
    simp only [hadd] at y
    simp only [Nat.zero_add]
    exact ⟨y _ _ x0, y _ _ x1, y _ _ x2, y _ _ x3⟩

/-- a row of another type is another block -/
theorem own_ne {w : World} {B e T size : Nat} {v : Value} {n : Nat} {xs : List Value} {b : Nat} {cs : Array Value} {fr : Nat × Nat} (hown : w.ownsRow B e size v n xs) (hb : w.heap[b]? = some (.cells cs T fr)) (hTe : T ≠ e) : v.ownBlock ≠ some b := by
  rcases hown.2 with ⟨rfl, _⟩ | ⟨g, cap, cur, rfl, _, hg, _⟩
  · simp [Value.ownBlock]
  · intro h
    simp only [Value.ownBlock, Option.some.injEq] at h
    subst h
    rw [hg] at hb
    simp only [Option.some.injEq, Obj.cells.injEq] at hb
    exact hTe hb.2.1.symm
/-- what is owned stays so -/
theorem own_stays {w w' : World} {base e size : Nat} {v : Value} {n : Nat} {xs : List Value} (h : w.ownsRow base e size v n xs) (hB : Below w.heap.size w w') : w'.ownsRow base e size v n xs := by
  refine ⟨h.1, ?_⟩
  rcases h.2 with h0 | ⟨g, cap, cur, rfl, hb, hg, h1⟩
  · exact Or.inl h0
  · exact Or.inr ⟨g, cap, cur, rfl, hb, (hB.block g (Array.getElem?_eq_some_iff.1 hg).1).trans hg, h1⟩

/-- k parts lie behind the whole, in a row of the call's own, and the dim in its block shows them -/
def FlatAt (w : World) (s : ByteArray) (k : Nat) (v : Value) (wr : World) : Prop :=
  wr.ownsRow w.heap.size 26 4 v (k + 1) (cellsF k) ∧ wr.heap[w.heap.size + 2]? = some (.cells #[.string s, .int .i64 0, v] 24 (0, 0)) ∧ wr.heap[w.heap.size]? = some (.cells #[.string ⟨#[]⟩, .int .i64 0, .slice none 0 0] 24 (0, 0)) ∧ Below w.heap.size w wr
theorem dim_ne_mem : (24 : Nat) ≠ 26 := by decide
theorem FlatAt.sz {w : World} {s : ByteArray} {k : Nat} {v : Value} {wr : World} (h : FlatAt w s k v wr) : w.heap.size + 2 < wr.heap.size := (Array.getElem?_eq_some_iff.1 h.2.1).1
theorem flat_step {w wr wa w1 : World} {s : ByteArray} {k : Nat} {v v' : Value} (h : FlatAt w s k v wr) (hb : Below wr.heap.size wr wa)
    (hown : w1.ownsRow w.heap.size 26 4 v' (k + 1 + 1) (cellsF k ++ [.string (lettF k), .int .i64 0, .int .i64 1, .string ⟨#[]⟩])) (hgrow : wa.grownBy w1 v.ownBlock) : FlatAt w s (k + 1) v' (w1.setCell ⟨w.heap.size + 2, 2, none⟩ v') := by
  have hsz := h.sz
  obtain ⟨h1, h2, h3, hB⟩ := h
  have n2 := own_ne h1 h2 dim_ne_mem
  have n0 := own_ne h1 h3 dim_ne_mem
  have e2 : w1.heap[w.heap.size + 2]? = wr.heap[w.heap.size + 2]? := (hgrow.block _ (Nat.lt_of_lt_of_le hsz hb.size) (fun e => n2 e.symm)).trans (hb.block _ hsz)
  have e0 : w1.heap[w.heap.size]? = wr.heap[w.heap.size]? := (hgrow.block _ (Nat.lt_of_lt_of_le (by omega) hb.size) (fun e => n0 e.symm)).trans (hb.block _ (by omega))
  refine ⟨ownsRow_setCell_other hown (own_ne hown (e2.trans h2) dim_ne_mem) _, ?_, ?_, ?_⟩
  · simp [World.setCell, Array.getElem?_modify, e2, h2]
  · rw [Below.heap_setCell _ _ _ _ (by show w.heap.size ≠ w.heap.size + 2; omega), e0]; exact h3
  · exact ((onB hB hb).grown hgrow (by have := hB.size; have := hb.size; omega) (fun j hj => (h1.lt j hj).1)).setCell (by show w.heap.size ≤ w.heap.size + 2; omega) _

def FlatW (w : World) (s : ByteArray) : World := ((w.alloc (.cells #[.string ⟨#[]⟩, .int .i64 0, .slice none 0 0] 24)).alloc (.cells #[.string ⟨#[97, 108, 108]⟩, .int .i64 (-1), .int .i64 0, .string ⟨#[]⟩] 26)).alloc (.cells #[.string s, .int .i64 0, .slice (some ⟨w.heap.size + 1, 0, none⟩) 1 1] 24)
theorem flat_start (w : World) (s : ByteArray) : FlatAt w s 0 (.slice (some ⟨w.heap.size + 1, 0, none⟩) 1 1) (FlatW w s) := by
  unfold FlatW
  refine ⟨⟨rfl, Or.inr ⟨w.heap.size + 1, 1, #[.string ⟨#[97, 108, 108]⟩, .int .i64 (-1), .int .i64 0, .string ⟨#[]⟩], rfl, by omega, ?_, Nat.le_refl _, by decide, rfl, rfl⟩⟩, ?_, ?_, by go_grown⟩
  · rw [Below.heap_alloc _ _ _ (by simp)]
    have := heap_alloc_new (w.alloc (.cells #[.string ⟨#[]⟩, .int .i64 0, .slice none 0 0] 24)) (.cells #[.string ⟨#[97, 108, 108]⟩, .int .i64 (-1), .int .i64 0, .string ⟨#[]⟩] 26)
    simpa using this
  · have := heap_alloc_new ((w.alloc (.cells #[.string ⟨#[]⟩, .int .i64 0, .slice none 0 0] 24)).alloc (.cells #[.string ⟨#[97, 108, 108]⟩, .int .i64 (-1), .int .i64 0, .string ⟨#[]⟩] 26)) (.cells #[.string s, .int .i64 0, .slice (some ⟨w.heap.size + 1, 0, none⟩) 1 1] 24)
    simpa using this
  · rw [Below.heap_alloc _ _ _ (by simp; omega), Below.heap_alloc _ _ _ (by simp)]
    exact heap_alloc_new w _

end Go.Proofs.YtpnfmpbgjkhicafGreatDoor

namespace Go.Proofs.YtpnfmpbgjkhicafGreatDoor
open Go.ChangeShapes Go.WideShapes Go.ChangeAt Go.RowKit
set_option maxRecDepth 20000

/-- the formula that refers to a member, and one more -/
def ringF (k : Nat) : ByteArray := lettF k ++ ⟨#[43, 49]⟩
def ringM (n i : Nat) : Mem := ⟨lettF i, -1, 0, ringF ((i + 1) % n)⟩
def openM (n i : Nat) : Mem := ⟨lettF i, -1, 0, if i + 1 = n then ⟨#[]⟩ else ringF ((i + 1) % n)⟩
def ringD (n : Nat) : Dm := ⟨⟨#[97]⟩, 0, n, ringM n⟩
def openD (n : Nat) : Dm := ⟨⟨#[97]⟩, 0, n, openM n⟩
def ringN (n : Nat) : List (List Int) := (List.range n).map fun i => [(((i + 1) % n : Nat) : Int)]
def openN (n : Nat) : List (List Int) := (List.range n).map fun i => if i + 1 = n then [] else [((i + 1 : Nat) : Int)]
theorem ring_facts : ∀ n : Fin 11, dimErr (ringD (n.val + 1)) = (-1, 0) ∧ (∀ i : Fin (n.val + 1), mErr (ringD (n.val + 1)) i.val = 0) ∧ ndL (ringD (n.val + 1)) = ringN (n.val + 1) := by decide +kernel
theorem open_facts : ∀ n : Fin 11, dimErr (openD (n.val + 1)) = (-1, 0) ∧ (∀ i : Fin (n.val + 1), mErr (openD (n.val + 1)) i.val = 0) ∧ ndL (openD (n.val + 1)) = openN (n.val + 1) := by decide +kernel
theorem open_first : ∀ n : Fin 11, (ordTo (openN (n.val + 1)) (n.val + 1)).getD 0 0 = (n.val : Int) := by decide +kernel
theorem ring_row {n i : Nat} (h : i < n) : rowN (ringN n) (i : Int) = [(((i + 1) % n : Nat) : Int)] := by
  unfold rowN ringN
  simp [List.getD, h]
theorem ring_way {n : Nat} (k : Nat) (hk : k + 1 < n) : Rch (ringN n) (0 : Nat) ((k + 1 : Nat) : Int) := by
  induction k with
  | zero => exact .one (by rw [ring_row (by omega), Nat.mod_eq_of_lt hk]; simp)
  | succ k ih => exact (ih (by omega)).snoc (by rw [ring_row (by omega), Nat.mod_eq_of_lt hk]; simp)
theorem ring_cyc {n : Nat} (h : 1 ≤ n) : cycB (ringN n) 0 = true := by
  rw [cyc_iff]
  by_cases h1 : n = 1
  · subst h1
    exact .one (by rw [ring_row (by omega)]; simp)
  · obtain ⟨m, rfl⟩ : ∃ m, n = m + 2 := ⟨n - 2, by omega⟩
    exact (ring_way m (by omega)).snoc (by rw [ring_row (by omega), show m + 1 + 1 = m + 2 from rfl, Nat.mod_self]; simp)
theorem open_acyc (n i : Nat) : cycB (openN n) i = false := by
  refine up_acyc (fun a x hx => ?_) i
  unfold rowN openN at hx
  by_cases h : a.toNat < n
  · simp only [List.getD, List.getElem?_map, List.getElem?_range h, Option.map_some, Option.getD_some] at hx
    split at hx
    · cases hx
    · have := List.mem_singleton.1 hx
      omega
  · rw [List.getD_eq_getElem?_getD, List.getElem?_eq_none (by simp; omega)] at hx
    cases hx
theorem ring_err (n : Nat) (hn : n < 11) : rErr (ringD (n + 1)) = (0, 8) := by
  obtain ⟨h1, h2, h3⟩ := ring_facts ⟨n, hn⟩
  exact re2 (by rw [h1]) (fun j hj => h2 ⟨j, hj⟩) (i := 0) (Nat.succ_pos n) (by rw [h3]; exact ring_cyc (by omega)) fun j hj => absurd hj (Nat.not_lt_zero _)
theorem open_err (n : Nat) (hn : n < 11) : rErr (openD (n + 1)) = (-1, 0) := by
  obtain ⟨h1, h2, h3⟩ := open_facts ⟨n, hn⟩
  exact re3 (by rw [h1]) (fun j hj => h2 ⟨j, hj⟩) fun j _ => by rw [h3]; exact open_acyc _ j
theorem open_lst (n : Nat) (hn : n < 11) : (oLst (openD (n + 1))).length = n + 1 ∧ (oLst (openD (n + 1))).getD 0 0 = (n : Int) := by
  obtain ⟨-, -, h3⟩ := open_facts ⟨n, hn⟩
  have he : (rErr (openD (n + 1))).2 = 0 := by rw [open_err n hn]
  have ho : oLst (openD (n + 1)) = ordTo (openN (n + 1)) (n + 1) := by
    unfold oLst
    rw [if_pos he]
    exact congrArg (fun N => ordTo N (n + 1)) h3
  refine ⟨?_, by rw [ho]; exact open_first ⟨n, hn⟩⟩
  have h := ord_len (ndL_inn (openD (n + 1))) (rErr_acyc he) (openD (n + 1)).n (by rw [ndL_len]; exact Nat.le_refl _)
  unfold oLst
  rw [if_pos he]
  exact h
end Go.Proofs.YtpnfmpbgjkhicafGreatDoor

namespace Go.Proofs.YtpnfmpbgjkhicafGreatDoor
open Go.ChangeShapes Go.WideShapes Go.ChangeAt Go.RowKit
set_option maxRecDepth 20000

def cellsRg (n : Nat) : Nat → List Value
  | 0 => []
  | k + 1 => cellsRg n k ++ [.string (lettF k), .int .i64 (-1), .int .i64 0, .string (ringF ((k + 1) % n))]
theorem cellsRg_len (n k : Nat) : (cellsRg n k).length = k * 4 := by
  induction k with
  | zero => rfl
  | succ k ih => rw [cellsRg, List.length_append, ih]; simp; omega
theorem cellsRg_at (n m : Nat) : ∀ k, k < m → (cellsRg n m)[k * 4]? = some (.string (ringM n k).name) ∧ (cellsRg n m)[k * 4 + 1]? = some (.int .i64 (ringM n k).parent) ∧ (cellsRg n m)[k * 4 + 2]? = some (.int .i64 (ringM n k).sign) ∧ (cellsRg n m)[k * 4 + 3]? = some (.string (ringM n k).formula) := by
  induction m with
  | zero => intro k h; omega
  | succ m ih =>
    intro k hk
    rw [cellsRg]
    have hl := cellsRg_len n m
    by_cases h : k = m
    · subst h
      refine ⟨?_, ?_, ?_, ?_⟩ <;> rw [List.getElem?_append_right (by omega), hl]
      · rw [Nat.sub_self]; rfl
      · rw [show k * 4 + 1 - k * 4 = 1 by omega]; rfl
      · rw [show k * 4 + 2 - k * 4 = 2 by omega]; rfl
      · rw [show k * 4 + 3 - k * 4 = 3 by omega]; rfl
    · have := ih k (by omega)
      refine ⟨?_, ?_, ?_, ?_⟩ <;> rw [List.getElem?_append_left (by omega)]
      · exact this.1
      · exact this.2.1
      · exact this.2.2.1
      · exact this.2.2.2
/-- the ring's dim in its block, and its members so far in a row of their own -/
structure RingAt (w : World) (n k : Nat) (v : Value) (wr : World) : Prop where
  own : wr.ownsRow (w.heap.size + 1) 26 4 v k (cellsRg n k)
  box : wr.heap[w.heap.size]? = some (.cells #[.string ⟨#[97]⟩, .int .i64 0, v] 24 (0, 0))
  below : Below w.heap.size w wr
theorem RingAt.lt {w : World} {n k : Nat} {v : Value} {wr : World} (h : RingAt w n k v wr) : w.heap.size < wr.heap.size := (Array.getElem?_eq_some_iff.1 h.box).1
theorem ring_step {w : World} {n k : Nat} {v v' : Value} {wr w4 w6 : World} {o : Obj} (h : RingAt w n k v wr) (hB : Below wr.heap.size wr w4) (hown : w6.ownsRow (w.heap.size + 1) 26 4 v' (k + 1) (cellsRg n (k + 1))) (hgrow : (w4.alloc o).grownBy w6 v.ownBlock) : RingAt w n (k + 1) v' (w6.setCell ⟨w.heap.size, 2, none⟩ v') := by
  have hlt := h.lt
  have h4 : w4.heap[w.heap.size]? = some (.cells #[.string ⟨#[97]⟩, .int .i64 0, v] 24 (0, 0)) := (hB.block _ hlt).trans h.box
  have hne : some w.heap.size ≠ v.ownBlock := fun e => by have := (h.own.lt _ e.symm).1; omega
  have hs4 := hB.size
  have h6 : w6.heap[w.heap.size]? = some (.cells #[.string ⟨#[97]⟩, .int .i64 0, v] 24 (0, 0)) := by
    rw [hgrow.block w.heap.size (by simp; omega) hne, Below.heap_alloc _ _ _ (by omega)]
    exact h4
  refine ⟨?_, ?_, ?_⟩
  · refine ⟨hown.1, ?_⟩
    rcases hown.2 with h0 | ⟨g', cap, cur, h1, hb, hg', h2⟩
    · exact Or.inl h0
    · refine Or.inr ⟨g', cap, cur, h1, hb, ?_, h2⟩
      simp only [World.setCell, Array.getElem?_modify]
      rw [if_neg (by omega)]
      exact hg'
  · simp [World.setCell, Array.getElem?_modify, h6]
  · have h1 : Below w.heap.size w w6 := ((onB h.below hB).alloc (by omega) o).grown hgrow (by simp; omega) (fun j hj => by have := (h.own.lt j hj).1; omega)
    exact h1.setCell (Nat.le_refl _) _
theorem RingAt.mems {w : World} {n k : Nat} {v : Value} {wr : World} (h : RingAt w n k v wr) (hk : 0 < k) : ∃ g cap, v = .slice (some ⟨g, 0, none⟩) k cap ∧ k ≤ cap ∧ w.heap.size < g ∧ MemsAt wr g 0 k (ringM n) ∧ ∃ cur, wr.heap[g]? = some (.cells cur 26 (0, 0)) ∧ cur.size = cap * 4 := by
  rcases h.own.2 with ⟨rfl, h0⟩ | ⟨g, cap, cur, rfl, hb, hg, hc, _, hs, _⟩
  · omega
  · refine ⟨g, cap, rfl, hc, by omega, ⟨(Array.getElem?_eq_some_iff.1 hg).1, fun j hj => ?_⟩, cur, hg, hs⟩
    have hadd : ∀ j, (⟨g, 0, none⟩ : Addr).add j = ⟨g, j, none⟩ := fun j => by unfold Addr.add; split <;> simp_all
    obtain ⟨x0, x1, x2, x3⟩ := cellsRg_at n k j hj
    have y := fun j u => h.own.cells (g := g) rfl j u
    simp only [hadd] at y
    simp only [Nat.zero_add]
    exact ⟨y _ _ x0, y _ _ x1, y _ _ x2, y _ _ x3⟩
/-- the ring opened -/
theorem open_mems {w : World} {g n : Nat} {cur : Array Value} (hn : 0 < n) (hg : w.heap[g]? = some (.cells cur 26 (0, 0))) (hs : n * 4 ≤ cur.size) (h : MemsAt w g 0 n (ringM n)) : MemsAt (w.setCell ⟨g, (n - 1) * 4 + 3, none⟩ (.string ⟨#[]⟩)) g 0 n (openM n) := by
  have hb : (w.setCell ⟨g, (n - 1) * 4 + 3, none⟩ (.string ⟨#[]⟩)).heap[g]? = some (.cells (cur.setIfInBounds ((n - 1) * 4 + 3) (.string ⟨#[]⟩)) 26 (0, 0)) := by
    simp [World.setCell, Array.getElem?_modify, hg]
  have hc : ∀ j, j ≠ (n - 1) * 4 + 3 → (w.setCell ⟨g, (n - 1) * 4 + 3, none⟩ (.string ⟨#[]⟩)).cell? ⟨g, j, none⟩ = w.cell? ⟨g, j, none⟩ := fun j hj => by
    rw [Lib.cell_of_heap hb, Lib.cell_of_heap hg, Array.getElem?_setIfInBounds, if_neg (fun e => hj e.symm)]
  refine ⟨(Array.getElem?_eq_some_iff.1 hb).1, fun i hi => ?_⟩
  obtain ⟨a0, a1, a2, a3⟩ := h.2 i hi
  simp only [Nat.zero_add] at a0 a1 a2 a3 ⊢
  refine ⟨(hc _ (by omega)).trans a0, (hc _ (by omega)).trans a1, (hc _ (by omega)).trans a2, ?_⟩
  by_cases e : i + 1 = n
  · have ei : i = n - 1 := by omega
    subst ei
    rw [Lib.cell_of_heap hb, Array.getElem?_setIfInBounds, if_pos rfl, if_pos (by omega)]
    simp [openM, e]
  · rw [hc _ (by omega), a3]
    simp [openM, ringM, e]
end Go.Proofs.YtpnfmpbgjkhicafGreatDoor
