/-
  Dims of a whole and so many parts, and outlines of such dims, on plain data: when they are right, how many cells they have.
  Numbers written into a square, one behind the other, on plain data: each edit is right; what comes of the whole is their sum, and what comes of the rows, and of the columns, adds up to it.
  What tallylaw4.letters and tallylaw4.flat answer, called in whatever memory: two letters; a dim of a whole and so many parts, in new memory.
  What tallylaw4.square answers; the walk of tallylaw4.PlaceCounts: each place of a square has the number that its members tell.
  Edits appended one by one, in a row of a call's own; edits that are all right leave entries that are right.
  The leafs of a place's members, dim by dim: what leafs of package roll answers, called in whatever memory: a row of lists, in new memory; or what is wrong with the place.
  How members count in a place's members, dim by dim, laid out: what weights of package roll answers, called in whatever memory.
  The product of what a place's members count, and what comes of entries at a place: what product and Value of package roll answer, called in whatever memory.
  Numbers written into a square, on plain data: what comes of the whole, of each row and of each column, and that rows, and columns, add up to the whole.
  The walk of tallylaw4.RollCorner: what comes of the whole of a square is the sum of what is written in it, by rows as by columns.
  What is read of an argument of the type []int: where its numbers lie.
  A law's end by 'Below': where nothing old has turned and the row asks for no second call, the results, the arguments and the frame are enough.
-/
import Derived.Test.YtmjcnlpjnbcfjadOut9
import Derived.Test.YtmjcnlpjnbcfjadRoll1
import Derived.Deep.QuietTactic
import Derived.BigQuiet
import Derived.WalkSmall
import Derived.OwnWalk
import Derived.OneCell
import Derived.Lib.Builder
import Derived.Deep.AppendLies
import Derived.Deep.RegionLaw
import Derived.Test.YtmjcnlpjnbcfjadPl2
import Derived.Test.YtmjcnlpjnbcfjadInpO
import Derived.Test.YtmjcnlpjnbcfjadTree9
import Derived.Test.YtmjcnlpjnbcfjadPl4
import Derived.Test.YtmjcnlpjnbcfjadRoll2
import Derived.Deep.RegionHeld3
import Derived.Deep.DeepCutAuto
import Derived.Test.YtmjcnlpjnbcfjadInpE
import Derived.Test.YtmjcnlpjnbcfjadCells5
import Derived.Deep.CutBlock
import Derived.Test.YtmjcnlpjnbcfjadOpen
import Derived.OpenShut
import Derived.Test.YtmjcnlpjnbcfjadProg
import Derived.WalkKit
import Derived.ProofKit
namespace Go.Proofs.Ytmjcnlpjnbcfjad

def lettF (k : Nat) : ByteArray := ⟨#[97, (97 + k).toUInt8]⟩
def flatM (k : Nat) : Mem := match k with
  | 0 => ⟨⟨#[97, 108, 108]⟩, -1, 0, ⟨#[]⟩⟩
  | k + 1 => ⟨lettF k, 0, 1, ⟨#[]⟩⟩
/-- a whole, and n parts -/
def flatD (name : ByteArray) (n : Nat) : Dm := ⟨name, 0, n + 1, flatM⟩
def fullD (n : Nat) (i : Nat) : Dm := flatD (lettF i) n
def powN (n : Nat) : Nat → Nat
  | 0 => 1
  | k + 1 => powN n k * n
def fullErr (m n : Nat) : Int := if 4 < m ∨ 12 < n ∨ 3000 < powN n m then 4 else 0
theorem full_all : ∀ m : Fin 5, ∀ n : Fin 13, (allErr (fullD n.val) (m.val + 1)).2.2 = fullErr (m.val + 1) (n.val + 1) ∧ prodN (fullD n.val) (m.val + 1) = powN (n.val + 1) (m.val + 1) := by decide +kernel
def squareD (n : Nat) (i : Nat) : Dm := flatD (if i = 0 then ⟨#[120]⟩ else ⟨#[121]⟩) n
theorem square_all : ∀ n : Fin 11, (allErr (squareD n.val) 2).2.2 = 0 ∧ prodN (squareD n.val) 2 = (n.val + 1) * (n.val + 1) := by decide +kernel
end Go.Proofs.Ytmjcnlpjnbcfjad

namespace Go.Proofs.Ytmjcnlpjnbcfjad

theorem sq_count : ∀ n : Fin 9, ∀ i : Fin 9, ∀ a : Fin 9, 1 ≤ a.val → a.val ≤ n.val → i.val ≤ n.val →
    inB (pathOf flatM (a.val : Int)) (i.val : Int) = (decide (i.val = 0) || decide (i.val = a.val)) ∧ weightOf flatM (i.val : Int) (a.val : Int) = if i.val = 0 ∨ i.val = a.val then 1 else 0 := by decide +kernel
theorem sq_leaf : ∀ n : Fin 9, ∀ a : Fin 9, ∀ b : Fin 9, 1 ≤ a.val → a.val ≤ n.val → 1 ≤ b.val → b.val ≤ n.val →
    shapeErr (squareD n.val) 2 [(a.val : Int), (b.val : Int)] = 0 ∧ leafV (squareD n.val) 2 [(a.val : Int), (b.val : Int)] = true := by decide +kernel

/-- place k of a square's parts, row by row -/
def cornP (n k : Nat) : List Int := [((1 + k / n : Nat) : Int), ((1 + k % n : Nat) : Int)]
def cornX (n : Nat) (v : Nat → Int) (k : Nat) : Ed := ⟨cornP n k, v k, false⟩
def cornE (n : Nat) (v : Nat → Int) (k : Nat) : En := ⟨cornP n k, v k⟩
def cornL (n : Nat) (v : Nat → Int) (m : Nat) : List En := (List.range m).map (cornE n v)
def cornD (n : Nat) (v : Nat → Int) (m : Nat) : List Ed := (List.range m).map (cornX n v)
theorem corn_row {n k : Nat} (hn : 1 ≤ n) (hk : k < n * n) : 1 ≤ 1 + k / n ∧ 1 + k / n ≤ n ∧ 1 ≤ 1 + k % n ∧ 1 + k % n ≤ n := by
  have h1 : k / n < n := Nat.div_lt_of_lt_mul hk
  have h2 : k % n < n := Nat.mod_lt _ hn
  exact ⟨Nat.le_add_right _ _, by omega, Nat.le_add_right _ _, by omega⟩
theorem corn_less {n j k : Nat} (hjk : j < k) : lessL (cornP n j) (cornP n k) = true := by
  unfold cornP
  simp only [lessL]
  have h1 : j / n ≤ k / n := Nat.div_le_div_right (by omega)
  by_cases h : j / n = k / n
  · rw [if_pos (by rw [h])]
    have e1 := Nat.div_add_mod j n
    have e2 := Nat.div_add_mod k n
    rw [h] at e1
    have h2 : j % n < k % n := by omega
    rw [if_neg (by omega)]
    exact decide_eq_true (by omega)
  · rw [if_neg (by omega)]
    exact decide_eq_true (by omega)

/-- behind all that stand there -/
theorem set_last {l : List En} {p : List Int} (h : ∀ e ∈ l, lessL e.pl p = true) (x : Int) : setL l p x = l ++ [⟨p, x⟩] := by
  have hw : l.takeWhile (fun e => lessL e.pl p) = l := by
    induction l with
    | nil => rfl
    | cons e r ih => rw [List.takeWhile_cons, if_pos (h e (List.mem_cons_self ..)), ih fun y hy => h y (List.mem_cons_of_mem _ hy)]
  have hc : cntE l p = l.length := by unfold cntE; rw [hw]
  have hh : hasE l p = false := by unfold hasE; rw [hc, List.drop_length]
  unfold setL
  rw [hh, hc]
  simp
theorem corn_edit {n k : Nat} (hn1 : 1 ≤ n) (hn8 : n ≤ 8) (hk : k < n * n) {v : Nat → Int} (hv : -1000000 ≤ v k ∧ v k ≤ 1000000) : editErr (squareD n) 2 (cornL n v k) (cornX n v k) = 0 ∧ editV (cornL n v k) (cornX n v k) = cornL n v (k + 1) := by
  obtain ⟨h1, h2, h3, h4⟩ := corn_row hn1 hk
  obtain ⟨s1, s2⟩ := sq_leaf ⟨n, by omega⟩ ⟨1 + k / n, by omega⟩ ⟨1 + k % n, by omega⟩ h1 h2 h3 h4
  refine ⟨?_, ?_⟩
  · unfold editErr
    have e1 : shapeErr (squareD n) 2 (cornX n v k).pl = 0 := s1
    have e2 : leafV (squareD n) 2 (cornX n v k).pl = true := s2
    have e3 : numOk (cornX n v k).n = true := by show (decide (-1000000 ≤ v k) && decide (v k ≤ 1000000)) = true; rw [decide_eq_true hv.1, decide_eq_true hv.2]; rfl
    rw [if_neg (by rw [e1]; simp), if_neg (by simp [cornX]), if_neg (by rw [e2]; simp), if_neg (by rw [e3]; simp)]
  · show setL (cornL n v k) (cornP n k) (v k) = _
    rw [set_last]
    · simp [cornL, List.range_succ, cornE]
    · intro e he
      simp only [cornL, List.mem_map, List.mem_range] at he
      obtain ⟨j, hj, rfl⟩ := he
      exact corn_less hj
theorem corn_from {n : Nat} (hn1 : 1 ≤ n) (hn8 : n ≤ 8) {v : Nat → Int} {m : Nat} (hm : m ≤ n * n) (hv : ∀ k, k < m → -1000000 ≤ v k ∧ v k ≤ 1000000) : ∀ r k, k + r = m → editsFrom (squareD n) 2 (cornL n v k) k ((cornD n v m).drop k) = (cornL n v m, 0, 0)
  | 0, k, hk => by
    have : k = m := by omega
    subst this
    rw [List.drop_eq_nil_of_le (by simp [cornD])]
    rfl
  | r + 1, k, hk => by
    have hlt : k < (cornD n v m).length := by simp [cornD]; omega
    have hd : (cornD n v m).drop k = cornX n v k :: (cornD n v m).drop (k + 1) := by rw [List.drop_eq_getElem_cons hlt]; congr 1; simp [cornD]
    obtain ⟨h1, h2⟩ := corn_edit (v := v) hn1 hn8 (by omega : k < n * n) (hv k (by omega))
    rw [hd, editsFrom_ok _ h1, h2]
    exact corn_from hn1 hn8 hm hv r (k + 1) (by omega)
theorem square_ents : ∀ n : Fin 9, entsErr (squareD n.val) 2 [] = 0 := by decide +kernel
theorem corn_all {n : Nat} (hn1 : 1 ≤ n) (hn8 : n ≤ 8) {v : Nat → Int} {m : Nat} (hm : m ≤ n * n) (h60 : m ≤ 60) (hv : ∀ k, k < m → -1000000 ≤ v k ∧ v k ≤ 1000000) : editsV (squareD n) 2 [] (cornD n v m) = (cornL n v m, 0, 0) := by
  unfold editsV
  rw [if_neg (by simp [cornD]; omega), if_neg (by rw [square_ents ⟨n, by omega⟩]; simp)]
  have := corn_from hn1 hn8 hm hv m 0 (by omega)
  simpa [cornL] using this

/-- how one of them counts -/
theorem corn_cnt {n k : Nat} (hn1 : 1 ≤ n) (hn8 : n ≤ 8) (hk : k < n * n) (v : Nat → Int) {i j : Nat} (hi : i ≤ n) (hj : j ≤ n) :
    cntR (squareD n) 2 [(i : Int), (j : Int)] (cornE n v k) = ((decide (i = 0) || decide (i = 1 + k / n)) && (decide (j = 0) || decide (j = 1 + k % n))) ∧
    (cntR (squareD n) 2 [(i : Int), (j : Int)] (cornE n v k) = true → valR (squareD n) 2 [(i : Int), (j : Int)] (cornE n v k) = v k) := by
  obtain ⟨h1, h2, h3, h4⟩ := corn_row hn1 hk
  obtain ⟨a1, a2⟩ := sq_count ⟨n, by omega⟩ ⟨i, by omega⟩ ⟨1 + k / n, by omega⟩ h1 h2 hi
  obtain ⟨b1, b2⟩ := sq_count ⟨n, by omega⟩ ⟨j, by omega⟩ ⟨1 + k % n, by omega⟩ h3 h4 hj
  simp only at a1 a2 b1 b2
  have e1 : inTo (squareD n) [(i : Int), (j : Int)] (cornE n v k).pl 2 = ((decide (i = 0) || decide (i = 1 + k / n)) && (decide (j = 0) || decide (j = 1 + k % n))) := by
    show (true && inB (pathOf flatM ((1 + k / n : Nat) : Int)) (i : Int) && inB (pathOf flatM ((1 + k % n : Nat) : Int)) (j : Int)) = _
    rw [a1, b1, Bool.true_and]
  have e2 : pwTo (squareD n) [(i : Int), (j : Int)] (cornE n v k).pl 2 = (if i = 0 ∨ i = 1 + k / n then 1 else 0) * (if j = 0 ∨ j = 1 + k % n then 1 else 0) := by
    show 1 * weightOf flatM (i : Int) ((1 + k / n : Nat) : Int) * weightOf flatM (j : Int) ((1 + k % n : Nat) : Int) = _
    rw [a2, b2, Int.one_mul]
  unfold cntR valR
  rw [e1, e2]
  by_cases c1 : i = 0 ∨ i = 1 + k / n
  · by_cases c2 : j = 0 ∨ j = 1 + k % n
    · have d1 : (decide (i = 0) || decide (i = 1 + k / n)) = true := by simpa using c1
      have d2 : (decide (j = 0) || decide (j = 1 + k % n)) = true := by simpa using c2
      rw [d1, d2, if_pos c1, if_pos c2]
      exact ⟨rfl, fun _ => by simp [cornE]⟩
    · have d2 : (decide (j = 0) || decide (j = 1 + k % n)) = false := by simpa using c2
      rw [d2, Bool.and_false]
      exact ⟨rfl, fun h => by cases h⟩
  · have d1 : (decide (i = 0) || decide (i = 1 + k / n)) = false := by simpa using c1
    rw [d1, Bool.false_and]
    exact ⟨rfl, fun h => by cases h⟩

/-- the sum of those of the first m that are so -/
def sumIf (b : Nat → Bool) (v : Nat → Int) : Nat → Int
  | 0 => 0
  | k + 1 => sumIf b v k + (if b k = true then v k else 0)
theorem corn_roll {n : Nat} (hn1 : 1 ≤ n) (hn8 : n ≤ 8) (v : Nat → Int) {i j : Nat} (hi : i ≤ n) (hj : j ≤ n) : ∀ m, m ≤ n * n → rollN (squareD n) 2 [(i : Int), (j : Int)] (cornL n v m) = sumIf (fun k => (decide (i = 0) || decide (i = 1 + k / n)) && (decide (j = 0) || decide (j = 1 + k % n))) v m
  | 0, _ => rfl
  | m + 1, hm => by
    have ih := corn_roll hn1 hn8 v hi hj m (by omega)
    obtain ⟨h1, h2⟩ := corn_cnt hn1 hn8 (by omega : m < n * n) v hi hj
    have e : cornL n v (m + 1) = cornL n v m ++ [cornE n v m] := by simp [cornL, List.range_succ]
    rw [e, rollN_append, ih, sumIf, rollN, rollN, h1]
    by_cases hb : ((decide (i = 0) || decide (i = 1 + m / n)) && (decide (j = 0) || decide (j = 1 + m % n))) = true
    · rw [if_pos hb, if_pos hb, h2 (by rw [h1]; exact hb)]; omega
    · rw [if_neg hb, if_neg hb]; omega
/-- row by row, or column by column: each is in one -/
def sumRows (f : Nat → Nat) (v : Nat → Int) (m : Nat) : Nat → Int
  | 0 => 0
  | i + 1 => sumRows f v m i + sumIf (fun k => decide (i + 1 = f k)) v m
theorem sum_step (f : Nat → Nat) (v : Nat → Int) (m : Nat) : ∀ i, sumRows f v (m + 1) i = sumRows f v m i + (if 1 ≤ f m ∧ f m ≤ i then v m else 0)
  | 0 => by rw [sumRows, sumRows, if_neg (by omega)]; rfl
  | i + 1 => by
    rw [sumRows, sumRows, sum_step f v m i, sumIf]
    have e1 : (if decide (i + 1 = f m) = true then v m else 0) = if i + 1 = f m then v m else 0 := by by_cases h : i + 1 = f m <;> simp [h]
    rw [e1]
    by_cases h : i + 1 = f m
    · rw [if_pos h, if_neg (show ¬ (1 ≤ f m ∧ f m ≤ i) by omega), if_pos (show 1 ≤ f m ∧ f m ≤ i + 1 by omega)]; omega
    · rw [if_neg h]
      by_cases h1 : 1 ≤ f m ∧ f m ≤ i
      · rw [if_pos h1, if_pos (show 1 ≤ f m ∧ f m ≤ i + 1 by omega)]; omega
      · rw [if_neg h1, if_neg (show ¬ (1 ≤ f m ∧ f m ≤ i + 1) by omega)]; omega
theorem sum_rows (f : Nat → Nat) (v : Nat → Int) (n : Nat) : ∀ m, (∀ k, k < m → 1 ≤ f k ∧ f k ≤ n) → sumRows f v m n = sumIf (fun _ => true) v m
  | 0, _ => by
    have : ∀ i, sumRows f v 0 i = 0 := fun i => by induction i with
      | zero => rfl
      | succ i ih => rw [sumRows, ih]; rfl
    rw [this]; rfl
  | m + 1, h => by rw [sum_step, sum_rows f v n m fun k hk => h k (by omega), sumIf, if_pos (h m (by omega)), if_pos rfl]
theorem sumIf_same {a b : Nat → Bool} {v : Nat → Int} : ∀ m, (∀ k, k < m → a k = b k) → sumIf a v m = sumIf b v m
  | 0, _ => rfl
  | m + 1, h => by rw [sumIf, sumIf, sumIf_same m fun k hk => h k (by omega), h m (by omega)]
end Go.Proofs.Ytmjcnlpjnbcfjad

namespace Go.Proofs.Ytmjcnlpjnbcfjad
open Go.ChangeShapes Go.WideShapes Go.ChangeAt Go.RowKit
set_option maxRecDepth 20000

set_option maxHeartbeats 4000000 in
theorem lettF_any (k : Nat) (w : World) (hk : k < 12) : Calls Try.prog 54 #[.int .i64 k] w fun e w' => e = .returned (.string (lettF k)) ∧ Below w.heap.size w w' := by
  rcases (show k = 0 ∨ k = 1 ∨ k = 2 ∨ k = 3 ∨ k = 4 ∨ k = 5 ∨ k = 6 ∨ k = 7 ∨ k = 8 ∨ k = 9 ∨ k = 10 ∨ k = 11 by omega) with rfl | rfl | rfl | rfl | rfl | rfl | rfl | rfl | rfl | rfl | rfl | rfl
  all_goals go_enter Try.func54, Try.ntmps54
  all_goals go_wp2_with fail
  all_goals go_quiet (fail)
  all_goals go_wp2_with fail
  all_goals go_ret
  all_goals exact ⟨rfl, below_drewN (Below.refl _ _) _⟩

theorem Try.infoMemF : (Try.prog.info? 29).map (fun i => (i.zero, i.size, i.bytes)) = some (some (.agg #[.string ⟨#[]⟩, .int .i64 0, .int .i64 0, .string ⟨#[]⟩]), 4, 48) := by kernel_rfl

def cellsF : Nat → List Value
  | 0 => [.string ⟨#[97, 108, 108]⟩, .int .i64 (-1), .int .i64 0, .string ⟨#[]⟩]
  | k + 1 => cellsF k ++ [.string (lettF k), .int .i64 0, .int .i64 1, .string ⟨#[]⟩]
theorem cellsF_len (k : Nat) : (cellsF k).length = (k + 1) * 4 := by
  induction k with
  | zero => rfl
  | succ k ih => rw [cellsF, List.length_append, ih]; simp; omega
theorem cellsF_at (n : Nat) : ∀ k, k < n + 1 → (cellsF n)[k * 4]? = some (.string (flatM k).name) ∧ (cellsF n)[k * 4 + 1]? = some (.int .i64 (flatM k).parent) ∧ (cellsF n)[k * 4 + 2]? = some (.int .i64 (flatM k).sign) ∧ (cellsF n)[k * 4 + 3]? = some (.string (flatM k).formula) := by
  induction n with
  | zero =>
    intro k h
    have h0 : k = 0 := by omega
    subst h0
    exact ⟨rfl, rfl, rfl, rfl⟩
  | succ n ih =>
    intro k hk
    rw [cellsF]
    have hl := cellsF_len n
    by_cases h : k = n + 1
    · subst h
      refine ⟨?_, ?_, ?_, ?_⟩ <;> rw [List.getElem?_append_right (by omega), hl]
      · rw [Nat.sub_self]; rfl
      · rw [show (n + 1) * 4 + 1 - (n + 1) * 4 = 1 by omega]; rfl
      · rw [show (n + 1) * 4 + 2 - (n + 1) * 4 = 2 by omega]; rfl
      · rw [show (n + 1) * 4 + 3 - (n + 1) * 4 = 3 by omega]; rfl
    · have := ih k (by omega)
      refine ⟨?_, ?_, ?_, ?_⟩ <;> rw [List.getElem?_append_left (by omega)]
      · exact this.1
      · exact this.2.1
      · exact this.2.2.1
      · exact this.2.2.2

/-- members that lie in a block of their own -/
def MemB (w : World) (g n : Nat) : Prop := (∃ cur, w.heap[g]? = some (.cells cur 29 (0, 0))) ∧ MemsAt w g 0 n flatM
theorem mems_same {w w' : World} {g n : Nat} {M : Nat → Mem} (h : MemsAt w g 0 n M) (he : w'.heap[g]? = w.heap[g]?) : MemsAt w' g 0 n M := by
  have hc : ∀ j, w'.cell? ⟨g, j, none⟩ = w.cell? ⟨g, j, none⟩ := fun j => World.cell?_of_block (w := w) he
  refine ⟨?_, fun i hi => ?_⟩
  · have h1 := h.1
    rw [Array.getElem?_eq_getElem h1] at he
    exact (Array.getElem?_eq_some_iff.1 he).1
  · obtain ⟨a, b, c, d⟩ := h.2 i hi
    exact ⟨(hc _).trans a, (hc _).trans b, (hc _).trans c, (hc _).trans d⟩
theorem MemB.same {w w' : World} {g n : Nat} (h : MemB w g n) (he : w'.heap[g]? = w.heap[g]?) : MemB w' g n := by
  obtain ⟨⟨cur, h1⟩, h2⟩ := h
  exact ⟨⟨cur, he.trans h1⟩, mems_same h2 he⟩
theorem MemB.lt {w : World} {g n : Nat} (h : MemB w g n) : g < w.heap.size := h.2.1
theorem MemB.later {w w' : World} {g n : Nat} (h : MemB w g n) (hB : Below w.heap.size w w') : MemB w' g n := h.same (hB.block g h.lt)
theorem flat_mems {w : World} {base : Nat} {v : Value} {n : Nat} (h : w.ownsRow base 29 4 v (n + 1) (cellsF n)) : ∃ g cap, v = .slice (some ⟨g, 0, none⟩) (n + 1) cap ∧ n + 1 ≤ cap ∧ base ≤ g ∧ MemB w g (n + 1) := by
  rcases h.2 with ⟨rfl, h0⟩ | ⟨g, cap, cur, rfl, hb, hg, hc, _, _, _⟩
  · omega
  · refine ⟨g, cap, rfl, hc, hb, ⟨cur, hg⟩, (Array.getElem?_eq_some_iff.1 hg).1, fun j hj => ?_⟩
    have hadd : ∀ j, (⟨g, 0, none⟩ : Addr).add j = ⟨g, j, none⟩ := fun j => by unfold Addr.add; split <;> simp_all
    obtain ⟨x0, x1, x2, x3⟩ := cellsF_at n j hj
    have y := fun j u => h.cells (g := g) rfl j u
    simp only [hadd] at y
    simp only [Nat.zero_add]
    exact ⟨y _ _ x0, y _ _ x1, y _ _ x2, y _ _ x3⟩

/-- a row of another type is another block -/
theorem own_ne {w : World} {B e T size : Nat} {v : Value} {n : Nat} {xs : List Value} {b : Nat} {cs : Array Value} {fr : Nat × Nat} (hown : w.ownsRow B e size v n xs) (hb : w.heap[b]? = some (.cells cs T fr)) (hTe : T ≠ e) : v.ownBlock ≠ some b := by
  rcases hown.2 with ⟨rfl, _⟩ | ⟨g, cap, cur, rfl, _, hg, _⟩
  · simp [Value.ownBlock]
  · intro h
    simp only [Value.ownBlock, Option.some.injEq] at h
    subst h
    rw [hg] at hb
    simp only [Option.some.injEq, Obj.cells.injEq] at hb
    exact hTe hb.2.1.symm
/-- what is owned stays so -/
theorem own_stays {w w' : World} {base e size : Nat} {v : Value} {n : Nat} {xs : List Value} (h : w.ownsRow base e size v n xs) (hB : Below w.heap.size w w') : w'.ownsRow base e size v n xs := by
  refine ⟨h.1, ?_⟩
  rcases h.2 with h0 | ⟨g, cap, cur, rfl, hb, hg, h1⟩
  · exact Or.inl h0
  · exact Or.inr ⟨g, cap, cur, rfl, hb, (hB.block g (Array.getElem?_eq_some_iff.1 hg).1).trans hg, h1⟩

/-- k parts lie behind the whole, in a row of the call's own, and the dim in its block shows them -/
def FlatAt (w : World) (s : ByteArray) (k : Nat) (v : Value) (wr : World) : Prop :=
  wr.ownsRow w.heap.size 29 4 v (k + 1) (cellsF k) ∧ wr.heap[w.heap.size + 2]? = some (.cells #[.string s, .int .i64 0, v] 32 (0, 0)) ∧ wr.heap[w.heap.size]? = some (.cells #[.string ⟨#[]⟩, .int .i64 0, .slice none 0 0] 32 (0, 0)) ∧ Below w.heap.size w wr
theorem dim_ne_mem : (32 : Nat) ≠ 29 := by decide
theorem FlatAt.sz {w : World} {s : ByteArray} {k : Nat} {v : Value} {wr : World} (h : FlatAt w s k v wr) : w.heap.size + 2 < wr.heap.size := (Array.getElem?_eq_some_iff.1 h.2.1).1
theorem flat_step {w wr wa w1 : World} {s : ByteArray} {k : Nat} {v v' : Value} (h : FlatAt w s k v wr) (hb : Below wr.heap.size wr wa)
    (hown : w1.ownsRow w.heap.size 29 4 v' (k + 1 + 1) (cellsF k ++ [.string (lettF k), .int .i64 0, .int .i64 1, .string ⟨#[]⟩])) (hgrow : wa.grownBy w1 v.ownBlock) : FlatAt w s (k + 1) v' (w1.setCell ⟨w.heap.size + 2, 2, none⟩ v') := by
  have hsz := h.sz
  obtain ⟨h1, h2, h3, hB⟩ := h
  have n2 := own_ne h1 h2 dim_ne_mem
  have n0 := own_ne h1 h3 dim_ne_mem
  have e2 : w1.heap[w.heap.size + 2]? = wr.heap[w.heap.size + 2]? := (hgrow.block _ (Nat.lt_of_lt_of_le hsz hb.size) (fun e => n2 e.symm)).trans (hb.block _ hsz)
  have e0 : w1.heap[w.heap.size]? = wr.heap[w.heap.size]? := (hgrow.block _ (Nat.lt_of_lt_of_le (by omega) hb.size) (fun e => n0 e.symm)).trans (hb.block _ (by omega))
  refine ⟨ownsRow_setCell_other hown (own_ne hown (e2.trans h2) dim_ne_mem) _, ?_, ?_, ?_⟩
  · simp [World.setCell, Array.getElem?_modify, e2, h2]
  · rw [Below.heap_setCell _ _ _ _ (by show w.heap.size ≠ w.heap.size + 2; omega), e0]; exact h3
  · exact ((onB hB hb).grown hgrow (by have := hB.size; have := hb.size; omega) (fun j hj => (h1.lt j hj).1)).setCell (by show w.heap.size ≤ w.heap.size + 2; omega) _

def FlatW (w : World) (s : ByteArray) : World := ((w.alloc (.cells #[.string ⟨#[]⟩, .int .i64 0, .slice none 0 0] 32)).alloc (.cells #[.string ⟨#[97, 108, 108]⟩, .int .i64 (-1), .int .i64 0, .string ⟨#[]⟩] 29)).alloc (.cells #[.string s, .int .i64 0, .slice (some ⟨w.heap.size + 1, 0, none⟩) 1 1] 32)
theorem flat_start (w : World) (s : ByteArray) : FlatAt w s 0 (.slice (some ⟨w.heap.size + 1, 0, none⟩) 1 1) (FlatW w s) := by
  unfold FlatW
  refine ⟨⟨rfl, Or.inr ⟨w.heap.size + 1, 1, #[.string ⟨#[97, 108, 108]⟩, .int .i64 (-1), .int .i64 0, .string ⟨#[]⟩], rfl, by omega, ?_, Nat.le_refl _, by decide, rfl, rfl⟩⟩, ?_, ?_, by go_grown⟩
  · rw [Below.heap_alloc _ _ _ (by simp)]
    have := heap_alloc_new (w.alloc (.cells #[.string ⟨#[]⟩, .int .i64 0, .slice none 0 0] 32)) (.cells #[.string ⟨#[97, 108, 108]⟩, .int .i64 (-1), .int .i64 0, .string ⟨#[]⟩] 29)
    simpa using this
  · have := heap_alloc_new ((w.alloc (.cells #[.string ⟨#[]⟩, .int .i64 0, .slice none 0 0] 32)).alloc (.cells #[.string ⟨#[97, 108, 108]⟩, .int .i64 (-1), .int .i64 0, .string ⟨#[]⟩] 29)) (.cells #[.string s, .int .i64 0, .slice (some ⟨w.heap.size + 1, 0, none⟩) 1 1] 32)
    simpa using this
  · rw [Below.heap_alloc _ _ _ (by simp; omega), Below.heap_alloc _ _ _ (by simp)]
    exact heap_alloc_new w _

set_option maxHeartbeats 8000000 in
theorem flat_any (s : ByteArray) (n : Nat) (w : World) (hn : n ≤ 12) : Calls Try.prog 32 #[.string s, .int .i64 n] w fun e w' => (∃ g cap, e = .returned (.agg #[.string s, .int .i64 0, .slice (some ⟨g, 0, none⟩) (n + 1) cap]) ∧ n + 1 ≤ cap ∧ w.heap.size ≤ g ∧ MemB w' g (n + 1)) ∧ Below w.heap.size w w' := by
  obtain ⟨i0, hi0, hz0, hz1, hz2⟩ := info_parts Try.infoMemF
  have hn' : (n : Int) ≤ 12 := by omega
  have HL0 : Hid (FlatAt w s 0 (.slice (some ⟨w.heap.size + 1, 0, none⟩) 1 1) (FlatW w s)) := flat_start w s
  go_enter Try.func32, Try.ntmps32
  go_wp2_with fail
  go_loopg [6] n (fun g s6 wr => ∃ (k : Nat) (v : Value), k ≤ n ∧ g = n - k ∧ s6 = .int .i64 k ∧ FlatAt w s k v wr)
  case atStart => exact ⟨0, _, Nat.zero_le _, rfl, rfl, HL0.out⟩
  case round =>
    obtain ⟨k, v, hk, rfl, rfl, hrel⟩ := hrel
    have HR : Hid (FlatAt w s k v wr) := hrel
    have hqr := hrel.sz
    by_cases hlt : k < n
    · have hki : (k : Int) < (n : Int) := by omega
      obtain ⟨hown, h2, h3, hB⟩ := hrel
      have HO : Hid (wr.ownsRow w.heap.size 29 4 v (k + 1) (cellsF k)) := hown
      have c2 : wr.cell? ⟨w.heap.size + 2, 2, none⟩ = some v := by rw [Lib.cell_of_heap h2]; rfl
      have c3 : wr.frozen? ⟨w.heap.size + 2, 2, none⟩ = false := Lib.frozen_of_heap h2 2
      have HC : Hid (∀ w', Below wr.heap.size wr w' → w'.cell? ⟨w.heap.size + 2, 2, none⟩ = some v ∧ w'.frozen? ⟨w.heap.size + 2, 2, none⟩ = false) := fun w' hw' => ⟨(hw'.cell (p := ⟨w.heap.size + 2, 2, none⟩) hqr).trans c2, (hw'.frozen (p := ⟨w.heap.size + 2, 2, none⟩) hqr).trans c3⟩
      have HLt : Hid (∀ w', Calls Try.prog 54 #[.int .i64 k] w' fun e w'' => e = .returned (.string (lettF k)) ∧ Below w'.heap.size w' w'') := fun w' => lettF_any k w' (by omega)
      have HNE : Hid (some (w.heap.size + 2) ≠ v.ownBlock) := fun e => own_ne hown h2 dim_ne_mem e.symm
      clear hB hown h2 h3
      go_wp2_with fail
      go_region_law ((first
          | (refine step_append_lies _ (by rfl) _ _ _ (by rfl) w.heap.size 29 i0 _ 4 48 Try.underlying30 hi0 hz0 hz1 hz2 rfl (by omega) v (k + 1) (cellsF k) (by rfl) (own_stays HO.out (by go_grown)) ⟨w4.heap.size, 0, none⟩ 1 1 [.string (lettF k), .int .i64 0, .int .i64 1, .string ⟨#[]⟩] (by rfl) (by rfl) (World.news_of_block (cs := #[.string (lettF k), .int .i64 0, .int .i64 1, .string ⟨#[]⟩]) (t := 29) (fr := (0, 0)) (heap_alloc_new w4 _)) (by simp [Value.oneCell']) (by omega) (by unfold maxLen; omega) (by omega) (by simp; omega) (w4.heap.size + 1) (by simp) ?_; intro gg cg w6 hown6 hgrow hat hlt6; have y1 := (hgrow.cell_far ⟨w.heap.size + 2, 2, none⟩ (by simp; omega) HNE.out).trans (HC.out _ (by go_grown)).1; have y2 := (hgrow.frozen_far ⟨w.heap.size + 2, 2, none⟩ (by simp; omega) HNE.out).trans (HC.out _ (by go_grown)).2)
          | (go_simp; refine (HLt.out _).mono ?_; rintro e w4 ⟨rfl, hb4⟩; have hN4 := onB (W0 := wr) (by go_grown) hb4; have hs4 := hN4.size; obtain ⟨x1, x2⟩ := HC.out _ hN4; have hq4 : w.heap.size + 2 < w4.heap.size := Nat.lt_of_lt_of_le hqr hs4; clear hb4)))
      all_goals (have HS := flat_step HR.out (by go_grown) hown6 hgrow)
      all_goals clear hown6 hgrow
      all_goals go_wp2_with fail
      all_goals go_roundg (n - (k + 1))
      all_goals first | omega | exact ⟨k + 1, _, by omega, rfl, by go_num, HS⟩
    · have hke : n = k := by omega
      subst hke
      obtain ⟨hown, h2, h3, hB⟩ := hrel
      have c0 : wr.cell? ⟨w.heap.size + 2, 0, none⟩ = some (.string s) := by rw [Lib.cell_of_heap h2]; rfl
      have c1 : wr.cell? ⟨w.heap.size + 2, 1, none⟩ = some (.int .i64 0) := by rw [Lib.cell_of_heap h2]; rfl
      have c2 : wr.cell? ⟨w.heap.size + 2, 2, none⟩ = some v := by rw [Lib.cell_of_heap h2]; rfl
      have d0 : wr.cell? ⟨w.heap.size, 0, none⟩ = some (.string ⟨#[]⟩) := by rw [Lib.cell_of_heap h3]; rfl
      have d1 : wr.cell? ⟨w.heap.size, 1, none⟩ = some (.int .i64 0) := by rw [Lib.cell_of_heap h3]; rfl
      have d2 : wr.cell? ⟨w.heap.size, 2, none⟩ = some (.slice none 0 0) := by rw [Lib.cell_of_heap h3]; rfl
      have f0 := Lib.frozen_of_heap h3 0
      have f1 := Lib.frozen_of_heap h3 1
      have f2 := Lib.frozen_of_heap h3 2
      obtain ⟨g, cap, rfl, hc, hg, hMB⟩ := flat_mems hown
      have HF : Hid (FlatAt w s n (.slice (some ⟨g, 0, none⟩) (n + 1) cap) wr) := ⟨hown, h2, h3, hB⟩
      have HMB : Hid (MemB wr g (n + 1)) := hMB
      clear hown h2 h3 hB hMB HR HL0
      go_wp2_with fail
      have hne : g ≠ w.heap.size := fun e => own_ne HF.out.1 HF.out.2.2.1 dim_ne_mem (by show some g = _; rw [e])
      refine bodyPost_ret (v := .agg #[.string s, .int .i64 0, .slice (some ⟨g, 0, none⟩) (n + 1) cap]) (by simp [results, Try.results32, go_sem, d0, d1, d2]) rfl ⟨⟨g, cap, rfl, hc, hg, HMB.out.same ?_⟩, ?_⟩
      · rw [Below.heap_setCell _ _ _ _ hne, Below.heap_setCell _ _ _ _ hne, Below.heap_setCell _ _ _ _ hne]
      · exact ((HF.out.2.2.2.setCell (Nat.le_refl _) _).setCell (Nat.le_refl _) _).setCell (Nat.le_refl _) _
end Go.Proofs.Ytmjcnlpjnbcfjad

namespace Go.Proofs.Ytmjcnlpjnbcfjad
open Go.ChangeShapes Go.WideShapes Go.ChangeAt Go.RowKit
set_option maxRecDepth 20000

def SqA (g h : Nat) (i : Nat) : Option Addr := if i = 0 then some ⟨g, 0, none⟩ else some ⟨h, 0, none⟩
def SqC (c d : Nat) (i : Nat) : Nat := if i = 0 then c else d

theorem new_cell (w : World) (a : Addr) (u : Value) (cs : Array Value) (t j : Nat) : ((w.setCell a u).alloc (.cells cs t)).cell? ⟨w.heap.size, j, none⟩ = cs[j]? := by
  have h := heap_alloc_new (w.setCell a u) (.cells cs t)
  have e : (w.setCell a u).heap.size = w.heap.size := by simp [World.setCell]
  rw [e] at h
  exact Lib.cell_of_heap h j
theorem new_mem {w : World} {a : Addr} {u : Value} {o : Obj} {g n : Nat} (h : MemB w g n) (hne : g ≠ a.block) : MemB ((w.setCell a u).alloc o) g n := by
  have e : (w.setCell a u).heap.size = w.heap.size := by simp [World.setCell]
  refine h.same ?_
  rw [Below.heap_alloc _ _ _ (by rw [e]; exact h.lt), Below.heap_setCell _ _ _ _ hne]

set_option maxHeartbeats 4000000 in
theorem square_any (n : Nat) (w : World) (hn : n ≤ 12) : Calls Try.prog 12 #[.int .i64 n] w fun e w' => (∃ A0 A C, e = .returned (.agg #[.slice A0 2 2]) ∧ DimsV w' A0 2 2 (squareD n) A C) ∧ Below w.heap.size w w' := by
  have h1 := flat_any ⟨#[120]⟩ n (ownOut w none 0 0 24) hn
  have HB0 : Hid (Below w.heap.size w (ownOut w none 0 0 24)) := ownOut_below ..
  go_enter Try.func12, Try.ntmps12
  go_wp2_with fail
  refine h1.mono ?_
  rintro e w1 ⟨⟨g1, k1, rfl, hc1, hg1, hM1⟩, hb1⟩
  have hB1 := onB HB0.out hb1
  have hz1 : w.heap.size < w1.heap.size := by have := hb1.size; rw [ownOut_size] at this; omega
  have c1 : w1.cell? ⟨w.heap.size, 0, none⟩ = some (.slice none 0 0) := (hb1.cell (p := ⟨w.heap.size, 0, none⟩) (by show w.heap.size < _; rw [ownOut_size]; omega)).trans (ownOut_at ..)
  have f1 : w1.frozen? ⟨w.heap.size, 0, none⟩ = false := (hb1.frozen (p := ⟨w.heap.size, 0, none⟩) (by show w.heap.size < _; rw [ownOut_size]; omega)).trans (by unfold ownOut; exact World.frozen?_alloc_at _ _ _ _ rfl)
  have h2 := flat_any ⟨#[121]⟩ n w1 hn
  clear h1 hb1
  go_wp2_with fail
  refine h2.mono ?_
  rintro e w2 ⟨⟨g2, k2, rfl, hc2, hg2, hM2⟩, hb2⟩
  have hB2 := onB hB1 hb2
  have hz2 : w.heap.size < w2.heap.size := Nat.lt_of_lt_of_le hz1 hb2.size
  have c2 := (hb2.cell (p := ⟨w.heap.size, 0, none⟩) hz1).trans c1
  have f2 := (hb2.frozen (p := ⟨w.heap.size, 0, none⟩) hz1).trans f1
  have HM1 : Hid (MemB w2 g1 (n + 1)) := hM1.later hb2
  have HM2 : Hid (MemB w2 g2 (n + 1)) := hM2
  have HB2 : Hid (Below w.heap.size w w2) := hB2
  clear c1 f1 h2 hM1 hM2 hb2 hB1 hB2
  go_wp2_with fail
  rw [ownOut_size] at hg1
  have hq : ∀ v o, ((w2.setCell ⟨w.heap.size, 0, none⟩ v).alloc o).cell? ⟨w.heap.size, 0, none⟩ = some v := fun v o => by
    rw [World.cell?_alloc_lt _ _ ⟨w.heap.size, 0, none⟩ (by show w.heap.size < _; simp [World.setCell]; exact hz2), World.cell?_setCell_same _ _ _ c2]
  refine bodyPost_ret (v := .agg #[.slice (some ⟨w2.heap.size, 0, none⟩) 2 2]) (by simp [results, Try.results12, go_sem, hq]) rfl ⟨⟨some ⟨w2.heap.size, 0, none⟩, SqA g1 g2, SqC k1 k2, rfl, Nat.le_refl _, Or.inr ⟨_, _, rfl, by simp [World.setCell], fun i hi => ?_⟩⟩, ?_⟩
  · match i, hi with
    | 0, _ => exact ⟨new_cell _ _ _ _ _ 0, new_cell _ _ _ _ _ 1, new_cell _ _ _ _ _ 2, hc1, Or.inr ⟨g1, 0, rfl, (new_mem HM1.out (by show g1 ≠ w.heap.size; omega)).2⟩⟩
    | 1, _ => exact ⟨new_cell _ _ _ _ _ 3, new_cell _ _ _ _ _ 4, new_cell _ _ _ _ _ 5, hc2, Or.inr ⟨g2, 0, rfl, (new_mem HM2.out (by show g2 ≠ w.heap.size; omega)).2⟩⟩
  · exact (HB2.out.setCell (Nat.le_refl _) _).alloc (by simp [World.setCell]; omega) _

theorem sq_place {n X : Nat} (h : X < (n + 1) * (n + 1)) : placeL (squareD n) 2 X = [((X / (n + 1) : Nat) : Int), ((X % (n + 1) : Nat) : Int)] := by
  have h1 : X / (n + 1) < n + 1 := Nat.div_lt_of_lt_mul h
  show [((X / (n + 1) % (n + 1) : Nat) : Int), ((X % (n + 1) : Nat) : Int)] = _
  rw [Nat.mod_eq_of_lt h1]
theorem sq_right {n : Nat} (h : n ≤ 10) : (allErr (squareD n) 2).2.2 = 0 ∧ prodN (squareD n) 2 = (n + 1) * (n + 1) := square_all ⟨n, by omega⟩
end Go.Proofs.Ytmjcnlpjnbcfjad

namespace Go.Proofs.Ytmjcnlpjnbcfjad
open Go.ChangeShapes Go.WideShapes Go.ChangeAt Go.RowKit
set_option maxRecDepth 20000

/-- edits that are all right leave entries that are right -/
theorem Ens.edits {D : Nat → Dm} {n : Nat} : ∀ (xs : List Ed) (l : List En) (i : Nat), Ens D n l → (editsFrom D n l i xs).2.2 = 0 → Ens D n (editsFrom D n l i xs).1
  | [], l, i, h, _ => h
  | x :: r, l, i, h, h0 => by
    by_cases he : editErr D n l x = 0
    · rw [editsFrom_ok r he] at h0 ⊢
      exact Ens.edits r _ _ (h.edit he).2 h0
    · rw [editsFrom_bad r he] at h0
      exact absurd h0 he
theorem Try.infoEd : (Try.prog.info? 50).map (fun i => (i.zero, i.size, i.bytes)) = some (some (.agg #[.slice none 0 0, .int .i64 0, .bool false]), 3, 40) := by kernel_rfl
theorem edit_ne_int : (3 : Nat) ≠ 50 := by decide
def cellsX : List EdL → List Value
  | [] => []
  | y :: r => .slice y.A y.x.pl.length y.c :: .int .i64 y.x.n :: .bool y.x.clear :: cellsX r
theorem cellsX_append (a b : List EdL) : cellsX (a ++ b) = cellsX a ++ cellsX b := by
  induction a with
  | nil => rfl
  | cons x r ih => simp [cellsX, ih]
theorem cellsX_at (ys : List EdL) : ∀ k, k < ys.length → (cellsX ys)[k * 3]? = some (.slice (ys.getD k noD).A (ys.getD k noD).x.pl.length (ys.getD k noD).c) ∧ (cellsX ys)[k * 3 + 1]? = some (.int .i64 (ys.getD k noD).x.n) ∧ (cellsX ys)[k * 3 + 2]? = some (.bool (ys.getD k noD).x.clear) := by
  induction ys with
  | nil => intro k hk; cases hk
  | cons x r ih =>
    intro k hk
    cases k with
    | zero => simp [cellsX]
    | succ k =>
      rw [show (k + 1) * 3 = k * 3 + 1 + 1 + 1 by omega]
      simp only [cellsX, List.getElem?_cons_succ, List.getD_cons_succ]
      exact ih k (by simpa using hk)
theorem plty_own_stays {w w' : World} {base : Nat} {v : Value} {n : Nat} {zs : List Value} {A : Option Addr} {c : Nat} {L : List Int} (h : PlTy w A c L) (hown : w.ownsRow base 50 3 v n zs) (hG : w.grownBy w' v.ownBlock) : PlTy w' A c L := by
  obtain ⟨h1, h2 | ⟨b, o, cs, fr', h2, h3, h4⟩⟩ := h
  · exact ⟨h1, Or.inl h2⟩
  · have hne := own_ne hown h3 edit_ne_int
    have hb : w'.heap[b]? = w.heap[b]? := hG.block b (Array.getElem?_eq_some_iff.1 h3).1 (Ne.symm hne)
    exact ⟨h1, Or.inr ⟨b, o, cs, fr', h2, hb.trans h3, fun j hj => (World.cell?_of_block (a := ⟨b, o + j, none⟩) hb).trans (h4 j hj)⟩⟩
theorem eds_own {w : World} {base : Nat} {v : Value} {ys : List EdL} (h : w.ownsRow base 50 3 v ys.length (cellsX ys)) (hp : ∀ y ∈ ys, PlTy w y.A y.c y.x.pl) : ∃ A c, v = .slice A ys.length c ∧ EdsV w A c ys := by
  rcases h.2 with ⟨rfl, h0⟩ | ⟨g, cap, cur, rfl, hb, hg, hc, hm, _, _⟩
  · refine ⟨none, 0, by rw [h0], by omega, by decide, Or.inl (List.eq_nil_of_length_eq_zero h0)⟩
  · refine ⟨_, cap, rfl, hc, by unfold maxLen at hm; omega, Or.inr ⟨g, 0, rfl, (Array.getElem?_eq_some_iff.1 hg).1, fun k hk => ?_⟩⟩
    obtain ⟨x0, x1, x2⟩ := cellsX_at ys k hk
    have y := fun j u => h.cells (g := g) rfl j u
    simp only [plain_add] at y
    refine ⟨y _ _ x0, ?_, ?_, ?_⟩
    · rw [Nat.add_assoc]; exact y _ _ x1
    · rw [Nat.add_assoc]; exact y _ _ x2
    · refine (hp _ ?_).pl
      rw [List.getD_eq_getElem?_getD, List.getElem?_eq_getElem hk]
      exact List.getElem_mem hk
theorem lD_append (a b : List EdL) : lD (a ++ b) = lD a ++ lD b := by simp [lD]

/-- a world with a place of two in a block, and an edit of it in the next one -/
def manyW (w : World) (a b i : Int) : World := (w.alloc (.cells #[.int .i64 a, .int .i64 b] 3)).alloc (.cells #[.slice (some ⟨w.heap.size, 0, none⟩) 2 2, .int .i64 i, .bool false] 50)
theorem manyW_below (w : World) (a b i : Int) : Below w.heap.size w (manyW w a b i) := by unfold manyW; go_grown
theorem manyW_size (w : World) (a b i : Int) : (manyW w a b i).heap.size = w.heap.size + 2 := by unfold manyW; simp
theorem manyW_pl (w : World) (a b i : Int) : PlTy (manyW w a b i) (some ⟨w.heap.size, 0, none⟩) 2 [a, b] := by
  have h : (manyW w a b i).heap[w.heap.size]? = some (.cells #[.int .i64 a, .int .i64 b] 3 (0, 0)) := by
    unfold manyW
    rw [Below.heap_alloc _ _ _ (by simp)]
    exact heap_alloc_new w _
  refine ⟨by simp, Or.inr ⟨_, _, _, _, rfl, h, fun j hj => ?_⟩⟩
  rw [Lib.cell_of_heap h]
  match j, hj with
  | 0, _ => rfl
  | 1, _ => rfl
theorem manyW_at (w : World) (a b i : Int) : ∀ j u, (cellsX [⟨⟨[a, b], i, false⟩, some ⟨w.heap.size, 0, none⟩, 2⟩])[j]? = some u → (manyW w a b i).cell? ((⟨w.heap.size + 1, 0, none⟩ : Addr).add j) = some u := by
  intro j u hj
  have h : (manyW w a b i).heap[w.heap.size + 1]? = some (.cells #[.slice (some ⟨w.heap.size, 0, none⟩) 2 2, .int .i64 i, .bool false] 50 (0, 0)) := by
    unfold manyW
    have h := heap_alloc_new (w.alloc (.cells #[.int .i64 a, .int .i64 b] 3)) (.cells #[.slice (some ⟨w.heap.size, 0, none⟩) 2 2, .int .i64 i, .bool false] 50)
    rw [show (w.alloc (.cells #[.int .i64 a, .int .i64 b] 3)).heap.size = w.heap.size + 1 by simp] at h
    exact h
  rw [plain_add, Lib.cell_of_heap h]
  simpa [cellsX] using hj
end Go.Proofs.Ytmjcnlpjnbcfjad

namespace Go.Proofs.Ytmjcnlpjnbcfjad
open Go.ChangeShapes Go.WideShapes Go.ChangeAt Go.RowKit
set_option maxRecDepth 20000

/-- a row of a call's own of slices of ints: those ahead of k hold their lists -/
def SlB (w : World) (g n k : Nat) (L : Nat → List Int) : Prop := ∃ cur : Array Value, w.heap[g]? = some (.cells cur 26 (0, 0)) ∧ cur.size = n ∧ ∀ j, j < n → ∃ A l c, cur[j]? = some (.slice A l c) ∧ (j < k → l = (L j).length ∧ IntsAt w A c (L j))
section
variable {w w' : World} {g n k : Nat} {L : Nat → List Int}
theorem SlB.lt (h : SlB w g n k L) : g < w.heap.size := by
  obtain ⟨cur, h1, _⟩ := h
  exact (Array.getElem?_eq_some_iff.1 h1).1
theorem SlB.at (h : SlB w g n k L) {j : Nat} (hj : j < n) : ∃ A l c, w.cell? ⟨g, j, none⟩ = some (.slice A l c) ∧ (j < k → l = (L j).length ∧ IntsAt w A c (L j)) := by
  obtain ⟨cur, h1, h2, h3⟩ := h
  obtain ⟨A, l, c, h4, h5⟩ := h3 j hj
  exact ⟨A, l, c, by simp [World.cell?, h1, h4], h5⟩
theorem SlB.get (h : SlB w g n n L) {j : Nat} (hj : j < n) : ∃ A c, w.cell? ⟨g, j, none⟩ = some (.slice A (L j).length c) ∧ IntsAt w A c (L j) := by
  obtain ⟨A, l, c, h1, h2⟩ := h.at hj
  obtain ⟨rfl, h3⟩ := h2 hj
  exact ⟨A, c, h1, h3⟩
theorem SlB.frozen (h : SlB w g n k L) (j : Nat) : w.frozen? ⟨g, j, none⟩ = false := by
  obtain ⟨cur, h1, _⟩ := h
  exact Lib.frozen_of_heap h1 j
theorem SlB.later (h : SlB w g n k L) (hB : Below w.heap.size w w') : SlB w' g n k L := by
  have hlt := h.lt
  obtain ⟨cur, h1, h2, h3⟩ := h
  refine ⟨cur, (hB.block g hlt).trans h1, h2, fun j hj => ?_⟩
  obtain ⟨A, l, c, h4, h5⟩ := h3 j hj
  exact ⟨A, l, c, h4, fun hk => ⟨(h5 hk).1, (h5 hk).2.later hB⟩⟩
/-- a list that is read lies in another block than a row of slices -/
theorem IntsAt.off {A : Option Addr} {c : Nat} {X : List Int} {cur : Array Value} {T : Nat} (h : IntsAt w A c X) (hg : w.heap[g]? = some (.cells cur T (0, 0))) (hs : ∀ x y, cur[0]? = some (.int x y) → False) (hb : ∀ i, i < w.heap.size → i ≠ g → w'.heap[i]? = w.heap[i]?) (hz : w.heap.size ≤ w'.heap.size) : IntsAt w' A c X := by
  obtain ⟨h1, h2 | ⟨b, h2, h3, h4⟩⟩ := h
  · exact ⟨h1, Or.inl h2⟩
  · by_cases h0 : X.length = 0
    · exact ⟨h1, Or.inl (List.eq_nil_of_length_eq_zero h0)⟩
    · have hne : b ≠ g := fun e => by
        have := h4 0 (by omega)
        rw [e] at this
        simp only [World.cell?, hg] at this
        exact hs _ _ this
      exact ⟨h1, Or.inr ⟨b, h2, Nat.lt_of_lt_of_le h3 hz, fun j hj => (World.cell?_of_block (a := ⟨b, j, none⟩) (hb b h3 hne)).trans (h4 j hj)⟩⟩
theorem SlB.set (h : SlB w g n k L) (hk : k < n) {A : Option Addr} {c : Nat} (hI : IntsAt w A c (L k)) : SlB (w.setCell ⟨g, k, none⟩ (.slice A (L k).length c)) g n (k + 1) L := by
  obtain ⟨cur, h1, h2, h3⟩ := h
  have hs : ∀ x y, cur[0]? = some (.int x y) → False := fun x y e => by
    obtain ⟨A, l, c, h4, -⟩ := h3 0 (by omega)
    rw [h4] at e
    cases e
  have hb : ∀ i, i < w.heap.size → i ≠ g → (w.setCell ⟨g, k, none⟩ (.slice A (L k).length c)).heap[i]? = w.heap[i]? := fun i _ hi => Below.heap_setCell w ⟨g, k, none⟩ _ i hi
  have hz : w.heap.size ≤ (w.setCell ⟨g, k, none⟩ (.slice A (L k).length c)).heap.size := by simp [World.setCell]
  refine ⟨cur.setIfInBounds k (.slice A (L k).length c), by simp [World.setCell, Array.getElem?_modify, h1], by simpa using h2, fun j hj => ?_⟩
  by_cases e : j = k
  · subst e
    exact ⟨A, _, c, by simp [h2, hj], fun _ => ⟨rfl, hI.off h1 hs hb hz⟩⟩
  · obtain ⟨A', l, c', h4, h5⟩ := h3 j hj
    refine ⟨A', l, c', ?_, fun hjk => ⟨(h5 (by omega)).1, (h5 (by omega)).2.off h1 hs hb hz⟩⟩
    rw [Array.getElem?_setIfInBounds_ne (fun h => e h.symm)]
    exact h4
theorem SlB.made (w : World) (n : Nat) (L : Nat → List Int) : SlB (w.alloc (.cells (madeCells #[.slice none 0 0] n) 26)) w.heap.size n 0 L := by
  refine ⟨_, heap_alloc_new w _, by simp [madeCells], fun j hj => ⟨none, 0, 0, ?_, fun h => by cases h⟩⟩
  simp [madeCells, hj, Nat.mod_one]
end
theorem Try.infoSl : (Try.prog.info? 26).map (fun i => (i.zero, i.size, i.bytes)) = some (some (.slice none 0 0), 1, 24) := by kernel_rfl

/-- what a step of it reads: a dim in a box, and a number -/
def Four (W : World) (q b o : Nat) (v0 v1 v2 x : Value) : Prop := (q < W.heap.size ∧ b < W.heap.size) ∧ W.cell? ⟨q, 0, none⟩ = some v0 ∧ W.cell? ⟨q, 1, none⟩ = some v1 ∧ W.cell? ⟨q, 2, none⟩ = some v2 ∧ W.cell? ⟨b, o, none⟩ = some x
theorem keep4 {W w' : World} {q b o : Nat} {v0 v1 v2 x : Value} (h : Four W q b o v0 v1 v2 x) (hB : Below W.heap.size W w') : Below W.heap.size W w' ∧ w'.cell? ⟨q, 0, none⟩ = some v0 ∧ w'.cell? ⟨q, 1, none⟩ = some v1 ∧ w'.cell? ⟨q, 2, none⟩ = some v2 ∧ w'.cell? ⟨b, o, none⟩ = some x := by
  obtain ⟨⟨h1, h2⟩, c0, c1, c2, c3⟩ := h
  exact ⟨hB, (hB.cell (p := ⟨q, 0, none⟩) h1).trans c0, (hB.cell (p := ⟨q, 1, none⟩) h1).trans c1, (hB.cell (p := ⟨q, 2, none⟩) h1).trans c2, (hB.cell (p := ⟨b, o, none⟩) h2).trans c3⟩

set_option maxHeartbeats 4000000 in
theorem rls_any (A0 : Option Addr) (cap n : Nat) (D : Nat → Dm) (A : Nat → Option Addr) (C : Nat → Nat) (Ap : Option Addr) (cp : Nat) (p : List Int) (w : World) (hp : InO D n p) (hM : DimsV w A0 cap n D A C) (hP : PlAt w Ap cp p) : Calls Try.prog 27 #[.agg #[.slice A0 n cap], .slice Ap p.length cp] w fun e w' => (∃ g, e = .returned (.tuple #[.slice (some ⟨g, 0, none⟩) n n, .nilIface]) ∧ SlB w' g n n (lfs D p)) ∧ Below w.heap.size w w' := by
  have hB0 := ownOut_below w A0 n cap 24
  have h := pcheck_any A0 cap n D A C Ap cp p (ownOut w A0 n cap 24) (hM.later hB0) (hP.later hB0)
  have HB0 : Hid (Below w.heap.size w (ownOut w A0 n cap 24)) := hB0
  have HM : Hid (DimsV w A0 cap n D A C) := hM
  have HI : Hid (InO D n p) := hp
  rw [hp.ok, errV_zero] at h
  obtain ⟨hn1, hn4, -, hd⟩ := allErr_some hp.right
  have HD : Hid (∀ i, i < n → (dimErr (D i)).2 = 0) := (allErr_right hp.right).2
  have hl := hp.len
  obtain ⟨hcp, h0 | ⟨bp, op, rfl, hbp, hcell⟩⟩ := hP
  · rw [h0] at hl; simp at hl; omega
  rw [hl] at h hcp
  rw [hl]
  have HC : Hid (∀ j, j < n → w.cell? ⟨bp, op + j, none⟩ = some (.int .i64 (p.getD j 0))) := fun j hj => hcell j (by omega)
  have hn' : (n : Int) ≤ 4 := by omega
  have hmk := run_make_row' (P := Try.prog) 65 26 (.slice none 0 0) 24 Try.underlying65 Try.infoSl rfl .i64 .i64 n (by omega) (by omega)
  clear hB0 hM hp hl hcell hd
  go_enter Try.func27, Try.ntmps27
  go_wp2_with fail
  refine h.mono ?_
  rintro e w1 ⟨rfl, hb1⟩
  have hB : Below w.heap.size w w1 := onB HB0.out hb1
  have hz : w.heap.size < w1.heap.size := by have := hb1.size; rw [ownOut_size] at this; omega
  have h2 : w1.cell? ⟨w.heap.size, 0, none⟩ = some (.slice A0 n cap) := (hb1.cell (p := ⟨w.heap.size, 0, none⟩) (by show w.heap.size < _; rw [ownOut_size]; omega)).trans (ownOut_at ..)
  obtain ⟨hcap, h0 | ⟨b, o, rfl, hMs⟩⟩ := HM.out.later hB
  · omega
  have HMs : Hid (DimsAt w1 b o n D A C) := hMs
  have HB : Hid (Below w.heap.size w w1) := hB
  have HC1 : Hid (∀ j, j < n → w1.cell? ⟨bp, op + j, none⟩ = some (.int .i64 (p.getD j 0))) := fun j hj => (hB.cell (p := ⟨bp, op + j, none⟩) hbp).trans (HC.out j hj)
  have hbp1 : bp < w1.heap.size := Nat.lt_of_lt_of_le hbp hB.size
  clear hb1 h hMs hB
  go_wp2_with fail
  clear hmk
  go_loopg [25] n (fun g s25 wr => ∃ (k : Nat), k ≤ n ∧ g = n - k ∧ s25 = .int .i64 k ∧ SlB wr w1.heap.size n k (lfs D p) ∧ Below w1.heap.size w1 wr)
  case atStart => exact ⟨0, Nat.zero_le _, rfl, rfl, SlB.made w1 n _, by go_grown⟩
  case round =>
    obtain ⟨k, hk, rfl, rfl, hS, hBw⟩ := hrel
    have HBw : Hid (Below w1.heap.size w1 wr) := hBw
    have HS : Hid (SlB wr w1.heap.size n k (lfs D p)) := hS
    by_cases hlt : k < n
    · have hki : (k : Int) < (n : Int) := by omega
      obtain ⟨d0, d1, d2, h4⟩ := (HMs.out.later hBw).2 k hlt
      have hdk := HD.out k hlt
      have e1 := (hBw.cell (p := ⟨bp, op + k, none⟩) hbp1).trans (HC1.out k hlt)
      have hbq : bp < wr.heap.size := Nat.lt_of_lt_of_le hbp1 hBw.size
      have hte : treeErr (D k) [p.getD k 0] = 0 := by
        have := HI.out.lo k hlt
        have := HI.out.hi k hlt
        rw [treeErr_one hdk, if_neg (by omega)]
      have HLf : Hid (∀ w', Below wr.heap.size wr w' → Calls Try.prog 52 #[dimV (D k) (A k) (C k), .int .i64 (p.getD k 0)] w' fun e w'' => (∃ A' c', e = .returned (.tuple #[.slice A' (lfs D p k).length c', .nilIface]) ∧ IntsAt w'' A' c' (lfs D p k)) ∧ Below w'.heap.size w' w'') := fun w' hw' => by
        have := leafs_any (D k) (A k) (C k) (p.getD k 0) w' (h4.later hw')
        rw [hte, errV_zero] at this
        exact this
      unfold dimV at HLf
      have hBx : Below wr.heap.size wr (ownDim wr (D k) (A k) (C k) 32) := ownDim_below ..
      have hFo : Four (ownDim wr (D k) (A k) (C k) 32) wr.heap.size bp (op + k) (.string (D k).name) (.int .i64 (D k).solve) (.slice (A k) (D k).n (C k)) (.int .i64 (p.getD k 0)) := by
        obtain ⟨x0, x1, x2⟩ := ownDim_at wr (D k) (A k) (C k) 32
        exact ⟨⟨by rw [ownDim_size]; omega, Nat.lt_of_lt_of_le hbq hBx.size⟩, x0, x1, x2, (hBx.cell (p := ⟨bp, op + k, none⟩) hbq).trans e1⟩
      obtain ⟨Wx, hWx⟩ : ∃ W, ownDim wr (D k) (A k) (C k) 32 = W := ⟨_, rfl⟩
      rw [hWx] at hFo hBx
      unfold ownDim at hWx
      have HFo : Hid (Four Wx wr.heap.size bp (op + k) (.string (D k).name) (.int .i64 (D k).solve) (.slice (A k) (D k).n (C k)) (.int .i64 (p.getD k 0))) := hFo
      have HBx : Hid (Below wr.heap.size wr Wx) := hBx
      generalize p.getD k 0 = x at HLf HFo e1
      generalize (D k).name = dn at HLf HFo d0 hWx
      generalize (D k).solve = ds at HLf HFo d1 hWx
      generalize A k = Ak at HLf HFo d2 hWx
      generalize C k = Ck at HLf HFo d2 hWx
      generalize (D k).n = dk at HLf HFo d2 hWx
      obtain ⟨X, hX⟩ : ∃ X, lfs D p k = X := ⟨_, rfl⟩
      have HX : Hid (lfs D p k = X) := hX
      rw [hX] at HLf
      clear hFo hBx hS hBw h4 hdk hte hX
      go_wp2_with fail
      clear hWx
      go_cut [10, 11] (fun s10 s11 wx => ∃ A' c', s10 = .slice A' X.length c' ∧ s11 = .nilIface ∧ IntsAt wx A' c' X ∧ Below Wx.heap.size Wx wx)
      case first => as_aux_lemma =>
        go_region_held3 (fun w' => Below Wx.heap.size Wx w' ∧ w'.cell? ⟨wr.heap.size, 0, none⟩ = some (.string dn) ∧ w'.cell? ⟨wr.heap.size, 1, none⟩ = some (.int .i64 ds) ∧ w'.cell? ⟨wr.heap.size, 2, none⟩ = some (.slice Ak dk Ck) ∧ w'.cell? ⟨bp, op + k, none⟩ = some (.int .i64 x))
          ((refine keep4 HFo.out ?_; go_grown; done))
          (first | (go_at_call 52; refine (HLf.out _ (onB HBx.out (by go_grown))).mono ?_; rintro e w3 ⟨⟨A', c', rfl, hI⟩, hb3⟩; have hN3 := onB (W0 := Wx) (by go_grown) hb3; have hy3 := hN3.size; clear hb3))
        all_goals go_wp2_with fail
        all_goals go_meet
        all_goals exact ⟨_, _, rfl, rfl, by first | assumption | (refine IntsAt.later (by assumption) ?_; go_grown), by go_grown⟩
      case rest => as_aux_lemma =>
      obtain ⟨A', c', rfl, rfl, hI, hb⟩ := hcut
      obtain ⟨w2, rfl⟩ : ∃ w2 : World, w2 = wc := ⟨_, rfl⟩
      have hB2 : Below wr.heap.size wr w2 := onB HBx.out hb
      have hS2 := HS.out.later hB2
      obtain ⟨A1, l1, c1, hc1, -⟩ := hS2.at hlt
      have hfr := hS2.frozen k
      have HB2 : Hid (Below w1.heap.size w1 w2) := onB HBw.out hB2
      have HS2 : Hid (SlB w2 w1.heap.size n k (lfs D p)) := hS2
      have HI2 : Hid (IntsAt w2 A' c' X) := hI
      clear hb hB2 hS2 hI HLf HFo d0 d1 d2 e1
      go_wp2_with fail
      go_roundg (n - (k + 1))
      case measure => omega
      case rel =>
        refine ⟨k + 1, by omega, rfl, by go_num, ?_, HB2.out.setCell (by show w1.heap.size ≤ w1.heap.size; omega) _⟩
        have := HS2.out.set hlt (A := A') (c := c') (by rw [HX.out]; exact HI2.out)
        rw [HX.out] at this
        exact this
    · have hke : k = n := by omega
      subst hke
      clear hBw hS
      go_wp2_with fail
      go_ret2
      exact ⟨⟨_, rfl, HS.out⟩, onB HB.out HBw.out⟩

theorem rls_bad (A0 : Option Addr) (cap n : Nat) (D : Nat → Dm) (A : Nat → Option Addr) (C : Nat → Nat) (Ap : Option Addr) (cp : Nat) (p : List Int) (w : World) (hp : placeErr D n p ≠ 0) (hM : DimsV w A0 cap n D A C) (hP : PlAt w Ap cp p) : Calls Try.prog 27 #[.agg #[.slice A0 n cap], .slice Ap p.length cp] w fun e w' => e = .returned (.tuple #[.slice none 0 0, .iface 77 (.int .i64 (placeErr D n p))]) ∧ Below w.heap.size w w' := by
  have hB0 := ownOut_below w A0 n cap 24
  have h := pcheck_any A0 cap n D A C Ap cp p (ownOut w A0 n cap 24) (hM.later hB0) (hP.later hB0)
  have HB0 : Hid (Below w.heap.size w (ownOut w A0 n cap 24)) := hB0
  rw [errV_some hp] at h
  clear hB0 hM hP hp
  generalize placeErr D n p = c at h
  generalize p.length = m at h
  go_enter Try.func27, Try.ntmps27
  go_wp2_with fail
  refine h.mono ?_
  rintro e w1 ⟨rfl, hb1⟩
  go_wp2_with fail
  go_ret2
  exact ⟨rfl, onB HB0.out hb1⟩
end Go.Proofs.Ytmjcnlpjnbcfjad

namespace Go.Proofs.Ytmjcnlpjnbcfjad
open Go.ChangeShapes Go.WideShapes Go.ChangeAt Go.RowKit
set_option maxRecDepth 20000

/-- a row of slices with one more laid, whatever has been done to that one -/
theorem SlB.row {w w' : World} {g n k l c : Nat} {A : Option Addr} {L : Nat → List Int} (h : SlB w g n k L) (hk : k < n) (hb : ∀ i, i < w.heap.size → i ≠ g → w'.heap[i]? = w.heap[i]?) (hg : w'.heap[g]? = (w.setCell ⟨g, k, none⟩ (.slice A l c)).heap[g]?) (hz : w.heap.size ≤ w'.heap.size) (hl : l = (L k).length) (hI : IntsAt w' A c (L k)) : SlB w' g n (k + 1) L := by
  obtain ⟨cur, h1, h2, h3⟩ := h
  have hs : ∀ x y, cur[0]? = some (.int x y) → False := fun x y e => by
    obtain ⟨A, l, c, h4, -⟩ := h3 0 (by omega)
    rw [h4] at e
    cases e
  refine ⟨cur.setIfInBounds k (.slice A l c), by rw [hg]; simp [World.setCell, Array.getElem?_modify, h1], by simpa using h2, fun j hj => ?_⟩
  by_cases e : j = k
  · subst e
    exact ⟨A, _, c, by simp [h2, hj], fun _ => ⟨hl, hI⟩⟩
  · obtain ⟨A', l', c', h4, h5⟩ := h3 j hj
    refine ⟨A', l', c', ?_, fun hjk => ⟨(h5 (by omega)).1, (h5 (by omega)).2.off h1 hs hb hz⟩⟩
    rw [Array.getElem?_setIfInBounds_ne (fun h => e h.symm)]
    exact h4

theorem SlB.off {w w' : World} {g n k c : Nat} {A : Option Addr} {L : Nat → List Int} {X : List Int} (h : SlB w g n k L) (hn : 0 < n) (hI : IntsAt w A c X) (hb : ∀ i, i < w.heap.size → i ≠ g → w'.heap[i]? = w.heap[i]?) (hz : w.heap.size ≤ w'.heap.size) : IntsAt w' A c X := by
  obtain ⟨cur, h1, h2, h3⟩ := h
  refine hI.off h1 (fun x y e => ?_) hb hz
  obtain ⟨A, l, c, h4, -⟩ := h3 0 hn
  rw [h4] at e
  cases e
theorem setCell_same {w w' : World} {g k : Nat} {v : Value} (h : w.heap[g]? = w'.heap[g]?) : (w.setCell ⟨g, k, none⟩ v).heap[g]? = (w'.setCell ⟨g, k, none⟩ v).heap[g]? := by
  simp [World.setCell, Array.getElem?_modify, h]
/-- while a row of ints is written: all else is as it was, but for the one that leads to it -/
def Inn (W wi : World) (g k : Nat) (v : Value) : Prop := (∀ i, i < W.heap.size → i ≠ g → wi.heap[i]? = W.heap[i]?) ∧ wi.heap[g]? = (W.setCell ⟨g, k, none⟩ v).heap[g]? ∧ W.heap.size ≤ wi.heap.size
section
variable {W wi w' : World} {g k : Nat} {v : Value}
theorem Inn.start (o : Obj) (hg : g < W.heap.size) : Inn W ((W.setCell ⟨g, k, none⟩ v).alloc o) g k v := by
  have hz : (W.setCell ⟨g, k, none⟩ v).heap.size = W.heap.size := by simp [World.setCell]
  refine ⟨fun i hi hne => ?_, ?_, ?_⟩
  · rw [Below.heap_alloc _ _ _ (by rw [hz]; exact hi), Below.heap_setCell _ ⟨g, k, none⟩ v i hne]
  · rw [Below.heap_alloc _ _ _ (by rw [hz]; exact hg)]
  · simp [World.setCell]
theorem Inn.later (h : Inn W wi g k v) (hg : g < W.heap.size) (hB : Below wi.heap.size wi w') : Inn W w' g k v :=
  ⟨fun i hi hne => (hB.block i (Nat.lt_of_lt_of_le hi h.2.2)).trans (h.1 i hi hne), (hB.block g (Nat.lt_of_lt_of_le hg h.2.2)).trans h.2.1, Nat.le_trans h.2.2 hB.size⟩
theorem Inn.store (h : Inn W wi g k v) (hg : g < W.heap.size) {q : Nat} (hq : W.heap.size ≤ q) (j : Nat) (x : Value) : Inn W (wi.setCell ⟨q, j, none⟩ x) g k v :=
  ⟨fun i hi hne => (Below.heap_setCell _ ⟨q, j, none⟩ x i (by show i ≠ q; omega)).trans (h.1 i hi hne), (Below.heap_setCell _ ⟨q, j, none⟩ x g (by show g ≠ q; omega)).trans h.2.1, by have := h.2.2; simpa [World.setCell] using this⟩
theorem Inn.cell (h : Inn W wi g k v) {b o : Nat} (hb : b < W.heap.size) (hne : b ≠ g) : wi.cell? ⟨b, o, none⟩ = W.cell? ⟨b, o, none⟩ := World.cell?_of_block (a := ⟨b, o, none⟩) (h.1 b hb hne)
theorem Inn.at (h : Inn W wi g k v) {u : Value} (hu : W.cell? ⟨g, k, none⟩ = some u) : wi.cell? ⟨g, k, none⟩ = some v := by
  rw [World.cell?_of_block (a := ⟨g, k, none⟩) h.2.1]
  exact World.cell?_setCell_same _ _ _ hu
end

set_option maxHeartbeats 4000000 in
theorem rws_any (A0 : Option Addr) (cap n : Nat) (D : Nat → Dm) (A : Nat → Option Addr) (C : Nat → Nat) (Ap : Option Addr) (cp : Nat) (p : List Int) (w : World) (hp : InO D n p) (hM : DimsV w A0 cap n D A C) (hP : PlAt w Ap cp p) : Calls Try.prog 21 #[.agg #[.slice A0 n cap], .slice Ap p.length cp] w fun e w' => (∃ g, e = .returned (.tuple #[.slice (some ⟨g, 0, none⟩) n n, .nilIface]) ∧ SlB w' g n n (wts D p)) ∧ Below w.heap.size w w' := by
  have hB0 := ownOut_below w A0 n cap 24
  have h := rls_any A0 cap n D A C Ap cp p (ownOut w A0 n cap 24) hp (hM.later hB0) (hP.later hB0)
  have HB0 : Hid (Below w.heap.size w (ownOut w A0 n cap 24)) := hB0
  have HM : Hid (DimsV w A0 cap n D A C) := hM
  have HI : Hid (InO D n p) := hp
  obtain ⟨hn1, hn4, -, hd⟩ := allErr_some hp.right
  have HD : Hid (∀ i, i < n → (dimErr (D i)).2 = 0) := (allErr_right hp.right).2
  have HD2 : Hid (∀ i, i < n → 1 ≤ (D i).n ∧ (D i).n ≤ 12) := hd
  have hl := hp.len
  obtain ⟨hcp, h0 | ⟨bp, op, rfl, hbp, hcell⟩⟩ := hP
  · rw [h0] at hl; simp at hl; omega
  rw [hl] at h hcp
  rw [hl]
  have HC : Hid (∀ j, j < n → w.cell? ⟨bp, op + j, none⟩ = some (.int .i64 (p.getD j 0))) := fun j hj => hcell j (by omega)
  have hn' : (n : Int) ≤ 4 := by omega
  have hmk := run_make_row' (P := Try.prog) 65 26 (.slice none 0 0) 24 Try.underlying65 Try.infoSl rfl .i64 .i64 n (by omega) (by omega)
  clear hB0 hM hp hl hcell hd
  go_enter Try.func21, Try.ntmps21
  go_wp2_with fail
  refine h.mono ?_
  rintro e w1 ⟨⟨gb, rfl, hS⟩, hb1⟩
  have hB : Below w.heap.size w w1 := onB HB0.out hb1
  have hz : w.heap.size < w1.heap.size := by have := hb1.size; rw [ownOut_size] at this; omega
  have h2 : w1.cell? ⟨w.heap.size, 0, none⟩ = some (.slice A0 n cap) := (hb1.cell (p := ⟨w.heap.size, 0, none⟩) (by show w.heap.size < _; rw [ownOut_size]; omega)).trans (ownOut_at ..)
  obtain ⟨hcap, h0 | ⟨b, o, rfl, hMs⟩⟩ := HM.out.later hB
  · omega
  have HMs : Hid (DimsAt w1 b o n D A C) := hMs
  have HB : Hid (Below w.heap.size w w1) := hB
  have HS1 : Hid (SlB w1 gb n n (lfs D p)) := hS
  have HC1 : Hid (∀ j, j < n → w1.cell? ⟨bp, op + j, none⟩ = some (.int .i64 (p.getD j 0))) := fun j hj => (hB.cell (p := ⟨bp, op + j, none⟩) hbp).trans (HC.out j hj)
  have hbp1 : bp < w1.heap.size := Nat.lt_of_lt_of_le hbp hB.size
  clear hb1 h hMs hB hS
  go_wp2_with fail
  clear hmk
  go_loopg [31] n (fun g s31 wr => ∃ (k : Nat), k ≤ n ∧ g = n - k ∧ s31 = .int .i64 k ∧ SlB wr w1.heap.size n k (wts D p) ∧ Below w1.heap.size w1 wr)
  case atStart => exact ⟨0, Nat.zero_le _, rfl, rfl, SlB.made w1 n _, by go_grown⟩
  case round =>
    obtain ⟨wo, rfl⟩ : ∃ w2 : World, w2 = wr := ⟨_, rfl⟩
    obtain ⟨k, hk, rfl, rfl, hS, hBw⟩ := hrel
    have HBw : Hid (Below w1.heap.size w1 wo) := hBw
    have HS : Hid (SlB wo w1.heap.size n k (wts D p)) := hS
    by_cases hlt : k < n
    · have hki : (k : Int) < (n : Int) := by omega
      obtain ⟨d0, d1, d2, h4⟩ := (HMs.out.later hBw).2 k hlt
      have hdk := HD.out k hlt
      obtain ⟨hdn1, hdn2⟩ := HD2.out k hlt
      have e1 := (hBw.cell (p := ⟨bp, op + k, none⟩) hbp1).trans (HC1.out k hlt)
      have hbq : bp < wo.heap.size := Nat.lt_of_lt_of_le hbp1 hBw.size
      have hlo := HI.out.lo k hlt
      have hhi := HI.out.hi k hlt
      obtain ⟨x, hx⟩ : ∃ x : Nat, p.getD k 0 = x := ⟨(p.getD k 0).toNat, by omega⟩
      have HWt : Hid (∀ j ∈ lfs D p k, ∀ w', Below w1.heap.size w1 w' → Calls Try.prog 45 #[dimV (D k) (A k) (C k), .int .i64 x, .int .i64 j] w' fun e w'' => e = .returned (.tuple #[.int .i64 (weightOf (D k).mem x j), .nilIface]) ∧ Below w'.heap.size w' w'') := fun j hj w' hw' => by
        obtain ⟨m, rfl, hm, hlf⟩ := lfs_mem j hj
        have ht := tweight_any (D k) (A k) (C k) x m w' ((HMs.out.later hw').2 k hlt).2.2.2
        have he : wErr (D k) x m = 0 := wErr_ok (by rw [treeErr_two hdk, if_neg (by omega)]) (by unfold leafIn at hlf; rw [Bool.and_eq_true] at hlf; simpa using hlf.1)
        rw [he, errV_zero, wVal_ok he] at ht
        exact ht
      have HLm : Hid (∀ j ∈ lfs D p k, ∃ m : Nat, j = m ∧ m < (D k).n) := fun j hj => by
        obtain ⟨m, h1, h2, -⟩ := lfs_mem j hj
        exact ⟨m, h1, h2⟩
      have hLl : (lfs D p k).length ≤ 12 := Nat.le_trans (lfs_len D p k) hdn2
      obtain ⟨AL, cL, hcL, hIL⟩ := (HS1.out.later hBw).get hlt
      have hgbw : gb < wo.heap.size := (HS1.out.later hBw).lt
      have HIL : Hid (IntsAt wo AL cL (lfs D p k)) := hIL
      have HWT : Hid (wts D p k = cnts (D k) x (lfs D p k)) := by show _ = _; unfold wts; rw [hx]
      have HCL : Hid (∀ X, (cnts (D k) x X).length = (D k).n) := fun X => cnts_len ..
      have HCN : Hid (cnts (D k) x [] = List.replicate (D k).n 0) := cnts_nil ..
      have HCS : Hid (∀ X (j : Nat), (cnts (D k) x X).set j (weightOf (D k).mem x j) = cnts (D k) x (X ++ [(j : Int)])) := fun X j => cnts_set
      have hmk := run_make_row' (P := Try.prog) 26 3 (.int .i64 0) 8 Try.underlying26 Try.infoIntP rfl .i64 .i64 (D k).n (by omega) (by omega)
      unfold dimV at HWt
      have hBx : Below wo.heap.size wo (ownDim wo (D k) (A k) (C k) 32) := ownDim_below ..
      have hFo : Four (ownDim wo (D k) (A k) (C k) 32) wo.heap.size bp (op + k) (.string (D k).name) (.int .i64 (D k).solve) (.slice (A k) (D k).n (C k)) (.int .i64 x) := by
        obtain ⟨x0, x1, x2⟩ := ownDim_at wo (D k) (A k) (C k) 32
        exact ⟨⟨by rw [ownDim_size]; omega, Nat.lt_of_lt_of_le hbq hBx.size⟩, x0, x1, x2, (hBx.cell (p := ⟨bp, op + k, none⟩) hbq).trans (by rw [e1, hx])⟩
      have hzx := ownDim_size wo (D k) (A k) (C k) 32
      obtain ⟨Wx, hWx⟩ : ∃ W, ownDim wo (D k) (A k) (C k) 32 = W := ⟨_, rfl⟩
      rw [hWx] at hFo hBx hzx
      unfold ownDim at hWx
      have HFo : Hid (Four Wx wo.heap.size bp (op + k) (.string (D k).name) (.int .i64 (D k).solve) (.slice (A k) (D k).n (C k)) (.int .i64 x)) := hFo
      have HBx : Hid (Below wo.heap.size wo Wx) := hBx
      generalize (cnts (D k) x) = cn at HWT HCL HCN HCS
      generalize weightOf (D k).mem (x : Int) = wt at HWt HCS
      obtain ⟨-, f0, f1, f2, f3⟩ := hFo
      generalize (D k).name = dn at HWt HFo d0 hWx f0
      generalize (D k).solve = ds at HWt HFo d1 hWx f1
      generalize A k = Ak at HWt HFo d2 hWx f2
      generalize C k = Ck at HWt HFo d2 hWx f2
      generalize (D k).n = dk at HWt HFo d2 hWx HLm HCL HCN f2 hmk hdn1 hdn2
      obtain ⟨X, hX⟩ : ∃ X, lfs D p k = X := ⟨_, rfl⟩
      have HX : Hid (lfs D p k = X) := hX
      rw [hX] at HWt HLm hLl HIL HWT hcL
      have hSx := HS.out.later hBx
      obtain ⟨A1, l1, c1, hc1, -⟩ := hSx.at hlt
      have hfr := hSx.frozen k
      have hcLx := (hBx.cell (p := ⟨gb, k, none⟩) hgbw).trans hcL
      have hdk' : (dk : Int) ≤ 12 := by omega
      have hg1 : w1.heap.size < wo.heap.size := HS.out.lt
      have hgx : w1.heap.size < Wx.heap.size := by omega
      have hgb1 : gb < w1.heap.size := HS1.out.lt
      have hgbx : gb < Wx.heap.size := by omega
      have HZX : Hid (Wx.heap.size = wo.heap.size + 1) := hzx
      clear hBx hS hBw h4 hdk hX hIL hSx hlo hhi hx hzx
      go_wp2_with fail
      have HIn0 : Hid (Inn Wx ((Wx.setCell ⟨w1.heap.size, k, none⟩ (.slice (some ⟨Wx.heap.size, 0, none⟩) dk dk)).alloc (.cells (madeCells #[.int .i64 0] dk) 3)) w1.heap.size k (.slice (some ⟨Wx.heap.size, 0, none⟩) dk dk)) := Inn.start _ hgx
      have HIB0 : Hid (IntB ((Wx.setCell ⟨w1.heap.size, k, none⟩ (.slice (some ⟨Wx.heap.size, 0, none⟩) dk dk)).alloc (.cells (madeCells #[.int .i64 0] dk) 3)) Wx.heap.size (cn [])) := by
        show IntB _ _ _
        rw [HCN.out]
        have hh := IntB.made (Wx.setCell ⟨w1.heap.size, k, none⟩ (.slice (some ⟨Wx.heap.size, 0, none⟩) dk dk)) dk
        rw [show (Wx.setCell ⟨w1.heap.size, k, none⟩ (.slice (some ⟨Wx.heap.size, 0, none⟩) dk dk)).heap.size = Wx.heap.size by simp [World.setCell]] at hh
        exact hh
      clear hWx hmk d0 d1 d2 e1 f0 f1 f2 f3 hcL hcLx
      go_loopg [48] X.length (fun g s48 wi => ∃ (m : Nat), m ≤ X.length ∧ g = X.length - m ∧ s48 = .int .i64 m ∧ IntB wi Wx.heap.size (cn (X.take m)) ∧ Inn Wx wi w1.heap.size k (.slice (some ⟨Wx.heap.size, 0, none⟩) dk dk) ∧ Below w1.heap.size w1 wi)
      case atStart => exact ⟨0, Nat.zero_le _, rfl, rfl, HIB0.out, HIn0.out, ((onB HBw.out HBx.out).setCell (p := ⟨w1.heap.size, k, none⟩) (Nat.le_refl _) _).alloc (by simp [World.setCell]; omega) _⟩
      case round =>
        obtain ⟨wi, rfl⟩ : ∃ w2 : World, w2 = wr := ⟨_, rfl⟩
        obtain ⟨m, hm, rfl, rfl, hIB, hIn, hBi⟩ := hrel
        have HBi : Hid (Below w1.heap.size w1 wi) := hBi
        have HIn : Hid (Inn Wx wi w1.heap.size k (.slice (some ⟨Wx.heap.size, 0, none⟩) dk dk)) := hIn
        have HIB : Hid (IntB wi Wx.heap.size (cn (X.take m))) := hIB
        have hoff : ∀ i, i < wo.heap.size → i ≠ w1.heap.size → wi.heap[i]? = wo.heap[i]? := fun i hi hne => (hIn.1 i (by have := HZX.out; omega) hne).trans (HBx.out.block i hi)
        have hoz : wo.heap.size ≤ wi.heap.size := by have := HZX.out; have := hIn.2.2; omega
        by_cases hmt : m < X.length
        · have hmi : (m : Int) < (X.length : Int) := by omega
          obtain ⟨hcL, h0 | ⟨bL, rfl, hbL, hLc⟩⟩ := HS.out.off (by omega) HIL.out hoff hoz
          · rw [h0] at hmt; cases hmt
          have c0 := hLc m hmt
          obtain ⟨j, hj, hjd⟩ := HLm.out (X.getD m 0) (by rw [List.getD_eq_getElem?_getD, List.getElem?_eq_getElem hmt]; exact List.getElem_mem hmt)
          have HWj : Hid (∀ w', Below w1.heap.size w1 w' → _) := HWt.out (X.getD m 0) (by rw [List.getD_eq_getElem?_getD, List.getElem?_eq_getElem hmt]; exact List.getElem_mem hmt)
          rw [hj] at c0 HWj
          have HTk : Hid ((cn (X.take m)).set j (wt j) = cn (X.take (m + 1))) := by
            show _ = _
            rw [HCS.out]
            congr 1
            rw [List.take_succ_eq_append_getElem hmt]
            congr 2
            rw [← hj, List.getD_eq_getElem?_getD, List.getElem?_eq_getElem hmt]; rfl
          obtain ⟨-, f0, f1, f2, f3⟩ := HFo.out
          have hFi : Four wi wo.heap.size bp (op + k) (.string dn) (.int .i64 ds) (.slice Ak dk Ck) (.int .i64 x) :=
            ⟨⟨by have := HZX.out; have := hIn.2.2; omega, by omega⟩, (hIn.cell (by have := HZX.out; omega) (by omega)).trans f0, (hIn.cell (by have := HZX.out; omega) (by omega)).trans f1, (hIn.cell (by have := HZX.out; omega) (by omega)).trans f2, (hIn.cell (by have := HZX.out; omega) (by omega)).trans f3⟩
          have HFi : Hid (Four wi wo.heap.size bp (op + k) (.string dn) (.int .i64 ds) (.slice Ak dk Ck) (.int .i64 x)) := hFi
          have hji : (j : Int) < (dk : Int) := by omega
          clear f0 f1 f2 f3 hLc hIB hIn hBi hoff hoz hj hFi
          go_wp2_with fail
          go_cut [13, 14] (fun s13 s14 wx => s13 = .int .i64 (wt j) ∧ s14 = .nilIface ∧ Below wi.heap.size wi wx)
          case first => as_aux_lemma =>
            go_region_held3 (fun w' => Below wi.heap.size wi w' ∧ w'.cell? ⟨wo.heap.size, 0, none⟩ = some (.string dn) ∧ w'.cell? ⟨wo.heap.size, 1, none⟩ = some (.int .i64 ds) ∧ w'.cell? ⟨wo.heap.size, 2, none⟩ = some (.slice Ak dk Ck) ∧ w'.cell? ⟨bp, op + k, none⟩ = some (.int .i64 x))
              ((refine keep4 HFi.out ?_; go_grown; done))
              (first | (go_at_call 45; refine (HWj.out _ (onB HBi.out (by go_grown))).mono ?_; rintro e w3 ⟨rfl, hb3⟩; have hN3 := onB (W0 := wi) (by go_grown) hb3; have hy3 := hN3.size; clear hb3))
            all_goals go_wp2_with fail
            all_goals go_meet
            all_goals exact ⟨rfl, rfl, by go_grown⟩
          case rest => as_aux_lemma =>
          obtain ⟨rfl, rfl, hb⟩ := hcut
          obtain ⟨w2, rfl⟩ : ∃ w2 : World, w2 = wc := ⟨_, rfl⟩
          have hI2 := HIn.out.later hgx hb
          have hB2 := HIB.out.later hb
          have HI2 : Hid (Inn Wx w2 w1.heap.size k (.slice (some ⟨Wx.heap.size, 0, none⟩) dk dk)) := hI2
          have HIB2 : Hid (IntB w2 Wx.heap.size (cn (X.take m))) := hB2
          have HB2 : Hid (Below w1.heap.size w1 w2) := onB HBi.out hb
          have g0 := hI2.at hc1
          have g1 := hB2.cell (j := j) (by rw [HCL.out]; exact hjd)
          have g2 := hB2.frozen j
          have hsz := hB2.lt
          generalize (cn (X.take m)).getD j 0 = old at g1
          clear hI2 hB2 hb HFi HWj c0
          go_wp2_with fail
          go_roundg (X.length - (m + 1))
          case measure => omega
          case rel =>
            refine ⟨m + 1, by omega, rfl, by go_num, ?_, HI2.out.store hgx (Nat.le_refl _) j _, HB2.out.setCell (by show w1.heap.size ≤ Wx.heap.size; omega) _⟩
            have := HIB2.out.set j (wt j)
            rw [HTk.out] at this
            exact this
        · have hme : m = X.length := by omega
          have HOff : Hid (∀ i, i < wo.heap.size → i ≠ w1.heap.size → wi.heap[i]? = wo.heap[i]?) := hoff
          have HOz : Hid (wo.heap.size ≤ wi.heap.size) := hoz
          have HFin : Hid (IntB wi Wx.heap.size (wts D p k)) := by
            show IntB _ _ _
            rw [HWT.out]
            rw [hme, List.take_length] at hIB
            exact hIB
          have hmi : ¬ ((m : Int) < (X.length : Int)) := by omega
          clear hIB hIn hBi hoff hoz hme
          go_wp2_with fail
          go_roundg (n - (k + 1))
          case measure => omega
          case rel =>
            have hl : (wts D p k).length = dk := by rw [HWT.out, HCL.out]
            refine ⟨k + 1, by omega, rfl, by go_num, ?_, HBi.out⟩
            refine HS.out.row hlt HOff.out (HIn.out.2.1.trans (setCell_same (HBx.out.block _ hg1))) HOz.out hl.symm ?_
            refine ⟨by rw [hl]; exact Nat.le_refl _, Or.inr ⟨Wx.heap.size, rfl, HFin.out.lt, fun j hj => HFin.out.cell hj⟩⟩
    · have hke : k = n := by omega
      subst hke
      clear hBw hS
      go_wp2_with fail
      go_ret2
      exact ⟨⟨_, rfl, HS.out⟩, onB HB.out HBw.out⟩

theorem rws_bad (A0 : Option Addr) (cap n : Nat) (D : Nat → Dm) (A : Nat → Option Addr) (C : Nat → Nat) (Ap : Option Addr) (cp : Nat) (p : List Int) (w : World) (hp : placeErr D n p ≠ 0) (hM : DimsV w A0 cap n D A C) (hP : PlAt w Ap cp p) : Calls Try.prog 21 #[.agg #[.slice A0 n cap], .slice Ap p.length cp] w fun e w' => e = .returned (.tuple #[.slice none 0 0, .iface 77 (.int .i64 (placeErr D n p))]) ∧ Below w.heap.size w w' := by
  have hB0 := ownOut_below w A0 n cap 24
  have h := rls_bad A0 cap n D A C Ap cp p (ownOut w A0 n cap 24) hp (hM.later hB0) (hP.later hB0)
  have HB0 : Hid (Below w.heap.size w (ownOut w A0 n cap 24)) := hB0
  clear hB0 hM hP hp
  generalize placeErr D n p = c at h
  generalize p.length = m at h
  go_enter Try.func21, Try.ntmps21
  go_wp2_with fail
  refine h.mono ?_
  rintro e w1 ⟨rfl, hb1⟩
  go_wp2_with fail
  go_ret2
  exact ⟨rfl, onB HB0.out hb1⟩
end Go.Proofs.Ytmjcnlpjnbcfjad

namespace Go.Proofs.Ytmjcnlpjnbcfjad
open Go.ChangeShapes Go.WideShapes Go.ChangeAt Go.RowKit
set_option maxRecDepth 20000

set_option maxHeartbeats 2000000 in
theorem rprod_any (g n : Nat) (D : Nat → Dm) (p : List Int) (Aq : Option Addr) (cq : Nat) (q : List Int) (w : World) (hq : InO D n q) (hS : SlB w g n n (wts D p)) (hQ : PlAt w Aq cq q) : Calls Try.prog 22 #[.slice (some ⟨g, 0, none⟩) n n, .slice Aq q.length cq] w fun e w' => e = .returned (.int .i64 (prTo (wts D p) q n)) ∧ Below w.heap.size w w' := by
  obtain ⟨hn1, hn4, -, hd⟩ := allErr_some hq.right
  have hl := hq.len
  obtain ⟨hcp, h0 | ⟨bq, oq, rfl, hbq, hcell⟩⟩ := hQ
  · rw [h0] at hl; simp at hl; omega
  rw [hl] at hcp hcell ⊢
  have HC : Hid (∀ j, j < n → w.cell? ⟨bq, oq + j, none⟩ = some (.int .i64 (q.getD j 0))) := hcell
  have HS : Hid (SlB w g n n (wts D p)) := hS
  have HQ : Hid (InO D n q) := hq
  have hn' : (n : Int) ≤ 4 := by omega
  clear hcell hS hq hl
  go_enter Try.func22, Try.ntmps22
  go_wp2_with fail
  go_loopg [5, 10] n (fun g' s5 s10 wr => ∃ (k : Nat), k ≤ n ∧ g' = n - k ∧ s10 = .int .i64 k ∧ s5 = .int .i64 (prTo (wts D p) q k) ∧ Below w.heap.size w wr)
  case atStart => exact ⟨0, Nat.zero_le _, rfl, rfl, rfl, Below.refl _ _⟩
  case round =>
    obtain ⟨k, hk, rfl, rfl, rfl, hBw⟩ := hrel
    have HBw : Hid (Below w.heap.size w wr) := hBw
    by_cases hlt : k < n
    · have hki : (k : Int) < (n : Int) := by omega
      obtain ⟨AL, cL, hcL, hcl, hIL⟩ := (HS.out.later hBw).get hlt
      have hlen : (wts D p k).length = (D k).n := cnts_len ..
      have e1 := (hBw.cell (p := ⟨bq, oq + k, none⟩) hbq).trans (HC.out k hlt)
      obtain ⟨x, hx⟩ : ∃ x : Nat, q.getD k 0 = x := ⟨(q.getD k 0).toNat, by have := HQ.out.lo k hlt; omega⟩
      have hxn : x < (D k).n := by have := HQ.out.hi k hlt; omega
      obtain ⟨hdn1, hdn2⟩ := hd k hlt
      rcases hIL with h0 | ⟨bL, rfl, hbL, hLc⟩
      · rw [h0] at hlen; simp at hlen; omega
      have e2 := hLc x (by omega)
      rw [hlen] at hcL hcl
      rw [hx] at e1
      have HPr : Hid (prTo (wts D p) q (k + 1) = prTo (wts D p) q k * (wts D p k).getD x 0) := by show _ = _; rw [prTo, hx, Int.toNat_natCast]
      have hs1 := prTo_small HQ.out.right p q (k + 1) (by omega)
      rw [HPr.out] at hs1
      obtain ⟨hs1, hs2⟩ := hs1
      generalize (wts D p k).getD x 0 = y at e2 HPr hs1 hs2
      generalize (D k).n = dk at hcL hcl hdn1 hdn2 hxn
      generalize prTo (wts D p) q k = z at HPr hs1 hs2
      have hxi : (x : Int) < (dk : Int) := by omega
      have hdi : (dk : Int) ≤ 12 := by omega
      clear hBw hLc hlen hx
      go_wp2_with fail
      first | go_quiet (fail) | skip
      go_wp2_with fail
      go_roundg (n - (k + 1))
      case measure => omega
      case rel => exact ⟨k + 1, by omega, rfl, by go_num, by rw [HPr.out], by first | exact HBw.out | exact below_drewN HBw.out _⟩
    · have hke : k = n := by omega
      subst hke
      clear hBw
      go_wp2_with fail
      go_ret
      exact ⟨rfl, HBw.out⟩

/-- what is wrong with entries, or with a place; what comes of them there -/
def rvErr (D : Nat → Dm) (n : Nat) (l : List En) (p : List Int) : Int := if entsErr D n l ≠ 0 then entsErr D n l else placeErr D n p
def rvV (D : Nat → Dm) (n : Nat) (l : List En) (p : List Int) : Int × Int := if rvErr D n l p = 0 then rollV D n l p else (0, 0)
theorem rvErr_ents {D : Nat → Dm} {n : Nat} {l : List En} {p : List Int} (h : entsErr D n l ≠ 0) : rvErr D n l p = entsErr D n l := by unfold rvErr; rw [if_pos h]
theorem rvErr_place {D : Nat → Dm} {n : Nat} {l : List En} {p : List Int} (h : entsErr D n l = 0) : rvErr D n l p = placeErr D n p := by unfold rvErr; rw [if_neg (by simpa using h)]
theorem rvV_bad {D : Nat → Dm} {n : Nat} {l : List En} {p : List Int} (h : rvErr D n l p ≠ 0) : rvV D n l p = (0, 0) := by unfold rvV; rw [if_neg h]
theorem rvV_ok {D : Nat → Dm} {n : Nat} {l : List En} {p : List Int} (h : rvErr D n l p = 0) : rvV D n l p = rollV D n l p := by unfold rvV; rw [if_pos h]
theorem rvErr_in {D : Nat → Dm} {n : Nat} {l : List En} {p : List Int} (h : rvErr D n l p = 0) : Ens D n l ∧ InO D n p := by
  by_cases h1 : entsErr D n l = 0
  · rw [rvErr_place h1] at h
    exact ⟨ens_of h1, inO_of h⟩
  · rw [rvErr_ents h1] at h
    exact absurd h h1

set_option maxHeartbeats 4000000 in
theorem rvalue_any (A0 : Option Addr) (cap n : Nat) (D : Nat → Dm) (A : Nat → Option Addr) (C : Nat → Nat) (AE : Option Addr) (ce : Nat) (xs : List EnL) (Ap : Option Addr) (cp : Nat) (p : List Int) (w : World) (hEs : Ens D n (lE xs)) (hp : InO D n p) (hM : DimsV w A0 cap n D A C) (hE : EnsV w AE ce xs) (hP : PlAt w Ap cp p) :
    Calls Try.prog 7 #[.agg #[.slice A0 n cap], .slice AE xs.length ce, .slice Ap p.length cp] w fun e w' => e = .returned (.tuple #[.agg #[.int .i64 (rollV D n (lE xs) p).1, .int .i64 (rollV D n (lE xs) p).2], .nilIface]) ∧ Below w.heap.size w w' := by
  have hB0 := ownOC_below w A0 n cap
  have h := icheck_any A0 cap n D A C AE ce xs (ownOC w A0 n cap) (hM.later hB0) (hE.later hB0)
  rw [hEs.ok, errV_zero] at h
  have HB0 : Hid (Below w.heap.size w (ownOC w A0 n cap)) := hB0
  have HWs : Hid (∀ w', Below w.heap.size w w' → Calls Try.prog 21 #[.agg #[.slice A0 n cap], .slice Ap p.length cp] w' fun e w'' => (∃ g, e = .returned (.tuple #[.slice (some ⟨g, 0, none⟩) n n, .nilIface]) ∧ SlB w'' g n n (wts D p)) ∧ Below w'.heap.size w' w'') := fun w' hw' => rws_any A0 cap n D A C Ap cp p w' hp (hM.later hw') (hP.later hw')
  have HE : Hid (EnsV w AE ce xs) := hE
  have HEs : Hid (Ens D n (lE xs)) := hEs
  have hfew : xs.length ≤ 3000 := by have := hEs.few; rw [lE_len] at this; exact this
  have HFin : Hid (((lE xs).take xs.length).foldl (rollStep D n p) (0, 0) = rollV D n (lE xs) p) := by show _ = _; rw [List.take_of_length_le (by rw [lE_len]; exact Nat.le_refl _)]; exact roll_fold ..
  obtain ⟨N, hN⟩ : ∃ N, xs.length = N := ⟨_, rfl⟩
  have HN : Hid (xs.length = N) := hN
  rw [hN] at h hfew HFin
  rw [hN]
  generalize p.length = np at HWs
  have hNi : (N : Int) ≤ 3000 := by omega
  clear hB0 hM hE hP hN hEs hp
  go_enter Try.func7, Try.ntmps7
  go_wp2_with fail
  refine h.mono ?_
  rintro e w1 ⟨rfl, hb1⟩
  have hB : Below w.heap.size w w1 := onB HB0.out hb1
  have hz1 : w.heap.size + 1 < w1.heap.size := by have := hb1.size; rw [ownOC_size] at this; omega
  have c1 : w1.cell? ⟨w.heap.size, 0, none⟩ = some (.slice A0 n cap) := (hb1.cell (p := ⟨w.heap.size, 0, none⟩) (by show w.heap.size < _; rw [ownOC_size]; omega)).trans (ownOC_o ..)
  have HK1 : Hid (w1.heap[w.heap.size + 1]? = some (.cells #[.int .i64 0, .int .i64 0] 34)) := (hb1.block (w.heap.size + 1) (by rw [ownOC_size]; omega)).trans (ownOC_b ..)
  have hws := HWs.out w1 hB
  have HB : Hid (Below w.heap.size w w1) := hB
  clear hb1 h hB
  go_wp2_with fail
  refine hws.mono ?_
  rintro e w2 ⟨⟨g, rfl, hS⟩, hb2⟩
  have HB2 : Hid (Below w.heap.size w w2) := onB HB.out hb2
  have HS : Hid (SlB w2 g n n (wts D p)) := hS
  have HK2 : Hid (w2.heap[w.heap.size + 1]? = some (.cells #[.int .i64 0, .int .i64 0] 34)) := (hb2.block _ hz1).trans HK1.out
  have hz2 : w.heap.size + 1 < w2.heap.size := Nat.lt_of_lt_of_le hz1 hb2.size
  clear hb2 hS hws c1 HK1 HB hz1
  go_wp2_with fail
  go_loopg [11, 12, 35] N (fun g' s11 s12 s35 wr => ∃ (k : Nat), k ≤ N ∧ g' = N - k ∧ s35 = .int .i64 k ∧ s11 = .int .i64 (rollN D n p ((lE xs).take k)) ∧ s12 = .bool (((lE xs).take k).any (cntR D n p)) ∧ Below w2.heap.size w2 wr)
  case atStart => exact ⟨0, Nat.zero_le _, rfl, rfl, rfl, rfl, Below.refl _ _⟩
  case round =>
    obtain ⟨k, hk, rfl, rfl, rfl, rfl, hBw⟩ := hrel
    have HBw : Hid (Below w2.heap.size w2 wr) := hBw
    by_cases hlt : k < N
    · have hki : (k : Int) < (N : Int) := by omega
      have hkx : k < xs.length := by rw [HN.out]; exact hlt
      have hkl : k < (lE xs).length := by rw [lE_len]; exact hkx
      obtain ⟨hce, -, h0 | ⟨b, o, rfl, hA⟩⟩ := HE.out.later (onB HB2.out hBw)
      · rw [h0] at hkx; cases hkx
      obtain ⟨c0, c1⟩ := hA.at hkx
      have hpl := hA.pl hkx
      have hel : (lE xs)[k] = (xs.getD k noL).e := by rw [← lE_at, List.getD_eq_getElem?_getD, List.getElem?_eq_getElem hkl]; rfl
      obtain ⟨hqO, hqL, hqN⟩ := HEs.out.each (lE xs)[k] (List.getElem_mem hkl)
      rw [hel] at hqO hqL hqN
      have hw0 := pwTo_small hqO p n (Nat.le_refl _)
      have hpr := pr_wts hqO hqL p n (Nat.le_refl _)
      have HPd : Hid (∀ w', Below wr.heap.size wr w' → Calls Try.prog 22 #[.slice (some ⟨g, 0, none⟩) n n, .slice (xs.getD k noL).A (xs.getD k noL).e.pl.length (xs.getD k noL).c] w' fun e w'' => e = .returned (.int .i64 (pwTo D p (xs.getD k noL).e.pl n)) ∧ Below w'.heap.size w' w'') := fun w' hw' => by
        have := rprod_any g n D p _ _ _ w' hqO (HS.out.later (onB hBw hw')) (hpl.later hw')
        rw [hpr] at this
        exact this
      have hn1 : -1000000 ≤ (xs.getD k noL).e.n ∧ (xs.getD k noL).e.n ≤ 1000000 := by simpa [numOk] using hqN
      have hbd := roll_bound p ((lE xs).take k) fun e he => HEs.out.each e (List.mem_of_mem_take he)
      have hlk : (((lE xs).take k).length : Int) ≤ 3000 := by
        have := List.length_take_le k (lE xs)
        omega
      have HT : Hid ((lE xs).take (k + 1) = (lE xs).take k ++ [(xs.getD k noL).e]) := by show _ = _; rw [List.take_succ_eq_append_getElem hkl, hel]
      have HCn : Hid (cntR D n p (xs.getD k noL).e = !(pwTo D p (xs.getD k noL).e.pl n == 0)) := cnt_pw
      have HVr : Hid (valR D n p (xs.getD k noL).e = pwTo D p (xs.getD k noL).e.pl n * (xs.getD k noL).e.n) := rfl
      generalize hlen : ((lE xs).take k).length = lk at hbd hlk
      obtain ⟨RS, hRS⟩ : ∃ v, rollN D n p ((lE xs).take k) = v := ⟨_, rfl⟩
      have HRS : Hid (rollN D n p ((lE xs).take k) = RS) := hRS
      rw [hRS] at hbd ⊢
      obtain ⟨an, han⟩ : ∃ v, ((lE xs).take k).any (cntR D n p) = v := ⟨_, rfl⟩
      have HAN : Hid (((lE xs).take k).any (cntR D n p) = an) := han
      rw [han]
      generalize (xs.getD k noL).e = en at *
      generalize (xs.getD k noL).A = Ae at *
      generalize (xs.getD k noL).c = ke at *
      generalize pwTo D p en.pl n = pw at HPd HCn HVr hw0
      obtain ⟨en1, en2⟩ := en
      simp only at *
      generalize en1.length = me at c0 HPd
      have hRS1 : -3000000000 ≤ RS := by omega
      have hRS2 : RS ≤ 3000000000 := by omega
      have hcs : pw = 0 ∨ pw = 1 ∨ pw = -1 := by omega
      clear hBw hA hpl hqO hqL hqN hpr hbd hlk hlen hRS han hel hw0
      obtain ⟨hn1, hn2⟩ := hn1
      rcases hcs with rfl | rfl | rfl
      · have HC0 : Hid (cntR D n p ⟨en1, en2⟩ = false) := HCn.out
        go_wp2_with fail
        refine (HPd.out _ (by go_grown)).mono ?_
        rintro e w3 ⟨rfl, hb3⟩
        have HB3 : Hid (Below wr.heap.size wr w3) := onB (by go_grown) hb3
        clear hb3
        go_wp2_with fail
        go_roundg (N - (k + 1))
        case measure => omega
        case rel =>
          refine ⟨k + 1, by omega, rfl, by go_num, ?_, ?_, onB HBw.out HB3.out⟩
          · rw [HT.out, rollN_append, HRS.out, rollN, rollN, if_neg (by rw [HC0.out]; simp)]
            simp
          · rw [HT.out, List.any_append, HAN.out]; simp [HC0.out]
      · have HC0 : Hid (cntR D n p ⟨en1, en2⟩ = true) := HCn.out
        have HV0 : Hid (valR D n p ⟨en1, en2⟩ = en2) := by show _ = _; rw [HVr.out]; simp
        go_wp2_with fail
        refine (HPd.out _ (by go_grown)).mono ?_
        rintro e w3 ⟨rfl, hb3⟩
        have HB3 : Hid (Below wr.heap.size wr w3) := onB (by go_grown) hb3
        have c3 : w3.cell? ⟨wr.heap.size, 1, none⟩ = some (.int .i64 en2) := (hb3.cell (p := ⟨wr.heap.size, 1, none⟩) (by simp)).trans (by simp)
        clear hb3
        go_wp2_with fail
        go_roundg (N - (k + 1))
        case measure => omega
        case rel =>
          refine ⟨k + 1, by omega, rfl, by go_num, ?_, ?_, onB HBw.out HB3.out⟩
          · rw [HT.out, rollN_append, HRS.out, rollN, rollN, if_pos HC0.out, HV0.out]
            first | rfl | (congr 1; omega) | go_num
          · rw [HT.out, List.any_append, HAN.out]; simp [HC0.out]
      · have HC0 : Hid (cntR D n p ⟨en1, en2⟩ = true) := HCn.out
        have HV0 : Hid (valR D n p ⟨en1, en2⟩ = -en2) := by show _ = _; rw [HVr.out]; simp
        go_wp2_with fail
        refine (HPd.out _ (by go_grown)).mono ?_
        rintro e w3 ⟨rfl, hb3⟩
        have HB3 : Hid (Below wr.heap.size wr w3) := onB (by go_grown) hb3
        have c3 : w3.cell? ⟨wr.heap.size, 1, none⟩ = some (.int .i64 en2) := (hb3.cell (p := ⟨wr.heap.size, 1, none⟩) (by simp)).trans (by simp)
        clear hb3
        go_wp2_with fail
        go_roundg (N - (k + 1))
        case measure => omega
        case rel =>
          refine ⟨k + 1, by omega, rfl, by go_num, ?_, ?_, onB HBw.out HB3.out⟩
          · rw [HT.out, rollN_append, HRS.out, rollN, rollN, if_pos HC0.out, HV0.out]
            first | rfl | (congr 1; omega) | go_num
          · rw [HT.out, List.any_append, HAN.out]; simp [HC0.out]
    · have hke : k = N := by omega
      subst hke
      have hz3 : w.heap.size + 1 < wr.heap.size := Nat.lt_of_lt_of_le hz2 hBw.size
      have HK3 : Hid (wr.heap[w.heap.size + 1]? = some (.cells #[.int .i64 0, .int .i64 0] 34)) := (hBw.block _ hz2).trans HK2.out
      have HAll : Hid ((lE xs).take k = lE xs) := by show _ = _; rw [List.take_of_length_le (by rw [lE_len, HN.out]; exact Nat.le_refl _)]
      rw [HAll.out]
      have hbd := roll_bound p (lE xs) HEs.out.each
      have hlk : ((lE xs).length : Int) ≤ 3000 := by rw [lE_len, HN.out]; omega
      have hR1 : -3000000000 ≤ rollN D n p (lE xs) := by omega
      have hR2 : rollN D n p (lE xs) ≤ 3000000000 := by omega
      cases han : (lE xs).any (cntR D n p)
      · have HV1 : Hid (rollV D n (lE xs) p = (0, 0)) := by show _ = _; unfold rollV rollK; rw [roll_none han, han]; rfl
        have d0 : wr.cell? ⟨w.heap.size + 1, 0, none⟩ = some (.int .i64 0) := by rw [Lib.cell_of_heap HK3.out]; rfl
        have d1 : wr.cell? ⟨w.heap.size + 1, 1, none⟩ = some (.int .i64 0) := by rw [Lib.cell_of_heap HK3.out]; rfl
        have f0 : wr.frozen? ⟨w.heap.size + 1, 0, none⟩ = false := Lib.frozen_of_heap HK3.out 0
        have f1 : wr.frozen? ⟨w.heap.size + 1, 1, none⟩ = false := Lib.frozen_of_heap HK3.out 1
        generalize rollN D n p (lE xs) = RS
        clear hBw han hbd hlk hR1 hR2
        go_wp2_with fail
        refine bodyPost_ret (v := .tuple #[.agg #[.int .i64 0, .int .i64 0], .nilIface]) (by simp [results, Try.results7, go_sem, d0, d1]) rfl ⟨by rw [HV1.out], ?_⟩
        exact ((onB HB2.out HBw.out).setCell (by show w.heap.size ≤ w.heap.size + 1; omega) _).setCell (by show w.heap.size ≤ w.heap.size + 1; omega) _
      · have HV1 : Hid (rollV D n (lE xs) p = (1, rollN D n p (lE xs))) := by show _ = _; unfold rollV rollK; rw [han]; rfl
        generalize rollN D n p (lE xs) = RS at HV1 hR1 hR2
        have hof := fun w' => of_any RS w'
        have hofp : ofP RS = (1, RS) := ofP_in (by omega) (by omega)
        rw [hofp] at hof
        clear hBw han hbd hlk hofp
        go_wp2_with fail
        refine (hof _).mono ?_
        rintro e w4 ⟨rfl, hb4⟩
        have k4 : w4.heap[w.heap.size + 1]? = some (.cells #[.int .i64 0, .int .i64 0] 34) := (hb4.block _ hz3).trans HK3.out
        have d0 : w4.cell? ⟨w.heap.size + 1, 0, none⟩ = some (.int .i64 0) := by rw [Lib.cell_of_heap k4]; rfl
        have d1 : w4.cell? ⟨w.heap.size + 1, 1, none⟩ = some (.int .i64 0) := by rw [Lib.cell_of_heap k4]; rfl
        have f0 : w4.frozen? ⟨w.heap.size + 1, 0, none⟩ = false := Lib.frozen_of_heap k4 0
        have f1 : w4.frozen? ⟨w.heap.size + 1, 1, none⟩ = false := Lib.frozen_of_heap k4 1
        have HB4 : Hid (Below w.heap.size w w4) := onB (onB HB2.out HBw.out) hb4
        clear hb4 k4 hof
        go_wp2_with fail
        refine bodyPost_ret (v := .tuple #[.agg #[.int .i64 1, .int .i64 RS], .nilIface]) (by simp [results, Try.results7, go_sem, d0, d1]) rfl ⟨by rw [HV1.out], ?_⟩
        exact (HB4.out.setCell (by show w.heap.size ≤ w.heap.size + 1; omega) _).setCell (by show w.heap.size ≤ w.heap.size + 1; omega) _

set_option maxHeartbeats 2000000 in
/-- what Value answers, whatever it is called with -/
theorem rval_any (A0 : Option Addr) (cap n : Nat) (D : Nat → Dm) (A : Nat → Option Addr) (C : Nat → Nat) (AE : Option Addr) (ce : Nat) (xs : List EnL) (Ap : Option Addr) (cp : Nat) (p : List Int) (w : World) (hM : DimsV w A0 cap n D A C) (hE : EnsV w AE ce xs) (hP : PlAt w Ap cp p) :
    Calls Try.prog 7 #[.agg #[.slice A0 n cap], .slice AE xs.length ce, .slice Ap p.length cp] w fun e w' => e = .returned (.tuple #[.agg #[.int .i64 (rvV D n (lE xs) p).1, .int .i64 (rvV D n (lE xs) p).2], errV (rvErr D n (lE xs) p)]) ∧ Below w.heap.size w w' := by
  by_cases hr : rvErr D n (lE xs) p = 0
  · obtain ⟨hEs, hp⟩ := rvErr_in hr
    rw [rvV_ok hr, hr, errV_zero]
    exact rvalue_any A0 cap n D A C AE ce xs Ap cp p w hEs hp hM hE hP
  · have HV : Hid (rvV D n (lE xs) p = (0, 0)) := rvV_bad hr
    have HEr : Hid (errV (rvErr D n (lE xs) p) = .iface 77 (.int .i64 (rvErr D n (lE xs) p))) := errV_some hr
    have hB0 := ownOC_below w A0 n cap
    have h := icheck_any A0 cap n D A C AE ce xs (ownOC w A0 n cap) (hM.later hB0) (hE.later hB0)
    have HB0 : Hid (Below w.heap.size w (ownOC w A0 n cap)) := hB0
    by_cases he : entsErr D n (lE xs) = 0
    · have hpe := rvErr_place (p := p) he
      rw [hpe] at hr HEr
      rw [he, errV_zero] at h
      have HWs : Hid (∀ w', Below w.heap.size w w' → Calls Try.prog 21 #[.agg #[.slice A0 n cap], .slice Ap p.length cp] w' fun e w'' => e = .returned (.tuple #[.slice none 0 0, .iface 77 (.int .i64 (placeErr D n p))]) ∧ Below w'.heap.size w' w'') := fun w' hw' => rws_bad A0 cap n D A C Ap cp p w' hr (hM.later hw') (hP.later hw')
      have HPE : Hid (rvErr D n (lE xs) p = placeErr D n p) := hpe
      clear hB0 hM hE hP hr he hpe
      generalize placeErr D n p = E at HWs HEr HPE
      generalize p.length = np at HWs
      generalize xs.length = N at h
      go_enter Try.func7, Try.ntmps7
      go_wp2_with fail
      refine h.mono ?_
      rintro e w1 ⟨rfl, hb1⟩
      have hB : Below w.heap.size w w1 := onB HB0.out hb1
      have hz1 : w.heap.size + 1 < w1.heap.size := by have := hb1.size; rw [ownOC_size] at this; omega
      have c1 : w1.cell? ⟨w.heap.size, 0, none⟩ = some (.slice A0 n cap) := (hb1.cell (p := ⟨w.heap.size, 0, none⟩) (by show w.heap.size < _; rw [ownOC_size]; omega)).trans (ownOC_o ..)
      have HK1 : Hid (w1.heap[w.heap.size + 1]? = some (.cells #[.int .i64 0, .int .i64 0] 34)) := (hb1.block (w.heap.size + 1) (by rw [ownOC_size]; omega)).trans (ownOC_b ..)
      have hws := HWs.out w1 hB
      have HB : Hid (Below w.heap.size w w1) := hB
      clear hb1 h hB
      go_wp2_with fail
      refine hws.mono ?_
      rintro e w2 ⟨rfl, hb2⟩
      have HB2 : Hid (Below w.heap.size w w2) := onB HB.out hb2
      have k4 : w2.heap[w.heap.size + 1]? = some (.cells #[.int .i64 0, .int .i64 0] 34) := (hb2.block _ hz1).trans HK1.out
      have d0 : w2.cell? ⟨w.heap.size + 1, 0, none⟩ = some (.int .i64 0) := by rw [Lib.cell_of_heap k4]; rfl
      have d1 : w2.cell? ⟨w.heap.size + 1, 1, none⟩ = some (.int .i64 0) := by rw [Lib.cell_of_heap k4]; rfl
      have f0 : w2.frozen? ⟨w.heap.size + 1, 0, none⟩ = false := Lib.frozen_of_heap k4 0
      have f1 : w2.frozen? ⟨w.heap.size + 1, 1, none⟩ = false := Lib.frozen_of_heap k4 1
      clear hb2 hws c1 HK1 HB hz1 k4
      go_wp2_with fail
      refine bodyPost_ret (v := .tuple #[.agg #[.int .i64 0, .int .i64 0], .iface 77 (.int .i64 E)]) (by simp [results, Try.results7, go_sem, d0, d1]) rfl ⟨by rw [HV.out, HPE.out, HEr.out], ?_⟩
      exact (HB2.out.setCell (by show w.heap.size ≤ w.heap.size + 1; omega) _).setCell (by show w.heap.size ≤ w.heap.size + 1; omega) _
    · have hpe := rvErr_ents (p := p) he
      rw [hpe] at hr HEr
      rw [errV_some he] at h
      have HPE : Hid (rvErr D n (lE xs) p = entsErr D n (lE xs)) := hpe
      clear hB0 hM hE hP hr he hpe
      generalize entsErr D n (lE xs) = E at h HEr HPE
      generalize p.length = np
      generalize xs.length = N at h
      go_enter Try.func7, Try.ntmps7
      go_wp2_with fail
      refine h.mono ?_
      rintro e w2 ⟨rfl, hb2⟩
      have HB2 : Hid (Below w.heap.size w w2) := onB HB0.out hb2
      have k4 : w2.heap[w.heap.size + 1]? = some (.cells #[.int .i64 0, .int .i64 0] 34) := (hb2.block (w.heap.size + 1) (by rw [ownOC_size]; omega)).trans (ownOC_b ..)
      have d0 : w2.cell? ⟨w.heap.size + 1, 0, none⟩ = some (.int .i64 0) := by rw [Lib.cell_of_heap k4]; rfl
      have d1 : w2.cell? ⟨w.heap.size + 1, 1, none⟩ = some (.int .i64 0) := by rw [Lib.cell_of_heap k4]; rfl
      have f0 : w2.frozen? ⟨w.heap.size + 1, 0, none⟩ = false := Lib.frozen_of_heap k4 0
      have f1 : w2.frozen? ⟨w.heap.size + 1, 1, none⟩ = false := Lib.frozen_of_heap k4 1
      clear hb2 h k4
      go_wp2_with fail
      refine bodyPost_ret (v := .tuple #[.agg #[.int .i64 0, .int .i64 0], .iface 77 (.int .i64 E)]) (by simp [results, Try.results7, go_sem, d0, d1]) rfl ⟨by rw [HV.out, HPE.out, HEr.out], ?_⟩
      exact (HB2.out.setCell (by show w.heap.size ≤ w.heap.size + 1; omega) _).setCell (by show w.heap.size ≤ w.heap.size + 1; omega) _
end Go.Proofs.Ytmjcnlpjnbcfjad

namespace Go.Proofs.Ytmjcnlpjnbcfjad

theorem sq_in {n i j : Nat} (hn : n ≤ 8) (hi : i ≤ n) (hj : j ≤ n) : InO (squareD n) 2 [(i : Int), (j : Int)] := by
  refine ⟨(sq_right (by omega)).1, rfl, fun k hk => ?_, fun k hk => ?_⟩
  · have : k = 0 ∨ k = 1 := by omega
    rcases this with rfl | rfl
    · show (0 : Int) ≤ (i : Int); omega
    · show (0 : Int) ≤ (j : Int); omega
  · have : k = 0 ∨ k = 1 := by omega
    rcases this with rfl | rfl
    · show (i : Int) < ((n + 1 : Nat) : Int); omega
    · show (j : Int) < ((n + 1 : Nat) : Int); omega
section
variable {n m : Nat} {v : Nat → Int} (hn1 : 1 ≤ n) (hn8 : n ≤ 8) (hm : m ≤ n * n) (h60 : m ≤ 60) (hv : ∀ k, k < m → -1000000 ≤ v k ∧ v k ≤ 1000000)
include hn1 hn8 hm h60 hv
theorem corn_ens : Ens (squareD n) 2 (cornL n v m) := by
  have h0 := square_ents ⟨n, by omega⟩
  have h := corn_all hn1 hn8 hm h60 hv
  have e : editsV (squareD n) 2 [] (cornD n v m) = editsFrom (squareD n) 2 [] 0 (cornD n v m) := by
    unfold editsV
    rw [if_neg (by simp [cornD]; omega), if_neg (by simpa using h0)]
  have h1 := Ens.edits (cornD n v m) [] 0 (ens_of h0) (by rw [← e, h])
  rw [← e, h] at h1
  exact h1
theorem corn_err {i j : Nat} (hi : i ≤ n) (hj : j ≤ n) : rvErr (squareD n) 2 (cornL n v m) [(i : Int), (j : Int)] = 0 := by
  rw [rvErr_place (corn_ens hn1 hn8 hm h60 hv).ok]
  exact (sq_in hn8 hi hj).ok
end
/-- does entry k stand at that place, or below it -/
def atB (n i j k : Nat) : Bool := (decide (i = 0) || decide (i = 1 + k / n)) && (decide (j = 0) || decide (j = 1 + k % n))
def cornK (n m i j : Nat) : Int := if (List.range m).any (atB n i j) = true then 1 else 0
theorem corn_val {n m : Nat} {v : Nat → Int} (hn1 : 1 ≤ n) (hn8 : n ≤ 8) (hm : m ≤ n * n) (h60 : m ≤ 60) (hv : ∀ k, k < m → -1000000 ≤ v k ∧ v k ≤ 1000000) {i j : Nat} (hi : i ≤ n) (hj : j ≤ n) : rvV (squareD n) 2 (cornL n v m) [(i : Int), (j : Int)] = (cornK n m i j, sumIf (atB n i j) v m) := by
  rw [rvV_ok (corn_err hn1 hn8 hm h60 hv hi hj)]
  unfold rollV rollK
  rw [corn_roll hn1 hn8 v hi hj m hm]
  refine Prod.ext ?_ rfl
  show (if (cornL n v m).any (cntR (squareD n) 2 [(i : Int), (j : Int)]) = true then (1 : Int) else 0) = cornK n m i j
  unfold cornK
  have e : (cornL n v m).any (cntR (squareD n) 2 [(i : Int), (j : Int)]) = (List.range m).any (atB n i j) := by
    unfold cornL
    rw [List.any_map, Bool.eq_iff_iff, List.any_eq_true, List.any_eq_true]
    refine ⟨fun ⟨k, hk, h⟩ => ⟨k, hk, ?_⟩, fun ⟨k, hk, h⟩ => ⟨k, hk, ?_⟩⟩
    · have hk' : k < m := by simpa using hk
      rw [← h]; exact ((corn_cnt hn1 hn8 (by omega) v hi hj).1).symm
    · have hk' : k < m := by simpa using hk
      rw [← h]; exact (corn_cnt hn1 hn8 (by omega) v hi hj).1
  rw [e]
theorem sumIf_bound {b : Nat → Bool} {v : Nat → Int} : ∀ m : Nat, (∀ k, k < m → -1000000 ≤ v k ∧ v k ≤ 1000000) → -1000000 * (m : Int) ≤ sumIf b v m ∧ sumIf b v m ≤ 1000000 * (m : Int)
  | 0, _ => by simp [sumIf]
  | m + 1, h => by
    have ih := sumIf_bound (b := b) m fun k hk => h k (by omega)
    have hm := h m (by omega)
    rw [sumIf]
    split <;> omega
theorem sumRows_bound {f : Nat → Nat} {v : Nat → Int} {m : Nat} (h60 : m ≤ 60) (hv : ∀ k, k < m → -1000000 ≤ v k ∧ v k ≤ 1000000) : ∀ i : Nat, -60000000 * (i : Int) ≤ sumRows f v m i ∧ sumRows f v m i ≤ 60000000 * (i : Int)
  | 0 => by simp [sumRows]
  | i + 1 => by
    have ih := sumRows_bound (f := f) h60 hv i
    have hb := sumIf_bound (b := fun k => decide (i + 1 = f k)) m hv
    rw [sumRows]
    omega
theorem sumIf_none {b : Nat → Bool} {v : Nat → Int} : ∀ m, (List.range m).any b = false → sumIf b v m = 0
  | 0, _ => rfl
  | m + 1, h => by
    rw [List.range_succ, List.any_append, Bool.or_eq_false_iff] at h
    have hb : b m = false := by simpa using h.2
    rw [sumIf, sumIf_none m h.1, if_neg (by rw [hb]; simp)]
    rfl
theorem cornK_one {n m i j : Nat} (hm : 0 < m) (h : atB n i j 0 = true) : cornK n m i j = 1 := by
  unfold cornK
  rw [if_pos]
  rw [List.any_eq_true]
  exact ⟨0, by simpa using hm, h⟩
theorem cornK_two (n m i j : Nat) (v : Nat → Int) : (cornK n m i j = 1) ∨ (cornK n m i j = 0 ∧ sumIf (atB n i j) v m = 0) := by
  unfold cornK
  cases h : (List.range m).any (atB n i j)
  · right; exact ⟨by simp, sumIf_none m h⟩
  · left; simp
/-- added up so far -/
def accP (f : Nat → Nat) (v : Nat → Int) (m i : Nat) : Int × Int := if i = 0 then (0, 0) else (1, sumRows f v m i)
theorem plus_sum {k1 S k2 s : Int} (h1 : k1 = 1 ∨ (k1 = 0 ∧ S = 0)) (h2 : k2 = 1 ∨ (k2 = 0 ∧ s = 0)) (h3 : k1 = 1 ∨ k2 = 1) (hb : -1000000000000 ≤ S + s ∧ S + s ≤ 1000000000000) : plusP k1 S k2 s = (1, S + s) := by
  rcases h1 with rfl | ⟨rfl, rfl⟩
  · rcases h2 with rfl | ⟨rfl, rfl⟩
    · unfold plusP joinP; rw [ofP_in hb.1 hb.2]; rfl
    · unfold plusP joinP; rw [ofP_in hb.1 hb.2]; rfl
  · rcases h2 with rfl | ⟨rfl, rfl⟩
    · unfold plusP joinP; rw [ofP_in hb.1 hb.2]; rfl
    · rcases h3 with h3 | h3 <;> cases h3
theorem good_of {k s : Int} (h : k = 1 ∨ (k = 0 ∧ s = 0)) (hb : -1000000000000 ≤ s ∧ s ≤ 1000000000000) : good k s = true := by
  unfold good
  refine decide_eq_true ?_
  rcases h with rfl | ⟨rfl, rfl⟩
  · exact Or.inl ⟨rfl, hb⟩
  · exact Or.inr ⟨Or.inl rfl, rfl⟩
/-- what holds of one step of adding up -/
theorem acc_step {f : Nat → Nat} {v : Nat → Int} {m i : Nat} {b : Nat → Bool} {K : Int} (h60 : m ≤ 60) (hi8 : i ≤ 7) (hv : ∀ k, k < m → -1000000 ≤ v k ∧ v k ≤ 1000000) (hb : ∀ k, k < m → b k = decide (i + 1 = f k)) (hK : K = 1 ∨ (K = 0 ∧ sumIf b v m = 0)) (h1 : i = 0 → K = 1) :
    good (accP f v m i).1 (accP f v m i).2 = true ∧ good K (sumIf b v m) = true ∧ plusP (accP f v m i).1 (accP f v m i).2 K (sumIf b v m) = accP f v m (i + 1) := by
  have hs : sumIf b v m = sumIf (fun k => decide (i + 1 = f k)) v m := sumIf_same m hb
  have hb1 := sumIf_bound (b := b) m hv
  have hb2 := sumRows_bound (f := f) h60 hv i
  have h3 : (accP f v m i).1 = 1 ∨ ((accP f v m i).1 = 0 ∧ (accP f v m i).2 = 0) := by
    unfold accP
    split
    · right; exact ⟨rfl, rfl⟩
    · left; rfl
  have h4 : (accP f v m i).2 = sumRows f v m i := by
    unfold accP
    split
    · rename_i h; subst h; rfl
    · rfl
  have h5 : accP f v m (i + 1) = (1, (accP f v m i).2 + sumIf b v m) := by
    rw [h4, hs]
    unfold accP
    rw [if_neg (by omega)]
    rfl
  refine ⟨good_of h3 (by rw [h4]; omega), good_of hK (by omega), ?_⟩
  rw [h5]
  refine plus_sum h3 hK ?_ (by rw [h4]; omega)
  by_cases h : i = 0
  · right; exact h1 h
  · left; unfold accP; rw [if_neg h]
end Go.Proofs.Ytmjcnlpjnbcfjad

namespace Go.Proofs.Ytmjcnlpjnbcfjad
open Go.ChangeShapes Go.WideShapes Go.ChangeAt Go.RowKit
set_option maxRecDepth 20000

theorem two_news {W : World} {o : Obj} {x y z : Value} {T : Nat} : ∀ j u, [x, y, z][j]? = some u → ((W.alloc o).alloc (.cells #[x, y, z] T)).cell? ((⟨W.heap.size + 1, 0, none⟩ : Addr).add j) = some u := by
  intro j u hj
  have h := heap_alloc_new (W.alloc o) (.cells #[x, y, z] T)
  rw [show (W.alloc o).heap.size = W.heap.size + 1 by simp] at h
  rw [plain_add, Lib.cell_of_heap h]
  simpa using hj
theorem two_first {W : World} {o o' : Obj} : ((W.alloc o).alloc o').heap[W.heap.size]? = some o := by
  rw [Below.heap_alloc _ _ _ (by simp)]
  exact heap_alloc_new W o
theorem cornD_succ (n : Nat) (v : Nat → Int) (k : Nat) : cornD n v (k + 1) = cornD n v k ++ [cornX n v k] := by simp [cornD, List.range_succ]
/-- an edit more, behind those that are there -/
theorem corn_step {v1 wr X w6 : World} {v v' : Value} {k : Nat} {ys : List EdL} {a b x : Int} (hb : Below wr.heap.size wr X) (hown : wr.ownsRow v1.heap.size 50 3 v k (cellsX ys)) (hB : Below v1.heap.size v1 wr) (hp : ∀ y ∈ ys, PlTy wr y.A y.c y.x.pl) (hX : X.heap[wr.heap.size]? = some (.cells #[.int .i64 a, .int .i64 b] 3 (0, 0)))
    (hown6 : w6.ownsRow v1.heap.size 50 3 v' (k + 1) (cellsX ys ++ [.slice (some ⟨wr.heap.size, 0, none⟩) 2 2, .int .i64 x, .bool false])) (hgrow : X.grownBy w6 v.ownBlock) :
    (∀ y ∈ ys ++ [⟨⟨[a, b], x, false⟩, some ⟨wr.heap.size, 0, none⟩, 2⟩], PlTy w6 y.A y.c y.x.pl) ∧ w6.ownsRow v1.heap.size 50 3 v' (k + 1) (cellsX (ys ++ [⟨⟨[a, b], x, false⟩, some ⟨wr.heap.size, 0, none⟩, 2⟩])) ∧ Below v1.heap.size v1 w6 := by
  have hownX := own_later hown hb
  refine ⟨fun y hy => ?_, by rw [cellsX_append]; exact hown6, (onB hB hb).grown hgrow (onB hB hb).size fun j hj => (hown.lt j hj).1⟩
  rcases List.mem_append.1 hy with hy | hy
  · exact plty_own_stays ((hp y hy).later hb) hownX hgrow
  · rw [List.mem_singleton.1 hy]
    refine plty_own_stays (w := X) ⟨by simp, Or.inr ⟨_, _, _, _, rfl, hX, fun j hj => ?_⟩⟩ hownX hgrow
    rw [Lib.cell_of_heap hX]
    match j, hj with
    | 0, _ => rfl
    | 1, _ => rfl

theorem pl2_made (w : World) (a b : Int) : PlAt (w.alloc (.cells #[.int .i64 a, .int .i64 b] 3)) (some ⟨w.heap.size, 0, none⟩) 2 [a, b] := by
  refine ⟨by simp, Or.inr ⟨_, _, rfl, by simp, fun j hj => ?_⟩⟩
  have h := heap_alloc_new w (.cells #[.int .i64 a, .int .i64 b] 3)
  rw [Lib.cell_of_heap h]
  match j, hj with
  | 0, _ => rfl
  | 1, _ => rfl
theorem three_at (w : World) (a b c : Obj) : (((w.alloc a).alloc b).alloc c).heap[w.heap.size]? = some a ∧ (((w.alloc a).alloc b).alloc c).heap[w.heap.size + 1]? = some b ∧ (((w.alloc a).alloc b).alloc c).heap[w.heap.size + 2]? = some c := by
  refine ⟨?_, ?_, ?_⟩
  · rw [Below.heap_alloc _ _ _ (by simp; omega)]; exact two_first
  · rw [Below.heap_alloc _ _ _ (by simp)]
    have h := heap_alloc_new (w.alloc a) b
    rw [show (w.alloc a).heap.size = w.heap.size + 1 by simp] at h
    exact h
  · have h := heap_alloc_new ((w.alloc a).alloc b) c
    rw [show ((w.alloc a).alloc b).heap.size = w.heap.size + 2 by simp] at h
    exact h
theorem corn2_set {w : World} {q : Nat} {x y a b : Value} {T : Nat} (h : w.heap[q]? = some (.cells #[x, y] T)) : ((w.setCell ⟨q, 0, none⟩ a).setCell ⟨q, 1, none⟩ b).heap[q]? = some (.cells #[a, b] T) := by
  simp [World.setCell, Array.getElem?_modify, h]
/-- a cell in a box -/
def BoxK (w : World) (b : Nat) (x y : Int) : Prop := b < w.heap.size ∧ w.cell? ⟨b, 0, none⟩ = some (.int .i64 x) ∧ w.cell? ⟨b, 1, none⟩ = some (.int .i64 y)
theorem BoxK.later {w w' : World} {b : Nat} {x y : Int} (h : BoxK w b x y) (hB : Below w.heap.size w w') : BoxK w' b x y :=
  ⟨Nat.lt_of_lt_of_le h.1 hB.size, (hB.cell (p := ⟨b, 0, none⟩) h.1).trans h.2.1, (hB.cell (p := ⟨b, 1, none⟩) h.1).trans h.2.2⟩
theorem BoxK.made (w : World) (x y : Int) (T : Nat) : BoxK (w.alloc (.cells #[.int .i64 x, .int .i64 y] T)) w.heap.size x y := ⟨by simp, by simp, by simp⟩
theorem acc_sets {W : World} {q : Nat} {T : Nat} {c0 : Obj} {a0 a1 b0 b1 : Value} (u0 u1 x0 x1 : Value) (h0 : W.heap[q]? = some c0) (h1 : W.heap[q + 1]? = some (.cells #[a0, a1] T)) (h2 : W.heap[q + 2]? = some (.cells #[b0, b1] T)) :
    ((((W.setCell ⟨q + 1, 0, none⟩ u0).setCell ⟨q + 1, 1, none⟩ u1).setCell ⟨q + 2, 0, none⟩ x0).setCell ⟨q + 2, 1, none⟩ x1).heap[q]? = some c0 ∧ ((((W.setCell ⟨q + 1, 0, none⟩ u0).setCell ⟨q + 1, 1, none⟩ u1).setCell ⟨q + 2, 0, none⟩ x0).setCell ⟨q + 2, 1, none⟩ x1).heap[q + 1]? = some (.cells #[u0, u1] T) ∧ ((((W.setCell ⟨q + 1, 0, none⟩ u0).setCell ⟨q + 1, 1, none⟩ u1).setCell ⟨q + 2, 0, none⟩ x0).setCell ⟨q + 2, 1, none⟩ x1).heap[q + 2]? = some (.cells #[x0, x1] T) := by
  simp [World.setCell, Array.getElem?_modify, h0, h1, h2]
theorem acc_below {w W : World} {q : Nat} (u0 u1 x0 x1 : Value) (h : Below q w W) : Below q w ((((W.setCell ⟨q + 1, 0, none⟩ u0).setCell ⟨q + 1, 1, none⟩ u1).setCell ⟨q + 2, 0, none⟩ x0).setCell ⟨q + 2, 1, none⟩ x1) :=
  (((h.setCell (by show q ≤ q + 1; omega) _).setCell (by show q ≤ q + 1; omega) _).setCell (by show q ≤ q + 2; omega) _).setCell (by show q ≤ q + 2; omega) _
/-- what the last step reads -/
def Thr (W : World) (q : Nat) (a b : Int) : Prop := BoxK W q a b ∧ BoxK W (q + 1) a b ∧ BoxK W (q + 2) a b
theorem keepT {W w' : World} {q : Nat} {a b : Int} (h : Thr W q a b) (hB : Below W.heap.size W w') : Below W.heap.size W w' ∧ w'.cell? ⟨q, 0, none⟩ = some (.int .i64 a) ∧ w'.cell? ⟨q, 1, none⟩ = some (.int .i64 b) ∧ w'.cell? ⟨q + 1, 0, none⟩ = some (.int .i64 a) ∧ w'.cell? ⟨q + 1, 1, none⟩ = some (.int .i64 b) ∧ w'.cell? ⟨q + 2, 0, none⟩ = some (.int .i64 a) ∧ w'.cell? ⟨q + 2, 1, none⟩ = some (.int .i64 b) :=
  ⟨hB, (h.1.later hB).2.1, (h.1.later hB).2.2, (h.2.1.later hB).2.1, (h.2.1.later hB).2.2, (h.2.2.later hB).2.1, (h.2.2.later hB).2.2⟩
theorem BoxK.of {w : World} {b : Nat} {x y : Int} {T : Nat} (h : w.heap[b]? = some (.cells #[.int .i64 x, .int .i64 y] T (0, 0))) : BoxK w b x y :=
  ⟨(Array.getElem?_eq_some_iff.1 h).1, by rw [Lib.cell_of_heap h]; rfl, by rw [Lib.cell_of_heap h]; rfl⟩
/-- the square in its block, and the entries -/
def CtxK (q n : Nat) (A0 : Option Addr) (A : Nat → Option Addr) (C : Nat → Nat) (B : Option Addr) (c : Nat) (zs : List EnL) (v : Nat → Int) (k : Nat) (w : World) : Prop :=
  q < w.heap.size ∧ w.cell? ⟨q, 0, none⟩ = some (.slice A0 2 2) ∧ DimsV w A0 2 2 (squareD n) A C ∧ EnsV w B c zs ∧ lE zs = cornL n v k
theorem CtxK.later {q n : Nat} {A0 : Option Addr} {A : Nat → Option Addr} {C : Nat → Nat} {B : Option Addr} {c : Nat} {zs : List EnL} {v : Nat → Int} {k : Nat} {w w' : World} (h : CtxK q n A0 A C B c zs v k w) (hB : Below w.heap.size w w') : CtxK q n A0 A C B c zs v k w' := by
  obtain ⟨h1, h2, h3, h4, h5⟩ := h
  exact ⟨Nat.lt_of_lt_of_le h1 hB.size, (hB.cell (p := ⟨q, 0, none⟩) h1).trans h2, h3.later hB, h4.later hB, h5⟩

set_option maxHeartbeats 32000000 in
theorem rcorner_core (n : Nat) (AL : Option Addr) (cL : Nat) (L : List Int) (w : World) (hn1 : 1 ≤ n) (hn8 : n ≤ 8) (hL : PlAt w AL cL L) :
    Calls Try.prog 4 #[.int .i64 n, .slice AL L.length cL] w fun e w' => e = .returned (.bool true) ∧ Below w.heap.size w w' := by
  obtain ⟨i0, hi0, hz0, hz1, hz2⟩ := info_parts Try.infoEd
  have hof := fun w' => of_any 5 w'
  rw [show ofP 5 = (1, 5) from rfl] at hof
  have hn8' : (n : Int) ≤ 8 := by omega
  have hn1' : (1 : Int) ≤ (n : Int) := by omega
  have hd1 : decide ((n : Int) < 1) = false := decide_eq_false (by omega)
  have hd8 : decide (8 < (n : Int)) = false := decide_eq_false (by omega)
  have hn0 : ((n : Int) == 0) = false := by simp; omega
  obtain ⟨NN, hNN⟩ : ∃ NN : Nat, n * n = NN := ⟨_, rfl⟩
  have HNN : Hid (n * n = NN) := hNN
  have hnn : (n : Int) * (n : Int) = (NN : Int) := by rw [← hNN]; exact (Int.natCast_mul _ _).symm
  have hNN1 : 1 ≤ NN := by rw [← hNN]; exact Nat.mul_le_mul hn1 hn1
  have hN64 : NN ≤ 64 := by rw [← hNN]; exact Nat.le_trans (Nat.mul_le_mul hn8 hn8) (by decide)
  have hN64' : (NN : Int) ≤ 64 := by omega
  obtain ⟨v, hv⟩ : ∃ v : Nat → Int, v = fun j => L.getD j 0 := ⟨_, rfl⟩
  have HV : Hid (∀ j, L.getD j 0 = v j) := fun j => by rw [hv]
  clear hNN hv
  have HSq : Hid (∀ w', Calls Try.prog 12 #[.int .i64 n] w' fun e w'' => (∃ A0 A C, e = .returned (.agg #[.slice A0 2 2]) ∧ DimsV w'' A0 2 2 (squareD n) A C) ∧ Below w'.heap.size w' w'') := fun w' => square_any n w' (by omega)
  have HPL : Hid (PlAt w AL cL L) := hL
  clear hL
  go_enter Try.func4, Try.ntmps4
  go_wp2_with fail
  refine (hof _).mono ?_
  rintro e w0 ⟨rfl, hb0⟩
  have HB0 : Hid (Below w.heap.size w w0) := onB (by first | exact Below.refl _ _ | go_grown) hb0
  clear hb0 hof
  go_wp2_with fail
  refine (HSq.out _).mono ?_
  rintro e w1 ⟨⟨A0, A, C, rfl, hD⟩, hb⟩
  have HB1 : Hid (Below w.heap.size w w1) := onB (onB HB0.out (by first | exact Below.refl _ _ | go_grown)) hb
  have HD1 : Hid (DimsV w1 A0 2 2 (squareD n) A C) := hD
  clear hb hD HSq
  go_wp2_with fail
  obtain ⟨v1, hv1⟩ : ∃ v1, w1.alloc (.cells #[.slice A0 2 2] 24) = v1 := ⟨_, rfl⟩
  have hBv : Below w1.heap.size w1 v1 := by rw [← hv1]; go_grown
  have HDv : Hid (DimsV v1 A0 2 2 (squareD n) A C) := HD1.out.later hBv
  have HBv : Hid (Below w.heap.size w v1) := onB HB1.out hBv
  have HPv : Hid (PlAt v1 AL cL L) := HPL.out.later HBv.out
  have cv : v1.cell? ⟨w1.heap.size, 0, none⟩ = some (.slice A0 2 2) := by rw [← hv1]; simp
  have hzv : w1.heap.size < v1.heap.size := by rw [← hv1]; simp
  obtain ⟨NL, hNL⟩ : ∃ NL, L.length = NL := ⟨_, rfl⟩
  have HNL : Hid (L.length = NL) := hNL
  rw [hv1, hNL]
  clear hv1 hBv HD1 hNL
  go_loopg [7, 8, 9] 60 (fun g s7 s8 s9 wr => ∃ (k : Nat) (ys : List EdL), (k ≤ 60 ∧ k ≤ NN ∧ k ≤ NL) ∧ g = 60 - k ∧ s9 = .int .i64 k ∧ s8 = .int .i64 (sumIf (fun _ => true) v k) ∧ Hid (ys.length = k ∧ lD ys = cornD n v k ∧ ∀ y ∈ ys, PlTy wr y.A y.c y.x.pl) ∧ Hid (∀ j, j < k → -1000000 ≤ v j ∧ v j ≤ 1000000) ∧ wr.ownsRow v1.heap.size 50 3 s7 k (cellsX ys) ∧ Below v1.heap.size v1 wr)
  case atStart => exact ⟨0, [], ⟨Nat.zero_le _, Nat.zero_le _, Nat.zero_le _⟩, rfl, rfl, rfl, (⟨rfl, rfl, fun y hy => by cases hy⟩ : _ ∧ _ ∧ _), (fun j hj => absurd hj (Nat.not_lt_zero j) : ∀ j, j < 0 → _), World.ownsRow_nil _ _ _ _, Below.refl _ _⟩
  case round =>
    obtain ⟨k, ys, ⟨hk60, hkN, hkL⟩, rfl, rfl, rfl, HY, HVB, hown, hBw⟩ := hrel
    have HBw : Hid (Below v1.heap.size v1 wr) := hBw
    have HOwn : Hid (wr.ownsRow v1.heap.size 50 3 u7 k (cellsX ys)) := hown
    have hsb := sumIf_bound (b := fun _ => true) k HVB.out
    have HSM : Hid (sumIf (fun _ => true) v (k + 1) = sumIf (fun _ => true) v k + v k) := by show _ = _; rw [sumIf, if_pos rfl]
    by_cases hlt : k < 60 ∧ k < NN ∧ k < NL
    · obtain ⟨hl1, hl2, hl3⟩ := hlt
      have t1 : decide ((k : Int) < 60) = true := decide_eq_true (by omega)
      have t2 : decide ((k : Int) < (NN : Int)) = true := decide_eq_true (by omega)
      have t3 : decide ((k : Int) < (NL : Int)) = true := decide_eq_true (by omega)
      obtain ⟨hcl, h0 | ⟨bL, oL, rfl, hbL, hLc⟩⟩ := HPv.out
      · have := HNL.out; rw [h0] at this; simp at this; omega
      have cx := (hBw.cell (p := ⟨bL, oL + k, none⟩) hbL).trans (hLc k (by rw [HNL.out]; exact hl3))
      rw [HV.out] at cx
      rw [HNL.out] at hcl
      have hki : (k : Int) < (NL : Int) := by omega
      have hbLz : bL < wr.heap.size := Nat.lt_of_lt_of_le hbL hBw.size
      have HNE : Hid (some bL ≠ u7.ownBlock) := fun e => by have := (hown.lt _ e.symm).1; omega
      generalize hS : sumIf (fun _ => true) v k = SM at hsb HSM
      generalize hx : v k = x at cx HSM
      clear hLc hbL
      by_cases hx1 : x < -1000000
      · have tx1 : decide (x < -1000000) = true := decide_eq_true hx1
        go_wp2_with fail
        first | (go_quiet (fail); go_wp2_with fail) | skip
        go_ret
        exact ⟨rfl, by first | exact onB HBv.out HBw.out | exact below_drewN (onB HBv.out HBw.out) _⟩
      by_cases hx2 : 1000000 < x
      · have tx1 : decide (x < -1000000) = false := decide_eq_false hx1
        have tx2 : decide (1000000 < x) = true := decide_eq_true hx2
        go_wp2_with fail
        first | (go_quiet (fail); go_wp2_with fail) | skip
        go_ret
        exact ⟨rfl, by first | exact onB HBv.out HBw.out | exact below_drewN (onB HBv.out HBw.out) _⟩
      have tx1 : decide (x < -1000000) = false := decide_eq_false hx1
      have tx2 : decide (1000000 < x) = false := decide_eq_false hx2
      obtain ⟨q, hq⟩ : ∃ q : Nat, k / n = q := ⟨_, rfl⟩
      obtain ⟨r, hr⟩ : ∃ r : Nat, k % n = r := ⟨_, rfl⟩
      have hqi : (k : Int) / (n : Int) = (q : Int) := by rw [← hq]; exact (Int.natCast_ediv _ _).symm
      have hri : (k : Int).tmod (n : Int) = (r : Int) := by rw [← hr]; rfl
      have hq8 : q ≤ 64 := by rw [← hq]; exact Nat.le_trans (Nat.div_le_self _ _) (by omega)
      have hr8 : r ≤ 64 := by rw [← hr]; exact Nat.le_trans (Nat.mod_le _ _) (by omega)
      have hq8' : (q : Int) ≤ 64 := by omega
      have hr8' : (r : Int) ≤ 64 := by omega
      have HED : Hid ((⟨[1 + (q : Int), 1 + (r : Int)], x, false⟩ : Ed) = cornX n v k) := by
        show _ = _
        unfold cornX cornP
        rw [hq, hr, hx, show ((1 + q : Nat) : Int) = 1 + (q : Int) by omega, show ((1 + r : Nat) : Int) = 1 + (r : Int) by omega]
      have HVB2 : Hid (∀ j, j < k + 1 → -1000000 ≤ v j ∧ v j ≤ 1000000) := fun j hj => by
        rcases Nat.lt_succ_iff_lt_or_eq.1 hj with h | rfl
        · exact HVB.out j h
        · rw [hx]; omega
      have hkz : (0 : Int) ≤ (k : Int) := by omega
      have hnz : ¬ n = 0 := by omega
      have hwq : IntKind.i64.wrap (q : Int) = (q : Int) := IntWalk.i64_in _ (by omega)
      have hwr : IntKind.i64.wrap (r : Int) = (r : Int) := IntWalk.i64_in _ (by omega)
      have hwq1 : IntKind.i64.wrap (1 + (q : Int)) = 1 + (q : Int) := IntWalk.i64_in _ (by omega)
      have hwr1 : IntKind.i64.wrap (1 + (r : Int)) = 1 + (r : Int) := IntWalk.i64_in _ (by omega)
      clear hq hr hown hBw hx hS
      go_wp2_with fail
      go_region_law ((refine step_append_lies _ (by rfl) _ _ _ (by rfl) v1.heap.size 50 i0 _ 3 40 Try.underlying48 hi0 hz0 hz1 hz2 ?g2 ?g3 u7 k (cellsX ys) ?h1 ?h2 ⟨wr.heap.size + 1, 0, none⟩ 1 1 [.slice (some ⟨wr.heap.size, 0, none⟩) 2 2, .int .i64 x, .bool false] ?h3 ?h4 ?h5 ?h6 ?g4 ?h7 ?h8 ?h9 (wr.heap.size + 2) ?h10 ?_; (case g2 => rfl); (case g3 => omega); (case h1 => rfl); (case h2 => exact (own_later HOwn.out (by go_grown))); (case h3 => rfl); (case h4 => rfl); (case h5 => exact two_news); (case h6 => simp [Value.oneCell']); (case g4 => omega); (case h7 => (unfold maxLen; omega)); (case h8 => omega); (case h9 => (have := HBw.out.size; simp; omega)); (case h10 => simp); (intro gg cg w6 hown6 hgrow hat hlt6)))
      all_goals (have y1 := (hgrow.cell_far ⟨bL, oL + k, none⟩ (by simp; omega) HNE.out).trans (((show Below wr.heap.size wr _ from by go_grown).cell (p := ⟨bL, oL + k, none⟩) hbLz).trans cx))
      all_goals (have HST : Hid _ := corn_step (by go_grown) HOwn.out HBw.out HY.out.2.2 (by exact two_first) hown6 hgrow)
      all_goals clear hown6 hgrow cx
      all_goals go_wp2_with fail
      all_goals go_roundg (60 - (k + 1))
      all_goals first | omega | exact ⟨k + 1, _, ⟨by omega, by omega, by omega⟩, rfl, by go_num, by rw [HSM.out], ⟨by rw [List.length_append, HY.out.1]; rfl, by rw [lD_append, HY.out.2.1, cornD_succ, ← HED.out]; rfl, HST.out.1⟩, HVB2, HST.out.2.1, HST.out.2.2⟩
    · obtain ⟨AX, cx, hs7, hX⟩ := eds_own (by rw [HY.out.1]; exact hown) HY.out.2.2
      rw [HY.out.1] at hs7
      have hall := iall_any A0 2 2 (squareD n) A C none 0 [] AX cx ys wr (HDv.out.later hBw) (EnsV.nil _ _ _ (by decide)) hX
      have e0 : lE [] = [] := rfl
      have hkn : k ≤ n * n := by rw [HNN.out]; exact hkN
      rw [e0, HY.out.2.1, HY.out.1, corn_all hn1 hn8 hkn hk60 HVB.out] at hall
      simp only [List.length_nil] at hall
      unfold Answer3 at hall
      simp only [errV_zero] at hall
      have c1 : wr.cell? ⟨w1.heap.size, 0, none⟩ = some (.slice A0 2 2) := (hBw.cell (p := ⟨w1.heap.size, 0, none⟩) hzv).trans cv
      have HDr : Hid (DimsV wr A0 2 2 (squareD n) A C) := HDv.out.later hBw
      have hzr : w1.heap.size < wr.heap.size := Nat.lt_of_lt_of_le hzv hBw.size
      have HZ : Hid (∀ zs, lE zs = cornL n v k → zs.length = k) := fun zs hl => by rw [← lE_len, hl]; simp [cornL]
      have HVal : Hid (∀ (i j : Nat) w' B c zs Ap, i ≤ n → j ≤ n → DimsV w' A0 2 2 (squareD n) A C → EnsV w' B c zs → lE zs = cornL n v k → PlAt w' Ap 2 [(i : Int), (j : Int)] → Calls Try.prog 7 #[.agg #[.slice A0 2 2], .slice B k c, .slice Ap 2 2] w' fun e w'' => e = .returned (.tuple #[.agg #[.int .i64 (cornK n k i j), .int .i64 (sumIf (atB n i j) v k)], .nilIface]) ∧ Below w'.heap.size w' w'') := fun i j w' B c zs Ap hi hj hD hE hl hP => by
        have h := rval_any A0 2 2 (squareD n) A C B c zs Ap 2 [(i : Int), (j : Int)] w' hD hE hP
        rw [hl, corn_err hn1 hn8 hkn hk60 HVB.out hi hj, corn_val hn1 hn8 hkn hk60 HVB.out hi hj, HZ.out zs hl] at h
        exact h
      have HSM2 : Hid (∃ SM, SM = sumIf (fun _ => true) v k) := ⟨_, rfl⟩
      obtain ⟨SM, hSM⟩ := HSM2.out
      have HSM3 : Hid (SM = sumIf (fun _ => true) v k) := hSM
      rw [← hSM] at hsb ⊢
      subst hs7
      have hcs : (¬ k < NL) ∨ (k < NL ∧ ¬ k < NN) ∨ (k < NL ∧ k < NN ∧ ¬ k < 60) := by omega
      clear hown hBw hX e0 HOwn hlt hSM HSM HSM2
      rcases hcs with a3 | ⟨a3, a2⟩ | ⟨a3, a2, a1⟩
      case' inl =>
        have t3 : decide ((k : Int) < (NL : Int)) = false := decide_eq_false (by omega)
      case' inr.inl =>
        have t3 : decide ((k : Int) < (NL : Int)) = true := decide_eq_true (by omega)
        have t2 : decide ((k : Int) < (NN : Int)) = false := decide_eq_false (by omega)
      case' inr.inr =>
        have t3 : decide ((k : Int) < (NL : Int)) = true := decide_eq_true (by omega)
        have t2 : decide ((k : Int) < (NN : Int)) = true := decide_eq_true (by omega)
        have t1 : decide ((k : Int) < 60) = false := decide_eq_false (by omega)
      all_goals
        go_wp2_with fail
        refine hall.mono ?_
        rintro e w2 ⟨⟨B, c, zs, rfl, hE, hl⟩, hb⟩
        have c2 : w2.cell? ⟨w1.heap.size, 0, none⟩ = some (.slice A0 2 2) := (hb.cell (p := ⟨w1.heap.size, 0, none⟩) hzr).trans c1
        have HX2 : Hid (CtxK w1.heap.size n A0 A C B c zs v k w2) := ⟨Nat.lt_of_lt_of_le hzr hb.size, c2, HDr.out.later hb, hE, hl⟩
        have HB2 : Hid (Below w.heap.size w w2) := onB (onB HBv.out HBw.out) hb
        rw [HZ.out zs hl]
        clear hb hall hE hl c1 hzr HDr HBw
        go_wp2_with fail
        obtain ⟨y2, hy2⟩ : ∃ y, w2.alloc (.cells #[.int .i64 0, .int .i64 0] 3) = y := ⟨_, rfl⟩
        have hBy : Below w2.heap.size w2 y2 := by rw [← hy2]; go_grown
        have HXy : Hid (CtxK w1.heap.size n A0 A C B c zs v k y2) := HX2.out.later hBy
        have HBy : Hid (Below w.heap.size w y2) := onB HB2.out hBy
        have hval := HVal.out 0 0 y2 B c zs (some ⟨w2.heap.size, 0, none⟩) (Nat.zero_le _) (Nat.zero_le _) HXy.out.2.2.1 HXy.out.2.2.2.1 HXy.out.2.2.2.2 (by rw [← hy2]; exact pl2_made w2 0 0)
        rw [hy2]
        clear hy2 hBy HX2 HB2 c2
        refine hval.mono ?_
        rintro e w3 ⟨rfl, hb⟩
        have HX3 : Hid (CtxK w1.heap.size n A0 A C B c zs v k w3) := HXy.out.later hb
        have HB3 : Hid (Below w.heap.size w w3) := onB HBy.out hb
        clear hb hval HXy HBy
        have hsum : sumIf (atB n 0 0) v k = SM := by rw [HSM3.out]; exact sumIf_same k fun j _ => by simp [atB]
        rw [hsum]
        by_cases hk0 : k = 0
        · first
            | (exfalso; omega)
            | (have hK0 : cornK n k 0 0 = 0 := by rw [hk0]; rfl
               rw [hK0]
               have hkz : ((k : Int) == 0) = true := by simp [hk0]
               clear hsum hK0
               go_wp2_with fail
               first | (go_quiet (fail); go_wp2_with fail) | skip
               go_ret
               exact ⟨rfl, by first | exact onB HB3.out (by go_grown) | exact below_drewN (onB HB3.out (by go_grown)) _⟩)
        have hK1 : cornK n k 0 0 = 1 := cornK_one (by omega) (by simp [atB])
        rw [hK1]
        have hkz : ((k : Int) == 0) = false := by simp; omega
        clear hsum hK1
        go_wp2_with fail
        obtain ⟨Y, hY⟩ : ∃ Y, ((w3.alloc (.cells #[.int .i64 1, .int .i64 SM] 34)).alloc (.cells #[.int .i64 0, .int .i64 0] 34)).alloc (.cells #[.int .i64 0, .int .i64 0] 34) = Y := ⟨_, rfl⟩
        have HBY : Hid (Below w3.heap.size w3 Y) := by show Below _ _ _; rw [← hY]; go_grown
        have HT3 : Hid (Y.heap[w3.heap.size]? = some (.cells #[.int .i64 1, .int .i64 SM] 34) ∧ Y.heap[w3.heap.size + 1]? = some (.cells #[.int .i64 0, .int .i64 0] 34) ∧ Y.heap[w3.heap.size + 2]? = some (.cells #[.int .i64 0, .int .i64 0] 34)) := by
          rw [← hY]
          exact three_at w3 _ _ _
        rw [hY]
        clear hY
        go_loopg [16] n (fun g s16 wr => ∃ (i : Nat), i ≤ n ∧ g = n - i ∧ s16 = .int .i64 ((i : Int) + 1) ∧ Hid (wr.heap[w3.heap.size]? = some (.cells #[.int .i64 1, .int .i64 SM] 34) ∧ wr.heap[w3.heap.size + 1]? = some (.cells #[.int .i64 (accP (fun j => 1 + j / n) v k i).1, .int .i64 (accP (fun j => 1 + j / n) v k i).2] 34) ∧ wr.heap[w3.heap.size + 2]? = some (.cells #[.int .i64 (accP (fun j => 1 + j % n) v k i).1, .int .i64 (accP (fun j => 1 + j % n) v k i).2] 34)) ∧ Below w3.heap.size w3 wr)
        case atStart => exact ⟨0, Nat.zero_le _, rfl, rfl, HT3.out, HBY.out⟩
        case round =>
          obtain ⟨wi, rfl⟩ : ∃ wi : World, wi = wr := ⟨_, rfl⟩
          obtain ⟨i, hi, rfl, rfl, HBX, hBi⟩ := hrel
          have HBi : Hid (Below w3.heap.size w3 wi) := hBi
          by_cases hlt : i < n
          · have hki : ((i : Int) + 1) ≤ (n : Int) := by omega
            have hdi : decide ((i : Int) + 1 ≤ (n : Int)) = true := decide_eq_true hki
            have HXi : Hid (CtxK w1.heap.size n A0 A C B c zs v k wi) := HX3.out.later hBi
            have hr := acc_step (f := fun j => 1 + j / n) (i := i) (b := atB n (i + 1) 0) hk60 (by omega) HVB.out (fun j _ => by simp [atB]) (cornK_two n k (i + 1) 0 v) (fun h => by subst h; exact cornK_one (by omega) (by simp [atB]))
            have hc := acc_step (f := fun j => 1 + j % n) (i := i) (b := atB n 0 (i + 1)) hk60 (by omega) HVB.out (fun j _ => by simp [atB]) (cornK_two n k 0 (i + 1) v) (fun h => by subst h; exact cornK_one (by omega) (by simp [atB]))
            have HAR := add_yes _ _ _ _ hr.1 hr.2.1
            have HAC := add_yes _ _ _ _ hc.1 hc.2.1
            rw [hr.2.2] at HAR
            rw [hc.2.2] at HAC
            unfold OpTo at HAR HAC
            have HVR : Hid (∀ w' Ap, CtxK w1.heap.size n A0 A C B c zs v k w' → PlAt w' Ap 2 [((i + 1 : Nat) : Int), ((0 : Nat) : Int)] → _) := fun w' Ap hX hP => HVal.out (i + 1) 0 w' B c zs Ap (by omega) (Nat.zero_le _) hX.2.2.1 hX.2.2.2.1 hX.2.2.2.2 hP
            have HVC : Hid (∀ w' Ap, CtxK w1.heap.size n A0 A C B c zs v k w' → PlAt w' Ap 2 [((0 : Nat) : Int), ((i + 1 : Nat) : Int)] → _) := fun w' Ap hX hP => HVal.out 0 (i + 1) w' B c zs Ap (Nat.zero_le _) (by omega) hX.2.2.1 hX.2.2.2.1 hX.2.2.2.2 hP
            have HRX : Hid (∀ u, u = accP (fun j => 1 + j / n) v k (i + 1) → u = accP (fun j => 1 + j / n) v k (i + 1)) := fun _ h => h
            generalize cornK n k (i + 1) 0 = aK at HVR HAR
            generalize sumIf (atB n (i + 1) 0) v k = aN at HVR HAR
            generalize cornK n k 0 (i + 1) = bK at HVC HAC
            generalize sumIf (atB n 0 (i + 1)) v k = bN at HVC HAC
            obtain ⟨R1, hR1⟩ : ∃ R, R = accP (fun j => 1 + j / n) v k (i + 1) := ⟨_, rfl⟩
            obtain ⟨C1, hC1⟩ : ∃ R, R = accP (fun j => 1 + j % n) v k (i + 1) := ⟨_, rfl⟩
            have HR1 : Hid (R1 = accP (fun j => 1 + j / n) v k (i + 1)) := hR1
            have HC1 : Hid (C1 = accP (fun j => 1 + j % n) v k (i + 1)) := hC1
            rw [← hR1] at HAR
            rw [← hC1] at HAC
            obtain ⟨R1k, R1n⟩ := R1
            obtain ⟨C1k, C1n⟩ := C1
            have HBX2 := HBX.out
            generalize accP (fun j => 1 + j / n) v k i = R0 at HAR HBX2
            generalize accP (fun j => 1 + j % n) v k i = C0 at HAC HBX2
            obtain ⟨R0k, R0n⟩ := R0
            obtain ⟨C0k, C0n⟩ := C0
            simp only at HAR HAC HBX2
            have HT0 : Hid (wi.heap[w3.heap.size]? = some (.cells #[.int .i64 1, .int .i64 SM] 34) ∧ wi.heap[w3.heap.size + 1]? = some (.cells #[.int .i64 R0k, .int .i64 R0n] 34) ∧ wi.heap[w3.heap.size + 2]? = some (.cells #[.int .i64 C0k, .int .i64 C0n] 34)) := HBX2
            have HADR : Hid (∀ w', Calls Try.prog 14 #[.agg #[.int .i64 R0k, .int .i64 R0n], .agg #[.int .i64 aK, .int .i64 aN]] w' fun e w'' => e = .returned (.tuple #[.agg #[.int .i64 R1k, .int .i64 R1n], .nilIface]) ∧ Below w'.heap.size w' w'') := HAR
            have HADC : Hid (∀ w', Calls Try.prog 14 #[.agg #[.int .i64 C0k, .int .i64 C0n], .agg #[.int .i64 bK, .int .i64 bN]] w' fun e w'' => e = .returned (.tuple #[.agg #[.int .i64 C1k, .int .i64 C1n], .nilIface]) ∧ Below w'.heap.size w' w'') := HAC
            have ci := HXi.out.2.1
            clear hr hc hBi hR1 hC1 HAR HAC HBX HBX2 HRX HX3 HBY HT3
            go_wp2_with fail
            obtain ⟨y1, hy1⟩ : ∃ y, wi.alloc (.cells #[.int .i64 ((i : Int) + 1), .int .i64 0] 3) = y := ⟨_, rfl⟩
            have hBy1 : Below wi.heap.size wi y1 := by rw [← hy1]; go_grown
            have hv1' := HVR.out y1 (some ⟨wi.heap.size, 0, none⟩) (HXi.out.later hBy1) (by rw [← hy1]; exact pl2_made wi ((i : Int) + 1) 0)
            rw [hy1]
            refine hv1'.mono ?_
            rintro e w4 ⟨rfl, hb⟩
            obtain ⟨y4, hy4⟩ : ∃ y, w4.alloc (.cells #[.int .i64 aK, .int .i64 aN] 34) = y := ⟨_, rfl⟩
            have hBy4 : Below w4.heap.size w4 y4 := by rw [← hy4]; go_grown
            have HB4 : Hid (Below wi.heap.size wi y4) := onB (onB hBy1 hb) hBy4
            have HXa : Hid (CtxK w1.heap.size n A0 A C B c zs v k y4) := HXi.out.later HB4.out
            have HA4 : Hid (BoxK y4 w4.heap.size aK aN) := by rw [← hy4]; exact BoxK.made ..
            have c4 := HXa.out.2.1
            clear hb hv1' hBy1 hy1 hBy4 ci
            go_wp2_with fail
            clear hy4
            obtain ⟨y5, hy5⟩ : ∃ y, y4.alloc (.cells #[.int .i64 0, .int .i64 ((i : Int) + 1)] 3) = y := ⟨_, rfl⟩
            have hBy5 : Below y4.heap.size y4 y5 := by rw [← hy5]; go_grown
            have hv5 := HVC.out y5 (some ⟨y4.heap.size, 0, none⟩) (HXa.out.later hBy5) (by rw [← hy5]; exact pl2_made y4 0 ((i : Int) + 1))
            rw [hy5]
            refine hv5.mono ?_
            rintro e w6 ⟨rfl, hb⟩
            obtain ⟨y6, hy6⟩ : ∃ y, w6.alloc (.cells #[.int .i64 bK, .int .i64 bN] 34) = y := ⟨_, rfl⟩
            have hBy6 : Below w6.heap.size w6 y6 := by rw [← hy6]; go_grown
            have hB46 : Below y4.heap.size y4 y6 := onB (onB hBy5 hb) hBy6
            have HB6 : Hid (Below wi.heap.size wi y6) := onB HB4.out hB46
            have HA6 : Hid (BoxK y6 w4.heap.size aK aN) := HA4.out.later hB46
            have HD6 : Hid (BoxK y6 w6.heap.size bK bN) := by rw [← hy6]; exact BoxK.made ..
            have HRW : Hid (BoxK y6 (w3.heap.size + 1) R0k R0n) := (BoxK.of HT0.out.2.1).later HB6.out
            have HCW : Hid (BoxK y6 (w3.heap.size + 2) C0k C0n) := (BoxK.of HT0.out.2.2).later HB6.out
            clear hb hv5 hBy5 hy5 hBy6 hB46 c4 HXa HA4 HB4 HVR HVC
            obtain ⟨za, r0, r1⟩ := HRW.out
            obtain ⟨zb, a0, a1⟩ := HA6.out
            go_wp2_with fail
            clear hy6
            refine (HADR.out _).mono ?_
            rintro e w7 ⟨rfl, hb⟩
            obtain ⟨y7, hy7⟩ : ∃ y, w7.alloc (.cells #[.int .i64 R1k, .int .i64 R1n] 34) = y := ⟨_, rfl⟩
            have hBy7 : Below w7.heap.size w7 y7 := by rw [← hy7]; go_grown
            have hB67 : Below y6.heap.size y6 y7 := onB hb hBy7
            have HB7 : Hid (Below wi.heap.size wi y7) := onB HB6.out hB67
            have HP7 : Hid (BoxK y7 w7.heap.size R1k R1n) := by rw [← hy7]; exact BoxK.made ..
            have hz7 : y6.heap.size ≤ w7.heap.size := hb.size
            have hs66 := HB6.out.size
            obtain ⟨zc, q0, q1⟩ := HCW.out.later hB67
            obtain ⟨zd, b0, b1⟩ := HD6.out.later hB67
            clear hb hBy7 hB67 HB6 HCW HD6 HRW HA6 za r0 r1 zb a0 a1
            go_wp2_with fail
            clear hy7
            refine (HADC.out _).mono ?_
            rintro e w8 ⟨rfl, hb⟩
            obtain ⟨y8, hy8⟩ : ∃ y, w8.alloc (.cells #[.int .i64 C1k, .int .i64 C1n] 34) = y := ⟨_, rfl⟩
            have hBy8 : Below w8.heap.size w8 y8 := by rw [← hy8]; go_grown
            have hB78 : Below y7.heap.size y7 y8 := onB hb hBy8
            have HB8 : Hid (Below wi.heap.size wi y8) := onB HB7.out hB78
            have hz8 : y7.heap.size ≤ w8.heap.size := hb.size
            have hzi := HBi.out.size
            have hz3 : w3.heap.size + 2 < wi.heap.size := (Array.getElem?_eq_some_iff.1 HT0.out.2.2).1
            have HK0 : Hid (y8.heap[w3.heap.size]? = some (.cells #[.int .i64 1, .int .i64 SM] 34)) := (HB8.out.block _ (by omega)).trans HT0.out.1
            have k1 : y8.heap[w3.heap.size + 1]? = some (.cells #[.int .i64 R0k, .int .i64 R0n] 34) := (HB8.out.block _ (by omega)).trans HT0.out.2.1
            have k2 : y8.heap[w3.heap.size + 2]? = some (.cells #[.int .i64 C0k, .int .i64 C0n] 34) := (HB8.out.block _ (by omega)).trans HT0.out.2.2
            have HK1 : Hid (y8.heap[w3.heap.size + 1]? = some (.cells #[.int .i64 R0k, .int .i64 R0n] 34)) := k1
            have HK2 : Hid (y8.heap[w3.heap.size + 2]? = some (.cells #[.int .i64 C0k, .int .i64 C0n] 34)) := k2
            obtain ⟨ze, p0, p1⟩ := HP7.out.later hB78
            obtain ⟨zf, o0, o1⟩ : BoxK y8 w8.heap.size C1k C1n := by rw [← hy8]; exact BoxK.made ..
            have g0 : y8.cell? ⟨w3.heap.size + 1, 0, none⟩ = some (.int .i64 R0k) := by rw [Lib.cell_of_heap k1]; rfl
            have g1 : y8.cell? ⟨w3.heap.size + 1, 1, none⟩ = some (.int .i64 R0n) := by rw [Lib.cell_of_heap k1]; rfl
            have g2 : y8.cell? ⟨w3.heap.size + 2, 0, none⟩ = some (.int .i64 C0k) := by rw [Lib.cell_of_heap k2]; rfl
            have g3 : y8.cell? ⟨w3.heap.size + 2, 1, none⟩ = some (.int .i64 C0n) := by rw [Lib.cell_of_heap k2]; rfl
            have f0 : y8.frozen? ⟨w3.heap.size + 1, 0, none⟩ = false := Lib.frozen_of_heap k1 0
            have f1 : y8.frozen? ⟨w3.heap.size + 1, 1, none⟩ = false := Lib.frozen_of_heap k1 1
            have f2 : y8.frozen? ⟨w3.heap.size + 2, 0, none⟩ = false := Lib.frozen_of_heap k2 0
            have f3 : y8.frozen? ⟨w3.heap.size + 2, 1, none⟩ = false := Lib.frozen_of_heap k2 1
            have hy6z := zc
            have hs6 := HB7.out.size
            have hm1 : ¬ (w8.heap.size = w3.heap.size + 1) := by omega
            have hm2 : ¬ (w8.heap.size = w3.heap.size + 2) := by omega
            have hm3 : ¬ (w7.heap.size = w3.heap.size + 1) := by omega
            clear hb hBy8 hB78 HB7 HP7 k1 k2 zc q0 q1 zd b0 b1 hy6z
            go_wp2_with fail
            clear hy8
            go_roundg (n - (i + 1))
            case measure => omega
            case rel =>
              refine ⟨i + 1, by omega, rfl, by go_num, ?_, acc_below _ _ _ _ (onB HBi.out HB8.out)⟩
              have := acc_sets (.int .i64 R1k) (.int .i64 R1n) (.int .i64 C1k) (.int .i64 C1n) HK0.out HK1.out HK2.out
              rw [← HR1.out, ← HC1.out]
              exact this
          · have hie : i = n := by omega
            subst hie
            have hdi : decide ((i : Int) + 1 ≤ (i : Int)) = false := decide_eq_false (by omega)
            have hr1 : accP (fun j => 1 + j / i) v k i = (1, SM) := by
              unfold accP
              rw [if_neg (by omega), sum_rows _ v i k fun j hj => ⟨(corn_row hn1 (by omega : j < i * i)).1, by have := (corn_row hn1 (by omega : j < i * i)).2.1; omega⟩, HSM3.out]
            have hc1 : accP (fun j => 1 + j % i) v k i = (1, SM) := by
              unfold accP
              rw [if_neg (by omega), sum_rows _ v i k fun j hj => ⟨(corn_row hn1 (by omega : j < i * i)).2.2.1, by have := (corn_row hn1 (by omega : j < i * i)).2.2.2; omega⟩, HSM3.out]
            have HBX2 := HBX.out
            rw [hr1, hc1] at HBX2
            have HTh : Hid (Thr wi w3.heap.size 1 SM) := ⟨BoxK.of HBX2.1, BoxK.of HBX2.2.1, BoxK.of HBX2.2.2⟩
            have hofS := fun w' => of_any SM w'
            rw [ofP_in (by omega) (by omega)] at hofS
            have HOfS : Hid (∀ w', Calls Try.prog 11 #[.int .i64 SM] w' fun e w'' => e = .returned (.agg #[.int .i64 1, .int .i64 SM]) ∧ Below w'.heap.size w' w'') := hofS
            obtain ⟨zz, x0, x1⟩ := HTh.out.1
            obtain ⟨zz1, x2, x3⟩ := HTh.out.2.1
            obtain ⟨zz2, x4, x5⟩ := HTh.out.2.2
            clear hr1 hc1 HBX HBX2 hofS hBi
            go_wp2_with fail
            go_region_held3 (fun w' => Below wi.heap.size wi w' ∧ w'.cell? ⟨w3.heap.size, 0, none⟩ = some (.int .i64 1) ∧ w'.cell? ⟨w3.heap.size, 1, none⟩ = some (.int .i64 SM) ∧ w'.cell? ⟨w3.heap.size + 1, 0, none⟩ = some (.int .i64 1) ∧ w'.cell? ⟨w3.heap.size + 1, 1, none⟩ = some (.int .i64 SM) ∧ w'.cell? ⟨w3.heap.size + 2, 0, none⟩ = some (.int .i64 1) ∧ w'.cell? ⟨w3.heap.size + 2, 1, none⟩ = some (.int .i64 SM))
              ((refine keepT HTh.out ?_; go_grown; done))
              (first | (go_at_call 11; refine (HOfS.out _).mono ?_; rintro e w4 ⟨rfl, hb4⟩; have hN4 := onB (W0 := wi) (by go_grown) hb4; have hy4 := hN4.size; clear hb4))
            all_goals go_wp2_with fail
            all_goals go_ret
            all_goals exact ⟨by simp, onB HB3.out (onB HBi.out (by go_grown))⟩

set_option maxHeartbeats 4000000 in
theorem rcorner_any (x : Int) (AL : Option Addr) (cL : Nat) (L : List Int) (w : World) (hL : PlAt w AL cL L) :
    Calls Try.prog 4 #[.int .i64 x, .slice AL L.length cL] w fun e w' => e = .returned (.bool true) ∧ Below w.heap.size w w' := by
  by_cases h1 : x < 1
  · have hd1 : decide (x < 1) = true := decide_eq_true h1
    have hof := fun w' => of_any 5 w'
    rw [show ofP 5 = (1, 5) from rfl] at hof
    generalize L.length = NL
    clear hL
    go_enter Try.func4, Try.ntmps4
    go_wp2_with fail
    refine (hof _).mono ?_
    rintro e w0 ⟨rfl, hb0⟩
    have HB0 : Hid (Below w.heap.size w w0) := onB (by first | exact Below.refl _ _ | go_grown) hb0
    clear hb0 hof
    go_wp2_with fail
    first | (go_quiet (fail); go_wp2_with fail) | skip
    go_ret
    exact ⟨rfl, by first | exact onB HB0.out (by go_grown) | exact below_drewN (onB HB0.out (by go_grown)) _⟩
  by_cases h8 : 8 < x
  · have hd1 : decide (x < 1) = false := decide_eq_false h1
    have hd8 : decide (8 < x) = true := decide_eq_true h8
    have hof := fun w' => of_any 5 w'
    rw [show ofP 5 = (1, 5) from rfl] at hof
    generalize L.length = NL
    clear hL
    go_enter Try.func4, Try.ntmps4
    go_wp2_with fail
    refine (hof _).mono ?_
    rintro e w0 ⟨rfl, hb0⟩
    have HB0 : Hid (Below w.heap.size w w0) := onB (by first | exact Below.refl _ _ | go_grown) hb0
    clear hb0 hof
    go_wp2_with fail
    first | (go_quiet (fail); go_wp2_with fail) | skip
    go_ret
    exact ⟨rfl, by first | exact onB HB0.out (by go_grown) | exact below_drewN (onB HB0.out (by go_grown)) _⟩
  obtain ⟨n, rfl⟩ : ∃ n : Nat, x = n := ⟨x.toNat, by omega⟩
  exact rcorner_core n AL cL L w (by omega) (by omega) hL
end Go.Proofs.Ytmjcnlpjnbcfjad

namespace Go.Proofs.Ytmjcnlpjnbcfjad
open Go Go.ChangeShapes Go.WideShapes Go.ChangeAt Go.RowKit Go.Deep
set_option maxRecDepth 100000

theorem open_list {H : Type} {enc : TypeId × Value → H} {w : World} {held : Bool} {r : Reach} {b0 : Nat} {v : Value} {d : DataW H} {p : List MemPlace} (hv : Value.okWide Try.prog w r b0 26 v) (h : DataW.Trod enc Try.prog w 0 (fun _ => true) held 26 v d p) :
    ∃ (Ap : Option Addr) (cp : Nat) (L : List Int), v = .slice Ap L.length cp ∧ PlAt w Ap cp L := by
  obtain ⟨a, len, cap, rfl⟩ := okWide_slice Try.underlying26 hv
  obtain ⟨fuel, hf⟩ := h
  have hf' : DataW.trod enc Try.prog w 0 (fun _ => true) held fuel 26 [.slice a len cap] = some (d, p) := hf
  rcases open_ints Try.underlying26 Try.underlying3 (by kernel_rfl) hf' with ⟨e, _⟩ | ⟨a', len', cap', zs, e, _, hl, _, hzl, _, hc, _⟩
  · simp at e
    obtain ⟨rfl, rfl, rfl⟩ := e
    exact ⟨none, 0, [], rfl, PlAt.nil _ _ _⟩
  · simp at e hzl
    obtain ⟨rfl, rfl, rfl⟩ := e
    have hlen : (zs.take len).length = len := by simp; omega
    refine ⟨some a', cap, zs.take len, by rw [hlen], by rw [hlen]; exact hl, ?_⟩
    rcases Nat.eq_zero_or_pos len with h0 | h0
    · left
      subst h0
      simp
    right
    have c0 := hc 0 (by omega)
    have hp := addr_plain c0 rfl
    have hb := World.block_lt_of_cell? _ _ c0
    refine ⟨a'.block, a'.off, by rw [← hp], by simpa [Addr.add] using hb, fun j hj => ?_⟩
    rw [hlen] at hj
    have := hc j (by omega)
    rw [hp, plain_add] at this
    rw [this]
    simp [List.getD, hj]
end Go.Proofs.Ytmjcnlpjnbcfjad

namespace Go.Proofs.Ytmjcnlpjnbcfjad
open Go Go.ChangeShapes Go.WideShapes Go.ChangeAt Go.RowKit

theorem post_below {H : Type} {enc : TypeId × Value → H} {P : Program} {f : Func} {s : ChangeSpec} {apart fresh handsOn : Bool} {W W' : World} {args : Array Value} {v : Value} {ds gs : List (DataW H)} {before pa pv : List MemPlace}
    (hW : DataW.Whole enc P f.params.toList s.vars apart W args.toList ds gs before)
    (hres : ∀ (b : Nat) (sp : Nat → Bool) (hd : Bool), DataW.TrodAll enc P W' b sp hd f.resultTypes.toList (v.resultList f.resultTypes.size) (s.fn H (ds ++ gs)).results [])
    (hargs : ∀ sp : Nat → Bool, (∀ p ∈ before, sp p.block = true) → DataW.TrodAll enc P W' 0 sp true f.params.toList args.toList (s.fn H (ds ++ gs)).args pa)
    (hvars : ∀ sp : Nat → Bool, (∀ p ∈ before, sp p.block = true) → DataW.TrodVars enc P W' sp s.vars (s.fn H (ds ++ gs)).vars pv)
    (hps : before = pa ++ pv) (hk : W.keptBut W' (· ∈ before)) :
    s.post enc P f apart fresh handsOn false W args v W' := by
  have hold : ∀ p ∈ before, (fun b => decide (b < W.heap.size)) p.block = true := fun p hp => by simpa using hW.lt p hp
  refine ⟨ds, gs, before, [], pa, pv, hW, hres _ _ _, hargs _ hold, hvars _ hold, World.keptBut_mono (fun p hp => ⟨hp, ?_⟩) hk, fun h => by cases h⟩
  rw [hps, List.mem_append] at hp
  exact Or.inr hp
end Go.Proofs.Ytmjcnlpjnbcfjad
