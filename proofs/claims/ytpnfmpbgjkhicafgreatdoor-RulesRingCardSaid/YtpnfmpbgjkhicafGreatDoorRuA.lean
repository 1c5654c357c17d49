/-
  Who needs whom in the end, an order in which nobody stands before whom it needs, and lists that rise: plain data.
-/
import Derived.Test.YtpnfmpbgjkhicafGreatDoorTree1
namespace Go.Proofs.YtpnfmpbgjkhicafGreatDoor

/-- the row of a list of lists -/
def rowN (N : List (List Int)) (i : Int) : List Int := N.getD i.toNat []
/-- all that is named is there -/
def Inn (N : List (List Int)) : Prop := ∀ (i : Nat), i < N.length → ∀ x ∈ N.getD i [], 0 ≤ x ∧ x < (N.length : Int)
theorem Inn.at {N : List (List Int)} (h : Inn N) {a : Int} (h0 : 0 ≤ a) (h1 : a < (N.length : Int)) {x : Int} (hx : x ∈ rowN N a) : 0 ≤ x ∧ x < (N.length : Int) := h a.toNat (by omega) x hx
/-- whom one needs, or whom these need, and so on -/
inductive Rch (N : List (List Int)) : Int → Int → Prop
  | one {a b : Int} : b ∈ rowN N a → Rch N a b
  | more {a b c : Int} : b ∈ rowN N a → Rch N b c → Rch N a c
theorem Rch.trans {N : List (List Int)} {a b c : Int} (h : Rch N a b) (k : Rch N b c) : Rch N a c := by
  induction h with
  | one h => exact .more h k
  | more h _ ih => exact .more h (ih k)
theorem Rch.snoc {N : List (List Int)} {a b c : Int} (h : Rch N a b) (k : c ∈ rowN N b) : Rch N a c := h.trans (.one k)
theorem Rch.inn {N : List (List Int)} (hN : Inn N) {a b : Int} (h : Rch N a b) : 0 ≤ a → a < (N.length : Int) → 0 ≤ b ∧ b < (N.length : Int) := by
  induction h with
  | one h => exact fun h0 h1 => hN.at h0 h1 h
  | more h _ ih => exact fun h0 h1 => let ⟨x, y⟩ := hN.at h0 h1 h; ih x y
/-- what holds the first and with each all that it needs holds all that is reached -/
theorem Rch.closed {N : List (List Int)} {S : Int → Prop} {a b : Int} (h : Rch N a b) : (∀ x ∈ rowN N a, S x) → (∀ x, S x → ∀ y ∈ rowN N x, S y) → S b := by
  induction h with
  | one h => exact fun h1 _ => h1 _ h
  | more h _ ih => exact fun h1 h2 => ih (fun x hx => h2 _ (h1 _ h) x hx) h2
/-- a member needs itself in the end -/
noncomputable def cycB (N : List (List Int)) (i : Nat) : Bool := @decide (Rch N i i) (Classical.propDecidable _)
theorem cyc_iff {N : List (List Int)} {i : Nat} : cycB N i = true ↔ Rch N i i := by
  unfold cycB
  exact @decide_eq_true_iff _ (Classical.propDecidable _)
theorem cyc_not {N : List (List Int)} {i : Nat} : cycB N i = false ↔ ¬ Rch N i i := by
  rw [← cyc_iff]
  cases cycB N i <;> simp

/-- numbers below a bound, each once, are no more than the bound -/
theorem few (n : Nat) : ∀ (L : List Int), L.Nodup → (∀ x ∈ L, 0 ≤ x ∧ x < (n : Int)) → L.length ≤ n := by
  induction n with
  | zero =>
    intro L _ h
    cases L with
    | nil => exact Nat.le_refl _
    | cons x r => have := h x (by simp); omega
  | succ n ih =>
    intro L hL h
    have h1 := ih (L.erase (n : Int)) (hL.erase _) fun x hx => by
      have h2 := (hL.mem_erase_iff.1 hx)
      have := h x h2.2
      have := h2.1
      omega
    have h3 : L.length ≤ (L.erase (n : Int)).length + 1 := by
      by_cases hm : (n : Int) ∈ L
      · rw [List.length_erase_of_mem hm]; omega
      · rw [List.erase_of_not_mem hm]; omega
    omega

/-- a member can be next: it is not there yet, and all that it needs are -/
def okN (N : List (List Int)) (out : List Int) (i : Nat) : Bool := !(out.contains (i : Int)) && (N.getD i []).all fun x => out.contains x
def nextO (N : List (List Int)) (out : List Int) : Int := findFrom (okN N out) N.length 0
/-- an order, member by member -/
def ordTo (N : List (List Int)) : Nat → List Int
  | 0 => []
  | k + 1 => ordTo N k ++ (if 0 ≤ nextO N (ordTo N k) then [nextO N (ordTo N k)] else [])
theorem next_some {N : List (List Int)} {out : List Int} (h : 0 ≤ nextO N out) : ∃ k : Nat, nextO N out = (k : Int) ∧ k < N.length ∧ okN N out k = true ∧ ∀ j, j < k → okN N out j = false := by
  unfold nextO at *
  rcases findFrom_cases (okN N out) N.length 0 with ⟨h1, _⟩ | ⟨k, h1, _, h3, h4, h5⟩
  · omega
  · exact ⟨k, h1, by omega, h4, fun j hj => h5 j (Nat.zero_le _) hj⟩
theorem ok_out {N : List (List Int)} {out : List Int} {k : Nat} (h : okN N out k = true) : (k : Int) ∉ out ∧ ∀ x ∈ N.getD k [], x ∈ out := by
  unfold okN at h
  simp only [Bool.and_eq_true, Bool.not_eq_true', List.all_eq_true] at h
  refine ⟨fun hm => ?_, fun x hx => ?_⟩
  · have := h.1
    rw [← Bool.not_eq_true, List.contains_iff_mem] at this
    exact this hm
  · exact List.contains_iff_mem.1 (h.2 x hx)
theorem ok_of {N : List (List Int)} {out : List Int} {k : Nat} (h1 : (k : Int) ∉ out) (h2 : ∀ x ∈ N.getD k [], x ∈ out) : okN N out k = true := by
  unfold okN
  simp only [Bool.and_eq_true, Bool.not_eq_true', List.all_eq_true]
  refine ⟨?_, fun x hx => List.contains_iff_mem.2 (h2 x hx)⟩
  rw [← Bool.not_eq_true, List.contains_iff_mem]
  exact h1
theorem ord_in (N : List (List Int)) (k : Nat) : (ordTo N k).Nodup ∧ (∀ x ∈ ordTo N k, 0 ≤ x ∧ x < (N.length : Int)) := by
  induction k with
  | zero => exact ⟨List.nodup_nil, fun x hx => by cases hx⟩
  | succ k ih =>
    rw [ordTo]
    split
    · rename_i h
      obtain ⟨m, h1, h2, h3, -⟩ := next_some h
      rw [h1]
      refine ⟨?_, fun x hx => ?_⟩
      · rw [List.nodup_append]
        refine ⟨ih.1, by simp, fun a ha b hb => ?_⟩
        rw [List.mem_singleton.1 hb]
        intro e
        exact (ok_out h3).1 (e ▸ ha)
      · rcases List.mem_append.1 hx with hx | hx
        · exact ih.2 x hx
        · rw [List.mem_singleton.1 hx]; omega
    · rw [List.append_nil]; exact ih
/-- a way down among those who are not there yet, each once, or a ring -/
theorem way {N : List (List Int)} {out : List Int} (hN : Inn N) (hno : ∀ i : Nat, i < N.length → okN N out i = false) {a : Nat} (ha : a < N.length) (hao : (a : Int) ∉ out) (k : Nat) :
    (∃ i : Nat, i < N.length ∧ Rch N i i) ∨ ∃ (P : List Int) (x : Int), x ∈ P ∧ P.length = k + 1 ∧ P.Nodup ∧ (∀ y ∈ P, 0 ≤ y ∧ y < (N.length : Int) ∧ y ∉ out) ∧ ∀ y ∈ P, y = x ∨ Rch N y x := by
  induction k with
  | zero => exact Or.inr ⟨[(a : Int)], a, by simp, rfl, by simp, fun y hy => by rw [List.mem_singleton.1 hy]; exact ⟨by omega, by omega, hao⟩, fun y hy => Or.inl (List.mem_singleton.1 hy)⟩
  | succ k ih =>
    rcases ih with h | ⟨P, x, hxP, hlen, hnd, hin, hto⟩
    · exact Or.inl h
    · obtain ⟨hx0, hx1, hx2⟩ := hin x hxP
      obtain ⟨m, rfl⟩ : ∃ m : Nat, x = m := ⟨x.toNat, by omega⟩
      have hmf := hno m (by omega)
      obtain ⟨y, hy, hyo⟩ : ∃ y ∈ N.getD m [], y ∉ out := by
        refine Classical.byContradiction fun hc => ?_
        rw [ok_of hx2 fun x hx => Classical.byContradiction fun h => hc ⟨x, hx, h⟩] at hmf
        cases hmf
      have hr : y ∈ rowN N (m : Int) := by unfold rowN; simpa using hy
      have hyi := hN.at hx0 hx1 hr
      by_cases hyP : y ∈ P
      · refine Or.inl ⟨m, by omega, ?_⟩
        rcases hto y hyP with e | e
        · exact .one (e ▸ hr)
        · exact .more hr e
      · refine Or.inr ⟨y :: P, y, by simp, by simp [hlen], List.nodup_cons.2 ⟨hyP, hnd⟩, fun z hz => ?_, fun z hz => ?_⟩
        · rcases List.mem_cons.1 hz with rfl | hz
          · exact ⟨hyi.1, hyi.2, hyo⟩
          · exact hin z hz
        · rcases List.mem_cons.1 hz with rfl | hz
          · exact Or.inl rfl
          · rcases hto z hz with e | e
            · exact Or.inr (.one (e ▸ hr))
            · exact Or.inr (e.snoc hr)
/-- where nobody needs itself in the end there is always one who can be next -/
theorem next_there {N : List (List Int)} (hN : Inn N) (hc : ∀ i : Nat, i < N.length → cycB N i = false) {k : Nat} (hk : k < N.length) (hl : (ordTo N k).length = k) : 0 ≤ nextO N (ordTo N k) := by
  unfold nextO
  rcases findFrom_cases (okN N (ordTo N k)) N.length 0 with ⟨_, h2⟩ | ⟨m, h1, _⟩
  · exfalso
    have hno : ∀ i : Nat, i < N.length → okN N (ordTo N k) i = false := fun i hi => h2 i (Nat.zero_le _) (by omega)
    obtain ⟨a, ha, hao⟩ : ∃ a : Nat, a < N.length ∧ (a : Int) ∉ ordTo N k := by
      refine Classical.byContradiction fun hn => ?_
      have hall : ∀ a : Nat, a < N.length → (a : Int) ∈ ordTo N k := fun a ha => Classical.byContradiction fun h => hn ⟨a, ha, h⟩
      have hmap : (List.range N.length).map (fun a : Nat => (a : Int)) ⊆ ordTo N k := fun x hx => by
        obtain ⟨a, ha, rfl⟩ := List.mem_map.1 hx
        exact hall a (List.mem_range.1 ha)
      have hlen : ∀ (X Y : List Int), X.Nodup → X ⊆ Y → X.length ≤ Y.length := by
        intro X
        induction X with
        | nil => intro Y _ _; exact Nat.zero_le _
        | cons x r ih =>
          intro Y hX hs
          have hx := List.nodup_cons.1 hX
          have hxY : x ∈ Y := hs (by simp)
          have := ih (Y.erase x) hx.2 fun z hz => (List.mem_erase_of_ne (fun e : z = x => hx.1 (by rw [← e]; exact hz))).2 (hs (List.mem_cons_of_mem _ hz))
          rw [List.length_erase_of_mem hxY] at this
          have := List.length_pos_of_mem hxY
          simp only [List.length_cons]
          omega
      have hrn : (List.range N.length).Pairwise (fun a b => a ≠ b) := List.nodup_range
      have := hlen _ _ (show List.Pairwise (fun a b => a ≠ b) _ from List.pairwise_map.2 (hrn.imp fun {a b : Nat} (h : a ≠ b) (e : (a : Int) = (b : Int)) => h (by omega))) hmap
      rw [List.length_map, List.length_range] at this
      omega
    rcases way hN hno ha hao N.length with ⟨i, hi, hr⟩ | ⟨P, x, _, hP, hnd, hin, _⟩
    · exact (cyc_not.1 (hc i hi)) hr
    · have := few N.length P hnd fun y hy => ⟨(hin y hy).1, (hin y hy).2.1⟩
      omega
  · omega
theorem ord_len {N : List (List Int)} (hN : Inn N) (hc : ∀ i : Nat, i < N.length → cycB N i = false) (k : Nat) (hk : k ≤ N.length) : (ordTo N k).length = k := by
  induction k with
  | zero => rfl
  | succ k ih =>
    have h := ih (by omega)
    rw [ordTo, if_pos (next_there hN hc (by omega) h), List.length_append, h]
    rfl
theorem ord_snoc {N : List (List Int)} (hN : Inn N) (hc : ∀ i : Nat, i < N.length → cycB N i = false) {k : Nat} (hk : k < N.length) : ∃ m : Nat, nextO N (ordTo N k) = (m : Int) ∧ m < N.length ∧ okN N (ordTo N k) m = true ∧ (∀ j, j < m → okN N (ordTo N k) j = false) ∧ ordTo N (k + 1) = ordTo N k ++ [(m : Int)] := by
  have h := next_there hN hc hk (ord_len hN hc k (by omega))
  obtain ⟨m, h1, h2, h3, h4⟩ := next_some h
  exact ⟨m, h1, h2, h3, h4, by rw [ordTo, if_pos h, h1]⟩
/-- the first of an order are the order so far -/
theorem ord_take {N : List (List Int)} (hN : Inn N) (hc : ∀ i : Nat, i < N.length → cycB N i = false) {k : Nat} (n : Nat) (hk : k ≤ n) (hn : n ≤ N.length) : (ordTo N n).take k = ordTo N k := by
  induction n with
  | zero =>
    have : k = 0 := by omega
    subst this
    rfl
  | succ n ih =>
    by_cases e : k = n + 1
    · subst e
      exact List.take_of_length_le (by rw [ord_len hN hc _ hn]; exact Nat.le_refl _)
    · obtain ⟨m, _, _, _, _, h5⟩ := ord_snoc hN hc (k := n) (by omega)
      rw [h5, List.take_append_of_le_length (by rw [ord_len hN hc n (by omega)]; omega)]
      exact ih (by omega) (by omega)
theorem ord_at {N : List (List Int)} (hN : Inn N) (hc : ∀ i : Nat, i < N.length → cycB N i = false) {k : Nat} (hk : k < N.length) : ∃ m : Nat, (ordTo N N.length).getD k 0 = (m : Int) ∧ m < N.length ∧ (m : Int) ∉ (ordTo N N.length).take k ∧ (∀ x ∈ N.getD m [], x ∈ (ordTo N N.length).take k) ∧ (ordTo N N.length).take (k + 1) = (ordTo N N.length).take k ++ [(m : Int)] := by
  obtain ⟨m, _, h2, h3, _, h5⟩ := ord_snoc hN hc hk
  have e1 := ord_take hN hc (k := k) N.length (by omega) (Nat.le_refl _)
  have e2 := ord_take hN hc (k := k + 1) N.length (by omega) (Nat.le_refl _)
  refine ⟨m, ?_, h2, by rw [e1]; exact (ok_out h3).1, by rw [e1]; exact (ok_out h3).2, by rw [e1, e2, h5]⟩
  have hl := ord_len hN hc N.length (Nat.le_refl _)
  have : ((ordTo N N.length).take (k + 1)).getD k 0 = (m : Int) := by
    rw [e2, h5, List.getD_eq_getElem?_getD, List.getElem?_append_right (by rw [ord_len hN hc k (by omega)]; exact Nat.le_refl _), ord_len hN hc k (by omega)]
    simp
  rw [List.getD_eq_getElem?_getD, List.getElem?_take_of_lt (by omega)] at this
  rw [List.getD_eq_getElem?_getD]
  exact this

/-- lists that rise and hold the same are the same -/
theorem rise_eq : ∀ (L K : List Int), L.Pairwise (· < ·) → K.Pairwise (· < ·) → (∀ x, x ∈ L ↔ x ∈ K) → L = K
  | [], [], _, _, _ => rfl
  | [], y :: K, _, _, h => by have := (h y).2 (by simp); cases this
  | x :: L, [], _, _, h => by have := (h x).1 (by simp); cases this
  | x :: L, y :: K, hL, hK, h => by
    have hL1 := List.pairwise_cons.1 hL
    have hK1 := List.pairwise_cons.1 hK
    have e : x = y := by
      rcases List.mem_cons.1 ((h x).1 (by simp)) with e | e
      · exact e
      · rcases List.mem_cons.1 ((h y).2 (by simp)) with e2 | e2
        · exact e2.symm
        · have := hL1.1 _ e2
          have := hK1.1 _ e
          omega
    subst e
    congr 1
    refine rise_eq L K hL1.2 hK1.2 fun z => ⟨fun hz => ?_, fun hz => ?_⟩
    · rcases List.mem_cons.1 ((h z).1 (List.mem_cons_of_mem _ hz)) with e | e
      · have := hL1.1 z hz; omega
      · exact e
    · rcases List.mem_cons.1 ((h z).2 (List.mem_cons_of_mem _ hz)) with e | e
      · have := hK1.1 z hz; omega
      · exact e
theorem sel_rise (p : Nat → Bool) (k : Nat) : (selTo p k).Pairwise (· < ·) := by
  induction k with
  | zero => exact List.Pairwise.nil
  | succ k ih =>
    rw [selTo, List.pairwise_append]
    refine ⟨ih, ?_, fun a ha b hb => ?_⟩
    · split <;> simp
    · obtain ⟨m, h1, h2, -⟩ := selTo_mem a ha
      split at hb
      · rw [List.mem_singleton.1 hb]; omega
      · cases hb
theorem sel_has {p : Nat → Bool} {k m : Nat} (h : m < k) (hp : p m = true) : (m : Int) ∈ selTo p k := by
  induction k with
  | zero => omega
  | succ k ih =>
    rw [selTo, List.mem_append]
    by_cases e : m = k
    · subst e; exact Or.inr (by rw [if_pos hp]; simp)
    · exact Or.inl (ih (by omega))
theorem sel_filter (p q : Nat → Bool) (f : Int → Bool) (k : Nat) (h : ∀ j, j < k → (q j = true ↔ p j = true ∧ f (j : Int) = true)) : (selTo p k).filter f = selTo q k := by
  induction k with
  | zero => rfl
  | succ k ih =>
    rw [selTo, selTo, List.filter_append, ih fun j hj => h j (by omega)]
    congr 1
    have hk := h k (by omega)
    by_cases h1 : p k = true
    · by_cases h2 : f (k : Int) = true
      · rw [if_pos h1, if_pos (hk.2 ⟨h1, h2⟩)]; simp [h2]
      · rw [if_pos h1, if_neg fun e => h2 (hk.1 e).2]; simp [h2]
    · rw [if_neg h1, if_neg fun e => h1 (hk.1 e).1]; rfl
theorem rise_nodup {L : List Int} (h : L.Pairwise (· < ·)) : L.Nodup := h.imp fun h e => by omega
end Go.Proofs.YtpnfmpbgjkhicafGreatDoor
