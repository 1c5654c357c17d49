/-
  Whatever text is read as a formula, what Print writes of it is no longer than that text, on plain data: each bracket that is written was paid for by one that was read.
  Whatever text is read as a formula, what Print writes of it is no longer than that text, on plain data.
  What tallylaw2.FormulaBack answers, called in whatever memory: true.
-/
import Derived.Test.YtklfenojapgmnaeGreatDoorFRM
namespace Go.Proofs.YtklfenojapgmnaeGreatDoor

/-- a tree stands in a list of nodes, its root at a place -/
def isT (L : List Nd) : Tre → Nat → Prop
  | .num n, i => L[i]? = some ⟨1, n, noT, 0, 0⟩
  | .ref s, i => L[i]? = some ⟨2, 0, s, 0, 0⟩
  | .bin o a b, i => 2 < o ∧ ∃ j k : Nat, j < i ∧ k < i ∧ L[i]? = some ⟨o, 0, noT, (j : Int), (k : Int)⟩ ∧ isT L a j ∧ isT L b k
theorem get_app {L M : List Nd} {i : Nat} {x : Nd} (h : L[i]? = some x) : (L ++ M)[i]? = some x := by
  have hi := (List.getElem?_eq_some_iff.1 h).1
  rw [List.getElem?_append_left hi]
  exact h
theorem isT.more {L : List Nd} (M : List Nd) : ∀ {t : Tre} {i : Nat}, isT L t i → isT (L ++ M) t i
  | .num _, _, h => get_app h
  | .ref _, _, h => get_app h
  | .bin _ _ _, _, ⟨h0, j, k, h1, h2, h3, h4, h5⟩ => ⟨h0, j, k, h1, h2, get_app h3, isT.more M h4, isT.more M h5⟩
theorem isT.tree {L : List Nd} : ∀ {t : Tre} {i : Nat} (f : Nat), isT L t i → i < f → trF L f i = t
  | .num n, i, f, h, hf => by
    obtain ⟨g, rfl⟩ : ∃ g, f = g + 1 := ⟨f - 1, by omega⟩
    have e : L.getD i noN = ⟨1, n, noT, 0, 0⟩ := by rw [List.getD, h]; rfl
    rw [trF, if_pos (by rw [e]), e]
  | .ref s, i, f, h, hf => by
    obtain ⟨g, rfl⟩ : ∃ g, f = g + 1 := ⟨f - 1, by omega⟩
    have e : L.getD i noN = ⟨2, 0, s, 0, 0⟩ := by rw [List.getD, h]; rfl
    rw [trF, if_neg (by rw [e]; show ¬ (2 : Int) = 1; omega), if_pos (by rw [e]), e]
  | .bin o a b, i, f, ⟨h0, j, k, h1, h2, h3, h4, h5⟩, hf => by
    obtain ⟨g, rfl⟩ : ∃ g, f = g + 1 := ⟨f - 1, by omega⟩
    have e : L.getD i noN = ⟨o, 0, noT, (j : Int), (k : Int)⟩ := by rw [List.getD, h3]; rfl
    rw [trF, e]
    simp only
    rw [if_neg (by omega), if_neg (by omega), Int.toNat_natCast, Int.toNat_natCast, isT.tree g h4 (by omega), isT.tree g h5 (by omega)]
/-- bytes that a tree has been paid with: its text, and two for brackets about it -/
def cost (x : Tre × Bool) : Nat := (txtL x.1).length + (if x.2 then 2 else 0)
def costs (l : List (Tre × Bool)) : Nat := (l.map cost).sum
theorem costs_snoc (l : List (Tre × Bool)) (x : Tre × Bool) : costs (l ++ [x]) = costs l + cost x := by simp [costs]
theorem txt_len (o : Int) (a b : Tre) : (txtL (.bin o a b)).length = (txtL a).length + (if bindT a < bindN o then 2 else 0) + 1 + ((txtL b).length + (if bindT b ≤ bindN o then 2 else 0)) := by
  have hbr : ∀ (t : Tre) (c : Prop) [Decidable c], (bytesOf (brkL (tokT t) (decide c))).length = (txtL t).length + (if c then 2 else 0) := by
    intro t c _
    by_cases hc : c
    · rw [decide_eq_true hc, if_pos hc]
      show (bytesOf ([ByteArray.mk #[40]] ++ tokT t ++ [ByteArray.mk #[41]])).length = _
      rw [bytes_app, bytes_app, bytes_one, bytes_one]
      simp [txtL]
    · rw [decide_eq_false hc, if_neg hc]
      rfl
  have hs : (sgnT o).data.toList.length = 1 := by
    rw [Array.length_toList]
    exact sgn_size o
  show (bytesOf (brkL (tokT a) (decide (bindT a < bindN o)) ++ [sgnT o] ++ brkL (tokT b) (decide (bindT b ≤ bindN o)))).length = _
  rw [bytes_app, bytes_app, bytes_one, List.length_append, List.length_append, hbr, hbr, hs]
/-- ops that wait, and what stands on their left: in each bracket they bind more and more, and each left side binds enough or has its brackets -/
inductive St : List Int → List (Tre × Bool) → Int → Prop
  | nil : St [] [] 0
  | opn {W : List Int} {ts : List (Tre × Bool)} {k : Int} : St W ts k → St (W ++ [0]) ts 0
  | op {W : List Int} {ts : List (Tre × Bool)} {k o : Int} {x : Tre × Bool} : St W ts k → 3 ≤ o ∧ o ≤ 6 → k < bindN o → (bindN o ≤ bindT x.1 ∨ x.2 = true) → St (W ++ [o]) (ts ++ [x]) (bindN o)
theorem bind_two {o : Int} (h : 3 ≤ o ∧ o ≤ 6) : bindN o ≤ 2 := by unfold bindN; split <;> (try split) <;> omega
theorem St.le {W : List Int} {ts : List (Tre × Bool)} {k : Int} (h : St W ts k) : 0 ≤ k ∧ k ≤ 2 := by
  cases h with
  | nil => exact ⟨Int.le_refl _, by omega⟩
  | opn _ => exact ⟨Int.le_refl _, by omega⟩
  | @op _ _ _ o _ _ ho _ _ => exact ⟨by have := bindN_ge o; omega, bind_two ho⟩
/-- where the trees that are ready stand -/
inductive Rp (L : List Nd) : List Int → List (Tre × Bool) → Prop
  | nil : Rp L [] []
  | snoc {r : List Int} {ts : List (Tre × Bool)} {x : Tre × Bool} {i : Nat} : Rp L r ts → isT L x.1 i → i < L.length → Rp L (r ++ [(i : Int)]) (ts ++ [x])
theorem Rp.more {L : List Nd} (M : List Nd) {r : List Int} {ts : List (Tre × Bool)} (h : Rp L r ts) : Rp (L ++ M) r ts := by
  induction h with
  | nil => exact Rp.nil
  | snoc _ h2 h3 ih => exact Rp.snoc ih (h2.more M) (by rw [List.length_append]; omega)
theorem Rp.inv {L : List Nd} {r : List Int} {ts : List (Tre × Bool)} {x : Tre × Bool} (h : Rp L r (ts ++ [x])) : ∃ (r' : List Int) (i : Nat), r = r' ++ [(i : Int)] ∧ Rp L r' ts ∧ isT L x.1 i ∧ i < L.length := by
  generalize he : ts ++ [x] = us at h
  cases h with
  | nil => simp at he
  | @snoc r' ts' x' i h1 h2 h3 =>
    have := List.append_inj' he rfl
    obtain ⟨rfl, e⟩ := this
    simp at e
    subst e
    exact ⟨r', i, rfl, h1, h2, h3⟩
/-- a builder behind an operand: what is ready, the last tree on top -/
structure Top (b : Bld) (ts : List (Tre × Bool)) (x : Tre × Bool) (k : Int) : Prop where
  st : St b.waiting ts k
  rp : Rp b.nodes b.ready (ts ++ [x])
  last : ∃ r : List Int, b.ready = r ++ [((b.nodes.length - 1 : Nat) : Int)]
  some : 0 < b.nodes.length
  right : k < bindT x.1 ∨ x.2 = true
/-- one join -/
theorem Top.join {n : List Nd} {r W : List Int} {o k : Int} {ts : List (Tre × Bool)} {a x : Tre × Bool} (h : Top ⟨n, r, W ++ [o]⟩ (ts ++ [a]) x (bindN o)) (hs : St W ts k) (ho : 3 ≤ o ∧ o ≤ 6) (hk : k < bindN o) (hl : bindN o ≤ bindT a.1 ∨ a.2 = true) :
    Top (joinBd o ⟨n, r, W⟩) ts (.bin o a.1 x.1, false) k ∧ costs ts + cost (.bin o a.1 x.1, false) ≤ costs (ts ++ [a]) + cost x + 1 := by
  obtain ⟨r1, i, e1, p1, t1, l1⟩ := h.rp.inv
  obtain ⟨r2, j, e2, p2, t2, l2⟩ := p1.inv
  simp only at e1 t1 l1 t2 l2 p1 p2
  subst e2
  subst e1
  have hlen : (r2 ++ [(j : Int)] ++ [(i : Int)]).length - 2 = r2.length := by simp
  have hj : joinBd o ⟨n, r2 ++ [(j : Int)] ++ [(i : Int)], W⟩ = ⟨n ++ [⟨o, 0, noT, (j : Int), (i : Int)⟩], r2 ++ [((n.length : Nat) : Int)], W⟩ := by
    unfold joinBd addB
    simp only [hlen]
    have g1 : (r2 ++ [(j : Int)] ++ [(i : Int)]).getD r2.length 0 = (j : Int) := by simp [List.getD]
    have g2 : (r2 ++ [(j : Int)] ++ [(i : Int)]).getD (r2.length + 1) 0 = (i : Int) := by simp [List.getD]
    have g3 : (r2 ++ [(j : Int)] ++ [(i : Int)]).take r2.length = r2 := by simp
    rw [g1, g2, g3]
    rfl
  rw [hj]
  refine ⟨⟨hs, ?_, ⟨r2, ?_⟩, by simp, ?_⟩, ?_⟩
  · refine Rp.snoc (p2.more _) ?_ (by simp)
    exact ⟨by omega, j, i, l2, l1, by simp, t2.more _, t1.more _⟩
  · simp
  · exact Or.inl hk
  · have hr := h.right
    rw [costs_snoc]
    unfold cost
    simp only [Bool.false_eq_true, if_false]
    rw [txt_len o a.1 x.1]
    have c1 : (if bindT a.1 < bindN o then 2 else 0) ≤ (if a.2 = true then 2 else 0) := by
      rcases hl with h1 | h1
      · rw [if_neg (by omega)]; omega
      · rw [if_pos h1]; split <;> omega
    have c2 : (if bindT x.1 ≤ bindN o then 2 else 0) ≤ (if x.2 = true then 2 else 0) := by
      rcases hr with h1 | h1
      · rw [if_neg (by omega)]; omega
      · rw [if_pos h1]; split <;> omega
    omega
/-- settled: what is left waits less -/
theorem Top.settle (least : Int) : ∀ (m : Nat) (b : Bld) (ts : List (Tre × Bool)) (x : Tre × Bool) (k : Int), b.waiting.length = m → Top b ts x k →
    ∃ ts1 x1 k1, Top (settleTo least m b) ts1 x1 k1 ∧ (k1 < least ∨ k1 = 0) ∧ (x1 = x ∨ least ≤ bindT x1.1) ∧ costs ts1 + cost x1 + (settleTo least m b).waiting.length ≤ costs ts + cost x + b.waiting.length
  | m, ⟨n, r, W⟩, ts, x, k, hm, h => by
    have hst := h.st
    simp only at hst hm
    generalize hW : W = W' at hst
    cases hst with
    | nil =>
      subst hW
      have hm0 : m = 0 := by simpa using hm.symm
      subst hm0
      exact ⟨[], x, 0, by rw [settleTo]; exact h, Or.inr rfl, Or.inl rfl, Nat.le_refl _⟩
    | @opn W0 _ k0 h0 =>
      subst hW
      obtain ⟨m', rfl⟩ : ∃ m', m = m' + 1 := ⟨m - 1, by simp at hm; omega⟩
      have hl : W0.length = m' := by simp at hm; omega
      have e : (W0 ++ [(0 : Int)]).getD m' 0 = 0 := by rw [← hl]; simp [List.getD]
      rw [settle_stop (b := ⟨n, r, W0 ++ [0]⟩) (Or.inl e)]
      exact ⟨ts, x, 0, h, Or.inr rfl, Or.inl rfl, Nat.le_refl _⟩
    | @op W0 ts0 k0 o a h0 ho hk hlft =>
      subst hW
      obtain ⟨m', rfl⟩ : ∃ m', m = m' + 1 := ⟨m - 1, by simp at hm; omega⟩
      have hl : W0.length = m' := by simp at hm; omega
      have e : (W0 ++ [o]).getD m' 0 = o := by rw [← hl]; simp [List.getD]
      by_cases hlt : bindN o < least
      · rw [settle_stop (b := ⟨n, r, W0 ++ [o]⟩) (Or.inr (by show bindN ((W0 ++ [o]).getD m' 0) < least; rw [e]; exact hlt))]
        exact ⟨ts0 ++ [a], x, bindN o, h, Or.inl hlt, Or.inl rfl, Nat.le_refl _⟩
      · have e3 : (W0 ++ [o]).take m' = W0 := by rw [← hl]; simp
        have hon : settleTo least (m' + 1) ⟨n, r, W0 ++ [o]⟩ = settleTo least m' (joinBd o ⟨n, r, W0⟩) := by
          rw [settle_on (b := ⟨n, r, W0 ++ [o]⟩) (by show ¬ ((W0 ++ [o]).getD m' 0 = 0 ∨ bindN ((W0 ++ [o]).getD m' 0) < least); rw [e]; omega)]
          simp only [e, e3]
        obtain ⟨hj, hc⟩ := h.join h0 ho hk hlft
        obtain ⟨ts1, x1, k1, g1, g2, g3, g4⟩ := Top.settle least m' (joinBd o ⟨n, r, W0⟩) ts0 _ k0 (by show W0.length = m'; exact hl) hj
        rw [hon]
        refine ⟨ts1, x1, k1, g1, g2, Or.inr ?_, ?_⟩
        · rcases g3 with g3 | g3
          · rw [g3]; show least ≤ bindN o; omega
          · exact g3
        · have e4 : (joinBd o ⟨n, r, W0⟩).waiting.length = W0.length := rfl
          have e5 : (W0 ++ [o]).length = W0.length + 1 := by simp
          simp only at g4 ⊢
          omega
end Go.Proofs.YtklfenojapgmnaeGreatDoor

namespace Go.Proofs.YtklfenojapgmnaeGreatDoor

/-- what holds word by word holds at the end -/
theorem run_inv {S : Type} {s : ByteArray} {tk : S → ByteArray → S} (G : Nat → Nat → Bool → S → Prop) (hstep : ∀ (a o : Nat) (ph : Bool) (st : S) (t : ByteArray) (o' : Nat) (ph' : Bool), Stp o ph t o' ph' → G a o ph st → G (a + t.size) o' ph' (tk st t)) :
    ∀ (f : Nat) (ph : Bool) (r r' : Rd S), r.at' ≤ s.size → G r.at' r.opn ph r.st → runR s tk f ph r = (r', true) → G r'.at' r'.opn true r'.st ∧ r'.opn = 0 ∧ r'.at' ≤ s.size
  | 0, _, _, _, _, _, h => by rw [runR] at h; cases h
  | f + 1, false, r, r', hr, hG, h => by
    rw [runR] at h
    split at h
    · rename_i h40
      obtain ⟨w1, w2⟩ := opn_word (o := r.opn) hr h40
      have := hstep _ _ _ _ _ _ _ w2 hG
      rw [slice_ok w1] at this
      exact run_inv G hstep f false _ r' w1 this h
    · split at h
      · rename_i hd
        obtain ⟨w1, w2⟩ := dig_word (o := r.opn) hr hd
        have := hstep _ _ _ _ _ _ _ w2 hG
        rw [slice_ok w1] at this
        exact run_inv G hstep f true _ r' w1 this h
      · split at h
        · rename_i hl
          obtain ⟨w1, w2⟩ := let_word (o := r.opn) hr hl
          have := hstep _ _ _ _ _ _ _ w2 hG
          rw [slice_ok w1] at this
          exact run_inv G hstep f true _ r' w1 this h
        · cases h
  | f + 1, true, r, r', hr, hG, h => by
    rw [runR] at h
    split at h
    · rename_i hc
      obtain ⟨o, ho⟩ : ∃ o, r.opn = o + 1 := ⟨r.opn - 1, by omega⟩
      obtain ⟨w1, w2⟩ := cls_word (o := o) hr hc.2
      rw [ho] at hG
      have := hstep _ _ _ _ _ _ _ w2 hG
      rw [slice_ok w1] at this
      refine run_inv G hstep f true _ r' w1 ?_ h
      show G (r.at' + 1) (r.opn - 1) true _
      rw [ho, Nat.add_sub_cancel]
      exact this
    · split at h
      · split at h
        · cases h
        · rename_i hlt hs
          obtain ⟨w1, w2⟩ := sgn_stp (o := r.opn) hr hs
          have := hstep _ _ _ _ _ _ _ w2 hG
          rw [slice_ok w1] at this
          exact run_inv G hstep f false _ r' w1 this h
      · simp only [Prod.mk.injEq, decide_eq_true_eq] at h
        obtain ⟨rfl, h0⟩ := h
        exact ⟨hG, h0, hr⟩

/-- what has been paid: ahead of an operand, behind one -/
def Pay (a : Nat) (ph : Bool) (b : Bld) : Prop :=
  if ph then ∃ ts x k, Top b ts x k ∧ (bindT x.1 = 3 ∨ x.2 = true) ∧ costs ts + cost x + b.waiting.length ≤ a
  else ∃ ts k, St b.waiting ts k ∧ Rp b.nodes b.ready ts ∧ costs ts + b.waiting.length ≤ a
theorem fold_lt : ∀ (l : List UInt8) (acc m : Nat), (∀ b ∈ l, 48 ≤ b.toNat ∧ b.toNat ≤ 57) → Lib.decFrom acc l = some m → m < (acc + 1) * 10 ^ l.length
  | [], acc, m, _, h => by
    simp [Lib.decFrom] at h
    simp
    omega
  | b :: r, acc, m, hb, h => by
    have h1 := hb b (List.mem_cons_self ..)
    have hd : Lib.digitVal b = some (b.toNat - 48) := by unfold Lib.digitVal; rw [if_pos h1]
    simp only [Lib.decFrom, hd] at h
    have ih := fold_lt r _ m (fun c hc => hb c (List.mem_cons_of_mem _ hc)) h
    rw [List.length_cons, Nat.pow_succ]
    have : (acc * 10 + (b.toNat - 48) + 1) * 10 ^ r.length ≤ ((acc + 1) * 10) * 10 ^ r.length := Nat.mul_le_mul_right _ (by omega)
    have e : (acc + 1) * (10 ^ r.length * 10) = ((acc + 1) * 10) * 10 ^ r.length := by rw [Nat.mul_assoc, Nat.mul_comm (10 ^ r.length)]
    rw [e]
    omega
theorem nDig_le : ∀ (k v : Nat), 1 ≤ k → v < 10 ^ k → Lib.nDigits v ≤ k
  | 0, _, h, _ => by omega
  | k + 1, v, _, hv => by
    rw [Lib.nDigits]
    split
    · omega
    · rename_i h10
      by_cases hk : k = 0
      · subst hk; simp at hv; omega
      · have := nDig_le k (v / 10) (by omega) (by rw [Nat.pow_succ] at hv; omega)
        omega
theorem num_short {t : ByteArray} (h1 : 1 ≤ t.size) (hd : ∀ i, i < t.size → digB (byteN t i) = true) : 0 ≤ numW t ∧ (txtL (.num (numW t))).length ≤ t.size := by
  have hall := digits_all hd
  obtain ⟨m, h2, h3⟩ := dec_fold t.data.toList 0 hall
  have hz : ((0 : Nat) : Int) = 0 := rfl
  rw [hz] at h3
  have hn : numW t = (m : Int) := h3
  have hlt := fold_lt _ 0 m hall h2
  have hsz : t.data.toList.length = t.size := Array.length_toList
  rw [hn]
  refine ⟨by omega, ?_⟩
  have e : txtL (.num (m : Int)) = Lib.decDigits m := by
    show bytesOf [numB (m : Int)] = _
    rw [bytes_one]
    simp [numB, Lib.itoa_nonneg]
  rw [e, Lib.decDigits_length]
  refine nDig_le _ _ h1 ?_
  rw [hsz] at hlt
  simpa using hlt
theorem pay_opd {a : Nat} {b : Bld} {t : ByteArray} {x : Tre} (hP : Pay a false b) (hx : bindT x = 3) (hnd : isT (b.nodes ++ [opndN t]) x b.nodes.length) (hc : (txtL x).length ≤ t.size) : Pay (a + t.size) true (addB (opndN t) b) := by
  obtain ⟨ts, k, h1, h2, h3⟩ := hP
  have hk := h1.le
  refine ⟨ts, (x, false), k, ⟨h1, ?_, ⟨b.ready, ?_⟩, by simp [addB], Or.inl (by show k < bindT x; omega)⟩, Or.inl hx, ?_⟩
  · exact Rp.snoc (h2.more _) hnd (by simp [addB])
  · simp [addB]
  · have e : cost (x, false) = (txtL x).length := by simp [cost]
    rw [e]
    show _ + _ + b.waiting.length ≤ _
    omega
theorem pay_step {a o o' : Nat} {ph ph' : Bool} {b : Bld} {t : ByteArray} (hS : Stp o ph t o' ph') (hF : FitB a o ph b) (hP : Pay a ph b) : Pay (a + t.size) ph' (takeB b t) := by
  cases hS with
  | opn o t h1 h40 =>
    have hT : takeB b t = ⟨b.nodes, b.ready, b.waiting ++ [0]⟩ := by rw [takeB, if_pos h40]
    rw [hT]
    obtain ⟨ts, k, g1, g2, g3⟩ := hP
    refine ⟨ts, 0, St.opn g1, g2, ?_⟩
    show costs ts + (b.waiting ++ [0]).length ≤ _
    rw [List.length_append, List.length_singleton]
    omega
  | cls _ t h1 h41 =>
    have hT : takeB b t = ⟨(settleB 0 b).nodes, (settleB 0 b).ready, (settleB 0 b).waiting.take ((settleB 0 b).waiting.length - 1)⟩ := by rw [takeB, if_neg (by omega), if_pos h41]
    rw [hT]
    obtain ⟨ts, x, k, g1, g2, g3⟩ := hP
    obtain ⟨ts1, x1, k1, t1, t2, t3, t4⟩ := g1.settle 0 _ b ts x k rfl
    have f2 := hF.ops
    simp at f2
    obtain ⟨q1, -⟩ := settleB_inv 0 b f2
    have hz := hF.zero
    have ht1 : Top (settleB 0 b) ts1 x1 k1 := t1
    have t4' : costs ts1 + cost x1 + (settleB 0 b).waiting.length ≤ costs ts + cost x + b.waiting.length := t4
    generalize settleB 0 b = b1 at *
    have hk0 : k1 = 0 := by have := ht1.st.le; omega
    have hst := ht1.st
    rw [hk0] at hst
    generalize hW : b1.waiting = W at hst
    generalize hK : (0 : Int) = K at hst
    cases hst with
    | nil =>
      have e0 : zerosN ([] : List Int) = 0 := rfl
      rw [hW] at q1
      omega
    | @opn W0 _ k0 g0 =>
      refine ⟨ts1, (x1.1, true), k0, ⟨?_, ?_, ht1.last, ht1.some, Or.inr rfl⟩, Or.inr rfl, ?_⟩
      · show St ((W0 ++ [0]).take ((W0 ++ [0]).length - 1)) ts1 k0
        simpa using g0
      · obtain ⟨r', i, e1, e2, e3, e4⟩ := ht1.rp.inv
        show Rp b1.nodes b1.ready (ts1 ++ [(x1.1, true)])
        rw [e1]
        exact Rp.snoc e2 e3 e4
      · show costs ts1 + cost (x1.1, true) + ((W0 ++ [0]).take ((W0 ++ [0]).length - 1)).length ≤ _
        rw [hW] at t4'
        have c1 : cost (x1.1, true) = (txtL x1.1).length + 2 := by simp [cost]
        have c2 : (txtL x1.1).length ≤ cost x1 := by unfold cost; omega
        simp at t4' ⊢
        omega
    | @op W0 _ _ oo _ _ _ _ _ =>
      have := bindN_ge oo
      omega
  | num _ t h1 h7 hd =>
    have h0 := hd 0 (by omega)
    unfold digB at h0
    simp at h0
    rw [take_is_opd (by omega)]
    have hn := num_short h1 hd
    have ho : opndN t = ⟨1, numW t, noT, 0, 0⟩ := by unfold opndN; rw [if_neg (by omega)]; rfl
    exact pay_opd (x := .num (numW t)) hP rfl (by show (b.nodes ++ [opndN t])[b.nodes.length]? = _; rw [ho]; simp) hn.2
  | nam _ t h1 hl =>
    have h0 := hl 0 (by omega)
    unfold letB at h0
    simp at h0
    rw [take_is_opd (by omega)]
    have ho : opndN t = ⟨2, 0, t, 0, 0⟩ := by unfold opndN; rw [if_pos (by omega)]
    refine pay_opd (x := .ref t) hP rfl (by show (b.nodes ++ [opndN t])[b.nodes.length]? = _; rw [ho]; simp) ?_
    have e : txtL (.ref t) = t.data.toList := bytes_one _
    rw [e, Array.length_toList]
    exact Nat.le_refl _
  | sgn _ t h1 hs =>
    obtain ⟨i, hi⟩ : ∃ i, signI (byteN t 0) = i := ⟨_, rfl⟩
    have hc := sign_cases hs
    have hT : takeB b t = ⟨(settleB (bindN (3 + i)) b).nodes, (settleB (bindN (3 + i)) b).ready, (settleB (bindN (3 + i)) b).waiting ++ [3 + i]⟩ := by
      rw [takeB, if_neg (by omega), if_neg (by omega), if_pos hs, hi]
    rw [hT]
    obtain ⟨ts, x, k, g1, g2, g3⟩ := hP
    obtain ⟨ts1, x1, k1, t1, t2, t3, t4⟩ := g1.settle (bindN (3 + i)) _ b ts x k rfl
    have ho : 3 ≤ 3 + i ∧ 3 + i ≤ 6 := by omega
    have hb1 := bindN_ge (3 + i)
    have hb2 := bind_two ho
    have ht1 : Top (settleB (bindN (3 + i)) b) ts1 x1 k1 := t1
    have t4' : costs ts1 + cost x1 + (settleB (bindN (3 + i)) b).waiting.length ≤ costs ts + cost x + b.waiting.length := t4
    generalize settleB (bindN (3 + i)) b = b1 at *
    refine ⟨ts1 ++ [x1], bindN (3 + i), St.op ht1.st ho (by omega) ?_, ht1.rp, ?_⟩
    · rcases t3 with t3 | t3
      · rw [t3]
        rcases g2 with g2 | g2
        · left; omega
        · right; exact g2
      · left; exact t3
    · show costs (ts1 ++ [x1]) + (b1.waiting ++ [3 + i]).length ≤ _
      rw [costs_snoc, List.length_append, List.length_singleton]
      omega
theorem form_prs {s : ByteArray} (h : prsE s = 0) : formErr (prsL s) = 0 := by
  have hL : prsL s = nodesP s := by unfold prsL; rw [if_pos h]
  rw [hL]
  unfold prsE at h
  split at h
  · split at h <;> cases h
  · split at h
    · exact h
    · cases h
/-- what is written is no longer than what was read -/
theorem back_short {s : ByteArray} (h : prsE s = 0) : (printT (prsL s)).size ≤ s.size := by
  have hf := form_prs h
  have hL : prsL s = nodesP s := by unfold prsL; rw [if_pos h]
  have hok : (goneB s).2 = true := by
    unfold prsE at h
    split at h
    · split at h <;> cases h
    · split at h
      · assumption
      · cases h
  have he : goneB s = toEnd s takeB false ⟨0, 0, noB⟩ := all_end_eq (Nat.zero_le _)
  have hrun : runR s takeB (s.size + 1) false ⟨0, 0, noB⟩ = ((goneB s).1, true) := by
    show toEnd s takeB false ⟨0, 0, noB⟩ = _
    rw [← he, ← hok]
  have hpay0 : Pay 0 false noB := ⟨[], 0, St.nil, Rp.nil, Nat.le_refl _⟩
  obtain ⟨⟨hF, hP⟩, h0, hin⟩ := run_inv (s := s) (tk := takeB) (fun a o ph b => FitB a o ph b ∧ Pay a ph b) (fun a o ph st t o' ph' hS hG => ⟨fit_step hS hG.1, pay_step hS hG.1 hG.2⟩) _ _ _ _ (Nat.zero_le _) ⟨fit_new, hpay0⟩ hrun
  obtain ⟨ts, x, k, g1, g2, g3⟩ := hP
  obtain ⟨ts1, x1, k1, t1, t2, t3, t4⟩ := g1.settle 0 _ _ ts x k rfl
  have f2 := hF.ops
  simp at f2
  obtain ⟨q1, -⟩ := settleB_inv 0 (goneB s).1.st f2
  have hz := hF.zero
  rw [h0] at hz
  have ht1 : Top (settleB 0 (goneB s).1.st) ts1 x1 k1 := t1
  have t4' : costs ts1 + cost x1 + (settleB 0 (goneB s).1.st).waiting.length ≤ costs ts + cost x + (goneB s).1.st.waiting.length := t4
  have hnd : nodesP s = (settleB 0 (goneB s).1.st).nodes := rfl
  generalize settleB 0 (goneB s).1.st = b1 at *
  have hk0 : k1 = 0 := by have := ht1.st.le; omega
  have hts : ts1 = [] := by
    have hst := ht1.st
    rw [hk0] at hst
    generalize hW : b1.waiting = W at hst
    generalize hK : (0 : Int) = K at hst
    cases hst with
    | nil => rfl
    | @opn W0 _ k0 g0 =>
      exfalso
      rw [hW] at q1
      have := (ops_snoc W0 0).2
      rw [if_pos rfl] at this
      omega
    | @op W0 _ _ oo _ _ _ _ _ =>
      have := bindN_ge oo
      omega
  subst hts
  obtain ⟨r', i, e1, e2, e3, e4⟩ := ht1.rp.inv
  obtain ⟨r2, hr2⟩ := ht1.last
  have hi : i = b1.nodes.length - 1 := by
    rw [e1] at hr2
    have := List.append_inj' hr2 rfl
    have h2 := this.2
    simp at h2
    omega
  have htr : treeOf b1.nodes (b1.nodes.length - 1) = x1.1 := by
    rw [← hi]
    unfold treeOf
    exact e3.tree _ (Nat.lt_succ_self _)
  rw [print_tree hf, hL, hnd, htr]
  have hsz : (treT x1.1).size = (txtL x1.1).length := by simp [treT, ByteArray.size]
  have hcx : (txtL x1.1).length ≤ cost x1 := by unfold cost; omega
  omega
end Go.Proofs.YtklfenojapgmnaeGreatDoor

namespace Go.Proofs.YtklfenojapgmnaeGreatDoor
open Go.ChangeShapes Go.WideShapes Go.ChangeAt Go.RowKit
set_option maxRecDepth 20000

def factS : ByteArray := ⟨#[97, 45, 40, 98, 45, 50, 41]⟩
theorem fact_E : prsE factS = 0 := by decide +kernel
theorem fact_A : prsA factS = 0 := by decide +kernel
theorem fact_len : (prsL factS).length = 5 := by decide +kernel
theorem fact_3 : ((prsL factS).getD 3 noN).op = 4 := by decide +kernel
theorem fact_4 : ((prsL factS).getD 4 noN).op = 4 := by decide +kernel

set_option maxHeartbeats 8000000 in
theorem fback_any (A : Option Addr) (cap : Nat) (l : List Nd) (s : ByteArray) (An : Option Addr) (cn : Nat) (N : List ByteArray) (Ac : Option Addr) (cc : Nat) (C : List (Int × Int)) (w : World) (hs : s.size ≤ 4611686018427387904) (hE : TabE w) (hL : NdsV w A cap l) (hN : NmV w An cn N) (hC : CelV w Ac cc C) :
    Calls Tryz.prog 4 #[.slice A l.length cap, .string s, .slice An N.length cn, .slice Ac C.length cc] w fun e w' => e = .returned (.bool true) ∧ Below w.heap.size w w' := by
  have HE : Hid (TabE w) := hE
  have HL : Hid (NdsV w A cap l) := hL
  have HN : Hid (NmV w An cn N) := hN
  have HC : Hid (CelV w Ac cc C) := hC
  have hp0 := fparse_any factS w (by decide)
  rw [fact_E, fact_A, fact_len, errV_zero] at hp0
  unfold factS at hp0
  have HPS : Hid (∀ w', Calls Tryz.prog 6 #[.string s] w' fun e w'' => (∃ A c, e = .returned (.tuple #[.slice A (prsL s).length c, .int .i64 (prsA s : Int), errV (prsE s)]) ∧ NdsV w'' A c (prsL s)) ∧ Below w'.heap.size w' w'') := fun w' => fparse_any s w' hs
  have HSh : Hid (prsE s = 0 → (printT (prsL s)).size ≤ s.size ∧ formErr (prsL s) = 0) := fun h => ⟨back_short h, form_prs h⟩
  have hsz : (s.size : Int) ≤ 4611686018427387904 := by omega
  clear hE hL hN hC
  by_cases h0 : formErr l = 0
  case neg =>
    go_enter Tryz.func4, Tryz.ntmps4
    go_wp2_with fail
    refine hp0.mono ?_
    rintro e w1 ⟨⟨A1, c1, rfl, hN1⟩, hb1⟩
    have HB1 : Hid (Below w.heap.size w w1) := hb1
    obtain ⟨-, -, h0 | ⟨bb, oo, rfl, hNA⟩⟩ := hN1
    · have h5 := fact_len; unfold factS at h5; rw [h0] at h5; cases h5
    obtain ⟨y3, -⟩ := hNA.nd (k := 3) (by have h5 := fact_len; unfold factS at h5; rw [h5]; decide)
    obtain ⟨y4, -⟩ := hNA.nd (k := 4) (by have h5 := fact_len; unfold factS at h5; rw [h5]; decide)
    have f3 := fact_3
    have f4 := fact_4
    unfold factS at f3 f4
    rw [f3] at y3
    rw [f4] at y4
    clear hb1 hp0 hNA f3 f4
    have hpt := fprint_any A cap l w1 (HE.out.later HB1.out) (HL.out.later HB1.out)
    rw [errV_some h0] at hpt
    clear h0
    go_wp2_with fail
    refine hpt.mono ?_
    rintro e w2 ⟨rfl, hb2⟩
    have HB2 := hid_of (onB HB1.out hb2)
    clear hb2 hpt
    by_cases hse : prsE s = 0
    · obtain ⟨q1, q2⟩ := HSh.out hse
      have hps := HPS.out w2
      rw [hse, errV_zero] at hps
      have HQ2 := hid_of q2
      obtain ⟨X, hX⟩ : ∃ X, prsL s = X := ⟨_, rfl⟩
      obtain ⟨at0, hat0⟩ : ∃ a, (prsA s : Int) = a := ⟨_, rfl⟩
      rw [hX] at hps q1 HQ2
      rw [hat0] at hps
      obtain ⟨u, hu⟩ : ∃ u, printT X = u := ⟨_, rfl⟩
      have HU := hid_of hu
      rw [hu] at q1
      have q3 : (u.size : Int) ≤ (s.size : Int) := by omega
      clear hX hat0 hse q2 hu q1
      go_wp2_with fail
      refine hps.mono ?_
      rintro e wp ⟨⟨Ax, cx, rfl, hNx⟩, hbx⟩
      have HBx := hid_of (onB HB2.out hbx)
      have HNx := hid_of hNx
      have hpu := fprint_any Ax cx X wp (HE.out.later HBx.out) hNx
      rw [HQ2.out, HU.out, errV_zero] at hpu
      clear hbx hNx hps
      go_wp2_with fail
      refine hpu.mono ?_
      rintro e wq ⟨rfl, hbq⟩
      have HBq := hid_of (onB HBx.out hbq)
      have hcu := fchk_any Ax cx X wq (HNx.out.later hbq)
      rw [HQ2.out, errV_zero] at hcu
      clear hbq hpu
      go_wp2_with fail
      refine hcu.mono ?_
      rintro e wz ⟨rfl, hbz⟩
      have HBz := hid_of (onB HBq.out hbz)
      clear hbz hcu
      go_wp2_with fail
      go_ret
      exact ⟨rfl, HBz.out⟩
    · have hps := HPS.out w2
      rw [errV_some hse] at hps
      clear hse
      go_wp2_with fail
      refine hps.mono ?_
      rintro e wp ⟨⟨Ax, cx, rfl, hNx⟩, hbx⟩
      have HBx := hid_of (onB HB2.out hbx)
      clear hbx hNx hps
      go_wp2_with fail
      go_ret
      exact ⟨rfl, HBx.out⟩
  by_cases hbig : (printT l).size ≤ 100
  case neg =>
    go_enter Tryz.func4, Tryz.ntmps4
    go_wp2_with fail
    refine hp0.mono ?_
    rintro e w1 ⟨⟨A1, c1, rfl, hN1⟩, hb1⟩
    have HB1 : Hid (Below w.heap.size w w1) := hb1
    obtain ⟨-, -, h0 | ⟨bb, oo, rfl, hNA⟩⟩ := hN1
    · have h5 := fact_len; unfold factS at h5; rw [h0] at h5; cases h5
    obtain ⟨y3, -⟩ := hNA.nd (k := 3) (by have h5 := fact_len; unfold factS at h5; rw [h5]; decide)
    obtain ⟨y4, -⟩ := hNA.nd (k := 4) (by have h5 := fact_len; unfold factS at h5; rw [h5]; decide)
    have f3 := fact_3
    have f4 := fact_4
    unfold factS at f3 f4
    rw [f3] at y3
    rw [f4] at y4
    clear hb1 hp0 hNA f3 f4
    have hpt := fprint_any A cap l w1 (HE.out.later HB1.out) (HL.out.later HB1.out)
    rw [h0, errV_zero] at hpt
    have hbi : 100 < ((printT l).size : Int) := by omega
    clear h0 hbig
    go_wp2_with fail
    refine hpt.mono ?_
    rintro e w2 ⟨rfl, hb2⟩
    have HB2 := hid_of (onB HB1.out hb2)
    clear hb2 hpt
    by_cases hse : prsE s = 0
    · obtain ⟨q1, q2⟩ := HSh.out hse
      have hps := HPS.out w2
      rw [hse, errV_zero] at hps
      have HQ2 := hid_of q2
      obtain ⟨X, hX⟩ : ∃ X, prsL s = X := ⟨_, rfl⟩
      obtain ⟨at0, hat0⟩ : ∃ a, (prsA s : Int) = a := ⟨_, rfl⟩
      rw [hX] at hps q1 HQ2
      rw [hat0] at hps
      obtain ⟨u, hu⟩ : ∃ u, printT X = u := ⟨_, rfl⟩
      have HU := hid_of hu
      rw [hu] at q1
      have q3 : (u.size : Int) ≤ (s.size : Int) := by omega
      clear hX hat0 hse q2 hu q1
      go_wp2_with fail
      refine hps.mono ?_
      rintro e wp ⟨⟨Ax, cx, rfl, hNx⟩, hbx⟩
      have HBx := hid_of (onB HB2.out hbx)
      have HNx := hid_of hNx
      have hpu := fprint_any Ax cx X wp (HE.out.later HBx.out) hNx
      rw [HQ2.out, HU.out, errV_zero] at hpu
      clear hbx hNx hps
      go_wp2_with fail
      refine hpu.mono ?_
      rintro e wq ⟨rfl, hbq⟩
      have HBq := hid_of (onB HBx.out hbq)
      have hcu := fchk_any Ax cx X wq (HNx.out.later hbq)
      rw [HQ2.out, errV_zero] at hcu
      clear hbq hpu
      go_wp2_with fail
      refine hcu.mono ?_
      rintro e wz ⟨rfl, hbz⟩
      have HBz := hid_of (onB HBq.out hbz)
      clear hbz hcu
      go_wp2_with fail
      go_ret
      exact ⟨rfl, HBz.out⟩
    · have hps := HPS.out w2
      rw [errV_some hse] at hps
      clear hse
      go_wp2_with fail
      refine hps.mono ?_
      rintro e wp ⟨⟨Ax, cx, rfl, hNx⟩, hbx⟩
      have HBx := hid_of (onB HB2.out hbx)
      clear hbx hNx hps
      go_wp2_with fail
      go_ret
      exact ⟨rfl, HBx.out⟩
  by_cases hve : valE l N C = 0
  · go_enter Tryz.func4, Tryz.ntmps4
    go_wp2_with fail
    refine hp0.mono ?_
    rintro e w1 ⟨⟨A1, c1, rfl, hN1⟩, hb1⟩
    have HB1 : Hid (Below w.heap.size w w1) := hb1
    obtain ⟨-, -, h0 | ⟨bb, oo, rfl, hNA⟩⟩ := hN1
    · have h5 := fact_len; unfold factS at h5; rw [h0] at h5; cases h5
    obtain ⟨y3, -⟩ := hNA.nd (k := 3) (by have h5 := fact_len; unfold factS at h5; rw [h5]; decide)
    obtain ⟨y4, -⟩ := hNA.nd (k := 4) (by have h5 := fact_len; unfold factS at h5; rw [h5]; decide)
    have f3 := fact_3
    have f4 := fact_4
    unfold factS at f3 f4
    rw [f3] at y3
    rw [f4] at y4
    clear hb1 hp0 hNA f3 f4
    have hpt := fprint_any A cap l w1 (HE.out.later HB1.out) (HL.out.later HB1.out)
    rw [h0, errV_zero] at hpt
    go_wp2_with fail
    refine hpt.mono ?_
    rintro e w2 ⟨rfl, hb2⟩
    have HB2 := hid_of (onB HB1.out hb2)
    clear hb2 hpt
    obtain ⟨k1, k2, k3, k4⟩ := back_print h0 hbig
    obtain ⟨j1, j2⟩ := back_val h0 hbig N C
    have hx2 := fparse_any (printT l) w2 (by omega)
    rw [k1, errV_zero] at hx2
    obtain ⟨Y, hY⟩ : ∃ Y, prsL (printT l) = Y := ⟨_, rfl⟩
    rw [hY] at hx2 k3 k4 j1 j2
    obtain ⟨T, hT⟩ : ∃ T, printT l = T := ⟨_, rfl⟩
    rw [hT] at hx2 k4 hbig ⊢
    obtain ⟨at1, hat1⟩ : ∃ a, (prsA T : Int) = a := ⟨_, rfl⟩
    rw [hat1] at hx2
    have K3 := hid_of k3
    have K4 := hid_of k4
    have J1 := hid_of j1
    have J2 := hid_of j2
    have VE := hid_of hve
    have hTs : (T.size : Int) ≤ 100 := by omega
    obtain ⟨R, hR⟩ : ∃ R, valC l N C = R := ⟨_, rfl⟩
    have HR := hid_of hR
    clear k1 k2 k3 k4 j1 j2 hY hT hat1 hve h0 hR
    go_wp2_with fail
    refine hx2.mono ?_
    rintro e w3 ⟨⟨A3, c3, rfl, hN3⟩, hb3⟩
    have HB3 := hid_of (onB HB2.out hb3)
    have HN3 := hid_of hN3
    have hp3 := fprint_any A3 c3 Y w3 (HE.out.later HB3.out) hN3
    rw [K3.out, K4.out, errV_zero] at hp3
    clear hb3 hN3 hx2
    go_wp2_with fail
    refine hp3.mono ?_
    rintro e w4 ⟨rfl, hb4⟩
    have HB4 := hid_of (onB HB3.out hb4)
    have HN4 := hid_of (HN3.out.later hb4)
    have hv4 := value_any A cap l An cn N Ac cc C w4 (HL.out.later HB4.out) (HN.out.later HB4.out) (HC.out.later HB4.out)
    rw [HR.out, VE.out, errV_zero] at hv4
    clear hb4 hp3
    go_wp2_with fail
    refine hv4.mono ?_
    rintro e w5 ⟨rfl, hb5⟩
    have HB5 := hid_of (onB HB4.out hb5)
    obtain ⟨V5, hV5⟩ : ∃ V5, w5.alloc (.cells #[.int .i64 R.1, .int .i64 R.2] 38) = V5 := ⟨_, rfl⟩
    have hb5' : Below w5.heap.size w5 V5 := by rw [← hV5]; exact (Below.refl _ _).alloc (Nat.le_refl _) _
    have g5 : V5.heap[w5.heap.size]? = some (.cells #[.int .i64 R.1, .int .i64 R.2] 38 (0, 0)) := by rw [← hV5]; exact heap_alloc_new _ _
    have HV5 := hid_of (onB HB5.out hb5')
    have G5 := hid_of g5
    have hv6 := value_any A3 c3 Y An cn N Ac cc C V5 (HN4.out.later (onB hb5 hb5')) (HN.out.later HV5.out) (HC.out.later HV5.out)
    rw [J2.out, HR.out, J1.out, VE.out, errV_zero] at hv6
    clear hb5 hv4 hb5' g5
    go_wp2_with fail
    refine hv6.mono ?_
    rintro e w6 ⟨rfl, hb6⟩
    have HB6 := hid_of (onB HV5.out hb6)
    have hg6 := (hb6.block w5.heap.size (Array.getElem?_eq_some_iff.1 G5.out).1).trans G5.out
    clear hb6 hv6 hV5
    obtain ⟨V6, hV6⟩ : ∃ V6, w6.alloc (.cells #[.int .i64 R.1, .int .i64 R.2] 38) = V6 := ⟨_, rfl⟩
    have HV6 : Hid (Below w.heap.size w V6) := by rw [← hV6]; exact HB6.out.alloc HB6.out.size _
    have hg7 : V6.heap[w5.heap.size]? = some (.cells #[.int .i64 R.1, .int .i64 R.2] 38 (0, 0)) := by rw [← hV6, heap_alloc_old _ _ (Array.getElem?_eq_some_iff.1 hg6).1]; exact hg6
    have hg8 : V6.heap[w6.heap.size]? = some (.cells #[.int .i64 R.1, .int .i64 R.2] 38 (0, 0)) := by rw [← hV6]; exact heap_alloc_new _ _
    have u0 : V6.cell? ⟨w5.heap.size, 0, none⟩ = some (.int .i64 R.1) := by simp [World.cell?, hg7]
    have u1 : V6.cell? ⟨w5.heap.size, 1, none⟩ = some (.int .i64 R.2) := by simp [World.cell?, hg7]
    have u2 : V6.cell? ⟨w6.heap.size, 0, none⟩ = some (.int .i64 R.1) := by simp [World.cell?, hg8]
    have u3 : V6.cell? ⟨w6.heap.size, 1, none⟩ = some (.int .i64 R.2) := by simp [World.cell?, hg8]
    clear hg6 hg7 hg8
    go_wp2_with fail
    go_quiet (fail)
    obtain ⟨V7, hV7⟩ : ∃ V7, V6.drewN nq = V7 := ⟨_, rfl⟩
    have HV7 : Hid (Below w.heap.size w V7) := by rw [← hV7]; exact below_drewN HV6.out _
    rw [hV7]
    clear hV7 u0 u1 u2 u3 hV6
    by_cases hse : prsE s = 0
    · obtain ⟨q1, q2⟩ := HSh.out hse
      have hps := HPS.out V7
      rw [hse, errV_zero] at hps
      have HQ2 := hid_of q2
      obtain ⟨X, hX⟩ : ∃ X, prsL s = X := ⟨_, rfl⟩
      obtain ⟨at0, hat0⟩ : ∃ a, (prsA s : Int) = a := ⟨_, rfl⟩
      rw [hX] at hps q1 HQ2
      rw [hat0] at hps
      obtain ⟨u, hu⟩ : ∃ u, printT X = u := ⟨_, rfl⟩
      have HU := hid_of hu
      rw [hu] at q1
      have q3 : (u.size : Int) ≤ (s.size : Int) := by omega
      clear hX hat0 hse q2 hu q1
      go_wp2_with fail
      refine hps.mono ?_
      rintro e wp ⟨⟨Ax, cx, rfl, hNx⟩, hbx⟩
      have HBx := hid_of (onB HV7.out hbx)
      have HNx := hid_of hNx
      have hpu := fprint_any Ax cx X wp (HE.out.later HBx.out) hNx
      rw [HQ2.out, HU.out, errV_zero] at hpu
      clear hbx hNx hps
      go_wp2_with fail
      refine hpu.mono ?_
      rintro e wq ⟨rfl, hbq⟩
      have HBq := hid_of (onB HBx.out hbq)
      have hcu := fchk_any Ax cx X wq (HNx.out.later hbq)
      rw [HQ2.out, errV_zero] at hcu
      clear hbq hpu
      go_wp2_with fail
      refine hcu.mono ?_
      rintro e wz ⟨rfl, hbz⟩
      have HBz := hid_of (onB HBq.out hbz)
      clear hbz hcu
      go_wp2_with fail
      go_ret
      exact ⟨rfl, HBz.out⟩
    · have hps := HPS.out V7
      rw [errV_some hse] at hps
      clear hse
      go_wp2_with fail
      refine hps.mono ?_
      rintro e wp ⟨⟨Ax, cx, rfl, hNx⟩, hbx⟩
      have HBx := hid_of (onB HV7.out hbx)
      clear hbx hNx hps
      go_wp2_with fail
      go_ret
      exact ⟨rfl, HBx.out⟩
  · go_enter Tryz.func4, Tryz.ntmps4
    go_wp2_with fail
    refine hp0.mono ?_
    rintro e w1 ⟨⟨A1, c1, rfl, hN1⟩, hb1⟩
    have HB1 : Hid (Below w.heap.size w w1) := hb1
    obtain ⟨-, -, h0 | ⟨bb, oo, rfl, hNA⟩⟩ := hN1
    · have h5 := fact_len; unfold factS at h5; rw [h0] at h5; cases h5
    obtain ⟨y3, -⟩ := hNA.nd (k := 3) (by have h5 := fact_len; unfold factS at h5; rw [h5]; decide)
    obtain ⟨y4, -⟩ := hNA.nd (k := 4) (by have h5 := fact_len; unfold factS at h5; rw [h5]; decide)
    have f3 := fact_3
    have f4 := fact_4
    unfold factS at f3 f4
    rw [f3] at y3
    rw [f4] at y4
    clear hb1 hp0 hNA f3 f4
    have hpt := fprint_any A cap l w1 (HE.out.later HB1.out) (HL.out.later HB1.out)
    rw [h0, errV_zero] at hpt
    go_wp2_with fail
    refine hpt.mono ?_
    rintro e w2 ⟨rfl, hb2⟩
    have HB2 := hid_of (onB HB1.out hb2)
    clear hb2 hpt
    obtain ⟨k1, k2, k3, k4⟩ := back_print h0 hbig
    obtain ⟨j1, j2⟩ := back_val h0 hbig N C
    have hx2 := fparse_any (printT l) w2 (by omega)
    rw [k1, errV_zero] at hx2
    obtain ⟨Y, hY⟩ : ∃ Y, prsL (printT l) = Y := ⟨_, rfl⟩
    rw [hY] at hx2 k3 k4 j1 j2
    obtain ⟨T, hT⟩ : ∃ T, printT l = T := ⟨_, rfl⟩
    rw [hT] at hx2 k4 hbig ⊢
    obtain ⟨at1, hat1⟩ : ∃ a, (prsA T : Int) = a := ⟨_, rfl⟩
    rw [hat1] at hx2
    have K3 := hid_of k3
    have K4 := hid_of k4
    have J1 := hid_of j1
    have J2 := hid_of j2
    obtain ⟨er, her⟩ : ∃ er, errV (valE l N C) = er := ⟨_, rfl⟩
    have VE := hid_of her
    have hen : er = .iface 52 (.int .i64 (valE l N C)) := by rw [← her, errV_some hve]
    rw [hen] at VE
    obtain ⟨ve, hvn⟩ : ∃ ve, valE l N C = ve := ⟨_, rfl⟩
    rw [hvn] at VE
    have HVN := hid_of hvn
    clear her hen hvn
    have hTs : (T.size : Int) ≤ 100 := by omega
    obtain ⟨R, hR⟩ : ∃ R, valC l N C = R := ⟨_, rfl⟩
    have HR := hid_of hR
    clear k1 k2 k3 k4 j1 j2 hY hT hat1 hve h0 hR
    go_wp2_with fail
    refine hx2.mono ?_
    rintro e w3 ⟨⟨A3, c3, rfl, hN3⟩, hb3⟩
    have HB3 := hid_of (onB HB2.out hb3)
    have HN3 := hid_of hN3
    have hp3 := fprint_any A3 c3 Y w3 (HE.out.later HB3.out) hN3
    rw [K3.out, K4.out, errV_zero] at hp3
    clear hb3 hN3 hx2
    go_wp2_with fail
    refine hp3.mono ?_
    rintro e w4 ⟨rfl, hb4⟩
    have HB4 := hid_of (onB HB3.out hb4)
    have HN4 := hid_of (HN3.out.later hb4)
    have hv4 := value_any A cap l An cn N Ac cc C w4 (HL.out.later HB4.out) (HN.out.later HB4.out) (HC.out.later HB4.out)
    rw [HR.out, HVN.out, VE.out] at hv4
    clear hb4 hp3
    go_wp2_with fail
    refine hv4.mono ?_
    rintro e w5 ⟨rfl, hb5⟩
    have HB5 := hid_of (onB HB4.out hb5)
    obtain ⟨V5, hV5⟩ : ∃ V5, w5.alloc (.cells #[.int .i64 R.1, .int .i64 R.2] 38) = V5 := ⟨_, rfl⟩
    have hb5' : Below w5.heap.size w5 V5 := by rw [← hV5]; exact (Below.refl _ _).alloc (Nat.le_refl _) _
    have g5 : V5.heap[w5.heap.size]? = some (.cells #[.int .i64 R.1, .int .i64 R.2] 38 (0, 0)) := by rw [← hV5]; exact heap_alloc_new _ _
    have HV5 := hid_of (onB HB5.out hb5')
    have G5 := hid_of g5
    have hv6 := value_any A3 c3 Y An cn N Ac cc C V5 (HN4.out.later (onB hb5 hb5')) (HN.out.later HV5.out) (HC.out.later HV5.out)
    rw [J2.out, HR.out, J1.out, HVN.out, VE.out] at hv6
    clear hb5 hv4 hb5' g5
    go_wp2_with fail
    refine hv6.mono ?_
    rintro e w6 ⟨rfl, hb6⟩
    have HB6 := hid_of (onB HV5.out hb6)
    have hg6 := (hb6.block w5.heap.size (Array.getElem?_eq_some_iff.1 G5.out).1).trans G5.out
    clear hb6 hv6 hV5
    obtain ⟨V6, hV6⟩ : ∃ V6, w6.alloc (.cells #[.int .i64 R.1, .int .i64 R.2] 38) = V6 := ⟨_, rfl⟩
    have HV6 : Hid (Below w.heap.size w V6) := by rw [← hV6]; exact HB6.out.alloc HB6.out.size _
    have hg7 : V6.heap[w5.heap.size]? = some (.cells #[.int .i64 R.1, .int .i64 R.2] 38 (0, 0)) := by rw [← hV6, heap_alloc_old _ _ (Array.getElem?_eq_some_iff.1 hg6).1]; exact hg6
    have hg8 : V6.heap[w6.heap.size]? = some (.cells #[.int .i64 R.1, .int .i64 R.2] 38 (0, 0)) := by rw [← hV6]; exact heap_alloc_new _ _
    have u0 : V6.cell? ⟨w5.heap.size, 0, none⟩ = some (.int .i64 R.1) := by simp [World.cell?, hg7]
    have u1 : V6.cell? ⟨w5.heap.size, 1, none⟩ = some (.int .i64 R.2) := by simp [World.cell?, hg7]
    have u2 : V6.cell? ⟨w6.heap.size, 0, none⟩ = some (.int .i64 R.1) := by simp [World.cell?, hg8]
    have u3 : V6.cell? ⟨w6.heap.size, 1, none⟩ = some (.int .i64 R.2) := by simp [World.cell?, hg8]
    clear hg6 hg7 hg8
    go_wp2_with fail
    go_quiet (fail)
    obtain ⟨V7, hV7⟩ : ∃ V7, V6.drewN nq = V7 := ⟨_, rfl⟩
    have HV7 : Hid (Below w.heap.size w V7) := by rw [← hV7]; exact below_drewN HV6.out _
    rw [hV7]
    clear hV7 u0 u1 u2 u3 hV6
    by_cases hse : prsE s = 0
    · obtain ⟨q1, q2⟩ := HSh.out hse
      have hps := HPS.out V7
      rw [hse, errV_zero] at hps
      have HQ2 := hid_of q2
      obtain ⟨X, hX⟩ : ∃ X, prsL s = X := ⟨_, rfl⟩
      obtain ⟨at0, hat0⟩ : ∃ a, (prsA s : Int) = a := ⟨_, rfl⟩
      rw [hX] at hps q1 HQ2
      rw [hat0] at hps
      obtain ⟨u, hu⟩ : ∃ u, printT X = u := ⟨_, rfl⟩
      have HU := hid_of hu
      rw [hu] at q1
      have q3 : (u.size : Int) ≤ (s.size : Int) := by omega
      clear hX hat0 hse q2 hu q1
      go_wp2_with fail
      refine hps.mono ?_
      rintro e wp ⟨⟨Ax, cx, rfl, hNx⟩, hbx⟩
      have HBx := hid_of (onB HV7.out hbx)
      have HNx := hid_of hNx
      have hpu := fprint_any Ax cx X wp (HE.out.later HBx.out) hNx
      rw [HQ2.out, HU.out, errV_zero] at hpu
      clear hbx hNx hps
      go_wp2_with fail
      refine hpu.mono ?_
      rintro e wq ⟨rfl, hbq⟩
      have HBq := hid_of (onB HBx.out hbq)
      have hcu := fchk_any Ax cx X wq (HNx.out.later hbq)
      rw [HQ2.out, errV_zero] at hcu
      clear hbq hpu
      go_wp2_with fail
      refine hcu.mono ?_
      rintro e wz ⟨rfl, hbz⟩
      have HBz := hid_of (onB HBq.out hbz)
      clear hbz hcu
      go_wp2_with fail
      go_ret
      exact ⟨rfl, HBz.out⟩
    · have hps := HPS.out V7
      rw [errV_some hse] at hps
      clear hse
      go_wp2_with fail
      refine hps.mono ?_
      rintro e wp ⟨⟨Ax, cx, rfl, hNx⟩, hbx⟩
      have HBx := hid_of (onB HV7.out hbx)
      clear hbx hNx hps
      go_wp2_with fail
      go_ret
      exact ⟨rfl, HBx.out⟩
end Go.Proofs.YtklfenojapgmnaeGreatDoor
