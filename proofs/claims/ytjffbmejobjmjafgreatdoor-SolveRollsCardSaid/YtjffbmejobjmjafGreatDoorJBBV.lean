/-
 Without formulas what is told at a place is what all its parts come to, on plain data: whichever dim tells it.
 A cube of one dim, of two members, of whom the first has a formula: what is told there (closed facts); an outline without its formulas.
 Members and dims laid one by one in rows of a call's own: how an outline without its formulas lies in memory while it is built.
 One dim more in an outline that is built, one member more in a dim: what lies in memory before stays.
-/
import Derived.Test.YtjffbmejobjmjafGreatDoorJBBS
import Derived.Test.YtjffbmejobjmjafGreatDoorJBBL
import Derived.Test.YtjffbmejobjmjafGreatDoorJBBT
import Derived.Test.YtjffbmejobjmjafGreatDoorJBBU
import Derived.Test.YtjffbmejobjmjafGreatDoorJBAG
namespace Go.Proofs.YtjffbmejobjmjafGreatDoor
set_option maxRecDepth 20000

section
variable {D : Nat → Dm} {n : Nat} {l : List En}
theorem gV_none (hE : Ens D n l) {p : List Int} (hp : InO D n p) : gV D n (fun _ => false) l p = getE l p := by
 obtain ⟨x, -, hx, rfl⟩ := num_lt hp
 have h := wr_at hE hx
 rw [wr_gL hE] at h
 have h2 := gL_at (D := D) (n := n) (S := fun _ => false) (l := l) hx
 exact h2.symm.trans h
theorem roll_leaf (hE : Ens D n l) {p : List Int} (hp : InO D n p) (hno : ∀ i, i < n → partsOf (D i).mem (D i).n (p.getD i 0) = []) : rollV D n l p = getE l p := by
 have hall : ∀ k, k ≤ n → gV D n (fun j => decide (j < k)) l p = gV D n (fun _ => false) l p := by
  intro k
  induction k with
  | zero => intro _; exact gV_congr fun e _ => gw_congr n fun j _ => by unfold facS; simp
  | succ k ih =>
   intro hk
   rw [← ih (by omega)]
   have h0 := hp.lo k (by omega)
   have h1 := hp.hi k (by omega)
   refine gV_congr fun e he => ?_
   rw [← gw_bare hE (show k < n by omega) (S := fun j => decide (j < k)) (by simp) he (m := (p.getD k 0).toNat) (by omega) (by omega) (by rw [Int.toNat_of_nonneg h0]; exact hno k (by omega))]
   refine gw_congr n fun j _ => ?_
   have : decide (j < k + 1) = addS (fun j => decide (j < k)) k j := by
    unfold addS
    rw [Bool.eq_iff_iff]
    simp
    omega
   unfold facS
   simp only [this]
 rw [← gV_all (S := fun j => decide (j < n)) (fun j hj => decide_eq_true hj), hall n (Nat.le_refl _), gV_none hE hp]
theorem roll_parts (hE : Ens D n l) {p : List Int} (hp : InO D n p) {b : Nat} (hb : b < n) (hP : partsOf (D b).mem (D b).n (p.getD b 0) ≠ []) : rollV D n l p = partsV (D b).mem (fun z => rollV D n l (p.set b z)) (partsOf (D b).mem (D b).n (p.getD b 0)) := by
 obtain ⟨x, -, hx, rfl⟩ := num_lt hp
 have h0 := hp.lo b hb
 have hdg := digit_at (D := D) (n := n) (x := x) hb
 obtain ⟨m, hm⟩ : ∃ m, x / stepD D n b % (D b).n = m := ⟨_, rfl⟩
 have hpm : (placeL D n x).getD b 0 = (m : Int) := by omega
 rw [hpm] at hP ⊢
 have hfix := gL_fix hE hb (S := fun _ => true) (m := m) x (by rw [gL_len]; exact hx) hm hP
 have hS : ∀ j, j < n → addS (fun _ => true) b j = true := fun j _ => by simp [addS]
 rw [gL_at hx, gV_all hS] at hfix
 rw [hfix]
 refine parts_same _ _ fun k hk => ?_
 obtain ⟨j, rfl, hj, -⟩ := selTo_mem k hk
 obtain ⟨y, h1, h2, h3⟩ := set_num hE.right hb hx hj
 rw [hm] at h1
 unfold atP cAt
 rw [h1, Int.toNat_natCast, gL_at h2, gV_all hS, h3]
theorem sol_roll (hE : Ens D n l) (hR : AllR D n) (hf : ∀ i, i < n → ∀ k, k < (D i).n → ((D i).mem k).formula.size = 0) : ∀ (m : Nat) (p : List Int), InO D n p → msrTo D p n < m → solV D n (getE l) p = rollV D n l p := by
 intro m
 induction m with
 | zero => intro p _ h; omega
 | succ m ih =>
  intro p hp hm
  rcases by_in D p n with h | ⟨b, h1, h2⟩
  ·rw [sol_leaf _ (by omega), roll_leaf hE hp]
   intro i hi
   have hb : ∀ k, byTo D p k = -1 → ∀ j, j < k → leafB (D j).mem (D j).n (p.getD j 0).toNat = true := by
    intro k
    induction k with
    | zero => intro _ j hj; omega
    | succ k ihk =>
     intro he j hj
     unfold byTo at he
     split at he
     ·omega
     ·rename_i hc
      by_cases e : j = k
      ·subst e
       cases hl : leafB (D j).mem (D j).n (p.getD j 0).toNat with
       | true => rfl
       | false => exact absurd ⟨hl, Or.inl (by omega)⟩ hc
      ·exact ihk he j (by omega)
   have hl := hb n h i hi
   have h0 := hp.lo i hi
   unfold leafB at hl
   rw [Bool.and_eq_true] at hl
   have h3 : ¬ 0 ≤ findFrom (partB (D i).mem ((p.getD i 0).toNat : Int)) (D i).n 0 := by simpa using hl.2
   rw [Int.toNat_of_nonneg h0] at h3
   refine List.eq_nil_iff_forall_not_mem.2 fun z hz => h3 ?_
   obtain ⟨q, rfl, hq, hq2⟩ := selTo_mem z hz
   rcases findFrom_cases (partB (D i).mem (p.getD i 0)) (D i).n 0 with ⟨h4, h5⟩ | ⟨q2, h4, -⟩
   ·have := h5 q (Nat.zero_le _) (by omega)
    rw [hq2] at this
    cases this
   ·omega
  ·rw [sol_by hR (getE l) hp h1]
   have hp0 := hp.lo b h2
   have hp1 := hp.hi b h2
   have hlf : leafB (D b).mem (D b).n (p.getD b 0).toNat = false := by
    have hb : ∀ k, byTo D p k = (b : Int) → leafB (D b).mem (D b).n (p.getD b 0).toNat = false := by
     intro k
     induction k with
     | zero => intro he; unfold byTo at he; omega
     | succ k ihk =>
      intro he
      unfold byTo at he
      split at he
      ·rename_i hc
       have : k = b := by omega
       subst this
       exact hc.1
      ·exact ihk he
    exact hb n h1
   have hfz := hf b h2 (p.getD b 0).toNat (by omega)
   have hP : partsOf (D b).mem (D b).n (p.getD b 0) ≠ [] := by
    intro he
    unfold leafB at hlf
    rw [decide_eq_true hfz, Bool.true_and] at hlf
    have h3 : 0 ≤ findFrom (partB (D b).mem ((p.getD b 0).toNat : Int)) (D b).n 0 := by simpa using hlf
    rw [Int.toNat_of_nonneg hp0] at h3
    rcases findFrom_cases (partB (D b).mem (p.getD b 0)) (D b).n 0 with ⟨h4, -⟩ | ⟨q2, h4, h5, h6, h7, h8⟩
    ·omega
    ·have := sel_in (p := partB (D b).mem (p.getD b 0)) h6 h7
     rw [Nat.zero_add, show selTo (partB (D b).mem (p.getD b 0)) (D b).n = [] from he] at this
     cases this
   rw [roll_parts hE hp h2 hP]
   have e2 : partsV (D b).mem (fun z => rollV D n l (p.set b z)) (partsOf (D b).mem (D b).n (p.getD b 0)) = oneV (D b) (fun z => rollV D n l (p.set b z)) (p.getD b 0).toNat := by
    unfold oneV partsV
    rw [if_pos hfz, Int.toNat_of_nonneg hp0]
   rw [e2, ← parts_value hfz, ← parts_value hfz]
   unfold partsV
   refine parts_same _ _ fun z hz => ?_
   have hxi := mNd_in hz
   have hrk := rk_less (hR b h2) (i := (p.getD b 0).toNat) (by omega) hz
   rw [Int.toNat_of_nonneg hp0] at hrk
   have hms := (msr_less (by rw [hp.len]; exact h2) hrk n).2 h2
   exact ih _ (inO_set hp h2 hxi.1 hxi.2) (by omega)
end
end Go.Proofs.YtjffbmejobjmjafGreatDoor

namespace Go.Proofs.YtjffbmejobjmjafGreatDoor
open Go.ChangeShapes Go.WideShapes Go.ChangeAt Go.RowKit
set_option maxRecDepth 20000

def tmA : Mem := ⟨⟨#[98]⟩, -1, 0, ⟨#[99, 42, 50]⟩⟩
def tmB : Mem := ⟨⟨#[99]⟩, -1, 0, ⟨#[]⟩⟩
def twoM (i : Nat) : Mem := if i = 0 then tmA else tmB
def twoDm : Dm := ⟨⟨#[97]⟩, 0, 2, twoM⟩
def twoD : Nat → Dm := fun _ => twoDm
def twoE : List En := [⟨[1], 7⟩]
theorem two_dim : dimErr twoDm = (-1, 0) := by decide +kernel
theorem two_m0 : mErr twoDm 0 = 0 := by decide +kernel
theorem two_m1 : mErr twoDm 1 = 0 := by decide +kernel
theorem two_nd : ndL twoDm = [[1], []] := by decide +kernel
theorem two_err : rErr twoDm = (-1, 0) := re3 (by rw [two_dim]) (fun j hj => by
 have hj2 : j < 2 := hj
 rcases j with _ | _ | j
 ·exact two_m0
 ·exact two_m1
 ·omega) fun j _ => by rw [two_nd, ← one_nd]; exact one_acyc j
theorem two_all : (allErr twoD 1).2.2 = 0 := by decide +kernel
theorem two_ru : (ruErr twoD 1).2.2 = 0 := ru_zero two_all fun i _ => by show (rErr twoDm).2 = 0; rw [two_err]
theorem two_ents : entsErr twoD 1 twoE = 0 := by decide +kernel
theorem two_place : placeErr twoD 1 [0] = 0 := by decide +kernel
theorem two_so : soErr twoD 1 twoE [0] = 0 := by
 have h : cuErr twoD 1 twoE = 0 := by unfold cuErr; rw [two_ru, if_neg (by simp), two_ents]
 unfold soErr
 rw [h, if_neg (by simp), two_place]
theorem two_by0 : byTo twoD [0] 1 = 0 := by decide +kernel
theorem two_by1 : byTo twoD [1] 1 = -1 := by decide +kernel
theorem two_get : getE twoE [1] = (1, 7) := by decide +kernel
theorem two_tre : treF twoDm 0 = .bin 5 (.ref ⟨#[99]⟩) (.num 2) := by kernel_rfl
theorem two_wh : whL twoDm [99] = 1 := by decide +kernel
theorem two_val : soV twoD 1 twoE [0] = (1, 14) := by
 have hR : AllR twoD 1 := (ru_right two_ru).2
 have hp := inO_of two_place
 unfold soV
 rw [if_pos two_so, sol_by hR (getE twoE) hp (b := 0) (by rw [two_by0]; rfl)]
 show oneV twoDm (fun x => solV twoD 1 (getE twoE) ([0].set 0 x)) 0 = (1, 14)
 unfold oneV
 rw [if_neg (by decide), two_tre]
 have h1 : solV twoD 1 (getE twoE) [1] = (1, 7) := by rw [sol_leaf _ (by rw [two_by1]; decide), two_get]
 show opP 5 (solV twoD 1 (getE twoE) ([0].set 0 (whL twoDm [99]))) (ofP 2) = (1, 14)
 rw [two_wh]
 show opP 5 (solV twoD 1 (getE twoE) [1]) (ofP 2) = (1, 14)
 rw [h1]
 decide

def bareM (m : Mem) : Mem := ⟨m.name, m.parent, m.sign, ⟨#[]⟩⟩
def slv (D : Nat → Dm) (L : List Int) (i : Nat) : Int := if i < L.length then L.getD i 0 else (D i).solve
def bareO (D : Nat → Dm) (L : List Int) (i : Nat) : Dm := ⟨(D i).name, slv D L i, (D i).n, fun k => bareM ((D i).mem k)⟩
theorem bare_form (D : Nat → Dm) (L : List Int) (i k : Nat) : ((bareO D L i).mem k).formula.size = 0 := rfl
theorem bare_roll {D : Nat → Dm} {L : List Int} {n : Nat} {l : List En} {p : List Int} (h : soErr (bareO D L) n l p = 0) : Ens (bareO D L) n l ∧ InO (bareO D L) n p ∧ soV (bareO D L) n l p = rollV (bareO D L) n l p := by
 have h1 : cuErr (bareO D L) n l = 0 := by
  by_cases h2 : cuErr (bareO D L) n l = 0
  ·exact h2
  ·unfold soErr at h; rw [if_pos h2] at h; exact absurd h h2
 have h3 : placeErr (bareO D L) n p = 0 := by unfold soErr at h; rw [h1, if_neg (by simp)] at h; exact h
 have h4 : (ruErr (bareO D L) n).2.2 = 0 := by
  by_cases h2 : (ruErr (bareO D L) n).2.2 = 0
  ·exact h2
  ·unfold cuErr at h1; rw [if_pos h2] at h1; exact absurd h1 h2
 have h5 : entsErr (bareO D L) n l = 0 := by unfold cuErr at h1; rw [h4, if_neg (by simp)] at h1; exact h1
 have hE := ens_of h5
 have hp := inO_of h3
 refine ⟨hE, hp, ?_⟩
 unfold soV
 rw [if_pos h]
 exact sol_roll hE (ru_right h4).2 (fun i _ k _ => bare_form D L i k) _ p hp (Nat.lt_succ_self _)
end Go.Proofs.YtjffbmejobjmjafGreatDoor

namespace Go.Proofs.YtjffbmejobjmjafGreatDoor
open Go.ChangeShapes Go.WideShapes Go.ChangeAt Go.RowKit
set_option maxRecDepth 20000

def MemT (w : World) (A : Option Addr) (c n : Nat) (M : Nat → Mem) : Prop := n ≤ c ∧ (n = 0 ∨ ∃ b cs fr, A = some ⟨b, 0, none⟩ ∧ w.heap[b]? = some (.cells cs 26 fr) ∧ MemsAt w b 0 n M)
theorem MemT.toV {w : World} {A : Option Addr} {c n : Nat} {M : Nat → Mem} (h : MemT w A c n M) : MemsV w A c n M := by
 obtain ⟨h1, h2 | ⟨b, cs, fr, h2, -, h3⟩⟩ := h
 ·exact ⟨h1, Or.inl h2⟩
 ·exact ⟨h1, Or.inr ⟨b, 0, h2, h3⟩⟩
theorem MemT.keep {w w' : World} {A : Option Addr} {c n : Nat} {M : Nat → Mem} (h : MemT w A c n M) (hB : ∀ (b : Nat) (cs : Array Value) (fr : Nat × Nat), w.heap[b]? = some (Obj.cells cs 26 fr) → w'.heap[b]? = w.heap[b]?) : MemT w' A c n M := by
 obtain ⟨h1, h2 | ⟨b, cs, fr, h2, h3, h4⟩⟩ := h
 ·exact ⟨h1, Or.inl h2⟩
 ·have he := hB b cs fr h3
  refine ⟨h1, Or.inr ⟨b, cs, fr, h2, he.trans h3, (Array.getElem?_eq_some_iff.1 (he.trans h3)).1, fun i hi => ?_⟩⟩
  obtain ⟨x0, x1, x2, x3⟩ := h4.2 i hi
  exact ⟨(World.cell?_of_block (a := ⟨b, _, none⟩) he).trans x0, (World.cell?_of_block (a := ⟨b, _, none⟩) he).trans x1, (World.cell?_of_block (a := ⟨b, _, none⟩) he).trans x2, (World.cell?_of_block (a := ⟨b, _, none⟩) he).trans x3⟩
def cellsMb (M : Nat → Mem) : Nat → List Value
 | 0 => []
 | k + 1 => cellsMb M k ++ [.string (M k).name, .int .i64 (M k).parent, .int .i64 (M k).sign, .string (M k).formula]
theorem cellsMb_len (M : Nat → Mem) : ∀ k, (cellsMb M k).length = k * 4
 | 0 => rfl
 | k + 1 => by rw [cellsMb, List.length_append, cellsMb_len M k]; simp; omega
theorem cellsMb_at (M : Nat → Mem) (n : Nat) : ∀ k, k < n → (cellsMb M n)[k * 4]? = some (.string (M k).name) ∧ (cellsMb M n)[k * 4 + 1]? = some (.int .i64 (M k).parent) ∧ (cellsMb M n)[k * 4 + 2]? = some (.int .i64 (M k).sign) ∧ (cellsMb M n)[k * 4 + 3]? = some (.string (M k).formula) := by
 induction n with
 | zero => intro k h; omega
 | succ n ih =>
  intro k hk
  rw [cellsMb]
  have hl := cellsMb_len M n
  by_cases h : k = n
  ·subst h
   refine ⟨?_, ?_, ?_, ?_⟩ <;> rw [List.getElem?_append_right (by omega), hl]
   ·rw [Nat.sub_self]; rfl
   ·rw [show k * 4 + 1 - k * 4 = 1 by omega]; rfl
   ·rw [show k * 4 + 2 - k * 4 = 2 by omega]; rfl
   ·rw [show k * 4 + 3 - k * 4 = 3 by omega]; rfl
  ·have := ih k (by omega)
   refine ⟨?_, ?_, ?_, ?_⟩ <;> rw [List.getElem?_append_left (by omega)]
   ·exact this.1
   ·exact this.2.1
   ·exact this.2.2.1
   ·exact this.2.2.2
theorem memT_own {w : World} {base n : Nat} {v : Value} {M : Nat → Mem} (h : w.ownsRow base 26 4 v n (cellsMb M n)) : ∃ A c, v = .slice A n c ∧ MemT w A c n M := by
 rcases h.2 with ⟨rfl, h0⟩ | ⟨g, cap, cur, rfl, hb, hg, h4, h5, h6, h7⟩
 ·subst h0
  exact ⟨none, 0, rfl, Nat.le_refl _, Or.inl rfl⟩
 ·refine ⟨_, cap, rfl, h4, Or.inr ⟨g, cur, _, rfl, hg, (Array.getElem?_eq_some_iff.1 hg).1, fun k hk => ?_⟩⟩
  obtain ⟨x0, x1, x2, x3⟩ := cellsMb_at M n k hk
  rw [← h7, List.getElem?_take, if_pos (by omega), Array.getElem?_toList] at x0 x1 x2 x3
  rw [Nat.zero_add]
  exact ⟨by simp [World.cell?, hg, x0], by simp [World.cell?, hg, x1], by simp [World.cell?, hg, x2], by simp [World.cell?, hg, x3]⟩
def cellsDo (D : Nat → Dm) (A : Nat → Option Addr) (C : Nat → Nat) : Nat → List Value
 | 0 => []
 | k + 1 => cellsDo D A C k ++ [.string (D k).name, .int .i64 (D k).solve, .slice (A k) (D k).n (C k)]
theorem cellsDo_len (D : Nat → Dm) (A : Nat → Option Addr) (C : Nat → Nat) : ∀ k, (cellsDo D A C k).length = k * 3
 | 0 => rfl
 | k + 1 => by rw [cellsDo, List.length_append, cellsDo_len D A C k]; simp; omega
theorem cellsDo_same {D : Nat → Dm} {A A' : Nat → Option Addr} {C C' : Nat → Nat} : ∀ k, (∀ i, i < k → A i = A' i ∧ C i = C' i) → cellsDo D A C k = cellsDo D A' C' k
 | 0, _ => rfl
 | k + 1, h => by rw [cellsDo, cellsDo, cellsDo_same k fun i hi => h i (by omega), (h k (by omega)).1, (h k (by omega)).2]
theorem cellsDo_at (D : Nat → Dm) (A : Nat → Option Addr) (C : Nat → Nat) (n : Nat) : ∀ k, k < n → (cellsDo D A C n)[k * 3]? = some (.string (D k).name) ∧ (cellsDo D A C n)[k * 3 + 1]? = some (.int .i64 (D k).solve) ∧ (cellsDo D A C n)[k * 3 + 2]? = some (.slice (A k) (D k).n (C k)) := by
 induction n with
 | zero => intro k h; omega
 | succ n ih =>
  intro k hk
  rw [cellsDo]
  have hl := cellsDo_len D A C n
  by_cases h : k = n
  ·subst h
   refine ⟨?_, ?_, ?_⟩ <;> rw [List.getElem?_append_right (by omega), hl]
   ·rw [Nat.sub_self]; rfl
   ·rw [show k * 3 + 1 - k * 3 = 1 by omega]; rfl
   ·rw [show k * 3 + 2 - k * 3 = 2 by omega]; rfl
  ·have := ih k (by omega)
   refine ⟨?_, ?_, ?_⟩ <;> rw [List.getElem?_append_left (by omega)]
   ·exact this.1
   ·exact this.2.1
   ·exact this.2.2
theorem dims_own {w : World} {base n : Nat} {v : Value} {D : Nat → Dm} {A : Nat → Option Addr} {C : Nat → Nat} (h : w.ownsRow base 24 3 v n (cellsDo D A C n)) (hM : ∀ j, j < n → MemT w (A j) (C j) (D j).n (D j).mem) : ∃ A0 cap, v = .slice A0 n cap ∧ DimsV w A0 cap n D A C := by
 rcases h.2 with ⟨rfl, h0⟩ | ⟨g, cap, cur, rfl, hb, hg, h4, h5, h6, h7⟩
 ·subst h0
  exact ⟨none, 0, rfl, Nat.le_refl _, Or.inl rfl⟩
 ·refine ⟨_, cap, rfl, h4, Or.inr ⟨g, 0, rfl, (Array.getElem?_eq_some_iff.1 hg).1, fun k hk => ?_⟩⟩
  obtain ⟨x0, x1, x2⟩ := cellsDo_at D A C n k hk
  rw [← h7, List.getElem?_take, if_pos (by omega), Array.getElem?_toList] at x0 x1 x2
  rw [Nat.zero_add]
  exact ⟨by simp [World.cell?, hg, x0], by simp [World.cell?, hg, x1], by simp [World.cell?, hg, x2], (hM k hk).toV⟩
theorem Tryz.infoDimX : (Tryz.prog.info? 24).map (fun i => (i.zero, i.size, i.bytes)) = some (some (.agg #[.string ⟨#[]⟩, .int .i64 0, .slice none 0 0]), 3, 48) := by kernel_rfl
theorem Tryz.infoMemX : (Tryz.prog.info? 26).map (fun i => (i.zero, i.size, i.bytes)) = some (some (.agg #[.string ⟨#[]⟩, .int .i64 0, .int .i64 0, .string ⟨#[]⟩]), 4, 48) := by kernel_rfl

def XAt (qx base : Nat) (D : Nat → Dm) (A : Nat → Option Addr) (C : Nat → Nat) (i : Nat) (w : World) : Prop := (∃ A0 c, w.heap[qx]? = some (.cells #[.slice A0 i c] 42 (0, 0)) ∧ w.ownsRow base 24 3 (.slice A0 i c) i (cellsDo D A C i)) ∧ ∀ j, j < i → MemT w (A j) (C j) (D j).n (D j).mem
def InAt (qd base : Nat) (nm : ByteArray) (s : Int) (M : Nat → Mem) (k : Nat) (v0 w : World) : Prop := (∃ A c, w.heap[qd]? = some (.cells #[.string nm, .int .i64 s, .slice A k c] 24 (0, 0)) ∧ w.ownsRow base 26 4 (.slice A k c) k (cellsMb M k)) ∧ Kept v0.heap.size (fun b => b = qd) v0 w
def rolW (w : World) : World := (((((w.alloc (.cells #[.string ⟨#[98]⟩, .int .i64 (-1), .int .i64 0, .string ⟨#[99, 42, 50]⟩, .string ⟨#[99]⟩, .int .i64 (-1), .int .i64 0, .string ⟨#[]⟩] 26)).alloc (.cells #[.string ⟨#[97]⟩, .int .i64 0, .slice (some ⟨w.heap.size, 0, none⟩) 2 2] 24)).alloc (.cells #[.slice (some ⟨w.heap.size + 1, 0, none⟩) 1 1] 42)).alloc (.cells #[.int .i64 1] 3)).alloc (.cells #[.slice (some ⟨w.heap.size + 3, 0, none⟩) 1 1, .int .i64 7] 57)).alloc (.cells #[.int .i64 0] 3)
theorem rolW_below (w : World) : Below w.heap.size w (rolW w) := by unfold rolW; go_grown
theorem rolW_size (w : World) : (rolW w).heap.size = w.heap.size + 6 := by unfold rolW; simp
theorem rolW_dims (w : World) : DimsV (rolW w) (some ⟨w.heap.size + 1, 0, none⟩) 1 1 twoD (fun _ => some ⟨w.heap.size, 0, none⟩) (fun _ => 2) := by
 have hs := rolW_size w
 have k0 : (rolW w).heap[w.heap.size]? = some (.cells #[.string ⟨#[98]⟩, .int .i64 (-1), .int .i64 0, .string ⟨#[99, 42, 50]⟩, .string ⟨#[99]⟩, .int .i64 (-1), .int .i64 0, .string ⟨#[]⟩] 26 (0, 0)) := by
  unfold rolW
  rw [heap_alloc_old _ _ (by simp; omega), heap_alloc_old _ _ (by simp; omega), heap_alloc_old _ _ (by simp; omega), heap_alloc_old _ _ (by simp; omega), heap_alloc_old _ _ (by simp)]
  exact heap_alloc_new ..
 have k1 : (rolW w).heap[w.heap.size + 1]? = some (.cells #[.string ⟨#[97]⟩, .int .i64 0, .slice (some ⟨w.heap.size, 0, none⟩) 2 2] 24 (0, 0)) := by
  unfold rolW
  rw [heap_alloc_old _ _ (by simp), heap_alloc_old _ _ (by simp), heap_alloc_old _ _ (by simp), heap_alloc_old _ _ (by simp)]
  exact topF1 ..
 refine ⟨Nat.le_refl _, Or.inr ⟨w.heap.size + 1, 0, rfl, by omega, fun i hi => ?_⟩⟩
 have hi0 : i = 0 := by omega
 subst hi0
 refine ⟨by simp [World.cell?, k1, twoD, twoDm], by simp [World.cell?, k1, twoD, twoDm], by simp [World.cell?, k1, twoD, twoDm], Nat.le_refl _, Or.inr ⟨w.heap.size, 0, rfl, by omega, fun j hj => ?_⟩⟩
 have hj2 : j < 2 := hj
 rcases j with _ | _ | j
 ·exact ⟨by simp [World.cell?, k0] <;> rfl, by simp [World.cell?, k0] <;> rfl, by simp [World.cell?, k0] <;> rfl, by simp [World.cell?, k0] <;> rfl⟩
 ·exact ⟨by simp [World.cell?, k0] <;> rfl, by simp [World.cell?, k0] <;> rfl, by simp [World.cell?, k0] <;> rfl, by simp [World.cell?, k0] <;> rfl⟩
 ·omega
def rolX (w : World) : List EnL := [⟨⟨[1], 7⟩, some ⟨w.heap.size + 3, 0, none⟩, 1⟩]
theorem rolX_l (w : World) : lE (rolX w) = twoE := rfl
theorem rolW_ents (w : World) : EnsV (rolW w) (some ⟨w.heap.size + 4, 0, none⟩) 1 (rolX w) := by
 have hs := rolW_size w
 have k3 : (rolW w).heap[w.heap.size + 3]? = some (.cells #[.int .i64 1] 3 (0, 0)) := by
  unfold rolW
  rw [heap_alloc_old _ _ (by simp), heap_alloc_old _ _ (by simp)]
  have h := heap_alloc_new (((w.alloc (.cells #[.string ⟨#[98]⟩, .int .i64 (-1), .int .i64 0, .string ⟨#[99, 42, 50]⟩, .string ⟨#[99]⟩, .int .i64 (-1), .int .i64 0, .string ⟨#[]⟩] 26)).alloc (.cells #[.string ⟨#[97]⟩, .int .i64 0, .slice (some ⟨w.heap.size, 0, none⟩) 2 2] 24)).alloc (.cells #[.slice (some ⟨w.heap.size + 1, 0, none⟩) 1 1] 42)) (.cells #[.int .i64 1] 3)
  simpa using h
 have k4 : (rolW w).heap[w.heap.size + 4]? = some (.cells #[.slice (some ⟨w.heap.size + 3, 0, none⟩) 1 1, .int .i64 7] 57 (0, 0)) := by
  unfold rolW
  rw [heap_alloc_old _ _ (by simp)]
  have h := heap_alloc_new ((((w.alloc (.cells #[.string ⟨#[98]⟩, .int .i64 (-1), .int .i64 0, .string ⟨#[99, 42, 50]⟩, .string ⟨#[99]⟩, .int .i64 (-1), .int .i64 0, .string ⟨#[]⟩] 26)).alloc (.cells #[.string ⟨#[97]⟩, .int .i64 0, .slice (some ⟨w.heap.size, 0, none⟩) 2 2] 24)).alloc (.cells #[.slice (some ⟨w.heap.size + 1, 0, none⟩) 1 1] 42)).alloc (.cells #[.int .i64 1] 3)) (.cells #[.slice (some ⟨w.heap.size + 3, 0, none⟩) 1 1, .int .i64 7] 57)
  simpa using h
 refine ⟨Nat.le_refl _, by omega, Or.inr ⟨w.heap.size + 4, 0, rfl, by omega, fun j u hj => ?_, fun x hx => ?_⟩⟩
 ·have hj' : (#[Value.slice (some ⟨w.heap.size + 3, 0, none⟩) 1 1, .int .i64 7] : Array Value)[j]? = some u := by
   have : cellsE (rolX w) = [.slice (some ⟨w.heap.size + 3, 0, none⟩) 1 1, .int .i64 7] := rfl
   rw [this] at hj
   simpa using hj
  rw [Nat.zero_add, Lib.cell_of_heap k4]
  exact hj'
 ·rw [List.mem_singleton.1 hx]
  refine ⟨Nat.le_refl _, Or.inr ⟨w.heap.size + 3, 0, rfl, by omega, fun j hj => ?_⟩⟩
  have hj0 : j = 0 := by have : j < 1 := hj; omega
  subst hj0
  simp [World.cell?, k3]
theorem rolW_place (w : World) : PlAt (rolW w) (some ⟨w.heap.size + 5, 0, none⟩) 1 [0] := by
 have hs := rolW_size w
 have k5 : (rolW w).heap[w.heap.size + 5]? = some (.cells #[.int .i64 0] 3 (0, 0)) := by
  unfold rolW
  have h := heap_alloc_new (((((w.alloc (.cells #[.string ⟨#[98]⟩, .int .i64 (-1), .int .i64 0, .string ⟨#[99, 42, 50]⟩, .string ⟨#[99]⟩, .int .i64 (-1), .int .i64 0, .string ⟨#[]⟩] 26)).alloc (.cells #[.string ⟨#[97]⟩, .int .i64 0, .slice (some ⟨w.heap.size, 0, none⟩) 2 2] 24)).alloc (.cells #[.slice (some ⟨w.heap.size + 1, 0, none⟩) 1 1] 42)).alloc (.cells #[.int .i64 1] 3)).alloc (.cells #[.slice (some ⟨w.heap.size + 3, 0, none⟩) 1 1, .int .i64 7] 57)) (.cells #[.int .i64 0] 3)
  simpa using h
 refine ⟨Nat.le_refl _, Or.inr ⟨w.heap.size + 5, 0, rfl, by omega, fun j hj => ?_⟩⟩
 have hj0 : j = 0 := by have : j < 1 := hj; omega
 subst hj0
 simp [World.cell?, k5]
theorem rolW_out (w : World) : (rolW w).cell? ⟨w.heap.size + 2, 0, none⟩ = some (.slice (some ⟨w.heap.size + 1, 0, none⟩) 1 1) := by
 have k2 : (rolW w).heap[w.heap.size + 2]? = some (.cells #[.slice (some ⟨w.heap.size + 1, 0, none⟩) 1 1] 42 (0, 0)) := by
  unfold rolW
  rw [heap_alloc_old _ _ (by simp), heap_alloc_old _ _ (by simp), heap_alloc_old _ _ (by simp)]
  have h := heap_alloc_new ((w.alloc (.cells #[.string ⟨#[98]⟩, .int .i64 (-1), .int .i64 0, .string ⟨#[99, 42, 50]⟩, .string ⟨#[99]⟩, .int .i64 (-1), .int .i64 0, .string ⟨#[]⟩] 26)).alloc (.cells #[.string ⟨#[97]⟩, .int .i64 0, .slice (some ⟨w.heap.size, 0, none⟩) 2 2] 24)) (.cells #[.slice (some ⟨w.heap.size + 1, 0, none⟩) 1 1] 42)
  simpa using h
 simp [World.cell?, k2]
end Go.Proofs.YtjffbmejobjmjafGreatDoor

namespace Go.Proofs.YtjffbmejobjmjafGreatDoor
open Go.ChangeShapes Go.WideShapes Go.ChangeAt Go.RowKit
set_option maxRecDepth 20000

theorem memX_ne_dim : (26 : Nat) ≠ 24 := by decide
theorem memX_ne_out : (26 : Nat) ≠ 42 := by decide
theorem kept_low {N qd : Nat} {w v0 wi : World} (h : Below N w v0) (k : Kept v0.heap.size (fun b => b = qd) v0 wi) (h1 : N ≤ qd) (h2 : N ≤ v0.heap.size) : Below N w wi := ⟨k.os.trans h.os, k.tape.trans h.tape, k.output.trans h.output, Nat.le_trans h.size k.size, fun i hi => (k.block i (by omega) (by omega)).trans (h.block i hi)⟩
theorem XAt.same {qx base i : Nat} {D : Nat → Dm} {A : Nat → Option Addr} {C : Nat → Nat} {w w' : World} (h : XAt qx base D A C i w) (hs : ∀ b, b < w.heap.size → w'.heap[b]? = w.heap[b]?) : XAt qx base D A C i w' := by
 obtain ⟨⟨A0, c, h1, h2⟩, h3⟩ := h
 refine ⟨⟨A0, c, (hs qx (Array.getElem?_eq_some_iff.1 h1).1).trans h1, ?_⟩, fun j hj => (h3 j hj).keep fun b _ _ hb => hs b (Array.getElem?_eq_some_iff.1 hb).1⟩
 refine ⟨h2.1, ?_⟩
 rcases h2.2 with h4 | ⟨g, cap, cur, h4, hb, hg, h5⟩
 ·exact Or.inl h4
 ·exact Or.inr ⟨g, cap, cur, h4, hb, (hs g (Array.getElem?_eq_some_iff.1 hg).1).trans hg, h5⟩
theorem x_push {qx base i : Nat} {D : Nat → Dm} {A : Nat → Option Addr} {C : Nat → Nat} {wi w1 : World} {A0 Am A1 : Option Addr} {c cm c1 : Nat} {o : Obj} (hq : qx < base) (hX : wi.heap[qx]? = some (.cells #[.slice A0 i c] 42 (0, 0)) ∧ wi.ownsRow base 24 3 (.slice A0 i c) i (cellsDo D A C i)) (hM : ∀ j, j < i → MemT wi (A j) (C j) (D j).n (D j).mem) (hMi : MemT wi Am cm (D i).n (D i).mem)
  (hown : w1.ownsRow base 24 3 (.slice A1 (i + 1) c1) (i + 1) (cellsDo D A C i ++ [.string (D i).name, .int .i64 (D i).solve, .slice Am (D i).n cm])) (hgrow : (wi.alloc o).grownBy w1 (Value.slice A0 i c).ownBlock) :
  XAt qx base D (fun j => if j = i then Am else A j) (fun j => if j = i then cm else C j) (i + 1) (w1.setCell ⟨qx, 0, none⟩ (.slice A1 (i + 1) c1)) := by
 obtain ⟨hqx, hO⟩ := hX
 have hlq := (Array.getElem?_eq_some_iff.1 hqx).1
 have hqn : some qx ≠ (Value.slice A0 i c).ownBlock := fun e => by have := (hO.lt qx e.symm).1; omega
 have e1 : w1.heap[qx]? = wi.heap[qx]? := by rw [hgrow.block qx (by simp; omega) hqn, Below.heap_alloc _ _ _ (by omega)]
 have keep : ∀ {A' : Option Addr} {c' n' : Nat} {M' : Nat → Mem}, MemT wi A' c' n' M' → MemT (w1.setCell ⟨qx, 0, none⟩ (.slice A1 (i + 1) c1)) A' c' n' M' := fun h => h.keep fun b cs fr hb => by
  have hlb := (Array.getElem?_eq_some_iff.1 hb).1
  have n1 : b ≠ qx := fun e => by rw [e, hqx] at hb; simp only [Option.some.injEq, Obj.cells.injEq] at hb; exact memX_ne_out hb.2.1.symm
  have n2 : some b ≠ (Value.slice A0 i c).ownBlock := fun e => by
   rcases hO.2 with ⟨h, -⟩ | ⟨g, cap, cur, h, -, hg, -⟩
   ·rw [h] at e; cases e
   ·rw [h] at e
    simp only [Value.ownBlock, Option.some.injEq] at e
    rw [e, hg] at hb
    simp only [Option.some.injEq, Obj.cells.injEq] at hb
    exact memX_ne_dim hb.2.1.symm
  rw [setCell_off _ _ _ _ _ n1, hgrow.block b (by simp; omega) n2, Below.heap_alloc _ _ _ hlb]
 refine ⟨⟨A1, c1, ?_, ?_⟩, fun j hj => ?_⟩
 ·rw [set_ty (e1.trans hqx)]
  rfl
 ·have e : cellsDo D (fun j => if j = i then Am else A j) (fun j => if j = i then cm else C j) (i + 1) = cellsDo D A C i ++ [.string (D i).name, .int .i64 (D i).solve, .slice Am (D i).n cm] := by
   rw [cellsDo, cellsDo_same (A' := A) (C' := C) i fun j hj => ⟨if_neg (by omega), if_neg (by omega)⟩]
   simp
  rw [e]
  exact own_set hown hq
 ·by_cases e : j = i
  ·subst e
   simp only [if_true]
   exact keep hMi
  ·simp only [if_neg e]
   exact keep (hM j (by omega))
theorem in_push {qd base k : Nat} {nm : ByteArray} {s : Int} {M : Nat → Mem} {v0 wi w1 : World} {A A1 : Option Addr} {c c1 : Nat} {o : Obj} (hq : qd < base) (hb0 : base = v0.heap.size) (hqd : wi.heap[qd]? = some (.cells #[.string nm, .int .i64 s, .slice A k c] 24 (0, 0))) (hO : wi.ownsRow base 26 4 (.slice A k c) k (cellsMb M k)) (hK : Kept v0.heap.size (fun b => b = qd) v0 wi)
  (hown : w1.ownsRow base 26 4 (.slice A1 (k + 1) c1) (k + 1) (cellsMb M (k + 1))) (hgrow : (wi.alloc o).grownBy w1 (Value.slice A k c).ownBlock) :
  InAt qd base nm s M (k + 1) v0 (w1.setCell ⟨qd, 2, none⟩ (.slice A1 (k + 1) c1)) := by
 have hlq := (Array.getElem?_eq_some_iff.1 hqd).1
 have hqn : ∀ b, b < base → some b ≠ (Value.slice A k c).ownBlock := fun b hb e => by have := (hO.lt b e.symm).1; omega
 have e1 : w1.heap[qd]? = wi.heap[qd]? := by rw [hgrow.block qd (by simp; omega) (hqn qd hq), Below.heap_alloc _ _ _ (by omega)]
 have hsz : wi.heap.size ≤ w1.heap.size := by have := hgrow.size; simp at this; omega
 refine ⟨⟨A1, c1, ?_, own_set hown hq⟩, ?_⟩
 ·rw [set_ty (e1.trans hqd)]
  rfl
 ·refine ⟨hgrow.os.trans hK.os, hgrow.tape.trans hK.tape, hgrow.output.trans hK.output, by simp only [World.size_setCell]; exact Nat.le_trans hK.size hsz, fun b hb hx => ?_⟩
  rw [setCell_off _ _ _ _ _ hx, hgrow.block b (by have := hK.size; simp; omega) (hqn b (by omega)), Below.heap_alloc _ _ _ (by have := hK.size; omega)]
  exact hK.block b hb hx
end Go.Proofs.YtjffbmejobjmjafGreatDoor

