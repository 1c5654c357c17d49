/-
  A dim that is folded once more changes nothing, on plain data; what tallysame.Cells answers of the same cells, called in whatever memory.
-/
import Derived.Test.YtmjcnlpjnbcfjadFold5
namespace Go.Proofs.Ytmjcnlpjnbcfjad
open Go.ChangeShapes Go.WideShapes Go.ChangeAt Go.RowKit
set_option maxRecDepth 20000

theorem getD_set {L : List (Int × Int)} {x y : Nat} {c : Int × Int} (hx : x < L.length) : (L.set x c).getD y (0, 0) = if y = x then c else L.getD y (0, 0) := by
  by_cases e : y = x
  · subst e; rw [if_pos rfl]; simp [List.getD, hx]
  · rw [if_neg e]; simp [List.getD, List.getElem?_set_ne (fun h => e h.symm)]
theorem list_same {a b : List (Int × Int)} (hl : a.length = b.length) (h : ∀ y, y < a.length → a.getD y (0, 0) = b.getD y (0, 0)) : a = b := by
  apply List.ext_getElem hl
  intro y h1 h2
  have := h y h1
  simpa [List.getD, h1, h2] using this
section
variable {D : Nat → Dm} {n dim : Nat} (hp : ∀ i, i < n → 1 ≤ (D i).n) (hd : dim < n) (ht : Tr (D dim).mem (D dim).n)
include hp hd ht
/-- what is read of parts does not change where only another member is reckoned -/
theorem atP_same {m : Nat} {L L' : List (Int × Int)} {y : Nat} (hy : y < prodN D n) (hm : y / stepD D n dim % (D dim).n = m) (h : ∀ z, z < prodN D n → m < z / stepD D n dim % (D dim).n → L'.getD z (0, 0) = L.getD z (0, 0)) : ∀ k ∈ partsOf (D dim).mem (D dim).n (m : Int), atP D n dim m y L' k = atP D n dim m y L k := fun k hk => by
  obtain ⟨j, rfl, h1, h2, -⟩ := part_behind ht hk
  obtain ⟨z, hz, hzl, hzd, -⟩ := part_place hp hd hy hm h2
  unfold atP cAt
  rw [hz]
  exact h z hzl (by rw [hzd]; exact h1)
theorem pass_get {m : Nat} {L : List (Int × Int)} (hL : L.length = prodN D n) : ∀ k, k ≤ L.length → ∀ y, y < L.length → (passTo D n dim m L k).getD y (0, 0) = if y < k ∧ y / stepD D n dim % (D dim).n = m then partsV (D dim).mem (atP D n dim m y L) (partsOf (D dim).mem (D dim).n m) else L.getD y (0, 0)
  | 0, _, y, _ => by rw [passTo, if_neg (by omega)]
  | k + 1, hk, y, hy => by
    have ih := pass_get hL (m := m) k (by omega)
    rw [passTo]
    by_cases hm : k / stepD D n dim % (D dim).n = m
    · rw [if_pos hm, getD_set (by rw [pass_len]; omega)]
      by_cases e : y = k
      · subst e
        rw [if_pos rfl, if_pos ⟨by omega, hm⟩]
        unfold partsV
        exact parts_same _ _ (atP_same hp hd ht (by omega) hm fun z hz hzm => by rw [ih z (by omega), if_neg (by omega)])
      · rw [if_neg e, ih y hy]
        by_cases h1 : y < k ∧ y / stepD D n dim % (D dim).n = m
        · rw [if_pos h1, if_pos ⟨by omega, h1.2⟩]
        · rw [if_neg h1, if_neg (by omega)]
    · rw [if_neg hm, ih y hy]
      by_cases h1 : y < k ∧ y / stepD D n dim % (D dim).n = m
      · rw [if_pos h1, if_pos ⟨by omega, h1.2⟩]
      · rw [if_neg h1, if_neg]
        rintro ⟨h2, h3⟩
        by_cases e : y = k
        · exact hm (by rw [← e]; exact h3)
        · exact h1 ⟨by omega, h3⟩
theorem mbr_get {m : Nat} {L : List (Int × Int)} (hL : L.length = prodN D n) {y : Nat} (hy : y < L.length) : (mbrV D n dim m L).getD y (0, 0) = if partsOf (D dim).mem (D dim).n (m : Int) ≠ [] ∧ y / stepD D n dim % (D dim).n = m then partsV (D dim).mem (atP D n dim m y L) (partsOf (D dim).mem (D dim).n m) else L.getD y (0, 0) := by
  unfold mbrV
  by_cases h : partsOf (D dim).mem (D dim).n (m : Int) = []
  · rw [if_pos h, if_neg (by simp [h])]
  · rw [if_neg h, pass_get hp hd ht hL _ (Nat.le_refl _) y hy]
    by_cases h1 : y / stepD D n dim % (D dim).n = m
    · rw [if_pos ⟨hy, h1⟩, if_pos ⟨h, h1⟩]
    · rw [if_neg (by omega), if_neg (by simp [h1])]
/-- each cell with a member is what comes of its parts -/
def FixAt (D : Nat → Dm) (n dim m : Nat) (L : List (Int × Int)) : Prop := ∀ y, y < L.length → y / stepD D n dim % (D dim).n = m → partsOf (D dim).mem (D dim).n (m : Int) ≠ [] → L.getD y (0, 0) = partsV (D dim).mem (atP D n dim m y L) (partsOf (D dim).mem (D dim).n m)
theorem fix_same {m : Nat} {L : List (Int × Int)} (hL : L.length = prodN D n) (h : FixAt D n dim m L) : mbrV D n dim m L = L := by
  refine list_same (mbr_len ..) fun y hy => ?_
  rw [mbr_len] at hy
  rw [mbr_get hp hd ht hL hy]
  split
  · rename_i h1; exact (h y hy h1.2 h1.1).symm
  · rfl
theorem fix_here {m : Nat} {L : List (Int × Int)} (hL : L.length = prodN D n) : FixAt D n dim m (mbrV D n dim m L) := fun y hy hm hP => by
  rw [mbr_len] at hy
  rw [mbr_get hp hd ht hL hy, if_pos ⟨hP, hm⟩]
  exact parts_same _ _ fun k hk => (atP_same hp hd ht (by omega) hm (fun z hz hzm => by rw [mbr_get hp hd ht hL (by omega), if_neg (by omega)]) k hk).symm
theorem fix_step {m m' : Nat} (hmm : m' < m) {L : List (Int × Int)} (hL : L.length = prodN D n) (h : FixAt D n dim m L) : FixAt D n dim m (mbrV D n dim m' L) := fun y hy hm hP => by
  rw [mbr_len] at hy
  rw [mbr_get hp hd ht hL hy, if_neg (by omega), h y hy hm hP]
  exact parts_same _ _ fun k hk => (atP_same hp hd ht (by omega) hm (fun z hz hzm => by rw [mbr_get hp hd ht hL (by omega), if_neg (by omega)]) k hk).symm
theorem once_fix {L : List (Int × Int)} (hL : L.length = prodN D n) : ∀ r, r ≤ (D dim).n → ∀ m, (D dim).n - r ≤ m → m < (D dim).n → FixAt D n dim m (onceTo D n dim L r)
  | 0, _, m, h1, h2 => by omega
  | r + 1, hr, m, h1, h2 => by
    rw [onceTo]
    have hl : (onceTo D n dim L r).length = prodN D n := by rw [once_len]; exact hL
    by_cases e : m = (D dim).n - 1 - r
    · rw [e]; exact fix_here hp hd ht hl
    · exact fix_step hp hd ht (by omega) hl (once_fix hL r (by omega) m (by omega) h2)
theorem once_twice {L : List (Int × Int)} (hL : L.length = prodN D n) : onceV D n dim (onceV D n dim L) = onceV D n dim L := by
  have hf := once_fix hp hd ht hL (D dim).n (Nat.le_refl _)
  have hl : (onceV D n dim L).length = prodN D n := by unfold onceV; rw [once_len]; exact hL
  have : ∀ r, r ≤ (D dim).n → onceTo D n dim (onceV D n dim L) r = onceV D n dim L := by
    intro r
    induction r with
    | zero => intro _; rfl
    | succ r ih =>
      intro hr
      rw [onceTo, ih (by omega)]
      exact fix_same hp hd ht hl (hf _ (by omega) (by omega))
  exact this _ (Nat.le_refl _)
end

set_option maxHeartbeats 4000000 in
theorem samecells_any (A B : Option Addr) (ca cb : Nat) (L : List (Int × Int)) (w : World) (hn : L.length ≤ 3000) (hA : CelV w A ca L) (hB : CelV w B cb L) : Calls Try.prog 16 #[.slice A L.length ca, .slice B L.length cb] w fun e w' => e = .returned (.bool true) ∧ Below w.heap.size w w' := by
  have HA : Hid (CelV w A ca L) := hA
  have HB : Hid (CelV w B cb L) := hB
  obtain ⟨N, hN⟩ : ∃ N, L.length = N := ⟨_, rfl⟩
  have HN : Hid (L.length = N) := hN
  rw [hN] at hn ⊢
  have hn' : (N : Int) ≤ 3000 := by omega
  have hne : ((N : Int) != (N : Int)) = false := by simp
  clear hA hB hN
  go_enter Try.func16, Try.ntmps16
  go_wp2_with fail
  go_loopg [5] N (fun g s5 wr => ∃ (k : Nat), k ≤ N ∧ g = N - k ∧ s5 = .int .i64 k ∧ Below w.heap.size w wr)
  case atStart => exact ⟨0, Nat.zero_le _, rfl, rfl, Below.refl _ _⟩
  case round =>
    obtain ⟨k, hk, rfl, rfl, hBw⟩ := hrel
    have HW : Hid (Below w.heap.size w wr) := hBw
    by_cases hlt : k < N
    · have hki : (k : Int) < (N : Int) := by omega
      have hkL : k < L.length := by rw [HN.out]; exact hlt
      obtain ⟨hca, -, h0 | ⟨b1, o1, rfl, hA⟩⟩ := HA.out.later hBw
      · rw [h0] at hkL; simp at hkL
      obtain ⟨hcb, -, h0 | ⟨b2, o2, rfl, hB⟩⟩ := HB.out.later hBw
      · rw [h0] at hkL; simp at hkL
      obtain ⟨a1, a2⟩ := hA.2 k hkL
      obtain ⟨b1', b2'⟩ := hB.2 k hkL
      rw [HN.out] at hca hcb
      generalize (L.getD k noC).1 = x at a1 b1'
      generalize (L.getD k noC).2 = y at a2 b2'
      clear hA hB hBw
      go_wp2_with fail
      first | (go_quiet (fail); go_wp2_with fail) | skip
      go_roundg (N - (k + 1))
      case measure => omega
      case rel => first | exact ⟨k + 1, by omega, rfl, by go_num, HW.out⟩ | exact ⟨k + 1, by omega, rfl, by go_num, below_drewN HW.out _⟩
    · have hke : k = N := by omega
      subst hke
      clear hBw
      go_wp2_with fail
      go_ret
      exact ⟨rfl, HW.out⟩
end Go.Proofs.Ytmjcnlpjnbcfjad
