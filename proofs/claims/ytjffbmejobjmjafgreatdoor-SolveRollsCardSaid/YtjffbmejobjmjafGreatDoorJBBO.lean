/-
 Which member a number has in a dim, and by which dim its place is told, as package solve tells it, in whatever memory.
 What comes of the cells of parts, as package solve tells it (together), in whatever memory.
-/
import Derived.Test.YtjffbmejobjmjafGreatDoorJBBN
import Derived.Test.YtjffbmejobjmjafGreatDoorJBBM
import Derived.BigQuiet
import Derived.Test.YtjffbmejobjmjafGreatDoorJBBF
namespace Go.Proofs.YtjffbmejobjmjafGreatDoor
open Go.ChangeShapes Go.WideShapes Go.ChangeAt Go.RowKit
set_option maxRecDepth 20000

def axV (d : Dm) (A : Option Addr) (c ap : Nat) (x : AL) : Value := .agg #[.string d.name, .int .i64 d.solve, .slice A d.n c, .int .i64 ap, .slice x.A d.n x.c]
set_option maxHeartbeats 2000000 in
theorem member_any2 (d : Dm) (A : Option Addr) (c S : Nat) (al : AL) (x m : Nat) (w : World) (hS : 1 ≤ S) (hd : 1 ≤ d.n) (hd2 : d.n ≤ 12) (hx : x ≤ 20736) (hm : x / S % d.n = m) : Calls Tryz.prog 66 #[axV d A c S al, .int .i64 x] w fun e w' => e = .returned (.int .i64 m) ∧ Below w.heap.size w w' := by
 unfold axV
 obtain ⟨Q, hQ⟩ : ∃ Q : Nat, x / S = Q := ⟨_, rfl⟩
 rw [hQ] at hm
 have hqi : (x : Int) / (S : Int) = (Q : Int) := by rw [← hQ]; exact (Int.natCast_ediv _ _).symm
 have hqt : (x : Int).tdiv (S : Int) = (Q : Int) := by rw [← hQ]; rfl
 have hri : (Q : Int).tmod (d.n : Int) = (m : Int) := by rw [← hm]; rfl
 have hQ3 : Q ≤ 20736 := by rw [← hQ]; exact Nat.le_trans (Nat.div_le_self _ _) (by omega)
 have hR3 : m < d.n := by rw [← hm]; exact Nat.mod_lt _ (by omega)
 have hwQ : IntKind.i64.wrap (Q : Int) = (Q : Int) := IntWalk.i64_in _ (by omega)
 have hwR : IntKind.i64.wrap (m : Int) = (m : Int) := IntWalk.i64_in _ (by omega)
 have hS0 : ((S : Int) == 0) = false := by simp; omega
 have hS0' : ¬ S = 0 := by omega
 have hdn0 : ((d.n : Int) == 0) = false := by simp; omega
 have hdn0' : ¬ d.n = 0 := by omega
 have hdI : (d.n : Int) ≤ 12 := by omega
 obtain ⟨y, hy⟩ : ∃ y, w.alloc (.cells #[.string d.name, .int .i64 d.solve, .slice A d.n c, .int .i64 S, .slice al.A d.n al.c] 114) = y := ⟨_, rfl⟩
 have hyb : y.heap[w.heap.size]? = some (.cells #[.string d.name, .int .i64 d.solve, .slice A d.n c, .int .i64 S, .slice al.A d.n al.c] 114 (0, 0)) := by rw [← hy]; exact heap_alloc_new ..
 have y3 : y.cell? ⟨w.heap.size, 3, none⟩ = some (.int .i64 S) := by simp [World.cell?, hyb]
 have y4 : y.cell? ⟨w.heap.size, 4, none⟩ = some (.slice al.A d.n al.c) := by simp [World.cell?, hyb]
 have HBy : Hid (Below w.heap.size w y) := by show Below ..; rw [← hy]; go_grown
 clear hyb hQ hm
 go_enter Tryz.func66, Tryz.ntmps66
 go_wp2_with fail
 first | (go_quiet (fail); go_wp2_with fail) | skip
 go_ret
 exact ⟨rfl, by first | exact HBy.out | exact below_drewN HBy.out _⟩

theorem way_leaf {d : Dm} {i : Nat} {x : WL} (h : WayOf d i x) : x.lf = leafB d.mem d.n i := by
 by_cases hf : (d.mem i).formula.size = 0
 ·exact (h.1 hf).1
 ·rw [(h.2 hf).1]
  unfold leafB
  rw [decide_eq_false hf]
  rfl
theorem AxesV.one {w : World} {g n : Nat} {D : Nat → Dm} {A : Nat → Option Addr} {C : Nat → Nat} {X : Nat → AL} (h : AxesV w g n D A C X) {i : Nat} (hi : i < n) : g < w.heap.size ∧ (w.cell? ⟨g, i * 5, none⟩ = some (.string (D i).name) ∧ w.cell? ⟨g, i * 5 + 1, none⟩ = some (.int .i64 (D i).solve) ∧ w.cell? ⟨g, i * 5 + 2, none⟩ = some (.slice (A i) (D i).n (C i)) ∧ w.cell? ⟨g, i * 5 + 3, none⟩ = some (.int .i64 (stepD D n i)) ∧ w.cell? ⟨g, i * 5 + 4, none⟩ = some (.slice (X i).A (D i).n (X i).c)) ∧ AxOne w (D i) (X i) := by
 obtain ⟨⟨cur, h1, -, h3⟩, -⟩ := h
 obtain ⟨⟨c0, c1, c2, c3, c4⟩, hA⟩ := h3 i (by omega) hi
 exact ⟨(Array.getElem?_eq_some_iff.1 h1).1, ⟨by simp [World.cell?, h1, c0], by simp [World.cell?, h1, c1], by simp [World.cell?, h1, c2], by simp [World.cell?, h1, c3], by simp [World.cell?, h1, c4]⟩, hA⟩
theorem AxOne.way {w : World} {d : Dm} {x : AL} (h : AxOne w d x) {m : Nat} (hm : m < d.n) : ∃ b, x.A = some ⟨b, 0, none⟩ ∧ d.n ≤ x.c ∧ b < w.heap.size ∧ (w.cell? ⟨b, m * 4, none⟩ = some (.bool (x.xs.getD m noW).lf) ∧ w.cell? ⟨b, m * 4 + 1, none⟩ = some (.slice (x.xs.getD m noW).An (x.xs.getD m noW).nd.length (x.xs.getD m noW).cn) ∧ w.cell? ⟨b, m * 4 + 2, none⟩ = some (.slice (x.xs.getD m noW).As (x.xs.getD m noW).nm.length (x.xs.getD m noW).cs) ∧ w.cell? ⟨b, m * 4 + 3, none⟩ = some (.slice (x.xs.getD m noW).Ai (x.xs.getD m noW).ne.length (x.xs.getD m noW).ci)) ∧ WayT w (x.xs.getD m noW) := by
 obtain ⟨hl, ⟨h1, h2, h3⟩, -⟩ := h
 rcases h2 with h2 | ⟨b, cs, fr, h2, h4, h5⟩
 ·rw [h2] at hl; simp at hl; omega
 ·obtain ⟨a0, a1, a2, a3⟩ := h5 m (by omega)
  refine ⟨b, h2, by omega, (Array.getElem?_eq_some_iff.1 h4).1, ⟨by simp [World.cell?, h4, a0], by simp [World.cell?, h4, a1], by simp [World.cell?, h4, a2], by simp [World.cell?, h4, a3]⟩, h3 _ ?_⟩
  rw [List.getD_eq_getElem?_getD, List.getElem?_eq_getElem (by omega)]
  exact List.getElem_mem _
theorem digit_at {D : Nat → Dm} {n x k : Nat} (hk : k < n) : ((placeL D n x).getD k 0).toNat = x / stepD D n k % (D k).n := by
 rw [placeL_at hk, Int.toNat_natCast, digit_step hk]

set_option maxHeartbeats 4000000 in
theorem by_any2 (g n cc : Nat) (D : Nat → Dm) (A : Nat → Option Addr) (C : Nat → Nat) (X : Nat → AL) (x : Nat) (w : World) (hE : (allErr D n).2.2 = 0) (hx : x < prodN D n) (hcc : n ≤ cc) (hA : AxesV w g n D A C X) : Calls Tryz.prog 36 #[.slice (some ⟨g, 0, none⟩) n cc, .int .i64 x] w fun e w' => e = .returned (.int .i64 (byTo D (placeL D n x) n)) ∧ Below w.heap.size w w' := by
 obtain ⟨hn1, hn4, hp3, hd⟩ := allErr_some hE
 have hn' : (n : Int) ≤ 4 := by omega
 have hccI : (n : Int) ≤ (cc : Int) := by omega
 have HD : Hid (∀ i, i < n → 1 ≤ (D i).n ∧ (D i).n ≤ 12) := hd
 have HA : Hid (AxesV w g n D A C X) := hA
 obtain ⟨L, hL⟩ : ∃ L, placeL D n x = L := ⟨_, rfl⟩
 have HDg : Hid (∀ k, k < n → (L.getD k 0).toNat = x / stepD D n k % (D k).n) := fun k hk => by rw [← hL]; exact digit_at hk
 rw [hL]
 have hxs : x ≤ 20736 := by omega
 clear hL hA hd
 go_enter Tryz.func36, Tryz.ntmps36
 go_wp2_with fail
 go_loopg [5, 10] n (fun gg s5 s10 wr => ∃ (k : Nat), k ≤ n ∧ gg = n - k ∧ s5 = .int .i64 (byTo D L k) ∧ s10 = .int .i64 k ∧ Below w.heap.size w wr)
 case atStart => exact ⟨0, Nat.zero_le _, rfl, rfl, rfl, Below.refl _ _⟩
 case round =>
  obtain ⟨k, hk, rfl, rfl, rfl, hBw⟩ := hrel
  have HBw : Hid (Below w.heap.size w wr) := hBw
  by_cases hlt : k < n
  ·have hki : (k : Int) < (n : Int) := by omega
   have hAr := HA.out.later hBw
   obtain ⟨hg, ⟨c0, c1, c2, c3, c4⟩, hOne⟩ := hAr.one hlt
   obtain ⟨m, hm⟩ : ∃ m, x / stepD D n k % (D k).n = m := ⟨_, rfl⟩
   have hd1 := (HD.out k hlt).1
   have hmn : m < (D k).n := by rw [← hm]; exact Nat.mod_lt _ hd1
   obtain ⟨b, hAb, hbc, hbl, ⟨y0, -, -, -⟩, -⟩ := hOne.way hmn
   have hlf := way_leaf (hOne.2.2 m hmn)
   rw [hlf] at y0
   rw [hAb] at c4
   have hdg : (L.getD k 0).toNat = m := by rw [HDg.out k hlt, hm]
   have HMb : Hid (∀ w', Below wr.heap.size wr w' → Calls Tryz.prog 66 #[.agg #[.string (D k).name, .int .i64 (D k).solve, .slice (A k) (D k).n (C k), .int .i64 (stepD D n k : Nat), .slice (some ⟨b, 0, none⟩) (D k).n (X k).c], .int .i64 x] w' fun e w'' => e = .returned (.int .i64 m) ∧ Below w'.heap.size w' w'') := fun w' _ => by
    have h := member_any2 (D k) (A k) (C k) (stepD D n k) (X k) x m w' (stepD_pos (fun i hi => (HD.out i hi).1) hlt) hd1 (HD.out k hlt).2 hxs hm
    unfold axV at h
    rw [hAb] at h
    exact h
   have HB : Hid (∀ h, leafB (D k).mem (D k).n m = h → (h = true → byTo D L (k + 1) = byTo D L k) ∧ (h = false → (byTo D L k < 0 → byTo D L (k + 1) = (k : Int)) ∧ ∀ j : Nat, byTo D L k = (j : Int) → byTo D L (k + 1) = if (D j).solve < (D k).solve then (k : Int) else (j : Int))) := fun h e => by
    refine ⟨fun e2 => ?_, fun e2 => ⟨fun e3 => ?_, fun j hj => ?_⟩⟩
    ·refine by_miss fun ⟨h1, _⟩ => ?_
     rw [hdg, e, e2] at h1
     cases h1
    ·exact by_hit (by rw [hdg, e, e2]) (Or.inl e3)
    ·by_cases hs : (D j).solve < (D k).solve
     ·rw [if_pos hs]
      exact by_hit (by rw [hdg, e, e2]) (Or.inr (by rw [hj, Int.toNat_natCast]; exact hs))
     ·rw [if_neg hs, ← hj]
      refine by_miss fun ⟨_, h2⟩ => ?_
      rw [hj, Int.toNat_natCast] at h2
      omega
   obtain ⟨lf, hlf2⟩ : ∃ lf, leafB (D k).mem (D k).n m = lf := ⟨_, rfl⟩
   have HB2 := hid_of (HB.out lf hlf2)
   rw [hlf2] at y0
   have HSv : Hid (∀ w', Below wr.heap.size wr w' → ∀ j, j < n → w'.cell? ⟨g, j * 5 + 1, none⟩ = some (.int .i64 (D j).solve)) := fun w' hB j hj => ((hAr.later hB).one hj).2.1.2.1
   have HBi := hid_of (by_in D L k)
   obtain ⟨v, hv⟩ : ∃ v, wr.alloc (.cells #[.string (D k).name, .int .i64 (D k).solve, .slice (A k) (D k).n (C k), .int .i64 (stepD D n k : Nat), .slice (some ⟨b, 0, none⟩) (D k).n (X k).c] 114) = v := ⟨_, rfl⟩
   have hvb : v.heap[wr.heap.size]? = some (.cells #[.string (D k).name, .int .i64 (D k).solve, .slice (A k) (D k).n (C k), .int .i64 (stepD D n k : Nat), .slice (some ⟨b, 0, none⟩) (D k).n (X k).c] 114 (0, 0)) := by rw [← hv]; exact heap_alloc_new ..
   have hBv : Below wr.heap.size wr v := by rw [← hv]; go_grown
   have HBv : Hid (Below wr.heap.size wr v) := hBv
   have v0 : v.cell? ⟨wr.heap.size, 0, none⟩ = some (.string (D k).name) := by simp [World.cell?, hvb]
   have v1 : v.cell? ⟨wr.heap.size, 1, none⟩ = some (.int .i64 (D k).solve) := by simp [World.cell?, hvb]
   have v2 : v.cell? ⟨wr.heap.size, 2, none⟩ = some (.slice (A k) (D k).n (C k)) := by simp [World.cell?, hvb]
   have v3 : v.cell? ⟨wr.heap.size, 3, none⟩ = some (.int .i64 (stepD D n k : Nat)) := by simp [World.cell?, hvb]
   have v4 : v.cell? ⟨wr.heap.size, 4, none⟩ = some (.slice (some ⟨b, 0, none⟩) (D k).n (X k).c) := by simp [World.cell?, hvb]
   have hvs : wr.heap.size < v.heap.size := (Array.getElem?_eq_some_iff.1 hvb).1
   have yv := (hBv.cell (p := ⟨b, m * 4, none⟩) hbl).trans y0
   have hblv : b < v.heap.size := Nat.lt_of_lt_of_le hbl hBv.size
   have hmI : (m : Int) < ((D k).n : Int) := by omega
   have hdI : ((D k).n : Int) ≤ 12 := by have := (HD.out k hlt).2; omega
   have HYl : Hid (∀ w', Below v.heap.size v w' → w'.cell? ⟨b, m * 4, none⟩ = some (.bool lf)) := fun w' hB => (hB.cell (p := ⟨b, m * 4, none⟩) hblv).trans yv
   clear hAr hOne hlf hAb hdg HB hlf2 hvb hBv hm hBw y0
   go_upto_region 5 with fail
   go_cut [10, 22] from 10 to 38 (fun s10 s22 wx => s10 = .int .i64 k ∧ s22 = .bool lf ∧ Below v.heap.size v wx)
   case first =>
    go_region_law ((go_simp; refine (HMb.out _ (onB HBv.out (by go_grown))).mono ?_; rintro e w3 ⟨rfl, hb3⟩; have hN3 := onB (W0 := v) (by go_grown) hb3; have hY3 := HYl.out _ hN3; have hz3 := hN3.size; obtain ⟨hbc3, -⟩ := bcell hN3; clear hb3))
    all_goals go_wp2_with fail
    all_goals go_meet
    all_goals exact ⟨rfl, rfl, hN3⟩
   case rest =>
   obtain ⟨rfl, rfl, hBc⟩ := hcut
   obtain ⟨w3, rfl⟩ : ∃ w3 : World, w3 = wc := ⟨_, rfl⟩
   have HB3 : Hid (Below w.heap.size w w3) := onB HBw.out (onB HBv.out hBc)
   have hBr3 := onB HBv.out hBc
   have ck3 := HSv.out w3 hBr3 k hlt
   have hg3 : g < w3.heap.size := Nat.lt_of_lt_of_le hg hBr3.size
   have t1 : w3.cell? ⟨wr.heap.size, 1, none⟩ = some (.int .i64 (D k).solve) := (hBc.cell (p := ⟨wr.heap.size, 1, none⟩) hvs).trans v1
   have ht3 : wr.heap.size < w3.heap.size := Nat.lt_of_lt_of_le hvs hBc.size
   cases lf
   ·rcases HBi.out with hneg | ⟨j, hj, hjk⟩
    ·have HNx : Hid (byTo D L (k + 1) = (k : Int)) := (HB2.out.2 rfl).1 (by omega)
     rw [hneg]
     clear hneg hBc hBr3
     go_wp2_with fail
     go_quiet (fail)
     go_wp2_with fail
     go_roundg (n - (k + 1))
     case measure => omega
     case rel => exact ⟨k + 1, by omega, rfl, by rw [HNx.out], by go_num, below_drewN HB3.out _⟩
    ·have HNx : Hid (byTo D L (k + 1) = if (D j).solve < (D k).solve then (k : Int) else (j : Int)) := (HB2.out.2 rfl).2 j hj
     have cj3 := HSv.out w3 hBr3 j (by omega)
     have hjn : (j : Int) < (n : Int) := by omega
     have hj0 : ((j : Int) == -1) = false := by simp
     rw [hj]
     clear hj hBc hBr3
     by_cases hs : (D j).solve < (D k).solve
     ·rw [if_pos hs] at HNx
      have hsb : decide ((D j).solve < (D k).solve) = true := decide_eq_true hs
      go_wp2_with fail
      go_quiet (fail)
      go_wp2_with fail
      go_roundg (n - (k + 1))
      case measure => omega
      case rel => exact ⟨k + 1, by omega, rfl, by rw [HNx.out], by go_num, below_drewN HB3.out _⟩
     ·rw [if_neg hs] at HNx
      have hsb : decide ((D j).solve < (D k).solve) = false := decide_eq_false hs
      go_wp2_with fail
      go_quiet (fail)
      go_wp2_with fail
      go_roundg (n - (k + 1))
      case measure => omega
      case rel => exact ⟨k + 1, by omega, rfl, by rw [HNx.out], by go_num, below_drewN HB3.out _⟩
   ·have HNx : Hid (byTo D L (k + 1) = byTo D L k) := HB2.out.1 rfl
    generalize byTo D L k = bk at HNx
    clear hBc hBr3
    go_wp2_with fail
    go_roundg (n - (k + 1))
    case measure => omega
    case rel => exact ⟨k + 1, by omega, rfl, by rw [HNx.out], by go_num, HB3.out⟩
  ·have hke : k = n := by omega
   subst hke
   clear hBw
   go_wp2_with fail
   go_ret
   exact ⟨rfl, HBw.out⟩
end Go.Proofs.YtjffbmejobjmjafGreatDoor

namespace Go.Proofs.YtjffbmejobjmjafGreatDoor
open Go.ChangeShapes Go.WideShapes Go.ChangeAt Go.RowKit
set_option maxRecDepth 20000

def togX (w : World) (d : Dm) (A : Option Addr) (c S : Nat) (al : AL) : World := ((w.alloc (.cells #[.string d.name, .int .i64 d.solve, .slice A d.n c, .int .i64 S, .slice al.A d.n al.c] 114)).alloc (.cells #[.int .i64 0, .int .i64 0] 48)).alloc (.cells #[.int .i64 0, .int .i64 0] 48)
theorem togX_size (w : World) (d : Dm) (A : Option Addr) (c S : Nat) (al : AL) : (togX w d A c S al).heap.size = w.heap.size + 3 := by unfold togX; simp
theorem togX_below (w : World) (d : Dm) (A : Option Addr) (c S : Nat) (al : AL) : Below w.heap.size w (togX w d A c S al) := by unfold togX; go_grown
theorem togX_0 (w : World) (d : Dm) (A : Option Addr) (c S : Nat) (al : AL) : (togX w d A c S al).heap[w.heap.size]? = some (.cells #[.string d.name, .int .i64 d.solve, .slice A d.n c, .int .i64 S, .slice al.A d.n al.c] 114 (0, 0)) := by
 unfold togX
 rw [heap_alloc_old _ _ (by simp; omega), heap_alloc_old _ _ (by simp)]
 exact heap_alloc_new ..
theorem togX_1 (w : World) (d : Dm) (A : Option Addr) (c S : Nat) (al : AL) : (togX w d A c S al).heap[w.heap.size + 1]? = some (.cells #[.int .i64 0, .int .i64 0] 48) := by
 unfold togX
 rw [heap_alloc_old _ _ (by simp)]
 exact topF1 ..
theorem togX_2 (w : World) (d : Dm) (A : Option Addr) (c S : Nat) (al : AL) : (togX w d A c S al).heap[w.heap.size + 2]? = some (.cells #[.int .i64 0, .int .i64 0] 48) := by
 unfold togX
 have h := heap_alloc_new ((w.alloc (.cells #[.string d.name, .int .i64 d.solve, .slice A d.n c, .int .i64 S, .slice al.A d.n al.c] 114)).alloc (.cells #[.int .i64 0, .int .i64 0] 48)) (.cells #[.int .i64 0, .int .i64 0] 48)
 simpa using h

set_option maxHeartbeats 8000000 in
theorem together_any (bm om c S : Nat) (al : AL) (d : Dm) (AP : Option Addr) (cP : Nat) (P : List Int) (AC : Option Addr) (cC : Nat) (L : List (Int × Int)) (at' : Int → Int × Int) (w : World) (hd12 : d.n ≤ 12) (hP12 : P.length ≤ 12) (hIn : ∀ k ∈ P, ∃ j : Nat, k = j ∧ j < d.n ∧ (d.mem j).sign ≠ 0) (hSg : Sg d.mem d.n) (hL : L = P.map at') (hG : ∀ k ∈ P, goodC (at' k)) (hMm : MemsAt w bm om d.n d.mem) (hP : IntsAt w AP cP P) (hC : CelV w AC cC L) :
  Calls Tryz.prog 105 #[axV d (some ⟨bm, om, none⟩) c S al, .slice AP P.length cP, .slice AC P.length cC] w fun e w' => e = .returned (.tuple #[.agg #[.int .i64 (partsV d.mem at' P).1, .int .i64 (partsV d.mem at' P).2], .nilIface]) ∧ Below w.heap.size w w' := by
 have HIn : Hid (∀ k ∈ P, ∃ j : Nat, k = j ∧ j < d.n ∧ (d.mem j).sign ≠ 0) := hIn
 have HSg : Hid (Sg d.mem d.n) := hSg
 have HG : Hid (∀ k ∈ P, goodC (at' k)) := hG
 have HMm : Hid (MemsAt w bm om d.n d.mem) := hMm
 have HP : Hid (IntsAt w AP cP P) := hP
 have HC : Hid (CelV w AC cC L) := hC
 have HL : Hid (L = P.map at') := hL
 have HB0 : Hid (Below w.heap.size w (togX w d (some ⟨bm, om, none⟩) c S al)) := togX_below ..
 have HW0 : Hid ((togX w d (some ⟨bm, om, none⟩) c S al).heap[w.heap.size]? = some (.cells #[.string d.name, .int .i64 d.solve, .slice (some ⟨bm, om, none⟩) d.n c, .int .i64 S, .slice al.A d.n al.c] 114 (0, 0)) ∧ (togX w d (some ⟨bm, om, none⟩) c S al).heap[w.heap.size + 1]? = some (.cells #[.int .i64 0, .int .i64 0] 48) ∧ (togX w d (some ⟨bm, om, none⟩) c S al).heap.size = w.heap.size + 3) := ⟨togX_0 .., togX_1 .., togX_size ..⟩
 have HFin : Hid ((P.take P.length).foldl (partStep d.mem at') (0, 0) = partsV d.mem at' P) := by show _ = _; rw [List.take_length]; rfl
 obtain ⟨N, hN⟩ : ∃ N, P.length = N := ⟨_, rfl⟩
 have HN : Hid (P.length = N) := hN
 rw [hN] at HFin hP12 ⊢
 generalize partsV d.mem at' P = V at HFin
 have hN' : (N : Int) ≤ 12 := by omega
 have hd12' : (d.n : Int) ≤ 12 := by omega
 unfold axV
 clear hIn hSg hG hMm hP hC hN hL
 go_enter Tryz.func105, Tryz.ntmps105
 go_wp2_with fail
 go_loopg [9, 15] N (fun g s9 s15 wr => ∃ (k : Nat) (a b : Int), k ≤ N ∧ g = N - k ∧ s15 = .int .i64 k ∧ s9 = .nilIface ∧ Hid ((P.take k).foldl (partStep d.mem at') (0, 0) = (a, b)) ∧ Hid (wr.heap[w.heap.size + 2]? = some (.cells #[.int .i64 a, .int .i64 b] 48)) ∧ Hid ((togX w d (some ⟨bm, om, none⟩) c S al).grownBy wr (some (w.heap.size + 2))))
 case atStart => exact ⟨0, 0, 0, Nat.zero_le _, rfl, rfl, rfl, (rfl : (P.take 0).foldl (partStep d.mem at') (0, 0) = (0, 0)), togX_2 w d (some ⟨bm, om, none⟩) c S al, (grown_refl _ _ : (togX w d (some ⟨bm, om, none⟩) c S al).grownBy (togX w d (some ⟨bm, om, none⟩) c S al) (some (w.heap.size + 2)))⟩
 case round =>
  obtain ⟨k, a, b, hk, rfl, rfl, rfl, HF, HCc, HGr⟩ := hrel
  have hB : Below w.heap.size w wr := HB0.out.grown HGr.out (by rw [HW0.out.2.2]; omega) (fun j hj => by cases hj; omega)
  have HBw : Hid (Below w.heap.size w wr) := hB
  have hzr : w.heap.size + 2 < wr.heap.size := by have := HGr.out.size; rw [HW0.out.2.2] at this; omega
  by_cases hlt : k < N
  ·have hkP : k < P.length := by rw [HN.out]; exact hlt
   have hki : (k : Int) < (N : Int) := by omega
   obtain ⟨hcP, h0 | ⟨bp, rfl, hbp, hcell⟩⟩ := HP.out.later hB
   ·have := HN.out; rw [h0] at this; simp at this; omega
   rw [HN.out] at hcP
   have cP1 := hcell k hkP
   have hmem : P.getD k 0 ∈ P := by rw [List.getD_eq_getElem?_getD, List.getElem?_eq_getElem hkP]; exact List.getElem_mem hkP
   have hLl : L.length = N := by rw [HL.out, List.length_map]; exact HN.out
   obtain ⟨hcL, -, h0 | ⟨bc, oc, rfl, hCat⟩⟩ := HC.out.later hB
   ·rw [h0] at hLl; simp at hLl; omega
   obtain ⟨x0, x1⟩ := hCat.2 k (by omega)
   have hbcl : bc < wr.heap.size := hCat.1
   have hLk : L.getD k noC = at' (P.getD k 0) := by
    rw [HL.out, List.getD_eq_getElem?_getD, List.getElem?_map, List.getD_eq_getElem?_getD, List.getElem?_eq_getElem hkP]
    rfl
   rw [hLl] at hcL
   rw [hLk] at x0 x1
   obtain ⟨j, hj, hjn, hjs⟩ := HIn.out _ hmem
   have hgd := HG.out _ hmem
   have HSt := take_part (M := d.mem) (at' := at') hkP
   rw [HF.out] at HSt
   rw [hj] at HSt hgd cP1 x0 x1
   have hgab : goodC (a, b) := by rw [← HF.out]; exact good_fold _ _ _ _ good_zero
   unfold partStep at HSt
   rw [show ((j : Int)).toNat = j by omega] at HSt
   simp only at HSt
   obtain ⟨-, -, m2, -⟩ := (HMm.out.later hB).2 j hjn
   have hbml : bm < wr.heap.size := (HMm.out.later hB).1
   have hsg := HSg.out j hjn
   have hax := (HGr.out.block w.heap.size (by rw [HW0.out.2.2]; omega) (fun e => by simp at e)).trans HW0.out.1
   have cD : wr.cell? ⟨w.heap.size, 2, none⟩ = some (.slice (some ⟨bm, om, none⟩) d.n c) := by simp [World.cell?, hax]
   obtain ⟨s0, s1, f0, f1⟩ := pair_at HCc.out
   have hji : (j : Int) < (d.n : Int) := by omega
   have hADD := fun w' => add_yes a b (at' (j : Int)).1 (at' (j : Int)).2 hgab hgd w'
   have hSUB := fun w' => sub_yes a b (at' (j : Int)).1 (at' (j : Int)).2 hgab hgd w'
   generalize (at' (j : Int)).1 = x at x0 HSt hADD hSUB
   generalize (at' (j : Int)).2 = y at x1 HSt hADD hSUB
   generalize (d.mem j).sign = sg at m2 HSt hsg hjs
   have HKeep : Hid (∀ w', Below wr.heap.size wr w' → w'.cell? ⟨w.heap.size + 2, 0, none⟩ = some (.int .i64 a) ∧ w'.cell? ⟨w.heap.size + 2, 1, none⟩ = some (.int .i64 b) ∧ w'.frozen? ⟨w.heap.size + 2, 0, none⟩ = false ∧ w'.frozen? ⟨w.heap.size + 2, 1, none⟩ = false) := fun w' hw' => pair_at ((hw'.block _ hzr).trans HCc.out)
   clear hB hj hgd hgab hmem hcell hax hCat hLk hLl
   by_cases hs1 : sg = 1
   ·subst hs1
    rw [if_pos rfl] at HSt
    obtain ⟨r1, hr1⟩ : ∃ r, plusP a b x y = r := ⟨_, rfl⟩
    obtain ⟨rk, rn⟩ := r1
    rw [hr1] at HSt hADD
    simp only at hADD
    have HNx : Hid ((P.take (k + 1)).foldl (partStep d.mem at') (0, 0) = (rk, rn)) := HSt
    have HADD : Hid (∀ w', Calls Tryz.prog 142 #[.agg #[.int .i64 a, .int .i64 b], .agg #[.int .i64 x, .int .i64 y]] w' fun e w'' => e = .returned (.tuple #[.agg #[.int .i64 rk, .int .i64 rn], .nilIface]) ∧ Below w'.heap.size w' w'') := hADD
    clear hADD hSUB HSt hr1 hsg hjs
    go_wp2_with fail
    go_region_law ((go_simp; refine (HADD.out _).mono ?_; rintro e w4 ⟨rfl, hb4⟩; have hN4 := onB (W0 := wr) (by go_grown) hb4; obtain ⟨n0, n1, n2, n3⟩ := HKeep.out _ hN4; have HN4 : Hid (Below wr.heap.size wr _) := hN4; clear hb4))
    all_goals clear hN4
    all_goals go_wp2_with fail
    all_goals go_roundg (N - (k + 1))
    all_goals first
     | omega
     | exact ⟨k + 1, rk, rn, by omega, rfl, by go_num, rfl, HNx, pair_set ((HN4.out.block _ hzr).trans HCc.out), pair_grown (grown_then HGr.out HN4.out)⟩
     | exact ⟨k + 1, rk, rn, by omega, rfl, by go_num, rfl, HNx, pair_set ((HN4.out.block _ hzr).trans HCc.out), grown_drew (pair_grown (grown_then HGr.out HN4.out))⟩
   ·have hs2 : sg = -1 := by omega
    subst hs2
    rw [if_neg (by decide), if_pos rfl] at HSt
    obtain ⟨r1, hr1⟩ : ∃ r, minusP a b x y = r := ⟨_, rfl⟩
    obtain ⟨rk, rn⟩ := r1
    rw [hr1] at HSt hSUB
    simp only at hSUB
    have HNx : Hid ((P.take (k + 1)).foldl (partStep d.mem at') (0, 0) = (rk, rn)) := HSt
    have HSUB : Hid (∀ w', Calls Tryz.prog 141 #[.agg #[.int .i64 a, .int .i64 b], .agg #[.int .i64 x, .int .i64 y]] w' fun e w'' => e = .returned (.tuple #[.agg #[.int .i64 rk, .int .i64 rn], .nilIface]) ∧ Below w'.heap.size w' w'') := hSUB
    clear hADD hSUB HSt hr1 hsg hs1 hjs
    go_wp2_with fail
    go_region_law ((go_simp; refine (HSUB.out _).mono ?_; rintro e w4 ⟨rfl, hb4⟩; have hN4 := onB (W0 := wr) (by go_grown) hb4; obtain ⟨n0, n1, n2, n3⟩ := HKeep.out _ hN4; have HN4 : Hid (Below wr.heap.size wr _) := hN4; clear hb4))
    all_goals clear hN4
    all_goals go_wp2_with fail
    all_goals go_roundg (N - (k + 1))
    all_goals first
     | omega
     | exact ⟨k + 1, rk, rn, by omega, rfl, by go_num, rfl, HNx, pair_set ((HN4.out.block _ hzr).trans HCc.out), pair_grown (grown_then HGr.out HN4.out)⟩
     | exact ⟨k + 1, rk, rn, by omega, rfl, by go_num, rfl, HNx, pair_set ((HN4.out.block _ hzr).trans HCc.out), grown_drew (pair_grown (grown_then HGr.out HN4.out))⟩
  ·have hke : k = N := by omega
   subst hke
   have HV : Hid (V = (a, b)) := by show _ = _; rw [← HFin.out]; exact HF.out
   obtain ⟨s0, s1, f0, f1⟩ := pair_at HCc.out
   have k1 : wr.heap[w.heap.size + 1]? = some (.cells #[.int .i64 0, .int .i64 0] 48) := (HGr.out.block (w.heap.size + 1) (by rw [HW0.out.2.2]; omega) (fun e => by simp at e)).trans HW0.out.2.1
   obtain ⟨e0, e1, g0, g1⟩ := pair_at k1
   clear hB k1
   go_wp2_with fail
   refine bodyPost_ret (v := .tuple #[.agg #[.int .i64 a, .int .i64 b], .nilIface]) (by simp [results, Tryz.results105, go_sem, e0, e1]) rfl ⟨by rw [HV.out], ?_⟩
   exact (HBw.out.setCell (by show w.heap.size ≤ w.heap.size + 1; omega) _).setCell (by show w.heap.size ≤ w.heap.size + 1; omega) _
end Go.Proofs.YtjffbmejobjmjafGreatDoor

