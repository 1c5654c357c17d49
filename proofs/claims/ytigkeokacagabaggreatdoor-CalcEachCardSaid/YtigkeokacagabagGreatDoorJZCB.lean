/-
  What Order and All of package calc answer, called in whatever memory.
-/
import Derived.Test.YtigkeokacagabagGreatDoorJZBY
import Derived.Test.YtigkeokacagabagGreatDoorJZCA
namespace Go.Proofs.YtigkeokacagabagGreatDoor
open Go.ChangeShapes Go.WideShapes Go.ChangeAt Go.RowKit
set_option maxRecDepth 20000
set_option maxHeartbeats 4000000 in
theorem corder_any (A0:Option Addr) (cap n:Nat) (D:Nat→Dm) (A:Nat→Option Addr) (C:Nat→Nat) (w:World) (hM:DimsV w A0 cap n D A C) :
  Calls Tryz.prog 15 #[.agg #[.slice A0 n cap]] w fun e w'=>(∃ A' c',e=.returned (.tuple #[.slice A' (coL D n).length c',errV (ruErr D n).2.2])∧IntsAt w' A' c' (coL D n))∧Below w.heap.size w w':=by
 have hB0:=ownOut_below w A0 n cap 29
 have hA:=ownOut_at w A0 n cap 29
 obtain ⟨W,hW⟩:∃ W,ownOut w A0 n cap 29=W:=⟨_,rfl⟩
 rw [hW] at hB0 hA
 unfold ownOut at hW
 have HB0:Hid (Below w.heap.size w W):=hB0
 by_cases hr:(ruErr D n).2.2=0
 case neg =>
  have hl:=new_bad A0 cap n D A C W hr (hM.later hB0)
  have HE:Hid (coL D n=[]):=by show _=_;unfold coL;rw [if_neg hr]
  have HEr:Hid (errV (ruErr D n).2.2=.iface 83 (.int .i64 (ruErr D n).2.2)):=errV_some hr
  rw [errV_some hr] at hl
  generalize (ruErr D n).2.2=z at hl HEr
  clear hM hB0 hr
  go_enter Tryz.func15,Tryz.ntmps15
  go_wp2_with fail
  refine hl.mono ?_
  rintro e w1 ⟨rfl,hb1⟩
  go_wp2_with fail
  go_returns
  rw [HE.out,HEr.out]
  exact ⟨⟨none,0,rfl,Nat.zero_le _,Or.inl rfl⟩,onB HB0.out hb1⟩
 obtain ⟨hE,hR⟩:=ru_right hr
 have hl:=new_any A0 cap n D A C W hE hR (hM.later hB0)
 have HE:Hid (coL D n=ordTo (rowsL D n) (prodN D n)∧(coL D n).length=prodN D n):=by
  have e:coL D n=ordTo (rowsL D n) (prodN D n):=by unfold coL;rw [if_pos hr]
  exact ⟨e,by rw [e];exact ord_len (rows_inn hR hE) (rows_acyc hR hE) (prodN D n) (by rw [rows_len];exact Nat.le_refl _)⟩
 have HOr:Hid (∀ qp g X w',PlanV w' qp g n D X→Calls Tryz.prog 33 #[.pointer (some ⟨qp,0,none⟩)] w' fun e w''=>(∃ A' c',e=.returned (.tuple #[.slice A' (coL D n).length c',.nilIface])∧IntT w'' A' c' (coL D n))∧Below w'.heap.size w' w''):=fun qp g X w' h=>by
  have h2:=orderof_any qp g n D X w' hR hE h
  rw [←HE.out.1,←HE.out.2] at h2
  exact h2
 rw [hr,errV_zero]
 generalize coL D n=L at HOr ⊢
 generalize L.length=ll at HOr ⊢
 clear hM hB0 hr hE hR HE
 go_enter Tryz.func15,Tryz.ntmps15
 go_wp2_with fail
 refine hl.mono ?_
 rintro e w1 ⟨⟨qp,g,X,rfl,-,-,hP⟩,hb1⟩
 have HB1:Hid (Below w.heap.size w w1):=onB HB0.out hb1
 have hor:=HOr.out qp g X w1 hP
 clear hb1 hl hP
 go_wp2_with fail
 refine hor.mono ?_
 rintro e w2 ⟨⟨A',c',rfl,hI⟩,hb2⟩
 have HI:Hid (IntsAt w2 A' c' L):=hI.at
 have HB2:Hid (Below w.heap.size w w2):=onB HB1.out hb2
 clear hI hb2 hor
 go_wp2_with fail
 go_returns
 exact ⟨⟨A',c',rfl,HI.out⟩,HB2.out⟩
theorem leaf_none {D:Nat→Dm} {n:Nat} {p:List Int} (h:leafV D n p=true):byTo D p n<0:=by
 have hall:∀ i,i<n→notLeaf D p i=false:=by
  unfold leafV at h
  split at h
  ·rcases findFrom_cases (notLeaf D p) n 0 with ⟨-,h2⟩ | ⟨k,h1,-⟩
   ·exact fun i hi=>h2 i (Nat.zero_le _) (by omega)
   ·rw [h1] at h
    simp at h
  ·cases h
 have key:∀ k,k≤n→byTo D p k = -1:=by
  intro k
  induction k with
  | zero=>intro _;rfl
  | succ k ih =>
   intro hk
   have h2:=hall k (by omega)
   rw [by_miss (fun h1=>by
    unfold notLeaf at h2
    rw [h1.1] at h2
    exact absurd h2 (by decide))]
   exact ih (by omega)
 rw [key n (Nat.le_refl _)]
 omega
theorem cex_cu:cuErr ndmO 1 [⟨[1],7⟩]=0:=by
 unfold cuErr
 rw [ndm_ru,if_neg (by simp)]
 decide +kernel
theorem cex_len:(caL ndmO 1 [⟨[1],7⟩]).length=2:=by rw [caL_len cex_cu,ndm_prod]
theorem cex_at:(caL ndmO 1 [⟨[1],7⟩]).getD 0 noC=(1,7):=by
 rw [caL_at cex_cu (by rw [ndm_prod];omega)]
 decide +kernel
theorem eachO {w:World} {o:Obj} {k:Nat} {x:Obj} (h:w.heap[k]?=some x):(w.alloc o).heap[k]?=some x:=by
 rw [heap_alloc_old _ _ (Array.getElem?_eq_some_iff.1 h).1]
 exact h
theorem eachN {w:World} {cs:Array Value} {t k:Nat} (h:w.heap.size=k):(w.alloc (.cells cs t)).heap[k]?=some (.cells cs t (0,0)):=by
 subst h
 exact heap_alloc_new ..
def cexW (w:World):World:=((((w.alloc (.cells #[.string ⟨#[98]⟩,.int .i64 (-1),.int .i64 0,.string ⟨#[]⟩,.string ⟨#[99]⟩,.int .i64 0,.int .i64 1,.string ⟨#[]⟩] 40)).alloc (.cells #[.string ⟨#[97]⟩,.int .i64 0,.slice (some ⟨w.heap.size,0,none⟩) 2 2] 43)).alloc (.cells #[.slice (some ⟨w.heap.size+1,0,none⟩) 1 1] 29)).alloc (.cells #[.int .i64 1] 3)).alloc (.cells #[.slice (some ⟨w.heap.size+3,0,none⟩) 1 1,.int .i64 7] 46)
theorem cexW_below (w:World):Below w.heap.size w (cexW w):=by unfold cexW;go_grown
theorem cexW_dims (w:World):DimsV (cexW w) (some ⟨w.heap.size+1,0,none⟩) 1 1 ndmO (fun _=>some ⟨w.heap.size,0,none⟩) (fun _=>2):=by
 have k0:(cexW w).heap[w.heap.size]?=some (.cells #[.string ⟨#[98]⟩,.int .i64 (-1),.int .i64 0,.string ⟨#[]⟩,.string ⟨#[99]⟩,.int .i64 0,.int .i64 1,.string ⟨#[]⟩] 40 (0,0)):=by unfold cexW;exact eachO (eachO (eachO (eachO (eachN rfl))))
 have k1:(cexW w).heap[w.heap.size+1]?=some (.cells #[.string ⟨#[97]⟩,.int .i64 0,.slice (some ⟨w.heap.size,0,none⟩) 2 2] 43 (0,0)):=by unfold cexW;exact eachO (eachO (eachO (eachN (by simp))))
 refine ⟨Nat.le_refl _,Or.inr ⟨w.heap.size+1,0,rfl,(Array.getElem?_eq_some_iff.1 k1).1,fun i hi=>?_⟩⟩
 have hi0:i=0:=by omega
 subst hi0
 refine ⟨(Lib.cell_of_heap k1 0).trans rfl,(Lib.cell_of_heap k1 1).trans rfl,(Lib.cell_of_heap k1 2).trans rfl,Nat.le_refl _,Or.inr ⟨w.heap.size,0,rfl,(Array.getElem?_eq_some_iff.1 k0).1,fun j hj=>?_⟩⟩
 have hj2:j<2:=hj
 rcases j with _ | _ | j
 ·exact ⟨(Lib.cell_of_heap k0 0).trans rfl,(Lib.cell_of_heap k0 1).trans rfl,(Lib.cell_of_heap k0 2).trans rfl,(Lib.cell_of_heap k0 3).trans rfl⟩
 ·exact ⟨(Lib.cell_of_heap k0 4).trans rfl,(Lib.cell_of_heap k0 5).trans rfl,(Lib.cell_of_heap k0 6).trans rfl,(Lib.cell_of_heap k0 7).trans rfl⟩
 ·omega
def cexX (w:World):List EnL:=[⟨⟨[1],7⟩,some ⟨w.heap.size+3,0,none⟩,1⟩]
theorem cexW_ens (w:World):EnsV (cexW w) (some ⟨w.heap.size+4,0,none⟩) 1 (cexX w):=by
 have k3:IntB (cexW w) (w.heap.size+3) [1]:=by unfold IntB cexW;exact eachO (eachN (by simp))
 have k4:(cexW w).heap[w.heap.size+4]?=some (.cells #[.slice (some ⟨w.heap.size+3,0,none⟩) 1 1,.int .i64 7] 46 (0,0)):=by unfold cexW;exact eachN (by simp)
 refine ⟨Nat.le_refl _,by decide,Or.inr ⟨w.heap.size+4,0,rfl,(Array.getElem?_eq_some_iff.1 k4).1,fun j u hj=>?_,fun x hx=>?_⟩⟩
 ·rw [Nat.zero_add,Lib.cell_of_heap k4,←hj]
  simp [cexX,cellsE]
 ·simp only [cexX,List.mem_cons,List.not_mem_nil,or_false] at hx
  rw [hx]
  exact k3.pl
section
variable {D:Nat→Dm} {n:Nat} {l:List En}
theorem each_sol (h:cuErr D n l=0) {X:Nat} (hX:X<prodN D n):soErr D n l (placeL D n X)=0∧soV D n l (placeL D n X)=(caL D n l).getD X noC:=by
 have hE:=(ru_right (cu_ru h).1).1
 have e:soErr D n l (placeL D n X)=0:=by
  unfold soErr
  rw [if_neg (by simpa using h)]
  exact (placeL_in hE).ok
 exact ⟨e,by unfold soV;rw [if_pos e,caL_at h hX]⟩
theorem each_ent (h:cuErr D n l=0) {e:En} (he:e∈l):∃ m:Nat,numV D n e.pl=(m:Int)∧placeErr D n e.pl=0∧m<prodN D n∧(caL D n l).getD m noC=(1,e.n)∧-1000000000000≤e.n∧e.n≤1000000000000:=by
 have hEs:=ens_of (cu_ru h).2
 obtain ⟨h1,h2,h3⟩:=hEs.each e he
 obtain ⟨m,m1,m2,m3⟩:=num_lt h1
 refine ⟨m,?_,h1.ok,m2,?_,?_⟩
 ·unfold numV
  rw [if_pos h1.ok,m1]
 ·rw [caL_at h m2,m3,sol_leaf _ (leaf_none h2),get_mem hEs.rise he]
 ·unfold numOk at h3
  simp only [Bool.and_eq_true,decide_eq_true_eq] at h3
  omega
theorem each_need (hr:(ruErr D n).2.2=0) {m:Nat} (hm:m<prodN D n):neE D n (placeL D n m)=0∧neL D n (placeL D n m)=(rowsL D n).getD m []:=by
 have hE:=(ru_right hr).1
 have e:neE D n (placeL D n m)=0:=by
  unfold neE
  rw [hr,if_neg (by simp),←place_shapeN hE]
  exact (placeL_in hE).ok
 refine ⟨e,?_⟩
 unfold neL
 rw [if_pos e,num_place hE hm,Int.toNat_natCast,rows_at hm]
end
end Go.Proofs.YtigkeokacagabagGreatDoor
