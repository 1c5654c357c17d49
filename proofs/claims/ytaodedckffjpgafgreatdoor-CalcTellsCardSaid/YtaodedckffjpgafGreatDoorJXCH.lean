/-
  The leafs of a place, as the document reckons them: what its RollLeafs answers, and what tallysame.Places answers of the same places, called in whatever memory.
-/
import Derived.Test.YtaodedckffjpgafGreatDoorJXBZ
import Derived.Test.YtaodedckffjpgafGreatDoorJXCG
namespace Go.Proofs.YtaodedckffjpgafGreatDoor
open Go Go.ChangeShapes Go.WideShapes Go.ChangeAt Go.RowKit
set_option maxRecDepth 20000
theorem keepQ2 {W w':World} {b o b' o':Nat} {u v:Value} (h:b<W.heap.size∧b'<W.heap.size∧W.cell? ⟨b,o,none⟩=some u∧W.cell? ⟨b',o',none⟩=some v) (hB:Below W.heap.size W w'):Below W.heap.size W w'∧w'.cell? ⟨b,o,none⟩=some u∧w'.cell? ⟨b',o',none⟩=some v :=
 ⟨hB,(hB.cell (p:=⟨b,o,none⟩) h.1).trans h.2.2.1,(hB.cell (p:=⟨b',o',none⟩) h.2.1).trans h.2.2.2⟩
set_option maxHeartbeats 4000000 in
theorem samepls_any (A B:Option Addr) (ca cb:Nat) (xs ys:List PL) (w:World) (hl:lP xs=lP ys) (hn:xs.length≤20736) (h4:∀ x∈xs,x.p.length≤4) (hA:PlsV w A ca xs) (hB:PlsV w B cb ys) :
  Calls Tryz.prog 28 #[.slice A xs.length ca,.slice B ys.length cb] w fun e w'=>e=.returned (.bool true)∧Below w.heap.size w w':=by
 have HA:Hid (PlsV w A ca xs):=hA
 have HB:Hid (PlsV w B cb ys):=hB
 have HL:Hid (lP xs=lP ys):=hl
 have H4:Hid (∀ x∈xs,x.p.length≤4):=h4
 have hyl:ys.length=xs.length:=by rw [←lP_len,←hl,lP_len]
 obtain ⟨N,hN⟩:∃ N,xs.length=N:=⟨_,rfl⟩
 have HN:Hid (xs.length=N):=hN
 have HNy:Hid (ys.length=N):=by show _=_;rw [hyl];exact hN
 rw [hyl]
 rw [hN] at hn ⊢
 have hn':(N:Int)≤20736:=by omega
 have hne:((N:Int) != (N:Int))=false:=by simp
 clear hA hB hN hyl hl h4
 go_enter Tryz.func28,Tryz.ntmps28
 go_wp2_with fail
 go_loopg [5] N (fun g s5 wr => ∃ (k:Nat),k≤N∧g=N-k∧s5=.int .i64 k∧Below w.heap.size w wr)
 case atStart=>exact ⟨0,Nat.zero_le _,rfl,rfl,Below.refl _ _⟩
 case round =>
  obtain ⟨k,hk,rfl,rfl,hBw⟩:=hrel
  have HW:Hid (Below w.heap.size w wr):=hBw
  by_cases hlt:k<N
  ·have hki:(k:Int)<(N:Int):=by omega
   have hkx:k<xs.length:=by rw [HN.out];exact hlt
   have hky:k<ys.length:=by rw [HNy.out];exact hlt
   obtain ⟨hca,h0 | ⟨b1,o1,rfl,hz1,hc1⟩,hp1⟩:=HA.out.later hBw
   ·rw [h0] at hkx;simp at hkx
   obtain ⟨hcb,h0 | ⟨b2,o2,rfl,hz2,hc2⟩,hp2⟩:=HB.out.later hBw
   ·rw [h0] at hky;simp at hky
   rw [HN.out] at hca
   rw [HNy.out] at hcb
   have a1:=hc1 k hkx
   have a2:=hc2 k hky
   have hpp:(xs.getD k noP).p=(ys.getD k noP).p:=by rw [←lP_at,←lP_at,HL.out]
   have hs:∀ w',Below wr.heap.size wr w'→Calls Tryz.prog 52 #[.slice (xs.getD k noP).A (xs.getD k noP).p.length (xs.getD k noP).c,.slice (ys.getD k noP).A (ys.getD k noP).p.length (ys.getD k noP).c] w' fun e w''=>e=.returned (.bool true)∧Below w'.heap.size w' w'':=fun w' hw'=>by
    have h:=samepl_any (xs.getD k noP).A (ys.getD k noP).A (xs.getD k noP).c (ys.getD k noP).c (xs.getD k noP).p (ys.getD k noP).p w' (H4.out _ (pl_mem hkx)) ((hp1 _ (pl_mem hkx)).later hw').pl ((hp2 _ (pl_mem hky)).later hw').pl
    rw [decide_eq_true hpp] at h
    exact h
   have HSm:Hid (∀ w',Below wr.heap.size wr w'→Calls Tryz.prog 52 #[.slice (xs.getD k noP).A (xs.getD k noP).p.length (xs.getD k noP).c,.slice (ys.getD k noP).A (ys.getD k noP).p.length (ys.getD k noP).c] w' fun e w''=>e=.returned (.bool true)∧Below w'.heap.size w' w''):=hs
   have HKq:Hid (b1<wr.heap.size∧b2<wr.heap.size∧wr.cell? ⟨b1,o1+k,none⟩=some (.slice (xs.getD k noP).A (xs.getD k noP).p.length (xs.getD k noP).c)∧wr.cell? ⟨b2,o2+k,none⟩=some (.slice (ys.getD k noP).A (ys.getD k noP).p.length (ys.getD k noP).c)):=⟨hz1,hz2,a1,a2⟩
   generalize (xs.getD k noP).A=X1 at a1 HSm HKq
   generalize (xs.getD k noP).p.length=X2 at a1 HSm HKq
   generalize (xs.getD k noP).c=X3 at a1 HSm HKq
   generalize (ys.getD k noP).A=Y1 at a2 HSm HKq
   generalize (ys.getD k noP).p.length=Y2 at a2 HSm HKq
   generalize (ys.getD k noP).c=Y3 at a2 HSm HKq
   clear hs hc1 hc2 hp1 hp2 hBw hpp
   go_wp2_with fail
   go_cut [6] (fun s6 wx=>s6=.bool true∧Below wr.heap.size wr wx)
   case first=>as_aux_lemma =>
    go_region_held3 (fun w'=>Below wr.heap.size wr w'∧w'.cell? ⟨b1,o1+k,none⟩=some (.slice X1 X2 X3)∧w'.cell? ⟨b2,o2+k,none⟩=some (.slice Y1 Y2 Y3))
     ((refine keepQ2 HKq.out ?_;go_grown;done))
     (first | (go_at_call 52;refine (HSm.out _ (by go_grown)).mono ?_;rintro e w3 ⟨rfl,hb3⟩;have hM3:=onB (W0:=wr) (by go_grown) hb3;have hy3:=hM3.size;clear hb3))
    all_goals go_wp2_with fail
    all_goals go_meet
    all_goals exact ⟨rfl,by go_grown⟩
   case rest=>as_aux_lemma =>
   obtain ⟨rfl,hb⟩:=hcut
   have HB2:Hid (Below w.heap.size w wc):=onB HW.out hb
   clear hb a1 a2
   go_wp2_with fail
   go_roundg (N-(k+1))
   case measure=>omega
   case rel=>exact ⟨k+1,by omega,rfl,by go_num,HB2.out⟩
  ·have hke:k=N:=by omega
   subst hke
   clear hBw
   go_wp2_with fail
   go_ret
   exact ⟨rfl,HW.out⟩
end Go.Proofs.YtaodedckffjpgafGreatDoor
namespace Go.Proofs.YtaodedckffjpgafGreatDoor
open Go.ChangeShapes Go.WideShapes Go.ChangeAt Go.RowKit
set_option maxRecDepth 20000
theorem same_errC (c:Int) (w:World) (hk:Kind0 w):Calls Tryz.prog 13 #[errV c,.int .i64 c] w fun e w'=>e=.returned (.bool true)∧Below w.heap.size w w':=by
 by_cases h:c=0
 ·subst h
  have:=same_nil 0 w
  rw [errV_zero]
  exact this
 ·have:=same_hit c c w hk
  rw [errV_some h]
  simpa using this
theorem out_cellC {w w1:World} {A0:Option Addr} {n cap:Nat} (hB:Below (ownOut w A0 n cap 42).heap.size (ownOut w A0 n cap 42) w1):w1.cell? ⟨w.heap.size,0,none⟩=some (.slice A0 n cap)∧w.heap.size<w1.heap.size:=by
 have hS:=ownOut_size w A0 n cap 42
 exact ⟨(hB.cell (p:=⟨w.heap.size,0,none⟩) (by show w.heap.size<_;omega)).trans (ownOut_at ..),by have:=hB.size;omega⟩
theorem intB_ty {w:World} {g:Nat} {L:List Int} (h:IntB w g L):PlTy w (some ⟨g,0,none⟩) L.length L:=⟨Nat.le_refl _,Or.inr ⟨g,0,_,_,rfl,h,fun j hj=>by rw [Nat.zero_add];exact h.cell hj⟩⟩
set_option maxHeartbeats 16000000 in
theorem ctells_law (A0:Option Addr) (cap n:Nat) (D:Nat→Dm) (A:Nat→Option Addr) (C:Nat→Nat) (AE:Option Addr) (ce:Nat) (xs:List EnL) (w:World) (hM:DimsV w A0 cap n D A C) (hEn:EnsV w AE ce xs) (hK:Kind0 w)
  (hAll:∀ w',Below w.heap.size w w'→Calls Tryz.prog 25 #[.agg #[.slice A0 n cap],.slice AE xs.length ce] w' fun e w''=>(∃ A' c',e=.returned (.tuple #[.slice A' (caL D n (lE xs)).length c',errV (cuErr D n (lE xs))])∧CelV w'' A' c' (caL D n (lE xs)))∧Below w'.heap.size w' w'')
  (hFau:∀ w',Below w.heap.size w w'→Calls Tryz.prog 27 #[.agg #[.slice A0 n cap],.slice AE xs.length ce] w' fun e w''=>(∃ A' c' ps,e=.returned (.tuple #[.slice A' ps.length c',errV (cuErr D n (lE xs))])∧lP ps=cfL D n (lE xs)∧PlsV w'' A' c' ps)∧Below w'.heap.size w' w'')
  (hOrd:∀ w',Below w.heap.size w w'→Calls Tryz.prog 31 #[.agg #[.slice A0 n cap]] w' fun e w''=>(∃ A' c',e=.returned (.tuple #[.slice A' (coL D n).length c',errV (ruErr D n).2.2])∧IntsAt w'' A' c' (coL D n))∧Below w'.heap.size w' w'') :
  Calls Tryz.prog 8 #[.agg #[.slice A0 n cap],.slice AE xs.length ce] w fun e w'=>e=.returned (.bool true)∧Below w.heap.size w w':=by
 obtain ⟨i0,hi0,hz0,hz1,hz2⟩:=info_parts Tryz.infoPla
 have hB0:=ownOut_below w A0 n cap 42
 have HBx:Hid (∀ w1,Below (ownOut w A0 n cap 42).heap.size (ownOut w A0 n cap 42) w1→w1.cell? ⟨w.heap.size,0,none⟩=some (.slice A0 n cap)∧w.heap.size<w1.heap.size):=fun w1 h=>out_cellC h
 obtain ⟨W,hW⟩:∃ W,ownOut w A0 n cap 42=W:=⟨_,rfl⟩
 rw [hW] at hB0 HBx
 unfold ownOut at hW
 have HB0:Hid (Below w.heap.size w W):=hB0
 obtain ⟨CL,hCL⟩:∃ CL,caL D n (lE xs)=CL:=⟨_,rfl⟩
 obtain ⟨FL,hFL⟩:∃ FL,cfL D n (lE xs)=FL:=⟨_,rfl⟩
 obtain ⟨OL,hOL⟩:∃ OL,coL D n=OL:=⟨_,rfl⟩
 obtain ⟨E1,hE1⟩:∃ E1,cuErr D n (lE xs)=E1:=⟨_,rfl⟩
 obtain ⟨E2,hE2⟩:∃ E2,(ruErr D n).2.2=E2:=⟨_,rfl⟩
 rw [hCL,hE1] at hAll
 rw [hFL,hE1] at hFau
 rw [hOL,hE2] at hOrd
 have HCu:Hid (∀ w',Below W.heap.size W w'→Calls Tryz.prog 14 #[.agg #[.slice A0 n cap],.slice AE xs.length ce] w' fun e w''=>e=.returned (.int .i64 E1)∧Below w'.heap.size w' w''):=fun w' hB=>by
  have h:=scube_any A0 cap n D A C AE ce xs w' (hM.later (onB hB0 hB)) (hEn.later (onB hB0 hB))
  rw [hE1] at h
  exact h
 have HRi:Hid (∀ w',Below W.heap.size W w'→Calls Tryz.prog 19 #[.agg #[.slice A0 n cap]] w' fun e w''=>e=.returned (.int .i64 E2)∧Below w'.heap.size w' w''):=fun w' hB=>by
  have h:=sright_any A0 cap n D A C w' (hM.later (onB hB0 hB))
  rw [hE2] at h
  exact h
 have HAll:Hid (∀ w',Below W.heap.size W w'→Calls Tryz.prog 25 #[.agg #[.slice A0 n cap],.slice AE xs.length ce] w' fun e w''=>(∃ A' c',e=.returned (.tuple #[.slice A' CL.length c',errV E1])∧CelV w'' A' c' CL)∧Below w'.heap.size w' w''):=fun w' hB=>hAll w' (onB hB0 hB)
 have HFau:Hid (∀ w',Below W.heap.size W w'→Calls Tryz.prog 27 #[.agg #[.slice A0 n cap],.slice AE xs.length ce] w' fun e w''=>(∃ A' c' ps,e=.returned (.tuple #[.slice A' ps.length c',errV E1])∧lP ps=FL∧PlsV w'' A' c' ps)∧Below w'.heap.size w' w''):=fun w' hB=>hFau w' (onB hB0 hB)
 have HOrd:Hid (∀ w',Below W.heap.size W w'→Calls Tryz.prog 31 #[.agg #[.slice A0 n cap]] w' fun e w''=>(∃ A' c',e=.returned (.tuple #[.slice A' OL.length c',errV E2])∧IntsAt w'' A' c' OL)∧Below w'.heap.size w' w''):=fun w' hB=>hOrd w' (onB hB0 hB)
 have HEr1:Hid (∀ w',Below W.heap.size W w'→Calls Tryz.prog 13 #[errV E1,.int .i64 E1] w' fun e w''=>e=.returned (.bool true)∧Below w'.heap.size w' w''):=fun w' hB=>same_errC _ w' (hK.later (onB hB0 hB))
 have HEr2:Hid (∀ w',Below W.heap.size W w'→Calls Tryz.prog 13 #[errV E2,.int .i64 E2] w' fun e w''=>e=.returned (.bool true)∧Below w'.heap.size w' w''):=fun w' hB=>same_errC _ w' (hK.later (onB hB0 hB))
 have HGo:Hid (E1=0→(allErr D n).2.2=0∧AllR D n∧Ens D n (lE xs)):=fun h=>by
  obtain ⟨h1,h2⟩:=cu_ru (hE1.trans h)
  exact ⟨(ru_right h1).1,(ru_right h1).2,ens_of h2⟩
 have HC0:Hid (E1≠0→CL=[]):=fun h=>by rw [←hCL];exact caL_bad (by rw [hE1];exact h)
 have HC1:Hid (E1=0→CL.length=prodN D n):=fun h=>by rw [←hCL];exact caL_len (hE1.trans h)
 have HSo:Hid (E1=0→∀ w',Below W.heap.size W w'→Calls Tryz.prog 16 #[.agg #[.slice A0 n cap],.slice AE xs.length ce] w' fun e w''=>(∃ A' c',e=.returned (.slice A' CL.length c')∧CelV w'' A' c' CL)∧Below w'.heap.size w' w''):=fun hz w' hB=>by
  obtain ⟨g1,g2,g3⟩:=HGo.out hz
  refine (ssolve_any A0 cap n D A C AE ce xs w' g1 g2 g3 (hM.later (onB hB0 hB)) (hEn.later (onB hB0 hB))).mono ?_
  rintro e w'' ⟨⟨g,L,rfl,hL,hC,hV⟩,hb⟩
  have hLe:L=CL:=by rw [←hCL];exact ca_eq (hE1.trans hz) hL hV
  subst hLe
  obtain ⟨-,-,hp3,-⟩:=allErr_some g1
  exact ⟨⟨some ⟨g,0,none⟩,L.length,by rw [hL],Nat.le_refl _,by omega,Or.inr ⟨g,0,rfl,hC.celAt⟩⟩,hb⟩
 have HC3:Hid (CL.length≤3000):=by
  show CL.length≤3000
  by_cases h:E1=0
  ·rw [HC1.out h]
   obtain ⟨-,-,hp3,-⟩:=allErr_some (HGo.out h).1
   exact hp3
  ·rw [HC0.out h]
   exact Nat.zero_le _
 have HFk:Hid (cfK CL (placeL D n) CL.length=FL):=by
  show _=FL
  rw [←hFL,←hCL]
  rfl
 have HAt:Hid (∀ k,k<CL.length→∀ w',Below W.heap.size W w'→Calls Tryz.prog 24 #[.agg #[.slice A0 n cap],.int .i64 k] w' fun e w''=>(∃ g,e=.returned (.slice (some ⟨g,0,none⟩) n n)∧IntB w'' g (placeL D n k))∧Below w'.heap.size w' w''):=fun k hk w' hB=>by
  have h:E1=0:=by
   by_cases h:E1=0
   ·exact h
   ·rw [HC0.out h] at hk;exact absurd hk (Nat.not_lt_zero _)
  refine (rat_blk A0 cap n D A C k w' (HGo.out h).1 (by rw [←HC1.out h];exact hk) (hM.later (onB hB0 hB))).mono ?_
  rintro e w'' ⟨⟨g,rfl,-,hI⟩,hb⟩
  exact ⟨⟨g,rfl,hI⟩,hb⟩
 have HN4:Hid (∀ k,k<CL.length→placeL D n k≠[]∧n≤4):=fun k hk=>by
  have h:E1=0:=by
   by_cases h:E1=0
   ·exact h
   ·rw [HC0.out h] at hk;exact absurd hk (Nat.not_lt_zero _)
  obtain ⟨hn1,hn4,-,-⟩:=allErr_some (HGo.out h).1
  refine ⟨fun e=>?_,hn4⟩
  have:=placeL_len D n k
  rw [e] at this
  simp at this
  omega
 have HO0:Hid (E2≠0→OL=[]):=fun h=>by rw [←hOL];unfold coL;rw [if_neg (by rw [hE2];exact h)]
 have HOr:Hid (E2=0→∀ w' w'' A' c' ys,Below W.heap.size W w'→RowsV w' A' c' ys→ys.length=prodN D n→(∀ i,i<prodN D n→ToldP D n (placeL D n i) (ys.getD i noR).p)→Below w'.heap.size w' w''→Calls Tryz.prog 29 #[.slice A' (prodN D n) c'] w'' fun e w3=>(∃ A3 c3,e=.returned (.slice A3 OL.length c3)∧IntsAt w3 A3 c3 OL)∧Below w''.heap.size w'' w3):=fun hz w' w'' A' c' ys hB hY hl hT hb=>by
  obtain ⟨g1,g2⟩:=ru_right (hE2.trans hz)
  obtain ⟨-,-,hp3,-⟩:=allErr_some g1
  have hll:(lR ys).length=prodN D n:=by rw [lR_len,hl]
  have hT':∀ i,i<prodN D n→ToldP D n (placeL D n i) ((lR ys).getD i []):=fun i hi=>by rw [lR_at];exact hT i hi
  have hre:lR ys=rowsL D n:=rows_eq g2 g1 hll hT'
  have h:=behind_big A' c' ys w'' (by omega) (told_inn g2 g1 hll hT') (fun x hx=>by
   obtain ⟨i,hi,rfl⟩:=List.mem_iff_getElem.1 hx
   have:=(hT i (by omega)).2.1
   rw [List.getD_eq_getElem?_getD,List.getElem?_eq_getElem hi] at this
   exact this) (fun i hi=>told_acyc g2 g1 hll hT' i hi) (hY.later hb)
  have hO:ordTo (lR ys) ys.length=OL:=by rw [←hOL,hre,hl];unfold coL;rw [if_pos (hE2.trans hz)]
  rw [hO,hl] at h
  exact h
 have HTo:Hid (E2=0→∀ w',Below W.heap.size W w'→Calls Tryz.prog 30 #[.agg #[.slice A0 n cap]] w' fun e w''=>(∃ A' c' ys,e=.returned (.slice A' (prodN D n) c')∧ys.length=prodN D n∧RowsV w'' A' c' ys∧∀ i,i<prodN D n→ToldP D n (placeL D n i) (ys.getD i noR).p)∧Below w'.heap.size w' w''):=fun hz w' hB=>by
  obtain ⟨g1,g2⟩:=ru_right (hE2.trans hz)
  exact salltold_any A0 cap n D A C w' g2 g1 (hM.later (onB hB0 hB))
 have HOl:Hid (OL.length≤3000):=by
  show OL.length≤3000
  by_cases h:E2=0
  ·obtain ⟨g1,-⟩:=ru_right (hE2.trans h)
   obtain ⟨-,-,hp3,-⟩:=allErr_some g1
   have:OL.length≤prodN D n:=by
    rw [←hOL]
    unfold coL
    rw [if_pos (hE2.trans h)]
    exact ordTo_le _ _
   omega
  ·rw [HO0.out h]
   exact Nat.zero_le _
 obtain ⟨xl,hxl⟩:∃ xl,xs.length=xl:=⟨_,rfl⟩
 rw [hxl] at HCu HAll HFau HSo ⊢
 obtain ⟨o0,hq⟩:=HBx.out W (Below.refl _ _)
 have hc:=HCu.out W (Below.refl _ _)
 clear hM hEn hK hAll hFau hOrd hB0 hCL hFL hOL hE1 hE2 hxl HGo HC1
 obtain ⟨NL,hNL⟩:∃ NL,CL.length=NL:=⟨_,rfl⟩
 have HNL:Hid (CL.length=NL):=hNL
 have hNL3:NL≤3000:=by rw [←hNL];exact HC3.out
 have hNLI:(NL:Int)≤3000:=by omega
 go_enter Tryz.func8,Tryz.ntmps8
 go_wp2_with fail
 refine hc.mono ?_
 rintro e w1 ⟨rfl,hb1⟩
 have HB1:Hid (Below W.heap.size W w1):=hb1
 clear hc hb1 o0 hq hW hNL
 go_upto_if 25 with fail
 go_cut [6] from 21 (fun s6 wx => ∃ Aw cw,s6=.slice Aw NL cw∧CelV wx Aw cw CL∧Below W.heap.size W wx)
 case first =>
  by_cases hz:E1=0
  ·have hs:=HSo.out hz w1 HB1.out
   obtain ⟨o0,hq⟩:=HBx.out w1 HB1.out
   rw [HNL.out] at hs
   subst hz
   go_wp2_with fail
   refine hs.mono ?_
   rintro e w2 ⟨⟨A2,c2,rfl,hC2⟩,hb2⟩
   go_wp2_with fail
   go_meet
   exact ⟨A2,c2,rfl,hC2,onB HB1.out hb2⟩
  ·have hzf:(E1 == 0)=false:=by simpa using hz
   have HCn:Hid (CL=[]∧NL=0):=by
    have h:=HC0.out hz
    exact ⟨h,by rw [←HNL.out,h];rfl⟩
   clear hz
   go_wp2_with fail
   go_meet
   exact ⟨none,0,by rw [HCn.out.2],by rw [HCn.out.1];exact CelV.nil _ _ _ (by decide),HB1.out⟩
 case rest =>
 obtain ⟨Aw,cw,rfl,hCw,hBc⟩:=hcut
 obtain ⟨w2,rfl⟩:∃ w2:World,w2=wc:=⟨_,rfl⟩
 have HCw:Hid (CelV w2 Aw cw CL):=hCw
 have HB2:Hid (Below W.heap.size W w2):=hBc
 clear hCw hBc HSo
 go_wp2_with fail
 go_loopg [7,8] NL (fun gg s7 s8 wr => ∃ (k:Nat) (ys:List PL) (Af:Option Addr) (cf:Nat),k≤NL∧gg=NL-k∧s8=.int .i64 k∧s7=.slice Af ys.length cf∧Hid (lP ys=cfK CL (placeL D n) k∧∀ y∈ys,y.p≠[]∧y.p.length≤4∧PlTy wr y.A y.c y.p)∧Hid (wr.ownsRow w2.heap.size 44 1 (.slice Af ys.length cf) ys.length (cellsP ys))∧Hid (Below w2.heap.size w2 wr))
 case atStart=>exact ⟨0,[],none,0,Nat.zero_le _,rfl,rfl,rfl,⟨rfl,fun y hy=>by cases hy⟩,World.ownsRow_nil _ _ _ _,Below.refl _ _⟩
 case round =>
  obtain ⟨k,ys,Af,cf,hk,rfl,rfl,rfl,HY,HO,HBr⟩:=hrel
  obtain ⟨wi,rfl⟩:∃ wi:World,wi=wr:=⟨_,rfl⟩
  have HYl:Hid (ys.length≤k):=by
   show ys.length≤k
   have h:=congrArg List.length HY.out.1
   rw [lP_len] at h
   have:=cfK_len CL (placeL D n) k
   omega
  have HBi:Hid (Below W.heap.size W wi):=onB HB2.out HBr.out
  obtain ⟨yl,hyl⟩:∃ yl,ys.length=yl:=⟨_,rfl⟩
  have Hyl:Hid (ys.length=yl):=hyl
  rw [hyl] at HO HYl ⊢
  have hylk:yl≤k:=HYl.out
  by_cases hlt:k<NL
  ·have hki:(k:Int)<(NL:Int):=by omega
   obtain ⟨hcc,-,h0 | ⟨b,o,rfl,hbw,hcl⟩⟩:=HCw.out.later HBr.out
   ·have:=HNL.out;rw [h0] at this;simp at this;omega
   obtain ⟨c0,-⟩:=hcl k (by rw [HNL.out];exact hlt)
   rw [HNL.out] at hcc
   have hccI:(NL:Int)≤(cw:Int):=by omega
   have HKs:Hid (cfK CL (placeL D n) (k+1)=cfK CL (placeL D n) k ++ (if (CL.getD k noC).1=2 then [placeL D n k] else [])):=rfl
   have hat:=HAt.out k (by rw [HNL.out];exact hlt) wi HBi.out
   obtain ⟨o0,hq⟩:=HBx.out wi HBi.out
   have HPn:=HN4.out k (by rw [HNL.out];exact hlt)
   generalize (CL.getD k noC).1=kk at c0 HKs
   clear hcl hyl
   by_cases h2:kk=2
   ·subst h2
    go_wp2_with fail
    refine hat.mono ?_
    rintro e w3 ⟨⟨g3,rfl,hI3⟩,hb3⟩
    have HO3:Hid (w3.ownsRow w2.heap.size 44 1 (.slice Af yl cf) yl (cellsP ys)):=own_later HO.out hb3
    have HT3:Hid (PlTy w3 (some ⟨g3,0,none⟩) n (placeL D n k)):=by
     have h:=intB_ty hI3
     rw [placeL_len] at h
     exact h
    have HY3:Hid (∀ y∈ys,y.p≠[]∧y.p.length≤4∧PlTy w3 y.A y.c y.p):=fun y hy=>⟨(HY.out.2 y hy).1,(HY.out.2 y hy).2.1,(HY.out.2 y hy).2.2.later hb3⟩
    have HB3:Hid (Below w2.heap.size w2 w3):=onB HBr.out hb3
    have hs3:=HB3.out.size
    clear hat hb3 hI3 o0 hq c0
    go_wp2_with (at_builtin;refine wpList_append_own _ rfl _ _ 61 rfl w2.heap.size 44 i0 (.slice none 0 0) 1 24 Tryz.underlying61 hi0 hz0 hz1 hz2 rfl (by decide) _ _ _ rfl (HO3.out.alloc _) ⟨w3.heap.size,0,none⟩ 1 1 [.slice (some ⟨g3,0,none⟩) n n] rfl rfl one_cell (by intro u hu;simp at hu;subst hu;rfl) (by unfold maxLen;omega) (by omega) (by simp;omega) ?_)
    intro v' w4 hown' hgrow _
    obtain ⟨A4,c4,rfl⟩:=own_form hown'
    have HB4:Hid (Below w2.heap.size w2 w4):=grown_own HB3.out HO3.out hgrow
    have hal:∀ {B:Option Addr} {d:Nat} {Y:List Int},PlTy w3 B d Y→PlTy w4 B d Y:=fun hY=>plty_row (hY.later (by go_grown)) (HO3.out.alloc _) hgrow
    have HYn:Hid ((ys ++ [(⟨placeL D n k,some ⟨g3,0,none⟩,n⟩:PL)]).length=yl+1):=by show _=_;rw [List.length_append,Hyl.out];rfl
    have HY4:Hid (lP (ys ++ [(⟨placeL D n k,some ⟨g3,0,none⟩,n⟩:PL)])=cfK CL (placeL D n) (k+1)∧∀ y∈ys ++ [(⟨placeL D n k,some ⟨g3,0,none⟩,n⟩:PL)],y.p≠[]∧y.p.length≤4∧PlTy w4 y.A y.c y.p):=by
     refine ⟨by rw [lP_append,HY.out.1,HKs.out];simp [lP],fun y hy=>?_⟩
     rcases List.mem_append.1 hy with hy | hy
     ·exact ⟨(HY3.out y hy).1,(HY3.out y hy).2.1,hal (HY3.out y hy).2.2⟩
     ·rw [List.mem_singleton.1 hy]
      exact ⟨HPn.1,by rw [placeL_len];exact HPn.2,hal HT3.out⟩
    have HO4:Hid (w4.ownsRow w2.heap.size 44 1 (.slice A4 (ys ++ [(⟨placeL D n k,some ⟨g3,0,none⟩,n⟩:PL)]).length c4) (ys ++ [(⟨placeL D n k,some ⟨g3,0,none⟩,n⟩:PL)]).length (cellsP (ys ++ [(⟨placeL D n k,some ⟨g3,0,none⟩,n⟩:PL)]))):=by
     show World.ownsRow ..
     rw [HYn.out,cellsP_append]
     have e:cellsP [(⟨placeL D n k,some ⟨g3,0,none⟩,n⟩:PL)]=[.slice (some ⟨g3,0,none⟩) n n]:=by simp [cellsP,placeL_len]
     rw [e]
     exact hown'
    clear hown' hgrow hal
    go_wp2_with fail
    go_roundg (NL-(k+1))
    case measure=>omega
    case rel=>exact ⟨k+1,_,A4,c4,by omega,rfl,by go_num,by rw [HYn.out],HY4,HO4,HB4⟩
   ·have h2f:(kk == 2)=false:=by simpa using h2
    have HY4:Hid (lP ys=cfK CL (placeL D n) (k+1)∧∀ y∈ys,y.p≠[]∧y.p.length≤4∧PlTy wi y.A y.c y.p):=⟨by rw [HY.out.1,HKs.out,if_neg h2,List.append_nil],HY.out.2⟩
    have HO4:Hid (wi.ownsRow w2.heap.size 44 1 (.slice Af ys.length cf) ys.length (cellsP ys)):=by show World.ownsRow ..;rw [Hyl.out];exact HO.out
    clear h2
    go_wp2_with fail
    go_roundg (NL-(k+1))
    case measure=>omega
    case rel=>exact ⟨k+1,ys,Af,cf,by omega,rfl,by go_num,by rw [Hyl.out],HY4,HO4,HBr⟩
  ·have hke:k=NL:=by omega
   subst hke
   have HPf:Hid (lP ys=FL∧PlsV wi Af cf ys∧∀ y∈ys,y.p.length≤4):=by
    obtain ⟨A',c',h1,h2⟩:=pls_own (by rw [Hyl.out];exact HO.out:wi.ownsRow w2.heap.size 44 1 (.slice Af yl cf) ys.length (cellsP ys)) fun y hy=>⟨(HY.out.2 y hy).1,(HY.out.2 y hy).2.2⟩
    cases h1
    refine ⟨?_,h2,fun y hy=>(HY.out.2 y hy).2.1⟩
    rw [HY.out.1,←HFk.out,HNL.out]
   have HCi:Hid (CelV wi Aw cw CL):=HCw.out.later HBr.out
   have hylk2:yl≤3000:=by omega
   obtain ⟨o0,hq⟩:=HBx.out wi HBi.out
   have hc:=HAll.out wi HBi.out
   rw [HNL.out] at hc
   clear hyl HY HO
   go_wp2_with fail
   refine hc.mono ?_
   rintro e w3 ⟨⟨A3,c3,rfl,hC3⟩,hb3⟩
   have HB3:Hid (Below W.heap.size W w3):=onB HBi.out hb3
   have HD3:Hid (CelV w3 A3 c3 CL∧CelV w3 Aw cw CL∧PlsV w3 Af cf ys):=⟨hC3,HCi.out.later hb3,HPf.out.2.1.later hb3⟩
   have hc2:=HEr1.out w3 HB3.out
   clear hc hb3 hC3 o0 hq
   go_wp2_with fail
   refine hc2.mono ?_
   rintro e w4 ⟨rfl,hb4⟩
   have HB4:Hid (Below W.heap.size W w4):=onB HB3.out hb4
   have HP4:Hid (PlsV w4 Af cf ys):=HD3.out.2.2.later hb4
   have hc:=samecells_any A3 Aw c3 cw CL w4 HC3.out (HD3.out.1.later hb4) (HD3.out.2.1.later hb4)
   rw [HNL.out] at hc
   clear hc2 hb4
   go_wp2_with fail
   refine hc.mono ?_
   rintro e w5 ⟨rfl,hb5⟩
   have HB5:Hid (Below W.heap.size W w5):=onB HB4.out hb5
   have HP5:Hid (PlsV w5 Af cf ys):=HP4.out.later hb5
   obtain ⟨o0,hq⟩:=HBx.out w5 HB5.out
   have hc2:=HFau.out w5 HB5.out
   clear hc hb5
   go_wp2_with fail
   refine hc2.mono ?_
   rintro e w6 ⟨⟨A6,c6,ps,rfl,hps,hP6⟩,hb6⟩
   have HB6:Hid (Below W.heap.size W w6):=onB HB5.out hb6
   have HP6:Hid (PlsV w6 A6 c6 ps∧PlsV w6 Af cf ys):=⟨hP6,HP5.out.later hb6⟩
   have HLe:Hid (lP ps=lP ys):=hps.trans HPf.out.1.symm
   have HPl:Hid (ps.length=yl):=by
    have h:=congrArg List.length HLe.out
    rw [lP_len,lP_len,Hyl.out] at h
    exact h
   rw [HPl.out]
   have hc:=HEr1.out w6 HB6.out
   clear hc2 hb6 hps hP6 o0 hq
   go_wp2_with fail
   refine hc.mono ?_
   rintro e w7 ⟨rfl,hb7⟩
   have HB7:Hid (Below W.heap.size W w7):=onB HB6.out hb7
   have hc2:=samepls_any A6 Af c6 cf ps ys w7 HLe.out (by rw [HPl.out];omega) (fun x hx=>by
    have h1:x.p∈lP ps:=List.mem_map.2 ⟨x,hx,rfl⟩
    rw [HLe.out] at h1
    obtain ⟨y,hy,e⟩:=List.mem_map.1 h1
    rw [←e]
    exact HPf.out.2.2 y hy) (HP6.out.1.later hb7) (HP6.out.2.later hb7)
   rw [HPl.out,Hyl.out] at hc2
   clear hc hb7
   go_wp2_with fail
   refine hc2.mono ?_
   rintro e w8 ⟨rfl,hb8⟩
   have HB8:Hid (Below W.heap.size W w8):=onB HB7.out hb8
   obtain ⟨o0,hq⟩:=HBx.out w8 HB8.out
   have hc:=HRi.out w8 HB8.out
   clear hc2 hb8
   go_wp2_with fail
   refine hc.mono ?_
   rintro e w9 ⟨rfl,hb9⟩
   have HB9:Hid (Below W.heap.size W w9):=onB HB8.out hb9
   obtain ⟨ol,hol⟩:∃ ol,OL.length=ol:=⟨_,rfl⟩
   have HOLl:Hid (OL.length=ol):=hol
   clear hc hb9 o0 hq hol
   go_upto_if 75 with fail
   go_cut [17] from 21 (fun s17 wx => ∃ Ao co,s17=.slice Ao ol co∧IntsAt wx Ao co OL∧Below W.heap.size W wx)
   case first =>
    by_cases hz:E2=0
    ·have hs:=HTo.out hz w9 HB9.out
     have HOz:=HOr.out hz
     obtain ⟨o0,hq⟩:=HBx.out w9 HB9.out
     generalize prodN D n=PN at hs HOz
     subst hz
     go_wp2_with fail
     refine hs.mono ?_
     rintro e wa ⟨⟨Aa,ca,yys,rfl,hyl,hYa,hTa⟩,hba⟩
     have HBa:Hid (Below W.heap.size W wa):=onB HB9.out hba
     have hbe:=HOz wa wa Aa ca yys HBa.out hYa hyl hTa (Below.refl _ _)
     rw [HOLl.out] at hbe
     clear hs hba hyl hYa hTa o0 hq HOz
     go_wp2_with fail
     refine hbe.mono ?_
     rintro e wb ⟨⟨Ab,cb,rfl,hIb⟩,hbb⟩
     go_wp2_with fail
     go_meet
     exact ⟨Ab,cb,rfl,hIb,onB HBa.out hbb⟩
    ·have hzf:(E2 == 0)=false:=by simpa using hz
     have HOn:Hid (OL=[]∧ol=0):=by
      have h:=HO0.out hz
      exact ⟨h,by rw [←HOLl.out,h];rfl⟩
     clear hz
     go_wp2_with fail
     go_meet
     exact ⟨none,0,by rw [HOn.out.2],by rw [HOn.out.1];exact IntsAt.nil _ _ _,HB9.out⟩
   case rest =>
   obtain ⟨Ao,co,rfl,hIo,hBc⟩:=hcut
   obtain ⟨wa,rfl⟩:∃ wa:World,wa=wc:=⟨_,rfl⟩
   have HBa:Hid (Below W.heap.size W wa):=hBc
   have HIo:Hid (IntsAt wa Ao co OL):=hIo
   obtain ⟨o0,hq⟩:=HBx.out wa HBa.out
   have hc:=HOrd.out wa HBa.out
   rw [HOLl.out] at hc
   clear hIo hBc
   go_wp2_with fail
   refine hc.mono ?_
   rintro e wb ⟨⟨Ab,cb,rfl,hIb⟩,hbb⟩
   have HBb:Hid (Below W.heap.size W wb):=onB HBa.out hbb
   have HIb:Hid (IntsAt wb Ab cb OL∧IntsAt wb Ao co OL):=⟨hIb,HIo.out.later hbb⟩
   have hc2:=HEr2.out wb HBb.out
   clear hc hIb hbb o0 hq
   go_wp2_with fail
   refine hc2.mono ?_
   rintro e wd ⟨rfl,hbd⟩
   have HBd:Hid (Below W.heap.size W wd):=onB HBb.out hbd
   have hc:=sameints_big Ab Ao cb co OL wd HOl.out (HIb.out.1.later hbd) (HIb.out.2.later hbd)
   rw [HOLl.out] at hc
   clear hc2 hbd
   go_wp2_with fail
   refine hc.mono ?_
   rintro e we ⟨rfl,hbe⟩
   have HBe:Hid (Below W.heap.size W we):=onB HBd.out hbe
   clear hc hbe
   go_wp2_with fail
   first | (go_quiet (fail);go_wp2_with fail) | skip
   go_ret
   exact ⟨by simp,by first | exact onB HB0.out HBe.out | exact below_drewN (onB HB0.out HBe.out) _⟩
set_option maxHeartbeats 4000000 in
theorem pof_blk (A0:Option Addr) (cap n:Nat) (D:Nat→Dm) (A:Nat→Option Addr) (C:Nat→Nat) (X:Nat) (w:World) (he:(allErr D n).2.2=0) (hXp:X<prodN D n) (hM:DimsV w A0 cap n D A C):Calls Tryz.prog 51 #[.agg #[.slice A0 n cap],.int .i64 X] w fun e w'=>(∃ g,e=.returned (.tuple #[.slice (some ⟨g,0,none⟩) n n,.nilIface])∧w.heap.size≤g∧IntB w' g (placeL D n X))∧Below w.heap.size w w':=by
 have hB0:=ownOut_below w A0 n cap 42
 have h:=pcells_any A0 cap n D A C (ownOut w A0 n cap 42) (hM.later hB0)
 have HB0:Hid (Below w.heap.size w (ownOut w A0 n cap 42)):=hB0
 have HM:Hid (DimsV w A0 cap n D A C):=hM
 clear hM hB0
 obtain ⟨hn1,hn4,hp3,hd⟩:=allErr_some he
 have hcv:cellsV D n=(prodN D n:Int):=by unfold cellsV;rw [if_pos he]
 rw [he,errV_zero,hcv] at h
 clear he hcv
 have hX:X≤3000:=by omega
 have HD:Hid (∀ i,i<n→1≤(D i).n∧(D i).n≤12):=hd
 have hn':(n:Int)≤4:=by omega
 have hn1':(1:Int)≤(n:Int):=by omega
 have hxp:(X:Int)<(prodN D n:Int):=by omega
 have hmk:=run_make_row' (P:=Tryz.prog) 44 3 (.int .i64 0) 8 Tryz.underlying44 Tryz.infoIntP rfl .i64 .i64 n (by omega) (by omega)
 have hbx:decide ((X:Int)<0)=false:=decide_eq_false (by omega)
 have hbp:decide ((prodN D n:Int)≤(X:Int))=false:=decide_eq_false (by omega)
 have hbp':decide (prodN D n≤X)=false:=decide_eq_false (by omega)
 generalize hpn:prodN D n=pn at h hXp hp3 hxp hbp hbp'
 clear hd hpn hXp
 go_enter Tryz.func51,Tryz.ntmps51
 go_wp2_with fail
 refine h.mono ?_
 rintro e w1 ⟨rfl,hb1⟩
 have hB:Below w.heap.size w w1:=onB HB0.out hb1
 have hz:w.heap.size<w1.heap.size:=by have:=hb1.size;rw [ownOut_size] at this;omega
 have h2:w1.cell? ⟨w.heap.size,0,none⟩=some (.slice A0 n cap):=(hb1.cell (p:=⟨w.heap.size,0,none⟩) (by show w.heap.size<_;rw [ownOut_size];omega)).trans (ownOut_at ..)
 obtain ⟨hcap,h0 | ⟨b,o,rfl,hMs⟩⟩:=HM.out.later hB
 ·omega
 have HMs:Hid (DimsAt w1 b o n D A C):=hMs
 have HB:Hid (Below w.heap.size w w1):=hB
 have HSz:Hid (w.heap.size≤w1.heap.size):=Nat.le_of_lt hz
 clear hb1 h hMs hB
 go_wp2_with fail
 clear hmk
 go_loopg [1,9,10] n (fun g s1 s9 s10 wr => ∃ (r:Nat),r≤n∧g=n-r∧s9=.int .i64 ((n:Int)-1-r)∧s1=.int .i64 (restAt D n X r)∧IntB wr w1.heap.size (digL D n X r)∧Below w1.heap.size w1 wr)
 case atStart=>exact ⟨0,Nat.zero_le _,rfl,by simp,rfl,by rw [digL_zero];exact IntB.made w1 n,by go_grown⟩
 case round =>
  obtain ⟨r,hr,rfl,rfl,rfl,hI,hBw⟩:=hrel
  have HI:Hid (IntB wr w1.heap.size (digL D n X r)):=hI
  have HBw:Hid (Below w1.heap.size w1 wr):=hBw
  by_cases hlt:r<n
  ·obtain ⟨k,hk⟩:∃ k:Nat,k=n-1-r:=⟨_,rfl⟩
   have hki:(n:Int)-1-(r:Int)=(k:Int):=by omega
   rw [hki]
   have HK:Hid (k=n-1-r):=hk
   have hkn:k<n:=by omega
   obtain ⟨-,-,h3,-⟩:=(HMs.out.later hBw).2 k hkn
   have c2:wr.cell? ⟨w.heap.size,0,none⟩=some (.slice (some ⟨b,o,none⟩) n cap):=(hBw.cell (p:=⟨w.heap.size,0,none⟩) hz).trans h2
   have hkn':(k:Int)<(n:Int):=by omega
   have c4:=hI.cell (j:=k) (by rw [digL_len];exact hkn)
   have c5:=hI.frozen k
   obtain ⟨hd1,hd2⟩:=HD.out k hkn
   have hre:=restAt_le D n X r
   have HR1:Hid (restAt D n X (r+1)=restAt D n X r / (D k).n):=by show _=_;rw [restAt,hk]
   have HR2:Hid (digitAt D n X k=restAt D n X r % (D k).n):=by show _=_;rw [digitAt,show n-1-k=r by omega]
   have HS:Hid ((digL D n X r).set k (digitAt D n X k:Int)=digL D n X (r+1)):=by show _=_;rw [hk];exact digL_set D n X r hlt
   generalize (digL D n X r).getD k 0=old at c4
   generalize restAt D n X r=R at HR1 HR2 hre
   generalize hm:(D k).n=m at h3 hd1 hd2 HR1 HR2
   have hm1:(1:Int)≤(m:Int):=by omega
   have hm2:(m:Int)≤12:=by omega
   have hR:(R:Int)≤3000:=by omega
   have hR0:(0:Int)≤(R:Int):=by omega
   have hm0:((m:Int) == 0)=false:=by simp;omega
   clear hI hBw hk hki hm
   go_wp2_with fail
   go_roundg (n-(r+1))
   case measure=>omega
   case rel =>
    have hdm:=Nat.div_le_self R m
    have hw:wrap64 ((R:Int) / (m:Int))=((R / m:Nat):Int):=by
     rw [←Int.natCast_ediv]
     exact wrap_small (Nat.le_trans hdm (by omega))
    refine ⟨r+1,by omega,rfl,?_,?_,?_,HBw.out.setCell (by show w1.heap.size≤w1.heap.size;omega) _⟩
    ·have:=HK.out
     congr 1
     omega
    ·rw [hw,HR1.out]
    ·have hs:=HI.out.set k (digitAt D n X k:Int)
     rw [HS.out,HR2.out,Int.natCast_emod] at hs
     exact hs
  ·have hre:r=n:=by omega
   subst hre
   have hk0:(r:Int)-1-(r:Int) = -1:=by omega
   rw [hk0]
   clear hI hBw
   go_wp2_with fail
   go_ret2
   have hp:=HI.out
   rw [digL_all] at hp
   exact ⟨⟨_,rfl,HSz.out,hp⟩,onB HB.out HBw.out⟩
end Go.Proofs.YtaodedckffjpgafGreatDoor
