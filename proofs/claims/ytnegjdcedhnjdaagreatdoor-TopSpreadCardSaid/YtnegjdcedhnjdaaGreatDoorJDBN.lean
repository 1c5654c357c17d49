/-
  What is told at a place of cells that are there, as a plan of package solve tells it (Tell), in whatever memory.
-/
import Derived.BigRegion
import Derived.Test.YtnegjdcedhnjdaaGreatDoorJDBK
namespace Go.Proofs.YtnegjdcedhnjdaaGreatDoor
open Go.ChangeShapes Go.WideShapes Go.ChangeAt Go.RowKit
set_option maxRecDepth 20000
set_option maxHeartbeats 8000000 in
theorem ptell_any (q g n:Nat) (D:Nat→Dm) (X:Nat→AL) (x:Nat) (AC:Option Addr) (cC:Nat) (L:List (Int×Int)) (w:World) (hR:AllR D n) (hE:(allErr D n).2.2=0) (hx:x<prodN D n) (hA:PlanV w q g n D X) (hL:L.length=prodN D n) (hC:CelV w AC cC L) (hok:∀ z∈ndsX D n x,goodC (L.getD z.toNat noC)) :
  Calls Tryz.prog 29 #[.pointer (some ⟨q,0,none⟩),.slice AC (prodN D n) cC,.int .i64 x] w fun e w'=>e=.returned (.tuple #[.agg #[.int .i64 (tlV D n L x).1,.int .i64 (tlV D n L x).2],.nilIface])∧Below w.heap.size w w':=by
 obtain ⟨i0,hi0,hz0,hz1,hz2⟩:=info_parts Tryz.infoCe
 obtain ⟨hn1,hn4,hp3,hd⟩:=allErr_some hE
 obtain ⟨W,hW⟩:∃ W,w.alloc (.cells #[.int .i64 0,.int .i64 0] 48)=W:=⟨_,rfl⟩
 have hB0:Below w.heap.size w W:=by rw [←hW];go_grown
 have hWb:W.heap[w.heap.size]?=some (.cells #[.int .i64 0,.int .i64 0] 48 (0,0)):=by rw [←hW];exact heap_alloc_new ..
 have HB0:Hid (Below w.heap.size w W):=hB0
 have HWb:Hid (W.heap[w.heap.size]?=some (.cells #[.int .i64 0,.int .i64 0] 48 (0,0))):=hWb
 have hl0:w.heap.size<W.heap.size:=(Array.getElem?_eq_some_iff.1 hWb).1
 obtain ⟨hcL,-,h0 | ⟨bc,oc,rfl,hCat⟩⟩:=id hC
 ·rw [h0] at hL;simp at hL;omega
 have hby:=by_any2 q g n D X x W hE hx (hA.later hB0)
 have HCe:Hid (∀ w',Below w.heap.size w w'→bc<w'.heap.size∧∀ j,j<prodN D n→w'.cell? ⟨bc,oc+j*2,none⟩=some (.int .i64 (L.getD j noC).1)∧w'.cell? ⟨bc,oc+j*2+1,none⟩=some (.int .i64 (L.getD j noC).2)):=fun w' hB=>by
  obtain ⟨-,-,h0 | ⟨bc',oc',h1,hCat'⟩⟩:=hC.later hB
  ·rw [h0] at hL;simp at hL;omega
  ·cases h1
   exact ⟨hCat'.1,fun j hj=>hCat'.2 j (by omega)⟩
 have HCp:Hid (∀ w',Below w.heap.size w w'→q<w'.heap.size∧w'.cell? ⟨q,0,none⟩=some (.slice (some ⟨g,0,none⟩) n n)∧w'.cell? ⟨q,1,none⟩=some (.int .i64 (prodN D n:Nat))):=fun w' hB=>(hA.later hB).cells
 have HA:Hid (PlanV w q g n D X):=hA
 have HRs:Hid (∀ w',Below W.heap.size W w'→w.heap.size<w'.heap.size∧w'.cell? ⟨w.heap.size,0,none⟩=some (.int .i64 0)∧w'.cell? ⟨w.heap.size,1,none⟩=some (.int .i64 0)∧w'.frozen? ⟨w.heap.size,0,none⟩=false∧w'.frozen? ⟨w.heap.size,1,none⟩=false):=fun w' hB=>⟨Nat.lt_of_lt_of_le hl0 hB.size,pair_at ((hB.block _ hl0).trans hWb)⟩
 obtain ⟨hq,q0,q1⟩:=HCp.out W hB0
 have hnI:(n:Int)≤4:=by omega
 have hP:=placeL_in (D:=D) (n:=n) (x:=x) hE
 obtain ⟨N,hN⟩:∃ N,prodN D n=N:=⟨_,rfl⟩
 have HN:Hid (prodN D n=N):=hN
 rcases by_in D (placeL D n x) n with h | ⟨b,h,hb⟩
 ·have HV:Hid (tlV D n L x=L.getD x noC):=tl_leaf (by omega)
  rw [h] at hby
  rw [hN] at q1 hx hp3 HCe HCp hL ⊢
  have hxI:(x:Int)<(N:Int):=by omega
  have hNI:(N:Int)≤3000:=by omega
  have hcI:(N:Int)≤(cC:Int):=by omega
  clear hA hE hR hP h hd hC hCat hok hB0 hWb hN
  go_enter Tryz.func29,Tryz.ntmps29
  go_wp2_with fail
  refine hby.mono ?_
  rintro e w1 ⟨rfl,hb1⟩
  have HB1:Hid (Below W.heap.size W w1):=hb1
  obtain ⟨hbc,hcj⟩:=HCe.out w1 (onB HB0.out hb1)
  obtain ⟨y0,y1⟩:=hcj x hx
  obtain ⟨hr,r0,r1,r2,r3⟩:=HRs.out w1 hb1
  obtain ⟨⟨ra,rb⟩,hRe⟩:∃ R,L.getD x noC=R:=⟨_,rfl⟩
  have HRe:Hid (L.getD x noC=(ra,rb)):=hRe
  rw [hRe] at y0 y1
  simp only at y0 y1
  clear hb1 hby q0 q1 hW hcj hRe
  go_wp2_with fail
  refine bodyPost_ret (v:=.tuple #[.agg #[.int .i64 ra,.int .i64 rb],.nilIface]) (by simp [results,Tryz.results29,go_sem,r0,r1]) rfl ⟨by rw [HV.out,HRe.out],?_⟩
  exact ((onB HB0.out HB1.out).setCell (by simp) _).setCell (by simp) _
 ·obtain ⟨hd1,hd12⟩:=hd b hb
  have hp0:=hP.lo b hb
  have hp1:=hP.hi b hb
  obtain ⟨m,hm⟩:∃ m,x / stepD D n b % (D b).n=m:=⟨_,rfl⟩
  have hpm:((placeL D n x).getD b 0).toNat=m:=by rw [digit_at hb,hm]
  have hmn:m<(D b).n:=by rw [←hm];exact Nat.mod_lt _ hd1
  have HV:Hid (tlV D n L x=oneV (D b) (fun k=>L.getD (putN D n x b k).toNat noC) m):=by show _=_;rw [tl_by h,hpm]
  have HNd:Hid (ndsX D n x=(neW (D b) m).map (putN D n x b)):=by show _=_;rw [nds_by h,hpm]
  have hSp:=stepD_pos (D:=D) (n:=n) (fun i hi=>(hd i hi).1) hb
  obtain ⟨S,hSd⟩:∃ S,stepD D n b=S:=⟨_,rfl⟩
  have HWy:Hid (∀ w',Below w.heap.size w w'→Calls Tryz.prog 55 #[.agg #[.int .i64 (D b).solve,.int .i64 S,.slice (X b).A (D b).n (X b).c],.int .i64 x] w' fun e w''=>e=.returned (wayV ((X b).xs.getD m noW))∧Below w'.heap.size w' w''):=fun w' hB=>way_any (D b) S (X b) x m w' (by rw [←hSd];exact hSp) hd1 hd12 (by omega) (by rw [←hSd];exact hm) ((hA.later hB).2.one hb).2.2
  have HTl:Hid (∀ w' A' c',Below w.heap.size w w'→CelV w' A' c' ((ndsX D n x).map fun z=>L.getD z.toNat noC)→Calls Tryz.prog 56 #[wayV ((X b).xs.getD m noW),.slice A' (ndsX D n x).length c'] w' fun e w''=>e=.returned (.tuple #[.agg #[.int .i64 (tlV D n L x).1,.int .i64 (tlV D n L x).2],.nilIface])∧Below w'.heap.size w' w''):=fun w' A' c' hB hCv=>by
   obtain ⟨-,-,hOne⟩:=(hA.later hB).2.one hb
   obtain ⟨-,-,-,-,-,hWt⟩:=hOne.way hmn
   have hwo:=hOne.2.2 m hmn
   have hne:=way_ne hwo
   have h2:=tell_any (D b) m ((X b).xs.getD m noW) A' c' (fun k=>L.getD (putN D n x b k).toNat noC) w' (hR b hb) hmn hwo hWt (fun k hk=>hok _ (by rw [HNd.out,List.mem_map];exact ⟨k,(neW_mem (hR b hb) hmn k).2 hk,rfl⟩)) (by
    rw [HNd.out,List.map_map] at hCv
    rw [hne]
    exact hCv)
   rw [hne,←HV.out] at h2
   have hl2:(ndsX D n x).length=(neW (D b) m).length:=by rw [HNd.out,List.length_map]
   rw [hl2]
   exact h2
  have HNdc:Hid (∀ w',Below w.heap.size w w'→Calls Tryz.prog 54 #[.pointer (some ⟨q,0,none⟩),.int .i64 x] w' fun e w''=>(∃ v,e=.returned v∧w''.ownsRow w'.heap.size 3 1 v (ndsX D n x).length (mapI (ndsX D n x)))∧Below w'.heap.size w' w''):=fun w' hB=>needs_any q g n D X x w' hR hE hx (hA.later hB)
  have HIn:Hid (∀ z∈ndsX D n x,∃ y:Nat,z=(y:Int)∧y<N):=fun z hz=>by
   obtain ⟨y,e1,e2⟩:=nds_in hR hE hx z hz
   exact ⟨y,e1,by omega⟩
  have hln:=nds_len hR hE hx
  have HCx:Hid (∀ w',Below w.heap.size w w'→g<w'.heap.size∧w'.cell? ⟨g,b*3,none⟩=some (.int .i64 (D b).solve)∧w'.cell? ⟨g,b*3+1,none⟩=some (.int .i64 S)∧w'.cell? ⟨g,b*3+2,none⟩=some (.slice (X b).A (D b).n (X b).c)):=fun w' hB=>by
   obtain ⟨hg,⟨c0,c1,c2⟩,-⟩:=(hA.later hB).2.one hb
   rw [hSd] at c1
   exact ⟨hg,c0,c1,c2⟩
  obtain ⟨P,hPn⟩:∃ P,ndsX D n x=P:=⟨_,rfl⟩
  rw [hPn] at HTl HNdc HIn hln
  obtain ⟨F,hF⟩:∃ F,(fun z:Int=>L.getD z.toNat noC)=F:=⟨_,rfl⟩
  have HFe:Hid (∀ z:Int,F z=L.getD z.toNat noC):=fun z=>by rw [←hF]
  rw [hF] at HTl
  obtain ⟨⟨ra,rb⟩,hRe⟩:∃ R,tlV D n L x=R:=⟨_,rfl⟩
  rw [hRe] at HTl ⊢
  simp only at HTl ⊢
  obtain ⟨M,hMl⟩:∃ M,P.length=M:=⟨_,rfl⟩
  have HM:Hid (P.length=M):=hMl
  rw [hMl] at HTl HNdc hln
  have hMI:(M:Int)≤12:=by omega
  rw [h] at hby
  rw [hN] at q1 hx hp3 HCe HCp hL ⊢
  have hxI:(x:Int)<(N:Int):=by omega
  have hNI:(N:Int)≤3000:=by omega
  have hcI:(N:Int)≤(cC:Int):=by omega
  have hbI:(b:Int)<(n:Int):=by omega
  have hb0:((b:Int) == -1)=false:=by simp
  generalize wayV ((X b).xs.getD m noW)=wv at HWy HTl
  clear hA hE hR hP h hd hC hCat hok hB0 hWb hp0 hp1 hm hpm hmn hSp hSd hPn hMl HNd HV hRe hN hF
  go_enter Tryz.func29,Tryz.ntmps29
  go_wp2_with fail
  refine hby.mono ?_
  rintro e w1 ⟨rfl,hb1⟩
  have HB1:Hid (Below W.heap.size W w1):=hb1
  have hnd:=HNdc.out w1 (onB HB0.out hb1)
  clear hb1 hby q0 q1 hW
  go_wp2_with fail
  refine hnd.mono ?_
  rintro e w2 ⟨⟨v,rfl,hO2⟩,hb2⟩
  have HB2:Hid (Below W.heap.size W w2):=onB HB1.out hb2
  have HIt:Hid (∃ A' c',v=.slice A' M c'∧IntT w2 A' c' P):=by
   have h2:=hO2
   rw [←HM.out] at h2
   obtain ⟨A',c',e,hv⟩:=intT_own h2
   rw [HM.out] at e
   exact ⟨A',c',e,hv⟩
  obtain ⟨A2,c2,rfl,hI2⟩:=HIt.out
  have HI2:Hid (IntT w2 A2 c2 P):=hI2
  clear hb2 hnd hO2 hI2 HIt
  go_wp2_with fail
  go_loopg [9,46] M (fun gg s9 s46 wr => ∃ (k:Nat) (u:Value),k≤M∧gg=M-k∧s46=.int .i64 k∧u=s9∧Hid (wr.ownsRow w2.heap.size 48 2 u k (cellsC ((P.take k).map F)))∧Hid (Below w2.heap.size w2 wr))
  case atStart=>exact ⟨0,_,Nat.zero_le _,rfl,rfl,rfl,World.ownsRow_nil _ _ _ _,Below.refl _ _⟩
  case round =>
   obtain ⟨k,u,hk,rfl,rfl,rfl,HO,HBw⟩:=hrel
   have HBwW:Hid (Below W.heap.size W wr):=onB HB2.out HBw.out
   by_cases hlt:k<M
   ·have hki:(k:Int)<(M:Int):=by omega
    have hkP:k<P.length:=by rw [HM.out];exact hlt
    obtain ⟨y,hy,hyN⟩:=HIn.out _ (getD_memI hkP)
    obtain ⟨hcS,-,hS0 | ⟨bs,cs,fr,rfl,hbS,hcl⟩⟩:=HI2.out.later HBw.out
    ·have:=HM.out;rw [hS0] at this;simp at this;omega
    have cx:=hcl k hkP
    have hbs:bs<wr.heap.size:=(Array.getElem?_eq_some_iff.1 hbS).1
    rw [HM.out] at hcS
    rw [hy] at cx
    have hcSI:(M:Int)≤(c2:Int):=by omega
    have HSn:Hid ((P.take (k+1)).map F=(P.take k).map F ++ [L.getD y noC]):=by
     show _=_
     rw [map_snoc F P hkP,HFe.out,hy,Int.toNat_natCast]
    obtain ⟨hbc,hcj⟩:=HCe.out wr (onB HB0.out HBwW.out)
    obtain ⟨y0,y1⟩:=hcj y hyN
    have hyI:(y:Int)<(N:Int):=by omega
    generalize L.getD y noC=r at y0 y1 HSn
    obtain ⟨sa,sb⟩:=r
    simp only at y0 y1
    have hsz2:=HBw.out.size
    clear hcl hbS hy hcj
    go_wp2_with (at_builtin;refine wpList_append_own _ rfl _ _ 46 rfl w2.heap.size 48 i0 (.agg #[.int .i64 0,.int .i64 0]) 2 16 Tryz.underlying46 hi0 hz0 hz1 hz2 rfl (by decide) _ _ _ rfl (HO.out.alloc _) ⟨wr.heap.size,0,none⟩ 1 1 [.int .i64 sa,.int .i64 sb] rfl rfl ?qe2 ?qe3 ?qe4 ?qe5 ?qe6 ?_)
    case qe2 =>
     intro j t hj
     rw [plain_addW,Lib.cell_of_heap (heap_alloc_new wr (.cells #[.int .i64 sa,.int .i64 sb] 48))]
     simpa using hj
    case qe3=>intro t ht;simp at ht;rcases ht with rfl | rfl <;> rfl
    case qe4=>simp only [maxLen];omega
    case qe5=>omega
    case qe6=>simp;omega
    intro v' w4 hown' hgrow hnil
    have HB4:Hid (Below w2.heap.size w2 w4):=grown_own HBw.out HO.out hgrow
    have HO4:Hid (w4.ownsRow w2.heap.size 48 2 v' (k+1) (cellsC ((P.take (k+1)).map F))):=by
     show World.ownsRow ..
     rw [HSn.out,cellsC_append,List.map_take]
     exact hown'
    clear hown' hgrow hnil
    go_wp2_with fail
    go_roundg (M-(k+1))
    case measure=>omega
    case rel=>exact ⟨k+1,_,by omega,rfl,by go_num,rfl,HO4,HB4⟩
   ·have hke:k=M:=by omega
    subst hke
    have HCv:Hid (∃ A' c',u=.slice A' k c'∧CelV wr A' c' (P.map F)):=by
     have h:=HO.out
     rw [List.take_of_length_le (by rw [HM.out];exact Nat.le_refl _)] at h
     have hlen:(P.map F).length=k:=by rw [List.length_map];exact HM.out
     rw [←hlen] at h
     obtain ⟨A',c',e,hv⟩:=cel_own h
     rw [hlen] at e
     exact ⟨A',c',e,hv⟩
    obtain ⟨A3,c3,rfl,hC3⟩:=HCv.out
    have HC3:Hid (CelV wr A3 c3 (P.map F)):=hC3
    obtain ⟨hq1,p0,p1⟩:=HCp.out wr (onB HB0.out HBwW.out)
    obtain ⟨hg1,a1,a2,a3⟩:=HCx.out wr (onB HB0.out HBwW.out)
    have hwy:=HWy.out wr (onB HB0.out HBwW.out)
    clear hC3 HCv
    go_wp2_with fail
    refine hwy.mono ?_
    rintro e w5 ⟨rfl,hb5⟩
    have HB5:Hid (Below W.heap.size W w5):=onB HBwW.out hb5
    have htl:=HTl.out w5 A3 c3 (onB HB0.out HB5.out) (HC3.out.later hb5)
    clear hb5 hwy p0 p1 a1 a2 a3
    go_wp2_with fail
    refine htl.mono ?_
    rintro e w6 ⟨rfl,hb6⟩
    have HB6:Hid (Below W.heap.size W w6):=onB HB5.out hb6
    obtain ⟨hr,r0,r1,r2,r3⟩:=HRs.out w6 HB6.out
    clear hb6 htl
    go_wp2_with fail
    refine bodyPost_ret (v:=.tuple #[.agg #[.int .i64 ra,.int .i64 rb],.nilIface]) (by simp [results,Tryz.results29,go_sem,r0,r1]) rfl ⟨rfl,?_⟩
    exact ((onB HB0.out HB6.out).setCell (by simp) _).setCell (by simp) _
set_option maxHeartbeats 8000000 in
theorem fcells_own (A0:Option Addr) (cap n:Nat) (D:Nat→Dm) (A:Nat→Option Addr) (C:Nat→Nat) (AE:Option Addr) (ce:Nat) (xs:List EnL) (w:World) (hM:DimsV w A0 cap n D A C) (hE:EnsV w AE ce xs) (he:entsErr D n (lE xs)=0) :
  Calls Tryz.prog 11 #[.agg #[.slice A0 n cap],.slice AE xs.length ce] w fun e w'=>(∃ g,e=.returned (.tuple #[.slice (some ⟨g,0,none⟩) (prodN D n) (prodN D n),.nilIface])∧w.heap.size≤g∧CelB w' g (wrV D n (lE xs)))∧Below w.heap.size w w':=by
 have hB0:=ownOut_below w A0 n cap 24
 have h:=icheck_any A0 cap n D A C AE ce xs (ownOut w A0 n cap 24) (hM.later hB0) (hE.later hB0)
 have HB0:Hid (Below w.heap.size w (ownOut w A0 n cap 24)):=hB0
 have HM:Hid (DimsV w A0 cap n D A C):=hM
 have HE:Hid (EnsV w AE ce xs):=hE
 clear hM hE hB0
 have hEs:=ens_of he
 have HEs:Hid (Ens D n (lE xs)):=hEs
 have hfew:xs.length≤3000:=by have:=hEs.few;rw [lE_len] at this;exact this
 have hR:=hEs.right
 have HR:Hid ((allErr D n).2.2=0):=hR
 obtain ⟨hn1,hn4,hp3,hd⟩:=allErr_some hR
 rw [he,errV_zero] at h
 have HBo:Hid (w.heap.size<(ownOut w A0 n cap 24).heap.size∧(ownOut w A0 n cap 24).cell? ⟨w.heap.size,0,none⟩=some (.slice A0 n cap)):=⟨by rw [ownOut_size];omega,ownOut_at ..⟩
 obtain ⟨N,hN⟩:∃ N,xs.length=N:=⟨_,rfl⟩
 have HN:Hid (xs.length=N):=hN
 rw [hN] at h hfew ⊢
 have hN':(N:Int)≤3000:=by omega
 obtain ⟨PN,hPN⟩:∃ PN,prodN D n=PN:=⟨_,rfl⟩
 have HPN:Hid (prodN D n=PN):=hPN
 rw [hPN] at hp3
 have hmk:=run_make_cells PN hp3
 have hPN':(PN:Int)≤3000:=by omega
 have HWE:Hid (((lE xs).take N).foldl (wrStep D n) (List.replicate PN (0,0))=wrV D n (lE xs)):=by show _=_;rw [List.take_of_length_le (by rw [lE_len,hN];exact Nat.le_refl _),←hPN];rfl
 clear he hEs hR hd hN hPN
 go_enter Tryz.func11,Tryz.ntmps11
 go_wp2_with fail
 refine h.mono ?_
 rintro e w1 ⟨rfl,hb1⟩
 have hB:Below w.heap.size w w1:=onB HB0.out hb1
 have HB:Hid (Below w.heap.size w w1):=hB
 have HBox:Hid (BoxN w1 w.heap.size (.slice A0 n cap)):=⟨Nat.lt_of_lt_of_le HBo.out.1 hb1.size,(hb1.cell (p:=⟨w.heap.size,0,none⟩) HBo.out.1).trans HBo.out.2⟩
 have c1:=HBox.out.2
 have hpc:=pcells_any A0 cap n D A C w1 (HM.out.later hB)
 have hcv:cellsV D n=(PN:Int):=by unfold cellsV;rw [if_pos HR.out,HPN.out]
 rw [HR.out,errV_zero,hcv] at hpc
 clear hb1 h hB hcv
 go_wp2_with fail
 refine hpc.mono ?_
 rintro e w2 ⟨rfl,hb2⟩
 have HB2:Hid (Below w.heap.size w w2):=onB HB.out hb2
 have HBox2:Hid (BoxN w2 w.heap.size (.slice A0 n cap)):=HBox.out.later hb2
 obtain ⟨v2,hv2⟩:∃ v,w2.alloc (.cells (madeCells #[.int .i64 0,.int .i64 0] (PN*2)) 48)=v:=⟨_,rfl⟩
 have hBv:Below w2.heap.size w2 v2:=by rw [←hv2];go_grown
 have HBv:Hid (Below w2.heap.size w2 v2):=hBv
 have HCv:Hid (CelB v2 w2.heap.size (List.replicate PN (0,0))):=by rw [←hv2];exact celB_made w2 PN
 have HBoxv:Hid (BoxN v2 w.heap.size (.slice A0 n cap)):=HBox2.out.later hBv
 have hwz:w.heap.size<w2.heap.size:=HBox2.out.1
 clear hpc hb2 c1 hBv
 go_wp2_with fail
 clear hmk hv2
 go_loopg [32] N (fun gg s32 wr => ∃ (k:Nat),k≤N∧gg=N-k∧s32=.int .i64 k∧Hid (CelB wr w2.heap.size (((lE xs).take k).foldl (wrStep D n) (List.replicate PN (0,0))))∧Hid (v2.grownBy wr (some w2.heap.size)))
 case atStart=>exact ⟨0,Nat.zero_le _,rfl,rfl,HCv,grown_refl v2 _⟩
 case round =>
  obtain ⟨k,hk,rfl,rfl,HC,HG⟩:=hrel
  have hB2r:Below w2.heap.size w2 wr:=HBv.out.grown HG.out HBv.out.size (fun j hj=>by cases hj;exact Nat.le_refl _)
  have HB2r:Hid (Below w2.heap.size w2 wr):=hB2r
  have HBr:Hid (Below w.heap.size w wr):=onB HB2.out hB2r
  by_cases hlt:k<N
  ·have hkx:k<xs.length:=by rw [HN.out];exact hlt
   have hki:(k:Int)<(N:Int):=by omega
   obtain ⟨-,-,h0 | ⟨bb,oo,rfl,hA⟩⟩:=HE.out.later HBr.out
   ·have:=HN.out;rw [h0] at this;simp at this;omega
   obtain ⟨c1,c2⟩:=hA.at hkx
   have hmem:(xs.getD k noL).e∈lE xs:=List.mem_map.2 ⟨_,enl_mem hkx,rfl⟩
   obtain ⟨hqI,-,hnum⟩:=HEs.out.each _ hmem
   have hnn : -1000000≤(xs.getD k noL).e.n∧(xs.getD k noL).e.n≤1000000:=by simpa [numOk] using hnum
   obtain ⟨hq1,hq2,-⟩:=numI_bound hqI (Nat.le_refl n)
   have hpl:=hA.pl hkx
   have HWr:=take_wr D n (List.replicate PN (0,0)) xs hkx
   unfold wrStep at HWr
   obtain ⟨X,hX⟩:∃ X:Nat,numI D (xs.getD k noL).e.pl n=X:=⟨(numI D (xs.getD k noL).e.pl n).toNat,by omega⟩
   have hnv:numV D n (xs.getD k noL).e.pl=(X:Int):=by unfold numV;rw [if_pos hqI.ok,hX]
   have hXN:X<PN:=by have:=HPN.out;omega
   have hNum:∀ w',Below wr.heap.size wr w'→_:=fun w' hw'=>pnumber_any A0 cap n D A C (xs.getD k noL).A (xs.getD k noL).c (xs.getD k noL).e.pl w' (HM.out.later (onB HBr.out hw')) (hpl.later hw')
   rw [hnv,hqI.ok,errV_zero] at hNum
   have HNum:Hid (∀ w',Below wr.heap.size wr w'→_):=hNum
   have hof:=fun w'=>of_any (xs.getD k noL).e.n w'
   rw [ofP_in (by omega) (by omega)] at hof
   rw [hX,show ((X:Int)).toNat=X by omega] at HWr
   have HWR:Hid _:=HWr
   obtain ⟨LL,hLL⟩:∃ LL,((lE xs).take k).foldl (wrStep D n) (List.replicate PN (0,0))=LL:=⟨_,rfl⟩
   have hLLn:LL.length=PN:=by rw [←hLL,wrs_len];simp
   have HCL:Hid (CelB wr w2.heap.size LL):=by rw [←hLL];exact HC.out
   have HNx:Hid (((lE xs).take (k+1)).foldl (wrStep D n) (List.replicate PN (0,0))=LL.set X (1,(xs.getD k noL).e.n)):=by
    show _=_
    rw [←hLL]
    exact HWR.out
   have HBxr:Hid (BoxN wr w.heap.size (.slice A0 n cap)):=boxn_other HBoxv.out (by omega) HG.out
   have hXL:X<LL.length:=by omega
   have HXL:Hid (X<LL.length):=hXL
   generalize (xs.getD k noL).A=A1 at c1 HNum
   generalize (xs.getD k noL).c=k1 at c1 HNum
   generalize (xs.getD k noL).e.n=num at c2 hnn hof HNx
   generalize (xs.getD k noL).e.pl.length=m1 at c1 HNum
   have hcr:=HBxr.out.2
   have hXi:(X:Int)<(PN:Int):=by omega
   obtain ⟨y,hy⟩:∃ y,wr.alloc (.cells #[.slice A1 m1 k1,.int .i64 num] 54)=y:=⟨_,rfl⟩
   have hBy:Below wr.heap.size wr y:=by rw [←hy];go_grown
   have HBy:Hid (Below wr.heap.size wr y):=hBy
   have HPy:Hid (y.heap[wr.heap.size]?=some (.cells #[.slice A1 m1 k1,.int .i64 num] 54 (0,0))):=by show _=_;rw [←hy];exact heap_alloc_new ..
   obtain ⟨p0,p1,-,-⟩:=pair_at HPy.out
   have hyo:=(HBxr.out.later hBy).2
   clear hB2r hA hmem hqI hnum hpl HWr hNum hnv hLL hLLn hX hq1 hq2 hBy hXL HWR
   go_wp2_with fail
   refine (HNum.out _ HBy.out).mono ?_
   rintro e w5 ⟨rfl,hb5⟩
   have HB5:Hid (Below y.heap.size y w5):=hb5
   have hwr:wr.heap.size<y.heap.size:=(Array.getElem?_eq_some_iff.1 HPy.out).1
   have hP5:w5.heap[wr.heap.size]?=some (.cells #[.slice A1 m1 k1,.int .i64 num] 54 (0,0)):=(hb5.block _ hwr).trans HPy.out
   obtain ⟨-,s1,-,-⟩:=pair_at hP5
   clear hb5 hP5 p0 p1 hyo
   go_wp2_with fail
   refine (hof _).mono ?_
   rintro e w6 ⟨rfl,hb6⟩
   have hB6:Below wr.heap.size wr w6:=onB (onB HBy.out HB5.out) hb6
   have HC6:Hid (CelB w6 w2.heap.size LL):=HCL.out.later hB6
   obtain ⟨g1,g2⟩:=HC6.out.at HXL.out
   have g3:=HC6.out.frozen (X*2)
   have g4:=HC6.out.frozen (X*2+1)
   have HC7:Hid (CelB ((w6.setCell ⟨w2.heap.size,X*2,none⟩ (.int .i64 1)).setCell ⟨w2.heap.size,X*2+1,none⟩ (.int .i64 num)) w2.heap.size (((lE xs).take (k+1)).foldl (wrStep D n) (List.replicate PN (0,0)))):=by show CelB _ _ _;rw [HNx.out];exact HC6.out.set HXL.out 1 num
   have HG7:Hid (v2.grownBy ((w6.setCell ⟨w2.heap.size,X*2,none⟩ (.int .i64 1)).setCell ⟨w2.heap.size,X*2+1,none⟩ (.int .i64 num)) (some w2.heap.size)):=cel_grown (grown_then HG.out hB6)
   clear hb6 hB6 hof s1
   go_wp2_with fail
   go_roundg (N-(k+1))
   case measure=>omega
   case rel=>exact ⟨k+1,by omega,rfl,by go_num,HC7,HG7⟩
  ·have hke:k=N:=by omega
   subst hke
   have HV:Hid (CelB wr w2.heap.size (wrV D n (lE xs))):=by rw [←HWE.out];exact HC.out
   clear hB2r
   go_wp2_with fail
   go_ret2
   exact ⟨⟨w2.heap.size,by rw [HPN.out];rfl,HB2.out.size,HV.out⟩,HBr.out⟩
theorem ru_right {D:Nat→Dm} {n:Nat} (h:(ruErr D n).2.2=0):(allErr D n).2.2=0∧AllR D n:=by
 by_cases h1:(allErr D n).2.2=0
 ·refine ⟨h1,Classical.byContradiction fun hn=>?_⟩
  have hex:∃ i,i<n∧(rErr (D i)).2≠0:=Classical.byContradiction fun he=>hn fun i hi=>Classical.byContradiction fun hb=>he ⟨i,hi,hb⟩
  have hleast:∀ m,(∃ i,i<m∧i<n∧(rErr (D i)).2≠0)→∃ i,i<n∧(rErr (D i)).2≠0∧∀ j,j<i→(rErr (D j)).2=0:=by
   intro m
   induction m with
   | zero=>rintro ⟨i,h,-⟩;omega
   | succ m ih =>
    rintro ⟨i,h3,h4,h5⟩
    by_cases hm:∃ i,i<m∧i<n∧(rErr (D i)).2≠0
    ·exact ih hm
    ·exact ⟨i,h4,h5,fun j hj=>Classical.byContradiction fun hb=>hm ⟨j,by omega,by omega,hb⟩⟩
  obtain ⟨i0,hi0,hb0⟩:=hex
  obtain ⟨i,hi,hb,hf⟩:=hleast n ⟨i0,hi0,hi0,hb0⟩
  rw [ru1 h1 hi hb hf] at h
  exact hb h
 ·rw [ru0 h1] at h
  exact absurd h h1
theorem ru_zero {D:Nat→Dm} {n:Nat} (h1:(allErr D n).2.2=0) (h2:AllR D n):(ruErr D n).2.2=0:=by rw [ru2 h1 h2]
theorem num_lt {D:Nat→Dm} {n:Nat} {p:List Int} (h:InO D n p):∃ x:Nat,numI D p n=(x:Int)∧x<prodN D n∧placeL D n x=p:=by
 obtain ⟨h1,h2,-⟩:=numI_bound h (Nat.le_refl n)
 have h3:=place_num h
 exact ⟨(numI D p n).toNat,by omega,by omega,h3⟩
theorem good_getE {D:Nat→Dm} {n:Nat} {l:List En} (h:Ens D n l) (p:List Int):goodC (getE l p):=by
 unfold getE
 split
 ·exact good_zero
 ·rename_i e r he
  split
  ·exact good_zero
  ·have hm:e∈l:=List.mem_of_mem_drop (i:=cntE l p) (by rw [he];exact List.mem_cons_self ..)
   exact goodC_num (h.each e hm).2.2
theorem wr_at {D:Nat→Dm} {n:Nat} {l:List En} (h:Ens D n l) {j:Nat} (hj:j<prodN D n):(wrV D n l).getD j noC=getE l (placeL D n j):=by
 rw [wr_rwL h]
 simp [rwL,List.getD,hj]
noncomputable def soErr (D:Nat→Dm) (n:Nat) (l:List En) (p:List Int):Int:=if cuErr D n l≠0 then cuErr D n l else placeErr D n p
noncomputable def soV (D:Nat→Dm) (n:Nat) (l:List En) (p:List Int):Int×Int:=if soErr D n l p=0 then solV D n (getE l) p else (0,0)
def omA:Mem:=⟨⟨#[98]⟩,-1,0,⟨#[99,43,49]⟩⟩
def omB:Mem:=⟨⟨#[99]⟩,-1,0,⟨#[]⟩⟩
def oneM (i:Nat):Mem:=if i=0 then omA else omB
def oneDm:Dm:=⟨⟨#[97]⟩,0,2,oneM⟩
theorem one_nd:ndL oneDm=[[1],[]]:=by decide +kernel
theorem up_acyc {N:List (List Int)} (h:∀ (a:Int),∀ x∈rowN N a,a<x) (i:Nat):cycB N i=false:=by
 rw [cyc_not]
 intro hr
 have hlt:∀ {a b:Int},Rch N a b→a<b:=by
  intro a b hab
  induction hab with
  | one hx=>exact h _ _ hx
  | more hx _ ih=>have:=h _ _ hx;omega
 have:=hlt hr
 omega
theorem one_acyc (i:Nat):cycB (ndL oneDm) i=false:=by
 rw [one_nd]
 refine up_acyc (fun a x hx=>?_) i
 unfold rowN at hx
 rcases h:a.toNat with _ | _ | k
 ·rw [h] at hx
  simp at hx
  omega
 ·rw [h] at hx
  simp at hx
 ·rw [h] at hx
  simp at hx
end Go.Proofs.YtnegjdcedhnjdaaGreatDoor
namespace Go.Proofs.YtnegjdcedhnjdaaGreatDoor
set_option maxRecDepth 20000
section
variable {D:Nat→Dm} {n:Nat} {l:List En}
theorem gV_none (hE:Ens D n l) {p:List Int} (hp:InO D n p):gV D n (fun _=>false) l p=getE l p:=by
 obtain ⟨x,-,hx,rfl⟩:=num_lt hp
 have h:=wr_at hE hx
 rw [wr_gL hE] at h
 have h2:=gL_at (D:=D) (n:=n) (S:=fun _=>false) (l:=l) hx
 exact h2.symm.trans h
theorem roll_leaf (hE:Ens D n l) {p:List Int} (hp:InO D n p) (hno:∀ i,i<n→partsOf (D i).mem (D i).n (p.getD i 0)=[]):rollV D n l p=getE l p:=by
 have hall:∀ k,k≤n→gV D n (fun j=>decide (j<k)) l p=gV D n (fun _=>false) l p:=by
  intro k
  induction k with
  | zero=>intro _;exact gV_congr fun e _=>gw_congr n fun j _=>by unfold facS;simp
  | succ k ih =>
   intro hk
   rw [←ih (by omega)]
   have h0:=hp.lo k (by omega)
   have h1:=hp.hi k (by omega)
   refine gV_congr fun e he=>?_
   rw [←gw_bare hE (show k<n by omega) (S:=fun j=>decide (j<k)) (by simp) he (m:=(p.getD k 0).toNat) (by omega) (by omega) (by rw [Int.toNat_of_nonneg h0];exact hno k (by omega))]
   refine gw_congr n fun j _=>?_
   have:decide (j<k+1)=addS (fun j=>decide (j<k)) k j:=by
    unfold addS
    rw [Bool.eq_iff_iff]
    simp
    omega
   unfold facS
   simp only [this]
 rw [←gV_all (S:=fun j=>decide (j<n)) (fun j hj=>decide_eq_true hj),hall n (Nat.le_refl _),gV_none hE hp]
theorem roll_parts (hE:Ens D n l) {p:List Int} (hp:InO D n p) {b:Nat} (hb:b<n) (hP:partsOf (D b).mem (D b).n (p.getD b 0)≠[]):rollV D n l p=partsV (D b).mem (fun z=>rollV D n l (p.set b z)) (partsOf (D b).mem (D b).n (p.getD b 0)):=by
 obtain ⟨x,-,hx,rfl⟩:=num_lt hp
 have h0:=hp.lo b hb
 have hdg:=digit_at (D:=D) (n:=n) (x:=x) hb
 obtain ⟨m,hm⟩:∃ m,x / stepD D n b % (D b).n=m:=⟨_,rfl⟩
 have hpm:(placeL D n x).getD b 0=(m:Int):=by omega
 rw [hpm] at hP ⊢
 have hfix:=gL_fix hE hb (S:=fun _=>true) (m:=m) x (by rw [gL_len];exact hx) hm hP
 have hS:∀ j,j<n→addS (fun _=>true) b j=true:=fun j _=>by simp [addS]
 rw [gL_at hx,gV_all hS] at hfix
 rw [hfix]
 refine parts_same _ _ fun k hk=>?_
 obtain ⟨j,rfl,hj,-⟩:=selTo_mem k hk
 obtain ⟨y,h1,h2,h3⟩:=set_num hE.right hb hx hj
 rw [hm] at h1
 unfold atP cAt
 rw [h1,Int.toNat_natCast,gL_at h2,gV_all hS,h3]
theorem sol_roll (hE:Ens D n l) (hR:AllR D n) (hf:∀ i,i<n→∀ k,k<(D i).n→((D i).mem k).formula.size=0):∀ (m:Nat) (p:List Int),InO D n p→msrTo D p n<m→solV D n (getE l) p=rollV D n l p:=by
 intro m
 induction m with
 | zero=>intro p _ h;omega
 | succ m ih =>
  intro p hp hm
  rcases by_in D p n with h | ⟨b,h1,h2⟩
  ·rw [sol_leaf _ (by omega),roll_leaf hE hp]
   intro i hi
   have hb:∀ k,byTo D p k = -1→∀ j,j<k→leafB (D j).mem (D j).n (p.getD j 0).toNat=true:=by
    intro k
    induction k with
    | zero=>intro _ j hj;omega
    | succ k ihk =>
     intro he j hj
     unfold byTo at he
     split at he
     ·omega
     ·rename_i hc
      by_cases e:j=k
      ·subst e
       cases hl:leafB (D j).mem (D j).n (p.getD j 0).toNat with
       | true=>rfl
       | false=>exact absurd ⟨hl,Or.inl (by omega)⟩ hc
      ·exact ihk he j (by omega)
   have hl:=hb n h i hi
   have h0:=hp.lo i hi
   unfold leafB at hl
   rw [Bool.and_eq_true] at hl
   have h3 : ¬ 0≤findFrom (partB (D i).mem ((p.getD i 0).toNat:Int)) (D i).n 0:=by simpa using hl.2
   rw [Int.toNat_of_nonneg h0] at h3
   refine List.eq_nil_iff_forall_not_mem.2 fun z hz=>h3 ?_
   obtain ⟨q,rfl,hq,hq2⟩:=selTo_mem z hz
   rcases findFrom_cases (partB (D i).mem (p.getD i 0)) (D i).n 0 with ⟨h4,h5⟩ | ⟨q2,h4,-⟩
   ·have:=h5 q (Nat.zero_le _) (by omega)
    rw [hq2] at this
    cases this
   ·omega
  ·rw [sol_by hR (getE l) hp h1]
   have hp0:=hp.lo b h2
   have hp1:=hp.hi b h2
   have hlf:leafB (D b).mem (D b).n (p.getD b 0).toNat=false:=by
    have hb:∀ k,byTo D p k=(b:Int)→leafB (D b).mem (D b).n (p.getD b 0).toNat=false:=by
     intro k
     induction k with
     | zero=>intro he;unfold byTo at he;omega
     | succ k ihk =>
      intro he
      unfold byTo at he
      split at he
      ·rename_i hc
       have:k=b:=by omega
       subst this
       exact hc.1
      ·exact ihk he
    exact hb n h1
   have hfz:=hf b h2 (p.getD b 0).toNat (by omega)
   have hP:partsOf (D b).mem (D b).n (p.getD b 0)≠[]:=by
    intro he
    unfold leafB at hlf
    rw [decide_eq_true hfz,Bool.true_and] at hlf
    have h3:0≤findFrom (partB (D b).mem ((p.getD b 0).toNat:Int)) (D b).n 0:=by simpa using hlf
    rw [Int.toNat_of_nonneg hp0] at h3
    rcases findFrom_cases (partB (D b).mem (p.getD b 0)) (D b).n 0 with ⟨h4,-⟩ | ⟨q2,h4,h5,h6,h7,h8⟩
    ·omega
    ·have:=sel_in (p:=partB (D b).mem (p.getD b 0)) h6 h7
     rw [Nat.zero_add,show selTo (partB (D b).mem (p.getD b 0)) (D b).n=[] from he] at this
     cases this
   rw [roll_parts hE hp h2 hP]
   have e2:partsV (D b).mem (fun z=>rollV D n l (p.set b z)) (partsOf (D b).mem (D b).n (p.getD b 0))=oneV (D b) (fun z=>rollV D n l (p.set b z)) (p.getD b 0).toNat:=by
    unfold oneV partsV
    rw [if_pos hfz,Int.toNat_of_nonneg hp0]
   rw [e2,←parts_value hfz,←parts_value hfz]
   unfold partsV
   refine parts_same _ _ fun z hz=>?_
   have hxi:=mNd_in hz
   have hrk:=rk_less (hR b h2) (i:=(p.getD b 0).toNat) (by omega) hz
   rw [Int.toNat_of_nonneg hp0] at hrk
   have hms:=(msr_less (by rw [hp.len];exact h2) hrk n).2 h2
   exact ih _ (inO_set hp h2 hxi.1 hxi.2) (by omega)
end
end Go.Proofs.YtnegjdcedhnjdaaGreatDoor
namespace Go.Proofs.YtnegjdcedhnjdaaGreatDoor
open Go.ChangeShapes Go.WideShapes Go.ChangeAt Go.RowKit
set_option maxRecDepth 20000
def ndmB:Mem:=⟨⟨#[98]⟩,-1,0,⟨#[]⟩⟩
def ndmC:Mem:=⟨⟨#[99]⟩,0,1,⟨#[]⟩⟩
def ndmM (i:Nat):Mem:=if i=0 then ndmB else ndmC
def ndmD:Dm:=⟨⟨#[97]⟩,0,2,ndmM⟩
def ndmO:Nat→Dm:=fun _=>ndmD
theorem ndm_dim:dimErr ndmD=(-1,0):=by decide +kernel
theorem ndm_mem:∀ j:Fin 2,mErr ndmD j=0:=by decide +kernel
theorem ndm_nd:ndL ndmD=[[1],[]]:=by decide +kernel
theorem ndm_err:rErr ndmD=(-1,0):=re3 (by rw [ndm_dim]) (fun j hj=>ndm_mem ⟨j,hj⟩) fun j _=>by rw [ndm_nd,←one_nd];exact one_acyc j
theorem ndm_all:(allErr ndmO 1).2.2=0:=by decide +kernel
theorem ndm_ru:(ruErr ndmO 1).2.2=0:=ru_zero ndm_all fun i _=>by show (rErr ndmD).2=0;rw [ndm_err]
theorem ndm_prod:prodN ndmO 1=2:=by decide +kernel
end Go.Proofs.YtnegjdcedhnjdaaGreatDoor
