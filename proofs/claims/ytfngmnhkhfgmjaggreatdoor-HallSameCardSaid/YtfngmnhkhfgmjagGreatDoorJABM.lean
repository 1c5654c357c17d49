/-
  What is told at a place of cells that are there, as a plan of package solve tells it (Tell), in whatever memory.
-/
import Derived.Test.YtfngmnhkhfgmjagGreatDoorJABB
import Derived.Test.YtfngmnhkhfgmjagGreatDoorJABJ
namespace Go.Proofs.YtfngmnhkhfgmjagGreatDoor
open Go.ChangeShapes Go.WideShapes Go.ChangeAt Go.RowKit
set_option maxRecDepth 20000
set_option maxHeartbeats 8000000 in
theorem ptell_any (q g n:Nat) (D:Nat→Dm) (X:Nat→AL) (x:Nat) (AC:Option Addr) (cC:Nat) (L:List (Int×Int)) (w:World) (hR:AllR D n) (hE:(allErr D n).2.2=0) (hx:x<prodN D n) (hA:PlanV w q g n D X) (hL:L.length=prodN D n) (hC:CelV w AC cC L) (hok:∀ z∈ndsX D n x,goodC (L.getD z.toNat noC)) :
  Calls Tryz.prog 41 #[.pointer (some ⟨q,0,none⟩),.slice AC (prodN D n) cC,.int .i64 x] w fun e w'=>e=.returned (.tuple #[.agg #[.int .i64 (tlV D n L x).1,.int .i64 (tlV D n L x).2],.nilIface])∧Below w.heap.size w w':=by
 obtain ⟨i0,hi0,hz0,hz1,hz2⟩:=info_parts Tryz.infoCe
 obtain ⟨hn1,hn4,hp3,hd⟩:=allErr_some hE
 obtain ⟨W,hW⟩:∃ W,w.alloc (.cells #[.int .i64 0,.int .i64 0] 32)=W:=⟨_,rfl⟩
 have hB0:Below w.heap.size w W:=by rw [←hW];go_grown
 have hWb:W.heap[w.heap.size]?=some (.cells #[.int .i64 0,.int .i64 0] 32 (0,0)):=by rw [←hW];exact heap_alloc_new ..
 have HB0:Hid (Below w.heap.size w W):=hB0
 have HWb:Hid (W.heap[w.heap.size]?=some (.cells #[.int .i64 0,.int .i64 0] 32 (0,0))):=hWb
 have hl0:w.heap.size<W.heap.size:=(Array.getElem?_eq_some_iff.1 hWb).1
 obtain ⟨hcL,-,h0 | ⟨bc,oc,rfl,hCat⟩⟩:=id hC
 ·rw [h0] at hL;simp at hL;omega
 have hby:=by_any2 q g n D X x W hE hx (hA.later hB0)
 have HCe:Hid (∀ w',Below w.heap.size w w'→bc<w'.heap.size∧∀ j,j<prodN D n→w'.cell? ⟨bc,oc+j*2,none⟩=some (.int .i64 (L.getD j noC).1)∧w'.cell? ⟨bc,oc+j*2+1,none⟩=some (.int .i64 (L.getD j noC).2)):=fun w' hB=>by
  obtain ⟨-,-,h0 | ⟨bc',oc',h1,hCat'⟩⟩:=hC.later hB
  ·rw [h0] at hL;simp at hL;omega
  ·cases h1
   exact ⟨hCat'.1,fun j hj=>hCat'.2 j (by omega)⟩
 have HCp:Hid (∀ w',Below w.heap.size w w'→q<w'.heap.size∧w'.cell? ⟨q,0,none⟩=some (.slice (some ⟨g,0,none⟩) n n)∧w'.cell? ⟨q,1,none⟩=some (.int .i64 (prodN D n:Nat))):=fun w' hB=>(hA.later hB).cells
 have HA:Hid (PlanV w q g n D X):=hA
 have HRs:Hid (∀ w',Below W.heap.size W w'→w.heap.size<w'.heap.size∧w'.cell? ⟨w.heap.size,0,none⟩=some (.int .i64 0)∧w'.cell? ⟨w.heap.size,1,none⟩=some (.int .i64 0)∧w'.frozen? ⟨w.heap.size,0,none⟩=false∧w'.frozen? ⟨w.heap.size,1,none⟩=false):=fun w' hB=>⟨Nat.lt_of_lt_of_le hl0 hB.size,pair_at ((hB.block _ hl0).trans hWb)⟩
 obtain ⟨hq,q0,q1⟩:=HCp.out W hB0
 have hnI:(n:Int)≤4:=by omega
 have hP:=placeL_in (D:=D) (n:=n) (x:=x) hE
 obtain ⟨N,hN⟩:∃ N,prodN D n=N:=⟨_,rfl⟩
 have HN:Hid (prodN D n=N):=hN
 rcases by_in D (placeL D n x) n with h | ⟨b,h,hb⟩
 ·have HV:Hid (tlV D n L x=L.getD x noC):=tl_leaf (by omega)
  rw [h] at hby
  rw [hN] at q1 hx hp3 HCe HCp hL ⊢
  have hxI:(x:Int)<(N:Int):=by omega
  have hNI:(N:Int)≤3000:=by omega
  have hcI:(N:Int)≤(cC:Int):=by omega
  clear hA hE hR hP h hd hC hCat hok hB0 hWb hN
  go_enter Tryz.func41,Tryz.ntmps41
  go_wp2_with fail
  refine hby.mono ?_
  rintro e w1 ⟨rfl,hb1⟩
  have HB1:Hid (Below W.heap.size W w1):=hb1
  obtain ⟨hbc,hcj⟩:=HCe.out w1 (onB HB0.out hb1)
  obtain ⟨y0,y1⟩:=hcj x hx
  obtain ⟨hr,r0,r1,r2,r3⟩:=HRs.out w1 hb1
  obtain ⟨⟨ra,rb⟩,hRe⟩:∃ R,L.getD x noC=R:=⟨_,rfl⟩
  have HRe:Hid (L.getD x noC=(ra,rb)):=hRe
  rw [hRe] at y0 y1
  simp only at y0 y1
  clear hb1 hby q0 q1 hW hcj hRe
  go_wp2_with fail
  refine bodyPost_ret (v:=.tuple #[.agg #[.int .i64 ra,.int .i64 rb],.nilIface]) (by simp [results,Tryz.results41,go_sem,r0,r1]) rfl ⟨by rw [HV.out,HRe.out],?_⟩
  exact ((onB HB0.out HB1.out).setCell (by simp) _).setCell (by simp) _
 ·obtain ⟨hd1,hd12⟩:=hd b hb
  have hp0:=hP.lo b hb
  have hp1:=hP.hi b hb
  obtain ⟨m,hm⟩:∃ m,x / stepD D n b % (D b).n=m:=⟨_,rfl⟩
  have hpm:((placeL D n x).getD b 0).toNat=m:=by rw [digit_at hb,hm]
  have hmn:m<(D b).n:=by rw [←hm];exact Nat.mod_lt _ hd1
  have HV:Hid (tlV D n L x=oneV (D b) (fun k=>L.getD (putN D n x b k).toNat noC) m):=by show _=_;rw [tl_by h,hpm]
  have HNd:Hid (ndsX D n x=(neW (D b) m).map (putN D n x b)):=by show _=_;rw [nds_by h,hpm]
  have hSp:=stepD_pos (D:=D) (n:=n) (fun i hi=>(hd i hi).1) hb
  obtain ⟨S,hSd⟩:∃ S,stepD D n b=S:=⟨_,rfl⟩
  have HWy:Hid (∀ w',Below w.heap.size w w'→Calls Tryz.prog 83 #[.agg #[.int .i64 (D b).solve,.int .i64 S,.slice (X b).A (D b).n (X b).c],.int .i64 x] w' fun e w''=>e=.returned (wayV ((X b).xs.getD m noW))∧Below w'.heap.size w' w''):=fun w' hB=>way_any (D b) S (X b) x m w' (by rw [←hSd];exact hSp) hd1 hd12 (by omega) (by rw [←hSd];exact hm) ((hA.later hB).2.one hb).2.2
  have HTl:Hid (∀ w' A' c',Below w.heap.size w w'→CelV w' A' c' ((ndsX D n x).map fun z=>L.getD z.toNat noC)→Calls Tryz.prog 84 #[wayV ((X b).xs.getD m noW),.slice A' (ndsX D n x).length c'] w' fun e w''=>e=.returned (.tuple #[.agg #[.int .i64 (tlV D n L x).1,.int .i64 (tlV D n L x).2],.nilIface])∧Below w'.heap.size w' w''):=fun w' A' c' hB hCv=>by
   obtain ⟨-,-,hOne⟩:=(hA.later hB).2.one hb
   obtain ⟨-,-,-,-,-,hWt⟩:=hOne.way hmn
   have hwo:=hOne.2.2 m hmn
   have hne:=way_ne hwo
   have h2:=tell_any (D b) m ((X b).xs.getD m noW) A' c' (fun k=>L.getD (putN D n x b k).toNat noC) w' (hR b hb) hmn hwo hWt (fun k hk=>hok _ (by rw [HNd.out,List.mem_map];exact ⟨k,(neW_mem (hR b hb) hmn k).2 hk,rfl⟩)) (by
    rw [HNd.out,List.map_map] at hCv
    rw [hne]
    exact hCv)
   rw [hne,←HV.out] at h2
   have hl2:(ndsX D n x).length=(neW (D b) m).length:=by rw [HNd.out,List.length_map]
   rw [hl2]
   exact h2
  have HNdc:Hid (∀ w',Below w.heap.size w w'→Calls Tryz.prog 82 #[.pointer (some ⟨q,0,none⟩),.int .i64 x] w' fun e w''=>(∃ v,e=.returned v∧w''.ownsRow w'.heap.size 3 1 v (ndsX D n x).length (mapI (ndsX D n x)))∧Below w'.heap.size w' w''):=fun w' hB=>needs_any q g n D X x w' hR hE hx (hA.later hB)
  have HIn:Hid (∀ z∈ndsX D n x,∃ y:Nat,z=(y:Int)∧y<N):=fun z hz=>by
   obtain ⟨y,e1,e2⟩:=nds_in hR hE hx z hz
   exact ⟨y,e1,by omega⟩
  have hln:=nds_len hR hE hx
  have HCx:Hid (∀ w',Below w.heap.size w w'→g<w'.heap.size∧w'.cell? ⟨g,b*3,none⟩=some (.int .i64 (D b).solve)∧w'.cell? ⟨g,b*3+1,none⟩=some (.int .i64 S)∧w'.cell? ⟨g,b*3+2,none⟩=some (.slice (X b).A (D b).n (X b).c)):=fun w' hB=>by
   obtain ⟨hg,⟨c0,c1,c2⟩,-⟩:=(hA.later hB).2.one hb
   rw [hSd] at c1
   exact ⟨hg,c0,c1,c2⟩
  obtain ⟨P,hPn⟩:∃ P,ndsX D n x=P:=⟨_,rfl⟩
  rw [hPn] at HTl HNdc HIn hln
  obtain ⟨F,hF⟩:∃ F,(fun z:Int=>L.getD z.toNat noC)=F:=⟨_,rfl⟩
  have HFe:Hid (∀ z:Int,F z=L.getD z.toNat noC):=fun z=>by rw [←hF]
  rw [hF] at HTl
  obtain ⟨⟨ra,rb⟩,hRe⟩:∃ R,tlV D n L x=R:=⟨_,rfl⟩
  rw [hRe] at HTl ⊢
  simp only at HTl ⊢
  obtain ⟨M,hMl⟩:∃ M,P.length=M:=⟨_,rfl⟩
  have HM:Hid (P.length=M):=hMl
  rw [hMl] at HTl HNdc hln
  have hMI:(M:Int)≤12:=by omega
  rw [h] at hby
  rw [hN] at q1 hx hp3 HCe HCp hL ⊢
  have hxI:(x:Int)<(N:Int):=by omega
  have hNI:(N:Int)≤3000:=by omega
  have hcI:(N:Int)≤(cC:Int):=by omega
  have hbI:(b:Int)<(n:Int):=by omega
  have hb0:((b:Int) == -1)=false:=by simp
  generalize wayV ((X b).xs.getD m noW)=wv at HWy HTl
  clear hA hE hR hP h hd hC hCat hok hB0 hWb hp0 hp1 hm hpm hmn hSp hSd hPn hMl HNd HV hRe hN hF
  go_enter Tryz.func41,Tryz.ntmps41
  go_wp2_with fail
  refine hby.mono ?_
  rintro e w1 ⟨rfl,hb1⟩
  have HB1:Hid (Below W.heap.size W w1):=hb1
  have hnd:=HNdc.out w1 (onB HB0.out hb1)
  clear hb1 hby q0 q1 hW
  go_wp2_with fail
  refine hnd.mono ?_
  rintro e w2 ⟨⟨v,rfl,hO2⟩,hb2⟩
  have HB2:Hid (Below W.heap.size W w2):=onB HB1.out hb2
  have HIt:Hid (∃ A' c',v=.slice A' M c'∧IntT w2 A' c' P):=by
   have h2:=hO2
   rw [←HM.out] at h2
   obtain ⟨A',c',e,hv⟩:=intT_own h2
   rw [HM.out] at e
   exact ⟨A',c',e,hv⟩
  obtain ⟨A2,c2,rfl,hI2⟩:=HIt.out
  have HI2:Hid (IntT w2 A2 c2 P):=hI2
  clear hb2 hnd hO2 hI2 HIt
  go_wp2_with fail
  go_loopg [9,46] M (fun gg s9 s46 wr => ∃ (k:Nat) (u:Value),k≤M∧gg=M-k∧s46=.int .i64 k∧u=s9∧Hid (wr.ownsRow w2.heap.size 32 2 u k (cellsC ((P.take k).map F)))∧Hid (Below w2.heap.size w2 wr))
  case atStart=>exact ⟨0,_,Nat.zero_le _,rfl,rfl,rfl,World.ownsRow_nil _ _ _ _,Below.refl _ _⟩
  case round =>
   obtain ⟨k,u,hk,rfl,rfl,rfl,HO,HBw⟩:=hrel
   have HBwW:Hid (Below W.heap.size W wr):=onB HB2.out HBw.out
   by_cases hlt:k<M
   ·have hki:(k:Int)<(M:Int):=by omega
    have hkP:k<P.length:=by rw [HM.out];exact hlt
    obtain ⟨y,hy,hyN⟩:=HIn.out _ (getD_memI hkP)
    obtain ⟨hcS,-,hS0 | ⟨bs,cs,fr,rfl,hbS,hcl⟩⟩:=HI2.out.later HBw.out
    ·have:=HM.out;rw [hS0] at this;simp at this;omega
    have cx:=hcl k hkP
    have hbs:bs<wr.heap.size:=(Array.getElem?_eq_some_iff.1 hbS).1
    rw [HM.out] at hcS
    rw [hy] at cx
    have hcSI:(M:Int)≤(c2:Int):=by omega
    have HSn:Hid ((P.take (k+1)).map F=(P.take k).map F ++ [L.getD y noC]):=by
     show _=_
     rw [map_snoc F P hkP,HFe.out,hy,Int.toNat_natCast]
    obtain ⟨hbc,hcj⟩:=HCe.out wr (onB HB0.out HBwW.out)
    obtain ⟨y0,y1⟩:=hcj y hyN
    have hyI:(y:Int)<(N:Int):=by omega
    generalize L.getD y noC=r at y0 y1 HSn
    obtain ⟨sa,sb⟩:=r
    simp only at y0 y1
    have hsz2:=HBw.out.size
    clear hcl hbS hy hcj
    go_wp2_with (at_builtin;refine wpList_append_own _ rfl _ _ 22 rfl w2.heap.size 32 i0 (.agg #[.int .i64 0,.int .i64 0]) 2 16 Tryz.underlying22 hi0 hz0 hz1 hz2 rfl (by decide) _ _ _ rfl (HO.out.alloc _) ⟨wr.heap.size,0,none⟩ 1 1 [.int .i64 sa,.int .i64 sb] rfl rfl ?qe2 ?qe3 ?qe4 ?qe5 ?qe6 ?_)
    case qe2 =>
     intro j t hj
     rw [plain_addW,Lib.cell_of_heap (heap_alloc_new wr (.cells #[.int .i64 sa,.int .i64 sb] 32))]
     simpa using hj
    case qe3=>intro t ht;simp at ht;rcases ht with rfl | rfl <;> rfl
    case qe4=>simp only [maxLen];omega
    case qe5=>omega
    case qe6=>simp;omega
    intro v' w4 hown' hgrow hnil
    have HB4:Hid (Below w2.heap.size w2 w4):=grown_own HBw.out HO.out hgrow
    have HO4:Hid (w4.ownsRow w2.heap.size 32 2 v' (k+1) (cellsC ((P.take (k+1)).map F))):=by
     show World.ownsRow ..
     rw [HSn.out,cellsC_append,List.map_take]
     exact hown'
    clear hown' hgrow hnil
    go_wp2_with fail
    go_roundg (M-(k+1))
    case measure=>omega
    case rel=>exact ⟨k+1,_,by omega,rfl,by go_num,rfl,HO4,HB4⟩
   ·have hke:k=M:=by omega
    subst hke
    have HCv:Hid (∃ A' c',u=.slice A' k c'∧CelV wr A' c' (P.map F)):=by
     have h:=HO.out
     rw [List.take_of_length_le (by rw [HM.out];exact Nat.le_refl _)] at h
     have hlen:(P.map F).length=k:=by rw [List.length_map];exact HM.out
     rw [←hlen] at h
     obtain ⟨A',c',e,hv⟩:=cel_own h
     rw [hlen] at e
     exact ⟨A',c',e,hv⟩
    obtain ⟨A3,c3,rfl,hC3⟩:=HCv.out
    have HC3:Hid (CelV wr A3 c3 (P.map F)):=hC3
    obtain ⟨hq1,p0,p1⟩:=HCp.out wr (onB HB0.out HBwW.out)
    obtain ⟨hg1,a1,a2,a3⟩:=HCx.out wr (onB HB0.out HBwW.out)
    have hwy:=HWy.out wr (onB HB0.out HBwW.out)
    clear hC3 HCv
    go_wp2_with fail
    refine hwy.mono ?_
    rintro e w5 ⟨rfl,hb5⟩
    have HB5:Hid (Below W.heap.size W w5):=onB HBwW.out hb5
    have htl:=HTl.out w5 A3 c3 (onB HB0.out HB5.out) (HC3.out.later hb5)
    clear hb5 hwy p0 p1 a1 a2 a3
    go_wp2_with fail
    refine htl.mono ?_
    rintro e w6 ⟨rfl,hb6⟩
    have HB6:Hid (Below W.heap.size W w6):=onB HB5.out hb6
    obtain ⟨hr,r0,r1,r2,r3⟩:=HRs.out w6 HB6.out
    clear hb6 htl
    go_wp2_with fail
    refine bodyPost_ret (v:=.tuple #[.agg #[.int .i64 ra,.int .i64 rb],.nilIface]) (by simp [results,Tryz.results41,go_sem,r0,r1]) rfl ⟨rfl,?_⟩
    exact ((onB HB0.out HB6.out).setCell (by simp) _).setCell (by simp) _
theorem keepFr {W w':World} {q r s:Nat} {g n c:Nat} {v:Value} (h:q<W.heap.size∧q≠g∧r<W.heap.size∧r≠g∧W.cell? ⟨q,0,none⟩=some (.slice (some ⟨g,0,none⟩) n c)∧W.cell? ⟨r,s,none⟩=some v) (hG:W.grownBy w' (some g)):W.grownBy w' (some g)∧w'.cell? ⟨q,0,none⟩=some (.slice (some ⟨g,0,none⟩) n c)∧w'.cell? ⟨r,s,none⟩=some v:=by
 have hb:w'.heap[q]?=W.heap[q]?:=hG.block q h.1 fun e=>h.2.1 (by simpa using e)
 have hc:w'.heap[r]?=W.heap[r]?:=hG.block r h.2.2.1 fun e=>h.2.2.2.1 (by simpa using e)
 exact ⟨hG,(World.cell?_of_block (a:=⟨q,0,none⟩) hb).trans h.2.2.2.2.1,(World.cell?_of_block (a:=⟨r,s,none⟩) hc).trans h.2.2.2.2.2⟩
set_option maxHeartbeats 8000000 in
theorem ofresh_any (A0:Option Addr) (cap n:Nat) (D:Nat→Dm) (A:Nat→Option Addr) (C:Nat→Nat) (w:World) (hE:(allErr D n).2.2=0) (hM:DimsV w A0 cap n D A C) :
  Calls Tryz.prog 70 #[.agg #[.slice A0 n cap]] w fun e w'=>(∃ g c G C',e=.returned (.agg #[.slice (some ⟨g,0,none⟩) n c])∧n≤c∧DimsO w' w.heap.size g n D G C')∧Below w.heap.size w w':=by
 obtain ⟨hn1,hn4,-,hd⟩:=allErr_some hE
 obtain ⟨hncap,h0 | ⟨b,o,rfl,hDA⟩⟩:=hM
 ·omega
 have HCl:Hid (∀ w',Below w.heap.size w w'→Calls Tryz.prog 106 #[.slice (some ⟨b,o,none⟩) n cap] w' fun e w''=>(∃ g c',e=.returned (.slice (some ⟨g,0,none⟩) n c')∧w'.heap.size≤g∧n≤c'∧DimO w'' g n (dcV D A C))∧Below w'.heap.size w' w''):=fun w' hB=>dclone_any b o cap n D A C w' (by omega) hn4 (hDA.later hB)
 have HMc:Hid (∀ k w',k<n→Below w.heap.size w w'→∃ bm om,A k=some ⟨bm,om,none⟩∧Calls Tryz.prog 107 #[.slice (some ⟨bm,om,none⟩) (D k).n (C k)] w' fun e w''=>(∃ g c',e=.returned (.slice (some ⟨g,0,none⟩) (D k).n c')∧w'.heap.size≤g∧(D k).n≤c'∧MemO w'' g (D k).n (D k).mem)∧Below w'.heap.size w' w''):=fun k w' hk hB=>by
  obtain ⟨-,-,-,-,h0 | ⟨bm,om,hA,hMm⟩⟩:=(hDA.later hB).2 k hk
  ·have:=(hd k hk).1;omega
  ·exact ⟨bm,om,hA,mclone_any bm om (C k) (D k).n (D k).mem w' (hd k hk).1 (hd k hk).2 hMm⟩
 have hnI:(n:Int)≤4:=by omega
 have HDn:Hid (∀ k,k<n→(D k).n≤12):=fun k hk=>(hd k hk).2
 obtain ⟨W,hW⟩:∃ W,(w.alloc (.cells #[.slice (some ⟨b,o,none⟩) n cap] 29)).alloc (.cells #[.slice none 0 0] 29)=W:=⟨_,rfl⟩
 have hBW:Below w.heap.size w W:=by rw [←hW];go_grown
 have hWs:W.heap.size=w.heap.size+2:=by rw [←hW];simp
 have k1:W.heap[w.heap.size]?=some (.cells #[.slice (some ⟨b,o,none⟩) n cap] 29 (0,0)):=by rw [←hW,Below.heap_alloc _ _ _ (by simp)];exact heap_alloc_new ..
 have k2:W.heap[w.heap.size+1]?=some (.cells #[.slice none 0 0] 29 (0,0)):=by
  have:=heap_alloc_new (w.alloc (.cells #[.slice (some ⟨b,o,none⟩) n cap] 29)) (.cells #[.slice none 0 0] 29)
  rw [show (w.alloc (.cells #[.slice (some ⟨b,o,none⟩) n cap] 29)).heap.size=w.heap.size+1 by simp] at this
  rw [←hW];exact this
 have c1:W.cell? ⟨w.heap.size,0,none⟩=some (.slice (some ⟨b,o,none⟩) n cap):=(Lib.cell_of_heap k1 0).trans rfl
 have HBW:=hid_of hBW
 have HK2:=hid_of k2
 clear hDA hd hE k1 k2 hBW
 go_enter Tryz.func70,Tryz.ntmps70
 go_wp2_with fail
 refine (HCl.out W HBW.out).mono ?_
 rintro e w1 ⟨⟨g,cg,rfl,hg,hcg,hDO⟩,hb1⟩
 have hb1s:=hb1.size
 have HB1:Hid (Below w.heap.size w w1):=onB HBW.out hb1
 have K1:w1.heap[w.heap.size+1]?=some (.cells #[.slice none 0 0] 29 (0,0)):=(hb1.block _ (by omega)).trans HK2.out
 obtain ⟨w2,hw2⟩:∃ w2,w1.alloc (.cells #[.slice (some ⟨g,0,none⟩) n cg] 29)=w2:=⟨_,rfl⟩
 have hb2:Below w1.heap.size w1 w2:=by rw [←hw2];go_grown
 have hs2:w2.heap.size=w1.heap.size+1:=by rw [←hw2];simp
 have hk2:w2.heap[w1.heap.size]?=some (.cells #[.slice (some ⟨g,0,none⟩) n cg] 29 (0,0)):=by rw [←hw2];exact heap_alloc_new ..
 have HR0:Hid (FrS w w2 g 0 n D A C∧w2.heap[w1.heap.size]?=some (.cells #[.slice (some ⟨g,0,none⟩) n cg] 29 (0,0))∧w2.heap[w.heap.size+1]?=some (.cells #[.slice none 0 0] 29 (0,0))∧Below w.heap.size w w2):=by
  refine ⟨⟨fun _=>0,fun _=>0,by omega,?_,fun i hi=>by omega⟩,hk2,(hb2.block _ (by omega)).trans K1,onB HB1.out hb2⟩
  obtain ⟨cur,q1,q2⟩:=hDO.later hb2
  refine ⟨cur,q1,fun j hj=>(q2 j hj).trans ?_⟩
  simp
 have hgw1:g<w1.heap.size:=hDO.lt
 have c2:w2.cell? ⟨w1.heap.size,0,none⟩=some (.slice (some ⟨g,0,none⟩) n cg):=(Lib.cell_of_heap hk2 0).trans rfl
 clear hb1 hDO hb2 K1 hk2 HCl HBW HK2 c1 hW
 go_wp2_with fail
 clear c2
 go_loopg [13] n (fun gg s13 wr => ∃ k:Nat,k≤n∧gg=n-k∧s13=.int .i64 k∧Hid (FrS w wr g k n D A C∧wr.heap[w1.heap.size]?=some (.cells #[.slice (some ⟨g,0,none⟩) n cg] 29 (0,0))∧wr.heap[w.heap.size+1]?=some (.cells #[.slice none 0 0] 29 (0,0))∧Below w.heap.size w wr))
 case atStart=>exact ⟨0,Nat.zero_le _,rfl,rfl,HR0⟩
 case round =>
  obtain ⟨k,hk,rfl,rfl,HK⟩:=hrel
  obtain ⟨hF,hbox,hres,hBr⟩:=HK.out
  have hsr1:w1.heap.size<wr.heap.size:=(Array.getElem?_eq_some_iff.1 hbox).1
  by_cases hlt:k<n
  ·have hki:(k:Int)<(n:Int):=by omega
   have hcgI:(n:Int)≤(cg:Int):=by omega
   have hD:=hF.choose_spec.choose_spec.2.1
   have e0:=hD.cell (j:=k*3) (by omega)
   have e1:=hD.cell (j:=k*3+1) (by omega)
   have e2:=hD.cell (j:=k*3+2) (by omega)
   have v0:dcV D (fun i=>if i<k then some ⟨hF.choose i,0,none⟩ else A i) (fun i=>if i<k then hF.choose_spec.choose i else C i) (k*3)=.string (D k).name:=by unfold dcV;rw [if_pos (by omega),show k*3 / 3=k by omega]
   have v1:dcV D (fun i=>if i<k then some ⟨hF.choose i,0,none⟩ else A i) (fun i=>if i<k then hF.choose_spec.choose i else C i) (k*3+1)=.int .i64 (D k).solve:=by unfold dcV;rw [if_neg (by omega),if_pos (by omega),show (k*3+1) / 3=k by omega]
   have v2:dcV D (fun i=>if i<k then some ⟨hF.choose i,0,none⟩ else A i) (fun i=>if i<k then hF.choose_spec.choose i else C i) (k*3+2)=.slice (A k) (D k).n (C k):=by unfold dcV;rw [if_neg (by omega),if_neg (by omega),show (k*3+2) / 3=k by omega];simp
   rw [v0] at e0
   rw [v1] at e1
   rw [v2] at e2
   have hgl:=hD.lt
   obtain ⟨y,hy⟩:∃ y,wr.alloc (.cells #[.string (D k).name,.int .i64 (D k).solve,.slice (A k) (D k).n (C k)] 43)=y:=⟨_,rfl⟩
   have hBy:Below wr.heap.size wr y:=by rw [←hy];go_grown
   have hyb:y.heap[wr.heap.size]?=some (.cells #[.string (D k).name,.int .i64 (D k).solve,.slice (A k) (D k).n (C k)] 43 (0,0)):=by rw [←hy];exact heap_alloc_new ..
   have hys:y.heap.size=wr.heap.size+1:=by rw [←hy];simp
   obtain ⟨bm,om,hAk,-⟩:=HMc.out k y hlt (onB hBr hBy)
   have HMk:Hid (∀ w',Below w.heap.size w w'→Calls Tryz.prog 107 #[.slice (some ⟨bm,om,none⟩) (D k).n (C k)] w' fun e w''=>(∃ g c',e=.returned (.slice (some ⟨g,0,none⟩) (D k).n c')∧w.heap.size≤g∧(D k).n≤c'∧MemO w'' g (D k).n (D k).mem)∧Below w'.heap.size w' w''):=fun w' hB=>by
    obtain ⟨bm',om',hAk',h⟩:=HMc.out k w' hlt hB
    rw [hAk] at hAk'
    cases hAk'
    exact h.mono fun _ _ ⟨⟨g,c',h1,h2,h3⟩,h4⟩=>⟨⟨g,c',h1,Nat.le_trans hB.size h2,h3⟩,h4⟩
   rw [hAk] at e2 hy hyb
   have HBox:Hid (w1.heap.size<y.heap.size∧w1.heap.size≠g∧wr.heap.size<y.heap.size∧wr.heap.size≠g∧y.cell? ⟨w1.heap.size,0,none⟩=some (.slice (some ⟨g,0,none⟩) n cg)∧y.cell? ⟨wr.heap.size,2,none⟩=some (.slice (some ⟨bm,om,none⟩) (D k).n (C k))):=⟨by omega,by omega,by omega,by omega,(Lib.cell_of_heap ((hBy.block _ hsr1).trans hbox) 0).trans rfl,(Lib.cell_of_heap hyb 2).trans rfl⟩
   have HFy:Hid (∀ w3,Below y.heap.size y w3→FrS w w3 g k n D A C∧w3.heap[w1.heap.size]?=some (.cells #[.slice (some ⟨g,0,none⟩) n cg] 29 (0,0))∧w3.heap[w.heap.size+1]?=some (.cells #[.slice none 0 0] 29 (0,0))∧Below w.heap.size w w3):=fun w3 hb3=>by
    have hb:=onB hBy hb3
    exact ⟨hF.later hb,(hb.block _ hsr1).trans hbox,(hb.block _ (Nat.lt_of_lt_of_le (Array.getElem?_eq_some_iff.1 hres).1 (Nat.le_refl _))).trans hres,onB hBr hb⟩
   have HBy:=hid_of (onB hBr hBy)
   have HDy:Hid (∀ w3,Below y.heap.size y w3→(∃ u,w3.cell? ⟨g,k*3+2,none⟩=some u)∧w3.frozen? ⟨g,k*3+2,none⟩=false):=fun w3 hb3=>by
    have h:=(hD.later (onB hBy hb3))
    exact ⟨⟨_,h.cell (by omega)⟩,h.frozen _⟩
   have hgw:w.heap.size≤g:=hF.choose_spec.choose_spec.1
   have HPut:Hid (∀ w3 gm cm,FrS w w3 g k n D A C∧w3.heap[w1.heap.size]?=some (.cells #[.slice (some ⟨g,0,none⟩) n cg] 29 (0,0))∧w3.heap[w.heap.size+1]?=some (.cells #[.slice none 0 0] 29 (0,0))∧Below w.heap.size w w3→w.heap.size≤gm→(D k).n≤cm→MemO w3 gm (D k).n (D k).mem→FrS w (w3.setCell ⟨g,k*3+2,none⟩ (.slice (some ⟨gm,0,none⟩) (D k).n cm)) g (k+1) n D A C∧(w3.setCell ⟨g,k*3+2,none⟩ (.slice (some ⟨gm,0,none⟩) (D k).n cm)).heap[w1.heap.size]?=some (.cells #[.slice (some ⟨g,0,none⟩) n cg] 29 (0,0))∧(w3.setCell ⟨g,k*3+2,none⟩ (.slice (some ⟨gm,0,none⟩) (D k).n cm)).heap[w.heap.size+1]?=some (.cells #[.slice none 0 0] 29 (0,0))∧Below w.heap.size w (w3.setCell ⟨g,k*3+2,none⟩ (.slice (some ⟨gm,0,none⟩) (D k).n cm))):=fun w3 gm cm h1 h2 h3 h4=>by
    obtain ⟨a1,a2,a3,a4⟩:=h1
    have hne:∀ x (c:Array Value),w3.heap[x]?=some (.cells c 29 (0,0))→x≠g:=fun x c hx e=>by
     obtain ⟨c2,e2,-⟩:=a1.choose_spec.choose_spec.2.1
     rw [e,e2] at hx
     simp only [Option.some.injEq,Obj.cells.injEq] at hx
     exact absurd hx.2.1 (by decide)
    exact ⟨a1.put hlt h2 h3 h4,(setCell_off _ _ _ _ _ (hne _ _ a2)).trans a2,(setCell_off _ _ _ _ _ (hne _ _ a3)).trans a3,a4.setCell hgw _⟩
   generalize (D k).name=s1 at e0 hy hyb
   generalize (D k).solve=s2 at e1 hy hyb
   have hdn:=HDn.out k hlt
   obtain ⟨dn,hdne⟩:∃ dn,(D k).n=dn:=⟨_,rfl⟩
   rw [hdne] at e2 hy hyb HMk HBox HPut hdn
   clear hF hbox hres hBr hD hBy hyb hAk hdne v0 v1 v2 HMc HR0
   go_wp2_with fail
   clear e0 e1 e2
   go_region_held3 (fun w'=>y.grownBy w' (some g)∧w'.cell? ⟨w1.heap.size,0,none⟩=some (.slice (some ⟨g,0,none⟩) n cg)∧w'.cell? ⟨wr.heap.size,2,none⟩=some (.slice (some ⟨bm,om,none⟩) dn (C k)))
    ((refine keepFr HBox.out ?_;(repeat (first | exact grown_refl _ _ | assumption | refine grown_drew ?_ | refine grown_set ?_ _ _));done))
    (first | (go_at_call 107;refine (HMk.out _ (onB HBy.out (by go_grown))).mono ?_;rintro e w3 ⟨⟨gm,cm,rfl,hgm,hcm,hMO⟩,hb3⟩;have hN3:=onB (W0:=y) (by go_grown) hb3;have hG3:y.grownBy w3 (some g):=grown_below hN3;obtain ⟨⟨u0,d0⟩,f0⟩:=HDy.out w3 hN3;have HB3:=hid_of hN3;have HMO:=hid_of hMO;have hs3:=hN3.size;clear hb3 hN3 hMO))
   clear d0 f0 hG3
   have HFin:=hid_of (HPut.out w3 gm cm (HFy.out w3 HB3.out) hgm hcm HMO.out)
   go_wp2_with fail
   go_roundg (n-(k+1))
   case measure=>omega
   case rel=>exact ⟨k+1,by omega,rfl,by go_num,HFin⟩
  ·have hke:k=n:=by omega
   subst hke
   obtain ⟨G,C',hAll⟩:=hF.all
   have c3:wr.cell? ⟨w1.heap.size,0,none⟩=some (.slice (some ⟨g,0,none⟩) k cg):=(Lib.cell_of_heap hbox 0).trans rfl
   have c4:wr.cell? ⟨w.heap.size+1,0,none⟩=some (.slice none 0 0):=(Lib.cell_of_heap hres 0).trans rfl
   have f4:=Lib.frozen_of_heap hres 0
   have hs4:w.heap.size+1<wr.heap.size:=(Array.getElem?_eq_some_iff.1 hres).1
   have HFin:Hid (DimsO (wr.setCell ⟨w.heap.size+1,0,none⟩ (.slice (some ⟨g,0,none⟩) k cg)) w.heap.size g k D G C'∧Below w.heap.size w (wr.setCell ⟨w.heap.size+1,0,none⟩ (.slice (some ⟨g,0,none⟩) k cg))):=by
    obtain ⟨a1,a2,a3⟩:=hAll
    have hne:∀ x (c:Array Value) (t:Nat) (fr:Nat×Nat),wr.heap[x]?=some (.cells c t fr)→t≠29→x≠w.heap.size+1:=fun x c t fr hx ht e=>by
     rw [e,hres] at hx
     simp only [Option.some.injEq,Obj.cells.injEq] at hx
     exact ht hx.2.1.symm
    refine ⟨⟨a1,a2.same (setCell_off _ _ _ _ _ ?_),fun i hi=>⟨(a3 i hi).1,(a3 i hi).2.1,(a3 i hi).2.2.same (setCell_off _ _ _ _ _ ?_)⟩⟩,hBr.setCell (by show _≤w.heap.size+1;omega) _⟩
    ·obtain ⟨c,q1,-⟩:=a2
     exact hne _ _ _ _ q1 (by decide)
    ·obtain ⟨c,fr,q1,-⟩:=(a3 i hi).2.2
     exact hne _ _ _ _ q1 (by decide)
   clear hF hbox hres hBr hAll HMc HR0
   go_wp2_with fail
   have hq:=World.cell?_setCell_same wr ⟨w.heap.size+1,0,none⟩ (.slice (some ⟨g,0,none⟩) k cg) c4
   refine bodyPost_ret (v:=.agg #[.slice (some ⟨g,0,none⟩) k cg]) (by simp [results,Tryz.results70,go_sem,hq]) rfl ⟨⟨g,cg,G,C',rfl,hcg,HFin.out.1⟩,HFin.out.2⟩
end Go.Proofs.YtfngmnhkhfgmjagGreatDoor
