/-
  A queue of places in memory: how many of each one's needs are missing, those that need it, those that are ready; each list in a block of its own.
-/
import Derived.Test.YtnlfpaopfloklaaGreatDoorJEBG
import Derived.Test.YtnlfpaopfloklaaGreatDoorJEBI
namespace Go.Proofs.YtnlfpaopfloklaaGreatDoor
open Go.ChangeShapes Go.WideShapes Go.ChangeAt Go.RowKit
set_option maxRecDepth 20000
structure QM (w:World) (B q gM gU N:Nat) (M:Nat→Int) (UV:Nat→Value) (UL:Nat→List Int) (R:Value) (RL:List Int):Prop where
 hq:w.heap[q]?=some (.cells #[.slice (some ⟨gM,0,none⟩) N N,.slice (some ⟨gU,0,none⟩) N N,R] 104 (0,0))
 hM:ValB w gM N 3 fun j=>.int .i64 (M j)
 hU:ValB w gU N 38 UV
 own:∀ j,j<N→w.ownsRow B 3 1 (UV j) (UL j).length (mapI (UL j))
 ready:w.ownsRow B 3 1 R RL.length (mapI RL)
 dM:∀ j,j<N→(UV j).ownBlock≠some gM
 dU:∀ i j,i<N→j<N→i≠j→∀ b,(UV i).ownBlock=some b→(UV j).ownBlock≠some b
 dR:R.ownBlock≠some gM
 dRU:∀ j,j<N→∀ b,R.ownBlock=some b→(UV j).ownBlock≠some b
 lq:B≤q
 lM:B≤gM
 lU:B≤gU
section
variable {w w':World} {B q gM gU N:Nat} {M:Nat→Int} {UV:Nat→Value} {UL:Nat→List Int} {R:Value} {RL:List Int}
theorem QM.ql (h:QM w B q gM gU N M UV UL R RL):q<w.heap.size:=(Array.getElem?_eq_some_iff.1 h.hq).1
theorem QM.later (h:QM w B q gM gU N M UV UL R RL) (hB:Below w.heap.size w w'):QM w' B q gM gU N M UV UL R RL :=
 ⟨(hB.block q h.ql).trans h.hq,h.hM.same (hB.block _ h.hM.lt),h.hU.same (hB.block _ h.hU.lt),fun j hj=>own_later (h.own j hj) hB,own_later h.ready hB,h.dM,h.dU,h.dR,h.dRU,h.lq,h.lM,h.lU⟩
theorem QM.cells (h:QM w B q gM gU N M UV UL R RL):w.cell? ⟨q,0,none⟩=some (.slice (some ⟨gM,0,none⟩) N N)∧w.cell? ⟨q,1,none⟩=some (.slice (some ⟨gU,0,none⟩) N N)∧w.cell? ⟨q,2,none⟩=some R∧w.frozen? ⟨q,2,none⟩=false :=
 ⟨by simp [World.cell?,h.hq],by simp [World.cell?,h.hq],by simp [World.cell?,h.hq],by simp [World.frozen?,h.hq]⟩
theorem QM.ne (h:QM w B q gM gU N M UV UL R RL):q≠gM∧q≠gU∧gM≠gU:=by
 refine ⟨fun e=>?_,fun e=>?_,fun e=>?_⟩
 ·have h1:=h.hq;rw [e,h.hM] at h1;simp at h1
 ·have h1:=h.hq;rw [e,h.hU] at h1;simp at h1
 ·have h1:=h.hM;unfold ValB at h1;rw [e,h.hU] at h1;simp at h1
theorem QM.off (h:QM w B q gM gU N M UV UL R RL) {b:Nat} {cur:Array Value} (hb:w.heap[b]?=some (.cells cur 3 (0,0))):b≠q∧b≠gU:=by
 refine ⟨fun e=>?_,h.hU.off hb row_ne_int'⟩
 rw [e,h.hq] at hb
 simp at hb
theorem QM.setM (h:QM w B q gM gU N M UV UL R RL) (m:Nat) (x:Int):QM (w.setCell ⟨gM,m,none⟩ (.int .i64 x)) B q gM gU N (fun j=>if j=m then x else M j) UV UL R RL:=by
 obtain ⟨n1,n2,n3⟩:=h.ne
 refine ⟨by rw [setCell_off _ _ _ _ _ n1];exact h.hq,?_,h.hU.same (setCell_off _ _ _ _ _ n3.symm),fun j hj=>own_setc (h.own j hj) (h.dM j hj),own_setc h.ready h.dR,h.dM,h.dU,h.dR,h.dRU,h.lq,h.lM,h.lU⟩
 refine h.hM.set (f':=fun j=>.int .i64 (if j=m then x else M j)) fun j _=>?_
 by_cases e:j=m
 ·simp only [if_pos e]
 ·simp only [if_neg e]
theorem QM.pushR (h:QM w B q gM gU N M UV UL R RL) {w4 w6:World} {L:List Int} {v:Value} {H:Nat} (h4:Below w.heap.size w w4) (hG:w4.grownBy w6 R.ownBlock) (hO:w6.ownsRow B 3 1 v L.length (mapI L)) (hat:v.ownBlock=R.ownBlock∨v.ownBlock=some H) (hH:w.heap.size≤H) :
  QM (w6.setCell ⟨q,2,none⟩ v) B q gM gU N M UV UL v L:=by
 obtain ⟨n1,n2,n3⟩:=h.ne
 have hr:=fun b (e:R.ownBlock=some b)=>own_blk h.ready e
 have hkeep:∀ b,b<w.heap.size→R.ownBlock≠some b→w6.heap[b]?=w.heap[b]?:=fun b hb hne=>(hG.block b (Nat.lt_of_lt_of_le hb h4.size) (fun e=>hne e.symm)).trans (h4.block b hb)
 have q1:R.ownBlock≠some q:=fun e=>by obtain ⟨-,-,cur,hc⟩:=hr q e;exact (h.off hc).1 rfl
 have q2:R.ownBlock≠some gU:=fun e=>by obtain ⟨-,-,cur,hc⟩:=hr gU e;exact (h.off hc).2 rfl
 have vq:v.ownBlock≠some q:=fun e=>by
  rcases hat with h1 | h1
  ·exact q1 (h1.symm.trans e)
  ·rw [h1] at e;have:=h.ql;simp at e;omega
 refine ⟨?_,(h.hM.same (hkeep _ h.hM.lt h.dR)).same (setCell_off _ _ _ _ _ n1.symm),(h.hU.same (hkeep _ h.hU.lt q2)).same (setCell_off _ _ _ _ _ n2.symm),fun j hj=>?_,own_setc hO vq,h.dM,h.dU,fun e=>?_,fun j hj b hb e=>?_,h.lq,h.lM,h.lU⟩
 ·have:=set_ty (k:=2) (v:=v) ((hkeep q h.ql q1).trans h.hq)
  simpa using this
 ·refine own_setc (own_grown (own_later (h.own j hj) h4) hG fun b hb e=>h.dRU j hj b e hb) fun e2=>?_
  obtain ⟨-,-,cur,hc⟩:=own_blk (h.own j hj) e2
  exact (h.off hc).1 rfl
 ·rcases hat with h1 | h1
  ·exact h.dR (h1.symm.trans e)
  ·rw [h1] at e;have:=h.hM.lt;simp at e;omega
 ·rcases hat with h1 | h1
  ·exact h.dRU j hj b (h1.symm.trans hb) e
  ·rw [h1] at hb
   have:=(own_blk (h.own j hj) e).2.1
   simp at hb
   omega
end
set_option maxHeartbeats 8000000 in
theorem ptell_any (q g n:Nat) (D:Nat→Dm) (X:Nat→AL) (x:Nat) (AC:Option Addr) (cC:Nat) (L:List (Int×Int)) (w:World) (hR:AllR D n) (hE:(allErr D n).2.2=0) (hx:x<prodN D n) (hA:PlanV w q g n D X) (hL:L.length=prodN D n) (hC:CelV w AC cC L) (hok:∀ z∈ndsX D n x,goodC (L.getD z.toNat noC)) :
  Calls Tryz.prog 19 #[.pointer (some ⟨q,0,none⟩),.slice AC (prodN D n) cC,.int .i64 x] w fun e w'=>e=.returned (.tuple #[.agg #[.int .i64 (tlV D n L x).1,.int .i64 (tlV D n L x).2],.nilIface])∧Below w.heap.size w w':=by
 obtain ⟨i0,hi0,hz0,hz1,hz2⟩:=info_parts Tryz.infoCe
 obtain ⟨hn1,hn4,hp3,hd⟩:=allErr_some hE
 obtain ⟨W,hW⟩:∃ W,w.alloc (.cells #[.int .i64 0,.int .i64 0] 58)=W:=⟨_,rfl⟩
 have hB0:Below w.heap.size w W:=by rw [←hW];go_grown
 have hWb:W.heap[w.heap.size]?=some (.cells #[.int .i64 0,.int .i64 0] 58 (0,0)):=by rw [←hW];exact heap_alloc_new ..
 have HB0:Hid (Below w.heap.size w W):=hB0
 have HWb:Hid (W.heap[w.heap.size]?=some (.cells #[.int .i64 0,.int .i64 0] 58 (0,0))):=hWb
 have hl0:w.heap.size<W.heap.size:=(Array.getElem?_eq_some_iff.1 hWb).1
 obtain ⟨hcL,-,h0 | ⟨bc,oc,rfl,hCat⟩⟩:=id hC
 ·rw [h0] at hL;simp at hL;omega
 have hby:=by_any2 q g n D X x W hE hx (hA.later hB0)
 have HCe:Hid (∀ w',Below w.heap.size w w'→bc<w'.heap.size∧∀ j,j<prodN D n→w'.cell? ⟨bc,oc+j*2,none⟩=some (.int .i64 (L.getD j noC).1)∧w'.cell? ⟨bc,oc+j*2+1,none⟩=some (.int .i64 (L.getD j noC).2)):=fun w' hB=>by
  obtain ⟨-,-,h0 | ⟨bc',oc',h1,hCat'⟩⟩:=hC.later hB
  ·rw [h0] at hL;simp at hL;omega
  ·cases h1
   exact ⟨hCat'.1,fun j hj=>hCat'.2 j (by omega)⟩
 have HCp:Hid (∀ w',Below w.heap.size w w'→q<w'.heap.size∧w'.cell? ⟨q,0,none⟩=some (.slice (some ⟨g,0,none⟩) n n)∧w'.cell? ⟨q,1,none⟩=some (.int .i64 (prodN D n:Nat))):=fun w' hB=>(hA.later hB).cells
 have HA:Hid (PlanV w q g n D X):=hA
 have HRs:Hid (∀ w',Below W.heap.size W w'→w.heap.size<w'.heap.size∧w'.cell? ⟨w.heap.size,0,none⟩=some (.int .i64 0)∧w'.cell? ⟨w.heap.size,1,none⟩=some (.int .i64 0)∧w'.frozen? ⟨w.heap.size,0,none⟩=false∧w'.frozen? ⟨w.heap.size,1,none⟩=false):=fun w' hB=>⟨Nat.lt_of_lt_of_le hl0 hB.size,pair_at ((hB.block _ hl0).trans hWb)⟩
 obtain ⟨hq,q0,q1⟩:=HCp.out W hB0
 have hnI:(n:Int)≤4:=by omega
 have hP:=placeL_in (D:=D) (n:=n) (x:=x) hE
 obtain ⟨N,hN⟩:∃ N,prodN D n=N:=⟨_,rfl⟩
 have HN:Hid (prodN D n=N):=hN
 rcases by_in D (placeL D n x) n with h | ⟨b,h,hb⟩
 ·have HV:Hid (tlV D n L x=L.getD x noC):=tl_leaf (by omega)
  rw [h] at hby
  rw [hN] at q1 hx hp3 HCe HCp hL ⊢
  have hxI:(x:Int)<(N:Int):=by omega
  have hNI:(N:Int)≤3000:=by omega
  have hcI:(N:Int)≤(cC:Int):=by omega
  clear hA hE hR hP h hd hC hCat hok hB0 hWb hN
  go_enter Tryz.func19,Tryz.ntmps19
  go_wp2_with fail
  refine hby.mono ?_
  rintro e w1 ⟨rfl,hb1⟩
  have HB1:Hid (Below W.heap.size W w1):=hb1
  obtain ⟨hbc,hcj⟩:=HCe.out w1 (onB HB0.out hb1)
  obtain ⟨y0,y1⟩:=hcj x hx
  obtain ⟨hr,r0,r1,r2,r3⟩:=HRs.out w1 hb1
  obtain ⟨⟨ra,rb⟩,hRe⟩:∃ R,L.getD x noC=R:=⟨_,rfl⟩
  have HRe:Hid (L.getD x noC=(ra,rb)):=hRe
  rw [hRe] at y0 y1
  simp only at y0 y1
  clear hb1 hby q0 q1 hW hcj hRe
  go_wp2_with fail
  refine bodyPost_ret (v:=.tuple #[.agg #[.int .i64 ra,.int .i64 rb],.nilIface]) (by simp [results,Tryz.results19,go_sem,r0,r1]) rfl ⟨by rw [HV.out,HRe.out],?_⟩
  exact ((onB HB0.out HB1.out).setCell (by simp) _).setCell (by simp) _
 ·obtain ⟨hd1,hd12⟩:=hd b hb
  have hp0:=hP.lo b hb
  have hp1:=hP.hi b hb
  obtain ⟨m,hm⟩:∃ m,x / stepD D n b % (D b).n=m:=⟨_,rfl⟩
  have hpm:((placeL D n x).getD b 0).toNat=m:=by rw [digit_at hb,hm]
  have hmn:m<(D b).n:=by rw [←hm];exact Nat.mod_lt _ hd1
  have HV:Hid (tlV D n L x=oneV (D b) (fun k=>L.getD (putN D n x b k).toNat noC) m):=by show _=_;rw [tl_by h,hpm]
  have HNd:Hid (ndsX D n x=(neW (D b) m).map (putN D n x b)):=by show _=_;rw [nds_by h,hpm]
  have hSp:=stepD_pos (D:=D) (n:=n) (fun i hi=>(hd i hi).1) hb
  obtain ⟨S,hSd⟩:∃ S,stepD D n b=S:=⟨_,rfl⟩
  have HWy:Hid (∀ w',Below w.heap.size w w'→Calls Tryz.prog 41 #[.agg #[.int .i64 (D b).solve,.int .i64 S,.slice (X b).A (D b).n (X b).c],.int .i64 x] w' fun e w''=>e=.returned (wayV ((X b).xs.getD m noW))∧Below w'.heap.size w' w''):=fun w' hB=>way_any (D b) S (X b) x m w' (by rw [←hSd];exact hSp) hd1 hd12 (by omega) (by rw [←hSd];exact hm) ((hA.later hB).2.one hb).2.2
  have HTl:Hid (∀ w' A' c',Below w.heap.size w w'→CelV w' A' c' ((ndsX D n x).map fun z=>L.getD z.toNat noC)→Calls Tryz.prog 42 #[wayV ((X b).xs.getD m noW),.slice A' (ndsX D n x).length c'] w' fun e w''=>e=.returned (.tuple #[.agg #[.int .i64 (tlV D n L x).1,.int .i64 (tlV D n L x).2],.nilIface])∧Below w'.heap.size w' w''):=fun w' A' c' hB hCv=>by
   obtain ⟨-,-,hOne⟩:=(hA.later hB).2.one hb
   obtain ⟨-,-,-,-,-,hWt⟩:=hOne.way hmn
   have hwo:=hOne.2.2 m hmn
   have hne:=way_ne hwo
   have h2:=tell_any (D b) m ((X b).xs.getD m noW) A' c' (fun k=>L.getD (putN D n x b k).toNat noC) w' (hR b hb) hmn hwo hWt (fun k hk=>hok _ (by rw [HNd.out,List.mem_map];exact ⟨k,(neW_mem (hR b hb) hmn k).2 hk,rfl⟩)) (by
    rw [HNd.out,List.map_map] at hCv
    rw [hne]
    exact hCv)
   rw [hne,←HV.out] at h2
   have hl2:(ndsX D n x).length=(neW (D b) m).length:=by rw [HNd.out,List.length_map]
   rw [hl2]
   exact h2
  have HNdc:Hid (∀ w',Below w.heap.size w w'→Calls Tryz.prog 40 #[.pointer (some ⟨q,0,none⟩),.int .i64 x] w' fun e w''=>(∃ v,e=.returned v∧w''.ownsRow w'.heap.size 3 1 v (ndsX D n x).length (mapI (ndsX D n x)))∧Below w'.heap.size w' w''):=fun w' hB=>needs_any q g n D X x w' hR hE hx (hA.later hB)
  have HIn:Hid (∀ z∈ndsX D n x,∃ y:Nat,z=(y:Int)∧y<N):=fun z hz=>by
   obtain ⟨y,e1,e2⟩:=nds_in hR hE hx z hz
   exact ⟨y,e1,by omega⟩
  have hln:=nds_len hR hE hx
  have HCx:Hid (∀ w',Below w.heap.size w w'→g<w'.heap.size∧w'.cell? ⟨g,b*3,none⟩=some (.int .i64 (D b).solve)∧w'.cell? ⟨g,b*3+1,none⟩=some (.int .i64 S)∧w'.cell? ⟨g,b*3+2,none⟩=some (.slice (X b).A (D b).n (X b).c)):=fun w' hB=>by
   obtain ⟨hg,⟨c0,c1,c2⟩,-⟩:=(hA.later hB).2.one hb
   rw [hSd] at c1
   exact ⟨hg,c0,c1,c2⟩
  obtain ⟨P,hPn⟩:∃ P,ndsX D n x=P:=⟨_,rfl⟩
  rw [hPn] at HTl HNdc HIn hln
  obtain ⟨F,hF⟩:∃ F,(fun z:Int=>L.getD z.toNat noC)=F:=⟨_,rfl⟩
  have HFe:Hid (∀ z:Int,F z=L.getD z.toNat noC):=fun z=>by rw [←hF]
  rw [hF] at HTl
  obtain ⟨⟨ra,rb⟩,hRe⟩:∃ R,tlV D n L x=R:=⟨_,rfl⟩
  rw [hRe] at HTl ⊢
  simp only at HTl ⊢
  obtain ⟨M,hMl⟩:∃ M,P.length=M:=⟨_,rfl⟩
  have HM:Hid (P.length=M):=hMl
  rw [hMl] at HTl HNdc hln
  have hMI:(M:Int)≤12:=by omega
  rw [h] at hby
  rw [hN] at q1 hx hp3 HCe HCp hL ⊢
  have hxI:(x:Int)<(N:Int):=by omega
  have hNI:(N:Int)≤3000:=by omega
  have hcI:(N:Int)≤(cC:Int):=by omega
  have hbI:(b:Int)<(n:Int):=by omega
  have hb0:((b:Int) == -1)=false:=by simp
  generalize wayV ((X b).xs.getD m noW)=wv at HWy HTl
  clear hA hE hR hP h hd hC hCat hok hB0 hWb hp0 hp1 hm hpm hmn hSp hSd hPn hMl HNd HV hRe hN hF
  go_enter Tryz.func19,Tryz.ntmps19
  go_wp2_with fail
  refine hby.mono ?_
  rintro e w1 ⟨rfl,hb1⟩
  have HB1:Hid (Below W.heap.size W w1):=hb1
  have hnd:=HNdc.out w1 (onB HB0.out hb1)
  clear hb1 hby q0 q1 hW
  go_wp2_with fail
  refine hnd.mono ?_
  rintro e w2 ⟨⟨v,rfl,hO2⟩,hb2⟩
  have HB2:Hid (Below W.heap.size W w2):=onB HB1.out hb2
  have HIt:Hid (∃ A' c',v=.slice A' M c'∧IntT w2 A' c' P):=by
   have h2:=hO2
   rw [←HM.out] at h2
   obtain ⟨A',c',e,hv⟩:=intT_own h2
   rw [HM.out] at e
   exact ⟨A',c',e,hv⟩
  obtain ⟨A2,c2,rfl,hI2⟩:=HIt.out
  have HI2:Hid (IntT w2 A2 c2 P):=hI2
  clear hb2 hnd hO2 hI2 HIt
  go_wp2_with fail
  go_loopg [9,46] M (fun gg s9 s46 wr => ∃ (k:Nat) (u:Value),k≤M∧gg=M-k∧s46=.int .i64 k∧u=s9∧Hid (wr.ownsRow w2.heap.size 58 2 u k (cellsC ((P.take k).map F)))∧Hid (Below w2.heap.size w2 wr))
  case atStart=>exact ⟨0,_,Nat.zero_le _,rfl,rfl,rfl,World.ownsRow_nil _ _ _ _,Below.refl _ _⟩
  case round =>
   obtain ⟨k,u,hk,rfl,rfl,rfl,HO,HBw⟩:=hrel
   have HBwW:Hid (Below W.heap.size W wr):=onB HB2.out HBw.out
   by_cases hlt:k<M
   ·have hki:(k:Int)<(M:Int):=by omega
    have hkP:k<P.length:=by rw [HM.out];exact hlt
    obtain ⟨y,hy,hyN⟩:=HIn.out _ (getD_memI hkP)
    obtain ⟨hcS,-,hS0 | ⟨bs,cs,fr,rfl,hbS,hcl⟩⟩:=HI2.out.later HBw.out
    ·have:=HM.out;rw [hS0] at this;simp at this;omega
    have cx:=hcl k hkP
    have hbs:bs<wr.heap.size:=(Array.getElem?_eq_some_iff.1 hbS).1
    rw [HM.out] at hcS
    rw [hy] at cx
    have hcSI:(M:Int)≤(c2:Int):=by omega
    have HSn:Hid ((P.take (k+1)).map F=(P.take k).map F ++ [L.getD y noC]):=by
     show _=_
     rw [map_snoc F P hkP,HFe.out,hy,Int.toNat_natCast]
    obtain ⟨hbc,hcj⟩:=HCe.out wr (onB HB0.out HBwW.out)
    obtain ⟨y0,y1⟩:=hcj y hyN
    have hyI:(y:Int)<(N:Int):=by omega
    generalize L.getD y noC=r at y0 y1 HSn
    obtain ⟨sa,sb⟩:=r
    simp only at y0 y1
    have hsz2:=HBw.out.size
    clear hcl hbS hy hcj
    go_wp2_with (at_builtin;refine wpList_append_own _ rfl _ _ 42 rfl w2.heap.size 58 i0 (.agg #[.int .i64 0,.int .i64 0]) 2 16 Tryz.underlying42 hi0 hz0 hz1 hz2 rfl (by decide) _ _ _ rfl (HO.out.alloc _) ⟨wr.heap.size,0,none⟩ 1 1 [.int .i64 sa,.int .i64 sb] rfl rfl ?qe2 ?qe3 ?qe4 ?qe5 ?qe6 ?_)
    case qe2 =>
     intro j t hj
     rw [plain_addW,Lib.cell_of_heap (heap_alloc_new wr (.cells #[.int .i64 sa,.int .i64 sb] 58))]
     simpa using hj
    case qe3=>intro t ht;simp at ht;rcases ht with rfl | rfl <;> rfl
    case qe4=>simp only [maxLen];omega
    case qe5=>omega
    case qe6=>simp;omega
    intro v' w4 hown' hgrow hnil
    have HB4:Hid (Below w2.heap.size w2 w4):=grown_own HBw.out HO.out hgrow
    have HO4:Hid (w4.ownsRow w2.heap.size 58 2 v' (k+1) (cellsC ((P.take (k+1)).map F))):=by
     show World.ownsRow ..
     rw [HSn.out,cellsC_append,List.map_take]
     exact hown'
    clear hown' hgrow hnil
    go_wp2_with fail
    go_roundg (M-(k+1))
    case measure=>omega
    case rel=>exact ⟨k+1,_,by omega,rfl,by go_num,rfl,HO4,HB4⟩
   ·have hke:k=M:=by omega
    subst hke
    have HCv:Hid (∃ A' c',u=.slice A' k c'∧CelV wr A' c' (P.map F)):=by
     have h:=HO.out
     rw [List.take_of_length_le (by rw [HM.out];exact Nat.le_refl _)] at h
     have hlen:(P.map F).length=k:=by rw [List.length_map];exact HM.out
     rw [←hlen] at h
     obtain ⟨A',c',e,hv⟩:=cel_own h
     rw [hlen] at e
     exact ⟨A',c',e,hv⟩
    obtain ⟨A3,c3,rfl,hC3⟩:=HCv.out
    have HC3:Hid (CelV wr A3 c3 (P.map F)):=hC3
    obtain ⟨hq1,p0,p1⟩:=HCp.out wr (onB HB0.out HBwW.out)
    obtain ⟨hg1,a1,a2,a3⟩:=HCx.out wr (onB HB0.out HBwW.out)
    have hwy:=HWy.out wr (onB HB0.out HBwW.out)
    clear hC3 HCv
    go_wp2_with fail
    refine hwy.mono ?_
    rintro e w5 ⟨rfl,hb5⟩
    have HB5:Hid (Below W.heap.size W w5):=onB HBwW.out hb5
    have htl:=HTl.out w5 A3 c3 (onB HB0.out HB5.out) (HC3.out.later hb5)
    clear hb5 hwy p0 p1 a1 a2 a3
    go_wp2_with fail
    refine htl.mono ?_
    rintro e w6 ⟨rfl,hb6⟩
    have HB6:Hid (Below W.heap.size W w6):=onB HB5.out hb6
    obtain ⟨hr,r0,r1,r2,r3⟩:=HRs.out w6 HB6.out
    clear hb6 htl
    go_wp2_with fail
    refine bodyPost_ret (v:=.tuple #[.agg #[.int .i64 ra,.int .i64 rb],.nilIface]) (by simp [results,Tryz.results19,go_sem,r0,r1]) rfl ⟨rfl,?_⟩
    exact ((onB HB0.out HB6.out).setCell (by simp) _).setCell (by simp) _
theorem samepl_end {a b:List Int} (hl:a.length=b.length) {k:Nat} (hk:a.length≤k) (h:∀ j,j<k→a.getD j 0=b.getD j 0):a=b:=by
 apply List.ext_getElem hl
 intro i h1 h2
 have:=h i (by omega)
 simpa [List.getD,h1,h2] using this
set_option maxHeartbeats 1000000 in
theorem samepl_any (A B:Option Addr) (ca cb:Nat) (a b:List Int) (w:World) (hn:a.length≤4) (hA:PlAt w A ca a) (hB:PlAt w B cb b):Calls Tryz.prog 21 #[.slice A a.length ca,.slice B b.length cb] w fun e w'=>e=.returned (.bool (decide (a=b)))∧Below w.heap.size w w':=by
 by_cases hl:a.length=b.length
 ·obtain ⟨hc,h0 | ⟨g,o,rfl,hbw,hcell⟩⟩:=hA
  ·subst h0
   have h1:b=[]:=List.eq_nil_of_length_eq_zero hl.symm
   subst h1
   simp only [List.length_nil]
   go_enter Tryz.func21,Tryz.ntmps21
   go_wp2_with fail
   refine wp_loop_rounds 1 ?_
   rw [rounds_succ]
   go_wp2_with fail
   go_ret
   exact ⟨rfl,Below.refl _ _⟩
  ·obtain ⟨hc',h0 | ⟨g',o',rfl,hbw',hcell'⟩⟩:=hB
   ·subst h0
    have h1:a=[]:=List.eq_nil_of_length_eq_zero hl
    subst h1
    simp only [List.length_nil]
    go_enter Tryz.func21,Tryz.ntmps21
    go_wp2_with fail
    refine wp_loop_rounds 1 ?_
    rw [rounds_succ]
    go_wp2_with fail
    go_ret
    exact ⟨rfl,Below.refl _ _⟩
   ·have HC:Hid (∀ j,j<a.length→w.cell? ⟨g,o+j,none⟩=some (.int .i64 (a.getD j 0))):=hcell
    have HC':Hid (∀ j,j<a.length→w.cell? ⟨g',o'+j,none⟩=some (.int .i64 (b.getD j 0))):=fun j hj=>hcell' j (by omega)
    have HE:Hid (∀ k,a.length≤k→(∀ j,j<k→a.getD j 0=b.getD j 0)→decide (a=b)=true):=fun k hk h=>decide_eq_true (samepl_end hl hk h)
    have HN:Hid (∀ k,a.getD k 0≠b.getD k 0→decide (a=b)=false):=fun k h=>decide_eq_false fun e=>h (by rw [e])
    rw [←hl]
    rw [←hl] at hc'
    generalize hnn:a.length=n at hn hc hc' HC HC' HE
    generalize decide (a=b)=res at HE HN
    clear hcell hcell' hnn hl
    have hn':(n:Int)≤4:=by omega
    go_enter Tryz.func21,Tryz.ntmps21
    go_wp2_with fail
    go_loopg [5] n (fun gg s5 wr => ∃ (k:Nat),k≤n∧gg=n-k∧s5=.int .i64 k∧(∀ j,j<k→a.getD j 0=b.getD j 0)∧Below w.heap.size w wr)
    case atStart=>exact ⟨0,Nat.zero_le _,rfl,rfl,fun j hj=>absurd hj (Nat.not_lt_zero _),Below.refl _ _⟩
    case round =>
     obtain ⟨k,hk,rfl,rfl,hsame,hBw⟩:=hrel
     have HBw:Hid (Below w.heap.size w wr):=hBw
     have HS:Hid (∀ j,j<k→a.getD j 0=b.getD j 0):=hsame
     clear hsame
     by_cases hlt:k<n
     ·have hki:(k:Int)<(n:Int):=by omega
      have x1:=(hBw.cell (p:=⟨g,o+k,none⟩) hbw).trans (HC.out k hlt)
      have x2:=(hBw.cell (p:=⟨g',o'+k,none⟩) hbw').trans (HC'.out k hlt)
      by_cases hxy:a.getD k 0=b.getD k 0
      ·have HXY:Hid (a.getD k 0=b.getD k 0):=hxy
       rw [←hxy] at x2
       generalize a.getD k 0=x at x1 x2
       clear hBw hxy
       go_wp2_with fail
       go_quiet (fail)
       go_wp2_with fail
       go_roundg (n-(k+1))
       case measure=>omega
       case rel =>
        refine ⟨k+1,by omega,rfl,by go_num,fun j hj=>?_,below_drewN HBw.out _⟩
        rcases Nat.lt_succ_iff_lt_or_eq.1 hj with h1 | rfl
        ·exact HS.out j h1
        ·exact HXY.out
      ·have HR:Hid (res=false):=HN.out k hxy
       generalize a.getD k 0=x at x1 hxy
       generalize b.getD k 0=y at x2 hxy
       clear hBw
       go_wp2_with fail
       go_quiet (fail)
       go_wp2_with fail
       go_ret
       rw [HR.out]
       exact ⟨rfl,below_drewN HBw.out _⟩
     ·have hke:k=n:=by omega
      subst hke
      have HR:Hid (res=true):=HE.out k (Nat.le_refl _) HS.out
      go_wp2_with fail
      go_ret
      rw [HR.out]
      exact ⟨rfl,hBw⟩
 ·have hr:decide (a=b)=false:=decide_eq_false fun e=>hl (by rw [e])
  rw [hr]
  have hl' : ¬ ((a.length:Int)=(b.length:Int)):=by omega
  clear hA hB hr
  generalize a.length=n at hl hl' hn
  generalize b.length=m at hl hl'
  go_enter Tryz.func21,Tryz.ntmps21
  go_wp2_with fail
  go_ret
  exact ⟨rfl,Below.refl _ _⟩
theorem keepE {W w':World} {b o b' o':Nat} {u v:Value} (h:b<W.heap.size∧b'<W.heap.size∧W.cell? ⟨b,o,none⟩=some u∧W.cell? ⟨b',o',none⟩=some v) (hB:Below W.heap.size W w'):Below W.heap.size W w'∧w'.cell? ⟨b,o,none⟩=some u∧w'.cell? ⟨b',o',none⟩=some v :=
 ⟨hB,(hB.cell (p:=⟨b,o,none⟩) h.1).trans h.2.2.1,(hB.cell (p:=⟨b',o',none⟩) h.2.1).trans h.2.2.2⟩
set_option maxHeartbeats 8000000 in
theorem sameents_any (A B:Option Addr) (ca cb:Nat) (xs ys:List EnL) (w:World) (hl:lE xs=lE ys) (hn:xs.length≤3000) (hS:∀ k,k<xs.length→(xs.getD k noL).e.pl.length≤4) (hA:EnsV w A ca xs) (hB:EnsV w B cb ys) :
  Calls Tryz.prog 10 #[.slice A xs.length ca,.slice B ys.length cb] w fun e w'=>e=.returned (.bool true)∧Below w.heap.size w w':=by
 have hll:ys.length=xs.length:=by rw [←lE_len,←hl,lE_len]
 have HA:Hid (EnsV w A ca xs):=hA
 have HB:Hid (EnsV w B cb ys):=hB
 have HEq:Hid (∀ k,(ys.getD k noL).e=(xs.getD k noL).e):=fun k=>by rw [←lE_at,←lE_at,hl]
 have HS:Hid (∀ k,k<xs.length→(xs.getD k noL).e.pl.length≤4):=hS
 obtain ⟨n,hnn⟩:∃ n,xs.length=n:=⟨_,rfl⟩
 have HN:Hid (xs.length=n):=hnn
 have HN2:Hid (ys.length=n):=hll.trans hnn
 rw [hll]
 rw [hnn] at hn ⊢
 have hn':(n:Int)≤3000:=by omega
 clear hA hB hl hS hll hnn
 go_enter Tryz.func10,Tryz.ntmps10
 go_wp2_with fail
 go_loopg [5] n (fun g s5 wr => ∃ (k:Nat),k≤n∧g=n-k∧s5=.int .i64 k∧Below w.heap.size w wr)
 case atStart=>exact ⟨0,Nat.zero_le _,rfl,rfl,Below.refl _ _⟩
 case round =>
  obtain ⟨k,hk,rfl,rfl,hBw⟩:=hrel
  have HBw:Hid (Below w.heap.size w wr):=hBw
  by_cases hlt:k<n
  ·have hki:(k:Int)<(n:Int):=by omega
   obtain ⟨-,-,h0 | ⟨b,o,rfl,hXs⟩⟩:=HA.out.later hBw
   ·have:=HN.out;rw [h0] at this;simp at this;omega
   obtain ⟨-,-,h0 | ⟨b',o',rfl,hYs⟩⟩:=HB.out.later hBw
   ·have:=HN2.out;rw [h0] at this;simp at this;omega
   obtain ⟨c1,c2⟩:=hXs.at (k:=k) (by rw [HN.out];exact hlt)
   obtain ⟨d1,d2⟩:=hYs.at (k:=k) (by rw [HN2.out];exact hlt)
   have hp1:=hXs.pl (k:=k) (by rw [HN.out];exact hlt)
   have hp2:=hYs.pl (k:=k) (by rw [HN2.out];exact hlt)
   rw [HEq.out k] at d1 d2 hp2
   have HSm:Hid (∀ w',Below wr.heap.size wr w'→Calls Tryz.prog 21 #[.slice (xs.getD k noL).A (xs.getD k noL).e.pl.length (xs.getD k noL).c,.slice (ys.getD k noL).A (xs.getD k noL).e.pl.length (ys.getD k noL).c] w' fun e w''=>e=.returned (.bool true)∧Below w'.heap.size w' w''):=fun w' hw'=>by
    have h:=samepl_any _ _ _ _ _ _ w' (HS.out k (by rw [HN.out];exact hlt)) (hp1.later hw') (hp2.later hw')
    rw [decide_eq_true rfl] at h
    exact h
   have hb1:=hXs.1
   have hb2:=hYs.1
   generalize (xs.getD k noL).A=A1 at c1 HSm
   generalize (xs.getD k noL).c=k1 at c1 HSm
   generalize (ys.getD k noL).A=A2 at d1 HSm
   generalize (ys.getD k noL).c=k2 at d1 HSm
   generalize (xs.getD k noL).e.n=n1 at c2 d2
   generalize (xs.getD k noL).e.pl.length=m1 at c1 d1 HSm
   have HC:Hid (b<wr.heap.size∧b'<wr.heap.size∧wr.cell? ⟨b,o+k*2,none⟩=some (.slice A1 m1 k1)∧wr.cell? ⟨b',o'+k*2,none⟩=some (.slice A2 m1 k2)):=⟨hb1,hb2,c1,d1⟩
   have HC2:Hid (wr.cell? ⟨b,o+k*2+1,none⟩=some (.int .i64 n1)∧wr.cell? ⟨b',o'+k*2+1,none⟩=some (.int .i64 n1)):=⟨c2,d2⟩
   clear hXs hYs hp1 hp2 c1 c2 d1 d2 hBw
   go_wp2_with fail
   go_cut [6] (fun s6 wx=>s6=.bool true∧Below wr.heap.size wr wx)
   case first=>as_aux_lemma =>
    go_region_held3 (fun w'=>Below wr.heap.size wr w'∧w'.cell? ⟨b,o+k*2,none⟩=some (.slice A1 m1 k1)∧w'.cell? ⟨b',o'+k*2,none⟩=some (.slice A2 m1 k2))
     ((refine keepE HC.out ?_;go_grown;done))
     (first | (go_at_call 21;refine (HSm.out _ (by go_grown)).mono ?_;rintro e w3 ⟨rfl,hb3⟩;have hN3:=onB (W0:=wr) (by go_grown) hb3;have hy3:=hN3.size;clear hb3))
    all_goals go_wp2_with fail
    all_goals go_meet
    all_goals exact ⟨rfl,by go_grown⟩
   case rest=>as_aux_lemma =>
   obtain ⟨rfl,hb⟩:=hcut
   obtain ⟨w2,rfl⟩:∃ w2:World,w2=wc:=⟨_,rfl⟩
   have HB2:Hid (Below wr.heap.size wr w2):=hb
   have f1:w2.cell? ⟨b,o+k*2+1,none⟩=some (.int .i64 n1):=(hb.cell (p:=⟨b,o+k*2+1,none⟩) hb1).trans HC2.out.1
   have f2:w2.cell? ⟨b',o'+k*2+1,none⟩=some (.int .i64 n1):=(hb.cell (p:=⟨b',o'+k*2+1,none⟩) hb2).trans HC2.out.2
   clear hb HC HC2 HSm
   go_wp2_with fail
   go_quiet (fail)
   go_wp2_with fail
   go_roundg (n-(k+1))
   case measure=>omega
   case rel=>exact ⟨k+1,by omega,rfl,by go_num,below_drewN (onB HBw.out HB2.out) _⟩
  ·have hke:k=n:=by omega
   subst hke
   go_wp2_with fail
   go_ret
   exact ⟨rfl,hBw⟩
end Go.Proofs.YtnlfpaopfloklaaGreatDoor
