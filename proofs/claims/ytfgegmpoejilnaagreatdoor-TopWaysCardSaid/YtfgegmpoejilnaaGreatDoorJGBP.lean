/-
  What next of a queue of package calc answers: the least of those that are ready, which comes to be missing nowhere any more, in whatever memory.
-/
import Derived.Test.YtfgegmpoejilnaaGreatDoorJGBH
import Derived.Test.YtfgegmpoejilnaaGreatDoorJGBO
namespace Go.Proofs.YtfgegmpoejilnaaGreatDoor
open Go.ChangeShapes Go.WideShapes Go.ChangeAt Go.RowKit
set_option maxRecDepth 20000
def FrQ (q gM gR:Nat) (w w':World):Prop:=Kept w.heap.size (fun k=>k=q∨k=gM∨k=gR) w w'
theorem FrQ.refl (q gM gR:Nat) (w:World):FrQ q gM gR w w:=Kept.refl _ _ _
theorem frQ_below {q gM gR:Nat} {w w1 w2:World} (h:FrQ q gM gR w w1) (k:Below w1.heap.size w1 w2):FrQ q gM gR w w2:=⟨k.os.trans h.os,k.tape.trans h.tape,k.output.trans h.output,Nat.le_trans h.size k.size,fun i hi hx=>(k.block i (Nat.lt_of_lt_of_le hi h.size)).trans (h.block i hi hx)⟩
theorem frQ_set {q gM gR b j:Nat} {w w1:World} {v:Value} (h:FrQ q gM gR w w1) (hb:b=q∨b=gM∨b=gR∨w.heap.size≤b):FrQ q gM gR w (w1.setCell ⟨b,j,none⟩ v):=⟨h.os,h.tape,h.output,by simp only [World.size_setCell];exact h.size,fun i hi hx=>by
 rw [setCell_off _ _ _ _ _ (fun e=>by
  rcases hb with h1 | h1 | h1 | h1
  ·exact hx (Or.inl (e.trans h1))
  ·exact hx (Or.inr (Or.inl (e.trans h1)))
  ·exact hx (Or.inr (Or.inr (e.trans h1)))
  ·omega)]
 exact h.block i hi hx⟩
theorem frQ_grown {q gM gR b:Nat} {w w1 w2:World} (h:FrQ q gM gR w w1) (hG:w1.grownBy w2 (some b)) (hb:b=gR∨w.heap.size≤b):FrQ q gM gR w w2:=⟨hG.os.trans h.os,hG.tape.trans h.tape,hG.output.trans h.output,Nat.le_trans h.size hG.size,fun i hi hx=>by
 rw [hG.block i (Nat.lt_of_lt_of_le hi h.size) (fun e=>by
  have e2:i=b:=by simpa using e
  rcases hb with h1 | h1
  ·exact hx (Or.inr (Or.inr (e2.trans h1)))
  ·omega)]
 exact h.block i hi hx⟩
set_option maxHeartbeats 16000000 in
theorem qnext_any (B q gM gU N k:Nat) (Nn:List (List Int)) (M:Nat→Int) (UV:Nat→Value) (gR:Nat) (AR:Option Addr) (cR:Nat) (RL:List Int) (w:World) (hN3:N≤3000) (hNl:Nn.length=N) (hN:Inn Nn) (hc:∀ i:Nat,i<Nn.length→cycB Nn i=false) (hr:∀ j,j<Nn.length→(Nn.getD j []).Pairwise (· < ·)) (hl:∀ j,j<Nn.length→(Nn.getD j []).length≤12) (hk:k<N) (hB:B≤w.heap.size)
  (hQ:QS w B q gM gU N M UV (fun j=>usrL Nn j N) gR AR cR RL) (hM:∀ j,j<N→M j=(misC Nn (ordTo Nn k) j:Int)) (hRd:RdyP Nn (ordTo Nn k) RL) :
  Calls Tryz.prog 54 #[.pointer (some ⟨q,0,none⟩)] w fun e w' => ∃ m:Nat,e=.returned (.int .i64 m)∧m<N∧ordTo Nn (k+1)=ordTo Nn k ++ [(m:Int)]∧∃ M' gR' AR' cR' RL',QS w' B q gM gU N M' UV (fun j=>usrL Nn j N) gR' AR' cR' RL'∧(∀ j,j<N→M' j=(misC Nn (ordTo Nn (k+1)) j:Int))∧RdyP Nn (ordTo Nn (k+1)) RL'∧(gR'=gR∨w.heap.size≤gR')∧FrQ q gM gR w w':=by
 obtain ⟨m,R0,rfl,hmN,hmo,hon,hRI⟩:=rdy_head hN hc (k:=k) (by omega) hRd
 have hlen:=rdy_len (Nn:=Nn) hRd.1 fun x hx=>by obtain ⟨j,h1,h2,-⟩:=(hRd.2 x).1 hx;exact ⟨j,h1,h2⟩
 rw [hNl] at hlen hmN
 simp only [List.length_cons] at hlen
 obtain ⟨p0,p1,p2,pf⟩:=hQ.cells
 obtain ⟨-,-,o,rfl,⟨cur,hcur,hcs⟩,hcell⟩:=id hQ.ready
 have c0:=hcell 0 (by simp)
 simp only [List.getD_cons_zero,Nat.add_zero] at c0
 have hcR:=hQ.ready.1
 have hcR2:=hQ.ready.2.1
 simp only [List.length_cons] at hcR p2
 have hql:=hQ.ql
 have hgl:=hQ.ready.lt
 have hV:=hQ.ready.tail
 have HQ1:Hid (QS (w.setCell ⟨q,2,none⟩ (.slice (if cR=1 then some ⟨gR,o,none⟩ else some ⟨gR,o+1,none⟩) R0.length (cR-1))) B q gM gU N M UV (fun j=>usrL Nn j N) gR (if cR=1 then some ⟨gR,o,none⟩ else some ⟨gR,o+1,none⟩) (cR-1) R0):=hQ.setR (Below.refl _ _) (grown_refl _ _) hV (Or.inl rfl) hB
 have HM:Hid (∀ j,j<N→M j=(misI Nn (ordTo Nn k) m 0 j:Int)):=fun j hj=>by
  rw [hM j hj]
  unfold misI
  simp
 have HRI:Hid (RdyI Nn (ordTo Nn k) m 0 R0):=hRI
 have HW:Hid (B≤w.heap.size):=hB
 have HFr:Hid (FrQ q gM gR w (w.setCell ⟨q,2,none⟩ (.slice (if cR=1 then some ⟨gR,o,none⟩ else some ⟨gR,o+1,none⟩) R0.length (cR-1)))):=frQ_set (FrQ.refl _ _ _ _) (Or.inl rfl)
 obtain ⟨rl,hrl⟩:∃ rl,R0.length=rl:=⟨_,rfl⟩
 have HRl:Hid (R0.length=rl):=hrl
 rw [hrl] at hlen p2 hcR HQ1 HFr
 have hrI:(rl:Int)+1≤3000:=by omega
 have hcRI:(rl:Int)+1≤(cR:Int):=by omega
 have hcR1:1≤cR:=by omega
 clear hV hcell hcur hcs hQ hM hRd hRI hrl
 go_enter Tryz.func54,Tryz.ntmps54
 go_upto_region 2 with fail
 go_cut [3] from 8 (fun s3 wx=>s3=.int .i64 m∧∃ A1 c1,QS wx B q gM gU N M UV (fun j=>usrL Nn j N) gR A1 c1 R0∧FrQ q gM gR w wx)
 case first =>
  by_cases hc1:cR=1
  ·rw [if_pos hc1] at HQ1 HFr
   subst hc1
   have hr0:rl=0:=by omega
   subst hr0
   go_wp2_with fail
   go_meet
   exact ⟨rfl,_,_,HQ1.out,HFr.out⟩
  ·rw [if_neg hc1] at HQ1 HFr
   go_wp2_with fail
   go_meet
   exact ⟨rfl,_,_,HQ1.out,HFr.out⟩
 case rest =>
 obtain ⟨rfl,A1,c1,hQ1,hF1⟩:=hcut
 obtain ⟨w1,rfl⟩:∃ w1:World,w1=wc:=⟨_,rfl⟩
 obtain ⟨t,ht⟩:∃ t,(usrL Nn m N).length=t:=⟨_,rfl⟩
 have HT:Hid ((usrL Nn m N).length=t):=ht
 have htN:t≤N:=by rw [←ht];exact usr_len _ _ _
 obtain ⟨Au,cu,hUV⟩:∃ A c,UV m=.slice A (usrL Nn m N).length c:=by
  obtain ⟨A',c',e,-⟩:=intT_own (hQ1.own m hmN)
  exact ⟨A',c',e⟩
 have HUs:Hid (∀ w' M' gR' AR' cR' RL',QS w' B q gM gU N M' UV (fun j=>usrL Nn j N) gR' AR' cR' RL'→w'.cell? ⟨gU,m,none⟩=some (.slice Au t cu)∧IntT w' Au cu (usrL Nn m N)):=fun w' M' gR' AR' cR' RL' h=>by
  have h2:=h.users hmN hUV
  rw [ht] at h2
  exact h2
 have HStp:Hid (∀ i,i<t→∃ u:Nat,(usrL Nn m N).getD i 0=(u:Int)∧u<N∧misI Nn (ordTo Nn k) m i u=misC Nn (ordTo Nn k) u∧1≤misC Nn (ordTo Nn k) u∧misC Nn (ordTo Nn k) u≤12∧misI Nn (ordTo Nn k) m (i+1) u+1=misC Nn (ordTo Nn k) u∧(∀ j,j≠u→misI Nn (ordTo Nn k) m (i+1) j=misI Nn (ordTo Nn k) m i j)∧∀ R,RdyI Nn (ordTo Nn k) m i R→(u:Int)∉R∧(misC Nn (ordTo Nn k) u=1→RdyI Nn (ordTo Nn k) m (i+1) (insL R u))∧(misC Nn (ordTo Nn k) u≠1→RdyI Nn (ordTo Nn k) m (i+1) R)):=fun i hi=>by
  obtain ⟨u,e1,e2,e3,e4,e5,e6,e7⟩:=usr_step hr hmo (i:=i) (by rw [hNl,ht];exact hi)
  rw [hNl] at e1 e2
  exact ⟨u,e1,e2,e3,e4,Nat.le_trans (mis_le _ _ _) (hl u (by rw [hNl];exact e2)),e5,e6,e7⟩
 have HRn:Hid (∀ i R,RdyI Nn (ordTo Nn k) m i R→R.length≤3000∧R.Pairwise (· < ·)):=fun i R h=>by
  have h2:=rdy_len (Nn:=Nn) h.1 fun x hx=>by obtain ⟨j,h1,h2,-⟩:=(h.2 x).1 hx;exact ⟨j,h1,h2⟩
  exact ⟨by omega,h.1⟩
 have HEnd:Hid ((∀ j,j<N→misI Nn (ordTo Nn k) m t j=misC Nn (ordTo Nn (k+1)) j)∧∀ R,RdyI Nn (ordTo Nn k) m t R→RdyP Nn (ordTo Nn (k+1)) R):=by
  obtain ⟨h1,h2⟩:=usr_end hr (k:=k) hmo
  rw [hNl,ht] at h1 h2
  rw [hon]
  exact ⟨h1,h2⟩
 have HOn:Hid (ordTo Nn (k+1)=ordTo Nn k ++ [(m:Int)]):=hon
 obtain ⟨-,k1,-,-⟩:=hQ1.cells
 have hq1:=hQ1.ql
 have hg1:=hQ1.hU.lt
 obtain ⟨kU,-⟩:=HUs.out w1 _ _ _ _ _ hQ1
 have HS0:Hid (∃ M' gR' AR' cR' RL',QS w1 B q gM gU N M' UV (fun j=>usrL Nn j N) gR' AR' cR' RL'∧(∀ j,j<N→M' j=(misI Nn (ordTo Nn k) m 0 j:Int))∧RdyI Nn (ordTo Nn k) m 0 RL'∧(gR'=gR∨w.heap.size≤gR')∧FrQ q gM gR w w1):=⟨M,gR,A1,c1,R0,hQ1,HM.out,HRI.out,Or.inl rfl,hF1⟩
 have hmI:(m:Int)<(N:Int):=by omega
 have hNI:(N:Int)≤3000:=by omega
 have htI:(t:Int)≤3000:=by omega
 clear hQ1 hF1 ht hUV hr hl hN hc hmo hon p0 p1 p2 pf c0
 go_wp2_with fail
 clear kU k1
 go_loopg [30] t (fun gg s30 wr => ∃ (i:Nat),i≤t∧gg=t-i∧s30=.int .i64 i∧Hid (∃ M' gR' AR' cR' RL',QS wr B q gM gU N M' UV (fun j=>usrL Nn j N) gR' AR' cR' RL'∧(∀ j,j<N→M' j=(misI Nn (ordTo Nn k) m i j:Int))∧RdyI Nn (ordTo Nn k) m i RL'∧(gR'=gR∨w.heap.size≤gR')∧FrQ q gM gR w wr))
 case atStart=>exact ⟨0,Nat.zero_le _,rfl,rfl,HS0⟩
 case round =>
  obtain ⟨i,hi,rfl,rfl,HSt⟩:=hrel
  by_cases hlt:i<t
  ·have hii:(i:Int)<(t:Int):=by omega
   obtain ⟨M',gR',AR',cR',RL',hQr,hMr,hRr,hgr,hFr⟩:=HSt.out
   obtain ⟨u,e1,e2,e3,e4,e12,e5,e6,e7⟩:=HStp.out i hlt
   obtain ⟨hnR,hr1,hr2⟩:=e7 RL' hRr
   obtain ⟨hl3,hri⟩:=HRn.out i RL' hRr
   obtain ⟨-,hIu⟩:=HUs.out wr _ _ _ _ _ hQr
   obtain ⟨hcS,-,hS0 | ⟨bs,cs,fr,rfl,hbS,hcl⟩⟩:=hIu
   ·have:=HT.out;rw [hS0] at this;simp at this;omega
   have cx:=hcl i (by rw [HT.out];exact hlt)
   have hbs:bs<wr.heap.size:=(Array.getElem?_eq_some_iff.1 hbS).1
   rw [HT.out] at hcS
   rw [e1] at cx
   have hcSI:(t:Int)≤(cu:Int):=by omega
   have huI:(u:Int)<(N:Int):=by omega
   obtain ⟨q0,-,q2,qf⟩:=hQr.cells
   have hqr:=hQr.ql
   have cm:wr.cell? ⟨gM,u,none⟩=some (.int .i64 (M' u)):=hQr.hM.cell e2
   have fm:=hQr.hM.frozen u
   have hgm:=hQr.hM.lt
   rw [hMr u e2,e3] at cm
   have hlenW:w.heap.size≤wr.heap.size:=hFr.size
   obtain ⟨mI,hmI2⟩:∃ mI:Int,((misC Nn (ordTo Nn k) u:Nat):Int)=mI:=⟨_,rfl⟩
   rw [hmI2] at cm
   have hm1:1≤mI:=by omega
   have hm12:mI≤12:=by omega
   obtain ⟨wA,hwA⟩:∃ wA,wr.setCell ⟨gM,u,none⟩ (.int .i64 (mI-1))=wA:=⟨_,rfl⟩
   have hQA:QS wA B q gM gU N (fun j=>if j=u then mI-1 else M' j) UV (fun j=>usrL Nn j N) gR' AR' cR' RL':=by rw [←hwA];exact hQr.setM u (mI-1)
   have hMA:∀ j,j<N→(fun j=>if j=u then mI-1 else M' j) j=(misI Nn (ordTo Nn k) m (i+1) j:Int):=fun j hj=>by
    by_cases e:j=u
    ·show (if j=u then mI-1 else M' j)=_
     rw [if_pos e,e]
     omega
    ·show (if j=u then mI-1 else M' j)=_
     rw [if_neg e,hMr j hj,e6 j e]
   have hFA:FrQ q gM gR w wA:=by rw [←hwA];exact frQ_set hFr (Or.inr (Or.inl rfl))
   obtain ⟨a0,-,a2,af⟩:=hQA.cells
   have hqA:=hQA.ql
   have cmA:wA.cell? ⟨gM,u,none⟩=some (.int .i64 (mI-1)):=by
    have h:=hQA.hM.cell e2
    simpa using h
   have hgA:=hQA.hM.lt
   have hgRl:=hQA.ready.lt
   have HQA:=hid_of hQA
   have HMA:=hid_of hMA
   have HFA:=hid_of hFA
   have hszA:wA.heap.size=wr.heap.size:=by rw [←hwA];simp
   obtain ⟨rl2,hrl2⟩:∃ rl2,RL'.length=rl2:=⟨_,rfl⟩
   have HR2:Hid (RL'.length=rl2):=hrl2
   by_cases hone:mI=1
   ·have HRn1:=hid_of (hr1 (by omega))
    have hfi:=findI_any AR' cR' gR' RL' (u:Int) wA hl3 hQA.ready hri
    have HIn:Hid (∀ w5 vb,Below wA.heap.size wA w5→w5.heap[vb]?=some (.cells #[.int .i64 (u:Int)] 3 (0,0))→vb≠gR'→Calls Tryz.prog 87 #[.slice AR' RL'.length cR',.int .i64 (RL'.countP (· < (u:Int)):Nat),.slice (some ⟨vb,0,none⟩) 1 1] w5 fun e w'=>InsI w5 gR' (RL'.countP (· < (u:Int))) RL' u e w'):=fun w5 vb h5 hv hne=>insI_any AR' cR' gR' (RL'.countP (· < (u:Int))) vb RL' u w5 hl3 List.countP_le_length (hQA.ready.later h5) hv hne
    rw [hrl2] at hfi HIn a2 q2
    obtain ⟨cp,hcp⟩:∃ cp,RL'.countP (· < (u:Int))=cp:=⟨_,rfl⟩
    have HCp:Hid (RL'.take cp ++ (u:Int) :: RL'.drop cp=insL RL' u):=by show _=_;unfold insL;rw [hcp]
    rw [hcp] at hfi HIn
    subst hone
    have hz0:(1:Int)-1=0:=rfl
    rw [hz0] at hwA cmA
    clear hQr hMr hRr hFr e1 e3 e4 e12 e5 e6 e7 hnR hr1 hr2 hcl hbS hQA hMA hFA hri hl3 hmI2 hrl2 hcp hz0
    go_wp2_with fail
    refine hfi.mono ?_
    rintro e wB ⟨⟨bb,rfl⟩,hbB⟩
    have HBB:Hid (Below wA.heap.size wA wB):=hbB
    obtain ⟨b0,-,b2,bf⟩:=(HQA.out.later hbB).cells
    rw [HR2.out] at b2
    have hqB:=(HQA.out.later hbB).ql
    obtain ⟨wC,hwC⟩:∃ wC,wB.alloc (.cells #[.int .i64 (u:Int)] 3)=wC:=⟨_,rfl⟩
    have hBC:Below wB.heap.size wB wC:=by rw [←hwC];go_grown
    have hvC:wC.heap[wB.heap.size]?=some (.cells #[.int .i64 (u:Int)] 3 (0,0)):=by rw [←hwC];exact heap_alloc_new ..
    have hins:=HIn.out wC wB.heap.size (onB hbB hBC) hvC (by have:=hbB.size;omega)
    have HBC:Hid (Below wA.heap.size wA wC):=onB hbB hBC
    have d2:=(hBC.cell (p:=⟨q,2,none⟩) hqB).trans b2
    have hqC:q<wC.heap.size:=Nat.lt_of_lt_of_le hqB hBC.size
    clear hbB hfi hwA cm cmA a0 a2 q0 q2 hvC hBC
    go_wp2_with fail
    refine hins.mono ?_
    rintro e w6 ⟨g6,A6,c6,rfl,hV6,hg6,hG6⟩
    obtain ⟨z2,zf,hq6⟩:=HQA.out.qin HBC.out hG6
    rw [HR2.out] at z2
    have hsC:=HBC.out.size
    have hlen6:(RL'.take cp ++ (u:Int) :: RL'.drop cp).length=rl2+1:=by
     rw [HCp.out]
     unfold insL
     rw [ins_len List.countP_le_length,HR2.out]
    have HN6:Hid (∃ M' gR'' AR' cR' RL',QS (w6.setCell ⟨q,2,none⟩ (.slice A6 (rl2+1) c6)) B q gM gU N M' UV (fun j=>usrL Nn j N) gR'' AR' cR' RL'∧(∀ j,j<N→M' j=(misI Nn (ordTo Nn k) m (i+1) j:Int))∧RdyI Nn (ordTo Nn k) m (i+1) RL'∧(gR''=gR∨w.heap.size≤gR'')∧FrQ q gM gR w (w6.setCell ⟨q,2,none⟩ (.slice A6 (rl2+1) c6))):=by
     have hQ6:=HQA.out.setR HBC.out hG6 hV6 (hg6.imp id fun h=>by omega) (by have:=HW.out;omega)
     rw [hlen6,HCp.out] at hQ6
     refine ⟨_,g6,A6,c6,_,hQ6,HMA.out,HRn1.out,?_,frQ_set (frQ_grown (frQ_below HFA.out HBC.out) hG6 (hgr.imp id fun h=>h)) (Or.inl rfl)⟩
     rcases hg6 with h | h
     ·rw [h];exact hgr
     ·exact Or.inr (by omega)
    rw [HR2.out]
    clear hins hwC d2 hV6 hg6 hG6 b0 b2 bf
    go_wp2_with fail
    go_roundg (t-(i+1))
    case measure=>omega
    case rel=>exact ⟨i+1,by omega,rfl,by go_num,HN6⟩
   ·have hb1:((mI-1) == 0)=false:=by
     rw [beq_eq_false_iff_ne]
     omega
    have HN6:Hid (∃ M' gR'' AR' cR' RL',QS wA B q gM gU N M' UV (fun j=>usrL Nn j N) gR'' AR' cR' RL'∧(∀ j,j<N→M' j=(misI Nn (ordTo Nn k) m (i+1) j:Int))∧RdyI Nn (ordTo Nn k) m (i+1) RL'∧(gR''=gR∨w.heap.size≤gR'')∧FrQ q gM gR w wA):=⟨_,gR',AR',cR',RL',hQA,hMA,hr2 (by omega),hgr,hFA⟩
    clear hQr hMr hRr hFr e1 e3 e4 e12 e5 e6 e7 hnR hr1 hr2 hcl hbS hQA hMA hFA hri hl3 hmI2 hrl2 hone
    go_wp2_with fail
    go_roundg (t-(i+1))
    case measure=>omega
    case rel=>exact ⟨i+1,by omega,rfl,by go_num,HN6⟩
  ·have hie:i=t:=by omega
   subst hie
   go_wp2_with fail
   go_ret
   obtain ⟨M',gR',AR',cR',RL',hQr,hMr,hRr,hgr,hFr⟩:=HSt.out
   exact ⟨m,rfl,by omega,HOn.out,M',gR',AR',cR',RL',hQr,fun j hj=>by rw [hMr j hj,HEnd.out.1 j hj],HEnd.out.2 _ hRr,hgr,hFr⟩
def OrdS (w w0:World) (q gM gU N k:Nat) (Nn:List (List Int)) (v:Value):Prop := ∃ M UV gR AR cR RL,QS w w0.heap.size q gM gU N M UV (fun j=>usrL Nn j N) gR AR cR RL∧(∀ j,j<N→M j=(misC Nn (ordTo Nn k) j:Int))∧RdyP Nn (ordTo Nn k) RL∧w.ownsRow w0.heap.size 3 1 v k (mapI (ordTo Nn k))∧(∀ b,v.ownBlock=some b→b≠gM∧b≠gR∧∀ j,j<N→(UV j).ownBlock≠some b)∧Below w0.heap.size w0 w
section
variable {w w0 w1:World} {q gM gU N k:Nat} {Nn:List (List Int)} {v:Value}
theorem OrdS.first (h:QMk w q gM gU N N Nn w0) (hNl:Nn.length=N) (hN:Inn Nn) (hc:∀ i:Nat,i<Nn.length→cycB Nn i=false) (hN1:0<N) (hN3:N≤3000):OrdS (w.alloc (.cells (madeCells #[.int .i64 0] N) 3)) w0 q gM gU N 0 Nn (.slice (some ⟨w.heap.size,0,none⟩) 0 N):=by
 obtain ⟨M,UV,R,hQ,hM,hB⟩:=h
 have hRd:RdyP Nn [] (selTo (fun j=>(Nn.getD j []).isEmpty) N):=rdy_first (by rw [hNl])
 obtain ⟨m,R',e,-⟩:=rdy_head hN hc (k:=0) (by omega) hRd
 obtain ⟨gR,cR,hS⟩:=QS.of hQ (by rw [e];simp)
 have hBa:Below w.heap.size w (w.alloc (.cells (madeCells #[.int .i64 0] N) 3)):=by go_grown
 refine ⟨M,UV,gR,_,cR,_,hS.later hBa,fun j hj=>by rw [hM j hj];show _=((misC Nn [] j:Nat):Int);rw [mis_first],hRd,?_,fun b hb=>?_,onB hB hBa⟩
 ·exact World.ownsRow_made w _ N hB.size (by unfold maxLen;omega) (by simp [madeCells])
 ·have hb2:w.heap.size=b:=by simpa [Value.ownBlock] using hb
  have h1:=hS.hM.lt
  have h2:=hS.ready.lt
  refine ⟨by omega,by omega,fun j hj e=>?_⟩
  have:=(own_blk (hS.own j hj) e).2.1
  omega
theorem OrdS.ready (h:OrdS w w0 q gM gU N k Nn v) (hNl:Nn.length=N) (hN:Inn Nn) (hc:∀ i:Nat,i<Nn.length→cycB Nn i=false):q<w.heap.size∧(k<N→∃ A l c,w.cell? ⟨q,2,none⟩=some (.slice A (l+1) c)∧l≤N)∧(k=N→∃ A c,w.cell? ⟨q,2,none⟩=some (.slice A 0 c)):=by
 obtain ⟨M,UV,gR,AR,cR,RL,hS,hM,hRd,-⟩:=h
 refine ⟨hS.ql,fun hlt=>?_,fun he=>?_⟩
 ·obtain ⟨m,R',e,-⟩:=rdy_head hN hc (k:=k) (by omega) hRd
  have hlen:=rdy_len (Nn:=Nn) hRd.1 fun x hx=>by obtain ⟨j,h1,h2,-⟩:=(hRd.2 x).1 hx;exact ⟨j,h1,h2⟩
  have hq:=hS.cells.2.2.1
  rw [e,List.length_cons] at hq
  rw [e,List.length_cons] at hlen
  exact ⟨AR,R'.length,cR,hq,by omega⟩
 ·have hR:RL=[]:=rdy_end hN hc (by rw [hNl,←he];exact hRd)
  have hq:=hS.cells.2.2.1
  rw [hR] at hq
  exact ⟨AR,cR,hq⟩
theorem OrdS.step (h:OrdS w w0 q gM gU N k Nn v) (hNl:Nn.length=N) (hN:Inn Nn) (hc:∀ i:Nat,i<Nn.length→cycB Nn i=false) (hr:∀ j,j<Nn.length→(Nn.getD j []).Pairwise (· < ·)) (hl:∀ j,j<Nn.length→(Nn.getD j []).length≤12) (hN3:N≤3000) (hk:k<N) :
  Calls Tryz.prog 54 #[.pointer (some ⟨q,0,none⟩)] w fun e w4 => ∃ m:Nat,e=.returned (.int .i64 m)∧m<N∧w4.ownsRow w0.heap.size 3 1 v k (mapI (ordTo Nn k))∧w0.heap.size≤w4.heap.size∧∀ (w5 w6:World) (v':Value),Below w4.heap.size w4 w5→w6.ownsRow w0.heap.size 3 1 v' (k+1) (mapI (ordTo Nn k) ++ [.int .i64 (m:Int)])→w5.grownBy w6 v.ownBlock→(v'.ownBlock=v.ownBlock∨v'.ownBlock=some w5.heap.size)→OrdS w6 w0 q gM gU N (k+1) Nn v':=by
 obtain ⟨M,UV,gR,AR,cR,RL,hS,hM,hRd,hO,hD,hB⟩:=h
 refine (qnext_any w0.heap.size q gM gU N k Nn M UV gR AR cR RL w hN3 hNl hN hc hr hl hk hB.size hS hM hRd).mono ?_
 rintro e w4 ⟨m,rfl,hm,hon,M',gR',AR',cR',RL',hS',hM',hRd',hg',hF⟩
 have hvq:∀ b,v.ownBlock=some b→b≠q∧b≠gU∧b<w.heap.size:=fun b hb=>by
  obtain ⟨-,h2,cur,hc⟩:=own_blk hO hb
  exact ⟨(hS.off hc).1,(hS.off hc).2,h2⟩
 have hO4:w4.ownsRow w0.heap.size 3 1 v k (mapI (ordTo Nn k)):=by
  refine ⟨hO.1,?_⟩
  rcases hO.2 with h0 | ⟨g,cap,cur,rfl,h2,h3,h4⟩
  ·exact Or.inl h0
  ·refine Or.inr ⟨g,cap,cur,rfl,h2,(hF.block g (Array.getElem?_eq_some_iff.1 h3).1 ?_).trans h3,h4⟩
   have h5:=hD g rfl
   have h6:=hvq g rfl
   rintro (e | e | e)
   ·exact h6.1 e
   ·exact h5.1 e
   ·exact h5.2.1 e
 have hB4:Below w0.heap.size w0 w4:=⟨hF.os.trans hB.os,hF.tape.trans hB.tape,hF.output.trans hB.output,Nat.le_trans hB.size hF.size,fun b hb=>(hF.block b (Nat.lt_of_lt_of_le hb hB.size) (by
  have h1:=hS.lq
  have h2:=hS.lM
  have h3:=hS.lR
  rintro (e | e | e) <;> omega)).trans (hB.block b hb)⟩
 refine ⟨m,rfl,hm,hO4,hB4.size,fun w5 w6 v' h5 h6 hG hat=>?_⟩
 have hD4:∀ b,v.ownBlock=some b→b≠gM∧b≠gR'∧∀ j,j<N→(UV j).ownBlock≠some b:=fun b hb=>by
  have h1:=hD b hb
  refine ⟨h1.1,?_,h1.2.2⟩
  rcases hg' with e | e
  ·rw [e];exact h1.2.1
  ·have:=(hvq b hb).2.2;omega
 have hS6:=(hS'.later h5).keep hG (fun e=>(hvq q e).1 rfl) (fun e=>(hD4 gM e).1 rfl) (fun e=>(hvq gU e).2.1 rfl) (fun e=>(hD4 gR' e).2.1 rfl) (fun j hj b hb e=>(hD4 b e).2.2 j hj hb)
 refine ⟨M',UV,gR',AR',cR',RL',hS6,hM',hRd',?_,fun b hb=>?_,?_⟩
 ·rw [hon,mapI_snoc];exact h6
 ·rcases hat with e | e
  ·exact hD4 b (e.symm.trans hb)
  ·have hb2:w5.heap.size=b:=by rw [e] at hb;simpa using hb
   have h1:=(hS'.later h5).hM.lt
   have h2:=(hS'.later h5).ready.lt
   refine ⟨by omega,by omega,fun j hj e2=>?_⟩
   have:=(own_blk ((hS'.later h5).own j hj) e2).2.1
   omega
 ·have hB5:=onB hB4 h5
  refine ⟨hG.os.trans hB5.os,hG.tape.trans hB5.tape,hG.output.trans hB5.output,Nat.le_trans hB5.size hG.size,fun b hb=>(hG.block b (Nat.lt_of_lt_of_le hb hB5.size) (fun e=>by have:=(own_blk hO e.symm).1;omega)).trans (hB5.block b hb)⟩
end
set_option maxHeartbeats 8000000 in
theorem orderof_any (qp g n:Nat) (D:Nat→Dm) (X:Nat→AL) (w:World) (hR:AllR D n) (hE:(allErr D n).2.2=0) (hA:PlanV w qp g n D X) :
  Calls Tryz.prog 28 #[.pointer (some ⟨qp,0,none⟩)] w fun e w'=>(∃ A' c',e=.returned (.tuple #[.slice A' (prodN D n) c',.nilIface])∧IntT w' A' c' (ordTo (rowsL D n) (prodN D n)))∧Below w.heap.size w w':=by
 obtain ⟨i0,hi0,hz0,hz1,hz2⟩:=info_parts Tryz.infoInt
 obtain ⟨hn1,hn4,hp3,hd⟩:=allErr_some hE
 have hnq:=newq_any qp g n D X w hR hE hA
 have HPl:Hid (∀ w',Below w.heap.size w w'→Calls Tryz.prog 53 #[.pointer (some ⟨qp,0,none⟩)] w' fun e w''=>e=.returned (.int .i64 (prodN D n:Nat))∧w''=w'):=fun w' hB=>places_same qp g n D X w' (hA.later hB)
 have hN1:0<prodN D n:=prodN_pos fun i hi=>(hd i hi).1
 have HIn:=hid_of (rows_inn hR hE)
 have HAc:=hid_of (rows_acyc hR hE)
 have HRi:=hid_of (rows_rise hR hE)
 have HLe:Hid (∀ j,j<(rowsL D n).length→((rowsL D n).getD j []).length≤12):=fun j hj=>(rows_told hR hE (by rw [rows_len] at hj;exact hj)).2.1
 have HNl:Hid ((rowsL D n).length=prodN D n):=rows_len
 have HOl:Hid ((ordTo (rowsL D n) (prodN D n)).length=prodN D n):=by
  show _=_
  have h:=ord_len (rows_inn hR hE) (rows_acyc hR hE) (prodN D n) (by rw [rows_len];exact Nat.le_refl _)
  exact h
 obtain ⟨Nn,hNn⟩:∃ Nn,rowsL D n=Nn:=⟨_,rfl⟩
 rw [hNn] at hnq HIn HAc HRi HLe HNl HOl ⊢
 obtain ⟨N,hN⟩:∃ N,prodN D n=N:=⟨_,rfl⟩
 rw [hN] at hnq HPl HNl HOl hp3 hN1 ⊢
 have hNI:(N:Int)≤3000:=by omega
 have hmk:∀ w:World,(Instr.makeSlice 38 (.int .i64 0) (.int .i64 (N:Int))).run Tryz.prog w=.ok (.slice (some ⟨w.heap.size,0,none⟩) 0 N) (w.alloc (.cells (madeCells #[.int .i64 0] N) 3)):=fun w=>by
  have hr:=run_make (P:=Tryz.prog) w 38 3 i0 _ Tryz.underlying38 hi0 hz0 .i64 .i64 0 N (by omega) (by omega) (by rw [hz2];omega) (by omega)
  simp only [Int.toNat_natCast,hz1,Nat.mul_one] at hr
  exact hr
 have HN3:Hid (N≤3000):=hp3
 clear hA hE hR hd hNn hN
 go_enter Tryz.func28,Tryz.ntmps28
 go_wp2_with fail
 refine hnq.mono ?_
 rintro e w1 ⟨q,gM,gU,rfl,hQ1⟩
 have HQ1:Hid (QMk w1 q gM gU N N Nn w):=hQ1
 have hB1:Below w.heap.size w w1:=by obtain ⟨-,-,-,-,-,h⟩:=hQ1;exact h
 have hpl:=HPl.out w1 hB1
 clear hnq hQ1
 go_wp2_with fail
 refine hpl.mono ?_
 rintro e w2 ⟨rfl,rfl⟩
 have HS0:=hid_of (OrdS.first HQ1.out HNl.out HIn.out HAc.out hN1 HN3.out)
 clear hpl hB1
 go_wp2_with fail
 clear hmk
 go_loopg [6] N (fun gg s6 wr => ∃ (k:Nat) (AO:Option Addr) (cO:Nat),k≤N∧gg=N-k∧s6=.slice AO k cO∧Hid (OrdS wr w q gM gU N k Nn (.slice AO k cO)))
 case atStart=>exact ⟨0,_,_,Nat.zero_le _,rfl,rfl,HS0⟩
 case round =>
  obtain ⟨k,AO,cO,hk,rfl,rfl,HS⟩:=hrel
  obtain ⟨hql,hr1,hr2⟩:=HS.out.ready HNl.out HIn.out HAc.out
  by_cases hlt:k<N
  ·obtain ⟨Aq,l,cq,k2,hlN⟩:=hr1 hlt
   have hlI:(l:Int)≤3000:=by omega
   have hst:=HS.out.step HNl.out HIn.out HAc.out HRi.out HLe.out HN3.out hlt
   clear hr1 hr2
   go_wp2_with fail
   refine hst.mono ?_
   rintro e w4 ⟨m,rfl,hmN,hO4,hs4,hfin⟩
   have HO4:Hid (w4.ownsRow w.heap.size 3 1 (.slice AO k cO) k (mapI (ordTo Nn k))):=hO4
   have HFin:=hid_of hfin
   clear hst hO4 hfin k2
   go_wp2_with (at_builtin;refine wpList_append_own_at _ rfl _ _ 38 rfl w.heap.size 3 i0 (.int .i64 0) 1 8 Tryz.underlying38 hi0 hz0 hz1 hz2 rfl (by decide) _ _ _ rfl (HO4.out.alloc _) ⟨w4.heap.size,0,none⟩ 1 1 [.int .i64 m] rfl rfl one_cell one_one (by unfold maxLen;omega) (by omega) (by simp;omega) ?_)
   intro v' w6 hown' hgrow _ hat
   obtain ⟨A',c',rfl⟩:∃ A' c',v'=.slice A' (k+1) c':=by
    rcases hown'.2 with ⟨-,h⟩ | ⟨g',c',cur,h,-⟩
    ·omega
    ·exact ⟨_,_,h⟩
   have HF6:=hid_of (HFin.out _ _ _ (by go_grown) hown' hgrow (hat.imp id fun h=>by rw [h];simp))
   clear hown' hgrow hat
   go_wp2_with fail
   go_roundg (N-(k+1))
   case measure=>omega
   case rel=>exact ⟨k+1,_,_,by omega,rfl,rfl,HF6⟩
  ·have hke:k=N:=by omega
   obtain ⟨Aq,cq,k2⟩:=hr2 hke
   subst hke
   have HF:Hid (IntT wr AO cO (ordTo Nn k)∧Below w.heap.size w wr):=by
    obtain ⟨-,-,-,-,-,-,-,-,-,hO,-,hB⟩:=HS.out
    refine ⟨?_,hB⟩
    have hO3:wr.ownsRow w.heap.size 3 1 (.slice AO k cO) (ordTo Nn k).length (mapI (ordTo Nn k)):=by rw [HOl.out];exact hO
    obtain ⟨A',c',e,hI⟩:=intT_own hO3
    simp only [Value.slice.injEq] at e
    obtain ⟨rfl,-,rfl⟩:=e
    exact hI
   clear hr1 hr2
   go_wp2_with fail
   go_returns
   exact ⟨⟨AO,cO,rfl,HF.out.1⟩,HF.out.2⟩
set_option maxHeartbeats 4000000 in
theorem corder_t (A0:Option Addr) (cap n:Nat) (D:Nat→Dm) (A:Nat→Option Addr) (C:Nat→Nat) (w:World) (hM:DimsV w A0 cap n D A C) :
  Calls Tryz.prog 47 #[.agg #[.slice A0 n cap]] w fun e w'=>(∃ A' c',e=.returned (.tuple #[.slice A' (coL D n).length c',errV (ruErr D n).2.2])∧IntT w' A' c' (coL D n))∧Below w.heap.size w w':=by
 have hB0:=ownOut_below w A0 n cap 24
 have hA:=ownOut_at w A0 n cap 24
 obtain ⟨W,hW⟩:∃ W,ownOut w A0 n cap 24=W:=⟨_,rfl⟩
 rw [hW] at hB0 hA
 unfold ownOut at hW
 have HB0:Hid (Below w.heap.size w W):=hB0
 by_cases hr:(ruErr D n).2.2=0
 case neg =>
  have hl:=new_bad A0 cap n D A C W hr (hM.later hB0)
  have HE:Hid (coL D n=[]):=by show _=_;unfold coL;rw [if_neg hr]
  have HEr:Hid (errV (ruErr D n).2.2=.iface 95 (.int .i64 (ruErr D n).2.2)):=errV_some hr
  rw [errV_some hr] at hl
  generalize (ruErr D n).2.2=z at hl HEr
  clear hM hB0 hr
  go_enter Tryz.func47,Tryz.ntmps47
  go_wp2_with fail
  refine hl.mono ?_
  rintro e w1 ⟨rfl,hb1⟩
  go_wp2_with fail
  go_returns
  rw [HE.out,HEr.out]
  exact ⟨⟨none,0,rfl,IntT.nil _ _ _ (by omega)⟩,onB HB0.out hb1⟩
 obtain ⟨hE,hR⟩:=ru_right hr
 have hl:=new_any A0 cap n D A C W hE hR (hM.later hB0)
 have HE:Hid (coL D n=ordTo (rowsL D n) (prodN D n)∧(coL D n).length=prodN D n):=by
  have e:coL D n=ordTo (rowsL D n) (prodN D n):=by unfold coL;rw [if_pos hr]
  exact ⟨e,by rw [e];exact ord_len (rows_inn hR hE) (rows_acyc hR hE) (prodN D n) (by rw [rows_len];exact Nat.le_refl _)⟩
 have HOr:Hid (∀ qp g X w',PlanV w' qp g n D X→Calls Tryz.prog 28 #[.pointer (some ⟨qp,0,none⟩)] w' fun e w''=>(∃ A' c',e=.returned (.tuple #[.slice A' (coL D n).length c',.nilIface])∧IntT w'' A' c' (coL D n))∧Below w'.heap.size w' w''):=fun qp g X w' h=>by
  have h2:=orderof_any qp g n D X w' hR hE h
  rw [←HE.out.1,←HE.out.2] at h2
  exact h2
 rw [hr,errV_zero]
 generalize coL D n=L at HOr ⊢
 generalize L.length=ll at HOr ⊢
 clear hM hB0 hr hE hR HE
 go_enter Tryz.func47,Tryz.ntmps47
 go_wp2_with fail
 refine hl.mono ?_
 rintro e w1 ⟨⟨qp,g,X,rfl,-,-,hP⟩,hb1⟩
 have HB1:Hid (Below w.heap.size w w1):=onB HB0.out hb1
 have hor:=HOr.out qp g X w1 hP
 clear hb1 hl hP
 go_wp2_with fail
 refine hor.mono ?_
 rintro e w2 ⟨⟨A',c',rfl,hI⟩,hb2⟩
 have HI:Hid (IntT w2 A' c' L):=hI
 have HB2:Hid (Below w.heap.size w w2):=onB HB1.out hb2
 clear hI hb2 hor
 go_wp2_with fail
 go_returns
 exact ⟨⟨A',c',rfl,HI.out⟩,HB2.out⟩
def AllS (D:Nat→Dm) (n:Nat) (inp:List Int→Int×Int) (O:List Int) (k:Nat) (L:List (Int×Int)):Prop:=L.length=prodN D n∧∀ j:Nat,j<prodN D n→((j:Int)∈O.take k→L.getD j noC=solV D n inp (placeL D n j))∧((j:Int)∉O.take k→L.getD j noC=inp (placeL D n j))
theorem intT_cell {w:World} {A:Option Addr} {c g x:Nat} {L:List Int} {cur:Array Value} {fr:Nat×Nat} {a b:Value} (h:IntT w A c L) (hg:w.heap[g]?=some (.cells cur 54 fr)):IntT ((w.setCell ⟨g,x,none⟩ a).setCell ⟨g,x+1,none⟩ b) A c L:=h.keep fun b' cs fr' hb=>by
 have hne:b'≠g:=fun e=>by
  rw [e,hg] at hb
  simp at hb
 rw [setCell_off _ _ _ _ _ hne,setCell_off _ _ _ _ _ hne]
set_option maxHeartbeats 16000000 in
theorem call_new (A0:Option Addr) (cap n:Nat) (D:Nat→Dm) (A:Nat→Option Addr) (C:Nat→Nat) (AE:Option Addr) (ce:Nat) (xs:List EnL) (w:World) (hM:DimsV w A0 cap n D A C) (hEn:EnsV w AE ce xs) :
  Calls Tryz.prog 9 #[.agg #[.slice A0 n cap],.slice AE xs.length ce] w fun e w'=>(∃ A' c',e=.returned (.tuple #[.slice A' (caL D n (lE xs)).length c',errV (cuErr D n (lE xs))])∧CelV w' A' c' (caL D n (lE xs))∧NewA w.heap.size A')∧Below w.heap.size w w':=by
 have hB0:=ownOut_below w A0 n cap 24
 have hS:=ownOut_size w A0 n cap 24
 have hA:=ownOut_at w A0 n cap 24
 obtain ⟨W,hW⟩:∃ W,ownOut w A0 n cap 24=W:=⟨_,rfl⟩
 rw [hW] at hB0 hS hA
 unfold ownOut at hW
 have HB0:Hid (Below w.heap.size w W):=hB0
 have hsz:w.heap.size<W.heap.size:=by omega
 have HA:Hid (W.cell? ⟨w.heap.size,0,none⟩=some (.slice A0 n cap)):=hA
 by_cases hr:(ruErr D n).2.2=0
 case neg =>
  have hl:=new_bad A0 cap n D A C W hr (hM.later hB0)
  have HE:Hid (cuErr D n (lE xs)=(ruErr D n).2.2∧caL D n (lE xs)=[]):=by
   have e1:cuErr D n (lE xs)=(ruErr D n).2.2:=by unfold cuErr;rw [if_pos hr]
   exact ⟨e1,caL_bad (by rw [e1];exact hr)⟩
  have HEr:Hid (errV (ruErr D n).2.2=.iface 95 (.int .i64 (ruErr D n).2.2)):=errV_some hr
  rw [errV_some hr] at hl
  generalize xs.length=xl
  generalize (ruErr D n).2.2=z at hl HE HEr
  clear hM hB0 hr hS hEn
  go_enter Tryz.func9,Tryz.ntmps9
  go_wp2_with fail
  refine hl.mono ?_
  rintro e w1 ⟨rfl,hb1⟩
  go_wp2_with fail
  go_returns
  rw [HE.out.1,HE.out.2,HEr.out]
  exact ⟨⟨none,0,rfl,CelV.nil _ _ _ (by omega),NewA.none _⟩,onB HB0.out hb1⟩
 obtain ⟨hE,hR⟩:=ru_right hr
 have hl:=new_any A0 cap n D A C W hE hR (hM.later hB0)
 have hce:cuErr D n (lE xs)=entsErr D n (lE xs):=by unfold cuErr;rw [if_neg (by simpa using hr)]
 by_cases he:entsErr D n (lE xs)=0
 case neg =>
  have HE:Hid (cuErr D n (lE xs)=entsErr D n (lE xs)∧caL D n (lE xs)=[]):=⟨hce,caL_bad (by rw [hce];exact he)⟩
  have HEr:Hid (errV (entsErr D n (lE xs))=.iface 95 (.int .i64 (entsErr D n (lE xs)))):=errV_some he
  have HCe:Hid (∀ w',Below w.heap.size w w'→Calls Tryz.prog 27 #[.agg #[.slice A0 n cap],.slice AE xs.length ce] w' fun e w''=>(∃ A' c',e=.returned (.tuple #[.slice A' 0 c',.iface 95 (.int .i64 (entsErr D n (lE xs)))]))∧Below w'.heap.size w' w''):=fun w' hB=>fcells_bad A0 cap n D A C AE ce xs w' (hM.later hB) (hEn.later hB) he
  generalize xs.length=xl at HCe ⊢
  generalize entsErr D n (lE xs)=z at HE HEr HCe
  clear hM hB0 hr hS hEn hE hR he hce
  go_enter Tryz.func9,Tryz.ntmps9
  go_wp2_with fail
  refine hl.mono ?_
  rintro e w1 ⟨⟨qp,g,X,rfl,-,-,-⟩,hb1⟩
  have HB1:Hid (Below W.heap.size W w1):=hb1
  have c1:=(hb1.cell (p:=⟨w.heap.size,0,none⟩) hsz).trans HA.out
  have hs1:w.heap.size<w1.heap.size:=Nat.lt_of_lt_of_le hsz hb1.size
  clear hb1 hl hA hW
  go_wp2_with fail
  refine (HCe.out w1 (onB HB0.out HB1.out)).mono ?_
  rintro e w2 ⟨⟨A2,c2,rfl⟩,hb2⟩
  have HB2:Hid (Below w.heap.size w w2):=onB (onB HB0.out HB1.out) hb2
  clear hb2 c1
  go_wp2_with fail
  go_returns
  rw [HE.out.1,HE.out.2,HEr.out]
  exact ⟨⟨none,0,rfl,CelV.nil _ _ _ (by omega),NewA.none _⟩,HB2.out⟩
 have hEs:=ens_of he
 have hcu:cuErr D n (lE xs)=0:=hce.trans he
 have HCe:Hid (∀ w',Below w.heap.size w w'→Calls Tryz.prog 27 #[.agg #[.slice A0 n cap],.slice AE xs.length ce] w' fun e w''=>(∃ g,e=.returned (.tuple #[.slice (some ⟨g,0,none⟩) (prodN D n) (prodN D n),.nilIface])∧w'.heap.size≤g∧CelB w'' g (wrV D n (lE xs)))∧Below w'.heap.size w' w''):=fun w' hB=>fcells_own A0 cap n D A C AE ce xs w' (hM.later hB) (hEn.later hB) he
 obtain ⟨-,-,hp3,-⟩:=allErr_some hE
 obtain ⟨O,hO⟩:∃ O,ordTo (rowsL D n) (prodN D n)=O:=⟨_,rfl⟩
 have HOl:Hid (O.length=prodN D n):=by show _=_;rw [←hO];exact ord_len (rows_inn hR hE) (rows_acyc hR hE) (prodN D n) (by rw [rows_len];exact Nat.le_refl _)
 have HOr:Hid (∀ qp g X w',PlanV w' qp g n D X→Calls Tryz.prog 28 #[.pointer (some ⟨qp,0,none⟩)] w' fun e w''=>(∃ A' c',e=.returned (.tuple #[.slice A' (prodN D n) c',.nilIface])∧IntT w'' A' c' O)∧Below w'.heap.size w' w''):=fun qp g X w' h=>by
  have h2:=orderof_any qp g n D X w' hR hE h
  rw [hO] at h2
  exact h2
 have HStp:Hid (∀ k L,k<prodN D n→AllS D n (getE (lE xs)) O k L→∃ m:Nat,O.getD k 0=(m:Int)∧m<prodN D n∧(∀ z∈ndsX D n m,goodC (L.getD z.toNat noC))∧tlV D n L m=solV D n (getE (lE xs)) (placeL D n m)∧AllS D n (getE (lE xs)) O (k+1) (L.set m (solV D n (getE (lE xs)) (placeL D n m)))):=fun k L hk hAS=>by
  obtain ⟨m,h1,h2,h3,h4,h5⟩:=ord_at (rows_inn hR hE) (rows_acyc hR hE) (k:=k) (by rw [rows_len];exact hk)
  rw [rows_len,hO] at h1 h3 h4 h5
  rw [rows_len] at h2
  have hnds:∀ z∈ndsX D n m,∃ y:Nat,z=(y:Int)∧y<prodN D n∧(y:Int)∈O.take k:=fun z hz=>by
   obtain ⟨y,rfl,hy⟩:=nds_in hR hE h2 z hz
   refine ⟨y,rfl,hy,h4 _ ?_⟩
   have ht:=nds_told hR hE h2
   rw [rows_at h2,←told_eq hR hE ht,(List.mergeSort_perm _ _).mem_iff]
   exact hz
  have hL1:∀ z∈ndsX D n m,L.getD z.toNat noC=solV D n (getE (lE xs)) (placeL D n z.toNat):=fun z hz=>by
   obtain ⟨y,rfl,hy,hyO⟩:=hnds z hz
   rw [Int.toNat_natCast]
   exact (hAS.2 y hy).1 hyO
  refine ⟨m,h1,h2,fun z hz=>?_,tl_sol hR hE h2 (fun _=>(hAS.2 m h2).2 h3) hL1,by rw [List.length_set];exact hAS.1,fun j hj=>?_⟩
  ·rw [hL1 z hz]
   exact good_sol hR (good_getE hEs) _ _ (placeL_in hE) (Nat.lt_succ_self _)
  ·by_cases e:j=m
   ·subst e
    refine ⟨fun _=>?_,fun h=>absurd ?_ h⟩
    ·rw [List.getD_eq_getElem?_getD,List.getElem?_set_self (by rw [hAS.1];exact hj)]
     rfl
    ·rw [h5];simp
   ·have ht:(j:Int)∈O.take (k+1)↔(j:Int)∈O.take k:=by
     rw [h5,List.mem_append,List.mem_singleton]
     exact ⟨fun h=>h.resolve_right (by omega),Or.inl⟩
    rw [ht,List.getD_eq_getElem?_getD,List.getElem?_set_ne (fun h=>e h.symm),←List.getD_eq_getElem?_getD]
    exact hAS.2 j hj
 have HTl:Hid (∀ qp g X gC L m w',PlanV w' qp g n D X→CelB w' gC L→L.length=prodN D n→m<prodN D n→(∀ z∈ndsX D n m,goodC (L.getD z.toNat noC))→Calls Tryz.prog 29 #[.pointer (some ⟨qp,0,none⟩),.slice (some ⟨gC,0,none⟩) (prodN D n) (prodN D n),.int .i64 m] w' fun e w''=>e=.returned (.tuple #[.agg #[.int .i64 (tlV D n L m).1,.int .i64 (tlV D n L m).2],.nilIface])∧Below w'.heap.size w' w''):=fun qp g X gC L m w' hP hC hLl hm hok=>ptell_any qp g n D X m (some ⟨gC,0,none⟩) (prodN D n) L w' hR hE hm hP hLl ⟨by rw [hLl];exact Nat.le_refl _,by omega,Or.inr ⟨gC,0,rfl,hC.celAt⟩⟩ hok
 have HFi:Hid (∀ L,AllS D n (getE (lE xs)) O (prodN D n) L→L=caL D n (lE xs)):=fun L h=>ca_eq hcu h.1 fun j hj=>(h.2 j hj).1 (by
  rw [List.take_of_length_le (by rw [HOl.out];exact Nat.le_refl _),←hO]
  have hnd:=ord_in (rowsL D n) (prodN D n)
  refine Classical.byContradiction fun hn=>?_
  have:=few (prodN D n) ((j:Int) :: ordTo (rowsL D n) (prodN D n)) (List.nodup_cons.2 ⟨hn,hnd.1⟩) fun x hx=>by
   rcases List.mem_cons.1 hx with rfl | hx
   ·omega
   ·have:=hnd.2 x hx;rw [rows_len] at this;exact this
  rw [List.length_cons,hO,HOl.out] at this
  omega)
 have HSt0:Hid (AllS D n (getE (lE xs)) O 0 (wrV D n (lE xs))):=⟨wrV_len ..,fun j hj=>⟨fun h=>by simp at h,fun _=>wr_at hEs hj⟩⟩
 have HCl:Hid ((caL D n (lE xs)).length=prodN D n):=caL_len hcu
 rw [hcu,errV_zero,HCl.out]
 generalize caL D n (lE xs)=CA at HFi HCl ⊢
 generalize getE (lE xs)=inp at HStp HFi HSt0
 generalize wrV D n (lE xs)=W0 at HCe HSt0
 generalize xs.length=xl at HCe ⊢
 obtain ⟨N,hN⟩:∃ N,prodN D n=N:=⟨_,rfl⟩
 have HN:Hid (prodN D n=N):=hN
 rw [hN] at HCe HOl HOr HStp HTl HFi hp3 HCl ⊢
 have hNI:(N:Int)≤3000:=by omega
 clear hM hB0 hr hS hEn hE hR he hce hEs hcu hO hN
 go_enter Tryz.func9,Tryz.ntmps9
 go_wp2_with fail
 refine hl.mono ?_
 rintro e w1 ⟨⟨qp,g,X,rfl,-,-,hP1⟩,hb1⟩
 have HP1:Hid (PlanV w1 qp g n D X):=hP1
 have HB1:Hid (Below W.heap.size W w1):=hb1
 have c1:=(hb1.cell (p:=⟨w.heap.size,0,none⟩) hsz).trans HA.out
 have hs1:w.heap.size<w1.heap.size:=Nat.lt_of_lt_of_le hsz hb1.size
 clear hb1 hl hA hW hP1
 go_wp2_with fail
 refine (HCe.out w1 (onB HB0.out HB1.out)).mono ?_
 rintro e w2 ⟨⟨gC,rfl,hgC,hC2⟩,hb2⟩
 have HB2:Hid (Below w1.heap.size w1 w2):=hb2
 have HC2:Hid (CelB w2 gC W0):=hC2
 have hor:=HOr.out qp g X w2 (HP1.out.later hb2)
 clear hb2 c1 hC2
 go_wp2_with fail
 refine hor.mono ?_
 rintro e w3 ⟨⟨A3,c3,rfl,hI3⟩,hb3⟩
 have HB3:Hid (Below w1.heap.size w1 w3):=onB HB2.out hb3
 have HC3:Hid (CelB w3 gC W0):=HC2.out.later hb3
 have HI3:Hid (IntT w3 A3 c3 O):=hI3
 clear hb3 hor hI3
 go_wp2_with fail
 go_loopg [7,39] N (fun gg s7 s39 wr => ∃ (k:Nat),k≤N∧gg=N-k∧s39=.int .i64 k∧s7=.nilIface∧Hid (∃ L,CelB wr gC L∧AllS D n inp O k L)∧Hid (IntT wr A3 c3 O)∧Hid (Below w1.heap.size w1 wr))
 case atStart=>exact ⟨0,Nat.zero_le _,rfl,rfl,rfl,hid_of ⟨W0,HC3.out,HSt0.out⟩,HI3,HB3⟩
 case round =>
  obtain ⟨k,hk,rfl,rfl,rfl,HL,HI,HBw⟩:=hrel
  by_cases hlt:k<N
  ·have hki:(k:Int)<(N:Int):=by omega
   obtain ⟨L,hCL,hAS⟩:=HL.out
   obtain ⟨m,hm,hmN,hok,htl,hAS2⟩:=HStp.out k L hlt hAS
   have hLl:L.length=N:=by rw [←HN.out];exact hAS.1
   have htc:=HTl.out qp g X gC L m wr (HP1.out.later HBw.out) hCL hLl hmN hok
   rw [htl] at htc
   obtain ⟨⟨ra,rb⟩,hRe⟩:∃ R,solV D n inp (placeL D n m)=R:=⟨_,rfl⟩
   rw [hRe] at htc hAS2
   simp only at htc
   obtain ⟨hcS,-,hS0 | ⟨bs,cs,fr,rfl,hbS,hcl⟩⟩:=HI.out
   ·have:=HOl.out;rw [hS0] at this;simp at this;omega
   have cx:=hcl k (by rw [HOl.out];exact hlt)
   have hbs:bs<wr.heap.size:=(Array.getElem?_eq_some_iff.1 hbS).1
   rw [HOl.out] at hcS
   rw [hm] at cx
   have hcSI:(N:Int)≤(c3:Int):=by omega
   have hmI:(m:Int)<(N:Int):=by omega
   have HCL:Hid (CelB wr gC L):=hCL
   have HAS2:=hid_of hAS2
   have HLl:Hid (L.length=N):=hLl
   clear hcl hbS hm hok htl hRe hAS hAS2 hCL
   go_wp2_with fail
   refine htc.mono ?_
   rintro e w5 ⟨rfl,hb5⟩
   have hC5:=HCL.out.later hb5
   obtain ⟨r0,r1⟩:=hC5.at (k:=m) (by rw [HLl.out];exact hmN)
   have f0:=hC5.frozen (m*2)
   have f1:=hC5.frozen (m*2+1)
   have hgl:=hC5.lt
   have HC5:Hid (CelB ((w5.setCell ⟨gC,m*2,none⟩ (.int .i64 ra)).setCell ⟨gC,m*2+1,none⟩ (.int .i64 rb)) gC (L.set m (ra,rb))):=hC5.set (by rw [HLl.out];exact hmN) ra rb
   obtain ⟨cur,hcur,-⟩:=hC5
   have HI5:Hid (IntT ((w5.setCell ⟨gC,m*2,none⟩ (.int .i64 ra)).setCell ⟨gC,m*2+1,none⟩ (.int .i64 rb)) (some ⟨bs,0,none⟩) c3 O):=intT_cell (HI.out.later hb5) hcur
   have HB5:Hid (Below w1.heap.size w1 ((w5.setCell ⟨gC,m*2,none⟩ (.int .i64 ra)).setCell ⟨gC,m*2+1,none⟩ (.int .i64 rb))):=((onB HBw.out hb5).setCell hgC _).setCell hgC _
   clear hb5 htc hcur
   go_wp2_with fail
   go_roundg (N-(k+1))
   case measure=>omega
   case rel=>exact ⟨k+1,by omega,rfl,by go_num,rfl,hid_of ⟨_,HC5.out,HAS2.out⟩,HI5,HB5⟩
  ·have hke:k=N:=by omega
   subst hke
   have HgC:Hid (NewA w.heap.size (some ⟨gC,0,none⟩)):=fun b o e=>by cases e;exact Nat.le_trans (Nat.le_of_lt hs1) hgC
   have HF:Hid (CelV wr (some ⟨gC,0,none⟩) k CA):=by
    obtain ⟨L,hCL,hAS⟩:=HL.out
    have hLe:=HFi.out L hAS
    have hLl:=HCl.out
    rw [hLe] at hCL
    exact ⟨by rw [hLl];exact Nat.le_refl _,by omega,Or.inr ⟨gC,0,rfl,hCL.celAt⟩⟩
   go_wp2_with fail
   go_returns
   exact ⟨⟨_,_,rfl,HF.out,HgC.out⟩,onB HB0.out (onB HB1.out HBw.out)⟩
theorem call_any (A0:Option Addr) (cap n:Nat) (D:Nat→Dm) (A:Nat→Option Addr) (C:Nat→Nat) (AE:Option Addr) (ce:Nat) (xs:List EnL) (w:World) (hM:DimsV w A0 cap n D A C) (hEn:EnsV w AE ce xs) :
  Calls Tryz.prog 9 #[.agg #[.slice A0 n cap],.slice AE xs.length ce] w fun e w'=>(∃ A' c',e=.returned (.tuple #[.slice A' (caL D n (lE xs)).length c',errV (cuErr D n (lE xs))])∧CelV w' A' c' (caL D n (lE xs)))∧Below w.heap.size w w' :=
 (call_new A0 cap n D A C AE ce xs w hM hEn).mono fun _ _ ⟨⟨A',c',h1,h2,_⟩,h3⟩=>⟨⟨A',c',h1,h2⟩,h3⟩
end Go.Proofs.YtfgegmpoejilnaaGreatDoor
