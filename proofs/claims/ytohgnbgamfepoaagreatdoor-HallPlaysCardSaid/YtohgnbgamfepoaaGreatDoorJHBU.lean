/- What the document's ow -/
import Derived.Test.YtohgnbgamfepoaaGreatDoorJHBT
namespace Go.Proofs.YtohgnbgamfepoaaGreatDoor
open ChangeShapes WideShapes ChangeAt RowKit
set_option maxRecDepth 99999
set_option maxHeartbeats 0
theorem vT (A0:Option Addr) (cap n:Nat) (D:Nat→Dm) (A:Nat→Option Addr) (C:Nat→Nat) (ve:Value) (Ap:Option Addr) (cp:Nat) (L:List Int) (Ac:Option Addr) (cc:Nat) (CL:List (Int×Int)) (b m:Nat) (w:World) (hI:InO D n L) (hM:aW w A0 cap n D A C) (hP:aZ w Ap cp L) (hC:dx w Ac cc CL) (hCL:CL.length=prodN D n) (H:oW CL) (hb:byTo D L n=(b:Int)) (hm:(L.getD b 0).toNat=m) (hf:((D b).mem m).formula.size=0) :
  Rt 29 #[.agg #[.slice A0 n cap],ve,.slice Ap L.length cp,.slice Ac CL.length cc] w (.agg #[.int .i64 (ew (D b) (fun z=>CL.getD (numI D (L.set b z) n).toNat noC) m).1,.int .i64 (ew (D b) (fun z=>CL.getD (numI D (L.set b z) n).toNat noC) m).2]):=by
 obtain ⟨hn1,hn4,hp3,hd⟩:=au hI.right;have t:b<n:=by
  rcases by_in D L n with h | ⟨b',h1,Q⟩ <;> omega
 obtain ⟨hd1,V⟩:=hd b t;have hdk:=(eY hI.right).2 b t;have hp0:=hI.lo b t;have hp1:=hI.hi b t;have hmn:m<(D b).n:=by omega
 have hLb:L.getD b 0=(m:Int):=by omega
 have hl:=hI.len;obtain ⟨W,hW⟩:=az ((w.alloc (.cells #[.slice A0 n cap] 24)).alloc (.cells #[.int .i64 0,.int .i64 0] 52));have K6:Bl w W:=by rw [←hW];go_grown
 have hk1:W.heap[w.heap.size+1]?=some (.cells #[.int .i64 0,.int .i64 0] 52 (0,0)):=by rw [←hW];exact kr _ _ _
 have Lc:W.heap[w.heap.size]?=some (.cells #[.slice A0 n cap] 24 (0,0)):=by rw [←hW];exact qi _ _ _
 have d0:W.cell? ⟨w.heap.size,0,none⟩=some (.slice A0 n cap):=by simp [World.cell?,Lc]
 have Le:w.heap.size<W.heap.size:=(zY Lc).1;have F:w.heap.size+1<W.heap.size:=(zY hk1).1;have La:=nR A0 cap n D A C Ap cp L W hI (hM.later K6) (hP.later K6);rw [hb] at La;have HB0:=aa K6;have HK:Hid (W.heap[w.heap.size]?=some (.cells #[.slice A0 n cap] 24 (0,0))∧W.heap[w.heap.size+1]?=some (.cells #[.int .i64 0,.int .i64 0] 52 (0,0))):=⟨Lc,hk1⟩;have HM:=aa hM;have HP:=aa hP;have HC:=aa hC;have HI:=aa hI;have HSg:Hid (Sg (D b).mem (D b).n):=Sg.of hdk;have HTr:Hid (Tr (D b).mem (D b).n):=Tr.of hdk;have HCL:=aa hCL;have HGd:=aa H;obtain ⟨f,hfe⟩:∃ f:Int→Int×Int,f=fun z=>CL.getD (numI D (L.set b z) n).toNat noC:=⟨_,rfl⟩
 have HFe:Hid (∀ z,f z=CL.getD (numI D (L.set b z) n).toNat noC):=fun z=>by rw [hfe]
 rw [←hfe];have J:Hid (ew (D b) f m=(bA (D b).mem (D b).n m).foldl (ba (D b).mem f) (0,0)):=by
  show _=_
  unfold ew;rw [if_pos hf]
 have hf':((D b).mem m).formula.toList.isEmpty=true:=by rw [aU];simpa using hf
 rw [hl] at La ⊢;obtain ⟨N,hN⟩:=az CL.length;have HN:=aa hN;rw [hN];have K7:N≤3000:=by omega
 have hbI:(b:Int)<(n:Int):=by omega
 have hb0:decide ((b:Int)<0)=false:=decide_eq_false (by omega)
 have hnI:(n:Int)≤4:=by omega
 have hmI:(m:Int)<((D b).n:Int):=by omega
 have hdI:((D b).n:Int)≤12:=by omega
 have hNI:(N:Int)≤3000:=by omega
 clear hI hM hP hC hCL H hb hm hf hfe K6 Lc hk1 hdk hd hN hp0 hp1
 go_enter Tryz.func29,Tryz.ntmps29
 go_wp2_with fail;refine La.mono ?_;rintro e w1 ⟨rfl,q⟩;have HB1:=aa q;have hB1:=ae HB0.out q;obtain ⟨hcap,x | ⟨bo,oo,rfl,hMs⟩⟩:=HM.out.later hB1
 ·omega
 have hcapI:(n:Int)≤(cap:Int):=by omega
 obtain ⟨q0,q1,q2,q3⟩:=hMs.2 b t;obtain ⟨-,x | ⟨bm,om,hAm,hMm⟩⟩:=q3
 ·omega
 rw [hAm] at q2;obtain ⟨hcp,x | ⟨bp,op,rfl,hbp,U⟩⟩:=HP.out
 ·rw [x] at hl;simp at hl;omega
 have hcpI:(n:Int)≤(cp:Int):=by omega
 have HPc:Hid (∀ w',Bl w w'→w'.cell? ⟨bp,op+b,none⟩=some (.int .i64 m)∧bp<w'.heap.size):=fun w' hB=>⟨by rw [←hLb];exact aC hB hbp (U b (by omega)),zW hbp hB.size⟩
 have cw1:=aC q Le d0;have hsw1:w.heap.size<w1.heap.size:=zW Le q.size;have hbo:bo<w1.heap.size:=hMs.1;have HMm:Hid (∀ w',Bl w w'→b8 w' bm om (D b).n (D b).mem):=fun w' hB=>by
  obtain ⟨-,x | ⟨b1,o1,h1,Q⟩⟩:=HM.out.later hB
  ·omega
  cases h1;obtain ⟨-,x | ⟨b2,o2,h3,h4⟩⟩:=(Q.2 b t).2.2.2
  ·omega
  rw [hAm] at h3;cases h3;exact h4
 obtain ⟨y1,u⟩:∃ y,w1.alloc (.cells #[.string (D b).name,.int .i64 (D b).solve,.slice (some ⟨bm,om,none⟩) (D b).n (C b)] 70)=y:=⟨_,rfl⟩;have B:Bl w1 y1:=by rw [←u];go_grown
 have K:Hid (se w (some ⟨bo,oo,none⟩) cap n w1.heap.size (D b) (some ⟨bm,om,none⟩) (C b) y1):=by
  have x:=(B.block _ hsw1).trans ((q.block _ Le).trans HK.out.1);have Q:y1.heap[w1.heap.size]?=some (.cells #[.string (D b).name,.int .i64 (D b).solve,.slice (some ⟨bm,om,none⟩) (D b).n (C b)] 70 (0,0)):=by rw [←u];exact heap_alloc_new ..
  exact ⟨ae hB1 B,⟨(zY x).1,by simp [World.cell?,x]⟩,(B.block _ (zW F q.size)).trans ((q.block _ F).trans HK.out.2),(zY Q).1,by simp [World.cell?,Q],by simp [World.cell?,Q],by simp [World.cell?,Q]⟩
 obtain ⟨e1,e2,e3,e4⟩:=K.out.2.2.2;obtain ⟨pc,hbpy⟩:=HPc.out y1 K.out.1;have hMy:=HMm.out y1 K.out.1;obtain ⟨-,-,-,m3⟩:=hMy.2 m hmn;have hbmy:bm<y1.heap.size:=hMy.1;have hsb1:w.heap.size+1<w1.heap.size:=zW F q.size;clear q hB1 hMs hMm hAm U La d0 B hMy;go_wp2_with fail
 go_quiet (fail)
 generalize hwj:y1.drewN nq=wj;have hBj:Bl y1 wj:=by rw [←hwj];exact ac (zS) _
 obtain ⟨y2,Y⟩:∃ y,wj.alloc (.cells #[.int .i64 0,.int .i64 0] 52)=y:=⟨_,rfl⟩;have hBy2:Bl wj y2:=by rw [←Y];go_grown
 have HBx2:Hid (y2.heap[wj.heap.size]?=some (.cells #[.int .i64 0,.int .i64 0] 52 (0,0))):=by show _=_;rw [←Y];exact heap_alloc_new ..
 have K3:=aa (K.out.later (ae hBj hBy2));have hqk:wj.heap.size<y2.heap.size:=(zY HBx2.out).1;have hqd:w1.heap.size<wj.heap.size:=zW K.out.2.2.2.1 hBj.size;obtain ⟨e1',e2',e3',e4'⟩:=K3.out.2.2.2;obtain ⟨pc',hbpy'⟩:=HPc.out y2 K3.out.1;have HPt:Hid (∀ w',Bl y2 w'→Calls Tryz.prog 65 #[.agg #[.string (D b).name,.int .i64 (D b).solve,.slice (some ⟨bm,om,none⟩) (D b).n (C b)],.int .i64 m] w' fun e w''=>(∃ A c,e=.returned (.slice A (bA (D b).mem (D b).n m).length c)∧bX w'' A c (bA (D b).mem (D b).n m)∧∀ b o,A=some ⟨b,o,none⟩→w'.heap.size≤b)∧Bl w' w''):=fun w' hB=>yK (D b) bm om (C b) m w' V (HMm.out w' (ae K3.out.1 hB))
 obtain ⟨P,K8⟩:=az (bA (D b).mem (D b).n m);have HPm:Hid (∀ z∈P,∃ j:Nat,z=(j:Int)∧j<(D b).n):=fun z hz=>by
  rw [←K8] at hz;obtain ⟨j,h1,Q,-⟩:=cS z hz;exact ⟨j,h1,Q⟩
 have K9:P.length≤12:=by rw [←K8];exact zV (cG _ _) V
 rw [K8] at HPt J;obtain ⟨NP,hNP⟩:=az P.length;have HNP:=aa hNP;rw [hNP] at HPt K9;clear hBj hBy2 K8 hNP e1 e2 e3 e4 pc m3 hbpy q0 q1 q2 cw1 u;go_wp2_with fail
 go_cut [19] from 92 (fun s19 wx=>(∃ A c,s19=.slice A NP c∧bX wx A c P∧∀ b o,A=some ⟨b,o,none⟩→y2.heap.size≤b)∧Bl y2 wx)
 case first =>
  go_region_law ((go_simp;refine (HPt.out _ (by go_grown)).mono ?_;rintro e w3 ⟨⟨A3,c3,rfl,hI3,K7⟩,hb3⟩;have hB3:=ae (W0:=y2) (by go_grown) hb3;have hN3':∀ b o,A3=some ⟨b,o,none⟩→y2.heap.size≤b:=fun b o e=>zV (by simp) (K7 b o e);clear hb3 K7))
  all_goals go_wp2_with fail
  all_goals go_meet
  all_goals exact ⟨⟨A3,c3,rfl,hI3,hN3'⟩,hB3⟩
 case rest =>
 obtain ⟨⟨AP,cP,rfl,hI4,hN4⟩,K5⟩:=hcut;obtain ⟨w4,rfl⟩:∃ w4:World,w4=wc:=⟨_,rfl⟩;have HI4:=aa hI4;have HN4:=aa hN4;have HT4:=aa (K3.out.later K5);have HBx4:Hid (w4.heap[wj.heap.size]?=some (.cells #[.int .i64 0,.int .i64 0] 52 (0,0))):=(K5.block _ hqk).trans HBx2.out;have hs4:=K5.size;have hNPI:(NP:Int)≤12:=by omega
 have HFin:Hid ((P.take NP).foldl (ba (D b).mem f) (0,0)=ew (D b) f m):=by show _=_;rw [J.out,←HNP.out,List.take_length]
 clear hI4 hN4 K5 Y e1' e2' e3' e4' pc';go_wp2_with fail
 go_loopg [20] NP (fun gg s20 wr => ∃ (i:Nat) (a b':Int),i≤NP∧gg=NP-i∧s20=.int .i64 i∧Hid ((P.take i).foldl (ba (D b).mem f) (0,0)=(a,b'))∧Hid (wr.heap[wj.heap.size]?=some (.cells #[.int .i64 a,.int .i64 b'] 52 (0,0)))∧Hid (w4.grownBy wr (some wj.heap.size)))
 case atStart=>exact ⟨0,0,0,zU,rfl,rfl,(rfl:(P.take 0).foldl (ba (D b).mem f) (0,0)=(0,0)),HBx4,cV w4 _⟩
 case round =>
  obtain ⟨wi,rfl⟩:∃ wi:World,wi=wr:=⟨_,rfl⟩;obtain ⟨i,a,b',hi,rfl,rfl,K0,k,G⟩:=hrel;have Ld:wj.heap.size<wi.heap.size:=(zY k.out).1;have p:Hid (se w (some ⟨bo,oo,none⟩) cap n w1.heap.size (D b) (some ⟨bm,om,none⟩) (C b) wi):=HT4.out.grown G.out (by omega) (by omega)
  obtain ⟨s0,s1,f0,f1⟩:=cF k.out
  by_cases hil:i<NP
  ·have hii:(i:Int)<(NP:Int):=by omega
   have r:i<P.length:=by rw [HNP.out];exact hil
   have hIi:bX wi AP cP P:=by
    obtain ⟨h1,x | ⟨bq,Q,h3,h4⟩⟩:=HI4.out
    ·rw [x] at r;simp at r
    subst Q;exact xB ⟨h1,Or.inr ⟨bq,rfl,h3,h4⟩⟩ (by have:=HN4.out bq 0 rfl;omega) G.out
   obtain ⟨hcP,x | ⟨bq,rfl,hbq,E⟩⟩:=hIi
   ·rw [x] at r;simp at r
   have cp1:=E i r;rw [HNP.out] at hcP;have hmem:P.getD i 0∈P:=by rw [zZ,zX r];exact List.getElem_mem r
   obtain ⟨j,hj,Lb⟩:=HPm.out _ hmem;have hMi:=HMm.out wi p.out.1;obtain ⟨-,-,m2,-⟩:=hMi.2 j Lb;have hbmi:bm<wi.heap.size:=hMi.1;have hsg:=HSg.out j Lb;obtain ⟨k1,k2,k3,k4⟩:=p.out.2.2.2;obtain ⟨hswi,cw⟩:=p.out.2.1;obtain ⟨y,u,Y,hy3⟩:=AU HI.out t Lb;have hyN:y<N:=by have:=HN.out;have:=HCL.out;omega
   have hyi:(y:Int)<(N:Int):=by omega
   have d:=rP (M:=(D b).mem) (at':=f) r;rw [K0.out,hj] at d;have hfj:f (j:Int)=CL.getD y noC:=by rw [HFe.out,u];rfl
   unfold ba at d;rw [show ((j:Int)).toNat=j by omega,hfj] at d
   simp only at d;have H:b6 (CL.getD y noC):=AA HGd.out (y:Int);have X:b6 (a,b'):=by rw [←K0.out];exact jI _ _ _ _ fx
   rw [hj] at cp1;obtain ⟨hcL,-,x | ⟨bc,oc,rfl,R⟩⟩:=HC.out.later p.out.1
   ·have:=HN.out;rw [x] at this;simp at this;omega
   obtain ⟨g1,g2⟩:=R.2 y (by rw [HN.out];exact hyN)
   have hbci:bc<wi.heap.size:=R.1;rw [HN.out] at hcL;have hcLI:(N:Int)≤(cc:Int):=by omega
   have O:Hid (∀ w',Bl wi w'→Calls Tryz.prog 62 #[.slice (some ⟨bp,op,none⟩) n cp,.int .i64 b,.int .i64 j] w' fun e w''=>(∃ A' Z,e=.returned (.slice A' n Z)∧aZ w'' A' Z (L.set b (j:Int)))∧Bl w' w''):=fun w' g=>by
    have h:=mJ (some ⟨bp,op,none⟩) cp L b (j:Int) w' (by omega) (by omega) (HP.out.later (ae p.out.1 g))
    rw [hl] at h;exact h
   have HNum:Hid (∀ w' A' Z,Bl wi w'→aZ w' A' Z (L.set b (j:Int))→Rt 8 #[.agg #[.slice (some ⟨bo,oo,none⟩) n cap],.slice A' n Z] w' (.int .i64 y)):=fun w' A' Z g hp=>by
    have h:=fP (some ⟨bo,oo,none⟩) cap n D A C A' Z (L.set b (j:Int)) w' hy3 (HM.out.later (ae p.out.1 g)) hp;rw [u,List.length_set,hl] at h;exact h
   have S:=F7 (ka:=a) (na:=b') (kb:=(CL.getD y noC).1) (nb:=(CL.getD y noC).2) X H;have T:=CY (ka:=a) (na:=b') (kb:=(CL.getD y noC).1) (nb:=(CL.getD y noC).2) X H;generalize (CL.getD y noC).1=v1 at g1 d S T;generalize (CL.getD y noC).2=v2 at g2 d S T;generalize ((D b).mem j).sign=sg at m2 d hsg;have HKp:Hid ((wj.heap.size<wi.heap.size∧w.heap.size<wi.heap.size∧bq<wi.heap.size∧bc<wi.heap.size)∧wi.cell? ⟨bq,i,none⟩=some (.int .i64 j)∧wi.cell? ⟨w.heap.size,0,none⟩=some (.slice (some ⟨bo,oo,none⟩) n cap)∧wi.cell? ⟨bc,oc+y*2,none⟩=some (.int .i64 v1)∧wi.cell? ⟨bc,oc+y*2+1,none⟩=some (.int .i64 v2)):=⟨⟨Ld,hswi,hbq,hbci⟩,cp1,cw,g1,g2⟩;have s:Hid (∀ w',Bl wi w'→w'.cell? ⟨wj.heap.size,0,none⟩=some (.int .i64 a)∧w'.cell? ⟨wj.heap.size,1,none⟩=some (.int .i64 b')∧w'.frozen? ⟨wj.heap.size,0,none⟩=false∧w'.frozen? ⟨wj.heap.size,1,none⟩=false∧w'.cell? ⟨bq,i,none⟩=some (.int .i64 j)∧w'.cell? ⟨w.heap.size,0,none⟩=some (.slice (some ⟨bo,oo,none⟩) n cap)∧w'.cell? ⟨bc,oc+y*2,none⟩=some (.int .i64 v1)∧w'.cell? ⟨bc,oc+y*2+1,none⟩=some (.int .i64 v2)):=fun w' g=>by
    obtain ⟨p0,p1,p2,p3⟩:=cF ((g.block _ Ld).trans k.out);obtain ⟨⟨-,z2,z3,z4⟩,z5,z6,z7,z8⟩:=HKp.out;exact ⟨p0,p1,p2,p3,aC g z3 z5,aC g z2 z6,aC g z4 z7,aC g z4 z8⟩
   have hjd:(j:Int)<((D b).n:Int):=by omega
   clear hmem hj hMi E u Y hy3 hfj H X r R k1 k2 k3
   by_cases hs0:sg=0
   ·subst hs0
    rw [if_neg (by decide),if_neg (by decide)] at d
    have I:=aa d;clear d hsg S T;go_wp2_with fail
    first | (go_quiet (fail);go_wp2_with fail) | skip
    go_roundg (NP-(i+1))
    case measure=>omega
    case rel=>first | exact ⟨i+1,a,b',by omega,rfl,by go_num,I,k,G⟩ | exact ⟨i+1,a,b',by omega,rfl,by go_num,I,k.out,fy G.out (ac (zS) _)⟩
   have hsn:(sg != 0)=true:=by simpa using hs0
   have HR:Hid (∃ rk rn:Int,(P.take (i+1)).foldl (ba (D b).mem f) (0,0)=(rk,rn)∧∀ w',Rt 66 #[.agg #[.int .i64 a,.int .i64 b'],.agg #[.int .i64 v1,.int .i64 v2],.int .i64 sg] w' (.agg #[.int .i64 rk,.int .i64 rn])):=by
    by_cases hs1:sg=1
    ·subst hs1
     rw [if_pos rfl] at d;exact ⟨_,_,d,S⟩
    have hs2:sg = -1:=by omega
    subst hs2;rw [if_neg (by decide),if_pos rfl] at d
    exact ⟨_,_,d,T⟩
   obtain ⟨rk,rn,hNi,K9⟩:=HR.out;have I:=aa hNi;have HPlus:=aa K9;clear d hsg S T hs0 hNi K9 HR;go_wp2_with fail
   go_quiet (fail)
   go_wp2_with fail;generalize hwk:wi.drewN nq=wk;have hBk:Bl wi wk:=by rw [←hwk];exact ac (zS) _
   have q4:=aa hBk;have K4:Hid (∀ w',Bl wk w'→_):=fun w' g=>O.out w' (ae q4.out g)
   have HNum2:Hid (∀ w' A' Z,Bl wk w'→_):=fun w' A' Z g=>HNum.out w' A' Z (ae q4.out g)
   have l:Hid (∀ w',Bl wk w'→_):=fun w' g=>s.out w' (ae q4.out g)
   obtain ⟨j0,j1,j2,j3,j4,j5,j6,j7⟩:=s.out _ hBk;clear hwk hBk O HNum s s0 s1 f0 f1 cp1 m2 k4 g1 g2 cw hsn hmI hdI hsb1 hbo Le F hmn hd1 V hn1 hn4 hl hsw1 hLb Lb hjd hbmi K7 hf' hp3 HKp K0 J HSg HTr HGd HFe
   go_region_law ((first
    | (go_simp;refine (K4.out _ (by go_grown)).mono ?_;rintro e w5 ⟨⟨A5,c5,rfl,hP5⟩,hb5⟩;have hN5:=ae (W0:=wk) (by go_grown) hb5;obtain ⟨l0,l1,l2,l3,l4,l5,l6,l7⟩:=l.out _ hN5;have HP5:=aa hP5;clear hb5 hP5 j0 j1 j2 j3 j4 j5 j6 j7)
    | (go_simp;refine (HNum2.out _ _ _ (by go_grown) (HP5.out.later (by go_grown))).mono ?_;rintro e w6 ⟨rfl,hb6⟩;have hN6:=ae (W0:=wk) (by go_grown) hb6;obtain ⟨n0,n1,n2,n3,n4,n5,n6,n7⟩:=l.out _ hN6;clear hb6 l0 l1 l2 l3 l4 l5 l6 l7)
    | (go_simp;refine (HPlus.out _).mono ?_;rintro e w7 ⟨rfl,hb7⟩;have hN7:=ae (W0:=wk) (by go_grown) hb7;obtain ⟨r0,r1,r2,r3,r4,r5,r6,r7⟩:=l.out _ hN7;have K2:=aa (ae q4.out hN7);clear hb7 n0 n1 n2 n3 n4 n5 n6 n7)))
   all_goals clear hN5 hN6 hN7
   all_goals go_wp2_with fail
   all_goals go_roundg (NP-(i+1))
   all_goals first
    | omega
    | exact ⟨i+1,rk,rn,by omega,rfl,by go_num,I,lx ((K2.out.block _ Ld).trans k.out),ja (fy G.out K2.out)⟩
    | exact ⟨i+1,rk,rn,by omega,rfl,by go_num,I,lx ((K2.out.block _ Ld).trans k.out),eD (ja (fy G.out K2.out))⟩
  have hie:i=NP:=by omega
  subst hie;have HV:Hid (ew (D b) f m=(a,b')):=by show _=_;rw [←HFin.out];exact K0.out
  obtain ⟨e0,e1,g0,g1⟩:=cF p.out.2.2.1;have hs1i:w.heap.size+1<wi.heap.size:=(zY p.out.2.2.1).1;go_wp2_with fail;refine bodyPost_ret (v:=.agg #[.int .i64 a,.int .i64 b']) (by simp [results,Tryz.results29,go_sem,e0,e1]) rfl ⟨by rw [HV.out],?_⟩
  exact (p.out.1.setCell (Nat.le_succ _) _).setCell (Nat.le_succ _) _
def FL (f:Nat→Bool) (R:List Int) (i u:Nat):Bool := !(f i) && (R.take u).all fun z=>f z.toNat
theorem FM {f:Nat→Bool} {R:List Int} {i u:Nat} (h:FL f R i u=true) (a:u<R.length):FL f R i (u+1)=f (R.getD u 0).toNat:=by
 unfold FL at *;rw [Bool.and_eq_true] at h;rw [h.1,Bool.true_and,List.take_succ_eq_append_getElem a,List.all_append,h.2,Bool.true_and,zZ,zX a]
 simp
theorem Ig {f:Nat→Bool} {R:List Int} {i:Nat} (h:FL f R i R.length=true):f i=false∧∀ z∈R,f z.toNat=true:=by
 unfold FL at h;rw [Bool.and_eq_true,List.take_length,List.all_eq_true] at h;exact ⟨by simpa using h.1,h.2⟩
theorem Js {f:Nat→Bool} {R:List Int} {i u:Nat} (h:FL f R i u=false):f i=false→∃ z∈R,f z.toNat=false:=by
 intro b;unfold FL at h;rw [b] at h;simp only [Bool.not_false,Bool.true_and] at h;rw [List.all_eq_false] at h;obtain ⟨z,c,a⟩:=h;exact ⟨z,List.mem_of_mem_take c,by simpa using a⟩
theorem DJ (A0:Option Addr) (cap n:Nat) (D:Nat→Dm) (A:Nat→Option Addr) (C:Nat→Nat) (Ae:Option Addr) (f:Nat) (xs:List EnL) (Ap:Option Addr) (c:Nat) (Ac:Option Addr) (a:Nat) (CL:List (Int×Int)) (i:Nat) (T:List Int) (w:World) (o:(am D n).2.2=0) (p:dI D n) (v:xs.length≤3000) (s:mR xs (aj D n i)) (k:aW w A0 cap n D A C) (g:b7 w Ae f xs) (l:aZ w Ap c (aj D n i)) (m:dx w Ac a CL) (d:CL.length=prodN D n) (e:oW CL) (t:eM D n (aj D n i) T) (u:∀ z∈T,CL.getD z.toNat noC=ez D n (getE (lE xs)) (aj D n z.toNat)) :
  Rt 29 #[.agg #[.slice A0 n cap],.slice Ae xs.length f,.slice Ap (aj D n i).length c,.slice Ac CL.length a] w (.agg #[.int .i64 (ez D n (getE (lE xs)) (aj D n i)).1,.int .i64 (ez D n (getE (lE xs)) (aj D n i)).2]):=by
 have j:InO D n (aj D n i):=bZ o
 rcases by_in D (aj D n i) n with h | ⟨b,hb,hbn⟩
 ·have r:=zg A0 cap n D A C Ae f xs Ap c (aj D n i) (.slice Ac CL.length a) w j k l v g s (by omega)
  rw [fR _ (by omega)]
  exact r
 rw [JB p o (getE (lE xs)) (fun y=>CL.getD y noC) t u hb]
 by_cases q:((D b).mem ((aj D n i).getD b 0).toNat).formula.size=0
 ·exact vT A0 cap n D A C _ Ap c (aj D n i) Ac a CL b _ w j k l m d e hb rfl q
 exact ze A0 cap n D A C _ Ap c (aj D n i) Ac a CL b _ w j k l m d e hb rfl p q
def qq (w1:World) (g gT N:Nat) (v:Nat→Int×Int) (L:List (Int×Int)) (f:Nat→Bool) (w:World):Prop:=bU w g L∧L.length=N∧fT w gT N f∧oW L∧(∀ j,j<N→f j=true→L.getD j noC=v j)∧Below g w1 w
theorem qq.later {w1 w w':World} {g gT N:Nat} {v:Nat→Int×Int} {L:List (Int×Int)} {f:Nat→Bool} (h:qq w1 g gT N v L f w) (a:Bl w w'):qq w1 g gT N v L f w':=by
 obtain ⟨c,d,e,j,k,b⟩:=h;have m:=c.lt;exact ⟨c.later a,d,e.later a,j,k,⟨a.os.trans b.os,a.tape.trans b.tape,a.output.trans b.output,zV b.size a.size,fun i l=>(a.block i (by omega)).trans (b.block i l)⟩⟩
theorem qq.put {w1 w:World} {g gT N:Nat} {v:Nat→Int×Int} {L:List (Int×Int)} {f:Nat→Bool} (h:qq w1 g gT N v L f w) (q:g<gT) {i:Nat} {a b:Int} (t:i<N) (s:v i=(a,b)) (c:b6 (a,b)):qq w1 g gT N v (L.set i (a,b)) (ik f i) (((w.setCell ⟨g,i*2,none⟩ (.int .i64 a)).setCell ⟨g,i*2+1,none⟩ (.int .i64 b)).setCell ⟨gT,i,none⟩ (.bool true)):=by
 obtain ⟨k,l,d,m,n,o⟩:=h;refine ⟨(k.set (by omega) a b).same (ar _ _ _ _ _ (by omega)),by rw [List.length_set];exact l,?_,Cf m i c,fun j r p=>?_,iw (iw (iw o (zT)) (zT)) (by omega)⟩
 ·refine fT.set (f:=f) ?_ fun j _=>rfl
  unfold fT at d ⊢;rw [ar _ _ _ _ _ (by omega),ar _ _ _ _ _ (by omega)]
  exact d
 by_cases e:j=i
 ·subst e
  rw [zZ,List.getElem?_set_self (by omega)]
  exact s.symm
 rw [zZ,List.getElem?_set_ne (fun h=>e h.symm),←zZ]
 exact n j r (by simpa [ik,e] using p)
def tF (ys:List RL) (f:Nat→Bool) (ag:Bool) (i:Nat):Prop:=ag=false→∀ j,j<i→f j=false→∃ z∈(ys.getD j eq).p,f z.toNat=false
theorem rU (ys:List RL) (f:Nat→Bool) (i:Nat):tF ys f true i:=fun h=>by cases h
theorem zd (A0:Option Addr) (cap n:Nat) (D:Nat→Dm) (A:Nat→Option Addr) (C:Nat→Nat) (Ae:Option Addr) (ce:Nat) (xs:List EnL) (w:World) (hE:(am D n).2.2=0) (hR:dI D n) (F:Ens D n (lE xs)) (hM:aW w A0 cap n D A C) (hEn:b7 w Ae ce xs) :
  Calls Tryz.prog 11 #[.agg #[.slice A0 n cap],.slice Ae xs.length ce] w fun e w'=>(∃ g L,e=.returned (.slice (some ⟨g,0,none⟩) (prodN D n) (prodN D n))∧L.length=prodN D n∧bU w' g L∧∀ j,j<prodN D n→L.getD j noC=ez D n (getE (lE xs)) (aj D n j))∧Bl w w':=by
 obtain ⟨hn1,hn4,hp3,hd⟩:=au hE;have K4:xs.length≤3000:=by have:=F.few;rw [a7] at this;exact this
 have HSh:Hid (∀ x,mR xs (aj D n x)):=fun x=>⟨fun k hk=>by
  have hmem:(xs.getD k aJ).e∈lE xs:=List.mem_map.2 ⟨_,iX hk,rfl⟩;have:=(F.each _ hmem).1.len
  omega,by rw [placeL_len];omega⟩
 have Q:=ao w A0 n cap 24;have hS:=av w A0 n cap 24;have hA:=aH w A0 n cap 24;obtain ⟨W,hW⟩:=az (ax w A0 n cap 24);rw [hW] at Q hS hA;unfold ax at hW;have H:=lK A0 cap n D A C W hR hE (hM.later Q);have HB0:=aa Q;have HM:=aa hM;have HEn:=aa hEn;have HR:=aa hR;have HE:=aa hE;have HEs:=aa F;have HA:=aa hA;have hsz:w.heap.size<W.heap.size:=by omega
 have hnI:(n:Int)≤4:=by omega
 obtain ⟨N,hN⟩:=az (prodN D n);have M:=aa hN;obtain ⟨v,hv⟩:∃ v:Nat→Int×Int,v=fun j=>ez D n (getE (lE xs)) (aj D n j):=⟨_,rfl⟩
 have HV:Hid (∀ j,v j=ez D n (getE (lE xs)) (aj D n j)):=fun j=>by rw [hv]
 have HVg:Hid (∀ j,b6 (v j)):=fun j=>by rw [hv];exact oY hR (mn F) _ _ (bZ hE) (Nat.lt_succ_self _)
 rw [hN] at H hp3;have hNI:(N:Int)≤3000:=by omega
 have hmk:=jC N hp3;have hmb:=kp N hp3;have HXf:=aa K4;obtain ⟨xl,hxl⟩:=az xs.length;have HXl:=aa hxl;rw [hxl];clear hE hR F hM hEn Q hS K4 hxl hv hN hd
 go_enter Tryz.func11,Tryz.ntmps11
 go_wp2_with fail;refine H.mono ?_;rintro e w1 ⟨⟨A1,c1,ys,rfl,hyl,hY,hT⟩,S⟩;have HB1:=aa (ae HB0.out S);have HY:=aa hY;have HT:=aa hT;have P:=aa hyl;have HCo:Hid (w1.cell? ⟨w.heap.size,0,none⟩=some (.slice A0 n cap)):=aC S hsz HA.out;have K5:w.heap.size<w1.heap.size:=zW hsz S.size;have HIn:Hid (∀ i,i<N→∀ z∈(ys.getD i eq).p,∃ j:Nat,z=(j:Int)∧j<N):=fun i hi z hz=>by
  obtain ⟨j,h1,h2,-⟩:=fG HR.out HE.out (hT i hi) hz;exact ⟨j,h1,by rw [←M.out];exact h2⟩
 have K7:Hid (∀ f:Nat→Bool,(∀ i,i<N→f i=false→∃ z∈(ys.getD i eq).p,f z.toNat=false)→∀ i,i<N→f i=true):=fun f h i hi=>xR HR.out HE.out (fun i=>(ys.getD i eq).p) (fun j s=>hT j (by rw [←M.out];exact s)) f (fun j s hf=>h j (by rw [←M.out];exact s) hf) i (by rw [M.out];exact hi)
 obtain ⟨o,X⟩:∃ y,w1.alloc (.cells (madeCells #[.int .i64 0,.int .i64 0] (N*2)) 52)=y:=⟨_,rfl⟩;have q0:Bl w1 o:=by rw [←X];go_grown
 have K0:bU o w1.heap.size (List.replicate N (0,0)):=by rw [←X];exact qN w1 N
 have hs1:o.heap.size=w1.heap.size+1:=by rw [←X];simp
 obtain ⟨y2,hy2⟩:∃ y,o.alloc (.cells (madeCells #[.bool false] N) 4)=y:=⟨_,rfl⟩;have E:Bl o y2:=by rw [←hy2];go_grown
 have K3:fT y2 o.heap.size N fun _=>false:=by rw [←hy2];exact fT.made o N
 have HI0:Hid (qq w1 w1.heap.size o.heap.size N v (List.replicate N (0,0)) (fun _=>false) y2):=by
  refine ⟨K0.later E,by simp,K3,fun c hc=>?_,fun j _ h=>(by cases h),ae q0 E⟩
  rw [(List.mem_replicate.1 hc).2];exact fx
 have hgT:w1.heap.size<o.heap.size:=by omega
 clear H S hyl hY hT q0 K0 E K3 hs1 hA hW;go_wp2_with fail;clear hmk hmb X hy2
 go_loopg [8] (D5 (fun _=>false) true N) (fun gg s8 wr => ∃ (ag:Bool) (L:List (Int×Int)) (f:Nat→Bool),gg=D5 f ag N∧s8=.bool ag∧Hid (qq w1 w1.heap.size o.heap.size N v L f wr)∧Hid (tF ys f ag N))
 case atStart=>exact ⟨true,_,_,rfl,rfl,HI0,rU _ _ _⟩
 case round =>
  obtain ⟨ag,L,f,rfl,rfl,HI,HWt⟩:=hrel;cases ag
  ·have HAll:Hid (∀ i,i<N→f i=true):=K7.out f (HWt.out rfl)
   go_wp2_with fail;go_ret;refine ⟨⟨w1.heap.size,L,by rw [M.out];rfl,by rw [M.out];exact HI.out.2.1,HI.out.1,fun j s=>?_⟩,?_⟩
   ·rw [M.out] at s
    rw [HI.out.2.2.2.2.1 j s (HAll.out j s)];exact HV.out j
   exact ae HB1.out HI.out.2.2.2.2.2
  go_wp2_with fail
  go_loopg [8,9] N (fun gg s8 s9 wi => ∃ (i:Nat) (ag:Bool) (L':List (Int×Int)) (f':Nat→Bool),i≤N∧gg=N-i∧s8=.bool ag∧s9=.int .i64 i∧Hid (qq w1 w1.heap.size o.heap.size N v L' f' wi)∧Hid (tF ys f' ag i)∧Hid (kQ N f f' ag))
  case atStart=>exact ⟨0,false,L,f,zU,rfl,rfl,rfl,HI,(fun _ j s=>absurd s (Nat.not_lt_zero _):tF ys f false 0),(⟨fun h=>(by cases h),fun _=>rfl⟩:kQ N f f false)⟩
  case round =>
   obtain ⟨wi,rfl⟩:∃ wi:World,wi=wr:=⟨_,rfl⟩;obtain ⟨i,ag,L',f',hi,rfl,rfl,rfl,a,Z,t⟩:=hrel
   by_cases d:i<N
   ·have hii:(i:Int)<(N:Int):=by omega
    have B:=a.out.2.2.2.2.2;obtain ⟨hcap,h0 | ⟨b,rfl,hbw,hcl⟩,hrw⟩:=HY.out.later B
    ·have:=P.out;rw [h0] at this;simp at this;omega
    have cj:=hcl i (by rw [P.out];exact d)
    have I:=hrw _ (il (k:=i) (by rw [P.out];exact d))
    rw [P.out] at hcap;have hcapI:(N:Int)≤(c1:Int):=by omega
    have K2:=(HT.out i d).2.1;have hIz:=HIn.out i d;obtain ⟨R,hRe⟩:=az ((ys.getD i eq).p);have HRe:=aa hRe;rw [hRe] at cj I K2 hIz;have HIz:=aa hIz;generalize (ys.getD i eq).A=Aj at cj I;generalize (ys.getD i eq).c=cjj at cj I;have HTj:=aa I;obtain ⟨r,hr⟩:=az R.length;have m:=aa hr;rw [hr] at cj K2;have hrI:(r:Int)≤12:=by omega
    have cg:=a.out.2.2.1.cell d;have hgl:=a.out.2.2.1.lt;have Y:Hid (FL f' R i 0 = !f' i):=by show _=_;unfold FL;simp
    generalize f' i=ij at cg Y;clear hcl hrw I hRe hIz hr B;go_wp2_with fail
    go_loopg [10,11] r (fun gg s10 s11 wk => ∃ (u:Nat) (ok:Bool),u≤r∧gg=r-u∧s10=.bool ok∧s11=.int .i64 u∧Hid (FL f' R i u=ok)∧wk=wi)
    case atStart=>exact ⟨0,_,zU,rfl,rfl,rfl,Y,rfl⟩
    case round =>
     obtain ⟨u,ok,hu,rfl,rfl,rfl,HU,hwk⟩:=hrel;have hwk2:wi=wr:=hwk.symm;clear hwk;subst hwk2;cases ok
     ·have HNo:Hid (f' i=false→∃ z∈(ys.getD i eq).p,f' z.toNat=false):=fun h=>by rw [HRe.out];exact Js HU.out h
      have HWn:Hid (tF ys f' ag (i+1)):=fun ha j s hf=>by
       by_cases e:j=i
       ·subst e;exact HNo.out hf
       exact Z.out ha j (by omega) hf
      by_cases V:u<r
      ·have hui:(u:Int)<(r:Int):=by omega
       go_wp2_with fail
       go_roundg (N-(i+1))
       case measure=>omega
       case rel=>exact ⟨i+1,ag,L',f',by omega,rfl,rfl,by go_num,a,HWn,t⟩
      have hue:u=r:=by omega
      subst hue;go_wp2_with fail
      go_roundg (N-(i+1))
      case measure=>omega
      case rel=>exact ⟨i+1,ag,L',f',by omega,rfl,rfl,by go_num,a,HWn,t⟩
     by_cases V:u<r
     ·have hui:(u:Int)<(r:Int):=by omega
      obtain ⟨hcR,-,hR0 | ⟨br,cs,fr,rfl,hbr,hcr⟩⟩:=HTj.out
      ·have:=m.out;rw [hR0] at this;simp at this;omega
      have cu:=hcr u (by rw [m.out];exact V)
      rw [m.out] at hcR;have hcRi:(r:Int)≤(cjj:Int):=by omega
      have hbrl:br<wi.heap.size:=(zY hbr).1;have O:Hid (FL f' R i (u+1)=f' (R.getD u 0).toNat):=FM HU.out (by rw [m.out];exact V)
      obtain ⟨z,hz,hzn⟩:=HIz.out (R.getD u 0) (f6 (by rw [m.out];exact V))
      rw [hz] at cu O;rw [Int.toNat_natCast] at O;have hzI:(z:Int)<(N:Int):=by omega
      have cz:=a.out.2.2.1.cell hzn;generalize f' z=zb at cz O;clear hcr hbr hz;go_wp2_with fail
      go_roundg (r-(u+1))
      case measure=>omega
      case rel=>exact ⟨u+1,zb,by omega,rfl,rfl,by go_num,O,rfl⟩
     have hue:u=r:=by omega
     subst hue;have K:f' i=false∧∀ z∈R,f' z.toNat=true:=Ig (by rw [m.out];exact HU.out)
     have HFi:=aa K.1;have HRd:Hid (∀ z∈R,L'.getD z.toNat noC=ez D n (getE (lE xs)) (aj D n z.toNat)):=fun z hz=>by
      obtain ⟨j,rfl,s⟩:=HIz.out z hz;rw [Int.toNat_natCast];have h:=a.out.2.2.2.2.1 j s (by have:=K.2 _ hz;rwa [Int.toNat_natCast] at this)
      rw [h];exact HV.out j
     have B:=ae HB1.out a.out.2.2.2.2.2;have K6:=aa B;have HAtc:Hid (∀ w',Bl wi w'→Calls Tryz.prog 30 #[.agg #[.slice A0 n cap],.int .i64 i] w' fun e w''=>(∃ A' c',e=.returned (.slice A' n c')∧aZ w'' A' c' (aj D n i))∧Bl w' w''):=fun w' J=>by
      have h:=Bj A0 cap n D A C i w' HE.out (by rw [M.out];exact d) (HM.out.later (ae K6.out J))
      rw [placeL_len] at h;exact h
     obtain ⟨⟨ra,rb⟩,hRv⟩:∃ q,v i=q:=⟨_,rfl⟩;have K8:=aa hRv;have HTl:Hid (∀ w' A' c',Bl wi w'→aZ w' A' c' (aj D n i)→Rt 29 #[.agg #[.slice A0 n cap],.slice Ae xl ce,.slice A' n c',.slice (some ⟨w1.heap.size,0,none⟩) N N] w' (.agg #[.int .i64 ra,.int .i64 rb])):=fun w' A' c' J hp=>by
      have G:=a.out.later J;have h:=DJ A0 cap n D A C Ae ce xs A' c' (some ⟨w1.heap.size,0,none⟩) N L' i (ys.getD i eq).p w' HE.out HR.out HXf.out (HSh.out i) (HM.out.later (ae K6.out J)) (HEn.out.later (ae K6.out J)) hp ⟨by rw [G.2.1];exact zT,by omega,Or.inr ⟨_,0,rfl,G.1.celAt⟩⟩ (by rw [G.2.1];exact M.out.symm) G.2.2.2.1 (HT.out i d) (by rw [HRe.out];exact HRd.out)
      rw [←HV.out i,K8.out,placeL_len,HXl.out,G.2.1] at h;exact h
     have co:wi.cell? ⟨w.heap.size,0,none⟩=some (.slice A0 n cap):=aC a.out.2.2.2.2.2 K5 HCo.out;have hswi:w.heap.size<wi.heap.size:=zW K5 a.out.2.2.2.2.2.size;have HKp:Hid (∀ w',Bl wi w'→Bl wi w'∧w'.cell? ⟨w.heap.size,0,none⟩=some (.slice A0 n cap)):=fun w' h=>⟨h,aC h hswi co⟩
     clear K B hRv
     go_upto_region 16 with fail
     go_cut [12] from 22 to 69 (fun s12 wx => ∃ q,s12=.pointer (some ⟨q,0,none⟩)∧At q ra rb wx∧Bl wi wx)
     case first =>
      go_region_held3 (fun w'=>Bl wi w'∧w'.cell? ⟨w.heap.size,0,none⟩=some (.slice A0 n cap))
       ((refine HKp.out _ ?_;go_grown;done))
       (first | (go_at_call 30;refine (HAtc.out _ (by go_grown)).mono ?_;rintro e w6 ⟨⟨A6,c6,rfl,hP6⟩,T⟩;have hN6:=ae (W0:=wi) (by go_grown) T;have HP6:=aa hP6;have hy6:=hN6.size;obtain ⟨hc6,hf6⟩:=dk T;have hz6:=dp T;(try simp [Nat.add_one_le_iff] at hz6);clear T hP6) | (go_at_call 29;refine (HTl.out _ _ _ (by go_grown) (HP6.out.later (by go_grown))).mono ?_;rintro e w7 ⟨rfl,U⟩;have hN7:=ae (W0:=wi) (by go_grown) U;have hy7:=hN7.size;obtain ⟨hc7,hf7⟩:=dk U;have hz7:=dp U;(try simp [Nat.add_one_le_iff] at hz7);(try have ha7:wi.heap.size<w7.heap.size:=by omega);clear U))
      all_goals go_wp2_with fail
      all_goals go_meet
      all_goals
       refine ⟨_,rfl,?_,by go_grown⟩
       first
        | exact At.new _ _ _ _
        | (refine At.set (u:=.int .i64 0) (v:=.int .i64 0) (by omega) ?_ ?_ <;> (rw [hc7 _ _ (by simp)];simp;done))
        | (refine At.set (u:=.int .i64 0) (v:=.int .i64 0) (by omega) ?_ ?_ <;> (rw [hc7 _ _ (by omega),hc6 _ _ (by simp)];simp;done))
     case rest =>
     obtain ⟨q,rfl,⟨hql,p0,p1⟩,hBc⟩:=hcut;obtain ⟨w9,rfl⟩:∃ w9:World,w9=wc:=⟨_,rfl⟩;have l:=aa (a.out.later hBc);obtain ⟨z0,z1⟩:=l.out.1.at (k:=i) (by rw [l.out.2.1];exact d)
     have z2:=l.out.2.2.1.cell d;have x0:=l.out.1.frozen (i*2);have x1:=l.out.1.frozen (i*2+1);have x2:=l.out.2.2.1.frozen i;have hl1:=l.out.1.lt;have hl2:=l.out.2.2.1.lt;have HIx:Hid (qq w1 w1.heap.size o.heap.size N v (L'.set i (ra,rb)) (ik f' i) (((w9.setCell ⟨w1.heap.size,i*2,none⟩ (.int .i64 ra)).setCell ⟨w1.heap.size,i*2+1,none⟩ (.int .i64 rb)).setCell ⟨o.heap.size,i,none⟩ (.bool true))):=l.out.put hgT d K8.out (by have:=HVg.out i;rw [K8.out] at this;exact this)
     have HPx:Hid (kQ N f (ik f' i) true):=vm t.out d HFi.out;clear hBc cj cg;go_wp2_with fail
     go_roundg (N-(i+1))
     case measure=>omega
     case rel=>exact ⟨i+1,true,_,_,by omega,rfl,rfl,by go_num,HIx,rU _ _ _,HPx⟩
   have hie:i=N:=by omega
   subst hie;have HMu:Hid (D5 f' ag i<D5 f true i):=by
    show _<_
    unfold D5;cases ag with
    | true=>have:=t.out.1 rfl;simp;omega
    | false=>rw [t.out.2 rfl];simp
   go_wp2_with fail
   go_roundg (D5 f' ag i)
   case measure=>exact HMu.out
   case rel=>exact ⟨ag,L',f',rfl,rfl,a,Z⟩
end Go.Proofs.YtohgnbgamfepoaaGreatDoor
