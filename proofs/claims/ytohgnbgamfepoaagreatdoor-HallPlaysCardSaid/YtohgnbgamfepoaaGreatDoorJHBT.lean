/- What the document's ow -/
import Derived.Test.YtohgnbgamfepoaaGreatDoorJHBL
import Derived.Test.YtohgnbgamfepoaaGreatDoorJHBO
namespace Go.Proofs.YtohgnbgamfepoaaGreatDoor
open ChangeShapes WideShapes ChangeAt RowKit
set_option maxRecDepth 99999
set_option maxHeartbeats 0
theorem BJ {w:World} {base:Nat} {v:Value} {L:List (Int×Int)} (h:w.ownsRow base 52 2 v L.length (bL L)):∃ A c,v=.slice A L.length c∧dx w A c L:=by
 by_cases k:0<L.length
 ·obtain ⟨g,c,b,-,d,e,f⟩:=ou h k
  exact ⟨_,c,b,d,e,Or.inr ⟨g,0,rfl,f.celAt⟩⟩
 have j:L=[]:=List.eq_nil_of_length_eq_zero (by omega)
 subst j
 rcases h.2 with ⟨rfl,-⟩ | ⟨g,cap,a,rfl,-,-,-,i,-⟩
 ·exact ⟨none,0,rfl,dx.nil _ _ _ (by omega)⟩
 exact ⟨_,cap,rfl,dx.nil _ _ _ (by unfold maxLen at i;omega)⟩
theorem ze (A0:Option Addr) (cap n:Nat) (D:Nat→Dm) (A:Nat→Option Addr) (C:Nat→Nat) (ve:Value) (Ap:Option Addr) (cp:Nat) (L:List Int) (Ac:Option Addr) (cc:Nat) (CL:List (Int×Int)) (b m:Nat) (w:World) (hI:InO D n L) (hM:aW w A0 cap n D A C) (hP:aZ w Ap cp L) (hC:dx w Ac cc CL) (hCL:CL.length=prodN D n) (hgd:oW CL) (hb:byTo D L n=(b:Int)) (hm:(L.getD b 0).toNat=m) (hR:dI D n) (hf:((D b).mem m).formula.size≠0) :
  Rt 29 #[.agg #[.slice A0 n cap],ve,.slice Ap L.length cp,.slice Ac CL.length cc] w (.agg #[.int .i64 (ew (D b) (fun z=>CL.getD (numI D (L.set b z) n).toNat noC) m).1,.int .i64 (ew (D b) (fun z=>CL.getD (numI D (L.set b z) n).toNat noC) m).2]):=by
 obtain ⟨hn1,hn4,hp3,hd⟩:=au hI.right;have x:b<n:=by
  rcases by_in D L n with h | ⟨b',h1,o⟩ <;> omega
 obtain ⟨hd1,hd12⟩:=hd b x;have hdk:=(eY hI.right).2 b x;have hp0:=hI.lo b x;have hp1:=hI.hi b x;have hmn:m<(D b).n:=by omega
 have hLb:L.getD b 0=(m:Int):=by omega
 have hl:=hI.len;obtain ⟨W,hW⟩:=az ((w.alloc (.cells #[.slice A0 n cap] 24)).alloc (.cells #[.int .i64 0,.int .i64 0] 52));have hBW:Bl w W:=by rw [←hW];go_grown
 have hk1:W.heap[w.heap.size+1]?=some (.cells #[.int .i64 0,.int .i64 0] 52 (0,0)):=by rw [←hW];exact kr _ _ _
 have hk0:W.heap[w.heap.size]?=some (.cells #[.slice A0 n cap] 24 (0,0)):=by rw [←hW];exact qi _ _ _
 have d0:W.cell? ⟨w.heap.size,0,none⟩=some (.slice A0 n cap):=by simp [World.cell?,hk0]
 have hsz:w.heap.size<W.heap.size:=(zY hk0).1;have K0:w.heap.size+1<W.heap.size:=(zY hk1).1;have hby:=nR A0 cap n D A C Ap cp L W hI (hM.later hBW) (hP.later hBW);rw [hb] at hby;have HB0:=aa hBW;have HK:Hid (W.heap[w.heap.size]?=some (.cells #[.slice A0 n cap] 24 (0,0))∧W.heap[w.heap.size+1]?=some (.cells #[.int .i64 0,.int .i64 0] 52 (0,0))):=⟨hk0,hk1⟩;have HM:=aa hM;have HP:=aa hP;have HC:=aa hC;have HI:=aa hI;have HSg:Hid (Sg (D b).mem (D b).n):=Sg.of hdk;have HTr:Hid (Tr (D b).mem (D b).n):=Tr.of hdk;have HCL:=aa hCL;have HGd:=aa hgd;obtain ⟨f,U⟩:∃ f:Int→Int×Int,f=fun z=>CL.getD (numI D (L.set b z) n).toNat noC:=⟨_,rfl⟩
 have HFe:Hid (∀ z,f z=CL.getD (numI D (L.set b z) n).toNat noC):=fun z=>by rw [U]
 rw [←U];obtain ⟨hdz,hmz,-,-⟩:=bJ (hR b x);have hme:=hmz m hmn;have hpe:=fA hf hme;have hfe:=dN hpe;have h100:=gS ((aI hdz).2.2.2 m hmn);have HFm:Hid ((ay (D b)).2=0∧mErr (D b) m=0∧((D b).mem m).formula.size≠0):=⟨hdz,hme,hf⟩;obtain ⟨l,hle⟩:=az (bI ((D b).mem m).formula);have HLe:=aa hle;rw [hle] at hfe;have HRd:Hid (∀ w',Calls Tryz.prog 60 #[.string ((D b).mem m).formula] w' fun e w''=>(∃ A c,e=.returned (.tuple #[.slice A l.length c,.int .i64 (jx ((D b).mem m).formula:Int),.int .i64 0])∧gt w'' A c l)∧Bl w' w''):=fun w'=>by
  have h:=rM ((D b).mem m).formula w' h100;rw [hpe,hle] at h;exact h
 have HFe2:=aa hfe;have hf':((D b).mem m).formula.toList.isEmpty=false:=by rw [aU];simpa using hf
 rw [hl] at hby ⊢;obtain ⟨N,hN⟩:=az CL.length;have HN:=aa hN;rw [hN];have hN3:N≤3000:=by omega
 have hbI:(b:Int)<(n:Int):=by omega
 have hb0:decide ((b:Int)<0)=false:=decide_eq_false (by omega)
 have hnI:(n:Int)≤4:=by omega
 have hmI:(m:Int)<((D b).n:Int):=by omega
 have hdI:((D b).n:Int)≤12:=by omega
 have hNI:(N:Int)≤3000:=by omega
 clear hI hM hP hC hCL hgd hb hm hf U hBW hR hdz hmz hme hpe hfe h100 hle hk0 hk1 hdk hd hN hp0 hp1
 go_enter Tryz.func29,Tryz.ntmps29
 go_wp2_with fail;refine hby.mono ?_;rintro e w1 ⟨rfl,p⟩;have HB1:=aa p;have hB1:=ae HB0.out p;obtain ⟨hcap,B | ⟨bo,oo,rfl,Q⟩⟩:=HM.out.later hB1
 ·omega
 have hcapI:(n:Int)≤(cap:Int):=by omega
 obtain ⟨q0,q1,q2,q3⟩:=Q.2 b x;obtain ⟨-,B | ⟨bm,om,hAm,hMm⟩⟩:=q3
 ·omega
 rw [hAm] at q2;obtain ⟨hcp,B | ⟨bp,op,rfl,hbp,T⟩⟩:=HP.out
 ·rw [B] at hl;simp at hl;omega
 have hcpI:(n:Int)≤(cp:Int):=by omega
 have HPc:Hid (∀ w',Bl w w'→w'.cell? ⟨bp,op+b,none⟩=some (.int .i64 m)∧bp<w'.heap.size):=fun w' hB=>⟨by rw [←hLb];exact aC hB hbp (T b (by omega)),zW hbp hB.size⟩
 have cw1:=aC p hsz d0;have hsw1:w.heap.size<w1.heap.size:=zW hsz p.size;have hbo:bo<w1.heap.size:=Q.1;have HMm:Hid (∀ w',Bl w w'→b8 w' bm om (D b).n (D b).mem):=fun w' hB=>by
  obtain ⟨-,B | ⟨b1,o1,h1,o⟩⟩:=HM.out.later hB
  ·omega
  cases h1;obtain ⟨-,B | ⟨b2,o2,h3,h4⟩⟩:=(o.2 b x).2.2.2
  ·omega
  rw [hAm] at h3;cases h3;exact h4
 obtain ⟨y1,F⟩:∃ y,w1.alloc (.cells #[.string (D b).name,.int .i64 (D b).solve,.slice (some ⟨bm,om,none⟩) (D b).n (C b)] 70)=y:=⟨_,rfl⟩;have H:Bl w1 y1:=by rw [←F];go_grown
 have HT1:Hid (se w (some ⟨bo,oo,none⟩) cap n w1.heap.size (D b) (some ⟨bm,om,none⟩) (C b) y1):=by
  have B:=(H.block _ hsw1).trans ((p.block _ hsz).trans HK.out.1);have o:y1.heap[w1.heap.size]?=some (.cells #[.string (D b).name,.int .i64 (D b).solve,.slice (some ⟨bm,om,none⟩) (D b).n (C b)] 70 (0,0)):=by rw [←F];exact heap_alloc_new ..
  exact ⟨ae hB1 H,⟨(zY B).1,by simp [World.cell?,B]⟩,(H.block _ (zW K0 p.size)).trans ((p.block _ K0).trans HK.out.2),(zY o).1,by simp [World.cell?,o],by simp [World.cell?,o],by simp [World.cell?,o]⟩
 obtain ⟨e1,e2,e3,e4⟩:=HT1.out.2.2.2;obtain ⟨pc,hbpy⟩:=HPc.out y1 HT1.out.1;have hMy:=HMm.out y1 HT1.out.1;obtain ⟨-,-,-,m3⟩:=hMy.2 m hmn;have hbmy:bm<y1.heap.size:=hMy.1;have hsb1:w.heap.size+1<w1.heap.size:=zW K0 p.size;clear p hB1 Q hMm hAm T hby d0 H hMy;go_wp2_with fail
 go_quiet (fail)
 generalize hwj:y1.drewN nq=wj;have hBj:Bl y1 wj:=by rw [←hwj];exact ac (zS) _
 have HTj:=aa (HT1.out.later hBj);obtain ⟨e1',e2',e3',e4'⟩:=HTj.out.2.2.2;obtain ⟨pc',hbpy'⟩:=HPc.out wj HTj.out.1;have hMj:=HMm.out wj HTj.out.1;obtain ⟨-,-,-,m3'⟩:=hMj.2 m hmn;have hbmj:bm<wj.heap.size:=hMj.1;obtain ⟨pa,hpa⟩:∃ pa:Int,(jx ((D b).mem m).formula:Int)=pa:=⟨_,rfl⟩;rw [hpa] at HRd;obtain ⟨NL,hNL⟩:=az l.length;have K:=aa hNL;rw [hNL] at HRd;have HKj:Hid (∀ w',Bl wj w'→Bl wj w'∧w'.cell? ⟨w1.heap.size,2,none⟩=some (.slice (some ⟨bm,om,none⟩) (D b).n (C b))∧w'.cell? ⟨bp,op+b,none⟩=some (.int .i64 m)∧w'.cell? ⟨bm,om+m*4+3,none⟩=some (.string ((D b).mem m).formula)):=fun w' h=>⟨h,aC h e1' e4',aC h hbpy' pc',aC h hbmj m3'⟩
 clear hBj e1 e2 e3 e4 pc m3 hbpy q0 q1 q2 cw1 F hMj hpa hNL;go_wp2_with fail
 go_cut [11,12,13] from 45 (fun s11 s12 s13 wx=>(∃ A c,s11=.slice A NL c∧s12=.int .i64 pa∧s13=.int .i64 0∧gt wx A c l)∧Bl wj wx)
 case first =>
  go_region_held3 (fun w'=>Bl wj w'∧w'.cell? ⟨w1.heap.size,2,none⟩=some (.slice (some ⟨bm,om,none⟩) (D b).n (C b))∧w'.cell? ⟨bp,op+b,none⟩=some (.int .i64 m)∧w'.cell? ⟨bm,om+m*4+3,none⟩=some (.string ((D b).mem m).formula))
   ((refine HKj.out _ ?_;go_grown;done))
   (first | (go_at_call 60;refine (HRd.out _).mono ?_;rintro e w3 ⟨⟨A3,c3,rfl,hI3⟩,hb3⟩;have hB3:=ae (W0:=wj) (by go_grown) hb3;have hy3:=hB3.size;clear hb3))
  all_goals go_wp2_with fail
  all_goals go_meet
  all_goals exact ⟨⟨A3,c3,rfl,rfl,rfl,hI3⟩,hB3⟩
 case rest =>
 obtain ⟨⟨Al,cl,rfl,rfl,rfl,hI4⟩,hB4⟩:=hcut;obtain ⟨w4,rfl⟩:∃ w4:World,w4=wc:=⟨_,rfl⟩;have HT4:=aa (HTj.out.later hB4);obtain ⟨hl0,Y,-,-⟩:=dD HFe2.out;obtain ⟨-,-,B | ⟨bl,ol,rfl,hNd⟩⟩:=hI4
 ·rw [B] at hl0;simp at hl0
 have hrf:=Dz bl ol cl l w4 Y hNd;have HNd:=aa hNd;rw [K.out] at hrf hl0 Y;clear hB4 hNd e1' e2' e3' e4' pc' m3' hf';go_wp2_with fail;refine hrf.mono ?_;rintro e w5 ⟨⟨v5,R,rfl,hO5,S⟩,hb5⟩;have HT5:=aa (HT4.out.later hb5);have HNd5:=aa (HNd.out.later hb5);have hRl:R.length≤30:=by have:=S.1;omega
 rw [←K.out] at S;have HRt:=aa S;have HNm:Hid (∃ A c,v5=.slice A R.length c∧D1 w5 A c R):=by
  rcases row_str hO5 with ⟨rfl,rfl⟩ | ⟨g,c,rfl,-,o,h3,h4,h5⟩
  ·exact ⟨none,0,rfl,by simp,by simp,by omega,Or.inl rfl⟩
  exact ⟨_,c,rfl,h3,by omega,h4,Or.inr ⟨g,0,rfl,o,fun j hj=>by rw [Nat.zero_add];exact h5 j hj⟩⟩
 obtain ⟨An,cn,rfl,hNm⟩:=HNm.out;have HNm5:=aa hNm;obtain ⟨NR,hNR⟩:=az R.length;have M:=aa hNR;rw [hNR] at hRl ⊢;have hNRI:(NR:Int)≤30:=by omega
 have HIn:Hid (∀ s∈R,∃ j:Nat,whL (D b) s.data.toList=(j:Int)∧j<(D b).n):=fun s hs=>by
  obtain ⟨i,h1,o,h3⟩:=(S.2 s).1 hs;have hnm:s.data.toList∈kn (D b) m:=by
   unfold kn;rw [HLe.out,←h3];refine nO ?_ o;rw [zZ,zX h1];exact List.getElem_mem h1
  have hz:=eo ((fB HFm.out.1 HFm.out.2.2 HFm.out.2.1 _).2 ⟨_,hnm,rfl⟩);exact ⟨(whL (D b) s.data.toList).toNat,by omega,by omega⟩
 obtain ⟨G,hG⟩:∃ G:ByteArray→Int×Int,G=fun s=>f (whL (D b) s.data.toList):=⟨_,rfl⟩
 have HG:Hid (∀ s,G s=f (whL (D b) s.data.toList)):=fun s=>by rw [hG]
 obtain ⟨i0,hi0,hz0,hz1,hz2⟩:=info_parts Tryz.infoCe;clear hrf hO5 S hNm hb5 hNR hG HNm;go_wp2_with fail
 go_loopg [15,16] NR (fun gg s15 s16 wr => ∃ (k:Nat) (u:Value),k≤NR∧gg=NR-k∧s16=.int .i64 k∧u=s15∧Hid (wr.ownsRow w5.heap.size 52 2 u k (bL ((R.take k).map G)))∧Hid (Bl w5 wr))
 case atStart=>exact ⟨0,_,zU,rfl,rfl,rfl,World.ownsRow_nil _ _ _ _,zS⟩
 case round =>
  obtain ⟨wi,rfl⟩:∃ wi:World,wi=wr:=⟨_,rfl⟩;obtain ⟨k,u,hk,rfl,rfl,rfl,HO,J⟩:=hrel;have d:=aa (HT5.out.later J.out)
  by_cases hlt:k<NR
  ·have hki:(k:Int)<(NR:Int):=by omega
   have E:k<R.length:=by rw [M.out];exact hlt
   obtain ⟨hcn,-,-,B | ⟨bs,os,rfl,hbs,hcs⟩⟩:=HNm5.out.later J.out
   ·rw [B] at E;simp at E
   have cs:=hcs k E;rw [M.out] at hcn;have hcnI:(NR:Int)≤(cn:Int):=by omega
   have hmem:R.getD k jj∈R:=by rw [zZ,zX E];exact List.getElem_mem E
   obtain ⟨j,hj,hjn⟩:=HIn.out _ hmem;obtain ⟨y,F,hy2,hy3⟩:=AU HI.out x hjn;have hyN:y<N:=by have:=HN.out;have:=HCL.out;omega
   have hyi:(y:Int)<(N:Int):=by omega
   have hGk:G (R.getD k jj)=CL.getD y noC:=by rw [HG.out,hj,HFe.out,F];rfl
   have HSn:Hid ((R.take (k+1)).map G=(R.take k).map G ++ [CL.getD y noC]):=by
    show _=_
    rw [List.take_succ_eq_append_getElem E,List.map_append,←hGk,zZ,zX E]
    rfl
   obtain ⟨hcL,-,B | ⟨bc,oc,rfl,P⟩⟩:=HC.out.later d.out.1
   ·have:=HN.out;rw [B] at this;simp at this;omega
   obtain ⟨g1,g2⟩:=P.2 y (by rw [HN.out];exact hyN)
   have hbci:bc<wi.heap.size:=P.1;rw [HN.out] at hcL;have hcLI:(N:Int)≤(cc:Int):=by omega
   obtain ⟨s,hs⟩:=az (R.getD k jj);rw [hs] at cs hj;have HWh:Hid (∀ w',Bl wi w'→Rt 63 #[.agg #[.string (D b).name,.int .i64 (D b).solve,.slice (some ⟨bm,om,none⟩) (D b).n (C b)],.string s] w' (.int .i64 j)):=fun w' K2=>by
    have Q:=HMm.out w' (ae d.out.1 K2);have h:=mP (D b) (some ⟨bm,om,none⟩) (C b) s w' hd12 ⟨by
     obtain ⟨-,B | ⟨b1,o1,h1,o⟩⟩:=HM.out
     ·omega
     exact ((o.2 b x).2.2.2).1,Or.inr ⟨bm,om,rfl,Q⟩⟩
    rw [lZ,hj] at h;exact h
   have O:Hid (∀ w',Bl wi w'→Calls Tryz.prog 62 #[.slice (some ⟨bp,op,none⟩) n cp,.int .i64 b,.int .i64 j] w' fun e w''=>(∃ A' c',e=.returned (.slice A' n c')∧aZ w'' A' c' (L.set b (j:Int)))∧Bl w' w''):=fun w' K2=>by
    have h:=mJ (some ⟨bp,op,none⟩) cp L b (j:Int) w' (by omega) (by omega) (HP.out.later (ae d.out.1 K2))
    rw [hl] at h;exact h
   have HNum:Hid (∀ w' A' c',Bl wi w'→aZ w' A' c' (L.set b (j:Int))→Rt 8 #[.agg #[.slice (some ⟨bo,oo,none⟩) n cap],.slice A' n c'] w' (.int .i64 y)):=fun w' A' c' K2 hp=>by
    have h:=fP (some ⟨bo,oo,none⟩) cap n D A C A' c' (L.set b (j:Int)) w' hy3 (HM.out.later (ae d.out.1 K2)) hp;rw [F,List.length_set,hl] at h;exact h
   obtain ⟨⟨v1,v2⟩,hv⟩:∃ v,CL.getD y noC=v:=⟨_,rfl⟩;rw [hv] at g1 g2 HSn;simp only at g1 g2;obtain ⟨k1,k2,k3,k4⟩:=d.out.2.2.2;obtain ⟨hswi,cw⟩:=d.out.2.1;have HKp:Hid (∀ w',Bl wi w'→Bl wi w'∧w'.cell? ⟨w.heap.size,0,none⟩=some (.slice (some ⟨bo,oo,none⟩) n cap)∧w'.cell? ⟨w1.heap.size,0,none⟩=some (.string (D b).name)∧w'.cell? ⟨w1.heap.size,1,none⟩=some (.int .i64 (D b).solve)∧w'.cell? ⟨w1.heap.size,2,none⟩=some (.slice (some ⟨bm,om,none⟩) (D b).n (C b))∧w'.cell? ⟨bs,os+k,none⟩=some (.string s)∧w'.cell? ⟨bc,oc+y*2,none⟩=some (.int .i64 v1)∧w'.cell? ⟨bc,oc+y*2+1,none⟩=some (.int .i64 v2)):=fun w' h=>⟨h,aC h hswi cw,aC h k1 k2,aC h k1 k3,aC h k1 k4,aC h hbs cs,aC h hbci g1,aC h hbci g2⟩
   clear hmem hj F hy2 hy3 hGk P hcs hs hv;go_wp2_with fail
   go_cut [17] from 61 to 84 (fun s17 wx => ∃ q,s17=.pointer (some ⟨q,0,none⟩)∧At q v1 v2 wx∧Bl wi wx)
   case first =>
    go_region_held3 (fun w'=>Bl wi w'∧w'.cell? ⟨w.heap.size,0,none⟩=some (.slice (some ⟨bo,oo,none⟩) n cap)∧w'.cell? ⟨w1.heap.size,0,none⟩=some (.string (D b).name)∧w'.cell? ⟨w1.heap.size,1,none⟩=some (.int .i64 (D b).solve)∧w'.cell? ⟨w1.heap.size,2,none⟩=some (.slice (some ⟨bm,om,none⟩) (D b).n (C b))∧w'.cell? ⟨bs,os+k,none⟩=some (.string s)∧w'.cell? ⟨bc,oc+y*2,none⟩=some (.int .i64 v1)∧w'.cell? ⟨bc,oc+y*2+1,none⟩=some (.int .i64 v2))
     ((refine HKp.out _ ?_;go_grown;done))
     (first | (go_at_call 63;refine (HWh.out _ (by go_grown)).mono ?_;rintro e w6 ⟨rfl,hb6⟩;have hN6:=ae (W0:=wi) (by go_grown) hb6;have hy6:=hN6.size;obtain ⟨hc6,hf6⟩:=dk hb6;have hz6:=dp hb6;(try simp [Nat.add_one_le_iff] at hz6);clear hb6) | (go_at_call 62;refine (O.out _ (by go_grown)).mono ?_;rintro e w7 ⟨⟨A7,c7,rfl,hP7⟩,hb7⟩;have hN7:=ae (W0:=wi) (by go_grown) hb7;have HP7:=aa hP7;have hy7:=hN7.size;obtain ⟨hc7,hf7⟩:=dk hb7;have hz7:=dp hb7;(try simp [Nat.add_one_le_iff] at hz7);(try have ha7:wi.heap.size<w7.heap.size:=by omega);clear hb7 hP7) | (go_at_call 8;refine (HNum.out _ _ _ (by go_grown) (HP7.out.later (by go_grown))).mono ?_;rintro e w8 ⟨rfl,hb8⟩;have hN8:=ae (W0:=wi) (by go_grown) hb8;have hy8:=hN8.size;obtain ⟨hc8,hf8⟩:=dk hb8;have hz8:=dp hb8;(try simp [Nat.add_one_le_iff] at hz8);(try have ha8:wi.heap.size<w8.heap.size:=by omega);(try have hd8:w6.heap.size<w8.heap.size:=by omega);clear hb8))
    all_goals go_wp2_with fail
    all_goals go_meet
    all_goals
     refine ⟨_,rfl,?_,by go_grown⟩
     first
      | exact At.new _ _ _ _
      | (refine At.set (u:=.int .i64 0) (v:=.int .i64 0) (by omega) ?_ ?_ <;> (rw [hc8 _ _ (by simp)];simp;done))
      | (refine At.set (u:=.int .i64 0) (v:=.int .i64 0) (by omega) ?_ ?_ <;> (rw [hc8 _ _ (by omega),hc7 _ _ (by simp)];simp;done))
      | (refine At.set (u:=.int .i64 0) (v:=.int .i64 0) (by omega) ?_ ?_ <;> (rw [hc8 _ _ (by omega),hc7 _ _ (by omega),hc6 _ _ (by simp)];simp;done))
   case rest =>
   obtain ⟨q,rfl,⟨hql,p0,p1⟩,hBc⟩:=hcut;obtain ⟨w9,rfl⟩:∃ w9:World,w9=wc:=⟨_,rfl⟩;have HB9:=aa (ae J.out hBc);have HO9:Hid (w9.ownsRow w5.heap.size 52 2 u k (bL ((R.take k).map G))):=an HO.out hBc;have hsz9:=HB9.out.size;clear hBc cs g1 g2 k1 k2 k3 k4 cw HKp HWh O HNum
   go_wp2_with (at_builtin;refine wpList_append_own _ rfl _ _ 45 rfl w5.heap.size 52 i0 (.agg #[.int .i64 0,.int .i64 0]) 2 16 Tryz.underlying45 hi0 hz0 hz1 hz2 rfl (by decide) _ _ _ rfl (HO9.out.alloc _) ⟨w9.heap.size,0,none⟩ 1 1 [.int .i64 v1,.int .i64 v2] rfl rfl ?qe2 ?qe3 ?qe4 ?qe5 ?qe6 ?_)
   case qe2 =>
    intro j t hj;have hadd:(⟨w9.heap.size,0,none⟩:Addr).add j=⟨w9.heap.size,j,none⟩:=by unfold Addr.add;split <;> simp_all
    rw [hadd,Lib.cell_of_heap (heap_alloc_new w9 (.cells #[.int .i64 v1,.int .i64 v2] 52))]
    simpa using hj
   case qe3=>intro t ht;simp at ht;rcases ht with rfl | rfl <;> rfl
   case qe4=>simp only [maxLen];omega
   case qe5=>omega
   case qe6=>simp;omega
   intro v' wz u9 X hnil;have HBz:Hid (Bl w5 wz):=bD HB9.out HO9.out X;have HOz:Hid (wz.ownsRow w5.heap.size 52 2 v' (k+1) (bL ((R.take (k+1)).map G))):=by
    show World.ownsRow ..
    rw [HSn.out,cellsC_append,List.map_take];exact u9
   clear u9 X hnil p0 p1;go_wp2_with fail
   go_roundg (NR-(k+1))
   case measure=>omega
   case rel=>exact ⟨k+1,_,by omega,rfl,by go_num,rfl,HOz,HBz⟩
  have hke:k=NR:=by omega
  subst hke;have HCx:Hid (∃ A c,u=.slice A k c∧dx wi A c (R.map G)):=by
   have h:=HO.out;rw [List.take_of_length_le (by rw [M.out];exact zT)] at h
   have hlen:(R.map G).length=k:=by rw [List.length_map];exact M.out
   rw [←hlen] at h;obtain ⟨A',c',e,hv⟩:=BJ h;rw [hlen] at e;exact ⟨A',c',e,hv⟩
  obtain ⟨Ar,cr,rfl,hCv⟩:=HCx.out;have a:=HFe2.out;have V:∀ c∈R.map G,pu c:=fun c hc=>by
   obtain ⟨s,hs,rfl⟩:=List.mem_map.1 hc;obtain ⟨j,hj,hjn⟩:=HIn.out s hs;rw [HG.out,hj,HFe.out];exact AA HGd.out _
  have Z:missT R (aF l (l.length-1))=false:=by
   unfold missT;rw [List.any_eq_false];intro s hs;have hsR:s∈R:=(HRt.out.2 s).2 ((jz a s).1 hs)
   rcases where_cases R s with ⟨-,o⟩ | ⟨i,h1,-,-⟩
   ·obtain ⟨i,hi,e⟩:=List.getElem_of_mem hsR
    exact absurd (by rw [zZ,zX hi];exact e) (o i hi)
   rw [h1];simp
  have hval:eB R (R.map G) (aF l (l.length-1))=ew (D b) f m:=by
   unfold ew;rw [if_neg HFm.out.2.2];have htre:zk (D b) m=aF l (l.length-1):=by unfold zk;rw [HLe.out]
   rw [htre];refine jf _ _ _ _ fun s hs=>?_
   have hsR:s∈R:=(HRt.out.2 s).2 ((jz a s).1 hs)
   rcases where_cases R s with ⟨-,o⟩ | ⟨i,h1,o,h3⟩
   ·obtain ⟨i,hi,e⟩:=List.getElem_of_mem hsR
    exact absurd (by rw [zZ,zX hi];exact e) (o i hi)
   unfold refC;rw [h1,Int.toNat_natCast,zZ,List.getElem?_map,zX o];rw [zZ,zX o] at h3;simp only [Option.map_some,Option.getD_some] at h3 ⊢;rw [h3,HG.out]
  have I:=vM bl ol cl l (dD a).2.2.1 (by rw [K.out];exact Y) An cn R Ar cr (R.map G) (by rw [List.length_map]) V (l.length-1) (by rw [K.out];omega) wi (HNd5.out.later J.out) (HNm5.out.later J.out) hCv Z
  rw [hval,List.length_map,M.out,K.out] at I;obtain ⟨⟨ra,rb⟩,hRe⟩:∃ r,ew (D b) f m=r:=⟨_,rfl⟩;have HRe:=aa hRe;rw [hRe] at I;simp only at I;have hNLi:((NL-1:Nat):Int)=(NL:Int)-1:=by omega
  rw [hNLi] at I;have hl30I:(NL:Int)≤30:=by omega
  have hl0I:1≤(NL:Int):=by omega
  obtain ⟨z0,z1,z2,z3⟩:=cF d.out.2.2.1;have hs1i:w.heap.size+1<wi.heap.size:=(zY d.out.2.2.1).1;clear hCv a V Z hval hRe hNLi HCx;go_wp2_with fail;refine I.mono ?_;rintro e w9 ⟨rfl,hb9⟩;have HB9:=aa (ae d.out.1 hb9);obtain ⟨e0,e1,g0,g1⟩:=cF ((hb9.block (w.heap.size+1) hs1i).trans d.out.2.2.1);have hs19:w.heap.size+1<w9.heap.size:=zW hs1i hb9.size;clear hb9 I z0 z1 z2 z3;go_wp2_with fail;refine bodyPost_ret (v:=.agg #[.int .i64 ra,.int .i64 rb]) (by simp [results,Tryz.results29,go_sem,e0,e1]) rfl ⟨by rw [HRe.out],?_⟩
  exact (HB9.out.setCell (Nat.le_succ _) _).setCell (Nat.le_succ _) _
end Go.Proofs.YtohgnbgamfepoaaGreatDoor
