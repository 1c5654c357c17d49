/- What the document's ow -/
import Derived.Test.YtompdcaikmekkaaGreatDoorJHBQ
import Derived.Test.YtompdcaikmekkaaGreatDoorJHBT
namespace Go.Proofs.YtompdcaikmekkaaGreatDoor
open ChangeShapes WideShapes ChangeAt RowKit
set_option maxRecDepth 99999
set_option maxHeartbeats 0
theorem Br {w:World} {base:Nat} {v:Value} {L:List (Int×Int)} (h:w.ownsRow base 52 2 v L.length (bK L)):∃ A c,v=.slice A L.length c∧dw w A c L:=by
 by_cases k:0<L.length
 ·obtain ⟨g,c,b,-,d,e,f⟩:=ob h k
  exact ⟨_,c,b,d,e,Or.inr ⟨g,0,rfl,f.celAt⟩⟩
 have j:L=[]:=List.eq_nil_of_length_eq_zero (by omega)
 subst j
 rcases h.2 with ⟨rfl,-⟩ | ⟨g,cap,a,rfl,-,-,-,i,-⟩
 ·exact ⟨none,0,rfl,dw.nil _ _ _ (by omega)⟩
 exact ⟨_,cap,rfl,dw.nil _ _ _ (by unfold maxLen at i;omega)⟩
theorem yP (A0:Option Addr) (cap n:Nat) (D:Nat→Dm) (A:Nat→Option Addr) (C:Nat→Nat) (ve:Value) (Ap:Option Addr) (cp:Nat) (L:List Int) (Ac:Option Addr) (cc:Nat) (CL:List (Int×Int)) (b m:Nat) (w:World) (hI:InO D n L) (hM:aY w A0 cap n D A C) (hP:a7 w Ap cp L) (hC:dw w Ac cc CL) (hCL:CL.length=prodN D n) (hgd:oO CL) (hb:byTo D L n=(b:Int)) (hm:(L.getD b 0).toNat=m) (hR:dH D n) (hf:((D b).mem m).formula.size≠0) :
  Rt 29 #[.agg #[.slice A0 n cap],ve,.slice Ap L.length cp,.slice Ac CL.length cc] w (.agg #[.int .i64 (eu (D b) (fun z=>CL.getD (numI D (L.set b z) n).toNat noC) m).1,.int .i64 (eu (D b) (fun z=>CL.getD (numI D (L.set b z) n).toNat noC) m).2]):=by
 obtain ⟨hn1,hn4,hp3,hd⟩:=au hI.right;have x:b<n:=by
  rcases by_in D L n with h | ⟨b',h1,o⟩ <;> omega
 obtain ⟨hd1,hd12⟩:=hd b x;have hdk:=(f9 hI.right).2 b x;have hp0:=hI.lo b x;have hp1:=hI.hi b x;have hmn:m<(D b).n:=by omega
 have hLb:L.getD b 0=(m:Int):=by omega
 have hl:=hI.len;obtain ⟨W,hW⟩:=aA ((w.alloc (.cells #[.slice A0 n cap] 24)).alloc (.cells #[.int .i64 0,.int .i64 0] 52));have hBW:Bl w W:=by rw [←hW];go_grown
 have hk1:W.heap[w.heap.size+1]?=some (.cells #[.int .i64 0,.int .i64 0] 52 (0,0)):=by rw [←hW];exact kj _ _ _
 have hk0:W.heap[w.heap.size]?=some (.cells #[.slice A0 n cap] 24 (0,0)):=by rw [←hW];exact qa _ _ _
 have d0:W.cell? ⟨w.heap.size,0,none⟩=some (.slice A0 n cap):=by simp [World.cell?,hk0]
 have hsz:w.heap.size<W.heap.size:=(zY hk0).1;have KH:w.heap.size+1<W.heap.size:=(zY hk1).1;have hby:=nK A0 cap n D A C Ap cp L W hI (hM.later hBW) (hP.later hBW);rw [hb] at hby;have HB0:=aa hBW;have HK:Hid (W.heap[w.heap.size]?=some (.cells #[.slice A0 n cap] 24 (0,0))∧W.heap[w.heap.size+1]?=some (.cells #[.int .i64 0,.int .i64 0] 52 (0,0))):=⟨hk0,hk1⟩;have HM:=aa hM;have HP:=aa hP;have HC:=aa hC;have HI:=aa hI;have HSg:Hid (Sg (D b).mem (D b).n):=Sg.of hdk;have HTr:Hid (Tr (D b).mem (D b).n):=Tr.of hdk;have HCL:=aa hCL;have HGd:=aa hgd;obtain ⟨f,U⟩:∃ f:Int→Int×Int,f=fun z=>CL.getD (numI D (L.set b z) n).toNat noC:=⟨_,rfl⟩
 have HFe:Hid (∀ z,f z=CL.getD (numI D (L.set b z) n).toNat noC):=fun z=>by rw [U]
 rw [←U];obtain ⟨hdz,hmz,-,-⟩:=bH (hR b x);have hme:=hmz m hmn;have hpe:=fw hf hme;have hfe:=dL hpe;have h100:=gO ((aL hdz).2.2.2 m hmn);have HFm:Hid ((az (D b)).2=0∧mErr (D b) m=0∧((D b).mem m).formula.size≠0):=⟨hdz,hme,hf⟩;obtain ⟨l,hle⟩:=aA (bG ((D b).mem m).formula);have HLe:=aa hle;rw [hle] at hfe;have HRd:Hid (∀ w',Calls Tryz.prog 59 #[.string ((D b).mem m).formula] w' fun e w''=>(∃ A c,e=.returned (.tuple #[.slice A l.length c,.int .i64 (jt ((D b).mem m).formula:Int),.int .i64 0])∧gp w'' A c l)∧Bl w' w''):=fun w'=>by
  have h:=rG ((D b).mem m).formula w' h100;rw [hpe,hle] at h;exact h
 have HFe2:=aa hfe;have hf':((D b).mem m).formula.toList.isEmpty=false:=by rw [aV];simpa using hf
 rw [hl] at hby ⊢;obtain ⟨N,hN⟩:=aA CL.length;have HN:=aa hN;rw [hN];have hN3:N≤3000:=by omega
 have hbI:(b:Int)<(n:Int):=by omega
 have hb0:decide ((b:Int)<0)=false:=decide_eq_false (by omega)
 have hnI:(n:Int)≤4:=by omega
 have hmI:(m:Int)<((D b).n:Int):=by omega
 have hdI:((D b).n:Int)≤12:=by omega
 have hNI:(N:Int)≤3000:=by omega
 clear hI hM hP hC hCL hgd hb hm hf U hBW hR hdz hmz hme hpe hfe h100 hle hk0 hk1 hdk hd hN hp0 hp1
 go_enter Tryz.func29,Tryz.ntmps29
 go_wp2_with fail;refine hby.mono ?_;rintro e w1 ⟨rfl,p⟩;have HB1:=aa p;have hB1:=ae HB0.out p;obtain ⟨hcap,B | ⟨bo,oo,rfl,Q⟩⟩:=HM.out.later hB1
 ·omega
 have hcapI:(n:Int)≤(cap:Int):=by omega
 obtain ⟨q0,q1,q2,q3⟩:=Q.2 b x;obtain ⟨-,B | ⟨bm,om,hAm,hMm⟩⟩:=q3
 ·omega
 rw [hAm] at q2;obtain ⟨hcp,B | ⟨bp,op,rfl,hbp,T⟩⟩:=HP.out
 ·rw [B] at hl;simp at hl;omega
 have hcpI:(n:Int)≤(cp:Int):=by omega
 have HPc:Hid (∀ w',Bl w w'→w'.cell? ⟨bp,op+b,none⟩=some (.int .i64 m)∧bp<w'.heap.size):=fun w' hB=>⟨by rw [←hLb];exact aD hB hbp (T b (by omega)),zW hbp hB.size⟩
 have cw1:=aD p hsz d0;have hsw1:w.heap.size<w1.heap.size:=zW hsz p.size;have hbo:bo<w1.heap.size:=Q.1;have HMm:Hid (∀ w',Bl w w'→b7 w' bm om (D b).n (D b).mem):=fun w' hB=>by
  obtain ⟨-,B | ⟨b1,o1,h1,o⟩⟩:=HM.out.later hB
  ·omega
  cases h1;obtain ⟨-,B | ⟨b2,o2,h3,h4⟩⟩:=(o.2 b x).2.2.2
  ·omega
  rw [hAm] at h3;cases h3;exact h4
 obtain ⟨y1,F⟩:∃ y,w1.alloc (.cells #[.string (D b).name,.int .i64 (D b).solve,.slice (some ⟨bm,om,none⟩) (D b).n (C b)] 70)=y:=⟨_,rfl⟩;have H:Bl w1 y1:=by rw [←F];go_grown
 have HT1:Hid (rW w (some ⟨bo,oo,none⟩) cap n w1.heap.size (D b) (some ⟨bm,om,none⟩) (C b) y1):=by
  have B:=(H.block _ hsw1).trans ((p.block _ hsz).trans HK.out.1);have o:y1.heap[w1.heap.size]?=some (.cells #[.string (D b).name,.int .i64 (D b).solve,.slice (some ⟨bm,om,none⟩) (D b).n (C b)] 70 (0,0)):=by rw [←F];exact heap_alloc_new ..
  exact ⟨ae hB1 H,⟨(zY B).1,by simp [World.cell?,B]⟩,(H.block _ (zW KH p.size)).trans ((p.block _ KH).trans HK.out.2),(zY o).1,by simp [World.cell?,o],by simp [World.cell?,o],by simp [World.cell?,o]⟩
 obtain ⟨e1,e2,e3,e4⟩:=HT1.out.2.2.2;obtain ⟨pc,hbpy⟩:=HPc.out y1 HT1.out.1;have hMy:=HMm.out y1 HT1.out.1;obtain ⟨-,-,-,m3⟩:=hMy.2 m hmn;have hbmy:bm<y1.heap.size:=hMy.1;have hsb1:w.heap.size+1<w1.heap.size:=zW KH p.size;clear p hB1 Q hMm hAm T hby d0 H hMy;go_wp2_with fail
 go_quiet (fail)
 generalize hwj:y1.drewN nq=wj;have hBj:Bl y1 wj:=by rw [←hwj];exact ac (zS) _
 have HTj:=aa (HT1.out.later hBj);obtain ⟨e1',e2',e3',e4'⟩:=HTj.out.2.2.2;obtain ⟨pc',hbpy'⟩:=HPc.out wj HTj.out.1;have hMj:=HMm.out wj HTj.out.1;obtain ⟨-,-,-,m3'⟩:=hMj.2 m hmn;have hbmj:bm<wj.heap.size:=hMj.1;obtain ⟨pa,hpa⟩:∃ pa:Int,(jt ((D b).mem m).formula:Int)=pa:=⟨_,rfl⟩;rw [hpa] at HRd;obtain ⟨NL,hNL⟩:=aA l.length;have K:=aa hNL;rw [hNL] at HRd;have HKj:Hid (∀ w',Bl wj w'→Bl wj w'∧w'.cell? ⟨w1.heap.size,2,none⟩=some (.slice (some ⟨bm,om,none⟩) (D b).n (C b))∧w'.cell? ⟨bp,op+b,none⟩=some (.int .i64 m)∧w'.cell? ⟨bm,om+m*4+3,none⟩=some (.string ((D b).mem m).formula)):=fun w' h=>⟨h,aD h e1' e4',aD h hbpy' pc',aD h hbmj m3'⟩
 clear hBj e1 e2 e3 e4 pc m3 hbpy q0 q1 q2 cw1 F hMj hpa hNL;go_wp2_with fail
 go_cut [11,12,13] from 45 (fun s11 s12 s13 wx=>(∃ A c,s11=.slice A NL c∧s12=.int .i64 pa∧s13=.int .i64 0∧gp wx A c l)∧Bl wj wx)
 case first =>
  go_region_held3 (fun w'=>Bl wj w'∧w'.cell? ⟨w1.heap.size,2,none⟩=some (.slice (some ⟨bm,om,none⟩) (D b).n (C b))∧w'.cell? ⟨bp,op+b,none⟩=some (.int .i64 m)∧w'.cell? ⟨bm,om+m*4+3,none⟩=some (.string ((D b).mem m).formula))
   ((refine HKj.out _ ?_;go_grown;done))
   (first | (go_at_call 59;refine (HRd.out _).mono ?_;rintro e w3 ⟨⟨A3,c3,rfl,hI3⟩,hb3⟩;have hB3:=ae (W0:=wj) (by go_grown) hb3;have hy3:=hB3.size;clear hb3))
  all_goals go_wp2_with fail
  all_goals go_meet
  all_goals exact ⟨⟨A3,c3,rfl,rfl,rfl,hI3⟩,hB3⟩
 case rest =>
 obtain ⟨⟨Al,cl,rfl,rfl,rfl,hI4⟩,hB4⟩:=hcut;obtain ⟨w4,rfl⟩:∃ w4:World,w4=wc:=⟨_,rfl⟩;have HT4:=aa (HTj.out.later hB4);obtain ⟨hl0,Y,-,-⟩:=dC HFe2.out;obtain ⟨-,-,B | ⟨bl,ol,rfl,hNd⟩⟩:=hI4
 ·rw [B] at hl0;simp at hl0
 have hrf:=Df bl ol cl l w4 Y hNd;have HNd:=aa hNd;rw [K.out] at hrf hl0 Y;clear hB4 hNd e1' e2' e3' e4' pc' m3' hf';go_wp2_with fail;refine hrf.mono ?_;rintro e w5 ⟨⟨v5,R,rfl,hO5,S⟩,hb5⟩;have HT5:=aa (HT4.out.later hb5);have HNd5:=aa (HNd.out.later hb5);have hRl:R.length≤30:=by have:=S.1;omega
 rw [←K.out] at S;have HRt:=aa S;have HNm:Hid (∃ A c,v5=.slice A R.length c∧DG w5 A c R):=by
  rcases row_str hO5 with ⟨rfl,rfl⟩ | ⟨g,c,rfl,-,o,h3,h4,h5⟩
  ·exact ⟨none,0,rfl,by simp,by simp,by omega,Or.inl rfl⟩
  exact ⟨_,c,rfl,h3,by omega,h4,Or.inr ⟨g,0,rfl,o,fun j hj=>by rw [Nat.zero_add];exact h5 j hj⟩⟩
 obtain ⟨An,cn,rfl,hNm⟩:=HNm.out;have HNm5:=aa hNm;obtain ⟨NR,hNR⟩:=aA R.length;have M:=aa hNR;rw [hNR] at hRl ⊢;have hNRI:(NR:Int)≤30:=by omega
 have HIn:Hid (∀ s∈R,∃ j:Nat,whL (D b) s.data.toList=(j:Int)∧j<(D b).n):=fun s hs=>by
  obtain ⟨i,h1,o,h3⟩:=(S.2 s).1 hs;have hnm:s.data.toList∈kf (D b) m:=by
   unfold kf;rw [HLe.out,←h3];refine nG ?_ o;rw [zZ,zX h1];exact List.getElem_mem h1
  have hz:=em ((fx HFm.out.1 HFm.out.2.2 HFm.out.2.1 _).2 ⟨_,hnm,rfl⟩);exact ⟨(whL (D b) s.data.toList).toNat,by omega,by omega⟩
 obtain ⟨G,hG⟩:∃ G:ByteArray→Int×Int,G=fun s=>f (whL (D b) s.data.toList):=⟨_,rfl⟩
 have HG:Hid (∀ s,G s=f (whL (D b) s.data.toList)):=fun s=>by rw [hG]
 obtain ⟨i0,hi0,hz0,hz1,hz2⟩:=info_parts Tryz.infoCe;clear hrf hO5 S hNm hb5 hNR hG HNm;go_wp2_with fail
 go_loopg [15,16] NR (fun gg s15 s16 wr => ∃ (k:Nat) (u:Value),k≤NR∧gg=NR-k∧s16=.int .i64 k∧u=s15∧Hid (wr.ownsRow w5.heap.size 52 2 u k (bK ((R.take k).map G)))∧Hid (Bl w5 wr))
 case atStart=>exact ⟨0,_,zU,rfl,rfl,rfl,World.ownsRow_nil _ _ _ _,zS⟩
 case round =>
  obtain ⟨wi,rfl⟩:∃ wi:World,wi=wr:=⟨_,rfl⟩;obtain ⟨k,u,hk,rfl,rfl,rfl,HO,J⟩:=hrel;have d:=aa (HT5.out.later J.out)
  by_cases hlt:k<NR
  ·have hki:(k:Int)<(NR:Int):=by omega
   have E:k<R.length:=by rw [M.out];exact hlt
   obtain ⟨hcn,-,-,B | ⟨bs,os,rfl,hbs,hcs⟩⟩:=HNm5.out.later J.out
   ·rw [B] at E;simp at E
   have cs:=hcs k E;rw [M.out] at hcn;have hcnI:(NR:Int)≤(cn:Int):=by omega
   have hmem:R.getD k jf∈R:=by rw [zZ,zX E];exact List.getElem_mem E
   obtain ⟨j,hj,hjn⟩:=HIn.out _ hmem;obtain ⟨y,F,hy2,hy3⟩:=Aw HI.out x hjn;have hyN:y<N:=by have:=HN.out;have:=HCL.out;omega
   have hyi:(y:Int)<(N:Int):=by omega
   have hGk:G (R.getD k jf)=CL.getD y noC:=by rw [HG.out,hj,HFe.out,F];rfl
   have HSn:Hid ((R.take (k+1)).map G=(R.take k).map G ++ [CL.getD y noC]):=by
    show _=_
    rw [List.take_succ_eq_append_getElem E,List.map_append,←hGk,zZ,zX E]
    rfl
   obtain ⟨hcL,-,B | ⟨bc,oc,rfl,P⟩⟩:=HC.out.later d.out.1
   ·have:=HN.out;rw [B] at this;simp at this;omega
   obtain ⟨g1,g2⟩:=P.2 y (by rw [HN.out];exact hyN)
   have hbci:bc<wi.heap.size:=P.1;rw [HN.out] at hcL;have hcLI:(N:Int)≤(cc:Int):=by omega
   obtain ⟨s,hs⟩:=aA (R.getD k jf);rw [hs] at cs hj;have HWh:Hid (∀ w',Bl wi w'→Rt 62 #[.agg #[.string (D b).name,.int .i64 (D b).solve,.slice (some ⟨bm,om,none⟩) (D b).n (C b)],.string s] w' (.int .i64 j)):=fun w' KI=>by
    have Q:=HMm.out w' (ae d.out.1 KI);have h:=mH (D b) (some ⟨bm,om,none⟩) (C b) s w' hd12 ⟨by
     obtain ⟨-,B | ⟨b1,o1,h1,o⟩⟩:=HM.out
     ·omega
     exact ((o.2 b x).2.2.2).1,Or.inr ⟨bm,om,rfl,Q⟩⟩
    rw [lK,hj] at h;exact h
   have O:Hid (∀ w',Bl wi w'→Calls Tryz.prog 61 #[.slice (some ⟨bp,op,none⟩) n cp,.int .i64 b,.int .i64 j] w' fun e w''=>(∃ A' c',e=.returned (.slice A' n c')∧a7 w'' A' c' (L.set b (j:Int)))∧Bl w' w''):=fun w' KI=>by
    have h:=mB (some ⟨bp,op,none⟩) cp L b (j:Int) w' (by omega) (by omega) (HP.out.later (ae d.out.1 KI))
    rw [hl] at h;exact h
   have HNum:Hid (∀ w' A' c',Bl wi w'→a7 w' A' c' (L.set b (j:Int))→Rt 8 #[.agg #[.slice (some ⟨bo,oo,none⟩) n cap],.slice A' n c'] w' (.int .i64 y)):=fun w' A' c' KI hp=>by
    have h:=fM (some ⟨bo,oo,none⟩) cap n D A C A' c' (L.set b (j:Int)) w' hy3 (HM.out.later (ae d.out.1 KI)) hp;rw [F,List.length_set,hl] at h;exact h
   obtain ⟨⟨v1,v2⟩,hv⟩:∃ v,CL.getD y noC=v:=⟨_,rfl⟩;rw [hv] at g1 g2 HSn;simp only at g1 g2;obtain ⟨k1,k2,k3,k4⟩:=d.out.2.2.2;obtain ⟨hswi,cw⟩:=d.out.2.1;have HKp:Hid (∀ w',Bl wi w'→Bl wi w'∧w'.cell? ⟨w.heap.size,0,none⟩=some (.slice (some ⟨bo,oo,none⟩) n cap)∧w'.cell? ⟨w1.heap.size,0,none⟩=some (.string (D b).name)∧w'.cell? ⟨w1.heap.size,1,none⟩=some (.int .i64 (D b).solve)∧w'.cell? ⟨w1.heap.size,2,none⟩=some (.slice (some ⟨bm,om,none⟩) (D b).n (C b))∧w'.cell? ⟨bs,os+k,none⟩=some (.string s)∧w'.cell? ⟨bc,oc+y*2,none⟩=some (.int .i64 v1)∧w'.cell? ⟨bc,oc+y*2+1,none⟩=some (.int .i64 v2)):=fun w' h=>⟨h,aD h hswi cw,aD h k1 k2,aD h k1 k3,aD h k1 k4,aD h hbs cs,aD h hbci g1,aD h hbci g2⟩
   clear hmem hj F hy2 hy3 hGk P hcs hs hv;go_wp2_with fail
   go_cut [17] from 61 to 84 (fun s17 wx => ∃ q,s17=.pointer (some ⟨q,0,none⟩)∧At q v1 v2 wx∧Bl wi wx)
   case first =>
    go_region_held3 (fun w'=>Bl wi w'∧w'.cell? ⟨w.heap.size,0,none⟩=some (.slice (some ⟨bo,oo,none⟩) n cap)∧w'.cell? ⟨w1.heap.size,0,none⟩=some (.string (D b).name)∧w'.cell? ⟨w1.heap.size,1,none⟩=some (.int .i64 (D b).solve)∧w'.cell? ⟨w1.heap.size,2,none⟩=some (.slice (some ⟨bm,om,none⟩) (D b).n (C b))∧w'.cell? ⟨bs,os+k,none⟩=some (.string s)∧w'.cell? ⟨bc,oc+y*2,none⟩=some (.int .i64 v1)∧w'.cell? ⟨bc,oc+y*2+1,none⟩=some (.int .i64 v2))
     ((refine HKp.out _ ?_;go_grown;done))
     (first | (go_at_call 62;refine (HWh.out _ (by go_grown)).mono ?_;rintro e w6 ⟨rfl,hb6⟩;have hN6:=ae (W0:=wi) (by go_grown) hb6;have hy6:=hN6.size;obtain ⟨hc6,hf6⟩:=dj hb6;have hz6:=dk hb6;(try simp [Nat.add_one_le_iff] at hz6);clear hb6) | (go_at_call 61;refine (O.out _ (by go_grown)).mono ?_;rintro e w7 ⟨⟨A7,c7,rfl,hP7⟩,hb7⟩;have hN7:=ae (W0:=wi) (by go_grown) hb7;have HP7:=aa hP7;have hy7:=hN7.size;obtain ⟨hc7,hf7⟩:=dj hb7;have hz7:=dk hb7;(try simp [Nat.add_one_le_iff] at hz7);(try have ha7:wi.heap.size<w7.heap.size:=by omega);clear hb7 hP7) | (go_at_call 8;refine (HNum.out _ _ _ (by go_grown) (HP7.out.later (by go_grown))).mono ?_;rintro e w8 ⟨rfl,hb8⟩;have hN8:=ae (W0:=wi) (by go_grown) hb8;have hy8:=hN8.size;obtain ⟨hc8,hf8⟩:=dj hb8;have hz8:=dk hb8;(try simp [Nat.add_one_le_iff] at hz8);(try have ha8:wi.heap.size<w8.heap.size:=by omega);(try have hd8:w6.heap.size<w8.heap.size:=by omega);clear hb8))
    all_goals go_wp2_with fail
    all_goals go_meet
    all_goals
     refine ⟨_,rfl,?_,by go_grown⟩
     first
      | exact At.new _ _ _ _
      | (refine At.set (u:=.int .i64 0) (v:=.int .i64 0) (by omega) ?_ ?_ <;> (rw [hc8 _ _ (by simp)];simp;done))
      | (refine At.set (u:=.int .i64 0) (v:=.int .i64 0) (by omega) ?_ ?_ <;> (rw [hc8 _ _ (by omega),hc7 _ _ (by simp)];simp;done))
      | (refine At.set (u:=.int .i64 0) (v:=.int .i64 0) (by omega) ?_ ?_ <;> (rw [hc8 _ _ (by omega),hc7 _ _ (by omega),hc6 _ _ (by simp)];simp;done))
   case rest =>
   obtain ⟨q,rfl,⟨hql,p0,p1⟩,hBc⟩:=hcut;obtain ⟨w9,rfl⟩:∃ w9:World,w9=wc:=⟨_,rfl⟩;have HB9:=aa (ae J.out hBc);have HO9:Hid (w9.ownsRow w5.heap.size 52 2 u k (bK ((R.take k).map G))):=ao HO.out hBc;have hsz9:=HB9.out.size;clear hBc cs g1 g2 k1 k2 k3 k4 cw HKp HWh O HNum
   go_wp2_with (at_builtin;refine wpList_append_own _ rfl _ _ 45 rfl w5.heap.size 52 i0 (.agg #[.int .i64 0,.int .i64 0]) 2 16 Tryz.underlying45 hi0 hz0 hz1 hz2 rfl (by decide) _ _ _ rfl (HO9.out.alloc _) ⟨w9.heap.size,0,none⟩ 1 1 [.int .i64 v1,.int .i64 v2] rfl rfl ?qe2 ?qe3 ?qe4 ?qe5 ?qe6 ?_)
   case qe2 =>
    intro j t hj;have hadd:(⟨w9.heap.size,0,none⟩:Addr).add j=⟨w9.heap.size,j,none⟩:=by unfold Addr.add;split <;> simp_all
    rw [hadd,Lib.cell_of_heap (heap_alloc_new w9 (.cells #[.int .i64 v1,.int .i64 v2] 52))]
    simpa using hj
   case qe3=>intro t ht;simp at ht;rcases ht with rfl | rfl <;> rfl
   case qe4=>simp only [maxLen];omega
   case qe5=>omega
   case qe6=>simp;omega
   intro v' wz KG X hnil;have HBz:Hid (Bl w5 wz):=bB HB9.out HO9.out X;have HOz:Hid (wz.ownsRow w5.heap.size 52 2 v' (k+1) (bK ((R.take (k+1)).map G))):=by
    show World.ownsRow ..
    rw [HSn.out,cellsC_append,List.map_take];exact KG
   clear KG X hnil p0 p1;go_wp2_with fail
   go_roundg (NR-(k+1))
   case measure=>omega
   case rel=>exact ⟨k+1,_,by omega,rfl,by go_num,rfl,HOz,HBz⟩
  have hke:k=NR:=by omega
  subst hke;have HCx:Hid (∃ A c,u=.slice A k c∧dw wi A c (R.map G)):=by
   have h:=HO.out;rw [List.take_of_length_le (by rw [M.out];exact zT)] at h
   have hlen:(R.map G).length=k:=by rw [List.length_map];exact M.out
   rw [←hlen] at h;obtain ⟨A',c',e,hv⟩:=Br h;rw [hlen] at e;exact ⟨A',c',e,hv⟩
  obtain ⟨Ar,cr,rfl,hCv⟩:=HCx.out;have a:=HFe2.out;have V:∀ c∈R.map G,pm c:=fun c hc=>by
   obtain ⟨s,hs,rfl⟩:=List.mem_map.1 hc;obtain ⟨j,hj,hjn⟩:=HIn.out s hs;rw [HG.out,hj,HFe.out];exact zJ HGd.out _
  have Z:missT R (aG l (l.length-1))=false:=by
   unfold missT;rw [List.any_eq_false];intro s hs;have hsR:s∈R:=(HRt.out.2 s).2 ((ju a s).1 hs)
   rcases where_cases R s with ⟨-,o⟩ | ⟨i,h1,-,-⟩
   ·obtain ⟨i,hi,e⟩:=List.getElem_of_mem hsR
    exact absurd (by rw [zZ,zX hi];exact e) (o i hi)
   rw [h1];simp
  have hval:eA R (R.map G) (aG l (l.length-1))=eu (D b) f m:=by
   unfold eu;rw [if_neg HFm.out.2.2];have htre:yU (D b) m=aG l (l.length-1):=by unfold yU;rw [HLe.out]
   rw [htre];refine jb _ _ _ _ fun s hs=>?_
   have hsR:s∈R:=(HRt.out.2 s).2 ((ju a s).1 hs)
   rcases where_cases R s with ⟨-,o⟩ | ⟨i,h1,o,h3⟩
   ·obtain ⟨i,hi,e⟩:=List.getElem_of_mem hsR
    exact absurd (by rw [zZ,zX hi];exact e) (o i hi)
   unfold refC;rw [h1,Int.toNat_natCast,zZ,List.getElem?_map,zX o];rw [zZ,zX o] at h3;simp only [Option.map_some,Option.getD_some] at h3 ⊢;rw [h3,HG.out]
  have I:=vE bl ol cl l (dC a).2.2.1 (by rw [K.out];exact Y) An cn R Ar cr (R.map G) (by rw [List.length_map]) V (l.length-1) (by rw [K.out];omega) wi (HNd5.out.later J.out) (HNm5.out.later J.out) hCv Z
  rw [hval,List.length_map,M.out,K.out] at I;obtain ⟨⟨ra,rb⟩,hRe⟩:∃ r,eu (D b) f m=r:=⟨_,rfl⟩;have HRe:=aa hRe;rw [hRe] at I;simp only at I;have hNLi:((NL-1:Nat):Int)=(NL:Int)-1:=by omega
  rw [hNLi] at I;have hl30I:(NL:Int)≤30:=by omega
  have hl0I:1≤(NL:Int):=by omega
  obtain ⟨z0,z1,z2,z3⟩:=cE d.out.2.2.1;have hs1i:w.heap.size+1<wi.heap.size:=(zY d.out.2.2.1).1;clear hCv a V Z hval hRe hNLi HCx;go_wp2_with fail;refine I.mono ?_;rintro e w9 ⟨rfl,hb9⟩;have HB9:=aa (ae d.out.1 hb9);obtain ⟨e0,e1,g0,g1⟩:=cE ((hb9.block (w.heap.size+1) hs1i).trans d.out.2.2.1);have hs19:w.heap.size+1<w9.heap.size:=zW hs1i hb9.size;clear hb9 I z0 z1 z2 z3;go_wp2_with fail;refine bodyPost_ret (v:=.agg #[.int .i64 ra,.int .i64 rb]) (by simp [results,Tryz.results29,go_sem,e0,e1]) rfl ⟨by rw [HRe.out],?_⟩
  exact (HB9.out.setCell (Nat.le_succ _) _).setCell (Nat.le_succ _) _
def Ft (f:Nat→Bool) (R:List Int) (i u:Nat):Bool := !(f i) && (R.take u).all fun z=>f z.toNat
theorem Fu {f:Nat→Bool} {R:List Int} {i u:Nat} (h:Ft f R i u=true) (a:u<R.length):Ft f R i (u+1)=f (R.getD u 0).toNat:=by
 unfold Ft at *;rw [Bool.and_eq_true] at h;rw [h.1,Bool.true_and,List.take_succ_eq_append_getElem a,List.all_append,h.2,Bool.true_and,zZ,zX a]
 simp
theorem Hs {f:Nat→Bool} {R:List Int} {i:Nat} (h:Ft f R i R.length=true):f i=false∧∀ z∈R,f z.toNat=true:=by
 unfold Ft at h;rw [Bool.and_eq_true,List.take_length,List.all_eq_true] at h;exact ⟨by simpa using h.1,h.2⟩
theorem I9 {f:Nat→Bool} {R:List Int} {i u:Nat} (h:Ft f R i u=false):f i=false→∃ z∈R,f z.toNat=false:=by
 intro b;unfold Ft at h;rw [b] at h;simp only [Bool.not_false,Bool.true_and] at h;rw [List.all_eq_false] at h;obtain ⟨z,c,a⟩:=h;exact ⟨z,List.mem_of_mem_take c,by simpa using a⟩
theorem Dr (A0:Option Addr) (cap n:Nat) (D:Nat→Dm) (A:Nat→Option Addr) (C:Nat→Nat) (Ae:Option Addr) (f:Nat) (xs:List EnL) (Ap:Option Addr) (c:Nat) (Ac:Option Addr) (a:Nat) (CL:List (Int×Int)) (i:Nat) (T:List Int) (w:World) (o:(am D n).2.2=0) (p:dH D n) (v:xs.length≤3000) (s:mK xs (aj D n i)) (k:aY w A0 cap n D A C) (g:b6 w Ae f xs) (l:a7 w Ap c (aj D n i)) (m:dw w Ac a CL) (d:CL.length=prodN D n) (e:oO CL) (t:eK D n (aj D n i) T) (u:∀ z∈T,CL.getD z.toNat noC=ey D n (getE (lE xs)) (aj D n z.toNat)) :
  Rt 29 #[.agg #[.slice A0 n cap],.slice Ae xs.length f,.slice Ap (aj D n i).length c,.slice Ac CL.length a] w (.agg #[.int .i64 (ey D n (getE (lE xs)) (aj D n i)).1,.int .i64 (ey D n (getE (lE xs)) (aj D n i)).2]):=by
 have j:InO D n (aj D n i):=bY o
 rcases by_in D (aj D n i) n with h | ⟨b,hb,hbn⟩
 ·have r:=yQ A0 cap n D A C Ae f xs Ap c (aj D n i) (.slice Ac CL.length a) w j k l v g s (by omega)
  rw [fO _ (by omega)]
  exact r
 rw [Ji p o (getE (lE xs)) (fun y=>CL.getD y noC) t u hb]
 by_cases q:((D b).mem ((aj D n i).getD b 0).toNat).formula.size=0
 ·exact vK A0 cap n D A C _ Ap c (aj D n i) Ac a CL b _ w j k l m d e hb rfl q
 exact yP A0 cap n D A C _ Ap c (aj D n i) Ac a CL b _ w j k l m d e hb rfl p q
def qi (w1:World) (g gT N:Nat) (v:Nat→Int×Int) (L:List (Int×Int)) (f:Nat→Bool) (w:World):Prop:=bT w g L∧L.length=N∧fQ w gT N f∧oO L∧(∀ j,j<N→f j=true→L.getD j noC=v j)∧Below g w1 w
theorem qi.later {w1 w w':World} {g gT N:Nat} {v:Nat→Int×Int} {L:List (Int×Int)} {f:Nat→Bool} (h:qi w1 g gT N v L f w) (a:Bl w w'):qi w1 g gT N v L f w':=by
 obtain ⟨c,d,e,j,k,b⟩:=h;have m:=c.lt;exact ⟨c.later a,d,e.later a,j,k,⟨a.os.trans b.os,a.tape.trans b.tape,a.output.trans b.output,zV b.size a.size,fun i l=>(a.block i (by omega)).trans (b.block i l)⟩⟩
theorem qi.put {w1 w:World} {g gT N:Nat} {v:Nat→Int×Int} {L:List (Int×Int)} {f:Nat→Bool} (h:qi w1 g gT N v L f w) (q:g<gT) {i:Nat} {a b:Int} (t:i<N) (s:v i=(a,b)) (c:b5 (a,b)):qi w1 g gT N v (L.set i (a,b)) (ic f i) (((w.setCell ⟨g,i*2,none⟩ (.int .i64 a)).setCell ⟨g,i*2+1,none⟩ (.int .i64 b)).setCell ⟨gT,i,none⟩ (.bool true)):=by
 obtain ⟨k,l,d,m,n,o⟩:=h;refine ⟨(k.set (by omega) a b).same (av _ _ _ _ _ (by omega)),by rw [List.length_set];exact l,?_,BV m i c,fun j r p=>?_,ir (ir (ir o (zT)) (zT)) (by omega)⟩
 ·refine fQ.set (f:=f) ?_ fun j _=>rfl
  unfold fQ at d ⊢;rw [av _ _ _ _ _ (by omega),av _ _ _ _ _ (by omega)]
  exact d
 by_cases e:j=i
 ·subst e
  rw [zZ,List.getElem?_set_self (by omega)]
  exact s.symm
 rw [zZ,List.getElem?_set_ne (fun h=>e h.symm),←zZ]
 exact n j r (by simpa [ic,e] using p)
def tu (ys:List RL) (f:Nat→Bool) (ag:Bool) (i:Nat):Prop:=ag=false→∀ j,j<i→f j=false→∃ z∈(ys.getD j ep).p,f z.toNat=false
theorem rO (ys:List RL) (f:Nat→Bool) (i:Nat):tu ys f true i:=fun h=>by cases h
theorem yO (A0:Option Addr) (cap n:Nat) (D:Nat→Dm) (A:Nat→Option Addr) (C:Nat→Nat) (Ae:Option Addr) (ce:Nat) (xs:List EnL) (w:World) (hE:(am D n).2.2=0) (hR:dH D n) (F:Ens D n (lE xs)) (hM:aY w A0 cap n D A C) (hEn:b6 w Ae ce xs) :
  Calls Tryz.prog 11 #[.agg #[.slice A0 n cap],.slice Ae xs.length ce] w fun e w'=>(∃ g L,e=.returned (.slice (some ⟨g,0,none⟩) (prodN D n) (prodN D n))∧L.length=prodN D n∧bT w' g L∧∀ j,j<prodN D n→L.getD j noC=ey D n (getE (lE xs)) (aj D n j))∧Bl w w':=by
 obtain ⟨hn1,hn4,hp3,hd⟩:=au hE;have KK:xs.length≤3000:=by have:=F.few;rw [a8] at this;exact this
 have HSh:Hid (∀ x,mK xs (aj D n x)):=fun x=>⟨fun k hk=>by
  have hmem:(xs.getD k aJ).e∈lE xs:=List.mem_map.2 ⟨_,iT hk,rfl⟩;have:=(F.each _ hmem).1.len
  omega,by rw [placeL_len];omega⟩
 have Q:=aq w A0 n cap 24;have hS:=aw w A0 n cap 24;have hA:=aI w A0 n cap 24;obtain ⟨W,hW⟩:=aA (ay w A0 n cap 24);rw [hW] at Q hS hA;unfold ay at hW;have H:=ly A0 cap n D A C W hR hE (hM.later Q);have HB0:=aa Q;have HM:=aa hM;have HEn:=aa hEn;have HR:=aa hR;have HE:=aa hE;have HEs:=aa F;have HA:=aa hA;have hsz:w.heap.size<W.heap.size:=by omega
 have hnI:(n:Int)≤4:=by omega
 obtain ⟨N,hN⟩:=aA (prodN D n);have M:=aa hN;obtain ⟨v,hv⟩:∃ v:Nat→Int×Int,v=fun j=>ey D n (getE (lE xs)) (aj D n j):=⟨_,rfl⟩
 have HV:Hid (∀ j,v j=ey D n (getE (lE xs)) (aj D n j)):=fun j=>by rw [hv]
 have HVg:Hid (∀ j,b5 (v j)):=fun j=>by rw [hv];exact oQ hR (ma F) _ _ (bY hE) (Nat.lt_succ_self _)
 rw [hN] at H hp3;have hNI:(N:Int)≤3000:=by omega
 have hmk:=jw N hp3;have hmb:=kh N hp3;have HXf:=aa KK;obtain ⟨xl,hxl⟩:=aA xs.length;have HXl:=aa hxl;rw [hxl];clear hE hR F hM hEn Q hS KK hxl hv hN hd
 go_enter Tryz.func11,Tryz.ntmps11
 go_wp2_with fail;refine H.mono ?_;rintro e w1 ⟨⟨A1,c1,ys,rfl,hyl,hY,hT⟩,S⟩;have HB1:=aa (ae HB0.out S);have HY:=aa hY;have HT:=aa hT;have P:=aa hyl;have HCo:Hid (w1.cell? ⟨w.heap.size,0,none⟩=some (.slice A0 n cap)):=aD S hsz HA.out;have KL:w.heap.size<w1.heap.size:=zW hsz S.size;have HIn:Hid (∀ i,i<N→∀ z∈(ys.getD i ep).p,∃ j:Nat,z=(j:Int)∧j<N):=fun i hi z hz=>by
  obtain ⟨j,h1,h2,-⟩:=fD HR.out HE.out (hT i hi) hz;exact ⟨j,h1,by rw [←M.out];exact h2⟩
 have KN:Hid (∀ f:Nat→Bool,(∀ i,i<N→f i=false→∃ z∈(ys.getD i ep).p,f z.toNat=false)→∀ i,i<N→f i=true):=fun f h i hi=>xH HR.out HE.out (fun i=>(ys.getD i ep).p) (fun j s=>hT j (by rw [←M.out];exact s)) f (fun j s hf=>h j (by rw [←M.out];exact s) hf) i (by rw [M.out];exact hi)
 obtain ⟨o,X⟩:∃ y,w1.alloc (.cells (madeCells #[.int .i64 0,.int .i64 0] (N*2)) 52)=y:=⟨_,rfl⟩;have KG:Bl w1 o:=by rw [←X];go_grown
 have KH:bT o w1.heap.size (List.replicate N (0,0)):=by rw [←X];exact qH w1 N
 have hs1:o.heap.size=w1.heap.size+1:=by rw [←X];simp
 obtain ⟨y2,hy2⟩:∃ y,o.alloc (.cells (madeCells #[.bool false] N) 4)=y:=⟨_,rfl⟩;have E:Bl o y2:=by rw [←hy2];go_grown
 have KJ:fQ y2 o.heap.size N fun _=>false:=by rw [←hy2];exact fQ.made o N
 have HI0:Hid (qi w1 w1.heap.size o.heap.size N v (List.replicate N (0,0)) (fun _=>false) y2):=by
  refine ⟨KH.later E,by simp,KJ,fun c hc=>?_,fun j _ h=>(by cases h),ae KG E⟩
  rw [(List.mem_replicate.1 hc).2];exact fq
 have hgT:w1.heap.size<o.heap.size:=by omega
 clear H S hyl hY hT KG KH E KJ hs1 hA hW;go_wp2_with fail;clear hmk hmb X hy2
 go_loopg [8] (DK (fun _=>false) true N) (fun gg s8 wr => ∃ (ag:Bool) (L:List (Int×Int)) (f:Nat→Bool),gg=DK f ag N∧s8=.bool ag∧Hid (qi w1 w1.heap.size o.heap.size N v L f wr)∧Hid (tu ys f ag N))
 case atStart=>exact ⟨true,_,_,rfl,rfl,HI0,rO _ _ _⟩
 case round =>
  obtain ⟨ag,L,f,rfl,rfl,HI,HWt⟩:=hrel;cases ag
  ·have HAll:Hid (∀ i,i<N→f i=true):=KN.out f (HWt.out rfl)
   go_wp2_with fail;go_ret;refine ⟨⟨w1.heap.size,L,by rw [M.out];rfl,by rw [M.out];exact HI.out.2.1,HI.out.1,fun j s=>?_⟩,?_⟩
   ·rw [M.out] at s
    rw [HI.out.2.2.2.2.1 j s (HAll.out j s)];exact HV.out j
   exact ae HB1.out HI.out.2.2.2.2.2
  go_wp2_with fail
  go_loopg [8,9] N (fun gg s8 s9 wi => ∃ (i:Nat) (ag:Bool) (L':List (Int×Int)) (f':Nat→Bool),i≤N∧gg=N-i∧s8=.bool ag∧s9=.int .i64 i∧Hid (qi w1 w1.heap.size o.heap.size N v L' f' wi)∧Hid (tu ys f' ag i)∧Hid (kI N f f' ag))
  case atStart=>exact ⟨0,false,L,f,zU,rfl,rfl,rfl,HI,(fun _ j s=>absurd s (Nat.not_lt_zero _):tu ys f false 0),(⟨fun h=>(by cases h),fun _=>rfl⟩:kI N f f false)⟩
  case round =>
   obtain ⟨wi,rfl⟩:∃ wi:World,wi=wr:=⟨_,rfl⟩;obtain ⟨i,ag,L',f',hi,rfl,rfl,rfl,a,Z,t⟩:=hrel
   by_cases d:i<N
   ·have hii:(i:Int)<(N:Int):=by omega
    have B:=a.out.2.2.2.2.2;obtain ⟨hcap,h0 | ⟨b,rfl,hbw,hcl⟩,hrw⟩:=HY.out.later B
    ·have:=P.out;rw [h0] at this;simp at this;omega
    have cj:=hcl i (by rw [P.out];exact d)
    have I:=hrw _ (ie (k:=i) (by rw [P.out];exact d))
    rw [P.out] at hcap;have hcapI:(N:Int)≤(c1:Int):=by omega
    have KI:=(HT.out i d).2.1;have hIz:=HIn.out i d;obtain ⟨R,hRe⟩:=aA ((ys.getD i ep).p);have HRe:=aa hRe;rw [hRe] at cj I KI hIz;have HIz:=aa hIz;generalize (ys.getD i ep).A=Aj at cj I;generalize (ys.getD i ep).c=cjj at cj I;have HTj:=aa I;obtain ⟨r,hr⟩:=aA R.length;have m:=aa hr;rw [hr] at cj KI;have hrI:(r:Int)≤12:=by omega
    have cg:=a.out.2.2.1.cell d;have hgl:=a.out.2.2.1.lt;have Y:Hid (Ft f' R i 0 = !f' i):=by show _=_;unfold Ft;simp
    generalize f' i=ij at cg Y;clear hcl hrw I hRe hIz hr B;go_wp2_with fail
    go_loopg [10,11] r (fun gg s10 s11 wk => ∃ (u:Nat) (ok:Bool),u≤r∧gg=r-u∧s10=.bool ok∧s11=.int .i64 u∧Hid (Ft f' R i u=ok)∧wk=wi)
    case atStart=>exact ⟨0,_,zU,rfl,rfl,rfl,Y,rfl⟩
    case round =>
     obtain ⟨u,ok,hu,rfl,rfl,rfl,HU,hwk⟩:=hrel;have hwk2:wi=wr:=hwk.symm;clear hwk;subst hwk2;cases ok
     ·have HNo:Hid (f' i=false→∃ z∈(ys.getD i ep).p,f' z.toNat=false):=fun h=>by rw [HRe.out];exact I9 HU.out h
      have HWn:Hid (tu ys f' ag (i+1)):=fun ha j s hf=>by
       by_cases e:j=i
       ·subst e;exact HNo.out hf
       exact Z.out ha j (by omega) hf
      by_cases V:u<r
      ·have hui:(u:Int)<(r:Int):=by omega
       go_wp2_with fail
       go_roundg (N-(i+1))
       case measure=>omega
       case rel=>exact ⟨i+1,ag,L',f',by omega,rfl,rfl,by go_num,a,HWn,t⟩
      have hue:u=r:=by omega
      subst hue;go_wp2_with fail
      go_roundg (N-(i+1))
      case measure=>omega
      case rel=>exact ⟨i+1,ag,L',f',by omega,rfl,rfl,by go_num,a,HWn,t⟩
     by_cases V:u<r
     ·have hui:(u:Int)<(r:Int):=by omega
      obtain ⟨hcR,-,hR0 | ⟨br,cs,fr,rfl,hbr,hcr⟩⟩:=HTj.out
      ·have:=m.out;rw [hR0] at this;simp at this;omega
      have cu:=hcr u (by rw [m.out];exact V)
      rw [m.out] at hcR;have hcRi:(r:Int)≤(cjj:Int):=by omega
      have hbrl:br<wi.heap.size:=(zY hbr).1;have O:Hid (Ft f' R i (u+1)=f' (R.getD u 0).toNat):=Fu HU.out (by rw [m.out];exact V)
      obtain ⟨z,hz,hzn⟩:=HIz.out (R.getD u 0) (fX (by rw [m.out];exact V))
      rw [hz] at cu O;rw [Int.toNat_natCast] at O;have hzI:(z:Int)<(N:Int):=by omega
      have cz:=a.out.2.2.1.cell hzn;generalize f' z=zb at cz O;clear hcr hbr hz;go_wp2_with fail
      go_roundg (r-(u+1))
      case measure=>omega
      case rel=>exact ⟨u+1,zb,by omega,rfl,rfl,by go_num,O,rfl⟩
     have hue:u=r:=by omega
     subst hue;have K:f' i=false∧∀ z∈R,f' z.toNat=true:=Hs (by rw [m.out];exact HU.out)
     have HFi:=aa K.1;have HRd:Hid (∀ z∈R,L'.getD z.toNat noC=ey D n (getE (lE xs)) (aj D n z.toNat)):=fun z hz=>by
      obtain ⟨j,rfl,s⟩:=HIz.out z hz;rw [Int.toNat_natCast];have h:=a.out.2.2.2.2.1 j s (by have:=K.2 _ hz;rwa [Int.toNat_natCast] at this)
      rw [h];exact HV.out j
     have B:=ae HB1.out a.out.2.2.2.2.2;have KM:=aa B;have HAtc:Hid (∀ w',Bl wi w'→Calls Tryz.prog 30 #[.agg #[.slice A0 n cap],.int .i64 i] w' fun e w''=>(∃ A' c',e=.returned (.slice A' n c')∧a7 w'' A' c' (aj D n i))∧Bl w' w''):=fun w' J=>by
      have h:=AM A0 cap n D A C i w' HE.out (by rw [M.out];exact d) (HM.out.later (ae KM.out J))
      rw [placeL_len] at h;exact h
     obtain ⟨⟨ra,rb⟩,hRv⟩:∃ q,v i=q:=⟨_,rfl⟩;have KO:=aa hRv;have HTl:Hid (∀ w' A' c',Bl wi w'→a7 w' A' c' (aj D n i)→Rt 29 #[.agg #[.slice A0 n cap],.slice Ae xl ce,.slice A' n c',.slice (some ⟨w1.heap.size,0,none⟩) N N] w' (.agg #[.int .i64 ra,.int .i64 rb])):=fun w' A' c' J hp=>by
      have G:=a.out.later J;have h:=Dr A0 cap n D A C Ae ce xs A' c' (some ⟨w1.heap.size,0,none⟩) N L' i (ys.getD i ep).p w' HE.out HR.out HXf.out (HSh.out i) (HM.out.later (ae KM.out J)) (HEn.out.later (ae KM.out J)) hp ⟨by rw [G.2.1];exact zT,by omega,Or.inr ⟨_,0,rfl,G.1.celAt⟩⟩ (by rw [G.2.1];exact M.out.symm) G.2.2.2.1 (HT.out i d) (by rw [HRe.out];exact HRd.out)
      rw [←HV.out i,KO.out,placeL_len,HXl.out,G.2.1] at h;exact h
     have co:wi.cell? ⟨w.heap.size,0,none⟩=some (.slice A0 n cap):=aD a.out.2.2.2.2.2 KL HCo.out;have hswi:w.heap.size<wi.heap.size:=zW KL a.out.2.2.2.2.2.size;have HKp:Hid (∀ w',Bl wi w'→Bl wi w'∧w'.cell? ⟨w.heap.size,0,none⟩=some (.slice A0 n cap)):=fun w' h=>⟨h,aD h hswi co⟩
     clear K B hRv
     go_upto_region 16 with fail
     go_cut [12] from 22 to 69 (fun s12 wx => ∃ q,s12=.pointer (some ⟨q,0,none⟩)∧At q ra rb wx∧Bl wi wx)
     case first =>
      go_region_held3 (fun w'=>Bl wi w'∧w'.cell? ⟨w.heap.size,0,none⟩=some (.slice A0 n cap))
       ((refine HKp.out _ ?_;go_grown;done))
       (first | (go_at_call 30;refine (HAtc.out _ (by go_grown)).mono ?_;rintro e w6 ⟨⟨A6,c6,rfl,hP6⟩,T⟩;have hN6:=ae (W0:=wi) (by go_grown) T;have HP6:=aa hP6;have hy6:=hN6.size;obtain ⟨hc6,hf6⟩:=dj T;have hz6:=dk T;(try simp [Nat.add_one_le_iff] at hz6);clear T hP6) | (go_at_call 29;refine (HTl.out _ _ _ (by go_grown) (HP6.out.later (by go_grown))).mono ?_;rintro e w7 ⟨rfl,U⟩;have hN7:=ae (W0:=wi) (by go_grown) U;have hy7:=hN7.size;obtain ⟨hc7,hf7⟩:=dj U;have hz7:=dk U;(try simp [Nat.add_one_le_iff] at hz7);(try have ha7:wi.heap.size<w7.heap.size:=by omega);clear U))
      all_goals go_wp2_with fail
      all_goals go_meet
      all_goals
       refine ⟨_,rfl,?_,by go_grown⟩
       first
        | exact At.new _ _ _ _
        | (refine At.set (u:=.int .i64 0) (v:=.int .i64 0) (by omega) ?_ ?_ <;> (rw [hc7 _ _ (by simp)];simp;done))
        | (refine At.set (u:=.int .i64 0) (v:=.int .i64 0) (by omega) ?_ ?_ <;> (rw [hc7 _ _ (by omega),hc6 _ _ (by simp)];simp;done))
     case rest =>
     obtain ⟨q,rfl,⟨hql,p0,p1⟩,hBc⟩:=hcut;obtain ⟨w9,rfl⟩:∃ w9:World,w9=wc:=⟨_,rfl⟩;have l:=aa (a.out.later hBc);obtain ⟨z0,z1⟩:=l.out.1.at (k:=i) (by rw [l.out.2.1];exact d)
     have z2:=l.out.2.2.1.cell d;have x0:=l.out.1.frozen (i*2);have x1:=l.out.1.frozen (i*2+1);have x2:=l.out.2.2.1.frozen i;have hl1:=l.out.1.lt;have hl2:=l.out.2.2.1.lt;have HIx:Hid (qi w1 w1.heap.size o.heap.size N v (L'.set i (ra,rb)) (ic f' i) (((w9.setCell ⟨w1.heap.size,i*2,none⟩ (.int .i64 ra)).setCell ⟨w1.heap.size,i*2+1,none⟩ (.int .i64 rb)).setCell ⟨o.heap.size,i,none⟩ (.bool true))):=l.out.put hgT d KO.out (by have:=HVg.out i;rw [KO.out] at this;exact this)
     have HPx:Hid (kI N f (ic f' i) true):=va t.out d HFi.out;clear hBc cj cg;go_wp2_with fail
     go_roundg (N-(i+1))
     case measure=>omega
     case rel=>exact ⟨i+1,true,_,_,by omega,rfl,rfl,by go_num,HIx,rO _ _ _,HPx⟩
   have hie:i=N:=by omega
   subst hie;have HMu:Hid (DK f' ag i<DK f true i):=by
    show _<_
    unfold DK;cases ag with
    | true=>have:=t.out.1 rfl;simp;omega
    | false=>rw [t.out.2 rfl];simp
   go_wp2_with fail
   go_roundg (DK f' ag i)
   case measure=>exact HMu.out
   case rel=>exact ⟨ag,L',f',rfl,rfl,a,Z⟩
end Go.Proofs.YtompdcaikmekkaaGreatDoor
