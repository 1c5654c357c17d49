/- What the document's ow -/
import Derived.Test.YtohgnbgamfepoaaGreatDoorJHAV
import Derived.Test.YtohgnbgamfepoaaGreatDoorJHAX
namespace Go.Proofs.YtohgnbgamfepoaaGreatDoor
open ChangeShapes WideShapes ChangeAt RowKit
set_option maxRecDepth 99999
set_option maxHeartbeats 0
theorem bV.row {w w':World} {base:Nat} {v:Value} {n:Nat} {zs:List Value} {A:Option Addr} {c:Nat} {L:List Int} (h:bV w A c L) (a:w.ownsRow base 26 1 v n zs) (b:w.grownBy w' v.ownBlock):bV w' A c L:=by
 rcases h with h | ⟨h1,h⟩
 ·exact Or.inl h
 exact Or.inr ⟨h1,h.row a b⟩
theorem Da {d:Dm} (h:(ay d).2≠0):((ay d).2 != 0)=true:=by simpa using h
def jh (w:World) (A:Option Addr) (xs:List RL):Prop:=xs=[]∨∃ b cs fr,A=some ⟨b,0,none⟩∧w.heap[b]?=some (.cells cs 26 fr)
theorem jh.later {w w':World} {A:Option Addr} {xs:List RL} (h:jh w A xs) (a:Bl w w'):jh w' A xs:=by
 rcases h with h | ⟨b,cs,fr,h1,h2⟩
 ·exact Or.inl h
 exact Or.inr ⟨b,cs,fr,h1,(a.block b (zY h2).1).trans h2⟩
theorem Dx {w:World} {base:Nat} {A:Option Addr} {c:Nat} {xs:List RL} (h:w.ownsRow base 26 1 (.slice A xs.length c) xs.length (cT xs)):jh w A xs:=by
 rcases h.2 with ⟨b,d⟩ | ⟨g,cap,a,b,f,e,_⟩
 ·exact Or.inl (List.eq_nil_of_length_eq_zero d)
 cases b;exact Or.inr ⟨g,a,_,rfl,e⟩
def nV (N:List (List Int)) (i:Nat) (L:List Int):Prop:=L.Pairwise (· < ·)∧(∀ x∈L,Rch N i x)∧∀ x∈N.getD i [],x∈L
theorem tT {N:List (List Int)} {i:Nat} {L:List Int} (h:nV N i L) (a:nA N) (c:i<N.length):L.length≤N.length:=few _ _ (pP h.1) fun x b=>(h.2.1 x b).inn a (by omega) (by omega)
theorem Ha {N:List (List Int)} {i:Nat} {L:List Int} (h:nV N i L) (a:nA N) (c:i<N.length):∀ x∈L,0≤x∧x<(N.length:Int):=fun x b=>(h.2.1 x b).inn a (by omega) (by omega)
theorem EC {N:List (List Int)} {i:Nat} {L:List Int} {x y:Int} (h:nV N i L) (b:x∈L) (c:y∈fC N x):nV N i (cY L y):=by
 refine ⟨lB _ _ h.1,fun z a=>?_,fun z a=>(jO _ _ _).2 (Or.inl (h.2.2 z a))⟩
 rcases (jO _ _ _).1 a with e | e
 ·exact h.2.1 z e
 rw [e];exact (h.2.1 x b).snoc c
theorem EB {N:List (List Int)} {i:Nat} {L:List Int} (h:nV N i L) (c:∀ u,u<L.length→∀ y∈fC N (L.getD u 0),y∈L):L.contains (i:Int)=cycB N i:=by
 rw [Bool.eq_iff_iff,List.contains_iff_mem,cyc_iff];refine ⟨h.2.1 _,fun d=>d.closed (S:=fun y=>y∈L) (fun y a=>h.2.2 y (by unfold fC at a;simpa using a)) fun y a z e=>?_⟩
 obtain ⟨u,b,rfl⟩:=List.getElem_of_mem a;refine c u b z ?_;rw [zZ,zX b];exact e
theorem p8 (d:Dm) (A:Option Addr) (cap:Nat) (w:World) (hM:eh w A cap d.n d.mem) :
  Calls Tryz.prog 35 #[cQ d A cap] w fun e w'=>(∃ A' c' xs,e=.returned (.tuple #[.slice A' xs.length c',.int .i64 (bv d).1,.int .i64 (bv d).2])∧db w' A' c' xs∧((bv d).2=0→lR xs=eV d)∧jh w' A' xs)∧Bl w w':=by
 have hB0:=aT w d A cap 70;have T:=vy d A cap (aL w d A cap 70) (hM.later hB0);have HM:=aa hM;have S:Hid (∀ w1,Below (aL w d A cap 70).heap.size (aL w d A cap 70) w1→w1.cell? ⟨w.heap.size,0,none⟩=some (.string d.name)∧w1.cell? ⟨w.heap.size,1,none⟩=some (.int .i64 d.solve)∧w1.cell? ⟨w.heap.size,2,none⟩=some (.slice A d.n cap)∧w.heap.size<w1.heap.size):=fun w1 h=>fw h
 unfold cQ at T ⊢;obtain ⟨W,hW⟩:=az (aL w d A cap 70);rw [hW] at hB0 T S;unfold aL at hW;have K9:=aa hB0;clear hM hB0
 by_cases hd:(ay d).2=0
 case neg =>
  rw [Kw hd];have HE:=aa hd;have hne:=Da hd;generalize (ay d).1=x at T ⊢;generalize (ay d).2=c at T HE hne ⊢;obtain ⟨d0,d1,d2,hqW⟩:=S.out W (zS);clear hd
  go_enter Tryz.func35,Tryz.ntmps35
  go_wp2_with fail;refine T.mono ?_;rintro e w1 ⟨rfl,hb1⟩;go_wp2_with fail;go_returns;exact ⟨⟨none,0,[],rfl,db.nil _ _ _,fun e=>absurd e HE.out,Or.inl rfl⟩,ae K9.out hb1⟩
 obtain ⟨hd1,hdn,K8,hall⟩:=aI hd;have HF1:Hid (∀ i,i<d.n→(d.mem i).formula.size≤100):=fun i hi=>gS (hall i hi)
 have HD:=aa hd;rw [hd,hd1] at T;obtain ⟨i0,hi0,hz0,hz1,hz2⟩:=info_parts Tryz.infoRow;obtain ⟨n,hn⟩:=az d.n;have f:=aa hn;rw [hn] at T hW S hdn K8 HF1 ⊢;have hnI:(n:Int)≤12:=by omega
 obtain ⟨d0,d1,d2,hqW⟩:=S.out W (zS);clear hd hn hd1 hall
 go_enter Tryz.func35,Tryz.ntmps35
 go_wp2_with fail;refine T.mono ?_;rintro e w1 ⟨rfl,hb1⟩;have V:=aa hb1;obtain ⟨c0,c1,c2,hq1⟩:=S.out w1 hb1;clear hb1 T d0 d1 d2 hW;go_wp2_with fail
 go_loopg [7,8] n (fun g s7 s8 wr => ∃ (k:Nat) (xs:List RL),k≤n∧g=n-k∧s8=.int .i64 k∧Hid (lR xs=sE d k∧(∀ j,j<k→mErr d j=0)∧∀ x∈xs,bV wr x.A x.c x.p)∧wr.ownsRow w1.heap.size 26 1 s7 xs.length (cT xs)∧Bl w1 wr)
 case atStart=>exact ⟨0,[],zU,rfl,rfl,(⟨rfl,fun j hj=>absurd hj (Nat.not_lt_zero _),fun x D=>by cases D⟩:_∧_∧_),World.ownsRow_nil _ _ _ _,zS⟩
 case round =>
  obtain ⟨k,xs,hk,rfl,rfl,HX,hO,hBw⟩:=hrel;have HO:=aa hO;have Lc:=aa hBw;have H:Hid (xs.length=k):=by
   have h:=HX.out.1
   show _=_
   rw [←o7,h]
   simp [sE]
  obtain ⟨c0,c1,c2,hq⟩:=S.out wr (ae V.out hBw)
  by_cases F:k<n
  ·have hki:(k:Int)<(n:Int):=by omega
   obtain ⟨K7,h0 | ⟨b,o,rfl,hMs⟩⟩:=HM.out.later (ae K9.out (ae V.out hBw))
   ·have:=f.out;omega
   obtain ⟨-,-,-,c3⟩:=hMs.2 k (by rw [f.out];exact F)
   have HMs:=aa hMs;have hbw:b<wr.heap.size:=hMs.1;have HCp:=aa K7;clear hO hBw hMs K7;obtain ⟨wk,rfl⟩:∃ wk:World,wk=wr:=⟨_,rfl⟩
   go_upto_if 46 with fail
   go_cut [9] from 33 to 115 (fun s9 wx => ∃ A9 a,s9=.slice A9 (ep d k).length a∧bV wx A9 a (ep d k)∧mErr d k=0∧Bl wk wx)
   case first =>
    by_cases hf:(d.mem k).formula.size=0
    ·have hf':(d.mem k).formula.toList.isEmpty=true:=by rw [aU];simpa using hf
     have HF:=aa hf;have HE:Hid (mErr d k=0):=by show _=_;unfold mErr;rw [if_pos hf]
     have hpa:=pS d b o cap k wk (by rw [f.out];exact K8) HMs.out
     rw [f.out] at hpa;have HPm:Hid (∀ x∈bA d.mem n k,∃ y:Nat,x=(y:Int)∧y<n):=fun x D=>by
      obtain ⟨m,h1,I,-⟩:=cS x D;exact ⟨m,h1,I⟩
     have HPl:Hid ((bA d.mem n k).length≤12):=zV (cG _ _) K8;have HPe:Hid (eJ d (bA d.mem n k) (bA d.mem n k).length=ep d k):=by
      have h:=yy hf;rw [f.out] at h
      show _=_
      unfold eJ;rw [List.take_length];exact h
     obtain ⟨P,hP⟩:=az (bA d.mem n k);rw [hP] at hpa HPm HPl HPe;obtain ⟨m,hm⟩:=az P.length;have Q:=aa hm;rw [hm] at hpa HPl HPe;have hmI:(m:Int)≤12:=by have:=HPl.out;omega
     rw [hf'];clear hf hP hm;go_wp2_with fail;refine hpa.mono ?_;rintro e w2 ⟨⟨A2,c2',rfl,hI2⟩,K2⟩;have M:=aa K2;have HI2:=aa hI2;have HM2:=aa (HMs.out.later K2);clear K2 hI2 hpa c0 c1 c2;go_wp2_with fail
     go_loopg [9,16] m (fun g s9 s16 wi => ∃ (t:Nat) (A9:Option Addr) (a:Nat),t≤m∧g=m-t∧s16=.int .i64 t∧s9=.slice A9 (eJ d P t).length a∧bV wi A9 a (eJ d P t)∧Bl w2 wi)
     case atStart=>exact ⟨0,none,0,zU,rfl,rfl,rfl,bV.nil _,zS⟩
     case round =>
      obtain ⟨t,A9,a,ht,rfl,rfl,rfl,hR,s⟩:=hrel;have HR:=aa hR;have E:=aa s;have hpl:=yn d P t (by rw [Q.out];exact ht)
      by_cases C:t<m
      ·have hti:(t:Int)<(m:Int):=by omega
       obtain ⟨hcI,hI0 | ⟨bi,rfl,hbi,hci⟩⟩:=HI2.out.later s
       ·have:=Q.out;rw [hI0] at this;simp at this;omega
       have ct:=hci t (by rw [Q.out];exact C)
       obtain ⟨y,hy,hyn⟩:=HPm.out (P.getD t 0) (f6 (by rw [Q.out];exact C))
       have q:Hid (eJ d P (t+1)=if wg d (y:Int)=true then cY (eJ d P t) y else eJ d P t):=ng (by rw [Q.out];exact C) hy
       rw [hy] at ct;rw [Q.out] at hcI;have hyi:(y:Int)<(n:Int):=by omega
       have hcIi:(m:Int)≤(c2':Int):=by omega
       obtain ⟨-,-,csg,-⟩:=(HM2.out.later s).2 y (by rw [f.out];exact hyn)
       obtain ⟨q0,q1,q2,hqi⟩:=S.out wr (ae V.out (ae Lc.out (ae M.out s)));have hbw':b<wr.heap.size:=(HM2.out.later s).1;have hsg:wg d (y:Int)=decide ((d.mem y).sign≠0):=by unfold wg;rw [Int.toNat_natCast]
       obtain ⟨K,hK⟩:=az (eJ d P t);rw [hK] at q HR hpl;rw [hK];have G:=lA A9 a K y wr (by omega)
       clear hci hy hK hR
       by_cases hs0:(d.mem y).sign=0
       ·have hsb:((d.mem y).sign != 0)=false:=by simpa using hs0
        rw [hsg,decide_eq_false (by simpa using hs0),if_neg (by decide)] at q
        clear G;go_wp2_with fail
        go_quiet (fail)
        go_wp2_with fail
        go_roundg (m-(t+1))
        case measure=>omega
        case rel=>exact ⟨t+1,A9,a,by omega,rfl,by go_num,by rw [q.out],by rw [q.out];exact HR.out.later (ac (zS) _),ac E.out _⟩
       have hsb:((d.mem y).sign != 0)=true:=by simpa using hs0
       rw [hsg,decide_eq_true hs0,if_pos rfl] at q;have HPu:Hid (∀ w',bV w' A9 a K→Calls Tryz.prog 70 #[.slice A9 K.length a,.int .i64 y] w' fun e w''=>(∃ A' c',e=.returned (.slice A' (cY K y).length c')∧bV w'' A' c' (cY K y))∧Bl w' w''):=fun w' h=>lA A9 a K y w' (by omega) h
       obtain ⟨kl,K5⟩:=az K.length;rw [K5] at HPu;rw [K5];clear G K5;go_wp2_with fail
       go_quiet (fail)
       have HBq:Hid (Bl w2 (wr.drewN nq)):=ac E.out _;have ct':(wr.drewN nq).cell? ⟨bi,t,none⟩=some (.int .i64 y):=((ac (zS) nq:Bl wr (wr.drewN nq)).cell (p:=⟨bi,t,none⟩) hbi).trans ct;have hbi':bi<(wr.drewN nq).heap.size:=zW hbi (ac (zS) nq:Bl wr (wr.drewN nq)).size;have G:=HPu.out (wr.drewN nq) (HR.out.later (ac (zS) nq));clear ct q0 q1 q2 csg;go_wp2_with fail;refine G.mono ?_;rintro e w3 ⟨⟨A3,c3',rfl,hR3⟩,hb3⟩;have HR3:Hid (bV w3 A3 c3' (eJ d P (t+1))):=by rw [q.out];exact hR3
       have La:=aa (ae HBq.out hb3);clear hR3 hb3 G;go_wp2_with fail
       go_roundg (m-(t+1))
       case measure=>omega
       case rel=>exact ⟨t+1,A3,c3',by omega,rfl,by go_num,by rw [q.out],HR3.out,La.out⟩
      have K6:t=m:=by omega
      subst K6;have Y:=aa HPe.out;clear s hR;go_wp2_with fail;go_meet;exact ⟨A9,a,by rw [Y.out],by rw [←Y.out];exact HR.out,HE.out,ae M.out E.out⟩
    have hf':(d.mem k).formula.toList.isEmpty=false:=by rw [aU];simpa using hf
    have O:=rM (d.mem k).formula wk (HF1.out k F);have HFn:=aa hf;have HPr:Hid (prsE (d.mem k).formula≠0→mErr d k=prsE (d.mem k).formula):=fun h=>Fr hf h
    have HRf:Hid (prsE (d.mem k).formula=0→∀ x∈bI (d.mem k).formula,x.op=2→whL d x.name.data.toList<0→mErr d k=5):=fun h x D I hw=>Fs hf h D I hw
    have HAl:Hid (prsE (d.mem k).formula=0→(∀ x∈bI (d.mem k).formula,x.op=2→0≤whL d x.name.data.toList)→mErr d k=0∧f9 d (bI (d.mem k).formula) (bI (d.mem k).formula).length=ep d k):=fun h ha=>by
     have he:=Fq hf h ha;refine ⟨he,?_⟩;unfold f9;rw [List.take_length];exact C6 HD.out hf he
    have HFl:Hid (prsE (d.mem k).formula=0→(bI (d.mem k).formula).length≤30):=fun h=>(dD (dN h)).2.1
    rw [hf'];obtain ⟨fm,hfm⟩:=az ((d.mem k).formula);rw [hfm] at c3 O HPr HRf HAl HFl;clear hf hfm hf';generalize (jx fm:Int)=pa at O
    by_cases N:prsE fm=0
    case neg =>
     have hpb:(prsE fm != 0)=true:=by simpa using N
     have HPe:=aa N;have q3:Hid (bv d=((k:Int),prsE fm)):=by
      have h:=HPr.out N;have I:=Kq HD.out (i:=k) (by rw [f.out];exact F) (by rw [h];exact N) HX.out.2.1
      rw [h] at I;exact I
     generalize prsE fm=pe at O hpb q3 HPe;generalize (bI fm).length=pl at O;clear N;go_wp2_with fail;refine O.mono ?_;rintro e w2 ⟨⟨A2,c2',rfl,-⟩,K2⟩;go_wp2_with fail;go_returns;rw [q3.out];exact ⟨⟨none,0,[],rfl,db.nil _ _ _,fun e=>absurd e HPe.out,Or.inl rfl⟩,ae K9.out (ae V.out (ae Lc.out K2))⟩
    rw [N] at O;have hfl:=HFl.out N;have HAl2:=aa (HAl.out N);have HRf2:=aa (HRf.out N);obtain ⟨l,hl⟩:=az (bI fm);rw [hl] at O hfl HAl2 HRf2;obtain ⟨m,hm⟩:=az l.length;have K3:=aa hm;rw [hm] at O hfl HAl2;have hmI:(m:Int)≤30:=by omega
    clear N hl hm HPr HRf HAl HFl;go_wp2_with fail;refine O.mono ?_;rintro e w2 ⟨⟨A2,c2',rfl,hN2⟩,K2⟩;have M:=aa K2;have HN2:=aa hN2;clear K2 hN2 O c0 c1 c2;go_wp2_with fail
    go_loopg [9,13] m (fun g s9 s13 wi => ∃ (t:Nat) (A9:Option Addr) (a:Nat),t≤m∧g=m-t∧s13=.int .i64 t∧s9=.slice A9 (f9 d l t).length a∧Hid (∀ j,j<t→(l.getD j bO).op=2→0≤whL d (l.getD j bO).name.data.toList)∧bV wi A9 a (f9 d l t)∧Bl w2 wi)
    case atStart=>exact ⟨0,none,0,zU,rfl,rfl,rfl,(fun j hj=>absurd hj (Nat.not_lt_zero _):∀ j,j<0→_),bV.nil _,zS⟩
    case round =>
     obtain ⟨t,A9,a,ht,rfl,rfl,rfl,HA,hR,s⟩:=hrel;have HR:=aa hR;have E:=aa s;have hpl:=C5 d l t (by rw [K3.out];exact ht)
     by_cases C:t<m
     ·have hti:(t:Int)<(m:Int):=by omega
      obtain ⟨hcN,-,hN0 | ⟨bn,on,rfl,hNn⟩⟩:=HN2.out.later s
      ·have:=K3.out;rw [hN0] at this;simp at this;omega
      obtain ⟨x0,-,x2,-,-⟩:=hNn.nd (k:=t) (by rw [K3.out];exact C)
      have hbn:bn<wr.heap.size:=hNn.1;rw [K3.out] at hcN;have HMx:Hid (l.getD t bO∈l):=by
       show _∈_
       rw [zZ,zX (by rw [K3.out];exact C)]
       exact List.getElem_mem _
      have q:Hid (f9 d l (t+1)=if (l.getD t bO).op=2 then cY (f9 d l t) (whL d (l.getD t bO).name.data.toList) else f9 d l t):=pJ (by rw [K3.out];exact C) rfl
      have HA2:Hid (((l.getD t bO).op=2→0≤whL d (l.getD t bO).name.data.toList)→∀ j,j<t+1→(l.getD j bO).op=2→0≤whL d (l.getD j bO).name.data.toList):=fun h j hj I=>by
       by_cases e:j=t
       ·rw [e] at I ⊢;exact h I
       exact HA.out j (by omega) I
      obtain ⟨x,D⟩:=az (l.getD t bO);rw [D] at x0 x2 HMx q HA2;obtain ⟨K,hK⟩:=az (f9 d l t);rw [hK] at q HR hpl;rw [hK];obtain ⟨q0,q1,q2,hqi⟩:=S.out wr (ae V.out (ae Lc.out (ae M.out s)));clear hR D hK hNn
      by_cases I:x.op=2
      ·rw [if_pos I] at q
       have HWh:Hid (∀ w',Bl wr w'→Rt 63 #[.agg #[.string d.name,.int .i64 d.solve,.slice (some ⟨b,o,none⟩) n cap],.string x.name] w' (.int .i64 (whL d x.name.data.toList))):=fun w' hB=>by
        have h:=mP d (some ⟨b,o,none⟩) cap x.name w' (by rw [f.out];exact K8) (HM.out.later (ae K9.out (ae V.out (ae Lc.out (ae M.out (ae E.out hB))))))
        unfold cQ at h;rw [lZ,f.out] at h;exact h
       have HBad:Hid (whL d x.name.data.toList<0→bv d=((k:Int),5)):=fun hw=>by
        have h:=HRf2.out x HMx.out I hw;have h3:=Kq HD.out (i:=k) (by rw [f.out];exact F) (by rw [h];decide) HX.out.2.1
        rw [h] at h3;exact h3
       have HA3:Hid (0≤whL d x.name.data.toList→∀ j,j<t+1→(l.getD j bO).op=2→0≤whL d (l.getD j bO).name.data.toList):=fun h=>HA2.out fun _=>h
       rw [I] at x0;obtain ⟨y,hy⟩:=az (whL d x.name.data.toList);rw [hy] at HWh q HBad HA3;generalize x.name=nm at x2 HWh;obtain ⟨kl,K5⟩:=az K.length;have HPu:Hid (∀ w',bV w' A9 a K→Calls Tryz.prog 70 #[.slice A9 kl a,.int .i64 y] w' fun e w''=>(∃ A' c',e=.returned (.slice A' (cY K y).length c')∧bV w'' A' c' (cY K y))∧Bl w' w''):=fun w' h=>by rw [←K5];exact lA A9 a K y w' (by omega) h
       rw [K5];clear s K5 hy I
       go_upto_region 17 with fail
       go_cut [14] from 62 to 86 (fun s14 wx=>s14=.int .i64 y∧Bl wr wx)
       case first =>
        go_region_law ((go_simp;refine (HWh.out _ (by go_grown)).mono ?_;rintro e w3 ⟨rfl,hb3⟩;have hN3:=ae (W0:=wr) (by go_grown) hb3;clear hb3))
        all_goals go_wp2_with fail
        all_goals go_meet
        all_goals exact ⟨rfl,hN3⟩
       case rest =>
       obtain ⟨rfl,hBc⟩:=hcut;obtain ⟨w3,rfl⟩:∃ w3:World,w3=wc:=⟨_,rfl⟩;have La:=aa (ae E.out hBc);have G:=HPu.out w3 (HR.out.later hBc);clear hBc q0 q1 q2 x0 x2
       by_cases hy0:y<0
       ·have q3:=aa (HBad.out hy0)
        clear G;go_wp2_with fail;go_returns;rw [q3.out];exact ⟨⟨none,0,[],rfl,db.nil _ _ _,fun e=>(by cases e),Or.inl rfl⟩,ae K9.out (ae V.out (ae Lc.out (ae M.out La.out)))⟩
       have hy1:decide (y<0)=false:=decide_eq_false hy0;have HA4:Hid (∀ j,j<t+1→(l.getD j bO).op=2→0≤whL d (l.getD j bO).name.data.toList):=HA3.out (by omega)
       clear hy0;go_wp2_with fail;refine G.mono ?_;rintro e w4 ⟨⟨A4,c4,rfl,hR4⟩,hb4⟩;have HR4:Hid (bV w4 A4 c4 (f9 d l (t+1))):=by rw [q.out];exact hR4
       have HB4:=aa (ae La.out hb4);clear hR4 hb4 G;go_wp2_with fail
       go_roundg (m-(t+1))
       case measure=>omega
       case rel=>exact ⟨t+1,A4,c4,by omega,rfl,by go_num,by rw [q.out],HA4,HR4.out,HB4.out⟩
      have h2b:(x.op != 2)=true:=by simpa using I
      rw [if_neg I] at q;have HA3:Hid (∀ j,j<t+1→(l.getD j bO).op=2→0≤whL d (l.getD j bO).name.data.toList):=HA2.out fun h=>absurd h I
      clear I s;go_wp2_with fail
      go_roundg (m-(t+1))
      case measure=>omega
      case rel=>exact ⟨t+1,A9,a,by omega,rfl,by go_num,by rw [q.out],HA3,by rw [q.out];exact HR.out,E.out⟩
     have K6:t=m:=by omega
     subst K6;obtain ⟨HE,Y⟩:Hid (mErr d k=0)∧Hid (f9 d l t=ep d k):=by
      have h:=HAl2.out fun x D I=>by
       obtain ⟨j,hj,rfl⟩:=List.getElem_of_mem D;have h3:=HA.out j (by rw [←K3.out];exact hj)
       rw [zZ,zX hj] at h3;exact h3 I
      exact h
     clear s hR;go_wp2_with fail;go_meet;exact ⟨A9,a,by rw [Y.out],by rw [←Y.out];exact HR.out,HE.out,ae M.out E.out⟩
   case rest =>
   obtain ⟨A9,a,rfl,hR9,he,K0⟩:=hcut;obtain ⟨w2,rfl⟩:∃ w2:World,w2=wc:=⟨_,rfl⟩;have HE:=aa he;have Z:=aa hR9;have M:=aa (ae Lc.out K0);have HO2:Hid (w2.ownsRow w1.heap.size 26 1 u7 k (cT xs)):=by
    have h:=an HO.out K0;rw [H.out] at h;exact h
   have HX2:Hid (∀ x∈xs,bV w2 x.A x.c x.p):=fun x D=>(HX.out.2.2 x D).later K0
   have hsz:=M.out.size;obtain ⟨r,hr⟩:=az ((ep d k).length);have HR:=aa hr;rw [hr];clear hR9 he K0 c0 c1 c2 c3 hr
   go_wp2_with (at_builtin;refine wpList_append_own _ rfl _ _ 71 rfl w1.heap.size 26 i0 (.slice none 0 0) 1 24 Tryz.underlying71 hi0 hz0 hz1 hz2 rfl (by decide) _ _ _ rfl (HO2.out.alloc _) ⟨w2.heap.size,0,none⟩ 1 1 [.slice A9 r a] rfl rfl bz (by intro u hu;simp at hu;subst hu;rfl) (by unfold maxLen;omega) (by omega) (by simp;omega) ?_)
   intro v' w3 hown' U _;have La:Hid (Bl w1 w3):=bD M.out HO2.out U;have HX3:Hid (lR (xs ++ [(⟨ep d k,A9,a⟩:RL)])=sE d (k+1)∧(∀ j,j<k+1→mErr d j=0)∧∀ x∈xs ++ [(⟨ep d k,A9,a⟩:RL)],bV w3 x.A x.c x.p):=by
    refine ⟨by rw [rr,HX.out.1,rx];rfl,fun j hj=>?_,fun x D=>?_⟩
    ·by_cases e:j=k
     ·rw [e];exact HE.out
     exact HX.out.2.1 j (by omega)
    rcases List.mem_append.1 D with D | D
    ·exact ((HX2.out x D).later (by go_grown)).row (HO2.out.alloc _) U
    rw [List.mem_singleton.1 D];exact (Z.out.later (by go_grown)).row (HO2.out.alloc _) U
   have HO3:Hid (w3.ownsRow w1.heap.size 26 1 v' (xs ++ [(⟨ep d k,A9,a⟩:RL)]).length (cT (xs ++ [(⟨ep d k,A9,a⟩:RL)]))):=by
    show World.ownsRow ..
    rw [ic,List.length_append,H.out];have e:cT [(⟨ep d k,A9,a⟩:RL)]=[.slice A9 r a]:=by simp [cT,HR.out]
    rw [e];exact hown'
   clear hown' U;go_wp2_with fail
   go_roundg (n-(k+1))
   case measure=>omega
   case rel=>exact ⟨k+1,_,by omega,rfl,by go_num,HX3,HO3.out,La.out⟩
  have hke:k=n:=by omega
  subst hke;have HL:Hid (lR xs=eV d):=by show _=_;rw [HX.out.1,←f.out];rfl
  have HAll:Hid (∀ j,j<d.n→mErr d j=0):=by rw [f.out];exact HX.out.2.1
  obtain ⟨Ar,cr,hv,hRv⟩:=pR hO fun x D=>(HX.out.2.2 x D).intT
  subst hv;have HRt:Hid (jh wr Ar xs):=Dx hO;have HRv:=aa hRv;have HRi:=aa HX.out.2.2;have HBa:=aa (ae K9.out (ae V.out hBw));have HIn:Hid (nA (eV d)):=lp d;have HNl:Hid ((eV d).length=k):=by show _=_;rw [fI];exact f.out
  have HRl:Hid (∀ j,j<k→(xs.getD j eq).p=(eV d).getD j []∧(xs.getD j eq).p.Pairwise (· < ·)∧(xs.getD j eq).p.length≤12):=fun j hj=>by
   have e:(xs.getD j eq).p=(eV d).getD j []:=by rw [←rs,HL.out]
   refine ⟨e,?_,?_⟩
   ·rw [e,mu (by rw [f.out];exact hj)];exact iC d j
   rw [e,mu (by rw [f.out];exact hj)];have:=sC d j;rw [f.out] at this;omega
  clear hO hBw hRv S;rw [H.out];obtain ⟨w4,rfl⟩:∃ w4:World,w4=wr:=⟨_,rfl⟩;go_wp2_with fail;clear c0 c1 c2
  go_loopg [17] k (fun g s17 wi => ∃ (j:Nat),j≤k∧g=k-j∧s17=.int .i64 j∧Hid (∀ t,t<j→cycB (eV d) t=false)∧Bl w4 wi)
  case atStart=>exact ⟨0,zU,rfl,rfl,(fun t ht=>absurd ht (Nat.not_lt_zero _):∀ t,t<0→_),zS⟩
  case round =>
   obtain ⟨j,hj,rfl,rfl,HCy,hBj⟩:=hrel;have Lb:=aa hBj
   by_cases F:j<k
   ·have hji:(j:Int)<(k:Int):=by omega
    obtain ⟨K7,hx0 | ⟨b,rfl,hbw,hcl⟩,-⟩:=HRv.out.later hBj
    ·have:=H.out;rw [hx0] at this;simp at this;omega
    have cj:=hcl j (by rw [H.out];exact F)
    rw [H.out] at K7;have hcapI:(k:Int)≤(cr:Int):=by omega
    obtain ⟨e1,e2,e3⟩:=HRl.out j F;have HRj:Hid (bV wr (xs.getD j eq).A (xs.getD j eq).c (xs.getD j eq).p):=(HRi.out _ (il (by rw [H.out];exact F))).later hBj
    have HC0:Hid (nV (eV d) j (xs.getD j eq).p):=⟨e2,fun x D=>.one (by unfold fC;rw [Int.toNat_natCast,←e1];exact D),fun x D=>by rw [e1];exact D⟩
    generalize (xs.getD j eq).p=L0 at cj HRj HC0;generalize (xs.getD j eq).A=A0 at cj HRj;generalize (xs.getD j eq).c=c0 at cj HRj;obtain ⟨wj,rfl⟩:∃ wj:World,wj=wr:=⟨_,rfl⟩;clear hcl hBj e1 e2 e3;go_wp2_with fail
    go_loopg [18,19] (2*(k-L0.length)+1) (fun g s18 s19 wi => ∃ (L:List Int) (A8:Option Addr) (c8:Nat) (ag:Bool),g=2*(k-L.length)+(if ag=true then 1 else 0)∧s18=.slice A8 L.length c8∧s19=.bool ag∧bV wi A8 c8 L∧Hid (nV (eV d) j L∧(ag=false→∀ u,u<L.length→∀ y∈fC (eV d) (L.getD u 0),y∈L))∧Bl wj wi)
    case atStart=>exact ⟨L0,A0,c0,true,rfl,rfl,rfl,HRj.out,(⟨HC0.out,fun e=>by cases e⟩:_∧_),zS⟩
    case round =>
     obtain ⟨L,A8,c8,ag,rfl,rfl,rfl,hR,HI,s⟩:=hrel;have HR:=aa hR;have E:=aa s;have hLk:L.length≤k:=by rw [←HNl.out];exact tT HI.out.1 HIn.out (by rw [HNl.out];exact F)
     cases ag
     case false =>
      have B:=AF A8 c8 L j wr (by omega) hR.intT.pl
      rw [EB HI.out.1 (HI.out.2 rfl)] at B;generalize L.length=m at B;clear hR s hLk;cases hcy:cycB (eV d) j
      ·rw [hcy] at B
       have HCy2:Hid (∀ t,t<j+1→cycB (eV d) t=false):=fun t ht=>by
        by_cases e:t=j
        ·rw [e];exact hcy
        exact HCy.out t (by omega)
       clear hcy;go_wp2_with fail;refine B.mono ?_;rintro e w6 ⟨rfl,hb6⟩;have HB6:=aa (ae Lb.out (ae E.out hb6));clear hb6 B;go_wp2_with fail
       go_roundg (k-(j+1))
       case measure=>omega
       case rel=>exact ⟨j+1,by omega,rfl,by go_num,HCy2,HB6.out⟩
      rw [hcy] at B;have q3:Hid (bv d=((j:Int),8)):=Kx HD.out HAll.out (by rw [f.out];exact F) hcy HCy.out
      clear hcy;go_wp2_with fail;refine B.mono ?_;rintro e w6 ⟨rfl,hb6⟩;have HB6:=aa (ae Lb.out (ae E.out hb6));clear hb6 B;go_wp2_with fail;go_returns;rw [q3.out];exact ⟨⟨none,0,[],rfl,db.nil _ _ _,fun e=>(by cases e),Or.inl rfl⟩,ae HBa.out HB6.out⟩
     case true =>
      have HLk:=aa hLk;clear hR s hLk;obtain ⟨w5,rfl⟩:∃ w5:World,w5=wr:=⟨_,rfl⟩;go_wp2_with fail
      go_loopg [18,19,20] k (fun g s18 s19 s20 wi => ∃ (t:Nat) (K:List Int) (A8:Option Addr) (c8:Nat) (ag:Bool),t≤K.length∧g=k-t∧s18=.slice A8 K.length c8∧s19=.bool ag∧s20=.int .i64 t∧bV wi A8 c8 K∧Hid (nV (eV d) j K∧(ag=false→K.length=L.length∧∀ u,u<t→∀ y∈fC (eV d) (K.getD u 0),y∈K)∧(ag=true→L.length<K.length))∧Bl w5 wi)
      case atStart=>exact ⟨0,L,A8,c8,false,zU,rfl,rfl,rfl,rfl,HR.out,(⟨HI.out.1,fun _=>⟨rfl,fun u hu=>absurd hu (Nat.not_lt_zero _)⟩,fun e=>by cases e⟩:_∧_∧_),zS⟩
      case round =>
       obtain ⟨t,K,A9,a,ag,htK,rfl,rfl,rfl,rfl,hR9,HK,K0⟩:=hrel;have Z:=aa hR9;have HB9:=aa K0;have hKk:K.length≤k:=by rw [←HNl.out];exact tT HK.out.1 HIn.out (by rw [HNl.out];exact F)
       have HKk:=aa hKk
       by_cases C:t<K.length
       ·have D:=Ha HK.out.1 HIn.out (by rw [HNl.out];exact F) _ (f6 (L:=K) (j:=t) C)
        rw [HNl.out] at D;obtain ⟨y,hy⟩:∃ y:Nat,K.getD t 0=(y:Int):=⟨(K.getD t 0).toNat,by omega⟩
        rw [hy] at D;have hyk:y<k:=by omega
        have hyi:(y:Int)<(k:Int):=by omega
        have HYm:Hid ((y:Int)∈K):=by rw [←hy];exact f6 C
        have HYt:=aa hy;obtain ⟨e1,e2,e3⟩:=HRl.out y hyk;have HRow:Hid (fC (eV d) (y:Int)=(xs.getD y eq).p):=by show _=_;unfold fC;rw [Int.toNat_natCast,e1]
        have X:Hid (∀ w',Bl wr w'→w'.cell? ⟨b,y,none⟩=some (.slice (xs.getD y eq).A (xs.getD y eq).p.length (xs.getD y eq).c)∧aR w' (xs.getD y eq).A (xs.getD y eq).c (xs.getD y eq).p∧b<w'.heap.size):=fun w' hB=>by
         obtain ⟨-,h0 | ⟨b',hb',hbz,hcl⟩,hrw⟩:=HRv.out.later (ae Lb.out (ae E.out (ae HB9.out hB)))
         ·have:=H.out;rw [h0] at this;simp at this;omega
         cases hb';exact ⟨hcl y (by rw [H.out];exact hyk),hrw _ (il (by rw [H.out];exact hyk)),hbz⟩
        have HKt:Hid (∀ w',Bl wr w'→∃ bk,A9=some ⟨bk,0,none⟩∧bk<w'.heap.size∧w'.cell? ⟨bk,t,none⟩=some (.int .i64 y)):=fun w' hB=>by
         obtain ⟨-,-,h0 | ⟨bk,cs,fr,h1,I,h3⟩⟩:=(Z.out.later hB).intT
         ·rw [h0] at C;simp at C
         exact ⟨bk,h1,(zY I).1,by rw [h3 t C,hy]⟩
        have hcK:K.length≤a:=Z.out.intT.1;obtain ⟨R,hRe⟩:=az ((xs.getD y eq).p);rw [hRe] at X HRow e3;generalize (xs.getD y eq).A=Ay at X;generalize (xs.getD y eq).c=cy at X;obtain ⟨r,hr⟩:=az R.length;have HRr:=aa hr;rw [hr] at X e3;have hrI:(r:Int)≤12:=by omega
        obtain ⟨mk,hmk⟩:=az K.length;have K4:=aa hmk;rw [hmk] at C hKk hcK htK;rw [hmk];have hti:(t:Int)<(mk:Int):=by omega
        have hmI:(mk:Int)≤12:=by omega
        have hcKi:(mk:Int)≤(a:Int):=by omega
        obtain ⟨bk,rfl,-,-⟩:=HKt.out wr (zS);obtain ⟨w6,rfl⟩:∃ w6:World,w6=wr:=⟨_,rfl⟩;clear hR9 K0 D hy e1 e2 hRe hr hmk;go_wp2_with fail
        go_loopg [18,19,21] r (fun g s18 s19 s21 wi => ∃ (u:Nat),u≤r∧g=r-u∧s18=.slice (some ⟨bk,0,none⟩) mk a∧s19=.bool ag∧s21=.int .i64 u∧Hid (∀ v,v<u→R.getD v 0∈K)∧Bl w6 wi)
        case atStart=>exact ⟨0,zU,rfl,rfl,rfl,rfl,(fun v hv=>absurd hv (Nat.not_lt_zero _):∀ v,v<0→_),zS⟩
        case round =>
         obtain ⟨u,hu,rfl,rfl,rfl,rfl,HU,hBu⟩:=hrel;have HBu:=aa hBu;obtain ⟨cy1,hTy,hbz⟩:=X.out wr hBu;obtain ⟨bk',hbk',hbkl,ckt⟩:=HKt.out wr hBu;cases hbk'
         by_cases hul:u<r
         ·have hui:(u:Int)<(r:Int):=by omega
          obtain ⟨hcR,-,hR0 | ⟨br,cs,fr,rfl,hbr,hcr⟩⟩:=hTy
          ·have:=HRr.out;rw [hR0] at this;simp at this;omega
          have cu:=hcr u (by rw [HRr.out];exact hul)
          rw [HRr.out] at hcR;have hcRi:(r:Int)≤(cy:Int):=by omega
          have hbrl:br<wr.heap.size:=(zY hbr).1;have HZm:Hid (R.getD u 0∈fC (eV d) (y:Int)):=by rw [HRow.out];exact f6 (by rw [HRr.out];exact hul)
          obtain ⟨z,hz⟩:=az (R.getD u 0);have HZ:=aa hz;rw [hz] at cu HZm;have B:=AF (some ⟨bk,0,none⟩) a K z wr (by rw [K4.out];omega) (Z.out.later hBu).intT.pl
          rw [K4.out] at B;clear hcr hbr hBu hz
          by_cases hzK:z∈K
          ·rw [List.contains_iff_mem.2 hzK] at B
           have HU2:Hid (∀ v,v<u+1→R.getD v 0∈K):=fun v hv=>by
            by_cases e:v=u
            ·rw [e,HZ.out];exact hzK
            exact HU.out v (by omega)
           clear hzK;go_wp2_with fail;refine B.mono ?_;rintro e w7 ⟨rfl,J⟩;have HB7:=aa (ae HBu.out J);clear J B cy1 ckt cu;go_wp2_with fail
           go_roundg (r-(u+1))
           case measure=>omega
           case rel=>exact ⟨u+1,by omega,rfl,rfl,rfl,by go_num,HU2,HB7.out⟩
          have hzf:K.contains z=false:=by rw [←Bool.not_eq_true,List.contains_iff_mem];exact hzK
          rw [hzf] at B;have HPu:Hid (∀ w',Bl w6 w'→Calls Tryz.prog 70 #[.slice (some ⟨bk,0,none⟩) mk a,.int .i64 z] w' fun e w''=>(∃ A' c',e=.returned (.slice A' (cY K z).length c')∧bV w'' A' c' (cY K z))∧Bl w' w''):=fun w' hB=>by
           rw [←K4.out];exact lA (some ⟨bk,0,none⟩) a K z w' (by rw [K4.out];omega) (Z.out.later hB)
          have HK3:Hid (t+1≤(cY K z).length∧nV (eV d) j (cY K z)∧L.length<(cY K z).length):=by
           have hl:=F8 hzK;refine ⟨by rw [hl,K4.out];omega,EC HK.out.1 HYm.out HZm.out,?_⟩
           rw [hl];cases ag
           ·have:=(HK.out.2.1 rfl).1;omega
           have:=HK.out.2.2 rfl;omega
          clear hzK hzf;go_wp2_with fail;refine B.mono ?_;rintro e w7 ⟨rfl,J⟩;have hB7:Bl w6 w7:=ae HBu.out J;have HB7:=aa hB7;have G:=HPu.out w7 hB7;have cy7:=aC J hbz cy1;have ck7:=aC J hbkl ckt;have cu7:=aC J hbrl cu;have hz7:b<w7.heap.size:=zW hbz J.size;have hk7:bk<w7.heap.size:=zW hbkl J.size;have hr7:br<w7.heap.size:=zW hbrl J.size;clear J B cy1 ckt cu hB7;go_wp2_with fail;refine G.mono ?_;rintro e w8 ⟨⟨A8',c8',rfl,hR8⟩,hb8⟩;have HR8:=aa hR8;have HB8:=aa (ae HB9.out (ae HB7.out hb8));clear hR8 hb8 G cy7 ck7 cu7;go_wp2_with fail
          go_roundg (k-(t+1))
          case measure=>omega
          case rel=>exact ⟨t+1,cY K z,A8',c8',true,HK3.out.1,rfl,rfl,rfl,by go_num,HR8.out,(⟨HK3.out.2.1,fun e=>(by cases e),fun _=>HK3.out.2.2⟩:_∧_∧_),HB8.out⟩
         have hue:u=r:=by omega
         subst hue;have HK3:Hid (nV (eV d) j K∧(ag=false→K.length=L.length∧∀ u,u<t+1→∀ y∈fC (eV d) (K.getD u 0),y∈K)∧(ag=true→L.length<K.length)):=by
          refine ⟨HK.out.1,fun e=>⟨(HK.out.2.1 e).1,fun v hv z hz=>?_⟩,HK.out.2.2⟩
          by_cases ev:v=t
          ·rw [ev,HYt.out,HRow.out] at hz
           obtain ⟨i,hi,rfl⟩:=List.getElem_of_mem hz;have h:=HU.out i (by rw [←HRr.out];exact hi)
           rw [zZ,zX hi] at h;exact h
          exact (HK.out.2.1 e).2 v (by omega) z hz
         clear hBu hTy;go_wp2_with fail
         go_roundg (k-(t+1))
         case measure=>omega
         case rel=>exact ⟨t+1,K,some ⟨bk,0,none⟩,a,ag,by rw [K4.out];omega,rfl,by rw [K4.out],rfl,by go_num,Z.out.later HBu.out,HK3,ae HB9.out HBu.out⟩
       have K6:t=K.length:=by omega
       have HK2:Hid (nV (eV d) j K∧(ag=false→∀ u,u<K.length→∀ y∈fC (eV d) (K.getD u 0),y∈K)):=⟨HK.out.1,fun e=>by rw [←K6];exact (HK.out.2.1 e).2⟩
       have HM2:Hid (2*(k-K.length)+(if ag=true then 1 else 0)<2*(k-L.length)+(if true=true then 1 else 0)):=by
        show _<_
        cases ag
        ·have h:=(HK.out.2.1 rfl).1
         rw [h]
         simp
        have h:=HK.out.2.2 rfl
        simp
        omega
       obtain ⟨m,hm⟩:=az K.length;have HMm:=aa hm;have hmI:(m:Int)≤12:=by omega
       rw [hm] at K6;subst K6;rw [hm];clear hR9 K0 hKk htK C hm;go_wp2_with fail
       go_roundg (2*(k-K.length)+(if ag=true then 1 else 0))
       case measure=>exact HM2.out
       case rel=>exact ⟨K,A9,a,ag,rfl,by rw [HMm.out],rfl,Z.out,HK2,ae E.out HB9.out⟩
   have hje:j=k:=by omega
   subst hje;have q3:Hid (bv d=(-1,0)):=Ky HD.out HAll.out (by rw [f.out];exact HCy.out)
   clear hBj;go_wp2_with fail;go_returns;rw [q3.out];exact ⟨⟨Ar,cr,xs,by rw [H.out];rfl,HRv.out.later Lb.out,fun _=>HL.out,HRt.out.later Lb.out⟩,ae HBa.out Lb.out⟩
end Go.Proofs.YtohgnbgamfepoaaGreatDoor
