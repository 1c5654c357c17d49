/- What the document's ow -/
import Derived.Test.YthlhjjabkgpenaaGreatDoorJTAV
import Derived.Test.YthlhjjabkgpenaaGreatDoorJTAY
namespace Go.Proofs.YthlhjjabkgpenaaGreatDoor
open ChangeShapes WideShapes ChangeAt RowKit
set_option maxRecDepth 99999
set_option maxHeartbeats 0
theorem bQ.row {w w':World} {base:Nat} {v:Value} {n:Nat} {zs:List Value} {A:Option Addr} {c:Nat} {L:List Int} (h:bQ w A c L) (a:w.ownsRow base 26 1 v n zs) (b:w.grownBy w' v.ownBlock):bQ w' A c L:=by
 rcases h with h | ⟨h1,h⟩
 ·exact Or.inl h
 exact Or.inr ⟨h1,h.row a b⟩
theorem BM {d:Dm} (h:(au d).2≠0):((au d).2 != 0)=true:=by simpa using h
def iL (w:World) (A:Option Addr) (xs:List RL):Prop:=xs=[]∨∃ b cs fr,A=some ⟨b,0,none⟩∧w.heap[b]?=some (.cells cs 26 fr)
theorem iL.later {w w':World} {A:Option Addr} {a:List RL} (h:iL w A a) (c:Bl w w'):iL w' A a:=by
 rcases h with h | ⟨b,cs,fr,h1,h2⟩
 ·exact Or.inl h
 exact Or.inr ⟨b,cs,fr,h1,(c.block b (zY h2).1).trans h2⟩
theorem Ca {w:World} {base:Nat} {A:Option Addr} {c:Nat} {a:List RL} (h:w.ownsRow base 26 1 (.slice A a.length c) a.length (cD a)):iL w A a:=by
 rcases h.2 with ⟨d,e⟩ | ⟨g,cap,b,d,i,f,_⟩
 ·exact Or.inl (List.eq_nil_of_length_eq_zero e)
 cases d;exact Or.inr ⟨g,b,_,rfl,f⟩
def mU (N:List (List Int)) (i:Nat) (L:List Int):Prop:=L.Pairwise (· < ·)∧(∀ x∈L,Rch N i x)∧∀ x∈N.getD i [],x∈L
theorem sP {N:List (List Int)} {i:Nat} {L:List Int} (h:mU N i L) (a:mw N) (c:i<N.length):L.length≤N.length:=few _ _ (oM h.1) fun x b=>(h.2.1 x b).inn a (by omega) (by omega)
theorem FU {N:List (List Int)} {i:Nat} {L:List Int} (h:mU N i L) (a:mw N) (c:i<N.length):∀ x∈L,0≤x∧x<(N.length:Int):=fun x b=>(h.2.1 x b).inn a (by omega) (by omega)
theorem Dd {N:List (List Int)} {i:Nat} {L:List Int} {x y:Int} (h:mU N i L) (b:x∈L) (c:y∈e8 N x):mU N i (cF L y):=by
 refine ⟨kP _ _ h.1,fun z a=>?_,fun z a=>(js _ _ _).2 (Or.inl (h.2.2 z a))⟩
 rcases (js _ _ _).1 a with e | e
 ·exact h.2.1 z e
 rw [e];exact (h.2.1 x b).snoc c
theorem Dc {N:List (List Int)} {i:Nat} {L:List Int} (h:mU N i L) (c:∀ u,u<L.length→∀ y∈e8 N (L.getD u 0),y∈L):L.contains (i:Int)=cycB N i:=by
 rw [Bool.eq_iff_iff,List.contains_iff_mem,cyc_iff];refine ⟨h.2.1 _,fun d=>d.closed (S:=fun y=>y∈L) (fun y a=>h.2.2 y (by unfold e8 at a;simpa using a)) fun y a z e=>?_⟩
 obtain ⟨u,b,rfl⟩:=List.getElem_of_mem a;refine c u b z ?_;rw [zZ,zX b];exact e
theorem oZ (d:Dm) (A:Option Addr) (cap:Nat) (w:World) (hM:dP w A cap d.n d.mem) :
  Calls Tryz.prog 80 #[cA d A cap] w fun e w'=>(∃ A' c' a,e=.returned (.tuple #[.slice A' a.length c',.int .i64 (a8 d).1,.int .i64 (a8 d).2])∧cT w' A' c' a∧((a8 d).2=0→lR a=eu d)∧iL w' A' a)∧Bl w w':=by
 have hB0:=aM w d A cap 37;have U:=uA d A cap (aI w d A cap 37) (hM.later hB0);have HM:=aa hM;have T:Hid (∀ w1,Below (aI w d A cap 37).heap.size (aI w d A cap 37) w1→w1.cell? ⟨w.heap.size,0,none⟩=some (.string d.name)∧w1.cell? ⟨w.heap.size,1,none⟩=some (.int .i64 d.solve)∧w1.cell? ⟨w.heap.size,2,none⟩=some (.slice A d.n cap)∧w.heap.size<w1.heap.size):=fun w1 h=>eT h
 unfold cA at U ⊢;obtain ⟨W,hW⟩:=ax (aI w d A cap 37);rw [hW] at hB0 U T;unfold aI at hW;have LE:=aa hB0;clear hM hB0
 by_cases hd:(au d).2=0
 case neg =>
  rw [KV hd];have HE:=aa hd;have hne:=BM hd;generalize (au d).1=x at U ⊢;generalize (au d).2=c at U HE hne ⊢;obtain ⟨d0,d1,d2,hqW⟩:=T.out W (zS);clear hd
  go_enter Tryz.func80,Tryz.ntmps80
  go_wp2_with fail;refine U.mono ?_;rintro e w1 ⟨rfl,hb1⟩;go_wp2_with fail;go_returns;exact ⟨⟨none,0,[],rfl,cT.nil _ _ _,fun e=>absurd e HE.out,Or.inl rfl⟩,ae LE.out hb1⟩
 obtain ⟨hd1,hdn,LD,hall⟩:=aG hd;have HF1:Hid (∀ i,i<d.n→(d.mem i).formula.size≤100):=fun i hi=>gd (hall i hi)
 have HD:=aa hd;rw [hd,hd1] at U;obtain ⟨i0,hi0,hz0,hz1,hz2⟩:=info_parts Tryz.infoRow;obtain ⟨n,hn⟩:=ax d.n;have q:=aa hn;rw [hn] at U hW T hdn LD HF1 ⊢;have hnI:(n:Int)≤12:=by omega
 obtain ⟨d0,d1,d2,hqW⟩:=T.out W (zS);clear hd hn hd1 hall
 go_enter Tryz.func80,Tryz.ntmps80
 go_wp2_with fail;refine U.mono ?_;rintro e w1 ⟨rfl,hb1⟩;have X:=aa hb1;obtain ⟨c0,c1,c2,hq1⟩:=T.out w1 hb1;clear hb1 U d0 d1 d2 hW;go_wp2_with fail
 go_loopg [7,8] n (fun g s7 s8 wr => ∃ (k:Nat) (a:List RL),k≤n∧g=n-k∧s8=.int .i64 k∧Hid (lR a=rH d k∧(∀ j,j<k→mErr d j=0)∧∀ x∈a,bQ wr x.A x.c x.p)∧wr.ownsRow w1.heap.size 26 1 s7 a.length (cD a)∧Bl w1 wr)
 case atStart=>exact ⟨0,[],zU,rfl,rfl,(⟨rfl,fun j hj=>absurd hj (Nat.not_lt_zero _),fun x E=>by cases E⟩:_∧_∧_),World.ownsRow_nil _ _ _ _,zS⟩
 case round =>
  obtain ⟨k,a,hk,rfl,rfl,HX,hO,hBw⟩:=hrel;have HO:=aa hO;have LH:=aa hBw;have I:Hid (a.length=k):=by
   have h:=HX.out.1
   show _=_
   rw [←nO,h]
   simp [rH]
  obtain ⟨c0,c1,c2,hq⟩:=T.out wr (ae X.out hBw)
  by_cases G:k<n
  ·have hki:(k:Int)<(n:Int):=by omega
   obtain ⟨LC,h0 | ⟨b,o,rfl,hMs⟩⟩:=HM.out.later (ae LE.out (ae X.out hBw))
   ·have:=q.out;omega
   obtain ⟨-,-,-,c3⟩:=hMs.2 k (by rw [q.out];exact G)
   have HMs:=aa hMs;have hbw:b<wr.heap.size:=hMs.1;have HCp:=aa LC;clear hO hBw hMs LC;obtain ⟨wk,rfl⟩:∃ wk:World,wk=wr:=⟨_,rfl⟩
   go_upto_if 46 with fail
   go_cut [9] from 33 to 115 (fun s9 wx => ∃ A9 f,s9=.slice A9 (dQ d k).length f∧bQ wx A9 f (dQ d k)∧mErr d k=0∧Bl wk wx)
   case first =>
    by_cases hf:(d.mem k).formula.size=0
    ·have hf':(d.mem k).formula.toList.isEmpty=true:=by rw [aN];simpa using hf
     have HF:=aa hf;have HE:Hid (mErr d k=0):=by show _=_;unfold mErr;rw [if_pos hf]
     have hpa:=oQ d b o cap k wk (by rw [q.out];exact LD) HMs.out
     rw [q.out] at hpa;have HPm:Hid (∀ x∈bj d.mem n k,∃ y:Nat,x=(y:Int)∧y<n):=fun x E=>by
      obtain ⟨m,h1,J,-⟩:=dE x E;exact ⟨m,h1,J⟩
     have HPl:Hid ((bj d.mem n k).length≤12):=zV (cS _ _) LD;have HPe:Hid (ek d (bj d.mem n k) (bj d.mem n k).length=dQ d k):=by
      have h:=wY hf;rw [q.out] at h
      show _=_
      unfold ek;rw [List.take_length];exact h
     obtain ⟨P,hP⟩:=ax (bj d.mem n k);rw [hP] at hpa HPm HPl HPe;obtain ⟨m,hm⟩:=ax P.length;have S:=aa hm;rw [hm] at hpa HPl HPe;have hmI:(m:Int)≤12:=by have:=HPl.out;omega
     rw [hf'];clear hf hP hm;go_wp2_with fail;refine hpa.mono ?_;rintro e w2 ⟨⟨A2,c2',rfl,hI2⟩,Lw⟩;have N:=aa Lw;have HI2:=aa hI2;have HM2:=aa (HMs.out.later Lw);clear Lw hI2 hpa c0 c1 c2;go_wp2_with fail
     go_loopg [9,16] m (fun g s9 s16 wi => ∃ (t:Nat) (A9:Option Addr) (f:Nat),t≤m∧g=m-t∧s16=.int .i64 t∧s9=.slice A9 (ek d P t).length f∧bQ wi A9 f (ek d P t)∧Bl w2 wi)
     case atStart=>exact ⟨0,none,0,zU,rfl,rfl,rfl,bQ.nil _,zS⟩
     case round =>
      obtain ⟨t,A9,f,ht,rfl,rfl,rfl,hR,B⟩:=hrel;have HR:=aa hR;have F:=aa B;have hpl:=wP d P t (by rw [S.out];exact ht)
      by_cases D:t<m
      ·have hti:(t:Int)<(m:Int):=by omega
       obtain ⟨hcI,hI0 | ⟨bi,rfl,hbi,hci⟩⟩:=HI2.out.later B
       ·have:=S.out;rw [hI0] at this;simp at this;omega
       have ct:=hci t (by rw [S.out];exact D)
       obtain ⟨y,hy,hyn⟩:=HPm.out (P.getD t 0) (gA (by rw [S.out];exact D))
       have s:Hid (ek d P (t+1)=if u6 d (y:Int)=true then cF (ek d P t) y else ek d P t):=md (by rw [S.out];exact D) hy
       rw [hy] at ct;rw [S.out] at hcI;have hyi:(y:Int)<(n:Int):=by omega
       have hcIi:(m:Int)≤(c2':Int):=by omega
       obtain ⟨-,-,csg,-⟩:=(HM2.out.later B).2 y (by rw [q.out];exact hyn)
       obtain ⟨q0,q1,q2,hqi⟩:=T.out wr (ae X.out (ae LH.out (ae N.out B)));have hbw':b<wr.heap.size:=(HM2.out.later B).1;have hsg:u6 d (y:Int)=decide ((d.mem y).sign≠0):=by unfold u6;rw [Int.toNat_natCast]
       obtain ⟨K,hK⟩:=ax (ek d P t);rw [hK] at s HR hpl;rw [hK];have H:=kO A9 f K y wr (by omega)
       clear hci hy hK hR
       by_cases hs0:(d.mem y).sign=0
       ·have hsb:((d.mem y).sign != 0)=false:=by simpa using hs0
        rw [hsg,decide_eq_false (by simpa using hs0),if_neg (by decide)] at s
        clear H;go_wp2_with fail
        go_quiet (fail)
        go_wp2_with fail
        go_roundg (m-(t+1))
        case measure=>omega
        case rel=>exact ⟨t+1,A9,f,by omega,rfl,by go_num,by rw [s.out],by rw [s.out];exact HR.out.later (ac (zS) _),ac F.out _⟩
       have hsb:((d.mem y).sign != 0)=true:=by simpa using hs0
       rw [hsg,decide_eq_true hs0,if_pos rfl] at s;have HPu:Hid (∀ w',bQ w' A9 f K→Calls Tryz.prog 82 #[.slice A9 K.length f,.int .i64 y] w' fun e w''=>(∃ A' c',e=.returned (.slice A' (cF K y).length c')∧bQ w'' A' c' (cF K y))∧Bl w' w''):=fun w' h=>kO A9 f K y w' (by omega) h
       obtain ⟨kl,LA⟩:=ax K.length;rw [LA] at HPu;rw [LA];clear H LA;go_wp2_with fail
       go_quiet (fail)
       have HBq:Hid (Bl w2 (wr.drewN nq)):=ac F.out _;have ct':(wr.drewN nq).cell? ⟨bi,t,none⟩=some (.int .i64 y):=((ac (zS) nq:Bl wr (wr.drewN nq)).cell (p:=⟨bi,t,none⟩) hbi).trans ct;have hbi':bi<(wr.drewN nq).heap.size:=zW hbi (ac (zS) nq:Bl wr (wr.drewN nq)).size;have H:=HPu.out (wr.drewN nq) (HR.out.later (ac (zS) nq));clear ct q0 q1 q2 csg;go_wp2_with fail;refine H.mono ?_;rintro e w3 ⟨⟨A3,c3',rfl,hR3⟩,hb3⟩;have HR3:Hid (bQ w3 A3 c3' (ek d P (t+1))):=by rw [s.out];exact hR3
       have LF:=aa (ae HBq.out hb3);clear hR3 hb3 H;go_wp2_with fail
       go_roundg (m-(t+1))
       case measure=>omega
       case rel=>exact ⟨t+1,A3,c3',by omega,rfl,by go_num,by rw [s.out],HR3.out,LF.out⟩
      have LB:t=m:=by omega
      subst LB;have Z:=aa HPe.out;clear B hR;go_wp2_with fail;go_meet;exact ⟨A9,f,by rw [Z.out],by rw [←Z.out];exact HR.out,HE.out,ae N.out F.out⟩
    have hf':(d.mem k).formula.toList.isEmpty=false:=by rw [aN];simpa using hf
    have Q:=qR (d.mem k).formula wk (HF1.out k G);have HFn:=aa hf;have HPr:Hid (prsE (d.mem k).formula≠0→mErr d k=prsE (d.mem k).formula):=fun h=>DU hf h
    have HRf:Hid (prsE (d.mem k).formula=0→∀ x∈bE (d.mem k).formula,x.op=2→whL d x.name.data.toList<0→mErr d k=5):=fun h x E J hw=>DV hf h E J hw
    have HAl:Hid (prsE (d.mem k).formula=0→(∀ x∈bE (d.mem k).formula,x.op=2→0≤whL d x.name.data.toList)→mErr d k=0∧fE d (bE (d.mem k).formula) (bE (d.mem k).formula).length=dQ d k):=fun h ha=>by
     have he:=DT hf h ha;refine ⟨he,?_⟩;unfold fE;rw [List.take_length];exact BH HD.out hf he
    have HFl:Hid (prsE (d.mem k).formula=0→(bE (d.mem k).formula).length≤30):=fun h=>(dw (dC h)).2.1
    rw [hf'];obtain ⟨fm,hfm⟩:=ax ((d.mem k).formula);rw [hfm] at c3 Q HPr HRf HAl HFl;clear hf hfm hf';generalize (i6 fm:Int)=pa at Q
    by_cases O:prsE fm=0
    case neg =>
     have hpb:(prsE fm != 0)=true:=by simpa using O
     have HPe:=aa O;have Lu:Hid (a8 d=((k:Int),prsE fm)):=by
      have h:=HPr.out O;have J:=KD HD.out (i:=k) (by rw [q.out];exact G) (by rw [h];exact O) HX.out.2.1
      rw [h] at J;exact J
     generalize prsE fm=pe at Q hpb Lu HPe;generalize (bE fm).length=pl at Q;clear O;go_wp2_with fail;refine Q.mono ?_;rintro e w2 ⟨⟨A2,c2',rfl,-⟩,Lw⟩;go_wp2_with fail;go_returns;rw [Lu.out];exact ⟨⟨none,0,[],rfl,cT.nil _ _ _,fun e=>absurd e HPe.out,Or.inl rfl⟩,ae LE.out (ae X.out (ae LH.out Lw))⟩
    rw [O] at Q;have hfl:=HFl.out O;have HAl2:=aa (HAl.out O);have HRf2:=aa (HRf.out O);obtain ⟨l,hl⟩:=ax (bE fm);rw [hl] at Q hfl HAl2 HRf2;obtain ⟨m,hm⟩:=ax l.length;have Lx:=aa hm;rw [hm] at Q hfl HAl2;have hmI:(m:Int)≤30:=by omega
    clear O hl hm HPr HRf HAl HFl;go_wp2_with fail;refine Q.mono ?_;rintro e w2 ⟨⟨A2,c2',rfl,hN2⟩,Lw⟩;have N:=aa Lw;have HN2:=aa hN2;clear Lw hN2 Q c0 c1 c2;go_wp2_with fail
    go_loopg [9,13] m (fun g s9 s13 wi => ∃ (t:Nat) (A9:Option Addr) (f:Nat),t≤m∧g=m-t∧s13=.int .i64 t∧s9=.slice A9 (fE d l t).length f∧Hid (∀ j,j<t→(l.getD j bH).op=2→0≤whL d (l.getD j bH).name.data.toList)∧bQ wi A9 f (fE d l t)∧Bl w2 wi)
    case atStart=>exact ⟨0,none,0,zU,rfl,rfl,rfl,(fun j hj=>absurd hj (Nat.not_lt_zero _):∀ j,j<0→_),bQ.nil _,zS⟩
    case round =>
     obtain ⟨t,A9,f,ht,rfl,rfl,rfl,HA,hR,B⟩:=hrel;have HR:=aa hR;have F:=aa B;have hpl:=BG d l t (by rw [Lx.out];exact ht)
     by_cases D:t<m
     ·have hti:(t:Int)<(m:Int):=by omega
      obtain ⟨hcN,-,hN0 | ⟨bn,on,rfl,hNn⟩⟩:=HN2.out.later B
      ·have:=Lx.out;rw [hN0] at this;simp at this;omega
      obtain ⟨x0,-,x2,-,-⟩:=hNn.nd (k:=t) (by rw [Lx.out];exact D)
      have hbn:bn<wr.heap.size:=hNn.1;rw [Lx.out] at hcN;have HMx:Hid (l.getD t bH∈l):=by
       show _∈_
       rw [zZ,zX (by rw [Lx.out];exact D)]
       exact List.getElem_mem _
      have s:Hid (fE d l (t+1)=if (l.getD t bH).op=2 then cF (fE d l t) (whL d (l.getD t bH).name.data.toList) else fE d l t):=oG (by rw [Lx.out];exact D) rfl
      have HA2:Hid (((l.getD t bH).op=2→0≤whL d (l.getD t bH).name.data.toList)→∀ j,j<t+1→(l.getD j bH).op=2→0≤whL d (l.getD j bH).name.data.toList):=fun h j hj J=>by
       by_cases e:j=t
       ·rw [e] at J ⊢;exact h J
       exact HA.out j (by omega) J
      obtain ⟨x,E⟩:=ax (l.getD t bH);rw [E] at x0 x2 HMx s HA2;obtain ⟨K,hK⟩:=ax (fE d l t);rw [hK] at s HR hpl;rw [hK];obtain ⟨q0,q1,q2,hqi⟩:=T.out wr (ae X.out (ae LH.out (ae N.out B)));clear hR E hK hNn
      by_cases J:x.op=2
      ·rw [if_pos J] at s
       have HWh:Hid (∀ w',Bl wr w'→Rt 57 #[.agg #[.string d.name,.int .i64 d.solve,.slice (some ⟨b,o,none⟩) n cap],.string x.name] w' (.int .i64 (whL d x.name.data.toList))):=fun w' hB=>by
        have h:=lN d (some ⟨b,o,none⟩) cap x.name w' (by rw [q.out];exact LD) (HM.out.later (ae LE.out (ae X.out (ae LH.out (ae N.out (ae F.out hB))))))
        unfold cA at h;rw [k7,q.out] at h;exact h
       have HBad:Hid (whL d x.name.data.toList<0→a8 d=((k:Int),5)):=fun hw=>by
        have h:=HRf2.out x HMx.out J hw;have h3:=KD HD.out (i:=k) (by rw [q.out];exact G) (by rw [h];decide) HX.out.2.1
        rw [h] at h3;exact h3
       have HA3:Hid (0≤whL d x.name.data.toList→∀ j,j<t+1→(l.getD j bH).op=2→0≤whL d (l.getD j bH).name.data.toList):=fun h=>HA2.out fun _=>h
       rw [J] at x0;obtain ⟨y,hy⟩:=ax (whL d x.name.data.toList);rw [hy] at HWh s HBad HA3;generalize x.name=nm at x2 HWh;obtain ⟨kl,LA⟩:=ax K.length;have HPu:Hid (∀ w',bQ w' A9 f K→Calls Tryz.prog 82 #[.slice A9 kl f,.int .i64 y] w' fun e w''=>(∃ A' c',e=.returned (.slice A' (cF K y).length c')∧bQ w'' A' c' (cF K y))∧Bl w' w''):=fun w' h=>by rw [←LA];exact kO A9 f K y w' (by omega) h
       rw [LA];clear B LA hy J
       go_upto_region 17 with fail
       go_cut [14] from 62 to 86 (fun s14 wx=>s14=.int .i64 y∧Bl wr wx)
       case first =>
        go_region_law ((go_simp;refine (HWh.out _ (by go_grown)).mono ?_;rintro e w3 ⟨rfl,hb3⟩;have hN3:=ae (W0:=wr) (by go_grown) hb3;clear hb3))
        all_goals go_wp2_with fail
        all_goals go_meet
        all_goals exact ⟨rfl,hN3⟩
       case rest =>
       obtain ⟨rfl,hBc⟩:=hcut;obtain ⟨w3,rfl⟩:∃ w3:World,w3=wc:=⟨_,rfl⟩;have LF:=aa (ae F.out hBc);have H:=HPu.out w3 (HR.out.later hBc);clear hBc q0 q1 q2 x0 x2
       by_cases hy0:y<0
       ·have Lu:=aa (HBad.out hy0)
        clear H;go_wp2_with fail;go_returns;rw [Lu.out];exact ⟨⟨none,0,[],rfl,cT.nil _ _ _,fun e=>(by cases e),Or.inl rfl⟩,ae LE.out (ae X.out (ae LH.out (ae N.out LF.out)))⟩
       have hy1:decide (y<0)=false:=decide_eq_false hy0;have HA4:Hid (∀ j,j<t+1→(l.getD j bH).op=2→0≤whL d (l.getD j bH).name.data.toList):=HA3.out (by omega)
       clear hy0;go_wp2_with fail;refine H.mono ?_;rintro e w4 ⟨⟨A4,c4,rfl,hR4⟩,hb4⟩;have HR4:Hid (bQ w4 A4 c4 (fE d l (t+1))):=by rw [s.out];exact hR4
       have HB4:=aa (ae LF.out hb4);clear hR4 hb4 H;go_wp2_with fail
       go_roundg (m-(t+1))
       case measure=>omega
       case rel=>exact ⟨t+1,A4,c4,by omega,rfl,by go_num,by rw [s.out],HA4,HR4.out,HB4.out⟩
      have h2b:(x.op != 2)=true:=by simpa using J
      rw [if_neg J] at s;have HA3:Hid (∀ j,j<t+1→(l.getD j bH).op=2→0≤whL d (l.getD j bH).name.data.toList):=HA2.out fun h=>absurd h J
      clear J B;go_wp2_with fail
      go_roundg (m-(t+1))
      case measure=>omega
      case rel=>exact ⟨t+1,A9,f,by omega,rfl,by go_num,by rw [s.out],HA3,by rw [s.out];exact HR.out,F.out⟩
     have LB:t=m:=by omega
     subst LB;obtain ⟨HE,Z⟩:Hid (mErr d k=0)∧Hid (fE d l t=dQ d k):=by
      have h:=HAl2.out fun x E J=>by
       obtain ⟨j,hj,rfl⟩:=List.getElem_of_mem E;have h3:=HA.out j (by rw [←Lx.out];exact hj)
       rw [zZ,zX hj] at h3;exact h3 J
      exact h
     clear B hR;go_wp2_with fail;go_meet;exact ⟨A9,f,by rw [Z.out],by rw [←Z.out];exact HR.out,HE.out,ae N.out F.out⟩
   case rest =>
   obtain ⟨A9,f,rfl,hR9,he,Lv⟩:=hcut;obtain ⟨w2,rfl⟩:∃ w2:World,w2=wc:=⟨_,rfl⟩;have HE:=aa he;have Lt:=aa hR9;have N:=aa (ae LH.out Lv);have HO2:Hid (w2.ownsRow w1.heap.size 26 1 u7 k (cD a)):=by
    have h:=ar HO.out Lv;rw [I.out] at h;exact h
   have HX2:Hid (∀ x∈a,bQ w2 x.A x.c x.p):=fun x E=>(HX.out.2.2 x E).later Lv
   have hsz:=N.out.size;obtain ⟨r,hr⟩:=ax ((dQ d k).length);have HR:=aa hr;rw [hr];clear hR9 he Lv c0 c1 c2 c3 hr
   go_wp2_with (at_builtin;refine wpList_append_own _ rfl _ _ 59 rfl w1.heap.size 26 i0 (.slice none 0 0) 1 24 Tryz.underlying59 hi0 hz0 hz1 hz2 rfl (by decide) _ _ _ rfl (HO2.out.alloc _) ⟨w2.heap.size,0,none⟩ 1 1 [.slice A9 r f] rfl rfl bu (by intro u hu;simp at hu;subst hu;rfl) (by unfold maxLen;omega) (by omega) (by simp;omega) ?_)
   intro v' w3 hown' V _;have LF:Hid (Bl w1 w3):=bA N.out HO2.out V;have HX3:Hid (lR (a ++ [(⟨dQ d k,A9,f⟩:RL)])=rH d (k+1)∧(∀ j,j<k+1→mErr d j=0)∧∀ x∈a ++ [(⟨dQ d k,A9,f⟩:RL)],bQ w3 x.A x.c x.p):=by
    refine ⟨by rw [qs,HX.out.1,qA];rfl,fun j hj=>?_,fun x E=>?_⟩
    ·by_cases e:j=k
     ·rw [e];exact HE.out
     exact HX.out.2.1 j (by omega)
    rcases List.mem_append.1 E with E | E
    ·exact ((HX2.out x E).later (by go_grown)).row (HO2.out.alloc _) V
    rw [List.mem_singleton.1 E];exact (Lt.out.later (by go_grown)).row (HO2.out.alloc _) V
   have HO3:Hid (w3.ownsRow w1.heap.size 26 1 v' (a ++ [(⟨dQ d k,A9,f⟩:RL)]).length (cD (a ++ [(⟨dQ d k,A9,f⟩:RL)]))):=by
    show World.ownsRow ..
    rw [gy,List.length_append,I.out];have e:cD [(⟨dQ d k,A9,f⟩:RL)]=[.slice A9 r f]:=by simp [cD,HR.out]
    rw [e];exact hown'
   clear hown' V;go_wp2_with fail
   go_roundg (n-(k+1))
   case measure=>omega
   case rel=>exact ⟨k+1,_,by omega,rfl,by go_num,HX3,HO3.out,LF.out⟩
  have hke:k=n:=by omega
  subst hke;have HL:Hid (lR a=eu d):=by show _=_;rw [HX.out.1,←q.out];rfl
  have HAll:Hid (∀ j,j<d.n→mErr d j=0):=by rw [q.out];exact HX.out.2.1
  obtain ⟨Ar,cr,hv,hRv⟩:=oP hO fun x E=>(HX.out.2.2 x E).intT
  subst hv;have HRt:Hid (iL wr Ar a):=Ca hO;have HRv:=aa hRv;have HRi:=aa HX.out.2.2;have HBa:=aa (ae LE.out (ae X.out hBw));have HIn:Hid (mw (eu d)):=kH d;have HNl:Hid ((eu d).length=k):=by show _=_;rw [fd];exact q.out
  have HRl:Hid (∀ j,j<k→(a.getD j ew).p=(eu d).getD j []∧(a.getD j ew).p.Pairwise (· < ·)∧(a.getD j ew).p.length≤12):=fun j hj=>by
   have e:(a.getD j ew).p=(eu d).getD j []:=by rw [←qt,HL.out]
   refine ⟨e,?_,?_⟩
   ·rw [e,lu (by rw [q.out];exact hj)];exact gN d j
   rw [e,lu (by rw [q.out];exact hj)];have:=rE d j;rw [q.out] at this;omega
  clear hO hBw hRv T;rw [I.out];obtain ⟨w4,rfl⟩:∃ w4:World,w4=wr:=⟨_,rfl⟩;go_wp2_with fail;clear c0 c1 c2
  go_loopg [17] k (fun g s17 wi => ∃ (j:Nat),j≤k∧g=k-j∧s17=.int .i64 j∧Hid (∀ t,t<j→cycB (eu d) t=false)∧Bl w4 wi)
  case atStart=>exact ⟨0,zU,rfl,rfl,(fun t ht=>absurd ht (Nat.not_lt_zero _):∀ t,t<0→_),zS⟩
  case round =>
   obtain ⟨j,hj,rfl,rfl,HCy,hBj⟩:=hrel;have LG:=aa hBj
   by_cases G:j<k
   ·have hji:(j:Int)<(k:Int):=by omega
    obtain ⟨LC,hx0 | ⟨b,rfl,hbw,hcl⟩,-⟩:=HRv.out.later hBj
    ·have:=I.out;rw [hx0] at this;simp at this;omega
    have cj:=hcl j (by rw [I.out];exact G)
    rw [I.out] at LC;have hcapI:(k:Int)≤(cr:Int):=by omega
    obtain ⟨e1,e2,e3⟩:=HRl.out j G;have HRj:Hid (bQ wr (a.getD j ew).A (a.getD j ew).c (a.getD j ew).p):=(HRi.out _ (iG (by rw [I.out];exact G))).later hBj
    have HC0:Hid (mU (eu d) j (a.getD j ew).p):=⟨e2,fun x E=>.one (by unfold e8;rw [Int.toNat_natCast,←e1];exact E),fun x E=>by rw [e1];exact E⟩
    generalize (a.getD j ew).p=L0 at cj HRj HC0;generalize (a.getD j ew).A=A0 at cj HRj;generalize (a.getD j ew).c=c0 at cj HRj;obtain ⟨wj,rfl⟩:∃ wj:World,wj=wr:=⟨_,rfl⟩;clear hcl hBj e1 e2 e3;go_wp2_with fail
    go_loopg [18,19] (2*(k-L0.length)+1) (fun g s18 s19 wi => ∃ (L:List Int) (A8:Option Addr) (c8:Nat) (ag:Bool),g=2*(k-L.length)+(if ag=true then 1 else 0)∧s18=.slice A8 L.length c8∧s19=.bool ag∧bQ wi A8 c8 L∧Hid (mU (eu d) j L∧(ag=false→∀ u,u<L.length→∀ y∈e8 (eu d) (L.getD u 0),y∈L))∧Bl wj wi)
    case atStart=>exact ⟨L0,A0,c0,true,rfl,rfl,rfl,HRj.out,(⟨HC0.out,fun e=>by cases e⟩:_∧_),zS⟩
    case round =>
     obtain ⟨L,A8,c8,ag,rfl,rfl,rfl,hR,HI,B⟩:=hrel;have HR:=aa hR;have F:=aa B;have hLk:L.length≤k:=by rw [←HNl.out];exact sP HI.out.1 HIn.out (by rw [HNl.out];exact G)
     cases ag
     case false =>
      have C:=yJ A8 c8 L j wr (by omega) hR.intT.pl
      rw [Dc HI.out.1 (HI.out.2 rfl)] at C;generalize L.length=m at C;clear hR B hLk;cases hcy:cycB (eu d) j
      ·rw [hcy] at C
       have HCy2:Hid (∀ t,t<j+1→cycB (eu d) t=false):=fun t ht=>by
        by_cases e:t=j
        ·rw [e];exact hcy
        exact HCy.out t (by omega)
       clear hcy;go_wp2_with fail;refine C.mono ?_;rintro e w6 ⟨rfl,hb6⟩;have HB6:=aa (ae LG.out (ae F.out hb6));clear hb6 C;go_wp2_with fail
       go_roundg (k-(j+1))
       case measure=>omega
       case rel=>exact ⟨j+1,by omega,rfl,by go_num,HCy2,HB6.out⟩
      rw [hcy] at C;have Lu:Hid (a8 d=((j:Int),8)):=KW HD.out HAll.out (by rw [q.out];exact G) hcy HCy.out
      clear hcy;go_wp2_with fail;refine C.mono ?_;rintro e w6 ⟨rfl,hb6⟩;have HB6:=aa (ae LG.out (ae F.out hb6));clear hb6 C;go_wp2_with fail;go_returns;rw [Lu.out];exact ⟨⟨none,0,[],rfl,cT.nil _ _ _,fun e=>(by cases e),Or.inl rfl⟩,ae HBa.out HB6.out⟩
     case true =>
      have HLk:=aa hLk;clear hR B hLk;obtain ⟨w5,rfl⟩:∃ w5:World,w5=wr:=⟨_,rfl⟩;go_wp2_with fail
      go_loopg [18,19,20] k (fun g s18 s19 s20 wi => ∃ (t:Nat) (K:List Int) (A8:Option Addr) (c8:Nat) (ag:Bool),t≤K.length∧g=k-t∧s18=.slice A8 K.length c8∧s19=.bool ag∧s20=.int .i64 t∧bQ wi A8 c8 K∧Hid (mU (eu d) j K∧(ag=false→K.length=L.length∧∀ u,u<t→∀ y∈e8 (eu d) (K.getD u 0),y∈K)∧(ag=true→L.length<K.length))∧Bl w5 wi)
      case atStart=>exact ⟨0,L,A8,c8,false,zU,rfl,rfl,rfl,rfl,HR.out,(⟨HI.out.1,fun _=>⟨rfl,fun u hu=>absurd hu (Nat.not_lt_zero _)⟩,fun e=>by cases e⟩:_∧_∧_),zS⟩
      case round =>
       obtain ⟨t,K,A9,f,ag,htK,rfl,rfl,rfl,rfl,hR9,HK,Lv⟩:=hrel;have Lt:=aa hR9;have HB9:=aa Lv;have hKk:K.length≤k:=by rw [←HNl.out];exact sP HK.out.1 HIn.out (by rw [HNl.out];exact G)
       have HKk:=aa hKk
       by_cases D:t<K.length
       ·have E:=FU HK.out.1 HIn.out (by rw [HNl.out];exact G) _ (gA (L:=K) (j:=t) D)
        rw [HNl.out] at E;obtain ⟨y,hy⟩:∃ y:Nat,K.getD t 0=(y:Int):=⟨(K.getD t 0).toNat,by omega⟩
        rw [hy] at E;have hyk:y<k:=by omega
        have hyi:(y:Int)<(k:Int):=by omega
        have HYm:Hid ((y:Int)∈K):=by rw [←hy];exact gA D
        have HYt:=aa hy;obtain ⟨e1,e2,e3⟩:=HRl.out y hyk;have HRow:Hid (e8 (eu d) (y:Int)=(a.getD y ew).p):=by show _=_;unfold e8;rw [Int.toNat_natCast,e1]
        have Y:Hid (∀ w',Bl wr w'→w'.cell? ⟨b,y,none⟩=some (.slice (a.getD y ew).A (a.getD y ew).p.length (a.getD y ew).c)∧aY w' (a.getD y ew).A (a.getD y ew).c (a.getD y ew).p∧b<w'.heap.size):=fun w' hB=>by
         obtain ⟨-,h0 | ⟨b',hb',hbz,hcl⟩,hrw⟩:=HRv.out.later (ae LG.out (ae F.out (ae HB9.out hB)))
         ·have:=I.out;rw [h0] at this;simp at this;omega
         cases hb';exact ⟨hcl y (by rw [I.out];exact hyk),hrw _ (iG (by rw [I.out];exact hyk)),hbz⟩
        have HKt:Hid (∀ w',Bl wr w'→∃ bk,A9=some ⟨bk,0,none⟩∧bk<w'.heap.size∧w'.cell? ⟨bk,t,none⟩=some (.int .i64 y)):=fun w' hB=>by
         obtain ⟨-,-,h0 | ⟨bk,cs,fr,h1,J,h3⟩⟩:=(Lt.out.later hB).intT
         ·rw [h0] at D;simp at D
         exact ⟨bk,h1,(zY J).1,by rw [h3 t D,hy]⟩
        have hcK:K.length≤f:=Lt.out.intT.1;obtain ⟨R,hRe⟩:=ax ((a.getD y ew).p);rw [hRe] at Y HRow e3;generalize (a.getD y ew).A=Ay at Y;generalize (a.getD y ew).c=cy at Y;obtain ⟨r,hr⟩:=ax R.length;have HRr:=aa hr;rw [hr] at Y e3;have hrI:(r:Int)≤12:=by omega
        obtain ⟨mk,hmk⟩:=ax K.length;have Lz:=aa hmk;rw [hmk] at D hKk hcK htK;rw [hmk];have hti:(t:Int)<(mk:Int):=by omega
        have hmI:(mk:Int)≤12:=by omega
        have hcKi:(mk:Int)≤(f:Int):=by omega
        obtain ⟨bk,rfl,-,-⟩:=HKt.out wr (zS);obtain ⟨w6,rfl⟩:∃ w6:World,w6=wr:=⟨_,rfl⟩;clear hR9 Lv E hy e1 e2 hRe hr hmk;go_wp2_with fail
        go_loopg [18,19,21] r (fun g s18 s19 s21 wi => ∃ (u:Nat),u≤r∧g=r-u∧s18=.slice (some ⟨bk,0,none⟩) mk f∧s19=.bool ag∧s21=.int .i64 u∧Hid (∀ v,v<u→R.getD v 0∈K)∧Bl w6 wi)
        case atStart=>exact ⟨0,zU,rfl,rfl,rfl,rfl,(fun v hv=>absurd hv (Nat.not_lt_zero _):∀ v,v<0→_),zS⟩
        case round =>
         obtain ⟨u,hu,rfl,rfl,rfl,rfl,HU,hBu⟩:=hrel;have HBu:=aa hBu;obtain ⟨cy1,hTy,hbz⟩:=Y.out wr hBu;obtain ⟨bk',hbk',hbkl,ckt⟩:=HKt.out wr hBu;cases hbk'
         by_cases hul:u<r
         ·have hui:(u:Int)<(r:Int):=by omega
          obtain ⟨hcR,-,hR0 | ⟨br,cs,fr,rfl,hbr,hcr⟩⟩:=hTy
          ·have:=HRr.out;rw [hR0] at this;simp at this;omega
          have cu:=hcr u (by rw [HRr.out];exact hul)
          rw [HRr.out] at hcR;have hcRi:(r:Int)≤(cy:Int):=by omega
          have hbrl:br<wr.heap.size:=(zY hbr).1;have HZm:Hid (R.getD u 0∈e8 (eu d) (y:Int)):=by rw [HRow.out];exact gA (by rw [HRr.out];exact hul)
          obtain ⟨z,hz⟩:=ax (R.getD u 0);have HZ:=aa hz;rw [hz] at cu HZm;have C:=yJ (some ⟨bk,0,none⟩) f K z wr (by rw [Lz.out];omega) (Lt.out.later hBu).intT.pl
          rw [Lz.out] at C;clear hcr hbr hBu hz
          by_cases hzK:z∈K
          ·rw [List.contains_iff_mem.2 hzK] at C
           have HU2:Hid (∀ v,v<u+1→R.getD v 0∈K):=fun v hv=>by
            by_cases e:v=u
            ·rw [e,HZ.out];exact hzK
            exact HU.out v (by omega)
           clear hzK;go_wp2_with fail;refine C.mono ?_;rintro e w7 ⟨rfl,M⟩;have HB7:=aa (ae HBu.out M);clear M C cy1 ckt cu;go_wp2_with fail
           go_roundg (r-(u+1))
           case measure=>omega
           case rel=>exact ⟨u+1,by omega,rfl,rfl,rfl,by go_num,HU2,HB7.out⟩
          have hzf:K.contains z=false:=by rw [←Bool.not_eq_true,List.contains_iff_mem];exact hzK
          rw [hzf] at C;have HPu:Hid (∀ w',Bl w6 w'→Calls Tryz.prog 82 #[.slice (some ⟨bk,0,none⟩) mk f,.int .i64 z] w' fun e w''=>(∃ A' c',e=.returned (.slice A' (cF K z).length c')∧bQ w'' A' c' (cF K z))∧Bl w' w''):=fun w' hB=>by
           rw [←Lz.out];exact kO (some ⟨bk,0,none⟩) f K z w' (by rw [Lz.out];omega) (Lt.out.later hB)
          have HK3:Hid (t+1≤(cF K z).length∧mU (eu d) j (cF K z)∧L.length<(cF K z).length):=by
           have hl:=EQ hzK;refine ⟨by rw [hl,Lz.out];omega,Dd HK.out.1 HYm.out HZm.out,?_⟩
           rw [hl];cases ag
           ·have:=(HK.out.2.1 rfl).1;omega
           have:=HK.out.2.2 rfl;omega
          clear hzK hzf;go_wp2_with fail;refine C.mono ?_;rintro e w7 ⟨rfl,M⟩;have hB7:Bl w6 w7:=ae HBu.out M;have HB7:=aa hB7;have H:=HPu.out w7 hB7;have cy7:=aL M hbz cy1;have ck7:=aL M hbkl ckt;have cu7:=aL M hbrl cu;have hz7:b<w7.heap.size:=zW hbz M.size;have hk7:bk<w7.heap.size:=zW hbkl M.size;have hr7:br<w7.heap.size:=zW hbrl M.size;clear M C cy1 ckt cu hB7;go_wp2_with fail;refine H.mono ?_;rintro e w8 ⟨⟨A8',c8',rfl,hR8⟩,hb8⟩;have HR8:=aa hR8;have HB8:=aa (ae HB9.out (ae HB7.out hb8));clear hR8 hb8 H cy7 ck7 cu7;go_wp2_with fail
          go_roundg (k-(t+1))
          case measure=>omega
          case rel=>exact ⟨t+1,cF K z,A8',c8',true,HK3.out.1,rfl,rfl,rfl,by go_num,HR8.out,(⟨HK3.out.2.1,fun e=>(by cases e),fun _=>HK3.out.2.2⟩:_∧_∧_),HB8.out⟩
         have hue:u=r:=by omega
         subst hue;have HK3:Hid (mU (eu d) j K∧(ag=false→K.length=L.length∧∀ u,u<t+1→∀ y∈e8 (eu d) (K.getD u 0),y∈K)∧(ag=true→L.length<K.length)):=by
          refine ⟨HK.out.1,fun e=>⟨(HK.out.2.1 e).1,fun v hv z hz=>?_⟩,HK.out.2.2⟩
          by_cases ev:v=t
          ·rw [ev,HYt.out,HRow.out] at hz
           obtain ⟨i,hi,rfl⟩:=List.getElem_of_mem hz;have h:=HU.out i (by rw [←HRr.out];exact hi)
           rw [zZ,zX hi] at h;exact h
          exact (HK.out.2.1 e).2 v (by omega) z hz
         clear hBu hTy;go_wp2_with fail
         go_roundg (k-(t+1))
         case measure=>omega
         case rel=>exact ⟨t+1,K,some ⟨bk,0,none⟩,f,ag,by rw [Lz.out];omega,rfl,by rw [Lz.out],rfl,by go_num,Lt.out.later HBu.out,HK3,ae HB9.out HBu.out⟩
       have LB:t=K.length:=by omega
       have HK2:Hid (mU (eu d) j K∧(ag=false→∀ u,u<K.length→∀ y∈e8 (eu d) (K.getD u 0),y∈K)):=⟨HK.out.1,fun e=>by rw [←LB];exact (HK.out.2.1 e).2⟩
       have HM2:Hid (2*(k-K.length)+(if ag=true then 1 else 0)<2*(k-L.length)+(if true=true then 1 else 0)):=by
        show _<_
        cases ag
        ·have h:=(HK.out.2.1 rfl).1
         rw [h]
         simp
        have h:=HK.out.2.2 rfl
        simp
        omega
       obtain ⟨m,hm⟩:=ax K.length;have HMm:=aa hm;have hmI:(m:Int)≤12:=by omega
       rw [hm] at LB;subst LB;rw [hm];clear hR9 Lv hKk htK D hm;go_wp2_with fail
       go_roundg (2*(k-K.length)+(if ag=true then 1 else 0))
       case measure=>exact HM2.out
       case rel=>exact ⟨K,A9,f,ag,rfl,by rw [HMm.out],rfl,Lt.out,HK2,ae F.out HB9.out⟩
   have hje:j=k:=by omega
   subst hje;have Lu:Hid (a8 d=(-1,0)):=KX HD.out HAll.out (by rw [q.out];exact HCy.out)
   clear hBj;go_wp2_with fail;go_returns;rw [Lu.out];exact ⟨⟨Ar,cr,a,by rw [I.out];rfl,HRv.out.later LG.out,fun _=>HL.out,HRt.out.later LG.out⟩,ae HBa.out LG.out⟩
end Go.Proofs.YthlhjjabkgpenaaGreatDoor
