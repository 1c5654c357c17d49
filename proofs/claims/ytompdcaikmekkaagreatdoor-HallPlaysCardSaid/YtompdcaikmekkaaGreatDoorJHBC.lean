/- What the document's ow -/
import Derived.Test.YtompdcaikmekkaaGreatDoorJHBA
import Derived.Test.YtompdcaikmekkaaGreatDoorJHBB
namespace Go.Proofs.YtompdcaikmekkaaGreatDoor
open ChangeShapes WideShapes ChangeAt RowKit
set_option maxRecDepth 99999
set_option maxHeartbeats 0
def eK (D:Nat→Dm) (n:Nat) (p:List Int) (T:List Int):Prop:=T.Pairwise (· < ·)∧T.length≤12∧∀ z,z∈T↔∃ b:Nat,byTo D p n=(b:Int)∧∃ x∈eo (D b) (p.getD b 0).toNat,z=numI D (p.set b x) n
theorem Ds (A0:Option Addr) (cap n:Nat) (D:Nat→Dm) (A:Nat→Option Addr) (C:Nat→Nat) (AN:Option Addr) (cN:Nat) (ys:List R2) (Ap:Option Addr) (cp:Nat) (L:List Int) (w:World) (hR:dH D n) (hI:InO D n L) (hM:aY w A0 cap n D A C) (hyl:ys.length=n) (hY:ko w AN cN ys) (hyn:∀ i,i<n→lR (ys.getD i jT).xs=eS (D i)) (hP:a7 w Ap cp L) :
  Calls Tryz.prog 49 #[.agg #[.slice A0 n cap],.slice AN n cN,.slice Ap L.length cp] w fun e w'=>(∃ A' r T,e=.returned (.slice A' T.length r)∧bU w' A' r T∧eK D n L T)∧Bl w w':=by
 obtain ⟨hn1,hn4,-,hd⟩:=au hI.right;have hnI:(n:Int)≤4:=by omega
 have hl:=hI.len;have u:=aq w A0 n cap 24;have hS:=aw w A0 n cap 24;have hA:=aI w A0 n cap 24;have o:=nK A0 cap n D A C Ap cp L (ay w A0 n cap 24) hI (hM.later u) (hP.later u);obtain ⟨W,hW⟩:=aA (ay w A0 n cap 24);rw [hW] at u hS hA o;unfold ay at hW;have HB0:=aa u;have HM:=aa hM;have HA:=aa hA;have HR:=aa hR;have HI:=aa hI;have HP:=aa hP;have HY:=aa hY;have HYn:=aa hyn;have I:=aa hyl;have a:=aa hl;have HD12:Hid (∀ i,i<n→(D i).n≤12):=fun i hi=>(hd i hi).2
 have hsz:w.heap.size<W.heap.size:=by omega
 rw [hl] at o ⊢;clear hM u hR hI hP hY hyn hyl hl hd hS
 rcases by_in D L n with hneg | ⟨b,hb,hbn⟩
 ·have H:Hid (eK D n L []):=⟨List.Pairwise.nil,zU,fun z=>⟨fun h=>(by cases h),fun ⟨b,h1,_⟩=>(by rw [hneg] at h1;omega)⟩⟩
  rw [hneg] at o;clear hneg
  go_enter Tryz.func49,Tryz.ntmps49
  go_wp2_with fail;refine o.mono ?_;rintro e w1 ⟨rfl,B⟩;go_wp2_with fail;go_ret;exact ⟨⟨none,0,[],rfl,bU.nil _,H.out⟩,ae HB0.out B⟩
 rw [hb] at o;have HBy:=aa hb;have hbI:(b:Int)<(n:Int):=by omega
 have hb0:decide ((b:Int)<0)=false:=decide_eq_false (by omega)
 have hp0:=HI.out.lo b hbn;have hp1:=HI.out.hi b hbn;obtain ⟨x,hx⟩:∃ x:Nat,L.getD b 0=(x:Int):=⟨(L.getD b 0).toNat,by omega⟩
 have HX:=aa hx;have hxn:x<(D b).n:=by omega
 clear hb
 go_enter Tryz.func49,Tryz.ntmps49
 go_wp2_with fail;refine o.mono ?_;rintro e w1 ⟨rfl,B⟩;have HB1:=aa B;have q:=ae HB0.out B;have K:=aa q;obtain ⟨hcN,hy0 | ⟨g2,rfl,hg2,hc2⟩,hr2⟩:=HY.out.later q
 ·have:=I.out;rw [hy0] at this;simp at this;omega
 have cy:=hc2 b (by rw [I.out];exact hbn)
 have hry:=hr2 _ (Jc (k:=b) (by rw [I.out];exact hbn))
 have hrn:=HYn.out b hbn;rw [I.out] at hcN;have hcNi:(n:Int)≤(cN:Int):=by omega
 have F:(ys.getD b jT).xs.length=(D b).n:=by rw [←oV,hrn,fF]
 rw [F] at cy;obtain ⟨hcx,hx0 | ⟨g1,hg1,hgl1,hc1⟩,hr1⟩:=hry
 ·rw [hx0] at F;simp at F;omega
 have cx:=hc1 x (by omega)
 have v:=hr1 _ (ie (k:=x) (by omega))
 have HMx:Hid (((ys.getD b jT).xs.getD x ep).p=eo (D b) x):=by show _=_;rw [←rj,hrn,mj hxn]
 rw [HMx.out] at cx v;rw [hg1] at cy;rw [F] at hcx;generalize ((ys.getD b jT).xs.getD x ep).A=Ax at cx v;generalize ((ys.getD b jT).xs.getD x ep).c=ccx at cx v;generalize (ys.getD b jT).c=ccy at cy hcx;obtain ⟨hcP,hP0 | ⟨bp,op,rfl,hbp,hcp⟩⟩:=HP.out.later q
 ·have:=a.out;rw [hP0] at this;simp at this;omega
 have cpb:=hcp b (by rw [a.out];exact hbn)
 rw [HX.out] at cpb;rw [a.out] at hcP;have hcPi:(n:Int)≤(cp:Int):=by omega
 have hxI:(x:Int)<((D b).n:Int):=by omega
 have hcxi:((D b).n:Int)≤(ccy:Int):=by omega
 have O:=HD12.out b hbn;have HTx:=aa v;have V:Hid ((eo (D b) x).length≤12):=zV (sx (D b) x) O;obtain ⟨m,hm⟩:=aA ((eo (D b) x).length);have f:=aa hm;rw [hm] at cx V;have hmI:(m:Int)≤12:=by have:=V.out;omega
 generalize (D b).n=dn at cy hcx hxI hcxi O;clear B q o hc2 hr2 hc1 hr1 v hrn F hm hW hA;go_wp2_with fail
 go_quiet (fail)
 obtain ⟨w2,hw2⟩:=aA (w1.drewN nq);have s:Hid (Bl w1 w2):=by rw [←hw2];exact ac (zS) _
 rw [hw2];clear hw2 cy cx cpb;obtain ⟨M,hM⟩:=aA (eo (D b) x);have U:=aa hM;rw [hM] at HTx f;clear hM;go_wp2_with fail
 go_loopg [8,10] m (fun g s8 s10 wi => ∃ (t:Nat) (T:List Int) (A8:Option Addr) (c8:Nat),t≤m∧g=m-t∧s10=.int .i64 t∧s8=.slice A8 T.length c8∧bU wi A8 c8 T∧Hid (T.Pairwise (· < ·)∧T.length≤t∧∀ z,z∈T↔∃ j,j<t∧z=numI D (L.set b (M.getD j 0)) n)∧Bl w2 wi)
 case atStart=>exact ⟨0,[],none,0,zU,rfl,rfl,rfl,bU.nil _,(⟨List.Pairwise.nil,zT,fun z=>⟨fun h=>(by cases h),fun ⟨j,P,_⟩=>absurd P (Nat.not_lt_zero _)⟩⟩:_∧_∧_),zS⟩
 case round =>
  obtain ⟨t,T,A8,c8,ht,rfl,rfl,rfl,hR8,H,l⟩:=hrel;have HR8:=aa hR8;have R:=aa l
  by_cases htl:t<m
  ·have hti:(t:Int)<(m:Int):=by omega
   have Y:Bl w wr:=ae K.out (ae s.out l);have cw:wr.cell? ⟨w.heap.size,0,none⟩=some (.slice A0 n cap):=((ae HB1.out (ae s.out l)).cell (p:=⟨w.heap.size,0,none⟩) hsz).trans HA.out;have Q:w.heap.size<wr.heap.size:=zW hsz (ae HB1.out (ae s.out l)).size;obtain ⟨hcT,-,hT0 | ⟨bt,cs,fr,rfl,hbt,hct⟩⟩:=(HTx.out.later s.out).later l
   ·have:=f.out;rw [hT0] at this;simp at this;omega
   have ct:=hct t (by rw [f.out];exact htl)
   have N:bt<wr.heap.size:=(zY hbt).1;rw [f.out] at hcT;have hcTi:(m:Int)≤(ccx:Int):=by omega
   have J:=em (d:=D b) (i:=x) (by rw [U.out];exact fX (L:=M) (j:=t) (by rw [f.out];exact htl))
   have X:Hid (∀ z,(z∈T∨z=numI D (L.set b (M.getD t 0)) n)↔∃ j,j<t+1∧z=numI D (L.set b (M.getD j 0)) n):=fun z=>by
    rw [H.out.2.2 z]
    constructor
    ·rintro (⟨j,P,e⟩ | e)
     ·exact ⟨j,by omega,e⟩
     exact ⟨t,by omega,e⟩
    rintro ⟨j,P,e⟩
    by_cases ej:j=t
    ·rw [ej] at e;exact Or.inr e
    exact Or.inl ⟨j,by omega,e⟩
   obtain ⟨y,hy⟩:=aA (M.getD t 0);rw [hy] at ct J X;have hIn:=gN HI.out hbn J.1 J.2;have hll:(L.set b y).length=n:=by rw [List.length_set];exact a.out
   have HWt:Hid (∀ w',Bl wr w'→Calls Tryz.prog 61 #[.slice (some ⟨bp,op,none⟩) n cp,.int .i64 b,.int .i64 y] w' fun e w''=>(∃ A' r,e=.returned (.slice A' n r)∧a7 w'' A' r (L.set b y))∧Bl w' w''):=fun w' G=>by
    have h:=mB (some ⟨bp,op,none⟩) cp L b y w' (by rw [a.out];exact hbn) (by rw [a.out];exact hn4) (HP.out.later (ae Y G))
    rw [a.out] at h;exact h
   have HNu:Hid (∀ A' r w',Bl wr w'→a7 w' A' r (L.set b y)→Rt 8 #[.agg #[.slice A0 n cap],.slice A' n r] w' (.int .i64 (numI D (L.set b y) n))):=fun A' r w' G hP'=>by
    have h:=fM A0 cap n D A C A' r (L.set b y) w' hIn (HM.out.later (ae Y G)) hP';rw [hll] at h;exact h
   obtain ⟨Z,hZ⟩:=aA (numI D (L.set b y) n);rw [hZ] at X HNu;obtain ⟨tl,E⟩:=aA T.length;have HPu:Hid (∀ w',Bl wr w'→Calls Tryz.prog 69 #[.slice A8 tl c8,.int .i64 Z] w' fun e w''=>(∃ A' r,e=.returned (.slice A' (cV T Z).length r)∧bU w'' A' r (cV T Z))∧Bl w' w''):=fun w' G=>by
    rw [←E];exact lr A8 c8 T Z w' (by have:=H.out.2.1;omega) (HR8.out.later G)
   have HT2:Hid ((cV T Z).Pairwise (· < ·)∧(cV T Z).length≤t+1∧∀ z,z∈cV T Z↔∃ j,j<t+1∧z=numI D (L.set b (M.getD j 0)) n):=⟨ls _ _ H.out.1,zV (sP _ _) (by have:=H.out.2.1;omega),fun z=>by rw [jI];exact X.out z⟩
   rw [E];clear hR8 l hct hbt hy hIn hll hZ E Y J;have S:Hid (∀ w',Bl wr w'→w'.cell? ⟨w.heap.size,0,none⟩=some (.slice A0 n cap)∧w.heap.size<w'.heap.size∧w'.cell? ⟨bt,t,none⟩=some (.int .i64 y)∧bt<w'.heap.size):=fun w' G=>⟨aD G Q cw,zW Q G.size,aD G N ct,zW N G.size⟩
   go_upto_region 9 with fail
   go_region_law ((first
    | (go_simp;refine (HWt.out _ (by go_grown)).mono ?_;rintro e w3 ⟨⟨A3,c3,rfl,hP3⟩,hb3⟩;have hN3:=ae (W0:=wr) (by go_grown) hb3;obtain ⟨cw3,hw3,ct3,ht3⟩:=S.out _ hN3;clear hb3)
    | (go_simp;refine (HNu.out _ _ _ (by go_grown) (by first | exact hP3 | exact hP3.later (by go_grown))).mono ?_;rintro e w4 ⟨rfl,hb4⟩;have hN4:=ae (W0:=wr) (by go_grown) hb4;obtain ⟨cw4,hw4,ct4,ht4⟩:=S.out _ hN4;clear hb4)
    | (go_simp;refine (HPu.out _ (by go_grown)).mono ?_;rintro e w5 ⟨⟨A5,c5,rfl,hR5⟩,hb5⟩;have hN5:=ae (W0:=wr) (by go_grown) hb5;obtain ⟨cw5,hw5,ct5,ht5⟩:=S.out _ hN5;have HR5:=aa hR5;have HN5:=aa hN5;clear hb5)))
   all_goals clear hP3 hR5 hN3 hN4 hN5
   all_goals go_wp2_with fail
   all_goals go_roundg (m-(t+1))
   all_goals first
    | omega
    | exact ⟨t+1,cV T Z,A5,c5,by omega,rfl,by go_num,rfl,HR5.out,HT2,ae R.out HN5.out⟩
    | exact ⟨t+1,cV T Z,A5,c5,by omega,rfl,by go_num,rfl,HR5.out.later (ac (zS) _),HT2,ac (ae R.out HN5.out) _⟩
  have hte:t=m:=by omega
  subst hte;have HFin:Hid (eK D n L T):=by
   refine ⟨H.out.1,zV H.out.2.1 V.out,fun z=>?_⟩
   rw [H.out.2.2 z]
   constructor
   ·rintro ⟨j,P,e⟩
    refine ⟨b,HBy.out,M.getD j 0,?_,e⟩;rw [HX.out,Int.toNat_natCast,U.out];exact fX (by rw [f.out];exact P)
   rintro ⟨b',h1,y,hy,e⟩;have hbb:b'=b:=by have:=HBy.out;omega
   subst hbb;rw [HX.out,Int.toNat_natCast,U.out] at hy;obtain ⟨j,P,rfl⟩:=List.getElem_of_mem hy;refine ⟨j,by rw [←f.out];exact P,?_⟩
   rw [zZ,zX P];exact e
  clear hR8 l;go_wp2_with fail;go_ret;exact ⟨⟨A8,c8,T,rfl,HR8.out,HFin.out⟩,ae K.out (ae s.out R.out)⟩
theorem I2 {W w':World} {q r s:Nat} {g n c:Nat} {v:Value} (h:q<W.heap.size∧q≠g∧r<W.heap.size∧r≠g∧W.cell? ⟨q,0,none⟩=some (.slice (some ⟨g,0,none⟩) n c)∧W.cell? ⟨r,s,none⟩=some v) (b:W.grownBy w' (some g)):W.grownBy w' (some g)∧w'.cell? ⟨q,0,none⟩=some (.slice (some ⟨g,0,none⟩) n c)∧w'.cell? ⟨r,s,none⟩=some v:=by
 have d:w'.heap[q]?=W.heap[q]?:=b.block q h.1 fun e=>h.2.1 (by simpa using e)
 have f:w'.heap[r]?=W.heap[r]?:=b.block r h.2.2.1 fun e=>h.2.2.2.1 (by simpa using e)
 exact ⟨b,(World.cell?_of_block (a:=⟨q,0,none⟩) d).trans h.2.2.2.2.1,(World.cell?_of_block (a:=⟨r,s,none⟩) f).trans h.2.2.2.2.2⟩
theorem xM (A0:Option Addr) (cap n:Nat) (D:Nat→Dm) (A:Nat→Option Addr) (C:Nat→Nat) (w:World) (hE:(am D n).2.2=0) (hM:aY w A0 cap n D A C) :
  Calls Tryz.prog 20 #[.agg #[.slice A0 n cap]] w fun e w'=>(∃ g c G C',e=.returned (.agg #[.slice (some ⟨g,0,none⟩) n c])∧n≤c∧jW w' w.heap.size g n D G C')∧Bl w w':=by
 obtain ⟨hn1,hn4,-,hd⟩:=au hE;obtain ⟨hncap,h0 | ⟨b,o,rfl,U⟩⟩:=hM
 ·omega
 have HCl:Hid (∀ w',Bl w w'→Calls Tryz.prog 40 #[.slice (some ⟨b,o,none⟩) n cap] w' fun e w''=>(∃ g E,e=.returned (.slice (some ⟨g,0,none⟩) n E)∧w'.heap.size≤g∧n≤E∧io w'' g n (lY D A C))∧Bl w' w''):=fun w' hB=>ww b o cap n D A C w' (by omega) hn4 (U.later hB)
 have F:Hid (∀ k w',k<n→Bl w w'→∃ bm om,A k=some ⟨bm,om,none⟩∧Calls Tryz.prog 41 #[.slice (some ⟨bm,om,none⟩) (D k).n (C k)] w' fun e w''=>(∃ g E,e=.returned (.slice (some ⟨g,0,none⟩) (D k).n E)∧w'.heap.size≤g∧(D k).n≤E∧jh w'' g (D k).n (D k).mem)∧Bl w' w''):=fun k w' X hB=>by
  obtain ⟨-,-,-,-,h0 | ⟨bm,om,hA,hMm⟩⟩:=(U.later hB).2 k X
  ·have:=(hd k X).1;omega
  exact ⟨bm,om,hA,xx bm om (C k) (D k).n (D k).mem w' (hd k X).1 (hd k X).2 hMm⟩
 have hnI:(n:Int)≤4:=by omega
 have HDn:Hid (∀ k,k<n→(D k).n≤12):=fun k X=>(hd k X).2
 obtain ⟨W,hW⟩:=aA ((w.alloc (.cells #[.slice (some ⟨b,o,none⟩) n cap] 24)).alloc (.cells #[.slice none 0 0] 24));have hBW:Bl w W:=by rw [←hW];go_grown
 have hWs:W.heap.size=w.heap.size+2:=by rw [←hW];simp
 have k1:W.heap[w.heap.size]?=some (.cells #[.slice (some ⟨b,o,none⟩) n cap] 24 (0,0)):=by rw [←hW,Below.heap_alloc _ _ _ (by simp)];exact heap_alloc_new ..
 have k2:W.heap[w.heap.size+1]?=some (.cells #[.slice none 0 0] 24 (0,0)):=by
  have:=heap_alloc_new (w.alloc (.cells #[.slice (some ⟨b,o,none⟩) n cap] 24)) (.cells #[.slice none 0 0] 24);rw [show (w.alloc (.cells #[.slice (some ⟨b,o,none⟩) n cap] 24)).heap.size=w.heap.size+1 by simp] at this
  rw [←hW];exact this
 have c1:W.cell? ⟨w.heap.size,0,none⟩=some (.slice (some ⟨b,o,none⟩) n cap):=(Lib.cell_of_heap k1 0).trans rfl;have R:=aa hBW;have HK2:=aa k2;clear U hd hE k1 k2 hBW
 go_enter Tryz.func20,Tryz.ntmps20
 go_wp2_with fail;refine (HCl.out W R.out).mono ?_;rintro e w1 ⟨⟨g,f,rfl,hg,hcg,V⟩,H⟩;have hb1s:=H.size;have HB1:=aa (ae R.out H);have K1:w1.heap[w.heap.size+1]?=some (.cells #[.slice none 0 0] 24 (0,0)):=(H.block _ (by omega)).trans HK2.out
 obtain ⟨w2,Z⟩:=aA (w1.alloc (.cells #[.slice (some ⟨g,0,none⟩) n f] 24));have I:Bl w1 w2:=by rw [←Z];go_grown
 have hs2:w2.heap.size=w1.heap.size+1:=by rw [←Z];simp
 have Y:w2.heap[w1.heap.size]?=some (.cells #[.slice (some ⟨g,0,none⟩) n f] 24 (0,0)):=by rw [←Z];exact heap_alloc_new ..
 have S:Hid (Bg w w2 g 0 n D A C∧w2.heap[w1.heap.size]?=some (.cells #[.slice (some ⟨g,0,none⟩) n f] 24 (0,0))∧w2.heap[w.heap.size+1]?=some (.cells #[.slice none 0 0] 24 (0,0))∧Bl w w2):=by
  refine ⟨⟨fun _=>0,fun _=>0,by omega,?_,fun i hi=>by omega⟩,Y,(I.block _ (by omega)).trans K1,ae HB1.out I⟩
  obtain ⟨cur,q1,q2⟩:=V.later I;refine ⟨cur,q1,fun j hj=>(q2 j hj).trans ?_⟩
  simp
 have hgw1:g<w1.heap.size:=V.lt;have c2:w2.cell? ⟨w1.heap.size,0,none⟩=some (.slice (some ⟨g,0,none⟩) n f):=(Lib.cell_of_heap Y 0).trans rfl;clear H V I K1 Y HCl R HK2 c1 hW;go_wp2_with fail;clear c2
 go_loopg [13] n (fun gg s13 wr => ∃ k:Nat,k≤n∧gg=n-k∧s13=.int .i64 k∧Hid (Bg w wr g k n D A C∧wr.heap[w1.heap.size]?=some (.cells #[.slice (some ⟨g,0,none⟩) n f] 24 (0,0))∧wr.heap[w.heap.size+1]?=some (.cells #[.slice none 0 0] 24 (0,0))∧Bl w wr))
 case atStart=>exact ⟨0,zU,rfl,rfl,S⟩
 case round =>
  obtain ⟨k,X,rfl,rfl,HK⟩:=hrel;obtain ⟨s,d,a,m⟩:=HK.out;have Q:w1.heap.size<wr.heap.size:=(zY d).1
  by_cases J:k<n
  ·have hki:(k:Int)<(n:Int):=by omega
   have hcgI:(n:Int)≤(f:Int):=by omega
   have hD:=s.choose_spec.choose_spec.2.1;have e0:=hD.cell (j:=k*3) (by omega)
   have e1:=hD.cell (j:=k*3+1) (by omega)
   have e2:=hD.cell (j:=k*3+2) (by omega)
   have v0:lY D (fun i=>if i<k then some ⟨s.choose i,0,none⟩ else A i) (fun i=>if i<k then s.choose_spec.choose i else C i) (k*3)=.string (D k).name:=by unfold lY;rw [if_pos (by omega),show k*3 / 3=k by omega]
   have v1:lY D (fun i=>if i<k then some ⟨s.choose i,0,none⟩ else A i) (fun i=>if i<k then s.choose_spec.choose i else C i) (k*3+1)=.int .i64 (D k).solve:=by unfold lY;rw [if_neg (by omega),if_pos (by omega),show (k*3+1) / 3=k by omega]
   have v2:lY D (fun i=>if i<k then some ⟨s.choose i,0,none⟩ else A i) (fun i=>if i<k then s.choose_spec.choose i else C i) (k*3+2)=.slice (A k) (D k).n (C k):=by unfold lY;rw [if_neg (by omega),if_neg (by omega),show (k*3+2) / 3=k by omega];simp
   rw [v0] at e0;rw [v1] at e1;rw [v2] at e2;have hgl:=hD.lt;obtain ⟨y,hy⟩:=aA (wr.alloc (.cells #[.string (D k).name,.int .i64 (D k).solve,.slice (A k) (D k).n (C k)] 70));have p:Bl wr y:=by rw [←hy];go_grown
   have r:y.heap[wr.heap.size]?=some (.cells #[.string (D k).name,.int .i64 (D k).solve,.slice (A k) (D k).n (C k)] 70 (0,0)):=by rw [←hy];exact heap_alloc_new ..
   have hys:y.heap.size=wr.heap.size+1:=by rw [←hy];simp
   obtain ⟨bm,om,T,-⟩:=F.out k y J (ae m p);have HMk:Hid (∀ w',Bl w w'→Calls Tryz.prog 41 #[.slice (some ⟨bm,om,none⟩) (D k).n (C k)] w' fun e w''=>(∃ g E,e=.returned (.slice (some ⟨g,0,none⟩) (D k).n E)∧w.heap.size≤g∧(D k).n≤E∧jh w'' g (D k).n (D k).mem)∧Bl w' w''):=fun w' hB=>by
    obtain ⟨bm',om',N,h⟩:=F.out k w' J hB;rw [T] at N;cases N;exact h.mono fun _ _ ⟨⟨g,E,h1,h2,h3⟩,h4⟩=>⟨⟨g,E,h1,zV hB.size h2,h3⟩,h4⟩
   rw [T] at e2 hy r;have K:Hid (w1.heap.size<y.heap.size∧w1.heap.size≠g∧wr.heap.size<y.heap.size∧wr.heap.size≠g∧y.cell? ⟨w1.heap.size,0,none⟩=some (.slice (some ⟨g,0,none⟩) n f)∧y.cell? ⟨wr.heap.size,2,none⟩=some (.slice (some ⟨bm,om,none⟩) (D k).n (C k))):=⟨by omega,by omega,by omega,by omega,(Lib.cell_of_heap ((p.block _ Q).trans d) 0).trans rfl,(Lib.cell_of_heap r 2).trans rfl⟩
   have HFy:Hid (∀ w3,Bl y w3→Bg w w3 g k n D A C∧w3.heap[w1.heap.size]?=some (.cells #[.slice (some ⟨g,0,none⟩) n f] 24 (0,0))∧w3.heap[w.heap.size+1]?=some (.cells #[.slice none 0 0] 24 (0,0))∧Bl w w3):=fun w3 q=>by
    have hb:=ae p q;exact ⟨s.later hb,(hb.block _ Q).trans d,(hb.block _ (zW (zY a).1 (zT))).trans a,ae m hb⟩
   have HBy:=aa (ae m p);have HDy:Hid (∀ w3,Bl y w3→(∃ u,w3.cell? ⟨g,k*3+2,none⟩=some u)∧w3.frozen? ⟨g,k*3+2,none⟩=false):=fun w3 q=>by
    have h:=(hD.later (ae p q));exact ⟨⟨_,h.cell (by omega)⟩,h.frozen _⟩
   have hgw:w.heap.size≤g:=s.choose_spec.choose_spec.1;have L:Hid (∀ w3 gm M,Bg w w3 g k n D A C∧w3.heap[w1.heap.size]?=some (.cells #[.slice (some ⟨g,0,none⟩) n f] 24 (0,0))∧w3.heap[w.heap.size+1]?=some (.cells #[.slice none 0 0] 24 (0,0))∧Bl w w3→w.heap.size≤gm→(D k).n≤M→jh w3 gm (D k).n (D k).mem→Bg w (w3.setCell ⟨g,k*3+2,none⟩ (.slice (some ⟨gm,0,none⟩) (D k).n M)) g (k+1) n D A C∧(w3.setCell ⟨g,k*3+2,none⟩ (.slice (some ⟨gm,0,none⟩) (D k).n M)).heap[w1.heap.size]?=some (.cells #[.slice (some ⟨g,0,none⟩) n f] 24 (0,0))∧(w3.setCell ⟨g,k*3+2,none⟩ (.slice (some ⟨gm,0,none⟩) (D k).n M)).heap[w.heap.size+1]?=some (.cells #[.slice none 0 0] 24 (0,0))∧Bl w (w3.setCell ⟨g,k*3+2,none⟩ (.slice (some ⟨gm,0,none⟩) (D k).n M))):=fun w3 gm M h1 h2 h3 h4=>by
    obtain ⟨a1,a2,a3,a4⟩:=h1;have B:∀ x (c:Array Value),w3.heap[x]?=some (.cells c 24 (0,0))→x≠g:=fun x c hx e=>by
     obtain ⟨c2,e2,-⟩:=a1.choose_spec.choose_spec.2.1;rw [e,e2] at hx;simp only [Option.some.injEq,Obj.cells.injEq] at hx;exact absurd hx.2.1 (by decide)
    exact ⟨a1.put J h2 h3 h4,(av _ _ _ _ _ (B _ _ a2)).trans a2,(av _ _ _ _ _ (B _ _ a3)).trans a3,a4.setCell hgw _⟩
   generalize (D k).name=s1 at e0 hy r;generalize (D k).solve=s2 at e1 hy r;have hdn:=HDn.out k J;obtain ⟨dn,P⟩:=aA ((D k).n);rw [P] at e2 hy r HMk K L hdn;clear s d a m hD p r T P v0 v1 v2 F S;go_wp2_with fail;clear e0 e1 e2
   go_region_held3 (fun w'=>y.grownBy w' (some g)∧w'.cell? ⟨w1.heap.size,0,none⟩=some (.slice (some ⟨g,0,none⟩) n f)∧w'.cell? ⟨wr.heap.size,2,none⟩=some (.slice (some ⟨bm,om,none⟩) dn (C k)))
    ((refine I2 K.out ?_;(repeat (first | exact dg _ _ | assumption | refine ft ?_ | refine mb ?_ _ _));done))
    (first | (go_at_call 41;refine (HMk.out _ (ae HBy.out (by go_grown))).mono ?_;rintro e w3 ⟨⟨gm,M,rfl,hgm,hcm,hMO⟩,q⟩;have z:=ae (W0:=y) (by go_grown) q;have hG3:y.grownBy w3 (some g):=bI z;obtain ⟨⟨u0,d0⟩,f0⟩:=HDy.out w3 z;have HB3:=aa z;have HMO:=aa hMO;have hs3:=z.size;clear q z hMO))
   clear d0 f0 hG3;have l:=aa (L.out w3 gm M (HFy.out w3 HB3.out) hgm hcm HMO.out);go_wp2_with fail
   go_roundg (n-(k+1))
   case measure=>omega
   case rel=>exact ⟨k+1,by omega,rfl,by go_num,l⟩
  have hke:k=n:=by omega
  subst hke;obtain ⟨G,C',O⟩:=s.all;have c3:wr.cell? ⟨w1.heap.size,0,none⟩=some (.slice (some ⟨g,0,none⟩) k f):=(Lib.cell_of_heap d 0).trans rfl;have c4:wr.cell? ⟨w.heap.size+1,0,none⟩=some (.slice none 0 0):=(Lib.cell_of_heap a 0).trans rfl;have f4:=Lib.frozen_of_heap a 0;have hs4:w.heap.size+1<wr.heap.size:=(zY a).1;have l:Hid (jW (wr.setCell ⟨w.heap.size+1,0,none⟩ (.slice (some ⟨g,0,none⟩) k f)) w.heap.size g k D G C'∧Bl w (wr.setCell ⟨w.heap.size+1,0,none⟩ (.slice (some ⟨g,0,none⟩) k f))):=by
   obtain ⟨a1,a2,a3⟩:=O;have B:∀ x (c:Array Value) (t:Nat) (fr:Nat×Nat),wr.heap[x]?=some (.cells c t fr)→t≠24→x≠w.heap.size+1:=fun x c t fr hx ht e=>by
    rw [e,a] at hx;simp only [Option.some.injEq,Obj.cells.injEq] at hx;exact ht hx.2.1.symm
   refine ⟨⟨a1,a2.same (av _ _ _ _ _ ?_),fun i hi=>⟨(a3 i hi).1,(a3 i hi).2.1,(a3 i hi).2.2.same (av _ _ _ _ _ ?_)⟩⟩,m.setCell (by show _≤w.heap.size+1;omega) _⟩
   ·obtain ⟨c,q1,-⟩:=a2
    exact B _ _ _ _ q1 (by decide)
   obtain ⟨c,fr,q1,-⟩:=(a3 i hi).2.2;exact B _ _ _ _ q1 (by decide)
  clear s d a m O F S;go_wp2_with fail;have hq:=World.cell?_setCell_same wr ⟨w.heap.size+1,0,none⟩ (.slice (some ⟨g,0,none⟩) k f) c4;refine bodyPost_ret (v:=.agg #[.slice (some ⟨g,0,none⟩) k f]) (by simp [results,Tryz.results20,go_sem,hq]) rfl ⟨⟨g,f,G,C',rfl,hcg,l.out.1⟩,l.out.2⟩
theorem Jq {x y:ByteArray} (h : ¬ y=x):(y.toList == x.toList)=false:=by
 rw [beq_eq_false_iff_ne];intro e;apply h;rw [Lib.toList_data,Lib.toList_data] at e;obtain ⟨b⟩:=y;obtain ⟨a⟩:=x;exact congrArg ByteArray.mk (Array.toList_inj.1 e)
theorem yt (An:Option Addr) (s:Nat) (N:List ByteArray) (x:ByteArray) (w:World) (h:DG w An s N) :
  Rt 104 #[.slice An N.length s,.string x] w (.int .i64 (bZ N x)):=by
 have v:=aa h;unfold bZ;obtain ⟨n,l⟩:=aA N.length;have r:=aa l;have C:(n:Int)<4611686018427387904:=by have:=h.2.1;omega
 rw [l];clear h l
 go_enter Tryz.func104,Tryz.ntmps104
 go_wp2_with fail
 go_loopg [5] n (fun g s5 wr => ∃ (k:Nat),k≤n∧g=n-k∧s5=.int .i64 k∧findFrom (G9 N x) (n-k) k=findFrom (G9 N x) n 0∧Bl w wr)
 case atStart=>exact ⟨0,zU,rfl,rfl,rfl,zS⟩
 case round =>
  obtain ⟨k,E,rfl,rfl,u,c⟩:=hrel;have e:=aa u;have d:=aa c;clear u c
  by_cases j:k<n
  ·have A:(k:Int)<(n:Int):=by omega
   have q:Hid (n-k=(n-(k+1))+1):=by show _=_;omega
   obtain ⟨-,-,-,z | ⟨b,o,rfl,D,t⟩⟩:=v.out.later d.out
   ·have:=r.out;rw [z] at this;simp at this;omega
   have c0:=t k (by rw [r.out];exact j)
   obtain ⟨y,m⟩:=aA (N.getD k jf);have p:Hid (G9 N x k=decide (y=x)):=by show _=_;unfold G9;rw [m]
   rw [m] at c0;clear t m
   by_cases a:y=x
   ·have f:Hid (G9 N x k=true):=by show _=_;rw [p.out,decide_eq_true a]
    subst a;go_wp2_with fail;go_ret;exact ⟨by rw [←e.out,q.out,bj _ f.out];rfl,d.out⟩
   have f:Hid (G9 N x k=false):=by show _=_;rw [p.out,decide_eq_false a]
   have B:=Jq a;clear a;go_wp2_with fail
   go_roundg (n-(k+1))
   case measure=>omega
   case rel=>exact ⟨k+1,by omega,rfl,by go_num,by rw [←e.out,q.out,be _ f.out],d.out⟩
  have i:k=n:=by omega
  subst i;go_wp2_with fail;go_ret;exact ⟨by rw [←e.out,Nat.sub_self];rfl,d.out⟩
theorem Fc {N:List ByteArray} {o:Int} {a b:Tre} (h:missT N (.bin o a b)=false):missT N a=false∧missT N b=false:=by
 unfold missT at *;rw [refsT,List.any_append,Bool.or_eq_false_iff] at h;exact h
theorem Ih {o:Int} {a b:Int×Int} (c:pm a) (d:pm b):(o=3→jc 65 #[.agg #[.int .i64 a.1,.int .i64 a.2],.agg #[.int .i64 b.1,.int .i64 b.2],.int .i64 1] (qt o a b))∧(o=4→jc 65 #[.agg #[.int .i64 a.1,.int .i64 a.2],.agg #[.int .i64 b.1,.int .i64 b.2],.int .i64 (-1)] (qt o a b))∧(o=5→jc 105 #[.agg #[.int .i64 a.1,.int .i64 a.2],.agg #[.int .i64 b.1,.int .i64 b.2]] (qt o a b))∧(o=6→jc 106 #[.agg #[.int .i64 a.1,.int .i64 a.2],.agg #[.int .i64 b.1,.int .i64 b.2]] (qt o a b)):=by
 refine ⟨?_,?_,?_,?_⟩ <;> rintro rfl
 ·exact yz _ _ _ _ c d
 ·exact vD _ _ _ _ c d
 ·exact yB _ _ _ _ c d
 exact Db _ _ _ _ c d
theorem kq {W w1:World} {p T:Nat} {u v:Value} (a:W.heap[p]?=some (.cells #[u,v] T (0,0))) (b:Bl W w1):p<w1.heap.size∧w1.cell? ⟨p,0,none⟩=some u∧w1.cell? ⟨p,1,none⟩=some v∧w1.frozen? ⟨p,0,none⟩=false∧w1.frozen? ⟨p,1,none⟩=false:=by
 have h:=(b.block p (zY a).1).trans a;exact ⟨(zY h).1,by simp [World.cell?,h],by simp [World.cell?,h],by simp [World.frozen?,h],by simp [World.frozen?,h]⟩
theorem vE (b o cap:Nat) (l:List Nd) (hl:nV l) (h30:l.length≤30) (An:Option Addr) (cn:Nat) (N:List ByteArray) (Ac:Option Addr) (cc:Nat) (C:List (Int×Int)) (E:C.length=N.length) (hok:∀ c∈C,pm c):∀ i,i<l.length→∀ (w:World),jY w b o l→DG w An cn N→dw w Ac cc C→missT N (aG l i)=false →
  Rt 63 #[.slice (some ⟨b,o,none⟩) l.length cap,.int .i64 i,.slice An N.length cn,.slice Ac C.length cc] w (.agg #[.int .i64 (eA N C (aG l i)).1,.int .i64 (eA N C (aG l i)).2]):=by
 have HOk:=aa hok;have HLen:=aa E;clear hok E;intro i
 induction i using Nat.strongRecOn with
 | _ i ih =>
  intro hi w hN K U H;have HI:Hid (∀ m,m<i→m<l.length→∀ (w:World),jY w b o l→DG w An cn N→dw w Ac cc C→missT N (aG l m)=false →
   Rt 63 #[.slice (some ⟨b,o,none⟩) l.length cap,.int .i64 m,.slice An N.length cn,.slice Ac C.length cc] w (.agg #[.int .i64 (eA N C (aG l m)).1,.int .i64 (eA N C (aG l m)).2])):=ih
  clear ih;have hg:=hl i hi;have ho:=lh hg;obtain ⟨x0,x1,x2,x3,x4⟩:=hN.nd (k:=i) hi;obtain ⟨x,Z⟩:=aA (l.getD i bN);rw [Z] at x0 x1 x2 x3 x4 hg ho;have hii:(i:Int)<(l.length:Int):=by omega
  have hli:(l.length:Int)≤30:=by omega
  have hbl:b<w.heap.size:=hN.1;obtain ⟨op,nn,name,left,I⟩:=x;simp only at x0 x1 x2 x3 x4 ho;have HNd:=aa hN;have HNm:=aa K;have HCl:=aa U;obtain ⟨W,hW⟩:=aA ((w.alloc (.cells #[.int .i64 0,.int .i64 0] 52)).alloc (.cells #[.int .i64 op,.int .i64 nn,.string name,.int .i64 left,.int .i64 I] 131));have HR:Hid (W.heap[w.heap.size]?=some (.cells #[.int .i64 0,.int .i64 0] 52 (0,0))):=by show _=_;rw [←hW];exact qa _ _ _
  have hX:W.heap[w.heap.size+1]?=some (.cells #[.int .i64 op,.int .i64 nn,.string name,.int .i64 left,.int .i64 I] 131 (0,0)):=by rw [←hW];exact kj _ _ _
  have L:=aa hX;have d0:W.cell? ⟨w.heap.size+1,0,none⟩=some (.int .i64 op):=by simp [World.cell?,hX]
  have d1:W.cell? ⟨w.heap.size+1,1,none⟩=some (.int .i64 nn):=by simp [World.cell?,hX]
  have d2:W.cell? ⟨w.heap.size+1,2,none⟩=some (.string name):=by simp [World.cell?,hX]
  have d3:W.cell? ⟨w.heap.size+1,3,none⟩=some (.int .i64 left):=by simp [World.cell?,hX]
  have s:Hid (Bl w W):=by show Bl w W;rw [←hW];go_grown
  clear hX
  by_cases h1:op=1
  ·subst h1
   have hP:eA N C (aG l i)=eE nn:=by rw [qb (by rw [Z]),Z];rfl
   rw [hP];have hof:=jK nn;clear Z hP hg ho hN K U H
   go_enter Tryz.func63,Tryz.ntmps63
   go_wp2_with fail;refine (hof _).mono ?_;rintro e w1 ⟨rfl,g⟩;obtain ⟨r1,X,Y,rf0,rf1⟩:=kq HR.out g;have J:=aa (ae s.out g);clear g hof hW d0 d1 d2 d3;go_wp2_with fail;refine bodyPost_ret (v:=.agg #[.int .i64 (eE nn).1,.int .i64 (eE nn).2]) (by simp [results,Tryz.results63,go_sem,X,Y]) rfl ⟨rfl,?_⟩
   exact (J.out.setCell (zT) _).setCell (zT) _
  by_cases h2:op=2
  ·subst h2
   have hT:aG l i=.ref name:=by rw [lI (by rw [Z]),Z]
   rw [hT] at H ⊢;have hw:0≤bZ N name:=by
    unfold missT refsT at H
    simp at H
    exact H
   obtain ⟨j,hj,hjl,-⟩:∃ j:Nat,bZ N name=(j:Int)∧j<N.length∧N.getD j jf=name:=by
    rcases where_cases N name with ⟨hw',-⟩ | h
    ·omega
    exact h
   have hnm:=fun w' (hb:Bl w w')=>yt An cn N name w' (K.later hb)
   rw [hj] at hnm;have E:=HLen.out;obtain ⟨-,-,hC3⟩:=U;obtain ⟨b2,o2,rfl,hCA⟩:=hC3.resolve_left (fun e=>by rw [e] at E;simp at E;omega)
   obtain ⟨c,hc⟩:=aA (C.getD j noC);have hV:eA N C (.ref name)=c:=by show refC N C name=c;unfold refC;rw [hj];exact hc
   rw [hV];have HCA:=aa hCA;have HJ:Hid (j<C.length):=by show j<C.length;omega
   have HCc:=aa hc;have hjc:(j:Int)<(C.length:Int):=by omega
   have hsz:=K.2.1;have hcl:(C.length:Int)<4611686018427387904:=by omega
   clear Z hT hg ho hN K H hC3 hCA hV hc hj hw E
   go_enter Tryz.func63,Tryz.ntmps63
   go_wp2_with fail;refine (hnm _ s.out).mono ?_;rintro e w1 ⟨rfl,g⟩;obtain ⟨r1,X,Y,rf0,rf1⟩:=kq HR.out g;have J:=aa (ae s.out g);obtain ⟨c0,c1⟩:=(HCA.out.later J.out).2 j HJ.out;rw [HCc.out] at c0 c1;clear g hnm hW d0 d1 d2 d3;go_wp2_with fail;refine bodyPost_ret (v:=.agg #[.int .i64 c.1,.int .i64 c.2]) (by simp [results,Tryz.results63,go_sem,X,Y]) rfl ⟨rfl,?_⟩
   exact (J.out.setCell (zT) _).setCell (zT) _
  obtain ⟨a1,a2,a3,a4⟩:=e8 hg (show 2<op by omega)
  simp only at a1 a2 a3 a4;obtain ⟨a,ha⟩:∃ a:Nat,left=a:=⟨left.toNat,by omega⟩
  obtain ⟨c,hc⟩:∃ c:Nat,I=c:=⟨I.toNat,by omega⟩
  subst ha hc;have hT:aG l i=.bin op (aG l a) (aG l c):=by
   have:=lH hl hi (by rw [Z];show 2<op;omega)
   rw [Z] at this
   simpa using this
  rw [hT] at H ⊢;obtain ⟨hma,hmc⟩:=Fc H;have hoa:=yY N HOk.out (aG l a);have hoc:=yY N HOk.out (aG l c);have F:=aa (fun w' (hb:Bl w w')=>HI.out a (by omega) (by omega) w' (hN.later hb) (K.later hb) (U.later hb) hma)
  have G:=aa (fun w' (hb:Bl w w')=>HI.out c (by omega) (by omega) w' (hN.later hb) (K.later hb) (U.later hb) hmc)
  have hV:eA N C (.bin op (aG l a) (aG l c))=qt op (eA N C (aG l a)) (eA N C (aG l c)):=rfl;rw [hV];obtain ⟨u,hu⟩:=aA (eA N C (aG l a));obtain ⟨v,hv⟩:=aA (eA N C (aG l c));rw [hu] at hoa F ⊢;rw [hv] at hoc G ⊢;obtain ⟨p3,p4,p5,p6⟩:=Ih (o:=op) hoa hoc;obtain ⟨t,ht⟩:=aA (qt op u v);rw [ht] at p3 p4 p5 p6 ⊢;unfold jc at p3 p4 p5 p6;have hovc:op=3∨op=4∨op=5∨op=6:=by omega
  clear Z hT hg ho h1 h2 hN K U H hma hmc hoa hoc hV hu hv ht HI a1 a2 a3 a4
  rcases hovc with rfl | rfl | rfl | rfl
  ·have V:=p3 rfl
   clear p3 p4 p5 p6
   go_enter Tryz.func63,Tryz.ntmps63
   go_wp2_with fail;refine (F.out _ s.out).mono ?_;rintro e w1 ⟨rfl,g⟩;have J:=aa g;have O:=aa (ae s.out g);obtain ⟨V1,p⟩:=aA (w1.alloc (.cells #[.int .i64 u.1,.int .i64 u.2] 52));have f:Bl w1 V1:=by rw [←p];exact (zS).alloc (zT) _
   have A:=aa (ae g f);have y:=aa (ae O.out f);have B:V1.heap[w1.heap.size]?=some (.cells #[.int .i64 u.1,.int .i64 u.2] 52 (0,0)):=by rw [←p];exact heap_alloc_new _ _
   have G1:=aa B;have d:=(A.out.block (w.heap.size+1) (zY L.out).1).trans L.out;have k0:V1.cell? ⟨w.heap.size+1,0,none⟩=some (.int .i64 3):=by simp [World.cell?,d]
   have k4:V1.cell? ⟨w.heap.size+1,4,none⟩=some (.int .i64 (c:Int)):=by simp [World.cell?,d]
   have kl:=(zY d).1;clear g f B d hW d0 d1 d2 d3;go_wp2_with fail;refine (G.out _ y.out).mono ?_;rintro e w2 ⟨rfl,n⟩;have P:=aa (ae y.out n);have R:=aa (ae A.out n);obtain ⟨V2,q⟩:=aA (w2.alloc (.cells #[.int .i64 v.1,.int .i64 v.2] 52));have f:Bl w2 V2:=by rw [←q];exact (zS).alloc (zT) _
   have Q:=aa (ae P.out f);have z:=aa (ae R.out f);obtain ⟨y1,y2,y3,-,-⟩:=kq G1.out (ae n f);have D:V2.heap[w2.heap.size]?=some (.cells #[.int .i64 v.1,.int .i64 v.2] 52 (0,0)):=by rw [←q];exact heap_alloc_new _ _
   obtain ⟨q1,q2,q3,-,-⟩:=kq D (zS);have d:=(z.out.block (w.heap.size+1) (zY L.out).1).trans L.out;have S:V2.cell? ⟨w.heap.size+1,0,none⟩=some (.int .i64 3):=by simp [World.cell?,d]
   have T:=(zY d).1;clear n f D d p k0 k4 kl F G;go_wp2_with fail;refine (V _).mono ?_;rintro e w3 ⟨rfl,r⟩;obtain ⟨r1,X,Y,rf0,rf1⟩:=kq HR.out (ae z.out r);have M:=aa (ae Q.out r);clear r V q S T y1 y2 y3 q1 q2 q3;go_wp2_with fail;refine bodyPost_ret (v:=.agg #[.int .i64 t.1,.int .i64 t.2]) (by simp [results,Tryz.results63,go_sem,X,Y]) rfl ⟨rfl,?_⟩
   exact (M.out.setCell (zT) _).setCell (zT) _
  ·have V:=p4 rfl
   clear p3 p4 p5 p6
   go_enter Tryz.func63,Tryz.ntmps63
   go_wp2_with fail;refine (F.out _ s.out).mono ?_;rintro e w1 ⟨rfl,g⟩;have J:=aa g;have O:=aa (ae s.out g);obtain ⟨V1,p⟩:=aA (w1.alloc (.cells #[.int .i64 u.1,.int .i64 u.2] 52));have f:Bl w1 V1:=by rw [←p];exact (zS).alloc (zT) _
   have A:=aa (ae g f);have y:=aa (ae O.out f);have B:V1.heap[w1.heap.size]?=some (.cells #[.int .i64 u.1,.int .i64 u.2] 52 (0,0)):=by rw [←p];exact heap_alloc_new _ _
   have G1:=aa B;have d:=(A.out.block (w.heap.size+1) (zY L.out).1).trans L.out;have k0:V1.cell? ⟨w.heap.size+1,0,none⟩=some (.int .i64 4):=by simp [World.cell?,d]
   have k4:V1.cell? ⟨w.heap.size+1,4,none⟩=some (.int .i64 (c:Int)):=by simp [World.cell?,d]
   have kl:=(zY d).1;clear g f B d hW d0 d1 d2 d3;go_wp2_with fail;refine (G.out _ y.out).mono ?_;rintro e w2 ⟨rfl,n⟩;have P:=aa (ae y.out n);have R:=aa (ae A.out n);obtain ⟨V2,q⟩:=aA (w2.alloc (.cells #[.int .i64 v.1,.int .i64 v.2] 52));have f:Bl w2 V2:=by rw [←q];exact (zS).alloc (zT) _
   have Q:=aa (ae P.out f);have z:=aa (ae R.out f);obtain ⟨y1,y2,y3,-,-⟩:=kq G1.out (ae n f);have D:V2.heap[w2.heap.size]?=some (.cells #[.int .i64 v.1,.int .i64 v.2] 52 (0,0)):=by rw [←q];exact heap_alloc_new _ _
   obtain ⟨q1,q2,q3,-,-⟩:=kq D (zS);have d:=(z.out.block (w.heap.size+1) (zY L.out).1).trans L.out;have S:V2.cell? ⟨w.heap.size+1,0,none⟩=some (.int .i64 4):=by simp [World.cell?,d]
   have T:=(zY d).1;clear n f D d p k0 k4 kl F G;go_wp2_with fail;refine (V _).mono ?_;rintro e w3 ⟨rfl,r⟩;obtain ⟨r1,X,Y,rf0,rf1⟩:=kq HR.out (ae z.out r);have M:=aa (ae Q.out r);clear r V q S T y1 y2 y3 q1 q2 q3;go_wp2_with fail;refine bodyPost_ret (v:=.agg #[.int .i64 t.1,.int .i64 t.2]) (by simp [results,Tryz.results63,go_sem,X,Y]) rfl ⟨rfl,?_⟩
   exact (M.out.setCell (zT) _).setCell (zT) _
  ·have V:=p5 rfl
   clear p3 p4 p5 p6
   go_enter Tryz.func63,Tryz.ntmps63
   go_wp2_with fail;refine (F.out _ s.out).mono ?_;rintro e w1 ⟨rfl,g⟩;have J:=aa g;have O:=aa (ae s.out g);obtain ⟨V1,p⟩:=aA (w1.alloc (.cells #[.int .i64 u.1,.int .i64 u.2] 52));have f:Bl w1 V1:=by rw [←p];exact (zS).alloc (zT) _
   have A:=aa (ae g f);have y:=aa (ae O.out f);have B:V1.heap[w1.heap.size]?=some (.cells #[.int .i64 u.1,.int .i64 u.2] 52 (0,0)):=by rw [←p];exact heap_alloc_new _ _
   have G1:=aa B;have d:=(A.out.block (w.heap.size+1) (zY L.out).1).trans L.out;have k0:V1.cell? ⟨w.heap.size+1,0,none⟩=some (.int .i64 5):=by simp [World.cell?,d]
   have k4:V1.cell? ⟨w.heap.size+1,4,none⟩=some (.int .i64 (c:Int)):=by simp [World.cell?,d]
   have kl:=(zY d).1;clear g f B d hW d0 d1 d2 d3;go_wp2_with fail;refine (G.out _ y.out).mono ?_;rintro e w2 ⟨rfl,n⟩;have P:=aa (ae y.out n);have R:=aa (ae A.out n);obtain ⟨V2,q⟩:=aA (w2.alloc (.cells #[.int .i64 v.1,.int .i64 v.2] 52));have f:Bl w2 V2:=by rw [←q];exact (zS).alloc (zT) _
   have Q:=aa (ae P.out f);have z:=aa (ae R.out f);obtain ⟨y1,y2,y3,-,-⟩:=kq G1.out (ae n f);have D:V2.heap[w2.heap.size]?=some (.cells #[.int .i64 v.1,.int .i64 v.2] 52 (0,0)):=by rw [←q];exact heap_alloc_new _ _
   obtain ⟨q1,q2,q3,-,-⟩:=kq D (zS);have d:=(z.out.block (w.heap.size+1) (zY L.out).1).trans L.out;have S:V2.cell? ⟨w.heap.size+1,0,none⟩=some (.int .i64 5):=by simp [World.cell?,d]
   have T:=(zY d).1;clear n f D d p k0 k4 kl F G;go_wp2_with fail;refine (V _).mono ?_;rintro e w3 ⟨rfl,r⟩;obtain ⟨r1,X,Y,rf0,rf1⟩:=kq HR.out (ae z.out r);have M:=aa (ae Q.out r);clear r V q S T y1 y2 y3 q1 q2 q3;go_wp2_with fail;refine bodyPost_ret (v:=.agg #[.int .i64 t.1,.int .i64 t.2]) (by simp [results,Tryz.results63,go_sem,X,Y]) rfl ⟨rfl,?_⟩
   exact (M.out.setCell (zT) _).setCell (zT) _
  have V:=p6 rfl;clear p3 p4 p5 p6
  go_enter Tryz.func63,Tryz.ntmps63
  go_wp2_with fail;refine (F.out _ s.out).mono ?_;rintro e w1 ⟨rfl,g⟩;have J:=aa g;have O:=aa (ae s.out g);obtain ⟨V1,p⟩:=aA (w1.alloc (.cells #[.int .i64 u.1,.int .i64 u.2] 52));have f:Bl w1 V1:=by rw [←p];exact (zS).alloc (zT) _
  have A:=aa (ae g f);have y:=aa (ae O.out f);have B:V1.heap[w1.heap.size]?=some (.cells #[.int .i64 u.1,.int .i64 u.2] 52 (0,0)):=by rw [←p];exact heap_alloc_new _ _
  have G1:=aa B;have d:=(A.out.block (w.heap.size+1) (zY L.out).1).trans L.out;have k0:V1.cell? ⟨w.heap.size+1,0,none⟩=some (.int .i64 6):=by simp [World.cell?,d]
  have k4:V1.cell? ⟨w.heap.size+1,4,none⟩=some (.int .i64 (c:Int)):=by simp [World.cell?,d]
  have kl:=(zY d).1;clear g f B d hW d0 d1 d2 d3;go_wp2_with fail;refine (G.out _ y.out).mono ?_;rintro e w2 ⟨rfl,n⟩;have P:=aa (ae y.out n);have R:=aa (ae A.out n);obtain ⟨V2,q⟩:=aA (w2.alloc (.cells #[.int .i64 v.1,.int .i64 v.2] 52));have f:Bl w2 V2:=by rw [←q];exact (zS).alloc (zT) _
  have Q:=aa (ae P.out f);have z:=aa (ae R.out f);obtain ⟨y1,y2,y3,-,-⟩:=kq G1.out (ae n f);have D:V2.heap[w2.heap.size]?=some (.cells #[.int .i64 v.1,.int .i64 v.2] 52 (0,0)):=by rw [←q];exact heap_alloc_new _ _
  obtain ⟨q1,q2,q3,-,-⟩:=kq D (zS);have d:=(z.out.block (w.heap.size+1) (zY L.out).1).trans L.out;have S:V2.cell? ⟨w.heap.size+1,0,none⟩=some (.int .i64 6):=by simp [World.cell?,d]
  have T:=(zY d).1;clear n f D d p k0 k4 kl F G;go_wp2_with fail;refine (V _).mono ?_;rintro e w3 ⟨rfl,r⟩;obtain ⟨r1,X,Y,rf0,rf1⟩:=kq HR.out (ae z.out r);have M:=aa (ae Q.out r);clear r V q S T y1 y2 y3 q1 q2 q3;go_wp2_with fail;refine bodyPost_ret (v:=.agg #[.int .i64 t.1,.int .i64 t.2]) (by simp [results,Tryz.results63,go_sem,X,Y]) rfl ⟨rfl,?_⟩
  exact (M.out.setCell (zT) _).setCell (zT) _
end Go.Proofs.YtompdcaikmekkaaGreatDoor
