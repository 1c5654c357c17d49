/- What the document's ow -/
import Derived.Test.YtohgnbgamfepoaaGreatDoorJHAZ
import Derived.Test.YtohgnbgamfepoaaGreatDoorJHBD
namespace Go.Proofs.YtohgnbgamfepoaaGreatDoor
open ChangeShapes WideShapes ChangeAt RowKit
set_option maxRecDepth 99999
set_option maxHeartbeats 0
theorem yZ (A0:Option Addr) (cap n:Nat) (D:Nat→Dm) (A:Nat→Option Addr) (C:Nat→Nat) (w:World) (d:aW w A0 cap n D A C):Rt 4 #[.agg #[.slice A0 n cap]] w (.int .i64 (aO D n).2.2):=by
 have a:=ao w A0 n cap 24;have g:=aH w A0 n cap 24;have h:=za A0 cap n D A C (ax w A0 n cap 24) (d.later a);obtain ⟨W,f⟩:=az (ax w A0 n cap 24);rw [f] at a g h;unfold ax at f;have b:=aa a;generalize (aO D n).1=x at h;generalize (aO D n).2.1=y at h;generalize (aO D n).2.2=z at h ⊢;clear d a
 go_enter Tryz.func4,Tryz.ntmps4
 go_wp2_with fail;refine h.mono ?_;rintro e w1 ⟨rfl,c⟩;go_wp2_with fail;go_ret;exact ⟨rfl,ae b.out c⟩
noncomputable def fq (D:Nat→Dm) (n:Nat) (l:List En):Int:=if (aO D n).2.2≠0 then (aO D n).2.2 else entsErr D n l
structure R2 where
 xs:List RL
 A:Option Addr
 c:Nat
def j8:R2:=⟨[],none,0⟩
def fV (ys:List R2):List Value:=ys.map fun y=>.slice y.A y.xs.length y.c
theorem qs (a b:List R2):fV (a ++ b)=fV a ++ fV b:=by simp [fV]
theorem Jv {ys:List R2} {k:Nat} (h:k<ys.length):ys.getD k j8∈ys:=by
 rw [zZ,zX h];exact List.getElem_mem h
theorem BL {ys:List R2} {k:Nat} (h:k<ys.length):(fV ys)[k]?=some (.slice (ys.getD k j8).A (ys.getD k j8).xs.length (ys.getD k j8).c):=by
 simp [fV,List.getD,h]
def ku (w:World) (A:Option Addr) (cap:Nat) (ys:List R2):Prop:=ys.length≤cap∧(ys=[]∨∃ b,A=some ⟨b,0,none⟩∧b<w.heap.size∧∀ k,k<ys.length→w.cell? ⟨b,k,none⟩=some (.slice (ys.getD k j8).A (ys.getD k j8).xs.length (ys.getD k j8).c))∧∀ y∈ys,db w y.A y.c y.xs
theorem ku.later {w w':World} {A:Option Addr} {cap:Nat} {ys:List R2} (h:ku w A cap ys) (c:Bl w w'):ku w' A cap ys:=by
 obtain ⟨d,a,e⟩:=h;refine ⟨d,?_,fun x g=>(e x g).later c⟩
 rcases a with a | ⟨b,a,h4,h5⟩
 ·exact Or.inl a
 exact Or.inr ⟨b,a,zW h4 c.size,fun k f=>aC c h4 (h5 k f)⟩
theorem Dw {w:World} {base:Nat} {v:Value} {ys:List R2} (h:w.ownsRow base 71 1 v ys.length (fV ys)) (j:∀ y∈ys,db w y.A y.c y.xs):∃ A c,v=.slice A ys.length c∧ku w A c ys:=by
 rcases h.2 with ⟨rfl,d⟩ | ⟨g,cap,b,rfl,m,f,e,_,_,_⟩
 ·have:ys=[]:=List.eq_nil_of_length_eq_zero d
  subst this;exact ⟨none,0,rfl,zU,Or.inl rfl,fun x l=>by cases l⟩
 refine ⟨_,cap,rfl,e,Or.inr ⟨g,rfl,(zY f).1,fun k i=>?_⟩,j⟩
 have y:=h.cells (g:=g) rfl k _ (BL i);have a:(⟨g,0,none⟩:Addr).add k=⟨g,k,none⟩:=by unfold Addr.add;split <;> simp_all
 rw [a] at y;exact y
theorem vG:(3:Nat)≠71:=by decide
theorem vH:(26:Nat)≠71:=by decide
theorem uU {w w':World} {base:Nat} {v:Value} {n b T:Nat} {zs:List Value} {cs:Array Value} {fr:Nat×Nat} (a:w.ownsRow base 71 1 v n zs) (f:w.grownBy w' v.ownBlock) (c:w.heap[b]?=some (.cells cs T fr)) (h:T≠71):w'.heap[b]?=w.heap[b]?:=by
 refine f.block b (zY c).1 fun e=>?_
 rcases a.2 with ⟨rfl,-⟩ | ⟨g,cap,d,rfl,-,i,-⟩
 ·cases e
 simp only [Value.ownBlock,Option.some.injEq] at e;rw [e,i] at c;simp only [Option.some.injEq,Obj.cells.injEq] at c;exact h c.2.1.symm
theorem db.row2 {w w':World} {base:Nat} {v:Value} {n:Nat} {zs:List Value} {A:Option Addr} {c:Nat} {xs:List RL} (h:db w A c xs) (j:jh w A xs) (d:w.ownsRow base 71 1 v n zs) (i:w.grownBy w' v.ownBlock):db w' A c xs∧jh w' A xs:=by
 obtain ⟨l,e,o⟩:=h;have f:∀ x∈xs,aR w' x.A x.c x.p:=fun x r=>(o x r).keep fun b cs fr g=>uU d i g vG
 rcases j with j | ⟨b,cs,fr,hA,g⟩
 ·subst j
  exact ⟨⟨l,Or.inl rfl,f⟩,Or.inl rfl⟩
 have m:=uU d i g vH;refine ⟨⟨l,?_,f⟩,Or.inr ⟨b,cs,fr,hA,m.trans g⟩⟩
 rcases e with e | ⟨b',e,h4,h5⟩
 ·exact Or.inl e
 rw [hA] at e;cases e;exact Or.inr ⟨b,hA,zW h4 i.size,fun k q=>(World.cell?_of_block (a:=⟨b,k,none⟩) m).trans (h5 k q)⟩
theorem Tryz.infoRow2:(Tryz.prog.info? 71).map (fun i=>(i.zero,i.size,i.bytes))=some (some (.slice none 0 0),1,24):=by kernel_rfl
theorem ti (A0:Option Addr) (cap n:Nat) (D:Nat→Dm) (A:Nat→Option Addr) (C:Nat→Nat) (w:World) (hn4:n≤4) (hR:dI D n) (hM:aW w A0 cap n D A C):Calls Tryz.prog 48 #[.agg #[.slice A0 n cap]] w fun e w'=>(∃ A' r ys,e=.returned (.slice A' n r)∧ys.length=n∧ku w' A' r ys∧∀ i,i<n→lR (ys.getD i j8).xs=eV (D i))∧Bl w w':=by
 obtain ⟨i0,T,X,Y,Z⟩:=info_parts Tryz.infoRow2;have v:=ao w A0 n cap 24;have hS:=av w A0 n cap 24;have Q:=aH w A0 n cap 24;obtain ⟨W,R⟩:=az (ax w A0 n cap 24);rw [R] at v hS Q;unfold ax at R;have E:=aa v;have HM:=aa hM;have HA:=aa Q;have HR:=aa hR;have K:w.heap.size<W.heap.size:=by omega
 have hnI:(n:Int)≤4:=by omega
 clear hM v Q hR hS
 go_enter Tryz.func48,Tryz.ntmps48
 go_wp2_with fail;clear R
 go_loopg [3,4] n (fun g s3 s4 wr => ∃ (k:Nat) (ys:List R2),k≤n∧g=n-k∧s4=.int .i64 k∧Hid (ys.length=k∧(∀ i,i<k→lR (ys.getD i j8).xs=eV (D i))∧∀ y∈ys,db wr y.A y.c y.xs∧jh wr y.A y.xs)∧wr.ownsRow W.heap.size 71 1 s3 k (fV ys)∧Bl W wr)
 case atStart=>exact ⟨0,[],zU,rfl,rfl,(⟨rfl,fun i hi=>absurd hi (Nat.not_lt_zero _),fun y j=>by cases j⟩:_∧_∧_),World.ownsRow_nil _ _ _ _,zS⟩
 case round =>
  obtain ⟨k,ys,hk,rfl,rfl,s,L,f⟩:=hrel;have HO:=aa L;have G:=aa f;have cw:wr.cell? ⟨w.heap.size,0,none⟩=some (.slice A0 n cap):=aC f K HA.out;have hszr:w.heap.size<wr.heap.size:=zW K f.size
  by_cases J:k<n
  ·have hki:(k:Int)<(n:Int):=by omega
   obtain ⟨hcap,h0 | ⟨b,o,rfl,x⟩⟩:=HM.out.later (ae E.out f)
   ·omega
   have S:(n:Int)≤(cap:Int):=by omega
   obtain ⟨h0,h1,h2,h3⟩:=x.2 k J;have hbl:b<wr.heap.size:=x.1;have m:=p8 (D k) (A k) (C k) wr h3;unfold cQ at m;have I:=HR.out k J;rw [I] at m;generalize (bv (D k)).1=z at m;clear h3 x f L I;go_wp2_with fail;refine m.mono ?_;rintro e w2 ⟨⟨A2,c2,xs,rfl,hV,hL,hT⟩,l⟩;have F:=aa (ae G.out l);have q:Hid (w2.ownsRow W.heap.size 71 1 u3 k (fV ys)):=an HO.out l;have H:Hid (∀ y∈ys,db w2 y.A y.c y.xs∧jh w2 y.A y.xs):=fun y j=>⟨(s.out.2.2 y j).1.later l,(s.out.2.2 y j).2.later l⟩
   have t:Hid (db w2 A2 c2 xs∧jh w2 A2 xs∧lR xs=eV (D k)):=⟨hV,hT,hL trivial⟩;have hs2:=F.out.size;obtain ⟨xl,B⟩:=az xs.length;have O:=aa B;rw [B];clear l m hV hL hT B h0 h1 h2
   go_wp2_with (at_builtin;refine wpList_append_own _ rfl _ _ 104 rfl W.heap.size 71 i0 (.slice none 0 0) 1 24 Tryz.underlying104 T X Y Z rfl (by decide) _ _ _ rfl (q.out.alloc _) ⟨w2.heap.size,0,none⟩ 1 1 [.slice A2 xl c2] rfl rfl bz (by intro u hu;simp at hu;subst hu;rfl) (by unfold maxLen;omega) (by omega) (by simp;omega) ?_)
   intro v' w3 p a _;have M:Hid (Bl W w3):=bD F.out q.out a;have P:Hid ((ys ++ [(⟨xs,A2,c2⟩:R2)]).length=k+1∧(∀ i,i<k+1→lR ((ys ++ [(⟨xs,A2,c2⟩:R2)]).getD i j8).xs=eV (D i))∧∀ y∈ys ++ [(⟨xs,A2,c2⟩:R2)],db w3 y.A y.c y.xs∧jh w3 y.A y.xs):=by
    have d:=s.out.1;refine ⟨by rw [List.length_append,d];rfl,fun i hi=>?_,fun y j=>?_⟩
    ·by_cases e:i=k
     ·rw [e,zZ,List.getElem?_append_right (by omega),d,Nat.sub_self]
      exact t.out.2.2
     rw [zZ,List.getElem?_append_left (by omega),←zZ]
     exact s.out.2.1 i (by omega)
    rcases List.mem_append.1 j with j | j
    ·exact ((H.out y j).1.later (by go_grown)).row2 ((H.out y j).2.later (by go_grown)) (q.out.alloc _) a
    rw [List.mem_singleton.1 j];exact (t.out.1.later (by go_grown)).row2 (t.out.2.1.later (by go_grown)) (q.out.alloc _) a
   have N:Hid (w3.ownsRow W.heap.size 71 1 v' (k+1) (fV (ys ++ [(⟨xs,A2,c2⟩:R2)]))):=by
    show World.ownsRow ..
    rw [qs];have e:fV [(⟨xs,A2,c2⟩:R2)]=[.slice A2 xl c2]:=by simp [fV,O.out]
    rw [e];exact p
   clear p a;go_wp2_with fail
   go_roundg (n-(k+1))
   case measure=>omega
   case rel=>exact ⟨k+1,_,by omega,rfl,by go_num,P,N.out,M.out⟩
  have U:k=n:=by omega
  subst U;have HF:Hid (∃ A' r,u3=.slice A' k r∧ku wr A' r ys):=by
   have d:=s.out.1;have h:=L;rw [←d] at h;obtain ⟨A',r,e,V⟩:=Dw h fun y j=>(s.out.2.2 y j).1
   rw [d] at e;exact ⟨A',r,e,V⟩
  clear L f;go_wp2_with fail;go_ret;obtain ⟨A',r,e,V⟩:=HF.out;exact ⟨⟨A',r,ys,by rw [←e];rfl,s.out.1,V,s.out.2.1⟩,ae E.out G.out⟩
def eM (D:Nat→Dm) (n:Nat) (p:List Int) (T:List Int):Prop:=T.Pairwise (· < ·)∧T.length≤12∧∀ z,z∈T↔∃ b:Nat,byTo D p n=(b:Int)∧∃ x∈ep (D b) (p.getD b 0).toNat,z=numI D (p.set b x) n
theorem DK (A0:Option Addr) (cap n:Nat) (D:Nat→Dm) (A:Nat→Option Addr) (C:Nat→Nat) (AN:Option Addr) (cN:Nat) (ys:List R2) (Ap:Option Addr) (cp:Nat) (L:List Int) (w:World) (hR:dI D n) (hI:InO D n L) (hM:aW w A0 cap n D A C) (hyl:ys.length=n) (hY:ku w AN cN ys) (hyn:∀ i,i<n→lR (ys.getD i j8).xs=eV (D i)) (hP:aZ w Ap cp L) :
  Calls Tryz.prog 50 #[.agg #[.slice A0 n cap],.slice AN n cN,.slice Ap L.length cp] w fun e w'=>(∃ A' r T,e=.returned (.slice A' T.length r)∧bV w' A' r T∧eM D n L T)∧Bl w w':=by
 obtain ⟨hn1,hn4,-,hd⟩:=au hI.right;have hnI:(n:Int)≤4:=by omega
 have hl:=hI.len;have u:=ao w A0 n cap 24;have hS:=av w A0 n cap 24;have hA:=aH w A0 n cap 24;have o:=nR A0 cap n D A C Ap cp L (ax w A0 n cap 24) hI (hM.later u) (hP.later u);obtain ⟨W,hW⟩:=az (ax w A0 n cap 24);rw [hW] at u hS hA o;unfold ax at hW;have HB0:=aa u;have HM:=aa hM;have HA:=aa hA;have HR:=aa hR;have HI:=aa hI;have HP:=aa hP;have HY:=aa hY;have HYn:=aa hyn;have I:=aa hyl;have a:=aa hl;have HD12:Hid (∀ i,i<n→(D i).n≤12):=fun i hi=>(hd i hi).2
 have hsz:w.heap.size<W.heap.size:=by omega
 rw [hl] at o ⊢;clear hM u hR hI hP hY hyn hyl hl hd hS
 rcases by_in D L n with hneg | ⟨b,hb,hbn⟩
 ·have H:Hid (eM D n L []):=⟨List.Pairwise.nil,zU,fun z=>⟨fun h=>(by cases h),fun ⟨b,h1,_⟩=>(by rw [hneg] at h1;omega)⟩⟩
  rw [hneg] at o;clear hneg
  go_enter Tryz.func50,Tryz.ntmps50
  go_wp2_with fail;refine o.mono ?_;rintro e w1 ⟨rfl,B⟩;go_wp2_with fail;go_ret;exact ⟨⟨none,0,[],rfl,bV.nil _,H.out⟩,ae HB0.out B⟩
 rw [hb] at o;have HBy:=aa hb;have hbI:(b:Int)<(n:Int):=by omega
 have hb0:decide ((b:Int)<0)=false:=decide_eq_false (by omega)
 have hp0:=HI.out.lo b hbn;have hp1:=HI.out.hi b hbn;obtain ⟨x,hx⟩:∃ x:Nat,L.getD b 0=(x:Int):=⟨(L.getD b 0).toNat,by omega⟩
 have HX:=aa hx;have hxn:x<(D b).n:=by omega
 clear hb
 go_enter Tryz.func50,Tryz.ntmps50
 go_wp2_with fail;refine o.mono ?_;rintro e w1 ⟨rfl,B⟩;have HB1:=aa B;have q:=ae HB0.out B;have K:=aa q;obtain ⟨hcN,hy0 | ⟨g2,rfl,hg2,hc2⟩,hr2⟩:=HY.out.later q
 ·have:=I.out;rw [hy0] at this;simp at this;omega
 have cy:=hc2 b (by rw [I.out];exact hbn)
 have hry:=hr2 _ (Jv (k:=b) (by rw [I.out];exact hbn))
 have hrn:=HYn.out b hbn;rw [I.out] at hcN;have hcNi:(n:Int)≤(cN:Int):=by omega
 have F:(ys.getD b j8).xs.length=(D b).n:=by rw [←o7,hrn,fI]
 rw [F] at cy;obtain ⟨hcx,hx0 | ⟨g1,hg1,hgl1,hc1⟩,hr1⟩:=hry
 ·rw [hx0] at F;simp at F;omega
 have cx:=hc1 x (by omega)
 have v:=hr1 _ (il (k:=x) (by omega))
 have HMx:Hid (((ys.getD b j8).xs.getD x eq).p=ep (D b) x):=by show _=_;rw [←rs,hrn,mu hxn]
 rw [HMx.out] at cx v;rw [hg1] at cy;rw [F] at hcx;generalize ((ys.getD b j8).xs.getD x eq).A=Ax at cx v;generalize ((ys.getD b j8).xs.getD x eq).c=ccx at cx v;generalize (ys.getD b j8).c=ccy at cy hcx;obtain ⟨hcP,hP0 | ⟨bp,op,rfl,hbp,hcp⟩⟩:=HP.out.later q
 ·have:=a.out;rw [hP0] at this;simp at this;omega
 have cpb:=hcp b (by rw [a.out];exact hbn)
 rw [HX.out] at cpb;rw [a.out] at hcP;have hcPi:(n:Int)≤(cp:Int):=by omega
 have hxI:(x:Int)<((D b).n:Int):=by omega
 have hcxi:((D b).n:Int)≤(ccy:Int):=by omega
 have O:=HD12.out b hbn;have HTx:=aa v;have V:Hid ((ep (D b) x).length≤12):=zV (sC (D b) x) O;obtain ⟨m,hm⟩:=az ((ep (D b) x).length);have f:=aa hm;rw [hm] at cx V;have hmI:(m:Int)≤12:=by have:=V.out;omega
 generalize (D b).n=dn at cy hcx hxI hcxi O;clear B q o hc2 hr2 hc1 hr1 v hrn F hm hW hA;go_wp2_with fail
 go_quiet (fail)
 obtain ⟨w2,hw2⟩:=az (w1.drewN nq);have s:Hid (Bl w1 w2):=by rw [←hw2];exact ac (zS) _
 rw [hw2];clear hw2 cy cx cpb;obtain ⟨M,hM⟩:=az (ep (D b) x);have U:=aa hM;rw [hM] at HTx f;clear hM;go_wp2_with fail
 go_loopg [8,10] m (fun g s8 s10 wi => ∃ (t:Nat) (T:List Int) (A8:Option Addr) (c8:Nat),t≤m∧g=m-t∧s10=.int .i64 t∧s8=.slice A8 T.length c8∧bV wi A8 c8 T∧Hid (T.Pairwise (· < ·)∧T.length≤t∧∀ z,z∈T↔∃ j,j<t∧z=numI D (L.set b (M.getD j 0)) n)∧Bl w2 wi)
 case atStart=>exact ⟨0,[],none,0,zU,rfl,rfl,rfl,bV.nil _,(⟨List.Pairwise.nil,zT,fun z=>⟨fun h=>(by cases h),fun ⟨j,P,_⟩=>absurd P (Nat.not_lt_zero _)⟩⟩:_∧_∧_),zS⟩
 case round =>
  obtain ⟨t,T,A8,c8,ht,rfl,rfl,rfl,hR8,H,l⟩:=hrel;have HR8:=aa hR8;have R:=aa l
  by_cases htl:t<m
  ·have hti:(t:Int)<(m:Int):=by omega
   have Y:Bl w wr:=ae K.out (ae s.out l);have cw:wr.cell? ⟨w.heap.size,0,none⟩=some (.slice A0 n cap):=((ae HB1.out (ae s.out l)).cell (p:=⟨w.heap.size,0,none⟩) hsz).trans HA.out;have Q:w.heap.size<wr.heap.size:=zW hsz (ae HB1.out (ae s.out l)).size;obtain ⟨hcT,-,hT0 | ⟨bt,cs,fr,rfl,hbt,hct⟩⟩:=(HTx.out.later s.out).later l
   ·have:=f.out;rw [hT0] at this;simp at this;omega
   have ct:=hct t (by rw [f.out];exact htl)
   have N:bt<wr.heap.size:=(zY hbt).1;rw [f.out] at hcT;have hcTi:(m:Int)≤(ccx:Int):=by omega
   have J:=eo (d:=D b) (i:=x) (by rw [U.out];exact f6 (L:=M) (j:=t) (by rw [f.out];exact htl))
   have X:Hid (∀ z,(z∈T∨z=numI D (L.set b (M.getD t 0)) n)↔∃ j,j<t+1∧z=numI D (L.set b (M.getD j 0)) n):=fun z=>by
    rw [H.out.2.2 z]
    constructor
    ·rintro (⟨j,P,e⟩ | e)
     ·exact ⟨j,by omega,e⟩
     exact ⟨t,by omega,e⟩
    rintro ⟨j,P,e⟩
    by_cases ej:j=t
    ·rw [ej] at e;exact Or.inr e
    exact Or.inl ⟨j,by omega,e⟩
   obtain ⟨y,hy⟩:=az (M.getD t 0);rw [hy] at ct J X;have hIn:=gQ HI.out hbn J.1 J.2;have hll:(L.set b y).length=n:=by rw [List.length_set];exact a.out
   have HWt:Hid (∀ w',Bl wr w'→Calls Tryz.prog 62 #[.slice (some ⟨bp,op,none⟩) n cp,.int .i64 b,.int .i64 y] w' fun e w''=>(∃ A' r,e=.returned (.slice A' n r)∧aZ w'' A' r (L.set b y))∧Bl w' w''):=fun w' G=>by
    have h:=mJ (some ⟨bp,op,none⟩) cp L b y w' (by rw [a.out];exact hbn) (by rw [a.out];exact hn4) (HP.out.later (ae Y G))
    rw [a.out] at h;exact h
   have HNu:Hid (∀ A' r w',Bl wr w'→aZ w' A' r (L.set b y)→Rt 8 #[.agg #[.slice A0 n cap],.slice A' n r] w' (.int .i64 (numI D (L.set b y) n))):=fun A' r w' G hP'=>by
    have h:=fP A0 cap n D A C A' r (L.set b y) w' hIn (HM.out.later (ae Y G)) hP';rw [hll] at h;exact h
   obtain ⟨Z,hZ⟩:=az (numI D (L.set b y) n);rw [hZ] at X HNu;obtain ⟨tl,E⟩:=az T.length;have HPu:Hid (∀ w',Bl wr w'→Calls Tryz.prog 70 #[.slice A8 tl c8,.int .i64 Z] w' fun e w''=>(∃ A' r,e=.returned (.slice A' (cY T Z).length r)∧bV w'' A' r (cY T Z))∧Bl w' w''):=fun w' G=>by
    rw [←E];exact lA A8 c8 T Z w' (by have:=H.out.2.1;omega) (HR8.out.later G)
   have HT2:Hid ((cY T Z).Pairwise (· < ·)∧(cY T Z).length≤t+1∧∀ z,z∈cY T Z↔∃ j,j<t+1∧z=numI D (L.set b (M.getD j 0)) n):=⟨lB _ _ H.out.1,zV (sW _ _) (by have:=H.out.2.1;omega),fun z=>by rw [jO];exact X.out z⟩
   rw [E];clear hR8 l hct hbt hy hIn hll hZ E Y J;have S:Hid (∀ w',Bl wr w'→w'.cell? ⟨w.heap.size,0,none⟩=some (.slice A0 n cap)∧w.heap.size<w'.heap.size∧w'.cell? ⟨bt,t,none⟩=some (.int .i64 y)∧bt<w'.heap.size):=fun w' G=>⟨aC G Q cw,zW Q G.size,aC G N ct,zW N G.size⟩
   go_upto_region 9 with fail
   go_region_law ((first
    | (go_simp;refine (HWt.out _ (by go_grown)).mono ?_;rintro e w3 ⟨⟨A3,c3,rfl,hP3⟩,hb3⟩;have hN3:=ae (W0:=wr) (by go_grown) hb3;obtain ⟨cw3,hw3,ct3,ht3⟩:=S.out _ hN3;clear hb3)
    | (go_simp;refine (HNu.out _ _ _ (by go_grown) (by first | exact hP3 | exact hP3.later (by go_grown))).mono ?_;rintro e w4 ⟨rfl,hb4⟩;have hN4:=ae (W0:=wr) (by go_grown) hb4;obtain ⟨cw4,hw4,ct4,ht4⟩:=S.out _ hN4;clear hb4)
    | (go_simp;refine (HPu.out _ (by go_grown)).mono ?_;rintro e w5 ⟨⟨A5,c5,rfl,hR5⟩,hb5⟩;have hN5:=ae (W0:=wr) (by go_grown) hb5;obtain ⟨cw5,hw5,ct5,ht5⟩:=S.out _ hN5;have HR5:=aa hR5;have HN5:=aa hN5;clear hb5)))
   all_goals clear hP3 hR5 hN3 hN4 hN5
   all_goals go_wp2_with fail
   all_goals go_roundg (m-(t+1))
   all_goals first
    | omega
    | exact ⟨t+1,cY T Z,A5,c5,by omega,rfl,by go_num,rfl,HR5.out,HT2,ae R.out HN5.out⟩
    | exact ⟨t+1,cY T Z,A5,c5,by omega,rfl,by go_num,rfl,HR5.out.later (ac (zS) _),HT2,ac (ae R.out HN5.out) _⟩
  have hte:t=m:=by omega
  subst hte;have HFin:Hid (eM D n L T):=by
   refine ⟨H.out.1,zV H.out.2.1 V.out,fun z=>?_⟩
   rw [H.out.2.2 z]
   constructor
   ·rintro ⟨j,P,e⟩
    refine ⟨b,HBy.out,M.getD j 0,?_,e⟩;rw [HX.out,Int.toNat_natCast,U.out];exact f6 (by rw [f.out];exact P)
   rintro ⟨b',h1,y,hy,e⟩;have hbb:b'=b:=by have:=HBy.out;omega
   subst hbb;rw [HX.out,Int.toNat_natCast,U.out] at hy;obtain ⟨j,P,rfl⟩:=List.getElem_of_mem hy;refine ⟨j,by rw [←f.out];exact P,?_⟩
   rw [zZ,zX P];exact e
  clear hR8 l;go_wp2_with fail;go_ret;exact ⟨⟨A8,c8,T,rfl,HR8.out,HFin.out⟩,ae K.out (ae s.out R.out)⟩
end Go.Proofs.YtohgnbgamfepoaaGreatDoor
