/- What All of package ru -/
import Derived.Test.YtompdcaikmekkaaGreatDoorJHAX
import Derived.Test.YtompdcaikmekkaaGreatDoorJHAY
import Derived.Test.YtompdcaikmekkaaGreatDoorJHAZ
namespace Go.Proofs.YtompdcaikmekkaaGreatDoor
open ChangeShapes WideShapes ChangeAt RowKit
set_option maxRecDepth 99999
set_option maxHeartbeats 0
noncomputable def D3 (D:Nat→Dm) (i:Nat):Bool:=decide ((bu (D i)).2≠0)
noncomputable def aP (D:Nat→Dm) (n:Nat):Int×Int×Int :=
 if (am D n).2.2≠0 then am D n
 else if 0≤findFrom (D3 D) n 0 then (findFrom (D3 D) n 0,bu (D (findFrom (D3 D) n 0).toNat))
 else (-1,-1,0)
theorem Kg {D:Nat→Dm} {n:Nat} (h:(am D n).2.2≠0):aP D n=am D n:=by unfold aP;rw [if_pos h]
theorem Kh {D:Nat→Dm} {n i:Nat} (h:(am D n).2.2=0) (d:i<n) (a:(bu (D i)).2≠0) (b:∀ j,j<i→(bu (D j)).2=0):aP D n=((i:Int),(bu (D i)).1,(bu (D i)).2):=by
 have e:findFrom (D3 D) n 0=(i:Int):=eM (zU) (by omega) (decide_eq_true a) fun j _ c=>decide_eq_false (by simpa using b j c)
 unfold aP;rw [if_neg (by simpa using h),e,if_pos (by omega),Int.toNat_natCast]
theorem Ki {D:Nat→Dm} {n:Nat} (h:(am D n).2.2=0) (a:∀ j,j<n→(bu (D j)).2=0):aP D n=(-1,-1,0):=by
 unfold aP;rw [if_neg (by simpa using h),bQ (p:=D3 D) fun j _ b=>decide_eq_false (by simpa using a j (by omega)),if_neg (by omega)]
theorem pM (A0:Option Addr) (cap n:Nat) (D:Nat→Dm) (A:Nat→Option Addr) (C:Nat→Nat) (w:World) (M:aY w A0 cap n D A C):Rt 71 #[.agg #[.slice A0 n cap]] w (.tuple #[.int .i64 (aP D n).1,.int .i64 (aP D n).2.1,errV (aP D n).2.2]):=by
 have q:=aq w A0 n cap 24;have hS:=aw w A0 n cap 24;have I:=aI w A0 n cap 24;have a:=rY A0 cap n D A C (ay w A0 n cap 24) (M.later q);obtain ⟨W,N⟩:=aA (ay w A0 n cap 24);rw [N] at q hS I a;unfold ay at N;have p:=aa q;have X:=aa M;have H:w.heap.size<W.heap.size:=by omega
 clear M q
 by_cases h:(am D n).2.2=0
 case neg =>
  rw [Kg h];rw [ak h] at a ⊢;generalize (am D n).1=x at a ⊢;generalize (am D n).2.1=y at a ⊢;generalize (am D n).2.2=c at a ⊢;clear h
  go_enter Tryz.func71,Tryz.ntmps71
  go_wp2_with fail;refine a.mono ?_;rintro e w1 ⟨rfl,i⟩;go_wp2_with fail;go_returns;exact ⟨rfl,ae p.out i⟩
 obtain ⟨hn1,hn4,-,-⟩:=au h;have R:=aa h;rw [h,errV_zero] at a;generalize (am D n).1=x at a;generalize (am D n).2.1=y at a;have hnI:(n:Int)≤4:=by omega
 have HA:=aa I;clear h
 go_enter Tryz.func71,Tryz.ntmps71
 go_wp2_with fail;refine a.mono ?_;rintro e w1 ⟨rfl,i⟩;have J:=aa i;have c1:w1.cell? ⟨w.heap.size,0,none⟩=some (.slice A0 n cap):=aD i H I;have V:w.heap.size<w1.heap.size:=zW H i.size;clear i a I N;go_wp2_with fail
 go_loopg [26] n (fun g s26 wr => ∃ (k:Nat),k≤n∧g=n-k∧s26=.int .i64 k∧Hid (∀ j,j<k→(bu (D j)).2=0)∧Bl W wr)
 case atStart=>exact ⟨0,zU,rfl,rfl,(fun j U=>absurd U (Nat.not_lt_zero _):∀ j,j<0→_),J.out⟩
 case round =>
  obtain ⟨k,hk,rfl,rfl,K,r⟩:=hrel;have u:=aa r
  by_cases G:k<n
  ·have hki:(k:Int)<(n:Int):=by omega
   obtain ⟨T,h0 | ⟨b,o,rfl,B⟩⟩:=X.out.later (ae p.out r)
   ·omega
   have O:(n:Int)≤(cap:Int):=by omega
   obtain ⟨h0,h1,h2,S⟩:=B.2 k G;have hbl:b<wr.heap.size:=B.1;have v:=aU wr (D k) (A k) (C k) 70;have f:=yk (D k) (A k) (C k) (aM wr (D k) (A k) (C k) 70) (S.later v);obtain ⟨Y,Z,d2,Q⟩:=fp (w:=wr) (d:=D k) (A:=A k) (cap:=C k) (zS);have t:=aa v;unfold cM at f;obtain ⟨W2,F⟩:=aA (aM wr (D k) (A k) (C k) 70);rw [F] at Y Z d2 Q t f;unfold aM at F;clear S B v r
   by_cases h:(bu (D k)).2=0
   ·rw [h,errV_zero] at f
    have L:Hid (∀ j,j<k+1→(bu (D j)).2=0):=fun j U=>by
     by_cases e:j=k
     ·rw [e];exact h
     exact K.out j (by omega)
    generalize (bu (D k)).1=z at f;clear h;go_wp2_with fail;refine f.mono ?_;rintro e w2 ⟨rfl,m⟩;have s:=aa (ae u.out (ae t.out m));clear m f;go_wp2_with fail
    go_roundg (n-(k+1))
    case measure=>omega
    case rel=>exact ⟨k+1,by omega,rfl,by go_num,L,s.out⟩
   have l:Hid (aP D n=((k:Int),(bu (D k)).1,(bu (D k)).2)):=Kh R.out G h K.out;have E:=aa h;rw [ak h] at f;generalize (bu (D k)).1=z at f l;generalize (bu (D k)).2=c at f l E;clear h;go_wp2_with fail;refine f.mono ?_;rintro e w2 ⟨rfl,m⟩;have s:=aa (ae u.out (ae t.out m));clear m f;go_wp2_with fail;go_returns;rw [l.out];exact ⟨by rw [ak E.out];rfl,ae p.out s.out⟩
  have P:k=n:=by omega
  subst P;have l:Hid (aP D k=(-1,-1,0)):=Ki R.out K.out;clear r;go_wp2_with fail;go_returns;rw [l.out];exact ⟨rfl,ae p.out u.out⟩
theorem yN (A0:Option Addr) (cap n:Nat) (D:Nat→Dm) (A:Nat→Option Addr) (C:Nat→Nat) (w:World) (I:aY w A0 cap n D A C):Rt 18 #[.agg #[.slice A0 n cap]] w (.tuple #[.int .i64 (aP D n).1,.int .i64 (aP D n).2.1,.int .i64 (aP D n).2.2]):=by
 have p:=aq w A0 n cap 24;have U:=aw w A0 n cap 24;have H:=aI w A0 n cap 24;have a:=lw A0 cap n D A C (ay w A0 n cap 24) (I.later p);obtain ⟨W,J⟩:=aA (ay w A0 n cap 24);rw [J] at p U H a;unfold ay at J;have m:=aa p;have S:=aa I;have B:w.heap.size<W.heap.size:=by omega
 clear I p
 by_cases f:(am D n).2.2=0
 case neg =>
  rw [Kg f];have u:((am D n).2.2 != 0)=true:=by simpa using f
  generalize (am D n).1=x at a ⊢;generalize (am D n).2.1=y at a ⊢;generalize (am D n).2.2=c at a u ⊢;clear f
  go_enter Tryz.func18,Tryz.ntmps18
  go_wp2_with fail;refine a.mono ?_;rintro e w1 ⟨rfl,q⟩;go_wp2_with fail;go_returns;exact ⟨rfl,ae m.out q⟩
 obtain ⟨Y,Z,-,-⟩:=au f;have M:=aa f;rw [f] at a;generalize (am D n).1=x at a;generalize (am D n).2.1=y at a;have KG:(n:Int)≤4:=by omega
 have R:=aa H;clear f
 go_enter Tryz.func18,Tryz.ntmps18
 go_wp2_with fail;refine a.mono ?_;rintro e w1 ⟨rfl,q⟩;have E:=aa q;clear q a H J;go_wp2_with fail
 go_loopg [8] n (fun g s8 wr => ∃ (k:Nat),k≤n∧g=n-k∧s8=.int .i64 k∧Hid (∀ j,j<k→(bu (D j)).2=0)∧Bl W wr)
 case atStart=>exact ⟨0,zU,rfl,rfl,(fun j P=>absurd P (Nat.not_lt_zero _):∀ j,j<0→_),E.out⟩
 case round =>
  obtain ⟨k,hk,rfl,rfl,F,h⟩:=hrel;have s:=aa h;have cw:wr.cell? ⟨w.heap.size,0,none⟩=some (.slice A0 n cap):=aD h B R.out;have Q:w.heap.size<wr.heap.size:=zW B h.size
  by_cases v:k<n
  ·have X:(k:Int)<(n:Int):=by omega
   obtain ⟨O,T | ⟨b,o,rfl,t⟩⟩:=S.out.later (ae m.out h)
   ·omega
   have K:(n:Int)≤(cap:Int):=by omega
   obtain ⟨T,h1,h2,N⟩:=t.2 k v;have V:b<wr.heap.size:=t.1;have d:=pU (D k) (A k) (C k) wr N;unfold cM at d;clear N t h
   by_cases f:(bu (D k)).2=0
   ·have G:Hid (∀ j,j<k+1→(bu (D j)).2=0):=fun j P=>by
     by_cases e:j=k
     ·rw [e];exact f
     exact F.out j (by omega)
    rw [f] at d;generalize (bu (D k)).1=z at d;clear f;go_wp2_with fail;refine d.mono ?_;rintro e w2 ⟨⟨A2,c2,xs,rfl,-⟩,l⟩;have r:=aa (ae s.out l);clear l d;go_wp2_with fail
    go_roundg (n-(k+1))
    case measure=>omega
    case rel=>exact ⟨k+1,by omega,rfl,by go_num,G,r.out⟩
   have i:Hid (aP D n=((k:Int),(bu (D k)).1,(bu (D k)).2)):=Kh M.out v f F.out;have u:((bu (D k)).2 != 0)=true:=by simpa using f
   generalize (bu (D k)).1=z at d i;generalize (bu (D k)).2=c at d i u;clear f;go_wp2_with fail;refine d.mono ?_;rintro e w2 ⟨⟨A2,c2,xs,rfl,-⟩,l⟩;have r:=aa (ae s.out l);clear l d;go_wp2_with fail;go_returns;rw [i.out];exact ⟨rfl,ae m.out r.out⟩
  have L:k=n:=by omega
  subst L;have i:Hid (aP D k=(-1,-1,0)):=Ki M.out F.out;clear h;go_wp2_with fail;go_returns;rw [i.out];exact ⟨rfl,ae m.out s.out⟩
theorem yM (A0:Option Addr) (cap n:Nat) (D:Nat→Dm) (A:Nat→Option Addr) (C:Nat→Nat) (w:World) (d:aY w A0 cap n D A C):Rt 4 #[.agg #[.slice A0 n cap]] w (.int .i64 (aP D n).2.2):=by
 have a:=aq w A0 n cap 24;have g:=aI w A0 n cap 24;have h:=yN A0 cap n D A C (ay w A0 n cap 24) (d.later a);obtain ⟨W,f⟩:=aA (ay w A0 n cap 24);rw [f] at a g h;unfold ay at f;have b:=aa a;generalize (aP D n).1=x at h;generalize (aP D n).2.1=y at h;generalize (aP D n).2.2=z at h ⊢;clear d a
 go_enter Tryz.func4,Tryz.ntmps4
 go_wp2_with fail;refine h.mono ?_;rintro e w1 ⟨rfl,c⟩;go_wp2_with fail;go_ret;exact ⟨rfl,ae b.out c⟩
noncomputable def fj (D:Nat→Dm) (n:Nat) (l:List En):Int:=if (aP D n).2.2≠0 then (aP D n).2.2 else entsErr D n l
structure R2 where
 xs:List RL
 A:Option Addr
 c:Nat
def jT:R2:=⟨[],none,0⟩
def fS (ys:List R2):List Value:=ys.map fun y=>.slice y.A y.xs.length y.c
theorem qk (a b:List R2):fS (a ++ b)=fS a ++ fS b:=by simp [fS]
theorem Jc {ys:List R2} {k:Nat} (h:k<ys.length):ys.getD k jT∈ys:=by
 rw [zZ,zX h];exact List.getElem_mem h
theorem Bt {ys:List R2} {k:Nat} (h:k<ys.length):(fS ys)[k]?=some (.slice (ys.getD k jT).A (ys.getD k jT).xs.length (ys.getD k jT).c):=by
 simp [fS,List.getD,h]
def ko (w:World) (A:Option Addr) (cap:Nat) (ys:List R2):Prop:=ys.length≤cap∧(ys=[]∨∃ b,A=some ⟨b,0,none⟩∧b<w.heap.size∧∀ k,k<ys.length→w.cell? ⟨b,k,none⟩=some (.slice (ys.getD k jT).A (ys.getD k jT).xs.length (ys.getD k jT).c))∧∀ y∈ys,cZ w y.A y.c y.xs
theorem ko.later {w w':World} {A:Option Addr} {cap:Nat} {ys:List R2} (h:ko w A cap ys) (c:Bl w w'):ko w' A cap ys:=by
 obtain ⟨d,a,e⟩:=h;refine ⟨d,?_,fun x g=>(e x g).later c⟩
 rcases a with a | ⟨b,a,h4,h5⟩
 ·exact Or.inl a
 exact Or.inr ⟨b,a,zW h4 c.size,fun k f=>aD c h4 (h5 k f)⟩
theorem Dc {w:World} {base:Nat} {v:Value} {ys:List R2} (h:w.ownsRow base 71 1 v ys.length (fS ys)) (j:∀ y∈ys,cZ w y.A y.c y.xs):∃ A c,v=.slice A ys.length c∧ko w A c ys:=by
 rcases h.2 with ⟨rfl,d⟩ | ⟨g,cap,b,rfl,m,f,e,_,_,_⟩
 ·have:ys=[]:=List.eq_nil_of_length_eq_zero d
  subst this;exact ⟨none,0,rfl,zU,Or.inl rfl,fun x l=>by cases l⟩
 refine ⟨_,cap,rfl,e,Or.inr ⟨g,rfl,(zY f).1,fun k i=>?_⟩,j⟩
 have y:=h.cells (g:=g) rfl k _ (Bt i);have a:(⟨g,0,none⟩:Addr).add k=⟨g,k,none⟩:=by unfold Addr.add;split <;> simp_all
 rw [a] at y;exact y
theorem vx:(3:Nat)≠71:=by decide
theorem vy:(26:Nat)≠71:=by decide
theorem uM {w w':World} {base:Nat} {v:Value} {n b T:Nat} {zs:List Value} {cs:Array Value} {fr:Nat×Nat} (a:w.ownsRow base 71 1 v n zs) (f:w.grownBy w' v.ownBlock) (c:w.heap[b]?=some (.cells cs T fr)) (h:T≠71):w'.heap[b]?=w.heap[b]?:=by
 refine f.block b (zY c).1 fun e=>?_
 rcases a.2 with ⟨rfl,-⟩ | ⟨g,cap,d,rfl,-,i,-⟩
 ·cases e
 simp only [Value.ownBlock,Option.some.injEq] at e;rw [e,i] at c;simp only [Option.some.injEq,Obj.cells.injEq] at c;exact h c.2.1.symm
theorem cZ.row2 {w w':World} {base:Nat} {v:Value} {n:Nat} {zs:List Value} {A:Option Addr} {c:Nat} {xs:List RL} (h:cZ w A c xs) (j:jd w A xs) (d:w.ownsRow base 71 1 v n zs) (i:w.grownBy w' v.ownBlock):cZ w' A c xs∧jd w' A xs:=by
 obtain ⟨l,e,o⟩:=h;have f:∀ x∈xs,aR w' x.A x.c x.p:=fun x r=>(o x r).keep fun b cs fr g=>uM d i g vx
 rcases j with j | ⟨b,cs,fr,hA,g⟩
 ·subst j
  exact ⟨⟨l,Or.inl rfl,f⟩,Or.inl rfl⟩
 have m:=uM d i g vy;refine ⟨⟨l,?_,f⟩,Or.inr ⟨b,cs,fr,hA,m.trans g⟩⟩
 rcases e with e | ⟨b',e,h4,h5⟩
 ·exact Or.inl e
 rw [hA] at e;cases e;exact Or.inr ⟨b,hA,zW h4 i.size,fun k q=>(World.cell?_of_block (a:=⟨b,k,none⟩) m).trans (h5 k q)⟩
theorem Tryz.infoRow2:(Tryz.prog.info? 71).map (fun i=>(i.zero,i.size,i.bytes))=some (some (.slice none 0 0),1,24):=by kernel_rfl
theorem tc (A0:Option Addr) (cap n:Nat) (D:Nat→Dm) (A:Nat→Option Addr) (C:Nat→Nat) (w:World) (hn4:n≤4) (hR:dH D n) (hM:aY w A0 cap n D A C):Calls Tryz.prog 47 #[.agg #[.slice A0 n cap]] w fun e w'=>(∃ A' r ys,e=.returned (.slice A' n r)∧ys.length=n∧ko w' A' r ys∧∀ i,i<n→lR (ys.getD i jT).xs=eS (D i))∧Bl w w':=by
 obtain ⟨i0,T,X,Y,Z⟩:=info_parts Tryz.infoRow2;have v:=aq w A0 n cap 24;have hS:=aw w A0 n cap 24;have Q:=aI w A0 n cap 24;obtain ⟨W,R⟩:=aA (ay w A0 n cap 24);rw [R] at v hS Q;unfold ay at R;have E:=aa v;have HM:=aa hM;have HA:=aa Q;have HR:=aa hR;have K:w.heap.size<W.heap.size:=by omega
 have hnI:(n:Int)≤4:=by omega
 clear hM v Q hR hS
 go_enter Tryz.func47,Tryz.ntmps47
 go_wp2_with fail;clear R
 go_loopg [3,4] n (fun g s3 s4 wr => ∃ (k:Nat) (ys:List R2),k≤n∧g=n-k∧s4=.int .i64 k∧Hid (ys.length=k∧(∀ i,i<k→lR (ys.getD i jT).xs=eS (D i))∧∀ y∈ys,cZ wr y.A y.c y.xs∧jd wr y.A y.xs)∧wr.ownsRow W.heap.size 71 1 s3 k (fS ys)∧Bl W wr)
 case atStart=>exact ⟨0,[],zU,rfl,rfl,(⟨rfl,fun i hi=>absurd hi (Nat.not_lt_zero _),fun y j=>by cases j⟩:_∧_∧_),World.ownsRow_nil _ _ _ _,zS⟩
 case round =>
  obtain ⟨k,ys,hk,rfl,rfl,s,L,f⟩:=hrel;have HO:=aa L;have G:=aa f;have cw:wr.cell? ⟨w.heap.size,0,none⟩=some (.slice A0 n cap):=aD f K HA.out;have hszr:w.heap.size<wr.heap.size:=zW K f.size
  by_cases J:k<n
  ·have hki:(k:Int)<(n:Int):=by omega
   obtain ⟨hcap,h0 | ⟨b,o,rfl,x⟩⟩:=HM.out.later (ae E.out f)
   ·omega
   have S:(n:Int)≤(cap:Int):=by omega
   obtain ⟨h0,h1,h2,h3⟩:=x.2 k J;have hbl:b<wr.heap.size:=x.1;have m:=pU (D k) (A k) (C k) wr h3;unfold cM at m;have I:=HR.out k J;rw [I] at m;generalize (bu (D k)).1=z at m;clear h3 x f L I;go_wp2_with fail;refine m.mono ?_;rintro e w2 ⟨⟨A2,c2,xs,rfl,hV,hL,hT⟩,l⟩;have F:=aa (ae G.out l);have q:Hid (w2.ownsRow W.heap.size 71 1 u3 k (fS ys)):=ao HO.out l;have H:Hid (∀ y∈ys,cZ w2 y.A y.c y.xs∧jd w2 y.A y.xs):=fun y j=>⟨(s.out.2.2 y j).1.later l,(s.out.2.2 y j).2.later l⟩
   have t:Hid (cZ w2 A2 c2 xs∧jd w2 A2 xs∧lR xs=eS (D k)):=⟨hV,hT,hL trivial⟩;have hs2:=F.out.size;obtain ⟨xl,B⟩:=aA xs.length;have O:=aa B;rw [B];clear l m hV hL hT B h0 h1 h2
   go_wp2_with (at_builtin;refine wpList_append_own _ rfl _ _ 103 rfl W.heap.size 71 i0 (.slice none 0 0) 1 24 Tryz.underlying103 T X Y Z rfl (by decide) _ _ _ rfl (q.out.alloc _) ⟨w2.heap.size,0,none⟩ 1 1 [.slice A2 xl c2] rfl rfl bw (by intro u hu;simp at hu;subst hu;rfl) (by unfold maxLen;omega) (by omega) (by simp;omega) ?_)
   intro v' w3 p a _;have M:Hid (Bl W w3):=bB F.out q.out a;have P:Hid ((ys ++ [(⟨xs,A2,c2⟩:R2)]).length=k+1∧(∀ i,i<k+1→lR ((ys ++ [(⟨xs,A2,c2⟩:R2)]).getD i jT).xs=eS (D i))∧∀ y∈ys ++ [(⟨xs,A2,c2⟩:R2)],cZ w3 y.A y.c y.xs∧jd w3 y.A y.xs):=by
    have d:=s.out.1;refine ⟨by rw [List.length_append,d];rfl,fun i hi=>?_,fun y j=>?_⟩
    ·by_cases e:i=k
     ·rw [e,zZ,List.getElem?_append_right (by omega),d,Nat.sub_self]
      exact t.out.2.2
     rw [zZ,List.getElem?_append_left (by omega),←zZ]
     exact s.out.2.1 i (by omega)
    rcases List.mem_append.1 j with j | j
    ·exact ((H.out y j).1.later (by go_grown)).row2 ((H.out y j).2.later (by go_grown)) (q.out.alloc _) a
    rw [List.mem_singleton.1 j];exact (t.out.1.later (by go_grown)).row2 (t.out.2.1.later (by go_grown)) (q.out.alloc _) a
   have N:Hid (w3.ownsRow W.heap.size 71 1 v' (k+1) (fS (ys ++ [(⟨xs,A2,c2⟩:R2)]))):=by
    show World.ownsRow ..
    rw [qk];have e:fS [(⟨xs,A2,c2⟩:R2)]=[.slice A2 xl c2]:=by simp [fS,O.out]
    rw [e];exact p
   clear p a;go_wp2_with fail
   go_roundg (n-(k+1))
   case measure=>omega
   case rel=>exact ⟨k+1,_,by omega,rfl,by go_num,P,N.out,M.out⟩
  have U:k=n:=by omega
  subst U;have HF:Hid (∃ A' r,u3=.slice A' k r∧ko wr A' r ys):=by
   have d:=s.out.1;have h:=L;rw [←d] at h;obtain ⟨A',r,e,V⟩:=Dc h fun y j=>(s.out.2.2 y j).1
   rw [d] at e;exact ⟨A',r,e,V⟩
  clear L f;go_wp2_with fail;go_ret;obtain ⟨A',r,e,V⟩:=HF.out;exact ⟨⟨A',r,ys,by rw [←e];rfl,s.out.1,V,s.out.2.1⟩,ae E.out G.out⟩
def eV (l:List WL):List Value:=l.flatMap iR
theorem tL (l:List WL) (x:WL):eV (l ++ [x])=eV l ++ iR x:=by simp [eV]
theorem qK:∀ (l:List WL) (k:Nat),k<l.length→(eV l)[k*5]?=some (.bool (l.getD k eT).lf)∧(eV l)[k*5+1]?=some (.slice (l.getD k eT).An (l.getD k eT).nd.length (l.getD k eT).cn)∧(eV l)[k*5+2]?=some (.slice (l.getD k eT).As (l.getD k eT).nm.length (l.getD k eT).cs)∧(eV l)[k*5+3]?=some (.slice (l.getD k eT).Ai (l.getD k eT).ne.length (l.getD k eT).ci)∧(eV l)[k*5+4]?=some (.slice (l.getD k eT).Ag (l.getD k eT).sg.length (l.getD k eT).cg)
 | x :: r,0,_=>⟨rfl,rfl,rfl,rfl,rfl⟩
 | x :: r,k+1,h=>by
  have b:=qK r k (by simpa using h)
  have e:eV (x :: r)=iR x ++ eV r:=rfl;have a:(iR x).length=5:=rfl;rw [e];refine ⟨?_,?_,?_,?_,?_⟩
  ·rw [List.getElem?_append_right (by omega),a,show (k+1)*5-5=k*5 by omega];exact b.1
  ·rw [List.getElem?_append_right (by omega),a,show (k+1)*5+1-5=k*5+1 by omega];exact b.2.1
  ·rw [List.getElem?_append_right (by omega),a,show (k+1)*5+2-5=k*5+2 by omega];exact b.2.2.1
  ·rw [List.getElem?_append_right (by omega),a,show (k+1)*5+3-5=k*5+3 by omega];exact b.2.2.2.1
  rw [List.getElem?_append_right (by omega),a,show (k+1)*5+4-5=k*5+4 by omega];exact b.2.2.2.2
def ip (w:World) (A:Option Addr) (cap:Nat) (xs:List WL):Prop:=xs.length≤cap∧(xs=[]∨∃ b cs fr,A=some ⟨b,0,none⟩∧w.heap[b]?=some (.cells cs 154 fr)∧∀ k,k<xs.length→cs[k*5]?=some (.bool (xs.getD k eT).lf)∧cs[k*5+1]?=some (.slice (xs.getD k eT).An (xs.getD k eT).nd.length (xs.getD k eT).cn)∧cs[k*5+2]?=some (.slice (xs.getD k eT).As (xs.getD k eT).nm.length (xs.getD k eT).cs)∧cs[k*5+3]?=some (.slice (xs.getD k eT).Ai (xs.getD k eT).ne.length (xs.getD k eT).ci)∧cs[k*5+4]?=some (.slice (xs.getD k eT).Ag (xs.getD k eT).sg.length (xs.getD k eT).cg))∧∀ x∈xs,eB w x
theorem ip.keepA {w w':World} {A:Option Addr} {cap:Nat} {xs:List WL} (h:ip w A cap xs) (c:kn 142 w w'):ip w' A cap xs:=by
 obtain ⟨d,a,e⟩:=h;refine ⟨d,?_,fun x f=>(e x f).keepA c⟩
 rcases a with a | ⟨b,cs,fr,a,h4,h5⟩
 ·exact Or.inl a
 exact Or.inr ⟨b,cs,fr,a,(c b cs _ fr h4 Bo).trans h4,h5⟩
theorem ip.later {w w':World} {A:Option Addr} {cap:Nat} {xs:List WL} (h:ip w A cap xs) (c:Bl w w'):ip w' A cap xs:=by
 obtain ⟨d,a,e⟩:=h;refine ⟨d,?_,fun x f=>(e x f).later c⟩
 rcases a with a | ⟨b,cs,fr,a,h4,h5⟩
 ·exact Or.inl a
 exact Or.inr ⟨b,cs,fr,a,(c.block b (zY h4).1).trans h4,h5⟩
theorem GC {w:World} {base:Nat} {v:Value} {xs:List WL} (h:w.ownsRow base 154 5 v xs.length (eV xs)) (b:∀ x∈xs,eB w x):∃ A c,v=.slice A xs.length c∧ip w A c xs:=by
 rcases h.2 with ⟨rfl,l⟩ | ⟨g,cap,a,rfl,t,p,m,r,s,n⟩
 ·have o:xs=[]:=List.eq_nil_of_length_eq_zero l
  subst o;exact ⟨none,0,rfl,by simp,Or.inl rfl,b⟩
 refine ⟨_,_,rfl,m,Or.inr ⟨g,a,_,rfl,p,fun k q=>?_⟩,b⟩
 obtain ⟨d,e,f,i,j⟩:=qK xs k q;rw [←n,List.getElem?_take,if_pos (by omega),Array.getElem?_toList] at d e f i j
 exact ⟨d,e,f,i,j⟩
theorem Tryz.infoWay:(Tryz.prog.info? 154).map (fun i=>(i.zero,i.size,i.bytes))=some (some (.agg #[.bool false,.slice none 0 0,.slice none 0 0,.slice none 0 0,.slice none 0 0]),5,104):=by kernel_rfl
theorem Hq {w w':World} {base n:Nat} {v:Value} {zs:List Value} (a:w.ownsRow base 154 5 v n zs) (f:w.grownBy w' v.ownBlock):kn 154 w w':=fun b cs t fr c i=>by
 refine f.block b (zY c).1 fun e=>?_
 rcases a.2 with ⟨rfl,-⟩ | ⟨g,cap,d,rfl,-,h,-⟩
 ·cases e
 simp only [Value.ownBlock,Option.some.injEq] at e;rw [e,h] at c;simp only [Option.some.injEq,Obj.cells.injEq] at c;exact i c.2.1.symm
theorem pz (b j:Nat):(⟨b,0,none⟩:Addr).add j=⟨b,j,none⟩:=by unfold Addr.add;split <;> simp_all
theorem zg (d:Dm) (A:Option Addr) (cap:Nat) (w:World) (T:(bu d).2=0) (hM:eg w A cap d.n d.mem) :
  Calls Tryz.prog 73 #[cM d A cap] w fun e w'=>(∃ A' p xs,e=.returned (.tuple #[.slice A' d.n p,.nilIface])∧xs.length=d.n∧ip w' A' p xs∧∀ k,k<d.n→fH d k (xs.getD k eT))∧Bl w w':=by
 obtain ⟨i0,X,hz0,hz1,hz2⟩:=info_parts Tryz.infoWay;obtain ⟨hd,-,-,-⟩:=bH T;obtain ⟨-,-,V,-⟩:=aL hd;have D:=aU w d A cap 70;have hS:=bg w d A cap 70;have o:Hid (∀ w1,Below (aM w d A cap 70).heap.size (aM w d A cap 70) w1→w1.cell? ⟨w.heap.size,0,none⟩=some (.string d.name)∧w1.cell? ⟨w.heap.size,1,none⟩=some (.int .i64 d.solve)∧w1.cell? ⟨w.heap.size,2,none⟩=some (.slice A d.n cap)∧w.heap.size<w1.heap.size):=fun w1 h=>fp h
 have B:Hid (∀ w' i,Bl w w'→i<d.n→Calls Tryz.prog 112 #[cM d A cap,.int .i64 i] w' fun e w''=>(∃ x,e=.returned (.tuple #[wayV x,.nilIface])∧eB w'' x∧fH d i x)∧Bl w' w''):=fun w' i hb hi=>DF d A cap i w' T hi (hM.later hb)
 unfold cM at B ⊢;obtain ⟨W,N⟩:=aA (aM w d A cap 70);rw [N] at D hS o;unfold aM at N;obtain ⟨o0,o1,o2,hq⟩:=o.out W (zS);have H:=aa D;obtain ⟨n,hn⟩:=aA d.n;have HN:=aa hn;rw [hn] at o2 B V N o ⊢;have hnI:(n:Int)≤12:=by omega
 clear D T hM hd hn hS
 go_enter Tryz.func73,Tryz.ntmps73
 go_wp2_with fail;clear N o0 o1 o2
 go_loopg [4,11] n (fun g s4 s11 wr => ∃ (k:Nat) (v:Value) (xs:List WL),k≤n∧g=n-k∧s11=.int .i64 k∧v=s4∧Hid (xs.length=k∧(∀ j,j<k→fH d j (xs.getD j eT))∧∀ x∈xs,eB wr x)∧wr.ownsRow W.heap.size 154 5 v k (eV xs)∧Bl W wr)
 case atStart=>exact ⟨0,_,[],zU,rfl,rfl,rfl,(⟨rfl,fun j O=>absurd O (Nat.not_lt_zero _),fun x hx=>by cases hx⟩:_∧_∧_),World.ownsRow_nil _ _ _ _,zS⟩
 case round =>
  obtain ⟨k,v,xs,hk,rfl,rfl,rfl,C,M,f⟩:=hrel;have HO:=aa M;have I:=aa f
  by_cases Z:k<n
  ·have hki:(k:Int)<(n:Int):=by omega
   obtain ⟨p0,p1,p2,hq1⟩:=o.out wr f;have L:=B.out wr k (ae H.out f) Z;clear M f;go_wp2_with fail;refine L.mono ?_;rintro e w1 ⟨⟨x,rfl,U,F⟩,G⟩;have HT1:Hid (eB w1 x∧fH d k x):=⟨U,F⟩;have HB1:=aa G;obtain ⟨y,hy⟩:=aA (w1.alloc (.cells #[.bool x.lf,.slice x.An x.nd.length x.cn,.slice x.As x.nm.length x.cs,.slice x.Ai x.ne.length x.ci,.slice x.Ag x.sg.length x.cg] 154));have c:y.heap[w1.heap.size]?=some (.cells #[.bool x.lf,.slice x.An x.nd.length x.cn,.slice x.As x.nm.length x.cs,.slice x.Ai x.ne.length x.ci,.slice x.Ag x.sg.length x.cg] 154 (0,0)):=by rw [←hy];exact heap_alloc_new ..
   have y0:y.cell? ⟨w1.heap.size,0,none⟩=some (.bool x.lf):=by simp [World.cell?,c]
   have y1:y.cell? ⟨w1.heap.size,1,none⟩=some (.slice x.An x.nd.length x.cn):=by simp [World.cell?,c]
   have y2:y.cell? ⟨w1.heap.size,2,none⟩=some (.slice x.As x.nm.length x.cs):=by simp [World.cell?,c]
   have y3:y.cell? ⟨w1.heap.size,3,none⟩=some (.slice x.Ai x.ne.length x.ci):=by simp [World.cell?,c]
   have y4:y.cell? ⟨w1.heap.size,4,none⟩=some (.slice x.Ag x.sg.length x.cg):=by simp [World.cell?,c]
   have E:Bl w1 y:=by rw [←hy];go_grown
   have s:=aa (ae G E);have J:Hid (eB y x∧fH d k x):=⟨U.later E,F⟩;have t:Hid (y.ownsRow W.heap.size 154 5 v k (eV xs)):=ao HO.out s.out;have r:=aa (ae I.out s.out);have S:Hid (∀ z∈xs,eB y z):=fun z q=>(C.out.2.2 z q).later s.out
   have hszy:=r.out.size;unfold wayV;clear G U F L c E p0 p1 p2
   go_wp2_with (at_builtin;refine wpList_append_own _ rfl _ _ 138 rfl W.heap.size 154 i0 (.agg #[.bool false,.slice none 0 0,.slice none 0 0,.slice none 0 0,.slice none 0 0]) 5 104 Tryz.underlying138 X hz0 hz1 hz2 rfl (by decide) _ _ _ rfl (t.out.alloc _) ⟨y.heap.size,0,none⟩ 1 1 (iR x) rfl rfl ?qe2 ?qe3 ?qe4 ?qe5 ?qe6 ?_)
   case qe2 =>
    intro j u O;rw [pz,Lib.cell_of_heap (heap_alloc_new y (.cells #[.bool x.lf,.slice x.An x.nd.length x.cn,.slice x.As x.nm.length x.cs,.slice x.Ai x.ne.length x.ci,.slice x.Ag x.sg.length x.cg] 154))]
    simpa [iR] using O
   case qe3=>intro u hu;simp [iR] at hu;rcases hu with rfl | rfl | rfl | rfl | rfl <;> rfl
   case qe4=>simp only [maxLen];omega
   case qe5=>omega
   case qe6=>simp;omega
   intro v' w4 m b K;have P:Hid (Bl W w4):=bB r.out t.out b;have Q:Hid (w4.ownsRow W.heap.size 154 5 v' (k+1) (eV (xs ++ [x]))):=by
    show World.ownsRow ..
    rw [tL];exact m
   have l:∀ z,eB y z→eB w4 z:=fun z q=>(q.later (by go_grown)).keepW (Hq (t.out.alloc _) b)
   have R:Hid ((xs ++ [x]).length=k+1∧(∀ j,j<k+1→fH d j ((xs ++ [x]).getD j eT))∧∀ z∈xs ++ [x],eB w4 z):=by
    have a:=C.out.1;refine ⟨by rw [List.length_append,a];rfl,fun j O=>?_,fun z q=>?_⟩
    ·by_cases e:j=k
     ·rw [e,zZ,List.getElem?_append_right (by omega),a,Nat.sub_self]
      exact J.out.2
     rw [zZ,List.getElem?_append_left (by omega),←zZ]
     exact C.out.2.1 j (by omega)
    rcases List.mem_append.1 q with q | q
    ·exact l z (S.out z q)
    rw [List.mem_singleton.1 q];exact l x J.out.1
   clear m b K y0 y1 y2 y3 y4 hy l;go_wp2_with fail
   go_roundg (n-(k+1))
   case measure=>omega
   case rel=>exact ⟨k+1,_,xs ++ [x],by omega,rfl,by go_num,rfl,R,Q.out,P.out⟩
  have Y:k=n:=by omega
  subst Y;have HF:Hid (∃ A' p,v=.slice A' k p∧ip wr A' p xs):=by
   have a:=C.out.1;have h:=M;rw [←a] at h;obtain ⟨A',p,e,hv⟩:=GC h C.out.2.2;rw [a] at e;exact ⟨A',p,e,hv⟩
  clear M f;go_wp2_with fail;go_returns;obtain ⟨A',p,e,hv⟩:=HF.out;exact ⟨⟨A',p,xs,by rw [←e];rfl,C.out.1,hv,C.out.2.1⟩,ae H.out I.out⟩
def ez (N:List ByteArray) (C:List (Int×Int)) (l:List Nd) (k:Nat):List (Int×Int):=(List.range k).map fun i=>eA N C (aG l i)
section
variable {N:List ByteArray} {C:List (Int×Int)} {l:List Nd} {k i:Nat}
theorem told_len:(ez N C l k).length=k:=by simp [ez]
theorem tf (h:i<k):(ez N C l k).getD i noC=eA N C (aG l i):=by simp [ez,List.getD,h]
theorem DA:ez N C l (k+1)=ez N C l k ++ [eA N C (aG l k)]:=by simp [ez,List.range_succ]
theorem Iz (b:∀ c∈C,pm c):∀ c∈ez N C l k,pm c:=by
 intro c a;simp only [ez,List.mem_map] at a;obtain ⟨i,-,rfl⟩:=a;exact yY N b _
theorem Fy (e:nV l) (d:k<l.length) (f:je N l k=false):qs N C (ez N C l k) (l.getD k bN)=eA N C (aG l k)∧sE N (l.getD k bN)=0:=by
 have h:=lh (e k d)
 by_cases g:(l.getD k bN).op=1
 ·obtain ⟨a,b⟩:=uO (N:=N) (C:=C) (T:=ez N C l k) g
  rw [a,b,qb g];exact ⟨rfl,rfl⟩
 by_cases c:(l.getD k bN).op=2
 ·obtain ⟨a,b⟩:=sG (N:=N) (C:=C) (T:=ez N C l k) c
  unfold je at f;rw [decide_eq_true c,Bool.true_and] at f;have i:=of_decide_eq_false f;rw [a,b,lI c];unfold DJ EX;rw [if_pos (by omega),if_pos (by omega)]
  exact ⟨rfl,rfl⟩
 obtain ⟨a,b⟩:=AA (N:=N) (C:=C) (T:=ez N C l k) (x:=l.getD k bN) (by omega)
 obtain ⟨a1,a2,a3,a4⟩:=e8 (e k d) (by omega)
 rw [a,b,lH e d (by omega),tf (by omega),tf (by omega)]
 exact ⟨rfl,rfl⟩
theorem Fx (a:je N l k=true):sE N (l.getD k bN)=5:=by
 simp only [je,Bool.and_eq_true,decide_eq_true_eq] at a;rw [(sG (N:=N) (C:=[]) (T:=[]) a.1).2];unfold EX;rw [if_neg (by omega)]
end
theorem zt {w:World} {base:Nat} {v:Value} {T:List (Int×Int)} (h:w.ownsRow base 52 2 v T.length (bK T)):∃ A c,v=.slice A T.length c∧dw w A c T:=by
 by_cases b:0<T.length
 ·obtain ⟨g,c,rfl,-,d,e,f⟩:=ob h b
  exact ⟨_,_,rfl,d,e,Or.inr ⟨g,0,rfl,f.celAt⟩⟩
 have j:T=[]:=List.eq_nil_of_length_eq_zero (by omega)
 subst j
 rcases h.2 with ⟨rfl,_⟩ | ⟨g,cap,a,rfl,n,o,k,i,l,m⟩
 ·exact ⟨none,0,rfl,dw.nil _ _ _ (by omega)⟩
 exact ⟨_,_,rfl,dw.nil _ _ _ (by unfold maxLen at i;omega)⟩
theorem JQ {w:World} {n:Nat} (a:w.heap.size=n) (c:Int×Int):∀ j u,(bK [c])[j]?=some u→(w.alloc (.cells #[.int .i64 c.1,.int .i64 c.2] 52)).cell? ((⟨n,0,none⟩:Addr).add j)=some u:=by
 subst a;exact World.news_of_block (cs := #[.int .i64 c.1,.int .i64 c.2]) (t:=52) (fr:=(0,0)) (heap_alloc_new _ _)
theorem DO.later {a q r:Nat} {w w':World} {N:List ByteArray} {C:List (Int×Int)} (h:DO a q r w N C) (b:Bl w w'):DO a q r w' N C:=fun x w'' c=>h x w'' (ae b c)
theorem BB (fn q r:Nat) (S:∀ (args:Array Value) (w:World),(callFunc fn args).run Tryz.prog w=.ok (.enter fn args) w) (N:List ByteArray) (C:List (Int×Int)) (A:Option Addr) (cap:Nat) (l:List Nd) (w:World) (hN:gp w A cap l) (hl:aB l=0) (hC:∀ c∈C,pm c) (Q:DO fn q r w N C) :
  Rt 144 #[.slice A l.length cap,.func (.func fn) #[] #[.pointer (some ⟨q,0,none⟩),.pointer (some ⟨r,0,none⟩)]] w (.tuple #[.agg #[.int .i64 (if missT N (aG l (l.length-1))=true then noC else eA N C (aG l (l.length-1))).1,.int .i64 (if missT N (aG l (l.length-1))=true then noC else eA N C (aG l (l.length-1))).2],errV (if missT N (aG l (l.length-1))=true then 5 else 0)]):=by
 obtain ⟨i0,hi0,hz0,hz1,hz2⟩:=info_parts Tryz.infoCe;obtain ⟨hp,h30,hg,-⟩:=dC hl;obtain ⟨-,-,h1 | ⟨b,o,rfl,hNA⟩⟩:=hN
 ·rw [h1] at hp;simp at hp
 obtain ⟨R,B⟩:=aA ((if missT N (aG l (l.length-1))=true then noC else eA N C (aG l (l.length-1))))
 obtain ⟨E,I⟩:∃ E:Int,(if missT N (aG l (l.length-1))=true then 5 else 0)=E:=⟨_,rfl⟩
 have V:Hid (∀ i,i<l.length→je N l i=true→R=noC∧E=5):=fun i hi t=>by
  rw [←B,←I,if_pos (uE hl hi t),if_pos (uE hl hi t)];exact ⟨rfl,rfl⟩
 have U:Hid ((∀ i,i<l.length→je N l i=false)→R=eA N C (aG l (l.length-1))∧E=0):=fun t=>by
  rw [←B,←I,He hl t];exact ⟨rfl,rfl⟩
 rw [B,I];have HN:=aa hNA;have HL:=aa hg;have HC:=aa hC;have HA:=aa Q;have KH:=aa S;obtain ⟨n,hn⟩:=aA l.length;have u:=aa hn;rw [hn] at h30 hp ⊢;have hni:(n:Int)≤30:=by omega
 have hn0:0<(n:Int):=by omega
 clear hl hNA hC Q hg B I hn S
 go_enter Tryz.func144,Tryz.ntmps144
 obtain ⟨W0,K⟩:=aA (w.alloc (.cells #[.int .i64 0,.int .i64 0] 52));have hsW:W0.heap.size=w.heap.size+1:=by rw [←K];simp
 have hBW:Bl w W0:=by rw [←K];exact (zS).alloc (zT) _
 have KG:=aa hBW;have hA0:W0.heap[w.heap.size]?=some (.cells #[.int .i64 0,.int .i64 0] 52 (0,0)):=by rw [←K];exact heap_alloc_new _ _
 have Z:=aa hA0;have z:=aa hsW;clear hBW hA0 hsW
 go_wp2_with (at_make;refine wpList_make_own _ rfl _ _ 45 rfl (w.heap.size+1) 52 i0 _ 2 Tryz.underlying45 hi0 hz0 hz1 _ _ _ n rfl rfl rfl ?qb1 ?qb2 ?qb3 ?_)
 case qb1=>rw [hz2];omega
 case qb2=>unfold maxLen;omega
 case qb3=>rw [z.out];exact zT
 intro w1 G d;have hB1:Bl W0 w1:=⟨d.os,d.tape,d.output,d.size,fun k hk=>d.block k hk (by simp)⟩
 have HB1:=aa hB1;have HO1:=aa G;clear G d hB1 K;go_wp2_with fail
 go_loopg [6,16] n (fun g s6 s16 wr => ∃ (k:Nat),k≤n∧g=n-k∧s16=.int .i64 k∧wr.ownsRow (w.heap.size+1) 52 2 s6 (ez N C l k).length (bK (ez N C l k))∧(∀ j,j<k→je N l j=false)∧Bl W0 wr)
 case atStart=>exact ⟨0,zU,rfl,rfl,HO1.out,fun j hj=>absurd hj (Nat.not_lt_zero j),HB1.out⟩
 case round =>
  obtain ⟨k,hk,rfl,rfl,F,hms,J⟩:=hrel;obtain ⟨At,ct,rfl,P⟩:=zt F;have HO:=aa F;have KI:=aa hms;have HW:=aa J;have O:=aa P;have T:=aa (ae KG.out J);have hsz:=J.size;clear F hms J P
  by_cases M:k<n
  ·have hki:(k:Int)<(n:Int):=by omega
   obtain ⟨x0,x1,x2,x3,x4⟩:=(HN.out.later T.out).nd (k:=k) (by rw [u.out];exact M)
   have hbl:b<w.heap.size:=HN.out.1;have hgk:=HL.out k (by rw [u.out];exact M)
   have a:=fun w' (hb:Bl wr w')=>C9 fn q r KH.out N C (ez N C l k) At ct (l.getD k bN) w' (by rw [told_len];exact hgk) (by rw [told_len];omega) (O.out.later hb) (Iz HC.out) (HA.out.later (ae T.out hb))
   rw [told_len] at a ⊢;obtain ⟨x,hx⟩:=aA (l.getD k bN);have HX:=aa hx;rw [hx] at x0 x1 x2 x3 x4 a;rw [gb] at a;clear hx hgk;cases t:je N l k
   ·obtain ⟨e1,W⟩:=Fy (C:=C) HL.out (by rw [u.out];exact M) t
    rw [HX.out] at e1 W;rw [e1,W,errV_zero] at a;obtain ⟨c,Y⟩:=aA (eA N C (aG l k));have HCv:=aa Y;have HM:=aa t;rw [Y] at a;clear e1 W Y t;go_wp2_with fail;refine (a _ (by go_grown)).mono ?_
    rintro e w2 ⟨rfl,D⟩;have f:Bl wr w2:=ae (by go_grown) D
    have p:=aa (ae HW.out f);have KJ:Hid (w2.ownsRow (w.heap.size+1) 52 2 (.slice At k ct) k (bK (ez N C l k))):=by have h:=ao HO.out f;rw [told_len] at h;exact h
    have hz2':=f.size;clear D f a
    go_wp2_with (at_builtin;refine wpList_append_own _ rfl _ _ 45 rfl (w.heap.size+1) 52 i0 _ 2 16 Tryz.underlying45 hi0 hz0 hz1 hz2 rfl (by decide) _ k _ rfl (ao KJ.out ?qc0) ⟨w2.heap.size+1,0,none⟩ 1 1 (bK [c]) rfl rfl ?qc1 (oe _) ?qc2 ?qc3 ?qc4 ?_)
    case qc0=>go_grown
    case qc1=>exact JQ (by simp) c
    case qc2=>unfold maxLen;omega
    case qc3=>omega
    case qc4=>have:=z.out;simp;omega
    intro v4 w4 H s _;have HB4:Hid (Bl W0 w4):=((p.out.alloc p.out.size _).alloc (by have:=p.out.size;simp;omega) _).grown s (by have:=p.out.size;simp;omega) (fun j hj=>by have h1:=(KJ.out.lt j hj).1;have h2:=z.out;omega)
    have HO4:Hid (w4.ownsRow (w.heap.size+1) 52 2 v4 (ez N C l (k+1)).length (bK (ez N C l (k+1)))):=by
     show World.ownsRow ..
     rw [DA,cellsC_append,List.length_append,told_len,HCv.out];exact H
    clear H s;go_wp2_with fail
    go_roundg (n-(k+1))
    case measure=>omega
    case rel=>exact ⟨k+1,by omega,rfl,by go_num,HO4.out,fun j hj=>by rcases Nat.lt_succ_iff_lt_or_eq.1 hj with h | h;exact KI.out j h;rw [h];exact HM.out,HB4.out⟩
   have W:=Fx (N:=N) (l:=l) (k:=k) t;rw [HX.out] at W;rw [W,ak (by decide)] at a
   obtain ⟨B,I⟩:=V.out k (by rw [u.out];exact M) t
   have HR:=aa B;have HE:=aa I;obtain ⟨c,Y⟩:=aA (qs N C (ez N C l k) x);rw [Y] at a;clear W Y t B I;go_wp2_with fail;refine (a _ (by go_grown)).mono ?_
   rintro e w2 ⟨rfl,D⟩;have f:Bl wr w2:=ae (by go_grown) D
   have p:=aa (ae HW.out f);have hz2':=f.size;have y:=(p.out.block w.heap.size (by have:=z.out;omega)).trans Z.out
   have r1:w.heap.size<w2.heap.size:=(zY y).1;have r2:w2.cell? ⟨w.heap.size,0,none⟩=some (.int .i64 0):=by simp [World.cell?,y]
   have r3:w2.cell? ⟨w.heap.size,1,none⟩=some (.int .i64 0):=by simp [World.cell?,y]
   have rf0:w2.frozen? ⟨w.heap.size,0,none⟩=false:=by simp [World.frozen?,y]
   have rf1:w2.frozen? ⟨w.heap.size,1,none⟩=false:=by simp [World.frozen?,y]
   clear y;clear D f a;go_wp2_with fail;refine bodyPost_ret (v:=.tuple #[.agg #[.int .i64 R.1,.int .i64 R.2],errV E]) (by rw [HR.out,HE.out];simp [results,Tryz.results144,go_sem,r2,r3,r1,noC,ak]) rfl ⟨rfl,?_⟩
   have hf:=ae KG.out p.out
   first | exact ((hf.setCell (zT) _).setCell (zT) _).alloc (by have:=hf.size;simp;omega) _ | exact (((hf.alloc hf.size _).setCell (zT) _).setCell (zT) _)
  have hke:k=n:=by omega
  subst hke;obtain ⟨B,I⟩:=U.out (fun i hi=>KI.out i (by rw [←u.out];exact hi))
  have HE:=aa I;have L:(ez N C l k).length=k:=told_len;obtain ⟨-,-,h0 | ⟨g,og,rfl,X⟩⟩:=O.out
  ·rw [h0] at L;simp at L;omega
  obtain ⟨y0,y1⟩:=X.2 (k-1) (by rw [told_len];omega)
  have hgl:=X.1;rw [tf (by omega)] at y0 y1
  rw [u.out] at B;rw [←B] at y0 y1;have y:=(HW.out.block w.heap.size (by have:=z.out;omega)).trans Z.out
  have r1:w.heap.size<wr.heap.size:=(zY y).1;have r2:wr.cell? ⟨w.heap.size,0,none⟩=some (.int .i64 0):=by simp [World.cell?,y]
  have r3:wr.cell? ⟨w.heap.size,1,none⟩=some (.int .i64 0):=by simp [World.cell?,y]
  have rf0:wr.frozen? ⟨w.heap.size,0,none⟩=false:=by simp [World.frozen?,y]
  have rf1:wr.frozen? ⟨w.heap.size,1,none⟩=false:=by simp [World.frozen?,y]
  obtain ⟨m,t⟩:=aA (k-1);rw [t] at y0 y1;have hsub:(k:Int)-1=(m:Int):=by omega
  have hmk:(m:Int)<(k:Int):=by omega
  rw [L];clear y X B I L t;go_wp2_with fail;refine bodyPost_ret (v:=.tuple #[.agg #[.int .i64 R.1,.int .i64 R.2],errV E]) (by rw [HE.out];simp [results,Tryz.results144,go_sem,r2,r3,errV_zero]) rfl ⟨rfl,?_⟩
  exact (T.out.setCell (zT) _).setCell (zT) _
end Go.Proofs.YtompdcaikmekkaaGreatDoor
