/- How all members of a d -/
import Derived.Test.YthlhjjabkgpenaaGreatDoorJTAZ
import Derived.Test.YthlhjjabkgpenaaGreatDoorJTBC
import Derived.Test.YthlhjjabkgpenaaGreatDoorJTBD
namespace Go.Proofs.YthlhjjabkgpenaaGreatDoor
open ChangeShapes WideShapes ChangeAt RowKit
set_option maxRecDepth 99999
set_option maxHeartbeats 0
def eB (l:List WL):List Value:=l.flatMap ip
theorem sO (l:List WL) (x:WL):eB (l ++ [x])=eB l ++ ip x:=by simp [eB]
theorem pW:∀ (l:List WL) (k:Nat),k<l.length→(eB l)[k*5]?=some (.bool (l.getD k ex).lf)∧(eB l)[k*5+1]?=some (.slice (l.getD k ex).An (l.getD k ex).nd.length (l.getD k ex).cn)∧(eB l)[k*5+2]?=some (.slice (l.getD k ex).As (l.getD k ex).nm.length (l.getD k ex).cs)∧(eB l)[k*5+3]?=some (.slice (l.getD k ex).Ai (l.getD k ex).ne.length (l.getD k ex).ci)∧(eB l)[k*5+4]?=some (.slice (l.getD k ex).Ag (l.getD k ex).sg.length (l.getD k ex).cg)
 | x :: r,0,_=>⟨rfl,rfl,rfl,rfl,rfl⟩
 | x :: r,k+1,h=>by
  have b:=pW r k (by simpa using h)
  have e:eB (x :: r)=ip x ++ eB r:=rfl;have a:(ip x).length=5:=rfl;rw [e];refine ⟨?_,?_,?_,?_,?_⟩
  ·rw [List.getElem?_append_right (by omega),a,show (k+1)*5-5=k*5 by omega];exact b.1
  ·rw [List.getElem?_append_right (by omega),a,show (k+1)*5+1-5=k*5+1 by omega];exact b.2.1
  ·rw [List.getElem?_append_right (by omega),a,show (k+1)*5+2-5=k*5+2 by omega];exact b.2.2.1
  ·rw [List.getElem?_append_right (by omega),a,show (k+1)*5+3-5=k*5+3 by omega];exact b.2.2.2.1
  rw [List.getElem?_append_right (by omega),a,show (k+1)*5+4-5=k*5+4 by omega];exact b.2.2.2.2
def jH (w:World) (A:Option Addr) (cap:Nat) (xs:List WL):Prop:=xs.length≤cap∧(xs=[]∨∃ b cs fr,A=some ⟨b,0,none⟩∧w.heap[b]?=some (.cells cs 164 fr)∧∀ k,k<xs.length→cs[k*5]?=some (.bool (xs.getD k ex).lf)∧cs[k*5+1]?=some (.slice (xs.getD k ex).An (xs.getD k ex).nd.length (xs.getD k ex).cn)∧cs[k*5+2]?=some (.slice (xs.getD k ex).As (xs.getD k ex).nm.length (xs.getD k ex).cs)∧cs[k*5+3]?=some (.slice (xs.getD k ex).Ai (xs.getD k ex).ne.length (xs.getD k ex).ci)∧cs[k*5+4]?=some (.slice (xs.getD k ex).Ag (xs.getD k ex).sg.length (xs.getD k ex).cg))∧∀ x∈xs,eM w x
theorem jH.keepA {w w':World} {A:Option Addr} {cap:Nat} {d:List WL} (h:jH w A cap d) (c:mZ 152 w w'):jH w' A cap d:=by
 obtain ⟨e,a,f⟩:=h;refine ⟨e,?_,fun x g=>(f x g).keepA c⟩
 rcases a with a | ⟨b,cs,fr,a,h4,h5⟩
 ·exact Or.inl a
 exact Or.inr ⟨b,cs,fr,a,(c b cs _ fr h4 zx).trans h4,h5⟩
theorem jH.later {w w':World} {A:Option Addr} {cap:Nat} {d:List WL} (h:jH w A cap d) (c:Bl w w'):jH w' A cap d:=by
 obtain ⟨e,a,f⟩:=h;refine ⟨e,?_,fun x g=>(f x g).later c⟩
 rcases a with a | ⟨b,cs,fr,a,h4,h5⟩
 ·exact Or.inl a
 exact Or.inr ⟨b,cs,fr,a,(c.block b (zY h4).1).trans h4,h5⟩
theorem FG {w:World} {base:Nat} {v:Value} {a:List WL} (h:w.ownsRow base 164 5 v a.length (eB a)) (d:∀ x∈a,eM w x):∃ A c,v=.slice A a.length c∧jH w A c a:=by
 rcases h.2 with ⟨rfl,m⟩ | ⟨g,cap,b,rfl,u,q,n,s,t,o⟩
 ·have p:a=[]:=List.eq_nil_of_length_eq_zero m
  subst p;exact ⟨none,0,rfl,by simp,Or.inl rfl,d⟩
 refine ⟨_,_,rfl,n,Or.inr ⟨g,b,_,rfl,q,fun k r=>?_⟩,d⟩
 obtain ⟨e,f,i,j,l⟩:=pW a k r;rw [←o,List.getElem?_take,if_pos (by omega),Array.getElem?_toList] at e f i j l
 exact ⟨e,f,i,j,l⟩
theorem Tryz.infoWay:(Tryz.prog.info? 164).map (fun i=>(i.zero,i.size,i.bytes))=some (some (.agg #[.bool false,.slice none 0 0,.slice none 0 0,.slice none 0 0,.slice none 0 0]),5,104):=by kernel_rfl
theorem Gn {w w':World} {base n:Nat} {v:Value} {zs:List Value} (a:w.ownsRow base 164 5 v n zs) (f:w.grownBy w' v.ownBlock):mZ 164 w w':=fun b cs t fr c i=>by
 refine f.block b (zY c).1 fun e=>?_
 rcases a.2 with ⟨rfl,-⟩ | ⟨g,cap,d,rfl,-,h,-⟩
 ·cases e
 simp only [Value.ownBlock,Option.some.injEq] at e;rw [e,h] at c;simp only [Option.some.injEq,Obj.cells.injEq] at c;exact i c.2.1.symm
theorem dd (b j:Nat):(⟨b,0,none⟩:Addr).add j=⟨b,j,none⟩:=by unfold Addr.add;split <;> simp_all
theorem xW (d:Dm) (A:Option Addr) (cap:Nat) (w:World) (U:(a8 d).2=0) (hM:dP w A cap d.n d.mem) :
  Calls Tryz.prog 92 #[cA d A cap] w fun e w'=>(∃ A' q a,e=.returned (.tuple #[.slice A' d.n q,.nilIface])∧a.length=d.n∧jH w' A' q a∧∀ k,k<d.n→fh d k (a.getD k ex))∧Bl w w':=by
 obtain ⟨i0,Y,hz0,hz1,hz2⟩:=info_parts Tryz.infoWay;obtain ⟨hd,-,-,-⟩:=bK U;obtain ⟨-,-,X,-⟩:=aG hd;have E:=aM w d A cap 37;have hS:=aZ w d A cap 37;have p:Hid (∀ w1,Below (aI w d A cap 37).heap.size (aI w d A cap 37) w1→w1.cell? ⟨w.heap.size,0,none⟩=some (.string d.name)∧w1.cell? ⟨w.heap.size,1,none⟩=some (.int .i64 d.solve)∧w1.cell? ⟨w.heap.size,2,none⟩=some (.slice A d.n cap)∧w.heap.size<w1.heap.size):=fun w1 h=>eT h
 have C:Hid (∀ w' i,Bl w w'→i<d.n→Calls Tryz.prog 120 #[cA d A cap,.int .i64 i] w' fun e w''=>(∃ x,e=.returned (.tuple #[wayV x,.nilIface])∧eM w'' x∧fh d i x)∧Bl w' w''):=fun w' i hb hi=>CG d A cap i w' U hi (hM.later hb)
 unfold cA at C ⊢;obtain ⟨W,O⟩:=ax (aI w d A cap 37);rw [O] at E hS p;unfold aI at O;obtain ⟨o0,o1,o2,hq⟩:=p.out W (zS);have I:=aa E;obtain ⟨n,hn⟩:=ax d.n;have HN:=aa hn;rw [hn] at o2 C X O p ⊢;have hnI:(n:Int)≤12:=by omega
 clear E U hM hd hn hS
 go_enter Tryz.func92,Tryz.ntmps92
 go_wp2_with fail;clear O o0 o1 o2
 go_loopg [4,11] n (fun g s4 s11 wr => ∃ (k:Nat) (v:Value) (a:List WL),k≤n∧g=n-k∧s11=.int .i64 k∧v=s4∧Hid (a.length=k∧(∀ j,j<k→fh d j (a.getD j ex))∧∀ x∈a,eM wr x)∧wr.ownsRow W.heap.size 164 5 v k (eB a)∧Bl W wr)
 case atStart=>exact ⟨0,_,[],zU,rfl,rfl,rfl,(⟨rfl,fun j P=>absurd P (Nat.not_lt_zero _),fun x hx=>by cases hx⟩:_∧_∧_),World.ownsRow_nil _ _ _ _,zS⟩
 case round =>
  obtain ⟨k,v,a,hk,rfl,rfl,rfl,D,N,l⟩:=hrel;have HO:=aa N;have J:=aa l
  by_cases Lt:k<n
  ·have hki:(k:Int)<(n:Int):=by omega
   obtain ⟨p0,p1,p2,hq1⟩:=p.out wr l;have M:=C.out wr k (ae I.out l) Lt;clear N l;go_wp2_with fail;refine M.mono ?_;rintro e w1 ⟨⟨x,rfl,V,G⟩,H⟩;have HT1:Hid (eM w1 x∧fh d k x):=⟨V,G⟩;have HB1:=aa H;obtain ⟨y,hy⟩:=ax (w1.alloc (.cells #[.bool x.lf,.slice x.An x.nd.length x.cn,.slice x.As x.nm.length x.cs,.slice x.Ai x.ne.length x.ci,.slice x.Ag x.sg.length x.cg] 164));have f:y.heap[w1.heap.size]?=some (.cells #[.bool x.lf,.slice x.An x.nd.length x.cn,.slice x.As x.nm.length x.cs,.slice x.Ai x.ne.length x.ci,.slice x.Ag x.sg.length x.cg] 164 (0,0)):=by rw [←hy];exact heap_alloc_new ..
   have y0:y.cell? ⟨w1.heap.size,0,none⟩=some (.bool x.lf):=by simp [World.cell?,f]
   have y1:y.cell? ⟨w1.heap.size,1,none⟩=some (.slice x.An x.nd.length x.cn):=by simp [World.cell?,f]
   have y2:y.cell? ⟨w1.heap.size,2,none⟩=some (.slice x.As x.nm.length x.cs):=by simp [World.cell?,f]
   have y3:y.cell? ⟨w1.heap.size,3,none⟩=some (.slice x.Ai x.ne.length x.ci):=by simp [World.cell?,f]
   have y4:y.cell? ⟨w1.heap.size,4,none⟩=some (.slice x.Ag x.sg.length x.cg):=by simp [World.cell?,f]
   have F:Bl w1 y:=by rw [←hy];go_grown
   have t:=aa (ae H F);have K:Hid (eM y x∧fh d k x):=⟨V.later F,G⟩;have B:Hid (y.ownsRow W.heap.size 164 5 v k (eB a)):=ar HO.out t.out;have s:=aa (ae J.out t.out);have T:Hid (∀ z∈a,eM y z):=fun z r=>(D.out.2.2 z r).later t.out
   have hszy:=s.out.size;unfold wayV;clear H V G M f F p0 p1 p2
   go_wp2_with (at_builtin;refine wpList_append_own _ rfl _ _ 148 rfl W.heap.size 164 i0 (.agg #[.bool false,.slice none 0 0,.slice none 0 0,.slice none 0 0,.slice none 0 0]) 5 104 Tryz.underlying148 Y hz0 hz1 hz2 rfl (by decide) _ _ _ rfl (B.out.alloc _) ⟨y.heap.size,0,none⟩ 1 1 (ip x) rfl rfl ?qe2 ?qe3 ?qe4 ?qe5 ?qe6 ?_)
   case qe2 =>
    intro j u P;rw [dd,Lib.cell_of_heap (heap_alloc_new y (.cells #[.bool x.lf,.slice x.An x.nd.length x.cn,.slice x.As x.nm.length x.cs,.slice x.Ai x.ne.length x.ci,.slice x.Ag x.sg.length x.cg] 164))]
    simpa [ip] using P
   case qe3=>intro u hu;simp [ip] at hu;rcases hu with rfl | rfl | rfl | rfl | rfl <;> rfl
   case qe4=>simp only [maxLen];omega
   case qe5=>omega
   case qe6=>simp;omega
   intro v' w4 o c L;have Q:Hid (Bl W w4):=bA s.out B.out c;have R:Hid (w4.ownsRow W.heap.size 164 5 v' (k+1) (eB (a ++ [x]))):=by
    show World.ownsRow ..
    rw [sO];exact o
   have m:∀ z,eM y z→eM w4 z:=fun z r=>(r.later (by go_grown)).keepW (Gn (B.out.alloc _) c)
   have S:Hid ((a ++ [x]).length=k+1∧(∀ j,j<k+1→fh d j ((a ++ [x]).getD j ex))∧∀ z∈a ++ [x],eM w4 z):=by
    have b:=D.out.1;refine ⟨by rw [List.length_append,b];rfl,fun j P=>?_,fun z r=>?_⟩
    ·by_cases e:j=k
     ·rw [e,zZ,List.getElem?_append_right (by omega),b,Nat.sub_self]
      exact K.out.2
     rw [zZ,List.getElem?_append_left (by omega),←zZ]
     exact D.out.2.1 j (by omega)
    rcases List.mem_append.1 r with r | r
    ·exact m z (T.out z r)
    rw [List.mem_singleton.1 r];exact m x K.out.1
   clear o c L y0 y1 y2 y3 y4 hy m;go_wp2_with fail
   go_roundg (n-(k+1))
   case measure=>omega
   case rel=>exact ⟨k+1,_,a ++ [x],by omega,rfl,by go_num,rfl,S,R.out,Q.out⟩
  have Z:k=n:=by omega
  subst Z;have HF:Hid (∃ A' q,v=.slice A' k q∧jH wr A' q a):=by
   have b:=D.out.1;have h:=N;rw [←b] at h;obtain ⟨A',q,e,hv⟩:=FG h D.out.2.2;rw [b] at e;exact ⟨A',q,e,hv⟩
  clear N l;go_wp2_with fail;go_returns;obtain ⟨A',q,e,hv⟩:=HF.out;exact ⟨⟨A',q,a,by rw [←e];rfl,D.out.1,hv,D.out.2.1⟩,ae I.out J.out⟩
noncomputable def CV (D:Nat→Dm) (i:Nat):Bool:=decide ((a8 (D i)).2≠0)
noncomputable def bM (D:Nat→Dm) (n:Nat):Int×Int×Int :=
 if (ah D n).2.2≠0 then ah D n
 else if 0≤findFrom (CV D) n 0 then (findFrom (CV D) n 0,a8 (D (findFrom (CV D) n 0).toNat))
 else (-1,-1,0)
theorem KY {D:Nat→Dm} {n:Nat} (h:(ah D n).2.2≠0):bM D n=ah D n:=by unfold bM;rw [if_pos h]
theorem KZ {D:Nat→Dm} {n i:Nat} (h:(ah D n).2.2=0) (d:i<n) (a:(a8 (D i)).2≠0) (b:∀ j,j<i→(a8 (D j)).2=0):bM D n=((i:Int),(a8 (D i)).1,(a8 (D i)).2):=by
 have e:findFrom (CV D) n 0=(i:Int):=eq (zU) (by omega) (decide_eq_true a) fun j _ c=>decide_eq_false (by simpa using b j c)
 unfold bM;rw [if_neg (by simpa using h),e,if_pos (by omega),Int.toNat_natCast]
theorem K0 {D:Nat→Dm} {n:Nat} (h:(ah D n).2.2=0) (a:∀ j,j<n→(a8 (D j)).2=0):bM D n=(-1,-1,0):=by
 unfold bM;rw [if_neg (by simpa using h),bN (p:=CV D) fun j _ b=>decide_eq_false (by simpa using a j (by omega)),if_neg (by omega)]
theorem oT (A0:Option Addr) (cap n:Nat) (D:Nat→Dm) (A:Nat→Option Addr) (C:Nat→Nat) (w:World) (M:bd w A0 cap n D A C):Rt 90 #[.agg #[.slice A0 n cap]] w (.tuple #[.int .i64 (bM D n).1,.int .i64 (bM D n).2.1,errV (bM D n).2.2]):=by
 have q:=aA w A0 n cap 24;have hS:=aF w A0 n cap 24;have I:=aR w A0 n cap 24;have a:=mx A0 cap n D A C (aD w A0 n cap 24) (M.later q);obtain ⟨W,N⟩:=ax (aD w A0 n cap 24);rw [N] at q hS I a;unfold aD at N;have p:=aa q;have X:=aa M;have H:w.heap.size<W.heap.size:=by omega
 clear M q
 by_cases h:(ah D n).2.2=0
 case neg =>
  rw [KY h];rw [aj h] at a ⊢;generalize (ah D n).1=x at a ⊢;generalize (ah D n).2.1=y at a ⊢;generalize (ah D n).2.2=c at a ⊢;clear h
  go_enter Tryz.func90,Tryz.ntmps90
  go_wp2_with fail;refine a.mono ?_;rintro e w1 ⟨rfl,i⟩;go_wp2_with fail;go_returns;exact ⟨rfl,ae p.out i⟩
 obtain ⟨hn1,hn4,-,-⟩:=aw h;have R:=aa h;rw [h,errV_zero] at a;generalize (ah D n).1=x at a;generalize (ah D n).2.1=y at a;have hnI:(n:Int)≤4:=by omega
 have HA:=aa I;clear h
 go_enter Tryz.func90,Tryz.ntmps90
 go_wp2_with fail;refine a.mono ?_;rintro e w1 ⟨rfl,i⟩;have J:=aa i;have c1:w1.cell? ⟨w.heap.size,0,none⟩=some (.slice A0 n cap):=aL i H I;have V:w.heap.size<w1.heap.size:=zW H i.size;clear i a I N;go_wp2_with fail
 go_loopg [26] n (fun g s26 wr => ∃ (k:Nat),k≤n∧g=n-k∧s26=.int .i64 k∧Hid (∀ j,j<k→(a8 (D j)).2=0)∧Bl W wr)
 case atStart=>exact ⟨0,zU,rfl,rfl,(fun j U=>absurd U (Nat.not_lt_zero _):∀ j,j<0→_),J.out⟩
 case round =>
  obtain ⟨k,hk,rfl,rfl,K,r⟩:=hrel;have u:=aa r
  by_cases G:k<n
  ·have hki:(k:Int)<(n:Int):=by omega
   obtain ⟨T,h0 | ⟨b,o,rfl,B⟩⟩:=X.out.later (ae p.out r)
   ·omega
   have O:(n:Int)≤(cap:Int):=by omega
   obtain ⟨h0,h1,h2,S⟩:=B.2 k G;have hbl:b<wr.heap.size:=B.1;have v:=aM wr (D k) (A k) (C k) 37;have f:=wZ (D k) (A k) (C k) (aI wr (D k) (A k) (C k) 37) (S.later v);obtain ⟨Y,Z,d2,Q⟩:=eT (w:=wr) (d:=D k) (A:=A k) (cap:=C k) (zS);have t:=aa v;unfold cA at f;obtain ⟨W2,F⟩:=ax (aI wr (D k) (A k) (C k) 37);rw [F] at Y Z d2 Q t f;unfold aI at F;clear S B v r
   by_cases h:(a8 (D k)).2=0
   ·rw [h,errV_zero] at f
    have L:Hid (∀ j,j<k+1→(a8 (D j)).2=0):=fun j U=>by
     by_cases e:j=k
     ·rw [e];exact h
     exact K.out j (by omega)
    generalize (a8 (D k)).1=z at f;clear h;go_wp2_with fail;refine f.mono ?_;rintro e w2 ⟨rfl,m⟩;have s:=aa (ae u.out (ae t.out m));clear m f;go_wp2_with fail
    go_roundg (n-(k+1))
    case measure=>omega
    case rel=>exact ⟨k+1,by omega,rfl,by go_num,L,s.out⟩
   have l:Hid (bM D n=((k:Int),(a8 (D k)).1,(a8 (D k)).2)):=KZ R.out G h K.out;have E:=aa h;rw [aj h] at f;generalize (a8 (D k)).1=z at f l;generalize (a8 (D k)).2=c at f l E;clear h;go_wp2_with fail;refine f.mono ?_;rintro e w2 ⟨rfl,m⟩;have s:=aa (ae u.out (ae t.out m));clear m f;go_wp2_with fail;go_returns;rw [l.out];exact ⟨by rw [aj E.out];rfl,ae p.out s.out⟩
  have P:k=n:=by omega
  subst P;have l:Hid (bM D k=(-1,-1,0)):=K0 R.out K.out;clear r;go_wp2_with fail;go_returns;rw [l.out];exact ⟨rfl,ae p.out u.out⟩
theorem xD (A0:Option Addr) (cap n:Nat) (D:Nat→Dm) (A:Nat→Option Addr) (C:Nat→Nat) (w:World) (I:bd w A0 cap n D A C):Rt 47 #[.agg #[.slice A0 n cap]] w (.tuple #[.int .i64 (bM D n).1,.int .i64 (bM D n).2.1,.int .i64 (bM D n).2.2]):=by
 have p:=aA w A0 n cap 24;have U:=aF w A0 n cap 24;have H:=aR w A0 n cap 24;have a:=kR A0 cap n D A C (aD w A0 n cap 24) (I.later p);obtain ⟨W,J⟩:=ax (aD w A0 n cap 24);rw [J] at p U H a;unfold aD at J;have m:=aa p;have S:=aa I;have B:w.heap.size<W.heap.size:=by omega
 clear I p
 by_cases f:(ah D n).2.2=0
 case neg =>
  rw [KY f];have u:((ah D n).2.2 != 0)=true:=by simpa using f
  generalize (ah D n).1=x at a ⊢;generalize (ah D n).2.1=y at a ⊢;generalize (ah D n).2.2=c at a u ⊢;clear f
  go_enter Tryz.func47,Tryz.ntmps47
  go_wp2_with fail;refine a.mono ?_;rintro e w1 ⟨rfl,q⟩;go_wp2_with fail;go_returns;exact ⟨rfl,ae m.out q⟩
 obtain ⟨Y,Z,-,-⟩:=aw f;have M:=aa f;rw [f] at a;generalize (ah D n).1=x at a;generalize (ah D n).2.1=y at a;have Lt:(n:Int)≤4:=by omega
 have R:=aa H;clear f
 go_enter Tryz.func47,Tryz.ntmps47
 go_wp2_with fail;refine a.mono ?_;rintro e w1 ⟨rfl,q⟩;have E:=aa q;clear q a H J;go_wp2_with fail
 go_loopg [8] n (fun g s8 wr => ∃ (k:Nat),k≤n∧g=n-k∧s8=.int .i64 k∧Hid (∀ j,j<k→(a8 (D j)).2=0)∧Bl W wr)
 case atStart=>exact ⟨0,zU,rfl,rfl,(fun j P=>absurd P (Nat.not_lt_zero _):∀ j,j<0→_),E.out⟩
 case round =>
  obtain ⟨k,hk,rfl,rfl,F,h⟩:=hrel;have s:=aa h;have cw:wr.cell? ⟨w.heap.size,0,none⟩=some (.slice A0 n cap):=aL h B R.out;have Q:w.heap.size<wr.heap.size:=zW B h.size
  by_cases v:k<n
  ·have X:(k:Int)<(n:Int):=by omega
   obtain ⟨O,T | ⟨b,o,rfl,t⟩⟩:=S.out.later (ae m.out h)
   ·omega
   have K:(n:Int)≤(cap:Int):=by omega
   obtain ⟨T,h1,h2,N⟩:=t.2 k v;have V:b<wr.heap.size:=t.1;have d:=oZ (D k) (A k) (C k) wr N;unfold cA at d;clear N t h
   by_cases f:(a8 (D k)).2=0
   ·have G:Hid (∀ j,j<k+1→(a8 (D j)).2=0):=fun j P=>by
     by_cases e:j=k
     ·rw [e];exact f
     exact F.out j (by omega)
    rw [f] at d;generalize (a8 (D k)).1=z at d;clear f;go_wp2_with fail;refine d.mono ?_;rintro e w2 ⟨⟨A2,c2,xs,rfl,-⟩,l⟩;have r:=aa (ae s.out l);clear l d;go_wp2_with fail
    go_roundg (n-(k+1))
    case measure=>omega
    case rel=>exact ⟨k+1,by omega,rfl,by go_num,G,r.out⟩
   have i:Hid (bM D n=((k:Int),(a8 (D k)).1,(a8 (D k)).2)):=KZ M.out v f F.out;have u:((a8 (D k)).2 != 0)=true:=by simpa using f
   generalize (a8 (D k)).1=z at d i;generalize (a8 (D k)).2=c at d i u;clear f;go_wp2_with fail;refine d.mono ?_;rintro e w2 ⟨⟨A2,c2,xs,rfl,-⟩,l⟩;have r:=aa (ae s.out l);clear l d;go_wp2_with fail;go_returns;rw [i.out];exact ⟨rfl,ae m.out r.out⟩
  have L:k=n:=by omega
  subst L;have i:Hid (bM D k=(-1,-1,0)):=K0 M.out F.out;clear h;go_wp2_with fail;go_returns;rw [i.out];exact ⟨rfl,ae m.out s.out⟩
theorem xC (A0:Option Addr) (cap n:Nat) (D:Nat→Dm) (A:Nat→Option Addr) (C:Nat→Nat) (w:World) (d:bd w A0 cap n D A C):Rt 19 #[.agg #[.slice A0 n cap]] w (.int .i64 (bM D n).2.2):=by
 have a:=aA w A0 n cap 24;have g:=aR w A0 n cap 24;have h:=xD A0 cap n D A C (aD w A0 n cap 24) (d.later a);obtain ⟨W,f⟩:=ax (aD w A0 n cap 24);rw [f] at a g h;unfold aD at f;have b:=aa a;generalize (bM D n).1=x at h;generalize (bM D n).2.1=y at h;generalize (bM D n).2.2=z at h ⊢;clear d a
 go_enter Tryz.func19,Tryz.ntmps19
 go_wp2_with fail;refine h.mono ?_;rintro e w1 ⟨rfl,c⟩;go_wp2_with fail;go_ret;exact ⟨rfl,ae b.out c⟩
noncomputable def cuErr (D:Nat→Dm) (n:Nat) (l:List En):Int:=if (bM D n).2.2≠0 then (bM D n).2.2 else entsErr D n l
theorem Ch (A0:Option Addr) (cap n:Nat) (D:Nat→Dm) (A:Nat→Option Addr) (C:Nat→Nat) (AE:Option Addr) (l:Nat) (b:List EnL) (w:World) (m:bd w A0 cap n D A C) (q:ii w AE l b):Rt 4 #[.agg #[.slice A0 n cap],.slice AE b.length l] w (.int .i64 (cuErr D n (lE b))):=by
 have d:=aA w A0 n cap 24;have x:=aF w A0 n cap 24;have p:=aR w A0 n cap 24;have h:=xC A0 cap n D A C (aD w A0 n cap 24) (m.later d);obtain ⟨W,u⟩:=ax (aD w A0 n cap 24);rw [u] at d x p h;unfold aD at u;have f:=aa d;have B:=aa m;have z:=aa q;have j:w.heap.size<W.heap.size:=by omega
 have i:Hid (∀ w',Bl w w'→Rt 20 #[.agg #[.slice A0 n cap],.slice AE b.length l] w' (.int .i64 (entsErr D n (lE b)))):=fun w' t=>rW A0 cap n D A C AE l b w' (m.later t) (q.later t)
 generalize b.length=xl at i ⊢;clear m d q
 by_cases g:(bM D n).2.2=0
 ·have k:Hid (cuErr D n (lE b)=entsErr D n (lE b)):=by show _=_;unfold cuErr;rw [if_neg (by simpa using g)]
  rw [g] at h;clear g
  go_enter Tryz.func4,Tryz.ntmps4
  go_wp2_with fail;refine h.mono ?_;rintro e w1 ⟨rfl,a⟩;have E:=aL a j p;have v:w.heap.size<w1.heap.size:=zW j a.size;have s:=i.out w1 (ae f.out a);have o:=aa (ae f.out a);clear a h p;go_wp2_with fail;refine s.mono ?_;rintro e w2 ⟨rfl,r⟩;go_wp2_with fail;go_ret;exact ⟨by rw [k.out];rfl,ae o.out r⟩
 have k:Hid (cuErr D n (lE b)=(bM D n).2.2):=by show _=_;unfold cuErr;rw [if_pos g]
 have y:((bM D n).2.2 == 0)=false:=by simpa using g
 generalize (bM D n).2.2=c at h k y;clear g
 go_enter Tryz.func4,Tryz.ntmps4
 go_wp2_with fail;refine h.mono ?_;rintro e w1 ⟨rfl,a⟩;go_wp2_with fail;go_ret;exact ⟨by rw [k.out];rfl,ae f.out a⟩
structure R2 where
 xs:List RL
 A:Option Addr
 c:Nat
def jD:R2:=⟨[],none,0⟩
def fw (ys:List R2):List Value:=ys.map fun y=>.slice y.A y.xs.length y.c
theorem pu (a b:List R2):fw (a ++ b)=fw a ++ fw b:=by simp [fw]
theorem Ij {a:List R2} {k:Nat} (h:k<a.length):a.getD k jD∈a:=by
 rw [zZ,zX h];exact List.getElem_mem h
theorem zB {a:List R2} {k:Nat} (h:k<a.length):(fw a)[k]?=some (.slice (a.getD k jD).A (a.getD k jD).xs.length (a.getD k jD).c):=by
 simp [fw,List.getD,h]
def jT (w:World) (A:Option Addr) (cap:Nat) (ys:List R2):Prop:=ys.length≤cap∧(ys=[]∨∃ b,A=some ⟨b,0,none⟩∧b<w.heap.size∧∀ k,k<ys.length→w.cell? ⟨b,k,none⟩=some (.slice (ys.getD k jD).A (ys.getD k jD).xs.length (ys.getD k jD).c))∧∀ y∈ys,cT w y.A y.c y.xs
theorem jT.later {w w':World} {A:Option Addr} {cap:Nat} {d:List R2} (h:jT w A cap d) (c:Bl w w'):jT w' A cap d:=by
 obtain ⟨e,a,f⟩:=h;refine ⟨e,?_,fun x i=>(f x i).later c⟩
 rcases a with a | ⟨b,a,h4,h5⟩
 ·exact Or.inl a
 exact Or.inr ⟨b,a,zW h4 c.size,fun k g=>aL c h4 (h5 k g)⟩
theorem B9 {w:World} {base:Nat} {v:Value} {a:List R2} (h:w.ownsRow base 59 1 v a.length (fw a)) (l:∀ y∈a,cT w y.A y.c y.xs):∃ A c,v=.slice A a.length c∧jT w A c a:=by
 rcases h.2 with ⟨rfl,e⟩ | ⟨g,cap,d,rfl,n,i,f,_,_,_⟩
 ·have:a=[]:=List.eq_nil_of_length_eq_zero e
  subst this;exact ⟨none,0,rfl,zU,Or.inl rfl,fun x m=>by cases m⟩
 refine ⟨_,cap,rfl,f,Or.inr ⟨g,rfl,(zY i).1,fun k j=>?_⟩,l⟩
 have y:=h.cells (g:=g) rfl k _ (zB j);have b:(⟨g,0,none⟩:Addr).add k=⟨g,k,none⟩:=by unfold Addr.add;split <;> simp_all
 rw [b] at y;exact y
theorem uH:(3:Nat)≠59:=by decide
theorem uI:(26:Nat)≠59:=by decide
theorem t8 {w w':World} {base:Nat} {v:Value} {n b T:Nat} {zs:List Value} {cs:Array Value} {fr:Nat×Nat} (a:w.ownsRow base 59 1 v n zs) (f:w.grownBy w' v.ownBlock) (c:w.heap[b]?=some (.cells cs T fr)) (h:T≠59):w'.heap[b]?=w.heap[b]?:=by
 refine f.block b (zY c).1 fun e=>?_
 rcases a.2 with ⟨rfl,-⟩ | ⟨g,cap,d,rfl,-,i,-⟩
 ·cases e
 simp only [Value.ownBlock,Option.some.injEq] at e;rw [e,i] at c;simp only [Option.some.injEq,Obj.cells.injEq] at c;exact h c.2.1.symm
theorem cT.row2 {w w':World} {base:Nat} {v:Value} {n:Nat} {zs:List Value} {A:Option Addr} {c:Nat} {g:List RL} (h:cT w A c g) (l:iL w A g) (d:w.ownsRow base 59 1 v n zs) (j:w.grownBy w' v.ownBlock):cT w' A c g∧iL w' A g:=by
 obtain ⟨m,e,q⟩:=h;have f:∀ x∈g,aY w' x.A x.c x.p:=fun x s=>(q x s).keep fun b cs fr i=>t8 d j i uH
 rcases l with l | ⟨b,cs,fr,hA,i⟩
 ·subst l
  exact ⟨⟨m,Or.inl rfl,f⟩,Or.inl rfl⟩
 have o:=t8 d j i uI;refine ⟨⟨m,?_,f⟩,Or.inr ⟨b,cs,fr,hA,o.trans i⟩⟩
 rcases e with e | ⟨b',e,h4,h5⟩
 ·exact Or.inl e
 rw [hA] at e;cases e;exact Or.inr ⟨b,hA,zW h4 j.size,fun k r=>(World.cell?_of_block (a:=⟨b,k,none⟩) o).trans (h5 k r)⟩
theorem Tryz.infoRow2:(Tryz.prog.info? 59).map (fun i=>(i.zero,i.size,i.bytes))=some (some (.slice none 0 0),1,24):=by kernel_rfl
theorem sh (A0:Option Addr) (cap n:Nat) (D:Nat→Dm) (A:Nat→Option Addr) (C:Nat→Nat) (w:World) (hn4:n≤4) (hR:dS D n) (hM:bd w A0 cap n D A C):Calls Tryz.prog 50 #[.agg #[.slice A0 n cap]] w fun e w'=>(∃ A' s f,e=.returned (.slice A' n s)∧f.length=n∧jT w' A' s f∧∀ i,i<n→lR (f.getD i jD).xs=eu (D i))∧Bl w w':=by
 obtain ⟨i0,U,Y,Z,Lt⟩:=info_parts Tryz.infoRow2;have x:=aA w A0 n cap 24;have hS:=aF w A0 n cap 24;have R:=aR w A0 n cap 24;obtain ⟨W,S⟩:=ax (aD w A0 n cap 24);rw [S] at x hS R;unfold aD at S;have F:=aa x;have HM:=aa hM;have HA:=aa R;have HR:=aa hR;have L:w.heap.size<W.heap.size:=by omega
 have hnI:(n:Int)≤4:=by omega
 clear hM x R hR hS
 go_enter Tryz.func50,Tryz.ntmps50
 go_wp2_with fail;clear S
 go_loopg [3,4] n (fun g s3 s4 wr => ∃ (k:Nat) (f:List R2),k≤n∧g=n-k∧s4=.int .i64 k∧Hid (f.length=k∧(∀ i,i<k→lR (f.getD i jD).xs=eu (D i))∧∀ y∈f,cT wr y.A y.c y.xs∧iL wr y.A y.xs)∧wr.ownsRow W.heap.size 59 1 s3 k (fw f)∧Bl W wr)
 case atStart=>exact ⟨0,[],zU,rfl,rfl,(⟨rfl,fun i hi=>absurd hi (Nat.not_lt_zero _),fun y l=>by cases l⟩:_∧_∧_),World.ownsRow_nil _ _ _ _,zS⟩
 case round =>
  obtain ⟨k,f,hk,rfl,rfl,t,M,j⟩:=hrel;have HO:=aa M;have H:=aa j;have cw:wr.cell? ⟨w.heap.size,0,none⟩=some (.slice A0 n cap):=aL j L HA.out;have hszr:w.heap.size<wr.heap.size:=zW L j.size
  by_cases K:k<n
  ·have hki:(k:Int)<(n:Int):=by omega
   obtain ⟨hcap,h0 | ⟨b,o,rfl,B⟩⟩:=HM.out.later (ae F.out j)
   ·omega
   have T:(n:Int)≤(cap:Int):=by omega
   obtain ⟨h0,h1,h2,h3⟩:=B.2 k K;have hbl:b<wr.heap.size:=B.1;have p:=oZ (D k) (A k) (C k) wr h3;unfold cA at p;have J:=HR.out k K;rw [J] at p;generalize (a8 (D k)).1=z at p;clear h3 B j M J;go_wp2_with fail;refine p.mono ?_;rintro e w2 ⟨⟨A2,c2,xs,rfl,hV,hL,hT⟩,m⟩;have G:=aa (ae H.out m);have r:Hid (w2.ownsRow W.heap.size 59 1 u3 k (fw f)):=ar HO.out m;have I:Hid (∀ y∈f,cT w2 y.A y.c y.xs∧iL w2 y.A y.xs):=fun y l=>⟨(t.out.2.2 y l).1.later m,(t.out.2.2 y l).2.later m⟩
   have v:Hid (cT w2 A2 c2 xs∧iL w2 A2 xs∧lR xs=eu (D k)):=⟨hV,hT,hL trivial⟩;have hs2:=G.out.size;obtain ⟨xl,E⟩:=ax xs.length;have P:=aa E;rw [E];clear m p hV hL hT E h0 h1 h2
   go_wp2_with (at_builtin;refine wpList_append_own _ rfl _ _ 96 rfl W.heap.size 59 i0 (.slice none 0 0) 1 24 Tryz.underlying96 U Y Z Lt rfl (by decide) _ _ _ rfl (r.out.alloc _) ⟨w2.heap.size,0,none⟩ 1 1 [.slice A2 xl c2] rfl rfl bu (by intro u hu;simp at hu;subst hu;rfl) (by unfold maxLen;omega) (by omega) (by simp;omega) ?_)
   intro v' w3 q a _;have N:Hid (Bl W w3):=bA G.out r.out a;have Q:Hid ((f ++ [(⟨xs,A2,c2⟩:R2)]).length=k+1∧(∀ i,i<k+1→lR ((f ++ [(⟨xs,A2,c2⟩:R2)]).getD i jD).xs=eu (D i))∧∀ y∈f ++ [(⟨xs,A2,c2⟩:R2)],cT w3 y.A y.c y.xs∧iL w3 y.A y.xs):=by
    have d:=t.out.1;refine ⟨by rw [List.length_append,d];rfl,fun i hi=>?_,fun y l=>?_⟩
    ·by_cases e:i=k
     ·rw [e,zZ,List.getElem?_append_right (by omega),d,Nat.sub_self]
      exact v.out.2.2
     rw [zZ,List.getElem?_append_left (by omega),←zZ]
     exact t.out.2.1 i (by omega)
    rcases List.mem_append.1 l with l | l
    ·exact ((I.out y l).1.later (by go_grown)).row2 ((I.out y l).2.later (by go_grown)) (r.out.alloc _) a
    rw [List.mem_singleton.1 l];exact (v.out.1.later (by go_grown)).row2 (v.out.2.1.later (by go_grown)) (r.out.alloc _) a
   have O:Hid (w3.ownsRow W.heap.size 59 1 v' (k+1) (fw (f ++ [(⟨xs,A2,c2⟩:R2)]))):=by
    show World.ownsRow ..
    rw [pu];have e:fw [(⟨xs,A2,c2⟩:R2)]=[.slice A2 xl c2]:=by simp [fw,P.out]
    rw [e];exact q
   clear q a;go_wp2_with fail
   go_roundg (n-(k+1))
   case measure=>omega
   case rel=>exact ⟨k+1,_,by omega,rfl,by go_num,Q,O.out,N.out⟩
  have V:k=n:=by omega
  subst V;have HF:Hid (∃ A' s,u3=.slice A' k s∧jT wr A' s f):=by
   have d:=t.out.1;have h:=M;rw [←d] at h;obtain ⟨A',s,e,X⟩:=B9 h fun y l=>(t.out.2.2 y l).1
   rw [d] at e;exact ⟨A',s,e,X⟩
  clear M j;go_wp2_with fail;go_ret;obtain ⟨A',s,e,X⟩:=HF.out;exact ⟨⟨A',s,f,by rw [←e];rfl,t.out.1,X,t.out.2.1⟩,ae F.out H.out⟩
def ey (D:Nat→Dm) (n:Nat) (p:List Int) (T:List Int):Prop:=T.Pairwise (· < ·)∧T.length≤12∧∀ z,z∈T↔∃ b:Nat,byTo D p n=(b:Int)∧∃ x∈dQ (D b) (p.getD b 0).toNat,z=numI D (p.set b x) n
theorem Cp (A0:Option Addr) (cap n:Nat) (D:Nat→Dm) (A:Nat→Option Addr) (C:Nat→Nat) (AN:Option Addr) (cN:Nat) (R:List R2) (Ap:Option Addr) (cp:Nat) (L:List Int) (w:World) (hR:dS D n) (hI:InO D n L) (hM:bd w A0 cap n D A C) (hyl:R.length=n) (hY:jT w AN cN R) (hyn:∀ i,i<n→lR (R.getD i jD).xs=eu (D i)) (hP:aO w Ap cp L) :
  Calls Tryz.prog 52 #[.agg #[.slice A0 n cap],.slice AN n cN,.slice Ap L.length cp] w fun e w'=>(∃ A' r T,e=.returned (.slice A' T.length r)∧bQ w' A' r T∧ey D n L T)∧Bl w w':=by
 obtain ⟨hn1,hn4,-,hd⟩:=aw hI.right;have hnI:(n:Int)≤4:=by omega
 have hl:=hI.len;have u:=aA w A0 n cap 24;have hS:=aF w A0 n cap 24;have hA:=aR w A0 n cap 24;have o:=mK A0 cap n D A C Ap cp L (aD w A0 n cap 24) hI (hM.later u) (hP.later u);obtain ⟨W,hW⟩:=ax (aD w A0 n cap 24);rw [hW] at u hS hA o;unfold aD at hW;have HB0:=aa u;have HM:=aa hM;have HA:=aa hA;have HR:=aa hR;have HI:=aa hI;have HP:=aa hP;have HY:=aa hY;have HYn:=aa hyn;have I:=aa hyl;have a:=aa hl;have HD12:Hid (∀ i,i<n→(D i).n≤12):=fun i hi=>(hd i hi).2
 have hsz:w.heap.size<W.heap.size:=by omega
 rw [hl] at o ⊢;clear hM u hR hI hP hY hyn hyl hl hd hS
 rcases by_in D L n with hneg | ⟨b,hb,hbn⟩
 ·have H:Hid (ey D n L []):=⟨List.Pairwise.nil,zU,fun z=>⟨fun h=>(by cases h),fun ⟨b,h1,_⟩=>(by rw [hneg] at h1;omega)⟩⟩
  rw [hneg] at o;clear hneg
  go_enter Tryz.func52,Tryz.ntmps52
  go_wp2_with fail;refine o.mono ?_;rintro e w1 ⟨rfl,B⟩;go_wp2_with fail;go_ret;exact ⟨⟨none,0,[],rfl,bQ.nil _,H.out⟩,ae HB0.out B⟩
 rw [hb] at o;have HBy:=aa hb;have hbI:(b:Int)<(n:Int):=by omega
 have hb0:decide ((b:Int)<0)=false:=decide_eq_false (by omega)
 have hp0:=HI.out.lo b hbn;have hp1:=HI.out.hi b hbn;obtain ⟨x,hx⟩:∃ x:Nat,L.getD b 0=(x:Int):=⟨(L.getD b 0).toNat,by omega⟩
 have HX:=aa hx;have hxn:x<(D b).n:=by omega
 clear hb
 go_enter Tryz.func52,Tryz.ntmps52
 go_wp2_with fail;refine o.mono ?_;rintro e w1 ⟨rfl,B⟩;have HB1:=aa B;have q:=ae HB0.out B;have K:=aa q;obtain ⟨hcN,hy0 | ⟨g2,rfl,hg2,hc2⟩,hr2⟩:=HY.out.later q
 ·have:=I.out;rw [hy0] at this;simp at this;omega
 have cy:=hc2 b (by rw [I.out];exact hbn)
 have hry:=hr2 _ (Ij (k:=b) (by rw [I.out];exact hbn))
 have hrn:=HYn.out b hbn;rw [I.out] at hcN;have hcNi:(n:Int)≤(cN:Int):=by omega
 have F:(R.getD b jD).xs.length=(D b).n:=by rw [←nO,hrn,fd]
 rw [F] at cy;obtain ⟨hcx,hx0 | ⟨g1,hg1,hgl1,hc1⟩,hr1⟩:=hry
 ·rw [hx0] at F;simp at F;omega
 have cx:=hc1 x (by omega)
 have v:=hr1 _ (iG (k:=x) (by omega))
 have HMx:Hid (((R.getD b jD).xs.getD x ew).p=dQ (D b) x):=by show _=_;rw [←qt,hrn,lu hxn]
 rw [HMx.out] at cx v;rw [hg1] at cy;rw [F] at hcx;generalize ((R.getD b jD).xs.getD x ew).A=Ax at cx v;generalize ((R.getD b jD).xs.getD x ew).c=ccx at cx v;generalize (R.getD b jD).c=ccy at cy hcx;obtain ⟨hcP,hP0 | ⟨bp,op,rfl,hbp,hcp⟩⟩:=HP.out.later q
 ·have:=a.out;rw [hP0] at this;simp at this;omega
 have cpb:=hcp b (by rw [a.out];exact hbn)
 rw [HX.out] at cpb;rw [a.out] at hcP;have hcPi:(n:Int)≤(cp:Int):=by omega
 have hxI:(x:Int)<((D b).n:Int):=by omega
 have hcxi:((D b).n:Int)≤(ccy:Int):=by omega
 have O:=HD12.out b hbn;have HTx:=aa v;have X:Hid ((dQ (D b) x).length≤12):=zV (rE (D b) x) O;obtain ⟨m,hm⟩:=ax ((dQ (D b) x).length);have f:=aa hm;rw [hm] at cx X;have hmI:(m:Int)≤12:=by have:=X.out;omega
 generalize (D b).n=dn at cy hcx hxI hcxi O;clear B q o hc2 hr2 hc1 hr1 v hrn F hm hW hA;go_wp2_with fail
 go_quiet (fail)
 obtain ⟨w2,hw2⟩:=ax (w1.drewN nq);have s:Hid (Bl w1 w2):=by rw [←hw2];exact ac (zS) _
 rw [hw2];clear hw2 cy cx cpb;obtain ⟨M,hM⟩:=ax (dQ (D b) x);have V:=aa hM;rw [hM] at HTx f;clear hM;go_wp2_with fail
 go_loopg [8,10] m (fun g s8 s10 wi => ∃ (t:Nat) (T:List Int) (A8:Option Addr) (c8:Nat),t≤m∧g=m-t∧s10=.int .i64 t∧s8=.slice A8 T.length c8∧bQ wi A8 c8 T∧Hid (T.Pairwise (· < ·)∧T.length≤t∧∀ z,z∈T↔∃ j,j<t∧z=numI D (L.set b (M.getD j 0)) n)∧Bl w2 wi)
 case atStart=>exact ⟨0,[],none,0,zU,rfl,rfl,rfl,bQ.nil _,(⟨List.Pairwise.nil,zT,fun z=>⟨fun h=>(by cases h),fun ⟨j,P,_⟩=>absurd P (Nat.not_lt_zero _)⟩⟩:_∧_∧_),zS⟩
 case round =>
  obtain ⟨t,T,A8,c8,ht,rfl,rfl,rfl,hR8,H,l⟩:=hrel;have HR8:=aa hR8;have S:=aa l
  by_cases htl:t<m
  ·have hti:(t:Int)<(m:Int):=by omega
   have Lt:Bl w wr:=ae K.out (ae s.out l);have cw:wr.cell? ⟨w.heap.size,0,none⟩=some (.slice A0 n cap):=((ae HB1.out (ae s.out l)).cell (p:=⟨w.heap.size,0,none⟩) hsz).trans HA.out;have Q:w.heap.size<wr.heap.size:=zW hsz (ae HB1.out (ae s.out l)).size;obtain ⟨hcT,-,hT0 | ⟨bt,cs,fr,rfl,hbt,hct⟩⟩:=(HTx.out.later s.out).later l
   ·have:=f.out;rw [hT0] at this;simp at this;omega
   have ct:=hct t (by rw [f.out];exact htl)
   have N:bt<wr.heap.size:=(zY hbt).1;rw [f.out] at hcT;have hcTi:(m:Int)≤(ccx:Int):=by omega
   have J:=ef (d:=D b) (i:=x) (by rw [V.out];exact gA (L:=M) (j:=t) (by rw [f.out];exact htl))
   have Y:Hid (∀ z,(z∈T∨z=numI D (L.set b (M.getD t 0)) n)↔∃ j,j<t+1∧z=numI D (L.set b (M.getD j 0)) n):=fun z=>by
    rw [H.out.2.2 z]
    constructor
    ·rintro (⟨j,P,e⟩ | e)
     ·exact ⟨j,by omega,e⟩
     exact ⟨t,by omega,e⟩
    rintro ⟨j,P,e⟩
    by_cases ej:j=t
    ·rw [ej] at e;exact Or.inr e
    exact Or.inl ⟨j,by omega,e⟩
   obtain ⟨y,hy⟩:=ax (M.getD t 0);rw [hy] at ct J Y;have hIn:=fI HI.out hbn J.1 J.2;have hll:(L.set b y).length=n:=by rw [List.length_set];exact a.out
   have HWt:Hid (∀ w',Bl wr w'→Calls Tryz.prog 7 #[.slice (some ⟨bp,op,none⟩) n cp,.int .i64 b,.int .i64 y] w' fun e w''=>(∃ A' r,e=.returned (.slice A' n r)∧aO w'' A' r (L.set b y))∧Bl w' w''):=fun w' G=>by
    have h:=gZ (some ⟨bp,op,none⟩) cp L b y w' (by rw [a.out];exact hbn) (by rw [a.out];exact hn4) (HP.out.later (ae Lt G))
    rw [a.out] at h;exact h
   have HNu:Hid (∀ A' r w',Bl wr w'→aO w' A' r (L.set b y)→Rt 8 #[.agg #[.slice A0 n cap],.slice A' n r] w' (.int .i64 (numI D (L.set b y) n))):=fun A' r w' G hP'=>by
    have h:=gm A0 cap n D A C A' r (L.set b y) w' hIn (HM.out.later (ae Lt G)) hP';rw [hll] at h;exact h
   obtain ⟨Z,hZ⟩:=ax (numI D (L.set b y) n);rw [hZ] at Y HNu;obtain ⟨tl,E⟩:=ax T.length;have HPu:Hid (∀ w',Bl wr w'→Calls Tryz.prog 82 #[.slice A8 tl c8,.int .i64 Z] w' fun e w''=>(∃ A' r,e=.returned (.slice A' (cF T Z).length r)∧bQ w'' A' r (cF T Z))∧Bl w' w''):=fun w' G=>by
    rw [←E];exact kO A8 c8 T Z w' (by have:=H.out.2.1;omega) (HR8.out.later G)
   have HT2:Hid ((cF T Z).Pairwise (· < ·)∧(cF T Z).length≤t+1∧∀ z,z∈cF T Z↔∃ j,j<t+1∧z=numI D (L.set b (M.getD j 0)) n):=⟨kP _ _ H.out.1,zV (rT _ _) (by have:=H.out.2.1;omega),fun z=>by rw [js];exact Y.out z⟩
   rw [E];clear hR8 l hct hbt hy hIn hll hZ E Lt J;have U:Hid (∀ w',Bl wr w'→w'.cell? ⟨w.heap.size,0,none⟩=some (.slice A0 n cap)∧w.heap.size<w'.heap.size∧w'.cell? ⟨bt,t,none⟩=some (.int .i64 y)∧bt<w'.heap.size):=fun w' G=>⟨aL G Q cw,zW Q G.size,aL G N ct,zW N G.size⟩
   go_upto_region 9 with fail
   go_region_law ((first
    | (go_simp;refine (HWt.out _ (by go_grown)).mono ?_;rintro e w3 ⟨⟨A3,c3,rfl,hP3⟩,hb3⟩;have hN3:=ae (W0:=wr) (by go_grown) hb3;obtain ⟨cw3,hw3,ct3,ht3⟩:=U.out _ hN3;clear hb3)
    | (go_simp;refine (HNu.out _ _ _ (by go_grown) (by first | exact hP3 | exact hP3.later (by go_grown))).mono ?_;rintro e w4 ⟨rfl,hb4⟩;have hN4:=ae (W0:=wr) (by go_grown) hb4;obtain ⟨cw4,hw4,ct4,ht4⟩:=U.out _ hN4;clear hb4)
    | (go_simp;refine (HPu.out _ (by go_grown)).mono ?_;rintro e w5 ⟨⟨A5,c5,rfl,hR5⟩,hb5⟩;have hN5:=ae (W0:=wr) (by go_grown) hb5;obtain ⟨cw5,hw5,ct5,ht5⟩:=U.out _ hN5;have HR5:=aa hR5;have HN5:=aa hN5;clear hb5)))
   all_goals clear hP3 hR5 hN3 hN4 hN5
   all_goals go_wp2_with fail
   all_goals go_roundg (m-(t+1))
   all_goals first
    | omega
    | exact ⟨t+1,cF T Z,A5,c5,by omega,rfl,by go_num,rfl,HR5.out,HT2,ae S.out HN5.out⟩
    | exact ⟨t+1,cF T Z,A5,c5,by omega,rfl,by go_num,rfl,HR5.out.later (ac (zS) _),HT2,ac (ae S.out HN5.out) _⟩
  have hte:t=m:=by omega
  subst hte;have HFin:Hid (ey D n L T):=by
   refine ⟨H.out.1,zV H.out.2.1 X.out,fun z=>?_⟩
   rw [H.out.2.2 z]
   constructor
   ·rintro ⟨j,P,e⟩
    refine ⟨b,HBy.out,M.getD j 0,?_,e⟩;rw [HX.out,Int.toNat_natCast,V.out];exact gA (by rw [f.out];exact P)
   rintro ⟨b',h1,y,hy,e⟩;have hbb:b'=b:=by have:=HBy.out;omega
   subst hbb;rw [HX.out,Int.toNat_natCast,V.out] at hy;obtain ⟨j,P,rfl⟩:=List.getElem_of_mem hy;refine ⟨j,by rw [←f.out];exact P,?_⟩
   rw [zZ,zX P];exact e
  clear hR8 l;go_wp2_with fail;go_ret;exact ⟨⟨A8,c8,T,rfl,HR8.out,HFin.out⟩,ae K.out (ae s.out S.out)⟩
end Go.Proofs.YthlhjjabkgpenaaGreatDoor
