/-
  What comes of the cells of parts by their signs,and of a member by the cells of those that its way names,as package solve tells it (together,tell),in whatever memory.
-/
import Derived.Laws.Runes
import Derived.WalkMore
import Derived.Laws.RangeAny
import Derived.Lib.OthersKept
import Derived.Lib.DecodeN
import Derived.Test.YtjfampgnhccodaaGreatDoorJTBA
import Derived.Test.YtjfampgnhccodaaGreatDoorJTBB
import Derived.Test.YtjfampgnhccodaaGreatDoorJTBC
namespace Go.Proofs.YtjfampgnhccodaaGreatDoor
open Tryz Go.ChangeShapes Go.WideShapes Go.ChangeAt Go.RowKit
set_option maxRecDepth 20000
def mB(w:World):World:=(w.alloc (.cells #[.int .i64 0,.int .i64 0] 61)).alloc (.cells #[.int .i64 0,.int .i64 0] 61)
theorem Gq(w:World):(mB w).heap.size=w.heap.size+2:=by unfold mB;simp
theorem CD(w:World):Bl w (mB w):=by unfold mB;go_grown
theorem NZ(w:World):(mB w).heap[w.heap.size]?=some (.cells #[.int .i64 0,.int .i64 0] 61):=by
 unfold mB;rw[heap_alloc_old _ _ σ]
 exact heap_alloc_new ..
theorem N0(w:World):(mB w).heap[w.heap.size+1]?=some (.cells #[.int .i64 0,.int .i64 0] 61):=by
 unfold mB;exact tT ..
theorem vl(d:Dm)(AP:Option Addr)(cP:Nat)(P:List Int)(AC:Option Addr)(cC:Nat)(L:List (Int×Int))(at':Int->Int×Int)(w:World)(X:P.length<=12)(U:∀k∈P,∃j:Nat,k=j/\j<d.n/\(d.mem j).sign≠0)(Y:Sg d.mem d.n)(hL:L=P.map at')(hG:∀k∈P,dq (at' k))(hP:dG w AP cP (P.map (io d)))(hC:eP w AC cC L):
  Rt 111 #[.slice AP P.length cP,.slice AC P.length cC] w (.tuple #[.agg #[.int .i64 (partsV d.mem at' P).1,.int .i64 (partsV d.mem at' P).2],.nilIface]):=by
 have af:=aa U;have ag:=aa Y;have HG:=aa hG;have HP:=aa hP;have HC:=aa hC;have HL:=aa hL;have ac:Hid (Bl w (mB w)):=CD ..;have F:Hid ((mB w).heap[w.heap.size]?=some (.cells #[.int .i64 0,.int .i64 0] 61)/\(mB w).heap.size=w.heap.size+2):=⟨NZ ..,Gq ..⟩;have q:Hid ((P.take P.length).foldl (bE d.mem at') (0,0)=partsV d.mem at' P):=by show _=_;rw[List.take_length];rfl
 obtain⟨N,hN⟩:=ar P.length;have HN:=aa hN;rw[hN]at q X|-;generalize partsV d.mem at' P=V at q;have av:(N:Int)<=12:=ω;clear U Y hG hP hC hN hL
 go_enter func111,ntmps111
 go_wp2_with fail
 go_loopg [7,13] N (fun g s7 au wr =>∃(k:Nat) (a b:Int),k<=N/\g=N-k/\au=.int .i64 k/\s7=.nilIface/\Hid ((P.take k).foldl (bE d.mem at') (0,0)=(a,b))/\Hid (wr.heap[w.heap.size+1]?=some (.cells #[.int .i64 a,.int .i64 b] 61))/\Hid ((mB w).grownBy wr (some (w.heap.size+1))))
 case atStart=>exact⟨0,0,0,zU,rfl,rfl,rfl,(rfl:(P.take 0).foldl (bE d.mem at') (0,0)=(0,0)),N0 w,(bP _ _:(mB w).grownBy (mB w) (some (w.heap.size+1)))⟩
 case round =>
  obtain⟨k,a,b,hk,rfl,rfl,rfl,HF,m,s⟩:=hrel;have T:Bl w wr:=ac.o.grown s.o (by rw[F.o.2];omega) (fun j hj=>by cases hj;omega)
  have ae:=aa T;have p:w.heap.size+1<wr.heap.size:=by have:=s.o.size;rw[F.o.2]at this;omega
  by_cases an:k<N
  ·have o:k<P.length:=by rw[HN.o];exact an
   have aw:(k:Int)<(N:Int):=ω;have D:P.getD k 0∈P:=by rw[zZ,zX o];exact List.getElem_mem o
   obtain⟨ak,h0|⟨bp,rfl,ai,B⟩⟩:=HP.o.later T
   ·have h1:(P.map (io d)).length=N:=by rw[List.length_map];exact HN.o
    rw[h0]at h1;simp at h1;omega
   rw[List.length_map,HN.o]at ak;have K:=B k (by rw[List.length_map];exact o)
   have H:L.length=N:=by rw[HL.o,List.length_map];exact HN.o
   obtain⟨aj,-,h0|⟨bc,oc,rfl,z⟩⟩:=HC.o.later T
   ·rw[h0]at H;simp at H;omega
   obtain⟨x0,x1⟩:=z.2 k ω
   have ah:bc<wr.heap.size:=z.1;have W:L.getD k noC=at' (P.getD k 0):=by
    rw[HL.o,zZ,List.getElem?_map,zZ,zX o]
    rfl
   have Z:(P.map (io d)).getD k 0=io d (P.getD k 0):=by
    rw[zZ,List.getElem?_map,zZ,zX o]
    rfl
   rw[H]at aj;rw[W]at x0 x1;obtain⟨j,hj,al,O⟩:=af.o _ D;have I:=HG.o _ D;have c:=Gl (M:=d.mem) (at':=at') o;rw[HF.o]at c;rw[Z,hj,show io d (j:Int)=(d.mem j).sign by unfold io;rw[Int.toNat_natCast]]at K
   rw[hj]at c I x0 x1;have C:dq (a,b):=by rw[←HF.o];exact mY _ _ _ _ ki
   unfold bE at c;rw[show((j:Int)).toNat=j by omega]at c
   simp only at c;have Q:=ag.o j al;obtain⟨s0,s1,f0,f1⟩:=ff m.o;have f:=fun w'=>CT a b (at' (j:Int)).1 (at' (j:Int)).2 C I w'
   have h:=fun w'=>DP a b (at' (j:Int)).1 (at' (j:Int)).2 C I w'
   generalize (at' (j:Int)).1=x at x0 c f h;generalize (at' (j:Int)).2=y at x1 c f h;generalize (d.mem j).sign=sg at K c Q O;obtain⟨v,hv⟩:=ar (wr.alloc (.cells #[.int .i64 x,.int .i64 y] 61));have G:Bl wr v:=by rw[←hv];go_grown
   have R:=aa G;obtain⟨v0,v1,-,-⟩:=ff (show v.heap[wr.heap.size]?=some (.cells #[.int .i64 x,.int .i64 y] 61 (0,0))from by rw[←hv];exact heap_alloc_new ..)
   have ax:wr.heap.size<v.heap.size:=by rw[←hv];simp
   obtain⟨t0,t1,-,-⟩:=ff ((G.block _ p).trans m.o);have S:=aM G ai K;have t:Hid (∀w',Bl wr w'->w'.cell? ⟨w.heap.size+1,0,none⟩=some (.int .i64 a)/\w'.cell? ⟨w.heap.size+1,1,none⟩=some (.int .i64 b)/\w'.frozen? ⟨w.heap.size+1,0,none⟩=false/\w'.frozen? ⟨w.heap.size+1,1,none⟩=false):=fun w' ap=>ff ((ap.block _ p).trans m.o)
   clear T hj I C D B z W H G Z
   by_cases ab:sg=1
   ·subst ab
    rw[if_pos rfl]at c;obtain⟨r1,E⟩:∃r,yd a b x y=r:=⟨_,rfl⟩;obtain⟨rk,rn⟩:=r1;rw[E]at c f;simp only at f;have J:=aa c;have l:=f v;clear f h c E Q O;go_wp2_with fail;refine l.mono ?_;rintro e w4⟨rfl,A⟩;have i:=ad R.o A;obtain⟨n0,n1,n2,n3⟩:=t.o _ i;have u:=aa i;have aq:w.heap.size+1<w4.heap.size:=zW p i.size;clear A i l hv v0 v1 t0 t1 S;go_wp2_with fail
    go_roundg (N-(k+1))
    case measure=>omega
    case rel=>exact⟨k+1,rk,rn,ω,rfl,by go_num,rfl,J,x7 ((u.o.block _ p).trans m.o),qZ (k8 s.o u.o)⟩
   have ao:sg = -1:=ω;subst ao;rw[if_neg (by decide),if_pos rfl]at c
   obtain⟨r1,E⟩:∃r,qD a b x y=r:=⟨_,rfl⟩;obtain⟨rk,rn⟩:=r1;rw[E]at c h;simp only at h;have J:=aa c;have l:=h v;clear f h c E Q ab O;go_wp2_with fail;refine l.mono ?_;rintro e w4⟨rfl,A⟩;have i:=ad R.o A;obtain⟨n0,n1,n2,n3⟩:=t.o _ i;have u:=aa i;have aq:w.heap.size+1<w4.heap.size:=zW p i.size;clear A i l hv v0 v1 t0 t1 S;go_wp2_with fail
   go_roundg (N-(k+1))
   case measure=>omega
   case rel=>exact⟨k+1,rk,rn,ω,rfl,by go_num,rfl,J,x7 ((u.o.block _ p).trans m.o),qZ (k8 s.o u.o)⟩
  have am:k=N:=ω;subst am;have HV:Hid (V=(a,b)):=by show _=_;rw[←q.o];exact HF.o
  obtain⟨s0,s1,f0,f1⟩:=ff m.o;have k1:wr.heap[w.heap.size]?=some (.cells #[.int .i64 0,.int .i64 0] 61):=(s.o.block w.heap.size (by rw[F.o.2];omega) (fun e=>by simp at e)).trans F.o.1
  obtain⟨e0,e1,g0,g1⟩:=ff k1;have ay:w.heap.size<wr.heap.size:=ω;clear T k1;go_wp2_with fail;refine bodyPost_ret (v:=.tuple #[.agg #[.int .i64 a,.int .i64 b],.nilIface]) (by simp[results,results111,go_sem,e0,e1]) rfl ⟨by rw[HV.o],?_⟩
  exact(ae.o.setCell σ _).setCell σ _
theorem OD{w:World}{A:Option Addr}{c:Nat}{L:List (List UInt8)}(h:gO w A c L)(g:L.length<=30):MT w A c (L.map vu):=by
 obtain⟨e,f,a⟩:=h;refine⟨by rw[List.length_map];exact e,by rw[List.length_map];omega,f,?_⟩
 rcases a with a|⟨b,o,a,h4,h5⟩
 ·exact Or.inl (by rw[a];rfl)
 refine Or.inr ⟨b,o,a,h4,fun j d=>?_⟩
 rw[List.length_map]at d;rw[h5 j d,zZ,zZ,List.getElem?_map,zX d]
 rfl
theorem FA{d:Dm}{m:Nat}(e:(d.mem m).formula.size=0):∀k∈f9 d m,∃j:Nat,k=j/\j<d.n/\(d.mem j).sign≠0:=fun k a=>by
 rw[←jn e,List.mem_filter]at a;obtain⟨j,b,c,-⟩:=dy k a.1;refine⟨j,b,c,?_⟩;have:=a.2;rw[b]at this;unfold KO at this
 simpa using this
def sz(w:World)(x:WL):World:=(w.alloc (.cells #[.bool x.lf,.slice x.An x.nd.length x.cn,.slice x.As x.nm.length x.cs,.slice x.Ai x.ne.length x.ci,.slice x.Ag x.sg.length x.cg] 149)).alloc (.cells #[.int .i64 0,.int .i64 0] 61)
theorem Gm(w:World)(x:WL):(sz w x).heap.size=w.heap.size+2:=by unfold sz;simp
theorem CB(w:World)(x:WL):Bl w (sz w x):=by unfold sz;go_grown
theorem NX(w:World)(x:WL):(sz w x).heap[w.heap.size]?=some (.cells #[.bool x.lf,.slice x.An x.nd.length x.cn,.slice x.As x.nm.length x.cs,.slice x.Ai x.ne.length x.ci,.slice x.Ag x.sg.length x.cg] 149 (0,0)):=by
 unfold sz;rw[heap_alloc_old _ _ σ]
 exact heap_alloc_new ..
theorem NY(w:World)(x:WL):(sz w x).heap[w.heap.size+1]?=some (.cells #[.int .i64 0,.int .i64 0] 61):=by
 unfold sz;exact tT ..
theorem Kn(d:Dm)(m:Nat)(x:WL)(AC:Option Addr)(O:Nat)(f:Int->Int×Int)(w:World)(U:(bB d).2=0)(hm:m<d.n)(u:fJ d m x)(V:ey w x)(t:∀z∈f9 d m,dq (f z))(T:eP w AC O (x.ne.map f)):
  Rt 71 #[wayV x,.slice AC x.ne.length O] w (.tuple #[.agg #[.int .i64 (iK d f m).1,.int .i64 (iK d f m).2],.nilIface]):=by
 obtain⟨K,s,-,-⟩:=bw U;obtain⟨-,-,X,-⟩:=aq K;have g:=CB w x;have C:=Gm w x;have h:=NX w x;have q:=NY w x;obtain⟨W,c⟩:=ar (sz w x);rw[c]at g C h q;unfold sz at c;unfold wayV;have H:=aa g;have I:=aa q;have ab:w.heap.size<W.heap.size:=ω;have r:w.heap.size+1<W.heap.size:=ω;have Q:W.cell? ⟨w.heap.size,1,none⟩=some (.slice x.An x.nd.length x.cn):=by simp[World.cell?,h]
 have x2:W.cell? ⟨w.heap.size,2,none⟩=some (.slice x.As x.nm.length x.cs):=by simp[World.cell?,h]
 have x4:W.cell? ⟨w.heap.size,4,none⟩=some (.slice x.Ag x.sg.length x.cg):=by simp[World.cell?,h]
 have k:=V.later g;have p:=T.later g
 by_cases y:(d.mem m).formula.size=0
 ·obtain⟨-,i,-,j,J⟩:=u.1 y
  have l:=vl d x.Ag x.cg x.ne AC O (x.ne.map f) f W (by rw[j];exact zV (ea _ _) X) (by rw[j];exact FA y) (Sg.of K) rfl (by rw[j];exact t) (by rw[j,←J];exact k.2.2.2.at) p
  have D:x.sg.length=x.ne.length:=by rw[J,j,List.length_map]
  rw[D]at x4 c;have N:partsV d.mem f x.ne=iK d f m:=by rw[j,oH y]
  rw[N]at l;rw[i]at Q c|-;rw[D];simp only[List.length_nil]at Q c|-;obtain⟨⟨Z,rb⟩,b⟩:∃R,iK d f m=R:=⟨_,rfl⟩;have B:=aa b;rw[b]at l;simp only at l;generalize x.ne.length=nl at *;generalize x.nm.length=ml at *;clear b y i j J D N V u k p T t U K s g C h q
  go_enter func71,ntmps71
  go_wp2_with fail;refine l.mono ?_;rintro e w4⟨rfl,a⟩;have A:=aa a;obtain⟨S,i,g0,g1⟩:=ff ((a.block (w.heap.size+1) r).trans I.o);have Y:w.heap.size+1<w4.heap.size:=zW r a.size;clear a l Q x2 x4 c;go_wp2_with fail;refine bodyPost_ret (v:=.tuple #[.agg #[.int .i64 Z,.int .i64 rb],.nilIface]) (by simp[results,results71,go_sem,S,i]) rfl ⟨by rw[B.o],?_⟩
  exact((ad H.o A.o).setCell σ _).setCell σ _
 obtain⟨-,i,P,j,J⟩:=u.2 y;have L:=gt y (s m hm);have E:=eH L;have G:=ry E;obtain⟨v1,v2⟩:=zR K y (s m hm) f t;have M:=(dH E).1;rw[←P]at G;have o:=Gv x.An x.cn x.nd x.As x.cs (x.nm.map vu) AC O (x.ne.map f) W k.1.1 (OD k.2.1.1 G) p;have q1:nP x.nd (x.nm.map vu) (x.ne.map f)=0:=by rw[i,P,j];exact v1
 have q2:sC x.nd (x.nm.map vu) (x.ne.map f)=iK d f m:=by rw[i,P,j];exact v2
 rw[q1,q2,errV_zero,List.length_map,List.length_map]at o;have F:0<(x.nd.length:Int):=by rw[i];omega
 obtain⟨⟨Z,rb⟩,b⟩:∃R,iK d f m=R:=⟨_,rfl⟩;have B:=aa b;rw[b]at o;simp only at o;generalize x.ne.length=xl at *;generalize x.sg.length=sl at *;generalize x.nd.length=nl at *;generalize x.nm.length=ml at *;clear b y i P j J L E G v1 v2 M q1 q2 V u k p T t U K s g C h q;obtain⟨nk,rfl⟩:∃nk,nl=nk+1:=⟨nl-1,ω⟩
 clear F
 go_enter func71,ntmps71
 go_wp2_with fail;refine o.mono ?_;rintro e w4⟨rfl,a⟩;have A:=aa a;obtain⟨S,i,g0,g1⟩:=ff ((a.block (w.heap.size+1) r).trans I.o);have Y:w.heap.size+1<w4.heap.size:=zW r a.size;clear a o Q x2 x4 c;go_wp2_with fail;refine bodyPost_ret (v:=.tuple #[.agg #[.int .i64 Z,.int .i64 rb],.nilIface]) (by simp[results,results71,go_sem,S,i]) rfl ⟨by rw[B.o],?_⟩
 exact((ad H.o A.o).setCell σ _).setCell σ _
noncomputable def xC(d:Dm)(m:Nat):List Int:=if(d.mem m).formula.size=0 then f9 d m else(aP (bK (d.mem m).formula)).map (whL d)
theorem CK{d:Dm}{m:Nat}{x:WL}(h:fJ d m x):x.ne=xC d m:=by
 unfold xC
 by_cases a:(d.mem m).formula.size=0
 ·rw[if_pos a];exact(h.1 a).2.2.2.1
 rw[if_neg a];exact(h.2 a).2.2.2.1
theorem IZ{d:Dm}(j:(bB d).2=0){m:Nat}(i:m<d.n):((xC d m).mergeSort fun x y=>decide (x<=y))=f9 d m:=by
 obtain⟨k,c,-,-⟩:=bw j;unfold xC
 by_cases f:(d.mem m).formula.size=0
 ·rw[if_pos f]
  exact mu _ _ (by
   have g:List.Pairwise (fun a b=>a≠b) ((f9 d m).mergeSort fun x y=>decide (x<=y)):=(List.mergeSort_perm _ _).symm.pairwise ((jT d m).imp fun h=>ω) fun{a b} h e=>h e.symm
   exact((mA _).and g).imp fun h=>ω) (jT d m) fun z=>(List.mergeSort_perm _ _).mem_iff
 rw[if_neg f];exact tM k f (c m i) (gt f (c m i))
theorem xD{d:Dm}(a:(bB d).2=0){m:Nat}(b:m<d.n):(xC d m).Perm (f9 d m):=by
 rw[←IZ a b];exact(List.mergeSort_perm _ _).symm
theorem pp{d:Dm}(a:(bB d).2=0){m:Nat}(b:m<d.n)(z:Int):z∈xC d m↔z∈f9 d m:=(xD a b).mem_iff
section
variable {D:Nat->Dm} {n:Nat}
theorem My(l:(ag D n).2.2=0){x b j:Nat}(c:b<n)(p:x<prodN D n)(o:j<(D b).n):∃y:Nat,(x:Int)+((j:Int)-(x / cE D n b % (D b).n:Nat))*(cE D n b:Int)=y/\y<prodN D n/\ah D n y=(ah D n x).set b j:=by
 obtain⟨-,-,-,m⟩:=ao l;obtain⟨y,d,f,g,k⟩:=BB (D:=D) (n:=n) (dim:=b) (x:=x) (j:=j) (fun i a=>(m i a).1) c p rfl o
 refine⟨y,d,f,?_⟩;apply List.ext_getElem?;intro i
 by_cases a:i<n
 ·rw[List.getElem?_set]
  simp only[fF,c,if_true]
  by_cases e:b=i
  ·subst e
   rw[if_pos rfl];have:cD D n y b=j:=by rw[jc c];exact g
   simp[ah,a,this]
  rw[if_neg e];have:=k i a (fun h=>e h.symm)
  simp[ah,a,this]
 rw[List.getElem?_eq_none (by rw[fF];omega),List.getElem?_eq_none (by rw[List.length_set,fF];omega)]
def jC(D:Nat->Dm)(n x b:Nat)(k:Int):Int:=numI D ((ah D n x).set b k) n
theorem mr(e:(ag D n).2.2=0){x b:Nat}(g:b<n)(h:x<prodN D n){k:Int}(f:0<=k)(i:k<((D b).n:Int)):∃y:Nat,jC D n x b k=(y:Int)/\y<prodN D n/\ah D n y=(ah D n x).set b k/\(x:Int)+(k-(x / cE D n b % (D b).n:Nat))*(cE D n b:Int)=y:=by
 obtain⟨y,c,d,a⟩:=My e g h (j:=k.toNat) ω
 rw[Int.toNat_of_nonneg f]at c a;exact⟨y,by unfold jC;rw[←a];exact nj e d,d,a,c⟩
theorem FH(a:(ag D n).2.2=0){x b:Nat}(c:b<n)(d:x<prodN D n){i k:Int}(l:0<=i)(m:i<((D b).n:Int))(o:0<=k)(p:k<((D b).n:Int))(h:i<k):jC D n x b i<jC D n x b k:=by
 obtain⟨-,-,-,q⟩:=ao a;obtain⟨y,e,-,-,f⟩:=mr a c d l m;obtain⟨z,g,-,-,j⟩:=mr a c d o p;have s:=iW (D:=D) (n:=n) (fun i r=>(q i r).1) c
 rw[e,g,←f,←j];have t:(i-((x / cE D n b % (D b).n:Nat):Int))*(cE D n b:Int)<(k-((x / cE D n b % (D b).n:Nat):Int))*(cE D n b:Int):=Int.mul_lt_mul_of_pos_right ω ω
 omega
noncomputable def ndsX(D:Nat->Dm)(n x:Nat):List Int:=if byTo D (ah D n x) n<0 then[]else(xC (D (byTo D (ah D n x) n).toNat) ((ah D n x).getD (byTo D (ah D n x) n).toNat 0).toNat).map (jC D n x (byTo D (ah D n x) n).toNat)
theorem qH{x:Nat}(h:byTo D (ah D n x) n<0):ndsX D n x=[]:=by unfold ndsX;rw[if_pos h]
theorem qG{x b:Nat}(h:byTo D (ah D n x) n=(b:Int)):ndsX D n x=(xC (D b) ((ah D n x).getD b 0).toNat).map (jC D n x b):=by unfold ndsX;rw[h,if_neg ω,Int.toNat_natCast]
theorem iG(v:eT D n)(t:(ag D n).2.2=0){x:Nat}(E:x<prodN D n):nT D n (ah D n x) ((ndsX D n x).mergeSort fun a b=>decide (a<=b)):=by
 have u:=dp (D:=D) (n:=n) (x:=x) t
 rcases by_in D (ah D n x) n with h|⟨b,h,f⟩
 ·rw[qH ω,List.mergeSort_nil]
  refine⟨List.Pairwise.nil,zU,fun z=>⟨fun F=>absurd F σ,?_⟩⟩
  rintro⟨b,f,-⟩
  omega
 obtain⟨y,A,-,-⟩:=bw (v b f);obtain⟨-,-,j,-⟩:=aq y;have B:=u.lo b f;have C:=u.hi b f;have w:((ah D n x).getD b 0).toNat<(D b).n:=ω;rw[qG h];obtain⟨m,c⟩:=ar (((ah D n x).getD b 0).toNat);rw[c]at w|-;have q:=(xD (v b f) w).map (jC D n x b);have d:=(List.mergeSort_perm ((xC (D b) m).map (jC D n x b)) fun a b=>decide (a<=b)).trans q
 have p:List.Pairwise (fun a b=>a≠b) ((f9 (D b) m).map (jC D n x b)):=by
  rw[List.pairwise_map];refine List.Pairwise.imp_of_mem (R:=fun a b=>a<b) (fun{i k} hi g l e=>?_) (jT (D b) m)
  have r:=fA hi;have s:=fA g;have:=FH t f E r.1 r.2 s.1 s.2 l
  omega
 have o:=d.symm.pairwise p fun{a b} h e=>h e.symm
 refine⟨((mA _).and o).imp fun h=>ω,?_,fun z=>?_⟩
 ·rw[d.length_eq,List.length_map]
  exact zV (ea _ _) j
 rw[d.mem_iff,List.mem_map]
 constructor
 ·rintro⟨k,g,rfl⟩
  exact⟨b,h,k,by rw[c];exact g,rfl⟩
 rintro⟨b',G,k,g,rfl⟩;have:b'=b:=ω;subst this;rw[c]at g;exact⟨k,g,rfl⟩
theorem po(b:eT D n)(a:(ag D n).2.2=0){x:Nat}(c:x<prodN D n):(ndsX D n x).length<=12:=by
 have:=(iG b a c).2.1;rw[List.length_mergeSort]at this;exact this
theorem Bk(i:eT D n)(d:(ag D n).2.2=0){x:Nat}(p:x<prodN D n):∀z∈ndsX D n x,∃y:Nat,z=(y:Int)/\y<prodN D n:=by
 intro z c;have e:=dp (D:=D) (n:=n) (x:=x) d
 rcases by_in D (ah D n x) n with h|⟨b,h,hb⟩
 ·rw[qH ω]at c;cases c
 have m:=e.lo b hb;have o:=e.hi b hb;have l:((ah D n x).getD b 0).toNat<(D b).n:=ω;rw[qG h,List.mem_map]at c;obtain⟨k,j,rfl⟩:=c;have a:=fA ((pp (i b hb) l k).1 j);obtain⟨y,f,g,-⟩:=mr d hb p a.1 a.2;exact⟨y,f,g⟩
noncomputable def rW(D:Nat->Dm)(n:Nat)(L:List (Int×Int))(x:Nat):Int×Int:=if byTo D (ah D n x) n<0 then L.getD x noC else iK (D (byTo D (ah D n x) n).toNat) (fun k=>L.getD (jC D n x (byTo D (ah D n x) n).toNat k).toNat noC) ((ah D n x).getD (byTo D (ah D n x) n).toNat 0).toNat
theorem DQ{L:List (Int×Int)}{x:Nat}(h:byTo D (ah D n x) n<0):rW D n L x=L.getD x noC:=by unfold rW;rw[if_pos h]
theorem M0{L:List (Int×Int)}{x b:Nat}(h:byTo D (ah D n x) n=(b:Int)):rW D n L x=iK (D b) (fun k=>L.getD (jC D n x b k).toNat noC) ((ah D n x).getD b 0).toNat:=by unfold rW;rw[h,if_neg ω,Int.toNat_natCast]
theorem Kp(d:eT D n)(f:(ag D n).2.2=0){aa:List Int->Int×Int}{L:List (Int×Int)}{x:Nat}(t:x<prodN D n)(m:byTo D (ah D n x) n<0->L.getD x noC=aa (ah D n x))(o:∀z∈ndsX D n x,L.getD z.toNat noC=gN D n aa (ah D n z.toNat)):rW D n L x=gN D n aa (ah D n x):=by
 have c:=dp (D:=D) (n:=n) (x:=x) f
 rcases by_in D (ah D n x) n with h|⟨b,h,hb⟩
 ·rw[DQ ω,gL aa ω]
  exact m ω
 obtain⟨q,e,-,-⟩:=bw (d b hb);have r:=c.lo b hb;have s:=c.hi b hb;have i:((ah D n x).getD b 0).toNat<(D b).n:=ω;rw[M0 h,vi d aa c h];refine km q (e _ i) fun k g=>?_
 have a:=fA g;obtain⟨y,j,u,l,-⟩:=mr f hb t a.1 a.2;have p:=o (jC D n x b k) (by rw[qG h,List.mem_map];exact⟨k,(pp (d b hb) i k).2 g,rfl⟩)
 rw[p,j,Int.toNat_natCast,l]
end
end Go.Proofs.YtjfampgnhccodaaGreatDoor
namespace Go.Proofs.YtjfampgnhccodaaGreatDoor
open Tryz Go.ChangeShapes Go.WideShapes Go.ChangeAt Go.RowKit
open Go.Sort (putRow Holds grow holds_putRow)
set_option maxRecDepth 20000
theorem Fd(f:Int->Int)(P:List Int){k:Nat}(h:k<P.length):(P.take (k+1)).map f=(P.take k).map f++[f (P.getD k 0)]:=by
 rw[List.take_succ_eq_append_getElem h,List.map_append,zZ,zX h]
 rfl
theorem IQ(f:Int->Int×Int)(P:List Int){k:Nat}(h:k<P.length):(P.take (k+1)).map f=(P.take k).map f++[f (P.getD k 0)]:=by
 rw[List.take_succ_eq_append_getElem h,List.map_append,zZ,zX h]
 rfl
theorem gn{P:List Int}{k:Nat}(h:k<P.length):P.getD k 0∈P:=by
 rw[zZ,zX h];exact List.getElem_mem h
theorem ng(q g n:Nat)(D:Nat->Dm)(X:Nat->AL)(x:Nat)(w:World)(hR:eT D n)(R:(ag D n).2.2=0)(hx:x<prodN D n)(G:cM w q g n D X):
  Calls prog 69 #[.pointer (some ⟨q,0,none⟩),.int .i64 x] w fun e w'=>(∃v,e=.returned v/\w'.ownsRow w.heap.size 3 1 v (ndsX D n x).length (aA (ndsX D n x)))/\Bl w w':=by
 obtain⟨i0,aP,aZ,a4,a5⟩:=info_parts infoInt;obtain⟨bf,bg,aW,hd⟩:=ao R;have r:=ud q g n D X x w R hx G;have HA:=aa G;obtain⟨hq,q0,q1⟩:=G.cells;have bh:(n:Int)<=4:=ω;have bq:(x:Int)<=3000:=ω;have hP:=dp (D:=D) (n:=n) (x:=x) R
 rcases by_in D (ah D n x) n with h|⟨b,h,hb⟩
 ·have aD:Hid (ndsX D n x=[]):=qH ω
  rw[h]at r;clear G R hR hP h q0 q1
  go_enter func69,ntmps69
  go_wp2_with fail;refine r.mono ?_;rintro e w1⟨rfl,d⟩;have ac:=aa d;clear d r;go_wp2_with fail;go_ret;rw[aD.o];exact⟨⟨_,rfl,World.ownsRow_nil _ _ _ _⟩,ac.o⟩
 obtain⟨K,p⟩:=hd b hb;have aU:=hP.lo b hb;have aV:=hP.hi b hb;obtain⟨m,hm⟩:=ar (x / cE D n b % (D b).n);have aw:((ah D n x).getD b 0).toNat=m:=by rw[p7 hb,hm]
 have E:m<(D b).n:=by rw[←hm];exact Nat.mod_lt _ K
 have B:Hid (ndsX D n x=(xC (D b) m).map (jC D n x b)):=by show _=_;rw[qG h,aw]
 have M:(xC (D b) m).length<=12:=by
  have:=po hR R hx;rw[B.o,List.length_map]at this;exact this
 have l:Hid (∀k∈xC (D b) m,∃j y:Nat,k=(j:Int)/\j<(D b).n/\jC D n x b k=(y:Int)/\y<prodN D n/\(x:Int)+((j:Int)-(m:Int))*(cE D n b:Int)=y):=fun k hk=>by
  have U:=fA ((pp (hR b hb) E k).1 hk);obtain⟨y,e1,e2,-,e4⟩:=mr R hb hx U.1 U.2;rw[hm]at e4;exact⟨k.toNat,y,ω,ω,e1,e2,by rw[Int.toNat_of_nonneg U.1];exact e4⟩
 have al:=iW (D:=D) (n:=n) (fun i hi=>(hd i hi).1) hb
 obtain⟨S,a⟩:=ar (cE D n b);have aC:Hid (∀w',Rt 109 #[.agg #[.int .i64 (D b).solve,.int .i64 S,.slice (X b).A (D b).n (X b).c],.int .i64 x] w' (.int .i64 m)):=fun w'=>ol (D b) S (X b) x m w' (by rw[←a];exact al) K p ω (by rw[←a];exact hm)
 have Q:Hid (∀w',Bl w w'->Rt 70 #[.agg #[.int .i64 (D b).solve,.int .i64 S,.slice (X b).A (D b).n (X b).c],.int .i64 x] w' (wayV ((X b).xs.getD m eS))):=fun w' hB=>vp (D b) S (X b) x m w' (by rw[←a];exact al) K p ω (by rw[←a];exact hm) ((G.later hB).2.one hb).2.2
 have J:Hid (∀w',Bl w w'->aJ w' ((X b).xs.getD m eS).Ai ((X b).xs.getD m eS).ci (xC (D b) m)):=fun w' hB=>by
  obtain⟨-,-,o⟩:=(G.later hB).2.one hb;obtain⟨-,-,-,-,-,aK⟩:=o.way E;have:=aK.2.2.1;rw[CK (o.2.2 m E)]at this;exact this
 have s:∀w',(Instr.field 149 (wayV ((X b).xs.getD m eS)) 3).run prog w'=.ok (.slice ((X b).xs.getD m eS).Ai (xC (D b) m).length ((X b).xs.getD m eS).ci) w':=fun w'=>by
  obtain⟨-,-,o⟩:=G.2.one hb;rw[zQ,CK (o.2.2 m E)]
 have az:Hid (∀w',Bl w w'->q<w'.heap.size/\g<w'.heap.size/\w'.cell? ⟨q,0,none⟩=some (.slice (some ⟨g,0,none⟩) n n)/\w'.cell? ⟨g,b*3,none⟩=some (.int .i64 (D b).solve)/\w'.cell? ⟨g,b*3+1,none⟩=some (.int .i64 S)/\w'.cell? ⟨g,b*3+2,none⟩=some (.slice (X b).A (D b).n (X b).c)):=fun w' hB=>by
  obtain⟨a1,a2,-⟩:=(G.later hB).cells;obtain⟨hg,⟨c0,c1,c2⟩,-⟩:=(G.later hB).2.one hb;rw[a]at c1;exact⟨a1,hg,a2,c0,c1,c2⟩
 obtain⟨P,aj⟩:=ar (xC (D b) m);obtain⟨f,hf⟩:=ar (jC D n x b);obtain⟨z,hz⟩:=ar ((X b).xs.getD m eS);rw[aj]at B M l J s;rw[hf]at B l;rw[hz]at Q J s;rw[a]at l;obtain⟨N,hN⟩:=ar P.length;have HN:=aa hN;rw[hN]at M s;have a7:(N:Int)<=12:=ω;have ba:(b:Int)<(n:Int):=ω;have a9:((b:Int) == -1)=false:=by simp
 have be:(m:Int)<12:=ω;have aH:=aa aW;have aB:=aa p;rw[h]at r;obtain⟨ai,am⟩:=ar z.Ai;obtain⟨ci,au⟩:=ar z.ci;rw[am,au]at J s;generalize wayV z=wv at s Q;clear G R hR hP h aU aV hm aw E a aj hf hz hN hd q0 q1 p K am au
 go_enter func69,ntmps69
 go_wp2_with fail;refine r.mono ?_;rintro e w1⟨rfl,d⟩;have ac:=aa d;obtain⟨bj,bb,a0,a1,a2,a3⟩:=az.o w1 d;obtain⟨v,hv⟩:=ar (w1.alloc (.cells #[.int .i64 (D b).solve,.int .i64 S,.slice (X b).A (D b).n (X b).c] 133));have u:v.heap[w1.heap.size]?=some (.cells #[.int .i64 (D b).solve,.int .i64 S,.slice (X b).A (D b).n (X b).c] 133 (0,0)):=by rw[←hv];exact heap_alloc_new ..
 have aG:=aa u;have ae:Bl w1 v:=by rw[←hv];go_grown
 have O:=aa (ad d ae);have v0:v.cell? ⟨w1.heap.size,0,none⟩=some (.int .i64 (D b).solve):=by simp[World.cell?,u]
 have v1:v.cell? ⟨w1.heap.size,1,none⟩=some (.int .i64 S):=by simp[World.cell?,u]
 have v2:v.cell? ⟨w1.heap.size,2,none⟩=some (.slice (X b).A (D b).n (X b).c):=by simp[World.cell?,u]
 have aX:w1.heap.size<v.heap.size:=(zY u).1;have ax:=Q.o v O.o;clear d r u ae;go_wp2_with fail;refine ax.mono ?_;rintro e w2⟨rfl,an⟩;have H:=aa an;clear an ax v0 v1 v2 hv a0 a1 a2 a3;go_wp2_with fail;clear s
 go_loopg [7,27] N (fun gg s7 a6 wr =>∃(k:Nat) (AO:Option Addr) (cO:Nat),k<=N/\gg=N-k/\a6=.int .i64 k/\s7=.slice AO k cO/\Hid (wr.ownsRow w2.heap.size 3 1 (.slice AO k cO) k (aA ((P.take k).map f)))/\Hid (Bl w2 wr))
 case atStart=>exact⟨0,none,0,zU,rfl,rfl,rfl,World.ownsRow_nil _ _ _ _,zS⟩
 case round =>
  obtain⟨k,AO,cO,hk,rfl,rfl,rfl,HO,I⟩:=hrel;have L:=aa (ad O.o (ad H.o I.o))
  by_cases aS:k<N
  ·have bd:(k:Int)<(N:Int):=ω;have V:k<P.length:=by rw[HN.o];exact aS
   obtain⟨j,y,hj,aQ,hy,aY,Z⟩:=l.o _ (gn V);obtain⟨aN,-,h0|⟨bi,cs,fr,aI,aq,av⟩⟩:=J.o wr L.o
   ·have:=HN.o;rw[h0]at this;simp at this;omega
   have cx:=av k V;have aM:bi<wr.heap.size:=(zY aq).1;rw[HN.o]at aN;rw[hj]at cx;have aO:(N:Int)<=(ci:Int):=ω;have aE:Hid ((P.take (k+1)).map f=(P.take k).map f++[(y:Int)]):=by show _=_;rw[Fd f P V,hy]
   have br:(y:Int)<=3000:=by have:=aH.o;omega
   obtain⟨t1,W⟩:∃t:Int,(j:Int)-(m:Int)=t:=⟨_,rfl⟩;obtain⟨t2,Y⟩:∃t:Int,t1*(S:Int)=t:=⟨_,rfl⟩;rw[W,Y]at Z;have bc:(j:Int)<=3000:=by have:=aB.o;omega
   have bn:IntKind.i64.wrap ((j:Int)-(m:Int))=t1:=by rw[W];exact IntWalk.i64_in _ ω
   have bo:IntKind.i64.wrap (t1*(S:Int))=t2:=by rw[Y];exact IntWalk.i64_in _ ω
   have bp:IntKind.i64.wrap ((x:Int)+t2)=(y:Int):=by rw[Z];exact IntWalk.i64_in _ ω
   have HC:Hid (∀w',Bl wr w'->w'.cell? ⟨w1.heap.size,0,none⟩=some (.int .i64 (D b).solve)/\w'.cell? ⟨w1.heap.size,1,none⟩=some (.int .i64 S)/\w'.cell? ⟨w1.heap.size,2,none⟩=some (.slice (X b).A (D b).n (X b).c)):=fun w' h=>by
    have T:=((ad H.o (ad I.o h)).block w1.heap.size aX).trans aG.o;exact⟨by simp[World.cell?,T],by simp[World.cell?,T],by simp[World.cell?,T]⟩
   obtain⟨p0,p1,p2⟩:=HC.o wr zS;have bl:=I.o.size;have bm:=H.o.size;have a8:w1.heap.size<wr.heap.size:=ω;have ab:Hid (∀(w4 w6:World) (o':Obj) (A6:Option Addr) (c6:Nat),Bl wr w4->w6.ownsRow w2.heap.size 3 1 (.slice A6 (k+1) c6) (k+1) (aA ((P.take k).map f)++[.int .i64 (y:Int)])->(w4.alloc o').grownBy w6 (Value.slice AO k cO).ownBlock->Hid (w6.ownsRow w2.heap.size 3 1 (.slice A6 (k+1) c6) (k+1) (aA ((P.take (k+1)).map f)))/\Hid (Bl w2 w6)):=fun w4 w6 o' A6 c6 h4 h6 hg=>by
    refine⟨?_,dk (ad I.o h4) (ak HO.o h4) hg⟩
    show World.ownsRow ..
    rw[aE.o,mapI_snoc];exact h6
   clear av aq hj hy Z W Y aY aQ;subst aI;go_wp2_with fail
   go_region_law ((first
    |(refine step_append_lies _ (by rfl) _ _ _ (by rfl) w2.heap.size 3 i0 _ 1 8 underlying42 aP aZ a4 a5 rfl ω (.slice AO k cO) k (aA ((P.take k).map f)) (by rfl) (ak HO.o γ) ⟨w4.heap.size,0,none⟩ 1 1 [.int .i64 y] (by rfl) (by rfl) (World.news_of_block (cs:=#[.int .i64 y]) (t:=3) (fr:=(0,0)) (heap_alloc_new w4 _)) (by simp[Value.oneCell']) ω (by unfold maxLen;omega) ω (by simp;omega) (w4.heap.size+1) σ ?_;intro gg cg w6 F C aL aT)
    |(go_simp;refine(aC.o _).mono ?_;rintro e w4⟨rfl,ap⟩;have af:=ad (W0:=wr) γ ap;have bk:=af.size;obtain⟨x0,x1,x2⟩:=HC.o _ af;clear ap)))
   all_goals (obtain⟨aF,ay⟩:=ab.o _ _ _ _ _ γ F C)
   all_goals clear F C aL
   all_goals go_wp2_with fail
   all_goals go_roundg (N-(k+1))
   all_goals first|omega|exact⟨k+1,_,_,ω,rfl,by go_num,rfl,aF,ay⟩
  have aR:k=N:=ω;subst aR;have HF:Hid (wr.ownsRow w.heap.size 3 1 (.slice AO k cO) (ndsX D n x).length (aA (ndsX D n x))):=by
   have h:=HO.o;rw[List.take_of_length_le (by rw[HN.o];exact zT),←B.o]at h
   have hl:(ndsX D n x).length=k:=by rw[B.o,List.length_map];exact HN.o
   show World.ownsRow ..
   rw[hl];exact mi h (by have:=H.o.size;have:=O.o.size;omega)
  go_wp2_with fail;go_ret;exact⟨⟨_,rfl,HF.o⟩,L.o⟩
theorem BI(q g n:Nat)(D:Nat->Dm)(X:Nat->AL)(x:Nat)(w:World)(E:eT D n)(t:(ag D n).2.2=0)(H:x<prodN D n)(P:cM w q g n D X):
  Calls prog 107 #[.pointer (some ⟨q,0,none⟩),.int .i64 x] w fun e w'=>(∃A' O T,e=.returned (.tuple #[.slice A' T.length O,.nilIface])/\aJ w' A' O T/\nT D n (ah D n x) T/\(∀z,z∈T↔z∈ndsX D n x)/\∀a,A'=some a->w.heap.size<=a.block)/\Bl w w':=by
 obtain⟨ad,ae,Y,hd⟩:=ao t;obtain⟨hq,q0,q1⟩:=P.cells;have l:=ng q g n D X x w E t H P;have C:=aa (iG E t H);have j:Hid (∀z,z∈((ndsX D n x).mergeSort fun a b=>decide (a<=b))↔z∈ndsX D n x):=fun z=>(List.mergeSort_perm _ _).mem_iff
 have hl:=po E t H;obtain⟨N,Z⟩:=ar (prodN D n);rw[Z]at q1 H Y;have ai:(x:Int)<(N:Int):=ω;have ac:(N:Int)<=3000:=ω;obtain⟨zs,B⟩:=ar (ndsX D n x);rw[B]at l C hl j|-;obtain⟨k,G⟩:=ar zs.length;have K:=aa G;have i:Hid ((zs.mergeSort fun a b=>decide (a<=b)).length=k):=by show _=_;rw[List.length_mergeSort];exact G
 rw[G]at l hl;clear B t E P hd Z G
 go_enter func107,ntmps107
 go_wp2_with fail;refine l.mono ?_;rintro e w1⟨⟨v,rfl,u⟩,A⟩;have p:=aa A;clear A l q0 q1
 by_cases hz:v=.slice none 0 0
 ·subst hz
  have W:k=0:=by
   rcases u.2 with⟨_,h⟩|⟨g,c,f,h,_⟩
   ·exact h
   cases h
  subst W;have d:=Any.slices_Sort_int_none lays189 none 0 w1;have M:Hid ((zs.mergeSort fun a b=>decide (a<=b))=[]):=List.eq_nil_of_length_eq_zero i.o
  clear u;go_wp2_with fail;refine Calls.mono d ?_;rintro e w4⟨rfl,rfl⟩;go_wp2_with fail;go_returns;refine⟨⟨none,0,(zs.mergeSort fun a b=>decide (a<=b)),by rw[i.o];rfl,by rw[M.o];exact aJ.nil _ _ _ ω,C.o,j.o,fun a R=>(by cases R)⟩,p.o⟩
 obtain⟨gg,c,hv,U,V,af,S,-,Q⟩:=Lib.holds_of_ownsRow (enc:=Value.int .i64) (zs:=zs) u hz;subst hv;obtain⟨f,F⟩:∃f:Array Value,w1.heap[gg]?=some (.cells f 3 (0,0)):=by
  rcases u.2 with⟨h,_⟩|⟨g',O,f,h,_,F,_⟩
  ·cases h
  cases h;exact⟨f,F⟩
 have d:=Any.slices_Sort_int lays189 gg 0 c zs w1 Q V (by have:=K.o;omega)
 rw[K.o]at d;have s:Hid (∀m os,aJ (grow (putRow (Value.int .i64) (Sort.ahead w1 m) gg 0 (zs.mergeSort fun x y=>decide (x<=y)).toArray) os) (some ⟨gg,0,none⟩) c (zs.mergeSort fun x y=>decide (x<=y))):=fun m os=>oO F Q (by rw[List.length_mergeSort]) (by have:=K.o;omega) (by unfold maxLen at S;omega)
 have r:Hid (∀m os,Bl w (grow (putRow (Value.int .i64) (Sort.ahead w1 m) gg 0 (zs.mergeSort fun x y=>decide (x<=y)).toArray) os)):=fun m os=>ip p.o ω
 generalize ab:(zs.mergeSort fun x y=>decide (x<=y))=ys at d s r C j i
 clear u Q F ab;go_wp2_with fail;refine Calls.mono d ?_;rintro e w4⟨rfl,m,os,o⟩;have L:Hid (aJ w4 (some ⟨gg,0,none⟩) c ys):=by rw[o];exact s.o m os
 have I:Hid (Bl w w4):=by rw[o];exact r.o m os
 have J:=aa U;clear o d;go_wp2_with fail;go_returns;exact⟨⟨_,c,ys,by rw[i.o];rfl,L.o,C.o,j.o,fun a R=>(by cases R;exact J.o)⟩,I.o⟩
end Go.Proofs.YtjfampgnhccodaaGreatDoor
namespace Go.Proofs.YtjfampgnhccodaaGreatDoor
open Tryz Go Go.ChangeShapes Go.WideShapes Go.ChangeAt Go.RowKit
set_option maxRecDepth 100000
theorem ww(s:ByteArray)(aa:Nat)(h:aa<s.size)(D:128<=(s[aa]'h).toNat):128<=(Utf8.decode s aa).1/\(Utf8.decode s aa).1<=2147483647/\1<=(Utf8.decode s aa).2/\aa+(Utf8.decode s aa).2<=s.size/\∀j,j<(Utf8.decode s aa).2->128<=(s.get! (aa+j)).toNat:=by
 have e:(s.get! aa).toNat=(s[aa]'h).toNat:=by
  congr 1
  simp[ByteArray.get!,getElem!_pos,h]
  rfl
 have g:=decode_le s aa;rw[Lib.decode_at]at g|-;have k:=(s.get! aa).toNat_lt;have l:=(s.get! (aa+1)).toNat_lt;have n:=(s.get! (aa+2)).toNat_lt;have o:=(s.get! (aa+3)).toNat_lt;have r:∃m,aa+m=s.size/\1<=m:=⟨s.size-aa,ω,ω⟩
 obtain⟨m,E,q⟩:=r;have f:128<=(s.get! aa).toNat:=ω;have i:∀a b c d:Nat,128<=a->a<256->b<256->c<256->d<256->128<=(Lib.decodeN m a b c d).1/\1<=(Lib.decodeN m a b c d).2/\(Lib.decodeN m a b c d).2<=m/\(Lib.decodeN m a b c d).2<=4/\(1<(Lib.decodeN m a b c d).2->128<=b)/\(2<(Lib.decodeN m a b c d).2->128<=c)/\(3<(Lib.decodeN m a b c d).2->128<=d):=by
  intro a b c d y z A B C;unfold Lib.decodeN;rw[if_neg ω]
  repeat' split
  all_goals (refine⟨?_,?_,?_,?_,?_,?_,?_⟩ <;>simp only<;>omega)
 obtain⟨t,u,F,G,v,w,x⟩:=i _ _ _ _ f k l n o;rw[show s.size-aa=m by omega]at g|-
 refine⟨t,g,u,ω,fun j p=>?_⟩
 rcases j with _|_|_|_|j
 ·exact f
 ·exact v p
 ·exact w ω
 ·exact x ω
 omega
def eqDot:ByteArray:=⟨#[61,46]⟩
theorem lk(r:Int)(w:World)(f:128<=r):Calls prog 320 #[.int .i32 r] w fun e w'=>e=.returned (.bool (Utf8.valid r))/\w'=w:=by
 rw[validRune_eq];unfold validRune
 by_cases b:r<55296
 ·rw[decide_eq_true (Or.inl ⟨ω,b⟩)]
  have c0:(0:Int)<=r:=ω;go_enter func320,ntmps320
  go_wp2_with fail;go_ret;exact⟨rfl,rfl⟩
 by_cases a:57343<r/\r<=1114111
 ·rw[decide_eq_true (Or.inr a)]
  obtain⟨c,d⟩:=a;have c0:(0:Int)<=r:=ω;go_enter func320,ntmps320
  go_wp2_with fail;go_ret;exact⟨rfl,rfl⟩
 rw[decide_eq_false ω]
 have c0:(0:Int)<=r:=ω;by_cases c:57343<r
 ·have d :¬r<=1114111:=ω;clear a
  go_enter func320,ntmps320
  go_wp2_with fail;go_ret;exact⟨rfl,rfl⟩
 clear a
 go_enter func320,ntmps320
 go_wp2_with fail;go_ret;exact⟨rfl,rfl⟩
theorem Cp(w:World):Rt 294 #[.string eqDot,.int .i32 65533] w (.int .i64 (-1)):=by
 unfold eqDot
 go_enter func294,ntmps294
 go_wp2_with fail
 go_loopg [5,6] 2 (fun g _ _ wx =>∃i:Nat,i+g=2/\wx=w.iter ⟨#[61,46]⟩ i)
 case atStart=>exact⟨0,ω,rfl⟩
 case round =>
  obtain⟨i,c,rfl⟩:=hrel;cases gk with
  |zero =>
   obtain rfl:i=2:=ω;have a:=run_next_end (P:=prog) w ⟨#[61,46]⟩ 2;go_wp2_with fail;go_ret;exact⟨rfl,(zS).alloc zT _⟩
  |succ g =>
   rcases i with _|_|i
   ·have a:=fun ty=>run_next_ascii (P:=prog) w ⟨#[61,46]⟩ 0 ty (by decide) (by decide)
    have b:(((⟨#[61,46]⟩:ByteArray)[0]'(by decide)).toNat:Int)=61:=by rfl
    rw[b]at a;go_wp2_with fail
    go_roundg g
    case measure=>omega
    case rel=>exact⟨1,ω,rfl⟩
   ·have a:=fun ty=>run_next_ascii (P:=prog) w ⟨#[61,46]⟩ 1 ty (by decide) (by decide)
    have b:(((⟨#[61,46]⟩:ByteArray)[1]'(by decide)).toNat:Int)=46:=by rfl
    rw[b]at a;go_wp2_with fail
    go_roundg g
    case measure=>omega
    case rel=>exact⟨2,ω,rfl⟩
   omega
theorem Ch(S:ByteArray)(b:S.size=2)(c:Int)(w:World):Calls prog 242 #[.string (S.extract 2 S.size),.int .u8 c] w fun e w'=>e=.returned (.int .i64 (-1))/\w'=w:=by
 have h:=Any.strings_IndexByte lays137 (S.extract 2 S.size) c w;have a:(S.extract 2 S.size).data.toList=[]:=List.length_eq_zero_iff.1 (by rw[←Lib.size_eq,ByteArray.size_extract];omega)
 rw[a]at h;exact h
theorem Cq(S:ByteArray)(b:S.size=2)(a:S[1]' ω =46)(r:Int)(E:ByteArray)(w:World)(l:128<=r)(v:(r == 65533)=false)(f:Utf8.valid r=true)(c:Utf8.encode r=E)(o:E.size=2)(m:128<=(E[1]' ω).toNat):Rt 294 #[.string S,.int .i32 r] w (.int .i64 (-1)):=by
 have d:=lk r w l;rw[f]at d;have h:=aa (Ch S b);have c0 :¬r<128:=ω;have c1:(0:Int)<=r:=ω;have c2:(E.size:Int)=2:=ω;have c3:1<E.size:=ω;have j:(S.size:Int)=2:=ω;have k:1<S.size:=ω;have t:((S[1]'k).toNat:Int)=46:=by rw[a];rfl
 have i:((46:Int) ==((E[1]'c3).toNat:Int))=false:=by rw[beq_eq_false_iff_ne];omega
 have s:((46:Int) !=((E[1]'c3).toNat:Int))=true:=by simp only[bne,i];rfl
 clear f o m b a
 go_enter func294,ntmps294
 go_wp2_with fail;refine d.mono ?_;rintro e w1⟨rfl,rfl⟩;go_wp2_with fail;have n:∀w:World,(convert 21 9 (.int .i32 r)).run prog w=.ok (.string E) w:=fun w=>by rw[←c];exact run_convert_int_string w 21 9 .i32 r κ κ
 clear c;apply wp_scope_straight;go_wp2_with fail
 go_loopg [9] 0 (fun g s9 wr=>s9=.int .i64 1/\wr=w1)
 case atStart=>exact⟨rfl,rfl⟩
 case round =>
  obtain⟨rfl,rfl⟩:=hrel;go_wp2_with fail;apply wp_scope_straight;go_wp2_with fail
  go_quiet (fail)
  go_wp2_with fail;have p:IntKind.i64.wrap 2=2:=by decide
  have q:IntKind.i64.wrap ((1:Int)+1)=2:=by decide
  have u:(2:Int)<=(S.size:Int):=ω;clear j
  go_region_law ((go_simp;refine(h.o _ _).mono ?_;rintro e w6⟨rfl,rfl⟩))
  all_goals
   go_wp2_with fail;simp only[Exit.noGoto_ret,Exit.then,Exit.inBlock]
   go_ret;exact⟨rfl,aj zS _⟩
theorem yI(S:ByteArray)(h:S.size=2)(r:Int)(E:ByteArray)(w:World)(f:128<=r)(o:(r == 65533)=false)(d:Utf8.valid r=true)(b:Utf8.encode r=E)(k:3<=E.size)(a:E.size<=4):Rt 294 #[.string S,.int .i32 r] w (.int .i64 (-1)):=by
 have c:=lk r w f;rw[d]at c;have c0 :¬r<128:=ω;have c1:(0:Int)<=r:=ω;obtain⟨l,j⟩:∃l:Nat,E.size=l+1:=⟨E.size-1,ω⟩
 have c2:(E.size:Int)=(l:Int)+1:=ω;have c3 :¬(l:Int)<2:=ω;have n:(S.size:Int)=2:=ω;have m:(l:Int)<=3:=ω;clear d k a h j
 go_enter func294,ntmps294
 go_wp2_with fail;refine c.mono ?_;rintro e w1⟨rfl,rfl⟩;go_wp2_with fail;have i:∀w:World,(convert 21 9 (.int .i32 r)).run prog w=.ok (.string E) w:=fun w=>by rw[←b];exact run_convert_int_string w 21 9 .i32 r κ κ
 clear b;apply wp_scope_straight;go_wp2_with fail
 go_loopg [9] 0 (fun g s9 wr=>s9=.int .i64 (l:Nat)/\wr=w1)
 case atStart=>exact⟨by go_num,rfl⟩
 case round =>
  obtain⟨rfl,rfl⟩:=hrel;go_wp2_with fail;simp only[Exit.noGoto_ret,Exit.inBlock];go_ret;exact⟨rfl,zS⟩
theorem Co(S:ByteArray)(r:Int)(w:World)(c:128<=r)(d:(r == 65533)=false)(b:Utf8.valid r=false):Rt 294 #[.string S,.int .i32 r] w (.int .i64 (-1)):=by
 have a:=lk r w c;rw[b]at a;have c0 :¬r<128:=ω;have c1:(0:Int)<=r:=ω;clear b
 go_enter func294,ntmps294
 go_wp2_with fail;refine a.mono ?_;rintro e w1⟨rfl,rfl⟩;go_wp2_with fail;go_ret;exact⟨rfl,zS⟩
theorem Cn(r:Int)(w:World)(a:128<=r):Rt 294 #[.string eqDot,.int .i32 r] w (.int .i64 (-1)):=by
 by_cases e:r=65533
 ·subst e;exact Cp w
 have c:(r == 65533)=false:=by simpa using e
 by_cases b:Utf8.valid r=true
 ·obtain⟨h,f,g⟩:=encode_facts r b a
  by_cases d:(Utf8.encode r).size=2
  ·refine Cq eqDot rfl rfl r _ w a c b rfl d ?_
   have:=g ω
   simpa only[d]using this
  exact yI eqDot rfl r _ w a c b rfl ω f
 exact Co eqDot r w a c (by simpa using b)
theorem lA{N k:Nat}{a w:World}(h:Below N a w)(c:N<=k)(s:ByteArray)(p:Nat):Below N a (w.iterAt k s p):=
 h.trans ⟨rfl,rfl,rfl,by simp[World.iterAt],fun i b=>by simp[World.iterAt,Array.getElem?_setIfInBounds];intro e;omega⟩
def ul:List UInt8:=[61,46]
theorem Bn{s:ByteArray}{i n:Nat}(h:Lib.NoAny s.data.toList ul i)(p:i+n<=s.size)(m:∀j,j<n->128<=(s.get! (i+j)).toNat):Lib.NoAny s.data.toList ul (i+n):=by
 intro j b o a
 by_cases d:j<i
 ·exact h j b d a
 have c:=m (j-i) ω
 rw[show i+(j-i)=j by omega]at c
 have f:j<s.size:=ω;have g:s.get! j=b:=by
  have:s.data.toList[j]?=some s[j]:=by rw[zX (by simpa using f)];rfl
  rw[this]at a;rw[←Option.some.inj a]
  simp[ByteArray.get!,getElem!_pos,f]
  rfl
 rw[g]at c;have k:b≠61:=fun e=>by subst e;exact absurd c (by decide)
 have l:b≠46:=fun e=>by subst e;exact absurd c (by decide)
 simp[ul,k,l]
theorem vh(s:ByteArray)(w:World)(h8:s.size<=8):Rt 273 #[.string s,.string eqDot] w (.int .i64 (Lib.indexAny s.data.toList ul)):=by
 have R:∀(n:Int) (w:World),Calls prog 295 #[.int .i64 n] w fun e w'=>e=.returned (.bool (decide (8<n)))/\w'=w:=fun n w=>Any.strings_shouldUseASCIISet lays226 n w
 have M:=R s.size;have z:decide ((8:Int)<(s.size:Int))=false:=decide_eq_false ω
 rw[z]at M;have Q:∀(x:UInt8) (w:World),x.toNat<128->Calls prog 294 #[.string eqDot,.int .i32 x.toNat] w fun e w'=>e=.returned (.int .i64 (Lib.indexByte ul x))/\w'=w:=fun x w q=>by
  have h:=Any.strings_IndexRune_ascii lays152 eqDot x.toNat w ω ω
  have r:((x.toNat:Int)).toNat.toUInt8=x:=by simp
  rw[r]at h;exact h
 have N:=aa Q;have O:=aa Cn;have U:eqDot.toList.isEmpty=false:=by rw[ByteArray.toList_eq];rfl
 have V:(eqDot.size:Int)=2:=rfl;obtain⟨Z,B⟩:=ar eqDot;rw[B]at U V N O|-;clear Q R z B
 go_enter func273,ntmps273
 go_wp2_with fail;refine(M _).mono ?_;rintro e w1⟨rfl,rfl⟩;go_wp2_with fail;clear M
 go_loopg [9,10] s.size (fun g _ _ wx =>∃i:Nat,i<=s.size/\g=s.size-i/\wx.heap[w1.heap.size]?=some (.stringIter s i)/\Hid (Bl w1 wx)/\Hid (Lib.NoAny s.data.toList ul i))
 case atStart=>exact⟨0,zU,rfl,World.iter_heap _ _ _,aa ((zS).alloc zT _),aa (Lib.NoAny.zero _ _)⟩
 case round =>
  obtain⟨i,hi,rfl,m,F,E⟩:=hrel
  by_cases k:i<s.size
  ·obtain⟨x,q⟩:∃x:UInt8,s[i]'k=x:=⟨_,rfl⟩
   have l:s.data.toList[i]?=some x:=by rw[←q];exact Lib.data_getElem? s i k
   have T:=aa l;have Y:=(zY m).1
   by_cases b:x.toNat<128
   ·have c:=fun ty=>Lib.run_next_ascii_at (P:=prog) wr w1.heap.size s i ty m k (by rw[q];exact b)
    rw[q]at c;have y:=fun w=>N.o x w b
    have j:=Lib.iterAt_heap wr w1.heap.size s i (i+1) m;have f:=aa (lA F.o zT s (i+1));generalize wr.iterAt w1.heap.size s (i+1)=wx at c j f;have a:=Lib.contains_iff_indexByte ul x;cases hin:ul.contains x
    ·rw[hin]at a
     have v :¬((0:Int)<=Lib.indexByte ul x):=of_decide_eq_false a.symm;have I:=aa hin;generalize Lib.indexByte ul x=o at y v;clear a l b m q hin;go_wp2_with fail;refine(y _).mono ?_;rintro e w2⟨rfl,rfl⟩;go_wp2_with fail
     go_roundg (s.size-(i+1))
     case measure=>omega
     case rel=>exact⟨i+1,ω,rfl,j,f,aa (E.o.succ T.o I.o)⟩
    rw[hin]at a;have v:(0:Int)<=Lib.indexByte ul x:=of_decide_eq_true a.symm;have H:=aa (Lib.indexAny_hit E.o l hin);generalize Lib.indexByte ul x=o at y v;clear a l b m q hin;go_wp2_with fail;refine(y _).mono ?_;rintro e w2⟨rfl,rfl⟩;go_wp2_with fail;go_ret;exact⟨by rw[H.o];rfl,f.o⟩
   have S:=ww s i k (by rw[q];omega)
   have c:=fun ty=>Lib.run_next_any_at (P:=prog) wr w1.heap.size s i ty m k
   generalize Utf8.decode s i=dd at S c;obtain⟨d,n⟩:=dd;obtain⟨C,D,K,t,u⟩:=S;simp only at C D K t u c;have y:=fun w=>O.o (d:Int) w ω
   have j:=Lib.iterAt_heap wr w1.heap.size s i (i+n) m;have f:=aa (lA F.o zT s (i+n));have p:w1.heap.size<(wr.iterAt w1.heap.size s (i+n)).heap.size:=(zY j).1;generalize wr.iterAt w1.heap.size s (i+n)=wx at c j f p;have J:=aa (Bn E.o t u);have W:(d:Int)<=2147483647:=ω;clear l m q u C D;go_wp2_with fail;refine(y _).mono ?_;rintro e w2⟨rfl,A⟩;have L:=(A.block w1.heap.size p).trans j;have G:=aa (f.o.trans (A.mono ω))
   go_wp2_with fail
   go_roundg (s.size-(i+n))
   case measure=>omega
   case rel=>exact⟨i+n,t,rfl,L,G,J⟩
  have X:i=s.size:=ω;subst X;have c:=fun ty=>Lib.run_next_end_at (P:=prog) wr w1.heap.size s s.size ty m k
  have H:=aa (Lib.indexAny_none (by rw[←Lib.size_eq];exact E.o))
  go_wp2_with fail;go_ret;exact⟨by rw[H.o];rfl,F.o⟩
theorem tO:(prog.info? 328).map (fun i=>(i.zero,i.size))=some (some (.agg (Array.replicate 256 (.bool false))),256):=by kernel_rfl
theorem Ci(s:ByteArray)(w:World)(g:s.size<=1048576):Rt 273 #[.string s,.string eqDot] w (.int .i64 (Lib.indexAny s.data.toList ul)):=by
 by_cases f:s.size<=8
 ·exact vh s w f
 refine(Any.strings_IndexAny_long lays153 (zero_of_info tO).1 (zero_of_info tO).2 s eqDot w (by decide) ω ω (by decide) ?_).mono fun e w' ⟨c,d⟩=>⟨c,?_⟩
 ·intro j b a
  rcases j with _|_|j
  ·have:b=61:=(Option.some.inj a).symm
   subst this;decide
  ·have:b=46:=(Option.some.inj a).symm
   subst this;decide
  cases a
 rw[d];exact((zS).alloc zT _).alloc σ _
theorem qr:∀l:List UInt8,decide (0<=Lib.indexAny l ul)=l.any badW
 | []=>rfl
 |b :: l=>by
  have d:=qr l;have c:=Lib.indexAny_ge ul l;rw[Lib.indexAny,List.any_cons,←d];have a:ul.contains b=badW b:=by
   simp only[ul,badW,List.contains_cons,List.contains_nil,Bool.or_false]
  rw[a];cases badW b with
  |true=>rfl
  |false =>
   simp only[Bool.false_or,Bool.false_eq_true,if_false]
   by_cases h:Lib.indexAny l ul = -1
   ·rw[h];rfl
   rw[if_neg (by simpa using h)]
   rw[decide_eq_true ω,decide_eq_true ω]
theorem sy(s:ByteArray)(w:World)(b:s.size<=1048576):Rt 233 #[.string s,.string eqDot] w (.bool (s.data.toList.any badW)):=by
 have h:=Ci s w b;rw[←qr];generalize Lib.indexAny s.data.toList ul=o at h;generalize eqDot=ch at h
 by_cases c:0<=o
 ·rw[decide_eq_true c]
  clear b
  go_enter func233,ntmps233
  go_wp2_with fail;refine h.mono ?_;rintro e w1⟨rfl,a⟩;go_wp2_with fail;go_ret;exact⟨by rfl,a⟩
 clear b
 go_enter func233,ntmps233
 go_wp2_with fail;refine h.mono ?_;rintro e w1⟨rfl,a⟩;go_wp2_with fail;go_ret;exact⟨by rfl,a⟩
theorem tL(s:ByteArray)(w:World)(a:s.size<=1048576):Rt 174 #[.string s] w (.bool (nmW s)):=by
 have h:=sy s w a;unfold eqDot at h;unfold nmW;cases he:s.data.toList.isEmpty with
 |true =>
  have g:s.toList=[]:=by rw[ByteArray.toList_eq];simpa using he
  simp only[Bool.not_true,Bool.and_false];clear a h he
  go_enter func174,ntmps174
  go_wp2_with fail;go_ret;exact⟨rfl,zS⟩
 |false =>
  have g:s.toList.isEmpty=false:=by rw[ByteArray.toList_eq];exact he
  generalize s.data.toList.any badW=b at h;simp only[Bool.not_false,Bool.and_true];clear a he;cases b
  all_goals
   go_enter func174,ntmps174
   go_wp2_with fail;refine h.mono ?_;rintro e w1⟨rfl,c⟩;go_wp2_with fail;go_ret;exact⟨rfl,c⟩
theorem n9:∀l:List UInt8,Lib.contains (46 :: (l++[46])) [46,46]=(cutB 46 l).any List.isEmpty/\Lib.contains (l++[46]) [46,46]=(cutB 46 l).tail.any List.isEmpty
 | []=>⟨by decide,by decide⟩
 |x :: t=>by
  obtain⟨ab,aa⟩:=n9 t;have step:∀(a b:UInt8) (r:List UInt8),¬(a=46/\b=46)->Lib.contains (a :: b :: r) [46,46]=Lib.contains (b :: r) [46,46]:=fun a b r h=>by
   unfold Lib.contains;have k:=Lib.index_ge (b :: r) [46,46]
   conv=>lhs;rw[Lib.index]
   have m:([46,46]:List UInt8).isPrefixOf (a :: b :: r)=false:=by
    simp only[List.isPrefixOf,Bool.and_true]
    by_cases i:a=46
    ·have j:b≠46:=fun e=>h ⟨i,e⟩
     simp[Ne.symm j]
    simp[Ne.symm i]
   rw[m];simp only[Bool.false_eq_true,if_false]
   by_cases g:Lib.index (b :: r) [46,46] = -1
   ·rw[g];rfl
   rw[if_neg (by simpa using g),decide_eq_true ω,decide_eq_true ω]
  have d:∀r:List UInt8,Lib.contains (46 :: 46 :: r) [46,46]=true:=fun r=>by
   unfold Lib.contains;rw[Lib.index,if_pos (by simp[List.isPrefixOf])]
   rfl
  by_cases c:x=46
  ·subst c
   have e:cutB 46 (46 :: t)=[]:: cutB 46 t:=by rw[cutB,if_pos rfl]
   rw[e];refine⟨?_,?_⟩
   ·rw[List.cons_append,d];rfl
   rw[List.cons_append,ab];rfl
  have e:(cutB 46 (x :: t)).any List.isEmpty=(cutB 46 t).tail.any List.isEmpty/\(cutB 46 (x :: t)).tail=(cutB 46 t).tail:=by
   rw[cutB,if_neg c];cases hs:cutB 46 t with
   |nil=>exact absurd hs (o6 46 t)
   |cons a r=>exact⟨rfl,rfl⟩
  have f:Lib.contains (x :: (t++[46])) [46,46]=Lib.contains (t++[46]) [46,46]:=by
   cases ht:t++[46]with
   |nil=>simp at ht
   |cons b r=>exact step x b r fun h=>c h.1
  refine⟨?_,?_⟩
  ·rw[e.1,List.cons_append,step 46 x _ fun h=>c h.2,f,aa]
  rw[e.2,List.cons_append,f,aa]
end Go.Proofs.YtjfampgnhccodaaGreatDoor
