/-
  What comes of the cells of parts by their signs, and of a member by the cells of those that its way names, as package solve tells it (together, tell), in whatever memory.
-/
import Derived.Test.YthlhjjabkgpenaaGreatDoorJTBF
import Derived.Test.YthlhjjabkgpenaaGreatDoorJTBI
namespace Go.Proofs.YthlhjjabkgpenaaGreatDoor
open Go.ChangeShapes Go.WideShapes Go.ChangeAt Go.RowKit
set_option maxRecDepth 20000
def kW (w:World):World:=(w.alloc (.cells #[.int .i64 0,.int .i64 0] 40)).alloc (.cells #[.int .i64 0,.int .i64 0] 40)
theorem Cv (w:World):(kW w).heap.size=w.heap.size+2:=by unfold kW;simp
theorem xL (w:World):Bl w (kW w):=by unfold kW;go_grown
theorem Iy (w:World):(kW w).heap[w.heap.size]?=some (.cells #[.int .i64 0,.int .i64 0] 40):=by
 unfold kW;rw [heap_alloc_old _ _ (by simp)]
 exact heap_alloc_new ..
theorem Iz (w:World):(kW w).heap[w.heap.size+1]?=some (.cells #[.int .i64 0,.int .i64 0] 40):=by
 unfold kW;exact jR ..
theorem sj (d:Dm) (AP:Option Addr) (cP:Nat) (P:List Int) (AC:Option Addr) (cC:Nat) (L:List (Int×Int)) (at':Int→Int×Int) (w:World) (X:P.length≤12) (U:∀ k∈P,∃ j:Nat,k=j∧j<d.n∧(d.mem j).sign≠0) (Y:Sg d.mem d.n) (hL:L=P.map at') (hG:∀ k∈P,b7 (at' k)) (hP:bU w AP cP (P.map (gF d))) (hC:dt w AC cC L) :
  Rt 129 #[.slice AP P.length cP,.slice AC P.length cC] w (.tuple #[.agg #[.int .i64 (partsV d.mem at' P).1,.int .i64 (partsV d.mem at' P).2],.nilIface]):=by
 have HIn:=aa U;have HSg:=aa Y;have HG:=aa hG;have HP:=aa hP;have HC:=aa hC;have HL:=aa hL;have HB0:Hid (Bl w (kW w)):=xL ..;have F:Hid ((kW w).heap[w.heap.size]?=some (.cells #[.int .i64 0,.int .i64 0] 40)∧(kW w).heap.size=w.heap.size+2):=⟨Iy ..,Cv ..⟩;have q:Hid ((P.take P.length).foldl (aX d.mem at') (0,0)=partsV d.mem at' P):=by show _=_;rw [List.take_length];rfl
 obtain ⟨N,hN⟩:=ax P.length;have HN:=aa hN;rw [hN] at q X ⊢;generalize partsV d.mem at' P=V at q;have hN':(N:Int)≤12:=by omega
 clear U Y hG hP hC hN hL
 go_enter Tryz.func129,Tryz.ntmps129
 go_wp2_with fail
 go_loopg [7,13] N (fun g s7 s13 wr => ∃ (k:Nat) (a b:Int),k≤N∧g=N-k∧s13=.int .i64 k∧s7=.nilIface∧Hid ((P.take k).foldl (aX d.mem at') (0,0)=(a,b))∧Hid (wr.heap[w.heap.size+1]?=some (.cells #[.int .i64 a,.int .i64 b] 40))∧Hid ((kW w).grownBy wr (some (w.heap.size+1))))
 case atStart=>exact ⟨0,0,0,zU,rfl,rfl,rfl,(rfl:(P.take 0).foldl (aX d.mem at') (0,0)=(0,0)),Iz w,(eV _ _:(kW w).grownBy (kW w) (some (w.heap.size+1)))⟩
 case round =>
  obtain ⟨k,a,b,hk,rfl,rfl,rfl,HF,m,s⟩:=hrel;have T:Bl w wr:=HB0.out.grown s.out (by rw [F.out.2];omega) (fun j hj=>by cases hj;omega)
  have HBw:=aa T;have p:w.heap.size+1<wr.heap.size:=by have:=s.out.size;rw [F.out.2] at this;omega
  by_cases hlt:k<N
  ·have o:k<P.length:=by rw [HN.out];exact hlt
   have hki:(k:Int)<(N:Int):=by omega
   have D:P.getD k 0∈P:=by rw [zZ,zX o];exact List.getElem_mem o
   obtain ⟨hcP,h0 | ⟨bp,rfl,hbp,B⟩⟩:=HP.out.later T
   ·have h1:(P.map (gF d)).length=N:=by rw [List.length_map];exact HN.out
    rw [h0] at h1;simp at h1;omega
   rw [List.length_map,HN.out] at hcP;have K:=B k (by rw [List.length_map];exact o)
   have H:L.length=N:=by rw [HL.out,List.length_map];exact HN.out
   obtain ⟨hcL,-,h0 | ⟨bc,oc,rfl,z⟩⟩:=HC.out.later T
   ·rw [h0] at H;simp at H;omega
   obtain ⟨x0,x1⟩:=z.2 k (by omega)
   have hbcl:bc<wr.heap.size:=z.1;have W:L.getD k noC=at' (P.getD k 0):=by
    rw [HL.out,zZ,List.getElem?_map,zZ,zX o]
    rfl
   have Z:(P.map (gF d)).getD k 0=gF d (P.getD k 0):=by
    rw [zZ,List.getElem?_map,zZ,zX o]
    rfl
   rw [H] at hcL;rw [W] at x0 x1;obtain ⟨j,hj,hjn,O⟩:=HIn.out _ D;have I:=HG.out _ D;have c:=qV (M:=d.mem) (at':=at') o;rw [HF.out] at c;rw [Z,hj,show gF d (j:Int)=(d.mem j).sign by unfold gF;rw [Int.toNat_natCast]] at K
   rw [hj] at c I x0 x1;have C:b7 (a,b):=by rw [←HF.out];exact jh _ _ _ _ eU
   unfold aX at c;rw [show ((j:Int)).toNat=j by omega] at c
   simp only at c;have Q:=HSg.out j hjn;obtain ⟨s0,s1,f0,f1⟩:=bP m.out;have f:=fun w'=>yh a b (at' (j:Int)).1 (at' (j:Int)).2 C I w'
   have h:=fun w'=>zi a b (at' (j:Int)).1 (at' (j:Int)).2 C I w'
   generalize (at' (j:Int)).1=x at x0 c f h;generalize (at' (j:Int)).2=y at x1 c f h;generalize (d.mem j).sign=sg at K c Q O;obtain ⟨v,hv⟩:=ax (wr.alloc (.cells #[.int .i64 x,.int .i64 y] 40));have G:Bl wr v:=by rw [←hv];go_grown
   have R:=aa G;obtain ⟨v0,v1,-,-⟩:=bP (show v.heap[wr.heap.size]?=some (.cells #[.int .i64 x,.int .i64 y] 40 (0,0)) from by rw [←hv];exact heap_alloc_new ..)
   have hvs:wr.heap.size<v.heap.size:=by rw [←hv];simp
   obtain ⟨t0,t1,-,-⟩:=bP ((G.block _ p).trans m.out);have S:=aL G hbp K;have t:Hid (∀ w',Bl wr w'→w'.cell? ⟨w.heap.size+1,0,none⟩=some (.int .i64 a)∧w'.cell? ⟨w.heap.size+1,1,none⟩=some (.int .i64 b)∧w'.frozen? ⟨w.heap.size+1,0,none⟩=false∧w'.frozen? ⟨w.heap.size+1,1,none⟩=false):=fun w' hw'=>bP ((hw'.block _ p).trans m.out)
   clear T hj I C D B z W H G Z
   by_cases hs1:sg=1
   ·subst hs1
    rw [if_pos rfl] at c;obtain ⟨r1,E⟩:∃ r,mi a b x y=r:=⟨_,rfl⟩;obtain ⟨rk,rn⟩:=r1;rw [E] at c f;simp only at f;have J:=aa c;have l:=f v;clear f h c E Q O;go_wp2_with fail;refine l.mono ?_;rintro e w4 ⟨rfl,A⟩;have i:=ae R.out A;obtain ⟨n0,n1,n2,n3⟩:=t.out _ i;have u:=aa i;have hz4:w.heap.size+1<w4.heap.size:=zW p i.size;clear A i l hv v0 v1 t0 t1 S;go_wp2_with fail
    go_roundg (N-(k+1))
    case measure=>omega
    case rel=>exact ⟨k+1,rk,rn,by omega,rfl,by go_num,rfl,J,gV ((u.out.block _ p).trans m.out),iE (eW s.out u.out)⟩
   have hs2:sg = -1:=by omega
   subst hs2;rw [if_neg (by decide),if_pos rfl] at c
   obtain ⟨r1,E⟩:∃ r,iW a b x y=r:=⟨_,rfl⟩;obtain ⟨rk,rn⟩:=r1;rw [E] at c h;simp only at h;have J:=aa c;have l:=h v;clear f h c E Q hs1 O;go_wp2_with fail;refine l.mono ?_;rintro e w4 ⟨rfl,A⟩;have i:=ae R.out A;obtain ⟨n0,n1,n2,n3⟩:=t.out _ i;have u:=aa i;have hz4:w.heap.size+1<w4.heap.size:=zW p i.size;clear A i l hv v0 v1 t0 t1 S;go_wp2_with fail
   go_roundg (N-(k+1))
   case measure=>omega
   case rel=>exact ⟨k+1,rk,rn,by omega,rfl,by go_num,rfl,J,gV ((u.out.block _ p).trans m.out),iE (eW s.out u.out)⟩
  have hke:k=N:=by omega
  subst hke;have HV:Hid (V=(a,b)):=by show _=_;rw [←q.out];exact HF.out
  obtain ⟨s0,s1,f0,f1⟩:=bP m.out;have k1:wr.heap[w.heap.size]?=some (.cells #[.int .i64 0,.int .i64 0] 40):=(s.out.block w.heap.size (by rw [F.out.2];omega) (fun e=>by simp at e)).trans F.out.1
  obtain ⟨e0,e1,g0,g1⟩:=bP k1;have hzz:w.heap.size<wr.heap.size:=by omega
  clear T k1;go_wp2_with fail;refine bodyPost_ret (v:=.tuple #[.agg #[.int .i64 a,.int .i64 b],.nilIface]) (by simp [results,Tryz.results129,go_sem,e0,e1]) rfl ⟨by rw [HV.out],?_⟩
  exact (HBw.out.setCell (by simp) _).setCell (by simp) _
theorem Kl {w:World} {A:Option Addr} {c:Nat} {L:List (List UInt8)} (h:f9 w A c L) (g:L.length≤30):k9 w A c (L.map sr):=by
 obtain ⟨e,f,a⟩:=h;refine ⟨by rw [List.length_map];exact e,by rw [List.length_map];omega,f,?_⟩
 rcases a with a | ⟨b,o,a,h4,h5⟩
 ·exact Or.inl (by rw [a];rfl)
 refine Or.inr ⟨b,o,a,h4,fun j d=>?_⟩
 rw [List.length_map] at d;rw [h5 j d,zZ,zZ,List.getElem?_map,zX d]
 rfl
theorem Bw {d:Dm} {m:Nat} (e:(d.mem m).formula.size=0):∀ k∈dQ d m,∃ j:Nat,k=j∧j<d.n∧(d.mem j).sign≠0:=fun k a=>by
 rw [←f6 e,List.mem_filter] at a;obtain ⟨j,b,c,-⟩:=dE k a.1;refine ⟨j,b,c,?_⟩;have:=a.2;rw [b] at this;unfold u6 at this
 simpa using this
def pK (w:World) (x:WL):World:=(w.alloc (.cells #[.bool x.lf,.slice x.An x.nd.length x.cn,.slice x.As x.nm.length x.cs,.slice x.Ai x.ne.length x.ci,.slice x.Ag x.sg.length x.cg] 164)).alloc (.cells #[.int .i64 0,.int .i64 0] 40)
theorem Ct (w:World) (x:WL):(pK w x).heap.size=w.heap.size+2:=by unfold pK;simp
theorem xJ (w:World) (x:WL):Bl w (pK w x):=by unfold pK;go_grown
theorem It (w:World) (x:WL):(pK w x).heap[w.heap.size]?=some (.cells #[.bool x.lf,.slice x.An x.nd.length x.cn,.slice x.As x.nm.length x.cs,.slice x.Ai x.ne.length x.ci,.slice x.Ag x.sg.length x.cg] 164 (0,0)):=by
 unfold pK;rw [heap_alloc_old _ _ (by simp)]
 exact heap_alloc_new ..
theorem Iu (w:World) (x:WL):(pK w x).heap[w.heap.size+1]?=some (.cells #[.int .i64 0,.int .i64 0] 40):=by
 unfold pK;exact jR ..
theorem Fq (d:Dm) (m:Nat) (x:WL) (AC:Option Addr) (O:Nat) (f:Int→Int×Int) (w:World) (U:(a8 d).2=0) (hm:m<d.n) (u:fh d m x) (V:eM w x) (t:∀ z∈dQ d m,b7 (f z)) (T:dt w AC O (x.ne.map f)) :
  Rt 101 #[wayV x,.slice AC x.ne.length O] w (.tuple #[.agg #[.int .i64 (dT d f m).1,.int .i64 (dT d f m).2],.nilIface]):=by
 obtain ⟨K,s,-,-⟩:=bK U;obtain ⟨-,-,X,-⟩:=aG K;have g:=xJ w x;have C:=Ct w x;have h:=It w x;have q:=Iu w x;obtain ⟨W,c⟩:=ax (pK w x);rw [c] at g C h q;unfold pK at c;unfold wayV;have H:=aa g;have I:=aa q;have hl0:w.heap.size<W.heap.size:=by omega
 have r:w.heap.size+1<W.heap.size:=by omega
 have Q:W.cell? ⟨w.heap.size,1,none⟩=some (.slice x.An x.nd.length x.cn):=by simp [World.cell?,h]
 have x2:W.cell? ⟨w.heap.size,2,none⟩=some (.slice x.As x.nm.length x.cs):=by simp [World.cell?,h]
 have x4:W.cell? ⟨w.heap.size,4,none⟩=some (.slice x.Ag x.sg.length x.cg):=by simp [World.cell?,h]
 have k:=V.later g;have p:=T.later g
 by_cases y:(d.mem m).formula.size=0
 ·obtain ⟨-,i,-,j,J⟩:=u.1 y
  have l:=sj d x.Ag x.cg x.ne AC O (x.ne.map f) f W (by rw [j];exact zV (cS _ _) X) (by rw [j];exact Bw y) (Sg.of K) rfl (by rw [j];exact t) (by rw [j,←J];exact k.2.2.2.at) p
  have D:x.sg.length=x.ne.length:=by rw [J,j,List.length_map]
  rw [D] at x4 c;have N:partsV d.mem f x.ne=dT d f m:=by rw [j,me y]
  rw [N] at l;rw [i] at Q c ⊢;rw [D];simp only [List.length_nil] at Q c ⊢;obtain ⟨⟨Z,rb⟩,b⟩:∃ R,dT d f m=R:=⟨_,rfl⟩;have B:=aa b;rw [b] at l;simp only at l;generalize x.ne.length=nl at *;generalize x.nm.length=ml at *;clear b y i j J D N V u k p T t U K s g C h q
  go_enter Tryz.func101,Tryz.ntmps101
  go_wp2_with fail;refine l.mono ?_;rintro e w4 ⟨rfl,a⟩;have A:=aa a;obtain ⟨S,i,g0,g1⟩:=bP ((a.block (w.heap.size+1) r).trans I.out);have Y:w.heap.size+1<w4.heap.size:=zW r a.size;clear a l Q x2 x4 c;go_wp2_with fail;refine bodyPost_ret (v:=.tuple #[.agg #[.int .i64 Z,.int .i64 rb],.nilIface]) (by simp [results,Tryz.results101,go_sem,S,i]) rfl ⟨by rw [B.out],?_⟩
  exact ((ae H.out A.out).setCell (by simp) _).setCell (by simp) _
 obtain ⟨-,i,P,j,J⟩:=u.2 y;have L:=eX y (s m hm);have E:=dC L;have G:=oL E;obtain ⟨v1,v2⟩:=vK K y (s m hm) f t;have M:=(dw E).1;rw [←P] at G;have o:=CD x.An x.cn x.nd x.As x.cs (x.nm.map sr) AC O (x.ne.map f) W k.1.1 (Kl k.2.1.1 G) p;have q1:lK x.nd (x.nm.map sr) (x.ne.map f)=0:=by rw [i,P,j];exact v1
 have q2:pN x.nd (x.nm.map sr) (x.ne.map f)=dT d f m:=by rw [i,P,j];exact v2
 rw [q1,q2,errV_zero,List.length_map,List.length_map] at o;have F:0<(x.nd.length:Int):=by rw [i];omega
 obtain ⟨⟨Z,rb⟩,b⟩:∃ R,dT d f m=R:=⟨_,rfl⟩;have B:=aa b;rw [b] at o;simp only at o;generalize x.ne.length=xl at *;generalize x.sg.length=sl at *;generalize x.nd.length=nl at *;generalize x.nm.length=ml at *;clear b y i P j J L E G v1 v2 M q1 q2 V u k p T t U K s g C h q;obtain ⟨nk,rfl⟩:∃ nk,nl=nk+1:=⟨nl-1,by omega⟩
 clear F
 go_enter Tryz.func101,Tryz.ntmps101
 go_wp2_with fail;refine o.mono ?_;rintro e w4 ⟨rfl,a⟩;have A:=aa a;obtain ⟨S,i,g0,g1⟩:=bP ((a.block (w.heap.size+1) r).trans I.out);have Y:w.heap.size+1<w4.heap.size:=zW r a.size;clear a o Q x2 x4 c;go_wp2_with fail;refine bodyPost_ret (v:=.tuple #[.agg #[.int .i64 Z,.int .i64 rb],.nilIface]) (by simp [results,Tryz.results101,go_sem,S,i]) rfl ⟨by rw [B.out],?_⟩
 exact ((ae H.out A.out).setCell (by simp) _).setCell (by simp) _
noncomputable def tW (d:Dm) (m:Nat):List Int:=if (d.mem m).formula.size=0 then dQ d m else (aQ (bE (d.mem m).formula)).map (whL d)
theorem xU {d:Dm} {m:Nat} {x:WL} (h:fh d m x):x.ne=tW d m:=by
 unfold tW
 by_cases a:(d.mem m).formula.size=0
 ·rw [if_pos a];exact (h.1 a).2.2.2.1
 rw [if_neg a];exact (h.2 a).2.2.2.1
theorem Ee {d:Dm} (j:(a8 d).2=0) {m:Nat} (i:m<d.n):((tW d m).mergeSort fun x y=>decide (x≤y))=dQ d m:=by
 obtain ⟨k,c,-,-⟩:=bK j;unfold tW
 by_cases f:(d.mem m).formula.size=0
 ·rw [if_pos f]
  exact ju _ _ (by
   have g:List.Pairwise (fun a b=>a≠b) ((dQ d m).mergeSort fun x y=>decide (x≤y)):=(List.mergeSort_perm _ _).symm.pairwise ((gN d m).imp fun h=>by omega) fun {a b} h e=>h e.symm
   exact ((o6 _).and g).imp fun h=>by omega) (gN d m) fun z=>(List.mergeSort_perm _ _).mem_iff
 rw [if_neg f];exact qT k f (c m i) (eX f (c m i))
theorem tX {d:Dm} (a:(a8 d).2=0) {m:Nat} (b:m<d.n):(tW d m).Perm (dQ d m):=by
 rw [←Ee a b];exact (List.mergeSort_perm _ _).symm
theorem mC {d:Dm} (a:(a8 d).2=0) {m:Nat} (b:m<d.n) (z:Int):z∈tW d m↔z∈dQ d m:=(tX a b).mem_iff
section
variable {D:Nat→Dm} {n:Nat}
theorem GO (l:(ah D n).2.2=0) {x b j:Nat} (c:b<n) (p:x<prodN D n) (o:j<(D b).n):∃ y:Nat,(x:Int)+((j:Int)-(x / bW D n b % (D b).n:Nat))*(bW D n b:Int)=y∧y<prodN D n∧ak D n y=(ak D n x).set b j:=by
 obtain ⟨-,-,-,m⟩:=aw l;obtain ⟨y,d,f,g,k⟩:=wQ (D:=D) (n:=n) (dim:=b) (x:=x) (j:=j) (fun i a=>(m i a).1) c p rfl o
 refine ⟨y,d,f,?_⟩;apply List.ext_getElem?;intro i
 by_cases a:i<n
 ·rw [List.getElem?_set]
  simp only [placeL_len,c,if_true]
  by_cases e:b=i
  ·subst e
   rw [if_pos rfl];have:bx D n y b=j:=by rw [iq c];exact g
   simp [ak,a,this]
  rw [if_neg e];have:=k i a (fun h=>e h.symm)
  simp [ak,a,this]
 rw [List.getElem?_eq_none (by rw [placeL_len];omega),List.getElem?_eq_none (by rw [List.length_set,placeL_len];omega)]
def iP (D:Nat→Dm) (n x b:Nat) (k:Int):Int:=numI D ((ak D n x).set b k) n
theorem kN (e:(ah D n).2.2=0) {x b:Nat} (g:b<n) (h:x<prodN D n) {k:Int} (f:0≤k) (i:k<((D b).n:Int)):∃ y:Nat,iP D n x b k=(y:Int)∧y<prodN D n∧ak D n y=(ak D n x).set b k∧(x:Int)+(k-(x / bW D n b % (D b).n:Nat))*(bW D n b:Int)=y:=by
 obtain ⟨y,c,d,a⟩:=GO e g h (j:=k.toNat) (by omega)
 rw [Int.toNat_of_nonneg f] at c a;exact ⟨y,by unfold iP;rw [←a];exact qD e d,d,a,c⟩
theorem BF (a:(ah D n).2.2=0) {x b:Nat} (c:b<n) (d:x<prodN D n) {i k:Int} (l:0≤i) (m:i<((D b).n:Int)) (o:0≤k) (p:k<((D b).n:Int)) (h:i<k):iP D n x b i<iP D n x b k:=by
 obtain ⟨-,-,-,q⟩:=aw a;obtain ⟨y,e,-,-,f⟩:=kN a c d l m;obtain ⟨z,g,-,-,j⟩:=kN a c d o p;have s:=ib (D:=D) (n:=n) (fun i r=>(q i r).1) c
 rw [e,g,←f,←j];have t:(i-((x / bW D n b % (D b).n:Nat):Int))*(bW D n b:Int)<(k-((x / bW D n b % (D b).n:Nat):Int))*(bW D n b:Int):=Int.mul_lt_mul_of_pos_right (by omega) (by omega)
 omega
noncomputable def ndsX (D:Nat→Dm) (n x:Nat):List Int:=if byTo D (ak D n x) n<0 then [] else (tW (D (byTo D (ak D n x) n).toNat) ((ak D n x).getD (byTo D (ak D n x) n).toNat 0).toNat).map (iP D n x (byTo D (ak D n x) n).toNat)
theorem nY {x:Nat} (h:byTo D (ak D n x) n<0):ndsX D n x=[]:=by unfold ndsX;rw [if_pos h]
theorem nX {x b:Nat} (h:byTo D (ak D n x) n=(b:Int)):ndsX D n x=(tW (D b) ((ak D n x).getD b 0).toNat).map (iP D n x b):=by unfold ndsX;rw [h,if_neg (by omega),Int.toNat_natCast]
theorem iX (v:dS D n) (t:(ah D n).2.2=0) {x:Nat} (E:x<prodN D n):ey D n (ak D n x) ((ndsX D n x).mergeSort fun a b=>decide (a≤b)):=by
 have u:=cQ (D:=D) (n:=n) (x:=x) t
 rcases by_in D (ak D n x) n with h | ⟨b,h,f⟩
 ·rw [nY (by omega),List.mergeSort_nil]
  refine ⟨List.Pairwise.nil,zU,fun z=>⟨fun F=>absurd F (by simp),?_⟩⟩
  rintro ⟨b,f,-⟩
  omega
 obtain ⟨y,A,-,-⟩:=bK (v b f);obtain ⟨-,-,j,-⟩:=aG y;have B:=u.lo b f;have C:=u.hi b f;have w:((ak D n x).getD b 0).toNat<(D b).n:=by omega
 rw [nX h];obtain ⟨m,c⟩:=ax (((ak D n x).getD b 0).toNat);rw [c] at w ⊢;have q:=(tX (v b f) w).map (iP D n x b);have d:=(List.mergeSort_perm ((tW (D b) m).map (iP D n x b)) fun a b=>decide (a≤b)).trans q
 have p:List.Pairwise (fun a b=>a≠b) ((dQ (D b) m).map (iP D n x b)):=by
  rw [List.pairwise_map];refine List.Pairwise.imp_of_mem (R:=fun a b=>a<b) (fun {i k} hi g l e=>?_) (gN (D b) m)
  have r:=ef hi;have s:=ef g;have:=BF t f E r.1 r.2 s.1 s.2 l
  omega
 have o:=d.symm.pairwise p fun {a b} h e=>h e.symm
 refine ⟨((o6 _).and o).imp fun h=>by omega,?_,fun z=>?_⟩
 ·rw [d.length_eq,List.length_map]
  exact zV (cS _ _) j
 rw [d.mem_iff,List.mem_map]
 constructor
 ·rintro ⟨k,g,rfl⟩
  exact ⟨b,h,k,by rw [c];exact g,rfl⟩
 rintro ⟨b',G,k,g,rfl⟩;have:b'=b:=by omega
 subst this;rw [c] at g;exact ⟨k,g,rfl⟩
theorem mB (b:dS D n) (a:(ah D n).2.2=0) {x:Nat} (c:x<prodN D n):(ndsX D n x).length≤12:=by
 have:=(iX b a c).2.1;rw [List.length_mergeSort] at this;exact this
theorem Eb (i:dS D n) (d:(ah D n).2.2=0) {x:Nat} (p:x<prodN D n):∀ z∈ndsX D n x,∃ y:Nat,z=(y:Int)∧y<prodN D n:=by
 intro z c;have e:=cQ (D:=D) (n:=n) (x:=x) d
 rcases by_in D (ak D n x) n with h | ⟨b,h,hb⟩
 ·rw [nY (by omega)] at c;cases c
 have m:=e.lo b hb;have o:=e.hi b hb;have l:((ak D n x).getD b 0).toNat<(D b).n:=by omega
 rw [nX h,List.mem_map] at c;obtain ⟨k,j,rfl⟩:=c;have a:=ef ((mC (i b hb) l k).1 j);obtain ⟨y,f,g,-⟩:=kN d hb p a.1 a.2;exact ⟨y,f,g⟩
noncomputable def xK (D:Nat→Dm) (n:Nat) (L:List (Int×Int)) (x:Nat):Int×Int:=if byTo D (ak D n x) n<0 then L.getD x noC else dT (D (byTo D (ak D n x) n).toNat) (fun k=>L.getD (iP D n x (byTo D (ak D n x) n).toNat k).toNat noC) ((ak D n x).getD (byTo D (ak D n x) n).toNat 0).toNat
theorem zk {L:List (Int×Int)} {x:Nat} (h:byTo D (ak D n x) n<0):xK D n L x=L.getD x noC:=by unfold xK;rw [if_pos h]
theorem He {L:List (Int×Int)} {x b:Nat} (h:byTo D (ak D n x) n=(b:Int)):xK D n L x=dT (D b) (fun k=>L.getD (iP D n x b k).toNat noC) ((ak D n x).getD b 0).toNat:=by unfold xK;rw [h,if_neg (by omega),Int.toNat_natCast]
theorem Iw (d:dS D n) (f:(ah D n).2.2=0) {inp:List Int→Int×Int} {L:List (Int×Int)} {x:Nat} (t:x<prodN D n) (m:byTo D (ak D n x) n<0→L.getD x noC=inp (ak D n x)) (o:∀ z∈ndsX D n x,L.getD z.toNat noC=fD D n inp (ak D n z.toNat)):xK D n L x=fD D n inp (ak D n x):=by
 have c:=cQ (D:=D) (n:=n) (x:=x) f
 rcases by_in D (ak D n x) n with h | ⟨b,h,hb⟩
 ·rw [zk (by omega),o5 inp (by omega)]
  exact m (by omega)
 obtain ⟨q,e,-,-⟩:=bK (d b hb);have r:=c.lo b hb;have s:=c.hi b hb;have i:((ak D n x).getD b 0).toNat<(D b).n:=by omega
 rw [He h,xB d inp c h];refine jp q (e _ i) fun k g=>?_
 have a:=ef g;obtain ⟨y,j,u,l,-⟩:=kN f hb t a.1 a.2;have p:=o (iP D n x b k) (by rw [nX h,List.mem_map];exact ⟨k,(mC (d b hb) i k).2 g,rfl⟩)
 rw [p,j,Int.toNat_natCast,l]
end
end Go.Proofs.YthlhjjabkgpenaaGreatDoor
namespace Go.Proofs.YthlhjjabkgpenaaGreatDoor
open Go.ChangeShapes Go.WideShapes Go.ChangeAt Go.RowKit
open Go.Sort (putRow Holds grow holds_putRow)
set_option maxRecDepth 20000
theorem AY (f:Int→Int) (P:List Int) {k:Nat} (h:k<P.length):(P.take (k+1)).map f=(P.take k).map f ++ [f (P.getD k 0)]:=by
 rw [List.take_succ_eq_append_getElem h,List.map_append,zZ,zX h]
 rfl
theorem DW (f:Int→Int×Int) (P:List Int) {k:Nat} (h:k<P.length):(P.take (k+1)).map f=(P.take k).map f ++ [f (P.getD k 0)]:=by
 rw [List.take_succ_eq_append_getElem h,List.map_append,zZ,zX h]
 rfl
theorem gK {P:List Int} {k:Nat} (h:k<P.length):P.getD k 0∈P:=by
 rw [zZ,zX h];exact List.getElem_mem h
theorem lw (q g n:Nat) (D:Nat→Dm) (X:Nat→AL) (x:Nat) (w:World) (hR:dS D n) (R:(ah D n).2.2=0) (hx:x<prodN D n) (G:ff w q g n D X) :
  Calls Tryz.prog 99 #[.pointer (some ⟨q,0,none⟩),.int .i64 x] w fun e w'=>(∃ v,e=.returned v∧w'.ownsRow w.heap.size 3 1 v (ndsX D n x).length (aE (ndsX D n x)))∧Bl w w':=by
 obtain ⟨i0,hi0,hz0,hz1,hz2⟩:=info_parts Tryz.infoInt;obtain ⟨hn1,hn4,hp3,hd⟩:=aw R;have r:=ym q g n D X x w R hx G;have HA:=aa G;obtain ⟨hq,q0,q1⟩:=G.cells;have hnI:(n:Int)≤4:=by omega
 have hxI:(x:Int)≤3000:=by omega
 have hP:=cQ (D:=D) (n:=n) (x:=x) R
 rcases by_in D (ak D n x) n with h | ⟨b,h,hb⟩
 ·have HNl:Hid (ndsX D n x=[]):=nY (by omega)
  rw [h] at r;clear G R hR hP h q0 q1
  go_enter Tryz.func99,Tryz.ntmps99
  go_wp2_with fail;refine r.mono ?_;rintro e w1 ⟨rfl,d⟩;have HB1:=aa d;clear d r;go_wp2_with fail;go_ret;rw [HNl.out];exact ⟨⟨_,rfl,World.ownsRow_nil _ _ _ _⟩,HB1.out⟩
 obtain ⟨K,p⟩:=hd b hb;have hp0:=hP.lo b hb;have hp1:=hP.hi b hb;obtain ⟨m,hm⟩:=ax (x / bW D n b % (D b).n);have hpm:((ak D n x).getD b 0).toNat=m:=by rw [nu hb,hm]
 have E:m<(D b).n:=by rw [←hm];exact Nat.mod_lt _ K
 have B:Hid (ndsX D n x=(tW (D b) m).map (iP D n x b)):=by show _=_;rw [nX h,hpm]
 have M:(tW (D b) m).length≤12:=by
  have:=mB hR R hx;rw [B.out,List.length_map] at this;exact this
 have l:Hid (∀ k∈tW (D b) m,∃ j y:Nat,k=(j:Int)∧j<(D b).n∧iP D n x b k=(y:Int)∧y<prodN D n∧(x:Int)+((j:Int)-(m:Int))*(bW D n b:Int)=y):=fun k hk=>by
  have U:=ef ((mC (hR b hb) E k).1 hk);obtain ⟨y,e1,e2,-,e4⟩:=kN R hb hx U.1 U.2;rw [hm] at e4;exact ⟨k.toNat,y,by omega,by omega,e1,e2,by rw [Int.toNat_of_nonneg U.1];exact e4⟩
 have hSp:=ib (D:=D) (n:=n) (fun i hi=>(hd i hi).1) hb
 obtain ⟨S,a⟩:=ax (bW D n b);have HMb:Hid (∀ w',Rt 127 #[.agg #[.int .i64 (D b).solve,.int .i64 S,.slice (X b).A (D b).n (X b).c],.int .i64 x] w' (.int .i64 m)):=fun w'=>lW (D b) S (X b) x m w' (by rw [←a];exact hSp) K p (by omega) (by rw [←a];exact hm)
 have Q:Hid (∀ w',Bl w w'→Rt 100 #[.agg #[.int .i64 (D b).solve,.int .i64 S,.slice (X b).A (D b).n (X b).c],.int .i64 x] w' (wayV ((X b).xs.getD m ex))):=fun w' hB=>sm (D b) S (X b) x m w' (by rw [←a];exact hSp) K p (by omega) (by rw [←a];exact hm) ((G.later hB).2.one hb).2.2
 have J:Hid (∀ w',Bl w w'→aY w' ((X b).xs.getD m ex).Ai ((X b).xs.getD m ex).ci (tW (D b) m)):=fun w' hB=>by
  obtain ⟨-,-,o⟩:=(G.later hB).2.one hb;obtain ⟨-,-,-,-,-,hWt⟩:=o.way E;have:=hWt.2.2.1;rw [xU (o.2.2 m E)] at this;exact this
 have s:∀ w',(Instr.field 164 (wayV ((X b).xs.getD m ex)) 3).run Tryz.prog w'=.ok (.slice ((X b).xs.getD m ex).Ai (tW (D b) m).length ((X b).xs.getD m ex).ci) w':=fun w'=>by
  obtain ⟨-,-,o⟩:=G.2.one hb;rw [vJ,xU (o.2.2 m E)]
 have HCp:Hid (∀ w',Bl w w'→q<w'.heap.size∧g<w'.heap.size∧w'.cell? ⟨q,0,none⟩=some (.slice (some ⟨g,0,none⟩) n n)∧w'.cell? ⟨g,b*3,none⟩=some (.int .i64 (D b).solve)∧w'.cell? ⟨g,b*3+1,none⟩=some (.int .i64 S)∧w'.cell? ⟨g,b*3+2,none⟩=some (.slice (X b).A (D b).n (X b).c)):=fun w' hB=>by
  obtain ⟨a1,a2,-⟩:=(G.later hB).cells;obtain ⟨hg,⟨c0,c1,c2⟩,-⟩:=(G.later hB).2.one hb;rw [a] at c1;exact ⟨a1,hg,a2,c0,c1,c2⟩
 obtain ⟨P,hPn⟩:=ax (tW (D b) m);obtain ⟨f,hf⟩:=ax (iP D n x b);obtain ⟨z,hz⟩:=ax ((X b).xs.getD m ex);rw [hPn] at B M l J s;rw [hf] at B l;rw [hz] at Q J s;rw [a] at l;obtain ⟨N,hN⟩:=ax P.length;have HN:=aa hN;rw [hN] at M s;have hNI:(N:Int)≤12:=by omega
 have hbI:(b:Int)<(n:Int):=by omega
 have hb0:((b:Int) == -1)=false:=by simp
 have hmI:(m:Int)<12:=by omega
 have HX3:=aa hp3;have HDn:=aa p;rw [h] at r;obtain ⟨ai,hai⟩:=ax z.Ai;obtain ⟨ci,hci⟩:=ax z.ci;rw [hai,hci] at J s;generalize wayV z=wv at s Q;clear G R hR hP h hp0 hp1 hm hpm E a hPn hf hz hN hd q0 q1 p K hai hci
 go_enter Tryz.func99,Tryz.ntmps99
 go_wp2_with fail;refine r.mono ?_;rintro e w1 ⟨rfl,d⟩;have HB1:=aa d;obtain ⟨hq1,hg1,a0,a1,a2,a3⟩:=HCp.out w1 d;obtain ⟨v,hv⟩:=ax (w1.alloc (.cells #[.int .i64 (D b).solve,.int .i64 S,.slice (X b).A (D b).n (X b).c] 152));have u:v.heap[w1.heap.size]?=some (.cells #[.int .i64 (D b).solve,.int .i64 S,.slice (X b).A (D b).n (X b).c] 152 (0,0)):=by rw [←hv];exact heap_alloc_new ..
 have HVb:=aa u;have hBv:Bl w1 v:=by rw [←hv];go_grown
 have O:=aa (ae d hBv);have v0:v.cell? ⟨w1.heap.size,0,none⟩=some (.int .i64 (D b).solve):=by simp [World.cell?,u]
 have v1:v.cell? ⟨w1.heap.size,1,none⟩=some (.int .i64 S):=by simp [World.cell?,u]
 have v2:v.cell? ⟨w1.heap.size,2,none⟩=some (.slice (X b).A (D b).n (X b).c):=by simp [World.cell?,u]
 have hvs:w1.heap.size<v.heap.size:=(zY u).1;have hwy:=Q.out v O.out;clear d r u hBv;go_wp2_with fail;refine hwy.mono ?_;rintro e w2 ⟨rfl,hb2⟩;have H:=aa hb2;clear hb2 hwy v0 v1 v2 hv a0 a1 a2 a3;go_wp2_with fail;clear s
 go_loopg [7,27] N (fun gg s7 s27 wr => ∃ (k:Nat) (AO:Option Addr) (cO:Nat),k≤N∧gg=N-k∧s27=.int .i64 k∧s7=.slice AO k cO∧Hid (wr.ownsRow w2.heap.size 3 1 (.slice AO k cO) k (aE ((P.take k).map f)))∧Hid (Bl w2 wr))
 case atStart=>exact ⟨0,none,0,zU,rfl,rfl,rfl,World.ownsRow_nil _ _ _ _,zS⟩
 case round =>
  obtain ⟨k,AO,cO,hk,rfl,rfl,rfl,HO,I⟩:=hrel;have L:=aa (ae O.out (ae H.out I.out))
  by_cases hlt:k<N
  ·have hki:(k:Int)<(N:Int):=by omega
   have V:k<P.length:=by rw [HN.out];exact hlt
   obtain ⟨j,y,hj,hjn,hy,hyN,Z⟩:=l.out _ (gK V);obtain ⟨hcI,-,h0 | ⟨bi,cs,fr,hAi,hbi,hcl⟩⟩:=J.out wr L.out
   ·have:=HN.out;rw [h0] at this;simp at this;omega
   have cx:=hcl k V;have hbil:bi<wr.heap.size:=(zY hbi).1;rw [HN.out] at hcI;rw [hj] at cx;have hcII:(N:Int)≤(ci:Int):=by omega
   have HNx:Hid ((P.take (k+1)).map f=(P.take k).map f ++ [(y:Int)]):=by show _=_;rw [AY f P V,hy]
   have hyI:(y:Int)≤3000:=by have:=HX3.out;omega
   obtain ⟨t1,W⟩:∃ t:Int,(j:Int)-(m:Int)=t:=⟨_,rfl⟩;obtain ⟨t2,Y⟩:∃ t:Int,t1*(S:Int)=t:=⟨_,rfl⟩;rw [W,Y] at Z;have hjI:(j:Int)≤3000:=by have:=HDn.out;omega
   have hw1:IntKind.i64.wrap ((j:Int)-(m:Int))=t1:=by rw [W];exact IntWalk.i64_in _ (by omega)
   have hw2:IntKind.i64.wrap (t1*(S:Int))=t2:=by rw [Y];exact IntWalk.i64_in _ (by omega)
   have hw3:IntKind.i64.wrap ((x:Int)+t2)=(y:Int):=by rw [Z];exact IntWalk.i64_in _ (by omega)
   have HC:Hid (∀ w',Bl wr w'→w'.cell? ⟨w1.heap.size,0,none⟩=some (.int .i64 (D b).solve)∧w'.cell? ⟨w1.heap.size,1,none⟩=some (.int .i64 S)∧w'.cell? ⟨w1.heap.size,2,none⟩=some (.slice (X b).A (D b).n (X b).c)):=fun w' h=>by
    have T:=((ae H.out (ae I.out h)).block w1.heap.size hvs).trans HVb.out;exact ⟨by simp [World.cell?,T],by simp [World.cell?,T],by simp [World.cell?,T]⟩
   obtain ⟨p0,p1,p2⟩:=HC.out wr (zS);have hs7:=I.out.size;have hs8:=H.out.size;have hax:w1.heap.size<wr.heap.size:=by omega
   have HFin:Hid (∀ (w4 w6:World) (o':Obj) (A6:Option Addr) (c6:Nat),Bl wr w4→w6.ownsRow w2.heap.size 3 1 (.slice A6 (k+1) c6) (k+1) (aE ((P.take k).map f) ++ [.int .i64 (y:Int)])→(w4.alloc o').grownBy w6 (Value.slice AO k cO).ownBlock→Hid (w6.ownsRow w2.heap.size 3 1 (.slice A6 (k+1) c6) (k+1) (aE ((P.take (k+1)).map f)))∧Hid (Bl w2 w6)):=fun w4 w6 o' A6 c6 h4 h6 hg=>by
    refine ⟨?_,bA (ae I.out h4) (ar HO.out h4) hg⟩
    show World.ownsRow ..
    rw [HNx.out,mapI_snoc];exact h6
   clear hcl hbi hj hy Z W Y hyN hjn;subst hAi;go_wp2_with fail
   go_region_law ((first
    | (refine step_append_lies _ (by rfl) _ _ _ (by rfl) w2.heap.size 3 i0 _ 1 8 Tryz.underlying26 hi0 hz0 hz1 hz2 rfl (by omega) (.slice AO k cO) k (aE ((P.take k).map f)) (by rfl) (ar HO.out (by go_grown)) ⟨w4.heap.size,0,none⟩ 1 1 [.int .i64 y] (by rfl) (by rfl) (World.news_of_block (cs := #[.int .i64 y]) (t:=3) (fr:=(0,0)) (heap_alloc_new w4 _)) (by simp [Value.oneCell']) (by omega) (by unfold maxLen;omega) (by omega) (by simp;omega) (w4.heap.size+1) (by simp) ?_;intro gg cg w6 F C hat hlt6)
    | (go_simp;refine (HMb.out _).mono ?_;rintro e w4 ⟨rfl,hb4⟩;have hN4:=ae (W0:=wr) (by go_grown) hb4;have hs4:=hN4.size;obtain ⟨x0,x1,x2⟩:=HC.out _ hN4;clear hb4)))
   all_goals (obtain ⟨HO6,HB6⟩:=HFin.out _ _ _ _ _ (by go_grown) F C)
   all_goals clear F C hat
   all_goals go_wp2_with fail
   all_goals go_roundg (N-(k+1))
   all_goals first | omega | exact ⟨k+1,_,_,by omega,rfl,by go_num,rfl,HO6,HB6⟩
  have hke:k=N:=by omega
  subst hke;have HF:Hid (wr.ownsRow w.heap.size 3 1 (.slice AO k cO) (ndsX D n x).length (aE (ndsX D n x))):=by
   have h:=HO.out;rw [List.take_of_length_le (by rw [HN.out];exact zT),←B.out] at h
   have hl:(ndsX D n x).length=k:=by rw [B.out,List.length_map];exact HN.out
   show World.ownsRow ..
   rw [hl];exact kM h (by have:=H.out.size;have:=O.out.size;omega)
  go_wp2_with fail;go_ret;exact ⟨⟨_,rfl,HF.out⟩,L.out⟩
theorem wV (q g n:Nat) (D:Nat→Dm) (X:Nat→AL) (x:Nat) (w:World) (E:dS D n) (t:(ah D n).2.2=0) (H:x<prodN D n) (P:ff w q g n D X) :
  Calls Tryz.prog 124 #[.pointer (some ⟨q,0,none⟩),.int .i64 x] w fun e w'=>(∃ A' O T,e=.returned (.tuple #[.slice A' T.length O,.nilIface])∧aY w' A' O T∧ey D n (ak D n x) T∧(∀ z,z∈T↔z∈ndsX D n x)∧∀ a,A'=some a→w.heap.size≤a.block)∧Bl w w':=by
 obtain ⟨hn1,hn4,Y,hd⟩:=aw t;obtain ⟨hq,q0,q1⟩:=P.cells;have l:=lw q g n D X x w E t H P;have C:=aa (iX E t H);have j:Hid (∀ z,z∈((ndsX D n x).mergeSort fun a b=>decide (a≤b))↔z∈ndsX D n x):=fun z=>(List.mergeSort_perm _ _).mem_iff
 have hl:=mB E t H;obtain ⟨N,Z⟩:=ax (prodN D n);rw [Z] at q1 H Y;have hxI:(x:Int)<(N:Int):=by omega
 have hNI:(N:Int)≤3000:=by omega
 obtain ⟨zs,B⟩:=ax (ndsX D n x);rw [B] at l C hl j ⊢;obtain ⟨k,G⟩:=ax zs.length;have K:=aa G;have i:Hid ((zs.mergeSort fun a b=>decide (a≤b)).length=k):=by show _=_;rw [List.length_mergeSort];exact G
 rw [G] at l hl;clear B t E P hd Z G
 go_enter Tryz.func124,Tryz.ntmps124
 go_wp2_with fail;refine l.mono ?_;rintro e w1 ⟨⟨v,rfl,u⟩,A⟩;have p:=aa A;clear A l q0 q1
 by_cases hz:v=.slice none 0 0
 ·subst hz
  have W:k=0:=by
   rcases u.2 with ⟨_,h⟩ | ⟨g,c,f,h,_⟩
   ·exact h
   cases h
  subst W;have d:=Any.slices_Sort_int_none Tryz.lays189 none 0 w1;have M:Hid ((zs.mergeSort fun a b=>decide (a≤b))=[]):=List.eq_nil_of_length_eq_zero i.out
  clear u;go_wp2_with fail;refine Calls.mono d ?_;rintro e w4 ⟨rfl,rfl⟩;go_wp2_with fail;go_returns;refine ⟨⟨none,0,(zs.mergeSort fun a b=>decide (a≤b)),by rw [i.out];rfl,by rw [M.out];exact aY.nil _ _ _ (by omega),C.out,j.out,fun a R=>(by cases R)⟩,p.out⟩
 obtain ⟨gg,c,hv,U,V,hnc,S,-,Q⟩:=Lib.holds_of_ownsRow (enc:=Value.int .i64) (zs:=zs) u hz;subst hv;obtain ⟨f,F⟩:∃ f:Array Value,w1.heap[gg]?=some (.cells f 3 (0,0)):=by
  rcases u.2 with ⟨h,_⟩ | ⟨g',O,f,h,_,F,_⟩
  ·cases h
  cases h;exact ⟨f,F⟩
 have d:=Any.slices_Sort_int Tryz.lays189 gg 0 c zs w1 Q V (by have:=K.out;omega)
 rw [K.out] at d;have s:Hid (∀ m os,aY (grow (putRow (Value.int .i64) (Sort.ahead w1 m) gg 0 (zs.mergeSort fun x y=>decide (x≤y)).toArray) os) (some ⟨gg,0,none⟩) c (zs.mergeSort fun x y=>decide (x≤y))):=fun m os=>mr F Q (by rw [List.length_mergeSort]) (by have:=K.out;omega) (by unfold maxLen at S;omega)
 have r:Hid (∀ m os,Bl w (grow (putRow (Value.int .i64) (Sort.ahead w1 m) gg 0 (zs.mergeSort fun x y=>decide (x≤y)).toArray) os)):=fun m os=>jQ p.out (by omega)
 generalize hys:(zs.mergeSort fun x y=>decide (x≤y))=ys at d s r C j i
 clear u Q F hys;go_wp2_with fail;refine Calls.mono d ?_;rintro e w4 ⟨rfl,m,os,o⟩;have L:Hid (aY w4 (some ⟨gg,0,none⟩) c ys):=by rw [o];exact s.out m os
 have I:Hid (Bl w w4):=by rw [o];exact r.out m os
 have J:=aa U;clear o d;go_wp2_with fail;go_returns;exact ⟨⟨_,c,ys,by rw [i.out];rfl,L.out,C.out,j.out,fun a R=>(by cases R;exact J.out)⟩,I.out⟩
end Go.Proofs.YthlhjjabkgpenaaGreatDoor
