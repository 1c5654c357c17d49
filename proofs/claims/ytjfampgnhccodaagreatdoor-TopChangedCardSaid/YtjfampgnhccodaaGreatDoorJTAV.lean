/- By which dim a place i -/
import Derived.Test.YtjfampgnhccodaaGreatDoorJTAQ
import Derived.Test.YtjfampgnhccodaaGreatDoorJTAU
namespace Go.Proofs.YtjfampgnhccodaaGreatDoor
open Tryz ChangeShapes WideShapes ChangeAt RowKit Go Lib
set_option maxRecDepth 99999
set_option maxHeartbeats 0
theorem G4{D:Nat->Dm}{p:List Int}{k:Nat}(a:leafB (D k).mem (D k).n (p.getD k 0).toNat=false)(b:byTo D p k<0\/(D (byTo D p k).toNat).solve<(D k).solve):byTo D p (k+1)=(k:Int):=by rw[byTo,if_pos ⟨a,b⟩]
theorem CW{D:Nat->Dm}{p:List Int}{k:Nat}(h :¬(leafB (D k).mem (D k).n (p.getD k 0).toNat=false/\(byTo D p k<0\/(D (byTo D p k).toNat).solve<(D k).solve))):byTo D p (k+1)=byTo D p k:=by rw[byTo,if_neg h]
noncomputable def cuErr(D:Nat->Dm)(n:Nat)(l:List En):Int:=if(au D n).2.2≠0 then(au D n).2.2 else entsErr D n l
def dN(D:Nat->Dm)(n:Nat)(L:List (Int×Int))(e:En):List (Int×Int):=L.set (numI D e.pl n).toNat (1,e.n)
def wrV(D:Nat->Dm)(n:Nat)(l:List En):List (Int×Int):=l.foldl (dN D n) (List.replicate (prodN D n) (0,0))
theorem vt(D:Nat->Dm)(n:Nat):∀(l:List En) (L:List (Int×Int)),(l.foldl (dN D n) L).length=L.length
 | [],_=>rfl
 |e :: r,L=>by rw[List.foldl_cons,vt D n r];unfold dN;rw[List.length_set]
theorem pD(D:Nat->Dm)(n:Nat)(l:List En):(wrV D n l).length=prodN D n:=by unfold wrV;rw[vt];simp
theorem ME(D:Nat->Dm)(n:Nat)(L:List (Int×Int))(xs:List EnL){k:Nat}(h:k<xs.length):((lE xs).take (k+1)).foldl (dN D n) L=dN D n (((lE xs).take k).foldl (dN D n) L) (xs.getD k noL).e:=by
 have a:k<(lE xs).length:=by rw[aR];exact h
 rw[List.take_succ_eq_append_getElem a,List.foldl_append];have e:(lE xs)[k]=(xs.getD k noL).e:=by rw[←lE_at,zZ,zX a];rfl
 rw[e]
 rfl
theorem EV{x:Int}(h:dE x=true):dq (1,x):=by
 have hn : -1000000<=x/\x<=1000000:=by simpa [dE]using h
 exact decide_eq_true (Or.inl ⟨rfl,ω,ω⟩)
theorem rE(n:Nat)(f:n<=3000)(w:World):(Instr.makeSlice 35 (.int .i64 (n:Int)) (.int .i64 (n:Int))).run prog w=.ok (.slice (some ⟨w.heap.size,0,none⟩) n n) (w.alloc (.cells (madeCells #[.int .i64 0,.int .i64 0] (n*2)) 61)):=by
 obtain⟨i0,a,b,c,d⟩:=info_parts infoCe;have e:=run_make (P:=prog) w 35 61 i0 _ underlying35 a b .i64 .i64 n n ω (Int.le_refl _) (by rw[d];omega) ω
 simp only[Int.toNat_natCast,c]at e;exact e
theorem Ec(w:World)(n:Nat):cB (w.alloc (.cells (madeCells #[.int .i64 0,.int .i64 0] (n*2)) 61)) w.heap.size (List.replicate n (0,0)):=by
 refine⟨_,heap_alloc_new w _,fun k c=>?_⟩
 have a:k<n:=by simpa using c
 have b:(List.replicate n ((0:Int),(0:Int))).getD k noC=(0,0):=by simp[List.getD,a]
 rw[b]
 constructor
 ·simp[madeCells,show k*2<n*2 by omega]
 simp[madeCells,show k*2+1<n*2 by omega,show(k*2+1) % 2=1 by omega]
theorem zN(A0:Option Addr)(cap n:Nat)(D:Nat->Dm)(A:Nat->Option Addr)(C:Nat->Nat)(AE:Option Addr)(ce:Nat)(xs:List EnL)(w:World)(f:aL w A0 cap n D A C)(d:bU w AE ce xs)(g:entsErr D n (lE xs)≠0):
  Calls prog 27 #[.agg #[.slice A0 n cap],.slice AE xs.length ce] w fun e w'=>(∃A' c',e=.returned (.tuple #[.slice A' 0 c',.iface 71 (.int .i64 (entsErr D n (lE xs)))]))/\Bl w w':=by
 have a:=ay w A0 n cap 24;have h:=dW A0 cap n D A C AE ce xs (aE w A0 n cap 24) (f.later a) (d.later a);have c:=aa a;rw[ac g]at h;clear g f d a;generalize entsErr D n (lE xs)=ee at h;generalize xs.length=N at h
 go_enter func27,ntmps27
 go_wp2_with fail;refine h.mono ?_;rintro e w1⟨rfl,b⟩;have i:=aa (ad c.o b);clear b h;go_wp2_with fail
 go_ret2
 exact⟨⟨none,0,rfl⟩,i.o⟩
def OI(D:Nat->Dm)(n:Nat)(l:List En)(m:Nat):List (Int×Int):=(List.range m).map fun x=>getE l (ah D n x)
theorem Mt(D:Nat->Dm)(n:Nat)(l:List En)(m:Nat):(OI D n l m).length=m:=by simp[OI]
theorem vr{D:Nat->Dm}{n x:Nat}:∀(l:List En) (L:List (Int×Int)),(∀e∈l,InO D n e.pl)->L.length=prodN D n->(∀e∈l,(numI D e.pl n).toNat≠x)->(l.foldl (dN D n) L).getD x (0,0)=L.getD x (0,0)
 | [],_,_,_,_=>rfl
 |e :: r,L,hi,hL,h=>by
  obtain⟨b,c,-⟩:=bQ (hi e (List.mem_cons_self ..)) (Nat.le_refl n);rw[List.foldl_cons,vr r _ (fun y a=>hi y (List.mem_cons_of_mem _ a)) (by unfold dN;rw[List.length_set];exact hL) fun y a=>h y (List.mem_cons_of_mem _ a)]
  unfold dN;have:=h e (List.mem_cons_self ..)
  simp[List.getD,List.getElem?_set_ne this]
theorem DV{D:Nat->Dm}{n:Nat}{e:En}:∀(l:List En) (L:List (Int×Int)),(∀y∈l,InO D n y.pl)->(l.Pairwise fun a b=>az a.pl b.pl=true)->L.length=prodN D n->e∈l->(l.foldl (dN D n) L).getD (numI D e.pl n).toNat (0,0)=(1,e.n)
 | [],_,_,_,_,h=>by cases h
 |y :: r,L,hi,hr,hL,h=>by
  have g:=List.pairwise_cons.1 hr;have f:=hi y (List.mem_cons_self ..);have c:=fun z i=>hi z (List.mem_cons_of_mem y i)
  obtain⟨j,k,-⟩:=bQ f (Nat.le_refl n);rw[List.foldl_cons];have d:(dN D n L y).length=prodN D n:=by unfold dN;rw[List.length_set];exact hL
  rcases List.mem_cons.1 h with rfl|h
  ·rw[vr r _ c d fun z i=>by
    have m:=xk f (c z i) (g.1 z i);obtain⟨o,-,-⟩:=bQ (c z i) (Nat.le_refl n)
    omega]
   unfold dN;have:(numI D e.pl n).toNat<L.length:=ω;simp[List.getD,this]
  exact DV r _ c g.2 d h
theorem N9{D:Nat->Dm}{n:Nat}{l:List En}(h:Ens D n l):wrV D n l=OI D n l (prodN D n):=by
 apply List.ext_getElem (by rw[pD,Mt])
 intro x b k;rw[pD]at b;have f:(wrV D n l).getD x (0,0)=getE l (ah D n x):=by
  unfold wrV
  by_cases g:∃e,e∈l/\(numI D e.pl n).toNat=x
  ·obtain⟨e,a,d⟩:=g
   have c:=DV l (List.replicate (prodN D n) (0,0)) (fun y i=>(h.each y i).1) h.rise σ a
   rw[d]at c;rw[c,←d,iO (h.each e a).1,o8 h.rise a]
  rw[vr l _ (fun y i=>(h.each y i).1) σ fun e a d=>g ⟨e,a,d⟩]
  rw[(lW h.rise fun e a j=>g ⟨e,a,by rw[j,nj h.right b];omega⟩).1]
  simp[List.getD,b]
 have c:x<(wrV D n l).length:=by rw[pD];exact b
 rw[zZ,zX c]at f;simp only[Option.getD_some]at f;rw[f]
 simp[OI]
def nT(D:Nat->Dm)(n:Nat)(p:List Int)(T:List Int):Prop:=T.Pairwise (· < ·)/\T.length<=12/\∀z,z∈T↔∃b:Nat,byTo D p n=(b:Int)/\∃x∈f9 (D b) (p.getD b 0).toNat,z=numI D (p.set b x) n
section
variable {D:Nat->Dm} {n:Nat}
theorem kv(q:eT D n)(p:(ag D n).2.2=0){i:Nat}{T:List Int}(r:nT D n (ah D n i) T){z:Int}(t:z∈T):∃j:Nat,z=(j:Int)/\j<prodN D n/\msrTo D (ah D n j) n<msrTo D (ah D n i) n:=by
 obtain⟨b,u,x,o,rfl⟩:=(r.2.2 z).1 t;have g:InO D n (ah D n i):=dp p;have a:b<n:=by
  rcases by_in D (ah D n i) n with h|⟨b',h1,h2⟩
  ·omega
  omega
 have f:=fA o;have c:=lX g a f.1 f.2;have l:=g.lo b a;have s:=g.hi b a;have e:=mw (q b a) (i:=((ah D n i).getD b 0).toNat) ω o
 rw[Int.toNat_of_nonneg l]at e;have k:=(jU (by rw[g.len];exact a) e n).2 a
 obtain⟨j,m⟩:∃j:Nat,numI D ((ah D n i).set b x) n=(j:Int):=⟨(numI D ((ah D n i).set b x) n).toNat,by have:=(bQ c (Nat.le_refl n)).1;omega⟩
 refine⟨j,m,by have:=(bQ c (Nat.le_refl n)).2.1;omega,?_⟩
 have d:=iO c;rw[m,Int.toNat_natCast]at d;rw[d];exact k
end
section
variable {D:Nat->Dm} {n:Nat}
theorem Kq(b:eT D n)(a:(ag D n).2.2=0){N:List (List Int)}(h:N.length=prodN D n)(c:∀i,i<prodN D n->nT D n (ah D n i) (N.getD i [])):rZ N:=fun i g x d=>by
 obtain⟨j,e,f,-⟩:=kv b a (c i ω) d
 omega
theorem Gr(j:eT D n)(h:(ag D n).2.2=0){N:List (List Int)}(t:N.length=prodN D n)(k:∀i,i<prodN D n->nT D n (ah D n i) (N.getD i []))(i:Nat)(s:i<N.length):cycB N i=false:=by
 rw[ui];intro q;have f:∀ {a b:Int},Rch N a b->∀x:Nat,a=(x:Int)->x<prodN D n->∃y:Nat,b=(y:Int)/\y<prodN D n/\msrTo D (ah D n y) n<msrTo D (ah D n x) n:=by
  intro a b e
  induction e with
  |one hx =>
   intro x c d;subst c;unfold jD at hx;rw[Int.toNat_natCast]at hx;exact kv j h (k x d) hx
  |more hx _ ih =>
   intro x c d;subst c;unfold jD at hx;rw[Int.toNat_natCast]at hx;obtain⟨y,g,l,m⟩:=kv j h (k x d) hx;obtain⟨z,o,p,r⟩:=ih y g l;exact⟨z,o,p,ω⟩
 obtain⟨y,g,-,m⟩:=f q i rfl ω
 have:y=i:=ω;subst this
 omega
end
section
variable {D:Nat->Dm} {n:Nat}
def KT(D:Nat->Dm)(n i j:Nat):Prop := ∃b:Nat,byTo D (ah D n i) n=(b:Int)/\∃x∈f9 (D b) ((ah D n i).getD b 0).toNat,(j:Int)=numI D ((ah D n i).set b x) n
theorem pC{i j:Nat}{T:List Int}(a:nT D n (ah D n i) T):KT D n i j↔(j:Int)∈T:=(a.2.2 _).symm
inductive Ndd(D:Nat->Dm)(n:Nat):Nat->Nat->Prop
 |refl (i:Nat):Ndd D n i i
 |step {i j k:Nat}:KT D n i j->Ndd D n j k->Ndd D n i k
noncomputable def Ng(D:Nat->Dm)(n:Nat)(at':List Int)(i:Nat):Bool := @decide (∃a:Nat,(a:Int)∈at'/\Ndd D n i a) (Classical.propDecidable _)
theorem p9{at':List Int}{i:Nat}:Ng D n at' i=true↔∃a:Nat,(a:Int)∈at'/\Ndd D n i a:=by unfold Ng;exact @decide_eq_true_iff _ (Classical.propDecidable _)
noncomputable def drtL(D:Nat->Dm)(n:Nat)(at':List Int):List Int:=selTo (Ng D n at') (prodN D n)
end
section
variable {D:Nat->Dm} {n:Nat}
noncomputable def NU(D:Nat->Dm)(n i j:Nat):Bool := @decide (KT D n i j) (Classical.propDecidable _)
theorem yQ{i j:Nat}:NU D n i j=true↔KT D n i j:=by unfold NU;exact @decide_eq_true_iff _ (Classical.propDecidable _)
noncomputable def NW(D:Nat->Dm)(n i:Nat):List Int:=selTo (NU D n i) (prodN D n)
theorem mC(d:eT D n)(c:(ag D n).2.2=0){i:Nat}{T:List Int}(a:nT D n (ah D n i) T):T=NW D n i :=
 mu _ _ a.1 (gK _ _) fun x=>⟨fun b=>by
  obtain⟨j,rfl,e,-⟩:=kv d c a b;exact ks e (yQ.2 ((pC a).2 b)),fun b=>by
  obtain⟨m,rfl,-,f⟩:=dy _ b;exact(pC a).1 (yQ.1 f)⟩
noncomputable def rowsL(D:Nat->Dm)(n:Nat):List (List Int):=(List.range (prodN D n)).map (NW D n)
theorem bG:(rowsL D n).length=prodN D n:=by simp[rowsL]
theorem my{i:Nat}(a:i<prodN D n):(rowsL D n).getD i []=NW D n i:=by
 unfold rowsL;rw[zZ,List.getElem?_map,List.getElem?_range a]
 rfl
noncomputable def caL(D:Nat->Dm)(n:Nat)(l:List En):List (Int×Int):=if cuErr D n l=0 then(List.range (prodN D n)).map (fun j=>gN D n (getE l) (ah D n j))else[]
theorem ue{l:List En}(h:cuErr D n l≠0):caL D n l=[]:=by unfold caL;rw[if_neg h]
theorem fZ{l:List En}(h:cuErr D n l=0):(caL D n l).length=prodN D n:=by unfold caL;rw[if_pos h];simp
theorem pM{l:List En}(h:cuErr D n l=0){j:Nat}(a:j<prodN D n):(caL D n l).getD j noC=gN D n (getE l) (ah D n j):=by
 unfold caL;rw[if_pos h,zZ,List.getElem?_map,List.getElem?_range a]
 rfl
theorem MV{l:List En}(h:cuErr D n l=0){L:List (Int×Int)}(d:L.length=prodN D n)(f:∀j,j<prodN D n->L.getD j noC=gN D n (getE l) (ah D n j)):L=caL D n l:=by
 refine List.ext_getElem (by rw[d,fZ h]) fun i b c=>?_
 have a:i<prodN D n:=ω;have e:=(f i a).trans (pM h a).symm;rw[zZ,zX b,zZ,zX c]at e;exact e
noncomputable def coL(D:Nat->Dm)(n:Nat):List Int:=if(au D n).2.2=0 then av (rowsL D n) (prodN D n)else[]
theorem Oo{l:List En}(h:cuErr D n l=0):(au D n).2.2=0/\entsErr D n l=0:=by
 have b:(au D n).2.2=0:=by
  by_cases a:(au D n).2.2=0
  ·exact a
  unfold cuErr at h;rw[if_pos a]at h;exact absurd h a
 exact⟨b,by unfold cuErr at h;rw[b,if_neg σ]at h;exact h⟩
end
def GG(fn q r:Nat)(w:World)(N:List ByteArray)(C:List (Int×Int)):Prop := ∀(x:ByteArray) (w':World),Bl w w'->Calls prog fn #[.string x,.pointer (some ⟨q,0,none⟩),.pointer (some ⟨r,0,none⟩)] w' fun e w''=>e=.returned (.tuple #[.agg #[.int .i64 (GD N C x).1,.int .i64 (GD N C x).2],errV (IB N x)])/\Bl w' w''
def sq(N:List ByteArray)(C T:List (Int×Int))(x:Nd):Int×Int:=if x.op=1 then iI x.n else if x.op=2 then GD N C x.name else Br x.op (T.getD x.left.toNat noC) (T.getD x.right.toNat noC)
def uK(N:List ByteArray)(x:Nd):Int:=if x.op=2 then IB N x.name else 0
theorem xN{N:List ByteArray}{C T:List (Int×Int)}{x:Nd}(h:x.op=1):sq N C T x=iI x.n/\uK N x=0:=by unfold sq uK;rw[if_pos h,if_neg ω];exact⟨rfl,rfl⟩
theorem uM{N:List ByteArray}{C T:List (Int×Int)}{x:Nd}(h:x.op=2):sq N C T x=GD N C x.name/\uK N x=IB N x.name:=by unfold sq uK;rw[if_neg ω,if_pos h,if_pos h];exact⟨rfl,rfl⟩
theorem Dx{N:List ByteArray}{C T:List (Int×Int)}{x:Nd}(h:2<x.op):sq N C T x=Br x.op (T.getD x.left.toNat noC) (T.getD x.right.toNat noC)/\uK N x=0:=by unfold sq uK;rw[if_neg ω,if_neg ω,if_neg ω];exact⟨rfl,rfl⟩
theorem NF{o:Int}{a b:Int×Int}(c:uI a)(d:uI b):(o=3->mH 160 a.1 a.2 b.1 b.2 (Br o a b).1 (Br o a b).2 .nilIface)/\(o=4->mH 159 a.1 a.2 b.1 b.2 (Br o a b).1 (Br o a b).2 .nilIface)/\(o=5->mH 261 a.1 a.2 b.1 b.2 (Br o a b).1 (Br o a b).2 .nilIface)/\(o=6->mH 262 a.1 a.2 b.1 b.2 (Br o a b).1 (Br o a b).2 .nilIface):=by
 refine⟨?_,?_,?_,?_⟩ <;>rintro rfl
 ·exact CT _ _ _ _ c d
 ·exact DP _ _ _ _ c d
 ·exact LK _ _ _ _ c d
 exact Lc _ _ _ _ c d
theorem Hb{T:List (Int×Int)}(a:∀c∈T,uI c)(i:Nat):uI (T.getD i noC):=by
 rw[zZ];cases h:T[i]? with
 |none=>exact Jb
 |some c=>exact a c (List.mem_of_getElem? h)
theorem FY(L q r:Nat)(P:∀(args:Array Value) (w:World),(callFunc L args).run prog w=.ok (.enter L args) w)(N:List ByteArray)(C T:List (Int×Int))(At:Option Addr)(O:Nat)(x:Nd)(w:World)(D:ndErr x T.length=0)(hn:T.length<=30)(M:eP w At O T)(A:∀c∈T,uI c)(h:GG L q r w N C):
  Rt 212 #[IW x,.slice At T.length O,.func (.func L) #[] #[.pointer (some ⟨q,0,none⟩),.pointer (some ⟨r,0,none⟩)]] w (.tuple #[.agg #[.int .i64 (sq N C T x).1,.int .i64 (sq N C T x).2],errV (uK N x)]):=by
 rw[ga];have Q:1<=x.op/\x.op<=6:=by
  unfold ndErr at D
  split at D
  ·cases D
  omega
 by_cases E:x.op=1
 ·obtain⟨p,s⟩:=xN (N:=N) (C:=C) (T:=T) E
  rw[p,s,errV_zero,E];have I:=jk x.n;clear D M h p s E
  go_enter func212,ntmps212
  go_wp2_with fail;refine(I _).mono ?_;rintro e w1⟨rfl,d⟩;obtain⟨g,j⟩:=fk d;have k:=fl d
  simp at k
  have i:Bl w w1:=ad γ d
  have f:=aa i;clear d i I;go_wp2_with fail;refine bodyPost_ret (v:=.tuple #[.agg #[.int .i64 (iI x.n).1,.int .i64 (iI x.n).2],.nilIface]) (by simp[results,results212,go_sem,g]) rfl ⟨rfl,?_⟩
  exact((f.o.setCell σ _).setCell σ _)
 by_cases F:x.op=2
 ·obtain⟨p,s⟩:=uM (N:=N) (C:=C) (T:=T) F
  rw[p,s,F];have y:=h x.name;obtain⟨c,H⟩:=ar (GD N C x.name);obtain⟨V,z⟩:=ar (errV (IB N x.name));rw[H,z]at y;rw[H,z];clear D M h p s F H z
  go_enter func212,ntmps212
  go_wp2_with fail;refine(y _ γ).mono ?_
  rintro e w1⟨rfl,d⟩;obtain⟨g,j⟩:=fk d;have k:=fl d
  simp at k
  have i:Bl w w1:=ad γ d
  have f:=aa i;clear d i y;go_wp2_with fail;refine bodyPost_ret (v:=.tuple #[.agg #[.int .i64 c.1,.int .i64 c.2],V]) (by simp[results,results212,go_sem,g]) rfl ⟨rfl,?_⟩
  exact((f.o.setCell σ _).setCell σ _)
 obtain⟨p,s⟩:=Dx (N:=N) (C:=C) (T:=T) (x:=x) ω
 obtain⟨a1,a2,a3,a4⟩:=e8 D ω
 obtain⟨a,W⟩:∃a:Nat,x.left=a:=⟨x.left.toNat,ω⟩
 obtain⟨c,H⟩:∃c:Nat,x.right=c:=⟨x.right.toNat,ω⟩
 rw[p,s,errV_zero,W,H,Int.toNat_natCast,Int.toNat_natCast];obtain⟨-,-,G⟩:=M;obtain⟨b,o,rfl,l⟩:=G.resolve_left (fun e=>by rw[e]at a2;simp at a2;omega)
 obtain⟨p3,p4,p5,p6⟩:=NF (o:=x.op) (Hb A a) (Hb A c);obtain⟨y0,y1⟩:=l.2 a ω
 obtain⟨z0,z1⟩:=l.2 c ω
 have Y:=l.1;obtain⟨u,S⟩:=ar (T.getD a noC);obtain⟨v,U⟩:=ar (T.getD c noC);rw[S]at y0 y1 p3 p4 p5 p6|-;rw[U]at z0 z1 p3 p4 p5 p6|-;obtain⟨ov,J⟩:=ar x.op;rw[J]at p3 p4 p5 p6 Q E F|-;obtain⟨t,R⟩:=ar (Br ov u v);rw[R]at p3 p4 p5 p6|-;unfold mH at p3 p4 p5 p6;obtain⟨m,hm⟩:=ar T.length;rw[hm]at hn a2 a4|-;have X:(a:Int)<(m:Int):=ω;have Z:(c:Int)<(m:Int):=ω;have ab:(m:Int)<=30:=ω;have K:ov=3\/ov=4\/ov=5\/ov=6:=ω;clear D h p s E F S U R l G A Q J a1 a3
 rcases K with rfl|rfl|rfl|rfl
 ·have B:=p3 rfl
  clear p3 p4 p5 p6
  go_enter func212,ntmps212
  go_wp2_with fail
  go_region_law ((go_simp;refine(B _).mono ?_;rintro e w1⟨rfl,d⟩;obtain⟨g,j⟩:=fk d;have k:=fl d;simp at k;have f:Hid (Bl w w1):=(ad γ d);clear d))
  all_goals
   go_wp2_with fail;refine bodyPost_ret (v:=.tuple #[.agg #[.int .i64 t.1,.int .i64 t.2],.nilIface]) (by simp[results,results212,go_sem,g]) rfl ⟨rfl,?_⟩
   exact((f.o.setCell σ _).setCell σ _)
 ·have B:=p4 rfl
  clear p3 p4 p5 p6
  go_enter func212,ntmps212
  go_wp2_with fail
  go_region_law ((go_simp;refine(B _).mono ?_;rintro e w1⟨rfl,d⟩;obtain⟨g,j⟩:=fk d;have k:=fl d;simp at k;have f:Hid (Bl w w1):=(ad γ d);clear d))
  all_goals
   go_wp2_with fail;refine bodyPost_ret (v:=.tuple #[.agg #[.int .i64 t.1,.int .i64 t.2],.nilIface]) (by simp[results,results212,go_sem,g]) rfl ⟨rfl,?_⟩
   exact((f.o.setCell σ _).setCell σ _)
 ·have B:=p5 rfl
  clear p3 p4 p5 p6
  go_enter func212,ntmps212
  go_wp2_with fail
  go_region_law ((go_simp;refine(B _).mono ?_;rintro e w1⟨rfl,d⟩;obtain⟨g,j⟩:=fk d;have k:=fl d;simp at k;have f:Hid (Bl w w1):=(ad γ d);clear d))
  all_goals
   go_wp2_with fail;refine bodyPost_ret (v:=.tuple #[.agg #[.int .i64 t.1,.int .i64 t.2],.nilIface]) (by simp[results,results212,go_sem,g]) rfl ⟨rfl,?_⟩
   exact((f.o.setCell σ _).setCell σ _)
 have B:=p6 rfl;clear p3 p4 p5 p6
 go_enter func212,ntmps212
 go_wp2_with fail
 go_region_law ((go_simp;refine(B _).mono ?_;rintro e w1⟨rfl,d⟩;obtain⟨g,j⟩:=fk d;have k:=fl d;simp at k;have f:Hid (Bl w w1):=(ad γ d);clear d))
 all_goals
  go_wp2_with fail;refine bodyPost_ret (v:=.tuple #[.agg #[.int .i64 t.1,.int .i64 t.2],.nilIface]) (by simp[results,results212,go_sem,g]) rfl ⟨rfl,?_⟩
  exact((f.o.setCell σ _).setCell σ _)
def eu(N:List ByteArray)(C:List (Int×Int))(l:List Nd)(k:Nat):List (Int×Int):=(List.range k).map fun i=>iX N C (aI l i)
section
variable {N:List ByteArray} {C:List (Int×Int)} {l:List Nd} {k i:Nat}
theorem told_len:(eu N C l k).length=k:=by simp[eu]
theorem vm(h:i<k):(eu N C l k).getD i noC=iX N C (aI l i):=by simp[eu,List.getD,h]
theorem Gs:eu N C l (k+1)=eu N C l k++[iX N C (aI l k)]:=by simp[eu,List.range_succ]
theorem MG(b:∀c∈C,uI c):∀c∈eu N C l k,uI c:=by
 intro c a;simp only[eu,List.mem_map]at a;obtain⟨i,-,rfl⟩:=a;exact N5 N b _
theorem Ji(e:ua l)(d:k<l.length)(f:jy N l k=false):sq N C (eu N C l k) (l.getD k bT)=iX N C (aI l k)/\uK N (l.getD k bT)=0:=by
 have h:=qR (e k d)
 by_cases g:(l.getD k bT).op=1
 ·obtain⟨a,b⟩:=xN (N:=N) (C:=C) (T:=eu N C l k) g
  rw[a,b,yT g];exact⟨rfl,rfl⟩
 by_cases c:(l.getD k bT).op=2
 ·obtain⟨a,b⟩:=uM (N:=N) (C:=C) (T:=eu N C l k) c
  unfold jy at f;rw[decide_eq_true c,Bool.true_and]at f;have i:=of_decide_eq_false f;rw[a,b,rQ c];unfold GD IB;rw[if_pos ω,if_pos ω]
  exact⟨rfl,rfl⟩
 obtain⟨a,b⟩:=Dx (N:=N) (C:=C) (T:=eu N C l k) (x:=l.getD k bT) ω
 obtain⟨a1,a2,a3,a4⟩:=e8 (e k d) ω
 rw[a,b,rP e d ω,vm ω,vm ω]
 exact⟨rfl,rfl⟩
theorem Jf(a:jy N l k=true):uK N (l.getD k bT)=5:=by
 simp only[jy,Bool.and_eq_true,decide_eq_true_eq]at a;rw[(uM (N:=N) (C:=[]) (T:=[]) a.1).2];unfold IB;rw[if_neg ω]
end
theorem CY{w:World}{base:Nat}{v:Value}{T:List (Int×Int)}(h:w.ownsRow base 61 2 v T.length (bW T)):∃A c,v=.slice A T.length c/\eP w A c T:=by
 by_cases b:0<T.length
 ·obtain⟨g,c,rfl,-,d,e,f⟩:=vQ h b
  exact⟨_,_,rfl,d,e,Or.inr ⟨g,0,rfl,f.celAt⟩⟩
 have j:T=[]:=List.eq_nil_of_length_eq_zero ω
 subst j
 rcases h.2 with⟨rfl,_⟩|⟨g,cap,a,rfl,n,o,k,i,l,m⟩
 ·exact⟨none,0,rfl,eP.nil _ _ _ ω⟩
 exact⟨_,_,rfl,eP.nil _ _ _ (by unfold maxLen at i;omega)⟩
theorem OE{w:World}{n:Nat}(a:w.heap.size=n)(c:Int×Int):∀j u,(bW [c])[j]?=some u->(w.alloc (.cells #[.int .i64 c.1,.int .i64 c.2] 61)).cell? ((⟨n,0,none⟩:Addr).add j)=some u:=by
 subst a;exact World.news_of_block (cs:=#[.int .i64 c.1,.int .i64 c.2]) (t:=61) (fr:=(0,0)) (heap_alloc_new _ _)
theorem GG.later{a q r:Nat}{w w':World}{N:List ByteArray}{C:List (Int×Int)}(h:GG a q r w N C)(b:Bl w w'):GG a q r w' N C:=fun x aa c=>h x aa (ad b c)
theorem Er(fn q r:Nat)(S:∀(args:Array Value) (w:World),(callFunc fn args).run prog w=.ok (.enter fn args) w)(N:List ByteArray)(C:List (Int×Int))(A:Option Addr)(cap:Nat)(l:List Nd)(w:World)(hN:kx w A cap l)(hl:ax l=0)(hC:∀c∈C,uI c)(Q:GG fn q r w N C):
  Rt 156 #[.slice A l.length cap,.func (.func fn) #[] #[.pointer (some ⟨q,0,none⟩),.pointer (some ⟨r,0,none⟩)]] w (.tuple #[.agg #[.int .i64 (if missT N (aI l (l.length-1))=true then noC else iX N C (aI l (l.length-1))).1,.int .i64 (if missT N (aI l (l.length-1))=true then noC else iX N C (aI l (l.length-1))).2],errV (if missT N (aI l (l.length-1))=true then 5 else 0)]):=by
 obtain⟨i0,aj,an,ao,ap⟩:=info_parts infoCe;obtain⟨hp,az,hg,-⟩:=dH hl;obtain⟨-,-,h1|⟨b,o,rfl,ah⟩⟩:=hN
 ·rw[h1]at hp;simp at hp
 obtain⟨R,B⟩:=ar ((if missT N (aI l (l.length-1))=true then noC else iX N C (aI l (l.length-1))))
 obtain⟨E,I⟩:∃E:Int,(if missT N (aI l (l.length-1))=true then 5 else 0)=E:=⟨_,rfl⟩
 have V:Hid (∀i,i<l.length->jy N l i=true->R=noC/\E=5):=fun i hi t=>by
  rw[←B,←I,if_pos (xA hl hi t),if_pos (xA hl hi t)];exact⟨rfl,rfl⟩
 have U:Hid ((∀i,i<l.length->jy N l i=false)->R=iX N C (aI l (l.length-1))/\E=0):=fun t=>by
  rw[←B,←I,LJ hl t];exact⟨rfl,rfl⟩
 rw[B,I];have HN:=aa ah;have HL:=aa hg;have HC:=aa hC;have HA:=aa Q;have PU:=aa S;obtain⟨n,hn⟩:=ar l.length;have u:=aa hn;rw[hn]at az hp|-;have aJ:(n:Int)<=30:=ω;have aH:0<(n:Int):=ω;clear hl ah hC Q hg B I hn S
 go_enter func156,ntmps156
 obtain⟨W0,K⟩:=ar (w.alloc (.cells #[.int .i64 0,.int .i64 0] 61));have am:W0.heap.size=w.heap.size+1:=by rw[←K];simp
 have ag:Bl w W0:=by rw[←K];exact(zS).alloc zT _
 have PT:=aa ag;have ae:W0.heap[w.heap.size]?=some (.cells #[.int .i64 0,.int .i64 0] 61 (0,0)):=by rw[←K];exact heap_alloc_new _ _
 have Z:=aa ae;have z:=aa am;clear ag ae am
 go_wp2_with (at_make;refine wpList_make_own _ rfl _ _ 35 rfl (w.heap.size+1) 61 i0 _ 2 underlying35 aj an ao _ _ _ n rfl rfl rfl ?qb1 ?qb2 ?qb3 ?_)
 case qb1=>rw[ap];omega
 case qb2=>unfold maxLen;omega
 case qb3=>rw[z.o];exact zT
 intro w1 G d;have af:Bl W0 w1:=⟨d.os,d.tape,d.output,d.size,fun k hk=>d.block k hk σ⟩
 have aq:=aa af;have aw:=aa G;clear G d af K;go_wp2_with fail
 go_loopg [6,16] n (fun g s6 aC wr =>∃(k:Nat),k<=n/\g=n-k/\aC=.int .i64 k/\wr.ownsRow (w.heap.size+1) 61 2 s6 (eu N C l k).length (bW (eu N C l k))/\(∀j,j<k->jy N l j=false)/\Bl W0 wr)
 case atStart=>exact⟨0,zU,rfl,rfl,aw.o,fun j hj=>absurd hj (Nat.not_lt_zero j),aq.o⟩
 case round =>
  obtain⟨k,hk,rfl,rfl,F,al,J⟩:=hrel;obtain⟨At,ct,rfl,P⟩:=CY F;have HO:=aa F;have PV:=aa al;have HW:=aa J;have O:=aa P;have T:=aa (ad PT.o J);have aK:=J.size;clear F al J P
  by_cases M:k<n
  ·have aF:(k:Int)<(n:Int):=ω;obtain⟨x0,x1,x2,x3,x4⟩:=(HN.o.later T.o).nd (k:=k) (by rw[u.o];exact M)
   have aD:b<w.heap.size:=HN.o.1;have ai:=HL.o k (by rw[u.o];exact M)
   have a:=fun w' (hb:Bl wr w')=>FY fn q r PU.o N C (eu N C l k) At ct (l.getD k bT) w' (by rw[told_len];exact ai) (by rw[told_len];omega) (O.o.later hb) (MG HC.o) (HA.o.later (ad T.o hb))
   rw[told_len]at a|-;obtain⟨x,hx⟩:=ar (l.getD k bT);have HX:=aa hx;rw[hx]at x0 x1 x2 x3 x4 a;rw[ga]at a;clear hx ai;cases t:jy N l k
   ·obtain⟨e1,W⟩:=Ji (C:=C) HL.o (by rw[u.o];exact M) t
    rw[HX.o]at e1 W;rw[e1,W,errV_zero]at a;obtain⟨c,Y⟩:=ar (iX N C (aI l k));have av:=aa Y;have HM:=aa t;rw[Y]at a;clear e1 W Y t;go_wp2_with fail;refine(a _ γ).mono ?_
    rintro e w2⟨rfl,D⟩;have f:Bl wr w2:=ad γ D
    have p:=aa (ad HW.o f);have PW:Hid (w2.ownsRow (w.heap.size+1) 61 2 (.slice At k ct) k (bW (eu N C l k))):=by have h:=ak HO.o f;rw[told_len]at h;exact h
    have ab:=f.size;clear D f a
    go_wp2_with (at_builtin;refine wpList_append_own _ rfl _ _ 35 rfl (w.heap.size+1) 61 i0 _ 2 16 underlying35 aj an ao ap rfl (by decide) _ k _ rfl (ak PW.o ?qc0) ⟨w2.heap.size+1,0,none⟩ 1 1 (bW [c]) rfl rfl ?qc1 (pQ _) ?qc2 ?qc3 ?qc4 ?_)
    case qc0=>go_grown
    case qc1=>exact OE σ c
    case qc2=>unfold maxLen;omega
    case qc3=>omega
    case qc4=>have:=z.o;simp;omega
    intro v4 w4 H s _;have au:Hid (Bl W0 w4):=((p.o.alloc p.o.size _).alloc (by have:=p.o.size;simp;omega) _).grown s (by have:=p.o.size;simp;omega) (fun j hj=>by have h1:=(PW.o.lt j hj).1;have h2:=z.o;omega)
    have ay:Hid (w4.ownsRow (w.heap.size+1) 61 2 v4 (eu N C l (k+1)).length (bW (eu N C l (k+1)))):=by
     show World.ownsRow ..
     rw[Gs,cellsC_append,List.length_append,told_len,av.o];exact H
    clear H s;go_wp2_with fail
    go_roundg (n-(k+1))
    case measure=>omega
    case rel=>exact⟨k+1,ω,rfl,by go_num,ay.o,fun j hj=>by rcases Nat.lt_succ_iff_lt_or_eq.1 hj with h|h;exact PV.o j h;rw[h];exact HM.o,au.o⟩
   have W:=Jf (N:=N) (l:=l) (k:=k) t;rw[HX.o]at W;rw[W,ac (by decide)]at a
   obtain⟨B,I⟩:=V.o k (by rw[u.o];exact M) t
   have HR:=aa B;have HE:=aa I;obtain⟨c,Y⟩:=ar (sq N C (eu N C l k) x);rw[Y]at a;clear W Y t B I;go_wp2_with fail;refine(a _ γ).mono ?_
   rintro e w2⟨rfl,D⟩;have f:Bl wr w2:=ad γ D
   have p:=aa (ad HW.o f);have ab:=f.size;have y:=(p.o.block w.heap.size (by have:=z.o;omega)).trans Z.o
   have r1:w.heap.size<w2.heap.size:=(zY y).1;have r2:w2.cell? ⟨w.heap.size,0,none⟩=some (.int .i64 0):=by simp[World.cell?,y]
   have r3:w2.cell? ⟨w.heap.size,1,none⟩=some (.int .i64 0):=by simp[World.cell?,y]
   have rf0:w2.frozen? ⟨w.heap.size,0,none⟩=false:=by simp[World.frozen?,y]
   have rf1:w2.frozen? ⟨w.heap.size,1,none⟩=false:=by simp[World.frozen?,y]
   clear y;clear D f a;go_wp2_with fail;refine bodyPost_ret (v:=.tuple #[.agg #[.int .i64 R.1,.int .i64 R.2],errV E]) (by rw[HR.o,HE.o];simp[results,results156,go_sem,r2,r3,r1,noC,ac]) rfl ⟨rfl,?_⟩
   have hf:=ad PT.o p.o
   first|exact((hf.setCell zT _).setCell zT _).alloc (by have:=hf.size;simp;omega) _|exact(((hf.alloc hf.size _).setCell zT _).setCell zT _)
  have aA:k=n:=ω;subst aA;obtain⟨B,I⟩:=U.o (fun i hi=>PV.o i (by rw[←u.o];exact hi))
  have HE:=aa I;have L:(eu N C l k).length=k:=told_len;obtain⟨-,-,h0|⟨g,og,rfl,X⟩⟩:=O.o
  ·rw[h0]at L;simp at L;omega
  obtain⟨y0,y1⟩:=X.2 (k-1) (by rw[told_len];omega)
  have aE:=X.1;rw[vm ω]at y0 y1
  rw[u.o]at B;rw[←B]at y0 y1;have y:=(HW.o.block w.heap.size (by have:=z.o;omega)).trans Z.o
  have r1:w.heap.size<wr.heap.size:=(zY y).1;have r2:wr.cell? ⟨w.heap.size,0,none⟩=some (.int .i64 0):=by simp[World.cell?,y]
  have r3:wr.cell? ⟨w.heap.size,1,none⟩=some (.int .i64 0):=by simp[World.cell?,y]
  have rf0:wr.frozen? ⟨w.heap.size,0,none⟩=false:=by simp[World.frozen?,y]
  have rf1:wr.frozen? ⟨w.heap.size,1,none⟩=false:=by simp[World.frozen?,y]
  obtain⟨m,t⟩:=ar (k-1);rw[t]at y0 y1;have aB:(k:Int)-1=(m:Int):=ω;have aG:(m:Int)<(k:Int):=ω;rw[L];clear y X B I L t;go_wp2_with fail;refine bodyPost_ret (v:=.tuple #[.agg #[.int .i64 R.1,.int .i64 R.2],errV E]) (by rw[HE.o];simp[results,results156,go_sem,r2,r3,errV_zero]) rfl ⟨rfl,?_⟩
  exact(T.o.setCell zT _).setCell zT _
def shTo(D:Nat->Dm)(n:Nat):List (List Int)->Int
 | []=>0
 |q :: r=>if aK D n q≠0 then aK D n q else shTo D n r
def zD(D:Nat->Dm)(n:Nat)(Q:List (List Int)):Int:=if shTo D n Q≠0 then shTo D n Q else if Q.any (fun q => !leafV D n q)=true then 6 else 0
noncomputable def y6(D:Nat->Dm)(n:Nat)(Q:List (List Int)):Int:=if(au D n).2.2≠0 then(au D n).2.2 else zD D n Q
def lJ(D:Nat->Dm)(n:Nat)(Q:List (List Int)):List Int:=Q.map fun q=>numI D q n
noncomputable def GB(D:Nat->Dm)(n:Nat)(Q:List (List Int)):List Int:=if y6 D n Q=0 then drtL D n (lJ D n Q)else[]
theorem gf{D:Nat->Dm}{n:Nat}{p:List Int}(h:(ag D n).2.2=0):placeErr D n p=aK D n p:=by unfold placeErr;rw[if_neg (by simpa using h)]
theorem JX{D:Nat->Dm}{n:Nat}(h:(ag D n).2.2=0)(f:Nat->Bool):(selTo f (prodN D n)).length<=3000:=by
 obtain⟨-,-,a,-⟩:=ao h;exact zV (ea _ _) a
def t7(w:World)(A:Option Addr)(cap:Nat)(xs:List PL):Prop:=xs.length<=cap/\(xs=[]\/∃b o,A=some ⟨b,o,none⟩/\b<w.heap.size/\∀k,k<xs.length->w.cell? ⟨b,o+k,none⟩=some (.slice (xs.getD k ni).A (xs.getD k ni).p.length (xs.getD k ni).c))/\∀x∈xs,de w x.A x.c x.p
theorem t7.later{w w':World}{A:Option Addr}{cap:Nat}{xs:List PL}(h:t7 w A cap xs)(c:Bl w w'):t7 w' A cap xs:=by
 obtain⟨d,a,e⟩:=h;refine⟨d,?_,fun x g=>(e x g).later c⟩
 rcases a with a|⟨b,o,a,h4,h5⟩
 ·exact Or.inl a
 exact Or.inr ⟨b,o,a,zW h4 c.size,fun k f=>aM c h4 (h5 k f)⟩
section
variable {D:Nat->Dm} {n:Nat}
theorem Gc(p:eT D n)(w:(ag D n).2.2=0){ac aa:List Int->Int×Int}{m:Nat}(q:∀i:Nat,i<prodN D n->i≠m->ac (ah D n i)=aa (ah D n i)):∀(k i:Nat),i<prodN D n->msrTo D (ah D n i) n<k->¬Ndd D n i m->gN D n ac (ah D n i)=gN D n aa (ah D n i):=by
 intro k
 induction k with
 |zero=>intro i _ h;omega
 |succ k ih =>
  intro i hi B v;have a:InO D n (ah D n i):=dp w
  rcases by_in D (ah D n i) n with h|⟨b,hb,ab⟩
  ·rw[gL _ ω,gL _ ω]
   exact q i hi fun e=>v (e ▸ .refl _)
  rw[vi p ac a hb,vi p aa a hb];have s:=a.lo b ab;have A:=a.hi b ab;have g:=p b ab;obtain⟨y,z,-,-⟩:=bw g;refine km y (z _ ω) fun x t=>?_
  have o:=fA t;have c:=lX a ab o.1 o.2;have d:=bQ c (Nat.le_refl n);obtain⟨j,u⟩:∃j:Nat,numI D ((ah D n i).set b x) n=(j:Int):=⟨(numI D ((ah D n i).set b x) n).toNat,by have:=d.1;omega⟩
  have f:=iO c;rw[u,Int.toNat_natCast]at f;have l:=mw g (i:=((ah D n i).getD b 0).toNat) ω t
  rw[Int.toNat_of_nonneg s]at l;have r:=(jU (by rw[a.len];exact ab) l n).2 ab
  rw[←f]at r|-;exact ih j (by have:=d.2.1;omega) ω fun h=>v (.step ⟨b,hb,x,t,u.symm⟩ h)
end
theorem LY(l:List UInt8)(h:(trimPrefix l [45]).length<=15)(v:Int)(a:atoi l=some v)(b:itoa v=l):uF l=some v:=by
 unfold uF;rw[if_pos h,a];simp[b]
theorem xI(l:List UInt8)(h:atoi l=none):uF l=none:=by
 unfold uF;split
 ·rw[h]
 rfl
set_option linter.unusedVariables false
def qO(M:Nat)(l:List UInt8):Option Int:=if(Lib.trimPrefix l [45]).length<=M then uF l else none
theorem Dv{M:Nat}{l:List UInt8}(h:(Lib.trimPrefix l [45]).length<=M):qO M l=uF l:=if_pos h
theorem xH{M:Nat}{l:List UInt8}(h:M<(Lib.trimPrefix l [45]).length):qO M l=none:=if_neg ω
theorem tw{s:ByteArray}(h:1<=s.size):s.toList.isEmpty=false:=by
 rw[ByteArray.toList_eq];have e:=Lib.size_eq s;cases hl:s.data.toList with
 |nil=>rw[hl,List.length_nil]at e;omega
 |cons a b=>rfl
structure RDm where
 name:ByteArray
 solve:Int
 mem:List Mem
structure RdQ where
 dims:List RDm
 pl:List ByteArray
 num:List Int
 first:Nat
def noWd:ByteArray:=⟨#[]⟩
def I4:Mem:=⟨noWd,0,0,noWd⟩
def fD:RDm:=⟨noWd,0,[]⟩
def kG(d:RDm):Dm:=⟨d.name,d.solve,d.mem.length,fun k=>d.mem.getD k I4⟩
def yk:RdQ:=⟨[],[],[],0⟩
def gG(s:ByteArray)(l:List UInt8):Bool:=s.toList ==l
def wdsB(line:ByteArray):List ByteArray:=piecesC 32 line
def wdB(w:List ByteArray)(i:Nat):ByteArray:=w.getD i noWd
def intI(s:ByteArray):Int:=(qO 7 s.data.toList).getD 0
def f8(s:ByteArray):Bool:=(qO 7 s.data.toList).isSome
def zu(S:RdQ)(w:List ByteArray):Bool:=gG (wdB w 0) [100,105,109]&&decide (w.length=3)&&decide (S.pl.length=0)
def Bd(S:RdQ)(w:List ByteArray):Bool:=gG (wdB w 0) [109,101,109]&&decide (w.length=4)&&decide (S.pl.length=0)&&decide (0<S.dims.length)
def Ha(w:List ByteArray):Bool:=gG (wdB w 0) [99,101,108,108]&&decide (w.length=3)
def sgOk(x:ByteArray):Bool := !(decide (x.size=0)||decide (x.size=2)||(decide (2<x.size)&& !decide ((x.data.toList.getD 1 0)=61)))&&(decide (x.data.toList.getD 0 0=45)||decide (x.data.toList.getD 0 0=126)||decide (x.data.toList.getD 0 0=43))
def Mz(x:ByteArray):Bool := !(decide (x.size=0)||decide (x.size=2)||(decide (2<x.size)&& !decide ((x.data.toList.getD 1 0)=61)))
def sgI(x:ByteArray):Int:=if Mz x=true then(if x.data.toList.getD 0 0=45 then -1 else if x.data.toList.getD 0 0=126 then 0 else if x.data.toList.getD 0 0=43 then 1 else 0)else 0
def foS(x:ByteArray):ByteArray:=if Mz x=true/\2<x.size then x.extract 2 x.size else noWd
def paOk(s:ByteArray):Bool:=gG s [45]||(f8 s&&decide (0<=intI s))
def KM(s:ByteArray):Int:=if gG s [45]=true then -1 else intI s
def OC(w:List ByteArray):Mem:=⟨wdB w 1,KM (wdB w 2),sgI (wdB w 3),foS (wdB w 3)⟩
def jF(l:List RDm)(m:Mem):List RDm:=l.set (l.length-1) ⟨(l.getD (l.length-1) fD).name,(l.getD (l.length-1) fD).solve,(l.getD (l.length-1) fD).mem++[m]⟩
def rdLine(S:RdQ)(i:Nat)(w:List ByteArray):RdQ×Bool :=
 if zu S w=true then(⟨S.dims++[⟨wdB w 1,intI (wdB w 2),[]⟩],S.pl,S.num,S.first⟩,f8 (wdB w 2)&&decide (0<=intI (wdB w 2))&&nmW (wdB w 1))
 else if Bd S w=true then(⟨jF S.dims (OC w),S.pl,S.num,S.first⟩,nmW (wdB w 1)&&paOk (wdB w 2)&&sgOk (wdB w 3))
 else if Ha w=true then(⟨S.dims,S.pl++[wdB w 1],S.num++[intI (wdB w 2)],if S.pl.length=0 then i else S.first⟩,f8 (wdB w 2)&&(piecesC 46 (wdB w 1)).all nmW)
 else(S,false)
def cH(L:List ByteArray):Nat->RdQ
 | 0=>yk
 |k+1=>(rdLine (cH L k) k (wdsB (L.getD k noWd))).1
def oW(L:List ByteArray)(k:Nat):Bool:=(rdLine (cH L k) k (wdsB (L.getD k noWd))).2
theorem iQ(L:List ByteArray)(k:Nat):cH L (k+1)=(rdLine (cH L k) k (wdsB (L.getD k noWd))).1:=rfl
theorem vC(l:List RDm)(m:Mem):(jF l m).length=l.length:=by simp[jF]
theorem nC(L:List ByteArray):∀k,(cH L k).dims.length<=k/\(cH L k).pl.length<=k/\(cH L k).num.length=(cH L k).pl.length
 | 0=>by simp[cH,yk]
 |k+1=>by
  obtain⟨a,b,c⟩:=nC L k;rw[iQ];unfold rdLine
  split
  ·simp;omega
  split
  ·simp only[vC];omega
  split
  ·simp;omega
  exact⟨Nat.le_succ_of_le a,Nat.le_succ_of_le b,c⟩
def eE(D:Nat->Dm)(s:ByteArray)(n k:Nat):List Int:=jZ D s k++List.replicate (n-k) 0
theorem BV(D:Nat->Dm)(s:ByteArray){n k:Nat}(h:k<=n):(eE D s n k).length=n:=by simp[eE,jZ];omega
theorem BW(D:Nat->Dm)(s:ByteArray){n k:Nat}(h:k<n):(eE D s n k).set k (pk D s k)=eE D s n (k+1):=by
 unfold eE jZ;rw[List.range_succ,List.map_append,List.map_singleton,List.append_assoc,List.set_append_right _ _ σ,List.length_map,List.length_range,Nat.sub_self,show n-k=(n-(k+1))+1 by omega,List.replicate_succ]
 rfl
theorem BU(D:Nat->Dm)(s:ByteArray)(n:Nat):eE D s n n=jZ D s n:=by simp[eE]
theorem x9{s:ByteArray}{w:World}{g k:Nat}{T:Nat}(h:w.heap[g]?=some (.cells ((pieces s).map Value.string).toArray T (0,0)))(a:k<(pieces s).length):w.cell? ⟨g,k,none⟩=some (.string (nA s k)):=by
 rw[Lib.cell_of_heap h]
 simp[nA,List.getD,a]
theorem el.ty{w:World}{g:Nat}{L:List Int}(h:el w g L):bX w (some ⟨g,0,none⟩) L.length L :=
 ⟨zT,Or.inr ⟨g,0,_,_,rfl,h,fun j a=>by rw[Nat.zero_add];exact h.cell a⟩⟩
theorem FG(A0:Option Addr)(cap n:Nat)(D:Nat->Dm)(A:Nat->Option Addr)(C:Nat->Nat)(s:ByteArray)(w:World)(hs:s.size<=4611686018427387904)(hM:aL w A0 cap n D A C):Calls prog 83 #[.agg #[.slice A0 n cap],.string s] w fun e w'=>(∃A' c',e=.returned (.tuple #[.slice A' (parseL D n s).length c',errV (parseErr D n s)])/\bX w' A' c' (parseL D n s))/\Bl w w':=by
 have I:=ay w A0 n cap 24;have h:=kW A0 cap n D A C (aE w A0 n cap 24) (hM.later I);have N:=aa I;have HM:=aa hM;clear hM I
 by_cases t:(ag D n).2.2=0
 ·obtain⟨aJ,aK,-,hd⟩:=ao t
  have HA:=aa t;have G:Hid (parseErr D n s=gh D n s):=Ph t;rw[t,errV_zero]at h;have aI:(n:Int)<=4:=ω;have aA:=lj s;have z:=tE s;have E:Hid (∀w,Calls prog 131 #[.string s,.string ⟨#[46]⟩] w fun e w'=>e=.returned (.int .i64 (((pieces s).length:Int)-1))/\w'=w):=sV s
  have H:Hid ((pieces s).length=n->∀w,Calls prog 132 #[.string s,.string ⟨#[46]⟩] w fun e w'=>e=.returned (.slice (some ⟨w.heap.size,0,none⟩) (pieces s).length (pieces s).length)/\w'=w.alloc (.cells ((pieces s).map Value.string).toArray 9)):=fun hp w=>Ge s w ω hs
  obtain⟨m,hm⟩:=ar ((pieces s).length);have Y:=aa hm;rw[hm]at aA z E H;have aG:(m:Int)<=4611686018427387905:=ω;have aH:(1:Int)<=(m:Int):=ω;have aN:IntKind.i64.wrap (m:Int)=(m:Int):=IntWalk.i64_in _ ω
  clear t hd hm z
  go_enter func83,ntmps83
  go_wp2_with fail;refine h.mono ?_;rintro e w1⟨rfl,f⟩;have hB:Bl w w1:=ad N.o f;have hz:w.heap.size<w1.heap.size:=by have:=f.size;rw[aB]at this;omega
  have h2:w1.cell? ⟨w.heap.size,0,none⟩=some (.slice A0 n cap):=aM f (by show w.heap.size<_;rw[aB];omega) (aU ..)
  obtain⟨av,h0|⟨b,o,rfl,V⟩⟩:=HM.o.later hB
  ·omega
  have Q:=aa V;have HB:=aa hB;have HC:Hid (∀w',Bl w1 w'->w'.cell? ⟨w.heap.size,0,none⟩=some (.slice (some ⟨b,o,none⟩) n cap)):=fun w' M=>aM M hz h2
  clear f h V hB;go_wp2_with fail
  go_quiet ((go_at_call 131;exact Calls.quiet_of_same (E.o _)))
  have d:Hid (Bl w1 (w1.drewN nq)):=aj zS nq;have aw:=HC.o _ d.o;generalize w1.drewN nq=w2 at d aw|-;have aO:w.heap.size<w2.heap.size:=zW hz d.o.size;have B:=aa (ad HB.o d.o);have al:=aa (Q.o.later d.o);have af:Hid (∀w',Bl w2 w'->w'.cell? ⟨w.heap.size,0,none⟩=some (.slice (some ⟨b,o,none⟩) n cap)):=fun w' M=>HC.o w' (ad d.o M)
  clear d HC HB Q h2 hz E
  by_cases J:m=n
  ·have R:=aa (H.o J)
   have X:((m:Int) !=(n:Int))=false:=by simp;omega
   subst J;have az:=run_make_row' (P:=prog) 43 3 (.int .i64 0) 8 underlying43 infoIntP rfl .i64 .i64 m ω ω
   have L:=R.o;have O:Hid (∀i,i<m->(am (D i)).2=0):=(aZ HA.o).2;generalize ab:((pieces s).map Value.string).toArray=ps at L;have an:=aa ab.symm;clear H R ab;go_wp2_with fail;refine(L _).mono ?_;rintro e w3⟨rfl,v⟩;have W:w3.heap[w2.heap.size]?=some (.cells ((List.replicate m (0:Int)).map (Value.int .i64)).toArray 3 (0,0)):=by
    rw[v,Below.heap_alloc _ _ _ σ]
    exact el.made w2 m
   have K:w3.heap[w2.heap.size+1]?=some (.cells ps 9 (0,0)):=by
    rw[v];have:=heap_alloc_new (w2.alloc (.cells (madeCells #[.int .i64 0] m) 3)) (.cells ps 9)
    simpa using this
   have U:Bl w2 w3:=by rw[v];go_grown
   have ah:Hid (el w3 w2.heap.size (eE D s m 0)):=by
    show el _ _ _
    have e0:eE D s m 0=List.replicate m 0:=by simp[eE,jZ]
    rw[e0];exact W
   have ap:Hid (w3.heap[w2.heap.size+1]?=some (.cells ((pieces s).map Value.string).toArray 9 (0,0))):=by rw[an.o]at K;exact K
   have ae:=aa U;clear az L v W K U;go_wp2_with fail
   go_loopg [32] m (fun g aC wr =>∃(k:Nat),k<=m/\g=m-k/\aC=.int .i64 k/\findFrom (kP D s) (m-k) k=findFrom (kP D s) m 0/\el wr w2.heap.size (eE D s m k)/\wr.heap[w2.heap.size+1]?=some (.cells ((pieces s).map Value.string).toArray 9 (0,0))/\Bl w2 wr)
   case atStart=>exact⟨0,zU,rfl,rfl,rfl,ah.o,ap.o,ae.o⟩
   case round =>
    obtain⟨k,hk,rfl,rfl,hf,Z,hS,r⟩:=hrel;have HF:=aa hf;have HI:=aa Z;have HS:=aa hS;have T:=aa r
    by_cases p:k<m
    ·obtain⟨h0,h1,h3,h4⟩:=(al.o.later r).2 k p
     have aF:(k:Int)<(m:Int):=ω;have c0:=af.o wr r;have cs:=x9 hS (k:=k) (by rw[Y.o];exact p)
     have S:Hid (m-k=(m-(k+1))+1):=by show _=_;omega
     have a:=Ih (D k) (A k) (C k) (nA s k) wr h4;unfold dw at a;have aD:=Z.lt;clear hf Z hS r h4
     by_cases q:pk D s k<0
     ·have HN:Hid (kP D s k=true):=by show _=_;simp[kP,q]
      rw[lT (O.o k p) q,ac (by decide)]at a
      have y:Hid (parseErr D m s=5):=by
       show _=_
       rw[G.o,PO Y.o];rw[←HF.o,S.o,bI _ HN.o]
       omega
      have F:Hid (parseL D m s=[]):=by show _=_;unfold parseL;rw[y.o];rfl
      clear q;go_wp2_with fail;refine a.mono ?_;rintro e w4⟨rfl,l⟩;go_wp2_with fail
      go_ret2
      rw[F.o,y.o];exact⟨⟨none,0,rfl,bX.nil _ _ _⟩,ad B.o (T.o.trans (l.mono T.o.size))⟩
     have HN:Hid (kP D s k=false):=by show _=_;simp[kP];omega
     rw[lV (O.o k p) q,errV_zero]at a
     change Calls _ _ _ _ (fun e w'=>e=.returned (.tuple #[.int .i64 (pk D s k),.nilIface])/\_)at a
     have HT:Hid ((eE D s m k).set k (pk D s k)=eE D s m (k+1)):=BW D s p;have ak:Hid ((eE D s m k).length=m):=BV D s hk;generalize pk D s k=x at a q HT;clear q;go_wp2_with fail;refine a.mono ?_;rintro e w4⟨rfl,l⟩;have u:=HI.o.later l;have c4:=u.cell (j:=k) (by rw[ak.o];exact p)
     have c5:=u.frozen k;have ai:=aa u;have aq:Hid (w4.heap[w2.heap.size+1]?=some (.cells ((pieces s).map Value.string).toArray 9 (0,0))):=(l.block _ (zY HS.o).1).trans HS.o;have au:=aa (T.o.trans (l.mono T.o.size));generalize (eE D s m k).getD k 0=old at c4;clear a l u c0 cs h0 h1 h3;go_wp2_with fail
     go_roundg (m-(k+1))
     case measure=>omega
     case rel =>
      refine⟨k+1,ω,rfl,by go_num,by rw[←HF.o,S.o,bj _ HN.o],?_,?_,au.o.setCell zT _⟩
      ·rw[←HT.o];exact ai.o.set k x
      rw[Below.heap_setCell _ _ _ _ (by show w2.heap.size+1≠w2.heap.size;omega)];exact aq.o
    have ax:k=m:=ω;subst ax;have y:Hid (parseErr D k s=0):=by
     show _=_
     rw[G.o,Pi Y.o];rw[←HF.o,Nat.sub_self]
     show ¬(0:Int)<=-1
     decide
    have F:Hid (parseL D k s=jZ D s k):=by show _=_;unfold parseL;rw[if_pos y.o]
    clear hf Z hS r;go_wp2_with fail
    go_ret2
    rw[F.o,y.o];have hp:=HI.o.ty;rw[BU]at hp;rw[nD]at hp|-;exact⟨⟨_,_,rfl,hp⟩,ad B.o T.o⟩
  have X:((m:Int) !=(n:Int))=true:=by simp;omega
  have y:Hid (parseErr D n s=2):=by show _=_;rw[G.o,PM (by rw[Y.o];exact J)]
  have F:Hid (parseL D n s=[]):=by show _=_;unfold parseL;rw[y.o];rfl
  go_wp2_with fail
  go_ret2
  rw[F.o,y.o];exact⟨⟨none,0,rfl,bX.nil _ _ _⟩,B.o⟩
 have HE:Hid (parseErr D n s=(ag D n).2.2):=PJ t;have F:Hid (parseL D n s=[]):=by show _=_;unfold parseL;rw[HE.o,if_neg t]
 have HV:Hid (errV (ag D n).2.2=.iface 71 (.int .i64 (ag D n).2.2)):=ac t;rw[ac t]at h;clear t;generalize (ag D n).2.2=c at h HE HV
 go_enter func83,ntmps83
 go_wp2_with fail;refine h.mono ?_;rintro e w1⟨rfl,f⟩;go_wp2_with fail
 go_ret2
 rw[F.o,HE.o,HV.o];exact⟨⟨none,0,rfl,bX.nil _ _ _⟩,ad N.o f⟩
end Go.Proofs.YtjfampgnhccodaaGreatDoor
