/- A change of a draft: w -/
import Derived.Test.YtjfampgnhccodaaGreatDoorJTAY
import Derived.Test.YtjfampgnhccodaaGreatDoorJTBF
namespace Go.Proofs.YtjfampgnhccodaaGreatDoor
open Tryz ChangeShapes WideShapes ChangeAt RowKit Lib Go
set_option maxRecDepth 99999
set_option maxHeartbeats 0
structure Chg where
 what:Int
 dim:Int
 mb:Int
 name:ByteArray
 tgt:Int
 sign:Int
def kA(c:Chg):Value:=.agg #[.int .i64 c.what,.int .i64 c.dim,.int .i64 c.mb,.string c.name,.int .i64 c.tgt,.int .i64 c.sign]
def newM(c:Chg):Mem:=⟨c.name,c.tgt,c.sign,⟨#[]⟩⟩
def cgE(d:Dm)(l:List En)(k:Nat)(c:Chg):Int :=
 if c.what=1 then oR d l k (newM c)
 else if c.mb<0\/(d.n:Int)<=c.mb then 1
 else if c.what=2 then nE d c.mb.toNat
 else if c.what=3 then oX d c.mb.toNat c.name
 else if c.what=4 then kN d l k c.mb.toNat c.tgt
 else if c.what=5 then oY c.sign
 else 1
def nZ(d:Dm)(c:Chg):Dm :=
 if c.what=1 then dA d (newM c)
 else if c.what=2 then eR d c.mb.toNat
 else if c.what=3 then kC d c.mb.toNat c.name
 else if c.what=4 then fB d c.mb.toNat c.tgt
 else fj d c.mb.toNat c.sign
def El(l:List En)(k:Nat)(c:Chg):List En:=if c.what=2 then mt l k (c.mb.toNat:Int)else l
theorem zk(B q g cd n k ge ce:Nat)(D:Nat->Dm)(G C:Nat->Nat)(ys:List EnL)(c:Chg)(w0 w:World)(P:w0.heap.size=B)(hE:kz w0)(H:Below B w0 w)(hB:B<=w.heap.size)(V:(D k).n<=12)(M:Tr (D k).mem (D k).n)(K:∀j,j<(D k).n->((D k).mem j).formula.size=0\/(((D k).mem j).formula.size<=100/\prsE ((D k).mem j).formula=0))(L:∀y∈ys,0<=y.e.pl.getD k 0/\y.e.pl.getD k 0<=12)(h:DrA w B q g cd n k ge ce D G C ys):
  Calls prog 22 #[.pointer (some ⟨q,0,none⟩),kA c] w (cA w B q g cd n k ge ce D (cgE (D k) (lE ys) k c) (nZ (D k) c) (El (lE ys) k c)):=by
 obtain⟨W,hW⟩:=ar (w.alloc (.cells #[.int .i64 c.what,.int .i64 c.dim,.int .i64 c.mb,.string c.name,.int .i64 c.tgt,.int .i64 c.sign] 33));have u:Bl w W:=by rw[←hW];go_grown
 have an:W.heap.size=w.heap.size+1:=by rw[←hW];simp
 have S:W.heap[w.heap.size]?=some (.cells #[.int .i64 c.what,.int .i64 c.dim,.int .i64 c.mb,.string c.name,.int .i64 c.tgt,.int .i64 c.sign] 33 (0,0)):=by rw[←hW];exact heap_alloc_new ..
 have N:=h.later u;obtain⟨c0,c1,c2,-⟩:=N.cells;obtain⟨-,-,U,-⟩:=N.dim;have x0:W.cell? ⟨w.heap.size,0,none⟩=some (.int .i64 c.what):=(Lib.cell_of_heap S 0).trans rfl;have x2:W.cell? ⟨w.heap.size,2,none⟩=some (.int .i64 c.mb):=(Lib.cell_of_heap S 2).trans rfl;have x3:W.cell? ⟨w.heap.size,3,none⟩=some (.string c.name):=(Lib.cell_of_heap S 3).trans rfl;have x4:W.cell? ⟨w.heap.size,4,none⟩=some (.int .i64 c.tgt):=(Lib.cell_of_heap S 4).trans rfl;have x5:W.cell? ⟨w.heap.size,5,none⟩=some (.int .i64 c.sign):=(Lib.cell_of_heap S 5).trans rfl;have v:B<=W.heap.size:=ω;have x:=H.trans (u.mono hB);have J:∀E d' l' e w',cA W B q g cd n k ge ce D E d' l' e w'->cA w B q g cd n k ge ce D E d' l' e w':=fun E d' l' e w' ⟨p1,p2,p3⟩=>⟨p1,p2,(Lw.of hB u).trans p3⟩
 have A:=aa J;have s:cA W B q g cd n k ge ce D 1 (nZ (D k) c) (El (lE ys) k c) (.returned (errV 1)) W:=cA.bad (by decide) v (Below.refl _ W)
 obtain⟨what,dim,mb,name,tgt,sign⟩:=c;simp only at x0 x2 x3 x4 x5 hW
 by_cases X:what=1
 ·subst X
  have a:=G6 B q g cd n k ge ce D G C ys (newM ⟨1,dim,mb,name,tgt,sign⟩) W v V N
  change Calls _ _ _ _ (cA _ _ _ _ _ _ _ _ _ _ (oR _ _ _ _) (dA _ _) _)at a
  have HF:Hid (cgE (D k) (lE ys) k ⟨1,dim,mb,name,tgt,sign⟩=oR (D k) (lE ys) k (newM ⟨1,dim,mb,name,tgt,sign⟩)):=if_pos rfl;unfold jh newM at a;clear h N S s J L K M H u hE;unfold kA
  go_enter func22,ntmps22
  go_wp2_with fail;refine a.mono ?_;rintro e w1⟨rfl,O⟩;have Y:=aa O;clear O a;go_wp2_with fail;go_ret;rw[HF.o];exact A.o _ _ _ _ _ ⟨rfl,Y.o⟩
 have ah:(what == 1)=false:=by simpa using X
 have I:∀d l k',cgE d l k' ⟨what,dim,mb,name,tgt,sign⟩=if mb<0\/(d.n:Int)<=mb then 1 else if what=2 then nE d mb.toNat else if what=3 then oX d mb.toNat name else if what=4 then kN d l k' mb.toNat tgt else if what=5 then oY sign else 1:=fun d l k'=>if_neg X
 by_cases hm:mb<0\/((D k).n:Int)<=mb
 ·have ab:Hid (cgE (D k) (lE ys) k ⟨what,dim,mb,name,tgt,sign⟩=1):=by show _=_;rw[I,if_pos hm]
  have ag:=aa s;generalize (D k).n=m at U hm;clear h N S s J L K M H u hE I X V;unfold kA
  by_cases ae:mb<0
  ·clear hm
   go_enter func22,ntmps22
   go_upto_region 3 with fail
   go_quiet (fail)
   have r:=aa (aj (Below.refl W.heap.size W) nq);go_wp2_with fail;go_ret;rw[ab.o];exact A.o _ _ _ _ _ (cA.bad (by decide) v r.o)
  have af:0<=mb:=ω;have R:(m:Int)<=mb:=ω;clear hm ae
  go_enter func22,ntmps22
  go_upto_region 3 with fail
  go_quiet (fail)
  have r:=aa (aj (Below.refl W.heap.size W) nq);go_wp2_with fail;go_ret;rw[ab.o];exact A.o _ _ _ _ _ (cA.bad (by decide) v r.o)
 obtain⟨i,rfl⟩:∃i:Nat,mb=i:=⟨mb.toNat,ω⟩
 have Z:i<(D k).n:=ω;have af:0<=(i:Int):=ω;have R:(i:Int)<((D k).n:Int):=ω;have Q:∀d l k',(d.n=(D k).n)->cgE d l k' ⟨what,dim,i,name,tgt,sign⟩=if what=2 then nE d i else if what=3 then oX d i name else if what=4 then kN d l k' i tgt else if what=5 then oY sign else 1:=fun d l k' ad=>by
  rw[I,if_neg (by rw[ad];omega),Int.toNat_natCast]
 have b:=Q (D k) (lE ys) k rfl;have f:nZ (D k) ⟨what,dim,i,name,tgt,sign⟩=if what=2 then eR (D k) i else if what=3 then kC (D k) i name else if what=4 then fB (D k) i tgt else fj (D k) i sign:=by
  unfold nZ;rw[if_neg X];simp only[Int.toNat_natCast]
 have p:El (lE ys) k ⟨what,dim,i,name,tgt,sign⟩=if what=2 then mt (lE ys) k (i:Int)else lE ys:=by
  unfold El;simp only[Int.toNat_natCast]
 have F:Hid (∀w1 E d' l' e w',Bl W w1->cA w1 B q g cd n k ge ce D E d' l' e w'->cA w B q g cd n k ge ce D E d' l' e w'):=fun w1 E d' l' e w' z ⟨p1,p2,p3⟩=>⟨p1,p2,((Lw.of hB u).trans (Lw.of v z)).trans p3⟩
 have T:Hid (∀w1,Bl W w1->w1.cell? ⟨w.heap.size,0,none⟩=some (.int .i64 what)/\w1.cell? ⟨w.heap.size,2,none⟩=some (.int .i64 (i:Int))/\w1.cell? ⟨w.heap.size,3,none⟩=some (.string name)/\w1.cell? ⟨w.heap.size,4,none⟩=some (.int .i64 tgt)/\w1.cell? ⟨w.heap.size,5,none⟩=some (.int .i64 sign)):=fun w1 z=>by
  have hl:w.heap.size<W.heap.size:=ω;exact⟨aM z hl x0,aM z hl x2,aM z hl x3,aM z hl x4,aM z hl x5⟩
 by_cases h2:what=2
 ·subst h2
  have t:Hid (∀w1,Bl W w1->Calls prog 52 #[.pointer (some ⟨q,0,none⟩),.int .i64 i] w1 (cA w1 B q g cd n k ge ce D (nE (D k) i) (eR (D k) i) (mt (lE ys) k (i:Int)))):=fun w1 z=>BZ B q g cd n k ge ce D G C ys i w1 (zV v z.size) Z V M L (N.later z)
  have o:Hid (cgE (D k) (lE ys) k ⟨2,dim,i,name,tgt,sign⟩=nE (D k) i/\nZ (D k) ⟨2,dim,i,name,tgt,sign⟩=eR (D k) i/\El (lE ys) k ⟨2,dim,i,name,tgt,sign⟩=mt (lE ys) k (i:Int)):=⟨by first|exact b|(rw[b];rfl),by first|exact f|(rw[f];rfl),by first|exact p|(rw[p];rfl)⟩
  generalize (D k).n=m at U R;clear h N S s J L K M H u hE I Q b f p X V hm Z x A P;unfold kA
  go_enter func22,ntmps22
  go_upto_region 3 with fail
  go_quiet (fail)
  have r:=aa (aj (Below.refl W.heap.size W) nq);generalize W.drewN nq=wq at r;obtain⟨y0,y2,y3,y4,y5⟩:=T.o wq r.o;have a:=t.o wq r.o;clear x0 x2 x3 x4 x5 c0 c1 c2 U;go_wp2_with fail;refine a.mono ?_;rintro e w1⟨rfl,O⟩;have Y:=aa O;clear O a;go_wp2_with fail;go_ret;rw[o.o.1,o.o.2.1,o.o.2.2];exact F.o wq _ _ _ _ _ r.o ⟨rfl,Y.o⟩
 have ai:(what == 2)=false:=by simpa using h2
 rw[if_neg h2]at b;rw[if_neg h2]at f p
 by_cases h3:what=3
 ·subst h3
  have t:Hid (∀w1,Bl W w1->Calls prog 53 #[.pointer (some ⟨q,0,none⟩),.int .i64 i,.string name] w1 (cA w1 B q g cd n k ge ce D (oX (D k) i name) (kC (D k) i name) (lE ys))):=fun w1 z=>B1 B q g cd n k ge ce D G C ys i name w0 w1 P hE (x.trans (z.mono v)) (zV v z.size) Z V K (N.later z)
  have o:Hid (cgE (D k) (lE ys) k ⟨3,dim,i,name,tgt,sign⟩=oX (D k) i name/\nZ (D k) ⟨3,dim,i,name,tgt,sign⟩=kC (D k) i name/\El (lE ys) k ⟨3,dim,i,name,tgt,sign⟩=lE ys):=⟨by first|exact b|(rw[b];rfl),by first|exact f|(rw[f];rfl),by first|exact p|(rw[p];rfl)⟩
  generalize (D k).n=m at U R;clear h N S s J L K M H u hE I Q b f p X V hm Z x A P;unfold kA
  go_enter func22,ntmps22
  go_upto_region 3 with fail
  go_quiet (fail)
  have r:=aa (aj (Below.refl W.heap.size W) nq);generalize W.drewN nq=wq at r;obtain⟨y0,y2,y3,y4,y5⟩:=T.o wq r.o;have a:=t.o wq r.o;clear x0 x2 x3 x4 x5 c0 c1 c2 U;go_wp2_with fail;refine a.mono ?_;rintro e w1⟨rfl,O⟩;have Y:=aa O;clear O a;go_wp2_with fail;go_ret;rw[o.o.1,o.o.2.1,o.o.2.2];exact F.o wq _ _ _ _ _ r.o ⟨rfl,Y.o⟩
 have ak:(what == 3)=false:=by simpa using h3
 rw[if_neg h3]at b;rw[if_neg h3]at f
 by_cases h4:what=4
 ·subst h4
  have t:Hid (∀w1,Bl W w1->Calls prog 54 #[.pointer (some ⟨q,0,none⟩),.int .i64 i,.int .i64 tgt] w1 (cA w1 B q g cd n k ge ce D (kN (D k) (lE ys) k i tgt) (fB (D k) i tgt) (lE ys))):=fun w1 z=>IV B q g cd n k ge ce D G C ys i tgt w1 (zV v z.size) Z V (N.later z)
  have o:Hid (cgE (D k) (lE ys) k ⟨4,dim,i,name,tgt,sign⟩=kN (D k) (lE ys) k i tgt/\nZ (D k) ⟨4,dim,i,name,tgt,sign⟩=fB (D k) i tgt/\El (lE ys) k ⟨4,dim,i,name,tgt,sign⟩=lE ys):=⟨by first|exact b|(rw[b];rfl),by first|exact f|(rw[f];rfl),by first|exact p|(rw[p];rfl)⟩
  generalize (D k).n=m at U R;clear h N S s J L K M H u hE I Q b f p X V hm Z x A P;unfold kA
  go_enter func22,ntmps22
  go_upto_region 3 with fail
  go_quiet (fail)
  have r:=aa (aj (Below.refl W.heap.size W) nq);generalize W.drewN nq=wq at r;obtain⟨y0,y2,y3,y4,y5⟩:=T.o wq r.o;have a:=t.o wq r.o;clear x0 x2 x3 x4 x5 c0 c1 c2 U;go_wp2_with fail;refine a.mono ?_;rintro e w1⟨rfl,O⟩;have Y:=aa O;clear O a;go_wp2_with fail;go_ret;rw[o.o.1,o.o.2.1,o.o.2.2];exact F.o wq _ _ _ _ _ r.o ⟨rfl,Y.o⟩
 have al:(what == 4)=false:=by simpa using h4
 rw[if_neg h4]at b;rw[if_neg h4]at f
 by_cases h5:what=5
 ·subst h5
  have t:Hid (∀w1,Bl W w1->Calls prog 55 #[.pointer (some ⟨q,0,none⟩),.int .i64 i,.int .i64 sign] w1 (cA w1 B q g cd n k ge ce D (oY sign) (fj (D k) i sign) (lE ys))):=fun w1 z=>B2 B q g cd n k ge ce D G C ys i sign w1 (zV v z.size) Z V (N.later z)
  have o:Hid (cgE (D k) (lE ys) k ⟨5,dim,i,name,tgt,sign⟩=oY sign/\nZ (D k) ⟨5,dim,i,name,tgt,sign⟩=fj (D k) i sign/\El (lE ys) k ⟨5,dim,i,name,tgt,sign⟩=lE ys):=⟨by first|exact b|(rw[b];rfl),by first|exact f|(rw[f];rfl),by first|exact p|(rw[p];rfl)⟩
  generalize (D k).n=m at U R;clear h N S s J L K M H u hE I Q b f p X V hm Z x A P;unfold kA
  go_enter func22,ntmps22
  go_upto_region 3 with fail
  go_quiet (fail)
  have r:=aa (aj (Below.refl W.heap.size W) nq);generalize W.drewN nq=wq at r;obtain⟨y0,y2,y3,y4,y5⟩:=T.o wq r.o;have a:=t.o wq r.o;clear x0 x2 x3 x4 x5 c0 c1 c2 U;go_wp2_with fail;refine a.mono ?_;rintro e w1⟨rfl,O⟩;have Y:=aa O;clear O a;go_wp2_with fail;go_ret;rw[o.o.1,o.o.2.1,o.o.2.2];exact F.o wq _ _ _ _ _ r.o ⟨rfl,Y.o⟩
 have am:(what == 5)=false:=by simpa using h5
 rw[if_neg h5]at b;have ac:=aa b;generalize (D k).n=m at U R;clear h N S s J L K M H u hE I Q b f p X V hm Z x A P h2 h3 h4 h5;unfold kA
 go_enter func22,ntmps22
 go_upto_region 3 with fail
 go_quiet (fail)
 have r:=aa (aj (Below.refl W.heap.size W) nq);generalize W.drewN nq=wq at r;obtain⟨y0,y2,y3,y4,y5⟩:=T.o wq r.o;clear x0 x2 x3 x4 x5 c0 c1 c2 U;go_wp2_with fail;go_ret;rw[ac.o];exact F.o wq _ _ _ _ _ r.o (cA.bad (by decide) (zV v r.o.size) zS)
def Oh(q:Nat)(S:RdQ)(w:World):Prop := ∃A C vd vc,DrV q S A C vd vc w
theorem iE(c:UInt8):∀l:List UInt8,∀p∈cutB c l,p.length<=l.length
 | [],p,hp=>by rw[cutB,List.mem_singleton]at hp;subst hp;exact zT
 |x :: t,p,hp=>by
  rw[cutB]at hp
  split at hp
  ·rcases List.mem_cons.1 hp with rfl|hp
   ·exact zU
   have:=iE c t p hp
   simp;omega
  cases hs:cutB c t with
  |nil=>exact absurd hs (o6 c t)
  |cons a r =>
   rw[hs]at hp
   rcases List.mem_cons.1 hp with rfl|hp
   ·have:=iE c t a (by rw[hs];exact List.mem_cons_self ..)
    simp;omega
   have:=iE c t p (by rw[hs];exact List.mem_cons_of_mem _ hp)
   simp;omega
theorem mE(c:UInt8)(s:ByteArray)(k:Nat):(wdB (piecesC c s) k).size<=s.size:=by
 unfold wdB
 by_cases b:k<(piecesC c s).length
 ·rw[zZ,zX b,Option.getD_some]
  have a:=List.getElem_mem b;generalize (piecesC c s)[k]=p at a;unfold piecesC at a;obtain⟨l,d,rfl⟩:=List.mem_map.1 a;have:=iE c _ l d;rw[Lib.size_eq s];exact this
 rw[zZ,List.getElem?_eq_none ω]
 exact zU
theorem qi{P W:List ByteArray}(h:mG P W)(d:bR W≠0):W=P:=by
 obtain⟨e,f,a,b⟩:=h
 by_cases c:P.length<=4
 ·exact a c
 have g:=b ω
 exfalso
 apply d;unfold bR;rw[if_neg ω,if_neg ω,if_neg ω]
def pK(q:Nat)(R:RdQ×Bool)(f:Nat)(args:Array Value)(w:World):Prop := ∀w',Bl w w'->Calls prog f args w' fun e w''=>e=.returned (.bool R.2)/\Below q w' w''/\(R.2=true->Oh q R.1 w'')
theorem Ki{q:Nat}{S:RdQ}{A:Nat->Option Addr}{C:Nat->Nat}{vd vc:Value}{aa:ByteArray}{i:Nat}{w:World}{W:List ByteArray}(h:DrV q S A C vd vc w)(l:iv w)(p:S.dims.length<=1048577)(c:aa.size<=1048576)(m:mG (wdsB aa) W)(o:bR W=1):
  pK q (rdLine S i (wdsB aa)) 128 #[.pointer (some ⟨q,0,none⟩),.string (wdB W 1),.string (wdB W 2)] w:=fun w' b=>by
 have e:=qi m ω
 subst e;obtain⟨f,r⟩:=BS (S:=S) (i:=i) o;have d:=fun k=>mE 32 aa k
 refine(Gh q S A C vd vc (wdB (wdsB aa) 1) (wdB (wdsB aa) 2) w' (h.later b) (l.later b) p (zV (d 1) c) (zV (d 2) c)).mono fun e ab ⟨n,g,j⟩=>⟨by rw[f];exact n,g,fun a=>?_⟩
 rw[f]at a;simp only[Bool.and_eq_true,decide_eq_true_eq]at a;rw[r a.2];exact j ⟨a.1.1,a.1.2,a.2⟩
theorem Kj{q:Nat}{S:RdQ}{A:Nat->Option Addr}{C:Nat->Nat}{vd vc:Value}{aa:ByteArray}{i:Nat}{w:World}{W:List ByteArray}(h:DrV q S A C vd vc w)(l:iv w)(s:S.dims.length<=1048577)(r:(b7 S.dims (S.dims.length-1)).n<=1048577)(a:aa.size<=1048576)(m:mG (wdsB aa) W)(p:bR W=2):
  pK q (rdLine S i (wdsB aa)) 129 #[.pointer (some ⟨q,0,none⟩),.string (wdB W 1),.string (wdB W 2),.string (wdB W 3)] w:=fun w' d=>by
 have e:=qi m ω
 subst e;obtain⟨f,t⟩:=BT (S:=S) (i:=i) p;have c:=fun k=>mE 32 aa k
 refine(Gi q S A C vd vc (wdB (wdsB aa) 1) (wdB (wdsB aa) 2) (wdB (wdsB aa) 3) w' (h.later d) (l.later d) s r (zV (c 1) a) (zV (c 2) a) (zV (c 3) a)).mono fun e ab ⟨o,g,j⟩=>⟨by rw[f];exact o,g,fun b=>?_⟩
 rw[f]at b;rw[t b];exact j b
theorem Kg{q:Nat}{S:RdQ}{A:Nat->Option Addr}{C:Nat->Nat}{vd vc:Value}{aa:ByteArray}{i:Nat}{w:World}{W:List ByteArray}(h:DrV q S A C vd vc w)(l:iv w)(o:S.pl.length=0\/S.first+S.pl.length=i)(r:S.pl.length<=1048577)(c:aa.size<=1048576)(m:mG (wdsB aa) W)(p:bR W=3):
  pK q (rdLine S i (wdsB aa)) 130 #[.pointer (some ⟨q,0,none⟩),.string (wdB W 1),.string (wdB W 2),.int .i64 i] w:=fun w' b=>by
 have e:=qi m ω
 subst e;have f:=BR (S:=S) (i:=i) p;have d:=fun k=>mE 32 aa k
 refine(Cx q S A C vd vc (wdB (wdsB aa) 1) (wdB (wdsB aa) 2) i w' (h.later b) (l.later b) o r (zV (d 1) c) (zV (d 2) c)).mono fun e ab ⟨n,g,j⟩=>⟨by rw[f];exact n,g,fun a=>?_⟩
 rw[f]at a|-;simp only[Bool.and_eq_true]at a;exact j a
theorem m6{x:ByteArray}{l:List UInt8}(h:gG x l=true):x.toList=l:=by simpa [gG]using h
theorem Gg(q:Nat)(S:RdQ)(A:Nat->Option Addr)(C:Nat->Nat)(vd vc:Value)(ab:ByteArray)(i:Nat)(w:World)(h:DrV q S A C vd vc w)(Z:iv w)(hi:S.pl.length=0\/S.first+S.pl.length=i)(hn:S.dims.length<=1048577)(hp:S.pl.length<=1048577)(hm:(b7 S.dims (S.dims.length-1)).n<=1048577)(hl:ab.size<=1048576):
  Calls prog 82 #[.pointer (some ⟨q,0,none⟩),.string ab,.int .i64 i] w fun e w'=>e=.returned (.bool (rdLine S i (wdsB ab)).2)/\Below q w w'/\((rdLine S i (wdsB ab)).2=true->Oh q (rdLine S i (wdsB ab)).1 w'):=by
 have ah:=h.lt;have E:Hid (∀w',Bl w w'->Below q w w'):=fun w' hb=>hb.mono ω
 have z:Hid (∀W,mG (wdsB ab) W->bR W=1->pK q (rdLine S i (wdsB ab)) 128 #[.pointer (some ⟨q,0,none⟩),.string (wdB W 1),.string (wdB W 2)] w):=fun W o t=>Ki h Z hn hl o t
 have B:Hid (∀W,mG (wdsB ab) W->bR W=2->pK q (rdLine S i (wdsB ab)) 129 #[.pointer (some ⟨q,0,none⟩),.string (wdB W 1),.string (wdB W 2),.string (wdB W 3)] w):=fun W o t=>Kj h Z hn hm hl o t
 have y:Hid (∀W,mG (wdsB ab) W->bR W=3->pK q (rdLine S i (wdsB ab)) 130 #[.pointer (some ⟨q,0,none⟩),.string (wdB W 1),.string (wdB W 2),.int .i64 i] w):=fun W o t=>Kg h Z hi hp hl o t
 have D:Hid (∀W,mG (wdsB ab) W->bR W=0->rdLine S i (wdsB ab)=(S,false)):=fun W o t=>DF (by rw[IH o];exact t)
 have u:=Cw ab w ω
 have e0:piecesC 32 ab=wdsB ab:=rfl;rw[e0]at u;generalize wdsB ab=P at u z B y D;generalize rdLine S i P=R at z B y D;obtain⟨ok,I⟩:=ar R.2;have M:=aa I;rw[I];clear h Z hi hn hp hm hl e0 I
 go_enter func82,ntmps82
 go_wp2_with fail;refine u.mono ?_;rintro e w1⟨W,N,rfl,v,s,o⟩;have Q:Bl w w1:=by rw[v];exact(zS).alloc zT _
 have b:∀k,k<W.length->w1.cell? ⟨w.heap.size,k,none⟩=some (.string (wdB W k)):=fun k t=>by rw[v];exact(Lib.cell_of_heap (heap_alloc_new w _) k).trans (vY t)
 have hH:w.heap.size<w1.heap.size:=by rw[v];simp
 have V:=aa o;have d:=aa Q;have X:=o.1;have Y:=o.2.1;obtain⟨H,ae⟩:=ar w.heap.size;rw[ae]at b hH|-;clear v Q o u;obtain⟨kd,a⟩:=ar (bR W);have af:kd=0\/kd=1\/kd=2\/kd=3:=by
  rw[←a];unfold bR
  split
  ·omega
  split
  ·omega
  split<;>omega
 have F:Hid (∀(f:Nat) (args:Array Value),pK q R f args w->∀w',Bl w1 w'->Calls prog f args w' fun e ac=>e=.returned (.bool ok)/\Below q w' ac/\(ok=true->Oh q R.1 ac)):=fun f args m w' hb=>by
  have:=m w' (ad d.o hb);rw[M.o]at this;exact this
 rcases af with rfl|rfl|rfl|rfl
 ·have hr:=D.o W V.o a
  have ho:ok=false:=by rw[←M.o,hr]
  subst ho;have J:=b 0 ω
  have c :¬(gG (wdB W 0) [100,105,109]=true/\W.length=3):=fun h=>by unfold bR at a;rw[if_pos h]at a;cases a
  have l :¬(gG (wdB W 0) [109,101,109]=true/\W.length=4):=fun h=>by unfold bR at a;rw[if_neg c,if_pos h]at a;cases a
  have k3 :¬(gG (wdB W 0) [99,101,108,108]=true/\W.length=3):=fun h=>by unfold bR at a;rw[if_neg c,if_neg l,if_pos h]at a;cases a
  obtain⟨L,hL⟩:=ar W.length;rw[hL]at s X Y c l k3|-;generalize wdB W 0=a0 at J c l k3;have ag:(0:Int)<(L:Int):=ω;clear b a F z B y D hL hr
  by_cases G:gG a0 [100,105,109]=true
  ·have x:=m6 G
   have l3:((L:Int) == 3)=false:=beq_eq_false_iff_ne.2 fun e=>c ⟨G,ω⟩
   clear c l k3 G;go_wp2_with fail;go_ret;exact⟨rfl,E.o _ d.o,fun h=>by cases h⟩
  by_cases K:gG a0 [109,101,109]=true
  ·have x:=m6 K
   have l3:((L:Int) == 4)=false:=beq_eq_false_iff_ne.2 fun e=>l ⟨K,ω⟩
   clear c l k3 G K;go_wp2_with fail;go_ret;exact⟨rfl,E.o _ d.o,fun h=>by cases h⟩
  by_cases O:gG a0 [99,101,108,108]=true
  ·have x:=m6 O
   have l3:((L:Int) == 3)=false:=beq_eq_false_iff_ne.2 fun e=>k3 ⟨O,ω⟩
   clear c l k3 G K O;go_wp2_with fail;go_ret;exact⟨rfl,E.o _ d.o,fun h=>by cases h⟩
  have g1:(a0.toList == [100,105,109])=false:=by simpa [gG]using G
  have g2:(a0.toList == [109,101,109])=false:=by simpa [gG]using K
  have g3:(a0.toList == [99,101,108,108])=false:=by simpa [gG]using O
  clear c l k3 G K O;go_wp2_with fail;go_ret;exact⟨rfl,E.o _ d.o,fun h=>by cases h⟩
 ·obtain⟨c,l⟩:=xg a
  have m:=aa (F.out _ _ (z.o W V.o a));have J:=b 0 ω
  have T:=b 1 ω
  have U:=b 2 ω
  have x:=m6 c;rw[l]at s|-;generalize wdB W 0=a0 at J x;generalize wdB W 1=a1 at T m;generalize wdB W 2=a2 at U m;clear b a c l X Y F z B y D;go_wp2_with fail
  go_region_law ((go_simp;refine(m.o _ γ).mono ?_;rintro e w4⟨rfl,g,j⟩;have p:=aa ((E.o _ d.o).trans (Below.trans γ g));have r:=aa j;clear g j))
  all_goals go_wp2_with fail
  all_goals go_ret
  all_goals exact⟨rfl,p.o,r.o⟩
 ·obtain⟨c,l⟩:=xh a
  have m:=aa (F.out _ _ (B.o W V.o a));have J:=b 0 ω
  have T:=b 1 ω
  have U:=b 2 ω
  have x3:=b 3 ω
  have x:=m6 c;rw[l]at s|-;generalize wdB W 0=a0 at J x;generalize wdB W 1=a1 at T m;generalize wdB W 2=a2 at U m;generalize wdB W 3=a3 at x3 m;clear b a c l X Y F z B y D;go_wp2_with fail
  go_region_law ((go_simp;refine(m.o _ γ).mono ?_;rintro e w4⟨rfl,g,j⟩;have p:=aa ((E.o _ d.o).trans (Below.trans γ g));have r:=aa j;clear g j))
  all_goals go_wp2_with fail
  all_goals go_ret
  all_goals exact⟨rfl,p.o,r.o⟩
 obtain⟨c,l⟩:=xe a;have m:=aa (F.out _ _ (y.o W V.o a));have J:=b 0 ω
 have T:=b 1 ω
 have U:=b 2 ω
 have x:=m6 c;rw[l]at s|-;generalize wdB W 0=a0 at J x;generalize wdB W 1=a1 at T m;generalize wdB W 2=a2 at U m;clear b a c l X Y F z B y D;go_wp2_with fail
 go_region_law ((go_simp;refine(m.o _ γ).mono ?_;rintro e w4⟨rfl,g,j⟩;have p:=aa ((E.o _ d.o).trans (Below.trans γ g));have r:=aa j;clear g j))
 all_goals go_wp2_with fail
 all_goals go_ret
 all_goals exact⟨rfl,p.o,r.o⟩
end Go.Proofs.YtjfampgnhccodaaGreatDoor
