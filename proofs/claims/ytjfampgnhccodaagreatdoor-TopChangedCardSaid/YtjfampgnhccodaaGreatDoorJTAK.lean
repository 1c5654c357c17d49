/- What Leaf of package p -/
import Derived.Test.YtjfampgnhccodaaGreatDoorShelfF
import Derived.Lib.AtoiErrMem
import Derived.Test.YtjfampgnhccodaaGreatDoorJTAI
import Derived.Test.YtjfampgnhccodaaGreatDoorJTAJ
namespace Go.Proofs.YtjfampgnhccodaaGreatDoor
open Tryz ChangeShapes WideShapes ChangeAt RowKit
set_option maxRecDepth 99999
set_option maxHeartbeats 0
def bz(D:Nat->Dm)(L:List Int)(i:Nat):Bool := !leafB (D i).mem (D i).n (L.getD i 0).toNat
def leafV(D:Nat->Dm)(n:Nat)(L:List Int):Bool:=if placeErr D n L=0 then !decide (0<=findFrom (bz D L) n 0)else false
theorem FE:bo 101:=fun args w=>by simp[callFunc,func101];rfl
theorem BG(b o n cap k q r bp op p X:Nat)(D:Nat->Dm)(A:Nat->Option Addr)(C:Nat->Nat)(w:World)(s:k<n)(E:n<=4)(m:(am (D k)).2=0)(B:X<(D k).n)(l:eh w b o n D A C)(H:w.cell? ⟨bp,op+k,none⟩=some (.int .i64 X))(F:w.cell? ⟨q,0,none⟩=some (.slice (some ⟨b,o,none⟩) n cap))(G:w.cell? ⟨r,0,none⟩=some (.slice (some ⟨bp,op,none⟩) n p)):
  Rt 101 #[.int .i64 k,.pointer (some ⟨q,0,none⟩),.pointer (some ⟨r,0,none⟩)] w (.bool (!leafB (D k).mem (D k).n X)):=by
 obtain⟨v,x,z,j⟩:=l.2 k s;have t:(k:Int)<(n:Int):=ω;have u:(n:Int)<=4:=ω;have a:treeErr (D k) [(X:Int)]=0:=by rw[ib m,if_neg ω]
 have f:uu (D k) (X:Int)=leafB (D k).mem (D k).n X:=by simp[uu,a]
 have c:Hid (∀w',Bl w w'->Rt 102 #[.agg #[.string (D k).name,.int .i64 (D k).solve,.slice (A k) (D k).n (C k)],.int .i64 X] w' (.tuple #[.bool (leafB (D k).mem (D k).n X),.nilIface])):=fun w' i=>by
  have h:=tS (D k) (A k) (C k) X w' (j.later i);rw[a,f,errV_zero]at h;exact h
 generalize leafB (D k).mem (D k).n X=y at c;clear l j a f m
 go_enter func101,ntmps101
 go_wp2_with fail
 go_region_law ((go_simp;refine(c.o _ γ).mono ?_;rintro e w2⟨rfl,d⟩;have g:=ad (W0:=w) γ d;clear d))
 all_goals go_wp2_with fail
 all_goals go_ret
 all_goals exact⟨rfl,g⟩
theorem FF(A0:Option Addr)(cap n:Nat)(D:Nat->Dm)(A:Nat->Option Addr)(C:Nat->Nat)(Ap:Option Addr)(q:Nat)(L:List Int)(w:World)(E:aL w A0 cap n D A C)(F:de w Ap q L):Rt 60 #[.agg #[.slice A0 n cap],.slice Ap L.length q] w (.tuple #[.bool (leafV D n L),errV (placeErr D n L)]):=by
 have g:=oG w A0 n cap Ap L.length q 24 43;have h:=jo A0 cap n D A C Ap q L (kQ w A0 n cap Ap L.length q 24 43) (E.later g) (F.later g);have f:=aa g;have O:=aa E;have P:=aa F;clear E g F
 by_cases i:placeErr D n L=0
 ·have s:Hid (InO D n L):=jR i
  have HV:Hid (leafV D n L = !decide (0<=findFrom (bz D L) n 0)):=by show _=_;unfold leafV;rw[if_pos i]
  have z:Hid (errV (placeErr D n L)=.nilIface):=by show _=_;rw[i];rfl
  rw[i,errV_zero]at h;obtain⟨U,x,-,-⟩:=ao s.o.right;have T:(n:Int)<=4:=ω;have v:=s.o.len;obtain⟨I,J|⟨bp,op,rfl,H,d⟩⟩:=P.o
  ·rw[J]at v;simp at v;omega
  rw[v]at h f;rw[v];have N:Hid (∀j,j<n->w.cell? ⟨bp,op+j,none⟩=some (.int .i64 (L.getD j 0))):=fun j r=>d j ω
  clear i v d I
  go_enter func60,ntmps60
  go_wp2_with fail;refine h.mono ?_;rintro e w1⟨rfl,a⟩;have B:Bl w w1:=ad f.o a;have X:w.heap.size+1<w1.heap.size:=by have:=a.size;rw[dY]at this;omega
  have V:w1.cell? ⟨w.heap.size,0,none⟩=some (.slice A0 n cap):=aM a (by show w.heap.size<_;rw[dY];omega) (uU ..)
  have W:w1.cell? ⟨w.heap.size+1,0,none⟩=some (.slice (some ⟨bp,op,none⟩) n q):=aM a (by show w.heap.size+1<_;rw[dY];omega) (uV ..)
  obtain⟨K,J|⟨b,o,rfl,t⟩⟩:=O.o.later B
  ·omega
  have l:=pL 101 w.heap.size (w.heap.size+1) FE (some ⟨b,o,none⟩) n cap (bz D L) w1 x (fun j w' r k=>by
   have S:=s.o.lo j r;have R:=s.o.hi j r;have Q:L.getD j 0=((L.getD j 0).toNat:Int):=ω;have u:=((ad B k).cell (p:=⟨bp,op+j,none⟩) H).trans (N.o j r);rw[Q]at u;exact BG b o n cap j w.heap.size (w.heap.size+1) bp op q (L.getD j 0).toNat D A C w' r x ((aZ s.o.right).2 j r) ω (t.later k) u (aM k (by show w.heap.size<_;omega) V) (aM k X W))
  have M:=aa B;generalize decide (0<=findFrom (bz D L) n 0)=y at l HV;clear a h t B;go_wp2_with fail;refine l.mono ?_;rintro e w2⟨rfl,G⟩;go_wp2_with fail
  go_ret2
  rw[HV.o,z.o];exact⟨rfl,ad M.o G⟩
 have HV:Hid (leafV D n L=false):=by show _=_;unfold leafV;rw[if_neg i]
 have z:Hid (errV (placeErr D n L)=.iface 71 (.int .i64 (placeErr D n L))):=ac i;rw[ac i]at h;clear i;generalize placeErr D n L=c at h z;generalize L.length=m at h f
 go_enter func60,ntmps60
 go_wp2_with fail;refine h.mono ?_;rintro e w1⟨rfl,a⟩;go_wp2_with fail
 go_ret2
 rw[HV.o,z.o];exact⟨rfl,ad f.o a⟩
theorem wu:∀(l:List UInt8) (aa:Nat),(∀b∈l,48<=b.toNat/\b.toNat<=57)->∃m:Nat,Lib.decFrom aa l=some m/\l.foldl (fun n c=>n*10+((c.toNat:Int)-48)) (aa:Int)=(m:Int)
 | [],aa,_=>⟨aa,rfl,rfl⟩
 |b :: r,aa,h=>by
  have e:=h b (List.mem_cons_self ..);have g:Lib.digitVal b=some (b.toNat-48):=by unfold Lib.digitVal;rw[if_pos e]
  obtain⟨m,a,d⟩:=wu r (aa*10+(b.toNat-48)) (fun c f=>h c (List.mem_cons_of_mem _ f))
  refine⟨m,?_,?_⟩
  ·simp only[Lib.decFrom,g];exact a
  rw[List.foldl_cons,←d]
  congr 1
  omega
theorem zt{t:ByteArray}(h:∀i,i<t.size->dV (byteN t i)=true):∀b∈t.data.toList,48<=b.toNat/\b.toNat<=57:=by
 intro b d;obtain⟨i,c,rfl⟩:=List.getElem_of_mem d;have a:=h i (by simpa using c)
 unfold byteN dV at a;rw[List.getD,zX c]at a;simp only[Option.getD_some,Bool.and_eq_true,decide_eq_true_eq]at a
 omega
theorem GT{t:ByteArray}(n:1<=t.size)(h:∀i,i<t.size->dV (byteN t i)=true):Lib.atoi t.data.toList=some (numW t):=by
 have a:=zt h;obtain⟨m,f,g⟩:=wu t.data.toList 0 a;unfold numW;have l:((0:Nat):Int)=0:=rfl;rw[l]at g;rw[g];have c:t.data.toList≠[]:=by
  intro e;have:t.data.toList.length=0:=by rw[e];rfl
  have o:t.size=t.data.toList.length:=by simp
  omega
 cases hl:t.data.toList with
 |nil=>exact absurd hl c
 |cons b r =>
  rw[hl]at a f;have d:=a b (List.mem_cons_self ..);have j:(b == 45)=false:=by
   apply Bool.eq_false_iff.2;intro e;rw[beq_iff_eq]at e;subst e;revert d;decide
  have k:(b == 43)=false:=by
   apply Bool.eq_false_iff.2;intro e;rw[beq_iff_eq]at e;subst e;revert d;decide
  simp only[Lib.atoi,j,k,Bool.false_eq_true,if_false];unfold Lib.decNat;rw[if_neg σ,f]
  rfl
theorem D6(t:ByteArray)(w:World)(a:1<=t.size)(d:t.size<=7)(h:∀i,i<t.size->dV (byteN t i)=true):Rt 235 #[.string t] w (.tuple #[.int .i64 (numW t),.nilIface]):=
 (Any.strconv_Atoi lays172 t (numW t) ω (GT a h) w).mono fun e w' ⟨b,x,c⟩=>⟨b,by rw[c];exact Lib.bytesWorld_below _ _ _⟩
theorem ga(x:Nd):IW x=.agg #[.int .i64 x.op,.int .i64 x.n,.string x.name,.int .i64 x.left,.int .i64 x.right]:=rfl
theorem yY{w w1 w2:World}(b:Below (w.alloc (.cells #[.int .i64 0,.int .i64 0,.string ⟨#[]⟩,.int .i64 0,.int .i64 0] 223)).heap.size (w.alloc (.cells #[.int .i64 0,.int .i64 0,.string ⟨#[]⟩,.int .i64 0,.int .i64 0] 223)) w1)(c:Bl w1 w2):
  Bl w w2/\(∀j,w2.frozen? ⟨w.heap.size,j,none⟩=false)/\w2.cell? ⟨w.heap.size,0,none⟩=some (.int .i64 0)/\w2.cell? ⟨w.heap.size,1,none⟩=some (.int .i64 0)/\w2.cell? ⟨w.heap.size,2,none⟩=some (.string ⟨#[]⟩)/\w2.cell? ⟨w.heap.size,3,none⟩=some (.int .i64 0)/\w2.cell? ⟨w.heap.size,4,none⟩=some (.int .i64 0):=by
 have a:=ad b c;have d:w.heap.size<(w.alloc (.cells #[.int .i64 0,.int .i64 0,.string ⟨#[]⟩,.int .i64 0,.int .i64 0] 223)).heap.size:=by simp
 have h:=(a.block _ d).trans (heap_alloc_new w _);exact⟨ad γ a,fun j=>by simp[World.frozen?,h],by simp[World.cell?,h],by simp[World.cell?,h],by simp[World.cell?,h],by simp[World.cell?,h],by simp[World.cell?,h]⟩
theorem xQ(t:ByteArray)(w:World)(z:1<=t.size)(I:t.size<=1000)(h:cZ (byteN t 0)=true\/(t.size<=7/\∀i,i<t.size->dV (byteN t i)=true)):Rt 244 #[.string t] w (IW (opndN t)):=by
 have f:=islet_any (byteN t 0);have C:=fu t 0 ω
 have A:0<(t.size:Int):=ω;by_cases g:cZ (byteN t 0)=true
 ·have k:opndN t=⟨2,0,t,0,0⟩:=by
   unfold opndN cZ at *
   simp at g
   rw[if_pos ω]
  have p:=fun w=>d5 t w ω
  rw[k,ga];rw[g]at f;clear h g k;generalize byteN t 0=c at *
  go_enter func244,ntmps244
  go_wp2_with fail;refine(f _).mono ?_;rintro e w1⟨rfl,b⟩;go_wp2_with fail;refine(p _).mono ?_;rintro e w2⟨rfl,d⟩;obtain⟨j,a,q,r,s,u,x⟩:=yY b d;have m:=aa j;have D:=a 0;have E:=a 1;have F:=a 2;have G:=a 3;have H:=a 4;clear b d j a;go_wp2_with fail;refine bodyPost_ret (v:=.agg #[.int .i64 2,.int .i64 0,.string t,.int .i64 0,.int .i64 0]) (by simp[results,results244,go_sem,q,r,s,u,x]) rfl ⟨rfl,?_⟩
  exact((((m.o.setCell zT _).setCell zT _).setCell zT _).setCell zT _).setCell zT _
 have l:cZ (byteN t 0)=false:=by simpa using g
 obtain⟨B,y⟩:=h.resolve_left g;have k:opndN t=⟨1,numW t,⟨#[]⟩,0,0⟩:=by
  unfold opndN cZ at *
  simp at g
  rw[if_neg ω]
 have o:=fun w=>D6 t w z B y
 rw[k,ga];rw[l]at f;clear h g k y l;generalize byteN t 0=c at *;generalize numW t=n at *
 go_enter func244,ntmps244
 go_wp2_with fail;refine(f _).mono ?_;rintro e w1⟨rfl,b⟩;go_wp2_with fail;refine(o _).mono ?_;rintro e w2⟨rfl,d⟩;obtain⟨j,a,q,r,s,u,x⟩:=yY b d;have m:=aa j;have D:=a 0;have E:=a 1;have F:=a 2;have G:=a 3;have H:=a 4;clear b d j a;go_wp2_with fail;refine bodyPost_ret (v:=.agg #[.int .i64 1,.int .i64 n,.string ⟨#[]⟩,.int .i64 0,.int .i64 0]) (by simp[results,results244,go_sem,q,r,s,u,x]) rfl ⟨rfl,?_⟩
 exact((((m.o.setCell zT _).setCell zT _).setCell zT _).setCell zT _).setCell zT _
structure FitB(a o:Nat)(ph:Bool)(b:Bld):Prop where
 zero:d7 b.waiting=o
 ops:opsN b.waiting+(if ph then 1 else 0)<=b.ready.length
 nodes:b.nodes.length+opsN b.waiting<=a
 wait:b.waiting.length<=a
 ready:b.ready.length<=a
theorem BldV.push{N p o q a k g c:Nat}{AN AR AW:Option Addr}{b:Bld}{w W w6:World}{x:Int}(d:BldV N p AN o AR q AW a b w)(r:N<=w.heap.size)(s:b.waiting.length=k)(l:Bl w W)(m:W.grownBy w6 (Value.slice AW k a).ownBlock)
  (t:w6.ownsRow N 3 1 (.slice (some ⟨g,0,none⟩) (k+1) c) (k+1) (aA b.waiting++[.int .i64 x])) (i:(Value.slice AW k a).ownBlock=some g\/g=W.heap.size):
  (w6.cell? ⟨p,2,none⟩=some (.slice AW k a)/\w6.frozen? ⟨p,2,none⟩=false)/\dh N p ⟨b.nodes,b.ready,b.waiting++[x]⟩ (w6.setCell ⟨p,2,none⟩ (.slice (some ⟨g,0,none⟩) (k+1) c))/\Kept N (fun k=>k=p) w (w6.setCell ⟨p,2,none⟩ (.slice (some ⟨g,0,none⟩) (k+1) c)):=by
 subst s;have h:=d.reach l m (fun g e=>(aD d.wai e).1)
 have n:=h.trans d.blk;refine⟨⟨by simp[World.cell?,n],by simp[World.frozen?,n]⟩,?_⟩
 have j:(b.waiting++[x]).length=b.waiting.length+1:=by simp
 have f:=d.wait (L:=b.waiting++[x]) (g:=g) (c:=c) (w2:=w6) r l m (by rw[j,mapI_snoc];exact t) i
 rw[j]at f;exact⟨⟨_,_,_,_,_,_,f.1⟩,f.2⟩
theorem rG(aa:Int):∀(k:Nat) (b:Bld),b.waiting.length=k->opsN b.waiting+1<=b.ready.length ->
  d7 (bh aa k b).waiting=d7 b.waiting/\(bh aa k b).ready.length+opsN b.waiting=b.ready.length+opsN (bh aa k b).waiting/\(bh aa k b).nodes.length+opsN (bh aa k b).waiting=b.nodes.length+opsN b.waiting/\(bh aa k b).waiting.length<=b.waiting.length/\opsN (bh aa k b).waiting<=opsN b.waiting
 | 0,b,_,_=>⟨rfl,rfl,rfl,zT,zT⟩
 |k+1,b,hk,hr=>by
  by_cases h:b.waiting.getD k 0=0\/bindN (b.waiting.getD k 0)<aa
  ·rw[hZ h];exact⟨rfl,rfl,rfl,zT,zT⟩
  rw[nJ h];obtain⟨o1,o2⟩:=qU hk;have a:b.waiting.getD k 0≠0:=fun e=>h (Or.inl e)
  rw[if_pos a]at o1;rw[if_neg a]at o2;obtain⟨l1,l2,l3⟩:=xb (op:=b.waiting.getD k 0) (b:=⟨b.nodes,b.ready,b.waiting.take k⟩) (by show 2<=b.ready.length;omega)
  have c:(em (b.waiting.getD k 0) ⟨b.nodes,b.ready,b.waiting.take k⟩).waiting.length=k:=by rw[l3];simp;omega
  simp only at l1 l2 l3;obtain⟨d,f,g,j,i⟩:=rG aa k (em (b.waiting.getD k 0) ⟨b.nodes,b.ready,b.waiting.take k⟩) c (by rw[l3];omega)
  rw[l3]at d f g i;exact⟨ω,ω,ω,ω,ω⟩
theorem hJ(aa:Int)(b:Bld)(h:opsN b.waiting+1<=b.ready.length):
  d7 (settleB aa b).waiting=d7 b.waiting/\(settleB aa b).ready.length+opsN b.waiting=b.ready.length+opsN (settleB aa b).waiting/\(settleB aa b).nodes.length+opsN (settleB aa b).waiting=b.nodes.length+opsN b.waiting/\(settleB aa b).waiting.length<=b.waiting.length/\opsN (settleB aa b).waiting<=opsN b.waiting:=rG aa _ b rfl h
theorem oN:∀(k:Nat) (b:Bld),b.waiting.length=k->∀j,(bh 0 k b).waiting.length=j+1->(bh 0 k b).waiting.getD j 0=0
 | 0,b,hk,j,h=>by rw[bh]at h;omega
 |k+1,b,hk,j,h=>by
  by_cases a:b.waiting.getD k 0=0\/bindN (b.waiting.getD k 0)<0
  ·rw[hZ a]at h|-
   have e:j=k:=ω;rw[e];exact a.resolve_right (by have:=GY (b.waiting.getD k 0);omega)
  rw[nJ a]at h|-;exact oN k _ (by show(b.waiting.take k).length=k;simp;omega) j h
theorem rH{c:Int}(h:0<=signI c):(c=43/\signI c=0)\/(c=45/\signI c=1)\/(c=42/\signI c=2)\/(c=47/\signI c=3):=by
 unfold signI at *
 by_cases a:c=43
 ·left;exact⟨a,by rw[if_pos a]⟩
 by_cases b:c=45
 ·right;left;exact⟨b,by rw[if_neg a,if_pos b]⟩
 by_cases d:c=42
 ·right;right;left;exact⟨d,by rw[if_neg a,if_neg b,if_pos d]⟩
 by_cases e:c=47
 ·right;right;right;exact⟨e,by rw[if_neg a,if_neg b,if_neg d,if_pos e]⟩
 rw[if_neg a,if_neg b,if_neg d,if_neg e]at h;omega
theorem Kk(N p:Nat)(b:Bld)(t:ByteArray)(w:World)(z:N<=w.heap.size)(G:t.size=1)(f:byteN t 0=40)(H:b.waiting.length<=200)(y:dh N p b w):
  Calls prog 193 #[.pointer (some ⟨p,0,none⟩),.string t] w fun e w'=>e=.returned (.tuple #[])/\dh N p ⟨b.nodes,b.ready,b.waiting++[0]⟩ w'/\Kept N (fun k=>k=p) w w':=by
 obtain⟨i0,l,n,o,q⟩:=info_parts infoIntF;obtain⟨AN,D,AR,E,AW,v,h⟩:=y;have j:=fu t 0 ω
 rw[f]at j;have x:0<(t.size:Int):=ω;have c2:=h.c2;have C:=h.lt;obtain⟨k,m⟩:=ar b.waiting.length;rw[m]at c2;have B:(k:Int)<=200:=ω;have s:Hid (∀w',Bl w w'->w'.ownsRow N 3 1 (.slice AW k v) k (aA b.waiting)):=fun w' A=>by have:=(h.later A).wai;rw[m]at this;exact this
 have HV:=aa h;clear h f
 go_enter func193,ntmps193
 go_wp2_with (at_builtin;refine wpList_append_lies _ rfl _ _ 42 rfl N 3 i0 (.int .i64 0) 1 8 underlying42 l n o q rfl (by decide) _ _ _ rfl (s.o _ γ) ⟨w.heap.size,0,none⟩ 1 1 [.int .i64 0] rfl rfl da ew ω (by unfold maxLen;omega) ω (by simp;omega) (w.heap.size+1) σ ?_)
 intro g F w6 d c a i;obtain⟨⟨I,J⟩,r⟩:=HV.o.push z m γ c d (by rcases a with a|a;exact Or.inl a;exact Or.inr (by simp;omega))
 have u:=aa r;clear d c a i r;go_wp2_with fail
 first|go_end0|refine bodyPost_ret (results_none rfl _ _ _) rfl ?_
 exact⟨rfl,u.o⟩
theorem Kh(N p:Nat)(b:Bld)(t:ByteArray)(w:World)(q:N<=w.heap.size)(O:t.size=1)(c:byteN t 0=41)(F:b.nodes.length+opsN b.waiting<=200)(G:b.ready.length<=200)(v:opsN b.waiting+1<=b.ready.length)(H:b.waiting.length<=200)(P:1<=d7 b.waiting)(o:dh N p b w):
  Calls prog 193 #[.pointer (some ⟨p,0,none⟩),.string t] w fun e w'=>e=.returned (.tuple #[])/\dh N p ⟨(settleB 0 b).nodes,(settleB 0 b).ready,(settleB 0 b).waiting.take ((settleB 0 b).waiting.length-1)⟩ w'/\Kept N (fun k=>k=p) w w':=by
 have m:=fu t 0 ω
 rw[c]at m;have z:0<(t.size:Int):=ω;have f:=js N p b 0 w q F G v H o;obtain⟨Q,R,S,T,U⟩:=hJ 0 b v;have u:1<=(settleB 0 b).waiting.length:=by have:=KH (settleB 0 b).waiting;omega
 generalize settleB 0 b=b1 at *;obtain⟨k,s⟩:∃k,b1.waiting.length=k+1:=⟨b1.waiting.length-1,ω⟩
 rw[s,Nat.add_sub_cancel];have D:(k:Int)<=200:=ω;clear c o
 go_enter func193,ntmps193
 go_wp2_with fail;refine f.mono ?_;rintro e w1⟨rfl,⟨AN,J,AR,K,AW,h,a⟩,i⟩;have HV:=aa a;have I:=aa i;obtain⟨g,B,M⟩:=pA (k:=k) a.wai ω
 subst B;have r:k+1<=h:=by
  rcases a.wai.2 with⟨j,_⟩|⟨g,cap,y,j,_,_,n,_⟩
  ·cases j
  cases j;omega
 have C:(k:Int)+1<=(h:Int):=ω;have c2:=a.c2;have L:=a.fr 2;have E:=a.lt;rw[s]at c2;have x:Hid (∀w',Bl w1 w'->dh N p ⟨b1.nodes,b1.ready,b1.waiting.take k⟩ (w'.setCell ⟨p,2,none⟩ (.slice (some ⟨g,0,none⟩) k h))/\Kept N (fun k=>k=p) w (w'.setCell ⟨p,2,none⟩ (.slice (some ⟨g,0,none⟩) k h))):=by
  intro w' l;have d:N<=w1.heap.size:=zV q i.size;obtain⟨A,n⟩:=(a.later l).waitCut (k:=k) (zV d l.size) ω
  exact⟨⟨_,_,_,_,_,_,A⟩,(i.trans (aF l d)).trans n⟩
 clear a i f;go_wp2_with fail
 go_region
 all_goals (go_wp2_with fail;first|go_end0|refine bodyPost_ret (results_none rfl _ _ _) rfl ?_)
 all_goals exact⟨rfl,x.o w1.drew γ⟩
theorem yR(N p:Nat)(b:Bld)(t:ByteArray)(w:World)(r:N<=w.heap.size)(z:1<=t.size)(B:t.size<=1000)(h:cZ (byteN t 0)=true\/(t.size<=7/\∀i,i<t.size->dV (byteN t i)=true))(D:b.nodes.length<=200)(E:b.ready.length<=200)(q:dh N p b w):
  Calls prog 193 #[.pointer (some ⟨p,0,none⟩),.string t] w fun e w'=>e=.returned (.tuple #[])/\dh N p (ly (opndN t) b) w'/\Kept N (fun k=>k=p) w w':=by
 have C:=fu t 0 ω
 have A:0<(t.size:Int):=ω;have P:48<=byteN t 0:=by
  rcases h with h|⟨-,h⟩
  ·unfold cZ at h;simp at h;omega
  have:=h 0 ω;unfold dV at this;simp at this;omega
 have o:=xQ t;have n:(byteN t 0 == 40)=false/\(byteN t 0 == 41)=false/\(byteN t 0 == 43)=false/\(byteN t 0 == 45)=false/\(byteN t 0 == 42)=false/\(byteN t 0 == 47)=false:=by
  refine⟨?_,?_,?_,?_,?_,?_⟩ <;>(apply Bool.eq_false_iff.2;intro e;rw[beq_iff_eq]at e;omega)
 obtain⟨I,J,K,L,M,O⟩:=n;have l:Hid (∀w,Rt 244 #[.string t] w (IW (opndN t))):=fun w=>xQ t w z B h
 have y:=aa q;clear h q o;generalize byteN t 0=c at *;generalize opndN t=x at *
 go_enter func193,ntmps193
 go_wp2_with fail;refine(l.o _).mono ?_;rintro e w1⟨rfl,a⟩;obtain⟨AN,F,AR,G,AW,H,s⟩:=y.o;have d:Hid (dh N p b w1):=⟨_,_,_,_,_,_,s.later a⟩;have g:Hid (Kept N (fun k=>k=p) w w1):=aF a r
 have m:N<=w1.heap.size:=zV r a.size;clear s a;go_wp2_with fail;refine(CS N p b x w1 m D E d.o).mono ?_;rintro e w2⟨rfl,u,v⟩;have j:=aa (g.o.trans v);have f:=aa u;clear u v;go_wp2_with fail
 first|go_end0|refine bodyPost_ret (results_none rfl _ _ _) rfl ?_
 exact⟨rfl,f.o,j.o⟩
theorem Kl(N p:Nat)(b:Bld)(t:ByteArray)(w:World)(D:N<=w.heap.size)(h1:t.size=1)(c i:Int)(O:byteN t 0=c)(P:signI c=i)(h:(c=43/\i=0)\/(c=45/\i=1)\/(c=42/\i=2)\/(c=47/\i=3))(k1:b.nodes.length+opsN b.waiting<=200)(k2:b.ready.length<=200)(R:opsN b.waiting+1<=b.ready.length)(k4:b.waiting.length<=200)(M:dh N p b w):
  Calls prog 193 #[.pointer (some ⟨p,0,none⟩),.string t] w fun e w'=>e=.returned (.tuple #[])/\dh N p ⟨(settleB (bindN (3+i)) b).nodes,(settleB (bindN (3+i)) b).ready,(settleB (bindN (3+i)) b).waiting++[3+i]⟩ w'/\Kept N (fun k=>k=p) w w':=by
 obtain⟨i0,H,J,K,L⟩:=info_parts infoIntF;have G:=fu t 0 ω
 rw[O]at G;have Z:0<(t.size:Int):=ω;have s:=rI c ω ω
 rw[P]at s;have r:=sJ (3+i);have v:=fun w1 h=>js N p b (bindN (3+i)) w1 h k1 k2 R k4
 obtain⟨q1,q2,q3,q4,q5⟩:=hJ (bindN (3+i)) b R;generalize settleB (bindN (3+i)) b=b1 at *;generalize bindN (3+i)=bn at *;have B:=aa v;have S:=aa M;obtain⟨op,m⟩:∃op:Int,3+i=op:=⟨_,rfl⟩;rw[m]at r|-;have Q:3<=op/\op<=6:=ω;clear v M O P
 rcases h with⟨rfl,rfl⟩|⟨rfl,rfl⟩|⟨rfl,rfl⟩|⟨rfl,rfl⟩
 all_goals
  simp only[Int.add_zero,Int.reduceAdd]at m;subst m
  go_enter func193,ntmps193
  go_wp2_with fail;refine(s _).mono ?_;rintro e w1⟨rfl,d⟩;go_wp2_with fail;refine(r _).mono ?_;rintro e w2⟨rfl,l⟩;obtain⟨ab,V,ac,W,ad,Y,q⟩:=S.o;have n:N<=w2.heap.size:=zV D (zV d.size l.size);have x:Hid (dh N p b w2):=⟨_,_,_,_,_,_,(q.later d).later l⟩;have y:Hid (Kept N (fun k=>k=p) w w2):=(aF d D).trans (aF l (zV D d.size))
  clear q d l;go_wp2_with fail;refine(B.o w2 n x.o).mono ?_;rintro e w3⟨rfl,⟨AN,cN,AR,cR,AW,X,o⟩,C⟩;have z:=aa (y.o.trans C);have HV:=aa o;have E:N<=w3.heap.size:=zV n C.size;have c2:=o.c2;have af:=o.lt;obtain⟨k,I⟩:=ar b1.waiting.length;rw[I]at c2;have ae:(k:Int)<=200:=ω;have T:Hid (∀w',Bl w3 w'->w'.ownsRow N 3 1 (.slice AW k X) k (aA b1.waiting)):=fun w' hb=>by have:=(o.later hb).wai;rw[I]at this;exact this
  clear o C
  go_wp2_with (at_builtin;refine wpList_append_lies _ rfl _ _ 42 rfl N 3 i0 (.int .i64 0) 1 8 underlying42 H J K L rfl (by decide) _ _ _ rfl (T.o _ γ) ⟨w3.heap.size,0,none⟩ 1 1 [.int .i64 _] rfl rfl da ew ω (by unfold maxLen;omega) ω (by simp;omega) (w3.heap.size+1) σ ?_)
  intro g cg w6 j f a u;obtain⟨⟨y1,y2⟩,F⟩:=HV.o.push E I γ f j (by rcases a with a|a;exact Or.inl a;exact Or.inr (by simp;omega))
  have U:=aa (z.o.trans F.2);have A:=aa F.1;clear j f a u F;go_wp2_with fail
  first|go_end0|refine bodyPost_ret (results_none rfl _ _ _) rfl ?_
  exact⟨rfl,A.o,U.o⟩
theorem xT(l:List Int)(x:Int):opsN (l++[x])=opsN l+(if x≠0 then 1 else 0)/\d7 (l++[x])=d7 l+(if x=0 then 1 else 0):=by
 unfold opsN d7;rw[List.countP_append,List.countP_append]
 by_cases e:x=0 <;>simp[e]
theorem ia{b:Bld}{t:ByteArray}(h:48<=byteN t 0):takeB b t=ly (opndN t) b:=by
 have hs :¬ 0<=signI (byteN t 0):=by
  unfold signI;rw[if_neg ω,if_neg ω,if_neg ω,if_neg ω]
  omega
 rw[takeB,if_neg ω,if_neg ω,if_neg hs]
theorem De{a o n:Nat}{b:Bld}{x:Nd}(i:1<=n)(e:FitB a o false b):FitB (a+n) o true (ly x b):=by
 obtain⟨c,d,f,g,h⟩:=e;refine⟨c,?_,?_,?_,?_⟩
 ·simp[ly]at d|-;omega
 ·simp[ly];omega
 ·simp[ly];omega
 simp[ly];omega
theorem Ij{a o o':Nat}{ph aa:Bool}{b:Bld}{t:ByteArray}(q:Stp o ph t o' aa)(e:FitB a o ph b):FitB (a+t.size) o' aa (takeB b t):=by
 cases q with
 |opn o t h1 h40 =>
  obtain⟨h,c,j,l,m⟩:=e;have f:takeB b t=⟨b.nodes,b.ready,b.waiting++[0]⟩:=by rw[takeB,if_pos h40]
  rw[f];obtain⟨s1,s2⟩:=xT b.waiting 0;rw[if_neg (by decide)]at s1
  rw[if_pos rfl]at s2
  simp at c
  refine⟨?_,?_,?_,?_,?_⟩
  ·show d7 (b.waiting++[0])=_;omega
  ·show opsN (b.waiting++[0])+_<=b.ready.length;simp;omega
  ·show b.nodes.length+opsN (b.waiting++[0])<=_;omega
  ·show(b.waiting++[0]).length<=_;simp;omega
  show b.ready.length<=_;omega
 |cls _ t h1 h41 =>
  obtain⟨h,c,j,l,m⟩:=e
  simp at c
  have f:takeB b t=⟨(settleB 0 b).nodes,(settleB 0 b).ready,(settleB 0 b).waiting.take ((settleB 0 b).waiting.length-1)⟩:=by rw[takeB,if_neg ω,if_pos h41]
  rw[f];obtain⟨s,u,v,w,x⟩:=hJ 0 b c;have n:1<=(settleB 0 b).waiting.length:=by have:=KH (settleB 0 b).waiting;omega
  obtain⟨k,g⟩:∃k,(settleB 0 b).waiting.length=k+1:=⟨(settleB 0 b).waiting.length-1,ω⟩
  have p:(settleB 0 b).waiting.getD k 0=0:=oN _ b rfl k g;obtain⟨o1,o2⟩:=qU g;rw[p,if_neg (by decide)]at o1
  rw[p,if_pos rfl]at o2;rw[g,Nat.add_sub_cancel];refine⟨?_,?_,?_,?_,?_⟩
  ·show d7 ((settleB 0 b).waiting.take k)=_;omega
  ·show opsN ((settleB 0 b).waiting.take k)+_<=(settleB 0 b).ready.length;simp;omega
  ·show(settleB 0 b).nodes.length+opsN ((settleB 0 b).waiting.take k)<=_;omega
  ·show((settleB 0 b).waiting.take k).length<=_;simp;omega
  show(settleB 0 b).ready.length<=_;omega
 |num _ t h1 h7 hd =>
  have d:=hd 0 ω
  unfold dV at d
  simp at d
  rw[ia ω]
  exact De h1 e
 |nam _ t h1 hl =>
  have d:=hl 0 ω
  unfold cZ at d
  simp at d
  rw[ia ω]
  exact De h1 e
 |sgn _ t h1 hs =>
  obtain⟨h,c,j,l,m⟩:=e
  simp at c
  obtain⟨i,r⟩:=ar (signI (byteN t 0));have y:=rH hs;have f:takeB b t=⟨(settleB (bindN (3+i)) b).nodes,(settleB (bindN (3+i)) b).ready,(settleB (bindN (3+i)) b).waiting++[3+i]⟩:=by
   rw[takeB,if_neg ω,if_neg ω,if_pos hs,r]
  rw[f];obtain⟨s,u,v,w,x⟩:=hJ (bindN (3+i)) b c;obtain⟨s1,s2⟩:=xT (settleB (bindN (3+i)) b).waiting (3+i);rw[if_pos ω]at s1
  rw[if_neg ω]at s2
  generalize settleB (bindN (3+i)) b=b1 at *;refine⟨?_,?_,?_,?_,?_⟩
  ·show d7 (b1.waiting++[3+i])=_;omega
  ·show opsN (b1.waiting++[3+i])+_<=b1.ready.length;simp;omega
  ·show b1.nodes.length+opsN (b1.waiting++[3+i])<=_;omega
  ·show(b1.waiting++[3+i]).length<=_;simp;omega
  show b1.ready.length<=_;omega
theorem Kf(N p a o o':Nat)(ph aa:Bool)(b:Bld)(t:ByteArray)(w:World)(f:N<=w.heap.size)(q:Stp o ph t o' aa)(n:FitB a o ph b)(x:a+t.size<=100)(d:dh N p b w):
  Calls prog 193 #[.pointer (some ⟨p,0,none⟩),.string t] w fun e w'=>e=.returned (.tuple #[])/\dh N p (takeB b t) w'/\Kept N (fun k=>k=p) w w':=by
 obtain⟨r,h,s,u,v⟩:=n;cases q with
 |opn o t h1 h40 =>
  have g:takeB b t=⟨b.nodes,b.ready,b.waiting++[0]⟩:=by rw[takeB,if_pos h40]
  rw[g];exact Kk N p b t w f h1 h40 ω d
 |cls _ t h1 h41 =>
  simp at h
  have g:takeB b t=⟨(settleB 0 b).nodes,(settleB 0 b).ready,(settleB 0 b).waiting.take ((settleB 0 b).waiting.length-1)⟩:=by rw[takeB,if_neg ω,if_pos h41]
  rw[g];exact Kh N p b t w f h1 h41 ω ω h ω ω d
 |num _ t h1 h7 hd =>
  have c:=hd 0 ω
  unfold dV at c
  simp at c
  rw[ia ω]
  exact yR N p b t w f h1 ω (Or.inr ⟨h7,hd⟩) ω ω d
 |nam _ t h1 hl =>
  have c:=hl 0 ω
  have j:=c;unfold cZ at c
  simp at c
  rw[ia ω]
  exact yR N p b t w f h1 ω (Or.inl j) ω ω d
 |sgn _ t h1 hs =>
  simp at h
  obtain⟨i,l⟩:=ar (signI (byteN t 0));have m:=rH hs;have g:takeB b t=⟨(settleB (bindN (3+i)) b).nodes,(settleB (bindN (3+i)) b).ready,(settleB (bindN (3+i)) b).waiting++[3+i]⟩:=by
   rw[takeB,if_neg ω,if_neg ω,if_pos hs,l]
  rw[g];exact Kl N p b t w f h1 (byteN t 0) i rfl l (by rw[l]at m;exact m) ω ω h ω d
def tkB(N p:Nat):Tkr Bld:=⟨N,p,100,193,#[.pointer (some ⟨p,0,none⟩)],takeB,fun b w=>dh N p b w,FitB⟩
theorem Ko(N p:Nat):(tkB N p).Ok:=by
 refine⟨by show 100<=_;omega,?_,?_,?_,?_⟩
 ·intro args w;show(callFunc 193 args).run prog w=_;simp[go_sem,tkB]
 ·rintro q st w w' r d⟨AN,u,AR,v,AW,x,i⟩l
  refine⟨_,_,_,_,_,_,i.stay fun k m n=>l.block k m fun e=>?_⟩
  have y:k=q:=by simpa using e
  have s:q<N:=r;have f:q≠p:=d
  omega
 ·intro a o ph st t o' aa c b _
  exact Ij c b
 intro a o ph st t o' aa w c b j h g;exact Kf N p a o o' ph aa st t w h c b j g
def mJ(p:Int->Bool)(L:List Int):Bool:=L.any p
theorem vF(p:Int->Bool)(L:List Int):decide (0<=findFrom (fun j=>p (L.getD j 0)) L.length 0)=mJ p L:=by
 unfold mJ
 rcases findFrom_cases (fun j=>p (L.getD j 0)) L.length 0 with⟨a,c⟩|⟨m,a,_,g,d,_⟩
 ·rw[a,decide_eq_false ω]
  symm
  rw[List.any_eq_false];intro x f;obtain⟨i,e,rfl⟩:=List.getElem_of_mem f;have:=c i zU ω
  simp only[List.getD,zX e,Option.getD_some]at this
  simp[this]
 rw[a,decide_eq_true ω]
 symm
 rw[List.any_eq_true];have b:m<L.length:=ω;refine⟨L[m],List.getElem_mem b,?_⟩
 simpa only[List.getD,zX b,Option.getD_some]using d
theorem sF(F:Nat)(cap:Array Value)(p:Int->Bool)(a:∀(args:Array Value) (w:World),(callFunc F args).run prog w=.ok (.enter F args) w)(A:Option Addr)(c:Nat)(L:List Int)(w:World)(h:L.length<=200)(f:dG w A c L)
  (d:∀(x:Int) (w':World),Bl w w'->Calls prog F (#[.int .i64 x]++cap) w' fun e aa=>e=.returned (.bool (p x))/\Bl w' aa):
  Rt 208 #[.slice A L.length c,.func (.func F) #[] cap] w (.bool (mJ p L)):=by
 have g:=pY F cap p a A c L w ω (mn f) fun x w' _=>d x w'
 rw[←vF];generalize findFrom (fun j=>p (L.getD j 0)) L.length 0=r at *
 clear d f
 go_enter func208,ntmps208
 go_wp2_with fail;refine g.mono ?_;rintro e w1⟨rfl,b⟩;go_wp2_with fail;go_ret;exact⟨rfl,b⟩
def uP(i:Nat)(k:Int):Bool:=decide (k<0)||decide ((i:Int)<=k)
theorem Fo(i q:Nat)(k:Int)(w:World)(h:w.cell? ⟨q,0,none⟩=some (.int .i64 i)):Rt 259 #[.int .i64 k,.pointer (some ⟨q,0,none⟩)] w (.bool (uP i k)):=by
 unfold uP
 by_cases a:k<0
 ·go_enter func259,ntmps259
  go_wp2;go_ret;exact⟨by simp<;>omega,by go_grown⟩
 go_enter func259,ntmps259
 go_wp2;go_ret;exact⟨by simp<;>omega,by go_grown⟩
theorem wM(k:Int)(w:World):Rt 210 #[.int .i64 k] w (.bool (decide (k≠1))):=by
 go_enter func210,ntmps210
 go_wp2;go_ret;exact⟨by by_cases h:k=1 <;>simp[h],by go_grown⟩
theorem DS(t:ByteArray):t.toList=[]↔t.size=0:=by
 have h:=b9 (s:=t);rw[←List.isEmpty_iff,h,decide_eq_true_eq]
section
variable {n op:Int} {nm:ByteArray} {l r:Int} {i:Nat}
theorem PD(a:0<=n)(b:n<=1000000):ndErr ⟨1,n,nm,l,r⟩ i=if nm.toList=[]/\l=0/\r=0 then 0 else 3:=by
 simp only[ndErr,DS];rw[if_neg ω,if_pos trivial,if_neg ω]
 by_cases h:nm.size=0/\l=0/\r=0
 ·rw[if_pos h,if_neg ω]
 rw[if_neg h,if_pos ω]
theorem PE(h:nameErr nm=0):ndErr ⟨2,n,nm,l,r⟩ i=if n=0/\l=0/\r=0 then 0 else 3:=by
 simp only[ndErr];rw[if_neg ω,if_neg ω,if_pos trivial,if_neg (by simpa using h)]
 by_cases h:n=0/\l=0/\r=0
 ·rw[if_pos h,if_neg ω]
 rw[if_neg h,if_pos ω]
theorem PF(b:3<=op)(c:op<=6)(a:mJ (uP i) [l,r]=false):ndErr ⟨op,n,nm,l,r⟩ i=if n=0/\nm.toList=[]then 0 else 3:=by
 simp[mJ,uP]at a
 simp only[ndErr,DS];rw[if_neg ω,if_neg ω,if_neg ω,if_neg ω]
 by_cases h:n=0/\nm.size=0
 ·rw[if_pos h,if_neg ω]
 rw[if_neg h,if_pos ω]
theorem OW(b:3<=op)(c:op<=6)(a:mJ (uP i) [l,r]=true):ndErr ⟨op,n,nm,l,r⟩ i=1:=by
 simp[mJ,uP]at a
 simp only[ndErr];rw[if_neg ω,if_neg ω,if_neg ω,if_pos ω]
end
def fc(w:World)(op n:Int)(nm:ByteArray)(l r:Int)(i:Nat):World:=((w.alloc (.cells #[.int .i64 op,.int .i64 n,.string nm,.int .i64 l,.int .i64 r] 223)).alloc (.cells #[.int .i64 i] 3)).alloc (.cells #[.int .i64 op,.int .i64 0,.string ⟨#[]⟩,.int .i64 0,.int .i64 0] 223)
theorem qK(w:World)(op n:Int)(nm:ByteArray)(l r:Int)(i:Nat):(fc w op n nm l r i).heap.size=w.heap.size+3:=by unfold fc;simp
theorem xG(w:World)(op n:Int)(nm:ByteArray)(l r:Int)(i:Nat):Bl w (fc w op n nm l r i):=by unfold fc;go_grown
theorem xF(w:World)(op n:Int)(nm:ByteArray)(l r:Int)(i:Nat):(fc w op n nm l r i).heap[w.heap.size]?=some (.cells #[.int .i64 op,.int .i64 n,.string nm,.int .i64 l,.int .i64 r] 223 (0,0))/\(fc w op n nm l r i).heap[w.heap.size+1]?=some (.cells #[.int .i64 i] 3 (0,0))/\(fc w op n nm l r i).heap[w.heap.size+1+1]?=some (.cells #[.int .i64 op,.int .i64 0,.string ⟨#[]⟩,.int .i64 0,.int .i64 0] 223 (0,0)):=by
 unfold fc;refine⟨?_,?_,?_⟩
 ·rw[heap_alloc_old _ _ (by simp;omega)];exact Kr w _ _
 ·rw[heap_alloc_old _ _ σ];exact tT w _ _
 have h:=heap_alloc_new ((w.alloc (.cells #[.int .i64 op,.int .i64 n,.string nm,.int .i64 l,.int .i64 r] 223)).alloc (.cells #[.int .i64 i] 3)) (.cells #[.int .i64 op,.int .i64 0,.string ⟨#[]⟩,.int .i64 0,.int .i64 0] 223)
 simpa using h
theorem oy{w w1:World}{op n:Int}{nm:ByteArray}{l r:Int}{i:Nat}(a:Below (fc w op n nm l r i).heap.size (fc w op n nm l r i) w1):
  Bl w w1/\(w1.cell? ⟨w.heap.size,0,none⟩=some (.int .i64 op)/\w1.cell? ⟨w.heap.size,1,none⟩=some (.int .i64 n)/\w1.cell? ⟨w.heap.size,2,none⟩=some (.string nm)/\w1.cell? ⟨w.heap.size,3,none⟩=some (.int .i64 l)/\w1.cell? ⟨w.heap.size,4,none⟩=some (.int .i64 r))/\w1.cell? ⟨w.heap.size+1,0,none⟩=some (.int .i64 i) /\
  (w1.cell? ⟨w.heap.size+1+1,0,none⟩=some (.int .i64 op)/\w1.cell? ⟨w.heap.size+1+1,1,none⟩=some (.int .i64 0)/\w1.cell? ⟨w.heap.size+1+1,2,none⟩=some (.string ⟨#[]⟩)/\w1.cell? ⟨w.heap.size+1+1,3,none⟩=some (.int .i64 0)/\w1.cell? ⟨w.heap.size+1+1,4,none⟩=some (.int .i64 0))/\∀j,w1.frozen? ⟨w.heap.size+1+1,j,none⟩=false:=by
 obtain⟨a1,a2,a3⟩:=xF w op n nm l r i;have e:=qK w op n nm l r i;have b:=(a.block w.heap.size ω).trans a1
 have c:=(a.block (w.heap.size+1) ω).trans a2
 have d:=(a.block (w.heap.size+1+1) ω).trans a3
 refine⟨ad (xG ..) a,⟨?_,?_,?_,?_,?_⟩,?_,⟨?_,?_,?_,?_,?_⟩,fun j=>?_⟩ <;>simp[World.cell?,World.frozen?,b,c,d]
theorem I8(x:Nd)(i:Nat)(w:World)(d:x.op=1):Rt 207 #[IW x,.int .i64 i] w (errV (ndErr x i)):=by
 obtain⟨op,n,name,aa,a⟩:=x;simp only at d;subst d;rw[ga]
 by_cases e:n<0
 ·have b:ndErr ⟨1,n,name,aa,a⟩ i=1:=by simp[ndErr,e]
  rw[b,ac (by decide)]
  go_enter func207,ntmps207
  go_wp2;go_ret;exact⟨rfl,by go_grown⟩
 by_cases c:1000000<n
 ·have b:ndErr ⟨1,n,name,aa,a⟩ i=1:=by simp[ndErr,c]
  rw[b,ac (by decide)]
  go_enter func207,ntmps207
  go_wp2;go_ret;exact⟨rfl,by go_grown⟩
 rw[PD ω ω]
 go_enter func207,ntmps207
 go_wp2
 all_goals (go_ret;refine⟨?_,by go_grown⟩;first|rfl|(rw[if_pos (by simp_all)];rfl)|(rw[if_neg (by simp_all)];rfl)|(exfalso;simp_all;done))
theorem I9(x:Nd)(i:Nat)(w:World)(g:x.op=2):Rt 207 #[IW x,.int .i64 i] w (errV (ndErr x i)):=by
 obtain⟨op,n,name,ab,b⟩:=x;simp only at g;subst g;rw[ga];have c:=l9 name
 by_cases d:nameErr name=0
 ·rw[PE d]
  rw[d,errV_zero]at c;clear d
  go_enter func207,ntmps207
  go_wp2_with fail;refine(c _).mono ?_;rintro e w1⟨rfl,a⟩;obtain⟨f,⟨o,p,q,s,t⟩,-,⟨v,y,z,A,B⟩,k⟩:=oy (w:=w) (op:=2) (n:=n) (nm:=name) (l:=ab) (r:=b) (i:=i) a;have u:=k 2;have m:=aa f;clear a f k;go_wp2_with fail
  all_goals (go_ret;refine⟨?_,m.o.setCell (by simp;omega) _⟩;first|rfl|(rw[if_pos (by simp_all)];rfl)|(rw[if_neg (by simp_all)];rfl)|(exfalso;simp_all;done))
 have h:nameErr name=2:=jV d;have j:ndErr ⟨2,n,name,ab,b⟩ i=2:=by
  simp only[ndErr];rw[if_neg ω,if_neg ω,if_pos trivial,if_pos ω]
 rw[j,ac (by decide)]
 rw[h,ac (by decide)]at c
 clear d h j
 go_enter func207,ntmps207
 go_wp2_with fail;refine(c _).mono ?_;rintro e w1⟨rfl,a⟩;have f:Bl w w1:=ad γ a
 clear a;go_wp2_with fail;go_ret;exact⟨rfl,f⟩
theorem EH(args:Array Value)(w:World):(callFunc 259 args).run prog w=.ok (.enter 259 args) w:=by simp[go_sem]
theorem zI(args:Array Value)(w:World):(callFunc 210 args).run prog w=.ok (.enter 210 args) w:=by simp[go_sem]
theorem F9(w:World)(op n:Int)(nm:ByteArray)(l r:Int)(i:Nat):Calls prog 208 #[.slice (some ⟨w.heap.size+1+1+1,0,none⟩) 2 2,.func (.func 259) #[] #[.pointer (some ⟨w.heap.size+1,0,none⟩)]] ((fc w op n nm l r i).alloc (.cells #[.int .i64 l,.int .i64 r] 3)) fun e w'=>e=.returned (.bool (mJ (uP i) [l,r]))/\Below ((fc w op n nm l r i).alloc (.cells #[.int .i64 l,.int .i64 r] 3)).heap.size ((fc w op n nm l r i).alloc (.cells #[.int .i64 l,.int .i64 r] 3)) w':=by
 have b:=qK w op n nm l r i;have a:=heap_alloc_new (fc w op n nm l r i) (.cells #[.int .i64 l,.int .i64 r] 3);rw[b]at a;refine sF 259 #[.pointer (some ⟨w.heap.size+1,0,none⟩)] (uP i) EH (some ⟨w.heap.size+1+1+1,0,none⟩) 2 [l,r] _ σ ⟨by simp,Or.inr ⟨_,rfl,by simp[b],?_⟩⟩ ?_
 ·intro j g
  match j,g with
  | 0,_=>simp[World.cell?,a]
  | 1,_=>simp[World.cell?,a]
 intro x w' f;have c:=(xF w op n nm l r i).2.1;have d:w'.heap[w.heap.size+1]?=some (.cells #[.int .i64 i] 3 (0,0)):=by
  rw[f.block _ (by simp[b]),heap_alloc_old _ _ (by rw[b];omega)]
  exact c
 exact Fo i (w.heap.size+1) x w' (by simp[World.cell?,d])
theorem LX(x:Nd)(i:Nat)(w:World)(f:3<=x.op)(g:x.op<=6):Rt 207 #[IW x,.int .i64 i] w (errV (ndErr x i)):=by
 obtain⟨op,n,name,ab,a⟩:=x;simp only at f g;rw[ga];have b:=F9 w op n name ab a i;have m:∀(fn:Fn) (first cap:Array Value) (w:World),(Instr.makeFunc fn first cap).run prog w=.ok (.func fn first cap) w:=fun _ _ _ _=>rfl
 have l:Hid (Below (fc w op n name ab a i).heap.size (fc w op n name ab a i) ((fc w op n name ab a i).alloc (.cells #[.int .i64 ab,.int .i64 a] 3))):=(zS).alloc zT _;have k:op=3\/op=4\/op=5\/op=6:=ω;cases ha:mJ (uP i) [ab,a]
 ·rw[PF f g ha]
  rw[ha]at b;clear ha;unfold fc at b
  rcases k with rfl|rfl|rfl|rfl
  all_goals
   go_enter func207,ntmps207
   go_wp2_with fail;refine b.mono ?_;rintro e w1⟨rfl,c⟩;obtain⟨j,⟨o,p,q,r,s⟩,-,⟨v,y,z,A,B⟩,h⟩:=oy (ad l.o c);have t:=h 3;have u:=h 4;have d:=aa j;clear c j h b;go_wp2_with fail
   go_region
   all_goals go_wp2_with fail
   all_goals (go_ret;refine⟨?_,by first|exact((d.o.setCell (by simp;omega) _).setCell (by simp;omega) _).drew|exact((d.o.drew.setCell (by simp;omega) _).setCell (by simp;omega) _)⟩;first|rfl|(rw[if_pos (by simp_all)];rfl)|(rw[if_neg (by simp_all)];rfl)|(exfalso;simp_all;done))
 rw[OW f g ha,ac (by decide)]
 rw[ha]at b;clear ha;unfold fc at b
 rcases k with rfl|rfl|rfl|rfl
 all_goals
  go_enter func207,ntmps207
  go_wp2_with fail;refine b.mono ?_;rintro e w1⟨rfl,c⟩;have d:Hid (Bl w w1):=ad γ c
  clear c b;go_wp2_with fail;go_ret;exact⟨rfl,d.o⟩
theorem I7(x:Nd)(i:Nat)(w:World)(a:x.op<1\/6<x.op):Rt 207 #[IW x,.int .i64 i] w (errV (ndErr x i)):=by
 have c:ndErr x i=1:=by unfold ndErr;rw[if_pos a]
 rw[c,ac (by decide)]
 obtain⟨op,n,name,aa,b⟩:=x;simp only at a;rw[ga];have d:(op == 1)=false:=by apply Bool.eq_false_iff.2;intro e;rw[beq_iff_eq]at e;omega
 have f:(op == 2)=false:=by apply Bool.eq_false_iff.2;intro e;rw[beq_iff_eq]at e;omega
 have g:(op == 3)=false:=by apply Bool.eq_false_iff.2;intro e;rw[beq_iff_eq]at e;omega
 have h:(op == 4)=false:=by apply Bool.eq_false_iff.2;intro e;rw[beq_iff_eq]at e;omega
 have j:(op == 5)=false:=by apply Bool.eq_false_iff.2;intro e;rw[beq_iff_eq]at e;omega
 have k:(op == 6)=false:=by apply Bool.eq_false_iff.2;intro e;rw[beq_iff_eq]at e;omega
 clear a c
 go_enter func207,ntmps207
 go_wp2_with fail;go_ret;exact⟨rfl,by go_grown⟩
theorem I6(x:Nd)(i:Nat)(w:World):Rt 207 #[IW x,.int .i64 i] w (errV (ndErr x i)):=by
 by_cases b:x.op=1
 ·exact I8 x i w b
 by_cases c:x.op=2
 ·exact I9 x i w c
 by_cases a:3<=x.op/\x.op<=6
 ·exact LX x i w a.1 a.2
 exact I7 x i w ω
end Go.Proofs.YtjfampgnhccodaaGreatDoor
