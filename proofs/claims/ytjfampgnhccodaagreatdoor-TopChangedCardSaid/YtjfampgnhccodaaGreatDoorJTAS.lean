/- A member taken out of -/
import Derived.Test.YtjfampgnhccodaaGreatDoorJTAR
namespace Go.Proofs.YtjfampgnhccodaaGreatDoor
open Tryz ChangeShapes WideShapes ChangeAt RowKit Lib
set_option maxRecDepth 99999
set_option maxHeartbeats 0
def fx(M:Nat->Mem)(i:Nat):Nat->Mem:=fun j=>M (if j<i then j else j+1)
theorem i8(M:Nat->Mem)(n:Nat):∀k,k<=n->(cellsMb M n).take (k*4)=cellsMb M k:=by
 induction n with
 |zero =>
  intro k a;obtain rfl:k=0:=ω;rfl
 |succ n ih =>
  intro k a
  by_cases h:k=n+1
  ·subst h
   exact List.take_of_length_le (by rw[cQ];exact zT)
  rw[cellsMb,List.take_append_of_le_length (by rw[cQ];omega)]
  exact ih k ω
theorem gQ{M M':Nat->Mem}:∀k,(∀i,i<k->M i=M' i)->cellsMb M k=cellsMb M' k
 | 0,_=>rfl
 |k+1,h=>by rw[cellsMb,cellsMb,gQ k fun i a=>h i ω,h k ω]
theorem vV(M:Nat->Mem){i:Nat}:∀m,i<=m->cellsMb (fx M i) m=(cellsMb M (m+1)).take (i*4)++(cellsMb M (m+1)).drop ((i+1)*4):=by
 intro m
 induction m with
 |zero =>
  intro h;obtain rfl:i=0:=ω;rw[List.drop_of_length_le (by rw[cQ];omega)]
  rfl
 |succ m ih =>
  intro h
  by_cases e:i=m+1
  ·subst e
   rw[i8 _ _ _ ω,List.drop_of_length_le (by rw[cQ];omega),List.append_nil]
   refine gQ _ fun j a=>?_
   unfold fx;rw[if_pos a]
  rw[cellsMb,ih ω,i8 _ _ _ ω,i8 _ _ _ ω]
  rw[show cellsMb M (m+1+1)=cellsMb M (m+1)++[.string (M (m+1)).name,.int .i64 (M (m+1)).parent,.int .i64 (M (m+1)).sign,.string (M (m+1)).formula]from rfl,List.drop_append_of_le_length (by rw[cQ];omega),List.append_assoc]
  have:fx M i m=M (m+1):=by unfold fx;rw[if_neg ω]
  rw[this]
theorem yv{P:Program}(k m:Nat)(w:World)(t e ty:TypeId)(z:Value)(n:P.underlying t=some (.slice e))(p:∀w,(zeroValue e).run P w=.ok z w)(f:Array Value)(q:z.cells=f)(l:f.size=k)(i:∀v∈(Builtin.zeroCells f m).toList,v.oneCell'=true)(g o c:Nat)(a:Array Value)(u:TypeId)(j:w.heap[g]?=some (.cells a u (0,0)))(h:o+m*k<=a.size)(r:0<m):
  ∃zs:List Value,zs.length=m*k/\(Builtin.clear_ #[t] ty #[.slice (some ⟨g,o,none⟩) m c]).run P w=.ok (.tuple #[]) (w.setRow g (a.toList.take o++zs++a.toList.drop (o+m*k)).toArray):=by
 have d:(Builtin.zeroCells f m).toList.length=m*k:=by simp[Builtin.zeroCells,l]
 have b:=run_storeCells_at P g o u (Builtin.zeroCells f m).toList 0 a w j (by rw[d];simpa using h) i
 refine⟨(Builtin.zeroCells f m).toList,d,?_⟩;simp only[Nat.add_zero]at b;rw[d]at b;obtain⟨m,rfl⟩:∃k,m=k+1:=⟨m-1,ω⟩
 simp[Builtin.clear_,run_underlying n,p,q,b]
theorem MS:∀v∈(Builtin.zeroCells #[.string ⟨#[]⟩,.int .i64 0,.int .i64 0,.string ⟨#[]⟩] 1).toList,v.oneCell'=true:=by decide+kernel
theorem xv(B g cap i n:Nat)(M:Nat->Mem)(w:World)(hn:n<=12)(hi:i<n)(I:w.ownsRow B 64 4 (.slice (some ⟨g,0,none⟩) n cap) n (cellsMb M n)):
  Calls prog 89 #[.slice (some ⟨g,0,none⟩) n cap,.int .i64 i,.int .i64 ((i:Int)+1)] w fun e w'=>e=.returned (.slice (some ⟨g,0,none⟩) ((n-1:Nat):Nat) cap)/\w'.ownsRow B 64 4 (.slice (some ⟨g,0,none⟩) (n-1) cap) (n-1) (cellsMb (fx M i) (n-1))/\w.grownBy w' (some g):=by
 obtain⟨i0,O,ak,Q,al⟩:=info_parts infoMemH;obtain⟨K,-,ai,N,-⟩:=aG I;have y:=I
 rcases I.2 with⟨J,_⟩|⟨g',R,d,J,-,b,-,-,C,D⟩
 ·cases J
 cases J;unfold maxLen at N;obtain⟨XS,j⟩:∃XS,XS=cellsMb M n:=⟨_,rfl⟩;have z:XS.length=n*4:=by rw[j,cQ]
 have hcut:cellsMb (fx M i) (n-1)=XS.take (i*4)++XS.drop ((i+1)*4):=by
  rw[vV M (n-1) ω,j,show n-1+1=n by omega]
 obtain⟨ab,a⟩:∃ab,ab=XS.drop ((i+1)*4):=⟨_,rfl⟩;have f:ab.length=(n-(i+1))*4:=by rw[a,List.length_drop,z];omega
 have v:d.toList.length=cap*4:=by simpa using C
 obtain⟨C1,k⟩:∃C1,C1=d.toList.take (i*4)++ab++d.toList.drop (i*4+ab.length):=⟨_,rfl⟩;have p:C1.length=cap*4:=by
  rw[k];simp only[List.length_append,List.length_take,List.length_drop,f,v]
  omega
 rw[←j]at D;have G:C1.take ((n-1)*4)=XS.take (i*4)++XS.drop ((i+1)*4):=by
  have V:d.toList.take (i*4)=XS.take (i*4):=by
   rw[←D,List.take_take,show min (i*4) (n*4)=i*4 by omega]
  rw[k,V,←a];exact eb (by simp only[List.length_append,List.length_take,f,z];omega)
 obtain⟨A,hA,F⟩:∃A:Addr,(if cap=i+1 then some (⟨g,0,none⟩:Addr)else some ⟨g,(i+1)*4,none⟩)=some A/\Hid (∀t u,ab[t]?=some u->w.drew.cell? (A.add t)=some u):=by
  by_cases h:cap=i+1
  ·refine⟨⟨g,0,none⟩,by simp[h],fun t u q=>?_⟩
   have U:ab.length=0:=by rw[f];omega
   rw[List.length_eq_zero_iff.1 U]at q
   simp at q
  refine⟨⟨g,(i+1)*4,none⟩,by simp[h],fun t u q=>?_⟩
  rw[a,List.getElem?_drop]at q;rw[aW];have ag:=(List.getElem?_eq_some_iff.1 q).1;have:=y.cellAt ((i+1)*4+t) ω
  rw[←j,q]at this;exact this
 have s1:=aa f;have s2:Hid (∀u∈ab,u.oneCell'=true):=fun u q=>by
  rw[a,j,←mx]at q;exact Dq M _ u (List.mem_of_mem_drop q)
 have s3:Hid (∀t,t<ab.length->(w.drew.cell? ⟨g,0+i*4+t,none⟩).isSome=true/\w.drew.frozen? ⟨g,0+i*4+t,none⟩=false):=by
  intro t ht;rw[f]at ht;refine⟨?_,y.frozenAt _⟩
  show(w.cell? _).isSome=true
  simp[World.cell?,b,C]
  omega
 obtain⟨W1,m⟩:∃W1,W1=w.drew.setRow g C1.toArray:=⟨_,rfl⟩;have T:Hid (W1=w.drew.setCells g (0+i*4) ab):=by
  show _=_
  rw[gi g 64 ab (0+i*4) d w.drew b (by rw[f];omega),m,k,Nat.zero_add]
 have s:W1.heap[g]?=some (.cells C1.toArray 64 (0,0)):=by rw[m];exact setRow_heap w.drew g d _ _ _ b
 obtain⟨zz,H,o⟩:=yv (P:=prog) 4 1 W1 65 64 0 (.agg #[.string ⟨#[]⟩,.int .i64 0,.int .i64 0,.string ⟨#[]⟩]) underlying65 zeroValue64 _ rfl rfl MS g ((n-1)*4) (cap-(n-1)) C1.toArray 64 s (by rw[List.size_toArray,p];omega) ω
 obtain⟨C2,l⟩:∃C2,C2=C1.take ((n-1)*4)++zz++C1.drop ((n-1)*4+1*4):=⟨_,rfl⟩;rw[show C1.toArray.toList=C1 by simp,←l]at o
 have r:Hid ((W1.setRow g C2.toArray).ownsRow B 64 4 (.slice (some ⟨g,0,none⟩) (n-1) cap) (n-1) (cellsMb (fx M i) (n-1))/\w.grownBy (W1.setRow g C2.toArray) (some g)):=by
  rw[m,setRow_setRow];refine⟨⟨by rw[cQ],Or.inr ⟨g,cap,C2.toArray,rfl,K,setRow_heap w.drew g d _ _ _ b,ω,by unfold maxLen;omega,?_,?_⟩⟩,aS (cX (bP w _)) (dK ..)⟩
  ·rw[List.size_toArray,l]
   simp only[List.length_append,List.length_take,List.length_drop,H,p]
   omega
  rw[show C2.toArray.toList=C2 by simp,l,hcut,←G,List.append_assoc]
  exact eb (by rw[List.length_take,p];omega)
 obtain⟨W2,E⟩:=ar (W1.setRow g C2.toArray);rw[E]at r o;have ah:(n:Int)<=12:=ω;have ad:(i:Int)<(n:Int):=ω;have ac:(n:Int)<=(cap:Int):=ω;have aj:((i:Int)+1).toNat=i+1:=ω;have W:(0:Int)<=(i:Int)+1:=ω;have X:(i:Int)+1<=(n:Int):=ω;have Y:(i:Int)+1<=(cap:Int):=ω;have Z:(i:Int)<=(cap:Int):=ω;have ae:i<=cap:=ω;have af:i+1<=cap:=ω;have L:Hid (n-1=i+(n-(i+1))):=by show _=_;omega
 have x:∀c,c=cap-(n-1)->(Builtin.clear_ #[65] 0 #[.slice (some ⟨g,(i+(n-(i+1)))*4,none⟩) (n-(i+(n-(i+1)))) c]).run prog W1=.ok (.tuple #[]) W2:=fun c hc=>by
  rw[show n-(i+(n-(i+1)))=1 by omega,show i+(n-(i+1))=n-1 by omega,hc]
  exact o
 have S:=x (cap-(i+(n-(i+1)))) ω
 clear p k l f m s I y b C D v a z j hcut G H o x E
 go_enter func89,ntmps89
 go_wp2_with fail
 go_region_law (refine step_append_room rfl (.tmp 22) (.tmp 25) 65 rfl 64 i0 4 underlying65 O Q g 0 i cap (by simp[Act.eval,Act.put]) A (n-(i+1)) (cap-(i+1)) ab (by simp[Act.eval,Act.put]) s1.o F.o s2.o ω s3.o ?_;rw[←T.o])
 go_wp2_with fail;go_ret;refine⟨?_,r.o⟩;rw[L.o]
 rfl
def KJ(k:Nat)(i:Int)(x:EnL):Bool:=decide (x.e.pl.getD k 0=i)
def ju(l:List En)(k:Nat)(i:Int):Bool:=l.any fun e=>decide (e.pl.getD k 0=i)
theorem MR(ys:List EnL)(k:Nat)(i:Int):ys.any (KJ k i)=ju (lE ys) k i:=by
 unfold ju lE;rw[List.any_map]
 rfl
def K2(g k:Nat)(A:Option Addr)(n c:Nat):Array Value:=#[.pointer (some ⟨g,k*3,none⟩),.int .i64 (k:Int),.slice A n c]
theorem N8:bo 138:=fun args w=>by simp[callFunc,func138];rfl
theorem NQ:bo 92:=fun args w=>by simp[callFunc,func92];rfl
theorem NP:bo 88:=fun args w=>by simp[callFunc,func88];rfl
theorem NR:bo 94:=fun args w=>by simp[callFunc,func94];rfl
theorem MQ(x:EnL)(z B q k:Nat)(i:Int)(w:World)(j:w.cell? ⟨z,0,none⟩=some (.pointer (some ⟨q,0,none⟩)))(l:w.cell? ⟨B,0,none⟩=some (.int .i64 i))(t:w.cell? ⟨q,1,none⟩=some (.int .i64 (k:Int)))(g:k<x.e.pl.length)(F:x.e.pl.length<=4)(G:de w x.A x.c x.e.pl):
  Rt 138 #[.agg #[.slice x.A x.e.pl.length x.c,.int .i64 x.e.n],.pointer (some ⟨z,0,none⟩),.pointer (some ⟨B,0,none⟩)] w (.bool (KJ k i x)):=by
 obtain⟨s,E|⟨b,o,u,H,d⟩⟩:=G
 ·rw[E]at g;simp at g
 rw[u];obtain⟨y,h⟩:=ar (w.alloc (.cells #[.slice (some ⟨b,o,none⟩) x.e.pl.length x.c,.int .i64 x.e.n] 45));have a:Bl w y:=by rw[←h];go_grown
 have f:y.heap[w.heap.size]?=some (.cells #[.slice (some ⟨b,o,none⟩) x.e.pl.length x.c,.int .i64 x.e.n] 45 (0,0)):=by rw[←h];exact heap_alloc_new ..
 have I:y.cell? ⟨w.heap.size,0,none⟩=some (.slice (some ⟨b,o,none⟩) x.e.pl.length x.c):=(Lib.cell_of_heap f 0).trans rfl;have J:=aM a (World.block_lt_of_cell? _ _ j) j;have K:=aM a (World.block_lt_of_cell? _ _ l) l;have L:=aM a (World.block_lt_of_cell? _ _ t) t;have D:=aM a H (d k g);have p:(k:Int)<(x.e.pl.length:Int):=ω;have r:(x.e.pl.length:Int)<=4:=ω;have C:=aa a;unfold KJ;generalize x.e.pl.getD k 0=v at D|-;generalize x.e.pl.length=m at h I p r|-;generalize x.e.n=N at h|-;clear f a j l t d s u g F
 go_enter func138,ntmps138
 go_upto_region 1 with fail
 go_quiet (fail)
 go_wp2_with fail;go_ret;exact⟨rfl,aj C.o _⟩
theorem Mo(x:EnL)(z B q k:Nat)(i:Int)(w:World)(j:w.cell? ⟨z,0,none⟩=some (.pointer (some ⟨q,0,none⟩)))(l:w.cell? ⟨B,0,none⟩=some (.int .i64 i))(t:w.cell? ⟨q,1,none⟩=some (.int .i64 (k:Int)))(g:k<x.e.pl.length)(F:x.e.pl.length<=4)(G:de w x.A x.c x.e.pl):
  Rt 92 #[.agg #[.slice x.A x.e.pl.length x.c,.int .i64 x.e.n],.pointer (some ⟨z,0,none⟩),.pointer (some ⟨B,0,none⟩)] w (.bool (KJ k i x)):=by
 obtain⟨s,E|⟨b,o,u,H,d⟩⟩:=G
 ·rw[E]at g;simp at g
 rw[u];obtain⟨y,h⟩:=ar (w.alloc (.cells #[.slice (some ⟨b,o,none⟩) x.e.pl.length x.c,.int .i64 x.e.n] 45));have a:Bl w y:=by rw[←h];go_grown
 have f:y.heap[w.heap.size]?=some (.cells #[.slice (some ⟨b,o,none⟩) x.e.pl.length x.c,.int .i64 x.e.n] 45 (0,0)):=by rw[←h];exact heap_alloc_new ..
 have I:y.cell? ⟨w.heap.size,0,none⟩=some (.slice (some ⟨b,o,none⟩) x.e.pl.length x.c):=(Lib.cell_of_heap f 0).trans rfl;have J:=aM a (World.block_lt_of_cell? _ _ j) j;have K:=aM a (World.block_lt_of_cell? _ _ l) l;have L:=aM a (World.block_lt_of_cell? _ _ t) t;have D:=aM a H (d k g);have p:(k:Int)<(x.e.pl.length:Int):=ω;have r:(x.e.pl.length:Int)<=4:=ω;have C:=aa a;unfold KJ;generalize x.e.pl.getD k 0=v at D|-;generalize x.e.pl.length=m at h I p r|-;generalize x.e.n=N at h|-;clear f a j l t d s u g F
 go_enter func92,ntmps92
 go_upto_region 1 with fail
 go_quiet (fail)
 go_wp2_with fail;go_ret;exact⟨rfl,aj C.o _⟩
theorem Mn(m:Mem)(q:Nat)(i:Int)(w:World)(a:q<w.heap.size)(h:w.cell? ⟨q,0,none⟩=some (.int .i64 i)):Rt 88 #[jh m,.pointer (some ⟨q,0,none⟩)] w (.bool (decide (m.parent=i))):=by
 unfold jh
 go_enter func88,ntmps88
 go_wp2_with fail;go_ret;exact⟨by first|rfl|(simp;rfl),by go_grown⟩
theorem Mp(m:Mem)(q:Nat)(s:ByteArray)(w:World)(a:q<w.heap.size)(h:w.cell? ⟨q,0,none⟩=some (.string s)):Rt 94 #[jh m,.pointer (some ⟨q,0,none⟩)] w (.bool (same m.name s)):=by
 unfold jh
 go_enter func94,ntmps94
 go_wp2_with fail;go_ret;exact⟨by simp[same],by go_grown⟩
def wo(i x:Int):Int:=if i<x then x-1 else x
theorem KE(i x:Int)(w:World)(b : -9223372036854775807<=x)(c:x<=9223372036854775807):Calls prog 90 #[.int .i64 i,.int .i64 x] w fun e w'=>e=.returned (.int .i64 (wo i x))/\w'=w:=by
 have d:IntKind.i64.wrap (x-1)=x-1:=IntWalk.i64_in _ ω
 unfold wo
 by_cases h:i<x
 ·rw[if_pos h]
  go_enter func90,ntmps90
  go_wp2_with fail;go_ret;exact⟨rfl,rfl⟩
 rw[if_neg h];have a:x<=i:=ω;go_enter func90,ntmps90
 go_wp2_with fail;go_ret;exact⟨rfl,rfl⟩
def bN(D:Nat->Dm)(k:Nat)(d:Dm):Nat->Dm:=fun i=>if i=k then d else D i
theorem putD_at(D:Nat->Dm)(k:Nat)(d:Dm):bN D k d k=d:=if_pos rfl
theorem b6(D:Nat->Dm){k i:Nat}(d:Dm)(h:i≠k):bN D k d i=D i:=if_neg h
structure DrA(w:World)(B q g cd n k ge ce:Nat)(D:Nat->Dm)(G C:Nat->Nat)(ys:List EnL):Prop where
 box:w.heap[q]?=some (.cells (K2 g k (some ⟨ge,0,none⟩) ys.length ce) 76 (0,0))
 low:B<=q
 own:OwD w B g cd n D G C
 ents:OwE w B ge ce ys
 kn:k<n
 n4:n<=4
 few:ys.length<=3000
 len:∀y∈ys,y.e.pl.length=n
section
variable {w w':World} {B q g cd n k ge ce:Nat} {D:Nat->Dm} {G C:Nat->Nat} {ys:List EnL}
theorem OwE.later{w w':World}{B g cap:Nat}{ys:List EnL}(h:OwE w B g cap ys)(a:Bl w w'):OwE w' B g cap ys :=
 ⟨h.row.later a,h.low,fun y b=>(h.each y b).later a,h.apart⟩
theorem OwE.keep{w w':World}{B g cap:Nat}{ys:List EnL}(h:OwE w B g cap ys)(j:∀b cs e,B<=b->w.heap[b]?=some (.cells cs e (0,0))->e=45\/e=3->w'.heap[b]?=w.heap[b]?):OwE w' B g cap ys:=by
 have a:∀y∈ys,rT w' B y.A y.c y.e.pl:=fun y q=>by
  obtain⟨b,d,i⟩:=h.each y q;exact⟨b,d,px i fun b cs n o=>j b cs _ n o (Or.inr rfl)⟩
 obtain⟨⟨f,d,i,k⟩,l,m,r⟩:=h.row;exact⟨⟨⟨f,(j _ _ _ h.low d (Or.inl rfl)).trans d,i,k⟩,l,m,fun x p=>(a x p).ty⟩,h.low,a,h.apart⟩
theorem DrA.later(h:DrA w B q g cd n k ge ce D G C ys)(a:Bl w w'):DrA w' B q g cd n k ge ce D G C ys :=
 ⟨(a.block _ (zY h.box).1).trans h.box,h.low,h.own.later a,h.ents.later a,h.kn,h.n4,h.few,h.len⟩
theorem DrA.lt(h:DrA w B q g cd n k ge ce D G C ys):q<w.heap.size:=(zY h.box).1
theorem DrA.cells(h:DrA w B q g cd n k ge ce D G C ys):w.cell? ⟨q,0,none⟩=some (.pointer (some ⟨g,k*3,none⟩))/\w.cell? ⟨q,1,none⟩=some (.int .i64 (k:Int))/\w.cell? ⟨q,2,none⟩=some (.slice (some ⟨ge,0,none⟩) ys.length ce)/\∀j,w.frozen? ⟨q,j,none⟩=false :=
 ⟨(Lib.cell_of_heap h.box 0).trans rfl,(Lib.cell_of_heap h.box 1).trans rfl,(Lib.cell_of_heap h.box 2).trans rfl,fun j=>Lib.frozen_of_heap h.box j⟩
theorem DrA.dim(h:DrA w B q g cd n k ge ce D G C ys):w.cell? ⟨g,k*3,none⟩=some (.string (D k).name)/\w.cell? ⟨g,k*3+1,none⟩=some (.int .i64 (D k).solve)/\w.cell? ⟨g,k*3+2,none⟩=some (.slice (some ⟨G k,0,none⟩) (D k).n (C k))/\∀j,w.frozen? ⟨g,j,none⟩=false:=by
 have a:=h.kn;obtain⟨b,c,d⟩:=du D (fun i=>some ⟨G i,0,none⟩) C n k a
 exact⟨by rw[h.own.dims.cellAt _ ω];exact b,by rw[h.own.dims.cellAt _ ω];exact c,by rw[h.own.dims.cellAt _ ω];exact d,fun j=>h.own.dims.frozenAt j⟩
theorem DrA.row(h:DrA w B q g cd n k ge ce D G C ys):w.ownsRow B 64 4 (.slice (some ⟨G k,0,none⟩) (D k).n (C k)) (D k).n (cellsMb (D k).mem (D k).n):=h.own.mems k h.kn
theorem DrA.mems(h:DrA w B q g cd n k ge ce D G C ys):cI w (G k) 0 (D k).n (D k).mem:=Mb h.row
end
theorem oP(B q g cd n k ge ce:Nat)(D:Nat->Dm)(G C:Nat->Nat)(ys:List EnL)(i:Int)(w:World)(h:DrA w B q g cd n k ge ce D G C ys):
  Rt 86 #[.pointer (some ⟨q,0,none⟩),.int .i64 i] w (.bool (ju (lE ys) k i)):=by
 rw[←MR];obtain⟨W,j⟩:=ar ((w.alloc (.cells #[.pointer (some ⟨q,0,none⟩)] 116)).alloc (.cells #[.int .i64 i] 3));have c:Bl w W:=by rw[←j];go_grown
 have p:W.heap[w.heap.size]?=some (.cells #[.pointer (some ⟨q,0,none⟩)] 116 (0,0)):=by rw[←j,Below.heap_alloc _ _ _ σ];exact heap_alloc_new ..
 have s:W.heap[w.heap.size+1]?=some (.cells #[.int .i64 i] 3 (0,0)):=by
  have:=heap_alloc_new (w.alloc (.cells #[.pointer (some ⟨q,0,none⟩)] 116)) (.cells #[.int .i64 i] 3);rw[show(w.alloc (.cells #[.pointer (some ⟨q,0,none⟩)] 116)).heap.size=w.heap.size+1 by simp]at this
  rw[←j];exact this
 have d:=h.later c;have v:W.cell? ⟨w.heap.size,0,none⟩=some (.pointer (some ⟨q,0,none⟩)):=(Lib.cell_of_heap p 0).trans rfl;have y:W.cell? ⟨w.heap.size+1,0,none⟩=some (.int .i64 i):=(Lib.cell_of_heap s 0).trans rfl;obtain⟨c0,c1,c2,-⟩:=d.cells;have a:=si 138 w.heap.size (w.heap.size+1) N8 (some ⟨ge,0,none⟩) ce ys (KJ k i) none W h.few d.ents.row.ensV fun x w' o f=>MQ x _ _ q k i w'
  (f.cell v σ) (f.cell y σ) (f.cell c1 σ) (by rw[h.len x o];exact h.kn) (by rw[h.len x o];exact h.n4) (by
   obtain⟨b,u,o1⟩:=d.ents.each x o;exact(rT.ty ⟨b,u,o1.kept f (Or.inr (by simp[Value.ownBlock]))⟩).pl)
 have t:=aa c;generalize ys.any (KJ k i)=r at a|-;generalize ys.length=m at a c2;clear p s h d c
 go_enter func86,ntmps86
 go_wp2_with fail;refine a.mono ?_;rintro e w1⟨rfl,l⟩;go_wp2_with fail;go_ret;exact⟨rfl,ad t.o l⟩
theorem vE(b d:Nat)(f:bo b)(B q g cd n k ge ce:Nat)(D:Nat->Dm)(G C:Nat->Nat)(ys:List EnL)(p:Mem->Bool)(w:World)(o:(D k).n<=12)(h:DrA w B q g cd n k ge ce D G C ys)(i:M2 b d w (D k).n (D k).mem fun j=>p ((D k).mem j)):
  Rt 87 #[.pointer (some ⟨q,0,none⟩),.func (.func b) #[] #[.pointer (some ⟨d,0,none⟩)]] w (.bool (decide (0<=findFrom (fun j=>p ((D k).mem j)) (D k).n 0))):=by
 obtain⟨c0,c1,c2,-⟩:=h.cells;obtain⟨-,-,l,-⟩:=h.dim;have a:=ii b d f (G k) 0 (D k).n (C k) (D k).mem _ w o h.mems i;generalize decide (0<=findFrom (fun j=>p ((D k).mem j)) (D k).n 0)=r at a|-
 generalize (D k).n=m at a l;clear h i f
 go_enter func87,ntmps87
 go_wp2_with fail;refine a.mono ?_;rintro e w1⟨rfl,c⟩;go_wp2_with fail;go_ret;exact⟨rfl,c⟩
theorem jI{D D':Nat->Dm}{A A':Nat->Option Addr}{C C':Nat->Nat}:∀k,(∀i,i<k->(D i).name=(D' i).name/\(D i).solve=(D' i).solve/\(D i).n=(D' i).n/\A i=A' i/\C i=C' i)->cellsDo D A C k=cellsDo D' A' C' k
 | 0,_=>rfl
 |k+1,h=>by
  obtain⟨a,b,c,d,e⟩:=h k ω
  rw[cellsDo,cellsDo,jI k fun i f=>h i ω,a,b,c,d,e]
theorem aV{w:World}{a b e g:Nat}{c i:Array Value}{f f':Nat×Nat}(h:w.heap[a]?=some (.cells c e f))(j:w.heap[b]?=some (.cells i g f'))(d:e≠g):a≠b:=fun x=>by
 rw[x,j]at h;simp only[Option.some.injEq,Obj.cells.injEq]at h;exact d h.2.1.symm
def gy(w w':World):Prop := ∀(b:Nat) (c:Array Value) (f:Nat×Nat),w.heap[b]?=some (Obj.cells c 24 f)->w'.heap[b]?=some (Obj.cells c 24 f)
theorem gy.trans{w w1 w2:World}(h:gy w w1)(a:gy w1 w2):gy w w2:=fun b c f d=>a b c f (h b c f d)
theorem gy.set{w:World}{g x e:Nat}{c:Array Value}{f:Nat×Nat}{v:Value}(h:w.heap[g]?=some (.cells c e f))(d:e≠24):gy w (w.setCell ⟨g,x,none⟩ v):=fun _ _ _ a=>(ae _ _ _ _ _ (aV a h fun b=>d b.symm)).trans a
theorem gy.grown{w w':World}{g e:Nat}{c:Array Value}{f:Nat×Nat}(h:w.grownBy w' (some g))(k:w.heap[g]?=some (.cells c e f))(j:e≠24):gy w w':=fun b _ _ a=>(h.block b (zY a).1 fun i=>aV a k (fun d=>j d.symm) (Option.some.inj i)).trans a
def Lw(B:Nat)(w w':World):Prop:=(∀w0,Below B w0 w->Below B w0 w')/\gy w w'
theorem Lw.trans{B:Nat}{w w1 w2:World}(h:Lw B w w1)(a:Lw B w1 w2):Lw B w w2:=⟨fun w0 b=>a.1 w0 (h.1 w0 b),h.2.trans a.2⟩
theorem Lw.of{B:Nat}{w w':World}(e:B<=w.heap.size)(a:Bl w w'):Lw B w w':=⟨fun _ d=>d.trans (a.mono e),fun b _ _ c=>(a.block b (zY c).1).trans c⟩
section
variable {w w1:World} {B q g cd n k ge ce:Nat} {D:Nat->Dm} {G C:Nat->Nat} {ys:List EnL}
theorem DrA.setM(h:DrA w B q g cd n k ge ce D G C ys){x:Nat}{v:Value}{M':Nat->Mem}(y:(cellsMb (D k).mem (D k).n).set x v=cellsMb M' (D k).n):
  DrA (w.setCell ⟨G k,x,none⟩ v) B q g cd n k ge ce (bN D k ⟨(D k).name,(D k).solve,(D k).n,M'⟩) G C ys/\Lw B w (w.setCell ⟨G k,x,none⟩ v):=by
 have r:=h.kn;obtain⟨b1,b2,-,-,cm,o⟩:=aG h.row;obtain⟨-,-,-,-,s,A⟩:=aG h.own.dims;have a:∀(b:Nat) (c:Array Value) (e:Nat) (f:Nat×Nat),w.heap[b]?=some (Obj.cells c e f)->e≠64->(w.setCell ⟨G k,x,none⟩ v).heap[b]?=w.heap[b]?:=fun b c e f l m=>ae _ _ _ _ _ (aV l o m)
 refine⟨⟨(a _ _ _ _ h.box (by decide)).trans h.box,h.low,⟨?_,fun i p=>?_,h.own.apart⟩,h.ents.keep fun b cs e _ z m=>a _ _ _ _ z (by rcases m with rfl|rfl<;>decide),r,h.n4,h.few,h.len⟩,fun w0 l=>l.setCell b1 _,gy.set o (by decide)⟩
 ·have d:=jW (j:=x) (u:=v) h.own.dims (eC h.own.dims o (by decide))
  rwa [jI (D':=bN D k ⟨(D k).name,(D k).solve,(D k).n,M'⟩) (A':=fun i=>some ⟨G i,0,none⟩) (C':=C) n fun i _=>by
   by_cases e:i=k
   ·subst e;rw[putD_at];exact⟨rfl,rfl,rfl,rfl,rfl⟩
   rw[b6 D _ e];exact⟨rfl,rfl,rfl,rfl,rfl⟩]at d
 by_cases e:i=k
 ·subst e
  rw[putD_at];have d:=(h.row.stored x v).1
  rwa [y]at d
 rw[b6 D _ e];exact jW (h.own.mems i p) fun t=>h.own.apart i k p r e (Option.some.inj t)
theorem DrA.newM(h:DrA w B q g cd n k ge ce D G C ys){gm cm m':Nat}{M':Nat->Mem}(P:B<=w.heap.size)(u:w.grownBy w1 (some (G k)))(m:w1.ownsRow B 64 4 (.slice (some ⟨gm,0,none⟩) m' cm) m' (cellsMb M' m'))(y:gm=G k\/w.heap.size<=gm):
  DrA (w1.setCell ⟨g,k*3+2,none⟩ (.slice (some ⟨gm,0,none⟩) m' cm)) B q g cd n k ge ce (bN D k ⟨(D k).name,(D k).solve,m',M'⟩) (fun i=>if i=k then gm else G i) (fun i=>if i=k then cm else C i) ys/\Lw B w (w1.setCell ⟨g,k*3+2,none⟩ (.slice (some ⟨gm,0,none⟩) m' cm)):=by
 have E:=h.kn;obtain⟨ab,ad,-,-,O,A⟩:=aG h.row;obtain⟨aa,ac,-,-,M,K⟩:=aG h.own.dims;obtain⟨af,ag,-,-,N,Q⟩:=aG m;have a:∀(b:Nat) (c:Array Value) (e:Nat) (f:Nat×Nat),w.heap[b]?=some (Obj.cells c e f)->e≠64->w1.heap[b]?=w.heap[b]?:=fun b c e f p s=>u.block b (zY p).1 fun d=>aV p A s (Option.some.inj d)
 have o:=(a _ _ _ _ K (by decide)).trans K
 have l:∀(b:Nat) (c:Array Value) (e:Nat) (f:Nat×Nat),w.heap[b]?=some (Obj.cells c e f)->e≠64->e≠67->(w1.setCell ⟨g,k*3+2,none⟩ (.slice (some ⟨gm,0,none⟩) m' cm)).heap[b]?=w.heap[b]?:=fun b c e f p s H=>(ae _ _ _ _ _ (aV ((a _ _ _ _ p s).trans p) o H)).trans (a _ _ _ _ p s)
 refine⟨⟨(l _ _ _ _ h.box (by decide) (by decide)).trans h.box,h.low,⟨?_,fun i r=>?_,fun i j r v J=>?_⟩,h.ents.keep fun b cs e _ u s=>l _ _ _ _ u (by rcases s with rfl|rfl<;>decide) (by rcases s with rfl|rfl<;>decide),E,h.n4,h.few,h.len⟩,fun w0 p=>(p.grown u P fun j v=>by cases v;exact ab).setCell aa _,(gy.grown u A (by decide)).trans (gy.set o (by decide))⟩
 ·have t:=(px h.own.dims fun b cs _ I=>a _ _ _ _ I (by decide))
  have x:=(t.stored (k*3+2) (.slice (some ⟨gm,0,none⟩) m' cm)).1
  rwa [show(cellsDo D (fun i=>some ⟨G i,0,none⟩) C n).set (k*3+2) (.slice (some ⟨gm,0,none⟩) m' cm)=cellsDo (bN D k ⟨(D k).name,(D k).solve,m',M'⟩) (fun i=>some ⟨if i=k then gm else G i,0,none⟩) (fun i=>if i=k then cm else C i) n from by
   refine List.ext_getElem? fun j=>?_
   rw[List.getElem?_set]
   by_cases v:j<n*3
   ·obtain⟨R,S,T⟩:=du D (fun i=>some ⟨G i,0,none⟩) C n (j / 3) ω
    obtain⟨U,V,W⟩:=du (bN D k ⟨(D k).name,(D k).solve,m',M'⟩) (fun i=>some ⟨if i=k then gm else G i,0,none⟩) (fun i=>if i=k then cm else C i) n (j / 3) ω
    have L:(bN D k ⟨(D k).name,(D k).solve,m',M'⟩ (j / 3)).name=(D (j / 3)).name/\(bN D k ⟨(D k).name,(D k).solve,m',M'⟩ (j / 3)).solve=(D (j / 3)).solve:=by
     by_cases e:j / 3=k
     ·rw[e,putD_at];exact⟨rfl,rfl⟩
     rw[b6 D _ e];exact⟨rfl,rfl⟩
    rcases(by omega:j % 3=0\/j % 3=1\/j % 3=2)with e|e|e
    ·rw[if_neg ω,show j=j / 3*3 by omega,R,U,L.1]
    ·rw[if_neg ω,show j=j / 3*3+1 by omega,S,V,L.2]
    rw[show j=j / 3*3+2 by omega,T,W]
    by_cases d:j / 3=k
    ·rw[if_pos ω,if_pos (by rw[cellsDo_len];omega),if_pos d,if_pos d,d,putD_at]
    rw[if_neg ω,if_neg d,if_neg d,b6 D _ d]
   rw[if_neg ω,List.getElem?_eq_none (by rw[cellsDo_len];omega),List.getElem?_eq_none (by rw[cellsDo_len];omega)]]at x
 ·by_cases e:i=k
  ·subst e
   rw[if_pos rfl,if_pos rfl,putD_at];exact jW m (eC m o (by decide))
  rw[if_neg e,if_neg e,b6 D _ e];have t:w1.ownsRow B 64 4 (.slice (some ⟨G i,0,none⟩) (D i).n (C i)) (D i).n (cellsMb (D i).mem (D i).n):=(h.own.mems i r).kept u (Or.inr fun d=>h.own.apart i k r E e (Option.some.inj d))
  exact jW t (eC t o (by decide))
 have z:∀i,i<n->G i<w.heap.size:=fun i r=>(aG (h.own.mems i r)).2.1
 by_cases F:i=k
 ·rw[if_pos F,if_neg ω]
  have t:=z j v;have x:=h.own.apart k j E v ω
  rcases y with e|e
  ·rw[e];exact x
  omega
 rw[if_neg F]
 by_cases d:j=k
 ·rw[if_pos d]
  have t:=z i r;have x:=h.own.apart i k r E F
  rcases y with e|e
  ·rw[e];exact x
  omega
 rw[if_neg d];exact h.own.apart i j r v J
theorem DrA.newE(h:DrA w B q g cd n k ge ce D G C ys){a:List EnL}(z:B<=w.heap.size)(s:w.grownBy w1 (some ge))(r:OwE w1 B ge ce a)(A:a.length<=3000)(F:∀y∈a,y.e.pl.length=n):
  DrA (w1.setCell ⟨q,2,none⟩ (.slice (some ⟨ge,0,none⟩) a.length ce)) B q g cd n k ge ce D G C a/\Lw B w (w1.setCell ⟨q,2,none⟩ (.slice (some ⟨ge,0,none⟩) a.length ce)):=by
 obtain⟨⟨v,u,-⟩,-⟩:=h.ents.row;have m:∀(b:Nat) (c:Array Value) (e:Nat) (f:Nat×Nat),w.heap[b]?=some (Obj.cells c e f)->e≠45->w1.heap[b]?=w.heap[b]?:=fun b c e f p r=>s.block b (zY p).1 fun x=>aV p u r (Option.some.inj x)
 have o:=(m _ _ _ _ h.box (by decide)).trans h.box
 have d:∀(b:Nat) (c:Array Value) (e:Nat) (f:Nat×Nat),w1.heap[b]?=some (Obj.cells c e f)->e≠76->(w1.setCell ⟨q,2,none⟩ (.slice (some ⟨ge,0,none⟩) a.length ce)).heap[b]?=w1.heap[b]?:=fun b c e f p r=>ae _ _ _ _ _ (aV p o r)
 refine⟨⟨?_,h.low,h.own.keep fun b cs e _ l i=>?_,r.keep fun b cs e _ l i=>d _ _ _ _ l (by rcases i with rfl|rfl<;>decide),h.kn,h.n4,A,F⟩,fun w0 p=>(p.grown s z fun j E=>by cases E;exact h.ents.low).setCell h.low _,(gy.grown s u (by decide)).trans (gy.set o (by decide))⟩
 ·rw[mz o]
  rfl
 have t:=m _ _ _ _ l (by rcases i with rfl|rfl<;>decide)
 exact(d _ _ _ _ (t.trans l) (by rcases i with rfl|rfl<;>decide)).trans t
def j6(ys:List EnL)(j k:Nat)(v:Int):List EnL:=ys.set j ⟨⟨(ys.getD j noL).e.pl.set k v,(ys.getD j noL).e.n⟩,(ys.getD j noL).A,(ys.getD j noL).c⟩
theorem vS{xs:List EnL}{x:EnL}:∀ {j:Nat},j<xs.length->x.A=(xs.getD j noL).A->x.c=(xs.getD j noL).c->x.e.pl.length=(xs.getD j noL).e.pl.length->x.e.n=(xs.getD j noL).e.n->cellsE (xs.set j x)=cellsE xs:=by
 induction xs with
 |nil=>intro j h;cases h
 |cons y r ih =>
  intro j g a b d f;cases j with
  |zero=>simp only[List.set_cons_zero,cellsE,List.getD_cons_zero]at a b d f|-;rw[a,b,d,f]
  |succ j =>
   simp only[List.set_cons_succ,cellsE,List.getD_cons_succ]at a b d f|-;rw[ih (by simpa using g) a b d f]
theorem Fz{ys:List EnL}{j:Nat}{x:EnL}(h:ys.Pairwise fun a b=>a.A≠b.A)(g:x.A=(ys.getD j noL).A)(c:j<ys.length):(ys.set j x).Pairwise fun a b=>a.A≠b.A:=by
 have d:((ys.map EnL.A).Pairwise fun a b=>a≠b):=List.pairwise_map.2 h
 have f:(ys.set j x).map EnL.A=ys.map EnL.A:=by
  rw[List.map_set];refine List.ext_getElem? fun i=>?_
  rw[List.getElem?_set]
  split
  ·rename_i e
   subst e;rw[if_pos (by simpa using c),g,zZ,zX c]
   simp[c]
  rfl
 rw[←f]at d;exact List.pairwise_map.1 d
theorem DrA.setE(h:DrA w B q g cd n k ge ce D G C ys){j gp:Nat}{v:Int}(m:j<ys.length)(r:(ys.getD j noL).A=some ⟨gp,0,none⟩):
  DrA (w.setCell ⟨gp,k,none⟩ (.int .i64 v)) B q g cd n k ge ce D G C (j6 ys j k v)/\Lw B w (w.setCell ⟨gp,k,none⟩ (.int .i64 v)):=by
 obtain⟨g1,J,o1⟩:=h.ents.each _ (cJ m);obtain⟨bp,-,-,-,S,L⟩:=aG o1;rw[r]at J;obtain rfl:gp=g1:=by cases J;rfl
 have d:∀(b:Nat) (c:Array Value) (e:Nat) (f:Nat×Nat),w.heap[b]?=some (Obj.cells c e f)->e≠3->(w.setCell ⟨gp,k,none⟩ (.int .i64 v)).heap[b]?=w.heap[b]?:=fun b c e f s Q=>ae _ _ _ _ _ (aV s L Q)
 have a:(j6 ys j k v).length=ys.length:=by unfold j6;simp
 have H:∀i,i<ys.length->(ys.getD i noL).A=some ⟨gp,0,none⟩->i=j:=fun i l e=>by
  have u:=List.pairwise_iff_getElem.1 h.ents.apart
  rcases Nat.lt_trichotomy i j with o|o|o
  ·have:=u i j l m o
   simp only[zZ,zX l,zX m,Option.getD_some]at e r;exact absurd (e.trans r.symm) this
  ·exact o
  have:=u j i m l o;simp only[zZ,zX l,zX m,Option.getD_some]at e r;exact absurd (r.trans e.symm) this
 have R:rT (w.setCell ⟨gp,k,none⟩ (.int .i64 v)) B (ys.getD j noL).A (ys.getD j noL).c ((ys.getD j noL).e.pl.set k v):=by
  refine⟨gp,r,?_⟩;have o:=(o1.stored k (.int .i64 v)).1;rw[List.length_set]
  rwa [show(aA (ys.getD j noL).e.pl).set k (.int .i64 v)=aA ((ys.getD j noL).e.pl.set k v) by simp[aA,List.map_set]]at o
 have t:∀y∈j6 ys j k v,rT (w.setCell ⟨gp,k,none⟩ (.int .i64 v)) B y.A y.c y.e.pl:=fun y p=>by
  obtain⟨i,l,rfl⟩:=List.getElem_of_mem p;have I:(j6 ys j k v)[i]=if j=i then⟨⟨(ys.getD j noL).e.pl.set k v,(ys.getD j noL).e.n⟩,(ys.getD j noL).A,(ys.getD j noL).c⟩else ys[i]'(by rw[←a];exact l):=List.getElem_set ..
  rw[I];rw[a]at l
  split
  ·exact R
  rename_i hne
  refine(h.ents.each _ (List.getElem_mem l)).off fun b s e=>hne ?_
  rw[e]at s;exact(H i l (by rw[zZ,zX l];exact s)).symm
 refine⟨⟨?_,h.low,h.own.keep fun b cs e _ F E=>d _ _ _ _ F (by rcases E with rfl|rfl<;>decide),⟨?_,h.ents.low,t,?_⟩,h.kn,h.n4,by rw[a];exact h.few,fun y p=>?_⟩,fun w0 s=>s.setCell bp _,gy.set L (by decide)⟩
 ·rw[a]
  exact(d _ _ _ _ h.box (by decide)).trans h.box
 ·obtain⟨⟨z,K,M,N⟩,O,P,T⟩:=h.ents.row
  refine⟨⟨z,(d _ _ _ _ K (by decide)).trans K,M,?_⟩,by rw[a];exact O,P,fun y p=>(t y p).ty⟩
  rw[a,N];exact(vS (x:=⟨⟨(ys.getD j noL).e.pl.set k v,(ys.getD j noL).e.n⟩,(ys.getD j noL).A,(ys.getD j noL).c⟩) m rfl rfl σ rfl).symm
 ·exact Fz h.ents.apart rfl m
 rcases List.mem_or_eq_of_mem_set p with p|rfl
 ·exact h.len y p
 rw[List.length_set];exact h.len _ (cJ m)
end
end Go.Proofs.YtjfampgnhccodaaGreatDoor
