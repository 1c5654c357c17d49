/- What Value of package -/
import Derived.Test.YtjfampgnhccodaaGreatDoorShelfH
import Derived.Test.YtjfampgnhccodaaGreatDoorJTAV
import Derived.Test.YtjfampgnhccodaaGreatDoorJTAZ
namespace Go.Proofs.YtjfampgnhccodaaGreatDoor
open Tryz ChangeShapes WideShapes ChangeAt RowKit
set_option maxRecDepth 99999
set_option maxHeartbeats 0
theorem zL(args:Array Value)(w:World):(callFunc 157 args).run prog w=.ok (.enter 157 args) w:=by simp[go_sem]
theorem KA{l:List Nd}{N:List ByteArray}{C:List (Int×Int)}(h:ax l≠0):nP l N C=ax l/\sC l N C=noC:=by
 have e:nP l N C=ax l:=by unfold nP;rw[if_pos h]
 exact⟨e,by unfold sC;rw[e,if_neg h]⟩
theorem N4{l:List Nd}{N:List ByteArray}{C:List (Int×Int)}(h:ax l=0)(a:dO N C≠0):nP l N C=dO N C/\sC l N C=noC:=by
 have e:nP l N C=dO N C:=by unfold nP;rw[if_neg (by simpa using h),if_pos a]
 exact⟨e,by unfold sC;rw[e,if_neg a]⟩
theorem DU{l:List Nd}{N:List ByteArray}{C:List (Int×Int)}(h:ax l=0)(a:dO N C=0):nP l N C=(if missT N (aI l (l.length-1))=true then 5 else 0)/\sC l N C=(if missT N (aI l (l.length-1))=true then noC else iX N C (aI l (l.length-1))):=by
 have e:nP l N C=(if missT N (aI l (l.length-1))=true then 5 else 0):=by unfold nP;rw[if_neg (by simpa using h),if_neg (by simpa using a)]
 refine⟨e,?_⟩;unfold sC;rw[e];cases missT N (aI l (l.length-1))
 ·rfl
 rfl
theorem Gv(A:Option Addr)(cap:Nat)(l:List Nd)(An:Option Addr)(u:Nat)(N:List ByteArray)(Ac:Option Addr)(t:Nat)(C:List (Int×Int))(w:World)(M:kx w A cap l)(O:MT w An u N)(L:eP w Ac t C):
  Calls prog 110 #[.slice A l.length cap,.slice An N.length u,.slice Ac C.length t] w fun e w'=>e=.returned (.tuple #[.agg #[.int .i64 (sC l N C).1,.int .i64 (sC l N C).2],errV (nP l N C)])/\Bl w w':=by
 have b:=fun w' (F:Bl w w')=>jO A cap l w' (M.later F)
 by_cases o:ax l=0
 case neg =>
  obtain⟨y,z⟩:=KA (N:=N) (C:=C) o;rw[y,z];rw[ac o]at b|-;unfold noC;clear o y z M O L
  go_enter func110,ntmps110
  go_wp2_with fail;refine(b _ γ).mono ?_
  rintro e w1⟨rfl,a⟩;have c:Hid (Bl w w1):=ad γ a
  obtain⟨S,ae⟩:=fk a;have hz:=fl a
  simp at hz
  clear a b;go_wp2_with fail;refine bodyPost_ret (v:=.tuple #[.agg #[.int .i64 0,.int .i64 0],.iface 71 (.int .i64 (ax l))]) (by simp[results,results110,go_sem,S]) rfl ⟨rfl,?_⟩
  exact(c.o.setCell (by simp;omega) _).setCell (by simp;omega) _
 rw[o,errV_zero]at b;have j:=fun w' (F:Bl w w')=>yr An u N Ac t C w' (O.later F) (L.later F)
 obtain⟨W,D⟩:∃W,((w.alloc (.cells #[.slice An N.length u] 147)).alloc (.cells #[.slice Ac C.length t] 35)).alloc (.cells #[.int .i64 0,.int .i64 0] 61)=W:=⟨_,rfl⟩;have g:Bl w W:=by rw[←D];go_grown
 have Y:W.heap[w.heap.size]?=some (.cells #[.slice An N.length u] 147 (0,0)):=by rw[←D,heap_alloc_old _ _ (by simp;omega),Kr]
 have w1:W.heap[w.heap.size+1]?=some (.cells #[.slice Ac C.length t] 35 (0,0)):=by rw[←D,heap_alloc_old _ _ σ,tT]
 have P:W.cell? ⟨w.heap.size,0,none⟩=some (.slice An N.length u):=by simp[World.cell?,Y]
 have Q:W.cell? ⟨w.heap.size+1,0,none⟩=some (.slice Ac C.length t):=by simp[World.cell?,w1]
 have G:W.heap.size=w.heap.size+3:=by rw[←D];simp
 have d:Hid (Bl w W):=g;have f:Hid (W.heap.size=w.heap.size+3):=G;have n:W.heap[w.heap.size+1+1]?=some (.cells #[.int .i64 0,.int .i64 0] 61 (0,0)):=by
  have h:=heap_alloc_new ((w.alloc (.cells #[.slice An N.length u] 147)).alloc (.cells #[.slice Ac C.length t] 35)) (.cells #[.int .i64 0,.int .i64 0] 61);rw[D]at h
  simpa using h
 have s:Hid (W.heap[w.heap.size+1+1]?=some (.cells #[.int .i64 0,.int .i64 0] 61 (0,0))):=n;have J:=aa P;have K:=aa Q
 by_cases B:dO N C=0
 case neg =>
  obtain⟨y,z⟩:=N4 o B;rw[y,z];rw[ac B]at j|-;unfold noC;clear o B y z M O L g P Q G n Y w1
  go_enter func110,ntmps110
  go_wp2_with fail;refine(b _ d.o).mono ?_;rintro e w1⟨rfl,a⟩;have c:Hid (Bl W w1):=a;have T:=(a.cell (p:=⟨w.heap.size,0,none⟩) (by have:=f.o;simp;omega)).trans J.o
  have U:=(a.cell (p:=⟨w.heap.size+1,0,none⟩) (by have:=f.o;simp;omega)).trans K.o
  clear a b D;go_wp2_with fail;refine(j _ (ad d.o c.o)).mono ?_;rintro e w3⟨rfl,m⟩;have k:Hid (Bl W w3):=ad c.o m;have i:=(k.o.block (w.heap.size+1+1) (by have:=f.o;omega)).trans s.o
  have r1:w.heap.size+1+1<w3.heap.size:=(Array.getElem?_eq_some_iff.1 i).1;have V:w3.cell? ⟨w.heap.size+1+1,0,none⟩=some (.int .i64 0):=by simp[World.cell?,i]
  have X:w3.cell? ⟨w.heap.size+1+1,1,none⟩=some (.int .i64 0):=by simp[World.cell?,i]
  have rf0:w3.frozen? ⟨w.heap.size+1+1,0,none⟩=false:=by simp[World.frozen?,i]
  have rf1:w3.frozen? ⟨w.heap.size+1+1,1,none⟩=false:=by simp[World.frozen?,i]
  clear m i j T U;go_wp2_with fail;refine bodyPost_ret (v:=.tuple #[.agg #[.int .i64 0,.int .i64 0],.iface 71 (.int .i64 (dO N C))]) (by simp[results,results110,go_sem,V,X]) rfl ⟨rfl,?_⟩
  exact((ad d.o k.o).setCell (by simp;omega) _).setCell (by simp;omega) _
 obtain⟨y,z⟩:=DU o B;rw[y,z];rw[B,errV_zero]at j;have I:Hid (∀w',Bl W w'->Calls prog 156 #[.slice A l.length cap,.func (.func 157) #[] #[.pointer (some ⟨w.heap.size,0,none⟩),.pointer (some ⟨w.heap.size+1,0,none⟩)]] w' fun e ab=>e=.returned (.tuple #[.agg #[.int .i64 (if missT N (aI l (l.length-1))=true then noC else iX N C (aI l (l.length-1))).1,.int .i64 (if missT N (aI l (l.length-1))=true then noC else iX N C (aI l (l.length-1))).2],errV (if missT N (aI l (l.length-1))=true then 5 else 0)])/\Bl w' ab):=by
  intro w' F;refine Er 157 w.heap.size (w.heap.size+1) zL N C A cap l w' (M.later (ad g F)) o (On B) ?_;intro x ab q;have r:=ad F q;exact CI w.heap.size (w.heap.size+1) An u N Ac t C x ab ((r.cell (p:=⟨w.heap.size,0,none⟩) (by simp;omega)).trans P) ((r.cell (p:=⟨w.heap.size+1,0,none⟩) (by simp;omega)).trans Q) (O.later (ad g r)) (L.later (ad g r)) B
 obtain⟨R,hR⟩:∃R,(if missT N (aI l (l.length-1))=true then noC else iX N C (aI l (l.length-1)))=R:=⟨_,rfl⟩
 obtain⟨E,Z⟩:∃E,errV (if missT N (aI l (l.length-1))=true then 5 else 0)=E:=⟨_,rfl⟩
 rw[hR,Z]at I|-;clear o B y z M O L hR Z g P Q G n Y w1
 go_enter func110,ntmps110
 go_wp2_with fail;refine(b _ d.o).mono ?_;rintro e w1⟨rfl,a⟩;have c:Hid (Bl W w1):=a;have T:=(a.cell (p:=⟨w.heap.size,0,none⟩) (by have:=f.o;simp;omega)).trans J.o
 have U:=(a.cell (p:=⟨w.heap.size+1,0,none⟩) (by have:=f.o;simp;omega)).trans K.o
 clear a b D;go_wp2_with fail;refine(j _ (ad d.o c.o)).mono ?_;rintro e w2⟨rfl,q⟩;have H:Hid (Bl W w2):=ad c.o q;clear q j T U;go_wp2_with fail;refine(I.o _ H.o).mono ?_;rintro e w3⟨rfl,m⟩;have k:Hid (Bl W w3):=ad H.o m;have i:=(k.o.block (w.heap.size+1+1) (by have:=f.o;omega)).trans s.o
 have r1:w.heap.size+1+1<w3.heap.size:=(Array.getElem?_eq_some_iff.1 i).1;have V:w3.cell? ⟨w.heap.size+1+1,0,none⟩=some (.int .i64 0):=by simp[World.cell?,i]
 have X:w3.cell? ⟨w.heap.size+1+1,1,none⟩=some (.int .i64 0):=by simp[World.cell?,i]
 have rf0:w3.frozen? ⟨w.heap.size+1+1,0,none⟩=false:=by simp[World.frozen?,i]
 have rf1:w3.frozen? ⟨w.heap.size+1+1,1,none⟩=false:=by simp[World.frozen?,i]
 clear m i;go_wp2_with fail;refine bodyPost_ret (v:=.tuple #[.agg #[.int .i64 R.1,.int .i64 R.2],E]) (by simp[results,results110,go_sem,V,X]) rfl ⟨rfl,?_⟩
 exact((ad d.o k.o).setCell (by simp;omega) _).setCell (by simp;omega) _
def vu(l:List UInt8):ByteArray:=⟨l.toArray⟩
theorem nmB_list(l:List UInt8):(vu l).data.toList=l:=by simp[vu]
theorem I1(s:ByteArray):vu s.data.toList=s:=by unfold vu;simp
theorem Es(zs:List (List UInt8))(r:zs.Pairwise (fun a b=>a<=b)):(Lib.compact zs).Pairwise (fun a b=>a<=b):=by
 unfold Lib.compact;have g:∀i j,i<=j->j<zs.length->zs.toArray[i]!<=zs.toArray[j]! :=fun i j q l=>by
  rw[getElem!_pos _ i (by simp;omega),getElem!_pos _ j (by simpa using l)]
  by_cases e:i=j
  ·subst e;exact List.le_refl _
  have:=List.pairwise_iff_getElem.1 r i j ω l ω
  simpa using this
 have h:∀m,m<=zs.length->(Lib.compactUpTo zs.toArray m).Pairwise (fun a b=>a<=b)/\∀x∈Lib.compactUpTo zs.toArray m,∃j,j<m/\zs.toArray[j]! =x:=by
  intro m
  induction m with
  |zero=>intro _;exact⟨by simp[Lib.compactUpTo],fun x c=>by simp[Lib.compactUpTo]at c⟩
  |succ m ih =>
   intro s;obtain⟨n,k⟩:=ih ω
   rw[Lib.compactUpTo_succ];refine⟨?_,fun x c=>?_⟩
   ·rw[List.pairwise_append]
    refine⟨n,by split<;>simp,fun a p b f=>?_⟩
    split at f
    ·rw[List.mem_singleton.1 f]
     obtain⟨j,o,d⟩:=k a p;rw[←d];exact g j m ω ω
    cases f
   rcases List.mem_append.1 c with c|c
   ·obtain⟨j,o,d⟩:=k x c
    exact⟨j,ω,d⟩
   split at c
   ·exact⟨m,ω,(List.mem_singleton.1 c).symm⟩
   cases c
 exact(h _ zT).1
theorem FT{l:List Nd}(h:ax l=0):∀i j,i<j->j<(aP l).length->(aP l).getD i []<(aP l).getD j []:=by
 intro i j c d;have f:=(kr h).1;have e:(aP l).Pairwise (fun a b=>a<=b):=by
  unfold aP;rw[if_pos h];exact Es _ (Ka _)
 rw[zZ,zZ,zX (by omega:i<_),zX d]
 have k:=List.pairwise_iff_getElem.1 e i j ω d c
 have g:=List.pairwise_iff_getElem.1 f i j ω d c
 simp only[Option.getD_some]
 rcases Std.lt_trichotomy (aP l)[i] (aP l)[j]with h3|h3|h3
 ·exact h3
 ·exact absurd h3 g
 exact absurd (List.le_antisymm k (List.le_of_lt h3)) g
theorem Bi{l:List Nd}(h:ax l=0):∀j,1<=j->j<((aP l).map vu).length->fM ((aP l).map vu) j=false:=by
 intro j f b;rw[List.length_map]at b;have c:=FT h (j-1) j ω b
 have e:∀k,k<(aP l).length->(((aP l).map vu).getD k pw).toList=(aP l).getD k []:=fun k d=>by
  rw[zZ,List.getElem?_map,zX d,zZ,zX d];simp only[Option.map_some,Option.getD_some];rw[ByteArray.toList_eq,nmB_list]
 unfold fM;rw[e j b,e (j-1) ω,bytesLess_eq,Bool.or_eq_false_iff]
 refine⟨decide_eq_false fun a=>?_,?_⟩
 ·exact absurd (List.lt_trans c a) (List.lt_irrefl _)
 rw[beq_eq_false_iff_ne];intro a;rw[a]at c;exact absurd c (List.lt_irrefl _)
theorem zR{d:Dm}(F:(am d).2=0){i:Nat}(w:(d.mem i).formula.size≠0)(E:mErr d i=0)(f:Int->Int×Int)(A:∀z∈f9 d i,dq (f z)):
  nP (bK (d.mem i).formula) ((aP (bK (d.mem i).formula)).map vu) (((aP (bK (d.mem i).formula)).map (whL d)).map f)=0/\sC (bK (d.mem i).formula) ((aP (bK (d.mem i).formula)).map vu) (((aP (bK (d.mem i).formula)).map (whL d)).map f)=iK d f i:=by
 have o:=gt w E;have b:=eH o;obtain⟨l,u⟩:=ar (bK (d.mem i).formula);have c:∀x,x∈aP l↔x∈ox d i:=fun x=>by
  rw[(kr (by rw[←u];exact b)).2 x]
  unfold ox;rw[u]
 have g:Ks d i=aI l (l.length-1):=by unfold Ks;rw[u]
 have p:∀s∈refsT (aI l (l.length-1)),s.data.toList∈aP l:=fun s m=>(c _).2 (nO o (by rw[g];exact m))
 rw[u]at b|-;have v:dO ((aP l).map vu) (((aP l).map (whL d)).map f)=0:=by
  refine ug σ (fun j t=>?_) (Bi b)
  simp only[List.length_map]at t;unfold gE;have G:((aP l).map (whL d))[j]'(by simpa using t)∈f9 d i:=(jj F w E _).2 ⟨_,(c _).1 (List.getElem_mem t),by simp⟩
  have y:=A _ G;unfold dq at y;rw[zZ,zX (by simpa using t)]
  simp only[Option.getD_some,List.getElem_map]at y|-;rw[y]
  rfl
 have q:∀s,s.data.toList∈aP l->∃k:Nat,db ((aP l).map vu) s=(k:Int)/\k<(aP l).length/\vu ((aP l).getD k [])=s:=fun s m=>by
  rcases where_cases ((aP l).map vu) s with⟨-,a⟩|⟨k,n,a,r⟩
  ·obtain⟨k,D,e⟩:=List.getElem_of_mem m
   refine absurd ?_ (a k (by simpa using D))
   rw[zZ,List.getElem?_map,zX D];simp only[Option.map_some,Option.getD_some];rw[e,I1]
  rw[List.length_map]at a;refine⟨k,n,a,?_⟩;rw[zZ,List.getElem?_map,zX a]at r;rw[zZ,zX a];exact r
 have h:missT ((aP l).map vu) (aI l (l.length-1))=false:=by
  unfold missT;rw[List.any_eq_false];intro s m;obtain⟨k,n,-,-⟩:=q s (p s m);rw[n]
  simp
 obtain⟨B,C⟩:=DU b v;rw[h]at B C;refine⟨B,C.trans ?_⟩;simp only[Bool.false_eq_true,if_false];unfold iK;rw[if_neg w,g];refine ls _ _ _ _ fun s m=>?_
 obtain⟨k,n,a,r⟩:=q s (p s m);unfold refC;rw[n,Int.toNat_natCast,zZ,List.getElem?_map,List.getElem?_map,zX a];simp only[Option.map_some,Option.getD_some];rw[←r,nmB_list,zZ,zX a]
 rfl
theorem oH{d:Dm}{i:Nat}(g:(d.mem i).formula.size=0)(f:Int->Int×Int):partsV d.mem f (f9 d i)=iK d f i:=by
 unfold partsV iK;rw[if_pos g,←jn g];have a:∀(P:List Int) (c:Int×Int),(P.filter (KO d)).foldl (bE d.mem f) c=P.foldl (bE d.mem f) c:=by
  intro P
  induction P with
  |nil=>intro c;rfl
  |cons x r ih =>
   intro c;rw[List.filter_cons,List.foldl_cons]
   by_cases b:KO d x=true
   ·rw[if_pos b,List.foldl_cons,ih]
   rw[if_neg b,ih];have h:(d.mem x.toNat).sign=0:=by unfold KO at b;simpa using b
   have e:bE d.mem f c x=c:=by unfold bE;rw[if_neg ω,if_neg ω]
   rw[e]
 exact a _ _
theorem Iq{d:Dm}(l:(am d).2=0){i:Nat}(k:mErr d i=0)(f:Int->Int×Int)(g:∀z∈f9 d i,dq (f z)):dq (iK d f i):=by
 by_cases e:(d.mem i).formula.size=0
 ·rw[←oH e]
  exact Ah _ _ _
 have j:=gt e k;unfold iK;rw[if_neg e];have c:∀t:Tre,(∀s∈refsT t,dq (f (whL d s.data.toList)))->dq (valG (fun s=>f (whL d s.data.toList)) t):=by
  intro t
  induction t with
  |num n=>intro _;exact qm n
  |ref s=>intro h;exact h s (by simp[refsT])
  |bin o a b _ _=>intro _;exact Jj o _ _
 exact c _ fun s m=>g _ ((jj l e k _).2 ⟨_,nO j m,rfl⟩)
theorem qn{D:Nat->Dm}{n:Nat}(e:eT D n){aa:List Int->Int×Int}(l:∀p,dq (aa p)):∀(m:Nat) (p:List Int),InO D n p->msrTo D p n<m->dq (gN D n aa p):=by
 intro m
 induction m with
 |zero=>intro p _ h;omega
 |succ m ih =>
  intro p a r
  rcases by_in D p n with h|⟨b,h1,h2⟩
  ·rw[gL aa ω]
   exact l p
  rw[vi e aa a h1];obtain⟨k,f,-,-⟩:=bw (e b h2);have g:=a.lo b h2;have q:=a.hi b h2;refine Iq k (f _ ω) _ fun z j=>?_
  have d:=fA j;have c:=mw (e b h2) (i:=(p.getD b 0).toNat) ω j
  rw[Int.toNat_of_nonneg g]at c;have o:=(jU (by rw[a.len];exact h2) c n).2 h2
  exact ih _ (lX a h2 d.1 d.2) ω
theorem eO{g T:Nat}{fr:Nat×Nat}:∀(vs:List Value) (o:Nat) (a:Array Value) (w:World),w.heap[g]?=some (.cells a T fr)->∃cur',(w.setCells g o vs).heap[g]?=some (.cells cur' T fr)/\cur'.size=a.size
 | [],_,a,_,h=>⟨a,h,rfl⟩
 |v :: r,o,a,w,h=>by
  obtain⟨c2,b,c⟩:=eO r (o+1) _ (w.setCell ⟨g,o,none⟩ v) (dj h);exact⟨c2,b,by rw[c];simp⟩
theorem im(g:Nat):∀(vs:List Value) (o:Nat) (w:World),(w.setCells g o vs).heap.size=w.heap.size
 | [],_,_=>rfl
 |v :: r,o,w=>by
  show((w.setCell ⟨g,o,none⟩ v).setCells g (o+1) r).heap.size=_
  rw[im g r];simp
theorem jr(g:Nat){b:Nat}(a:b≠g):∀(vs:List Value) (o:Nat) (w:World),(w.setCells g o vs).heap[b]?=w.heap[b]?
 | [],_,_=>rfl
 |v :: r,o,w=>by
  show((w.setCell ⟨g,o,none⟩ v).setCells g (o+1) r).heap[b]?=_
  rw[jr g a r,ae _ _ _ _ _ a]
theorem j0(g:Nat):∀(vs:List Value) (o:Nat) (w:World),(w.setCells g o vs).os=w.os/\(w.setCells g o vs).tape=w.tape/\(w.setCells g o vs).output=w.output
 | [],_,_=>⟨rfl,rfl,rfl⟩
 |v :: r,o,w=>j0 g r (o+1) (w.setCell ⟨g,o,none⟩ v)
theorem gF{w w':World}{g:Nat}(h:w.grownBy w' (some g))(vs:List Value)(o:Nat):w.grownBy (w'.setCells g o vs) (some g):=by
 obtain⟨b,c,d⟩:=j0 g vs o w';refine⟨b.trans h.os,c.trans h.tape,d.trans h.output,by rw[im];exact h.size,fun k f a=>?_⟩
 rw[jr g (fun e=>a (by rw[e]))]
 exact h.block k f a
def ie(w:World)(g:Nat)(A:Option Addr)(cap:Nat)(L:List Int):Prop:=L.length<=cap/\cap<=9223372036854775807/\∃o,A=some ⟨g,o,none⟩/\(∃cur,w.heap[g]?=some (.cells cur 3 (0,0))/\o+cap<=cur.size)/\∀j,j<L.length->w.cell? ⟨g,o+j,none⟩=some (.int .i64 (L.getD j 0))
theorem ie.lt{w:World}{g cap:Nat}{A:Option Addr}{L:List Int}(h:ie w g A cap L):g<w.heap.size:=by
 obtain⟨-,-,o,-,⟨a,b,-⟩,-⟩:=h;exact(zY b).1
theorem ie.same{w w':World}{g cap:Nat}{A:Option Addr}{L:List Int}(h:ie w g A cap L)(c:w'.heap[g]?=w.heap[g]?):ie w' g A cap L:=by
 obtain⟨d,e,o,f,⟨b,l,i⟩,k⟩:=h;exact⟨d,e,o,f,⟨b,c.trans l,i⟩,fun j m=>(World.cell?_of_block (a:=⟨g,o+j,none⟩) c).trans (k j m)⟩
theorem ie.later{w w':World}{g cap:Nat}{A:Option Addr}{L:List Int}(h:ie w g A cap L)(a:Bl w w'):ie w' g A cap L:=h.same (a.block g h.lt)
theorem ie.own{w:World}{base:Nat}{v:Value}{L:List Int}(h:w.ownsRow base 3 1 v L.length (aA L))(n:0<L.length):∃g c,v=.slice (some ⟨g,0,none⟩) L.length c/\base<=g/\ie w g (some ⟨g,0,none⟩) c L:=by
 rcases h.2 with⟨rfl,m⟩|⟨g,cap,b,rfl,e,i,f,l,o,_⟩
 ·omega
 refine⟨g,cap,rfl,e,f,by unfold maxLen at l;omega,0,rfl,⟨b,i,ω⟩,fun j k=>?_⟩
 have d:=h.cells (g:=g) rfl j (.int .i64 (L.getD j 0)) (by simp[aA,List.getD,zX k])
 have a:(⟨g,0,none⟩:Addr).add j=⟨g,j,none⟩:=by unfold Addr.add;split<;>simp_all
 rw[a]at d;rw[Nat.zero_add];exact d
theorem LH{L:List Int}{j:Nat}{v:Value}(h:(aA L)[j]?=some v):j<L.length/\v=.int .i64 (L.getD j 0):=by
 unfold aA at h;rw[List.getElem?_map]at h;have a:j<L.length:=by
  refine Classical.byContradiction fun b=>?_
  rw[List.getElem?_eq_none ω]at h
  cases h
 rw[zX a]at h;refine⟨a,?_⟩;rw[zZ,zX a]
 simp at h|-
 exact h.symm
theorem xu(L:List Int):∀v∈aA L,v.oneCell'=true:=by intro u a;simp[aA]at a;obtain⟨x,-,rfl⟩:=a;rfl
theorem mapI_len(L:List Int):(aA L).length=L.length:=by simp[aA]
theorem ie.cells{w:World}{g cap o:Nat}{L:List Int}(h:ie w g (some ⟨g,o,none⟩) cap L):∀j v,(aA L)[j]?=some v->w.cell? ⟨g,o+j,none⟩=some v:=fun j v d=>by
 obtain⟨a,rfl⟩:=LH d;obtain⟨-,-,o',b,-,c⟩:=h;cases b;exact c j a
theorem Iy{L:List Int}{x:Int}{i:Nat}(b:i<=L.length)(j:Nat):(j<i->(L.take i++x :: L.drop i).getD j 0=L.getD j 0)/\(j=i->(L.take i++x :: L.drop i).getD j 0=x)/\(i<j->(L.take i++x :: L.drop i).getD j 0=L.getD (j-1) 0):=by
 have a:(L.take i).length=i:=by rw[List.length_take];omega
 refine⟨fun h=>?_,fun h=>?_,fun h=>?_⟩
 ·rw[zZ,List.getElem?_append_left ω,List.getElem?_take_of_lt h,zZ]
 ·subst h
  rw[zZ,List.getElem?_append_right ω,a,Nat.sub_self]
  rfl
 rw[zZ,List.getElem?_append_right ω,a,show j-i=(j-i-1)+1 by omega,List.getElem?_cons_succ,List.getElem?_drop,zZ,show i+(j-i-1)=j-1 by omega]
theorem lY{L:List Int}{x:Int}{i:Nat}(a:i<=L.length):(L.take i++x :: L.drop i).length=L.length+1:=by
 rw[List.length_append,List.length_cons,List.length_take,List.length_drop]
 omega
theorem EM(A:Option Addr)(cap g:Nat)(L:List Int)(x:Int)(w:World)(f:L.length<=3000)(c:ie w g A cap L)(d:L.Pairwise (· < ·)):Calls prog 76 #[.slice A L.length cap,.int .i64 x] w fun e w'=>(∃b,e=.returned (.tuple #[.int .i64 (L.countP (· < x):Nat),.bool b]))/\Bl w w':=by
 obtain⟨-,-,o,rfl,-,a⟩:=c;refine Calls.mono (Any.slices_BinarySearch_int lays25 g o L.length cap L x w zT ω a (by rw[List.take_length];exact d.imp fun h=>ω)) ?_
 rintro e w'⟨rfl,q,rfl⟩;rw[List.take_length];exact⟨⟨_,rfl⟩,aj zS _⟩
def DY(w:World)(g i:Nat)(L:List Int)(x:Int)(e:Ending)(w':World):Prop := ∃g' A' c',e=.returned (.slice A' (L.length+1) c')/\ie w' g' A' c' (L.take i++x :: L.drop i)/\(g'=g\/w.heap.size<=g')/\w.grownBy w' (some g)
theorem Ix(A:Option Addr)(cap g i vb:Nat)(L:List Int)(x:Int)(w:World)(hl:L.length<=3000)(Q:i<=L.length)(hR:ie w g A cap L)(P:w.heap[vb]?=some (.cells #[.int .i64 x] 3 (0,0)))(ag:vb≠g):Calls prog 108 #[.slice A L.length cap,.int .i64 i,.slice (some ⟨vb,0,none⟩) 1 1] w fun e w'=>DY w g i L x e w':=by
 obtain⟨h1,h2,o,rfl,⟨r,W,h4⟩,h5⟩:=id hR;have ah:=hR.lt;have J:=hR.cells;have D:∀j v,([Value.int .i64 x]:List Value)[j]?=some v->w.cell? ⟨vb,0+j,none⟩=some v:=fun j v f=>by
  rw[Nat.zero_add,Lib.cell_of_heap P]
  simpa using f
 have n:∀v∈([Value.int .i64 x]:List Value),v.oneCell'=true:=fun v P=>by simp at P;subst P;rfl
 have z:∀j,j<cap->(w.cell? ⟨g,o+j,none⟩).isSome=true:=fun j f=>by
  rw[Lib.cell_of_heap W]
  simp[show o+j<r.size by omega]
 have X:∀j,w.frozen? ⟨g,j,none⟩=false:=fun j=>Lib.frozen_of_heap W j
 have E:∀w',w.grownBy w' (some g)->(∃c,w'.heap[g]?=some (.cells c 3 (0,0))/\c.size=r.size)->L.length+1<=cap->(∀j,j<i->w'.cell? ⟨g,o+j,none⟩=some (.int .i64 (L.getD j 0)))->w'.cell? ⟨g,o+i,none⟩=some (.int .i64 x)->(∀j,i<j->j<L.length+1->w'.cell? ⟨g,o+j,none⟩=some (.int .i64 (L.getD (j-1) 0)))->DY w g i L x (.returned (.slice (some ⟨g,o,none⟩) (L.length+1) cap)) w':=fun w' hG O d a1 a2 a3=>by
  obtain⟨c,H,af⟩:=O;refine⟨g,_,_,rfl,⟨by rw[lY Q];exact d,h2,o,rfl,⟨c,H,ω⟩,fun j f=>?_⟩,Or.inl rfl,hG⟩
  rw[lY Q]at f;obtain⟨b1,b2,b3⟩:=Iy (x:=x) Q j
  by_cases p:j<i
  ·rw[b1 p];exact a1 j p
  by_cases q:j=i
  ·rw[b2 q,q];exact a2
  rw[b3 ω];exact a3 j ω f
 by_cases d:L.length+1<=cap
 ·by_cases M:i<L.length
  ·refine Calls.mono (Any2.slices_Insert_int_shift lays21 g o L.length cap i vb 0 1 1 (aA L) [.int .i64 x] w M ω d h2 ag (mapI_len L) rfl J (fun j f=>z j ω) (fun j _=>X _) D (xu L) n 3 3 1 r.size (by simp[World.shape?,P]) (by simp[World.shape?,W]) ω (Lib.frozen_of_heap P 0) (Lib.frozen_of_heap P 1)) ?_
   rintro e w'⟨rfl,rfl⟩;have t:((aA L).drop i).length=L.length-i:=by rw[List.length_drop,mapI_len]
   obtain⟨c1,I,ae⟩:=eO ((aA L).drop i) (o+(i+1)) r w.drew W;obtain⟨c2,s,N⟩:=eO [.int .i64 x] (o+i) c1 _ I;have Y:∀j,i<j->j<L.length+1->(w.drew.setCells g (o+(i+1)) ((aA L).drop i)).cell? ⟨g,o+j,none⟩=some (.int .i64 (L.getD (j-1) 0)):=fun j p q=>by
    have h:=World.cell?_setCells_in g ((aA L).drop i) (o+(i+1)) w.drew (fun k B=>by rw[t]at B;have:=z (i+1+k) ω;rw[show o+(i+1)+k=o+(i+1+k) by omega];exact this) (j-(i+1)) (by rw[t];omega)
    rw[show o+(i+1)+(j-(i+1))=o+j by omega]at h
    rw[h,List.getElem_drop];simp only[aA,List.getElem_map,Option.some.injEq,Value.int.injEq,true_and];rw[zZ,zX ω]
    simp only[Option.getD_some]
    congr 1
    omega
   refine E _ (gF (gF (cX (bP _ _)) _ _) _ _) ⟨c2,s,ω⟩ d (fun j f=>?_) ?_ fun j p q=>?_
   ·rw[World.cell?_setCells_out g _ _ _ _ (fun _ _=>Or.inl (by show o+j<o+i;omega)),World.cell?_setCells_out g _ _ _ _ (fun _ _=>Or.inl (by show o+j<o+(i+1);omega))]
    exact h5 j ω
   ·have h:=World.cell?_setCells_in g [.int .i64 x] (o+i) (w.drew.setCells g (o+(i+1)) ((aA L).drop i)) (fun k B=>by
     have u:k=0:=by simpa using B
     subst u;rw[World.cell?_setCells_out g _ _ _ _ (fun _ _=>Or.inl (by show o+i+0<o+(i+1);omega))]
     exact z i ω) 0 σ
    simpa using h
   rw[World.cell?_setCells_out g _ _ _ _ (fun _ _=>Or.inr (by show o+i+1<=o+j;omega))]
   exact Y j p q
  have K:i=L.length:=ω;subst K;refine Calls.mono (Any2.slices_Insert_int_end_room lays21 g o L.length cap vb 0 1 1 [.int .i64 x] w ω d h2 rfl (fun j f=>by have:=z (L.length+j) ω;rw[show o+L.length+j=o+(L.length+j) by omega];exact this) (fun j _=>X _) D n) ?_
  rintro e w'⟨rfl,rfl⟩;obtain⟨c2,s,N⟩:=eO [.int .i64 x] (o+L.length) r w W;refine E _ (gF (bP _ _) _ _) ⟨c2,s,N⟩ d (fun j f=>?_) ?_ fun j p q=>ω
  ·rw[World.cell?_setCells_out g _ _ _ _ (fun _ _=>Or.inl (by show o+j<o+L.length;omega))]
   exact h5 j f
  have h:=World.cell?_setCells_in g [.int .i64 x] (o+L.length) w (fun k B=>by
   have u:k=0:=by simpa using B
   subst u;exact z L.length ω) 0 σ
  simpa using h
 have F:∀(G:Nat) (w':World),L.length+1<=G->G<=maxLen->Bl w w'->(∃c,w'.heap[w.heap.size]?=some (.cells c 3 (0,0))/\c.size=G)->(∀j,j<i->w'.cell? ⟨w.heap.size,j,none⟩=some (.int .i64 (L.getD j 0)))->w'.cell? ⟨w.heap.size,i,none⟩=some (.int .i64 x)->(∀j,i<j->j<L.length+1->w'.cell? ⟨w.heap.size,j,none⟩=some (.int .i64 (L.getD (j-1) 0)))->DY w g i L x (.returned (.slice (some ⟨w.heap.size,0,none⟩) (L.length+1) G)) w':=fun G w' hG C hB O a1 a2 a3=>by
  obtain⟨c,H,af⟩:=O;refine⟨w.heap.size,_,_,rfl,⟨by rw[lY Q];exact hG,by unfold maxLen at C;omega,0,rfl,⟨c,H,ω⟩,fun j f=>?_⟩,Or.inr zT,aC hB⟩
  rw[lY Q]at f;obtain⟨b1,b2,b3⟩:=Iy (x:=x) Q j;rw[Nat.zero_add]
  by_cases p:j<i
  ·rw[b1 p];exact a1 j p
  by_cases q:j=i
  ·rw[b2 q,q];exact a2
  rw[b3 ω];exact a3 j ω f
 have S:=grownCap_ge w (L.length+1) cap 3;have C:=grownCap_le_maxLen w (L.length+1) cap 3 (by unfold maxLen;omega)
 by_cases M:i<L.length
 ·refine Calls.mono (Any2.slices_Insert_int_grow lays21 g o L.length cap i vb 0 1 1 (aA L) [.int .i64 x] w M ω h1 ω ω (mapI_len L) rfl J D (xu L) n) ?_
  rintro e w'⟨rfl,rfl⟩;have t:((aA L).drop i).length=L.length-i:=by rw[List.length_drop,mapI_len]
  have Z:((aA L).take i).length=i:=by rw[List.length_take,mapI_len];omega
  obtain⟨aa,l⟩:∃aa:Array Value,((aA L).take i).toArray++Builtin.zeroCells (Value.int .i64 0).cells (L.length+1-i)++Builtin.zeroCells (Value.int .i64 0).cells (grownCap w (L.length+1) cap 3-(L.length+1))=aa:=⟨_,rfl⟩;have T:aa.size=grownCap w (L.length+1) cap 3:=by
   rw[←l,Array.size_append,Array.size_append,size_zeroCells,size_zeroCells,List.size_toArray,Z];simp only[Value.cells,List.size_toArray,List.length_cons,List.length_nil]
   omega
  have ad:∀j,j<i->aa[j]?=some (.int .i64 (L.getD j 0)):=fun j f=>by
   rw[←l,Array.append_assoc,Array.getElem?_append_left (by rw[List.size_toArray,Z];exact f),List.getElem?_toArray,List.getElem?_take_of_lt f]
   unfold aA;rw[List.getElem?_map,zX ω,zZ,zX ω]
   rfl
  show DY w g i L x (.returned (.slice (some ⟨w.heap.size,0,none⟩) (L.length+1) (grownCap w (L.length+1) cap 3))) ((((w.alloc (.cells (((aA L).take i).toArray++Builtin.zeroCells (Value.int .i64 0).cells (L.length+1-i)++Builtin.zeroCells (Value.int .i64 0).cells (grownCap w (L.length+1) cap 3-(L.length+1))) 3)).drew.setCells w.heap.size i [.int .i64 x]).drew).setCells w.heap.size (i+1) ((aA L).drop i))
  rw[l];have m:((w.alloc (.cells aa 3)).drew).heap[w.heap.size]?=some (.cells aa 3 (0,0)):=heap_alloc_new w _;obtain⟨c1,I,ae⟩:=eO [.int .i64 x] i aa _ m;obtain⟨c2,s,N⟩:=eO ((aA L).drop i) (i+1) c1 ((w.alloc (.cells aa 3)).drew.setCells w.heap.size i [.int .i64 x]).drew I;have ab:Bl w (w.alloc (.cells aa 3)).drew:=by go_grown
  have R:∀(w1:World) (vs:List Value) (k:Nat),Bl w w1->Bl w (w1.setCells w.heap.size k vs):=fun w1 vs k h=>by
   obtain⟨p,q,e3⟩:=j0 w.heap.size vs k w1;exact⟨p.trans h.os,q.trans h.tape,e3.trans h.output,by rw[im];exact h.size,fun b hb=>by rw[jr _ (Nat.ne_of_lt hb)];exact h.block b hb⟩
  have ac:=R _ [.int .i64 x] i ab;have y:∀(k:Nat),k<grownCap w (L.length+1) cap 3->((w.alloc (.cells aa 3)).drew.cell? ⟨w.heap.size,k,none⟩).isSome=true:=fun k B=>by
   rw[Lib.cell_of_heap m]
   simp[show k<aa.size by omega]
  refine F _ _ S C (R _ _ _ (by exact aj ac 1)) ⟨c2,s,ω⟩ (fun j f=>?_) ?_ fun j p q=>?_
  ·rw[World.cell?_setCells_out _ _ _ _ _ (fun _ _=>Or.inl (by show j<i+1;omega))]
   show((w.alloc (.cells aa 3)).drew.setCells w.heap.size i [.int .i64 x]).cell? _=_
   rw[World.cell?_setCells_out _ _ _ _ _ (fun _ _=>Or.inl (by show j<i;omega)),Lib.cell_of_heap m]
   exact ad j f
  ·rw[World.cell?_setCells_out _ _ _ _ _ (fun _ _=>Or.inl (by show i<i+1;omega))]
   show((w.alloc (.cells aa 3)).drew.setCells w.heap.size i [.int .i64 x]).cell? _=_
   have h:=World.cell?_setCells_in w.heap.size [.int .i64 x] i (w.alloc (.cells aa 3)).drew (fun k B=>by
    have u:k=0:=by simpa using B
    subst u;exact y _ ω) 0 σ
   simpa using h
  have h:=World.cell?_setCells_in w.heap.size ((aA L).drop i) (i+1) ((w.alloc (.cells aa 3)).drew.setCells w.heap.size i [.int .i64 x]).drew (fun k B=>by
   rw[t]at B
   show(((w.alloc (.cells aa 3)).drew.setCells w.heap.size i [.int .i64 x]).cell? _).isSome=true
   rw[World.cell?_setCells_out _ _ _ _ _ (fun _ _=>Or.inr (by show i+1<=i+1+k;omega))]
   exact y _ ω) (j-(i+1)) (by rw[t];omega)
  rw[show i+1+(j-(i+1))=j by omega]at h
  rw[h,List.getElem_drop];simp only[aA,List.getElem_map,Option.some.injEq,Value.int.injEq,true_and];rw[zZ,zX ω]
  simp only[Option.getD_some]
  congr 1
  omega
 have K:i=L.length:=ω;subst K;have U:∀j,(⟨g,o,none⟩:Addr).add j=⟨g,o+j,none⟩:=fun j=>by unfold Addr.add;split<;>simp_all
 refine Calls.mono (Any2.slices_Insert_int_end_grow lays21 (some ⟨g,o,none⟩) L.length cap vb 0 1 1 (aA L) [.int .i64 x] w ω h1 ω ω (mapI_len L) rfl (fun h=>by cases h) (fun a ha j v f=>by
  cases ha;rw[U];exact J j v f) D n) ?_
 rintro e w'⟨rfl,rfl⟩;obtain⟨aa,l⟩:∃aa:Array Value,(aA L++[Value.int .i64 x]).toArray++Builtin.zeroCells (Value.int .i64 0).cells (grownCap w (L.length+1) cap 3-(L.length+1))=aa:=⟨_,rfl⟩;have T:aa.size=grownCap w (L.length+1) cap 3:=by
  rw[←l,Array.size_append,size_zeroCells,List.size_toArray,List.length_append,mapI_len];simp only[Value.cells,List.size_toArray,List.length_cons,List.length_nil]
  omega
 show DY w g L.length L x (.returned (.slice (some ⟨w.heap.size,0,none⟩) (L.length+1) (grownCap w (L.length+1) cap 3))) (w.drew.alloc (.cells ((aA L++[Value.int .i64 x]).toArray++Builtin.zeroCells (Value.int .i64 0).cells (grownCap w (L.length+1) cap 3-(L.length+1))) 3))
 rw[l];have m:(w.drew.alloc (.cells aa 3)).heap[w.heap.size]?=some (.cells aa 3 (0,0)):=heap_alloc_new w.drew _;have V:∀j,j<L.length+1->aa[j]?=(aA L++[Value.int .i64 x])[j]?:=fun j f=>by
  rw[←l,Array.getElem?_append_left (by rw[List.size_toArray,List.length_append,mapI_len];simpa using f),List.getElem?_toArray]
 refine F _ _ S C γ ⟨aa,m,T⟩ (fun j f=>?_) ?_ fun j p q=>ω
 ·rw[Lib.cell_of_heap m,V j ω,List.getElem?_append_left (by rw[mapI_len];exact f)]
  unfold aA;rw[List.getElem?_map,zX f,zZ,zX f]
  rfl
 rw[Lib.cell_of_heap m,V _ ω,List.getElem?_append_right (by rw[mapI_len];exact zT),mapI_len,Nat.sub_self]
 rfl
end Go.Proofs.YtjfampgnhccodaaGreatDoor
