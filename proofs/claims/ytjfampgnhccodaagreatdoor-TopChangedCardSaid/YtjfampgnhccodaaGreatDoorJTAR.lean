/- slices.IndexFunc, Cont -/
import Derived.Test.YtjfampgnhccodaaGreatDoorJTAQ
namespace Go.Proofs.YtjfampgnhccodaaGreatDoor
open Tryz ChangeShapes WideShapes ChangeAt RowKit Lib
set_option maxRecDepth 99999
set_option maxHeartbeats 0
def M1(F q1 q2:Nat)(r:Option Nat)(w:World)(xs:List EnL)(p:EnL->Bool):Prop := ∀(x:EnL) (w':World),x∈xs->w.grownBy w' r->Calls prog F #[.agg #[.slice x.A x.e.pl.length x.c,.int .i64 x.e.n],.pointer (some ⟨q1,0,none⟩),.pointer (some ⟨q2,0,none⟩)] w' fun e w''=>e=.returned (.bool (p x))/\Bl w' w''
def pE(xs:List EnL)(p:EnL->Bool)(j:Nat):Bool:=p (xs.getD j noL)
theorem qs(F G H:Nat)(K:bo F)(A:Option Addr)(c:Nat)(xs:List EnL)(p:EnL->Bool)(r:Option Nat)(w:World)(M:xs.length<=3000)(D:bU w A c xs)(E:M1 F G H r w xs p):
  Rt 140 #[.slice A xs.length c,.func (.func F) #[] #[.pointer (some ⟨G,0,none⟩),.pointer (some ⟨H,0,none⟩)]] w (.int .i64 (findFrom (pE xs p) xs.length 0)):=by
 have I:=aa D;have J:=aa E;obtain⟨n,i⟩:=ar xs.length;have u:=aa i;rw[i]at M|-;have O:(n:Int)<=3000:=ω;clear D E i;unfold bo at K
 go_enter func140,ntmps140
 go_wp2_with fail
 go_loopg [8] n (fun g s8 wr =>∃(k:Nat),k<=n/\g=n-k/\s8=.int .i64 k/\findFrom (pE xs p) (n-k) k=findFrom (pE xs p) n 0/\Bl w wr)
 case atStart=>exact⟨0,zU,rfl,rfl,rfl,zS⟩
 case round =>
  obtain⟨k,P,rfl,rfl,v,f⟩:=hrel
  by_cases q:k<n
  ·obtain⟨-,-,t|⟨b,o,rfl,l⟩⟩:=I.o.later f
   ·have:=u.o;rw[t]at this;simp at this;omega
   obtain⟨t,C⟩:=l.at (k:=k) (by rw[u.o];exact q)
   have L:(k:Int)<(n:Int):=ω;have z:=aa v;have B:=aa f;have s:n-k=(n-(k+1))+1:=ω;have a:=J.o (xs.getD k noL) wr (cJ (by rw[u.o];exact q)) (aC f)
   have j:pE xs p k=p (xs.getD k noL):=rfl;have d:=aa j;generalize xs.getD k noL=x at t C a d j;generalize x.e.pl.length=m at t a;generalize x.e.n=N at C a;clear v f l j;cases hb:p x
   ·rw[hb]at a d
    clear hb;go_wp2_with fail;refine a.mono ?_;rintro e w1⟨rfl,h⟩;go_wp2_with fail
    go_roundg (n-(k+1))
    case measure=>omega
    case rel=>exact⟨k+1,ω,rfl,by go_num,by rw[←z.o,s,bj _ d.o],ad B.o h⟩
   rw[hb]at a d;clear hb;go_wp2_with fail;refine a.mono ?_;rintro e w1⟨rfl,h⟩;go_wp2_with fail;go_ret;exact⟨by rw[←z.o,s,bI _ d.o];rfl,ad B.o h⟩
  have y:k=n:=ω;subst y;go_wp2_with fail;go_ret;exact⟨by rw[←v,Nat.sub_self];rfl,f⟩
theorem D4(xs:List EnL)(p:EnL->Bool):decide (0<=findFrom (pE xs p) xs.length 0)=xs.any p:=by
 rcases findFrom_cases (pE xs p) xs.length 0 with⟨a,b⟩|⟨k,a,_,f,c,_⟩
 ·rw[a]
  have:xs.any p=false:=by
   rw[List.any_eq_false];intro x e;obtain⟨j,d,rfl⟩:=List.getElem_of_mem e;have h:=b j zU ω
   unfold pE at h;rw[zZ,zX d]at h
   simpa using h
  rw[this];rfl
 rw[a];have:xs.any p=true:=by
  rw[List.any_eq_true];exact⟨_,cJ ω,c⟩
 rw[this];exact decide_eq_true ω
theorem si(F b d:Nat)(j:bo F)(A:Option Addr)(c:Nat)(xs:List EnL)(p:EnL->Bool)(r:Option Nat)(w:World)(k:xs.length<=3000)(g:bU w A c xs)(i:M1 F b d r w xs p):
  Rt 137 #[.slice A xs.length c,.func (.func F) #[] #[.pointer (some ⟨b,0,none⟩),.pointer (some ⟨d,0,none⟩)]] w (.bool (xs.any p)):=by
 have h:=qs F b d j A c xs p r w k g i;rw[←D4];generalize findFrom (pE xs p) xs.length 0=f at h|-;generalize xs.length=n at h|-;clear g i
 go_enter func137,ntmps137
 go_wp2_with fail;refine h.mono ?_;rintro e w1⟨rfl,a⟩;go_wp2_with fail;go_ret;exact⟨rfl,a⟩
/-! what stays, entry by entry -/
theorem yw{P:Program}(m:Nat)(w:World)(t e ty:TypeId)(z x y:Value)(r:P.underlying t=some (.slice e))(s:∀w,(zeroValue e).run P w=.ok z w)(p:z.cells=#[x,y])(A:x.oneCell'=true)(B:y.oneCell'=true)(g o c:Nat)(a:Array Value)(u:TypeId)(q:w.heap[g]?=some (.cells a u (0,0)))(f:o+m*2<=a.size)(D:0<m):
  ∃zs:List Value,zs.length=m*2/\(Builtin.clear_ #[t] ty #[.slice (some ⟨g,o,none⟩) m c]).run P w=.ok (.tuple #[]) (w.setRow g (a.toList.take o++zs++a.toList.drop (o+m*2)).toArray):=by
 have d:(Builtin.zeroCells z.cells m).size=m*2:=by rw[p];simp[Builtin.zeroCells]
 have i:∀v∈(Builtin.zeroCells z.cells m).toList,v.oneCell'=true:=by
  rw[p];intro v n;obtain⟨j,C,rfl⟩:=List.getElem_of_mem n;simp only[Builtin.zeroCells,Array.getElem_toList]
  rcases Nat.mod_two_eq_zero_or_one j with h|h<;>simp[h,A,B]
 have b:=run_storeCells_at P g o u (Builtin.zeroCells z.cells m).toList 0 a w q (by simpa [d]using f) i
 refine⟨(Builtin.zeroCells z.cells m).toList,by simpa using d,?_⟩
 have l:(Builtin.zeroCells z.cells m).toList.length=m*2:=by simpa using d
 simp only[Nat.add_zero]at b;rw[l]at b;obtain⟨m,rfl⟩:∃k,m=k+1:=⟨m-1,ω⟩
 simp[Builtin.clear_,run_underlying r,s,b]
def nS(xs:List EnL)(p:EnL->Bool)(i j:Nat)(zs:List EnL):Prop:=i<j/\zs.length=xs.length/\zs.take i=(xs.take j).filter (fun x => !p x)/\zs.drop j=xs.drop j
theorem kt{L:List EnL}{j:Nat}(h:j<L.length):L.take (j+1)=L.take j++[L.getD j noL]:=by
 rw[List.take_succ_eq_append_getElem h,zZ,zX h]
 rfl
theorem C9(l:List EnL)(j:Nat):l.drop (j+1)=(l.drop j).drop 1:=by rw[List.drop_drop]
theorem nS.at{xs zs:List EnL}{p:EnL->Bool}{i j:Nat}(h:nS xs p i j zs)(_:j<xs.length):zs.getD j noL=xs.getD j noL:=by
 obtain⟨b,c,d,a⟩:=h;have:=congrArg (fun l:List EnL=>l.getD 0 noL) a
 simpa [zZ,List.getElem?_drop]using this
theorem wG{xs:List EnL}{p:EnL->Bool}{k:Nat}(d:k<xs.length)(b:p (xs.getD k noL)=true)(e:∀j,j<k->p (xs.getD j noL)=false):nS xs p k (k+1) xs:=by
 refine⟨ω,rfl,?_,rfl⟩
 rw[kt d,List.filter_append];have:(xs.take k).filter (fun x => !p x)=xs.take k:=by
  rw[List.filter_eq_self];intro x f;obtain⟨j,c,rfl⟩:=List.getElem_of_mem f;have a:j<k:=by rw[List.length_take]at c;omega
  have h:=e j a;rw[zZ,zX ω]at h
  simpa using h
 rw[this];generalize xs.getD k noL=x at b
 simp[b]
theorem zw{xs zs:List EnL}{p:EnL->Bool}{i j:Nat}(h:nS xs p i j zs)(e:j<xs.length)(a:p (xs.getD j noL)=true):nS xs p i (j+1) zs:=by
 obtain⟨f,b,c,d⟩:=h;refine⟨ω,b,?_,?_⟩
 ·rw[kt e,List.filter_append,c]
  generalize xs.getD j noL=x at a
  simp[a]
 rw[C9 zs j,C9 xs j,d]
theorem zv{xs zs:List EnL}{p:EnL->Bool}{i j:Nat}(h:nS xs p i j zs)(e:j<xs.length)(a:p (xs.getD j noL)=false):nS xs p (i+1) (j+1) (zs.set i (xs.getD j noL)):=by
 obtain⟨g,b,c,d⟩:=h;refine⟨ω,by simpa using b,?_,?_⟩
 ·have f:i<(zs.set i (xs.getD j noL)).length:=by simp;omega
  rw[kt f,kt e,List.filter_append,←c,List.take_set_of_le zT];have:(zs.set i (xs.getD j noL)).getD i noL=xs.getD j noL:=by simp[show i<zs.length by omega]
  rw[this];generalize xs.getD j noL=x at a
  simp[a]
 rw[List.drop_set_of_lt ω,C9 zs j,C9 xs j,d]
theorem ze{xs:List EnL}(x:EnL):∀ {i:Nat},i<xs.length->((cellsE xs).set (i*2) (.slice x.A x.e.pl.length x.c)).set (i*2+1) (.int .i64 x.e.n)=cellsE (xs.set i x):=by
 induction xs with
 |nil=>intro i h;cases h
 |cons y r ih =>
  intro i a;cases i with
  |zero=>simp[cellsE]
  |succ i =>
   rw[show(i+1)*2=i*2+1+1 by omega]
   simp only[cellsE,List.set_cons_succ];rw[ih (by simpa using a)]
theorem a7.putAt{w:World}{g cap:Nat}{xs:List EnL}(h:a7 w g cap xs){i:Nat}(p:i<xs.length){x:EnL}(r:bX w x.A x.c x.e.pl):a7 ((w.setCell ⟨g,i*2,none⟩ (.slice x.A x.e.pl.length x.c)).setCell ⟨g,i*2+1,none⟩ (.int .i64 x.e.n)) g cap (xs.set i x)/\w.grownBy ((w.setCell ⟨g,i*2,none⟩ (.slice x.A x.e.pl.length x.c)).setCell ⟨g,i*2+1,none⟩ (.int .i64 x.e.n)) (some g):=by
 have o:=h.own (base:=0) zU;have f:=o.stored (i*2) (.slice x.A x.e.pl.length x.c);have j:=f.1.stored (i*2+1) (.int .i64 x.e.n);have a:=aS f.2 j.2;refine⟨?_,a⟩;have k:=j.1;rw[ze x p,show xs.length=(xs.set i x).length by simp]at k
 obtain⟨⟨m,l,-⟩,-⟩:=id h;obtain⟨g',d,e,-,q⟩:=u6 k σ fun y b=>(by
  rcases List.mem_or_eq_of_mem_set b with b|rfl
  ·exact(h.2.2.2 y b).grown l a
  exact r.grown l a:bX _ y.A y.c y.e.pl)
 cases e;exact q
theorem Eu(F q1 q2:Nat)(he:bo F)(g c:Nat)(xs:List EnL)(p:EnL->Bool)(w:World)(hn:xs.length<=3000)(V:a7 w g c xs)(hp:M1 F q1 q2 (some g) w xs p):
  Calls prog 91 #[.slice (some ⟨g,0,none⟩) xs.length c,.func (.func F) #[] #[.pointer (some ⟨q1,0,none⟩),.pointer (some ⟨q2,0,none⟩)]] w fun e w'=>e=.returned (.slice (some ⟨g,0,none⟩) (xs.filter fun x => !p x).length c)/\a7 w' g c (xs.filter fun x => !p x)/\w.grownBy w' (some g):=by
 have o:=qs F q1 q2 he (some ⟨g,0,none⟩) c xs p (some g) w hn V.ensV hp;have HR:=aa V
 rcases findFrom_cases (pE xs p) xs.length 0 with⟨Y,h2⟩|⟨k,Y,_,h3,h4,h5⟩
 ·have hf:(xs.filter fun x => !p x)=xs:=by
   rw[List.filter_eq_self];intro x hx;obtain⟨j,hj,rfl⟩:=List.getElem_of_mem hx;have h:=h2 j zU ω
   unfold pE at h;rw[zZ,zX hj]at h
   simpa using h
  rw[Y]at o;rw[hf];generalize xs.length=n at o;clear V hp Y h2 hf
  go_enter func91,ntmps91
  go_wp2_with fail;refine o.mono ?_;rintro e w1⟨rfl,s⟩;go_wp2_with fail;go_ret;exact⟨rfl,HR.o.later s,aC s⟩
 have hk:k<xs.length:=ω;have ac:=aa (wG hk h4 fun j hj=>h5 j zU hj)
 have HP:=aa hp;have ak:=V.2.2.1;have ai:=V.2.1;rw[Y]at o;obtain⟨n,S⟩:=ar xs.length;have M:=aa S;rw[S]at o hk hn ai|-;have ao:(k:Int)<(n:Int):=ω;have ap:(n:Int)<=3000:=ω;have aq:((k:Int) == -1)=false:=by
  have:(k:Int)≠-1:=ω;simp only[beq_eq_false_iff_ne];exact this
 clear V hp Y h3 h4 h5 S;unfold bo at he
 go_enter func91,ntmps91
 go_wp2_with fail;refine o.mono ?_;rintro e w1⟨rfl,s⟩;have ab:=aa (And.intro (HR.o.later s) (aC (r:=some g) s));clear s o;go_wp2_with fail
 go_loopg [5,6] (n-(k+1)) (fun gg s5 s6 wr =>∃(i j:Nat) (zs:List EnL),j<=n/\gg=n-j/\s5=.int .i64 i/\s6=.int .i64 j/\Hid (nS xs p i j zs)/\Hid (a7 wr g c zs/\w.grownBy wr (some g)))
 case atStart=>exact⟨k,k+1,xs,ω,rfl,rfl,by go_num,ac,ab⟩
 case round =>
  obtain⟨i,j,zs,hj,rfl,rfl,rfl,K,v⟩:=hrel;have am:=K.o.1;have al:g<wr.heap.size:=v.o.1.lt;have au:zs.length=n:=by rw[K.o.2.1];exact M.o
  by_cases B:j<n
  ·have an:(j:Int)<(n:Int):=ω;have ag:(i:Int)<(n:Int):=ω;obtain⟨e0,e1⟩:=v.o.1.ens.at (k:=j) ω
   rw[K.o.at (by rw[M.o];exact B),Nat.zero_add]at e0 e1
   have t:=fun w' h=>HP.o (xs.getD j noL) w' (cJ (by rw[M.o];exact B)) h
   have G:bX wr (xs.getD j noL).A (xs.getD j noL).c (xs.getD j noL).e.pl:=by
    rw[←K.o.at (by rw[M.o];exact B)]
    exact v.o.1.2.2.2 _ (cJ ω)
   have D:=fun h=>zv K.o (by rw[M.o];exact B) h
   have E:=fun h=>zw K.o (by rw[M.o];exact B) h
   generalize xs.getD j noL=x at e0 e1 t G D E;obtain⟨y,H⟩:=ar (wr.alloc (.cells #[.slice x.A x.e.pl.length x.c,.int .i64 x.e.n] 45));have C:Bl wr y:=by rw[←H];go_grown
   have T:y.heap[wr.heap.size]?=some (.cells #[.slice x.A x.e.pl.length x.c,.int .i64 x.e.n] 45 (0,0)):=by rw[←H];exact heap_alloc_new ..
   have U:wr.heap.size<y.heap.size:=by rw[←H];simp
   have a:=t y (aS v.o.2 (aC C));have af:wr.heap.size≠g:=ω;have d:Hid (∀w2,Bl y w2->w2.cell? ⟨wr.heap.size,0,none⟩=some (.slice x.A x.e.pl.length x.c)/\w2.cell? ⟨wr.heap.size,1,none⟩=some (.int .i64 x.e.n)):=fun w2 Q=>by
    have h:=(Q.block _ U).trans T;exact⟨(Lib.cell_of_heap h 0).trans rfl,(Lib.cell_of_heap h 1).trans rfl⟩
   have J:=aa C;have ae:=aa G;obtain⟨l0,l1⟩:=d.o y (Below.refl _ y);cases hpx:p x
   ·rw[hpx]at a
    have L:=aa (D hpx);have q:Hid (∀w2,Bl y w2->a7 ((w2.setCell ⟨g,i*2,none⟩ (.slice x.A x.e.pl.length x.c)).setCell ⟨g,i*2+1,none⟩ (.int .i64 x.e.n)) g c (zs.set i x)/\w.grownBy ((w2.setCell ⟨g,i*2,none⟩ (.slice x.A x.e.pl.length x.c)).setCell ⟨g,i*2+1,none⟩ (.int .i64 x.e.n)) (some g)):=fun w2 Q=>by
     have b:=ad J.o Q;obtain⟨r1,r2⟩:=(v.o.1.later b).putAt (i:=i) ω (ae.o.later b)
     exact⟨r1,aS (aS v.o.2 (aC b)) r2⟩
    have I:Hid (∀w2,Bl y w2->(∃u,w2.cell? ⟨g,i*2,none⟩=some u)/\(∃u,w2.cell? ⟨g,i*2+1,none⟩=some u)/\w2.frozen? ⟨g,i*2,none⟩=false/\w2.frozen? ⟨g,i*2+1,none⟩=false):=fun w2 Q=>by
     have h:=v.o.1.later (ad J.o Q);exact⟨Option.isSome_iff_exists.1 (h.full ω),Option.isSome_iff_exists.1 (h.full ω),h.frozen _,h.frozen _⟩
    generalize x.e.pl.length=m at e0 H a d q l0;generalize x.e.n=N at e1 H a d q l1;clear hpx D E t G C T U;go_wp2_with fail;refine a.mono ?_;rintro e w2⟨rfl,b⟩;obtain⟨b0,b1⟩:=d.o w2 b;obtain⟨⟨o0,k0⟩,⟨o1,k1⟩,f0,f1⟩:=I.o w2 b;have f:=aa (q.o w2 b);clear b a q I d;go_wp2_with fail
    go_roundg (n-(j+1))
    case measure=>omega
    case rel=>exact⟨i+1,j+1,_,ω,rfl,by go_num,by go_num,L,f⟩
   rw[hpx]at a;have L:=aa (E hpx);have X:Hid (∀w2,Bl y w2->a7 w2 g c zs/\w.grownBy w2 (some g)):=fun w2 Q=>by
    have b:=ad J.o Q;exact⟨v.o.1.later b,aS v.o.2 (aC b)⟩
   generalize x.e.pl.length=m at e0 H a d l0;generalize x.e.n=N at e1 H a d l1;clear hpx D E t G C T U;go_wp2_with fail;refine a.mono ?_;rintro e w2⟨rfl,b⟩;have f:=aa (X.o w2 b);clear b a X d;go_wp2_with fail
   go_roundg (n-(j+1))
   case measure=>omega
   case rel=>exact⟨i,j+1,_,ω,rfl,rfl,by go_num,L,f⟩
  have ah:j=n:=ω;subst ah;have ag:(i:Int)<(j:Int):=ω;have aj:(j:Int)<=(c:Int):=ω;obtain⟨⟨O,Z,PT,PU⟩,-,-,PW⟩:=id v.o.1;have R:(xs.filter fun x => !p x)=zs.take i:=by
   rw[K.o.2.2.1,List.take_of_length_le (by rw[M.o];exact zT)]
  have PV:(xs.filter fun x => !p x).length=i:=by rw[R,List.length_take];omega
  obtain⟨zz,PX,t⟩:=yw (P:=prog) (j-i) wr 25 45 0 (.agg #[.slice none 0 0,.int .i64 0]) (.slice none 0 0) (.int .i64 0) underlying25 zeroValue45 rfl rfl rfl g (i*2) (c-i) O 45 Z ω ω
  obtain⟨W,hW⟩:=ar (wr.setRow g (O.toList.take (i*2)++zz++O.toList.drop (i*2+(j-i)*2)).toArray);rw[hW]at t;have f:Hid ((xs.filter fun x => !p x).length=i/\a7 W g c (xs.filter fun x => !p x)/\w.grownBy W (some g)):=by
   refine⟨PV,?_,by rw[←hW];exact aS v.o.2 (dK ..)⟩
   rw[←hW,R];refine v.o.1.lay ?_ ?_ (by rw[List.length_take];omega) fun y H=>PW y (List.mem_of_mem_take H)
   ·simp only[List.length_append,List.length_take,List.length_drop,PX,Array.length_toList,PT];omega
   have z:=congrArg (fun l:List Value=>l.take (i*2)) PU
   simp only[List.take_take]at z;rw[show min (i*2) (zs.length*2)=i*2 by omega,jK]at z
   rw[show(zs.take i).length=i by rw[List.length_take];omega,List.append_assoc,List.take_append_of_le_length (by simp;omega),List.take_take,Nat.min_self]
   exact z
  clear PU PW PT Z R PV hW PX;go_wp2_with fail;go_ret;obtain⟨q1,q2,q3⟩:=f.o;exact⟨by rw[q1];rfl,q2,q3⟩
theorem yK{D:Nat->Dm}{n:Nat}(d:(ag D n).2.2=0){i:Nat}(e:i<n):(D i).name.size<=8/\∀j,j<(D i).n->((D i).mem j).name.size<=8/\((D i).mem j).formula.size<=100:=by
 have b:=(aZ d).2 i e;have c:∀s,nameErr s=0->s.size<=8:=fun s h=>by
  unfold nameErr at h
  split at h
  ·cases h
  omega
 refine⟨c _ ?_,fun j f=>?_⟩
 ·unfold am at b
  split at b
  ·cases b
  rename_i h;simpa using h
 have a:=(aq b).2.2.2 j f;unfold aQ at a
 split at a
 ·cases a
 rename_i h0
 refine⟨c _ (by simpa using h0),?_⟩
 split at a
 ·cases a
 split at a
 ·cases a
 split at a
 ·cases a
 split at a
 ·cases a
 split at a
 ·cases a
 omega
theorem Nu{W w':World}{q r s:Nat}{g n c:Nat}{v:Value}(h:q<W.heap.size/\q≠g/\r<W.heap.size/\r≠g/\W.cell? ⟨q,0,none⟩=some (.slice (some ⟨g,0,none⟩) n c)/\W.cell? ⟨r,s,none⟩=some v)(b:W.grownBy w' (some g)):W.grownBy w' (some g)/\w'.cell? ⟨q,0,none⟩=some (.slice (some ⟨g,0,none⟩) n c)/\w'.cell? ⟨r,s,none⟩=some v:=by
 have d:w'.heap[q]?=W.heap[q]?:=b.block q h.1 fun e=>h.2.1 (by simpa using e)
 have f:w'.heap[r]?=W.heap[r]?:=b.block r h.2.2.1 fun e=>h.2.2.2.1 (by simpa using e)
 exact⟨b,(World.cell?_of_block (a:=⟨q,0,none⟩) d).trans h.2.2.2.2.1,(World.cell?_of_block (a:=⟨r,s,none⟩) f).trans h.2.2.2.2.2⟩
theorem Nv{W w':World}{q g:Nat}{u v:Value}(h:q<W.heap.size/\q≠g/\W.cell? ⟨q,0,none⟩=some u/\W.cell? ⟨q,3,none⟩=some v)(b:W.grownBy w' (some g)):W.grownBy w' (some g)/\w'.cell? ⟨q,0,none⟩=some u/\w'.cell? ⟨q,3,none⟩=some v:=by
 have c:w'.heap[q]?=W.heap[q]?:=b.block q h.1 fun e=>h.2.1 (by simpa using e)
 exact⟨b,(World.cell?_of_block (a:=⟨q,0,none⟩) c).trans h.2.2.1,(World.cell?_of_block (a:=⟨q,3,none⟩) c).trans h.2.2.2⟩
structure FrR(w wr:World)(ob g cg k n:Nat)(D:Nat->Dm)(A:Nat->Option Addr)(C:Nat->Nat):Prop where
 fr:CQ w wr g cg k n D A C
 o:wr.heap[ob]?=some (.cells #[.slice (some ⟨g,0,none⟩) n cg] 24 (0,0))
 res:wr.heap[w.heap.size+1]?=some (.cells #[.slice none 0 0] 24 (0,0))
 low:Bl w wr
theorem FrR.later{w wr w':World}{ob g b k n:Nat}{D:Nat->Dm}{A:Nat->Option Addr}{C:Nat->Nat}(h:FrR w wr ob g b k n D A C)(a:Bl wr w'):FrR w w' ob g b k n D A C :=
 ⟨h.fr.later a,(a.block _ (zY h.o).1).trans h.o,(a.block _ (zY h.res).1).trans h.res,ad h.low a⟩
theorem FrR.off{w wr:World}{ob g c k n:Nat}{D:Nat->Dm}{A:Nat->Option Addr}{C:Nat->Nat}(h:FrR w wr ob g c k n D A C):ob≠g/\w.heap.size+1≠g/\w.heap.size<=g:=by
 obtain⟨G,C',f,-⟩:=h.fr;obtain⟨b1,-,-,-,d,b⟩:=aG f;refine⟨fun e=>?_,fun e=>?_,b1⟩
 ·have a:=h.o
  rw[e,b]at a;simp only[Option.some.injEq,Obj.cells.injEq]at a;exact absurd a.2.1 (by decide)
 have a:=h.res;rw[e,b]at a;simp only[Option.some.injEq,Obj.cells.injEq]at a;exact absurd a.2.1 (by decide)
theorem FrR.name{w wr:World}{ob g a k n:Nat}{D:Nat->Dm}{A:Nat->Option Addr}{C:Nat->Nat}(h:FrR w wr ob g a k n D A C)(b:k<n):FrR w (wr.setCell ⟨g,k*3,none⟩ (.string (D k).name)) ob g a k n D A C :=
 ⟨h.fr.name b,(ae _ _ _ _ _ h.off.1).trans h.o,(ae _ _ _ _ _ h.off.2.1).trans h.res,h.low.setCell h.off.2.2 _⟩
theorem FrR.put{w wy wr:World}{ob g b k n gm cm:Nat}{D:Nat->Dm}{A:Nat->Option Addr}{C:Nat->Nat}(h:FrR w wy ob g b k n D A C)(d:k<n)(c:Bl wy wr)(e:wr.ownsRow wy.heap.size 64 4 (.slice (some ⟨gm,0,none⟩) (D k).n cm) (D k).n (cellsMb (D k).mem (D k).n)):FrR w (wr.setCell ⟨g,k*3+2,none⟩ (.slice (some ⟨gm,0,none⟩) (D k).n cm)) ob g b (k+1) n D A C:=by
 have a:=h.later c;exact⟨h.fr.put d c h.low.size e,(ae _ _ _ _ _ a.off.1).trans a.o,(ae _ _ _ _ _ a.off.2.1).trans a.res,a.low.setCell a.off.2.2 _⟩
theorem qP(A0:Option Addr)(cap n:Nat)(D:Nat->Dm)(A:Nat->Option Addr)(C:Nat->Nat)(w:World)(hE:(ag D n).2.2=0)(hM:aL w A0 cap n D A C):
  Calls prog 20 #[.agg #[.slice A0 n cap]] w fun e w'=>(∃g c G C',e=.returned (.agg #[.slice (some ⟨g,0,none⟩) n c])/\OwD w' w.heap.size g c n D G C')/\Bl w w':=by
 obtain⟨bb,aX,-,hd⟩:=ao hE;have aD:=fun i (hi:i<n)=>yK hE hi
 obtain⟨aA,h0|⟨b,o,rfl,PW⟩⟩:=hM
 ·omega
 have ai:Hid (∀w',Bl w w'->Calls prog 47 #[.slice (some ⟨b,o,none⟩) n cap] w' fun e ab=>(∃g c',e=.returned (.slice (some ⟨g,0,none⟩) n c')/\ab.ownsRow w'.heap.size 67 3 (.slice (some ⟨g,0,none⟩) n c') n (cellsDo D A C n))/\Bl w' ab):=fun w' hB=>zq b o cap n D A C w' ω aX (PW.later hB)
 have O:Hid (∀k w',k<n->Bl w w'->∃bm om,A k=some ⟨bm,om,none⟩/\Calls prog 49 #[.slice (some ⟨bm,om,none⟩) (D k).n (C k)] w' fun e ab=>(∃g c',e=.returned (.slice (some ⟨g,0,none⟩) (D k).n c')/\ab.ownsRow w'.heap.size 64 4 (.slice (some ⟨g,0,none⟩) (D k).n c') (D k).n (cellsMb (D k).mem (D k).n))/\Bl w' ab):=fun k w' hk hB=>by
  obtain⟨-,-,-,-,h0|⟨bm,om,hA,aM⟩⟩:=(PW.later hB).2 k hk
  ·have:=(hd k hk).1;omega
  exact⟨bm,om,hA,Bc bm om (C k) (D k).n (D k).mem w' (hd k hk).1 (hd k hk).2 aM⟩
 have am:Hid (∀s:ByteArray,s.size<=100->∀w',Rt 48 #[.string s] w' (.string s)):=fun s hs w'=>d5 s w' ω
 have an:=aa aD;have bc:(n:Int)<=4:=ω;have aJ:Hid (∀k,k<n->(D k).n<=12):=fun k hk=>(hd k hk).2
 obtain⟨W,hW⟩:=ar ((w.alloc (.cells #[.slice (some ⟨b,o,none⟩) n cap] 24)).alloc (.cells #[.slice none 0 0] 24));have ap:Bl w W:=by rw[←hW];go_grown
 have a5:W.heap.size=w.heap.size+2:=by rw[←hW];simp
 have k1:W.heap[w.heap.size]?=some (.cells #[.slice (some ⟨b,o,none⟩) n cap] 24 (0,0)):=by rw[←hW,Below.heap_alloc _ _ _ σ];exact heap_alloc_new ..
 have k2:W.heap[w.heap.size+1]?=some (.cells #[.slice none 0 0] 24 (0,0)):=by
  have:=heap_alloc_new (w.alloc (.cells #[.slice (some ⟨b,o,none⟩) n cap] 24)) (.cells #[.slice none 0 0] 24);rw[show(w.alloc (.cells #[.slice (some ⟨b,o,none⟩) n cap] 24)).heap.size=w.heap.size+1 by simp]at this
  rw[←hW];exact this
 have c1:W.cell? ⟨w.heap.size,0,none⟩=some (.slice (some ⟨b,o,none⟩) n cap):=(Lib.cell_of_heap k1 0).trans rfl;have M:=aa ap;have al:=aa k2;clear PW hd hE k1 k2 ap aD
 go_enter func20,ntmps20
 go_wp2_with fail;refine(ai.o W M.o).mono ?_;rintro e w1⟨⟨g,t,rfl,aq⟩,R⟩;have aN:=R.size;have aI:=aa (ad M.o R);have K1:w1.heap[w.heap.size+1]?=some (.cells #[.slice none 0 0] 24 (0,0)):=(R.block _ ω).trans al.o
 obtain⟨w2,af⟩:=ar (w1.alloc (.cells #[.slice (some ⟨g,0,none⟩) n t] 24));have S:Bl w1 w2:=by rw[←af];go_grown
 have bf:w2.heap.size=w1.heap.size+1:=by rw[←af];simp
 have ac:w2.heap[w1.heap.size]?=some (.cells #[.slice (some ⟨g,0,none⟩) n t] 24 (0,0)):=by rw[←af];exact heap_alloc_new ..
 have Y:Hid (FrR w w2 w1.heap.size g t 0 n D A C):=by
  refine⟨⟨fun _=>0,fun _=>0,?_,fun i hi=>ω,fun i j hi=>ω⟩,ac,(S.block _ ω).trans K1,ad aI.o S⟩
  have h5:=ko (ak aq S) M.o.size
  rwa [i7 (A':=fun i=>if i<0 then some ⟨0,0,none⟩else A i) (C':=fun i=>if i<0 then 0 else C i) n fun i hi=>⟨by simp,by simp⟩]at h5
 have c2:w2.cell? ⟨w1.heap.size,0,none⟩=some (.slice (some ⟨g,0,none⟩) n t):=(Lib.cell_of_heap ac 0).trans rfl;clear R aq S K1 ac ai M al c1 hW;go_wp2_with fail;clear c2;generalize be:w1.heap.size=ob at Y
 go_loopg [16] n (fun gg a1 wr =>∃k:Nat,k<=n/\gg=n-k/\a1=.int .i64 k/\Hid (FrR w wr ob g t k n D A C))
 case atStart=>exact⟨0,zU,rfl,rfl,Y⟩
 case round =>
  obtain⟨k,hk,rfl,rfl,x⟩:=hrel;have aY:ob<wr.heap.size:=(zY x.o.o).1
  by_cases p:k<n
  ·have ba:(k:Int)<(n:Int):=ω;obtain⟨a8,a7,aP,e0,e1,K,aT⟩:=x.o.fr.row p;have aO:(n:Int)<=(t:Int):=ω;obtain⟨bm,om,PU,-⟩:=O.o k wr p x.o.low;have J:Hid (∀w',Bl w w'->Calls prog 49 #[.slice (some ⟨bm,om,none⟩) (D k).n (C k)] w' fun e ab=>(∃g c',e=.returned (.slice (some ⟨g,0,none⟩) (D k).n c')/\ab.ownsRow w'.heap.size 64 4 (.slice (some ⟨g,0,none⟩) (D k).n c') (D k).n (cellsMb (D k).mem (D k).n))/\Bl w' ab):=fun w' hB=>by
    obtain⟨a4,bi,T,h⟩:=O.o k w' p hB;rw[PU]at T;cases T;exact h
   rw[PU]at K;obtain⟨y,hy⟩:=ar (wr.alloc (.cells #[.string (D k).name,.int .i64 (D k).solve,.slice (some ⟨bm,om,none⟩) (D k).n (C k)] 67));have Q:Bl wr y:=by rw[←hy];go_grown
   have E:y.heap[wr.heap.size]?=some (.cells #[.string (D k).name,.int .i64 (D k).solve,.slice (some ⟨bm,om,none⟩) (D k).n (C k)] 67 (0,0)):=by rw[←hy];exact heap_alloc_new ..
   have a0:y.heap.size=wr.heap.size+1:=by rw[←hy];simp
   have q:Hid (ob<y.heap.size/\ob≠g/\wr.heap.size<y.heap.size/\wr.heap.size≠g/\y.cell? ⟨ob,0,none⟩=some (.slice (some ⟨g,0,none⟩) n t)/\y.cell? ⟨wr.heap.size,0,none⟩=some (.string (D k).name)):=⟨ω,x.o.off.1,ω,ω,(Lib.cell_of_heap (x.o.later Q).o 0).trans rfl,(Lib.cell_of_heap E 0).trans rfl⟩
   have H:Hid (∀w3,Bl y w3->w3.cell? ⟨g,k*3,none⟩=some (.string (D k).name)/\w3.frozen? ⟨g,k*3,none⟩=false):=fun w3 a=>by
    obtain⟨-,-,-,x0,-,-,xf⟩:=(x.o.later (ad Q a)).fr.row p;exact⟨x0,xf _⟩
   have f:Hid (∀w3,Bl y w3->FrR w (w3.setCell ⟨g,k*3,none⟩ (.string (D k).name)) ob g t k n D A C/\(w3.setCell ⟨g,k*3,none⟩ (.string (D k).name)).heap[wr.heap.size]?=some (.cells #[.string (D k).name,.int .i64 (D k).solve,.slice (some ⟨bm,om,none⟩) (D k).n (C k)] 67 (0,0))):=fun w3 a=>⟨(x.o.later (ad Q a)).name p,(ae _ _ _ _ _ ω).trans ((a.block _ ω).trans E)⟩
   have aS:=(an.o k p).1;have PT:=aa (an.o k p).2;have B:Hid (∀w',Rt 48 #[.string (D k).name] w' (.string (D k).name)):=am.o _ ω
   have ax:=aJ.o k p;have a3:=aa p;obtain⟨d,PY⟩:=ar (D k);have aj:=aa PY;rw[PY]at e0 e1 K hy E J q H f PT B ax;obtain⟨s1,s2,u,l⟩:=d;simp only at e0 e1 K hy E J q H f PT B ax;generalize C k=ck at K hy E J q H f;have aF:wr.heap.size<y.heap.size:=ω;clear Q E PU PY O aT aS;go_wp2_with fail;clear e0 e1 K;generalize wr.heap.size=bd at q f aF
   go_region_held3 (fun w'=>y.grownBy w' (some g)/\w'.cell? ⟨ob,0,none⟩=some (.slice (some ⟨g,0,none⟩) n t)/\w'.cell? ⟨bd,0,none⟩=some (.string s1))
    ((refine Nu q.o ?_;(repeat (first|exact bP _ _|assumption|refine cX ?_|refine eI ?_ _ _));done))
    (first|(go_at_call 48;refine(B.o _).mono ?_;rintro e w3⟨rfl,a⟩;have m:=ad (W0:=y) γ a;have PX:y.grownBy w3 (some g):=aC m;obtain⟨d0,f0⟩:=H.o w3 m;have L:=aa m;have aB:=m.size;clear a m))
   clear d0 f0 PX;have hN:=f.o w3 L.o;obtain⟨y2,aE⟩:=ar (w3.setCell ⟨g,k*3,none⟩ (.string s1));rw[aE]at hN;have P:=aa hN.1;have c2:y2.cell? ⟨bd,2,none⟩=some (.slice (some ⟨bm,om,none⟩) u ck):=(Lib.cell_of_heap hN.2 2).trans rfl;clear hN f H q B hy a0 aF aB L;go_wp2_with fail;clear aE;refine(J.o y2 P.o.low).mono ?_;rintro e wc⟨⟨gm,cm,rfl,au⟩,av⟩;have aK:=aa (And.intro av au);have aR:(u:Int)<=12:=ω;clear av au J c2;go_wp2_with fail
   go_loopg [34] u (fun gg a2 wq =>∃j:Nat,j<=u/\gg=u-j/\a2=.int .i64 j/\Hid (Bl y2 wq/\wq.ownsRow y2.heap.size 64 4 (.slice (some ⟨gm,0,none⟩) u cm) u (cellsMb l u)))
   case atStart=>exact⟨0,zU,rfl,rfl,aK⟩
   case round =>
    obtain⟨j,hj,rfl,rfl,F⟩:=hrel
    by_cases ay:j<u
    ·have a9:(j:Int)<(u:Int):=ω;obtain⟨V,aU,a6,-,-⟩:=aG F.o.2;have aQ:(u:Int)<=(cm:Int):=ω;obtain⟨x0,x1,x2,x3⟩:=cF l u j ay;have e0:=(F.o.2.cellAt (j*4) ω).trans x0
     have e1:=(F.o.2.cellAt (j*4+1) ω).trans x1
     have K:=(F.o.2.cellAt (j*4+2) ω).trans x2
     have e3:=(F.o.2.cellAt (j*4+3) ω).trans x3
     obtain⟨z,hz⟩:=ar (wr.alloc (.cells #[.string (l j).name,.int .i64 (l j).parent,.int .i64 (l j).sign,.string (l j).formula] 64));have PV:Bl wr z:=by rw[←hz];go_grown
     have ah:z.heap[wr.heap.size]?=some (.cells #[.string (l j).name,.int .i64 (l j).parent,.int .i64 (l j).sign,.string (l j).formula] 64 (0,0)):=by rw[←hz];exact heap_alloc_new ..
     have bh:z.heap.size=wr.heap.size+1:=by rw[←hz];simp
     have aH:wr.heap.size<z.heap.size:=ω;have N:Hid (wr.heap.size<z.heap.size/\wr.heap.size≠gm/\z.cell? ⟨wr.heap.size,0,none⟩=some (.string (l j).name)/\z.cell? ⟨wr.heap.size,3,none⟩=some (.string (l j).formula)):=⟨aH,ω,(Lib.cell_of_heap ah 0).trans rfl,(Lib.cell_of_heap ah 3).trans rfl⟩
     have X:Hid (∀w3,Bl z w3->w3.cell? ⟨gm,j*4,none⟩=some (.string (l j).name)/\w3.cell? ⟨gm,j*4+3,none⟩=some (.string (l j).formula)/\w3.frozen? ⟨gm,j*4,none⟩=false/\w3.frozen? ⟨gm,j*4+3,none⟩=false):=fun w3 a=>by
      have h:=ak F.o.2 (ad PV a);exact⟨(h.cellAt (j*4) ω).trans x0,(h.cellAt (j*4+3) ω).trans x3,h.frozenAt _,h.frozenAt _⟩
     have I:Hid (∀w3,Bl z w3->Bl y2 ((w3.setCell ⟨gm,j*4,none⟩ (.string (l j).name)).setCell ⟨gm,j*4+3,none⟩ (.string (l j).formula))/\((w3.setCell ⟨gm,j*4,none⟩ (.string (l j).name)).setCell ⟨gm,j*4+3,none⟩ (.string (l j).formula)).ownsRow y2.heap.size 64 4 (.slice (some ⟨gm,0,none⟩) u cm) u (cellsMb l u)):=fun w3 a=>by
      have hb:=ad PV a;exact⟨((ad F.o.1 hb).setCell V _).setCell V _,uQ (uQ (ak F.o.2 hb) x0) x3⟩
     have hs:=PT.o j ay;have Z:Hid (∀s:ByteArray,s=(l j).name\/s=(l j).formula->∀w',Rt 48 #[.string s] w' (.string s)):=fun s aZ=>am.o s (by rcases aZ with rfl|rfl<;>omega)
     have az:(j:Int)<=12:=ω;generalize (l j).name=t1 at e0 hz N X I Z;generalize (l j).parent=t2 at e1 hz;generalize (l j).sign=t3 at K hz;generalize (l j).formula=t4 at e3 hz N X I Z;clear PV ah x0 x1 x2 x3 hs;go_wp2_with fail;clear e0 e1 K e3;generalize wr.heap.size=bx at N aH
     go_region_held3 (fun w'=>z.grownBy w' (some gm)/\w'.cell? ⟨bx,0,none⟩=some (.string t1)/\w'.cell? ⟨bx,3,none⟩=some (.string t4))
      ((refine Nv N.o ?_;(repeat (first|exact bP _ _|assumption|refine cX ?_|refine eI ?_ _ _));done))
      (first|(go_at_call 48;refine(Z.o _ (by first|exact Or.inl rfl|exact Or.inr rfl) _).mono ?_;rintro e w3⟨rfl,a⟩;have m:=ad (W0:=z) γ a;have PX:z.grownBy w3 (some gm):=aC m;obtain⟨d0,d1,f0,f1⟩:=X.o w3 m;have L:=aa m;have aB:=m.size;clear a))
     all_goals (have r:=aa (I.o w3 L.o))
     all_goals clear d0 d1 f0 f1 PX m
     all_goals go_wp2_with fail
     all_goals go_roundg (u-(j+1))
     all_goals first|(exact⟨j+1,ω,rfl,by go_num,r⟩)|omega
    have aV:j=u:=ω;subst aV;obtain⟨x0,x1,x2,x3,x4,x5,xf⟩:=(P.o.later F.o.1).fr.row p;have c3:wr.cell? ⟨ob,0,none⟩=some (.slice (some ⟨g,0,none⟩) n t):=(Lib.cell_of_heap (P.o.later F.o.1).o 0).trans rfl;have f3:=xf (k*3+2);have aw:(n:Int)<=(t:Int):=ω;have r:Hid (FrR w (wr.setCell ⟨g,k*3+2,none⟩ (.slice (some ⟨gm,0,none⟩) j cm)) ob g t (k+1) n D A C):=by
     have h:=P.o.put p F.o.1 (gm:=gm) (cm:=cm) (by rw[aj.o];exact F.o.2)
     rw[aj.o]at h;exact h
    clear x3 x4 xf;go_wp2_with fail
    go_roundg (n-(k+1))
    case measure=>omega
    case rel=>exact⟨k+1,ω,rfl,by go_num,r⟩
  have aW:k=n:=ω;subst aW;obtain⟨G,C',U⟩:=x.o.fr.all;have c3:wr.cell? ⟨ob,0,none⟩=some (.slice (some ⟨g,0,none⟩) k t):=(Lib.cell_of_heap x.o.o 0).trans rfl;have c4:wr.cell? ⟨w.heap.size+1,0,none⟩=some (.slice none 0 0):=(Lib.cell_of_heap x.o.res 0).trans rfl;have f4:=Lib.frozen_of_heap x.o.res 0;have bg:w.heap.size+1<wr.heap.size:=(zY x.o.res).1;have r:Hid (OwD (wr.setCell ⟨w.heap.size+1,0,none⟩ (.slice (some ⟨g,0,none⟩) k t)) w.heap.size g t k D G C'/\Bl w (wr.setCell ⟨w.heap.size+1,0,none⟩ (.slice (some ⟨g,0,none⟩) k t))):=by
   refine⟨U.keep fun b cs e hb hg he=>ae _ _ _ _ _ fun K=>?_,x.o.low.setCell (by show _<=w.heap.size+1;omega) _⟩
   rw[K,x.o.res]at hg;simp only[Option.some.injEq,Obj.cells.injEq]at hg
   rcases he with rfl|rfl
   ·exact absurd hg.2.1 (by decide)
   exact absurd hg.2.1 (by decide)
  clear U O Y;go_wp2_with fail;have hq:=World.cell?_setCell_same wr ⟨w.heap.size+1,0,none⟩ (.slice (some ⟨g,0,none⟩) k t) c4;refine bodyPost_ret (v:=.agg #[.slice (some ⟨g,0,none⟩) k t]) (by simp[results,results20,go_sem,hq]) rfl ⟨⟨g,t,G,C',rfl,r.o.1⟩,r.o.2⟩
end Go.Proofs.YtjfampgnhccodaaGreatDoor
