/- What tallysame.Place a -/
import Derived.Test.YtjfampgnhccodaaGreatDoorShelfJ
import Derived.Test.YtjfampgnhccodaaGreatDoorJTBG
import Derived.Test.YtjfampgnhccodaaGreatDoorJTBJ
namespace Go.Proofs.YtjfampgnhccodaaGreatDoor
open Tryz ChangeShapes WideShapes ChangeAt RowKit Go Deep
set_option maxRecDepth 99999
set_option maxHeartbeats 0
theorem B9{a b:List Int}(e:a.length=b.length){k:Nat}(f:a.length<=k)(h:∀j,j<k->a.getD j 0=b.getD j 0):a=b:=by
 apply List.ext_getElem e;intro i c d;have:=h i ω
 simpa [List.getD,c,d]using this
theorem B8(A B:Option Addr)(M N:Nat)(a b:List Int)(w:World)(R:a.length<=4)(O:de w A M a)(P:de w B N b):Rt 44 #[.slice A a.length M,.slice B b.length N] w (.bool (decide (a=b))):=by
 by_cases p:a.length=b.length
 ·obtain⟨U,F|⟨g,o,rfl,G,i⟩⟩:=O
  ·subst F
   have s:b=[]:=List.eq_nil_of_length_eq_zero p.symm;subst s;simp only[List.length_nil]
   go_enter func44,ntmps44
   go_wp2_with fail;refine wp_loop_rounds 1 ?_;rw[rounds_succ];go_wp2_with fail;go_ret;exact⟨rfl,zS⟩
  obtain⟨u,F|⟨g',o',rfl,t,c⟩⟩:=P
  ·subst F
   have s:a=[]:=List.eq_nil_of_length_eq_zero p;subst s;simp only[List.length_nil]
   go_enter func44,ntmps44
   go_wp2_with fail;refine wp_loop_rounds 1 ?_;rw[rounds_succ];go_wp2_with fail;go_ret;exact⟨rfl,zS⟩
  have J:=aa i;have r:Hid (∀j,j<a.length->w.cell? ⟨g',o'+j,none⟩=some (.int .i64 (b.getD j 0))):=fun j z=>c j ω
  have C:Hid (∀k,a.length<=k->(∀j,j<k->a.getD j 0=b.getD j 0)->decide (a=b)=true):=fun k Q h=>decide_eq_true (B9 p Q h)
  have K:Hid (∀k,a.getD k 0≠b.getD k 0->decide (a=b)=false):=fun k h=>decide_eq_false fun e=>h (by rw[e])
  rw[←p];rw[←p]at u;generalize ab:a.length=n at R U u J r C;generalize decide (a=b)=res at C K;clear i c ab p;have W:(n:Int)<=4:=ω;go_enter func44,ntmps44
  go_wp2_with fail
  go_loopg [5] n (fun gg s5 wr =>∃(k:Nat),k<=n/\gg=n-k/\s5=.int .i64 k/\(∀j,j<k->a.getD j 0=b.getD j 0)/\Bl w wr)
  case atStart=>exact⟨0,zU,rfl,rfl,fun j z=>absurd z (Nat.not_lt_zero _),zS⟩
  case round =>
   obtain⟨k,Q,rfl,rfl,l,d⟩:=hrel;have q:=aa d;have L:=aa l;clear l
   by_cases v:k<n
   ·have V:(k:Int)<(n:Int):=ω;have T:=aM d G (J.o k v);have I:=aM d t (r.o k v)
    by_cases f:a.getD k 0=b.getD k 0
    ·have E:=aa f
     rw[←f]at I;generalize a.getD k 0=x at T I;clear d f;go_wp2_with fail
     go_quiet (fail)
     go_wp2_with fail
     go_roundg (n-(k+1))
     case measure=>omega
     case rel =>
      refine⟨k+1,ω,rfl,by go_num,fun j z=>?_,aj q.o _⟩
      rcases Nat.lt_succ_iff_lt_or_eq.1 z with s|rfl
      ·exact L.o j s
      exact E.o
    have D:=aa (K.o k f);generalize a.getD k 0=x at T f;generalize b.getD k 0=y at I f;clear d;go_wp2_with fail
    go_quiet (fail)
    go_wp2_with fail;go_ret;rw[D.o];exact⟨rfl,aj q.o _⟩
   have H:k=n:=ω;subst H;have D:Hid (res=true):=C.o k zT L.o;go_wp2_with fail;go_ret;rw[D.o];exact⟨rfl,d⟩
 have S:decide (a=b)=false:=decide_eq_false fun e=>p (by rw[e])
 rw[S];have hl' :¬((a.length:Int)=(b.length:Int)):=ω;clear O P S;generalize a.length=n at p hl' R;generalize b.length=m at p hl'
 go_enter func44,ntmps44
 go_wp2_with fail;go_ret;exact⟨rfl,zS⟩
section
variable {D:Nat->Dm} {n:Nat}
theorem Mr(b:eT D n)(a:(ag D n).2.2=0)(y:Nat)(c:y<prodN D n):CR (prodN D n) ((rowsL D n).getD y []):=fun z d=>by
 have:=fg b a y (by rw[bG];exact c) z d
 rw[bG]at this;exact⟨z.toNat,ω,ω⟩
end
section
variable {D:Nat->Dm} {n:Nat}
def Fp(D:Nat->Dm)(n:Nat)(Q:List (List Int)):List Int:=if shTo D n Q=0 then lJ D n Q else[]
theorem NS{Q:List (List Int)}(h:shTo D n Q=0):∀q∈Q,aK D n q=0:=by
 induction Q with
 |nil=>intro q c;cases c
 |cons a r ih =>
  unfold shTo at h
  by_cases b:aK D n a=0
  ·rw[if_neg (by simpa using b)]at h
   intro q c
   rcases List.mem_cons.1 c with rfl|h2
   ·exact b
   exact ih h q h2
  rw[if_pos b]at h;exact absurd h b
theorem MB(Q:List (List Int)){k:Nat}(a:k<Q.length):shTo D n (Q.drop k)=if aK D n (Q.getD k [])≠0 then aK D n (Q.getD k [])else shTo D n (Q.drop (k+1)):=by
 rw[List.drop_eq_getElem_cons a,shTo,zZ,zX a]
 rfl
theorem Nk(g:(ag D n).2.2=0){Q:List (List Int)}(h:shTo D n Q=0):CR (prodN D n) (lJ D n Q)/\((lJ D n Q).any fun z => !leafV D n (ah D n z.toNat))=Q.any fun q => !leafV D n q:=by
 have a:∀q∈Q,∃x:Nat,numI D q n=(x:Int)/\x<prodN D n/\ah D n x=q:=fun q b=>Ja (jR (by rw[gf g];exact NS h q b))
 constructor
 ·intro z f
  unfold lJ at f;obtain⟨q,b,rfl⟩:=List.mem_map.1 f;obtain⟨x,c,d,-⟩:=a q b;exact⟨x,c,d⟩
 unfold lJ;rw[List.any_map];rw[Bool.eq_iff_iff,List.any_eq_true,List.any_eq_true]
 constructor
 ·rintro⟨q,b,c⟩
  refine⟨q,b,?_⟩;obtain⟨x,d,-,e⟩:=a q b;rw[Function.comp_apply,d,Int.toNat_natCast,e]at c;exact c
 rintro⟨q,b,c⟩;refine⟨q,b,?_⟩;obtain⟨x,d,-,e⟩:=a q b;rw[Function.comp_apply,d,Int.toNat_natCast,e];exact c
theorem Kv(y:Nat):CR (prodN D n) (bv (rowsL D n) y (prodN D n)):=fun z b=>by
 obtain⟨j,rfl,a,-⟩:=ic.1 b;exact⟨j,rfl,a⟩
theorem yo(g:eT D n)(f:(ag D n).2.2=0){S:List Int}{j:Nat}(s:j<prodN D n):Rea (fun y=>bv (rowsL D n) y (prodN D n)) S (j:Int)↔∃a:Nat,(a:Int)∈S/\Ndd D n j a:=by
 constructor
 ·intro h
  have c:∀z,Rea (fun y=>bv (rowsL D n) y (prodN D n)) S z->∀j:Nat,z=(j:Int)->∃a:Nat,(a:Int)∈S/\Ndd D n j a:=by
   intro z u
   induction u with
   |base h =>
    intro j e;subst e;exact⟨j,h,.refl _⟩
   | @step y x' hy d ih =>
    intro j e;subst e;obtain⟨a,i,t⟩:=ih y rfl;obtain⟨j',v,m,p⟩:=ic.1 d;have:j=j':=ω;subst this;exact⟨a,i,.step ((pC (fH g f m)).2 p) t⟩
  exact c _ h j rfl
 rintro⟨a,i,h⟩;have c:∀ {x b:Nat},Ndd D n x b->x<prodN D n->(b:Int)∈S->Rea (fun y=>bv (rowsL D n) y (prodN D n)) S (x:Int):=by
  intro x b l
  induction l with
  |refl=>intro _ h;exact .base h
  | @step x' y' z' hst _ ih =>
   intro q r;have d:=(pC (fH g f q)).1 hst;obtain⟨k,w,o⟩:=Mr g f x' q _ d;have:y'=k:=ω;subst this;exact .step (ih o r) (ic.2 ⟨x',rfl,q,d⟩)
 exact c h s i
theorem Hp(d:eT D n)(c:(ag D n).2.2=0){S L:List Int}(g:CR (prodN D n) S)(f:L.Pairwise (· < ·))(i:∀z,z∈L↔Rea (fun y=>bv (rowsL D n) y (prodN D n)) S z):L=drtL D n S:=by
 refine mu _ _ f (gK _ _) fun z=>?_
 rw[i z];unfold drtL
 constructor
 ·intro b
  obtain⟨j,rfl,a⟩:=NL g (fun y _=>Kv y) b
  exact ks a (p9.2 ((yo d c a).1 b))
 intro h;obtain⟨j,rfl,a,e⟩:=dy _ h;exact(yo d c a).2 (p9.1 e)
end
theorem AG(F:Nat)(cap:Array Value)(p:Int->Bool)(a:∀(args:Array Value) (w:World),(callFunc F args).run prog w=.ok (.enter F args) w)(A:Option Addr)(c:Nat)(L:List Int)(w:World)(f:L.length<=3000)(d:dG w A c L)
  (b:∀(x:Int) (w':World),x∈L->Bl w w'->Calls prog F (#[.int .i64 x]++cap) w' fun e aa=>e=.returned (.bool (p x))/\Bl w' aa):
  Rt 115 #[.slice A L.length c,.func (.func F) #[] cap] w (.bool (mJ p L)):=by
 rw[←vF];exact pY F cap p a A c L w ω (mn d) b
theorem zJ(args:Array Value)(w:World):(callFunc 116 args).run prog w=.ok (.enter 116 args) w:=by simp[go_sem]
theorem zB(q g n b:Nat)(D:Nat->Dm)(X:Nat->AL)(x:Nat)(w:World)(d:(ag D n).2.2=0)(f:x<prodN D n)(c:cM w q g n D X)(i:w.cell? ⟨b,0,none⟩=some (.pointer (some ⟨q,0,none⟩))):
  Rt 116 #[.int .i64 x,.pointer (some ⟨b,0,none⟩)] w (.bool (!leafV D n (ah D n x))):=by
 have h:=BH q g n D X x w d f c;generalize leafV D n (ah D n x)=r at h;clear c d f
 go_enter func116,ntmps116
 go_wp2_with fail;refine h.mono ?_;rintro e w1⟨rfl,a⟩;go_wp2_with fail;go_ret;exact⟨rfl,a⟩
theorem zK(args:Array Value)(w:World):(callFunc 119 args).run prog w=.ok (.enter 119 args) w:=by simp[go_sem]
theorem zC(b gU N y:Nat)(v:Value)(w:World)(d:N<=3000)(g:y<N)(e:w.cell? ⟨b,0,none⟩=some (.slice (some ⟨gU,0,none⟩) N N))(f:w.cell? ⟨gU,y,none⟩=some v):
  Rt 119 #[.int .i64 y,.pointer (some ⟨b,0,none⟩)] w (.tuple #[v,.nilIface]):=by
 have c:(y:Int)<(N:Int):=ω;have a:(N:Int)<=3000:=ω;go_enter func119,ntmps119
 go_wp2_with fail;go_returns;exact⟨rfl,by go_grown⟩
theorem xL(A0:Option Addr)(cap n:Nat)(D:Nat->Dm)(A:Nat->Option Addr)(C:Nat->Nat)(Aq:Option Addr)(V:Nat)(xs:List PL)(w:World)(Y:(ag D n).2.2=0)(hM:aL w A0 cap n D A C)(Z:t7 w Aq V xs)(hl:xs.length<=200):
  Calls prog 114 #[.agg #[.slice A0 n cap],.slice Aq xs.length V] w fun e w'=>(∃v,e=.returned (.tuple #[v,errV (shTo D n (lP xs))])/\w'.ownsRow w.heap.size 3 1 v (Fp D n (lP xs)).length (aA (Fp D n (lP xs))))/\Bl w w':=by
 obtain⟨i0,aj,an,ap,aq⟩:=info_parts infoInt;have j:=ay w A0 n cap 24;have hS:=aB w A0 n cap 24;have hA:=aU w A0 n cap 24;obtain⟨W,hW⟩:=ar (aE w A0 n cap 24);rw[hW]at j hS hA;unfold aE at hW;have F:=aa j;have PW:Hid (∀w',Bl W w'->w'.cell? ⟨w.heap.size,0,none⟩=some (.slice A0 n cap)/\w.heap.size<w'.heap.size):=fun w' I=>⟨aM I (show w.heap.size<W.heap.size by omega) hA,by have:=I.size;omega⟩
 have HX:Hid (∀w' k,Bl W w'->k<xs.length->∃b o,Aq=some ⟨b,o,none⟩/\b<w'.heap.size/\w'.cell? ⟨b,o+k,none⟩=some (.slice (xs.getD k ni).A (xs.getD k ni).p.length (xs.getD k ni).c)):=fun w' k I i=>by
  obtain⟨-,r|⟨b,o,X,h2,h3⟩,-⟩:=(Z.later j).later I
  ·rw[r]at i;simp at i
  exact⟨b,o,X,h2,h3 k i⟩
 have B:Hid (∀w' k,Bl W w'->k<xs.length->Rt 64 #[.agg #[.slice A0 n cap],.slice (xs.getD k ni).A (xs.getD k ni).p.length (xs.getD k ni).c] w' (.tuple #[.int .i64 (numV D n (xs.getD k ni).p),errV (aK D n (xs.getD k ni).p)])):=fun w' k I i=>by
  have h:=jX A0 cap n D A C (xs.getD k ni).A (xs.getD k ni).c (xs.getD k ni).p w' ((hM.later j).later I) (((Z.later j).later I).2.2 _ (by rw[zZ,zX i];exact List.getElem_mem i))
  rw[gf Y]at h;exact h
 have R:Hid (∀k,k<xs.length->shTo D n ((lP xs).drop k)=if aK D n (xs.getD k ni).p≠0 then aK D n (xs.getD k ni).p else shTo D n ((lP xs).drop (k+1))):=fun k i=>by
  have h:=MB (D:=D) (n:=n) (lP xs) (k:=k) (by unfold lP;rw[List.length_map];exact i)
  have e:(lP xs).getD k []=(xs.getD k ni).p:=by
   unfold lP;rw[zZ,zZ,List.getElem?_map,zX i]
   rfl
  rw[e]at h;exact h
 have S:Hid (∀k,k<xs.length->lJ D n ((lP xs).take (k+1))=lJ D n ((lP xs).take k)++[numI D (xs.getD k ni).p n]):=fun k i=>by
  have al:k<(lP xs).length:=by unfold lP;rw[List.length_map];exact i
  rw[List.take_succ_eq_append_getElem al];unfold lJ;rw[List.map_append,List.map_singleton];have e:(lP xs)[k]=(xs.getD k ni).p:=by
   rw[zZ,zX i]
   simp[lP]
  rw[e]
 have Q:Hid (∀k,k<xs.length->aK D n (xs.getD k ni).p=0->∃y:Nat,numV D n (xs.getD k ni).p=(y:Int)/\numI D (xs.getD k ni).p n=(y:Int)/\y<=3000):=fun k i h=>by
  have hp:placeErr D n (xs.getD k ni).p=0:=by rw[gf Y];exact h
  obtain⟨y,X,h2,-⟩:=Ja (jR hp);have:=(ao Y).2.2.1;exact⟨y,by unfold numV;rw[if_pos hp,X],X,ω⟩
 have q:Hid (shTo D n ((lP xs).drop xs.length)=0/\(lP xs).take xs.length=lP xs):=by
  have e:(lP xs).length=xs.length:=by unfold lP;rw[List.length_map]
  exact⟨by rw[List.drop_of_length_le ω];rfl,List.take_of_length_le ω⟩
 have ai:xs.length<=V:=Z.1;obtain⟨m,hm⟩:=ar xs.length;rw[hm]at HX B R S Q q ai hl|-;have aC:(m:Int)<=200:=ω;have ax:(m:Int)<=(V:Int):=ω;clear hM Z Y j hS hA hm
 go_enter func114,ntmps114
 go_wp2_with fail
 go_loopg [6,13] m (fun gg s6 au wr =>∃(k:Nat) (AO:Option Addr) (N:Nat),k<=m/\gg=m-k/\au=.int .i64 k/\s6=.slice AO k N/\Hid (wr.ownsRow W.heap.size 3 1 (.slice AO k N) k (aA (lJ D n ((lP xs).take k))))/\Hid (shTo D n (lP xs)=shTo D n ((lP xs).drop k))/\Hid (Bl W wr))
 case atStart=>exact⟨0,none,0,zU,rfl,rfl,rfl,World.ownsRow_nil _ _ _ _,rfl,zS⟩
 case round =>
  obtain⟨k,AO,N,i,rfl,rfl,rfl,HO,H,f⟩:=hrel
  by_cases t:k<m
  ·have az:(k:Int)<(m:Int):=ω;obtain⟨bq,oq,ah,aw,T⟩:=HX.o wr k f.o t;obtain⟨c0,aD⟩:=PW.o wr f.o;have a:=B.o wr k f.o t;have l:=R.o k t;have x:=S.o k t;have u:=Q.o k t;obtain⟨z,hz⟩:=ar (xs.getD k ni);rw[hz]at T a l x u;obtain⟨E,J⟩:=ar (aK D n z.p);rw[J]at a l u;subst ah;obtain⟨zl,M⟩:=ar z.p.length;rw[M]at T a;obtain⟨zA,K⟩:=ar z.A;obtain⟨zc,L⟩:=ar z.c;rw[K,L]at T a
   by_cases r:E=0
   ·obtain⟨y,e1,e2,aG⟩:=u r
    rw[r,e1,errV_zero]at a;have af:Hid (shTo D n (lP xs)=shTo D n ((lP xs).drop (k+1))):=by
     show _=_
     rw[H.o,l,if_neg (by simpa using r)]
    have PX:Hid (lJ D n ((lP xs).take (k+1))=lJ D n ((lP xs).take k)++[(y:Int)]):=by
     show _=_
     rw[x,e2]
    have PV:Hid (∀w1:World,Bl wr w1->w1.ownsRow W.heap.size 3 1 (.slice AO k N) k (aA (lJ D n ((lP xs).take k)))/\W.heap.size<=w1.heap.size):=fun w1 d=>⟨ak HO.o d,zV f.o.size d.size⟩
    have P:Hid (∀(w4 w6:World) (o':Obj) (A6:Option Addr) (c6:Nat),Bl wr w4->w6.ownsRow W.heap.size 3 1 (.slice A6 (k+1) c6) (k+1) (aA (lJ D n ((lP xs).take k))++[.int .i64 (y:Int)])->(w4.alloc o').grownBy w6 (Value.slice AO k N).ownBlock->Hid (w6.ownsRow W.heap.size 3 1 (.slice A6 (k+1) c6) (k+1) (aA (lJ D n ((lP xs).take (k+1)))))/\Hid (Bl W w6)):=fun w4 w6 o' A6 c6 h4 h6 hg=>by
     refine⟨?_,dk (ad f.o h4) (ak HO.o h4) hg⟩
     show World.ownsRow ..
     rw[PX.o,mapI_snoc];exact h6
    have aH:(y:Int)<=3000:=ω;clear l x u hz J r e1 e2 M K L;go_wp2_with fail;refine a.mono ?_;rintro e w1⟨rfl,d⟩;obtain⟨U,aF⟩:=PV.o w1 d;have ab:=aa U;have G:=aa d;clear d a T c0 U
    go_wp2_with (at_builtin;refine wpList_append_own _ rfl _ _ 42 rfl W.heap.size 3 i0 (.int .i64 0) 1 8 underlying42 aj an ap aq rfl (by decide) _ _ _ rfl (ab.o.alloc _) ⟨w1.heap.size,0,none⟩ 1 1 [.int .i64 y] rfl rfl da ew (by unfold maxLen;omega) ω (by simp;omega) ?_)
    intro v' w6 g s _;obtain⟨A',c',rfl⟩:∃A' c',v'=.slice A' (k+1) c':=by
     rcases g.2 with⟨-,h⟩|⟨g',c',av,h,-⟩
     ·omega
     exact⟨_,_,h⟩
    obtain⟨ae,PU⟩:=P.o _ _ _ _ _ G.o g s;clear g s;go_wp2_with fail
    go_roundg (m-(k+1))
    case measure=>omega
    case rel=>exact⟨k+1,_,_,ω,rfl,by go_num,rfl,ae,af,PU⟩
   have O:Hid (errV (shTo D n (lP xs))=.iface 71 (.int .i64 E)/\Fp D n (lP xs)=[]):=by
    have e:shTo D n (lP xs)=E:=by rw[H.o,l,if_pos r]
    refine⟨by rw[e,ac r],?_⟩
    unfold Fp;rw[if_neg (by rw[e];exact r)]
   rw[ac r]at a;generalize numV D n z.p=nv at a;clear l x u hz J r M K L;go_wp2_with fail;refine a.mono ?_;rintro e w1⟨rfl,d⟩;have G:=aa (ad F.o (ad f.o d));clear d a T c0;go_wp2_with fail;go_returns;exact⟨⟨.slice none 0 0,by rw[O.o.1];rfl,by rw[O.o.2];exact World.ownsRow_nil _ _ _ _⟩,G.o⟩
  have am:k=m:=ω;subst am;have HF:Hid (shTo D n (lP xs)=0/\wr.ownsRow w.heap.size 3 1 (.slice AO k N) (Fp D n (lP xs)).length (aA (Fp D n (lP xs)))):=by
   have e:shTo D n (lP xs)=0:=by rw[H.o];exact q.o.1
   refine⟨e,?_⟩;unfold Fp;rw[if_pos e];have h:=HO.o;rw[q.o.2]at h;have hl:(lJ D n (lP xs)).length=k:=by have:=h.1;unfold aA at this;rw[List.length_map]at this;omega
   rw[hl];exact mi h F.o.size
  have PT:=aa (ad F.o f.o);go_wp2_with fail;go_returns;exact⟨⟨_,by rw[HF.o.1];rfl,HF.o.2⟩,PT.o⟩
theorem IX(A0:Option Addr)(cap n:Nat)(D:Nat->Dm)(A:Nat->Option Addr)(C:Nat->Nat)(Aq:Option Addr)(cq:Nat)(xs:List PL)(w:World)(hM:aL w A0 cap n D A C)(hX:t7 w Aq cq xs)(hl:xs.length<=200):
  Calls prog 73 #[.agg #[.slice A0 n cap],.slice Aq xs.length cq] w fun e w'=>(∃A' t,e=.returned (.tuple #[.slice A' (GB D n (lP xs)).length t,errV (y6 D n (lP xs))])/\aJ w' A' t (GB D n (lP xs)))/\Bl w w':=by
 have p:=ay w A0 n cap 24;have hS:=aB w A0 n cap 24;have hA:=aU w A0 n cap 24;obtain⟨W,hW⟩:=ar (aE w A0 n cap 24);rw[hW]at p hS hA;unfold aE at hW;have av:=aa p;have aI:w.heap.size<W.heap.size:=ω;have HA:=aa hA
 by_cases Y:(au D n).2.2=0
 case neg =>
  have V:=uz A0 cap n D A C W Y (hM.later p);have r:y6 D n (lP xs)=(au D n).2.2:=by unfold y6;rw[if_pos Y]
  have H:Hid (GB D n (lP xs)=[]):=by show _=_;unfold GB;rw[if_neg (by rw[r];exact Y)]
  have k:Hid (errV (y6 D n (lP xs))=.iface 71 (.int .i64 (au D n).2.2)):=by show _=_;rw[r,ac Y]
  rw[ac Y]at V;generalize (au D n).2.2=z at V k;generalize xs.length=xl;clear hM hX p Y hS r hl
  go_enter func73,ntmps73
  go_wp2_with fail;refine V.mono ?_;rintro e w1⟨rfl,d⟩;have aN:=aa (ad av.o d);clear d V;go_wp2_with fail;go_returns;exact⟨⟨none,0,by rw[H.o,k.o];rfl,by rw[H.o];exact aJ.nil _ _ _ ω⟩,ad aN.o γ⟩
 obtain⟨hE,hR⟩:=dZ Y;have V:=pr A0 cap n D A C W hE hR (hM.later p);have B:y6 D n (lP xs)=zD D n (lP xs):=by unfold y6;rw[if_neg (by simpa using Y)]
 have i:Hid (∀w',Bl w w'->Calls prog 114 #[.agg #[.slice A0 n cap],.slice Aq xs.length cq] w' fun e ab=>(∃v,e=.returned (.tuple #[v,errV (shTo D n (lP xs))])/\ab.ownsRow w'.heap.size 3 1 v (Fp D n (lP xs)).length (aA (Fp D n (lP xs))))/\Bl w' ab):=fun w' hB=>xL A0 cap n D A C Aq cq xs w' hE (hM.later hB) (hX.later hB) hl
 have J:Hid (∀w1,Bl W w1->∀(v:Value) (T:Nat),(w1.alloc (.cells #[v] T)).cell? ⟨w.heap.size,0,none⟩=some (.slice A0 n cap)/\w.heap.size<(w1.alloc (.cells #[v] T)).heap.size/\Bl w (w1.alloc (.cells #[v] T))):=fun w1 d v T=>by
  have l:Bl w1 (w1.alloc (.cells #[v] T)):=by go_grown
  have hb:=ad d l;exact⟨aM hb aI HA.o,zW aI hb.size,ad av.o hb⟩
 by_cases G:shTo D n (lP xs)=0
 case neg =>
  have r:y6 D n (lP xs)=shTo D n (lP xs):=by rw[B];unfold zD;rw[if_pos G]
  have H:Hid (GB D n (lP xs)=[]):=by show _=_;unfold GB;rw[if_neg (by rw[r];exact G)]
  have k:Hid (errV (y6 D n (lP xs))=.iface 71 (.int .i64 (shTo D n (lP xs)))):=by show _=_;rw[r,ac G]
  have F:Fp D n (lP xs)=[]:=by unfold Fp;rw[if_neg G]
  rw[ac G,F]at i;generalize shTo D n (lP xs)=z at i k;generalize xs.length=xl at i|-;clear hM hX p Y hS r hl hE hR B G F
  go_enter func73,ntmps73
  go_wp2_with fail;refine V.mono ?_;rintro e w1⟨⟨u,g,X,rfl,-,-,-⟩,d⟩;obtain⟨x1,x2,x3⟩:=J.o w1 d (.pointer (some ⟨u,0,none⟩)) 80;obtain⟨w2,f⟩:=ar (w1.alloc (.cells #[.pointer (some ⟨u,0,none⟩)] 80));rw[f]at x1 x2 x3;have o:=aa x3;clear d V hA hW x3;go_wp2_with fail;refine(i.o w2 o.o).mono ?_;rintro e w3⟨⟨v,rfl,hO⟩,c⟩;have I:=aa (ad o.o c);obtain⟨AO,lO,cO,hv⟩:∃AO lO cO,v=.slice AO lO cO:=by
   rcases hO.2 with⟨h1,h2⟩|⟨g,cap,a0,h1,-⟩
   ·exact⟨none,0,0,h1⟩
   exact⟨_,_,_,h1⟩
  subst hv;clear c hO;go_wp2_with fail;go_returns;exact⟨⟨none,0,by rw[H.o,k.o];rfl,by rw[H.o];exact aJ.nil _ _ _ ω⟩,I.o⟩
 obtain⟨U,Q⟩:=Nk hE G;have F:Fp D n (lP xs)=lJ D n (lP xs):=by unfold Fp;rw[if_pos G]
 have S:(lJ D n (lP xs)).length=xs.length:=by unfold lJ lP;rw[List.length_map,List.length_map]
 rw[G,F,errV_zero]at i;have an:=(ao hE).2.2.1;have K:Hid (∀q g X b w' A' t,cM w' q g n D X->w'.cell? ⟨b,0,none⟩=some (.pointer (some ⟨q,0,none⟩))->b<w'.heap.size->aJ w' A' t (lJ D n (lP xs))->Rt 115 #[.slice A' (lJ D n (lP xs)).length t,.func (.func 116) #[] #[.pointer (some ⟨b,0,none⟩)]] w' (.bool ((lP xs).any fun q => !leafV D n q))):=fun q g X b w' A' t hA hc hb hI=>by
  rw[←Q];refine AG 116 #[.pointer (some ⟨b,0,none⟩)] (fun z => !leafV D n (ah D n z.toNat)) zJ A' t (lJ D n (lP xs)) w' ω hI.at fun z w2 r M=>?_
  obtain⟨j,rfl,hj⟩:=U z r;rw[Int.toNat_natCast];exact zB q g n b D X j w2 hE hj (hA.later M) (aM M hb hc)
 have af:Hid (∀q g X w',cM w' q g n D X->Calls prog 106 #[.pointer (some ⟨q,0,none⟩)] w' fun e ab=>(∃gU,e=.returned (.slice (some ⟨gU,0,none⟩) (prodN D n) (prodN D n))/\Gz ab gU (prodN D n) (prodN D n) (rowsL D n) w')/\Bl w' ab):=fun q g X w' hA=>by
  refine(tW q g n D X w' hR hE hA).mono ?_;rintro e ab⟨gU,rfl,hU⟩;exact⟨⟨gU,rfl,hU⟩,hU.choose_spec.2⟩
 have s:Hid (∀gU w0 w1 b w' A' t,Gz w1 gU (prodN D n) (prodN D n) (rowsL D n) w0->Bl w1 w'->w'.cell? ⟨b,0,none⟩=some (.slice (some ⟨gU,0,none⟩) (prodN D n) (prodN D n))->b<w'.heap.size->aJ w' A' t (lJ D n (lP xs))->Calls prog 118 #[.slice A' (lJ D n (lP xs)).length t,.func (.func 119) #[] #[.pointer (some ⟨b,0,none⟩)]] w' fun e ab=>(∃A' t,e=.returned (.tuple #[.slice A' (drtL D n (lJ D n (lP xs))).length t,.nilIface])/\aJ ab A' t (drtL D n (lJ D n (lP xs))))/\Bl w' ab):=fun gU w0 w1 b w' A' t hU az hc hb hI=>by
  obtain⟨UV,hU,-⟩:=hU;have h:=Bo 119 #[] #[.pointer (some ⟨b,0,none⟩)] (fun y=>bv (rowsL D n) y (prodN D n)) (prodN D n) zK A' t (lJ D n (lP xs)) w' an ω hI U (fun y _=>Kv y) (fun y hy=>by have:=vo (rowsL D n) y (prodN D n);omega) fun y w2 hy M=>by
   have aD:=(hU.later az).later M;refine(zC b gU (prodN D n) y (UV y) w2 an hy (aM M hb hc) (aD.hU.cell hy)).mono ?_;rintro e w3⟨rfl,c⟩;obtain⟨A2,c2,hv,al⟩:=cY (aD.own y hy);refine⟨⟨A2,c2,by rw[hv],al.later c,fun a ha=>Or.inl ?_⟩,c⟩
   exact(aO ((hU.later az).own y hy) (by rw[hv,ha];rfl)).2.1
  refine Calls.mono h ?_;rintro e ab⟨⟨v,L,rfl,hO,aW,aV⟩,l⟩;obtain⟨A2,c2,rfl,al⟩:=cY hO;rw[←Hp hR hE U aW aV];exact⟨⟨A2,c2,rfl,al⟩,l⟩
 obtain⟨LN,O⟩:=ar (lJ D n (lP xs));have aZ:=aa O;rw[O]at i K s S;obtain⟨N,hN⟩:=ar (prodN D n);rw[hN]at af s an;have a1:(N:Int)<=3000:=ω;by_cases E:((lP xs).any fun q => !leafV D n q)=true
 case pos =>
  have r:y6 D n (lP xs)=6:=by rw[B];unfold zD;rw[if_neg (by simpa using G),if_pos E]
  have H:Hid (GB D n (lP xs)=[]):=by show _=_;unfold GB;rw[if_neg (by rw[r];decide)]
  have k:Hid (errV (y6 D n (lP xs))=.iface 71 (.int .i64 6)):=by show _=_;rw[r,ac (by decide)]
  rw[E]at K;generalize rowsL D n=Nn at af s;generalize xs.length=xl at i hl S|-;have aY:LN.length<=3000:=ω;clear hM hX p Y hS r hE hR B G F Q U E O hN s S
  go_enter func73,ntmps73
  go_wp2_with fail;refine V.mono ?_;rintro e w1⟨⟨u,g,X,rfl,-,-,P⟩,d⟩;obtain⟨x1,x2,x3⟩:=J.o w1 d (.pointer (some ⟨u,0,none⟩)) 80;obtain⟨w2,f⟩:=ar (w1.alloc (.cells #[.pointer (some ⟨u,0,none⟩)] 80));have l:Bl w1 w2:=by rw[←f];go_grown
  have c2:w2.cell? ⟨w1.heap.size,0,none⟩=some (.pointer (some ⟨u,0,none⟩)):=by rw[←f];exact(Lib.cell_of_heap (heap_alloc_new w1 _) 0).trans rfl
  have Z:w1.heap.size<w2.heap.size:=by rw[←f];simp
  rw[f]at x1 x2 x3;have o:=aa x3;have ak:=aa (P.later l);have aj:=aa c2;clear d V hA hW x3 P l;go_wp2_with fail;refine(i.o w2 o.o).mono ?_;rintro e w3⟨⟨v,rfl,hO⟩,c⟩;obtain⟨A3,c3,hv,x⟩:=cY hO;have I:=aa (ad o.o c);have R:=K.o u g X w1.heap.size w3 A3 c3 (ak.o.later c) (aM c Z aj.o) (zW Z c.size) x;subst hv;clear c hO x f c2;go_wp2_with fail;refine R.mono ?_;rintro e w4⟨rfl,m⟩;have ai:=aa (ad I.o m);clear m R;go_wp2_with fail;go_returns;exact⟨⟨none,0,by rw[H.o,k.o];rfl,by rw[H.o];exact aJ.nil _ _ _ ω⟩,ai.o⟩
 have ae:((lP xs).any fun q => !leafV D n q)=false:=by simpa using E
 have r:y6 D n (lP xs)=0:=by rw[B];unfold zD;rw[if_neg (by simpa using G),if_neg E]
 have H:Hid (GB D n (lP xs)=drtL D n LN):=by show _=_;unfold GB;rw[if_pos r,O]
 have k:Hid (errV (y6 D n (lP xs))=.nilIface):=by show _=_;rw[r,errV_zero]
 rw[ae]at K;generalize rowsL D n=Nn at af s;generalize xs.length=xl at i hl S|-;have aY:LN.length<=3000:=ω;generalize drtL D n LN=DL at H s;clear hM hX p Y hS r hE hR B G F Q U E ae O hN S
 go_enter func73,ntmps73
 go_wp2_with fail;refine V.mono ?_;rintro e w1⟨⟨u,g,X,rfl,-,-,P⟩,d⟩;obtain⟨x1,x2,x3⟩:=J.o w1 d (.pointer (some ⟨u,0,none⟩)) 80;obtain⟨w2,f⟩:=ar (w1.alloc (.cells #[.pointer (some ⟨u,0,none⟩)] 80));have l:Bl w1 w2:=by rw[←f];go_grown
 have c2:w2.cell? ⟨w1.heap.size,0,none⟩=some (.pointer (some ⟨u,0,none⟩)):=by rw[←f];exact(Lib.cell_of_heap (heap_alloc_new w1 _) 0).trans rfl
 have Z:w1.heap.size<w2.heap.size:=by rw[←f];simp
 rw[f]at x1 x2 x3;have o:=aa x3;have ak:=aa (P.later l);have aj:=aa c2;clear d V hA hW x3 P l;go_wp2_with fail;refine(i.o w2 o.o).mono ?_;rintro e w3⟨⟨v,rfl,hO⟩,c⟩;obtain⟨A3,c3,hv,x⟩:=cY hO;have I:=aa (ad o.o c);have ax:=aa (ak.o.later c);have aw:Hid (w3.cell? ⟨w1.heap.size,0,none⟩=some (.pointer (some ⟨u,0,none⟩))):=aM c Z aj.o;have ap:w1.heap.size<w3.heap.size:=zW Z c.size;have R:=K.o u g X w1.heap.size w3 A3 c3 ax.o aw.o ap x;have aR:=aa x;subst hv;clear c hO x f c2;go_wp2_with fail;refine R.mono ?_;rintro e w4⟨rfl,m⟩;have ai:=aa (ad I.o m);have c4:w4.cell? ⟨w1.heap.size,0,none⟩=some (.pointer (some ⟨u,0,none⟩)):=aM m ap aw.o;have a2:w1.heap.size<w4.heap.size:=zW ap m.size;have aK:=af.o u g X w4 (ax.o.later m);have aS:=aa (aR.o.later m);clear m R;go_wp2_with fail;refine aK.mono ?_;rintro e w5⟨⟨gU,rfl,aF⟩,am⟩;obtain⟨w6,aq⟩:=ar (w5.alloc (.cells #[.slice (some ⟨gU,0,none⟩) N N] 141));have ag:Bl w5 w6:=by rw[←aq];go_grown
 have c6:w6.cell? ⟨w5.heap.size,0,none⟩=some (.slice (some ⟨gU,0,none⟩) N N):=by rw[←aq];exact(Lib.cell_of_heap (heap_alloc_new w5 _) 0).trans rfl
 have aX:w5.heap.size<w6.heap.size:=by rw[←aq];simp
 have aP:=aa (ad ai.o (ad am ag));have aH:=s.o gU w4 w5 w5.heap.size w6 A3 c3 aF ag c6 aX (aS.o.later (ad am ag));clear aF am ag aK c4 c6;go_wp2_with fail;refine aH.mono ?_;rintro e w7⟨⟨A7,c7,rfl,aC⟩,aG⟩;have aT:=aa aC;have aQ:=aa (ad aP.o aG);clear aC aG aH;go_wp2_with fail;go_returns;exact⟨⟨A7,c7,by rw[H.o,k.o];rfl,by rw[H.o];exact aT.o⟩,aQ.o⟩
theorem OwD.dimsO{w:World}{B g cd n:Nat}{D:Nat->Dm}{G C:Nat->Nat}(h:OwD w B g cd n D G C):lv w B g n D G C:=by
 have f:=h.dims;obtain⟨b1,-,-,-,-⟩:=aG f;rw[←DI]at f;refine⟨b1,?_,fun i r=>?_⟩
 ·rcases f.2 with⟨b,_⟩|⟨g',c,a,b,q,k,o,d,e,p⟩
  ·cases b
  cases b;refine⟨a,k,fun j l=>?_⟩
  have:=iS (yZ D (fun i=>some ⟨G i,0,none⟩) C) l
  rw[←p,List.getElem?_take,if_pos ω,Array.getElem?_toList]at this
  exact this
 have m:=h.mems i r;obtain⟨m1,-,m3,-,-⟩:=aG m;rw[←mx]at m
 rcases m.2 with⟨b,_⟩|⟨g',c,a,b,q,k,o,d,e,p⟩
 ·cases b
 cases b;refine⟨m1,m3,a,_,k,fun j l=>?_⟩
 have:=iS (qA (D i).mem) l;rw[←p,List.getElem?_take,if_pos ω,Array.getElem?_toList]at this
 exact this
theorem Bq(A0:Option Addr)(cap n:Nat)(D:Nat->Dm)(A:Nat->Option Addr)(C:Nat->Nat)(w:World)(f:(ag D n).2.2=0)(h:aL w A0 cap n D A C):
  Calls prog 20 #[.agg #[.slice A0 n cap]] w fun e w'=>(∃g c G C',e=.returned (.agg #[.slice (some ⟨g,0,none⟩) n c])/\n<=c/\lv w' w.heap.size g n D G C')/\Bl w w' :=
 (qP A0 cap n D A C w f h).mono fun _ _ ⟨⟨g,c,G,C',b,a⟩,d⟩=>⟨⟨g,c,G,C',b,(aG a.dims).2.2.1,a.dimsO⟩,d⟩
set_option maxHeartbeats 64000000
def rV(x:Int):List UInt8:=if x = -1 then[45]else if x=0 then[126]else[43]
def rU(x:Int):List UInt8:=if 0<=x then Lib.itoa x else[45]
def lu(s:ByteArray):List UInt8:=if s.toList.isEmpty=true then[]else 61 :: s.data.toList
def uw(m:Mem):List UInt8:=[109,101,109,32]++m.name.data.toList++[32]++rU m.parent++[32]++rV m.sign++lu m.formula++[10]
def fO(M:Nat->Mem)(k:Nat):List UInt8:=(List.range k).flatMap fun j=>uw (M j)
def AB(d:Dm):List UInt8:=[100,105,109,32]++d.name.data.toList++[32]++Lib.itoa d.solve++[10]
def fq(D:Nat->Dm)(k:Nat):List UInt8:=(List.range k).flatMap fun i=>AB (D i)++fO (D i).mem (D i).n
def uf(D:Nat->Dm)(n:Nat)(e:En):List UInt8:=[99,101,108,108,32]++aY D e.pl n++[32]++Lib.itoa e.n++[10]
def fp(D:Nat->Dm)(n:Nat)(l:List En):List UInt8:=l.flatMap (uf D n)
def Oe(D:Nat->Dm)(n:Nat)(l:List En):List UInt8:=fq D n++fp D n l
theorem qC(M:Nat->Mem)(k:Nat):fO M (k+1)=fO M k++uw (M k):=by simp[fO,List.range_succ]
theorem p8(D:Nat->Dm)(k:Nat):fq D (k+1)=fq D k++(AB (D k)++fO (D k).mem (D k).n):=by simp[fq,List.range_succ]
theorem zh(D:Nat->Dm)(n:Nat)(l:List En){k:Nat}(h:k<l.length):fp D n (l.take (k+1))=fp D n (l.take k)++uf D n (l.getD k noEn):=by
 unfold fp;rw[List.take_add_one,List.flatMap_append]
 congr 1
 simp[zX h,List.getD]
theorem m9{M:Nat->Mem}{i:Nat}(h:aQ M i=0)(c:i<=12):(M i).name.size<=30/\-1<=(M i).parent/\(M i).parent<=12/\-1<=(M i).sign/\(M i).sign<=1/\(M i).formula.size<=100:=by
 unfold aQ at h
 split at h
 ·cases h
 rename_i h1
 have a:nameErr (M i).name=0:=by simpa using h1
 have b:(M i).name.size<=30:=by
  unfold nameErr at a
  split at a
  ·cases a
  omega
 split at h
 ·cases h
 split at h
 ·cases h
 split at h
 ·cases h
 split at h
 ·cases h
 split at h
 ·cases h
 refine⟨b,?_⟩
 omega
theorem mU{d:Dm}(h:(am d).2=0):d.name.size<=30/\0<=d.solve/\d.solve<=9:=by
 unfold am at h
 split at h
 ·simp at h
 rename_i h1
 have a:nameErr d.name=0:=by simpa using h1
 have b:d.name.size<=30:=by
  unfold nameErr at a
  split at a
  ·cases a
  omega
 split at h
 ·simp at h
 exact⟨b,ω,ω⟩
theorem DK(x:Int):(rV x).length<=1:=by unfold rV;split;simp;split<;>simp
theorem OQ(s:ByteArray):s.data.toList.length=s.size:=by simp
theorem IR{m:Mem}(g:m.name.size<=30)(h : -1<=m.parent)(i:m.parent<=12)(j:m.formula.size<=100):(uw m).length<=1000:=by
 have a:=OQ m.name;have b:=OQ m.formula;have c:=Lib.itoa_length_le m.parent ω ω
 have d:=DK m.sign;have e:(rU m.parent).length<=40:=by unfold rU;split;omega;simp
 have f:(lu m.formula).length<=101:=by unfold lu;split;simp;simp only[List.length_cons];omega
 unfold uw;simp only[List.length_append,List.length_cons,List.length_nil]
 omega
theorem Lz{d:Dm}(c:d.name.size<=30)(e:0<=d.solve)(f:d.solve<=9):(AB d).length<=1000:=by
 have a:=OQ d.name;have b:=Lib.itoa_length_le d.solve ω ω
 unfold AB;simp only[List.length_append,List.length_cons,List.length_nil]
 omega
theorem nc{M:Nat->Mem}:∀k,k<=12->(∀j,j<k->aQ M j=0)->(fO M k).length<=k*1000
 | 0,_,_=>by simp[fO]
 |k+1,hk,h=>by
  have a:=nc k ω (fun j c=>h j ω)
  obtain⟨b1,b2,b3,-,-,b4⟩:=m9 (h k ω) ω
  have b:=IR b1 b2 b3 b4;rw[qC,List.length_append]
  omega
theorem kg{D:Nat->Dm}{n:Nat}(h:∀i,i<n->(am (D i)).2=0):∀k,k<=n->(fq D k).length<=k*13000
 | 0,_=>by simp[fq]
 |k+1,hk=>by
  have a:=kg h k ω
  obtain⟨-,-,c1,c2⟩:=aq (h k ω)
  obtain⟨b1,b2,b3⟩:=mU (h k ω)
  have b:=Lz b1 b2 b3;have c:=nc (D k).n c1 c2;rw[p8,List.length_append,List.length_append]
  omega
theorem vR{D:Nat->Dm}{n:Nat}{e:En}(a:InO D n e.pl)(b:dE e.n=true):(uf D n e).length<=1000:=by
 have d:=jt a n zT;have f:n<=4:=(ao a.right).2.1;unfold dE at b;simp only[Bool.and_eq_true,decide_eq_true_eq]at b;have c:=Lib.itoa_length_le e.n ω ω
 unfold uf;simp only[List.length_append,List.length_cons,List.length_nil]
 omega
theorem sO{D:Nat->Dm}{n:Nat}:∀l:List En,(∀e∈l,InO D n e.pl/\dE e.n=true)->(fp D n l).length<=l.length*1000
 | [],_=>by simp[fp]
 |e :: r,h=>by
  have b:=sO r fun x c=>h x (List.mem_cons_of_mem _ c)
  have a:=h e (List.mem_cons_self ..);have d:=vR a.1 a.2;unfold fp at b|-;rw[List.flatMap_cons,List.length_append,List.length_cons]
  omega
set_option maxHeartbeats 4000000
theorem extraJ:Builder.Extra prog lays156_ren:={
 sizeBuilder:=by kernel_rfl
 liesBuilder:=by kernel_rfl
 t5:=underlying5
 a5:=isAgg5
 z5:=sizeOf5
 v5:=zeroValue5
 infoByte:=by kernel_rfl
 cellsByte:=by kernel_rfl
 sizeByte:=by kernel_rfl
 neB5:=by decide }
def Fc(l:List ByteArray):ByteArray:=⟨((Lib.join (l.map fun x:ByteArray=>x.data.toList) [32]:List UInt8)++[10]).toArray⟩
theorem m8(a b c:ByteArray):(Fc [a,b,c]).data.toList=a.data.toList++[32]++b.data.toList++[32]++c.data.toList++[10]:=by
 simp[Fc,Lib.join]
theorem xo(a b c d:ByteArray):(Fc [a,b,c,d]).data.toList=a.data.toList++[32]++b.data.toList++[32]++c.data.toList++[32]++d.data.toList++[10]:=by
 simp[Fc,Lib.join]
theorem E4(m:Nat):∀L:List ByteArray,(∀x∈L,x.size<=m)->(Lib.join (L.map (·.data.toList)) [32]).length<=L.length*(m+1)
 | [],_=>by simp[Lib.join]
 |x :: r,h=>by
  have c:=h x (List.mem_cons_self ..);have d:x.data.toList.length=x.size:=by simp
  have a:∀L:List ByteArray,(∀x∈L,x.size<=m)->(Lib.joinTail [32] (L.map (·.data.toList))).length<=L.length*(m+1):=by
   intro L
   induction L with
   |nil=>intro _;simp[Lib.joinTail]
   |cons x r ih =>
    intro h;have a:=ih fun y b=>h y (List.mem_cons_of_mem _ b)
    have c:=h x (List.mem_cons_self ..);have d:x.data.toList.length=x.size:=by simp
    simp only[Lib.joinTail,List.map_cons,List.flatten_cons,List.length_append,List.length_cons,List.length_nil,Nat.add_mul]at a|-
    omega
  have e:=a r fun y b=>h y (List.mem_cons_of_mem _ b)
  rw[List.map_cons,Lib.join_cons,List.length_append,List.length_cons,Nat.add_mul]
  omega
theorem nL(g c m:Nat)(l:List ByteArray)(w:World)(f:∀(j:Nat) x,l[j]?=some x->w.cell? ⟨g,0+j,none⟩=some (.string x))(i:g<w.heap.size)(d:l.length=m)(s:m<=4)(r:m<=c)(o:∀x∈l,x.size<=1048576):
  Rt 35 #[.slice (some ⟨g,0,none⟩) m c] w (.string (Fc l)):=by
 have k:=E4 1048576 l o;have a:(Lib.join (l.map (·.data.toList)) (ByteArray.mk #[32]).data.toList).length<=140737488355328:=by
  refine zV k ?_;rw[d]
  omega
 have h:=Any.strings_Join lays156 extraJ g 0 c l ⟨#[32]⟩ w f i ω ω a
 rw[d]at h;obtain⟨t,b⟩:∃t:ByteArray,⟨(Lib.join (l.map (·.data.toList)) (ByteArray.mk #[32]).data.toList).toArray⟩=t:=⟨_,rfl⟩;have u:t.size<=140737488355328:=by rw[←b];show(List.toArray _).size<=_;rw[List.size_toArray];exact a
 have p:Hid (t++⟨#[10]⟩=Fc l):=by
  show _=_
  rw[←b];apply ByteArray.ext
  simp[Fc,ByteArray.data_append]
 rw[b]at h;have n:(t.size:Int)<=140737488355328:=ω;have hadd :¬ 9223372036854775807<t.size+1:=ω;clear f i d s r o k a b
 go_enter func35,ntmps35
 go_wp2_with fail;refine h.mono ?_;rintro e w1⟨rfl,q⟩;go_wp2_with fail;go_ret;rw[p.o];exact⟨rfl,q⟩
theorem BA(p:Int)(w:World)(f : -1<=p)(c:p<=9223372036854775807)(b:kz w):Rt 37 #[.int .i64 p] w (.string ⟨(rU p).toArray⟩):=by
 by_cases d:p = -1
 ·subst d
  have a:Hid ((⟨#[45]⟩:ByteArray)=⟨(rU (-1)).toArray⟩):=by show _=_;unfold rU;rw[if_neg ω]
  clear b
  go_enter func37,ntmps37
  go_wp2_with fail;go_ret;exact⟨by rw[←a.o];rfl,zS⟩
 have a:Hid (Lib.itoa p=rU p):=by show _=_;unfold rU;rw[if_pos ω]
 have h:=xa p w ω c b
 have i:(p == -1)=false:=by simpa using d
 clear b f c
 go_enter func37,ntmps37
 go_wp2_with fail;refine h.mono ?_;rintro e w1⟨rfl,g⟩;go_wp2_with fail;go_ret;exact⟨by rw[←a.o];rfl,g⟩
theorem MA(x:Int)(w:World)(a : -1<=x)(b:x<=1):Rt 38 #[.int .i64 x] w (.string ⟨(rV x).toArray⟩):=by
 have h:x = -1\/x=0\/x=1:=ω;rcases h with rfl|rfl|rfl
 all_goals
  go_enter func38,ntmps38
  go_wp2_with fail;go_ret;exact⟨rfl,zS⟩
theorem EN(s:ByteArray)(w:World)(c:s.size<=1048576):Rt 39 #[.string s] w (.string ⟨(lu s).toArray⟩):=by
 cases hb:s.toList.isEmpty
 ·have a:Hid ((⟨#[61]⟩ ++s:ByteArray)=⟨(lu s).toArray⟩):=by
   show _=_
   unfold lu;rw[hb,if_neg (by decide)]
   apply ByteArray.ext
   simp[ByteArray.data_append]
  have hadd :¬ 9223372036854775807<1+s.size:=ω;go_enter func39,ntmps39
  go_wp2_with fail;go_ret;exact⟨by rw[←a.o];rfl,zS⟩
 have a:Hid ((⟨#[]⟩:ByteArray)=⟨(lu s).toArray⟩):=by
  show _=_
  unfold lu;rw[hb,if_pos rfl]
 have b:s.toList=[]:=List.isEmpty_iff.1 hb
 go_enter func39,ntmps39
 go_wp2_with fail;go_ret;exact⟨by rw[←a.o];rfl,zS⟩
set_option maxHeartbeats 64000000
theorem infoEntK:(prog.info? 45).map (fun i=>(i.zero,i.size,i.bytes))=some (some (.agg #[.slice none 0 0,.int .i64 0]),2,32):=by kernel_rfl
section
variable {H:Type} {enc:TypeId×Value->H} {w:World} {held:Bool}
theorem CZ:prog.cellsOf 33=6:=by kernel_rfl
end
end Go.Proofs.YtjfampgnhccodaaGreatDoor
