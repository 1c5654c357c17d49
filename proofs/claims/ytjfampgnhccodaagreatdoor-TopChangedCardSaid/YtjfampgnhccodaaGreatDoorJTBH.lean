/- A change of a cube: wh -/
import Derived.Test.YtjfampgnhccodaaGreatDoorJTBG
namespace Go.Proofs.YtjfampgnhccodaaGreatDoor
open Tryz ChangeShapes WideShapes ChangeAt RowKit Lib
set_option maxRecDepth 99999
set_option maxHeartbeats 0
noncomputable def mM(D:Nat->Dm)(n:Nat)(l:List En)(c:Chg):Int :=
 if cuErr D n l≠0 then cuErr D n l
 else if c.dim<0\/(n:Int)<=c.dim then 1
 else if cgE (D c.dim.toNat) l c.dim.toNat c≠0 then cgE (D c.dim.toNat) l c.dim.toNat c
 else(au (bN D c.dim.toNat (nZ (D c.dim.toNat) c)) n).2.2
def zj(D:Nat->Dm)(c:Chg):Nat->Dm:=bN D c.dim.toNat (nZ (D c.dim.toNat) c)
noncomputable def Oc(D:Nat->Dm)(n:Nat)(l:List En)(c:Chg):Nat:=if mM D n l c=0 then n else 0
noncomputable def GA(D:Nat->Dm)(n:Nat)(l:List En)(c:Chg):List En:=if mM D n l c=0 then El l c.dim.toNat c else[]
theorem iT{D:Nat->Dm}{n:Nat}(h:(au D n).2.2=0):(ag D n).2.2=0/\∀i,i<n->(bB (D i)).2=0:=by
 unfold au at h
 split at h
 ·rename_i h1;exact absurd h h1
 rename_i h1
 refine⟨by simpa using h1,fun i c=>?_⟩
 rcases findFrom_cases (vJ D) n 0 with⟨_,b⟩|⟨k,e,_,_,a,_⟩
 ·have:=b i zU ω
  unfold vJ at this
  simpa using this
 rw[e,if_pos ω,Int.toNat_natCast]at h
 unfold vJ at a;exact absurd h (of_decide_eq_true a)
theorem iC{D:Nat->Dm}{n:Nat}{l:List En}(h:cuErr D n l=0):(au D n).2.2=0/\Ens D n l:=by
 unfold cuErr at h
 split at h
 ·rename_i h1;exact absurd h h1
 rename_i h1;exact⟨by simpa using h1,qd h⟩
theorem Ls{d:Dm}(h:(bB d).2=0){j:Nat}(c:j<d.n):(d.mem j).formula.size=0\/((d.mem j).formula.size<=100/\prsE (d.mem j).formula=0):=by
 obtain⟨e,f,-,-⟩:=bw h
 by_cases b:(d.mem j).formula.size=0
 ·exact Or.inl b
 refine Or.inr ⟨?_,?_⟩
 ·have a:=(aq e).2.2.2 j c
  unfold aQ at a
  split at a
  ·cases a
  split at a
  ·cases a
  split at a
  ·cases a
  split at a
  ·cases a
  split at a
  ·cases a
  split at a
  ·cases a
  omega
 have:=f j c;unfold mErr at this;rw[if_neg b]at this
 split at this
 ·rename_i h3;exact absurd this h3
 rename_i h3;simpa using h3
def Oa(N:Nat)(D:Nat->Dm)(n:Nat)(l:List En)(E:Int)(w0:World)(e:Ending)(w':World):Prop:=(∃A' c' Am Cm AE' ce' ys,e=.returned (.tuple #[.agg #[.slice A' n c'],.slice AE' ys.length ce',errV E])/\aL w' A' c' n D Am Cm/\bU w' AE' ce' ys/\lE ys=l)/\Below N w0 w'
theorem Oa.bad{N:Nat}{D:Nat->Dm}{n:Nat}{l:List En}{E:Int}{w0 w':World}(c:n=0)(b:l=[])(a:Below N w0 w'):Oa N D n l E w0 (.returned (.tuple #[.agg #[.slice none 0 0],.slice none 0 0,errV E])) w':=by
 subst c b;exact⟨⟨none,0,fun _=>none,fun _=>0,none,0,[],rfl,⟨zT,Or.inl rfl⟩,bU.nil _ _ _ ω,rfl⟩,a⟩
theorem OwD.base{w:World}{B B' g cd n:Nat}{D:Nat->Dm}{G C:Nat->Nat}(h:OwD w B g cd n D G C)(a:B'<=B):OwD w B' g cd n D G C:=⟨ko h.dims a,fun i b=>ko (h.mems i b) a,h.apart⟩
theorem OwE.base{w:World}{B B' g cap:Nat}{ys:List EnL}(h:OwE w B g cap ys)(a:B'<=B):OwE w B' g cap ys:=⟨h.row,zV a h.low,fun y b=>(h.each y b).base a,h.apart⟩
theorem Ni(A0:Option Addr)(cap n:Nat)(D:Nat->Dm)(A:Nat->Option Addr)(C:Nat->Nat)(AE:Option Addr)(ce:Nat)(xs:List EnL)(c:Chg)(w:World)(hM:aL w A0 cap n D A C)(an:bU w AE ce xs)(hT:kz w):
  Calls prog 5 #[.agg #[.slice A0 n cap],.slice AE xs.length ce,kA c] w (Oa w.heap.size (zj D c) (Oc D n (lE xs) c) (GA D n (lE xs) c) (mM D n (lE xs) c) w):=by
 obtain⟨W,hW⟩:=ar (((w.alloc (.cells #[.slice A0 n cap] 24)).alloc (.cells #[.int .i64 c.what,.int .i64 c.dim,.int .i64 c.mb,.string c.name,.int .i64 c.tgt,.int .i64 c.sign] 33)).alloc (.cells #[.slice none 0 0] 24));have t:Bl w W:=by rw[←hW];go_grown
 have bb:W.heap.size=w.heap.size+3:=by rw[←hW];simp
 have k0:W.heap[w.heap.size]?=some (.cells #[.slice A0 n cap] 24 (0,0)):=by
  rw[←hW,Below.heap_alloc _ _ _ (by simp;omega),Below.heap_alloc _ _ _ σ]
  exact heap_alloc_new ..
 have k1:W.heap[w.heap.size+1]?=some (.cells #[.int .i64 c.what,.int .i64 c.dim,.int .i64 c.mb,.string c.name,.int .i64 c.tgt,.int .i64 c.sign] 33 (0,0)):=by
  have:=heap_alloc_new (w.alloc (.cells #[.slice A0 n cap] 24)) (.cells #[.int .i64 c.what,.int .i64 c.dim,.int .i64 c.mb,.string c.name,.int .i64 c.tgt,.int .i64 c.sign] 33);rw[show(w.alloc (.cells #[.slice A0 n cap] 24)).heap.size=w.heap.size+1 by simp]at this
  rw[←hW,Below.heap_alloc _ _ _ σ]
  exact this
 have k2:W.heap[w.heap.size+2]?=some (.cells #[.slice none 0 0] 24 (0,0)):=by
  have:=heap_alloc_new ((w.alloc (.cells #[.slice A0 n cap] 24)).alloc (.cells #[.int .i64 c.what,.int .i64 c.dim,.int .i64 c.mb,.string c.name,.int .i64 c.tgt,.int .i64 c.sign] 33)) (.cells #[.slice none 0 0] 24);rw[show((w.alloc (.cells #[.slice A0 n cap] 24)).alloc (.cells #[.int .i64 c.what,.int .i64 c.dim,.int .i64 c.mb,.string c.name,.int .i64 c.tgt,.int .i64 c.sign] 33)).heap.size=w.heap.size+2 by simp]at this
  rw[←hW];exact this
 have p:Hid (∀w1,Bl W w1->w1.cell? ⟨w.heap.size,0,none⟩=some (.slice A0 n cap)/\w1.cell? ⟨w.heap.size+1,1,none⟩=some (.int .i64 c.dim)/\w1.cell? ⟨w.heap.size+2,0,none⟩=some (.slice none 0 0)/\w1.frozen? ⟨w.heap.size+2,0,none⟩=false/\w1.heap[w.heap.size+1]?=some (.cells #[.int .i64 c.what,.int .i64 c.dim,.int .i64 c.mb,.string c.name,.int .i64 c.tgt,.int .i64 c.sign] 33 (0,0))/\w1.heap[w.heap.size+2]?=some (.cells #[.slice none 0 0] 24 (0,0))):=fun w1 m=>by
  have h0:=(m.block w.heap.size ω).trans k0
  have h1:=(m.block (w.heap.size+1) ω).trans k1
  have h2:=(m.block (w.heap.size+2) ω).trans k2
  exact⟨(Lib.cell_of_heap h0 0).trans rfl,(Lib.cell_of_heap h1 1).trans rfl,(Lib.cell_of_heap h2 0).trans rfl,Lib.frozen_of_heap h2 0,h1,h2⟩
 have I:Hid (∀w1 E,mM D n (lE xs) c=E->E≠0->Bl W w1->Oa w.heap.size (zj D c) (Oc D n (lE xs) c) (GA D n (lE xs) c) (mM D n (lE xs) c) w (.returned (.tuple #[.agg #[.slice none 0 0],.slice none 0 0,errV E])) (w1.setCell ⟨w.heap.size+2,0,none⟩ (.slice none 0 0))):=fun w1 E hE h0 m=>by
  rw[hE];exact Oa.bad (by unfold Oc;rw[hE,if_neg h0]) (by unfold GA;rw[hE,if_neg h0]) ((ad t m).setCell (by show _<=w.heap.size+2;omega) _)
 have ag:Hid (∀w1,Bl W w1->Rt 19 #[.agg #[.slice A0 n cap]] w1 (.tuple #[.int .i64 (au D n).1,.int .i64 (au D n).2.1,errV (au D n).2.2])):=fun w1 m=>eF A0 cap n D A C w1 (hM.later (ad t m))
 have O:Hid (∀w1,Bl W w1->Rt 6 #[.agg #[.slice A0 n cap],.slice AE xs.length ce] w1 (errV (entsErr D n (lE xs)))):=fun w1 m=>dW A0 cap n D A C AE ce xs w1 (hM.later (ad t m)) (an.later (ad t m))
 obtain⟨z1,z2,z3,z4,-,-⟩:=p.o W (Below.refl _ W);have H:=ag.o W (Below.refl _ W);generalize (au D n).1=r1 at H ag;generalize (au D n).2.1=r2 at H ag;have X:(au D n).2.2≠0->mM D n (lE xs) c=(au D n).2.2:=fun h=>by
  have:cuErr D n (lE xs)=(au D n).2.2:=if_pos h;unfold mM;rw[this,if_pos h]
 by_cases F:(au D n).2.2=0
 case neg =>
  have HC:=aa (X F);have HV:=aa (ac F);have HN:=aa F;rw[ac F]at H;generalize (au D n).2.2=E at H HC HV HN;clear F X ag O hM an hT t k0 k1 k2;unfold kA
  go_enter func5,ntmps5
  go_wp2_with fail;refine H.mono ?_;rintro e w1⟨rfl,d⟩;obtain⟨y1,y2,y3,y4,-,-⟩:=p.o w1 d;have P:=aa (I.o w1 E HC.o HN.o d);rw[HV.o]at P;clear d;go_wp2_with fail;have X:=World.cell?_setCell_same w1 ⟨w.heap.size+2,0,none⟩ (.slice none 0 0) y3;refine bodyPost_ret (v:=.tuple #[.agg #[.slice none 0 0],.slice none 0 0,.iface 71 (.int .i64 E)]) (by simp[results,results5,go_sem,X]) rfl P.o
 rw[F,errV_zero]at H;have ay:cuErr D n (lE xs)=entsErr D n (lE xs):=by unfold cuErr;rw[if_neg (by simpa using F)]
 by_cases L:entsErr D n (lE xs)=0
 case neg =>
  have HC:Hid (mM D n (lE xs) c=entsErr D n (lE xs)):=by
   show _=_
   unfold mM;rw[ay,if_pos L]
  have HV:=aa (ac L);have HN:=aa L;rw[ac L]at O;generalize entsErr D n (lE xs)=E at O HC HV HN;clear F L X ag hM an hT t k0 k1 k2 ay;unfold kA
  go_enter func5,ntmps5
  go_wp2_with fail;refine H.mono ?_;rintro e w1⟨rfl,d⟩;obtain⟨y1,y2,y3,y4,-,-⟩:=p.o w1 d;have z:=O.o w1 d;have s:=aa d;clear d;go_wp2_with fail;refine z.mono ?_;rintro e w2⟨rfl,l⟩;obtain⟨x1,x2,x3,x4,-,-⟩:=p.o w2 (ad s.o l);have P:=aa (I.o w2 E HC.o HN.o (ad s.o l));rw[HV.o]at P;clear l z y1 y2 y3 y4;go_wp2_with fail;have X:=World.cell?_setCell_same w2 ⟨w.heap.size+2,0,none⟩ (.slice none 0 0) x3;refine bodyPost_ret (v:=.tuple #[.agg #[.slice none 0 0],.slice none 0 0,.iface 71 (.int .i64 E)]) (by simp[results,results5,go_sem,X]) rfl P.o
 rw[L,errV_zero]at O;have U:cuErr D n (lE xs)=0:=ay.trans L
 by_cases az:c.dim<0\/(n:Int)<=c.dim
 ·have HC:Hid (mM D n (lE xs) c=1):=by
   show _=_
   unfold mM;rw[if_neg (by simpa using U),if_pos az]
  clear F L X ag hM an hT t k0 k1 k2 ay U;unfold kA
  by_cases bG:c.dim<0
  ·clear az
   go_enter func5,ntmps5
   go_wp2_with fail;refine H.mono ?_;rintro e w1⟨rfl,d⟩;obtain⟨y1,y2,y3,y4,-,-⟩:=p.o w1 d;have z:=O.o w1 d;have s:=aa d;clear d;go_wp2_with fail;refine z.mono ?_;rintro e w2⟨rfl,l⟩;obtain⟨x1,x2,x3,x4,-,-⟩:=p.o w2 (ad s.o l);have P:=aa (I.o w2 1 HC.o (by decide) (ad s.o l))
   clear l z y1 y2 y3 y4;go_wp2_with fail;have X:=World.cell?_setCell_same w2 ⟨w.heap.size+2,0,none⟩ (.slice none 0 0) x3;refine bodyPost_ret (v:=.tuple #[.agg #[.slice none 0 0],.slice none 0 0,.iface 71 (.int .i64 1)]) (by simp[results,results5,go_sem,X]) rfl P.o
  have bR:0<=c.dim:=ω;have bS:(n:Int)<=c.dim:=ω;clear az bG
  go_enter func5,ntmps5
  go_wp2_with fail;refine H.mono ?_;rintro e w1⟨rfl,d⟩;obtain⟨y1,y2,y3,y4,-,-⟩:=p.o w1 d;have z:=O.o w1 d;have s:=aa d;clear d;go_wp2_with fail;refine z.mono ?_;rintro e w2⟨rfl,l⟩;obtain⟨x1,x2,x3,x4,-,-⟩:=p.o w2 (ad s.o l);have P:=aa (I.o w2 1 HC.o (by decide) (ad s.o l))
  clear l z y1 y2 y3 y4;go_wp2_with fail;have X:=World.cell?_setCell_same w2 ⟨w.heap.size+2,0,none⟩ (.slice none 0 0) x3;refine bodyPost_ret (v:=.tuple #[.agg #[.slice none 0 0],.slice none 0 0,.iface 71 (.int .i64 1)]) (by simp[results,results5,go_sem,X]) rfl P.o
 obtain⟨k,hk⟩:∃k:Nat,c.dim=k:=⟨c.dim.toNat,ω⟩
 have V:k<n:=ω;obtain⟨bk,ak⟩:=iC U;obtain⟨ab,bj⟩:=iT bk;obtain⟨bH,bg,-,aj⟩:=ao ab;have a8:mM D n (lE xs) c=if cgE (D k) (lE xs) k c≠0 then cgE (D k) (lE xs) k c else(au (bN D k (nZ (D k) c)) n).2.2:=by
  unfold mM;rw[if_neg (by simpa using U),if_neg az,hk,Int.toNat_natCast]
 have am:∀y∈lE xs,y.pl.length=n/\0<=y.pl.getD k 0/\y.pl.getD k 0<=12:=fun y hy=>by
  have h1:=(ak.each y hy).1;have h2:=h1.lo k V;have h3:=h1.hi k V;have:=(aj k V).2;exact⟨h1.len,h2,ω⟩
 have al:xs.length<=3000:=by have:=ak.few;rwa [aR]at this
 have bw:Hid (∀w1,Bl W w1->Calls prog 20 #[.agg #[.slice A0 n cap]] w1 fun e w'=>(∃g c G C',e=.returned (.agg #[.slice (some ⟨g,0,none⟩) n c])/\OwD w' w1.heap.size g c n D G C')/\Bl w1 w'):=fun w1 m=>qP A0 cap n D A C w1 ab (hM.later (ad t m))
 have bv:Hid (∀w1,Bl W w1->Calls prog 21 #[.slice AE xs.length ce] w1 fun e w'=>(∃ys,e=.returned (.slice (some ⟨w1.heap.size,0,none⟩) xs.length xs.length)/\OwE w' w1.heap.size w1.heap.size xs.length ys/\lE ys=lE xs)/\Bl w1 w'):=fun w1 m=>ES AE ce xs w1 al (fun j hj=>by
  have h1:=(am _ (List.mem_map.2 ⟨_,cJ hj,rfl⟩)).1
  omega) (an.later (ad t m))
 have bD:=aa (hT.later t);have a7:=aa am;have a5:=aa a8;have aK:Hid ((D k).n<=12/\Tr (D k).mem (D k).n/\(∀j,j<(D k).n->((D k).mem j).formula.size=0\/(((D k).mem j).formula.size<=100/\prsE ((D k).mem j).formula=0))):=⟨(aj k V).2,Tr.of ((aZ ab).2 k V),fun j hj=>Ls (bj k V) hj⟩
 have br:=aa t;have bE:=aa bb;have bV:(k:Int)<(n:Int):=ω;have bW:(n:Int)<=4:=ω;have bz:=aa V;have bB:=aa bg;have bT:(0:Int)<=(k:Int):=ω;have aD:=aa hk;have bx:=aa al;unfold kA;rw[hk]at z2 hW|-;clear hM an hT t bb k0 k1 k2 X F ay L U az bk ak ab bj bH bg aj a8 am al V ag
 go_enter func5,ntmps5
 go_wp2_with fail;refine H.mono ?_;rintro e w1⟨rfl,d⟩;obtain⟨y1,y2,y3,y4,-,-⟩:=p.o w1 d;have z:=O.o w1 d;have s:=aa d;clear d;go_wp2_with fail;refine z.mono ?_;rintro e w2⟨rfl,l⟩;obtain⟨x1,x2,x3,x4,-,-⟩:=p.o w2 (ad s.o l);rw[hk]at x2;have bf:=bw.o w2 (ad s.o l);have aJ:=aa (ad s.o l);clear l z y1 y2 y3 y4;go_wp2_with fail;refine bf.mono ?_;rintro e w3⟨⟨g,cd,G,C',rfl,aU⟩,aV⟩;obtain⟨W4,aF⟩:=ar (w3.alloc (.cells #[.slice (some ⟨g,0,none⟩) n cd] 24));have aW:Bl w3 W4:=by rw[←aF];go_grown
 have aX:W4.heap[w3.heap.size]?=some (.cells #[.slice (some ⟨g,0,none⟩) n cd] 24 (0,0)):=by rw[←aF];exact heap_alloc_new ..
 have a1:w3.heap.size<W4.heap.size:=by rw[←aF];simp
 have av:=aa (ad aJ.o (ad aV aW));have ax:W.heap.size<=w3.heap.size:=zV aJ.o.size aV.size;have bC:=aa ((aU.later aW).base aJ.o.size);have aN:=aa aX;have bI:(n:Int)<=(cd:Int):=by have:=(aG aU.dims).2.2.1;omega
 obtain⟨u1,u2,u3,u4,-,-⟩:=p.o W4 av.o;rw[hk]at u2;have J:Hid (∀w',Bl W4 w'->w'.cell? ⟨w3.heap.size,0,none⟩=some (.slice (some ⟨g,0,none⟩) n cd)/\w'.cell? ⟨w.heap.size+1,1,none⟩=some (.int .i64 (k:Int))):=fun w' m=>by
  have h1:=(m.block _ a1).trans aX;refine⟨(Lib.cell_of_heap h1 0).trans rfl,?_⟩;have:=(p.o w' (ad av.o m)).2.1
  rwa [hk]at this
 have l4:W4.cell? ⟨w3.heap.size,0,none⟩=some (.slice (some ⟨g,0,none⟩) n cd):=(J.o W4 zS).1;have af:Hid (∀w',Bl W4 w'->Calls prog 21 #[.slice AE xs.length ce] w' fun e bq=>(∃ys,e=.returned (.slice (some ⟨w'.heap.size,0,none⟩) xs.length xs.length)/\OwE bq w'.heap.size w'.heap.size xs.length ys/\lE ys=lE xs)/\Bl w' bq):=fun w' m=>bv.o w' (ad av.o m)
 generalize bP:xs.length=xl at *;clear aV aW aX aU bf x1 x2 x3 x4
 go_upto_region 10 with fail
 clear aF;generalize w3.heap.size=b13 at aN J l4 a1 ax
 go_cut [14]from 51 (fun bQ wx =>∃q ge ys,bQ=.pointer (some ⟨q,0,none⟩)/\Hid (wx.heap[q]?=some (.cells (K2 g k (some ⟨ge,0,none⟩) xl xl) 76 (0,0))/\OwE wx W4.heap.size ge xl ys/\lE ys=lE xs/\W4.heap.size<=q/\Bl W4 wx))
 case first =>
  refine wp_region_held_drew (S:=(fun w'=>Bl W4 w'/\w'.cell? ⟨b13,0,none⟩=some (.slice (some ⟨g,0,none⟩) n cd)/\w'.cell? ⟨w.heap.size+1,1,none⟩=some (.int .i64 (k:Int)))) κ (by(refine(fun hB=>⟨hB,J.o _ hB⟩) ?_;go_grown)) (fun a=>?_)
  refine wpAnyH_take (i:=0) (v:=?v0) rfl κ κ κ (fun _ _ _ h=>h) (Or.inl ⟨by rfl, ?y0⟩) a ?r0
  case y0=>(intro w f;go_simp;try rfl)
  refine wpAnyH_take (i:=1) (v:=?v1) rfl κ κ κ (fun _ _ _ h=>h) (Or.inl ⟨by rfl, ?y1⟩) a ?r1
  case y1=>(intro w f;go_simp;try rfl)
  refine wpAnyH_take (i:=2) (v:=?v2) rfl κ κ κ (fun _ _ _ h=>h) (Or.inl ⟨by rfl, ?y2⟩) a ?r2
  case y2=>(intro w f;go_simp;try rfl)
  refine wpAnyH_take (i:=3) (v:=?v3) rfl κ κ κ (fun _ _ _ h=>h) (Or.inl ⟨by rfl, ?y3⟩) a ?r3
  case y3=>(intro w f;go_simp;try rfl)
  refine wpAnyH_take (i:=4) (v:=?v4) rfl κ κ κ (fun _ _ _ h=>h) (Or.inl ⟨by rfl, ?y4⟩) a ?r4
  case y4=>(intro w f;go_simp;try rfl)
  refine wpAnyH_take (i:=5) (v:=?v5) rfl κ κ κ (fun _ _ _ h=>h) (Or.inl ⟨by rfl, ?y5⟩) a ?r5
  case y5=>(intro w f;go_simp;try rfl)
  refine wpAnyH_take (i:=6) (v:=?v6) rfl κ κ κ (fun _ _ _ h=>h) (Or.inl ⟨by rfl, ?y6⟩) a ?r6
  case y6=>(intro w f;go_simp;try rfl)
  refine wpAnyH_take (i:=7) (v:=?v7) rfl κ κ κ (fun _ _ _ h=>h) (Or.inl ⟨by rfl, ?y7⟩) a ?r7
  case y7=>(intro w f;go_simp;try rfl)
  refine wpAnyH_ready (rs:=[8,10]) κ σ ?_
  refine AllReadyH.cons rfl (fun K Q => ?_) (AllReadyH.cons rfl (fun K Q => ?_) AllReadyH.nil)
  ·go_simp
   refine(af.o _ γ).mono ?_
   rintro e w6⟨⟨ys,rfl,M,N⟩,r⟩;have R:=ad (W0:=W4) γ r
   have bl:=R.size
   dsimp only
   refine Q.out _ _ (⟨R,J.o _ R⟩) (fun a=>?_)
   clear Q K
   refine wpAnyH_take (i:=9) (v:=?v8) rfl κ κ κ (fun _ _ _ h=>h) (Or.inl ⟨by rfl, ?y8⟩) a ?r8
   case y8=>(intro w f;go_simp;try rfl)
   refine wpAnyH_ready (rs:=[10]) κ σ ?_
   refine AllReadyH.cons rfl (fun K Q => ?_) AllReadyH.nil
   go_simp
   have ba:Bl W4 (w6.alloc (.cells #[.pointer none,.int .i64 0,.slice none 0 0] 76)):=by go_grown
   refine Q.out _ _ (⟨ba,J.o _ ba⟩) (fun a=>?_)
   clear Q K
   refine wpAnyH_ready (rs:=[11]) κ σ ?_
   refine AllReadyH.cons rfl (fun K Q => ?_) AllReadyH.nil
   go_simp
   have ah:Bl W4 (w6.alloc (.cells #[.pointer (some ⟨g,k*3,none⟩),.int .i64 (k:Int),.slice (some ⟨W4.heap.size,0,none⟩) xl xl] 76)):=by go_grown
   have HF:Hid ((w6.alloc (.cells #[.pointer (some ⟨g,k*3,none⟩),.int .i64 (k:Int),.slice (some ⟨W4.heap.size,0,none⟩) xl xl] 76)).heap[w6.heap.size]?=some (.cells (K2 g k (some ⟨W4.heap.size,0,none⟩) xl xl) 76 (0,0))/\OwE (w6.alloc (.cells #[.pointer (some ⟨g,k*3,none⟩),.int .i64 (k:Int),.slice (some ⟨W4.heap.size,0,none⟩) xl xl] 76)) W4.heap.size W4.heap.size xl ys/\lE ys=lE xs/\W4.heap.size<=w6.heap.size/\Bl W4 (w6.alloc (.cells #[.pointer (some ⟨g,k*3,none⟩),.int .i64 (k:Int),.slice (some ⟨W4.heap.size,0,none⟩) xl xl] 76))):=⟨heap_alloc_new ..,M.later γ,N,bl,ah⟩
   refine Q.out _ _ (⟨ah,J.o _ ah⟩) (fun a=>?_)
   clear Q K
   refine wpAnyH_done κ ?_ _
   clear M r;go_wp2_with fail;go_meet;exact⟨_,_,ys,rfl,HF⟩
  go_simp
  have aT:Bl W4 (W4.alloc (.cells #[.pointer none,.int .i64 0,.slice none 0 0] 76)).drew:=by go_grown
  refine Q.out _ _ (⟨aT,J.o _ aT⟩) (fun a=>?_)
  clear Q K
  refine wpAnyH_ready (rs:=[8]) κ σ ?_
  refine AllReadyH.cons rfl (fun K Q => ?_) AllReadyH.nil
  go_simp
  refine(af.o _ γ).mono ?_
  rintro e w6⟨⟨ys,rfl,M,N⟩,r⟩;have R:=ad (W0:=W4) aT r;have bl:=R.size;have bF:(W4.alloc (.cells #[.pointer none,.int .i64 0,.slice none 0 0] 76)).drew.heap.size=W4.heap.size+1:=by simp
  rw[bF]at M
  dsimp only
  have aq:w6.heap[W4.heap.size]?=some (.cells #[.pointer none,.int .i64 0,.slice none 0 0] 76 (0,0)):=(r.block W4.heap.size σ).trans (heap_alloc_new W4 (.cells #[.pointer none,.int .i64 0,.slice none 0 0] 76))
  have l0:=(Lib.cell_of_heap aq 0);have l1:=(Lib.cell_of_heap aq 1);have l2:=(Lib.cell_of_heap aq 2);have f0:=fun j=>(Lib.frozen_of_heap aq j)
  simp at l0 l1 l2
  have f1:=f0 0;have f2:=f0 1;have f3:=f0 2;clear f0;refine Q.out _ _ (⟨R,J.o _ R⟩) (fun a=>?_)
  clear Q K
  refine wpAnyH_take (i:=9) (v:=?v9) rfl κ κ κ (fun _ _ _ h=>h) (Or.inl ⟨by rfl, ?y9⟩) a ?r9
  case y9=>(intro w f;go_simp;try rfl)
  refine wpAnyH_ready (rs:=[11]) κ σ ?_
  refine AllReadyH.cons rfl (fun K Q => ?_) AllReadyH.nil
  go_simp
  have bm:=mz (k:=0) (v:=.pointer (some ⟨g,k*3,none⟩)) aq;have bn:=mz (k:=1) (v:=.int .i64 (k:Int)) bm;have bo:=mz (k:=2) (v:=.slice (some ⟨W4.heap.size+1,0,none⟩) xl xl) bn;have ah:Bl W4 (((w6.setCell ⟨W4.heap.size,0,none⟩ (.pointer (some ⟨g,k*3,none⟩))).setCell ⟨W4.heap.size,1,none⟩ (.int .i64 (k:Int))).setCell ⟨W4.heap.size,2,none⟩ (.slice (some ⟨W4.heap.size+1,0,none⟩) xl xl)):=((R.setCell zT _).setCell zT _).setCell zT _;have a9:OwE (((w6.setCell ⟨W4.heap.size,0,none⟩ (.pointer (some ⟨g,k*3,none⟩))).setCell ⟨W4.heap.size,1,none⟩ (.int .i64 (k:Int))).setCell ⟨W4.heap.size,2,none⟩ (.slice (some ⟨W4.heap.size+1,0,none⟩) xl xl)) W4.heap.size (W4.heap.size+1) xl ys:=OwE.base (B:=W4.heap.size+1) (M.keep fun b cs e m _ _=>(ae _ _ _ _ _ (by have:W4.heap.size+1<=b:=m;omega)).trans ((ae _ _ _ _ _ (by have:W4.heap.size+1<=b:=m;omega)).trans (ae _ _ _ _ _ (by have:W4.heap.size+1<=b:=m;omega)))) ω
  have HF:Hid ((((w6.setCell ⟨W4.heap.size,0,none⟩ (.pointer (some ⟨g,k*3,none⟩))).setCell ⟨W4.heap.size,1,none⟩ (.int .i64 (k:Int))).setCell ⟨W4.heap.size,2,none⟩ (.slice (some ⟨W4.heap.size+1,0,none⟩) xl xl)).heap[W4.heap.size]?=some (.cells (K2 g k (some ⟨W4.heap.size+1,0,none⟩) xl xl) 76 (0,0))/\OwE (((w6.setCell ⟨W4.heap.size,0,none⟩ (.pointer (some ⟨g,k*3,none⟩))).setCell ⟨W4.heap.size,1,none⟩ (.int .i64 (k:Int))).setCell ⟨W4.heap.size,2,none⟩ (.slice (some ⟨W4.heap.size+1,0,none⟩) xl xl)) W4.heap.size (W4.heap.size+1) xl ys/\lE ys=lE xs/\W4.heap.size<=W4.heap.size/\Bl W4 (((w6.setCell ⟨W4.heap.size,0,none⟩ (.pointer (some ⟨g,k*3,none⟩))).setCell ⟨W4.heap.size,1,none⟩ (.int .i64 (k:Int))).setCell ⟨W4.heap.size,2,none⟩ (.slice (some ⟨W4.heap.size+1,0,none⟩) xl xl))):=⟨bo,a9,N,zT,ah⟩;clear bm bn bo a9 aq l0 l1 l2 f1 f2 f3;refine Q.out _ _ (⟨ah,J.o _ ah⟩) (fun a=>?_)
  clear Q K
  refine wpAnyH_done κ ?_ _
  clear M r;go_wp2_with fail;go_meet;exact⟨_,_,ys,rfl,HF⟩
 case rest =>
  obtain⟨q,ge,ys,rfl,bd⟩:=hcut;obtain⟨wx,rfl⟩:∃wx:World,wx=wc:=⟨_,rfl⟩;obtain⟨bi,M,N,bM,aI⟩:=bd.o;have a0:ys.length=xl:=by
   have:=congrArg List.length N;rw[aR,aR]at this;rw[this,←bP]
  have aQ:=av.o.size;have bO:W.heap.size<=q:=ω;have hD:DrA wx W.heap.size q g cd n k ge xl D G C' ys:=⟨by rw[a0];exact bi,ω,bC.o.later aI,M.base ω,bz.o,bB.o,by rw[a0];exact bx.o,fun y hy=>(a7.o _ (by rw[←N];exact List.mem_map.2 ⟨y,hy,rfl⟩)).1⟩
  have T:Bl W wx:=ad av.o aI;have x:=zk W.heap.size q g cd n k ge xl D G C' ys c W wx rfl bD.o T T.size aK.o.1 aK.o.2.1 aK.o.2.2 (fun y hy=>(a7.o _ (by rw[←N];exact List.mem_map.2 ⟨y,hy,rfl⟩)).2) hD
  rw[N]at x;have bc:kA c=.agg #[.int .i64 c.what,.int .i64 (k:Int),.int .i64 c.mb,.string c.name,.int .i64 c.tgt,.int .i64 c.sign]:=by unfold kA;rw[aD.o]
  rw[bc]at x;obtain⟨v1,v2,v3,v4,v5,v6⟩:=p.o wx T;rw[aD.o]at v5;have p0:wx.cell? ⟨w.heap.size+1,0,none⟩=some (.int .i64 c.what):=(Lib.cell_of_heap v5 0).trans rfl;have p1:wx.cell? ⟨w.heap.size+1,1,none⟩=some (.int .i64 (k:Int)):=(Lib.cell_of_heap v5 1).trans rfl;have p2:wx.cell? ⟨w.heap.size+1,2,none⟩=some (.int .i64 c.mb):=(Lib.cell_of_heap v5 2).trans rfl;have p3:wx.cell? ⟨w.heap.size+1,3,none⟩=some (.string c.name):=(Lib.cell_of_heap v5 3).trans rfl;have p4:wx.cell? ⟨w.heap.size+1,4,none⟩=some (.int .i64 c.tgt):=(Lib.cell_of_heap v5 4).trans rfl;have p5:wx.cell? ⟨w.heap.size+1,5,none⟩=some (.int .i64 c.sign):=(Lib.cell_of_heap v5 5).trans rfl;have aA:wx.heap[b13]?=some (.cells #[.slice (some ⟨g,0,none⟩) n cd] 24 (0,0)):=(aI.block b13 a1).trans aN.o;have bA:=aa aA;have a4:=aa T;have bs:Hid (zj D c=bN D k (nZ (D k) c)/\(mM D n (lE xs) c=0->Oc D n (lE xs) c=n/\GA D n (lE xs) c=El (lE xs) k c)):=⟨by unfold zj;rw[aD.o,Int.toNat_natCast],fun h=>⟨if_pos h,by unfold GA;rw[if_pos h,aD.o,Int.toNat_natCast]⟩⟩
  have aP:=bE.o;clear bi M N bM aI bd a0 hD bc v1 v2 v5 v6 aA T u1 u2 u3 u4 aQ l4 aN af
  by_cases hg:cgE (D k) (lE xs) k c=0
  case neg =>
   have HE:Hid (mM D n (lE xs) c=cgE (D k) (lE xs) k c):=by show _=_;rw[a5.o,if_pos hg]
   have HV:=aa (ac hg);have HN:=aa hg;generalize cgE (D k) (lE xs) k c=E at x HE HV HN;clear hg;go_wp2_with fail;refine x.mono ?_;rintro e w5⟨rfl,-,ap⟩;rw[HV.o];have ai:=ap.1 W a4.o;obtain⟨-,-,y3,y4,-,-⟩:=p.o w5 ai;have P:=aa (I.o w5 E HE.o HN.o ai);rw[HV.o]at P;clear ap ai v3 v4 p0 p1 p2 p3 p4 p5;go_wp2_with fail;have X:=World.cell?_setCell_same w5 ⟨w.heap.size+2,0,none⟩ (.slice none 0 0) y3;refine bodyPost_ret (v:=.tuple #[.agg #[.slice none 0 0],.slice none 0 0,.iface 71 (.int .i64 E)]) (by simp[results,results5,go_sem,X]) rfl P.o
  have aS:=a5.o;rw[if_neg (by simpa using hg)]at aS
  have aC:=aa aS;rw[hg]at x;clear hg aS;go_wp2_with fail;refine x.mono ?_;rintro e w5⟨rfl,be,ap⟩;rw[errV_zero];obtain⟨G5,C5,zs,aE,bp⟩:=be rfl;have ai:=ap.1 W a4.o;have aY:=ap.2 b13 _ _ bA.o;have a2:b13<w5.heap.size:=(zY aY).1;have Y:Rt 19 #[.agg #[.slice (some ⟨g,0,none⟩) n cd]] w5 (.tuple #[.int .i64 (au (bN D k (nZ (D k) c)) n).1,.int .i64 (au (bN D k (nZ (D k) c)) n).2.1,errV (au (bN D k (nZ (D k) c)) n).2.2]):=eF (some ⟨g,0,none⟩) cd n (bN D k (nZ (D k) c)) (fun i=>some ⟨G5 i,0,none⟩) C5 w5 aE.own.toV
  have l5:w5.cell? ⟨b13,0,none⟩=some (.slice (some ⟨g,0,none⟩) n cd):=(Lib.cell_of_heap aY 0).trans rfl;have aO:Hid (∀w',Bl w5 w'->w'.cell? ⟨b13,0,none⟩=some (.slice (some ⟨g,0,none⟩) n cd)/\w'.cell? ⟨q,2,none⟩=some (.slice (some ⟨ge,0,none⟩) zs.length xl)/\w'.cell? ⟨w.heap.size+2,0,none⟩=some (.slice none 0 0)/\w'.frozen? ⟨w.heap.size+2,0,none⟩=false):=fun w' m=>by
   obtain⟨-,-,y3,y4,-,-⟩:=p.o w' (ad ai m);exact⟨aM m a2 l5,(aE.later m).cells.2.2.1,y3,y4⟩
  have a3:=aa ai;have aw:Hid (mM D n (lE xs) c=0->∀w' u,Bl w5 w'->Oa w.heap.size (zj D c) (Oc D n (lE xs) c) (GA D n (lE xs) c) (mM D n (lE xs) c) w (.returned (.tuple #[.agg #[.slice (some ⟨g,0,none⟩) n cd],.slice (some ⟨ge,0,none⟩) zs.length xl,.nilIface])) (w'.setCell ⟨w.heap.size+2,0,none⟩ u)):=fun h0 w' u m=>by
   obtain⟨e1,e2⟩:=bs.o;obtain⟨e2,e3⟩:=e2 h0;have h6:=aE.later m;have aB:∀b:Nat,W.heap.size<=b->(w'.setCell ⟨w.heap.size+2,0,none⟩ u).heap[b]?=w'.heap[b]?:=fun b aH=>ae _ _ _ _ _ ω
   rw[h0,e1,e2,e3,←bp,←errV_zero];exact⟨⟨_,_,_,_,_,_,zs,rfl,(h6.own.keep fun b cs e aH _ _=>aB b aH).toV,(h6.ents.keep fun b cs e aH _ _=>aB b aH).row.ensV,rfl⟩,(ad br.o (ad a3.o m)).setCell (by show _<=w.heap.size+2;omega) _⟩
  generalize zs.length=zl at aO aw;generalize (au (bN D k (nZ (D k) c)) n).1=t1 at Y;generalize (au (bN D k (nZ (D k) c)) n).2.1=t2 at Y;clear be ap ai aY aE bp v3 v4 p0 p1 p2 p3 p4 p5 x
  by_cases Z:(au (bN D k (nZ (D k) c)) n).2.2=0
  case neg =>
   have HV:=aa (ac Z);have HN:=aa Z;generalize (au (bN D k (nZ (D k) c)) n).2.2=E at Y aC HV HN;rw[HV.o]at Y;clear Z;go_wp2_with fail;refine Y.mono ?_;rintro e w6⟨rfl,r⟩;obtain⟨-,-,y3,y4⟩:=aO.o w6 r;have P:=aa (I.o w6 E aC.o HN.o (ad a3.o r));rw[HV.o]at P;clear r l5;go_wp2_with fail;have X:=World.cell?_setCell_same w6 ⟨w.heap.size+2,0,none⟩ (.slice none 0 0) y3;refine bodyPost_ret (v:=.tuple #[.agg #[.slice none 0 0],.slice none 0 0,.iface 71 (.int .i64 E)]) (by simp[results,results5,go_sem,X]) rfl P.o
  rw[Z]at Y aC;rw[errV_zero]at Y;have bt:=aa (aw.o aC.o);clear Z;go_wp2_with fail;refine Y.mono ?_;rintro e w6⟨rfl,r⟩;obtain⟨y1,y2,y3,y4⟩:=aO.o w6 r;have bu:=aa (fun w' u (m:Bl w6 w')=>bt.o w' u (ad r m))
  clear r l5;have bh:b13≠w.heap.size+2/\q≠w.heap.size+2:=⟨ω,ω⟩
  have a6:=aa bh;obtain⟨bJ,bK⟩:=bh;clear aP bO ax
  go_upto_region 17 with fail
  go_region_held3 (fun w'=>w'.cell? ⟨b13,0,none⟩=some (.slice (some ⟨g,0,none⟩) n cd)/\w'.cell? ⟨q,2,none⟩=some (.slice (some ⟨ge,0,none⟩) zl xl))
   (first|exact⟨y1,y2⟩|exact⟨(World.cell?_setCell_far _ _ _ _ a6.o.1.symm).trans y1,(World.cell?_setCell_far _ _ _ _ a6.o.2.symm).trans y2⟩)
   (fail)
  have P:=aa (bu.o w6.drew (.slice (some ⟨g,0,none⟩) n cd) γ)
  go_wp2_with fail;refine bodyPost_ret (v:=.tuple #[.agg #[.slice (some ⟨g,0,none⟩) n cd],.slice (some ⟨ge,0,none⟩) zl xl,.nilIface]) (by
   have bL:((w6.setCell ⟨w.heap.size+1+1,0,none⟩ (.slice (some ⟨g,0,none⟩) n cd)).drew.cell? ⟨w.heap.size+1+1,0,none⟩)=some (.slice (some ⟨g,0,none⟩) n cd):=World.cell?_setCell_same w6.drew ⟨w.heap.size+2,0,none⟩ (.slice (some ⟨g,0,none⟩) n cd) y3
   simp[results,results5,go_sem,bL]) rfl P.o
end Go.Proofs.YtjfampgnhccodaaGreatDoor
