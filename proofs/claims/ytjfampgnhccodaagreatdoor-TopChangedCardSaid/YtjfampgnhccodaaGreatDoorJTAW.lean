/- What the draft's metho -/
import Derived.Test.YtjfampgnhccodaaGreatDoorJTAS
import Derived.Test.YtjfampgnhccodaaGreatDoorJTAV
namespace Go.Proofs.YtjfampgnhccodaaGreatDoor
open Tryz ChangeShapes WideShapes ChangeAt RowKit Lib Go
set_option maxRecDepth 99999
set_option maxHeartbeats 0
def dA(d:Dm)(m:Mem):Dm:=⟨d.name,d.solve,d.n+1,fun j=>if j=d.n then m else d.mem j⟩
def jp(M:Nat->Mem)(i:Nat)(m:Mem):Nat->Mem:=fun j=>if j=i then m else M j
def setMb(d:Dm)(i:Nat)(m:Mem):Dm:=⟨d.name,d.solve,d.n,jp d.mem i m⟩
theorem fK{M:Nat->Mem}{n i f:Nat}{v:Value}{m:Mem}(k:i<n)(h:f<4)(g:qA (fun _=>m) f=v)(d:∀f',f'<4->f'≠f->qA (fun _=>m) f'=qA (fun _=>M i) f'):(cellsMb M n).set (i*4+f) v=cellsMb (jp M i m) n:=by
 rw[←mx,←mx];refine List.ext_getElem? fun j=>?_
 rw[List.getElem?_set]
 by_cases c:j<n*4
 ·rw[iS _ c,iS _ c]
  have a:∀(M:Nat->Mem),qA M j=qA (fun _=>M (j / 4)) (j % 4):=fun M=>by
   unfold qA;rw[Nat.mod_mod]
  rw[a M,a (jp M i m)]
  by_cases e:j / 4=i
  ·rw[show jp M i m (j / 4)=m from if_pos e]
   by_cases b:j % 4=f
   ·rw[if_pos ω,if_pos (by rw[fR];omega),b,g]
   rw[if_neg ω,d _ ω b,e]
  rw[show jp M i m (j / 4)=M (j / 4)from if_neg e,if_neg ω]
 rw[if_neg ω,List.getElem?_eq_none (by rw[fR];omega),List.getElem?_eq_none (by rw[fR];omega)]
def Oi(w:World)(B q g cd n k ge ce:Nat)(D:Nat->Dm)(l:List En):Prop := ∃G C ys,DrA w B q g cd n k ge ce D G C ys/\lE ys=l
def cA(w:World)(B q g cd n k ge ce:Nat)(D:Nat->Dm)(E:Int)(d':Dm)(l':List En)(e:Ending)(w':World):Prop:=e=.returned (errV E)/\(E=0->Oi w' B q g cd n k ge ce (bN D k d') l')/\Lw B w w'
theorem cA.bad{w w':World}{B q g cd n k ge ce:Nat}{D:Nat->Dm}{E:Int}{d':Dm}{l':List En}(b:E≠0)(a:B<=w.heap.size)(c:Bl w w'):cA w B q g cd n k ge ce D E d' l' (.returned (errV E)) w' :=
 ⟨rfl,fun h=>absurd h b,Lw.of a c⟩
def oY(s:Int):Int:=if s < -1\/1<s then 1 else 0
def fj(d:Dm)(i:Nat)(s:Int):Dm:=setMb d i ⟨(d.mem i).name,(d.mem i).parent,s,(d.mem i).formula⟩
theorem B2(B q g cd n k ge ce:Nat)(D:Nat->Dm)(G C:Nat->Nat)(ys:List EnL)(i:Nat)(s:Int)(w:World)(r:B<=w.heap.size)(j:i<(D k).n)(u:(D k).n<=12)(h:DrA w B q g cd n k ge ce D G C ys):
  Calls prog 55 #[.pointer (some ⟨q,0,none⟩),.int .i64 i,.int .i64 s] w (cA w B q g cd n k ge ce D (oY s) (fj (D k) i s) (lE ys)):=by
 by_cases d:s < -1
 ·rw[show oY s=1 from if_pos (Or.inl d)]
  have a:=aa (cA.bad (q:=q) (g:=g) (cd:=cd) (n:=n) (k:=k) (ge:=ge) (ce:=ce) (D:=D) (d':=fj (D k) i s) (l':=lE ys) (show(1:Int)≠0 by decide) r (Below.refl _ w))
  clear h
  go_enter func55,ntmps55
  go_wp2_with fail;go_ret;exact a.o
 by_cases p:1<s
 ·rw[show oY s=1 from if_pos (Or.inr p)]
  have a:=aa (cA.bad (q:=q) (g:=g) (cd:=cd) (n:=n) (k:=k) (ge:=ge) (ce:=ce) (D:=D) (d':=fj (D k) i s) (l':=lE ys) (show(1:Int)≠0 by decide) r (Below.refl _ w))
  have h1' : -1<=s:=ω;clear h d
  go_enter func55,ntmps55
  go_wp2_with fail;go_ret;exact a.o
 rw[show oY s=0 from if_neg ω]
 obtain⟨c0,c1,c2,-⟩:=h.cells;obtain⟨-,-,c,-⟩:=h.dim;have z:=(h.row.cellAt (i*4+2) ω).trans (cF (D k).mem (D k).n i j).2.2.1
 have e:=h.row.frozenAt (i*4+2);have a:Hid (cA w B q g cd n k ge ce D 0 (fj (D k) i s) (lE ys) (.returned (errV 0)) (w.setCell ⟨G k,i*4+2,none⟩ (.int .i64 s))):=by
  obtain⟨A,E⟩:=h.setM (x:=i*4+2) (v:=.int .i64 s) (M':=(fj (D k) i s).mem) (fK j ω rfl fun f F y=>by
   have:f=0\/f=1\/f=3:=ω;rcases this with rfl|rfl|rfl<;>rfl)
  exact⟨rfl,fun _=>⟨G,C,ys,A,rfl⟩,E⟩
 have l:(i:Int)<((D k).n:Int):=ω;have o:((D k).n:Int)<=12:=ω;have b:((D k).n:Int)<=(C k:Int):=by have:=(aG h.row).2.2.1;omega
 have h1' : -1<=s:=ω;have t:s<=1:=ω;generalize G k=gk at c z e a;generalize C k=ck at c b;generalize (D k).n=m at c l o b;clear h d p u j
 go_enter func55,ntmps55
 go_wp2_with fail;go_ret;exact a.o
def kN(d:Dm)(l:List En)(k i:Nat)(tt:Int):Int:=if tt < -1\/(i:Int)<=tt then 1 else if tt=(d.mem i).parent\/ju l k tt=true\/(tt≠-1/\(d.mem tt.toNat).formula.size≠0)then 6 else 0
def fB(d:Dm)(i:Nat)(tt:Int):Dm:=setMb d i ⟨(d.mem i).name,tt,(d.mem i).sign,(d.mem i).formula⟩
theorem IV(B q g cd n k ge ce:Nat)(D:Nat->Dm)(G C:Nat->Nat)(ys:List EnL)(i:Nat)(tt:Int)(w:World)(T:B<=w.heap.size)(I:i<(D k).n)(P:(D k).n<=12)(h:DrA w B q g cd n k ge ce D G C ys):
  Calls prog 54 #[.pointer (some ⟨q,0,none⟩),.int .i64 i,.int .i64 tt] w (cA w B q g cd n k ge ce D (kN (D k) (lE ys) k i tt) (fB (D k) i tt) (lE ys)):=by
 have a:∀(E:Int) w',E≠0->Bl w w'->cA w B q g cd n k ge ce D E (fB (D k) i tt) (lE ys) (.returned (errV E)) w':=fun E w' X Y=>cA.bad X T Y
 by_cases J:tt < -1
 ·rw[show kN (D k) (lE ys) k i tt=1 from if_pos (Or.inl J)]
  have H:=aa (a 1 w (by decide) (Below.refl _ w))
  clear h a
  go_enter func54,ntmps54
  go_wp2_with fail;go_ret;exact H.o
 by_cases N:(i:Int)<=tt
 ·rw[show kN (D k) (lE ys) k i tt=1 from if_pos (Or.inr N)]
  have H:=aa (a 1 w (by decide) (Below.refl _ w))
  have h1' : -1<=tt:=ω;clear h J a
  go_enter func54,ntmps54
  go_wp2_with fail;go_ret;exact H.o
 obtain⟨c0,c1,c2,-⟩:=h.cells;obtain⟨-,-,j,-⟩:=h.dim;have F:=(h.row.cellAt (i*4+1) ω).trans (cF (D k).mem (D k).n i I).2.1
 have t:=h.row.frozenAt (i*4+1);have y:(i:Int)<((D k).n:Int):=ω;have z:((D k).n:Int)<=12:=ω;have c:((D k).n:Int)<=(C k:Int):=by have:=(aG h.row).2.2.1;omega
 have h1' : -1<=tt:=ω;have W:tt<(i:Int):=ω;have l:=oP B q g cd n k ge ce D G C ys tt w h;have V:=aa h.lt;have s:kN (D k) (lE ys) k i tt=if tt=((D k).mem i).parent\/ju (lE ys) k tt=true\/(tt≠-1/\((D k).mem tt.toNat).formula.size≠0)then 6 else 0:=if_neg ω
 rw[s]
 by_cases A:tt=((D k).mem i).parent
 ·rw[if_pos (Or.inl A)]
  have H:=aa (a 6 w (by decide) (Below.refl _ w))
  have r:(tt ==((D k).mem i).parent)=true:=by simpa using A
  generalize ((D k).mem i).parent=pa at F r;generalize G k=gk at j F t;generalize C k=ck at j c;generalize (D k).n=m at j y z c;clear h J N P I a A l s
  go_enter func54,ntmps54
  go_wp2_with fail;go_ret;exact H.o
 have r:(tt ==((D k).mem i).parent)=false:=by simpa using A
 cases h4:ju (lE ys) k tt
 case true =>
  rw[if_pos (Or.inr (Or.inl rfl))];have H:=aa (fun w'=>a 6 w' (by decide))
  rw[h4]at l;generalize ((D k).mem i).parent=pa at F r;generalize G k=gk at j F t;generalize C k=ck at j c;generalize (D k).n=m at j y z c;clear h J N P I a A h4 s
  go_enter func54,ntmps54
  go_wp2_with fail;refine l.mono ?_;rintro e w1⟨rfl,b⟩;have K:=aa (H.o w1 b);go_wp2_with fail;go_ret;exact K.o
 rw[h4]at l;have d:Hid (∀w1,Bl w w1->cA w B q g cd n k ge ce D 0 (fB (D k) i tt) (lE ys) (.returned (errV 0)) (w1.setCell ⟨G k,i*4+1,none⟩ (.int .i64 tt))/\(∃u,w1.cell? ⟨G k,i*4+1,none⟩=some u)/\w1.frozen? ⟨G k,i*4+1,none⟩=false):=fun w1 b=>by
  have R:=h.later b;obtain⟨r1,r2⟩:=R.setM (x:=i*4+1) (v:=.int .i64 tt) (M':=(fB (D k) i tt).mem) (fK I ω rfl fun f hf Z=>by
   have:f=0\/f=2\/f=3:=ω;rcases this with rfl|rfl|rfl<;>rfl)
  exact⟨⟨rfl,fun _=>⟨G,C,ys,r1,rfl⟩,(Lw.of T b).trans r2⟩,⟨_,(R.row.cellAt (i*4+1) ω).trans (cF (D k).mem (D k).n i I).2.1⟩,R.row.frozenAt _⟩
 by_cases S:tt = -1
 ·subst S
  rw[if_neg (by rintro(e|e|e);exact A e;cases e;exact e.1 rfl)]
  generalize ((D k).mem i).parent=pa at F r;generalize G k=gk at j F t d;generalize C k=ck at j c;generalize (D k).n=m at j y z c;clear h J N P I a A h4 s
  go_enter func54,ntmps54
  go_wp2_with fail;refine l.mono ?_;rintro e w1⟨rfl,b⟩;obtain⟨p1,⟨u,p2⟩,p3⟩:=d.o w1 b;have K:=aa p1;clear p1;go_wp2_with fail;go_ret;exact K.o
 obtain⟨p,rfl⟩:∃p:Nat,tt=p:=⟨tt.toNat,ω⟩
 have M:p<(D k).n:=ω;rw[Int.toNat_natCast];have o:Hid (∀w1,Bl w w1->w1.cell? ⟨G k,p*4+3,none⟩=some (.string ((D k).mem p).formula)):=fun w1 b=>((h.later b).row.cellAt (p*4+3) ω).trans (cF (D k).mem (D k).n p M).2.2.2
 have U:((p:Int) != -1)=true:=by simp
 have Q:(p:Int)<((D k).n:Int):=ω;by_cases O:((D k).mem p).formula.size=0
 ·rw[if_neg (by rintro(e|e|e);exact A e;cases e;exact e.2 O)]
  have L:((D k).mem p).formula.toList.isEmpty=true:=by rw[b9];simpa using O
  generalize ((D k).mem p).formula=fo at o L;generalize ((D k).mem i).parent=pa at F r;generalize G k=gk at j F t d o;generalize C k=ck at j c;generalize (D k).n=m at j y z c Q;clear h J N P I a A h4 s S M O
  go_enter func54,ntmps54
  go_wp2_with fail;refine l.mono ?_;rintro e w1⟨rfl,b⟩;obtain⟨p1,⟨u,p2⟩,p3⟩:=d.o w1 b;have p4:=o.o w1 b;have K:=aa p1;clear p1;go_wp2_with fail;go_ret;exact K.o
 rw[if_pos (Or.inr (Or.inr ⟨ω,O⟩))]
 have H:=aa (fun w'=>a 6 w' (by decide))
 have L:((D k).mem p).formula.toList.isEmpty=false:=by rw[b9];simpa using O
 generalize ((D k).mem p).formula=fo at o L;generalize ((D k).mem i).parent=pa at F r;generalize G k=gk at j F t d o;generalize C k=ck at j c;generalize (D k).n=m at j y z c Q;clear h J N P I a A h4 s S M O
 go_enter func54,ntmps54
 go_wp2_with fail;refine l.mono ?_;rintro e w1⟨rfl,b⟩;have p4:=o.o w1 b;have K:=aa (H.o w1 b);go_wp2_with fail;go_ret;exact K.o
theorem putD_twice(D:Nat->Dm)(k:Nat)(d d':Dm):bN (bN D k d) k d'=bN D k d':=by
 funext i
 unfold bN
 by_cases e:i=k
 ·rw[if_pos e,if_pos e]
 rw[if_neg e,if_neg e,if_neg e]
theorem vT(d:Dm)(m:Mem):cellsMb d.mem d.n++[.string m.name,.int .i64 m.parent,.int .i64 m.sign,.string m.formula]=cellsMb (dA d m).mem (d.n+1):=by
 rw[cellsMb];have e:(dA d m).mem d.n=m:=if_pos rfl;rw[e]
 congr 1
 exact gQ _ fun i a=>(if_neg ω :(if i=d.n then m else d.mem i)=d.mem i).symm
theorem NG{w:World}{B:Nat}{v:Value}{n:Nat}{xs:List Value}{s e:Nat}(h:w.ownsRow B e s v n xs)(d:0<n):∃g c,v=.slice (some ⟨g,0,none⟩) n c:=by
 rcases h.2 with⟨rfl,b⟩|⟨g,cap,a,rfl,_⟩
 ·omega
 exact⟨g,cap,rfl⟩
theorem sk{xs:List Value}{j:Nat}{u:Value}(a:xs[j]?=some u):xs.set j u=xs:=by
 refine List.ext_getElem? fun k=>?_
 rw[List.getElem?_set]
 split
 ·rename_i e;subst e;rw[a];simp[(List.getElem?_eq_some_iff.1 a).1]
 rfl
theorem I2{d d':Dm}{m:Mem}{a:Nat}(h:dA d m=d')(f:d.n=a)(e:(am d').2=0):m.name.size<=281474976710656:=by
 have b:=(aq e).2.2.2 a (by rw[←h];show a<d.n+1;omega)
 have c:d'.mem a=m:=by rw[←h,←f];exact if_pos rfl
 unfold aQ at b
 split at b
 ·cases b
 rename_i h0
 rw[c]at h0;unfold nameErr at h0
 split at h0
 ·exact absurd h0 (by decide)
 omega
def O7(W wx:World)(B q g cd n k ge ce:Nat)(D:Nat->Dm)(ys:List EnL)(m:Mem)(bx:Nat):Prop:=(∃G' C',DrA wx B q g cd n k ge ce (bN D k (dA (D k) m)) G' C' ys/\bx≠G' k)/\wx.heap[bx]?=some (.cells #[.string m.name,.int .i64 m.parent,.int .i64 m.sign,.string m.formula] 64 (0,0))/\Lw B W wx/\W.heap.size<=wx.heap.size
def oR(d:Dm)(l:List En)(k:Nat)(m:Mem):Int:=if(am (dA d m)).2≠0 then(am (dA d m)).2 else if ju l k m.parent=true then 6 else 0
theorem Nt{W w':World}{q g gm bx k:Nat}{u1 u2 u3:Value}(h:bx<W.heap.size/\q<W.heap.size/\g<W.heap.size/\bx≠gm/\q≠gm/\g≠gm/\W.cell? ⟨bx,0,none⟩=some u1/\W.cell? ⟨q,0,none⟩=some u2/\W.cell? ⟨g,k,none⟩=some u3)(a:W.grownBy w' (some gm)):W.grownBy w' (some gm)/\w'.cell? ⟨bx,0,none⟩=some u1/\w'.cell? ⟨q,0,none⟩=some u2/\w'.cell? ⟨g,k,none⟩=some u3 :=
 ⟨a,a.cell h.2.2.2.2.2.2.1 (by simpa using h.2.2.2.1),a.cell h.2.2.2.2.2.2.2.1 (by simpa using h.2.2.2.2.1),a.cell h.2.2.2.2.2.2.2.2 (by simpa using h.2.2.2.2.2.1)⟩
theorem G6(B q g cd n k ge ce:Nat)(D:Nat->Dm)(G C:Nat->Nat)(ys:List EnL)(m:Mem)(w:World)(hB:B<=w.heap.size)(hn:(D k).n<=12)(h:DrA w B q g cd n k ge ce D G C ys):
  Calls prog 51 #[.pointer (some ⟨q,0,none⟩),jh m] w (cA w B q g cd n k ge ce D (oR (D k) (lE ys) k m) (dA (D k) m) (lE ys)):=by
 obtain⟨i0,aR,aW,aX,aY⟩:=info_parts infoMemH;obtain⟨W,hW⟩:=ar (w.alloc (.cells #[.string m.name,.int .i64 m.parent,.int .i64 m.sign,.string m.formula] 64));have ab:Bl w W:=by rw[←hW];go_grown
 have aA:W.heap.size=w.heap.size+1:=by rw[←hW];simp
 have kb:W.heap[w.heap.size]?=some (.cells #[.string m.name,.int .i64 m.parent,.int .i64 m.sign,.string m.formula] 64 (0,0)):=by rw[←hW];exact heap_alloc_new ..
 have f:=h.later ab;obtain⟨c0,c1,c2,-⟩:=f.cells;obtain⟨-,-,d2,ba⟩:=f.dim;have x0:W.cell? ⟨w.heap.size,0,none⟩=some (.string m.name):=(Lib.cell_of_heap kb 0).trans rfl;have x1:W.cell? ⟨w.heap.size,1,none⟩=some (.int .i64 m.parent):=(Lib.cell_of_heap kb 1).trans rfl;have x2:W.cell? ⟨w.heap.size,2,none⟩=some (.int .i64 m.sign):=(Lib.cell_of_heap kb 2).trans rfl;have x3:W.cell? ⟨w.heap.size,3,none⟩=some (.string m.formula):=(Lib.cell_of_heap kb 3).trans rfl;have HD:=aa f;have au:=aa ab;have HO:=aa f.row;have a2:=aa kb;have aT:((D k).n:Int)<=12:=ω;have a3:=aa hn;have R:Hid (∀w',Bl W w'->w'.cell? ⟨g,k*3+2,none⟩=some (.slice (some ⟨G k,0,none⟩) (D k).n (C k))/\w'.frozen? ⟨g,k*3+2,none⟩=false):=fun w' Q=>⟨(f.later Q).dim.2.2.1,(f.later Q).dim.2.2.2 _⟩
 have av:Hid (∀w',Bl W w'->w'.cell? ⟨q,0,none⟩=some (.pointer (some ⟨g,k*3,none⟩))):=fun w' Q=>(f.later Q).cells.1
 have PY:Hid (some q≠(Value.slice (some ⟨G k,0,none⟩) (D k).n (C k)).ownBlock):=fun e=>by
  obtain⟨-,-,-,-,cm,V⟩:=aG f.row;exact aV f.box V (by decide) (Option.some.inj e)
 have T:Hid (some g≠(Value.slice (some ⟨G k,0,none⟩) (D k).n (C k)).ownBlock):=fun e=>by
  obtain⟨-,-,-,-,cg,aE⟩:=aG f.own.dims;obtain⟨-,-,-,-,cm,V⟩:=aG f.row;exact aV aE V (by decide) (Option.some.inj e)
 have bd:q<W.heap.size:=f.lt;have aO:B<=W.heap.size:=ω;have bc:g<W.heap.size:=(aG f.own.dims).2.1;have o:Hid (∀gg cg w6,W.grownBy w6 (some (G k))->w6.ownsRow B 64 4 (.slice (some ⟨gg,0,none⟩) ((D k).n+1) cg) ((D k).n+1) (cellsMb (D k).mem (D k).n++[.string m.name,.int .i64 m.parent,.int .i64 m.sign,.string m.formula])->(gg=G k\/W.heap.size<=gg)->Hid (O7 W (w6.setCell ⟨g,k*3+2,none⟩ (.slice (some ⟨gg,0,none⟩) ((D k).n+1) cg)) B q g cd n k ge ce D ys m w.heap.size)):=fun gg cg w6 hg hr aF=>by
  rw[vT]at hr;obtain⟨r1,r2⟩:=f.newM aO hg hr aF;obtain⟨-,-,-,-,a8,aE⟩:=aG f.own.dims;obtain⟨-,-,-,-,cm,V⟩:=aG f.row;have r:w.heap.size≠G k:=by
   have:=(aG h.row).2.1
   omega
  have aQ:w.heap.size≠g:=by
   have:=(aG h.own.dims).2.1
   omega
  refine⟨⟨_,_,r1,?_⟩,?_,r2,by have:=hg.size;simpa using this⟩
  ·show w.heap.size≠if k=k then gg else G k
   rw[if_pos rfl]
   rcases aF with e|e<;>omega
  exact(ae _ _ _ _ _ aQ).trans ((hg.block _ ω fun e=>r (Option.some.inj e)).trans kb)
 obtain⟨XS,ag⟩:=ar (cellsMb (D k).mem (D k).n);have a5:=aa ag;rw[ag]at HO o;have aU:(D k).n<=12:=hn;obtain⟨gk,X⟩:=ar (G k);obtain⟨ck,a⟩:=ar (C k);obtain⟨b,L⟩:=ar ((D k).n);rw[X,a,L]at d2 HO R T PY;rw[X,L]at o;rw[L]at aT aU;have a1:=aa X;have a0:=aa a;have PW:=aa L;have a4:=aa aA;clear h f ab kb ag X a L hn aA;unfold jh
 go_enter func51,ntmps51
 go_upto_region 1 with fail
 go_cut []from 8 (fun wx=>Hid (O7 W wx B q g cd n k ge ce D ys m w.heap.size))
 case first =>
  go_region_law (first
   |(refine step_append_lies _ (by rfl) _ _ _ (by rfl) B 64 i0 _ 4 48 underlying65 aR aW aX aY rfl ω (.slice (some ⟨gk,0,none⟩) b ck) b XS (by rfl) (nw HO.o γ) ⟨W.heap.size,0,none⟩ 1 1 [.string m.name,.int .i64 m.parent,.int .i64 m.sign,.string m.formula] (by rfl) (by rfl) (World.news_of_block (cs:=#[.string m.name,.int .i64 m.parent,.int .i64 m.sign,.string m.formula]) (t:=64) (fr:=(0,0)) (heap_alloc_new _ _)) (by simp[Value.oneCell']) ω (by unfold maxLen;omega) ω (by simp;omega) (W.heap.size+1) σ ?_;intro gg cg w6 O c aB an;have y1:=(c.cell_far ⟨g,k*3+2,none⟩ (by simp;omega) T.o).trans (R.o _ γ).1;have y2:=(c.frozen_far ⟨g,k*3+2,none⟩ (by simp;omega) T.o).trans (R.o _ γ).2;have y3:=(c.cell_far ⟨q,0,none⟩ (by simp;omega) PY.o).trans (av.o _ γ)))
  all_goals (have aK:=o.o gg cg w6 (aS (aC γ) c) O (aB.imp (fun e=>(Option.some.inj e).symm) (fun e=>ω)))
  all_goals clear O c aB an y1 y2 y3
  all_goals (go_wp2_with fail;go_meet;exact aK)
 case rest =>
  obtain⟨wx,rfl⟩:∃wx:World,wx=wc:=⟨_,rfl⟩;obtain⟨⟨G',C',s,ah⟩,r,N,bf⟩:=hcut.o;have e1:bN D k (dA (D k) m) k=dA (D k) m:=putD_at ..;obtain⟨c0,c1,c2,-⟩:=s.cells;obtain⟨d0,d1,d2,-⟩:=s.dim;rw[e1]at d0 d1 d2;have af:dC wx (some ⟨G' k,0,none⟩) (C' k) (dA (D k) m).n (dA (D k) m).mem:=by
   have hr:=s.row;rw[e1]at hr;obtain⟨A1,a6,e2,h2⟩:=qB hr;cases e2;exact h2.toV
  have a:=gD (dA (D k) m) (some ⟨G' k,0,none⟩) (C' k) wx af;unfold dw at a;have HX:=aa s;have aD:w.heap.size<wx.heap.size:=(zY r).1;have Z:Hid (∀w',Bl wx w'->w'.cell? ⟨w.heap.size,0,none⟩=some (.string m.name)/\w'.cell? ⟨w.heap.size,1,none⟩=some (.int .i64 m.parent)):=fun w' Q=>by
   have h1:=(Q.block _ aD).trans r;exact⟨(Lib.cell_of_heap h1 0).trans rfl,(Lib.cell_of_heap h1 1).trans rfl⟩
  have PU:=aa N;have ao:(dA (D k) m).n=b+1:=by show(D k).n+1=_;rw[PW.o]
  have aZ:Hid ((dA (D k) m).name=(D k).name):=rfl;obtain⟨d',K⟩:=ar (dA (D k) m);have S:=aa K;rw[K]at a d0 d1 d2 ao e1;have u:Hid (∀E w',oR (D k) (lE ys) k m=E->E≠0->Bl wx w'->cA w B q g cd n k ge ce D (oR (D k) (lE ys) k m) (dA (D k) m) (lE ys) (.returned (errV E)) w'):=fun E w' h1 P Q=>by
   rw[h1];exact⟨rfl,fun h=>absurd h P,((Lw.of hB au.o).trans PU.o).trans (Lw.of ω Q)⟩
  have p:oR (D k) (lE ys) k m=if(am d').2≠0 then(am d').2 else if ju (lE ys) k m.parent=true then 6 else 0:=by unfold oR;rw[K]
  obtain⟨s1,s2,n',mm⟩:=d';simp only at d0 d1 d2 ao a;subst ao;generalize (am ⟨s1,s2,b+1,mm⟩).1=z at a
  by_cases P:(am ⟨s1,s2,b+1,mm⟩).2=0
  ·rw[if_neg (by simpa using P)]at p
   rw[P,errV_zero]at a;have ax:=aa p;have i:∀w',Bl wx w'->_:=fun w' Q=>oP B q g cd n k ge ce _ G' C' ys m.parent w' (HX.o.later Q)
   have ay:=aa i;have aL:Hid (m.name.size<=281474976710656):=I2 S.o PW.o P;have bh:IntKind.i64.wrap ((b:Int)+1-1)=(b:Int):=by rw[show(b:Int)+1-1=b by omega];exact IntWalk.i64_in _ ω
   clear s hcut r N af i p P K;go_wp2_with fail;refine a.mono ?_;rintro e w2⟨rfl,j⟩;have aq:=aa j;obtain⟨b0,b1⟩:=Z.o w2 j;have i:=ay.o w2 j;clear j a c0 c1 c2 d0 d1 d2;cases hw4:ju (lE ys) k m.parent
   case true =>
    rw[hw4]at i;have PX:Hid (oR (D k) (lE ys) k m=6):=by show _=_;rw[ax.o,if_pos hw4]
    clear hw4;go_wp2_with fail;refine i.mono ?_;rintro e w3⟨rfl,H⟩;have HF:=aa (u.o 6 w3 PX.o (by decide) (ad aq.o H))
    clear H;go_wp2_with fail;go_ret;exact HF.o
   rw[hw4]at i;have PX:Hid (oR (D k) (lE ys) k m=0):=by show _=_;rw[ax.o,if_neg (by rw[hw4];decide)]
   clear hw4;go_wp2_with fail;refine i.mono ?_;rintro e w3⟨rfl,H⟩;have A:=ad aq.o H;have y:=HX.o.later A;rw[S.o]at y;have aI:=aa A;obtain⟨az,aN⟩:=Z.o w3 A;have ap:q<w3.heap.size:=y.lt;have aj:g<w3.heap.size:=(aG y.own.dims).2.1;obtain⟨-,-,-,-,a7,PV⟩:=aG y.own.dims;obtain⟨-,al,M,-,a9,J⟩:=aG y.row;have I:w.heap.size<w3.heap.size:=zW aD A.size;have k0:=y.cells.1;have k2:=y.dim.2.2.1;have d:=y.row;rw[e1]at k2 M d;simp only at k2 M d;have U:Hid (w.heap.size<w3.heap.size/\q<w3.heap.size/\g<w3.heap.size/\w.heap.size≠G' k/\q≠G' k/\g≠G' k/\w3.cell? ⟨w.heap.size,0,none⟩=some (.string m.name)/\w3.cell? ⟨q,0,none⟩=some (.pointer (some ⟨g,k*3,none⟩))/\w3.cell? ⟨g,k*3+2,none⟩=some (.slice (some ⟨G' k,0,none⟩) (b+1) (C' k))):=⟨I,ap,aj,ah,aV y.box J (by decide),aV PV J (by decide),az,k0,k2⟩
   have Y:=(cF mm (b+1) b ω).1
   have aH:(mm b).name=m.name:=by
    have h1:(dA (D k) m).mem (D k).n=m:=if_pos rfl;rw[S.o,PW.o]at h1;exact congrArg Mem.name h1
   rw[aH]at Y;have aw:Hid (∀w4,Bl w3 w4->w4.cell? ⟨G' k,b*4,none⟩=some (.string m.name)/\w4.frozen? ⟨G' k,b*4,none⟩=false):=fun w4 l=>by
    have h4:=ak d l;exact⟨(h4.cellAt (b*4) ω).trans Y,h4.frozenAt _⟩
   have PT:Hid (∀w4,Bl w3 w4->cA w B q g cd n k ge ce D (oR (D k) (lE ys) k m) (dA (D k) m) (lE ys) (.returned (errV 0)) (w4.setCell ⟨G' k,b*4,none⟩ (.string m.name))):=fun w4 l=>by
    have h4:=y.later l;obtain⟨r1,r2⟩:=h4.setM (x:=b*4) (v:=.string m.name) (M':=mm) (by
     rw[e1];exact sk Y)
    rw[PX.o];refine⟨rfl,fun _=>⟨G',C',ys,?_,rfl⟩,(((Lw.of hB au.o).trans PU.o).trans (Lw.of ω (ad aI.o l))).trans r2⟩
    rw[S.o];rw[putD_twice,e1]at r1;exact r1
   have aM:Hid (∀w',Rt 48 #[.string m.name] w' (.string m.name)):=fun w'=>d5 _ w' aL.o
   have ai:(b:Int)+1<=(C' k:Int):=ω;have bb:(b:Int)<(b:Int)+1:=ω;have bg:=aa I;clear i A y H d Y J PV aH R T PY o HO HX ay u av;generalize G' k=gm at k2 U aw PT ah al;generalize C' k=cm' at k2 U ai M;generalize w.heap.size=bx at az aN U I ah;go_wp2_with fail
   go_region_held3 (fun w'=>w3.grownBy w' (some gm)/\w'.cell? ⟨bx,0,none⟩=some (.string m.name)/\w'.cell? ⟨q,0,none⟩=some (.pointer (some ⟨g,k*3,none⟩))/\w'.cell? ⟨g,k*3+2,none⟩=some (.slice (some ⟨gm,0,none⟩) (b+1) cm'))
    ((refine Nt U.o ?_;(repeat (first|exact bP _ _|assumption|refine cX ?_|refine eI ?_ _ _));done))
    (first|(go_at_call 48;refine(aM.o _).mono ?_;rintro e w4⟨rfl,l⟩;have F:=ad (W0:=w3) γ l;have aP:w3.grownBy w4 (some gm):=aC F;obtain⟨z0,f0⟩:=aw.o w4 F;have aJ:=aa F;have be:=F.size;clear l F))
   all_goals (have HF:=aa (PT.o w4 aJ.o))
   all_goals clear z0 f0 aP
   all_goals go_wp2_with fail
   all_goals go_ret
   all_goals exact HF.o
  rw[if_pos (by simpa using P)]at p
  have hV:=ac P;have HF:=aa (fun w'=>u.o _ w' p P)
  generalize (am ⟨s1,s2,b+1,mm⟩).2=E at a HF hV;clear s hcut r N af p P K;rw[hV]at a;go_wp2_with fail;refine a.mono ?_;rintro e w2⟨rfl,j⟩;have HG:=aa (HF.o w2 j);clear j;go_wp2_with fail;go_ret;have hG:=HG.o;rw[hV]at hG;exact hG
theorem fQ{w w':World}{base e aa n:Nat}{v:Value}{xs:List Value}(h:w.ownsRow base e aa v n xs)(a:∀b,v.ownBlock=some b->w'.heap[b]?=w.heap[b]?):w'.ownsRow base e aa v n xs:=by
 refine⟨h.1,?_⟩
 rcases h.2 with h0|⟨g',cap,ab,rfl,h2,h3,h4⟩
 ·exact Or.inl h0
 exact Or.inr ⟨g',cap,ab,rfl,h2,(a g' rfl).trans h3,h4⟩
def b7(L:List RDm):Nat->Dm:=fun i=>kG (L.getD i fD)
theorem kV{D D':Nat->Dm}{A A':Nat->Option Addr}{C C':Nat->Nat}:∀k,(∀i,i<k->D i=D' i/\A i=A' i/\C i=C' i)->cellsDo D A C k=cellsDo D' A' C' k
 | 0,_=>rfl
 |k+1,h=>by
  obtain⟨a,b,c⟩:=h k ω
  rw[cellsDo,cellsDo,kV k fun i d=>h i ω,a,b,c]
theorem pR{M M':Nat->Mem}:∀k,(∀i,i<k->M i=M' i)->cellsMb M k=cellsMb M' k
 | 0,_=>rfl
 |k+1,h=>by rw[cellsMb,cellsMb,pR k fun i a=>h i ω,h k ω]
structure DmV(w:World)(B:Nat)(vd:Value)(A:Nat->Option Addr)(C:Nat->Nat)(L:List RDm):Prop where
 dims:w.ownsRow B 67 3 vd L.length (cellsDo (b7 L) A C L.length)
 mems:∀j,j<L.length->w.ownsRow B 64 4 (.slice (A j) (b7 L j).n (C j)) (b7 L j).n (cellsMb (b7 L j).mem (b7 L j).n)
 last:∀j,j+1<L.length->∀g,(Value.slice (A j) 0 0).ownBlock=some g->(Value.slice (A (L.length-1)) 0 0).ownBlock≠some g
theorem nt(A:Option Addr)(n c:Nat):(Value.slice A n c).ownBlock=(Value.slice A 0 0).ownBlock:=by cases A<;>rfl
theorem DmV.nil(w:World)(B:Nat)(A:Nat->Option Addr)(C:Nat->Nat):DmV w B (.slice none 0 0) A C []:=⟨World.ownsRow_nil w B _ 3,fun j a=>absurd a (Nat.not_lt_zero _),fun j a=>by simp at a⟩
theorem DmV.keep{w w':World}{B:Nat}{vd:Value}{A:Nat->Option Addr}{C:Nat->Nat}{L:List RDm}(h:DmV w B vd A C L)(g:∀b cs fr t,B<=b->w.heap[b]?=some (.cells cs t fr)->t=67\/t=64->w'.heap[b]?=w.heap[b]?):DmV w' B vd A C L :=
 ⟨fQ h.dims fun b e=>by obtain⟨c,-,a,d⟩:=aO h.dims e;exact g b a _ _ c d (Or.inl rfl),
  fun j f=>fQ (h.mems j f) fun b e=>by obtain⟨c,-,a,d⟩:=aO (h.mems j f) e;exact g b a _ _ c d (Or.inr rfl),h.last⟩
theorem DmV.later{w w':World}{B:Nat}{vd:Value}{A:Nat->Option Addr}{C:Nat->Nat}{L:List RDm}(h:DmV w B vd A C L)(c:Bl w w'):DmV w' B vd A C L :=
 h.keep fun b _ _ _ _ a _=>c.block b (zY a).1
theorem Af{L:List RDm}{d:RDm}{i:Nat}(h:i<L.length):(L++[d]).getD i fD=L.getD i fD:=by
 simp[List.getD,List.getElem?_append_left h]
theorem Io{L:List RDm}{d:RDm}:(L++[d]).getD L.length fD=d:=by simp[List.getD]
theorem DmV.push{w w':World}{B:Nat}{vd aa:Value}{A:Nat->Option Addr}{C:Nat->Nat}{L:List RDm}{nm:ByteArray}{sv:Int}(h:DmV w B vd A C L)(r:∀b cs fr,B<=b->w.heap[b]?=some (.cells cs 64 fr)->w'.heap[b]?=w.heap[b]?)(c:w'.ownsRow B 67 3 aa (L.length+1) (cellsDo (b7 L) A C L.length++[.string nm,.int .i64 sv,.slice none 0 0])):DmV w' B aa (fun j=>if j<L.length then A j else none) (fun j=>if j<L.length then C j else 0) (L++[⟨nm,sv,[]⟩]):=by
 have m:∀j,j<L.length->b7 (L++[⟨nm,sv,[]⟩]) j=b7 L j:=fun j d=>by unfold b7;rw[Af d]
 have n:b7 (L++[⟨nm,sv,[]⟩]) L.length=⟨nm,sv,0,fun k=>List.getD [] k I4⟩:=by unfold b7;rw[Io];rfl
 have l:(L++[(⟨nm,sv,[]⟩:RDm)]).length=L.length+1:=by simp
 refine⟨?_,fun j d=>?_,fun j d g s=>?_⟩
 ·rw[l,cellsDo,n,kV (A':=A) (C':=C) L.length fun i f=>⟨m i f,if_pos f,if_pos f⟩]
  simp only[Nat.lt_irrefl,if_false];exact c
 ·rw[l]at d
  by_cases a:j<L.length
  ·rw[m j a]
   simp only[if_pos a];exact fQ (h.mems j a) fun b q=>by obtain⟨o,-,e,p⟩:=aO (h.mems j a) q;exact r b e _ o p
  obtain rfl:j=L.length:=ω;rw[n];simp only[Nat.lt_irrefl,if_false];exact World.ownsRow_nil w' B _ 4
 rw[l]
 simp[Value.ownBlock]
theorem ET{L:List RDm}{m:Mem}{j:Nat}(a:j+1<L.length):(jF L m).getD j fD=L.getD j fD:=by
 unfold jF;simp only[List.getD,List.getElem?_set];rw[if_neg ω]
theorem qk{L:List RDm}{m:Mem}(a:0<L.length):(jF L m).getD (L.length-1) fD=⟨(L.getD (L.length-1) fD).name,(L.getD (L.length-1) fD).solve,(L.getD (L.length-1) fD).mem++[m]⟩:=by
 unfold jF;rw[List.getD,List.getElem?_set,if_pos rfl,if_pos ω]
 rfl
theorem DmV.more{w wa w1:World}{B gd cd g t:Nat}{A:Nat->Option Addr}{C:Nat->Nat}{L:List RDm}{m:Mem}(h:DmV w B (.slice (some ⟨gd,0,none⟩) L.length cd) A C L)(V:0<L.length)(x:Bl w wa)
  (q:w1.ownsRow B 64 4 (.slice (some ⟨g,0,none⟩) ((b7 L (L.length-1)).n+1) t) ((b7 L (L.length-1)).n+1) (cellsMb (b7 L (L.length-1)).mem (b7 L (L.length-1)).n++[.string m.name,.int .i64 m.parent,.int .i64 m.sign,.string m.formula]))
  (f:wa.grownBy w1 (Value.slice (A (L.length-1)) (b7 L (L.length-1)).n (C (L.length-1))).ownBlock) (G:(Value.slice (A (L.length-1)) (b7 L (L.length-1)).n (C (L.length-1))).ownBlock=some g\/wa.heap.size<=g):
  DmV (w1.setCell ⟨gd,(L.length-1)*3+2,none⟩ (.slice (some ⟨g,0,none⟩) ((b7 L (L.length-1)).n+1) t)) B (.slice (some ⟨gd,0,none⟩) L.length cd) (fun j=>if j=L.length-1 then some ⟨g,0,none⟩else A j) (fun j=>if j=L.length-1 then t else C j) (jF L m):=by
 obtain⟨N,o,M,d⟩:=aO h.dims (b:=gd) rfl;have U:L.length-1<L.length:=ω;have a:(jF L m).length=L.length:=vC L m;have E:∀j,j+1<L.length->b7 (jF L m) j=b7 L j:=fun j p=>by unfold b7;rw[ET p]
 have F:b7 (jF L m) (L.length-1)=⟨(b7 L (L.length-1)).name,(b7 L (L.length-1)).solve,(b7 L (L.length-1)).n+1,fun k=>((L.getD (L.length-1) fD).mem++[m]).getD k I4⟩:=by
  unfold b7;rw[qk V];unfold kG
  simp
 have r:w1.heap[gd]?=w.heap[gd]?:=by
  refine(f.block gd (zW o x.size) fun e=>?_).trans (x.block gd o)
  exact eC (h.mems _ U) d (by decide) e.symm
 have H:w1.ownsRow B 67 3 (.slice (some ⟨gd,0,none⟩) L.length cd) L.length (cellsDo (b7 L) A C L.length):=fQ h.dims fun b c=>by cases c;exact r
 have K:g≠gd:=fun e=>by
  subst e;exact eC q (r.trans d) (by decide) rfl
 refine⟨?_,fun j p=>?_,fun j p g' s=>?_⟩
 ·rw[a]
  have v:=(H.stored ((L.length-1)*3+2) (.slice (some ⟨g,0,none⟩) ((b7 L (L.length-1)).n+1) t)).1;have Q:(cellsDo (b7 L) A C L.length).set ((L.length-1)*3+2) (.slice (some ⟨g,0,none⟩) ((b7 L (L.length-1)).n+1) t)=cellsDo (b7 (jF L m)) (fun j=>if j=L.length-1 then some ⟨g,0,none⟩else A j) (fun j=>if j=L.length-1 then t else C j) L.length:=by
   obtain⟨l,J⟩:∃l,L.length=l+1:=⟨L.length-1,ω⟩
   simp only[J,Nat.add_sub_cancel]at E F|-;rw[cellsDo,cellsDo,F,List.set_append_right _ _ (by rw[cellsDo_len];omega),cellsDo_len,show l*3+2-l*3=2 by omega]
   simp only[if_true]
   congr 1
   refine kV l fun i O=>⟨(E i ω).symm,?_,?_⟩ <;>rw[if_neg ω]
  rw[←Q];exact v
 ·rw[a]at p
  by_cases z:j=L.length-1
  ·subst z
   rw[F];simp only[if_true];rw[cellsMb];have R:cellsMb (fun k=>((L.getD (L.length-1) fD).mem++[m]).getD k I4) (b7 L (L.length-1)).n=cellsMb (b7 L (L.length-1)).mem (b7 L (L.length-1)).n:=pR _ fun i O=>by
    show((L.getD (L.length-1) fD).mem++[m]).getD i I4=(L.getD (L.length-1) fD).mem.getD i I4
    have y:i<(L.getD (L.length-1) fD).mem.length:=O;generalize (L.getD (L.length-1) fD).mem=mm at y
    simp[List.getD,List.getElem?_append_left y]
   have S:((L.getD (L.length-1) fD).mem++[m]).getD (b7 L (L.length-1)).n I4=m:=by
    show((L.getD (L.length-1) fD).mem++[m]).getD (L.getD (L.length-1) fD).mem.length I4=m
    generalize (L.getD (L.length-1) fD).mem=mm
    simp[List.getD]
   rw[R,S];exact dx q (fun e=>K (Option.some.inj e))
  rw[E j ω]
  simp only[if_neg z];refine fQ (h.mems j p) fun b c=>?_
  obtain⟨T,v,P,u⟩:=aO (h.mems j p) c;have D:b≠gd:=fun e=>by
   subst e;rw[d]at u;have:=(Obj.cells.inj (Option.some.inj u)).2.1;exact absurd this (by decide)
  rw[ae _ _ _ _ _ D,f.block b (zW v x.size) fun e=>?_,x.block b v]
  rw[nt]at c e;exact h.last j ω b c e.symm
 rw[a]at p|-;simp only[if_true];rw[if_neg ω]at s
 intro e;have I:g=g':=by simpa [Value.ownBlock]using e
 subst I;obtain⟨T,v,-⟩:=aO (h.mems j ω) (by rw[nt];exact s)
 rcases G with u|u
 ·rw[nt]at u
  exact h.last j p g s u
 have:=x.size
 omega
theorem DmV.toV{w:World}{B:Nat}{vd:Value}{A:Nat->Option Addr}{C:Nat->Nat}{L:List RDm}(h:DmV w B vd A C L):∃A0 cap,vd=.slice A0 L.length cap/\aL w A0 cap L.length (b7 L) A C:=by
 refine wF h.dims fun j c=>?_
 obtain⟨A1,c1,a,b⟩:=qB (h.mems j c);cases a;exact b
def cellsDW(S:RdQ):Nat->List Value
 | 0=>[]
 |k+1=>cellsDW S k++[.int .i64 ((S.first+k:Nat):Int),.string (S.pl.getD k noWd),.int .i64 (S.num.getD k 0)]
theorem pS(S:RdQ):∀k,(cellsDW S k).length=k*3
 | 0=>rfl
 |k+1=>by rw[cellsDW,List.length_append,pS S k];simp;omega
theorem ke{S S':RdQ}(a:S.first=S'.first):∀k,(∀i,i<k->S.pl.getD i noWd=S'.pl.getD i noWd/\S.num.getD i 0=S'.num.getD i 0)->cellsDW S k=cellsDW S' k
 | 0,_=>rfl
 |k+1,h=>by
  obtain⟨b,c⟩:=h k ω
  rw[cellsDW,cellsDW,ke a k fun i d=>h i ω,a,b,c]
theorem zd(S:RdQ)(n:Nat):∀k,k<n->(cellsDW S n)[k*3]?=some (.int .i64 ((S.first+k:Nat):Int))/\(cellsDW S n)[k*3+1]?=some (.string (S.pl.getD k noWd))/\(cellsDW S n)[k*3+2]?=some (.int .i64 (S.num.getD k 0)):=by
 induction n with
 |zero=>intro k h;omega
 |succ n ih =>
  intro k b;rw[cellsDW];have a:=pS S n
  by_cases h:k=n
  ·subst h
   refine⟨?_,?_,?_⟩ <;>rw[List.getElem?_append_right ω,a]
   ·rw[Nat.sub_self];rfl
   ·rw[show k*3+1-k*3=1 by omega];rfl
   rw[show k*3+2-k*3=2 by omega];rfl
  have:=ih k ω
  refine⟨?_,?_,?_⟩ <;>rw[List.getElem?_append_left ω]
  ·exact this.1
  ·exact this.2.1
  exact this.2.2
theorem vZ{S:RdQ}{i:Nat}{p:ByteArray}{x:Int}(e:S.num.length=S.pl.length)(f:S.pl.length=0\/S.first+S.pl.length=i):cellsDW ⟨S.dims,S.pl++[p],S.num++[x],if S.pl.length=0 then i else S.first⟩ (S.pl.length+1)=cellsDW S S.pl.length++[.int .i64 (i:Int),.string p,.int .i64 x]:=by
 rw[cellsDW]
 congr 1
 ·by_cases a:S.pl.length=0
  ·rw[a];rfl
  refine ke (by simp only[if_neg a]) _ fun k d=>⟨?_,?_⟩
  ·simp[List.getD,List.getElem?_append_left d]
  simp only[List.getD];rw[List.getElem?_append_left ω]
 have b:(S.pl++[p]).getD S.pl.length noWd=p:=by simp[List.getD]
 have c:(S.num++[x]).getD S.pl.length 0=x:=by rw[←e];simp[List.getD]
 simp only[b,c]
 congr 3
 split
 ·omega
 omega
end Go.Proofs.YtjfampgnhccodaaGreatDoor
