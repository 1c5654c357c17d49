/- How a member is told, -/
import Derived.Test.YtjfampgnhccodaaGreatDoorJTAQ
import Derived.Test.YtjfampgnhccodaaGreatDoorJTAU
namespace Go.Proofs.YtjfampgnhccodaaGreatDoor
open Tryz ChangeShapes WideShapes ChangeAt RowKit
set_option maxRecDepth 99999
set_option maxHeartbeats 0
structure WL where
 lf:Bool
 nd:List Nd
 An:Option Addr
 cn:Nat
 nm:List (List UInt8)
 As:Option Addr
 cs:Nat
 ne:List Int
 Ai:Option Addr
 ci:Nat
 sg:List Int
 Ag:Option Addr
 cg:Nat
def eS:WL:=⟨false,[],none,0,[],none,0,[],none,0,[],none,0⟩
def jb(x:WL):List Value:=[.bool x.lf,.slice x.An x.nd.length x.cn,.slice x.As x.nm.length x.cs,.slice x.Ai x.ne.length x.ci,.slice x.Ag x.sg.length x.cg]
def wayV(x:WL):Value:=.agg #[.bool x.lf,.slice x.An x.nd.length x.cn,.slice x.As x.nm.length x.cs,.slice x.Ai x.ne.length x.ci,.slice x.Ag x.sg.length x.cg]
def ey(w:World)(x:WL):Prop:=jE w x.An x.cn x.nd/\ky w x.As x.cs x.nm/\aJ w x.Ai x.ci x.ne/\aJ w x.Ag x.cg x.sg
theorem Gx:(223:Nat)≠149:=by decide
theorem CM:(9:Nat)≠149:=by decide
theorem rS:(3:Nat)≠149:=by decide
theorem GU:(223:Nat)≠133:=by decide
theorem D7:(9:Nat)≠133:=by decide
theorem sI:(3:Nat)≠133:=by decide
theorem D8:(149:Nat)≠133:=by decide
def kT(T:Nat)(w w':World):Prop := ∀(b:Nat) (cs:Array Value) (t:Nat) (fr:Nat×Nat),w.heap[b]?=some (Obj.cells cs t fr)->t≠T->w'.heap[b]?=w.heap[b]?
theorem ey.keepW{w w':World}{x:WL}(h:ey w x)(c:kT 149 w w'):ey w' x :=
 ⟨h.1.keep fun b cs fr a=>c b cs _ fr a Gx,h.2.1.keep fun b cs fr a=>c b cs _ fr a CM,h.2.2.1.keep fun b cs fr a=>c b cs _ fr a rS,h.2.2.2.keep fun b cs fr a=>c b cs _ fr a rS⟩
theorem ey.keepA{w w':World}{x:WL}(h:ey w x)(c:kT 133 w w'):ey w' x :=
 ⟨h.1.keep fun b cs fr a=>c b cs _ fr a GU,h.2.1.keep fun b cs fr a=>c b cs _ fr a D7,h.2.2.1.keep fun b cs fr a=>c b cs _ fr a sI,h.2.2.2.keep fun b cs fr a=>c b cs _ fr a sI⟩
theorem ey.later{w w':World}{x:WL}(h:ey w x)(a:Bl w w'):ey w' x:=⟨h.1.later a,h.2.1.later a,h.2.2.1.later a,h.2.2.2.later a⟩
theorem eq{w:World}{g k T:Nat}{cs:Array Value}{fr:Nat×Nat}{v:Value}(h:w.heap[g]?=some (.cells cs T fr)):kT T w (w.setCell ⟨g,k,none⟩ v):=fun b c t d a f=>by
 refine ae _ _ _ _ _ fun e=>?_
 rw[e,h]at a;simp only[Option.some.injEq,Obj.cells.injEq]at a;exact f a.2.1.symm
theorem eA{T:Nat}{w w1 w2:World}(h:kT T w w1)(k:kT T w1 w2):kT T w w2:=fun b cs t fr a c=>by
 have e:=h b cs t fr a c;exact(k b cs t fr (e.trans a) c).trans e
theorem dj{w:World}{g k T:Nat}{cs:Array Value}{fr:Nat×Nat}{v:Value}(h:w.heap[g]?=some (.cells cs T fr)):(w.setCell ⟨g,k,none⟩ v).heap[g]?=some (.cells (cs.setIfInBounds k v) T fr):=by
 rw[Sort.setCell_eq];unfold Sort.mapBlock;simp only[Array.getElem?_modify,if_true,h,Option.map_some]
 rfl
theorem kl{w:World}{g T:Nat}{cs:Array Value}{fr:Nat×Nat}{a b c d e:Value}(h:w.heap[g]?=some (.cells cs T fr)):kT T w (((((w.setCell ⟨g,0,none⟩ a).setCell ⟨g,1,none⟩ b).setCell ⟨g,2,none⟩ c).setCell ⟨g,3,none⟩ d).setCell ⟨g,4,none⟩ e):=
 eA (eA (eA (eA (eq h) (eq (dj h))) (eq (dj (dj h)))) (eq (dj (dj (dj h))))) (eq (dj (dj (dj (dj h)))))
def io(d:Dm)(k:Int):Int:=(d.mem k.toNat).sign
def fJ(d:Dm)(i:Nat)(x:WL):Prop:=((d.mem i).formula.size=0->x.lf=leafB d.mem d.n i/\x.nd=[]/\x.nm=[]/\x.ne=f9 d i/\x.sg=(f9 d i).map (io d))/\((d.mem i).formula.size≠0->x.lf=false/\x.nd=bK (d.mem i).formula/\x.nm=aP (bK (d.mem i).formula)/\x.ne=(aP (bK (d.mem i).formula)).map (whL d)/\x.sg=[])
def cG(w:World)(d:Dm)(A:Option Addr)(cap:Nat):World:=(aH w d A cap 67).alloc (.cells #[.bool false,.slice none 0 0,.slice none 0 0,.slice none 0 0,.slice none 0 0] 149)
theorem jm(w:World)(d:Dm)(A:Option Addr)(cap:Nat):Bl w (cG w d A cap):=by unfold cG aH;go_grown
theorem gZ(w:World)(d:Dm)(A:Option Addr)(cap:Nat):(cG w d A cap).heap.size=w.heap.size+2:=by unfold cG aH;simp
theorem gw{w w1:World}{d:Dm}{A:Option Addr}{cap:Nat}(a:Below (cG w d A cap).heap.size (cG w d A cap) w1):(w1.cell? ⟨w.heap.size,0,none⟩=some (.string d.name)/\w1.cell? ⟨w.heap.size,1,none⟩=some (.int .i64 d.solve)/\w1.cell? ⟨w.heap.size,2,none⟩=some (.slice A d.n cap)/\w.heap.size<w1.heap.size)/\w1.heap[w.heap.size+1]?=some (.cells #[.bool false,.slice none 0 0,.slice none 0 0,.slice none 0 0,.slice none 0 0] 149 (0,0)):=by
 have b:Below (aH w d A cap 67).heap.size (aH w d A cap 67) (cG w d A cap):=by unfold cG;go_grown
 refine⟨gl (ad b a),?_⟩;rw[a.block _ (by rw[gZ];omega)]
 unfold cG;have h:=heap_alloc_new (aH w d A cap 67) (.cells #[.bool false,.slice none 0 0,.slice none 0 0,.slice none 0 0,.slice none 0 0] 149);rw[bg]at h;exact h
theorem iY{w:World}{g:Nat}(h:w.heap[g]?=some (.cells #[.bool false,.slice none 0 0,.slice none 0 0,.slice none 0 0,.slice none 0 0] 149 (0,0))):g<w.heap.size/\(w.cell? ⟨g,0,none⟩=some (.bool false)/\w.cell? ⟨g,1,none⟩=some (.slice none 0 0)/\w.cell? ⟨g,2,none⟩=some (.slice none 0 0)/\w.cell? ⟨g,3,none⟩=some (.slice none 0 0)/\w.cell? ⟨g,4,none⟩=some (.slice none 0 0))/\∀k,w.frozen? ⟨g,k,none⟩=false :=
 ⟨(zY h).1,⟨by simp[World.cell?,h],by simp[World.cell?,h],by simp[World.cell?,h],by simp[World.cell?,h],by simp[World.cell?,h]⟩,fun k=>by simp[World.frozen?,h]⟩
theorem J3(d:Dm)(P:List Int){k:Nat}(h:k<P.length):(P.take (k+1)).map (io d)=(P.take k).map (io d)++[io d (P.getD k 0)]:=by
 rw[List.take_succ_eq_append_getElem h,List.map_append,zZ,zX h]
 rfl
theorem vN(d:Dm)(A:Option Addr)(cap i:Nat)(w:World)(hR:(bB d).2=0)(hi:i<d.n)(hf:(d.mem i).formula.size=0)(hM:dC w A cap d.n d.mem):
  Calls prog 150 #[dw d A cap,.int .i64 i] w fun e w'=>(∃x,e=.returned (.tuple #[wayV x,.nilIface])/\ey w' x/\fJ d i x)/\Bl w w':=by
 obtain⟨hd,-,-,-⟩:=bw hR;obtain⟨-,-,ak,-⟩:=aq hd;obtain⟨i0,al,ap,au,av⟩:=info_parts infoInt;obtain⟨aj,h0|⟨b,o,rfl,U⟩⟩:=id hM
 ·omega
 have y:=jm w d (some ⟨b,o,none⟩) cap;have hS:=gZ w d (some ⟨b,o,none⟩) cap;obtain⟨⟨o0,o1,o2,hq⟩,PU⟩:=gw (w:=w) (d:=d) (A:=(some ⟨b,o,none⟩)) (cap:=cap) zS;have L:treeErr d [(i:Int)]=0:=by rw[ib hd,if_neg ω]
 have Z:uu d i=leafB d.mem d.n i:=by unfold uu;rw[L];simp
 have c:=tS d (some ⟨b,o,none⟩) cap i (cG w d (some ⟨b,o,none⟩) cap) (hM.later y);rw[L,Z,errV_zero]at c;have s:Hid (∀w',Bl w w'->Calls prog 203 #[dw d (some ⟨b,o,none⟩) cap,.int .i64 i] w' fun e ab=>(∃A' q,e=.returned (.tuple #[.slice A' (f9 d i).length q,.nilIface])/\aJ ab A' q (f9 d i))/\Bl w' ab):=fun w' hb=>by
  have h:=F0 d (some ⟨b,o,none⟩) cap i w' (hM.later hb);rw[(OZ hR hi).1,(OZ hR hi).2,errV_zero]at h;exact h
 have u:Hid (∀w1,Below (cG w d (some ⟨b,o,none⟩) cap).heap.size (cG w d (some ⟨b,o,none⟩) cap) w1->(w1.cell? ⟨w.heap.size,0,none⟩=some (.string d.name)/\w1.cell? ⟨w.heap.size,1,none⟩=some (.int .i64 d.solve)/\w1.cell? ⟨w.heap.size,2,none⟩=some (.slice (some ⟨b,o,none⟩) d.n cap)/\w.heap.size<w1.heap.size)/\w1.heap[w.heap.size+1]?=some (.cells #[.bool false,.slice none 0 0,.slice none 0 0,.slice none 0 0,.slice none 0 0] 149 (0,0))):=fun w1 h=>gw h
 have HM:=aa U;have Q:Hid (∀z∈f9 d i,0<=z/\z<(d.n:Int)):=fun z hz=>fA hz
 have C:(f9 d i).length<=12:=zV (ea _ _) ak;unfold dw at c s|-;obtain⟨W,hW⟩:=ar (cG w d (some ⟨b,o,none⟩) cap);rw[hW]at y hS o0 o1 o2 hq PU c u;unfold cG aH at hW;have F:=aa y;have H:Hid (∀A' q A2 c2,fJ d i ⟨leafB d.mem d.n i,[],none,0,[],none,0,f9 d i,A',q,(f9 d i).map (io d),A2,c2⟩):=fun A' q _ _=>⟨fun _=>⟨rfl,rfl,rfl,rfl,rfl⟩,fun h=>absurd hf h⟩
 generalize leafB d.mem d.n i=lf at c H;obtain⟨P,hP⟩:=ar (f9 d i);rw[hP]at s Q C H;obtain⟨n,hn⟩:=ar P.length;have M:=aa hn;rw[hn]at s C;have aF:(n:Int)<=12:=ω;have aC:(d.n:Int)<=12:=ω;have aB:(d.n:Int)<=(cap:Int):=ω;clear hd L Z hR hf hM U y PU hP hn
 go_enter func150,ntmps150
 go_wp2_with fail;refine c.mono ?_;rintro e w1⟨rfl,K⟩;have N:=aa K;obtain⟨⟨p0,p1,p2,aG⟩,-⟩:=u.o w1 K;clear K c o0 o1 o2 hW;go_wp2_with fail;refine(s.o w1 (ad F.o N.o)).mono ?_;rintro e w2⟨⟨A2,c2,rfl,R⟩,V⟩;have G:=aa (ad N.o V);have O:=aa R;clear V p0 p1 p2 R;go_wp2_with fail
 go_loopg [9,34] n (fun g s9 aw wr =>∃(k:Nat) (v:Value),k<=n/\g=n-k/\aw=.int .i64 k/\v=s9/\wr.ownsRow w2.heap.size 3 1 v k (aA ((P.take k).map (io d)))/\Bl w2 wr)
 case atStart=>exact⟨0,_,zU,rfl,rfl,rfl,World.ownsRow_nil _ _ _ _,zS⟩
 case round =>
  obtain⟨k,v,hk,rfl,rfl,rfl,hO,l⟩:=hrel;have HO:=aa hO;have f:=aa l
  by_cases ao:k<n
  ·have aE:(k:Int)<(n:Int):=ω;have B:k<P.length:=by rw[M.o];exact ao
   obtain⟨ai,-,ah|⟨bs,cs,fr,rfl,X,Y⟩⟩:=O.o.later l
   ·have:=M.o;rw[ah]at this;simp at this;omega
   have cx:=Y k B;have az:bs<wr.heap.size:=(zY X).1;rw[M.o]at ai;have E:P.getD k 0∈P:=by rw[zZ,zX B];exact List.getElem_mem B
   have hz:=Q.o _ E;have t:Hid ((P.take (k+1)).map (io d)=(P.take k).map (io d)++[io d (P.getD k 0)]):=J3 d P B;have J:=ad G.o l;obtain⟨⟨-,-,q2,aI⟩,-⟩:=u.o wr J;have I:=HM.o.later (ad F.o J);obtain⟨j,hj⟩:∃j:Nat,P.getD k 0=(j:Int):=⟨(P.getD k 0).toNat,ω⟩
   have am:j<d.n:=ω;have aD:(j:Int)<(d.n:Int):=ω;rw[hj]at cx t;obtain⟨-,-,m2,-⟩:=I.2 j am;have ay:b<wr.heap.size:=I.1;have PT:io d (j:Int)=(d.mem j).sign:=by unfold io;rw[Int.toNat_natCast]
   rw[PT]at t;have ax:=f.o.size;generalize (d.mem j).sign=r at m2 t;clear Y hO l J I hj hz E PT X
   go_wp2_with (at_builtin;refine wpList_append_own _ rfl _ _ 42 rfl w2.heap.size 3 i0 (.int .i64 0) 1 8 underlying42 al ap au av rfl (by decide) _ _ _ rfl (HO.o.alloc _) ⟨wr.heap.size,0,none⟩ 1 1 [.int .i64 r] rfl rfl da ew (by unfold maxLen;omega) ω (by simp;omega) ?_)
   intro v' w5 p m _;have ac:Hid (Bl w2 w5):=dk f.o HO.o m;have af:Hid (w5.ownsRow w2.heap.size 3 1 v' (k+1) (aA ((P.take (k+1)).map (io d)))):=by
    show World.ownsRow ..
    rw[t.o,mapI_snoc,List.map_take];exact p
   clear p m;go_wp2_with fail
   go_roundg (n-(k+1))
   case measure=>omega
   case rel=>exact⟨k+1,_,ω,rfl,by go_num,rfl,af.o,ac.o⟩
  have an:k=n:=ω;subst an;have T:P.take k=P:=List.take_of_length_le (by rw[M.o];exact zT)
  have HF:Hid (∃A' q,v=.slice A' k q/\aJ wr A' q (P.map (io d))):=by
   have h:=hO;rw[T]at h;have D:(P.map (io d)).length=k:=by rw[List.length_map];exact M.o
   rw[←D]at h;obtain⟨A',q,e,hv⟩:=cY h;rw[D]at e;exact⟨A',q,e,hv⟩
  obtain⟨A3,c3,rfl,S⟩:=HF.o;have ae:=aa S;obtain⟨-,hr⟩:=u.o wr (ad G.o f.o);obtain⟨hg,⟨r0,r1,r2,r3,r4⟩,a⟩:=iY hr;have f0:=a 0;have f1:=a 1;have f2:=a 2;have f3:=a 3;have f4:=a 4;have ag:=aa hr;clear hO l hr a S T HO HF;go_wp2_with fail;refine bodyPost_ret (v:=.tuple #[wayV ⟨lf,[],none,0,[],none,0,P,A2,c2,P.map (io d),A3,c3⟩,.nilIface]) (by simp[results,results150,go_sem,r0,r1,r2,r3,r4,wayV,M.o]) rfl ⟨⟨_,rfl,?_,H.o _ _ _ _⟩,?_⟩
  ·exact ey.keepW (⟨jE.nil _ _ _ zU,ky.nil _ _ _ zU,O.o.later f.o,ae.o⟩:ey wr _) (kl ag.o)
  exact(((((ad F.o (ad G.o f.o)).setCell σ _).setCell σ _).setCell σ _).setCell σ _).setCell σ _
theorem M9:bo 202:=fun args w=>by simp[callFunc,func202];rfl
theorem K0(m:Mem)(s:ByteArray)(q:Nat)(w:World)(a:q<w.heap.size)(h:w.cell? ⟨q,0,none⟩=some (.string s)):Rt 202 #[jh m,.pointer (some ⟨q,0,none⟩)] w (.bool (same m.name s)):=by
 unfold jh
 go_enter func202,ntmps202
 go_wp2_with fail;go_ret;exact⟨by simp[same],by go_grown⟩
theorem r9(d:Dm)(A:Option Addr)(cap i:Nat)(w:World)(hR:(bB d).2=0)(hi:i<d.n)(hf:(d.mem i).formula.size≠0)(hM:dC w A cap d.n d.mem):
  Calls prog 149 #[dw d A cap,.string (d.mem i).formula] w fun e w'=>(∃x,e=.returned (.tuple #[wayV x,.nilIface])/\ey w' x/\fJ d i x)/\Bl w w':=by
 obtain⟨hd,P3,-,-⟩:=bw hR;obtain⟨-,-,au,D⟩:=aq hd;obtain⟨i0,av,az,aB,aC⟩:=info_parts infoInt;have aK:∀(fn:Fn) (first cap:Array Value) (w:World),(Instr.makeFunc fn first cap).run prog w=.ok (.func fn first cap) w:=fun _ _ _ _=>rfl
 obtain⟨ap,h0|⟨b,o,rfl,PW⟩⟩:=hM
 ·omega
 have S:=gt hf (P3 i hi);have R:=eH S;have P4:=ry R;have K:=jm w d (some ⟨b,o,none⟩) cap;have hS:=gZ w d (some ⟨b,o,none⟩) cap;obtain⟨⟨o0,o1,o2,hq⟩,-⟩:=gw (w:=w) (d:=d) (A:=(some ⟨b,o,none⟩)) (cap:=cap) zS;have H:Hid (∀w1,Below (cG w d (some ⟨b,o,none⟩) cap).heap.size (cG w d (some ⟨b,o,none⟩) cap) w1->(w1.cell? ⟨w.heap.size,0,none⟩=some (.string d.name)/\w1.cell? ⟨w.heap.size,1,none⟩=some (.int .i64 d.solve)/\w1.cell? ⟨w.heap.size,2,none⟩=some (.slice (some ⟨b,o,none⟩) d.n cap)/\w.heap.size<w1.heap.size)/\w1.heap[w.heap.size+1]?=some (.cells #[.bool false,.slice none 0 0,.slice none 0 0,.slice none 0 0,.slice none 0 0] 149 (0,0))):=fun w1 h=>gw h
 have HM:=aa PW;unfold dw;obtain⟨W,hW⟩:=ar (cG w d (some ⟨b,o,none⟩) cap);rw[hW]at K hS o0 o1 o2 hq H;unfold cG aH at hW;have T:=aa K;have I:Hid (∀An cn As cs Ai ci,fJ d i ⟨false,bK (d.mem i).formula,An,cn,aP (bK (d.mem i).formula),As,cs,(aP (bK (d.mem i).formula)).map (whL d),Ai,ci,[],none,0⟩):=fun _ _ _ _ _ _=>⟨fun h=>absurd h hf,fun _=>⟨rfl,rfl,rfl,rfl,rfl⟩⟩
 have P1:=oh (D i hi);generalize (d.mem i).formula=s at *;have p:=qj s W P1;have a:=fun A c w' hN=>tf A c (bK s) w' hN
 rw[R,errV_zero]at a;rw[S,errV_zero]at p;obtain⟨L,hL⟩:=ar (aP (bK s));rw[hL]at P4 a I;obtain⟨l,hl⟩:=ar (bK s);rw[hl]at p a I;generalize (mo s:Int)=at' at p;obtain⟨n,hn⟩:=ar L.length;have G:=aa hn;obtain⟨m,hm⟩:=ar l.length;have ah:=aa hm;have Y:Hid (∀A c w',jE w' A c l->Calls prog 201 #[.slice A m c] w' fun e ab=>(∃A' J,e=.returned (.tuple #[.slice A' n J,.nilIface])/\ky ab A' J L)/\Bl w' ab):=fun A c w' h=>by rw[←hn,←hm];exact a A c w' h.1
 rw[hm]at p;rw[hn]at P4;have aL:(n:Int)<=30:=ω;have aG:(d.n:Int)<=12:=ω;clear S R hL hl hn hm a hd P3 D hR hf PW K P1
 go_enter func149,ntmps149
 go_wp2_with fail;refine p.mono ?_;rintro e w1⟨⟨A1,c1,rfl,N⟩,PY⟩;have a:=Y.o A1 c1 w1 N;have ai:=aa N;have ac:=aa PY;clear p N PY o0 o1 o2 hW;go_wp2_with fail;refine a.mono ?_;rintro e w2⟨⟨A2,c2,rfl,PX⟩,P⟩;have F:=aa (ad ac.o P);have Z:=aa PX;have aj:=aa (ai.o.later P);clear a P PX;go_wp2_with fail
 go_loopg [10,34] n (fun g aD aE wr =>∃(k:Nat) (v:Value),k<=n/\g=n-k/\aE=.int .i64 k/\v=aD/\wr.ownsRow w2.heap.size 3 1 v k (aA ((L.take k).map (whL d)))/\Bl w2 wr)
 case atStart=>exact⟨0,_,zU,rfl,rfl,rfl,World.ownsRow_nil _ _ _ _,zS⟩
 case round =>
  obtain⟨k,v,hk,rfl,rfl,rfl,hO,t⟩:=hrel;have HO:=aa hO;have q:=aa t
  by_cases P2:k<n
  ·have aI:(k:Int)<(n:Int):=ω;obtain⟨ao,-,an|⟨bs,os,rfl,aF,PZ⟩⟩:=(Z.o.later t).1
   ·have:=G.o;rw[an]at this;simp at this;omega
   have cx:=PZ k (by rw[G.o];exact P2)
   rw[G.o]at ao;have V:Hid ((L.take (k+1)).map (whL d)=(L.take k).map (whL d)++[whL d (L.getD k [])]):=Dp d L (by rw[G.o];exact P2)
   have O:=ad F.o t;obtain⟨⟨-,-,p2,ax⟩,-⟩:=H.o wr O;have PV:=HM.o.later (ad T.o O);obtain⟨x,hx⟩:=ar ((⟨(L.getD k []).toArray⟩:ByteArray));have HX:Hid (x.data.toList=L.getD k []):=by show _=_;rw[←hx]
   rw[hx]at cx;obtain⟨y,hy⟩:=ar (wr.alloc (.cells #[.string x] 9));have B:Bl wr y:=by rw[←hy];exact(zS).alloc zT _
   have ay:y.heap.size=wr.heap.size+1:=by rw[←hy];simp
   have P0:y.cell? ⟨wr.heap.size,0,none⟩=some (.string x):=by
    have h:y.heap[wr.heap.size]?=some (.cells #[.string x] 9 (0,0)):=by rw[←hy];exact heap_alloc_new _ _
    rw[Lib.cell_of_heap h]
    rfl
   have py:=aM B ax p2;have C:=jg 202 wr.heap.size M9 b o d.n cap d.mem (fun j=>same (d.mem j).name x) y au (PV.later B) (fun j w' _ P5=>K0 (d.mem j) x wr.heap.size w' (by have:=P5.size;omega) (aM P5 (by show wr.heap.size<_;omega) P0))
   rw[yV,HX.o]at C;generalize whL d (L.getD k [])=r at C V;have U:=aa B;generalize d.n=dn at *;clear PZ hO t O PV B P0 hx ay;go_wp2_with fail;refine C.mono ?_;rintro e w4⟨rfl,Q⟩;have M:Bl w2 w4:=ad q.o (ad U.o Q);have ae:=aa M;have X:Hid (w4.ownsRow w2.heap.size 3 1 v k (aA ((L.take k).map (whL d)))):=ak (ak HO.o U.o) Q;have aN:=M.size;clear Q C M hy
   go_wp2_with (at_builtin;refine wpList_append_own _ rfl _ _ 42 rfl w2.heap.size 3 i0 (.int .i64 0) 1 8 underlying42 av az aB aC rfl (by decide) _ _ _ rfl (X.o.alloc _) ⟨w4.heap.size,0,none⟩ 1 1 [.int .i64 r] rfl rfl da ew (by unfold maxLen;omega) ω (by simp;omega) ?_)
   intro v' w5 z u _;have af:Hid (Bl w2 w5):=dk ae.o X.o u;have al:Hid (w5.ownsRow w2.heap.size 3 1 v' (k+1) (aA ((L.take (k+1)).map (whL d)))):=by
    show World.ownsRow ..
    rw[V.o,mapI_snoc,List.map_take];exact z
   clear z u;go_wp2_with fail
   go_roundg (n-(k+1))
   case measure=>omega
   case rel=>exact⟨k+1,_,ω,rfl,by go_num,rfl,al.o,af.o⟩
  have aw:k=n:=ω;subst aw;have PU:L.take k=L:=List.take_of_length_le (by rw[G.o];exact zT)
  have HF:Hid (∃A' J,v=.slice A' k J/\aJ wr A' J (L.map (whL d))):=by
   have h:=hO;rw[PU]at h;have E:(L.map (whL d)).length=k:=by rw[List.length_map];exact G.o
   rw[←E]at h;obtain⟨A',J,e,hv⟩:=cY h;rw[E]at e;exact⟨A',J,e,hv⟩
  obtain⟨A3,c3,rfl,PT⟩:=HF.o;have ag:=aa PT;obtain⟨-,hr⟩:=H.o wr (ad F.o q.o);obtain⟨hg,⟨r0,r1,r2,r3,r4⟩,f⟩:=iY hr;have f0:=f 0;have f1:=f 1;have f2:=f 2;have f3:=f 3;have f4:=f 4;have am:=aa hr;clear hO t hr f PT PU HO HF;go_wp2_with fail;refine bodyPost_ret (v:=.tuple #[wayV ⟨false,l,A1,c1,L,A2,c2,L.map (whL d),A3,c3,[],none,0⟩,.nilIface]) (by simp[results,results149,go_sem,r0,r1,r2,r3,r4,wayV,G.o,ah.o]) rfl ⟨⟨_,rfl,?_,I.o _ _ _ _ _ _⟩,?_⟩
  ·exact ey.keepW (⟨aj.o.later q.o,Z.o.later q.o,ag.o,aJ.nil _ _ _ zU⟩:ey wr _) (kl am.o)
  exact(((((ad T.o (ad F.o q.o)).setCell σ _).setCell σ _).setCell σ _).setCell σ _).setCell σ _
theorem Gy(d:Dm)(A:Option Addr)(cap i:Nat)(w:World)(z:(bB d).2=0)(H:i<d.n)(N:dC w A cap d.n d.mem):
  Calls prog 105 #[dw d A cap,.int .i64 i] w fun e w'=>(∃x,e=.returned (.tuple #[wayV x,.nilIface])/\ey w' x/\fJ d i x)/\Bl w w':=by
 obtain⟨G,-,-,-⟩:=bw z;obtain⟨-,-,Y,-⟩:=aq G;have c:=jm w d A cap;have X:=gZ w d A cap;obtain⟨⟨o0,o1,o2,hq⟩,-⟩:=gw (w:=w) (d:=d) (A:=A) (cap:=cap) zS;have q:Hid (∀w1,Below (cG w d A cap).heap.size (cG w d A cap) w1->w1.heap[w.heap.size+1]?=some (.cells #[.bool false,.slice none 0 0,.slice none 0 0,.slice none 0 0,.slice none 0 0] 149 (0,0))):=fun w1 h=>(gw h).2
 have k:=N.later c;obtain⟨P,h0|⟨b,o,rfl,l⟩⟩:=N
 ·omega
 obtain⟨-,-,-,c3⟩:=(l.later c).2 i H;have F:b<(cG w d (some ⟨b,o,none⟩) cap).heap.size:=(l.later c).1;have C:=fun h=>vN d (some ⟨b,o,none⟩) cap i (cG w d (some ⟨b,o,none⟩) cap) z H h k
 have j:=fun h=>r9 d (some ⟨b,o,none⟩) cap i (cG w d (some ⟨b,o,none⟩) cap) z H h k
 unfold dw at C j|-;obtain⟨W,O⟩:=ar (cG w d (some ⟨b,o,none⟩) cap);rw[O]at c X o0 o1 o2 hq q c3 F C j;unfold cG aH at O;have u:=aa c;have ab:(i:Int)<(d.n:Int):=ω;have Z:(d.n:Int)<=12:=ω;by_cases t:(d.mem i).formula.size=0
 ·have r:(d.mem i).formula.toList.isEmpty=true:=by rw[b9];simpa using t
  have g:=C t;have Q:Hid (∀x,fJ d i x->fJ d i x):=fun _ h=>h
  generalize (d.mem i).formula=fm at c3 r;clear C j t l k c z G
  go_enter func105,ntmps105
  go_wp2_with fail;refine g.mono ?_;rintro e w1⟨⟨x,rfl,B,y⟩,f⟩;have E:=aa B;have D:=aa y;have m:=aa f;have s:=q.o w1 f;obtain⟨hg,⟨I,J,K,L,M⟩,a⟩:=iY s;have R:=a 0;have S:=a 1;have T:=a 2;have U:=a 3;have V:=a 4;have p:=aa s;unfold wayV;clear B y f g s a;go_wp2_with fail;refine bodyPost_ret (v:=.tuple #[wayV x,.nilIface]) (by simp[results,results105,go_sem,I,J,K,L,M,wayV]) rfl ⟨⟨_,rfl,?_,D.o⟩,?_⟩
  ·exact E.o.keepW (kl p.o)
  exact(((((ad u.o m.o).setCell σ _).setCell σ _).setCell σ _).setCell σ _).setCell σ _
 have r:(d.mem i).formula.toList.isEmpty=false:=by rw[b9];simpa using t
 have g:=j t;generalize (d.mem i).formula=fm at c3 r g;clear C j t l k c z G
 go_enter func105,ntmps105
 go_wp2_with fail;refine g.mono ?_;rintro e w1⟨⟨x,rfl,B,y⟩,f⟩;have E:=aa B;have D:=aa y;have m:=aa f;have s:=q.o w1 f;obtain⟨hg,⟨I,J,K,L,M⟩,a⟩:=iY s;have R:=a 0;have S:=a 1;have T:=a 2;have U:=a 3;have V:=a 4;have p:=aa s;unfold wayV;clear B y f g s a;go_wp2_with fail;refine bodyPost_ret (v:=.tuple #[wayV x,.nilIface]) (by simp[results,results105,go_sem,I,J,K,L,M,wayV]) rfl ⟨⟨_,rfl,?_,D.o⟩,?_⟩
 ·exact E.o.keepW (kl p.o)
 exact(((((ad u.o m.o).setCell σ _).setCell σ _).setCell σ _).setCell σ _).setCell σ _
end Go.Proofs.YtjfampgnhccodaaGreatDoor
