/- What All of package ou -/
import Derived.OwnWalk
import Derived.Deep.Slices
import Derived.Deep.Strs
import Derived.Deep.Fields
import Derived.BigQuiet
import Derived.Test.YtjfampgnhccodaaGreatDoorJTAD
namespace Go.Proofs.YtjfampgnhccodaaGreatDoor
open Tryz ChangeShapes WideShapes ChangeAt RowKit Go Deep
set_option maxRecDepth 99999
set_option maxHeartbeats 0
def aL(w:World)(A0:Option Addr)(cap n:Nat)(D:Nat->Dm)(A:Nat->Option Addr)(C:Nat->Nat):Prop:=n<=cap/\(n=0\/∃b o,A0=some ⟨b,o,none⟩/\eh w b o n D A C)
theorem aL.later{w w':World}{A0:Option Addr}{cap n:Nat}{D:Nat->Dm}{A:Nat->Option Addr}{C:Nat->Nat}(h:aL w A0 cap n D A C)(e:Bl w w'):aL w' A0 cap n D A C:=by
 obtain⟨c,a|⟨b,o,a,d⟩⟩:=h
 ·exact⟨c,Or.inl a⟩
 exact⟨c,Or.inr ⟨b,o,a,d.later e⟩⟩
theorem Ps{D:Nat->Dm}{n:Nat}(h:4<n):ag D n=(-1,-1,4):=by unfold ag;rw[if_pos h]
theorem Pt{D:Nat->Dm}{n:Nat}(h:n=0):ag D n=(-1,-1,5):=by unfold ag;rw[if_neg ω,if_pos h]
theorem Pb{D:Nat->Dm}{n:Nat}(h :¬ 4<n)(a :¬n=0)(b:(fh D n 0).2.2≠0):ag D n=fh D n 0:=by unfold ag;rw[if_neg h,if_neg a,if_pos b]
theorem Pv{D:Nat->Dm}{n:Nat}(h :¬ 4<n)(a :¬n=0)(b:(fh D n 0).2.2=0)(c:3000<prodN D n):ag D n=(-1,-1,4):=by unfold ag;rw[if_neg h,if_neg a,if_neg (by simpa using b),if_pos c]
theorem Pw{D:Nat->Dm}{n:Nat}(h :¬ 4<n)(a :¬n=0)(b:(fh D n 0).2.2=0)(c :¬ 3000<prodN D n):ag D n=(-1,-1,0):=by unfold ag;rw[if_neg h,if_neg a,if_neg (by simpa using b),if_neg c]
theorem O2{D:Nat->Dm}{i:Nat}(h:(am (D i)).2≠0):iJ D i=am (D i):=by unfold iJ;rw[if_pos h]
theorem O3{D:Nat->Dm}{i:Nat}(h:(am (D i)).2=0)(a:pT D i=true):iJ D i=(-1,7):=by unfold iJ;rw[if_neg (by simpa using h),if_pos a]
theorem O4{D:Nat->Dm}{i:Nat}(h:(am (D i)).2=0)(a:pT D i=false):iJ D i=(-1,0):=by unfold iJ;rw[if_neg (by simpa using h),if_neg (by simp[a])]
def aE(w:World)(A0:Option Addr)(n cap T:Nat):World:=w.alloc (.cells #[.slice A0 n cap] T)
theorem aU(w:World)(A0:Option Addr)(n cap T:Nat):(aE w A0 n cap T).cell? ⟨w.heap.size,0,none⟩=some (.slice A0 n cap):=by unfold aE;simp
theorem aB(w:World)(A0:Option Addr)(n cap T:Nat):(aE w A0 n cap T).heap.size=w.heap.size+1:=by unfold aE;simp
theorem ay(w:World)(A0:Option Addr)(n cap T:Nat):Bl w (aE w A0 n cap T):=by unfold aE;go_grown
theorem ub(A0:Option Addr)(cap n:Nat)(D:Nat->Dm)(A:Nat->Option Addr)(C:Nat->Nat)(w:World)(V:aL w A0 cap n D A C):Rt 23 #[.agg #[.slice A0 n cap]] w (.tuple #[.int .i64 (ag D n).1,.int .i64 (ag D n).2.1,errV (ag D n).2.2]):=by
 by_cases E:4<n
 ·have PU:4<(n:Int):=ω;have i:Hid (ag D n=(-1,-1,4)):=Ps E;clear E V
  go_enter func23,ntmps23
  go_wp2_with fail;refine bodyPost_ret (v:=.tuple #[.int .i64 (-1),.int .i64 (-1),.iface 71 (.int .i64 4)]) (by simp[results,results23,go_sem]) rfl ⟨by rw[i.o];rfl,?_⟩
  go_grown
 have PU:(n:Int)<=4:=ω;by_cases B:n=0
 ·have i:Hid (ag D n=(-1,-1,5)):=Pt B
  have hz:((n:Int) == 0)=true:=by simp[B]
  clear B V E
  go_enter func23,ntmps23
  go_wp2_with fail;refine bodyPost_ret (v:=.tuple #[.int .i64 (-1),.int .i64 (-1),.iface 71 (.int .i64 5)]) (by simp[results,results23,go_sem]) rfl ⟨by rw[i.o];rfl,?_⟩
  go_grown
 have hz:((n:Int) == 0)=false:=by simp;omega
 obtain⟨ab,h0|⟨b,o,rfl,K⟩⟩:=V
 ·omega
 have Y:(n:Int)<=(cap:Int):=ω;have u:=ay w (some ⟨b,o,none⟩) n cap 24;have hS:=aB w (some ⟨b,o,none⟩) n cap 24;have U:=aU w (some ⟨b,o,none⟩) n cap 24;obtain⟨W,X⟩:∃W,W=aE w (some ⟨b,o,none⟩) n cap 24:=⟨_,rfl⟩;rw[←X]at u hS U;have T:=aa (K.later u);have N:w.heap.size<W.heap.size:=ω;clear K;have HW:=aa X;have HA:=aa U;have t:=aa u;clear X U u hS
 go_enter func23,ntmps23
 go_wp2_with fail
 go_loopg [22] n (fun g ae wr =>∃(k:Nat),k<=n/\g=n-k/\ae=.int .i64 k/\fh D (n-k) k=fh D n 0/\Bl W wr)
 case atStart=>exact⟨0,zU,rfl,rfl,rfl,by rw[HW.o];exact zS⟩
 case round =>
  obtain⟨k,hk,rfl,rfl,M,l⟩:=hrel;have h:=aa l;have R:=aa M;have c0:wr.cell? ⟨w.heap.size,0,none⟩=some (.slice (some ⟨b,o,none⟩) n cap):=aM l N HA.o;have m:=T.o.later l;have O:w.heap.size<wr.heap.size:=zW N l.size;clear M l
  by_cases PT:k<n
  ·obtain⟨h0,h1,h2,h3⟩:=m.2 k PT
   have ai:(k:Int)<(n:Int):=ω;have F:n-k=(n-(k+1))+1:=ω;have I:=bu wr (D k) (A k) (C k) 67;have d:=gD (D k) (A k) (C k) (aH wr (D k) (A k) (C k) 67) (h3.later I);unfold dw at d;have H:=aa m;clear h3 m I
   by_cases x:(am (D k)).2=0
   ·obtain⟨e1,af,ah,-⟩:=aq x
    rw[x,e1,errV_zero]at d;have G:=aa x;clear x e1;go_wp2_with fail;refine d.mono ?_;rintro e w1⟨rfl,a⟩;have f:Bl wr w1:=ad (bu wr (D k) (A k) (C k) 67) a;have Q:wr.heap.size<w1.heap.size:=by
     have:=a.size;rw[bg]at this
     omega
    have q0:w1.cell? ⟨wr.heap.size,0,none⟩=some (.string (D k).name):=(a.cell (p:=⟨wr.heap.size,0,none⟩) (by show wr.heap.size<_;rw[bg];omega)).trans (fE wr (D k) (A k) (C k) 67).1
    have c1:w1.cell? ⟨w.heap.size,0,none⟩=some (.slice (some ⟨b,o,none⟩) n cap):=aM f O c0;have J:=H.o.later f;have q:=sh wr.heap.size b o k cap D A C (fun j=>same (D j).name (D k).name) w1 ω (J.less ω) (fun j w' _ P=>GO (D j) (A j) (C j) (D k).name wr.heap.size w' (zW Q P.size) (aM P Q q0))
    change Calls _ _ _ _ (fun e w'=>e=.returned (.bool (pT D k))/\_)at q
    clear a d J q0 c0 h0 h1 h2 H;cases hc:pT D k
    ·rw[hc]at q
     have z:Hid (iJ D k=(-1,0)):=O4 G.o hc;clear hc;go_wp2_with fail;refine q.mono ?_;rintro e w2⟨rfl,c⟩;go_wp2_with fail
     go_roundg (n-(k+1))
     case measure=>omega
     case rel=>exact⟨k+1,ω,rfl,by go_num,by rw[←R.o,F,yC _ (by rw[z.o])],ad (ad h.o f) c⟩
    rw[hc]at q;have z:Hid (iJ D k=(-1,7)):=O3 G.o hc;clear hc;go_wp2_with fail;refine q.mono ?_;rintro e w2⟨rfl,c⟩;go_wp2_with fail;have s:fh D n 0=((k:Int),-1,7):=by rw[←R.o,F,nH _ (by rw[z.o];decide),z.o]
    have i:ag D n=((k:Int),-1,7):=by rw[Pb ω ω (by rw[s];show(7:Int)≠0;decide),s]
    refine bodyPost_ret (v:=.tuple #[.int .i64 k,.int .i64 (-1),.iface 71 (.int .i64 7)]) (by simp[results,results23,go_sem]) rfl ⟨by rw[i];rfl,?_⟩
    exact ad t.o (ad (ad h.o f) c)
   rw[ac x]at d;have z:Hid (iJ D k=am (D k)):=O2 x;have G:=aa x;clear x;go_wp2_with fail;refine d.mono ?_;rintro e w1⟨rfl,a⟩;have f:Bl wr w1:=ad (bu wr (D k) (A k) (C k) 67) a;clear a d;go_wp2_with fail;have s:fh D n 0=((k:Int),(am (D k)).1,(am (D k)).2):=by rw[←R.o,F,nH _ (by rw[z.o];exact G.o),z.o]
   have i:ag D n=((k:Int),(am (D k)).1,(am (D k)).2):=by rw[Pb ω ω (by rw[s];exact G.o),s]
   refine bodyPost_ret (v:=.tuple #[.int .i64 k,.int .i64 (am (D k)).1,.iface 71 (.int .i64 (am (D k)).2)]) (by simp[results,results23,go_sem]) rfl ⟨by rw[i,ac G.o],?_⟩
   exact ad t.o (ad h.o f)
  have Z:k=n:=ω;subst Z;have r:(fh D k 0).2.2=0:=by rw[←R.o,Nat.sub_self];rfl
  have y:=(oM k 0 r).2;have L:=Ei b o k cap D A C wr ω (fun j hj=>(aq (qQ (y j zU ω))).2.2.1) m
  clear y m
  by_cases S:3000<prodN D k
  ·have PV:3000<(prodN D k:Int):=ω;have i:Hid (ag D k=(-1,-1,4)):=Pv ω ω r S
   clear r S;go_wp2_with fail;refine L.mono ?_;rintro e w2⟨rfl,c⟩;go_wp2_with fail;refine bodyPost_ret (v:=.tuple #[.int .i64 (-1),.int .i64 (-1),.iface 71 (.int .i64 4)]) (by simp[results,results23,go_sem]) rfl ⟨by rw[i.o];rfl,?_⟩
   exact ad t.o (ad h.o c)
  have PV:(prodN D k:Int)<=3000:=ω;have i:Hid (ag D k=(-1,-1,0)):=Pw ω ω r S
  clear r S;go_wp2_with fail;refine L.mono ?_;rintro e w2⟨rfl,c⟩;go_wp2_with fail;refine bodyPost_ret (v:=.tuple #[.int .i64 (-1),.int .i64 (-1),.nilIface]) (by simp[results,results23,go_sem]) rfl ⟨by rw[i.o];rfl,?_⟩
  exact ad t.o (ad h.o c)
theorem AT:bo 200:=fun args w=>by simp[callFunc,func200];rfl
theorem wZ(m:Mem)(i:Int)(q:Nat)(w:World)(a:q<w.heap.size)(h:w.cell? ⟨q,0,none⟩=some (.int .i64 i)):Rt 200 #[jh m,.pointer (some ⟨q,0,none⟩)] w (.bool (m.parent ==i)):=by
 unfold jh
 go_enter func200,ntmps200
 go_wp2_with fail;go_ret;exact⟨by simp,by go_grown⟩
def il(w:World)(i:Int)(T:Nat):World:=w.alloc (.cells #[.int .i64 i] T)
theorem nr(w:World)(i:Int)(T:Nat):(il w i T).cell? ⟨w.heap.size,0,none⟩=some (.int .i64 i):=by unfold il;simp
theorem gY(w:World)(i:Int)(T:Nat):(il w i T).heap.size=w.heap.size+1:=by unfold il;simp
theorem d9(w:World)(i:Int)(T:Nat):Bl w (il w i T):=by unfold il;go_grown
theorem Bb{M:Nat->Mem}{n k:Nat}(h:(M k).formula.size≠0):leafB M n k=false:=by simp[leafB,h]
theorem xj{M:Nat->Mem}{n k:Nat}(h:(M k).formula.size=0):leafB M n k = !decide (0<=findFrom (bD M k) n 0):=by simp[leafB,h]
theorem AU(b o n cap i:Nat)(M:Nat->Mem)(w:World)(x:n<=12)(u:i<n)(l:cI w b o n M):Rt 147 #[.slice (some ⟨b,o,none⟩) n cap,.int .i64 i] w (.bool (leafB M n i)):=by
 have s:=gY w i 3;have a:=d9 w i 3;have r:=nr w i 3;have g:=l.later a;have c:=ii 200 w.heap.size AT b o n cap M (bD M i) (il w i 3) x g (fun j w' _ h=>wZ (M j) i w.heap.size w' (by have:=h.size;omega) (aM h (by show w.heap.size<_;omega) r))
 have m:=aa a;obtain⟨-,-,-,z⟩:=l.2 i u;have t:=l.1;have v:(i:Int)<(n:Int):=ω;have y:(n:Int)<=12:=ω;clear l s a r g
 by_cases d:(M i).formula.size=0
 ·have q:(M i).formula.toList.isEmpty=true:=by rw[b9];simpa using d
  have k:Hid (leafB M n i = !decide (0<=findFrom (bD M i) n 0)):=xj d;clear d;generalize decide (0<=findFrom (bD M i) n 0)=f at c k
  go_enter func147,ntmps147
  go_wp2_with fail;refine c.mono ?_;rintro e w1⟨rfl,p⟩;go_wp2_with fail;go_ret;exact⟨by rw[k.o];rfl,ad m.o p⟩
 have q:(M i).formula.toList.isEmpty=false:=by rw[b9];simpa using d
 have k:Hid (leafB M n i=false):=Bb d;clear d c
 go_enter func147,ntmps147
 go_wp2_with fail;go_ret;exact⟨by rw[k.o];rfl,by go_grown⟩
def dG(w:World)(A:Option Addr)(cap:Nat)(L:List Int):Prop:=L.length<=cap/\(L=[]\/∃b,A=some ⟨b,0,none⟩/\b<w.heap.size/\∀j,j<L.length->w.cell? ⟨b,j,none⟩=some (.int .i64 (L.getD j 0)))
theorem dG.later{w w':World}{A:Option Addr}{cap:Nat}{L:List Int}(h:dG w A cap L)(e:Bl w w'):dG w' A cap L:=by
 obtain⟨c,a|⟨b,a,d,f⟩⟩:=h
 ·exact⟨c,Or.inl a⟩
 exact⟨c,Or.inr ⟨b,a,zW d e.size,fun j g=>aM e d (f j g)⟩⟩
def aA(L:List Int):List Value:=L.map (Value.int .i64)
theorem mapI_snoc(L:List Int)(x:Int):aA (L++[x])=aA L++[Value.int .i64 x]:=by simp[aA]
theorem LA{w:World}{base e:Nat}{v:Value}{L:List Int}(h:w.ownsRow base e 1 v L.length (aA L)):∃A cap,v=.slice A L.length cap/\dG w A cap L:=by
 rcases h.2 with⟨rfl,b⟩|⟨g,cap,d,rfl,l,i,f,_,_,_⟩
 ·exact⟨none,0,by rw[b],ω,Or.inl (List.eq_nil_of_length_eq_zero b)⟩
 refine⟨_,cap,rfl,f,Or.inr ⟨g,rfl,(zY i).1,fun j k=>?_⟩⟩
 have c:=h.cells (g:=g) rfl j (.int .i64 (L.getD j 0)) (by simp[aA,List.getD,zX k])
 have a:(⟨g,0,none⟩:Addr).add j=⟨g,j,none⟩:=by unfold Addr.add;split<;>simp_all
 rw[a]at c;exact c
theorem ak{w w':World}{base e aa:Nat}{v:Value}{n:Nat}{xs:List Value}(h:w.ownsRow base e aa v n xs)(a:Bl w w'):w'.ownsRow base e aa v n xs:=by
 refine⟨h.1,?_⟩
 rcases h.2 with h0|⟨g,cap,ab,rfl,hb,hg,h1⟩
 ·exact Or.inl h0
 exact Or.inr ⟨g,cap,ab,rfl,hb,(a.block g (zY hg).1).trans hg,h1⟩
theorem dk{w wr w1:World}{e size n:Nat}{v:Value}{xs:List Value}{o:Obj}(c:Bl w wr)(b:wr.ownsRow w.heap.size e size v n xs)(a:(wr.alloc o).grownBy w1 v.ownBlock):Bl w w1 :=
 (c.alloc c.size o).grown a (by have:=c.size;simp;omega) (fun j d=>(b.lt j d).1)
theorem da{wr:World}{x:Value}{T:Nat}:∀j u,[x][j]?=some u->(wr.alloc (.cells #[x] T)).cell? ((⟨wr.heap.size,0,none⟩:Addr).add j)=some u:=by
 intro j u a
 match j,a with
 | 0,a=>simp at a;subst a;simp[Addr.add]
theorem ew{x:Int}:∀u∈[Value.int .i64 x],u.oneCell'=true:=by intro u a;simp at a;subst a;rfl
theorem infoInt:(prog.info? 3).map (fun i=>(i.zero,i.size,i.bytes))=some (some (.int .i64 0),1,8):=by kernel_rfl
section
variable {H:Type} {enc:TypeId×Value->H} {w:World} {held:Bool}
theorem j7{P:Program}{base:Nat}{sp:Nat->Bool}{t:TypeId}{c:Array Field}{a:Nat}{cs:List Value}{x:DataW H×List MemPlace}(r:P.underlying t=some (.struct c))(b:oneCellFields P c=true)(h:DataW.trod enc P w base sp held a t cs=some x):
  cs.length=P.cellsOf t/\∃n,∀(i:Nat) (f:Field) (v:Value),c[i]?=some f->cs[i]?=some v->∃y,DataW.trod enc P w base sp held n f.type [v]=some y:=by
 obtain⟨xs,n,_,_,o,u,m⟩:=DataW.trod_struct r h;refine⟨o,n,fun i f v d s=>?_⟩
 obtain⟨q,l⟩:=hone_of b i f d;have p:i<c.size:=(zY d).1;have e:=m i f d;rw[q,l]at e;obtain⟨g,j⟩:=List.getElem?_eq_some_iff.1 s;have k:(cs.drop i).take 1=[v]:=by rw[List.drop_eq_getElem_cons g,j];rfl
 rw[k,zX ω]at e
 exact⟨_,e⟩
theorem Hd:prog.cellsOf 64=4:=by kernel_rfl
theorem Hc:prog.cellsOf 67=3:=by kernel_rfl
theorem Na:prog.cellsOf 24=1:=by kernel_rfl
theorem xO{base:Nat}{sp:Nat->Bool}{a:Nat}{cs:List Value}{x:DataW H×List MemPlace}(h:DataW.trod enc prog w base sp held a 64 cs=some x):
  ∃m:Mem,cs=[.string m.name,.int .i64 m.parent,.int .i64 m.sign,.string m.formula]:=by
 obtain⟨g,n,b⟩:=j7 underlying64 κ h
 rw[Hd]at g
 match cs,g with
 | [v0,v1,v2,v3],_ =>
  obtain⟨o,i⟩:=b 0 _ v0 rfl rfl;obtain⟨p,j⟩:=b 1 _ v1 rfl rfl;obtain⟨q,k⟩:=b 2 _ v2 rfl rfl;obtain⟨r,l⟩:=b 3 _ v3 rfl rfl;obtain⟨s0,c,-,-⟩:=DataW.trod_string underlying9 i;obtain⟨n1,d,-,-⟩:=DataW.trod_int underlying3 j;obtain⟨n2,e,-,-⟩:=DataW.trod_int underlying3 k;obtain⟨s3,f,-,-⟩:=DataW.trod_string underlying9 l
  simp at c d e f
  exact⟨⟨s0,n1,n2,s3⟩,by rw[c,d,e,f]⟩
theorem gz{a:Addr}{k:Nat}{v:Value}(h:w.cell? (a.add k)=some v)(b:k=0):a=⟨a.block,a.off,none⟩:=by
 subst b;have e:(a.add 0)=a:=by simp[Addr.add]
 rw[e]at h;have:=World.cell?_spot h;cases a
 simp_all
theorem aW(b o k:Nat):(⟨b,o,none⟩:Addr).add k=⟨b,o+k,none⟩:=by
 unfold Addr.add
 by_cases a:k=0
 ·subst a;simp
 rw[if_neg a]
theorem uN{d:Nat}{cs:List Value}{x:DataW H×List MemPlace}(h:DataW.trod enc prog w 0 (fun _=>true) held d 65 cs=some x):
  ∃(A:Option Addr) (cap n:Nat) (M:Nat->Mem),cs=[.slice A n cap]/\dC w A cap n M:=by
 rcases open_slice underlying65 h with⟨rfl,-⟩|⟨a,aa,cap,m,n,D,Pl,rfl,-,r,-,g,-,k⟩
 ·exact⟨none,0,0,fun _=>⟨default,0,0,default⟩,rfl,zT,Or.inl rfl⟩
 rw[Hd]at k
 simp at g
 subst g
 haveI:Inhabited Mem:=⟨⟨default,0,0,default⟩⟩
 have c:∀i,i<aa->∃y:Mem,w.cells? 0 (a.add (i*4)) 4=some [.string y.name,.int .i64 y.parent,.int .i64 y.sign,.string y.formula]:=fun i f=>by
  obtain⟨l,o,p⟩:=k i ω
  obtain⟨y,rfl⟩:=xO p;exact⟨y,o⟩
 obtain⟨M,e⟩:=choose_lt c;refine⟨some a,_,aa,M,rfl,r,?_⟩
 rcases Nat.eq_zero_or_pos aa with h0|h0
 ·exact Or.inl h0
 right
 have c0:=(World.cells?_some (e 0 h0)).2.2 0 ω
 rw[add_add]at c0;have j:=gz c0 ω
 have q:=World.block_lt_of_cell? _ _ c0;refine⟨a.block,a.off,by rw[←j],by simpa [Addr.add]using q,fun i f=>?_⟩
 have b:=(World.cells?_some (e i f)).2.2;rw[j]at b;simp only[aW,Nat.add_assoc]at b;refine⟨?_,?_,?_,?_⟩
 ·have:=b 0 ω;simpa using this
 ·have:=b 1 ω;simpa [Nat.add_assoc]using this
 ·have:=b 2 ω;simpa [Nat.add_assoc]using this
 have:=b 3 ω;simpa [Nat.add_assoc]using this
theorem Jm{a:Nat}{cs:List Value}{x:DataW H×List MemPlace}(h:DataW.trod enc prog w 0 (fun _=>true) held a 67 cs=some x):
  ∃(d:Dm) (A:Option Addr) (c:Nat),cs=[.string d.name,.int .i64 d.solve,.slice A d.n c]/\dC w A c d.n d.mem:=by
 obtain⟨i,n,b⟩:=j7 underlying67 κ h
 rw[Hc]at i
 match cs,i with
 | [v0,v1,v2],_ =>
  obtain⟨p,j⟩:=b 0 _ v0 rfl rfl;obtain⟨q,l⟩:=b 1 _ v1 rfl rfl;obtain⟨r,m⟩:=b 2 _ v2 rfl rfl;obtain⟨s0,e,-,-⟩:=DataW.trod_string underlying9 j;obtain⟨n1,f,-,-⟩:=DataW.trod_int underlying3 l;obtain⟨A,cap,k,M,g,o⟩:=uN m
  simp at e f g
  exact⟨⟨s0,n1,k,M⟩,A,cap,by rw[e,f,g],o⟩
theorem Fu{e:Nat}{cs:List Value}{x:DataW H×List MemPlace}(h:DataW.trod enc prog w 0 (fun _=>true) held e 22 cs=some x):
  ∃(A0:Option Addr) (cap n:Nat) (D:Nat->Dm) (A:Nat->Option Addr) (C:Nat->Nat),cs=[.slice A0 n cap]/\aL w A0 cap n D A C:=by
 rcases open_slice underlying22 h with⟨rfl,-⟩|⟨a,aa,cap,m,n,D,Pl,rfl,-,t,-,g,-,o⟩
 ·exact⟨none,0,0,fun _=>⟨default,0,0,fun _=>⟨default,0,0,default⟩⟩,fun _=>none,fun _=>0,rfl,zT,Or.inl rfl⟩
 rw[Hc]at o
 simp at g
 subst g
 haveI:Inhabited Dm:=⟨⟨default,0,0,fun _=>⟨default,0,0,default⟩⟩⟩
 have b:∀i,i<aa->∃y:Dm×Option Addr×Nat,w.cells? 0 (a.add (i*3)) 3=some [.string y.1.name,.int .i64 y.1.solve,.slice y.2.1 y.1.n y.2.2]/\dC w y.2.1 y.2.2 y.1.n y.1.mem:=fun i k=>by
  obtain⟨p,q,r⟩:=o i ω
  obtain⟨d,A,c,rfl,g⟩:=Jm r;exact⟨(d,A,c),q,g⟩
 obtain⟨Y,j⟩:=choose_lt b;refine⟨some a,_,aa,fun i=>(Y i).1,fun i=>(Y i).2.1,fun i=>(Y i).2.2,rfl,t,?_⟩
 rcases Nat.eq_zero_or_pos aa with h0|h0
 ·exact Or.inl h0
 right
 have c0:=(World.cells?_some (j 0 h0).1).2.2 0 ω
 rw[add_add]at c0;have l:=gz c0 ω
 have s:=World.block_lt_of_cell? _ _ c0;refine⟨a.block,a.off,by rw[←l],by simpa [Addr.add]using s,fun i k=>?_⟩
 have f:=(World.cells?_some (j i k).1).2.2;rw[l]at f;simp only[aW,Nat.add_assoc]at f;refine⟨?_,?_,?_,(j i k).2⟩
 ·have:=f 0 ω;simpa using this
 ·have:=f 1 ω;simpa [Nat.add_assoc]using this
 have:=f 2 ω;simpa [Nat.add_assoc]using this
theorem OU{α:Type}{a:Array α}(h:a.size=1):∃x,a=#[x]:=by
 rcases a with⟨l⟩
 match l,h with
 | [x],_=>exact⟨x,rfl⟩
theorem uO{r:Reach}{b0:Nat}{v:Value}{d:DataW H}{p:List MemPlace}(i:Value.okWide prog w r b0 24 v)(h:DataW.Trod enc prog w 0 (fun _=>true) held 24 v d p):
  ∃(A0:Option Addr) (cap n:Nat) (D:Nat->Dm) (A:Nat->Option Addr) (C:Nat->Nat),v=.agg #[.slice A0 n cap]/\aL w A0 cap n D A C:=by
 obtain⟨cs,rfl,a⟩:=okWide_struct underlying24 i;obtain⟨c0,rfl⟩:=OU (a.trans Na);obtain⟨b,g⟩:=h;obtain⟨-,n,j⟩:=j7 underlying24 κ g
 obtain⟨l,c⟩:=j 0 _ c0 rfl rfl;obtain⟨A0,cap,k,D,A,C,e,f⟩:=Fu c
 simp at e
 exact⟨A0,cap,k,D,A,C,by rw[e],f⟩
end
def bindN(op:Int):Int:=if op=3\/op=4 then 1 else if op=5\/op=6 then 2 else 3
theorem GY(op:Int):1<=bindN op:=by unfold bindN;split<;>(try split) <;>omega
structure Bld where
 nodes:List Nd
 ready:List Int
 waiting:List Int
def noB:Bld:=⟨[],[],[]⟩
def ly(x:Nd)(b:Bld):Bld:=⟨b.nodes++[x],b.ready++[(b.nodes.length:Int)],b.waiting⟩
def em(op:Int)(b:Bld):Bld:=ly ⟨op,0,⟨#[]⟩,b.ready.getD (b.ready.length-2) 0,b.ready.getD (b.ready.length-2+1) 0⟩ ⟨b.nodes,b.ready.take (b.ready.length-2),b.waiting⟩
def bh(least:Int):Nat->Bld->Bld
 | 0,b=>b
 |k+1,b=>if b.waiting.getD k 0=0\/bindN (b.waiting.getD k 0)<least then b else bh least k (em (b.waiting.getD k 0) ⟨b.nodes,b.ready,b.waiting.take k⟩)
def settleB(least:Int)(b:Bld):Bld:=bh least b.waiting.length b
def numW(t:ByteArray):Int:=t.data.toList.foldl (fun n c=>n*10+((c.toNat:Int)-48)) 0
def opndN(t:ByteArray):Nd:=if 97<=byteN t 0/\byteN t 0<=122 then⟨2,0,t,0,0⟩else⟨1,numW t,⟨#[]⟩,0,0⟩
def signI(c:Int):Int:=if c=43 then 0 else if c=45 then 1 else if c=42 then 2 else if c=47 then 3 else -1
def takeB(b:Bld)(t:ByteArray):Bld :=
 if byteN t 0=40 then⟨b.nodes,b.ready,b.waiting++[0]⟩
 else if byteN t 0=41 then⟨(settleB 0 b).nodes,(settleB 0 b).ready,(settleB 0 b).waiting.take ((settleB 0 b).waiting.length-1)⟩
 else if 0<=signI (byteN t 0)then⟨(settleB (bindN (3+signI (byteN t 0))) b).nodes,(settleB (bindN (3+signI (byteN t 0))) b).ready,(settleB (bindN (3+signI (byteN t 0))) b).waiting++[3+signI (byteN t 0)]⟩
 else ly (opndN t) b
def d7(l:List Int):Nat:=l.countP (fun x=>decide (x=0))
def opsN(l:List Int):Nat:=l.countP (fun x=>decide (x≠0))
theorem KH(l:List Int):d7 l+opsN l=l.length:=by
 induction l with
 |nil=>rfl
 |cons x r ih =>
  simp only[d7,opsN,List.countP_cons,List.length_cons]at *
  by_cases h:x=0
  ·rw[if_pos (by simpa using h),if_neg (by simpa using h)];omega
  rw[if_neg (by simpa using h),if_pos (by simpa using h)];omega
def dV(c:Int):Bool:=decide (48<=c)&&decide (c<=57)
def cZ(c:Int):Bool:=decide (97<=c)&&decide (c<=122)
def leadTo(p:Int->Bool)(t:ByteArray):Nat->Nat->Nat
 | 0,i=>i
 |f+1,i=>if p (byteN t i)then leadTo p t f (i+1)else i
def leadN(p:Int->Bool)(t:ByteArray):Nat:=leadTo p t t.size 0
def nextB(s:ByteArray)(a:Nat):Int:=if a=s.size then 0 else byteN s a
structure Rd(S:Type) where
 at':Nat
 opn:Nat
 st:S
section
variable {S:Type} (s:ByteArray) (tk:S->ByteArray->S)
def wordR(n:Nat)(r:Rd S):Rd S:=⟨r.at'+n,r.opn,tk r.st (s.extract r.at' (r.at'+n))⟩
def opensR:Nat->Rd S->Rd S
 | 0,r=>r
 |f+1,r=>if nextB s r.at'=40 then opensR f (wordR s tk 1 ⟨r.at',r.opn+1,r.st⟩)else r
def aX:Nat->Rd S->Rd S
 | 0,r=>r
 |f+1,r=>if 0<r.opn/\nextB s r.at'=41 then aX f (wordR s tk 1 ⟨r.at',r.opn-1,r.st⟩)else r
def digitsN(a:Nat):Nat:=if nextB s a=48 then 1 else min (leadN dV (s.extract a s.size)) 7
def bA(r:Rd S):Rd S:=opensR s tk (s.size-r.at') r
def aw(r:Rd S):Rd S×Bool :=
 if dV (nextB s (bA s tk r).at')then(aX s tk s.size (wordR s tk (digitsN s (bA s tk r).at') (bA s tk r)),true)
 else if cZ (nextB s (bA s tk r).at')then(aX s tk s.size (wordR s tk (leadN cZ (s.extract (bA s tk r).at' s.size)) (bA s tk r)),true)
 else(bA s tk r,false)
def cS(r:Rd S):Rd S×Bool:=if signI (nextB s r.at')<0 then(r,false)else(wordR s tk 1 r,true)
def dv:Nat->Rd S->Rd S×Bool
 | 0,r=>(r,true)
 |f+1,r=>if r.at'<s.size then
   (if(cS s tk r).2 then(if(aw s tk (cS s tk r).1).2 then dv f (aw s tk (cS s tk r).1).1 else((aw s tk (cS s tk r).1).1,false))else((cS s tk r).1,false))
  else(r,true)
def iz(r:Rd S):Rd S×Bool :=
 if(aw s tk r).2 then(if(dv s tk s.size (aw s tk r).1).2 then((dv s tk s.size (aw s tk r).1).1,decide ((dv s tk s.size (aw s tk r).1).1.opn=0))else((dv s tk s.size (aw s tk r).1).1,false))
 else((aw s tk r).1,false)
end
def pJ(w:World)(b o:Nat)(l:List Nd):Prop:=b<w.heap.size/\∀k,k<l.length->w.cell? ⟨b,o+k*5,none⟩=some (.int .i64 (l.getD k bT).op)/\w.cell? ⟨b,o+k*5+1,none⟩=some (.int .i64 (l.getD k bT).n)/\w.cell? ⟨b,o+k*5+2,none⟩=some (.string (l.getD k bT).name)/\w.cell? ⟨b,o+k*5+3,none⟩=some (.int .i64 (l.getD k bT).left)/\w.cell? ⟨b,o+k*5+4,none⟩=some (.int .i64 (l.getD k bT).right)
theorem pJ.later{w w':World}{b o:Nat}{l:List Nd}(h:pJ w b o l)(a:Bl w w'):pJ w' b o l:=by
 refine⟨zW h.1 a.size,fun k i=>?_⟩
 obtain⟨c,d,e,f,g⟩:=h.2 k i;exact⟨aM a h.1 c,aM a h.1 d,aM a h.1 e,aM a h.1 f,aM a h.1 g⟩
def kx(w:World)(A:Option Addr)(cap:Nat)(l:List Nd):Prop:=l.length<=cap/\cap<=9223372036854775807/\(l=[]\/∃b o,A=some ⟨b,o,none⟩/\pJ w b o l)
theorem kx.later{w w':World}{A:Option Addr}{cap:Nat}{l:List Nd}(h:kx w A cap l)(f:Bl w w'):kx w' A cap l:=by
 obtain⟨d,c,a|⟨b,o,a,e⟩⟩:=h
 ·exact⟨d,c,Or.inl a⟩
 exact⟨d,c,Or.inr ⟨b,o,a,e.later f⟩⟩
theorem kx.nil(w:World)(A:Option Addr)(cap:Nat)(h:cap<=9223372036854775807):kx w A cap []:=⟨zU,h,Or.inl rfl⟩
theorem tq(c:Int)(w:World):Rt 305 #[.int .u8 c] w (.bool (dV c)):=by
 unfold dV
 by_cases a:48<=c
 ·go_enter func305,ntmps305
  go_wp2;go_ret;exact⟨by simp<;>omega,by go_grown⟩
 go_enter func305,ntmps305
 go_wp2;go_ret;exact⟨by simp<;>omega,by go_grown⟩
theorem islet_any(c:Int)(w:World):Rt 278 #[.int .u8 c] w (.bool (cZ c)):=by
 unfold cZ
 by_cases a:97<=c
 ·go_enter func278,ntmps278
  go_wp2;go_ret;exact⟨by simp<;>omega,by go_grown⟩
 go_enter func278,ntmps278
 go_wp2;go_ret;exact⟨by simp<;>omega,by go_grown⟩
theorem sJ(op:Int)(w:World):Rt 198 #[.int .i64 op] w (.int .i64 (bindN op)):=by
 unfold bindN
 by_cases a:op=3
 ·subst a
  go_enter func198,ntmps198
  go_wp2;go_ret;exact⟨by simp,by go_grown⟩
 by_cases b:op=4
 ·subst b
  go_enter func198,ntmps198
  go_wp2;go_ret;exact⟨by simp,by go_grown⟩
 by_cases c:op=5
 ·subst c
  go_enter func198,ntmps198
  go_wp2;go_ret;exact⟨by simp,by go_grown⟩
 by_cases d:op=6
 ·subst d
  go_enter func198,ntmps198
  go_wp2;go_ret;exact⟨by simp,by go_grown⟩
 rw[if_neg ω,if_neg ω]
 go_enter func198,ntmps198
 go_wp2;go_ret;exact⟨rfl,by go_grown⟩
theorem E6(op:Int)(w:World):Rt 260 #[.int .i64 op] w (.bool (decide (op≠1/\op≠2))):=by
 by_cases a:op=1
 ·subst a
  go_enter func260,ntmps260
  go_wp2;go_ret;exact⟨by simp,by go_grown⟩
 by_cases b:op=2
 ·subst b
  go_enter func260,ntmps260
  go_wp2;go_ret;exact⟨by simp,by go_grown⟩
 go_enter func260,ntmps260
 go_wp2;go_ret;exact⟨by simp[a,b],by go_grown⟩
def KK(t:ByteArray)(b:Bool):ByteArray:=if b then⟨#[40]⟩ ++t++⟨#[41]⟩else t
theorem fu(s:ByteArray)(k:Nat)(h:k<s.size):((s[k]'h).toNat:Int)=byteN s k:=by
 unfold byteN;rw[List.getD,zX (by simpa using h)]
 rfl
theorem E8{p:Int->Bool}{t:ByteArray}{f i:Nat}(h:p (byteN t i)=false):leadTo p t (f+1) i=i:=by simp[leadTo,h]
theorem IL{p:Int->Bool}{t:ByteArray}{f i:Nat}(h:p (byteN t i)=true):leadTo p t (f+1) i=leadTo p t f (i+1):=by simp[leadTo,h]
theorem xi(p:Int->Bool)(F:Nat)(q:∀(args:Array Value) (w:World),(callFunc F args).run prog w=.ok (.enter F args) w)(o:∀(c:Int) (w:World),Rt F #[.int .u8 c] w (.bool (p c)))(t:ByteArray)(w:World)(y:t.size<=4611686018427387904):Rt 307 #[.string t,.func (.func F) #[] #[]] w (.int .i64 (leadN p t)):=by
 have s:=aa o;unfold leadN;clear o
 go_enter func307,ntmps307
 go_wp2_with fail
 go_loopg [8] t.size (fun g s8 wr =>∃(k:Nat),k<=t.size/\g=t.size-k/\s8=.int .i64 k/\leadTo p t (t.size-k) k=leadTo p t t.size 0/\Bl w wr)
 case atStart=>exact⟨0,zU,rfl,rfl,rfl,zS⟩
 case round =>
  obtain⟨k,x,rfl,rfl,r,f⟩:=hrel;have j:=aa r;have l:=aa f;clear r f
  by_cases n:k<t.size
  ·have u:(k:Int)<(t.size:Int):=ω;have v:(t.size:Int)<=4611686018427387904:=ω;have d:Hid (t.size-k=(t.size-(k+1))+1):=by show _=_;omega
   have a:=s.o (byteN t k);have h:=fu t k n;cases hb:p (byteN t k)
   ·rw[hb]at a
    have i:=aa hb;clear hb;generalize byteN t k=c at a h;go_wp2_with fail;refine(a _).mono ?_;rintro e w1⟨rfl,b⟩;go_wp2_with fail;go_ret;exact⟨by rw[←j.o,d.o,E8 i.o];rfl,ad l.o b⟩
   rw[hb]at a;have i:=aa hb;clear hb;generalize byteN t k=c at a h;go_wp2_with fail;refine(a _).mono ?_;rintro e w1⟨rfl,b⟩;go_wp2_with fail
   go_roundg (t.size-(k+1))
   case measure=>omega
   case rel=>exact⟨k+1,ω,rfl,by go_num,by rw[←j.o,d.o,IL i.o],ad l.o b⟩
  have m:k=t.size:=ω;subst m;go_wp2_with fail;go_ret;exact⟨by rw[←j.o,Nat.sub_self];rfl,l.o⟩
theorem Ll(args:Array Value)(w:World):(callFunc 305 args).run prog w=.ok (.enter 305 args) w:=by simp[go_sem]
theorem Ln(args:Array Value)(w:World):(callFunc 278 args).run prog w=.ok (.enter 278 args) w:=by simp[go_sem]
theorem E9(t:ByteArray)(w:World)(a:t.size<=4611686018427387904):Rt 307 #[.string t,.func (.func 305) #[] #[]] w (.int .i64 (leadN dV t)):=xi dV 305 Ll tq t w a
theorem Fa(t:ByteArray)(w:World)(a:t.size<=4611686018427387904):Rt 307 #[.string t,.func (.func 278) #[] #[]] w (.int .i64 (leadN cZ t)):=xi cZ 278 Ln islet_any t w a
end Go.Proofs.YtjfampgnhccodaaGreatDoor
