/- What Print of package -/
import Derived.Test.YtjfampgnhccodaaGreatDoorJTBK
namespace Go.Proofs.YtjfampgnhccodaaGreatDoor
open Tryz Go ChangeShapes WideShapes ChangeAt RowKit
set_option maxRecDepth 99999
set_option maxHeartbeats 0
theorem jv(B b:Nat)(l:List UInt8)(s:ByteArray)(w:World)(h:ep B b l w)(c:l.length+s.size<=100000000)(a:B<=w.heap.size):
  Calls prog 34 #[.pointer (some ⟨b,0,none⟩),.string s] w fun e w'=>e=.returned (.tuple #[.int .i64 s.size,.nilIface])/\ep B b (l++s.data.toList) w'/\Below B w w'/\Lib.OthersKept 5 (some b) w w':=by
 refine(Any.Builder_WriteString_k lays166 extra166 B b (Lib.byteCells l) s w h (by rw[Lib.byteCells_length];omega) a).mono fun e w' ⟨d,f,g,i⟩=>⟨d,?_,g,i⟩
 unfold ep;rw[Lib.byteCells_append];exact Or.inr f
noncomputable def shE(D:Nat->Dm)(n:Nat)(l:List En):Int:=if(au D n).2.2≠0 then(au D n).2.2 else entsErr D n l
noncomputable def DO(D:Nat->Dm)(n:Nat)(l:List En):ByteArray:=if shE D n l=0 then⟨(Oe D n l).toArray⟩else⟨#[]⟩
theorem Cg{D:Nat->Dm}{n:Nat}{l:List En}(h:shE D n l=0):(au D n).2.2=0/\Ens D n l:=by
 unfold shE at h
 split at h
 ·rename_i h1;exact absurd h h1
 rename_i h1;exact⟨by simpa using h1,qd h⟩
theorem xd{b c T:Nat}{w w':World}{cs:Array Value}(h:Lib.OthersKept 5 (some b) w w')(e:w.heap[c]?=some (.cells cs T (0,0)))(a:c≠b)(d:T≠5):w'.heap[c]?=some (.cells cs T (0,0)):=
 xc h e a d
theorem DT{g:Nat}{w:World}{a b c:ByteArray}{T:Nat}(h:w.heap[g]?=some (.cells #[.string a,.string b,.string c] T (0,0))):∀(j:Nat) x,[a,b,c][j]?=some x->w.cell? ⟨g,0+j,none⟩=some (.string x):=fun j x d=>by
 rw[Nat.zero_add,Lib.cell_of_heap h]
 match j,d with
 | 0,d=>cases d;rfl
 | 1,d=>cases d;rfl
 | 2,d=>cases d;rfl
theorem Lt{g:Nat}{w:World}{a b c d:ByteArray}{T:Nat}(h:w.heap[g]?=some (.cells #[.string a,.string b,.string c,.string d] T (0,0))):∀(j:Nat) x,[a,b,c,d][j]?=some x->w.cell? ⟨g,0+j,none⟩=some (.string x):=fun j x e=>by
 rw[Nat.zero_add,Lib.cell_of_heap h]
 match j,e with
 | 0,e=>cases e;rfl
 | 1,e=>cases e;rfl
 | 2,e=>cases e;rfl
 | 3,e=>cases e;rfl
theorem vk(A0:Option Addr)(cap n:Nat)(D:Nat->Dm)(A:Nat->Option Addr)(C:Nat->Nat)(AE:Option Addr)(ce:Nat)(xs:List EnL)(w:World)(bC:shE D n (lE xs)=0)(hT:kz w)(hM:aL w A0 cap n D A C)(aP:bU w AE ce xs):
  Rt 12 #[.agg #[.slice A0 n cap],.slice AE xs.length ce] w (.tuple #[.string ⟨(Oe D n (lE xs)).toArray⟩,.nilIface]):=by
 obtain⟨hr,G⟩:=Cg bC;have Y:=ay w A0 n cap 24;have br:=aU w A0 n cap 24;have cg:=aB w A0 n cap 24;have h1:=eF A0 cap n D A C (aE w A0 n cap 24) (hM.later Y);rw[hr,errV_zero]at h1;have bl:Hid (∀w',Below (aE w A0 n cap 24).heap.size (aE w A0 n cap 24) w'->Rt 6 #[.agg #[.slice A0 n cap],.slice AE xs.length ce] w' .nilIface):=fun w' hb=>by
  have h:=dW A0 cap n D A C AE ce xs w' (hM.later (ad Y hb)) (aP.later (ad Y hb));rw[G.ok,errV_zero]at h;exact h
 have HM:=aa hM;have bM:=aa aP;have bg:=aa G;have HT:=aa hT;have bG:=aa Y;have HR:=aa hr;have cD:=(ao G.right).1;have cE:=(ao G.right).2.1;have f:xs.length<=3000:=by have:=G.few;rw[aR]at this;exact this
 have aG:Hid (∀i,i<n->(am (D i)).2=0):=(aZ G.right).2;obtain⟨f1,f2,hf⟩:∃f1 f2,(au D n).1=f1/\(au D n).2.1=f2:=⟨_,_,rfl,rfl⟩;rw[hf.1,hf.2]at h1;obtain⟨xl,bc⟩:=ar xs.length;have bm:=aa bc;rw[bc]at bl f|-;clear bC hr hM aP G hT Y hf bc
 go_enter func12,ntmps12
 go_wp2_with fail;refine h1.mono ?_;rintro e w1⟨rfl,Z⟩;have bu:w1.cell? ⟨w.heap.size,0,none⟩=some (.slice A0 n cap):=aM Z (by show w.heap.size<_;omega) br
 have h2:=bl.o w1 Z;have cj:=Z.size;have bH:=aa Z;clear h1 Z;go_wp2_with fail;refine h2.mono ?_;rintro e w2⟨rfl,al⟩;have aO:Bl w w2:=ad bG.o (ad bH.o al);have bv:w2.cell? ⟨w.heap.size,0,none⟩=some (.slice A0 n cap):=aM al (by show w.heap.size<_;omega) bu
 have bD:w.heap.size<w2.heap.size:=by have:=al.size;omega
 obtain⟨b2,h0|⟨b,o,rfl,bp⟩⟩:=HM.o.later aO
 ·omega
 have bk:=aa bp;have K:=aa aO;have bK:Hid (ep w2.heap.size w2.heap.size [] (w2.alloc (.cells #[.pointer none,.slice none 0 0] 97))):=ep.fresh w2;clear al h2 bu br cg cj bp aO;go_wp2_with fail
 go_loopg [37] n (fun g bd wr =>∃(k:Nat),k<=n/\g=n-k/\bd=.int .i64 k/\ep w2.heap.size w2.heap.size (fq D k) wr/\Bl w2 wr)
 case atStart=>exact⟨0,zU,rfl,rfl,bK.o,by go_grown⟩
 case round =>
  obtain⟨wk,rfl⟩:∃wk:World,wk=wr:=⟨_,rfl⟩;obtain⟨k,hk,rfl,rfl,ah,F⟩:=hrel;have HW:=aa F;have HU:=aa ah
  by_cases a9:k<n
  ·obtain⟨h0,h1,h3,-⟩:=(bk.o.later F).2 k a9
   obtain⟨-,-,-,h4⟩:=bk.o.2 k a9;have cB:(k:Int)<(n:Int):=ω;have PV:=aG.o k a9;obtain⟨b4,b5,b6⟩:=mU PV;have aW:=kg aG.o k hk;have R:Hid (AB (D k)=(Fc [⟨#[100,105,109]⟩,(D k).name,⟨(Lib.itoa (D k).solve).toArray⟩]).data.toList):=by show _=_;rw[m8];simp[AB]
   have bf:Hid (fq D (k+1)=fq D k++(AB (D k)++fO (D k).mem (D k).n)):=p8 D k;have bj:=aa h4;have aH:Hid (∀j,j<(D k).n->aQ (D k).mem j=0):=(aq PV).2.2.2;have ba:=(aq PV).2.2.1;have cb:=(aq PV).2.1;have s:=HT.o.later (ad K.o F);have y:(Lib.itoa (D k).solve).length<=21:=Lib.itoa_length_le (D k).solve ω ω
   have aJ:=aa s;generalize bx:(D k).name=dn at h0 b4 R;generalize bz:(D k).solve=ds at h1 b5 b6 y R;generalize bw:(D k).n=m at h3 h4 bj ba cb aH bf;obtain⟨sv,p⟩:∃sv:ByteArray,⟨(Lib.itoa ds).toArray⟩=sv:=⟨_,rfl⟩;have cd:sv.size<=21:=by rw[←p];show(List.toArray _).size<=_;rw[List.size_toArray];exact y
   rw[p]at R;obtain⟨ac,z⟩:=ar (Fc [⟨#[100,105,109]⟩,dn,sv]);have ca:ac.size<=1000:=by
    have h:=m8 ⟨#[100,105,109]⟩ dn sv;rw[z]at h;have E:ac.data.toList.length=ac.size:=by simp
    have h2:dn.data.toList.length=dn.size:=by simp
    have h3:sv.data.toList.length=sv.size:=by simp
    rw[h]at E;simp only[List.length_append,List.length_cons,List.length_nil]at E;have h5:(ByteArray.mk #[100,105,109]).data.toList.length=3:=rfl
    omega
   have O:Hid (∀(w':World) (g:Nat),w'.heap[g]?=some (.cells #[.string ⟨#[100,105,109]⟩,.string dn,.string sv] 9 (0,0))->Rt 35 #[.slice (some ⟨g,0,none⟩) 3 3] w' (.string ac)):=fun w' g hg=>by
    have h:=nL g 3 3 [⟨#[100,105,109]⟩,dn,sv] w' (DT hg) (zY hg).1 rfl ω zT (by
     intro x f
     rcases List.mem_cons.1 f with rfl|f
     ·exact(by decide:(ByteArray.mk #[100,105,109]).size<=1048576)
     rcases List.mem_cons.1 f with rfl|f
     ·omega
     rcases List.mem_cons.1 f with rfl|f
     ·omega
     cases f)
    rw[z]at h;exact h
   rw[z]at R;obtain⟨wd,aA⟩:=ar (wk.alloc (.cells #[.string dn,.int .i64 ds,.slice (A k) m (C k)] 67));have a:Bl wk wd:=by rw[←aA];go_grown
   have c:wd.heap[wk.heap.size]?=some (.cells #[.string dn,.int .i64 ds,.slice (A k) m (C k)] 67 (0,0)):=by rw[←aA];exact heap_alloc_new wk _
   have bE:wk.heap.size<wd.heap.size:=(zY c).1;have af:Hid (∀w',Bl wd w'->Rt 36 #[.int .i64 ds] w' (.string sv)):=fun w' hb=>by
    have h:=xa ds w' ω ω (aJ.o.later (ad a hb))
    rw[p]at h;exact h
   have cl:=F.size;have bZ:=ah.lt;have P:Hid (∀w',Bl wd w'->Calls prog 34 #[.pointer (some ⟨w2.heap.size,0,none⟩),.string ac] w' fun e ab=>e=.returned (.tuple #[.int .i64 ac.size,.nilIface])/\ep w2.heap.size w2.heap.size (fq D k++AB (D k)) ab/\Bl w2 ab/\ab.heap[wk.heap.size]?=some (.cells #[.string dn,.int .i64 ds,.slice (A k) m (C k)] 67 (0,0))):=fun w' I=>by
    have l:=ad a I;refine(jv _ _ _ ac w' (HU.o.later l) ω (by have:=l.size;omega)).mono fun e ab ⟨a1,a2,a3,a4⟩=>⟨a1,?_,(ad HW.o l).trans a3,xd a4 ((I.block _ bE).trans c) ω (by decide)⟩
    rw[R.o];exact a2
   have N:Hid (∀w',Bl w2 w'->w'.heap[wk.heap.size]?=some (.cells #[.string dn,.int .i64 ds,.slice (A k) m (C k)] 67 (0,0))->Bl w2 w'/\w'.cell? ⟨wk.heap.size,0,none⟩=some (.string dn)/\w'.cell? ⟨wk.heap.size,1,none⟩=some (.int .i64 ds)):=fun w' h E=>⟨h,by rw[Lib.cell_of_heap E];rfl,by rw[Lib.cell_of_heap E];rfl⟩
   have B:Hid (∀w',Bl wd w'->Bl w2 w'/\w'.cell? ⟨wk.heap.size,0,none⟩=some (.string dn)/\w'.cell? ⟨wk.heap.size,1,none⟩=some (.int .i64 ds)):=fun w' h=>N.o w' (ad HW.o (ad a h)) ((h.block _ bE).trans c)
   have ag:=aa aA;have cu:=aa p;have ct:=aa z;have cr:=aa bx;have cs:=aa bz;have cq:=aa bw;have k0:=(B.o wd zS).2.1;have k1:=(B.o wd zS).2.2;clear a c aA F ah p z bx bz bw PV s h4 y
   go_upto_region 11 with fail
   rw[ag.o]
   go_cut [37]from 37 to 72 (fun bd wx=>bd=.int .i64 k/\ep w2.heap.size w2.heap.size (fq D k++AB (D k)) wx/\Bl w2 wx/\wx.heap[wk.heap.size]?=some (.cells #[.string dn,.int .i64 ds,.slice (A k) m (C k)] 67 (0,0)))
   case first =>
    go_region_held3 (fun w'=>Bl w2 w'/\w'.cell? ⟨wk.heap.size,0,none⟩=some (.string dn)/\w'.cell? ⟨wk.heap.size,1,none⟩=some (.int .i64 ds))
     (first|(exact N.o _ r PU)|(refine B.o _ ?_;go_grown;done))
     (first
      |(go_at_call 36;refine(af.o _ γ).mono ?_;rintro e w6⟨rfl,u⟩;have aT:=ad (W0:=wd) γ u;have ch:=aT.size;clear u)
      |(go_at_call 35;refine(O.out _ _ (by first|exact heap_alloc_new _ _|simp)).mono ?_;rintro e w7⟨rfl,v⟩;have aV:=ad (W0:=wd) γ v;have ci:=aV.size;clear v)
      |(go_at_call 34;refine(P.o _ γ).mono ?_;rintro e w8⟨rfl,H,r,PU⟩))
    all_goals go_wp2_with fail
    all_goals go_meet
    all_goals exact⟨rfl,H,r,PU⟩
   case rest =>
   obtain⟨rfl,hu,bt,a0⟩:=hcut;obtain⟨wx,rfl⟩:∃wx:World,wx=wc:=⟨_,rfl⟩;have e2:wx.cell? ⟨wk.heap.size,2,none⟩=some (.slice (A k) m (C k)):=by rw[Lib.cell_of_heap a0];rfl
   have cL:wk.heap.size<wx.heap.size:=(zY a0).1;obtain⟨cy,h5|⟨b',o',hA,aS⟩⟩:=bj.o
   ·omega
   have bB:(m:Int)<=12:=ω;have bX:b'<w2.heap.size:=aS.1;have bi:=aa aS;have bS:=aa hu;have HX:=aa bt;have HA:=aa hA;rw[hA]at e2;clear hu bt a0 k0 k1 h0 h1 h3 P O af B N aS hA;go_wp2_with fail
   go_loopg [52] m (fun g cn wy =>∃(j:Nat),j<=m/\g=m-j/\cn=.int .i64 j/\ep w2.heap.size w2.heap.size (fq D k++(AB (D k)++fO (D k).mem j)) wy/\Bl w2 wy)
   case atStart=>exact⟨0,zU,rfl,rfl,by simpa [fO]using bS.o,HX.o⟩
   case round =>
    obtain⟨j,hj,rfl,rfl,q,d⟩:=hrel;have HY:=aa d;have HV:=aa q
    by_cases ap:j<m
    ·have b7:(j:Int)<(m:Int):=ω;obtain⟨g0,g1,g2,g3⟩:=(bi.o.2 j ap).later bi.o.1 d;obtain⟨q1,q2,q3,q4,q5,q6⟩:=m9 (aH.o j ap) ω
     have cC:=nc j ω (fun i hi=>aH.o i ω)
     have W:Hid (uw ((D k).mem j)=(Fc [⟨#[109,101,109]⟩,((D k).mem j).name,⟨(rU ((D k).mem j).parent).toArray⟩,⟨(rV ((D k).mem j).sign).toArray⟩ ++⟨(lu ((D k).mem j).formula).toArray⟩]).data.toList):=by show _=_;rw[xo];simp[uw,ByteArray.data_append]
     have bh:Hid (fO (D k).mem (j+1)=fO (D k).mem j++uw ((D k).mem j)):=qC _ _;have cA:(AB (D k)).length<=1000:=by rw[R.o];simp;omega
     have s:=HT.o.later (ad K.o d);have bR:=aa s;have T:(rU ((D k).mem j).parent).length<=40:=by
      have a3:=Lib.itoa_length_le ((D k).mem j).parent ω ω
      unfold rU;split;omega;simp
     have a6:=DK ((D k).mem j).sign;have a5:(lu ((D k).mem j).formula).length<=101:=by
      have a2:=OQ ((D k).mem j).formula;unfold lu;split;simp;simp only[List.length_cons];omega
     generalize (D k).mem j=M at g0 g1 g2 g3 q1 q2 q3 q4 q5 q6 W bh T a6 a5;obtain⟨nm,pa,sg,fo⟩:=M;obtain⟨pt,aw⟩:∃pt:ByteArray,⟨(rU pa).toArray⟩=pt:=⟨_,rfl⟩;obtain⟨st,U⟩:∃st:ByteArray,⟨(rV sg).toArray⟩=st:=⟨_,rfl⟩;obtain⟨ft,an⟩:∃ft:ByteArray,⟨(lu fo).toArray⟩=ft:=⟨_,rfl⟩;have cF:pt.size<=40:=by rw[←aw];show(List.toArray _).size<=_;rw[List.size_toArray];exact T
     have cf:st.size<=1:=by rw[←U];show(List.toArray _).size<=_;rw[List.size_toArray];exact a6
     have cz:ft.size<=101:=by rw[←an];show(List.toArray _).size<=_;rw[List.size_toArray];exact a5
     dsimp only at g0 g1 g2 g3 q1 q2 q3 q4 q5 q6 W
     rw[aw,U,an]at W;have hadd :¬ 9223372036854775807<st.size+ft.size:=ω;obtain⟨sf,ax⟩:∃sf:ByteArray,st++ft=sf:=⟨_,rfl⟩;have cc:sf.size<=102:=by rw[←ax,ByteArray.size_append];omega
     obtain⟨lm,av⟩:=ar (Fc [⟨#[109,101,109]⟩,nm,pt,sf]);rw[ax,av]at W;have b9:lm.size<=1000:=by
      have h:=xo ⟨#[109,101,109]⟩ nm pt sf;rw[av]at h;have E:lm.data.toList.length=lm.size:=by simp
      have h2:nm.data.toList.length=nm.size:=by simp
      have h3:pt.data.toList.length=pt.size:=by simp
      have h4:sf.data.toList.length=sf.size:=by simp
      rw[h]at E;simp only[List.length_append,List.length_cons,List.length_nil]at E;have h5:(ByteArray.mk #[109,101,109]).data.toList.length=3:=rfl
      omega
     have O:Hid (∀(w':World) (g:Nat),w'.heap[g]?=some (.cells #[.string ⟨#[109,101,109]⟩,.string nm,.string pt,.string (st++ft)] 9 (0,0))->Rt 35 #[.slice (some ⟨g,0,none⟩) 4 4] w' (.string lm)):=fun w' g hg=>by
      rw[ax]at hg;have h:=nL g 4 4 [⟨#[109,101,109]⟩,nm,pt,sf] w' (Lt hg) (zY hg).1 rfl ω zT (by
       intro x f
       rcases List.mem_cons.1 f with rfl|f
       ·exact(by decide:(ByteArray.mk #[109,101,109]).size<=1048576)
       rcases List.mem_cons.1 f with rfl|f
       ·omega
       rcases List.mem_cons.1 f with rfl|f
       ·omega
       rcases List.mem_cons.1 f with rfl|f
       ·omega
       cases f)
      rw[av]at h;exact h
     obtain⟨wm,aD⟩:=ar (wr.alloc (.cells #[.string nm,.int .i64 pa,.int .i64 sg,.string fo] 64));have a:Bl wr wm:=by rw[←aD];go_grown
     have c:wm.heap[wr.heap.size]?=some (.cells #[.string nm,.int .i64 pa,.int .i64 sg,.string fo] 64 (0,0)):=by rw[←aD];exact heap_alloc_new wr _
     have bF:wr.heap.size<wm.heap.size:=(zY c).1;have bP:Hid (∀w',Bl wm w'->Rt 37 #[.int .i64 pa] w' (.string pt)):=fun w' hb=>by
      have h:=BA pa w' ω ω (bR.o.later (ad a hb))
      rw[aw]at h;exact h
     have bQ:Hid (∀w',Rt 38 #[.int .i64 sg] w' (.string st)):=fun w'=>by
      have h:=MA sg w' ω ω
      rw[U]at h;exact h
     have bN:Hid (∀w',Rt 39 #[.string fo] w' (.string ft)):=fun w'=>by
      have h:=EN fo w' ω
      rw[an]at h;exact h
     have cm:=d.size;have b0:=q.lt;have P:Hid (∀w',Bl wm w'->Calls prog 34 #[.pointer (some ⟨w2.heap.size,0,none⟩),.string lm] w' fun e ab=>e=.returned (.tuple #[.int .i64 lm.size,.nilIface])/\ep w2.heap.size w2.heap.size (fq D k++(AB (D k)++fO (D k).mem (j+1))) ab/\Bl w2 ab/\ab.heap[wr.heap.size]?=some (.cells #[.string nm,.int .i64 pa,.int .i64 sg,.string fo] 64 (0,0))):=fun w' I=>by
      have l:=ad a I;refine(jv _ _ _ lm w' (HV.o.later l) (by rw[List.length_append,List.length_append];omega) (by have:=l.size;omega)).mono fun e ab ⟨a1,a2,a3,a4⟩=>⟨a1,?_,(ad HY.o l).trans a3,xd a4 ((I.block _ bF).trans c) ω (by decide)⟩
      rw[bh.o,W.o]
      simpa [List.append_assoc]using a2
     have N:Hid (∀w',Bl w2 w'->w'.heap[wr.heap.size]?=some (.cells #[.string nm,.int .i64 pa,.int .i64 sg,.string fo] 64 (0,0))->Bl w2 w'/\w'.cell? ⟨wr.heap.size,0,none⟩=some (.string nm)/\w'.cell? ⟨wr.heap.size,1,none⟩=some (.int .i64 pa)/\w'.cell? ⟨wr.heap.size,2,none⟩=some (.int .i64 sg)/\w'.cell? ⟨wr.heap.size,3,none⟩=some (.string fo)):=fun w' h E=>⟨h,by rw[Lib.cell_of_heap E];rfl,by rw[Lib.cell_of_heap E];rfl,by rw[Lib.cell_of_heap E];rfl,by rw[Lib.cell_of_heap E];rfl⟩
     have B:Hid (∀w',Bl wm w'->Bl w2 w'/\w'.cell? ⟨wr.heap.size,0,none⟩=some (.string nm)/\w'.cell? ⟨wr.heap.size,1,none⟩=some (.int .i64 pa)/\w'.cell? ⟨wr.heap.size,2,none⟩=some (.int .i64 sg)/\w'.cell? ⟨wr.heap.size,3,none⟩=some (.string fo)):=fun w' h=>N.o w' (ad HY.o (ad a h)) ((h.block _ bF).trans c)
     have aN:=aa aD;obtain⟨-,k0,k1,k2,k3⟩:=B.o wm zS;clear a c aD d q aw U an ax av s T a6 a5
     go_upto_region 15 with fail
     rw[aN.o]
     go_region_held3 (fun w'=>Bl w2 w'/\w'.cell? ⟨wr.heap.size,0,none⟩=some (.string nm)/\w'.cell? ⟨wr.heap.size,1,none⟩=some (.int .i64 pa)/\w'.cell? ⟨wr.heap.size,2,none⟩=some (.int .i64 sg)/\w'.cell? ⟨wr.heap.size,3,none⟩=some (.string fo))
      (first|(exact N.o _ r PU)|(refine B.o _ ?_;go_grown;done))
      (first
       |(go_at_call 37;refine(bP.o _ γ).mono ?_;rintro e w4⟨rfl,bs⟩;have bV:=ad (W0:=wm) γ bs;have cH:=bV.size;clear bs)
       |(go_at_call 38;refine(bQ.o _).mono ?_;rintro e w5⟨rfl,t⟩;have bW:=ad (W0:=wm) γ t;have cI:=bW.size;clear t)
       |(go_at_call 39;refine(bN.o _).mono ?_;rintro e w6⟨rfl,u⟩;have aT:=ad (W0:=wm) γ u;have ch:=aT.size;clear u)
       |(go_at_call 35;refine(O.out _ _ (by first|exact heap_alloc_new _ _|simp)).mono ?_;rintro e w7⟨rfl,v⟩;have aV:=ad (W0:=wm) γ v;have ci:=aV.size;clear v)
       |(go_at_call 34;refine(P.o _ γ).mono ?_;rintro e w8⟨rfl,H,r,PU⟩))
     all_goals (have aK:=aa H;have aF:=aa r;clear H r PU)
     all_goals go_wp2_with fail
     all_goals go_roundg (m-(j+1))
     all_goals first|omega|exact⟨j+1,ω,rfl,by go_num,aK.o,aF.o⟩
    have a7:j=m:=ω;subst a7;have V:Hid (ep w2.heap.size w2.heap.size (fq D (k+1)) wr):=by
     show ep _ _ _ _
     rw[bf.o];exact HV.o
    clear q d;go_wp2_with fail
    go_roundg (n-(k+1))
    case measure=>omega
    case rel=>exact⟨k+1,ω,rfl,by go_num,V.o,HY.o⟩
  have b8:k=n:=ω;subst b8;have aW:=kg aG.o k zT;have bL:=aa aW;have b1:wk.cell? ⟨w.heap.size,0,none⟩=some (.slice (some ⟨b,o,none⟩) k cap):=aM F bD bv;clear ah F aW b1;go_wp2_with fail
  go_loopg [75] xl (fun g co wy =>∃(j:Nat),j<=xl/\g=xl-j/\co=.int .i64 j/\ep w2.heap.size w2.heap.size (fq D k++fp D k ((lE xs).take j)) wy/\Bl w2 wy)
  case atStart=>exact⟨0,zU,rfl,rfl,by simpa [fp]using HU.o,HW.o⟩
  case round =>
   obtain⟨j,hj,rfl,rfl,q,d⟩:=hrel;have HY:=aa d;have HV:=aa q;have cx:(fp D k ((lE xs).take j)).length<=3000*1000:=by
    refine zV (sO _ fun e he=>?_) (Nat.mul_le_mul_right _ ?_)
    ·have:=bg.o.each e (List.mem_of_mem_take he)
     exact⟨this.1,this.2.2⟩
    rw[List.length_take];omega
   by_cases ap:j<xl
   ·have b7:(j:Int)<(xl:Int):=ω;have S:j<xs.length:=by rw[bm.o];exact ap
    obtain⟨cw,b3,h5|⟨be,oe,bT,ai⟩⟩:=bM.o.later (ad K.o d)
    ·rw[h5]at S;cases S
    obtain⟨g0,g1⟩:=jw.at ai S;have T:=jw.pl ai S;have cv:=ai.1;have he:=bg.o.each ((lE xs).getD j noEn) (by rw[lE_at];exact List.mem_map.2 ⟨_,cJ S,rfl⟩)
    have ae:Hid (fp D k ((lE xs).take (j+1))=fp D k ((lE xs).take j)++uf D k ((lE xs).getD j noEn)):=zh D k (lE xs) (by rw[aR];exact S)
    rw[lE_at]at he ae;have Q:Hid (uf D k (xs.getD j noL).e=(Fc [⟨#[99,101,108,108]⟩,⟨(aY D (xs.getD j noL).e.pl k).toArray⟩,⟨(Lib.itoa (xs.getD j noL).e.n).toArray⟩]).data.toList):=by show _=_;rw[m8];simp[uf]
    have PT:=vR he.1 he.2.2;have bb:=jt he.1 k zT;have hne : -9223372036854775808<=(xs.getD j noL).e.n/\(xs.getD j noL).e.n<=9223372036854775807:=by
     have hn:=he.2.2;unfold dE at hn;simp only[Bool.and_eq_true,decide_eq_true_eq]at hn
     omega
    have y:=Lib.itoa_length_le (xs.getD j noL).e.n ω ω
    have aj:=aa he.1;subst bT;have aI:=aa T;generalize (xs.getD j noL)=X at g0 g1 aI ae Q PT bb hne y aj;obtain⟨⟨L,nn⟩,Ap,cp⟩:=X
    dsimp only at g0 g1 aI ae Q PT bb hne y aj
    obtain⟨tx,az⟩:∃tx:ByteArray,⟨(aY D L k).toArray⟩=tx:=⟨_,rfl⟩;obtain⟨sv,p⟩:∃sv:ByteArray,⟨(Lib.itoa nn).toArray⟩=sv:=⟨_,rfl⟩;have cG:tx.size<=1000:=by rw[←az];show(List.toArray _).size<=_;rw[List.size_toArray];omega
    have cd:sv.size<=21:=by rw[←p];show(List.toArray _).size<=_;rw[List.size_toArray];exact y
    rw[az,p]at Q;obtain⟨lc,a8⟩:=ar (Fc [⟨#[99,101,108,108]⟩,tx,sv]);rw[a8]at Q;have ca:lc.size<=1000:=by
     have E:lc.data.toList.length=lc.size:=by simp
     rw[←Q.o]at E
     omega
    have O:Hid (∀(w':World) (g:Nat),w'.heap[g]?=some (.cells #[.string ⟨#[99,101,108,108]⟩,.string tx,.string sv] 9 (0,0))->Rt 35 #[.slice (some ⟨g,0,none⟩) 3 3] w' (.string lc)):=fun w' g hg=>by
     have h:=nL g 3 3 [⟨#[99,101,108,108]⟩,tx,sv] w' (DT hg) (zY hg).1 rfl ω zT (by
      intro x f
      rcases List.mem_cons.1 f with rfl|f
      ·exact(by decide:(ByteArray.mk #[99,101,108,108]).size<=1048576)
      rcases List.mem_cons.1 f with rfl|f
      ·omega
      rcases List.mem_cons.1 f with rfl|f
      ·omega
      cases f)
     rw[a8]at h;exact h
    obtain⟨we,aC⟩:=ar (wr.alloc (.cells #[.slice Ap L.length cp,.int .i64 nn] 45));have a:Bl wr we:=by rw[←aC];go_grown
    have c:we.heap[wr.heap.size]?=some (.cells #[.slice Ap L.length cp,.int .i64 nn] 45 (0,0)):=by rw[←aC];exact heap_alloc_new wr _
    have ck:wr.heap.size<we.heap.size:=(zY c).1;have J:=ad HY.o a;have ak:=BK (some ⟨b,o,none⟩) cap k D A C Ap cp L we (HM.o.later (ad K.o J)) (aI.o.later a);rw[aj.o.ok,errV_zero,show rO D k L=⟨(aY D L k).toArray⟩ by unfold rO;rw[if_pos aj.o.ok],az]at ak
    have af:Hid (∀w',Bl we w'->Rt 36 #[.int .i64 nn] w' (.string sv)):=fun w' hb=>by
     have h:=xa nn w' hne.1 hne.2 (HT.o.later (ad (ad K.o J) hb));rw[p]at h;exact h
    have cl:=d.size;have bZ:=q.lt;have aX:=bL.o;have P:Hid (∀w',Bl we w'->Calls prog 34 #[.pointer (some ⟨w2.heap.size,0,none⟩),.string lc] w' fun e ab=>e=.returned (.tuple #[.int .i64 lc.size,.nilIface])/\ep w2.heap.size w2.heap.size (fq D k++fp D k ((lE xs).take (j+1))) ab/\Bl w2 ab):=fun w' I=>by
     have l:=ad a I;refine(jv _ _ _ lc w' (HV.o.later l) (by rw[List.length_append];omega) (by have:=l.size;omega)).mono fun e ab ⟨a1,a2,a3,_⟩=>⟨a1,?_,(ad HY.o l).trans a3⟩
     rw[ae.o,Q.o,←List.append_assoc];exact a2
    have ag:=aa aC;have c3:we.cell? ⟨w.heap.size,0,none⟩=some (.slice (some ⟨b,o,none⟩) k cap):=aM J bD bv;have k0:we.cell? ⟨wr.heap.size,0,none⟩=some (.slice Ap L.length cp):=by rw[Lib.cell_of_heap c];rfl
    have bO:Hid (∀w',Bl we w'->w'.cell? ⟨wr.heap.size,1,none⟩=some (.int .i64 nn)):=fun w' h=>by rw[Lib.cell_of_heap ((h.block _ ck).trans c)];rfl
    obtain⟨ll,bA⟩:=ar L.length;rw[bA]at ak k0 ag g0;clear a c aC d q p a8 az ai T he aX y bb PT bA J
    go_upto_region 21 with fail
    rw[ag.o];go_wp2_with fail;refine ak.mono ?_;rintro e w5⟨rfl,t⟩;have k1:=bO.o w5 t;have bo:=af.o w5 t;have cK:=t.size;have bI:=aa t;clear ak t;go_wp2_with fail;refine bo.mono ?_;rintro e w6⟨rfl,u⟩;have bJ:=aa (ad bI.o u);clear bo u;go_wp2_with fail;refine(O.out _ _ (heap_alloc_new _ _)).mono ?_;rintro e w7⟨rfl,v⟩;have bn:=ad (W0:=we) (ad bJ.o γ) v
    have bq:=P.o w7 bn;clear v;go_wp2_with fail;refine bq.mono ?_;rintro e w8⟨rfl,H,r⟩;have aK:=aa H;have aF:=aa r;clear bq H r bn;go_wp2_with fail
    go_roundg (xl-(j+1))
    case measure=>omega
    case rel=>exact⟨j+1,ω,rfl,by go_num,aK.o,aF.o⟩
   have a7:j=xl:=ω;subst a7;have V:Hid (ep w2.heap.size w2.heap.size (Oe D k (lE xs)) wr):=by
    show ep _ _ _ _
    have h:=HV.o;rw[←bm.o,←aR,List.take_length]at h;exact h
   have U:=nU w2.heap.size w2.heap.size _ wr V.o (by have:=d.size;omega)
   clear q d;go_wp2_with fail;refine U.mono ?_;rintro e w9⟨rfl,bY⟩;go_wp2_with fail
   go_ret2
   exact⟨rfl,ad K.o (HY.o.trans bY)⟩
end Go.Proofs.YtjfampgnhccodaaGreatDoor
