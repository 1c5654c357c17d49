/- Entries checked: what -/
import Derived.Shelf.Spec.SlicesInsertGrow
import Derived.Laws.OwnMore
import Derived.Sort.Walk0
import Derived.Lib.AppendZerosOnto
import Derived.Laws.AppendOwnNone
import Derived.Test.YtjfampgnhccodaaGreatDoorJTAL
namespace Go.Proofs.YtjfampgnhccodaaGreatDoor
open Tryz ChangeShapes WideShapes ChangeAt RowKit Lib Go
set_option maxRecDepth 99999
set_option maxHeartbeats 0
theorem gr{D:Nat->Dm}{n:Nat}{L:List Int}(h:InO D n L):L.length<=4:=by rw[h.len];exact(ao h.right).2.1
theorem OA{W w':World}{b b' o1 o2 o3:Nat}{u v z:Value}(h:b<W.heap.size/\b'<W.heap.size/\W.cell? ⟨b,o1,none⟩=some u/\W.cell? ⟨b,o2,none⟩=some v/\W.cell? ⟨b',o3,none⟩=some z)(a:Bl W w'):Bl W w'/\w'.cell? ⟨b,o1,none⟩=some u/\w'.cell? ⟨b,o2,none⟩=some v/\w'.cell? ⟨b',o3,none⟩=some z :=
 ⟨a,aM a h.1 h.2.2.1,aM a h.1 h.2.2.2.1,aM a h.2.1 h.2.2.2.2⟩
theorem dW(A0:Option Addr)(cap n:Nat)(D:Nat->Dm)(A:Nat->Option Addr)(C:Nat->Nat)(AE:Option Addr)(ce:Nat)(xs:List EnL)(w:World)(hM:aL w A0 cap n D A C)(hE:bU w AE ce xs):
  Rt 6 #[.agg #[.slice A0 n cap],.slice AE xs.length ce] w (errV (entsErr D n (lE xs))):=by
 have R:=ay w A0 n cap 24;have h:=ub A0 cap n D A C (aE w A0 n cap 24) (hM.later R);have M:=aa R;have HM:=aa hM;have HE:=aa hE;generalize (ag D n).1=x1 at h;generalize (ag D n).2.1=x2 at h;clear hM R
 by_cases K:(ag D n).2.2=0
 ·have HR:=aa K
  have HV:Hid (entsErr D n (lE xs)=bH D n (qOf (lE xs) 0) ((lE xs).drop 0)):=Lo _ K;rw[K,errV_zero]at h;obtain⟨N,hN⟩:=ar xs.length;have HN:=aa hN;have aC:(N:Int)<=9223372036854775807:=by have h1:=hE.1;have h2:=hE.2.1;omega
  rw[hN];clear K hN hE
  go_enter func6,ntmps6
  go_wp2_with fail;refine h.mono ?_;rintro e w1⟨rfl,s⟩;have hB:Bl w w1:=ad M.o s;have hz:w.heap.size<w1.heap.size:=by have:=s.size;rw[aB]at this;omega
  have h2:w1.cell? ⟨w.heap.size,0,none⟩=some (.slice A0 n cap):=aM s (by show w.heap.size<_;rw[aB];omega) (aU ..)
  have al:=aa (HM.o.later hB);have ak:=aa (HE.o.later hB);have HB:=aa hB;clear s h hB HM HE M;go_wp2_with fail
  go_loopg [22] N (fun g aw wr =>∃(k:Nat),k<=N/\g=N-k/\aw=.int .i64 k/\Hid (bH D n (qOf (lE xs) k) ((lE xs).drop k)=bH D n (qOf (lE xs) 0) ((lE xs).drop 0))/\Hid (∀j,j<k->entOne D n ((lE xs).getD j noEn)=0)/\Bl w1 wr)
  case atStart=>exact⟨0,zU,rfl,rfl,(rfl:bH D n (qOf (lE xs) 0) ((lE xs).drop 0)=bH D n (qOf (lE xs) 0) ((lE xs).drop 0)),fun j V=>absurd V (Nat.not_lt_zero _),zS⟩
  case round =>
   obtain⟨k,hk,rfl,rfl,HF,HO,m⟩:=hrel;have v:=aa m
   by_cases aq:k<N
   ·have u:k<xs.length:=by rw[HN.o];exact aq
    have aF:(k:Int)<(N:Int):=ω;have aD:(k:Int)+1<=9223372036854775807:=ω;obtain⟨-,-,h0|⟨b,o,rfl,I⟩⟩:=ak.o.later m
    ·have:=HN.o;rw[h0]at this;simp at this;omega
    obtain⟨c1,c2⟩:=I.at u;have T:=I.pl u;have c0:wr.cell? ⟨w.heap.size,0,none⟩=some (.slice A0 n cap):=aM m hz h2;have av:w.heap.size<wr.heap.size:=zW hz m.size;have H:=eK wr (xs.getD k noL).A (xs.getD k noL).e.pl.length (xs.getD k noL).c (xs.getD k noL).e.n 45;have a:=od A0 cap n D A C (xs.getD k noL).A (xs.getD k noL).c (xs.getD k noL).e (fP wr (xs.getD k noL).A (xs.getD k noL).e.pl.length (xs.getD k noL).c (xs.getD k noL).e.n 45) HR.o ((al.o.later m).later H) (T.later H);have d:=aa H;have P:=aa I;have F:=aa T;have r:Hid ((fP wr (xs.getD k noL).A (xs.getD k noL).e.pl.length (xs.getD k noL).c (xs.getD k noL).e.n 45).cell? ⟨wr.heap.size,0,none⟩=some (.slice (xs.getD k noL).A (xs.getD k noL).e.pl.length (xs.getD k noL).c)):=pz ..;have q:Hid (wr.heap.size<(fP wr (xs.getD k noL).A (xs.getD k noL).e.pl.length (xs.getD k noL).c (xs.getD k noL).e.n 45).heap.size):=by show _<_;rw[jl];omega
    clear m I T H
    by_cases L:entOne D n (xs.getD k noL).e=0
    ·have ae:=f6 HR.o L
     have x:Hid (entOne D n ((lE xs).getD k noEn)=0):=by show _=_;rw[lE_at];exact L
     have Q:Hid ((xs.getD k noL).e.pl.length<=4):=gr ae.1;rw[L,errV_zero]at a;clear L ae
     rcases Nat.eq_zero_or_pos k with ab|ab
     ·subst ab
      have HQ:Hid (kc (qOf (lE xs) 0) ((lE xs).getD 0 noEn).pl=true):=rfl;have y:Hid (bH D n (qOf (lE xs) 0) ((lE xs).drop 0)=bH D n (qOf (lE xs) (0+1)) ((lE xs).drop (0+1))):=Ia (by rw[aR];exact u) x.o HQ.o
      generalize (xs.getD 0 noL).A=A1 at c1 a d r q;generalize (xs.getD 0 noL).c=k1 at c1 a d r q;generalize (xs.getD 0 noL).e.n=n1 at c2 a d r q;generalize (xs.getD 0 noL).e.pl.length=m1 at c1 a d r q;simp only[Nat.zero_mul,Nat.add_zero]at c1 c2;clear F Q;go_wp2_with fail;refine a.mono ?_;rintro e w2⟨rfl,f⟩;have l:=aa (ad d.o f);clear f;go_wp2_with fail
      go_quiet (fail)
      go_wp2_with fail
      go_roundg (N-(0+1))
      case measure=>omega
      case rel =>
       refine⟨0+1,ω,rfl,by go_num,y.o.symm,fun j V=>?_,aj (ad v.o l.o) _⟩
       have:j=0:=ω;subst this;exact x.o
     obtain⟨j,V⟩:∃j,k=j+1:=⟨k-1,ω⟩
     have af:j<xs.length:=ω;obtain⟨Z,d2⟩:=P.o.at af;have S:=f6 HR.o (HO.o j ω)
     rw[lE_at]at S;have B:Hid (∀w',Bl wr w'->Rt 25 #[.agg #[.slice (xs.getD j noL).A (xs.getD j noL).e.pl.length (xs.getD j noL).c,.int .i64 (xs.getD j noL).e.n],.slice (xs.getD k noL).A (xs.getD k noL).e.pl.length (xs.getD k noL).c] w' (.int .i64 (cmpL (xs.getD j noL).e.pl (xs.getD k noL).e.pl))):=fun w' ah=>tD _ _ _ _ _ _ _ w' (gr S.1) Q.o ((P.o.pl af).later ah) (F.o.later ah)
     have O:Hid (decide (0<=cmpL (xs.getD j noL).e.pl (xs.getD k noL).e.pl) = !az (xs.getD j noL).e.pl (xs.getD k noL).e.pl):=wg (xs.getD j noL).e.pl (xs.getD k noL).e.pl;have HQ:Hid (kc (qOf (lE xs) k) ((lE xs).getD k noEn).pl=az (xs.getD j noL).e.pl (xs.getD k noL).e.pl):=by show _=_;rw[←lE_at,←lE_at,V];rfl
     have au:IntKind.i64.wrap ((k:Int)-1)=(j:Int):=by rw[IntKind.wrap_i64];omega
     have an:(0:Int)<(k:Int):=ω;have aA:=aa V;have ao:(j:Int)<(N:Int):=ω;generalize (xs.getD k noL).A=A1 at c1 a d r q B;generalize (xs.getD k noL).c=k1 at c1 a d r q B;generalize (xs.getD k noL).e.n=n1 at c2 a d r q;generalize (xs.getD k noL).e.pl.length=m1 at c1 a d r q B;generalize (xs.getD j noL).A=A2 at Z B;generalize (xs.getD j noL).c=k2 at Z B;generalize (xs.getD j noL).e.n=n2 at d2 B;generalize (xs.getD j noL).e.pl.length=m2 at Z B;generalize cmpL (xs.getD j noL).e.pl (xs.getD k noL).e.pl=cc at B O;have J:=P.o.1;clear F Q S V;go_wp2_with fail;refine a.mono ?_;rintro e w2⟨rfl,f⟩;have G:Bl wr w2:=ad d.o f;have l:=aa G;have e1:w2.cell? ⟨b,o+j*2,none⟩=some (.slice A2 m2 k2):=aM G J Z;have e2:w2.cell? ⟨b,o+j*2+1,none⟩=some (.int .i64 n2):=aM G J d2;have e3:w2.cell? ⟨wr.heap.size,0,none⟩=some (.slice A1 m1 k1):=aM f q.o r.o;have ai:wr.heap.size<w2.heap.size:=zW q.o f.size;clear f G c1 c2 Z d2;have X:Hid (b<w2.heap.size/\wr.heap.size<w2.heap.size/\w2.cell? ⟨b,o+j*2,none⟩=some (.slice A2 m2 k2)/\w2.cell? ⟨b,o+j*2+1,none⟩=some (.int .i64 n2)/\w2.cell? ⟨wr.heap.size,0,none⟩=some (.slice A1 m1 k1)):=⟨zW J l.o.size,ai,e1,e2,e3⟩;go_wp2_with fail
     go_cut [45] (fun ax wx=>ax=.bool (decide (0<=cc))/\Bl w2 wx)
     case first =>
      go_region_held3 (fun w'=>Bl w2 w'/\w'.cell? ⟨b,o+j*2,none⟩=some (.slice A2 m2 k2)/\w'.cell? ⟨b,o+j*2+1,none⟩=some (.int .i64 n2)/\w'.cell? ⟨wr.heap.size,0,none⟩=some (.slice A1 m1 k1))
       ((refine OA X.o ?_;go_grown;done))
       (first|(go_at_call 25;refine(B.o _ (ad l.o γ)).mono ?_;rintro e w3⟨rfl,z⟩;have am:=ad (W0:=w2) γ z;have aG:=am.size;clear z))
      all_goals go_wp2_with fail
      all_goals go_meet
      all_goals exact⟨rfl,by go_grown⟩
     case rest =>
      obtain⟨rfl,z⟩:=hcut;have W:=aa z;clear z e1 e2 e3 X B ai au ao;obtain⟨tC,U⟩:∃t,decide (0<=cc)=t:=⟨_,rfl⟩;rw[U];have Y:=aa U;clear U ab an J av c0;cases tC
      case true =>
       have y:Hid (errV (entsErr D n (lE xs))=.iface 71 (.int .i64 7)):=by
        show _=_
        have h3:=O.o;rw[Y.o]at h3;rw[HV.o,←HF.o,EG (by rw[aR];exact u) x.o (by rw[HQ.o];simpa using h3)];rfl
       go_wp2_with fail;go_ret;rw[y.o];exact⟨rfl,ad HB.o (ad v.o (ad l.o W.o))⟩
      case false =>
       have y:Hid (bH D n (qOf (lE xs) k) ((lE xs).drop k)=bH D n (qOf (lE xs) (k+1)) ((lE xs).drop (k+1))):=by
        show _=_
        have h3:=O.o;rw[Y.o]at h3;exact Ia (by rw[aR];exact u) x.o (by rw[HQ.o];simpa using h3)
       go_wp2_with fail
       go_roundg (N-(k+1))
       case measure=>omega
       case rel =>
        refine⟨k+1,ω,rfl,by go_num,y.o.symm.trans HF.o,fun i hi=>?_,ad v.o (ad l.o W.o)⟩
        rcases Nat.lt_succ_iff_lt_or_eq.1 hi with h1|rfl
        ·exact HO.o i h1
        exact x.o
    have p:Hid (errV (entsErr D n (lE xs))=.iface 71 (.int .i64 (entOne D n (xs.getD k noL).e))):=by
     show _=_
     rw[HV.o,←HF.o,Lk (by rw[aR];exact u) (by rw[lE_at];exact L),lE_at,ac L]
    rw[ac L]at a;generalize entOne D n (xs.getD k noL).e=E at a p;generalize (xs.getD k noL).A=A1 at c1 a d r q;generalize (xs.getD k noL).c=k1 at c1 a d r q;generalize (xs.getD k noL).e.n=n1 at c2 a d r q;generalize (xs.getD k noL).e.pl.length=m1 at c1 a d r q;clear F L;go_wp2_with fail;refine a.mono ?_;rintro e w2⟨rfl,f⟩;have l:=aa (ad d.o f);clear f;go_wp2_with fail;go_ret;rw[p.o];exact⟨rfl,ad HB.o (ad v.o l.o)⟩
   have ap:k=N:=ω;subst ap;have p:Hid (errV (entsErr D n (lE xs))=.nilIface):=by show _=_;rw[HV.o,←HF.o,Lm (by rw[aR,HN.o];exact zT)];rfl
   clear m;go_wp2_with fail;go_ret;rw[p.o];exact⟨rfl,ad HB.o v.o⟩
 have HV:Hid (errV (entsErr D n (lE xs))=.iface 71 (.int .i64 (ag D n).2.2)):=by show _=_;rw[Id _ K,ac K]
 rw[ac K]at h;generalize (ag D n).2.2=E at h HV;generalize xs.length=N;clear K hE HM HE
 go_enter func6,ntmps6
 go_wp2_with fail;refine h.mono ?_;rintro e w1⟨rfl,s⟩;go_wp2_with fail;go_ret;rw[HV.o];exact⟨rfl,ad M.o s⟩
theorem yH{D:Nat->Dm}{n:Nat}{xs:List EnL}{p:List Int}(b:Ens D n (lE xs))(d:InO D n p):GK xs p:=by
 refine⟨fun k c=>?_,gr d⟩
 have a:(xs.getD k noL).e∈lE xs:=List.mem_map.2 ⟨_,cJ c,rfl⟩;exact gr (b.each _ a).1
theorem um{D:Nat->Dm}{n:Nat}{xs:List EnL}(a:Ens D n (lE xs)):xs.length<=3000:=by have:=a.few;rw[aR]at this;exact this
def dQ(N:Nat)(xs:List EnL):Prop := ∀x∈xs,eU N x.A
theorem dQ.le{N M:Nat}{xs:List EnL}(h:dQ N xs)(a:M<=N):dQ M xs:=fun x b=>(h x b).le a
theorem dQ.put{N i:Nat}{xs:List EnL}{x:EnL}(h:dQ N xs)(b:eU N x.A):dQ N (xs.take i++x :: xs.drop i):=fun y a=>by
 rcases List.mem_append.1 a with a|a
 ·exact h y (List.mem_of_mem_take a)
 rcases List.mem_cons.1 a with rfl|a
 ·exact b
 exact h y (List.mem_of_mem_drop a)
theorem dQ.cut{N i j:Nat}{xs:List EnL}(h:dQ N xs):dQ N (xs.take i++xs.drop j):=fun y a=>by
 rcases List.mem_append.1 a with a|a
 ·exact h y (List.mem_of_mem_take a)
 exact h y (List.mem_of_mem_drop a)
theorem dQ.set{N i:Nat}{xs:List EnL}(h:dQ N xs)(b:i<xs.length)(e:En)(c:Nat):dQ N (xs.set i ⟨e,(xs.getD i noL).A,c⟩):=fun y a=>by
 rcases List.mem_or_eq_of_mem_set a with a|rfl
 ·exact h y a
 exact h (xs.getD i noL) (cJ b)
theorem rh{w:World}{base:Nat}{v:Value}{L:List Int}(h:w.ownsRow base 3 1 v L.length (L.map (Value.int .i64))):∃A c,v=.slice A L.length c/\bX w A c L/\eU base A:=by
 obtain⟨A,c,rfl,f⟩:=Jx h;refine⟨A,c,rfl,f,fun b o e=>?_⟩
 subst e
 rcases h.2 with⟨a,-⟩|⟨g,cap,d,a,i,-⟩
 ·cases a
 cases a;exact i
theorem sU(A:Option Addr)(c:Nat)(L:List Int)(w:World)(z:L.length<=4)(q:de w A c L):Calls prog 50 #[.slice A L.length c] w fun e w'=>(∃v,e=.returned v/\w'.ownsRow w.heap.size 3 1 v L.length (L.map (Value.int .i64)))/\Bl w w':=by
 have J:∀(w:World) (a:Option Addr) (n c n' p:Nat),(binOp .eql 43 (.slice a n c) (.slice none n' p)).run prog w=.ok (.bool a.isNone) w:=fun w a n c n' p=>Lib.run_eql_slice_nil w _ _ a n c n' p underlying43
 cases A with
 |none =>
  obtain⟨-,g|⟨b,o,g,-⟩⟩:=q
  ·subst g
   simp only[List.length_nil]
   go_enter func50,ntmps50
   go_wp2_with fail;go_ret;exact⟨⟨_,rfl,World.ownsRow_nil _ _ _ _⟩,zS⟩
  cases g
 |some a =>
  obtain⟨i0,r,s,t,y⟩:=info_parts infoIntP;have D:Hid (∀j u,(L.map (Value.int .i64))[j]?=some u->w.cell? (a.add j)=some u):=by
   intro j u l;obtain⟨-,g|⟨b,o,g,-,h⟩⟩:=q
   ·subst g;simp at l
   cases g;have i:j<L.length:=by have:=(List.getElem?_eq_some_iff.1 l).1;simpa using this
   rw[aW,h j i];simp only[List.getElem?_map,zX i,Option.map_some,Option.some.injEq]at l;rw[←l,zZ,zX i]
   rfl
  have H:(L.map (Value.int .i64)).length=L.length*1:=by simp
  have F:∀u∈L.map (Value.int .i64),u.oneCell'=true:=by intro u B;simp at B;obtain⟨x,-,rfl⟩:=B;rfl
  have I:L.length<=4:=z;clear q z
  go_enter func50,ntmps50
  go_wp2_with (at_builtin;refine wpList_append_own _ rfl _ _ 43 rfl w.heap.size 3 i0 (.int .i64 0) 1 8 underlying43 r s t y rfl (by decide) _ _ _ rfl (World.ownsRow_made w #[] 0 zT zU σ) a L.length c (L.map (Value.int .i64)) rfl ?qc1 ?qc2 ?qc3 ?qc4 ?qc5 ?qc6 ?_)
  case qc1=>exact H
  case qc2=>exact fun j u l=>Lib.cell?_alloc_some _ (D.o j u l)
  case qc3=>exact F
  case qc4=>simp only[maxLen];omega
  case qc5=>omega
  case qc6=>simp
  intro v' w1 f d m;have E:=aa f;have C:Hid (Bl w w1):=((Below.refl _ w).alloc zT _).grown d σ (by intro k G;simp[Value.ownBlock]at G;omega)
  clear f d m;go_wp2_with fail;go_ret;exact⟨⟨_,rfl,E.o⟩,C.o⟩
theorem sS(A:Option Addr)(c:Nat)(L:List Int)(w:World)(i:L.length<=4)(j:de w A c L):Calls prog 50 #[.slice A L.length c] w fun e w'=>(∃A' a,e=.returned (.slice A' L.length a)/\bX w' A' a L/\eU w.heap.size A')/\Bl w w' :=
 (sU A c L w i j).mono fun _ _ ⟨⟨_,b,d⟩,f⟩=>by
  obtain⟨A',a,rfl,g,h⟩:=rh d;exact⟨⟨A',a,b,g,h⟩,f⟩
theorem infoEnt:(prog.info? 45).map (fun i=>(i.zero,i.size,i.bytes))=some (some (.agg #[.slice none 0 0,.int .i64 0]),2,32):=by kernel_rfl
def y7(w:World)(vb:Nat)(x:EnL):Prop:=w.heap[vb]?=some (.cells #[.slice x.A x.e.pl.length x.c,.int .i64 x.e.n] 45 (0,0))
theorem y7.cells{w:World}{vb:Nat}{x:EnL}(h:y7 w vb x):∀j u,(cellsE [x])[j]?=some u->w.cell? ⟨vb,j,none⟩=some u:=by
 intro j u a;rw[Lib.cell_of_heap h]
 simpa [cellsE]using a
def gx(w:World)(g i:Nat)(xs:List EnL)(x:EnL)(e:Ending)(w':World):Prop := ∃g' cap',e=.returned (.slice (some ⟨g',0,none⟩) (xs.length+1) cap')/\a7 w' g' cap' (xs.take i++x :: xs.drop i)/\g<=g'/\w.grownBy w' (some g)
theorem AS(g cap vb:Nat)(xs:List EnL)(x:EnL)(w:World)(S:xs.length<=3000)(t:a7 w g cap xs)(R:bX w x.A x.c x.e.pl)(Q:y7 w vb x):
  Calls prog 163 #[.slice (some ⟨g,0,none⟩) xs.length cap,.int .i64 xs.length,.slice (some ⟨vb,0,none⟩) 1 1] w fun e w'=>gx w g xs.length xs x e w':=by
 obtain⟨i0,C,D,E,F⟩:=info_parts infoEnt;have k:=t.own (Nat.le_refl g);have B:g<=w.heap.size:=Nat.le_of_lt t.lt;have z:=t.2.1;have N:=t.2.2.1;have H:=aa t;have P:=aa R;have HV:=aa Q.cells;have G:Hid (cellsE (xs++[x])=cellsE xs++cellsE [x]):=cellsE_append ..;have K:Hid ((cellsE [x]).length=1*2):=cellsE_len [x];have I:Hid (∀v∈cellsE [x],v.oneCell'=true):=fw [x];have r:Hid (xs.take xs.length++x :: xs.drop xs.length=xs++[x]/\(xs++[x]).length=xs.length+1):=⟨by simp,by simp⟩
 obtain⟨n,q⟩:=ar xs.length;have U:=aa q;rw[q]at k S z r;unfold gx;rw[q];generalize ac:cellsE xs=CX at k G;generalize ab:cellsE [x]=C1 at HV G K I;unfold maxLen at N;clear t R Q q ac ab;have T:(n:Int)<=3000:=ω;by_cases M:cap=n
 ·subst M
  go_enter func163,ntmps163
  go_wp2_with (at_builtin;refine wpList_append_own _ rfl _ _ 25 rfl g 45 i0 (.agg #[.slice none 0 0,.int .i64 0]) 2 32 underlying25 C D E F rfl (by decide) _ _ _ rfl k ⟨vb,0,none⟩ 1 1 C1 rfl ?qc1 ?qc2 ?qc3 ?qc4 ?qc5 ?qc6 ?_)
  case qc1=>exact K.o
  case qc2=>exact fun j u O=>by rw[aW,Nat.zero_add];exact HV.o j u O
  case qc3=>exact I.o
  case qc4=>simp only[maxLen];omega
  case qc5=>omega
  case qc6=>exact B
  intro v' w1 a d i;rw[←G.o,←r.o.2]at a;have f:w.grownBy w1 (some g):=d;obtain⟨⟨L,b,-,-⟩,-⟩:=H.o;have o:∀y∈xs++[x],bX w1 y.A y.c y.e.pl:=fun y p=>by
   rcases List.mem_append.1 p with p|p
   ·exact(H.o.2.2.2 y p).grown b f
   rw[List.mem_singleton.1 p];exact P.o.grown b f
  obtain⟨g',m,rfl,s,h⟩:=u6 a (by simpa using i) o
  have l:=aa h;have J:=aa f;rw[r.o.2];clear a d i b o h f;go_wp2_with fail;go_ret;refine⟨g',m,rfl,?_,s,J.o⟩;rw[r.o.1];exact l.o
 have hce' :¬((cap:Int)=(n:Int)):=ω;go_enter func163,ntmps163
 go_wp2_with (at_builtin;refine wpList_append_own _ rfl _ _ 25 rfl g 45 i0 (.agg #[.slice none 0 0,.int .i64 0]) 2 32 underlying25 C D E F rfl (by decide) _ _ _ rfl k ⟨vb,0,none⟩ 1 1 C1 rfl ?qc1 ?qc2 ?qc3 ?qc4 ?qc5 ?qc6 ?_)
 case qc1=>exact K.o
 case qc2=>exact fun j u O=>by rw[aW,Nat.zero_add];exact HV.o j u O
 case qc3=>exact I.o
 case qc4=>simp only[maxLen];omega
 case qc5=>omega
 case qc6=>exact B
 intro v' w1 a d i;rw[←G.o,←r.o.2]at a;have f:w.grownBy w1 (some g):=d;obtain⟨⟨L,b,-,-⟩,-⟩:=H.o;have o:∀y∈xs++[x],bX w1 y.A y.c y.e.pl:=fun y p=>by
  rcases List.mem_append.1 p with p|p
  ·exact(H.o.2.2.2 y p).grown b f
  rw[List.mem_singleton.1 p];exact P.o.grown b f
 obtain⟨g',m,rfl,s,h⟩:=u6 a (by simpa using i) o
 have l:=aa h;have J:=aa f;rw[r.o.2];clear a d i b o h f;go_wp2_with fail;go_ret;refine⟨g',m,rfl,?_,s,J.o⟩;rw[r.o.1];exact l.o
theorem Ib(w:World)(g vb o lb h f:Nat)(x:EnL)(a:Array Value)(d:vb≠g)(c:y7 w vb x)(i:w.heap[g]?=some (.cells a 45 (0,0)))(j:a.size=f)(b:f≠0):
  (callFunc 220 #[.slice (some ⟨vb,0,none⟩) 1 1,.slice (some ⟨g,o,none⟩) lb h]).run prog w=.ok (.value (.bool false)) w:=by
 rw[run_callFunc_extern func220 κ κ κ (e:=Extern.SlicesOverlaps.overlaps #[25,25] #[4]) κ,
  Lib.run_overlaps_apart w 25 4 45 underlying25 2 sizeOf45 ⟨vb,0,none⟩ ⟨g,o,none⟩ 1 1 lb h d 45 45 2 f (by simp[World.shape?,show w.heap[vb]?=_ from c]) (by simp[World.shape?,i,j]) b (Lib.frozen_of_heap c 0) (Lib.frozen_of_heap c 2)]
 rfl
theorem ut(g cap i vb:Nat)(xs:List EnL)(x:EnL)(w:World)(hn:xs.length<=3000)(hi:i<xs.length)(u:xs.length+1<=cap)(N:vb≠g)(C:a7 w g cap xs)(hx:bX w x.A x.c x.e.pl)(X:y7 w vb x):
  Calls prog 163 #[.slice (some ⟨g,0,none⟩) xs.length cap,.int .i64 i,.slice (some ⟨vb,0,none⟩) 1 1] w fun e w'=>gx w g i xs x e w':=by
 obtain⟨i0,T,ai,Y,Z⟩:=info_parts infoEnt;have L:(prog.info? 45).map (·.size)=some 2:=by rw[T];simp[Y]
 have E:=C.2.2.1;unfold maxLen at E;obtain⟨⟨d,b,f,H⟩,-,-,t⟩:=id C;have V:∀o lb R,(callFunc 220 #[.slice (some ⟨vb,0,none⟩) 1 1,.slice (some ⟨g,o,none⟩) lb R]).run prog w=.ok (.value (.bool false)) w:=fun o lb R=>Ib w g vb o lb R (cap*2) x d N X b f ω
 obtain⟨n,s⟩:=ar xs.length;have m:(cellsE (xs.drop i)).length=(n-i)*2:=by rw[cellsE_len,List.length_drop,s]
 obtain⟨C1,l⟩:∃C1,C1=d.toList.take ((i+1)*2)++cellsE (xs.drop i)++d.toList.drop ((i+1)*2+(cellsE (xs.drop i)).length):=⟨_,rfl⟩;obtain⟨C2,r⟩:∃C2,C2=C1.take (i*2)++cellsE [x]++C1.drop (i*2+(cellsE [x]).length):=⟨_,rfl⟩;have q:(xs.length+1)*2<=d.toList.length:=by
  have O:d.toList.length=cap*2:=by simpa using f
  omega
 obtain⟨K,M⟩:=E2 H q (Nat.le_of_lt hi) l r;have J:C1.length=d.size:=by
  rw[l];simp only[List.length_append,List.length_take,List.length_drop,m,Array.length_toList,f]
  omega
 have F:∀ty dc sc,(Builtin.copy_ #[25,25] ty #[.slice (some ⟨g,(i+1)*2,none⟩) (n-i) dc,.slice (some ⟨g,i*2,none⟩) (n+1-i) sc]).run prog w.drew=.ok (goInt (Nat.min (n+1-i) (n-i))) (w.drew.setRow g C1.toArray):=fun ty dc sc=>by
  rw[l];exact jq 2 w.drew _ _ ty 45 g ((i+1)*2) (n-i) dc ⟨g,i*2,none⟩ (n+1-i) sc d 45 (cellsE (xs.drop i)) underlying25 L b (by rw[m];simp only[Nat.min_def];split<;>omega)
   (fun j v Q=>by
    rw[aW];refine C.cells (i*2+j) v ?_;rw[←jJ,List.getElem?_drop]at Q;exact Q)
   (by rw[m];omega) (fw _)
 have D:(w.drew.setRow g C1.toArray).heap[g]?=some (.cells C1.toArray 45 (0,0)):=setRow_heap w.drew g d _ _ _ b;have G:∀(W:World),W.heap=(w.drew.setRow g C1.toArray).heap->∀ty dc,(Builtin.copy_ #[25,25] ty #[.slice (some ⟨g,i*2,none⟩) (n+1-i) dc,.slice (some ⟨vb,0,none⟩) 1 1]).run prog W=.ok (goInt (Nat.min 1 (n+1-i))) (W.setRow g C2.toArray):=fun W hW ty dc=>by
  have h:=jq (P:=prog) 2 W _ 25 ty 45 g (i*2) (n+1-i) dc ⟨vb,0,none⟩ 1 1 C1.toArray 45 (cellsE [x]) underlying25 L (by rw[hW];exact D) (by rw[cellsE_len];simp only[Nat.min_def];split<;>simp<;>omega)
   (fun j v Q=>by
    rw[aW,Nat.zero_add];have hb:W.heap[vb]?=w.heap[vb]?:=by rw[hW,setRow_other _ _ _ _ N];rfl
    exact(World.cell?_of_block (a:=⟨vb,j,none⟩) hb).trans (X.cells j v Q))
   (by rw[cellsE_len];simp[J,f];omega) (fw _)
  rw[h,r]
 have B:Hid (∀w',w'.heap=((w.drew.setRow g C1.toArray).setRow g C2.toArray).heap->w'.os=w.os->w'.tape=w.tape->w'.output=w.output->a7 w' g cap (xs.take i++x :: xs.drop i)/\w.grownBy w' (some g)):=by
  intro w' p O S h3;rw[setRow_setRow]at p;have I:w.grownBy w' (some g):=⟨O,S,h3,by rw[p,setRow_size];exact zT,fun k hk U=>by rw[p,setRow_other _ _ _ _ fun e=>U (by rw[e])];rfl⟩
  refine⟨⟨⟨C2.toArray,by rw[p];exact setRow_heap w.drew g d _ _ _ b,by rw[List.size_toArray,K,Array.length_toList,f],M⟩,by simp;omega,C.2.2.1,fun y z=>?_⟩,I⟩
  refine bX.grown ?_ b I
  rcases List.mem_append.1 z with z|z
  ·exact t y (List.mem_of_mem_take z)
  rcases List.mem_cons.1 z with rfl|z
  ·exact hx
  exact t y (List.mem_of_mem_drop z)
 unfold gx;rw[s]at hn hi u|-;have ae:(n:Int)<=3000:=ω;have ac:(i:Int)<(n:Int):=ω;have af:(n:Int)+1<=(cap:Int):=ω;have Z :¬((i:Int)=(n:Int)):=ω;have hb2 :¬(cap=i+1):=ω;have hb4 :¬(cap=i):=ω;have ah:IntKind.i64.wrap ((i:Int)+1)=(i:Int)+1:=by rw[IntKind.wrap_i64];omega
 have aa:(0:Int)<=(i:Int)+1:=ω;have ag:((i:Int)+1).toNat=i+1:=ω;have ad:i<=n:=ω;have ab:(i:Int)<=(n:Int)+1:=ω;clear E t s J K M l r q m D b f H C hx X
 go_enter func163,ntmps163
 go_wp2_with (simp only[V])
 go_region_law (refine step_copy_runI rfl _ _ 25 25 rfl _ _ (by simp[Act.eval,Act.put]) (by simp[Act.eval,Act.put]) (F _ _ _) ?_)
 go_wp2_with (at_builtin;refine wpList_copy_runI _ rfl _ _ 25 25 rfl _ _ rfl rfl (G _ rfl _ _) ?_)
 go_ret;obtain⟨O,S⟩:=B.o _ rfl rfl rfl rfl;exact⟨g,cap,rfl,O,zT,S⟩
theorem zero_size(k:Nat):(Builtin.zeroCells (Value.agg #[.slice none 0 0,.int .i64 0]).cells k).size=k*2:=by
 simp[Builtin.zeroCells,Value.cells]
theorem wX(g cap i vb:Nat)(xs:List EnL)(x:EnL)(w:World)(hn:xs.length<=3000)(hi:i<xs.length)(l:cap<xs.length+1)(z:a7 w g cap xs)(hx:bX w x.A x.c x.e.pl)(hv:y7 w vb x):
  Calls prog 163 #[.slice (some ⟨g,0,none⟩) xs.length cap,.int .i64 i,.slice (some ⟨vb,0,none⟩) 1 1] w fun e w'=>gx w g i xs x e w':=by
 obtain⟨i0,Q,ai,X,Y⟩:=info_parts infoEnt;have U:(prog.info? 45).map (·.size)=some 2:=by rw[Q];simp[X]
 have ad:=z.2.2.1;unfold maxLen at ad;have af:=z.2.1;have F:g<w.heap.size:=z.lt;have ah:vb<w.heap.size:=(zY hv).1;obtain⟨n,f⟩:=ar xs.length;rw[f]at hn hi l af;have E:(cellsE (xs.drop i)).length=(n-i)*2:=by rw[cellsE_len,List.length_drop,f]
 have r:(cellsE (xs.take i)).length=i*2:=by rw[cellsE_len,List.length_take,f,Nat.min_eq_left ω]
 have R:(n:Int)+1-(i:Int)=((n+1-i:Nat):Int):=ω;have H:i+(n+1-i)=n+1:=ω;have B:(Builtin.firstCells i0.size i (.slice (some ⟨g,0,none⟩) i cap)).run prog w.drew=.ok (cellsE (xs.take i)).toArray w.drew:=by
  rw[X];exact run_firstCells_some w.drew 2 i ⟨g,0,none⟩ i cap (cellsE (xs.take i)) r (fun j v q=>by
   rw[aW,Nat.zero_add];rw[←jK,List.getElem?_take]at q
   split at q
   ·exact z.cells j v q
   cases q)
 obtain⟨G,Z⟩:∃G,G=grownCap w (n+1) cap 45:=⟨_,rfl⟩;obtain⟨aa,d⟩:∃aa:Array Value,aa=(cellsE (xs.take i)).toArray++Builtin.zeroCells (Value.agg #[.slice none 0 0,.int .i64 0]).cells (n+1-i)++Builtin.zeroCells (Value.agg #[.slice none 0 0,.int .i64 0]).cells (G-(n+1)):=⟨_,rfl⟩;have ag:∀ty,(Builtin.append_ #[25,3] ty #[.slice (some ⟨g,0,none⟩) i cap,.int .i64 ((n:Int)+1-(i:Int))]).run prog w=.ok (.slice (some ⟨w.heap.size,0,none⟩) (n+1) G) (w.drew.alloc (.cells aa 45)):=fun ty=>by
  have h:=Lib.run_append_grow_zeros w 25 3 ty 45 i0 _ .i64 .i64 underlying25 underlying3 Q ai (some ⟨g,0,none⟩) i cap (cellsE (xs.take i)) B (n+1-i) ω ω ω ω (by rw[Y];omega) (by rw[Y,H];exact growslice_fits l ω)
  rw[H]at h;rw[R,d,Z];exact h
 have aj:n+1<=G:=by rw[Z];exact grownCap_ge w _ _ _
 have u:G<=maxLen:=by
  rw[Z];exact grownCap_le_maxLen w (n+1) cap 45 (by unfold maxLen;omega)
 have D:aa.size=G*2:=by
  rw[d,Array.size_append,Array.size_append,zero_size,zero_size,List.size_toArray,r]
  omega
 obtain⟨C1,m⟩:∃C1,C1=aa.toList.take (i*2)++cellsE [x]++aa.toList.drop (i*2+(cellsE [x]).length):=⟨_,rfl⟩;obtain⟨C2,C⟩:∃C2,C2=C1.take ((i+1)*2)++cellsE (xs.drop i)++C1.drop ((i+1)*2+(cellsE (xs.drop i)).length):=⟨_,rfl⟩;have o:aa.toList.length=G*2:=by simpa using D
 have K:aa.toList.take (i*2)=cellsE (xs.take i):=by
  rw[d,Array.toList_append,Array.toList_append,List.append_assoc];exact eb r
 obtain⟨T,V⟩:=Aj (xs:=xs) (x:=x) (i:=i) K (by rw[o,f];omega) ω m C
 have t:(cellsE [x]).length=2:=by rw[cellsE_len];rfl
 have S:C1.length=G*2:=by
  rw[m];simp only[List.length_append,List.length_take,List.length_drop,t,o]
  omega
 have p:(w.drew.alloc (.cells aa 45)).heap[w.heap.size]?=some (.cells aa 45 (0,0)):=heap_alloc_new w.drew _;have b:∀k,k<w.heap.size->(w.drew.alloc (.cells aa 45)).heap[k]?=w.heap[k]?:=fun k hk=>Below.heap_alloc w.drew _ k hk
 have N:∀(W:World),W.heap=(w.drew.alloc (.cells aa 45)).heap->∀ty dc,(Builtin.copy_ #[25,25] ty #[.slice (some ⟨w.heap.size,i*2,none⟩) (n+1-i) dc,.slice (some ⟨vb,0,none⟩) 1 1]).run prog W=.ok (goInt (Nat.min 1 (n+1-i))) (W.setRow w.heap.size C1.toArray):=fun W L ty dc=>by
  have h:=jq (P:=prog) 2 W _ 25 ty 45 w.heap.size (i*2) (n+1-i) dc ⟨vb,0,none⟩ 1 1 aa 45 (cellsE [x]) underlying25 U (by rw[L];exact p) (by rw[t];simp only[Nat.min_def];split<;>omega)
   (fun j v q=>by
    rw[aW,Nat.zero_add];have hb:W.heap[vb]?=w.heap[vb]?:=by rw[L];exact b vb ah
    exact(World.cell?_of_block (a:=⟨vb,j,none⟩) hb).trans (hv.cells j v q))
   (by rw[t,D];omega) (fw _)
  rw[h,m]
 have M:((w.drew.alloc (.cells aa 45)).setRow w.heap.size C1.toArray).heap[w.heap.size]?=some (.cells C1.toArray 45 (0,0)):=setRow_heap _ _ aa _ _ _ p;have O:∀(W:World),W.heap=((w.drew.alloc (.cells aa 45)).setRow w.heap.size C1.toArray).heap->∀ty dc sc,(Builtin.copy_ #[25,25] ty #[.slice (some ⟨w.heap.size,(i+1)*2,none⟩) (n-i) dc,.slice (some ⟨g,i*2,none⟩) (n-i) sc]).run prog W=.ok (goInt (Nat.min (n-i) (n-i))) (W.setRow w.heap.size C2.toArray):=fun W L ty dc sc=>by
  have h:=jq (P:=prog) 2 W _ 25 ty 45 w.heap.size ((i+1)*2) (n-i) dc ⟨g,i*2,none⟩ (n-i) sc C1.toArray 45 (cellsE (xs.drop i)) underlying25 U (by rw[L];exact M) (by rw[E];simp only[Nat.min_def];split<;>omega)
   (fun j v q=>by
    rw[aW];have hb:W.heap[g]?=w.heap[g]?:=by rw[L,setRow_other _ _ _ _ (Nat.ne_of_lt F)];exact b g F
    refine(World.cell?_of_block (a:=⟨g,i*2+j,none⟩) hb).trans (z.cells (i*2+j) v ?_);rw[←jJ,List.getElem?_drop]at q;exact q)
   (by rw[E,List.size_toArray,S];omega) (fw _)
  rw[h,C]
 have J:Hid (∀w',w'.heap=(((w.drew.alloc (.cells aa 45)).setRow w.heap.size C1.toArray).setRow w.heap.size C2.toArray).heap->w'.os=w.os->w'.tape=w.tape->w'.output=w.output->a7 w' w.heap.size G (xs.take i++x :: xs.drop i)/\w.grownBy w' (some g)):=by
  intro w' s h1 h2 h3;rw[setRow_setRow]at s;have hB:Bl w w':=⟨h1,h2,h3,by rw[s,setRow_size];show w.heap.size<=(w.alloc _).heap.size;simp,fun k hk=>by rw[s,setRow_other _ _ _ _ (Nat.ne_of_lt hk)];exact b k hk⟩
  refine⟨⟨⟨C2.toArray,by rw[s];exact setRow_heap _ _ aa _ _ _ p,by rw[List.size_toArray,T,o],V⟩,by simp;omega,u,fun y I=>?_⟩,aC hB⟩
  refine bX.later ?_ hB
  rcases List.mem_append.1 I with I|I
  ·exact z.2.2.2 y (List.mem_of_mem_take I)
  rcases List.mem_cons.1 I with rfl|I
  ·exact hx
  exact z.2.2.2 y (List.mem_of_mem_drop I)
 have ab:((w.alloc (.cells aa 45)).drew).heap=(w.drew.alloc (.cells aa 45)).heap:=rfl;have ac:(((w.alloc (.cells aa 45)).drew.setRow w.heap.size C1.toArray).drew).heap=((w.drew.alloc (.cells aa 45)).setRow w.heap.size C1.toArray).heap:=rfl;unfold gx;rw[f];unfold maxLen at u;have ao:(n:Int)<=3000:=ω;have am:(i:Int)<(n:Int):=ω;have ap:(cap:Int)<(n:Int)+1:=ω;have hne :¬((i:Int)=(n:Int)):=ω;have hGi :¬(G=i):=ω;have hGim :¬(G=i+1):=ω;have hci :¬(cap=i):=ω;have au:IntKind.i64.wrap ((i:Int)+1)=(i:Int)+1:=by rw[IntKind.wrap_i64];omega
 have ak:(0:Int)<=(i:Int)+1:=ω;have aq:((i:Int)+1).toNat=i+1:=ω;have an:i<=n:=ω;have al:(i:Int)<=(n:Int)+1:=ω;have ae:g<=w.heap.size:=Nat.le_of_lt F;clear f S T V m C E r p M z hx hv R H B d Z D o K t b
 go_enter func163,ntmps163
 go_wp2_with (first
  |(at_builtin;refine Lib.wpList_append_run _ rfl _ _ _ _ rfl _ _ rfl rfl _ _ (ag _) ?_)
  |(at_builtin;refine wpList_copy_runI _ rfl _ _ 25 25 rfl _ _ rfl rfl (N _ ab _ _) ?_))
 go_region_law (refine step_copy_runI rfl _ _ 25 25 rfl (.slice (some ⟨w.heap.size,(i+1)*2,none⟩) (n-i) (G-(i+1))) (.slice (some ⟨g,i*2,none⟩) (n-i) (cap-i)) (by simp[Act.eval,Act.put]) (by simp[Act.eval,Act.put]) (O _ ac 3 (G-(i+1)) (cap-i)) ?_)
 go_wp2_with fail;go_ret;obtain⟨h1,h2⟩:=J.o (((w.alloc (.cells aa 45)).drew.setRow w.heap.size C1.toArray).drew.setRow w.heap.size C2.toArray) rfl rfl rfl rfl;exact⟨w.heap.size,G,rfl,h1,ae,h2⟩
theorem AQ(g cap i vb:Nat)(xs:List EnL)(x:EnL)(w:World)(b:xs.length<=3000)(j:i<=xs.length)(f:vb≠g)(a:a7 w g cap xs)(h:bX w x.A x.c x.e.pl)(d:y7 w vb x):
  Calls prog 163 #[.slice (some ⟨g,0,none⟩) xs.length cap,.int .i64 i,.slice (some ⟨vb,0,none⟩) 1 1] w fun e w'=>gx w g i xs x e w':=by
 rcases Nat.eq_or_lt_of_le j with rfl|aa
 ·exact AS g cap vb xs x w b a h d
 rcases Nat.lt_or_ge cap (xs.length+1)with hc|hc
 ·exact wX g cap i vb xs x w b aa hc a h d
 exact ut g cap i vb xs x w b aa hc f a h d
theorem zr(g cap i:Nat)(xs:List EnL)(w:World)(Y:xs.length<=3000)(M:i<xs.length)(o:a7 w g cap xs):
  Calls prog 162 #[.slice (some ⟨g,0,none⟩) xs.length cap,.int .i64 i,.int .i64 ((i:Int)+1)] w fun e w'=>e=.returned (.slice (some ⟨g,0,none⟩) (xs.length-1) cap)/\a7 w' g cap (xs.take i++xs.drop (i+1))/\w.grownBy w' (some g):=by
 obtain⟨i0,J,ad,L,ae⟩:=info_parts infoEnt;have I:=o.2.2.1;unfold maxLen at I;have K:=o.2.1;obtain⟨⟨j,b,v,x⟩,-,-,r⟩:=id o;obtain⟨n,d⟩:=ar xs.length;obtain⟨ab,a⟩:∃ab,ab=cellsE (xs.drop (i+1)):=⟨_,rfl⟩;have k:ab.length=(n-(i+1))*2:=by rw[a,cellsE_len,List.length_drop,d]
 have f:j.toList.length=cap*2:=by simpa using v
 rw[d]at Y M K;obtain⟨C1,l⟩:∃C1,C1=j.toList.take (i*2)++cellsE (xs.drop (i+1))++j.toList.drop (i*2+(cellsE (xs.drop (i+1))).length):=⟨_,rfl⟩;obtain⟨C2,q⟩:∃C2,C2=C1.take ((xs.length-1)*2)++[.slice none 0 0,.int .i64 0]++C1.drop ((xs.length-1)*2+2):=⟨_,rfl⟩;obtain⟨C,E⟩:=Et x (by rw[f,d];omega) (by rw[d];exact M) l q
 have B:C1.length=cap*2:=by
  rw[l,←a];simp only[List.length_append,List.length_take,List.length_drop,k,f]
  omega
 obtain⟨A,hA,D⟩:∃A:Addr,(if cap=i+1 then some (⟨g,0,none⟩:Addr)else some ⟨g,(i+1)*2,none⟩)=some A/\Hid (∀t u,ab[t]?=some u->w.drew.cell? (A.add t)=some u):=by
  by_cases h:cap=i+1
  ·refine⟨⟨g,0,none⟩,by simp[h],fun t u F=>?_⟩
   have O:ab.length=0:=by rw[k];omega
   rw[List.length_eq_zero_iff.1 O]at F
   simp at F
  refine⟨⟨g,(i+1)*2,none⟩,by simp[h],fun t u F=>?_⟩
  rw[a,←jJ,List.getElem?_drop]at F;rw[aW];exact o.cells _ u F
 have s1:=aa k;have s2:Hid (∀u∈ab,u.oneCell'=true):=by rw[a];exact fw _
 have s3:Hid (∀t,t<ab.length->(w.drew.cell? ⟨g,0+i*2+t,none⟩).isSome=true/\w.drew.frozen? ⟨g,0+i*2+t,none⟩=false):=by
  intro t ht;rw[k]at ht;exact⟨o.full ω,o.frozen _⟩
 obtain⟨W1,m⟩:∃W1,W1=w.drew.setRow g C1.toArray:=⟨_,rfl⟩;have N:Hid (W1=w.drew.setCells g (0+i*2) ab):=by
  show _=_
  rw[gi g 45 ab (0+i*2) j w.drew b (by rw[k];omega),m,l,Nat.zero_add,a]
 have p:W1.heap[g]?=some (.cells C1.toArray 45 (0,0)):=by rw[m];exact setRow_heap w.drew g j _ _ _ b
 have U:∀ty c,(Builtin.clear_ #[25] ty #[.slice (some ⟨g,(i+(n-(i+1)))*2,none⟩) (n-(i+(n-(i+1)))) c]).run prog W1=.ok (.tuple #[]) (W1.setRow g C2.toArray):=fun ty c=>by
  rw[show n-(i+(n-(i+1)))=1 by omega,show i+(n-(i+1))=n-1 by omega]
  rw[su W1 25 45 ty (.agg #[.slice none 0 0,.int .i64 0]) (.slice none 0 0) (.int .i64 0) underlying25 zeroValue45 rfl rfl rfl g ((n-1)*2) c C1.toArray 45 p (by rw[List.size_toArray,B];omega),q,d]
 have s:Hid (a7 (W1.setRow g C2.toArray) g cap (xs.take i++xs.drop (i+1))/\w.grownBy (W1.setRow g C2.toArray) (some g)):=by
  rw[m,setRow_setRow];have z:w.grownBy (w.drew.setRow g C2.toArray) (some g):=aS (cX (bP w _)) (dK ..);refine⟨⟨⟨C2.toArray,setRow_heap w.drew g j _ _ _ b,by rw[List.size_toArray,C,f],E⟩,by simp;omega,o.2.2.1,fun y G=>?_⟩,z⟩
  refine bX.grown ?_ b z
  rcases List.mem_append.1 G with G|G
  ·exact r y (List.mem_of_mem_take G)
  exact r y (List.mem_of_mem_drop G)
 rw[d];have Z:(n:Int)<=3000:=ω;have V:(i:Int)<(n:Int):=ω;have T:(n:Int)<=(cap:Int):=ω;have ac:((i:Int)+1).toNat=i+1:=ω;have P:(0:Int)<=(i:Int)+1:=ω;have Q:(i:Int)+1<=(n:Int):=ω;have R:(i:Int)+1<=(cap:Int):=ω;have S:(i:Int)<=(cap:Int):=ω;have W:i<=cap:=ω;have X:i+1<=cap:=ω;have H:Hid (n-1=i+(n-(i+1))):=by show _=_;omega
 clear d B C E l q k m p o b v x f r a
 go_enter func162,ntmps162
 go_wp2_with fail
 go_region_law (refine step_append_room rfl (.tmp 22) (.tmp 25) 25 rfl 45 i0 2 underlying25 J L g 0 i cap (by simp[Act.eval,Act.put]) A (n-(i+1)) (cap-(i+1)) ab (by simp[Act.eval,Act.put]) s1.o D.o s2.o ω s3.o ?_;rw[←N.o])
 go_wp2_with fail;go_ret;rw[H.o];exact⟨rfl,s.o⟩
theorem a7.put{w:World}{g cap:Nat}{zs:List EnL}(h:a7 w g cap zs)(q:zs.length<cap){x:EnL}(m:bX w x.A x.c x.e.pl):a7 ((w.setCell ⟨g,zs.length*2,none⟩ (.slice x.A x.e.pl.length x.c)).setCell ⟨g,zs.length*2+1,none⟩ (.int .i64 x.e.n)) g cap (zs++[x])/\w.grownBy ((w.setCell ⟨g,zs.length*2,none⟩ (.slice x.A x.e.pl.length x.c)).setCell ⟨g,zs.length*2+1,none⟩ (.int .i64 x.e.n)) (some g):=by
 obtain⟨⟨a,f,i,j⟩,o,p,k⟩:=id h;have e:(w.setCell ⟨g,zs.length*2,none⟩ (.slice x.A x.e.pl.length x.c)).setCell ⟨g,zs.length*2+1,none⟩ (.int .i64 x.e.n)=w.setCells g (zs.length*2) (cellsE [x]):=rfl;have b:(cellsE [x]).length=2:=by rw[cellsE_len];rfl
 have l:a.toList.length=cap*2:=by simpa using i
 rw[e,gi g 45 (cellsE [x]) (zs.length*2) a w f (by rw[b];omega)]
 refine⟨h.lay ?_ ?_ (by simp;omega) fun y d=>?_,dK ..⟩
 ·simp only[List.length_append,List.length_take,List.length_drop,b,l]
  omega
 ·rw[cellsE_append,j]
  exact eb (by simp only[List.length_append,cellsE_len,List.length_cons,List.length_nil];omega)
 rcases List.mem_append.1 d with d|d
 ·exact k y d
 rw[List.mem_singleton.1 d];exact m
theorem eI{w w':World}{g:Nat}(h:w.grownBy w' (some g))(o:Nat)(v:Value):w.grownBy (w'.setCell ⟨g,o,none⟩ v) (some g):=
 ⟨h.os,h.tape,h.output,by simpa using h.size,fun i b a=>(Below.heap_setCell w' ⟨g,o,none⟩ v i fun e=>a (by rw[e])).trans (h.block i b a)⟩
theorem EX{w w':World}{r:Option Nat}(h:w.grownBy w' r)(o:Obj):w.grownBy (w'.alloc o) r :=
 ⟨h.os,h.tape,h.output,by have:=h.size;simp;omega,fun i a b=>(Below.heap_alloc w' o i (zW a h.size)).trans (h.block i a b)⟩
theorem IE{W w':World}{g q:Nat}{u v:Value}(h:q<W.heap.size/\q≠g/\W.cell? ⟨q,0,none⟩=some u/\W.cell? ⟨q,1,none⟩=some v)(b:W.grownBy w' (some g)):W.grownBy w' (some g)/\w'.cell? ⟨q,0,none⟩=some u/\w'.cell? ⟨q,1,none⟩=some v:=by
 have c:w'.heap[q]?=W.heap[q]?:=b.block q h.1 fun e=>h.2.1 (by simpa using e)
 exact⟨b,(World.cell?_of_block (a:=⟨q,0,none⟩) c).trans h.2.2.1,(World.cell?_of_block (a:=⟨q,1,none⟩) c).trans h.2.2.2⟩
theorem tg(AE:Option Addr)(ce:Nat)(xs:List EnL)(w:World)(hn:xs.length<=3000)(hS:∀k,k<xs.length->(xs.getD k noL).e.pl.length<=4)(hE:bU w AE ce xs):
  Calls prog 21 #[.slice AE xs.length ce] w fun e w'=>(∃ys,e=.returned (.slice (some ⟨w.heap.size,0,none⟩) xs.length xs.length)/\a7 w' w.heap.size xs.length ys/\lE ys=lE xs/\dQ w.heap.size ys)/\Bl w w':=by
 obtain⟨i0,ai,am,an,K⟩:=info_parts infoEnt;have HE:=aa hE;have HS:=aa hS;obtain⟨n,J⟩:=ar xs.length;have HN:=aa J;rw[J]at hn|-;have ak:∀w',(Instr.makeSlice 25 (.int .i64 n) (.int .i64 n)).run prog w'=.ok (.slice (some ⟨w'.heap.size,0,none⟩) n n) (w'.alloc (.cells (madeCells (Value.agg #[.slice none 0 0,.int .i64 0]).cells (n*2)) 45)):=fun w'=>by
  have h:=run_make (P:=prog) w' 25 45 i0 _ underlying25 ai am .i64 .i64 n n ω (Int.le_refl _) (by rw[K];omega) ω
  rw[an]at h
  simpa using h
 have ag:Hid (a7 (w.alloc (.cells (madeCells (Value.agg #[.slice none 0 0,.int .i64 0]).cells (n*2)) 45)) w.heap.size n []):=⟨⟨_,heap_alloc_new w _,size_madeCells _ _,by simp[cellsE]⟩,zU,by unfold maxLen;omega,fun x hx=>by cases hx⟩
 have W:(n:Int)<=3000:=ω;clear hE hS J
 go_enter func21,ntmps21
 go_wp2_with fail;clear ak
 go_loopg [11] n (fun g ao wr =>∃(k:Nat) (zs:List EnL),k<=n/\g=n-k/\ao=.int .i64 k/\zs.length=k/\Hid (lE zs=(lE xs).take k/\dQ w.heap.size zs)/\a7 wr w.heap.size n zs/\Bl w wr)
 case atStart=>exact⟨0,[],zU,rfl,rfl,rfl,(⟨by simp[lE],fun _ h=>by cases h⟩:lE []=(lE xs).take 0/\dQ w.heap.size []),ag.o,by go_grown⟩
 case round =>
  obtain⟨k,zs,hk,rfl,rfl,L,Z,i,B⟩:=hrel;have C:=aa i;have z:=aa B;have H:=aa L
  by_cases V:k<n
  ·have s:k<xs.length:=by rw[HN.o];exact V
   have ap:(k:Int)<(n:Int):=ω;obtain⟨-,-,h0|⟨b,o,rfl,I⟩⟩:=HE.o.later B
   ·have:=HN.o;rw[h0]at this;simp at this;omega
   obtain⟨c1,c2⟩:=I.at s;have F:Hid (∀w',Bl wr w'->Calls prog 50 #[.slice (xs.getD k noL).A (xs.getD k noL).e.pl.length (xs.getD k noL).c] w' fun e ab=>(∃A' d,e=.returned (.slice A' (xs.getD k noL).e.pl.length d)/\bX ab A' d (xs.getD k noL).e.pl/\eU w.heap.size A')/\Bl w' ab):=fun w' X=>(sS _ _ _ w' (HS.o k s) ((I.pl s).later X)).mono fun _ _ ⟨⟨A',d,Q,R,h3⟩,h4⟩=>⟨⟨A',d,Q,R,h3.le (zV z.o.size X.size)⟩,h4⟩
   have l:=eK wr (xs.getD k noL).A (xs.getD k noL).e.pl.length (xs.getD k noL).c (xs.getD k noL).e.n 45;have q:=aa l;have v:=jl wr (xs.getD k noL).A (xs.getD k noL).e.pl.length (xs.getD k noL).c (xs.getD k noL).e.n 45;have t:=pz wr (xs.getD k noL).A (xs.getD k noL).e.pl.length (xs.getD k noL).c (xs.getD k noL).e.n 45;have u:=uR wr (xs.getD k noL).A (xs.getD k noL).e.pl.length (xs.getD k noL).c (xs.getD k noL).e.n 45;have G:Hid ((lE xs).take (k+1)=(lE xs).take k++[(xs.getD k noL).e]):=by
    show _=_
    rw[List.take_succ_eq_append_getElem (by rw[aR];exact s),←lE_at,zZ,zX (by rw[aR];exact s)]
    rfl
   have aq:w.heap.size<wr.heap.size:=i.lt;generalize xs.getD k noL=x at c1 c2 F q v t u G;clear I l i B L;have r:Hid (∀(w3:World) (A':Option Addr) (d:Nat),a7 w3 w.heap.size n zs->bX w3 A' d x.e.pl->a7 ((w3.setCell ⟨w.heap.size,k*2,none⟩ (.slice A' x.e.pl.length d)).setCell ⟨w.heap.size,k*2+1,none⟩ (.int .i64 x.e.n)) w.heap.size n (zs++[⟨x.e,A',d⟩])/\w3.grownBy ((w3.setCell ⟨w.heap.size,k*2,none⟩ (.slice A' x.e.pl.length d)).setCell ⟨w.heap.size,k*2+1,none⟩ (.int .i64 x.e.n)) (some w.heap.size)):=fun w3 A' d Q R=>by
    have h3:=Q.put (by rw[H.o];exact V) (x:=⟨x.e,A',d⟩) R
    rw[H.o]at h3;exact h3
   have ac:Hid (∀A' d,eU w.heap.size A'->lE (zs++[⟨x.e,A',d⟩])=(lE xs).take (k+1)/\dQ w.heap.size (zs++[⟨x.e,A',d⟩])):=fun A' d W=>⟨by rw[m7,Z.o.1,G.o];rfl,fun y Y=>by
    rcases List.mem_append.1 Y with Y|Y
    ·exact Z.o.2 y Y
    rw[List.mem_singleton.1 Y];exact W⟩
   generalize al:x.e.pl.length=m at c1 F q v t u r;generalize x.e.n=N at c2 q v t u r;clear al G;go_wp2_with fail;obtain⟨W2,p⟩:=ar (wr.alloc (.cells #[.slice x.A m x.c,.int .i64 N] 45));have l:Bl wr W2:=by rw[←p];exact q.o
   have K:wr.heap.size<W2.heap.size:=by rw[←p];show _<(fP wr x.A m x.c N 45).heap.size;rw[v];omega
   have M:Hid (wr.heap.size<W2.heap.size/\wr.heap.size≠w.heap.size/\W2.cell? ⟨wr.heap.size,0,none⟩=some (.slice x.A m x.c)/\W2.cell? ⟨wr.heap.size,1,none⟩=some (.int .i64 N)):=by rw[←p];exact⟨by rw[p];exact K,ω,t,u⟩
   have D:=aa l;have a:=aa (C.o.later l);rw[p];clear p l v t u q c1 c2
   go_region_held3 (fun w'=>W2.grownBy w' (some w.heap.size)/\w'.cell? ⟨wr.heap.size,0,none⟩=some (.slice x.A m x.c)/\w'.cell? ⟨wr.heap.size,1,none⟩=some (.int .i64 N))
    ((refine IE M.o ?_;(repeat (first|exact bP _ _|assumption|refine cX ?_|refine eI ?_ _ _));done))
    (first|(go_at_call 50;refine(F.o _ (ad D.o γ)).mono ?_;rintro e w3⟨⟨A',d,rfl,T,S⟩,U⟩;have f:=ad (W0:=W2) γ U;have ae:=aa S;clear S;have ah:W2.grownBy w3 (some w.heap.size):=aC f;have E:=aa f;have af:=aa T;obtain⟨u0,d0⟩:=Option.isSome_iff_exists.1 ((a.o.later f).full (j:=k*2) ω);obtain⟨u1,d1⟩:=Option.isSome_iff_exists.1 ((a.o.later f).full (j:=k*2+1) ω);have f0:=(a.o.later f).frozen (k*2);have f1:=(a.o.later f).frozen (k*2+1);clear U f T))
   clear d0 d1 f0 f1 ah;go_wp2_with fail
   go_roundg (n-(k+1))
   case measure=>omega
   case rel =>
    obtain⟨Q,R⟩:=r.o w3 A' d (a.o.later E.o) af.o;refine⟨k+1,_,ω,rfl,by go_num,?_,ac.o A' d ae.o,Q,?_⟩
    ·rw[List.length_append,H.o];rfl
    exact gP (ad z.o (ad D.o E.o)) R (ad z.o (ad D.o E.o)).size zT
  have aj:k=n:=ω;subst aj;have O:Hid (lE zs=lE xs/\dQ w.heap.size zs):=⟨by rw[Z.o.1,List.take_of_length_le (by rw[aR,HN.o];exact zT)],Z.o.2⟩
  clear i B L;go_wp2_with fail;go_ret;exact⟨⟨zs,rfl,C.o,O.o⟩,z.o⟩
theorem ER(AE:Option Addr)(ce:Nat)(xs:List EnL)(w:World)(h:xs.length<=3000)(g:∀k,k<xs.length->(xs.getD k noL).e.pl.length<=4)(f:bU w AE ce xs):
  Calls prog 21 #[.slice AE xs.length ce] w fun e w'=>(∃ys,e=.returned (.slice (some ⟨w.heap.size,0,none⟩) xs.length xs.length)/\a7 w' w.heap.size xs.length ys/\lE ys=lE xs)/\Bl w w' :=
 (tg AE ce xs w h g f).mono fun _ _ ⟨⟨ys,a,b,c,_⟩,d⟩=>⟨⟨ys,a,b,c⟩,d⟩
theorem EY(A:Option Addr)(c:Nat)(L:List Int)(w:World)(H:L.length<=1048576)(q:de w A c L):Calls prog 191 #[.slice A L.length c] w fun e w'=>(∃v,e=.returned v/\w'.ownsRow w.heap.size 3 1 v L.length (aA L))/\Bl w w':=by
 have I:∀(w:World) (a:Option Addr) (n c n' p:Nat),(binOp .eql 42 (.slice a n c) (.slice none n' p)).run prog w=.ok (.bool a.isNone) w:=fun w a n c n' p=>Lib.run_eql_slice_nil w _ _ a n c n' p underlying42
 cases A with
 |none =>
  obtain⟨-,g|⟨b,o,g,-⟩⟩:=q
  ·subst g
   simp only[List.length_nil]
   go_enter func191,ntmps191
   go_wp2_with fail;go_ret;exact⟨⟨_,rfl,World.ownsRow_nil _ _ _ _⟩,zS⟩
  cases g
 |some a =>
  obtain⟨i0,r,s,t,y⟩:=info_parts infoInt;have C:Hid (∀j u,(aA L)[j]?=some u->w.cell? (a.add j)=some u):=by
   intro j u l;obtain⟨-,g|⟨b,o,g,-,h⟩⟩:=q
   ·subst g;simp[aA]at l
   cases g;have i:j<L.length:=by have:=(List.getElem?_eq_some_iff.1 l).1;simpa [aA]using this
   rw[aW,h j i];simp only[aA,List.getElem?_map,zX i,Option.map_some,Option.some.injEq]at l;rw[←l,zZ,zX i]
   rfl
  have G:(aA L).length=L.length*1:=by simp[aA]
  have E:∀u∈aA L,u.oneCell'=true:=by intro u z;simp[aA]at z;obtain⟨x,-,rfl⟩:=z;rfl
  clear q
  go_enter func191,ntmps191
  go_wp2_with (at_builtin;refine wpList_append_own _ rfl _ _ 42 rfl w.heap.size 3 i0 (.int .i64 0) 1 8 underlying42 r s t y rfl (by decide) _ _ _ rfl (World.ownsRow_made w #[] 0 zT zU σ) a L.length c (aA L) rfl ?qc1 ?qc2 ?qc3 ?qc4 ?qc5 ?qc6 ?_)
  case qc1=>exact G
  case qc2=>exact fun j u l=>Lib.cell?_alloc_some _ (C.o j u l)
  case qc3=>exact E
  case qc4=>simp only[maxLen];omega
  case qc5=>omega
  case qc6=>simp
  intro v' w1 f d m;have D:=aa f;have B:Hid (Bl w w1):=((Below.refl _ w).alloc zT _).grown d σ (by intro k F;simp[Value.ownBlock]at F;omega)
  clear f d m;go_wp2_with fail;go_ret;exact⟨⟨_,rfl,D.o⟩,B.o⟩
def aJ(w:World)(A:Option Addr)(c:Nat)(L:List Int):Prop:=L.length<=c/\c<=9223372036854775807/\(L=[]\/∃b cs fr,A=some ⟨b,0,none⟩/\w.heap[b]?=some (.cells cs 3 fr)/\∀j,j<L.length->w.cell? ⟨b,j,none⟩=some (.int .i64 (L.getD j 0)))
theorem aJ.at{w:World}{A:Option Addr}{c:Nat}{L:List Int}(h:aJ w A c L):dG w A c L:=by
 obtain⟨d,-,a|⟨b,cs,fr,a,e,f⟩⟩:=h
 ·exact⟨d,Or.inl a⟩
 exact⟨d,Or.inr ⟨b,a,(zY e).1,f⟩⟩
theorem aJ.nil(w:World)(A:Option Addr)(c:Nat)(h:c<=9223372036854775807):aJ w A c []:=⟨zU,h,Or.inl rfl⟩
theorem aJ.keep{w w':World}{A:Option Addr}{c:Nat}{L:List Int}(h:aJ w A c L)(l:∀(b:Nat) (cs:Array Value) (fr:Nat×Nat),w.heap[b]?=some (Obj.cells cs 3 fr)->w'.heap[b]?=w.heap[b]?):aJ w' A c L:=by
 obtain⟨f,e,d|⟨b,cs,fr,d,g,k⟩⟩:=h
 ·exact⟨f,e,Or.inl d⟩
 have i:=l b cs fr g;exact⟨f,e,Or.inr ⟨b,cs,fr,d,i.trans g,fun j m=>(World.cell?_of_block (a:=⟨b,j,none⟩) i).trans (k j m)⟩⟩
theorem aJ.later{w w':World}{A:Option Addr}{c:Nat}{L:List Int}(h:aJ w A c L)(a:Bl w w'):aJ w' A c L :=
 h.keep fun b _ _ d=>a.block b (zY d).1
theorem cY{w:World}{base:Nat}{v:Value}{L:List Int}(h:w.ownsRow base 3 1 v L.length (aA L)):∃A c,v=.slice A L.length c/\aJ w A c L:=by
 rcases h.2 with⟨rfl,e⟩|⟨g,cap,b,rfl,m,i,f,l,_,_⟩
 ·have:L=[]:=List.eq_nil_of_length_eq_zero e
  subst this;exact⟨none,0,rfl,aJ.nil _ _ _ ω⟩
 refine⟨_,cap,rfl,f,by unfold maxLen at l;omega,Or.inr ⟨g,b,_,rfl,i,fun j k=>?_⟩⟩
 have d:=h.cells (g:=g) rfl j (.int .i64 (L.getD j 0)) (by simp[aA,List.getD,zX k])
 have a:(⟨g,0,none⟩:Addr).add j=⟨g,j,none⟩:=by unfold Addr.add;split<;>simp_all
 rw[a]at d;exact d
theorem B7:(3:Nat)≠42:=by decide
theorem aJ.row{w w':World}{base:Nat}{v:Value}{n:Nat}{zs:List Value}{A:Option Addr}{c:Nat}{L:List Int}(h:aJ w A c L)(a:w.ownsRow base 42 1 v n zs)(i:w.grownBy w' v.ownBlock):aJ w' A c L:=by
 refine h.keep fun b cs fr d=>i.block b (zY d).1 fun e=>?_
 rcases a.2 with⟨rfl,-⟩|⟨g,cap,f,rfl,-,j,-⟩
 ·cases e
 simp only[Value.ownBlock,Option.some.injEq]at e;rw[e,j]at d;simp only[Option.some.injEq,Obj.cells.injEq]at d;exact B7 d.2.1.symm
structure RL where
 p:List Int
 A:Option Addr
 c:Nat
def oU:RL:=⟨[],none,0⟩
def lR(xs:List RL):List (List Int):=xs.map RL.p
theorem A4(xs:List RL):(lR xs).length=xs.length:=by simp[lR]
theorem E7(a b:List RL):lR (a++b)=lR a++lR b:=by simp[lR]
def fT(xs:List RL):List Value:=xs.map fun x=>.slice x.A x.p.length x.c
theorem sd(a b:List RL):fT (a++b)=fT a++fT b:=by simp[fT]
theorem rB{xs:List RL}{k:Nat}(h:k<xs.length):xs.getD k oU∈xs:=by
 rw[zZ,zX h];exact List.getElem_mem h
theorem Dj(xs:List RL)(k:Nat):(lR xs).getD k []=(xs.getD k oU).p:=by
 rw[zZ,zZ,lR,List.getElem?_map];cases xs[k]? <;>rfl
theorem Eg{xs:List RL}{k:Nat}(h:k<xs.length):(fT xs)[k]?=some (.slice (xs.getD k oU).A (xs.getD k oU).p.length (xs.getD k oU).c):=by
 simp[fT,List.getD,h]
def iw(w:World)(A:Option Addr)(cap:Nat)(xs:List RL):Prop:=xs.length<=cap/\(xs=[]\/∃b,A=some ⟨b,0,none⟩/\b<w.heap.size/\∀k,k<xs.length->w.cell? ⟨b,k,none⟩=some (.slice (xs.getD k oU).A (xs.getD k oU).p.length (xs.getD k oU).c))/\∀x∈xs,aJ w x.A x.c x.p
theorem iw.later{w w':World}{A:Option Addr}{cap:Nat}{xs:List RL}(h:iw w A cap xs)(c:Bl w w'):iw w' A cap xs:=by
 obtain⟨d,a,e⟩:=h;refine⟨d,?_,fun x g=>(e x g).later c⟩
 rcases a with a|⟨b,a,h4,h5⟩
 ·exact Or.inl a
 exact Or.inr ⟨b,a,zW h4 c.size,fun k f=>aM c h4 (h5 k f)⟩
theorem iw.nil(w:World)(A:Option Addr)(cap:Nat):iw w A cap []:=⟨zU,Or.inl rfl,fun x a=>by cases a⟩
theorem JU{w:World}{base:Nat}{v:Value}{xs:List RL}(h:w.ownsRow base 42 1 v xs.length (fT xs))(j:∀x∈xs,aJ w x.A x.c x.p):∃A c,v=.slice A xs.length c/\iw w A c xs:=by
 rcases h.2 with⟨rfl,d⟩|⟨g,cap,b,rfl,l,f,e,_,_,_⟩
 ·have:xs=[]:=List.eq_nil_of_length_eq_zero d
  subst this;exact⟨none,0,rfl,iw.nil _ _ _⟩
 refine⟨_,cap,rfl,e,Or.inr ⟨g,rfl,(zY f).1,fun k i=>?_⟩,j⟩
 have y:=h.cells (g:=g) rfl k _ (Eg i);have a:(⟨g,0,none⟩:Addr).add k=⟨g,k,none⟩:=by unfold Addr.add;split<;>simp_all
 rw[a]at y;exact y
theorem infoRow:(prog.info? 42).map (fun i=>(i.zero,i.size,i.bytes))=some (some (.slice none 0 0),1,24):=by kernel_rfl
theorem AF(A:Option Addr)(c:Nat)(L:List Int)(w:World)(b:L.length<=12)(a:aJ w A c L):Calls prog 191 #[.slice A L.length c] w fun e w'=>(∃v,e=.returned v/\w'.ownsRow w.heap.size 3 1 v L.length (aA L))/\Bl w w' :=
 EY A c L w ω (mn a.at)
def pw:ByteArray:=⟨#[]⟩
def uI(c:Int×Int):Prop:=good c.1 c.2=true
theorem Jb:uI noC:=rfl
theorem me(n:Int):uI (iI n):=by
 unfold uI iI good
 split
 ·rename_i h;simp[h.1,h.2]
 simp
theorem L4(x y:Int):uI (JE x y):=by
 unfold JE
 split
 ·rfl
 exact me _
theorem md(b:Bool)(a c:Int){r:Int×Int}(h:uI r):uI (jS b a c r):=by
 unfold jS
 split
 ·rfl
 split
 ·rfl
 exact h
def Br(o:Int)(a b:Int×Int):Int×Int:=if o=3 then yd a.1 a.2 b.1 b.2 else if o=4 then qD a.1 a.2 b.1 b.2 else if o=5 then CC a.1 a.2 b.1 b.2 else Jp a.1 a.2 b.1 b.2
theorem Jj(o:Int)(a b:Int×Int):uI (Br o a b):=by
 unfold Br
 split
 ·exact md _ _ _ (me _)
 split
 ·exact md _ _ _ (me _)
 split
 ·exact md _ _ _ (me _)
 exact md _ _ _ (L4 _ _)
def OV(N:List ByteArray)(s:ByteArray)(i:Nat):Bool:=decide (N.getD i pw=s)
def db(N:List ByteArray)(s:ByteArray):Int:=findFrom (OV N s) N.length 0
theorem where_cases(N:List ByteArray)(s:ByteArray):(db N s = -1/\∀j,j<N.length->N.getD j pw≠s)\/∃i:Nat,db N s=(i:Int)/\i<N.length/\N.getD i pw=s:=by
 unfold db
 rcases findFrom_cases (OV N s) N.length 0 with⟨a,b⟩|⟨m,a,b,d,c,e⟩
 ·left
  refine⟨a,fun j f=>?_⟩
  have:=b j zU ω
  simpa [OV]using this
 right
 exact⟨m,a,ω,of_decide_eq_true c⟩
def fM(N:List ByteArray)(i:Nat):Bool:=Op.bytesLess (N.getD i pw).toList (N.getD (i-1) pw).toList||(N.getD i pw).toList ==(N.getD (i-1) pw).toList
def dO(N:List ByteArray)(C:List (Int×Int)):Int:=if C.length≠N.length then 3 else if 0<=findFrom (gE C) C.length 0 then 1 else if 0<=findFrom (fM N) (N.length-1) 1 then 7 else 0
theorem wf{N:List ByteArray}{C:List (Int×Int)}(h:C.length≠N.length):dO N C=3:=by unfold dO;rw[if_pos h]
theorem C6{N:List ByteArray}{C:List (Int×Int)}(h:C.length=N.length){i:Nat}(c:i<C.length)(a:gE C i=true):dO N C=1:=by
 unfold dO;rw[if_neg (by simpa using h)]
 rcases findFrom_cases (gE C) C.length 0 with⟨_,b⟩|⟨m,e,_⟩
 ·rw[b i zU ω]at a;cases a
 rw[e,if_pos ω]
theorem C7{N:List ByteArray}{C:List (Int×Int)}(h:C.length=N.length)(d:∀j,j<C.length->gE C j=false){i:Nat}(b:1<=i)(f:i<N.length)(a:fM N i=true):dO N C=7:=by
 unfold dO;rw[if_neg (by simpa using h),aN (fun j _ g=>d j ω),if_neg ω]
 rcases findFrom_cases (fM N) (N.length-1) 1 with⟨_,c⟩|⟨m,e,_⟩
 ·rw[c i b ω]at a;cases a
 rw[e,if_pos ω]
theorem ug{N:List ByteArray}{C:List (Int×Int)}(h:C.length=N.length)(c:∀j,j<C.length->gE C j=false)(b:∀j,1<=j->j<N.length->fM N j=false):dO N C=0:=by
 unfold dO;rw[if_neg (by simpa using h),aN (fun j _ d=>c j ω),if_neg ω,aN (fun j a d=>b j a ω),if_neg ω]
theorem v8{N:List ByteArray}{C:List (Int×Int)}(h:dO N C=0):C.length=N.length/\(∀j,j<C.length->gE C j=false)/\∀j,1<=j->j<N.length->fM N j=false:=by
 by_cases a:C.length=N.length
 ·refine⟨a,?_⟩
  by_cases b:∀j,j<C.length->gE C j=false
  ·refine⟨b,fun j d c=>?_⟩
   cases hd:fM N j
   ·rfl
   rw[C7 a b d c hd]at h;cases h
  exfalso
  apply b;intro j c;cases hd:gE C j
  ·rfl
  rw[C6 a c hd]at h;cases h
 rw[wf a]at h;cases h
theorem On{N:List ByteArray}{C:List (Int×Int)}(h:dO N C=0):∀c∈C,uI c:=by
 intro c b;obtain⟨j,a,rfl⟩:=List.getElem_of_mem b;have:=(v8 h).2.1 j a;unfold gE at this;rw[zZ,zX a]at this
 simpa [uI]using this
/-! names that rise -/
theorem Hr{N:List ByteArray}{i:Nat}(h:fM N i=false):(N.getD (i-1) pw).toList<(N.getD i pw).toList:=by
 unfold fM at h;rw[Bool.or_eq_false_iff,bytesLess_eq]at h;have a:=of_decide_eq_false h.1;have b:(N.getD i pw).toList≠(N.getD (i-1) pw).toList:=by simpa using h.2
 rcases Std.lt_trichotomy (N.getD i pw).toList (N.getD (i-1) pw).toList with h3|h3|h3
 ·exact absurd h3 a
 ·exact absurd h3 b
 exact h3
theorem JR{N:List ByteArray}(h:∀j,1<=j->j<N.length->fM N j=false):∀i j,i<j->j<N.length->(N.getD i pw).toList<(N.getD j pw).toList:=by
 intro i j b
 induction j with
 |zero=>omega
 |succ j ih =>
  intro c;have a:=Hr (h (j+1) ω c)
  by_cases e:i=j
  ·subst e;exact a
  exact List.lt_trans (ih ω ω) a
theorem mi{w:World}{b b' e aa n:Nat}{v:Value}{xs:List Value}(h:w.ownsRow b e aa v n xs)(a:b'<=b):w.ownsRow b' e aa v n xs:=by
 refine⟨h.1,?_⟩
 rcases h.2 with h0|⟨g,cap,ab,h1,h2,h3⟩
 ·exact Or.inl h0
 exact Or.inr ⟨g,cap,ab,h1,zV a h2,h3⟩
theorem BF(u q r:Nat)(H:bo u)(A:Option Addr)(n cap:Nat)(p:Nat->Bool)(w:World)(M:n<=12)(F:Og u q r w n p):Calls prog 239 #[.slice A n cap,.func (.func u) #[] #[.pointer (some ⟨q,0,none⟩),.pointer (some ⟨r,0,none⟩)]] w fun e w'=>(∃v,e=.returned v/\w'.ownsRow w.heap.size 3 1 v (selTo p n).length (aA (selTo p n)))/\Bl w w':=by
 obtain⟨i0,x,B,C,D⟩:=info_parts infoInt;have G:=aa F;have J:(n:Int)<=12:=ω;clear F;unfold bo at H
 go_enter func239,ntmps239
 go_wp2_with fail
 go_loopg [5,9] n (fun g s5 s9 wr =>∃(k:Nat),k<=n/\g=n-k/\s9=.int .i64 k/\wr.ownsRow w.heap.size 3 1 s5 (selTo p k).length (aA (selTo p k))/\Bl w wr)
 case atStart=>exact⟨0,zU,rfl,rfl,World.ownsRow_nil _ _ _ _,zS⟩
 case round =>
  obtain⟨k,L,rfl,rfl,a,f⟩:=hrel;have t:=aa f;have o:=aa a
  by_cases z:k<n
  ·have I:(k:Int)<(n:Int):=ω;have h:=G.o k wr z f;clear f a;cases hb:p k
   ·rw[hb]at h
    have m:=aa hb;clear hb;go_wp2_with fail;refine h.mono ?_;rintro e w1⟨rfl,b⟩;go_wp2_with fail
    go_roundg (n-(k+1))
    case measure=>omega
    case rel=>exact⟨k+1,ω,rfl,by go_num,by rw[Cc m.o];exact ak o.o b,ad t.o b⟩
   rw[hb]at h;have m:=aa hb;have E:=ea p k;clear hb;go_wp2_with fail;refine h.mono ?_;rintro e w1⟨rfl,b⟩;have a:=ak o.o b;have i:=ad t.o b;have K:=i.size;have j:=aa i;clear b i
   go_wp2_with (at_builtin;refine wpList_append_own _ rfl _ _ 42 rfl w.heap.size 3 i0 (.int .i64 0) 1 8 underlying42 x B C D rfl (by decide) _ _ _ rfl (a.alloc _) ⟨w1.heap.size,0,none⟩ 1 1 [.int .i64 k] rfl rfl da ew (by unfold maxLen;omega) ω (by simp;omega) ?_)
   intro v' w2 d c _;have l:Hid (Bl w w2):=dk j.o a c;have s:Hid (w2.ownsRow w.heap.size 3 1 v' (selTo p (k+1)).length (aA (selTo p (k+1)))):=by
    show World.ownsRow ..
    rw[F5 m.o,mapI_snoc,List.length_append];exact d
   clear d c a;go_wp2_with fail
   go_roundg (n-(k+1))
   case measure=>omega
   case rel=>exact⟨k+1,ω,rfl,by go_num,s.o,l.o⟩
  have y:k=n:=ω;subst y;clear f a;go_wp2_with fail;go_ret;exact⟨⟨_,rfl,o.o⟩,t.o⟩
theorem FC(d:Dm)(A:Option Addr)(cap:Nat)(k:Nat)(w:World)(x:(am d).2=0)(I:k<d.n)(u:dC w A cap d.n d.mem):Calls prog 187 #[dw d A cap,.int .i64 k] w fun e w'=>(∃v,e=.returned (.tuple #[v,.nilIface])/\w'.ownsRow w.heap.size 3 1 v (gb d.mem d.n k).length (aA (gb d.mem d.n k)))/\Bl w w':=by
 have f:=Bz w d A cap k 67 3;have c:=rN d A cap _ 1 [(k:Int)] (xY w d A cap k 67 3) (u.later f) σ (Fy ..)
 have q:=aa f;have D:=aa u;unfold dw at c|-;simp only[List.length_singleton]at c;clear u f;have C:treeErr d [(k:Int)]=0:=by rw[ib x,if_neg ω]
 ·rw[C,errV_zero]at c
  obtain⟨-,-,m,-⟩:=aq x;clear C x
  go_enter func187,ntmps187
  go_wp2_with fail;refine c.mono ?_;rintro e w1⟨rfl,a⟩;have t:Bl w w1:=ad q.o a;have G:w.heap.size+1<w1.heap.size:=by have:=a.size;rw[ns]at this;omega
  have E:w1.cell? ⟨w.heap.size,2,none⟩=some (.slice A d.n cap):=aM a (by show w.heap.size<_;rw[ns];omega) (Js ..)
  have z:w1.cell? ⟨w.heap.size+1,0,none⟩=some (.int .i64 k):=aM a (by show w.heap.size+1<_;rw[ns];omega) (Jt ..)
  obtain⟨B,H|⟨b,o,rfl,h⟩⟩:=D.o.later t
  ·omega
  have p:=BF 240 w.heap.size (w.heap.size+1) FB (some ⟨b,o,none⟩) d.n cap (bD d.mem k) w1 m (fun j w' F g=>BC b o d.n cap j w.heap.size (w.heap.size+1) d.mem k w' F m (h.later g) (aM g (by show w.heap.size<_;omega) E) (aM g G z))
  have y:=aa t;clear a c h z t;go_wp2_with fail;refine p.mono ?_;rintro e w2⟨⟨v2,rfl,i⟩,l⟩;have s:=aa i;have r:=aa (ad y.o l);clear i l p;go_wp2_with fail
  go_ret2
  exact⟨⟨v2,rfl,mi s.o y.o.size⟩,r.o⟩
def lw(N:List (List Int))(i:Nat)(L:List Int)(k:Nat):Prop:=L.Nodup/\(∀x∈L,Rch N i x)/\(∀x∈N.getD i [],x∈L)/\∀j,j<k->∀y∈jD N (L.getD j 0),y∈L
theorem B5{N:List (List Int)}{i:Nat}(h:(N.getD i []).Nodup):lw N i (N.getD i []) 0 :=
 ⟨h,fun x b=>.one (by unfold jD;simpa using b),fun _ h=>h,fun j a=>absurd a (Nat.not_lt_zero _)⟩
theorem DG{N:List (List Int)}{i:Nat}{L:List Int}{k:Nat}(h:lw N i L k)(a:rZ N)(c:i<N.length):∀x∈L,0<=x/\x<(N.length:Int):=fun x b=>(h.2.1 x b).inn a ω ω
theorem yq{N:List (List Int)}{i:Nat}{L:List Int}{k:Nat}(h:lw N i L k)(a:rZ N)(b:i<N.length):L.length<=N.length:=few _ _ h.1 (DG h a b)
theorem JP{N:List (List Int)}{i:Nat}{L:List Int}(h:lw N i L L.length):∀x,x∈L↔Rch N i x:=fun x=>by
 refine⟨h.2.1 x,fun c=>c.closed (S:=fun y=>y∈L) (fun y a=>h.2.2.1 y (by unfold jD at a;simpa using a)) fun y a z d=>?_⟩
 obtain⟨j,b,rfl⟩:=List.getElem_of_mem a;refine h.2.2.2 j b z ?_;rw[zZ,zX b];exact d
theorem wT{L T:List Int}{j:Nat}(h:j<L.length):(L++T).getD j 0=L.getD j 0:=by
 rw[zZ,zZ,List.getElem?_append_left h]
theorem JQ{N:List (List Int)}{i:Nat}{L:List Int}{k:Nat}{x:Int}(h:lw N i L k)(n:k<=L.length)(m:x∉L)(l:Rch N i x):lw N i (L++[x]) k:=by
 refine⟨?_,fun y c=>?_,fun y c=>List.mem_append_left _ (h.2.2.1 y c),fun j g y c=>?_⟩
 ·rw[List.nodup_append]
  refine⟨h.1,by simp,fun a d b f e=>?_⟩
  rw[List.mem_singleton.1 f]at e;exact m (e ▸ d)
 ·rcases List.mem_append.1 c with c|c
  ·exact h.2.1 y c
  rw[List.mem_singleton.1 c];exact l
 rw[wT ω]at c
 exact List.mem_append_left _ (h.2.2.2 j g y c)
theorem FX{N:List (List Int)}{i:Nat}{L:List Int}{k:Nat}(h:lw N i L k)(b:∀y∈jD N (L.getD k 0),y∈L):lw N i L (k+1):=
 ⟨h.1,h.2.1,h.2.2.1,fun j c y a=>by
  by_cases e:j=k
  ·rw[e]at a;exact b y a
  exact h.2.2.2 j ω y a⟩
theorem Be{L:List Int}{j:Nat}(h:j<L.length):L.getD j 0∈L:=by
 rw[zZ,zX h];exact List.getElem_mem h
theorem yz(A:Option Addr)(cap:Nat)(xs:List RL)(i:Nat)(w:World)(hn:xs.length<=12)(M:i<xs.length)(hN:rZ (lR xs))(ae:∀x∈xs,x.p.Nodup/\x.p.length<=12)(hR:iw w A cap xs):
  Calls prog 136 #[.slice A xs.length cap,.int .i64 i] w fun e w'=>(∃A' c' L,e=.returned (.slice A' L.length c')/\dG w' A' c' L/\L.length<=12/\∀x,x∈L↔Rch (lR xs) i x)/\Bl w w':=by
 obtain⟨i0,aV,aZ,a0,a1⟩:=info_parts infoInt;have HR:=aa hR;have aG:=aa ae;have U:=aa hN;have d:Hid ((lR xs).length=xs.length):=A4 xs;obtain⟨ac,h0|⟨b,rfl,aS,o⟩,s⟩:=hR
 ·rw[h0]at M;simp at M
 have J:=o i M;have az:=s _ (rB M);have af:=ae _ (rB M);have HC:=aa o;have aL:=aa s;have am:Hid (lw (lR xs) i (xs.getD i oU).p 0):=by
  have h:=B5 (N:=lR xs) (i:=i) (by rw[Dj];exact af.1)
  rw[Dj]at h;exact h
 have f:=AF (xs.getD i oU).A (xs.getD i oU).c (xs.getD i oU).p w af.2 az;obtain⟨n,ag⟩:=ar xs.length;have G:=aa ag;rw[ag]at hn M ac|-;have a6:(i:Int)<(n:Int):=ω;have ba:(n:Int)<=12:=ω;obtain⟨pi,ay⟩:=ar ((xs.getD i oU).p);rw[ay]at J f am;generalize (xs.getD i oU).A=Ai at J f;generalize (xs.getD i oU).c=ci at J f;clear o s ae hN az af ay ag
 go_enter func136,ntmps136
 go_wp2_with fail;refine f.mono ?_;rintro e w1⟨⟨v1,rfl,ao⟩,aq⟩;have aH:=aa ao;have aD:=aa aq;clear ao aq f J;go_wp2_with fail
 go_loopg [5,6] n (fun g s5 s6 wr =>∃(k:Nat) (L:List Int),k<=L.length/\g=n-k/\s6=.int .i64 k/\Hid (lw (lR xs) i L k)/\wr.ownsRow w.heap.size 3 1 s5 L.length (aA L)/\Bl w wr)
 case atStart=>exact⟨0,pi,zU,rfl,rfl,am,aH.o,aD.o⟩
 case round =>
  obtain⟨k,L,hk,rfl,rfl,HI,a,I⟩:=hrel;have ai:=aa I;have HO:=aa a;have aO:L.length<=n:=by rw[←G.o,←d.o];exact yq HI.o U.o (by rw[d.o,G.o];exact M)
  obtain⟨AL,cL,rfl,PT⟩:=cY a;obtain⟨m,hm⟩:=ar L.length;have P:=aa hm;have a9:(m:Int)<=12:=ω;rw[hm]at hk aO;rw[hm]
  by_cases aY:k<m
  ·have a8:(k:Int)<(m:Int):=ω;obtain⟨a5,-,aN|⟨bl,cs,fr,rfl,au,f⟩⟩:=PT
   ·rw[aN]at hm;simp at hm;omega
   have cx:=f k ω
   have hx:=DG HI.o U.o (by rw[d.o,G.o];exact M) _ (Be (L:=L) (j:=k) ω)
   rw[d.o,G.o]at hx;obtain⟨y,hy⟩:∃y:Nat,L.getD k 0=(y:Int):=⟨(L.getD k 0).toNat,ω⟩
   have HY:=aa hy;rw[hy]at cx hx;have ah:y<n:=ω;have bd:(y:Int)<(n:Int):=ω;have cy:=aM I aS (HC.o y (by rw[G.o];exact ah))
   have F:Hid (aJ w (xs.getD y oU).A (xs.getD y oU).c (xs.getD y oU).p):=aL.o _ (rB (by rw[G.o];exact ah))
   have aB:=(aG.o _ (rB (k:=y) (by rw[G.o];exact ah))).2
   have z:Hid (jD (lR xs) (L.getD k 0)=(xs.getD y oU).p):=by
    show _=_
    rw[hy];unfold jD;rw[Int.toNat_natCast,Dj]
   have aK:Hid (Rch (lR xs) i (L.getD k 0)):=HI.o.2.1 _ (Be ω)
   obtain⟨R,ap⟩:=ar ((xs.getD y oU).p);rw[ap]at cy F aB z;generalize (xs.getD y oU).A=Ay at cy F;generalize (xs.getD y oU).c=cy' at cy F;obtain⟨r,hr⟩:=ar R.length;have v:=aa hr;rw[hr]at cy aB;have bb:(r:Int)<=12:=ω;have aQ:bl<wr.heap.size:=(zY au).1;clear f hx a I au hy ap hr hm;go_wp2_with fail
   go_loopg [5,28] r (fun gg s5 a2 wi =>∃(j:Nat) (K:List Int),j<=r/\gg=r-j/\a2=.int .i64 j/\Hid (lw (lR xs) i K k/\(∃T,K=L++T)/\∀t,t<j->R.getD t 0∈K)/\wi.ownsRow w.heap.size 3 1 s5 K.length (aA K)/\Bl w wi)
   case atStart=>exact⟨0,L,zU,rfl,rfl,(⟨HI.o,⟨[],by simp⟩,fun t ht=>absurd ht (Nat.not_lt_zero _)⟩:_/\_/\_),by have h:=HO.o;rw[P.o]at h;rw[P.o];exact h,ai.o⟩
   case round =>
    obtain⟨wj,rfl⟩:∃wj:World,wj=wr:=⟨_,rfl⟩;obtain⟨j,K,hj,rfl,rfl,HK,a,H⟩:=hrel;have S:=aa H;have W:=aa a;have an:K.length<=n:=by rw[←G.o,←d.o];exact yq HK.o.1 U.o (by rw[d.o,G.o];exact M)
    obtain⟨AK,cK,rfl,Z⟩:=cY a
    by_cases ax:j<r
    ·have a7:(j:Int)<(r:Int):=ω;obtain⟨aT,-,aP|⟨br,a3,a4,rfl,av,aw⟩⟩:=F.o.later H
     ·have:=v.o;rw[aP]at this;simp at this;omega
     have cz:=aw j (by rw[v.o];exact ax)
     have aR:br<wj.heap.size:=(zY av).1;rw[v.o]at aT;have aU:(r:Int)<=(cy':Int):=ω;obtain⟨x,hx⟩:=ar (R.getD j 0);have X:=aa hx;rw[hx]at cz;have q:=kJ AK cK K x wj ω Z.at
     obtain⟨mk,O⟩:=ar K.length;have D:=aa O;have al:Hid (mk<=n):=by show _<=_;omega
     rw[O]at q an;rw[O];clear aw av a H Z hx O
     by_cases u:x∈K
     ·have hb:o9 K x=true:=by unfold o9;exact decide_eq_true u
      rw[hb]at q;have V:Hid (lw (lR xs) i K k/\(∃T,K=L++T)/\∀t,t<j+1->R.getD t 0∈K):=⟨HK.o.1,HK.o.2.1,fun t ht=>by
       by_cases e:t=j
       ·rw[e,X.o];exact u
       exact HK.o.2.2 t ω⟩
      clear hb u;go_wp2_with fail;refine q.mono ?_;rintro e w2⟨rfl,l⟩;have Q:=aa (ad S.o l);have E:Hid (w2.ownsRow w.heap.size 3 1 (.slice AK mk cK) K.length (aA K)):=by have h:=ak W.o l;rw[D.o]at h;show World.ownsRow ..;rw[D.o];exact h
      clear l q;go_wp2_with fail
      go_roundg (r-(j+1))
      case measure=>omega
      case rel=>exact⟨j+1,K,ω,rfl,by go_num,V,E.o,Q.o⟩
     have hb:o9 K x=false:=by unfold o9;exact decide_eq_false u
     rw[hb]at q;have V:Hid (lw (lR xs) i (K++[x]) k/\(∃T,K++[x]=L++T)/\∀t,t<j+1->R.getD t 0∈K++[x]):=by
      obtain⟨hI,⟨T,hT⟩,hA⟩:=HK.o;refine⟨JQ hI ?_ u ?_,⟨T++[x],by rw[hT,List.append_assoc]⟩,fun t ht=>?_⟩
      ·rw[hT,List.length_append,P.o];omega
      ·refine aK.o.snoc ?_
       rw[z.o,←X.o];exact Be (by rw[v.o];exact ax)
      by_cases e:t=j
      ·rw[e,X.o];simp
      exact List.mem_append_left _ (hA t ω)
     clear hb u;go_wp2_with fail;refine q.mono ?_;rintro e w2⟨rfl,l⟩;have Y:Bl w w2:=ad S.o l;have Q:=aa Y;have E:Hid (w2.ownsRow w.heap.size 3 1 (.slice AK mk cK) mk (aA K)):=by have h:=ak W.o l;rw[D.o]at h;exact h
     have bc:=Y.size;clear l q Y
     go_wp2_with (at_builtin;refine wpList_append_own _ rfl _ _ 42 rfl w.heap.size 3 i0 (.int .i64 0) 1 8 underlying42 aV aZ a0 a1 rfl (by decide) _ _ _ rfl (E.o.alloc _) ⟨w2.heap.size,0,none⟩ 1 1 [.int .i64 x] rfl rfl da ew (by have:=al.o;unfold maxLen;omega) (by have:=al.o;omega) (by simp;omega) ?_)
     intro v' w3 C B _;have aE:Hid (Bl w w3):=dk Q.o E.o B;have aI:Hid (w3.ownsRow w.heap.size 3 1 v' (K++[x]).length (aA (K++[x]))):=by
      show World.ownsRow ..
      rw[mapI_snoc,List.length_append,D.o];exact C
     clear C B;go_wp2_with fail
     go_roundg (r-(j+1))
     case measure=>omega
     case rel=>exact⟨j+1,K++[x],ω,rfl,by go_num,V,aI.o,aE.o⟩
    have aW:j=r:=ω;subst aW;have aj:Hid (k+1<=K.length/\lw (lR xs) i K (k+1)):=by
     obtain⟨hI,⟨T,hT⟩,hA⟩:=HK.o;refine⟨by rw[hT,List.length_append,P.o];omega,FX hI fun y' aC=>?_⟩
     rw[hT,wT (by rw[P.o];exact aY),z.o]at aC
     obtain⟨t,ht,rfl⟩:=List.getElem_of_mem aC;have h:=hA t (by rw[←v.o];exact ht)
     rw[zZ,zX ht]at h;exact h
    clear a H Z an;go_wp2_with fail
    go_roundg (n-(k+1))
    case measure=>omega
    case rel=>exact⟨k+1,K,aj.o.1,rfl,by go_num,aj.o.2,W.o,S.o⟩
  have aX:k=m:=ω;subst aX;have ab:Hid (∀x,x∈L↔Rch (lR xs) i x):=JP (by rw[P.o];exact HI.o)
  have aF:=aa PT.at;clear a I PT hm;go_wp2_with fail;go_ret;exact⟨⟨AL,cL,L,by rw[P.o];rfl,aF.o,by rw[P.o];omega,ab.o⟩,ai.o⟩
def pF(M:Nat)(w:World)(g:Nat)(E:Int)(l:List En)(e:Ending)(w':World):Prop :=
 (∃B c ys,e=.returned (.tuple #[.slice B ys.length c,errV E])/\((E≠0/\B=none/\c=0/\ys=[])\/(E=0/\∃g',B=some ⟨g',0,none⟩/\g<=g'/\a7 w' g' c ys/\lE ys=l/\dQ M ys)))/\w.grownBy w' (some g)
theorem Hu(D:Nat->Dm)(n:Nat)(l:List En)(p:List Int)(N:Int):editErr D n l ⟨p,N,false⟩=entOne D n ⟨p,N⟩:=by
 unfold editErr entOne
 rfl
theorem E3{M:Nat}(A0:Option Addr)(cap n:Nat)(D:Nat->Dm)(A:Nat->Option Addr)(C:Nat->Nat)(g K:Nat)(xs:List EnL)(Ap:Option Addr)(l:Nat)(p:List Int)(N:Int)(w:World)(hM:aL w A0 cap n D A C)(hP:de w Ap l p)(hR:a7 w g K xs)(T:Ens D n (lE xs))(ag:dQ M xs)(aw:M<=w.heap.size):
  Calls prog 113 #[.agg #[.slice A0 n cap],.slice (some ⟨g,0,none⟩) xs.length K,.agg #[.slice Ap p.length l,.int .i64 N]] w fun e w'=>pF M w g (editErr D n (lE xs) ⟨p,N,false⟩) (setL (lE xs) p N) e w':=by
 rw[Hu];have R:=oE w A0 n cap Ap p.length l N;have h:=od A0 cap n D A C Ap l ⟨p,N⟩ (mh w A0 n cap Ap p.length l N) T.right (hM.later R) (hP.later R);have y:=aa R;have I:=qX w A0 n cap Ap p.length l N;have r:=Mc w A0 n cap Ap p.length l N;have s:=DA w A0 n cap Ap p.length l N;have HP:=aa hP;have HR:=aa hR;have af:=aa T;have az:g<w.heap.size:=hR.lt;have o:=um T;unfold pF;clear hM hP R hR
 by_cases Y:entOne D n ⟨p,N⟩=0
 ·obtain⟨hI,-,-⟩:=f6 T.right Y
  have HF:Hid (∀w',Bl w w'->Rt 161 #[.slice (some ⟨g,0,none⟩) xs.length K,.slice Ap p.length l] w' (.tuple #[.int .i64 (cntE (lE xs) p:Nat),.bool (hasE (lE xs) p)])):=fun w' b=>tj _ _ xs Ap l p w' o ((HR.o.later b).ensV) af.o.rise (yH af.o hI) (HP.o.later b)
  have L:Hid (∀w',Bl w w'->Calls prog 50 #[.slice Ap p.length l] w' fun e ao=>(∃A' q,e=.returned (.slice A' p.length q)/\bX ao A' q p/\eU M A')/\Bl w' ao):=fun w' b=>(sS _ _ _ w' (gr hI) (HP.o.later b)).mono fun _ _ ⟨⟨A',q,Q,W,h3⟩,h4⟩=>⟨⟨A',q,Q,W,h3.le (zV aw b.size)⟩,h4⟩
  have B:=Nf (lE xs) p;rw[aR]at B;rw[Y,errV_zero]at h|-;clear Y hI;cases hh:hasE (lE xs) p
  ·-- nothing stood there
   have O:Hid (∀(w3:World) (A':Option Addr) (q:Nat),Bl w w3->bX w3 A' q p/\eU M A'->Calls prog 163 #[.slice (some ⟨g,0,none⟩) xs.length K,.int .i64 (cntE (lE xs) p:Nat),.slice (some ⟨w3.heap.size,0,none⟩) 1 1] (fP w3 A' p.length q N 45) fun e w' =>∃g' d ys,e=.returned (.slice (some ⟨g',0,none⟩) (xs.length+1) d)/\ys.length=xs.length+1/\a7 w' g' d ys/\lE ys=setL (lE xs) p N/\dQ M ys/\g<=g'/\(fP w3 A' p.length q N 45).grownBy w' (some g)):=fun w3 A' q b hT=>by
    have hb:=eK w3 A' p.length q N 45;have Q:=AQ g K (cntE (lE xs) p) w3.heap.size xs ⟨⟨p,N⟩,A',q⟩ (fP w3 A' p.length q N 45) o B (by have:=b.size;omega) ((HR.o.later b).later hb) (hT.1.later hb) (heap_alloc_new w3 _)
    refine Q.mono ?_;rintro e w'⟨g',d,rfl,x,Z,U⟩;exact⟨g',d,_,rfl,by simp;omega,x,by rw[Ny,Mx hh],ag.put hT.2,Z,U⟩
   have f:Hid (∀w',Bl w w'->Rt 161 #[.slice (some ⟨g,0,none⟩) xs.length K,.slice Ap p.length l] w' (.tuple #[.int .i64 (cntE (lE xs) p:Nat),.bool false])):=fun w' b=>by have Q:=HF.o w' b;rw[hh]at Q;exact Q
   clear HF hh;generalize cntE (lE xs) p=i at f O B;obtain⟨m,hm⟩:=ar p.length;obtain⟨nx,F⟩:=ar xs.length;rw[hm]at h y I r s L f O|-;rw[F]at f O o B|-;clear hm F
   go_enter func113,ntmps113
   go_wp2_with fail;refine h.mono ?_;rintro e w1⟨rfl,a⟩;have t:Bl w w1:=ad y.o a;have G:=aa t;have c0:w1.cell? ⟨w.heap.size+1,0,none⟩=some (.slice Ap m l):=aM a (by show w.heap.size+1<_;omega) r
   have c1:w1.cell? ⟨w.heap.size+1,1,none⟩=some (.int .i64 N):=aM a (by show w.heap.size+1<_;omega) s
   have J:w.heap.size+1<w1.heap.size:=by have:=a.size;omega
   have W:=f.o w1 t;clear a h t r s I;go_wp2_with fail;refine W.mono ?_;rintro e w2⟨rfl,k⟩;have z:=aa (ad G.o k);have d0:w2.cell? ⟨w.heap.size+1,0,none⟩=some (.slice Ap m l):=aM k J c0;have d1:w2.cell? ⟨w.heap.size+1,1,none⟩=some (.int .i64 N):=aM k J c1;have ab:Hid (w.heap.size+1<w2.heap.size/\w.heap.size+1≠g/\w2.cell? ⟨w.heap.size+1,0,none⟩=some (.slice Ap m l)/\w2.cell? ⟨w.heap.size+1,1,none⟩=some (.int .i64 N)):=⟨zW J k.size,ω,d0,d1⟩
   clear k c0 c1 W d0 d1;go_wp2_with fail
   go_region_held3 (fun w'=>w2.grownBy w' (some g)/\w'.cell? ⟨w.heap.size+1,0,none⟩=some (.slice Ap m l)/\w'.cell? ⟨w.heap.size+1,1,none⟩=some (.int .i64 N))
    ((refine IE ab.o ?_;(repeat (first|exact bP _ _|assumption|refine cX ?_|refine eI ?_ _ _|refine EX ?_ _));done))
    (first|(go_at_call 50;refine(L.o _ (ad z.o γ)).mono ?_;rintro e w3⟨⟨A',q,rfl,ai,ah⟩,aj⟩;have X:=ad (W0:=w2) γ aj;have au:w2.grownBy w3 (some g):=aC X;have ap:=aa X;have aq:Hid (bX w3 A' q p/\eU M A'):=⟨ai,ah⟩;clear aj X ai ah)|(go_at_call 163;refine(O.o w3 A' q (ad z.o ap.o) aq.o).mono ?_;rintro e w4⟨g',d,ys,rfl,an,x,ak,al,Z,U⟩;have av:w2.grownBy w4 (some g):=aS (aS au (aC (eK ..))) U;have ae:=aa x;have P:Hid (lE ys=setL (lE xs) p N/\dQ M ys):=⟨ak,al⟩;have H:=aa an;clear x ak U an al))
   go_wp2_with fail
   go_ret2
   exact⟨⟨some ⟨g',0,none⟩,d,ys,by rw[H.o];rfl,Or.inr ⟨by trivial,g',rfl,Z,ae.o,P.o⟩⟩,aS (aC z.o) av⟩
  -- something stood there
  obtain⟨am,v,-⟩:=vg hh N;have V:Hid (∀w',Bl w w'->a7 (w'.setCell ⟨g,cntE (lE xs) p*2+1,none⟩ (.int .i64 N)) g K (xs.set (cntE (lE xs) p) ⟨⟨(xs.getD (cntE (lE xs) p) noL).e.pl,N⟩,(xs.getD (cntE (lE xs) p) noL).A,(xs.getD (cntE (lE xs) p) noL).c⟩)/\w'.grownBy (w'.setCell ⟨g,cntE (lE xs) p*2+1,none⟩ (.int .i64 N)) (some g)):=fun w' b=>(HR.o.later b).setN (by rw[aR]at v;exact v) N
  have P:Hid (lE (xs.set (cntE (lE xs) p) ⟨⟨(xs.getD (cntE (lE xs) p) noL).e.pl,N⟩,(xs.getD (cntE (lE xs) p) noL).A,(xs.getD (cntE (lE xs) p) noL).c⟩)=setL (lE xs) p N/\dQ M (xs.set (cntE (lE xs) p) ⟨⟨(xs.getD (cntE (lE xs) p) noL).e.pl,N⟩,(xs.getD (cntE (lE xs) p) noL).A,(xs.getD (cntE (lE xs) p) noL).c⟩)):=⟨by rw[IJ,am,lE_at],ag.set (by rw[aR]at v;exact v) _ _⟩
  have f:Hid (∀w',Bl w w'->Rt 161 #[.slice (some ⟨g,0,none⟩) xs.length K,.slice Ap p.length l] w' (.tuple #[.int .i64 (cntE (lE xs) p:Nat),.bool true])):=fun w' b=>by have Q:=HF.o w' b;rw[hh]at Q;exact Q
  have H:Hid ((xs.set (cntE (lE xs) p) ⟨⟨(xs.getD (cntE (lE xs) p) noL).e.pl,N⟩,(xs.getD (cntE (lE xs) p) noL).A,(xs.getD (cntE (lE xs) p) noL).c⟩).length=xs.length):=List.length_set;rw[aR]at v;clear HF hh am;generalize xs.set (cntE (lE xs) p) ⟨⟨(xs.getD (cntE (lE xs) p) noL).e.pl,N⟩,(xs.getD (cntE (lE xs) p) noL).A,(xs.getD (cntE (lE xs) p) noL).c⟩=ys at V P H;generalize cntE (lE xs) p=i at f V B v;obtain⟨m,hm⟩:=ar p.length;obtain⟨nx,F⟩:=ar xs.length;rw[hm]at h y I r s L f|-;rw[F]at f o B v H|-;have ax:(i:Int)<(nx:Int):=ω;have ay:nx<=K:=by rw[←F];exact HR.o.2.1
  clear hm F L
  go_enter func113,ntmps113
  go_wp2_with fail;refine h.mono ?_;rintro e w1⟨rfl,a⟩;have t:Bl w w1:=ad y.o a;have G:=aa t;have c0:w1.cell? ⟨w.heap.size+1,0,none⟩=some (.slice Ap m l):=aM a (by show w.heap.size+1<_;omega) r
  have c1:w1.cell? ⟨w.heap.size+1,1,none⟩=some (.int .i64 N):=aM a (by show w.heap.size+1<_;omega) s
  have J:w.heap.size+1<w1.heap.size:=by have:=a.size;omega
  have W:=f.o w1 t;clear a h t r s I;go_wp2_with fail;refine W.mono ?_;rintro e w2⟨rfl,k⟩;have S:Bl w w2:=ad G.o k;have z:=aa S;have d1:w2.cell? ⟨w.heap.size+1,1,none⟩=some (.int .i64 N):=aM k J c1;obtain⟨u,hu⟩:=Option.isSome_iff_exists.1 ((HR.o.later S).full (j:=i*2+1) ω)
  have hf:=(HR.o.later S).frozen (i*2+1);clear k c0 c1 W S;go_wp2_with fail
  go_ret2
  obtain⟨r1,r2⟩:=V.o w2 z.o;exact⟨⟨some ⟨g,0,none⟩,K,ys,by rw[H.o];rfl,Or.inr ⟨by trivial,g,rfl,zT,r1,P.o⟩⟩,aS (aC z.o) r2⟩
 have HV:Hid (errV (entOne D n ⟨p,N⟩)=.iface 71 (.int .i64 (entOne D n ⟨p,N⟩))):=ac Y;rw[ac Y]at h;have HE:=aa Y;generalize entOne D n ⟨p,N⟩=E at h HV HE;generalize p.length=m at h y;generalize xs.length=nx;clear Y I r s o
 go_enter func113,ntmps113
 go_wp2_with fail;refine h.mono ?_;rintro e w1⟨rfl,a⟩;have G:=aa (ad y.o a);clear a;go_wp2_with fail
 go_ret2
 rw[HV.o];exact⟨⟨none,0,[],rfl,Or.inl ⟨HE.o,rfl,rfl,rfl⟩⟩,aC G.o⟩
theorem Ht{D:Nat->Dm}{n:Nat}{l:List En}(a:(ag D n).2.2=0)(p:List Int)(N:Int):editErr D n l ⟨p,N,true⟩=if placeErr D n p≠0 then placeErr D n p else if hasE l p=true then 0 else 5:=by
 rw[Md a];unfold editErr
 rfl
theorem Nc{l:List En}{p:List Int}(h:hasE l p=true):cntE l p<l.length:=(vg h 0).2.1
theorem yW{M:Nat}(A0:Option Addr)(cap n:Nat)(D:Nat->Dm)(A:Nat->Option Addr)(C:Nat->Nat)(g r:Nat)(xs:List EnL)(Ap:Option Addr)(G:Nat)(p:List Int)(N:Int)(w:World)(Y:aL w A0 cap n D A C)(U:de w Ap G p)(Z:a7 w g r xs)(I:Ens D n (lE xs))(T:dQ M xs):
  Calls prog 112 #[.agg #[.slice A0 n cap],.slice (some ⟨g,0,none⟩) xs.length r,.slice Ap p.length G] w fun e w'=>pF M w g (editErr D n (lE xs) ⟨p,N,true⟩) (clrL (lE xs) p) e w':=by
 have s:=Ht (l:=lE xs) I.right p N;have t:=ay w A0 n cap 24;have h:=jo A0 cap n D A C Ap G p (aE w A0 n cap 24) (Y.later t) (U.later t);have y:=aa t;have HP:=aa U;have V:=aa Z;have J:=aa I;have c:=um I;unfold pF;clear Y U t Z
 by_cases v:placeErr D n p=0
 ·rw[if_neg (by simpa using v)]at s
  have X:=jR v;have S:Hid (∀w',Bl w w'->Rt 161 #[.slice (some ⟨g,0,none⟩) xs.length r,.slice Ap p.length G] w' (.tuple #[.int .i64 (cntE (lE xs) p:Nat),.bool (hasE (lE xs) p)])):=fun w' d=>tj _ _ xs Ap G p w' c ((V.o.later d).ensV) J.o.rise (yH J.o X) (HP.o.later d)
  rw[v,errV_zero]at h;clear v X;cases hh:hasE (lE xs) p
  ·rw[hh,if_neg σ]at s
   have HV:Hid (errV (editErr D n (lE xs) ⟨p,N,true⟩)=.iface 71 (.int .i64 5)/\editErr D n (lE xs) ⟨p,N,true⟩≠0):=by rw[s];exact⟨rfl,by decide⟩
   have a:Hid (∀w',Bl w w'->Rt 161 #[.slice (some ⟨g,0,none⟩) xs.length r,.slice Ap p.length G] w' (.tuple #[.int .i64 (cntE (lE xs) p:Nat),.bool false])):=fun w' d=>by have O:=S.o w' d;rw[hh]at O;exact O
   clear S hh s;generalize cntE (lE xs) p=i at a;generalize editErr D n (lE xs) ⟨p,N,true⟩=E at HV;obtain⟨m,R⟩:=ar p.length;obtain⟨nx,q⟩:=ar xs.length;rw[R]at h a|-;rw[q]at a c|-;clear R q
   go_enter func112,ntmps112
   go_wp2_with fail;refine h.mono ?_;rintro e w1⟨rfl,b⟩;have f:Bl w w1:=ad y.o b;have k:=aa f;have P:=a.o w1 f;clear b h f;go_wp2_with fail;refine P.mono ?_;rintro e w2⟨rfl,o⟩;have z:=aa (ad k.o o);clear o P;go_wp2_with fail
   go_ret2
   rw[HV.o.1];exact⟨⟨none,0,[],rfl,Or.inl ⟨HV.o.2,rfl,rfl,rfl⟩⟩,aC z.o⟩
  rw[hh,if_pos rfl]at s;have u:=Nc hh;rw[aR]at u;have j:Hid (∀w',Bl w w'->Calls prog 162 #[.slice (some ⟨g,0,none⟩) xs.length r,.int .i64 (cntE (lE xs) p:Nat),.int .i64 ((cntE (lE xs) p:Int)+1)] w' fun e ab=>e=.returned (.slice (some ⟨g,0,none⟩) (xs.length-1) r)/\a7 ab g r (xs.take (cntE (lE xs) p)++xs.drop (cntE (lE xs) p+1))/\w'.grownBy ab (some g)):=fun w' d=>zr g r (cntE (lE xs) p) xs w' c u (V.o.later d)
  have K:Hid (lE (xs.take (cntE (lE xs) p)++xs.drop (cntE (lE xs) p+1))=clrL (lE xs) p/\dQ M (xs.take (cntE (lE xs) p)++xs.drop (cntE (lE xs) p+1))):=⟨by unfold clrL;rw[m7,lE_take,LD],T.cut⟩
  have B:Hid ((xs.take (cntE (lE xs) p)++xs.drop (cntE (lE xs) p+1)).length=xs.length-1):=by show _=_;simp;omega
  have a:Hid (∀w',Bl w w'->Rt 161 #[.slice (some ⟨g,0,none⟩) xs.length r,.slice Ap p.length G] w' (.tuple #[.int .i64 (cntE (lE xs) p:Nat),.bool true])):=fun w' d=>by have O:=S.o w' d;rw[hh]at O;exact O
  rw[s,errV_zero];clear S hh s;generalize ae:xs.take (cntE (lE xs) p)++xs.drop (cntE (lE xs) p+1)=ys at j K B;clear ae;generalize cntE (lE xs) p=i at a j u;obtain⟨m,R⟩:=ar p.length;obtain⟨nx,q⟩:=ar xs.length;rw[R]at h a|-;rw[q]at a j c u B|-;have PT:(i:Int)<(nx:Int):=ω;clear R q
  go_enter func112,ntmps112
  go_wp2_with fail;refine h.mono ?_;rintro e w1⟨rfl,b⟩;have f:Bl w w1:=ad y.o b;have k:=aa f;have P:=a.o w1 f;clear b h f;go_wp2_with fail;refine P.mono ?_;rintro e w2⟨rfl,o⟩;have H:Bl w w2:=ad k.o o;have z:=aa H;have W:=j.o w2 H;clear o P H;go_wp2_with fail;refine W.mono ?_;rintro e w3⟨rfl,x,Q⟩;have L:=aa x;have HG:=aa Q;clear x Q W;go_wp2_with fail
  go_ret2
  exact⟨⟨some ⟨g,0,none⟩,r,ys,by rw[B.o];rfl,Or.inr ⟨by trivial,g,rfl,zT,L.o,K.o⟩⟩,aS (aC z.o) HG.o⟩
 rw[if_pos (by simpa using v)]at s
 have HV:Hid (errV (editErr D n (lE xs) ⟨p,N,true⟩)=.iface 71 (.int .i64 (placeErr D n p))/\editErr D n (lE xs) ⟨p,N,true⟩≠0):=by rw[s];exact⟨ac v,v⟩
 rw[ac v]at h;clear v s;generalize placeErr D n p=F at h HV;generalize editErr D n (lE xs) ⟨p,N,true⟩=E at HV;generalize p.length=m at h;generalize xs.length=nx;clear c
 go_enter func112,ntmps112
 go_wp2_with fail;refine h.mono ?_;rintro e w1⟨rfl,b⟩;have k:=aa (ad y.o b);clear b;go_wp2_with fail
 go_ret2
 rw[HV.o.1];exact⟨⟨none,0,[],rfl,Or.inl ⟨HV.o.2,rfl,rfl,rfl⟩⟩,aC k.o⟩
structure PL where
 p:List Int
 A:Option Addr
 c:Nat
def ni:PL:=⟨[],none,0⟩
def lP(xs:List PL):List (List Int):=xs.map PL.p
def gA(xs:List PL):List Value:=xs.map fun x=>.slice x.A x.p.length x.c
theorem cellsP_append(a b:List PL):gA (a++b)=gA a++gA b:=by simp[gA]
theorem infoPla:(prog.info? 43).map (fun i=>(i.zero,i.size,i.bytes))=some (some (.slice none 0 0),1,24):=by kernel_rfl
theorem map_take{X:List Int}{h:List Int}{j:Nat}(a:j<X.length):(X.take (j+1)).map (fun x=>h++[x])=(X.take j).map (fun x=>h++[x])++[h++[X.getD j 0]]:=by
 rw[List.take_succ_eq_append_getElem a,List.map_append,zZ,zX a]
 rfl
end Go.Proofs.YtjfampgnhccodaaGreatDoor
