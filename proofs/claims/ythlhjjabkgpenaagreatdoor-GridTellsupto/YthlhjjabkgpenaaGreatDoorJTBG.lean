/- The document's own ans -/
import Derived.Test.YthlhjjabkgpenaaGreatDoorJTBA
namespace Go.Proofs.YthlhjjabkgpenaaGreatDoor
open ChangeShapes WideShapes ChangeAt RowKit
set_option maxRecDepth 99999
set_option maxHeartbeats 0
theorem Ix {x y:ByteArray} (h : ¬ y=x):(y.toList == x.toList)=false:=by
 rw [beq_eq_false_iff_ne];intro e;apply h;rw [Lib.toList_data,Lib.toList_data] at e;obtain ⟨b⟩:=y;obtain ⟨a⟩:=x;exact congrArg ByteArray.mk (Array.toList_inj.1 e)
theorem xk (An:Option Addr) (s:Nat) (N:List ByteArray) (x:ByteArray) (w:World) (h:k9 w An s N) :
  Rt 87 #[.slice An N.length s,.string x] w (.int .i64 (bT N x)):=by
 have v:=aa h;unfold bT;obtain ⟨n,l⟩:=ax N.length;have r:=aa l;have C:(n:Int)<4611686018427387904:=by have:=h.2.1;omega
 rw [l];clear h l
 go_enter Tryz.func87,Tryz.ntmps87
 go_wp2_with fail
 go_loopg [5] n (fun g s5 wr => ∃ (k:Nat),k≤n∧g=n-k∧s5=.int .i64 k∧findFrom (F7 N x) (n-k) k=findFrom (F7 N x) n 0∧Bl w wr)
 case atStart=>exact ⟨0,zU,rfl,rfl,rfl,zS⟩
 case round =>
  obtain ⟨k,E,rfl,rfl,u,c⟩:=hrel;have e:=aa u;have d:=aa c;clear u c
  by_cases j:k<n
  ·have A:(k:Int)<(n:Int):=by omega
   have q:Hid (n-k=(n-(k+1))+1):=by show _=_;omega
   obtain ⟨-,-,-,z | ⟨b,o,rfl,D,t⟩⟩:=v.out.later d.out
   ·have:=r.out;rw [z] at this;simp at this;omega
   have c0:=t k (by rw [r.out];exact j)
   obtain ⟨y,m⟩:=ax (N.getD k iC);have p:Hid (F7 N x k=decide (y=x)):=by show _=_;unfold F7;rw [m]
   rw [m] at c0;clear t m
   by_cases a:y=x
   ·have f:Hid (F7 N x k=true):=by show _=_;rw [p.out,decide_eq_true a]
    subst a;go_wp2_with fail;go_ret;exact ⟨by rw [←e.out,q.out,aW _ f.out];rfl,d.out⟩
   have f:Hid (F7 N x k=false):=by show _=_;rw [p.out,decide_eq_false a]
   have B:=Ix a;clear a;go_wp2_with fail
   go_roundg (n-(k+1))
   case measure=>omega
   case rel=>exact ⟨k+1,by omega,rfl,by go_num,by rw [←e.out,q.out,aU _ f.out],d.out⟩
  have i:k=n:=by omega
  subst i;go_wp2_with fail;go_ret;exact ⟨by rw [←e.out,Nat.sub_self];rfl,d.out⟩
theorem DY {N:List ByteArray} {o:Int} {a b:Tre} (h:missT N (.bin o a b)=false):missT N a=false∧missT N b=false:=by
 unfold missT at *;rw [refsT,List.any_append,Bool.or_eq_false_iff] at h;exact h
theorem GL {o:Int} {a b:Int×Int} (c:oq a) (d:oq b):(o=3→iK 60 #[.agg #[.int .i64 a.1,.int .i64 a.2],.agg #[.int .i64 b.1,.int .i64 b.2],.int .i64 1] (pF o a b))∧(o=4→iK 60 #[.agg #[.int .i64 a.1,.int .i64 a.2],.agg #[.int .i64 b.1,.int .i64 b.2],.int .i64 (-1)] (pF o a b))∧(o=5→iK 88 #[.agg #[.int .i64 a.1,.int .i64 a.2],.agg #[.int .i64 b.1,.int .i64 b.2]] (pF o a b))∧(o=6→iK 89 #[.agg #[.int .i64 a.1,.int .i64 a.2],.agg #[.int .i64 b.1,.int .i64 b.2]] (pF o a b)):=by
 refine ⟨?_,?_,?_,?_⟩ <;> rintro rfl
 ·exact xt _ _ _ _ c d
 ·exact uM _ _ _ _ c d
 ·exact xu _ _ _ _ c d
 exact B6 _ _ _ _ c d
theorem jW {W w1:World} {p T:Nat} {u v:Value} (a:W.heap[p]?=some (.cells #[u,v] T (0,0))) (b:Bl W w1):p<w1.heap.size∧w1.cell? ⟨p,0,none⟩=some u∧w1.cell? ⟨p,1,none⟩=some v∧w1.frozen? ⟨p,0,none⟩=false∧w1.frozen? ⟨p,1,none⟩=false:=by
 have h:=(b.block p (zY a).1).trans a;exact ⟨(zY h).1,by simp [World.cell?,h],by simp [World.cell?,h],by simp [World.frozen?,h],by simp [World.frozen?,h]⟩
theorem uN (b o cap:Nat) (l:List Nd) (hl:m4 l) (h30:l.length≤30) (An:Option Addr) (cn:Nat) (N:List ByteArray) (Ac:Option Addr) (cc:Nat) (C:List (Int×Int)) (E:C.length=N.length) (hok:∀ c∈C,oq c):∀ i,i<l.length→∀ (w:World),jG w b o l→k9 w An cn N→dt w Ac cc C→missT N (aB l i)=false →
  Rt 58 #[.slice (some ⟨b,o,none⟩) l.length cap,.int .i64 i,.slice An N.length cn,.slice Ac C.length cc] w (.agg #[.int .i64 (dX N C (aB l i)).1,.int .i64 (dX N C (aB l i)).2]):=by
 have HOk:=aa hok;have HLen:=aa E;clear hok E;intro i
 induction i using Nat.strongRecOn with
 | _ i ih =>
  intro hi w hN K U H;have HI:Hid (∀ m,m<i→m<l.length→∀ (w:World),jG w b o l→k9 w An cn N→dt w Ac cc C→missT N (aB l m)=false →
   Rt 58 #[.slice (some ⟨b,o,none⟩) l.length cap,.int .i64 m,.slice An N.length cn,.slice Ac C.length cc] w (.agg #[.int .i64 (dX N C (aB l m)).1,.int .i64 (dX N C (aB l m)).2])):=ih
  clear ih;have hg:=hl i hi;have ho:=kK hg;obtain ⟨x0,x1,x2,x3,x4⟩:=hN.nd (k:=i) hi;obtain ⟨x,Z⟩:=ax (l.getD i bH);rw [Z] at x0 x1 x2 x3 x4 hg ho;have hii:(i:Int)<(l.length:Int):=by omega
  have hli:(l.length:Int)≤30:=by omega
  have hbl:b<w.heap.size:=hN.1;obtain ⟨op,nn,name,left,I⟩:=x;simp only at x0 x1 x2 x3 x4 ho;have HNd:=aa hN;have HNm:=aa K;have HCl:=aa U;obtain ⟨W,hW⟩:=ax ((w.alloc (.cells #[.int .i64 0,.int .i64 0] 40)).alloc (.cells #[.int .i64 op,.int .i64 nn,.string name,.int .i64 left,.int .i64 I] 142));have HR:Hid (W.heap[w.heap.size]?=some (.cells #[.int .i64 0,.int .i64 0] 40 (0,0))):=by show _=_;rw [←hW];exact pk _ _ _
  have hX:W.heap[w.heap.size+1]?=some (.cells #[.int .i64 op,.int .i64 nn,.string name,.int .i64 left,.int .i64 I] 142 (0,0)):=by rw [←hW];exact jR _ _ _
  have L:=aa hX;have d0:W.cell? ⟨w.heap.size+1,0,none⟩=some (.int .i64 op):=by simp [World.cell?,hX]
  have d1:W.cell? ⟨w.heap.size+1,1,none⟩=some (.int .i64 nn):=by simp [World.cell?,hX]
  have d2:W.cell? ⟨w.heap.size+1,2,none⟩=some (.string name):=by simp [World.cell?,hX]
  have d3:W.cell? ⟨w.heap.size+1,3,none⟩=some (.int .i64 left):=by simp [World.cell?,hX]
  have s:Hid (Bl w W):=by show Bl w W;rw [←hW];go_grown
  clear hX
  by_cases h1:op=1
  ·subst h1
   have hP:dX N C (aB l i)=eO nn:=by rw [pm (by rw [Z]),Z];rfl
   rw [hP];have hof:=jv nn;clear Z hP hg ho hN K U H
   go_enter Tryz.func58,Tryz.ntmps58
   go_wp2_with fail;refine (hof _).mono ?_;rintro e w1 ⟨rfl,g⟩;obtain ⟨r1,X,Y,rf0,rf1⟩:=jW HR.out g;have J:=aa (ae s.out g);clear g hof hW d0 d1 d2 d3;go_wp2_with fail;refine bodyPost_ret (v:=.agg #[.int .i64 (eO nn).1,.int .i64 (eO nn).2]) (by simp [results,Tryz.results58,go_sem,X,Y]) rfl ⟨rfl,?_⟩
   exact (J.out.setCell (zT) _).setCell (zT) _
  by_cases h2:op=2
  ·subst h2
   have hT:aB l i=.ref name:=by rw [kZ (by rw [Z]),Z]
   rw [hT] at H ⊢;have hw:0≤bT N name:=by
    unfold missT refsT at H
    simp at H
    exact H
   obtain ⟨j,hj,hjl,-⟩:∃ j:Nat,bT N name=(j:Int)∧j<N.length∧N.getD j iC=name:=by
    rcases where_cases N name with ⟨hw',-⟩ | h
    ·omega
    exact h
   have hnm:=fun w' (hb:Bl w w')=>xk An cn N name w' (K.later hb)
   rw [hj] at hnm;have E:=HLen.out;obtain ⟨-,-,hC3⟩:=U;obtain ⟨b2,o2,rfl,hCA⟩:=hC3.resolve_left (fun e=>by rw [e] at E;simp at E;omega)
   obtain ⟨c,hc⟩:=ax (C.getD j noC);have hV:dX N C (.ref name)=c:=by show refC N C name=c;unfold refC;rw [hj];exact hc
   rw [hV];have HCA:=aa hCA;have HJ:Hid (j<C.length):=by show j<C.length;omega
   have HCc:=aa hc;have hjc:(j:Int)<(C.length:Int):=by omega
   have hsz:=K.2.1;have hcl:(C.length:Int)<4611686018427387904:=by omega
   clear Z hT hg ho hN K H hC3 hCA hV hc hj hw E
   go_enter Tryz.func58,Tryz.ntmps58
   go_wp2_with fail;refine (hnm _ s.out).mono ?_;rintro e w1 ⟨rfl,g⟩;obtain ⟨r1,X,Y,rf0,rf1⟩:=jW HR.out g;have J:=aa (ae s.out g);obtain ⟨c0,c1⟩:=(HCA.out.later J.out).2 j HJ.out;rw [HCc.out] at c0 c1;clear g hnm hW d0 d1 d2 d3;go_wp2_with fail;refine bodyPost_ret (v:=.agg #[.int .i64 c.1,.int .i64 c.2]) (by simp [results,Tryz.results58,go_sem,X,Y]) rfl ⟨rfl,?_⟩
   exact (J.out.setCell (zT) _).setCell (zT) _
  obtain ⟨a1,a2,a3,a4⟩:=eI hg (show 2<op by omega)
  simp only at a1 a2 a3 a4;obtain ⟨a,ha⟩:∃ a:Nat,left=a:=⟨left.toNat,by omega⟩
  obtain ⟨c,hc⟩:∃ c:Nat,I=c:=⟨I.toNat,by omega⟩
  subst ha hc;have hT:aB l i=.bin op (aB l a) (aB l c):=by
   have:=kY hl hi (by rw [Z];show 2<op;omega)
   rw [Z] at this
   simpa using this
  rw [hT] at H ⊢;obtain ⟨hma,hmc⟩:=DY H;have hoa:=xR N HOk.out (aB l a);have hoc:=xR N HOk.out (aB l c);have F:=aa (fun w' (hb:Bl w w')=>HI.out a (by omega) (by omega) w' (hN.later hb) (K.later hb) (U.later hb) hma)
  have G:=aa (fun w' (hb:Bl w w')=>HI.out c (by omega) (by omega) w' (hN.later hb) (K.later hb) (U.later hb) hmc)
  have hV:dX N C (.bin op (aB l a) (aB l c))=pF op (dX N C (aB l a)) (dX N C (aB l c)):=rfl;rw [hV];obtain ⟨u,hu⟩:=ax (dX N C (aB l a));obtain ⟨v,hv⟩:=ax (dX N C (aB l c));rw [hu] at hoa F ⊢;rw [hv] at hoc G ⊢;obtain ⟨p3,p4,p5,p6⟩:=GL (o:=op) hoa hoc;obtain ⟨t,ht⟩:=ax (pF op u v);rw [ht] at p3 p4 p5 p6 ⊢;unfold iK at p3 p4 p5 p6;have hovc:op=3∨op=4∨op=5∨op=6:=by omega
  clear Z hT hg ho h1 h2 hN K U H hma hmc hoa hoc hV hu hv ht HI a1 a2 a3 a4
  rcases hovc with rfl | rfl | rfl | rfl
  ·have V:=p3 rfl
   clear p3 p4 p5 p6
   go_enter Tryz.func58,Tryz.ntmps58
   go_wp2_with fail;refine (F.out _ s.out).mono ?_;rintro e w1 ⟨rfl,g⟩;have J:=aa g;have O:=aa (ae s.out g);obtain ⟨V1,p⟩:=ax (w1.alloc (.cells #[.int .i64 u.1,.int .i64 u.2] 40));have f:Bl w1 V1:=by rw [←p];exact (zS).alloc (zT) _
   have A:=aa (ae g f);have y:=aa (ae O.out f);have B:V1.heap[w1.heap.size]?=some (.cells #[.int .i64 u.1,.int .i64 u.2] 40 (0,0)):=by rw [←p];exact heap_alloc_new _ _
   have G1:=aa B;have d:=(A.out.block (w.heap.size+1) (zY L.out).1).trans L.out;have k0:V1.cell? ⟨w.heap.size+1,0,none⟩=some (.int .i64 3):=by simp [World.cell?,d]
   have k4:V1.cell? ⟨w.heap.size+1,4,none⟩=some (.int .i64 (c:Int)):=by simp [World.cell?,d]
   have kl:=(zY d).1;clear g f B d hW d0 d1 d2 d3;go_wp2_with fail;refine (G.out _ y.out).mono ?_;rintro e w2 ⟨rfl,n⟩;have P:=aa (ae y.out n);have R:=aa (ae A.out n);obtain ⟨V2,q⟩:=ax (w2.alloc (.cells #[.int .i64 v.1,.int .i64 v.2] 40));have f:Bl w2 V2:=by rw [←q];exact (zS).alloc (zT) _
   have Q:=aa (ae P.out f);have z:=aa (ae R.out f);obtain ⟨y1,y2,y3,-,-⟩:=jW G1.out (ae n f);have D:V2.heap[w2.heap.size]?=some (.cells #[.int .i64 v.1,.int .i64 v.2] 40 (0,0)):=by rw [←q];exact heap_alloc_new _ _
   obtain ⟨q1,q2,q3,-,-⟩:=jW D (zS);have d:=(z.out.block (w.heap.size+1) (zY L.out).1).trans L.out;have S:V2.cell? ⟨w.heap.size+1,0,none⟩=some (.int .i64 3):=by simp [World.cell?,d]
   have T:=(zY d).1;clear n f D d p k0 k4 kl F G;go_wp2_with fail;refine (V _).mono ?_;rintro e w3 ⟨rfl,r⟩;obtain ⟨r1,X,Y,rf0,rf1⟩:=jW HR.out (ae z.out r);have M:=aa (ae Q.out r);clear r V q S T y1 y2 y3 q1 q2 q3;go_wp2_with fail;refine bodyPost_ret (v:=.agg #[.int .i64 t.1,.int .i64 t.2]) (by simp [results,Tryz.results58,go_sem,X,Y]) rfl ⟨rfl,?_⟩
   exact (M.out.setCell (zT) _).setCell (zT) _
  ·have V:=p4 rfl
   clear p3 p4 p5 p6
   go_enter Tryz.func58,Tryz.ntmps58
   go_wp2_with fail;refine (F.out _ s.out).mono ?_;rintro e w1 ⟨rfl,g⟩;have J:=aa g;have O:=aa (ae s.out g);obtain ⟨V1,p⟩:=ax (w1.alloc (.cells #[.int .i64 u.1,.int .i64 u.2] 40));have f:Bl w1 V1:=by rw [←p];exact (zS).alloc (zT) _
   have A:=aa (ae g f);have y:=aa (ae O.out f);have B:V1.heap[w1.heap.size]?=some (.cells #[.int .i64 u.1,.int .i64 u.2] 40 (0,0)):=by rw [←p];exact heap_alloc_new _ _
   have G1:=aa B;have d:=(A.out.block (w.heap.size+1) (zY L.out).1).trans L.out;have k0:V1.cell? ⟨w.heap.size+1,0,none⟩=some (.int .i64 4):=by simp [World.cell?,d]
   have k4:V1.cell? ⟨w.heap.size+1,4,none⟩=some (.int .i64 (c:Int)):=by simp [World.cell?,d]
   have kl:=(zY d).1;clear g f B d hW d0 d1 d2 d3;go_wp2_with fail;refine (G.out _ y.out).mono ?_;rintro e w2 ⟨rfl,n⟩;have P:=aa (ae y.out n);have R:=aa (ae A.out n);obtain ⟨V2,q⟩:=ax (w2.alloc (.cells #[.int .i64 v.1,.int .i64 v.2] 40));have f:Bl w2 V2:=by rw [←q];exact (zS).alloc (zT) _
   have Q:=aa (ae P.out f);have z:=aa (ae R.out f);obtain ⟨y1,y2,y3,-,-⟩:=jW G1.out (ae n f);have D:V2.heap[w2.heap.size]?=some (.cells #[.int .i64 v.1,.int .i64 v.2] 40 (0,0)):=by rw [←q];exact heap_alloc_new _ _
   obtain ⟨q1,q2,q3,-,-⟩:=jW D (zS);have d:=(z.out.block (w.heap.size+1) (zY L.out).1).trans L.out;have S:V2.cell? ⟨w.heap.size+1,0,none⟩=some (.int .i64 4):=by simp [World.cell?,d]
   have T:=(zY d).1;clear n f D d p k0 k4 kl F G;go_wp2_with fail;refine (V _).mono ?_;rintro e w3 ⟨rfl,r⟩;obtain ⟨r1,X,Y,rf0,rf1⟩:=jW HR.out (ae z.out r);have M:=aa (ae Q.out r);clear r V q S T y1 y2 y3 q1 q2 q3;go_wp2_with fail;refine bodyPost_ret (v:=.agg #[.int .i64 t.1,.int .i64 t.2]) (by simp [results,Tryz.results58,go_sem,X,Y]) rfl ⟨rfl,?_⟩
   exact (M.out.setCell (zT) _).setCell (zT) _
  ·have V:=p5 rfl
   clear p3 p4 p5 p6
   go_enter Tryz.func58,Tryz.ntmps58
   go_wp2_with fail;refine (F.out _ s.out).mono ?_;rintro e w1 ⟨rfl,g⟩;have J:=aa g;have O:=aa (ae s.out g);obtain ⟨V1,p⟩:=ax (w1.alloc (.cells #[.int .i64 u.1,.int .i64 u.2] 40));have f:Bl w1 V1:=by rw [←p];exact (zS).alloc (zT) _
   have A:=aa (ae g f);have y:=aa (ae O.out f);have B:V1.heap[w1.heap.size]?=some (.cells #[.int .i64 u.1,.int .i64 u.2] 40 (0,0)):=by rw [←p];exact heap_alloc_new _ _
   have G1:=aa B;have d:=(A.out.block (w.heap.size+1) (zY L.out).1).trans L.out;have k0:V1.cell? ⟨w.heap.size+1,0,none⟩=some (.int .i64 5):=by simp [World.cell?,d]
   have k4:V1.cell? ⟨w.heap.size+1,4,none⟩=some (.int .i64 (c:Int)):=by simp [World.cell?,d]
   have kl:=(zY d).1;clear g f B d hW d0 d1 d2 d3;go_wp2_with fail;refine (G.out _ y.out).mono ?_;rintro e w2 ⟨rfl,n⟩;have P:=aa (ae y.out n);have R:=aa (ae A.out n);obtain ⟨V2,q⟩:=ax (w2.alloc (.cells #[.int .i64 v.1,.int .i64 v.2] 40));have f:Bl w2 V2:=by rw [←q];exact (zS).alloc (zT) _
   have Q:=aa (ae P.out f);have z:=aa (ae R.out f);obtain ⟨y1,y2,y3,-,-⟩:=jW G1.out (ae n f);have D:V2.heap[w2.heap.size]?=some (.cells #[.int .i64 v.1,.int .i64 v.2] 40 (0,0)):=by rw [←q];exact heap_alloc_new _ _
   obtain ⟨q1,q2,q3,-,-⟩:=jW D (zS);have d:=(z.out.block (w.heap.size+1) (zY L.out).1).trans L.out;have S:V2.cell? ⟨w.heap.size+1,0,none⟩=some (.int .i64 5):=by simp [World.cell?,d]
   have T:=(zY d).1;clear n f D d p k0 k4 kl F G;go_wp2_with fail;refine (V _).mono ?_;rintro e w3 ⟨rfl,r⟩;obtain ⟨r1,X,Y,rf0,rf1⟩:=jW HR.out (ae z.out r);have M:=aa (ae Q.out r);clear r V q S T y1 y2 y3 q1 q2 q3;go_wp2_with fail;refine bodyPost_ret (v:=.agg #[.int .i64 t.1,.int .i64 t.2]) (by simp [results,Tryz.results58,go_sem,X,Y]) rfl ⟨rfl,?_⟩
   exact (M.out.setCell (zT) _).setCell (zT) _
  have V:=p6 rfl;clear p3 p4 p5 p6
  go_enter Tryz.func58,Tryz.ntmps58
  go_wp2_with fail;refine (F.out _ s.out).mono ?_;rintro e w1 ⟨rfl,g⟩;have J:=aa g;have O:=aa (ae s.out g);obtain ⟨V1,p⟩:=ax (w1.alloc (.cells #[.int .i64 u.1,.int .i64 u.2] 40));have f:Bl w1 V1:=by rw [←p];exact (zS).alloc (zT) _
  have A:=aa (ae g f);have y:=aa (ae O.out f);have B:V1.heap[w1.heap.size]?=some (.cells #[.int .i64 u.1,.int .i64 u.2] 40 (0,0)):=by rw [←p];exact heap_alloc_new _ _
  have G1:=aa B;have d:=(A.out.block (w.heap.size+1) (zY L.out).1).trans L.out;have k0:V1.cell? ⟨w.heap.size+1,0,none⟩=some (.int .i64 6):=by simp [World.cell?,d]
  have k4:V1.cell? ⟨w.heap.size+1,4,none⟩=some (.int .i64 (c:Int)):=by simp [World.cell?,d]
  have kl:=(zY d).1;clear g f B d hW d0 d1 d2 d3;go_wp2_with fail;refine (G.out _ y.out).mono ?_;rintro e w2 ⟨rfl,n⟩;have P:=aa (ae y.out n);have R:=aa (ae A.out n);obtain ⟨V2,q⟩:=ax (w2.alloc (.cells #[.int .i64 v.1,.int .i64 v.2] 40));have f:Bl w2 V2:=by rw [←q];exact (zS).alloc (zT) _
  have Q:=aa (ae P.out f);have z:=aa (ae R.out f);obtain ⟨y1,y2,y3,-,-⟩:=jW G1.out (ae n f);have D:V2.heap[w2.heap.size]?=some (.cells #[.int .i64 v.1,.int .i64 v.2] 40 (0,0)):=by rw [←q];exact heap_alloc_new _ _
  obtain ⟨q1,q2,q3,-,-⟩:=jW D (zS);have d:=(z.out.block (w.heap.size+1) (zY L.out).1).trans L.out;have S:V2.cell? ⟨w.heap.size+1,0,none⟩=some (.int .i64 6):=by simp [World.cell?,d]
  have T:=(zY d).1;clear n f D d p k0 k4 kl F G;go_wp2_with fail;refine (V _).mono ?_;rintro e w3 ⟨rfl,r⟩;obtain ⟨r1,X,Y,rf0,rf1⟩:=jW HR.out (ae z.out r);have M:=aa (ae Q.out r);clear r V q S T y1 y2 y3 q1 q2 q3;go_wp2_with fail;refine bodyPost_ret (v:=.agg #[.int .i64 t.1,.int .i64 t.2]) (by simp [results,Tryz.results58,go_sem,X,Y]) rfl ⟨rfl,?_⟩
  exact (M.out.setCell (zT) _).setCell (zT) _
def em (R:List ByteArray):List Value:=R.map Value.string
def ik (l:List Nd) (i:Nat) (R:List ByteArray):Prop:=R.length≤i∧∀ s,s∈R↔∃ j,j<i∧(l.getD j bH).op=2∧(l.getD j bH).name=s
section
variable {l:List Nd} {i:Nat} {R:List ByteArray}
theorem refs_zero:ik l 0 []:=⟨zT,fun _=>⟨fun h=>absurd h List.not_mem_nil,fun ⟨j,h,_⟩=>absurd h (Nat.not_lt_zero j)⟩⟩
theorem BT (h:ik l i R) (c:(l.getD i bH).op≠2):ik l (i+1) R:=by
 refine ⟨by have:=h.1;omega,fun s=>(h.2 s).trans ⟨fun ⟨j,b,a⟩=>⟨j,by omega,a⟩,fun ⟨j,b,a⟩=>⟨j,?_,a⟩⟩⟩
 by_cases e:j=i
 ·subst e;exact absurd a.1 c
 omega
theorem E5 (h:ik l i R) (f:(l.getD i bH).op=2) (c:(l.getD i bH).name∈R):ik l (i+1) R:=by
 refine ⟨by have:=h.1;omega,fun s=>⟨fun d=>?_,fun ⟨j,b,a⟩=>?_⟩⟩
 ·obtain ⟨j,b,a⟩:=(h.2 s).1 d
  exact ⟨j,by omega,a⟩
 by_cases e:j=i
 ·subst e;rw [←a.2];exact c
 exact (h.2 s).2 ⟨j,by omega,a⟩
theorem kQ (h:ik l i R) (f:(l.getD i bH).op=2) (k:Nat):ik l (i+1) (R.take k ++ [(l.getD i bH).name] ++ R.drop k):=by
 refine ⟨?_,fun s=>?_⟩
 ·have:=h.1
  simp only [List.length_append,List.length_take,List.length_drop,List.length_singleton]
  omega
 have a:s∈R.take k ++ [(l.getD i bH).name] ++ R.drop k↔s∈R∨s=(l.getD i bH).name:=by
  rw [List.mem_append,List.mem_append,List.mem_singleton];have d:s∈R↔s∈R.take k∨s∈R.drop k:=by rw [←List.mem_append,List.take_append_drop]
  rw [d]
  constructor
  ·rintro ((h | h) | h)
   ·exact Or.inl (Or.inl h)
   ·exact Or.inr h
   exact Or.inl (Or.inr h)
  rintro ((h | h) | h)
  ·exact Or.inl (Or.inl h)
  ·exact Or.inr h
  exact Or.inl (Or.inr h)
 rw [a,h.2 s]
 constructor
 ·rintro (⟨j,c,b⟩ | rfl)
  ·exact ⟨j,by omega,b⟩
  exact ⟨i,by omega,f,rfl⟩
 rintro ⟨j,c,b⟩
 by_cases e:j=i
 ·subst e;exact Or.inr b.2.symm
 exact Or.inl ⟨j,by omega,b⟩
end
theorem Tryz.infoStR:(Tryz.prog.info? 9).map (fun i=>(i.zero,i.size,i.bytes))=some (some (.string ⟨#[]⟩),1,16):=by kernel_rfl
theorem row_str {w:World} {base:Nat} {v:Value} {R:List ByteArray} (h:w.ownsRow base 9 1 v R.length (em R)):(R=[]∧v=.slice none 0 0)∨∃ g cap,v=.slice (some ⟨g,0,none⟩) R.length cap∧base≤g∧g<w.heap.size∧R.length≤cap∧cap≤9223372036854775807∧∀ k,k<R.length→w.cell? ⟨g,k,none⟩=some (.string (R.getD k iC)):=by
 rcases h.2 with ⟨rfl,d⟩ | ⟨g,cap,c,rfl,j,a,e,f,m,i⟩
 ·exact Or.inl ⟨List.eq_nil_of_length_eq_zero d,rfl⟩
 refine Or.inr ⟨g,cap,rfl,j,(zY a).1,e,by unfold maxLen at f;omega,fun k l=>?_⟩
 have b:(em R)[k]?=some (.string (R.getD k iC)):=by simp [em,List.getD,l]
 rw [←i,List.getElem?_take,if_pos (by omega),Array.getElem?_toList] at b
 simp [World.cell?,a,b]
theorem GX {x y:ByteArray} (h : ¬ y=x):(y.toList == x.toList)=false:=by
 rw [beq_eq_false_iff_ne];intro e;apply h;rw [Lib.toList_data,Lib.toList_data] at e;obtain ⟨b⟩:=y;obtain ⟨a⟩:=x;exact congrArg ByteArray.mk (Array.toList_inj.1 e)
theorem rX (L:List ByteArray):∀ u∈em L,u.oneCell'=true:=by
 intro u a;obtain ⟨x,-,rfl⟩:=List.mem_map.1 a
 rfl
theorem uJ {w:World} {g:Nat} {R:List ByteArray} (h:∀ j,j<R.length→w.cell? ⟨g,j,none⟩=some (.string (R.getD j iC))) (k:Nat):∀ j u,(em (R.take k))[j]?=some u→w.cell? ((⟨g,0,none⟩:Addr).add j)=some u:=by
 intro j u a;have b:j<(R.take k).length:=by have:=(List.getElem?_eq_some_iff.1 a).1;simpa [em] using this
 rw [List.length_take] at b;rw [em,List.getElem?_map,List.getElem?_take,if_pos (by omega),zX (by omega)] at a
 have e:=h j (by omega)
 rw [zZ,zX (by omega)] at e
 have c:((⟨g,0,none⟩:Addr).add j)=⟨g,j,none⟩:=by rw [Addr.add_lit,Nat.zero_add]
 rw [c,e];exact a
theorem E9 {w:World} {g:Nat} {R:List ByteArray} (h:∀ j,j<R.length→w.cell? ⟨g,j,none⟩=some (.string (R.getD j iC))) (k:Nat):∀ j u,(em (R.drop k))[j]?=some u→w.cell? ((⟨g,k,none⟩:Addr).add j)=some u:=by
 intro j u a;have b:j<(R.drop k).length:=by have:=(List.getElem?_eq_some_iff.1 a).1;simpa [em] using this
 rw [List.length_drop] at b;rw [em,List.getElem?_map,List.getElem?_drop,zX (by omega)] at a
 have e:=h (k+j) (by omega)
 rw [zZ,zX (by omega)] at e
 have c:((⟨g,k,none⟩:Addr).add j)=⟨g,k+j,none⟩:=by rw [Addr.add_lit]
 rw [c,e];exact a
theorem Cc (b o cap:Nat) (l:List Nd) (w:World) (h30:l.length≤30) (hN:jG w b o l) :
  Calls Tryz.prog 56 #[.slice (some ⟨b,o,none⟩) l.length cap] w fun e w'=>(∃ v R,e=.returned v∧w'.ownsRow w.heap.size 9 1 v R.length (em R)∧ik l l.length R)∧Bl w w':=by
 obtain ⟨i0,J,T,U,V⟩:=info_parts Tryz.infoStR;have HN:=aa hN;obtain ⟨n,hn⟩:=ax l.length;have HL:=aa hn;rw [hn] at h30 ⊢;have hni:(n:Int)≤30:=by omega
 clear hN hn
 go_enter Tryz.func56,Tryz.ntmps56
 go_wp2_with fail
 go_loopg [3,4] n (fun g s3 s4 wr => ∃ (i:Nat) (R:List ByteArray),i≤n∧g=n-i∧s4=.int .i64 i∧wr.ownsRow w.heap.size 9 1 s3 R.length (em R)∧ik l i R∧Bl w wr)
 case atStart=>exact ⟨0,[],zU,rfl,rfl,World.ownsRow_nil _ _ _ _,refs_zero,zS⟩
 case round =>
  obtain ⟨i,R,hi,rfl,rfl,K,hRef,hBw⟩:=hrel;have HO:=aa K;have Z:=aa hRef;have HW:=aa hBw;have hRl:R.length≤30:=by have:=hRef.1;omega
  clear hRef hBw
  by_cases hlt:i<n
  ·have hii:(i:Int)<(n:Int):=by omega
   obtain ⟨x0,x1,x2,x3,x4⟩:=(HN.out.later HW.out).nd (k:=i) (by rw [HL.out];exact hlt)
   have E:b<wr.heap.size:=(HN.out.later HW.out).1;obtain ⟨x,hx⟩:=ax (l.getD i bH);have HX:=aa hx;rw [hx] at x0 x2;clear hx x1 x3 x4
   by_cases hop:x.op=2
   ·rw [hop] at x0
    have Y:Hid ((l.getD i bH).op=2):=by show _=_;rw [HX.out];exact hop
    obtain ⟨nm,hnm⟩:=ax x.name;have HNm:Hid ((l.getD i bH).name=nm):=by show _=_;rw [HX.out];exact hnm
    rw [hnm] at x2;clear hop hnm
    rcases row_str K with ⟨hR0,rfl⟩ | ⟨g,cp,rfl,hgb,hgl,hcp,hcm,Lu⟩
    ·subst hR0
     clear K;go_wp2_with fail;refine wp_loop_rounds 1 ?_;rw [rounds_succ];go_wp2_with fail
     go_quiet (fail)
     obtain ⟨W1,C⟩:=ax (wr.drewN nq);have hb1:Bl wr W1:=by rw [←C];exact ac (zS) _
     have A:=aa (ae HW.out hb1);have y0:=aL hb1 E x0;have y2:=aL hb1 E x2;have Lv:=zW E hb1.size;rw [C];clear C hb1 x0 x2 E;go_wp2_with fail
     go_quiet (fail)
     obtain ⟨W2,D⟩:=ax (W1.drewN nq);have hb2:Bl W1 W2:=by rw [←D];exact ac (zS) _
     have s:=aa (ae A.out hb2);have x0:=aL hb2 Lv y0;have x2:=aL hb2 Lv y2;have E:=zW Lv hb2.size;rw [D];clear D hb2 y0 y2 Lv
     go_wp2_with (at_builtin;first | (refine wpList_append_own_none rfl _ _ 51 rfl w.heap.size 9 i0 1 Tryz.underlying51 J _ 0 [] rfl (World.ownsRow_nil _ _ _ _) rfl ?_) | (refine wpList_append_own_at _ rfl _ _ 51 rfl w.heap.size 9 i0 _ 1 16 Tryz.underlying51 J T U V rfl (by decide) _ 0 [] rfl (World.ownsRow_nil _ _ _ _) ⟨W2.heap.size,0,none⟩ 1 1 [.string nm] rfl rfl bu ?qc1 ?qc2 ?qc3 ?qc4 ?_))
     case qc1=>intro u hu;simp at hu;subst hu;rfl
     case qc2=>unfold maxLen;omega
     case qc3=>omega
     case qc4=>have:=s.out.size;simp;omega
     intro v3 w3 hown3 Lw _ hat3;have HB3:Hid (Bl w w3):=(s.out.alloc s.out.size _).grown Lw (by have:=s.out.size;simp;omega) (fun j c=>by cases c)
     have HO3:=aa hown3;clear hown3 Lw hat3
     go_wp2_with (at_builtin;refine wpList_append_own_none rfl _ _ 51 rfl w.heap.size 9 i0 1 Tryz.underlying51 J _ 1 _ rfl HO3.out rfl ?_)
     have B:=aa (kQ Z.out Y.out 0);rw [HNm.out] at B;go_wp2_with fail
     go_roundg (n-(i+1))
     case measure=>omega
     case rel=>exact ⟨i+1,[nm],by omega,rfl,by go_num,HO3.out,B.out,HB3.out⟩
    have hlen:=hRl;obtain ⟨m,hm⟩:=ax R.length;have HM:=aa hm;have hmi:(m:Int)≤30:=by omega
    rw [hm] at hcp Lu ⊢;have hcpi:(m:Int)≤(cp:Int):=by omega
    have hcmi:(cp:Int)≤9223372036854775807:=by omega
    have X:=aa Lu;clear K Lu hm hlen;go_wp2_with fail;have X2:=aa x2;clear x2;obtain ⟨wo,rfl⟩:∃ wo:World,wo=wr:=⟨_,rfl⟩
    go_loopg [5] m (fun g' s5 ws => ∃ (k:Nat),k≤m∧g'=m-k∧s5=.int .i64 k∧Bl wo ws)
    case atStart=>exact ⟨0,zU,rfl,rfl,zS⟩
    case round =>
     obtain ⟨k,hk,rfl,rfl,Lt⟩:=hrel;have W:=aa Lt;have x2':=aL Lt E X2.out;have hblr:=zW E Lt.size;have hglr:=zW hgl Lt.size
     by_cases hkm:k<m
     ·have hki:(k:Int)<(m:Int):=by omega
      have c0:=aL Lt hgl (X.out k hkm);obtain ⟨y,hy⟩:=ax (R.getD k iC);have HY:=aa hy;rw [hy] at c0;clear hy Lt;cases hls:Op.bytesLess y.toList nm.toList
      ·go_wp2_with fail
       go_quiet (fail)
       obtain ⟨W1,C⟩:=ax (wr.drewN nq);have z:Bl wr W1:=by rw [←C];exact ac (zS) _
       have HS1:=aa z;have c1:=aL z hglr c0;have x3:=aL z hblr x2';rw [C];clear C z c0 x2' hls
       by_cases hyx:y=nm
       ·have HMem:Hid ((l.getD i bH).name∈R):=by
         show _∈R
         rw [HNm.out,←hyx,←HY.out,zZ,zX (by rw [HM.out];exact hkm)]
         exact List.getElem_mem _
        subst hyx;go_wp2_with fail
        go_quiet (fail)
        have HBq:Hid (Bl w (W1.drewN nq)):=ac (ae HW.out (ae W.out HS1.out)) _;have HOq:=aa (ar HO.out (ac (ae W.out HS1.out) nq));rw [HM.out] at HOq;go_wp2_with fail
        go_roundg (n-(i+1))
        case measure=>omega
        case rel=>exact ⟨i+1,R,by omega,rfl,by go_num,by rw [HM.out];exact HOq.out,E5 Z.out Y.out HMem.out,HBq.out⟩
       have hne:=GX hyx;clear hyx;go_wp2_with fail
       go_quiet (fail)
       obtain ⟨W2,D⟩:=ax (W1.drewN nq);have Q:Bl W1 W2:=by rw [←D];exact ac (zS) _
       have HS2:=aa (ae HS1.out Q);rw [D];clear D Q c1 x3 hne;have hck : ¬ cp=k:=by omega
       have KT:=aa hk;have H0:Hid (g<W2.heap.size):=zW hgl (ae W.out HS2.out).size;have t:=aa (ae W.out HS2.out);have G:∀ j,j<R.length→W2.cell? ⟨g,j,none⟩=some (.string (R.getD j iC)):=fun j c=>aL t.out hgl (X.out j (by rw [←HM.out];exact c))
       have HCW:=aa G;have z2:=aL t.out E X2.out;have r:=aa (ae HW.out t.out);have S:=zW E t.out.size;clear G
       go_wp2_with (at_builtin;refine wpList_append_own_at _ rfl _ _ 51 rfl w.heap.size 9 i0 _ 1 16 Tryz.underlying51 J T U V rfl (by decide) _ 0 [] rfl (World.ownsRow_nil _ _ _ _) ⟨g,0,none⟩ k cp (em (R.take k)) rfl ?qa0 ?qa1 ?qa2 ?qa3 ?qa4 ?qa5 ?_)
       case qa0=>rw [em,List.length_map,List.length_take,HM.out,Nat.mul_one];exact Nat.min_eq_left KT.out
       case qa1=>exact uJ HCW.out k
       case qa2=>exact rX _
       case qa3=>unfold maxLen;omega
       case qa4=>omega
       case qa5=>exact r.out.size
       intro v1 w1 H a _ N;have Hat1:=aa N;have h:Bl W2 w1:=⟨a.os,a.tape,a.output,a.size,fun q hq=>a.block q hq (by simp [Value.ownBlock])⟩
       have L:=aa h;have A:=aa (ae r.out h);have HO1:=aa H;have z3:=aL h S z2;have hbl3:=zW S h.size;clear H a N h z2
       go_wp2_with (at_builtin;refine wpList_append_own_at _ rfl _ _ 51 rfl w.heap.size 9 i0 _ 1 16 Tryz.underlying51 J T U V rfl (by decide) _ k _ rfl (ar HO1.out ?qb0) ⟨w1.heap.size,0,none⟩ 1 1 [.string nm] rfl rfl bu ?qb1 ?qb2 ?qb3 ?qb4 ?_)
       case qb0=>exact (zS).alloc (zT) _
       case qb1=>intro u hu;simp at hu;subst hu;rfl
       case qb2=>unfold maxLen;omega
       case qb3=>omega
       case qb4=>have:=A.out.size;simp;omega
       intro v2 w2 I f _ O;have M:∀ j,v1.ownBlock=some j→W2.heap.size≤j:=fun j c=>by
        rcases Hat1.out with e | e
        ·rw [e] at c;cases c
        rw [e] at c;cases c;exact zT
       have s:Hid (Bl w w2):=(A.out.alloc A.out.size _).grown f (by have:=A.out.size;simp;omega) (fun j c=>by have:=M j c;have:=r.out.size;omega)
       have HG2:Hid (Bl W2 w2):=(L.out.alloc L.out.size _).grown f (by have:=L.out.size;simp;omega) (fun j c=>M j c)
       have HO2:=aa I;have hv2:∀ j,v2.ownBlock=some j→W2.heap.size≤j:=fun j c=>by
        rcases O with e | e
        ·exact M j (by rw [←e];exact c)
        rw [e] at c;cases c;have:=L.out.size
        first | omega | (simp;omega)
       have Hv2:=aa hv2;have F:∀ j,j<R.length→w2.cell? ⟨g,j,none⟩=some (.string (R.getD j iC)):=fun j c=>aL HG2.out H0.out (HCW.out j c)
       have HC3:=aa F;clear I f O M hv2 F z3
       go_wp2_with (at_builtin;refine wpList_append_own_at _ rfl _ _ 51 rfl w.heap.size 9 i0 _ 1 16 Tryz.underlying51 J T U V rfl (by decide) _ (k+1) _ rfl HO2.out ⟨g,k,none⟩ (m-k) (cp-k) (em (R.drop k)) rfl ?qd0 ?qd1 ?qd2 ?qd3 ?qd4 ?qd5 ?_)
       case qd0=>rw [em,List.length_map,List.length_drop,HM.out,Nat.mul_one]
       case qd1=>exact E9 HC3.out k
       case qd2=>exact rX _
       case qd3=>unfold maxLen;omega
       case qd4=>omega
       case qd5=>exact s.out.size
       intro v4 w4 p d _ P;have HB4:Hid (Bl w w4):=s.out.grown d s.out.size (fun j c=>by have:=Hv2.out j c;have:=r.out.size;omega)
       have HO4:Hid (w4.ownsRow w.heap.size 9 1 v4 (R.take k ++ [nm] ++ R.drop k).length (em (R.take k ++ [nm] ++ R.drop k))):=by
        have e1:(R.take k ++ [nm] ++ R.drop k).length=k+1+(m-k):=by
         rw [List.length_append,List.length_append,List.length_take,List.length_drop,HM.out,Nat.min_eq_left KT.out];rfl
        have e2:em (R.take k ++ [nm] ++ R.drop k)=em (R.take k) ++ .string nm :: em (R.drop k):=by simp [em]
        show World.ownsRow ..
        rw [e1,e2];exact p
       have B:=aa (kQ Z.out Y.out k);rw [HNm.out] at B;clear p d P;go_wp2_with fail
       go_roundg (n-(i+1))
       case measure=>omega
       case rel=>exact ⟨i+1,_,by omega,rfl,by go_num,HO4.out,B.out,HB4.out⟩
      go_wp2_with fail
      go_quiet (fail)
      have HBq:Hid (Bl wo (wr.drewN nq)):=ac W.out _;go_wp2_with fail
      go_roundg (m-(k+1))
      case measure=>omega
      case rel=>exact ⟨k+1,by omega,rfl,by go_num,HBq.out⟩
     have hke:k=m:=by omega
     subst hke;clear Lt;go_wp2_with fail
     go_quiet (fail)
     obtain ⟨W1,C⟩:=ax (wr.drewN nq);have z:Bl wr W1:=by rw [←C];exact ac (zS) _
     have HS1:=aa z;have x3:=aL z hblr x2';rw [C];clear C z x2';go_wp2_with fail
     go_quiet (fail)
     obtain ⟨W2,D⟩:=ax (W1.drewN nq);have Q:Bl W1 W2:=by rw [←D];exact ac (zS) _
     have HS2:=aa (ae HS1.out Q);rw [D];clear D Q x3;have KT:Hid (k≤k):=zT;have H0:Hid (g<W2.heap.size):=zW hgl (ae W.out HS2.out).size;have t:=aa (ae W.out HS2.out);have G:∀ j,j<R.length→W2.cell? ⟨g,j,none⟩=some (.string (R.getD j iC)):=fun j c=>aL t.out hgl (X.out j (by rw [←HM.out];exact c))
     have HCW:=aa G;have z2:=aL t.out E X2.out;have r:=aa (ae HW.out t.out);have S:=zW E t.out.size;clear G
     go_wp2_with (at_builtin;refine wpList_append_own_at _ rfl _ _ 51 rfl w.heap.size 9 i0 _ 1 16 Tryz.underlying51 J T U V rfl (by decide) _ 0 [] rfl (World.ownsRow_nil _ _ _ _) ⟨g,0,none⟩ k cp (em (R.take k)) rfl ?qa0 ?qa1 ?qa2 ?qa3 ?qa4 ?qa5 ?_)
     case qa0=>rw [em,List.length_map,List.length_take,HM.out,Nat.mul_one];exact Nat.min_eq_left KT.out
     case qa1=>exact uJ HCW.out k
     case qa2=>exact rX _
     case qa3=>unfold maxLen;omega
     case qa4=>omega
     case qa5=>exact r.out.size
     intro v1 w1 H a _ N;have Hat1:=aa N;have h:Bl W2 w1:=⟨a.os,a.tape,a.output,a.size,fun q hq=>a.block q hq (by simp [Value.ownBlock])⟩
     have L:=aa h;have A:=aa (ae r.out h);have HO1:=aa H;have z3:=aL h S z2;have hbl3:=zW S h.size;clear H a N h z2
     go_wp2_with (at_builtin;refine wpList_append_own_at _ rfl _ _ 51 rfl w.heap.size 9 i0 _ 1 16 Tryz.underlying51 J T U V rfl (by decide) _ k _ rfl (ar HO1.out ?qb0) ⟨w1.heap.size,0,none⟩ 1 1 [.string nm] rfl rfl bu ?qb1 ?qb2 ?qb3 ?qb4 ?_)
     case qb0=>exact (zS).alloc (zT) _
     case qb1=>intro u hu;simp at hu;subst hu;rfl
     case qb2=>unfold maxLen;omega
     case qb3=>omega
     case qb4=>have:=A.out.size;simp;omega
     intro v2 w2 I f _ O;have M:∀ j,v1.ownBlock=some j→W2.heap.size≤j:=fun j c=>by
      rcases Hat1.out with e | e
      ·rw [e] at c;cases c
      rw [e] at c;cases c;exact zT
     have s:Hid (Bl w w2):=(A.out.alloc A.out.size _).grown f (by have:=A.out.size;simp;omega) (fun j c=>by have:=M j c;have:=r.out.size;omega)
     have HG2:Hid (Bl W2 w2):=(L.out.alloc L.out.size _).grown f (by have:=L.out.size;simp;omega) (fun j c=>M j c)
     have HO2:=aa I;have hv2:∀ j,v2.ownBlock=some j→W2.heap.size≤j:=fun j c=>by
      rcases O with e | e
      ·exact M j (by rw [←e];exact c)
      rw [e] at c;cases c;have:=L.out.size
      first | omega | (simp;omega)
     have Hv2:=aa hv2;have F:∀ j,j<R.length→w2.cell? ⟨g,j,none⟩=some (.string (R.getD j iC)):=fun j c=>aL HG2.out H0.out (HCW.out j c)
     have HC3:=aa F;clear I f O M hv2 F z3
     by_cases hcc:cp=k
     ·obtain ⟨A2,c2,hv2e⟩:=bG HO2.out
      subst hv2e
      go_wp2_with (at_builtin;(refine wpList_append_own_at _ rfl _ _ 51 rfl w.heap.size 9 i0 _ 1 16 Tryz.underlying51 J T U V rfl (by decide) _ (k+1) _ rfl HO2.out ⟨g,0,none⟩ 0 0 [] rfl rfl ?qd1 ?qd2 ?qd3 ?qd4 ?qd5 ?_))
      case qd1=>intro j u c;simp at c
      case qd2=>intro u hu;simp at hu
      case qd3=>unfold maxLen;omega
      case qd4=>omega
      case qd5=>exact s.out.size
      intro v4 w4 p d _ P;have HB4:Hid (Bl w w4):=s.out.grown d s.out.size (fun j c=>by have:=Hv2.out j c;have:=r.out.size;omega)
      have HO4:Hid (w4.ownsRow w.heap.size 9 1 v4 (R.take k ++ [nm] ++ R.drop k).length (em (R.take k ++ [nm] ++ R.drop k))):=by
       have e0:R.drop k=[]:=List.drop_eq_nil_of_le (by rw [HM.out];exact zT)
       have e1:(R.take k ++ [nm] ++ R.drop k).length=k+1:=by
        rw [e0,List.append_nil,List.length_append,List.length_take,HM.out,Nat.min_self];rfl
       have e2:em (R.take k ++ [nm] ++ R.drop k)=em (R.take k) ++ [.string nm]:=by rw [e0];simp [em]
       show World.ownsRow ..
       rw [e1,e2];exact p
      have B:=aa (kQ Z.out Y.out k);rw [HNm.out] at B;clear p d P;go_wp2_with fail
      go_roundg (n-(i+1))
      case measure=>omega
      case rel=>exact ⟨i+1,_,by omega,rfl,by go_num,HO4.out,B.out,HB4.out⟩
     go_wp2_with (at_builtin;(refine wpList_append_own_at _ rfl _ _ 51 rfl w.heap.size 9 i0 _ 1 16 Tryz.underlying51 J T U V rfl (by decide) _ (k+1) _ rfl HO2.out ⟨g,k,none⟩ 0 (cp-k) [] rfl rfl ?qd1 ?qd2 ?qd3 ?qd4 ?qd5 ?_))
     case qd1=>intro j u c;simp at c
     case qd2=>intro u hu;simp at hu
     case qd3=>unfold maxLen;omega
     case qd4=>omega
     case qd5=>exact s.out.size
     intro v4 w4 p d _ P;have HB4:Hid (Bl w w4):=s.out.grown d s.out.size (fun j c=>by have:=Hv2.out j c;have:=r.out.size;omega)
     have HO4:Hid (w4.ownsRow w.heap.size 9 1 v4 (R.take k ++ [nm] ++ R.drop k).length (em (R.take k ++ [nm] ++ R.drop k))):=by
      have e0:R.drop k=[]:=List.drop_eq_nil_of_le (by rw [HM.out];exact zT)
      have e1:(R.take k ++ [nm] ++ R.drop k).length=k+1:=by
       rw [e0,List.append_nil,List.length_append,List.length_take,HM.out,Nat.min_self];rfl
      have e2:em (R.take k ++ [nm] ++ R.drop k)=em (R.take k) ++ [.string nm]:=by rw [e0];simp [em]
      show World.ownsRow ..
      rw [e1,e2];exact p
     have B:=aa (kQ Z.out Y.out k);rw [HNm.out] at B;clear p d P;go_wp2_with fail
     go_roundg (n-(i+1))
     case measure=>omega
     case rel=>exact ⟨i+1,_,by omega,rfl,by go_num,HO4.out,B.out,HB4.out⟩
   have hne:(x.op != 2)=true:=by simpa using hop
   have Y:Hid ((l.getD i bH).op≠2):=by show _≠_;rw [HX.out];exact hop
   clear hop K;go_wp2_with fail
   go_roundg (n-(i+1))
   case measure=>omega
   case rel=>exact ⟨i+1,R,by omega,rfl,by go_num,HO.out,BT Z.out Y.out,HW.out⟩
  have hie:i=n:=by omega
  subst hie;clear K;go_wp2_with fail;go_ret;exact ⟨⟨_,R,rfl,HO.out,Z.out⟩,HW.out⟩
end Go.Proofs.YthlhjjabkgpenaaGreatDoor
