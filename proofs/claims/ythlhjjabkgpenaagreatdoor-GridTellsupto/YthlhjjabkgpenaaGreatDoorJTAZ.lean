/- A block of so many val -/
import Derived.Test.YthlhjjabkgpenaaGreatDoorJTAV
import Derived.Test.YthlhjjabkgpenaaGreatDoorJTAY
namespace Go.Proofs.YthlhjjabkgpenaaGreatDoor
open ChangeShapes WideShapes ChangeAt RowKit
set_option maxRecDepth 99999
set_option maxHeartbeats 0
def dN (w:World) (g n T:Nat) (f:Nat→Value):Prop:=w.heap[g]?=some (.cells ((List.range n).map f).toArray T (0,0))
theorem dN.lt {w:World} {g n T:Nat} {f:Nat→Value} (h:dN w g n T f):g<w.heap.size:=(zY h).1
theorem dN.cell {w:World} {g n T:Nat} {f:Nat→Value} (h:dN w g n T f) {j:Nat} (a:j<n):w.cell? ⟨g,j,none⟩=some (f j):=by
 rw [Lib.cell_of_heap h]
 simp [a]
theorem dN.frozen {w:World} {g n T:Nat} {f:Nat→Value} (h:dN w g n T f) (j:Nat):w.frozen? ⟨g,j,none⟩=false:=Lib.frozen_of_heap h j
theorem dN.same {w w':World} {g n T:Nat} {f:Nat→Value} (h:dN w g n T f) (a:w'.heap[g]?=w.heap[g]?):dN w' g n T f:=a.trans h
theorem dN.set {w:World} {g n T:Nat} {f f':Nat→Value} {v:Value} (h:dN w g n T f) {m:Nat} (b:∀ j,j<n→f' j=if j=m then v else f j):dN (w.setCell ⟨g,m,none⟩ v) g n T f':=by
 unfold dN at *;simp only [World.setCell,Array.getElem?_modify,if_true,h,Option.map_some,Option.some.injEq,Obj.cells.injEq,and_true,Option.isSome_none,Bool.false_eq_true,if_false];apply Array.ext_getElem?;intro j;rw [Array.getElem?_setIfInBounds]
 by_cases a:j<n
 ·by_cases e:m=j
  ·rw [if_pos e,if_pos (by simp;omega)]
   simp [a,b j a,e]
  have c:j≠m:=fun x=>e x.symm
  rw [if_neg e];simp only [List.getElem?_toArray,List.getElem?_map,List.getElem?_range a,Option.map_some,b j a,if_neg c]
 by_cases e:m=j
 ·rw [if_pos e,if_neg (by simp;omega),Array.getElem?_eq_none (by simp;omega)]
 rw [if_neg e,Array.getElem?_eq_none (by simp;omega),Array.getElem?_eq_none (by simp;omega)]
theorem dN.made (w:World) (n T:Nat) (z:Value):dN (w.alloc (.cells (madeCells #[z] n) T)) w.heap.size n T fun _=>z:=by
 unfold dN;have e:madeCells #[z] n=((List.range n).map fun _=>z).toArray:=by
  apply Array.ext
  ·simp [madeCells]
  intro i a b
  simp [madeCells,Nat.mod_one]
 rw [e];exact heap_alloc_new w _
theorem dN.off {w:World} {g n T b:Nat} {f:Nat→Value} {cs:Array Value} {t:Nat} {fr:Nat×Nat} (h:dN w g n T f) (a:w.heap[b]?=some (.cells cs t fr)) (c:t≠T):b≠g:=fun e=>by
 rw [e,h] at a;simp only [Option.some.injEq,Obj.cells.injEq] at a;exact c a.2.1.symm
theorem gn:(3:Nat)≠26:=by decide
theorem jq {w w':World} {base e size n:Nat} {v:Value} {a:List Value} {r:Option Nat} (h:w.ownsRow base e size v n a) (c:w.grownBy w' r) (d:∀ b,v.ownBlock=some b→r≠some b):w'.ownsRow base e size v n a:=by
 refine ⟨h.1,?_⟩
 rcases h.2 with h0 | ⟨g,cap,cur,rfl,h2,h3,h4⟩
 ·exact Or.inl h0
 exact Or.inr ⟨g,cap,cur,rfl,h2,(c.block g (zY h3).1 (fun e=>d g rfl e.symm)).trans h3,h4⟩
theorem bZ {w:World} {base e size n b:Nat} {v:Value} {i:List Value} (h:w.ownsRow base e size v n i) (d:v.ownBlock=some b):base≤b∧b<w.heap.size∧∃ a,w.heap[b]?=some (.cells a e (0,0)):=by
 rcases h.2 with ⟨rfl,-⟩ | ⟨g,cap,a,rfl,f,c,j⟩
 ·cases d
 cases d;exact ⟨f,(zY c).1,a,c⟩
theorem fp {w:World} {base e size n g j:Nat} {v x:Value} {a:List Value} (h:w.ownsRow base e size v n a) (b:v.ownBlock≠some g):(w.setCell ⟨g,j,none⟩ x).ownsRow base e size v n a:=by
 refine ⟨h.1,?_⟩
 rcases h.2 with h0 | ⟨g',cap,cur,rfl,h2,h3,h4⟩
 ·exact Or.inl h0
 exact Or.inr ⟨g',cap,cur,rfl,h2,by rw [ao _ _ _ _ _ (fun e=>b (by rw [←e];rfl))];exact h3,h4⟩
theorem aY.one {w w':World} {A:Option Addr} {c:Nat} {L:List Int} (h:aY w A c L) (l:∀ a,A=some a→w'.heap[a.block]?=w.heap[a.block]?):aY w' A c L:=by
 obtain ⟨f,d,g | ⟨b,cs,fr,rfl,i,k⟩⟩:=h
 ·exact ⟨f,d,Or.inl g⟩
 have e:=l _ rfl;exact ⟨f,d,Or.inr ⟨b,cs,fr,rfl,e.trans i,fun j m=>(World.cell?_of_block (a:=⟨b,j,none⟩) e).trans (k j m)⟩⟩
theorem ro {D:Nat→Dm} {p:List Int} {k:Nat} (a:leafB (D k).mem (D k).n (p.getD k 0).toNat=false) (b:byTo D p k<0∨(D (byTo D p k).toNat).solve<(D k).solve):byTo D p (k+1)=(k:Int):=by rw [byTo,if_pos ⟨a,b⟩]
theorem my {D:Nat→Dm} {p:List Int} {k:Nat} (h : ¬ (leafB (D k).mem (D k).n (p.getD k 0).toNat=false∧(byTo D p k<0∨(D (byTo D p k).toNat).solve<(D k).solve))):byTo D p (k+1)=byTo D p k:=by rw [byTo,if_neg h]
theorem mK (A0:Option Addr) (cap n:Nat) (D:Nat→Dm) (A:Nat→Option Addr) (C:Nat→Nat) (Ap:Option Addr) (Q:Nat) (L:List Int) (w:World) (N:InO D n L) (hM:bd w A0 cap n D A C) (hP:aO w Ap Q L):Rt 53 #[.agg #[.slice A0 n cap],.slice Ap L.length Q] w (.int .i64 (byTo D L n)):=by
 obtain ⟨hn1,hn4,-,hd⟩:=aw N.right;have hn':(n:Int)≤4:=by omega
 have HD:=aa hd;have HI:=aa N;have O:=N.len;have HM:=aa hM;obtain ⟨Lt,S | ⟨bp,op,rfl,I,i⟩⟩:=hP
 ·rw [S] at O;simp at O;omega
 rw [O] at Lt ⊢;have hcpI:(n:Int)≤(Q:Int):=by omega
 have HC:Hid (∀ j,j<n→w.cell? ⟨bp,op+j,none⟩=some (.int .i64 (L.getD j 0))):=fun j l=>i j (by omega)
 have v:=aA w A0 n cap 24;have hS:=aF w A0 n cap 24;have T:=aR w A0 n cap 24;obtain ⟨W,X⟩:=ax (aD w A0 n cap 24);rw [X] at v hS T;unfold aD at X;have m:=aa v;have HA:=aa T;have J:w.heap.size<W.heap.size:=by omega
 clear O i hd N hM v T
 go_enter Tryz.func53,Tryz.ntmps53
 go_wp2_with fail;clear X
 go_loopg [5,6] n (fun g s5 s6 wr => ∃ (k:Nat),k≤n∧g=n-k∧s5=.int .i64 (byTo D L k)∧s6=.int .i64 k∧Bl W wr)
 case atStart=>exact ⟨0,zU,rfl,rfl,rfl,zS⟩
 case round =>
  obtain ⟨k,hk,rfl,rfl,rfl,d⟩:=hrel;have B:=aa d
  by_cases f:k<n
  ·have hki:(k:Int)<(n:Int):=by omega
   have cw:wr.cell? ⟨w.heap.size,0,none⟩=some (.slice A0 n cap):=aL d J HA.out;have t:w.heap.size<wr.heap.size:=zW J d.size;have R:wr.cell? ⟨bp,op+k,none⟩=some (.int .i64 (L.getD k 0)):=((ae m.out d).cell (p:=⟨bp,op+k,none⟩) I).trans (HC.out k f);have hbpr:bp<wr.heap.size:=zW I (ae m.out d).size;obtain ⟨hcap,S | ⟨b,o,rfl,r⟩⟩:=HM.out.later (ae m.out d)
   ·omega
   have Z:(n:Int)≤(cap:Int):=by omega
   have Y:b<wr.heap.size:=r.1;obtain ⟨d0,d1,d2,d3⟩:=r.2 k f;have hp0:=HI.out.lo k f;have Lv:=HI.out.hi k f;obtain ⟨x,K⟩:∃ x:Nat,L.getD k 0=(x:Int):=⟨(L.getD k 0).toNat,by omega⟩
   rw [K] at R Lv;obtain ⟨hcm,S | ⟨bm,om,G,H⟩⟩:=d3
   ·have:=(HD.out k f).1;omega
   rw [G] at d2;have E:Hid (∀ w',Bl wr w'→Rt 81 #[.agg #[.string (D k).name,.int .i64 (D k).solve,.slice (some ⟨bm,om,none⟩) (D k).n (C k)],.int .i64 x] w' (.bool (leafB (D k).mem (D k).n x))):=fun w' U=>qP (D k) bm om (C k) x w' (HD.out k f).2 (by omega) (H.later U)
   have HB:Hid (∀ h,leafB (D k).mem (D k).n x=h→(h=true→byTo D L (k+1)=byTo D L k)∧(h=false→(byTo D L k<0→byTo D L (k+1)=(k:Int))∧∀ j:Nat,byTo D L k=(j:Int)→byTo D L (k+1)=if (D j).solve<(D k).solve then (k:Int) else (j:Int))):=fun h e=>by
    refine ⟨fun M=>?_,fun M=>⟨fun e3=>?_,fun j l=>?_⟩⟩
    ·refine my fun ⟨h1,_⟩=>?_
     rw [K,Int.toNat_natCast,e,M] at h1;cases h1
    ·exact ro (by rw [K,Int.toNat_natCast,e,M]) (Or.inl e3)
    by_cases s:(D j).solve<(D k).solve
    ·rw [if_pos s]
     exact ro (by rw [K,Int.toNat_natCast,e,M]) (Or.inr (by rw [l,Int.toNat_natCast];exact s))
    rw [if_neg s,←l];refine my fun ⟨_,h2⟩=>?_
    rw [l,Int.toNat_natCast] at h2
    omega
   obtain ⟨lf,z⟩:=ax (leafB (D k).mem (D k).n x);have u:=aa (HB.out lf z);rw [z] at E;have F:Hid (∀ w',Bl wr w'→∀ j,j<n→w'.cell? ⟨b,o+j*3+1,none⟩=some (.int .i64 (D j).solve)):=fun w' U j l=>((r.later U).2 j l).2.1
   have P:=aa (by_in D L k);clear K H r G d z HB
   go_upto_region 5 with fail
   go_cut [7] from 8 to 45 (fun s7 wx=>s7=.bool lf∧Bl wr wx)
   case first =>
    go_region_law ((go_simp;refine (E.out _ (by go_grown)).mono ?_;rintro e w3 ⟨rfl,y⟩;have V:=ae (W0:=wr) (by go_grown) y;clear y))
    all_goals go_wp2_with fail
    all_goals go_meet
    all_goals exact ⟨rfl,V⟩
   case rest =>
   obtain ⟨rfl,c⟩:=hcut;obtain ⟨w3,rfl⟩:∃ w3:World,w3=wc:=⟨_,rfl⟩;have q:=aa (ae B.out c);have cw3:=aL c t cw;have hsz3:w.heap.size<w3.heap.size:=zW t c.size;have y:b<w3.heap.size:=zW Y c.size;have ck3:=F.out w3 c k f;cases lf
   ·rcases P.out with hneg | ⟨j,l,hjk⟩
    ·have a:Hid (byTo D L (k+1)=(k:Int)):=(u.out.2 rfl).1 (by omega)
     rw [hneg];clear hneg c;go_wp2_with fail
     go_quiet (fail)
     go_wp2_with fail
     go_roundg (n-(k+1))
     case measure=>omega
     case rel=>exact ⟨k+1,by omega,rfl,by rw [a.out],by go_num,ac q.out _⟩
    have a:Hid (byTo D L (k+1)=if (D j).solve<(D k).solve then (k:Int) else (j:Int)):=(u.out.2 rfl).2 j l
    have cj3:=F.out w3 c j (by omega)
    have hjn:(j:Int)<(n:Int):=by omega
    have hj0:decide ((j:Int)<0)=false:=decide_eq_false (by omega)
    rw [l];clear l c
    by_cases s:(D j).solve<(D k).solve
    ·rw [if_pos s] at a
     have Lw:decide ((D j).solve<(D k).solve)=true:=decide_eq_true s;go_wp2_with fail
     go_quiet (fail)
     go_wp2_with fail
     go_roundg (n-(k+1))
     case measure=>omega
     case rel=>exact ⟨k+1,by omega,rfl,by rw [a.out],by go_num,ac q.out _⟩
    rw [if_neg s] at a;have Lw:decide ((D j).solve<(D k).solve)=false:=decide_eq_false s;go_wp2_with fail
    go_quiet (fail)
    go_wp2_with fail
    go_roundg (n-(k+1))
    case measure=>omega
    case rel=>exact ⟨k+1,by omega,rfl,by rw [a.out],by go_num,ac q.out _⟩
   have a:Hid (byTo D L (k+1)=byTo D L k):=u.out.1 rfl;generalize byTo D L k=bk at a;clear c;go_wp2_with fail
   go_quiet (fail)
   go_wp2_with fail
   go_roundg (n-(k+1))
   case measure=>omega
   case rel=>exact ⟨k+1,by omega,rfl,by rw [a.out],by go_num,ac q.out _⟩
  have Lu:k=n:=by omega
  subst Lu;clear d;go_wp2_with fail;go_ret;exact ⟨rfl,ae m.out B.out⟩
theorem th (p:Nat→Bool):∀ n,p n=false→∃ k,k≤n∧p k=false∧∀ t,t<k→p t=true:=by
 intro n
 induction n with
 | zero=>intro h;exact ⟨0,zT,h,fun t b=>absurd b (Nat.not_lt_zero _)⟩
 | succ n ih =>
  intro h
  by_cases e:∃ j,j≤n∧p j=false
  ·obtain ⟨j,l,a⟩:=e
   clear ih;have q:∀ m j,j≤m→p j=false→∃ k,k≤j∧p k=false∧∀ t,t<k→p t=true:=by
    intro m
    induction m with
    | zero=>intro j l a;exact ⟨j,zT,a,fun t b=>by omega⟩
    | succ m ih =>
     intro j l a
     by_cases d:∃ i,i<j∧p i=false
     ·obtain ⟨i,r,f⟩:=d
      obtain ⟨k,g,c,o⟩:=ih i (by omega) f
      exact ⟨k,by omega,c,o⟩
     refine ⟨j,zT,a,fun t b=>?_⟩
     cases hp:p t
     ·exact absurd ⟨t,b,hp⟩ d
     rfl
   obtain ⟨k,f,g,c⟩:=q j j (zT) a;exact ⟨k,by omega,g,c⟩
  refine ⟨n+1,zT,h,fun t b=>?_⟩
  cases hp:p t
  ·exact absurd ⟨t,by omega,hp⟩ e
  rfl
theorem oe (x:ByteArray):Op.bytesLess x.toList x.toList=false:=by
 rw [bytesLess_eq];exact decide_eq_false (List.lt_irrefl _)
theorem CX {N:List ByteArray} (B:∀ j,1≤j→j<N.length→fj N j=false) (x:ByteArray) (S:Nat→ByteArray) (q:S=fun j=>if j<N.length then N.getD j iC else x) :
  (decide (Lib.bsGo (fun t=>Op.bytesLess (S t).toList x.toList) N.length 0 N.length<N.length∧S (Lib.bsGo (fun t=>Op.bytesLess (S t).toList x.toList) N.length 0 N.length)=x)=decide (0≤bT N x)) ∧
  (0≤bT N x→(Lib.bsGo (fun t=>Op.bytesLess (S t).toList x.toList) N.length 0 N.length:Int)=bT N x):=by
 have d:=E8 B;have b:∀ j,j<N.length→S j=N.getD j iC:=fun j r=>by rw [q];exact if_pos r
 have s:∀ j,N.length≤j→S j=x:=fun j r=>by rw [q];exact if_neg (by omega)
 obtain ⟨k,y,v,p⟩:=th (fun t=>Op.bytesLess (S t).toList x.toList) N.length (by show Op.bytesLess (S N.length).toList x.toList=false;rw [s _ (zT)];exact oe x)
 have a:Op.bytesLess (S k).toList x.toList=false:=v;have l:∀ t,t<k→Op.bytesLess (S t).toList x.toList=true:=p;have w:∀ t,k≤t→Op.bytesLess (S t).toList x.toList=false:=by
  intro t C
  by_cases e:N.length≤t
  ·rw [s t e];exact oe x
  by_cases u:t=k
  ·rw [u];exact a
  rw [b t (by omega),bytesLess_eq]
  rw [b k (by omega),bytesLess_eq] at a
  refine decide_eq_false fun h=>of_decide_eq_false a (List.lt_trans (d k t (by omega) (by omega)) h)
 have m:Lib.bsGo (fun t=>Op.bytesLess (S t).toList x.toList) N.length 0 N.length=k:=Lib.bsGo_spec _ k p w _ _ _ (by omega) (zU) y
 rw [m]
 rcases where_cases N x with ⟨g,A⟩ | ⟨i,g,f,n⟩
 ·refine ⟨?_,fun h=>by omega⟩
  rw [g,decide_eq_false (show ¬ (0:Int)≤-1 by omega)]
  refine decide_eq_false fun h=>?_
  rw [b k h.1] at h;exact A k h.1 h.2
 have o:k=i:=by
  have z:k≤i:=by
   apply Nat.le_of_not_lt;intro h;have:=l i h;rw [b i f,n,oe] at this;cases this
  by_cases e:k=i
  ·exact e
  have c:=d k i (by omega) f
  rw [b k (by omega),bytesLess_eq] at a
  rw [n] at c;exact absurd c (of_decide_eq_false a)
 subst o;refine ⟨?_,fun _=>g.symm⟩
 rw [g,decide_eq_true (show (0:Int)≤(k:Int) by omega)]
 exact decide_eq_true ⟨f,by rw [b k f];exact n⟩
theorem sK (An:Option Addr) (a:Nat) (N:List ByteArray) (x:ByteArray) (w:World) (m:k9 w An a N) (n:∀ j,1≤j→j<N.length→fj N j=false) :
  Calls Tryz.prog 154 #[.slice An N.length a,.string x] w fun e w'=>(∃ i:Nat,e=.returned (.tuple #[.int .i64 i,.bool (decide (0≤bT N x))])∧(0≤bT N x→(i:Int)=bT N x))∧Bl w w':=by
 obtain ⟨p,g,r,k | ⟨b,o,rfl,s,l⟩⟩:=m
 ·subst k
  refine (Any2.slices_BinarySearch_string_empty Tryz.lays26 An a x w).mono ?_;rintro e w' ⟨rfl,rfl⟩;exact ⟨⟨0,rfl,fun h=>absurd h (by show ¬ (0:Int)≤bT [] x;unfold bT;show ¬ (0:Int)≤-1;omega)⟩,zS⟩
 obtain ⟨d,f⟩:=CX n x (fun j=>if j<N.length then N.getD j iC else x) rfl
 refine (Any2.slices_BinarySearch_string Tryz.lays26 b o N.length a (fun j=>if j<N.length then N.getD j iC else x) x w g (fun j c=>by simp only [if_pos c];exact l j c)).mono ?_
 rintro e w' ⟨rfl,q,rfl⟩;exact ⟨⟨_,by rw [d],f⟩,ac (zS) _⟩
def CH (N:List ByteArray) (C:List (Int×Int)) (x:ByteArray):Int×Int:=if 0≤bT N x then C.getD (bT N x).toNat noC else noC
def DK (N:List ByteArray) (x:ByteArray):Int:=if 0≤bT N x then 0 else 5
theorem xS (q r:Nat) (An:Option Addr) (E:Nat) (N:List ByteArray) (Ac:Option Addr) (S:Nat) (C:List (Int×Int)) (x:ByteArray) (w:World) (L:w.cell? ⟨q,0,none⟩=some (.slice An N.length E)) (B:w.cell? ⟨r,0,none⟩=some (.slice Ac C.length S)) (F:k9 w An E N) (T:dt w Ac S C) (t:dH N C=0) :
  Rt 153 #[.string x,.pointer (some ⟨q,0,none⟩),.pointer (some ⟨r,0,none⟩)] w (.tuple #[.agg #[.int .i64 (CH N C x).1,.int .i64 (CH N C x).2],errV (DK N x)]):=by
 obtain ⟨a,-,O⟩:=sQ t;have d:=fun w' (f:Bl w w')=>sK An E N x w' (F.later f) O
 have P:=World.block_lt_of_cell? _ _ B;have M:=World.block_lt_of_cell? _ _ L;simp only at P M
 by_cases p:0≤bT N x
 ·rw [decide_eq_true p] at d
  obtain ⟨i,U,I,-⟩:∃ i:Nat,bT N x=(i:Int)∧i<N.length∧N.getD i iC=x:=by
   rcases where_cases N x with ⟨Y,-⟩ | h
   ·omega
   exact h
  obtain ⟨-,-,y⟩:=T;obtain ⟨b,o,rfl,z⟩:=y.resolve_left (fun e=>by rw [e] at a;simp at a;omega)
  obtain ⟨c,H⟩:=ax (C.getD i noC);have k:CH N C x=c:=by unfold CH;rw [if_pos p,U];exact H
  have l:DK N x=0:=by unfold DK;rw [if_pos p]
  have R:=aa z;have V:Hid (∀ j:Nat,(0≤bT N x→(j:Int)=bT N x)→j=i):=fun j u=>by have:=u p;omega
  have D:=aa H;have A:(i:Int)<(C.length:Int):=by omega
  rw [k,l,errV_zero];obtain ⟨m,K⟩:=ax C.length;have W:=aa K;rw [K] at B A;clear t F O U k l y z p H K I a
  go_enter Tryz.func153,Tryz.ntmps153
  go_wp2_with fail;refine (d _ (by go_grown)).mono ?_
  rintro e w1 ⟨⟨j,rfl,u⟩,f⟩;have J:=V.out j u;subst J;obtain ⟨s,G⟩:=cB f;have Q:=di f
  simp at Q
  have g:Bl w w1:=ae (by go_grown) f
  clear f;obtain ⟨c0,c1⟩:=R.out.2 j (by rw [W.out];omega)
  rw [D.out] at c0 c1;have n:=aa g;have X:b<w.heap.size:=R.out.1;clear g d L u;go_wp2_with fail;refine bodyPost_ret (v:=.tuple #[.agg #[.int .i64 c.1,.int .i64 c.2],.nilIface]) (by simp [results,Tryz.results153,go_sem,s]) rfl ⟨rfl,?_⟩
  exact ((n.out.setCell (zT) _).setCell (zT) _)
 rw [decide_eq_false p] at d;have k:CH N C x=noC:=by unfold CH;rw [if_neg p]
 have l:DK N x=5:=by unfold DK;rw [if_neg p]
 rw [k,l,aj (by decide)]
 unfold noC;clear t F O k l T a
 go_enter Tryz.func153,Tryz.ntmps153
 go_wp2_with fail;refine (d _ (by go_grown)).mono ?_
 rintro e w1 ⟨⟨j,rfl,u⟩,f⟩;obtain ⟨s,G⟩:=cB f;have Q:=di f
 simp at Q
 have g:Bl w w1:=ae (by go_grown) f
 have n:=aa g;clear f g d L u p;go_wp2_with fail;refine bodyPost_ret (v:=.tuple #[.agg #[.int .i64 0,.int .i64 0],.iface 68 (.int .i64 5)]) (by simp [results,Tryz.results153,go_sem,s]) rfl ⟨rfl,?_⟩
 first | exact n.out | exact ((n.out.setCell (zT) _).setCell (zT) _)
def CK (fn q r:Nat) (w:World) (N:List ByteArray) (C:List (Int×Int)):Prop := ∀ (x:ByteArray) (w':World),Bl w w'→Calls Tryz.prog fn #[.string x,.pointer (some ⟨q,0,none⟩),.pointer (some ⟨r,0,none⟩)] w' fun e w''=>e=.returned (.tuple #[.agg #[.int .i64 (CH N C x).1,.int .i64 (CH N C x).2],errV (DK N x)])∧Bl w' w''
def pE (N:List ByteArray) (C T:List (Int×Int)) (x:Nd):Int×Int:=if x.op=1 then eO x.n else if x.op=2 then CH N C x.name else pF x.op (T.getD x.left.toNat noC) (T.getD x.right.toNat noC)
def rL (N:List ByteArray) (x:Nd):Int:=if x.op=2 then DK N x.name else 0
theorem ud {N:List ByteArray} {C T:List (Int×Int)} {x:Nd} (h:x.op=1):pE N C T x=eO x.n∧rL N x=0:=by unfold pE rL;rw [if_pos h,if_neg (by omega)];exact ⟨rfl,rfl⟩
theorem rN {N:List ByteArray} {C T:List (Int×Int)} {x:Nd} (h:x.op=2):pE N C T x=CH N C x.name∧rL N x=DK N x.name:=by unfold pE rL;rw [if_neg (by omega),if_pos h,if_pos h];exact ⟨rfl,rfl⟩
theorem yV {N:List ByteArray} {C T:List (Int×Int)} {x:Nd} (h:2<x.op):pE N C T x=pF x.op (T.getD x.left.toNat noC) (T.getD x.right.toNat noC)∧rL N x=0:=by unfold pE rL;rw [if_neg (by omega),if_neg (by omega),if_neg (by omega)];exact ⟨rfl,rfl⟩
theorem Ih {o:Int} {a b:Int×Int} (c:oq a) (d:oq b):(o=3→la 156 a.1 a.2 b.1 b.2 (pF o a b).1 (pF o a b).2 .nilIface)∧(o=4→la 155 a.1 a.2 b.1 b.2 (pF o a b).1 (pF o a b).2 .nilIface)∧(o=5→la 222 a.1 a.2 b.1 b.2 (pF o a b).1 (pF o a b).2 .nilIface)∧(o=6→la 223 a.1 a.2 b.1 b.2 (pF o a b).1 (pF o a b).2 .nilIface):=by
 refine ⟨?_,?_,?_,?_⟩ <;> rintro rfl
 ·exact yh _ _ _ _ c d
 ·exact zi _ _ _ _ c d
 ·exact Gd _ _ _ _ c d
 exact FX _ _ _ _ c d
theorem C8 {T:List (Int×Int)} (a:∀ c∈T,oq c) (i:Nat):oq (T.getD i noC):=by
 rw [zZ];cases h:T[i]? with
 | none=>exact Eq
 | some c=>exact a c (List.mem_of_getElem? h)
theorem B4 (L q r:Nat) (P:∀ (args:Array Value) (w:World),(callFunc L args).run Tryz.prog w=.ok (.enter L args) w) (N:List ByteArray) (C T:List (Int×Int)) (At:Option Addr) (O:Nat) (x:Nd) (w:World) (D:ndErr x T.length=0) (hn:T.length≤30) (M:dt w At O T) (A:∀ c∈T,oq c) (h:CK L q r w N C) :
  Rt 181 #[Ea x,.slice At T.length O,.func (.func L) #[] #[.pointer (some ⟨q,0,none⟩),.pointer (some ⟨r,0,none⟩)]] w (.tuple #[.agg #[.int .i64 (pE N C T x).1,.int .i64 (pE N C T x).2],errV (rL N x)]):=by
 rw [fJ];have Q:1≤x.op∧x.op≤6:=by
  unfold ndErr at D
  split at D
  ·cases D
  omega
 by_cases E:x.op=1
 ·obtain ⟨p,s⟩:=ud (N:=N) (C:=C) (T:=T) E
  rw [p,s,errV_zero,E];have I:=kg x.n;clear D M h p s E
  go_enter Tryz.func181,Tryz.ntmps181
  go_wp2_with fail;refine (I _).mono ?_;rintro e w1 ⟨rfl,d⟩;obtain ⟨g,j⟩:=cB d;have k:=di d
  simp at k
  have i:Bl w w1:=ae (by go_grown) d
  have f:=aa i;clear d i I;go_wp2_with fail;refine bodyPost_ret (v:=.tuple #[.agg #[.int .i64 (eO x.n).1,.int .i64 (eO x.n).2],.nilIface]) (by simp [results,Tryz.results181,go_sem,g]) rfl ⟨rfl,?_⟩
  exact ((f.out.setCell (by simp) _).setCell (by simp) _)
 by_cases F:x.op=2
 ·obtain ⟨p,s⟩:=rN (N:=N) (C:=C) (T:=T) F
  rw [p,s,F];have y:=h x.name;obtain ⟨c,H⟩:=ax (CH N C x.name);obtain ⟨V,z⟩:=ax (errV (DK N x.name));rw [H,z] at y;rw [H,z];clear D M h p s F H z
  go_enter Tryz.func181,Tryz.ntmps181
  go_wp2_with fail;refine (y _ (by go_grown)).mono ?_
  rintro e w1 ⟨rfl,d⟩;obtain ⟨g,j⟩:=cB d;have k:=di d
  simp at k
  have i:Bl w w1:=ae (by go_grown) d
  have f:=aa i;clear d i y;go_wp2_with fail;refine bodyPost_ret (v:=.tuple #[.agg #[.int .i64 c.1,.int .i64 c.2],V]) (by simp [results,Tryz.results181,go_sem,g]) rfl ⟨rfl,?_⟩
  exact ((f.out.setCell (by simp) _).setCell (by simp) _)
 obtain ⟨p,s⟩:=yV (N:=N) (C:=C) (T:=T) (x:=x) (by omega)
 obtain ⟨a1,a2,a3,a4⟩:=eI D (by omega)
 obtain ⟨a,W⟩:∃ a:Nat,x.left=a:=⟨x.left.toNat,by omega⟩
 obtain ⟨c,H⟩:∃ c:Nat,x.right=c:=⟨x.right.toNat,by omega⟩
 rw [p,s,errV_zero,W,H,Int.toNat_natCast,Int.toNat_natCast];obtain ⟨-,-,G⟩:=M;obtain ⟨b,o,rfl,l⟩:=G.resolve_left (fun e=>by rw [e] at a2;simp at a2;omega)
 obtain ⟨p3,p4,p5,p6⟩:=Ih (o:=x.op) (C8 A a) (C8 A c);obtain ⟨y0,y1⟩:=l.2 a (by omega)
 obtain ⟨z0,z1⟩:=l.2 c (by omega)
 have Y:=l.1;obtain ⟨u,S⟩:=ax (T.getD a noC);obtain ⟨v,U⟩:=ax (T.getD c noC);rw [S] at y0 y1 p3 p4 p5 p6 ⊢;rw [U] at z0 z1 p3 p4 p5 p6 ⊢;obtain ⟨ov,J⟩:=ax x.op;rw [J] at p3 p4 p5 p6 Q E F ⊢;obtain ⟨t,R⟩:=ax (pF ov u v);rw [R] at p3 p4 p5 p6 ⊢;unfold la at p3 p4 p5 p6;obtain ⟨m,hm⟩:=ax T.length;rw [hm] at hn a2 a4 ⊢;have X:(a:Int)<(m:Int):=by omega
 have Z:(c:Int)<(m:Int):=by omega
 have hmi:(m:Int)≤30:=by omega
 have K:ov=3∨ov=4∨ov=5∨ov=6:=by omega
 clear D h p s E F S U R l G A Q J a1 a3
 rcases K with rfl | rfl | rfl | rfl
 ·have B:=p3 rfl
  clear p3 p4 p5 p6
  go_enter Tryz.func181,Tryz.ntmps181
  go_wp2_with fail
  go_region_law ((go_simp;refine (B _).mono ?_;rintro e w1 ⟨rfl,d⟩;obtain ⟨g,j⟩:=cB d;have k:=di d;simp at k;have f:Hid (Bl w w1):=(ae (by go_grown) d);clear d))
  all_goals
   go_wp2_with fail;refine bodyPost_ret (v:=.tuple #[.agg #[.int .i64 t.1,.int .i64 t.2],.nilIface]) (by simp [results,Tryz.results181,go_sem,g]) rfl ⟨rfl,?_⟩
   exact ((f.out.setCell (by simp) _).setCell (by simp) _)
 ·have B:=p4 rfl
  clear p3 p4 p5 p6
  go_enter Tryz.func181,Tryz.ntmps181
  go_wp2_with fail
  go_region_law ((go_simp;refine (B _).mono ?_;rintro e w1 ⟨rfl,d⟩;obtain ⟨g,j⟩:=cB d;have k:=di d;simp at k;have f:Hid (Bl w w1):=(ae (by go_grown) d);clear d))
  all_goals
   go_wp2_with fail;refine bodyPost_ret (v:=.tuple #[.agg #[.int .i64 t.1,.int .i64 t.2],.nilIface]) (by simp [results,Tryz.results181,go_sem,g]) rfl ⟨rfl,?_⟩
   exact ((f.out.setCell (by simp) _).setCell (by simp) _)
 ·have B:=p5 rfl
  clear p3 p4 p5 p6
  go_enter Tryz.func181,Tryz.ntmps181
  go_wp2_with fail
  go_region_law ((go_simp;refine (B _).mono ?_;rintro e w1 ⟨rfl,d⟩;obtain ⟨g,j⟩:=cB d;have k:=di d;simp at k;have f:Hid (Bl w w1):=(ae (by go_grown) d);clear d))
  all_goals
   go_wp2_with fail;refine bodyPost_ret (v:=.tuple #[.agg #[.int .i64 t.1,.int .i64 t.2],.nilIface]) (by simp [results,Tryz.results181,go_sem,g]) rfl ⟨rfl,?_⟩
   exact ((f.out.setCell (by simp) _).setCell (by simp) _)
 have B:=p6 rfl;clear p3 p4 p5 p6
 go_enter Tryz.func181,Tryz.ntmps181
 go_wp2_with fail
 go_region_law ((go_simp;refine (B _).mono ?_;rintro e w1 ⟨rfl,d⟩;obtain ⟨g,j⟩:=cB d;have k:=di d;simp at k;have f:Hid (Bl w w1):=(ae (by go_grown) d);clear d))
 all_goals
  go_wp2_with fail;refine bodyPost_ret (v:=.tuple #[.agg #[.int .i64 t.1,.int .i64 t.2],.nilIface]) (by simp [results,Tryz.results181,go_sem,g]) rfl ⟨rfl,?_⟩
  exact ((f.out.setCell (by simp) _).setCell (by simp) _)
theorem GU (x y:Int):x.tdiv y=if (decide (x<0) != decide (y<0))=true then -(ab x / ab y) else ab x / ab y:=by
 unfold ab
 by_cases a:x<0 <;> by_cases h:y<0
 ·rw [if_neg (by simp [a,h]),if_pos a,if_pos h]
  rw [←Int.tdiv_eq_ediv_of_nonneg (by omega),Int.neg_tdiv,Int.tdiv_neg,Int.neg_neg]
 ·rw [if_pos (by simp [a,h]),if_pos a,if_neg h]
  rw [←Int.tdiv_eq_ediv_of_nonneg (by omega),Int.neg_tdiv,Int.neg_neg]
 ·rw [if_pos (by simp [a,h]),if_neg a,if_pos h]
  rw [←Int.tdiv_eq_ediv_of_nonneg (by omega),Int.tdiv_neg,Int.neg_neg]
 rw [if_neg (by simp [a,h]),if_neg a,if_neg h]
 rw [←Int.tdiv_eq_ediv_of_nonneg (by omega)]
theorem xn (ka na kb:Int) (w:World) (a:(ka == 2)=false) (b:(kb == 2)=false) (c:(ka == 0)=false) (d:(kb == 0)=false) :
  Rt 89 #[.agg #[.int .i64 ka,.int .i64 na],.agg #[.int .i64 kb,.int .i64 0]] w (.agg #[.int .i64 2,.int .i64 0]):=by
 go_enter Tryz.func89,Tryz.ntmps89
 go_wp2;go_returns;exact ⟨rfl,by go_grown⟩
theorem xm (ka na kb nb:Int) (w:World) (q:(ka == 2)=false) (r:(kb == 2)=false) (s:(ka == 0)=false) (t:(kb == 0)=false) (a1 : -1000000000000≤na) (a2:na≤1000000000000) (b1 : -1000000000000≤nb) (b2:nb≤1000000000000) (p:(nb == 0)=false) (o : ¬ nb=0) :
  Rt 89 #[.agg #[.int .i64 ka,.int .i64 na],.agg #[.int .i64 kb,.int .i64 nb]] w (.agg #[.int .i64 (eO (na.tdiv nb)).1,.int .i64 (eO (na.tdiv nb)).2]):=by
 obtain ⟨ax0,ax1⟩:=m6 a1 a2;obtain ⟨_,ay1⟩:=m6 b1 b2;have j:=u9 o;have c:=jz na;have d:=jz nb;have m:0≤ab na / ab nb:=Int.ediv_nonneg ax0 (by omega)
 have n:ab na / ab nb≤1000000000000:=Int.le_trans (Int.ediv_le_self _ ax0) ax1;rw [GU]
 by_cases a:(decide (na<0) != decide (nb<0))=true
 ·rw [if_pos a]
  have h:(decide (na<0) == decide (nb<0))=false:=by simpa using a
  clear a;have g:=jv (-(ab na / ab nb))
  go_enter Tryz.func89,Tryz.ntmps89
  go_wp2_with fail
  go_quiet (first | (go_at_call_of 118 na;exact Calls.quiet_of_same (c _ a1 a2)) | (go_at_call_of 118 nb;exact Calls.quiet_of_same (d _ b1 b2)))
  go_wp2_with fail;refine (g _).mono ?_;rintro e w1 ⟨rfl,b⟩;have k:Bl w w1:=Below.trans (ac (by go_grown) _) (b.mono (by show _≤(World.alloc _ _).heap.size;simp;omega))
  obtain ⟨f,l⟩:=cB b;have i:=di b
  simp at i
  go_wp2_with fail;refine bodyPost_ret (v:=.agg #[.int .i64 (eO (-(ab na / ab nb))).1,.int .i64 (eO (-(ab na / ab nb))).2]) (by simp [results,Tryz.results89,go_sem,f]) rfl ⟨rfl,?_⟩
  go_grown
 rw [if_neg a];have h:(decide (na<0) == decide (nb<0))=true:=by simpa using a
 clear a;have g:=jv (ab na / ab nb)
 go_enter Tryz.func89,Tryz.ntmps89
 go_wp2_with fail
 go_quiet (first | (go_at_call_of 118 na;exact Calls.quiet_of_same (c _ a1 a2)) | (go_at_call_of 118 nb;exact Calls.quiet_of_same (d _ b1 b2)))
 go_wp2_with fail;refine (g _).mono ?_;rintro e w1 ⟨rfl,b⟩;have k:Bl w w1:=Below.trans (ac (by go_grown) _) (b.mono (by show _≤(World.alloc _ _).heap.size;simp;omega))
 obtain ⟨f,l⟩:=cB b;have i:=di b
 simp at i
 go_wp2_with fail;refine bodyPost_ret (v:=.agg #[.int .i64 (eO (ab na / ab nb)).1,.int .i64 (eO (ab na / ab nb)).2]) (by simp [results,Tryz.results89,go_sem,f]) rfl ⟨rfl,?_⟩
 go_grown
theorem B6 (ka na kb nb:Int) (d:good ka na=true) (e:good kb nb=true):iK 89 #[.agg #[.int .i64 ka,.int .i64 na],.agg #[.int .i64 kb,.int .i64 nb]] (un ka na kb nb):=by
 obtain ⟨a1,a2⟩:=bO d;obtain ⟨b1,b2⟩:=bO e;intro w;unfold un fX
 by_cases b:ka=2∨kb=2
 ·rw [if_pos b]
  exact uG ka na kb nb w b
 rw [if_neg b]
 by_cases c:ka=0∨kb=0
 ·rw [if_pos (by simp;omega)]
  exact uF ka na kb nb w (fR (by omega)) (fR (by omega)) c
 rw [if_neg (by simp;omega)]
 unfold BK
 by_cases a:nb=0
 ·subst a
  rw [if_pos rfl];exact xn ka na kb w (fR (by omega)) (fR (by omega)) (ks (by omega)) (ks (by omega))
 rw [if_neg a];exact xm ka na kb nb w (fR (by omega)) (fR (by omega)) (ks (by omega)) (ks (by omega)) a1 a2 b1 b2 (ks a) a
end Go.Proofs.YthlhjjabkgpenaaGreatDoor
