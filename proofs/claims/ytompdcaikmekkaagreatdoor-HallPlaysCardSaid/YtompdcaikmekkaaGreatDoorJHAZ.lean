/- What is written, by nu -/
import Derived.Test.YtompdcaikmekkaaGreatDoorShelfG
import Derived.Laws.Cover1
import Derived.Test.YtompdcaikmekkaaGreatDoorJHAT
namespace Go.Proofs.YtompdcaikmekkaaGreatDoor
open ChangeShapes WideShapes ChangeAt RowKit
set_option maxRecDepth 99999
set_option maxHeartbeats 0
def dG (D:Nat→Dm) (n:Nat) (L:List (Int×Int)) (e:En):List (Int×Int):=L.set (numI D e.pl n).toNat (1,e.n)
def wrV (D:Nat→Dm) (n:Nat) (l:List En):List (Int×Int):=l.foldl (dG D n) (List.replicate (prodN D n) (0,0))
theorem tj (D:Nat→Dm) (n:Nat):∀ (l:List En) (L:List (Int×Int)),(l.foldl (dG D n) L).length=L.length
 | [],_=>rfl
 | e :: r,L=>by rw [List.foldl_cons,tj D n r];unfold dG;rw [List.length_set]
theorem nN (D:Nat→Dm) (n:Nat) (l:List En):(wrV D n l).length=prodN D n:=by unfold wrV;rw [tj];simp
theorem Iv (D:Nat→Dm) (n:Nat) (L:List (Int×Int)) (xs:List EnL) {k:Nat} (h:k<xs.length):((lE xs).take (k+1)).foldl (dG D n) L=dG D n (((lE xs).take k).foldl (dG D n) L) (xs.getD k aJ).e:=by
 have a:k<(lE xs).length:=by rw [a8];exact h
 rw [List.take_succ_eq_append_getElem a,List.foldl_append];have e:(lE xs)[k]=(xs.getD k aJ).e:=by rw [←lE_at,zZ,zX a];rfl
 rw [e]
 rfl
theorem BU {x:Int} (h:cT x=true):b5 (1,x):=by
 have hn : -1000000≤x∧x≤1000000:=by simpa [cT] using h
 exact decide_eq_true (Or.inl ⟨rfl,by omega,by omega⟩)
theorem jw (n:Nat) (f:n≤3000) (w:World):(Instr.makeSlice 45 (.int .i64 (n:Int)) (.int .i64 (n:Int))).run Tryz.prog w=.ok (.slice (some ⟨w.heap.size,0,none⟩) n n) (w.alloc (.cells (madeCells #[.int .i64 0,.int .i64 0] (n*2)) 52)):=by
 obtain ⟨i0,a,b,c,d⟩:=info_parts Tryz.infoCe;have e:=run_make (P:=Tryz.prog) w 45 52 i0 _ Tryz.underlying45 a b .i64 .i64 n n (by omega) (Int.le_refl _) (by rw [d];omega) (by omega)
 simp only [Int.toNat_natCast,c] at e;exact e
theorem qH (w:World) (n:Nat):bT (w.alloc (.cells (madeCells #[.int .i64 0,.int .i64 0] (n*2)) 52)) w.heap.size (List.replicate n (0,0)):=by
 refine ⟨_,heap_alloc_new w _,fun k c=>?_⟩
 have a:k<n:=by simpa using c
 have b:(List.replicate n ((0:Int),(0:Int))).getD k noC=(0,0):=by simp [List.getD,a]
 rw [b]
 constructor
 ·simp [madeCells,show k*2<n*2 by omega]
 simp [madeCells,show k*2+1<n*2 by omega,show (k*2+1) % 2=1 by omega]
theorem wR (A0:Option Addr) (cap n:Nat) (D:Nat→Dm) (A:Nat→Option Addr) (C:Nat→Nat) (AE:Option Addr) (d:Nat) (xs:List EnL) (w:World) (g:aY w A0 cap n D A C) (f:b6 w AE d xs) (i:entsErr D n (lE xs)≠0) :
  Calls Tryz.prog 37 #[.agg #[.slice A0 n cap],.slice AE xs.length d] w fun e w'=>(∃ A' c',e=.returned (.tuple #[.slice A' 0 c',.iface 63 (.int .i64 (entsErr D n (lE xs)))]))∧Bl w w':=by
 have a:=aq w A0 n cap 24;have h:=kv A0 cap n D A C AE d xs (ay w A0 n cap 24) (g.later a) (f.later a);have c:=aa a;rw [ak i] at h;clear i g f a;generalize entsErr D n (lE xs)=ee at h;generalize xs.length=N at h
 go_enter Tryz.func37,Tryz.ntmps37
 go_wp2_with fail;refine h.mono ?_;rintro e w1 ⟨rfl,b⟩;have j:=aa (ae c.out b);clear b h;go_wp2_with fail
 go_ret2
 exact ⟨⟨none,0,rfl⟩,j.out⟩
def DG (w:World) (A:Option Addr) (c:Nat) (N:List ByteArray):Prop:=N.length≤c∧N.length<4611686018427387904∧c≤9223372036854775807∧(N=[]∨∃ b o,A=some ⟨b,o,none⟩∧b<w.heap.size∧∀ j,j<N.length→w.cell? ⟨b,o+j,none⟩=some (.string (N.getD j jf)))
theorem DG.later {w w':World} {A:Option Addr} {c:Nat} {N:List ByteArray} (h:DG w A c N) (i:Bl w w'):DG w' A c N:=by
 obtain ⟨d,e,f,a | ⟨b,o,a,g,k⟩⟩:=h
 ·exact ⟨d,e,f,Or.inl a⟩
 exact ⟨d,e,f,Or.inr ⟨b,o,a,zW g i.size,fun j l=>aD i g (k j l)⟩⟩
theorem vt (An:Option Addr) (cn:Nat) (N:List ByteArray) (Ac:Option Addr) (cc:Nat) (C:List (Int×Int)) (w:World) (hN:DG w An cn N) (hC:dw w Ac cc C) :
  Rt 143 #[.slice An N.length cn,.slice Ac C.length cc] w (errV (dO N C)):=by
 by_cases c:C.length=N.length
 case neg =>
  have hb:((C.length:Int) != (N.length:Int))=true:=by simp;omega
  rw [tO c,ak (by decide)]
  clear c hN hC
  go_enter Tryz.func143,Tryz.ntmps143
  go_wp2_with fail;go_ret;exact ⟨rfl,zS⟩
 obtain ⟨-,z,-,I⟩:=hN;obtain ⟨-,-,G⟩:=hC;obtain ⟨n,t⟩:=aA N.length;have l:=aa t;have f:=aa (c.trans t);rw [c,t];rw [t] at z 
 by_cases h0:n=0
 ·subst h0
  rw [sf (N:=N) (C:=C) c (fun j r=>by have:=f.out;omega) (fun j _ r=>by omega),errV_zero]
  clear I G c t z
  go_enter Tryz.func143,Tryz.ntmps143
  go_wp2_with fail;refine wp_loop_rounds 1 ?_;rw [rounds_succ];go_wp2_with fail;refine wp_loop_rounds 1 ?_;rw [rounds_succ];go_wp2_with fail;go_ret;exact ⟨rfl,zS⟩
 obtain ⟨b,o,rfl,H⟩:=G.resolve_left (fun e=>by rw [e] at c;simp at c;omega)
 obtain ⟨bn,on,rfl,K,J⟩:=I.resolve_left (fun e=>by rw [e] at t;simp at t;omega)
 have X:=aa H;have Z:=aa J;have hni:(n:Int)<4611686018427387904:=by omega
 have hn0:0<(n:Int):=by omega
 clear c t H J z
 go_enter Tryz.func143,Tryz.ntmps143
 go_wp2_with fail
 go_loopg [17] n (fun g s17 wr => ∃ (k:Nat),k≤n∧g=n-k∧s17=.int .i64 k∧(∀ j,j<k→gy C j=false)∧Bl w wr)
 case atStart=>exact ⟨0,zU,rfl,rfl,fun j r=>absurd r (Nat.not_lt_zero j),zS⟩
 case round =>
  obtain ⟨k,hk,rfl,rfl,p,d⟩:=hrel;have D:=aa p;have P:=aa d;have hbl:b<w.heap.size:=X.out.1;have hsz:=d.size;clear p d
  by_cases M:k<n
  ·have L:(k:Int)<(n:Int):=by omega
   obtain ⟨x0,x1⟩:=(X.out.later P.out).2 k (by rw [f.out];exact M)
   have a:=qL (C.getD k noC).1 (C.getD k noC).2;obtain ⟨kk,A⟩:=aA ((C.getD k noC).1);obtain ⟨nn,B⟩:=aA ((C.getD k noC).2);have Y:Hid (gy C k = !(good kk nn)):=by show _=_;unfold gy;rw [A,B]
   rw [A] at x0 a;rw [B] at x1 a;clear A B;cases hg:good kk nn
   ·rw [hg] at a
    have F:Hid (dO N C=1):=zv (by rw [f.out,l.out]) (i:=k) (by rw [f.out];exact M) (by rw [Y.out,hg];rfl)
    rw [if_neg (by decide)] at a
    clear hg;go_wp2_with fail;refine (a _).mono ?_;rintro e w1 ⟨rfl,m⟩;have u:Hid (Bl w w1):=ae P.out (ae (by go_grown) m)
    clear m a;go_wp2_with fail;go_ret;exact ⟨by rw [F.out];rfl,u.out⟩
   rw [hg,if_pos rfl] at a;have S:Hid (gy C k=false):=by show _=_;rw [Y.out,hg];rfl
   clear hg;go_wp2_with fail;refine (a _).mono ?_;rintro e w1 ⟨rfl,m⟩;have u:Hid (Bl w w1):=ae P.out (ae (by go_grown) m)
   clear m a;go_wp2_with fail
   go_roundg (n-(k+1))
   case measure=>omega
   case rel=>exact ⟨k+1,by omega,rfl,by go_num,fun j r=>by rcases Nat.lt_succ_iff_lt_or_eq.1 r with h | h;exact D.out j h;rw [h];exact S.out,u.out⟩
  have U:k=n:=by omega
  subst U;have s:Hid (∀ j,j<C.length→gy C j=false):=fun j r=>D.out j (by have:=f.out;omega)
  go_wp2_with fail
  go_loopg [8] k (fun g s8 ws => ∃ (i:Nat),i<k∧g=k-i∧s8=.int .i64 ((i:Int)+1)∧(∀ j,1≤j→j<i+1→fK N j=false)∧Bl w ws)
  case atStart=>exact ⟨0,by omega,rfl,rfl,fun j Q h2=>by omega,P.out⟩
  case round =>
   obtain ⟨i,hi,rfl,rfl,p,d⟩:=hrel;have E:=aa p;have HV:=aa d;clear p
   by_cases q:i+1<k
   ·have L:(i:Int)+1<(k:Int):=by omega
    have c1:=aD d K (Z.out (i+1) (by rw [l.out];exact q))
    have c0:=aD d K (Z.out i (by rw [l.out];omega))
    obtain ⟨x,V⟩:=aA (N.getD (i+1) jf);obtain ⟨y,W⟩:=aA (N.getD i jf);have O:Hid (fK N (i+1)=(Op.bytesLess x.toList y.toList || x.toList == y.toList)):=by show _=_;unfold fK;rw [V,Nat.add_sub_cancel,W]
    rw [V] at c1;rw [W] at c0;have hsub:(i:Int)+1-1=(i:Int):=by omega
    have hto:((i:Int)+1).toNat=i+1:=by omega
    clear V W d;cases ht:(Op.bytesLess x.toList y.toList || x.toList == y.toList)
    ·have R:Hid (fK N (i+1)=false):=by show _=_;rw [O.out,ht]
     clear O;go_wp2_with fail
     go_quiet (fail)
     have v:Hid (Bl w (wr.drewN nq)):=ac HV.out _;go_wp2_with fail
     go_roundg (k-(i+1))
     case measure=>omega
     case rel=>exact ⟨i+1,q,rfl,by go_num,fun j Q r=>by rcases Nat.lt_succ_iff_lt_or_eq.1 r with h | h;exact E.out j Q h;rw [h];exact R.out,v.out⟩
    have F:Hid (dO N C=7):=zw (by rw [f.out,l.out]) s.out (i:=i+1) (by omega) (by rw [l.out];exact q) (by rw [O.out,ht])
    clear O;go_wp2_with fail
    go_quiet (fail)
    have v:Hid (Bl w (wr.drewN nq)):=ac HV.out _;go_wp2_with fail;go_ret;exact ⟨by rw [F.out];rfl,v.out⟩
   have T:k=i+1:=by omega
   have F:Hid (dO N C=0):=sf (by rw [f.out,l.out]) s.out (fun j Q r=>E.out j Q (by have:=l.out;omega))
   have L : ¬ (i:Int)+1<(k:Int):=by omega
   clear T;go_wp2_with fail;go_ret;exact ⟨by rw [F.out];rfl,HV.out⟩
theorem t7 (p:Nat→Bool):∀ n,p n=false→∃ k,k≤n∧p k=false∧∀ t,t<k→p t=true:=by
 intro n
 induction n with
 | zero=>intro h;exact ⟨0,zT,h,fun t b=>absurd b (Nat.not_lt_zero _)⟩
 | succ n ih =>
  intro h
  by_cases e:∃ j,j≤n∧p j=false
  ·obtain ⟨j,l,a⟩:=e
   clear ih;have q:∀ m j,j≤m→p j=false→∃ k,k≤j∧p k=false∧∀ t,t<k→p t=true:=by
    intro m
    induction m with
    | zero=>intro j l a;exact ⟨j,zT,a,fun t b=>by omega⟩
    | succ m ih =>
     intro j l a
     by_cases d:∃ i,i<j∧p i=false
     ·obtain ⟨i,r,f⟩:=d
      obtain ⟨k,g,c,o⟩:=ih i (by omega) f
      exact ⟨k,by omega,c,o⟩
     refine ⟨j,zT,a,fun t b=>?_⟩
     cases hp:p t
     ·exact absurd ⟨t,b,hp⟩ d
     rfl
   obtain ⟨k,f,g,c⟩:=q j j (zT) a;exact ⟨k,by omega,g,c⟩
  refine ⟨n+1,zT,h,fun t b=>?_⟩
  cases hp:p t
  ·exact absurd ⟨t,by omega,hp⟩ e
  rfl
theorem pd (x:ByteArray):Op.bytesLess x.toList x.toList=false:=by
 rw [bytesLess_eq];exact decide_eq_false (List.lt_irrefl _)
theorem D5 {N:List ByteArray} (B:∀ j,1≤j→j<N.length→fK N j=false) (x:ByteArray) (S:Nat→ByteArray) (q:S=fun j=>if j<N.length then N.getD j jf else x) :
  (decide (Lib.bsGo (fun t=>Op.bytesLess (S t).toList x.toList) N.length 0 N.length<N.length∧S (Lib.bsGo (fun t=>Op.bytesLess (S t).toList x.toList) N.length 0 N.length)=x)=decide (0≤bZ N x)) ∧
  (0≤bZ N x→(Lib.bsGo (fun t=>Op.bytesLess (S t).toList x.toList) N.length 0 N.length:Int)=bZ N x):=by
 have d:=F5 B;have b:∀ j,j<N.length→S j=N.getD j jf:=fun j r=>by rw [q];exact if_pos r
 have s:∀ j,N.length≤j→S j=x:=fun j r=>by rw [q];exact if_neg (by omega)
 obtain ⟨k,y,v,p⟩:=t7 (fun t=>Op.bytesLess (S t).toList x.toList) N.length (by show Op.bytesLess (S N.length).toList x.toList=false;rw [s _ (zT)];exact pd x)
 have a:Op.bytesLess (S k).toList x.toList=false:=v;have l:∀ t,t<k→Op.bytesLess (S t).toList x.toList=true:=p;have w:∀ t,k≤t→Op.bytesLess (S t).toList x.toList=false:=by
  intro t C
  by_cases e:N.length≤t
  ·rw [s t e];exact pd x
  by_cases u:t=k
  ·rw [u];exact a
  rw [b t (by omega),bytesLess_eq]
  rw [b k (by omega),bytesLess_eq] at a
  refine decide_eq_false fun h=>of_decide_eq_false a (List.lt_trans (d k t (by omega) (by omega)) h)
 have m:Lib.bsGo (fun t=>Op.bytesLess (S t).toList x.toList) N.length 0 N.length=k:=Lib.bsGo_spec _ k p w _ _ _ (by omega) (zU) y
 rw [m]
 rcases where_cases N x with ⟨g,A⟩ | ⟨i,g,f,n⟩
 ·refine ⟨?_,fun h=>by omega⟩
  rw [g,decide_eq_false (show ¬ (0:Int)≤-1 by omega)]
  refine decide_eq_false fun h=>?_
  rw [b k h.1] at h;exact A k h.1 h.2
 have o:k=i:=by
  have z:k≤i:=by
   apply Nat.le_of_not_lt;intro h;have:=l i h;rw [b i f,n,pd] at this;cases this
  by_cases e:k=i
  ·exact e
  have c:=d k i (by omega) f
  rw [b k (by omega),bytesLess_eq] at a
  rw [n] at c;exact absurd c (of_decide_eq_false a)
 subst o;refine ⟨?_,fun _=>g.symm⟩
 rw [g,decide_eq_true (show (0:Int)≤(k:Int) by omega)]
 exact decide_eq_true ⟨f,by rw [b k f];exact n⟩
theorem tH (An:Option Addr) (a:Nat) (N:List ByteArray) (x:ByteArray) (w:World) (m:DG w An a N) (n:∀ j,1≤j→j<N.length→fK N j=false) :
  Calls Tryz.prog 146 #[.slice An N.length a,.string x] w fun e w'=>(∃ i:Nat,e=.returned (.tuple #[.int .i64 i,.bool (decide (0≤bZ N x))])∧(0≤bZ N x→(i:Int)=bZ N x))∧Bl w w':=by
 obtain ⟨p,g,r,k | ⟨b,o,rfl,s,l⟩⟩:=m
 ·subst k
  refine (Any2.slices_BinarySearch_string_empty Tryz.lays26 An a x w).mono ?_;rintro e w' ⟨rfl,rfl⟩;exact ⟨⟨0,rfl,fun h=>absurd h (by show ¬ (0:Int)≤bZ [] x;unfold bZ;show ¬ (0:Int)≤-1;omega)⟩,zS⟩
 obtain ⟨d,f⟩:=D5 n x (fun j=>if j<N.length then N.getD j jf else x) rfl
 refine (Any2.slices_BinarySearch_string Tryz.lays26 b o N.length a (fun j=>if j<N.length then N.getD j jf else x) x w g (fun j c=>by simp only [if_pos c];exact l j c)).mono ?_
 rintro e w' ⟨rfl,q,rfl⟩;exact ⟨⟨_,by rw [d],f⟩,ac (zS) _⟩
def DJ (N:List ByteArray) (C:List (Int×Int)) (x:ByteArray):Int×Int:=if 0≤bZ N x then C.getD (bZ N x).toNat noC else noC
def EX (N:List ByteArray) (x:ByteArray):Int:=if 0≤bZ N x then 0 else 5
theorem yZ (q r:Nat) (An:Option Addr) (E:Nat) (N:List ByteArray) (Ac:Option Addr) (S:Nat) (C:List (Int×Int)) (x:ByteArray) (w:World) (L:w.cell? ⟨q,0,none⟩=some (.slice An N.length E)) (B:w.cell? ⟨r,0,none⟩=some (.slice Ac C.length S)) (F:DG w An E N) (T:dw w Ac S C) (t:dO N C=0) :
  Rt 145 #[.string x,.pointer (some ⟨q,0,none⟩),.pointer (some ⟨r,0,none⟩)] w (.tuple #[.agg #[.int .i64 (DJ N C x).1,.int .i64 (DJ N C x).2],errV (EX N x)]):=by
 obtain ⟨a,-,O⟩:=tN t;have d:=fun w' (f:Bl w w')=>tH An E N x w' (F.later f) O
 have P:=World.block_lt_of_cell? _ _ B;have M:=World.block_lt_of_cell? _ _ L;simp only at P M
 by_cases p:0≤bZ N x
 ·rw [decide_eq_true p] at d
  obtain ⟨i,U,I,-⟩:∃ i:Nat,bZ N x=(i:Int)∧i<N.length∧N.getD i jf=x:=by
   rcases where_cases N x with ⟨Y,-⟩ | h
   ·omega
   exact h
  obtain ⟨-,-,y⟩:=T;obtain ⟨b,o,rfl,z⟩:=y.resolve_left (fun e=>by rw [e] at a;simp at a;omega)
  obtain ⟨c,H⟩:=aA (C.getD i noC);have k:DJ N C x=c:=by unfold DJ;rw [if_pos p,U];exact H
  have l:EX N x=0:=by unfold EX;rw [if_pos p]
  have R:=aa z;have V:Hid (∀ j:Nat,(0≤bZ N x→(j:Int)=bZ N x)→j=i):=fun j u=>by have:=u p;omega
  have D:=aa H;have A:(i:Int)<(C.length:Int):=by omega
  rw [k,l,errV_zero];obtain ⟨m,K⟩:=aA C.length;have W:=aa K;rw [K] at B A;clear t F O U k l y z p H K I a
  go_enter Tryz.func145,Tryz.ntmps145
  go_wp2_with fail;refine (d _ (by go_grown)).mono ?_
  rintro e w1 ⟨⟨j,rfl,u⟩,f⟩;have J:=V.out j u;subst J;obtain ⟨s,G⟩:=dj f;have Q:=dk f
  simp at Q
  have g:Bl w w1:=ae (by go_grown) f
  clear f;obtain ⟨c0,c1⟩:=R.out.2 j (by rw [W.out];omega)
  rw [D.out] at c0 c1;have n:=aa g;have X:b<w.heap.size:=R.out.1;clear g d L u;go_wp2_with fail;refine bodyPost_ret (v:=.tuple #[.agg #[.int .i64 c.1,.int .i64 c.2],.nilIface]) (by simp [results,Tryz.results145,go_sem,s]) rfl ⟨rfl,?_⟩
  exact ((n.out.setCell (zT) _).setCell (zT) _)
 rw [decide_eq_false p] at d;have k:DJ N C x=noC:=by unfold DJ;rw [if_neg p]
 have l:EX N x=5:=by unfold EX;rw [if_neg p]
 rw [k,l,ak (by decide)]
 unfold noC;clear t F O k l T a
 go_enter Tryz.func145,Tryz.ntmps145
 go_wp2_with fail;refine (d _ (by go_grown)).mono ?_
 rintro e w1 ⟨⟨j,rfl,u⟩,f⟩;obtain ⟨s,G⟩:=dj f;have Q:=dk f
 simp at Q
 have g:Bl w w1:=ae (by go_grown) f
 have n:=aa g;clear f g d L u p;go_wp2_with fail;refine bodyPost_ret (v:=.tuple #[.agg #[.int .i64 0,.int .i64 0],.iface 63 (.int .i64 5)]) (by simp [results,Tryz.results145,go_sem,s]) rfl ⟨rfl,?_⟩
 first | exact n.out | exact ((n.out.setCell (zT) _).setCell (zT) _)
def DO (fn q r:Nat) (w:World) (N:List ByteArray) (C:List (Int×Int)):Prop := ∀ (x:ByteArray) (w':World),Bl w w'→Calls Tryz.prog fn #[.string x,.pointer (some ⟨q,0,none⟩),.pointer (some ⟨r,0,none⟩)] w' fun e w''=>e=.returned (.tuple #[.agg #[.int .i64 (DJ N C x).1,.int .i64 (DJ N C x).2],errV (EX N x)])∧Bl w' w''
def qs (N:List ByteArray) (C T:List (Int×Int)) (x:Nd):Int×Int:=if x.op=1 then eE x.n else if x.op=2 then DJ N C x.name else qt x.op (T.getD x.left.toNat noC) (T.getD x.right.toNat noC)
def sE (N:List ByteArray) (x:Nd):Int:=if x.op=2 then EX N x.name else 0
theorem uO {N:List ByteArray} {C T:List (Int×Int)} {x:Nd} (h:x.op=1):qs N C T x=eE x.n∧sE N x=0:=by unfold qs sE;rw [if_pos h,if_neg (by omega)];exact ⟨rfl,rfl⟩
theorem sG {N:List ByteArray} {C T:List (Int×Int)} {x:Nd} (h:x.op=2):qs N C T x=DJ N C x.name∧sE N x=EX N x.name:=by unfold qs sE;rw [if_neg (by omega),if_pos h,if_pos h];exact ⟨rfl,rfl⟩
theorem AA {N:List ByteArray} {C T:List (Int×Int)} {x:Nd} (h:2<x.op):qs N C T x=qt x.op (T.getD x.left.toNat noC) (T.getD x.right.toNat noC)∧sE N x=0:=by unfold qs sE;rw [if_neg (by omega),if_neg (by omega),if_neg (by omega)];exact ⟨rfl,rfl⟩
theorem Ja {o:Int} {a b:Int×Int} (c:pm a) (d:pm b):(o=3→lL 148 a.1 a.2 b.1 b.2 (qt o a b).1 (qt o a b).2 .nilIface)∧(o=4→lL 147 a.1 a.2 b.1 b.2 (qt o a b).1 (qt o a b).2 .nilIface)∧(o=5→lL 216 a.1 a.2 b.1 b.2 (qt o a b).1 (qt o a b).2 .nilIface)∧(o=6→lL 217 a.1 a.2 b.1 b.2 (qt o a b).1 (qt o a b).2 .nilIface):=by
 refine ⟨?_,?_,?_,?_⟩ <;> rintro rfl
 ·exact zo _ _ _ _ c d
 ·exact AY _ _ _ _ c d
 ·exact Hf _ _ _ _ c d
 exact GY _ _ _ _ c d
theorem Ee {T:List (Int×Int)} (a:∀ c∈T,pm c) (i:Nat):pm (T.getD i noC):=by
 rw [zZ];cases h:T[i]? with
 | none=>exact Fs
 | some c=>exact a c (List.mem_of_getElem? h)
theorem C9 (L q r:Nat) (P:∀ (args:Array Value) (w:World),(callFunc L args).run Tryz.prog w=.ok (.enter L args) w) (N:List ByteArray) (C T:List (Int×Int)) (At:Option Addr) (O:Nat) (x:Nd) (w:World) (D:ndErr x T.length=0) (hn:T.length≤30) (M:dw w At O T) (A:∀ c∈T,pm c) (h:DO L q r w N C) :
  Rt 175 #[Fd x,.slice At T.length O,.func (.func L) #[] #[.pointer (some ⟨q,0,none⟩),.pointer (some ⟨r,0,none⟩)]] w (.tuple #[.agg #[.int .i64 (qs N C T x).1,.int .i64 (qs N C T x).2],errV (sE N x)]):=by
 rw [gb];have Q:1≤x.op∧x.op≤6:=by
  unfold ndErr at D
  split at D
  ·cases D
  omega
 by_cases E:x.op=1
 ·obtain ⟨p,s⟩:=uO (N:=N) (C:=C) (T:=T) E
  rw [p,s,errV_zero,E];have I:=jr x.n;clear D M h p s E
  go_enter Tryz.func175,Tryz.ntmps175
  go_wp2_with fail;refine (I _).mono ?_;rintro e w1 ⟨rfl,d⟩;obtain ⟨g,j⟩:=dj d;have k:=dk d
  simp at k
  have i:Bl w w1:=ae (by go_grown) d
  have f:=aa i;clear d i I;go_wp2_with fail;refine bodyPost_ret (v:=.tuple #[.agg #[.int .i64 (eE x.n).1,.int .i64 (eE x.n).2],.nilIface]) (by simp [results,Tryz.results175,go_sem,g]) rfl ⟨rfl,?_⟩
  exact ((f.out.setCell (by simp) _).setCell (by simp) _)
 by_cases F:x.op=2
 ·obtain ⟨p,s⟩:=sG (N:=N) (C:=C) (T:=T) F
  rw [p,s,F];have y:=h x.name;obtain ⟨c,H⟩:=aA (DJ N C x.name);obtain ⟨V,z⟩:=aA (errV (EX N x.name));rw [H,z] at y;rw [H,z];clear D M h p s F H z
  go_enter Tryz.func175,Tryz.ntmps175
  go_wp2_with fail;refine (y _ (by go_grown)).mono ?_
  rintro e w1 ⟨rfl,d⟩;obtain ⟨g,j⟩:=dj d;have k:=dk d
  simp at k
  have i:Bl w w1:=ae (by go_grown) d
  have f:=aa i;clear d i y;go_wp2_with fail;refine bodyPost_ret (v:=.tuple #[.agg #[.int .i64 c.1,.int .i64 c.2],V]) (by simp [results,Tryz.results175,go_sem,g]) rfl ⟨rfl,?_⟩
  exact ((f.out.setCell (by simp) _).setCell (by simp) _)
 obtain ⟨p,s⟩:=AA (N:=N) (C:=C) (T:=T) (x:=x) (by omega)
 obtain ⟨a1,a2,a3,a4⟩:=e8 D (by omega)
 obtain ⟨a,W⟩:∃ a:Nat,x.left=a:=⟨x.left.toNat,by omega⟩
 obtain ⟨c,H⟩:∃ c:Nat,x.right=c:=⟨x.right.toNat,by omega⟩
 rw [p,s,errV_zero,W,H,Int.toNat_natCast,Int.toNat_natCast];obtain ⟨-,-,G⟩:=M;obtain ⟨b,o,rfl,l⟩:=G.resolve_left (fun e=>by rw [e] at a2;simp at a2;omega)
 obtain ⟨p3,p4,p5,p6⟩:=Ja (o:=x.op) (Ee A a) (Ee A c);obtain ⟨y0,y1⟩:=l.2 a (by omega)
 obtain ⟨z0,z1⟩:=l.2 c (by omega)
 have Y:=l.1;obtain ⟨u,S⟩:=aA (T.getD a noC);obtain ⟨v,U⟩:=aA (T.getD c noC);rw [S] at y0 y1 p3 p4 p5 p6 ⊢;rw [U] at z0 z1 p3 p4 p5 p6 ⊢;obtain ⟨ov,J⟩:=aA x.op;rw [J] at p3 p4 p5 p6 Q E F ⊢;obtain ⟨t,R⟩:=aA (qt ov u v);rw [R] at p3 p4 p5 p6 ⊢;unfold lL at p3 p4 p5 p6;obtain ⟨m,hm⟩:=aA T.length;rw [hm] at hn a2 a4 ⊢;have X:(a:Int)<(m:Int):=by omega
 have Z:(c:Int)<(m:Int):=by omega
 have hmi:(m:Int)≤30:=by omega
 have K:ov=3∨ov=4∨ov=5∨ov=6:=by omega
 clear D h p s E F S U R l G A Q J a1 a3
 rcases K with rfl | rfl | rfl | rfl
 ·have B:=p3 rfl
  clear p3 p4 p5 p6
  go_enter Tryz.func175,Tryz.ntmps175
  go_wp2_with fail
  go_region_law ((go_simp;refine (B _).mono ?_;rintro e w1 ⟨rfl,d⟩;obtain ⟨g,j⟩:=dj d;have k:=dk d;simp at k;have f:Hid (Bl w w1):=(ae (by go_grown) d);clear d))
  all_goals
   go_wp2_with fail;refine bodyPost_ret (v:=.tuple #[.agg #[.int .i64 t.1,.int .i64 t.2],.nilIface]) (by simp [results,Tryz.results175,go_sem,g]) rfl ⟨rfl,?_⟩
   exact ((f.out.setCell (by simp) _).setCell (by simp) _)
 ·have B:=p4 rfl
  clear p3 p4 p5 p6
  go_enter Tryz.func175,Tryz.ntmps175
  go_wp2_with fail
  go_region_law ((go_simp;refine (B _).mono ?_;rintro e w1 ⟨rfl,d⟩;obtain ⟨g,j⟩:=dj d;have k:=dk d;simp at k;have f:Hid (Bl w w1):=(ae (by go_grown) d);clear d))
  all_goals
   go_wp2_with fail;refine bodyPost_ret (v:=.tuple #[.agg #[.int .i64 t.1,.int .i64 t.2],.nilIface]) (by simp [results,Tryz.results175,go_sem,g]) rfl ⟨rfl,?_⟩
   exact ((f.out.setCell (by simp) _).setCell (by simp) _)
 ·have B:=p5 rfl
  clear p3 p4 p5 p6
  go_enter Tryz.func175,Tryz.ntmps175
  go_wp2_with fail
  go_region_law ((go_simp;refine (B _).mono ?_;rintro e w1 ⟨rfl,d⟩;obtain ⟨g,j⟩:=dj d;have k:=dk d;simp at k;have f:Hid (Bl w w1):=(ae (by go_grown) d);clear d))
  all_goals
   go_wp2_with fail;refine bodyPost_ret (v:=.tuple #[.agg #[.int .i64 t.1,.int .i64 t.2],.nilIface]) (by simp [results,Tryz.results175,go_sem,g]) rfl ⟨rfl,?_⟩
   exact ((f.out.setCell (by simp) _).setCell (by simp) _)
 have B:=p6 rfl;clear p3 p4 p5 p6
 go_enter Tryz.func175,Tryz.ntmps175
 go_wp2_with fail
 go_region_law ((go_simp;refine (B _).mono ?_;rintro e w1 ⟨rfl,d⟩;obtain ⟨g,j⟩:=dj d;have k:=dk d;simp at k;have f:Hid (Bl w w1):=(ae (by go_grown) d);clear d))
 all_goals
  go_wp2_with fail;refine bodyPost_ret (v:=.tuple #[.agg #[.int .i64 t.1,.int .i64 t.2],.nilIface]) (by simp [results,Tryz.results175,go_sem,g]) rfl ⟨rfl,?_⟩
  exact ((f.out.setCell (by simp) _).setCell (by simp) _)
def eR (w:World) (g n T:Nat) (f:Nat→Value):Prop:=w.heap[g]?=some (.cells ((List.range n).map f).toArray T (0,0))
theorem eR.lt {w:World} {g n T:Nat} {f:Nat→Value} (h:eR w g n T f):g<w.heap.size:=(zY h).1
theorem eR.cell {w:World} {g n T:Nat} {f:Nat→Value} (h:eR w g n T f) {j:Nat} (a:j<n):w.cell? ⟨g,j,none⟩=some (f j):=by
 rw [Lib.cell_of_heap h]
 simp [a]
theorem eR.frozen {w:World} {g n T:Nat} {f:Nat→Value} (h:eR w g n T f) (j:Nat):w.frozen? ⟨g,j,none⟩=false:=Lib.frozen_of_heap h j
theorem eR.same {w w':World} {g n T:Nat} {f:Nat→Value} (h:eR w g n T f) (a:w'.heap[g]?=w.heap[g]?):eR w' g n T f:=a.trans h
theorem eR.set {w:World} {g n T:Nat} {f f':Nat→Value} {v:Value} (h:eR w g n T f) {m:Nat} (b:∀ j,j<n→f' j=if j=m then v else f j):eR (w.setCell ⟨g,m,none⟩ v) g n T f':=by
 unfold eR at *;simp only [World.setCell,Array.getElem?_modify,if_true,h,Option.map_some,Option.some.injEq,Obj.cells.injEq,and_true,Option.isSome_none,Bool.false_eq_true,if_false];apply Array.ext_getElem?;intro j;rw [Array.getElem?_setIfInBounds]
 by_cases a:j<n
 ·by_cases e:m=j
  ·rw [if_pos e,if_pos (by simp;omega)]
   simp [a,b j a,e]
  have c:j≠m:=fun x=>e x.symm
  rw [if_neg e];simp only [List.getElem?_toArray,List.getElem?_map,List.getElem?_range a,Option.map_some,b j a,if_neg c]
 by_cases e:m=j
 ·rw [if_pos e,if_neg (by simp;omega),Array.getElem?_eq_none (by simp;omega)]
 rw [if_neg e,Array.getElem?_eq_none (by simp;omega),Array.getElem?_eq_none (by simp;omega)]
theorem eR.made (w:World) (n T:Nat) (z:Value):eR (w.alloc (.cells (madeCells #[z] n) T)) w.heap.size n T fun _=>z:=by
 unfold eR;have e:madeCells #[z] n=((List.range n).map fun _=>z).toArray:=by
  apply Array.ext
  ·simp [madeCells]
  intro i a b
  simp [madeCells,Nat.mod_one]
 rw [e];exact heap_alloc_new w _
theorem eR.off {w:World} {g n T b:Nat} {f:Nat→Value} {cs:Array Value} {t:Nat} {fr:Nat×Nat} (h:eR w g n T f) (a:w.heap[b]?=some (.cells cs t fr)) (c:t≠T):b≠g:=fun e=>by
 rw [e,h] at a;simp only [Option.some.injEq,Obj.cells.injEq] at a;exact c a.2.1.symm
theorem gX:(3:Nat)≠26:=by decide
theorem iF {w w':World} {base e size n:Nat} {v:Value} {xs:List Value} {r:Option Nat} (h:w.ownsRow base e size v n xs) (a:w.grownBy w' r) (c:∀ b,v.ownBlock=some b→r≠some b):w'.ownsRow base e size v n xs:=by
 refine ⟨h.1,?_⟩
 rcases h.2 with h0 | ⟨g,cap,cur,rfl,h2,h3,h4⟩
 ·exact Or.inl h0
 exact Or.inr ⟨g,cap,cur,rfl,h2,(a.block g (zY h3).1 (fun e=>c g rfl e.symm)).trans h3,h4⟩
theorem bO {w:World} {base e size n b:Nat} {v:Value} {xs:List Value} (h:w.ownsRow base e size v n xs) (d:v.ownBlock=some b):base≤b∧b<w.heap.size∧∃ a,w.heap[b]?=some (.cells a e (0,0)):=by
 rcases h.2 with ⟨rfl,-⟩ | ⟨g,cap,a,rfl,f,c,i⟩
 ·cases d
 cases d;exact ⟨f,(zY c).1,a,c⟩
theorem fd {w:World} {base e size n g j:Nat} {v x:Value} {xs:List Value} (h:w.ownsRow base e size v n xs) (a:v.ownBlock≠some g):(w.setCell ⟨g,j,none⟩ x).ownsRow base e size v n xs:=by
 refine ⟨h.1,?_⟩
 rcases h.2 with h0 | ⟨g',cap,cur,rfl,h2,h3,h4⟩
 ·exact Or.inl h0
 exact Or.inr ⟨g',cap,cur,rfl,h2,by rw [av _ _ _ _ _ (fun e=>a (by rw [←e];rfl))];exact h3,h4⟩
theorem aR.one {w w':World} {A:Option Addr} {c:Nat} {L:List Int} (h:aR w A c L) (l:∀ a,A=some a→w'.heap[a.block]?=w.heap[a.block]?):aR w' A c L:=by
 obtain ⟨f,d,g | ⟨b,cs,fr,rfl,i,k⟩⟩:=h
 ·exact ⟨f,d,Or.inl g⟩
 have e:=l _ rfl;exact ⟨f,d,Or.inr ⟨b,cs,fr,rfl,e.trans i,fun j m=>(World.cell?_of_block (a:=⟨b,j,none⟩) e).trans (k j m)⟩⟩
end Go.Proofs.YtompdcaikmekkaaGreatDoor
