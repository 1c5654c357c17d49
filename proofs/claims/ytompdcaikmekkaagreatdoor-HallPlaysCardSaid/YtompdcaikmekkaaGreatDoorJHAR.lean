/- What is told at a plac -/
import Derived.Test.YtompdcaikmekkaaGreatDoorJHAP
import Derived.Test.YtompdcaikmekkaaGreatDoorJHAQ
namespace Go.Proofs.YtompdcaikmekkaaGreatDoor
open ChangeShapes WideShapes ChangeAt RowKit
set_option maxRecDepth 99999
set_option maxHeartbeats 0
def valG (E:ByteArray→Int×Int):Tre→Int×Int
 | .num n=>eE n
 | .ref s=>E s
 | .bin o a b=>qt o (valG E a) (valG E b)
theorem jb (N:List ByteArray) (C:List (Int×Int)) (E:ByteArray→Int×Int):∀ t:Tre,(∀ s∈refsT t,refC N C s=E s)→eA N C t=valG E t
 | .num _,_=>rfl
 | .ref s,h=>h s (by simp [refsT])
 | .bin o a b,h=>by
  rw [eA,valG,jb N C E a fun s c=>h s (by simp [refsT,c]),jb N C E b fun s c=>h s (by simp [refsT,c])]
theorem mG (E F:ByteArray→Int×Int):∀ t:Tre,(∀ s∈refsT t,E s=F s)→valG E t=valG F t
 | .num _,_=>rfl
 | .ref s,h=>h s (by simp [refsT])
 | .bin o a b,h=>by
  rw [valG,valG,mG E F a fun s c=>h s (by simp [refsT,c]),mG E F b fun s c=>h s (by simp [refsT,c])]
def yU (d:Dm) (i:Nat):Tre:=aG (bG (d.mem i).formula) ((bG (d.mem i).formula).length-1)
def eu (d:Dm) (at':Int→Int×Int) (i:Nat):Int×Int:=if (d.mem i).formula.size=0 then (bz d.mem d.n i).foldl (bd d.mem at') (0,0) else valG (fun s=>at' (whL d s.data.toList)) (yU d i)
theorem mE {d:Dm} {i:Nat} (f:prsE (d.mem i).formula=0) {s:ByteArray} (b:s∈refsT (yU d i)):s.data.toList∈kf d i:=by
 unfold yU at b;obtain ⟨j,a,c,e⟩:=(ju (dL f) s).1 b;rw [←e];refine nG ?_ c;rw [zZ,zX a];exact List.getElem_mem a
theorem fw {d:Dm} {i:Nat} (a:(d.mem i).formula.size≠0) (h:mErr d i=0):prsE (d.mem i).formula=0:=by
 unfold mErr at h;rw [if_neg a] at h
 split at h
 ·rename_i h1;exact absurd h h1
 rename_i h1;simpa using h1
theorem iC {d:Dm} (o:(az d).2=0) {i:Nat} (m:mErr d i=0) {a b:Int→Int×Int} (h:∀ x∈eo d i,a x=b x):eu d a i=eu d b i:=by
 unfold eu
 by_cases f:(d.mem i).formula.size=0
 ·rw [if_pos f,if_pos f]
  have g:∀ (P:List Int) (c:Int×Int),(∀ x∈P,x∈bz d.mem d.n i)→P.foldl (bd d.mem a) c=P.foldl (bd d.mem b) c:=by
   intro P
   induction P with
   | nil=>intro c _;rfl
   | cons x r ih =>
    intro c l;have k:=l x (by simp)
    rw [List.foldl_cons,List.foldl_cons];have e:bd d.mem a c x=bd d.mem b c x:=by
     unfold bd
     by_cases j:(d.mem x.toNat).sign=0
     ·rw [if_neg (by omega),if_neg (by omega),if_neg (by omega),if_neg (by omega)]
     have p:x∈eo d i:=by
      rw [←gE f,List.mem_filter];exact ⟨k,by unfold vV;exact decide_eq_true j⟩
     rw [h x p]
    rw [e];exact ih _ fun y q=>l y (List.mem_cons_of_mem _ q)
  exact g _ _ fun x k=>k
 rw [if_neg f,if_neg f];refine mG _ _ _ fun s j=>h _ ?_
 exact (fx o f m _).2 ⟨_,mE (fw f m) j,rfl⟩
def byTo (D:Nat→Dm) (p:List Int):Nat→Int
 | 0 => -1
 | k+1=>if leafB (D k).mem (D k).n (p.getD k 0).toNat=false∧(byTo D p k<0∨(D (byTo D p k).toNat).solve<(D k).solve) then (k:Int) else byTo D p k
theorem by_in (D:Nat→Dm) (p:List Int) (k:Nat):byTo D p k = -1∨∃ b:Nat,byTo D p k=(b:Int)∧b<k:=by
 induction k with
 | zero=>exact Or.inl rfl
 | succ k ih =>
  unfold byTo
  split
  ·exact Or.inr ⟨k,rfl,by omega⟩
  rcases ih with h | ⟨b,h1,h2⟩
  ·exact Or.inl h
  exact Or.inr ⟨b,h1,by omega⟩
def JA (d:Dm) (i:Int):Nat:=(aC (eS d) d.n).idxOf i
theorem Hz {d:Dm} (h:(bu d).2=0) {i:Nat} (f:i<d.n):(i:Int)∈aC (eS d) d.n:=by
 refine Classical.byContradiction fun e=>?_
 obtain ⟨c,b⟩:=pq (eS d) d.n;rw [fF] at b;have:=few d.n ((i:Int) :: aC (eS d) d.n) (List.nodup_cons.2 ⟨e,c⟩) fun x a=>by
  rcases List.mem_cons.1 a with rfl | a
  ·omega
  exact b x a
 rw [List.length_cons,eb (lc d) (my h) d.n (by rw [fF];exact zT)] at this
 omega
theorem lv {d:Dm} (h:(bu d).2=0) {i:Nat} (l:i<d.n) {x:Int} (r:x∈eo d i):JA d x<JA d i:=by
 obtain ⟨k,o,e⟩:=List.getElem_of_mem (Hz h l);have v:=eb (lc d) (my h) d.n (by rw [fF];exact zT)
 have g:k<(eS d).length:=by rw [fF];omega
 obtain ⟨m,c,u,j,f,-⟩:=xP (lc d) (my h) g;rw [fF] at c j f;have q:m=i:=by
  rw [zZ,zX o,e] at c;have:(i:Int)=(m:Int):=by simpa using c
  omega
 subst q;rw [mj l] at f;have b:=f x r;unfold JA;have a:aC (eS d) d.n=(aC (eS d) d.n).take k ++ (aC (eS d) d.n).drop k:=(List.take_append_drop _ _).symm;have p:((aC (eS d) d.n).take k).length=k:=by rw [List.length_take];omega
 have s:(aC (eS d) d.n).idxOf x<k:=by
  rw [a,List.idxOf_append,if_pos b];have:=List.idxOf_lt_length_of_mem b
  omega
 have t:k≤(aC (eS d) d.n).idxOf (m:Int):=by
  rw [a,List.idxOf_append,if_neg j]
  omega
 omega
def msrTo (D:Nat→Dm) (p:List Int):Nat→Nat
 | 0=>0
 | k+1=>msrTo D p k+JA (D k) (p.getD k 0)
theorem jn {p:List Int} {b:Nat} {x:Int} (h:b<p.length):(p.set b x).getD b 0=x:=by
 simp [List.getD,h]
theorem ga {p:List Int} {b k:Nat} {x:Int} (h:k≠b):(p.set b x).getD k 0=p.getD k 0:=by
 simp [List.getD,List.getElem?_set_ne (fun e=>h e.symm)]
theorem jq {D:Nat→Dm} {p:List Int} {b:Nat} {x:Int} (a:b<p.length) (c:JA (D b) x<JA (D b) (p.getD b 0)) (k:Nat):(k≤b→msrTo D (p.set b x) k=msrTo D p k)∧(b<k→msrTo D (p.set b x) k<msrTo D p k):=by
 induction k with
 | zero=>exact ⟨fun _=>rfl,fun h=>by omega⟩
 | succ k ih =>
  refine ⟨fun h=>?_,fun h=>?_⟩
  ·rw [msrTo,msrTo,ih.1 (by omega),ga (by omega)]
  rw [msrTo,msrTo]
  by_cases e:k=b
  ·subst e
   rw [ih.1 (zT),jn a]
   omega
  have:=ih.2 (by omega)
  rw [ga e]
  omega
def vJ (D:Nat→Dm) (n:Nat) (inp:List Int→Int×Int):Nat→List Int→Int×Int
 | 0,_=>(0,0)
 | f+1,p=>if byTo D p n<0 then inp p else eu (D (byTo D p n).toNat) (fun x=>vJ D n inp f (p.set (byTo D p n).toNat x)) (p.getD (byTo D p n).toNat 0).toNat
def dH (D:Nat→Dm) (n:Nat):Prop := ∀ i,i<n→(bu (D i)).2=0
theorem gN {D:Nat→Dm} {n:Nat} {p:List Int} (h:InO D n p) {b:Nat} (a:b<n) {x:Int} (c:0≤x) (d:x<((D b).n:Int)):InO D n (p.set b x):=by
 refine ⟨h.right,by rw [List.length_set];exact h.len,fun i hi=>?_,fun i hi=>?_⟩
 ·by_cases e:i=b
  ·subst e
   rw [jn (by rw [h.len];exact a)]
   exact c
  rw [ga e];exact h.lo i hi
 by_cases e:i=b
 ·subst e
  rw [jn (by rw [h.len];exact a)]
  exact d
 rw [ga e];exact h.hi i hi
theorem Gc {D:Nat→Dm} {n:Nat} (j:dH D n) (inp:List Int→Int×Int):∀ (f g:Nat) (p:List Int),InO D n p→msrTo D p n<f→msrTo D p n<g→vJ D n inp f p=vJ D n inp g p:=by
 intro f
 induction f with
 | zero=>intro g p _ h;omega
 | succ f ih =>
  intro g p d r s;obtain ⟨g,rfl⟩:∃ g',g=g'+1:=⟨g-1,by omega⟩
  unfold vJ
  rcases by_in D p n with h | ⟨b,h1,h2⟩
  ·rw [h,if_pos (by omega),if_pos (by omega)]
  rw [h1,if_neg (by omega),if_neg (by omega),Int.toNat_natCast]
  obtain ⟨l,m,-,-⟩:=bH (j b h2);obtain ⟨i,q⟩:0≤p.getD b 0∧p.getD b 0<((D b).n:Int):=⟨d.lo b h2,d.hi b h2⟩;refine iC l (m _ (by omega)) fun x k=>?_
  have c:=em k;have e:(p.getD b 0).toNat<(D b).n:=by omega
  have a:=lv (j b h2) e k;rw [Int.toNat_of_nonneg i] at a;have o:=(jq (by rw [d.len];exact h2) a n).2 h2
  exact ih g _ (gN d h2 c.1 c.2) (by omega) (by omega)
def ey (D:Nat→Dm) (n:Nat) (inp:List Int→Int×Int) (p:List Int):Int×Int:=vJ D n inp (msrTo D p n+1) p
theorem fO {D:Nat→Dm} {n:Nat} (inp:List Int→Int×Int) {p:List Int} (h:byTo D p n<0):ey D n inp p=inp p:=by
 unfold ey vJ;rw [if_pos h]
theorem pV {D:Nat→Dm} {n:Nat} (f:dH D n) (inp:List Int→Int×Int) {p:List Int} (e:InO D n p) {b:Nat} (k:byTo D p n=(b:Int)):ey D n inp p=eu (D b) (fun x=>ey D n inp (p.set b x)) (p.getD b 0).toNat:=by
 have a:b<n:=by
  rcases by_in D p n with h | ⟨b',h1,a⟩
  ·omega
  omega
 show vJ D n inp (msrTo D p n+1) p=_
 unfold vJ;rw [k,if_neg (by omega),Int.toNat_natCast]
 obtain ⟨l,m,-,-⟩:=bH (f b a);obtain ⟨i,q⟩:0≤p.getD b 0∧p.getD b 0<((D b).n:Int):=⟨e.lo b a,e.hi b a⟩;refine iC l (m _ (by omega)) fun x j=>?_
 have d:=em j;have g:(p.getD b 0).toNat<(D b).n:=by omega
 have c:=lv (f b a) g j;rw [Int.toNat_of_nonneg i] at c;have o:=(jq (by rw [e.len];exact a) c n).2 a
 exact Gc f inp _ _ _ (gN e a d.1 d.2) (by omega) (by omega)
theorem sd {D:Nat→Dm} {p:List Int} {k:Nat} (a:leafB (D k).mem (D k).n (p.getD k 0).toNat=false) (b:byTo D p k<0∨(D (byTo D p k).toNat).solve<(D k).solve):byTo D p (k+1)=(k:Int):=by rw [byTo,if_pos ⟨a,b⟩]
theorem nj {D:Nat→Dm} {p:List Int} {k:Nat} (h : ¬ (leafB (D k).mem (D k).n (p.getD k 0).toNat=false∧(byTo D p k<0∨(D (byTo D p k).toNat).solve<(D k).solve))):byTo D p (k+1)=byTo D p k:=by rw [byTo,if_neg h]
theorem nK (A0:Option Addr) (cap n:Nat) (D:Nat→Dm) (A:Nat→Option Addr) (C:Nat→Nat) (Ap:Option Addr) (Q:Nat) (L:List Int) (w:World) (N:InO D n L) (hM:aY w A0 cap n D A C) (hP:a7 w Ap Q L):Rt 57 #[.agg #[.slice A0 n cap],.slice Ap L.length Q] w (.int .i64 (byTo D L n)):=by
 obtain ⟨hn1,hn4,-,hd⟩:=au N.right;have hn':(n:Int)≤4:=by omega
 have HD:=aa hd;have HI:=aa N;have O:=N.len;have HM:=aa hM;obtain ⟨KG,S | ⟨bp,op,rfl,I,i⟩⟩:=hP
 ·rw [S] at O;simp at O;omega
 rw [O] at KG ⊢;have hcpI:(n:Int)≤(Q:Int):=by omega
 have HC:Hid (∀ j,j<n→w.cell? ⟨bp,op+j,none⟩=some (.int .i64 (L.getD j 0))):=fun j l=>i j (by omega)
 have v:=aq w A0 n cap 24;have hS:=aw w A0 n cap 24;have T:=aI w A0 n cap 24;obtain ⟨W,X⟩:=aA (ay w A0 n cap 24);rw [X] at v hS T;unfold ay at X;have m:=aa v;have HA:=aa T;have J:w.heap.size<W.heap.size:=by omega
 clear O i hd N hM v T
 go_enter Tryz.func57,Tryz.ntmps57
 go_wp2_with fail;clear X
 go_loopg [5,6] n (fun g s5 s6 wr => ∃ (k:Nat),k≤n∧g=n-k∧s5=.int .i64 (byTo D L k)∧s6=.int .i64 k∧Bl W wr)
 case atStart=>exact ⟨0,zU,rfl,rfl,rfl,zS⟩
 case round =>
  obtain ⟨k,hk,rfl,rfl,rfl,d⟩:=hrel;have B:=aa d
  by_cases f:k<n
  ·have hki:(k:Int)<(n:Int):=by omega
   have cw:wr.cell? ⟨w.heap.size,0,none⟩=some (.slice A0 n cap):=aD d J HA.out;have t:w.heap.size<wr.heap.size:=zW J d.size;have R:wr.cell? ⟨bp,op+k,none⟩=some (.int .i64 (L.getD k 0)):=((ae m.out d).cell (p:=⟨bp,op+k,none⟩) I).trans (HC.out k f);have hbpr:bp<wr.heap.size:=zW I (ae m.out d).size;obtain ⟨hcap,S | ⟨b,o,rfl,r⟩⟩:=HM.out.later (ae m.out d)
   ·omega
   have Z:(n:Int)≤(cap:Int):=by omega
   have Y:b<wr.heap.size:=r.1;obtain ⟨d0,d1,d2,d3⟩:=r.2 k f;have hp0:=HI.out.lo k f;have KI:=HI.out.hi k f;obtain ⟨x,K⟩:∃ x:Nat,L.getD k 0=(x:Int):=⟨(L.getD k 0).toNat,by omega⟩
   rw [K] at R KI;obtain ⟨hcm,S | ⟨bm,om,G,H⟩⟩:=d3
   ·have:=(HD.out k f).1;omega
   rw [G] at d2;have E:Hid (∀ w',Bl wr w'→Rt 85 #[.agg #[.string (D k).name,.int .i64 (D k).solve,.slice (some ⟨bm,om,none⟩) (D k).n (C k)],.int .i64 x] w' (.bool (leafB (D k).mem (D k).n x))):=fun w' U=>rF (D k) bm om (C k) x w' (HD.out k f).2 (by omega) (H.later U)
   have HB:Hid (∀ h,leafB (D k).mem (D k).n x=h→(h=true→byTo D L (k+1)=byTo D L k)∧(h=false→(byTo D L k<0→byTo D L (k+1)=(k:Int))∧∀ j:Nat,byTo D L k=(j:Int)→byTo D L (k+1)=if (D j).solve<(D k).solve then (k:Int) else (j:Int))):=fun h e=>by
    refine ⟨fun M=>?_,fun M=>⟨fun e3=>?_,fun j l=>?_⟩⟩
    ·refine nj fun ⟨h1,_⟩=>?_
     rw [K,Int.toNat_natCast,e,M] at h1;cases h1
    ·exact sd (by rw [K,Int.toNat_natCast,e,M]) (Or.inl e3)
    by_cases s:(D j).solve<(D k).solve
    ·rw [if_pos s]
     exact sd (by rw [K,Int.toNat_natCast,e,M]) (Or.inr (by rw [l,Int.toNat_natCast];exact s))
    rw [if_neg s,←l];refine nj fun ⟨_,h2⟩=>?_
    rw [l,Int.toNat_natCast] at h2
    omega
   obtain ⟨lf,z⟩:=aA (leafB (D k).mem (D k).n x);have u:=aa (HB.out lf z);rw [z] at E;have F:Hid (∀ w',Bl wr w'→∀ j,j<n→w'.cell? ⟨b,o+j*3+1,none⟩=some (.int .i64 (D j).solve)):=fun w' U j l=>((r.later U).2 j l).2.1
   have P:=aa (by_in D L k);clear K H r G d z HB
   go_upto_region 5 with fail
   go_cut [7] from 8 to 45 (fun s7 wx=>s7=.bool lf∧Bl wr wx)
   case first =>
    go_region_law ((go_simp;refine (E.out _ (by go_grown)).mono ?_;rintro e w3 ⟨rfl,y⟩;have V:=ae (W0:=wr) (by go_grown) y;clear y))
    all_goals go_wp2_with fail
    all_goals go_meet
    all_goals exact ⟨rfl,V⟩
   case rest =>
   obtain ⟨rfl,c⟩:=hcut;obtain ⟨w3,rfl⟩:∃ w3:World,w3=wc:=⟨_,rfl⟩;have q:=aa (ae B.out c);have cw3:=aD c t cw;have hsz3:w.heap.size<w3.heap.size:=zW t c.size;have y:b<w3.heap.size:=zW Y c.size;have ck3:=F.out w3 c k f;cases lf
   ·rcases P.out with hneg | ⟨j,l,hjk⟩
    ·have a:Hid (byTo D L (k+1)=(k:Int)):=(u.out.2 rfl).1 (by omega)
     rw [hneg];clear hneg c;go_wp2_with fail
     go_quiet (fail)
     go_wp2_with fail
     go_roundg (n-(k+1))
     case measure=>omega
     case rel=>exact ⟨k+1,by omega,rfl,by rw [a.out],by go_num,ac q.out _⟩
    have a:Hid (byTo D L (k+1)=if (D j).solve<(D k).solve then (k:Int) else (j:Int)):=(u.out.2 rfl).2 j l
    have cj3:=F.out w3 c j (by omega)
    have hjn:(j:Int)<(n:Int):=by omega
    have hj0:decide ((j:Int)<0)=false:=decide_eq_false (by omega)
    rw [l];clear l c
    by_cases s:(D j).solve<(D k).solve
    ·rw [if_pos s] at a
     have KJ:decide ((D j).solve<(D k).solve)=true:=decide_eq_true s;go_wp2_with fail
     go_quiet (fail)
     go_wp2_with fail
     go_roundg (n-(k+1))
     case measure=>omega
     case rel=>exact ⟨k+1,by omega,rfl,by rw [a.out],by go_num,ac q.out _⟩
    rw [if_neg s] at a;have KJ:decide ((D j).solve<(D k).solve)=false:=decide_eq_false s;go_wp2_with fail
    go_quiet (fail)
    go_wp2_with fail
    go_roundg (n-(k+1))
    case measure=>omega
    case rel=>exact ⟨k+1,by omega,rfl,by rw [a.out],by go_num,ac q.out _⟩
   have a:Hid (byTo D L (k+1)=byTo D L k):=u.out.1 rfl;generalize byTo D L k=bk at a;clear c;go_wp2_with fail
   go_quiet (fail)
   go_wp2_with fail
   go_roundg (n-(k+1))
   case measure=>omega
   case rel=>exact ⟨k+1,by omega,rfl,by rw [a.out],by go_num,ac q.out _⟩
  have KH:k=n:=by omega
  subst KH;clear d;go_wp2_with fail;go_ret;exact ⟨rfl,ae m.out B.out⟩
theorem rf (x:Int) (w:World):Calls Tryz.prog 133 #[.int .i64 x] w fun e w'=>e=.returned (.bool false)∧w'=w:=by
 go_enter Tryz.func133,Tryz.ntmps133
 go_wp2_with fail;go_ret;exact ⟨rfl,rfl⟩
def lX (x y:Int):Int:=if x<y then -1 else if y<x then 1 else 0
theorem tS (x y:Int) (w:World):Calls Tryz.prog 154 #[.int .i64 x,.int .i64 y] w fun e w'=>e=.returned (.int .i64 (lX x y))∧w'=w:=by
 have c:=rf x;have d:=rf y
 by_cases a:x<y
 ·have HV:Hid (lX x y = -1):=by show _=_;unfold lX;rw [if_pos a]
  go_enter Tryz.func154,Tryz.ntmps154
  go_wp2_with fail;refine (c _).mono ?_;rintro e w1 ⟨rfl,rfl⟩;go_wp2_with fail;refine (d _).mono ?_;rintro e w2 ⟨rfl,rfl⟩;go_wp2_with fail;go_ret;rw [HV.out];exact ⟨rfl,rfl⟩
 by_cases b:y<x
 ·have HV:Hid (lX x y=1):=by show _=_;unfold lX;rw [if_neg a,if_pos b]
  go_enter Tryz.func154,Tryz.ntmps154
  go_wp2_with fail;refine (c _).mono ?_;rintro e w1 ⟨rfl,rfl⟩;go_wp2_with fail;refine (d _).mono ?_;rintro e w2 ⟨rfl,rfl⟩;go_wp2_with fail;go_ret;rw [HV.out];exact ⟨rfl,rfl⟩
 have HV:Hid (lX x y=0):=by show _=_;unfold lX;rw [if_neg a,if_neg b]
 have e:x=y:=by omega
 subst e
 go_enter Tryz.func154,Tryz.ntmps154
 go_wp2_with fail;refine (c _).mono ?_;rintro e w1 ⟨rfl,rfl⟩;go_wp2_with fail;refine (d _).mono ?_;rintro e w2 ⟨rfl,rfl⟩;go_wp2_with fail;go_ret;rw [HV.out];exact ⟨rfl,rfl⟩
theorem sY (A B:Option Addr) (J K:Nat) (a b:List Int) (w:World) (R:a.length≤4) (T:b.length≤4) (L:a7 w A J a) (M:a7 w B K b):Calls Tryz.prog 126 #[.slice A a.length J,.slice B b.length K] w fun e w'=>e=.returned (.int .i64 (cmpL a b))∧w'=w:=by
 have P:=aa L;have Q:=aa M;have F:Hid (∀ k,k<a.length→k<b.length→cmpL (a.drop k) (b.drop k)=if a.getD k 0<b.getD k 0 then -1 else if b.getD k 0<a.getD k 0 then 1 else cmpL (a.drop (k+1)) (b.drop (k+1))):=fun k r s=>GS r s
 have E:Hid (∀ k,k<a.length→b.length≤k→cmpL (a.drop k) (b.drop k)=1):=fun k r s=>By r s
 have G:Hid (∀ k,a.length≤k→k<b.length→cmpL (a.drop k) (b.drop k) = -1):=fun k r s=>wl r s
 have D:Hid (∀ k,a.length≤k→b.length≤k→cmpL (a.drop k) (b.drop k)=0):=fun k r s=>Ek r s
 obtain ⟨na,m⟩:=aA a.length;obtain ⟨nb,n⟩:=aA b.length;have z:=aa m;have C:=aa n;rw [m] at F E G D R;rw [n] at F E G D T;rw [m,n];have S:(na:Int)≤4:=by omega
 have U:(nb:Int)≤4:=by omega
 clear L M m n
 go_enter Tryz.func126,Tryz.ntmps126
 go_wp2_with fail
 go_loopg [11] na (fun g s11 wr => ∃ (k:Nat),k≤na∧k≤nb∧g=na-k∧s11=.int .i64 k∧Hid (cmpL (a.drop k) (b.drop k)=cmpL a b)∧wr=w)
 case atStart=>exact ⟨0,zU,zU,rfl,rfl,(rfl:cmpL (a.drop 0) (b.drop 0)=cmpL a b),rfl⟩
 case round =>
  obtain ⟨k,hk,X,rfl,rfl,v,Z⟩:=hrel;subst Z
  by_cases u:k<na
  ·obtain ⟨hc,H | ⟨g1,o1,rfl,V,f⟩⟩:=P.out
   ·have:=z.out;rw [H] at this;simp at this;omega
   have O:=f k (by rw [z.out];exact u)
   have Y:(k:Int)<(na:Int):=by omega
   by_cases l:k<nb
   ·obtain ⟨W,H | ⟨g2,o2,rfl,N,h⟩⟩:=Q.out
    ·have:=C.out;rw [H] at this;simp at this;omega
    have x2:=h k (by rw [C.out];exact l)
    have t:(k:Int)<(nb:Int):=by omega
    have o:=F.out k u l;have c:=tS (a.getD k 0) (b.getD k 0) wr;generalize a.getD k 0=x at O o c;generalize b.getD k 0=y at x2 o c;have q:=aa o;clear f h o
    by_cases d:x<y
    ·have p:lX x y = -1:=by unfold lX;rw [if_pos d]
     rw [p] at c;have j:Hid (cmpL a b = -1):=by show _=_;rw [←v.out,q.out,if_pos d]
     clear p d;go_wp2_with fail;refine c.mono ?_;rintro e w1 ⟨rfl,rfl⟩;go_wp2_with fail;go_ret;rw [j.out];exact ⟨rfl,rfl⟩
    by_cases i:y<x
    ·have p:lX x y=1:=by unfold lX;rw [if_neg d,if_pos i]
     rw [p] at c;have j:Hid (cmpL a b=1):=by show _=_;rw [←v.out,q.out,if_neg d,if_pos i]
     clear p d i;go_wp2_with fail;refine c.mono ?_;rintro e w1 ⟨rfl,rfl⟩;go_wp2_with fail;go_ret;rw [j.out];exact ⟨rfl,rfl⟩
    have p:lX x y=0:=by unfold lX;rw [if_neg d,if_neg i]
    rw [p] at c;have j:Hid (cmpL (a.drop (k+1)) (b.drop (k+1))=cmpL a b):=by show _=_;rw [←v.out,q.out,if_neg d,if_neg i]
    clear p d i;go_wp2_with fail;refine c.mono ?_;rintro e w1 ⟨rfl,rfl⟩;go_wp2_with fail
    go_roundg (na-(k+1))
    case measure=>omega
    case rel=>exact ⟨k+1,by omega,by omega,rfl,by go_num,j,rfl⟩
   have j:Hid (cmpL a b=1):=by show _=_;rw [←v.out,E.out k u (by omega)]
   have t:(nb:Int)≤(k:Int):=by omega
   clear f;generalize a.getD k 0=x at O;go_wp2_with fail;go_ret;rw [j.out];exact ⟨rfl,rfl⟩
  have I:k=na:=by omega
  subst I
  by_cases l:k<nb
  ·have j:Hid (cmpL a b = -1):=by show _=_;rw [←v.out,G.out k (zT) l]
   have t:(k:Int)<(nb:Int):=by omega
   go_wp2_with fail;go_ret;rw [j.out];exact ⟨rfl,rfl⟩
  have j:Hid (cmpL a b=0):=by show _=_;rw [←v.out,D.out k (zT) (by omega)]
  have t:(nb:Int)≤(k:Int):=by omega
  go_wp2_with fail;go_ret;rw [j.out];exact ⟨rfl,rfl⟩
theorem rt (A B:Option Addr) (f g:Nat) (a b:List Int) (N:Int) (w:World) (k:a.length≤4) (l:b.length≤4) (i:a7 w A f a) (j:a7 w B g b):Rt 88 #[.agg #[.slice A a.length f,.int .i64 N],.slice B b.length g] w (.int .i64 (cmpL a b)):=by
 have h:∀ w',Bl w w'→Calls Tryz.prog 126 #[.slice A a.length f,.slice B b.length g] w' fun e w''=>e=.returned (.int .i64 (cmpL a b))∧w''=w':=fun w' d=>sY A B f g a b w' k l (i.later d) (j.later d)
 have H:=aa h;generalize cmpL a b=c at H;generalize a.length=na at H;generalize b.length=nb at H;clear i j h k l
 go_enter Tryz.func88,Tryz.ntmps88
 go_wp2_with fail;refine (H.out _ (by go_grown)).mono ?_
 rintro e w1 ⟨rfl,rfl⟩;go_wp2_with fail;go_ret;exact ⟨rfl,by go_grown⟩
theorem FH:dt 88:=fun args w=>by simp [callFunc,Tryz.func88];rfl
def mK (xs:List EnL) (p:List Int):Prop:=(∀ k,k<xs.length→(xs.getD k aJ).e.pl.length≤4)∧p.length≤4
theorem GQ (b o cap:Nat) (xs:List EnL) (Ap:Option Addr) (O:Nat) (p:List Int) (w:World) (hn:xs.length≤3000) (P:jX w b o xs) (hr:(lE xs).Pairwise fun a b=>lessL a.pl b.pl=true) (Q:mK xs p) (Z:a7 w Ap O p) :
  Rt 155 #[.slice (some ⟨b,o,none⟩) xs.length cap,.slice Ap p.length O,.func (.func 88) #[] #[]] w (.tuple #[.int .i64 (cntE (lE xs) p:Nat),.bool (hasE (lE xs) p)]):=by
 have he:=FH;unfold dt at he;have J:Hid (∀ k wr,k<xs.length→Bl w wr→Rt 88 #[.agg #[.slice (xs.getD k aJ).A (xs.getD k aJ).e.pl.length (xs.getD k aJ).c,.int .i64 (xs.getD k aJ).e.n],.slice Ap p.length O] wr (.int .i64 (cmpL (xs.getD k aJ).e.pl p))):=fun k wr L Y=>rt _ _ _ _ _ _ _ wr (Q.1 k L) Q.2 ((P.pl L).later Y) (Z.later Y)
 have T:=aa P;have N:Hid (∀ j k,j≤k→k<xs.length→cmpL (xs.getD k aJ).e.pl p<0→cmpL (xs.getD j aJ).e.pl p<0):=fun j k R L h=>by
  have q:lessL ((lE xs).getD k noEn).pl p=true:=by rw [lE_at,←kN];exact decide_eq_true h
  have m:=Cc hr R (by rw [a8];exact L) q
  rw [lE_at,←kN] at m;exact of_decide_eq_true m
 have M:Hid (∀ i,i≤xs.length→(∀ t,t<i→cmpL (xs.getD t aJ).e.pl p<0)→(i<xs.length→¬ cmpL (xs.getD i aJ).e.pl p<0)→cntE (lE xs) p=i):=fun i d q m=>wm _ _ i (by rw [a8];exact d) (fun t C=>by rw [lE_at,←kN];exact decide_eq_true (q t C)) (fun K=>by rw [a8] at K;rw [lE_at,←kN];exact decide_eq_false (m K))
 have I:Hid (∀ i,cntE (lE xs) p=i→i<xs.length→hasE (lE xs) p=decide (cmpL (xs.getD i aJ).e.pl p=0)):=fun i q m=>by rw [←lE_at];exact (zK q (by rw [a8];exact m)).symm
 have u:Hid (∀ i,cntE (lE xs) p=i→xs.length≤i→hasE (lE xs) p=false):=fun i q m=>(nw q (by rw [a8];exact m)).1
 obtain ⟨n,B⟩:=aA xs.length;obtain ⟨np,H⟩:=aA p.length;have V:=aa B;rw [B] at hn J N M I u ⊢;rw [H] at J ⊢;generalize cntE (lE xs) p=cnt at M I u;generalize hasE (lE xs) p=has at I u;have hn':(n:Int)≤3000:=by omega
 clear P hr Q Z B H
 go_enter Tryz.func155,Tryz.ntmps155
 go_wp2_with fail
 go_loopg [9,10] n (fun g s9 s10 wr => ∃ (lo d:Nat),lo≤d∧d≤n∧g=d-lo∧s9=.int .i64 lo∧s10=.int .i64 d∧Hid (∀ t,t<lo→cmpL (xs.getD t aJ).e.pl p<0)∧Hid (∀ t,d≤t→t<n→¬ cmpL (xs.getD t aJ).e.pl p<0)∧Bl w wr)
 case atStart=>exact ⟨0,n,zU,zT,rfl,rfl,rfl,fun t C=>absurd C (Nat.not_lt_zero _),fun t q m=>absurd m (Nat.not_lt.2 q),zS⟩
 case round =>
  obtain ⟨lo,d,hlh,E,rfl,rfl,rfl,U,W,f⟩:=hrel;have x:=aa f;have KG:(d:Int)≤(n:Int):=by omega
  by_cases hlt:lo<d
  ·obtain ⟨c1,c2⟩:=(T.out.later f).at (k:=(lo+d) / 2) (by rw [V.out];omega)
   have l:=J.out ((lo+d) / 2) wr (by omega) f
   have KH:(lo:Int)<(d:Int):=by omega
   obtain ⟨c,y⟩:=aA (cmpL (xs.getD ((lo+d) / 2) aJ).e.pl p);have D:=aa y;rw [y] at l;generalize (xs.getD ((lo+d) / 2) aJ).A=A1 at c1 l;generalize (xs.getD ((lo+d) / 2) aJ).c=k1 at c1 l;generalize (xs.getD ((lo+d) / 2) aJ).e.pl.length=m1 at c1 l;generalize (xs.getD ((lo+d) / 2) aJ).e.n=n1 at c2 l;clear y f
   by_cases G:c<0
   ·go_wp2_with fail
    refine l.mono ?_;rintro e w1 ⟨rfl,r⟩;go_wp2_with fail
    go_roundg (d-((lo+d) / 2+1))
    case measure=>omega
    case rel=>exact ⟨(lo+d) / 2+1,d,by omega,E,rfl,by congr 1,rfl,fun t C=>N.out t ((lo+d) / 2) (by omega) (by omega) (by rw [D.out];exact G),W,ae x.out r⟩
   go_wp2_with fail;refine l.mono ?_;rintro e w1 ⟨rfl,r⟩;go_wp2_with fail
   go_roundg ((lo+d) / 2-lo)
   case measure=>omega
   case rel=>exact ⟨lo,(lo+d) / 2,by omega,by omega,rfl,rfl,by congr 1,U,fun t q m=>Int.not_lt.1 fun K=>by have X:=N.out ((lo+d) / 2) t q m K;rw [D.out] at X;omega,ae x.out r⟩
  have S:d=lo:=by omega
  subst S;have s:Hid (cnt=d):=M.out d E (fun t C=>U.out t C) (fun h=>by have X:=W.out d (zT) h;omega)
  by_cases z:d<n
  ·obtain ⟨c1,c2⟩:=(T.out.later f).at (k:=d) (by rw [V.out];exact z)
   have l:=J.out d wr z f;have v:=aa (I.out d s.out z);generalize cmpL (xs.getD d aJ).e.pl p=c at l v;generalize (xs.getD d aJ).A=A1 at c1 l;generalize (xs.getD d aJ).c=k1 at c1 l;generalize (xs.getD d aJ).e.pl.length=m1 at c1 l;generalize (xs.getD d aJ).e.n=n1 at c2 l;have F:(d:Int)<(n:Int):=by omega
   clear f;go_wp2_with fail;refine l.mono ?_;rintro e w1 ⟨rfl,r⟩;go_wp2_with fail
   go_ret2
   rw [s.out,v.out];exact ⟨rfl,ae x.out r⟩
  have v:Hid (has=false):=u.out d s.out (by omega)
  have F:(n:Int)≤(d:Int):=by omega
  go_wp2_with fail
  go_ret2
  rw [s.out,v.out];exact ⟨rfl,f⟩
theorem D6 (A:Option Addr) (cap:Nat) (Ap:Option Addr) (a np:Nat) (w:World):Rt 155 #[.slice A 0 cap,.slice Ap np a,.func (.func 88) #[] #[]] w (.tuple #[.int .i64 0,.bool false]):=by
 go_enter Tryz.func155,Tryz.ntmps155
 go_wp2_with fail;refine wp_loop_rounds 1 ?_;rw [rounds_succ];go_wp2_with fail
 go_ret2
 exact ⟨rfl,zS⟩
theorem q8 (A:Option Addr) (cap:Nat) (xs:List EnL) (Ap:Option Addr) (c:Nat) (p:List Int) (w:World) (j:xs.length≤3000) (f:b6 w A cap xs) (k:(lE xs).Pairwise fun a b=>lessL a.pl b.pl=true) (i:mK xs p) (g:a7 w Ap c p) :
  Rt 127 #[.slice A xs.length cap,.slice Ap p.length c] w (.tuple #[.int .i64 (cntE (lE xs) p:Nat),.bool (hasE (lE xs) p)]):=by
 have h:Rt 155 #[.slice A xs.length cap,.slice Ap p.length c,.func (.func 88) #[] #[]] w (.tuple #[.int .i64 (cntE (lE xs) p:Nat),.bool (hasE (lE xs) p)]):=by
  obtain ⟨-,-,rfl | ⟨b,o,rfl,l⟩⟩:=f
  ·exact D6 A cap Ap c p.length w
  exact GQ b o cap xs Ap c p w j l k i g
 generalize cntE (lE xs) p=cnt at h;generalize hasE (lE xs) p=has at h;generalize xs.length=n at h;generalize p.length=np at h;clear f k i g j
 go_enter Tryz.func127,Tryz.ntmps127
 go_wp2_with fail;refine h.mono ?_;rintro e w1 ⟨rfl,d⟩;go_wp2_with fail
 go_ret2
 exact ⟨rfl,d⟩
def dr (w:World) (A:Option Addr) (m c:Nat) (N:Int) (T:Nat):World:=w.alloc (.cells #[.slice A m c,.int .i64 N] T)
theorem kA (w:World) (A:Option Addr) (m c:Nat) (N:Int) (T:Nat):(dr w A m c N T).heap.size=w.heap.size+1:=by unfold dr;simp
theorem de (w:World) (A:Option Addr) (m c:Nat) (N:Int) (T:Nat):Bl w (dr w A m c N T):=by unfold dr;go_grown
theorem sK (w:World) (A:Option Addr) (m c:Nat) (N:Int) (T:Nat):(dr w A m c N T).cell? ⟨w.heap.size,0,none⟩=some (.slice A m c):=by unfold dr;simp
theorem AD (w:World) (A:Option Addr) (m c:Nat) (N:Int) (T:Nat):(dr w A m c N T).cell? ⟨w.heap.size,1,none⟩=some (.int .i64 N):=by unfold dr;simp
def lj (w:World) (A0:Option Addr) (n cap:Nat) (A:Option Addr) (m c:Nat) (N:Int):World:=dr (ay w A0 n cap 24) A m c N 83
theorem ps (w:World) (A0:Option Addr) (n cap:Nat) (A:Option Addr) (m c:Nat) (N:Int):(lj w A0 n cap A m c N).heap.size=w.heap.size+2:=by unfold lj;rw [kA,aw]
theorem mZ (w:World) (A0:Option Addr) (n cap:Nat) (A:Option Addr) (m c:Nat) (N:Int):Bl w (lj w A0 n cap A m c N):=ae (aq ..) (de ..)
theorem H6 (w:World) (A0:Option Addr) (n cap:Nat) (A:Option Addr) (m c:Nat) (N:Int):(lj w A0 n cap A m c N).cell? ⟨w.heap.size+1,0,none⟩=some (.slice A m c):=by
 have h:=sK (ay w A0 n cap 24) A m c N 83;rw [aw] at h;exact h
theorem AF (w:World) (A0:Option Addr) (n cap:Nat) (A:Option Addr) (m c:Nat) (N:Int):(lj w A0 n cap A m c N).cell? ⟨w.heap.size+1,1,none⟩=some (.int .i64 N):=by
 have h:=AD (ay w A0 n cap 24) A m c N 83;rw [aw] at h;exact h
theorem mP (A0:Option Addr) (cap n:Nat) (D:Nat→Dm) (A:Nat→Option Addr) (C:Nat→Nat) (Ae:Option Addr) (j:Nat) (e:En) (w:World) (s:(am D n).2.2=0) (t:aY w A0 cap n D A C) (u:a7 w Ae j e.pl) :
  Rt 87 #[.agg #[.slice A0 n cap],.agg #[.slice Ae e.pl.length j,.int .i64 e.n]] w (errV (entOne D n e)):=by
 have i:=mZ w A0 n cap Ae e.pl.length j e.n;have h:=CD A0 cap n D A C Ae j e.pl (lj w A0 n cap Ae e.pl.length j e.n) (t.later i) (u.later i);have b:=aa i;have f:Hid (w.heap.size+1<(lj w A0 n cap Ae e.pl.length j e.n).heap.size):=by show _<_;rw [ps];omega
 have d:Hid ((lj w A0 n cap Ae e.pl.length j e.n).cell? ⟨w.heap.size+1,1,none⟩=some (.int .i64 e.n)):=AF ..;clear t u i
 by_cases g:placeErr D n e.pl=0
 ·by_cases p:leafV D n e.pl=true
  ·have o:=Hv s g p
   rw [g,p,errV_zero] at h;clear g p
   by_cases l:e.n < -1000000
   ·have HV:Hid (errV (entOne D n e)=.iface 63 (.int .i64 1)):=by
     show _=_
     rw [o,if_pos (by simp [cT];omega)];rfl
    generalize e.pl.length=m at h b f d;generalize e.n=N at h b f d l;clear o
    go_enter Tryz.func87,Tryz.ntmps87
    go_wp2_with fail;refine h.mono ?_;rintro r w1 ⟨rfl,a⟩;have c1:=aD a f.out d.out;have c:=aa (ae b.out a);clear a;go_wp2_with fail;go_ret;rw [HV.out];exact ⟨rfl,c.out⟩
   by_cases q:1000000<e.n
   ·have HV:Hid (errV (entOne D n e)=.iface 63 (.int .i64 1)):=by
     show _=_
     rw [o,if_pos (by simp [cT];omega)];rfl
    generalize e.pl.length=m at h b f d;generalize e.n=N at h b f d l q;clear o
    go_enter Tryz.func87,Tryz.ntmps87
    go_wp2_with fail;refine h.mono ?_;rintro r w1 ⟨rfl,a⟩;have c1:=aD a f.out d.out;have c:=aa (ae b.out a);clear a;go_wp2_with fail;go_ret;rw [HV.out];exact ⟨rfl,c.out⟩
   have HV:Hid (errV (entOne D n e)=.nilIface):=by
    show _=_
    rw [o,if_neg (by simp [cT];omega)];rfl
   generalize e.pl.length=m at h b f d;generalize e.n=N at h b f d l q;clear o
   go_enter Tryz.func87,Tryz.ntmps87
   go_wp2_with fail;refine h.mono ?_;rintro r w1 ⟨rfl,a⟩;have c1:=aD a f.out d.out;have c:=aa (ae b.out a);clear a;go_wp2_with fail;go_ret;rw [HV.out];exact ⟨rfl,c.out⟩
  have k:leafV D n e.pl=false:=by simpa using p
  have HV:Hid (errV (entOne D n e)=.iface 63 (.int .i64 6)):=by show _=_;rw [Fw s g k];rfl
  rw [g,k,errV_zero] at h;generalize e.pl.length=m at h b;generalize e.n=N at h b;clear g p k f d
  go_enter Tryz.func87,Tryz.ntmps87
  go_wp2_with fail;refine h.mono ?_;rintro r w1 ⟨rfl,a⟩;have c:=aa (ae b.out a);clear a;go_wp2_with fail;go_ret;rw [HV.out];exact ⟨rfl,c.out⟩
 have HV:Hid (errV (entOne D n e)=.iface 63 (.int .i64 (placeErr D n e.pl))):=by show _=_;rw [Cq s g,ak g]
 rw [ak g] at h;generalize placeErr D n e.pl=E at h HV;generalize leafV D n e.pl=lf at h;generalize e.pl.length=m at h b;generalize e.n=N at h b;clear g f d
 go_enter Tryz.func87,Tryz.ntmps87
 go_wp2_with fail;refine h.mono ?_;rintro r w1 ⟨rfl,a⟩;have c:=aa (ae b.out a);clear a;go_wp2_with fail;go_ret;rw [HV.out];exact ⟨rfl,c.out⟩
end Go.Proofs.YtompdcaikmekkaaGreatDoor
