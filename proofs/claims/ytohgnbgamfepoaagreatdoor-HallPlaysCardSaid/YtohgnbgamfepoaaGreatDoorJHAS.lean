/- What is told at a plac -/
import Derived.Test.YtohgnbgamfepoaaGreatDoorJHAQ
import Derived.Test.YtohgnbgamfepoaaGreatDoorJHAR
namespace Go.Proofs.YtohgnbgamfepoaaGreatDoor
open ChangeShapes WideShapes ChangeAt RowKit
set_option maxRecDepth 99999
set_option maxHeartbeats 0
def valG (E:ByteArray→Int×Int):Tre→Int×Int
 | .num n=>eG n
 | .ref s=>E s
 | .bin o a b=>qz o (valG E a) (valG E b)
theorem jf (N:List ByteArray) (C:List (Int×Int)) (E:ByteArray→Int×Int):∀ t:Tre,(∀ s∈refsT t,refC N C s=E s)→eB N C t=valG E t
 | .num _,_=>rfl
 | .ref s,h=>h s (by simp [refsT])
 | .bin o a b,h=>by
  rw [eB,valG,jf N C E a fun s c=>h s (by simp [refsT,c]),jf N C E b fun s c=>h s (by simp [refsT,c])]
theorem mO (E F:ByteArray→Int×Int):∀ t:Tre,(∀ s∈refsT t,E s=F s)→valG E t=valG F t
 | .num _,_=>rfl
 | .ref s,h=>h s (by simp [refsT])
 | .bin o a b,h=>by
  rw [valG,valG,mO E F a fun s c=>h s (by simp [refsT,c]),mO E F b fun s c=>h s (by simp [refsT,c])]
def zk (d:Dm) (i:Nat):Tre:=aF (bI (d.mem i).formula) ((bI (d.mem i).formula).length-1)
def ew (d:Dm) (at':Int→Int×Int) (i:Nat):Int×Int:=if (d.mem i).formula.size=0 then (bA d.mem d.n i).foldl (ba d.mem at') (0,0) else valG (fun s=>at' (whL d s.data.toList)) (zk d i)
theorem mM {d:Dm} {i:Nat} (f:prsE (d.mem i).formula=0) {s:ByteArray} (b:s∈refsT (zk d i)):s.data.toList∈kn d i:=by
 unfold zk at b;obtain ⟨j,a,c,e⟩:=(jz (dN f) s).1 b;rw [←e];refine nO ?_ c;rw [zZ,zX a];exact List.getElem_mem a
theorem fA {d:Dm} {i:Nat} (a:(d.mem i).formula.size≠0) (h:mErr d i=0):prsE (d.mem i).formula=0:=by
 unfold mErr at h;rw [if_neg a] at h
 split at h
 ·rename_i h1;exact absurd h h1
 rename_i h1;simpa using h1
theorem iF {d:Dm} (o:(ay d).2=0) {i:Nat} (m:mErr d i=0) {a b:Int→Int×Int} (h:∀ x∈ep d i,a x=b x):ew d a i=ew d b i:=by
 unfold ew
 by_cases f:(d.mem i).formula.size=0
 ·rw [if_pos f,if_pos f]
  have g:∀ (P:List Int) (c:Int×Int),(∀ x∈P,x∈bA d.mem d.n i)→P.foldl (ba d.mem a) c=P.foldl (ba d.mem b) c:=by
   intro P
   induction P with
   | nil=>intro c _;rfl
   | cons x r ih =>
    intro c l;have k:=l x (by simp)
    rw [List.foldl_cons,List.foldl_cons];have e:ba d.mem a c x=ba d.mem b c x:=by
     unfold ba
     by_cases j:(d.mem x.toNat).sign=0
     ·rw [if_neg (by omega),if_neg (by omega),if_neg (by omega),if_neg (by omega)]
     have p:x∈ep d i:=by
      rw [←gH f,List.mem_filter];exact ⟨k,by unfold wg;exact decide_eq_true j⟩
     rw [h x p]
    rw [e];exact ih _ fun y q=>l y (List.mem_cons_of_mem _ q)
  exact g _ _ fun x k=>k
 rw [if_neg f,if_neg f];refine mO _ _ _ fun s j=>h _ ?_
 exact (fB o f m _).2 ⟨_,mM (fA f m) j,rfl⟩
def byTo (D:Nat→Dm) (p:List Int):Nat→Int
 | 0 => -1
 | k+1=>if leafB (D k).mem (D k).n (p.getD k 0).toNat=false∧(byTo D p k<0∨(D (byTo D p k).toNat).solve<(D k).solve) then (k:Int) else byTo D p k
theorem by_in (D:Nat→Dm) (p:List Int) (k:Nat):byTo D p k = -1∨∃ b:Nat,byTo D p k=(b:Int)∧b<k:=by
 induction k with
 | zero=>exact Or.inl rfl
 | succ k ih =>
  unfold byTo
  split
  ·exact Or.inr ⟨k,rfl,by omega⟩
  rcases ih with h | ⟨b,h1,h2⟩
  ·exact Or.inl h
  exact Or.inr ⟨b,h1,by omega⟩
def JT (d:Dm) (i:Int):Nat:=(aB (eV d) d.n).idxOf i
theorem Io {d:Dm} (h:(bv d).2=0) {i:Nat} (f:i<d.n):(i:Int)∈aB (eV d) d.n:=by
 refine Classical.byContradiction fun e=>?_
 obtain ⟨c,b⟩:=pA (eV d) d.n;rw [fI] at b;have:=few d.n ((i:Int) :: aB (eV d) d.n) (List.nodup_cons.2 ⟨e,c⟩) fun x a=>by
  rcases List.mem_cons.1 a with rfl | a
  ·omega
  exact b x a
 rw [List.length_cons,ef (lp d) (mF h) d.n (by rw [fI];exact zT)] at this
 omega
theorem lG {d:Dm} (h:(bv d).2=0) {i:Nat} (l:i<d.n) {x:Int} (r:x∈ep d i):JT d x<JT d i:=by
 obtain ⟨k,o,e⟩:=List.getElem_of_mem (Io h l);have v:=ef (lp d) (mF h) d.n (by rw [fI];exact zT)
 have g:k<(eV d).length:=by rw [fI];omega
 obtain ⟨m,c,u,j,f,-⟩:=ye (lp d) (mF h) g;rw [fI] at c j f;have q:m=i:=by
  rw [zZ,zX o,e] at c;have:(i:Int)=(m:Int):=by simpa using c
  omega
 subst q;rw [mu l] at f;have b:=f x r;unfold JT;have a:aB (eV d) d.n=(aB (eV d) d.n).take k ++ (aB (eV d) d.n).drop k:=(List.take_append_drop _ _).symm;have p:((aB (eV d) d.n).take k).length=k:=by rw [List.length_take];omega
 have s:(aB (eV d) d.n).idxOf x<k:=by
  rw [a,List.idxOf_append,if_pos b];have:=List.idxOf_lt_length_of_mem b
  omega
 have t:k≤(aB (eV d) d.n).idxOf (m:Int):=by
  rw [a,List.idxOf_append,if_neg j]
  omega
 omega
def msrTo (D:Nat→Dm) (p:List Int):Nat→Nat
 | 0=>0
 | k+1=>msrTo D p k+JT (D k) (p.getD k 0)
theorem jr {p:List Int} {b:Nat} {x:Int} (h:b<p.length):(p.set b x).getD b 0=x:=by
 simp [List.getD,h]
theorem gd {p:List Int} {b k:Nat} {x:Int} (h:k≠b):(p.set b x).getD k 0=p.getD k 0:=by
 simp [List.getD,List.getElem?_set_ne (fun e=>h e.symm)]
theorem ju {D:Nat→Dm} {p:List Int} {b:Nat} {x:Int} (a:b<p.length) (c:JT (D b) x<JT (D b) (p.getD b 0)) (k:Nat):(k≤b→msrTo D (p.set b x) k=msrTo D p k)∧(b<k→msrTo D (p.set b x) k<msrTo D p k):=by
 induction k with
 | zero=>exact ⟨fun _=>rfl,fun h=>by omega⟩
 | succ k ih =>
  refine ⟨fun h=>?_,fun h=>?_⟩
  ·rw [msrTo,msrTo,ih.1 (by omega),gd (by omega)]
  rw [msrTo,msrTo]
  by_cases e:k=b
  ·subst e
   rw [ih.1 (zT),jr a]
   omega
  have:=ih.2 (by omega)
  rw [gd e]
  omega
def vS (D:Nat→Dm) (n:Nat) (inp:List Int→Int×Int):Nat→List Int→Int×Int
 | 0,_=>(0,0)
 | f+1,p=>if byTo D p n<0 then inp p else ew (D (byTo D p n).toNat) (fun x=>vS D n inp f (p.set (byTo D p n).toNat x)) (p.getD (byTo D p n).toNat 0).toNat
def dI (D:Nat→Dm) (n:Nat):Prop := ∀ i,i<n→(bv (D i)).2=0
theorem gQ {D:Nat→Dm} {n:Nat} {p:List Int} (h:InO D n p) {b:Nat} (a:b<n) {x:Int} (c:0≤x) (d:x<((D b).n:Int)):InO D n (p.set b x):=by
 refine ⟨h.right,by rw [List.length_set];exact h.len,fun i hi=>?_,fun i hi=>?_⟩
 ·by_cases e:i=b
  ·subst e
   rw [jr (by rw [h.len];exact a)]
   exact c
  rw [gd e];exact h.lo i hi
 by_cases e:i=b
 ·subst e
  rw [jr (by rw [h.len];exact a)]
  exact d
 rw [gd e];exact h.hi i hi
theorem Gv {D:Nat→Dm} {n:Nat} (j:dI D n) (inp:List Int→Int×Int):∀ (f g:Nat) (p:List Int),InO D n p→msrTo D p n<f→msrTo D p n<g→vS D n inp f p=vS D n inp g p:=by
 intro f
 induction f with
 | zero=>intro g p _ h;omega
 | succ f ih =>
  intro g p d r s;obtain ⟨g,rfl⟩:∃ g',g=g'+1:=⟨g-1,by omega⟩
  unfold vS
  rcases by_in D p n with h | ⟨b,h1,h2⟩
  ·rw [h,if_pos (by omega),if_pos (by omega)]
  rw [h1,if_neg (by omega),if_neg (by omega),Int.toNat_natCast]
  obtain ⟨l,m,-,-⟩:=bJ (j b h2);obtain ⟨i,q⟩:0≤p.getD b 0∧p.getD b 0<((D b).n:Int):=⟨d.lo b h2,d.hi b h2⟩;refine iF l (m _ (by omega)) fun x k=>?_
  have c:=eo k;have e:(p.getD b 0).toNat<(D b).n:=by omega
  have a:=lG (j b h2) e k;rw [Int.toNat_of_nonneg i] at a;have o:=(ju (by rw [d.len];exact h2) a n).2 h2
  exact ih g _ (gQ d h2 c.1 c.2) (by omega) (by omega)
def ez (D:Nat→Dm) (n:Nat) (inp:List Int→Int×Int) (p:List Int):Int×Int:=vS D n inp (msrTo D p n+1) p
theorem fR {D:Nat→Dm} {n:Nat} (inp:List Int→Int×Int) {p:List Int} (h:byTo D p n<0):ez D n inp p=inp p:=by
 unfold ez vS;rw [if_pos h]
theorem p9 {D:Nat→Dm} {n:Nat} (f:dI D n) (inp:List Int→Int×Int) {p:List Int} (e:InO D n p) {b:Nat} (k:byTo D p n=(b:Int)):ez D n inp p=ew (D b) (fun x=>ez D n inp (p.set b x)) (p.getD b 0).toNat:=by
 have a:b<n:=by
  rcases by_in D p n with h | ⟨b',h1,a⟩
  ·omega
  omega
 show vS D n inp (msrTo D p n+1) p=_
 unfold vS;rw [k,if_neg (by omega),Int.toNat_natCast]
 obtain ⟨l,m,-,-⟩:=bJ (f b a);obtain ⟨i,q⟩:0≤p.getD b 0∧p.getD b 0<((D b).n:Int):=⟨e.lo b a,e.hi b a⟩;refine iF l (m _ (by omega)) fun x j=>?_
 have d:=eo j;have g:(p.getD b 0).toNat<(D b).n:=by omega
 have c:=lG (f b a) g j;rw [Int.toNat_of_nonneg i] at c;have o:=(ju (by rw [e.len];exact a) c n).2 a
 exact Gv f inp _ _ _ (gQ e a d.1 d.2) (by omega) (by omega)
theorem b8.grown {w w':World} {b o n:Nat} {M:Nat→Mem} {r:Option Nat} (h:b8 w b o n M) (d:w.grownBy w' r) (p:some b≠r):b8 w' b o n M:=by
 have l:w'.heap[b]?=w.heap[b]?:=d.block b h.1 p;have c:∀ k,w'.cell? ⟨b,k,none⟩=w.cell? ⟨b,k,none⟩:=fun k=>World.cell?_of_block (a:=⟨b,k,none⟩) l
 refine ⟨zW h.1 d.size,fun i m=>?_⟩
 obtain ⟨e,f,g,j⟩:=h.2 i m;exact ⟨(c _).trans e,(c _).trans f,(c _).trans g,(c _).trans j⟩
def FE (d:Dm) (k:Int):Bool:=decide ((d.mem k.toNat).sign=0)
theorem Ib (d:Dm):(fun x => !FE d x)=wg d:=by
 funext x
 unfold FE wg
 by_cases h:(d.mem x.toNat).sign=0 <;> simp [h]
theorem EY (args:Array Value) (w:World):(callFunc 205 args).run Tryz.prog w=.ok (.enter 205 args) w:=by simp [go_sem]
theorem DA (d:Dm) (b o cap q k:Nat) (w:World) (e:k<d.n) (j:d.n≤12) (a:b8 w b o d.n d.mem) (i:w.cell? ⟨q,2,none⟩=some (.slice (some ⟨b,o,none⟩) d.n cap)) :
  Rt 205 #[.int .i64 k,.pointer (some ⟨q,0,none⟩)] w (.bool (FE d k)):=by
 obtain ⟨-,-,c,-⟩:=a.2 k e;have f:(k:Int)<(d.n:Int):=by omega
 have g:(d.n:Int)≤12:=by omega
 unfold FE;rw [Int.toNat_natCast];generalize (d.mem k).sign=sg at c ⊢;generalize d.n=n at *;clear a
 go_enter Tryz.func205,Tryz.ntmps205
 go_wp2_with fail;go_ret;exact ⟨by by_cases h:sg=0 <;> simp [h],zS⟩
theorem gS {M:Nat→Mem} {i:Nat} (h:aY M i=0):(M i).formula.size≤100:=by
 unfold aY at h
 split at h
 ·simp at h
 split at h
 ·simp at h
 split at h
 ·simp at h
 split at h
 ·simp at h
 split at h
 ·simp at h
 split at h
 ·simp at h
 omega
theorem Jy {d:Dm} (b:(ay d).2=0) {i:Nat} (a:(d.mem i).formula.size≠0):yD d (d.mem i).formula=mErr d i∧rfL d (d.mem i).formula=IY (mErr d i) (ep d i):=by
 have e:yD d (d.mem i).formula=mErr d i:=by
  unfold yD mErr kn;rw [if_neg a]
 refine ⟨e,?_⟩;unfold rfL IY;rw [e]
 by_cases h:mErr d i=0
 ·rw [if_pos h,if_pos h]
  refine rO b a h ?_;unfold mErr at h;rw [if_neg a] at h
  split at h
  ·rename_i h1;exact absurd h h1
  rename_i h1;simpa using h1
 rw [if_neg h,if_neg h]
theorem vD (d:Dm) (A:Option Addr) (cap i:Nat) (w:World) (Z:(ay d).2=0) (hi:i<d.n) (hM:eh w A cap d.n d.mem) :
  Calls Tryz.prog 163 #[cQ d A cap,.int .i64 i] w fun e w'=>(∃ A' c',e=.returned (.tuple #[.slice A' (IY (mErr d i) (ep d i)).length c',errV (mErr d i)])∧aR w' A' c' (IY (mErr d i) (ep d i)))∧Bl w w':=by
 obtain ⟨-,-,v,h⟩:=aI Z;obtain ⟨F,h0 | ⟨b,o,rfl,u⟩⟩:=hM
 ·omega
 have r:=aT w d (some ⟨b,o,none⟩) cap 70;have hS:=bg w d (some ⟨b,o,none⟩) cap 70;obtain ⟨o0,o1,o2⟩:=dO w d (some ⟨b,o,none⟩) cap 70;unfold cQ;obtain ⟨W,hW⟩:=az (aL w d (some ⟨b,o,none⟩) cap 70);rw [hW] at r hS o0 o1 o2;unfold aL at hW;have g:=u.later r;obtain ⟨-,-,-,c3⟩:=g.2 i hi;have hii:(i:Int)<(d.n:Int):=by omega
 have hni:(d.n:Int)≤12:=by omega
 have M:w.heap.size<W.heap.size:=by omega
 have q:=aa r
 by_cases y:(d.mem i).formula.size=0
 ·have z:(d.mem i).formula.toList.isEmpty=true:=by rw [aU];simpa using y
  have H:mErr d i=0:=by unfold mErr;rw [if_pos y]
  rw [H,Fp rfl,errV_zero];have B:=CT d (some ⟨b,o,none⟩) cap i W Z hi ⟨F,Or.inr ⟨b,o,rfl,g⟩⟩;unfold cQ at B;have P:Hid ((bA d.mem d.n i).filter (wg d)=ep d i):=gH y;have R:Hid ((bA d.mem d.n i).length≤12):=zV (cG _ _) v;have S:Hid (∀ x∈bA d.mem d.n i,∃ k:Nat,x=(k:Int)∧k<d.n):=fun x hx=>by
   obtain ⟨m,V,h2,-⟩:=cS x hx;exact ⟨m,V,h2⟩
  have C:=aa g;have Q:=aa o2;generalize (d.mem i).formula=U at c3 z;clear u h y H
  go_enter Tryz.func163,Tryz.ntmps163
  go_wp2_with fail;refine B.mono ?_;rintro e w1 ⟨⟨v1,rfl,p⟩,c⟩;have HB1:=aa c;have hq1:w.heap.size<w1.heap.size:=by have:=c.size;omega
  have l:=EK 205 #[.pointer (some ⟨w.heap.size,0,none⟩)] (FE d) EY W.heap.size v1 (bA d.mem d.n i) w1 (by have:=R.out;omega) p fun x w' hx t=>by
   obtain ⟨k,rfl,hk⟩:=S.out x hx;have J:∀ j,v1.ownBlock=some j→W.heap.size≤j:=fun j K=>(p.lt j K).1
   have Y:b<W.heap.size:=C.out.1;have I:∀ j,j<W.heap.size→some j≠v1.ownBlock:=fun j K e=>by have:=J j e.symm;omega
   refine DA d b o cap w.heap.size k w' hk v ((C.out.later c).grown t (I b Y)) ?_;have V:w1.cell? ⟨w.heap.size,2,none⟩=some (.slice (some ⟨b,o,none⟩) d.n cap):=aC c M Q.out;rw [World.cell?_of_block (a:=⟨w.heap.size,2,none⟩) (t.block w.heap.size hq1 (I _ M))];exact V
  rw [Ib,P.out] at l;have O:Hid (∀ w',w1.grownBy w' v1.ownBlock→Bl w w'):=fun w' t=>(ae q.out c).grown t (by have:=q.out.size;have:=c.size;omega) fun j K=>by have:=(p.lt j K).1;omega
  clear p c B;go_wp2_with fail;refine l.mono ?_;rintro e w2 ⟨⟨A2,c2,rfl,E⟩,t⟩;have T:=aa E;have N:=aa (O.out w2 t);clear E t l;go_wp2_with fail
  go_ret2
  exact ⟨⟨A2,c2,rfl,T.out⟩,N.out⟩
 have z:(d.mem i).formula.toList.isEmpty=false:=by rw [aU];simpa using y
 obtain ⟨e1,e2⟩:=Jy Z y;have D:JS d w.heap.size W:=fun s w' X=>Ji d b o cap w.heap.size s w' v (g.later X) (zW M X.size) (aC X M o2)
 have f:=Gj d w.heap.size (d.mem i).formula W (gS (h i hi)) D;rw [←e2,←e1];unfold GZ at f;obtain ⟨U,G⟩:=az ((d.mem i).formula);rw [G] at c3 z f ⊢;generalize rfL d U=L at f ⊢;generalize errV (yD d U)=ev at f ⊢;clear u h y D g e1 e2 G
 go_enter Tryz.func163,Tryz.ntmps163
 go_wp2_with fail;refine f.mono ?_;rintro e w1 ⟨⟨A1,c1,rfl,E⟩,c⟩;have T:=aa E;clear E f;go_wp2_with fail
 go_ret2
 exact ⟨⟨A1,c1,rfl,T.out⟩,ae q.out c⟩
def sE (d:Dm) (k:Nat):List (List Int):=(List.range k).map (ep d)
theorem rx (d:Dm) (k:Nat):sE d (k+1)=sE d k ++ [ep d k]:=by simp [sE,List.range_succ]
theorem H6 {d:Dm} {xs:List RL} (h:lR xs=eV d):∀ x∈xs,x.p.Nodup∧x.p.length≤d.n:=fun x b=>by
 have a:x.p∈eV d:=by rw [←h];exact List.mem_map.2 ⟨x,b,rfl⟩
 obtain ⟨i,-,e⟩:=List.mem_map.1 a;rw [←e];exact ⟨pP (iC d i),sC d i⟩
theorem fw {w w1:World} {d:Dm} {A:Option Addr} {cap:Nat} (a:Below (aL w d A cap 70).heap.size (aL w d A cap 70) w1):w1.cell? ⟨w.heap.size,0,none⟩=some (.string d.name)∧w1.cell? ⟨w.heap.size,1,none⟩=some (.int .i64 d.solve)∧w1.cell? ⟨w.heap.size,2,none⟩=some (.slice A d.n cap)∧w.heap.size<w1.heap.size:=by
 have c:=bg w d A cap 70;obtain ⟨o0,o1,o2⟩:=dO w d A cap 70;have b:w.heap.size<(aL w d A cap 70).heap.size:=by omega
 exact ⟨aC a b o0,aC a b o1,aC a b o2,by have:=a.size;omega⟩
theorem pQ (d:Dm) (A:Option Addr) (cap:Nat) (w:World) (hM:eh w A cap d.n d.mem) :
  Calls Tryz.prog 139 #[cQ d A cap] w fun e w'=>(∃ A' c' xs,e=.returned (.tuple #[.slice A' xs.length c',.int .i64 (bv d).1,errV (bv d).2])∧db w' A' c' xs∧((bv d).2=0→lR xs=eV d))∧Bl w w':=by
 have L:=aT w d A cap 70;have a:=kx d A cap (aL w d A cap 70) (hM.later L);have HM:=aa hM;have o:Hid (∀ w1,Below (aL w d A cap 70).heap.size (aL w d A cap 70) w1→w1.cell? ⟨w.heap.size,0,none⟩=some (.string d.name)∧w1.cell? ⟨w.heap.size,1,none⟩=some (.int .i64 d.solve)∧w1.cell? ⟨w.heap.size,2,none⟩=some (.slice A d.n cap)∧w.heap.size<w1.heap.size):=fun w1 h=>fw h
 unfold cQ at a ⊢;obtain ⟨W,hW⟩:=az (aL w d A cap 70);rw [hW] at L a o;unfold aL at hW;have J:=aa L;clear hM L
 by_cases U:(ay d).2=0
 case neg =>
  rw [Kw U];rw [ak U] at a ⊢;have Q:=aa U;generalize (ay d).1=x at a ⊢;generalize (ay d).2=c at a Q ⊢;obtain ⟨d0,d1,d2,hqW⟩:=o.out W (zS);clear U
  go_enter Tryz.func139,Tryz.ntmps139
  go_wp2_with fail;refine a.mono ?_;rintro e w1 ⟨rfl,E⟩;go_wp2_with fail;go_returns;exact ⟨⟨none,0,[],rfl,db.nil _ _ _,fun e=>absurd e Q.out⟩,ae J.out E⟩
 obtain ⟨hd1,hdn,V,-⟩:=aI U;have HD:=aa U;rw [U,hd1,errV_zero] at a;obtain ⟨i0,hi0,hz0,hz1,hz2⟩:=info_parts Tryz.infoRow;obtain ⟨n,hn⟩:=az d.n;have q:=aa hn;rw [hn] at a hW o hdn V ⊢;have hmk:∀ w',(Instr.makeSlice 71 (.int .i64 0) (.int .i64 (n:Int))).run Tryz.prog w'=.ok (.slice (some ⟨w'.heap.size,0,none⟩) 0 n) (w'.alloc (.cells (madeCells #[.slice none 0 0] n) 26)):=fun w'=>by
  have h:=run_make (P:=Tryz.prog) w' 71 26 i0 _ Tryz.underlying71 hi0 hz0 .i64 .i64 0 n (Int.le_refl _) (by omega) (by rw [hz2];omega) (by omega)
  simp only [Int.toNat_natCast,hz1,Nat.mul_one] at h;exact h
 have hnI:(n:Int)≤12:=by omega
 obtain ⟨d0,d1,d2,hqW⟩:=o.out W (zS);clear U hn hd1
 go_enter Tryz.func139,Tryz.ntmps139
 go_wp2_with fail;refine a.mono ?_;rintro e w1 ⟨rfl,E⟩;obtain ⟨c0,c1,c2,hq1⟩:=o.out w1 E;have C:=aa E;clear E a c0 c1 d0 d1 d2 hW;obtain ⟨W1,u9⟩:=az (w1.alloc (.cells (madeCells #[.slice none 0 0] n) 26));have D:Bl w1 W1:=by rw [←u9];exact (zS).alloc (zT) _
 have K4:=aa D;have K8:Hid (W1.ownsRow w1.heap.size 26 1 (.slice (some ⟨w1.heap.size,0,none⟩) 0 n) 0 []):=by
  rw [←u9];exact World.ownsRow_made w1 _ n (zT) (by unfold maxLen;omega) (by simp [madeCells])
 obtain ⟨-,-,b,hq1'⟩:=o.out W1 (ae C.out D);clear D;go_wp2_with fail;clear u9 hmk
 go_loopg [7,28] n (fun g s7 s28 wr => ∃ (k:Nat) (xs:List RL),k≤n∧g=n-k∧s28=.int .i64 k∧Hid (lR xs=sE d k∧(∀ j,j<k→mErr d j=0)∧∀ x∈xs,aR wr x.A x.c x.p)∧wr.ownsRow w1.heap.size 26 1 s7 xs.length (cT xs)∧Bl w1 wr)
 case atStart=>exact ⟨0,[],zU,rfl,rfl,(⟨rfl,fun j hj=>absurd hj (Nat.not_lt_zero _),fun x I=>by cases I⟩:_∧_∧_),K8.out,K4.out⟩
 case round =>
  obtain ⟨k,xs,hk,rfl,rfl,S,hO,y⟩:=hrel;have HO:=aa hO;have K6:=aa y;have v:Hid (xs.length=k):=by
   have h:=S.out.1
   show _=_
   rw [←o7,h]
   simp [sE]
  obtain ⟨c0,c1,c2,hq⟩:=o.out wr (ae C.out y)
  by_cases G:k<n
  ·have hki:(k:Int)<(n:Int):=by omega
   have l:=vD d A cap k wr HD.out (by rw [q.out];exact G) (HM.out.later (ae J.out (ae C.out y)))
   unfold cQ at l;rw [q.out] at l
   by_cases N:mErr d k=0
   ·rw [Fp N,N,errV_zero] at l
    have Q:=aa N;obtain ⟨r,hr⟩:=az ((ep d k).length);have HR:=aa hr;rw [hr] at l;clear hO y N hr;go_wp2_with fail;refine l.mono ?_;rintro e w2 ⟨⟨A2,b,rfl,hT⟩,B⟩;have K2:=aa (ae K6.out B);have K:Hid (w2.ownsRow w1.heap.size 26 1 u7 k (cT xs)):=by
     have h:=an HO.out B;rw [v.out] at h;exact h
    have HT2:=aa hT;have HX2:Hid (∀ x∈xs,aR w2 x.A x.c x.p):=fun x I=>(S.out.2.2 x I).later B
    have hsz:=K2.out.size;clear hT B l c0 c1 c2
    go_wp2_with (at_builtin;refine wpList_append_own _ rfl _ _ 71 rfl w1.heap.size 26 i0 (.slice none 0 0) 1 24 Tryz.underlying71 hi0 hz0 hz1 hz2 rfl (by decide) _ _ _ rfl (K.out.alloc _) ⟨w2.heap.size,0,none⟩ 1 1 [.slice A2 r b] rfl rfl bz (by intro u hu;simp at hu;subst hu;rfl) (by unfold maxLen;omega) (by omega) (by simp;omega) ?_)
    intro v' w3 H f _;have HB3:Hid (Bl w1 w3):=bD K2.out K.out f;have HX3:Hid (lR (xs ++ [(⟨ep d k,A2,b⟩:RL)])=sE d (k+1)∧(∀ j,j<k+1→mErr d j=0)∧∀ x∈xs ++ [(⟨ep d k,A2,b⟩:RL)],aR w3 x.A x.c x.p):=by
     refine ⟨by rw [rr,S.out.1,rx];rfl,fun j hj=>?_,fun x I=>?_⟩
     ·by_cases e:j=k
      ·rw [e];exact Q.out
      exact S.out.2.1 j (by omega)
     rcases List.mem_append.1 I with I | I
     ·exact ((HX2.out x I).later (by go_grown)).row (K.out.alloc _) f
     rw [List.mem_singleton.1 I];exact (HT2.out.later (by go_grown)).row (K.out.alloc _) f
    have HO3:Hid (w3.ownsRow w1.heap.size 26 1 v' (xs ++ [(⟨ep d k,A2,b⟩:RL)]).length (cT (xs ++ [(⟨ep d k,A2,b⟩:RL)]))):=by
     show World.ownsRow ..
     rw [ic,List.length_append,v.out];have e:cT [(⟨ep d k,A2,b⟩:RL)]=[.slice A2 r b]:=by simp [cT,HR.out]
     rw [e];exact H
    clear H f;go_wp2_with fail
    go_roundg (n-(k+1))
    case measure=>omega
    case rel=>exact ⟨k+1,_,by omega,rfl,by go_num,HX3,HO3.out,HB3.out⟩
   have z:Hid (bv d=((k:Int),mErr d k)):=Kq HD.out (i:=k) (by rw [q.out];exact G) N S.out.2.1
   have Q:=aa N;rw [Hv N,ak N] at l;generalize mErr d k=ec at l Q z;clear hO y N;go_wp2_with fail;refine l.mono ?_;rintro e w2 ⟨⟨A2,b,rfl,-⟩,B⟩;go_wp2_with fail;go_returns;rw [z.out];exact ⟨⟨none,0,[],by rw [ak Q.out];rfl,db.nil _ _ _,fun e=>absurd e Q.out⟩,ae J.out (ae C.out (ae K6.out B))⟩
  have hke:k=n:=by omega
  subst hke;have HL:Hid (lR xs=eV d):=by show _=_;rw [S.out.1,←q.out];rfl
  have O:Hid (∀ j,j<d.n→mErr d j=0):=by rw [q.out];exact S.out.2.1
  obtain ⟨Ar,cr,hv,hRv⟩:=pR hO S.out.2.2;subst hv;have K9:=aa hRv;have K5:=aa (ae J.out (ae C.out y));clear hO y hRv c0 c1 c2 o;rw [v.out];obtain ⟨w4,rfl⟩:∃ w4:World,w4=wr:=⟨_,rfl⟩;go_wp2_with fail
  go_loopg [48] k (fun g s48 wi => ∃ (j:Nat),j≤k∧g=k-j∧s48=.int .i64 j∧Hid (∀ t,t<j→cycB (eV d) t=false)∧Bl w4 wi)
  case atStart=>exact ⟨0,zU,rfl,rfl,(fun t ht=>absurd ht (Nat.not_lt_zero _):∀ t,t<0→_),zS⟩
  case round =>
   obtain ⟨j,hj,rfl,rfl,Z,M⟩:=hrel;have Y:=aa M
   by_cases G:j<k
   ·have hji:(j:Int)<(k:Int):=by omega
    have K0:=vO Ar cr xs j wr (by rw [v.out];exact V) (by rw [v.out];exact G) (by rw [HL.out];exact lp d) (fun x I=>by
     have h:=H6 HL.out x I;rw [q.out] at h;exact ⟨h.1,by omega⟩) (K9.out.later M)
    rw [v.out,HL.out] at K0;clear M;go_wp2_with fail;refine K0.mono ?_;rintro e w5 ⟨⟨A5,c5,R,rfl,La,T,hRr⟩,hb5⟩;have s:=kg A5 c5 R j w5 T La;have K3:=aa (ae Y.out hb5);have HIn:Hid (nH R j=cycB (eV d) j):=by
     show _=_
     rw [Bool.eq_iff_iff,cyc_iff,←hRr];unfold nH;exact decide_eq_true_iff
    rw [HIn.out] at s;generalize R.length=m at s;clear K0 hb5 La hRr T;cases hcy:cycB (eV d) j
    ·rw [hcy] at s
     have K7:Hid (∀ t,t<j+1→cycB (eV d) t=false):=fun t ht=>by
      by_cases e:t=j
      ·rw [e];exact hcy
      exact Z.out t (by omega)
     clear hcy;go_wp2_with fail;refine s.mono ?_;rintro e w6 ⟨rfl,F⟩;have X:=aa (ae K3.out F);clear F s;go_wp2_with fail
     go_roundg (k-(j+1))
     case measure=>omega
     case rel=>exact ⟨j+1,by omega,rfl,by go_num,K7,X.out⟩
    rw [hcy] at s;have z:Hid (bv d=((j:Int),8)):=Kx HD.out O.out (by rw [q.out];exact G) hcy Z.out
    clear hcy;go_wp2_with fail;refine s.mono ?_;rintro e w6 ⟨rfl,F⟩;have X:=aa (ae K3.out F);clear F s;go_wp2_with fail;go_returns;rw [z.out];exact ⟨⟨none,0,[],rfl,db.nil _ _ _,fun e=>by cases e⟩,ae K5.out X.out⟩
   have hje:j=k:=by omega
   subst hje;have z:Hid (bv d=(-1,0)):=Ky HD.out O.out (by rw [q.out];exact Z.out)
   clear M;go_wp2_with fail;go_returns;rw [z.out];exact ⟨⟨Ar,cr,xs,by rw [v.out];rfl,K9.out.later Y.out,fun _=>HL.out⟩,ae K5.out Y.out⟩
theorem yz (d:Dm) (A:Option Addr) (cap:Nat) (w:World) (h:eh w A cap d.n d.mem):Rt 113 #[cQ d A cap] w (.tuple #[.int .i64 (bv d).1,errV (bv d).2]):=by
 have a:=aT w d A cap 70;have c:=pQ d A cap (aL w d A cap 70) (h.later a);obtain ⟨j,k,l,g⟩:=fw (w:=w) (d:=d) (A:=A) (cap:=cap) (zS);have b:=aa a;unfold cQ at c ⊢;obtain ⟨W,i⟩:=az (aL w d A cap 70);rw [i] at j k l g b c;unfold aL at i;generalize errV (bv d).2=ev at c ⊢;generalize (bv d).1=x at c ⊢;clear h a
 go_enter Tryz.func113,Tryz.ntmps113
 go_wp2_with fail;refine c.mono ?_;rintro e w1 ⟨⟨A1,c1,xs,rfl,-⟩,f⟩;go_wp2_with fail
 go_ret2
 exact ⟨rfl,ae b.out f⟩
noncomputable def pg (d:Dm) (i:Int):Int:=if (bv d).2≠0 then (bv d).2 else if i<0∨(d.n:Int)≤i then 1 else 0
noncomputable def sD (d:Dm) (i:Int):List Int:=if pg d i=0 then ep d i.toNat else []
theorem KW {d:Dm} {i:Int} (h:(bv d).2≠0):pg d i=(bv d).2∧sD d i=[]:=by
 have e:pg d i=(bv d).2:=by unfold pg;rw [if_pos h]
 exact ⟨e,by unfold sD;rw [e,if_neg h]⟩
theorem KO {d:Dm} {i:Int} (h:(bv d).2=0) (a:i<0∨(d.n:Int)≤i):pg d i=1∧sD d i=[]:=by
 have e:pg d i=1:=by unfold pg;rw [if_neg (by simpa using h),if_pos a]
 exact ⟨e,by unfold sD;rw [e,if_neg (by decide)]⟩
theorem Kv {d:Dm} {k:Nat} (h:(bv d).2=0) (a:k<d.n):pg d k=0∧sD d k=ep d k:=by
 have e:pg d k=0:=by unfold pg;rw [if_neg (by simpa using h),if_neg (by omega)]
 exact ⟨e,by unfold sD;rw [if_pos e,Int.toNat_natCast]⟩
theorem Du (d:Dm) (A:Option Addr) (cap:Nat) (i:Int) (w:World) (T:eh w A cap d.n d.mem):Calls Tryz.prog 170 #[cQ d A cap,.int .i64 i] w fun e w'=>(∃ A' c',e=.returned (.tuple #[.slice A' (sD d i).length c',errV (pg d i)])∧aR w' A' c' (sD d i))∧Bl w w':=by
 have s:=aT w d A cap 70;have l:=pQ d A cap (aL w d A cap 70) (T.later s);obtain ⟨P,Q,K,N⟩:=fw (w:=w) (d:=d) (A:=A) (cap:=cap) (zS);have o:=aa s;unfold cQ at l ⊢;obtain ⟨W,M⟩:=az (aL w d A cap 70);rw [M] at P Q K N o l;unfold aL at M;clear T s
 by_cases u:(bv d).2=0
 ·obtain ⟨X,-,-,R⟩:=bJ u
  obtain ⟨-,-,B,-⟩:=aI X;rw [u,R,errV_zero] at l;have F:=aa u;obtain ⟨n,v⟩:=az d.n;have E:=aa v;rw [v] at K B M l ⊢;have K2:(n:Int)≤12:=by omega
  clear u X R v
  go_enter Tryz.func170,Tryz.ntmps170
  go_wp2_with fail;refine l.mono ?_;rintro e w1 ⟨⟨A1,c1,xs,rfl,U,S⟩,m⟩;have t:=S trivial;have a:xs.length=n:=by rw [←o7,t,fI];exact E.out
  have q:=aa (ae o.out m);have H:Hid (db w1 A1 c1 xs∧lR xs=eV d∧xs.length=n):=⟨U,t,a⟩;rw [a];clear U S t a m l P Q K
  by_cases L:i<0
  ·obtain ⟨g,h⟩:=KO F.out (Or.inl L)
   have f:=aa g;have r:=aa h;clear g h;go_wp2_with fail
   go_ret2
   rw [f.out,r.out];exact ⟨⟨none,0,rfl,aR.nil _ _ _ (by omega)⟩,q.out⟩
  have Y:decide (i<0)=false:=decide_eq_false L
  by_cases Z:(n:Int)≤i
  ·obtain ⟨g,h⟩:=KO F.out (Or.inr (by rw [E.out];exact Z))
   have f:=aa g;have r:=aa h;clear g h;go_wp2_with fail
   go_ret2
   rw [f.out,r.out];exact ⟨⟨none,0,rfl,aR.nil _ _ _ (by omega)⟩,q.out⟩
  obtain ⟨k,rfl⟩:∃ k:Nat,i=k:=⟨i.toNat,by omega⟩
  have C:k<n:=by omega
  have K0:(k:Int)<(n:Int):=by omega
  obtain ⟨g,h⟩:=Kv F.out (k:=k) (by rw [E.out];exact C)
  have f:=aa g;obtain ⟨⟨V,O | ⟨b,rfl,u9,z⟩,D⟩,y,a⟩:=H.out
  ·rw [O] at a;simp at a;omega
  have J:=z k (by omega)
  have j:=D _ (il (k:=k) (by omega))
  have G:Hid ((xs.getD k eq).p=sD d k):=by
   show _=_
   rw [h,←rs,y,mu (by rw [E.out];exact C)]
  rw [G.out] at J j;generalize (xs.getD k eq).A=Ak at J j;generalize (xs.getD k eq).c=cck at J j;have I:=aa j;clear z D y g h j L;go_wp2_with fail
  go_ret2
  rw [f.out];exact ⟨⟨Ak,cck,rfl,I.out⟩,q.out⟩
 obtain ⟨g,h⟩:=KW (i:=i) u;rw [g,h];rw [ak u] at l ⊢;generalize (bv d).2=ec at l ⊢;generalize (bv d).1=x at l;clear u g h
 go_enter Tryz.func170,Tryz.ntmps170
 go_wp2_with fail;refine l.mono ?_;rintro e w1 ⟨⟨A1,c1,xs,rfl,-⟩,m⟩;go_wp2_with fail
 go_ret2
 exact ⟨⟨none,0,rfl,aR.nil _ _ _ (by omega)⟩,ae o.out m⟩
theorem rp (x:Int) (w:World):Calls Tryz.prog 135 #[.int .i64 x] w fun e w'=>e=.returned (.bool false)∧w'=w:=by
 go_enter Tryz.func135,Tryz.ntmps135
 go_wp2_with fail;go_ret;exact ⟨rfl,rfl⟩
def mh (x y:Int):Int:=if x<y then -1 else if y<x then 1 else 0
theorem tZ (x y:Int) (w:World):Calls Tryz.prog 156 #[.int .i64 x,.int .i64 y] w fun e w'=>e=.returned (.int .i64 (mh x y))∧w'=w:=by
 have c:=rp x;have d:=rp y
 by_cases a:x<y
 ·have HV:Hid (mh x y = -1):=by show _=_;unfold mh;rw [if_pos a]
  go_enter Tryz.func156,Tryz.ntmps156
  go_wp2_with fail;refine (c _).mono ?_;rintro e w1 ⟨rfl,rfl⟩;go_wp2_with fail;refine (d _).mono ?_;rintro e w2 ⟨rfl,rfl⟩;go_wp2_with fail;go_ret;rw [HV.out];exact ⟨rfl,rfl⟩
 by_cases b:y<x
 ·have HV:Hid (mh x y=1):=by show _=_;unfold mh;rw [if_neg a,if_pos b]
  go_enter Tryz.func156,Tryz.ntmps156
  go_wp2_with fail;refine (c _).mono ?_;rintro e w1 ⟨rfl,rfl⟩;go_wp2_with fail;refine (d _).mono ?_;rintro e w2 ⟨rfl,rfl⟩;go_wp2_with fail;go_ret;rw [HV.out];exact ⟨rfl,rfl⟩
 have HV:Hid (mh x y=0):=by show _=_;unfold mh;rw [if_neg a,if_neg b]
 have e:x=y:=by omega
 subst e
 go_enter Tryz.func156,Tryz.ntmps156
 go_wp2_with fail;refine (c _).mono ?_;rintro e w1 ⟨rfl,rfl⟩;go_wp2_with fail;refine (d _).mono ?_;rintro e w2 ⟨rfl,rfl⟩;go_wp2_with fail;go_ret;rw [HV.out];exact ⟨rfl,rfl⟩
theorem tf (A B:Option Addr) (J K:Nat) (a b:List Int) (w:World) (R:a.length≤4) (T:b.length≤4) (L:aZ w A J a) (M:aZ w B K b):Calls Tryz.prog 128 #[.slice A a.length J,.slice B b.length K] w fun e w'=>e=.returned (.int .i64 (cmpL a b))∧w'=w:=by
 have P:=aa L;have Q:=aa M;have F:Hid (∀ k,k<a.length→k<b.length→cmpL (a.drop k) (b.drop k)=if a.getD k 0<b.getD k 0 then -1 else if b.getD k 0<a.getD k 0 then 1 else cmpL (a.drop (k+1)) (b.drop (k+1))):=fun k r s=>Hb r s
 have E:Hid (∀ k,k<a.length→b.length≤k→cmpL (a.drop k) (b.drop k)=1):=fun k r s=>BQ r s
 have G:Hid (∀ k,a.length≤k→k<b.length→cmpL (a.drop k) (b.drop k) = -1):=fun k r s=>wI r s
 have D:Hid (∀ k,a.length≤k→b.length≤k→cmpL (a.drop k) (b.drop k)=0):=fun k r s=>ED r s
 obtain ⟨na,m⟩:=az a.length;obtain ⟨nb,n⟩:=az b.length;have z:=aa m;have C:=aa n;rw [m] at F E G D R;rw [n] at F E G D T;rw [m,n];have S:(na:Int)≤4:=by omega
 have U:(nb:Int)≤4:=by omega
 clear L M m n
 go_enter Tryz.func128,Tryz.ntmps128
 go_wp2_with fail
 go_loopg [11] na (fun g s11 wr => ∃ (k:Nat),k≤na∧k≤nb∧g=na-k∧s11=.int .i64 k∧Hid (cmpL (a.drop k) (b.drop k)=cmpL a b)∧wr=w)
 case atStart=>exact ⟨0,zU,zU,rfl,rfl,(rfl:cmpL (a.drop 0) (b.drop 0)=cmpL a b),rfl⟩
 case round =>
  obtain ⟨k,hk,X,rfl,rfl,v,Z⟩:=hrel;subst Z
  by_cases u:k<na
  ·obtain ⟨hc,H | ⟨g1,o1,rfl,V,f⟩⟩:=P.out
   ·have:=z.out;rw [H] at this;simp at this;omega
   have O:=f k (by rw [z.out];exact u)
   have Y:(k:Int)<(na:Int):=by omega
   by_cases l:k<nb
   ·obtain ⟨W,H | ⟨g2,o2,rfl,N,h⟩⟩:=Q.out
    ·have:=C.out;rw [H] at this;simp at this;omega
    have x2:=h k (by rw [C.out];exact l)
    have t:(k:Int)<(nb:Int):=by omega
    have o:=F.out k u l;have c:=tZ (a.getD k 0) (b.getD k 0) wr;generalize a.getD k 0=x at O o c;generalize b.getD k 0=y at x2 o c;have q:=aa o;clear f h o
    by_cases d:x<y
    ·have p:mh x y = -1:=by unfold mh;rw [if_pos d]
     rw [p] at c;have j:Hid (cmpL a b = -1):=by show _=_;rw [←v.out,q.out,if_pos d]
     clear p d;go_wp2_with fail;refine c.mono ?_;rintro e w1 ⟨rfl,rfl⟩;go_wp2_with fail;go_ret;rw [j.out];exact ⟨rfl,rfl⟩
    by_cases i:y<x
    ·have p:mh x y=1:=by unfold mh;rw [if_neg d,if_pos i]
     rw [p] at c;have j:Hid (cmpL a b=1):=by show _=_;rw [←v.out,q.out,if_neg d,if_pos i]
     clear p d i;go_wp2_with fail;refine c.mono ?_;rintro e w1 ⟨rfl,rfl⟩;go_wp2_with fail;go_ret;rw [j.out];exact ⟨rfl,rfl⟩
    have p:mh x y=0:=by unfold mh;rw [if_neg d,if_neg i]
    rw [p] at c;have j:Hid (cmpL (a.drop (k+1)) (b.drop (k+1))=cmpL a b):=by show _=_;rw [←v.out,q.out,if_neg d,if_neg i]
    clear p d i;go_wp2_with fail;refine c.mono ?_;rintro e w1 ⟨rfl,rfl⟩;go_wp2_with fail
    go_roundg (na-(k+1))
    case measure=>omega
    case rel=>exact ⟨k+1,by omega,by omega,rfl,by go_num,j,rfl⟩
   have j:Hid (cmpL a b=1):=by show _=_;rw [←v.out,E.out k u (by omega)]
   have t:(nb:Int)≤(k:Int):=by omega
   clear f;generalize a.getD k 0=x at O;go_wp2_with fail;go_ret;rw [j.out];exact ⟨rfl,rfl⟩
  have I:k=na:=by omega
  subst I
  by_cases l:k<nb
  ·have j:Hid (cmpL a b = -1):=by show _=_;rw [←v.out,G.out k (zT) l]
   have t:(k:Int)<(nb:Int):=by omega
   go_wp2_with fail;go_ret;rw [j.out];exact ⟨rfl,rfl⟩
  have j:Hid (cmpL a b=0):=by show _=_;rw [←v.out,D.out k (zT) (by omega)]
  have t:(nb:Int)≤(k:Int):=by omega
  go_wp2_with fail;go_ret;rw [j.out];exact ⟨rfl,rfl⟩
theorem rB (A B:Option Addr) (f g:Nat) (a b:List Int) (N:Int) (w:World) (k:a.length≤4) (l:b.length≤4) (i:aZ w A f a) (j:aZ w B g b):Rt 90 #[.agg #[.slice A a.length f,.int .i64 N],.slice B b.length g] w (.int .i64 (cmpL a b)):=by
 have h:∀ w',Bl w w'→Calls Tryz.prog 128 #[.slice A a.length f,.slice B b.length g] w' fun e w''=>e=.returned (.int .i64 (cmpL a b))∧w''=w':=fun w' d=>tf A B f g a b w' k l (i.later d) (j.later d)
 have H:=aa h;generalize cmpL a b=c at H;generalize a.length=na at H;generalize b.length=nb at H;clear i j h k l
 go_enter Tryz.func90,Tryz.ntmps90
 go_wp2_with fail;refine (H.out _ (by go_grown)).mono ?_
 rintro e w1 ⟨rfl,rfl⟩;go_wp2_with fail;go_ret;exact ⟨rfl,by go_grown⟩
end Go.Proofs.YtohgnbgamfepoaaGreatDoor
