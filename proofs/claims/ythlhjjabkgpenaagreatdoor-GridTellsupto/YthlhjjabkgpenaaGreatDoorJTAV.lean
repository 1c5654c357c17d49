/- What is told at a plac -/
import Derived.Laws.AppendOwnNone
import Derived.Test.YthlhjjabkgpenaaGreatDoorJTAS
import Derived.Test.YthlhjjabkgpenaaGreatDoorJTAU
namespace Go.Proofs.YthlhjjabkgpenaaGreatDoor
open ChangeShapes WideShapes ChangeAt RowKit
set_option maxRecDepth 99999
set_option maxHeartbeats 0
def valG (E:ByteArray→Int×Int):Tre→Int×Int
 | .num n=>eO n
 | .ref s=>E s
 | .bin o a b=>pF o (valG E a) (valG E b)
theorem iJ (N:List ByteArray) (C:List (Int×Int)) (E:ByteArray→Int×Int):∀ t:Tre,(∀ s∈refsT t,refC N C s=E s)→dX N C t=valG E t
 | .num _,_=>rfl
 | .ref s,h=>h s (by simp [refsT])
 | .bin o a b,h=>by
  rw [dX,valG,iJ N C E a fun s c=>h s (by simp [refsT,c]),iJ N C E b fun s c=>h s (by simp [refsT,c])]
theorem lL (E F:ByteArray→Int×Int):∀ t:Tre,(∀ s∈refsT t,E s=F s)→valG E t=valG F t
 | .num _,_=>rfl
 | .ref s,h=>h s (by simp [refsT])
 | .bin o a b,h=>by
  rw [valG,valG,lL E F a fun s c=>h s (by simp [refsT,c]),lL E F b fun s c=>h s (by simp [refsT,c])]
def xM (d:Dm) (i:Nat):Tre:=aB (bE (d.mem i).formula) ((bE (d.mem i).formula).length-1)
def dT (d:Dm) (at':Int→Int×Int) (i:Nat):Int×Int:=if (d.mem i).formula.size=0 then (bj d.mem d.n i).foldl (aX d.mem at') (0,0) else valG (fun s=>at' (whL d s.data.toList)) (xM d i)
theorem lJ {d:Dm} {i:Nat} (f:prsE (d.mem i).formula=0) {s:ByteArray} (b:s∈refsT (xM d i)):s.data.toList∈jN d i:=by
 unfold xM at b;obtain ⟨j,a,c,e⟩:=(i7 (dC f) s).1 b;rw [←e];refine mE ?_ c;rw [zZ,zX a];exact List.getElem_mem a
theorem eX {d:Dm} {i:Nat} (a:(d.mem i).formula.size≠0) (h:mErr d i=0):prsE (d.mem i).formula=0:=by
 unfold mErr at h;rw [if_neg a] at h
 split at h
 ·rename_i h1;exact absurd h h1
 rename_i h1;simpa using h1
theorem jp {d:Dm} (o:(au d).2=0) {i:Nat} (m:mErr d i=0) {a b:Int→Int×Int} (h:∀ x∈dQ d i,a x=b x):dT d a i=dT d b i:=by
 unfold dT
 by_cases f:(d.mem i).formula.size=0
 ·rw [if_pos f,if_pos f]
  have g:∀ (P:List Int) (c:Int×Int),(∀ x∈P,x∈bj d.mem d.n i)→P.foldl (aX d.mem a) c=P.foldl (aX d.mem b) c:=by
   intro P
   induction P with
   | nil=>intro c _;rfl
   | cons x r ih =>
    intro c l;have k:=l x (by simp)
    rw [List.foldl_cons,List.foldl_cons];have e:aX d.mem a c x=aX d.mem b c x:=by
     unfold aX
     by_cases j:(d.mem x.toNat).sign=0
     ·rw [if_neg (by omega),if_neg (by omega),if_neg (by omega),if_neg (by omega)]
     have p:x∈dQ d i:=by
      rw [←f6 f,List.mem_filter];exact ⟨k,by unfold u6;exact decide_eq_true j⟩
     rw [h x p]
    rw [e];exact ih _ fun y q=>l y (List.mem_cons_of_mem _ q)
  exact g _ _ fun x k=>k
 rw [if_neg f,if_neg f];refine lL _ _ _ fun s j=>h _ ?_
 exact (eY o f m _).2 ⟨_,lJ (eX f m) j,rfl⟩
def byTo (D:Nat→Dm) (p:List Int):Nat→Int
 | 0 => -1
 | k+1=>if leafB (D k).mem (D k).n (p.getD k 0).toNat=false∧(byTo D p k<0∨(D (byTo D p k).toNat).solve<(D k).solve) then (k:Int) else byTo D p k
theorem by_in (D:Nat→Dm) (p:List Int) (k:Nat):byTo D p k = -1∨∃ b:Nat,byTo D p k=(b:Int)∧b<k:=by
 induction k with
 | zero=>exact Or.inl rfl
 | succ k ih =>
  unfold byTo
  split
  ·exact Or.inr ⟨k,rfl,by omega⟩
  rcases ih with h | ⟨b,h1,h2⟩
  ·exact Or.inl h
  exact Or.inr ⟨b,h1,by omega⟩
def IN (d:Dm) (i:Int):Nat:=(ay (eu d) d.n).idxOf i
theorem Gy {d:Dm} (h:(a8 d).2=0) {i:Nat} (f:i<d.n):(i:Int)∈ay (eu d) d.n:=by
 refine Classical.byContradiction fun e=>?_
 obtain ⟨c,b⟩:=wL (eu d) d.n;rw [fd] at b;have:=few d.n ((i:Int) :: ay (eu d) d.n) (List.nodup_cons.2 ⟨e,c⟩) fun x a=>by
  rcases List.mem_cons.1 a with rfl | a
  ·omega
  exact b x a
 rw [List.length_cons,eK (kH d) (lD h) d.n (by rw [fd];exact zT)] at this
 omega
theorem mH {d:Dm} (h:(a8 d).2=0) {i:Nat} (l:i<d.n) {x:Int} (r:x∈dQ d i):IN d x<IN d i:=by
 obtain ⟨k,o,e⟩:=List.getElem_of_mem (Gy h l);have v:=eK (kH d) (lD h) d.n (by rw [fd];exact zT)
 have g:k<(eu d).length:=by rw [fd];omega
 obtain ⟨m,c,u,j,f,-⟩:=EH (kH d) (lD h) g;rw [fd] at c j f;have q:m=i:=by
  rw [zZ,zX o,e] at c;have:(i:Int)=(m:Int):=by simpa using c
  omega
 subst q;rw [lu l] at f;have b:=f x r;unfold IN;have a:ay (eu d) d.n=(ay (eu d) d.n).take k ++ (ay (eu d) d.n).drop k:=(List.take_append_drop _ _).symm;have p:((ay (eu d) d.n).take k).length=k:=by rw [List.length_take];omega
 have s:(ay (eu d) d.n).idxOf x<k:=by
  rw [a,List.idxOf_append,if_pos b];have:=List.idxOf_lt_length_of_mem b
  omega
 have t:k≤(ay (eu d) d.n).idxOf (m:Int):=by
  rw [a,List.idxOf_append,if_neg j]
  omega
 omega
def msrTo (D:Nat→Dm) (p:List Int):Nat→Nat
 | 0=>0
 | k+1=>msrTo D p k+IN (D k) (p.getD k 0)
theorem iT {p:List Int} {b:Nat} {x:Int} (h:b<p.length):(p.set b x).getD b 0=x:=by
 simp [List.getD,h]
theorem fH {p:List Int} {b k:Nat} {x:Int} (h:k≠b):(p.set b x).getD k 0=p.getD k 0:=by
 simp [List.getD,List.getElem?_set_ne (fun e=>h e.symm)]
theorem kG {D:Nat→Dm} {p:List Int} {b:Nat} {x:Int} (a:b<p.length) (c:IN (D b) x<IN (D b) (p.getD b 0)) (k:Nat):(k≤b→msrTo D (p.set b x) k=msrTo D p k)∧(b<k→msrTo D (p.set b x) k<msrTo D p k):=by
 induction k with
 | zero=>exact ⟨fun _=>rfl,fun h=>by omega⟩
 | succ k ih =>
  refine ⟨fun h=>?_,fun h=>?_⟩
  ·rw [msrTo,msrTo,ih.1 (by omega),fH (by omega)]
  rw [msrTo,msrTo]
  by_cases e:k=b
  ·subst e
   rw [ih.1 (zT),iT a]
   omega
  have:=ih.2 (by omega)
  rw [fH e]
  omega
def uR (D:Nat→Dm) (n:Nat) (inp:List Int→Int×Int):Nat→List Int→Int×Int
 | 0,_=>(0,0)
 | f+1,p=>if byTo D p n<0 then inp p else dT (D (byTo D p n).toNat) (fun x=>uR D n inp f (p.set (byTo D p n).toNat x)) (p.getD (byTo D p n).toNat 0).toNat
def dS (D:Nat→Dm) (n:Nat):Prop := ∀ i,i<n→(a8 (D i)).2=0
theorem fI {D:Nat→Dm} {n:Nat} {p:List Int} (h:InO D n p) {b:Nat} (a:b<n) {x:Int} (c:0≤x) (d:x<((D b).n:Int)):InO D n (p.set b x):=by
 refine ⟨h.right,by rw [List.length_set];exact h.len,fun i hi=>?_,fun i hi=>?_⟩
 ·by_cases e:i=b
  ·subst e
   rw [iT (by rw [h.len];exact a)]
   exact c
  rw [fH e];exact h.lo i hi
 by_cases e:i=b
 ·subst e
  rw [iT (by rw [h.len];exact a)]
  exact d
 rw [fH e];exact h.hi i hi
theorem Fg {D:Nat→Dm} {n:Nat} (j:dS D n) (inp:List Int→Int×Int):∀ (f g:Nat) (p:List Int),InO D n p→msrTo D p n<f→msrTo D p n<g→uR D n inp f p=uR D n inp g p:=by
 intro f
 induction f with
 | zero=>intro g p _ h;omega
 | succ f ih =>
  intro g p d r s;obtain ⟨g,rfl⟩:∃ g',g=g'+1:=⟨g-1,by omega⟩
  unfold uR
  rcases by_in D p n with h | ⟨b,h1,h2⟩
  ·rw [h,if_pos (by omega),if_pos (by omega)]
  rw [h1,if_neg (by omega),if_neg (by omega),Int.toNat_natCast]
  obtain ⟨l,m,-,-⟩:=bK (j b h2);obtain ⟨i,q⟩:0≤p.getD b 0∧p.getD b 0<((D b).n:Int):=⟨d.lo b h2,d.hi b h2⟩;refine jp l (m _ (by omega)) fun x k=>?_
  have c:=ef k;have e:(p.getD b 0).toNat<(D b).n:=by omega
  have a:=mH (j b h2) e k;rw [Int.toNat_of_nonneg i] at a;have o:=(kG (by rw [d.len];exact h2) a n).2 h2
  exact ih g _ (fI d h2 c.1 c.2) (by omega) (by omega)
def fD (D:Nat→Dm) (n:Nat) (inp:List Int→Int×Int) (p:List Int):Int×Int:=uR D n inp (msrTo D p n+1) p
theorem o5 {D:Nat→Dm} {n:Nat} (inp:List Int→Int×Int) {p:List Int} (h:byTo D p n<0):fD D n inp p=inp p:=by
 unfold fD uR;rw [if_pos h]
theorem xB {D:Nat→Dm} {n:Nat} (f:dS D n) (inp:List Int→Int×Int) {p:List Int} (e:InO D n p) {b:Nat} (k:byTo D p n=(b:Int)):fD D n inp p=dT (D b) (fun x=>fD D n inp (p.set b x)) (p.getD b 0).toNat:=by
 have a:b<n:=by
  rcases by_in D p n with h | ⟨b',h1,a⟩
  ·omega
  omega
 show uR D n inp (msrTo D p n+1) p=_
 unfold uR;rw [k,if_neg (by omega),Int.toNat_natCast]
 obtain ⟨l,m,-,-⟩:=bK (f b a);obtain ⟨i,q⟩:0≤p.getD b 0∧p.getD b 0<((D b).n:Int):=⟨e.lo b a,e.hi b a⟩;refine jp l (m _ (by omega)) fun x j=>?_
 have d:=ef j;have g:(p.getD b 0).toNat<(D b).n:=by omega
 have c:=mH (f b a) g j;rw [Int.toNat_of_nonneg i] at c;have o:=(kG (by rw [e.len];exact a) c n).2 a
 exact Fg f inp _ _ _ (fI e a d.1 d.2) (by omega) (by omega)
theorem js (L:List Int) (n x:Int):x∈cF L n↔x∈L∨x=n:=by
 induction L with
 | nil=>simp [cF]
 | cons y r ih =>
  unfold cF
  split
  ·rw [List.mem_cons,ih,List.mem_cons,or_assoc]
  split
  ·rename_i _ h
   constructor
   ·exact Or.inl
   rintro (a | a)
   ·exact a
   rw [a,←h];simp
  rw [List.mem_cons];exact or_comm
theorem kP (L:List Int) (n:Int) (h:L.Pairwise (· < ·)):(cF L n).Pairwise (· < ·):=by
 induction L with
 | nil=>simp [cF]
 | cons y r ih =>
  have a:=List.pairwise_cons.1 h;unfold cF
  split
  ·refine List.pairwise_cons.2 ⟨fun z b=>?_,ih a.2⟩
   rcases (js r n z).1 b with e | e
   ·exact a.1 z e
   omega
  split
  ·exact h
  refine List.pairwise_cons.2 ⟨fun z b=>?_,h⟩
  rcases List.mem_cons.1 b with e | e
  ·omega
  have:=a.1 z e;omega
def gi (d:Dm):List Nd→List Int→List Int
 | [],L=>L
 | x :: r,L=>gi d r (if x.op=2 then cF L (whL d x.name.data.toList) else L)
theorem qM (d:Dm):∀ (l:List Nd) (L:List Int),L.Pairwise (· < ·)→(gi d l L).Pairwise (· < ·)
 | [],_,h=>h
 | x :: r,L,h=>by
  unfold gi;refine qM d r _ ?_
  split
  ·exact kP _ _ h
  exact h
theorem ux (d:Dm):∀ (l:List Nd) (L:List Int) (z:Int),z∈gi d l L↔z∈L∨∃ x∈l,x.op=2∧z=whL d x.name.data.toList
 | [],L,z=>by simp [gi]
 | x :: r,L,z=>by
  unfold gi;rw [ux d r]
  by_cases h:x.op=2
  ·rw [if_pos h,js]
   constructor
   ·rintro ((a | a) | ⟨y,b,a⟩)
    ·exact Or.inl a
    ·exact Or.inr ⟨x,by simp,h,a⟩
    exact Or.inr ⟨y,List.mem_cons_of_mem _ b,a⟩
   rintro (a | ⟨y,b,a,c⟩)
   ·exact Or.inl (Or.inl a)
   rcases List.mem_cons.1 b with rfl | b
   ·exact Or.inl (Or.inr c)
   exact Or.inr ⟨y,b,a,c⟩
  rw [if_neg h]
  constructor
  ·rintro (a | ⟨y,b,a⟩)
   ·exact Or.inl a
   exact Or.inr ⟨y,List.mem_cons_of_mem _ b,a⟩
  rintro (a | ⟨y,b,a,c⟩)
  ·exact Or.inl a
  rcases List.mem_cons.1 b with rfl | b
  ·exact absurd a h
  exact Or.inr ⟨y,b,a,c⟩
theorem BH {d:Dm} (f:(au d).2=0) {i:Nat} (j:(d.mem i).formula.size≠0) (g:mErr d i=0):gi d (bE (d.mem i).formula) []=dQ d i:=by
 refine ju _ _ (qM d _ _ List.Pairwise.nil) (g9 _ _) fun z=>?_
 rw [ux,eY f j g]
 constructor
 ·rintro (h | ⟨x,c,a,b⟩)
  ·cases h
  exact ⟨x.name.data.toList,mE c a,b⟩
 rintro ⟨nm,a,b⟩;obtain ⟨x,c,e,rfl⟩:=yI a;exact Or.inr ⟨x,c,e,b⟩
def gj (f:Int→Bool):List Int→List Int→List Int
 | [],L=>L
 | x :: r,L=>gj f r (if f x=true then cF L x else L)
theorem oH (f:Int→Bool):∀ (l:List Int) (L:List Int),L.Pairwise (· < ·)→(gj f l L).Pairwise (· < ·)
 | [],_,h=>h
 | x :: r,L,h=>by
  unfold gj;refine oH f r _ ?_
  split
  ·exact kP _ _ h
  exact h
theorem qL (f:Int→Bool):∀ (l:List Int) (L:List Int) (z:Int),z∈gj f l L↔z∈L∨z∈l∧f z=true
 | [],L,z=>by simp [gj]
 | x :: r,L,z=>by
  unfold gj;rw [qL f r,List.mem_cons]
  by_cases h:f x=true
  ·rw [if_pos h,js]
   constructor
   ·rintro ((a | a) | ⟨a,b⟩)
    ·exact Or.inl a
    ·exact Or.inr ⟨Or.inl a,by rw [a];exact h⟩
    exact Or.inr ⟨Or.inr a,b⟩
   rintro (a | ⟨a | a,b⟩)
   ·exact Or.inl (Or.inl a)
   ·exact Or.inl (Or.inr a)
   exact Or.inr ⟨a,b⟩
  rw [if_neg h]
  constructor
  ·rintro (a | ⟨a,b⟩)
   ·exact Or.inl a
   exact Or.inr ⟨Or.inr a,b⟩
  rintro (a | ⟨a | a,b⟩)
  ·exact Or.inl a
  ·rw [a] at b;exact absurd b h
  exact Or.inr ⟨a,b⟩
theorem wY {d:Dm} {i:Nat} (a:(d.mem i).formula.size=0):gj (u6 d) (bj d.mem d.n i) []=dQ d i:=by
 rw [←f6 a];refine ju _ _ (oH _ _ _ List.Pairwise.nil) ((g9 _ _).filter _) fun z=>?_
 rw [qL,List.mem_filter]
 simp
theorem qN (d:Dm) (x:Nd):∀ (l:List Nd) (L:List Int),gi d (l ++ [x]) L=if x.op=2 then cF (gi d l L) (whL d x.name.data.toList) else gi d l L
 | [],L=>by simp [gi]
 | y :: r,L=>by
  show gi d (r ++ [x]) _=_
  rw [qN d x r]
  rfl
theorem oI (f:Int→Bool) (x:Int):∀ (l:List Int) (L:List Int),gj f (l ++ [x]) L=if f x=true then cF (gj f l L) x else gj f l L
 | [],L=>by simp [gj]
 | y :: r,L=>by
  show gj f (r ++ [x]) _=_
  rw [oI f x r]
  rfl
theorem rT (L:List Int) (n:Int):(cF L n).length≤L.length+1:=by
 induction L with
 | nil=>simp [cF]
 | cons y r ih =>
  unfold cF
  split
  ·simp only [List.length_cons];omega
  split <;> simp
theorem EQ {L:List Int} {n:Int} (h:n∉L):(cF L n).length=L.length+1:=by
 induction L with
 | nil=>simp [cF]
 | cons y r ih =>
  have a:n∉r:=fun e=>h (List.mem_cons_of_mem _ e)
  unfold cF
  split
  ·simp only [List.length_cons,ih a]
  split
  ·rename_i e
   exact absurd (by rw [e];simp) h
  simp
def fE (d:Dm) (l:List Nd) (k:Nat):List Int:=gi d (l.take k) []
theorem oG {d:Dm} {l:List Nd} {k:Nat} {x:Nd} (a:k<l.length) (b:l.getD k bH=x):fE d l (k+1)=if x.op=2 then cF (fE d l k) (whL d x.name.data.toList) else fE d l k:=by
 unfold fE;rw [lI l a,b,qN]
theorem BG (d:Dm) (l:List Nd) (k:Nat) (a:k≤l.length):(fE d l k).length≤k:=by
 induction k with
 | zero=>simp [fE,gi]
 | succ k ih =>
  rw [oG (by omega) rfl]
  have:=ih (by omega)
  split
  ·exact zV (rT _ _) (by omega)
  omega
def ek (d:Dm) (l:List Int) (k:Nat):List Int:=gj (u6 d) (l.take k) []
theorem md {d:Dm} {l:List Int} {k:Nat} {x:Int} (a:k<l.length) (b:l.getD k 0=x):ek d l (k+1)=if u6 d x=true then cF (ek d l k) x else ek d l k:=by
 unfold ek;have e:l.take (k+1)=l.take k ++ [x]:=by
  rw [List.take_succ_eq_append_getElem a,←b,zZ,zX a]
  rfl
 rw [e,oI]
theorem wP (d:Dm) (l:List Int) (k:Nat) (a:k≤l.length):(ek d l k).length≤k:=by
 induction k with
 | zero=>simp [ek,gj]
 | succ k ih =>
  rw [md (by omega) rfl]
  have:=ih (by omega)
  split
  ·exact zV (rT _ _) (by omega)
  omega
theorem DV {d:Dm} {i:Nat} (b:(d.mem i).formula.size≠0) (c:prsE (d.mem i).formula=0) {x:Nd} (f:x∈bE (d.mem i).formula) (a:x.op=2) (e:whL d x.name.data.toList<0):mErr d i=5:=by
 unfold mErr;rw [if_neg b,if_neg (by simpa using c),if_pos]
 rw [List.any_eq_true];exact ⟨_,mE f a,decide_eq_true e⟩
theorem DT {d:Dm} {i:Nat} (c:(d.mem i).formula.size≠0) (e:prsE (d.mem i).formula=0) (h:∀ x∈bE (d.mem i).formula,x.op=2→0≤whL d x.name.data.toList):mErr d i=0:=by
 unfold mErr;rw [if_neg c,if_neg (by simpa using e),if_neg]
 rw [List.any_eq_true];rintro ⟨nm,a,f⟩;obtain ⟨x,g,b,rfl⟩:=yI a;have:=h x g b;have:=of_decide_eq_true f
 omega
theorem DU {d:Dm} {i:Nat} (a:(d.mem i).formula.size≠0) (b:prsE (d.mem i).formula≠0):mErr d i=prsE (d.mem i).formula:=by
 unfold mErr;rw [if_neg a,if_pos b]
def bQ (w:World) (A:Option Addr) (c:Nat) (L:List Int):Prop:=(L=[]∧A=none∧c=0)∨(L≠[]∧aY w A c L)
theorem bQ.later {w w':World} {A:Option Addr} {c:Nat} {L:List Int} (h:bQ w A c L) (a:Bl w w'):bQ w' A c L:=by
 rcases h with h | ⟨h1,h⟩
 ·exact Or.inl h
 exact Or.inr ⟨h1,h.later a⟩
theorem bQ.nil (w:World):bQ w none 0 []:=Or.inl ⟨rfl,rfl,rfl⟩
theorem bQ.intT {w:World} {A:Option Addr} {c:Nat} {L:List Int} (h:bQ w A c L):aY w A c L:=by
 rcases h with ⟨rfl,-,rfl⟩ | ⟨-,h⟩
 ·exact aY.nil _ _ _ (by omega)
 exact h
theorem aY.pl {w:World} {A:Option Addr} {c:Nat} {L:List Int} (h:aY w A c L):aO w A c L:=by
 obtain ⟨d,-,a | ⟨b,cs,fr,a,e,f⟩⟩:=h
 ·exact ⟨d,Or.inl a⟩
 exact ⟨d,Or.inr ⟨b,0,a,(zY e).1,fun j g=>by rw [Nat.zero_add];exact f j g⟩⟩
theorem lr {L:List Int}:∀ u∈L.map (Value.int .i64),u.oneCell'=true:=by
 intro u a
 simp at a
 obtain ⟨x,-,rfl⟩:=a
 rfl
theorem kO (A:Option Addr) (cap:Nat) (L:List Int) (n:Int) (w:World) (h63:L.length≤1000000) (hL:bQ w A cap L):Calls Tryz.prog 82 #[.slice A L.length cap,.int .i64 n] w fun e w'=>(∃ A' c',e=.returned (.slice A' (cF L n).length c')∧bQ w' A' c' (cF L n))∧Bl w w':=by
 obtain ⟨i0,p,v,y,z⟩:=info_parts Tryz.infoIntF;have hPl:=hL.intT.pl;have hc63:cap≤9223372036854775807:=hL.intT.2.1;have HRs:=aa hL
 rcases hL with ⟨rfl,rfl,rfl⟩ | ⟨hne,-⟩
 ·show Calls Tryz.prog 82 #[.slice none 0 0,.int .i64 n] w _
  go_enter Tryz.func82,Tryz.ntmps82
  go_wp2_with fail;refine wp_loop_rounds 1 ?_;rw [rounds_succ]
  go_wp2_with (first
   | (at_builtin;refine wpList_append_own_none rfl _ _ 26 rfl w.heap.size 3 i0 1 Tryz.underlying26 p _ 0 _ rfl (World.ownsRow_nil w w.heap.size 3 1) rfl ?_)
   | (at_builtin;refine wpList_append_own_at _ rfl _ _ 26 rfl w.heap.size 3 i0 _ 1 8 Tryz.underlying26 p v y z rfl (by decide) _ 0 [] rfl (World.ownsRow_nil _ w.heap.size 3 1) ⟨w.heap.size,0,none⟩ 1 1 [.int .i64 n] rfl rfl ?qc1 ?qc2 ?qc3 ?qc4 ?qc5 ?_))
  case qc1=>exact cell_one_new _ _ _
  case qc2=>intro u I;simp at I;subst I;rfl
  case qc3=>unfold maxLen;omega
  case qc4=>omega
  case qc5=>simp
  intro v1 w1 c a _ _;have C:Hid (Bl w w1):=((zS).alloc (zT) _).grown a (by simp) (fun j q=>by cases q)
  have d:w1.ownsRow w.heap.size 3 1 v1 1 [.int .i64 n]:=c;have HP1:=aa (cE (L:=[n]) d);clear c a
  go_wp2_with (at_builtin;refine wpList_append_own_none rfl _ _ 26 rfl w.heap.size 3 i0 1 Tryz.underlying26 p _ 1 _ rfl d rfl ?_)
  go_ret;obtain ⟨A1,c1,rfl,Z⟩:=HP1.out;exact ⟨⟨A1,c1,rfl,Or.inr ⟨by simp [cF],Z⟩⟩,C.out⟩
 obtain ⟨hc,h0 | ⟨b,o,rfl,hb,F⟩⟩:=hPl
 ·exact absurd h0 hne
 obtain ⟨m,hm⟩:=ax L.length;have HM:=aa hm;have W:=aa F;rw [hm];have hmi:(m:Int)≤1000000:=by omega
 have hci:(cap:Int)≤9223372036854775807:=by omega
 have hmc:(m:Int)≤(cap:Int):=by omega
 clear F
 go_enter Tryz.func82,Tryz.ntmps82
 go_upto_block 0 with fail
 go_cut [5] from 7 (fun s5 wx=>(∃ k:Nat,k≤m∧s5=.int .i64 k∧(∀ i,i<k→L.getD i 0<n)∧(k=m∨n≤L.getD k 0))∧wx=w)
 case first =>
  go_wp2_with fail
  go_loopg [5] m (fun g s5 wr => ∃ (k:Nat),k≤m∧g=m-k∧s5=.int .i64 k∧(∀ i,i<k→L.getD i 0<n)∧wr=w)
  case atStart=>exact ⟨0,zU,rfl,rfl,fun i hi=>absurd hi (Nat.not_lt_zero i),rfl⟩
  case round =>
   obtain ⟨k,hk,rfl,rfl,hf,rfl⟩:=hrel;have HF:=aa hf;clear hf
   by_cases R:k<m
   ·have hki:(k:Int)<(m:Int):=by omega
    have B:=W.out k (by omega)
    obtain ⟨x,T⟩:=ax (L.getD k 0);have Y:=aa T;rw [T] at B;clear T
    by_cases M:x<n
    ·have V:Hid (∀ i,i<k+1→L.getD i 0<n):=fun i hi=>by
      by_cases e:i=k
      ·rw [e,Y.out];exact M
      exact HF.out i (by omega)
     go_wp2_with fail
     go_roundg (m-(k+1))
     case measure=>omega
     case rel=>exact ⟨k+1,by omega,rfl,by go_num,V.out,rfl⟩
    have hd1:decide (x<n)=false:=decide_eq_false M;have HGe:Hid (n≤L.getD k 0):=by show _≤_;rw [Y.out];omega
    clear M;go_wp2_with fail;go_meet;exact ⟨⟨k,hk,rfl,HF.out,Or.inr HGe.out⟩,rfl⟩
   have Q:k=m:=by omega
   subst Q;go_wp2_with fail;go_meet;exact ⟨⟨k,zT,rfl,HF.out,Or.inl rfl⟩,rfl⟩
 case rest =>
  obtain ⟨⟨k,hk,rfl,hf,K⟩,hwc⟩:=hcut;subst hwc;have hki:(k:Int)≤(m:Int):=by omega
  have N:=aa (yY L n k (by omega) hf (by rw [hm];exact K))
  have HMc:=aa hc;clear hf
  by_cases G:k<m∧L.getD k 0=n
  ·obtain ⟨R,U⟩:=G
   have HE:Hid (cF L n=L):=by show _=_;rw [N.out,if_pos ⟨by omega,U⟩]
   have hki2:(k:Int)<(m:Int):=by omega
   have B:=W.out k (by omega)
   rw [U] at B;clear U K;go_wp2_with fail;go_ret;rw [HE.out];exact ⟨⟨some ⟨b,o,none⟩,cap,by rw [HM.out];rfl,HRs.out⟩,zS⟩
  have HE:Hid (cF L n=L.take k ++ [n] ++ L.drop k):=by show _=_;rw [N.out,if_neg (by rw [hm];exact G)]
  obtain ⟨w0,rfl⟩:∃ wx:World,wx=wc:=⟨_,rfl⟩;have hkn:k≤L.length:=by omega
  have hk63:k≤1000000:=by omega
  have hkc:(k:Int)≤(cap:Int):=by omega
  have X:Hid (∀ w',Bl w0 w'→∀ j u,((L.take k).map (Value.int .i64))[j]?=some u→w'.cell? ((⟨b,o,none⟩:Addr).add j)=some u):=fun w' hB=>by
   have h:=nT (w:=w') (b:=b) (o:=o) (L:=L) (fun j q=>aL hB hb (W.out j q)) 0 k (by omega)
   exact h
  have HDk:Hid (∀ w',Bl w0 w'→∀ j u,((L.drop k).map (Value.int .i64))[j]?=some u→w'.cell? ((⟨b,o+k,none⟩:Addr).add j)=some u):=fun w' hB=>by
   have h:=nT (w:=w') (b:=b) (o:=o) (L:=L) (fun j q=>aL hB hb (W.out j q)) k (L.length-k) (by omega)
   rw [List.take_of_length_le (by simp)] at h
   exact h
  rcases Nat.lt_or_ge k m with R | hgek
  ·have hki2:(k:Int)<(m:Int):=by omega
   have B:=W.out k (by omega)
   obtain ⟨x,T⟩:=ax (L.getD k 0);have M:(x == n)=false:=by
    have:x≠n:=fun e=>G ⟨R,T.trans e⟩
    simpa using this
   rw [T] at B;clear T G K
   go_upto_region 7 with fail
   go_wp2_with (at_builtin;refine wpList_append_own_at _ rfl _ _ 26 rfl w0.heap.size 3 i0 _ 1 8 Tryz.underlying26 p v y z rfl (by decide) _ 0 [] rfl (World.ownsRow_nil _ w0.heap.size 3 1) ⟨b,o,none⟩ k cap ((L.take k).map (Value.int .i64)) rfl ?qc0 ?qc1 ?qc2 ?qc3 ?qc4 ?qc5 ?_)
   case qc0=>simp;omega
   case qc1=>exact X.out _ (zS)
   case qc2=>exact lr
   case qc3=>unfold maxLen;omega
   case qc4=>omega
   case qc5=>exact zT
   intro v1 w1 c a _ _;have s:Bl w0 w1:=(zS).grown a (zT) (fun j q=>by cases q)
   have d:w1.ownsRow w0.heap.size 3 1 v1 k ((L.take k).map (Value.int .i64)):=by simpa using c
   have C:=aa s;have D:=aa d;have S:=s.size;clear c a s d B
   go_wp2_with (at_builtin;refine wpList_append_own_at _ rfl _ _ 26 rfl w0.heap.size 3 i0 _ 1 8 Tryz.underlying26 p v y z rfl (by decide) _ k ((L.take k).map (Value.int .i64)) rfl (ar D.out ((zS).alloc (zT) _)) ⟨w1.heap.size,0,none⟩ 1 1 [.int .i64 n] rfl rfl ?qd1 ?qd2 ?qd3 ?qd4 ?qd5 ?_)
   case qd1=>exact cell_one_new _ _ _
   case qd2=>intro u I;simp at I;subst I;rfl
   case qd3=>unfold maxLen;omega
   case qd4=>omega
   case qd5=>simp;omega
   intro v2 w2 c a _ _;have t:Bl w0 w2:=(C.out.alloc S _).grown a (by simp;omega) (fun j q=>(D.out.lt j q).1)
   have J:=aa t;have f:w2.ownsRow w0.heap.size 3 1 v2 (k+1) ((L.take k ++ [n]).map (Value.int .i64)):=by simpa [List.map_append] using c
   have E:=aa f;have H:=t.size;clear c a t f
   go_wp2_with (at_builtin;refine wpList_append_own_at _ rfl _ _ 26 rfl w0.heap.size 3 i0 _ 1 8 Tryz.underlying26 p v y z rfl (by decide) _ (k+1) ((L.take k ++ [n]).map (Value.int .i64)) rfl E.out ⟨b,o+k,none⟩ (m-k) (cap-k) ((L.drop k).map (Value.int .i64)) rfl ?qe0 ?qe1 ?qe2 ?qe3 ?qe4 ?qe5 ?_)
   case qe0=>simp;omega
   case qe1=>exact HDk.out _ J.out
   case qe2=>exact lr
   case qe3=>unfold maxLen;omega
   case qe4=>omega
   case qe5=>exact H
   intro v3 w3 c a _ _;have O:Hid (Bl w0 w3):=J.out.grown a H (fun j q=>(E.out.lt j q).1)
   have r:(L.take k ++ [n] ++ L.drop k).length=k+1+(m-k):=by simp;omega
   have l:w3.ownsRow w0.heap.size 3 1 v3 (L.take k ++ [n] ++ L.drop k).length ((L.take k ++ [n] ++ L.drop k).map (Value.int .i64)):=by
    rw [r]
    simpa [List.map_append] using c
   have P:=aa (cE (L:=L.take k ++ [n] ++ L.drop k) l);clear c a l r;go_wp2_with fail;go_ret;obtain ⟨A3,c3,rfl,Z⟩:=P.out;rw [HE.out];exact ⟨⟨A3,c3,rfl,Or.inr ⟨by simp,Z⟩⟩,O.out⟩
  have Q:k=m:=by omega
  subst Q;clear G K;obtain ⟨ad,Lt⟩:∃ ad:Addr,(if cap=k then some (⟨b,o,none⟩:Addr) else some ⟨b,o+k,none⟩)=some ad:=by split <;> exact ⟨_,rfl⟩
  have HAd:=aa Lt;clear Lt
  go_upto_region 7 with fail
  go_wp2_with (at_builtin;refine wpList_append_own_at _ rfl _ _ 26 rfl w0.heap.size 3 i0 _ 1 8 Tryz.underlying26 p v y z rfl (by decide) _ 0 [] rfl (World.ownsRow_nil _ w0.heap.size 3 1) ⟨b,o,none⟩ k cap ((L.take k).map (Value.int .i64)) rfl ?qc0 ?qc1 ?qc2 ?qc3 ?qc4 ?qc5 ?_)
  case qc0=>simp;omega
  case qc1=>exact X.out _ (zS)
  case qc2=>exact lr
  case qc3=>unfold maxLen;omega
  case qc4=>omega
  case qc5=>exact zT
  intro v1 w1 c a _ _;have s:Bl w0 w1:=(zS).grown a (zT) (fun j q=>by cases q)
  have d:w1.ownsRow w0.heap.size 3 1 v1 k ((L.take k).map (Value.int .i64)):=by simpa using c
  have C:=aa s;have D:=aa d;have S:=s.size;clear c a s d
  go_wp2_with (at_builtin;refine wpList_append_own_at _ rfl _ _ 26 rfl w0.heap.size 3 i0 _ 1 8 Tryz.underlying26 p v y z rfl (by decide) _ k ((L.take k).map (Value.int .i64)) rfl (ar D.out ((zS).alloc (zT) _)) ⟨w1.heap.size,0,none⟩ 1 1 [.int .i64 n] rfl rfl ?qd1 ?qd2 ?qd3 ?qd4 ?qd5 ?_)
  case qd1=>exact cell_one_new _ _ _
  case qd2=>intro u I;simp at I;subst I;rfl
  case qd3=>unfold maxLen;omega
  case qd4=>omega
  case qd5=>simp;omega
  intro v2 w2 c a _ _;have t:Bl w0 w2:=(C.out.alloc S _).grown a (by simp;omega) (fun j q=>(D.out.lt j q).1)
  have J:=aa t;have f:w2.ownsRow w0.heap.size 3 1 v2 (k+1) ((L.take k ++ [n]).map (Value.int .i64)):=by simpa [List.map_append] using c
  have E:=aa f;have H:=t.size;clear c a t f
  go_wp2_with (at_builtin;refine wpList_append_own_at _ rfl _ _ 26 rfl w0.heap.size 3 i0 _ 1 8 Tryz.underlying26 p v y z rfl (by decide) _ (k+1) ((L.take k ++ [n]).map (Value.int .i64)) rfl E.out ad 0 (cap-k) [] (by rw [←HAd.out];rfl) ?qe0 ?qe1 ?qe2 ?qe3 ?qe4 ?qe5 ?_)
  case qe0=>rfl
  case qe1=>intro j u q;simp at q
  case qe2=>intro u I;simp at I
  case qe3=>unfold maxLen;omega
  case qe4=>omega
  case qe5=>exact H
  all_goals
   intro v3 w3 c a _ _;have O:Hid (Bl w0 w3):=J.out.grown a H (fun j q=>(E.out.lt j q).1)
   have Lu:L.drop k=[]:=List.drop_of_length_le (by omega)
   have r:(L.take k ++ [n] ++ L.drop k).length=k+1:=by rw [Lu];simp;omega
   have l:w3.ownsRow w0.heap.size 3 1 v3 (L.take k ++ [n] ++ L.drop k).length ((L.take k ++ [n] ++ L.drop k).map (Value.int .i64)):=by
    rw [r,Lu]
    simpa [List.map_append] using c
   have P:=aa (cE (L:=L.take k ++ [n] ++ L.drop k) l);clear c a l r;go_wp2_with fail;go_ret;obtain ⟨A3,c3,rfl,Z⟩:=P.out;rw [HE.out];exact ⟨⟨A3,c3,rfl,Or.inr ⟨by simp,Z⟩⟩,O.out⟩
end Go.Proofs.YthlhjjabkgpenaaGreatDoor
