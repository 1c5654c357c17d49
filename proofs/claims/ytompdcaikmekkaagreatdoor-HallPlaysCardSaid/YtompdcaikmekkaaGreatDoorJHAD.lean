/- What Check and Find of -/
import Derived.Test.YtompdcaikmekkaaGreatDoorJHAB
import Derived.Test.YtompdcaikmekkaaGreatDoorJHAC
namespace Go.Proofs.YtompdcaikmekkaaGreatDoor
open ChangeShapes WideShapes ChangeAt RowKit
set_option maxRecDepth 99999
set_option maxHeartbeats 0
def eg (w:World) (A:Option Addr) (cap n:Nat) (M:Nat→Mem):Prop:=n≤cap∧(n=0∨∃ b o,A=some ⟨b,o,none⟩∧b7 w b o n M)
theorem eg.later {w w':World} {A:Option Addr} {cap n:Nat} {M:Nat→Mem} (h:eg w A cap n M) (e:Bl w w'):eg w' A cap n M:=by
 obtain ⟨c,a | ⟨b,o,a,d⟩⟩:=h
 ·exact ⟨c,Or.inl a⟩
 exact ⟨c,Or.inr ⟨b,o,a,d.later e⟩⟩
theorem eX {d:Dm} (h:bV d≠0):az d=(-1,bV d):=by
 unfold bV at h ⊢;unfold az
 split
 ·rfl
 split
 ·rfl
 split
 ·rfl
 split
 ·rfl
 rename_i h1 h2 h3 h4
 rw [if_neg h1,if_neg h2,if_neg h3,if_neg h4] at h;exact absurd rfl h
theorem mN {d:Dm} (h:bV d=0):az d=jV d.mem d.n 0∧1≤d.n∧d.n≤12:=by
 unfold bV at h;unfold az
 split at h
 ·simp at h
 split at h
 ·simp at h
 split at h
 ·simp at h
 split at h
 ·simp at h
 rename_i h1 h2 h3 h4
 rw [if_neg h1,if_neg h2,if_neg h3,if_neg h4];exact ⟨rfl,by omega,by omega⟩
def aM (w:World) (d:Dm) (A:Option Addr) (cap T:Nat):World:=w.alloc (.cells #[.string d.name,.int .i64 d.solve,.slice A d.n cap] T)
theorem dN (w:World) (d:Dm) (A:Option Addr) (cap T:Nat):(aM w d A cap T).cell? ⟨w.heap.size,0,none⟩=some (.string d.name)∧(aM w d A cap T).cell? ⟨w.heap.size,1,none⟩=some (.int .i64 d.solve)∧(aM w d A cap T).cell? ⟨w.heap.size,2,none⟩=some (.slice A d.n cap):=by unfold aM;exact ⟨by simp,by simp,by simp⟩
theorem bg (w:World) (d:Dm) (A:Option Addr) (cap T:Nat):(aM w d A cap T).heap.size=w.heap.size+1:=by unfold aM;simp
theorem aU (w:World) (d:Dm) (A:Option Addr) (cap T:Nat):Bl w (aM w d A cap T):=by unfold aM;go_grown
theorem kr (d:Dm) (A:Option Addr) (cap:Nat) (w:World) (F:eg w A cap d.n d.mem):Rt 121 #[cM d A cap] w (.tuple #[.int .i64 (az d).1,errV (az d).2]):=by
 have f:=BR d A cap;unfold cM at f ⊢;have J:=aa F;clear F
 by_cases l:bV d=0
 ·rw [l,errV_zero] at f
  obtain ⟨t,L,B⟩:=mN l;have v:=aa t;clear t l
  go_enter Tryz.func121,Tryz.ntmps121
  go_wp2_with fail;refine (f _).mono ?_;rintro e w1 ⟨rfl,a⟩;have G:=bg w d A cap 70;have q:Bl w w1:=ae (aU w d A cap 70) a;have N:w.heap.size<w1.heap.size:=by
   have:=a.size
   change (aM w d A cap 70).heap.size≤_ at this
   omega
  have K:w1.cell? ⟨w.heap.size,2,none⟩=some (.slice A d.n cap):=(a.cell (p:=⟨w.heap.size,2,none⟩) (by show w.heap.size<(aM w d A cap 70).heap.size;rw [G];omega)).trans (dN w d A cap 70).2.2
  obtain ⟨s,O | ⟨b,o,rfl,r⟩⟩:=J.out.later q
  ·omega
  have z:=aa r;have H:(d.n:Int)≤12:=by omega
  clear a G r f;go_wp2_with fail
  go_loopg [15] d.n (fun g s15 wr => ∃ (k:Nat),k≤d.n∧g=d.n-k∧s15=.int .i64 k∧jV d.mem (d.n-k) k=jV d.mem d.n 0∧Bl w1 wr)
  case atStart=>exact ⟨0,zU,rfl,rfl,rfl,zS⟩
  case round =>
   obtain ⟨k,P,rfl,rfl,i,h⟩:=hrel
   by_cases D:k<d.n
   ·have c:=xz b o d.n cap k d.mem wr B s D (z.out.later h)
    have M:(k:Int)<(d.n:Int):=by omega
    have x:=aa i;have E:=aa h;have u:d.n-k=(d.n-(k+1))+1:=by omega
    have c2:wr.cell? ⟨w.heap.size,2,none⟩=some (.slice (some ⟨b,o,none⟩) d.n cap):=aD h N K;clear i h
    by_cases m:aZ d.mem k=0
    ·rw [m,errV_zero] at c
     have y:=aa m;clear m;go_wp2_with fail;refine c.mono ?_;rintro e w2 ⟨rfl,j⟩;go_wp2_with fail
     go_roundg (d.n-(k+1))
     case measure=>omega
     case rel=>exact ⟨k+1,by omega,rfl,by go_num,by rw [←x.out,u,nL _ y.out],ae E.out j⟩
    rw [ak m] at c;have y:=aa m;clear m;go_wp2_with fail;refine c.mono ?_;rintro e w2 ⟨rfl,j⟩;go_wp2_with fail
    go_ret2
    refine ⟨?_,ae q (ae E.out j)⟩;rw [v.out,←x.out,u,du _ y.out]
    simp [errV,y.out]
   have C:k=d.n:=by omega
   have x:=aa i;clear i;subst C;go_wp2_with fail
   go_ret2
   refine ⟨?_,ae q h⟩;rw [v.out,←x.out,Nat.sub_self]
   rfl
 rw [ak l] at f;have v:Hid (az d=(-1,bV d)):=eX l;have I:=aa l;clear l
 go_enter Tryz.func121,Tryz.ntmps121
 go_wp2_with fail;refine (f _).mono ?_;rintro e w1 ⟨rfl,a⟩;have q:Bl w w1:=ae (aU w d A cap 70) a;clear a;go_wp2_with fail
 go_ret2
 refine ⟨?_,q⟩;rw [v.out]
 simp [errV,I.out]
structure Nd where
 op:Int
 n:Int
 name:ByteArray
 left:Int
 right:Int
def bN:Nd:=⟨0,0,⟨#[]⟩,0,0⟩
def ndErr (x:Nd) (i:Nat):Int :=
 if x.op<1∨6<x.op then 1
 else if x.op=1 then (if x.n<0∨1000000<x.n then 1 else if x.name.size≠0∨x.left≠0∨x.right≠0 then 3 else 0)
 else if x.op=2 then (if aT x.name≠0 then 2 else if x.n≠0∨x.left≠0∨x.right≠0 then 3 else 0)
 else if x.left<0∨(i:Int)≤x.left∨x.right<0∨(i:Int)≤x.right then 1
 else if x.n≠0∨x.name.size≠0 then 3 else 0
def uses (x:Nd) (k:Nat):Nat:=if 2<x.op then (if x.left=(k:Int) then 1 else 0)+(if x.right=(k:Int) then 1 else 0) else 0
def usedTo (l:List Nd):Nat→Nat→Nat
 | 0,_=>0
 | i+1,k=>usedTo l i k+uses (l.getD i bN) k
def fR (l:List Nd) (i:Nat):Bool:=decide (ndErr (l.getD i bN) i≠0)
def ky (l:List Nd) (i:Nat):Bool:=decide (usedTo l l.length i≠1)
def aB (l:List Nd):Int :=
 if l.length=0 then 5
 else if 30<l.length then 4
 else if 0≤findFrom (fR l) l.length 0 then ndErr (l.getD (findFrom (fR l) l.length 0).toNat bN) (findFrom (fR l) l.length 0).toNat
 else if 0≤findFrom (ky l) (l.length-1) 0 then 3 else 0
section
variable {l:List Nd} {i:Nat}
theorem jC (h:l.length=0):aB l=5:=by simp [aB,h]
theorem l9 (h:30<l.length):aB l=4:=by
 have a:l.length≠0:=by omega
 rw [aB,if_neg a,if_pos h]
theorem oK (h:l.length≤30) (e:i<l.length) (c:fR l i=true) (b:∀ j,j<i→fR l j=false):aB l=ndErr (l.getD i bN) i:=by
 have h1 : ¬ l.length=0:=by omega
 have h2 : ¬ 30<l.length:=by omega
 have a:findFrom (fR l) l.length 0=(i:Int):=eM (zU) (by omega) c (fun j _ d=>b j d)
 rw [aB,if_neg h1,if_neg h2,a,if_pos (by omega)]
 simp
theorem oL (b:l.length≠0) (h:l.length≤30) (f:∀ j,j<l.length→fR l j=false) (g:i<l.length-1) (a:ky l i=true):aB l=3:=by
 have h2 : ¬ 30<l.length:=by omega
 have c:findFrom (fR l) l.length 0 = -1:=bQ (fun j _ k=>f j (by omega))
 rw [aB,if_neg b,if_neg h2,c,if_neg (by omega)]
 rcases findFrom_cases (ky l) (l.length-1) 0 with ⟨_,d⟩ | ⟨m,e,_⟩
 ·rw [d i (zU) (by omega)] at a;cases a
 rw [e,if_pos (by omega)]
theorem qY (a:l.length≠0) (h:l.length≤30) (d:∀ j,j<l.length→fR l j=false) (f:∀ j,j<l.length-1→ky l j=false):aB l=0:=by
 have h2 : ¬ 30<l.length:=by omega
 have b:findFrom (fR l) l.length 0 = -1:=bQ (fun j _ e=>d j (by omega))
 have c:findFrom (ky l) (l.length-1) 0 = -1:=bQ (fun j _ e=>f j (by omega))
 rw [aB,if_neg a,if_neg h2,b,if_neg (by omega),c,if_neg (by omega)]
theorem dC (h:aB l=0):0<l.length∧l.length≤30∧(∀ j,j<l.length→ndErr (l.getD j bN) j=0)∧∀ j,j<l.length-1→usedTo l l.length j=1:=by
 by_cases b:l.length=0
 ·rw [jC b] at h;cases h
 by_cases e:30<l.length
 ·rw [l9 e] at h;cases h
 refine ⟨by omega,by omega,?_⟩
 rcases findFrom_cases (fR l) l.length 0 with ⟨_,f⟩ | ⟨m,_,_,i,c,g⟩
 ·have d:∀ j,j<l.length→fR l j=false:=fun j a=>f j (zU) (by omega)
  refine ⟨fun j a=>by simpa [fR] using d j a,fun j a=>?_⟩
  rcases Bool.eq_false_or_eq_true (ky l j) with ho | ho
  ·rw [oL b (by omega) d a ho] at h;cases h
  simpa [ky] using ho
 rw [oK (by omega) (by omega) c (fun j a=>g j (zU) a)] at h
 exact absurd h (of_decide_eq_true c)
end
def nT (fn:Nat) (x y:Int) (r:Int×Int):Prop := ∀ (w:World),Calls Tryz.prog fn #[.int .i64 x,.int .i64 y] w fun e w'=>e=.returned (.agg #[.int .i64 r.1,.int .i64 r.2])∧Bl w w'
theorem dk {W w1:World} {n:Nat} (a:Below n W w1):W.heap.size≤w1.heap.size:=a.size
theorem FO (x y:Int) (c : -1000000000000≤x) (d:x≤1000000000000) (f : -1000000000000≤y) (g:y≤1000000000000):nT 181 x y (eE (x+y)):=by
 intro w
 go_enter Tryz.func181,Tryz.ntmps181
 go_wp2_with (go_at_call 52;refine (jr _ _).mono ?_;rintro e w1 ⟨rfl,a⟩;obtain ⟨b,i⟩:=dj a;have h:=dk a;simp at h)
 refine bodyPost_ret (v:=.agg #[.int .i64 (eE (x+y)).1,.int .i64 (eE (x+y)).2]) (by simp [results,Tryz.results181,go_sem,b]) rfl ⟨rfl,?_⟩
 exact (((((zS).alloc (zT) _).trans (a.mono (by simp))).setCell (by simp) _).setCell (by simp) _)
theorem Ch (x y:Int) (c : -1000000000000≤x) (d:x≤1000000000000) (f : -1000000000000≤y) (g:y≤1000000000000):nT 180 x y (eE (x-y)):=by
 intro w
 go_enter Tryz.func180,Tryz.ntmps180
 go_wp2_with (go_at_call 52;refine (jr _ _).mono ?_;rintro e w1 ⟨rfl,a⟩;obtain ⟨b,i⟩:=dj a;have h:=dk a;simp at h)
 refine bodyPost_ret (v:=.agg #[.int .i64 (eE (x-y)).1,.int .i64 (eE (x-y)).2]) (by simp [results,Tryz.results180,go_sem,b]) rfl ⟨rfl,?_⟩
 exact (((((zS).alloc (zT) _).trans (a.mono (by simp))).setCell (by simp) _).setCell (by simp) _)
def ab (n:Int):Int:=if n<0 then -n else n
theorem rX (x y:Int):ab (x*y)=ab x*ab y:=by
 unfold ab
 by_cases a:x<0 <;> by_cases b:y<0
 ·rw [if_neg (Int.not_lt.mpr (Int.le_of_lt (Int.mul_pos_of_neg_of_neg a b))),if_pos a,if_pos b,Int.neg_mul_neg]
 ·by_cases c:y=0
  ·subst c;simp
  rw [if_pos (Int.mul_neg_of_neg_of_pos a (by omega)),if_pos a,if_neg b,Int.neg_mul]
 ·by_cases c:x=0
  ·subst c;simp
  rw [if_pos (Int.mul_neg_of_pos_of_neg (by omega) b),if_neg a,if_pos b,Int.mul_neg]
 rw [if_neg (Int.not_lt.mpr (Int.mul_nonneg (by omega) (by omega))),if_neg a,if_neg b]
theorem DU {n m:Int} (h:ab n≤m) : -m≤n∧n≤m:=by unfold ab at h;split at h <;> omega
theorem DV {n m:Int} (h:m<ab n):n < -m∨m<n:=by unfold ab at h;split at h <;> omega
theorem nX {n m:Int} (a : -m≤n) (b:n≤m):0≤ab n∧ab n≤m:=by unfold ab;split <;> omega
theorem vY {n:Int} (h : ¬ n=0):1≤ab n:=by unfold ab;split <;> omega
theorem vI (n:Int) (w:World) (a : -1000000000000≤n) (b:n≤1000000000000):Calls Tryz.prog 268 #[.int .i64 n] w fun e w'=>e=.returned (.int .i64 (ab n))∧w'=w:=by
 unfold ab
 by_cases h:n<0
 ·rw [if_pos h]
  go_enter Tryz.func268,Tryz.ntmps268
  go_wp2;go_ret;exact ⟨by first | rfl | (show Ending.returned (Value.int .i64 (max n (-n)))=_;congr 2;omega) | (congr 2;omega),rfl⟩
 rw [if_neg h]
 go_enter Tryz.func268,Tryz.ntmps268
 go_wp2;go_ret;exact ⟨by first | rfl | (show Ending.returned (Value.int .i64 (max n (-n)))=_;congr 2;omega) | (congr 2;omega),rfl⟩
def CM (x y:Int):Int×Int:=if y=0 then (2,0) else eE (x.tdiv y)
theorem Ix (x y:Int):ab (x.tdiv y)≤ab x:=by
 have h:=Int.natAbs_tdiv_le_natAbs x y;unfold ab
 split <;> split <;> omega
theorem FT (x y:Int) (g : ¬ y=0):nT 247 x y (eE (wrap64 (x.tdiv y))):=by
 intro w;have c:(y == 0)=false:=by simp;omega
 go_enter Tryz.func247,Tryz.ntmps247
 go_wp2_with (go_at_call 52;refine (jr _ _).mono ?_;rintro e w1 ⟨rfl,a⟩;obtain ⟨b,f⟩:=dj a;have d:=dk a;simp at d)
 refine bodyPost_ret (v:=.agg #[.int .i64 (eE (wrap64 (x.tdiv y))).1,.int .i64 (eE (wrap64 (x.tdiv y))).2]) (by simp [results,Tryz.results247,go_sem,b]) rfl ⟨rfl,?_⟩
 exact (((((zS).alloc (zT) _).trans (a.mono (by simp))).setCell (by simp) _).setCell (by simp) _)
theorem sQ (x y:Int) (a : -1000000000000≤x) (b:x≤1000000000000):nT 247 x y (CM x y):=by
 unfold CM
 by_cases c:y=0
 ·subst c
  rw [if_pos rfl];intro w
  go_enter Tryz.func247,Tryz.ntmps247
  go_wp2;go_returns;exact ⟨rfl,by go_grown⟩
 rw [if_neg c];have d:=FT x y c;have f:=DU (Int.le_trans (Ix x y) (nX a b).2);have e:wrap64 (x.tdiv y)=x.tdiv y:=by unfold wrap64;omega
 rw [e] at d;exact d
theorem vi (x y:Int) (b : -1000000000000≤x) (c:x≤1000000000000) (d : -1000000000000≤y) (f:y≤1000000000000):nT 246 x y (eE (x*y)):=by
 intro w
 by_cases r:y=0
 ·subst r
  have n:eE (x*0)=(1,0):=by rw [Int.mul_zero];exact pk (by omega) (by omega)
  rw [n];have l:=jr 0;rw [pk (by omega) (by omega)] at l
  go_enter Tryz.func246,Tryz.ntmps246
  go_wp2_with (go_at_call 52;refine (l _).mono ?_;rintro e w1 ⟨rfl,a⟩;obtain ⟨o,t⟩:=dj a;have p:=dk a;simp at p)
  refine bodyPost_ret (v:=.agg #[.int .i64 1,.int .i64 0]) (by simp [results,Tryz.results246,go_sem,o]) rfl ⟨rfl,?_⟩
  exact (((((zS).alloc (zT) _).trans (a.mono (by simp))).setCell (by simp) _).setCell (by simp) _)
 have A:(y != 0)=true:=by simp;omega
 obtain ⟨ax0,ax1⟩:=nX b c;obtain ⟨_,ay1⟩:=nX d f;have s:=vY r;have j:=vI x;have k:=vI y
 by_cases q:1000000000000 / ab y<ab x
 ·have i:eE (x*y)=(2,0):=by
   refine jF (DV (m:=1000000000000) ?_);rw [rX];exact (Int.ediv_lt_iff_lt_mul (by omega)).mp q
  rw [i]
  go_enter Tryz.func246,Tryz.ntmps246
  go_wp2_with fail;refine (j _ b c).mono ?_;rintro e w1 ⟨rfl,rfl⟩;go_wp2_with fail;refine (k _ d f).mono ?_;rintro e w1 ⟨rfl,rfl⟩;go_wp2;go_returns;exact ⟨rfl,by go_grown⟩
 have g:ab (x*y)≤1000000000000:=by
  rw [rX];exact Int.not_lt.mp (fun h=>q ((Int.ediv_lt_iff_lt_mul (by omega)).mpr h))
 obtain ⟨u,z⟩:=DU g;have l:=jr (x*y);clear g
 go_enter Tryz.func246,Tryz.ntmps246
 go_wp2_with fail;refine (j _ b c).mono ?_;rintro e w1 ⟨rfl,rfl⟩;go_wp2_with fail;refine (k _ d f).mono ?_;rintro e w1 ⟨rfl,rfl⟩;go_wp2_with fail;refine (l _).mono ?_;rintro e w1 ⟨rfl,a⟩;obtain ⟨o,t⟩:=dj a;have p:=dk a
 simp at p
 go_wp2_with fail;refine bodyPost_ret (v:=.agg #[.int .i64 (eE (x*y)).1,.int .i64 (eE (x*y)).2]) (by simp [results,Tryz.results246,go_sem,o]) rfl ⟨rfl,?_⟩
 exact (((((zS).alloc (zT) _).trans (a.mono (by simp))).setCell (by simp) _).setCell (by simp) _)
end Go.Proofs.YtompdcaikmekkaaGreatDoor
