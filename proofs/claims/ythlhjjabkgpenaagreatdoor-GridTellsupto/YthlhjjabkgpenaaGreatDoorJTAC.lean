/- What is wrong with a f -/
import Derived.Test.YthlhjjabkgpenaaGreatDoorJTAA
import Derived.Test.YthlhjjabkgpenaaGreatDoorJTAB
namespace Go.Proofs.YthlhjjabkgpenaaGreatDoor
open ChangeShapes WideShapes ChangeAt RowKit
set_option maxRecDepth 99999
set_option maxHeartbeats 0
structure Nd where
 op:Int
 n:Int
 name:ByteArray
 left:Int
 right:Int
def bH:Nd:=⟨0,0,⟨#[]⟩,0,0⟩
def ndErr (x:Nd) (i:Nat):Int :=
 if x.op<1∨6<x.op then 1
 else if x.op=1 then (if x.n<0∨1000000<x.n then 1 else if x.name.size≠0∨x.left≠0∨x.right≠0 then 3 else 0)
 else if x.op=2 then (if aJ x.name≠0 then 2 else if x.n≠0∨x.left≠0∨x.right≠0 then 3 else 0)
 else if x.left<0∨(i:Int)≤x.left∨x.right<0∨(i:Int)≤x.right then 1
 else if x.n≠0∨x.name.size≠0 then 3 else 0
def uses (x:Nd) (k:Nat):Nat:=if 2<x.op then (if x.left=(k:Int) then 1 else 0)+(if x.right=(k:Int) then 1 else 0) else 0
def usedTo (l:List Nd):Nat→Nat→Nat
 | 0,_=>0
 | i+1,k=>usedTo l i k+uses (l.getD i bH) k
def fu (l:List Nd) (i:Nat):Bool:=decide (ndErr (l.getD i bH) i≠0)
def kf (l:List Nd) (i:Nat):Bool:=decide (usedTo l l.length i≠1)
def av (l:List Nd):Int :=
 if l.length=0 then 5
 else if 30<l.length then 4
 else if 0≤findFrom (fu l) l.length 0 then ndErr (l.getD (findFrom (fu l) l.length 0).toNat bH) (findFrom (fu l) l.length 0).toNat
 else if 0≤findFrom (kf l) (l.length-1) 0 then 3 else 0
section
variable {l:List Nd} {i:Nat}
theorem jg (h:l.length=0):av l=5:=by simp [av,h]
theorem lm (h:30<l.length):av l=4:=by
 have a:l.length≠0:=by omega
 rw [av,if_neg a,if_pos h]
theorem nD (h:l.length≤30) (e:i<l.length) (c:fu l i=true) (b:∀ j,j<i→fu l j=false):av l=ndErr (l.getD i bH) i:=by
 have h1 : ¬ l.length=0:=by omega
 have h2 : ¬ 30<l.length:=by omega
 have a:findFrom (fu l) l.length 0=(i:Int):=eq (zU) (by omega) c (fun j _ d=>b j d)
 rw [av,if_neg h1,if_neg h2,a,if_pos (by omega)]
 simp
theorem nE (b:l.length≠0) (h:l.length≤30) (f:∀ j,j<l.length→fu l j=false) (g:i<l.length-1) (a:kf l i=true):av l=3:=by
 have h2 : ¬ 30<l.length:=by omega
 have c:findFrom (fu l) l.length 0 = -1:=bN (fun j _ k=>f j (by omega))
 rw [av,if_neg b,if_neg h2,c,if_neg (by omega)]
 rcases findFrom_cases (kf l) (l.length-1) 0 with ⟨_,d⟩ | ⟨m,e,_⟩
 ·rw [d i (zU) (by omega)] at a;cases a
 rw [e,if_pos (by omega)]
theorem qe (a:l.length≠0) (h:l.length≤30) (d:∀ j,j<l.length→fu l j=false) (f:∀ j,j<l.length-1→kf l j=false):av l=0:=by
 have h2 : ¬ 30<l.length:=by omega
 have b:findFrom (fu l) l.length 0 = -1:=bN (fun j _ e=>d j (by omega))
 have c:findFrom (kf l) (l.length-1) 0 = -1:=bN (fun j _ e=>f j (by omega))
 rw [av,if_neg a,if_neg h2,b,if_neg (by omega),c,if_neg (by omega)]
theorem dw (h:av l=0):0<l.length∧l.length≤30∧(∀ j,j<l.length→ndErr (l.getD j bH) j=0)∧∀ j,j<l.length-1→usedTo l l.length j=1:=by
 by_cases b:l.length=0
 ·rw [jg b] at h;cases h
 by_cases e:30<l.length
 ·rw [lm e] at h;cases h
 refine ⟨by omega,by omega,?_⟩
 rcases findFrom_cases (fu l) l.length 0 with ⟨_,f⟩ | ⟨m,_,_,i,c,g⟩
 ·have d:∀ j,j<l.length→fu l j=false:=fun j a=>f j (zU) (by omega)
  refine ⟨fun j a=>by simpa [fu] using d j a,fun j a=>?_⟩
  rcases Bool.eq_false_or_eq_true (kf l j) with ho | ho
  ·rw [nE b (by omega) d a ho] at h;cases h
  simpa [kf] using ho
 rw [nD (by omega) (by omega) c (fun j a=>g j (zU) a)] at h
 exact absurd h (of_decide_eq_true c)
end
def bindN (op:Int):Int:=if op=3∨op=4 then 1 else if op=5∨op=6 then 2 else 3
theorem m9 (op:Int):1≤bindN op:=by unfold bindN;split <;> (try split) <;> omega
structure Bld where
 nodes:List Nd
 ready:List Int
 waiting:List Int
def noB:Bld:=⟨[],[],[]⟩
def jC (x:Nd) (b:Bld):Bld:=⟨b.nodes ++ [x],b.ready ++ [(b.nodes.length:Int)],b.waiting⟩
def db (op:Int) (b:Bld):Bld:=jC ⟨op,0,⟨#[]⟩,b.ready.getD (b.ready.length-2) 0,b.ready.getD (b.ready.length-2+1) 0⟩ ⟨b.nodes,b.ready.take (b.ready.length-2),b.waiting⟩
def a6 (least:Int):Nat→Bld→Bld
 | 0,b=>b
 | k+1,b=>if b.waiting.getD k 0=0∨bindN (b.waiting.getD k 0)<least then b else a6 least k (db (b.waiting.getD k 0) ⟨b.nodes,b.ready,b.waiting.take k⟩)
def settleB (least:Int) (b:Bld):Bld:=a6 least b.waiting.length b
def numW (t:ByteArray):Int:=t.data.toList.foldl (fun n c=>n*10+((c.toNat:Int)-48)) 0
def opndN (t:ByteArray):Nd:=if 97≤byteN t 0∧byteN t 0≤122 then ⟨2,0,t,0,0⟩ else ⟨1,numW t,⟨#[]⟩,0,0⟩
def signI (c:Int):Int:=if c=43 then 0 else if c=45 then 1 else if c=42 then 2 else if c=47 then 3 else -1
def takeB (b:Bld) (t:ByteArray):Bld :=
 if byteN t 0=40 then ⟨b.nodes,b.ready,b.waiting ++ [0]⟩
 else if byteN t 0=41 then ⟨(settleB 0 b).nodes,(settleB 0 b).ready,(settleB 0 b).waiting.take ((settleB 0 b).waiting.length-1)⟩
 else if 0≤signI (byteN t 0) then ⟨(settleB (bindN (3+signI (byteN t 0))) b).nodes,(settleB (bindN (3+signI (byteN t 0))) b).ready,(settleB (bindN (3+signI (byteN t 0))) b).waiting ++ [3+signI (byteN t 0)]⟩
 else jC (opndN t) b
def dL (l:List Int):Nat:=l.countP (fun x=>decide (x=0))
def opsN (l:List Int):Nat:=l.countP (fun x=>decide (x≠0))
theorem FH (l:List Int):dL l+opsN l=l.length:=by
 induction l with
 | nil=>rfl
 | cons x r ih =>
  simp only [dL,opsN,List.countP_cons,List.length_cons] at *
  by_cases h:x=0
  ·rw [if_pos (by simpa using h),if_neg (by simpa using h)];omega
  rw [if_neg (by simpa using h),if_pos (by simpa using h)];omega
def bV (c:Int):Bool:=decide (48≤c) && decide (c≤57)
def bD (c:Int):Bool:=decide (97≤c) && decide (c≤122)
def leadTo (p:Int→Bool) (t:ByteArray):Nat→Nat→Nat
 | 0,i=>i
 | f+1,i=>if p (byteN t i) then leadTo p t f (i+1) else i
def leadN (p:Int→Bool) (t:ByteArray):Nat:=leadTo p t t.size 0
def nextB (s:ByteArray) (a:Nat):Int:=if a=s.size then 0 else byteN s a
structure Rd (S:Type) where
 at':Nat
 opn:Nat
 st:S
section
variable {S:Type} (s:ByteArray) (tk:S→ByteArray→S)
def wordR (n:Nat) (r:Rd S):Rd S:=⟨r.at'+n,r.opn,tk r.st (s.extract r.at' (r.at'+n))⟩
def opensR:Nat→Rd S→Rd S
 | 0,r=>r
 | f+1,r=>if nextB s r.at'=40 then opensR f (wordR s tk 1 ⟨r.at',r.opn+1,r.st⟩) else r
def bh:Nat→Rd S→Rd S
 | 0,r=>r
 | f+1,r=>if 0<r.opn∧nextB s r.at'=41 then bh f (wordR s tk 1 ⟨r.at',r.opn-1,r.st⟩) else r
def digitsN (a:Nat):Nat:=if nextB s a=48 then 1 else min (leadN bV (s.extract a s.size)) 7
def bF (r:Rd S):Rd S:=opensR s tk (s.size-r.at') r
def az (r:Rd S):Rd S×Bool :=
 if bV (nextB s (bF s tk r).at') then (bh s tk s.size (wordR s tk (digitsN s (bF s tk r).at') (bF s tk r)),true)
 else if bD (nextB s (bF s tk r).at') then (bh s tk s.size (wordR s tk (leadN bD (s.extract (bF s tk r).at' s.size)) (bF s tk r)),true)
 else (bF s tk r,false)
def b9 (r:Rd S):Rd S×Bool:=if signI (nextB s r.at')<0 then (r,false) else (wordR s tk 1 r,true)
def dj:Nat→Rd S→Rd S×Bool
 | 0,r=>(r,true)
 | f+1,r=>if r.at'<s.size then
   (if (b9 s tk r).2 then (if (az s tk (b9 s tk r).1).2 then dj f (az s tk (b9 s tk r).1).1 else ((az s tk (b9 s tk r).1).1,false)) else ((b9 s tk r).1,false))
  else (r,true)
def gI (r:Rd S):Rd S×Bool :=
 if (az s tk r).2 then (if (dj s tk s.size (az s tk r).1).2 then ((dj s tk s.size (az s tk r).1).1,decide ((dj s tk s.size (az s tk r).1).1.opn=0)) else ((dj s tk s.size (az s tk r).1).1,false))
 else ((az s tk r).1,false)
end
def mX (fn:Nat) (x y:Int) (r:Int×Int):Prop := ∀ (w:World),Calls Tryz.prog fn #[.int .i64 x,.int .i64 y] w fun e w'=>e=.returned (.agg #[.int .i64 r.1,.int .i64 r.2])∧Bl w w'
theorem di {W w1:World} {n:Nat} (a:Below n W w1):W.heap.size≤w1.heap.size:=a.size
theorem EO (x y:Int) (c : -1000000000000≤x) (d:x≤1000000000000) (f : -1000000000000≤y) (g:y≤1000000000000):mX 187 x y (eO (x+y)):=by
 intro w
 go_enter Tryz.func187,Tryz.ntmps187
 go_wp2_with (go_at_call 94;refine (kg _ _).mono ?_;rintro e w1 ⟨rfl,a⟩;obtain ⟨b,i⟩:=cB a;have h:=di a;simp at h)
 refine bodyPost_ret (v:=.agg #[.int .i64 (eO (x+y)).1,.int .i64 (eO (x+y)).2]) (by simp [results,Tryz.results187,go_sem,b]) rfl ⟨rfl,?_⟩
 exact (((((zS).alloc (zT) _).trans (a.mono (by simp))).setCell (by simp) _).setCell (by simp) _)
theorem Bb (x y:Int) (c : -1000000000000≤x) (d:x≤1000000000000) (f : -1000000000000≤y) (g:y≤1000000000000):mX 186 x y (eO (x-y)):=by
 intro w
 go_enter Tryz.func186,Tryz.ntmps186
 go_wp2_with (go_at_call 94;refine (kg _ _).mono ?_;rintro e w1 ⟨rfl,a⟩;obtain ⟨b,i⟩:=cB a;have h:=di a;simp at h)
 refine bodyPost_ret (v:=.agg #[.int .i64 (eO (x-y)).1,.int .i64 (eO (x-y)).2]) (by simp [results,Tryz.results186,go_sem,b]) rfl ⟨rfl,?_⟩
 exact (((((zS).alloc (zT) _).trans (a.mono (by simp))).setCell (by simp) _).setCell (by simp) _)
def ab (n:Int):Int:=if n<0 then -n else n
theorem rh (x y:Int):ab (x*y)=ab x*ab y:=by
 unfold ab
 by_cases a:x<0 <;> by_cases b:y<0
 ·rw [if_neg (Int.not_lt.mpr (Int.le_of_lt (Int.mul_pos_of_neg_of_neg a b))),if_pos a,if_pos b,Int.neg_mul_neg]
 ·by_cases c:y=0
  ·subst c;simp
  rw [if_pos (Int.mul_neg_of_neg_of_pos a (by omega)),if_pos a,if_neg b,Int.neg_mul]
 ·by_cases c:x=0
  ·subst c;simp
  rw [if_pos (Int.mul_neg_of_pos_of_neg (by omega) b),if_neg a,if_pos b,Int.mul_neg]
 rw [if_neg (Int.not_lt.mpr (Int.mul_nonneg (by omega) (by omega))),if_neg a,if_neg b]
theorem CO {n m:Int} (h:ab n≤m) : -m≤n∧n≤m:=by unfold ab at h;split at h <;> omega
theorem CP {n m:Int} (h:m<ab n):n < -m∨m<n:=by unfold ab at h;split at h <;> omega
theorem m6 {n m:Int} (a : -m≤n) (b:n≤m):0≤ab n∧ab n≤m:=by unfold ab;split <;> omega
theorem u9 {n:Int} (h : ¬ n=0):1≤ab n:=by unfold ab;split <;> omega
theorem uQ (n:Int) (w:World) (a : -1000000000000≤n) (b:n≤1000000000000):Calls Tryz.prog 276 #[.int .i64 n] w fun e w'=>e=.returned (.int .i64 (ab n))∧w'=w:=by
 unfold ab
 by_cases h:n<0
 ·rw [if_pos h]
  go_enter Tryz.func276,Tryz.ntmps276
  go_wp2;go_ret;exact ⟨by first | rfl | (show Ending.returned (Value.int .i64 (max n (-n)))=_;congr 2;omega) | (congr 2;omega),rfl⟩
 rw [if_neg h]
 go_enter Tryz.func276,Tryz.ntmps276
 go_wp2;go_ret;exact ⟨by first | rfl | (show Ending.returned (Value.int .i64 (max n (-n)))=_;congr 2;omega) | (congr 2;omega),rfl⟩
def BK (x y:Int):Int×Int:=if y=0 then (2,0) else eO (x.tdiv y)
theorem GV (x y:Int):ab (x.tdiv y)≤ab x:=by
 have h:=Int.natAbs_tdiv_le_natAbs x y;unfold ab
 split <;> split <;> omega
theorem EU (x y:Int) (g : ¬ y=0):mX 254 x y (eO (wrap64 (x.tdiv y))):=by
 intro w;have c:(y == 0)=false:=by simp;omega
 go_enter Tryz.func254,Tryz.ntmps254
 go_wp2_with (go_at_call 94;refine (kg _ _).mono ?_;rintro e w1 ⟨rfl,a⟩;obtain ⟨b,f⟩:=cB a;have d:=di a;simp at d)
 refine bodyPost_ret (v:=.agg #[.int .i64 (eO (wrap64 (x.tdiv y))).1,.int .i64 (eO (wrap64 (x.tdiv y))).2]) (by simp [results,Tryz.results254,go_sem,b]) rfl ⟨rfl,?_⟩
 exact (((((zS).alloc (zT) _).trans (a.mono (by simp))).setCell (by simp) _).setCell (by simp) _)
theorem rU (x y:Int) (a : -1000000000000≤x) (b:x≤1000000000000):mX 254 x y (BK x y):=by
 unfold BK
 by_cases c:y=0
 ·subst c
  rw [if_pos rfl];intro w
  go_enter Tryz.func254,Tryz.ntmps254
  go_wp2;go_returns;exact ⟨rfl,by go_grown⟩
 rw [if_neg c];have d:=EU x y c;have f:=CO (Int.le_trans (GV x y) (m6 a b).2);have e:wrap64 (x.tdiv y)=x.tdiv y:=by unfold wrap64;omega
 rw [e] at d;exact d
theorem uw (x y:Int) (b : -1000000000000≤x) (c:x≤1000000000000) (d : -1000000000000≤y) (f:y≤1000000000000):mX 253 x y (eO (x*y)):=by
 intro w
 by_cases r:y=0
 ·subst r
  have n:eO (x*0)=(1,0):=by rw [Int.mul_zero];exact oj (by omega) (by omega)
  rw [n];have l:=kg 0;rw [oj (by omega) (by omega)] at l
  go_enter Tryz.func253,Tryz.ntmps253
  go_wp2_with (go_at_call 94;refine (l _).mono ?_;rintro e w1 ⟨rfl,a⟩;obtain ⟨o,t⟩:=cB a;have p:=di a;simp at p)
  refine bodyPost_ret (v:=.agg #[.int .i64 1,.int .i64 0]) (by simp [results,Tryz.results253,go_sem,o]) rfl ⟨rfl,?_⟩
  exact (((((zS).alloc (zT) _).trans (a.mono (by simp))).setCell (by simp) _).setCell (by simp) _)
 have A:(y != 0)=true:=by simp;omega
 obtain ⟨ax0,ax1⟩:=m6 b c;obtain ⟨_,ay1⟩:=m6 d f;have s:=u9 r;have j:=uQ x;have k:=uQ y
 by_cases q:1000000000000 / ab y<ab x
 ·have i:eO (x*y)=(2,0):=by
   refine jn (CP (m:=1000000000000) ?_);rw [rh];exact (Int.ediv_lt_iff_lt_mul (by omega)).mp q
  rw [i]
  go_enter Tryz.func253,Tryz.ntmps253
  go_wp2_with fail;refine (j _ b c).mono ?_;rintro e w1 ⟨rfl,rfl⟩;go_wp2_with fail;refine (k _ d f).mono ?_;rintro e w1 ⟨rfl,rfl⟩;go_wp2;go_returns;exact ⟨rfl,by go_grown⟩
 have g:ab (x*y)≤1000000000000:=by
  rw [rh];exact Int.not_lt.mp (fun h=>q ((Int.ediv_lt_iff_lt_mul (by omega)).mpr h))
 obtain ⟨u,z⟩:=CO g;have l:=kg (x*y);clear g
 go_enter Tryz.func253,Tryz.ntmps253
 go_wp2_with fail;refine (j _ b c).mono ?_;rintro e w1 ⟨rfl,rfl⟩;go_wp2_with fail;refine (k _ d f).mono ?_;rintro e w1 ⟨rfl,rfl⟩;go_wp2_with fail;refine (l _).mono ?_;rintro e w1 ⟨rfl,a⟩;obtain ⟨o,t⟩:=cB a;have p:=di a
 simp at p
 go_wp2_with fail;refine bodyPost_ret (v:=.agg #[.int .i64 (eO (x*y)).1,.int .i64 (eO (x*y)).2]) (by simp [results,Tryz.results253,go_sem,o]) rfl ⟨rfl,?_⟩
 exact (((((zS).alloc (zT) _).trans (a.mono (by simp))).setCell (by simp) _).setCell (by simp) _)
theorem ep {k n:Int} (h:good k n=true) (w:World):Rt 38 #[.agg #[.int .i64 k,.int .i64 n]] w .nilIface:=by
 have a:=ld k n w;rw [if_pos h] at a;exact a
theorem Db {k n:Int} (h:good k n=false) (w:World):Rt 38 #[.agg #[.int .i64 k,.int .i64 n]] w (.iface 68 (.int .i64 1)):=by
 have a:=ld k n w;rw [if_neg (by simp [h])] at a
 exact a
def mV (s:Nat) (ka na kb nb:Int) (w:World):Prop:=s+4≤w.heap.size∧K5 ka na kb nb (s+1+1+1) w
 ∧ w.cell? ⟨s,0,none⟩=some (.int .i64 ka)∧w.cell? ⟨s,1,none⟩=some (.int .i64 na)∧w.cell? ⟨s+1,0,none⟩=some (.int .i64 kb)∧w.cell? ⟨s+1,1,none⟩=some (.int .i64 nb)
 ∧ w.cell? ⟨s+1+1,0,none⟩=some (.int .i64 0)∧w.cell? ⟨s+1+1,1,none⟩=some (.int .i64 0)∧w.frozen? ⟨s+1+1,0,none⟩=false∧w.frozen? ⟨s+1+1,1,none⟩=false
theorem mV.later {s:Nat} {ka na kb nb:Int} {w w':World} (h:mV s ka na kb nb w) (a:Bl w w'):mV s ka na kb nb w':=by
 obtain ⟨k,⟨t0,t1,t2,t3,t4⟩,b,c,d,e,f,g,i,j⟩:=h;have l:=a.size;refine ⟨by omega,⟨by omega,?_,?_,?_,?_⟩,?_,?_,?_,?_,?_,?_,?_,?_⟩
 ·rw [a.cell (p:=⟨s+1+1+1,0,none⟩) (by show s+1+1+1<_;omega)];exact t1
 ·rw [a.cell (p:=⟨s+1+1+1,1,none⟩) (by show s+1+1+1<_;omega)];exact t2
 ·rw [a.cell (p:=⟨s+1+1+1,2,none⟩) (by show s+1+1+1<_;omega)];exact t3
 ·rw [a.cell (p:=⟨s+1+1+1,3,none⟩) (by show s+1+1+1<_;omega)];exact t4
 ·rw [a.cell (p:=⟨s,0,none⟩) (by show s<_;omega)];exact b
 ·rw [a.cell (p:=⟨s,1,none⟩) (by show s<_;omega)];exact c
 ·rw [a.cell (p:=⟨s+1,0,none⟩) (by show s+1<_;omega)];exact d
 ·rw [a.cell (p:=⟨s+1,1,none⟩) (by show s+1<_;omega)];exact e
 ·rw [a.cell (p:=⟨s+1+1,0,none⟩) (by show s+1+1<_;omega)];exact f
 ·rw [a.cell (p:=⟨s+1+1,1,none⟩) (by show s+1+1<_;omega)];exact g
 ·rw [a.frozen (p:=⟨s+1+1,0,none⟩) (by show s+1+1<_;omega)];exact i
 rw [a.frozen (p:=⟨s+1+1,1,none⟩) (by show s+1+1<_;omega)];exact j
theorem mV.first (ka na kb nb:Int) (w:World):mV w.heap.size ka na kb nb ((((w.alloc (Obj.cells #[.int .i64 ka,.int .i64 na] 40)).alloc (Obj.cells #[.int .i64 kb,.int .i64 nb] 40)).alloc (Obj.cells #[.int .i64 0,.int .i64 0] 40)).alloc (Obj.cells #[.int .i64 ka,.int .i64 na,.int .i64 kb,.int .i64 nb] 40)):=by
 refine ⟨by simp,⟨by simp,?_,?_,?_,?_⟩,?_,?_,?_,?_,?_,?_,?_,?_⟩ <;> simp [go_sem]
theorem mV.alloc {s:Nat} {ka na kb nb:Int} {w:World} (h:mV s ka na kb nb w) (o:Obj):mV s ka na kb nb (w.alloc o):=h.later ((zS).alloc (zT) _)
theorem wh (z A:Value) (ka na kb nb:Int) (w:World) (x:good ka na=true) (g:good kb nb=true) (h:((fun k:Int=>k == 2) ka || (fun k:Int=>k == 2) kb)=true) :
  Rt 184 #[.agg #[.int .i64 ka,.int .i64 na],.agg #[.int .i64 kb,.int .i64 nb],z,A] w (.tuple #[.agg #[.int .i64 2,.int .i64 0],.nilIface]):=by
 have s:=ep x;have t:=ep g;clear g x;have u:=mV.first ka na kb nb w
 go_enter Tryz.func184,Tryz.ntmps184
 go_wp2_with fail;refine wp_loop_rounds 3 ?_;rw [rounds_succ];go_wp2_with fail;refine (s _).mono ?_;rintro e w1 ⟨rfl,b⟩;have q:=(u.alloc _).later b;have B:Bl w w1:=Below.trans (by go_grown) (b.mono (by simp;omega))
 clear u b;obtain ⟨p,⟨t0,t1,t2,t3,t4⟩,i,j,l,m,c,d,n,o⟩:=id q;go_wp2_with fail;rw [rounds_succ];go_wp2_with fail;refine (t _).mono ?_;rintro e w2 ⟨rfl,b⟩;have r:=(q.alloc _).later b;have f:Bl w w2:=Below.trans (by go_grown) (b.mono (by simp;omega))
 clear q b p t0 t1 t2 t3 t4 i j l m c d n o B;obtain ⟨p,⟨t0,t1,t2,t3,t4⟩,i,j,l,m,c,d,n,o⟩:=id r;go_wp2_with fail;rw [rounds_succ];go_wp2_with fail;have a:=eC 226 (fun k=>k == 2) lk j8 ka na kb nb _ w2 t0 t1 t2 t3 t4
 rw [h] at a;refine a.mono ?_;rintro e w3 ⟨rfl,b⟩;have y:=r.later b;have C:Bl w w3:=Below.trans f (b.mono (by omega))
 clear r b p t0 t1 t2 t3 t4 i j l m c d n o f a;obtain ⟨p,D,i,j,l,m,c,d,n,o⟩:=id y;clear h;go_wp2_with fail;refine bodyPost_ret (v:=.tuple #[.agg #[.int .i64 2,.int .i64 0],.nilIface]) (by simp [results,Tryz.results184,go_sem,c,d]) rfl ⟨rfl,?_⟩
 go_grown
theorem wg (y:Nat) (p:Int→Int→Bool) (L:dv y) (F:su y p) (I:Value) (ka na kb nb:Int) (w:World) (E:good ka na=true) (r:good kb nb=true) (s:((fun k:Int=>k == 2) ka || (fun k:Int=>k == 2) kb)=false) (B:p ka kb=true) :
  Rt 184 #[.agg #[.int .i64 ka,.int .i64 na],.agg #[.int .i64 kb,.int .i64 nb],.func (.func y) #[] #[],I] w (.tuple #[.agg #[.int .i64 0,.int .i64 0],.nilIface]):=by
 have H:=aa F;clear F;unfold dv at L;have z:=ep E;have A:=ep r;clear r E;have D:=mV.first ka na kb nb w
 go_enter Tryz.func184,Tryz.ntmps184
 go_wp2_with fail;refine wp_loop_rounds 3 ?_;rw [rounds_succ];go_wp2_with fail;refine (z _).mono ?_;rintro e w1 ⟨rfl,a⟩;have t:=(D.alloc _).later a;have J:Bl w w1:=Below.trans (by go_grown) (a.mono (by simp;omega))
 clear D a;obtain ⟨n,⟨t0,t1,t2,t3,t4⟩,g,h,i,j,c,d,l,m⟩:=id t;go_wp2_with fail;rw [rounds_succ];go_wp2_with fail;refine (A _).mono ?_;rintro e w2 ⟨rfl,a⟩;have u:=(t.alloc _).later a;have o:Bl w w2:=Below.trans (by go_grown) (a.mono (by simp;omega))
 clear t a n t0 t1 t2 t3 t4 g h i j c d l m J;obtain ⟨n,⟨t0,t1,t2,t3,t4⟩,g,h,i,j,c,d,l,m⟩:=id u;go_wp2_with fail;rw [rounds_succ];go_wp2_with fail;have b:=eC 226 (fun k=>k == 2) lk j8 ka na kb nb _ w2 t0 t1 t2 t3 t4
 rw [s] at b;refine b.mono ?_;rintro e w3 ⟨rfl,a⟩;have x:=u.later a;have q:Bl w w3:=Below.trans o (a.mono (by omega))
 clear u a n t0 t1 t2 t3 t4 g h i j c d l m o b;obtain ⟨n,C,g,h,i,j,c,d,l,m⟩:=id x;clear s;go_wp2_with fail;have f:=H.out ka na kb nb _ w3 C;rw [B] at f;refine f.mono ?_;rintro e w4 ⟨rfl,a⟩;have G:=x.later a;have K:Bl w w4:=Below.trans q (a.mono (by omega))
 clear x a n C g h i j c d l m q f;obtain ⟨n,C,g,h,i,j,c,d,l,m⟩:=id G;go_wp2_with fail;refine bodyPost_ret (v:=.tuple #[.agg #[.int .i64 0,.int .i64 0],.nilIface]) (by simp [results,Tryz.results184,go_sem,c,d]) rfl ⟨rfl,?_⟩
 go_grown
theorem AI (C D:Nat) (p:Int→Int→Bool) (R:dv C) (L:su C p) (G:dv D) (ka na kb nb:Int) (w:World) (J:good ka na=true) (t:good kb nb=true) (r:Int×Int) (K:mX D na nb r) (u:((fun k:Int=>k == 2) ka || (fun k:Int=>k == 2) kb)=false) (H:p ka kb=false) :
  Rt 184 #[.agg #[.int .i64 ka,.int .i64 na],.agg #[.int .i64 kb,.int .i64 nb],.func (.func C) #[] #[],.func (.func D) #[] #[]] w (.tuple #[.agg #[.int .i64 r.1,.int .i64 r.2],.nilIface]):=by
 have O:=aa L;have N:=aa K;clear L K;unfold dv at R G;have E:=ep J;have F:=ep t;clear t J;have I:=mV.first ka na kb nb w
 go_enter Tryz.func184,Tryz.ntmps184
 go_wp2_with fail;refine wp_loop_rounds 3 ?_;rw [rounds_succ];go_wp2_with fail;refine (E _).mono ?_;rintro e w1 ⟨rfl,a⟩;have y:=(I.alloc _).later a;have P:Bl w w1:=Below.trans (by go_grown) (a.mono (by simp;omega))
 clear I a;obtain ⟨m,⟨t0,t1,t2,t3,t4⟩,f,g,h,i,c,d,j,l⟩:=id y;go_wp2_with fail;rw [rounds_succ];go_wp2_with fail;refine (F _).mono ?_;rintro e w2 ⟨rfl,a⟩;have z:=(y.alloc _).later a;have o:Bl w w2:=Below.trans (by go_grown) (a.mono (by simp;omega))
 clear y a m t0 t1 t2 t3 t4 f g h i c d j l P;obtain ⟨m,⟨t0,t1,t2,t3,t4⟩,f,g,h,i,c,d,j,l⟩:=id z;go_wp2_with fail;rw [rounds_succ];go_wp2_with fail;have b:=eC 226 (fun k=>k == 2) lk j8 ka na kb nb _ w2 t0 t1 t2 t3 t4
 rw [u] at b;refine b.mono ?_;rintro e w3 ⟨rfl,a⟩;have A:=z.later a;have q:Bl w w3:=Below.trans o (a.mono (by omega))
 clear z a m t0 t1 t2 t3 t4 f g h i c d j l o b;obtain ⟨m,x,f,g,h,i,c,d,j,l⟩:=id A;clear u;go_wp2_with fail;have n:=O.out ka na kb nb _ w3 x;rw [H] at n;refine n.mono ?_;rintro e w4 ⟨rfl,a⟩;have B:=A.later a;have s:Bl w w4:=Below.trans q (a.mono (by omega))
 clear A a m x f g h i c d j l q n;obtain ⟨m,x,f,g,h,i,c,d,j,l⟩:=id B;go_wp2_with fail;refine (N.out _).mono ?_;rintro e w5 ⟨rfl,a⟩;have M:=B.later a;have Q:Bl w w5:=Below.trans s (a.mono (by omega))
 clear B a m x f g h i c d j l s;obtain ⟨m,x,f,g,h,i,c,d,j,l⟩:=id M;go_wp2_with fail;refine bodyPost_ret (v:=.tuple #[.agg #[.int .i64 r.1,.int .i64 r.2],.nilIface]) (by simp [results,Tryz.results184,go_sem,c,d]) rfl ⟨rfl,?_⟩
 go_grown
end Go.Proofs.YthlhjjabkgpenaaGreatDoor
