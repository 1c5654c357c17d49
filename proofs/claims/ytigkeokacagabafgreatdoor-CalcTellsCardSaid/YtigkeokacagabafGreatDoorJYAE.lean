/-
  What is wrong with a formula, as a plain function on plain data: of a node at its place, of all nodes in order, of who uses whom; small facts on them.
-/
import Derived.Test.YtigkeokacagabafGreatDoorJYAD
namespace Go.Proofs.YtigkeokacagabafGreatDoor
structure Nd where
 op:Int
 n:Int
 name:ByteArray
 left:Int
 right:Int
def noN:Nd:=⟨0,0,⟨#[]⟩,0,0⟩
def ndErr (x:Nd) (i:Nat):Int :=
 if x.op<1∨6<x.op then 1
 else if x.op=1 then (if x.n<0∨1000000<x.n then 1 else if x.name.size≠0∨x.left≠0∨x.right≠0 then 3 else 0)
 else if x.op=2 then (if nameErr x.name≠0 then 2 else if x.n≠0∨x.left≠0∨x.right≠0 then 3 else 0)
 else if x.left<0∨(i:Int)≤x.left∨x.right<0∨(i:Int)≤x.right then 1
 else if x.n≠0∨x.name.size≠0 then 3 else 0
def uses (x:Nd) (k:Nat):Nat:=if 2<x.op then (if x.left=(k:Int) then 1 else 0)+(if x.right=(k:Int) then 1 else 0) else 0
def usedTo (l:List Nd):Nat→Nat→Nat
 | 0,_=>0
 | i+1,k=>usedTo l i k+uses (l.getD i noN) k
def badN (l:List Nd) (i:Nat):Bool:=decide (ndErr (l.getD i noN) i≠0)
def oddN (l:List Nd) (i:Nat):Bool:=decide (usedTo l l.length i≠1)
def formErr (l:List Nd):Int :=
 if l.length=0 then 5
 else if 30<l.length then 4
 else if 0≤findFrom (badN l) l.length 0 then ndErr (l.getD (findFrom (badN l) l.length 0).toNat noN) (findFrom (badN l) l.length 0).toNat
 else if 0≤findFrom (oddN l) (l.length-1) 0 then 3 else 0
section
variable {l:List Nd} {i:Nat}
theorem form_none (h:l.length=0):formErr l=5:=by simp [formErr,h]
theorem form_full (h:30<l.length):formErr l=4:=by
 have h1:l.length≠0:=by omega
 rw [formErr,if_neg h1,if_pos h]
theorem form_bad (h:l.length≤30) (hi:i<l.length) (hb:badN l i=true) (ha:∀ j,j<i→badN l j=false):formErr l=ndErr (l.getD i noN) i:=by
 have h1 : ¬ l.length=0:=by omega
 have h2 : ¬ 30<l.length:=by omega
 have h3:findFrom (badN l) l.length 0=(i:Int):=findFrom_at (Nat.zero_le _) (by omega) hb (fun j _ hj=>ha j hj)
 rw [formErr,if_neg h1,if_neg h2,h3,if_pos (by omega)]
 simp
theorem form_odd (h0:l.length≠0) (h:l.length≤30) (hb:∀ j,j<l.length→badN l j=false) (hi:i<l.length-1) (ho:oddN l i=true):formErr l=3:=by
 have h2 : ¬ 30<l.length:=by omega
 have h3:findFrom (badN l) l.length 0 = -1:=findFrom_none (fun j _ hj=>hb j (by omega))
 rw [formErr,if_neg h0,if_neg h2,h3,if_neg (by omega)]
 rcases findFrom_cases (oddN l) (l.length-1) 0 with ⟨_,h5⟩ | ⟨m,e,_⟩
 ·rw [h5 i (Nat.zero_le _) (by omega)] at ho;cases ho
 ·rw [e,if_pos (by omega)]
theorem form_good (h0:l.length≠0) (h:l.length≤30) (hb:∀ j,j<l.length→badN l j=false) (ho:∀ j,j<l.length-1→oddN l j=false):formErr l=0:=by
 have h2 : ¬ 30<l.length:=by omega
 have h3:findFrom (badN l) l.length 0 = -1:=findFrom_none (fun j _ hj=>hb j (by omega))
 have h4:findFrom (oddN l) (l.length-1) 0 = -1:=findFrom_none (fun j _ hj=>ho j (by omega))
 rw [formErr,if_neg h0,if_neg h2,h3,if_neg (by omega),h4,if_neg (by omega)]
theorem form_right (h:formErr l=0):0<l.length∧l.length≤30∧(∀ j,j<l.length→ndErr (l.getD j noN) j=0)∧∀ j,j<l.length-1→usedTo l l.length j=1:=by
 by_cases h0:l.length=0
 ·rw [form_none h0] at h;cases h
 by_cases h1:30<l.length
 ·rw [form_full h1] at h;cases h
 refine ⟨by omega,by omega,?_⟩
 rcases findFrom_cases (badN l) l.length 0 with ⟨_,h5⟩ | ⟨m,_,_,h6,h7,h8⟩
 ·have hb:∀ j,j<l.length→badN l j=false:=fun j hj=>h5 j (Nat.zero_le _) (by omega)
  refine ⟨fun j hj=>by simpa [badN] using hb j hj,fun j hj=>?_⟩
  rcases Bool.eq_false_or_eq_true (oddN l j) with ho | ho
  ·rw [form_odd h0 (by omega) hb hj ho] at h;cases h
  ·simpa [oddN] using ho
 ·rw [form_bad (by omega) (by omega) h7 (fun j hj=>h8 j (Nat.zero_le _) hj)] at h
  exact absurd h (of_decide_eq_true h7)
end
def bindN (op:Int):Int:=if op=3∨op=4 then 1 else if op=5∨op=6 then 2 else 3
theorem bindN_ge (op:Int):1≤bindN op:=by unfold bindN;split <;> (try split) <;> omega
structure Bld where
 nodes:List Nd
 ready:List Int
 waiting:List Int
def noB:Bld:=⟨[],[],[]⟩
def addB (x:Nd) (b:Bld):Bld:=⟨b.nodes ++ [x],b.ready ++ [(b.nodes.length:Int)],b.waiting⟩
def joinBd (op:Int) (b:Bld):Bld:=addB ⟨op,0,⟨#[]⟩,b.ready.getD (b.ready.length-2) 0,b.ready.getD (b.ready.length-2+1) 0⟩ ⟨b.nodes,b.ready.take (b.ready.length-2),b.waiting⟩
def settleTo (least:Int):Nat→Bld→Bld
 | 0,b=>b
 | k+1,b=>if b.waiting.getD k 0=0∨bindN (b.waiting.getD k 0)<least then b else settleTo least k (joinBd (b.waiting.getD k 0) ⟨b.nodes,b.ready,b.waiting.take k⟩)
def settleB (least:Int) (b:Bld):Bld:=settleTo least b.waiting.length b
def numW (t:ByteArray):Int:=t.data.toList.foldl (fun n c=>n*10+((c.toNat:Int)-48)) 0
def opndN (t:ByteArray):Nd:=if 97≤byteN t 0∧byteN t 0≤122 then ⟨2,0,t,0,0⟩ else ⟨1,numW t,⟨#[]⟩,0,0⟩
def signI (c:Int):Int:=if c=43 then 0 else if c=45 then 1 else if c=42 then 2 else if c=47 then 3 else -1
def takeB (b:Bld) (t:ByteArray):Bld :=
 if byteN t 0=40 then ⟨b.nodes,b.ready,b.waiting ++ [0]⟩
 else if byteN t 0=41 then ⟨(settleB 0 b).nodes,(settleB 0 b).ready,(settleB 0 b).waiting.take ((settleB 0 b).waiting.length-1)⟩
 else if 0≤signI (byteN t 0) then ⟨(settleB (bindN (3+signI (byteN t 0))) b).nodes,(settleB (bindN (3+signI (byteN t 0))) b).ready,(settleB (bindN (3+signI (byteN t 0))) b).waiting ++ [3+signI (byteN t 0)]⟩
 else addB (opndN t) b
def zerosN (l:List Int):Nat:=l.countP (fun x=>decide (x=0))
def opsN (l:List Int):Nat:=l.countP (fun x=>decide (x≠0))
theorem zo_len (l:List Int):zerosN l+opsN l=l.length:=by
 induction l with
 | nil=>rfl
 | cons x r ih =>
  simp only [zerosN,opsN,List.countP_cons,List.length_cons] at *
  by_cases h:x=0
  ·rw [if_pos (by simpa using h),if_neg (by simpa using h)];omega
  ·rw [if_neg (by simpa using h),if_pos (by simpa using h)];omega
def digB (c:Int):Bool:=decide (48≤c) && decide (c≤57)
def letB (c:Int):Bool:=decide (97≤c) && decide (c≤122)
def leadTo (p:Int→Bool) (t:ByteArray):Nat→Nat→Nat
 | 0,i=>i
 | f+1,i=>if p (byteN t i) then leadTo p t f (i+1) else i
def leadN (p:Int→Bool) (t:ByteArray):Nat:=leadTo p t t.size 0
def nextB (s:ByteArray) (a:Nat):Int:=if a=s.size then 0 else byteN s a
structure Rd (S:Type) where
 at':Nat
 opn:Nat
 st:S
section
variable {S:Type} (s:ByteArray) (tk:S→ByteArray→S)
def wordR (n:Nat) (r:Rd S):Rd S:=⟨r.at'+n,r.opn,tk r.st (s.extract r.at' (r.at'+n))⟩
def opensR:Nat→Rd S→Rd S
 | 0,r=>r
 | f+1,r=>if nextB s r.at'=40 then opensR f (wordR s tk 1 ⟨r.at',r.opn+1,r.st⟩) else r
def closesR:Nat→Rd S→Rd S
 | 0,r=>r
 | f+1,r=>if 0<r.opn∧nextB s r.at'=41 then closesR f (wordR s tk 1 ⟨r.at',r.opn-1,r.st⟩) else r
def digitsN (a:Nat):Nat:=if nextB s a=48 then 1 else min (leadN digB (s.extract a s.size)) 7
def openedR (r:Rd S):Rd S:=opensR s tk (s.size-r.at') r
def operandR (r:Rd S):Rd S×Bool :=
 if digB (nextB s (openedR s tk r).at') then (closesR s tk s.size (wordR s tk (digitsN s (openedR s tk r).at') (openedR s tk r)),true)
 else if letB (nextB s (openedR s tk r).at') then (closesR s tk s.size (wordR s tk (leadN letB (s.extract (openedR s tk r).at' s.size)) (openedR s tk r)),true)
 else (openedR s tk r,false)
def signR (r:Rd S):Rd S×Bool:=if signI (nextB s r.at')<0 then (r,false) else (wordR s tk 1 r,true)
def loopR:Nat→Rd S→Rd S×Bool
 | 0,r=>(r,true)
 | f+1,r=>if r.at'<s.size then
   (if (signR s tk r).2 then (if (operandR s tk (signR s tk r).1).2 then loopR f (operandR s tk (signR s tk r).1).1 else ((operandR s tk (signR s tk r).1).1,false)) else ((signR s tk r).1,false))
  else (r,true)
def allR (r:Rd S):Rd S×Bool :=
 if (operandR s tk r).2 then (if (loopR s tk s.size (operandR s tk r).1).2 then ((loopR s tk s.size (operandR s tk r).1).1,decide ((loopR s tk s.size (operandR s tk r).1).1.opn=0)) else ((loopR s tk s.size (operandR s tk r).1).1,false))
 else ((operandR s tk r).1,false)
end
end Go.Proofs.YtigkeokacagabafGreatDoor
namespace Go.Proofs.YtigkeokacagabafGreatDoor
open Go.ChangeShapes Go.WideShapes Go.ChangeAt Go.RowKit
def Makes (fn:Nat) (x y:Int) (r:Int×Int):Prop := ∀ (w:World),Calls Tryz.prog fn #[.int .i64 x,.int .i64 y] w fun e w'=>e=.returned (.agg #[.int .i64 r.1,.int .i64 r.2])∧Below w.heap.size w w'
theorem bsize {W w1:World} {n:Nat} (hb:Below n W w1):W.heap.size≤w1.heap.size:=hb.size
theorem plus_any (x y:Int) (hx1 : -1000000000000≤x) (hx2:x≤1000000000000) (hy1 : -1000000000000≤y) (hy2:y≤1000000000000):Makes 212 x y (ofP (x+y)):=by
 intro w
 go_enter Tryz.func212,Tryz.ntmps212
 go_wp2_with (go_at_call 23;refine (of_any _ _).mono ?_;rintro e w1 ⟨rfl,hb⟩;obtain ⟨hc,hf⟩:=bcell hb;have hz:=bsize hb;simp at hz)
 refine bodyPost_ret (v:=.agg #[.int .i64 (ofP (x+y)).1,.int .i64 (ofP (x+y)).2]) (by simp [results,Tryz.results212,go_sem,hc]) rfl ⟨rfl,?_⟩
 exact (((((Below.refl _ _).alloc (Nat.le_refl _) _).trans (hb.mono (by simp))).setCell (by simp) _).setCell (by simp) _)
theorem minus_any (x y:Int) (hx1 : -1000000000000≤x) (hx2:x≤1000000000000) (hy1 : -1000000000000≤y) (hy2:y≤1000000000000):Makes 211 x y (ofP (x-y)):=by
 intro w
 go_enter Tryz.func211,Tryz.ntmps211
 go_wp2_with (go_at_call 23;refine (of_any _ _).mono ?_;rintro e w1 ⟨rfl,hb⟩;obtain ⟨hc,hf⟩:=bcell hb;have hz:=bsize hb;simp at hz)
 refine bodyPost_ret (v:=.agg #[.int .i64 (ofP (x-y)).1,.int .i64 (ofP (x-y)).2]) (by simp [results,Tryz.results211,go_sem,hc]) rfl ⟨rfl,?_⟩
 exact (((((Below.refl _ _).alloc (Nat.le_refl _) _).trans (hb.mono (by simp))).setCell (by simp) _).setCell (by simp) _)
def ab (n:Int):Int:=if n<0 then -n else n
theorem ab_mul (x y:Int):ab (x*y)=ab x*ab y:=by
 unfold ab
 by_cases hx:x<0 <;> by_cases hy:y<0
 ·rw [if_neg (Int.not_lt.mpr (Int.le_of_lt (Int.mul_pos_of_neg_of_neg hx hy))),if_pos hx,if_pos hy,Int.neg_mul_neg]
 ·by_cases h0:y=0
  ·subst h0;simp
  ·rw [if_pos (Int.mul_neg_of_neg_of_pos hx (by omega)),if_pos hx,if_neg hy,Int.neg_mul]
 ·by_cases h0:x=0
  ·subst h0;simp
  ·rw [if_pos (Int.mul_neg_of_pos_of_neg (by omega) hy),if_neg hx,if_pos hy,Int.mul_neg]
 ·rw [if_neg (Int.not_lt.mpr (Int.mul_nonneg (by omega) (by omega))),if_neg hx,if_neg hy]
theorem ab_bd {n m:Int} (h:ab n≤m) : -m≤n∧n≤m:=by unfold ab at h;split at h <;> omega
theorem ab_out {n m:Int} (h:m<ab n):n < -m∨m<n:=by unfold ab at h;split at h <;> omega
theorem ab_in {n m:Int} (h1 : -m≤n) (h2:n≤m):0≤ab n∧ab n≤m:=by unfold ab;split <;> omega
theorem ab_pos {n:Int} (h : ¬ n=0):1≤ab n:=by unfold ab;split <;> omega
theorem size_any (n:Int) (w:World) (h1 : -1000000000000≤n) (h2:n≤1000000000000):Calls Tryz.prog 269 #[.int .i64 n] w fun e w'=>e=.returned (.int .i64 (ab n))∧w'=w:=by
 unfold ab
 by_cases h:n<0
 ·rw [if_pos h]
  go_enter Tryz.func269,Tryz.ntmps269
  go_wp2
  go_ret
  exact ⟨by first | rfl | (show Ending.returned (Value.int .i64 (max n (-n)))=_;congr 2;omega) | (congr 2;omega),rfl⟩
 ·rw [if_neg h]
  go_enter Tryz.func269,Tryz.ntmps269
  go_wp2
  go_ret
  exact ⟨by first | rfl | (show Ending.returned (Value.int .i64 (max n (-n)))=_;congr 2;omega) | (congr 2;omega),rfl⟩
def quoP (x y:Int):Int×Int:=if y=0 then (2,0) else ofP (x.tdiv y)
theorem tdiv_bd (x y:Int):ab (x.tdiv y)≤ab x:=by
 have h:=Int.natAbs_tdiv_le_natAbs x y
 unfold ab
 split <;> split <;> omega
theorem quo_wrap (x y:Int) (hy : ¬ y=0):Makes 255 x y (ofP (wrap64 (x.tdiv y))):=by
 intro w
 have hy0:(y == 0)=false:=by simp;omega
 go_enter Tryz.func255,Tryz.ntmps255
 go_wp2_with (go_at_call 23;refine (of_any _ _).mono ?_;rintro e w1 ⟨rfl,hb⟩;obtain ⟨hc,hf⟩:=bcell hb;have hz:=bsize hb;simp at hz)
 refine bodyPost_ret (v:=.agg #[.int .i64 (ofP (wrap64 (x.tdiv y))).1,.int .i64 (ofP (wrap64 (x.tdiv y))).2]) (by simp [results,Tryz.results255,go_sem,hc]) rfl ⟨rfl,?_⟩
 exact (((((Below.refl _ _).alloc (Nat.le_refl _) _).trans (hb.mono (by simp))).setCell (by simp) _).setCell (by simp) _)
theorem quotient_any (x y:Int) (hx1 : -1000000000000≤x) (hx2:x≤1000000000000):Makes 255 x y (quoP x y):=by
 unfold quoP
 by_cases hy:y=0
 ·subst hy
  rw [if_pos rfl]
  intro w
  go_enter Tryz.func255,Tryz.ntmps255
  go_wp2
  go_returns
  exact ⟨rfl,by go_grown⟩
 ·rw [if_neg hy]
  have hq:=quo_wrap x y hy
  have hb:=ab_bd (Int.le_trans (tdiv_bd x y) (ab_in hx1 hx2).2)
  have hw:wrap64 (x.tdiv y)=x.tdiv y:=by unfold wrap64;omega
  rw [hw] at hq
  exact hq
theorem product_any (x y:Int) (hx1 : -1000000000000≤x) (hx2:x≤1000000000000) (hy1 : -1000000000000≤y) (hy2:y≤1000000000000):Makes 254 x y (ofP (x*y)):=by
 intro w
 by_cases hy:y=0
 ·subst hy
  have hb0:ofP (x*0)=(1,0):=by rw [Int.mul_zero];exact ofP_in (by omega) (by omega)
  rw [hb0]
  have ho:=of_any 0
  rw [ofP_in (by omega) (by omega)] at ho
  go_enter Tryz.func254,Tryz.ntmps254
  go_wp2_with (go_at_call 23;refine (ho _).mono ?_;rintro e w1 ⟨rfl,hb⟩;obtain ⟨hc,hf⟩:=bcell hb;have hz:=bsize hb;simp at hz)
  refine bodyPost_ret (v:=.agg #[.int .i64 1,.int .i64 0]) (by simp [results,Tryz.results254,go_sem,hc]) rfl ⟨rfl,?_⟩
  exact (((((Below.refl _ _).alloc (Nat.le_refl _) _).trans (hb.mono (by simp))).setCell (by simp) _).setCell (by simp) _)
 ·have hy0:(y != 0)=true:=by simp;omega
  obtain ⟨ax0,ax1⟩:=ab_in hx1 hx2
  obtain ⟨_,ay1⟩:=ab_in hy1 hy2
  have ay0:=ab_pos hy
  have hsx:=size_any x
  have hsy:=size_any y
  by_cases hg:1000000000000 / ab y<ab x
  ·have hout:ofP (x*y)=(2,0):=by
    refine ofP_out (ab_out (m:=1000000000000) ?_)
    rw [ab_mul]
    exact (Int.ediv_lt_iff_lt_mul (by omega)).mp hg
   rw [hout]
   go_enter Tryz.func254,Tryz.ntmps254
   go_wp2_with fail
   refine (hsx _ hx1 hx2).mono ?_
   rintro e w1 ⟨rfl,rfl⟩
   go_wp2_with fail
   refine (hsy _ hy1 hy2).mono ?_
   rintro e w1 ⟨rfl,rfl⟩
   go_wp2
   go_returns
   exact ⟨rfl,by go_grown⟩
  ·have hin:ab (x*y)≤1000000000000:=by
    rw [ab_mul]
    exact Int.not_lt.mp (fun h=>hg ((Int.ediv_lt_iff_lt_mul (by omega)).mpr h))
   obtain ⟨hp1,hp2⟩:=ab_bd hin
   have ho:=of_any (x*y)
   clear hin
   go_enter Tryz.func254,Tryz.ntmps254
   go_wp2_with fail
   refine (hsx _ hx1 hx2).mono ?_
   rintro e w1 ⟨rfl,rfl⟩
   go_wp2_with fail
   refine (hsy _ hy1 hy2).mono ?_
   rintro e w1 ⟨rfl,rfl⟩
   go_wp2_with fail
   refine (ho _).mono ?_
   rintro e w1 ⟨rfl,hb⟩
   obtain ⟨hc,hf⟩:=bcell hb
   have hz:=bsize hb
   simp at hz
   go_wp2_with fail
   refine bodyPost_ret (v:=.agg #[.int .i64 (ofP (x*y)).1,.int .i64 (ofP (x*y)).2]) (by simp [results,Tryz.results254,go_sem,hc]) rfl ⟨rfl,?_⟩
   exact (((((Below.refl _ _).alloc (Nat.le_refl _) _).trans (hb.mono (by simp))).setCell (by simp) _).setCell (by simp) _)
end Go.Proofs.YtigkeokacagabafGreatDoor
