/-
  What is wrong with a formula, as a plain function on plain data: of a node at its place, of all nodes in order, of who uses whom; small facts on them.
-/
import Derived.Lib.ItoaMem
import Derived.Lib.AtoiTie
import Derived.Lib.Strings
import Derived.Test.YtpoklbfffgpbiaaGreatDoorJYAA
namespace Go.Proofs.YtpoklbfffgpbiaaGreatDoor
structure Nd where
 op:Int
 n:Int
 name:ByteArray
 left:Int
 right:Int
def noN:Nd:=⟨0,0,⟨#[]⟩,0,0⟩
def ndErr (x:Nd) (i:Nat):Int :=
 if x.op<1∨6<x.op then 1
 else if x.op=1 then (if x.n<0∨1000000<x.n then 1 else if x.name.size≠0∨x.left≠0∨x.right≠0 then 3 else 0)
 else if x.op=2 then (if nameErr x.name≠0 then 2 else if x.n≠0∨x.left≠0∨x.right≠0 then 3 else 0)
 else if x.left<0∨(i:Int)≤x.left∨x.right<0∨(i:Int)≤x.right then 1
 else if x.n≠0∨x.name.size≠0 then 3 else 0
def uses (x:Nd) (k:Nat):Nat:=if 2<x.op then (if x.left=(k:Int) then 1 else 0)+(if x.right=(k:Int) then 1 else 0) else 0
def usedTo (l:List Nd):Nat→Nat→Nat
 | 0,_=>0
 | i+1,k=>usedTo l i k+uses (l.getD i noN) k
def badN (l:List Nd) (i:Nat):Bool:=decide (ndErr (l.getD i noN) i≠0)
def oddN (l:List Nd) (i:Nat):Bool:=decide (usedTo l l.length i≠1)
def formErr (l:List Nd):Int :=
 if l.length=0 then 5
 else if 30<l.length then 4
 else if 0≤findFrom (badN l) l.length 0 then ndErr (l.getD (findFrom (badN l) l.length 0).toNat noN) (findFrom (badN l) l.length 0).toNat
 else if 0≤findFrom (oddN l) (l.length-1) 0 then 3 else 0
section
variable {l:List Nd} {i:Nat}
theorem form_none (h:l.length=0):formErr l=5:=by simp [formErr,h]
theorem form_full (h:30<l.length):formErr l=4:=by
 have h1:l.length≠0:=by omega
 rw [formErr,if_neg h1,if_pos h]
theorem form_bad (h:l.length≤30) (hi:i<l.length) (hb:badN l i=true) (ha:∀ j,j<i→badN l j=false):formErr l=ndErr (l.getD i noN) i:=by
 have h1 : ¬ l.length=0:=by omega
 have h2 : ¬ 30<l.length:=by omega
 have h3:findFrom (badN l) l.length 0=(i:Int):=findFrom_at (Nat.zero_le _) (by omega) hb (fun j _ hj=>ha j hj)
 rw [formErr,if_neg h1,if_neg h2,h3,if_pos (by omega)]
 simp
theorem form_odd (h0:l.length≠0) (h:l.length≤30) (hb:∀ j,j<l.length→badN l j=false) (hi:i<l.length-1) (ho:oddN l i=true):formErr l=3:=by
 have h2 : ¬ 30<l.length:=by omega
 have h3:findFrom (badN l) l.length 0 = -1:=findFrom_none (fun j _ hj=>hb j (by omega))
 rw [formErr,if_neg h0,if_neg h2,h3,if_neg (by omega)]
 rcases findFrom_cases (oddN l) (l.length-1) 0 with ⟨_,h5⟩ | ⟨m,e,_⟩
 ·rw [h5 i (Nat.zero_le _) (by omega)] at ho;cases ho
 ·rw [e,if_pos (by omega)]
theorem form_good (h0:l.length≠0) (h:l.length≤30) (hb:∀ j,j<l.length→badN l j=false) (ho:∀ j,j<l.length-1→oddN l j=false):formErr l=0:=by
 have h2 : ¬ 30<l.length:=by omega
 have h3:findFrom (badN l) l.length 0 = -1:=findFrom_none (fun j _ hj=>hb j (by omega))
 have h4:findFrom (oddN l) (l.length-1) 0 = -1:=findFrom_none (fun j _ hj=>ho j (by omega))
 rw [formErr,if_neg h0,if_neg h2,h3,if_neg (by omega),h4,if_neg (by omega)]
theorem form_right (h:formErr l=0):0<l.length∧l.length≤30∧(∀ j,j<l.length→ndErr (l.getD j noN) j=0)∧∀ j,j<l.length-1→usedTo l l.length j=1:=by
 by_cases h0:l.length=0
 ·rw [form_none h0] at h;cases h
 by_cases h1:30<l.length
 ·rw [form_full h1] at h;cases h
 refine ⟨by omega,by omega,?_⟩
 rcases findFrom_cases (badN l) l.length 0 with ⟨_,h5⟩ | ⟨m,_,_,h6,h7,h8⟩
 ·have hb:∀ j,j<l.length→badN l j=false:=fun j hj=>h5 j (Nat.zero_le _) (by omega)
  refine ⟨fun j hj=>by simpa [badN] using hb j hj,fun j hj=>?_⟩
  rcases Bool.eq_false_or_eq_true (oddN l j) with ho | ho
  ·rw [form_odd h0 (by omega) hb hj ho] at h;cases h
  ·simpa [oddN] using ho
 ·rw [form_bad (by omega) (by omega) h7 (fun j hj=>h8 j (Nat.zero_le _) hj)] at h
  exact absurd h (of_decide_eq_true h7)
end
def bindN (op:Int):Int:=if op=3∨op=4 then 1 else if op=5∨op=6 then 2 else 3
theorem bindN_ge (op:Int):1≤bindN op:=by unfold bindN;split <;> (try split) <;> omega
structure Bld where
 nodes:List Nd
 ready:List Int
 waiting:List Int
def noB:Bld:=⟨[],[],[]⟩
def addB (x:Nd) (b:Bld):Bld:=⟨b.nodes ++ [x],b.ready ++ [(b.nodes.length:Int)],b.waiting⟩
def joinBd (op:Int) (b:Bld):Bld:=addB ⟨op,0,⟨#[]⟩,b.ready.getD (b.ready.length-2) 0,b.ready.getD (b.ready.length-2+1) 0⟩ ⟨b.nodes,b.ready.take (b.ready.length-2),b.waiting⟩
def settleTo (least:Int):Nat→Bld→Bld
 | 0,b=>b
 | k+1,b=>if b.waiting.getD k 0=0∨bindN (b.waiting.getD k 0)<least then b else settleTo least k (joinBd (b.waiting.getD k 0) ⟨b.nodes,b.ready,b.waiting.take k⟩)
def settleB (least:Int) (b:Bld):Bld:=settleTo least b.waiting.length b
def numW (t:ByteArray):Int:=t.data.toList.foldl (fun n c=>n*10+((c.toNat:Int)-48)) 0
def opndN (t:ByteArray):Nd:=if 97≤byteN t 0∧byteN t 0≤122 then ⟨2,0,t,0,0⟩ else ⟨1,numW t,⟨#[]⟩,0,0⟩
def signI (c:Int):Int:=if c=43 then 0 else if c=45 then 1 else if c=42 then 2 else if c=47 then 3 else -1
def takeB (b:Bld) (t:ByteArray):Bld :=
 if byteN t 0=40 then ⟨b.nodes,b.ready,b.waiting ++ [0]⟩
 else if byteN t 0=41 then ⟨(settleB 0 b).nodes,(settleB 0 b).ready,(settleB 0 b).waiting.take ((settleB 0 b).waiting.length-1)⟩
 else if 0≤signI (byteN t 0) then ⟨(settleB (bindN (3+signI (byteN t 0))) b).nodes,(settleB (bindN (3+signI (byteN t 0))) b).ready,(settleB (bindN (3+signI (byteN t 0))) b).waiting ++ [3+signI (byteN t 0)]⟩
 else addB (opndN t) b
def zerosN (l:List Int):Nat:=l.countP (fun x=>decide (x=0))
def opsN (l:List Int):Nat:=l.countP (fun x=>decide (x≠0))
theorem zo_len (l:List Int):zerosN l+opsN l=l.length:=by
 induction l with
 | nil=>rfl
 | cons x r ih =>
  simp only [zerosN,opsN,List.countP_cons,List.length_cons] at *
  by_cases h:x=0
  ·rw [if_pos (by simpa using h),if_neg (by simpa using h)];omega
  ·rw [if_neg (by simpa using h),if_pos (by simpa using h)];omega
def digB (c:Int):Bool:=decide (48≤c) && decide (c≤57)
def letB (c:Int):Bool:=decide (97≤c) && decide (c≤122)
def leadTo (p:Int→Bool) (t:ByteArray):Nat→Nat→Nat
 | 0,i=>i
 | f+1,i=>if p (byteN t i) then leadTo p t f (i+1) else i
def leadN (p:Int→Bool) (t:ByteArray):Nat:=leadTo p t t.size 0
def nextB (s:ByteArray) (a:Nat):Int:=if a=s.size then 0 else byteN s a
structure Rd (S:Type) where
 at':Nat
 opn:Nat
 st:S
section
variable {S:Type} (s:ByteArray) (tk:S→ByteArray→S)
def wordR (n:Nat) (r:Rd S):Rd S:=⟨r.at'+n,r.opn,tk r.st (s.extract r.at' (r.at'+n))⟩
def opensR:Nat→Rd S→Rd S
 | 0,r=>r
 | f+1,r=>if nextB s r.at'=40 then opensR f (wordR s tk 1 ⟨r.at',r.opn+1,r.st⟩) else r
def closesR:Nat→Rd S→Rd S
 | 0,r=>r
 | f+1,r=>if 0<r.opn∧nextB s r.at'=41 then closesR f (wordR s tk 1 ⟨r.at',r.opn-1,r.st⟩) else r
def digitsN (a:Nat):Nat:=if nextB s a=48 then 1 else min (leadN digB (s.extract a s.size)) 7
def openedR (r:Rd S):Rd S:=opensR s tk (s.size-r.at') r
def operandR (r:Rd S):Rd S×Bool :=
 if digB (nextB s (openedR s tk r).at') then (closesR s tk s.size (wordR s tk (digitsN s (openedR s tk r).at') (openedR s tk r)),true)
 else if letB (nextB s (openedR s tk r).at') then (closesR s tk s.size (wordR s tk (leadN letB (s.extract (openedR s tk r).at' s.size)) (openedR s tk r)),true)
 else (openedR s tk r,false)
def signR (r:Rd S):Rd S×Bool:=if signI (nextB s r.at')<0 then (r,false) else (wordR s tk 1 r,true)
def loopR:Nat→Rd S→Rd S×Bool
 | 0,r=>(r,true)
 | f+1,r=>if r.at'<s.size then
   (if (signR s tk r).2 then (if (operandR s tk (signR s tk r).1).2 then loopR f (operandR s tk (signR s tk r).1).1 else ((operandR s tk (signR s tk r).1).1,false)) else ((signR s tk r).1,false))
  else (r,true)
def allR (r:Rd S):Rd S×Bool :=
 if (operandR s tk r).2 then (if (loopR s tk s.size (operandR s tk r).1).2 then ((loopR s tk s.size (operandR s tk r).1).1,decide ((loopR s tk s.size (operandR s tk r).1).1.opn=0)) else ((loopR s tk s.size (operandR s tk r).1).1,false))
 else ((operandR s tk r).1,false)
end
end Go.Proofs.YtpoklbfffgpbiaaGreatDoor
namespace Go.Proofs.YtpoklbfffgpbiaaGreatDoor
open Go.Lib
theorem decFrom_append (l1 l2:List UInt8):∀ acc,decFrom acc (l1 ++ l2)=(decFrom acc l1).bind fun m=>decFrom m l2:=by
 induction l1 with
 | nil=>intro acc;rfl
 | cons a t ih =>
  intro acc
  simp only [List.cons_append,decFrom]
  cases digitVal a with
  | none=>rfl
  | some d=>exact ih _
theorem digitVal_ofNat (d:Nat) (h:d<10):digitVal (UInt8.ofNat (48+d))=some d:=by
 have e:(UInt8.ofNat (48+d)).toNat=48+d:=by simp;omega
 unfold digitVal
 rw [e,if_pos (by omega)]
 congr 1
 omega
theorem decFrom_decDigits (u:Nat):∀ acc,decFrom acc (decDigits u)=some (acc*10 ^ (decDigits u).length+u):=by
 induction u using Nat.strongRecOn with
 | _ u ih =>
  intro acc
  by_cases h:u<10
  ·rw [decDigits_one h]
   simp only [decFrom,digitVal_ofNat u h,List.length_singleton,Nat.pow_one]
  ·rw [decDigits,dif_neg h,decFrom_append,ih (u / 10) (by omega)]
   simp only [Option.bind_some,decFrom,digitVal_ofNat (u % 10) (by omega),List.length_append,List.length_singleton,Nat.pow_succ]
   congr 1
   have e:u / 10*10+u % 10=u:=by omega
   generalize 10 ^ (decDigits (u / 10)).length=p at *
   rw [Nat.add_mul,Nat.mul_assoc]
   omega
theorem decDigits_ne (u:Nat):decDigits u≠[]:=by
 rw [decDigits]
 split <;> simp
theorem decNat_decDigits (u:Nat):decNat (decDigits u)=some u:=by
 unfold decNat
 rw [if_neg (by simp [decDigits_ne]),decFrom_decDigits]
 simp
theorem head_decDigits (u:Nat):∃ d r,decDigits u=UInt8.ofNat (48+d) :: r∧d<10∧(1≤u→1≤d)∧(u<10→r=[]):=by
 induction u using Nat.strongRecOn with
 | _ u ih =>
  by_cases h:u<10
  ·exact ⟨u,[],by rw [decDigits_one h],h,fun h=>h,fun _=>rfl⟩
  ·obtain ⟨d,r,h1,h2,h3,_⟩:=ih (u / 10) (by omega)
   exact ⟨d,r ++ [UInt8.ofNat (48+u % 10)],by rw [decDigits,dif_neg h,h1];rfl,h2,fun _=>h3 (by omega),fun h'=>absurd h' h⟩
theorem ofNat_toNat_digit (d:Nat) (h:d<10):(UInt8.ofNat (48+d)).toNat=48+d:=by simp;omega
theorem atoi_itoa (n:Int):atoi (itoa n)=some n:=by
 unfold itoa
 split
 ·next h =>
  simp only [atoi,beq_self_eq_true,if_true,decNat_decDigits,Option.map_some]
  congr 1
  omega
 ·next h =>
  obtain ⟨d,r,e,hd,_,_⟩:=head_decDigits n.toNat
  have h45:(UInt8.ofNat (48+d) == 45)=false:=by
   rw [beq_eq_false_iff_ne];intro he
   have:=congrArg UInt8.toNat he;rw [ofNat_toNat_digit d hd] at this
   have e45:(45:UInt8).toNat=45:=rfl
   omega
  have h43:(UInt8.ofNat (48+d) == 43)=false:=by
   rw [beq_eq_false_iff_ne];intro he
   have:=congrArg UInt8.toNat he;rw [ofNat_toNat_digit d hd] at this
   have e45:(43:UInt8).toNat=43:=rfl
   omega
  have hn:=decNat_decDigits n.toNat
  rw [e] at hn ⊢
  simp only [atoi,h45,h43,Bool.false_eq_true,if_false,hn,Option.map_some]
  congr 1
  omega
def numP (l:List UInt8):Option Int :=
 if (trimPrefix l [45]).length≤15 then (match atoi l with | some v=>if itoa v=l then some v else none | none=>none) else none
theorem nDigits_le (u k:Nat) (hk:1≤k) (h:u<10 ^ k):(decDigits u).length≤k:=by
 induction k generalizing u with
 | zero=>omega
 | succ k ih =>
  by_cases hu:u<10
  ·rw [decDigits_one hu];simp
  ·rw [decDigits,dif_neg hu,List.length_append,List.length_singleton]
   have hk1:1≤k:=by
    rcases Nat.eq_zero_or_pos k with rfl | h0
    ·omega
    ·exact h0
   have:=ih (u / 10) hk1 (by rw [Nat.pow_succ] at h;omega)
   omega
theorem trim_itoa (n:Int):trimPrefix (itoa n) [45]=decDigits n.natAbs:=by
 unfold itoa
 split
 ·next h=>simp [trimPrefix,hasPrefix]
 ·next h =>
  have e:n.toNat=n.natAbs:=by omega
  rw [e]
  obtain ⟨d,r,e,hd,_,_⟩:=head_decDigits n.natAbs
  rw [e]
  have hne : ¬ (45:UInt8)=UInt8.ofNat (48+d):=by
   intro he
   have h3:=congrArg UInt8.toNat he
   have e45:(45:UInt8).toNat=45:=rfl
   rw [ofNat_toNat_digit d hd,e45] at h3
   omega
  generalize UInt8.ofNat (48+d)=b at *
  unfold trimPrefix
  rw [if_neg]
  unfold hasPrefix
  simp [hne]
theorem numP_itoa (n:Int) (h1 : -1000000000000≤n) (h2:n≤1000000000000):numP (itoa n)=some n:=by
 unfold numP
 have hl:=nDigits_le n.natAbs 15 (by omega) (by omega)
 rw [trim_itoa,if_pos hl,atoi_itoa]
 simp
theorem numP_back {l:List UInt8} {n:Int} (h:numP l=some n):itoa n=l:=by
 unfold numP at h
 split at h
 ·split at h
  ·split at h
   ·injection h with h;subst h;assumption
   ·cases h
  ·cases h
 ·cases h
end Go.Proofs.YtpoklbfffgpbiaaGreatDoor
