/-
  A number on parts by weights: who gets one more is told by the rests alone; sums: plain facts.
-/
import Derived.Deep.Slices
import Derived.Deep.Strs
import Derived.Deep.Fields
import Derived.BigQuiet
import Derived.Test.YtfemjinbfebejaaGreatDoorJBAB
import Derived.Test.YtfemjinbfebejaaGreatDoorJBAF
import Derived.Test.YtfemjinbfebejaaGreatDoorJBAG
namespace Go.Proofs.YtfemjinbfebejaaGreatDoor
open Go.Sort
def lkR (n:Int) (W:List Int) (i:Nat):Int:=n*W.getD i 0 % W.sum
def lkQ (n:Int) (W:List Int) (i:Nat):Int:=n*W.getD i 0 / W.sum
def prec (n:Int) (W:List Int) (i j:Nat):Bool:=decide (lkR n W j<lkR n W i∨(lkR n W i=lkR n W j∧i<j))
def PickOk (k:Nat) (pr:Nat→Nat→Bool) (P:Nat→Bool) (t:Nat):Prop:=((List.range k).filter P).length=t∧∀ i j,i<k→j<k→P i=true→P j=false→pr i j=true
def lkO (n:Int) (W:List Int) (P:Nat→Bool):List Int:=(List.range W.length).map fun i=>lkQ n W i+if P i then 1 else 0
def lkL (n:Int) (W:List Int):Int:=n-((List.range W.length).map (lkQ n W)).sum
theorem sum_getD (W:List Int):((List.range W.length).map fun i=>W.getD i 0).sum=W.sum:=by
 have:(List.range W.length).map (fun i=>W.getD i 0)=W:=List.ext_getElem (by simp) fun i h1 h2=>by simp [List.getD_eq_getElem?_getD,List.getElem?_eq_getElem h2]
 rw [this]
theorem sum_add (f g:Nat→Int):∀ l:List Nat,(l.map fun i=>f i+g i).sum=(l.map f).sum+(l.map g).sum
 | []=>by simp
 | a :: l=>by simp only [List.map_cons,List.sum_cons,sum_add f g l];omega
theorem sum_mul (c:Int) (f:Nat→Int):∀ l:List Nat,(l.map fun i=>c*f i).sum=c*(l.map f).sum
 | []=>by simp
 | a :: l=>by simp only [List.map_cons,List.sum_cons,sum_mul c f l,Int.mul_add]
theorem sum_le {f g:Nat→Int}:∀ l:List Nat,(∀ i∈l,f i≤g i)→(l.map f).sum≤(l.map g).sum
 | [],_=>by simp
 | a :: l,h=>by
  have h1:=sum_le l fun i hi=>h i (List.mem_cons_of_mem _ hi)
  have h2:=h a (List.mem_cons_self ..)
  simp only [List.map_cons,List.sum_cons];omega
theorem sum_const (c:Int):∀ l:List Nat,(l.map fun _=>c).sum=(l.length:Int)*c
 | []=>by simp
 | a :: l=>by simp only [List.map_cons,List.sum_cons,sum_const c l,List.length_cons];rw [show ((l.length+1:Nat):Int)=(l.length:Int)+1 by omega,Int.add_mul];omega
theorem lk_rest (n:Int) (W:List Int):W.sum*lkL n W=((List.range W.length).map (lkR n W)).sum:=by
 have h1:((List.range W.length).map fun i=>n*W.getD i 0).sum=n*W.sum:=by rw [sum_mul,sum_getD]
 have h2:((List.range W.length).map fun i=>n*W.getD i 0).sum=W.sum*((List.range W.length).map (lkQ n W)).sum+((List.range W.length).map (lkR n W)).sum:=by
  rw [←sum_mul,←sum_add]
  congr 1
  refine List.map_congr_left fun i _=>?_
  exact (Int.mul_ediv_add_emod (n*W.getD i 0) W.sum).symm
 unfold lkL
 rw [Int.mul_sub]
 have h3:W.sum*n=n*W.sum:=Int.mul_comm _ _
 omega
theorem lkR_pos {n:Int} {W:List Int} (hs:0<W.sum) (i:Nat):0≤lkR n W i∧lkR n W i<W.sum:=⟨Int.emod_nonneg _ (by omega),Int.emod_lt_of_pos _ hs⟩
theorem lkL_ge {n:Int} {W:List Int} (hs:0<W.sum):0≤lkL n W:=by
 have h:=lk_rest n W
 have h2:0≤((List.range W.length).map (lkR n W)).sum:=by
  have:=sum_le (f:=fun _=>0) (g:=lkR n W) (List.range W.length) fun i _=>(lkR_pos hs i).1
  rw [sum_const] at this;omega
 rw [←h] at h2
 exact Int.le_of_mul_le_mul_left (a:=W.sum) (by rw [Int.mul_zero];exact h2) hs
theorem lkL_lt {n:Int} {W:List Int} (hs:0<W.sum) (hk:0<W.length):lkL n W<W.length:=by
 have h:=lk_rest n W
 have h2:((List.range W.length).map (lkR n W)).sum≤(W.length:Int)*(W.sum-1):=by
  have:=sum_le (f:=lkR n W) (g:=fun _=>W.sum-1) (List.range W.length) fun i _=>by have:=(lkR_pos (n:=n) hs i).2;omega
  rw [sum_const,List.length_range] at this;exact this
 refine Int.lt_of_mul_lt_mul_left (a:=W.sum) ?_ (by omega)
 rw [h,Int.mul_comm W.sum]
 rw [Int.mul_sub] at h2
 have:0<(W.length:Int):=by omega
 omega
theorem sum_mem_le:∀ (W:List Int),(∀ x∈W,0≤x)→∀ x∈W,x≤W.sum
 | [],_,x,hx=>absurd hx (by simp)
 | a :: W,h,x,hx=>by
  have hW:0≤W.sum:=by
   have:∀ W:List Int,(∀ x∈W,0≤x)→0≤W.sum:=by
    intro W
    induction W with
    | nil=>simp
    | cons a W ih=>intro h;have:=h a (List.mem_cons_self ..);have:=ih fun x hx=>h x (List.mem_cons_of_mem _ hx);simp only [List.sum_cons];omega
   exact this W fun x hx=>h x (List.mem_cons_of_mem _ hx)
  have ha:=h a (List.mem_cons_self ..)
  rw [List.sum_cons]
  rcases List.mem_cons.1 hx with rfl | hx
  ·omega
  ·have:=sum_mem_le W (fun x hx=>h x (List.mem_cons_of_mem _ hx)) x hx;omega
theorem getD_nonneg {W:List Int} (h:∀ x∈W,0≤x) (i:Nat):0≤W.getD i 0:=by
 rw [List.getD_eq_getElem?_getD]
 cases e:W[i]? with
 | none=>simp
 | some x=>exact h x (List.mem_of_getElem? e)
theorem getD_le {W:List Int} (h:∀ x∈W,0≤x) (hs:0≤W.sum) (i:Nat):W.getD i 0≤W.sum:=by
 rw [List.getD_eq_getElem?_getD]
 cases e:W[i]? with
 | none=>simpa using hs
 | some x=>exact sum_mem_le W h x (List.mem_of_getElem? e)
theorem lkQ_ge {n:Int} {W:List Int} (hn:0≤n) (h:∀ x∈W,0≤x) (hs:0<W.sum) (i:Nat):0≤lkQ n W i:=Int.ediv_nonneg (Int.mul_nonneg hn (getD_nonneg h i)) (by omega)
theorem lkQ_le {n:Int} {W:List Int} (hn:0≤n) (h:∀ x∈W,0≤x) (hs:0<W.sum) (i:Nat):lkQ n W i≤n∧(0<lkR n W i→lkQ n W i<n):=by
 have h1:=Int.mul_ediv_add_emod (n*W.getD i 0) W.sum
 have h2:n*W.getD i 0≤n*W.sum:=Int.mul_le_mul_of_nonneg_left (getD_le h (by omega) i) hn
 have h0:=(lkR_pos (n:=n) hs i).1
 have e:W.sum*n=n*W.sum:=Int.mul_comm _ _
 change W.sum*lkQ n W i+lkR n W i=_ at h1
 refine ⟨Int.le_of_mul_le_mul_left (a:=W.sum) (by omega) hs,fun hr=>Int.lt_of_mul_lt_mul_left (a:=W.sum) (by omega) (by omega)⟩
end Go.Proofs.YtfemjinbfebejaaGreatDoor
namespace Go.Proofs.YtfemjinbfebejaaGreatDoor
open Go Go.ChangeShapes Go.WideShapes Go.ChangeAt Go.RowKit Go.Deep
set_option maxRecDepth 100000
section
variable {H:Type} {enc:TypeId×Value→H} {w:World} {held:Bool}
theorem addr_plain {a:Addr} {k:Nat} {v:Value} (h:w.cell? (a.add k)=some v) (hk:k=0):a=⟨a.block,a.off,none⟩:=by
 subst hk
 have e:(a.add 0)=a:=by simp [Addr.add]
 rw [e] at h
 have:=World.cell?_spot h
 cases a
 simp_all
theorem plain_add (b o k:Nat):(⟨b,o,none⟩:Addr).add k=⟨b,o+k,none⟩:=by
 unfold Addr.add
 by_cases hk:k=0
 ·subst hk;simp
 ·rw [if_neg hk]
end
end Go.Proofs.YtfemjinbfebejaaGreatDoor
namespace Go.Proofs.YtfemjinbfebejaaGreatDoor
def bindN (op:Int):Int:=if op=3∨op=4 then 1 else if op=5∨op=6 then 2 else 3
theorem bindN_ge (op:Int):1≤bindN op:=by unfold bindN;split <;> (try split) <;> omega
structure Bld where
 nodes:List Nd
 ready:List Int
 waiting:List Int
def noB:Bld:=⟨[],[],[]⟩
def addB (x:Nd) (b:Bld):Bld:=⟨b.nodes ++ [x],b.ready ++ [(b.nodes.length:Int)],b.waiting⟩
def joinBd (op:Int) (b:Bld):Bld:=addB ⟨op,0,⟨#[]⟩,b.ready.getD (b.ready.length-2) 0,b.ready.getD (b.ready.length-2+1) 0⟩ ⟨b.nodes,b.ready.take (b.ready.length-2),b.waiting⟩
def settleTo (least:Int):Nat→Bld→Bld
 | 0,b=>b
 | k+1,b=>if b.waiting.getD k 0=0∨bindN (b.waiting.getD k 0)<least then b else settleTo least k (joinBd (b.waiting.getD k 0) ⟨b.nodes,b.ready,b.waiting.take k⟩)
def settleB (least:Int) (b:Bld):Bld:=settleTo least b.waiting.length b
def numW (t:ByteArray):Int:=t.data.toList.foldl (fun n c=>n*10+((c.toNat:Int)-48)) 0
def opndN (t:ByteArray):Nd:=if 97≤byteN t 0∧byteN t 0≤122 then ⟨2,0,t,0,0⟩ else ⟨1,numW t,⟨#[]⟩,0,0⟩
def signI (c:Int):Int:=if c=43 then 0 else if c=45 then 1 else if c=42 then 2 else if c=47 then 3 else -1
def takeB (b:Bld) (t:ByteArray):Bld :=
 if byteN t 0=40 then ⟨b.nodes,b.ready,b.waiting ++ [0]⟩
 else if byteN t 0=41 then ⟨(settleB 0 b).nodes,(settleB 0 b).ready,(settleB 0 b).waiting.take ((settleB 0 b).waiting.length-1)⟩
 else if 0≤signI (byteN t 0) then ⟨(settleB (bindN (3+signI (byteN t 0))) b).nodes,(settleB (bindN (3+signI (byteN t 0))) b).ready,(settleB (bindN (3+signI (byteN t 0))) b).waiting ++ [3+signI (byteN t 0)]⟩
 else addB (opndN t) b
def zerosN (l:List Int):Nat:=l.countP (fun x=>decide (x=0))
def opsN (l:List Int):Nat:=l.countP (fun x=>decide (x≠0))
theorem zo_len (l:List Int):zerosN l+opsN l=l.length:=by
 induction l with
 | nil=>rfl
 | cons x r ih =>
  simp only [zerosN,opsN,List.countP_cons,List.length_cons] at *
  by_cases h:x=0
  ·rw [if_pos (by simpa using h),if_neg (by simpa using h)];omega
  ·rw [if_neg (by simpa using h),if_pos (by simpa using h)];omega
def digB (c:Int):Bool:=decide (48≤c) && decide (c≤57)
def letB (c:Int):Bool:=decide (97≤c) && decide (c≤122)
def leadTo (p:Int→Bool) (t:ByteArray):Nat→Nat→Nat
 | 0,i=>i
 | f+1,i=>if p (byteN t i) then leadTo p t f (i+1) else i
def leadN (p:Int→Bool) (t:ByteArray):Nat:=leadTo p t t.size 0
def nextB (s:ByteArray) (a:Nat):Int:=if a=s.size then 0 else byteN s a
structure Rd (S:Type) where
 at':Nat
 opn:Nat
 st:S
section
variable {S:Type} (s:ByteArray) (tk:S→ByteArray→S)
def wordR (n:Nat) (r:Rd S):Rd S:=⟨r.at'+n,r.opn,tk r.st (s.extract r.at' (r.at'+n))⟩
def opensR:Nat→Rd S→Rd S
 | 0,r=>r
 | f+1,r=>if nextB s r.at'=40 then opensR f (wordR s tk 1 ⟨r.at',r.opn+1,r.st⟩) else r
def closesR:Nat→Rd S→Rd S
 | 0,r=>r
 | f+1,r=>if 0<r.opn∧nextB s r.at'=41 then closesR f (wordR s tk 1 ⟨r.at',r.opn-1,r.st⟩) else r
def digitsN (a:Nat):Nat:=if nextB s a=48 then 1 else min (leadN digB (s.extract a s.size)) 7
def openedR (r:Rd S):Rd S:=opensR s tk (s.size-r.at') r
def operandR (r:Rd S):Rd S×Bool :=
 if digB (nextB s (openedR s tk r).at') then (closesR s tk s.size (wordR s tk (digitsN s (openedR s tk r).at') (openedR s tk r)),true)
 else if letB (nextB s (openedR s tk r).at') then (closesR s tk s.size (wordR s tk (leadN letB (s.extract (openedR s tk r).at' s.size)) (openedR s tk r)),true)
 else (openedR s tk r,false)
def signR (r:Rd S):Rd S×Bool:=if signI (nextB s r.at')<0 then (r,false) else (wordR s tk 1 r,true)
def loopR:Nat→Rd S→Rd S×Bool
 | 0,r=>(r,true)
 | f+1,r=>if r.at'<s.size then
   (if (signR s tk r).2 then (if (operandR s tk (signR s tk r).1).2 then loopR f (operandR s tk (signR s tk r).1).1 else ((operandR s tk (signR s tk r).1).1,false)) else ((signR s tk r).1,false))
  else (r,true)
def allR (r:Rd S):Rd S×Bool :=
 if (operandR s tk r).2 then (if (loopR s tk s.size (operandR s tk r).1).2 then ((loopR s tk s.size (operandR s tk r).1).1,decide ((loopR s tk s.size (operandR s tk r).1).1.opn=0)) else ((loopR s tk s.size (operandR s tk r).1).1,false))
 else ((operandR s tk r).1,false)
end
end Go.Proofs.YtfemjinbfebejaaGreatDoor
namespace Go.Proofs.YtfemjinbfebejaaGreatDoor
open Go Go.ChangeShapes Go.WideShapes Go.ChangeAt Go.RowKit Go.Deep
set_option maxRecDepth 100000
def NdsAt (w:World) (b o:Nat) (l:List Nd):Prop:=b<w.heap.size∧∀ k,k<l.length→w.cell? ⟨b,o+k*5,none⟩=some (.int .i64 (l.getD k noN).op)∧w.cell? ⟨b,o+k*5+1,none⟩=some (.int .i64 (l.getD k noN).n)∧w.cell? ⟨b,o+k*5+2,none⟩=some (.string (l.getD k noN).name)∧w.cell? ⟨b,o+k*5+3,none⟩=some (.int .i64 (l.getD k noN).left)∧w.cell? ⟨b,o+k*5+4,none⟩=some (.int .i64 (l.getD k noN).right)
theorem NdsAt.later {w w':World} {b o:Nat} {l:List Nd} (h:NdsAt w b o l) (hB:Below w.heap.size w w'):NdsAt w' b o l:=by
 refine ⟨Nat.lt_of_lt_of_le h.1 hB.size,fun k hk=>?_⟩
 obtain ⟨h1,h2,h3,h4,h5⟩:=h.2 k hk
 exact ⟨(hB.cell (p:=⟨b,o+k*5,none⟩) h.1).trans h1,(hB.cell (p:=⟨b,o+k*5+1,none⟩) h.1).trans h2,(hB.cell (p:=⟨b,o+k*5+2,none⟩) h.1).trans h3,(hB.cell (p:=⟨b,o+k*5+3,none⟩) h.1).trans h4,(hB.cell (p:=⟨b,o+k*5+4,none⟩) h.1).trans h5⟩
def NdsV (w:World) (A:Option Addr) (cap:Nat) (l:List Nd):Prop:=l.length≤cap∧cap≤9223372036854775807∧(l=[]∨∃ b o,A=some ⟨b,o,none⟩∧NdsAt w b o l)
theorem NdsV.nil (w:World) (A:Option Addr) (cap:Nat) (h:cap≤9223372036854775807):NdsV w A cap []:=⟨Nat.zero_le _,h,Or.inl rfl⟩
end Go.Proofs.YtfemjinbfebejaaGreatDoor
namespace Go.Proofs.YtfemjinbfebejaaGreatDoor
open Go.ChangeShapes Go.WideShapes Go.ChangeAt Go.RowKit
set_option maxRecDepth 20000
theorem isdig_any (c:Int) (w:World):Calls Tryz.prog 163 #[.int .u8 c] w fun e w'=>e=.returned (.bool (digB c))∧Below w.heap.size w w':=by
 unfold digB
 by_cases h1:48≤c
 ·go_enter Tryz.func163,Tryz.ntmps163
  go_wp2
  go_ret
  exact ⟨by simp <;> omega,by go_grown⟩
 ·go_enter Tryz.func163,Tryz.ntmps163
  go_wp2
  go_ret
  exact ⟨by simp <;> omega,by go_grown⟩
theorem islet_any (c:Int) (w:World):Calls Tryz.prog 137 #[.int .u8 c] w fun e w'=>e=.returned (.bool (letB c))∧Below w.heap.size w w':=by
 unfold letB
 by_cases h1:97≤c
 ·go_enter Tryz.func137,Tryz.ntmps137
  go_wp2
  go_ret
  exact ⟨by simp <;> omega,by go_grown⟩
 ·go_enter Tryz.func137,Tryz.ntmps137
  go_wp2
  go_ret
  exact ⟨by simp <;> omega,by go_grown⟩
theorem binds_any (op:Int) (w:World):Calls Tryz.prog 112 #[.int .i64 op] w fun e w'=>e=.returned (.int .i64 (bindN op))∧Below w.heap.size w w':=by
 unfold bindN
 by_cases h3:op=3
 ·subst h3
  go_enter Tryz.func112,Tryz.ntmps112
  go_wp2
  go_ret
  exact ⟨by simp,by go_grown⟩
 by_cases h4:op=4
 ·subst h4
  go_enter Tryz.func112,Tryz.ntmps112
  go_wp2
  go_ret
  exact ⟨by simp,by go_grown⟩
 by_cases h5:op=5
 ·subst h5
  go_enter Tryz.func112,Tryz.ntmps112
  go_wp2
  go_ret
  exact ⟨by simp,by go_grown⟩
 by_cases h6:op=6
 ·subst h6
  go_enter Tryz.func112,Tryz.ntmps112
  go_wp2
  go_ret
  exact ⟨by simp,by go_grown⟩
 rw [if_neg (by omega),if_neg (by omega)]
 go_enter Tryz.func112,Tryz.ntmps112
 go_wp2
 go_ret
 exact ⟨rfl,by go_grown⟩
theorem joins_any (op:Int) (w:World):Calls Tryz.prog 143 #[.int .i64 op] w fun e w'=>e=.returned (.bool (decide (op≠1∧op≠2)))∧Below w.heap.size w w':=by
 by_cases h1:op=1
 ·subst h1
  go_enter Tryz.func143,Tryz.ntmps143
  go_wp2
  go_ret
  exact ⟨by simp,by go_grown⟩
 by_cases h2:op=2
 ·subst h2
  go_enter Tryz.func143,Tryz.ntmps143
  go_wp2
  go_ret
  exact ⟨by simp,by go_grown⟩
 go_enter Tryz.func143,Tryz.ntmps143
 go_wp2
 go_ret
 exact ⟨by simp [h1,h2],by go_grown⟩
theorem byteN_get (s:ByteArray) (k:Nat) (h:k<s.size):((s[k]'h).toNat:Int)=byteN s k:=by
 unfold byteN
 rw [List.getD,List.getElem?_eq_getElem (by simpa using h)]
 rfl
theorem lead_miss {p:Int→Bool} {t:ByteArray} {f i:Nat} (h:p (byteN t i)=false):leadTo p t (f+1) i=i:=by simp [leadTo,h]
theorem lead_hit {p:Int→Bool} {t:ByteArray} {f i:Nat} (h:p (byteN t i)=true):leadTo p t (f+1) i=leadTo p t f (i+1):=by simp [leadTo,h]
set_option maxHeartbeats 1000000 in
theorem lead_any (p:Int→Bool) (F:Nat) (hent:∀ (args:Array Value) (w:World),(callFunc F args).run Tryz.prog w=.ok (.enter F args) w) (hF:∀ (c:Int) (w:World),Calls Tryz.prog F #[.int .u8 c] w fun e w'=>e=.returned (.bool (p c))∧Below w.heap.size w w') (t:ByteArray) (w:World) (hs:t.size≤4611686018427387904):Calls Tryz.prog 165 #[.string t,.func (.func F) #[] #[]] w fun e w'=>e=.returned (.int .i64 (leadN p t))∧Below w.heap.size w w':=by
 have HF:Hid (∀ (c:Int) (w:World),Calls Tryz.prog F #[.int .u8 c] w fun e w'=>e=.returned (.bool (p c))∧Below w.heap.size w w'):=hF
 unfold leadN
 clear hF
 go_enter Tryz.func165,Tryz.ntmps165
 go_wp2_with fail
 go_loopg [8] t.size (fun g s8 wr => ∃ (k:Nat),k≤t.size∧g=t.size-k∧s8=.int .i64 k∧leadTo p t (t.size-k) k=leadTo p t t.size 0∧Below w.heap.size w wr)
 case atStart=>exact ⟨0,Nat.zero_le _,rfl,rfl,rfl,Below.refl _ _⟩
 case round =>
  obtain ⟨k,hk,rfl,rfl,hf,hBw⟩:=hrel
  have HQ:Hid (leadTo p t (t.size-k) k=leadTo p t t.size 0):=hf
  have HW:Hid (Below w.heap.size w wr):=hBw
  clear hf hBw
  by_cases hlt:k<t.size
  ·have hki:(k:Int)<(t.size:Int):=by omega
   have hs':(t.size:Int)≤4611686018427387904:=by omega
   have HSK:Hid (t.size-k=(t.size-(k+1))+1):=by show _=_;omega
   have hbd:=HF.out (byteN t k)
   have hby:=byteN_get t k hlt
   cases hb:p (byteN t k)
   ·rw [hb] at hbd
    have HK:Hid (p (byteN t k)=false):=hb
    clear hb
    generalize byteN t k=c at hbd hby
    go_wp2_with fail
    refine (hbd _).mono ?_
    rintro e w1 ⟨rfl,hb1⟩
    go_wp2_with fail
    go_ret
    exact ⟨by rw [←HQ.out,HSK.out,lead_miss HK.out];rfl,onB HW.out hb1⟩
   ·rw [hb] at hbd
    have HK:Hid (p (byteN t k)=true):=hb
    clear hb
    generalize byteN t k=c at hbd hby
    go_wp2_with fail
    refine (hbd _).mono ?_
    rintro e w1 ⟨rfl,hb1⟩
    go_wp2_with fail
    go_roundg (t.size-(k+1))
    case measure=>omega
    case rel=>exact ⟨k+1,by omega,rfl,by go_num,by rw [←HQ.out,HSK.out,lead_hit HK.out],onB HW.out hb1⟩
  ·have hke:k=t.size:=by omega
   subst hke
   go_wp2_with fail
   go_ret
   exact ⟨by rw [←HQ.out,Nat.sub_self];rfl,HW.out⟩
theorem ent_dig (args:Array Value) (w:World):(callFunc 163 args).run Tryz.prog w=.ok (.enter 163 args) w:=by simp [go_sem]
theorem ent_let (args:Array Value) (w:World):(callFunc 137 args).run Tryz.prog w=.ok (.enter 137 args) w:=by simp [go_sem]
theorem leadd_any (t:ByteArray) (w:World) (hs:t.size≤4611686018427387904):Calls Tryz.prog 165 #[.string t,.func (.func 163) #[] #[]] w fun e w'=>e=.returned (.int .i64 (leadN digB t))∧Below w.heap.size w w':=lead_any digB 163 ent_dig isdig_any t w hs
theorem leadl_any (t:ByteArray) (w:World) (hs:t.size≤4611686018427387904):Calls Tryz.prog 165 #[.string t,.func (.func 137) #[] #[]] w fun e w'=>e=.returned (.int .i64 (leadN letB t))∧Below w.heap.size w w':=lead_any letB 137 ent_let islet_any t w hs
end Go.Proofs.YtfemjinbfebejaaGreatDoor
