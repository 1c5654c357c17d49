/- Who takes the words of -/
import Derived.Test.YthlhjjabkgpenaaGreatDoorJTAK
namespace Go.Proofs.YthlhjjabkgpenaaGreatDoor
open ChangeShapes WideShapes ChangeAt RowKit
set_option maxRecDepth 99999
set_option maxHeartbeats 0
theorem uj (l:List Int) (x:Int):opsN (l ++ [x])=opsN l+(if x≠0 then 1 else 0)∧dL (l ++ [x])=dL l+(if x=0 then 1 else 0):=by
 unfold opsN dL;rw [List.countP_append,List.countP_append]
 by_cases e:x=0 <;> simp [e]
theorem ft {b:Bld} {t:ByteArray} (h:48≤byteN t 0):takeB b t=jC (opndN t) b:=by
 have hs : ¬ 0≤signI (byteN t 0):=by
  unfold signI;rw [if_neg (by omega),if_neg (by omega),if_neg (by omega),if_neg (by omega)]
  omega
 rw [takeB,if_neg (by omega),if_neg (by omega),if_neg hs]
theorem yG {a o n:Nat} {b:Bld} {x:Nd} (i:1≤n) (e:FitB a o false b):FitB (a+n) o true (jC x b):=by
 obtain ⟨c,d,f,g,h⟩:=e;refine ⟨c,?_,?_,?_,?_⟩
 ·simp [jC] at d ⊢;omega
 ·simp [jC];omega
 ·simp [jC];omega
 simp [jC];omega
theorem Du {a o o':Nat} {ph ph':Bool} {b:Bld} {t:ByteArray} (q:Stp o ph t o' ph') (e:FitB a o ph b):FitB (a+t.size) o' ph' (takeB b t):=by
 cases q with
 | opn o t h1 h40 =>
  obtain ⟨h,c,j,l,m⟩:=e;have f:takeB b t=⟨b.nodes,b.ready,b.waiting ++ [0]⟩:=by rw [takeB,if_pos h40]
  rw [f];obtain ⟨s1,s2⟩:=uj b.waiting 0;rw [if_neg (by decide)] at s1
  rw [if_pos rfl] at s2
  simp at c
  refine ⟨?_,?_,?_,?_,?_⟩
  ·show dL (b.waiting ++ [0])=_;omega
  ·show opsN (b.waiting ++ [0])+_≤b.ready.length;simp;omega
  ·show b.nodes.length+opsN (b.waiting ++ [0])≤_;omega
  ·show (b.waiting ++ [0]).length≤_;simp;omega
  show b.ready.length≤_;omega
 | cls _ t h1 h41 =>
  obtain ⟨h,c,j,l,m⟩:=e
  simp at c
  have f:takeB b t=⟨(settleB 0 b).nodes,(settleB 0 b).ready,(settleB 0 b).waiting.take ((settleB 0 b).waiting.length-1)⟩:=by rw [takeB,if_neg (by omega),if_pos h41]
  rw [f];obtain ⟨s,u,v,w,x⟩:=gp 0 b c;have n:1≤(settleB 0 b).waiting.length:=by have:=FH (settleB 0 b).waiting;omega
  obtain ⟨k,g⟩:∃ k,(settleB 0 b).waiting.length=k+1:=⟨(settleB 0 b).waiting.length-1,by omega⟩
  have p:(settleB 0 b).waiting.getD k 0=0:=mo _ b rfl k g;obtain ⟨o1,o2⟩:=ox g;rw [p,if_neg (by decide)] at o1
  rw [p,if_pos rfl] at o2;rw [g,Nat.add_sub_cancel];refine ⟨?_,?_,?_,?_,?_⟩
  ·show dL ((settleB 0 b).waiting.take k)=_;omega
  ·show opsN ((settleB 0 b).waiting.take k)+_≤(settleB 0 b).ready.length;simp;omega
  ·show (settleB 0 b).nodes.length+opsN ((settleB 0 b).waiting.take k)≤_;omega
  ·show ((settleB 0 b).waiting.take k).length≤_;simp;omega
  show (settleB 0 b).ready.length≤_;omega
 | num _ t h1 h7 hd =>
  have d:=hd 0 (by omega)
  unfold bV at d
  simp at d
  rw [ft (by omega)]
  exact yG h1 e
 | nam _ t h1 hl =>
  have d:=hl 0 (by omega)
  unfold bD at d
  simp at d
  rw [ft (by omega)]
  exact yG h1 e
 | sgn _ t h1 hs =>
  obtain ⟨h,c,j,l,m⟩:=e
  simp at c
  obtain ⟨i,r⟩:=ax (signI (byteN t 0));have y:=oX hs;have f:takeB b t=⟨(settleB (bindN (3+i)) b).nodes,(settleB (bindN (3+i)) b).ready,(settleB (bindN (3+i)) b).waiting ++ [3+i]⟩:=by
   rw [takeB,if_neg (by omega),if_neg (by omega),if_pos hs,r]
  rw [f];obtain ⟨s,u,v,w,x⟩:=gp (bindN (3+i)) b c;obtain ⟨s1,s2⟩:=uj (settleB (bindN (3+i)) b).waiting (3+i);rw [if_pos (by omega)] at s1
  rw [if_neg (by omega)] at s2
  generalize settleB (bindN (3+i)) b=b1 at *;refine ⟨?_,?_,?_,?_,?_⟩
  ·show dL (b1.waiting ++ [3+i])=_;omega
  ·show opsN (b1.waiting ++ [3+i])+_≤b1.ready.length;simp;omega
  ·show b1.nodes.length+opsN (b1.waiting ++ [3+i])≤_;omega
  ·show (b1.waiting ++ [3+i]).length≤_;simp;omega
  show b1.ready.length≤_;omega
theorem Fk (N p a o o':Nat) (ph ph':Bool) (b:Bld) (t:ByteArray) (w:World) (f:N≤w.heap.size) (q:Stp o ph t o' ph') (n:FitB a o ph b) (x:a+t.size≤100) (d:dh N p b w) :
  Calls Tryz.prog 200 #[.pointer (some ⟨p,0,none⟩),.string t] w fun e w'=>e=.returned (.tuple #[])∧dh N p (takeB b t) w'∧Kept N (fun k=>k=p) w w':=by
 obtain ⟨r,h,s,u,v⟩:=n;cases q with
 | opn o t h1 h40 =>
  have g:takeB b t=⟨b.nodes,b.ready,b.waiting ++ [0]⟩:=by rw [takeB,if_pos h40]
  rw [g];exact Fo N p b t w f h1 h40 (by omega) d
 | cls _ t h1 h41 =>
  simp at h
  have g:takeB b t=⟨(settleB 0 b).nodes,(settleB 0 b).ready,(settleB 0 b).waiting.take ((settleB 0 b).waiting.length-1)⟩:=by rw [takeB,if_neg (by omega),if_pos h41]
  rw [g];exact Fm N p b t w f h1 h41 (by omega) (by omega) h (by omega) (by omega) d
 | num _ t h1 h7 hd =>
  have c:=hd 0 (by omega)
  unfold bV at c
  simp at c
  rw [ft (by omega)]
  exact uW N p b t w f h1 (by omega) (Or.inr ⟨h7,hd⟩) (by omega) (by omega) d
 | nam _ t h1 hl =>
  have c:=hl 0 (by omega)
  have j:=c;unfold bD at c
  simp at c
  rw [ft (by omega)]
  exact uW N p b t w f h1 (by omega) (Or.inl j) (by omega) (by omega) d
 | sgn _ t h1 hs =>
  simp at h
  obtain ⟨i,l⟩:=ax (signI (byteN t 0));have m:=oX hs;have g:takeB b t=⟨(settleB (bindN (3+i)) b).nodes,(settleB (bindN (3+i)) b).ready,(settleB (bindN (3+i)) b).waiting ++ [3+i]⟩:=by
   rw [takeB,if_neg (by omega),if_neg (by omega),if_pos hs,l]
  rw [g];exact Fp N p b t w f h1 (byteN t 0) i rfl l (by rw [l] at m;exact m) (by omega) (by omega) h (by omega) d
def tkB (N p:Nat):Tkr Bld:=⟨N,p,100,200,#[.pointer (some ⟨p,0,none⟩)],takeB,fun b w=>dh N p b w,FitB⟩
theorem Iv (N p:Nat):(tkB N p).Ok:=by
 refine ⟨by show 100≤_;omega,?_,?_,?_,?_⟩
 ·intro args w;show (callFunc 200 args).run Tryz.prog w=_;simp [go_sem,tkB]
 ·rintro q st w w' r d ⟨AN,u,AR,v,AW,x,i⟩ l
  refine ⟨_,_,_,_,_,_,i.stay fun k m n=>l.block k m fun e=>?_⟩
  have y:k=q:=by simpa using e
  have s:q<N:=r;have f:q≠p:=d
  omega
 ·intro a o ph st t o' ph' c b _
  exact Du c b
 intro a o ph st t o' ph' w c b j h g;exact Fk N p a o o' ph ph' st t w h c b j g
def anyL (p:Int→Bool) (L:List Int):Bool:=L.any p
theorem sD (p:Int→Bool) (L:List Int):decide (0≤findFrom (fun j=>p (L.getD j 0)) L.length 0)=anyL p L:=by
 unfold anyL
 rcases findFrom_cases (fun j=>p (L.getD j 0)) L.length 0 with ⟨a,c⟩ | ⟨m,a,_,g,d,_⟩
 ·rw [a,decide_eq_false (by omega)]
  symm
  rw [List.any_eq_false];intro x f;obtain ⟨i,e,rfl⟩:=List.getElem_of_mem f;have:=c i (zU) (by omega)
  simp only [List.getD,zX e,Option.getD_some] at this
  simp [this]
 rw [a,decide_eq_true (by omega)]
 symm
 rw [List.any_eq_true];have b:m<L.length:=by omega
 refine ⟨L[m],List.getElem_mem b,?_⟩
 simpa only [List.getD,zX b,Option.getD_some] using d
theorem pP (F:Nat) (cap:Array Value) (p:Int→Bool) (a:∀ (args:Array Value) (w:World),(callFunc F args).run Tryz.prog w=.ok (.enter F args) w) (A:Option Addr) (c:Nat) (L:List Int) (w:World) (h:L.length≤200) (f:bU w A c L)
  (d:∀ (x:Int) (w':World),Bl w w'→Calls Tryz.prog F (#[.int .i64 x] ++ cap) w' fun e w''=>e=.returned (.bool (p x))∧Bl w' w'') :
  Rt 178 #[.slice A L.length c,.func (.func F) #[] cap] w (.bool (anyL p L)):=by
 have g:=nt F cap p a A c L w (by omega) (iF f) fun x w' _=>d x w'
 rw [←sD];generalize findFrom (fun j=>p (L.getD j 0)) L.length 0=r at *
 clear d f
 go_enter Tryz.func178,Tryz.ntmps178
 go_wp2_with fail;refine g.mono ?_;rintro e w1 ⟨rfl,b⟩;go_wp2_with fail;go_ret;exact ⟨rfl,b⟩
def aH (i:Nat) (k:Int):Bool:=decide (k<0) || decide ((i:Int)≤k)
theorem Bj (i q:Nat) (k:Int) (w:World) (h:w.cell? ⟨q,0,none⟩=some (.int .i64 i)):Rt 220 #[.int .i64 k,.pointer (some ⟨q,0,none⟩)] w (.bool (aH i k)):=by
 unfold aH
 by_cases a:k<0
 ·go_enter Tryz.func220,Tryz.ntmps220
  go_wp2;go_ret;exact ⟨by simp <;> omega,by go_grown⟩
 go_enter Tryz.func220,Tryz.ntmps220
 go_wp2;go_ret;exact ⟨by simp <;> omega,by go_grown⟩
theorem tf (k:Int) (w:World):Rt 180 #[.int .i64 k] w (.bool (decide (k≠1))):=by
 go_enter Tryz.func180,Tryz.ntmps180
 go_wp2;go_ret;exact ⟨by by_cases h:k=1 <;> simp [h],by go_grown⟩
theorem zl (t:ByteArray):t.toList=[]↔t.size=0:=by
 have h:=aN (s:=t);rw [←List.isEmpty_iff,h,decide_eq_true_eq]
section
variable {n op:Int} {nm:ByteArray} {l r:Int} {i:Nat}
theorem Lm (a:0≤n) (b:n≤1000000):ndErr ⟨1,n,nm,l,r⟩ i=if nm.toList=[]∧l=0∧r=0 then 0 else 3:=by
 simp only [ndErr,zl];rw [if_neg (by omega),if_pos trivial,if_neg (by omega)]
 by_cases h:nm.size=0∧l=0∧r=0
 ·rw [if_pos h,if_neg (by omega)]
 rw [if_neg h,if_pos (by omega)]
theorem Ln (h:aJ nm=0):ndErr ⟨2,n,nm,l,r⟩ i=if n=0∧l=0∧r=0 then 0 else 3:=by
 simp only [ndErr];rw [if_neg (by omega),if_neg (by omega),if_pos trivial,if_neg (by simpa using h)]
 by_cases h:n=0∧l=0∧r=0
 ·rw [if_pos h,if_neg (by omega)]
 rw [if_neg h,if_pos (by omega)]
theorem Lo (b:3≤op) (c:op≤6) (a:anyL (aH i) [l,r]=false):ndErr ⟨op,n,nm,l,r⟩ i=if n=0∧nm.toList=[] then 0 else 3:=by
 simp [anyL,aH] at a
 simp only [ndErr,zl];rw [if_neg (by omega),if_neg (by omega),if_neg (by omega),if_neg (by omega)]
 by_cases h:n=0∧nm.size=0
 ·rw [if_pos h,if_neg (by omega)]
 rw [if_neg h,if_pos (by omega)]
theorem KS (b:3≤op) (c:op≤6) (a:anyL (aH i) [l,r]=true):ndErr ⟨op,n,nm,l,r⟩ i=1:=by
 simp [anyL,aH] at a
 simp only [ndErr];rw [if_neg (by omega),if_neg (by omega),if_neg (by omega),if_pos (by omega)]
end
def eJ (w:World) (op n:Int) (nm:ByteArray) (l r:Int) (i:Nat):World:=((w.alloc (.cells #[.int .i64 op,.int .i64 n,.string nm,.int .i64 l,.int .i64 r] 142)).alloc (.cells #[.int .i64 i] 3)).alloc (.cells #[.int .i64 op,.int .i64 0,.string ⟨#[]⟩,.int .i64 0,.int .i64 0] 142)
theorem n9 (w:World) (op n:Int) (nm:ByteArray) (l r:Int) (i:Nat):(eJ w op n nm l r i).heap.size=w.heap.size+3:=by unfold eJ;simp
theorem tZ (w:World) (op n:Int) (nm:ByteArray) (l r:Int) (i:Nat):Bl w (eJ w op n nm l r i):=by unfold eJ;go_grown
theorem tY (w:World) (op n:Int) (nm:ByteArray) (l r:Int) (i:Nat):(eJ w op n nm l r i).heap[w.heap.size]?=some (.cells #[.int .i64 op,.int .i64 n,.string nm,.int .i64 l,.int .i64 r] 142 (0,0))∧(eJ w op n nm l r i).heap[w.heap.size+1]?=some (.cells #[.int .i64 i] 3 (0,0))∧(eJ w op n nm l r i).heap[w.heap.size+1+1]?=some (.cells #[.int .i64 op,.int .i64 0,.string ⟨#[]⟩,.int .i64 0,.int .i64 0] 142 (0,0)):=by
 unfold eJ;refine ⟨?_,?_,?_⟩
 ·rw [heap_alloc_old _ _ (by simp;omega)];exact pk w _ _
 ·rw [heap_alloc_old _ _ (by simp)];exact jR w _ _
 have h:=heap_alloc_new ((w.alloc (.cells #[.int .i64 op,.int .i64 n,.string nm,.int .i64 l,.int .i64 r] 142)).alloc (.cells #[.int .i64 i] 3)) (.cells #[.int .i64 op,.int .i64 0,.string ⟨#[]⟩,.int .i64 0,.int .i64 0] 142)
 simpa using h
theorem l8 {w w1:World} {op n:Int} {nm:ByteArray} {l r:Int} {i:Nat} (a:Below (eJ w op n nm l r i).heap.size (eJ w op n nm l r i) w1) :
  Bl w w1∧(w1.cell? ⟨w.heap.size,0,none⟩=some (.int .i64 op)∧w1.cell? ⟨w.heap.size,1,none⟩=some (.int .i64 n)∧w1.cell? ⟨w.heap.size,2,none⟩=some (.string nm)∧w1.cell? ⟨w.heap.size,3,none⟩=some (.int .i64 l)∧w1.cell? ⟨w.heap.size,4,none⟩=some (.int .i64 r))∧w1.cell? ⟨w.heap.size+1,0,none⟩=some (.int .i64 i) ∧
  (w1.cell? ⟨w.heap.size+1+1,0,none⟩=some (.int .i64 op)∧w1.cell? ⟨w.heap.size+1+1,1,none⟩=some (.int .i64 0)∧w1.cell? ⟨w.heap.size+1+1,2,none⟩=some (.string ⟨#[]⟩)∧w1.cell? ⟨w.heap.size+1+1,3,none⟩=some (.int .i64 0)∧w1.cell? ⟨w.heap.size+1+1,4,none⟩=some (.int .i64 0))∧∀ j,w1.frozen? ⟨w.heap.size+1+1,j,none⟩=false:=by
 obtain ⟨a1,a2,a3⟩:=tY w op n nm l r i;have e:=n9 w op n nm l r i;have b:=(a.block w.heap.size (by omega)).trans a1
 have c:=(a.block (w.heap.size+1) (by omega)).trans a2
 have d:=(a.block (w.heap.size+1+1) (by omega)).trans a3
 refine ⟨ae (tZ ..) a,⟨?_,?_,?_,?_,?_⟩,?_,⟨?_,?_,?_,?_,?_⟩,fun j=>?_⟩ <;> simp [World.cell?,World.frozen?,b,c,d]
theorem Em (x:Nd) (i:Nat) (w:World) (d:x.op=1):Rt 177 #[Ea x,.int .i64 i] w (errV (ndErr x i)):=by
 obtain ⟨op,n,name,left,a⟩:=x;simp only at d;subst d;rw [fJ]
 by_cases e:n<0
 ·have b:ndErr ⟨1,n,name,left,a⟩ i=1:=by simp [ndErr,e]
  rw [b,aj (by decide)]
  go_enter Tryz.func177,Tryz.ntmps177
  go_wp2;go_ret;exact ⟨rfl,by go_grown⟩
 by_cases c:1000000<n
 ·have b:ndErr ⟨1,n,name,left,a⟩ i=1:=by simp [ndErr,c]
  rw [b,aj (by decide)]
  go_enter Tryz.func177,Tryz.ntmps177
  go_wp2;go_ret;exact ⟨rfl,by go_grown⟩
 rw [Lm (by omega) (by omega)]
 go_enter Tryz.func177,Tryz.ntmps177
 go_wp2
 all_goals (go_ret;refine ⟨?_,by go_grown⟩;first | rfl | (rw [if_pos (by simp_all)];rfl) | (rw [if_neg (by simp_all)];rfl) | (exfalso;simp_all;done))
theorem Eo (x:Nd) (i:Nat) (w:World) (g:x.op=2):Rt 177 #[Ea x,.int .i64 i] w (errV (ndErr x i)):=by
 obtain ⟨op,n,name,left,b⟩:=x;simp only at g;subst g;rw [fJ];have c:=nW name
 by_cases d:aJ name=0
 ·rw [Ln d]
  rw [d,errV_zero] at c;clear d
  go_enter Tryz.func177,Tryz.ntmps177
  go_wp2_with fail;refine (c _).mono ?_;rintro e w1 ⟨rfl,a⟩;obtain ⟨f,⟨o,p,q,s,t⟩,-,⟨v,y,z,A,B⟩,k⟩:=l8 (w:=w) (op:=2) (n:=n) (nm:=name) (l:=left) (r:=b) (i:=i) a;have u:=k 2;have m:=aa f;clear a f k;go_wp2_with fail
  all_goals (go_ret;refine ⟨?_,m.out.setCell (by simp;omega) _⟩;first | rfl | (rw [if_pos (by simp_all)];rfl) | (rw [if_neg (by simp_all)];rfl) | (exfalso;simp_all;done))
 have h:aJ name=2:=es d;have j:ndErr ⟨2,n,name,left,b⟩ i=2:=by
  simp only [ndErr];rw [if_neg (by omega),if_neg (by omega),if_pos trivial,if_pos (by omega)]
 rw [j,aj (by decide)]
 rw [h,aj (by decide)] at c
 clear d h j
 go_enter Tryz.func177,Tryz.ntmps177
 go_wp2_with fail;refine (c _).mono ?_;rintro e w1 ⟨rfl,a⟩;have f:Bl w w1:=ae (by go_grown) a
 clear a;go_wp2_with fail;go_ret;exact ⟨rfl,f⟩
theorem zR (args:Array Value) (w:World):(callFunc 220 args).run Tryz.prog w=.ok (.enter 220 args) w:=by simp [go_sem]
theorem vD (args:Array Value) (w:World):(callFunc 180 args).run Tryz.prog w=.ok (.enter 180 args) w:=by simp [go_sem]
theorem Cl (w:World) (op n:Int) (nm:ByteArray) (l r:Int) (i:Nat):Calls Tryz.prog 178 #[.slice (some ⟨w.heap.size+1+1+1,0,none⟩) 2 2,.func (.func 220) #[] #[.pointer (some ⟨w.heap.size+1,0,none⟩)]] ((eJ w op n nm l r i).alloc (.cells #[.int .i64 l,.int .i64 r] 3)) fun e w'=>e=.returned (.bool (anyL (aH i) [l,r]))∧Below ((eJ w op n nm l r i).alloc (.cells #[.int .i64 l,.int .i64 r] 3)).heap.size ((eJ w op n nm l r i).alloc (.cells #[.int .i64 l,.int .i64 r] 3)) w':=by
 have b:=n9 w op n nm l r i;have a:=heap_alloc_new (eJ w op n nm l r i) (.cells #[.int .i64 l,.int .i64 r] 3);rw [b] at a;refine pP 220 #[.pointer (some ⟨w.heap.size+1,0,none⟩)] (aH i) zR (some ⟨w.heap.size+1+1+1,0,none⟩) 2 [l,r] _ (by simp) ⟨by simp,Or.inr ⟨_,rfl,by simp [b],?_⟩⟩ ?_
 ·intro j g
  match j,g with
  | 0,_=>simp [World.cell?,a]
  | 1,_=>simp [World.cell?,a]
 intro x w' f;have c:=(tY w op n nm l r i).2.1;have d:w'.heap[w.heap.size+1]?=some (.cells #[.int .i64 i] 3 (0,0)):=by
  rw [f.block _ (by simp [b]),heap_alloc_old _ _ (by rw [b];omega)]
  exact c
 exact Bj i (w.heap.size+1) x w' (by simp [World.cell?,d])
theorem Gm (x:Nd) (i:Nat) (w:World) (f:3≤x.op) (g:x.op≤6):Rt 177 #[Ea x,.int .i64 i] w (errV (ndErr x i)):=by
 obtain ⟨op,n,name,left,a⟩:=x;simp only at f g;rw [fJ];have b:=Cl w op n name left a i;have m:∀ (fn:Fn) (first cap:Array Value) (w:World),(Instr.makeFunc fn first cap).run Tryz.prog w=.ok (.func fn first cap) w:=fun _ _ _ _=>rfl
 have l:Hid (Below (eJ w op n name left a i).heap.size (eJ w op n name left a i) ((eJ w op n name left a i).alloc (.cells #[.int .i64 left,.int .i64 a] 3))):=(zS).alloc (zT) _;have k:op=3∨op=4∨op=5∨op=6:=by omega
 cases ha:anyL (aH i) [left,a]
 ·rw [Lo f g ha]
  rw [ha] at b;clear ha;unfold eJ at b
  rcases k with rfl | rfl | rfl | rfl
  all_goals
   go_enter Tryz.func177,Tryz.ntmps177
   go_wp2_with fail;refine b.mono ?_;rintro e w1 ⟨rfl,c⟩;obtain ⟨j,⟨o,p,q,r,s⟩,-,⟨v,y,z,A,B⟩,h⟩:=l8 (ae l.out c);have t:=h 3;have u:=h 4;have d:=aa j;clear c j h b;go_wp2_with fail
   go_region
   all_goals go_wp2_with fail
   all_goals (go_ret;refine ⟨?_,by first | exact ((d.out.setCell (by simp;omega) _).setCell (by simp;omega) _).drew | exact ((d.out.drew.setCell (by simp;omega) _).setCell (by simp;omega) _)⟩;first | rfl | (rw [if_pos (by simp_all)];rfl) | (rw [if_neg (by simp_all)];rfl) | (exfalso;simp_all;done))
 rw [KS f g ha,aj (by decide)]
 rw [ha] at b;clear ha;unfold eJ at b
 rcases k with rfl | rfl | rfl | rfl
 all_goals
  go_enter Tryz.func177,Tryz.ntmps177
  go_wp2_with fail;refine b.mono ?_;rintro e w1 ⟨rfl,c⟩;have d:Hid (Bl w w1):=ae (by go_grown) c
  clear c b;go_wp2_with fail;go_ret;exact ⟨rfl,d.out⟩
theorem El (x:Nd) (i:Nat) (w:World) (a:x.op<1∨6<x.op):Rt 177 #[Ea x,.int .i64 i] w (errV (ndErr x i)):=by
 have c:ndErr x i=1:=by unfold ndErr;rw [if_pos a]
 rw [c,aj (by decide)]
 obtain ⟨op,n,name,left,b⟩:=x;simp only at a;rw [fJ];have d:(op == 1)=false:=by apply Bool.eq_false_iff.2;intro e;rw [beq_iff_eq] at e;omega
 have f:(op == 2)=false:=by apply Bool.eq_false_iff.2;intro e;rw [beq_iff_eq] at e;omega
 have g:(op == 3)=false:=by apply Bool.eq_false_iff.2;intro e;rw [beq_iff_eq] at e;omega
 have h:(op == 4)=false:=by apply Bool.eq_false_iff.2;intro e;rw [beq_iff_eq] at e;omega
 have j:(op == 5)=false:=by apply Bool.eq_false_iff.2;intro e;rw [beq_iff_eq] at e;omega
 have k:(op == 6)=false:=by apply Bool.eq_false_iff.2;intro e;rw [beq_iff_eq] at e;omega
 clear a c
 go_enter Tryz.func177,Tryz.ntmps177
 go_wp2_with fail;go_ret;exact ⟨rfl,by go_grown⟩
theorem Ek (x:Nd) (i:Nat) (w:World):Rt 177 #[Ea x,.int .i64 i] w (errV (ndErr x i)):=by
 by_cases b:x.op=1
 ·exact Em x i w b
 by_cases c:x.op=2
 ·exact Eo x i w c
 by_cases a:3≤x.op∧x.op≤6
 ·exact Gm x i w a.1 a.2
 exact El x i w (by omega)
def cntN (l:List Nd) (k j:Nat):Nat:=usedTo l k j+(if j+1=l.length then 1 else 0)
def du (l:List Nd) (k:Nat):List Int:=(List.range l.length).map fun j=>(cntN l k j:Int)
section
variable {l:List Nd} {k j a b:Nat}
theorem fi:(du l k).length=l.length:=by simp [du]
theorem mz (h:j<l.length):(du l k).getD j 0=(cntN l k j:Int):=by simp [du,List.getD,h]
theorem Fw (l:List Nd) (k j:Nat):usedTo l k j≤2*k:=by
 induction k with
 | zero=>exact zT
 | succ k ih =>
  have:uses (l.getD k bH) j≤2:=by unfold uses;split <;> (try split) <;> (try split) <;> omega
  show usedTo l k j+uses (l.getD k bH) j≤_
  omega
theorem yu (l:List Nd) (k j:Nat):cntN l k j≤2*k+1:=by
 have:=Fw l k j;unfold cntN
 split <;> omega
theorem zJ (h:0<l.length):du l 0=(List.replicate l.length (0:Int)).set (l.length-1) 1:=by
 apply List.ext_getElem (by simp [du])
 intro j a b;rw [List.getElem_set];simp only [du,cntN,usedTo,List.getElem_map,List.getElem_range,List.getElem_replicate]
 by_cases e:l.length-1=j
 ·rw [if_pos (by omega),if_pos e];rfl
 rw [if_neg (by omega),if_neg e];rfl
theorem zI (h:(l.getD k bH).op≤2):du l (k+1)=du l k:=by
 have e:∀ j,cntN l (k+1) j=cntN l k j:=fun j=>by
  show usedTo l k j+uses (l.getD k bH) j+_=usedTo l k j+_
  rw [uses,if_neg (by omega)]
  rfl
 unfold du;simp only [e]
theorem Df (h:2<(l.getD k bH).op) (p:(l.getD k bH).left=(a:Int)) (q:(l.getD k bH).right=(b:Int)) (g:a<l.length) (i:b<l.length) :
  ((du l k).set a ((cntN l k a:Int)+1)).set b ((((du l k).set a ((cntN l k a:Int)+1)).getD b 0)+1)=du l (k+1):=by
 apply List.ext_getElem (by simp [du])
 intro j r o;have s:j<l.length:=by simpa [du] using o
 have e:(du l (k+1))[j]=((usedTo l k j+uses (l.getD k bH) j+(if j+1=l.length then 1 else 0):Nat):Int):=by simp only [du,cntN,usedTo,List.getElem_map,List.getElem_range]
 have m:∀ h,(du l k)[j]'h=(cntN l k j:Int):=fun h=>by simp only [du,List.getElem_map,List.getElem_range]
 have n:((du l k).set a ((cntN l k a:Int)+1)).getD b 0=if a=b then (cntN l k a:Int)+1 else (cntN l k b:Int):=by
  rw [zZ,List.getElem?_set]
  by_cases e:a=b
  ·subst e;simp [fi,g]
  rw [if_neg e,if_neg e,←zZ,mz i]
 rw [e,uses,if_pos h,p,q,List.getElem_set,List.getElem_set,m,n];unfold cntN
 by_cases c:b=j
 ·subst c
  by_cases d:a=b
  ·subst d
   simp
   omega
  have : ¬ (a:Int)=(b:Int):=by omega
  simp [d,this]
  omega
 have h3 : ¬ (b:Int)=(j:Int):=by omega
 by_cases f:a=j
 ·subst f
  simp [c,h3]
  omega
 have h4 : ¬ (a:Int)=(j:Int):=by omega
 simp [c,h3,f,h4]
theorem eI {x:Nd} {i:Nat} (h:ndErr x i=0) (a:2<x.op):0≤x.left∧x.left<i∧0≤x.right∧x.right<i:=by
 unfold ndErr at h
 split at h
 ·cases h
 rw [if_neg (by omega),if_neg (by omega)] at h
 split at h
 ·cases h
 omega
theorem qY (a:∀ j,j<l.length→ndErr (l.getD j bH) j=0):∀ k,k≤l.length→usedTo l k (l.length-1)=0
 | 0,_=>rfl
 | k+1,hk=>by
  have b:=qY a k (by omega)
  show usedTo l k (l.length-1)+uses (l.getD k bH) (l.length-1)=0
  rw [b];unfold uses
  split
  ·rename_i h
   have:=eI (a k (by omega)) h
   rw [if_neg (by omega),if_neg (by omega)]
  rfl
end
theorem jG.nd {w:World} {b o:Nat} {l:List Nd} {k:Nat} (h:jG w b o l) (a:k<l.length):w.cell? ⟨b,o+k*5,none⟩=some (.int .i64 (l.getD k bH).op)∧w.cell? ⟨b,o+k*5+1,none⟩=some (.int .i64 (l.getD k bH).n)∧w.cell? ⟨b,o+k*5+2,none⟩=some (.string (l.getD k bH).name)∧w.cell? ⟨b,o+k*5+3,none⟩=some (.int .i64 (l.getD k bH).left)∧w.cell? ⟨b,o+k*5+4,none⟩=some (.int .i64 (l.getD k bH).right):=h.2 k a
theorem Fx (b o cap:Nat) (l:List Nd) (w:World) (h0:0<l.length) (h30:l.length≤30) (hN:jG w b o l) (hg:∀ j,j<l.length→ndErr (l.getD j bH) j=0) :
  Calls Tryz.prog 179 #[.slice (some ⟨b,o,none⟩) l.length cap] w fun e w'=>(∃ A c,e=.returned (.slice A (du l l.length).length c)∧bU w' A c (du l l.length))∧Bl w w':=by
 have HG:=aa hg;have Y:=aa hN;have q:Hid ((du l l.length).length=l.length):=fi;have D:=run_make_row' (P:=Tryz.prog) 26 3 (.int .i64 0) 8 Tryz.underlying26 Tryz.infoIntP rfl .i64 .i64 l.length (by omega) (by omega)
 have R:=zJ h0;obtain ⟨n,hn⟩:∃ n,l.length=n+1:=⟨l.length-1,by omega⟩
 rw [hn] at D q R ⊢;have hni:(n:Int)≤29:=by omega
 have HZ:=aa R;have z:cd (w.alloc (.cells (madeCells #[.int .i64 0] (n+1)) 3)) w.heap.size (List.replicate (n+1) 0):=cd.made w (n+1);have y0:=z.cell (j:=n) (by simp)
 have yf:=z.frozen n;have N:(List.replicate (n+1) (0:Int)).getD n 0=0:=by simp [List.getD]
 rw [N] at y0;have U:Hid (cd (w.alloc (.cells ((madeCells #[.int .i64 0] (n+1)).setIfInBounds n (.int .i64 1)) 3)) w.heap.size (du l 0)):=by
  show cd _ _ _
  unfold cd;rw [R,heap_alloc_new,qw,List.setIfInBounds_toArray,List.map_set]
  rfl
 have hmk':∀ w:World,(Instr.makeSlice 26 (.int .i64 ((n:Int)+1)) (.int .i64 ((n:Int)+1))).run Tryz.prog w=.ok (.slice (some ⟨w.heap.size,0,none⟩) (n+1) (n+1)) (w.alloc (.cells (madeCells #[.int .i64 0] (n+1)) 3)):=D;clear R hg hN z N D
 go_enter Tryz.func179,Tryz.ntmps179
 go_wp2_with fail
 go_loopg [19] (n+1) (fun g s19 wr => ∃ (k:Nat),k≤n+1∧g=n+1-k∧s19=.int .i64 k∧cd wr w.heap.size (du l k)∧Bl w wr)
 case atStart=>exact ⟨0,zU,rfl,rfl,U.out,by go_grown⟩
 case round =>
  obtain ⟨k,hk,rfl,rfl,Z,J⟩:=hrel;have F:=aa Z;have H:=aa J;clear Z J
  by_cases hlt:k<n+1
  ·have hki:(k:Int)<(n:Int)+1:=by omega
   obtain ⟨x0,x1,x2,x3,x4⟩:=(Y.out.later H.out).nd (k:=k) (by omega)
   have h:=AM (l.getD k bH).op;have hbl:b<w.heap.size:=Y.out.1;have hsz:=H.out.size;have hIl:=F.out.lt;obtain ⟨x,X⟩:=ax (l.getD k bH);have I:=aa X;rw [X] at x0 x1 x2 x3 x4 h;clear X;have m:Hid (Bl wr (wr.alloc (.cells #[.int .i64 x.op,.int .i64 x.n,.string x.name,.int .i64 x.left,.int .i64 x.right] 142))):=(zS).alloc (zT) _;have f:=HG.out k (by omega)
   rw [I.out] at f
   by_cases E:x.op≠1∧x.op≠2
   ·have M:2<x.op:=by
     unfold ndErr at f
     split at f
     ·cases f
     omega
    obtain ⟨l0,l1,r0,r1⟩:=eI f M;obtain ⟨a,O⟩:∃ a:Nat,x.left=a:=⟨x.left.toNat,by omega⟩
    obtain ⟨c,t⟩:∃ c:Nat,x.right=c:=⟨x.right.toNat,by omega⟩
    have s:a<l.length:=by omega
    have C:c<l.length:=by omega
    have G:Hid (((du l k).set a ((cntN l k a:Int)+1)).set c ((((du l k).set a ((cntN l k a:Int)+1)).getD c 0)+1)=du l (k+1)):=Df (by rw [I.out];exact M) (by rw [I.out];exact O) (by rw [I.out];exact t) s C
    have hle:=yu l k a;obtain ⟨u,B⟩:∃ u:Nat,cntN l k a=u:=⟨_,rfl⟩;rw [decide_eq_true E] at h;rw [O] at x3;rw [t] at x4;rw [O,t] at m;have L:∀ e:Int,((du l k).set a ((u:Int)+1)).getD c 0=e→0≤e∧e≤200:=by
     intro e Q;rw [zZ,List.getElem?_set] at Q
     by_cases K:a=c
     ·rw [if_pos K,if_pos (by rw [fi];exact s)] at Q
      simp at Q;omega
     rw [if_neg K,←zZ,mz C] at Q;have:=yu l k c
     omega
    rw [B] at G;obtain ⟨V,i⟩:∃ V:Int,((du l k).set a ((u:Int)+1)).getD c 0=V:=⟨_,rfl⟩;obtain ⟨cb0,cb1⟩:=L V i;have T:=aa i;rw [i] at G;have hai:(a:Int)<(n:Int)+1:=by omega
    have hci:(c:Int)<(n:Int)+1:=by omega
    have hcai:(u:Int)≤200:=by omega
    have S:=aa B;clear f E l0 l1 r0 r1 L i B;go_wp2_with fail;refine (h _).mono ?_;rintro e w1 ⟨rfl,d⟩;have v:=aa (ae H.out (ae m.out d));have p:=aa (F.out.later (ae m.out d));have r:w1.heap[wr.heap.size]?=some (.cells #[.int .i64 x.op,.int .i64 x.n,.string x.name,.int .i64 a,.int .i64 c] 142 (0,0)):=by
     rw [d.block wr.heap.size (by simp)]
     have:=heap_alloc_new wr (.cells #[.int .i64 x.op,.int .i64 x.n,.string x.name,.int .i64 a,.int .i64 c] 142)
     simpa [O,t] using this
    have z3:w1.cell? ⟨wr.heap.size,3,none⟩=some (.int .i64 a):=by simp [World.cell?,r]
    have z4:w1.cell? ⟨wr.heap.size,4,none⟩=some (.int .i64 c):=by simp [World.cell?,r]
    have i1:=p.out.cell (j:=a) (by rw [fi];exact s)
    rw [mz s,S.out] at i1;have i2:=p.out.frozen a;have y:Hid (cd (w1.setCell ⟨w.heap.size,a,none⟩ (.int .i64 ((u:Int)+1))) w.heap.size ((du l k).set a ((u:Int)+1))):=p.out.set a _;have i3:=y.out.cell (j:=c) (by rw [List.length_set,fi];exact C)
    rw [T.out] at i3;have i4:=y.out.frozen c;have hne:wr.heap.size≠w.heap.size:=by omega
    have z4':(w1.setCell ⟨w.heap.size,a,none⟩ (.int .i64 ((u:Int)+1))).cell? ⟨wr.heap.size,4,none⟩=some (.int .i64 c):=by
     rw [World.cell?_setCell_other _ _ _ _ (by first | (simp;done) | (simp;omega))];exact z4
    clear d r h;go_wp2_with fail
    go_roundg (n+1-(k+1))
    case measure=>omega
    case rel=>exact ⟨k+1,by omega,rfl,by go_num,by rw [←G.out];exact y.out.set c _,(v.out.setCell (zT) _).setCell (zT) _⟩
   rw [decide_eq_false E] at h;have G:Hid (du l (k+1)=du l k):=zI (by rw [I.out];omega)
   clear f E;go_wp2_with fail;refine (h _).mono ?_;rintro e w1 ⟨rfl,d⟩;have v:=aa (ae H.out (ae m.out d));have p:=aa (F.out.later (ae m.out d));clear d h;go_wp2_with fail
   go_roundg (n+1-(k+1))
   case measure=>omega
   case rel=>exact ⟨k+1,by omega,rfl,by go_num,by rw [G.out];exact p.out,v.out⟩
  have W:k=n+1:=by omega
  subst W;go_wp2_with fail;go_ret;refine ⟨⟨some ⟨w.heap.size,0,none⟩,n+1,by rw [q.out];rfl,?_⟩,H.out⟩
  refine ⟨by rw [q.out];exact zT,Or.inr ⟨_,rfl,F.out.lt,fun j E=>F.out.cell E⟩⟩
theorem FP {l:List Nd} (p:0<l.length) (n:∀ j,j<l.length→ndErr (l.getD j bH) j=0):anyL (fun x=>decide (x≠1)) (du l l.length)=decide (∃ j,j<l.length-1∧kf l j=true):=by
 have o:=qY n l.length (zT);have k:∀ j,j<l.length→(du l l.length).getD j 0=(cntN l l.length j:Int):=fun j h=>mz h
 cases hx:decide (∃ j,j<l.length-1∧kf l j=true)
 ·unfold anyL
  rw [List.any_eq_false];intro x g;obtain ⟨i,d,rfl⟩:=List.getElem_of_mem g;have f:i<l.length:=by rw [fi] at d;exact d
  have e:(du l l.length)[i]=(cntN l l.length i:Int):=by rw [←k i f,List.getD,zX d];rfl
  rw [e];have m:cntN l l.length i=1:=by
   unfold cntN
   by_cases a:i+1=l.length
   ·rw [if_pos a,show i=l.length-1 by omega,o]
   rw [if_neg a];have:=(decide_eq_false_iff_not.1 hx)
   by_cases c:kf l i=true
   ·exact absurd ⟨i,by omega,c⟩ this
   simpa [kf] using c
  rw [m]
  decide
 obtain ⟨j,h,c⟩:=of_decide_eq_true hx;unfold anyL;rw [List.any_eq_true];have b:j<(du l l.length).length:=by rw [fi];omega
 refine ⟨(du l l.length)[j],List.getElem_mem b,?_⟩;have e:(du l l.length)[j]=(cntN l l.length j:Int):=by rw [←k j (by omega),List.getD,zX b];rfl
 rw [e];unfold cntN;rw [if_neg (by omega)]
 have:usedTo l l.length j≠1:=of_decide_eq_true c
 simp
 omega
theorem nB (A:Option Addr) (cap:Nat) (l:List Nd) (w:World) (I:fQ w A cap l):Rt 150 #[.slice A l.length cap] w (errV (av l)):=by
 obtain ⟨hc,X,V | ⟨b,o,rfl,I⟩⟩:=I
 ·subst V
  rw [jg rfl,aj (by decide)]
  simp only [List.length_nil]
  go_enter Tryz.func150,Tryz.ntmps150
  go_wp2_with fail;go_ret;exact ⟨rfl,zS⟩
 by_cases p:l.length=0
 ·rw [jg p,aj (by decide),p]
  go_enter Tryz.func150,Tryz.ntmps150
  go_wp2_with fail;go_ret;exact ⟨rfl,zS⟩
 have G:0<(l.length:Int):=by omega
 have Q:((l.length:Int) == 0)=false:=by simpa using p
 by_cases N:30<l.length
 ·have t:30<(l.length:Int):=by omega
  rw [lm N,aj (by decide)]
  go_enter Tryz.func150,Tryz.ntmps150
  go_wp2_with fail;go_ret;exact ⟨rfl,zS⟩
 have t:(l.length:Int)≤30:=by omega
 have K:=aa I;obtain ⟨n,T⟩:=ax l.length;have C:=aa T;rw [T] at Q G t ⊢;clear I
 go_enter Tryz.func150,Tryz.ntmps150
 go_wp2_with fail
 go_loopg [16] n (fun g s16 wr => ∃ (k:Nat),k≤n∧g=n-k∧s16=.int .i64 k∧(∀ j,j<k→fu l j=false)∧Bl w wr)
 case atStart=>exact ⟨0,zU,rfl,rfl,fun j B=>absurd B (Nat.not_lt_zero j),zS⟩
 case round =>
  obtain ⟨k,hk,rfl,rfl,F,v⟩:=hrel;have q:=aa F;have E:=aa v;have W:b<w.heap.size:=K.out.1;have Lt:=v.size;clear F v
  by_cases Z:k<n
  ·have Y:(k:Int)<(n:Int):=by omega
   obtain ⟨x0,x1,x2,x3,x4⟩:=(K.out.later E.out).nd (k:=k) (by omega)
   have d:=Ek (l.getD k bH) k;obtain ⟨x,S⟩:=ax (l.getD k bH);have M:=aa S;rw [S] at x0 x1 x2 x3 x4 d;rw [fJ] at d;clear S
   by_cases y:ndErr x k=0
   ·rw [y,errV_zero] at d
    have J:Hid (fu l k=false):=by show fu l k=false;unfold fu;rw [M.out,y];rfl
    clear y;go_wp2_with fail;refine (d _).mono ?_;rintro e w1 ⟨rfl,c⟩;have f:Hid (Bl w w1):=ae E.out (ae (by go_grown) c)
    clear c d;go_wp2_with fail
    go_roundg (n-(k+1))
    case measure=>omega
    case rel=>exact ⟨k+1,by omega,rfl,by go_num,fun j B=>by rcases Nat.lt_succ_iff_lt_or_eq.1 B with h | h;exact q.out j h;rw [h];exact J.out,f.out⟩
   have D:Hid (av l=ndErr x k):=by
    have h:=nD (l:=l) (i:=k) (by omega) (by omega) (by unfold fu;rw [M.out];simpa using y) q.out
    rw [M.out] at h;exact h
   rw [aj y] at d;have U:Hid (errV (av l)=.iface 68 (.int .i64 (ndErr x k))):=by show _=_;rw [D.out,aj y]
   generalize ndErr x k=ec at *;clear y;go_wp2_with fail;refine (d _).mono ?_;rintro e w1 ⟨rfl,c⟩;have f:Hid (Bl w w1):=ae E.out (ae (by go_grown) c)
   clear c d;go_wp2_with fail;go_ret;exact ⟨by rw [U.out];rfl,f.out⟩
  have P:k=n:=by omega
  subst P;have O:∀ j,j<l.length→ndErr (l.getD j bH) j=0:=fun j B=>by
   have h:=q.out j (by have:=C.out;omega)
   simpa [fu] using h
  have r:=Fx b o cap l wr (by omega) (by omega) (K.out.later E.out) O
  rw [C.out] at r;have L:=aa (FP (l:=l) (by omega) O)
  have s:Hid (∀ j,j<l.length→fu l j=false):=fun j B=>q.out j (by have:=C.out;omega)
  clear O;go_wp2_with fail;refine r.mono ?_;rintro e w1 ⟨⟨A1,c1,rfl,z⟩,c⟩;have f:=aa (ae E.out c);have a:=pP 180 #[] (fun x=>decide (x≠1)) vD A1 c1 (du l k) w1 (by rw [fi];omega) z (fun x w' _=>tf x w')
  have H:=L.out;rw [C.out] at H;rw [H] at a;cases hd:decide (∃ j,j<k-1∧kf l j=true)
  ·have D:Hid (av l=0):=by
    refine qe p (by omega) s.out fun j B=>?_
    have:=of_decide_eq_false hd;cases R:kf l j
    ·rfl
    exact absurd ⟨j,by have:=C.out;omega,R⟩ this
   rw [hd] at a;clear z c r hd H;go_wp2_with fail;refine a.mono ?_;rintro e w2 ⟨rfl,m⟩;have u:=aa (ae f.out m);clear m a;go_wp2_with fail;go_ret;exact ⟨by rw [D.out];rfl,u.out⟩
  have D:Hid (av l=3):=by
   obtain ⟨j,B,R⟩:=of_decide_eq_true hd;exact nE p (by omega) s.out (i:=j) (by have:=C.out;omega) R
  rw [hd] at a;clear z c r hd H;go_wp2_with fail;refine a.mono ?_;rintro e w2 ⟨rfl,m⟩;have u:=aa (ae f.out m);clear m a;go_wp2_with fail;go_ret;exact ⟨by rw [D.out];rfl,u.out⟩
end Go.Proofs.YthlhjjabkgpenaaGreatDoor
