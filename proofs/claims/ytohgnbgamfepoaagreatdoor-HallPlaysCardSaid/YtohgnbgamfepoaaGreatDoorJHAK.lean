/- Who takes the words of -/
import Derived.Test.YtohgnbgamfepoaaGreatDoorJHAJ
namespace Go.Proofs.YtohgnbgamfepoaaGreatDoor
open ChangeShapes WideShapes ChangeAt RowKit
set_option maxRecDepth 99999
set_option maxHeartbeats 0
theorem vf (l:List Int) (x:Int):opsN (l ++ [x])=opsN l+(if x≠0 then 1 else 0)∧dY (l ++ [x])=dY l+(if x=0 then 1 else 0):=by
 unfold opsN dY;rw [List.countP_append,List.countP_append]
 by_cases e:x=0 <;> simp [e]
theorem fS {b:Bld} {t:ByteArray} (h:48≤byteN t 0):takeB b t=jZ (opndN t) b:=by
 have hs : ¬ 0≤signI (byteN t 0):=by
  unfold signI;rw [if_neg (by omega),if_neg (by omega),if_neg (by omega),if_neg (by omega)]
  omega
 rw [takeB,if_neg (by omega),if_neg (by omega),if_neg hs]
theorem Az {a o n:Nat} {b:Bld} {x:Nd} (i:1≤n) (e:FitB a o false b):FitB (a+n) o true (jZ x b):=by
 obtain ⟨c,d,f,g,h⟩:=e;refine ⟨c,?_,?_,?_,?_⟩
 ·simp [jZ] at d ⊢;omega
 ·simp [jZ];omega
 ·simp [jZ];omega
 simp [jZ];omega
theorem EZ {a o o':Nat} {ph ph':Bool} {b:Bld} {t:ByteArray} (q:Stp o ph t o' ph') (e:FitB a o ph b):FitB (a+t.size) o' ph' (takeB b t):=by
 cases q with
 | opn o t h1 h40 =>
  obtain ⟨h,c,j,l,m⟩:=e;have f:takeB b t=⟨b.nodes,b.ready,b.waiting ++ [0]⟩:=by rw [takeB,if_pos h40]
  rw [f];obtain ⟨s1,s2⟩:=vf b.waiting 0;rw [if_neg (by decide)] at s1
  rw [if_pos rfl] at s2
  simp at c
  refine ⟨?_,?_,?_,?_,?_⟩
  ·show dY (b.waiting ++ [0])=_;omega
  ·show opsN (b.waiting ++ [0])+_≤b.ready.length;simp;omega
  ·show b.nodes.length+opsN (b.waiting ++ [0])≤_;omega
  ·show (b.waiting ++ [0]).length≤_;simp;omega
  show b.ready.length≤_;omega
 | cls _ t h1 h41 =>
  obtain ⟨h,c,j,l,m⟩:=e
  simp at c
  have f:takeB b t=⟨(settleB 0 b).nodes,(settleB 0 b).ready,(settleB 0 b).waiting.take ((settleB 0 b).waiting.length-1)⟩:=by rw [takeB,if_neg (by omega),if_pos h41]
  rw [f];obtain ⟨s,u,v,w,x⟩:=g8 0 b c;have n:1≤(settleB 0 b).waiting.length:=by have:=GW (settleB 0 b).waiting;omega
  obtain ⟨k,g⟩:∃ k,(settleB 0 b).waiting.length=k+1:=⟨(settleB 0 b).waiting.length-1,by omega⟩
  have p:(settleB 0 b).waiting.getD k 0=0:=ns _ b rfl k g;obtain ⟨o1,o2⟩:=pz g;rw [p,if_neg (by decide)] at o1
  rw [p,if_pos rfl] at o2;rw [g,Nat.add_sub_cancel];refine ⟨?_,?_,?_,?_,?_⟩
  ·show dY ((settleB 0 b).waiting.take k)=_;omega
  ·show opsN ((settleB 0 b).waiting.take k)+_≤(settleB 0 b).ready.length;simp;omega
  ·show (settleB 0 b).nodes.length+opsN ((settleB 0 b).waiting.take k)≤_;omega
  ·show ((settleB 0 b).waiting.take k).length≤_;simp;omega
  show (settleB 0 b).ready.length≤_;omega
 | num _ t h1 h7 hd =>
  have d:=hd 0 (by omega)
  unfold b9 at d
  simp at d
  rw [fS (by omega)]
  exact Az h1 e
 | nam _ t h1 hl =>
  have d:=hl 0 (by omega)
  unfold bG at d
  simp at d
  rw [fS (by omega)]
  exact Az h1 e
 | sgn _ t h1 hs =>
  obtain ⟨h,c,j,l,m⟩:=e
  simp at c
  obtain ⟨i,r⟩:=az (signI (byteN t 0));have y:=pY hs;have f:takeB b t=⟨(settleB (bindN (3+i)) b).nodes,(settleB (bindN (3+i)) b).ready,(settleB (bindN (3+i)) b).waiting ++ [3+i]⟩:=by
   rw [takeB,if_neg (by omega),if_neg (by omega),if_pos hs,r]
  rw [f];obtain ⟨s,u,v,w,x⟩:=g8 (bindN (3+i)) b c;obtain ⟨s1,s2⟩:=vf (settleB (bindN (3+i)) b).waiting (3+i);rw [if_pos (by omega)] at s1
  rw [if_neg (by omega)] at s2
  generalize settleB (bindN (3+i)) b=b1 at *;refine ⟨?_,?_,?_,?_,?_⟩
  ·show dY (b1.waiting ++ [3+i])=_;omega
  ·show opsN (b1.waiting ++ [3+i])+_≤b1.ready.length;simp;omega
  ·show b1.nodes.length+opsN (b1.waiting ++ [3+i])≤_;omega
  ·show (b1.waiting ++ [3+i]).length≤_;simp;omega
  show b1.ready.length≤_;omega
theorem Gz (N p a o o':Nat) (ph ph':Bool) (b:Bld) (t:ByteArray) (w:World) (f:N≤w.heap.size) (q:Stp o ph t o' ph') (n:FitB a o ph b) (x:a+t.size≤100) (d:dj N p b w) :
  Calls Tryz.prog 208 #[.pointer (some ⟨p,0,none⟩),.string t] w fun e w'=>e=.returned (.tuple #[])∧dj N p (takeB b t) w'∧Kept N (fun k=>k=p) w w':=by
 obtain ⟨r,h,s,u,v⟩:=n;cases q with
 | opn o t h1 h40 =>
  have g:takeB b t=⟨b.nodes,b.ready,b.waiting ++ [0]⟩:=by rw [takeB,if_pos h40]
  rw [g];exact GC N p b t w f h1 h40 (by omega) d
 | cls _ t h1 h41 =>
  simp at h
  have g:takeB b t=⟨(settleB 0 b).nodes,(settleB 0 b).ready,(settleB 0 b).waiting.take ((settleB 0 b).waiting.length-1)⟩:=by rw [takeB,if_neg (by omega),if_pos h41]
  rw [g];exact GB N p b t w f h1 h41 (by omega) (by omega) h (by omega) (by omega) d
 | num _ t h1 h7 hd =>
  have c:=hd 0 (by omega)
  unfold b9 at c
  simp at c
  rw [fS (by omega)]
  exact vX N p b t w f h1 (by omega) (Or.inr ⟨h7,hd⟩) (by omega) (by omega) d
 | nam _ t h1 hl =>
  have c:=hl 0 (by omega)
  have j:=c;unfold bG at c
  simp at c
  rw [fS (by omega)]
  exact vX N p b t w f h1 (by omega) (Or.inl j) (by omega) (by omega) d
 | sgn _ t h1 hs =>
  simp at h
  obtain ⟨i,l⟩:=az (signI (byteN t 0));have m:=pY hs;have g:takeB b t=⟨(settleB (bindN (3+i)) b).nodes,(settleB (bindN (3+i)) b).ready,(settleB (bindN (3+i)) b).waiting ++ [3+i]⟩:=by
   rw [takeB,if_neg (by omega),if_neg (by omega),if_pos hs,l]
  rw [g];exact GD N p b t w f h1 (byteN t 0) i rfl l (by rw [l] at m;exact m) (by omega) (by omega) h (by omega) d
def tkB (N p:Nat):Tkr Bld:=⟨N,p,100,208,#[.pointer (some ⟨p,0,none⟩)],takeB,fun b w=>dj N p b w,FitB⟩
theorem JI (N p:Nat):(tkB N p).Ok:=by
 refine ⟨by show 100≤_;omega,?_,?_,?_,?_⟩
 ·intro args w;show (callFunc 208 args).run Tryz.prog w=_;simp [go_sem,tkB]
 ·rintro q st w w' r d ⟨AN,u,AR,v,AW,x,i⟩ l
  refine ⟨_,_,_,_,_,_,i.stay fun k m n=>l.block k m fun e=>?_⟩
  have y:k=q:=by simpa using e
  have s:q<N:=r;have f:q≠p:=d
  omega
 ·intro a o ph st t o' ph' c b _
  exact EZ c b
 intro a o ph st t o' ph' w c b j h g;exact Gz N p a o o' ph ph' st t w h c b j g
def l9 (p:Int→Bool) (L:List Int):Bool:=L.any p
theorem tH (p:Int→Bool) (L:List Int):decide (0≤findFrom (fun j=>p (L.getD j 0)) L.length 0)=l9 p L:=by
 unfold l9
 rcases findFrom_cases (fun j=>p (L.getD j 0)) L.length 0 with ⟨a,c⟩ | ⟨m,a,_,g,d,_⟩
 ·rw [a,decide_eq_false (by omega)]
  symm
  rw [List.any_eq_false];intro x f;obtain ⟨i,e,rfl⟩:=List.getElem_of_mem f;have:=c i (zU) (by omega)
  simp only [List.getD,zX e,Option.getD_some] at this
  simp [this]
 rw [a,decide_eq_true (by omega)]
 symm
 rw [List.any_eq_true];have b:m<L.length:=by omega
 refine ⟨L[m],List.getElem_mem b,?_⟩
 simpa only [List.getD,zX b,Option.getD_some] using d
theorem qI (F:Nat) (cap:Array Value) (p:Int→Bool) (a:∀ (args:Array Value) (w:World),(callFunc F args).run Tryz.prog w=.ok (.enter F args) w) (A:Option Addr) (c:Nat) (L:List Int) (w:World) (h:L.length≤200) (f:bX w A c L)
  (d:∀ (x:Int) (w':World),Bl w w'→Calls Tryz.prog F (#[.int .i64 x] ++ cap) w' fun e w''=>e=.returned (.bool (p x))∧Bl w' w'') :
  Rt 173 #[.slice A L.length c,.func (.func F) #[] cap] w (.bool (l9 p L)):=by
 have g:=oH F cap p a A c L w (by omega) (ly f) fun x w' _=>d x w'
 rw [←tH];generalize findFrom (fun j=>p (L.getD j 0)) L.length 0=r at *
 clear d f
 go_enter Tryz.func173,Tryz.ntmps173
 go_wp2_with fail;refine g.mono ?_;rintro e w1 ⟨rfl,b⟩;go_wp2_with fail;go_ret;exact ⟨rfl,b⟩
def sO (i:Nat) (k:Int):Bool:=decide (k<0) || decide ((i:Int)≤k)
theorem CD (i q:Nat) (k:Int) (w:World) (h:w.cell? ⟨q,0,none⟩=some (.int .i64 i)):Rt 215 #[.int .i64 k,.pointer (some ⟨q,0,none⟩)] w (.bool (sO i k)):=by
 unfold sO
 by_cases a:k<0
 ·go_enter Tryz.func215,Tryz.ntmps215
  go_wp2;go_ret;exact ⟨by simp <;> omega,by go_grown⟩
 go_enter Tryz.func215,Tryz.ntmps215
 go_wp2;go_ret;exact ⟨by simp <;> omega,by go_grown⟩
theorem uf (k:Int) (w:World):Rt 175 #[.int .i64 k] w (.bool (decide (k≠1))):=by
 go_enter Tryz.func175,Tryz.ntmps175
 go_wp2;go_ret;exact ⟨by by_cases h:k=1 <;> simp [h],by go_grown⟩
theorem Bu (t:ByteArray):t.toList=[]↔t.size=0:=by
 have h:=aU (s:=t);rw [←List.isEmpty_iff,h,decide_eq_true_eq]
section
variable {n op:Int} {nm:ByteArray} {l r:Int} {i:Nat}
theorem KS (a:0≤n) (b:n≤1000000):ndErr ⟨1,n,nm,l,r⟩ i=if nm.toList=[]∧l=0∧r=0 then 0 else 3:=by
 simp only [ndErr,Bu];rw [if_neg (by omega),if_pos trivial,if_neg (by omega)]
 by_cases h:nm.size=0∧l=0∧r=0
 ·rw [if_pos h,if_neg (by omega)]
 rw [if_neg h,if_pos (by omega)]
theorem KU (h:aP nm=0):ndErr ⟨2,n,nm,l,r⟩ i=if n=0∧l=0∧r=0 then 0 else 3:=by
 simp only [ndErr];rw [if_neg (by omega),if_neg (by omega),if_pos trivial,if_neg (by simpa using h)]
 by_cases h:n=0∧l=0∧r=0
 ·rw [if_pos h,if_neg (by omega)]
 rw [if_neg h,if_pos (by omega)]
theorem KV (b:3≤op) (c:op≤6) (a:l9 (sO i) [l,r]=false):ndErr ⟨op,n,nm,l,r⟩ i=if n=0∧nm.toList=[] then 0 else 3:=by
 simp [l9,sO] at a
 simp only [ndErr,Bu];rw [if_neg (by omega),if_neg (by omega),if_neg (by omega),if_neg (by omega)]
 by_cases h:n=0∧nm.size=0
 ·rw [if_pos h,if_neg (by omega)]
 rw [if_neg h,if_pos (by omega)]
theorem Ku (b:3≤op) (c:op≤6) (a:l9 (sO i) [l,r]=true):ndErr ⟨op,n,nm,l,r⟩ i=1:=by
 simp [l9,sO] at a
 simp only [ndErr];rw [if_neg (by omega),if_neg (by omega),if_neg (by omega),if_pos (by omega)]
end
def fi (w:World) (op n:Int) (nm:ByteArray) (l r:Int) (i:Nat):World:=((w.alloc (.cells #[.int .i64 op,.int .i64 n,.string nm,.int .i64 l,.int .i64 r] 132)).alloc (.cells #[.int .i64 i] 3)).alloc (.cells #[.int .i64 op,.int .i64 0,.string ⟨#[]⟩,.int .i64 0,.int .i64 0] 132)
theorem pq (w:World) (op n:Int) (nm:ByteArray) (l r:Int) (i:Nat):(fi w op n nm l r i).heap.size=w.heap.size+3:=by unfold fi;simp
theorem uQ (w:World) (op n:Int) (nm:ByteArray) (l r:Int) (i:Nat):Bl w (fi w op n nm l r i):=by unfold fi;go_grown
theorem uP (w:World) (op n:Int) (nm:ByteArray) (l r:Int) (i:Nat):(fi w op n nm l r i).heap[w.heap.size]?=some (.cells #[.int .i64 op,.int .i64 n,.string nm,.int .i64 l,.int .i64 r] 132 (0,0))∧(fi w op n nm l r i).heap[w.heap.size+1]?=some (.cells #[.int .i64 i] 3 (0,0))∧(fi w op n nm l r i).heap[w.heap.size+1+1]?=some (.cells #[.int .i64 op,.int .i64 0,.string ⟨#[]⟩,.int .i64 0,.int .i64 0] 132 (0,0)):=by
 unfold fi;refine ⟨?_,?_,?_⟩
 ·rw [heap_alloc_old _ _ (by simp;omega)];exact qi w _ _
 ·rw [heap_alloc_old _ _ (by simp)];exact kr w _ _
 have h:=heap_alloc_new ((w.alloc (.cells #[.int .i64 op,.int .i64 n,.string nm,.int .i64 l,.int .i64 r] 132)).alloc (.cells #[.int .i64 i] 3)) (.cells #[.int .i64 op,.int .i64 0,.string ⟨#[]⟩,.int .i64 0,.int .i64 0] 132)
 simpa using h
theorem m6 {w w1:World} {op n:Int} {nm:ByteArray} {l r:Int} {i:Nat} (a:Below (fi w op n nm l r i).heap.size (fi w op n nm l r i) w1) :
  Bl w w1∧(w1.cell? ⟨w.heap.size,0,none⟩=some (.int .i64 op)∧w1.cell? ⟨w.heap.size,1,none⟩=some (.int .i64 n)∧w1.cell? ⟨w.heap.size,2,none⟩=some (.string nm)∧w1.cell? ⟨w.heap.size,3,none⟩=some (.int .i64 l)∧w1.cell? ⟨w.heap.size,4,none⟩=some (.int .i64 r))∧w1.cell? ⟨w.heap.size+1,0,none⟩=some (.int .i64 i) ∧
  (w1.cell? ⟨w.heap.size+1+1,0,none⟩=some (.int .i64 op)∧w1.cell? ⟨w.heap.size+1+1,1,none⟩=some (.int .i64 0)∧w1.cell? ⟨w.heap.size+1+1,2,none⟩=some (.string ⟨#[]⟩)∧w1.cell? ⟨w.heap.size+1+1,3,none⟩=some (.int .i64 0)∧w1.cell? ⟨w.heap.size+1+1,4,none⟩=some (.int .i64 0))∧∀ j,w1.frozen? ⟨w.heap.size+1+1,j,none⟩=false:=by
 obtain ⟨a1,a2,a3⟩:=uP w op n nm l r i;have e:=pq w op n nm l r i;have b:=(a.block w.heap.size (by omega)).trans a1
 have c:=(a.block (w.heap.size+1) (by omega)).trans a2
 have d:=(a.block (w.heap.size+1+1) (by omega)).trans a3
 refine ⟨ae (uQ ..) a,⟨?_,?_,?_,?_,?_⟩,?_,⟨?_,?_,?_,?_,?_⟩,fun j=>?_⟩ <;> simp [World.cell?,World.frozen?,b,c,d]
theorem FH (x:Nd) (i:Nat) (w:World) (d:x.op=1):Rt 172 #[Fw x,.int .i64 i] w (errV (ndErr x i)):=by
 obtain ⟨op,n,name,left,a⟩:=x;simp only at d;subst d;rw [ge]
 by_cases e:n<0
 ·have b:ndErr ⟨1,n,name,left,a⟩ i=1:=by simp [ndErr,e]
  rw [b,ak (by decide)]
  go_enter Tryz.func172,Tryz.ntmps172
  go_wp2;go_ret;exact ⟨rfl,by go_grown⟩
 by_cases c:1000000<n
 ·have b:ndErr ⟨1,n,name,left,a⟩ i=1:=by simp [ndErr,c]
  rw [b,ak (by decide)]
  go_enter Tryz.func172,Tryz.ntmps172
  go_wp2;go_ret;exact ⟨rfl,by go_grown⟩
 rw [KS (by omega) (by omega)]
 go_enter Tryz.func172,Tryz.ntmps172
 go_wp2
 all_goals (go_ret;refine ⟨?_,by go_grown⟩;first | rfl | (rw [if_pos (by simp_all)];rfl) | (rw [if_neg (by simp_all)];rfl) | (exfalso;simp_all;done))
theorem FI (x:Nd) (i:Nat) (w:World) (g:x.op=2):Rt 172 #[Fw x,.int .i64 i] w (errV (ndErr x i)):=by
 obtain ⟨op,n,name,left,b⟩:=x;simp only at g;subst g;rw [ge];have c:=pk name
 by_cases d:aP name=0
 ·rw [KU d]
  rw [d,errV_zero] at c;clear d
  go_enter Tryz.func172,Tryz.ntmps172
  go_wp2_with fail;refine (c _).mono ?_;rintro e w1 ⟨rfl,a⟩;obtain ⟨f,⟨o,p,q,s,t⟩,-,⟨v,y,z,A,B⟩,k⟩:=m6 (w:=w) (op:=2) (n:=n) (nm:=name) (l:=left) (r:=b) (i:=i) a;have u:=k 2;have m:=aa f;clear a f k;go_wp2_with fail
  all_goals (go_ret;refine ⟨?_,m.out.setCell (by simp;omega) _⟩;first | rfl | (rw [if_pos (by simp_all)];rfl) | (rw [if_neg (by simp_all)];rfl) | (exfalso;simp_all;done))
 have h:aP name=2:=eS d;have j:ndErr ⟨2,n,name,left,b⟩ i=2:=by
  simp only [ndErr];rw [if_neg (by omega),if_neg (by omega),if_pos trivial,if_pos (by omega)]
 rw [j,ak (by decide)]
 rw [h,ak (by decide)] at c
 clear d h j
 go_enter Tryz.func172,Tryz.ntmps172
 go_wp2_with fail;refine (c _).mono ?_;rintro e w1 ⟨rfl,a⟩;have f:Bl w w1:=ae (by go_grown) a
 clear a;go_wp2_with fail;go_ret;exact ⟨rfl,f⟩
theorem B5 (args:Array Value) (w:World):(callFunc 215 args).run Tryz.prog w=.ok (.enter 215 args) w:=by simp [go_sem]
theorem wW (args:Array Value) (w:World):(callFunc 175 args).run Tryz.prog w=.ok (.enter 175 args) w:=by simp [go_sem]
theorem DF (w:World) (op n:Int) (nm:ByteArray) (l r:Int) (i:Nat):Calls Tryz.prog 173 #[.slice (some ⟨w.heap.size+1+1+1,0,none⟩) 2 2,.func (.func 215) #[] #[.pointer (some ⟨w.heap.size+1,0,none⟩)]] ((fi w op n nm l r i).alloc (.cells #[.int .i64 l,.int .i64 r] 3)) fun e w'=>e=.returned (.bool (l9 (sO i) [l,r]))∧Below ((fi w op n nm l r i).alloc (.cells #[.int .i64 l,.int .i64 r] 3)).heap.size ((fi w op n nm l r i).alloc (.cells #[.int .i64 l,.int .i64 r] 3)) w':=by
 have b:=pq w op n nm l r i;have a:=heap_alloc_new (fi w op n nm l r i) (.cells #[.int .i64 l,.int .i64 r] 3);rw [b] at a;refine qI 215 #[.pointer (some ⟨w.heap.size+1,0,none⟩)] (sO i) B5 (some ⟨w.heap.size+1+1+1,0,none⟩) 2 [l,r] _ (by simp) ⟨by simp,Or.inr ⟨_,rfl,by simp [b],?_⟩⟩ ?_
 ·intro j g
  match j,g with
  | 0,_=>simp [World.cell?,a]
  | 1,_=>simp [World.cell?,a]
 intro x w' f;have c:=(uP w op n nm l r i).2.1;have d:w'.heap[w.heap.size+1]?=some (.cells #[.int .i64 i] 3 (0,0)):=by
  rw [f.block _ (by simp [b]),heap_alloc_old _ _ (by rw [b];omega)]
  exact c
 exact CD i (w.heap.size+1) x w' (by simp [World.cell?,d])
theorem Ic (x:Nd) (i:Nat) (w:World) (f:3≤x.op) (g:x.op≤6):Rt 172 #[Fw x,.int .i64 i] w (errV (ndErr x i)):=by
 obtain ⟨op,n,name,left,a⟩:=x;simp only at f g;rw [ge];have b:=DF w op n name left a i;have m:∀ (fn:Fn) (first cap:Array Value) (w:World),(Instr.makeFunc fn first cap).run Tryz.prog w=.ok (.func fn first cap) w:=fun _ _ _ _=>rfl
 have l:Hid (Below (fi w op n name left a i).heap.size (fi w op n name left a i) ((fi w op n name left a i).alloc (.cells #[.int .i64 left,.int .i64 a] 3))):=(zS).alloc (zT) _;have k:op=3∨op=4∨op=5∨op=6:=by omega
 cases ha:l9 (sO i) [left,a]
 ·rw [KV f g ha]
  rw [ha] at b;clear ha;unfold fi at b
  rcases k with rfl | rfl | rfl | rfl
  all_goals
   go_enter Tryz.func172,Tryz.ntmps172
   go_wp2_with fail;refine b.mono ?_;rintro e w1 ⟨rfl,c⟩;obtain ⟨j,⟨o,p,q,r,s⟩,-,⟨v,y,z,A,B⟩,h⟩:=m6 (ae l.out c);have t:=h 3;have u:=h 4;have d:=aa j;clear c j h b;go_wp2_with fail
   go_region
   all_goals go_wp2_with fail
   all_goals (go_ret;refine ⟨?_,by first | exact ((d.out.setCell (by simp;omega) _).setCell (by simp;omega) _).drew | exact ((d.out.drew.setCell (by simp;omega) _).setCell (by simp;omega) _)⟩;first | rfl | (rw [if_pos (by simp_all)];rfl) | (rw [if_neg (by simp_all)];rfl) | (exfalso;simp_all;done))
 rw [Ku f g ha,ak (by decide)]
 rw [ha] at b;clear ha;unfold fi at b
 rcases k with rfl | rfl | rfl | rfl
 all_goals
  go_enter Tryz.func172,Tryz.ntmps172
  go_wp2_with fail;refine b.mono ?_;rintro e w1 ⟨rfl,c⟩;have d:Hid (Bl w w1):=ae (by go_grown) c
  clear c b;go_wp2_with fail;go_ret;exact ⟨rfl,d.out⟩
theorem FG (x:Nd) (i:Nat) (w:World) (a:x.op<1∨6<x.op):Rt 172 #[Fw x,.int .i64 i] w (errV (ndErr x i)):=by
 have c:ndErr x i=1:=by unfold ndErr;rw [if_pos a]
 rw [c,ak (by decide)]
 obtain ⟨op,n,name,left,b⟩:=x;simp only at a;rw [ge];have d:(op == 1)=false:=by apply Bool.eq_false_iff.2;intro e;rw [beq_iff_eq] at e;omega
 have f:(op == 2)=false:=by apply Bool.eq_false_iff.2;intro e;rw [beq_iff_eq] at e;omega
 have g:(op == 3)=false:=by apply Bool.eq_false_iff.2;intro e;rw [beq_iff_eq] at e;omega
 have h:(op == 4)=false:=by apply Bool.eq_false_iff.2;intro e;rw [beq_iff_eq] at e;omega
 have j:(op == 5)=false:=by apply Bool.eq_false_iff.2;intro e;rw [beq_iff_eq] at e;omega
 have k:(op == 6)=false:=by apply Bool.eq_false_iff.2;intro e;rw [beq_iff_eq] at e;omega
 clear a c
 go_enter Tryz.func172,Tryz.ntmps172
 go_wp2_with fail;go_ret;exact ⟨rfl,by go_grown⟩
theorem FF (x:Nd) (i:Nat) (w:World):Rt 172 #[Fw x,.int .i64 i] w (errV (ndErr x i)):=by
 by_cases b:x.op=1
 ·exact FH x i w b
 by_cases c:x.op=2
 ·exact FI x i w c
 by_cases a:3≤x.op∧x.op≤6
 ·exact Ic x i w a.1 a.2
 exact FG x i w (by omega)
def cntN (l:List Nd) (k j:Nat):Nat:=usedTo l k j+(if j+1=l.length then 1 else 0)
def dy (l:List Nd) (k:Nat):List Int:=(List.range l.length).map fun j=>(cntN l k j:Int)
section
variable {l:List Nd} {k j a b:Nat}
theorem fM:(dy l k).length=l.length:=by simp [dy]
theorem nC (h:j<l.length):(dy l k).getD j 0=(cntN l k j:Int):=by simp [dy,List.getD,h]
theorem GJ (l:List Nd) (k j:Nat):usedTo l k j≤2*k:=by
 induction k with
 | zero=>exact zT
 | succ k ih =>
  have:uses (l.getD k bO) j≤2:=by unfold uses;split <;> (try split) <;> (try split) <;> omega
  show usedTo l k j+uses (l.getD k bO) j≤_
  omega
theorem zN (l:List Nd) (k j:Nat):cntN l k j≤2*k+1:=by
 have:=GJ l k j;unfold cntN
 split <;> omega
theorem BS (h:0<l.length):dy l 0=(List.replicate l.length (0:Int)).set (l.length-1) 1:=by
 apply List.ext_getElem (by simp [dy])
 intro j a b;rw [List.getElem_set];simp only [dy,cntN,usedTo,List.getElem_map,List.getElem_range,List.getElem_replicate]
 by_cases e:l.length-1=j
 ·rw [if_pos (by omega),if_pos e];rfl
 rw [if_neg (by omega),if_neg e];rfl
theorem BR (h:(l.getD k bO).op≤2):dy l (k+1)=dy l k:=by
 have e:∀ j,cntN l (k+1) j=cntN l k j:=fun j=>by
  show usedTo l k j+uses (l.getD k bO) j+_=usedTo l k j+_
  rw [uses,if_neg (by omega)]
  rfl
 unfold dy;simp only [e]
theorem EE (h:2<(l.getD k bO).op) (p:(l.getD k bO).left=(a:Int)) (q:(l.getD k bO).right=(b:Int)) (g:a<l.length) (i:b<l.length) :
  ((dy l k).set a ((cntN l k a:Int)+1)).set b ((((dy l k).set a ((cntN l k a:Int)+1)).getD b 0)+1)=dy l (k+1):=by
 apply List.ext_getElem (by simp [dy])
 intro j r o;have s:j<l.length:=by simpa [dy] using o
 have e:(dy l (k+1))[j]=((usedTo l k j+uses (l.getD k bO) j+(if j+1=l.length then 1 else 0):Nat):Int):=by simp only [dy,cntN,usedTo,List.getElem_map,List.getElem_range]
 have m:∀ h,(dy l k)[j]'h=(cntN l k j:Int):=fun h=>by simp only [dy,List.getElem_map,List.getElem_range]
 have n:((dy l k).set a ((cntN l k a:Int)+1)).getD b 0=if a=b then (cntN l k a:Int)+1 else (cntN l k b:Int):=by
  rw [zZ,List.getElem?_set]
  by_cases e:a=b
  ·subst e;simp [fM,g]
  rw [if_neg e,if_neg e,←zZ,nC i]
 rw [e,uses,if_pos h,p,q,List.getElem_set,List.getElem_set,m,n];unfold cntN
 by_cases c:b=j
 ·subst c
  by_cases d:a=b
  ·subst d
   simp
   omega
  have : ¬ (a:Int)=(b:Int):=by omega
  simp [d,this]
  omega
 have h3 : ¬ (b:Int)=(j:Int):=by omega
 by_cases f:a=j
 ·subst f
  simp [c,h3]
  omega
 have h4 : ¬ (a:Int)=(j:Int):=by omega
 simp [c,h3,f,h4]
theorem fh {x:Nd} {i:Nat} (h:ndErr x i=0) (a:2<x.op):0≤x.left∧x.left<i∧0≤x.right∧x.right<i:=by
 unfold ndErr at h
 split at h
 ·cases h
 rw [if_neg (by omega),if_neg (by omega)] at h
 split at h
 ·cases h
 omega
theorem rS (a:∀ j,j<l.length→ndErr (l.getD j bO) j=0):∀ k,k≤l.length→usedTo l k (l.length-1)=0
 | 0,_=>rfl
 | k+1,hk=>by
  have b:=rS a k (by omega)
  show usedTo l k (l.length-1)+uses (l.getD k bO) (l.length-1)=0
  rw [b];unfold uses
  split
  ·rename_i h
   have:=fh (a k (by omega)) h
   rw [if_neg (by omega),if_neg (by omega)]
  rfl
end
theorem kf.nd {w:World} {b o:Nat} {l:List Nd} {k:Nat} (h:kf w b o l) (a:k<l.length):w.cell? ⟨b,o+k*5,none⟩=some (.int .i64 (l.getD k bO).op)∧w.cell? ⟨b,o+k*5+1,none⟩=some (.int .i64 (l.getD k bO).n)∧w.cell? ⟨b,o+k*5+2,none⟩=some (.string (l.getD k bO).name)∧w.cell? ⟨b,o+k*5+3,none⟩=some (.int .i64 (l.getD k bO).left)∧w.cell? ⟨b,o+k*5+4,none⟩=some (.int .i64 (l.getD k bO).right):=h.2 k a
theorem GK (b o cap:Nat) (l:List Nd) (w:World) (h0:0<l.length) (h30:l.length≤30) (hN:kf w b o l) (hg:∀ j,j<l.length→ndErr (l.getD j bO) j=0) :
  Calls Tryz.prog 174 #[.slice (some ⟨b,o,none⟩) l.length cap] w fun e w'=>(∃ A c,e=.returned (.slice A (dy l l.length).length c)∧bX w' A c (dy l l.length))∧Bl w w':=by
 have HG:=aa hg;have Y:=aa hN;have q:Hid ((dy l l.length).length=l.length):=fM;have D:=run_make_row' (P:=Tryz.prog) 26 3 (.int .i64 0) 8 Tryz.underlying26 Tryz.infoIntP rfl .i64 .i64 l.length (by omega) (by omega)
 have R:=BS h0;obtain ⟨n,hn⟩:∃ n,l.length=n+1:=⟨l.length-1,by omega⟩
 rw [hn] at D q R ⊢;have hni:(n:Int)≤29:=by omega
 have HZ:=aa R;have z:et (w.alloc (.cells (madeCells #[.int .i64 0] (n+1)) 3)) w.heap.size (List.replicate (n+1) 0):=et.made w (n+1);have y0:=z.cell (j:=n) (by simp)
 have yf:=z.frozen n;have N:(List.replicate (n+1) (0:Int)).getD n 0=0:=by simp [List.getD]
 rw [N] at y0;have U:Hid (et (w.alloc (.cells ((madeCells #[.int .i64 0] (n+1)).setIfInBounds n (.int .i64 1)) 3)) w.heap.size (dy l 0)):=by
  show et _ _ _
  unfold et;rw [R,heap_alloc_new,rv,List.setIfInBounds_toArray,List.map_set]
  rfl
 have hmk':∀ w:World,(Instr.makeSlice 26 (.int .i64 ((n:Int)+1)) (.int .i64 ((n:Int)+1))).run Tryz.prog w=.ok (.slice (some ⟨w.heap.size,0,none⟩) (n+1) (n+1)) (w.alloc (.cells (madeCells #[.int .i64 0] (n+1)) 3)):=D;clear R hg hN z N D
 go_enter Tryz.func174,Tryz.ntmps174
 go_wp2_with fail
 go_loopg [19] (n+1) (fun g s19 wr => ∃ (k:Nat),k≤n+1∧g=n+1-k∧s19=.int .i64 k∧et wr w.heap.size (dy l k)∧Bl w wr)
 case atStart=>exact ⟨0,zU,rfl,rfl,U.out,by go_grown⟩
 case round =>
  obtain ⟨k,hk,rfl,rfl,Z,J⟩:=hrel;have F:=aa Z;have H:=aa J;clear Z J
  by_cases hlt:k<n+1
  ·have hki:(k:Int)<(n:Int)+1:=by omega
   obtain ⟨x0,x1,x2,x3,x4⟩:=(Y.out.later H.out).nd (k:=k) (by omega)
   have h:=Cq (l.getD k bO).op;have hbl:b<w.heap.size:=Y.out.1;have hsz:=H.out.size;have hIl:=F.out.lt;obtain ⟨x,X⟩:=az (l.getD k bO);have I:=aa X;rw [X] at x0 x1 x2 x3 x4 h;clear X;have m:Hid (Bl wr (wr.alloc (.cells #[.int .i64 x.op,.int .i64 x.n,.string x.name,.int .i64 x.left,.int .i64 x.right] 132))):=(zS).alloc (zT) _;have f:=HG.out k (by omega)
   rw [I.out] at f
   by_cases E:x.op≠1∧x.op≠2
   ·have M:2<x.op:=by
     unfold ndErr at f
     split at f
     ·cases f
     omega
    obtain ⟨l0,l1,r0,r1⟩:=fh f M;obtain ⟨a,O⟩:∃ a:Nat,x.left=a:=⟨x.left.toNat,by omega⟩
    obtain ⟨c,t⟩:∃ c:Nat,x.right=c:=⟨x.right.toNat,by omega⟩
    have s:a<l.length:=by omega
    have C:c<l.length:=by omega
    have G:Hid (((dy l k).set a ((cntN l k a:Int)+1)).set c ((((dy l k).set a ((cntN l k a:Int)+1)).getD c 0)+1)=dy l (k+1)):=EE (by rw [I.out];exact M) (by rw [I.out];exact O) (by rw [I.out];exact t) s C
    have hle:=zN l k a;obtain ⟨u,B⟩:∃ u:Nat,cntN l k a=u:=⟨_,rfl⟩;rw [decide_eq_true E] at h;rw [O] at x3;rw [t] at x4;rw [O,t] at m;have L:∀ e:Int,((dy l k).set a ((u:Int)+1)).getD c 0=e→0≤e∧e≤200:=by
     intro e Q;rw [zZ,List.getElem?_set] at Q
     by_cases K:a=c
     ·rw [if_pos K,if_pos (by rw [fM];exact s)] at Q
      simp at Q;omega
     rw [if_neg K,←zZ,nC C] at Q;have:=zN l k c
     omega
    rw [B] at G;obtain ⟨V,i⟩:∃ V:Int,((dy l k).set a ((u:Int)+1)).getD c 0=V:=⟨_,rfl⟩;obtain ⟨cb0,cb1⟩:=L V i;have T:=aa i;rw [i] at G;have hai:(a:Int)<(n:Int)+1:=by omega
    have hci:(c:Int)<(n:Int)+1:=by omega
    have hcai:(u:Int)≤200:=by omega
    have S:=aa B;clear f E l0 l1 r0 r1 L i B;go_wp2_with fail;refine (h _).mono ?_;rintro e w1 ⟨rfl,d⟩;have v:=aa (ae H.out (ae m.out d));have p:=aa (F.out.later (ae m.out d));have r:w1.heap[wr.heap.size]?=some (.cells #[.int .i64 x.op,.int .i64 x.n,.string x.name,.int .i64 a,.int .i64 c] 132 (0,0)):=by
     rw [d.block wr.heap.size (by simp)]
     have:=heap_alloc_new wr (.cells #[.int .i64 x.op,.int .i64 x.n,.string x.name,.int .i64 a,.int .i64 c] 132)
     simpa [O,t] using this
    have z3:w1.cell? ⟨wr.heap.size,3,none⟩=some (.int .i64 a):=by simp [World.cell?,r]
    have z4:w1.cell? ⟨wr.heap.size,4,none⟩=some (.int .i64 c):=by simp [World.cell?,r]
    have i1:=p.out.cell (j:=a) (by rw [fM];exact s)
    rw [nC s,S.out] at i1;have i2:=p.out.frozen a;have y:Hid (et (w1.setCell ⟨w.heap.size,a,none⟩ (.int .i64 ((u:Int)+1))) w.heap.size ((dy l k).set a ((u:Int)+1))):=p.out.set a _;have i3:=y.out.cell (j:=c) (by rw [List.length_set,fM];exact C)
    rw [T.out] at i3;have i4:=y.out.frozen c;have hne:wr.heap.size≠w.heap.size:=by omega
    have z4':(w1.setCell ⟨w.heap.size,a,none⟩ (.int .i64 ((u:Int)+1))).cell? ⟨wr.heap.size,4,none⟩=some (.int .i64 c):=by
     rw [World.cell?_setCell_other _ _ _ _ (by first | (simp;done) | (simp;omega))];exact z4
    clear d r h;go_wp2_with fail
    go_roundg (n+1-(k+1))
    case measure=>omega
    case rel=>exact ⟨k+1,by omega,rfl,by go_num,by rw [←G.out];exact y.out.set c _,(v.out.setCell (zT) _).setCell (zT) _⟩
   rw [decide_eq_false E] at h;have G:Hid (dy l (k+1)=dy l k):=BR (by rw [I.out];omega)
   clear f E;go_wp2_with fail;refine (h _).mono ?_;rintro e w1 ⟨rfl,d⟩;have v:=aa (ae H.out (ae m.out d));have p:=aa (F.out.later (ae m.out d));clear d h;go_wp2_with fail
   go_roundg (n+1-(k+1))
   case measure=>omega
   case rel=>exact ⟨k+1,by omega,rfl,by go_num,by rw [G.out];exact p.out,v.out⟩
  have W:k=n+1:=by omega
  subst W;go_wp2_with fail;go_ret;refine ⟨⟨some ⟨w.heap.size,0,none⟩,n+1,by rw [q.out];rfl,?_⟩,H.out⟩
  refine ⟨by rw [q.out];exact zT,Or.inr ⟨_,rfl,F.out.lt,fun j E=>F.out.cell E⟩⟩
theorem G6 {l:List Nd} (p:0<l.length) (n:∀ j,j<l.length→ndErr (l.getD j bO) j=0):l9 (fun x=>decide (x≠1)) (dy l l.length)=decide (∃ j,j<l.length-1∧kG l j=true):=by
 have o:=rS n l.length (zT);have k:∀ j,j<l.length→(dy l l.length).getD j 0=(cntN l l.length j:Int):=fun j h=>nC h
 cases hx:decide (∃ j,j<l.length-1∧kG l j=true)
 ·unfold l9
  rw [List.any_eq_false];intro x g;obtain ⟨i,d,rfl⟩:=List.getElem_of_mem g;have f:i<l.length:=by rw [fM] at d;exact d
  have e:(dy l l.length)[i]=(cntN l l.length i:Int):=by rw [←k i f,List.getD,zX d];rfl
  rw [e];have m:cntN l l.length i=1:=by
   unfold cntN
   by_cases a:i+1=l.length
   ·rw [if_pos a,show i=l.length-1 by omega,o]
   rw [if_neg a];have:=(decide_eq_false_iff_not.1 hx)
   by_cases c:kG l i=true
   ·exact absurd ⟨i,by omega,c⟩ this
   simpa [kG] using c
  rw [m]
  decide
 obtain ⟨j,h,c⟩:=of_decide_eq_true hx;unfold l9;rw [List.any_eq_true];have b:j<(dy l l.length).length:=by rw [fM];omega
 refine ⟨(dy l l.length)[j],List.getElem_mem b,?_⟩;have e:(dy l l.length)[j]=(cntN l l.length j:Int):=by rw [←k j (by omega),List.getD,zX b];rfl
 rw [e];unfold cntN;rw [if_neg (by omega)]
 have:usedTo l l.length j≠1:=of_decide_eq_true c
 simp
 omega
theorem oQ (A:Option Addr) (cap:Nat) (l:List Nd) (w:World) (I:gt w A cap l):Rt 144 #[.slice A l.length cap] w (errV (aA l)):=by
 obtain ⟨hc,X,V | ⟨b,o,rfl,I⟩⟩:=I
 ·subst V
  rw [jH rfl,ak (by decide)]
  simp only [List.length_nil]
  go_enter Tryz.func144,Tryz.ntmps144
  go_wp2_with fail;go_ret;exact ⟨rfl,zS⟩
 by_cases p:l.length=0
 ·rw [jH p,ak (by decide),p]
  go_enter Tryz.func144,Tryz.ntmps144
  go_wp2_with fail;go_ret;exact ⟨rfl,zS⟩
 have G:0<(l.length:Int):=by omega
 have Q:((l.length:Int) == 0)=false:=by simpa using p
 by_cases N:30<l.length
 ·have t:30<(l.length:Int):=by omega
  rw [mm N,ak (by decide)]
  go_enter Tryz.func144,Tryz.ntmps144
  go_wp2_with fail;go_ret;exact ⟨rfl,zS⟩
 have t:(l.length:Int)≤30:=by omega
 have K:=aa I;obtain ⟨n,T⟩:=az l.length;have C:=aa T;rw [T] at Q G t ⊢;clear I
 go_enter Tryz.func144,Tryz.ntmps144
 go_wp2_with fail
 go_loopg [16] n (fun g s16 wr => ∃ (k:Nat),k≤n∧g=n-k∧s16=.int .i64 k∧(∀ j,j<k→fU l j=false)∧Bl w wr)
 case atStart=>exact ⟨0,zU,rfl,rfl,fun j B=>absurd B (Nat.not_lt_zero j),zS⟩
 case round =>
  obtain ⟨k,hk,rfl,rfl,F,v⟩:=hrel;have q:=aa F;have E:=aa v;have W:b<w.heap.size:=K.out.1;have u9:=v.size;clear F v
  by_cases Z:k<n
  ·have Y:(k:Int)<(n:Int):=by omega
   obtain ⟨x0,x1,x2,x3,x4⟩:=(K.out.later E.out).nd (k:=k) (by omega)
   have d:=FF (l.getD k bO) k;obtain ⟨x,S⟩:=az (l.getD k bO);have M:=aa S;rw [S] at x0 x1 x2 x3 x4 d;rw [ge] at d;clear S
   by_cases y:ndErr x k=0
   ·rw [y,errV_zero] at d
    have J:Hid (fU l k=false):=by show fU l k=false;unfold fU;rw [M.out,y];rfl
    clear y;go_wp2_with fail;refine (d _).mono ?_;rintro e w1 ⟨rfl,c⟩;have f:Hid (Bl w w1):=ae E.out (ae (by go_grown) c)
    clear c d;go_wp2_with fail
    go_roundg (n-(k+1))
    case measure=>omega
    case rel=>exact ⟨k+1,by omega,rfl,by go_num,fun j B=>by rcases Nat.lt_succ_iff_lt_or_eq.1 B with h | h;exact q.out j h;rw [h];exact J.out,f.out⟩
   have D:Hid (aA l=ndErr x k):=by
    have h:=oS (l:=l) (i:=k) (by omega) (by omega) (by unfold fU;rw [M.out];simpa using y) q.out
    rw [M.out] at h;exact h
   rw [ak y] at d;have U:Hid (errV (aA l)=.iface 63 (.int .i64 (ndErr x k))):=by show _=_;rw [D.out,ak y]
   generalize ndErr x k=ec at *;clear y;go_wp2_with fail;refine (d _).mono ?_;rintro e w1 ⟨rfl,c⟩;have f:Hid (Bl w w1):=ae E.out (ae (by go_grown) c)
   clear c d;go_wp2_with fail;go_ret;exact ⟨by rw [U.out];rfl,f.out⟩
  have P:k=n:=by omega
  subst P;have O:∀ j,j<l.length→ndErr (l.getD j bO) j=0:=fun j B=>by
   have h:=q.out j (by have:=C.out;omega)
   simpa [fU] using h
  have r:=GK b o cap l wr (by omega) (by omega) (K.out.later E.out) O
  rw [C.out] at r;have L:=aa (G6 (l:=l) (by omega) O)
  have s:Hid (∀ j,j<l.length→fU l j=false):=fun j B=>q.out j (by have:=C.out;omega)
  clear O;go_wp2_with fail;refine r.mono ?_;rintro e w1 ⟨⟨A1,c1,rfl,z⟩,c⟩;have f:=aa (ae E.out c);have a:=qI 175 #[] (fun x=>decide (x≠1)) wW A1 c1 (dy l k) w1 (by rw [fM];omega) z (fun x w' _=>uf x w')
  have H:=L.out;rw [C.out] at H;rw [H] at a;cases hd:decide (∃ j,j<k-1∧kG l j=true)
  ·have D:Hid (aA l=0):=by
    refine rc p (by omega) s.out fun j B=>?_
    have:=of_decide_eq_false hd;cases R:kG l j
    ·rfl
    exact absurd ⟨j,by have:=C.out;omega,R⟩ this
   rw [hd] at a;clear z c r hd H;go_wp2_with fail;refine a.mono ?_;rintro e w2 ⟨rfl,m⟩;have u:=aa (ae f.out m);clear m a;go_wp2_with fail;go_ret;exact ⟨by rw [D.out];rfl,u.out⟩
  have D:Hid (aA l=3):=by
   obtain ⟨j,B,R⟩:=of_decide_eq_true hd;exact oT p (by omega) s.out (i:=j) (by have:=C.out;omega) R
  rw [hd] at a;clear z c r hd H;go_wp2_with fail;refine a.mono ?_;rintro e w2 ⟨rfl,m⟩;have u:=aa (ae f.out m);clear m a;go_wp2_with fail;go_ret;exact ⟨by rw [D.out];rfl,u.out⟩
end Go.Proofs.YtohgnbgamfepoaaGreatDoor
