/- What the reader of pac -/
import Derived.WalkSmall
import Derived.Deep.AppendLies
import Derived.Deep.RegionLaw
import Derived.Deep.DeepCutAuto
import Derived.Test.YtohgnbgamfepoaaGreatDoorJHAE
namespace Go.Proofs.YtohgnbgamfepoaaGreatDoor
open ChangeShapes WideShapes ChangeAt RowKit
set_option maxRecDepth 99999
set_option maxHeartbeats 0
theorem ac {B:Nat} {a w:World} (h:Below B a w) (n:Nat):Below B a (w.drewN n):=h.trans ⟨rfl,rfl,rfl,zT,fun _ _=>rfl⟩
def cZ (w:World) (q:Nat) (s:ByteArray) (a o:Nat) (tv:Value):Prop:=w.heap[q]?=some (.cells #[.string s,.int .i64 a,.int .i64 o,tv] 310 (0,0))
section
variable {w w':World} {q a o:Nat} {s:ByteArray} {tv:Value}
theorem cZ.lt (h:cZ w q s a o tv):q<w.heap.size:=(zY h).1
theorem cZ.c0 (h:cZ w q s a o tv):w.cell? ⟨q,0,none⟩=some (.string s):=by unfold cZ at h;simp [World.cell?,h]
theorem cZ.c1 (h:cZ w q s a o tv):w.cell? ⟨q,1,none⟩=some (.int .i64 a):=by unfold cZ at h;simp [World.cell?,h]
theorem cZ.c2 (h:cZ w q s a o tv):w.cell? ⟨q,2,none⟩=some (.int .i64 o):=by unfold cZ at h;simp [World.cell?,h]
theorem cZ.c3 (h:cZ w q s a o tv):w.cell? ⟨q,3,none⟩=some tv:=by unfold cZ at h;simp [World.cell?,h]
theorem cZ.fr (h:cZ w q s a o tv) (j:Nat):w.frozen? ⟨q,j,none⟩=false:=by unfold cZ at h;simp [World.frozen?,h]
theorem cZ.later (h:cZ w q s a o tv) (b:Bl w w'):cZ w' q s a o tv:=(b.block q h.lt).trans h
theorem cZ.same (h:cZ w q s a o tv) (b:w'.heap[q]?=w.heap[q]?):cZ w' q s a o tv:=b.trans h
theorem cZ.set1 (h:cZ w q s a o tv) (n:Nat):cZ (w.setCell ⟨q,1,none⟩ (.int .i64 n)) q s n o tv:=by
 unfold cZ at *;rw [setCell_eq_setRow w q 1 _ _ (0,0) _ h,setRow_heap w q _ _ _ _ h]
 rfl
theorem cZ.set2 (h:cZ w q s a o tv) (n:Nat):cZ (w.setCell ⟨q,2,none⟩ (.int .i64 n)) q s a n tv:=by
 unfold cZ at *;rw [setCell_eq_setRow w q 2 _ _ (0,0) _ h,setRow_heap w q _ _ _ _ h]
 rfl
end
theorem iE (q a o:Nat) (s:ByteArray) (tv:Value) (w:World) (g:a≤s.size) (b:cZ w q s a o tv):Rt 273 #[.pointer (some ⟨q,0,none⟩)] w (.int .u8 (nextB s a)):=by
 have c0:=b.c0;have c1:=b.c1;have h:=b.lt;clear b
 by_cases e:a=s.size
 ·subst e
  have c:nextB s s.size=0:=by simp [nextB]
  rw [c]
  go_enter Tryz.func273,Tryz.ntmps273
  go_wp2_with fail
  go_quiet (fail)
  go_wp2_with fail;go_ret;exact ⟨rfl,ac (zS) _⟩
 have d:a<s.size:=by omega
 have c:nextB s a=byteN s a:=by simp [nextB,e]
 have hne : ¬ (a:Int)=(s.size:Int):=by omega
 have f:=da s a d;rw [c]
 go_enter Tryz.func273,Tryz.ntmps273
 go_wp2_with fail
 go_quiet (fail)
 go_wp2_with fail
 go_quiet (fail)
 go_wp2_with fail;go_ret;exact ⟨rfl,ac (ac (zS) _) _⟩
theorem qc (q a o:Nat) (s:ByteArray) (tv:Value) (w:World) (b:cZ w q s a o tv):Calls Tryz.prog 258 #[.pointer (some ⟨q,0,none⟩)] w fun e w'=>e=.panicked [{ v:=.iface 308 (.int .i64 a),recovered:=false }]∧Bl w w':=by
 have c1:=b.c1;clear b
 go_enter Tryz.func258,Tryz.ntmps258
 go_wp2;exact ⟨rfl,rfl,zS⟩
structure Kept (N:Nat) (X:Nat→Prop) (w w':World):Prop where
 os:w'.os=w.os
 tape:w'.tape=w.tape
 output:w'.output=w.output
 size:w.heap.size≤w'.heap.size
 block:∀ k,k<N→¬ X k→w'.heap[k]?=w.heap[k]?
section
variable {N:Nat} {X Y:Nat→Prop} {w w' w'':World}
theorem Kept.refl (N:Nat) (X:Nat→Prop) (w:World):Kept N X w w:=⟨rfl,rfl,rfl,zT,fun _ _ _=>rfl⟩
theorem Kept.trans (h:Kept N X w w') (k:Kept N X w' w''):Kept N X w w'':=⟨k.os.trans h.os,k.tape.trans h.tape,k.output.trans h.output,zV h.size k.size,fun i a b=>(k.block i a b).trans (h.block i a b)⟩
theorem Kept.wide (h:Kept N X w w') (b:∀ k,X k→Y k):Kept N Y w w':=⟨h.os,h.tape,h.output,h.size,fun i a c=>h.block i a fun e=>c (b i e)⟩
theorem aw (h:Bl w w') (a:N≤w.heap.size):Kept N X w w':=⟨h.os,h.tape,h.output,h.size,fun i b _=>h.block i (zW b a)⟩
theorem eE {q:Nat} (h:w.grownBy w' (some q)) (a:N≤w.heap.size) (b:X q):Kept N X w w':=⟨h.os,h.tape,h.output,h.size,fun i c d=>h.block i (zW c a) fun e=>d (by cases e;exact b)⟩
end
theorem ar (w:World) (q j k:Nat) (v:Value) (h:k≠q):(w.setCell ⟨q,j,none⟩ v).heap[k]?=w.heap[k]?:=by
 simp only [World.setCell];rw [Array.getElem?_modify,if_neg (fun e=>h e.symm)]
theorem dg (w:World) (r:Option Nat):w.grownBy w r:=⟨rfl,rfl,rfl,zT,fun _ _ _=>rfl⟩
theorem iY {w w':World} {r:Option Nat} (h:Bl w w'):w.grownBy w' r:=⟨h.os,h.tape,h.output,h.size,fun i a _=>h.block i a⟩
theorem dE {w w':World} {q j:Nat} {v:Value} (h:w.grownBy w' (some q)):w.grownBy (w'.setCell ⟨q,j,none⟩ v) (some q) :=
 ⟨h.os,h.tape,h.output,by simpa using h.size,fun k c b=>by
  have a:k≠q:=fun e=>b (by rw [e])
  exact (ar w' q j k v a).trans (h.block k c b)⟩
inductive Stp:Nat→Bool→ByteArray→Nat→Bool→Prop
 | opn (o:Nat) (t:ByteArray):t.size=1→byteN t 0=40→Stp o false t (o+1) false
 | cls (o:Nat) (t:ByteArray):t.size=1→byteN t 0=41→Stp (o+1) true t o true
 | num (o:Nat) (t:ByteArray):1≤t.size→t.size≤7→(∀ i,i<t.size→b9 (byteN t i)=true)→Stp o false t o true
 | nam (o:Nat) (t:ByteArray):1≤t.size→(∀ i,i<t.size→bG (byteN t i)=true)→Stp o false t o true
 | sgn (o:Nat) (t:ByteArray):t.size=1→0≤signI (byteN t 0)→Stp o true t o false
structure Tkr (S:Type) where
 N:Nat
 p:Nat
 M:Nat
 F:Nat
 first:Array Value
 tk:S→ByteArray→S
 I:S→World→Prop
 G:Nat→Nat→Bool→S→Prop
def Tkr.fv {S:Type} (T:Tkr S):Value:=.func (.func T.F) T.first #[]
structure Tkr.Ok {S:Type} (T:Tkr S):Prop where
 small:T.M≤4611686018427387904
 ent:∀ (args:Array Value) (w:World),(callFunc T.F args).run Tryz.prog w=.ok (.enter T.F args) w
 stay:∀ (q:Nat) (st:S) (w w':World),q<T.N→q≠T.p→T.I st w→w.grownBy w' (some q)→T.I st w'
 step:∀ (a o:Nat) (ph:Bool) (st:S) (t:ByteArray) (o':Nat) (ph':Bool),Stp o ph t o' ph'→T.G a o ph st→a+t.size≤T.M→T.G (a+t.size) o' ph' (T.tk st t)
 call:∀ (a o:Nat) (ph:Bool) (st:S) (t:ByteArray) (o':Nat) (ph':Bool) (w:World),Stp o ph t o' ph'→T.G a o ph st→a+t.size≤T.M→T.N≤w.heap.size→T.I st w→Calls Tryz.prog T.F (T.first ++ #[.string t]) w fun e w'=>e=.returned (.tuple #[])∧T.I (T.tk st t) w'∧Kept T.N (fun k=>k=T.p) w w'
theorem dL {s:ByteArray} {a n:Nat} (h:a+n≤s.size):(s.extract a (a+n)).size=n:=by rw [ByteArray.size_extract];omega
theorem iQ {S:Type} (T:Tkr S) (d:T.Ok) (q a o oc n o':Nat) (ph ph':Bool) (s:ByteArray) (st:S) (w:World) (hs:s.size≤T.M) (E:a+n≤s.size) (v:q<T.N) (f:q≠T.p) (r:T.N≤w.heap.size)
  (g:cZ w q s a oc T.fv) (C:T.I st w) (B:T.G a o ph st) (t:Stp o ph (s.extract a (a+n)) o' ph') :
  Calls Tryz.prog 274 #[.pointer (some ⟨q,0,none⟩),.int .i64 n] w fun e w'=>e=.returned (.tuple #[])∧cZ w' q s (a+n) oc T.fv∧T.I (T.tk st (s.extract a (a+n))) w'∧Kept T.N (fun k=>k=T.p∨k=q) w w':=by
 have U:=d.small;have x:=dL E;obtain ⟨m,O⟩:=az (a+n);rw [O] at E t x ⊢;have c0:=g.c0;have c1:=g.c1;have K:=g.fr 1;have H:=g.lt;have j:(a:Int)+(n:Int)=(m:Int):=by omega
 obtain ⟨W,u⟩:=az (w.setCell ⟨q,1,none⟩ (.int .i64 (m:Int)));have b:cZ W q s m oc T.fv:=by rw [←u];exact g.set1 m
 have c:w.grownBy W (some q):=by rw [←u];exact dE (dg w _)
 have h:=d.stay q st w W v f C c;have J:Hid (∀ w',Bl W w'→Calls Tryz.prog T.F (T.first ++ #[.string (s.extract a m)]) w' fun e w''=>e=.returned (.tuple #[])∧cZ w'' q s m oc T.fv∧T.I (T.tk st (s.extract a m)) w''∧Kept T.N (fun k=>k=T.p∨k=q) w w''):=by
  intro w' l;have i:T.I st w':=d.stay q st W w' v f h (iY l);refine (d.call a o ph st _ o' ph' w' t B (by omega) (zV r (zV c.size l.size)) i).mono ?_
  rintro e w'' ⟨rfl,L,A⟩;refine ⟨rfl,?_,L,?_⟩
  ·exact (b.later l).same (A.block q v f)
  have y:Kept T.N (fun k=>k=T.p∨k=q) w W:=eE c r (Or.inr rfl)
  have z:Kept T.N (fun k=>k=T.p∨k=q) W w':=aw l (zV r c.size)
  exact (y.trans z).trans (A.wide fun k e=>Or.inl e)
 have Y:=b.c0;have Z:=b.c1;have d3:=b.c3;have D:=d.ent;have P:(a:Int)≤(m:Int):=by omega
 have Q:(m:Int)≤(s.size:Int):=by omega
 have R:(m:Int)≤4611686018427387904:=by omega
 have X:Hid T.Ok:=d;clear h c b C B t g d;unfold Tkr.fv at *
 go_enter Tryz.func274,Tryz.ntmps274
 go_wp2_with fail;clear c0 c1 K u j
 go_region_law ((go_simp;refine (J.out _ (by go_grown)).mono ?_;rintro e w2 ⟨rfl,y,z,V⟩))
 all_goals (go_end0;exact ⟨rfl,y,z,V⟩)
def fp (N:List (List Int)) (out:List Int) (j:Nat):Nat:=((N.getD j []).filter fun x => !(out.contains x)).length
def bE (N:List (List Int)) (m n:Nat):List Int:=selTo (fun j=>(N.getD j []).contains (m:Int)) n
theorem hJ {N:List (List Int)} {m n:Nat} {x:Int}:x∈bE N m n↔∃ j:Nat,x=j∧j<n∧(m:Int)∈N.getD j []:=by
 unfold bE
 constructor
 ·intro h
  obtain ⟨j,c,a,b⟩:=cS x h;exact ⟨j,c,a,List.contains_iff_mem.1 b⟩
 rintro ⟨j,rfl,a,b⟩;exact jU a (List.contains_iff_mem.2 b)
theorem GM (N:List (List Int)) (m n:Nat):(bE N m n).Pairwise (· < ·):=fl _ _
theorem uL {N:List (List Int)} {out:List Int} {j:Nat}:fp N out j=0↔∀ x∈N.getD j [],x∈out:=by
 unfold fp;rw [List.length_eq_zero_iff,List.filter_eq_nil_iff];refine forall_congr' fun x=>forall_congr' fun _=>?_
 simp
theorem CB (N:List (List Int)) (j:Nat):fp N [] j=(N.getD j []).length:=by
 unfold fp;rw [List.filter_eq_self.2 fun x _=>by simp]
theorem Jq (N:List (List Int)) (out:List Int) (j:Nat):fp N out j≤(N.getD j []).length:=List.length_filter_le _ _
theorem ug:∀ (L out:List Int) (m:Int),L.Pairwise (· < ·)→m∉out→(L.filter fun x => !(out.contains x)).length=(L.filter fun x => !((out ++ [m]).contains x)).length+(if m∈L then 1 else 0)
 | [],_,_,_,_=>rfl
 | a :: L,out,m,hL,hm=>by
  obtain ⟨i,j⟩:=List.pairwise_cons.1 hL;have f:=ug L out m j hm;have d:∀ x,(out ++ [m]).contains x=(out.contains x || x == m):=fun x=>by
   rw [Bool.eq_iff_iff,Bool.or_eq_true,List.contains_iff_mem,List.contains_iff_mem,List.mem_append,List.mem_singleton,beq_iff_eq]
  rw [List.filter_cons,List.filter_cons]
  by_cases b:a=m
  ·subst b
   have l:a∉L:=fun h=>by have:=i a h;omega
   have g:out.contains a=false:=by rw [←Bool.not_eq_true,List.contains_iff_mem];exact hm
   rw [d a,g];rw [if_neg l] at f;simp only [Bool.not_false,if_true,beq_self_eq_true,Bool.or_true,Bool.not_true,Bool.false_eq_true,if_false,List.length_cons,List.mem_cons,true_or]
   omega
  have k:(a == m)=false:=by simpa using b
  have c:(m∈a :: L)↔m∈L:=by
   rw [List.mem_cons];exact ⟨fun h=>h.resolve_left (fun e=>b e.symm),Or.inr⟩
  rw [d a,k,Bool.or_false];cases out.contains a
  ·simp only [Bool.not_false,if_true,List.length_cons,c]
   omega
  simp only [Bool.not_true,Bool.false_eq_true,if_false,c];exact f
theorem lm {N:List (List Int)} {out:List Int} {m j:Nat} (b:(N.getD j []).Pairwise (· < ·)) (a:(m:Int)∉out):fp N out j=fp N (out ++ [(m:Int)]) j+(if (m:Int)∈N.getD j [] then 1 else 0):=ug _ _ _ b a
theorem yg (N:List (List Int)) (k:Nat):∀ j:Nat,(j:Int)∈aB N k→∀ x∈N.getD j [],x∈aB N k:=by
 induction k with
 | zero=>intro j a;cases a
 | succ k ih =>
  intro j a x b;rw [aB,List.mem_append] at a ⊢
  rcases a with a | a
  ·exact Or.inl (ih j a x b)
  split at a
  ·rename_i h
   obtain ⟨m,c,-,d,-⟩:=mz h;rw [List.mem_singleton,c] at a;have:j=m:=by omega
   subst this;exact Or.inl ((f7 d).2 x b)
  cases a
def sd (N:List (List Int)) (out R:List Int):Prop:=R.Pairwise (· < ·)∧∀ x,x∈R↔∃ j:Nat,x=j∧j<N.length∧sI N out j=true
def kT (N:List (List Int)) (out:List Int) (m i:Nat) (R:List Int):Prop:=R.Pairwise (· < ·)∧∀ x,x∈R↔∃ j:Nat,x=j∧j<N.length∧((sI N out j=true∧j≠m)∨((j:Int)∈(bE N m N.length).take i∧fp N out j=1))
def ie (N:List (List Int)) (out:List Int) (m i j:Nat):Nat:=fp N out j-(if (j:Int)∈(bE N m N.length).take i then 1 else 0)
theorem Db {N:List (List Int)} {R:List Int} (f:R=selTo (fun j=>(N.getD j []).isEmpty) N.length):sd N [] R:=by
 subst f;refine ⟨fl _ _,fun x=>?_⟩
 constructor
 ·intro h
  obtain ⟨j,e,c,b⟩:=cS x h;refine ⟨j,e,c,uV (by simp) fun y d=>?_⟩
  rw [List.isEmpty_iff] at b;rw [b] at d;cases d
 rintro ⟨j,rfl,c,b⟩;refine jU c ?_;rw [List.isEmpty_iff];have:=(f7 b).2;cases h:N.getD j [] with
 | nil=>rfl
 | cons a r=>exact absurd (this a (by rw [h];simp)) (by simp)
theorem pN {N:List (List Int)} (t:nA N) (v:∀ i:Nat,i<N.length→cycB N i=false) {k:Nat} (w:k<N.length) {R:List Int} (u:sd N (aB N k) R):∃ (m:Nat) (R':List Int),R=(m:Int) :: R'∧m<N.length∧sI N (aB N k) m=true∧aB N (k+1)=aB N k ++ [(m:Int)]∧kT N (aB N k) m 0 R':=by
 obtain ⟨m,-,n,o,r,s⟩:=pB t v w;obtain ⟨y,f⟩:=u;have c:=(f m).2 ⟨m,rfl,n,o⟩;cases R with
 | nil=>cases c
 | cons a R' =>
  obtain ⟨q,z⟩:=List.pairwise_cons.1 y;have g:a=(m:Int):=by
   obtain ⟨j,l,d,b⟩:=(f a).1 (by simp)
   rcases List.mem_cons.1 c with h | h
   ·exact h.symm
   have B:=q _ h;rw [r j (by omega)] at b
   cases b
  subst g;refine ⟨m,R',rfl,n,o,s,z,fun x=>?_⟩
  constructor
  ·intro p
   obtain ⟨j,l,d,b⟩:=(f x).1 (List.mem_cons_of_mem _ p);refine ⟨j,l,d,Or.inl ⟨b,fun e=>?_⟩⟩
   have:=q x p
   omega
  rintro ⟨j,rfl,d,(⟨b,A⟩ | ⟨b,-⟩)⟩
  ·rcases List.mem_cons.1 ((f j).2 ⟨j,rfl,d,b⟩) with h | h
   ·omega
   exact h
  simp at b
theorem Ix {N:List (List Int)} (e:nA N) (g:∀ i:Nat,i<N.length→cycB N i=false) {R:List Int} (f:sd N (aB N N.length) R):R=[]:=by
 refine List.eq_nil_iff_forall_not_mem.2 fun x k=>?_
 obtain ⟨j,rfl,l,c⟩:=(f.2 x).1 k;have h:=(f7 c).1;obtain ⟨b,d⟩:=pA N N.length;have:=few N.length ((j:Int) :: aB N N.length) (List.nodup_cons.2 ⟨h,b⟩) fun y a=>by
  rcases List.mem_cons.1 a with rfl | a
  ·omega
  exact d y a
 rw [List.length_cons,ef e g N.length (zT)] at this
 omega
def sw (R:List Int) (k:Int):List Int:=R.take (R.countP (· < k)) ++ k :: R.drop (R.countP (· < k))
theorem rm:∀ (R:List Int) (k:Int),R.Pairwise (· < ·)→k∉R→(∀ a∈R.take (R.countP (· < k)),a<k)∧∀ b∈R.drop (R.countP (· < k)),k<b
 | [],k,_,_=>⟨fun a h=>by simp at h,fun b h=>by simp at h⟩
 | a :: R,k,hR,hk=>by
  obtain ⟨e,g⟩:=List.pairwise_cons.1 hR;have d:k≠a∧k∉R:=by simpa using hk
  by_cases h:a<k
  ·obtain ⟨i1,i2⟩:=rm R k g d.2
   rw [List.countP_cons_of_pos (by simpa using h),List.take_succ_cons,List.drop_succ_cons]
   refine ⟨fun x c=>?_,i2⟩
   rcases List.mem_cons.1 c with rfl | c
   ·exact h
   exact i1 x c
  have f:(a :: R).countP (· < k)=0:=by
   rw [List.countP_eq_zero];intro x c
   rcases List.mem_cons.1 c with rfl | c
   ·simpa using h
   have:=e x c
   simp;omega
  rw [f];refine ⟨fun x c=>by simp at c,fun x c=>?_⟩
  rcases List.mem_cons.1 (show x∈a :: R from c) with rfl | c
  ·omega
  have:=e x c;omega
theorem Ff {R:List Int} {k:Int} (c:R.Pairwise (· < ·)) (j:k∉R):(sw R k).Pairwise (· < ·)∧∀ x,x∈sw R k↔x=k∨x∈R:=by
 obtain ⟨f,g⟩:=rm R k c j;have e:R.take (R.countP (· < k)) ++ R.drop (R.countP (· < k))=R:=List.take_append_drop _ _;refine ⟨?_,fun x=>?_⟩
 ·unfold sw
  rw [List.pairwise_append];refine ⟨c.sublist (List.take_sublist _ _),List.pairwise_cons.2 ⟨g,c.sublist (List.drop_sublist _ _)⟩,fun a i b d=>?_⟩
  rcases List.mem_cons.1 d with rfl | d
  ·exact f a i
  have:=f a i;have:=g b d
  omega
 unfold sw;rw [List.mem_append,List.mem_cons];have:x∈R↔x∈R.take (R.countP (· < k))∨x∈R.drop (R.countP (· < k)):=by rw [←List.mem_append,e]
 rw [this]
 constructor
 ·rintro (h | h | h)
  ·exact Or.inr (Or.inl h)
  ·exact Or.inl h
  exact Or.inr (Or.inr h)
 rintro (h | h | h)
 ·exact Or.inr (Or.inl h)
 ·exact Or.inl h
 exact Or.inr (Or.inr h)
theorem GP {N:List (List Int)} {m i:Nat} (a:i<(bE N m N.length).length) (x:Int):x∈(bE N m N.length).take (i+1)↔x∈(bE N m N.length).take i∨x=(bE N m N.length).getD i 0:=by
 rw [List.take_succ_eq_append_getElem a,List.mem_append,List.mem_singleton,zZ,zX a]
 rfl
theorem IU {N:List (List Int)} {m i:Nat} (b:i<(bE N m N.length).length):(bE N m N.length).getD i 0∉(bE N m N.length).take i:=by
 intro h;rw [zZ,zX b,Option.getD_some] at h;obtain ⟨j,c,e⟩:=List.getElem_of_mem h;have a:j<i:=by have:=c;rw [List.length_take] at this;omega
 rw [List.getElem_take] at e;have:=List.pairwise_iff_getElem.1 (GM N m N.length) j i (by omega) b a
 omega
theorem GN {N:List (List Int)} (w:∀ j,j<N.length→(N.getD j []).Pairwise (· < ·)) {out:List Int} {m i:Nat} (v:sI N out m=true) (o:i<(bE N m N.length).length):∃ u:Nat,(bE N m N.length).getD i 0=(u:Int)∧u<N.length∧ie N out m i u=fp N out u∧1≤fp N out u∧ie N out m (i+1) u+1=fp N out u∧(∀ j,j≠u→ie N out m (i+1) j=ie N out m i j)∧∀ R,kT N out m i R→(u:Int)∉R∧(fp N out u=1→kT N out m (i+1) (sw R u))∧(fp N out u≠1→kT N out m (i+1) R):=by
 have l:=(f7 v).1;have k:(bE N m N.length).getD i 0∈bE N m N.length:=by
  rw [zZ,zX o];exact List.getElem_mem o
 obtain ⟨u,p,q,s⟩:=hJ.1 k;have c:=IU o;rw [p] at c;have t:1≤fp N out u:=by
  have:=lm (w u q) l;rw [if_pos s] at this
  omega
 have r:sI N out u=false:=by
  rw [←Bool.not_eq_true];intro h;exact l ((f7 h).2 _ s)
 have f:=fun x=>GP (N:=N) (m:=m) o x
 rw [p] at f;refine ⟨u,p,q,by unfold ie;rw [if_neg c];omega,t,?_,fun j y=>?_,fun R g=>?_⟩
 ·unfold ie
  rw [if_pos ((f u).2 (Or.inr rfl))]
  omega
 ·unfold ie
  have:((j:Int)∈(bE N m N.length).take (i+1))↔(j:Int)∈(bE N m N.length).take i:=by
   rw [f];exact ⟨fun h=>h.resolve_right (by omega),Or.inl⟩
  simp only [this]
 have n:(u:Int)∉R:=fun h=>by
  obtain ⟨j,b,d,(⟨a,-⟩ | ⟨a,-⟩)⟩:=(g.2 u).1 h
  ·have:j=u:=by omega
   subst this;rw [r] at a;cases a
  have:j=u:=by omega
  subst this;exact c a
 refine ⟨n,fun h=>?_,fun h=>⟨g.1,fun x=>?_⟩⟩
 ·obtain ⟨i1,i2⟩:=Ff g.1 n
  refine ⟨i1,fun x=>?_⟩
  rw [i2,g.2]
  constructor
  ·rintro (rfl | ⟨j,b,d,a⟩)
   ·exact ⟨u,rfl,q,Or.inr ⟨(f u).2 (Or.inr rfl),h⟩⟩
   refine ⟨j,b,d,?_⟩
   rcases a with a | ⟨a,e⟩
   ·exact Or.inl a
   exact Or.inr ⟨(f j).2 (Or.inl a),e⟩
  rintro ⟨j,b,d,(a | ⟨a,e⟩)⟩
  ·exact Or.inr ⟨j,b,d,Or.inl a⟩
  rcases (f j).1 a with f5 | f5
  ·exact Or.inr ⟨j,b,d,Or.inr ⟨f5,e⟩⟩
  exact Or.inl (b.trans f5)
 rw [g.2]
 constructor
 ·rintro ⟨j,b,d,a⟩
  refine ⟨j,b,d,?_⟩
  rcases a with a | ⟨a,e⟩
  ·exact Or.inl a
  exact Or.inr ⟨(f j).2 (Or.inl a),e⟩
 rintro ⟨j,b,d,(a | ⟨a,e⟩)⟩
 ·exact ⟨j,b,d,Or.inl a⟩
 rcases (f j).1 a with f5 | f5
 ·exact ⟨j,b,d,Or.inr ⟨f5,e⟩⟩
 have:j=u:=by omega
 subst this;exact absurd e h
theorem IT {N:List (List Int)} (q:∀ j,j<N.length→(N.getD j []).Pairwise (· < ·)) {k m:Nat} (u:sI N (aB N k) m=true):(∀ j,j<N.length→ie N (aB N k) m (bE N m N.length).length j=fp N (aB N k ++ [(m:Int)]) j)∧∀ R,kT N (aB N k) m (bE N m N.length).length R→sd N (aB N k ++ [(m:Int)]) R:=by
 have a:=(f7 u).1;have o:=(f7 u).2;refine ⟨fun j t=>?_,fun R s=>⟨s.1,fun x=>?_⟩⟩
 ·unfold ie
  rw [List.take_length];have d:=lm (q j t) a
  by_cases h:(m:Int)∈N.getD j []
  ·rw [if_pos (hJ.2 ⟨j,rfl,t,h⟩)]
   rw [if_pos h] at d
   omega
  have p:(j:Int)∉bE N m N.length:=fun e=>by
   obtain ⟨i,v,-,c⟩:=hJ.1 e;have l:i=j:=by omega
   rw [l] at c;exact h c
  rw [if_neg p];rw [if_neg h] at d
  omega
 rw [s.2,List.take_length]
 constructor
 ·rintro ⟨j,n,f,b⟩
  refine ⟨j,n,f,?_⟩
  rcases b with ⟨b,r⟩ | ⟨b,r⟩
  ·obtain ⟨g1,g2⟩:=f7 b
   refine uV ?_ fun y g=>List.mem_append.2 (Or.inl (g2 y g))
   rw [List.mem_append,List.mem_singleton];rintro (h | h)
   ·exact g1 h
   omega
  obtain ⟨i,v,l,c⟩:=hJ.1 b;have:i=j:=by omega
  subst this;have d:=lm (q i l) a;rw [if_pos c,r] at d;refine uV ?_ (uL.1 (by omega))
  rw [List.mem_append,List.mem_singleton];rintro (h | h)
  ·exact a (yg N k i h _ c)
  have:i=m:=by omega
  subst this;exact a (o _ c)
 rintro ⟨j,n,f,b⟩;obtain ⟨g1,g2⟩:=f7 b;rw [List.mem_append,List.mem_singleton] at g1;refine ⟨j,n,f,?_⟩
 by_cases h:(m:Int)∈N.getD j []
 ·refine Or.inr ⟨hJ.2 ⟨j,rfl,f,h⟩,?_⟩
  have d:=lm (q j f) a;rw [if_pos h,uL.2 g2] at d
  omega
 refine Or.inl ⟨uV (fun e=>g1 (Or.inl e)) fun y g=>?_,fun e=>g1 (Or.inr (by omega))⟩
 rcases List.mem_append.1 (g2 y g) with h2 | h2
 ·exact h2
 rw [List.mem_singleton] at h2;rw [h2] at g;exact absurd g h
end Go.Proofs.YtohgnbgamfepoaaGreatDoor
