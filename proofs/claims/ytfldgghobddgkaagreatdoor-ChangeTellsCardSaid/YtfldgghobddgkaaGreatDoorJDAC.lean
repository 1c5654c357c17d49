/-
  What the reader of package formula does, in whatever memory: the byte that is next, how many digits; a word that is handed on; where it stops.
-/
import Derived.WalkSmall
import Derived.Deep.AppendLies
import Derived.Deep.RegionLaw
import Derived.Deep.DeepCutAuto
import Derived.Test.YtfldgghobddgkaaGreatDoorJDAB
namespace Go.Proofs.YtfldgghobddgkaaGreatDoor
open Go.ChangeShapes Go.WideShapes Go.ChangeAt Go.RowKit
set_option maxRecDepth 20000
theorem below_drewN {B:Nat} {a w:World} (h:Below B a w) (n:Nat):Below B a (w.drewN n):=h.trans ⟨rfl,rfl,rfl,Nat.le_refl _,fun _ _=>rfl⟩
def RdAt (w:World) (q:Nat) (s:ByteArray) (a o:Nat) (tv:Value):Prop:=w.heap[q]?=some (.cells #[.string s,.int .i64 a,.int .i64 o,tv] 205 (0,0))
section
variable {w w':World} {q a o:Nat} {s:ByteArray} {tv:Value}
theorem RdAt.lt (h:RdAt w q s a o tv):q<w.heap.size:=(Array.getElem?_eq_some_iff.1 h).1
theorem RdAt.c0 (h:RdAt w q s a o tv):w.cell? ⟨q,0,none⟩=some (.string s):=by unfold RdAt at h;simp [World.cell?,h]
theorem RdAt.c1 (h:RdAt w q s a o tv):w.cell? ⟨q,1,none⟩=some (.int .i64 a):=by unfold RdAt at h;simp [World.cell?,h]
theorem RdAt.c2 (h:RdAt w q s a o tv):w.cell? ⟨q,2,none⟩=some (.int .i64 o):=by unfold RdAt at h;simp [World.cell?,h]
theorem RdAt.c3 (h:RdAt w q s a o tv):w.cell? ⟨q,3,none⟩=some tv:=by unfold RdAt at h;simp [World.cell?,h]
theorem RdAt.fr (h:RdAt w q s a o tv) (j:Nat):w.frozen? ⟨q,j,none⟩=false:=by unfold RdAt at h;simp [World.frozen?,h]
theorem RdAt.later (h:RdAt w q s a o tv) (hB:Below w.heap.size w w'):RdAt w' q s a o tv:=(hB.block q h.lt).trans h
theorem RdAt.same (h:RdAt w q s a o tv) (hB:w'.heap[q]?=w.heap[q]?):RdAt w' q s a o tv:=hB.trans h
theorem RdAt.set1 (h:RdAt w q s a o tv) (n:Nat):RdAt (w.setCell ⟨q,1,none⟩ (.int .i64 n)) q s n o tv:=by
 unfold RdAt at *
 rw [setCell_eq_setRow w q 1 _ _ (0,0) _ h,setRow_heap w q _ _ _ _ h]
 rfl
theorem RdAt.set2 (h:RdAt w q s a o tv) (n:Nat):RdAt (w.setCell ⟨q,2,none⟩ (.int .i64 n)) q s a n tv:=by
 unfold RdAt at *
 rw [setCell_eq_setRow w q 2 _ _ (0,0) _ h,setRow_heap w q _ _ _ _ h]
 rfl
end
set_option maxHeartbeats 1000000 in
theorem next_any (q a o:Nat) (s:ByteArray) (tv:Value) (w:World) (ha:a≤s.size) (hR:RdAt w q s a o tv):Calls Tryz.prog 179 #[.pointer (some ⟨q,0,none⟩)] w fun e w'=>e=.returned (.int .u8 (nextB s a))∧Below w.heap.size w w':=by
 have c0:=hR.c0
 have c1:=hR.c1
 have hq:=hR.lt
 clear hR
 by_cases he:a=s.size
 ·subst he
  have h0:nextB s s.size=0:=by simp [nextB]
  rw [h0]
  go_enter Tryz.func179,Tryz.ntmps179
  go_wp2_with fail
  go_quiet (fail)
  go_wp2_with fail
  go_ret
  exact ⟨rfl,below_drewN (Below.refl _ _) _⟩
 ·have hlt:a<s.size:=by omega
  have h0:nextB s a=byteN s a:=by simp [nextB,he]
  have hne : ¬ (a:Int)=(s.size:Int):=by omega
  have hby:=byteN_get s a hlt
  rw [h0]
  go_enter Tryz.func179,Tryz.ntmps179
  go_wp2_with fail
  go_quiet (fail)
  go_wp2_with fail
  go_quiet (fail)
  go_wp2_with fail
  go_ret
  exact ⟨rfl,below_drewN (below_drewN (Below.refl _ _) _) _⟩
theorem stop_any (q a o:Nat) (s:ByteArray) (tv:Value) (w:World) (hR:RdAt w q s a o tv):Calls Tryz.prog 160 #[.pointer (some ⟨q,0,none⟩)] w fun e w'=>e=.panicked [{ v:=.iface 203 (.int .i64 a),recovered:=false }]∧Below w.heap.size w w':=by
 have c1:=hR.c1
 clear hR
 go_enter Tryz.func160,Tryz.ntmps160
 go_wp2
 exact ⟨rfl,rfl,Below.refl _ _⟩
structure Kept (N:Nat) (X:Nat→Prop) (w w':World):Prop where
 os:w'.os=w.os
 tape:w'.tape=w.tape
 output:w'.output=w.output
 size:w.heap.size≤w'.heap.size
 block:∀ k,k<N→¬ X k→w'.heap[k]?=w.heap[k]?
section
variable {N:Nat} {X Y:Nat→Prop} {w w' w'':World}
theorem Kept.refl (N:Nat) (X:Nat→Prop) (w:World):Kept N X w w:=⟨rfl,rfl,rfl,Nat.le_refl _,fun _ _ _=>rfl⟩
theorem Kept.trans (h:Kept N X w w') (k:Kept N X w' w''):Kept N X w w'':=⟨k.os.trans h.os,k.tape.trans h.tape,k.output.trans h.output,Nat.le_trans h.size k.size,fun i hi hx=>(k.block i hi hx).trans (h.block i hi hx)⟩
theorem Kept.wide (h:Kept N X w w') (hx:∀ k,X k→Y k):Kept N Y w w':=⟨h.os,h.tape,h.output,h.size,fun i hi hy=>h.block i hi fun e=>hy (hx i e)⟩
theorem kept_below (h:Below w.heap.size w w') (hN:N≤w.heap.size):Kept N X w w':=⟨h.os,h.tape,h.output,h.size,fun i hi _=>h.block i (Nat.lt_of_lt_of_le hi hN)⟩
theorem kept_grown {q:Nat} (h:w.grownBy w' (some q)) (hN:N≤w.heap.size) (hX:X q):Kept N X w w':=⟨h.os,h.tape,h.output,h.size,fun i hi hx=>h.block i (Nat.lt_of_lt_of_le hi hN) fun e=>hx (by cases e;exact hX)⟩
end
theorem hid_of {p:Prop} (h:p):Hid p:=h
theorem setCell_off (w:World) (q j k:Nat) (v:Value) (h:k≠q):(w.setCell ⟨q,j,none⟩ v).heap[k]?=w.heap[k]?:=by
 simp only [World.setCell]
 rw [Array.getElem?_modify,if_neg (fun e=>h e.symm)]
theorem grownF_refl (w:World) (r:Option Nat):w.grownBy w r:=⟨rfl,rfl,rfl,Nat.le_refl _,fun _ _ _=>rfl⟩
theorem grownF_below {w w':World} {r:Option Nat} (h:Below w.heap.size w w'):w.grownBy w' r:=⟨h.os,h.tape,h.output,h.size,fun i hi _=>h.block i hi⟩
theorem grownF_set {w w':World} {q j:Nat} {v:Value} (h:w.grownBy w' (some q)):w.grownBy (w'.setCell ⟨q,j,none⟩ v) (some q) :=
 ⟨h.os,h.tape,h.output,by simpa using h.size,fun k hk hr=>by
  have hne:k≠q:=fun e=>hr (by rw [e])
  exact (setCell_off w' q j k v hne).trans (h.block k hk hr)⟩
inductive Stp:Nat→Bool→ByteArray→Nat→Bool→Prop
 | opn (o:Nat) (t:ByteArray):t.size=1→byteN t 0=40→Stp o false t (o+1) false
 | cls (o:Nat) (t:ByteArray):t.size=1→byteN t 0=41→Stp (o+1) true t o true
 | num (o:Nat) (t:ByteArray):1≤t.size→t.size≤7→(∀ i,i<t.size→digB (byteN t i)=true)→Stp o false t o true
 | nam (o:Nat) (t:ByteArray):1≤t.size→(∀ i,i<t.size→letB (byteN t i)=true)→Stp o false t o true
 | sgn (o:Nat) (t:ByteArray):t.size=1→0≤signI (byteN t 0)→Stp o true t o false
structure Tkr (S:Type) where
 N:Nat
 p:Nat
 M:Nat
 F:Nat
 first:Array Value
 tk:S→ByteArray→S
 I:S→World→Prop
 G:Nat→Nat→Bool→S→Prop
def Tkr.fv {S:Type} (T:Tkr S):Value:=.func (.func T.F) T.first #[]
structure Tkr.Ok {S:Type} (T:Tkr S):Prop where
 small:T.M≤4611686018427387904
 ent:∀ (args:Array Value) (w:World),(callFunc T.F args).run Tryz.prog w=.ok (.enter T.F args) w
 stay:∀ (q:Nat) (st:S) (w w':World),q<T.N→q≠T.p→T.I st w→w.grownBy w' (some q)→T.I st w'
 step:∀ (a o:Nat) (ph:Bool) (st:S) (t:ByteArray) (o':Nat) (ph':Bool),Stp o ph t o' ph'→T.G a o ph st→a+t.size≤T.M→T.G (a+t.size) o' ph' (T.tk st t)
 call:∀ (a o:Nat) (ph:Bool) (st:S) (t:ByteArray) (o':Nat) (ph':Bool) (w:World),Stp o ph t o' ph'→T.G a o ph st→a+t.size≤T.M→T.N≤w.heap.size→T.I st w→Calls Tryz.prog T.F (T.first ++ #[.string t]) w fun e w'=>e=.returned (.tuple #[])∧T.I (T.tk st t) w'∧Kept T.N (fun k=>k=T.p) w w'
theorem slice_ok {s:ByteArray} {a n:Nat} (h:a+n≤s.size):(s.extract a (a+n)).size=n:=by rw [ByteArray.size_extract];omega
set_option maxHeartbeats 2000000 in
theorem word_any {S:Type} (T:Tkr S) (hT:T.Ok) (q a o oc n o':Nat) (ph ph':Bool) (s:ByteArray) (st:S) (w:World) (hs:s.size≤T.M) (hn:a+n≤s.size) (hq:q<T.N) (hqp:q≠T.p) (hN:T.N≤w.heap.size)
  (hR:RdAt w q s a oc T.fv) (hI:T.I st w) (hG:T.G a o ph st) (hS:Stp o ph (s.extract a (a+n)) o' ph') :
  Calls Tryz.prog 180 #[.pointer (some ⟨q,0,none⟩),.int .i64 n] w fun e w'=>e=.returned (.tuple #[])∧RdAt w' q s (a+n) oc T.fv∧T.I (T.tk st (s.extract a (a+n))) w'∧Kept T.N (fun k=>k=T.p∨k=q) w w':=by
 have hsm:=hT.small
 have hsz:=slice_ok hn
 obtain ⟨m,hm⟩:∃ m,a+n=m:=⟨_,rfl⟩
 rw [hm] at hn hS hsz ⊢
 have c0:=hR.c0
 have c1:=hR.c1
 have f1:=hR.fr 1
 have hqlt:=hR.lt
 have hsum:(a:Int)+(n:Int)=(m:Int):=by omega
 obtain ⟨W,hW⟩:∃ W,w.setCell ⟨q,1,none⟩ (.int .i64 (m:Int))=W:=⟨_,rfl⟩
 have hRW:RdAt W q s m oc T.fv:=by rw [←hW];exact hR.set1 m
 have hgW:w.grownBy W (some q):=by rw [←hW];exact grownF_set (grownF_refl w _)
 have hIW:=hT.stay q st w W hq hqp hI hgW
 have HC:Hid (∀ w',Below W.heap.size W w'→Calls Tryz.prog T.F (T.first ++ #[.string (s.extract a m)]) w' fun e w''=>e=.returned (.tuple #[])∧RdAt w'' q s m oc T.fv∧T.I (T.tk st (s.extract a m)) w''∧Kept T.N (fun k=>k=T.p∨k=q) w w''):=by
  intro w' hb
  have hIw':T.I st w':=hT.stay q st W w' hq hqp hIW (grownF_below hb)
  refine (hT.call a o ph st _ o' ph' w' hS hG (by omega) (Nat.le_trans hN (Nat.le_trans hgW.size hb.size)) hIw').mono ?_
  rintro e w'' ⟨rfl,h1,h2⟩
  refine ⟨rfl,?_,h1,?_⟩
  ·exact (hRW.later hb).same (h2.block q hq hqp)
  ·have k1:Kept T.N (fun k=>k=T.p∨k=q) w W:=kept_grown hgW hN (Or.inr rfl)
   have k2:Kept T.N (fun k=>k=T.p∨k=q) W w':=kept_below hb (Nat.le_trans hN hgW.size)
   exact (k1.trans k2).trans (h2.wide fun k e=>Or.inl e)
 have d0:=hRW.c0
 have d1:=hRW.c1
 have d3:=hRW.c3
 have hent:=hT.ent
 have hm1:(a:Int)≤(m:Int):=by omega
 have hm2:(m:Int)≤(s.size:Int):=by omega
 have hm3:(m:Int)≤4611686018427387904:=by omega
 have HT:Hid T.Ok:=hT
 clear hIW hgW hRW hI hG hS hR hT
 unfold Tkr.fv at *
 go_enter Tryz.func180,Tryz.ntmps180
 go_wp2_with fail
 clear c0 c1 f1 hW hsum
 go_region_law ((go_simp;refine (HC.out _ (by go_grown)).mono ?_;rintro e w2 ⟨rfl,k1,k2,k3⟩))
 all_goals (go_end0;exact ⟨rfl,k1,k2,k3⟩)
end Go.Proofs.YtfldgghobddgkaaGreatDoor
namespace Go.Proofs.YtfldgghobddgkaaGreatDoor
open Go Go.ChangeShapes Go.WideShapes Go.ChangeAt Go.RowKit
def atC:List Nat→Code→Code
 | [],c=>c
 | 0 :: r,.seq a _=>atC r a
 | 1 :: r,.seq _ b=>atC r b
 | 2 :: r,.cond _ x _=>atC r x
 | 5 :: r,.cond _ _ y=>atC r y
 | 3 :: r,.block _ c=>atC r c
 | 4 :: r,.loop c=>atC r c
 | _,c=>c
def FrK (N M:Nat) (T:Array Value) (s:Nat→Value):Prop:=T.size=N∧T.toList.take M=(List.range M).map s
def upG (s:Nat→Value) (k:Nat) (v:Value):Nat→Value:=fun i=>if i=k then v else s i
theorem frK_open {N M:Nat} {T:Array Value} {s:Nat→Value} (h:FrK N M T s) (hM:M≤N):∃ x:Nat→Value,T=((List.range M).map s ++ ((List.range (N-M)).map fun i=>x (i+M))).toArray:=by
 obtain ⟨h1,h2⟩:=h
 refine ⟨fun i=>T.getD i (.bool false),?_⟩
 rw [←h2]
 have h6:((List.range (N-M)).map fun i=>T.getD (i+M) (.bool false))=T.toList.drop M:=by
  refine List.ext_getElem (by simp [h1]) fun i h3 h4=>?_
  have h7:M+i<T.size:=by simp at h4;omega
  simp [Array.getD,Nat.add_comm i M,h7]
 rw [h6,List.take_append_drop]
theorem wp_block_n {P:Program} {id:Nat} {b:Code} {K:Act→World→Prop} {Q:Exit→Act→World→Prop} {a:Act} {w:World} (h:∀ Q',b.wp P (Exit.then K Q') a w):(Code.block id b).wp P (Exit.then K Q) a w :=
 wp_block (wp_mono (h (Exit.inBlock id (Exit.then K Q))) (by intro e a w h;cases e <;> exact h))
theorem for_wp {N M:Nat} {P:Program} {id id':Nat} {t b st:Code} {c:Operand} (n:Nat) (tb:Nat→Bool) (hn:tb n=false) (I I':Nat→(Nat→Value)→World→Prop)
  (ht:∀ k T s w,k≤n→FrK N M T s→I k s w→∀ K Q,(∀ T',FrK N M T' s→Act.eval ⟨T',[]⟩ c=.bool (tb k)→K ⟨T',[]⟩ w)→t.wp P (Exit.then K Q) ⟨T,[]⟩ w)
  (hb:∀ k T s w,k<n→tb k=true→FrK N M T s→I k s w→∀ K Q,(∀ T' s' w',FrK N M T' s'→I' k s' w'→K ⟨T',[]⟩ w')→b.wp P (Exit.then K Q) ⟨T,[]⟩ w)
  (hs:∀ k T s w,k<n→FrK N M T s→I' k s w→∀ K Q,(∀ T' s' w',FrK N M T' s'→I (k+1) s' w'→K ⟨T',[]⟩ w')→st.wp P (Exit.then K Q) ⟨T,[]⟩ w)
  {T:Array Value} {s:Nat→Value} {w:World} (hF:FrK N M T s) (h0:I 0 s w) {J:Act→World→Prop} {Q:Exit→Act→World→Prop}
  (hJ:∀ k T' s' w',k≤n→tb k=false→FrK N M T' s'→I k s' w'→J ⟨T',[]⟩ w') :
  (Code.block id (.loop (.seq (.seq t (.cond c .skip (.exit id))) (.seq (.block id' b) st)))).wp P (Exit.then J Q) ⟨T,[]⟩ w:=by
 refine wp_block (wp_loop_ghost (fun g a w => ∃ k T s,g=n-k∧k≤n∧a=⟨T,[]⟩∧FrK N M T s∧I k s w) n ⟨0,T,s,rfl,Nat.zero_le _,rfl,hF,h0⟩ ?_)
 rintro g a w ⟨k,T,s,rfl,hk,rfl,hF,hI⟩
 refine wp_seq (wp_seq (ht k T s w hk hF hI _ _ fun T1 hF1 he=>?_))
 cases htb:tb k
 ·rw [htb] at he
  refine wp_cond_false he (wp_exit ?_)
  show (if id=id then _ else _)
  rw [if_pos rfl]
  exact hJ k T1 s w hk htb hF1 hI
 ·have hkn:k<n:=by
   rcases Nat.lt_or_eq_of_le hk with h | h
   ·exact h
   ·rw [h,hn] at htb;cases htb
  rw [htb] at he
  refine wp_cond_true he (wp_skip ?_)
  show Code.wp P (.seq (.block id' b) st) _ _ _
  refine wp_seq (wp_block_n fun Q'=>hb k T1 s w hkn htb hF1 hI _ Q' fun T2 s2 w2 hF2 hI2=>hs k T2 s2 w2 hkn hF2 hI2 _ _ fun T3 s3 w3 hF3 hI3=>?_)
  exact ⟨n-(k+1),by omega,k+1,T3,s3,rfl,by omega,rfl,hF3,hI3⟩
def QR (Rt:Act→World→Prop):Exit→Act→World→Prop
 | .ret,a,w=>Rt a w
 | _,_,_=>False
theorem wp_qr {P:Program} {c:Code} {K:Act→World→Prop} {Rt:Act→World→Prop} {Q:Exit→Act→World→Prop} {a:Act} {w:World} (h:c.wp P (Exit.then K (QR Rt)) a w) (hQ:∀ a w,Rt a w→Q .ret a w):c.wp P (Exit.then K Q) a w :=
 wp_mono h fun e a w h=>by cases e <;> first | exact h | exact hQ _ _ h | exact h.elim
theorem wp_qb {P:Program} {id:Nat} {c:Code} {K:Act→World→Prop} {Rt:Act→World→Prop} {a:Act} {w:World} (h:c.wp P (Exit.then K (QR Rt)) a w):(Code.block id c).wp P (Exit.then K (QR Rt)) a w :=
 wp_block (wp_mono h fun e a w h=>by cases e <;> first | exact h | exact h.elim)
def Ag (X:List Nat) (s s':Nat→Value):Prop := ∀ i,i∉X→s' i=s i
theorem Ag.refl (X:List Nat) (s:Nat→Value):Ag X s s:=fun _ _=>rfl
theorem Ag.up {X:List Nat} {s s':Nat→Value} {k:Nat} {v:Value} (h:Ag X s s') (hk:k∈X):Ag X s (upG s' k v):=fun i hi=>by
 unfold upG
 rw [if_neg (fun e:i=k=>hi (by rw [e];exact hk))]
 exact h i hi
theorem Ag.trans {X:List Nat} {s s' s'':Nat→Value} (h:Ag X s s') (k:Ag X s' s''):Ag X s s'':=fun i hi=>(k i hi).trans (h i hi)
theorem Ag.wide {X Y:List Nat} {s s':Nat→Value} (h:Ag X s s') (hx:∀ i∈X,i∈Y):Ag Y s s':=fun i hi=>h i fun e=>hi (hx i e)
theorem upG_at (s:Nat→Value) (k:Nat) (v:Value):upG s k v k=v:=if_pos rfl
theorem upG_off (s:Nat→Value) {k i:Nat} (v:Value) (h:i≠k):upG s k v i=s i:=if_neg h
end Go.Proofs.YtfldgghobddgkaaGreatDoor
namespace Go.Proofs.YtfldgghobddgkaaGreatDoor
open Go.ChangeShapes Go.WideShapes Go.ChangeAt Go.RowKit
set_option maxRecDepth 20000
def AskP (fn q r:Nat) (w:World) (n:Nat) (p:Nat→Bool):Prop := ∀ (i:Nat) (w':World),i<n→Below w.heap.size w w'→Calls Tryz.prog fn #[.int .i64 i,.pointer (some ⟨q,0,none⟩),.pointer (some ⟨r,0,none⟩)] w' fun e w''=>e=.returned (.bool (p i))∧Below w'.heap.size w' w''
set_option maxHeartbeats 1000000 in
theorem index_ints (A:Option Addr) (cap:Nat) (L:List Int) (i:Int) (w:World) (hn:L.length≤12) (hL:IntsAt w A cap L):Calls Tryz.prog 112 #[.slice A L.length cap,.int .i64 i] w fun e w'=>e=.returned (.int .i64 (findFrom (fun j=>L.getD j 0 == i) L.length 0))∧Below w.heap.size w w':=by
 obtain ⟨hc,h0 | ⟨b,rfl,hbw,hcell⟩⟩:=hL
 ·subst h0
  simp only [List.length_nil]
  go_enter Tryz.func112,Tryz.ntmps112
  go_wp2_with fail
  refine wp_loop_rounds 1 ?_
  rw [rounds_succ]
  go_wp2_with fail
  go_ret
  exact ⟨rfl,Below.refl _ _⟩
 ·have HC:Hid (∀ j,j<L.length→w.cell? ⟨b,j,none⟩=some (.int .i64 (L.getD j 0))):=hcell
  obtain ⟨p,hp⟩:∃ p:Nat→Bool,p=fun j=>L.getD j 0 == i:=⟨_,rfl⟩
  have HP:Hid (∀ j,p j=(L.getD j 0 == i)):=fun j=>by rw [hp]
  rw [←hp]
  generalize hnn:L.length=n at hn hc HC
  clear hcell hp hnn
  go_enter Tryz.func112,Tryz.ntmps112
  go_wp2_with fail
  go_loopg [8] n (fun g s8 wr => ∃ (k:Nat),k≤n∧g=n-k∧s8=.int .i64 k∧findFrom p (n-k) k=findFrom p n 0∧wr=w)
  case atStart=>exact ⟨0,Nat.zero_le _,rfl,rfl,rfl,rfl⟩
  case round =>
   obtain ⟨k,hk,rfl,rfl,hf,rfl⟩:=hrel
   have HF:Hid (findFrom p (n-k) k=findFrom p n 0):=hf
   clear hf
   by_cases hlt:k<n
   ·have hki:(k:Int)<(n:Int):=by omega
    have hcx:=HC.out k hlt
    have hsk:n-k=(n-(k+1))+1:=by omega
    have hn':(n:Int)≤12:=by omega
    have hpk:=HP.out k
    have HSK:Hid (n-k=(n-(k+1))+1):=hsk
    generalize L.getD k 0=x at hcx hpk
    clear hsk
    cases hb:p k
    ·have HK:Hid (p k=false):=hb
     rw [hb] at hpk
     have hx:(i == x)=false:=by
      have h1:x≠i:=by simpa using hpk.symm
      simpa using fun h:i=x=>h1 h.symm
     clear hb hpk
     go_wp2_with fail
     go_roundg (n-(k+1))
     case measure=>omega
     case rel=>exact ⟨k+1,by omega,rfl,by go_num,by rw [←HF.out,HSK.out,findFrom_miss _ HK.out],rfl⟩
    ·have HK:Hid (p k=true):=hb
     rw [hb] at hpk
     have hx:(i == x)=true:=by
      have h1:x=i:=by simpa using hpk.symm
      simpa using h1.symm
     clear hb hpk
     go_wp2_with fail
     go_ret
     exact ⟨by rw [←HF.out,HSK.out,findFrom_hit _ HK.out];rfl,Below.refl _ _⟩
   ·have hke:k=n:=by omega
    subst hke
    go_wp2_with fail
    go_ret
    exact ⟨by rw [←HF.out,Nat.sub_self];rfl,Below.refl _ _⟩
theorem contains_ints (A:Option Addr) (cap:Nat) (L:List Int) (i:Int) (w:World) (hn:L.length≤12) (hL:IntsAt w A cap L):Calls Tryz.prog 86 #[.slice A L.length cap,.int .i64 i] w fun e w'=>e=.returned (.bool (inB L i))∧Below w.heap.size w w':=by
 have h:=index_ints A cap L i w hn hL
 have HI:Hid (decide (0≤findFrom (fun j=>L.getD j 0 == i) L.length 0)=inB L i):=find_in L i
 generalize findFrom (fun j=>L.getD j 0 == i) L.length 0=f at h HI
 generalize L.length=n at h
 clear hL hn
 go_enter Tryz.func86,Tryz.ntmps86
 go_wp2_with fail
 refine h.mono ?_
 rintro e w1 ⟨rfl,hb1⟩
 go_wp2_with fail
 go_ret
 exact ⟨by rw [←HI.out];rfl,hb1⟩
end Go.Proofs.YtfldgghobddgkaaGreatDoor
