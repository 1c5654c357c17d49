/-
  Who takes the words of a text: a builder, or nobody; what becomes of a builder word by word.
-/
import Derived.Test.YtfgegmpoejilnaaGreatDoorJGAK
import Derived.Test.YtfgegmpoejilnaaGreatDoorJGAO
namespace Go.Proofs.YtfgegmpoejilnaaGreatDoor
open Go.ChangeShapes Go.WideShapes Go.ChangeAt Go.RowKit
set_option maxRecDepth 20000
theorem ops_snoc (l:List Int) (x:Int):opsN (l ++ [x])=opsN l+(if x≠0 then 1 else 0)∧zerosN (l ++ [x])=zerosN l+(if x=0 then 1 else 0):=by
 unfold opsN zerosN
 rw [List.countP_append,List.countP_append]
 by_cases e:x=0 <;> simp [e]
theorem take_is_opd {b:Bld} {t:ByteArray} (h:48≤byteN t 0):takeB b t=addB (opndN t) b:=by
 have hs : ¬ 0≤signI (byteN t 0):=by
  unfold signI
  rw [if_neg (by omega),if_neg (by omega),if_neg (by omega),if_neg (by omega)]
  omega
 rw [takeB,if_neg (by omega),if_neg (by omega),if_neg hs]
theorem fit_opd {a o n:Nat} {b:Bld} {x:Nd} (hn:1≤n) (hF:FitB a o false b):FitB (a+n) o true (addB x b):=by
 obtain ⟨f1,f2,f3,f4,f5⟩:=hF
 refine ⟨f1,?_,?_,?_,?_⟩
 ·simp [addB] at f2 ⊢;omega
 ·simp [addB];omega
 ·simp [addB];omega
 ·simp [addB];omega
theorem fit_step {a o o':Nat} {ph ph':Bool} {b:Bld} {t:ByteArray} (hS:Stp o ph t o' ph') (hF:FitB a o ph b):FitB (a+t.size) o' ph' (takeB b t):=by
 cases hS with
 | opn o t h1 h40 =>
  obtain ⟨f1,f2,f3,f4,f5⟩:=hF
  have hT:takeB b t=⟨b.nodes,b.ready,b.waiting ++ [0]⟩:=by rw [takeB,if_pos h40]
  rw [hT]
  obtain ⟨s1,s2⟩:=ops_snoc b.waiting 0
  rw [if_neg (by decide)] at s1
  rw [if_pos rfl] at s2
  simp at f2
  refine ⟨?_,?_,?_,?_,?_⟩
  ·show zerosN (b.waiting ++ [0])=_;omega
  ·show opsN (b.waiting ++ [0])+_≤b.ready.length;simp;omega
  ·show b.nodes.length+opsN (b.waiting ++ [0])≤_;omega
  ·show (b.waiting ++ [0]).length≤_;simp;omega
  ·show b.ready.length≤_;omega
 | cls _ t h1 h41 =>
  obtain ⟨f1,f2,f3,f4,f5⟩:=hF
  simp at f2
  have hT:takeB b t=⟨(settleB 0 b).nodes,(settleB 0 b).ready,(settleB 0 b).waiting.take ((settleB 0 b).waiting.length-1)⟩:=by rw [takeB,if_neg (by omega),if_pos h41]
  rw [hT]
  obtain ⟨q1,q2,q3,q4,q5⟩:=settleB_inv 0 b f2
  have hpos:1≤(settleB 0 b).waiting.length:=by have:=zo_len (settleB 0 b).waiting;omega
  obtain ⟨k,hk⟩:∃ k,(settleB 0 b).waiting.length=k+1:=⟨(settleB 0 b).waiting.length-1,by omega⟩
  have hz:(settleB 0 b).waiting.getD k 0=0:=settle_zero _ b rfl k hk
  obtain ⟨o1,o2⟩:=ops_last hk
  rw [hz,if_neg (by decide)] at o1
  rw [hz,if_pos rfl] at o2
  rw [hk,Nat.add_sub_cancel]
  refine ⟨?_,?_,?_,?_,?_⟩
  ·show zerosN ((settleB 0 b).waiting.take k)=_;omega
  ·show opsN ((settleB 0 b).waiting.take k)+_≤(settleB 0 b).ready.length;simp;omega
  ·show (settleB 0 b).nodes.length+opsN ((settleB 0 b).waiting.take k)≤_;omega
  ·show ((settleB 0 b).waiting.take k).length≤_;simp;omega
  ·show (settleB 0 b).ready.length≤_;omega
 | num _ t h1 h7 hd =>
  have h0:=hd 0 (by omega)
  unfold digB at h0
  simp at h0
  rw [take_is_opd (by omega)]
  exact fit_opd h1 hF
 | nam _ t h1 hl =>
  have h0:=hl 0 (by omega)
  unfold letB at h0
  simp at h0
  rw [take_is_opd (by omega)]
  exact fit_opd h1 hF
 | sgn _ t h1 hs =>
  obtain ⟨f1,f2,f3,f4,f5⟩:=hF
  simp at f2
  obtain ⟨i,hi⟩:∃ i,signI (byteN t 0)=i:=⟨_,rfl⟩
  have hc:=sign_cases hs
  have hT:takeB b t=⟨(settleB (bindN (3+i)) b).nodes,(settleB (bindN (3+i)) b).ready,(settleB (bindN (3+i)) b).waiting ++ [3+i]⟩:=by
   rw [takeB,if_neg (by omega),if_neg (by omega),if_pos hs,hi]
  rw [hT]
  obtain ⟨q1,q2,q3,q4,q5⟩:=settleB_inv (bindN (3+i)) b f2
  obtain ⟨s1,s2⟩:=ops_snoc (settleB (bindN (3+i)) b).waiting (3+i)
  rw [if_pos (by omega)] at s1
  rw [if_neg (by omega)] at s2
  generalize settleB (bindN (3+i)) b=b1 at *
  refine ⟨?_,?_,?_,?_,?_⟩
  ·show zerosN (b1.waiting ++ [3+i])=_;omega
  ·show opsN (b1.waiting ++ [3+i])+_≤b1.ready.length;simp;omega
  ·show b1.nodes.length+opsN (b1.waiting ++ [3+i])≤_;omega
  ·show (b1.waiting ++ [3+i]).length≤_;simp;omega
  ·show b1.ready.length≤_;omega
theorem take_any (N p a o o':Nat) (ph ph':Bool) (b:Bld) (t:ByteArray) (w:World) (hN:N≤w.heap.size) (hS:Stp o ph t o' ph') (hF:FitB a o ph b) (ha:a+t.size≤100) (hB:BldAt N p b w) :
  Calls Tryz.prog 182 #[.pointer (some ⟨p,0,none⟩),.string t] w fun e w'=>e=.returned (.tuple #[])∧BldAt N p (takeB b t) w'∧Kept N (fun k=>k=p) w w':=by
 obtain ⟨f1,f2,f3,f4,f5⟩:=hF
 cases hS with
 | opn o t h1 h40 =>
  have hT:takeB b t=⟨b.nodes,b.ready,b.waiting ++ [0]⟩:=by rw [takeB,if_pos h40]
  rw [hT]
  exact take_opn N p b t w hN h1 h40 (by omega) hB
 | cls _ t h1 h41 =>
  simp at f2
  have hT:takeB b t=⟨(settleB 0 b).nodes,(settleB 0 b).ready,(settleB 0 b).waiting.take ((settleB 0 b).waiting.length-1)⟩:=by rw [takeB,if_neg (by omega),if_pos h41]
  rw [hT]
  exact take_cls N p b t w hN h1 h41 (by omega) (by omega) f2 (by omega) (by omega) hB
 | num _ t h1 h7 hd =>
  have h0:=hd 0 (by omega)
  unfold digB at h0
  simp at h0
  rw [take_is_opd (by omega)]
  exact take_opd N p b t w hN h1 (by omega) (Or.inr ⟨h7,hd⟩) (by omega) (by omega) hB
 | nam _ t h1 hl =>
  have h0:=hl 0 (by omega)
  have h0':=h0
  unfold letB at h0
  simp at h0
  rw [take_is_opd (by omega)]
  exact take_opd N p b t w hN h1 (by omega) (Or.inl h0') (by omega) (by omega) hB
 | sgn _ t h1 hs =>
  simp at f2
  obtain ⟨i,hi⟩:∃ i,signI (byteN t 0)=i:=⟨_,rfl⟩
  have hc:=sign_cases hs
  have hT:takeB b t=⟨(settleB (bindN (3+i)) b).nodes,(settleB (bindN (3+i)) b).ready,(settleB (bindN (3+i)) b).waiting ++ [3+i]⟩:=by
   rw [takeB,if_neg (by omega),if_neg (by omega),if_pos hs,hi]
  rw [hT]
  exact take_sgn N p b t w hN h1 (byteN t 0) i rfl hi (by rw [hi] at hc;exact hc) (by omega) (by omega) f2 (by omega) hB
def tkB (N p:Nat):Tkr Bld:=⟨N,p,100,182,#[.pointer (some ⟨p,0,none⟩)],takeB,fun b w=>BldAt N p b w,FitB⟩
theorem tkB_ok (N p:Nat):(tkB N p).Ok:=by
 refine ⟨by show 100≤_;omega,?_,?_,?_,?_⟩
 ·intro args w;show (callFunc 182 args).run Tryz.prog w=_;simp [go_sem,tkB]
 ·rintro q st w w' hq hqp ⟨AN,cN,AR,cR,AW,cW,hV⟩ hg
  refine ⟨_,_,_,_,_,_,hV.stay fun k hk hkp=>hg.block k hk fun e=>?_⟩
  have e':k=q:=by simpa using e
  have hq':q<N:=hq
  have hqp':q≠p:=hqp
  omega
 ·intro a o ph st t o' ph' hS hF _
  exact fit_step hS hF
 ·intro a o ph st t o' ph' w hS hF ha hN hB
  exact take_any N p a o o' ph ph' st t w hN hS hF ha hB
def anyL (p:Int→Bool) (L:List Int):Bool:=L.any p
theorem any_find (p:Int→Bool) (L:List Int):decide (0≤findFrom (fun j=>p (L.getD j 0)) L.length 0)=anyL p L:=by
 unfold anyL
 rcases findFrom_cases (fun j=>p (L.getD j 0)) L.length 0 with ⟨h1,h2⟩ | ⟨m,h1,_,h3,h4,_⟩
 ·rw [h1,decide_eq_false (by omega)]
  symm
  rw [List.any_eq_false]
  intro x hx
  obtain ⟨i,hi,rfl⟩:=List.getElem_of_mem hx
  have:=h2 i (Nat.zero_le _) (by omega)
  simp only [List.getD,List.getElem?_eq_getElem hi,Option.getD_some] at this
  simp [this]
 ·rw [h1,decide_eq_true (by omega)]
  symm
  rw [List.any_eq_true]
  have hm:m<L.length:=by omega
  refine ⟨L[m],List.getElem_mem hm,?_⟩
  simpa only [List.getD,List.getElem?_eq_getElem hm,Option.getD_some] using h4
theorem anyof_any (F:Nat) (cap:Array Value) (p:Int→Bool) (hent:∀ (args:Array Value) (w:World),(callFunc F args).run Tryz.prog w=.ok (.enter F args) w) (A:Option Addr) (c:Nat) (L:List Int) (w:World) (hn:L.length≤200) (hL:IntsAt w A c L)
  (hF:∀ (x:Int) (w':World),Below w.heap.size w w'→Calls Tryz.prog F (#[.int .i64 x] ++ cap) w' fun e w''=>e=.returned (.bool (p x))∧Below w'.heap.size w' w'') :
  Calls Tryz.prog 153 #[.slice A L.length c,.func (.func F) #[] cap] w fun e w'=>e=.returned (.bool (anyL p L))∧Below w.heap.size w w':=by
 have h2:=contm_pl F cap p hent A c L w (by omega) (pl_ints hL) fun x w' _=>hF x w'
 rw [←any_find]
 generalize findFrom (fun j=>p (L.getD j 0)) L.length 0=r at *
 clear hF hL
 go_enter Tryz.func153,Tryz.ntmps153
 go_wp2_with fail
 refine h2.mono ?_
 rintro e w1 ⟨rfl,hb1⟩
 go_wp2_with fail
 go_ret
 exact ⟨rfl,hb1⟩
def outI (i:Nat) (k:Int):Bool:=decide (k<0) || decide ((i:Int)≤k)
theorem node1_any (i q:Nat) (k:Int) (w:World) (h:w.cell? ⟨q,0,none⟩=some (.int .i64 i)):Calls Tryz.prog 189 #[.int .i64 k,.pointer (some ⟨q,0,none⟩)] w fun e w'=>e=.returned (.bool (outI i k))∧Below w.heap.size w w':=by
 unfold outI
 by_cases h1:k<0
 ·go_enter Tryz.func189,Tryz.ntmps189
  go_wp2
  go_ret
  exact ⟨by simp <;> omega,by go_grown⟩
 ·go_enter Tryz.func189,Tryz.ntmps189
  go_wp2
  go_ret
  exact ⟨by simp <;> omega,by go_grown⟩
theorem fcheck1_any (k:Int) (w:World):Calls Tryz.prog 155 #[.int .i64 k] w fun e w'=>e=.returned (.bool (decide (k≠1)))∧Below w.heap.size w w':=by
 go_enter Tryz.func155,Tryz.ntmps155
 go_wp2
 go_ret
 exact ⟨by by_cases h:k=1 <;> simp [h],by go_grown⟩
theorem toL_nil (t:ByteArray):t.toList=[]↔t.size=0:=by
 have h:=empty_same (s:=t)
 rw [←List.isEmpty_iff,h,decide_eq_true_eq]
section
variable {n op:Int} {nm:ByteArray} {l r:Int} {i:Nat}
theorem nd1 (h1:0≤n) (h2:n≤1000000):ndErr ⟨1,n,nm,l,r⟩ i=if nm.toList=[]∧l=0∧r=0 then 0 else 3:=by
 simp only [ndErr,toL_nil]
 rw [if_neg (by omega),if_pos trivial,if_neg (by omega)]
 by_cases h:nm.size=0∧l=0∧r=0
 ·rw [if_pos h,if_neg (by omega)]
 ·rw [if_neg h,if_pos (by omega)]
theorem nd2 (h:nameErr nm=0):ndErr ⟨2,n,nm,l,r⟩ i=if n=0∧l=0∧r=0 then 0 else 3:=by
 simp only [ndErr]
 rw [if_neg (by omega),if_neg (by omega),if_pos trivial,if_neg (by simpa using h)]
 by_cases h:n=0∧l=0∧r=0
 ·rw [if_pos h,if_neg (by omega)]
 ·rw [if_neg h,if_pos (by omega)]
theorem nd3 (h0:3≤op) (h1:op≤6) (h2:anyL (outI i) [l,r]=false):ndErr ⟨op,n,nm,l,r⟩ i=if n=0∧nm.toList=[] then 0 else 3:=by
 simp [anyL,outI] at h2
 simp only [ndErr,toL_nil]
 rw [if_neg (by omega),if_neg (by omega),if_neg (by omega),if_neg (by omega)]
 by_cases h:n=0∧nm.size=0
 ·rw [if_pos h,if_neg (by omega)]
 ·rw [if_neg h,if_pos (by omega)]
theorem nd3b (h0:3≤op) (h1:op≤6) (h2:anyL (outI i) [l,r]=true):ndErr ⟨op,n,nm,l,r⟩ i=1:=by
 simp [anyL,outI] at h2
 simp only [ndErr]
 rw [if_neg (by omega),if_neg (by omega),if_neg (by omega),if_pos (by omega)]
end
def nodeW (w:World) (op n:Int) (nm:ByteArray) (l r:Int) (i:Nat):World:=((w.alloc (.cells #[.int .i64 op,.int .i64 n,.string nm,.int .i64 l,.int .i64 r] 212)).alloc (.cells #[.int .i64 i] 3)).alloc (.cells #[.int .i64 op,.int .i64 0,.string ⟨#[]⟩,.int .i64 0,.int .i64 0] 212)
theorem nodeW_size (w:World) (op n:Int) (nm:ByteArray) (l r:Int) (i:Nat):(nodeW w op n nm l r i).heap.size=w.heap.size+3:=by unfold nodeW;simp
theorem nodeW_below (w:World) (op n:Int) (nm:ByteArray) (l r:Int) (i:Nat):Below w.heap.size w (nodeW w op n nm l r i):=by unfold nodeW;go_grown
theorem nodeW_at (w:World) (op n:Int) (nm:ByteArray) (l r:Int) (i:Nat):(nodeW w op n nm l r i).heap[w.heap.size]?=some (.cells #[.int .i64 op,.int .i64 n,.string nm,.int .i64 l,.int .i64 r] 212 (0,0))∧(nodeW w op n nm l r i).heap[w.heap.size+1]?=some (.cells #[.int .i64 i] 3 (0,0))∧(nodeW w op n nm l r i).heap[w.heap.size+1+1]?=some (.cells #[.int .i64 op,.int .i64 0,.string ⟨#[]⟩,.int .i64 0,.int .i64 0] 212 (0,0)):=by
 unfold nodeW
 refine ⟨?_,?_,?_⟩
 ·rw [heap_alloc_old _ _ (by simp;omega)];exact topF0 w _ _
 ·rw [heap_alloc_old _ _ (by simp)];exact topF1 w _ _
 ·have h:=heap_alloc_new ((w.alloc (.cells #[.int .i64 op,.int .i64 n,.string nm,.int .i64 l,.int .i64 r] 212)).alloc (.cells #[.int .i64 i] 3)) (.cells #[.int .i64 op,.int .i64 0,.string ⟨#[]⟩,.int .i64 0,.int .i64 0] 212)
  simpa using h
theorem nodeW_cells {w w1:World} {op n:Int} {nm:ByteArray} {l r:Int} {i:Nat} (hb:Below (nodeW w op n nm l r i).heap.size (nodeW w op n nm l r i) w1) :
  Below w.heap.size w w1∧(w1.cell? ⟨w.heap.size,0,none⟩=some (.int .i64 op)∧w1.cell? ⟨w.heap.size,1,none⟩=some (.int .i64 n)∧w1.cell? ⟨w.heap.size,2,none⟩=some (.string nm)∧w1.cell? ⟨w.heap.size,3,none⟩=some (.int .i64 l)∧w1.cell? ⟨w.heap.size,4,none⟩=some (.int .i64 r))∧w1.cell? ⟨w.heap.size+1,0,none⟩=some (.int .i64 i) ∧
  (w1.cell? ⟨w.heap.size+1+1,0,none⟩=some (.int .i64 op)∧w1.cell? ⟨w.heap.size+1+1,1,none⟩=some (.int .i64 0)∧w1.cell? ⟨w.heap.size+1+1,2,none⟩=some (.string ⟨#[]⟩)∧w1.cell? ⟨w.heap.size+1+1,3,none⟩=some (.int .i64 0)∧w1.cell? ⟨w.heap.size+1+1,4,none⟩=some (.int .i64 0))∧∀ j,w1.frozen? ⟨w.heap.size+1+1,j,none⟩=false:=by
 obtain ⟨a1,a2,a3⟩:=nodeW_at w op n nm l r i
 have hz:=nodeW_size w op n nm l r i
 have b1:=(hb.block w.heap.size (by omega)).trans a1
 have b2:=(hb.block (w.heap.size+1) (by omega)).trans a2
 have b3:=(hb.block (w.heap.size+1+1) (by omega)).trans a3
 refine ⟨onB (nodeW_below ..) hb,⟨?_,?_,?_,?_,?_⟩,?_,⟨?_,?_,?_,?_,?_⟩,fun j=>?_⟩ <;> simp [World.cell?,World.frozen?,b1,b2,b3]
set_option maxHeartbeats 1000000 in
theorem node_num (x:Nd) (i:Nat) (w:World) (h1:x.op=1):Calls Tryz.prog 152 #[ndV x,.int .i64 i] w fun e w'=>e=.returned (errV (ndErr x i))∧Below w.heap.size w w':=by
 obtain ⟨op,n,name,left,right⟩:=x
 simp only at h1
 subst h1
 rw [ndV_def]
 by_cases hn:n<0
 ·have hE:ndErr ⟨1,n,name,left,right⟩ i=1:=by simp [ndErr,hn]
  rw [hE,errV_some (by decide)]
  go_enter Tryz.func152,Tryz.ntmps152
  go_wp2
  go_ret
  exact ⟨rfl,by go_grown⟩
 by_cases hn2:1000000<n
 ·have hE:ndErr ⟨1,n,name,left,right⟩ i=1:=by simp [ndErr,hn2]
  rw [hE,errV_some (by decide)]
  go_enter Tryz.func152,Tryz.ntmps152
  go_wp2
  go_ret
  exact ⟨rfl,by go_grown⟩
 ·rw [nd1 (by omega) (by omega)]
  go_enter Tryz.func152,Tryz.ntmps152
  go_wp2
  all_goals (go_ret;refine ⟨?_,by go_grown⟩;first | rfl | (rw [if_pos (by simp_all)];rfl) | (rw [if_neg (by simp_all)];rfl) | (exfalso;simp_all;done))
set_option maxHeartbeats 1000000 in
theorem node_ref (x:Nd) (i:Nat) (w:World) (h1:x.op=2):Calls Tryz.prog 152 #[ndV x,.int .i64 i] w fun e w'=>e=.returned (errV (ndErr x i))∧Below w.heap.size w w':=by
 obtain ⟨op,n,name,left,right⟩:=x
 simp only at h1
 subst h1
 rw [ndV_def]
 have hnm:=name_any name
 by_cases hE:nameErr name=0
 ·rw [nd2 hE]
  rw [hE,errV_zero] at hnm
  clear hE
  go_enter Tryz.func152,Tryz.ntmps152
  go_wp2_with fail
  refine (hnm _).mono ?_
  rintro e w1 ⟨rfl,hb1⟩
  obtain ⟨hB,⟨x0,x1,x2,x3,x4⟩,-,⟨z0,z1,z2,z3,z4⟩,hf⟩:=nodeW_cells (w:=w) (op:=2) (n:=n) (nm:=name) (l:=left) (r:=right) (i:=i) hb1
  have y2:=hf 2
  have HB:Hid (Below w.heap.size w w1):=hB
  clear hb1 hB hf
  go_wp2_with fail
  all_goals (go_ret;refine ⟨?_,HB.out.setCell (by simp;omega) _⟩;first | rfl | (rw [if_pos (by simp_all)];rfl) | (rw [if_neg (by simp_all)];rfl) | (exfalso;simp_all;done))
 ·have h2:nameErr name=2:=nameErr_two hE
  have hN:ndErr ⟨2,n,name,left,right⟩ i=2:=by
   simp only [ndErr]
   rw [if_neg (by omega),if_neg (by omega),if_pos trivial,if_pos (by omega)]
  rw [hN,errV_some (by decide)]
  rw [h2,errV_some (by decide)] at hnm
  clear hE h2 hN
  go_enter Tryz.func152,Tryz.ntmps152
  go_wp2_with fail
  refine (hnm _).mono ?_
  rintro e w1 ⟨rfl,hb1⟩
  have hB:Below w.heap.size w w1:=onB (by go_grown) hb1
  clear hb1
  go_wp2_with fail
  go_ret
  exact ⟨rfl,hB⟩
theorem ent_node1 (args:Array Value) (w:World):(callFunc 189 args).run Tryz.prog w=.ok (.enter 189 args) w:=by simp [go_sem]
theorem ent_check1 (args:Array Value) (w:World):(callFunc 155 args).run Tryz.prog w=.ok (.enter 155 args) w:=by simp [go_sem]
theorem sides_any (w:World) (op n:Int) (nm:ByteArray) (l r:Int) (i:Nat):Calls Tryz.prog 153 #[.slice (some ⟨w.heap.size+1+1+1,0,none⟩) 2 2,.func (.func 189) #[] #[.pointer (some ⟨w.heap.size+1,0,none⟩)]] ((nodeW w op n nm l r i).alloc (.cells #[.int .i64 l,.int .i64 r] 3)) fun e w'=>e=.returned (.bool (anyL (outI i) [l,r]))∧Below ((nodeW w op n nm l r i).alloc (.cells #[.int .i64 l,.int .i64 r] 3)).heap.size ((nodeW w op n nm l r i).alloc (.cells #[.int .i64 l,.int .i64 r] 3)) w':=by
 have hz:=nodeW_size w op n nm l r i
 have hnew:=heap_alloc_new (nodeW w op n nm l r i) (.cells #[.int .i64 l,.int .i64 r] 3)
 rw [hz] at hnew
 refine anyof_any 189 #[.pointer (some ⟨w.heap.size+1,0,none⟩)] (outI i) ent_node1 (some ⟨w.heap.size+1+1+1,0,none⟩) 2 [l,r] _ (by simp) ⟨by simp,Or.inr ⟨_,rfl,by simp [hz],?_⟩⟩ ?_
 ·intro j hj
  match j,hj with
  | 0,_=>simp [World.cell?,hnew]
  | 1,_=>simp [World.cell?,hnew]
 ·intro x w' hb
  have h2:=(nodeW_at w op n nm l r i).2.1
  have h3:w'.heap[w.heap.size+1]?=some (.cells #[.int .i64 i] 3 (0,0)):=by
   rw [hb.block _ (by simp [hz]),heap_alloc_old _ _ (by rw [hz];omega)]
   exact h2
  exact node1_any i (w.heap.size+1) x w' (by simp [World.cell?,h3])
set_option maxHeartbeats 2000000 in
theorem node_op (x:Nd) (i:Nat) (w:World) (h1:3≤x.op) (h2:x.op≤6):Calls Tryz.prog 152 #[ndV x,.int .i64 i] w fun e w'=>e=.returned (errV (ndErr x i))∧Below w.heap.size w w':=by
 obtain ⟨op,n,name,left,right⟩:=x
 simp only at h1 h2
 rw [ndV_def]
 have hsd:=sides_any w op n name left right i
 have hmf:∀ (fn:Fn) (first cap:Array Value) (w:World),(Instr.makeFunc fn first cap).run Tryz.prog w=.ok (.func fn first cap) w:=fun _ _ _ _=>rfl
 have HW:Hid (Below (nodeW w op n name left right i).heap.size (nodeW w op n name left right i) ((nodeW w op n name left right i).alloc (.cells #[.int .i64 left,.int .i64 right] 3))):=(Below.refl _ _).alloc (Nat.le_refl _) _
 have hc:op=3∨op=4∨op=5∨op=6:=by omega
 cases ha:anyL (outI i) [left,right]
 ·rw [nd3 h1 h2 ha]
  rw [ha] at hsd
  clear ha
  unfold nodeW at hsd
  rcases hc with rfl | rfl | rfl | rfl
  all_goals
   go_enter Tryz.func152,Tryz.ntmps152
   go_wp2_with fail
   refine hsd.mono ?_
   rintro e w1 ⟨rfl,hb1⟩
   obtain ⟨hB,⟨x0,x1,x2,x3,x4⟩,-,⟨z0,z1,z2,z3,z4⟩,hf⟩:=nodeW_cells (onB HW.out hb1)
   have y3:=hf 3
   have y4:=hf 4
   have HB:Hid (Below w.heap.size w w1):=hB
   clear hb1 hB hf hsd
   go_wp2_with fail
   go_region
   all_goals go_wp2_with fail
   all_goals (go_ret;refine ⟨?_,by first | exact ((HB.out.setCell (by simp;omega) _).setCell (by simp;omega) _).drew | exact ((HB.out.drew.setCell (by simp;omega) _).setCell (by simp;omega) _)⟩;first | rfl | (rw [if_pos (by simp_all)];rfl) | (rw [if_neg (by simp_all)];rfl) | (exfalso;simp_all;done))
 ·rw [nd3b h1 h2 ha,errV_some (by decide)]
  rw [ha] at hsd
  clear ha
  unfold nodeW at hsd
  rcases hc with rfl | rfl | rfl | rfl
  all_goals
   go_enter Tryz.func152,Tryz.ntmps152
   go_wp2_with fail
   refine hsd.mono ?_
   rintro e w1 ⟨rfl,hb1⟩
   have HB:Hid (Below w.heap.size w w1):=onB (by go_grown) hb1
   clear hb1 hsd
   go_wp2_with fail
   go_ret
   exact ⟨rfl,HB.out⟩
set_option maxHeartbeats 1000000 in
theorem node_bad (x:Nd) (i:Nat) (w:World) (h1:x.op<1∨6<x.op):Calls Tryz.prog 152 #[ndV x,.int .i64 i] w fun e w'=>e=.returned (errV (ndErr x i))∧Below w.heap.size w w':=by
 have hE:ndErr x i=1:=by unfold ndErr;rw [if_pos h1]
 rw [hE,errV_some (by decide)]
 obtain ⟨op,n,name,left,right⟩:=x
 simp only at h1
 rw [ndV_def]
 have e1:(op == 1)=false:=by apply Bool.eq_false_iff.2;intro e;rw [beq_iff_eq] at e;omega
 have e2:(op == 2)=false:=by apply Bool.eq_false_iff.2;intro e;rw [beq_iff_eq] at e;omega
 have e3:(op == 3)=false:=by apply Bool.eq_false_iff.2;intro e;rw [beq_iff_eq] at e;omega
 have e4:(op == 4)=false:=by apply Bool.eq_false_iff.2;intro e;rw [beq_iff_eq] at e;omega
 have e5:(op == 5)=false:=by apply Bool.eq_false_iff.2;intro e;rw [beq_iff_eq] at e;omega
 have e6:(op == 6)=false:=by apply Bool.eq_false_iff.2;intro e;rw [beq_iff_eq] at e;omega
 clear h1 hE
 go_enter Tryz.func152,Tryz.ntmps152
 go_wp2_with fail
 go_ret
 exact ⟨rfl,by go_grown⟩
theorem node_any (x:Nd) (i:Nat) (w:World):Calls Tryz.prog 152 #[ndV x,.int .i64 i] w fun e w'=>e=.returned (errV (ndErr x i))∧Below w.heap.size w w':=by
 by_cases h1:x.op=1
 ·exact node_num x i w h1
 by_cases h2:x.op=2
 ·exact node_ref x i w h2
 by_cases h3:3≤x.op∧x.op≤6
 ·exact node_op x i w h3.1 h3.2
 ·exact node_bad x i w (by omega)
set_option maxHeartbeats 2000000 in
theorem iclone_pl (A:Option Addr) (c:Nat) (L:List Int) (w:World) (hL:L.length≤1048576) (hP:PlAt w A c L):Calls Tryz.prog 181 #[.slice A L.length c] w fun e w'=>(∃ v,e=.returned v∧w'.ownsRow w.heap.size 3 1 v L.length (mapI L))∧Below w.heap.size w w':=by
 have hq:∀ (w:World) (a:Option Addr) (n c n' c':Nat),(binOp .eql 38 (.slice a n c) (.slice none n' c')).run Tryz.prog w=.ok (.bool a.isNone) w:=fun w a n c n' c'=>Lib.run_eql_slice_nil w _ _ a n c n' c' Tryz.underlying38
 cases A with
 | none =>
  obtain ⟨-,h0 | ⟨b,o,h0,-⟩⟩:=hP
  ·subst h0
   simp only [List.length_nil]
   go_enter Tryz.func181,Tryz.ntmps181
   go_wp2_with fail
   go_ret
   exact ⟨⟨_,rfl,World.ownsRow_nil _ _ _ _⟩,Below.refl _ _⟩
  ·cases h0
 | some a =>
  obtain ⟨i0,hi0,hz0,hz1,hz2⟩:=info_parts Tryz.infoInt
  have HC:Hid (∀ j u,(mapI L)[j]?=some u→w.cell? (a.add j)=some u):=by
   intro j u hj
   obtain ⟨-,h0 | ⟨b,o,h0,-,hcell⟩⟩:=hP
   ·subst h0;simp [mapI] at hj
   ·cases h0
    have hlt:j<L.length:=by have:=(List.getElem?_eq_some_iff.1 hj).1;simpa [mapI] using this
    rw [plain_add,hcell j hlt]
    simp only [mapI,List.getElem?_map,List.getElem?_eq_getElem hlt,Option.map_some,Option.some.injEq] at hj
    rw [←hj,List.getD_eq_getElem?_getD,List.getElem?_eq_getElem hlt]
    rfl
  have hl:(mapI L).length=L.length*1:=by simp [mapI]
  have h1:∀ u∈mapI L,u.oneCell'=true:=by intro u hu;simp [mapI] at hu;obtain ⟨x,-,rfl⟩:=hu;rfl
  clear hP
  go_enter Tryz.func181,Tryz.ntmps181
  go_wp2_with (at_builtin;refine wpList_append_own _ rfl _ _ 38 rfl w.heap.size 3 i0 (.int .i64 0) 1 8 Tryz.underlying38 hi0 hz0 hz1 hz2 rfl (by decide) _ _ _ rfl (World.ownsRow_made w #[] 0 (Nat.le_refl _) (Nat.zero_le _) (by simp)) a L.length c (mapI L) rfl ?qc1 ?qc2 ?qc3 ?qc4 ?qc5 ?qc6 ?_)
  case qc1=>exact hl
  case qc2=>exact fun j u hj=>Lib.cell?_alloc_some _ (HC.out j u hj)
  case qc3=>exact h1
  case qc4=>simp only [maxLen];omega
  case qc5=>omega
  case qc6=>simp
  intro v' w1 hown hgrow hnil
  have HO:Hid (w1.ownsRow w.heap.size 3 1 v' L.length (mapI L)):=hown
  have HB:Hid (Below w.heap.size w w1):=((Below.refl _ w).alloc (Nat.le_refl _) _).grown hgrow (by simp) (by intro k hk;simp [Value.ownBlock] at hk;omega)
  clear hown hgrow hnil
  go_wp2_with fail
  go_ret
  exact ⟨⟨_,rfl,HO.out⟩,HB.out⟩
def IntT (w:World) (A:Option Addr) (c:Nat) (L:List Int):Prop:=L.length≤c∧c≤9223372036854775807∧(L=[]∨∃ b cs fr,A=some ⟨b,0,none⟩∧w.heap[b]?=some (.cells cs 3 fr)∧∀ j,j<L.length→w.cell? ⟨b,j,none⟩=some (.int .i64 (L.getD j 0)))
theorem IntT.at {w:World} {A:Option Addr} {c:Nat} {L:List Int} (h:IntT w A c L):IntsAt w A c L:=by
 obtain ⟨h1,-,h2 | ⟨b,cs,fr,h2,h3,h4⟩⟩:=h
 ·exact ⟨h1,Or.inl h2⟩
 ·exact ⟨h1,Or.inr ⟨b,h2,(Array.getElem?_eq_some_iff.1 h3).1,h4⟩⟩
theorem IntT.nil (w:World) (A:Option Addr) (c:Nat) (h:c≤9223372036854775807):IntT w A c []:=⟨Nat.zero_le _,h,Or.inl rfl⟩
theorem IntT.keep {w w':World} {A:Option Addr} {c:Nat} {L:List Int} (h:IntT w A c L) (hB:∀ (b:Nat) (cs:Array Value) (fr:Nat×Nat),w.heap[b]?=some (Obj.cells cs 3 fr)→w'.heap[b]?=w.heap[b]?):IntT w' A c L:=by
 obtain ⟨h1,h0,h2 | ⟨b,cs,fr,h2,h3,h4⟩⟩:=h
 ·exact ⟨h1,h0,Or.inl h2⟩
 ·have hb:=hB b cs fr h3
  exact ⟨h1,h0,Or.inr ⟨b,cs,fr,h2,hb.trans h3,fun j hj=>(World.cell?_of_block (a:=⟨b,j,none⟩) hb).trans (h4 j hj)⟩⟩
theorem IntT.later {w w':World} {A:Option Addr} {c:Nat} {L:List Int} (h:IntT w A c L) (hB:Below w.heap.size w w'):IntT w' A c L :=
 h.keep fun b _ _ hb=>hB.block b (Array.getElem?_eq_some_iff.1 hb).1
theorem intT_own {w:World} {base:Nat} {v:Value} {L:List Int} (h:w.ownsRow base 3 1 v L.length (mapI L)):∃ A c,v=.slice A L.length c∧IntT w A c L:=by
 rcases h.2 with ⟨rfl,h0⟩ | ⟨g,cap,cur,rfl,hb,hg,hc,hm,_,_⟩
 ·have:L=[]:=List.eq_nil_of_length_eq_zero h0
  subst this
  exact ⟨none,0,rfl,IntT.nil _ _ _ (by omega)⟩
 ·refine ⟨_,cap,rfl,hc,by unfold maxLen at hm;omega,Or.inr ⟨g,cur,_,rfl,hg,fun j hj=>?_⟩⟩
  have hx:=h.cells (g:=g) rfl j (.int .i64 (L.getD j 0)) (by simp [mapI,List.getD,List.getElem?_eq_getElem hj])
  have hadd:(⟨g,0,none⟩:Addr).add j=⟨g,j,none⟩:=by unfold Addr.add;split <;> simp_all
  rw [hadd] at hx
  exact hx
theorem row_ne_int:(3:Nat)≠38:=by decide
theorem IntT.row {w w':World} {base:Nat} {v:Value} {n:Nat} {zs:List Value} {A:Option Addr} {c:Nat} {L:List Int} (h:IntT w A c L) (hown:w.ownsRow base 38 1 v n zs) (hG:w.grownBy w' v.ownBlock):IntT w' A c L:=by
 refine h.keep fun b cs fr hb=>hG.block b (Array.getElem?_eq_some_iff.1 hb).1 fun e=>?_
 rcases hown.2 with ⟨rfl,-⟩ | ⟨g,cap,cur,rfl,-,hg,-⟩
 ·cases e
 ·simp only [Value.ownBlock,Option.some.injEq] at e
  rw [e,hg] at hb
  simp only [Option.some.injEq,Obj.cells.injEq] at hb
  exact row_ne_int hb.2.1.symm
structure RL where
 p:List Int
 A:Option Addr
 c:Nat
def noR:RL:=⟨[],none,0⟩
def lR (xs:List RL):List (List Int):=xs.map RL.p
theorem lR_len (xs:List RL):(lR xs).length=xs.length:=by simp [lR]
theorem lR_append (a b:List RL):lR (a ++ b)=lR a ++ lR b:=by simp [lR]
def cellsR (xs:List RL):List Value:=xs.map fun x=>.slice x.A x.p.length x.c
theorem cellsR_append (a b:List RL):cellsR (a ++ b)=cellsR a ++ cellsR b:=by simp [cellsR]
theorem rl_mem {xs:List RL} {k:Nat} (h:k<xs.length):xs.getD k noR∈xs:=by
 rw [List.getD_eq_getElem?_getD,List.getElem?_eq_getElem h]
 exact List.getElem_mem h
theorem lR_at (xs:List RL) (k:Nat):(lR xs).getD k []=(xs.getD k noR).p:=by
 rw [List.getD_eq_getElem?_getD,List.getD_eq_getElem?_getD,lR,List.getElem?_map]
 cases xs[k]? <;> rfl
theorem cellsR_at {xs:List RL} {k:Nat} (h:k<xs.length):(cellsR xs)[k]?=some (.slice (xs.getD k noR).A (xs.getD k noR).p.length (xs.getD k noR).c):=by
 simp [cellsR,List.getD,h]
def RowsV (w:World) (A:Option Addr) (cap:Nat) (xs:List RL):Prop:=xs.length≤cap∧(xs=[]∨∃ b,A=some ⟨b,0,none⟩∧b<w.heap.size∧∀ k,k<xs.length→w.cell? ⟨b,k,none⟩=some (.slice (xs.getD k noR).A (xs.getD k noR).p.length (xs.getD k noR).c))∧∀ x∈xs,IntT w x.A x.c x.p
theorem RowsV.later {w w':World} {A:Option Addr} {cap:Nat} {xs:List RL} (h:RowsV w A cap xs) (hB:Below w.heap.size w w'):RowsV w' A cap xs:=by
 obtain ⟨h1,h2,h3⟩:=h
 refine ⟨h1,?_,fun x hx=>(h3 x hx).later hB⟩
 rcases h2 with h2 | ⟨b,h2,h4,h5⟩
 ·exact Or.inl h2
 ·exact Or.inr ⟨b,h2,Nat.lt_of_lt_of_le h4 hB.size,fun k hk=>(hB.cell (p:=⟨b,k,none⟩) h4).trans (h5 k hk)⟩
theorem RowsV.nil (w:World) (A:Option Addr) (cap:Nat):RowsV w A cap []:=⟨Nat.zero_le _,Or.inl rfl,fun x hx=>by cases hx⟩
theorem rows_own {w:World} {base:Nat} {v:Value} {xs:List RL} (h:w.ownsRow base 38 1 v xs.length (cellsR xs)) (hp:∀ x∈xs,IntT w x.A x.c x.p):∃ A c,v=.slice A xs.length c∧RowsV w A c xs:=by
 rcases h.2 with ⟨rfl,h0⟩ | ⟨g,cap,cur,rfl,hb,hg,hc,_,_,_⟩
 ·have:xs=[]:=List.eq_nil_of_length_eq_zero h0
  subst this
  exact ⟨none,0,rfl,RowsV.nil _ _ _⟩
 ·refine ⟨_,cap,rfl,hc,Or.inr ⟨g,rfl,(Array.getElem?_eq_some_iff.1 hg).1,fun k hk=>?_⟩,hp⟩
  have y:=h.cells (g:=g) rfl k _ (cellsR_at hk)
  have hadd:(⟨g,0,none⟩:Addr).add k=⟨g,k,none⟩:=by unfold Addr.add;split <;> simp_all
  rw [hadd] at y
  exact y
theorem Tryz.infoRow:(Tryz.prog.info? 38).map (fun i=>(i.zero,i.size,i.bytes))=some (some (.slice none 0 0),1,24):=by kernel_rfl
theorem iclone_any (A:Option Addr) (c:Nat) (L:List Int) (w:World) (hL:L.length≤12) (hP:IntT w A c L):Calls Tryz.prog 181 #[.slice A L.length c] w fun e w'=>(∃ v,e=.returned v∧w'.ownsRow w.heap.size 3 1 v L.length (mapI L))∧Below w.heap.size w w' :=
 iclone_pl A c L w (by omega) (pl_ints hP.at)
def wrStep (D:Nat→Dm) (n:Nat) (L:List (Int×Int)) (e:En):List (Int×Int):=L.set (numI D e.pl n).toNat (1,e.n)
def wrV (D:Nat→Dm) (n:Nat) (l:List En):List (Int×Int):=l.foldl (wrStep D n) (List.replicate (prodN D n) (0,0))
theorem wrs_len (D:Nat→Dm) (n:Nat):∀ (l:List En) (L:List (Int×Int)),(l.foldl (wrStep D n) L).length=L.length
 | [],_=>rfl
 | e :: r,L=>by rw [List.foldl_cons,wrs_len D n r];unfold wrStep;rw [List.length_set]
theorem wrV_len (D:Nat→Dm) (n:Nat) (l:List En):(wrV D n l).length=prodN D n:=by unfold wrV;rw [wrs_len];simp
theorem take_wr (D:Nat→Dm) (n:Nat) (L:List (Int×Int)) (xs:List EnL) {k:Nat} (h:k<xs.length):((lE xs).take (k+1)).foldl (wrStep D n) L=wrStep D n (((lE xs).take k).foldl (wrStep D n) L) (xs.getD k noL).e:=by
 have hk:k<(lE xs).length:=by rw [lE_len];exact h
 rw [List.take_succ_eq_append_getElem hk,List.foldl_append]
 have e:(lE xs)[k]=(xs.getD k noL).e:=by rw [←lE_at,List.getD_eq_getElem?_getD,List.getElem?_eq_getElem hk];rfl
 rw [e]
 rfl
theorem goodC_num {x:Int} (h:numOk x=true):goodC (1,x):=by
 have hn : -1000000≤x∧x≤1000000:=by simpa [numOk] using h
 exact decide_eq_true (Or.inl ⟨rfl,by omega,by omega⟩)
theorem run_make_cells (n:Nat) (hn:n≤3000) (w:World):(Instr.makeSlice 42 (.int .i64 (n:Int)) (.int .i64 (n:Int))).run Tryz.prog w=.ok (.slice (some ⟨w.heap.size,0,none⟩) n n) (w.alloc (.cells (madeCells #[.int .i64 0,.int .i64 0] (n*2)) 54)):=by
 obtain ⟨i0,hi0,hz0,hz1,hz2⟩:=info_parts Tryz.infoCe
 have hr:=run_make (P:=Tryz.prog) w 42 54 i0 _ Tryz.underlying42 hi0 hz0 .i64 .i64 n n (by omega) (Int.le_refl _) (by rw [hz2];omega) (by omega)
 simp only [Int.toNat_natCast,hz1] at hr
 exact hr
theorem celB_made (w:World) (n:Nat):CelB (w.alloc (.cells (madeCells #[.int .i64 0,.int .i64 0] (n*2)) 54)) w.heap.size (List.replicate n (0,0)):=by
 refine ⟨_,heap_alloc_new w _,fun k hk=>?_⟩
 have hk':k<n:=by simpa using hk
 have e1:(List.replicate n ((0:Int),(0:Int))).getD k noC=(0,0):=by simp [List.getD,hk']
 rw [e1]
 constructor
 ·simp [madeCells,show k*2<n*2 by omega]
 ·simp [madeCells,show k*2+1<n*2 by omega,show (k*2+1) % 2=1 by omega]
theorem fcells_bad (A0:Option Addr) (cap n:Nat) (D:Nat→Dm) (A:Nat→Option Addr) (C:Nat→Nat) (AE:Option Addr) (ce:Nat) (xs:List EnL) (w:World) (hM:DimsV w A0 cap n D A C) (hE:EnsV w AE ce xs) (he:entsErr D n (lE xs)≠0) :
  Calls Tryz.prog 27 #[.agg #[.slice A0 n cap],.slice AE xs.length ce] w fun e w'=>(∃ A' c',e=.returned (.tuple #[.slice A' 0 c',.iface 95 (.int .i64 (entsErr D n (lE xs)))]))∧Below w.heap.size w w':=by
 have hB0:=ownOut_below w A0 n cap 24
 have h:=icheck_any A0 cap n D A C AE ce xs (ownOut w A0 n cap 24) (hM.later hB0) (hE.later hB0)
 have HB0:Hid (Below w.heap.size w (ownOut w A0 n cap 24)):=hB0
 rw [errV_some he] at h
 clear he hM hE hB0
 generalize entsErr D n (lE xs)=ee at h
 generalize xs.length=N at h
 go_enter Tryz.func27,Tryz.ntmps27
 go_wp2_with fail
 refine h.mono ?_
 rintro e w1 ⟨rfl,hb1⟩
 have HB:Hid (Below w.heap.size w w1):=onB HB0.out hb1
 clear hb1 h
 go_wp2_with fail
 go_ret2
 exact ⟨⟨none,0,rfl⟩,HB.out⟩
end Go.Proofs.YtfgegmpoejilnaaGreatDoor
