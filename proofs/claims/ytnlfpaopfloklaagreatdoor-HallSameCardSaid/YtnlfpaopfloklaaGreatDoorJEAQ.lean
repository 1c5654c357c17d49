/-
  Who takes the words of a text: a builder, or nobody; what becomes of a builder word by word.
-/
import Derived.Test.YtnlfpaopfloklaaGreatDoorJEAP
namespace Go.Proofs.YtnlfpaopfloklaaGreatDoor
open Go.ChangeShapes Go.WideShapes Go.ChangeAt Go.RowKit
set_option maxRecDepth 20000
theorem ops_snoc (l:List Int) (x:Int):opsN (l ++ [x])=opsN l+(if x≠0 then 1 else 0)∧zerosN (l ++ [x])=zerosN l+(if x=0 then 1 else 0):=by
 unfold opsN zerosN
 rw [List.countP_append,List.countP_append]
 by_cases e:x=0 <;> simp [e]
theorem take_is_opd {b:Bld} {t:ByteArray} (h:48≤byteN t 0):takeB b t=addB (opndN t) b:=by
 have hs : ¬ 0≤signI (byteN t 0):=by
  unfold signI
  rw [if_neg (by omega),if_neg (by omega),if_neg (by omega),if_neg (by omega)]
  omega
 rw [takeB,if_neg (by omega),if_neg (by omega),if_neg hs]
theorem fit_opd {a o n:Nat} {b:Bld} {x:Nd} (hn:1≤n) (hF:FitB a o false b):FitB (a+n) o true (addB x b):=by
 obtain ⟨f1,f2,f3,f4,f5⟩:=hF
 refine ⟨f1,?_,?_,?_,?_⟩
 ·simp [addB] at f2 ⊢;omega
 ·simp [addB];omega
 ·simp [addB];omega
 ·simp [addB];omega
theorem fit_step {a o o':Nat} {ph ph':Bool} {b:Bld} {t:ByteArray} (hS:Stp o ph t o' ph') (hF:FitB a o ph b):FitB (a+t.size) o' ph' (takeB b t):=by
 cases hS with
 | opn o t h1 h40 =>
  obtain ⟨f1,f2,f3,f4,f5⟩:=hF
  have hT:takeB b t=⟨b.nodes,b.ready,b.waiting ++ [0]⟩:=by rw [takeB,if_pos h40]
  rw [hT]
  obtain ⟨s1,s2⟩:=ops_snoc b.waiting 0
  rw [if_neg (by decide)] at s1
  rw [if_pos rfl] at s2
  simp at f2
  refine ⟨?_,?_,?_,?_,?_⟩
  ·show zerosN (b.waiting ++ [0])=_;omega
  ·show opsN (b.waiting ++ [0])+_≤b.ready.length;simp;omega
  ·show b.nodes.length+opsN (b.waiting ++ [0])≤_;omega
  ·show (b.waiting ++ [0]).length≤_;simp;omega
  ·show b.ready.length≤_;omega
 | cls _ t h1 h41 =>
  obtain ⟨f1,f2,f3,f4,f5⟩:=hF
  simp at f2
  have hT:takeB b t=⟨(settleB 0 b).nodes,(settleB 0 b).ready,(settleB 0 b).waiting.take ((settleB 0 b).waiting.length-1)⟩:=by rw [takeB,if_neg (by omega),if_pos h41]
  rw [hT]
  obtain ⟨q1,q2,q3,q4,q5⟩:=settleB_inv 0 b f2
  have hpos:1≤(settleB 0 b).waiting.length:=by have:=zo_len (settleB 0 b).waiting;omega
  obtain ⟨k,hk⟩:∃ k,(settleB 0 b).waiting.length=k+1:=⟨(settleB 0 b).waiting.length-1,by omega⟩
  have hz:(settleB 0 b).waiting.getD k 0=0:=settle_zero _ b rfl k hk
  obtain ⟨o1,o2⟩:=ops_last hk
  rw [hz,if_neg (by decide)] at o1
  rw [hz,if_pos rfl] at o2
  rw [hk,Nat.add_sub_cancel]
  refine ⟨?_,?_,?_,?_,?_⟩
  ·show zerosN ((settleB 0 b).waiting.take k)=_;omega
  ·show opsN ((settleB 0 b).waiting.take k)+_≤(settleB 0 b).ready.length;simp;omega
  ·show (settleB 0 b).nodes.length+opsN ((settleB 0 b).waiting.take k)≤_;omega
  ·show ((settleB 0 b).waiting.take k).length≤_;simp;omega
  ·show (settleB 0 b).ready.length≤_;omega
 | num _ t h1 h7 hd =>
  have h0:=hd 0 (by omega)
  unfold digB at h0
  simp at h0
  rw [take_is_opd (by omega)]
  exact fit_opd h1 hF
 | nam _ t h1 hl =>
  have h0:=hl 0 (by omega)
  unfold letB at h0
  simp at h0
  rw [take_is_opd (by omega)]
  exact fit_opd h1 hF
 | sgn _ t h1 hs =>
  obtain ⟨f1,f2,f3,f4,f5⟩:=hF
  simp at f2
  obtain ⟨i,hi⟩:∃ i,signI (byteN t 0)=i:=⟨_,rfl⟩
  have hc:=sign_cases hs
  have hT:takeB b t=⟨(settleB (bindN (3+i)) b).nodes,(settleB (bindN (3+i)) b).ready,(settleB (bindN (3+i)) b).waiting ++ [3+i]⟩:=by
   rw [takeB,if_neg (by omega),if_neg (by omega),if_pos hs,hi]
  rw [hT]
  obtain ⟨q1,q2,q3,q4,q5⟩:=settleB_inv (bindN (3+i)) b f2
  obtain ⟨s1,s2⟩:=ops_snoc (settleB (bindN (3+i)) b).waiting (3+i)
  rw [if_pos (by omega)] at s1
  rw [if_neg (by omega)] at s2
  generalize settleB (bindN (3+i)) b=b1 at *
  refine ⟨?_,?_,?_,?_,?_⟩
  ·show zerosN (b1.waiting ++ [3+i])=_;omega
  ·show opsN (b1.waiting ++ [3+i])+_≤b1.ready.length;simp;omega
  ·show b1.nodes.length+opsN (b1.waiting ++ [3+i])≤_;omega
  ·show (b1.waiting ++ [3+i]).length≤_;simp;omega
  ·show b1.ready.length≤_;omega
theorem take_any (N p a o o':Nat) (ph ph':Bool) (b:Bld) (t:ByteArray) (w:World) (hN:N≤w.heap.size) (hS:Stp o ph t o' ph') (hF:FitB a o ph b) (ha:a+t.size≤100) (hB:BldAt N p b w) :
  Calls Tryz.prog 152 #[.pointer (some ⟨p,0,none⟩),.string t] w fun e w'=>e=.returned (.tuple #[])∧BldAt N p (takeB b t) w'∧Kept N (fun k=>k=p) w w':=by
 obtain ⟨f1,f2,f3,f4,f5⟩:=hF
 cases hS with
 | opn o t h1 h40 =>
  have hT:takeB b t=⟨b.nodes,b.ready,b.waiting ++ [0]⟩:=by rw [takeB,if_pos h40]
  rw [hT]
  exact take_opn N p b t w hN h1 h40 (by omega) hB
 | cls _ t h1 h41 =>
  simp at f2
  have hT:takeB b t=⟨(settleB 0 b).nodes,(settleB 0 b).ready,(settleB 0 b).waiting.take ((settleB 0 b).waiting.length-1)⟩:=by rw [takeB,if_neg (by omega),if_pos h41]
  rw [hT]
  exact take_cls N p b t w hN h1 h41 (by omega) (by omega) f2 (by omega) (by omega) hB
 | num _ t h1 h7 hd =>
  have h0:=hd 0 (by omega)
  unfold digB at h0
  simp at h0
  rw [take_is_opd (by omega)]
  exact take_opd N p b t w hN h1 (by omega) (Or.inr ⟨h7,hd⟩) (by omega) (by omega) hB
 | nam _ t h1 hl =>
  have h0:=hl 0 (by omega)
  have h0':=h0
  unfold letB at h0
  simp at h0
  rw [take_is_opd (by omega)]
  exact take_opd N p b t w hN h1 (by omega) (Or.inl h0') (by omega) (by omega) hB
 | sgn _ t h1 hs =>
  simp at f2
  obtain ⟨i,hi⟩:∃ i,signI (byteN t 0)=i:=⟨_,rfl⟩
  have hc:=sign_cases hs
  have hT:takeB b t=⟨(settleB (bindN (3+i)) b).nodes,(settleB (bindN (3+i)) b).ready,(settleB (bindN (3+i)) b).waiting ++ [3+i]⟩:=by
   rw [takeB,if_neg (by omega),if_neg (by omega),if_pos hs,hi]
  rw [hT]
  exact take_sgn N p b t w hN h1 (byteN t 0) i rfl hi (by rw [hi] at hc;exact hc) (by omega) (by omega) f2 (by omega) hB
def tkB (N p:Nat):Tkr Bld:=⟨N,p,100,152,#[.pointer (some ⟨p,0,none⟩)],takeB,fun b w=>BldAt N p b w,FitB⟩
theorem tkB_ok (N p:Nat):(tkB N p).Ok:=by
 refine ⟨by show 100≤_;omega,?_,?_,?_,?_⟩
 ·intro args w;show (callFunc 152 args).run Tryz.prog w=_;simp [go_sem,tkB]
 ·rintro q st w w' hq hqp ⟨AN,cN,AR,cR,AW,cW,hV⟩ hg
  refine ⟨_,_,_,_,_,_,hV.stay fun k hk hkp=>hg.block k hk fun e=>?_⟩
  have e':k=q:=by simpa using e
  have hq':q<N:=hq
  have hqp':q≠p:=hqp
  omega
 ·intro a o ph st t o' ph' hS hF _
  exact fit_step hS hF
 ·intro a o ph st t o' ph' w hS hF ha hN hB
  exact take_any N p a o o' ph ph' st t w hN hS hF ha hB
def anyL (p:Int→Bool) (L:List Int):Bool:=L.any p
theorem any_find (p:Int→Bool) (L:List Int):decide (0≤findFrom (fun j=>p (L.getD j 0)) L.length 0)=anyL p L:=by
 unfold anyL
 rcases findFrom_cases (fun j=>p (L.getD j 0)) L.length 0 with ⟨h1,h2⟩ | ⟨m,h1,_,h3,h4,_⟩
 ·rw [h1,decide_eq_false (by omega)]
  symm
  rw [List.any_eq_false]
  intro x hx
  obtain ⟨i,hi,rfl⟩:=List.getElem_of_mem hx
  have:=h2 i (Nat.zero_le _) (by omega)
  simp only [List.getD,List.getElem?_eq_getElem hi,Option.getD_some] at this
  simp [this]
 ·rw [h1,decide_eq_true (by omega)]
  symm
  rw [List.any_eq_true]
  have hm:m<L.length:=by omega
  refine ⟨L[m],List.getElem_mem hm,?_⟩
  simpa only [List.getD,List.getElem?_eq_getElem hm,Option.getD_some] using h4
theorem anyof_any (F:Nat) (cap:Array Value) (p:Int→Bool) (hent:∀ (args:Array Value) (w:World),(callFunc F args).run Tryz.prog w=.ok (.enter F args) w) (A:Option Addr) (c:Nat) (L:List Int) (w:World) (hn:L.length≤200) (hL:IntsAt w A c L)
  (hF:∀ (x:Int) (w':World),Below w.heap.size w w'→Calls Tryz.prog F (#[.int .i64 x] ++ cap) w' fun e w''=>e=.returned (.bool (p x))∧Below w'.heap.size w' w'') :
  Calls Tryz.prog 117 #[.slice A L.length c,.func (.func F) #[] cap] w fun e w'=>e=.returned (.bool (anyL p L))∧Below w.heap.size w w':=by
 have h2:=contm_pl F cap p hent A c L w (by omega) (pl_ints hL) fun x w' _=>hF x w'
 rw [←any_find]
 generalize findFrom (fun j=>p (L.getD j 0)) L.length 0=r at *
 clear hF hL
 go_enter Tryz.func117,Tryz.ntmps117
 go_wp2_with fail
 refine h2.mono ?_
 rintro e w1 ⟨rfl,hb1⟩
 go_wp2_with fail
 go_ret
 exact ⟨rfl,hb1⟩
def outI (i:Nat) (k:Int):Bool:=decide (k<0) || decide ((i:Int)≤k)
theorem node1_any (i q:Nat) (k:Int) (w:World) (h:w.cell? ⟨q,0,none⟩=some (.int .i64 i)):Calls Tryz.prog 159 #[.int .i64 k,.pointer (some ⟨q,0,none⟩)] w fun e w'=>e=.returned (.bool (outI i k))∧Below w.heap.size w w':=by
 unfold outI
 by_cases h1:k<0
 ·go_enter Tryz.func159,Tryz.ntmps159
  go_wp2
  go_ret
  exact ⟨by simp <;> omega,by go_grown⟩
 ·go_enter Tryz.func159,Tryz.ntmps159
  go_wp2
  go_ret
  exact ⟨by simp <;> omega,by go_grown⟩
theorem fcheck1_any (k:Int) (w:World):Calls Tryz.prog 119 #[.int .i64 k] w fun e w'=>e=.returned (.bool (decide (k≠1)))∧Below w.heap.size w w':=by
 go_enter Tryz.func119,Tryz.ntmps119
 go_wp2
 go_ret
 exact ⟨by by_cases h:k=1 <;> simp [h],by go_grown⟩
theorem toL_nil (t:ByteArray):t.toList=[]↔t.size=0:=by
 have h:=empty_same (s:=t)
 rw [←List.isEmpty_iff,h,decide_eq_true_eq]
section
variable {n op:Int} {nm:ByteArray} {l r:Int} {i:Nat}
theorem nd1 (h1:0≤n) (h2:n≤1000000):ndErr ⟨1,n,nm,l,r⟩ i=if nm.toList=[]∧l=0∧r=0 then 0 else 3:=by
 simp only [ndErr,toL_nil]
 rw [if_neg (by omega),if_pos trivial,if_neg (by omega)]
 by_cases h:nm.size=0∧l=0∧r=0
 ·rw [if_pos h,if_neg (by omega)]
 ·rw [if_neg h,if_pos (by omega)]
theorem nd2 (h:nameErr nm=0):ndErr ⟨2,n,nm,l,r⟩ i=if n=0∧l=0∧r=0 then 0 else 3:=by
 simp only [ndErr]
 rw [if_neg (by omega),if_neg (by omega),if_pos trivial,if_neg (by simpa using h)]
 by_cases h:n=0∧l=0∧r=0
 ·rw [if_pos h,if_neg (by omega)]
 ·rw [if_neg h,if_pos (by omega)]
theorem nd3 (h0:3≤op) (h1:op≤6) (h2:anyL (outI i) [l,r]=false):ndErr ⟨op,n,nm,l,r⟩ i=if n=0∧nm.toList=[] then 0 else 3:=by
 simp [anyL,outI] at h2
 simp only [ndErr,toL_nil]
 rw [if_neg (by omega),if_neg (by omega),if_neg (by omega),if_neg (by omega)]
 by_cases h:n=0∧nm.size=0
 ·rw [if_pos h,if_neg (by omega)]
 ·rw [if_neg h,if_pos (by omega)]
theorem nd3b (h0:3≤op) (h1:op≤6) (h2:anyL (outI i) [l,r]=true):ndErr ⟨op,n,nm,l,r⟩ i=1:=by
 simp [anyL,outI] at h2
 simp only [ndErr]
 rw [if_neg (by omega),if_neg (by omega),if_neg (by omega),if_pos (by omega)]
end
def nodeW (w:World) (op n:Int) (nm:ByteArray) (l r:Int) (i:Nat):World:=((w.alloc (.cells #[.int .i64 op,.int .i64 n,.string nm,.int .i64 l,.int .i64 r] 180)).alloc (.cells #[.int .i64 i] 3)).alloc (.cells #[.int .i64 op,.int .i64 0,.string ⟨#[]⟩,.int .i64 0,.int .i64 0] 180)
theorem nodeW_size (w:World) (op n:Int) (nm:ByteArray) (l r:Int) (i:Nat):(nodeW w op n nm l r i).heap.size=w.heap.size+3:=by unfold nodeW;simp
theorem nodeW_below (w:World) (op n:Int) (nm:ByteArray) (l r:Int) (i:Nat):Below w.heap.size w (nodeW w op n nm l r i):=by unfold nodeW;go_grown
theorem nodeW_at (w:World) (op n:Int) (nm:ByteArray) (l r:Int) (i:Nat):(nodeW w op n nm l r i).heap[w.heap.size]?=some (.cells #[.int .i64 op,.int .i64 n,.string nm,.int .i64 l,.int .i64 r] 180 (0,0))∧(nodeW w op n nm l r i).heap[w.heap.size+1]?=some (.cells #[.int .i64 i] 3 (0,0))∧(nodeW w op n nm l r i).heap[w.heap.size+1+1]?=some (.cells #[.int .i64 op,.int .i64 0,.string ⟨#[]⟩,.int .i64 0,.int .i64 0] 180 (0,0)):=by
 unfold nodeW
 refine ⟨?_,?_,?_⟩
 ·rw [heap_alloc_old _ _ (by simp;omega)];exact topF0 w _ _
 ·rw [heap_alloc_old _ _ (by simp)];exact topF1 w _ _
 ·have h:=heap_alloc_new ((w.alloc (.cells #[.int .i64 op,.int .i64 n,.string nm,.int .i64 l,.int .i64 r] 180)).alloc (.cells #[.int .i64 i] 3)) (.cells #[.int .i64 op,.int .i64 0,.string ⟨#[]⟩,.int .i64 0,.int .i64 0] 180)
  simpa using h
theorem nodeW_cells {w w1:World} {op n:Int} {nm:ByteArray} {l r:Int} {i:Nat} (hb:Below (nodeW w op n nm l r i).heap.size (nodeW w op n nm l r i) w1) :
  Below w.heap.size w w1∧(w1.cell? ⟨w.heap.size,0,none⟩=some (.int .i64 op)∧w1.cell? ⟨w.heap.size,1,none⟩=some (.int .i64 n)∧w1.cell? ⟨w.heap.size,2,none⟩=some (.string nm)∧w1.cell? ⟨w.heap.size,3,none⟩=some (.int .i64 l)∧w1.cell? ⟨w.heap.size,4,none⟩=some (.int .i64 r))∧w1.cell? ⟨w.heap.size+1,0,none⟩=some (.int .i64 i) ∧
  (w1.cell? ⟨w.heap.size+1+1,0,none⟩=some (.int .i64 op)∧w1.cell? ⟨w.heap.size+1+1,1,none⟩=some (.int .i64 0)∧w1.cell? ⟨w.heap.size+1+1,2,none⟩=some (.string ⟨#[]⟩)∧w1.cell? ⟨w.heap.size+1+1,3,none⟩=some (.int .i64 0)∧w1.cell? ⟨w.heap.size+1+1,4,none⟩=some (.int .i64 0))∧∀ j,w1.frozen? ⟨w.heap.size+1+1,j,none⟩=false:=by
 obtain ⟨a1,a2,a3⟩:=nodeW_at w op n nm l r i
 have hz:=nodeW_size w op n nm l r i
 have b1:=(hb.block w.heap.size (by omega)).trans a1
 have b2:=(hb.block (w.heap.size+1) (by omega)).trans a2
 have b3:=(hb.block (w.heap.size+1+1) (by omega)).trans a3
 refine ⟨onB (nodeW_below ..) hb,⟨?_,?_,?_,?_,?_⟩,?_,⟨?_,?_,?_,?_,?_⟩,fun j=>?_⟩ <;> simp [World.cell?,World.frozen?,b1,b2,b3]
set_option maxHeartbeats 1000000 in
theorem node_num (x:Nd) (i:Nat) (w:World) (h1:x.op=1):Calls Tryz.prog 116 #[ndV x,.int .i64 i] w fun e w'=>e=.returned (errV (ndErr x i))∧Below w.heap.size w w':=by
 obtain ⟨op,n,name,left,right⟩:=x
 simp only at h1
 subst h1
 rw [ndV_def]
 by_cases hn:n<0
 ·have hE:ndErr ⟨1,n,name,left,right⟩ i=1:=by simp [ndErr,hn]
  rw [hE,errV_some (by decide)]
  go_enter Tryz.func116,Tryz.ntmps116
  go_wp2
  go_ret
  exact ⟨rfl,by go_grown⟩
 by_cases hn2:1000000<n
 ·have hE:ndErr ⟨1,n,name,left,right⟩ i=1:=by simp [ndErr,hn2]
  rw [hE,errV_some (by decide)]
  go_enter Tryz.func116,Tryz.ntmps116
  go_wp2
  go_ret
  exact ⟨rfl,by go_grown⟩
 ·rw [nd1 (by omega) (by omega)]
  go_enter Tryz.func116,Tryz.ntmps116
  go_wp2
  all_goals (go_ret;refine ⟨?_,by go_grown⟩;first | rfl | (rw [if_pos (by simp_all)];rfl) | (rw [if_neg (by simp_all)];rfl) | (exfalso;simp_all;done))
set_option maxHeartbeats 1000000 in
theorem node_ref (x:Nd) (i:Nat) (w:World) (h1:x.op=2):Calls Tryz.prog 116 #[ndV x,.int .i64 i] w fun e w'=>e=.returned (errV (ndErr x i))∧Below w.heap.size w w':=by
 obtain ⟨op,n,name,left,right⟩:=x
 simp only at h1
 subst h1
 rw [ndV_def]
 have hnm:=name_any name
 by_cases hE:nameErr name=0
 ·rw [nd2 hE]
  rw [hE,errV_zero] at hnm
  clear hE
  go_enter Tryz.func116,Tryz.ntmps116
  go_wp2_with fail
  refine (hnm _).mono ?_
  rintro e w1 ⟨rfl,hb1⟩
  obtain ⟨hB,⟨x0,x1,x2,x3,x4⟩,-,⟨z0,z1,z2,z3,z4⟩,hf⟩:=nodeW_cells (w:=w) (op:=2) (n:=n) (nm:=name) (l:=left) (r:=right) (i:=i) hb1
  have y2:=hf 2
  have HB:Hid (Below w.heap.size w w1):=hB
  clear hb1 hB hf
  go_wp2_with fail
  all_goals (go_ret;refine ⟨?_,HB.out.setCell (by simp;omega) _⟩;first | rfl | (rw [if_pos (by simp_all)];rfl) | (rw [if_neg (by simp_all)];rfl) | (exfalso;simp_all;done))
 ·have h2:nameErr name=2:=nameErr_two hE
  have hN:ndErr ⟨2,n,name,left,right⟩ i=2:=by
   simp only [ndErr]
   rw [if_neg (by omega),if_neg (by omega),if_pos trivial,if_pos (by omega)]
  rw [hN,errV_some (by decide)]
  rw [h2,errV_some (by decide)] at hnm
  clear hE h2 hN
  go_enter Tryz.func116,Tryz.ntmps116
  go_wp2_with fail
  refine (hnm _).mono ?_
  rintro e w1 ⟨rfl,hb1⟩
  have hB:Below w.heap.size w w1:=onB (by go_grown) hb1
  clear hb1
  go_wp2_with fail
  go_ret
  exact ⟨rfl,hB⟩
theorem ent_node1 (args:Array Value) (w:World):(callFunc 159 args).run Tryz.prog w=.ok (.enter 159 args) w:=by simp [go_sem]
theorem ent_check1 (args:Array Value) (w:World):(callFunc 119 args).run Tryz.prog w=.ok (.enter 119 args) w:=by simp [go_sem]
theorem sides_any (w:World) (op n:Int) (nm:ByteArray) (l r:Int) (i:Nat):Calls Tryz.prog 117 #[.slice (some ⟨w.heap.size+1+1+1,0,none⟩) 2 2,.func (.func 159) #[] #[.pointer (some ⟨w.heap.size+1,0,none⟩)]] ((nodeW w op n nm l r i).alloc (.cells #[.int .i64 l,.int .i64 r] 3)) fun e w'=>e=.returned (.bool (anyL (outI i) [l,r]))∧Below ((nodeW w op n nm l r i).alloc (.cells #[.int .i64 l,.int .i64 r] 3)).heap.size ((nodeW w op n nm l r i).alloc (.cells #[.int .i64 l,.int .i64 r] 3)) w':=by
 have hz:=nodeW_size w op n nm l r i
 have hnew:=heap_alloc_new (nodeW w op n nm l r i) (.cells #[.int .i64 l,.int .i64 r] 3)
 rw [hz] at hnew
 refine anyof_any 159 #[.pointer (some ⟨w.heap.size+1,0,none⟩)] (outI i) ent_node1 (some ⟨w.heap.size+1+1+1,0,none⟩) 2 [l,r] _ (by simp) ⟨by simp,Or.inr ⟨_,rfl,by simp [hz],?_⟩⟩ ?_
 ·intro j hj
  match j,hj with
  | 0,_=>simp [World.cell?,hnew]
  | 1,_=>simp [World.cell?,hnew]
 ·intro x w' hb
  have h2:=(nodeW_at w op n nm l r i).2.1
  have h3:w'.heap[w.heap.size+1]?=some (.cells #[.int .i64 i] 3 (0,0)):=by
   rw [hb.block _ (by simp [hz]),heap_alloc_old _ _ (by rw [hz];omega)]
   exact h2
  exact node1_any i (w.heap.size+1) x w' (by simp [World.cell?,h3])
set_option maxHeartbeats 2000000 in
theorem node_op (x:Nd) (i:Nat) (w:World) (h1:3≤x.op) (h2:x.op≤6):Calls Tryz.prog 116 #[ndV x,.int .i64 i] w fun e w'=>e=.returned (errV (ndErr x i))∧Below w.heap.size w w':=by
 obtain ⟨op,n,name,left,right⟩:=x
 simp only at h1 h2
 rw [ndV_def]
 have hsd:=sides_any w op n name left right i
 have hmf:∀ (fn:Fn) (first cap:Array Value) (w:World),(Instr.makeFunc fn first cap).run Tryz.prog w=.ok (.func fn first cap) w:=fun _ _ _ _=>rfl
 have HW:Hid (Below (nodeW w op n name left right i).heap.size (nodeW w op n name left right i) ((nodeW w op n name left right i).alloc (.cells #[.int .i64 left,.int .i64 right] 3))):=(Below.refl _ _).alloc (Nat.le_refl _) _
 have hc:op=3∨op=4∨op=5∨op=6:=by omega
 cases ha:anyL (outI i) [left,right]
 ·rw [nd3 h1 h2 ha]
  rw [ha] at hsd
  clear ha
  unfold nodeW at hsd
  rcases hc with rfl | rfl | rfl | rfl
  all_goals
   go_enter Tryz.func116,Tryz.ntmps116
   go_wp2_with fail
   refine hsd.mono ?_
   rintro e w1 ⟨rfl,hb1⟩
   obtain ⟨hB,⟨x0,x1,x2,x3,x4⟩,-,⟨z0,z1,z2,z3,z4⟩,hf⟩:=nodeW_cells (onB HW.out hb1)
   have y3:=hf 3
   have y4:=hf 4
   have HB:Hid (Below w.heap.size w w1):=hB
   clear hb1 hB hf hsd
   go_wp2_with fail
   go_region
   all_goals go_wp2_with fail
   all_goals (go_ret;refine ⟨?_,by first | exact ((HB.out.setCell (by simp;omega) _).setCell (by simp;omega) _).drew | exact ((HB.out.drew.setCell (by simp;omega) _).setCell (by simp;omega) _)⟩;first | rfl | (rw [if_pos (by simp_all)];rfl) | (rw [if_neg (by simp_all)];rfl) | (exfalso;simp_all;done))
 ·rw [nd3b h1 h2 ha,errV_some (by decide)]
  rw [ha] at hsd
  clear ha
  unfold nodeW at hsd
  rcases hc with rfl | rfl | rfl | rfl
  all_goals
   go_enter Tryz.func116,Tryz.ntmps116
   go_wp2_with fail
   refine hsd.mono ?_
   rintro e w1 ⟨rfl,hb1⟩
   have HB:Hid (Below w.heap.size w w1):=onB (by go_grown) hb1
   clear hb1 hsd
   go_wp2_with fail
   go_ret
   exact ⟨rfl,HB.out⟩
set_option maxHeartbeats 1000000 in
theorem node_bad (x:Nd) (i:Nat) (w:World) (h1:x.op<1∨6<x.op):Calls Tryz.prog 116 #[ndV x,.int .i64 i] w fun e w'=>e=.returned (errV (ndErr x i))∧Below w.heap.size w w':=by
 have hE:ndErr x i=1:=by unfold ndErr;rw [if_pos h1]
 rw [hE,errV_some (by decide)]
 obtain ⟨op,n,name,left,right⟩:=x
 simp only at h1
 rw [ndV_def]
 have e1:(op == 1)=false:=by apply Bool.eq_false_iff.2;intro e;rw [beq_iff_eq] at e;omega
 have e2:(op == 2)=false:=by apply Bool.eq_false_iff.2;intro e;rw [beq_iff_eq] at e;omega
 have e3:(op == 3)=false:=by apply Bool.eq_false_iff.2;intro e;rw [beq_iff_eq] at e;omega
 have e4:(op == 4)=false:=by apply Bool.eq_false_iff.2;intro e;rw [beq_iff_eq] at e;omega
 have e5:(op == 5)=false:=by apply Bool.eq_false_iff.2;intro e;rw [beq_iff_eq] at e;omega
 have e6:(op == 6)=false:=by apply Bool.eq_false_iff.2;intro e;rw [beq_iff_eq] at e;omega
 clear h1 hE
 go_enter Tryz.func116,Tryz.ntmps116
 go_wp2_with fail
 go_ret
 exact ⟨rfl,by go_grown⟩
theorem node_any (x:Nd) (i:Nat) (w:World):Calls Tryz.prog 116 #[ndV x,.int .i64 i] w fun e w'=>e=.returned (errV (ndErr x i))∧Below w.heap.size w w':=by
 by_cases h1:x.op=1
 ·exact node_num x i w h1
 by_cases h2:x.op=2
 ·exact node_ref x i w h2
 by_cases h3:3≤x.op∧x.op≤6
 ·exact node_op x i w h3.1 h3.2
 ·exact node_bad x i w (by omega)
end Go.Proofs.YtnlfpaopfloklaaGreatDoor
