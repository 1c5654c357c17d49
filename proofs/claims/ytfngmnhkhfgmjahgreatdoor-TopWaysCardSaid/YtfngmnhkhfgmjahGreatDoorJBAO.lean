/-
  Who takes the words of a text: a builder, or nobody; what becomes of a builder word by word.
-/
import Derived.Lib.SliceRun
import Derived.Shelf.Spec.SlicesInsertGrow
import Derived.Test.YtfngmnhkhfgmjahGreatDoorJBAK
import Derived.Test.YtfngmnhkhfgmjahGreatDoorJBAN
namespace Go.Proofs.YtfngmnhkhfgmjahGreatDoor
open Go.ChangeShapes Go.WideShapes Go.ChangeAt Go.RowKit
set_option maxRecDepth 20000
theorem ops_snoc (l:List Int) (x:Int):opsN (l ++ [x])=opsN l+(if x≠0 then 1 else 0)∧zerosN (l ++ [x])=zerosN l+(if x=0 then 1 else 0):=by
 unfold opsN zerosN
 rw [List.countP_append,List.countP_append]
 by_cases e:x=0 <;> simp [e]
theorem take_is_opd {b:Bld} {t:ByteArray} (h:48≤byteN t 0):takeB b t=addB (opndN t) b:=by
 have hs : ¬ 0≤signI (byteN t 0):=by
  unfold signI
  rw [if_neg (by omega),if_neg (by omega),if_neg (by omega),if_neg (by omega)]
  omega
 rw [takeB,if_neg (by omega),if_neg (by omega),if_neg hs]
theorem fit_opd {a o n:Nat} {b:Bld} {x:Nd} (hn:1≤n) (hF:FitB a o false b):FitB (a+n) o true (addB x b):=by
 obtain ⟨f1,f2,f3,f4,f5⟩:=hF
 refine ⟨f1,?_,?_,?_,?_⟩
 ·simp [addB] at f2 ⊢;omega
 ·simp [addB];omega
 ·simp [addB];omega
 ·simp [addB];omega
theorem fit_step {a o o':Nat} {ph ph':Bool} {b:Bld} {t:ByteArray} (hS:Stp o ph t o' ph') (hF:FitB a o ph b):FitB (a+t.size) o' ph' (takeB b t):=by
 cases hS with
 | opn o t h1 h40 =>
  obtain ⟨f1,f2,f3,f4,f5⟩:=hF
  have hT:takeB b t=⟨b.nodes,b.ready,b.waiting ++ [0]⟩:=by rw [takeB,if_pos h40]
  rw [hT]
  obtain ⟨s1,s2⟩:=ops_snoc b.waiting 0
  rw [if_neg (by decide)] at s1
  rw [if_pos rfl] at s2
  simp at f2
  refine ⟨?_,?_,?_,?_,?_⟩
  ·show zerosN (b.waiting ++ [0])=_;omega
  ·show opsN (b.waiting ++ [0])+_≤b.ready.length;simp;omega
  ·show b.nodes.length+opsN (b.waiting ++ [0])≤_;omega
  ·show (b.waiting ++ [0]).length≤_;simp;omega
  ·show b.ready.length≤_;omega
 | cls _ t h1 h41 =>
  obtain ⟨f1,f2,f3,f4,f5⟩:=hF
  simp at f2
  have hT:takeB b t=⟨(settleB 0 b).nodes,(settleB 0 b).ready,(settleB 0 b).waiting.take ((settleB 0 b).waiting.length-1)⟩:=by rw [takeB,if_neg (by omega),if_pos h41]
  rw [hT]
  obtain ⟨q1,q2,q3,q4,q5⟩:=settleB_inv 0 b f2
  have hpos:1≤(settleB 0 b).waiting.length:=by have:=zo_len (settleB 0 b).waiting;omega
  obtain ⟨k,hk⟩:∃ k,(settleB 0 b).waiting.length=k+1:=⟨(settleB 0 b).waiting.length-1,by omega⟩
  have hz:(settleB 0 b).waiting.getD k 0=0:=settle_zero _ b rfl k hk
  obtain ⟨o1,o2⟩:=ops_last hk
  rw [hz,if_neg (by decide)] at o1
  rw [hz,if_pos rfl] at o2
  rw [hk,Nat.add_sub_cancel]
  refine ⟨?_,?_,?_,?_,?_⟩
  ·show zerosN ((settleB 0 b).waiting.take k)=_;omega
  ·show opsN ((settleB 0 b).waiting.take k)+_≤(settleB 0 b).ready.length;simp;omega
  ·show (settleB 0 b).nodes.length+opsN ((settleB 0 b).waiting.take k)≤_;omega
  ·show ((settleB 0 b).waiting.take k).length≤_;simp;omega
  ·show (settleB 0 b).ready.length≤_;omega
 | num _ t h1 h7 hd =>
  have h0:=hd 0 (by omega)
  unfold digB at h0
  simp at h0
  rw [take_is_opd (by omega)]
  exact fit_opd h1 hF
 | nam _ t h1 hl =>
  have h0:=hl 0 (by omega)
  unfold letB at h0
  simp at h0
  rw [take_is_opd (by omega)]
  exact fit_opd h1 hF
 | sgn _ t h1 hs =>
  obtain ⟨f1,f2,f3,f4,f5⟩:=hF
  simp at f2
  obtain ⟨i,hi⟩:∃ i,signI (byteN t 0)=i:=⟨_,rfl⟩
  have hc:=sign_cases hs
  have hT:takeB b t=⟨(settleB (bindN (3+i)) b).nodes,(settleB (bindN (3+i)) b).ready,(settleB (bindN (3+i)) b).waiting ++ [3+i]⟩:=by
   rw [takeB,if_neg (by omega),if_neg (by omega),if_pos hs,hi]
  rw [hT]
  obtain ⟨q1,q2,q3,q4,q5⟩:=settleB_inv (bindN (3+i)) b f2
  obtain ⟨s1,s2⟩:=ops_snoc (settleB (bindN (3+i)) b).waiting (3+i)
  rw [if_pos (by omega)] at s1
  rw [if_neg (by omega)] at s2
  generalize settleB (bindN (3+i)) b=b1 at *
  refine ⟨?_,?_,?_,?_,?_⟩
  ·show zerosN (b1.waiting ++ [3+i])=_;omega
  ·show opsN (b1.waiting ++ [3+i])+_≤b1.ready.length;simp;omega
  ·show b1.nodes.length+opsN (b1.waiting ++ [3+i])≤_;omega
  ·show (b1.waiting ++ [3+i]).length≤_;simp;omega
  ·show b1.ready.length≤_;omega
theorem take_any (N p a o o':Nat) (ph ph':Bool) (b:Bld) (t:ByteArray) (w:World) (hN:N≤w.heap.size) (hS:Stp o ph t o' ph') (hF:FitB a o ph b) (ha:a+t.size≤100) (hB:BldAt N p b w) :
  Calls Tryz.prog 237 #[.pointer (some ⟨p,0,none⟩),.string t] w fun e w'=>e=.returned (.tuple #[])∧BldAt N p (takeB b t) w'∧Kept N (fun k=>k=p) w w':=by
 obtain ⟨f1,f2,f3,f4,f5⟩:=hF
 cases hS with
 | opn o t h1 h40 =>
  have hT:takeB b t=⟨b.nodes,b.ready,b.waiting ++ [0]⟩:=by rw [takeB,if_pos h40]
  rw [hT]
  exact take_opn N p b t w hN h1 h40 (by omega) hB
 | cls _ t h1 h41 =>
  simp at f2
  have hT:takeB b t=⟨(settleB 0 b).nodes,(settleB 0 b).ready,(settleB 0 b).waiting.take ((settleB 0 b).waiting.length-1)⟩:=by rw [takeB,if_neg (by omega),if_pos h41]
  rw [hT]
  exact take_cls N p b t w hN h1 h41 (by omega) (by omega) f2 (by omega) (by omega) hB
 | num _ t h1 h7 hd =>
  have h0:=hd 0 (by omega)
  unfold digB at h0
  simp at h0
  rw [take_is_opd (by omega)]
  exact take_opd N p b t w hN h1 (by omega) (Or.inr ⟨h7,hd⟩) (by omega) (by omega) hB
 | nam _ t h1 hl =>
  have h0:=hl 0 (by omega)
  have h0':=h0
  unfold letB at h0
  simp at h0
  rw [take_is_opd (by omega)]
  exact take_opd N p b t w hN h1 (by omega) (Or.inl h0') (by omega) (by omega) hB
 | sgn _ t h1 hs =>
  simp at f2
  obtain ⟨i,hi⟩:∃ i,signI (byteN t 0)=i:=⟨_,rfl⟩
  have hc:=sign_cases hs
  have hT:takeB b t=⟨(settleB (bindN (3+i)) b).nodes,(settleB (bindN (3+i)) b).ready,(settleB (bindN (3+i)) b).waiting ++ [3+i]⟩:=by
   rw [takeB,if_neg (by omega),if_neg (by omega),if_pos hs,hi]
  rw [hT]
  exact take_sgn N p b t w hN h1 (byteN t 0) i rfl hi (by rw [hi] at hc;exact hc) (by omega) (by omega) f2 (by omega) hB
def tkB (N p:Nat):Tkr Bld:=⟨N,p,100,237,#[.pointer (some ⟨p,0,none⟩)],takeB,fun b w=>BldAt N p b w,FitB⟩
theorem tkB_ok (N p:Nat):(tkB N p).Ok:=by
 refine ⟨by show 100≤_;omega,?_,?_,?_,?_⟩
 ·intro args w;show (callFunc 237 args).run Tryz.prog w=_;simp [go_sem,tkB]
 ·rintro q st w w' hq hqp ⟨AN,cN,AR,cR,AW,cW,hV⟩ hg
  refine ⟨_,_,_,_,_,_,hV.stay fun k hk hkp=>hg.block k hk fun e=>?_⟩
  have e':k=q:=by simpa using e
  have hq':q<N:=hq
  have hqp':q≠p:=hqp
  omega
 ·intro a o ph st t o' ph' hS hF _
  exact fit_step hS hF
 ·intro a o ph st t o' ph' w hS hF ha hN hB
  exact take_any N p a o o' ph ph' st t w hN hS hF ha hB
def tkN (N p:Nat):Tkr Unit:=⟨N,p,4611686018427387904,238,#[],fun _ _=>(),fun _ _=>True,fun _ _ _ _=>True⟩
theorem noop_any (t:ByteArray) (w:World):Calls Tryz.prog 238 #[.string t] w fun e w'=>e=.returned (.tuple #[])∧Below w.heap.size w w':=by
 go_enter Tryz.func238,Tryz.ntmps238
 go_wp2
 go_end0
 exact ⟨rfl,Below.refl _ _⟩
theorem tkN_ok (N p:Nat):(tkN N p).Ok:=by
 refine ⟨Nat.le_refl _,?_,?_,?_,?_⟩
 ·intro args w;show (callFunc 238 args).run Tryz.prog w=_;simp [go_sem,tkN]
 ·intros;trivial
 ·intros;trivial
 ·intro a o ph st t o' ph' w hS hF ha hN hB
  exact (noop_any t w).mono fun e w' ⟨h1,h2⟩=>⟨h1,trivial,kept_below h2 hN⟩
def anyL (p:Int→Bool) (L:List Int):Bool:=L.any p
theorem any_find (p:Int→Bool) (L:List Int):decide (0≤findFrom (fun j=>p (L.getD j 0)) L.length 0)=anyL p L:=by
 unfold anyL
 rcases findFrom_cases (fun j=>p (L.getD j 0)) L.length 0 with ⟨h1,h2⟩ | ⟨m,h1,_,h3,h4,_⟩
 ·rw [h1,decide_eq_false (by omega)]
  symm
  rw [List.any_eq_false]
  intro x hx
  obtain ⟨i,hi,rfl⟩:=List.getElem_of_mem hx
  have:=h2 i (Nat.zero_le _) (by omega)
  simp only [List.getD,List.getElem?_eq_getElem hi,Option.getD_some] at this
  simp [this]
 ·rw [h1,decide_eq_true (by omega)]
  symm
  rw [List.any_eq_true]
  have hm:m<L.length:=by omega
  refine ⟨L[m],List.getElem_mem hm,?_⟩
  simpa only [List.getD,List.getElem?_eq_getElem hm,Option.getD_some] using h4
set_option maxHeartbeats 1000000 in
theorem indexi_any (F:Nat) (cap:Array Value) (p:Int→Bool) (hent:∀ (args:Array Value) (w:World),(callFunc F args).run Tryz.prog w=.ok (.enter F args) w) (A:Option Addr) (c:Nat) (L:List Int) (w:World) (hn:L.length≤200) (hL:IntsAt w A c L)
  (hF:∀ (x:Int) (w':World),Below w.heap.size w w'→Calls Tryz.prog F (#[.int .i64 x] ++ cap) w' fun e w''=>e=.returned (.bool (p x))∧Below w'.heap.size w' w'') :
  Calls Tryz.prog 156 #[.slice A L.length c,.func (.func F) #[] cap] w fun e w'=>e=.returned (.int .i64 (findFrom (fun j=>p (L.getD j 0)) L.length 0))∧Below w.heap.size w w':=by
 obtain ⟨hc,h0 | ⟨b,rfl,hbw,hcell⟩⟩:=hL
 ·subst h0
  simp only [List.length_nil]
  go_enter Tryz.func156,Tryz.ntmps156
  go_wp2_with fail
  refine wp_loop_rounds 1 ?_
  rw [rounds_succ]
  go_wp2_with fail
  go_ret
  exact ⟨rfl,Below.refl _ _⟩
 ·have HC:Hid (∀ j,j<L.length→w.cell? ⟨b,j,none⟩=some (.int .i64 (L.getD j 0))):=hcell
  have HF:Hid (∀ (x:Int) (w':World),Below w.heap.size w w'→Calls Tryz.prog F (#[.int .i64 x] ++ cap) w' fun e w''=>e=.returned (.bool (p x))∧Below w'.heap.size w' w''):=hF
  obtain ⟨pj,hpj⟩:∃ pj:Nat→Bool,pj=fun j=>p (L.getD j 0):=⟨_,rfl⟩
  have HP:Hid (∀ j,pj j=p (L.getD j 0)):=fun j=>by rw [hpj]
  rw [←hpj]
  generalize hnn:L.length=n at hn hc HC
  clear hcell hpj hnn hF
  go_enter Tryz.func156,Tryz.ntmps156
  go_wp2_with fail
  go_loopg [8] n (fun g s8 wr => ∃ (k:Nat),k≤n∧g=n-k∧s8=.int .i64 k∧findFrom pj (n-k) k=findFrom pj n 0∧Below w.heap.size w wr)
  case atStart=>exact ⟨0,Nat.zero_le _,rfl,rfl,rfl,Below.refl _ _⟩
  case round =>
   obtain ⟨k,hk,rfl,rfl,hf,hBw⟩:=hrel
   have HQ:Hid (findFrom pj (n-k) k=findFrom pj n 0):=hf
   have HW:Hid (Below w.heap.size w wr):=hBw
   clear hf
   by_cases hlt:k<n
   ·have hki:(k:Int)<(n:Int):=by omega
    have hcx:=(hBw.cell (p:=⟨b,k,none⟩) hbw).trans (HC.out k hlt)
    have hn':(n:Int)≤200:=by omega
    have hpk:=HP.out k
    have HSK:Hid (n-k=(n-(k+1))+1):=by show _=_;omega
    have hbd:=HF.out (L.getD k 0) wr hBw
    rw [←hpk] at hbd
    generalize L.getD k 0=x at hcx hpk hbd
    clear hBw hpk
    cases hb:pj k
    ·rw [hb] at hbd
     have HK:Hid (pj k=false):=hb
     clear hb
     go_wp2_with fail
     refine hbd.mono ?_
     rintro e w1 ⟨rfl,hb1⟩
     go_wp2_with fail
     go_roundg (n-(k+1))
     case measure=>omega
     case rel=>exact ⟨k+1,by omega,rfl,by go_num,by rw [←HQ.out,HSK.out,findFrom_miss _ HK.out],onB HW.out hb1⟩
    ·rw [hb] at hbd
     have HK:Hid (pj k=true):=hb
     clear hb
     go_wp2_with fail
     refine hbd.mono ?_
     rintro e w1 ⟨rfl,hb1⟩
     go_wp2_with fail
     go_ret
     exact ⟨by rw [←HQ.out,HSK.out,findFrom_hit _ HK.out];rfl,onB HW.out hb1⟩
   ·have hke:k=n:=by omega
    subst hke
    go_wp2_with fail
    go_ret
    exact ⟨by rw [←HQ.out,Nat.sub_self];rfl,HW.out⟩
theorem anyof_any (F:Nat) (cap:Array Value) (p:Int→Bool) (hent:∀ (args:Array Value) (w:World),(callFunc F args).run Tryz.prog w=.ok (.enter F args) w) (A:Option Addr) (c:Nat) (L:List Int) (w:World) (hn:L.length≤200) (hL:IntsAt w A c L)
  (hF:∀ (x:Int) (w':World),Below w.heap.size w w'→Calls Tryz.prog F (#[.int .i64 x] ++ cap) w' fun e w''=>e=.returned (.bool (p x))∧Below w'.heap.size w' w'') :
  Calls Tryz.prog 222 #[.slice A L.length c,.func (.func F) #[] cap] w fun e w'=>e=.returned (.bool (anyL p L))∧Below w.heap.size w w':=by
 have h:=indexi_any F cap p hent A c L w hn hL hF
 rw [←any_find]
 generalize findFrom (fun j=>p (L.getD j 0)) L.length 0=r at *
 have h2:Calls Tryz.prog 108 #[.slice A L.length c,.func (.func F) #[] cap] w fun e w'=>e=.returned (.bool (decide (0≤r)))∧Below w.heap.size w w':=by
  clear hF hL
  go_enter Tryz.func108,Tryz.ntmps108
  go_wp2_with fail
  refine h.mono ?_
  rintro e w1 ⟨rfl,hb1⟩
  go_wp2_with fail
  go_ret
  exact ⟨rfl,hb1⟩
 clear hF hL h
 go_enter Tryz.func222,Tryz.ntmps222
 go_wp2_with fail
 refine h2.mono ?_
 rintro e w1 ⟨rfl,hb1⟩
 go_wp2_with fail
 go_ret
 exact ⟨rfl,hb1⟩
def outI (i:Nat) (k:Int):Bool:=decide (k<0) || decide ((i:Int)≤k)
theorem node1_any (i q:Nat) (k:Int) (w:World) (h:w.cell? ⟨q,0,none⟩=some (.int .i64 i)):Calls Tryz.prog 253 #[.int .i64 k,.pointer (some ⟨q,0,none⟩)] w fun e w'=>e=.returned (.bool (outI i k))∧Below w.heap.size w w':=by
 unfold outI
 by_cases h1:k<0
 ·go_enter Tryz.func253,Tryz.ntmps253
  go_wp2
  go_ret
  exact ⟨by simp <;> omega,by go_grown⟩
 ·go_enter Tryz.func253,Tryz.ntmps253
  go_wp2
  go_ret
  exact ⟨by simp <;> omega,by go_grown⟩
theorem fcheck1_any (k:Int) (w:World):Calls Tryz.prog 224 #[.int .i64 k] w fun e w'=>e=.returned (.bool (decide (k≠1)))∧Below w.heap.size w w':=by
 go_enter Tryz.func224,Tryz.ntmps224
 go_wp2
 go_ret
 exact ⟨by by_cases h:k=1 <;> simp [h],by go_grown⟩
theorem toL_nil (t:ByteArray):t.toList=[]↔t.size=0:=by
 have h:=empty_same (s:=t)
 rw [←List.isEmpty_iff,h,decide_eq_true_eq]
section
variable {n op:Int} {nm:ByteArray} {l r:Int} {i:Nat}
theorem nd1 (h1:0≤n) (h2:n≤1000000):ndErr ⟨1,n,nm,l,r⟩ i=if nm.toList=[]∧l=0∧r=0 then 0 else 3:=by
 simp only [ndErr,toL_nil]
 rw [if_neg (by omega),if_pos trivial,if_neg (by omega)]
 by_cases h:nm.size=0∧l=0∧r=0
 ·rw [if_pos h,if_neg (by omega)]
 ·rw [if_neg h,if_pos (by omega)]
theorem nd2 (h:nameErr nm=0):ndErr ⟨2,n,nm,l,r⟩ i=if n=0∧l=0∧r=0 then 0 else 3:=by
 simp only [ndErr]
 rw [if_neg (by omega),if_neg (by omega),if_pos trivial,if_neg (by simpa using h)]
 by_cases h:n=0∧l=0∧r=0
 ·rw [if_pos h,if_neg (by omega)]
 ·rw [if_neg h,if_pos (by omega)]
theorem nd3 (h0:3≤op) (h1:op≤6) (h2:anyL (outI i) [l,r]=false):ndErr ⟨op,n,nm,l,r⟩ i=if n=0∧nm.toList=[] then 0 else 3:=by
 simp [anyL,outI] at h2
 simp only [ndErr,toL_nil]
 rw [if_neg (by omega),if_neg (by omega),if_neg (by omega),if_neg (by omega)]
 by_cases h:n=0∧nm.size=0
 ·rw [if_pos h,if_neg (by omega)]
 ·rw [if_neg h,if_pos (by omega)]
theorem nd3b (h0:3≤op) (h1:op≤6) (h2:anyL (outI i) [l,r]=true):ndErr ⟨op,n,nm,l,r⟩ i=1:=by
 simp [anyL,outI] at h2
 simp only [ndErr]
 rw [if_neg (by omega),if_neg (by omega),if_neg (by omega),if_pos (by omega)]
end
def nodeW (w:World) (op n:Int) (nm:ByteArray) (l r:Int) (i:Nat):World:=((w.alloc (.cells #[.int .i64 op,.int .i64 n,.string nm,.int .i64 l,.int .i64 r] 188)).alloc (.cells #[.int .i64 i] 3)).alloc (.cells #[.int .i64 op,.int .i64 0,.string ⟨#[]⟩,.int .i64 0,.int .i64 0] 188)
theorem nodeW_size (w:World) (op n:Int) (nm:ByteArray) (l r:Int) (i:Nat):(nodeW w op n nm l r i).heap.size=w.heap.size+3:=by unfold nodeW;simp
theorem nodeW_below (w:World) (op n:Int) (nm:ByteArray) (l r:Int) (i:Nat):Below w.heap.size w (nodeW w op n nm l r i):=by unfold nodeW;go_grown
theorem nodeW_at (w:World) (op n:Int) (nm:ByteArray) (l r:Int) (i:Nat):(nodeW w op n nm l r i).heap[w.heap.size]?=some (.cells #[.int .i64 op,.int .i64 n,.string nm,.int .i64 l,.int .i64 r] 188 (0,0))∧(nodeW w op n nm l r i).heap[w.heap.size+1]?=some (.cells #[.int .i64 i] 3 (0,0))∧(nodeW w op n nm l r i).heap[w.heap.size+1+1]?=some (.cells #[.int .i64 op,.int .i64 0,.string ⟨#[]⟩,.int .i64 0,.int .i64 0] 188 (0,0)):=by
 unfold nodeW
 refine ⟨?_,?_,?_⟩
 ·rw [heap_alloc_old _ _ (by simp;omega)];exact topF0 w _ _
 ·rw [heap_alloc_old _ _ (by simp)];exact topF1 w _ _
 ·have h:=heap_alloc_new ((w.alloc (.cells #[.int .i64 op,.int .i64 n,.string nm,.int .i64 l,.int .i64 r] 188)).alloc (.cells #[.int .i64 i] 3)) (.cells #[.int .i64 op,.int .i64 0,.string ⟨#[]⟩,.int .i64 0,.int .i64 0] 188)
  simpa using h
theorem nodeW_cells {w w1:World} {op n:Int} {nm:ByteArray} {l r:Int} {i:Nat} (hb:Below (nodeW w op n nm l r i).heap.size (nodeW w op n nm l r i) w1) :
  Below w.heap.size w w1∧(w1.cell? ⟨w.heap.size,0,none⟩=some (.int .i64 op)∧w1.cell? ⟨w.heap.size,1,none⟩=some (.int .i64 n)∧w1.cell? ⟨w.heap.size,2,none⟩=some (.string nm)∧w1.cell? ⟨w.heap.size,3,none⟩=some (.int .i64 l)∧w1.cell? ⟨w.heap.size,4,none⟩=some (.int .i64 r))∧w1.cell? ⟨w.heap.size+1,0,none⟩=some (.int .i64 i) ∧
  (w1.cell? ⟨w.heap.size+1+1,0,none⟩=some (.int .i64 op)∧w1.cell? ⟨w.heap.size+1+1,1,none⟩=some (.int .i64 0)∧w1.cell? ⟨w.heap.size+1+1,2,none⟩=some (.string ⟨#[]⟩)∧w1.cell? ⟨w.heap.size+1+1,3,none⟩=some (.int .i64 0)∧w1.cell? ⟨w.heap.size+1+1,4,none⟩=some (.int .i64 0))∧∀ j,w1.frozen? ⟨w.heap.size+1+1,j,none⟩=false:=by
 obtain ⟨a1,a2,a3⟩:=nodeW_at w op n nm l r i
 have hz:=nodeW_size w op n nm l r i
 have b1:=(hb.block w.heap.size (by omega)).trans a1
 have b2:=(hb.block (w.heap.size+1) (by omega)).trans a2
 have b3:=(hb.block (w.heap.size+1+1) (by omega)).trans a3
 refine ⟨onB (nodeW_below ..) hb,⟨?_,?_,?_,?_,?_⟩,?_,⟨?_,?_,?_,?_,?_⟩,fun j=>?_⟩ <;> simp [World.cell?,World.frozen?,b1,b2,b3]
set_option maxHeartbeats 1000000 in
theorem node_num (x:Nd) (i:Nat) (w:World) (h1:x.op=1):Calls Tryz.prog 221 #[ndV x,.int .i64 i] w fun e w'=>e=.returned (errV (ndErr x i))∧Below w.heap.size w w':=by
 obtain ⟨op,n,name,left,right⟩:=x
 simp only at h1
 subst h1
 rw [ndV_def]
 by_cases hn:n<0
 ·have hE:ndErr ⟨1,n,name,left,right⟩ i=1:=by simp [ndErr,hn]
  rw [hE,errV_some (by decide)]
  go_enter Tryz.func221,Tryz.ntmps221
  go_wp2
  go_ret
  exact ⟨rfl,by go_grown⟩
 by_cases hn2:1000000<n
 ·have hE:ndErr ⟨1,n,name,left,right⟩ i=1:=by simp [ndErr,hn2]
  rw [hE,errV_some (by decide)]
  go_enter Tryz.func221,Tryz.ntmps221
  go_wp2
  go_ret
  exact ⟨rfl,by go_grown⟩
 ·rw [nd1 (by omega) (by omega)]
  go_enter Tryz.func221,Tryz.ntmps221
  go_wp2
  all_goals (go_ret;refine ⟨?_,by go_grown⟩;first | rfl | (rw [if_pos (by simp_all)];rfl) | (rw [if_neg (by simp_all)];rfl) | (exfalso;simp_all;done))
set_option maxHeartbeats 1000000 in
theorem node_ref (x:Nd) (i:Nat) (w:World) (h1:x.op=2):Calls Tryz.prog 221 #[ndV x,.int .i64 i] w fun e w'=>e=.returned (errV (ndErr x i))∧Below w.heap.size w w':=by
 obtain ⟨op,n,name,left,right⟩:=x
 simp only at h1
 subst h1
 rw [ndV_def]
 have hnm:=name_any name
 by_cases hE:nameErr name=0
 ·rw [nd2 hE]
  rw [hE,errV_zero] at hnm
  clear hE
  go_enter Tryz.func221,Tryz.ntmps221
  go_wp2_with fail
  refine (hnm _).mono ?_
  rintro e w1 ⟨rfl,hb1⟩
  obtain ⟨hB,⟨x0,x1,x2,x3,x4⟩,-,⟨z0,z1,z2,z3,z4⟩,hf⟩:=nodeW_cells (w:=w) (op:=2) (n:=n) (nm:=name) (l:=left) (r:=right) (i:=i) hb1
  have y2:=hf 2
  have HB:Hid (Below w.heap.size w w1):=hB
  clear hb1 hB hf
  go_wp2_with fail
  all_goals (go_ret;refine ⟨?_,HB.out.setCell (by simp;omega) _⟩;first | rfl | (rw [if_pos (by simp_all)];rfl) | (rw [if_neg (by simp_all)];rfl) | (exfalso;simp_all;done))
 ·have h2:nameErr name=2:=nameErr_two hE
  have hN:ndErr ⟨2,n,name,left,right⟩ i=2:=by
   simp only [ndErr]
   rw [if_neg (by omega),if_neg (by omega),if_pos trivial,if_pos (by omega)]
  rw [hN,errV_some (by decide)]
  rw [h2,errV_some (by decide)] at hnm
  clear hE h2 hN
  go_enter Tryz.func221,Tryz.ntmps221
  go_wp2_with fail
  refine (hnm _).mono ?_
  rintro e w1 ⟨rfl,hb1⟩
  have hB:Below w.heap.size w w1:=onB (by go_grown) hb1
  clear hb1
  go_wp2_with fail
  go_ret
  exact ⟨rfl,hB⟩
theorem ent_node1 (args:Array Value) (w:World):(callFunc 253 args).run Tryz.prog w=.ok (.enter 253 args) w:=by simp [go_sem]
theorem ent_check1 (args:Array Value) (w:World):(callFunc 224 args).run Tryz.prog w=.ok (.enter 224 args) w:=by simp [go_sem]
theorem sides_any (w:World) (op n:Int) (nm:ByteArray) (l r:Int) (i:Nat):Calls Tryz.prog 222 #[.slice (some ⟨w.heap.size+1+1+1,0,none⟩) 2 2,.func (.func 253) #[] #[.pointer (some ⟨w.heap.size+1,0,none⟩)]] ((nodeW w op n nm l r i).alloc (.cells #[.int .i64 l,.int .i64 r] 3)) fun e w'=>e=.returned (.bool (anyL (outI i) [l,r]))∧Below ((nodeW w op n nm l r i).alloc (.cells #[.int .i64 l,.int .i64 r] 3)).heap.size ((nodeW w op n nm l r i).alloc (.cells #[.int .i64 l,.int .i64 r] 3)) w':=by
 have hz:=nodeW_size w op n nm l r i
 have hnew:=heap_alloc_new (nodeW w op n nm l r i) (.cells #[.int .i64 l,.int .i64 r] 3)
 rw [hz] at hnew
 refine anyof_any 253 #[.pointer (some ⟨w.heap.size+1,0,none⟩)] (outI i) ent_node1 (some ⟨w.heap.size+1+1+1,0,none⟩) 2 [l,r] _ (by simp) ⟨by simp,Or.inr ⟨_,rfl,by simp [hz],?_⟩⟩ ?_
 ·intro j hj
  match j,hj with
  | 0,_=>simp [World.cell?,hnew]
  | 1,_=>simp [World.cell?,hnew]
 ·intro x w' hb
  have h2:=(nodeW_at w op n nm l r i).2.1
  have h3:w'.heap[w.heap.size+1]?=some (.cells #[.int .i64 i] 3 (0,0)):=by
   rw [hb.block _ (by simp [hz]),heap_alloc_old _ _ (by rw [hz];omega)]
   exact h2
  exact node1_any i (w.heap.size+1) x w' (by simp [World.cell?,h3])
set_option maxHeartbeats 2000000 in
theorem node_op (x:Nd) (i:Nat) (w:World) (h1:3≤x.op) (h2:x.op≤6):Calls Tryz.prog 221 #[ndV x,.int .i64 i] w fun e w'=>e=.returned (errV (ndErr x i))∧Below w.heap.size w w':=by
 obtain ⟨op,n,name,left,right⟩:=x
 simp only at h1 h2
 rw [ndV_def]
 have hsd:=sides_any w op n name left right i
 have hmf:∀ (fn:Fn) (first cap:Array Value) (w:World),(Instr.makeFunc fn first cap).run Tryz.prog w=.ok (.func fn first cap) w:=fun _ _ _ _=>rfl
 have HW:Hid (Below (nodeW w op n name left right i).heap.size (nodeW w op n name left right i) ((nodeW w op n name left right i).alloc (.cells #[.int .i64 left,.int .i64 right] 3))):=(Below.refl _ _).alloc (Nat.le_refl _) _
 have hc:op=3∨op=4∨op=5∨op=6:=by omega
 cases ha:anyL (outI i) [left,right]
 ·rw [nd3 h1 h2 ha]
  rw [ha] at hsd
  clear ha
  unfold nodeW at hsd
  rcases hc with rfl | rfl | rfl | rfl
  all_goals
   go_enter Tryz.func221,Tryz.ntmps221
   go_wp2_with fail
   refine hsd.mono ?_
   rintro e w1 ⟨rfl,hb1⟩
   obtain ⟨hB,⟨x0,x1,x2,x3,x4⟩,-,⟨z0,z1,z2,z3,z4⟩,hf⟩:=nodeW_cells (onB HW.out hb1)
   have y3:=hf 3
   have y4:=hf 4
   have HB:Hid (Below w.heap.size w w1):=hB
   clear hb1 hB hf hsd
   go_wp2_with fail
   go_region
   all_goals go_wp2_with fail
   all_goals (go_ret;refine ⟨?_,by first | exact ((HB.out.setCell (by simp;omega) _).setCell (by simp;omega) _).drew | exact ((HB.out.drew.setCell (by simp;omega) _).setCell (by simp;omega) _)⟩;first | rfl | (rw [if_pos (by simp_all)];rfl) | (rw [if_neg (by simp_all)];rfl) | (exfalso;simp_all;done))
 ·rw [nd3b h1 h2 ha,errV_some (by decide)]
  rw [ha] at hsd
  clear ha
  unfold nodeW at hsd
  rcases hc with rfl | rfl | rfl | rfl
  all_goals
   go_enter Tryz.func221,Tryz.ntmps221
   go_wp2_with fail
   refine hsd.mono ?_
   rintro e w1 ⟨rfl,hb1⟩
   have HB:Hid (Below w.heap.size w w1):=onB (by go_grown) hb1
   clear hb1 hsd
   go_wp2_with fail
   go_ret
   exact ⟨rfl,HB.out⟩
set_option maxHeartbeats 1000000 in
theorem node_bad (x:Nd) (i:Nat) (w:World) (h1:x.op<1∨6<x.op):Calls Tryz.prog 221 #[ndV x,.int .i64 i] w fun e w'=>e=.returned (errV (ndErr x i))∧Below w.heap.size w w':=by
 have hE:ndErr x i=1:=by unfold ndErr;rw [if_pos h1]
 rw [hE,errV_some (by decide)]
 obtain ⟨op,n,name,left,right⟩:=x
 simp only at h1
 rw [ndV_def]
 have e1:(op == 1)=false:=by apply Bool.eq_false_iff.2;intro e;rw [beq_iff_eq] at e;omega
 have e2:(op == 2)=false:=by apply Bool.eq_false_iff.2;intro e;rw [beq_iff_eq] at e;omega
 have e3:(op == 3)=false:=by apply Bool.eq_false_iff.2;intro e;rw [beq_iff_eq] at e;omega
 have e4:(op == 4)=false:=by apply Bool.eq_false_iff.2;intro e;rw [beq_iff_eq] at e;omega
 have e5:(op == 5)=false:=by apply Bool.eq_false_iff.2;intro e;rw [beq_iff_eq] at e;omega
 have e6:(op == 6)=false:=by apply Bool.eq_false_iff.2;intro e;rw [beq_iff_eq] at e;omega
 clear h1 hE
 go_enter Tryz.func221,Tryz.ntmps221
 go_wp2_with fail
 go_ret
 exact ⟨rfl,by go_grown⟩
theorem node_any (x:Nd) (i:Nat) (w:World):Calls Tryz.prog 221 #[ndV x,.int .i64 i] w fun e w'=>e=.returned (errV (ndErr x i))∧Below w.heap.size w w':=by
 by_cases h1:x.op=1
 ·exact node_num x i w h1
 by_cases h2:x.op=2
 ·exact node_ref x i w h2
 by_cases h3:3≤x.op∧x.op≤6
 ·exact node_op x i w h3.1 h3.2
 ·exact node_bad x i w (by omega)
def noC:Int×Int:=(0,0)
def cellsC:List (Int×Int)→List Value
 | []=>[]
 | c :: r=>.int .i64 c.1 :: .int .i64 c.2 :: cellsC r
theorem cellsC_len (L:List (Int×Int)):(cellsC L).length=L.length*2:=by
 induction L with
 | nil=>rfl
 | cons x r ih=>simp [cellsC,ih];omega
theorem cellsC_append (a b:List (Int×Int)):cellsC (a ++ b)=cellsC a ++ cellsC b:=by
 induction a with
 | nil=>rfl
 | cons x r ih=>simp [cellsC,ih]
theorem cellsC_one (L:List (Int×Int)):∀ v∈cellsC L,v.oneCell'=true:=by
 induction L with
 | nil=>intro v hv;cases hv
 | cons x r ih =>
  intro v hv
  simp only [cellsC,List.mem_cons] at hv
  rcases hv with rfl | rfl | hv
  ·rfl
  ·rfl
  ·exact ih v hv
theorem cellsC_at (L:List (Int×Int)):∀ k,k<L.length→(cellsC L)[k*2]?=some (.int .i64 (L.getD k noC).1)∧(cellsC L)[k*2+1]?=some (.int .i64 (L.getD k noC).2):=by
 induction L with
 | nil=>intro k hk;cases hk
 | cons x r ih =>
  intro k hk
  cases k with
  | zero=>simp [cellsC]
  | succ k =>
   rw [show (k+1)*2=k*2+1+1 by omega]
   simp only [cellsC,List.getElem?_cons_succ,List.getD_cons_succ]
   exact ih k (by simpa using hk)
def CelAt (w:World) (b o:Nat) (L:List (Int×Int)):Prop:=b<w.heap.size∧∀ k,k<L.length→w.cell? ⟨b,o+k*2,none⟩=some (.int .i64 (L.getD k noC).1)∧w.cell? ⟨b,o+k*2+1,none⟩=some (.int .i64 (L.getD k noC).2)
theorem CelAt.later {w w':World} {b o:Nat} {L:List (Int×Int)} (h:CelAt w b o L) (hB:Below w.heap.size w w'):CelAt w' b o L :=
 ⟨Nat.lt_of_lt_of_le h.1 hB.size,fun k hk=>⟨(hB.cell (p:=⟨b,o+k*2,none⟩) h.1).trans (h.2 k hk).1,(hB.cell (p:=⟨b,o+k*2+1,none⟩) h.1).trans (h.2 k hk).2⟩⟩
theorem CelAt.cells {w:World} {b o:Nat} {L:List (Int×Int)} (h:CelAt w b o L):∀ j u,(cellsC L)[j]?=some u→w.cell? ⟨b,o+j,none⟩=some u:=by
 intro j u hj
 have hlt:j<(cellsC L).length:=(List.getElem?_eq_some_iff.1 hj).1
 rw [cellsC_len] at hlt
 have hk:j / 2<L.length:=by omega
 obtain ⟨h1,h2⟩:=cellsC_at L _ hk
 obtain ⟨c1,c2⟩:=h.2 _ hk
 rcases Nat.mod_two_eq_zero_or_one j with hm | hm
 ·have e:j=j / 2*2:=by omega
  rw [e] at hj ⊢
  rw [h1] at hj
  rw [c1]
  exact hj
 ·have e:j=j / 2*2+1:=by omega
  rw [e] at hj ⊢
  rw [h2] at hj
  rw [←Nat.add_assoc,c2]
  exact hj
def CelV (w:World) (A:Option Addr) (cap:Nat) (L:List (Int×Int)):Prop:=L.length≤cap∧cap≤9223372036854775807∧(L=[]∨∃ b o,A=some ⟨b,o,none⟩∧CelAt w b o L)
theorem CelV.later {w w':World} {A:Option Addr} {cap:Nat} {L:List (Int×Int)} (h:CelV w A cap L) (hB:Below w.heap.size w w'):CelV w' A cap L:=by
 obtain ⟨h1,h0,h2 | ⟨b,o,h2,h3⟩⟩:=h
 ·exact ⟨h1,h0,Or.inl h2⟩
 ·exact ⟨h1,h0,Or.inr ⟨b,o,h2,h3.later hB⟩⟩
theorem CelV.nil (w:World) (A:Option Addr) (cap:Nat) (h:cap≤9223372036854775807):CelV w A cap []:=⟨Nat.zero_le _,h,Or.inl rfl⟩
def CelB (w:World) (g:Nat) (L:List (Int×Int)):Prop := ∃ cur:Array Value,w.heap[g]?=some (.cells cur 40 (0,0))∧∀ k,k<L.length→cur[k*2]?=some (.int .i64 (L.getD k noC).1)∧cur[k*2+1]?=some (.int .i64 (L.getD k noC).2)
section
variable {w w':World} {g:Nat} {L:List (Int×Int)}
theorem CelB.lt (h:CelB w g L):g<w.heap.size:=by
 obtain ⟨cur,h1,_⟩:=h
 exact (Array.getElem?_eq_some_iff.1 h1).1
theorem CelB.same (h:CelB w g L) (hb:w'.heap[g]?=w.heap[g]?):CelB w' g L:=by
 obtain ⟨cur,h1,h2⟩:=h
 exact ⟨cur,hb.trans h1,h2⟩
theorem CelB.later (h:CelB w g L) (hB:Below w.heap.size w w'):CelB w' g L:=h.same (hB.block g h.lt)
theorem CelB.at (h:CelB w g L) {k:Nat} (hk:k<L.length):w.cell? ⟨g,k*2,none⟩=some (.int .i64 (L.getD k noC).1)∧w.cell? ⟨g,k*2+1,none⟩=some (.int .i64 (L.getD k noC).2):=by
 obtain ⟨cur,h1,h2⟩:=h
 obtain ⟨h3,h4⟩:=h2 k hk
 exact ⟨by simp [World.cell?,h1,h3],by simp [World.cell?,h1,h4]⟩
theorem CelB.frozen (h:CelB w g L) (j:Nat):w.frozen? ⟨g,j,none⟩=false:=by
 obtain ⟨cur,h1,_⟩:=h
 exact Lib.frozen_of_heap h1 j
theorem CelB.celAt (h:CelB w g L):CelAt w g 0 L:=⟨h.lt,fun k hk=>by rw [Nat.zero_add];exact h.at hk⟩
theorem CelB.set (h:CelB w g L) {x:Nat} (hx:x<L.length) (a b:Int):CelB ((w.setCell ⟨g,x*2,none⟩ (.int .i64 a)).setCell ⟨g,x*2+1,none⟩ (.int .i64 b)) g (L.set x (a,b)):=by
 obtain ⟨cur,h1,h2⟩:=h
 refine ⟨(cur.setIfInBounds (x*2) (.int .i64 a)).setIfInBounds (x*2+1) (.int .i64 b),by simp [World.setCell,Array.getElem?_modify,h1],fun k hk=>?_⟩
 rw [List.length_set] at hk
 obtain ⟨h3,h4⟩:=h2 k hk
 obtain ⟨h5,h6⟩:=h2 x hx
 have z0:=(Array.getElem?_eq_some_iff.1 h5).1
 have z1:=(Array.getElem?_eq_some_iff.1 h6).1
 by_cases e:k=x
 ·subst e
  constructor
  ·rw [Array.getElem?_setIfInBounds_ne (by omega),Array.getElem?_setIfInBounds_self_of_lt z0]
   simp [List.getD,hk]
  ·rw [Array.getElem?_setIfInBounds_self_of_lt (by simpa using z1)]
   simp [List.getD,hk]
 ·have e1:(L.set x (a,b)).getD k noC=L.getD k noC:=by simp [List.getD,List.getElem?_set_ne (fun h=>e h.symm)]
  rw [e1]
  constructor
  ·rw [Array.getElem?_setIfInBounds_ne (by omega),Array.getElem?_setIfInBounds_ne (by omega)];exact h3
  ·rw [Array.getElem?_setIfInBounds_ne (by omega),Array.getElem?_setIfInBounds_ne (by omega)];exact h4
theorem celB_own {base:Nat} {v:Value} (h:w.ownsRow base 40 2 v L.length (cellsC L)) (hl:0<L.length):∃ g c,v=.slice (some ⟨g,0,none⟩) L.length c∧base≤g∧L.length≤c∧c≤9223372036854775807∧CelB w g L:=by
 rcases h.2 with ⟨_,h0⟩ | ⟨g,cap,cur,rfl,hb,hg,h4,h5,h6,h7⟩
 ·omega
 ·refine ⟨g,cap,rfl,hb,h4,by unfold maxLen at h5;omega,cur,hg,fun k hk=>?_⟩
  obtain ⟨x0,x1⟩:=cellsC_at L k hk
  rw [←h7,List.getElem?_take,if_pos (by omega),Array.getElem?_toList] at x0 x1
  exact ⟨x0,x1⟩
end
theorem Tryz.infoCe:(Tryz.prog.info? 40).map (fun i=>(i.zero,i.size,i.bytes))=some (some (.agg #[.int .i64 0,.int .i64 0]),2,16):=by kernel_rfl
def goodB (L:List (Int×Int)) (k:Nat):Bool := !(good (L.getD k noC).1 (L.getD k noC).2)
theorem short_of {D:Nat→Dm} {n:Nat} {xs:List EnL} {p:List Int} (hE:Ens D n (lE xs)) (hp:InO D n p):Short xs p:=by
 refine ⟨fun k hk=>?_,inO_short hp⟩
 have h1:(xs.getD k noL).e∈lE xs:=List.mem_map.2 ⟨_,enl_mem hk,rfl⟩
 exact inO_short (hE.each _ h1).1
theorem few_of {D:Nat→Dm} {n:Nat} {xs:List EnL} (hE:Ens D n (lE xs)):xs.length≤3000:=by have:=hE.few;rw [lE_len] at this;exact this
def NewE (N:Nat) (xs:List EnL):Prop := ∀ x∈xs,NewA N x.A
theorem NewE.le {N M:Nat} {xs:List EnL} (h:NewE N xs) (hm:M≤N):NewE M xs:=fun x hx=>(h x hx).le hm
theorem NewE.put {N i:Nat} {xs:List EnL} {x:EnL} (h:NewE N xs) (hx:NewA N x.A):NewE N (xs.take i ++ x :: xs.drop i):=fun y hy=>by
 rcases List.mem_append.1 hy with hy | hy
 ·exact h y (List.mem_of_mem_take hy)
 ·rcases List.mem_cons.1 hy with rfl | hy
  ·exact hx
  ·exact h y (List.mem_of_mem_drop hy)
theorem NewE.cut {N i j:Nat} {xs:List EnL} (h:NewE N xs):NewE N (xs.take i ++ xs.drop j):=fun y hy=>by
 rcases List.mem_append.1 hy with hy | hy
 ·exact h y (List.mem_of_mem_take hy)
 ·exact h y (List.mem_of_mem_drop hy)
theorem NewE.set {N i:Nat} {xs:List EnL} (h:NewE N xs) (hi:i<xs.length) (e:En) (c:Nat):NewE N (xs.set i ⟨e,(xs.getD i noL).A,c⟩):=fun y hy=>by
 rcases List.mem_or_eq_of_mem_set hy with hy | rfl
 ·exact h y hy
 ·exact h (xs.getD i noL) (enl_mem hi)
theorem plty_new {w:World} {base:Nat} {v:Value} {L:List Int} (h:w.ownsRow base 3 1 v L.length (L.map (Value.int .i64))):∃ A c,v=.slice A L.length c∧PlTy w A c L∧NewA base A:=by
 obtain ⟨A,c,rfl,hP⟩:=plty_own h
 refine ⟨A,c,rfl,hP,fun b o e=>?_⟩
 subst e
 rcases h.2 with ⟨h1,-⟩ | ⟨g,cap,cur,h1,hb,-⟩
 ·cases h1
 ·cases h1;exact hb
set_option maxHeartbeats 2000000 in
theorem clone_new (A:Option Addr) (c:Nat) (L:List Int) (w:World) (hL:L.length≤4) (hP:PlAt w A c L):Calls Tryz.prog 82 #[.slice A L.length c] w fun e w'=>(∃ A' c',e=.returned (.slice A' L.length c')∧PlTy w' A' c' L∧NewA w.heap.size A')∧Below w.heap.size w w':=by
 have hq:∀ (w:World) (a:Option Addr) (n c n' c':Nat),(binOp .eql 35 (.slice a n c) (.slice none n' c')).run Tryz.prog w=.ok (.bool a.isNone) w:=fun w a n c n' c'=>Lib.run_eql_slice_nil w _ _ a n c n' c' Tryz.underlying35
 cases A with
 | none =>
  obtain ⟨-,h0 | ⟨b,o,h0,-⟩⟩:=hP
  ·subst h0
   simp only [List.length_nil]
   go_enter Tryz.func82,Tryz.ntmps82
   go_wp2_with fail
   go_ret
   exact ⟨⟨none,0,rfl,PlTy.nil _ _ _,NewA.none _⟩,Below.refl _ _⟩
  ·cases h0
 | some a =>
  obtain ⟨i0,hi0,hz0,hz1,hz2⟩:=info_parts Tryz.infoIntP
  have HC:Hid (∀ j u,(L.map (Value.int .i64))[j]?=some u→w.cell? (a.add j)=some u):=by
   intro j u hj
   obtain ⟨-,h0 | ⟨b,o,h0,-,hcell⟩⟩:=hP
   ·subst h0;simp at hj
   ·cases h0
    have hlt:j<L.length:=by have:=(List.getElem?_eq_some_iff.1 hj).1;simpa using this
    rw [plain_add,hcell j hlt]
    simp only [List.getElem?_map,List.getElem?_eq_getElem hlt,Option.map_some,Option.some.injEq] at hj
    rw [←hj,List.getD_eq_getElem?_getD,List.getElem?_eq_getElem hlt]
    rfl
  have HF:Hid (∀ (w':World) (v:Value),w'.ownsRow w.heap.size 3 1 v L.length (L.map (Value.int .i64))→∃ A' c',v=.slice A' L.length c'∧PlTy w' A' c' L∧NewA w.heap.size A'):=fun w' v h=>plty_new h
  have hl:(L.map (Value.int .i64)).length=L.length*1:=by simp
  have h1:∀ u∈L.map (Value.int .i64),u.oneCell'=true:=by intro u hu;simp at hu;obtain ⟨x,-,rfl⟩:=hu;rfl
  have hm:L.length≤4:=hL
  clear hP hL
  go_enter Tryz.func82,Tryz.ntmps82
  go_wp2_with (at_builtin;refine wpList_append_own _ rfl _ _ 35 rfl w.heap.size 3 i0 (.int .i64 0) 1 8 Tryz.underlying35 hi0 hz0 hz1 hz2 rfl (by decide) _ _ _ rfl (World.ownsRow_made w #[] 0 (Nat.le_refl _) (Nat.zero_le _) (by simp)) a L.length c (L.map (Value.int .i64)) rfl ?qc1 ?qc2 ?qc3 ?qc4 ?qc5 ?qc6 ?_)
  case qc1=>exact hl
  case qc2=>exact fun j u hj=>Lib.cell?_alloc_some _ (HC.out j u hj)
  case qc3=>exact h1
  case qc4=>simp only [maxLen];omega
  case qc5=>omega
  case qc6=>simp
  intro v' w1 hown hgrow hnil
  obtain ⟨A',c',rfl,hT,hNw⟩:=HF.out _ _ hown
  have HT:Hid (PlTy w1 A' c' L∧NewA w.heap.size A'):=⟨hT,hNw⟩
  have HB:Hid (Below w.heap.size w w1):=((Below.refl _ w).alloc (Nat.le_refl _) _).grown hgrow (by simp) (by intro k hk;simp [Value.ownBlock] at hk;omega)
  clear hown hgrow hnil hT hNw
  go_wp2_with fail
  go_ret
  exact ⟨⟨A',c',rfl,HT.out⟩,HB.out⟩
end Go.Proofs.YtfngmnhkhfgmjahGreatDoor
namespace Go.Proofs.YtfngmnhkhfgmjahGreatDoor
open Go.ChangeShapes Go.WideShapes Go.ChangeAt Go.RowKit Go.Lib
set_option maxRecDepth 100000
theorem Tryz.infoEnt:(Tryz.prog.info? 69).map (fun i=>(i.zero,i.size,i.bytes))=some (some (.agg #[.slice none 0 0,.int .i64 0]),2,32):=by kernel_rfl
def OneE (w:World) (vb:Nat) (x:EnL):Prop:=w.heap[vb]?=some (.cells #[.slice x.A x.e.pl.length x.c,.int .i64 x.e.n] 69 (0,0))
theorem OneE.cells {w:World} {vb:Nat} {x:EnL} (h:OneE w vb x):∀ j u,(cellsE [x])[j]?=some u→w.cell? ⟨vb,j,none⟩=some u:=by
 intro j u hj
 rw [Lib.cell_of_heap h]
 simpa [cellsE] using hj
def Inserted (w:World) (g i:Nat) (xs:List EnL) (x:EnL) (e:Ending) (w':World):Prop := ∃ g' cap',e=.returned (.slice (some ⟨g',0,none⟩) (xs.length+1) cap')∧RowE w' g' cap' (xs.take i ++ x :: xs.drop i)∧g≤g'∧w.grownBy w' (some g)
set_option maxHeartbeats 4000000 in
theorem insert_end (g cap vb:Nat) (xs:List EnL) (x:EnL) (w:World) (hn:xs.length≤3000) (hR:RowE w g cap xs) (hx:PlTy w x.A x.c x.e.pl) (hv:OneE w vb x) :
  Calls Tryz.prog 155 #[.slice (some ⟨g,0,none⟩) xs.length cap,.int .i64 xs.length,.slice (some ⟨vb,0,none⟩) 1 1] w fun e w'=>Inserted w g xs.length xs x e w':=by
 obtain ⟨i0,hi0,hz0,hz1,hz2⟩:=info_parts Tryz.infoEnt
 have hown:=hR.own (Nat.le_refl g)
 have hgs:g≤w.heap.size:=Nat.le_of_lt hR.lt
 have hcap:=hR.2.1
 have hcm:=hR.2.2.1
 have HR:Hid (RowE w g cap xs):=hR
 have HX:Hid (PlTy w x.A x.c x.e.pl):=hx
 have HV:Hid (∀ j u,(cellsE [x])[j]?=some u→w.cell? ⟨vb,j,none⟩=some u):=hv.cells
 have HE:Hid (cellsE (xs ++ [x])=cellsE xs ++ cellsE [x]):=cellsE_append ..
 have HL:Hid ((cellsE [x]).length=1*2):=cellsE_len [x]
 have H1:Hid (∀ v∈cellsE [x],v.oneCell'=true):=cellsE_one [x]
 have HT:Hid (xs.take xs.length ++ x :: xs.drop xs.length=xs ++ [x]∧(xs ++ [x]).length=xs.length+1):=⟨by simp,by simp⟩
 obtain ⟨n,hnn⟩:∃ n,xs.length=n:=⟨_,rfl⟩
 have HN:Hid (xs.length=n):=hnn
 rw [hnn] at hown hn hcap HT
 unfold Inserted
 rw [hnn]
 generalize hcx:cellsE xs=CX at hown HE
 generalize hc1:cellsE [x]=C1 at HV HE HL H1
 unfold maxLen at hcm
 clear hR hx hv hnn hcx hc1
 have hn':(n:Int)≤3000:=by omega
 by_cases hce:cap=n
 ·subst hce
  go_enter Tryz.func155,Tryz.ntmps155
  go_wp2_with (at_builtin;refine wpList_append_own _ rfl _ _ 48 rfl g 69 i0 (.agg #[.slice none 0 0,.int .i64 0]) 2 32 Tryz.underlying48 hi0 hz0 hz1 hz2 rfl (by decide) _ _ _ rfl hown ⟨vb,0,none⟩ 1 1 C1 rfl ?qc1 ?qc2 ?qc3 ?qc4 ?qc5 ?qc6 ?_)
  case qc1=>exact HL.out
  case qc2=>exact fun j u hj=>by rw [plain_add,Nat.zero_add];exact HV.out j u hj
  case qc3=>exact H1.out
  case qc4=>simp only [maxLen];omega
  case qc5=>omega
  case qc6=>exact hgs
  intro v' w1 hown1 hgrow hnil
  rw [←HE.out,←HT.out.2] at hown1
  have hg1:w.grownBy w1 (some g):=hgrow
  obtain ⟨⟨cur,hcur,-,-⟩,-⟩:=HR.out
  have hpl:∀ y∈xs ++ [x],PlTy w1 y.A y.c y.e.pl:=fun y hy=>by
   rcases List.mem_append.1 hy with hy | hy
   ·exact (HR.out.2.2.2 y hy).grown hcur hg1
   ·rw [List.mem_singleton.1 hy];exact HX.out.grown hcur hg1
  obtain ⟨g',cap',rfl,hgg,hRow⟩:=row_own hown1 (by simpa using hnil) hpl
  have HRow:Hid (RowE w1 g' cap' (xs ++ [x])):=hRow
  have HG:Hid (w.grownBy w1 (some g)):=hg1
  rw [HT.out.2]
  clear hown1 hgrow hnil hcur hpl hRow hg1
  go_wp2_with fail
  go_ret
  refine ⟨g',cap',rfl,?_,hgg,HG.out⟩
  rw [HT.out.1]
  exact HRow.out
 ·have hce' : ¬ ((cap:Int)=(n:Int)):=by omega
  go_enter Tryz.func155,Tryz.ntmps155
  go_wp2_with (at_builtin;refine wpList_append_own _ rfl _ _ 48 rfl g 69 i0 (.agg #[.slice none 0 0,.int .i64 0]) 2 32 Tryz.underlying48 hi0 hz0 hz1 hz2 rfl (by decide) _ _ _ rfl hown ⟨vb,0,none⟩ 1 1 C1 rfl ?qc1 ?qc2 ?qc3 ?qc4 ?qc5 ?qc6 ?_)
  case qc1=>exact HL.out
  case qc2=>exact fun j u hj=>by rw [plain_add,Nat.zero_add];exact HV.out j u hj
  case qc3=>exact H1.out
  case qc4=>simp only [maxLen];omega
  case qc5=>omega
  case qc6=>exact hgs
  intro v' w1 hown1 hgrow hnil
  rw [←HE.out,←HT.out.2] at hown1
  have hg1:w.grownBy w1 (some g):=hgrow
  obtain ⟨⟨cur,hcur,-,-⟩,-⟩:=HR.out
  have hpl:∀ y∈xs ++ [x],PlTy w1 y.A y.c y.e.pl:=fun y hy=>by
   rcases List.mem_append.1 hy with hy | hy
   ·exact (HR.out.2.2.2 y hy).grown hcur hg1
   ·rw [List.mem_singleton.1 hy];exact HX.out.grown hcur hg1
  obtain ⟨g',cap',rfl,hgg,hRow⟩:=row_own hown1 (by simpa using hnil) hpl
  have HRow:Hid (RowE w1 g' cap' (xs ++ [x])):=hRow
  have HG:Hid (w.grownBy w1 (some g)):=hg1
  rw [HT.out.2]
  clear hown1 hgrow hnil hcur hpl hRow hg1
  go_wp2_with fail
  go_ret
  refine ⟨g',cap',rfl,?_,hgg,HG.out⟩
  rw [HT.out.1]
  exact HRow.out
theorem ent_over (w:World) (g vb o lb cb kB:Nat) (x:EnL) (cur:Array Value) (hvb:vb≠g) (hv:OneE w vb x) (hg:w.heap[g]?=some (.cells cur 69 (0,0))) (hk:cur.size=kB) (hk0:kB≠0) :
  (callFunc 194 #[.slice (some ⟨vb,0,none⟩) 1 1,.slice (some ⟨g,o,none⟩) lb cb]).run Tryz.prog w=.ok (.value (.bool false)) w:=by
 rw [run_callFunc_extern Tryz.func194 (by kernel_rfl) (by kernel_rfl) (by kernel_rfl) (e:=Extern.SlicesOverlaps.overlaps #[48,48] #[4]) (by kernel_rfl),
  Lib.run_overlaps_apart w 48 4 69 Tryz.underlying48 2 Tryz.sizeOf69 ⟨vb,0,none⟩ ⟨g,o,none⟩ 1 1 lb cb hvb 69 69 2 kB (by simp [World.shape?,show w.heap[vb]?=_ from hv]) (by simp [World.shape?,hg,hk]) hk0 (Lib.frozen_of_heap hv 0) (Lib.frozen_of_heap hv 2)]
 rfl
set_option maxHeartbeats 4000000 in
theorem insert_shift (g cap i vb:Nat) (xs:List EnL) (x:EnL) (w:World) (hn:xs.length≤3000) (hi:i<xs.length) (hroom:xs.length+1≤cap) (hvb:vb≠g) (hR:RowE w g cap xs) (hx:PlTy w x.A x.c x.e.pl) (hv:OneE w vb x) :
  Calls Tryz.prog 155 #[.slice (some ⟨g,0,none⟩) xs.length cap,.int .i64 i,.slice (some ⟨vb,0,none⟩) 1 1] w fun e w'=>Inserted w g i xs x e w':=by
 obtain ⟨i0,hi0,hz0,hz1,hz2⟩:=info_parts Tryz.infoEnt
 have hsz:(Tryz.prog.info? 69).map (·.size)=some 2:=by rw [hi0];simp [hz1]
 have hcm:=hR.2.2.1
 unfold maxLen at hcm
 obtain ⟨⟨cur,hcur,hcs,hct⟩,-,-,hpl⟩:=id hR
 have hov:∀ o lb cb,(callFunc 194 #[.slice (some ⟨vb,0,none⟩) 1 1,.slice (some ⟨g,o,none⟩) lb cb]).run Tryz.prog w=.ok (.value (.bool false)) w:=fun o lb cb=>ent_over w g vb o lb cb (cap*2) x cur hvb hv hcur hcs (by omega)
 obtain ⟨n,hnn⟩:∃ n,xs.length=n:=⟨_,rfl⟩
 have hdl:(cellsE (xs.drop i)).length=(n-i)*2:=by rw [cellsE_len,List.length_drop,hnn]
 obtain ⟨C1,hC1⟩:∃ C1,C1=cur.toList.take ((i+1)*2) ++ cellsE (xs.drop i) ++ cur.toList.drop ((i+1)*2+(cellsE (xs.drop i)).length):=⟨_,rfl⟩
 obtain ⟨C2,hC2⟩:∃ C2,C2=C1.take (i*2) ++ cellsE [x] ++ C1.drop (i*2+(cellsE [x]).length):=⟨_,rfl⟩
 have hlen:(xs.length+1)*2≤cur.toList.length:=by
  have h1:cur.toList.length=cap*2:=by simpa using hcs
  omega
 obtain ⟨hl2,ht2⟩:=ins_cells hct hlen (Nat.le_of_lt hi) hC1 hC2
 have hl1:C1.length=cur.size:=by
  rw [hC1]
  simp only [List.length_append,List.length_take,List.length_drop,hdl,Array.length_toList,hcs]
  omega
 have hcp1:∀ ty dc sc,(Builtin.copy_ #[48,48] ty #[.slice (some ⟨g,(i+1)*2,none⟩) (n-i) dc,.slice (some ⟨g,i*2,none⟩) (n+1-i) sc]).run Tryz.prog w.drew=.ok (goInt (Nat.min (n+1-i) (n-i))) (w.drew.setRow g C1.toArray):=fun ty dc sc=>by
  rw [hC1]
  exact run_copy_k 2 w.drew _ _ ty 69 g ((i+1)*2) (n-i) dc ⟨g,i*2,none⟩ (n+1-i) sc cur 69 (cellsE (xs.drop i)) Tryz.underlying48 hsz hcur (by rw [hdl];simp only [Nat.min_def];split <;> omega)
   (fun j v hj=>by
    rw [plain_add]
    refine hR.cells (i*2+j) v ?_
    rw [←cellsE_drop,List.getElem?_drop] at hj
    exact hj)
   (by rw [hdl];omega) (cellsE_one _)
 have hW1:(w.drew.setRow g C1.toArray).heap[g]?=some (.cells C1.toArray 69 (0,0)):=setRow_heap w.drew g cur _ _ _ hcur
 have hcp2:∀ (W:World),W.heap=(w.drew.setRow g C1.toArray).heap→∀ ty dc,(Builtin.copy_ #[48,48] ty #[.slice (some ⟨g,i*2,none⟩) (n+1-i) dc,.slice (some ⟨vb,0,none⟩) 1 1]).run Tryz.prog W=.ok (goInt (Nat.min 1 (n+1-i))) (W.setRow g C2.toArray):=fun W hW ty dc=>by
  have h:=run_copy_k (P:=Tryz.prog) 2 W _ 48 ty 69 g (i*2) (n+1-i) dc ⟨vb,0,none⟩ 1 1 C1.toArray 69 (cellsE [x]) Tryz.underlying48 hsz (by rw [hW];exact hW1) (by rw [cellsE_len];simp only [Nat.min_def];split <;> simp <;> omega)
   (fun j v hj=>by
    rw [plain_add,Nat.zero_add]
    have hb:W.heap[vb]?=w.heap[vb]?:=by rw [hW,setRow_other _ _ _ _ hvb];rfl
    exact (World.cell?_of_block (a:=⟨vb,j,none⟩) hb).trans (hv.cells j v hj))
   (by rw [cellsE_len];simp [hl1,hcs];omega) (cellsE_one _)
  rw [h,hC2]
 have HFin:Hid (∀ w',w'.heap=((w.drew.setRow g C1.toArray).setRow g C2.toArray).heap→w'.os=w.os→w'.tape=w.tape→w'.output=w.output→RowE w' g cap (xs.take i ++ x :: xs.drop i)∧w.grownBy w' (some g)):=by
  intro w' hw' h1 h2 h3
  rw [setRow_setRow] at hw'
  have hg':w.grownBy w' (some g):=⟨h1,h2,h3,by rw [hw',setRow_size];exact Nat.le_refl _,fun k hk hne=>by rw [hw',setRow_other _ _ _ _ fun e=>hne (by rw [e])];rfl⟩
  refine ⟨⟨⟨C2.toArray,by rw [hw'];exact setRow_heap w.drew g cur _ _ _ hcur,by rw [List.size_toArray,hl2,Array.length_toList,hcs],ht2⟩,by simp;omega,hR.2.2.1,fun y hy=>?_⟩,hg'⟩
  refine PlTy.grown ?_ hcur hg'
  rcases List.mem_append.1 hy with hy | hy
  ·exact hpl y (List.mem_of_mem_take hy)
  ·rcases List.mem_cons.1 hy with rfl | hy
   ·exact hx
   ·exact hpl y (List.mem_of_mem_drop hy)
 unfold Inserted
 rw [hnn] at hn hi hroom ⊢
 have hn':(n:Int)≤3000:=by omega
 have hi':(i:Int)<(n:Int):=by omega
 have hr':(n:Int)+1≤(cap:Int):=by omega
 have hz2 : ¬ ((i:Int)=(n:Int)):=by omega
 have hb2 : ¬ (cap=i+1):=by omega
 have hb4 : ¬ (cap=i):=by omega
 have hw1:IntKind.i64.wrap ((i:Int)+1)=(i:Int)+1:=by rw [IntKind.wrap_i64];omega
 have hb1:(0:Int)≤(i:Int)+1:=by omega
 have htn:((i:Int)+1).toNat=i+1:=by omega
 have hin:i≤n:=by omega
 have hb3:(i:Int)≤(n:Int)+1:=by omega
 clear hcm hpl hnn hl1 hl2 ht2 hC1 hC2 hlen hdl hW1 hcur hcs hct hR hx hv
 go_enter Tryz.func155,Tryz.ntmps155
 go_wp2_with (simp only [hov])
 go_region_law (refine step_copy_runI rfl _ _ 48 48 rfl _ _ (by simp [Act.eval,Act.put]) (by simp [Act.eval,Act.put]) (hcp1 _ _ _) ?_)
 go_wp2_with (at_builtin;refine wpList_copy_runI _ rfl _ _ 48 48 rfl _ _ rfl rfl (hcp2 _ rfl _ _) ?_)
 go_ret
 obtain ⟨h1,h2⟩:=HFin.out _ rfl rfl rfl rfl
 exact ⟨g,cap,rfl,h1,Nat.le_refl _,h2⟩
theorem zero_size (k:Nat):(Builtin.zeroCells (Value.agg #[.slice none 0 0,.int .i64 0]).cells k).size=k*2:=by
 simp [Builtin.zeroCells,Value.cells]
set_option maxHeartbeats 4000000 in
theorem insert_grow (g cap i vb:Nat) (xs:List EnL) (x:EnL) (w:World) (hn:xs.length≤3000) (hi:i<xs.length) (hroom:cap<xs.length+1) (hR:RowE w g cap xs) (hx:PlTy w x.A x.c x.e.pl) (hv:OneE w vb x) :
  Calls Tryz.prog 155 #[.slice (some ⟨g,0,none⟩) xs.length cap,.int .i64 i,.slice (some ⟨vb,0,none⟩) 1 1] w fun e w'=>Inserted w g i xs x e w':=by
 obtain ⟨i0,hi0,hz0,hz1,hz2⟩:=info_parts Tryz.infoEnt
 have hsz:(Tryz.prog.info? 69).map (·.size)=some 2:=by rw [hi0];simp [hz1]
 have hcm:=hR.2.2.1
 unfold maxLen at hcm
 have hnc:=hR.2.1
 have hgw:g<w.heap.size:=hR.lt
 have hvw:vb<w.heap.size:=(Array.getElem?_eq_some_iff.1 hv).1
 obtain ⟨n,hnn⟩:∃ n,xs.length=n:=⟨_,rfl⟩
 rw [hnn] at hn hi hroom hnc
 have hdl:(cellsE (xs.drop i)).length=(n-i)*2:=by rw [cellsE_len,List.length_drop,hnn]
 have htl:(cellsE (xs.take i)).length=i*2:=by rw [cellsE_len,List.length_take,hnn,Nat.min_eq_left (by omega)]
 have hkk:(n:Int)+1-(i:Int)=((n+1-i:Nat):Int):=by omega
 have hik:i+(n+1-i)=n+1:=by omega
 have hold:(Builtin.firstCells i0.size i (.slice (some ⟨g,0,none⟩) i cap)).run Tryz.prog w.drew=.ok (cellsE (xs.take i)).toArray w.drew:=by
  rw [hz1]
  exact run_firstCells_some w.drew 2 i ⟨g,0,none⟩ i cap (cellsE (xs.take i)) htl (fun j v hj=>by
   rw [plain_add,Nat.zero_add]
   rw [←cellsE_take,List.getElem?_take] at hj
   split at hj
   ·exact hR.cells j v hj
   ·cases hj)
 obtain ⟨G,hG⟩:∃ G,G=grownCap w (n+1) cap 69:=⟨_,rfl⟩
 obtain ⟨ROW,hROW⟩:∃ ROW:Array Value,ROW=(cellsE (xs.take i)).toArray ++ Builtin.zeroCells (Value.agg #[.slice none 0 0,.int .i64 0]).cells (n+1-i) ++ Builtin.zeroCells (Value.agg #[.slice none 0 0,.int .i64 0]).cells (G-(n+1)):=⟨_,rfl⟩
 have hrz:∀ ty,(Builtin.append_ #[48,3] ty #[.slice (some ⟨g,0,none⟩) i cap,.int .i64 ((n:Int)+1-(i:Int))]).run Tryz.prog w=.ok (.slice (some ⟨w.heap.size,0,none⟩) (n+1) G) (w.drew.alloc (.cells ROW 69)):=fun ty=>by
  have h:=Lib.run_append_grow_zeros w 48 3 ty 69 i0 _ .i64 .i64 Tryz.underlying48 Tryz.underlying3 hi0 hz0 (some ⟨g,0,none⟩) i cap (cellsE (xs.take i)) hold (n+1-i) (by omega) (by omega) (by omega) (by omega) (by rw [hz2];omega) (by rw [hz2,hik];exact growslice_fits hroom (by omega))
  rw [hik] at h
  rw [hkk,hROW,hG]
  exact h
 have hGn:n+1≤G:=by rw [hG];exact grownCap_ge w _ _ _
 have hG63:G≤maxLen:=by
  rw [hG]
  exact grownCap_le_maxLen w (n+1) cap 69 (by unfold maxLen;omega)
 have hRs:ROW.size=G*2:=by
  rw [hROW,Array.size_append,Array.size_append,zero_size,zero_size,List.size_toArray,htl]
  omega
 obtain ⟨C1,hC1⟩:∃ C1,C1=ROW.toList.take (i*2) ++ cellsE [x] ++ ROW.toList.drop (i*2+(cellsE [x]).length):=⟨_,rfl⟩
 obtain ⟨C2,hC2⟩:∃ C2,C2=C1.take ((i+1)*2) ++ cellsE (xs.drop i) ++ C1.drop ((i+1)*2+(cellsE (xs.drop i)).length):=⟨_,rfl⟩
 have hRl:ROW.toList.length=G*2:=by simpa using hRs
 have hRt:ROW.toList.take (i*2)=cellsE (xs.take i):=by
  rw [hROW,Array.toList_append,Array.toList_append,List.append_assoc]
  exact take_join htl
 obtain ⟨hl2,ht2⟩:=grow_cells (xs:=xs) (x:=x) (i:=i) hRt (by rw [hRl,hnn];omega) (by omega) hC1 hC2
 have hx2:(cellsE [x]).length=2:=by rw [cellsE_len];rfl
 have hl1:C1.length=G*2:=by
  rw [hC1]
  simp only [List.length_append,List.length_take,List.length_drop,hx2,hRl]
  omega
 have hW1:(w.drew.alloc (.cells ROW 69)).heap[w.heap.size]?=some (.cells ROW 69 (0,0)):=heap_alloc_new w.drew _
 have hOld:∀ k,k<w.heap.size→(w.drew.alloc (.cells ROW 69)).heap[k]?=w.heap[k]?:=fun k hk=>Below.heap_alloc w.drew _ k hk
 have hcpA:∀ (W:World),W.heap=(w.drew.alloc (.cells ROW 69)).heap→∀ ty dc,(Builtin.copy_ #[48,48] ty #[.slice (some ⟨w.heap.size,i*2,none⟩) (n+1-i) dc,.slice (some ⟨vb,0,none⟩) 1 1]).run Tryz.prog W=.ok (goInt (Nat.min 1 (n+1-i))) (W.setRow w.heap.size C1.toArray):=fun W hW ty dc=>by
  have h:=run_copy_k (P:=Tryz.prog) 2 W _ 48 ty 69 w.heap.size (i*2) (n+1-i) dc ⟨vb,0,none⟩ 1 1 ROW 69 (cellsE [x]) Tryz.underlying48 hsz (by rw [hW];exact hW1) (by rw [hx2];simp only [Nat.min_def];split <;> omega)
   (fun j v hj=>by
    rw [plain_add,Nat.zero_add]
    have hb:W.heap[vb]?=w.heap[vb]?:=by rw [hW];exact hOld vb hvw
    exact (World.cell?_of_block (a:=⟨vb,j,none⟩) hb).trans (hv.cells j v hj))
   (by rw [hx2,hRs];omega) (cellsE_one _)
  rw [h,hC1]
 have hW2:((w.drew.alloc (.cells ROW 69)).setRow w.heap.size C1.toArray).heap[w.heap.size]?=some (.cells C1.toArray 69 (0,0)):=setRow_heap _ _ ROW _ _ _ hW1
 have hcpB:∀ (W:World),W.heap=((w.drew.alloc (.cells ROW 69)).setRow w.heap.size C1.toArray).heap→∀ ty dc sc,(Builtin.copy_ #[48,48] ty #[.slice (some ⟨w.heap.size,(i+1)*2,none⟩) (n-i) dc,.slice (some ⟨g,i*2,none⟩) (n-i) sc]).run Tryz.prog W=.ok (goInt (Nat.min (n-i) (n-i))) (W.setRow w.heap.size C2.toArray):=fun W hW ty dc sc=>by
  have h:=run_copy_k (P:=Tryz.prog) 2 W _ 48 ty 69 w.heap.size ((i+1)*2) (n-i) dc ⟨g,i*2,none⟩ (n-i) sc C1.toArray 69 (cellsE (xs.drop i)) Tryz.underlying48 hsz (by rw [hW];exact hW2) (by rw [hdl];simp only [Nat.min_def];split <;> omega)
   (fun j v hj=>by
    rw [plain_add]
    have hb:W.heap[g]?=w.heap[g]?:=by rw [hW,setRow_other _ _ _ _ (Nat.ne_of_lt hgw)];exact hOld g hgw
    refine (World.cell?_of_block (a:=⟨g,i*2+j,none⟩) hb).trans (hR.cells (i*2+j) v ?_)
    rw [←cellsE_drop,List.getElem?_drop] at hj
    exact hj)
   (by rw [hdl,List.size_toArray,hl1];omega) (cellsE_one _)
  rw [h,hC2]
 have HFin:Hid (∀ w',w'.heap=(((w.drew.alloc (.cells ROW 69)).setRow w.heap.size C1.toArray).setRow w.heap.size C2.toArray).heap→w'.os=w.os→w'.tape=w.tape→w'.output=w.output→RowE w' w.heap.size G (xs.take i ++ x :: xs.drop i)∧w.grownBy w' (some g)):=by
  intro w' hw' h1 h2 h3
  rw [setRow_setRow] at hw'
  have hB:Below w.heap.size w w':=⟨h1,h2,h3,by rw [hw',setRow_size];show w.heap.size≤(w.alloc _).heap.size;simp,fun k hk=>by rw [hw',setRow_other _ _ _ _ (Nat.ne_of_lt hk)];exact hOld k hk⟩
  refine ⟨⟨⟨C2.toArray,by rw [hw'];exact setRow_heap _ _ ROW _ _ _ hW1,by rw [List.size_toArray,hl2,hRl],ht2⟩,by simp;omega,hG63,fun y hy=>?_⟩,grown_below hB⟩
  refine PlTy.later ?_ hB
  rcases List.mem_append.1 hy with hy | hy
  ·exact hR.2.2.2 y (List.mem_of_mem_take hy)
  ·rcases List.mem_cons.1 hy with rfl | hy
   ·exact hx
   ·exact hR.2.2.2 y (List.mem_of_mem_drop hy)
 have hE1:((w.alloc (.cells ROW 69)).drew).heap=(w.drew.alloc (.cells ROW 69)).heap:=rfl
 have hF1:(((w.alloc (.cells ROW 69)).drew.setRow w.heap.size C1.toArray).drew).heap=((w.drew.alloc (.cells ROW 69)).setRow w.heap.size C1.toArray).heap:=rfl
 unfold Inserted
 rw [hnn]
 unfold maxLen at hG63
 have hn':(n:Int)≤3000:=by omega
 have hi':(i:Int)<(n:Int):=by omega
 have hr':(cap:Int)<(n:Int)+1:=by omega
 have hne : ¬ ((i:Int)=(n:Int)):=by omega
 have hGi : ¬ (G=i):=by omega
 have hGim : ¬ (G=i+1):=by omega
 have hci : ¬ (cap=i):=by omega
 have hw1:IntKind.i64.wrap ((i:Int)+1)=(i:Int)+1:=by rw [IntKind.wrap_i64];omega
 have hb1:(0:Int)≤(i:Int)+1:=by omega
 have htn:((i:Int)+1).toNat=i+1:=by omega
 have hin:i≤n:=by omega
 have hb3:(i:Int)≤(n:Int)+1:=by omega
 have hgl:g≤w.heap.size:=Nat.le_of_lt hgw
 clear hnn hl1 hl2 ht2 hC1 hC2 hdl htl hW1 hW2 hR hx hv hkk hik hold hROW hG hRs hRl hRt hx2 hOld
 go_enter Tryz.func155,Tryz.ntmps155
 go_wp2_with (first
  | (at_builtin;refine Lib.wpList_append_run _ rfl _ _ _ _ rfl _ _ rfl rfl _ _ (hrz _) ?_)
  | (at_builtin;refine wpList_copy_runI _ rfl _ _ 48 48 rfl _ _ rfl rfl (hcpA _ hE1 _ _) ?_))
 go_region_law (refine step_copy_runI rfl _ _ 48 48 rfl (.slice (some ⟨w.heap.size,(i+1)*2,none⟩) (n-i) (G-(i+1))) (.slice (some ⟨g,i*2,none⟩) (n-i) (cap-i)) (by simp [Act.eval,Act.put]) (by simp [Act.eval,Act.put]) (hcpB _ hF1 3 (G-(i+1)) (cap-i)) ?_)
 go_wp2_with fail
 go_ret
 obtain ⟨h1,h2⟩:=HFin.out (((w.alloc (.cells ROW 69)).drew.setRow w.heap.size C1.toArray).drew.setRow w.heap.size C2.toArray) rfl rfl rfl rfl
 exact ⟨w.heap.size,G,rfl,h1,hgl,h2⟩
theorem insert_any (g cap i vb:Nat) (xs:List EnL) (x:EnL) (w:World) (hn:xs.length≤3000) (hi:i≤xs.length) (hvb:vb≠g) (hR:RowE w g cap xs) (hx:PlTy w x.A x.c x.e.pl) (hv:OneE w vb x) :
  Calls Tryz.prog 155 #[.slice (some ⟨g,0,none⟩) xs.length cap,.int .i64 i,.slice (some ⟨vb,0,none⟩) 1 1] w fun e w'=>Inserted w g i xs x e w':=by
 rcases Nat.eq_or_lt_of_le hi with rfl | hlt
 ·exact insert_end g cap vb xs x w hn hR hx hv
 ·rcases Nat.lt_or_ge cap (xs.length+1) with hc | hc
  ·exact insert_grow g cap i vb xs x w hn hlt hc hR hx hv
  ·exact insert_shift g cap i vb xs x w hn hlt hc hvb hR hx hv
end Go.Proofs.YtfngmnhkhfgmjahGreatDoor
namespace Go.Proofs.YtfngmnhkhfgmjahGreatDoor
open Go.ChangeShapes Go.WideShapes Go.ChangeAt Go.RowKit
set_option maxRecDepth 20000
set_option maxHeartbeats 2000000 in
theorem cclone_any (b o c:Nat) (L:List (Int×Int)) (w:World) (hl0:0<L.length) (hl3:L.length≤3000) (hL:CelAt w b o L):Calls Tryz.prog 31 #[.slice (some ⟨b,o,none⟩) L.length c] w fun e w'=>(∃ g c',e=.returned (.slice (some ⟨g,0,none⟩) L.length c')∧w.heap.size≤g∧L.length≤c'∧c'≤9223372036854775807∧CelB w' g L)∧Below w.heap.size w w':=by
 have hq:∀ (w:World) (a:Option Addr) (n c n' c':Nat),(binOp .eql 53 (.slice a n c) (.slice none n' c')).run Tryz.prog w=.ok (.bool a.isNone) w:=fun w a n c n' c'=>Lib.run_eql_slice_nil w _ _ a n c n' c' Tryz.underlying53
 obtain ⟨i0,hi0,hz0,hz1,hz2⟩:=info_parts Tryz.infoCe
 have HC:Hid (∀ j u,(cellsC L)[j]?=some u→w.cell? ((⟨b,o,none⟩:Addr).add j)=some u):=fun j u hj=>by rw [plain_add];exact hL.cells j u hj
 have HF:Hid (∀ (w':World) (v:Value),w'.ownsRow w.heap.size 40 2 v L.length (cellsC L)→∃ g c',v=.slice (some ⟨g,0,none⟩) L.length c'∧w.heap.size≤g∧L.length≤c'∧c'≤9223372036854775807∧CelB w' g L):=fun w' v h=>celB_own h hl0
 have hl:(cellsC L).length=L.length*2:=cellsC_len L
 have h1:=cellsC_one L
 clear hL
 go_enter Tryz.func31,Tryz.ntmps31
 go_wp2_with (at_builtin;refine wpList_append_own _ rfl _ _ 53 rfl w.heap.size 40 i0 (.agg #[.int .i64 0,.int .i64 0]) 2 16 Tryz.underlying53 hi0 hz0 hz1 hz2 rfl (by decide) _ _ _ rfl (World.ownsRow_made w #[] 0 (Nat.le_refl _) (Nat.zero_le _) (by simp)) ⟨b,o,none⟩ L.length c (cellsC L) rfl ?qc1 ?qc2 ?qc3 ?qc4 ?qc5 ?qc6 ?_)
 case qc1=>exact hl
 case qc2=>exact fun j u hj=>Lib.cell?_alloc_some _ (HC.out j u hj)
 case qc3=>exact h1
 case qc4=>simp only [maxLen];omega
 case qc5=>omega
 case qc6=>simp
 intro v' w1 hown hgrow hnil
 obtain ⟨g,c',rfl,hg⟩:=HF.out _ _ hown
 have HT:Hid (w.heap.size≤g∧L.length≤c'∧c'≤9223372036854775807∧CelB w1 g L):=hg
 have HB:Hid (Below w.heap.size w w1):=((Below.refl _ w).alloc (Nat.le_refl _) _).grown hgrow (by simp) (by intro k hk;simp [Value.ownBlock] at hk;omega)
 clear hown hgrow hnil hg
 go_wp2_with fail
 go_ret
 exact ⟨⟨g,c',rfl,HT.out⟩,HB.out⟩
theorem pair_set {w:World} {q:Nat} {x y a b:Value} {T:Nat} (h:w.heap[q]?=some (.cells #[x,y] T)):((w.setCell ⟨q,0,none⟩ a).setCell ⟨q,1,none⟩ b).heap[q]?=some (.cells #[a,b] T):=by
 simp [World.setCell,Array.getElem?_modify,h]
theorem pair_grown {w w':World} {q:Nat} {a b:Value} (h:w.grownBy w' (some q)):w.grownBy ((w'.setCell ⟨q,0,none⟩ a).setCell ⟨q,1,none⟩ b) (some q) :=
 ⟨h.os,h.tape,h.output,by simpa [World.setCell] using h.size,fun i hi hr=>(Below.heap_setCell _ ⟨q,1,none⟩ b i fun e=>hr (by rw [e])).trans ((Below.heap_setCell w' ⟨q,0,none⟩ a i fun e=>hr (by rw [e])).trans (h.block i hi hr))⟩
theorem grown_then {w w1 w2:World} {r:Option Nat} (h:w.grownBy w1 r) (k:Below w1.heap.size w1 w2):w.grownBy w2 r :=
 ⟨k.os.trans h.os,k.tape.trans h.tape,k.output.trans h.output,Nat.le_trans h.size k.size,fun i hi hr=>(k.block i (Nat.lt_of_lt_of_le hi h.size)).trans (h.block i hi hr)⟩
theorem pair_at {w:World} {q:Nat} {x y:Value} {T:Nat} (h:w.heap[q]?=some (.cells #[x,y] T)):w.cell? ⟨q,0,none⟩=some x∧w.cell? ⟨q,1,none⟩=some y∧w.frozen? ⟨q,0,none⟩=false∧w.frozen? ⟨q,1,none⟩=false :=
 ⟨by rw [Lib.cell_of_heap h];rfl,by rw [Lib.cell_of_heap h];rfl,Lib.frozen_of_heap h 0,Lib.frozen_of_heap h 1⟩
theorem take_part {M:Nat→Mem} {at':Int→Int×Int} {P:List Int} {k:Nat} (h:k<P.length):(P.take (k+1)).foldl (partStep M at') (0,0)=partStep M at' ((P.take k).foldl (partStep M at') (0,0)) (P.getD k 0):=by
 rw [List.take_succ_eq_append_getElem h,List.foldl_append,List.getD_eq_getElem?_getD,List.getElem?_eq_getElem h]
 rfl
def BoxN (w:World) (q:Nat) (v:Value):Prop:=q<w.heap.size∧w.cell? ⟨q,0,none⟩=some v
theorem BoxN.same {w w':World} {q:Nat} {v:Value} (h:BoxN w q v) (hz:w.heap.size≤w'.heap.size) (hb:w'.heap[q]?=w.heap[q]?):BoxN w' q v :=
 ⟨Nat.lt_of_lt_of_le h.1 hz,(World.cell?_of_block (a:=⟨q,0,none⟩) hb).trans h.2⟩
theorem BoxN.later {w w':World} {q:Nat} {v:Value} (h:BoxN w q v) (hB:Below w.heap.size w w'):BoxN w' q v:=h.same hB.size (hB.block q h.1)
theorem cel_grown {w w':World} {g i j:Nat} {a b:Value} (h:w.grownBy w' (some g)):w.grownBy ((w'.setCell ⟨g,i,none⟩ a).setCell ⟨g,j,none⟩ b) (some g) :=
 ⟨h.os,h.tape,h.output,by simpa [World.setCell] using h.size,fun k hk hr=>(Below.heap_setCell _ ⟨g,j,none⟩ b k fun e=>hr (by rw [e])).trans ((Below.heap_setCell w' ⟨g,i,none⟩ a k fun e=>hr (by rw [e])).trans (h.block k hk hr))⟩
theorem boxn_other {w w':World} {q g:Nat} {v:Value} (h:BoxN w q v) (hne:q≠g) (hG:w.grownBy w' (some g)):BoxN w' q v:=h.same hG.size (hG.block q h.1 fun e=>hne (by simpa using e))
theorem getD_set {L:List (Int×Int)} {x y:Nat} {c:Int×Int} (hx:x<L.length):(L.set x c).getD y (0,0)=if y=x then c else L.getD y (0,0):=by
 by_cases e:y=x
 ·subst e;rw [if_pos rfl];simp [List.getD,hx]
 ·rw [if_neg e];simp [List.getD,List.getElem?_set_ne (fun h=>e h.symm)]
theorem list_same {a b:List (Int×Int)} (hl:a.length=b.length) (h:∀ y,y<a.length→a.getD y (0,0)=b.getD y (0,0)):a=b:=by
 apply List.ext_getElem hl
 intro y h1 h2
 have:=h y h1
 simpa [List.getD,h1,h2] using this
section
variable {D:Nat→Dm} {n dim:Nat} (hp:∀ i,i<n→1≤(D i).n) (hd:dim<n) (ht:Tr (D dim).mem (D dim).n)
include hp hd ht
def FixAt (D:Nat→Dm) (n dim m:Nat) (L:List (Int×Int)):Prop := ∀ y,y<L.length→y / stepD D n dim % (D dim).n=m→partsOf (D dim).mem (D dim).n (m:Int)≠[]→L.getD y (0,0)=partsV (D dim).mem (atP D n dim m y L) (partsOf (D dim).mem (D dim).n m)
end
end Go.Proofs.YtfngmnhkhfgmjahGreatDoor
