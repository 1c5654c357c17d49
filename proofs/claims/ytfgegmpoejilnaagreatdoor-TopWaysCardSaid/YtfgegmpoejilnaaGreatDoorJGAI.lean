/-
  What the reader of package formula does, in whatever memory: the byte that is next, how many digits; a word that is handed on; where it stops.
-/
import Derived.WalkSmall
import Derived.Deep.AppendLies
import Derived.Deep.RegionLaw
import Derived.Deep.DeepCutAuto
import Derived.Test.YtfgegmpoejilnaaGreatDoorJGAH
namespace Go.Proofs.YtfgegmpoejilnaaGreatDoor
open Go.ChangeShapes Go.WideShapes Go.ChangeAt Go.RowKit
set_option maxRecDepth 20000
theorem below_drewN {B:Nat} {a w:World} (h:Below B a w) (n:Nat):Below B a (w.drewN n):=h.trans ⟨rfl,rfl,rfl,Nat.le_refl _,fun _ _=>rfl⟩
def RdAt (w:World) (q:Nat) (s:ByteArray) (a o:Nat) (tv:Value):Prop:=w.heap[q]?=some (.cells #[.string s,.int .i64 a,.int .i64 o,tv] 263 (0,0))
section
variable {w w':World} {q a o:Nat} {s:ByteArray} {tv:Value}
theorem RdAt.lt (h:RdAt w q s a o tv):q<w.heap.size:=(Array.getElem?_eq_some_iff.1 h).1
theorem RdAt.c0 (h:RdAt w q s a o tv):w.cell? ⟨q,0,none⟩=some (.string s):=by unfold RdAt at h;simp [World.cell?,h]
theorem RdAt.c1 (h:RdAt w q s a o tv):w.cell? ⟨q,1,none⟩=some (.int .i64 a):=by unfold RdAt at h;simp [World.cell?,h]
theorem RdAt.c2 (h:RdAt w q s a o tv):w.cell? ⟨q,2,none⟩=some (.int .i64 o):=by unfold RdAt at h;simp [World.cell?,h]
theorem RdAt.c3 (h:RdAt w q s a o tv):w.cell? ⟨q,3,none⟩=some tv:=by unfold RdAt at h;simp [World.cell?,h]
theorem RdAt.fr (h:RdAt w q s a o tv) (j:Nat):w.frozen? ⟨q,j,none⟩=false:=by unfold RdAt at h;simp [World.frozen?,h]
theorem RdAt.later (h:RdAt w q s a o tv) (hB:Below w.heap.size w w'):RdAt w' q s a o tv:=(hB.block q h.lt).trans h
theorem RdAt.same (h:RdAt w q s a o tv) (hB:w'.heap[q]?=w.heap[q]?):RdAt w' q s a o tv:=hB.trans h
theorem RdAt.set1 (h:RdAt w q s a o tv) (n:Nat):RdAt (w.setCell ⟨q,1,none⟩ (.int .i64 n)) q s n o tv:=by
 unfold RdAt at *
 rw [setCell_eq_setRow w q 1 _ _ (0,0) _ h,setRow_heap w q _ _ _ _ h]
 rfl
theorem RdAt.set2 (h:RdAt w q s a o tv) (n:Nat):RdAt (w.setCell ⟨q,2,none⟩ (.int .i64 n)) q s a n tv:=by
 unfold RdAt at *
 rw [setCell_eq_setRow w q 2 _ _ (0,0) _ h,setRow_heap w q _ _ _ _ h]
 rfl
end
set_option maxHeartbeats 1000000 in
theorem next_any (q a o:Nat) (s:ByteArray) (tv:Value) (w:World) (ha:a≤s.size) (hR:RdAt w q s a o tv):Calls Tryz.prog 243 #[.pointer (some ⟨q,0,none⟩)] w fun e w'=>e=.returned (.int .u8 (nextB s a))∧Below w.heap.size w w':=by
 have c0:=hR.c0
 have c1:=hR.c1
 have hq:=hR.lt
 clear hR
 by_cases he:a=s.size
 ·subst he
  have h0:nextB s s.size=0:=by simp [nextB]
  rw [h0]
  go_enter Tryz.func243,Tryz.ntmps243
  go_wp2_with fail
  go_quiet (fail)
  go_wp2_with fail
  go_ret
  exact ⟨rfl,below_drewN (Below.refl _ _) _⟩
 ·have hlt:a<s.size:=by omega
  have h0:nextB s a=byteN s a:=by simp [nextB,he]
  have hne : ¬ (a:Int)=(s.size:Int):=by omega
  have hby:=byteN_get s a hlt
  rw [h0]
  go_enter Tryz.func243,Tryz.ntmps243
  go_wp2_with fail
  go_quiet (fail)
  go_wp2_with fail
  go_quiet (fail)
  go_wp2_with fail
  go_ret
  exact ⟨rfl,below_drewN (below_drewN (Below.refl _ _) _) _⟩
theorem stop_any (q a o:Nat) (s:ByteArray) (tv:Value) (w:World) (hR:RdAt w q s a o tv):Calls Tryz.prog 228 #[.pointer (some ⟨q,0,none⟩)] w fun e w'=>e=.panicked [{ v:=.iface 261 (.int .i64 a),recovered:=false }]∧Below w.heap.size w w':=by
 have c1:=hR.c1
 clear hR
 go_enter Tryz.func228,Tryz.ntmps228
 go_wp2
 exact ⟨rfl,rfl,Below.refl _ _⟩
structure Kept (N:Nat) (X:Nat→Prop) (w w':World):Prop where
 os:w'.os=w.os
 tape:w'.tape=w.tape
 output:w'.output=w.output
 size:w.heap.size≤w'.heap.size
 block:∀ k,k<N→¬ X k→w'.heap[k]?=w.heap[k]?
section
variable {N:Nat} {X Y:Nat→Prop} {w w' w'':World}
theorem Kept.refl (N:Nat) (X:Nat→Prop) (w:World):Kept N X w w:=⟨rfl,rfl,rfl,Nat.le_refl _,fun _ _ _=>rfl⟩
theorem Kept.trans (h:Kept N X w w') (k:Kept N X w' w''):Kept N X w w'':=⟨k.os.trans h.os,k.tape.trans h.tape,k.output.trans h.output,Nat.le_trans h.size k.size,fun i hi hx=>(k.block i hi hx).trans (h.block i hi hx)⟩
theorem Kept.wide (h:Kept N X w w') (hx:∀ k,X k→Y k):Kept N Y w w':=⟨h.os,h.tape,h.output,h.size,fun i hi hy=>h.block i hi fun e=>hy (hx i e)⟩
theorem kept_below (h:Below w.heap.size w w') (hN:N≤w.heap.size):Kept N X w w':=⟨h.os,h.tape,h.output,h.size,fun i hi _=>h.block i (Nat.lt_of_lt_of_le hi hN)⟩
theorem kept_grown {q:Nat} (h:w.grownBy w' (some q)) (hN:N≤w.heap.size) (hX:X q):Kept N X w w':=⟨h.os,h.tape,h.output,h.size,fun i hi hx=>h.block i (Nat.lt_of_lt_of_le hi hN) fun e=>hx (by cases e;exact hX)⟩
end
theorem hid_of {p:Prop} (h:p):Hid p:=h
theorem setCell_off (w:World) (q j k:Nat) (v:Value) (h:k≠q):(w.setCell ⟨q,j,none⟩ v).heap[k]?=w.heap[k]?:=by
 simp only [World.setCell]
 rw [Array.getElem?_modify,if_neg (fun e=>h e.symm)]
theorem grownF_refl (w:World) (r:Option Nat):w.grownBy w r:=⟨rfl,rfl,rfl,Nat.le_refl _,fun _ _ _=>rfl⟩
theorem grownF_below {w w':World} {r:Option Nat} (h:Below w.heap.size w w'):w.grownBy w' r:=⟨h.os,h.tape,h.output,h.size,fun i hi _=>h.block i hi⟩
theorem grownF_set {w w':World} {q j:Nat} {v:Value} (h:w.grownBy w' (some q)):w.grownBy (w'.setCell ⟨q,j,none⟩ v) (some q) :=
 ⟨h.os,h.tape,h.output,by simpa using h.size,fun k hk hr=>by
  have hne:k≠q:=fun e=>hr (by rw [e])
  exact (setCell_off w' q j k v hne).trans (h.block k hk hr)⟩
inductive Stp:Nat→Bool→ByteArray→Nat→Bool→Prop
 | opn (o:Nat) (t:ByteArray):t.size=1→byteN t 0=40→Stp o false t (o+1) false
 | cls (o:Nat) (t:ByteArray):t.size=1→byteN t 0=41→Stp (o+1) true t o true
 | num (o:Nat) (t:ByteArray):1≤t.size→t.size≤7→(∀ i,i<t.size→digB (byteN t i)=true)→Stp o false t o true
 | nam (o:Nat) (t:ByteArray):1≤t.size→(∀ i,i<t.size→letB (byteN t i)=true)→Stp o false t o true
 | sgn (o:Nat) (t:ByteArray):t.size=1→0≤signI (byteN t 0)→Stp o true t o false
structure Tkr (S:Type) where
 N:Nat
 p:Nat
 M:Nat
 F:Nat
 first:Array Value
 tk:S→ByteArray→S
 I:S→World→Prop
 G:Nat→Nat→Bool→S→Prop
def Tkr.fv {S:Type} (T:Tkr S):Value:=.func (.func T.F) T.first #[]
structure Tkr.Ok {S:Type} (T:Tkr S):Prop where
 small:T.M≤4611686018427387904
 ent:∀ (args:Array Value) (w:World),(callFunc T.F args).run Tryz.prog w=.ok (.enter T.F args) w
 stay:∀ (q:Nat) (st:S) (w w':World),q<T.N→q≠T.p→T.I st w→w.grownBy w' (some q)→T.I st w'
 step:∀ (a o:Nat) (ph:Bool) (st:S) (t:ByteArray) (o':Nat) (ph':Bool),Stp o ph t o' ph'→T.G a o ph st→a+t.size≤T.M→T.G (a+t.size) o' ph' (T.tk st t)
 call:∀ (a o:Nat) (ph:Bool) (st:S) (t:ByteArray) (o':Nat) (ph':Bool) (w:World),Stp o ph t o' ph'→T.G a o ph st→a+t.size≤T.M→T.N≤w.heap.size→T.I st w→Calls Tryz.prog T.F (T.first ++ #[.string t]) w fun e w'=>e=.returned (.tuple #[])∧T.I (T.tk st t) w'∧Kept T.N (fun k=>k=T.p) w w'
theorem slice_ok {s:ByteArray} {a n:Nat} (h:a+n≤s.size):(s.extract a (a+n)).size=n:=by rw [ByteArray.size_extract];omega
set_option maxHeartbeats 2000000 in
theorem word_any {S:Type} (T:Tkr S) (hT:T.Ok) (q a o oc n o':Nat) (ph ph':Bool) (s:ByteArray) (st:S) (w:World) (hs:s.size≤T.M) (hn:a+n≤s.size) (hq:q<T.N) (hqp:q≠T.p) (hN:T.N≤w.heap.size)
  (hR:RdAt w q s a oc T.fv) (hI:T.I st w) (hG:T.G a o ph st) (hS:Stp o ph (s.extract a (a+n)) o' ph') :
  Calls Tryz.prog 244 #[.pointer (some ⟨q,0,none⟩),.int .i64 n] w fun e w'=>e=.returned (.tuple #[])∧RdAt w' q s (a+n) oc T.fv∧T.I (T.tk st (s.extract a (a+n))) w'∧Kept T.N (fun k=>k=T.p∨k=q) w w':=by
 have hsm:=hT.small
 have hsz:=slice_ok hn
 obtain ⟨m,hm⟩:∃ m,a+n=m:=⟨_,rfl⟩
 rw [hm] at hn hS hsz ⊢
 have c0:=hR.c0
 have c1:=hR.c1
 have f1:=hR.fr 1
 have hqlt:=hR.lt
 have hsum:(a:Int)+(n:Int)=(m:Int):=by omega
 obtain ⟨W,hW⟩:∃ W,w.setCell ⟨q,1,none⟩ (.int .i64 (m:Int))=W:=⟨_,rfl⟩
 have hRW:RdAt W q s m oc T.fv:=by rw [←hW];exact hR.set1 m
 have hgW:w.grownBy W (some q):=by rw [←hW];exact grownF_set (grownF_refl w _)
 have hIW:=hT.stay q st w W hq hqp hI hgW
 have HC:Hid (∀ w',Below W.heap.size W w'→Calls Tryz.prog T.F (T.first ++ #[.string (s.extract a m)]) w' fun e w''=>e=.returned (.tuple #[])∧RdAt w'' q s m oc T.fv∧T.I (T.tk st (s.extract a m)) w''∧Kept T.N (fun k=>k=T.p∨k=q) w w''):=by
  intro w' hb
  have hIw':T.I st w':=hT.stay q st W w' hq hqp hIW (grownF_below hb)
  refine (hT.call a o ph st _ o' ph' w' hS hG (by omega) (Nat.le_trans hN (Nat.le_trans hgW.size hb.size)) hIw').mono ?_
  rintro e w'' ⟨rfl,h1,h2⟩
  refine ⟨rfl,?_,h1,?_⟩
  ·exact (hRW.later hb).same (h2.block q hq hqp)
  ·have k1:Kept T.N (fun k=>k=T.p∨k=q) w W:=kept_grown hgW hN (Or.inr rfl)
   have k2:Kept T.N (fun k=>k=T.p∨k=q) W w':=kept_below hb (Nat.le_trans hN hgW.size)
   exact (k1.trans k2).trans (h2.wide fun k e=>Or.inl e)
 have d0:=hRW.c0
 have d1:=hRW.c1
 have d3:=hRW.c3
 have hent:=hT.ent
 have hm1:(a:Int)≤(m:Int):=by omega
 have hm2:(m:Int)≤(s.size:Int):=by omega
 have hm3:(m:Int)≤4611686018427387904:=by omega
 have HT:Hid T.Ok:=hT
 clear hIW hgW hRW hI hG hS hR hT
 unfold Tkr.fv at *
 go_enter Tryz.func244,Tryz.ntmps244
 go_wp2_with fail
 clear c0 c1 f1 hW hsum
 go_region_law ((go_simp;refine (HC.out _ (by go_grown)).mono ?_;rintro e w2 ⟨rfl,k1,k2,k3⟩))
 all_goals (go_end0;exact ⟨rfl,k1,k2,k3⟩)
theorem next_zero {s:ByteArray} {a:Nat} (h:nextB s a≠0) (ha:a≤s.size):a<s.size:=by
 by_cases e:a=s.size
 ·subst e;simp [nextB] at h
 ·omega
theorem tail_size (s:ByteArray) (a:Nat):(s.extract a s.size).size=s.size-a:=by rw [ByteArray.size_extract];omega
set_option maxHeartbeats 1000000 in
theorem rdigits_any (q a o:Nat) (s:ByteArray) (tv:Value) (w:World) (hs:s.size≤4611686018427387904) (ha:a≤s.size) (hR:RdAt w q s a o tv):Calls Tryz.prog 246 #[.pointer (some ⟨q,0,none⟩)] w fun e w'=>e=.returned (.int .i64 (digitsN s a))∧Below w.heap.size w w':=by
 have hnx:=next_any q a o s tv w ha hR
 unfold digitsN
 by_cases h48:nextB s a=48
 ·rw [h48] at hnx
  rw [if_pos h48]
  clear h48
  go_enter Tryz.func246,Tryz.ntmps246
  go_wp2_with fail
  refine hnx.mono ?_
  rintro e w1 ⟨rfl,hb1⟩
  go_wp2_with fail
  go_ret
  exact ⟨rfl,hb1⟩
 ·have h48':(nextB s a == 48)=false:=by simpa using h48
  rw [if_neg h48]
  generalize nextB s a=c at *
  have HL:Hid (∀ w',Below w.heap.size w w'→Calls Tryz.prog 247 #[.string (s.extract a s.size),.func (.func 245) #[] #[]] w' fun e w''=>e=.returned (.int .i64 (leadN digB (s.extract a s.size)))∧Below w'.heap.size w' w''):=fun w' _=>leadd_any _ w' (by rw [tail_size];omega)
  generalize leadN digB (s.extract a s.size)=n at HL ⊢
  have HM:Hid (((min n 7:Nat):Int)=min (n:Int) 7):=by show _=_;omega
  have ha':(a:Int)≤(s.size:Int):=by omega
  have hs':(s.size:Int)≤4611686018427387904:=by omega
  go_enter Tryz.func246,Tryz.ntmps246
  go_wp2_with fail
  refine hnx.mono ?_
  rintro e w1 ⟨rfl,hb1⟩
  have hR1:=hR.later hb1
  have c0:=hR1.c0
  have c1:=hR1.c1
  have HB:Hid (Below w.heap.size w w1):=hb1
  clear hR1 hb1 hR
  go_wp2_with fail
  go_region_law ((go_simp;refine (HL.out _ (onB HB.out (by go_grown))).mono ?_;rintro e w2 ⟨rfl,hb2⟩;have hN2:=onB (onB (W0:=w) HB.out (by go_grown)) hb2;clear hb2))
  all_goals (go_wp2_with fail;all_goals (go_ret;refine ⟨?_,hN2⟩;first | (rw [HM.out];rfl) | (rw [show min n 7=7 by omega];rfl) | (rw [show min n 7=n by omega];rfl)))
structure RdS {S:Type} (T:Tkr S) (w:World) (q:Nat) (s:ByteArray) (ph:Bool) (r:Rd S):Prop where
 rd:RdAt w q s r.at' r.opn T.fv
 mem:T.I r.st w
 good:T.G r.at' r.opn ph r.st
 inn:r.at'≤s.size
 few:r.opn≤r.at'
 room:T.N≤w.heap.size
section
variable {S:Type} {T:Tkr S} {w w':World} {q:Nat} {s:ByteArray} {ph:Bool} {r:Rd S}
theorem RdS.later (h:RdS T w q s ph r) (hT:T.Ok) (hq:q<T.N) (hqp:q≠T.p) (hB:Below w.heap.size w w'):RdS T w' q s ph r :=
 ⟨h.rd.later hB,hT.stay q _ _ _ hq hqp h.mem (grownF_below hB),h.good,h.inn,h.few,Nat.le_trans h.room hB.size⟩
end
def mis (a:Nat):List PanicEntry:=[{ v:=.iface 261 (.int .i64 a),recovered:=false }]
def Went {S:Type} (T:Tkr S) (q:Nat) (s:ByteArray) (ph:Bool) (w:World) (x:Rd S×Bool) (e:Ending) (w':World):Prop:=Kept T.N (fun k=>k=T.p∨k=q) w w'∧((x.2=true∧e=.returned (.tuple #[])∧RdS T w' q s ph x.1)∨(x.2=false∧e=.panicked (mis x.1.at')))
section
variable {S:Type} {T:Tkr S} {w w':World} {q:Nat} {s:ByteArray} {ph:Bool} {x:Rd S×Bool} {r:Rd S}
theorem Went.ok (h:x=(r,true)) (hk:Kept T.N (fun k=>k=T.p∨k=q) w w') (hr:RdS T w' q s ph r):Went T q s ph w x (.returned (.tuple #[])) w':=⟨hk,Or.inl ⟨by rw [h],rfl,by rw [h];exact hr⟩⟩
theorem Went.no (h:x=(r,false)) (hk:Kept T.N (fun k=>k=T.p∨k=q) w w'):Went T q s ph w x (.panicked (mis r.at')) w':=⟨hk,Or.inr ⟨by rw [h],by rw [h]⟩⟩
end
theorem byteN_ext {s:ByteArray} {a b i:Nat} (h:i<b-a):byteN (s.extract a b) i=byteN s (a+i):=by
 unfold byteN
 rw [Lib.extract_data]
 simp only [List.getD,List.getElem?_take,List.getElem?_drop]
 rw [if_pos h]
theorem next_at {s:ByteArray} {a:Nat} (h:a<s.size):nextB s a=byteN s a:=by rw [nextB,if_neg (by omega)]
theorem sgn_stp {s:ByteArray} {a o:Nat} (ha:a≤s.size) (h : ¬ signI (nextB s a)<0):a+1≤s.size∧Stp o true (s.extract a (a+1)) o false:=by
 have hlt:a<s.size:=next_zero (fun e=>h (by rw [e];decide)) ha
 refine ⟨hlt,Stp.sgn o _ (slice_ok hlt) ?_⟩
 rw [byteN_ext (by omega),Nat.add_zero,←next_at hlt]
 omega
theorem RdS.word {S:Type} {T:Tkr S} {w w':World} {q n o o':Nat} {s:ByteArray} {ph ph':Bool} {r:Rd S} (hT:T.Ok) (hs:s.size≤T.M) (hn:r.at'+n≤s.size) (hG:T.G r.at' o ph r.st) (hS:Stp o ph (s.extract r.at' (r.at'+n)) o' ph') (ho:o'≤r.at'+n) (hN:T.N≤w.heap.size)
  (h1:RdAt w' q s (r.at'+n) o' T.fv) (h2:T.I (T.tk r.st (s.extract r.at' (r.at'+n))) w') (h3:Kept T.N (fun k=>k=T.p∨k=q) w w'):RdS T w' q s ph' (wordR s T.tk n ⟨r.at',o',r.st⟩):=by
 refine ⟨h1,h2,?_,hn,ho,Nat.le_trans hN h3.size⟩
 have h:=hT.step r.at' o ph r.st _ o' ph' hS hG (by rw [slice_ok hn];omega)
 rw [slice_ok hn] at h
 exact h
set_option maxHeartbeats 1000000 in
theorem sign_any {S:Type} (T:Tkr S) (hT:T.Ok) (q:Nat) (s:ByteArray) (r:Rd S) (w:World) (hs:s.size≤T.M) (hq:q<T.N) (hqp:q≠T.p) (hR:RdS T w q s true r) :
  Calls Tryz.prog 227 #[.pointer (some ⟨q,0,none⟩)] w fun e w'=>Went T q s false w (signR s T.tk r) e w':=by
 have hnx:=next_any q r.at' r.opn s T.fv w hR.inn hR.rd
 have hix0:=signix_any (nextB s r.at') (nextB_range s r.at').1 (nextB_range s r.at').2
 have HR:Hid (RdS T w q s true r):=hR
 have HT:Hid T.Ok:=hT
 by_cases h:signI (nextB s r.at')<0
 ·have h2:signR s T.tk r=(r,false):=by rw [signR,if_pos h]
  have H2:Hid (signR s T.tk r=(r,false)):=h2
  clear h2
  generalize signI (nextB s r.at')=c at *
  generalize nextB s r.at'=b at *
  clear hR hT
  go_enter Tryz.func227,Tryz.ntmps227
  go_wp2_with fail
  refine hnx.mono ?_
  rintro e w1 ⟨rfl,hb1⟩
  go_wp2_with fail
  refine (hix0 _).mono ?_
  rintro e w2 ⟨rfl,hb2⟩
  have HB:Hid (Below w.heap.size w w2):=onB hb1 hb2
  have HR2:Hid (RdS T w2 q s true r):=HR.out.later HT.out hq hqp HB.out
  clear hb1 hb2
  go_wp2_with fail
  refine (stop_any q r.at' r.opn s T.fv w2 HR2.out.rd).mono ?_
  rintro e w3 ⟨rfl,hb3⟩
  go_wp2_with fail
  exact ⟨rfl,Went.no H2.out (kept_below (onB HB.out hb3) HR.out.room)⟩
 ·obtain ⟨k1,k2⟩:=sgn_stp (o:=r.opn) hR.inn h
  have HS:Hid (Stp r.opn true (s.extract r.at' (r.at'+1)) r.opn false):=k2
  have h2:signR s T.tk r=(wordR s T.tk 1 r,true):=by rw [signR,if_neg h]
  have H2:Hid (signR s T.tk r=(wordR s T.tk 1 r,true)):=h2
  clear h2
  have h':0≤signI (nextB s r.at'):=by omega
  generalize signI (nextB s r.at')=c at *
  generalize nextB s r.at'=b at *
  clear hR hT k2 h
  go_enter Tryz.func227,Tryz.ntmps227
  go_wp2_with fail
  refine hnx.mono ?_
  rintro e w1 ⟨rfl,hb1⟩
  go_wp2_with fail
  refine (hix0 _).mono ?_
  rintro e w2 ⟨rfl,hb2⟩
  have HB:Hid (Below w.heap.size w w2):=onB hb1 hb2
  have HR2:Hid (RdS T w2 q s true r):=HR.out.later HT.out hq hqp HB.out
  clear hb1 hb2
  go_wp2_with fail
  refine (word_any T HT.out q r.at' r.opn r.opn 1 r.opn true false s r.st w2 hs k1 hq hqp HR2.out.room HR2.out.rd HR2.out.mem HR2.out.good HS.out).mono ?_
  rintro e w3 ⟨rfl,g1,g2,g3⟩
  have HK:Hid (Kept T.N (fun k=>k=T.p∨k=q) w w3):=(kept_below HB.out HR.out.room).trans g3
  have HR3:Hid (RdS T w3 q s false (wordR s T.tk 1 r)):=RdS.word (r:=r) (o':=r.opn) HT.out hs k1 HR2.out.good HS.out (by have:=HR2.out.few;omega) HR2.out.room g1 g2 g3
  clear g1 g2 g3
  go_wp2_with fail
  first | go_end0 | skip
  exact Went.ok H2.out HK.out HR3.out
section
variable {S:Type} {s:ByteArray} {tk:S→ByteArray→S} {r:Rd S}
theorem opens_hit (hr:r.at'<s.size) (h:nextB s r.at'=40):opensR s tk (s.size-r.at') r=opensR s tk (s.size-(r.at'+1)) (wordR s tk 1 ⟨r.at',r.opn+1,r.st⟩):=by
 rw [show s.size-r.at'=(s.size-(r.at'+1))+1 by omega,opensR,if_pos h]
theorem opens_miss (h:nextB s r.at'≠40):opensR s tk (s.size-r.at') r=r:=by
 cases e:s.size-r.at' with
 | zero=>rfl
 | succ k=>rw [opensR,if_neg h]
theorem closes_hit {f:Nat} (h1:0<r.opn) (h:nextB s r.at'=41):closesR s tk (f+1) r=closesR s tk f (wordR s tk 1 ⟨r.at',r.opn-1,r.st⟩):=by rw [closesR,if_pos ⟨h1,h⟩]
theorem closes_miss {f:Nat} (h : ¬ (0<r.opn∧nextB s r.at'=41)):closesR s tk f r=r:=by
 cases f with
 | zero=>rfl
 | succ k=>rw [closesR,if_neg h]
theorem opnd_dig (h:digB (nextB s (openedR s tk r).at')=true):operandR s tk r=(closesR s tk s.size (wordR s tk (digitsN s (openedR s tk r).at') (openedR s tk r)),true):=by rw [operandR,if_pos h]
theorem opnd_let (h0:digB (nextB s (openedR s tk r).at')=false) (h:letB (nextB s (openedR s tk r).at')=true):operandR s tk r=(closesR s tk s.size (wordR s tk (leadN letB (s.extract (openedR s tk r).at' s.size)) (openedR s tk r)),true):=by
 rw [operandR,if_neg (by rw [h0];decide),if_pos h]
theorem opnd_no (h0:digB (nextB s (openedR s tk r).at')=false) (h:letB (nextB s (openedR s tk r).at')=false):operandR s tk r=(openedR s tk r,false):=by
 rw [operandR,if_neg (by rw [h0];decide),if_neg (by rw [h];decide)]
end
theorem leadTo_all (p:Int→Bool) (t:ByteArray):∀ f i,i≤leadTo p t f i∧leadTo p t f i≤i+f∧∀ j,i≤j→j<leadTo p t f i→p (byteN t j)=true
 | 0,i=>⟨Nat.le_refl _,Nat.le_refl _,fun j h1 h2=>by simp only [leadTo] at h2;omega⟩
 | f+1,i=>by
  by_cases h:p (byteN t i)=true
  ·obtain ⟨h1,h2,h3⟩:=leadTo_all p t f (i+1)
   rw [leadTo,if_pos h]
   refine ⟨by omega,by omega,fun j hj hj'=>?_⟩
   by_cases e:i=j
   ·rw [←e];exact h
   ·exact h3 j (by omega) hj'
  ·rw [leadTo,if_neg h]
   exact ⟨Nat.le_refl _,by omega,fun j h1 h2=>by omega⟩
theorem lead_pos {p:Int→Bool} {t:ByteArray} (h0:0<t.size) (h:p (byteN t 0)=true):1≤leadN p t:=by
 unfold leadN
 obtain ⟨k,hk⟩:∃ k,t.size=k+1:=⟨t.size-1,by omega⟩
 rw [hk,leadTo,if_pos h]
 exact (leadTo_all p t k 1).1
theorem lead_word {p:Int→Bool} {s:ByteArray} {a n:Nat} (ha:a<s.size) (h:p (nextB s a)=true) (hn:n≤leadN p (s.extract a s.size)):1≤leadN p (s.extract a s.size)∧a+n≤s.size∧∀ i,i<n→p (byteN (s.extract a (a+n)) i)=true:=by
 obtain ⟨_,h2,h3⟩:=leadTo_all p (s.extract a s.size) (s.extract a s.size).size 0
 have hsz:=tail_size s a
 unfold leadN at *
 have h0:byteN (s.extract a s.size) 0=nextB s a:=by rw [byteN_ext (by omega),next_at ha];rfl
 refine ⟨lead_pos (by omega) (by rw [h0];exact h),by omega,fun i hi=>?_⟩
 have:=h3 i (Nat.zero_le _) (by omega)
 rw [byteN_ext (by omega)] at this ⊢
 exact this
theorem dig_word {s:ByteArray} {a o:Nat} (ha:a≤s.size) (h:digB (nextB s a)=true):a+digitsN s a≤s.size∧Stp o false (s.extract a (a+digitsN s a)) o true:=by
 have hlt:a<s.size:=next_zero (fun e=>by rw [e] at h;revert h;decide) ha
 have hle:1≤digitsN s a∧digitsN s a≤7∧digitsN s a≤leadN digB (s.extract a s.size):=by
  have:=(lead_word (n:=0) hlt h (Nat.zero_le _)).1
  unfold digitsN
  split <;> omega
 obtain ⟨-,h2,h3⟩:=lead_word hlt h hle.2.2
 refine ⟨h2,Stp.num o _ ?_ ?_ fun i hi=>h3 i ?_⟩
 ·rw [slice_ok h2];exact hle.1
 ·rw [slice_ok h2];exact hle.2.1
 ·rw [slice_ok h2] at hi;exact hi
theorem let_word {s:ByteArray} {a o:Nat} (ha:a≤s.size) (h:letB (nextB s a)=true):a+leadN letB (s.extract a s.size)≤s.size∧Stp o false (s.extract a (a+leadN letB (s.extract a s.size))) o true:=by
 have hlt:a<s.size:=next_zero (fun e=>by rw [e] at h;revert h;decide) ha
 obtain ⟨h1,h2,h3⟩:=lead_word hlt h (Nat.le_refl _)
 refine ⟨h2,Stp.nam o _ ?_ fun i hi=>h3 i ?_⟩
 ·rw [slice_ok h2];exact h1
 ·rw [slice_ok h2] at hi;exact hi
theorem opn_word {s:ByteArray} {a o:Nat} (ha:a≤s.size) (h:nextB s a=40):a+1≤s.size∧Stp o false (s.extract a (a+1)) (o+1) false:=by
 have hlt:a<s.size:=next_zero (by rw [h];decide) ha
 refine ⟨hlt,Stp.opn o _ (slice_ok hlt) ?_⟩
 rw [byteN_ext (by omega),Nat.add_zero,←next_at hlt]
 exact h
theorem cls_word {s:ByteArray} {a o:Nat} (ha:a≤s.size) (h:nextB s a=41):a+1≤s.size∧Stp (o+1) true (s.extract a (a+1)) o true:=by
 have hlt:a<s.size:=next_zero (by rw [h];decide) ha
 refine ⟨hlt,Stp.cls o _ (slice_ok hlt) ?_⟩
 rw [byteN_ext (by omega),Nat.add_zero,←next_at hlt]
 exact h
theorem RdS.open {S:Type} {T:Tkr S} {w:World} {q:Nat} {s:ByteArray} {ph:Bool} {r:Rd S} (hT:T.Ok) (hq:q<T.N) (hqp:q≠T.p) (h:RdS T w q s ph r) (o:Nat) :
  RdAt (w.setCell ⟨q,2,none⟩ (.int .i64 o)) q s r.at' o T.fv∧T.I r.st (w.setCell ⟨q,2,none⟩ (.int .i64 o))∧T.N≤(w.setCell ⟨q,2,none⟩ (.int .i64 o)).heap.size∧Kept T.N (fun k=>k=T.p∨k=q) w (w.setCell ⟨q,2,none⟩ (.int .i64 o)):=by
 have hg:w.grownBy (w.setCell ⟨q,2,none⟩ (.int .i64 o)) (some q):=grownF_set (grownF_refl w _)
 exact ⟨h.rd.set2 o,hT.stay q _ _ _ hq hqp h.mem hg,Nat.le_trans h.room hg.size,kept_grown hg h.room (Or.inr rfl)⟩
set_option maxHeartbeats 4000000 in
theorem operand_any {S:Type} (T:Tkr S) (hT:T.Ok) (q:Nat) (s:ByteArray) (r:Rd S) (w:World) (hs:s.size≤T.M) (hq:q<T.N) (hqp:q≠T.p) (hR:RdS T w q s false r) :
  Calls Tryz.prog 226 #[.pointer (some ⟨q,0,none⟩)] w fun e w'=>Went T q s true w (operandR s T.tk r) e w':=by
 have HR:Hid (RdS T w q s false r):=hR
 have HT:Hid T.Ok:=hT
 have hsm:=hT.small
 clear hR hT
 go_enter Tryz.func226,Tryz.ntmps226
 go_wp2_with fail
 go_loopg [] (s.size-r.at') (fun g wr => ∃ (r1:Rd S),g=s.size-r1.at'∧opensR s T.tk (s.size-r1.at') r1=openedR s T.tk r∧RdS T wr q s false r1∧Kept T.N (fun k=>k=T.p∨k=q) w wr)
 case atStart=>exact ⟨r,rfl,rfl,HR.out,Kept.refl _ _ _⟩
 case round =>
  obtain ⟨r1,rfl,ho,hR1,hk⟩:=hrel
  have HO:Hid (opensR s T.tk (s.size-r1.at') r1=openedR s T.tk r):=ho
  have HR1:Hid (RdS T wr q s false r1):=hR1
  have HK1:Hid (Kept T.N (fun k=>k=T.p∨k=q) w wr):=hk
  have hnx:=next_any q r1.at' r1.opn s T.fv wr hR1.inn hR1.rd
  have hfew:=hR1.few
  have hinn:=hR1.inn
  clear ho hk hR1
  by_cases h40:nextB s r1.at'=40
  ·obtain ⟨k1,k2⟩:=opn_word (o:=r1.opn) hinn h40
   have HS:Hid (Stp r1.opn false (s.extract r1.at' (r1.at'+1)) (r1.opn+1) false):=k2
   have HN:Hid (opensR s T.tk (s.size-r1.at') r1=opensR s T.tk (s.size-(r1.at'+1)) (wordR s T.tk 1 ⟨r1.at',r1.opn+1,r1.st⟩)):=opens_hit k1 h40
   rw [h40] at hnx
   clear h40 k2
   go_wp2_with fail
   refine hnx.mono ?_
   rintro e w1 ⟨rfl,hb1⟩
   have HR2:Hid (RdS T w1 q s false r1):=HR1.out.later HT.out hq hqp hb1
   have HK2:Hid (Kept T.N (fun k=>k=T.p∨k=q) w w1):=HK1.out.trans (kept_below hb1 HR1.out.room)
   have c2:=HR2.out.rd.c2
   have f2:=HR2.out.rd.fr 2
   obtain ⟨o1,hoe⟩:∃ o1,r1.opn+1=o1:=⟨_,rfl⟩
   have hsum:(r1.opn:Int)+1=(o1:Int):=by omega
   have hbig:(o1:Int)≤4611686018427387904:=by omega
   obtain ⟨W,hW⟩:∃ W,w1.setCell ⟨q,2,none⟩ (.int .i64 (o1:Int))=W:=⟨_,rfl⟩
   obtain ⟨g1,g2,g3,g4⟩:=RdS.open HT.out hq hqp HR2.out o1
   rw [hW] at g1 g2 g3 g4
   have HRW:Hid (RdAt W q s r1.at' o1 T.fv∧T.I r1.st W∧T.N≤W.heap.size∧Kept T.N (fun k=>k=T.p∨k=q) w1 W):=⟨g1,g2,g3,g4⟩
   rw [hoe] at HS HN
   clear hb1 hnx g1 g2 g3 g4
   go_wp2_with fail
   refine (word_any T HT.out q r1.at' r1.opn o1 1 o1 false false s r1.st W hs k1 hq hqp HRW.out.2.2.1 HRW.out.1 HRW.out.2.1 HR1.out.good HS.out).mono ?_
   rintro e w3 ⟨rfl,g1,g2,g3⟩
   have HK3:Hid (Kept T.N (fun k=>k=T.p∨k=q) w w3):=(HK2.out.trans HRW.out.2.2.2).trans g3
   have HR3:Hid (RdS T w3 q s false (wordR s T.tk 1 ⟨r1.at',o1,r1.st⟩)):=RdS.word HT.out hs k1 HR1.out.good HS.out (by omega) HRW.out.2.2.1 g1 g2 g3
   clear g1 g2 g3
   go_wp2_with fail
   go_roundg (s.size-(r1.at'+1))
   case measure=>omega
   case rel=>exact ⟨wordR s T.tk 1 ⟨r1.at',o1,r1.st⟩,rfl,by rw [←HO.out,HN.out];rfl,HR3.out,HK3.out⟩
  ·have HO2:Hid (openedR s T.tk r=r1):=by show _=_;rw [←HO.out];exact opens_miss h40
   have h40':(nextB s r1.at' == 40)=false:=by simpa using h40
   obtain ⟨c,hc⟩:∃ c,nextB s r1.at'=c:=⟨_,rfl⟩
   have HC:Hid (nextB s r1.at'=c):=hc
   rw [hc] at hnx h40'
   clear h40 hc
   go_wp2_with fail
   refine hnx.mono ?_
   rintro e w1 ⟨rfl,hb1⟩
   have HR2:Hid (RdS T w1 q s false r1):=HR1.out.later HT.out hq hqp hb1
   have HK2:Hid (Kept T.N (fun k=>k=T.p∨k=q) w w1):=HK1.out.trans (kept_below hb1 HR1.out.room)
   have hnx2:=next_any q r1.at' r1.opn s T.fv w1 hinn HR2.out.rd
   rw [HC.out] at hnx2
   clear hb1 hnx
   go_wp2_with fail
   refine hnx2.mono ?_
   rintro e w2 ⟨rfl,hb2⟩
   have HR3:Hid (RdS T w2 q s false r1):=HR2.out.later HT.out hq hqp hb2
   have HK3:Hid (Kept T.N (fun k=>k=T.p∨k=q) w w2):=HK2.out.trans (kept_below hb2 HR2.out.room)
   clear hb2 hnx2
   have hdg:=isdig_any c
   have hlt:=islet_any c
   cases hd:digB c
   ·rw [hd] at hdg
    cases hl:letB c
    ·rw [hl] at hlt
     have HD:Hid (operandR s T.tk r=(r1,false)):=by
      have h:=opnd_no (s:=s) (tk:=T.tk) (r:=r) (by rw [HO2.out,HC.out];exact hd) (by rw [HO2.out,HC.out];exact hl)
      rw [HO2.out] at h
      exact h
     clear hd hl
     go_wp2_with fail
     refine (hdg _).mono ?_
     rintro e w3 ⟨rfl,hb3⟩
     have HR4:Hid (RdS T w3 q s false r1):=HR3.out.later HT.out hq hqp hb3
     have HK4:Hid (Kept T.N (fun k=>k=T.p∨k=q) w w3):=HK3.out.trans (kept_below hb3 HR3.out.room)
     clear hb3 hdg
     go_wp2_with fail
     refine (hlt _).mono ?_
     rintro e w4 ⟨rfl,hb4⟩
     have HR5:Hid (RdS T w4 q s false r1):=HR4.out.later HT.out hq hqp hb4
     have HK5:Hid (Kept T.N (fun k=>k=T.p∨k=q) w w4):=HK4.out.trans (kept_below hb4 HR4.out.room)
     clear hb4 hlt
     go_wp2_with fail
     refine (stop_any q r1.at' r1.opn s T.fv w4 HR5.out.rd).mono ?_
     rintro e w5 ⟨rfl,hb5⟩
     go_wp2_with fail
     exact ⟨rfl,Went.no HD.out (HK5.out.trans (kept_below hb5 HR5.out.room))⟩
    ·rw [hl] at hlt
     have HD:Hid (operandR s T.tk r=(closesR s T.tk s.size (wordR s T.tk (leadN letB (s.extract r1.at' s.size)) r1),true)):=by
      have h:=opnd_let (s:=s) (tk:=T.tk) (r:=r) (by rw [HO2.out,HC.out];exact hd) (by rw [HO2.out,HC.out];exact hl)
      rw [HO2.out] at h
      exact h
     obtain ⟨k1,k2⟩:=let_word (o:=r1.opn) hinn (by rw [HC.out];exact hl)
     have HS:Hid (Stp r1.opn false (s.extract r1.at' (r1.at'+leadN letB (s.extract r1.at' s.size))) r1.opn true):=k2
     have HL:Hid (∀ w',Calls Tryz.prog 247 #[.string (s.extract r1.at' s.size),.func (.func 224) #[] #[]] w' fun e w''=>e=.returned (.int .i64 (leadN letB (s.extract r1.at' s.size)))∧Below w'.heap.size w' w''):=fun w'=>leadl_any _ w' (by rw [tail_size];omega)
     have ha':(r1.at':Int)≤(s.size:Int):=by omega
     have hs':(s.size:Int)≤4611686018427387904:=by omega
     clear k2 hd hl
     go_wp2_with fail
     refine (hdg _).mono ?_
     rintro e w3 ⟨rfl,hb3⟩
     have HR4:Hid (RdS T w3 q s false r1):=HR3.out.later HT.out hq hqp hb3
     have HK4:Hid (Kept T.N (fun k=>k=T.p∨k=q) w w3):=HK3.out.trans (kept_below hb3 HR3.out.room)
     clear hb3 hdg
     go_wp2_with fail
     refine (hlt _).mono ?_
     rintro e w4 ⟨rfl,hb4⟩
     have HR5:Hid (RdS T w4 q s false r1):=HR4.out.later HT.out hq hqp hb4
     have HK5:Hid (Kept T.N (fun k=>k=T.p∨k=q) w w4):=HK4.out.trans (kept_below hb4 HR4.out.room)
     have c0:=HR5.out.rd.c0
     have c1:=HR5.out.rd.c1
     clear hb4 hlt
     generalize leadN letB (s.extract r1.at' s.size)=n at *
     have HWd:Hid (∀ w',Below w4.heap.size w4 w'→Calls Tryz.prog 244 #[.pointer (some ⟨q,0,none⟩),.int .i64 n] w' fun e w5=>e=.returned (.tuple #[])∧Kept T.N (fun k=>k=T.p∨k=q) w w5∧RdS T w5 q s true (wordR s T.tk n r1)):=by
      intro w' hb
      have h5:=HR5.out.later HT.out hq hqp hb
      refine (word_any T HT.out q r1.at' r1.opn r1.opn n r1.opn false true s r1.st w' hs k1 hq hqp h5.room h5.rd h5.mem HR1.out.good HS.out).mono ?_
      rintro e w5 ⟨rfl,g1,g2,g3⟩
      exact ⟨rfl,(HK5.out.trans (kept_below hb HR5.out.room)).trans g3,RdS.word (r:=r1) (o':=r1.opn) HT.out hs k1 HR1.out.good HS.out (by omega) h5.room g1 g2 g3⟩
     go_wp2_with fail
     go_region_law ((first
      | (go_simp;refine (HL.out _).mono ?_;rintro e x5 ⟨rfl,hb5⟩;have hN5:=onB (W0:=w4) (by go_grown) hb5;clear hb5)
      | (go_simp;refine (HWd.out _ (onB hN5 (by go_grown))).mono ?_;rintro e x6 ⟨rfl,hK6,hR6⟩)))
     all_goals
      have HK6:Hid (Kept T.N (fun k=>k=T.p∨k=q) w x6):=hK6
      have HR6:Hid (RdS T x6 q s true (wordR s T.tk n r1)):=hR6
      clear hK6 hR6 HWd HL
      generalize wordR s T.tk n r1=r4 at *
      go_wp2_with fail
      go_loopg [] s.size (fun g wj => ∃ (r5:Rd S),closesR s T.tk g r5=closesR s T.tk s.size r4∧s.size-r5.at'≤g∧RdS T wj q s true r5∧Kept T.N (fun k=>k=T.p∨k=q) w wj)
      case atStart=>exact ⟨r4,rfl,by omega,HR6.out,HK6.out⟩
      case round =>
       obtain ⟨r5,hcl,hg5,hR5,hk5⟩:=hrel
       have HQ:Hid (closesR s T.tk gk r5=closesR s T.tk s.size r4):=hcl
       have HRa:Hid (RdS T wr q s true r5):=hR5
       have HKa:Hid (Kept T.N (fun k=>k=T.p∨k=q) w wr):=hk5
       have c2:=hR5.rd.c2
       have hfew5:=hR5.few
       have hinn5:=hR5.inn
       have hnx5:=next_any q r5.at' r5.opn s T.fv wr hR5.inn hR5.rd
       clear hcl hR5 hk5
       by_cases ho0:r5.opn=0
       ·have HE:Hid (operandR s T.tk r=(r5,true)):=by show _=_;rw [HD.out,←HQ.out,closes_miss (by omega)]
        have hoi:(r5.opn:Int)=0:=by omega
        rw [hoi] at c2
        go_wp2_with fail
        first | go_end0 | skip
        exact Went.ok HE.out HKa.out HRa.out
       ·have hoi:0<(r5.opn:Int):=by omega
        by_cases h41:nextB s r5.at'=41
        ·obtain ⟨o1,hoe⟩:∃ o1,r5.opn=o1+1:=⟨r5.opn-1,by omega⟩
         obtain ⟨m1,m2⟩:=cls_word (o:=o1) hinn5 h41
         have HS5:Hid (Stp (o1+1) true (s.extract r5.at' (r5.at'+1)) o1 true):=m2
         obtain ⟨g',hg'⟩:∃ g',gk=g'+1:=⟨gk-1,by omega⟩
         have HN5:Hid (closesR s T.tk (g'+1) r5=closesR s T.tk g' (wordR s T.tk 1 ⟨r5.at',o1,r5.st⟩)):=by
          have h:=closes_hit (tk:=T.tk) (f:=g') (r:=r5) (s:=s) (by omega) h41
          rw [show r5.opn-1=o1 by omega] at h
          exact h
         have HG:Hid (gk=g'+1):=hg'
         rw [h41] at hnx5
         clear h41 m2 hg'
         go_wp2_with fail
         refine hnx5.mono ?_
         rintro e x1 ⟨rfl,hb6⟩
         have HRb:Hid (RdS T x1 q s true r5):=HRa.out.later HT.out hq hqp hb6
         have HKb:Hid (Kept T.N (fun k=>k=T.p∨k=q) w x1):=HKa.out.trans (kept_below hb6 HRa.out.room)
         have d2:=HRb.out.rd.c2
         have f2:=HRb.out.rd.fr 2
         have hsum:(r5.opn:Int)-1=(o1:Int):=by omega
         have hbig:(o1:Int)≤4611686018427387904:=by omega
         obtain ⟨W,hW⟩:∃ W,x1.setCell ⟨q,2,none⟩ (.int .i64 (o1:Int))=W:=⟨_,rfl⟩
         obtain ⟨g1,g2,g3,g4⟩:=RdS.open HT.out hq hqp HRb.out o1
         rw [hW] at g1 g2 g3 g4
         have HRW:Hid (RdAt W q s r5.at' o1 T.fv∧T.I r5.st W∧T.N≤W.heap.size∧Kept T.N (fun k=>k=T.p∨k=q) x1 W):=⟨g1,g2,g3,g4⟩
         clear hb6 hnx5 g1 g2 g3 g4 c2
         go_wp2_with fail
         refine (word_any T HT.out q r5.at' (o1+1) o1 1 o1 true true s r5.st W hs m1 hq hqp HRW.out.2.2.1 HRW.out.1 HRW.out.2.1 (by rw [←hoe];exact HRb.out.good) HS5.out).mono ?_
         rintro e x3 ⟨rfl,g1,g2,g3⟩
         have HKc:Hid (Kept T.N (fun k=>k=T.p∨k=q) w x3):=(HKb.out.trans HRW.out.2.2.2).trans g3
         have HRc:Hid (RdS T x3 q s true (wordR s T.tk 1 ⟨r5.at',o1,r5.st⟩)):=RdS.word HT.out hs m1 (by rw [←hoe];exact HRb.out.good) HS5.out (by omega) HRW.out.2.2.1 g1 g2 g3
         clear g1 g2 g3
         go_wp2_with fail
         go_roundg g'
         case measure=>have:=HG.out;omega
         case rel=>exact ⟨wordR s T.tk 1 ⟨r5.at',o1,r5.st⟩,by rw [←HN5.out,←HG.out,HQ.out],by have:=HG.out;show s.size-(r5.at'+1)≤g';omega,HRc.out,HKc.out⟩
        ·have HE:Hid (operandR s T.tk r=(r5,true)):=by show _=_;rw [HD.out,←HQ.out,closes_miss (fun h=>h41 h.2)]
         have h41':(nextB s r5.at' == 41)=false:=by simpa using h41
         generalize nextB s r5.at'=c5 at *
         go_wp2_with fail
         refine hnx5.mono ?_
         rintro e x1 ⟨rfl,hb6⟩
         have HRb:Hid (RdS T x1 q s true r5):=HRa.out.later HT.out hq hqp hb6
         have HKb:Hid (Kept T.N (fun k=>k=T.p∨k=q) w x1):=HKa.out.trans (kept_below hb6 HRa.out.room)
         go_wp2_with fail
         first | go_end0 | skip
         exact Went.ok HE.out HKb.out HRb.out
   ·rw [hd] at hdg
    have HD:Hid (operandR s T.tk r=(closesR s T.tk s.size (wordR s T.tk (digitsN s r1.at') r1),true)):=by
     have h:=opnd_dig (s:=s) (tk:=T.tk) (r:=r) (by rw [HO2.out,HC.out];exact hd)
     rw [HO2.out] at h
     exact h
    obtain ⟨k1,k2⟩:=dig_word (o:=r1.opn) hinn (by rw [HC.out];exact hd)
    have HS:Hid (Stp r1.opn false (s.extract r1.at' (r1.at'+digitsN s r1.at')) r1.opn true):=k2
    clear k2 hlt hd
    go_wp2_with fail
    refine (hdg _).mono ?_
    rintro e w3 ⟨rfl,hb3⟩
    have HR4:Hid (RdS T w3 q s false r1):=HR3.out.later HT.out hq hqp hb3
    have HK4:Hid (Kept T.N (fun k=>k=T.p∨k=q) w w3):=HK3.out.trans (kept_below hb3 HR3.out.room)
    have hdn:=rdigits_any q r1.at' r1.opn s T.fv w3 (by omega) hinn HR4.out.rd
    clear hb3 hdg
    generalize digitsN s r1.at'=n at *
    go_wp2_with fail
    refine hdn.mono ?_
    rintro e w4 ⟨rfl,hb4⟩
    have HR5:Hid (RdS T w4 q s false r1):=HR4.out.later HT.out hq hqp hb4
    have HK5:Hid (Kept T.N (fun k=>k=T.p∨k=q) w w4):=HK4.out.trans (kept_below hb4 HR4.out.room)
    clear hb4 hdn
    go_wp2_with fail
    refine (word_any T HT.out q r1.at' r1.opn r1.opn n r1.opn false true s r1.st w4 hs k1 hq hqp HR5.out.room HR5.out.rd HR5.out.mem HR1.out.good HS.out).mono ?_
    rintro e w5 ⟨rfl,g1,g2,g3⟩
    have HK6:Hid (Kept T.N (fun k=>k=T.p∨k=q) w w5):=HK5.out.trans g3
    have HR6:Hid (RdS T w5 q s true (wordR s T.tk n r1)):=RdS.word (r:=r1) (o':=r1.opn) HT.out hs k1 HR1.out.good HS.out (by omega) HR5.out.room g1 g2 g3
    clear g1 g2 g3
    generalize wordR s T.tk n r1=r4 at *
    go_wp2_with fail
    go_loopg [] s.size (fun g wj => ∃ (r5:Rd S),closesR s T.tk g r5=closesR s T.tk s.size r4∧s.size-r5.at'≤g∧RdS T wj q s true r5∧Kept T.N (fun k=>k=T.p∨k=q) w wj)
    case atStart=>exact ⟨r4,rfl,by omega,HR6.out,HK6.out⟩
    case round =>
     obtain ⟨r5,hcl,hg5,hR5,hk5⟩:=hrel
     have HQ:Hid (closesR s T.tk gk r5=closesR s T.tk s.size r4):=hcl
     have HRa:Hid (RdS T wr q s true r5):=hR5
     have HKa:Hid (Kept T.N (fun k=>k=T.p∨k=q) w wr):=hk5
     have c2:=hR5.rd.c2
     have hfew5:=hR5.few
     have hinn5:=hR5.inn
     have hnx5:=next_any q r5.at' r5.opn s T.fv wr hR5.inn hR5.rd
     clear hcl hR5 hk5
     by_cases ho0:r5.opn=0
     ·have HE:Hid (operandR s T.tk r=(r5,true)):=by show _=_;rw [HD.out,←HQ.out,closes_miss (by omega)]
      have hoi:(r5.opn:Int)=0:=by omega
      rw [hoi] at c2
      go_wp2_with fail
      first | go_end0 | skip
      exact Went.ok HE.out HKa.out HRa.out
     ·have hoi:0<(r5.opn:Int):=by omega
      by_cases h41:nextB s r5.at'=41
      ·obtain ⟨o1,hoe⟩:∃ o1,r5.opn=o1+1:=⟨r5.opn-1,by omega⟩
       obtain ⟨m1,m2⟩:=cls_word (o:=o1) hinn5 h41
       have HS5:Hid (Stp (o1+1) true (s.extract r5.at' (r5.at'+1)) o1 true):=m2
       obtain ⟨g',hg'⟩:∃ g',gk=g'+1:=⟨gk-1,by omega⟩
       have HN5:Hid (closesR s T.tk (g'+1) r5=closesR s T.tk g' (wordR s T.tk 1 ⟨r5.at',o1,r5.st⟩)):=by
        have h:=closes_hit (tk:=T.tk) (f:=g') (r:=r5) (s:=s) (by omega) h41
        rw [show r5.opn-1=o1 by omega] at h
        exact h
       have HG:Hid (gk=g'+1):=hg'
       rw [h41] at hnx5
       clear h41 m2 hg'
       go_wp2_with fail
       refine hnx5.mono ?_
       rintro e x1 ⟨rfl,hb6⟩
       have HRb:Hid (RdS T x1 q s true r5):=HRa.out.later HT.out hq hqp hb6
       have HKb:Hid (Kept T.N (fun k=>k=T.p∨k=q) w x1):=HKa.out.trans (kept_below hb6 HRa.out.room)
       have d2:=HRb.out.rd.c2
       have f2:=HRb.out.rd.fr 2
       have hsum:(r5.opn:Int)-1=(o1:Int):=by omega
       have hbig:(o1:Int)≤4611686018427387904:=by omega
       obtain ⟨W,hW⟩:∃ W,x1.setCell ⟨q,2,none⟩ (.int .i64 (o1:Int))=W:=⟨_,rfl⟩
       obtain ⟨g1,g2,g3,g4⟩:=RdS.open HT.out hq hqp HRb.out o1
       rw [hW] at g1 g2 g3 g4
       have HRW:Hid (RdAt W q s r5.at' o1 T.fv∧T.I r5.st W∧T.N≤W.heap.size∧Kept T.N (fun k=>k=T.p∨k=q) x1 W):=⟨g1,g2,g3,g4⟩
       clear hb6 hnx5 g1 g2 g3 g4 c2
       go_wp2_with fail
       refine (word_any T HT.out q r5.at' (o1+1) o1 1 o1 true true s r5.st W hs m1 hq hqp HRW.out.2.2.1 HRW.out.1 HRW.out.2.1 (by rw [←hoe];exact HRb.out.good) HS5.out).mono ?_
       rintro e x3 ⟨rfl,g1,g2,g3⟩
       have HKc:Hid (Kept T.N (fun k=>k=T.p∨k=q) w x3):=(HKb.out.trans HRW.out.2.2.2).trans g3
       have HRc:Hid (RdS T x3 q s true (wordR s T.tk 1 ⟨r5.at',o1,r5.st⟩)):=RdS.word HT.out hs m1 (by rw [←hoe];exact HRb.out.good) HS5.out (by omega) HRW.out.2.2.1 g1 g2 g3
       clear g1 g2 g3
       go_wp2_with fail
       go_roundg g'
       case measure=>have:=HG.out;omega
       case rel=>exact ⟨wordR s T.tk 1 ⟨r5.at',o1,r5.st⟩,by rw [←HN5.out,←HG.out,HQ.out],by have:=HG.out;show s.size-(r5.at'+1)≤g';omega,HRc.out,HKc.out⟩
      ·have HE:Hid (operandR s T.tk r=(r5,true)):=by show _=_;rw [HD.out,←HQ.out,closes_miss (fun h=>h41 h.2)]
       have h41':(nextB s r5.at' == 41)=false:=by simpa using h41
       generalize nextB s r5.at'=c5 at *
       go_wp2_with fail
       refine hnx5.mono ?_
       rintro e x1 ⟨rfl,hb6⟩
       have HRb:Hid (RdS T x1 q s true r5):=HRa.out.later HT.out hq hqp hb6
       have HKb:Hid (Kept T.N (fun k=>k=T.p∨k=q) w x1):=HKa.out.trans (kept_below hb6 HRa.out.room)
       go_wp2_with fail
       first | go_end0 | skip
       exact Went.ok HE.out HKb.out HRb.out
end Go.Proofs.YtfgegmpoejilnaaGreatDoor
