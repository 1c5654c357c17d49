/-
  What the reader of package formula does, in whatever memory: the byte that is next, how many digits; a word that is handed on; where it stops.
-/
import Derived.WalkSmall
import Derived.Deep.AppendLies
import Derived.Deep.RegionLaw
import Derived.Deep.DeepCutAuto
import Derived.Shelf.Small.Strs
import Derived.Lib.Strings
import Derived.Shelf.Pu.Clone
import Derived.Deep.OwnRows
import Derived.Lib.Builder
import Derived.Test.YtnlfpaopfloklaaGreatDoorJEAH
import Derived.Test.YtnlfpaopfloklaaGreatDoorJEAI
namespace Go.Proofs.YtnlfpaopfloklaaGreatDoor
open Go.ChangeShapes Go.WideShapes Go.ChangeAt Go.RowKit
set_option maxRecDepth 20000
theorem below_drewN {B:Nat} {a w:World} (h:Below B a w) (n:Nat):Below B a (w.drewN n):=h.trans ⟨rfl,rfl,rfl,Nat.le_refl _,fun _ _=>rfl⟩
def RdAt (w:World) (q:Nat) (s:ByteArray) (a o:Nat) (tv:Value):Prop:=w.heap[q]?=some (.cells #[.string s,.int .i64 a,.int .i64 o,tv] 237 (0,0))
section
variable {w w':World} {q a o:Nat} {s:ByteArray} {tv:Value}
theorem RdAt.lt (h:RdAt w q s a o tv):q<w.heap.size:=(Array.getElem?_eq_some_iff.1 h).1
theorem RdAt.c0 (h:RdAt w q s a o tv):w.cell? ⟨q,0,none⟩=some (.string s):=by unfold RdAt at h;simp [World.cell?,h]
theorem RdAt.c1 (h:RdAt w q s a o tv):w.cell? ⟨q,1,none⟩=some (.int .i64 a):=by unfold RdAt at h;simp [World.cell?,h]
theorem RdAt.c2 (h:RdAt w q s a o tv):w.cell? ⟨q,2,none⟩=some (.int .i64 o):=by unfold RdAt at h;simp [World.cell?,h]
theorem RdAt.c3 (h:RdAt w q s a o tv):w.cell? ⟨q,3,none⟩=some tv:=by unfold RdAt at h;simp [World.cell?,h]
theorem RdAt.fr (h:RdAt w q s a o tv) (j:Nat):w.frozen? ⟨q,j,none⟩=false:=by unfold RdAt at h;simp [World.frozen?,h]
theorem RdAt.later (h:RdAt w q s a o tv) (hB:Below w.heap.size w w'):RdAt w' q s a o tv:=(hB.block q h.lt).trans h
theorem RdAt.same (h:RdAt w q s a o tv) (hB:w'.heap[q]?=w.heap[q]?):RdAt w' q s a o tv:=hB.trans h
theorem RdAt.set1 (h:RdAt w q s a o tv) (n:Nat):RdAt (w.setCell ⟨q,1,none⟩ (.int .i64 n)) q s n o tv:=by
 unfold RdAt at *
 rw [setCell_eq_setRow w q 1 _ _ (0,0) _ h,setRow_heap w q _ _ _ _ h]
 rfl
theorem RdAt.set2 (h:RdAt w q s a o tv) (n:Nat):RdAt (w.setCell ⟨q,2,none⟩ (.int .i64 n)) q s a n tv:=by
 unfold RdAt at *
 rw [setCell_eq_setRow w q 2 _ _ (0,0) _ h,setRow_heap w q _ _ _ _ h]
 rfl
end
set_option maxHeartbeats 1000000 in
theorem next_any (q a o:Nat) (s:ByteArray) (tv:Value) (w:World) (ha:a≤s.size) (hR:RdAt w q s a o tv):Calls Tryz.prog 217 #[.pointer (some ⟨q,0,none⟩)] w fun e w'=>e=.returned (.int .u8 (nextB s a))∧Below w.heap.size w w':=by
 have c0:=hR.c0
 have c1:=hR.c1
 have hq:=hR.lt
 clear hR
 by_cases he:a=s.size
 ·subst he
  have h0:nextB s s.size=0:=by simp [nextB]
  rw [h0]
  go_enter Tryz.func217,Tryz.ntmps217
  go_wp2_with fail
  go_quiet (fail)
  go_wp2_with fail
  go_ret
  exact ⟨rfl,below_drewN (Below.refl _ _) _⟩
 ·have hlt:a<s.size:=by omega
  have h0:nextB s a=byteN s a:=by simp [nextB,he]
  have hne : ¬ (a:Int)=(s.size:Int):=by omega
  have hby:=byteN_get s a hlt
  rw [h0]
  go_enter Tryz.func217,Tryz.ntmps217
  go_wp2_with fail
  go_quiet (fail)
  go_wp2_with fail
  go_quiet (fail)
  go_wp2_with fail
  go_ret
  exact ⟨rfl,below_drewN (below_drewN (Below.refl _ _) _) _⟩
theorem stop_any (q a o:Nat) (s:ByteArray) (tv:Value) (w:World) (hR:RdAt w q s a o tv):Calls Tryz.prog 202 #[.pointer (some ⟨q,0,none⟩)] w fun e w'=>e=.panicked [{ v:=.iface 235 (.int .i64 a),recovered:=false }]∧Below w.heap.size w w':=by
 have c1:=hR.c1
 clear hR
 go_enter Tryz.func202,Tryz.ntmps202
 go_wp2
 exact ⟨rfl,rfl,Below.refl _ _⟩
structure Kept (N:Nat) (X:Nat→Prop) (w w':World):Prop where
 os:w'.os=w.os
 tape:w'.tape=w.tape
 output:w'.output=w.output
 size:w.heap.size≤w'.heap.size
 block:∀ k,k<N→¬ X k→w'.heap[k]?=w.heap[k]?
section
variable {N:Nat} {X Y:Nat→Prop} {w w' w'':World}
theorem Kept.refl (N:Nat) (X:Nat→Prop) (w:World):Kept N X w w:=⟨rfl,rfl,rfl,Nat.le_refl _,fun _ _ _=>rfl⟩
theorem Kept.trans (h:Kept N X w w') (k:Kept N X w' w''):Kept N X w w'':=⟨k.os.trans h.os,k.tape.trans h.tape,k.output.trans h.output,Nat.le_trans h.size k.size,fun i hi hx=>(k.block i hi hx).trans (h.block i hi hx)⟩
theorem Kept.wide (h:Kept N X w w') (hx:∀ k,X k→Y k):Kept N Y w w':=⟨h.os,h.tape,h.output,h.size,fun i hi hy=>h.block i hi fun e=>hy (hx i e)⟩
theorem kept_below (h:Below w.heap.size w w') (hN:N≤w.heap.size):Kept N X w w':=⟨h.os,h.tape,h.output,h.size,fun i hi _=>h.block i (Nat.lt_of_lt_of_le hi hN)⟩
theorem kept_grown {q:Nat} (h:w.grownBy w' (some q)) (hN:N≤w.heap.size) (hX:X q):Kept N X w w':=⟨h.os,h.tape,h.output,h.size,fun i hi hx=>h.block i (Nat.lt_of_lt_of_le hi hN) fun e=>hx (by cases e;exact hX)⟩
end
theorem hid_of {p:Prop} (h:p):Hid p:=h
theorem setCell_off (w:World) (q j k:Nat) (v:Value) (h:k≠q):(w.setCell ⟨q,j,none⟩ v).heap[k]?=w.heap[k]?:=by
 simp only [World.setCell]
 rw [Array.getElem?_modify,if_neg (fun e=>h e.symm)]
theorem grownF_refl (w:World) (r:Option Nat):w.grownBy w r:=⟨rfl,rfl,rfl,Nat.le_refl _,fun _ _ _=>rfl⟩
theorem grownF_below {w w':World} {r:Option Nat} (h:Below w.heap.size w w'):w.grownBy w' r:=⟨h.os,h.tape,h.output,h.size,fun i hi _=>h.block i hi⟩
theorem grownF_set {w w':World} {q j:Nat} {v:Value} (h:w.grownBy w' (some q)):w.grownBy (w'.setCell ⟨q,j,none⟩ v) (some q) :=
 ⟨h.os,h.tape,h.output,by simpa using h.size,fun k hk hr=>by
  have hne:k≠q:=fun e=>hr (by rw [e])
  exact (setCell_off w' q j k v hne).trans (h.block k hk hr)⟩
inductive Stp:Nat→Bool→ByteArray→Nat→Bool→Prop
 | opn (o:Nat) (t:ByteArray):t.size=1→byteN t 0=40→Stp o false t (o+1) false
 | cls (o:Nat) (t:ByteArray):t.size=1→byteN t 0=41→Stp (o+1) true t o true
 | num (o:Nat) (t:ByteArray):1≤t.size→t.size≤7→(∀ i,i<t.size→digB (byteN t i)=true)→Stp o false t o true
 | nam (o:Nat) (t:ByteArray):1≤t.size→(∀ i,i<t.size→letB (byteN t i)=true)→Stp o false t o true
 | sgn (o:Nat) (t:ByteArray):t.size=1→0≤signI (byteN t 0)→Stp o true t o false
structure Tkr (S:Type) where
 N:Nat
 p:Nat
 M:Nat
 F:Nat
 first:Array Value
 tk:S→ByteArray→S
 I:S→World→Prop
 G:Nat→Nat→Bool→S→Prop
def Tkr.fv {S:Type} (T:Tkr S):Value:=.func (.func T.F) T.first #[]
structure Tkr.Ok {S:Type} (T:Tkr S):Prop where
 small:T.M≤4611686018427387904
 ent:∀ (args:Array Value) (w:World),(callFunc T.F args).run Tryz.prog w=.ok (.enter T.F args) w
 stay:∀ (q:Nat) (st:S) (w w':World),q<T.N→q≠T.p→T.I st w→w.grownBy w' (some q)→T.I st w'
 step:∀ (a o:Nat) (ph:Bool) (st:S) (t:ByteArray) (o':Nat) (ph':Bool),Stp o ph t o' ph'→T.G a o ph st→a+t.size≤T.M→T.G (a+t.size) o' ph' (T.tk st t)
 call:∀ (a o:Nat) (ph:Bool) (st:S) (t:ByteArray) (o':Nat) (ph':Bool) (w:World),Stp o ph t o' ph'→T.G a o ph st→a+t.size≤T.M→T.N≤w.heap.size→T.I st w→Calls Tryz.prog T.F (T.first ++ #[.string t]) w fun e w'=>e=.returned (.tuple #[])∧T.I (T.tk st t) w'∧Kept T.N (fun k=>k=T.p) w w'
theorem slice_ok {s:ByteArray} {a n:Nat} (h:a+n≤s.size):(s.extract a (a+n)).size=n:=by rw [ByteArray.size_extract];omega
set_option maxHeartbeats 2000000 in
theorem word_any {S:Type} (T:Tkr S) (hT:T.Ok) (q a o oc n o':Nat) (ph ph':Bool) (s:ByteArray) (st:S) (w:World) (hs:s.size≤T.M) (hn:a+n≤s.size) (hq:q<T.N) (hqp:q≠T.p) (hN:T.N≤w.heap.size)
  (hR:RdAt w q s a oc T.fv) (hI:T.I st w) (hG:T.G a o ph st) (hS:Stp o ph (s.extract a (a+n)) o' ph') :
  Calls Tryz.prog 218 #[.pointer (some ⟨q,0,none⟩),.int .i64 n] w fun e w'=>e=.returned (.tuple #[])∧RdAt w' q s (a+n) oc T.fv∧T.I (T.tk st (s.extract a (a+n))) w'∧Kept T.N (fun k=>k=T.p∨k=q) w w':=by
 have hsm:=hT.small
 have hsz:=slice_ok hn
 obtain ⟨m,hm⟩:∃ m,a+n=m:=⟨_,rfl⟩
 rw [hm] at hn hS hsz ⊢
 have c0:=hR.c0
 have c1:=hR.c1
 have f1:=hR.fr 1
 have hqlt:=hR.lt
 have hsum:(a:Int)+(n:Int)=(m:Int):=by omega
 obtain ⟨W,hW⟩:∃ W,w.setCell ⟨q,1,none⟩ (.int .i64 (m:Int))=W:=⟨_,rfl⟩
 have hRW:RdAt W q s m oc T.fv:=by rw [←hW];exact hR.set1 m
 have hgW:w.grownBy W (some q):=by rw [←hW];exact grownF_set (grownF_refl w _)
 have hIW:=hT.stay q st w W hq hqp hI hgW
 have HC:Hid (∀ w',Below W.heap.size W w'→Calls Tryz.prog T.F (T.first ++ #[.string (s.extract a m)]) w' fun e w''=>e=.returned (.tuple #[])∧RdAt w'' q s m oc T.fv∧T.I (T.tk st (s.extract a m)) w''∧Kept T.N (fun k=>k=T.p∨k=q) w w''):=by
  intro w' hb
  have hIw':T.I st w':=hT.stay q st W w' hq hqp hIW (grownF_below hb)
  refine (hT.call a o ph st _ o' ph' w' hS hG (by omega) (Nat.le_trans hN (Nat.le_trans hgW.size hb.size)) hIw').mono ?_
  rintro e w'' ⟨rfl,h1,h2⟩
  refine ⟨rfl,?_,h1,?_⟩
  ·exact (hRW.later hb).same (h2.block q hq hqp)
  ·have k1:Kept T.N (fun k=>k=T.p∨k=q) w W:=kept_grown hgW hN (Or.inr rfl)
   have k2:Kept T.N (fun k=>k=T.p∨k=q) W w':=kept_below hb (Nat.le_trans hN hgW.size)
   exact (k1.trans k2).trans (h2.wide fun k e=>Or.inl e)
 have d0:=hRW.c0
 have d1:=hRW.c1
 have d3:=hRW.c3
 have hent:=hT.ent
 have hm1:(a:Int)≤(m:Int):=by omega
 have hm2:(m:Int)≤(s.size:Int):=by omega
 have hm3:(m:Int)≤4611686018427387904:=by omega
 have HT:Hid T.Ok:=hT
 clear hIW hgW hRW hI hG hS hR hT
 unfold Tkr.fv at *
 go_enter Tryz.func218,Tryz.ntmps218
 go_wp2_with fail
 clear c0 c1 f1 hW hsum
 go_region_law ((go_simp;refine (HC.out _ (by go_grown)).mono ?_;rintro e w2 ⟨rfl,k1,k2,k3⟩))
 all_goals (go_end0;exact ⟨rfl,k1,k2,k3⟩)
end Go.Proofs.YtnlfpaopfloklaaGreatDoor
namespace Go.Proofs
open Go.Shelf
def Tryz.lays137_ren:Go.Shelf.Ren:=⟨fun | 137=>182 | 217=>197 | 266=>214 | n=>n,fun | 9=>9 | 5=>5 | 3=>3 | n=>n,fun | n=>n⟩
theorem Tryz.lays137:Go.Proofs.Lays.n137 Tryz.prog Tryz.lays137_ren:={
 mixed:=by kernel_rfl
 f137:=Tryz.func182.trans (congrArg some (by kernel_rfl))
 f217:=Tryz.func197.trans (congrArg some (by kernel_rfl))
 f266:=Tryz.func214.trans (congrArg some (by kernel_rfl))
 t3:=Tryz.underlying3
 a3:=Tryz.isAgg3
 z3:=Tryz.sizeOf3
 v3:=Tryz.zeroValue3
 t5:=Tryz.underlying5
 a5:=Tryz.isAgg5
 z5:=Tryz.sizeOf5
 v5:=Tryz.zeroValue5
 t9:=Tryz.underlying9
 a9:=Tryz.isAgg9
 z9:=Tryz.sizeOf9
 v9:=Tryz.zeroValue9 }
namespace YtnlfpaopfloklaaGreatDoor
open Go.ChangeShapes Go.WideShapes Go.ChangeAt Go.RowKit
theorem signI_fin:∀ c:Fin 256,Lib.indexByte [43,45,42,47] c.val.toUInt8=signI (c.val:Int):=by decide +kernel
theorem signI_eq (c:Int) (h0:0≤c) (h1:c<256):Lib.indexByte [43,45,42,47] c.toNat.toUInt8=signI c:=by
 have h:=signI_fin ⟨c.toNat,by omega⟩
 simp only at h
 rw [h,show ((c.toNat:Nat):Int)=c by omega]
theorem signix_any (c:Int) (h0:0≤c) (h1:c<256) (w:World):Calls Tryz.prog 182 #[.string ⟨#[43,45,42,47]⟩,.int .u8 c] w fun e w'=>e=.returned (.int .i64 (signI c))∧Below w.heap.size w w' :=
 (Any.strings_IndexByte Tryz.lays137 ⟨#[43,45,42,47]⟩ c w).mono fun e w' ⟨he,hw⟩=>⟨by rw [he,signI_eq c h0 h1],by rw [hw];exact Below.refl _ _⟩
theorem byteN_range (s:ByteArray) (i:Nat):0≤byteN s i∧byteN s i<256:=by
 unfold byteN
 have:=(s.data.toList.getD i 0).toNat_lt
 omega
theorem nextB_range (s:ByteArray) (i:Nat):0≤nextB s i∧nextB s i<256:=by
 unfold nextB
 split
 ·omega
 ·exact byteN_range s i
end YtnlfpaopfloklaaGreatDoor
end Go.Proofs
namespace Go.Proofs.YtnlfpaopfloklaaGreatDoor
open Go.ChangeShapes Go.WideShapes Go.ChangeAt Go.RowKit
set_option maxRecDepth 20000
theorem next_zero {s:ByteArray} {a:Nat} (h:nextB s a≠0) (ha:a≤s.size):a<s.size:=by
 by_cases e:a=s.size
 ·subst e;simp [nextB] at h
 ·omega
theorem tail_size (s:ByteArray) (a:Nat):(s.extract a s.size).size=s.size-a:=by rw [ByteArray.size_extract];omega
set_option maxHeartbeats 1000000 in
theorem rdigits_any (q a o:Nat) (s:ByteArray) (tv:Value) (w:World) (hs:s.size≤4611686018427387904) (ha:a≤s.size) (hR:RdAt w q s a o tv):Calls Tryz.prog 220 #[.pointer (some ⟨q,0,none⟩)] w fun e w'=>e=.returned (.int .i64 (digitsN s a))∧Below w.heap.size w w':=by
 have hnx:=next_any q a o s tv w ha hR
 unfold digitsN
 by_cases h48:nextB s a=48
 ·rw [h48] at hnx
  rw [if_pos h48]
  clear h48
  go_enter Tryz.func220,Tryz.ntmps220
  go_wp2_with fail
  refine hnx.mono ?_
  rintro e w1 ⟨rfl,hb1⟩
  go_wp2_with fail
  go_ret
  exact ⟨rfl,hb1⟩
 ·have h48':(nextB s a == 48)=false:=by simpa using h48
  rw [if_neg h48]
  generalize nextB s a=c at *
  have HL:Hid (∀ w',Below w.heap.size w w'→Calls Tryz.prog 221 #[.string (s.extract a s.size),.func (.func 219) #[] #[]] w' fun e w''=>e=.returned (.int .i64 (leadN digB (s.extract a s.size)))∧Below w'.heap.size w' w''):=fun w' _=>leadd_any _ w' (by rw [tail_size];omega)
  generalize leadN digB (s.extract a s.size)=n at HL ⊢
  have HM:Hid (((min n 7:Nat):Int)=min (n:Int) 7):=by show _=_;omega
  have ha':(a:Int)≤(s.size:Int):=by omega
  have hs':(s.size:Int)≤4611686018427387904:=by omega
  go_enter Tryz.func220,Tryz.ntmps220
  go_wp2_with fail
  refine hnx.mono ?_
  rintro e w1 ⟨rfl,hb1⟩
  have hR1:=hR.later hb1
  have c0:=hR1.c0
  have c1:=hR1.c1
  have HB:Hid (Below w.heap.size w w1):=hb1
  clear hR1 hb1 hR
  go_wp2_with fail
  go_region_law ((go_simp;refine (HL.out _ (onB HB.out (by go_grown))).mono ?_;rintro e w2 ⟨rfl,hb2⟩;have hN2:=onB (onB (W0:=w) HB.out (by go_grown)) hb2;clear hb2))
  all_goals (go_wp2_with fail;all_goals (go_ret;refine ⟨?_,hN2⟩;first | (rw [HM.out];rfl) | (rw [show min n 7=7 by omega];rfl) | (rw [show min n 7=n by omega];rfl)))
structure RdS {S:Type} (T:Tkr S) (w:World) (q:Nat) (s:ByteArray) (ph:Bool) (r:Rd S):Prop where
 rd:RdAt w q s r.at' r.opn T.fv
 mem:T.I r.st w
 good:T.G r.at' r.opn ph r.st
 inn:r.at'≤s.size
 few:r.opn≤r.at'
 room:T.N≤w.heap.size
section
variable {S:Type} {T:Tkr S} {w w':World} {q:Nat} {s:ByteArray} {ph:Bool} {r:Rd S}
theorem RdS.later (h:RdS T w q s ph r) (hT:T.Ok) (hq:q<T.N) (hqp:q≠T.p) (hB:Below w.heap.size w w'):RdS T w' q s ph r :=
 ⟨h.rd.later hB,hT.stay q _ _ _ hq hqp h.mem (grownF_below hB),h.good,h.inn,h.few,Nat.le_trans h.room hB.size⟩
end
def mis (a:Nat):List PanicEntry:=[{ v:=.iface 235 (.int .i64 a),recovered:=false }]
def Went {S:Type} (T:Tkr S) (q:Nat) (s:ByteArray) (ph:Bool) (w:World) (x:Rd S×Bool) (e:Ending) (w':World):Prop:=Kept T.N (fun k=>k=T.p∨k=q) w w'∧((x.2=true∧e=.returned (.tuple #[])∧RdS T w' q s ph x.1)∨(x.2=false∧e=.panicked (mis x.1.at')))
section
variable {S:Type} {T:Tkr S} {w w':World} {q:Nat} {s:ByteArray} {ph:Bool} {x:Rd S×Bool} {r:Rd S}
theorem Went.ok (h:x=(r,true)) (hk:Kept T.N (fun k=>k=T.p∨k=q) w w') (hr:RdS T w' q s ph r):Went T q s ph w x (.returned (.tuple #[])) w':=⟨hk,Or.inl ⟨by rw [h],rfl,by rw [h];exact hr⟩⟩
theorem Went.no (h:x=(r,false)) (hk:Kept T.N (fun k=>k=T.p∨k=q) w w'):Went T q s ph w x (.panicked (mis r.at')) w':=⟨hk,Or.inr ⟨by rw [h],by rw [h]⟩⟩
end
theorem byteN_ext {s:ByteArray} {a b i:Nat} (h:i<b-a):byteN (s.extract a b) i=byteN s (a+i):=by
 unfold byteN
 rw [Lib.extract_data]
 simp only [List.getD,List.getElem?_take,List.getElem?_drop]
 rw [if_pos h]
theorem next_at {s:ByteArray} {a:Nat} (h:a<s.size):nextB s a=byteN s a:=by rw [nextB,if_neg (by omega)]
theorem sgn_stp {s:ByteArray} {a o:Nat} (ha:a≤s.size) (h : ¬ signI (nextB s a)<0):a+1≤s.size∧Stp o true (s.extract a (a+1)) o false:=by
 have hlt:a<s.size:=next_zero (fun e=>h (by rw [e];decide)) ha
 refine ⟨hlt,Stp.sgn o _ (slice_ok hlt) ?_⟩
 rw [byteN_ext (by omega),Nat.add_zero,←next_at hlt]
 omega
theorem RdS.word {S:Type} {T:Tkr S} {w w':World} {q n o o':Nat} {s:ByteArray} {ph ph':Bool} {r:Rd S} (hT:T.Ok) (hs:s.size≤T.M) (hn:r.at'+n≤s.size) (hG:T.G r.at' o ph r.st) (hS:Stp o ph (s.extract r.at' (r.at'+n)) o' ph') (ho:o'≤r.at'+n) (hN:T.N≤w.heap.size)
  (h1:RdAt w' q s (r.at'+n) o' T.fv) (h2:T.I (T.tk r.st (s.extract r.at' (r.at'+n))) w') (h3:Kept T.N (fun k=>k=T.p∨k=q) w w'):RdS T w' q s ph' (wordR s T.tk n ⟨r.at',o',r.st⟩):=by
 refine ⟨h1,h2,?_,hn,ho,Nat.le_trans hN h3.size⟩
 have h:=hT.step r.at' o ph r.st _ o' ph' hS hG (by rw [slice_ok hn];omega)
 rw [slice_ok hn] at h
 exact h
set_option maxHeartbeats 1000000 in
theorem sign_any {S:Type} (T:Tkr S) (hT:T.Ok) (q:Nat) (s:ByteArray) (r:Rd S) (w:World) (hs:s.size≤T.M) (hq:q<T.N) (hqp:q≠T.p) (hR:RdS T w q s true r) :
  Calls Tryz.prog 201 #[.pointer (some ⟨q,0,none⟩)] w fun e w'=>Went T q s false w (signR s T.tk r) e w':=by
 have hnx:=next_any q r.at' r.opn s T.fv w hR.inn hR.rd
 have hix0:=signix_any (nextB s r.at') (nextB_range s r.at').1 (nextB_range s r.at').2
 have HR:Hid (RdS T w q s true r):=hR
 have HT:Hid T.Ok:=hT
 by_cases h:signI (nextB s r.at')<0
 ·have h2:signR s T.tk r=(r,false):=by rw [signR,if_pos h]
  have H2:Hid (signR s T.tk r=(r,false)):=h2
  clear h2
  generalize signI (nextB s r.at')=c at *
  generalize nextB s r.at'=b at *
  clear hR hT
  go_enter Tryz.func201,Tryz.ntmps201
  go_wp2_with fail
  refine hnx.mono ?_
  rintro e w1 ⟨rfl,hb1⟩
  go_wp2_with fail
  refine (hix0 _).mono ?_
  rintro e w2 ⟨rfl,hb2⟩
  have HB:Hid (Below w.heap.size w w2):=onB hb1 hb2
  have HR2:Hid (RdS T w2 q s true r):=HR.out.later HT.out hq hqp HB.out
  clear hb1 hb2
  go_wp2_with fail
  refine (stop_any q r.at' r.opn s T.fv w2 HR2.out.rd).mono ?_
  rintro e w3 ⟨rfl,hb3⟩
  go_wp2_with fail
  exact ⟨rfl,Went.no H2.out (kept_below (onB HB.out hb3) HR.out.room)⟩
 ·obtain ⟨k1,k2⟩:=sgn_stp (o:=r.opn) hR.inn h
  have HS:Hid (Stp r.opn true (s.extract r.at' (r.at'+1)) r.opn false):=k2
  have h2:signR s T.tk r=(wordR s T.tk 1 r,true):=by rw [signR,if_neg h]
  have H2:Hid (signR s T.tk r=(wordR s T.tk 1 r,true)):=h2
  clear h2
  have h':0≤signI (nextB s r.at'):=by omega
  generalize signI (nextB s r.at')=c at *
  generalize nextB s r.at'=b at *
  clear hR hT k2 h
  go_enter Tryz.func201,Tryz.ntmps201
  go_wp2_with fail
  refine hnx.mono ?_
  rintro e w1 ⟨rfl,hb1⟩
  go_wp2_with fail
  refine (hix0 _).mono ?_
  rintro e w2 ⟨rfl,hb2⟩
  have HB:Hid (Below w.heap.size w w2):=onB hb1 hb2
  have HR2:Hid (RdS T w2 q s true r):=HR.out.later HT.out hq hqp HB.out
  clear hb1 hb2
  go_wp2_with fail
  refine (word_any T HT.out q r.at' r.opn r.opn 1 r.opn true false s r.st w2 hs k1 hq hqp HR2.out.room HR2.out.rd HR2.out.mem HR2.out.good HS.out).mono ?_
  rintro e w3 ⟨rfl,g1,g2,g3⟩
  have HK:Hid (Kept T.N (fun k=>k=T.p∨k=q) w w3):=(kept_below HB.out HR.out.room).trans g3
  have HR3:Hid (RdS T w3 q s false (wordR s T.tk 1 r)):=RdS.word (r:=r) (o':=r.opn) HT.out hs k1 HR2.out.good HS.out (by have:=HR2.out.few;omega) HR2.out.room g1 g2 g3
  clear g1 g2 g3
  go_wp2_with fail
  first | go_end0 | skip
  exact Went.ok H2.out HK.out HR3.out
end Go.Proofs.YtnlfpaopfloklaaGreatDoor
namespace Go.Proofs
open Go.Shelf
def Tryz.laysK_ren:Go.Shelf.Ren:=⟨fun | 25=>44 | n=>n,fun | 0=>0 | 3=>3 | 4=>4 | 5=>5 | 9=>9 | 37=>133 | 47=>134 | n=>n,fun | n=>n⟩
theorem Tryz.laysK:Go.Proofs.LaysPu.n25 Tryz.prog Tryz.laysK_ren:={
 mixed:=by kernel_rfl
 f25:=Tryz.func44.trans (congrArg some (by kernel_rfl))
 t0:=Tryz.underlying0
 a0:=Tryz.isAgg0
 z0:=Tryz.sizeOf0
 v0:=Tryz.zeroValue0
 i0:=by kernel_rfl
 t3:=Tryz.underlying3
 a3:=Tryz.isAgg3
 z3:=Tryz.sizeOf3
 v3:=Tryz.zeroValue3
 i3:=by kernel_rfl
 t4:=Tryz.underlying4
 a4:=Tryz.isAgg4
 z4:=Tryz.sizeOf4
 v4:=Tryz.zeroValue4
 i4:=by kernel_rfl
 t5:=Tryz.underlying5
 a5:=Tryz.isAgg5
 z5:=Tryz.sizeOf5
 v5:=Tryz.zeroValue5
 i5:=by kernel_rfl
 t9:=Tryz.underlying9
 a9:=Tryz.isAgg9
 z9:=Tryz.sizeOf9
 v9:=Tryz.zeroValue9
 i9:=by kernel_rfl
 t37:=Tryz.underlying133
 a37:=Tryz.isAgg133
 z37:=Tryz.sizeOf133
 v37:=Tryz.zeroValue133
 i37:=by kernel_rfl
 t47:=Tryz.underlying134
 a47:=Tryz.isAgg134
 z47:=Tryz.sizeOf134
 v47:=Tryz.zeroValue134
 i47:=by kernel_rfl }
namespace YtnlfpaopfloklaaGreatDoor
open Go.ChangeShapes Go.WideShapes Go.ChangeAt Go.RowKit
theorem sclone_any (s:ByteArray) (w:World) (hs:s.size≤281474976710656):Calls Tryz.prog 23 #[.string s] w fun e w'=>e=.returned (.string s)∧Below w.heap.size w w':=by
 have h:=AnyPu.stringslite_Clone Tryz.laysK s w hs
 go_enter Tryz.func23,Tryz.ntmps23
 go_wp2_with fail
 refine Calls.mono h ?_
 rintro e w1 ⟨rfl,hb1⟩
 go_wp2_with fail
 go_ret
 exact ⟨rfl,hb1⟩
end YtnlfpaopfloklaaGreatDoor
end Go.Proofs
namespace Go.Proofs.YtnlfpaopfloklaaGreatDoor
def numTo (D:Nat→Dm) (P:Nat→Nat):Nat→Nat
 | 0=>0
 | k+1=>numTo D P k*(D k).n+P k
theorem numTo_lt {D:Nat→Dm} {P:Nat→Nat} (k:Nat) (h:∀ j,j<k→P j<(D j).n):numTo D P k<prodN D k:=by
 induction k with
 | zero=>exact Nat.one_pos
 | succ k ih =>
  have h1:=ih fun j hj=>h j (by omega)
  have h2:=h k (by omega)
  rw [numTo,prodN]
  have h3:(numTo D P k+1)*(D k).n≤prodN D k*(D k).n:=Nat.mul_le_mul_right _ h1
  rw [Nat.add_mul] at h3
  omega
def restAt (D:Nat→Dm) (m n:Nat):Nat→Nat
 | 0=>n
 | r+1=>restAt D m n r / (D (m-1-r)).n
def digitAt (D:Nat→Dm) (m n k:Nat):Nat:=restAt D m n (m-1-k) % (D k).n
theorem restAt_num {D:Nat→Dm} {P:Nat→Nat} {m:Nat} (h:∀ j,j<m→P j<(D j).n) (r:Nat):r≤m→restAt D m (numTo D P m) r=numTo D P (m-r):=by
 induction r with
 | zero=>intro _;rfl
 | succ r ih =>
  intro hr
  rw [restAt,ih (by omega)]
  have e:m-r=(m-1-r)+1:=by omega
  rw [e,numTo,show m-(r+1)=m-1-r by omega]
  have hp:=h (m-1-r) (by omega)
  rw [Nat.mul_comm,Nat.mul_add_div (by omega),Nat.div_eq_of_lt hp,Nat.add_zero]
theorem digit_num {D:Nat→Dm} {P:Nat→Nat} {m:Nat} (h:∀ j,j<m→P j<(D j).n) {k:Nat} (hk:k<m):digitAt D m (numTo D P m) k=P k:=by
 unfold digitAt
 rw [restAt_num h _ (by omega),show m-(m-1-k)=k+1 by omega,numTo]
 have hp:=h k hk
 rw [Nat.mul_comm,Nat.mul_add_mod,Nat.mod_eq_of_lt hp]
theorem num_digit {D:Nat→Dm} {m n:Nat} (hn:n<prodN D m) (k:Nat):k≤m→numTo D (digitAt D m n) k=restAt D m n (m-k):=by
 have hlt:∀ r,r≤m→restAt D m n r<prodN D (m-r):=by
  intro r
  induction r with
  | zero=>intro _;exact hn
  | succ r ih =>
   intro hr
   have h1:=ih (by omega)
   have e:m-r=(m-1-r)+1:=by omega
   rw [e,prodN] at h1
   rw [restAt,show m-(r+1)=m-1-r by omega]
   exact Nat.div_lt_of_lt_mul (by rw [Nat.mul_comm];exact h1)
 induction k with
 | zero =>
  intro _
  have h1:=hlt m (Nat.le_refl _)
  rw [Nat.sub_self] at h1
  have h2:prodN D 0=1:=rfl
  rw [numTo,Nat.sub_zero]
  omega
 | succ k ih =>
  intro hk
  rw [numTo,ih (by omega)]
  have e:m-k=(m-1-k)+1:=by omega
  rw [e,restAt,show m-1-(m-1-k)=k by omega,show m-(k+1)=m-1-k by omega]
  unfold digitAt
  have:=Nat.div_add_mod (restAt D m n (m-1-k)) (D k).n
  rw [Nat.mul_comm] at this
  exact this
theorem num_back {D:Nat→Dm} {m n:Nat} (hn:n<prodN D m):numTo D (digitAt D m n) m=n:=by
 rw [num_digit hn m (Nat.le_refl _),Nat.sub_self];rfl
theorem digit_lt {D:Nat→Dm} {m n k:Nat} (h:1≤(D k).n):digitAt D m n k<(D k).n:=Nat.mod_lt _ h
def outP (D:Nat→Dm) (L:List Int) (i:Nat):Bool:=decide (L.getD i 0<0) || decide (((D i).n:Int)≤L.getD i 0)
def shapeErr (D:Nat→Dm) (n:Nat) (L:List Int):Int:=if L.length≠n then 3 else if 0≤findFrom (outP D L) n 0 then 1 else 0
def placeErr (D:Nat→Dm) (n:Nat) (L:List Int):Int:=if (allErr D n).2.2≠0 then (allErr D n).2.2 else shapeErr D n L
theorem sh0 {D:Nat→Dm} {n:Nat} {L:List Int} (h:L.length≠n):shapeErr D n L=3:=by unfold shapeErr;rw [if_pos h]
theorem sh1 {D:Nat→Dm} {n:Nat} {L:List Int} (h:L.length=n) (h1:0≤findFrom (outP D L) n 0):shapeErr D n L=1:=by unfold shapeErr;rw [if_neg (by simpa using h),if_pos h1]
theorem sh2 {D:Nat→Dm} {n:Nat} {L:List Int} (h:L.length=n) (h1 : ¬ 0≤findFrom (outP D L) n 0):shapeErr D n L=0:=by unfold shapeErr;rw [if_neg (by simpa using h),if_neg h1]
theorem pe0 {D:Nat→Dm} {n:Nat} {L:List Int} (h:(allErr D n).2.2≠0):placeErr D n L=(allErr D n).2.2:=by unfold placeErr;rw [if_pos h]
theorem pe1 {D:Nat→Dm} {n:Nat} {L:List Int} (h:(allErr D n).2.2=0):placeErr D n L=shapeErr D n L:=by unfold placeErr;rw [if_neg (by simpa using h)]
structure InO (D:Nat→Dm) (n:Nat) (L:List Int):Prop where
 right:(allErr D n).2.2=0
 len:L.length=n
 lo:∀ i,i<n→0≤L.getD i 0
 hi:∀ i,i<n→L.getD i 0<((D i).n:Int)
theorem allErr_some {D:Nat→Dm} {n:Nat} (h:(allErr D n).2.2=0):1≤n∧n≤4∧prodN D n≤3000∧∀ i,i<n→1≤(D i).n∧(D i).n≤12:=by
 have h4:=allErr_right h
 unfold allErr at h
 split at h
 ·simp at h
 ·split at h
  ·simp at h
  ·split at h
   ·rename_i h3;exact absurd h h3
   ·split at h
    ·simp at h
    ·rename_i a b c d
     exact ⟨by omega,by omega,by omega,fun i hi=>⟨(dimErr_right (h4.2 i hi)).2.1,(dimErr_right (h4.2 i hi)).2.2.1⟩⟩
theorem inO_of {D:Nat→Dm} {n:Nat} {L:List Int} (h:placeErr D n L=0):InO D n L:=by
 unfold placeErr at h
 split at h
 ·rename_i h1;exact absurd h h1
 ·rename_i h1
  unfold shapeErr at h
  split at h
  ·cases h
  ·split at h
   ·cases h
   ·rename_i h2 h3
    have hn:∀ i,i<n→outP D L i=false:=fun i hi=>by
     rcases findFrom_cases (outP D L) n 0 with ⟨_,h4⟩ | ⟨k,h4,_⟩
     ·exact h4 i (Nat.zero_le _) (by omega)
     ·rw [h4] at h3;omega
    exact ⟨by simpa using h1,by simpa using h2,fun i hi=>by have:=hn i hi;simp [outP,-List.getD_eq_getElem?_getD] at this;omega,fun i hi=>by have:=hn i hi;simp [outP,-List.getD_eq_getElem?_getD] at this;omega⟩
theorem InO.ok {D:Nat→Dm} {n:Nat} {L:List Int} (h:InO D n L):placeErr D n L=0:=by
 rw [pe1 h.right,sh2 h.len]
 rw [findFrom_none]
 ·decide
 ·intro j _ hj
  have h1:=h.lo j (by omega)
  have h2:=h.hi j (by omega)
  simp [outP,-List.getD_eq_getElem?_getD]
  omega
def numI (D:Nat→Dm) (L:List Int):Nat→Int
 | 0=>0
 | k+1=>numI D L k*((D k).n:Int)+L.getD k 0
theorem numI_nat {D:Nat→Dm} {L:List Int} (k:Nat) (h:∀ i,i<k→0≤L.getD i 0):numI D L k=(numTo D (fun i=>(L.getD i 0).toNat) k:Int):=by
 induction k with
 | zero=>rfl
 | succ k ih =>
  have:=h k (by omega)
  rw [numI,numTo,ih fun i hi=>h i (by omega),Int.natCast_add,Int.natCast_mul,Int.toNat_of_nonneg this]
theorem prodN_small {D:Nat→Dm} {k:Nat} (h:∀ j,j<k→(D j).n≤12) (hk:k≤4):prodN D k≤20736:=by
 have h1:=prodN_le h
 have h2:12 ^ k≤12 ^ 4:=Nat.pow_le_pow_right (by decide) hk
 have h3:(12:Nat) ^ 4=20736:=by decide
 omega
theorem numI_bound {D:Nat→Dm} {n:Nat} {L:List Int} (h:InO D n L) {k:Nat} (hk:k≤n):0≤numI D L k∧numI D L k<(prodN D k:Int)∧prodN D k≤20736:=by
 obtain ⟨_,h4,_,hd⟩:=allErr_some h.right
 rw [numI_nat k fun i hi=>h.lo i (by omega)]
 have h1:=numTo_lt (D:=D) (P:=fun i=>(L.getD i 0).toNat) k fun j hj=>by
  have:=h.lo j (by omega)
  have:=h.hi j (by omega)
  omega
 refine ⟨by omega,by omega,prodN_small (fun j hj=>(hd j (by omega)).2) (by omega)⟩
def numV (D:Nat→Dm) (n:Nat) (L:List Int):Int:=if placeErr D n L=0 then numI D L n else 0
def placeL (D:Nat→Dm) (n x:Nat):List Int:=(List.range n).map fun j=>(digitAt D n x j:Int)
theorem placeL_len (D:Nat→Dm) (n x:Nat):(placeL D n x).length=n:=by simp [placeL]
theorem placeL_at {D:Nat→Dm} {n x i:Nat} (h:i<n):(placeL D n x).getD i 0=(digitAt D n x i:Int):=by
 simp [placeL,List.getD,h]
theorem placeL_in {D:Nat→Dm} {n x:Nat} (h:(allErr D n).2.2=0):InO D n (placeL D n x):=by
 obtain ⟨_,_,_,hd⟩:=allErr_some h
 exact ⟨h,placeL_len ..,fun i hi=>by rw [placeL_at hi];omega,fun i hi=>by rw [placeL_at hi];have:=digit_lt (D:=D) (m:=n) (n:=x) (k:=i) (hd i hi).1;omega⟩
theorem numTo_same {D:Nat→Dm} {P Q:Nat→Nat} (k:Nat) (h:∀ i,i<k→P i=Q i):numTo D P k=numTo D Q k:=by
 induction k with
 | zero=>rfl
 | succ k ih=>rw [numTo,numTo,ih fun i hi=>h i (by omega),h k (by omega)]
theorem num_place {D:Nat→Dm} {n x:Nat} (h:(allErr D n).2.2=0) (hx:x<prodN D n):numI D (placeL D n x) n=(x:Int):=by
 rw [numI_nat n (placeL_in h).lo,numTo_same (Q:=digitAt D n x) n fun i hi=>by rw [placeL_at hi];omega,num_back hx]
theorem place_num {D:Nat→Dm} {n:Nat} {L:List Int} (h:InO D n L):placeL D n (numI D L n).toNat=L:=by
 have h1:∀ j,j<n→(L.getD j 0).toNat<(D j).n:=fun j hj=>by have:=h.lo j hj;have:=h.hi j hj;omega
 rw [numI_nat n h.lo,Int.toNat_natCast]
 apply List.ext_getElem
 ·rw [placeL_len,h.len]
 ·intro i h2 h3
  rw [placeL_len] at h2
  have h4:=digit_num h1 h2
  have h5:=h.lo i h2
  have h6:L.getD i 0=L[i]:=by simp [List.getD,h3]
  simp only [placeL,List.getElem_map,List.getElem_range]
  rw [h4,←h6]
  omega
end Go.Proofs.YtnlfpaopfloklaaGreatDoor
namespace Go.Proofs.YtnlfpaopfloklaaGreatDoor
open Go.ChangeShapes Go.WideShapes Go.ChangeAt Go.RowKit
set_option maxRecDepth 20000
def PlAt (w:World) (A:Option Addr) (cap:Nat) (L:List Int):Prop:=L.length≤cap∧(L=[]∨∃ b o,A=some ⟨b,o,none⟩∧b<w.heap.size∧∀ j,j<L.length→w.cell? ⟨b,o+j,none⟩=some (.int .i64 (L.getD j 0)))
theorem PlAt.later {w w':World} {A:Option Addr} {cap:Nat} {L:List Int} (h:PlAt w A cap L) (hB:Below w.heap.size w w'):PlAt w' A cap L:=by
 obtain ⟨h1,h2 | ⟨b,o,h2,h3,h4⟩⟩:=h
 ·exact ⟨h1,Or.inl h2⟩
 ·exact ⟨h1,Or.inr ⟨b,o,h2,Nat.lt_of_lt_of_le h3 hB.size,fun j hj=>(hB.cell (p:=⟨b,o+j,none⟩) h3).trans (h4 j hj)⟩⟩
theorem PlAt.nil (w:World) (A:Option Addr) (cap:Nat):PlAt w A cap []:=⟨Nat.zero_le _,Or.inl rfl⟩
def NewA (N:Nat) (A:Option Addr):Prop := ∀ b o,A=some ⟨b,o,none⟩→N≤b
theorem NewA.none (N:Nat):NewA N none:=fun _ _ h=>by cases h
theorem NewA.le {N M:Nat} {A:Option Addr} (h:NewA N A) (hm:M≤N):NewA M A:=fun b o e=>Nat.le_trans hm (h b o e)
def IntB (w:World) (g:Nat) (L:List Int):Prop:=w.heap[g]?=some (.cells (L.map (Value.int .i64)).toArray 3 (0,0))
theorem IntB.lt {w:World} {g:Nat} {L:List Int} (h:IntB w g L):g<w.heap.size:=(Array.getElem?_eq_some_iff.1 h).1
theorem IntB.cell {w:World} {g:Nat} {L:List Int} (h:IntB w g L) {j:Nat} (hj:j<L.length):w.cell? ⟨g,j,none⟩=some (.int .i64 (L.getD j 0)):=by
 rw [Lib.cell_of_heap h]
 simp [List.getD,hj]
theorem IntB.frozen {w:World} {g:Nat} {L:List Int} (h:IntB w g L) (j:Nat):w.frozen? ⟨g,j,none⟩=false:=Lib.frozen_of_heap h j
theorem IntB.later {w w':World} {g:Nat} {L:List Int} (h:IntB w g L) (hB:Below w.heap.size w w'):IntB w' g L:=(hB.block g h.lt).trans h
theorem IntB.set {w:World} {g:Nat} {L:List Int} (h:IntB w g L) (j:Nat) (x:Int):IntB (w.setCell ⟨g,j,none⟩ (.int .i64 x)) g (L.set j x):=by
 unfold IntB at *
 have e:(L.set j x).map (Value.int .i64)=(L.map (Value.int .i64)).set j (.int .i64 x):=by rw [List.map_set]
 simp [World.setCell,Array.getElem?_modify,h,e]
theorem IntB.pl {w:World} {g:Nat} {L:List Int} (h:IntB w g L):PlAt w (some ⟨g,0,none⟩) L.length L :=
 ⟨Nat.le_refl _,Or.inr ⟨g,0,rfl,h.lt,fun j hj=>by rw [Nat.zero_add];exact h.cell hj⟩⟩
theorem made_ints (n:Nat):madeCells #[.int .i64 0] n=((List.replicate n (0:Int)).map (Value.int .i64)).toArray:=by
 apply Array.ext
 ·simp [madeCells]
 ·intro i h1 h2
  simp [madeCells,Nat.mod_one]
theorem IntB.made (w:World) (n:Nat):IntB (w.alloc (.cells (madeCells #[.int .i64 0] n) 3)) w.heap.size (List.replicate n 0):=by
 unfold IntB
 rw [made_ints]
 exact heap_alloc_new w _
theorem Tryz.infoIntP:(Tryz.prog.info? 3).map (fun i=>(i.zero,i.size,i.bytes))=some (some (.int .i64 0),1,8):=by kernel_rfl
theorem checko_any (A0:Option Addr) (cap n:Nat) (D:Nat→Dm) (A:Nat→Option Addr) (C:Nat→Nat) (w:World) (hM:DimsV w A0 cap n D A C):Calls Tryz.prog 62 #[.agg #[.slice A0 n cap]] w fun e w'=>e=.returned (errV (allErr D n).2.2)∧Below w.heap.size w w':=by
 have hB0:=ownOut_below w A0 n cap 24
 have h:=all_any A0 cap n D A C (ownOut w A0 n cap 24) (hM.later hB0)
 have HB0:Hid (Below w.heap.size w (ownOut w A0 n cap 24)):=hB0
 clear hM hB0
 generalize errV (allErr D n).2.2=v at h
 generalize (allErr D n).1=x at h
 generalize (allErr D n).2.1=y at h
 go_enter Tryz.func62,Tryz.ntmps62
 go_wp2_with fail
 refine h.mono ?_
 rintro e w1 ⟨rfl,hb1⟩
 go_wp2_with fail
 go_ret
 exact ⟨rfl,onB HB0.out hb1⟩
def cellsV (D:Nat→Dm) (n:Nat):Int:=if (allErr D n).2.2=0 then (prodN D n:Int) else 0
set_option maxHeartbeats 2000000 in
theorem pcells_any (A0:Option Addr) (cap n:Nat) (D:Nat→Dm) (A:Nat→Option Addr) (C:Nat→Nat) (w:World) (hM:DimsV w A0 cap n D A C):Calls Tryz.prog 34 #[.agg #[.slice A0 n cap]] w fun e w'=>e=.returned (.tuple #[.int .i64 (cellsV D n),errV (allErr D n).2.2])∧Below w.heap.size w w':=by
 have hB0:=ownOut_below w A0 n cap 24
 have h:=checko_any A0 cap n D A C (ownOut w A0 n cap 24) (hM.later hB0)
 have HB0:Hid (Below w.heap.size w (ownOut w A0 n cap 24)):=hB0
 have HM:Hid (DimsV w A0 cap n D A C):=hM
 clear hM hB0
 by_cases he:(allErr D n).2.2=0
 ·obtain ⟨hn1,hn4,-,hd⟩:=allErr_some he
  have HV:Hid (cellsV D n=(prodN D n:Int)):=by show _=_;unfold cellsV;rw [if_pos he]
  have HE:Hid (errV (allErr D n).2.2=.nilIface):=by show _=_;rw [he];rfl
  rw [he,errV_zero] at h
  have HD:Hid (∀ i,i<n→1≤(D i).n∧(D i).n≤12):=hd
  have hn':(n:Int)≤4:=by omega
  clear he hd
  go_enter Tryz.func34,Tryz.ntmps34
  go_wp2_with fail
  refine h.mono ?_
  rintro e w1 ⟨rfl,hb1⟩
  have hB:Below w.heap.size w w1:=onB HB0.out hb1
  have h2:w1.cell? ⟨w.heap.size,0,none⟩=some (.slice A0 n cap):=(hb1.cell (p:=⟨w.heap.size,0,none⟩) (by show w.heap.size<_;rw [ownOut_size];omega)).trans (ownOut_at ..)
  obtain ⟨hcap,h0 | ⟨b,o,rfl,hMs⟩⟩:=HM.out.later hB
  ·omega
  have HMs:Hid (DimsAt w1 b o n D A C):=hMs
  have HB:Hid (Below w.heap.size w w1):=hB
  clear hb1 h hMs hB
  go_wp2_with fail
  go_loopg [5,16] n (fun g s5 s16 wr => ∃ (k:Nat),k≤n∧g=n-k∧s16=.int .i64 k∧s5=.int .i64 (prodN D k)∧Below w1.heap.size w1 wr)
  case atStart=>exact ⟨0,Nat.zero_le _,rfl,rfl,rfl,Below.refl _ _⟩
  case round =>
   obtain ⟨k,hk,rfl,rfl,rfl,hBw⟩:=hrel
   by_cases hlt:k<n
   ·obtain ⟨h0,h1,h3,-⟩:=(HMs.out.later hBw).2 k hlt
    have hki:(k:Int)<(n:Int):=by omega
    have hp1:prodN D (k+1)≤20736:=prod_small (fun j hj=>(HD.out j (by omega)).2) (by omega)
    have hp2:(prodN D (k+1):Int)=(prodN D k:Int)*((D k).n:Int):=by rw [prodN];exact Int.natCast_mul _ _
    have hp3:0≤(prodN D k:Int)*((D k).n:Int):=by omega
    have hp4:(prodN D k:Int)*((D k).n:Int)≤20736:=by omega
    have HW:Hid (Below w1.heap.size w1 wr):=hBw
    have HP:Hid ((prodN D (k+1):Int)=(prodN D k:Int)*((D k).n:Int)):=hp2
    clear hBw hp1 hp2
    go_wp2_with fail
    go_roundg (n-(k+1))
    case measure=>omega
    case rel=>exact ⟨k+1,by omega,rfl,by go_num,by rw [HP.out],onB HW.out (by go_grown)⟩
   ·have hke:k=n:=by omega
    subst hke
    go_wp2_with fail
    go_ret2
    rw [HV.out,HE.out]
    exact ⟨rfl,onB HB.out hBw⟩
 ·have HV:Hid (cellsV D n=0):=by show _=_;unfold cellsV;rw [if_neg he]
  have HE:Hid (errV (allErr D n).2.2=.iface 75 (.int .i64 (allErr D n).2.2)):=errV_some he
  rw [errV_some he] at h
  clear he
  generalize (allErr D n).2.2=c at h HE
  go_enter Tryz.func34,Tryz.ntmps34
  go_wp2_with fail
  refine h.mono ?_
  rintro e w1 ⟨rfl,hb1⟩
  go_wp2_with fail
  go_ret2
  rw [HV.out,HE.out]
  exact ⟨rfl,onB HB0.out hb1⟩
theorem pl_ints {w:World} {A:Option Addr} {cap:Nat} {L:List Int} (h:IntsAt w A cap L):PlAt w A cap L:=by
 obtain ⟨h1,h2 | ⟨b,h2,h3,h4⟩⟩:=h
 ·exact ⟨h1,Or.inl h2⟩
 ·exact ⟨h1,Or.inr ⟨b,0,h2,h3,fun j hj=>by rw [Nat.zero_add];exact h4 j hj⟩⟩
set_option maxHeartbeats 1000000 in
theorem indexm_pl (F:Nat) (cap:Array Value) (p:Int→Bool) (hent:∀ (args:Array Value) (w:World),(callFunc F args).run Tryz.prog w=.ok (.enter F args) w) (A:Option Addr) (c:Nat) (L:List Int) (w:World) (hn:L.length≤1048576) (hL:PlAt w A c L)
  (hF:∀ (x:Int) (w':World),x∈L→Below w.heap.size w w'→Calls Tryz.prog F (#[.int .i64 x] ++ cap) w' fun e w''=>e=.returned (.bool (p x))∧Below w'.heap.size w' w'') :
  Calls Tryz.prog 80 #[.slice A L.length c,.func (.func F) #[] cap] w fun e w'=>e=.returned (.int .i64 (findFrom (fun j=>p (L.getD j 0)) L.length 0))∧Below w.heap.size w w':=by
 obtain ⟨hc,h0 | ⟨b,o,rfl,hbw,hcell⟩⟩:=hL
 ·subst h0
  simp only [List.length_nil]
  go_enter Tryz.func80,Tryz.ntmps80
  go_wp2_with fail
  refine wp_loop_rounds 1 ?_
  rw [rounds_succ]
  go_wp2_with fail
  go_ret
  exact ⟨rfl,Below.refl _ _⟩
 ·have HC:Hid (∀ j,j<L.length→w.cell? ⟨b,o+j,none⟩=some (.int .i64 (L.getD j 0))):=hcell
  have HF:Hid (∀ (x:Int) (w':World),x∈L→Below w.heap.size w w'→Calls Tryz.prog F (#[.int .i64 x] ++ cap) w' fun e w''=>e=.returned (.bool (p x))∧Below w'.heap.size w' w''):=hF
  obtain ⟨pj,hpj⟩:∃ pj:Nat→Bool,pj=fun j=>p (L.getD j 0):=⟨_,rfl⟩
  have HP:Hid (∀ j,pj j=p (L.getD j 0)):=fun j=>by rw [hpj]
  rw [←hpj]
  obtain ⟨n,hnn⟩:∃ n,L.length=n:=⟨_,rfl⟩
  have HNn:Hid (L.length=n):=hnn
  rw [hnn] at hn hc HC ⊢
  clear hcell hpj hnn hF
  go_enter Tryz.func80,Tryz.ntmps80
  go_wp2_with fail
  go_loopg [8] n (fun g s8 wr => ∃ (k:Nat),k≤n∧g=n-k∧s8=.int .i64 k∧findFrom pj (n-k) k=findFrom pj n 0∧Below w.heap.size w wr)
  case atStart=>exact ⟨0,Nat.zero_le _,rfl,rfl,rfl,Below.refl _ _⟩
  case round =>
   obtain ⟨k,hk,rfl,rfl,hf,hBw⟩:=hrel
   have HQ:Hid (findFrom pj (n-k) k=findFrom pj n 0):=hf
   have HW:Hid (Below w.heap.size w wr):=hBw
   clear hf
   by_cases hlt:k<n
   ·have hki:(k:Int)<(n:Int):=by omega
    have hcx:=(hBw.cell (p:=⟨b,o+k,none⟩) hbw).trans (HC.out k hlt)
    have hn':(n:Int)≤1048576:=by omega
    have hpk:=HP.out k
    have HSK:Hid (n-k=(n-(k+1))+1):=by show _=_;omega
    have hbd:=HF.out (L.getD k 0) wr (by rw [List.getD_eq_getElem?_getD,List.getElem?_eq_getElem (by rw [HNn.out];exact hlt)];exact List.getElem_mem _) hBw
    rw [←hpk] at hbd
    generalize L.getD k 0=x at hcx hpk hbd
    clear hBw hpk
    cases hb:pj k
    ·rw [hb] at hbd
     have HK:Hid (pj k=false):=hb
     clear hb
     go_wp2_with fail
     refine hbd.mono ?_
     rintro e w1 ⟨rfl,hb1⟩
     go_wp2_with fail
     go_roundg (n-(k+1))
     case measure=>omega
     case rel=>exact ⟨k+1,by omega,rfl,by go_num,by rw [←HQ.out,HSK.out,findFrom_miss _ HK.out],onB HW.out hb1⟩
    ·rw [hb] at hbd
     have HK:Hid (pj k=true):=hb
     clear hb
     go_wp2_with fail
     refine hbd.mono ?_
     rintro e w1 ⟨rfl,hb1⟩
     go_wp2_with fail
     go_ret
     exact ⟨by rw [←HQ.out,HSK.out,findFrom_hit _ HK.out];rfl,onB HW.out hb1⟩
   ·have hke:k=n:=by omega
    subst hke
    go_wp2_with fail
    go_ret
    exact ⟨by rw [←HQ.out,Nat.sub_self];rfl,HW.out⟩
theorem contm_pl (F:Nat) (cap:Array Value) (p:Int→Bool) (hent:∀ (args:Array Value) (w:World),(callFunc F args).run Tryz.prog w=.ok (.enter F args) w) (A:Option Addr) (c:Nat) (L:List Int) (w:World) (hn:L.length≤1048576) (hL:PlAt w A c L)
  (hF:∀ (x:Int) (w':World),x∈L→Below w.heap.size w w'→Calls Tryz.prog F (#[.int .i64 x] ++ cap) w' fun e w''=>e=.returned (.bool (p x))∧Below w'.heap.size w' w'') :
  Calls Tryz.prog 53 #[.slice A L.length c,.func (.func F) #[] cap] w fun e w'=>e=.returned (.bool (decide (0≤findFrom (fun j=>p (L.getD j 0)) L.length 0)))∧Below w.heap.size w w':=by
 have h:=indexm_pl F cap p hent A c L w hn hL hF
 generalize findFrom (fun j=>p (L.getD j 0)) L.length 0=r at *
 clear hF hL
 go_enter Tryz.func53,Tryz.ntmps53
 go_wp2_with fail
 refine h.mono ?_
 rintro e w1 ⟨rfl,hb1⟩
 go_wp2_with fail
 go_ret
 exact ⟨rfl,hb1⟩
end Go.Proofs.YtnlfpaopfloklaaGreatDoor
namespace Go.Proofs.YtnlfpaopfloklaaGreatDoor
open Go.ChangeShapes Go.WideShapes Go.ChangeAt Go.RowKit
def joinP (blank:Bool) (ka kb:Int) (r:Int×Int):Int×Int:=if ka=2∨kb=2 then (2,0) else if blank=true then (0,0) else r
def JoinsTo (fb fo:Nat) (ka na kb nb k n:Int) (er:Value):Prop := ∀ (w:World),Calls Tryz.prog 124 #[.agg #[.int .i64 ka,.int .i64 na],.agg #[.int .i64 kb,.int .i64 nb],.func (.func fb) #[] #[],.func (.func fo) #[] #[]] w fun e w'=>e=.returned (.tuple #[.agg #[.int .i64 k,.int .i64 n],er])∧Below w.heap.size w w'
def OpTo (f:Nat) (ka na kb nb k n:Int) (er:Value):Prop := ∀ (w:World),Calls Tryz.prog f #[.agg #[.int .i64 ka,.int .i64 na],.agg #[.int .i64 kb,.int .i64 nb]] w fun e w'=>e=.returned (.tuple #[.agg #[.int .i64 k,.int .i64 n],er])∧Below w.heap.size w w'
theorem joins_yes (fb fo:Nat) (p:Int→Int→Bool) (he:Enters fb) (hp:Blank fb p) (heo:Enters fo) (ka na kb nb:Int) (ha:good ka na=true) (hb:good kb nb=true) (r:Int×Int) (ho:Makes fo na nb r) :
  JoinsTo fb fo ka na kb nb (joinP (p ka kb) ka kb r).1 (joinP (p ka kb) ka kb r).2 .nilIface:=by
 intro w
 unfold joinP
 by_cases hf:ka=2∨kb=2
 ·rw [if_pos hf]
  exact join_fault _ _ ka na kb nb w ha hb (by simp;exact hf)
 ·rw [if_neg hf]
  have hff:((fun k:Int=>k == 2) ka || (fun k:Int=>k == 2) kb)=false:=by simp;omega
  cases hpp:p ka kb
  ·rw [if_neg (by simp)]
   exact join_made fb fo p he hp heo ka na kb nb w ha hb r ho hff hpp
  ·rw [if_pos rfl]
   exact join_blank fb p he hp _ ka na kb nb w ha hb hff hpp
theorem good_bd {k n:Int} (h:good k n=true) : -1000000000000≤n∧n≤1000000000000:=by simp [good] at h;omega
def plusP (ka na kb nb:Int):Int×Int:=joinP (!(ka != 0 || kb != 0)) ka kb (ofP (na+nb))
def minusP (ka na kb nb:Int):Int×Int:=joinP (!(ka != 0 || kb != 0)) ka kb (ofP (na-nb))
def timesP (ka na kb nb:Int):Int×Int:=joinP (ka == 0 || kb == 0) ka kb (ofP (na*nb))
def overP (ka na kb nb:Int):Int×Int:=joinP (ka == 0 || kb == 0) ka kb (quoP na nb)
theorem add_of (ka na kb nb k n:Int) (er:Value) (h:JoinsTo 125 127 ka na kb nb k n er):OpTo 95 ka na kb nb k n er:=by
 intro w
 unfold JoinsTo at h
 go_enter Tryz.func95,Tryz.ntmps95
 go_wp2_with fail
 refine (h _).mono ?_
 rintro e w1 ⟨rfl,hb⟩
 have hB:Below w.heap.size w w1:=Below.trans (by go_grown) (hb.mono (by simp;omega))
 obtain ⟨hc,hf⟩:=bcell hb
 have hz:=bsize hb
 simp at hz
 go_wp2_with fail
 refine bodyPost_ret (v:=.tuple #[.agg #[.int .i64 k,.int .i64 n],er]) (by simp [results,Tryz.results95,go_sem,hc]) rfl ⟨rfl,?_⟩
 go_grown
theorem add_yes (ka na kb nb:Int) (ha:good ka na=true) (hb:good kb nb=true):OpTo 95 ka na kb nb (plusP ka na kb nb).1 (plusP ka na kb nb).2 .nilIface:=by
 obtain ⟨h1,h2⟩:=good_bd ha
 obtain ⟨h3,h4⟩:=good_bd hb
 exact add_of _ _ _ _ _ _ _ (joins_yes _ _ _ both_in both_any plus_in ka na kb nb ha hb _ (plus_any na nb h1 h2 h3 h4))
theorem sub_of (ka na kb nb k n:Int) (er:Value) (h:JoinsTo 125 126 ka na kb nb k n er):OpTo 94 ka na kb nb k n er:=by
 intro w
 unfold JoinsTo at h
 go_enter Tryz.func94,Tryz.ntmps94
 go_wp2_with fail
 refine (h _).mono ?_
 rintro e w1 ⟨rfl,hb⟩
 have hB:Below w.heap.size w w1:=Below.trans (by go_grown) (hb.mono (by simp;omega))
 obtain ⟨hc,hf⟩:=bcell hb
 have hz:=bsize hb
 simp at hz
 go_wp2_with fail
 refine bodyPost_ret (v:=.tuple #[.agg #[.int .i64 k,.int .i64 n],er]) (by simp [results,Tryz.results94,go_sem,hc]) rfl ⟨rfl,?_⟩
 go_grown
theorem sub_yes (ka na kb nb:Int) (ha:good ka na=true) (hb:good kb nb=true):OpTo 94 ka na kb nb (minusP ka na kb nb).1 (minusP ka na kb nb).2 .nilIface:=by
 obtain ⟨h1,h2⟩:=good_bd ha
 obtain ⟨h3,h4⟩:=good_bd hb
 exact sub_of _ _ _ _ _ _ _ (joins_yes _ _ _ both_in both_any minus_in ka na kb nb ha hb _ (minus_any na nb h1 h2 h3 h4))
theorem mul_of (ka na kb nb k n:Int) (er:Value) (h:JoinsTo 189 190 ka na kb nb k n er):OpTo 161 ka na kb nb k n er:=by
 intro w
 unfold JoinsTo at h
 go_enter Tryz.func161,Tryz.ntmps161
 go_wp2_with fail
 refine (h _).mono ?_
 rintro e w1 ⟨rfl,hb⟩
 have hB:Below w.heap.size w w1:=Below.trans (by go_grown) (hb.mono (by simp;omega))
 obtain ⟨hc,hf⟩:=bcell hb
 have hz:=bsize hb
 simp at hz
 go_wp2_with fail
 refine bodyPost_ret (v:=.tuple #[.agg #[.int .i64 k,.int .i64 n],er]) (by simp [results,Tryz.results161,go_sem,hc]) rfl ⟨rfl,?_⟩
 go_grown
theorem mul_yes (ka na kb nb:Int) (ha:good ka na=true) (hb:good kb nb=true):OpTo 161 ka na kb nb (timesP ka na kb nb).1 (timesP ka na kb nb).2 .nilIface:=by
 obtain ⟨h1,h2⟩:=good_bd ha
 obtain ⟨h3,h4⟩:=good_bd hb
 exact mul_of _ _ _ _ _ _ _ (joins_yes _ _ _ one_in one_any product_in ka na kb nb ha hb _ (product_any na nb h1 h2 h3 h4))
theorem div_of (ka na kb nb k n:Int) (er:Value) (h:JoinsTo 189 191 ka na kb nb k n er):OpTo 162 ka na kb nb k n er:=by
 intro w
 unfold JoinsTo at h
 go_enter Tryz.func162,Tryz.ntmps162
 go_wp2_with fail
 refine (h _).mono ?_
 rintro e w1 ⟨rfl,hb⟩
 have hB:Below w.heap.size w w1:=Below.trans (by go_grown) (hb.mono (by simp;omega))
 obtain ⟨hc,hf⟩:=bcell hb
 have hz:=bsize hb
 simp at hz
 go_wp2_with fail
 refine bodyPost_ret (v:=.tuple #[.agg #[.int .i64 k,.int .i64 n],er]) (by simp [results,Tryz.results162,go_sem,hc]) rfl ⟨rfl,?_⟩
 go_grown
theorem div_yes (ka na kb nb:Int) (ha:good ka na=true) (hb:good kb nb=true):OpTo 162 ka na kb nb (overP ka na kb nb).1 (overP ka na kb nb).2 .nilIface:=by
 obtain ⟨h1,h2⟩:=good_bd ha
 obtain ⟨h3,h4⟩:=good_bd hb
 exact div_of _ _ _ _ _ _ _ (joins_yes _ _ _ one_in one_any quotient_in ka na kb nb ha hb _ (quotient_any na nb h1 h2))
end Go.Proofs.YtnlfpaopfloklaaGreatDoor
namespace Go.Proofs.YtnlfpaopfloklaaGreatDoor
def stepTo (D:Nat→Dm) (dim:Nat):Nat→Nat
 | 0=>1
 | t+1=>stepTo D dim t*(D (dim+1+t)).n
def stepD (D:Nat→Dm) (n dim:Nat):Nat:=stepTo D dim (n-1-dim)
theorem stepTo_front (D:Nat→Dm) (dim:Nat):∀ t,stepTo D dim (t+1)=(D (dim+1)).n*stepTo D (dim+1) t
 | 0=>by simp [stepTo]
 | t+1=>by
  rw [stepTo,stepTo_front D dim t,stepTo,Nat.mul_assoc,show dim+1+(t+1)=dim+1+1+t by omega]
theorem rest_step (D:Nat→Dm) (m x:Nat):∀ r,r<m→restAt D m x r=x / stepTo D (m-1-r) r
 | 0,_=>by simp [restAt,stepTo]
 | r+1,h=>by
  rw [restAt,rest_step D m x r (by omega),Nat.div_div_eq_div_mul,stepTo_front,show m-1-(r+1)+1=m-1-r by omega,Nat.mul_comm]
theorem digit_step {D:Nat→Dm} {n x k:Nat} (hk:k<n):digitAt D n x k=x / stepD D n k % (D k).n:=by
 unfold digitAt stepD
 rw [rest_step D n x _ (by omega),show n-1-(n-1-k)=k by omega]
theorem prodN_pos {D:Nat→Dm} {n:Nat} (h:∀ j,j<n→1≤(D j).n):1≤prodN D n:=by
 induction n with
 | zero=>exact Nat.le_refl _
 | succ n ih =>
  have h1:=ih fun j hj=>h j (by omega)
  have h2:=h n (by omega)
  rw [prodN]
  exact Nat.mul_le_mul h1 h2
theorem stepTo_pos {D:Nat→Dm} {dim:Nat}:∀ t,(∀ j,j<dim+1+t→1≤(D j).n)→1≤stepTo D dim t
 | 0,_=>Nat.le_refl _
 | t+1,h=>by
  rw [stepTo]
  exact Nat.mul_le_mul (stepTo_pos t fun j hj=>h j (by omega)) (h (dim+1+t) (by omega))
theorem stepD_pos {D:Nat→Dm} {n dim:Nat} (h:∀ j,j<n→1≤(D j).n) (hd:dim<n):1≤stepD D n dim:=stepTo_pos _ fun j hj=>h j (by omega)
def partStep (M:Nat→Mem) (at':Int→Int×Int) (c:Int×Int) (k:Int):Int×Int:=if (M k.toNat).sign=1 then plusP c.1 c.2 (at' k).1 (at' k).2 else if (M k.toNat).sign = -1 then minusP c.1 c.2 (at' k).1 (at' k).2 else c
def partsV (M:Nat→Mem) (at':Int→Int×Int) (L:List Int):Int×Int:=L.foldl (partStep M at') (0,0)
def goodC (c:Int×Int):Prop:=good c.1 c.2=true
theorem good_ofP (x:Int):goodC (ofP x):=by
 unfold goodC ofP good
 split
 ·rename_i h;exact decide_eq_true (Or.inl ⟨rfl,h⟩)
 ·exact decide_eq_true (Or.inr ⟨Or.inr rfl,rfl⟩)
theorem good_join (b:Bool) (ka kb:Int) {r:Int×Int} (h:goodC r):goodC (joinP b ka kb r):=by
 unfold joinP
 split
 ·exact decide_eq_true (Or.inr ⟨Or.inr rfl,rfl⟩)
 ·split
  ·exact decide_eq_true (Or.inr ⟨Or.inl rfl,rfl⟩)
  ·exact h
theorem good_zero:goodC (0,0):=decide_eq_true (Or.inr ⟨Or.inl rfl,rfl⟩)
theorem good_step (M:Nat→Mem) (at':Int→Int×Int) {c:Int×Int} (h:goodC c) (k:Int):goodC (partStep M at' c k):=by
 unfold partStep
 split
 ·exact good_join _ _ _ (good_ofP _)
 ·split
  ·exact good_join _ _ _ (good_ofP _)
  ·exact h
theorem good_fold (M:Nat→Mem) (at':Int→Int×Int):∀ (L:List Int) (c:Int×Int),goodC c→goodC (L.foldl (partStep M at') c)
 | [],_,h=>h
 | k :: r,_,h=>good_fold M at' r _ (good_step M at' h k)
theorem good_parts (M:Nat→Mem) (at':Int→Int×Int) (L:List Int):goodC (partsV M at' L):=good_fold M at' L _ good_zero
theorem part_place {D:Nat→Dm} {n dim m x j:Nat} (hp:∀ i,i<n→1≤(D i).n) (hd:dim<n) (hx:x<prodN D n) (hm:x / stepD D n dim % (D dim).n=m) (hj:j<(D dim).n) :
  ∃ y:Nat,(x:Int)+((j:Int)-(m:Int))*(stepD D n dim:Int)=y∧y<prodN D n∧y / stepD D n dim % (D dim).n=j∧∀ i,i<n→i≠dim→digitAt D n y i=digitAt D n x i:=by
 have hS:=stepD_pos hp hd
 have hdn:=hp dim hd
 have hlt:∀ i,i<n→digitAt D n x i<(D i).n:=fun i hi=>digit_lt (hp i hi)
 obtain ⟨P,hP⟩:∃ P:Nat→Nat,P=fun i=>if i=dim then j else digitAt D n x i:=⟨_,rfl⟩
 have hPlt:∀ i,i<n→P i<(D i).n:=fun i hi=>by
  rw [hP]
  simp only
  split
  ·rename_i h;rw [h];exact hj
  ·exact hlt i hi
 have hy:=numTo_lt n hPlt
 have hdig:∀ i,i<n→digitAt D n (numTo D P n) i=P i:=fun i hi=>digit_num hPlt hi
 refine ⟨numTo D P n,?_,hy,?_,fun i hi hne=>?_⟩
 ·have h1:∀ k,k≤n→(numTo D P k:Int)=(numTo D (digitAt D n x) k:Int)+(if dim<k then ((j:Int)-(m:Int))*(stepTo D dim (k-1-dim):Int) else 0):=by
   intro k
   induction k with
   | zero=>intro _;simp [numTo]
   | succ k ih =>
    intro hk
    rw [numTo,numTo]
    have ih':=ih (by omega)
    rcases Nat.lt_trichotomy dim k with h | h | h
    ·rw [if_pos h] at ih'
     rw [if_pos (by omega)]
     have e:P k=digitAt D n x k:=by rw [hP];simp only;rw [if_neg (by omega)]
     rw [e,show k+1-1-dim=(k-1-dim)+1 by omega,stepTo,show dim+1+(k-1-dim)=k by omega]
     push_cast
     rw [ih',Int.add_mul,Int.mul_assoc]
     omega
    ·subst h
     rw [if_neg (by omega),Int.add_zero] at ih'
     rw [if_pos (by omega)]
     have e:P dim=j:=by rw [hP];simp
     have e2:digitAt D n x dim=m:=by rw [digit_step hd,hm]
     rw [e,e2,show dim+1-1-dim=0 by omega,stepTo]
     push_cast
     rw [ih']
     omega
    ·rw [if_neg (by omega),Int.add_zero] at ih'
     rw [if_neg (by omega)]
     have e:P k=digitAt D n x k:=by rw [hP];simp only;rw [if_neg (by omega)]
     rw [e]
     push_cast
     rw [ih']
     omega
  have h2:=h1 n (Nat.le_refl _)
  rw [if_pos hd,num_back hx] at h2
  rw [h2]
  rfl
 ·have h3:=hdig dim hd
  rw [digit_step hd] at h3
  rw [h3,hP]
  simp
 ·rw [hdig i hi,hP]
  simp [hne]
end Go.Proofs.YtnlfpaopfloklaaGreatDoor
