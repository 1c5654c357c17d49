/-
  What the reader of package formula does, in whatever memory: digits; a sign; an operand with the brackets about it; all of a text: it goes well, or ends by a panic at the byte that cannot stand there.
-/
import Derived.Test.YtglekooldbeklaaGreatDoorJGAG
import Derived.Test.YtglekooldbeklaaGreatDoorJGAI
namespace Go.Proofs.YtglekooldbeklaaGreatDoor
open Go.ChangeShapes Go.WideShapes Go.ChangeAt Go.RowKit
set_option maxRecDepth 20000
theorem next_zero {s:ByteArray} {a:Nat} (h:nextB s a≠0) (ha:a≤s.size):a<s.size:=by
 by_cases e:a=s.size
 ·subst e;simp [nextB] at h
 ·omega
theorem tail_size (s:ByteArray) (a:Nat):(s.extract a s.size).size=s.size-a:=by rw [ByteArray.size_extract];omega
set_option maxHeartbeats 1000000 in
theorem rdigits_any (q a o:Nat) (s:ByteArray) (tv:Value) (w:World) (hs:s.size≤4611686018427387904) (ha:a≤s.size) (hR:RdAt w q s a o tv):Calls Tryz.prog 221 #[.pointer (some ⟨q,0,none⟩)] w fun e w'=>e=.returned (.int .i64 (digitsN s a))∧Below w.heap.size w w':=by
 have hnx:=next_any q a o s tv w ha hR
 unfold digitsN
 by_cases h48:nextB s a=48
 ·rw [h48] at hnx
  rw [if_pos h48]
  clear h48
  go_enter Tryz.func221,Tryz.ntmps221
  go_wp2_with fail
  refine hnx.mono ?_
  rintro e w1 ⟨rfl,hb1⟩
  go_wp2_with fail
  go_ret
  exact ⟨rfl,hb1⟩
 ·have h48':(nextB s a == 48)=false:=by simpa using h48
  rw [if_neg h48]
  generalize nextB s a=c at *
  have HL:Hid (∀ w',Below w.heap.size w w'→Calls Tryz.prog 222 #[.string (s.extract a s.size),.func (.func 220) #[] #[]] w' fun e w''=>e=.returned (.int .i64 (leadN digB (s.extract a s.size)))∧Below w'.heap.size w' w''):=fun w' _=>leadd_any _ w' (by rw [tail_size];omega)
  generalize leadN digB (s.extract a s.size)=n at HL ⊢
  have HM:Hid (((min n 7:Nat):Int)=min (n:Int) 7):=by show _=_;omega
  have ha':(a:Int)≤(s.size:Int):=by omega
  have hs':(s.size:Int)≤4611686018427387904:=by omega
  go_enter Tryz.func221,Tryz.ntmps221
  go_wp2_with fail
  refine hnx.mono ?_
  rintro e w1 ⟨rfl,hb1⟩
  have hR1:=hR.later hb1
  have c0:=hR1.c0
  have c1:=hR1.c1
  have HB:Hid (Below w.heap.size w w1):=hb1
  clear hR1 hb1 hR
  go_wp2_with fail
  go_region_law ((go_simp;refine (HL.out _ (onB HB.out (by go_grown))).mono ?_;rintro e w2 ⟨rfl,hb2⟩;have hN2:=onB (onB (W0:=w) HB.out (by go_grown)) hb2;clear hb2))
  all_goals (go_wp2_with fail;all_goals (go_ret;refine ⟨?_,hN2⟩;first | (rw [HM.out];rfl) | (rw [show min n 7=7 by omega];rfl) | (rw [show min n 7=n by omega];rfl)))
structure RdS {S:Type} (T:Tkr S) (w:World) (q:Nat) (s:ByteArray) (ph:Bool) (r:Rd S):Prop where
 rd:RdAt w q s r.at' r.opn T.fv
 mem:T.I r.st w
 good:T.G r.at' r.opn ph r.st
 inn:r.at'≤s.size
 few:r.opn≤r.at'
 room:T.N≤w.heap.size
section
variable {S:Type} {T:Tkr S} {w w':World} {q:Nat} {s:ByteArray} {ph:Bool} {r:Rd S}
theorem RdS.later (h:RdS T w q s ph r) (hT:T.Ok) (hq:q<T.N) (hqp:q≠T.p) (hB:Below w.heap.size w w'):RdS T w' q s ph r :=
 ⟨h.rd.later hB,hT.stay q _ _ _ hq hqp h.mem (grownF_below hB),h.good,h.inn,h.few,Nat.le_trans h.room hB.size⟩
end
def mis (a:Nat):List PanicEntry:=[{ v:=.iface 244 (.int .i64 a),recovered:=false }]
def Went {S:Type} (T:Tkr S) (q:Nat) (s:ByteArray) (ph:Bool) (w:World) (x:Rd S×Bool) (e:Ending) (w':World):Prop:=Kept T.N (fun k=>k=T.p∨k=q) w w'∧((x.2=true∧e=.returned (.tuple #[])∧RdS T w' q s ph x.1)∨(x.2=false∧e=.panicked (mis x.1.at')))
section
variable {S:Type} {T:Tkr S} {w w':World} {q:Nat} {s:ByteArray} {ph:Bool} {x:Rd S×Bool} {r:Rd S}
theorem Went.ok (h:x=(r,true)) (hk:Kept T.N (fun k=>k=T.p∨k=q) w w') (hr:RdS T w' q s ph r):Went T q s ph w x (.returned (.tuple #[])) w':=⟨hk,Or.inl ⟨by rw [h],rfl,by rw [h];exact hr⟩⟩
theorem Went.no (h:x=(r,false)) (hk:Kept T.N (fun k=>k=T.p∨k=q) w w'):Went T q s ph w x (.panicked (mis r.at')) w':=⟨hk,Or.inr ⟨by rw [h],by rw [h]⟩⟩
end
theorem byteN_ext {s:ByteArray} {a b i:Nat} (h:i<b-a):byteN (s.extract a b) i=byteN s (a+i):=by
 unfold byteN
 rw [Lib.extract_data]
 simp only [List.getD,List.getElem?_take,List.getElem?_drop]
 rw [if_pos h]
theorem next_at {s:ByteArray} {a:Nat} (h:a<s.size):nextB s a=byteN s a:=by rw [nextB,if_neg (by omega)]
theorem sgn_stp {s:ByteArray} {a o:Nat} (ha:a≤s.size) (h : ¬ signI (nextB s a)<0):a+1≤s.size∧Stp o true (s.extract a (a+1)) o false:=by
 have hlt:a<s.size:=next_zero (fun e=>h (by rw [e];decide)) ha
 refine ⟨hlt,Stp.sgn o _ (slice_ok hlt) ?_⟩
 rw [byteN_ext (by omega),Nat.add_zero,←next_at hlt]
 omega
theorem RdS.word {S:Type} {T:Tkr S} {w w':World} {q n o o':Nat} {s:ByteArray} {ph ph':Bool} {r:Rd S} (hT:T.Ok) (hs:s.size≤T.M) (hn:r.at'+n≤s.size) (hG:T.G r.at' o ph r.st) (hS:Stp o ph (s.extract r.at' (r.at'+n)) o' ph') (ho:o'≤r.at'+n) (hN:T.N≤w.heap.size)
  (h1:RdAt w' q s (r.at'+n) o' T.fv) (h2:T.I (T.tk r.st (s.extract r.at' (r.at'+n))) w') (h3:Kept T.N (fun k=>k=T.p∨k=q) w w'):RdS T w' q s ph' (wordR s T.tk n ⟨r.at',o',r.st⟩):=by
 refine ⟨h1,h2,?_,hn,ho,Nat.le_trans hN h3.size⟩
 have h:=hT.step r.at' o ph r.st _ o' ph' hS hG (by rw [slice_ok hn];omega)
 rw [slice_ok hn] at h
 exact h
set_option maxHeartbeats 1000000 in
theorem sign_any {S:Type} (T:Tkr S) (hT:T.Ok) (q:Nat) (s:ByteArray) (r:Rd S) (w:World) (hs:s.size≤T.M) (hq:q<T.N) (hqp:q≠T.p) (hR:RdS T w q s true r) :
  Calls Tryz.prog 202 #[.pointer (some ⟨q,0,none⟩)] w fun e w'=>Went T q s false w (signR s T.tk r) e w':=by
 have hnx:=next_any q r.at' r.opn s T.fv w hR.inn hR.rd
 have hix0:=signix_any (nextB s r.at') (nextB_range s r.at').1 (nextB_range s r.at').2
 have HR:Hid (RdS T w q s true r):=hR
 have HT:Hid T.Ok:=hT
 by_cases h:signI (nextB s r.at')<0
 ·have h2:signR s T.tk r=(r,false):=by rw [signR,if_pos h]
  have H2:Hid (signR s T.tk r=(r,false)):=h2
  clear h2
  generalize signI (nextB s r.at')=c at *
  generalize nextB s r.at'=b at *
  clear hR hT
  go_enter Tryz.func202,Tryz.ntmps202
  go_wp2_with fail
  refine hnx.mono ?_
  rintro e w1 ⟨rfl,hb1⟩
  go_wp2_with fail
  refine (hix0 _).mono ?_
  rintro e w2 ⟨rfl,hb2⟩
  have HB:Hid (Below w.heap.size w w2):=onB hb1 hb2
  have HR2:Hid (RdS T w2 q s true r):=HR.out.later HT.out hq hqp HB.out
  clear hb1 hb2
  go_wp2_with fail
  refine (stop_any q r.at' r.opn s T.fv w2 HR2.out.rd).mono ?_
  rintro e w3 ⟨rfl,hb3⟩
  go_wp2_with fail
  exact ⟨rfl,Went.no H2.out (kept_below (onB HB.out hb3) HR.out.room)⟩
 ·obtain ⟨k1,k2⟩:=sgn_stp (o:=r.opn) hR.inn h
  have HS:Hid (Stp r.opn true (s.extract r.at' (r.at'+1)) r.opn false):=k2
  have h2:signR s T.tk r=(wordR s T.tk 1 r,true):=by rw [signR,if_neg h]
  have H2:Hid (signR s T.tk r=(wordR s T.tk 1 r,true)):=h2
  clear h2
  have h':0≤signI (nextB s r.at'):=by omega
  generalize signI (nextB s r.at')=c at *
  generalize nextB s r.at'=b at *
  clear hR hT k2 h
  go_enter Tryz.func202,Tryz.ntmps202
  go_wp2_with fail
  refine hnx.mono ?_
  rintro e w1 ⟨rfl,hb1⟩
  go_wp2_with fail
  refine (hix0 _).mono ?_
  rintro e w2 ⟨rfl,hb2⟩
  have HB:Hid (Below w.heap.size w w2):=onB hb1 hb2
  have HR2:Hid (RdS T w2 q s true r):=HR.out.later HT.out hq hqp HB.out
  clear hb1 hb2
  go_wp2_with fail
  refine (word_any T HT.out q r.at' r.opn r.opn 1 r.opn true false s r.st w2 hs k1 hq hqp HR2.out.room HR2.out.rd HR2.out.mem HR2.out.good HS.out).mono ?_
  rintro e w3 ⟨rfl,g1,g2,g3⟩
  have HK:Hid (Kept T.N (fun k=>k=T.p∨k=q) w w3):=(kept_below HB.out HR.out.room).trans g3
  have HR3:Hid (RdS T w3 q s false (wordR s T.tk 1 r)):=RdS.word (r:=r) (o':=r.opn) HT.out hs k1 HR2.out.good HS.out (by have:=HR2.out.few;omega) HR2.out.room g1 g2 g3
  clear g1 g2 g3
  go_wp2_with fail
  first | go_end0 | skip
  exact Went.ok H2.out HK.out HR3.out
end Go.Proofs.YtglekooldbeklaaGreatDoor
