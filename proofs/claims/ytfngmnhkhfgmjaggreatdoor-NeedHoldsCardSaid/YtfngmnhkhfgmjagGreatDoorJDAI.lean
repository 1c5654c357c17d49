/-
  The table of numbers of strings.IndexByte at this program; the place of a sign among the four.
-/
import Derived.Shelf.Small.Strs
import Derived.Lib.Strings
import Derived.Shelf.Pu.Clone
import Derived.Test.YtfngmnhkhfgmjagGreatDoorJDAG
import Derived.Test.YtfngmnhkhfgmjagGreatDoorJDAH
namespace Go.Proofs
open Go.Shelf
def Tryz.lays137_ren:Go.Shelf.Ren:=⟨fun | 137=>240 | 217=>255 | 266=>272 | n=>n,fun | 9=>9 | 5=>5 | 3=>3 | n=>n,fun | n=>n⟩
theorem Tryz.lays137:Go.Proofs.Lays.n137 Tryz.prog Tryz.lays137_ren:={
 mixed:=by kernel_rfl
 f137:=Tryz.func240.trans (congrArg some (by kernel_rfl))
 f217:=Tryz.func255.trans (congrArg some (by kernel_rfl))
 f266:=Tryz.func272.trans (congrArg some (by kernel_rfl))
 t3:=Tryz.underlying3
 a3:=Tryz.isAgg3
 z3:=Tryz.sizeOf3
 v3:=Tryz.zeroValue3
 t5:=Tryz.underlying5
 a5:=Tryz.isAgg5
 z5:=Tryz.sizeOf5
 v5:=Tryz.zeroValue5
 t9:=Tryz.underlying9
 a9:=Tryz.isAgg9
 z9:=Tryz.sizeOf9
 v9:=Tryz.zeroValue9 }
namespace YtfngmnhkhfgmjagGreatDoor
open Go.ChangeShapes Go.WideShapes Go.ChangeAt Go.RowKit
theorem signI_fin:∀ c:Fin 256,Lib.indexByte [43,45,42,47] c.val.toUInt8=signI (c.val:Int):=by decide +kernel
theorem signI_eq (c:Int) (h0:0≤c) (h1:c<256):Lib.indexByte [43,45,42,47] c.toNat.toUInt8=signI c:=by
 have h:=signI_fin ⟨c.toNat,by omega⟩
 simp only at h
 rw [h,show ((c.toNat:Nat):Int)=c by omega]
theorem signix_any (c:Int) (h0:0≤c) (h1:c<256) (w:World):Calls Tryz.prog 240 #[.string ⟨#[43,45,42,47]⟩,.int .u8 c] w fun e w'=>e=.returned (.int .i64 (signI c))∧Below w.heap.size w w' :=
 (Any.strings_IndexByte Tryz.lays137 ⟨#[43,45,42,47]⟩ c w).mono fun e w' ⟨he,hw⟩=>⟨by rw [he,signI_eq c h0 h1],by rw [hw];exact Below.refl _ _⟩
theorem byteN_range (s:ByteArray) (i:Nat):0≤byteN s i∧byteN s i<256:=by
 unfold byteN
 have:=(s.data.toList.getD i 0).toNat_lt
 omega
theorem nextB_range (s:ByteArray) (i:Nat):0≤nextB s i∧nextB s i<256:=by
 unfold nextB
 split
 ·omega
 ·exact byteN_range s i
end YtfngmnhkhfgmjagGreatDoor
end Go.Proofs
namespace Go.Proofs.YtfngmnhkhfgmjagGreatDoor
open Go.ChangeShapes Go.WideShapes Go.ChangeAt Go.RowKit
set_option maxRecDepth 20000
theorem next_zero {s:ByteArray} {a:Nat} (h:nextB s a≠0) (ha:a≤s.size):a<s.size:=by
 by_cases e:a=s.size
 ·subst e;simp [nextB] at h
 ·omega
theorem tail_size (s:ByteArray) (a:Nat):(s.extract a s.size).size=s.size-a:=by rw [ByteArray.size_extract];omega
set_option maxHeartbeats 1000000 in
theorem rdigits_any (q a o:Nat) (s:ByteArray) (tv:Value) (w:World) (hs:s.size≤4611686018427387904) (ha:a≤s.size) (hR:RdAt w q s a o tv):Calls Tryz.prog 278 #[.pointer (some ⟨q,0,none⟩)] w fun e w'=>e=.returned (.int .i64 (digitsN s a))∧Below w.heap.size w w':=by
 have hnx:=next_any q a o s tv w ha hR
 unfold digitsN
 by_cases h48:nextB s a=48
 ·rw [h48] at hnx
  rw [if_pos h48]
  clear h48
  go_enter Tryz.func278,Tryz.ntmps278
  go_wp2_with fail
  refine hnx.mono ?_
  rintro e w1 ⟨rfl,hb1⟩
  go_wp2_with fail
  go_ret
  exact ⟨rfl,hb1⟩
 ·have h48':(nextB s a == 48)=false:=by simpa using h48
  rw [if_neg h48]
  generalize nextB s a=c at *
  have HL:Hid (∀ w',Below w.heap.size w w'→Calls Tryz.prog 279 #[.string (s.extract a s.size),.func (.func 277) #[] #[]] w' fun e w''=>e=.returned (.int .i64 (leadN digB (s.extract a s.size)))∧Below w'.heap.size w' w''):=fun w' _=>leadd_any _ w' (by rw [tail_size];omega)
  generalize leadN digB (s.extract a s.size)=n at HL ⊢
  have HM:Hid (((min n 7:Nat):Int)=min (n:Int) 7):=by show _=_;omega
  have ha':(a:Int)≤(s.size:Int):=by omega
  have hs':(s.size:Int)≤4611686018427387904:=by omega
  go_enter Tryz.func278,Tryz.ntmps278
  go_wp2_with fail
  refine hnx.mono ?_
  rintro e w1 ⟨rfl,hb1⟩
  have hR1:=hR.later hb1
  have c0:=hR1.c0
  have c1:=hR1.c1
  have HB:Hid (Below w.heap.size w w1):=hb1
  clear hR1 hb1 hR
  go_wp2_with fail
  go_region_law ((go_simp;refine (HL.out _ (onB HB.out (by go_grown))).mono ?_;rintro e w2 ⟨rfl,hb2⟩;have hN2:=onB (onB (W0:=w) HB.out (by go_grown)) hb2;clear hb2))
  all_goals (go_wp2_with fail;all_goals (go_ret;refine ⟨?_,hN2⟩;first | (rw [HM.out];rfl) | (rw [show min n 7=7 by omega];rfl) | (rw [show min n 7=n by omega];rfl)))
structure RdS {S:Type} (T:Tkr S) (w:World) (q:Nat) (s:ByteArray) (ph:Bool) (r:Rd S):Prop where
 rd:RdAt w q s r.at' r.opn T.fv
 mem:T.I r.st w
 good:T.G r.at' r.opn ph r.st
 inn:r.at'≤s.size
 few:r.opn≤r.at'
 room:T.N≤w.heap.size
section
variable {S:Type} {T:Tkr S} {w w':World} {q:Nat} {s:ByteArray} {ph:Bool} {r:Rd S}
theorem RdS.later (h:RdS T w q s ph r) (hT:T.Ok) (hq:q<T.N) (hqp:q≠T.p) (hB:Below w.heap.size w w'):RdS T w' q s ph r :=
 ⟨h.rd.later hB,hT.stay q _ _ _ hq hqp h.mem (grownF_below hB),h.good,h.inn,h.few,Nat.le_trans h.room hB.size⟩
end
def mis (a:Nat):List PanicEntry:=[{ v:=.iface 315 (.int .i64 a),recovered:=false }]
def Went {S:Type} (T:Tkr S) (q:Nat) (s:ByteArray) (ph:Bool) (w:World) (x:Rd S×Bool) (e:Ending) (w':World):Prop:=Kept T.N (fun k=>k=T.p∨k=q) w w'∧((x.2=true∧e=.returned (.tuple #[])∧RdS T w' q s ph x.1)∨(x.2=false∧e=.panicked (mis x.1.at')))
section
variable {S:Type} {T:Tkr S} {w w':World} {q:Nat} {s:ByteArray} {ph:Bool} {x:Rd S×Bool} {r:Rd S}
theorem Went.ok (h:x=(r,true)) (hk:Kept T.N (fun k=>k=T.p∨k=q) w w') (hr:RdS T w' q s ph r):Went T q s ph w x (.returned (.tuple #[])) w':=⟨hk,Or.inl ⟨by rw [h],rfl,by rw [h];exact hr⟩⟩
theorem Went.no (h:x=(r,false)) (hk:Kept T.N (fun k=>k=T.p∨k=q) w w'):Went T q s ph w x (.panicked (mis r.at')) w':=⟨hk,Or.inr ⟨by rw [h],by rw [h]⟩⟩
end
theorem byteN_ext {s:ByteArray} {a b i:Nat} (h:i<b-a):byteN (s.extract a b) i=byteN s (a+i):=by
 unfold byteN
 rw [Lib.extract_data]
 simp only [List.getD,List.getElem?_take,List.getElem?_drop]
 rw [if_pos h]
theorem next_at {s:ByteArray} {a:Nat} (h:a<s.size):nextB s a=byteN s a:=by rw [nextB,if_neg (by omega)]
theorem sgn_stp {s:ByteArray} {a o:Nat} (ha:a≤s.size) (h : ¬ signI (nextB s a)<0):a+1≤s.size∧Stp o true (s.extract a (a+1)) o false:=by
 have hlt:a<s.size:=next_zero (fun e=>h (by rw [e];decide)) ha
 refine ⟨hlt,Stp.sgn o _ (slice_ok hlt) ?_⟩
 rw [byteN_ext (by omega),Nat.add_zero,←next_at hlt]
 omega
theorem RdS.word {S:Type} {T:Tkr S} {w w':World} {q n o o':Nat} {s:ByteArray} {ph ph':Bool} {r:Rd S} (hT:T.Ok) (hs:s.size≤T.M) (hn:r.at'+n≤s.size) (hG:T.G r.at' o ph r.st) (hS:Stp o ph (s.extract r.at' (r.at'+n)) o' ph') (ho:o'≤r.at'+n) (hN:T.N≤w.heap.size)
  (h1:RdAt w' q s (r.at'+n) o' T.fv) (h2:T.I (T.tk r.st (s.extract r.at' (r.at'+n))) w') (h3:Kept T.N (fun k=>k=T.p∨k=q) w w'):RdS T w' q s ph' (wordR s T.tk n ⟨r.at',o',r.st⟩):=by
 refine ⟨h1,h2,?_,hn,ho,Nat.le_trans hN h3.size⟩
 have h:=hT.step r.at' o ph r.st _ o' ph' hS hG (by rw [slice_ok hn];omega)
 rw [slice_ok hn] at h
 exact h
set_option maxHeartbeats 1000000 in
theorem sign_any {S:Type} (T:Tkr S) (hT:T.Ok) (q:Nat) (s:ByteArray) (r:Rd S) (w:World) (hs:s.size≤T.M) (hq:q<T.N) (hqp:q≠T.p) (hR:RdS T w q s true r) :
  Calls Tryz.prog 259 #[.pointer (some ⟨q,0,none⟩)] w fun e w'=>Went T q s false w (signR s T.tk r) e w':=by
 have hnx:=next_any q r.at' r.opn s T.fv w hR.inn hR.rd
 have hix0:=signix_any (nextB s r.at') (nextB_range s r.at').1 (nextB_range s r.at').2
 have HR:Hid (RdS T w q s true r):=hR
 have HT:Hid T.Ok:=hT
 by_cases h:signI (nextB s r.at')<0
 ·have h2:signR s T.tk r=(r,false):=by rw [signR,if_pos h]
  have H2:Hid (signR s T.tk r=(r,false)):=h2
  clear h2
  generalize signI (nextB s r.at')=c at *
  generalize nextB s r.at'=b at *
  clear hR hT
  go_enter Tryz.func259,Tryz.ntmps259
  go_wp2_with fail
  refine hnx.mono ?_
  rintro e w1 ⟨rfl,hb1⟩
  go_wp2_with fail
  refine (hix0 _).mono ?_
  rintro e w2 ⟨rfl,hb2⟩
  have HB:Hid (Below w.heap.size w w2):=onB hb1 hb2
  have HR2:Hid (RdS T w2 q s true r):=HR.out.later HT.out hq hqp HB.out
  clear hb1 hb2
  go_wp2_with fail
  refine (stop_any q r.at' r.opn s T.fv w2 HR2.out.rd).mono ?_
  rintro e w3 ⟨rfl,hb3⟩
  go_wp2_with fail
  exact ⟨rfl,Went.no H2.out (kept_below (onB HB.out hb3) HR.out.room)⟩
 ·obtain ⟨k1,k2⟩:=sgn_stp (o:=r.opn) hR.inn h
  have HS:Hid (Stp r.opn true (s.extract r.at' (r.at'+1)) r.opn false):=k2
  have h2:signR s T.tk r=(wordR s T.tk 1 r,true):=by rw [signR,if_neg h]
  have H2:Hid (signR s T.tk r=(wordR s T.tk 1 r,true)):=h2
  clear h2
  have h':0≤signI (nextB s r.at'):=by omega
  generalize signI (nextB s r.at')=c at *
  generalize nextB s r.at'=b at *
  clear hR hT k2 h
  go_enter Tryz.func259,Tryz.ntmps259
  go_wp2_with fail
  refine hnx.mono ?_
  rintro e w1 ⟨rfl,hb1⟩
  go_wp2_with fail
  refine (hix0 _).mono ?_
  rintro e w2 ⟨rfl,hb2⟩
  have HB:Hid (Below w.heap.size w w2):=onB hb1 hb2
  have HR2:Hid (RdS T w2 q s true r):=HR.out.later HT.out hq hqp HB.out
  clear hb1 hb2
  go_wp2_with fail
  refine (word_any T HT.out q r.at' r.opn r.opn 1 r.opn true false s r.st w2 hs k1 hq hqp HR2.out.room HR2.out.rd HR2.out.mem HR2.out.good HS.out).mono ?_
  rintro e w3 ⟨rfl,g1,g2,g3⟩
  have HK:Hid (Kept T.N (fun k=>k=T.p∨k=q) w w3):=(kept_below HB.out HR.out.room).trans g3
  have HR3:Hid (RdS T w3 q s false (wordR s T.tk 1 r)):=RdS.word (r:=r) (o':=r.opn) HT.out hs k1 HR2.out.good HS.out (by have:=HR2.out.few;omega) HR2.out.room g1 g2 g3
  clear g1 g2 g3
  go_wp2_with fail
  first | go_end0 | skip
  exact Went.ok H2.out HK.out HR3.out
end Go.Proofs.YtfngmnhkhfgmjagGreatDoor
namespace Go.Proofs
open Go.Shelf
def Tryz.laysK_ren:Go.Shelf.Ren:=⟨fun | 25=>246 | n=>n,fun | 0=>0 | 3=>3 | 4=>4 | 5=>5 | 9=>9 | 37=>306 | 47=>323 | n=>n,fun | n=>n⟩
theorem Tryz.laysK:Go.Proofs.LaysPu.n25 Tryz.prog Tryz.laysK_ren:={
 mixed:=by kernel_rfl
 f25:=Tryz.func246.trans (congrArg some (by kernel_rfl))
 t0:=Tryz.underlying0
 a0:=Tryz.isAgg0
 z0:=Tryz.sizeOf0
 v0:=Tryz.zeroValue0
 i0:=by kernel_rfl
 t3:=Tryz.underlying3
 a3:=Tryz.isAgg3
 z3:=Tryz.sizeOf3
 v3:=Tryz.zeroValue3
 i3:=by kernel_rfl
 t4:=Tryz.underlying4
 a4:=Tryz.isAgg4
 z4:=Tryz.sizeOf4
 v4:=Tryz.zeroValue4
 i4:=by kernel_rfl
 t5:=Tryz.underlying5
 a5:=Tryz.isAgg5
 z5:=Tryz.sizeOf5
 v5:=Tryz.zeroValue5
 i5:=by kernel_rfl
 t9:=Tryz.underlying9
 a9:=Tryz.isAgg9
 z9:=Tryz.sizeOf9
 v9:=Tryz.zeroValue9
 i9:=by kernel_rfl
 t37:=Tryz.underlying306
 a37:=Tryz.isAgg306
 z37:=Tryz.sizeOf306
 v37:=Tryz.zeroValue306
 i37:=by kernel_rfl
 t47:=Tryz.underlying323
 a47:=Tryz.isAgg323
 z47:=Tryz.sizeOf323
 v47:=Tryz.zeroValue323
 i47:=by kernel_rfl }
namespace YtfngmnhkhfgmjagGreatDoor
open Go.ChangeShapes Go.WideShapes Go.ChangeAt Go.RowKit
theorem sclone_any (s:ByteArray) (w:World) (hs:s.size≤281474976710656):Calls Tryz.prog 218 #[.string s] w fun e w'=>e=.returned (.string s)∧Below w.heap.size w w':=by
 have h:=AnyPu.stringslite_Clone Tryz.laysK s w hs
 go_enter Tryz.func218,Tryz.ntmps218
 go_wp2_with fail
 refine Calls.mono h ?_
 rintro e w1 ⟨rfl,hb1⟩
 go_wp2_with fail
 go_ret
 exact ⟨rfl,hb1⟩
end YtfngmnhkhfgmjagGreatDoor
end Go.Proofs
namespace Go.Proofs.YtfngmnhkhfgmjagGreatDoor
open Go.ChangeShapes Go.WideShapes Go.ChangeAt Go.RowKit
def joinP (blank:Bool) (ka kb:Int) (r:Int×Int):Int×Int:=if ka=2∨kb=2 then (2,0) else if blank=true then (0,0) else r
def JoinsTo (fb fo:Nat) (ka na kb nb k n:Int) (er:Value):Prop := ∀ (w:World),Calls Tryz.prog 191 #[.agg #[.int .i64 ka,.int .i64 na],.agg #[.int .i64 kb,.int .i64 nb],.func (.func fb) #[] #[],.func (.func fo) #[] #[]] w fun e w'=>e=.returned (.tuple #[.agg #[.int .i64 k,.int .i64 n],er])∧Below w.heap.size w w'
def OpTo (f:Nat) (ka na kb nb k n:Int) (er:Value):Prop := ∀ (w:World),Calls Tryz.prog f #[.agg #[.int .i64 ka,.int .i64 na],.agg #[.int .i64 kb,.int .i64 nb]] w fun e w'=>e=.returned (.tuple #[.agg #[.int .i64 k,.int .i64 n],er])∧Below w.heap.size w w'
theorem joins_yes (fb fo:Nat) (p:Int→Int→Bool) (he:Enters fb) (hp:Blank fb p) (heo:Enters fo) (ka na kb nb:Int) (ha:good ka na=true) (hb:good kb nb=true) (r:Int×Int) (ho:Makes fo na nb r) :
  JoinsTo fb fo ka na kb nb (joinP (p ka kb) ka kb r).1 (joinP (p ka kb) ka kb r).2 .nilIface:=by
 intro w
 unfold joinP
 by_cases hf:ka=2∨kb=2
 ·rw [if_pos hf]
  exact join_fault _ _ ka na kb nb w ha hb (by simp;exact hf)
 ·rw [if_neg hf]
  have hff:((fun k:Int=>k == 2) ka || (fun k:Int=>k == 2) kb)=false:=by simp;omega
  cases hpp:p ka kb
  ·rw [if_neg (by simp)]
   exact join_made fb fo p he hp heo ka na kb nb w ha hb r ho hff hpp
  ·rw [if_pos rfl]
   exact join_blank fb p he hp _ ka na kb nb w ha hb hff hpp
theorem good_bd {k n:Int} (h:good k n=true) : -1000000000000≤n∧n≤1000000000000:=by simp [good] at h;omega
def plusP (ka na kb nb:Int):Int×Int:=joinP (!(ka != 0 || kb != 0)) ka kb (ofP (na+nb))
def minusP (ka na kb nb:Int):Int×Int:=joinP (!(ka != 0 || kb != 0)) ka kb (ofP (na-nb))
def timesP (ka na kb nb:Int):Int×Int:=joinP (ka == 0 || kb == 0) ka kb (ofP (na*nb))
def overP (ka na kb nb:Int):Int×Int:=joinP (ka == 0 || kb == 0) ka kb (quoP na nb)
theorem add_of (ka na kb nb k n:Int) (er:Value) (h:JoinsTo 192 194 ka na kb nb k n er):OpTo 149 ka na kb nb k n er:=by
 intro w
 unfold JoinsTo at h
 go_enter Tryz.func149,Tryz.ntmps149
 go_wp2_with fail
 refine (h _).mono ?_
 rintro e w1 ⟨rfl,hb⟩
 have hB:Below w.heap.size w w1:=Below.trans (by go_grown) (hb.mono (by simp;omega))
 obtain ⟨hc,hf⟩:=bcell hb
 have hz:=bsize hb
 simp at hz
 go_wp2_with fail
 refine bodyPost_ret (v:=.tuple #[.agg #[.int .i64 k,.int .i64 n],er]) (by simp [results,Tryz.results149,go_sem,hc]) rfl ⟨rfl,?_⟩
 go_grown
theorem add_yes (ka na kb nb:Int) (ha:good ka na=true) (hb:good kb nb=true):OpTo 149 ka na kb nb (plusP ka na kb nb).1 (plusP ka na kb nb).2 .nilIface:=by
 obtain ⟨h1,h2⟩:=good_bd ha
 obtain ⟨h3,h4⟩:=good_bd hb
 exact add_of _ _ _ _ _ _ _ (joins_yes _ _ _ both_in both_any plus_in ka na kb nb ha hb _ (plus_any na nb h1 h2 h3 h4))
theorem sub_of (ka na kb nb k n:Int) (er:Value) (h:JoinsTo 192 193 ka na kb nb k n er):OpTo 148 ka na kb nb k n er:=by
 intro w
 unfold JoinsTo at h
 go_enter Tryz.func148,Tryz.ntmps148
 go_wp2_with fail
 refine (h _).mono ?_
 rintro e w1 ⟨rfl,hb⟩
 have hB:Below w.heap.size w w1:=Below.trans (by go_grown) (hb.mono (by simp;omega))
 obtain ⟨hc,hf⟩:=bcell hb
 have hz:=bsize hb
 simp at hz
 go_wp2_with fail
 refine bodyPost_ret (v:=.tuple #[.agg #[.int .i64 k,.int .i64 n],er]) (by simp [results,Tryz.results148,go_sem,hc]) rfl ⟨rfl,?_⟩
 go_grown
theorem sub_yes (ka na kb nb:Int) (ha:good ka na=true) (hb:good kb nb=true):OpTo 148 ka na kb nb (minusP ka na kb nb).1 (minusP ka na kb nb).2 .nilIface:=by
 obtain ⟨h1,h2⟩:=good_bd ha
 obtain ⟨h3,h4⟩:=good_bd hb
 exact sub_of _ _ _ _ _ _ _ (joins_yes _ _ _ both_in both_any minus_in ka na kb nb ha hb _ (minus_any na nb h1 h2 h3 h4))
theorem mul_of (ka na kb nb k n:Int) (er:Value) (h:JoinsTo 248 249 ka na kb nb k n er):OpTo 224 ka na kb nb k n er:=by
 intro w
 unfold JoinsTo at h
 go_enter Tryz.func224,Tryz.ntmps224
 go_wp2_with fail
 refine (h _).mono ?_
 rintro e w1 ⟨rfl,hb⟩
 have hB:Below w.heap.size w w1:=Below.trans (by go_grown) (hb.mono (by simp;omega))
 obtain ⟨hc,hf⟩:=bcell hb
 have hz:=bsize hb
 simp at hz
 go_wp2_with fail
 refine bodyPost_ret (v:=.tuple #[.agg #[.int .i64 k,.int .i64 n],er]) (by simp [results,Tryz.results224,go_sem,hc]) rfl ⟨rfl,?_⟩
 go_grown
theorem mul_yes (ka na kb nb:Int) (ha:good ka na=true) (hb:good kb nb=true):OpTo 224 ka na kb nb (timesP ka na kb nb).1 (timesP ka na kb nb).2 .nilIface:=by
 obtain ⟨h1,h2⟩:=good_bd ha
 obtain ⟨h3,h4⟩:=good_bd hb
 exact mul_of _ _ _ _ _ _ _ (joins_yes _ _ _ one_in one_any product_in ka na kb nb ha hb _ (product_any na nb h1 h2 h3 h4))
theorem div_of (ka na kb nb k n:Int) (er:Value) (h:JoinsTo 248 250 ka na kb nb k n er):OpTo 225 ka na kb nb k n er:=by
 intro w
 unfold JoinsTo at h
 go_enter Tryz.func225,Tryz.ntmps225
 go_wp2_with fail
 refine (h _).mono ?_
 rintro e w1 ⟨rfl,hb⟩
 have hB:Below w.heap.size w w1:=Below.trans (by go_grown) (hb.mono (by simp;omega))
 obtain ⟨hc,hf⟩:=bcell hb
 have hz:=bsize hb
 simp at hz
 go_wp2_with fail
 refine bodyPost_ret (v:=.tuple #[.agg #[.int .i64 k,.int .i64 n],er]) (by simp [results,Tryz.results225,go_sem,hc]) rfl ⟨rfl,?_⟩
 go_grown
theorem div_yes (ka na kb nb:Int) (ha:good ka na=true) (hb:good kb nb=true):OpTo 225 ka na kb nb (overP ka na kb nb).1 (overP ka na kb nb).2 .nilIface:=by
 obtain ⟨h1,h2⟩:=good_bd ha
 obtain ⟨h3,h4⟩:=good_bd hb
 exact div_of _ _ _ _ _ _ _ (joins_yes _ _ _ one_in one_any quotient_in ka na kb nb ha hb _ (quotient_any na nb h1 h2))
end Go.Proofs.YtfngmnhkhfgmjagGreatDoor
