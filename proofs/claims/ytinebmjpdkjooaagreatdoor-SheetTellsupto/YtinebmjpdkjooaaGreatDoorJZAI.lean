/-
  Numerals once more: which rows of bytes are just what is written of a number, case by case as the document's own reading goes.
-/
import Derived.Shelf.Small.Strs
import Derived.Shelf.Pu.Clone
import Derived.Lib.SliceRun
import Derived.Test.YtinebmjpdkjooaaGreatDoorJZAE
namespace Go.Proofs.YtinebmjpdkjooaaGreatDoor
open Go.Lib
theorem ofNat_digit {b:UInt8} {d:Nat} (h:digitVal b=some d):UInt8.ofNat (48+d)=b:=by
 have h1:=(digit_toNat h).1
 rw [←h1]
 exact UInt8.ofNat_toNat
theorem digits_rev (m:List UInt8):∀ u,(∀ a r,m.reverse=a :: r→a.toNat≠48)→m.reverse≠[]→decFrom 0 m.reverse=some u→decDigits u=m.reverse∧1≤u:=by
 induction m with
 | nil=>intro u _ h;exact absurd rfl h
 | cons b m ih =>
  intro u hh _ hu
  rw [List.reverse_cons] at hu hh ⊢
  generalize m.reverse=l at hu hh ih ⊢
  rw [decFrom_append] at hu
  cases hl:decFrom 0 l with
  | none=>rw [hl] at hu;cases hu
  | some v =>
   rw [hl] at hu
   simp only [Option.bind_some,decFrom] at hu
   cases hb:digitVal b with
   | none=>rw [hb] at hu;cases hu
   | some d =>
    rw [hb] at hu
    simp only [Option.some.injEq] at hu
    obtain ⟨b1,b2⟩:=digit_toNat hb
    by_cases hn:l=[]
    ·subst hn
     simp only [decFrom,Option.some.injEq] at hl
     have h48:=hh b [] rfl
     subst hl
     have e:u=d:=by omega
     subst e
     exact ⟨by rw [decDigits_one b2,ofNat_digit hb];rfl,by omega⟩
    ·obtain ⟨i1,i2⟩:=ih v (fun a r e=>hh a (r ++ [b]) (by rw [e];rfl)) hn hl
     have e1:u / 10=v:=by omega
     have e2:u % 10=d:=by omega
     exact ⟨by rw [decDigits,dif_neg (by omega),e1,e2,i1,ofNat_digit hb],by omega⟩
theorem digits_back (l:List UInt8) (u:Nat) (h1:∀ a r,l=a :: r→a.toNat≠48) (h2:l≠[]) (h3:decFrom 0 l=some u):decDigits u=l∧1≤u:=by
 have h:=digits_rev l.reverse u
 rw [List.reverse_reverse] at h
 exact h h1 h2 h3
theorem u8_eq {a b:UInt8} (h:a.toNat=b.toNat):a=b:=UInt8.toNat_inj.mp h
theorem trim_keep (a:UInt8) (r:List UInt8) (h:a.toNat≠45):trimPrefix (a :: r) [45]=a :: r:=by
 unfold trimPrefix
 rw [if_neg]
 unfold hasPrefix
 have hne : ¬ (45:UInt8)=a:=fun e=>h (by rw [←e];rfl)
 simp [hne]
theorem trim_less (r:List UInt8):trimPrefix (45 :: r) [45]=r:=by simp [trimPrefix,hasPrefix]
theorem atoi_plain (a:UInt8) (r:List UInt8) (h1:a.toNat≠45) (h2:a.toNat≠43):atoi (a :: r)=(decFrom 0 (a :: r)).map fun (m:Nat)=>(m:Int):=by
 have e1:(a == 45)=false:=by rw [beq_eq_false_iff_ne];intro e;exact h1 (by rw [e];rfl)
 have e2:(a == 43)=false:=by rw [beq_eq_false_iff_ne];intro e;exact h2 (by rw [e];rfl)
 simp only [atoi,e1,e2,Bool.false_eq_true,if_false,decNat,List.isEmpty_cons]
theorem atoi_less (r:List UInt8) (h:r≠[]):atoi (45 :: r)=(decFrom 0 r).map fun (m:Nat) => -(m:Int):=by
 unfold atoi decNat
 simp [h]
theorem numP_if (l:List UInt8) (h:(trimPrefix l [45]).length≤15) (v:Int) (h1:atoi l=some v) (h2:itoa v=l):numP l=some v:=by
 unfold numP;rw [if_pos h,h1];simp [h2]
theorem numP_never (l:List UInt8) (h:∀ v,itoa v≠l):numP l=none:=by
 cases e:numP l with
 | none=>rfl
 | some v=>exact absurd (numP_back e) (h v)
theorem numP_noatoi (l:List UInt8) (h:atoi l=none):numP l=none:=by
 unfold numP;split
 ·rw [h]
 ·rfl
theorem itoa_head (v:Int):(∃ u r,v<0∧1≤u∧itoa v=45 :: decDigits u∧decDigits u=r)∨(∃ u,itoa v=decDigits u):=by
 unfold itoa
 split
 ·left;exact ⟨v.natAbs,_,by assumption,by omega,rfl,rfl⟩
 ·right;exact ⟨v.toNat,rfl⟩
theorem numP_nought (a b:UInt8) (r:List UInt8) (h:a.toNat=48):numP (a :: b :: r)=none:=by
 refine numP_never _ fun v hv=>?_
 rcases itoa_head v with ⟨u,r',_,_,e,_⟩ | ⟨u,e⟩
 ·rw [e] at hv
  injection hv with h1 _
  rw [←h1] at h
  exact absurd h (by decide)
 ·rw [e] at hv
  obtain ⟨d,r',e',hd,h1,h2⟩:=head_decDigits u
  rw [e'] at hv
  injection hv with h3 h4
  have h5:=ofNat_toNat_digit d hd
  rw [h3,h] at h5
  have hu : ¬ 1≤u:=fun hu=>by have:=h1 hu;omega
  have:=h2 (by omega)
  rw [this] at h4
  cases h4
theorem numP_lessnought (a:UInt8) (r:List UInt8) (h:a.toNat=48):numP (45 :: a :: r)=none:=by
 refine numP_never _ fun v hv=>?_
 rcases itoa_head v with ⟨u,r',_,hu,e,_⟩ | ⟨u,e⟩
 ·rw [e] at hv
  injection hv with _ hv
  obtain ⟨d,r',e',hd,h1,_⟩:=head_decDigits u
  rw [e'] at hv
  injection hv with h3 _
  have h5:=ofNat_toNat_digit d hd
  rw [h3,h] at h5
  have:=h1 hu
  omega
 ·rw [e] at hv
  obtain ⟨d,r',e',hd,_,_⟩:=head_decDigits u
  rw [e'] at hv
  injection hv with h3 _
  have h5:=ofNat_toNat_digit d hd
  rw [h3] at h5
  have e45:(45:UInt8).toNat=45:=rfl
  omega
theorem decFrom_head (a:UInt8) (r:List UInt8) (v:Nat) (h:decFrom 0 (a :: r)=some v):48≤a.toNat∧a.toNat≤57:=by
 obtain ⟨d,hd⟩:=digit_of_decFrom _ 0 v h 0 a rfl
 have:=digit_toNat hd
 omega
theorem itoa_nat (u:Nat):itoa (u:Int)=decDigits u:=itoa_nonneg u
theorem numP_one (a:UInt8):numP [a]=(decFrom 0 [a]).map fun (m:Nat)=>(m:Int):=by
 by_cases h45:a.toNat=45
 ·have e:a=45:=u8_eq h45
  subst e
  decide
 ·by_cases h43:a.toNat=43
  ·have e:a=43:=u8_eq h43
   subst e
   decide
  ·cases hd:decFrom 0 [a] with
   | none=>exact numP_noatoi _ (by rw [atoi_plain a [] h45 h43,hd];rfl)
   | some v =>
    have hb:digitVal a=some v:=by
     simp only [decFrom] at hd
     cases hb:digitVal a with
     | none=>rw [hb] at hd;cases hd
     | some d=>rw [hb] at hd;simp only [Option.some.injEq] at hd;congr 1;omega
    refine numP_if _ (by rw [trim_keep a [] h45];simp) _ (by rw [atoi_plain a [] h45 h43,hd];rfl) ?_
    rw [itoa_nat,decDigits_one (digit_toNat hb).2,ofNat_digit hb]
theorem numP_more (a:UInt8) (r:List UInt8) (h:(a :: r).length≤15) (h45:a.toNat≠45) (h48:a.toNat≠48):numP (a :: r)=(decFrom 0 (a :: r)).map fun (m:Nat)=>(m:Int):=by
 cases hd:decFrom 0 (a :: r) with
 | none =>
  by_cases h43:a.toNat=43
  ·refine numP_never _ fun v hv=>?_
   rcases itoa_head v with ⟨u,r',_,_,e,_⟩ | ⟨u,e⟩
   ·rw [e] at hv
    injection hv with h1 _
    rw [←h1] at h43
    exact absurd h43 (by decide)
   ·rw [e] at hv
    obtain ⟨d,r',e',hd',_,_⟩:=head_decDigits u
    rw [e'] at hv
    injection hv with h3 _
    have h5:=ofNat_toNat_digit d hd'
    rw [h3] at h5
    omega
  ·exact numP_noatoi _ (by rw [atoi_plain a r h45 h43,hd];rfl)
 | some v =>
  have hh:=decFrom_head a r v hd
  obtain ⟨i1,_⟩:=digits_back (a :: r) v (fun x y e=>by injection e with e1 _;rw [←e1];exact h48) (by simp) hd
  exact numP_if _ (by rw [trim_keep a r h45];exact h) _ (by rw [atoi_plain a r h45 (by omega),hd];rfl) (by rw [itoa_nat];exact i1)
theorem numP_less (a:UInt8) (r:List UInt8) (h:(a :: r).length≤15) (h48:a.toNat≠48):numP (45 :: a :: r)=(decFrom 0 (a :: r)).map fun (m:Nat) => -(m:Int):=by
 cases hd:decFrom 0 (a :: r) with
 | none=>exact numP_noatoi _ (by rw [atoi_less _ (by simp),hd];rfl)
 | some v =>
  obtain ⟨i1,i2⟩:=digits_back (a :: r) v (fun x y e=>by injection e with e1 _;rw [←e1];exact h48) (by simp) hd
  exact numP_if _ (by rw [trim_less];exact h) _ (by rw [atoi_less _ (by simp),hd];rfl) (by rw [itoa_neg v i2,i1])
end Go.Proofs.YtinebmjpdkjooaaGreatDoor
namespace Go.Proofs
open Go.Shelf
def Tryz.lays137_ren:Go.Shelf.Ren:=⟨fun | 137=>196 | 217=>140 | 266=>167 | n=>n,fun | 9=>9 | 5=>5 | 3=>3 | n=>n,fun | n=>n⟩
theorem Tryz.lays137:Go.Proofs.Lays.n137 Tryz.prog Tryz.lays137_ren:={
 mixed:=by kernel_rfl
 f137:=Tryz.func196.trans (congrArg some (by kernel_rfl))
 f217:=Tryz.func140.trans (congrArg some (by kernel_rfl))
 f266:=Tryz.func167.trans (congrArg some (by kernel_rfl))
 t3:=Tryz.underlying3
 a3:=Tryz.isAgg3
 z3:=Tryz.sizeOf3
 v3:=Tryz.zeroValue3
 t5:=Tryz.underlying5
 a5:=Tryz.isAgg5
 z5:=Tryz.sizeOf5
 v5:=Tryz.zeroValue5
 t9:=Tryz.underlying9
 a9:=Tryz.isAgg9
 z9:=Tryz.sizeOf9
 v9:=Tryz.zeroValue9 }
namespace YtinebmjpdkjooaaGreatDoor
open Go.ChangeShapes Go.WideShapes Go.ChangeAt Go.RowKit
theorem signI_fin:∀ c:Fin 256,Lib.indexByte [43,45,42,47] c.val.toUInt8=signI (c.val:Int):=by decide +kernel
theorem signI_eq (c:Int) (h0:0≤c) (h1:c<256):Lib.indexByte [43,45,42,47] c.toNat.toUInt8=signI c:=by
 have h:=signI_fin ⟨c.toNat,by omega⟩
 simp only at h
 rw [h,show ((c.toNat:Nat):Int)=c by omega]
theorem signix_any (c:Int) (h0:0≤c) (h1:c<256) (w:World):Calls Tryz.prog 196 #[.string ⟨#[43,45,42,47]⟩,.int .u8 c] w fun e w'=>e=.returned (.int .i64 (signI c))∧Below w.heap.size w w' :=
 (Any.strings_IndexByte Tryz.lays137 ⟨#[43,45,42,47]⟩ c w).mono fun e w' ⟨he,hw⟩=>⟨by rw [he,signI_eq c h0 h1],by rw [hw];exact Below.refl _ _⟩
theorem byteN_range (s:ByteArray) (i:Nat):0≤byteN s i∧byteN s i<256:=by
 unfold byteN
 have:=(s.data.toList.getD i 0).toNat_lt
 omega
theorem nextB_range (s:ByteArray) (i:Nat):0≤nextB s i∧nextB s i<256:=by
 unfold nextB
 split
 ·omega
 ·exact byteN_range s i
end YtinebmjpdkjooaaGreatDoor
end Go.Proofs
namespace Go.Proofs.YtinebmjpdkjooaaGreatDoor
open Go.ChangeShapes Go.WideShapes Go.ChangeAt Go.RowKit
set_option maxRecDepth 20000
theorem next_zero {s:ByteArray} {a:Nat} (h:nextB s a≠0) (ha:a≤s.size):a<s.size:=by
 by_cases e:a=s.size
 ·subst e;simp [nextB] at h
 ·omega
theorem tail_size (s:ByteArray) (a:Nat):(s.extract a s.size).size=s.size-a:=by rw [ByteArray.size_extract];omega
set_option maxHeartbeats 1000000 in
theorem rdigits_any (q a o:Nat) (s:ByteArray) (tv:Value) (w:World) (hs:s.size≤4611686018427387904) (ha:a≤s.size) (hR:RdAt w q s a o tv):Calls Tryz.prog 246 #[.pointer (some ⟨q,0,none⟩)] w fun e w'=>e=.returned (.int .i64 (digitsN s a))∧Below w.heap.size w w':=by
 have hnx:=next_any q a o s tv w ha hR
 unfold digitsN
 by_cases h48:nextB s a=48
 ·rw [h48] at hnx
  rw [if_pos h48]
  clear h48
  go_enter Tryz.func246,Tryz.ntmps246
  go_wp2_with fail
  refine hnx.mono ?_
  rintro e w1 ⟨rfl,hb1⟩
  go_wp2_with fail
  go_ret
  exact ⟨rfl,hb1⟩
 ·have h48':(nextB s a == 48)=false:=by simpa using h48
  rw [if_neg h48]
  generalize nextB s a=c at *
  have HL:Hid (∀ w',Below w.heap.size w w'→Calls Tryz.prog 247 #[.string (s.extract a s.size),.func (.func 245) #[] #[]] w' fun e w''=>e=.returned (.int .i64 (leadN digB (s.extract a s.size)))∧Below w'.heap.size w' w''):=fun w' _=>leadd_any _ w' (by rw [tail_size];omega)
  generalize leadN digB (s.extract a s.size)=n at HL ⊢
  have HM:Hid (((min n 7:Nat):Int)=min (n:Int) 7):=by show _=_;omega
  have ha':(a:Int)≤(s.size:Int):=by omega
  have hs':(s.size:Int)≤4611686018427387904:=by omega
  go_enter Tryz.func246,Tryz.ntmps246
  go_wp2_with fail
  refine hnx.mono ?_
  rintro e w1 ⟨rfl,hb1⟩
  have hR1:=hR.later hb1
  have c0:=hR1.c0
  have c1:=hR1.c1
  have HB:Hid (Below w.heap.size w w1):=hb1
  clear hR1 hb1 hR
  go_wp2_with fail
  go_region_law ((go_simp;refine (HL.out _ (onB HB.out (by go_grown))).mono ?_;rintro e w2 ⟨rfl,hb2⟩;have hN2:=onB (onB (W0:=w) HB.out (by go_grown)) hb2;clear hb2))
  all_goals (go_wp2_with fail;all_goals (go_ret;refine ⟨?_,hN2⟩;first | (rw [HM.out];rfl) | (rw [show min n 7=7 by omega];rfl) | (rw [show min n 7=n by omega];rfl)))
structure RdS {S:Type} (T:Tkr S) (w:World) (q:Nat) (s:ByteArray) (ph:Bool) (r:Rd S):Prop where
 rd:RdAt w q s r.at' r.opn T.fv
 mem:T.I r.st w
 good:T.G r.at' r.opn ph r.st
 inn:r.at'≤s.size
 few:r.opn≤r.at'
 room:T.N≤w.heap.size
section
variable {S:Type} {T:Tkr S} {w w':World} {q:Nat} {s:ByteArray} {ph:Bool} {r:Rd S}
theorem RdS.later (h:RdS T w q s ph r) (hT:T.Ok) (hq:q<T.N) (hqp:q≠T.p) (hB:Below w.heap.size w w'):RdS T w' q s ph r :=
 ⟨h.rd.later hB,hT.stay q _ _ _ hq hqp h.mem (grownF_below hB),h.good,h.inn,h.few,Nat.le_trans h.room hB.size⟩
end
def mis (a:Nat):List PanicEntry:=[{ v:=.iface 254 (.int .i64 a),recovered:=false }]
def Went {S:Type} (T:Tkr S) (q:Nat) (s:ByteArray) (ph:Bool) (w:World) (x:Rd S×Bool) (e:Ending) (w':World):Prop:=Kept T.N (fun k=>k=T.p∨k=q) w w'∧((x.2=true∧e=.returned (.tuple #[])∧RdS T w' q s ph x.1)∨(x.2=false∧e=.panicked (mis x.1.at')))
section
variable {S:Type} {T:Tkr S} {w w':World} {q:Nat} {s:ByteArray} {ph:Bool} {x:Rd S×Bool} {r:Rd S}
theorem Went.ok (h:x=(r,true)) (hk:Kept T.N (fun k=>k=T.p∨k=q) w w') (hr:RdS T w' q s ph r):Went T q s ph w x (.returned (.tuple #[])) w':=⟨hk,Or.inl ⟨by rw [h],rfl,by rw [h];exact hr⟩⟩
theorem Went.no (h:x=(r,false)) (hk:Kept T.N (fun k=>k=T.p∨k=q) w w'):Went T q s ph w x (.panicked (mis r.at')) w':=⟨hk,Or.inr ⟨by rw [h],by rw [h]⟩⟩
end
theorem byteN_ext {s:ByteArray} {a b i:Nat} (h:i<b-a):byteN (s.extract a b) i=byteN s (a+i):=by
 unfold byteN
 rw [Lib.extract_data]
 simp only [List.getD,List.getElem?_take,List.getElem?_drop]
 rw [if_pos h]
theorem next_at {s:ByteArray} {a:Nat} (h:a<s.size):nextB s a=byteN s a:=by rw [nextB,if_neg (by omega)]
theorem sgn_stp {s:ByteArray} {a o:Nat} (ha:a≤s.size) (h : ¬ signI (nextB s a)<0):a+1≤s.size∧Stp o true (s.extract a (a+1)) o false:=by
 have hlt:a<s.size:=next_zero (fun e=>h (by rw [e];decide)) ha
 refine ⟨hlt,Stp.sgn o _ (slice_ok hlt) ?_⟩
 rw [byteN_ext (by omega),Nat.add_zero,←next_at hlt]
 omega
theorem RdS.word {S:Type} {T:Tkr S} {w w':World} {q n o o':Nat} {s:ByteArray} {ph ph':Bool} {r:Rd S} (hT:T.Ok) (hs:s.size≤T.M) (hn:r.at'+n≤s.size) (hG:T.G r.at' o ph r.st) (hS:Stp o ph (s.extract r.at' (r.at'+n)) o' ph') (ho:o'≤r.at'+n) (hN:T.N≤w.heap.size)
  (h1:RdAt w' q s (r.at'+n) o' T.fv) (h2:T.I (T.tk r.st (s.extract r.at' (r.at'+n))) w') (h3:Kept T.N (fun k=>k=T.p∨k=q) w w'):RdS T w' q s ph' (wordR s T.tk n ⟨r.at',o',r.st⟩):=by
 refine ⟨h1,h2,?_,hn,ho,Nat.le_trans hN h3.size⟩
 have h:=hT.step r.at' o ph r.st _ o' ph' hS hG (by rw [slice_ok hn];omega)
 rw [slice_ok hn] at h
 exact h
set_option maxHeartbeats 1000000 in
theorem sign_any {S:Type} (T:Tkr S) (hT:T.Ok) (q:Nat) (s:ByteArray) (r:Rd S) (w:World) (hs:s.size≤T.M) (hq:q<T.N) (hqp:q≠T.p) (hR:RdS T w q s true r) :
  Calls Tryz.prog 223 #[.pointer (some ⟨q,0,none⟩)] w fun e w'=>Went T q s false w (signR s T.tk r) e w':=by
 have hnx:=next_any q r.at' r.opn s T.fv w hR.inn hR.rd
 have hix0:=signix_any (nextB s r.at') (nextB_range s r.at').1 (nextB_range s r.at').2
 have HR:Hid (RdS T w q s true r):=hR
 have HT:Hid T.Ok:=hT
 by_cases h:signI (nextB s r.at')<0
 ·have h2:signR s T.tk r=(r,false):=by rw [signR,if_pos h]
  have H2:Hid (signR s T.tk r=(r,false)):=h2
  clear h2
  generalize signI (nextB s r.at')=c at *
  generalize nextB s r.at'=b at *
  clear hR hT
  go_enter Tryz.func223,Tryz.ntmps223
  go_wp2_with fail
  refine hnx.mono ?_
  rintro e w1 ⟨rfl,hb1⟩
  go_wp2_with fail
  refine (hix0 _).mono ?_
  rintro e w2 ⟨rfl,hb2⟩
  have HB:Hid (Below w.heap.size w w2):=onB hb1 hb2
  have HR2:Hid (RdS T w2 q s true r):=HR.out.later HT.out hq hqp HB.out
  clear hb1 hb2
  go_wp2_with fail
  refine (stop_any q r.at' r.opn s T.fv w2 HR2.out.rd).mono ?_
  rintro e w3 ⟨rfl,hb3⟩
  go_wp2_with fail
  exact ⟨rfl,Went.no H2.out (kept_below (onB HB.out hb3) HR.out.room)⟩
 ·obtain ⟨k1,k2⟩:=sgn_stp (o:=r.opn) hR.inn h
  have HS:Hid (Stp r.opn true (s.extract r.at' (r.at'+1)) r.opn false):=k2
  have h2:signR s T.tk r=(wordR s T.tk 1 r,true):=by rw [signR,if_neg h]
  have H2:Hid (signR s T.tk r=(wordR s T.tk 1 r,true)):=h2
  clear h2
  have h':0≤signI (nextB s r.at'):=by omega
  generalize signI (nextB s r.at')=c at *
  generalize nextB s r.at'=b at *
  clear hR hT k2 h
  go_enter Tryz.func223,Tryz.ntmps223
  go_wp2_with fail
  refine hnx.mono ?_
  rintro e w1 ⟨rfl,hb1⟩
  go_wp2_with fail
  refine (hix0 _).mono ?_
  rintro e w2 ⟨rfl,hb2⟩
  have HB:Hid (Below w.heap.size w w2):=onB hb1 hb2
  have HR2:Hid (RdS T w2 q s true r):=HR.out.later HT.out hq hqp HB.out
  clear hb1 hb2
  go_wp2_with fail
  refine (word_any T HT.out q r.at' r.opn r.opn 1 r.opn true false s r.st w2 hs k1 hq hqp HR2.out.room HR2.out.rd HR2.out.mem HR2.out.good HS.out).mono ?_
  rintro e w3 ⟨rfl,g1,g2,g3⟩
  have HK:Hid (Kept T.N (fun k=>k=T.p∨k=q) w w3):=(kept_below HB.out HR.out.room).trans g3
  have HR3:Hid (RdS T w3 q s false (wordR s T.tk 1 r)):=RdS.word (r:=r) (o':=r.opn) HT.out hs k1 HR2.out.good HS.out (by have:=HR2.out.few;omega) HR2.out.room g1 g2 g3
  clear g1 g2 g3
  go_wp2_with fail
  first | go_end0 | skip
  exact Went.ok H2.out HK.out HR3.out
end Go.Proofs.YtinebmjpdkjooaaGreatDoor
namespace Go.Proofs
open Go.Shelf
def Tryz.laysK_ren:Go.Shelf.Ren:=⟨fun | 25=>146 | n=>n,fun | 0=>0 | 3=>3 | 4=>4 | 5=>5 | 9=>9 | 37=>56 | 47=>91 | n=>n,fun | n=>n⟩
theorem Tryz.laysK:Go.Proofs.LaysPu.n25 Tryz.prog Tryz.laysK_ren:={
 mixed:=by kernel_rfl
 f25:=Tryz.func146.trans (congrArg some (by kernel_rfl))
 t0:=Tryz.underlying0
 a0:=Tryz.isAgg0
 z0:=Tryz.sizeOf0
 v0:=Tryz.zeroValue0
 i0:=by kernel_rfl
 t3:=Tryz.underlying3
 a3:=Tryz.isAgg3
 z3:=Tryz.sizeOf3
 v3:=Tryz.zeroValue3
 i3:=by kernel_rfl
 t4:=Tryz.underlying4
 a4:=Tryz.isAgg4
 z4:=Tryz.sizeOf4
 v4:=Tryz.zeroValue4
 i4:=by kernel_rfl
 t5:=Tryz.underlying5
 a5:=Tryz.isAgg5
 z5:=Tryz.sizeOf5
 v5:=Tryz.zeroValue5
 i5:=by kernel_rfl
 t9:=Tryz.underlying9
 a9:=Tryz.isAgg9
 z9:=Tryz.sizeOf9
 v9:=Tryz.zeroValue9
 i9:=by kernel_rfl
 t37:=Tryz.underlying56
 a37:=Tryz.isAgg56
 z37:=Tryz.sizeOf56
 v37:=Tryz.zeroValue56
 i37:=by kernel_rfl
 t47:=Tryz.underlying91
 a47:=Tryz.isAgg91
 z47:=Tryz.sizeOf91
 v47:=Tryz.zeroValue91
 i47:=by kernel_rfl }
namespace YtinebmjpdkjooaaGreatDoor
open Go.ChangeShapes Go.WideShapes Go.ChangeAt Go.RowKit
theorem sclone_any (s:ByteArray) (w:World) (hs:s.size≤281474976710656):Calls Tryz.prog 107 #[.string s] w fun e w'=>e=.returned (.string s)∧Below w.heap.size w w':=by
 have h:=AnyPu.stringslite_Clone Tryz.laysK s w hs
 go_enter Tryz.func107,Tryz.ntmps107
 go_wp2_with fail
 refine Calls.mono h ?_
 rintro e w1 ⟨rfl,hb1⟩
 go_wp2_with fail
 go_ret
 exact ⟨rfl,hb1⟩
end YtinebmjpdkjooaaGreatDoor
end Go.Proofs
namespace Go.Proofs.YtinebmjpdkjooaaGreatDoor
open Go.ChangeShapes Go.WideShapes Go.ChangeAt Go.RowKit
set_option maxRecDepth 20000
set_option maxHeartbeats 2000000 in
theorem iclone_pl (A:Option Addr) (c:Nat) (L:List Int) (w:World) (hL:L.length≤1048576) (hP:PlAt w A c L):Calls Tryz.prog 130 #[.slice A L.length c] w fun e w'=>(∃ v,e=.returned v∧w'.ownsRow w.heap.size 3 1 v L.length (mapI L))∧Below w.heap.size w w':=by
 have hq:∀ (w:World) (a:Option Addr) (n c n' c':Nat),(binOp .eql 48 (.slice a n c) (.slice none n' c')).run Tryz.prog w=.ok (.bool a.isNone) w:=fun w a n c n' c'=>Lib.run_eql_slice_nil w _ _ a n c n' c' Tryz.underlying48
 cases A with
 | none =>
  obtain ⟨-,h0 | ⟨b,o,h0,-⟩⟩:=hP
  ·subst h0
   simp only [List.length_nil]
   go_enter Tryz.func130,Tryz.ntmps130
   go_wp2_with fail
   go_ret
   exact ⟨⟨_,rfl,World.ownsRow_nil _ _ _ _⟩,Below.refl _ _⟩
  ·cases h0
 | some a =>
  obtain ⟨i0,hi0,hz0,hz1,hz2⟩:=info_parts Tryz.infoInt
  have HC:Hid (∀ j u,(mapI L)[j]?=some u→w.cell? (a.add j)=some u):=by
   intro j u hj
   obtain ⟨-,h0 | ⟨b,o,h0,-,hcell⟩⟩:=hP
   ·subst h0;simp [mapI] at hj
   ·cases h0
    have hlt:j<L.length:=by have:=(List.getElem?_eq_some_iff.1 hj).1;simpa [mapI] using this
    rw [plain_add,hcell j hlt]
    simp only [mapI,List.getElem?_map,List.getElem?_eq_getElem hlt,Option.map_some,Option.some.injEq] at hj
    rw [←hj,List.getD_eq_getElem?_getD,List.getElem?_eq_getElem hlt]
    rfl
  have hl:(mapI L).length=L.length*1:=by simp [mapI]
  have h1:∀ u∈mapI L,u.oneCell'=true:=by intro u hu;simp [mapI] at hu;obtain ⟨x,-,rfl⟩:=hu;rfl
  clear hP
  go_enter Tryz.func130,Tryz.ntmps130
  go_wp2_with (at_builtin;refine wpList_append_own _ rfl _ _ 48 rfl w.heap.size 3 i0 (.int .i64 0) 1 8 Tryz.underlying48 hi0 hz0 hz1 hz2 rfl (by decide) _ _ _ rfl (World.ownsRow_made w #[] 0 (Nat.le_refl _) (Nat.zero_le _) (by simp)) a L.length c (mapI L) rfl ?qc1 ?qc2 ?qc3 ?qc4 ?qc5 ?qc6 ?_)
  case qc1=>exact hl
  case qc2=>exact fun j u hj=>Lib.cell?_alloc_some _ (HC.out j u hj)
  case qc3=>exact h1
  case qc4=>simp only [maxLen];omega
  case qc5=>omega
  case qc6=>simp
  intro v' w1 hown hgrow hnil
  have HO:Hid (w1.ownsRow w.heap.size 3 1 v' L.length (mapI L)):=hown
  have HB:Hid (Below w.heap.size w w1):=((Below.refl _ w).alloc (Nat.le_refl _) _).grown hgrow (by simp) (by intro k hk;simp [Value.ownBlock] at hk;omega)
  clear hown hgrow hnil
  go_wp2_with fail
  go_ret
  exact ⟨⟨_,rfl,HO.out⟩,HB.out⟩
set_option maxHeartbeats 1000000 in
theorem osize_any (b o n cap:Nat) (D:Nat→Dm) (A:Nat→Option Addr) (C:Nat→Nat) (w:World) (hn:n≤4) (hd:∀ j,j<n→(D j).n≤12) (hM:DimsAt w b o n D A C):Calls Tryz.prog 81 #[.agg #[.slice (some ⟨b,o,none⟩) n cap]] w fun e w'=>e=.returned (.int .i64 (prodN D n))∧Below w.heap.size w w':=by
 have HB:Hid (DimsAt w b o n D A C):=hM
 have HD:Hid (∀ j,j<n→(D j).n≤12):=hd
 clear hM hd
 have hS:=ownOut_size w (some ⟨b,o,none⟩) n cap 24
 have hB0:=ownOut_below w (some ⟨b,o,none⟩) n cap 24
 have hA2:=ownOut_at w (some ⟨b,o,none⟩) n cap 24
 obtain ⟨W,hW⟩:∃ W,W=ownOut w (some ⟨b,o,none⟩) n cap 24:=⟨_,rfl⟩
 rw [←hW] at hB0 hS hA2
 have HW:Hid (W=ownOut w (some ⟨b,o,none⟩) n cap 24):=hW
 have HA:Hid (W.cell? ⟨w.heap.size,0,none⟩=some (.slice (some ⟨b,o,none⟩) n cap)):=hA2
 have HB0:Hid (Below w.heap.size w W):=hB0
 have hs8:(n:Int)≤4:=by omega
 clear hW hA2 hB0 hS
 go_enter Tryz.func81,Tryz.ntmps81
 go_wp2_with fail
 go_loopg [3,4] n (fun g s3 s4 wr => ∃ (k:Nat),k≤n∧g=n-k∧s4=.int .i64 k∧s3=.int .i64 (prodN D k)∧wr=W)
 case atStart=>exact ⟨0,Nat.zero_le _,rfl,rfl,rfl,by rw [HW.out];rfl⟩
 case round =>
  obtain ⟨k,hk,rfl,rfl,rfl,rfl⟩:=hrel
  have c0:=HA.out
  by_cases hlt:k<n
  ·obtain ⟨h0,h1,h2,-⟩:=(HB.out.later HB0.out).2 k hlt
   have hki:(k:Int)<(n:Int):=by omega
   have hp1:prodN D (k+1)≤20736:=prod_small (fun j hj=>HD.out j (by omega)) (by omega)
   have hp2:(prodN D (k+1):Int)=(prodN D k:Int)*((D k).n:Int):=by rw [prodN];exact Int.natCast_mul _ _
   have hp3:0≤(prodN D k:Int)*((D k).n:Int):=by omega
   have hp4:(prodN D k:Int)*((D k).n:Int)≤20736:=by omega
   have HP:Hid ((prodN D (k+1):Int)=(prodN D k:Int)*((D k).n:Int)):=hp2
   clear hp1 hp2
   go_wp2_with fail
   go_roundg (n-(k+1))
   case measure=>omega
   case rel=>exact ⟨k+1,by omega,rfl,by go_num,by rw [HP.out],rfl⟩
  ·have hke:k=n:=by omega
   subst hke
   go_wp2_with fail
   go_ret
   exact ⟨rfl,HB0.out⟩
end Go.Proofs.YtinebmjpdkjooaaGreatDoor
