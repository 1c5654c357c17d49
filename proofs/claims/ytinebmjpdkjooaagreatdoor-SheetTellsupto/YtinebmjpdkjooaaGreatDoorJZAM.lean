/-
  The document's own reading of a number of at most seven digits (tallyref1.Int) of every text: what its digits spell, without a needless nought, perhaps with a less sign ahead.
-/
import Derived.Test.YtinebmjpdkjooaaGreatDoorJZAI
namespace Go.Proofs.YtinebmjpdkjooaaGreatDoor
open Go.ChangeShapes Go.WideShapes Go.ChangeAt Go.RowKit
set_option linter.unusedVariables false
def numK (M:Nat) (l:List UInt8):Option Int:=if (Lib.trimPrefix l [45]).length≤M then numP l else none
theorem numK_in {M:Nat} {l:List UInt8} (h:(Lib.trimPrefix l [45]).length≤M):numK M l=numP l:=if_pos h
theorem numK_out {M:Nat} {l:List UInt8} (h:M<(Lib.trimPrefix l [45]).length):numK M l=none:=if_neg (by omega)
theorem trim_len (l:List UInt8):(Lib.trimPrefix l [45]).length≤l.length:=by
 unfold Lib.trimPrefix
 split
 ·simp
 ·exact Nat.le_refl _
theorem decFrom_bad7 {l:List UInt8} {k:Nat} {b:UInt8} (hb:l[k]?=some b) (hd:b.toNat<48∨57<b.toNat) (acc:Nat):Lib.decFrom acc l=none:=by
 cases h:Lib.decFrom acc l with
 | none=>rfl
 | some n =>
  obtain ⟨d,hd'⟩:=Lib.digit_of_decFrom l acc n h k b hb
  have:=digit_toNat hd'
  omega
theorem decFrom_step7 {l:List UInt8} {k v:Nat} {b:UInt8} (h:Lib.decFrom 0 (l.take k)=some v) (hb:l[k]?=some b) (h1:48≤b.toNat) (h2:b.toNat≤57):Lib.decFrom 0 (l.take (k+1))=some (v*10+(b.toNat-48)) :=
 Lib.decFrom_take l k 0 v b (b.toNat-48) h hb (by unfold Lib.digitVal;rw [if_pos ⟨h1,h2⟩])
theorem pow_step7 {v d k:Nat} (h:v<10 ^ k) (hd:d≤9):v*10+d<10 ^ (k+1):=by
 rw [Nat.pow_succ];omega
theorem pow_small7 {v k:Nat} (h:v<10 ^ k) (hk:k≤14):v<100000000000000 :=
 Nat.lt_of_lt_of_le h (Nat.pow_le_pow_right (by omega) hk)
theorem byte_at7 (s:ByteArray) (k:Nat) (h:k<s.size):s.data.toList[k]?=some s[k]:=by
 rw [List.getElem?_eq_getElem (by simpa using h)];rfl
theorem ne_empty7 {s:ByteArray} (h:1≤s.size):s.toList.isEmpty=false:=by
 rw [ByteArray.toList_eq]
 have e:=Lib.size_eq s
 cases hl:s.data.toList with
 | nil=>rw [hl,List.length_nil] at e;omega
 | cons a b=>rfl
theorem int_empty7 (s:ByteArray) (w:World) (hs:s.size=0):Calls Tryz.prog 28 #[.string s,.int .i64 7] w fun e w'=>e=.returned (.tuple #[.int .i64 0,.bool false])∧w'=w:=by
 have h1:(s.size:Int)≤1:=by omega
 have g2:s.toList=[]:=by
  rw [ByteArray.toList_eq]
  have e:=Lib.size_eq s
  cases hl:s.data.toList with
  | nil=>rfl
  | cons a b=>rw [hl,List.length_cons] at e;omega
 clear hs
 go_enter Tryz.func28,Tryz.ntmps28
 go_wp2
 all_goals
  go_ret2
  exact ⟨rfl,rfl⟩
theorem int_long7 (s:ByteArray) (w:World) (hs:1<s.size) (h7:7<s.size) (hm:((s[0].toNat:Int) == 45)=false):Calls Tryz.prog 28 #[.string s,.int .i64 7] w fun e w'=>e=.returned (.tuple #[.int .i64 0,.bool false])∧w'=w:=by
 have h1:(1:Int)<(s.size:Int):=by omega
 have h3:0<s.size:=by omega
 have g2:=ne_empty7 (s:=s) (by omega)
 have h2:(7:Int)<(s.size:Int):=by omega
 go_enter Tryz.func28,Tryz.ntmps28
 go_wp2
 all_goals
  go_ret2
  exact ⟨rfl,rfl⟩
theorem int_nought7 (s:ByteArray) (w:World) (hs:1<s.size) (h7:s.size≤7) (hm:((s[0].toNat:Int) == 45)=false) (hz:((s[0].toNat:Int) == 48)=true):Calls Tryz.prog 28 #[.string s,.int .i64 7] w fun e w'=>e=.returned (.tuple #[.int .i64 0,.bool false])∧w'=w:=by
 have h1:(1:Int)<(s.size:Int):=by omega
 have h3:0<s.size:=by omega
 have g2:=ne_empty7 (s:=s) (by omega)
 have h2:(s.size:Int)≤7:=by omega
 go_enter Tryz.func28,Tryz.ntmps28
 go_wp2
 all_goals
  go_ret2
  exact ⟨rfl,rfl⟩
theorem int_mlong7 (s t:ByteArray) (w:World) (hs:1<s.size) (hm:((s[0].toNat:Int) == 45)=true) (he:s.extract 1 s.size=t) (ht1:0<t.size) (ht:7<t.size):Calls Tryz.prog 28 #[.string s,.int .i64 7] w fun e w'=>e=.returned (.tuple #[.int .i64 0,.bool false])∧w'=w:=by
 have h1:(1:Int)<(s.size:Int):=by omega
 have g2:=ne_empty7 (s:=t) (by omega)
 have h2:(7:Int)<(t.size:Int):=by omega
 go_enter Tryz.func28,Tryz.ntmps28
 go_wp2
 all_goals
  go_ret2
  exact ⟨rfl,rfl⟩
theorem int_mnought7 (s t:ByteArray) (w:World) (hs:1<s.size) (hm:((s[0].toNat:Int) == 45)=true) (he:s.extract 1 s.size=t) (ht1:0<t.size) (ht:t.size≤7) (hz:((t[0].toNat:Int) == 48)=true):Calls Tryz.prog 28 #[.string s,.int .i64 7] w fun e w'=>e=.returned (.tuple #[.int .i64 0,.bool false])∧w'=w:=by
 have h1:(1:Int)<(s.size:Int):=by omega
 have g2:=ne_empty7 (s:=t) (by omega)
 have h2:(t.size:Int)≤7:=by omega
 go_enter Tryz.func28,Tryz.ntmps28
 go_wp2
 all_goals
  go_ret2
  exact ⟨rfl,rfl⟩
set_option maxHeartbeats 1000000 in
theorem int_one_none_true7 (s:ByteArray) (w:World) (hs:s.size=1) (h0:0<s.size) (hq:((s[0].toNat:Int) == 48)=true) (HO:Hid (Lib.decFrom 0 s.data.toList=none)):Calls Tryz.prog 28 #[.string s,.int .i64 7] w fun e w'=>e=.returned (.tuple #[.int .i64 0,.bool false])∧w'=w:=by
 have h1:(s.size:Int)≤1:=by omega
 have h2:(1:Int)≤(s.size:Int):=by omega
 have g2:=ne_empty7 (s:=s) (by omega)
 have hs':s.size≤1:=by omega
 clear hs
 go_enter Tryz.func28,Tryz.ntmps28
 go_wp2
 go_loop [7,8] (fun n i => ∃ k v:Nat,k≤s.size∧i=.int .i64 k∧n=.int .i64 v∧Lib.decFrom 0 (s.data.toList.take k)=some v∧v<10 ^ k) (fun _ i=>s.size-(intOf i).toNat)
 case atStart=>exact ⟨0,0,Nat.zero_le _,rfl,rfl,rfl,by decide⟩
 case round =>
  obtain ⟨k,v,hk,rfl,rfl,hd,hv⟩:=hrel
  by_cases hlt:k<s.size
  ·have hv1:(v:Int)<100000000000000:=by have:=pow_small7 hv (by omega);omega
   have hv0:(0:Int)≤(v:Int):=by omega
   have hb:=byte_at7 s k hlt
   have HB:Hid (s.data.toList[k]?=some s[k]):=hb
   have HD:Hid (Lib.decFrom 0 (s.data.toList.take k)=some v):=hd
   have HV:Hid (v<10 ^ k):=hv
   clear hb hd hv
   by_cases h1:(s[k].toNat:Int)<48
   ·have hbad:=decFrom_bad7 HB.out (Or.inl (by omega)) 0
    clear hbad
    go_wp2
    go_ret2
    exact ⟨rfl,rfl⟩
   ·by_cases h2:57<(s[k].toNat:Int)
    ·go_wp2
     go_ret2
     exact ⟨rfl,rfl⟩
    ·go_wp2
     go_round
     case rel=>exact ⟨k+1,v*10+(s[k].toNat-48),by omega,by go_num,by go_num,decFrom_step7 HD.out HB.out (by omega) (by omega),pow_step7 HV.out (by omega)⟩
     case measure=>simp [intOf];omega
  ·have hall:Lib.decFrom 0 s.data.toList=some v:=by rw [←hd,List.take_of_length_le (by rw [←Lib.size_eq];omega)]
   rw [HO.out] at hall
   cases hall
set_option maxHeartbeats 1000000 in
theorem int_one_none_false7 (s:ByteArray) (w:World) (hs:s.size=1) (h0:0<s.size) (hq:((s[0].toNat:Int) == 48)=false) (HO:Hid (Lib.decFrom 0 s.data.toList=none)):Calls Tryz.prog 28 #[.string s,.int .i64 7] w fun e w'=>e=.returned (.tuple #[.int .i64 0,.bool false])∧w'=w:=by
 have h1:(s.size:Int)≤1:=by omega
 have h2:(1:Int)≤(s.size:Int):=by omega
 have g2:=ne_empty7 (s:=s) (by omega)
 have hs':s.size≤1:=by omega
 clear hs
 go_enter Tryz.func28,Tryz.ntmps28
 go_wp2
 go_loop [7,8] (fun n i => ∃ k v:Nat,k≤s.size∧i=.int .i64 k∧n=.int .i64 v∧Lib.decFrom 0 (s.data.toList.take k)=some v∧v<10 ^ k) (fun _ i=>s.size-(intOf i).toNat)
 case atStart=>exact ⟨0,0,Nat.zero_le _,rfl,rfl,rfl,by decide⟩
 case round =>
  obtain ⟨k,v,hk,rfl,rfl,hd,hv⟩:=hrel
  by_cases hlt:k<s.size
  ·have hv1:(v:Int)<100000000000000:=by have:=pow_small7 hv (by omega);omega
   have hv0:(0:Int)≤(v:Int):=by omega
   have hb:=byte_at7 s k hlt
   have HB:Hid (s.data.toList[k]?=some s[k]):=hb
   have HD:Hid (Lib.decFrom 0 (s.data.toList.take k)=some v):=hd
   have HV:Hid (v<10 ^ k):=hv
   clear hb hd hv
   by_cases h1:(s[k].toNat:Int)<48
   ·have hbad:=decFrom_bad7 HB.out (Or.inl (by omega)) 0
    clear hbad
    go_wp2
    go_ret2
    exact ⟨rfl,rfl⟩
   ·by_cases h2:57<(s[k].toNat:Int)
    ·go_wp2
     go_ret2
     exact ⟨rfl,rfl⟩
    ·go_wp2
     go_round
     case rel=>exact ⟨k+1,v*10+(s[k].toNat-48),by omega,by go_num,by go_num,decFrom_step7 HD.out HB.out (by omega) (by omega),pow_step7 HV.out (by omega)⟩
     case measure=>simp [intOf];omega
  ·have hall:Lib.decFrom 0 s.data.toList=some v:=by rw [←hd,List.take_of_length_le (by rw [←Lib.size_eq];omega)]
   rw [HO.out] at hall
   cases hall
set_option maxHeartbeats 1000000 in
theorem int_more_none7 (s:ByteArray) (w:World) (hs:1<s.size) (h7:s.size≤7) (hm:((s[0].toNat:Int) == 45)=false) (hz:((s[0].toNat:Int) == 48)=false) (HO:Hid (Lib.decFrom 0 s.data.toList=none)):Calls Tryz.prog 28 #[.string s,.int .i64 7] w fun e w'=>e=.returned (.tuple #[.int .i64 0,.bool false])∧w'=w:=by
 have h1:(1:Int)<(s.size:Int):=by omega
 have h3:0<s.size:=by omega
 have g2:=ne_empty7 (s:=s) (by omega)
 have h2:(s.size:Int)≤7:=by omega
 go_enter Tryz.func28,Tryz.ntmps28
 go_wp2
 go_loop [7,8] (fun n i => ∃ k v:Nat,k≤s.size∧i=.int .i64 k∧n=.int .i64 v∧Lib.decFrom 0 (s.data.toList.take k)=some v∧v<10 ^ k) (fun _ i=>s.size-(intOf i).toNat)
 case atStart=>exact ⟨0,0,Nat.zero_le _,rfl,rfl,rfl,by decide⟩
 case round =>
  obtain ⟨k,v,hk,rfl,rfl,hd,hv⟩:=hrel
  by_cases hlt:k<s.size
  ·have hv1:(v:Int)<100000000000000:=by have:=pow_small7 hv (by omega);omega
   have hv0:(0:Int)≤(v:Int):=by omega
   have hb:=byte_at7 s k hlt
   have HB:Hid (s.data.toList[k]?=some s[k]):=hb
   have HD:Hid (Lib.decFrom 0 (s.data.toList.take k)=some v):=hd
   have HV:Hid (v<10 ^ k):=hv
   clear hb hd hv
   by_cases h1:(s[k].toNat:Int)<48
   ·have hbad:=decFrom_bad7 HB.out (Or.inl (by omega)) 0
    clear hbad
    go_wp2
    go_ret2
    exact ⟨rfl,rfl⟩
   ·by_cases h2:57<(s[k].toNat:Int)
    ·go_wp2
     go_ret2
     exact ⟨rfl,rfl⟩
    ·go_wp2
     go_round
     case rel=>exact ⟨k+1,v*10+(s[k].toNat-48),by omega,by go_num,by go_num,decFrom_step7 HD.out HB.out (by omega) (by omega),pow_step7 HV.out (by omega)⟩
     case measure=>simp [intOf];omega
  ·have hall:Lib.decFrom 0 s.data.toList=some v:=by rw [←hd,List.take_of_length_le (by rw [←Lib.size_eq];omega)]
   rw [HO.out] at hall
   cases hall
set_option maxHeartbeats 1000000 in
theorem int_less_none7 (s:ByteArray) (t:ByteArray) (w:World) (hs:1<s.size) (hm:((s[0].toNat:Int) == 45)=true) (he:s.extract 1 s.size=t) (ht1:0<t.size) (ht:t.size≤7) (hz:((t[0].toNat:Int) == 48)=false) (HO:Hid (Lib.decFrom 0 t.data.toList=none)):Calls Tryz.prog 28 #[.string s,.int .i64 7] w fun e w'=>e=.returned (.tuple #[.int .i64 0,.bool false])∧w'=w:=by
 have h1:(1:Int)<(s.size:Int):=by omega
 have g2:=ne_empty7 (s:=t) (by omega)
 have h2:(t.size:Int)≤7:=by omega
 go_enter Tryz.func28,Tryz.ntmps28
 go_wp2
 go_loop [7,8] (fun n i => ∃ k v:Nat,k≤t.size∧i=.int .i64 k∧n=.int .i64 v∧Lib.decFrom 0 (t.data.toList.take k)=some v∧v<10 ^ k) (fun _ i=>t.size-(intOf i).toNat)
 case atStart=>exact ⟨0,0,Nat.zero_le _,rfl,rfl,rfl,by decide⟩
 case round =>
  obtain ⟨k,v,hk,rfl,rfl,hd,hv⟩:=hrel
  by_cases hlt:k<t.size
  ·have hv1:(v:Int)<100000000000000:=by have:=pow_small7 hv (by omega);omega
   have hv0:(0:Int)≤(v:Int):=by omega
   have hb:=byte_at7 t k hlt
   have HB:Hid (t.data.toList[k]?=some t[k]):=hb
   have HD:Hid (Lib.decFrom 0 (t.data.toList.take k)=some v):=hd
   have HV:Hid (v<10 ^ k):=hv
   clear hb hd hv
   by_cases h1:(t[k].toNat:Int)<48
   ·have hbad:=decFrom_bad7 HB.out (Or.inl (by omega)) 0
    clear hbad
    go_wp2
    go_ret2
    exact ⟨rfl,rfl⟩
   ·by_cases h2:57<(t[k].toNat:Int)
    ·go_wp2
     go_ret2
     exact ⟨rfl,rfl⟩
    ·go_wp2
     go_round
     case rel=>exact ⟨k+1,v*10+(t[k].toNat-48),by omega,by go_num,by go_num,decFrom_step7 HD.out HB.out (by omega) (by omega),pow_step7 HV.out (by omega)⟩
     case measure=>simp [intOf];omega
  ·have hall:Lib.decFrom 0 t.data.toList=some v:=by rw [←hd,List.take_of_length_le (by rw [←Lib.size_eq];omega)]
   rw [HO.out] at hall
   cases hall
set_option maxHeartbeats 1000000 in
theorem int_one_some_true7 (s:ByteArray) (v0:Nat) (w:World) (hs:s.size=1) (h0:0<s.size) (hq:((s[0].toNat:Int) == 48)=true) (HO:Hid (Lib.decFrom 0 s.data.toList=some v0)):Calls Tryz.prog 28 #[.string s,.int .i64 7] w fun e w'=>e=.returned (.tuple #[.int .i64 v0,.bool true])∧w'=w:=by
 have h1:(s.size:Int)≤1:=by omega
 have h2:(1:Int)≤(s.size:Int):=by omega
 have g2:=ne_empty7 (s:=s) (by omega)
 have hs':s.size≤1:=by omega
 clear hs
 go_enter Tryz.func28,Tryz.ntmps28
 go_wp2
 go_loop [7,8] (fun n i => ∃ k v:Nat,k≤s.size∧i=.int .i64 k∧n=.int .i64 v∧Lib.decFrom 0 (s.data.toList.take k)=some v∧v<10 ^ k) (fun _ i=>s.size-(intOf i).toNat)
 case atStart=>exact ⟨0,0,Nat.zero_le _,rfl,rfl,rfl,by decide⟩
 case round =>
  obtain ⟨k,v,hk,rfl,rfl,hd,hv⟩:=hrel
  by_cases hlt:k<s.size
  ·have hv1:(v:Int)<100000000000000:=by have:=pow_small7 hv (by omega);omega
   have hv0:(0:Int)≤(v:Int):=by omega
   have hb:=byte_at7 s k hlt
   have HB:Hid (s.data.toList[k]?=some s[k]):=hb
   have HD:Hid (Lib.decFrom 0 (s.data.toList.take k)=some v):=hd
   have HV:Hid (v<10 ^ k):=hv
   clear hb hd hv
   by_cases h1:(s[k].toNat:Int)<48
   ·have hbad:=decFrom_bad7 HB.out (Or.inl (by omega)) 0
    rw [HO.out] at hbad
    cases hbad
   ·by_cases h2:57<(s[k].toNat:Int)
    ·have hbad:=decFrom_bad7 HB.out (Or.inr (by omega)) 0
     rw [HO.out] at hbad
     cases hbad
    ·go_wp2
     go_round
     case rel=>exact ⟨k+1,v*10+(s[k].toNat-48),by omega,by go_num,by go_num,decFrom_step7 HD.out HB.out (by omega) (by omega),pow_step7 HV.out (by omega)⟩
     case measure=>simp [intOf];omega
  ·have hall:Lib.decFrom 0 s.data.toList=some v:=by rw [←hd,List.take_of_length_le (by rw [←Lib.size_eq];omega)]
   rw [HO.out] at hall
   injection hall with hall
   subst hall
   have hv1:(v0:Int)<10000000000000000:=by have:=Nat.lt_of_lt_of_le hv (Nat.pow_le_pow_right (by omega) (show k≤16 by omega));omega
   clear hd hv
   go_wp2
   go_ret2
   exact ⟨rfl,rfl⟩
set_option maxHeartbeats 1000000 in
theorem int_one_some_false7 (s:ByteArray) (v0:Nat) (w:World) (hs:s.size=1) (h0:0<s.size) (hq:((s[0].toNat:Int) == 48)=false) (HO:Hid (Lib.decFrom 0 s.data.toList=some v0)):Calls Tryz.prog 28 #[.string s,.int .i64 7] w fun e w'=>e=.returned (.tuple #[.int .i64 v0,.bool true])∧w'=w:=by
 have h1:(s.size:Int)≤1:=by omega
 have h2:(1:Int)≤(s.size:Int):=by omega
 have g2:=ne_empty7 (s:=s) (by omega)
 have hs':s.size≤1:=by omega
 clear hs
 go_enter Tryz.func28,Tryz.ntmps28
 go_wp2
 go_loop [7,8] (fun n i => ∃ k v:Nat,k≤s.size∧i=.int .i64 k∧n=.int .i64 v∧Lib.decFrom 0 (s.data.toList.take k)=some v∧v<10 ^ k) (fun _ i=>s.size-(intOf i).toNat)
 case atStart=>exact ⟨0,0,Nat.zero_le _,rfl,rfl,rfl,by decide⟩
 case round =>
  obtain ⟨k,v,hk,rfl,rfl,hd,hv⟩:=hrel
  by_cases hlt:k<s.size
  ·have hv1:(v:Int)<100000000000000:=by have:=pow_small7 hv (by omega);omega
   have hv0:(0:Int)≤(v:Int):=by omega
   have hb:=byte_at7 s k hlt
   have HB:Hid (s.data.toList[k]?=some s[k]):=hb
   have HD:Hid (Lib.decFrom 0 (s.data.toList.take k)=some v):=hd
   have HV:Hid (v<10 ^ k):=hv
   clear hb hd hv
   by_cases h1:(s[k].toNat:Int)<48
   ·have hbad:=decFrom_bad7 HB.out (Or.inl (by omega)) 0
    rw [HO.out] at hbad
    cases hbad
   ·by_cases h2:57<(s[k].toNat:Int)
    ·have hbad:=decFrom_bad7 HB.out (Or.inr (by omega)) 0
     rw [HO.out] at hbad
     cases hbad
    ·go_wp2
     go_round
     case rel=>exact ⟨k+1,v*10+(s[k].toNat-48),by omega,by go_num,by go_num,decFrom_step7 HD.out HB.out (by omega) (by omega),pow_step7 HV.out (by omega)⟩
     case measure=>simp [intOf];omega
  ·have hall:Lib.decFrom 0 s.data.toList=some v:=by rw [←hd,List.take_of_length_le (by rw [←Lib.size_eq];omega)]
   rw [HO.out] at hall
   injection hall with hall
   subst hall
   have hv1:(v0:Int)<10000000000000000:=by have:=Nat.lt_of_lt_of_le hv (Nat.pow_le_pow_right (by omega) (show k≤16 by omega));omega
   clear hd hv
   go_wp2
   go_ret2
   exact ⟨rfl,rfl⟩
set_option maxHeartbeats 1000000 in
theorem int_more_some7 (s:ByteArray) (v0:Nat) (w:World) (hs:1<s.size) (h7:s.size≤7) (hm:((s[0].toNat:Int) == 45)=false) (hz:((s[0].toNat:Int) == 48)=false) (HO:Hid (Lib.decFrom 0 s.data.toList=some v0)):Calls Tryz.prog 28 #[.string s,.int .i64 7] w fun e w'=>e=.returned (.tuple #[.int .i64 v0,.bool true])∧w'=w:=by
 have h1:(1:Int)<(s.size:Int):=by omega
 have h3:0<s.size:=by omega
 have g2:=ne_empty7 (s:=s) (by omega)
 have h2:(s.size:Int)≤7:=by omega
 go_enter Tryz.func28,Tryz.ntmps28
 go_wp2
 go_loop [7,8] (fun n i => ∃ k v:Nat,k≤s.size∧i=.int .i64 k∧n=.int .i64 v∧Lib.decFrom 0 (s.data.toList.take k)=some v∧v<10 ^ k) (fun _ i=>s.size-(intOf i).toNat)
 case atStart=>exact ⟨0,0,Nat.zero_le _,rfl,rfl,rfl,by decide⟩
 case round =>
  obtain ⟨k,v,hk,rfl,rfl,hd,hv⟩:=hrel
  by_cases hlt:k<s.size
  ·have hv1:(v:Int)<100000000000000:=by have:=pow_small7 hv (by omega);omega
   have hv0:(0:Int)≤(v:Int):=by omega
   have hb:=byte_at7 s k hlt
   have HB:Hid (s.data.toList[k]?=some s[k]):=hb
   have HD:Hid (Lib.decFrom 0 (s.data.toList.take k)=some v):=hd
   have HV:Hid (v<10 ^ k):=hv
   clear hb hd hv
   by_cases h1:(s[k].toNat:Int)<48
   ·have hbad:=decFrom_bad7 HB.out (Or.inl (by omega)) 0
    rw [HO.out] at hbad
    cases hbad
   ·by_cases h2:57<(s[k].toNat:Int)
    ·have hbad:=decFrom_bad7 HB.out (Or.inr (by omega)) 0
     rw [HO.out] at hbad
     cases hbad
    ·go_wp2
     go_round
     case rel=>exact ⟨k+1,v*10+(s[k].toNat-48),by omega,by go_num,by go_num,decFrom_step7 HD.out HB.out (by omega) (by omega),pow_step7 HV.out (by omega)⟩
     case measure=>simp [intOf];omega
  ·have hall:Lib.decFrom 0 s.data.toList=some v:=by rw [←hd,List.take_of_length_le (by rw [←Lib.size_eq];omega)]
   rw [HO.out] at hall
   injection hall with hall
   subst hall
   have hv1:(v0:Int)<10000000000000000:=by have:=Nat.lt_of_lt_of_le hv (Nat.pow_le_pow_right (by omega) (show k≤16 by omega));omega
   clear hd hv
   go_wp2
   go_ret2
   exact ⟨rfl,rfl⟩
set_option maxHeartbeats 1000000 in
theorem int_less_some7 (s:ByteArray) (t:ByteArray) (v0:Nat) (w:World) (hs:1<s.size) (hm:((s[0].toNat:Int) == 45)=true) (he:s.extract 1 s.size=t) (ht1:0<t.size) (ht:t.size≤7) (hz:((t[0].toNat:Int) == 48)=false) (HO:Hid (Lib.decFrom 0 t.data.toList=some v0)):Calls Tryz.prog 28 #[.string s,.int .i64 7] w fun e w'=>e=.returned (.tuple #[.int .i64 (-(v0:Int)),.bool true])∧w'=w:=by
 have h1:(1:Int)<(s.size:Int):=by omega
 have g2:=ne_empty7 (s:=t) (by omega)
 have h2:(t.size:Int)≤7:=by omega
 go_enter Tryz.func28,Tryz.ntmps28
 go_wp2
 go_loop [7,8] (fun n i => ∃ k v:Nat,k≤t.size∧i=.int .i64 k∧n=.int .i64 v∧Lib.decFrom 0 (t.data.toList.take k)=some v∧v<10 ^ k) (fun _ i=>t.size-(intOf i).toNat)
 case atStart=>exact ⟨0,0,Nat.zero_le _,rfl,rfl,rfl,by decide⟩
 case round =>
  obtain ⟨k,v,hk,rfl,rfl,hd,hv⟩:=hrel
  by_cases hlt:k<t.size
  ·have hv1:(v:Int)<100000000000000:=by have:=pow_small7 hv (by omega);omega
   have hv0:(0:Int)≤(v:Int):=by omega
   have hb:=byte_at7 t k hlt
   have HB:Hid (t.data.toList[k]?=some t[k]):=hb
   have HD:Hid (Lib.decFrom 0 (t.data.toList.take k)=some v):=hd
   have HV:Hid (v<10 ^ k):=hv
   clear hb hd hv
   by_cases h1:(t[k].toNat:Int)<48
   ·have hbad:=decFrom_bad7 HB.out (Or.inl (by omega)) 0
    rw [HO.out] at hbad
    cases hbad
   ·by_cases h2:57<(t[k].toNat:Int)
    ·have hbad:=decFrom_bad7 HB.out (Or.inr (by omega)) 0
     rw [HO.out] at hbad
     cases hbad
    ·go_wp2
     go_round
     case rel=>exact ⟨k+1,v*10+(t[k].toNat-48),by omega,by go_num,by go_num,decFrom_step7 HD.out HB.out (by omega) (by omega),pow_step7 HV.out (by omega)⟩
     case measure=>simp [intOf];omega
  ·have hall:Lib.decFrom 0 t.data.toList=some v:=by rw [←hd,List.take_of_length_le (by rw [←Lib.size_eq];omega)]
   rw [HO.out] at hall
   injection hall with hall
   subst hall
   have hv1:(v0:Int)<10000000000000000:=by have:=Nat.lt_of_lt_of_le hv (Nat.pow_le_pow_right (by omega) (show k≤16 by omega));omega
   clear hd hv
   go_wp2
   go_ret2
   exact ⟨rfl,rfl⟩
theorem head_of7 (s:ByteArray) (h:0<s.size):∃ r,s.data.toList=s[0] :: r:=by
 have hb:=byte_at7 s 0 h
 cases hl:s.data.toList with
 | nil=>rw [hl] at hb;cases hb
 | cons a r =>
  rw [hl] at hb
  simp only [List.getElem?_cons_zero,Option.some.injEq] at hb
  exact ⟨r,by rw [hb]⟩
def IntIs7 (s:ByteArray) (w:World) (o:Option Int):Prop:=Calls Tryz.prog 28 #[.string s,.int .i64 7] w fun e w'=>e=.returned (.tuple #[.int .i64 (o.getD 0),.bool o.isSome])∧w'=w
theorem eq_bool7 {a:UInt8} {n:Nat} (h:a.toNat=n):((a.toNat:Int) == (n:Int))=true:=by simp [h]
theorem ne_bool7 {a:UInt8} {n:Nat} (h:a.toNat≠n):((a.toNat:Int) == (n:Int))=false:=by simp;omega
theorem rint_any7 (s:ByteArray) (w:World):IntIs7 s w (numK 7 s.data.toList):=by
 rcases Nat.eq_zero_or_pos s.size with h0 | h0
 ·have hl:s.data.toList=[]:=by
   have e:=Lib.size_eq s
   cases hl:s.data.toList with
   | nil=>rfl
   | cons a b=>rw [hl,List.length_cons] at e;omega
  rw [hl,show numK 7 []=none by decide]
  exact int_empty7 s w h0
 ·obtain ⟨r,hl⟩:=head_of7 s h0
  have hsz:=Lib.size_eq s
  by_cases h1:s.size=1
  ·have hr:r=[]:=by
    rw [hl,List.length_cons] at hsz
    exact List.length_eq_zero_iff.mp (by omega)
   subst hr
   rw [hl,numK_in (by show (Lib.trimPrefix _ _).length≤7;exact Nat.le_trans (trim_len _) (by simp)),numP_one,←hl]
   cases hd:Lib.decFrom 0 s.data.toList with
   | none =>
    by_cases h48:s[0].toNat=48
    ·exact int_one_none_true7 s w h1 h0 (eq_bool7 h48) hd
    ·exact int_one_none_false7 s w h1 h0 (ne_bool7 h48) hd
   | some v =>
    by_cases h48:s[0].toNat=48
    ·exact int_one_some_true7 s v w h1 h0 (eq_bool7 h48) hd
    ·exact int_one_some_false7 s v w h1 h0 (ne_bool7 h48) hd
  ·have h2:1<s.size:=by omega
   by_cases h45:s[0].toNat=45
   ·obtain ⟨t,ht⟩:∃ t,s.extract 1 s.size=t:=⟨_,rfl⟩
    have htl:t.data.toList=r:=by
     rw [←ht,Lib.extract_data,hl]
     simp only [List.drop_succ_cons,List.drop_zero]
     exact List.take_of_length_le (by rw [hl,List.length_cons] at hsz;omega)
    have htsz:=Lib.size_eq t
    rw [htl] at htsz
    rw [hl,List.length_cons] at hsz
    have ht0:0<t.size:=by omega
    obtain ⟨r',hr'⟩:=head_of7 t ht0
    have e45:s[0]=45:=u8_eq h45
    rw [hl,e45,←htl]
    by_cases h7:t.size≤7
    ·by_cases h48:t[0].toNat=48
     ·rw [numK_in (by rw [trim_less,←Lib.size_eq];exact h7),hr',numP_lessnought _ _ h48]
      exact int_mnought7 s t w h2 (eq_bool7 h45) ht ht0 h7 (eq_bool7 h48)
     ·rw [numK_in (by rw [trim_less,←Lib.size_eq];exact h7),hr',numP_less _ _ (by rw [←hr',←Lib.size_eq];omega) h48,←hr']
      cases hd:Lib.decFrom 0 t.data.toList with
      | none=>exact int_less_none7 s t w h2 (eq_bool7 h45) ht ht0 h7 (ne_bool7 h48) hd
      | some v=>exact int_less_some7 s t v w h2 (eq_bool7 h45) ht ht0 h7 (ne_bool7 h48) hd
    ·rw [numK_out (by rw [trim_less,←Lib.size_eq];omega)]
     exact int_mlong7 s t w h2 (eq_bool7 h45) ht ht0 (by omega)
   ·by_cases h7:s.size≤7
    ·by_cases h48:s[0].toNat=48
     ·cases r with
      | nil=>rw [hl] at hsz;simp at hsz;omega
      | cons b r =>
       rw [numK_in (Nat.le_trans (trim_len _) (by rw [←hsz];exact h7)),hl,numP_nought _ _ _ h48]
       exact int_nought7 s w h2 h7 (ne_bool7 h45) (eq_bool7 h48)
     ·rw [numK_in (Nat.le_trans (trim_len _) (by rw [←hsz];exact h7)),hl,numP_more _ _ (by rw [←hl,←hsz];omega) h45 h48,←hl]
      cases hd:Lib.decFrom 0 s.data.toList with
      | none=>exact int_more_none7 s w h2 h7 (ne_bool7 h45) (ne_bool7 h48) hd
      | some v=>exact int_more_some7 s v w h2 h7 (ne_bool7 h45) (ne_bool7 h48) hd
    ·rw [numK_out (by rw [hl,trim_keep _ _ h45,←hl,←hsz];omega)]
     exact int_long7 s w h2 (by omega) (ne_bool7 h45)
end Go.Proofs.YtinebmjpdkjooaaGreatDoor
