/-
  What is read of an argument of the types api.Outline and api.Dim: where its dims and members lie, and what they hold.
-/
import Derived.Deep.Slices
import Derived.Deep.Strs
import Derived.Deep.Fields
import Derived.OwnWalk
import Derived.BigQuiet
import Derived.Shelf.Small.Strs
import Derived.Shelf.Pu.Clone
import Derived.Lib.Strings
import Derived.Deep.OwnRows
import Derived.Lib.Builder
import Derived.Test.YtfgegmpoejilnaaGreatDoorJGAF
import Derived.Test.YtfgegmpoejilnaaGreatDoorJGAG
namespace Go.Proofs.YtfgegmpoejilnaaGreatDoor
open Go Go.ChangeShapes Go.WideShapes Go.ChangeAt Go.RowKit Go.Deep
set_option maxRecDepth 100000
section
variable {H:Type} {enc:TypeId×Value→H} {w:World} {held:Bool}
theorem addr_plain {a:Addr} {k:Nat} {v:Value} (h:w.cell? (a.add k)=some v) (hk:k=0):a=⟨a.block,a.off,none⟩:=by
 subst hk
 have e:(a.add 0)=a:=by simp [Addr.add]
 rw [e] at h
 have:=World.cell?_spot h
 cases a
 simp_all
theorem plain_add (b o k:Nat):(⟨b,o,none⟩:Addr).add k=⟨b,o+k,none⟩:=by
 unfold Addr.add
 by_cases hk:k=0
 ·subst hk;simp
 ·rw [if_neg hk]
end
def NdsAt (w:World) (b o:Nat) (l:List Nd):Prop:=b<w.heap.size∧∀ k,k<l.length→w.cell? ⟨b,o+k*5,none⟩=some (.int .i64 (l.getD k noN).op)∧w.cell? ⟨b,o+k*5+1,none⟩=some (.int .i64 (l.getD k noN).n)∧w.cell? ⟨b,o+k*5+2,none⟩=some (.string (l.getD k noN).name)∧w.cell? ⟨b,o+k*5+3,none⟩=some (.int .i64 (l.getD k noN).left)∧w.cell? ⟨b,o+k*5+4,none⟩=some (.int .i64 (l.getD k noN).right)
theorem NdsAt.later {w w':World} {b o:Nat} {l:List Nd} (h:NdsAt w b o l) (hB:Below w.heap.size w w'):NdsAt w' b o l:=by
 refine ⟨Nat.lt_of_lt_of_le h.1 hB.size,fun k hk=>?_⟩
 obtain ⟨h1,h2,h3,h4,h5⟩:=h.2 k hk
 exact ⟨(hB.cell (p:=⟨b,o+k*5,none⟩) h.1).trans h1,(hB.cell (p:=⟨b,o+k*5+1,none⟩) h.1).trans h2,(hB.cell (p:=⟨b,o+k*5+2,none⟩) h.1).trans h3,(hB.cell (p:=⟨b,o+k*5+3,none⟩) h.1).trans h4,(hB.cell (p:=⟨b,o+k*5+4,none⟩) h.1).trans h5⟩
def NdsV (w:World) (A:Option Addr) (cap:Nat) (l:List Nd):Prop:=l.length≤cap∧cap≤9223372036854775807∧(l=[]∨∃ b o,A=some ⟨b,o,none⟩∧NdsAt w b o l)
theorem NdsV.later {w w':World} {A:Option Addr} {cap:Nat} {l:List Nd} (h:NdsV w A cap l) (hB:Below w.heap.size w w'):NdsV w' A cap l:=by
 obtain ⟨h1,h0,h2 | ⟨b,o,h2,h3⟩⟩:=h
 ·exact ⟨h1,h0,Or.inl h2⟩
 ·exact ⟨h1,h0,Or.inr ⟨b,o,h2,h3.later hB⟩⟩
theorem NdsV.nil (w:World) (A:Option Addr) (cap:Nat) (h:cap≤9223372036854775807):NdsV w A cap []:=⟨Nat.zero_le _,h,Or.inl rfl⟩
end Go.Proofs.YtfgegmpoejilnaaGreatDoor
namespace Go.Proofs.YtfgegmpoejilnaaGreatDoor
open Go.ChangeShapes Go.WideShapes Go.ChangeAt Go.RowKit
set_option maxRecDepth 20000
theorem isleaf1_in:EntersO 137:=fun args w=>by simp [callFunc,Tryz.func137];rfl
theorem isleaf1_any (m:Mem) (i:Int) (q:Nat) (w:World) (hq:q<w.heap.size) (h:w.cell? ⟨q,0,none⟩=some (.int .i64 i)):Calls Tryz.prog 137 #[memV m,.pointer (some ⟨q,0,none⟩)] w fun e w'=>e=.returned (.bool (m.parent == i))∧Below w.heap.size w w':=by
 unfold memV
 go_enter Tryz.func137,Tryz.ntmps137
 go_wp2_with fail
 go_ret
 exact ⟨by simp,by go_grown⟩
def ownInt (w:World) (i:Int) (T:Nat):World:=w.alloc (.cells #[.int .i64 i] T)
theorem ownInt_at (w:World) (i:Int) (T:Nat):(ownInt w i T).cell? ⟨w.heap.size,0,none⟩=some (.int .i64 i):=by unfold ownInt;simp
theorem ownInt_size (w:World) (i:Int) (T:Nat):(ownInt w i T).heap.size=w.heap.size+1:=by unfold ownInt;simp
theorem ownInt_below (w:World) (i:Int) (T:Nat):Below w.heap.size w (ownInt w i T):=by unfold ownInt;go_grown
theorem leafB_told {M:Nat→Mem} {n k:Nat} (h:(M k).formula.size≠0):leafB M n k=false:=by simp [leafB,h]
theorem leafB_parts {M:Nat→Mem} {n k:Nat} (h:(M k).formula.size=0):leafB M n k = !decide (0≤findFrom (partB M k) n 0):=by simp [leafB,h]
set_option maxHeartbeats 2000000 in
theorem isleaf_any (b o n cap i:Nat) (M:Nat→Mem) (w:World) (hn:n≤12) (hi:i<n) (hM:MemsAt w b o n M):Calls Tryz.prog 99 #[.slice (some ⟨b,o,none⟩) n cap,.int .i64 i] w fun e w'=>e=.returned (.bool (leafB M n i))∧Below w.heap.size w w':=by
 have hS:=ownInt_size w i 3
 have hB0:=ownInt_below w i 3
 have hA:=ownInt_at w i 3
 have hM0:=hM.later hB0
 have hcl:=contains_mems 137 w.heap.size isleaf1_in b o n cap M (partB M i) (ownInt w i 3) hn hM0 (fun j w' _ hw'=>isleaf1_any (M j) i w.heap.size w' (by have:=hw'.size;omega) ((hw'.cell (p:=⟨w.heap.size,0,none⟩) (by show w.heap.size<_;omega)).trans hA))
 have HB0:Hid (Below w.heap.size w (ownInt w i 3)):=hB0
 obtain ⟨-,-,-,h3⟩:=hM.2 i hi
 have hbw:=hM.1
 have hii:(i:Int)<(n:Int):=by omega
 have hn':(n:Int)≤12:=by omega
 clear hM hS hB0 hA hM0
 by_cases hf:(M i).formula.size=0
 ·have hf':(M i).formula.toList.isEmpty=true:=by rw [empty_same];simpa using hf
  have HR:Hid (leafB M n i = !decide (0≤findFrom (partB M i) n 0)):=leafB_parts hf
  clear hf
  generalize decide (0≤findFrom (partB M i) n 0)=f at hcl HR
  go_enter Tryz.func99,Tryz.ntmps99
  go_wp2_with fail
  refine hcl.mono ?_
  rintro e w1 ⟨rfl,hb1⟩
  go_wp2_with fail
  go_ret
  exact ⟨by rw [HR.out];rfl,onB HB0.out hb1⟩
 ·have hf':(M i).formula.toList.isEmpty=false:=by rw [empty_same];simpa using hf
  have HR:Hid (leafB M n i=false):=leafB_told hf
  clear hf hcl
  go_enter Tryz.func99,Tryz.ntmps99
  go_wp2_with fail
  go_ret
  exact ⟨by rw [HR.out];rfl,by go_grown⟩
def IntsAt (w:World) (A:Option Addr) (cap:Nat) (L:List Int):Prop:=L.length≤cap∧(L=[]∨∃ b,A=some ⟨b,0,none⟩∧b<w.heap.size∧∀ j,j<L.length→w.cell? ⟨b,j,none⟩=some (.int .i64 (L.getD j 0)))
theorem IntsAt.later {w w':World} {A:Option Addr} {cap:Nat} {L:List Int} (h:IntsAt w A cap L) (hB:Below w.heap.size w w'):IntsAt w' A cap L:=by
 obtain ⟨h1,h2 | ⟨b,h2,h3,h4⟩⟩:=h
 ·exact ⟨h1,Or.inl h2⟩
 ·exact ⟨h1,Or.inr ⟨b,h2,Nat.lt_of_lt_of_le h3 hB.size,fun j hj=>(hB.cell (p:=⟨b,j,none⟩) h3).trans (h4 j hj)⟩⟩
def mapI (L:List Int):List Value:=L.map (Value.int .i64)
theorem mapI_snoc (L:List Int) (x:Int):mapI (L ++ [x])=mapI L ++ [Value.int .i64 x]:=by simp [mapI]
theorem ints_of {w:World} {base e:Nat} {v:Value} {L:List Int} (h:w.ownsRow base e 1 v L.length (mapI L)):∃ A cap,v=.slice A L.length cap∧IntsAt w A cap L:=by
 rcases h.2 with ⟨rfl,h0⟩ | ⟨g,cap,cur,rfl,hb,hg,hc,_,_,_⟩
 ·exact ⟨none,0,by rw [h0],by omega,Or.inl (List.eq_nil_of_length_eq_zero h0)⟩
 ·refine ⟨_,cap,rfl,hc,Or.inr ⟨g,rfl,(Array.getElem?_eq_some_iff.1 hg).1,fun j hj=>?_⟩⟩
  have hx:=h.cells (g:=g) rfl j (.int .i64 (L.getD j 0)) (by simp [mapI,List.getD,List.getElem?_eq_getElem hj])
  have hadd:(⟨g,0,none⟩:Addr).add j=⟨g,j,none⟩:=by unfold Addr.add;split <;> simp_all
  rw [hadd] at hx
  exact hx
theorem own_later {w w':World} {base e size:Nat} {v:Value} {n:Nat} {xs:List Value} (h:w.ownsRow base e size v n xs) (hB:Below w.heap.size w w'):w'.ownsRow base e size v n xs:=by
 refine ⟨h.1,?_⟩
 rcases h.2 with h0 | ⟨g,cap,cur,rfl,hb,hg,h1⟩
 ·exact Or.inl h0
 ·exact Or.inr ⟨g,cap,cur,rfl,hb,(hB.block g (Array.getElem?_eq_some_iff.1 hg).1).trans hg,h1⟩
theorem grown_own {w wr w1:World} {e size n:Nat} {v:Value} {xs:List Value} {o:Obj} (hB:Below w.heap.size w wr) (hown:wr.ownsRow w.heap.size e size v n xs) (hgrow:(wr.alloc o).grownBy w1 v.ownBlock):Below w.heap.size w w1 :=
 (hB.alloc hB.size o).grown hgrow (by have:=hB.size;simp;omega) (fun j hj=>(hown.lt j hj).1)
theorem one_cell {wr:World} {x:Value} {T:Nat}:∀ j u,[x][j]?=some u→(wr.alloc (.cells #[x] T)).cell? ((⟨wr.heap.size,0,none⟩:Addr).add j)=some u:=by
 intro j u hj
 match j,hj with
 | 0,hj=>simp at hj;subst hj;simp [Addr.add]
theorem one_one {x:Int}:∀ u∈[Value.int .i64 x],u.oneCell'=true:=by intro u hu;simp at hu;subst hu;rfl
theorem Tryz.infoInt:(Tryz.prog.info? 3).map (fun i=>(i.zero,i.size,i.bytes))=some (some (.int .i64 0),1,8):=by kernel_rfl
theorem isdig_any (c:Int) (w:World):Calls Tryz.prog 245 #[.int .u8 c] w fun e w'=>e=.returned (.bool (digB c))∧Below w.heap.size w w':=by
 unfold digB
 by_cases h1:48≤c
 ·go_enter Tryz.func245,Tryz.ntmps245
  go_wp2
  go_ret
  exact ⟨by simp <;> omega,by go_grown⟩
 ·go_enter Tryz.func245,Tryz.ntmps245
  go_wp2
  go_ret
  exact ⟨by simp <;> omega,by go_grown⟩
theorem islet_any (c:Int) (w:World):Calls Tryz.prog 224 #[.int .u8 c] w fun e w'=>e=.returned (.bool (letB c))∧Below w.heap.size w w':=by
 unfold letB
 by_cases h1:97≤c
 ·go_enter Tryz.func224,Tryz.ntmps224
  go_wp2
  go_ret
  exact ⟨by simp <;> omega,by go_grown⟩
 ·go_enter Tryz.func224,Tryz.ntmps224
  go_wp2
  go_ret
  exact ⟨by simp <;> omega,by go_grown⟩
theorem binds_any (op:Int) (w:World):Calls Tryz.prog 209 #[.int .i64 op] w fun e w'=>e=.returned (.int .i64 (bindN op))∧Below w.heap.size w w':=by
 unfold bindN
 by_cases h3:op=3
 ·subst h3
  go_enter Tryz.func209,Tryz.ntmps209
  go_wp2
  go_ret
  exact ⟨by simp,by go_grown⟩
 by_cases h4:op=4
 ·subst h4
  go_enter Tryz.func209,Tryz.ntmps209
  go_wp2
  go_ret
  exact ⟨by simp,by go_grown⟩
 by_cases h5:op=5
 ·subst h5
  go_enter Tryz.func209,Tryz.ntmps209
  go_wp2
  go_ret
  exact ⟨by simp,by go_grown⟩
 by_cases h6:op=6
 ·subst h6
  go_enter Tryz.func209,Tryz.ntmps209
  go_wp2
  go_ret
  exact ⟨by simp,by go_grown⟩
 rw [if_neg (by omega),if_neg (by omega)]
 go_enter Tryz.func209,Tryz.ntmps209
 go_wp2
 go_ret
 exact ⟨rfl,by go_grown⟩
theorem joins_any (op:Int) (w:World):Calls Tryz.prog 190 #[.int .i64 op] w fun e w'=>e=.returned (.bool (decide (op≠1∧op≠2)))∧Below w.heap.size w w':=by
 by_cases h1:op=1
 ·subst h1
  go_enter Tryz.func190,Tryz.ntmps190
  go_wp2
  go_ret
  exact ⟨by simp,by go_grown⟩
 by_cases h2:op=2
 ·subst h2
  go_enter Tryz.func190,Tryz.ntmps190
  go_wp2
  go_ret
  exact ⟨by simp,by go_grown⟩
 go_enter Tryz.func190,Tryz.ntmps190
 go_wp2
 go_ret
 exact ⟨by simp [h1,h2],by go_grown⟩
theorem byteN_get (s:ByteArray) (k:Nat) (h:k<s.size):((s[k]'h).toNat:Int)=byteN s k:=by
 unfold byteN
 rw [List.getD,List.getElem?_eq_getElem (by simpa using h)]
 rfl
theorem lead_miss {p:Int→Bool} {t:ByteArray} {f i:Nat} (h:p (byteN t i)=false):leadTo p t (f+1) i=i:=by simp [leadTo,h]
theorem lead_hit {p:Int→Bool} {t:ByteArray} {f i:Nat} (h:p (byteN t i)=true):leadTo p t (f+1) i=leadTo p t f (i+1):=by simp [leadTo,h]
set_option maxHeartbeats 1000000 in
theorem lead_any (p:Int→Bool) (F:Nat) (hent:∀ (args:Array Value) (w:World),(callFunc F args).run Tryz.prog w=.ok (.enter F args) w) (hF:∀ (c:Int) (w:World),Calls Tryz.prog F #[.int .u8 c] w fun e w'=>e=.returned (.bool (p c))∧Below w.heap.size w w') (t:ByteArray) (w:World) (hs:t.size≤4611686018427387904):Calls Tryz.prog 247 #[.string t,.func (.func F) #[] #[]] w fun e w'=>e=.returned (.int .i64 (leadN p t))∧Below w.heap.size w w':=by
 have HF:Hid (∀ (c:Int) (w:World),Calls Tryz.prog F #[.int .u8 c] w fun e w'=>e=.returned (.bool (p c))∧Below w.heap.size w w'):=hF
 unfold leadN
 clear hF
 go_enter Tryz.func247,Tryz.ntmps247
 go_wp2_with fail
 go_loopg [8] t.size (fun g s8 wr => ∃ (k:Nat),k≤t.size∧g=t.size-k∧s8=.int .i64 k∧leadTo p t (t.size-k) k=leadTo p t t.size 0∧Below w.heap.size w wr)
 case atStart=>exact ⟨0,Nat.zero_le _,rfl,rfl,rfl,Below.refl _ _⟩
 case round =>
  obtain ⟨k,hk,rfl,rfl,hf,hBw⟩:=hrel
  have HQ:Hid (leadTo p t (t.size-k) k=leadTo p t t.size 0):=hf
  have HW:Hid (Below w.heap.size w wr):=hBw
  clear hf hBw
  by_cases hlt:k<t.size
  ·have hki:(k:Int)<(t.size:Int):=by omega
   have hs':(t.size:Int)≤4611686018427387904:=by omega
   have HSK:Hid (t.size-k=(t.size-(k+1))+1):=by show _=_;omega
   have hbd:=HF.out (byteN t k)
   have hby:=byteN_get t k hlt
   cases hb:p (byteN t k)
   ·rw [hb] at hbd
    have HK:Hid (p (byteN t k)=false):=hb
    clear hb
    generalize byteN t k=c at hbd hby
    go_wp2_with fail
    refine (hbd _).mono ?_
    rintro e w1 ⟨rfl,hb1⟩
    go_wp2_with fail
    go_ret
    exact ⟨by rw [←HQ.out,HSK.out,lead_miss HK.out];rfl,onB HW.out hb1⟩
   ·rw [hb] at hbd
    have HK:Hid (p (byteN t k)=true):=hb
    clear hb
    generalize byteN t k=c at hbd hby
    go_wp2_with fail
    refine (hbd _).mono ?_
    rintro e w1 ⟨rfl,hb1⟩
    go_wp2_with fail
    go_roundg (t.size-(k+1))
    case measure=>omega
    case rel=>exact ⟨k+1,by omega,rfl,by go_num,by rw [←HQ.out,HSK.out,lead_hit HK.out],onB HW.out hb1⟩
  ·have hke:k=t.size:=by omega
   subst hke
   go_wp2_with fail
   go_ret
   exact ⟨by rw [←HQ.out,Nat.sub_self];rfl,HW.out⟩
theorem ent_dig (args:Array Value) (w:World):(callFunc 245 args).run Tryz.prog w=.ok (.enter 245 args) w:=by simp [go_sem]
theorem ent_let (args:Array Value) (w:World):(callFunc 224 args).run Tryz.prog w=.ok (.enter 224 args) w:=by simp [go_sem]
theorem leadd_any (t:ByteArray) (w:World) (hs:t.size≤4611686018427387904):Calls Tryz.prog 247 #[.string t,.func (.func 245) #[] #[]] w fun e w'=>e=.returned (.int .i64 (leadN digB t))∧Below w.heap.size w w':=lead_any digB 245 ent_dig isdig_any t w hs
theorem leadl_any (t:ByteArray) (w:World) (hs:t.size≤4611686018427387904):Calls Tryz.prog 247 #[.string t,.func (.func 224) #[] #[]] w fun e w'=>e=.returned (.int .i64 (leadN letB t))∧Below w.heap.size w w':=lead_any letB 224 ent_let islet_any t w hs
end Go.Proofs.YtfgegmpoejilnaaGreatDoor
namespace Go.Proofs
open Go.Shelf
def Tryz.lays137_ren:Go.Shelf.Ren:=⟨fun | 137=>208 | 217=>223 | 266=>240 | n=>n,fun | 9=>9 | 5=>5 | 3=>3 | n=>n,fun | n=>n⟩
theorem Tryz.lays137:Go.Proofs.Lays.n137 Tryz.prog Tryz.lays137_ren:={
 mixed:=by kernel_rfl
 f137:=Tryz.func208.trans (congrArg some (by kernel_rfl))
 f217:=Tryz.func223.trans (congrArg some (by kernel_rfl))
 f266:=Tryz.func240.trans (congrArg some (by kernel_rfl))
 t3:=Tryz.underlying3
 a3:=Tryz.isAgg3
 z3:=Tryz.sizeOf3
 v3:=Tryz.zeroValue3
 t5:=Tryz.underlying5
 a5:=Tryz.isAgg5
 z5:=Tryz.sizeOf5
 v5:=Tryz.zeroValue5
 t9:=Tryz.underlying9
 a9:=Tryz.isAgg9
 z9:=Tryz.sizeOf9
 v9:=Tryz.zeroValue9 }
namespace YtfgegmpoejilnaaGreatDoor
open Go.ChangeShapes Go.WideShapes Go.ChangeAt Go.RowKit
theorem signI_fin:∀ c:Fin 256,Lib.indexByte [43,45,42,47] c.val.toUInt8=signI (c.val:Int):=by decide +kernel
theorem signI_eq (c:Int) (h0:0≤c) (h1:c<256):Lib.indexByte [43,45,42,47] c.toNat.toUInt8=signI c:=by
 have h:=signI_fin ⟨c.toNat,by omega⟩
 simp only at h
 rw [h,show ((c.toNat:Nat):Int)=c by omega]
theorem signix_any (c:Int) (h0:0≤c) (h1:c<256) (w:World):Calls Tryz.prog 208 #[.string ⟨#[43,45,42,47]⟩,.int .u8 c] w fun e w'=>e=.returned (.int .i64 (signI c))∧Below w.heap.size w w' :=
 (Any.strings_IndexByte Tryz.lays137 ⟨#[43,45,42,47]⟩ c w).mono fun e w' ⟨he,hw⟩=>⟨by rw [he,signI_eq c h0 h1],by rw [hw];exact Below.refl _ _⟩
theorem byteN_range (s:ByteArray) (i:Nat):0≤byteN s i∧byteN s i<256:=by
 unfold byteN
 have:=(s.data.toList.getD i 0).toNat_lt
 omega
theorem nextB_range (s:ByteArray) (i:Nat):0≤nextB s i∧nextB s i<256:=by
 unfold nextB
 split
 ·omega
 ·exact byteN_range s i
end YtfgegmpoejilnaaGreatDoor
end Go.Proofs
namespace Go.Proofs
open Go.Shelf
def Tryz.laysK_ren:Go.Shelf.Ren:=⟨fun | 25=>73 | n=>n,fun | 0=>0 | 3=>3 | 4=>4 | 5=>5 | 9=>9 | 37=>172 | 47=>173 | n=>n,fun | n=>n⟩
theorem Tryz.laysK:Go.Proofs.LaysPu.n25 Tryz.prog Tryz.laysK_ren:={
 mixed:=by kernel_rfl
 f25:=Tryz.func73.trans (congrArg some (by kernel_rfl))
 t0:=Tryz.underlying0
 a0:=Tryz.isAgg0
 z0:=Tryz.sizeOf0
 v0:=Tryz.zeroValue0
 i0:=by kernel_rfl
 t3:=Tryz.underlying3
 a3:=Tryz.isAgg3
 z3:=Tryz.sizeOf3
 v3:=Tryz.zeroValue3
 i3:=by kernel_rfl
 t4:=Tryz.underlying4
 a4:=Tryz.isAgg4
 z4:=Tryz.sizeOf4
 v4:=Tryz.zeroValue4
 i4:=by kernel_rfl
 t5:=Tryz.underlying5
 a5:=Tryz.isAgg5
 z5:=Tryz.sizeOf5
 v5:=Tryz.zeroValue5
 i5:=by kernel_rfl
 t9:=Tryz.underlying9
 a9:=Tryz.isAgg9
 z9:=Tryz.sizeOf9
 v9:=Tryz.zeroValue9
 i9:=by kernel_rfl
 t37:=Tryz.underlying172
 a37:=Tryz.isAgg172
 z37:=Tryz.sizeOf172
 v37:=Tryz.zeroValue172
 i37:=by kernel_rfl
 t47:=Tryz.underlying173
 a47:=Tryz.isAgg173
 z47:=Tryz.sizeOf173
 v47:=Tryz.zeroValue173
 i47:=by kernel_rfl }
namespace YtfgegmpoejilnaaGreatDoor
open Go.ChangeShapes Go.WideShapes Go.ChangeAt Go.RowKit
theorem sclone_any (s:ByteArray) (w:World) (hs:s.size≤281474976710656):Calls Tryz.prog 42 #[.string s] w fun e w'=>e=.returned (.string s)∧Below w.heap.size w w':=by
 have h:=AnyPu.stringslite_Clone Tryz.laysK s w hs
 go_enter Tryz.func42,Tryz.ntmps42
 go_wp2_with fail
 refine Calls.mono h ?_
 rintro e w1 ⟨rfl,hb1⟩
 go_wp2_with fail
 go_ret
 exact ⟨rfl,hb1⟩
end YtfgegmpoejilnaaGreatDoor
end Go.Proofs
namespace Go.Proofs.YtfgegmpoejilnaaGreatDoor
def numTo (D:Nat→Dm) (P:Nat→Nat):Nat→Nat
 | 0=>0
 | k+1=>numTo D P k*(D k).n+P k
theorem numTo_lt {D:Nat→Dm} {P:Nat→Nat} (k:Nat) (h:∀ j,j<k→P j<(D j).n):numTo D P k<prodN D k:=by
 induction k with
 | zero=>exact Nat.one_pos
 | succ k ih =>
  have h1:=ih fun j hj=>h j (by omega)
  have h2:=h k (by omega)
  rw [numTo,prodN]
  have h3:(numTo D P k+1)*(D k).n≤prodN D k*(D k).n:=Nat.mul_le_mul_right _ h1
  rw [Nat.add_mul] at h3
  omega
def restAt (D:Nat→Dm) (m n:Nat):Nat→Nat
 | 0=>n
 | r+1=>restAt D m n r / (D (m-1-r)).n
def digitAt (D:Nat→Dm) (m n k:Nat):Nat:=restAt D m n (m-1-k) % (D k).n
theorem restAt_num {D:Nat→Dm} {P:Nat→Nat} {m:Nat} (h:∀ j,j<m→P j<(D j).n) (r:Nat):r≤m→restAt D m (numTo D P m) r=numTo D P (m-r):=by
 induction r with
 | zero=>intro _;rfl
 | succ r ih =>
  intro hr
  rw [restAt,ih (by omega)]
  have e:m-r=(m-1-r)+1:=by omega
  rw [e,numTo,show m-(r+1)=m-1-r by omega]
  have hp:=h (m-1-r) (by omega)
  rw [Nat.mul_comm,Nat.mul_add_div (by omega),Nat.div_eq_of_lt hp,Nat.add_zero]
theorem digit_num {D:Nat→Dm} {P:Nat→Nat} {m:Nat} (h:∀ j,j<m→P j<(D j).n) {k:Nat} (hk:k<m):digitAt D m (numTo D P m) k=P k:=by
 unfold digitAt
 rw [restAt_num h _ (by omega),show m-(m-1-k)=k+1 by omega,numTo]
 have hp:=h k hk
 rw [Nat.mul_comm,Nat.mul_add_mod,Nat.mod_eq_of_lt hp]
theorem num_digit {D:Nat→Dm} {m n:Nat} (hn:n<prodN D m) (k:Nat):k≤m→numTo D (digitAt D m n) k=restAt D m n (m-k):=by
 have hlt:∀ r,r≤m→restAt D m n r<prodN D (m-r):=by
  intro r
  induction r with
  | zero=>intro _;exact hn
  | succ r ih =>
   intro hr
   have h1:=ih (by omega)
   have e:m-r=(m-1-r)+1:=by omega
   rw [e,prodN] at h1
   rw [restAt,show m-(r+1)=m-1-r by omega]
   exact Nat.div_lt_of_lt_mul (by rw [Nat.mul_comm];exact h1)
 induction k with
 | zero =>
  intro _
  have h1:=hlt m (Nat.le_refl _)
  rw [Nat.sub_self] at h1
  have h2:prodN D 0=1:=rfl
  rw [numTo,Nat.sub_zero]
  omega
 | succ k ih =>
  intro hk
  rw [numTo,ih (by omega)]
  have e:m-k=(m-1-k)+1:=by omega
  rw [e,restAt,show m-1-(m-1-k)=k by omega,show m-(k+1)=m-1-k by omega]
  unfold digitAt
  have:=Nat.div_add_mod (restAt D m n (m-1-k)) (D k).n
  rw [Nat.mul_comm] at this
  exact this
theorem num_back {D:Nat→Dm} {m n:Nat} (hn:n<prodN D m):numTo D (digitAt D m n) m=n:=by
 rw [num_digit hn m (Nat.le_refl _),Nat.sub_self];rfl
theorem digit_lt {D:Nat→Dm} {m n k:Nat} (h:1≤(D k).n):digitAt D m n k<(D k).n:=Nat.mod_lt _ h
def outP (D:Nat→Dm) (L:List Int) (i:Nat):Bool:=decide (L.getD i 0<0) || decide (((D i).n:Int)≤L.getD i 0)
def shapeErr (D:Nat→Dm) (n:Nat) (L:List Int):Int:=if L.length≠n then 3 else if 0≤findFrom (outP D L) n 0 then 1 else 0
def placeErr (D:Nat→Dm) (n:Nat) (L:List Int):Int:=if (allErr D n).2.2≠0 then (allErr D n).2.2 else shapeErr D n L
theorem sh0 {D:Nat→Dm} {n:Nat} {L:List Int} (h:L.length≠n):shapeErr D n L=3:=by unfold shapeErr;rw [if_pos h]
theorem sh1 {D:Nat→Dm} {n:Nat} {L:List Int} (h:L.length=n) (h1:0≤findFrom (outP D L) n 0):shapeErr D n L=1:=by unfold shapeErr;rw [if_neg (by simpa using h),if_pos h1]
theorem sh2 {D:Nat→Dm} {n:Nat} {L:List Int} (h:L.length=n) (h1 : ¬ 0≤findFrom (outP D L) n 0):shapeErr D n L=0:=by unfold shapeErr;rw [if_neg (by simpa using h),if_neg h1]
theorem pe0 {D:Nat→Dm} {n:Nat} {L:List Int} (h:(allErr D n).2.2≠0):placeErr D n L=(allErr D n).2.2:=by unfold placeErr;rw [if_pos h]
theorem pe1 {D:Nat→Dm} {n:Nat} {L:List Int} (h:(allErr D n).2.2=0):placeErr D n L=shapeErr D n L:=by unfold placeErr;rw [if_neg (by simpa using h)]
structure InO (D:Nat→Dm) (n:Nat) (L:List Int):Prop where
 right:(allErr D n).2.2=0
 len:L.length=n
 lo:∀ i,i<n→0≤L.getD i 0
 hi:∀ i,i<n→L.getD i 0<((D i).n:Int)
theorem allErr_some {D:Nat→Dm} {n:Nat} (h:(allErr D n).2.2=0):1≤n∧n≤4∧prodN D n≤3000∧∀ i,i<n→1≤(D i).n∧(D i).n≤12:=by
 have h4:=allErr_right h
 unfold allErr at h
 split at h
 ·simp at h
 ·split at h
  ·simp at h
  ·split at h
   ·rename_i h3;exact absurd h h3
   ·split at h
    ·simp at h
    ·rename_i a b c d
     exact ⟨by omega,by omega,by omega,fun i hi=>⟨(dimErr_right (h4.2 i hi)).2.1,(dimErr_right (h4.2 i hi)).2.2.1⟩⟩
theorem inO_of {D:Nat→Dm} {n:Nat} {L:List Int} (h:placeErr D n L=0):InO D n L:=by
 unfold placeErr at h
 split at h
 ·rename_i h1;exact absurd h h1
 ·rename_i h1
  unfold shapeErr at h
  split at h
  ·cases h
  ·split at h
   ·cases h
   ·rename_i h2 h3
    have hn:∀ i,i<n→outP D L i=false:=fun i hi=>by
     rcases findFrom_cases (outP D L) n 0 with ⟨_,h4⟩ | ⟨k,h4,_⟩
     ·exact h4 i (Nat.zero_le _) (by omega)
     ·rw [h4] at h3;omega
    exact ⟨by simpa using h1,by simpa using h2,fun i hi=>by have:=hn i hi;simp [outP,-List.getD_eq_getElem?_getD] at this;omega,fun i hi=>by have:=hn i hi;simp [outP,-List.getD_eq_getElem?_getD] at this;omega⟩
theorem InO.ok {D:Nat→Dm} {n:Nat} {L:List Int} (h:InO D n L):placeErr D n L=0:=by
 rw [pe1 h.right,sh2 h.len]
 rw [findFrom_none]
 ·decide
 ·intro j _ hj
  have h1:=h.lo j (by omega)
  have h2:=h.hi j (by omega)
  simp [outP,-List.getD_eq_getElem?_getD]
  omega
def numI (D:Nat→Dm) (L:List Int):Nat→Int
 | 0=>0
 | k+1=>numI D L k*((D k).n:Int)+L.getD k 0
theorem numI_nat {D:Nat→Dm} {L:List Int} (k:Nat) (h:∀ i,i<k→0≤L.getD i 0):numI D L k=(numTo D (fun i=>(L.getD i 0).toNat) k:Int):=by
 induction k with
 | zero=>rfl
 | succ k ih =>
  have:=h k (by omega)
  rw [numI,numTo,ih fun i hi=>h i (by omega),Int.natCast_add,Int.natCast_mul,Int.toNat_of_nonneg this]
theorem prodN_small {D:Nat→Dm} {k:Nat} (h:∀ j,j<k→(D j).n≤12) (hk:k≤4):prodN D k≤20736:=by
 have h1:=prodN_le h
 have h2:12 ^ k≤12 ^ 4:=Nat.pow_le_pow_right (by decide) hk
 have h3:(12:Nat) ^ 4=20736:=by decide
 omega
theorem numI_bound {D:Nat→Dm} {n:Nat} {L:List Int} (h:InO D n L) {k:Nat} (hk:k≤n):0≤numI D L k∧numI D L k<(prodN D k:Int)∧prodN D k≤20736:=by
 obtain ⟨_,h4,_,hd⟩:=allErr_some h.right
 rw [numI_nat k fun i hi=>h.lo i (by omega)]
 have h1:=numTo_lt (D:=D) (P:=fun i=>(L.getD i 0).toNat) k fun j hj=>by
  have:=h.lo j (by omega)
  have:=h.hi j (by omega)
  omega
 refine ⟨by omega,by omega,prodN_small (fun j hj=>(hd j (by omega)).2) (by omega)⟩
def numV (D:Nat→Dm) (n:Nat) (L:List Int):Int:=if placeErr D n L=0 then numI D L n else 0
def placeL (D:Nat→Dm) (n x:Nat):List Int:=(List.range n).map fun j=>(digitAt D n x j:Int)
theorem placeL_len (D:Nat→Dm) (n x:Nat):(placeL D n x).length=n:=by simp [placeL]
theorem placeL_at {D:Nat→Dm} {n x i:Nat} (h:i<n):(placeL D n x).getD i 0=(digitAt D n x i:Int):=by
 simp [placeL,List.getD,h]
theorem placeL_in {D:Nat→Dm} {n x:Nat} (h:(allErr D n).2.2=0):InO D n (placeL D n x):=by
 obtain ⟨_,_,_,hd⟩:=allErr_some h
 exact ⟨h,placeL_len ..,fun i hi=>by rw [placeL_at hi];omega,fun i hi=>by rw [placeL_at hi];have:=digit_lt (D:=D) (m:=n) (n:=x) (k:=i) (hd i hi).1;omega⟩
theorem numTo_same {D:Nat→Dm} {P Q:Nat→Nat} (k:Nat) (h:∀ i,i<k→P i=Q i):numTo D P k=numTo D Q k:=by
 induction k with
 | zero=>rfl
 | succ k ih=>rw [numTo,numTo,ih fun i hi=>h i (by omega),h k (by omega)]
theorem num_place {D:Nat→Dm} {n x:Nat} (h:(allErr D n).2.2=0) (hx:x<prodN D n):numI D (placeL D n x) n=(x:Int):=by
 rw [numI_nat n (placeL_in h).lo,numTo_same (Q:=digitAt D n x) n fun i hi=>by rw [placeL_at hi];omega,num_back hx]
theorem place_num {D:Nat→Dm} {n:Nat} {L:List Int} (h:InO D n L):placeL D n (numI D L n).toNat=L:=by
 have h1:∀ j,j<n→(L.getD j 0).toNat<(D j).n:=fun j hj=>by have:=h.lo j hj;have:=h.hi j hj;omega
 rw [numI_nat n h.lo,Int.toNat_natCast]
 apply List.ext_getElem
 ·rw [placeL_len,h.len]
 ·intro i h2 h3
  rw [placeL_len] at h2
  have h4:=digit_num h1 h2
  have h5:=h.lo i h2
  have h6:L.getD i 0=L[i]:=by simp [List.getD,h3]
  simp only [placeL,List.getElem_map,List.getElem_range]
  rw [h4,←h6]
  omega
end Go.Proofs.YtfgegmpoejilnaaGreatDoor
namespace Go.Proofs.YtfgegmpoejilnaaGreatDoor
open Go.ChangeShapes Go.WideShapes Go.ChangeAt Go.RowKit
set_option maxRecDepth 20000
def PlAt (w:World) (A:Option Addr) (cap:Nat) (L:List Int):Prop:=L.length≤cap∧(L=[]∨∃ b o,A=some ⟨b,o,none⟩∧b<w.heap.size∧∀ j,j<L.length→w.cell? ⟨b,o+j,none⟩=some (.int .i64 (L.getD j 0)))
theorem PlAt.later {w w':World} {A:Option Addr} {cap:Nat} {L:List Int} (h:PlAt w A cap L) (hB:Below w.heap.size w w'):PlAt w' A cap L:=by
 obtain ⟨h1,h2 | ⟨b,o,h2,h3,h4⟩⟩:=h
 ·exact ⟨h1,Or.inl h2⟩
 ·exact ⟨h1,Or.inr ⟨b,o,h2,Nat.lt_of_lt_of_le h3 hB.size,fun j hj=>(hB.cell (p:=⟨b,o+j,none⟩) h3).trans (h4 j hj)⟩⟩
theorem PlAt.nil (w:World) (A:Option Addr) (cap:Nat):PlAt w A cap []:=⟨Nat.zero_le _,Or.inl rfl⟩
def NewA (N:Nat) (A:Option Addr):Prop := ∀ b o,A=some ⟨b,o,none⟩→N≤b
theorem NewA.none (N:Nat):NewA N none:=fun _ _ h=>by cases h
theorem NewA.le {N M:Nat} {A:Option Addr} (h:NewA N A) (hm:M≤N):NewA M A:=fun b o e=>Nat.le_trans hm (h b o e)
def IntB (w:World) (g:Nat) (L:List Int):Prop:=w.heap[g]?=some (.cells (L.map (Value.int .i64)).toArray 3 (0,0))
theorem IntB.lt {w:World} {g:Nat} {L:List Int} (h:IntB w g L):g<w.heap.size:=(Array.getElem?_eq_some_iff.1 h).1
theorem IntB.cell {w:World} {g:Nat} {L:List Int} (h:IntB w g L) {j:Nat} (hj:j<L.length):w.cell? ⟨g,j,none⟩=some (.int .i64 (L.getD j 0)):=by
 rw [Lib.cell_of_heap h]
 simp [List.getD,hj]
theorem IntB.frozen {w:World} {g:Nat} {L:List Int} (h:IntB w g L) (j:Nat):w.frozen? ⟨g,j,none⟩=false:=Lib.frozen_of_heap h j
theorem IntB.later {w w':World} {g:Nat} {L:List Int} (h:IntB w g L) (hB:Below w.heap.size w w'):IntB w' g L:=(hB.block g h.lt).trans h
theorem IntB.set {w:World} {g:Nat} {L:List Int} (h:IntB w g L) (j:Nat) (x:Int):IntB (w.setCell ⟨g,j,none⟩ (.int .i64 x)) g (L.set j x):=by
 unfold IntB at *
 have e:(L.set j x).map (Value.int .i64)=(L.map (Value.int .i64)).set j (.int .i64 x):=by rw [List.map_set]
 simp [World.setCell,Array.getElem?_modify,h,e]
theorem IntB.pl {w:World} {g:Nat} {L:List Int} (h:IntB w g L):PlAt w (some ⟨g,0,none⟩) L.length L :=
 ⟨Nat.le_refl _,Or.inr ⟨g,0,rfl,h.lt,fun j hj=>by rw [Nat.zero_add];exact h.cell hj⟩⟩
theorem made_ints (n:Nat):madeCells #[.int .i64 0] n=((List.replicate n (0:Int)).map (Value.int .i64)).toArray:=by
 apply Array.ext
 ·simp [madeCells]
 ·intro i h1 h2
  simp [madeCells,Nat.mod_one]
theorem IntB.made (w:World) (n:Nat):IntB (w.alloc (.cells (madeCells #[.int .i64 0] n) 3)) w.heap.size (List.replicate n 0):=by
 unfold IntB
 rw [made_ints]
 exact heap_alloc_new w _
theorem Tryz.infoIntP:(Tryz.prog.info? 3).map (fun i=>(i.zero,i.size,i.bytes))=some (some (.int .i64 0),1,8):=by kernel_rfl
theorem checko_any (A0:Option Addr) (cap n:Nat) (D:Nat→Dm) (A:Nat→Option Addr) (C:Nat→Nat) (w:World) (hM:DimsV w A0 cap n D A C):Calls Tryz.prog 67 #[.agg #[.slice A0 n cap]] w fun e w'=>e=.returned (errV (allErr D n).2.2)∧Below w.heap.size w w':=by
 have hB0:=ownOut_below w A0 n cap 24
 have h:=all_any A0 cap n D A C (ownOut w A0 n cap 24) (hM.later hB0)
 have HB0:Hid (Below w.heap.size w (ownOut w A0 n cap 24)):=hB0
 clear hM hB0
 generalize errV (allErr D n).2.2=v at h
 generalize (allErr D n).1=x at h
 generalize (allErr D n).2.1=y at h
 go_enter Tryz.func67,Tryz.ntmps67
 go_wp2_with fail
 refine h.mono ?_
 rintro e w1 ⟨rfl,hb1⟩
 go_wp2_with fail
 go_ret
 exact ⟨rfl,onB HB0.out hb1⟩
def cellsV (D:Nat→Dm) (n:Nat):Int:=if (allErr D n).2.2=0 then (prodN D n:Int) else 0
set_option maxHeartbeats 2000000 in
theorem pcells_any (A0:Option Addr) (cap n:Nat) (D:Nat→Dm) (A:Nat→Option Addr) (C:Nat→Nat) (w:World) (hM:DimsV w A0 cap n D A C):Calls Tryz.prog 50 #[.agg #[.slice A0 n cap]] w fun e w'=>e=.returned (.tuple #[.int .i64 (cellsV D n),errV (allErr D n).2.2])∧Below w.heap.size w w':=by
 have hB0:=ownOut_below w A0 n cap 24
 have h:=checko_any A0 cap n D A C (ownOut w A0 n cap 24) (hM.later hB0)
 have HB0:Hid (Below w.heap.size w (ownOut w A0 n cap 24)):=hB0
 have HM:Hid (DimsV w A0 cap n D A C):=hM
 clear hM hB0
 by_cases he:(allErr D n).2.2=0
 ·obtain ⟨hn1,hn4,-,hd⟩:=allErr_some he
  have HV:Hid (cellsV D n=(prodN D n:Int)):=by show _=_;unfold cellsV;rw [if_pos he]
  have HE:Hid (errV (allErr D n).2.2=.nilIface):=by show _=_;rw [he];rfl
  rw [he,errV_zero] at h
  have HD:Hid (∀ i,i<n→1≤(D i).n∧(D i).n≤12):=hd
  have hn':(n:Int)≤4:=by omega
  clear he hd
  go_enter Tryz.func50,Tryz.ntmps50
  go_wp2_with fail
  refine h.mono ?_
  rintro e w1 ⟨rfl,hb1⟩
  have hB:Below w.heap.size w w1:=onB HB0.out hb1
  have h2:w1.cell? ⟨w.heap.size,0,none⟩=some (.slice A0 n cap):=(hb1.cell (p:=⟨w.heap.size,0,none⟩) (by show w.heap.size<_;rw [ownOut_size];omega)).trans (ownOut_at ..)
  obtain ⟨hcap,h0 | ⟨b,o,rfl,hMs⟩⟩:=HM.out.later hB
  ·omega
  have HMs:Hid (DimsAt w1 b o n D A C):=hMs
  have HB:Hid (Below w.heap.size w w1):=hB
  clear hb1 h hMs hB
  go_wp2_with fail
  go_loopg [5,16] n (fun g s5 s16 wr => ∃ (k:Nat),k≤n∧g=n-k∧s16=.int .i64 k∧s5=.int .i64 (prodN D k)∧Below w1.heap.size w1 wr)
  case atStart=>exact ⟨0,Nat.zero_le _,rfl,rfl,rfl,Below.refl _ _⟩
  case round =>
   obtain ⟨k,hk,rfl,rfl,rfl,hBw⟩:=hrel
   by_cases hlt:k<n
   ·obtain ⟨h0,h1,h3,-⟩:=(HMs.out.later hBw).2 k hlt
    have hki:(k:Int)<(n:Int):=by omega
    have hp1:prodN D (k+1)≤20736:=prod_small (fun j hj=>(HD.out j (by omega)).2) (by omega)
    have hp2:(prodN D (k+1):Int)=(prodN D k:Int)*((D k).n:Int):=by rw [prodN];exact Int.natCast_mul _ _
    have hp3:0≤(prodN D k:Int)*((D k).n:Int):=by omega
    have hp4:(prodN D k:Int)*((D k).n:Int)≤20736:=by omega
    have HW:Hid (Below w1.heap.size w1 wr):=hBw
    have HP:Hid ((prodN D (k+1):Int)=(prodN D k:Int)*((D k).n:Int)):=hp2
    clear hBw hp1 hp2
    go_wp2_with fail
    go_roundg (n-(k+1))
    case measure=>omega
    case rel=>exact ⟨k+1,by omega,rfl,by go_num,by rw [HP.out],onB HW.out (by go_grown)⟩
   ·have hke:k=n:=by omega
    subst hke
    go_wp2_with fail
    go_ret2
    rw [HV.out,HE.out]
    exact ⟨rfl,onB HB.out hBw⟩
 ·have HV:Hid (cellsV D n=0):=by show _=_;unfold cellsV;rw [if_neg he]
  have HE:Hid (errV (allErr D n).2.2=.iface 95 (.int .i64 (allErr D n).2.2)):=errV_some he
  rw [errV_some he] at h
  clear he
  generalize (allErr D n).2.2=c at h HE
  go_enter Tryz.func50,Tryz.ntmps50
  go_wp2_with fail
  refine h.mono ?_
  rintro e w1 ⟨rfl,hb1⟩
  go_wp2_with fail
  go_ret2
  rw [HV.out,HE.out]
  exact ⟨rfl,onB HB0.out hb1⟩
theorem pl_ints {w:World} {A:Option Addr} {cap:Nat} {L:List Int} (h:IntsAt w A cap L):PlAt w A cap L:=by
 obtain ⟨h1,h2 | ⟨b,h2,h3,h4⟩⟩:=h
 ·exact ⟨h1,Or.inl h2⟩
 ·exact ⟨h1,Or.inr ⟨b,0,h2,h3,fun j hj=>by rw [Nat.zero_add];exact h4 j hj⟩⟩
set_option maxHeartbeats 1000000 in
theorem indexm_pl (F:Nat) (cap:Array Value) (p:Int→Bool) (hent:∀ (args:Array Value) (w:World),(callFunc F args).run Tryz.prog w=.ok (.enter F args) w) (A:Option Addr) (c:Nat) (L:List Int) (w:World) (hn:L.length≤1048576) (hL:PlAt w A c L)
  (hF:∀ (x:Int) (w':World),x∈L→Below w.heap.size w w'→Calls Tryz.prog F (#[.int .i64 x] ++ cap) w' fun e w''=>e=.returned (.bool (p x))∧Below w'.heap.size w' w'') :
  Calls Tryz.prog 111 #[.slice A L.length c,.func (.func F) #[] cap] w fun e w'=>e=.returned (.int .i64 (findFrom (fun j=>p (L.getD j 0)) L.length 0))∧Below w.heap.size w w':=by
 obtain ⟨hc,h0 | ⟨b,o,rfl,hbw,hcell⟩⟩:=hL
 ·subst h0
  simp only [List.length_nil]
  go_enter Tryz.func111,Tryz.ntmps111
  go_wp2_with fail
  refine wp_loop_rounds 1 ?_
  rw [rounds_succ]
  go_wp2_with fail
  go_ret
  exact ⟨rfl,Below.refl _ _⟩
 ·have HC:Hid (∀ j,j<L.length→w.cell? ⟨b,o+j,none⟩=some (.int .i64 (L.getD j 0))):=hcell
  have HF:Hid (∀ (x:Int) (w':World),x∈L→Below w.heap.size w w'→Calls Tryz.prog F (#[.int .i64 x] ++ cap) w' fun e w''=>e=.returned (.bool (p x))∧Below w'.heap.size w' w''):=hF
  obtain ⟨pj,hpj⟩:∃ pj:Nat→Bool,pj=fun j=>p (L.getD j 0):=⟨_,rfl⟩
  have HP:Hid (∀ j,pj j=p (L.getD j 0)):=fun j=>by rw [hpj]
  rw [←hpj]
  obtain ⟨n,hnn⟩:∃ n,L.length=n:=⟨_,rfl⟩
  have HNn:Hid (L.length=n):=hnn
  rw [hnn] at hn hc HC ⊢
  clear hcell hpj hnn hF
  go_enter Tryz.func111,Tryz.ntmps111
  go_wp2_with fail
  go_loopg [8] n (fun g s8 wr => ∃ (k:Nat),k≤n∧g=n-k∧s8=.int .i64 k∧findFrom pj (n-k) k=findFrom pj n 0∧Below w.heap.size w wr)
  case atStart=>exact ⟨0,Nat.zero_le _,rfl,rfl,rfl,Below.refl _ _⟩
  case round =>
   obtain ⟨k,hk,rfl,rfl,hf,hBw⟩:=hrel
   have HQ:Hid (findFrom pj (n-k) k=findFrom pj n 0):=hf
   have HW:Hid (Below w.heap.size w wr):=hBw
   clear hf
   by_cases hlt:k<n
   ·have hki:(k:Int)<(n:Int):=by omega
    have hcx:=(hBw.cell (p:=⟨b,o+k,none⟩) hbw).trans (HC.out k hlt)
    have hn':(n:Int)≤1048576:=by omega
    have hpk:=HP.out k
    have HSK:Hid (n-k=(n-(k+1))+1):=by show _=_;omega
    have hbd:=HF.out (L.getD k 0) wr (by rw [List.getD_eq_getElem?_getD,List.getElem?_eq_getElem (by rw [HNn.out];exact hlt)];exact List.getElem_mem _) hBw
    rw [←hpk] at hbd
    generalize L.getD k 0=x at hcx hpk hbd
    clear hBw hpk
    cases hb:pj k
    ·rw [hb] at hbd
     have HK:Hid (pj k=false):=hb
     clear hb
     go_wp2_with fail
     refine hbd.mono ?_
     rintro e w1 ⟨rfl,hb1⟩
     go_wp2_with fail
     go_roundg (n-(k+1))
     case measure=>omega
     case rel=>exact ⟨k+1,by omega,rfl,by go_num,by rw [←HQ.out,HSK.out,findFrom_miss _ HK.out],onB HW.out hb1⟩
    ·rw [hb] at hbd
     have HK:Hid (pj k=true):=hb
     clear hb
     go_wp2_with fail
     refine hbd.mono ?_
     rintro e w1 ⟨rfl,hb1⟩
     go_wp2_with fail
     go_ret
     exact ⟨by rw [←HQ.out,HSK.out,findFrom_hit _ HK.out];rfl,onB HW.out hb1⟩
   ·have hke:k=n:=by omega
    subst hke
    go_wp2_with fail
    go_ret
    exact ⟨by rw [←HQ.out,Nat.sub_self];rfl,HW.out⟩
theorem contm_pl (F:Nat) (cap:Array Value) (p:Int→Bool) (hent:∀ (args:Array Value) (w:World),(callFunc F args).run Tryz.prog w=.ok (.enter F args) w) (A:Option Addr) (c:Nat) (L:List Int) (w:World) (hn:L.length≤1048576) (hL:PlAt w A c L)
  (hF:∀ (x:Int) (w':World),x∈L→Below w.heap.size w w'→Calls Tryz.prog F (#[.int .i64 x] ++ cap) w' fun e w''=>e=.returned (.bool (p x))∧Below w'.heap.size w' w'') :
  Calls Tryz.prog 77 #[.slice A L.length c,.func (.func F) #[] cap] w fun e w'=>e=.returned (.bool (decide (0≤findFrom (fun j=>p (L.getD j 0)) L.length 0)))∧Below w.heap.size w w':=by
 have h:=indexm_pl F cap p hent A c L w hn hL hF
 generalize findFrom (fun j=>p (L.getD j 0)) L.length 0=r at *
 clear hF hL
 go_enter Tryz.func77,Tryz.ntmps77
 go_wp2_with fail
 refine h.mono ?_
 rintro e w1 ⟨rfl,hb1⟩
 go_wp2_with fail
 go_ret
 exact ⟨rfl,hb1⟩
end Go.Proofs.YtfgegmpoejilnaaGreatDoor
namespace Go.Proofs.YtfgegmpoejilnaaGreatDoor
open Go.ChangeShapes Go.WideShapes Go.ChangeAt Go.RowKit
def joinP (blank:Bool) (ka kb:Int) (r:Int×Int):Int×Int:=if ka=2∨kb=2 then (2,0) else if blank=true then (0,0) else r
def JoinsTo (fb fo:Nat) (ka na kb nb k n:Int) (er:Value):Prop := ∀ (w:World),Calls Tryz.prog 159 #[.agg #[.int .i64 ka,.int .i64 na],.agg #[.int .i64 kb,.int .i64 nb],.func (.func fb) #[] #[],.func (.func fo) #[] #[]] w fun e w'=>e=.returned (.tuple #[.agg #[.int .i64 k,.int .i64 n],er])∧Below w.heap.size w w'
def OpTo (f:Nat) (ka na kb nb k n:Int) (er:Value):Prop := ∀ (w:World),Calls Tryz.prog f #[.agg #[.int .i64 ka,.int .i64 na],.agg #[.int .i64 kb,.int .i64 nb]] w fun e w'=>e=.returned (.tuple #[.agg #[.int .i64 k,.int .i64 n],er])∧Below w.heap.size w w'
theorem joins_yes (fb fo:Nat) (p:Int→Int→Bool) (he:Enters fb) (hp:Blank fb p) (heo:Enters fo) (ka na kb nb:Int) (ha:good ka na=true) (hb:good kb nb=true) (r:Int×Int) (ho:Makes fo na nb r) :
  JoinsTo fb fo ka na kb nb (joinP (p ka kb) ka kb r).1 (joinP (p ka kb) ka kb r).2 .nilIface:=by
 intro w
 unfold joinP
 by_cases hf:ka=2∨kb=2
 ·rw [if_pos hf]
  exact join_fault _ _ ka na kb nb w ha hb (by simp;exact hf)
 ·rw [if_neg hf]
  have hff:((fun k:Int=>k == 2) ka || (fun k:Int=>k == 2) kb)=false:=by simp;omega
  cases hpp:p ka kb
  ·rw [if_neg (by simp)]
   exact join_made fb fo p he hp heo ka na kb nb w ha hb r ho hff hpp
  ·rw [if_pos rfl]
   exact join_blank fb p he hp _ ka na kb nb w ha hb hff hpp
theorem good_bd {k n:Int} (h:good k n=true) : -1000000000000≤n∧n≤1000000000000:=by simp [good] at h;omega
def plusP (ka na kb nb:Int):Int×Int:=joinP (!(ka != 0 || kb != 0)) ka kb (ofP (na+nb))
def minusP (ka na kb nb:Int):Int×Int:=joinP (!(ka != 0 || kb != 0)) ka kb (ofP (na-nb))
def timesP (ka na kb nb:Int):Int×Int:=joinP (ka == 0 || kb == 0) ka kb (ofP (na*nb))
def overP (ka na kb nb:Int):Int×Int:=joinP (ka == 0 || kb == 0) ka kb (quoP na nb)
theorem add_of (ka na kb nb k n:Int) (er:Value) (h:JoinsTo 160 162 ka na kb nb k n er):OpTo 125 ka na kb nb k n er:=by
 intro w
 unfold JoinsTo at h
 go_enter Tryz.func125,Tryz.ntmps125
 go_wp2_with fail
 refine (h _).mono ?_
 rintro e w1 ⟨rfl,hb⟩
 have hB:Below w.heap.size w w1:=Below.trans (by go_grown) (hb.mono (by simp;omega))
 obtain ⟨hc,hf⟩:=bcell hb
 have hz:=bsize hb
 simp at hz
 go_wp2_with fail
 refine bodyPost_ret (v:=.tuple #[.agg #[.int .i64 k,.int .i64 n],er]) (by simp [results,Tryz.results125,go_sem,hc]) rfl ⟨rfl,?_⟩
 go_grown
theorem add_yes (ka na kb nb:Int) (ha:good ka na=true) (hb:good kb nb=true):OpTo 125 ka na kb nb (plusP ka na kb nb).1 (plusP ka na kb nb).2 .nilIface:=by
 obtain ⟨h1,h2⟩:=good_bd ha
 obtain ⟨h3,h4⟩:=good_bd hb
 exact add_of _ _ _ _ _ _ _ (joins_yes _ _ _ both_in both_any plus_in ka na kb nb ha hb _ (plus_any na nb h1 h2 h3 h4))
theorem sub_of (ka na kb nb k n:Int) (er:Value) (h:JoinsTo 160 161 ka na kb nb k n er):OpTo 124 ka na kb nb k n er:=by
 intro w
 unfold JoinsTo at h
 go_enter Tryz.func124,Tryz.ntmps124
 go_wp2_with fail
 refine (h _).mono ?_
 rintro e w1 ⟨rfl,hb⟩
 have hB:Below w.heap.size w w1:=Below.trans (by go_grown) (hb.mono (by simp;omega))
 obtain ⟨hc,hf⟩:=bcell hb
 have hz:=bsize hb
 simp at hz
 go_wp2_with fail
 refine bodyPost_ret (v:=.tuple #[.agg #[.int .i64 k,.int .i64 n],er]) (by simp [results,Tryz.results124,go_sem,hc]) rfl ⟨rfl,?_⟩
 go_grown
theorem sub_yes (ka na kb nb:Int) (ha:good ka na=true) (hb:good kb nb=true):OpTo 124 ka na kb nb (minusP ka na kb nb).1 (minusP ka na kb nb).2 .nilIface:=by
 obtain ⟨h1,h2⟩:=good_bd ha
 obtain ⟨h3,h4⟩:=good_bd hb
 exact sub_of _ _ _ _ _ _ _ (joins_yes _ _ _ both_in both_any minus_in ka na kb nb ha hb _ (minus_any na nb h1 h2 h3 h4))
theorem mul_of (ka na kb nb k n:Int) (er:Value) (h:JoinsTo 215 216 ka na kb nb k n er):OpTo 191 ka na kb nb k n er:=by
 intro w
 unfold JoinsTo at h
 go_enter Tryz.func191,Tryz.ntmps191
 go_wp2_with fail
 refine (h _).mono ?_
 rintro e w1 ⟨rfl,hb⟩
 have hB:Below w.heap.size w w1:=Below.trans (by go_grown) (hb.mono (by simp;omega))
 obtain ⟨hc,hf⟩:=bcell hb
 have hz:=bsize hb
 simp at hz
 go_wp2_with fail
 refine bodyPost_ret (v:=.tuple #[.agg #[.int .i64 k,.int .i64 n],er]) (by simp [results,Tryz.results191,go_sem,hc]) rfl ⟨rfl,?_⟩
 go_grown
theorem mul_yes (ka na kb nb:Int) (ha:good ka na=true) (hb:good kb nb=true):OpTo 191 ka na kb nb (timesP ka na kb nb).1 (timesP ka na kb nb).2 .nilIface:=by
 obtain ⟨h1,h2⟩:=good_bd ha
 obtain ⟨h3,h4⟩:=good_bd hb
 exact mul_of _ _ _ _ _ _ _ (joins_yes _ _ _ one_in one_any product_in ka na kb nb ha hb _ (product_any na nb h1 h2 h3 h4))
theorem div_of (ka na kb nb k n:Int) (er:Value) (h:JoinsTo 215 217 ka na kb nb k n er):OpTo 192 ka na kb nb k n er:=by
 intro w
 unfold JoinsTo at h
 go_enter Tryz.func192,Tryz.ntmps192
 go_wp2_with fail
 refine (h _).mono ?_
 rintro e w1 ⟨rfl,hb⟩
 have hB:Below w.heap.size w w1:=Below.trans (by go_grown) (hb.mono (by simp;omega))
 obtain ⟨hc,hf⟩:=bcell hb
 have hz:=bsize hb
 simp at hz
 go_wp2_with fail
 refine bodyPost_ret (v:=.tuple #[.agg #[.int .i64 k,.int .i64 n],er]) (by simp [results,Tryz.results192,go_sem,hc]) rfl ⟨rfl,?_⟩
 go_grown
theorem div_yes (ka na kb nb:Int) (ha:good ka na=true) (hb:good kb nb=true):OpTo 192 ka na kb nb (overP ka na kb nb).1 (overP ka na kb nb).2 .nilIface:=by
 obtain ⟨h1,h2⟩:=good_bd ha
 obtain ⟨h3,h4⟩:=good_bd hb
 exact div_of _ _ _ _ _ _ _ (joins_yes _ _ _ one_in one_any quotient_in ka na kb nb ha hb _ (quotient_any na nb h1 h2))
end Go.Proofs.YtfgegmpoejilnaaGreatDoor
namespace Go.Proofs.YtfgegmpoejilnaaGreatDoor
def stepTo (D:Nat→Dm) (dim:Nat):Nat→Nat
 | 0=>1
 | t+1=>stepTo D dim t*(D (dim+1+t)).n
def stepD (D:Nat→Dm) (n dim:Nat):Nat:=stepTo D dim (n-1-dim)
theorem stepTo_front (D:Nat→Dm) (dim:Nat):∀ t,stepTo D dim (t+1)=(D (dim+1)).n*stepTo D (dim+1) t
 | 0=>by simp [stepTo]
 | t+1=>by
  rw [stepTo,stepTo_front D dim t,stepTo,Nat.mul_assoc,show dim+1+(t+1)=dim+1+1+t by omega]
theorem rest_step (D:Nat→Dm) (m x:Nat):∀ r,r<m→restAt D m x r=x / stepTo D (m-1-r) r
 | 0,_=>by simp [restAt,stepTo]
 | r+1,h=>by
  rw [restAt,rest_step D m x r (by omega),Nat.div_div_eq_div_mul,stepTo_front,show m-1-(r+1)+1=m-1-r by omega,Nat.mul_comm]
theorem digit_step {D:Nat→Dm} {n x k:Nat} (hk:k<n):digitAt D n x k=x / stepD D n k % (D k).n:=by
 unfold digitAt stepD
 rw [rest_step D n x _ (by omega),show n-1-(n-1-k)=k by omega]
theorem prodN_pos {D:Nat→Dm} {n:Nat} (h:∀ j,j<n→1≤(D j).n):1≤prodN D n:=by
 induction n with
 | zero=>exact Nat.le_refl _
 | succ n ih =>
  have h1:=ih fun j hj=>h j (by omega)
  have h2:=h n (by omega)
  rw [prodN]
  exact Nat.mul_le_mul h1 h2
theorem stepTo_pos {D:Nat→Dm} {dim:Nat}:∀ t,(∀ j,j<dim+1+t→1≤(D j).n)→1≤stepTo D dim t
 | 0,_=>Nat.le_refl _
 | t+1,h=>by
  rw [stepTo]
  exact Nat.mul_le_mul (stepTo_pos t fun j hj=>h j (by omega)) (h (dim+1+t) (by omega))
theorem stepD_pos {D:Nat→Dm} {n dim:Nat} (h:∀ j,j<n→1≤(D j).n) (hd:dim<n):1≤stepD D n dim:=stepTo_pos _ fun j hj=>h j (by omega)
def partStep (M:Nat→Mem) (at':Int→Int×Int) (c:Int×Int) (k:Int):Int×Int:=if (M k.toNat).sign=1 then plusP c.1 c.2 (at' k).1 (at' k).2 else if (M k.toNat).sign = -1 then minusP c.1 c.2 (at' k).1 (at' k).2 else c
def partsV (M:Nat→Mem) (at':Int→Int×Int) (L:List Int):Int×Int:=L.foldl (partStep M at') (0,0)
def goodC (c:Int×Int):Prop:=good c.1 c.2=true
theorem good_ofP (x:Int):goodC (ofP x):=by
 unfold goodC ofP good
 split
 ·rename_i h;exact decide_eq_true (Or.inl ⟨rfl,h⟩)
 ·exact decide_eq_true (Or.inr ⟨Or.inr rfl,rfl⟩)
theorem good_join (b:Bool) (ka kb:Int) {r:Int×Int} (h:goodC r):goodC (joinP b ka kb r):=by
 unfold joinP
 split
 ·exact decide_eq_true (Or.inr ⟨Or.inr rfl,rfl⟩)
 ·split
  ·exact decide_eq_true (Or.inr ⟨Or.inl rfl,rfl⟩)
  ·exact h
theorem good_zero:goodC (0,0):=decide_eq_true (Or.inr ⟨Or.inl rfl,rfl⟩)
theorem good_step (M:Nat→Mem) (at':Int→Int×Int) {c:Int×Int} (h:goodC c) (k:Int):goodC (partStep M at' c k):=by
 unfold partStep
 split
 ·exact good_join _ _ _ (good_ofP _)
 ·split
  ·exact good_join _ _ _ (good_ofP _)
  ·exact h
theorem good_fold (M:Nat→Mem) (at':Int→Int×Int):∀ (L:List Int) (c:Int×Int),goodC c→goodC (L.foldl (partStep M at') c)
 | [],_,h=>h
 | k :: r,_,h=>good_fold M at' r _ (good_step M at' h k)
theorem good_parts (M:Nat→Mem) (at':Int→Int×Int) (L:List Int):goodC (partsV M at' L):=good_fold M at' L _ good_zero
theorem parts_same {M:Nat→Mem} {f g:Int→Int×Int}:∀ (L:List Int) (c:Int×Int),(∀ k∈L,f k=g k)→L.foldl (partStep M f) c=L.foldl (partStep M g) c
 | [],_,_=>rfl
 | k :: r,c,h=>by
  have e:partStep M f c k=partStep M g c k:=by unfold partStep;rw [h k (List.mem_cons_self ..)]
  rw [List.foldl_cons,List.foldl_cons,e]
  exact parts_same r _ fun j hj=>h j (List.mem_cons_of_mem _ hj)
def cAt (L:List (Int×Int)) (x:Int):Int×Int:=L.getD x.toNat (0,0)
def atP (D:Nat→Dm) (n dim m x:Nat) (L:List (Int×Int)) (k:Int):Int×Int:=cAt L ((x:Int)+(k-(m:Int))*(stepD D n dim:Int))
theorem part_behind {M:Nat→Mem} {n:Nat} (ht:Tr M n) {m:Nat} {k:Int} (h:k∈partsOf M n (m:Int)):∃ j:Nat,k=j∧m<j∧j<n∧(M j).parent=(m:Int):=by
 obtain ⟨j,rfl,hj,hp⟩:=selTo_mem k h
 have h1:(M j).parent=(m:Int):=by simpa [partB] using hp
 have:=(ht j hj).2
 exact ⟨j,rfl,by omega,hj,h1⟩
theorem part_place {D:Nat→Dm} {n dim m x j:Nat} (hp:∀ i,i<n→1≤(D i).n) (hd:dim<n) (hx:x<prodN D n) (hm:x / stepD D n dim % (D dim).n=m) (hj:j<(D dim).n) :
  ∃ y:Nat,(x:Int)+((j:Int)-(m:Int))*(stepD D n dim:Int)=y∧y<prodN D n∧y / stepD D n dim % (D dim).n=j∧∀ i,i<n→i≠dim→digitAt D n y i=digitAt D n x i:=by
 have hS:=stepD_pos hp hd
 have hdn:=hp dim hd
 have hlt:∀ i,i<n→digitAt D n x i<(D i).n:=fun i hi=>digit_lt (hp i hi)
 obtain ⟨P,hP⟩:∃ P:Nat→Nat,P=fun i=>if i=dim then j else digitAt D n x i:=⟨_,rfl⟩
 have hPlt:∀ i,i<n→P i<(D i).n:=fun i hi=>by
  rw [hP]
  simp only
  split
  ·rename_i h;rw [h];exact hj
  ·exact hlt i hi
 have hy:=numTo_lt n hPlt
 have hdig:∀ i,i<n→digitAt D n (numTo D P n) i=P i:=fun i hi=>digit_num hPlt hi
 refine ⟨numTo D P n,?_,hy,?_,fun i hi hne=>?_⟩
 ·have h1:∀ k,k≤n→(numTo D P k:Int)=(numTo D (digitAt D n x) k:Int)+(if dim<k then ((j:Int)-(m:Int))*(stepTo D dim (k-1-dim):Int) else 0):=by
   intro k
   induction k with
   | zero=>intro _;simp [numTo]
   | succ k ih =>
    intro hk
    rw [numTo,numTo]
    have ih':=ih (by omega)
    rcases Nat.lt_trichotomy dim k with h | h | h
    ·rw [if_pos h] at ih'
     rw [if_pos (by omega)]
     have e:P k=digitAt D n x k:=by rw [hP];simp only;rw [if_neg (by omega)]
     rw [e,show k+1-1-dim=(k-1-dim)+1 by omega,stepTo,show dim+1+(k-1-dim)=k by omega]
     push_cast
     rw [ih',Int.add_mul,Int.mul_assoc]
     omega
    ·subst h
     rw [if_neg (by omega),Int.add_zero] at ih'
     rw [if_pos (by omega)]
     have e:P dim=j:=by rw [hP];simp
     have e2:digitAt D n x dim=m:=by rw [digit_step hd,hm]
     rw [e,e2,show dim+1-1-dim=0 by omega,stepTo]
     push_cast
     rw [ih']
     omega
    ·rw [if_neg (by omega),Int.add_zero] at ih'
     rw [if_neg (by omega)]
     have e:P k=digitAt D n x k:=by rw [hP];simp only;rw [if_neg (by omega)]
     rw [e]
     push_cast
     rw [ih']
     omega
  have h2:=h1 n (Nat.le_refl _)
  rw [if_pos hd,num_back hx] at h2
  rw [h2]
  rfl
 ·have h3:=hdig dim hd
  rw [digit_step hd] at h3
  rw [h3,hP]
  simp
 ·rw [hdig i hi,hP]
  simp [hne]
def sumTo (f:Nat→Nat):Nat→Nat
 | 0=>0
 | k+1=>sumTo f k+f k
theorem sumTo_congr {f g:Nat→Nat} {n:Nat} (h:∀ k,k<n→f k=g k):sumTo f n=sumTo g n:=by
 induction n with
 | zero=>rfl
 | succ n ih=>rw [sumTo,sumTo,ih fun k hk=>h k (by omega),h n (by omega)]
theorem sumTo_add (f g:Nat→Nat) (n:Nat):sumTo (fun k=>f k+g k) n=sumTo f n+sumTo g n:=by
 induction n with
 | zero=>rfl
 | succ n ih=>rw [sumTo,sumTo,sumTo,ih];omega
theorem sumTo_zero {f:Nat→Nat} {n:Nat} (h:∀ k,k<n→f k=0):sumTo f n=0:=by
 induction n with
 | zero=>rfl
 | succ n ih=>rw [sumTo,ih fun k hk=>h k (by omega),h n (by omega)]
theorem sumTo_single {f:Nat→Nat} {n k:Nat} (hk:k<n) (h:∀ j,j<n→j≠k→f j=0):sumTo f n=f k:=by
 induction n with
 | zero=>omega
 | succ n ih =>
  rw [sumTo]
  by_cases e:k=n
  ·subst e;rw [sumTo_zero fun j hj=>h j (by omega) (by omega)];omega
  ·rw [ih (by omega) fun j hj=>h j (by omega),h n (by omega) (fun x=>e x.symm)];rfl
def one (b:Bool):Nat:=if b=true then 1 else 0
theorem one_false:one false=0:=rfl
theorem inB_true {L:List Int} {i:Int}:inB L i=true↔i∈L:=by simp [inB]
theorem inB_false {L:List Int} {i:Int}:inB L i=false↔i∉L:=by simp [inB]
theorem steps_one {M:Nat→Mem} {n:Nat} (ht:Tr M n) {i:Nat} (f:Nat):∀ k:Nat,k<n→k<f→sumTo (fun p=>one (partB M i p && inB (pathOf M k) p)) n=one (inB (pathOf M k) i && !decide (k=i)):=by
 induction f with
 | zero=>intro k _ h;omega
 | succ f ih =>
  intro k hk hf
  have hp:=ht k hk
  have hc:=pathOf_cons ht hk
  have hnk:∀ j∈pathOf M (M k).parent,0≤j∧j≤(M k).parent:=pathOf_mem ht k _ (by omega) (by omega)
  have e:∀ p,p<n→one (partB M i p && inB (pathOf M k) p)=one (decide (p=k) && partB M i k)+one (partB M i p && inB (pathOf M (M k).parent) p):=by
   intro p _
   by_cases h:p=k
   ·subst h
    have h1:inB (pathOf M p) p=true:=by rw [inB_true,hc];exact List.mem_cons_self ..
    have h2:inB (pathOf M (M p).parent) p=false:=by rw [inB_false];intro h;have:=hnk _ h;omega
    rw [h1,h2];simp [one_false]
   ·have h1:inB (pathOf M k) p=inB (pathOf M (M k).parent) p:=by
     unfold inB;rw [decide_eq_decide,hc,List.mem_cons]
     constructor
     ·rintro (h3 | h3)
      ·omega
      ·exact h3
     ·exact Or.inr
    rw [h1];simp [h,one_false]
  rw [sumTo_congr e,sumTo_add,sumTo_single (f:=fun p=>one (decide (p=k) && partB M i k)) hk (fun j _ hj=>by simp [hj,one_false])]
  have hik:(inB (pathOf M k) i && !decide (k=i))=inB (pathOf M (M k).parent) i:=by
   by_cases h:k=i
   ·subst h
    have h2:inB (pathOf M (M k).parent) k=false:=by rw [inB_false];intro h;have:=hnk _ h;omega
    rw [h2];simp
   ·have h1:inB (pathOf M k) i=inB (pathOf M (M k).parent) i:=by
     unfold inB;rw [decide_eq_decide,hc,List.mem_cons]
     constructor
     ·rintro (h3 | h3)
      ·omega
      ·exact h3
     ·exact Or.inr
    rw [h1];simp [h]
  rw [hik]
  by_cases h0:(M k).parent<0
  ·rw [pathOf_neg h0,sumTo_zero (fun p _=>by simp [inB,one])]
   have:partB M i k=false:=by simp [partB];omega
   simp [this,inB,one]
  ·obtain ⟨q,hq⟩:∃ q:Nat,(M k).parent=q:=⟨(M k).parent.toNat,by omega⟩
   rw [hq,ih q (by omega) (by omega)]
   by_cases h:q=i
   ·subst h
    have h1:partB M q k=true:=by simp [partB,hq]
    have h2:inB (pathOf M q) q=true:=by rw [inB_true,pathOf_cons ht (by omega)];exact List.mem_cons_self ..
    rw [h1,h2];simp [one]
   ·have h1:partB M i k=false:=by simp [partB,hq];omega
    rw [h1];simp [h,one]
theorem part_has {M:Nat→Mem} {n:Nat} (ht:Tr M n) {i:Nat} (f:Nat):∀ k:Nat,k<n→k<f→k≠i→(i:Int)∈pathOf M k→∃ p,p<n∧partB M i p=true:=by
 induction f with
 | zero=>intro k _ h;omega
 | succ f ih =>
  intro k hk hf hne hm
  have hp:=ht k hk
  rw [pathOf_cons ht hk,List.mem_cons] at hm
  rcases hm with hm | hm
  ·omega
  ·by_cases h0:(M k).parent<0
   ·rw [pathOf_neg h0] at hm;cases hm
   ·obtain ⟨q,hq⟩:∃ q:Nat,(M k).parent=q:=⟨(M k).parent.toNat,by omega⟩
    by_cases h:q=i
    ·exact ⟨k,hk,by simp [partB,hq,h]⟩
    ·rw [hq] at hm
     exact ih q (by omega) (by omega) h hm
theorem leaf_noparts {M:Nat→Mem} {n i:Nat} (hl:leafB M n i=true):∀ p,p<n→partB M i p=false:=by
 unfold leafB at hl
 simp only [Bool.and_eq_true,Bool.not_eq_true',decide_eq_false_iff_not] at hl
 intro p hp
 cases h:partB M i p
 ·rfl
 ·exact absurd (findFrom_nonneg (q:=partB M i) hp h) hl.2
theorem leaf_parts {M:Nat→Mem} {n i:Nat} (hl:leafB M n i=true):partsOf M n i=[]:=selTo_none (leaf_noparts hl)
theorem part_weight {M:Nat→Mem} {n:Nat} (ht:Tr M n) {p i:Nat} (hp:p<n) (hpi:(M p).parent=i) (f:Nat):∀ (l:Nat) (a:Int),l<n→l<f→(p:Int)∈pathOf M l→wgt M i (pathOf M l) a=wgt M p (pathOf M l) a*(M p).sign:=by
 induction f with
 | zero=>intro l _ _ h;omega
 | succ f ih =>
  intro l a hl hf hm
  have h1:=ht l hl
  have h2:=ht p hp
  rw [pathOf_cons ht hl] at hm ⊢
  by_cases h:l=p
  ·subst h
   rw [wgt_hit,wgt_miss (by omega),hpi,pathOf_cons ht (by omega),wgt_hit]
   simp
  ·rcases List.mem_cons.1 hm with hm | hm
   ·omega
   ·have h3:=pathOf_mem ht l (M l).parent (by omega) (by omega) _ hm
    rw [wgt_miss (by omega),wgt_miss (by omega)]
    obtain ⟨q,hq⟩:∃ q:Nat,(M l).parent=q:=⟨(M l).parent.toNat,by omega⟩
    rw [hq] at hm ⊢
    exact ih q _ (by omega) (by omega) hm
end Go.Proofs.YtfgegmpoejilnaaGreatDoor
