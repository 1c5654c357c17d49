/-
  What is read of an argument of the types api.Outline and api.Dim: where its dims and members lie, and what they hold.
-/
import Derived.Deep.Slices
import Derived.Deep.Strs
import Derived.Deep.Fields
import Derived.OwnWalk
import Derived.BigQuiet
import Derived.WalkSmall
import Derived.Deep.AppendLies
import Derived.Deep.RegionLaw
import Derived.Deep.DeepCutAuto
import Derived.Test.YtfngmnhkhfgmjahGreatDoorJBAE
namespace Go.Proofs.YtfngmnhkhfgmjahGreatDoor
open Go Go.ChangeShapes Go.WideShapes Go.ChangeAt Go.RowKit Go.Deep
set_option maxRecDepth 100000
section
variable {H:Type} {enc:TypeId×Value→H} {w:World} {held:Bool}
theorem addr_plain {a:Addr} {k:Nat} {v:Value} (h:w.cell? (a.add k)=some v) (hk:k=0):a=⟨a.block,a.off,none⟩:=by
 subst hk
 have e:(a.add 0)=a:=by simp [Addr.add]
 rw [e] at h
 have:=World.cell?_spot h
 cases a
 simp_all
theorem plain_add (b o k:Nat):(⟨b,o,none⟩:Addr).add k=⟨b,o+k,none⟩:=by
 unfold Addr.add
 by_cases hk:k=0
 ·subst hk;simp
 ·rw [if_neg hk]
end
def NdsAt (w:World) (b o:Nat) (l:List Nd):Prop:=b<w.heap.size∧∀ k,k<l.length→w.cell? ⟨b,o+k*5,none⟩=some (.int .i64 (l.getD k noN).op)∧w.cell? ⟨b,o+k*5+1,none⟩=some (.int .i64 (l.getD k noN).n)∧w.cell? ⟨b,o+k*5+2,none⟩=some (.string (l.getD k noN).name)∧w.cell? ⟨b,o+k*5+3,none⟩=some (.int .i64 (l.getD k noN).left)∧w.cell? ⟨b,o+k*5+4,none⟩=some (.int .i64 (l.getD k noN).right)
theorem NdsAt.later {w w':World} {b o:Nat} {l:List Nd} (h:NdsAt w b o l) (hB:Below w.heap.size w w'):NdsAt w' b o l:=by
 refine ⟨Nat.lt_of_lt_of_le h.1 hB.size,fun k hk=>?_⟩
 obtain ⟨h1,h2,h3,h4,h5⟩:=h.2 k hk
 exact ⟨(hB.cell (p:=⟨b,o+k*5,none⟩) h.1).trans h1,(hB.cell (p:=⟨b,o+k*5+1,none⟩) h.1).trans h2,(hB.cell (p:=⟨b,o+k*5+2,none⟩) h.1).trans h3,(hB.cell (p:=⟨b,o+k*5+3,none⟩) h.1).trans h4,(hB.cell (p:=⟨b,o+k*5+4,none⟩) h.1).trans h5⟩
def NdsV (w:World) (A:Option Addr) (cap:Nat) (l:List Nd):Prop:=l.length≤cap∧cap≤9223372036854775807∧(l=[]∨∃ b o,A=some ⟨b,o,none⟩∧NdsAt w b o l)
theorem NdsV.later {w w':World} {A:Option Addr} {cap:Nat} {l:List Nd} (h:NdsV w A cap l) (hB:Below w.heap.size w w'):NdsV w' A cap l:=by
 obtain ⟨h1,h0,h2 | ⟨b,o,h2,h3⟩⟩:=h
 ·exact ⟨h1,h0,Or.inl h2⟩
 ·exact ⟨h1,h0,Or.inr ⟨b,o,h2,h3.later hB⟩⟩
theorem NdsV.nil (w:World) (A:Option Addr) (cap:Nat) (h:cap≤9223372036854775807):NdsV w A cap []:=⟨Nat.zero_le _,h,Or.inl rfl⟩
end Go.Proofs.YtfngmnhkhfgmjahGreatDoor
namespace Go.Proofs.YtfngmnhkhfgmjahGreatDoor
open Go.ChangeShapes Go.WideShapes Go.ChangeAt Go.RowKit
set_option maxRecDepth 20000
theorem isleaf1_in:EntersO 177:=fun args w=>by simp [callFunc,Tryz.func177];rfl
theorem isleaf1_any (m:Mem) (i:Int) (q:Nat) (w:World) (hq:q<w.heap.size) (h:w.cell? ⟨q,0,none⟩=some (.int .i64 i)):Calls Tryz.prog 177 #[memV m,.pointer (some ⟨q,0,none⟩)] w fun e w'=>e=.returned (.bool (m.parent == i))∧Below w.heap.size w w':=by
 unfold memV
 go_enter Tryz.func177,Tryz.ntmps177
 go_wp2_with fail
 go_ret
 exact ⟨by simp,by go_grown⟩
def ownInt (w:World) (i:Int) (T:Nat):World:=w.alloc (.cells #[.int .i64 i] T)
theorem ownInt_at (w:World) (i:Int) (T:Nat):(ownInt w i T).cell? ⟨w.heap.size,0,none⟩=some (.int .i64 i):=by unfold ownInt;simp
theorem ownInt_size (w:World) (i:Int) (T:Nat):(ownInt w i T).heap.size=w.heap.size+1:=by unfold ownInt;simp
theorem ownInt_below (w:World) (i:Int) (T:Nat):Below w.heap.size w (ownInt w i T):=by unfold ownInt;go_grown
theorem leafB_told {M:Nat→Mem} {n k:Nat} (h:(M k).formula.size≠0):leafB M n k=false:=by simp [leafB,h]
theorem leafB_parts {M:Nat→Mem} {n k:Nat} (h:(M k).formula.size=0):leafB M n k = !decide (0≤findFrom (partB M k) n 0):=by simp [leafB,h]
set_option maxHeartbeats 2000000 in
theorem isleaf_any (b o n cap i:Nat) (M:Nat→Mem) (w:World) (hn:n≤12) (hi:i<n) (hM:MemsAt w b o n M):Calls Tryz.prog 138 #[.slice (some ⟨b,o,none⟩) n cap,.int .i64 i] w fun e w'=>e=.returned (.bool (leafB M n i))∧Below w.heap.size w w':=by
 have hS:=ownInt_size w i 3
 have hB0:=ownInt_below w i 3
 have hA:=ownInt_at w i 3
 have hM0:=hM.later hB0
 have hcl:=contains_mems 177 w.heap.size isleaf1_in b o n cap M (partB M i) (ownInt w i 3) hn hM0 (fun j w' _ hw'=>isleaf1_any (M j) i w.heap.size w' (by have:=hw'.size;omega) ((hw'.cell (p:=⟨w.heap.size,0,none⟩) (by show w.heap.size<_;omega)).trans hA))
 have HB0:Hid (Below w.heap.size w (ownInt w i 3)):=hB0
 obtain ⟨-,-,-,h3⟩:=hM.2 i hi
 have hbw:=hM.1
 have hii:(i:Int)<(n:Int):=by omega
 have hn':(n:Int)≤12:=by omega
 clear hM hS hB0 hA hM0
 by_cases hf:(M i).formula.size=0
 ·have hf':(M i).formula.toList.isEmpty=true:=by rw [empty_same];simpa using hf
  have HR:Hid (leafB M n i = !decide (0≤findFrom (partB M i) n 0)):=leafB_parts hf
  clear hf
  generalize decide (0≤findFrom (partB M i) n 0)=f at hcl HR
  go_enter Tryz.func138,Tryz.ntmps138
  go_wp2_with fail
  refine hcl.mono ?_
  rintro e w1 ⟨rfl,hb1⟩
  go_wp2_with fail
  go_ret
  exact ⟨by rw [HR.out];rfl,onB HB0.out hb1⟩
 ·have hf':(M i).formula.toList.isEmpty=false:=by rw [empty_same];simpa using hf
  have HR:Hid (leafB M n i=false):=leafB_told hf
  clear hf hcl
  go_enter Tryz.func138,Tryz.ntmps138
  go_wp2_with fail
  go_ret
  exact ⟨by rw [HR.out];rfl,by go_grown⟩
def IntsAt (w:World) (A:Option Addr) (cap:Nat) (L:List Int):Prop:=L.length≤cap∧(L=[]∨∃ b,A=some ⟨b,0,none⟩∧b<w.heap.size∧∀ j,j<L.length→w.cell? ⟨b,j,none⟩=some (.int .i64 (L.getD j 0)))
theorem IntsAt.later {w w':World} {A:Option Addr} {cap:Nat} {L:List Int} (h:IntsAt w A cap L) (hB:Below w.heap.size w w'):IntsAt w' A cap L:=by
 obtain ⟨h1,h2 | ⟨b,h2,h3,h4⟩⟩:=h
 ·exact ⟨h1,Or.inl h2⟩
 ·exact ⟨h1,Or.inr ⟨b,h2,Nat.lt_of_lt_of_le h3 hB.size,fun j hj=>(hB.cell (p:=⟨b,j,none⟩) h3).trans (h4 j hj)⟩⟩
def mapI (L:List Int):List Value:=L.map (Value.int .i64)
theorem mapI_snoc (L:List Int) (x:Int):mapI (L ++ [x])=mapI L ++ [Value.int .i64 x]:=by simp [mapI]
theorem ints_of {w:World} {base e:Nat} {v:Value} {L:List Int} (h:w.ownsRow base e 1 v L.length (mapI L)):∃ A cap,v=.slice A L.length cap∧IntsAt w A cap L:=by
 rcases h.2 with ⟨rfl,h0⟩ | ⟨g,cap,cur,rfl,hb,hg,hc,_,_,_⟩
 ·exact ⟨none,0,by rw [h0],by omega,Or.inl (List.eq_nil_of_length_eq_zero h0)⟩
 ·refine ⟨_,cap,rfl,hc,Or.inr ⟨g,rfl,(Array.getElem?_eq_some_iff.1 hg).1,fun j hj=>?_⟩⟩
  have hx:=h.cells (g:=g) rfl j (.int .i64 (L.getD j 0)) (by simp [mapI,List.getD,List.getElem?_eq_getElem hj])
  have hadd:(⟨g,0,none⟩:Addr).add j=⟨g,j,none⟩:=by unfold Addr.add;split <;> simp_all
  rw [hadd] at hx
  exact hx
theorem own_later {w w':World} {base e size:Nat} {v:Value} {n:Nat} {xs:List Value} (h:w.ownsRow base e size v n xs) (hB:Below w.heap.size w w'):w'.ownsRow base e size v n xs:=by
 refine ⟨h.1,?_⟩
 rcases h.2 with h0 | ⟨g,cap,cur,rfl,hb,hg,h1⟩
 ·exact Or.inl h0
 ·exact Or.inr ⟨g,cap,cur,rfl,hb,(hB.block g (Array.getElem?_eq_some_iff.1 hg).1).trans hg,h1⟩
theorem grown_own {w wr w1:World} {e size n:Nat} {v:Value} {xs:List Value} {o:Obj} (hB:Below w.heap.size w wr) (hown:wr.ownsRow w.heap.size e size v n xs) (hgrow:(wr.alloc o).grownBy w1 v.ownBlock):Below w.heap.size w w1 :=
 (hB.alloc hB.size o).grown hgrow (by have:=hB.size;simp;omega) (fun j hj=>(hown.lt j hj).1)
theorem one_cell {wr:World} {x:Value} {T:Nat}:∀ j u,[x][j]?=some u→(wr.alloc (.cells #[x] T)).cell? ((⟨wr.heap.size,0,none⟩:Addr).add j)=some u:=by
 intro j u hj
 match j,hj with
 | 0,hj=>simp at hj;subst hj;simp [Addr.add]
theorem one_one {x:Int}:∀ u∈[Value.int .i64 x],u.oneCell'=true:=by intro u hu;simp at hu;subst hu;rfl
theorem Tryz.infoInt:(Tryz.prog.info? 3).map (fun i=>(i.zero,i.size,i.bytes))=some (some (.int .i64 0),1,8):=by kernel_rfl
theorem isdig_any (c:Int) (w:World):Calls Tryz.prog 300 #[.int .u8 c] w fun e w'=>e=.returned (.bool (digB c))∧Below w.heap.size w w':=by
 unfold digB
 by_cases h1:48≤c
 ·go_enter Tryz.func300,Tryz.ntmps300
  go_wp2
  go_ret
  exact ⟨by simp <;> omega,by go_grown⟩
 ·go_enter Tryz.func300,Tryz.ntmps300
  go_wp2
  go_ret
  exact ⟨by simp <;> omega,by go_grown⟩
theorem islet_any (c:Int) (w:World):Calls Tryz.prog 279 #[.int .u8 c] w fun e w'=>e=.returned (.bool (letB c))∧Below w.heap.size w w':=by
 unfold letB
 by_cases h1:97≤c
 ·go_enter Tryz.func279,Tryz.ntmps279
  go_wp2
  go_ret
  exact ⟨by simp <;> omega,by go_grown⟩
 ·go_enter Tryz.func279,Tryz.ntmps279
  go_wp2
  go_ret
  exact ⟨by simp <;> omega,by go_grown⟩
theorem binds_any (op:Int) (w:World):Calls Tryz.prog 264 #[.int .i64 op] w fun e w'=>e=.returned (.int .i64 (bindN op))∧Below w.heap.size w w':=by
 unfold bindN
 by_cases h3:op=3
 ·subst h3
  go_enter Tryz.func264,Tryz.ntmps264
  go_wp2
  go_ret
  exact ⟨by simp,by go_grown⟩
 by_cases h4:op=4
 ·subst h4
  go_enter Tryz.func264,Tryz.ntmps264
  go_wp2
  go_ret
  exact ⟨by simp,by go_grown⟩
 by_cases h5:op=5
 ·subst h5
  go_enter Tryz.func264,Tryz.ntmps264
  go_wp2
  go_ret
  exact ⟨by simp,by go_grown⟩
 by_cases h6:op=6
 ·subst h6
  go_enter Tryz.func264,Tryz.ntmps264
  go_wp2
  go_ret
  exact ⟨by simp,by go_grown⟩
 rw [if_neg (by omega),if_neg (by omega)]
 go_enter Tryz.func264,Tryz.ntmps264
 go_wp2
 go_ret
 exact ⟨rfl,by go_grown⟩
theorem joins_any (op:Int) (w:World):Calls Tryz.prog 254 #[.int .i64 op] w fun e w'=>e=.returned (.bool (decide (op≠1∧op≠2)))∧Below w.heap.size w w':=by
 by_cases h1:op=1
 ·subst h1
  go_enter Tryz.func254,Tryz.ntmps254
  go_wp2
  go_ret
  exact ⟨by simp,by go_grown⟩
 by_cases h2:op=2
 ·subst h2
  go_enter Tryz.func254,Tryz.ntmps254
  go_wp2
  go_ret
  exact ⟨by simp,by go_grown⟩
 go_enter Tryz.func254,Tryz.ntmps254
 go_wp2
 go_ret
 exact ⟨by simp [h1,h2],by go_grown⟩
theorem byteN_get (s:ByteArray) (k:Nat) (h:k<s.size):((s[k]'h).toNat:Int)=byteN s k:=by
 unfold byteN
 rw [List.getD,List.getElem?_eq_getElem (by simpa using h)]
 rfl
theorem lead_miss {p:Int→Bool} {t:ByteArray} {f i:Nat} (h:p (byteN t i)=false):leadTo p t (f+1) i=i:=by simp [leadTo,h]
theorem lead_hit {p:Int→Bool} {t:ByteArray} {f i:Nat} (h:p (byteN t i)=true):leadTo p t (f+1) i=leadTo p t f (i+1):=by simp [leadTo,h]
set_option maxHeartbeats 1000000 in
theorem lead_any (p:Int→Bool) (F:Nat) (hent:∀ (args:Array Value) (w:World),(callFunc F args).run Tryz.prog w=.ok (.enter F args) w) (hF:∀ (c:Int) (w:World),Calls Tryz.prog F #[.int .u8 c] w fun e w'=>e=.returned (.bool (p c))∧Below w.heap.size w w') (t:ByteArray) (w:World) (hs:t.size≤4611686018427387904):Calls Tryz.prog 302 #[.string t,.func (.func F) #[] #[]] w fun e w'=>e=.returned (.int .i64 (leadN p t))∧Below w.heap.size w w':=by
 have HF:Hid (∀ (c:Int) (w:World),Calls Tryz.prog F #[.int .u8 c] w fun e w'=>e=.returned (.bool (p c))∧Below w.heap.size w w'):=hF
 unfold leadN
 clear hF
 go_enter Tryz.func302,Tryz.ntmps302
 go_wp2_with fail
 go_loopg [8] t.size (fun g s8 wr => ∃ (k:Nat),k≤t.size∧g=t.size-k∧s8=.int .i64 k∧leadTo p t (t.size-k) k=leadTo p t t.size 0∧Below w.heap.size w wr)
 case atStart=>exact ⟨0,Nat.zero_le _,rfl,rfl,rfl,Below.refl _ _⟩
 case round =>
  obtain ⟨k,hk,rfl,rfl,hf,hBw⟩:=hrel
  have HQ:Hid (leadTo p t (t.size-k) k=leadTo p t t.size 0):=hf
  have HW:Hid (Below w.heap.size w wr):=hBw
  clear hf hBw
  by_cases hlt:k<t.size
  ·have hki:(k:Int)<(t.size:Int):=by omega
   have hs':(t.size:Int)≤4611686018427387904:=by omega
   have HSK:Hid (t.size-k=(t.size-(k+1))+1):=by show _=_;omega
   have hbd:=HF.out (byteN t k)
   have hby:=byteN_get t k hlt
   cases hb:p (byteN t k)
   ·rw [hb] at hbd
    have HK:Hid (p (byteN t k)=false):=hb
    clear hb
    generalize byteN t k=c at hbd hby
    go_wp2_with fail
    refine (hbd _).mono ?_
    rintro e w1 ⟨rfl,hb1⟩
    go_wp2_with fail
    go_ret
    exact ⟨by rw [←HQ.out,HSK.out,lead_miss HK.out];rfl,onB HW.out hb1⟩
   ·rw [hb] at hbd
    have HK:Hid (p (byteN t k)=true):=hb
    clear hb
    generalize byteN t k=c at hbd hby
    go_wp2_with fail
    refine (hbd _).mono ?_
    rintro e w1 ⟨rfl,hb1⟩
    go_wp2_with fail
    go_roundg (t.size-(k+1))
    case measure=>omega
    case rel=>exact ⟨k+1,by omega,rfl,by go_num,by rw [←HQ.out,HSK.out,lead_hit HK.out],onB HW.out hb1⟩
  ·have hke:k=t.size:=by omega
   subst hke
   go_wp2_with fail
   go_ret
   exact ⟨by rw [←HQ.out,Nat.sub_self];rfl,HW.out⟩
theorem ent_dig (args:Array Value) (w:World):(callFunc 300 args).run Tryz.prog w=.ok (.enter 300 args) w:=by simp [go_sem]
theorem ent_let (args:Array Value) (w:World):(callFunc 279 args).run Tryz.prog w=.ok (.enter 279 args) w:=by simp [go_sem]
theorem leadd_any (t:ByteArray) (w:World) (hs:t.size≤4611686018427387904):Calls Tryz.prog 302 #[.string t,.func (.func 300) #[] #[]] w fun e w'=>e=.returned (.int .i64 (leadN digB t))∧Below w.heap.size w w':=lead_any digB 300 ent_dig isdig_any t w hs
theorem leadl_any (t:ByteArray) (w:World) (hs:t.size≤4611686018427387904):Calls Tryz.prog 302 #[.string t,.func (.func 279) #[] #[]] w fun e w'=>e=.returned (.int .i64 (leadN letB t))∧Below w.heap.size w w':=lead_any letB 279 ent_let islet_any t w hs
theorem below_drewN {B:Nat} {a w:World} (h:Below B a w) (n:Nat):Below B a (w.drewN n):=h.trans ⟨rfl,rfl,rfl,Nat.le_refl _,fun _ _=>rfl⟩
def RdAt (w:World) (q:Nat) (s:ByteArray) (a o:Nat) (tv:Value):Prop:=w.heap[q]?=some (.cells #[.string s,.int .i64 a,.int .i64 o,tv] 333 (0,0))
section
variable {w w':World} {q a o:Nat} {s:ByteArray} {tv:Value}
theorem RdAt.lt (h:RdAt w q s a o tv):q<w.heap.size:=(Array.getElem?_eq_some_iff.1 h).1
theorem RdAt.c0 (h:RdAt w q s a o tv):w.cell? ⟨q,0,none⟩=some (.string s):=by unfold RdAt at h;simp [World.cell?,h]
theorem RdAt.c1 (h:RdAt w q s a o tv):w.cell? ⟨q,1,none⟩=some (.int .i64 a):=by unfold RdAt at h;simp [World.cell?,h]
theorem RdAt.c2 (h:RdAt w q s a o tv):w.cell? ⟨q,2,none⟩=some (.int .i64 o):=by unfold RdAt at h;simp [World.cell?,h]
theorem RdAt.c3 (h:RdAt w q s a o tv):w.cell? ⟨q,3,none⟩=some tv:=by unfold RdAt at h;simp [World.cell?,h]
theorem RdAt.fr (h:RdAt w q s a o tv) (j:Nat):w.frozen? ⟨q,j,none⟩=false:=by unfold RdAt at h;simp [World.frozen?,h]
theorem RdAt.later (h:RdAt w q s a o tv) (hB:Below w.heap.size w w'):RdAt w' q s a o tv:=(hB.block q h.lt).trans h
theorem RdAt.same (h:RdAt w q s a o tv) (hB:w'.heap[q]?=w.heap[q]?):RdAt w' q s a o tv:=hB.trans h
theorem RdAt.set1 (h:RdAt w q s a o tv) (n:Nat):RdAt (w.setCell ⟨q,1,none⟩ (.int .i64 n)) q s n o tv:=by
 unfold RdAt at *
 rw [setCell_eq_setRow w q 1 _ _ (0,0) _ h,setRow_heap w q _ _ _ _ h]
 rfl
theorem RdAt.set2 (h:RdAt w q s a o tv) (n:Nat):RdAt (w.setCell ⟨q,2,none⟩ (.int .i64 n)) q s a n tv:=by
 unfold RdAt at *
 rw [setCell_eq_setRow w q 2 _ _ (0,0) _ h,setRow_heap w q _ _ _ _ h]
 rfl
end
set_option maxHeartbeats 1000000 in
theorem next_any (q a o:Nat) (s:ByteArray) (tv:Value) (w:World) (ha:a≤s.size) (hR:RdAt w q s a o tv):Calls Tryz.prog 298 #[.pointer (some ⟨q,0,none⟩)] w fun e w'=>e=.returned (.int .u8 (nextB s a))∧Below w.heap.size w w':=by
 have c0:=hR.c0
 have c1:=hR.c1
 have hq:=hR.lt
 clear hR
 by_cases he:a=s.size
 ·subst he
  have h0:nextB s s.size=0:=by simp [nextB]
  rw [h0]
  go_enter Tryz.func298,Tryz.ntmps298
  go_wp2_with fail
  go_quiet (fail)
  go_wp2_with fail
  go_ret
  exact ⟨rfl,below_drewN (Below.refl _ _) _⟩
 ·have hlt:a<s.size:=by omega
  have h0:nextB s a=byteN s a:=by simp [nextB,he]
  have hne : ¬ (a:Int)=(s.size:Int):=by omega
  have hby:=byteN_get s a hlt
  rw [h0]
  go_enter Tryz.func298,Tryz.ntmps298
  go_wp2_with fail
  go_quiet (fail)
  go_wp2_with fail
  go_quiet (fail)
  go_wp2_with fail
  go_ret
  exact ⟨rfl,below_drewN (below_drewN (Below.refl _ _) _) _⟩
theorem stop_any (q a o:Nat) (s:ByteArray) (tv:Value) (w:World) (hR:RdAt w q s a o tv):Calls Tryz.prog 283 #[.pointer (some ⟨q,0,none⟩)] w fun e w'=>e=.panicked [{ v:=.iface 331 (.int .i64 a),recovered:=false }]∧Below w.heap.size w w':=by
 have c1:=hR.c1
 clear hR
 go_enter Tryz.func283,Tryz.ntmps283
 go_wp2
 exact ⟨rfl,rfl,Below.refl _ _⟩
structure Kept (N:Nat) (X:Nat→Prop) (w w':World):Prop where
 os:w'.os=w.os
 tape:w'.tape=w.tape
 output:w'.output=w.output
 size:w.heap.size≤w'.heap.size
 block:∀ k,k<N→¬ X k→w'.heap[k]?=w.heap[k]?
section
variable {N:Nat} {X Y:Nat→Prop} {w w' w'':World}
theorem Kept.refl (N:Nat) (X:Nat→Prop) (w:World):Kept N X w w:=⟨rfl,rfl,rfl,Nat.le_refl _,fun _ _ _=>rfl⟩
theorem Kept.trans (h:Kept N X w w') (k:Kept N X w' w''):Kept N X w w'':=⟨k.os.trans h.os,k.tape.trans h.tape,k.output.trans h.output,Nat.le_trans h.size k.size,fun i hi hx=>(k.block i hi hx).trans (h.block i hi hx)⟩
theorem Kept.wide (h:Kept N X w w') (hx:∀ k,X k→Y k):Kept N Y w w':=⟨h.os,h.tape,h.output,h.size,fun i hi hy=>h.block i hi fun e=>hy (hx i e)⟩
theorem kept_below (h:Below w.heap.size w w') (hN:N≤w.heap.size):Kept N X w w':=⟨h.os,h.tape,h.output,h.size,fun i hi _=>h.block i (Nat.lt_of_lt_of_le hi hN)⟩
theorem kept_grown {q:Nat} (h:w.grownBy w' (some q)) (hN:N≤w.heap.size) (hX:X q):Kept N X w w':=⟨h.os,h.tape,h.output,h.size,fun i hi hx=>h.block i (Nat.lt_of_lt_of_le hi hN) fun e=>hx (by cases e;exact hX)⟩
end
theorem setCell_off (w:World) (q j k:Nat) (v:Value) (h:k≠q):(w.setCell ⟨q,j,none⟩ v).heap[k]?=w.heap[k]?:=by
 simp only [World.setCell]
 rw [Array.getElem?_modify,if_neg (fun e=>h e.symm)]
theorem grownF_refl (w:World) (r:Option Nat):w.grownBy w r:=⟨rfl,rfl,rfl,Nat.le_refl _,fun _ _ _=>rfl⟩
theorem grownF_below {w w':World} {r:Option Nat} (h:Below w.heap.size w w'):w.grownBy w' r:=⟨h.os,h.tape,h.output,h.size,fun i hi _=>h.block i hi⟩
theorem grownF_set {w w':World} {q j:Nat} {v:Value} (h:w.grownBy w' (some q)):w.grownBy (w'.setCell ⟨q,j,none⟩ v) (some q) :=
 ⟨h.os,h.tape,h.output,by simpa using h.size,fun k hk hr=>by
  have hne:k≠q:=fun e=>hr (by rw [e])
  exact (setCell_off w' q j k v hne).trans (h.block k hk hr)⟩
inductive Stp:Nat→Bool→ByteArray→Nat→Bool→Prop
 | opn (o:Nat) (t:ByteArray):t.size=1→byteN t 0=40→Stp o false t (o+1) false
 | cls (o:Nat) (t:ByteArray):t.size=1→byteN t 0=41→Stp (o+1) true t o true
 | num (o:Nat) (t:ByteArray):1≤t.size→t.size≤7→(∀ i,i<t.size→digB (byteN t i)=true)→Stp o false t o true
 | nam (o:Nat) (t:ByteArray):1≤t.size→(∀ i,i<t.size→letB (byteN t i)=true)→Stp o false t o true
 | sgn (o:Nat) (t:ByteArray):t.size=1→0≤signI (byteN t 0)→Stp o true t o false
structure Tkr (S:Type) where
 N:Nat
 p:Nat
 M:Nat
 F:Nat
 first:Array Value
 tk:S→ByteArray→S
 I:S→World→Prop
 G:Nat→Nat→Bool→S→Prop
def Tkr.fv {S:Type} (T:Tkr S):Value:=.func (.func T.F) T.first #[]
structure Tkr.Ok {S:Type} (T:Tkr S):Prop where
 small:T.M≤4611686018427387904
 ent:∀ (args:Array Value) (w:World),(callFunc T.F args).run Tryz.prog w=.ok (.enter T.F args) w
 stay:∀ (q:Nat) (st:S) (w w':World),q<T.N→q≠T.p→T.I st w→w.grownBy w' (some q)→T.I st w'
 step:∀ (a o:Nat) (ph:Bool) (st:S) (t:ByteArray) (o':Nat) (ph':Bool),Stp o ph t o' ph'→T.G a o ph st→a+t.size≤T.M→T.G (a+t.size) o' ph' (T.tk st t)
 call:∀ (a o:Nat) (ph:Bool) (st:S) (t:ByteArray) (o':Nat) (ph':Bool) (w:World),Stp o ph t o' ph'→T.G a o ph st→a+t.size≤T.M→T.N≤w.heap.size→T.I st w→Calls Tryz.prog T.F (T.first ++ #[.string t]) w fun e w'=>e=.returned (.tuple #[])∧T.I (T.tk st t) w'∧Kept T.N (fun k=>k=T.p) w w'
theorem slice_ok {s:ByteArray} {a n:Nat} (h:a+n≤s.size):(s.extract a (a+n)).size=n:=by rw [ByteArray.size_extract];omega
set_option maxHeartbeats 2000000 in
theorem word_any {S:Type} (T:Tkr S) (hT:T.Ok) (q a o oc n o':Nat) (ph ph':Bool) (s:ByteArray) (st:S) (w:World) (hs:s.size≤T.M) (hn:a+n≤s.size) (hq:q<T.N) (hqp:q≠T.p) (hN:T.N≤w.heap.size)
  (hR:RdAt w q s a oc T.fv) (hI:T.I st w) (hG:T.G a o ph st) (hS:Stp o ph (s.extract a (a+n)) o' ph') :
  Calls Tryz.prog 299 #[.pointer (some ⟨q,0,none⟩),.int .i64 n] w fun e w'=>e=.returned (.tuple #[])∧RdAt w' q s (a+n) oc T.fv∧T.I (T.tk st (s.extract a (a+n))) w'∧Kept T.N (fun k=>k=T.p∨k=q) w w':=by
 have hsm:=hT.small
 have hsz:=slice_ok hn
 obtain ⟨m,hm⟩:∃ m,a+n=m:=⟨_,rfl⟩
 rw [hm] at hn hS hsz ⊢
 have c0:=hR.c0
 have c1:=hR.c1
 have f1:=hR.fr 1
 have hqlt:=hR.lt
 have hsum:(a:Int)+(n:Int)=(m:Int):=by omega
 obtain ⟨W,hW⟩:∃ W,w.setCell ⟨q,1,none⟩ (.int .i64 (m:Int))=W:=⟨_,rfl⟩
 have hRW:RdAt W q s m oc T.fv:=by rw [←hW];exact hR.set1 m
 have hgW:w.grownBy W (some q):=by rw [←hW];exact grownF_set (grownF_refl w _)
 have hIW:=hT.stay q st w W hq hqp hI hgW
 have HC:Hid (∀ w',Below W.heap.size W w'→Calls Tryz.prog T.F (T.first ++ #[.string (s.extract a m)]) w' fun e w''=>e=.returned (.tuple #[])∧RdAt w'' q s m oc T.fv∧T.I (T.tk st (s.extract a m)) w''∧Kept T.N (fun k=>k=T.p∨k=q) w w''):=by
  intro w' hb
  have hIw':T.I st w':=hT.stay q st W w' hq hqp hIW (grownF_below hb)
  refine (hT.call a o ph st _ o' ph' w' hS hG (by omega) (Nat.le_trans hN (Nat.le_trans hgW.size hb.size)) hIw').mono ?_
  rintro e w'' ⟨rfl,h1,h2⟩
  refine ⟨rfl,?_,h1,?_⟩
  ·exact (hRW.later hb).same (h2.block q hq hqp)
  ·have k1:Kept T.N (fun k=>k=T.p∨k=q) w W:=kept_grown hgW hN (Or.inr rfl)
   have k2:Kept T.N (fun k=>k=T.p∨k=q) W w':=kept_below hb (Nat.le_trans hN hgW.size)
   exact (k1.trans k2).trans (h2.wide fun k e=>Or.inl e)
 have d0:=hRW.c0
 have d1:=hRW.c1
 have d3:=hRW.c3
 have hent:=hT.ent
 have hm1:(a:Int)≤(m:Int):=by omega
 have hm2:(m:Int)≤(s.size:Int):=by omega
 have hm3:(m:Int)≤4611686018427387904:=by omega
 have HT:Hid T.Ok:=hT
 clear hIW hgW hRW hI hG hS hR hT
 unfold Tkr.fv at *
 go_enter Tryz.func299,Tryz.ntmps299
 go_wp2_with fail
 clear c0 c1 f1 hW hsum
 go_region_law ((go_simp;refine (HC.out _ (by go_grown)).mono ?_;rintro e w2 ⟨rfl,k1,k2,k3⟩))
 all_goals (go_end0;exact ⟨rfl,k1,k2,k3⟩)
end Go.Proofs.YtfngmnhkhfgmjahGreatDoor
namespace Go.Proofs.YtfngmnhkhfgmjahGreatDoor
def sumTo (f:Nat→Nat):Nat→Nat
 | 0=>0
 | k+1=>sumTo f k+f k
theorem sumTo_congr {f g:Nat→Nat} {n:Nat} (h:∀ k,k<n→f k=g k):sumTo f n=sumTo g n:=by
 induction n with
 | zero=>rfl
 | succ n ih=>rw [sumTo,sumTo,ih fun k hk=>h k (by omega),h n (by omega)]
theorem sumTo_add (f g:Nat→Nat) (n:Nat):sumTo (fun k=>f k+g k) n=sumTo f n+sumTo g n:=by
 induction n with
 | zero=>rfl
 | succ n ih=>rw [sumTo,sumTo,sumTo,ih];omega
theorem sumTo_zero {f:Nat→Nat} {n:Nat} (h:∀ k,k<n→f k=0):sumTo f n=0:=by
 induction n with
 | zero=>rfl
 | succ n ih=>rw [sumTo,ih fun k hk=>h k (by omega),h n (by omega)]
theorem sumTo_single {f:Nat→Nat} {n k:Nat} (hk:k<n) (h:∀ j,j<n→j≠k→f j=0):sumTo f n=f k:=by
 induction n with
 | zero=>omega
 | succ n ih =>
  rw [sumTo]
  by_cases e:k=n
  ·subst e;rw [sumTo_zero fun j hj=>h j (by omega) (by omega)];omega
  ·rw [ih (by omega) fun j hj=>h j (by omega),h n (by omega) (fun x=>e x.symm)];rfl
def one (b:Bool):Nat:=if b=true then 1 else 0
theorem one_false:one false=0:=rfl
theorem inB_true {L:List Int} {i:Int}:inB L i=true↔i∈L:=by simp [inB]
theorem inB_false {L:List Int} {i:Int}:inB L i=false↔i∉L:=by simp [inB]
theorem steps_one {M:Nat→Mem} {n:Nat} (ht:Tr M n) {i:Nat} (f:Nat):∀ k:Nat,k<n→k<f→sumTo (fun p=>one (partB M i p && inB (pathOf M k) p)) n=one (inB (pathOf M k) i && !decide (k=i)):=by
 induction f with
 | zero=>intro k _ h;omega
 | succ f ih =>
  intro k hk hf
  have hp:=ht k hk
  have hc:=pathOf_cons ht hk
  have hnk:∀ j∈pathOf M (M k).parent,0≤j∧j≤(M k).parent:=pathOf_mem ht k _ (by omega) (by omega)
  have e:∀ p,p<n→one (partB M i p && inB (pathOf M k) p)=one (decide (p=k) && partB M i k)+one (partB M i p && inB (pathOf M (M k).parent) p):=by
   intro p _
   by_cases h:p=k
   ·subst h
    have h1:inB (pathOf M p) p=true:=by rw [inB_true,hc];exact List.mem_cons_self ..
    have h2:inB (pathOf M (M p).parent) p=false:=by rw [inB_false];intro h;have:=hnk _ h;omega
    rw [h1,h2];simp [one_false]
   ·have h1:inB (pathOf M k) p=inB (pathOf M (M k).parent) p:=by
     unfold inB;rw [decide_eq_decide,hc,List.mem_cons]
     constructor
     ·rintro (h3 | h3)
      ·omega
      ·exact h3
     ·exact Or.inr
    rw [h1];simp [h,one_false]
  rw [sumTo_congr e,sumTo_add,sumTo_single (f:=fun p=>one (decide (p=k) && partB M i k)) hk (fun j _ hj=>by simp [hj,one_false])]
  have hik:(inB (pathOf M k) i && !decide (k=i))=inB (pathOf M (M k).parent) i:=by
   by_cases h:k=i
   ·subst h
    have h2:inB (pathOf M (M k).parent) k=false:=by rw [inB_false];intro h;have:=hnk _ h;omega
    rw [h2];simp
   ·have h1:inB (pathOf M k) i=inB (pathOf M (M k).parent) i:=by
     unfold inB;rw [decide_eq_decide,hc,List.mem_cons]
     constructor
     ·rintro (h3 | h3)
      ·omega
      ·exact h3
     ·exact Or.inr
    rw [h1];simp [h]
  rw [hik]
  by_cases h0:(M k).parent<0
  ·rw [pathOf_neg h0,sumTo_zero (fun p _=>by simp [inB,one])]
   have:partB M i k=false:=by simp [partB];omega
   simp [this,inB,one]
  ·obtain ⟨q,hq⟩:∃ q:Nat,(M k).parent=q:=⟨(M k).parent.toNat,by omega⟩
   rw [hq,ih q (by omega) (by omega)]
   by_cases h:q=i
   ·subst h
    have h1:partB M q k=true:=by simp [partB,hq]
    have h2:inB (pathOf M q) q=true:=by rw [inB_true,pathOf_cons ht (by omega)];exact List.mem_cons_self ..
    rw [h1,h2];simp [one]
   ·have h1:partB M i k=false:=by simp [partB,hq];omega
    rw [h1];simp [h,one]
theorem part_has {M:Nat→Mem} {n:Nat} (ht:Tr M n) {i:Nat} (f:Nat):∀ k:Nat,k<n→k<f→k≠i→(i:Int)∈pathOf M k→∃ p,p<n∧partB M i p=true:=by
 induction f with
 | zero=>intro k _ h;omega
 | succ f ih =>
  intro k hk hf hne hm
  have hp:=ht k hk
  rw [pathOf_cons ht hk,List.mem_cons] at hm
  rcases hm with hm | hm
  ·omega
  ·by_cases h0:(M k).parent<0
   ·rw [pathOf_neg h0] at hm;cases hm
   ·obtain ⟨q,hq⟩:∃ q:Nat,(M k).parent=q:=⟨(M k).parent.toNat,by omega⟩
    by_cases h:q=i
    ·exact ⟨k,hk,by simp [partB,hq,h]⟩
    ·rw [hq] at hm
     exact ih q (by omega) (by omega) h hm
theorem leaf_noparts {M:Nat→Mem} {n i:Nat} (hl:leafB M n i=true):∀ p,p<n→partB M i p=false:=by
 unfold leafB at hl
 simp only [Bool.and_eq_true,Bool.not_eq_true',decide_eq_false_iff_not] at hl
 intro p hp
 cases h:partB M i p
 ·rfl
 ·exact absurd (findFrom_nonneg (q:=partB M i) hp h) hl.2
theorem leaf_parts {M:Nat→Mem} {n i:Nat} (hl:leafB M n i=true):partsOf M n i=[]:=selTo_none (leaf_noparts hl)
theorem part_weight {M:Nat→Mem} {n:Nat} (ht:Tr M n) {p i:Nat} (hp:p<n) (hpi:(M p).parent=i) (f:Nat):∀ (l:Nat) (a:Int),l<n→l<f→(p:Int)∈pathOf M l→wgt M i (pathOf M l) a=wgt M p (pathOf M l) a*(M p).sign:=by
 induction f with
 | zero=>intro l _ _ h;omega
 | succ f ih =>
  intro l a hl hf hm
  have h1:=ht l hl
  have h2:=ht p hp
  rw [pathOf_cons ht hl] at hm ⊢
  by_cases h:l=p
  ·subst h
   rw [wgt_hit,wgt_miss (by omega),hpi,pathOf_cons ht (by omega),wgt_hit]
   simp
  ·rcases List.mem_cons.1 hm with hm | hm
   ·omega
   ·have h3:=pathOf_mem ht l (M l).parent (by omega) (by omega) _ hm
    rw [wgt_miss (by omega),wgt_miss (by omega)]
    obtain ⟨q,hq⟩:∃ q:Nat,(M l).parent=q:=⟨(M l).parent.toNat,by omega⟩
    rw [hq] at hm ⊢
    exact ih q _ (by omega) (by omega) hm
end Go.Proofs.YtfngmnhkhfgmjahGreatDoor
