/-
  Places by number, on plain data: how many stand ahead of a place, and the place of a number; dims of a whole and so many parts, and outlines of such dims.
-/
import Derived.Lib.Strings
import Derived.Deep.OwnRows
import Derived.Lib.Builder
import Derived.Shelf.Small.Strs
import Derived.Deep.CutBlock
import Derived.Deep.QuietTactic
import Derived.WalkSmall
import Derived.Test.YtfldgghobddgkaaGreatDoorJDAB
namespace Go.Proofs.YtfldgghobddgkaaGreatDoor
def numTo (D:Nat→Dm) (P:Nat→Nat):Nat→Nat
 | 0=>0
 | k+1=>numTo D P k*(D k).n+P k
theorem numTo_lt {D:Nat→Dm} {P:Nat→Nat} (k:Nat) (h:∀ j,j<k→P j<(D j).n):numTo D P k<prodN D k:=by
 induction k with
 | zero=>exact Nat.one_pos
 | succ k ih =>
  have h1:=ih fun j hj=>h j (by omega)
  have h2:=h k (by omega)
  rw [numTo,prodN]
  have h3:(numTo D P k+1)*(D k).n≤prodN D k*(D k).n:=Nat.mul_le_mul_right _ h1
  rw [Nat.add_mul] at h3
  omega
def outP (D:Nat→Dm) (L:List Int) (i:Nat):Bool:=decide (L.getD i 0<0) || decide (((D i).n:Int)≤L.getD i 0)
def shapeErr (D:Nat→Dm) (n:Nat) (L:List Int):Int:=if L.length≠n then 3 else if 0≤findFrom (outP D L) n 0 then 1 else 0
def placeErr (D:Nat→Dm) (n:Nat) (L:List Int):Int:=if (allErr D n).2.2≠0 then (allErr D n).2.2 else shapeErr D n L
theorem sh0 {D:Nat→Dm} {n:Nat} {L:List Int} (h:L.length≠n):shapeErr D n L=3:=by unfold shapeErr;rw [if_pos h]
theorem sh1 {D:Nat→Dm} {n:Nat} {L:List Int} (h:L.length=n) (h1:0≤findFrom (outP D L) n 0):shapeErr D n L=1:=by unfold shapeErr;rw [if_neg (by simpa using h),if_pos h1]
theorem sh2 {D:Nat→Dm} {n:Nat} {L:List Int} (h:L.length=n) (h1 : ¬ 0≤findFrom (outP D L) n 0):shapeErr D n L=0:=by unfold shapeErr;rw [if_neg (by simpa using h),if_neg h1]
theorem pe0 {D:Nat→Dm} {n:Nat} {L:List Int} (h:(allErr D n).2.2≠0):placeErr D n L=(allErr D n).2.2:=by unfold placeErr;rw [if_pos h]
theorem pe1 {D:Nat→Dm} {n:Nat} {L:List Int} (h:(allErr D n).2.2=0):placeErr D n L=shapeErr D n L:=by unfold placeErr;rw [if_neg (by simpa using h)]
structure InO (D:Nat→Dm) (n:Nat) (L:List Int):Prop where
 right:(allErr D n).2.2=0
 len:L.length=n
 lo:∀ i,i<n→0≤L.getD i 0
 hi:∀ i,i<n→L.getD i 0<((D i).n:Int)
theorem allErr_some {D:Nat→Dm} {n:Nat} (h:(allErr D n).2.2=0):1≤n∧n≤4∧prodN D n≤3000∧∀ i,i<n→1≤(D i).n∧(D i).n≤12:=by
 have h4:=allErr_right h
 unfold allErr at h
 split at h
 ·simp at h
 ·split at h
  ·simp at h
  ·split at h
   ·rename_i h3;exact absurd h h3
   ·split at h
    ·simp at h
    ·rename_i a b c d
     exact ⟨by omega,by omega,by omega,fun i hi=>⟨(dimErr_right (h4.2 i hi)).2.1,(dimErr_right (h4.2 i hi)).2.2.1⟩⟩
theorem inO_of {D:Nat→Dm} {n:Nat} {L:List Int} (h:placeErr D n L=0):InO D n L:=by
 unfold placeErr at h
 split at h
 ·rename_i h1;exact absurd h h1
 ·rename_i h1
  unfold shapeErr at h
  split at h
  ·cases h
  ·split at h
   ·cases h
   ·rename_i h2 h3
    have hn:∀ i,i<n→outP D L i=false:=fun i hi=>by
     rcases findFrom_cases (outP D L) n 0 with ⟨_,h4⟩ | ⟨k,h4,_⟩
     ·exact h4 i (Nat.zero_le _) (by omega)
     ·rw [h4] at h3;omega
    exact ⟨by simpa using h1,by simpa using h2,fun i hi=>by have:=hn i hi;simp [outP,-List.getD_eq_getElem?_getD] at this;omega,fun i hi=>by have:=hn i hi;simp [outP,-List.getD_eq_getElem?_getD] at this;omega⟩
theorem InO.ok {D:Nat→Dm} {n:Nat} {L:List Int} (h:InO D n L):placeErr D n L=0:=by
 rw [pe1 h.right,sh2 h.len]
 rw [findFrom_none]
 ·decide
 ·intro j _ hj
  have h1:=h.lo j (by omega)
  have h2:=h.hi j (by omega)
  simp [outP,-List.getD_eq_getElem?_getD]
  omega
def numI (D:Nat→Dm) (L:List Int):Nat→Int
 | 0=>0
 | k+1=>numI D L k*((D k).n:Int)+L.getD k 0
theorem numI_nat {D:Nat→Dm} {L:List Int} (k:Nat) (h:∀ i,i<k→0≤L.getD i 0):numI D L k=(numTo D (fun i=>(L.getD i 0).toNat) k:Int):=by
 induction k with
 | zero=>rfl
 | succ k ih =>
  have:=h k (by omega)
  rw [numI,numTo,ih fun i hi=>h i (by omega),Int.natCast_add,Int.natCast_mul,Int.toNat_of_nonneg this]
theorem prodN_small {D:Nat→Dm} {k:Nat} (h:∀ j,j<k→(D j).n≤12) (hk:k≤4):prodN D k≤20736:=by
 have h1:=prodN_le h
 have h2:12 ^ k≤12 ^ 4:=Nat.pow_le_pow_right (by decide) hk
 have h3:(12:Nat) ^ 4=20736:=by decide
 omega
theorem numI_bound {D:Nat→Dm} {n:Nat} {L:List Int} (h:InO D n L) {k:Nat} (hk:k≤n):0≤numI D L k∧numI D L k<(prodN D k:Int)∧prodN D k≤20736:=by
 obtain ⟨_,h4,_,hd⟩:=allErr_some h.right
 rw [numI_nat k fun i hi=>h.lo i (by omega)]
 have h1:=numTo_lt (D:=D) (P:=fun i=>(L.getD i 0).toNat) k fun j hj=>by
  have:=h.lo j (by omega)
  have:=h.hi j (by omega)
  omega
 refine ⟨by omega,by omega,prodN_small (fun j hj=>(hd j (by omega)).2) (by omega)⟩
theorem mem_name {M:Nat→Mem} {i:Nat} (h:memErr M i=0):nameErr (M i).name=0:=by
 unfold memErr at h
 split at h
 ·simp at h
 ·rename_i h1;simpa using h1
end Go.Proofs.YtfldgghobddgkaaGreatDoor
namespace Go.Proofs.YtfldgghobddgkaaGreatDoor
open Go.ChangeShapes Go.WideShapes Go.ChangeAt Go.RowKit
set_option maxRecDepth 20000
def PlAt (w:World) (A:Option Addr) (cap:Nat) (L:List Int):Prop:=L.length≤cap∧(L=[]∨∃ b o,A=some ⟨b,o,none⟩∧b<w.heap.size∧∀ j,j<L.length→w.cell? ⟨b,o+j,none⟩=some (.int .i64 (L.getD j 0)))
theorem PlAt.later {w w':World} {A:Option Addr} {cap:Nat} {L:List Int} (h:PlAt w A cap L) (hB:Below w.heap.size w w'):PlAt w' A cap L:=by
 obtain ⟨h1,h2 | ⟨b,o,h2,h3,h4⟩⟩:=h
 ·exact ⟨h1,Or.inl h2⟩
 ·exact ⟨h1,Or.inr ⟨b,o,h2,Nat.lt_of_lt_of_le h3 hB.size,fun j hj=>(hB.cell (p:=⟨b,o+j,none⟩) h3).trans (h4 j hj)⟩⟩
theorem PlAt.nil (w:World) (A:Option Addr) (cap:Nat):PlAt w A cap []:=⟨Nat.zero_le _,Or.inl rfl⟩
def NewA (N:Nat) (A:Option Addr):Prop := ∀ b o,A=some ⟨b,o,none⟩→N≤b
def IntB (w:World) (g:Nat) (L:List Int):Prop:=w.heap[g]?=some (.cells (L.map (Value.int .i64)).toArray 3 (0,0))
theorem IntB.lt {w:World} {g:Nat} {L:List Int} (h:IntB w g L):g<w.heap.size:=(Array.getElem?_eq_some_iff.1 h).1
theorem IntB.cell {w:World} {g:Nat} {L:List Int} (h:IntB w g L) {j:Nat} (hj:j<L.length):w.cell? ⟨g,j,none⟩=some (.int .i64 (L.getD j 0)):=by
 rw [Lib.cell_of_heap h]
 simp [List.getD,hj]
theorem IntB.frozen {w:World} {g:Nat} {L:List Int} (h:IntB w g L) (j:Nat):w.frozen? ⟨g,j,none⟩=false:=Lib.frozen_of_heap h j
theorem IntB.later {w w':World} {g:Nat} {L:List Int} (h:IntB w g L) (hB:Below w.heap.size w w'):IntB w' g L:=(hB.block g h.lt).trans h
theorem IntB.set {w:World} {g:Nat} {L:List Int} (h:IntB w g L) (j:Nat) (x:Int):IntB (w.setCell ⟨g,j,none⟩ (.int .i64 x)) g (L.set j x):=by
 unfold IntB at *
 have e:(L.set j x).map (Value.int .i64)=(L.map (Value.int .i64)).set j (.int .i64 x):=by rw [List.map_set]
 simp [World.setCell,Array.getElem?_modify,h,e]
theorem made_ints (n:Nat):madeCells #[.int .i64 0] n=((List.replicate n (0:Int)).map (Value.int .i64)).toArray:=by
 apply Array.ext
 ·simp [madeCells]
 ·intro i h1 h2
  simp [madeCells,Nat.mod_one]
theorem IntB.made (w:World) (n:Nat):IntB (w.alloc (.cells (madeCells #[.int .i64 0] n) 3)) w.heap.size (List.replicate n 0):=by
 unfold IntB
 rw [made_ints]
 exact heap_alloc_new w _
theorem Tryz.infoIntP:(Tryz.prog.info? 3).map (fun i=>(i.zero,i.size,i.bytes))=some (some (.int .i64 0),1,8):=by kernel_rfl
theorem checko_any (A0:Option Addr) (cap n:Nat) (D:Nat→Dm) (A:Nat→Option Addr) (C:Nat→Nat) (w:World) (hM:DimsV w A0 cap n D A C):Calls Tryz.prog 114 #[.agg #[.slice A0 n cap]] w fun e w'=>e=.returned (errV (allErr D n).2.2)∧Below w.heap.size w w':=by
 have hB0:=ownOut_below w A0 n cap 24
 have h:=all_any A0 cap n D A C (ownOut w A0 n cap 24) (hM.later hB0)
 have HB0:Hid (Below w.heap.size w (ownOut w A0 n cap 24)):=hB0
 clear hM hB0
 generalize errV (allErr D n).2.2=v at h
 generalize (allErr D n).1=x at h
 generalize (allErr D n).2.1=y at h
 go_enter Tryz.func114,Tryz.ntmps114
 go_wp2_with fail
 refine h.mono ?_
 rintro e w1 ⟨rfl,hb1⟩
 go_wp2_with fail
 go_ret
 exact ⟨rfl,onB HB0.out hb1⟩
theorem pl_ints {w:World} {A:Option Addr} {cap:Nat} {L:List Int} (h:IntsAt w A cap L):PlAt w A cap L:=by
 obtain ⟨h1,h2 | ⟨b,h2,h3,h4⟩⟩:=h
 ·exact ⟨h1,Or.inl h2⟩
 ·exact ⟨h1,Or.inr ⟨b,0,h2,h3,fun j hj=>by rw [Nat.zero_add];exact h4 j hj⟩⟩
set_option maxHeartbeats 1000000 in
theorem indexm_pl (F:Nat) (cap:Array Value) (p:Int→Bool) (hent:∀ (args:Array Value) (w:World),(callFunc F args).run Tryz.prog w=.ok (.enter F args) w) (A:Option Addr) (c:Nat) (L:List Int) (w:World) (hn:L.length≤1048576) (hL:PlAt w A c L)
  (hF:∀ (x:Int) (w':World),x∈L→Below w.heap.size w w'→Calls Tryz.prog F (#[.int .i64 x] ++ cap) w' fun e w''=>e=.returned (.bool (p x))∧Below w'.heap.size w' w'') :
  Calls Tryz.prog 134 #[.slice A L.length c,.func (.func F) #[] cap] w fun e w'=>e=.returned (.int .i64 (findFrom (fun j=>p (L.getD j 0)) L.length 0))∧Below w.heap.size w w':=by
 obtain ⟨hc,h0 | ⟨b,o,rfl,hbw,hcell⟩⟩:=hL
 ·subst h0
  simp only [List.length_nil]
  go_enter Tryz.func134,Tryz.ntmps134
  go_wp2_with fail
  refine wp_loop_rounds 1 ?_
  rw [rounds_succ]
  go_wp2_with fail
  go_ret
  exact ⟨rfl,Below.refl _ _⟩
 ·have HC:Hid (∀ j,j<L.length→w.cell? ⟨b,o+j,none⟩=some (.int .i64 (L.getD j 0))):=hcell
  have HF:Hid (∀ (x:Int) (w':World),x∈L→Below w.heap.size w w'→Calls Tryz.prog F (#[.int .i64 x] ++ cap) w' fun e w''=>e=.returned (.bool (p x))∧Below w'.heap.size w' w''):=hF
  obtain ⟨pj,hpj⟩:∃ pj:Nat→Bool,pj=fun j=>p (L.getD j 0):=⟨_,rfl⟩
  have HP:Hid (∀ j,pj j=p (L.getD j 0)):=fun j=>by rw [hpj]
  rw [←hpj]
  obtain ⟨n,hnn⟩:∃ n,L.length=n:=⟨_,rfl⟩
  have HNn:Hid (L.length=n):=hnn
  rw [hnn] at hn hc HC ⊢
  clear hcell hpj hnn hF
  go_enter Tryz.func134,Tryz.ntmps134
  go_wp2_with fail
  go_loopg [8] n (fun g s8 wr => ∃ (k:Nat),k≤n∧g=n-k∧s8=.int .i64 k∧findFrom pj (n-k) k=findFrom pj n 0∧Below w.heap.size w wr)
  case atStart=>exact ⟨0,Nat.zero_le _,rfl,rfl,rfl,Below.refl _ _⟩
  case round =>
   obtain ⟨k,hk,rfl,rfl,hf,hBw⟩:=hrel
   have HQ:Hid (findFrom pj (n-k) k=findFrom pj n 0):=hf
   have HW:Hid (Below w.heap.size w wr):=hBw
   clear hf
   by_cases hlt:k<n
   ·have hki:(k:Int)<(n:Int):=by omega
    have hcx:=(hBw.cell (p:=⟨b,o+k,none⟩) hbw).trans (HC.out k hlt)
    have hn':(n:Int)≤1048576:=by omega
    have hpk:=HP.out k
    have HSK:Hid (n-k=(n-(k+1))+1):=by show _=_;omega
    have hbd:=HF.out (L.getD k 0) wr (by rw [List.getD_eq_getElem?_getD,List.getElem?_eq_getElem (by rw [HNn.out];exact hlt)];exact List.getElem_mem _) hBw
    rw [←hpk] at hbd
    generalize L.getD k 0=x at hcx hpk hbd
    clear hBw hpk
    cases hb:pj k
    ·rw [hb] at hbd
     have HK:Hid (pj k=false):=hb
     clear hb
     go_wp2_with fail
     refine hbd.mono ?_
     rintro e w1 ⟨rfl,hb1⟩
     go_wp2_with fail
     go_roundg (n-(k+1))
     case measure=>omega
     case rel=>exact ⟨k+1,by omega,rfl,by go_num,by rw [←HQ.out,HSK.out,findFrom_miss _ HK.out],onB HW.out hb1⟩
    ·rw [hb] at hbd
     have HK:Hid (pj k=true):=hb
     clear hb
     go_wp2_with fail
     refine hbd.mono ?_
     rintro e w1 ⟨rfl,hb1⟩
     go_wp2_with fail
     go_ret
     exact ⟨by rw [←HQ.out,HSK.out,findFrom_hit _ HK.out];rfl,onB HW.out hb1⟩
   ·have hke:k=n:=by omega
    subst hke
    go_wp2_with fail
    go_ret
    exact ⟨by rw [←HQ.out,Nat.sub_self];rfl,HW.out⟩
theorem contm_pl (F:Nat) (cap:Array Value) (p:Int→Bool) (hent:∀ (args:Array Value) (w:World),(callFunc F args).run Tryz.prog w=.ok (.enter F args) w) (A:Option Addr) (c:Nat) (L:List Int) (w:World) (hn:L.length≤1048576) (hL:PlAt w A c L)
  (hF:∀ (x:Int) (w':World),x∈L→Below w.heap.size w w'→Calls Tryz.prog F (#[.int .i64 x] ++ cap) w' fun e w''=>e=.returned (.bool (p x))∧Below w'.heap.size w' w'') :
  Calls Tryz.prog 135 #[.slice A L.length c,.func (.func F) #[] cap] w fun e w'=>e=.returned (.bool (decide (0≤findFrom (fun j=>p (L.getD j 0)) L.length 0)))∧Below w.heap.size w w':=by
 have h:=indexm_pl F cap p hent A c L w hn hL hF
 generalize findFrom (fun j=>p (L.getD j 0)) L.length 0=r at *
 clear hF hL
 go_enter Tryz.func135,Tryz.ntmps135
 go_wp2_with fail
 refine h.mono ?_
 rintro e w1 ⟨rfl,hb1⟩
 go_wp2_with fail
 go_ret
 exact ⟨rfl,hb1⟩
end Go.Proofs.YtfldgghobddgkaaGreatDoor
namespace Go.Proofs
open Go.Shelf
def Tryz.lays137_ren:Go.Shelf.Ren:=⟨fun | 137=>139 | 217=>155 | 266=>176 | n=>n,fun | 9=>9 | 5=>5 | 3=>3 | n=>n,fun | n=>n⟩
theorem Tryz.lays137:Go.Proofs.Lays.n137 Tryz.prog Tryz.lays137_ren:={
 mixed:=by kernel_rfl
 f137:=Tryz.func139.trans (congrArg some (by kernel_rfl))
 f217:=Tryz.func155.trans (congrArg some (by kernel_rfl))
 f266:=Tryz.func176.trans (congrArg some (by kernel_rfl))
 t3:=Tryz.underlying3
 a3:=Tryz.isAgg3
 z3:=Tryz.sizeOf3
 v3:=Tryz.zeroValue3
 t5:=Tryz.underlying5
 a5:=Tryz.isAgg5
 z5:=Tryz.sizeOf5
 v5:=Tryz.zeroValue5
 t9:=Tryz.underlying9
 a9:=Tryz.isAgg9
 z9:=Tryz.sizeOf9
 v9:=Tryz.zeroValue9 }
namespace YtfldgghobddgkaaGreatDoor
open Go.ChangeShapes Go.WideShapes Go.ChangeAt Go.RowKit
theorem signI_fin:∀ c:Fin 256,Lib.indexByte [43,45,42,47] c.val.toUInt8=signI (c.val:Int):=by decide +kernel
theorem signI_eq (c:Int) (h0:0≤c) (h1:c<256):Lib.indexByte [43,45,42,47] c.toNat.toUInt8=signI c:=by
 have h:=signI_fin ⟨c.toNat,by omega⟩
 simp only at h
 rw [h,show ((c.toNat:Nat):Int)=c by omega]
theorem signix_any (c:Int) (h0:0≤c) (h1:c<256) (w:World):Calls Tryz.prog 139 #[.string ⟨#[43,45,42,47]⟩,.int .u8 c] w fun e w'=>e=.returned (.int .i64 (signI c))∧Below w.heap.size w w' :=
 (Any.strings_IndexByte Tryz.lays137 ⟨#[43,45,42,47]⟩ c w).mono fun e w' ⟨he,hw⟩=>⟨by rw [he,signI_eq c h0 h1],by rw [hw];exact Below.refl _ _⟩
theorem byteN_range (s:ByteArray) (i:Nat):0≤byteN s i∧byteN s i<256:=by
 unfold byteN
 have:=(s.data.toList.getD i 0).toNat_lt
 omega
theorem nextB_range (s:ByteArray) (i:Nat):0≤nextB s i∧nextB s i<256:=by
 unfold nextB
 split
 ·omega
 ·exact byteN_range s i
end YtfldgghobddgkaaGreatDoor
end Go.Proofs
namespace Go.Proofs.YtfldgghobddgkaaGreatDoor
open Go.ChangeShapes Go.WideShapes Go.ChangeAt Go.RowKit
set_option maxRecDepth 20000
theorem samepl_end {a b:List Int} (hl:a.length=b.length) {k:Nat} (hk:a.length≤k) (h:∀ j,j<k→a.getD j 0=b.getD j 0):a=b:=by
 apply List.ext_getElem hl
 intro i h1 h2
 have:=h i (by omega)
 simpa [List.getD,h1,h2] using this
set_option maxHeartbeats 1000000 in
theorem samepl_any (A B:Option Addr) (ca cb:Nat) (a b:List Int) (w:World) (hn:a.length≤4) (hA:PlAt w A ca a) (hB:PlAt w B cb b):Calls Tryz.prog 27 #[.slice A a.length ca,.slice B b.length cb] w fun e w'=>e=.returned (.bool (decide (a=b)))∧Below w.heap.size w w':=by
 by_cases hl:a.length=b.length
 ·obtain ⟨hc,h0 | ⟨g,o,rfl,hbw,hcell⟩⟩:=hA
  ·subst h0
   have h1:b=[]:=List.eq_nil_of_length_eq_zero hl.symm
   subst h1
   simp only [List.length_nil]
   go_enter Tryz.func27,Tryz.ntmps27
   go_wp2_with fail
   refine wp_loop_rounds 1 ?_
   rw [rounds_succ]
   go_wp2_with fail
   go_ret
   exact ⟨rfl,Below.refl _ _⟩
  ·obtain ⟨hc',h0 | ⟨g',o',rfl,hbw',hcell'⟩⟩:=hB
   ·subst h0
    have h1:a=[]:=List.eq_nil_of_length_eq_zero hl
    subst h1
    simp only [List.length_nil]
    go_enter Tryz.func27,Tryz.ntmps27
    go_wp2_with fail
    refine wp_loop_rounds 1 ?_
    rw [rounds_succ]
    go_wp2_with fail
    go_ret
    exact ⟨rfl,Below.refl _ _⟩
   ·have HC:Hid (∀ j,j<a.length→w.cell? ⟨g,o+j,none⟩=some (.int .i64 (a.getD j 0))):=hcell
    have HC':Hid (∀ j,j<a.length→w.cell? ⟨g',o'+j,none⟩=some (.int .i64 (b.getD j 0))):=fun j hj=>hcell' j (by omega)
    have HE:Hid (∀ k,a.length≤k→(∀ j,j<k→a.getD j 0=b.getD j 0)→decide (a=b)=true):=fun k hk h=>decide_eq_true (samepl_end hl hk h)
    have HN:Hid (∀ k,a.getD k 0≠b.getD k 0→decide (a=b)=false):=fun k h=>decide_eq_false fun e=>h (by rw [e])
    rw [←hl]
    rw [←hl] at hc'
    generalize hnn:a.length=n at hn hc hc' HC HC' HE
    generalize decide (a=b)=res at HE HN
    clear hcell hcell' hnn hl
    have hn':(n:Int)≤4:=by omega
    go_enter Tryz.func27,Tryz.ntmps27
    go_wp2_with fail
    go_loopg [5] n (fun gg s5 wr => ∃ (k:Nat),k≤n∧gg=n-k∧s5=.int .i64 k∧(∀ j,j<k→a.getD j 0=b.getD j 0)∧Below w.heap.size w wr)
    case atStart=>exact ⟨0,Nat.zero_le _,rfl,rfl,fun j hj=>absurd hj (Nat.not_lt_zero _),Below.refl _ _⟩
    case round =>
     obtain ⟨k,hk,rfl,rfl,hsame,hBw⟩:=hrel
     have HBw:Hid (Below w.heap.size w wr):=hBw
     have HS:Hid (∀ j,j<k→a.getD j 0=b.getD j 0):=hsame
     clear hsame
     by_cases hlt:k<n
     ·have hki:(k:Int)<(n:Int):=by omega
      have x1:=(hBw.cell (p:=⟨g,o+k,none⟩) hbw).trans (HC.out k hlt)
      have x2:=(hBw.cell (p:=⟨g',o'+k,none⟩) hbw').trans (HC'.out k hlt)
      by_cases hxy:a.getD k 0=b.getD k 0
      ·have HXY:Hid (a.getD k 0=b.getD k 0):=hxy
       rw [←hxy] at x2
       generalize a.getD k 0=x at x1 x2
       clear hBw hxy
       go_wp2_with fail
       go_quiet (fail)
       go_wp2_with fail
       go_roundg (n-(k+1))
       case measure=>omega
       case rel =>
        refine ⟨k+1,by omega,rfl,by go_num,fun j hj=>?_,below_drewN HBw.out _⟩
        rcases Nat.lt_succ_iff_lt_or_eq.1 hj with h1 | rfl
        ·exact HS.out j h1
        ·exact HXY.out
      ·have HR:Hid (res=false):=HN.out k hxy
       generalize a.getD k 0=x at x1 hxy
       generalize b.getD k 0=y at x2 hxy
       clear hBw
       go_wp2_with fail
       go_quiet (fail)
       go_wp2_with fail
       go_ret
       rw [HR.out]
       exact ⟨rfl,below_drewN HBw.out _⟩
     ·have hke:k=n:=by omega
      subst hke
      have HR:Hid (res=true):=HE.out k (Nat.le_refl _) HS.out
      go_wp2_with fail
      go_ret
      rw [HR.out]
      exact ⟨rfl,hBw⟩
 ·have hr:decide (a=b)=false:=decide_eq_false fun e=>hl (by rw [e])
  rw [hr]
  have hl' : ¬ ((a.length:Int)=(b.length:Int)):=by omega
  clear hA hB hr
  generalize a.length=n at hl hl' hn
  generalize b.length=m at hl hl'
  go_enter Tryz.func27,Tryz.ntmps27
  go_wp2_with fail
  go_ret
  exact ⟨rfl,Below.refl _ _⟩
end Go.Proofs.YtfldgghobddgkaaGreatDoor
