/-
  What Parts, Path and Leaf of package tree answer: of a dim and a place the parts, the path, whether it is a leaf, or what is wrong.
-/
import Derived.Deep.QuietTactic
import Derived.WalkSmall
import Derived.LaidEql
import Derived.Stop.Asserts
import Derived.RowKitTokens
import Derived.Test.YtenlladggdcfnaaGreatDoorJAAG
namespace Go.Proofs.YtenlladggdcfnaaGreatDoor
open Go.ChangeShapes Go.WideShapes Go.ChangeAt Go.RowKit
set_option maxRecDepth 20000
theorem parts1_in:EntersO 139:=fun args w=>by simp [callFunc,Tryz.func139];rfl
theorem parts1_any (b o n cap k q r:Nat) (M:Nat→Mem) (i:Int) (w:World) (hk:k<n) (hn:n≤12) (hM:MemsAt w b o n M) (hq:w.cell? ⟨q,2,none⟩=some (.slice (some ⟨b,o,none⟩) n cap)) (hr:w.cell? ⟨r,0,none⟩=some (.int .i64 i)) :
  Calls Tryz.prog 139 #[.int .i64 k,.pointer (some ⟨q,0,none⟩),.pointer (some ⟨r,0,none⟩)] w fun e w'=>e=.returned (.bool (partB M i k))∧Below w.heap.size w w':=by
 obtain ⟨-,h1,-,-⟩:=hM.2 k hk
 have hki:(k:Int)<(n:Int):=by omega
 have hn':(n:Int)≤12:=by omega
 unfold partB
 clear hM
 go_enter Tryz.func139,Tryz.ntmps139
 go_wp2_with fail
 go_quiet (fail)
 go_wp2_with fail
 go_ret
 exact ⟨by simp,below_drewN (Below.refl _ _) _⟩
def lst (c:Int) (L:List Int):List Int:=if c=0 then L else []
theorem lst_ok {c:Int} (h:c=0) (L:List Int):lst c L=L:=by simp [lst,h]
theorem lst_bad {c:Int} (h:c≠0) (L:List Int):lst c L=[]:=by simp [lst,h]
theorem treeErr_right {d:Dm} {L:List Int} (h:treeErr d L=0):(dimErr d).2=0:=by
 unfold treeErr at h
 split at h
 ·rename_i h1;exact absurd h h1
 ·rename_i h1;simpa using h1
theorem treeErr_in {d:Dm} {i:Int} (h:treeErr d [i]=0):(dimErr d).2=0∧∃ k:Nat,i=k∧k<d.n:=by
 have h0:=treeErr_right h
 rw [treeErr_one h0] at h
 by_cases h1:i<0∨(d.n:Int)≤i
 ·rw [if_pos h1] at h;cases h
 ·exact ⟨h0,i.toNat,by omega,by omega⟩
theorem ints_one {w:World} {i:Int} {T:Nat}:IntsAt (ownInt w i T) (some ⟨w.heap.size,0,none⟩) 1 [i]:=by
 refine ⟨Nat.le_refl _,Or.inr ⟨_,rfl,by rw [ownInt_size];omega,fun j hj=>?_⟩⟩
 have hj0:j=0:=by simp at hj;omega
 subst hj0
 exact ownInt_at w i T
def ownP (w:World) (d:Dm) (A:Option Addr) (cap:Nat) (i:Int) (T T':Nat):World:=ownInt (ownDim w d A cap T) i T'
theorem ownP_size (w:World) (d:Dm) (A:Option Addr) (cap:Nat) (i:Int) (T T':Nat):(ownP w d A cap i T T').heap.size=w.heap.size+2:=by unfold ownP;rw [ownInt_size,ownDim_size]
theorem ownP_below (w:World) (d:Dm) (A:Option Addr) (cap:Nat) (i:Int) (T T':Nat):Below w.heap.size w (ownP w d A cap i T T'):=onB (ownDim_below w d A cap T) (ownInt_below _ i T')
theorem ownP_dim (w:World) (d:Dm) (A:Option Addr) (cap:Nat) (i:Int) (T T':Nat):(ownP w d A cap i T T').cell? ⟨w.heap.size,2,none⟩=some (.slice A d.n cap) :=
 ((ownInt_below (ownDim w d A cap T) i T').cell (p:=⟨w.heap.size,2,none⟩) (by show w.heap.size<_;rw [ownDim_size];omega)).trans (ownDim_at w d A cap T).2.2
theorem ownP_int (w:World) (d:Dm) (A:Option Addr) (cap:Nat) (i:Int) (T T':Nat):(ownP w d A cap i T T').cell? ⟨w.heap.size+1,0,none⟩=some (.int .i64 i):=by
 unfold ownP
 rw [←ownDim_size w d A cap T]
 exact ownInt_at _ i T'
theorem ownP_ints (w:World) (d:Dm) (A:Option Addr) (cap:Nat) (i:Int) (T T':Nat):IntsAt (ownP w d A cap i T T') (some ⟨w.heap.size+1,0,none⟩) 1 [i]:=by
 unfold ownP
 rw [←ownDim_size w d A cap T]
 exact ints_one
def ownQ (w:World) (d:Dm) (A:Option Addr) (cap:Nat) (i:Int) (T T':Nat):World:=ownInt (ownP w d A cap i T T') i T'
theorem ownQ_size (w:World) (d:Dm) (A:Option Addr) (cap:Nat) (i:Int) (T T':Nat):(ownQ w d A cap i T T').heap.size=w.heap.size+3:=by unfold ownQ;rw [ownInt_size,ownP_size]
theorem ownQ_below (w:World) (d:Dm) (A:Option Addr) (cap:Nat) (i:Int) (T T':Nat):Below w.heap.size w (ownQ w d A cap i T T'):=onB (ownP_below w d A cap i T T') (ownInt_below _ i T')
theorem ownQ_dim (w:World) (d:Dm) (A:Option Addr) (cap:Nat) (i:Int) (T T':Nat):(ownQ w d A cap i T T').cell? ⟨w.heap.size,2,none⟩=some (.slice A d.n cap) :=
 ((ownInt_below (ownP w d A cap i T T') i T').cell (p:=⟨w.heap.size,2,none⟩) (by show w.heap.size<_;rw [ownP_size];omega)).trans (ownP_dim ..)
theorem ownQ_int (w:World) (d:Dm) (A:Option Addr) (cap:Nat) (i:Int) (T T':Nat):(ownQ w d A cap i T T').cell? ⟨w.heap.size+1,0,none⟩=some (.int .i64 i) :=
 ((ownInt_below (ownP w d A cap i T T') i T').cell (p:=⟨w.heap.size+1,0,none⟩) (by show w.heap.size+1<_;rw [ownP_size];omega)).trans (ownP_int ..)
theorem ownQ_ints (w:World) (d:Dm) (A:Option Addr) (cap:Nat) (i:Int) (T T':Nat):IntsAt (ownQ w d A cap i T T') (some ⟨w.heap.size+2,0,none⟩) 1 [i]:=by
 unfold ownQ
 rw [←ownP_size w d A cap i T T']
 exact ints_one
def lfOf (d:Dm) (i:Int):Bool:=decide (treeErr d [i]=0) && leafB d.mem d.n i.toNat
set_option maxHeartbeats 2000000 in
theorem tleaf_any (d:Dm) (A:Option Addr) (cap:Nat) (i:Int) (w:World) (hM:MemsV w A cap d.n d.mem):Calls Tryz.prog 124 #[dimV d A cap,.int .i64 i] w fun e w'=>e=.returned (.tuple #[.bool (lfOf d i),errV (treeErr d [i])])∧Below w.heap.size w w':=by
 have hB0:=ownP_below w d A cap i 81 3
 have hck:=tcheck_any d A cap _ 1 [i] (ownP w d A cap i 81 3) (hM.later hB0) (by simp) (ownP_ints ..)
 have HB0:Hid (Below w.heap.size w (ownP w d A cap i 81 3)):=hB0
 have HM:Hid (MemsV w A cap d.n d.mem):=hM
 unfold dimV at hck ⊢
 simp only [List.length_singleton] at hck
 clear hM hB0
 by_cases he:treeErr d [i]=0
 ·obtain ⟨hd,k,rfl,hk⟩:=treeErr_in he
  rw [he,errV_zero] at hck
  obtain ⟨-,-,hd2,-⟩:=dimErr_right hd
  have HR:Hid (lfOf d (k:Int)=leafB d.mem d.n k):=by show _=_;simp [lfOf,he]
  have HE:Hid (errV (treeErr d [(k:Int)])=.nilIface):=by show _=_;rw [he];rfl
  clear he hd
  go_enter Tryz.func124,Tryz.ntmps124
  go_wp2_with fail
  refine hck.mono ?_
  rintro e w1 ⟨rfl,hb1⟩
  have hB:Below w.heap.size w w1:=onB HB0.out hb1
  have h2:w1.cell? ⟨w.heap.size,2,none⟩=some (.slice A d.n cap):=(hb1.cell (p:=⟨w.heap.size,2,none⟩) (by show w.heap.size<_;rw [ownP_size];omega)).trans (ownP_dim ..)
  obtain ⟨hcap,h0 | ⟨b,o,rfl,hMs⟩⟩:=HM.out.later hB
  ·omega
  have hpl:=isleaf_any b o d.n cap k d.mem w1 hd2 hk hMs
  have HB:Hid (Below w.heap.size w w1):=hB
  clear hb1 hck hMs hB
  go_wp2_with fail
  refine hpl.mono ?_
  rintro e w2 ⟨rfl,hb2⟩
  go_wp2_with fail
  go_ret2
  rw [HR.out,HE.out]
  exact ⟨rfl,onB HB.out hb2⟩
 ·have HR:Hid (lfOf d i=false):=by show _=_;simp [lfOf,he]
  have HE:Hid (errV (treeErr d [i])=.iface 46 (.int .i64 (treeErr d [i]))):=errV_some he
  rw [errV_some he] at hck
  clear he
  generalize treeErr d [i]=c at hck HE
  go_enter Tryz.func124,Tryz.ntmps124
  go_wp2_with fail
  refine hck.mono ?_
  rintro e w1 ⟨rfl,hb1⟩
  go_wp2_with fail
  go_ret2
  rw [HR.out,HE.out]
  exact ⟨rfl,onB HB0.out hb1⟩
theorem own_low {w:World} {b b' e size n:Nat} {v:Value} {xs:List Value} (h:w.ownsRow b e size v n xs) (hb:b'≤b):w.ownsRow b' e size v n xs:=by
 refine ⟨h.1,?_⟩
 rcases h.2 with h0 | ⟨g,cap,cur,h1,h2,h3⟩
 ·exact Or.inl h0
 ·exact Or.inr ⟨g,cap,cur,h1,Nat.le_trans hb h2,h3⟩
set_option maxHeartbeats 2000000 in
theorem places_own (fn q r:Nat) (he:EntersO fn) (A:Option Addr) (n cap:Nat) (p:Nat→Bool) (w:World) (hn:n≤12) (hp:AskP fn q r w n p):Calls Tryz.prog 99 #[.slice A n cap,.func (.func fn) #[] #[.pointer (some ⟨q,0,none⟩),.pointer (some ⟨r,0,none⟩)]] w fun e w'=>(∃ v,e=.returned v∧w'.ownsRow w.heap.size 3 1 v (selTo p n).length (mapI (selTo p n)))∧Below w.heap.size w w':=by
 obtain ⟨i0,hi0,hz0,hz1,hz2⟩:=info_parts Tryz.infoInt
 have HP:Hid (AskP fn q r w n p):=hp
 have hn':(n:Int)≤12:=by omega
 clear hp
 unfold EntersO at he
 go_enter Tryz.func99,Tryz.ntmps99
 go_wp2_with fail
 go_loopg [5,9] n (fun g s5 s9 wr => ∃ (k:Nat),k≤n∧g=n-k∧s9=.int .i64 k∧wr.ownsRow w.heap.size 3 1 s5 (selTo p k).length (mapI (selTo p k))∧Below w.heap.size w wr)
 case atStart=>exact ⟨0,Nat.zero_le _,rfl,rfl,World.ownsRow_nil _ _ _ _,Below.refl _ _⟩
 case round =>
  obtain ⟨k,hk,rfl,rfl,hown,hBw⟩:=hrel
  have HW:Hid (Below w.heap.size w wr):=hBw
  have HO:Hid (wr.ownsRow w.heap.size 3 1 _ (selTo p k).length (mapI (selTo p k))):=hown
  by_cases hlt:k<n
  ·have hki:(k:Int)<(n:Int):=by omega
   have hbd:=HP.out k wr hlt hBw
   clear hBw hown
   cases hb:p k
   ·rw [hb] at hbd
    have HK:Hid (p k=false):=hb
    clear hb
    go_wp2_with fail
    refine hbd.mono ?_
    rintro e w1 ⟨rfl,hb1⟩
    go_wp2_with fail
    go_roundg (n-(k+1))
    case measure=>omega
    case rel=>exact ⟨k+1,by omega,rfl,by go_num,by rw [selTo_miss HK.out];exact own_later HO.out hb1,onB HW.out hb1⟩
   ·rw [hb] at hbd
    have HK:Hid (p k=true):=hb
    have hlen:=selTo_len p k
    clear hb
    go_wp2_with fail
    refine hbd.mono ?_
    rintro e w1 ⟨rfl,hb1⟩
    have hown:=own_later HO.out hb1
    have hB1:=onB HW.out hb1
    have hsz:=hB1.size
    have HB1:Hid (Below w.heap.size w w1):=hB1
    clear hb1 hB1
    go_wp2_with (at_builtin;refine wpList_append_own _ rfl _ _ 22 rfl w.heap.size 3 i0 (.int .i64 0) 1 8 Tryz.underlying22 hi0 hz0 hz1 hz2 rfl (by decide) _ _ _ rfl (hown.alloc _) ⟨w1.heap.size,0,none⟩ 1 1 [.int .i64 k] rfl rfl one_cell one_one (by unfold maxLen;omega) (by omega) (by simp;omega) ?_)
    intro v' w2 hown' hgrow _
    have HB2:Hid (Below w.heap.size w w2):=grown_own HB1.out hown hgrow
    have HO2:Hid (w2.ownsRow w.heap.size 3 1 v' (selTo p (k+1)).length (mapI (selTo p (k+1)))):=by
     show World.ownsRow ..
     rw [selTo_hit HK.out,mapI_snoc,List.length_append];exact hown'
    clear hown' hgrow hown
    go_wp2_with fail
    go_roundg (n-(k+1))
    case measure=>omega
    case rel=>exact ⟨k+1,by omega,rfl,by go_num,HO2.out,HB2.out⟩
  ·have hke:k=n:=by omega
   subst hke
   clear hBw hown
   go_wp2_with fail
   go_ret
   exact ⟨⟨_,rfl,HO.out⟩,HW.out⟩
set_option maxHeartbeats 2000000 in
theorem parts_own (d:Dm) (A:Option Addr) (cap:Nat) (k:Nat) (w:World) (hd:(dimErr d).2=0) (hk:k<d.n) (hM:MemsV w A cap d.n d.mem):Calls Tryz.prog 119 #[dimV d A cap,.int .i64 k] w fun e w'=>(∃ v,e=.returned (.tuple #[v,.nilIface])∧w'.ownsRow w.heap.size 3 1 v (partsOf d.mem d.n k).length (mapI (partsOf d.mem d.n k)))∧Below w.heap.size w w':=by
 have hB0:=ownQ_below w d A cap k 81 3
 have hck:=tcheck_any d A cap _ 1 [(k:Int)] (ownQ w d A cap k 81 3) (hM.later hB0) (by simp) (ownQ_ints ..)
 have HB0:Hid (Below w.heap.size w (ownQ w d A cap k 81 3)):=hB0
 have HM:Hid (MemsV w A cap d.n d.mem):=hM
 unfold dimV at hck ⊢
 simp only [List.length_singleton] at hck
 clear hM hB0
 have he:treeErr d [(k:Int)]=0:=by rw [treeErr_one hd,if_neg (by omega)]
 ·rw [he,errV_zero] at hck
  obtain ⟨-,-,hd2,-⟩:=dimErr_right hd
  clear he hd
  go_enter Tryz.func119,Tryz.ntmps119
  go_wp2_with fail
  refine hck.mono ?_
  rintro e w1 ⟨rfl,hb1⟩
  have hB:Below w.heap.size w w1:=onB HB0.out hb1
  have hz:w.heap.size+1<w1.heap.size:=by have:=hb1.size;rw [ownQ_size] at this;omega
  have h2:w1.cell? ⟨w.heap.size,2,none⟩=some (.slice A d.n cap):=(hb1.cell (p:=⟨w.heap.size,2,none⟩) (by show w.heap.size<_;rw [ownQ_size];omega)).trans (ownQ_dim ..)
  have h3:w1.cell? ⟨w.heap.size+1,0,none⟩=some (.int .i64 k):=(hb1.cell (p:=⟨w.heap.size+1,0,none⟩) (by show w.heap.size+1<_;rw [ownQ_size];omega)).trans (ownQ_int ..)
  obtain ⟨hcap,h0 | ⟨b,o,rfl,hMs⟩⟩:=HM.out.later hB
  ·omega
  have hpl:=places_own 139 w.heap.size (w.heap.size+1) parts1_in (some ⟨b,o,none⟩) d.n cap (partB d.mem k) w1 hd2 (fun j w' hj hw'=>parts1_any b o d.n cap j w.heap.size (w.heap.size+1) d.mem k w' hj hd2 (hMs.later hw') ((hw'.cell (p:=⟨w.heap.size,2,none⟩) (by show w.heap.size<_;omega)).trans h2) ((hw'.cell (p:=⟨w.heap.size+1,0,none⟩) hz).trans h3))
  have HB:Hid (Below w.heap.size w w1):=hB
  clear hb1 hck hMs h3 hB
  go_wp2_with fail
  refine hpl.mono ?_
  rintro e w2 ⟨⟨v2,rfl,hO2⟩,hb2⟩
  have HO2:Hid (w2.ownsRow w1.heap.size 3 1 v2 (selTo (partB d.mem k) d.n).length (mapI (selTo (partB d.mem k) d.n))):=hO2
  have HB2:Hid (Below w.heap.size w w2):=onB HB.out hb2
  clear hO2 hb2 hpl
  go_wp2_with fail
  go_ret2
  exact ⟨⟨v2,rfl,own_low HO2.out HB.out.size⟩,HB2.out⟩
end Go.Proofs.YtenlladggdcfnaaGreatDoor
namespace Go.Proofs.YtenlladggdcfnaaGreatDoor
open Go.RowKit Go.Extern.Stop Go.Stop Go.Extern
theorem valueOfP (t:Addr) (w:World):(ReflectliteValue.unpack (.iface 73 (.pointer (some t)))).run Tryz.prog w
  = .ok (.agg #[.pointer (some ⟨7,73,none⟩),.pointer (some ⟨w.heap.size,0,none⟩),.int .u64 150]) (w.alloc (.cells #[.pointer (some t)] 73)):=by kernel_rfl
theorem typeP (a : Addr) (w : World) : (ReflectliteValue.methodAny (ReflectliteValue.valueError "reflectlite.Value.Type" 0) (fun t _ _ _ => ReflectliteType.toType t) #[.agg #[.pointer (some ⟨7, 73, none⟩), .pointer (some a), .int .u64 150]]).run Tryz.prog w
  = .ok (.iface 132 (.agg #[.pointer (some ⟨7,73,none⟩)])) w:=by kernel_rfl
theorem methodKind (h : Value) (w : World) : (Go.method 413 132 (.agg #[h]) "Kind").run Tryz.prog w = .ok (252, h) w := by kernel_rfl
theorem kindP (w:World):((ReflectliteType.abiMethod fun t=>Functor.map (fun a:Nat=>Value.int IntKind.u8 (a:Int)) (Rtype.kind t)) #[.pointer (some ⟨7,73,none⟩)]).run Tryz.prog w=.ok (.int .u8 22) w:=by kernel_rfl
theorem kindN (w:World):((ReflectliteType.abiMethod fun t=>Functor.map (fun a:Nat=>Value.int IntKind.u8 (a:Int)) (Rtype.kind t)) #[.pointer (some ⟨7,46,none⟩)]).run Tryz.prog w=.ok (.int .u8 2) w:=by kernel_rfl
theorem methodNil (a : Addr) (W : World) : (ReflectliteValue.method (ReflectliteValue.valueError "reflectlite.Value.IsNil" 0) ReflectliteValue.isNil #[.agg #[.pointer (some ⟨7, 73, none⟩), .pointer (some a), .int .u64 150]]).run Tryz.prog W = (ReflectliteValue.isNil 73 a 150 22).run Tryz.prog W := by kernel_rfl
theorem methodElemV (a : Addr) (W : World) : (ReflectliteValue.method (ReflectliteValue.valueError "reflectlite.Value.Elem" 0) ReflectliteValue.elem #[.agg #[.pointer (some ⟨7, 73, none⟩), .pointer (some a), .int .u64 150]]).run Tryz.prog W = (ReflectliteValue.elem 73 a 150 22).run Tryz.prog W := by kernel_rfl
theorem setRun (ta b:Addr) (W:World):(ReflectliteValue.set #[.agg #[.pointer (some ⟨7,46,none⟩),.pointer (some ta),.int .u64 386],.agg #[.pointer (some ⟨7,46,none⟩),.pointer (some b),.int .u64 130]]).run Tryz.prog W=(do let v ←loadVar 46 b;storeVar 46 ta v;pure (Value.tuple #[]):Sem Value).run Tryz.prog W:=by kernel_rfl
theorem isNilP (a p:Addr) (W:World) (ha:W.cell? a=some (.pointer (some p))) :
  (ReflectliteValue.method (ReflectliteValue.valueError "reflectlite.Value.IsNil" 0) ReflectliteValue.isNil #[.agg #[.pointer (some ⟨7, 73, none⟩), .pointer (some a), .int .u64 150]]).run Tryz.prog W = .ok (.bool false) W := by
 rw [methodNil]
 simp [ReflectliteValue.isNil,loadVar,isAgg,underlying,Tryz.underlying73,ha,Result.andThen]
theorem methodElem (h : Value) (w : World) : (Go.method 413 132 (.agg #[h]) "Elem").run Tryz.prog w = .ok (262, .agg #[h]) w := by kernel_rfl
theorem methodImplements (h : Value) (w : World) : (Go.method 413 132 (.agg #[h]) "Implements").run Tryz.prog w = .ok (263, .agg #[h]) w := by kernel_rfl
theorem methodAssignableTo (h : Value) (w : World) : (Go.method 413 132 (.agg #[h]) "AssignableTo").run Tryz.prog w = .ok (260, .agg #[h]) w := by kernel_rfl
theorem elemP (w:World):(ReflectliteType.method ReflectliteType.elem #[.agg #[.pointer (some ⟨7,73,none⟩)]]).run Tryz.prog w=.ok (.iface 132 (.agg #[.pointer (some ⟨7,46,none⟩)])) w:=by kernel_rfl
theorem implementsN (w : World) : (ReflectliteType.relation "Implements" ReflectliteType.implements_ #[.agg #[.pointer (some ⟨7, 46, none⟩)], .iface 132 (.agg #[.pointer (some ⟨7, 31, none⟩)])]).run Tryz.prog w = .ok (.bool true) w := by kernel_rfl
theorem typeOfN (v:Value) (w:World):(ReflectliteType.typeOf #[.iface 46 v]).run Tryz.prog w=.ok (.iface 132 (.agg #[.pointer (some ⟨7,46,none⟩)])) w:=by kernel_rfl
theorem assignableN (w : World) : (ReflectliteType.relation "AssignableTo" ReflectliteType.assignableTo #[.agg #[.pointer (some ⟨7, 46, none⟩)], .iface 132 (.agg #[.pointer (some ⟨7, 46, none⟩)])]).run Tryz.prog w = .ok (.bool true) w := by kernel_rfl
theorem valueOfN (c:Int) (w:World):(ReflectliteValue.unpack (.iface 46 (.int .i64 c))).run Tryz.prog w
  = .ok (.agg #[.pointer (some ⟨7,46,none⟩),.pointer (some ⟨w.heap.size,0,none⟩),.int .u64 130]) (w.alloc (.cells #[.int .i64 c] 46)):=by kernel_rfl
theorem elemOfP (w:World):(Rtype.elem? 73).run Tryz.prog w=.ok (some 46) w:=by kernel_rfl
theorem mkN (p:Addr) (w:World):(ReflectliteValue.mk 46 p ReflectliteValue.flagAddr).run Tryz.prog w=.ok (.agg #[.pointer (some ⟨7,46,none⟩),.pointer (some p),.int .u64 386]) w:=by kernel_rfl
theorem elemVP (a p:Addr) (W:World) (ha:W.cell? a=some (.pointer (some p))) :
  (ReflectliteValue.method (ReflectliteValue.valueError "reflectlite.Value.Elem" 0) ReflectliteValue.elem #[.agg #[.pointer (some ⟨7, 73, none⟩), .pointer (some a), .int .u64 150]]).run Tryz.prog W
   = .ok (.agg #[.pointer (some ⟨7,46,none⟩),.pointer (some p),.int .u64 386]) W:=by
 rw [methodElemV]
 simp [ReflectliteValue.elem,loadVar,isAgg,underlying,Tryz.underlying73,ha,Result.andThen,elemOfP,mkN]
theorem setN (ta b:Addr) (c:Int) (old:Value) (W:World) (hb:W.cell? b=some (.int .i64 c)) (ht:W.cell? ta=some old) (hf:W.frozen? ta=false) :
  (ReflectliteValue.set #[.agg #[.pointer (some ⟨7,46,none⟩),.pointer (some ta),.int .u64 386],.agg #[.pointer (some ⟨7,46,none⟩),.pointer (some b),.int .u64 130]]).run Tryz.prog W
   = .ok (.tuple #[]) (W.setCell ta (.int .i64 c)):=by
 rw [setRun]
 simp [loadVar,isAgg,underlying,Tryz.underlying46,hb,Result.andThen,storeVar,Value.cells,storeCells,Addr.add]
 rw [run_store Tryz.prog W ta _ _ (by rfl)]
 simp [ht,hf]
def Kind0 (w:World):Prop:=w.cell? ⟨0,0,none⟩=some (.iface 132 (.agg #[.pointer (some ⟨7,31,none⟩)]))
theorem Kind0.lt {w:World} (h:Kind0 w):0<w.heap.size:=by
 rcases Nat.lt_or_ge 0 w.heap.size with h' | h'
 ·exact h'
 ·unfold Kind0 at h
  simp [World.cell?,Array.getElem?_eq_none h'] at h
theorem Kind0.later {w w':World} (h:Kind0 w) (hb:Below w.heap.size w w'):Kind0 w':=(hb.cell (p:=⟨0,0,none⟩) h.lt).trans h
set_option maxHeartbeats 4000000 in
theorem as_hit (c:Int) (b:Nat) (w:World) (hk:Kind0 w) (htl:b<w.heap.size) (ht0:w.cell? ⟨b,0,none⟩=some (.int .i64 0)) (hf0:w.frozen? ⟨b,0,none⟩=false) :
  Calls Tryz.prog 30 #[.iface 46 (.int .i64 c),.iface 73 (.pointer (some ⟨b,0,none⟩))] w fun ev w'=>ev=.returned (.bool true)∧w'=((((w.alloc (.cells #[.pointer (some ⟨b,0,none⟩)] 73)).alloc (.cells #[.pointer (some ⟨7,73,none⟩),.pointer (some ⟨w.heap.size,0,none⟩),.int .u64 150] 102)).alloc (.cells #[.pointer (some ⟨7,73,none⟩),.pointer (some ⟨w.heap.size,0,none⟩),.int .u64 150] 102)).alloc (.cells #[.int .i64 c] 46)).setCell ⟨b,0,none⟩ (.int .i64 c):=by
 have x1 := @run_callFunc_extern Tryz.prog 54 _ (fun args=>ReflectliteValue.unpack (args.getD 0 (.tuple #[]))) Tryz.func54 (by kernel_rfl) (by kernel_rfl) (by kernel_rfl) (by kernel_rfl)
 have x2 := @run_callFunc_extern Tryz.prog 55 _ (ReflectliteValue.methodAny (ReflectliteValue.valueError "reflectlite.Value.Type" 0) (fun t _ _ _ => ReflectliteType.toType t)) Tryz.func55 (by kernel_rfl) (by kernel_rfl) (by kernel_rfl) (by kernel_rfl)
 have x3 := @run_callFunc_extern Tryz.prog 56 _ (ReflectliteValue.method (ReflectliteValue.valueError "reflectlite.Value.IsNil" 0) ReflectliteValue.isNil) Tryz.func56 (by kernel_rfl) (by kernel_rfl) (by kernel_rfl) (by kernel_rfl)
 have x4 := @run_callFunc_extern Tryz.prog 252 _ (ReflectliteType.abiMethod fun t=>do pure (.int .u8 (←Rtype.kind t))) Tryz.func252 (by kernel_rfl) (by kernel_rfl) (by kernel_rfl) (by kernel_rfl)
 have x5 := @run_callFunc_extern Tryz.prog 262 _ (ReflectliteType.method ReflectliteType.elem) Tryz.func262 (by kernel_rfl) (by kernel_rfl) (by kernel_rfl) (by kernel_rfl)
 have x6 := @run_callFunc_extern Tryz.prog 263 _ (ReflectliteType.relation "Implements" ReflectliteType.implements_) Tryz.func263 (by kernel_rfl) (by kernel_rfl) (by kernel_rfl) (by kernel_rfl)
 have x7 := @run_callFunc_extern Tryz.prog 81 _ ReflectliteType.typeOf Tryz.func81 (by kernel_rfl) (by kernel_rfl) (by kernel_rfl) (by kernel_rfl)
 have x8 := @run_callFunc_extern Tryz.prog 260 _ (ReflectliteType.relation "AssignableTo" ReflectliteType.assignableTo) Tryz.func260 (by kernel_rfl) (by kernel_rfl) (by kernel_rfl) (by kernel_rfl)
 have x9 := @run_callFunc_extern Tryz.prog 82 _ (ReflectliteValue.method (ReflectliteValue.valueError "reflectlite.Value.Elem" 0) ReflectliteValue.elem) Tryz.func82 (by kernel_rfl) (by kernel_rfl) (by kernel_rfl) (by kernel_rfl)
 have xa := @run_callFunc_extern Tryz.prog 83 _ ReflectliteValue.set Tryz.func83 (by kernel_rfl) (by kernel_rfl) (by kernel_rfl) (by kernel_rfl)
 have y1:=typeOfN
 have y2:=methodAssignableTo
 have y3:=assignableN
 have y4:=valueOfN
 have y5:=valueOfP
 have y6:=typeP
 have y7:=methodKind
 have y8:=methodElem
 have y9:=methodImplements
 have ya:=kindP
 have yb:=kindN
 have yc:=elemP
 have yd:=implementsN
 have n8:=isNilP ⟨w.heap.size,0,none⟩ ⟨b,0,none⟩ ((w.alloc (.cells #[.pointer (some ⟨b,0,none⟩)] 73)).alloc (.cells #[.pointer (some ⟨7,73,none⟩),.pointer (some ⟨w.heap.size,0,none⟩),.int .u64 150] 102)) (by simp)
 have hlt:=hk.lt
 have hg2:((w.alloc (.cells #[.pointer (some ⟨b,0,none⟩)] 73)).alloc (.cells #[.pointer (some ⟨7,73,none⟩),.pointer (some ⟨w.heap.size,0,none⟩),.int .u64 150] 102)).cell? ⟨0,0,none⟩=some (.iface 132 (.agg #[.pointer (some ⟨7,31,none⟩)])):=by
  rw [World.cell?_alloc_lt _ _ ⟨0,0,none⟩ (by simp),World.cell?_alloc_lt _ _ ⟨0,0,none⟩ hlt];exact hk
 have el:=elemVP ⟨w.heap.size,0,none⟩ ⟨b,0,none⟩ (((w.alloc (.cells #[.pointer (some ⟨b,0,none⟩)] 73)).alloc (.cells #[.pointer (some ⟨7,73,none⟩),.pointer (some ⟨w.heap.size,0,none⟩),.int .u64 150] 102)).alloc (.cells #[.pointer (some ⟨7,73,none⟩),.pointer (some ⟨w.heap.size,0,none⟩),.int .u64 150] 102)) (by rw [World.cell?_alloc_lt _ _ ⟨w.heap.size,0,none⟩ (by simp;omega)];simp)
 have st:=setN ⟨b,0,none⟩ ⟨w.heap.size+1+1+1,0,none⟩ c (.int .i64 0) ((((w.alloc (.cells #[.pointer (some ⟨b,0,none⟩)] 73)).alloc (.cells #[.pointer (some ⟨7,73,none⟩),.pointer (some ⟨w.heap.size,0,none⟩),.int .u64 150] 102)).alloc (.cells #[.pointer (some ⟨7,73,none⟩),.pointer (some ⟨w.heap.size,0,none⟩),.int .u64 150] 102)).alloc (.cells #[.int .i64 c] 46))
  (by rw [World.cell?_alloc_at _ _ _ _ (by simp)];rfl)
  (by rw [World.cell?_alloc_lt _ _ ⟨b,0,none⟩ (by simp;omega),World.cell?_alloc_lt _ _ ⟨b,0,none⟩ (by simp;omega),World.cell?_alloc_lt _ _ ⟨b,0,none⟩ (by simp;omega),World.cell?_alloc_lt _ _ ⟨b,0,none⟩ htl];exact ht0)
  (by rw [World.frozen?_alloc_old _ _ ⟨b,0,none⟩ (by simp;omega),World.frozen?_alloc_old _ _ ⟨b,0,none⟩ (by simp;omega),World.frozen?_alloc_old _ _ ⟨b,0,none⟩ (by simp;omega),World.frozen?_alloc_old _ _ ⟨b,0,none⟩ (Nat.ne_of_lt htl)];exact hf0)
 clear hk
 go_enter Tryz.func30,Tryz.ntmps30
 go_wp2
 refine wp_loop_rounds 1 ?_
 rw [rounds_succ]
 go_wp2
 go_ret
 exact ⟨rfl,rfl⟩
end Go.Proofs.YtenlladggdcfnaaGreatDoor
