/-
  Like: a number on parts by weights, or why not; among: like what is written, or evenly.
-/
import Derived.LaidEql
import Derived.Stop.Asserts
import Derived.RowKitTokens
import Derived.Test.YtenlladggdcfnaaGreatDoorJABB
namespace Go.Proofs.YtenlladggdcfnaaGreatDoor
open Go Go.ChangeShapes Go.WideShapes Go.ChangeAt Go.RowKit Go.Shelf Go.Lib Go.Sort
set_option maxRecDepth 100000
def lkE (n:Int) (W:List Int):Int:=if isAmt n=false then 1 else if W.length=0∨60<W.length then 4 else if (W.any fun x => !isAmt x)=true then 1 else if W.sum=0 then 3 else 0
def LkO (n:Int) (W L:List Int):Prop:=if lkE n W=0 then ∃ P,PickOk W.length (prec n W) P (lkL n W).toNat∧L=lkO n W P else L=[]
theorem LkO.unique {n:Int} {W L L':List Int} (h:LkO n W L) (h':LkO n W L'):L=L':=by
 unfold LkO at h h'
 by_cases e:lkE n W=0
 ·rw [if_pos e] at h h'
  obtain ⟨P,h1,rfl⟩:=h
  obtain ⟨Q,h2,rfl⟩:=h'
  exact lkO_unique h1 h2
 ·rw [if_neg e] at h h'
  rw [h,h']
theorem lkE_ok {n:Int} {W:List Int} (h:lkE n W=0):(0≤n∧n≤1000000)∧0<W.length∧W.length≤60∧(∀ x∈W,0≤x∧x≤1000000)∧0<W.sum:=by
 unfold lkE at h
 by_cases k1:isAmt n=false
 ·rw [if_pos k1] at h;cases h
 rw [if_neg k1] at h
 by_cases k2:W.length=0∨60<W.length
 ·rw [if_pos k2] at h;cases h
 rw [if_neg k2] at h
 by_cases k3:(W.any fun x => !isAmt x)=true
 ·rw [if_pos k3] at h;cases h
 rw [if_neg k3] at h
 have hall:∀ x∈W,0≤x∧x≤1000000:=fun x hx=>by
  by_cases k:isAmt x=true
  ·exact of_decide_eq_true k
  ·exact absurd (List.any_eq_true.2 ⟨x,hx,by simpa using k⟩) k3
 by_cases k4:W.sum=0
 ·rw [if_pos k4] at h;cases h
 refine ⟨of_decide_eq_true (by simpa [isAmt] using k1),by omega,by omega,hall,?_⟩
 have:∀ V:List Int,(∀ x∈V,0≤x∧x≤1000000)→0≤V.sum:=by
  intro V
  induction V with
  | nil=>simp
  | cons a V ih=>intro h;have:=h a (List.mem_cons_self ..);have:=ih fun x hx=>h x (List.mem_cons_of_mem _ hx);simp only [List.sum_cons];omega
 have:=this W hall
 omega
def sumW (W:List Int) (k:Nat):Int:=(W.take k).sum
theorem sumW_step {W:List Int} {k:Nat} (hk:k<W.length):sumW W (k+1)=sumW W k+W.getD k 0:=by
 unfold sumW
 rw [List.take_succ_eq_append_getElem hk,List.sum_append,List.getD_eq_getElem?_getD,List.getElem?_eq_getElem hk];simp
theorem sumW_bd {W:List Int} (h:∀ x∈W,0≤x∧x≤1000000):∀ k:Nat,k≤W.length→0≤sumW W k∧sumW W k≤(k:Int)*1000000
 | 0,_=>by simp [sumW]
 | k+1,hk=>by
  have:=sumW_bd h k (by omega)
  have hm:W.getD k 0∈W:=by rw [List.getD_eq_getElem?_getD,List.getElem?_eq_getElem (by omega)];exact List.getElem_mem _
  have:=h _ hm
  rw [sumW_step (by omega)];omega
theorem like1_in (args:Array Value) (w:World):(callFunc 16 args).run Tryz.prog w=.ok (.enter 16 args) w:=by simp [callFunc,Tryz.func16];rfl
set_option maxHeartbeats 8000000 in
theorem like_any (n:Int) (A:Option Addr) (cA:Nat) (W:List Int) (w:World) (hL:PlAt w A cA W) :
  Calls Tryz.prog 9 #[.int .i64 n,.slice A W.length cA] w fun e w' => ∃ A' c' L,e=.returned (.tuple #[.slice A' L.length c',errV (lkE n W)])∧PlAt w' A' c' L∧LkO n W L∧Below w.heap.size w w':=by
 have hc:=isamount_any n w
 have HL:Hid (PlAt w A cA W):=hL
 obtain ⟨k,hk⟩:∃ k,W.length=k:=⟨_,rfl⟩
 have HK:Hid (W.length=k):=hk
 have bad:∀ c:Int,c≠0→lkE n W=c→∀ w':World,Below w.heap.size w w'→∃ A' c' L,Ending.returned (.tuple #[.slice none 0 0,.iface 46 (.int .i64 c)])=.returned (.tuple #[.slice A' L.length c',errV (lkE n W)])∧PlAt w' A' c' L∧LkO n W L∧Below w.heap.size w w':=fun c hc0 h w' hB =>
  ⟨none,0,[],by rw [h];unfold errV;rw [if_neg hc0];rfl,⟨Nat.le_refl _,Or.inl rfl⟩,by unfold LkO;rw [if_neg (by rw [h];exact hc0)],hB⟩
 by_cases k1:isAmt n=false
 ·have HF:=hid_of (bad 1 (by decide) (by unfold lkE;rw [if_pos k1]) w (Below.refl _ _))
  rw [k1] at hc
  rw [hk]
  clear bad hL hk
  go_enter Tryz.func9,Tryz.ntmps9
  go_wp2_with (go_at_call 13;refine hc.mono ?_;rintro e w1 ⟨rfl,hw1⟩;obtain rfl:=hw1.symm)
  go_ret2
  exact HF.out
 have k1':isAmt n=true:=by simpa using k1
 rw [k1'] at hc
 by_cases k2:W.length=0∨60<W.length
 ·have HF:=hid_of (bad 4 (by decide) (by unfold lkE;rw [if_neg k1,if_pos k2]) w (Below.refl _ _))
  rw [hk] at k2 ⊢
  clear bad hL hk
  rcases Nat.eq_zero_or_pos k with h0 | h0
  ·have h0I:(k:Int)=0:=by omega
   go_enter Tryz.func9,Tryz.ntmps9
   go_wp2_with (go_at_call 13;refine hc.mono ?_;rintro e w1 ⟨rfl,hw1⟩;obtain rfl:=hw1.symm)
   go_ret2
   exact HF.out
  ·have h0I : ¬ (k:Int)=0:=by omega
   have h1I:(k:Int) > 60:=by omega
   go_enter Tryz.func9,Tryz.ntmps9
   go_wp2_with (go_at_call 13;refine hc.mono ?_;rintro e w1 ⟨rfl,hw1⟩;obtain rfl:=hw1.symm)
   go_ret2
   exact HF.out
 have hk0:0<k∧k≤60:=by omega
 have hk0I:((k:Int) == 0)=false:=by simp;omega
 have hk1I:decide (60<(k:Int))=false:=decide_eq_false (by omega)
 have hcf:=contm_pl 16 #[] (fun x => !isAmt x) like1_in A cA W w (by omega) hL (fun x w' _ _=>(like1_any x w').mono fun _ _ ⟨h1,h2⟩=>⟨h1,by rw [h2];exact Below.refl _ _⟩)
 rw [show decide (0≤findFrom (fun j => !isAmt (W.getD j 0)) W.length 0)=W.any (fun x => !isAmt x) from any_find (fun x => !isAmt x) W] at hcf
 by_cases k3:(W.any fun x => !isAmt x)=true
 ·have HF:=hid_of fun w' (hB:Below w.heap.size w w')=>bad 1 (by decide) (by unfold lkE;rw [if_neg k1,if_neg k2,if_pos k3]) w' hB
  rw [k3,hk] at hcf
  rw [hk]
  clear bad hL hk k2 k3
  go_enter Tryz.func9,Tryz.ntmps9
  go_wp2_with (first | (go_at_call 13;refine hc.mono ?_;rintro e w1 ⟨rfl,hw1⟩;obtain rfl:=hw1.symm) | (go_at_call 15;refine hcf.mono ?_;rintro e w2 ⟨rfl,hb2⟩;have HB2:=hid_of hb2;clear hb2))
  go_ret2
  exact HF.out _ HB2.out
 have k3':(W.any fun x => !isAmt x)=false:=by simpa using k3
 have hall:∀ x∈W,0≤x∧x≤1000000:=fun x hx=>by
  by_cases h:isAmt x=true
  ·exact of_decide_eq_true h
  ·exact absurd (List.any_eq_true.2 ⟨x,hx,by simpa using h⟩) k3
 have HA:=hid_of hall
 have HE:Hid (lkE n W=if W.sum=0 then 3 else 0):=by show _=_;unfold lkE;rw [if_neg k1,if_neg k2,if_neg k3]
 have hnn:0≤n∧n≤1000000:=of_decide_eq_true k1'
 have HN:Hid (0≤n∧n≤1000000):=hnn
 have HBAD:=hid_of bad
 rw [k3',hk] at hcf
 rw [hk]
 clear bad hL hk k2 k3 k3' hall k1 k1' hnn
 go_enter Tryz.func9,Tryz.ntmps9
 go_wp2_with (first | (go_at_call 13;refine hc.mono ?_;rintro e w1 ⟨rfl,hw1⟩;obtain rfl:=hw1.symm) | (go_at_call 15;refine hcf.mono ?_;rintro e w2 ⟨rfl,hb2⟩;have HB2:=hid_of hb2;clear hb2))
 clear hc hcf
 go_loopg [6,27] k (fun gg s6 s27 wr => ∃ j:Nat,j≤k∧gg=k-j∧s27=.int .i64 j∧s6=.int .i64 (sumW W j)∧wr=w2)
 case atStart=>exact ⟨0,Nat.zero_le _,rfl,rfl,by simp [sumW],rfl⟩
 case round =>
  obtain ⟨j,hjk,rfl,rfl,rfl,hwr⟩:=hrel
  obtain rfl:=hwr
  by_cases hlt:j<k
  ·have hjI:(j:Int)<(k:Int):=by omega
   obtain ⟨-,h0 | ⟨bA,oA,rfl,hbA,hX⟩⟩:=HL.out
   ·have:=HK.out;rw [h0] at this;simp at this;omega
   have hx:wr.cell? ⟨bA,oA+j,none⟩=some (.int .i64 (W.getD j 0)):=by rw [HB2.out.cell (by exact hbA)];exact hX j (by rw [HK.out];exact hlt)
   have hm:W.getD j 0∈W:=by rw [List.getD_eq_getElem?_getD,List.getElem?_eq_getElem (by rw [HK.out];exact hlt)];exact List.getElem_mem _
   have hw:=HA.out _ hm
   have hst:=sumW_step (W:=W) (k:=j) (by rw [HK.out];exact hlt)
   have hbd:=sumW_bd HA.out j (by rw [HK.out];omega)
   have hsw:IntKind.i64.wrap (sumW W j+W.getD j 0)=sumW W (j+1):=by rw [hst,IntKind.wrap_i64];omega
   obtain ⟨x,hxe⟩:∃ x,W.getD j 0=x:=⟨_,rfl⟩
   rw [hxe] at hx hsw
   obtain ⟨s2,hs2⟩:∃ s2,s2=sumW W (j+1):=⟨_,rfl⟩
   rw [←hs2] at hsw
   have HS2:Hid (s2=sumW W (j+1)):=hs2
   clear hX hm hw hst hbd hxe hs2
   go_wp2_with fail
   go_roundg (k-(j+1))
   case measure=>omega
   case rel=>exact ⟨j+1,by omega,rfl,by go_num,by rw [HS2.out],rfl⟩
  ·have hje:j=k:=by omega
   subst hje
   have hsum:sumW W j=W.sum:=by unfold sumW;rw [List.take_of_length_le (by rw [HK.out];exact Nat.le_refl _)]
   rw [hsum]
   by_cases k4:W.sum=0
   ·have HF:=hid_of (HBAD.out 3 (by decide) (by rw [HE.out,if_pos k4]) wr HB2.out)
    go_wp2_with fail
    go_ret2
    exact HF.out
   ·have h0:lkE n W=0:=by rw [HE.out,if_neg k4]
    obtain ⟨-,g1,g2,-,g3⟩:=lkE_ok h0
    have hcb:=byweight_any n A cA W wr (HL.out.later HB2.out) g1 g2 g3 HN.out HA.out
    have HF:Hid (∀ (P:Nat→Bool) (g:Nat) (w':World),PickOk W.length (prec n W) P (lkL n W).toNat→PB w' g (lkO n W P)→Below w.heap.size w w'→∃ A' c' L,Ending.returned (.tuple #[.slice (some ⟨g,0,none⟩) j j,.nilIface])=.returned (.tuple #[.slice A' L.length c',errV (lkE n W)])∧PlAt w' A' c' L∧LkO n W L∧Below w.heap.size w w'):=fun P g w' p1 p2 p3=>by
     have e1:(lkO n W P).length=j:=by rw [←HK.out];simp [lkO]
     refine ⟨some ⟨g,0,none⟩,j,lkO n W P,by rw [e1,h0];rfl,p2.pl (by rw [e1];exact Nat.le_refl _),?_,p3⟩
     unfold LkO
     rw [if_pos h0]
     exact ⟨P,p1,rfl⟩
    rw [HK.out] at hcb
    obtain ⟨s,hse⟩:∃ s,W.sum=s:=⟨_,rfl⟩
    rw [hse] at hcb k4 ⊢
    clear hsum g1 g2 g3 hse h0
    go_wp2_with fail
    refine hcb.mono ?_
    rintro e w3 ⟨P,g,p1,rfl,p2,-,p3⟩
    rw [←HK.out] at p1
    have HG:=hid_of (HF.out P g w3 p1 p2 (HB2.out.trans (p3.mono HB2.out.size)))
    clear p1 p2 p3 HF hcb
    go_wp2_with fail
    go_ret2
    exact HG.out
end Go.Proofs.YtenlladggdcfnaaGreatDoor
namespace Go.Proofs.YtenlladggdcfnaaGreatDoor
open Go.RowKit Go.Extern.Stop Go.Stop Go.Extern
theorem valueOfP (t:Addr) (w:World):(ReflectliteValue.unpack (.iface 73 (.pointer (some t)))).run Tryz.prog w
  = .ok (.agg #[.pointer (some ⟨7,73,none⟩),.pointer (some ⟨w.heap.size,0,none⟩),.int .u64 150]) (w.alloc (.cells #[.pointer (some t)] 73)):=by kernel_rfl
theorem typeP (a : Addr) (w : World) : (ReflectliteValue.methodAny (ReflectliteValue.valueError "reflectlite.Value.Type" 0) (fun t _ _ _ => ReflectliteType.toType t) #[.agg #[.pointer (some ⟨7, 73, none⟩), .pointer (some a), .int .u64 150]]).run Tryz.prog w
  = .ok (.iface 132 (.agg #[.pointer (some ⟨7,73,none⟩)])) w:=by kernel_rfl
theorem methodKind (h : Value) (w : World) : (Go.method 413 132 (.agg #[h]) "Kind").run Tryz.prog w = .ok (252, h) w := by kernel_rfl
theorem kindP (w:World):((ReflectliteType.abiMethod fun t=>Functor.map (fun a:Nat=>Value.int IntKind.u8 (a:Int)) (Rtype.kind t)) #[.pointer (some ⟨7,73,none⟩)]).run Tryz.prog w=.ok (.int .u8 22) w:=by kernel_rfl
theorem kindN (w:World):((ReflectliteType.abiMethod fun t=>Functor.map (fun a:Nat=>Value.int IntKind.u8 (a:Int)) (Rtype.kind t)) #[.pointer (some ⟨7,46,none⟩)]).run Tryz.prog w=.ok (.int .u8 2) w:=by kernel_rfl
theorem methodNil (a : Addr) (W : World) : (ReflectliteValue.method (ReflectliteValue.valueError "reflectlite.Value.IsNil" 0) ReflectliteValue.isNil #[.agg #[.pointer (some ⟨7, 73, none⟩), .pointer (some a), .int .u64 150]]).run Tryz.prog W = (ReflectliteValue.isNil 73 a 150 22).run Tryz.prog W := by kernel_rfl
theorem methodElemV (a : Addr) (W : World) : (ReflectliteValue.method (ReflectliteValue.valueError "reflectlite.Value.Elem" 0) ReflectliteValue.elem #[.agg #[.pointer (some ⟨7, 73, none⟩), .pointer (some a), .int .u64 150]]).run Tryz.prog W = (ReflectliteValue.elem 73 a 150 22).run Tryz.prog W := by kernel_rfl
theorem setRun (ta b:Addr) (W:World):(ReflectliteValue.set #[.agg #[.pointer (some ⟨7,46,none⟩),.pointer (some ta),.int .u64 386],.agg #[.pointer (some ⟨7,46,none⟩),.pointer (some b),.int .u64 130]]).run Tryz.prog W=(do let v ←loadVar 46 b;storeVar 46 ta v;pure (Value.tuple #[]):Sem Value).run Tryz.prog W:=by kernel_rfl
theorem isNilP (a p:Addr) (W:World) (ha:W.cell? a=some (.pointer (some p))) :
  (ReflectliteValue.method (ReflectliteValue.valueError "reflectlite.Value.IsNil" 0) ReflectliteValue.isNil #[.agg #[.pointer (some ⟨7, 73, none⟩), .pointer (some a), .int .u64 150]]).run Tryz.prog W = .ok (.bool false) W := by
 rw [methodNil]
 simp [ReflectliteValue.isNil,loadVar,isAgg,underlying,Tryz.underlying73,ha,Result.andThen]
theorem methodElem (h : Value) (w : World) : (Go.method 413 132 (.agg #[h]) "Elem").run Tryz.prog w = .ok (262, .agg #[h]) w := by kernel_rfl
theorem methodImplements (h : Value) (w : World) : (Go.method 413 132 (.agg #[h]) "Implements").run Tryz.prog w = .ok (263, .agg #[h]) w := by kernel_rfl
theorem methodAssignableTo (h : Value) (w : World) : (Go.method 413 132 (.agg #[h]) "AssignableTo").run Tryz.prog w = .ok (260, .agg #[h]) w := by kernel_rfl
theorem elemP (w:World):(ReflectliteType.method ReflectliteType.elem #[.agg #[.pointer (some ⟨7,73,none⟩)]]).run Tryz.prog w=.ok (.iface 132 (.agg #[.pointer (some ⟨7,46,none⟩)])) w:=by kernel_rfl
theorem implementsN (w : World) : (ReflectliteType.relation "Implements" ReflectliteType.implements_ #[.agg #[.pointer (some ⟨7, 46, none⟩)], .iface 132 (.agg #[.pointer (some ⟨7, 31, none⟩)])]).run Tryz.prog w = .ok (.bool true) w := by kernel_rfl
theorem typeOfN (v:Value) (w:World):(ReflectliteType.typeOf #[.iface 46 v]).run Tryz.prog w=.ok (.iface 132 (.agg #[.pointer (some ⟨7,46,none⟩)])) w:=by kernel_rfl
theorem assignableN (w : World) : (ReflectliteType.relation "AssignableTo" ReflectliteType.assignableTo #[.agg #[.pointer (some ⟨7, 46, none⟩)], .iface 132 (.agg #[.pointer (some ⟨7, 46, none⟩)])]).run Tryz.prog w = .ok (.bool true) w := by kernel_rfl
theorem valueOfN (c:Int) (w:World):(ReflectliteValue.unpack (.iface 46 (.int .i64 c))).run Tryz.prog w
  = .ok (.agg #[.pointer (some ⟨7,46,none⟩),.pointer (some ⟨w.heap.size,0,none⟩),.int .u64 130]) (w.alloc (.cells #[.int .i64 c] 46)):=by kernel_rfl
theorem elemOfP (w:World):(Rtype.elem? 73).run Tryz.prog w=.ok (some 46) w:=by kernel_rfl
theorem mkN (p:Addr) (w:World):(ReflectliteValue.mk 46 p ReflectliteValue.flagAddr).run Tryz.prog w=.ok (.agg #[.pointer (some ⟨7,46,none⟩),.pointer (some p),.int .u64 386]) w:=by kernel_rfl
theorem elemVP (a p:Addr) (W:World) (ha:W.cell? a=some (.pointer (some p))) :
  (ReflectliteValue.method (ReflectliteValue.valueError "reflectlite.Value.Elem" 0) ReflectliteValue.elem #[.agg #[.pointer (some ⟨7, 73, none⟩), .pointer (some a), .int .u64 150]]).run Tryz.prog W
   = .ok (.agg #[.pointer (some ⟨7,46,none⟩),.pointer (some p),.int .u64 386]) W:=by
 rw [methodElemV]
 simp [ReflectliteValue.elem,loadVar,isAgg,underlying,Tryz.underlying73,ha,Result.andThen,elemOfP,mkN]
theorem setN (ta b:Addr) (c:Int) (old:Value) (W:World) (hb:W.cell? b=some (.int .i64 c)) (ht:W.cell? ta=some old) (hf:W.frozen? ta=false) :
  (ReflectliteValue.set #[.agg #[.pointer (some ⟨7,46,none⟩),.pointer (some ta),.int .u64 386],.agg #[.pointer (some ⟨7,46,none⟩),.pointer (some b),.int .u64 130]]).run Tryz.prog W
   = .ok (.tuple #[]) (W.setCell ta (.int .i64 c)):=by
 rw [setRun]
 simp [loadVar,isAgg,underlying,Tryz.underlying46,hb,Result.andThen,storeVar,Value.cells,storeCells,Addr.add]
 rw [run_store Tryz.prog W ta _ _ (by rfl)]
 simp [ht,hf]
def Kind0 (w:World):Prop:=w.cell? ⟨0,0,none⟩=some (.iface 132 (.agg #[.pointer (some ⟨7,31,none⟩)]))
theorem Kind0.lt {w:World} (h:Kind0 w):0<w.heap.size:=by
 rcases Nat.lt_or_ge 0 w.heap.size with h' | h'
 ·exact h'
 ·unfold Kind0 at h
  simp [World.cell?,Array.getElem?_eq_none h'] at h
theorem Kind0.later {w w':World} (h:Kind0 w) (hb:Below w.heap.size w w'):Kind0 w':=(hb.cell (p:=⟨0,0,none⟩) h.lt).trans h
set_option maxHeartbeats 4000000 in
theorem as_hit (c:Int) (b:Nat) (w:World) (hk:Kind0 w) (htl:b<w.heap.size) (ht0:w.cell? ⟨b,0,none⟩=some (.int .i64 0)) (hf0:w.frozen? ⟨b,0,none⟩=false) :
  Calls Tryz.prog 30 #[.iface 46 (.int .i64 c),.iface 73 (.pointer (some ⟨b,0,none⟩))] w fun ev w'=>ev=.returned (.bool true)∧w'=((((w.alloc (.cells #[.pointer (some ⟨b,0,none⟩)] 73)).alloc (.cells #[.pointer (some ⟨7,73,none⟩),.pointer (some ⟨w.heap.size,0,none⟩),.int .u64 150] 102)).alloc (.cells #[.pointer (some ⟨7,73,none⟩),.pointer (some ⟨w.heap.size,0,none⟩),.int .u64 150] 102)).alloc (.cells #[.int .i64 c] 46)).setCell ⟨b,0,none⟩ (.int .i64 c):=by
 have x1 := @run_callFunc_extern Tryz.prog 54 _ (fun args=>ReflectliteValue.unpack (args.getD 0 (.tuple #[]))) Tryz.func54 (by kernel_rfl) (by kernel_rfl) (by kernel_rfl) (by kernel_rfl)
 have x2 := @run_callFunc_extern Tryz.prog 55 _ (ReflectliteValue.methodAny (ReflectliteValue.valueError "reflectlite.Value.Type" 0) (fun t _ _ _ => ReflectliteType.toType t)) Tryz.func55 (by kernel_rfl) (by kernel_rfl) (by kernel_rfl) (by kernel_rfl)
 have x3 := @run_callFunc_extern Tryz.prog 56 _ (ReflectliteValue.method (ReflectliteValue.valueError "reflectlite.Value.IsNil" 0) ReflectliteValue.isNil) Tryz.func56 (by kernel_rfl) (by kernel_rfl) (by kernel_rfl) (by kernel_rfl)
 have x4 := @run_callFunc_extern Tryz.prog 252 _ (ReflectliteType.abiMethod fun t=>do pure (.int .u8 (←Rtype.kind t))) Tryz.func252 (by kernel_rfl) (by kernel_rfl) (by kernel_rfl) (by kernel_rfl)
 have x5 := @run_callFunc_extern Tryz.prog 262 _ (ReflectliteType.method ReflectliteType.elem) Tryz.func262 (by kernel_rfl) (by kernel_rfl) (by kernel_rfl) (by kernel_rfl)
 have x6 := @run_callFunc_extern Tryz.prog 263 _ (ReflectliteType.relation "Implements" ReflectliteType.implements_) Tryz.func263 (by kernel_rfl) (by kernel_rfl) (by kernel_rfl) (by kernel_rfl)
 have x7 := @run_callFunc_extern Tryz.prog 81 _ ReflectliteType.typeOf Tryz.func81 (by kernel_rfl) (by kernel_rfl) (by kernel_rfl) (by kernel_rfl)
 have x8 := @run_callFunc_extern Tryz.prog 260 _ (ReflectliteType.relation "AssignableTo" ReflectliteType.assignableTo) Tryz.func260 (by kernel_rfl) (by kernel_rfl) (by kernel_rfl) (by kernel_rfl)
 have x9 := @run_callFunc_extern Tryz.prog 82 _ (ReflectliteValue.method (ReflectliteValue.valueError "reflectlite.Value.Elem" 0) ReflectliteValue.elem) Tryz.func82 (by kernel_rfl) (by kernel_rfl) (by kernel_rfl) (by kernel_rfl)
 have xa := @run_callFunc_extern Tryz.prog 83 _ ReflectliteValue.set Tryz.func83 (by kernel_rfl) (by kernel_rfl) (by kernel_rfl) (by kernel_rfl)
 have y1:=typeOfN
 have y2:=methodAssignableTo
 have y3:=assignableN
 have y4:=valueOfN
 have y5:=valueOfP
 have y6:=typeP
 have y7:=methodKind
 have y8:=methodElem
 have y9:=methodImplements
 have ya:=kindP
 have yb:=kindN
 have yc:=elemP
 have yd:=implementsN
 have n8:=isNilP ⟨w.heap.size,0,none⟩ ⟨b,0,none⟩ ((w.alloc (.cells #[.pointer (some ⟨b,0,none⟩)] 73)).alloc (.cells #[.pointer (some ⟨7,73,none⟩),.pointer (some ⟨w.heap.size,0,none⟩),.int .u64 150] 102)) (by simp)
 have hlt:=hk.lt
 have hg2:((w.alloc (.cells #[.pointer (some ⟨b,0,none⟩)] 73)).alloc (.cells #[.pointer (some ⟨7,73,none⟩),.pointer (some ⟨w.heap.size,0,none⟩),.int .u64 150] 102)).cell? ⟨0,0,none⟩=some (.iface 132 (.agg #[.pointer (some ⟨7,31,none⟩)])):=by
  rw [World.cell?_alloc_lt _ _ ⟨0,0,none⟩ (by simp),World.cell?_alloc_lt _ _ ⟨0,0,none⟩ hlt];exact hk
 have el:=elemVP ⟨w.heap.size,0,none⟩ ⟨b,0,none⟩ (((w.alloc (.cells #[.pointer (some ⟨b,0,none⟩)] 73)).alloc (.cells #[.pointer (some ⟨7,73,none⟩),.pointer (some ⟨w.heap.size,0,none⟩),.int .u64 150] 102)).alloc (.cells #[.pointer (some ⟨7,73,none⟩),.pointer (some ⟨w.heap.size,0,none⟩),.int .u64 150] 102)) (by rw [World.cell?_alloc_lt _ _ ⟨w.heap.size,0,none⟩ (by simp;omega)];simp)
 have st:=setN ⟨b,0,none⟩ ⟨w.heap.size+1+1+1,0,none⟩ c (.int .i64 0) ((((w.alloc (.cells #[.pointer (some ⟨b,0,none⟩)] 73)).alloc (.cells #[.pointer (some ⟨7,73,none⟩),.pointer (some ⟨w.heap.size,0,none⟩),.int .u64 150] 102)).alloc (.cells #[.pointer (some ⟨7,73,none⟩),.pointer (some ⟨w.heap.size,0,none⟩),.int .u64 150] 102)).alloc (.cells #[.int .i64 c] 46))
  (by rw [World.cell?_alloc_at _ _ _ _ (by simp)];rfl)
  (by rw [World.cell?_alloc_lt _ _ ⟨b,0,none⟩ (by simp;omega),World.cell?_alloc_lt _ _ ⟨b,0,none⟩ (by simp;omega),World.cell?_alloc_lt _ _ ⟨b,0,none⟩ (by simp;omega),World.cell?_alloc_lt _ _ ⟨b,0,none⟩ htl];exact ht0)
  (by rw [World.frozen?_alloc_old _ _ ⟨b,0,none⟩ (by simp;omega),World.frozen?_alloc_old _ _ ⟨b,0,none⟩ (by simp;omega),World.frozen?_alloc_old _ _ ⟨b,0,none⟩ (by simp;omega),World.frozen?_alloc_old _ _ ⟨b,0,none⟩ (Nat.ne_of_lt htl)];exact hf0)
 clear hk
 go_enter Tryz.func30,Tryz.ntmps30
 go_wp2
 refine wp_loop_rounds 1 ?_
 rw [rounds_succ]
 go_wp2
 go_ret
 exact ⟨rfl,rfl⟩
end Go.Proofs.YtenlladggdcfnaaGreatDoor
