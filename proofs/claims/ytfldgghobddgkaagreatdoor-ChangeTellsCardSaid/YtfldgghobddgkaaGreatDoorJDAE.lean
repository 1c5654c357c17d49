/-
  slices.IndexFunc and slices.ContainsFunc over ints, at the question of package tree's check; what check answers: what is wrong with a dim, or else with places in it.
-/
import Derived.Deep.RegionHeld3
import Derived.Lib.SliceRun
import Derived.Test.YtfldgghobddgkaaGreatDoorJDAC
import Derived.Test.YtfldgghobddgkaaGreatDoorJDAD
namespace Go.Proofs.YtfldgghobddgkaaGreatDoor
open Go.ChangeShapes Go.WideShapes Go.ChangeAt Go.RowKit
set_option maxRecDepth 20000
def outB (n:Nat) (i:Int):Bool:=decide (i<0) || decide ((n:Int)≤i)
theorem check1_any (i:Int) (A:Option Addr) (n cap q:Nat) (w:World) (h:w.cell? ⟨q,2,none⟩=some (.slice A n cap)):Calls Tryz.prog 136 #[.int .i64 i,.pointer (some ⟨q,0,none⟩)] w fun e w'=>e=.returned (.bool (outB n i))∧Below w.heap.size w w':=by
 unfold outB
 by_cases h1:i<0
 ·go_enter Tryz.func136,Tryz.ntmps136
  go_wp2
  go_ret
  exact ⟨by simp <;> omega,by go_grown⟩
 ·go_enter Tryz.func136,Tryz.ntmps136
  go_wp2
  go_ret
  exact ⟨by simp <;> omega,by go_grown⟩
theorem containsf_ints (A:Option Addr) (cap:Nat) (L:List Int) (Am:Option Addr) (nm cm q:Nat) (w:World) (hn:L.length≤2) (hL:IntsAt w A cap L) (hq:q<w.heap.size) (hqc:w.cell? ⟨q,2,none⟩=some (.slice Am nm cm)) :
  Calls Tryz.prog 135 #[.slice A L.length cap,.func (.func 136) #[] #[.pointer (some ⟨q,0,none⟩)]] w fun e w'=>e=.returned (.bool (decide (0≤findFrom (fun j=>outB nm (L.getD j 0)) L.length 0)))∧Below w.heap.size w w' :=
 contm_pl 136 #[.pointer (some ⟨q,0,none⟩)] (outB nm) (fun args w=>by simp [callFunc,Tryz.func136];rfl) A cap L w (by omega) (pl_ints hL) fun x w' _ hB=>check1_any x Am nm cm q w' ((hB.cell (p:=⟨q,2,none⟩) hq).trans hqc)
theorem treeErr_range {d:Dm} {L:List Int} (h:(dimErr d).2=0):treeErr d L=if 0≤findFrom (fun j=>outB d.n (L.getD j 0)) L.length 0 then 1 else 0:=by
 unfold treeErr rangeErr;rw [if_neg (by simpa using h)];rfl
set_option maxHeartbeats 2000000 in
theorem tcheck_any (d:Dm) (A:Option Addr) (cap:Nat) (Ai:Option Addr) (ci:Nat) (L:List Int) (w:World) (hM:MemsV w A cap d.n d.mem) (hn:L.length≤2) (hL:IntsAt w Ai ci L):Calls Tryz.prog 116 #[dimV d A cap,.slice Ai L.length ci] w fun e w'=>e=.returned (errV (treeErr d L))∧Below w.heap.size w w':=by
 have hS:=ownDim_size w d A cap 41
 have hB0:=ownDim_below w d A cap 41
 have hA:=(ownDim_at w d A cap 41).2.2
 have hck:=dcheck_any d A cap (ownDim w d A cap 41) (hM.later hB0)
 unfold dimV at hck ⊢
 have HB0:Hid (Below w.heap.size w (ownDim w d A cap 41)):=hB0
 have HS:Hid ((ownDim w d A cap 41).heap.size=w.heap.size+1):=hS
 have HA:Hid ((ownDim w d A cap 41).cell? ⟨w.heap.size,2,none⟩=some (.slice A d.n cap)):=hA
 have HL:Hid (IntsAt w Ai ci L):=hL
 clear hM hS hB0 hA hL
 by_cases he:(dimErr d).2=0
 ·obtain ⟨e1,hd1,hd2,-⟩:=dimErr_right he
  rw [he,e1,errV_zero] at hck
  have HE:Hid ((dimErr d).2=0):=he
  clear he e1
  go_enter Tryz.func116,Tryz.ntmps116
  go_wp2_with fail
  refine hck.mono ?_
  rintro e w1 ⟨rfl,hb1⟩
  have hB:Below w.heap.size w w1:=onB HB0.out hb1
  have hz:w.heap.size<w1.heap.size:=by
   have:=hb1.size
   rw [HS.out] at this
   omega
  have h2:w1.cell? ⟨w.heap.size,2,none⟩=some (.slice A d.n cap):=(hb1.cell (p:=⟨w.heap.size,2,none⟩) (by show w.heap.size<_;rw [HS.out];omega)).trans HA.out
  have hcf:=containsf_ints Ai ci L A d.n cap w.heap.size w1 hn (HL.out.later hB) hz h2
  have HR:Hid (treeErr d L=if 0≤findFrom (fun j=>outB d.n (L.getD j 0)) L.length 0 then 1 else 0):=treeErr_range HE.out
  have HB:Hid (Below w.heap.size w w1):=hB
  generalize findFrom (fun j=>outB d.n (L.getD j 0)) L.length 0=f at hcf HR
  generalize L.length=n at hcf
  clear hb1 hck h2 hB
  by_cases hf:0≤f
  ·rw [decide_eq_true hf] at hcf
   have HR1:Hid (treeErr d L=1):=by show _=_;rw [HR.out,if_pos hf]
   clear hf HR
   go_wp2_with fail
   refine hcf.mono ?_
   rintro e w2 ⟨rfl,hb2⟩
   go_wp2_with fail
   go_ret
   exact ⟨by rw [HR1.out];rfl,onB HB.out hb2⟩
  ·rw [decide_eq_false hf] at hcf
   have HR1:Hid (treeErr d L=0):=by show _=_;rw [HR.out,if_neg hf]
   clear hf HR
   go_wp2_with fail
   refine hcf.mono ?_
   rintro e w2 ⟨rfl,hb2⟩
   go_wp2_with fail
   go_ret
   exact ⟨by rw [HR1.out];rfl,onB HB.out hb2⟩
 ·have HK:Hid (errV (treeErr d L)=.iface 69 (.int .i64 (dimErr d).2)):=by show _=_;rw [treeErr_dim he,errV_some he]
  rw [errV_some he] at hck
  clear he
  generalize (dimErr d).2=c at hck HK
  go_enter Tryz.func116,Tryz.ntmps116
  go_wp2_with fail
  refine hck.mono ?_
  rintro e w1 ⟨rfl,hb1⟩
  go_wp2_with fail
  go_ret
  exact ⟨by rw [HK.out];rfl,onB HB0.out hb1⟩
theorem parts1_in:EntersO 133:=fun args w=>by simp [callFunc,Tryz.func133];rfl
theorem parts1_any (b o n cap k q r:Nat) (M:Nat→Mem) (i:Int) (w:World) (hk:k<n) (hn:n≤12) (hM:MemsAt w b o n M) (hq:w.cell? ⟨q,2,none⟩=some (.slice (some ⟨b,o,none⟩) n cap)) (hr:w.cell? ⟨r,0,none⟩=some (.int .i64 i)) :
  Calls Tryz.prog 133 #[.int .i64 k,.pointer (some ⟨q,0,none⟩),.pointer (some ⟨r,0,none⟩)] w fun e w'=>e=.returned (.bool (partB M i k))∧Below w.heap.size w w':=by
 obtain ⟨-,h1,-,-⟩:=hM.2 k hk
 have hki:(k:Int)<(n:Int):=by omega
 have hn':(n:Int)≤12:=by omega
 unfold partB
 clear hM
 go_enter Tryz.func133,Tryz.ntmps133
 go_wp2_with fail
 go_quiet (fail)
 go_wp2_with fail
 go_ret
 exact ⟨by simp,below_drewN (Below.refl _ _) _⟩
def lst (c:Int) (L:List Int):List Int:=if c=0 then L else []
theorem lst_ok {c:Int} (h:c=0) (L:List Int):lst c L=L:=by simp [lst,h]
theorem lst_bad {c:Int} (h:c≠0) (L:List Int):lst c L=[]:=by simp [lst,h]
theorem treeErr_right {d:Dm} {L:List Int} (h:treeErr d L=0):(dimErr d).2=0:=by
 unfold treeErr at h
 split at h
 ·rename_i h1;exact absurd h h1
 ·rename_i h1;simpa using h1
theorem treeErr_in {d:Dm} {i:Int} (h:treeErr d [i]=0):(dimErr d).2=0∧∃ k:Nat,i=k∧k<d.n:=by
 have h0:=treeErr_right h
 rw [treeErr_one h0] at h
 by_cases h1:i<0∨(d.n:Int)≤i
 ·rw [if_pos h1] at h;cases h
 ·exact ⟨h0,i.toNat,by omega,by omega⟩
theorem ints_one {w:World} {i:Int} {T:Nat}:IntsAt (ownInt w i T) (some ⟨w.heap.size,0,none⟩) 1 [i]:=by
 refine ⟨Nat.le_refl _,Or.inr ⟨_,rfl,by rw [ownInt_size];omega,fun j hj=>?_⟩⟩
 have hj0:j=0:=by simp at hj;omega
 subst hj0
 exact ownInt_at w i T
def ownP (w:World) (d:Dm) (A:Option Addr) (cap:Nat) (i:Int) (T T':Nat):World:=ownInt (ownDim w d A cap T) i T'
theorem ownP_size (w:World) (d:Dm) (A:Option Addr) (cap:Nat) (i:Int) (T T':Nat):(ownP w d A cap i T T').heap.size=w.heap.size+2:=by unfold ownP;rw [ownInt_size,ownDim_size]
theorem ownP_below (w:World) (d:Dm) (A:Option Addr) (cap:Nat) (i:Int) (T T':Nat):Below w.heap.size w (ownP w d A cap i T T'):=onB (ownDim_below w d A cap T) (ownInt_below _ i T')
theorem ownP_dim (w:World) (d:Dm) (A:Option Addr) (cap:Nat) (i:Int) (T T':Nat):(ownP w d A cap i T T').cell? ⟨w.heap.size,2,none⟩=some (.slice A d.n cap) :=
 ((ownInt_below (ownDim w d A cap T) i T').cell (p:=⟨w.heap.size,2,none⟩) (by show w.heap.size<_;rw [ownDim_size];omega)).trans (ownDim_at w d A cap T).2.2
theorem ownP_int (w:World) (d:Dm) (A:Option Addr) (cap:Nat) (i:Int) (T T':Nat):(ownP w d A cap i T T').cell? ⟨w.heap.size+1,0,none⟩=some (.int .i64 i):=by
 unfold ownP
 rw [←ownDim_size w d A cap T]
 exact ownInt_at _ i T'
theorem ownP_ints (w:World) (d:Dm) (A:Option Addr) (cap:Nat) (i:Int) (T T':Nat):IntsAt (ownP w d A cap i T T') (some ⟨w.heap.size+1,0,none⟩) 1 [i]:=by
 unfold ownP
 rw [←ownDim_size w d A cap T]
 exact ints_one
def ownQ (w:World) (d:Dm) (A:Option Addr) (cap:Nat) (i:Int) (T T':Nat):World:=ownInt (ownP w d A cap i T T') i T'
theorem ownQ_size (w:World) (d:Dm) (A:Option Addr) (cap:Nat) (i:Int) (T T':Nat):(ownQ w d A cap i T T').heap.size=w.heap.size+3:=by unfold ownQ;rw [ownInt_size,ownP_size]
theorem ownQ_below (w:World) (d:Dm) (A:Option Addr) (cap:Nat) (i:Int) (T T':Nat):Below w.heap.size w (ownQ w d A cap i T T'):=onB (ownP_below w d A cap i T T') (ownInt_below _ i T')
theorem ownQ_dim (w:World) (d:Dm) (A:Option Addr) (cap:Nat) (i:Int) (T T':Nat):(ownQ w d A cap i T T').cell? ⟨w.heap.size,2,none⟩=some (.slice A d.n cap) :=
 ((ownInt_below (ownP w d A cap i T T') i T').cell (p:=⟨w.heap.size,2,none⟩) (by show w.heap.size<_;rw [ownP_size];omega)).trans (ownP_dim ..)
theorem ownQ_int (w:World) (d:Dm) (A:Option Addr) (cap:Nat) (i:Int) (T T':Nat):(ownQ w d A cap i T T').cell? ⟨w.heap.size+1,0,none⟩=some (.int .i64 i) :=
 ((ownInt_below (ownP w d A cap i T T') i T').cell (p:=⟨w.heap.size+1,0,none⟩) (by show w.heap.size+1<_;rw [ownP_size];omega)).trans (ownP_int ..)
theorem ownQ_ints (w:World) (d:Dm) (A:Option Addr) (cap:Nat) (i:Int) (T T':Nat):IntsAt (ownQ w d A cap i T T') (some ⟨w.heap.size+2,0,none⟩) 1 [i]:=by
 unfold ownQ
 rw [←ownP_size w d A cap i T T']
 exact ints_one
def lfOf (d:Dm) (i:Int):Bool:=decide (treeErr d [i]=0) && leafB d.mem d.n i.toNat
set_option maxHeartbeats 2000000 in
theorem tleaf_any (d:Dm) (A:Option Addr) (cap:Nat) (i:Int) (w:World) (hM:MemsV w A cap d.n d.mem):Calls Tryz.prog 91 #[dimV d A cap,.int .i64 i] w fun e w'=>e=.returned (.tuple #[.bool (lfOf d i),errV (treeErr d [i])])∧Below w.heap.size w w':=by
 have hB0:=ownP_below w d A cap i 41 3
 have hck:=tcheck_any d A cap _ 1 [i] (ownP w d A cap i 41 3) (hM.later hB0) (by simp) (ownP_ints ..)
 have HB0:Hid (Below w.heap.size w (ownP w d A cap i 41 3)):=hB0
 have HM:Hid (MemsV w A cap d.n d.mem):=hM
 unfold dimV at hck ⊢
 simp only [List.length_singleton] at hck
 clear hM hB0
 by_cases he:treeErr d [i]=0
 ·obtain ⟨hd,k,rfl,hk⟩:=treeErr_in he
  rw [he,errV_zero] at hck
  obtain ⟨-,-,hd2,-⟩:=dimErr_right hd
  have HR:Hid (lfOf d (k:Int)=leafB d.mem d.n k):=by show _=_;simp [lfOf,he]
  have HE:Hid (errV (treeErr d [(k:Int)])=.nilIface):=by show _=_;rw [he];rfl
  clear he hd
  go_enter Tryz.func91,Tryz.ntmps91
  go_wp2_with fail
  refine hck.mono ?_
  rintro e w1 ⟨rfl,hb1⟩
  have hB:Below w.heap.size w w1:=onB HB0.out hb1
  have h2:w1.cell? ⟨w.heap.size,2,none⟩=some (.slice A d.n cap):=(hb1.cell (p:=⟨w.heap.size,2,none⟩) (by show w.heap.size<_;rw [ownP_size];omega)).trans (ownP_dim ..)
  obtain ⟨hcap,h0 | ⟨b,o,rfl,hMs⟩⟩:=HM.out.later hB
  ·omega
  have hpl:=isleaf_any b o d.n cap k d.mem w1 hd2 hk hMs
  have HB:Hid (Below w.heap.size w w1):=hB
  clear hb1 hck hMs hB
  go_wp2_with fail
  refine hpl.mono ?_
  rintro e w2 ⟨rfl,hb2⟩
  go_wp2_with fail
  go_ret2
  rw [HR.out,HE.out]
  exact ⟨rfl,onB HB.out hb2⟩
 ·have HR:Hid (lfOf d i=false):=by show _=_;simp [lfOf,he]
  have HE:Hid (errV (treeErr d [i])=.iface 69 (.int .i64 (treeErr d [i]))):=errV_some he
  rw [errV_some he] at hck
  clear he
  generalize treeErr d [i]=c at hck HE
  go_enter Tryz.func91,Tryz.ntmps91
  go_wp2_with fail
  refine hck.mono ?_
  rintro e w1 ⟨rfl,hb1⟩
  go_wp2_with fail
  go_ret2
  rw [HR.out,HE.out]
  exact ⟨rfl,onB HB0.out hb1⟩
set_option maxHeartbeats 2000000 in
theorem anydim_any (fn q r:Nat) (he:EntersO fn) (A0:Option Addr) (n cap:Nat) (p:Nat→Bool) (w:World) (hn:n≤4) (hp:AskP fn q r w n p):Calls Tryz.prog 89 #[.agg #[.slice A0 n cap],.func (.func fn) #[] #[.pointer (some ⟨q,0,none⟩),.pointer (some ⟨r,0,none⟩)]] w fun e w'=>e=.returned (.bool (decide (0≤findFrom p n 0)))∧Below w.heap.size w w':=by
 have HP:Hid (AskP fn q r w n p):=hp
 have hn':(n:Int)≤4:=by omega
 clear hp
 unfold EntersO at he
 go_enter Tryz.func89,Tryz.ntmps89
 go_wp2_with fail
 go_loopg [5,9] n (fun g s5 s9 wr => ∃ (k:Nat),k≤n∧g=n-k∧s9=.int .i64 k∧findFrom p (n-k) k=findFrom p n 0∧Below w.heap.size w wr)
 case atStart=>exact ⟨0,Nat.zero_le _,rfl,rfl,rfl,by go_grown⟩
 case round =>
  obtain ⟨k,hk,rfl,rfl,hf,hBw⟩:=hrel
  have HF:Hid (findFrom p (n-k) k=findFrom p n 0):=hf
  have HW:Hid (Below w.heap.size w wr):=hBw
  by_cases hlt:k<n
  ·have hki:(k:Int)<(n:Int):=by omega
   have HSK:Hid (n-k=(n-(k+1))+1):=by show _=_;omega
   have hbd:=HP.out k wr hlt hBw
   clear hf hBw
   cases hb:p k
   ·rw [hb] at hbd
    have HK:Hid (p k=false):=hb
    clear hb
    go_wp2_with fail
    refine hbd.mono ?_
    rintro e w1 ⟨rfl,hb1⟩
    go_wp2_with fail
    go_roundg (n-(k+1))
    case measure=>omega
    case rel=>exact ⟨k+1,by omega,rfl,by go_num,by rw [←HF.out,HSK.out,findFrom_miss _ HK.out],onB HW.out hb1⟩
   ·rw [hb] at hbd
    have HK:Hid (p k=true):=hb
    clear hb
    go_wp2_with fail
    refine hbd.mono ?_
    rintro e w1 ⟨rfl,hb1⟩
    go_wp2_with fail
    go_ret
    exact ⟨by rw [←HF.out,HSK.out,findFrom_hit _ HK.out,decide_eq_true (by omega)];rfl,onB HW.out hb1⟩
  ·have hke:k=n:=by omega
   subst hke
   clear hf hBw
   go_wp2_with fail
   go_ret
   exact ⟨by rw [←HF.out,Nat.sub_self];rfl,HW.out⟩
def ownOP (w:World) (A0:Option Addr) (n cap:Nat) (Ap:Option Addr) (m cp T T':Nat):World:=(ownOut w A0 n cap T).alloc (.cells #[.slice Ap m cp] T')
theorem ownOP_size (w:World) (A0:Option Addr) (n cap:Nat) (Ap:Option Addr) (m cp T T':Nat):(ownOP w A0 n cap Ap m cp T T').heap.size=w.heap.size+2:=by unfold ownOP;simp [ownOut_size]
theorem ownOP_below (w:World) (A0:Option Addr) (n cap:Nat) (Ap:Option Addr) (m cp T T':Nat):Below w.heap.size w (ownOP w A0 n cap Ap m cp T T'):=by unfold ownOP ownOut;go_grown
theorem ownOP_o (w:World) (A0:Option Addr) (n cap:Nat) (Ap:Option Addr) (m cp T T':Nat):(ownOP w A0 n cap Ap m cp T T').cell? ⟨w.heap.size,0,none⟩=some (.slice A0 n cap):=by
 unfold ownOP
 rw [World.cell?_alloc_lt _ _ ⟨w.heap.size,0,none⟩ (by rw [ownOut_size];exact Nat.lt_succ_self _)]
 exact ownOut_at ..
theorem ownOP_p (w:World) (A0:Option Addr) (n cap:Nat) (Ap:Option Addr) (m cp T T':Nat):(ownOP w A0 n cap Ap m cp T T').cell? ⟨w.heap.size+1,0,none⟩=some (.slice Ap m cp):=by
 unfold ownOP
 rw [←ownOut_size w A0 n cap T]
 simp
theorem pcheck1_in:EntersO 115:=fun args w=>by simp [callFunc,Tryz.func115];rfl
set_option maxHeartbeats 2000000 in
theorem pcheck1_any (b o n cap k q r bp op cp:Nat) (D:Nat→Dm) (A:Nat→Option Addr) (C:Nat→Nat) (x:Int) (w:World) (hk:k<n) (hn:n≤4) (hd:(D k).n≤12) (hM:DimsAt w b o n D A C) (hx:w.cell? ⟨bp,op+k,none⟩=some (.int .i64 x)) (hq:w.cell? ⟨q,0,none⟩=some (.slice (some ⟨bp,op,none⟩) n cp)) (hr:w.cell? ⟨r,0,none⟩=some (.slice (some ⟨b,o,none⟩) n cap)) :
  Calls Tryz.prog 115 #[.int .i64 k,.pointer (some ⟨q,0,none⟩),.pointer (some ⟨r,0,none⟩)] w fun e w'=>e=.returned (.bool (decide (x<0) || decide (((D k).n:Int)≤x)))∧Below w.heap.size w w':=by
 obtain ⟨-,-,h3,-⟩:=hM.2 k hk
 have hki:(k:Int)<(n:Int):=by omega
 have hn':(n:Int)≤4:=by omega
 generalize (D k).n=m at h3 hd
 have hm:(m:Int)≤12:=by omega
 clear hM
 by_cases hx0:x<0
 ·rw [decide_eq_true hx0]
  go_enter Tryz.func115,Tryz.ntmps115
  go_wp2_with fail
  go_quiet (fail)
  go_wp2_with fail
  go_ret
  exact ⟨by simp,below_drewN (Below.refl _ _) _⟩
 ·rw [decide_eq_false hx0]
  have hx1:0≤x:=by omega
  have hxd:decide (x<0)=false:=decide_eq_false hx0
  go_enter Tryz.func115,Tryz.ntmps115
  go_wp2_with fail
  go_quiet (fail)
  go_wp2_with fail
  go_ret
  exact ⟨by simp,below_drewN (Below.refl _ _) _⟩
set_option maxHeartbeats 4000000 in
theorem pcheck_any (A0:Option Addr) (cap n:Nat) (D:Nat→Dm) (A:Nat→Option Addr) (C:Nat→Nat) (Ap:Option Addr) (cp:Nat) (L:List Int) (w:World) (hM:DimsV w A0 cap n D A C) (hP:PlAt w Ap cp L):Calls Tryz.prog 88 #[.agg #[.slice A0 n cap],.slice Ap L.length cp] w fun e w'=>e=.returned (errV (placeErr D n L))∧Below w.heap.size w w':=by
 have hB0:=ownOP_below w A0 n cap Ap L.length cp 24 49
 have h:=checko_any A0 cap n D A C (ownOP w A0 n cap Ap L.length cp 24 49) (hM.later hB0)
 have HB0:Hid (Below w.heap.size w (ownOP w A0 n cap Ap L.length cp 24 49)):=hB0
 have HM:Hid (DimsV w A0 cap n D A C):=hM
 have HP:Hid (PlAt w Ap cp L):=hP
 clear hM hB0 hP
 by_cases he:(allErr D n).2.2=0
 ·obtain ⟨hn1,hn4,-,hd⟩:=allErr_some he
  have HE:Hid (placeErr D n L=shapeErr D n L):=pe1 he
  rw [he,errV_zero] at h
  have HD:Hid (∀ i,i<n→1≤(D i).n∧(D i).n≤12):=hd
  have hn':(n:Int)≤4:=by omega
  clear he hd
  by_cases hl:L.length=n
  ·have hle:((L.length:Int) == (n:Int))=true:=by simp [hl]
   have HL:Hid (L.length=n):=hl
   obtain ⟨hcp,h0 | ⟨bp,op,rfl,hbp,hcell⟩⟩:=HP.out
   ·rw [h0] at hl;simp at hl;omega
   rw [hl] at h HB0 hcp hle
   rw [hl]
   have HC:Hid (∀ j,j<n→w.cell? ⟨bp,op+j,none⟩=some (.int .i64 (L.getD j 0))):=fun j hj=>hcell j (by omega)
   clear hl hcell
   go_enter Tryz.func88,Tryz.ntmps88
   go_wp2_with fail
   refine h.mono ?_
   rintro e w1 ⟨rfl,hb1⟩
   have hB:Below w.heap.size w w1:=onB HB0.out hb1
   have hz:w.heap.size+1<w1.heap.size:=by have:=hb1.size;rw [ownOP_size] at this;omega
   have ho:w1.cell? ⟨w.heap.size,0,none⟩=some (.slice A0 n cap):=(hb1.cell (p:=⟨w.heap.size,0,none⟩) (by show w.heap.size<_;rw [ownOP_size];omega)).trans (ownOP_o ..)
   have hp:w1.cell? ⟨w.heap.size+1,0,none⟩=some (.slice (some ⟨bp,op,none⟩) n cp):=(hb1.cell (p:=⟨w.heap.size+1,0,none⟩) (by show w.heap.size+1<_;rw [ownOP_size];omega)).trans (ownOP_p ..)
   obtain ⟨hcap,h0 | ⟨b,o,rfl,hMs⟩⟩:=HM.out.later hB
   ·omega
   have hany:=anydim_any 115 (w.heap.size+1) w.heap.size pcheck1_in (some ⟨b,o,none⟩) n cap (outP D L) w1 hn4 (fun j w' hj hw'=>pcheck1_any b o n cap j (w.heap.size+1) w.heap.size bp op cp D A C (L.getD j 0) w' hj hn4 (HD.out j hj).2 (hMs.later hw') (((onB hB hw').cell (p:=⟨bp,op+j,none⟩) hbp).trans (HC.out j hj)) ((hw'.cell (p:=⟨w.heap.size+1,0,none⟩) hz).trans hp) ((hw'.cell (p:=⟨w.heap.size,0,none⟩) (by show w.heap.size<_;omega)).trans ho))
   have HB:Hid (Below w.heap.size w w1):=hB
   clear hb1 h hMs hB
   by_cases hf:0≤findFrom (outP D L) n 0
   ·rw [decide_eq_true hf] at hany
    have HR:Hid (placeErr D n L=1):=by show _=_;rw [HE.out,sh1 HL.out hf]
    clear hf
    go_wp2_with fail
    refine hany.mono ?_
    rintro e w2 ⟨rfl,hb2⟩
    go_wp2_with fail
    go_ret
    exact ⟨by rw [HR.out];rfl,onB HB.out hb2⟩
   ·rw [decide_eq_false hf] at hany
    have HR:Hid (placeErr D n L=0):=by show _=_;rw [HE.out,sh2 HL.out hf]
    clear hf
    go_wp2_with fail
    refine hany.mono ?_
    rintro e w2 ⟨rfl,hb2⟩
    go_wp2_with fail
    go_ret
    exact ⟨by rw [HR.out];rfl,onB HB.out hb2⟩
  ·have hle:((L.length:Int) == (n:Int))=false:=by simp;omega
   have HR:Hid (placeErr D n L=3):=by show _=_;rw [HE.out,sh0 hl]
   generalize L.length=m at h hle HB0
   clear hl
   go_enter Tryz.func88,Tryz.ntmps88
   go_wp2_with fail
   refine h.mono ?_
   rintro e w1 ⟨rfl,hb1⟩
   have ho:w1.cell? ⟨w.heap.size,0,none⟩=some (.slice A0 n cap):=(hb1.cell (p:=⟨w.heap.size,0,none⟩) (by show w.heap.size<_;rw [ownOP_size];omega)).trans (ownOP_o ..)
   have hp:w1.cell? ⟨w.heap.size+1,0,none⟩=some (.slice Ap m cp):=(hb1.cell (p:=⟨w.heap.size+1,0,none⟩) (by show w.heap.size+1<_;rw [ownOP_size];omega)).trans (ownOP_p ..)
   have HB:Hid (Below w.heap.size w w1):=onB HB0.out hb1
   clear hb1 h
   go_wp2_with fail
   go_ret
   exact ⟨by rw [HR.out];rfl,HB.out⟩
 ·have HR:Hid (placeErr D n L=(allErr D n).2.2):=pe0 he
  have HE:Hid (errV (allErr D n).2.2=.iface 69 (.int .i64 (allErr D n).2.2)):=errV_some he
  rw [errV_some he] at h
  clear he
  generalize (allErr D n).2.2=c at h HE HR
  generalize L.length=m at h HB0
  go_enter Tryz.func88,Tryz.ntmps88
  go_wp2_with fail
  refine h.mono ?_
  rintro e w1 ⟨rfl,hb1⟩
  go_wp2_with fail
  go_ret
  exact ⟨by rw [HR.out,HE.out];rfl,onB HB0.out hb1⟩
set_option maxHeartbeats 2000000 in
theorem iclone_pl (A:Option Addr) (c:Nat) (L:List Int) (w:World) (hL:L.length≤1048576) (hP:PlAt w A c L):Calls Tryz.prog 113 #[.slice A L.length c] w fun e w'=>(∃ v,e=.returned v∧w'.ownsRow w.heap.size 3 1 v L.length (mapI L))∧Below w.heap.size w w':=by
 have hq:∀ (w:World) (a:Option Addr) (n c n' c':Nat),(binOp .eql 47 (.slice a n c) (.slice none n' c')).run Tryz.prog w=.ok (.bool a.isNone) w:=fun w a n c n' c'=>Lib.run_eql_slice_nil w _ _ a n c n' c' Tryz.underlying47
 cases A with
 | none =>
  obtain ⟨-,h0 | ⟨b,o,h0,-⟩⟩:=hP
  ·subst h0
   simp only [List.length_nil]
   go_enter Tryz.func113,Tryz.ntmps113
   go_wp2_with fail
   go_ret
   exact ⟨⟨_,rfl,World.ownsRow_nil _ _ _ _⟩,Below.refl _ _⟩
  ·cases h0
 | some a =>
  obtain ⟨i0,hi0,hz0,hz1,hz2⟩:=info_parts Tryz.infoInt
  have HC:Hid (∀ j u,(mapI L)[j]?=some u→w.cell? (a.add j)=some u):=by
   intro j u hj
   obtain ⟨-,h0 | ⟨b,o,h0,-,hcell⟩⟩:=hP
   ·subst h0;simp [mapI] at hj
   ·cases h0
    have hlt:j<L.length:=by have:=(List.getElem?_eq_some_iff.1 hj).1;simpa [mapI] using this
    rw [plain_add,hcell j hlt]
    simp only [mapI,List.getElem?_map,List.getElem?_eq_getElem hlt,Option.map_some,Option.some.injEq] at hj
    rw [←hj,List.getD_eq_getElem?_getD,List.getElem?_eq_getElem hlt]
    rfl
  have hl:(mapI L).length=L.length*1:=by simp [mapI]
  have h1:∀ u∈mapI L,u.oneCell'=true:=by intro u hu;simp [mapI] at hu;obtain ⟨x,-,rfl⟩:=hu;rfl
  clear hP
  go_enter Tryz.func113,Tryz.ntmps113
  go_wp2_with (at_builtin;refine wpList_append_own _ rfl _ _ 47 rfl w.heap.size 3 i0 (.int .i64 0) 1 8 Tryz.underlying47 hi0 hz0 hz1 hz2 rfl (by decide) _ _ _ rfl (World.ownsRow_made w #[] 0 (Nat.le_refl _) (Nat.zero_le _) (by simp)) a L.length c (mapI L) rfl ?qc1 ?qc2 ?qc3 ?qc4 ?qc5 ?qc6 ?_)
  case qc1=>exact hl
  case qc2=>exact fun j u hj=>Lib.cell?_alloc_some _ (HC.out j u hj)
  case qc3=>exact h1
  case qc4=>simp only [maxLen];omega
  case qc5=>omega
  case qc6=>simp
  intro v' w1 hown hgrow hnil
  have HO:Hid (w1.ownsRow w.heap.size 3 1 v' L.length (mapI L)):=hown
  have HB:Hid (Below w.heap.size w w1):=((Below.refl _ w).alloc (Nat.le_refl _) _).grown hgrow (by simp) (by intro k hk;simp [Value.ownBlock] at hk;omega)
  clear hown hgrow hnil
  go_wp2_with fail
  go_ret
  exact ⟨⟨_,rfl,HO.out⟩,HB.out⟩
def IntT (w:World) (A:Option Addr) (c:Nat) (L:List Int):Prop:=L.length≤c∧c≤9223372036854775807∧(L=[]∨∃ b cs fr,A=some ⟨b,0,none⟩∧w.heap[b]?=some (.cells cs 3 fr)∧∀ j,j<L.length→w.cell? ⟨b,j,none⟩=some (.int .i64 (L.getD j 0)))
theorem IntT.at {w:World} {A:Option Addr} {c:Nat} {L:List Int} (h:IntT w A c L):IntsAt w A c L:=by
 obtain ⟨h1,-,h2 | ⟨b,cs,fr,h2,h3,h4⟩⟩:=h
 ·exact ⟨h1,Or.inl h2⟩
 ·exact ⟨h1,Or.inr ⟨b,h2,(Array.getElem?_eq_some_iff.1 h3).1,h4⟩⟩
theorem IntT.nil (w:World) (A:Option Addr) (c:Nat) (h:c≤9223372036854775807):IntT w A c []:=⟨Nat.zero_le _,h,Or.inl rfl⟩
theorem IntT.keep {w w':World} {A:Option Addr} {c:Nat} {L:List Int} (h:IntT w A c L) (hB:∀ (b:Nat) (cs:Array Value) (fr:Nat×Nat),w.heap[b]?=some (Obj.cells cs 3 fr)→w'.heap[b]?=w.heap[b]?):IntT w' A c L:=by
 obtain ⟨h1,h0,h2 | ⟨b,cs,fr,h2,h3,h4⟩⟩:=h
 ·exact ⟨h1,h0,Or.inl h2⟩
 ·have hb:=hB b cs fr h3
  exact ⟨h1,h0,Or.inr ⟨b,cs,fr,h2,hb.trans h3,fun j hj=>(World.cell?_of_block (a:=⟨b,j,none⟩) hb).trans (h4 j hj)⟩⟩
theorem IntT.later {w w':World} {A:Option Addr} {c:Nat} {L:List Int} (h:IntT w A c L) (hB:Below w.heap.size w w'):IntT w' A c L :=
 h.keep fun b _ _ hb=>hB.block b (Array.getElem?_eq_some_iff.1 hb).1
theorem intT_own {w:World} {base:Nat} {v:Value} {L:List Int} (h:w.ownsRow base 3 1 v L.length (mapI L)):∃ A c,v=.slice A L.length c∧IntT w A c L:=by
 rcases h.2 with ⟨rfl,h0⟩ | ⟨g,cap,cur,rfl,hb,hg,hc,hm,_,_⟩
 ·have:L=[]:=List.eq_nil_of_length_eq_zero h0
  subst this
  exact ⟨none,0,rfl,IntT.nil _ _ _ (by omega)⟩
 ·refine ⟨_,cap,rfl,hc,by unfold maxLen at hm;omega,Or.inr ⟨g,cur,_,rfl,hg,fun j hj=>?_⟩⟩
  have hx:=h.cells (g:=g) rfl j (.int .i64 (L.getD j 0)) (by simp [mapI,List.getD,List.getElem?_eq_getElem hj])
  have hadd:(⟨g,0,none⟩:Addr).add j=⟨g,j,none⟩:=by unfold Addr.add;split <;> simp_all
  rw [hadd] at hx
  exact hx
theorem row_ne_int:(3:Nat)≠47:=by decide
theorem IntT.row {w w':World} {base:Nat} {v:Value} {n:Nat} {zs:List Value} {A:Option Addr} {c:Nat} {L:List Int} (h:IntT w A c L) (hown:w.ownsRow base 47 1 v n zs) (hG:w.grownBy w' v.ownBlock):IntT w' A c L:=by
 refine h.keep fun b cs fr hb=>hG.block b (Array.getElem?_eq_some_iff.1 hb).1 fun e=>?_
 rcases hown.2 with ⟨rfl,-⟩ | ⟨g,cap,cur,rfl,-,hg,-⟩
 ·cases e
 ·simp only [Value.ownBlock,Option.some.injEq] at e
  rw [e,hg] at hb
  simp only [Option.some.injEq,Obj.cells.injEq] at hb
  exact row_ne_int hb.2.1.symm
structure RL where
 p:List Int
 A:Option Addr
 c:Nat
def noR:RL:=⟨[],none,0⟩
def lR (xs:List RL):List (List Int):=xs.map RL.p
theorem lR_len (xs:List RL):(lR xs).length=xs.length:=by simp [lR]
theorem lR_append (a b:List RL):lR (a ++ b)=lR a ++ lR b:=by simp [lR]
def cellsR (xs:List RL):List Value:=xs.map fun x=>.slice x.A x.p.length x.c
theorem cellsR_append (a b:List RL):cellsR (a ++ b)=cellsR a ++ cellsR b:=by simp [cellsR]
theorem rl_mem {xs:List RL} {k:Nat} (h:k<xs.length):xs.getD k noR∈xs:=by
 rw [List.getD_eq_getElem?_getD,List.getElem?_eq_getElem h]
 exact List.getElem_mem h
theorem lR_at (xs:List RL) (k:Nat):(lR xs).getD k []=(xs.getD k noR).p:=by
 rw [List.getD_eq_getElem?_getD,List.getD_eq_getElem?_getD,lR,List.getElem?_map]
 cases xs[k]? <;> rfl
theorem cellsR_at {xs:List RL} {k:Nat} (h:k<xs.length):(cellsR xs)[k]?=some (.slice (xs.getD k noR).A (xs.getD k noR).p.length (xs.getD k noR).c):=by
 simp [cellsR,List.getD,h]
def RowsV (w:World) (A:Option Addr) (cap:Nat) (xs:List RL):Prop:=xs.length≤cap∧(xs=[]∨∃ b,A=some ⟨b,0,none⟩∧b<w.heap.size∧∀ k,k<xs.length→w.cell? ⟨b,k,none⟩=some (.slice (xs.getD k noR).A (xs.getD k noR).p.length (xs.getD k noR).c))∧∀ x∈xs,IntT w x.A x.c x.p
theorem RowsV.later {w w':World} {A:Option Addr} {cap:Nat} {xs:List RL} (h:RowsV w A cap xs) (hB:Below w.heap.size w w'):RowsV w' A cap xs:=by
 obtain ⟨h1,h2,h3⟩:=h
 refine ⟨h1,?_,fun x hx=>(h3 x hx).later hB⟩
 rcases h2 with h2 | ⟨b,h2,h4,h5⟩
 ·exact Or.inl h2
 ·exact Or.inr ⟨b,h2,Nat.lt_of_lt_of_le h4 hB.size,fun k hk=>(hB.cell (p:=⟨b,k,none⟩) h4).trans (h5 k hk)⟩
theorem RowsV.nil (w:World) (A:Option Addr) (cap:Nat):RowsV w A cap []:=⟨Nat.zero_le _,Or.inl rfl,fun x hx=>by cases hx⟩
theorem rows_own {w:World} {base:Nat} {v:Value} {xs:List RL} (h:w.ownsRow base 47 1 v xs.length (cellsR xs)) (hp:∀ x∈xs,IntT w x.A x.c x.p):∃ A c,v=.slice A xs.length c∧RowsV w A c xs:=by
 rcases h.2 with ⟨rfl,h0⟩ | ⟨g,cap,cur,rfl,hb,hg,hc,_,_,_⟩
 ·have:xs=[]:=List.eq_nil_of_length_eq_zero h0
  subst this
  exact ⟨none,0,rfl,RowsV.nil _ _ _⟩
 ·refine ⟨_,cap,rfl,hc,Or.inr ⟨g,rfl,(Array.getElem?_eq_some_iff.1 hg).1,fun k hk=>?_⟩,hp⟩
  have y:=h.cells (g:=g) rfl k _ (cellsR_at hk)
  have hadd:(⟨g,0,none⟩:Addr).add k=⟨g,k,none⟩:=by unfold Addr.add;split <;> simp_all
  rw [hadd] at y
  exact y
theorem Tryz.infoRow:(Tryz.prog.info? 47).map (fun i=>(i.zero,i.size,i.bytes))=some (some (.slice none 0 0),1,24):=by kernel_rfl
theorem iclone_any (A:Option Addr) (c:Nat) (L:List Int) (w:World) (hL:L.length≤12) (hP:IntT w A c L):Calls Tryz.prog 113 #[.slice A L.length c] w fun e w'=>(∃ v,e=.returned v∧w'.ownsRow w.heap.size 3 1 v L.length (mapI L))∧Below w.heap.size w w' :=
 iclone_pl A c L w (by omega) (pl_ints hP.at)
end Go.Proofs.YtfldgghobddgkaaGreatDoor
