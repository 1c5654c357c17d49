/-
  slices.IndexFunc and slices.ContainsFunc over ints, at the question of package tree's check; what check answers: what is wrong with a dim, or else with places in it.
-/
import Derived.Deep.QuietTactic
import Derived.Deep.RegionHeld3
import Derived.Test.YtglekooldbeklaaGreatDoorJKAH
import Derived.Test.YtglekooldbeklaaGreatDoorJKAI
namespace Go.Proofs.YtglekooldbeklaaGreatDoor
open Go.ChangeShapes Go.WideShapes Go.ChangeAt Go.RowKit
set_option maxRecDepth 20000
def outB (n:Nat) (i:Int):Bool:=decide (i<0) || decide ((n:Int)≤i)
theorem check1_any (i:Int) (A:Option Addr) (n cap q:Nat) (w:World) (h:w.cell? ⟨q,2,none⟩=some (.slice A n cap)):Calls Tryz.prog 166 #[.int .i64 i,.pointer (some ⟨q,0,none⟩)] w fun e w'=>e=.returned (.bool (outB n i))∧Below w.heap.size w w':=by
 unfold outB
 by_cases h1:i<0
 ·go_enter Tryz.func166,Tryz.ntmps166
  go_wp2
  go_ret
  exact ⟨by simp <;> omega,by go_grown⟩
 ·go_enter Tryz.func166,Tryz.ntmps166
  go_wp2
  go_ret
  exact ⟨by simp <;> omega,by go_grown⟩
theorem containsf_ints (A:Option Addr) (cap:Nat) (L:List Int) (Am:Option Addr) (nm cm q:Nat) (w:World) (hn:L.length≤2) (hL:IntsAt w A cap L) (hq:q<w.heap.size) (hqc:w.cell? ⟨q,2,none⟩=some (.slice Am nm cm)) :
  Calls Tryz.prog 165 #[.slice A L.length cap,.func (.func 166) #[] #[.pointer (some ⟨q,0,none⟩)]] w fun e w'=>e=.returned (.bool (decide (0≤findFrom (fun j=>outB nm (L.getD j 0)) L.length 0)))∧Below w.heap.size w w' :=
 contm_pl 166 #[.pointer (some ⟨q,0,none⟩)] (outB nm) (fun args w=>by simp [callFunc,Tryz.func166];rfl) A cap L w (by omega) (pl_ints hL) fun x w' _ hB=>check1_any x Am nm cm q w' ((hB.cell (p:=⟨q,2,none⟩) hq).trans hqc)
theorem treeErr_range {d:Dm} {L:List Int} (h:(dimErr d).2=0):treeErr d L=if 0≤findFrom (fun j=>outB d.n (L.getD j 0)) L.length 0 then 1 else 0:=by
 unfold treeErr rangeErr;rw [if_neg (by simpa using h)];rfl
set_option maxHeartbeats 2000000 in
theorem tcheck_any (d:Dm) (A:Option Addr) (cap:Nat) (Ai:Option Addr) (ci:Nat) (L:List Int) (w:World) (hM:MemsV w A cap d.n d.mem) (hn:L.length≤2) (hL:IntsAt w Ai ci L):Calls Tryz.prog 131 #[dimV d A cap,.slice Ai L.length ci] w fun e w'=>e=.returned (errV (treeErr d L))∧Below w.heap.size w w':=by
 have hS:=ownDim_size w d A cap 32
 have hB0:=ownDim_below w d A cap 32
 have hA:=(ownDim_at w d A cap 32).2.2
 have hck:=dcheck_any d A cap (ownDim w d A cap 32) (hM.later hB0)
 unfold dimV at hck ⊢
 have HB0:Hid (Below w.heap.size w (ownDim w d A cap 32)):=hB0
 have HS:Hid ((ownDim w d A cap 32).heap.size=w.heap.size+1):=hS
 have HA:Hid ((ownDim w d A cap 32).cell? ⟨w.heap.size,2,none⟩=some (.slice A d.n cap)):=hA
 have HL:Hid (IntsAt w Ai ci L):=hL
 clear hM hS hB0 hA hL
 by_cases he:(dimErr d).2=0
 ·obtain ⟨e1,hd1,hd2,-⟩:=dimErr_right he
  rw [he,e1,errV_zero] at hck
  have HE:Hid ((dimErr d).2=0):=he
  clear he e1
  go_enter Tryz.func131,Tryz.ntmps131
  go_wp2_with fail
  refine hck.mono ?_
  rintro e w1 ⟨rfl,hb1⟩
  have hB:Below w.heap.size w w1:=onB HB0.out hb1
  have hz:w.heap.size<w1.heap.size:=by
   have:=hb1.size
   rw [HS.out] at this
   omega
  have h2:w1.cell? ⟨w.heap.size,2,none⟩=some (.slice A d.n cap):=(hb1.cell (p:=⟨w.heap.size,2,none⟩) (by show w.heap.size<_;rw [HS.out];omega)).trans HA.out
  have hcf:=containsf_ints Ai ci L A d.n cap w.heap.size w1 hn (HL.out.later hB) hz h2
  have HR:Hid (treeErr d L=if 0≤findFrom (fun j=>outB d.n (L.getD j 0)) L.length 0 then 1 else 0):=treeErr_range HE.out
  have HB:Hid (Below w.heap.size w w1):=hB
  generalize findFrom (fun j=>outB d.n (L.getD j 0)) L.length 0=f at hcf HR
  generalize L.length=n at hcf
  clear hb1 hck h2 hB
  by_cases hf:0≤f
  ·rw [decide_eq_true hf] at hcf
   have HR1:Hid (treeErr d L=1):=by show _=_;rw [HR.out,if_pos hf]
   clear hf HR
   go_wp2_with fail
   refine hcf.mono ?_
   rintro e w2 ⟨rfl,hb2⟩
   go_wp2_with fail
   go_ret
   exact ⟨by rw [HR1.out];rfl,onB HB.out hb2⟩
  ·rw [decide_eq_false hf] at hcf
   have HR1:Hid (treeErr d L=0):=by show _=_;rw [HR.out,if_neg hf]
   clear hf HR
   go_wp2_with fail
   refine hcf.mono ?_
   rintro e w2 ⟨rfl,hb2⟩
   go_wp2_with fail
   go_ret
   exact ⟨by rw [HR1.out];rfl,onB HB.out hb2⟩
 ·have HK:Hid (errV (treeErr d L)=.iface 58 (.int .i64 (dimErr d).2)):=by show _=_;rw [treeErr_dim he,errV_some he]
  rw [errV_some he] at hck
  clear he
  generalize (dimErr d).2=c at hck HK
  go_enter Tryz.func131,Tryz.ntmps131
  go_wp2_with fail
  refine hck.mono ?_
  rintro e w1 ⟨rfl,hb1⟩
  go_wp2_with fail
  go_ret
  exact ⟨by rw [HK.out];rfl,onB HB0.out hb1⟩
theorem parts1_in:EntersO 163:=fun args w=>by simp [callFunc,Tryz.func163];rfl
theorem parts1_any (b o n cap k q r:Nat) (M:Nat→Mem) (i:Int) (w:World) (hk:k<n) (hn:n≤12) (hM:MemsAt w b o n M) (hq:w.cell? ⟨q,2,none⟩=some (.slice (some ⟨b,o,none⟩) n cap)) (hr:w.cell? ⟨r,0,none⟩=some (.int .i64 i)) :
  Calls Tryz.prog 163 #[.int .i64 k,.pointer (some ⟨q,0,none⟩),.pointer (some ⟨r,0,none⟩)] w fun e w'=>e=.returned (.bool (partB M i k))∧Below w.heap.size w w':=by
 obtain ⟨-,h1,-,-⟩:=hM.2 k hk
 have hki:(k:Int)<(n:Int):=by omega
 have hn':(n:Int)≤12:=by omega
 unfold partB
 clear hM
 go_enter Tryz.func163,Tryz.ntmps163
 go_wp2_with fail
 go_quiet (fail)
 go_wp2_with fail
 go_ret
 exact ⟨by simp,below_drewN (Below.refl _ _) _⟩
def lst (c:Int) (L:List Int):List Int:=if c=0 then L else []
theorem lst_ok {c:Int} (h:c=0) (L:List Int):lst c L=L:=by simp [lst,h]
theorem lst_bad {c:Int} (h:c≠0) (L:List Int):lst c L=[]:=by simp [lst,h]
theorem treeErr_right {d:Dm} {L:List Int} (h:treeErr d L=0):(dimErr d).2=0:=by
 unfold treeErr at h
 split at h
 ·rename_i h1;exact absurd h h1
 ·rename_i h1;simpa using h1
theorem treeErr_in {d:Dm} {i:Int} (h:treeErr d [i]=0):(dimErr d).2=0∧∃ k:Nat,i=k∧k<d.n:=by
 have h0:=treeErr_right h
 rw [treeErr_one h0] at h
 by_cases h1:i<0∨(d.n:Int)≤i
 ·rw [if_pos h1] at h;cases h
 ·exact ⟨h0,i.toNat,by omega,by omega⟩
theorem ints_one {w:World} {i:Int} {T:Nat}:IntsAt (ownInt w i T) (some ⟨w.heap.size,0,none⟩) 1 [i]:=by
 refine ⟨Nat.le_refl _,Or.inr ⟨_,rfl,by rw [ownInt_size];omega,fun j hj=>?_⟩⟩
 have hj0:j=0:=by simp at hj;omega
 subst hj0
 exact ownInt_at w i T
def ownP (w:World) (d:Dm) (A:Option Addr) (cap:Nat) (i:Int) (T T':Nat):World:=ownInt (ownDim w d A cap T) i T'
theorem ownP_size (w:World) (d:Dm) (A:Option Addr) (cap:Nat) (i:Int) (T T':Nat):(ownP w d A cap i T T').heap.size=w.heap.size+2:=by unfold ownP;rw [ownInt_size,ownDim_size]
theorem ownP_below (w:World) (d:Dm) (A:Option Addr) (cap:Nat) (i:Int) (T T':Nat):Below w.heap.size w (ownP w d A cap i T T'):=onB (ownDim_below w d A cap T) (ownInt_below _ i T')
theorem ownP_dim (w:World) (d:Dm) (A:Option Addr) (cap:Nat) (i:Int) (T T':Nat):(ownP w d A cap i T T').cell? ⟨w.heap.size,2,none⟩=some (.slice A d.n cap) :=
 ((ownInt_below (ownDim w d A cap T) i T').cell (p:=⟨w.heap.size,2,none⟩) (by show w.heap.size<_;rw [ownDim_size];omega)).trans (ownDim_at w d A cap T).2.2
theorem ownP_int (w:World) (d:Dm) (A:Option Addr) (cap:Nat) (i:Int) (T T':Nat):(ownP w d A cap i T T').cell? ⟨w.heap.size+1,0,none⟩=some (.int .i64 i):=by
 unfold ownP
 rw [←ownDim_size w d A cap T]
 exact ownInt_at _ i T'
theorem ownP_ints (w:World) (d:Dm) (A:Option Addr) (cap:Nat) (i:Int) (T T':Nat):IntsAt (ownP w d A cap i T T') (some ⟨w.heap.size+1,0,none⟩) 1 [i]:=by
 unfold ownP
 rw [←ownDim_size w d A cap T]
 exact ints_one
def ownQ (w:World) (d:Dm) (A:Option Addr) (cap:Nat) (i:Int) (T T':Nat):World:=ownInt (ownP w d A cap i T T') i T'
theorem ownQ_size (w:World) (d:Dm) (A:Option Addr) (cap:Nat) (i:Int) (T T':Nat):(ownQ w d A cap i T T').heap.size=w.heap.size+3:=by unfold ownQ;rw [ownInt_size,ownP_size]
theorem ownQ_below (w:World) (d:Dm) (A:Option Addr) (cap:Nat) (i:Int) (T T':Nat):Below w.heap.size w (ownQ w d A cap i T T'):=onB (ownP_below w d A cap i T T') (ownInt_below _ i T')
theorem ownQ_dim (w:World) (d:Dm) (A:Option Addr) (cap:Nat) (i:Int) (T T':Nat):(ownQ w d A cap i T T').cell? ⟨w.heap.size,2,none⟩=some (.slice A d.n cap) :=
 ((ownInt_below (ownP w d A cap i T T') i T').cell (p:=⟨w.heap.size,2,none⟩) (by show w.heap.size<_;rw [ownP_size];omega)).trans (ownP_dim ..)
theorem ownQ_int (w:World) (d:Dm) (A:Option Addr) (cap:Nat) (i:Int) (T T':Nat):(ownQ w d A cap i T T').cell? ⟨w.heap.size+1,0,none⟩=some (.int .i64 i) :=
 ((ownInt_below (ownP w d A cap i T T') i T').cell (p:=⟨w.heap.size+1,0,none⟩) (by show w.heap.size+1<_;rw [ownP_size];omega)).trans (ownP_int ..)
theorem ownQ_ints (w:World) (d:Dm) (A:Option Addr) (cap:Nat) (i:Int) (T T':Nat):IntsAt (ownQ w d A cap i T T') (some ⟨w.heap.size+2,0,none⟩) 1 [i]:=by
 unfold ownQ
 rw [←ownP_size w d A cap i T T']
 exact ints_one
def lfOf (d:Dm) (i:Int):Bool:=decide (treeErr d [i]=0) && leafB d.mem d.n i.toNat
set_option maxHeartbeats 2000000 in
theorem tleaf_any (d:Dm) (A:Option Addr) (cap:Nat) (i:Int) (w:World) (hM:MemsV w A cap d.n d.mem):Calls Tryz.prog 94 #[dimV d A cap,.int .i64 i] w fun e w'=>e=.returned (.tuple #[.bool (lfOf d i),errV (treeErr d [i])])∧Below w.heap.size w w':=by
 have hB0:=ownP_below w d A cap i 32 3
 have hck:=tcheck_any d A cap _ 1 [i] (ownP w d A cap i 32 3) (hM.later hB0) (by simp) (ownP_ints ..)
 have HB0:Hid (Below w.heap.size w (ownP w d A cap i 32 3)):=hB0
 have HM:Hid (MemsV w A cap d.n d.mem):=hM
 unfold dimV at hck ⊢
 simp only [List.length_singleton] at hck
 clear hM hB0
 by_cases he:treeErr d [i]=0
 ·obtain ⟨hd,k,rfl,hk⟩:=treeErr_in he
  rw [he,errV_zero] at hck
  obtain ⟨-,-,hd2,-⟩:=dimErr_right hd
  have HR:Hid (lfOf d (k:Int)=leafB d.mem d.n k):=by show _=_;simp [lfOf,he]
  have HE:Hid (errV (treeErr d [(k:Int)])=.nilIface):=by show _=_;rw [he];rfl
  clear he hd
  go_enter Tryz.func94,Tryz.ntmps94
  go_wp2_with fail
  refine hck.mono ?_
  rintro e w1 ⟨rfl,hb1⟩
  have hB:Below w.heap.size w w1:=onB HB0.out hb1
  have h2:w1.cell? ⟨w.heap.size,2,none⟩=some (.slice A d.n cap):=(hb1.cell (p:=⟨w.heap.size,2,none⟩) (by show w.heap.size<_;rw [ownP_size];omega)).trans (ownP_dim ..)
  obtain ⟨hcap,h0 | ⟨b,o,rfl,hMs⟩⟩:=HM.out.later hB
  ·omega
  have hpl:=isleaf_any b o d.n cap k d.mem w1 hd2 hk hMs
  have HB:Hid (Below w.heap.size w w1):=hB
  clear hb1 hck hMs hB
  go_wp2_with fail
  refine hpl.mono ?_
  rintro e w2 ⟨rfl,hb2⟩
  go_wp2_with fail
  go_ret2
  rw [HR.out,HE.out]
  exact ⟨rfl,onB HB.out hb2⟩
 ·have HR:Hid (lfOf d i=false):=by show _=_;simp [lfOf,he]
  have HE:Hid (errV (treeErr d [i])=.iface 58 (.int .i64 (treeErr d [i]))):=errV_some he
  rw [errV_some he] at hck
  clear he
  generalize treeErr d [i]=c at hck HE
  go_enter Tryz.func94,Tryz.ntmps94
  go_wp2_with fail
  refine hck.mono ?_
  rintro e w1 ⟨rfl,hb1⟩
  go_wp2_with fail
  go_ret2
  rw [HR.out,HE.out]
  exact ⟨rfl,onB HB0.out hb1⟩
set_option maxHeartbeats 2000000 in
theorem anydim_any (fn q r:Nat) (he:EntersO fn) (A0:Option Addr) (n cap:Nat) (p:Nat→Bool) (w:World) (hn:n≤4) (hp:AskP fn q r w n p):Calls Tryz.prog 51 #[.agg #[.slice A0 n cap],.func (.func fn) #[] #[.pointer (some ⟨q,0,none⟩),.pointer (some ⟨r,0,none⟩)]] w fun e w'=>e=.returned (.bool (decide (0≤findFrom p n 0)))∧Below w.heap.size w w':=by
 have HP:Hid (AskP fn q r w n p):=hp
 have hn':(n:Int)≤4:=by omega
 clear hp
 unfold EntersO at he
 go_enter Tryz.func51,Tryz.ntmps51
 go_wp2_with fail
 go_loopg [5,9] n (fun g s5 s9 wr => ∃ (k:Nat),k≤n∧g=n-k∧s9=.int .i64 k∧findFrom p (n-k) k=findFrom p n 0∧Below w.heap.size w wr)
 case atStart=>exact ⟨0,Nat.zero_le _,rfl,rfl,rfl,by go_grown⟩
 case round =>
  obtain ⟨k,hk,rfl,rfl,hf,hBw⟩:=hrel
  have HF:Hid (findFrom p (n-k) k=findFrom p n 0):=hf
  have HW:Hid (Below w.heap.size w wr):=hBw
  by_cases hlt:k<n
  ·have hki:(k:Int)<(n:Int):=by omega
   have HSK:Hid (n-k=(n-(k+1))+1):=by show _=_;omega
   have hbd:=HP.out k wr hlt hBw
   clear hf hBw
   cases hb:p k
   ·rw [hb] at hbd
    have HK:Hid (p k=false):=hb
    clear hb
    go_wp2_with fail
    refine hbd.mono ?_
    rintro e w1 ⟨rfl,hb1⟩
    go_wp2_with fail
    go_roundg (n-(k+1))
    case measure=>omega
    case rel=>exact ⟨k+1,by omega,rfl,by go_num,by rw [←HF.out,HSK.out,findFrom_miss _ HK.out],onB HW.out hb1⟩
   ·rw [hb] at hbd
    have HK:Hid (p k=true):=hb
    clear hb
    go_wp2_with fail
    refine hbd.mono ?_
    rintro e w1 ⟨rfl,hb1⟩
    go_wp2_with fail
    go_ret
    exact ⟨by rw [←HF.out,HSK.out,findFrom_hit _ HK.out,decide_eq_true (by omega)];rfl,onB HW.out hb1⟩
  ·have hke:k=n:=by omega
   subst hke
   clear hf hBw
   go_wp2_with fail
   go_ret
   exact ⟨by rw [←HF.out,Nat.sub_self];rfl,HW.out⟩
def ownOP (w:World) (A0:Option Addr) (n cap:Nat) (Ap:Option Addr) (m cp T T':Nat):World:=(ownOut w A0 n cap T).alloc (.cells #[.slice Ap m cp] T')
theorem ownOP_size (w:World) (A0:Option Addr) (n cap:Nat) (Ap:Option Addr) (m cp T T':Nat):(ownOP w A0 n cap Ap m cp T T').heap.size=w.heap.size+2:=by unfold ownOP;simp [ownOut_size]
theorem ownOP_below (w:World) (A0:Option Addr) (n cap:Nat) (Ap:Option Addr) (m cp T T':Nat):Below w.heap.size w (ownOP w A0 n cap Ap m cp T T'):=by unfold ownOP ownOut;go_grown
theorem ownOP_o (w:World) (A0:Option Addr) (n cap:Nat) (Ap:Option Addr) (m cp T T':Nat):(ownOP w A0 n cap Ap m cp T T').cell? ⟨w.heap.size,0,none⟩=some (.slice A0 n cap):=by
 unfold ownOP
 rw [World.cell?_alloc_lt _ _ ⟨w.heap.size,0,none⟩ (by rw [ownOut_size];exact Nat.lt_succ_self _)]
 exact ownOut_at ..
theorem ownOP_p (w:World) (A0:Option Addr) (n cap:Nat) (Ap:Option Addr) (m cp T T':Nat):(ownOP w A0 n cap Ap m cp T T').cell? ⟨w.heap.size+1,0,none⟩=some (.slice Ap m cp):=by
 unfold ownOP
 rw [←ownOut_size w A0 n cap T]
 simp
theorem pcheck1_in:EntersO 52:=fun args w=>by simp [callFunc,Tryz.func52];rfl
set_option maxHeartbeats 2000000 in
theorem pcheck1_any (b o n cap k q r bp op cp:Nat) (D:Nat→Dm) (A:Nat→Option Addr) (C:Nat→Nat) (x:Int) (w:World) (hk:k<n) (hn:n≤4) (hd:(D k).n≤12) (hM:DimsAt w b o n D A C) (hx:w.cell? ⟨bp,op+k,none⟩=some (.int .i64 x)) (hq:w.cell? ⟨q,0,none⟩=some (.slice (some ⟨bp,op,none⟩) n cp)) (hr:w.cell? ⟨r,0,none⟩=some (.slice (some ⟨b,o,none⟩) n cap)) :
  Calls Tryz.prog 52 #[.int .i64 k,.pointer (some ⟨q,0,none⟩),.pointer (some ⟨r,0,none⟩)] w fun e w'=>e=.returned (.bool (decide (x<0) || decide (((D k).n:Int)≤x)))∧Below w.heap.size w w':=by
 obtain ⟨-,-,h3,-⟩:=hM.2 k hk
 have hki:(k:Int)<(n:Int):=by omega
 have hn':(n:Int)≤4:=by omega
 generalize (D k).n=m at h3 hd
 have hm:(m:Int)≤12:=by omega
 clear hM
 by_cases hx0:x<0
 ·rw [decide_eq_true hx0]
  go_enter Tryz.func52,Tryz.ntmps52
  go_wp2_with fail
  go_quiet (fail)
  go_wp2_with fail
  go_ret
  exact ⟨by simp,below_drewN (Below.refl _ _) _⟩
 ·rw [decide_eq_false hx0]
  have hx1:0≤x:=by omega
  have hxd:decide (x<0)=false:=decide_eq_false hx0
  go_enter Tryz.func52,Tryz.ntmps52
  go_wp2_with fail
  go_quiet (fail)
  go_wp2_with fail
  go_ret
  exact ⟨by simp,below_drewN (Below.refl _ _) _⟩
set_option maxHeartbeats 4000000 in
theorem pcheck_any (A0:Option Addr) (cap n:Nat) (D:Nat→Dm) (A:Nat→Option Addr) (C:Nat→Nat) (Ap:Option Addr) (cp:Nat) (L:List Int) (w:World) (hM:DimsV w A0 cap n D A C) (hP:PlAt w Ap cp L):Calls Tryz.prog 24 #[.agg #[.slice A0 n cap],.slice Ap L.length cp] w fun e w'=>e=.returned (errV (placeErr D n L))∧Below w.heap.size w w':=by
 have hB0:=ownOP_below w A0 n cap Ap L.length cp 24 42
 have h:=checko_any A0 cap n D A C (ownOP w A0 n cap Ap L.length cp 24 42) (hM.later hB0)
 have HB0:Hid (Below w.heap.size w (ownOP w A0 n cap Ap L.length cp 24 42)):=hB0
 have HM:Hid (DimsV w A0 cap n D A C):=hM
 have HP:Hid (PlAt w Ap cp L):=hP
 clear hM hB0 hP
 by_cases he:(allErr D n).2.2=0
 ·obtain ⟨hn1,hn4,-,hd⟩:=allErr_some he
  have HE:Hid (placeErr D n L=shapeErr D n L):=pe1 he
  rw [he,errV_zero] at h
  have HD:Hid (∀ i,i<n→1≤(D i).n∧(D i).n≤12):=hd
  have hn':(n:Int)≤4:=by omega
  clear he hd
  by_cases hl:L.length=n
  ·have hle:((L.length:Int) == (n:Int))=true:=by simp [hl]
   have HL:Hid (L.length=n):=hl
   obtain ⟨hcp,h0 | ⟨bp,op,rfl,hbp,hcell⟩⟩:=HP.out
   ·rw [h0] at hl;simp at hl;omega
   rw [hl] at h HB0 hcp hle
   rw [hl]
   have HC:Hid (∀ j,j<n→w.cell? ⟨bp,op+j,none⟩=some (.int .i64 (L.getD j 0))):=fun j hj=>hcell j (by omega)
   clear hl hcell
   go_enter Tryz.func24,Tryz.ntmps24
   go_wp2_with fail
   refine h.mono ?_
   rintro e w1 ⟨rfl,hb1⟩
   have hB:Below w.heap.size w w1:=onB HB0.out hb1
   have hz:w.heap.size+1<w1.heap.size:=by have:=hb1.size;rw [ownOP_size] at this;omega
   have ho:w1.cell? ⟨w.heap.size,0,none⟩=some (.slice A0 n cap):=(hb1.cell (p:=⟨w.heap.size,0,none⟩) (by show w.heap.size<_;rw [ownOP_size];omega)).trans (ownOP_o ..)
   have hp:w1.cell? ⟨w.heap.size+1,0,none⟩=some (.slice (some ⟨bp,op,none⟩) n cp):=(hb1.cell (p:=⟨w.heap.size+1,0,none⟩) (by show w.heap.size+1<_;rw [ownOP_size];omega)).trans (ownOP_p ..)
   obtain ⟨hcap,h0 | ⟨b,o,rfl,hMs⟩⟩:=HM.out.later hB
   ·omega
   have hany:=anydim_any 52 (w.heap.size+1) w.heap.size pcheck1_in (some ⟨b,o,none⟩) n cap (outP D L) w1 hn4 (fun j w' hj hw'=>pcheck1_any b o n cap j (w.heap.size+1) w.heap.size bp op cp D A C (L.getD j 0) w' hj hn4 (HD.out j hj).2 (hMs.later hw') (((onB hB hw').cell (p:=⟨bp,op+j,none⟩) hbp).trans (HC.out j hj)) ((hw'.cell (p:=⟨w.heap.size+1,0,none⟩) hz).trans hp) ((hw'.cell (p:=⟨w.heap.size,0,none⟩) (by show w.heap.size<_;omega)).trans ho))
   have HB:Hid (Below w.heap.size w w1):=hB
   clear hb1 h hMs hB
   by_cases hf:0≤findFrom (outP D L) n 0
   ·rw [decide_eq_true hf] at hany
    have HR:Hid (placeErr D n L=1):=by show _=_;rw [HE.out,sh1 HL.out hf]
    clear hf
    go_wp2_with fail
    refine hany.mono ?_
    rintro e w2 ⟨rfl,hb2⟩
    go_wp2_with fail
    go_ret
    exact ⟨by rw [HR.out];rfl,onB HB.out hb2⟩
   ·rw [decide_eq_false hf] at hany
    have HR:Hid (placeErr D n L=0):=by show _=_;rw [HE.out,sh2 HL.out hf]
    clear hf
    go_wp2_with fail
    refine hany.mono ?_
    rintro e w2 ⟨rfl,hb2⟩
    go_wp2_with fail
    go_ret
    exact ⟨by rw [HR.out];rfl,onB HB.out hb2⟩
  ·have hle:((L.length:Int) == (n:Int))=false:=by simp;omega
   have HR:Hid (placeErr D n L=3):=by show _=_;rw [HE.out,sh0 hl]
   generalize L.length=m at h hle HB0
   clear hl
   go_enter Tryz.func24,Tryz.ntmps24
   go_wp2_with fail
   refine h.mono ?_
   rintro e w1 ⟨rfl,hb1⟩
   have ho:w1.cell? ⟨w.heap.size,0,none⟩=some (.slice A0 n cap):=(hb1.cell (p:=⟨w.heap.size,0,none⟩) (by show w.heap.size<_;rw [ownOP_size];omega)).trans (ownOP_o ..)
   have hp:w1.cell? ⟨w.heap.size+1,0,none⟩=some (.slice Ap m cp):=(hb1.cell (p:=⟨w.heap.size+1,0,none⟩) (by show w.heap.size+1<_;rw [ownOP_size];omega)).trans (ownOP_p ..)
   have HB:Hid (Below w.heap.size w w1):=onB HB0.out hb1
   clear hb1 h
   go_wp2_with fail
   go_ret
   exact ⟨by rw [HR.out];rfl,HB.out⟩
 ·have HR:Hid (placeErr D n L=(allErr D n).2.2):=pe0 he
  have HE:Hid (errV (allErr D n).2.2=.iface 58 (.int .i64 (allErr D n).2.2)):=errV_some he
  rw [errV_some he] at h
  clear he
  generalize (allErr D n).2.2=c at h HE HR
  generalize L.length=m at h HB0
  go_enter Tryz.func24,Tryz.ntmps24
  go_wp2_with fail
  refine h.mono ?_
  rintro e w1 ⟨rfl,hb1⟩
  go_wp2_with fail
  go_ret
  exact ⟨by rw [HR.out,HE.out];rfl,onB HB0.out hb1⟩
set_option maxHeartbeats 4000000 in
theorem pnumber_any (A0:Option Addr) (cap n:Nat) (D:Nat→Dm) (A:Nat→Option Addr) (C:Nat→Nat) (Ap:Option Addr) (cp:Nat) (L:List Int) (w:World) (hM:DimsV w A0 cap n D A C) (hP:PlAt w Ap cp L):Calls Tryz.prog 9 #[.agg #[.slice A0 n cap],.slice Ap L.length cp] w fun e w'=>e=.returned (.tuple #[.int .i64 (numV D n L),errV (placeErr D n L)])∧Below w.heap.size w w':=by
 have hB0:=ownOut_below w A0 n cap 24
 have h:=pcheck_any A0 cap n D A C Ap cp L (ownOut w A0 n cap 24) (hM.later hB0) (hP.later hB0)
 have HB0:Hid (Below w.heap.size w (ownOut w A0 n cap 24)):=hB0
 have HM:Hid (DimsV w A0 cap n D A C):=hM
 have HP:Hid (PlAt w Ap cp L):=hP
 clear hM hB0 hP
 by_cases he:placeErr D n L=0
 ·have HI:Hid (InO D n L):=inO_of he
  have HV:Hid (numV D n L=numI D L n):=by show _=_;unfold numV;rw [if_pos he]
  have HE:Hid (errV (placeErr D n L)=.nilIface):=by show _=_;rw [he];rfl
  rw [he,errV_zero] at h
  obtain ⟨hn1,hn4,-,hd⟩:=allErr_some HI.out.right
  have HD:Hid (∀ i,i<n→1≤(D i).n∧(D i).n≤12):=hd
  have hn':(n:Int)≤4:=by omega
  have hl:=HI.out.len
  obtain ⟨hcp,h0 | ⟨bp,op,rfl,hbp,hcell⟩⟩:=HP.out
  ·rw [h0] at hl;simp at hl;omega
  rw [hl] at h hcp
  rw [hl]
  have HC:Hid (∀ j,j<n→w.cell? ⟨bp,op+j,none⟩=some (.int .i64 (L.getD j 0))):=fun j hj=>hcell j (by omega)
  clear he hd hl hcell
  go_enter Tryz.func9,Tryz.ntmps9
  go_wp2_with fail
  refine h.mono ?_
  rintro e w1 ⟨rfl,hb1⟩
  have hB:Below w.heap.size w w1:=onB HB0.out hb1
  have h2:w1.cell? ⟨w.heap.size,0,none⟩=some (.slice A0 n cap):=(hb1.cell (p:=⟨w.heap.size,0,none⟩) (by show w.heap.size<_;rw [ownOut_size];omega)).trans (ownOut_at ..)
  obtain ⟨hcap,h0 | ⟨b,o,rfl,hMs⟩⟩:=HM.out.later hB
  ·omega
  have HMs:Hid (DimsAt w1 b o n D A C):=hMs
  have HB:Hid (Below w.heap.size w w1):=hB
  clear hb1 h hMs hB
  go_wp2_with fail
  go_loopg [7,19] n (fun g s7 s19 wr => ∃ (k:Nat),k≤n∧g=n-k∧s19=.int .i64 k∧s7=.int .i64 (numI D L k)∧Below w1.heap.size w1 wr)
  case atStart=>exact ⟨0,Nat.zero_le _,rfl,rfl,rfl,Below.refl _ _⟩
  case round =>
   obtain ⟨k,hk,rfl,rfl,rfl,hBw⟩:=hrel
   have HW:Hid (Below w1.heap.size w1 wr):=hBw
   by_cases hlt:k<n
   ·obtain ⟨h0,h1,h3,-⟩:=(HMs.out.later hBw).2 k hlt
    have hki:(k:Int)<(n:Int):=by omega
    have hcx:wr.cell? ⟨bp,op+k,none⟩=some (.int .i64 (L.getD k 0)):=((onB HB.out hBw).cell (p:=⟨bp,op+k,none⟩) hbp).trans (HC.out k hlt)
    have hcx':∀ o1,(wr.alloc o1).cell? ⟨bp,op+k,none⟩=some (.int .i64 (L.getD k 0)):=fun o1=>(World.cell?_alloc_lt _ _ ⟨bp,op+k,none⟩ (World.block_lt_of_cell? _ _ hcx)).trans hcx
    obtain ⟨hb1,hb2,hb3⟩:=numI_bound HI.out (k:=k+1) (by omega)
    obtain ⟨hb4,hb5,hb6⟩:=numI_bound HI.out (k:=k) (by omega)
    have hx0:=HI.out.lo k hlt
    have hx1:=HI.out.hi k hlt
    obtain ⟨hd1,hd2⟩:=HD.out k hlt
    have HN:Hid (numI D L (k+1)=numI D L k*((D k).n:Int)+L.getD k 0):=rfl
    rw [HN.out] at hb1 hb2
    generalize L.getD k 0=x at hcx hcx' hb1 hb2 hx0 hx1 HN
    generalize (D k).n=m at h3 hb1 hb2 hd1 hd2 hx1 HN
    generalize numI D L k=y at hb1 hb2 hb4 hb5 HN
    have hm0:0≤y*(m:Int):=Int.mul_nonneg hb4 (by omega)
    have hm1:y*(m:Int)≤20736:=by omega
    have hm2:y*(m:Int)+x≤20736:=by omega
    clear hBw hb2 hb5
    go_wp2_with fail
    go_quiet (fail)
    go_wp2_with fail
    go_roundg (n-(k+1))
    case measure=>omega
    case rel=>exact ⟨k+1,by omega,rfl,by go_num,by rw [HN.out],below_drewN (HW.out.alloc (by have:=HW.out.size;omega) _) _⟩
   ·have hke:k=n:=by omega
    subst hke
    go_wp2_with fail
    go_ret2
    rw [HV.out,HE.out]
    exact ⟨rfl,onB HB.out HW.out⟩
 ·have HV:Hid (numV D n L=0):=by show _=_;unfold numV;rw [if_neg he]
  have HE:Hid (errV (placeErr D n L)=.iface 58 (.int .i64 (placeErr D n L))):=errV_some he
  rw [errV_some he] at h
  clear he
  generalize placeErr D n L=c at h HE
  generalize L.length=m at h
  go_enter Tryz.func9,Tryz.ntmps9
  go_wp2_with fail
  refine h.mono ?_
  rintro e w1 ⟨rfl,hb1⟩
  go_wp2_with fail
  go_ret2
  rw [HV.out,HE.out]
  exact ⟨rfl,onB HB0.out hb1⟩
def notLeaf (D:Nat→Dm) (L:List Int) (i:Nat):Bool := !leafB (D i).mem (D i).n (L.getD i 0).toNat
def leafV (D:Nat→Dm) (n:Nat) (L:List Int):Bool:=if placeErr D n L=0 then !decide (0≤findFrom (notLeaf D L) n 0) else false
theorem pleaf1_in:EntersO 93:=fun args w=>by simp [callFunc,Tryz.func93];rfl
set_option maxHeartbeats 2000000 in
theorem pleaf1_any (b o n cap k q r bp op cp X:Nat) (D:Nat→Dm) (A:Nat→Option Addr) (C:Nat→Nat) (w:World) (hk:k<n) (hn:n≤4) (hd:(dimErr (D k)).2=0) (hX:X<(D k).n) (hM:DimsAt w b o n D A C) (hx:w.cell? ⟨bp,op+k,none⟩=some (.int .i64 X)) (hq:w.cell? ⟨q,0,none⟩=some (.slice (some ⟨b,o,none⟩) n cap)) (hr:w.cell? ⟨r,0,none⟩=some (.slice (some ⟨bp,op,none⟩) n cp)) :
  Calls Tryz.prog 93 #[.int .i64 k,.pointer (some ⟨q,0,none⟩),.pointer (some ⟨r,0,none⟩)] w fun e w'=>e=.returned (.bool (!leafB (D k).mem (D k).n X))∧Below w.heap.size w w':=by
 obtain ⟨h0,h1,h3,h4⟩:=hM.2 k hk
 have hki:(k:Int)<(n:Int):=by omega
 have hn':(n:Int)≤4:=by omega
 have hte:treeErr (D k) [(X:Int)]=0:=by rw [treeErr_one hd,if_neg (by omega)]
 have hlf:lfOf (D k) (X:Int)=leafB (D k).mem (D k).n X:=by simp [lfOf,hte]
 have HLf:Hid (∀ w',Below w.heap.size w w'→Calls Tryz.prog 94 #[.agg #[.string (D k).name,.int .i64 (D k).solve,.slice (A k) (D k).n (C k)],.int .i64 X] w' fun e w''=>e=.returned (.tuple #[.bool (leafB (D k).mem (D k).n X),.nilIface])∧Below w'.heap.size w' w''):=fun w' hw'=>by
  have h:=tleaf_any (D k) (A k) (C k) X w' (h4.later hw')
  rw [hte,hlf,errV_zero] at h
  exact h
 generalize leafB (D k).mem (D k).n X=y at HLf
 clear hM h4 hte hlf hd
 go_enter Tryz.func93,Tryz.ntmps93
 go_wp2_with fail
 go_region_law ((go_simp;refine (HLf.out _ (by go_grown)).mono ?_;rintro e w2 ⟨rfl,hb2⟩;have hN2:=onB (W0:=w) (by go_grown) hb2;clear hb2))
 all_goals go_wp2_with fail
 all_goals go_ret
 all_goals exact ⟨rfl,hN2⟩
set_option maxHeartbeats 4000000 in
theorem pleaf_any (A0:Option Addr) (cap n:Nat) (D:Nat→Dm) (A:Nat→Option Addr) (C:Nat→Nat) (Ap:Option Addr) (cp:Nat) (L:List Int) (w:World) (hM:DimsV w A0 cap n D A C) (hP:PlAt w Ap cp L):Calls Tryz.prog 60 #[.agg #[.slice A0 n cap],.slice Ap L.length cp] w fun e w'=>e=.returned (.tuple #[.bool (leafV D n L),errV (placeErr D n L)])∧Below w.heap.size w w':=by
 have hB0:=ownOP_below w A0 n cap Ap L.length cp 24 42
 have h:=pcheck_any A0 cap n D A C Ap cp L (ownOP w A0 n cap Ap L.length cp 24 42) (hM.later hB0) (hP.later hB0)
 have HB0:Hid (Below w.heap.size w (ownOP w A0 n cap Ap L.length cp 24 42)):=hB0
 have HM:Hid (DimsV w A0 cap n D A C):=hM
 have HP:Hid (PlAt w Ap cp L):=hP
 clear hM hB0 hP
 by_cases he:placeErr D n L=0
 ·have HI:Hid (InO D n L):=inO_of he
  have HV:Hid (leafV D n L = !decide (0≤findFrom (notLeaf D L) n 0)):=by show _=_;unfold leafV;rw [if_pos he]
  have HE:Hid (errV (placeErr D n L)=.nilIface):=by show _=_;rw [he];rfl
  rw [he,errV_zero] at h
  obtain ⟨hn1,hn4,-,-⟩:=allErr_some HI.out.right
  have hn':(n:Int)≤4:=by omega
  have hl:=HI.out.len
  obtain ⟨hcp,h0 | ⟨bp,op,rfl,hbp,hcell⟩⟩:=HP.out
  ·rw [h0] at hl;simp at hl;omega
  rw [hl] at h HB0
  rw [hl]
  have HC:Hid (∀ j,j<n→w.cell? ⟨bp,op+j,none⟩=some (.int .i64 (L.getD j 0))):=fun j hj=>hcell j (by omega)
  clear he hl hcell hcp
  go_enter Tryz.func60,Tryz.ntmps60
  go_wp2_with fail
  refine h.mono ?_
  rintro e w1 ⟨rfl,hb1⟩
  have hB:Below w.heap.size w w1:=onB HB0.out hb1
  have hz:w.heap.size+1<w1.heap.size:=by have:=hb1.size;rw [ownOP_size] at this;omega
  have ho:w1.cell? ⟨w.heap.size,0,none⟩=some (.slice A0 n cap):=(hb1.cell (p:=⟨w.heap.size,0,none⟩) (by show w.heap.size<_;rw [ownOP_size];omega)).trans (ownOP_o ..)
  have hp:w1.cell? ⟨w.heap.size+1,0,none⟩=some (.slice (some ⟨bp,op,none⟩) n cp):=(hb1.cell (p:=⟨w.heap.size+1,0,none⟩) (by show w.heap.size+1<_;rw [ownOP_size];omega)).trans (ownOP_p ..)
  obtain ⟨hcap,h0 | ⟨b,o,rfl,hMs⟩⟩:=HM.out.later hB
  ·omega
  have hany:=anydim_any 93 w.heap.size (w.heap.size+1) pleaf1_in (some ⟨b,o,none⟩) n cap (notLeaf D L) w1 hn4 (fun j w' hj hw'=>by
   have hlo:=HI.out.lo j hj
   have hhi:=HI.out.hi j hj
   have e1:L.getD j 0=((L.getD j 0).toNat:Int):=by omega
   have hcj:=((onB hB hw').cell (p:=⟨bp,op+j,none⟩) hbp).trans (HC.out j hj)
   rw [e1] at hcj
   exact pleaf1_any b o n cap j w.heap.size (w.heap.size+1) bp op cp (L.getD j 0).toNat D A C w' hj hn4 ((allErr_right HI.out.right).2 j hj) (by omega) (hMs.later hw') hcj ((hw'.cell (p:=⟨w.heap.size,0,none⟩) (by show w.heap.size<_;omega)).trans ho) ((hw'.cell (p:=⟨w.heap.size+1,0,none⟩) hz).trans hp))
  have HB:Hid (Below w.heap.size w w1):=hB
  generalize decide (0≤findFrom (notLeaf D L) n 0)=y at hany HV
  clear hb1 h hMs hB
  go_wp2_with fail
  refine hany.mono ?_
  rintro e w2 ⟨rfl,hb2⟩
  go_wp2_with fail
  go_ret2
  rw [HV.out,HE.out]
  exact ⟨rfl,onB HB.out hb2⟩
 ·have HV:Hid (leafV D n L=false):=by show _=_;unfold leafV;rw [if_neg he]
  have HE:Hid (errV (placeErr D n L)=.iface 58 (.int .i64 (placeErr D n L))):=errV_some he
  rw [errV_some he] at h
  clear he
  generalize placeErr D n L=c at h HE
  generalize L.length=m at h HB0
  go_enter Tryz.func60,Tryz.ntmps60
  go_wp2_with fail
  refine h.mono ?_
  rintro e w1 ⟨rfl,hb1⟩
  go_wp2_with fail
  go_ret2
  rw [HV.out,HE.out]
  exact ⟨rfl,onB HB0.out hb1⟩
def MemT (w:World) (A:Option Addr) (c n:Nat) (M:Nat→Mem):Prop:=n≤c∧(n=0∨∃ b cs fr,A=some ⟨b,0,none⟩∧w.heap[b]?=some (.cells cs 29 fr)∧MemsAt w b 0 n M)
theorem MemT.toV {w:World} {A:Option Addr} {c n:Nat} {M:Nat→Mem} (h:MemT w A c n M):MemsV w A c n M:=by
 obtain ⟨h1,h2 | ⟨b,cs,fr,h2,-,h3⟩⟩:=h
 ·exact ⟨h1,Or.inl h2⟩
 ·exact ⟨h1,Or.inr ⟨b,0,h2,h3⟩⟩
def cellsMb (M:Nat→Mem):Nat→List Value
 | 0=>[]
 | k+1=>cellsMb M k ++ [.string (M k).name,.int .i64 (M k).parent,.int .i64 (M k).sign,.string (M k).formula]
theorem cellsMb_len (M:Nat→Mem):∀ k,(cellsMb M k).length=k*4
 | 0=>rfl
 | k+1=>by rw [cellsMb,List.length_append,cellsMb_len M k];simp;omega
theorem cellsMb_at (M:Nat→Mem) (n:Nat):∀ k,k<n→(cellsMb M n)[k*4]?=some (.string (M k).name)∧(cellsMb M n)[k*4+1]?=some (.int .i64 (M k).parent)∧(cellsMb M n)[k*4+2]?=some (.int .i64 (M k).sign)∧(cellsMb M n)[k*4+3]?=some (.string (M k).formula):=by
 induction n with
 | zero=>intro k h;omega
 | succ n ih =>
  intro k hk
  rw [cellsMb]
  have hl:=cellsMb_len M n
  by_cases h:k=n
  ·subst h
   refine ⟨?_,?_,?_,?_⟩ <;> rw [List.getElem?_append_right (by omega),hl]
   ·rw [Nat.sub_self];rfl
   ·rw [show k*4+1-k*4=1 by omega];rfl
   ·rw [show k*4+2-k*4=2 by omega];rfl
   ·rw [show k*4+3-k*4=3 by omega];rfl
  ·have:=ih k (by omega)
   refine ⟨?_,?_,?_,?_⟩ <;> rw [List.getElem?_append_left (by omega)]
   ·exact this.1
   ·exact this.2.1
   ·exact this.2.2.1
   ·exact this.2.2.2
theorem memT_own {w:World} {base n:Nat} {v:Value} {M:Nat→Mem} (h:w.ownsRow base 29 4 v n (cellsMb M n)):∃ A c,v=.slice A n c∧MemT w A c n M:=by
 rcases h.2 with ⟨rfl,h0⟩ | ⟨g,cap,cur,rfl,hb,hg,h4,h5,h6,h7⟩
 ·subst h0
  exact ⟨none,0,rfl,Nat.le_refl _,Or.inl rfl⟩
 ·refine ⟨_,cap,rfl,h4,Or.inr ⟨g,cur,_,rfl,hg,(Array.getElem?_eq_some_iff.1 hg).1,fun k hk=>?_⟩⟩
  obtain ⟨x0,x1,x2,x3⟩:=cellsMb_at M n k hk
  rw [←h7,List.getElem?_take,if_pos (by omega),Array.getElem?_toList] at x0 x1 x2 x3
  rw [Nat.zero_add]
  exact ⟨by simp [World.cell?,hg,x0],by simp [World.cell?,hg,x1],by simp [World.cell?,hg,x2],by simp [World.cell?,hg,x3]⟩
def cellsDo (D:Nat→Dm) (A:Nat→Option Addr) (C:Nat→Nat):Nat→List Value
 | 0=>[]
 | k+1=>cellsDo D A C k ++ [.string (D k).name,.int .i64 (D k).solve,.slice (A k) (D k).n (C k)]
theorem cellsDo_len (D:Nat→Dm) (A:Nat→Option Addr) (C:Nat→Nat):∀ k,(cellsDo D A C k).length=k*3
 | 0=>rfl
 | k+1=>by rw [cellsDo,List.length_append,cellsDo_len D A C k];simp;omega
theorem cellsDo_same {D:Nat→Dm} {A A':Nat→Option Addr} {C C':Nat→Nat}:∀ k,(∀ i,i<k→A i=A' i∧C i=C' i)→cellsDo D A C k=cellsDo D A' C' k
 | 0,_=>rfl
 | k+1,h=>by rw [cellsDo,cellsDo,cellsDo_same k fun i hi=>h i (by omega),(h k (by omega)).1,(h k (by omega)).2]
theorem cellsDo_at (D:Nat→Dm) (A:Nat→Option Addr) (C:Nat→Nat) (n:Nat):∀ k,k<n→(cellsDo D A C n)[k*3]?=some (.string (D k).name)∧(cellsDo D A C n)[k*3+1]?=some (.int .i64 (D k).solve)∧(cellsDo D A C n)[k*3+2]?=some (.slice (A k) (D k).n (C k)):=by
 induction n with
 | zero=>intro k h;omega
 | succ n ih =>
  intro k hk
  rw [cellsDo]
  have hl:=cellsDo_len D A C n
  by_cases h:k=n
  ·subst h
   refine ⟨?_,?_,?_⟩ <;> rw [List.getElem?_append_right (by omega),hl]
   ·rw [Nat.sub_self];rfl
   ·rw [show k*3+1-k*3=1 by omega];rfl
   ·rw [show k*3+2-k*3=2 by omega];rfl
  ·have:=ih k (by omega)
   refine ⟨?_,?_,?_⟩ <;> rw [List.getElem?_append_left (by omega)]
   ·exact this.1
   ·exact this.2.1
   ·exact this.2.2
theorem dims_own {w:World} {base n:Nat} {v:Value} {D:Nat→Dm} {A:Nat→Option Addr} {C:Nat→Nat} (h:w.ownsRow base 32 3 v n (cellsDo D A C n)) (hM:∀ j,j<n→MemT w (A j) (C j) (D j).n (D j).mem):∃ A0 cap,v=.slice A0 n cap∧DimsV w A0 cap n D A C:=by
 rcases h.2 with ⟨rfl,h0⟩ | ⟨g,cap,cur,rfl,hb,hg,h4,h5,h6,h7⟩
 ·subst h0
  exact ⟨none,0,rfl,Nat.le_refl _,Or.inl rfl⟩
 ·refine ⟨_,cap,rfl,h4,Or.inr ⟨g,0,rfl,(Array.getElem?_eq_some_iff.1 hg).1,fun k hk=>?_⟩⟩
  obtain ⟨x0,x1,x2⟩:=cellsDo_at D A C n k hk
  rw [←h7,List.getElem?_take,if_pos (by omega),Array.getElem?_toList] at x0 x1 x2
  rw [Nat.zero_add]
  exact ⟨by simp [World.cell?,hg,x0],by simp [World.cell?,hg,x1],by simp [World.cell?,hg,x2],(hM k hk).toV⟩
end Go.Proofs.YtglekooldbeklaaGreatDoor
