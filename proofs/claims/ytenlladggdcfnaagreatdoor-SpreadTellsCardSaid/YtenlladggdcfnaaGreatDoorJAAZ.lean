/-
  What Weight and Leafs of package tree answer: how a leaf counts in a member; the leafs of a member; or what is wrong.
-/
import Derived.Test.YtenlladggdcfnaaGreatDoorJAAR
namespace Go.Proofs.YtenlladggdcfnaaGreatDoor
open Go.ChangeShapes Go.WideShapes Go.ChangeAt Go.RowKit
set_option maxRecDepth 20000
theorem treeErr_in2 {d:Dm} {i j:Int} (h:treeErr d [i,j]=0):(dimErr d).2=0∧(∃ k:Nat,i=k∧k<d.n)∧∃ m:Nat,j=m∧m<d.n:=by
 have h0:=treeErr_right h
 rw [treeErr_two h0] at h
 by_cases h1:i<0∨(d.n:Int)≤i∨j<0∨(d.n:Int)≤j
 ·rw [if_pos h1] at h;cases h
 ·exact ⟨h0,⟨i.toNat,by omega,by omega⟩,j.toNat,by omega,by omega⟩
def wErr (d:Dm) (i j:Int):Int:=if treeErr d [i,j]≠0 then treeErr d [i,j] else if leafB d.mem d.n j.toNat=true then 0 else 3
def wVal (d:Dm) (i j:Int):Int:=if wErr d i j=0 then weightOf d.mem i j else 0
theorem wErr_bad {d:Dm} {i j:Int} (h:treeErr d [i,j]≠0):wErr d i j=treeErr d [i,j]:=by unfold wErr;rw [if_pos h]
theorem wErr_no {d:Dm} {i j:Int} (h:treeErr d [i,j]=0) (h1:leafB d.mem d.n j.toNat=false):wErr d i j=3:=by unfold wErr;rw [if_neg (by simpa using h),if_neg (by simp [h1])]
theorem wErr_ok {d:Dm} {i j:Int} (h:treeErr d [i,j]=0) (h1:leafB d.mem d.n j.toNat=true):wErr d i j=0:=by unfold wErr;rw [if_neg (by simpa using h),if_pos h1]
theorem wVal_ok {d:Dm} {i j:Int} (h:wErr d i j=0):wVal d i j=weightOf d.mem i j:=by unfold wVal;rw [if_pos h]
theorem wVal_bad {d:Dm} {i j:Int} (h:wErr d i j≠0):wVal d i j=0:=by unfold wVal;rw [if_neg h]
def ownW (w:World) (d:Dm) (A:Option Addr) (cap:Nat) (i j:Int) (T T':Nat):World:=(ownDim w d A cap T).alloc (.cells #[.int .i64 i,.int .i64 j] T')
theorem ownW_size (w:World) (d:Dm) (A:Option Addr) (cap:Nat) (i j:Int) (T T':Nat):(ownW w d A cap i j T T').heap.size=w.heap.size+2:=by unfold ownW;simp [ownDim_size]
theorem ownW_below (w:World) (d:Dm) (A:Option Addr) (cap:Nat) (i j:Int) (T T':Nat):Below w.heap.size w (ownW w d A cap i j T T'):=by unfold ownW ownDim;go_grown
theorem ownW_dim (w:World) (d:Dm) (A:Option Addr) (cap:Nat) (i j:Int) (T T':Nat):(ownW w d A cap i j T T').cell? ⟨w.heap.size,2,none⟩=some (.slice A d.n cap):=by
 unfold ownW
 rw [World.cell?_alloc_lt _ _ ⟨w.heap.size,2,none⟩ (by rw [ownDim_size];exact Nat.lt_succ_self _)]
 exact (ownDim_at w d A cap T).2.2
theorem ownW_ints (w:World) (d:Dm) (A:Option Addr) (cap:Nat) (i j:Int) (T T':Nat):IntsAt (ownW w d A cap i j T T') (some ⟨w.heap.size+1,0,none⟩) 2 [i,j]:=by
 refine ⟨Nat.le_refl _,Or.inr ⟨_,rfl,by rw [ownW_size];omega,fun k hk=>?_⟩⟩
 have hk':k<2:=hk
 unfold ownW
 rw [←ownDim_size w d A cap T]
 match k,hk' with
 | 0,_=>simp
 | 1,_=>simp
set_option maxHeartbeats 2000000 in
theorem tweight_any (d:Dm) (A:Option Addr) (cap:Nat) (i j:Int) (w:World) (hM:MemsV w A cap d.n d.mem):Calls Tryz.prog 105 #[dimV d A cap,.int .i64 i,.int .i64 j] w fun e w'=>e=.returned (.tuple #[.int .i64 (wVal d i j),errV (wErr d i j)])∧Below w.heap.size w w':=by
 have hB0:=ownW_below w d A cap i j 81 3
 have hck:=tcheck_any d A cap _ 2 [i,j] (ownW w d A cap i j 81 3) (hM.later hB0) (by simp) (ownW_ints ..)
 have HB0:Hid (Below w.heap.size w (ownW w d A cap i j 81 3)):=hB0
 have HM:Hid (MemsV w A cap d.n d.mem):=hM
 unfold dimV at hck ⊢
 simp only [List.length_cons,List.length_nil,Nat.zero_add,Nat.reduceAdd] at hck
 clear hM hB0
 by_cases he:treeErr d [i,j]=0
 ·obtain ⟨hd,⟨k,rfl,hk⟩,m,rfl,hm⟩:=treeErr_in2 he
  rw [he,errV_zero] at hck
  obtain ⟨-,-,hd2,-⟩:=dimErr_right hd
  have HD:Hid ((dimErr d).2=0):=hd
  have HE:Hid (treeErr d [(k:Int),(m:Int)]=0):=he
  clear he hd
  go_enter Tryz.func105,Tryz.ntmps105
  go_wp2_with fail
  refine hck.mono ?_
  rintro e w1 ⟨rfl,hb1⟩
  have hB:Below w.heap.size w w1:=onB HB0.out hb1
  have hz:w.heap.size<w1.heap.size:=by have:=hb1.size;rw [ownW_size] at this;omega
  have h2:w1.cell? ⟨w.heap.size,2,none⟩=some (.slice A d.n cap):=(hb1.cell (p:=⟨w.heap.size,2,none⟩) (by show w.heap.size<_;rw [ownW_size];omega)).trans (ownW_dim ..)
  obtain ⟨hcap,h0 | ⟨b,o,rfl,hMs⟩⟩:=HM.out.later hB
  ·omega
  have hpl:=isleaf_any b o d.n cap m d.mem w1 hd2 hm hMs
  have HB:Hid (Below w.heap.size w w1):=hB
  have HMs:Hid (MemsAt w1 b o d.n d.mem):=hMs
  clear hb1 hck hMs hB
  cases hl:leafB d.mem d.n m
  ·have HR:Hid (wErr d k m=3):=wErr_no HE.out (by simpa using hl)
   have HV:Hid (wVal d k m=0):=wVal_bad (by rw [HR.out];decide)
   rw [hl] at hpl
   clear hl
   go_wp2_with fail
   refine hpl.mono ?_
   rintro e w2 ⟨rfl,hb2⟩
   go_wp2_with fail
   go_ret2
   rw [HR.out,HV.out]
   exact ⟨rfl,onB HB.out hb2⟩
  ·have HR:Hid (wErr d k m=0):=wErr_ok HE.out (by simpa using hl)
   have HV:Hid (wVal d k m=weightOf d.mem k m):=wVal_ok HR.out
   rw [hl] at hpl
   clear hl
   go_wp2_with fail
   refine hpl.mono ?_
   rintro e w2 ⟨rfl,hb2⟩
   have h3:w2.cell? ⟨w.heap.size,2,none⟩=some (.slice (some ⟨b,o,none⟩) d.n cap):=(hb2.cell (p:=⟨w.heap.size,2,none⟩) hz).trans h2
   have hwt:=weight_any b o d.n cap m k d.mem w2 hd2 hm (Tr.of HD.out) (Sg.of HD.out) (HMs.out.later hb2)
   have HB2:Hid (Below w.heap.size w w2):=onB HB.out hb2
   clear hb2 hpl h2
   go_wp2_with fail
   refine hwt.mono ?_
   rintro e w3 ⟨rfl,hb3⟩
   go_wp2_with fail
   go_ret2
   rw [HR.out,HV.out]
   exact ⟨rfl,onB HB2.out hb3⟩
 ·have HR:Hid (wErr d i j=treeErr d [i,j]):=wErr_bad he
  have HV:Hid (wVal d i j=0):=wVal_bad (by rw [HR.out];exact he)
  have HE:Hid (errV (treeErr d [i,j])=.iface 46 (.int .i64 (treeErr d [i,j]))):=errV_some he
  rw [errV_some he] at hck
  clear he
  go_enter Tryz.func105,Tryz.ntmps105
  generalize treeErr d [i,j]=c at hck HR HE
  go_wp2_with fail
  refine hck.mono ?_
  rintro e w1 ⟨rfl,hb1⟩
  go_wp2_with fail
  go_ret2
  rw [HV.out,HR.out,HE.out]
  exact ⟨rfl,onB HB0.out hb1⟩
theorem leafs1_in:EntersO 100:=fun args w=>by simp [callFunc,Tryz.func100];rfl
theorem held2 {W w':World} {p0 p1:Addr} {v0 v1:Value} (a0:p0.block<W.heap.size∧W.cell? p0=some v0) (a1:p1.block<W.heap.size∧W.cell? p1=some v1) (hB:Below W.heap.size W w') :
  Below W.heap.size W w'∧w'.cell? p0=some v0∧w'.cell? p1=some v1 :=
 ⟨hB,(hB.cell a0.1).trans a0.2,(hB.cell a1.1).trans a1.2⟩
set_option maxHeartbeats 4000000 in
theorem leafs1_any (b o n cap k q r:Nat) (M:Nat→Mem) (i:Int) (w:World) (hk:k<n) (hn:n≤12) (ht:Tr M n) (hM:MemsAt w b o n M) (hqw:q<w.heap.size) (hrw:r<w.heap.size) (hq:w.cell? ⟨q,2,none⟩=some (.slice (some ⟨b,o,none⟩) n cap)) (hr:w.cell? ⟨r,0,none⟩=some (.int .i64 i)) :
  Calls Tryz.prog 100 #[.int .i64 k,.pointer (some ⟨q,0,none⟩),.pointer (some ⟨r,0,none⟩)] w fun e w'=>e=.returned (.bool (leafIn M n i k))∧Below w.heap.size w w':=by
 have HH:Hid (∀ w',Below w.heap.size w w'→Below w.heap.size w w'∧w'.cell? ⟨q,2,none⟩=some (.slice (some ⟨b,o,none⟩) n cap)∧w'.cell? ⟨r,0,none⟩=some (.int .i64 i)):=fun w' hw'=>held2 ⟨hqw,hq⟩ ⟨hrw,hr⟩ hw'
 have HL:Hid (∀ w',Below w.heap.size w w'→Calls Tryz.prog 101 #[.slice (some ⟨b,o,none⟩) n cap,.int .i64 k] w' fun e w''=>e=.returned (.bool (leafB M n k))∧Below w'.heap.size w' w''):=fun w' hw'=>isleaf_any b o n cap k M w' hn hk (hM.later hw')
 have hln:(pathOf M k).length≤12:=by have:=pathOf_len ht n k (by omega) (by omega);omega
 have HP:Hid (∀ w',Below w.heap.size w w'→Calls Tryz.prog 102 #[.slice (some ⟨b,o,none⟩) n cap,.int .i64 k] w' fun e w''=>(∃ A c,e=.returned (.slice A (pathOf M k).length c)∧IntsAt w'' A c (pathOf M k))∧Below w'.heap.size w' w''):=fun w' hw'=>path_any b o n cap k M w' hn hk ht (hM.later hw')
 have HC:Hid (∀ A c w',IntsAt w' A c (pathOf M k)→Calls Tryz.prog 78 #[.slice A (pathOf M k).length c,.int .i64 i] w' fun e w''=>e=.returned (.bool (inB (pathOf M k) i))∧Below w'.heap.size w' w''):=fun A c w' h=>contains_ints A c (pathOf M k) i w' hln h
 unfold leafIn
 generalize pathOf M k=L at hln HP HC
 clear hM ht
 cases hl:leafB M n k
 ·rw [hl] at HL
  go_enter Tryz.func100,Tryz.ntmps100
  go_wp2_with fail
  first | (go_region_with (go_at_call 101;refine (HL.out _ (by go_grown)).mono ?_;rintro e w4 ⟨rfl,hb4⟩;have hN4:=onB (W0:=w) (by go_grown) hb4;obtain ⟨-,x1,x2⟩:=HH.out _ hN4;clear hb4)) | fail
  all_goals go_wp2_with fail
  all_goals go_ret
  all_goals exact ⟨rfl,by go_grown⟩
 ·rw [hl] at HL
  go_enter Tryz.func100,Tryz.ntmps100
  go_wp2_with fail
  go_region_held3 (fun w'=>Below w.heap.size w w'∧w'.cell? ⟨q,2,none⟩=some (.slice (some ⟨b,o,none⟩) n cap)∧w'.cell? ⟨r,0,none⟩=some (.int .i64 i))
   ((refine HH.out _ ?_;go_grown;done))
   ((first
    | (go_at_call 101;refine (HL.out _ (by go_grown)).mono ?_;rintro e w4 ⟨rfl,hb4⟩;have hN4:=onB (W0:=w) (by go_grown) hb4;clear hb4)
    | (go_at_call 102;refine (HP.out _ (by go_grown)).mono ?_;rintro e w5 ⟨⟨Ap,cp,rfl,hI⟩,hb5⟩;have hN5:=onB (W0:=w) (by go_grown) hb5;clear hb5)
    | (go_at_call 78;refine (HC.out _ _ _ (by assumption)).mono ?_;rintro e w6 ⟨rfl,hb6⟩;have hN6:=onB (W0:=w) (by go_grown) hb6;clear hb6)))
  all_goals go_wp2_with fail
  all_goals go_ret
  all_goals exact ⟨rfl,by assumption⟩
end Go.Proofs.YtenlladggdcfnaaGreatDoor
