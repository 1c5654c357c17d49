/-
  What Weight and Leafs of package tree answer: how a leaf counts in a member; the leafs of a member; or what is wrong.
-/
import Derived.LaidEql
import Derived.Stop.Asserts
import Derived.RowKitTokens
import Derived.Test.YtfgegmpoejilnaaGreatDoorJGBI
import Derived.Test.YtfgegmpoejilnaaGreatDoorJGBK
namespace Go.Proofs.YtfgegmpoejilnaaGreatDoor
open Go.ChangeShapes Go.WideShapes Go.ChangeAt Go.RowKit
set_option maxRecDepth 20000
theorem treeErr_in2 {d:Dm} {i j:Int} (h:treeErr d [i,j]=0):(dimErr d).2=0∧(∃ k:Nat,i=k∧k<d.n)∧∃ m:Nat,j=m∧m<d.n:=by
 have h0:=treeErr_right h
 rw [treeErr_two h0] at h
 by_cases h1:i<0∨(d.n:Int)≤i∨j<0∨(d.n:Int)≤j
 ·rw [if_pos h1] at h;cases h
 ·exact ⟨h0,⟨i.toNat,by omega,by omega⟩,j.toNat,by omega,by omega⟩
def wErr (d:Dm) (i j:Int):Int:=if treeErr d [i,j]≠0 then treeErr d [i,j] else if leafB d.mem d.n j.toNat=true then 0 else 3
def wVal (d:Dm) (i j:Int):Int:=if wErr d i j=0 then weightOf d.mem i j else 0
theorem wErr_bad {d:Dm} {i j:Int} (h:treeErr d [i,j]≠0):wErr d i j=treeErr d [i,j]:=by unfold wErr;rw [if_pos h]
theorem wErr_no {d:Dm} {i j:Int} (h:treeErr d [i,j]=0) (h1:leafB d.mem d.n j.toNat=false):wErr d i j=3:=by unfold wErr;rw [if_neg (by simpa using h),if_neg (by simp [h1])]
theorem wErr_ok {d:Dm} {i j:Int} (h:treeErr d [i,j]=0) (h1:leafB d.mem d.n j.toNat=true):wErr d i j=0:=by unfold wErr;rw [if_neg (by simpa using h),if_pos h1]
theorem wVal_ok {d:Dm} {i j:Int} (h:wErr d i j=0):wVal d i j=weightOf d.mem i j:=by unfold wVal;rw [if_pos h]
theorem wVal_bad {d:Dm} {i j:Int} (h:wErr d i j≠0):wVal d i j=0:=by unfold wVal;rw [if_neg h]
def ownW (w:World) (d:Dm) (A:Option Addr) (cap:Nat) (i j:Int) (T T':Nat):World:=(ownDim w d A cap T).alloc (.cells #[.int .i64 i,.int .i64 j] T')
theorem ownW_size (w:World) (d:Dm) (A:Option Addr) (cap:Nat) (i j:Int) (T T':Nat):(ownW w d A cap i j T T').heap.size=w.heap.size+2:=by unfold ownW;simp [ownDim_size]
theorem ownW_below (w:World) (d:Dm) (A:Option Addr) (cap:Nat) (i j:Int) (T T':Nat):Below w.heap.size w (ownW w d A cap i j T T'):=by unfold ownW ownDim;go_grown
theorem ownW_dim (w:World) (d:Dm) (A:Option Addr) (cap:Nat) (i j:Int) (T T':Nat):(ownW w d A cap i j T T').cell? ⟨w.heap.size,2,none⟩=some (.slice A d.n cap):=by
 unfold ownW
 rw [World.cell?_alloc_lt _ _ ⟨w.heap.size,2,none⟩ (by rw [ownDim_size];exact Nat.lt_succ_self _)]
 exact (ownDim_at w d A cap T).2.2
theorem ownW_ints (w:World) (d:Dm) (A:Option Addr) (cap:Nat) (i j:Int) (T T':Nat):IntsAt (ownW w d A cap i j T T') (some ⟨w.heap.size+1,0,none⟩) 2 [i,j]:=by
 refine ⟨Nat.le_refl _,Or.inr ⟨_,rfl,by rw [ownW_size];omega,fun k hk=>?_⟩⟩
 have hk':k<2:=hk
 unfold ownW
 rw [←ownDim_size w d A cap T]
 match k,hk' with
 | 0,_=>simp
 | 1,_=>simp
set_option maxHeartbeats 2000000 in
theorem tweight_any (d:Dm) (A:Option Addr) (cap:Nat) (i j:Int) (w:World) (hM:MemsV w A cap d.n d.mem):Calls Tryz.prog 65 #[dimV d A cap,.int .i64 i,.int .i64 j] w fun e w'=>e=.returned (.tuple #[.int .i64 (wVal d i j),errV (wErr d i j)])∧Below w.heap.size w w':=by
 have hB0:=ownW_below w d A cap i j 30 3
 have hck:=tcheck_any d A cap _ 2 [i,j] (ownW w d A cap i j 30 3) (hM.later hB0) (by simp) (ownW_ints ..)
 have HB0:Hid (Below w.heap.size w (ownW w d A cap i j 30 3)):=hB0
 have HM:Hid (MemsV w A cap d.n d.mem):=hM
 unfold dimV at hck ⊢
 simp only [List.length_cons,List.length_nil,Nat.zero_add,Nat.reduceAdd] at hck
 clear hM hB0
 by_cases he:treeErr d [i,j]=0
 ·obtain ⟨hd,⟨k,rfl,hk⟩,m,rfl,hm⟩:=treeErr_in2 he
  rw [he,errV_zero] at hck
  obtain ⟨-,-,hd2,-⟩:=dimErr_right hd
  have HD:Hid ((dimErr d).2=0):=hd
  have HE:Hid (treeErr d [(k:Int),(m:Int)]=0):=he
  clear he hd
  go_enter Tryz.func65,Tryz.ntmps65
  go_wp2_with fail
  refine hck.mono ?_
  rintro e w1 ⟨rfl,hb1⟩
  have hB:Below w.heap.size w w1:=onB HB0.out hb1
  have hz:w.heap.size<w1.heap.size:=by have:=hb1.size;rw [ownW_size] at this;omega
  have h2:w1.cell? ⟨w.heap.size,2,none⟩=some (.slice A d.n cap):=(hb1.cell (p:=⟨w.heap.size,2,none⟩) (by show w.heap.size<_;rw [ownW_size];omega)).trans (ownW_dim ..)
  obtain ⟨hcap,h0 | ⟨b,o,rfl,hMs⟩⟩:=HM.out.later hB
  ·omega
  have hpl:=isleaf_any b o d.n cap m d.mem w1 hd2 hm hMs
  have HB:Hid (Below w.heap.size w w1):=hB
  have HMs:Hid (MemsAt w1 b o d.n d.mem):=hMs
  clear hb1 hck hMs hB
  cases hl:leafB d.mem d.n m
  ·have HR:Hid (wErr d k m=3):=wErr_no HE.out (by simpa using hl)
   have HV:Hid (wVal d k m=0):=wVal_bad (by rw [HR.out];decide)
   rw [hl] at hpl
   clear hl
   go_wp2_with fail
   refine hpl.mono ?_
   rintro e w2 ⟨rfl,hb2⟩
   go_wp2_with fail
   go_ret2
   rw [HR.out,HV.out]
   exact ⟨rfl,onB HB.out hb2⟩
  ·have HR:Hid (wErr d k m=0):=wErr_ok HE.out (by simpa using hl)
   have HV:Hid (wVal d k m=weightOf d.mem k m):=wVal_ok HR.out
   rw [hl] at hpl
   clear hl
   go_wp2_with fail
   refine hpl.mono ?_
   rintro e w2 ⟨rfl,hb2⟩
   have h3:w2.cell? ⟨w.heap.size,2,none⟩=some (.slice (some ⟨b,o,none⟩) d.n cap):=(hb2.cell (p:=⟨w.heap.size,2,none⟩) hz).trans h2
   have hwt:=weight_any b o d.n cap m k d.mem w2 hd2 hm (Tr.of HD.out) (Sg.of HD.out) (HMs.out.later hb2)
   have HB2:Hid (Below w.heap.size w w2):=onB HB.out hb2
   clear hb2 hpl h2
   go_wp2_with fail
   refine hwt.mono ?_
   rintro e w3 ⟨rfl,hb3⟩
   go_wp2_with fail
   go_ret2
   rw [HR.out,HV.out]
   exact ⟨rfl,onB HB2.out hb3⟩
 ·have HR:Hid (wErr d i j=treeErr d [i,j]):=wErr_bad he
  have HV:Hid (wVal d i j=0):=wVal_bad (by rw [HR.out];exact he)
  have HE:Hid (errV (treeErr d [i,j])=.iface 95 (.int .i64 (treeErr d [i,j]))):=errV_some he
  rw [errV_some he] at hck
  clear he
  go_enter Tryz.func65,Tryz.ntmps65
  generalize treeErr d [i,j]=c at hck HR HE
  go_wp2_with fail
  refine hck.mono ?_
  rintro e w1 ⟨rfl,hb1⟩
  go_wp2_with fail
  go_ret2
  rw [HV.out,HR.out,HE.out]
  exact ⟨rfl,onB HB0.out hb1⟩
theorem leafs1_in:EntersO 133:=fun args w=>by simp [callFunc,Tryz.func133];rfl
theorem held2 {W w':World} {p0 p1:Addr} {v0 v1:Value} (a0:p0.block<W.heap.size∧W.cell? p0=some v0) (a1:p1.block<W.heap.size∧W.cell? p1=some v1) (hB:Below W.heap.size W w') :
  Below W.heap.size W w'∧w'.cell? p0=some v0∧w'.cell? p1=some v1 :=
 ⟨hB,(hB.cell a0.1).trans a0.2,(hB.cell a1.1).trans a1.2⟩
set_option maxHeartbeats 4000000 in
theorem leafs1_any (b o n cap k q r:Nat) (M:Nat→Mem) (i:Int) (w:World) (hk:k<n) (hn:n≤12) (ht:Tr M n) (hM:MemsAt w b o n M) (hqw:q<w.heap.size) (hrw:r<w.heap.size) (hq:w.cell? ⟨q,2,none⟩=some (.slice (some ⟨b,o,none⟩) n cap)) (hr:w.cell? ⟨r,0,none⟩=some (.int .i64 i)) :
  Calls Tryz.prog 133 #[.int .i64 k,.pointer (some ⟨q,0,none⟩),.pointer (some ⟨r,0,none⟩)] w fun e w'=>e=.returned (.bool (leafIn M n i k))∧Below w.heap.size w w':=by
 have HH:Hid (∀ w',Below w.heap.size w w'→Below w.heap.size w w'∧w'.cell? ⟨q,2,none⟩=some (.slice (some ⟨b,o,none⟩) n cap)∧w'.cell? ⟨r,0,none⟩=some (.int .i64 i)):=fun w' hw'=>held2 ⟨hqw,hq⟩ ⟨hrw,hr⟩ hw'
 have HL:Hid (∀ w',Below w.heap.size w w'→Calls Tryz.prog 99 #[.slice (some ⟨b,o,none⟩) n cap,.int .i64 k] w' fun e w''=>e=.returned (.bool (leafB M n k))∧Below w'.heap.size w' w''):=fun w' hw'=>isleaf_any b o n cap k M w' hn hk (hM.later hw')
 have hln:(pathOf M k).length≤12:=by have:=pathOf_len ht n k (by omega) (by omega);omega
 have HP:Hid (∀ w',Below w.heap.size w w'→Calls Tryz.prog 134 #[.slice (some ⟨b,o,none⟩) n cap,.int .i64 k] w' fun e w''=>(∃ A c,e=.returned (.slice A (pathOf M k).length c)∧IntsAt w'' A c (pathOf M k))∧Below w'.heap.size w' w''):=fun w' hw'=>path_any b o n cap k M w' hn hk ht (hM.later hw')
 have HC:Hid (∀ A c w',IntsAt w' A c (pathOf M k)→Calls Tryz.prog 70 #[.slice A (pathOf M k).length c,.int .i64 i] w' fun e w''=>e=.returned (.bool (inB (pathOf M k) i))∧Below w'.heap.size w' w''):=fun A c w' h=>contains_ints A c (pathOf M k) i w' hln h
 unfold leafIn
 generalize pathOf M k=L at hln HP HC
 clear hM ht
 cases hl:leafB M n k
 ·rw [hl] at HL
  go_enter Tryz.func133,Tryz.ntmps133
  go_wp2_with fail
  first | (go_region_with (go_at_call 99;refine (HL.out _ (by go_grown)).mono ?_;rintro e w4 ⟨rfl,hb4⟩;have hN4:=onB (W0:=w) (by go_grown) hb4;obtain ⟨-,x1,x2⟩:=HH.out _ hN4;clear hb4)) | fail
  all_goals go_wp2_with fail
  all_goals go_ret
  all_goals exact ⟨rfl,by go_grown⟩
 ·rw [hl] at HL
  go_enter Tryz.func133,Tryz.ntmps133
  go_wp2_with fail
  go_region_held3 (fun w'=>Below w.heap.size w w'∧w'.cell? ⟨q,2,none⟩=some (.slice (some ⟨b,o,none⟩) n cap)∧w'.cell? ⟨r,0,none⟩=some (.int .i64 i))
   ((refine HH.out _ ?_;go_grown;done))
   ((first
    | (go_at_call 99;refine (HL.out _ (by go_grown)).mono ?_;rintro e w4 ⟨rfl,hb4⟩;have hN4:=onB (W0:=w) (by go_grown) hb4;clear hb4)
    | (go_at_call 134;refine (HP.out _ (by go_grown)).mono ?_;rintro e w5 ⟨⟨Ap,cp,rfl,hI⟩,hb5⟩;have hN5:=onB (W0:=w) (by go_grown) hb5;clear hb5)
    | (go_at_call 70;refine (HC.out _ _ _ (by assumption)).mono ?_;rintro e w6 ⟨rfl,hb6⟩;have hN6:=onB (W0:=w) (by go_grown) hb6;clear hb6)))
  all_goals go_wp2_with fail
  all_goals go_ret
  all_goals exact ⟨rfl,by assumption⟩
set_option maxHeartbeats 2000000 in
theorem leafs_any (d:Dm) (A:Option Addr) (cap:Nat) (i:Int) (w:World) (hM:MemsV w A cap d.n d.mem):Calls Tryz.prog 97 #[dimV d A cap,.int .i64 i] w fun e w'=>(∃ A' c',e=.returned (.tuple #[.slice A' (lst (treeErr d [i]) (leafsOf d.mem d.n i)).length c',errV (treeErr d [i])])∧IntsAt w' A' c' (lst (treeErr d [i]) (leafsOf d.mem d.n i)))∧Below w.heap.size w w':=by
 have hB0:=ownQ_below w d A cap i 30 3
 have hck:=tcheck_any d A cap _ 1 [i] (ownQ w d A cap i 30 3) (hM.later hB0) (by simp) (ownQ_ints ..)
 have HB0:Hid (Below w.heap.size w (ownQ w d A cap i 30 3)):=hB0
 have HM:Hid (MemsV w A cap d.n d.mem):=hM
 unfold dimV at hck ⊢
 simp only [List.length_singleton] at hck
 clear hM hB0
 by_cases he:treeErr d [i]=0
 ·obtain ⟨hd,k,rfl,hk⟩:=treeErr_in he
  rw [he,errV_zero] at hck
  obtain ⟨-,-,hd2,-⟩:=dimErr_right hd
  have ht:Tr d.mem d.n:=Tr.of hd
  have HR:Hid (lst (treeErr d [(k:Int)]) (leafsOf d.mem d.n k)=selTo (leafIn d.mem d.n k) d.n):=lst_ok he _
  have HE:Hid (errV (treeErr d [(k:Int)])=.nilIface):=by show _=_;rw [he];rfl
  have HT:Hid (Tr d.mem d.n):=ht
  clear he hd ht
  go_enter Tryz.func97,Tryz.ntmps97
  go_wp2_with fail
  refine hck.mono ?_
  rintro e w1 ⟨rfl,hb1⟩
  have hB:Below w.heap.size w w1:=onB HB0.out hb1
  have hz:w.heap.size+1<w1.heap.size:=by have:=hb1.size;rw [ownQ_size] at this;omega
  have hz0:w.heap.size<w1.heap.size:=by omega
  have h2:w1.cell? ⟨w.heap.size,2,none⟩=some (.slice A d.n cap):=(hb1.cell (p:=⟨w.heap.size,2,none⟩) (by show w.heap.size<_;rw [ownQ_size];omega)).trans (ownQ_dim ..)
  have h3:w1.cell? ⟨w.heap.size+1,0,none⟩=some (.int .i64 k):=(hb1.cell (p:=⟨w.heap.size+1,0,none⟩) (by show w.heap.size+1<_;rw [ownQ_size];omega)).trans (ownQ_int ..)
  obtain ⟨hcap,h0 | ⟨b,o,rfl,hMs⟩⟩:=HM.out.later hB
  ·omega
  have hpl:=places_any 133 w.heap.size (w.heap.size+1) leafs1_in (some ⟨b,o,none⟩) d.n cap (leafIn d.mem d.n k) w1 hd2 (fun j w' hj hw'=>leafs1_any b o d.n cap j w.heap.size (w.heap.size+1) d.mem k w' hj hd2 HT.out (hMs.later hw') (Nat.lt_of_lt_of_le hz0 hw'.size) (Nat.lt_of_lt_of_le hz hw'.size) ((hw'.cell (p:=⟨w.heap.size,2,none⟩) hz0).trans h2) ((hw'.cell (p:=⟨w.heap.size+1,0,none⟩) hz).trans h3))
  have HB:Hid (Below w.heap.size w w1):=hB
  clear hb1 hck hMs h3 hB
  go_wp2_with fail
  refine hpl.mono ?_
  rintro e w2 ⟨⟨A',c',rfl,hI⟩,hb2⟩
  go_wp2_with fail
  go_ret2
  rw [HR.out,HE.out]
  exact ⟨⟨A',c',rfl,hI⟩,onB HB.out hb2⟩
 ·have HR:Hid (lst (treeErr d [i]) (leafsOf d.mem d.n i)=[]):=lst_bad he _
  have HE:Hid (errV (treeErr d [i])=.iface 95 (.int .i64 (treeErr d [i]))):=errV_some he
  rw [errV_some he] at hck
  clear he
  generalize treeErr d [i]=c at hck HR HE
  go_enter Tryz.func97,Tryz.ntmps97
  go_wp2_with fail
  refine hck.mono ?_
  rintro e w1 ⟨rfl,hb1⟩
  go_wp2_with fail
  go_ret2
  rw [HR.out,HE.out]
  exact ⟨⟨none,0,rfl,IntsAt.nil _ _ _⟩,onB HB0.out hb1⟩
def ownOC (w:World) (A0:Option Addr) (n cap:Nat):World:=(ownOut w A0 n cap 24).alloc (.cells #[.int .i64 0,.int .i64 0] 54)
theorem ownOC_size (w:World) (A0:Option Addr) (n cap:Nat):(ownOC w A0 n cap).heap.size=w.heap.size+2:=by unfold ownOC;simp [ownOut_size]
theorem ownOC_below (w:World) (A0:Option Addr) (n cap:Nat):Below w.heap.size w (ownOC w A0 n cap):=by unfold ownOC ownOut;go_grown
theorem ownOC_o (w:World) (A0:Option Addr) (n cap:Nat):(ownOC w A0 n cap).cell? ⟨w.heap.size,0,none⟩=some (.slice A0 n cap):=by
 unfold ownOC
 rw [World.cell?_alloc_lt _ _ ⟨w.heap.size,0,none⟩ (by simp [ownOut_size])]
 exact ownOut_at ..
theorem ownOC_b (w:World) (A0:Option Addr) (n cap:Nat):(ownOC w A0 n cap).heap[w.heap.size+1]?=some (.cells #[.int .i64 0,.int .i64 0] 54):=by
 have h:=heap_alloc_new (ownOut w A0 n cap 24) (.cells #[.int .i64 0,.int .i64 0] 54)
 rw [ownOut_size] at h
 exact h
def SlB (w:World) (g n k:Nat) (L:Nat→List Int):Prop := ∃ cur:Array Value,w.heap[g]?=some (.cells cur 38 (0,0))∧cur.size=n∧∀ j,j<n→∃ A l c,cur[j]?=some (.slice A l c)∧(j<k→l=(L j).length∧IntsAt w A c (L j))
section
variable {w w':World} {g n k:Nat} {L:Nat→List Int}
theorem SlB.lt (h:SlB w g n k L):g<w.heap.size:=by
 obtain ⟨cur,h1,_⟩:=h
 exact (Array.getElem?_eq_some_iff.1 h1).1
theorem SlB.at (h:SlB w g n k L) {j:Nat} (hj:j<n):∃ A l c,w.cell? ⟨g,j,none⟩=some (.slice A l c)∧(j<k→l=(L j).length∧IntsAt w A c (L j)):=by
 obtain ⟨cur,h1,h2,h3⟩:=h
 obtain ⟨A,l,c,h4,h5⟩:=h3 j hj
 exact ⟨A,l,c,by simp [World.cell?,h1,h4],h5⟩
theorem SlB.get (h:SlB w g n n L) {j:Nat} (hj:j<n):∃ A c,w.cell? ⟨g,j,none⟩=some (.slice A (L j).length c)∧IntsAt w A c (L j):=by
 obtain ⟨A,l,c,h1,h2⟩:=h.at hj
 obtain ⟨rfl,h3⟩:=h2 hj
 exact ⟨A,c,h1,h3⟩
theorem SlB.frozen (h:SlB w g n k L) (j:Nat):w.frozen? ⟨g,j,none⟩=false:=by
 obtain ⟨cur,h1,_⟩:=h
 exact Lib.frozen_of_heap h1 j
theorem SlB.later (h:SlB w g n k L) (hB:Below w.heap.size w w'):SlB w' g n k L:=by
 have hlt:=h.lt
 obtain ⟨cur,h1,h2,h3⟩:=h
 refine ⟨cur,(hB.block g hlt).trans h1,h2,fun j hj=>?_⟩
 obtain ⟨A,l,c,h4,h5⟩:=h3 j hj
 exact ⟨A,l,c,h4,fun hk=>⟨(h5 hk).1,(h5 hk).2.later hB⟩⟩
theorem IntsAt.off {A:Option Addr} {c:Nat} {X:List Int} {cur:Array Value} {T:Nat} (h:IntsAt w A c X) (hg:w.heap[g]?=some (.cells cur T (0,0))) (hs:∀ x y,cur[0]?=some (.int x y)→False) (hb:∀ i,i<w.heap.size→i≠g→w'.heap[i]?=w.heap[i]?) (hz:w.heap.size≤w'.heap.size):IntsAt w' A c X:=by
 obtain ⟨h1,h2 | ⟨b,h2,h3,h4⟩⟩:=h
 ·exact ⟨h1,Or.inl h2⟩
 ·by_cases h0:X.length=0
  ·exact ⟨h1,Or.inl (List.eq_nil_of_length_eq_zero h0)⟩
  ·have hne:b≠g:=fun e=>by
    have:=h4 0 (by omega)
    rw [e] at this
    simp only [World.cell?,hg] at this
    exact hs _ _ this
   exact ⟨h1,Or.inr ⟨b,h2,Nat.lt_of_lt_of_le h3 hz,fun j hj=>(World.cell?_of_block (a:=⟨b,j,none⟩) (hb b h3 hne)).trans (h4 j hj)⟩⟩
theorem SlB.set (h:SlB w g n k L) (hk:k<n) {A:Option Addr} {c:Nat} (hI:IntsAt w A c (L k)):SlB (w.setCell ⟨g,k,none⟩ (.slice A (L k).length c)) g n (k+1) L:=by
 obtain ⟨cur,h1,h2,h3⟩:=h
 have hs:∀ x y,cur[0]?=some (.int x y)→False:=fun x y e=>by
  obtain ⟨A,l,c,h4,-⟩:=h3 0 (by omega)
  rw [h4] at e
  cases e
 have hb:∀ i,i<w.heap.size→i≠g→(w.setCell ⟨g,k,none⟩ (.slice A (L k).length c)).heap[i]?=w.heap[i]?:=fun i _ hi=>Below.heap_setCell w ⟨g,k,none⟩ _ i hi
 have hz:w.heap.size≤(w.setCell ⟨g,k,none⟩ (.slice A (L k).length c)).heap.size:=by simp [World.setCell]
 refine ⟨cur.setIfInBounds k (.slice A (L k).length c),by simp [World.setCell,Array.getElem?_modify,h1],by simpa using h2,fun j hj=>?_⟩
 by_cases e:j=k
 ·subst e
  exact ⟨A,_,c,by simp [h2,hj],fun _=>⟨rfl,hI.off h1 hs hb hz⟩⟩
 ·obtain ⟨A',l,c',h4,h5⟩:=h3 j hj
  refine ⟨A',l,c',?_,fun hjk=>⟨(h5 (by omega)).1,(h5 (by omega)).2.off h1 hs hb hz⟩⟩
  rw [Array.getElem?_setIfInBounds_ne (fun h=>e h.symm)]
  exact h4
theorem SlB.made (w:World) (n:Nat) (L:Nat→List Int):SlB (w.alloc (.cells (madeCells #[.slice none 0 0] n) 38)) w.heap.size n 0 L:=by
 refine ⟨_,heap_alloc_new w _,by simp [madeCells],fun j hj=>⟨none,0,0,?_,fun h=>by cases h⟩⟩
 simp [madeCells,hj,Nat.mod_one]
end
theorem Tryz.infoSl:(Tryz.prog.info? 38).map (fun i=>(i.zero,i.size,i.bytes))=some (some (.slice none 0 0),1,24):=by kernel_rfl
def Four (W:World) (q b o:Nat) (v0 v1 v2 x:Value):Prop:=(q<W.heap.size∧b<W.heap.size)∧W.cell? ⟨q,0,none⟩=some v0∧W.cell? ⟨q,1,none⟩=some v1∧W.cell? ⟨q,2,none⟩=some v2∧W.cell? ⟨b,o,none⟩=some x
theorem keep4 {W w':World} {q b o:Nat} {v0 v1 v2 x:Value} (h:Four W q b o v0 v1 v2 x) (hB:Below W.heap.size W w'):Below W.heap.size W w'∧w'.cell? ⟨q,0,none⟩=some v0∧w'.cell? ⟨q,1,none⟩=some v1∧w'.cell? ⟨q,2,none⟩=some v2∧w'.cell? ⟨b,o,none⟩=some x:=by
 obtain ⟨⟨h1,h2⟩,c0,c1,c2,c3⟩:=h
 exact ⟨hB,(hB.cell (p:=⟨q,0,none⟩) h1).trans c0,(hB.cell (p:=⟨q,1,none⟩) h1).trans c1,(hB.cell (p:=⟨q,2,none⟩) h1).trans c2,(hB.cell (p:=⟨b,o,none⟩) h2).trans c3⟩
set_option maxHeartbeats 4000000 in
theorem rls_any (A0:Option Addr) (cap n:Nat) (D:Nat→Dm) (A:Nat→Option Addr) (C:Nat→Nat) (Ap:Option Addr) (cp:Nat) (p:List Int) (w:World) (hp:InO D n p) (hM:DimsV w A0 cap n D A C) (hP:PlAt w Ap cp p):Calls Tryz.prog 64 #[.agg #[.slice A0 n cap],.slice Ap p.length cp] w fun e w'=>(∃ g,e=.returned (.tuple #[.slice (some ⟨g,0,none⟩) n n,.nilIface])∧SlB w' g n n (lfs D p))∧Below w.heap.size w w':=by
 have hB0:=ownOut_below w A0 n cap 24
 have h:=pcheck_any A0 cap n D A C Ap cp p (ownOut w A0 n cap 24) (hM.later hB0) (hP.later hB0)
 have HB0:Hid (Below w.heap.size w (ownOut w A0 n cap 24)):=hB0
 have HM:Hid (DimsV w A0 cap n D A C):=hM
 have HI:Hid (InO D n p):=hp
 rw [hp.ok,errV_zero] at h
 obtain ⟨hn1,hn4,-,hd⟩:=allErr_some hp.right
 have HD:Hid (∀ i,i<n→(dimErr (D i)).2=0):=(allErr_right hp.right).2
 have hl:=hp.len
 obtain ⟨hcp,h0 | ⟨bp,op,rfl,hbp,hcell⟩⟩:=hP
 ·rw [h0] at hl;simp at hl;omega
 rw [hl] at h hcp
 rw [hl]
 have HC:Hid (∀ j,j<n→w.cell? ⟨bp,op+j,none⟩=some (.int .i64 (p.getD j 0))):=fun j hj=>hcell j (by omega)
 have hn':(n:Int)≤4:=by omega
 have hmk:=run_make_row' (P:=Tryz.prog) 85 38 (.slice none 0 0) 24 Tryz.underlying85 Tryz.infoSl rfl .i64 .i64 n (by omega) (by omega)
 clear hB0 hM hp hl hcell hd
 go_enter Tryz.func64,Tryz.ntmps64
 go_wp2_with fail
 refine h.mono ?_
 rintro e w1 ⟨rfl,hb1⟩
 have hB:Below w.heap.size w w1:=onB HB0.out hb1
 have hz:w.heap.size<w1.heap.size:=by have:=hb1.size;rw [ownOut_size] at this;omega
 have h2:w1.cell? ⟨w.heap.size,0,none⟩=some (.slice A0 n cap):=(hb1.cell (p:=⟨w.heap.size,0,none⟩) (by show w.heap.size<_;rw [ownOut_size];omega)).trans (ownOut_at ..)
 obtain ⟨hcap,h0 | ⟨b,o,rfl,hMs⟩⟩:=HM.out.later hB
 ·omega
 have HMs:Hid (DimsAt w1 b o n D A C):=hMs
 have HB:Hid (Below w.heap.size w w1):=hB
 have HC1:Hid (∀ j,j<n→w1.cell? ⟨bp,op+j,none⟩=some (.int .i64 (p.getD j 0))):=fun j hj=>(hB.cell (p:=⟨bp,op+j,none⟩) hbp).trans (HC.out j hj)
 have hbp1:bp<w1.heap.size:=Nat.lt_of_lt_of_le hbp hB.size
 clear hb1 h hMs hB
 go_wp2_with fail
 clear hmk
 go_loopg [25] n (fun g s25 wr => ∃ (k:Nat),k≤n∧g=n-k∧s25=.int .i64 k∧SlB wr w1.heap.size n k (lfs D p)∧Below w1.heap.size w1 wr)
 case atStart=>exact ⟨0,Nat.zero_le _,rfl,rfl,SlB.made w1 n _,by go_grown⟩
 case round =>
  obtain ⟨k,hk,rfl,rfl,hS,hBw⟩:=hrel
  have HBw:Hid (Below w1.heap.size w1 wr):=hBw
  have HS:Hid (SlB wr w1.heap.size n k (lfs D p)):=hS
  by_cases hlt:k<n
  ·have hki:(k:Int)<(n:Int):=by omega
   obtain ⟨d0,d1,d2,h4⟩:=(HMs.out.later hBw).2 k hlt
   have hdk:=HD.out k hlt
   have e1:=(hBw.cell (p:=⟨bp,op+k,none⟩) hbp1).trans (HC1.out k hlt)
   have hbq:bp<wr.heap.size:=Nat.lt_of_lt_of_le hbp1 hBw.size
   have hte:treeErr (D k) [p.getD k 0]=0:=by
    have:=HI.out.lo k hlt
    have:=HI.out.hi k hlt
    rw [treeErr_one hdk,if_neg (by omega)]
   have HLf:Hid (∀ w',Below wr.heap.size wr w'→Calls Tryz.prog 97 #[dimV (D k) (A k) (C k),.int .i64 (p.getD k 0)] w' fun e w''=>(∃ A' c',e=.returned (.tuple #[.slice A' (lfs D p k).length c',.nilIface])∧IntsAt w'' A' c' (lfs D p k))∧Below w'.heap.size w' w''):=fun w' hw'=>by
    have:=leafs_any (D k) (A k) (C k) (p.getD k 0) w' (h4.later hw')
    rw [hte,errV_zero] at this
    exact this
   unfold dimV at HLf
   have hBx:Below wr.heap.size wr (ownDim wr (D k) (A k) (C k) 30):=ownDim_below ..
   have hFo:Four (ownDim wr (D k) (A k) (C k) 30) wr.heap.size bp (op+k) (.string (D k).name) (.int .i64 (D k).solve) (.slice (A k) (D k).n (C k)) (.int .i64 (p.getD k 0)):=by
    obtain ⟨x0,x1,x2⟩:=ownDim_at wr (D k) (A k) (C k) 30
    exact ⟨⟨by rw [ownDim_size];omega,Nat.lt_of_lt_of_le hbq hBx.size⟩,x0,x1,x2,(hBx.cell (p:=⟨bp,op+k,none⟩) hbq).trans e1⟩
   obtain ⟨Wx,hWx⟩:∃ W,ownDim wr (D k) (A k) (C k) 30=W:=⟨_,rfl⟩
   rw [hWx] at hFo hBx
   unfold ownDim at hWx
   have HFo:Hid (Four Wx wr.heap.size bp (op+k) (.string (D k).name) (.int .i64 (D k).solve) (.slice (A k) (D k).n (C k)) (.int .i64 (p.getD k 0))):=hFo
   have HBx:Hid (Below wr.heap.size wr Wx):=hBx
   generalize p.getD k 0=x at HLf HFo e1
   generalize (D k).name=dn at HLf HFo d0 hWx
   generalize (D k).solve=ds at HLf HFo d1 hWx
   generalize A k=Ak at HLf HFo d2 hWx
   generalize C k=Ck at HLf HFo d2 hWx
   generalize (D k).n=dk at HLf HFo d2 hWx
   obtain ⟨X,hX⟩:∃ X,lfs D p k=X:=⟨_,rfl⟩
   have HX:Hid (lfs D p k=X):=hX
   rw [hX] at HLf
   clear hFo hBx hS hBw h4 hdk hte hX
   go_wp2_with fail
   clear hWx
   go_cut [10,11] (fun s10 s11 wx => ∃ A' c',s10=.slice A' X.length c'∧s11=.nilIface∧IntsAt wx A' c' X∧Below Wx.heap.size Wx wx)
   case first=>as_aux_lemma =>
    go_region_held3 (fun w'=>Below Wx.heap.size Wx w'∧w'.cell? ⟨wr.heap.size,0,none⟩=some (.string dn)∧w'.cell? ⟨wr.heap.size,1,none⟩=some (.int .i64 ds)∧w'.cell? ⟨wr.heap.size,2,none⟩=some (.slice Ak dk Ck)∧w'.cell? ⟨bp,op+k,none⟩=some (.int .i64 x))
     ((refine keep4 HFo.out ?_;go_grown;done))
     (first | (go_at_call 97;refine (HLf.out _ (onB HBx.out (by go_grown))).mono ?_;rintro e w3 ⟨⟨A',c',rfl,hI⟩,hb3⟩;have hN3:=onB (W0:=Wx) (by go_grown) hb3;have hy3:=hN3.size;clear hb3))
    all_goals go_wp2_with fail
    all_goals go_meet
    all_goals exact ⟨_,_,rfl,rfl,by first | assumption | (refine IntsAt.later (by assumption) ?_;go_grown),by go_grown⟩
   case rest=>as_aux_lemma =>
   obtain ⟨A',c',rfl,rfl,hI,hb⟩:=hcut
   obtain ⟨w2,rfl⟩:∃ w2:World,w2=wc:=⟨_,rfl⟩
   have hB2:Below wr.heap.size wr w2:=onB HBx.out hb
   have hS2:=HS.out.later hB2
   obtain ⟨A1,l1,c1,hc1,-⟩:=hS2.at hlt
   have hfr:=hS2.frozen k
   have HB2:Hid (Below w1.heap.size w1 w2):=onB HBw.out hB2
   have HS2:Hid (SlB w2 w1.heap.size n k (lfs D p)):=hS2
   have HI2:Hid (IntsAt w2 A' c' X):=hI
   clear hb hB2 hS2 hI HLf HFo d0 d1 d2 e1
   go_wp2_with fail
   go_roundg (n-(k+1))
   case measure=>omega
   case rel =>
    refine ⟨k+1,by omega,rfl,by go_num,?_,HB2.out.setCell (by show w1.heap.size≤w1.heap.size;omega) _⟩
    have:=HS2.out.set hlt (A:=A') (c:=c') (by rw [HX.out];exact HI2.out)
    rw [HX.out] at this
    exact this
  ·have hke:k=n:=by omega
   subst hke
   clear hBw hS
   go_wp2_with fail
   go_ret2
   exact ⟨⟨_,rfl,HS.out⟩,onB HB.out HBw.out⟩
theorem rls_bad (A0:Option Addr) (cap n:Nat) (D:Nat→Dm) (A:Nat→Option Addr) (C:Nat→Nat) (Ap:Option Addr) (cp:Nat) (p:List Int) (w:World) (hp:placeErr D n p≠0) (hM:DimsV w A0 cap n D A C) (hP:PlAt w Ap cp p):Calls Tryz.prog 64 #[.agg #[.slice A0 n cap],.slice Ap p.length cp] w fun e w'=>e=.returned (.tuple #[.slice none 0 0,.iface 95 (.int .i64 (placeErr D n p))])∧Below w.heap.size w w':=by
 have hB0:=ownOut_below w A0 n cap 24
 have h:=pcheck_any A0 cap n D A C Ap cp p (ownOut w A0 n cap 24) (hM.later hB0) (hP.later hB0)
 have HB0:Hid (Below w.heap.size w (ownOut w A0 n cap 24)):=hB0
 rw [errV_some hp] at h
 clear hB0 hM hP hp
 generalize placeErr D n p=c at h
 generalize p.length=m at h
 go_enter Tryz.func64,Tryz.ntmps64
 go_wp2_with fail
 refine h.mono ?_
 rintro e w1 ⟨rfl,hb1⟩
 go_wp2_with fail
 go_ret2
 exact ⟨rfl,onB HB0.out hb1⟩
theorem run_make_bols (n:Nat) (hn:n≤3000) (w:World):(Instr.makeSlice 89 (.int .i64 (n:Int)) (.int .i64 (n:Int))).run Tryz.prog w=.ok (.slice (some ⟨w.heap.size,0,none⟩) n n) (w.alloc (.cells (madeCells #[.bool false] n) 4)):=by
 obtain ⟨i0,hi0,hz0,hz1,hz2⟩:=info_parts Tryz.infoBol
 have hr:=run_make (P:=Tryz.prog) w 89 4 i0 _ Tryz.underlying89 hi0 hz0 .i64 .i64 n n (by omega) (Int.le_refl _) (by rw [hz2];omega) (by omega)
 simp only [Int.toNat_natCast,hz1,Nat.mul_one] at hr
 exact hr
def omA:Mem:=⟨⟨#[98]⟩,-1,0,⟨#[99,43,49]⟩⟩
def omB:Mem:=⟨⟨#[99]⟩,-1,0,⟨#[]⟩⟩
def oneM (i:Nat):Mem:=if i=0 then omA else omB
def oneDm:Dm:=⟨⟨#[97]⟩,0,2,oneM⟩
theorem one_nd:ndL oneDm=[[1],[]]:=by decide +kernel
theorem one_acyc (i:Nat):cycB (ndL oneDm) i=false:=by
 rw [one_nd]
 refine up_acyc (fun a x hx=>?_) i
 unfold rowN at hx
 rcases h:a.toNat with _ | _ | k
 ·rw [h] at hx
  simp at hx
  omega
 ·rw [h] at hx
  simp at hx
 ·rw [h] at hx
  simp at hx
theorem Tryz.infoEd:(Tryz.prog.info? 41).map (fun i=>(i.zero,i.size,i.bytes))=some (some (.agg #[.slice none 0 0,.int .i64 0,.bool false]),3,40):=by kernel_rfl
def cellsX:List EdL→List Value
 | []=>[]
 | y :: r=>.slice y.A y.x.pl.length y.c :: .int .i64 y.x.n :: .bool y.x.clear :: cellsX r
theorem cellsX_append (a b:List EdL):cellsX (a ++ b)=cellsX a ++ cellsX b:=by
 induction a with
 | nil=>rfl
 | cons x r ih=>simp [cellsX,ih]
theorem cellsX_at (ys:List EdL):∀ k,k<ys.length→(cellsX ys)[k*3]?=some (.slice (ys.getD k noD).A (ys.getD k noD).x.pl.length (ys.getD k noD).c)∧(cellsX ys)[k*3+1]?=some (.int .i64 (ys.getD k noD).x.n)∧(cellsX ys)[k*3+2]?=some (.bool (ys.getD k noD).x.clear):=by
 induction ys with
 | nil=>intro k hk;cases hk
 | cons x r ih =>
  intro k hk
  cases k with
  | zero=>simp [cellsX]
  | succ k =>
   rw [show (k+1)*3=k*3+1+1+1 by omega]
   simp only [cellsX,List.getElem?_cons_succ,List.getD_cons_succ]
   exact ih k (by simpa using hk)
end Go.Proofs.YtfgegmpoejilnaaGreatDoor
