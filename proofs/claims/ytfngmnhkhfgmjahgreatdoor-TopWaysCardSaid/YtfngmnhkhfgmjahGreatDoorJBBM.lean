/-
  What Weight and Leafs of package tree answer: how a leaf counts in a member; the leafs of a member; or what is wrong.
-/
import Derived.Test.YtfngmnhkhfgmjahGreatDoorJBBL
namespace Go.Proofs.YtfngmnhkhfgmjahGreatDoor
open Go.ChangeShapes Go.WideShapes Go.ChangeAt Go.RowKit
set_option maxRecDepth 20000
theorem treeErr_in2 {d:Dm} {i j:Int} (h:treeErr d [i,j]=0):(dimErr d).2=0∧(∃ k:Nat,i=k∧k<d.n)∧∃ m:Nat,j=m∧m<d.n:=by
 have h0:=treeErr_right h
 rw [treeErr_two h0] at h
 by_cases h1:i<0∨(d.n:Int)≤i∨j<0∨(d.n:Int)≤j
 ·rw [if_pos h1] at h;cases h
 ·exact ⟨h0,⟨i.toNat,by omega,by omega⟩,j.toNat,by omega,by omega⟩
def wErr (d:Dm) (i j:Int):Int:=if treeErr d [i,j]≠0 then treeErr d [i,j] else if leafB d.mem d.n j.toNat=true then 0 else 3
def wVal (d:Dm) (i j:Int):Int:=if wErr d i j=0 then weightOf d.mem i j else 0
theorem wErr_bad {d:Dm} {i j:Int} (h:treeErr d [i,j]≠0):wErr d i j=treeErr d [i,j]:=by unfold wErr;rw [if_pos h]
theorem wErr_no {d:Dm} {i j:Int} (h:treeErr d [i,j]=0) (h1:leafB d.mem d.n j.toNat=false):wErr d i j=3:=by unfold wErr;rw [if_neg (by simpa using h),if_neg (by simp [h1])]
theorem wErr_ok {d:Dm} {i j:Int} (h:treeErr d [i,j]=0) (h1:leafB d.mem d.n j.toNat=true):wErr d i j=0:=by unfold wErr;rw [if_neg (by simpa using h),if_pos h1]
theorem wVal_ok {d:Dm} {i j:Int} (h:wErr d i j=0):wVal d i j=weightOf d.mem i j:=by unfold wVal;rw [if_pos h]
theorem wVal_bad {d:Dm} {i j:Int} (h:wErr d i j≠0):wVal d i j=0:=by unfold wVal;rw [if_neg h]
def ownW (w:World) (d:Dm) (A:Option Addr) (cap:Nat) (i j:Int) (T T':Nat):World:=(ownDim w d A cap T).alloc (.cells #[.int .i64 i,.int .i64 j] T')
theorem ownW_size (w:World) (d:Dm) (A:Option Addr) (cap:Nat) (i j:Int) (T T':Nat):(ownW w d A cap i j T T').heap.size=w.heap.size+2:=by unfold ownW;simp [ownDim_size]
theorem ownW_below (w:World) (d:Dm) (A:Option Addr) (cap:Nat) (i j:Int) (T T':Nat):Below w.heap.size w (ownW w d A cap i j T T'):=by unfold ownW ownDim;go_grown
theorem ownW_dim (w:World) (d:Dm) (A:Option Addr) (cap:Nat) (i j:Int) (T T':Nat):(ownW w d A cap i j T T').cell? ⟨w.heap.size,2,none⟩=some (.slice A d.n cap):=by
 unfold ownW
 rw [World.cell?_alloc_lt _ _ ⟨w.heap.size,2,none⟩ (by rw [ownDim_size];exact Nat.lt_succ_self _)]
 exact (ownDim_at w d A cap T).2.2
theorem ownW_ints (w:World) (d:Dm) (A:Option Addr) (cap:Nat) (i j:Int) (T T':Nat):IntsAt (ownW w d A cap i j T T') (some ⟨w.heap.size+1,0,none⟩) 2 [i,j]:=by
 refine ⟨Nat.le_refl _,Or.inr ⟨_,rfl,by rw [ownW_size];omega,fun k hk=>?_⟩⟩
 have hk':k<2:=hk
 unfold ownW
 rw [←ownDim_size w d A cap T]
 match k,hk' with
 | 0,_=>simp
 | 1,_=>simp
set_option maxHeartbeats 2000000 in
theorem tweight_any (d:Dm) (A:Option Addr) (cap:Nat) (i j:Int) (w:World) (hM:MemsV w A cap d.n d.mem):Calls Tryz.prog 87 #[dimV d A cap,.int .i64 i,.int .i64 j] w fun e w'=>e=.returned (.tuple #[.int .i64 (wVal d i j),errV (wErr d i j)])∧Below w.heap.size w w':=by
 have hB0:=ownW_below w d A cap i j 63 3
 have hck:=tcheck_any d A cap _ 2 [i,j] (ownW w d A cap i j 63 3) (hM.later hB0) (by simp) (ownW_ints ..)
 have HB0:Hid (Below w.heap.size w (ownW w d A cap i j 63 3)):=hB0
 have HM:Hid (MemsV w A cap d.n d.mem):=hM
 unfold dimV at hck ⊢
 simp only [List.length_cons,List.length_nil,Nat.zero_add,Nat.reduceAdd] at hck
 clear hM hB0
 by_cases he:treeErr d [i,j]=0
 ·obtain ⟨hd,⟨k,rfl,hk⟩,m,rfl,hm⟩:=treeErr_in2 he
  rw [he,errV_zero] at hck
  obtain ⟨-,-,hd2,-⟩:=dimErr_right hd
  have HD:Hid ((dimErr d).2=0):=hd
  have HE:Hid (treeErr d [(k:Int),(m:Int)]=0):=he
  clear he hd
  go_enter Tryz.func87,Tryz.ntmps87
  go_wp2_with fail
  refine hck.mono ?_
  rintro e w1 ⟨rfl,hb1⟩
  have hB:Below w.heap.size w w1:=onB HB0.out hb1
  have hz:w.heap.size<w1.heap.size:=by have:=hb1.size;rw [ownW_size] at this;omega
  have h2:w1.cell? ⟨w.heap.size,2,none⟩=some (.slice A d.n cap):=(hb1.cell (p:=⟨w.heap.size,2,none⟩) (by show w.heap.size<_;rw [ownW_size];omega)).trans (ownW_dim ..)
  obtain ⟨hcap,h0 | ⟨b,o,rfl,hMs⟩⟩:=HM.out.later hB
  ·omega
  have hpl:=isleaf_any b o d.n cap m d.mem w1 hd2 hm hMs
  have HB:Hid (Below w.heap.size w w1):=hB
  have HMs:Hid (MemsAt w1 b o d.n d.mem):=hMs
  clear hb1 hck hMs hB
  cases hl:leafB d.mem d.n m
  ·have HR:Hid (wErr d k m=3):=wErr_no HE.out (by simpa using hl)
   have HV:Hid (wVal d k m=0):=wVal_bad (by rw [HR.out];decide)
   rw [hl] at hpl
   clear hl
   go_wp2_with fail
   refine hpl.mono ?_
   rintro e w2 ⟨rfl,hb2⟩
   go_wp2_with fail
   go_ret2
   rw [HR.out,HV.out]
   exact ⟨rfl,onB HB.out hb2⟩
  ·have HR:Hid (wErr d k m=0):=wErr_ok HE.out (by simpa using hl)
   have HV:Hid (wVal d k m=weightOf d.mem k m):=wVal_ok HR.out
   rw [hl] at hpl
   clear hl
   go_wp2_with fail
   refine hpl.mono ?_
   rintro e w2 ⟨rfl,hb2⟩
   have h3:w2.cell? ⟨w.heap.size,2,none⟩=some (.slice (some ⟨b,o,none⟩) d.n cap):=(hb2.cell (p:=⟨w.heap.size,2,none⟩) hz).trans h2
   have hwt:=weight_any b o d.n cap m k d.mem w2 hd2 hm (Tr.of HD.out) (Sg.of HD.out) (HMs.out.later hb2)
   have HB2:Hid (Below w.heap.size w w2):=onB HB.out hb2
   clear hb2 hpl h2
   go_wp2_with fail
   refine hwt.mono ?_
   rintro e w3 ⟨rfl,hb3⟩
   go_wp2_with fail
   go_ret2
   rw [HR.out,HV.out]
   exact ⟨rfl,onB HB2.out hb3⟩
 ·have HR:Hid (wErr d i j=treeErr d [i,j]):=wErr_bad he
  have HV:Hid (wVal d i j=0):=wVal_bad (by rw [HR.out];exact he)
  have HE:Hid (errV (treeErr d [i,j])=.iface 86 (.int .i64 (treeErr d [i,j]))):=errV_some he
  rw [errV_some he] at hck
  clear he
  go_enter Tryz.func87,Tryz.ntmps87
  generalize treeErr d [i,j]=c at hck HR HE
  go_wp2_with fail
  refine hck.mono ?_
  rintro e w1 ⟨rfl,hb1⟩
  go_wp2_with fail
  go_ret2
  rw [HV.out,HR.out,HE.out]
  exact ⟨rfl,onB HB0.out hb1⟩
theorem leafs1_in:EntersO 173:=fun args w=>by simp [callFunc,Tryz.func173];rfl
theorem held2 {W w':World} {p0 p1:Addr} {v0 v1:Value} (a0:p0.block<W.heap.size∧W.cell? p0=some v0) (a1:p1.block<W.heap.size∧W.cell? p1=some v1) (hB:Below W.heap.size W w') :
  Below W.heap.size W w'∧w'.cell? p0=some v0∧w'.cell? p1=some v1 :=
 ⟨hB,(hB.cell a0.1).trans a0.2,(hB.cell a1.1).trans a1.2⟩
set_option maxHeartbeats 4000000 in
theorem leafs1_any (b o n cap k q r:Nat) (M:Nat→Mem) (i:Int) (w:World) (hk:k<n) (hn:n≤12) (ht:Tr M n) (hM:MemsAt w b o n M) (hqw:q<w.heap.size) (hrw:r<w.heap.size) (hq:w.cell? ⟨q,2,none⟩=some (.slice (some ⟨b,o,none⟩) n cap)) (hr:w.cell? ⟨r,0,none⟩=some (.int .i64 i)) :
  Calls Tryz.prog 173 #[.int .i64 k,.pointer (some ⟨q,0,none⟩),.pointer (some ⟨r,0,none⟩)] w fun e w'=>e=.returned (.bool (leafIn M n i k))∧Below w.heap.size w w':=by
 have HH:Hid (∀ w',Below w.heap.size w w'→Below w.heap.size w w'∧w'.cell? ⟨q,2,none⟩=some (.slice (some ⟨b,o,none⟩) n cap)∧w'.cell? ⟨r,0,none⟩=some (.int .i64 i)):=fun w' hw'=>held2 ⟨hqw,hq⟩ ⟨hrw,hr⟩ hw'
 have HL:Hid (∀ w',Below w.heap.size w w'→Calls Tryz.prog 138 #[.slice (some ⟨b,o,none⟩) n cap,.int .i64 k] w' fun e w''=>e=.returned (.bool (leafB M n k))∧Below w'.heap.size w' w''):=fun w' hw'=>isleaf_any b o n cap k M w' hn hk (hM.later hw')
 have hln:(pathOf M k).length≤12:=by have:=pathOf_len ht n k (by omega) (by omega);omega
 have HP:Hid (∀ w',Below w.heap.size w w'→Calls Tryz.prog 174 #[.slice (some ⟨b,o,none⟩) n cap,.int .i64 k] w' fun e w''=>(∃ A c,e=.returned (.slice A (pathOf M k).length c)∧IntsAt w'' A c (pathOf M k))∧Below w'.heap.size w' w''):=fun w' hw'=>path_any b o n cap k M w' hn hk ht (hM.later hw')
 have HC:Hid (∀ A c w',IntsAt w' A c (pathOf M k)→Calls Tryz.prog 95 #[.slice A (pathOf M k).length c,.int .i64 i] w' fun e w''=>e=.returned (.bool (inB (pathOf M k) i))∧Below w'.heap.size w' w''):=fun A c w' h=>contains_ints A c (pathOf M k) i w' hln h
 unfold leafIn
 generalize pathOf M k=L at hln HP HC
 clear hM ht
 cases hl:leafB M n k
 ·rw [hl] at HL
  go_enter Tryz.func173,Tryz.ntmps173
  go_wp2_with fail
  first | (go_region_with (go_at_call 138;refine (HL.out _ (by go_grown)).mono ?_;rintro e w4 ⟨rfl,hb4⟩;have hN4:=onB (W0:=w) (by go_grown) hb4;obtain ⟨-,x1,x2⟩:=HH.out _ hN4;clear hb4)) | fail
  all_goals go_wp2_with fail
  all_goals go_ret
  all_goals exact ⟨rfl,by go_grown⟩
 ·rw [hl] at HL
  go_enter Tryz.func173,Tryz.ntmps173
  go_wp2_with fail
  go_region_held3 (fun w'=>Below w.heap.size w w'∧w'.cell? ⟨q,2,none⟩=some (.slice (some ⟨b,o,none⟩) n cap)∧w'.cell? ⟨r,0,none⟩=some (.int .i64 i))
   ((refine HH.out _ ?_;go_grown;done))
   ((first
    | (go_at_call 138;refine (HL.out _ (by go_grown)).mono ?_;rintro e w4 ⟨rfl,hb4⟩;have hN4:=onB (W0:=w) (by go_grown) hb4;clear hb4)
    | (go_at_call 174;refine (HP.out _ (by go_grown)).mono ?_;rintro e w5 ⟨⟨Ap,cp,rfl,hI⟩,hb5⟩;have hN5:=onB (W0:=w) (by go_grown) hb5;clear hb5)
    | (go_at_call 95;refine (HC.out _ _ _ (by assumption)).mono ?_;rintro e w6 ⟨rfl,hb6⟩;have hN6:=onB (W0:=w) (by go_grown) hb6;clear hb6)))
  all_goals go_wp2_with fail
  all_goals go_ret
  all_goals exact ⟨rfl,by assumption⟩
set_option maxHeartbeats 2000000 in
theorem leafs_any (d:Dm) (A:Option Addr) (cap:Nat) (i:Int) (w:World) (hM:MemsV w A cap d.n d.mem):Calls Tryz.prog 136 #[dimV d A cap,.int .i64 i] w fun e w'=>(∃ A' c',e=.returned (.tuple #[.slice A' (lst (treeErr d [i]) (leafsOf d.mem d.n i)).length c',errV (treeErr d [i])])∧IntsAt w' A' c' (lst (treeErr d [i]) (leafsOf d.mem d.n i)))∧Below w.heap.size w w':=by
 have hB0:=ownQ_below w d A cap i 63 3
 have hck:=tcheck_any d A cap _ 1 [i] (ownQ w d A cap i 63 3) (hM.later hB0) (by simp) (ownQ_ints ..)
 have HB0:Hid (Below w.heap.size w (ownQ w d A cap i 63 3)):=hB0
 have HM:Hid (MemsV w A cap d.n d.mem):=hM
 unfold dimV at hck ⊢
 simp only [List.length_singleton] at hck
 clear hM hB0
 by_cases he:treeErr d [i]=0
 ·obtain ⟨hd,k,rfl,hk⟩:=treeErr_in he
  rw [he,errV_zero] at hck
  obtain ⟨-,-,hd2,-⟩:=dimErr_right hd
  have ht:Tr d.mem d.n:=Tr.of hd
  have HR:Hid (lst (treeErr d [(k:Int)]) (leafsOf d.mem d.n k)=selTo (leafIn d.mem d.n k) d.n):=lst_ok he _
  have HE:Hid (errV (treeErr d [(k:Int)])=.nilIface):=by show _=_;rw [he];rfl
  have HT:Hid (Tr d.mem d.n):=ht
  clear he hd ht
  go_enter Tryz.func136,Tryz.ntmps136
  go_wp2_with fail
  refine hck.mono ?_
  rintro e w1 ⟨rfl,hb1⟩
  have hB:Below w.heap.size w w1:=onB HB0.out hb1
  have hz:w.heap.size+1<w1.heap.size:=by have:=hb1.size;rw [ownQ_size] at this;omega
  have hz0:w.heap.size<w1.heap.size:=by omega
  have h2:w1.cell? ⟨w.heap.size,2,none⟩=some (.slice A d.n cap):=(hb1.cell (p:=⟨w.heap.size,2,none⟩) (by show w.heap.size<_;rw [ownQ_size];omega)).trans (ownQ_dim ..)
  have h3:w1.cell? ⟨w.heap.size+1,0,none⟩=some (.int .i64 k):=(hb1.cell (p:=⟨w.heap.size+1,0,none⟩) (by show w.heap.size+1<_;rw [ownQ_size];omega)).trans (ownQ_int ..)
  obtain ⟨hcap,h0 | ⟨b,o,rfl,hMs⟩⟩:=HM.out.later hB
  ·omega
  have hpl:=places_any 173 w.heap.size (w.heap.size+1) leafs1_in (some ⟨b,o,none⟩) d.n cap (leafIn d.mem d.n k) w1 hd2 (fun j w' hj hw'=>leafs1_any b o d.n cap j w.heap.size (w.heap.size+1) d.mem k w' hj hd2 HT.out (hMs.later hw') (Nat.lt_of_lt_of_le hz0 hw'.size) (Nat.lt_of_lt_of_le hz hw'.size) ((hw'.cell (p:=⟨w.heap.size,2,none⟩) hz0).trans h2) ((hw'.cell (p:=⟨w.heap.size+1,0,none⟩) hz).trans h3))
  have HB:Hid (Below w.heap.size w w1):=hB
  clear hb1 hck hMs h3 hB
  go_wp2_with fail
  refine hpl.mono ?_
  rintro e w2 ⟨⟨A',c',rfl,hI⟩,hb2⟩
  go_wp2_with fail
  go_ret2
  rw [HR.out,HE.out]
  exact ⟨⟨A',c',rfl,hI⟩,onB HB.out hb2⟩
 ·have HR:Hid (lst (treeErr d [i]) (leafsOf d.mem d.n i)=[]):=lst_bad he _
  have HE:Hid (errV (treeErr d [i])=.iface 86 (.int .i64 (treeErr d [i]))):=errV_some he
  rw [errV_some he] at hck
  clear he
  generalize treeErr d [i]=c at hck HR HE
  go_enter Tryz.func136,Tryz.ntmps136
  go_wp2_with fail
  refine hck.mono ?_
  rintro e w1 ⟨rfl,hb1⟩
  go_wp2_with fail
  go_ret2
  rw [HR.out,HE.out]
  exact ⟨⟨none,0,rfl,IntsAt.nil _ _ _⟩,onB HB0.out hb1⟩
set_option maxHeartbeats 2000000 in
theorem fm1_any (q1 q2 q3 q4 g c:Nat) (L:List (Int×Int)) (x m s:Nat) (k:Int) (y:Nat) (w:World) (hLc:L.length≤c) (hc:c≤9223372036854775807) (hx:x<L.length) (hy:(x:Int)+(k-(m:Int))*(s:Int)=y) (hyL:y<L.length) (hk:0≤k∧k≤12) (hm:m≤12)
  (c1:w.cell? ⟨q1,0,none⟩=some (.slice (some ⟨g,0,none⟩) L.length c)) (c2:w.cell? ⟨q2,0,none⟩=some (.int .i64 x)) (c3:w.cell? ⟨q3,0,none⟩=some (.int .i64 m)) (c4:w.cell? ⟨q4,0,none⟩=some (.int .i64 s)) (hB:CelB w g L) :
  Calls Tryz.prog 148 #[.int .i64 k,.pointer (some ⟨q1,0,none⟩),.pointer (some ⟨q2,0,none⟩),.pointer (some ⟨q3,0,none⟩),.pointer (some ⟨q4,0,none⟩)] w fun e w'=>e=.returned (.agg #[.int .i64 (L.getD y noC).1,.int .i64 (L.getD y noC).2])∧Below w.heap.size w w':=by
 have hmul1:(k-(m:Int))*(s:Int)=(y:Int)-(x:Int):=by omega
 have hw1:IntKind.i64.wrap (k-(m:Int))=k-(m:Int):=IntWalk.i64_in _ (by omega)
 have hw2:IntKind.i64.wrap ((k-(m:Int))*(s:Int))=(y:Int)-(x:Int):=by rw [hmul1];exact IntWalk.i64_in _ (by omega)
 have hw3:IntKind.i64.wrap ((x:Int)+((y:Int)-(x:Int)))=y:=by rw [show (x:Int)+((y:Int)-(x:Int))=y by omega];exact IntWalk.i64_in _ (by omega)
 obtain ⟨y1,y2⟩:=hB.at hyL
 have hgl:=hB.lt
 have z1:=World.block_lt_of_cell? _ _ c1
 have z2:=World.block_lt_of_cell? _ _ c2
 have z3:=World.block_lt_of_cell? _ _ c3
 have z4:=World.block_lt_of_cell? _ _ c4
 have d1:(w.alloc (.cells #[.int .i64 0,.int .i64 0] 40)).cell? ⟨q1,0,none⟩=some (.slice (some ⟨g,0,none⟩) L.length c):=by rw [World.cell?_alloc_lt _ _ ⟨q1,0,none⟩ z1];exact c1
 have hyl:(y:Int)<(L.length:Int):=by omega
 generalize (L.getD y noC).1=a at y1
 generalize (L.getD y noC).2=b at y2
 generalize L.length=N at c1 d1 hLc hyl
 clear hB hx hyL hy hmul1
 go_enter Tryz.func148,Tryz.ntmps148
 go_wp2_with fail
 refine bodyPost_ret (v:=.agg #[.int .i64 a,.int .i64 b]) (by simp [results,Tryz.results148,go_sem]) rfl ⟨rfl,by go_grown⟩
def AskC (q1 q2 q3 q4:Nat) (w:World) (P:List Int) (at':Int→Int×Int):Prop := ∀ k,k∈P→∀ (w':World),Below w.heap.size w w'→Calls Tryz.prog 148 #[.int .i64 k,.pointer (some ⟨q1,0,none⟩),.pointer (some ⟨q2,0,none⟩),.pointer (some ⟨q3,0,none⟩),.pointer (some ⟨q4,0,none⟩)] w' fun e w''=>e=.returned (.agg #[.int .i64 (at' k).1,.int .i64 (at' k).2])∧Below w'.heap.size w' w''
def togW (w:World) (d:Dm) (A:Option Addr) (c:Nat):World:=((ownDim w d A c 63).alloc (.cells #[.int .i64 0,.int .i64 0] 40)).alloc (.cells #[.int .i64 0,.int .i64 0] 40)
theorem togW_size (w:World) (d:Dm) (A:Option Addr) (c:Nat):(togW w d A c).heap.size=w.heap.size+3:=by unfold togW;simp [ownDim_size]
theorem togW_below (w:World) (d:Dm) (A:Option Addr) (c:Nat):Below w.heap.size w (togW w d A c):=by unfold togW ownDim;go_grown
theorem togW_d (w:World) (d:Dm) (A:Option Addr) (c:Nat):(togW w d A c).cell? ⟨w.heap.size,2,none⟩=some (.slice A d.n c):=by
 unfold togW
 rw [World.cell?_alloc_lt _ _ ⟨w.heap.size,2,none⟩ (by simp [ownDim_size] <;> omega),World.cell?_alloc_lt _ _ ⟨w.heap.size,2,none⟩ (by simp [ownDim_size])]
 exact (ownDim_at ..).2.2
theorem togW_1 (w:World) (d:Dm) (A:Option Addr) (c:Nat):(togW w d A c).heap[w.heap.size+1]?=some (.cells #[.int .i64 0,.int .i64 0] 40):=by
 unfold togW
 rw [Below.heap_alloc _ _ _ (by simp [ownDim_size])]
 have h:=heap_alloc_new (ownDim w d A c 63) (.cells #[.int .i64 0,.int .i64 0] 40)
 rw [ownDim_size] at h
 exact h
theorem togW_2 (w:World) (d:Dm) (A:Option Addr) (c:Nat):(togW w d A c).heap[w.heap.size+2]?=some (.cells #[.int .i64 0,.int .i64 0] 40):=by
 have h:=heap_alloc_new ((ownDim w d A c 63).alloc (.cells #[.int .i64 0,.int .i64 0] 40)) (.cells #[.int .i64 0,.int .i64 0] 40)
 rw [show ((ownDim w d A c 63).alloc (.cells #[.int .i64 0,.int .i64 0] 40)).heap.size=w.heap.size+2 by simp [ownDim_size]] at h
 exact h
set_option maxHeartbeats 8000000 in
theorem tog_any (q1 q2 q3 q4 bm om c:Nat) (d:Dm) (AP:Option Addr) (cP:Nat) (P:List Int) (at':Int→Int×Int) (w:World) (hd12:d.n≤12) (hP12:P.length≤12) (hIn:∀ k∈P,∃ j:Nat,k=j∧j<d.n) (hSg:Sg d.mem d.n) (hG:∀ k∈P,goodC (at' k)) (hMm:MemsAt w bm om d.n d.mem) (hP:IntsAt w AP cP P) (hA:AskC q1 q2 q3 q4 w P at') :
  Calls Tryz.prog 147 #[dimV d (some ⟨bm,om,none⟩) c,.slice AP P.length cP,.func (.func 148) #[] #[.pointer (some ⟨q1,0,none⟩),.pointer (some ⟨q2,0,none⟩),.pointer (some ⟨q3,0,none⟩),.pointer (some ⟨q4,0,none⟩)]] w fun e w'=>e=.returned (.tuple #[.agg #[.int .i64 (partsV d.mem at' P).1,.int .i64 (partsV d.mem at' P).2],.nilIface])∧Below w.heap.size w w':=by
 have HIn:Hid (∀ k∈P,∃ j:Nat,k=j∧j<d.n):=hIn
 have HSg:Hid (Sg d.mem d.n):=hSg
 have HG:Hid (∀ k∈P,goodC (at' k)):=hG
 have HMm:Hid (MemsAt w bm om d.n d.mem):=hMm
 have HP:Hid (IntsAt w AP cP P):=hP
 have HA:Hid (AskC q1 q2 q3 q4 w P at'):=hA
 have HB0:Hid (Below w.heap.size w (togW w d (some ⟨bm,om,none⟩) c)):=togW_below ..
 have HW0:Hid ((togW w d (some ⟨bm,om,none⟩) c).cell? ⟨w.heap.size,2,none⟩=some (.slice (some ⟨bm,om,none⟩) d.n c)∧(togW w d (some ⟨bm,om,none⟩) c).heap[w.heap.size+1]?=some (.cells #[.int .i64 0,.int .i64 0] 40)∧(togW w d (some ⟨bm,om,none⟩) c).heap.size=w.heap.size+3):=⟨togW_d ..,togW_1 ..,togW_size ..⟩
 have HFin:Hid ((P.take P.length).foldl (partStep d.mem at') (0,0)=partsV d.mem at' P):=by show _=_;rw [List.take_length];rfl
 obtain ⟨N,hN⟩:∃ N,P.length=N:=⟨_,rfl⟩
 have HN:Hid (P.length=N):=hN
 rw [hN] at HFin hP12 ⊢
 generalize partsV d.mem at' P=V at HFin
 have hN':(N:Int)≤12:=by omega
 have hd12':(d.n:Int)≤12:=by omega
 unfold dimV
 clear hIn hSg hG hMm hP hA hN
 go_enter Tryz.func147,Tryz.ntmps147
 go_wp2_with fail
 go_loopg [9,15] N (fun g s9 s15 wr => ∃ (k:Nat) (a b:Int),k≤N∧g=N-k∧s15=.int .i64 k∧s9=.nilIface∧Hid ((P.take k).foldl (partStep d.mem at') (0,0)=(a,b))∧Hid (wr.heap[w.heap.size+2]?=some (.cells #[.int .i64 a,.int .i64 b] 40))∧Hid ((togW w d (some ⟨bm,om,none⟩) c).grownBy wr (some (w.heap.size+2))))
 case atStart=>exact ⟨0,0,0,Nat.zero_le _,rfl,rfl,rfl,(rfl:(P.take 0).foldl (partStep d.mem at') (0,0)=(0,0)),togW_2 w d (some ⟨bm,om,none⟩) c,(grown_refl _ _:(togW w d (some ⟨bm,om,none⟩) c).grownBy (togW w d (some ⟨bm,om,none⟩) c) (some (w.heap.size+2)))⟩
 case round =>
  obtain ⟨k,a,b,hk,rfl,rfl,rfl,HF,HC,HGr⟩:=hrel
  have hB:Below w.heap.size w wr:=HB0.out.grown HGr.out (by rw [HW0.out.2.2];omega) (fun j hj=>by cases hj;omega)
  have HBw:Hid (Below w.heap.size w wr):=hB
  have hzr:w.heap.size+2<wr.heap.size:=by have:=HGr.out.size;rw [HW0.out.2.2] at this;omega
  by_cases hlt:k<N
  ·have hkP:k<P.length:=by rw [HN.out];exact hlt
   have hki:(k:Int)<(N:Int):=by omega
   obtain ⟨hcP,h0 | ⟨bp,rfl,hbp,hcell⟩⟩:=HP.out.later hB
   ·have:=HN.out;rw [h0] at this;simp at this;omega
   rw [HN.out] at hcP
   have cP1:=hcell k hkP
   have hmem:P.getD k 0∈P:=by rw [List.getD_eq_getElem?_getD,List.getElem?_eq_getElem hkP];exact List.getElem_mem hkP
   obtain ⟨j,hj,hjn⟩:=HIn.out _ hmem
   have hgd:=HG.out _ hmem
   have HAt:Hid (∀ w',Below wr.heap.size wr w'→_):=fun w' hw'=>HA.out _ hmem w' (onB HBw.out hw')
   have HSt:=take_part (M:=d.mem) (at':=at') hkP
   rw [HF.out] at HSt
   rw [hj] at HAt HSt hgd cP1
   have hgab:goodC (a,b):=by rw [←HF.out];exact good_fold _ _ _ _ good_zero
   unfold partStep at HSt
   rw [show ((j:Int)).toNat=j by omega] at HSt
   simp only at HSt
   obtain ⟨-,-,m2,-⟩:=(HMm.out.later hB).2 j hjn
   have hsg:=HSg.out j hjn
   have cD:wr.cell? ⟨w.heap.size,2,none⟩=some (.slice (some ⟨bm,om,none⟩) d.n c):=(World.cell?_of_block (a:=⟨w.heap.size,2,none⟩) (HGr.out.block w.heap.size (by rw [HW0.out.2.2];omega) (fun e=>by simp at e))).trans HW0.out.1
   obtain ⟨s0,s1,f0,f1⟩:=pair_at HC.out
   have hji:(j:Int)<(d.n:Int):=by omega
   have hADD:=fun w'=>add_yes a b (at' (j:Int)).1 (at' (j:Int)).2 hgab hgd w'
   have hSUB:=fun w'=>sub_yes a b (at' (j:Int)).1 (at' (j:Int)).2 hgab hgd w'
   generalize (at' (j:Int)).1=x at HAt HSt hADD hSUB
   generalize (at' (j:Int)).2=y at HAt HSt hADD hSUB
   generalize (d.mem j).sign=sg at m2 HSt hsg
   have HKeep:Hid (∀ w',Below wr.heap.size wr w'→w'.cell? ⟨w.heap.size+2,0,none⟩=some (.int .i64 a)∧w'.cell? ⟨w.heap.size+2,1,none⟩=some (.int .i64 b)∧w'.frozen? ⟨w.heap.size+2,0,none⟩=false∧w'.frozen? ⟨w.heap.size+2,1,none⟩=false):=fun w' hw'=>pair_at ((hw'.block _ hzr).trans HC.out)
   clear hB hj hgd hgab hmem hcell
   by_cases hs1:sg=1
   ·subst hs1
    rw [if_pos rfl] at HSt
    obtain ⟨r1,hr1⟩:∃ r,plusP a b x y=r:=⟨_,rfl⟩
    obtain ⟨rk,rn⟩:=r1
    rw [hr1] at HSt hADD
    simp only at hADD
    have HNx:Hid ((P.take (k+1)).foldl (partStep d.mem at') (0,0)=(rk,rn)):=HSt
    have HADD:Hid (∀ w',Calls Tryz.prog 184 #[.agg #[.int .i64 a,.int .i64 b],.agg #[.int .i64 x,.int .i64 y]] w' fun e w''=>e=.returned (.tuple #[.agg #[.int .i64 rk,.int .i64 rn],.nilIface])∧Below w'.heap.size w' w''):=hADD
    clear hADD hSUB HSt hr1 hsg
    go_wp2_with fail
    go_region_law ((first
     | (go_simp;refine (HAt.out _ (by go_grown)).mono ?_;rintro e w3 ⟨rfl,hb3⟩;have hN3:=onB (W0:=wr) (by go_grown) hb3;obtain ⟨l0,l1,l2,l3⟩:=HKeep.out _ hN3;clear hb3)
     | (go_simp;refine (HADD.out _).mono ?_;rintro e w4 ⟨rfl,hb4⟩;have hN4:=onB (W0:=wr) (by go_grown) hb4;obtain ⟨n0,n1,n2,n3⟩:=HKeep.out _ hN4;have HN4:Hid (Below wr.heap.size wr _):=hN4;clear hb4)))
    all_goals clear hN3 hN4
    all_goals go_wp2_with fail
    all_goals go_roundg (N-(k+1))
    all_goals first
     | omega
     | exact ⟨k+1,rk,rn,by omega,rfl,by go_num,rfl,HNx,pair_set ((HN4.out.block _ hzr).trans HC.out),pair_grown (grown_then HGr.out HN4.out)⟩
     | exact ⟨k+1,rk,rn,by omega,rfl,by go_num,rfl,HNx,pair_set ((HN4.out.block _ hzr).trans HC.out),grown_drew (pair_grown (grown_then HGr.out HN4.out))⟩
   by_cases hs2:sg = -1
   ·subst hs2
    rw [if_neg (by decide),if_pos rfl] at HSt
    obtain ⟨r1,hr1⟩:∃ r,minusP a b x y=r:=⟨_,rfl⟩
    obtain ⟨rk,rn⟩:=r1
    rw [hr1] at HSt hSUB
    simp only at hSUB
    have HNx:Hid ((P.take (k+1)).foldl (partStep d.mem at') (0,0)=(rk,rn)):=HSt
    have HSUB:Hid (∀ w',Calls Tryz.prog 185 #[.agg #[.int .i64 a,.int .i64 b],.agg #[.int .i64 x,.int .i64 y]] w' fun e w''=>e=.returned (.tuple #[.agg #[.int .i64 rk,.int .i64 rn],.nilIface])∧Below w'.heap.size w' w''):=hSUB
    clear hADD hSUB HSt hr1 hsg hs1
    go_wp2_with fail
    go_region_law ((first
     | (go_simp;refine (HAt.out _ (by go_grown)).mono ?_;rintro e w3 ⟨rfl,hb3⟩;have hN3:=onB (W0:=wr) (by go_grown) hb3;obtain ⟨l0,l1,l2,l3⟩:=HKeep.out _ hN3;clear hb3)
     | (go_simp;refine (HSUB.out _).mono ?_;rintro e w4 ⟨rfl,hb4⟩;have hN4:=onB (W0:=wr) (by go_grown) hb4;obtain ⟨n0,n1,n2,n3⟩:=HKeep.out _ hN4;have HN4:Hid (Below wr.heap.size wr _):=hN4;clear hb4)))
    all_goals clear hN3 hN4
    all_goals go_wp2_with fail
    all_goals go_roundg (N-(k+1))
    all_goals first
     | omega
     | exact ⟨k+1,rk,rn,by omega,rfl,by go_num,rfl,HNx,pair_set ((HN4.out.block _ hzr).trans HC.out),pair_grown (grown_then HGr.out HN4.out)⟩
     | exact ⟨k+1,rk,rn,by omega,rfl,by go_num,rfl,HNx,pair_set ((HN4.out.block _ hzr).trans HC.out),grown_drew (pair_grown (grown_then HGr.out HN4.out))⟩
   ·have hs0:sg=0:=by omega
    subst hs0
    rw [if_neg (by decide),if_neg (by decide)] at HSt
    have HNx:Hid ((P.take (k+1)).foldl (partStep d.mem at') (0,0)=(a,b)):=HSt
    clear hADD hSUB HSt hsg hs1 hs2
    go_wp2_with fail
    go_roundg (N-(k+1))
    case measure=>omega
    case rel=>exact ⟨k+1,a,b,by omega,rfl,by go_num,rfl,HNx,HC,HGr⟩
  ·have hke:k=N:=by omega
   subst hke
   have HV:Hid (V=(a,b)):=by show _=_;rw [←HFin.out];exact HF.out
   obtain ⟨s0,s1,f0,f1⟩:=pair_at HC.out
   have k1:wr.heap[w.heap.size+1]?=some (.cells #[.int .i64 0,.int .i64 0] 40):=(HGr.out.block (w.heap.size+1) (by rw [HW0.out.2.2];omega) (fun e=>by simp at e)).trans HW0.out.2.1
   obtain ⟨e0,e1,g0,g1⟩:=pair_at k1
   clear hB k1
   go_wp2_with fail
   refine bodyPost_ret (v:=.tuple #[.agg #[.int .i64 a,.int .i64 b],.nilIface]) (by simp [results,Tryz.results147,go_sem,e0,e1]) rfl ⟨by rw [HV.out],?_⟩
   exact (HBw.out.setCell (by show w.heap.size≤w.heap.size+1;omega) _).setCell (by show w.heap.size≤w.heap.size+1;omega) _
def BoxD (w:World) (q:Nat) (d:Dm) (A:Option Addr) (c:Nat):Prop:=q<w.heap.size∧w.cell? ⟨q,0,none⟩=some (.string d.name)∧w.cell? ⟨q,1,none⟩=some (.int .i64 d.solve)∧w.cell? ⟨q,2,none⟩=some (.slice A d.n c)
theorem top1 (w:World) (o o':Obj):((w.alloc o).alloc o').heap[w.heap.size+1]?=some o':=by
 have h:=heap_alloc_new (w.alloc o) o'
 rw [show (w.alloc o).heap.size=w.heap.size+1 by simp] at h
 exact h
theorem top0 (w:World) (o o':Obj):((w.alloc o).alloc o').heap[w.heap.size]?=some o:=by
 rw [Below.heap_alloc _ _ _ (by simp)]
 exact heap_alloc_new w o
theorem heap_drewn (w:World) (i:Nat):w.drew.heap[i]?=w.heap[i]?:=rfl
theorem new_after {w w':World} (o:Obj) (hs:w'.heap.size=w.heap.size):(w'.alloc o).heap[w.heap.size]?=some o:=by
 rw [←hs]
 exact heap_alloc_new w' o
theorem set3_at {w:World} {q T:Nat} {x y z:Value} (a b c:Value) (h:w.heap[q]?=some (.cells #[x,y,z] T)):(((w.setCell ⟨q,0,none⟩ a).setCell ⟨q,1,none⟩ b).setCell ⟨q,2,none⟩ c).heap[q]?=some (.cells #[a,b,c] T):=by
 simp [World.setCell,Array.getElem?_modify,h]
theorem set1_at {w:World} {q T:Nat} {x:Value} (a:Value) (h:w.heap[q]?=some (.cells #[x] T)):(w.setCell ⟨q,0,none⟩ a).heap[q]?=some (.cells #[a] T):=by
 simp [World.setCell,Array.getElem?_modify,h]
theorem set3_off {w:World} {q p:Nat} (a b c:Value) (h:p≠q):(((w.setCell ⟨q,0,none⟩ a).setCell ⟨q,1,none⟩ b).setCell ⟨q,2,none⟩ c).heap[p]?=w.heap[p]? :=
 (Below.heap_setCell _ ⟨q,2,none⟩ c p h).trans ((Below.heap_setCell _ ⟨q,1,none⟩ b p h).trans (Below.heap_setCell _ ⟨q,0,none⟩ a p h))
theorem BoxD.of {w:World} {q:Nat} {d:Dm} {A:Option Addr} {c T:Nat} {fr:Nat×Nat} (h:w.heap[q]?=some (.cells #[.string d.name,.int .i64 d.solve,.slice A d.n c] T fr)):BoxD w q d A c :=
 ⟨(Array.getElem?_eq_some_iff.1 h).1,by simp [World.cell?,h],by simp [World.cell?,h],by simp [World.cell?,h]⟩
theorem BoxN.of {w:World} {q:Nat} {v:Value} {T:Nat} {fr:Nat×Nat} (h:w.heap[q]?=some (.cells #[v] T fr)):BoxN w q v :=
 ⟨(Array.getElem?_eq_some_iff.1 h).1,by simp [World.cell?,h]⟩
theorem BoxD.same {w w':World} {q:Nat} {d:Dm} {A:Option Addr} {c:Nat} (h:BoxD w q d A c) (hz:w.heap.size≤w'.heap.size) (hb:w'.heap[q]?=w.heap[q]?):BoxD w' q d A c :=
 ⟨Nat.lt_of_lt_of_le h.1 hz,(World.cell?_of_block (a:=⟨q,0,none⟩) hb).trans h.2.1,(World.cell?_of_block (a:=⟨q,1,none⟩) hb).trans h.2.2.1,(World.cell?_of_block (a:=⟨q,2,none⟩) hb).trans h.2.2.2⟩
theorem BoxD.later {w w':World} {q:Nat} {d:Dm} {A:Option Addr} {c:Nat} (h:BoxD w q d A c) (hB:Below w.heap.size w w'):BoxD w' q d A c:=h.same hB.size (hB.block q h.1)
theorem BoxN.made (w:World) (v:Value) (T:Nat):BoxN (w.alloc (.cells #[v] T)) w.heap.size v:=⟨by simp,by simp⟩
def fmW (w:World) (A0:Option Addr) (n cap g N c m:Nat):World:=((w.alloc (.cells #[.slice A0 n cap] 30)).alloc (.cells #[.slice (some ⟨g,0,none⟩) N c] 53)).alloc (.cells #[.int .i64 m] 3)
theorem fmW_size (w:World) (A0:Option Addr) (n cap g N c m:Nat):(fmW w A0 n cap g N c m).heap.size=w.heap.size+3:=by unfold fmW;simp
theorem fmW_below (w:World) (A0:Option Addr) (n cap g N c m:Nat):Below w.heap.size w (fmW w A0 n cap g N c m):=by unfold fmW;go_grown
theorem fmW_o (w:World) (A0:Option Addr) (n cap g N c m:Nat):BoxN (fmW w A0 n cap g N c m) w.heap.size (.slice A0 n cap):=by
 unfold fmW
 exact ((BoxN.made w _ _).later (by go_grown)).later (by go_grown)
theorem fmW_c (w:World) (A0:Option Addr) (n cap g N c m:Nat):BoxN (fmW w A0 n cap g N c m) (w.heap.size+1) (.slice (some ⟨g,0,none⟩) N c):=by
 unfold fmW
 have:=BoxN.made (w.alloc (.cells #[.slice A0 n cap] 30)) (.slice (some ⟨g,0,none⟩) N c) 53
 rw [show (w.alloc (.cells #[.slice A0 n cap] 30)).heap.size=w.heap.size+1 by simp] at this
 exact this.later (by go_grown)
theorem fmW_m (w:World) (A0:Option Addr) (n cap g N c m:Nat):BoxN (fmW w A0 n cap g N c m) (w.heap.size+2) (.int .i64 m):=by
 unfold fmW
 have:=BoxN.made ((w.alloc (.cells #[.slice A0 n cap] 30)).alloc (.cells #[.slice (some ⟨g,0,none⟩) N c] 53)) (.int .i64 m) 3
 rw [show ((w.alloc (.cells #[.slice A0 n cap] 30)).alloc (.cells #[.slice (some ⟨g,0,none⟩) N c] 53)).heap.size=w.heap.size+2 by simp] at this
 exact this
theorem keepF {W w':World} {q b o:Nat} {u v0 v1 v2:Value} (h:(q<W.heap.size∧b<W.heap.size)∧W.cell? ⟨q,0,none⟩=some u∧W.cell? ⟨b,o,none⟩=some v0∧W.cell? ⟨b,o+1,none⟩=some v1∧W.cell? ⟨b,o+2,none⟩=some v2) (hB:Below W.heap.size W w'):Below W.heap.size W w'∧w'.cell? ⟨q,0,none⟩=some u∧w'.cell? ⟨b,o,none⟩=some v0∧w'.cell? ⟨b,o+1,none⟩=some v1∧w'.cell? ⟨b,o+2,none⟩=some v2:=by
 obtain ⟨⟨h1,h2⟩,c0,c1,c2,c3⟩:=h
 exact ⟨hB,(hB.cell (p:=⟨q,0,none⟩) h1).trans c0,(hB.cell (p:=⟨b,o,none⟩) h2).trans c1,(hB.cell (p:=⟨b,o+1,none⟩) h2).trans c2,(hB.cell (p:=⟨b,o+2,none⟩) h2).trans c3⟩
theorem ints_other {w w':World} {b g c:Nat} {X:List Int} (h:IntsAt w (some ⟨b,0,none⟩) c X) (hne:b≠g) (hG:w.grownBy w' (some g)):IntsAt w' (some ⟨b,0,none⟩) c X:=by
 obtain ⟨h1,h2 | ⟨b',h2,h3,h4⟩⟩:=h
 ·exact ⟨h1,Or.inl h2⟩
 ·cases h2
  exact ⟨h1,Or.inr ⟨b,rfl,Nat.lt_of_lt_of_le h3 hG.size,fun j hj=>(World.cell?_of_block (a:=⟨b,j,none⟩) (hG.block b h3 fun e=>hne (by simpa using e))).trans (h4 j hj)⟩⟩
theorem boxd_other {w w':World} {q g:Nat} {d:Dm} {A:Option Addr} {c:Nat} (h:BoxD w q d A c) (hne:q≠g) (hG:w.grownBy w' (some g)):BoxD w' q d A c:=h.same hG.size (hG.block q h.1 fun e=>hne (by simpa using e))
theorem pass_hit {D:Nat→Dm} {n dim m x:Nat} {L:List (Int×Int)} (h:x / stepD D n dim % (D dim).n=m):passTo D n dim m L (x+1)=(passTo D n dim m L x).set x (partsV (D dim).mem (atP D n dim m x (passTo D n dim m L x)) (partsOf (D dim).mem (D dim).n m)):=by rw [passTo,if_pos h]
theorem pass_miss {D:Nat→Dm} {n dim m x:Nat} {L:List (Int×Int)} (h : ¬ x / stepD D n dim % (D dim).n=m):passTo D n dim m L (x+1)=passTo D n dim m L x:=by rw [passTo,if_neg h]
set_option maxHeartbeats 16000000 in
theorem fmem_any (b o cap n dim m g c:Nat) (D:Nat→Dm) (A:Nat→Option Addr) (C:Nat→Nat) (L:List (Int×Int)) (w0 w:World) (hR:(allErr D n).2.2=0) (hdim:dim<n) (hcap:n≤cap) (hm:m<(D dim).n) (hLN:L.length=prodN D n) (hLc:L.length≤c) (hc:c≤9223372036854775807) (hgood:goodL L) (hM:DimsAt w0 b o n D A C) (hB0:Below w0.heap.size w0 w) (hg0:w0.heap.size≤g) (hL:CelB w g L) :
  Calls Tryz.prog 97 #[.agg #[.slice (some ⟨b,o,none⟩) n cap],.slice (some ⟨g,0,none⟩) L.length c,.int .i64 dim,.int .i64 m] w fun e w'=>e=.returned .nilIface∧CelB w' g (mbrV D n dim m L)∧w.grownBy w' (some g):=by
 obtain ⟨hn1,hn4,hp3,hd⟩:=allErr_some hR
 have hdk:=(allErr_right hR).2 dim hdim
 obtain ⟨hd1,hd12⟩:=hd dim hdim
 have hgz:=hL.lt
 have HR:Hid ((allErr D n).2.2=0):=hR
 have HM:Hid (DimsAt w0 b o n D A C):=hM
 have HBz:Hid (Below w0.heap.size w0 w):=hB0
 have HL:Hid (CelB w g L):=hL
 have HGd:Hid (goodL L):=hgood
 have HD:Hid (∀ j,j<n→1≤(D j).n∧(D j).n≤12):=hd
 obtain ⟨N,hN⟩:∃ N,L.length=N:=⟨_,rfl⟩
 have HN:Hid (L.length=N):=hN
 have HLN:Hid (L.length=prodN D n):=hLN
 have hN3:N≤3000:=by omega
 have hN3':(N:Int)≤3000:=by omega
 rw [hN] at hLc ⊢
 have hdi:(dim:Int)<(n:Int):=by omega
 have hn':(n:Int)≤4:=by omega
 have hBW:=fmW_below w (some ⟨b,o,none⟩) n cap g N c m
 obtain ⟨W,hW⟩:∃ W,fmW w (some ⟨b,o,none⟩) n cap g N c m=W:=⟨_,rfl⟩
 have HWz:Hid (W.heap.size=w.heap.size+3):=by show _=_;rw [←hW];exact fmW_size ..
 have HWo:Hid (BoxN W w.heap.size (.slice (some ⟨b,o,none⟩) n cap)):=by rw [←hW];exact fmW_o ..
 have HWc:Hid (BoxN W (w.heap.size+1) (.slice (some ⟨g,0,none⟩) N c)):=by rw [←hW];exact fmW_c ..
 have HWm:Hid (BoxN W (w.heap.size+2) (.int .i64 m)):=by rw [←hW];exact fmW_m ..
 rw [hW] at hBW
 unfold fmW at hW
 have HBW:Hid (Below w.heap.size w W):=hBW
 have HMW:Hid (DimsAt W b o n D A C):=HM.out.later (onB HBz.out hBW)
 obtain ⟨d0,d1,d2,-⟩:=HMW.out.2 dim hdim
 have HFo:Hid ((w.heap.size<W.heap.size∧b<W.heap.size)∧W.cell? ⟨w.heap.size,0,none⟩=some (.slice (some ⟨b,o,none⟩) n cap)∧W.cell? ⟨b,o+dim*3,none⟩=some (.string (D dim).name)∧W.cell? ⟨b,o+dim*3+1,none⟩=some (.int .i64 (D dim).solve)∧W.cell? ⟨b,o+dim*3+2,none⟩=some (.slice (A dim) (D dim).n (C dim))):=⟨⟨HWo.out.1,HMW.out.1⟩,HWo.out.2,d0,d1,d2⟩
 have HSt:Hid (∀ w',Below W.heap.size W w'→Calls Tryz.prog 145 #[.agg #[.slice (some ⟨b,o,none⟩) n cap],.int .i64 dim] w' fun e w''=>e=.returned (.int .i64 (stepD D n dim))∧Below w'.heap.size w' w''):=fun w' hw'=>step_any b o cap n dim D A C w' hdim hn4 hcap HD.out (HMW.out.later hw')
 obtain ⟨S,hS⟩:∃ S,stepD D n dim=S:=⟨_,rfl⟩
 have HS:Hid (stepD D n dim=S):=hS
 rw [hS] at HSt
 obtain ⟨dd,hdd⟩:∃ d,D dim=d:=⟨_,rfl⟩
 obtain ⟨AA,hAA⟩:∃ d,A dim=d:=⟨_,rfl⟩
 obtain ⟨CC,hCC⟩:∃ d,C dim=d:=⟨_,rfl⟩
 have HDD:Hid (D dim=dd∧A dim=AA∧C dim=CC):=⟨hdd,hAA,hCC⟩
 rw [hdd] at hdk hd1 hd12 hm
 rw [hdd,hAA,hCC] at HFo
 have c0:=HFo.out.2.1
 clear hR hM hB0 hL hgood hd hN hLN hBW hS hdd hAA hCC d0 d1 d2
 go_enter Tryz.func97,Tryz.ntmps97
 go_wp2_with fail
 clear hW
 go_cut [9,10] (fun s9 s10 wx => ∃ bd ba,s9=.pointer (some ⟨bd,0,none⟩)∧s10=.pointer (some ⟨ba,0,none⟩)∧W.heap.size≤bd∧W.heap.size≤ba∧BoxD wx bd dd AA CC∧BoxN wx ba (.int .i64 S)∧Below W.heap.size W wx)
 case first=>as_aux_lemma =>
  go_region_held3 (fun w'=>Below W.heap.size W w'∧w'.cell? ⟨w.heap.size,0,none⟩=some (.slice (some ⟨b,o,none⟩) n cap)∧w'.cell? ⟨b,o+dim*3,none⟩=some (.string dd.name)∧w'.cell? ⟨b,o+dim*3+1,none⟩=some (.int .i64 dd.solve)∧w'.cell? ⟨b,o+dim*3+2,none⟩=some (.slice AA dd.n CC))
   ((refine keepF HFo.out ?_;go_grown;done))
   (first | (go_at_call 145;refine (HSt.out _ (by go_grown)).mono ?_;rintro e w3 ⟨rfl,hb3⟩;have hM3:=onB (W0:=W) (by go_grown) hb3;obtain ⟨hc3,hf3⟩:=bcell hb3;have hk3:=hb3.block;have hz3:=bsize hb3;(try simp [Nat.add_one_le_iff] at hz3);have hy3:=hM3.size;clear hb3))
  all_goals go_wp2_with fail
  all_goals go_meet
  all_goals (refine ⟨_,_,rfl,rfl,?_,?_,?_,?_,by go_grown⟩)
  all_goals first | omega | (simp;omega) | skip
  all_goals first | refine BoxD.of (T:=63) (fr:=(0,0)) ?_ | refine BoxN.of (T:=3) (fr:=(0,0)) ?_
  all_goals first | (rw [top1];done) | (rw [top0];done) | skip
  all_goals first
   | (rw [new_after (w:=w3) _ (by simp [World.setCell])];done)
   | (have e0:=hk3 W.heap.size (by simp);rw [heap_drewn,heap_alloc_new] at e0;rw [Below.heap_alloc _ _ _ (by simp [World.setCell];omega)];first | (rw [set3_at _ _ _ e0];done) | (rw [set1_at _ e0];done))
   | (have e0:=hk3 W.heap.size (by simp;omega);have e1:=hk3 (W.heap.size+1) (by simp);rw [heap_drewn] at e0 e1;rw [top0] at e0;rw [top1] at e1;first | (rw [Below.heap_setCell _ _ _ _ (by simp),set3_at _ _ _ e0];done) | (rw [Below.heap_setCell _ _ _ _ (by simp),set3_at _ _ _ e1];done) | (rw [set1_at _ ((set3_off _ _ _ (by omega)).trans e1)];done) | (rw [set1_at _ ((set3_off _ _ _ (by omega)).trans e0)];done))
   | (trace_state;sorry)
 case rest=>as_aux_lemma =>
 obtain ⟨bd,ba,rfl,rfl,hbd,hba,hBd,hBa,hb⟩:=hcut
 obtain ⟨w1,rfl⟩:∃ w1:World,w1=wc:=⟨_,rfl⟩
 have HB1:Hid (Below w.heap.size w w1):=onB HBW.out hb
 have hMV:MemsV w1 AA CC dd.n dd.mem:=by
  have:=((HM.out.later (onB HBz.out HB1.out)).2 dim hdim).2.2.2
  rw [HDD.out.1,HDD.out.2.1,HDD.out.2.2] at this
  exact this
 have hpa:=parts_new dd AA CC (m:Int) w1 hMV
 have hte:treeErr dd [(m:Int)]=0:=by rw [treeErr_one hdk,if_neg (by omega)]
 rw [lst_ok hte,hte,errV_zero] at hpa
 unfold dimV at hpa
 obtain ⟨z1,x0,x1,x2⟩:=hBd
 obtain ⟨z2,y0⟩:=hBa
 have HBd:Hid (BoxD w1 bd dd AA CC):=⟨z1,x0,x1,x2⟩
 have HBa:Hid (BoxN w1 ba (.int .i64 S)):=⟨z2,y0⟩
 have HBc:Hid (BoxN w1 (w.heap.size+1) (.slice (some ⟨g,0,none⟩) N c)):=HWc.out.later hb
 have HBm:Hid (BoxN w1 (w.heap.size+2) (.int .i64 m)):=HWm.out.later hb
 have ym:=HBm.out.2
 have HZ:Hid (w.heap.size+3≤w1.heap.size∧w.heap.size+3≤bd∧w.heap.size+3≤ba):=by
  have h1:=HWz.out
  have h2:=hb.size
  show _∧_∧_
  omega
 obtain ⟨P,hP⟩:∃ P,partsOf dd.mem dd.n (m:Int)=P:=⟨_,rfl⟩
 have HPe:Hid (partsOf dd.mem dd.n (m:Int)=P):=hP
 rw [hP] at hpa
 have hP12:P.length≤12:=by rw [←hP];exact Nat.le_trans (selTo_len _ _) hd12
 clear hb hMV hte c0 HSt HFo HWo HWc HWm HMW HBW hP
 go_wp2_with fail
 refine hpa.mono ?_
 rintro e w2 ⟨⟨AP,cP,rfl,hI,hNew⟩,hb2⟩
 have HB2:Hid (Below w1.heap.size w1 w2):=hb2
 have HI:Hid (IntsAt w2 AP cP P):=hI
 have HNew:Hid (∀ b o,AP=some ⟨b,o,none⟩→w1.heap.size≤b):=hNew
 obtain ⟨NP,hNP⟩:∃ NP,P.length=NP:=⟨_,rfl⟩
 have HNP:Hid (P.length=NP):=hNP
 rw [hNP] at hP12 ⊢
 have hNP':(NP:Int)≤12:=by omega
 clear hb2 hI hNew hpa hNP x0 x1 x2 y0 ym
 by_cases hP0:NP=0
 ·subst hP0
  have HR:Hid (mbrV D n dim m L=L):=by
   show _=_
   unfold mbrV
   rw [HDD.out.1,if_pos]
   rw [HPe.out]
   exact List.eq_nil_of_length_eq_zero HNP.out
  go_wp2_with fail
  first | (go_quiet (fail);go_wp2_with fail) | skip
  go_ret
  refine ⟨rfl,?_⟩
  rw [HR.out]
  first | exact ⟨HL.out.later (onB HB1.out HB2.out),grown_below (onB HB1.out HB2.out)⟩ | exact ⟨HL.out.later (below_drewN (onB HB1.out HB2.out) _),grown_below (below_drewN (onB HB1.out HB2.out) _)⟩
 have hNP0:((NP:Int) == 0)=false:=by simp;omega
 have HPne:Hid (P≠[]):=fun e=>by have:=HNP.out;rw [e] at this;simp at this;omega
 obtain ⟨bp,hbp⟩:∃ bp,AP=some ⟨bp,0,none⟩:=by
  obtain ⟨-,h0 | ⟨b',h0,-⟩⟩:=HI.out
  ·exact absurd h0 HPne.out
  ·exact ⟨b',h0⟩
 subst hbp
 have HBp:Hid (w1.heap.size≤bp):=HNew.out bp 0 rfl
 have HBd2:Hid (BoxD w2 bd dd AA CC):=HBd.out.later HB2.out
 have HBa2:Hid (BoxN w2 ba (.int .i64 S)):=HBa.out.later HB2.out
 have HBc2:Hid (BoxN w2 (w.heap.size+1) (.slice (some ⟨g,0,none⟩) N c)):=HBc.out.later HB2.out
 have HBm2:Hid (BoxN w2 (w.heap.size+2) (.int .i64 m)):=HBm.out.later HB2.out
 have HL2:Hid (CelB w2 g L):=HL.out.later (onB HB1.out HB2.out)
 have HBz2:Hid (Below w0.heap.size w0 w2):=onB HBz.out (onB HB1.out HB2.out)
 have HBw2:Hid (Below w.heap.size w w2):=onB HB1.out HB2.out
 have yc:=HBc2.out.2
 clear HBd HBa HBc HBm HNew
 go_wp2_with fail
 first | (go_quiet (fail);go_wp2_with fail) | skip
 clear yc
 go_loopg [40] N (fun gg s40 wr => ∃ (x:Nat),x≤N∧gg=N-x∧s40=.int .i64 x∧Hid (CelB wr g (passTo D n dim m L x))∧Hid (w2.grownBy wr (some g)))
 case atStart=>exact ⟨0,Nat.zero_le _,rfl,rfl,HL2,grown_refl w2 (some g)⟩
 case round =>
  obtain ⟨x,hx,rfl,rfl,HC,HG⟩:=hrel
  have hBz:Below w0.heap.size w0 wr:=HBz2.out.grown HG.out HBz2.out.size (fun j hj=>by cases hj;exact hg0)
  have HBzr:Hid (Below w0.heap.size w0 wr):=hBz
  have HPl:Hid ((passTo D n dim m L x).length=N):=by show _=_;rw [pass_len];exact HN.out
  by_cases hlt:x<N
  ·have hxi:(x:Int)<(N:Int):=by omega
   have hzz:=HZ.out
   have hzp:=HBp.out
   have HBdr:Hid (BoxD wr bd dd AA CC):=boxd_other HBd2.out (by omega) HG.out
   have HBar:Hid (BoxN wr ba (.int .i64 S)):=boxn_other HBa2.out (by omega) HG.out
   have HBcr:Hid (BoxN wr (w.heap.size+1) (.slice (some ⟨g,0,none⟩) N c)):=boxn_other HBc2.out (by omega) HG.out
   have HBmr:Hid (BoxN wr (w.heap.size+2) (.int .i64 m)):=boxn_other HBm2.out (by omega) HG.out
   have HIr:Hid (IntsAt wr (some ⟨bp,0,none⟩) cP P):=ints_other HI.out (by omega) HG.out
   have hMr:=((HM.out.later hBz).2 dim hdim).2.2.2
   rw [HDD.out.1,HDD.out.2.1,HDD.out.2.2] at hMr
   obtain ⟨hCC,h0 | ⟨bm,om,rfl,hMm⟩⟩:=hMr
   ·omega
   have HMm:Hid (MemsAt wr bm om dd.n dd.mem):=hMm
   have hSp:1≤S:=by rw [←HS.out];exact stepD_pos (fun i hi=>(HD.out i hi).1) hdim
   obtain ⟨Q,hQ⟩:∃ Q:Nat,x / S=Q:=⟨_,rfl⟩
   obtain ⟨R,hRr⟩:∃ R:Nat,Q % dd.n=R:=⟨_,rfl⟩
   have hqi:(x:Int) / (S:Int)=(Q:Int):=by rw [←hQ];exact (Int.natCast_ediv _ _).symm
   have hqt:(x:Int).tdiv (S:Int)=(Q:Int):=by rw [←hQ];rfl
   have hri:(Q:Int).tmod (dd.n:Int)=(R:Int):=by rw [←hRr];rfl
   have hQ3:Q≤3000:=by rw [←hQ];exact Nat.le_trans (Nat.div_le_self _ _) (by omega)
   have hR3:R<dd.n:=by rw [←hRr];exact Nat.mod_lt _ (by omega)
   have hQ3':(Q:Int)≤3000:=by omega
   have hR3':(R:Int)≤12:=by omega
   have hwQ:IntKind.i64.wrap (Q:Int)=(Q:Int):=IntWalk.i64_in _ (by omega)
   have hwR:IntKind.i64.wrap (R:Int)=(R:Int):=IntWalk.i64_in _ (by omega)
   have hS0:((S:Int) == 0)=false:=by simp;omega
   have hS0' : ¬ S=0:=by omega
   have hdn0:((dd.n:Int) == 0)=false:=by simp;omega
   have hdn0' : ¬ dd.n=0:=by omega
   have HDig:Hid (x / stepD D n dim % (D dim).n=R):=by show _=_;rw [HS.out,HDD.out.1,hQ,hRr]
   obtain ⟨y,hy⟩:∃ y,wr.alloc (.cells #[.int .i64 (x:Int)] 3)=y:=⟨_,rfl⟩
   have hBy:Below wr.heap.size wr y:=by rw [←hy];go_grown
   have HBy:Hid (Below wr.heap.size wr y):=hBy
   have HBx:Hid (BoxN y wr.heap.size (.int .i64 x)):=by rw [←hy];exact BoxN.made ..
   have hx0:=HBx.out.2
   obtain ⟨hx1,hx2,hx3,hx4⟩:=HBdr.out.later hBy
   have hx5:=(HBar.out.later hBy).2
   have hx6:=(HBmr.out.later hBy).2
   clear hBz hMm hQ hRr hBy hx1
   by_cases hRm:R=m
   ·have hne:((R:Int) != (m:Int))=false:=by simp [hRm]
    have HDm:Hid (x / stepD D n dim % (D dim).n=m):=by show _=_;rw [HDig.out];exact hRm
    obtain ⟨Lx,hLx⟩:∃ Lx,passTo D n dim m L x=Lx:=⟨_,rfl⟩
    have HLx:Hid (passTo D n dim m L x=Lx):=hLx
    have HCx:Hid (CelB y g Lx):=by rw [←hLx];exact HC.out.later HBy.out
    have hLxN:Lx.length=N:=by rw [←hLx];exact HPl.out
    have hLxg:goodL Lx:=by rw [←hLx];exact pass_good HGd.out x
    have HIn:Hid (∀ k∈P,∃ j:Nat,k=j∧j<dd.n):=fun k hk=>by
     rw [←HPe.out] at hk
     obtain ⟨j,h1,-,h3,-⟩:=part_behind (Tr.of hdk) hk
     exact ⟨j,h1,h3⟩
    have hAsk:∀ w',Below y.heap.size y w'→AskC (w.heap.size+1) wr.heap.size (w.heap.size+2) ba w' P (atP D n dim m x Lx):=fun w' hw' k hk w'' hw''=>by
     obtain ⟨j,rfl,hj⟩:=HIn.out k hk
     obtain ⟨yy,hyy,hylt,-,-⟩:=part_place (D:=D) (n:=n) (dim:=dim) (m:=m) (x:=x) (j:=j) (fun i hi=>(HD.out i hi).1) hdim (by have:=HN.out;have:=HLN.out;omega) HDm.out (by rw [HDD.out.1];exact hj)
     have hyL:yy<Lx.length:=by have:=HN.out;have:=HLN.out;omega
     have hBB:Below y.heap.size y w'':=onB hw' hw''
     have h:=fm1_any (w.heap.size+1) wr.heap.size (w.heap.size+2) ba g c Lx x m S (j:Int) yy w'' (by omega) hc (by omega) (by rw [←HS.out];exact hyy) hyL (by omega) (by omega) (by rw [hLxN];exact ((HBcr.out.later HBy.out).later hBB).2) (HBx.out.later hBB).2 ((HBmr.out.later HBy.out).later hBB).2 ((HBar.out.later HBy.out).later hBB).2 (HCx.out.later hBB)
     have e:atP D n dim m x Lx (j:Int)=Lx.getD yy noC:=by unfold atP cAt;rw [hyy];rfl
     rw [e]
     exact h
    have HTog:Hid (∀ w',Below y.heap.size y w'→Calls Tryz.prog 147 #[.agg #[.string dd.name,.int .i64 dd.solve,.slice (some ⟨bm,om,none⟩) dd.n CC],.slice (some ⟨bp,0,none⟩) NP cP,.func (.func 148) #[] #[.pointer (some ⟨w.heap.size+1,0,none⟩),.pointer (some ⟨wr.heap.size,0,none⟩),.pointer (some ⟨w.heap.size+2,0,none⟩),.pointer (some ⟨ba,0,none⟩)]] w' fun e w''=>e=.returned (.tuple #[.agg #[.int .i64 (partsV dd.mem (atP D n dim m x Lx) P).1,.int .i64 (partsV dd.mem (atP D n dim m x Lx) P).2],.nilIface])∧Below w'.heap.size w' w''):=fun w' hw'=>by
     have h:=tog_any (w.heap.size+1) wr.heap.size (w.heap.size+2) ba bm om CC dd (some ⟨bp,0,none⟩) cP P (atP D n dim m x Lx) w' hd12 (by rw [HNP.out];exact hP12) HIn.out (Sg.of hdk) (fun k _=>good_at hLxg _) (HMm.out.later (onB HBy.out hw')) (HIr.out.later (onB HBy.out hw')) (hAsk w' hw')
     rw [HNP.out] at h
     exact h
    have HNx:Hid (passTo D n dim m L (x+1)=Lx.set x (partsV dd.mem (atP D n dim m x Lx) P)):=by
     show _=_
     rw [pass_hit HDm.out,hLx,HDD.out.1,HPe.out]
    obtain ⟨⟨pk,pn⟩,hpv⟩:∃ v:Int×Int,partsV dd.mem (atP D n dim m x Lx) P=v:=⟨_,rfl⟩
    rw [hpv] at HTog HNx
    simp only at HTog
    have hyc:=(HBcr.out.later HBy.out).2
    have HBcy:Hid (BoxN y (w.heap.size+1) (.slice (some ⟨g,0,none⟩) N c)):=HBcr.out.later HBy.out
    have HLxN:Hid (Lx.length=N):=hLxN
    clear hAsk hLx hLxN hLxg hpv hRm
    go_wp2_with fail
    first | (go_quiet (fail);go_wp2_with fail) | skip
    refine (HTog.out _ (by first | exact Below.refl _ _ | exact below_drewN (Below.refl _ _) _)).mono ?_
    rintro e w5 ⟨rfl,hb5⟩
    have hB5:Below y.heap.size y w5:=onB (by first | exact Below.refl _ _ | exact below_drewN (Below.refl _ _) _) hb5
    obtain ⟨y5,hy5⟩:∃ y5,w5.alloc (.cells #[.int .i64 pk,.int .i64 pn] 40)=y5:=⟨_,rfl⟩
    have hBy5:Below w5.heap.size w5 y5:=by rw [←hy5];go_grown
    have hB55:Below y.heap.size y y5:=onB hB5 hBy5
    have HB55:Hid (Below y.heap.size y y5):=hB55
    obtain ⟨p0,p1,p2,p3⟩:=pair_at (show y5.heap[w5.heap.size]?=some (.cells #[.int .i64 pk,.int .i64 pn] 40 (0,0)) from by rw [←hy5];exact heap_alloc_new ..)
    have r1:=(HBcy.out.later hB55).2
    have r2:=(HBx.out.later hB55).2
    have hxL:x<Lx.length:=by rw [HLxN.out];exact hlt
    have HC5:Hid (CelB y5 g Lx):=HCx.out.later hB55
    obtain ⟨g1,g2⟩:=HC5.out.at hxL
    have g3:=HC5.out.frozen (x*2)
    have g4:=HC5.out.frozen (x*2+1)
    have HC6:Hid (CelB ((y5.setCell ⟨g,x*2,none⟩ (.int .i64 pk)).setCell ⟨g,x*2+1,none⟩ (.int .i64 pn)) g (passTo D n dim m L (x+1))):=by show CelB _ _ _;rw [HNx.out];exact HC5.out.set hxL pk pn
    have HG6:Hid (w2.grownBy ((y5.setCell ⟨g,x*2,none⟩ (.int .i64 pk)).setCell ⟨g,x*2+1,none⟩ (.int .i64 pn)) (some g)):=cel_grown (grown_then (grown_then HG.out HBy.out) hB55)
    clear hb5 hB5 hBy5 hB55 hxL HTog hx0 hx2 hx3 hx4 hx5 hx6 hyc
    go_wp2_with fail
    go_roundg (N-(x+1))
    case measure=>omega
    case rel=>exact ⟨x+1,by omega,rfl,by go_num,HC6,HG6⟩
   ·have hne:((R:Int) != (m:Int))=true:=by simp;omega
    have HNx:Hid (passTo D n dim m L (x+1)=passTo D n dim m L x):=pass_miss (by rw [HDig.out];exact hRm)
    have HG3:Hid (w2.grownBy y (some g)):=grown_then HG.out HBy.out
    have HC3:Hid (CelB y g (passTo D n dim m L (x+1))):=by show CelB _ _ _;rw [HNx.out];exact HC.out.later HBy.out
    clear hRm
    go_wp2_with fail
    first | (go_quiet (fail);go_wp2_with fail) | skip
    go_roundg (N-(x+1))
    case measure=>omega
    case rel=>first | exact ⟨x+1,by omega,rfl,by go_num,HC3,HG3⟩ | exact ⟨x+1,by omega,rfl,by go_num,HC3.out.later (below_drewN (Below.refl _ _) _),grown_then HG3.out (below_drewN (Below.refl _ _) _)⟩
  ·have hxe:x=N:=by omega
   subst hxe
   have HR:Hid (mbrV D n dim m L=passTo D n dim m L x):=by
    show _=_
    unfold mbrV
    rw [HDD.out.1,if_neg (by rw [HPe.out];exact HPne.out),HN.out]
   clear hBz
   go_wp2_with fail
   go_ret
   refine ⟨rfl,?_⟩
   rw [HR.out]
   exact ⟨HC.out,grown_trans (grown_below HBw2.out) HG.out⟩
def onceErr (D:Nat→Dm) (n:Nat) (L:List (Int×Int)) (dim:Int):Int:=if chkErr D n L≠0 then chkErr D n L else if dim<0∨(n:Int)≤dim then 1 else 0
def onceR (D:Nat→Dm) (n:Nat) (L:List (Int×Int)) (dim:Int):List (Int×Int):=if onceErr D n L dim=0 then onceV D n dim.toNat L else []
theorem on0 {D:Nat→Dm} {n:Nat} {L:List (Int×Int)} {dim:Int} (h:chkErr D n L≠0):onceErr D n L dim=chkErr D n L∧onceR D n L dim=[]:=by
 have h1:onceErr D n L dim=chkErr D n L:=by unfold onceErr;rw [if_pos h]
 exact ⟨h1,by unfold onceR;rw [h1,if_neg h]⟩
theorem on1 {D:Nat→Dm} {n:Nat} {L:List (Int×Int)} {dim:Int} (h:chkErr D n L=0) (h1:dim<0∨(n:Int)≤dim):onceErr D n L dim=1∧onceR D n L dim=[]:=by
 have h2:onceErr D n L dim=1:=by unfold onceErr;rw [if_neg (by simpa using h),if_pos h1]
 exact ⟨h2,by unfold onceR;rw [h2,if_neg (by decide)]⟩
theorem on2 {D:Nat→Dm} {n:Nat} {L:List (Int×Int)} {dim:Nat} (h:chkErr D n L=0) (h1:dim<n):onceErr D n L dim=0∧onceR D n L dim=onceV D n dim L:=by
 have h2:onceErr D n L dim=0:=by unfold onceErr;rw [if_neg (by simpa using h),if_neg (by omega)]
 exact ⟨h2,by unfold onceR;rw [h2,if_pos rfl];rfl⟩
theorem once_next {D:Nat→Dm} {n dim:Nat} {L:List (Int×Int)} (r:Nat):onceTo D n dim L (r+1)=mbrV D n dim ((D dim).n-1-r) (onceTo D n dim L r):=rfl
set_option maxHeartbeats 8000000 in
theorem fonce_any (A0:Option Addr) (cap n:Nat) (D:Nat→Dm) (A:Nat→Option Addr) (C:Nat→Nat) (AC:Option Addr) (cc:Nat) (L:List (Int×Int)) (dim:Int) (w:World) (hM:DimsV w A0 cap n D A C) (hL:CelV w AC cc L) :
  Calls Tryz.prog 52 #[.agg #[.slice A0 n cap],.slice AC L.length cc,.int .i64 dim] w fun e w'=>(∃ A' c',e=.returned (.tuple #[.slice A' (onceR D n L dim).length c',errV (onceErr D n L dim)])∧CelV w' A' c' (onceR D n L dim))∧Below w.heap.size w w':=by
 have hB0:=ownOut_below w A0 n cap 30
 have h:=fcheck_any A0 cap n D A C AC cc L (ownOut w A0 n cap 30) (hM.later hB0) (hL.later hB0)
 have HB0:Hid (Below w.heap.size w (ownOut w A0 n cap 30)):=hB0
 have HLv:Hid (CelV w AC cc L):=hL
 have HM:Hid (DimsV w A0 cap n D A C):=hM
 clear hM hL hB0
 by_cases he:chkErr D n L=0
 ·obtain ⟨hR,hLN,hgood⟩:=chk_right he
  obtain ⟨hn1,hn4,hp3,hd⟩:=allErr_some hR
  have HE:Hid (chkErr D n L=0):=he
  have HR:Hid ((allErr D n).2.2=0):=hR
  have HGd:Hid (goodL L):=hgood
  have HLN:Hid (L.length=prodN D n):=hLN
  have HD:Hid (∀ j,j<n→1≤(D j).n∧(D j).n≤12):=hd
  have hL0:0<L.length:=by rw [hLN];exact prodN_pos fun j hj=>(hd j hj).1
  have hL3:L.length≤3000:=by omega
  rw [he,errV_zero] at h
  obtain ⟨N,hN⟩:∃ N,L.length=N:=⟨_,rfl⟩
  have HN:Hid (L.length=N):=hN
  rw [hN] at h hL0 hL3 ⊢
  have hn':(n:Int)≤4:=by omega
  clear he hR hgood hLN hd hN
  by_cases hdm:dim<0∨(n:Int)≤dim
  ·have HO:Hid (onceErr D n L dim=1∧onceR D n L dim=[]):=on1 HE.out hdm
   by_cases hd0:dim<0
   ·have hdd:decide (dim<0)=true:=decide_eq_true hd0
    clear hdm
    go_enter Tryz.func52,Tryz.ntmps52
    go_wp2_with fail
    refine h.mono ?_
    rintro e w1 ⟨rfl,hb1⟩
    have HB:Hid (Below w.heap.size w w1):=onB HB0.out hb1
    clear hb1 h
    go_wp2_with fail
    first | (go_quiet (fail);go_wp2_with fail) | skip
    go_ret2
    rw [HO.out.1,HO.out.2]
    exact ⟨⟨none,0,rfl,CelV.nil _ _ _ (by decide)⟩,by first | exact HB.out | exact below_drewN HB.out _⟩
   ·have hdd:decide (dim<0)=false:=decide_eq_false hd0
    have hdn:decide ((n:Int)≤dim)=true:=decide_eq_true (by omega)
    have hb0:w.heap.size<(ownOut w A0 n cap 30).heap.size:=by rw [ownOut_size];omega
    have hbo:=ownOut_at w A0 n cap 30
    have HBo:Hid (w.heap.size<(ownOut w A0 n cap 30).heap.size∧(ownOut w A0 n cap 30).cell? ⟨w.heap.size,0,none⟩=some (.slice A0 n cap)):=⟨hb0,hbo⟩
    clear hdm hb0 hbo
    go_enter Tryz.func52,Tryz.ntmps52
    go_wp2_with fail
    refine h.mono ?_
    rintro e w1 ⟨rfl,hb1⟩
    have HB:Hid (Below w.heap.size w w1):=onB HB0.out hb1
    have c1:=(hb1.cell (p:=⟨w.heap.size,0,none⟩) HBo.out.1).trans HBo.out.2
    clear hb1 h
    go_wp2_with fail
    first | (go_quiet (fail);go_wp2_with fail) | skip
    go_ret2
    rw [HO.out.1,HO.out.2]
    exact ⟨⟨none,0,rfl,CelV.nil _ _ _ (by decide)⟩,by first | exact HB.out | exact below_drewN HB.out _⟩
  ·obtain ⟨dm,rfl⟩:∃ dm:Nat,dim=dm:=⟨dim.toNat,by omega⟩
   have hdmn:dm<n:=by omega
   have HO:Hid (onceErr D n L (dm:Int)=0∧onceR D n L (dm:Int)=onceV D n dm L):=on2 HE.out hdmn
   have hdd:decide ((dm:Int)<0)=false:=decide_eq_false (by omega)
   have hdn:decide ((n:Int)≤(dm:Int))=false:=decide_eq_false (by omega)
   have hdi:(dm:Int)<(n:Int):=by omega
   have HBo:Hid (w.heap.size<(ownOut w A0 n cap 30).heap.size∧(ownOut w A0 n cap 30).cell? ⟨w.heap.size,0,none⟩=some (.slice A0 n cap)):=⟨by rw [ownOut_size];omega,ownOut_at ..⟩
   obtain ⟨hk1,hk2⟩:=HD.out dm hdmn
   clear hdm
   go_enter Tryz.func52,Tryz.ntmps52
   go_wp2_with fail
   refine h.mono ?_
   rintro e w1 ⟨rfl,hb1⟩
   have hB:Below w.heap.size w w1:=onB HB0.out hb1
   have HB:Hid (Below w.heap.size w w1):=hB
   have HBox:Hid (BoxN w1 w.heap.size (.slice A0 n cap)):=⟨Nat.lt_of_lt_of_le HBo.out.1 hb1.size,(hb1.cell (p:=⟨w.heap.size,0,none⟩) HBo.out.1).trans HBo.out.2⟩
   have c1:=HBox.out.2
   obtain ⟨hcap,h0 | ⟨b,o,rfl,hMs⟩⟩:=HM.out.later hB
   ·omega
   have HMs:Hid (DimsAt w1 b o n D A C):=hMs
   obtain ⟨hcc,hcc3,h0 | ⟨bc,oc,rfl,hCA⟩⟩:=HLv.out.later hB
   ·have:=HN.out;rw [h0] at this;simp at this;omega
   have hcl:=cclone_any bc oc cc L w1 (by rw [HN.out];exact hL0) (by rw [HN.out];exact hL3) hCA
   rw [HN.out] at hcl hcc
   clear hb1 h hMs hB hCA
   go_wp2_with fail
   first | (go_quiet (fail);go_wp2_with fail) | skip
   refine hcl.mono ?_
   rintro e w2 ⟨⟨g,c',rfl,hg,hc1,hc2,hCB⟩,hb2⟩
   have HB2:Hid (Below w1.heap.size w1 w2):=hb2
   have HCB:Hid (CelB w2 g L):=hCB
   have HBox2:Hid (BoxN w2 w.heap.size (.slice (some ⟨b,o,none⟩) n cap)):=HBox.out.later hb2
   have HMs2:Hid (DimsAt w2 b o n D A C):=HMs.out.later hb2
   obtain ⟨d0,d1,d2,-⟩:=HMs2.out.2 dm hdmn
   have c2:=HBox2.out.2
   have hwg:w.heap.size<g:=Nat.lt_of_lt_of_le HBox.out.1 hg
   have hbz:=HMs2.out.1
   have HLt:Hid (g<w2.heap.size):=hCB.lt
   obtain ⟨dn,hdn'⟩:∃ dn,(D dm).n=dn:=⟨_,rfl⟩
   have HDN:Hid ((D dm).n=dn):=hdn'
   rw [hdn'] at d2 hk1 hk2
   have hdn1:(1:Int)≤(dn:Int):=by omega
   have hdn2:(dn:Int)≤12:=by omega
   clear hcl hb2 hCB hdn' d0 d1 c1
   go_wp2_with fail
   clear d2 c2
   go_loopg [10] dn (fun gg s10 wr => ∃ (r:Nat),r≤dn∧gg=dn-r∧s10=.int .i64 ((dn:Int)-1-(r:Int))∧Hid (CelB wr g (onceTo D n dm L r))∧Hid (w2.grownBy wr (some g)))
   case atStart=>exact ⟨0,Nat.zero_le _,rfl,by simp,HCB,grown_refl w2 (some g)⟩
   case round =>
    obtain ⟨r,hr,rfl,rfl,HC,HG⟩:=hrel
    have hB1:Below w1.heap.size w1 wr:=HB2.out.grown HG.out HB2.out.size (fun j hj=>by cases hj;exact hg)
    have HB1:Hid (Below w1.heap.size w1 wr):=hB1
    have HBr:Hid (BoxN wr w.heap.size (.slice (some ⟨b,o,none⟩) n cap)):=boxn_other HBox2.out (by omega) HG.out
    have cr:=HBr.out.2
    by_cases hlt:r<dn
    ·obtain ⟨mm,hmm⟩:∃ mm:Nat,(dn:Int)-1-(r:Int)=mm:=⟨dn-1-r,by omega⟩
     have HMM:Hid (mm=(D dm).n-1-r):=by show _=_;rw [HDN.out];omega
     have HMm:Hid ((dn:Int)-1-(r:Int)=mm):=hmm
     have hf:=fmem_any b o cap n dm mm g c' D A C (onceTo D n dm L r) w1 wr HR.out hdmn hcap (by rw [HDN.out];omega) (by rw [once_len];exact HLN.out) (by rw [once_len,HN.out];exact hc1) hc2 (once_good HGd.out r) HMs.out hB1 hg HC.out
     rw [once_len,HN.out] at hf
     have hge:decide (0≤(mm:Int))=true:=decide_eq_true (by omega)
     have hm12:(mm:Int)≤12:=by omega
     have HNx:Hid (onceTo D n dm L (r+1)=mbrV D n dm mm (onceTo D n dm L r)):=by show _=_;rw [once_next,←HMM.out]
     rw [hmm]
     clear hB1 hmm
     go_wp2_with fail
     refine hf.mono ?_
     rintro e w3 ⟨rfl,hC3,hG3⟩
     have HC3:Hid (CelB w3 g (onceTo D n dm L (r+1))):=by show CelB _ _ _;rw [HNx.out];exact hC3
     have HG3:Hid (w2.grownBy w3 (some g)):=grown_trans HG.out hG3
     clear hC3 hG3 hf
     go_wp2_with fail
     go_roundg (dn-(r+1))
     case measure=>omega
     case rel=>exact ⟨r+1,by omega,rfl,by have:=HMm.out;congr 1;omega,HC3,HG3⟩
    ·have hre:r=dn:=by omega
     subst hre
     have hge:decide (0≤(r:Int)-1-(r:Int))=false:=decide_eq_false (by omega)
     have HV:Hid (onceV D n dm L=onceTo D n dm L r):=by show _=_;unfold onceV;rw [HDN.out]
     have HVL:Hid ((onceTo D n dm L r).length=N):=by show _=_;rw [once_len];exact HN.out
     clear hB1
     go_wp2_with fail
     go_ret2
     rw [HO.out.1,HO.out.2,HV.out,HVL.out]
     exact ⟨⟨_,c',rfl,by rw [HVL.out];exact hc1,hc2,Or.inr ⟨g,0,rfl,HC.out.celAt⟩⟩,onB HB.out HB1.out⟩
 ·obtain ⟨h1,h2⟩:=on0 (dim:=dim) he
  have HO:Hid (onceErr D n L dim=chkErr D n L∧onceR D n L dim=[]):=⟨h1,h2⟩
  have HE:Hid (errV (chkErr D n L)=.iface 86 (.int .i64 (chkErr D n L))):=errV_some he
  rw [errV_some he] at h
  clear h1 h2 he
  generalize chkErr D n L=ce at h HE HO
  generalize L.length=N at h
  go_enter Tryz.func52,Tryz.ntmps52
  go_wp2_with fail
  refine h.mono ?_
  rintro e w1 ⟨rfl,hb1⟩
  have HB:Hid (Below w.heap.size w w1):=onB HB0.out hb1
  clear hb1 h
  go_wp2_with fail
  go_ret2
  rw [HO.out.1,HO.out.2,HE.out]
  exact ⟨⟨none,0,rfl,CelV.nil _ _ _ (by decide)⟩,HB.out⟩
theorem wrs_good {D:Nat→Dm} {n:Nat}:∀ (l:List En) (L:List (Int×Int)),(∀ e∈l,numOk e.n=true)→goodL L→goodL (l.foldl (wrStep D n) L)
 | [],_,_,h=>h
 | e :: r,_,hl,h=>wrs_good r _ (fun x hx=>hl x (List.mem_cons_of_mem _ hx)) (goodL_set h _ (goodC_num (hl e (List.mem_cons_self ..))))
theorem wrV_good {D:Nat→Dm} {n:Nat} {l:List En} (h:Ens D n l):goodL (wrV D n l) :=
 wrs_good l _ (fun e he=>(h.each e he).2.2) (fun c hc=>by rw [List.eq_of_mem_replicate hc];exact good_zero)
def SlB (w:World) (g n k:Nat) (L:Nat→List Int):Prop := ∃ cur:Array Value,w.heap[g]?=some (.cells cur 22 (0,0))∧cur.size=n∧∀ j,j<n→∃ A l c,cur[j]?=some (.slice A l c)∧(j<k→l=(L j).length∧IntsAt w A c (L j))
section
variable {w w':World} {g n k:Nat} {L:Nat→List Int}
theorem SlB.lt (h:SlB w g n k L):g<w.heap.size:=by
 obtain ⟨cur,h1,_⟩:=h
 exact (Array.getElem?_eq_some_iff.1 h1).1
theorem SlB.at (h:SlB w g n k L) {j:Nat} (hj:j<n):∃ A l c,w.cell? ⟨g,j,none⟩=some (.slice A l c)∧(j<k→l=(L j).length∧IntsAt w A c (L j)):=by
 obtain ⟨cur,h1,h2,h3⟩:=h
 obtain ⟨A,l,c,h4,h5⟩:=h3 j hj
 exact ⟨A,l,c,by simp [World.cell?,h1,h4],h5⟩
theorem SlB.get (h:SlB w g n n L) {j:Nat} (hj:j<n):∃ A c,w.cell? ⟨g,j,none⟩=some (.slice A (L j).length c)∧IntsAt w A c (L j):=by
 obtain ⟨A,l,c,h1,h2⟩:=h.at hj
 obtain ⟨rfl,h3⟩:=h2 hj
 exact ⟨A,c,h1,h3⟩
theorem SlB.frozen (h:SlB w g n k L) (j:Nat):w.frozen? ⟨g,j,none⟩=false:=by
 obtain ⟨cur,h1,_⟩:=h
 exact Lib.frozen_of_heap h1 j
theorem SlB.later (h:SlB w g n k L) (hB:Below w.heap.size w w'):SlB w' g n k L:=by
 have hlt:=h.lt
 obtain ⟨cur,h1,h2,h3⟩:=h
 refine ⟨cur,(hB.block g hlt).trans h1,h2,fun j hj=>?_⟩
 obtain ⟨A,l,c,h4,h5⟩:=h3 j hj
 exact ⟨A,l,c,h4,fun hk=>⟨(h5 hk).1,(h5 hk).2.later hB⟩⟩
theorem IntsAt.off {A:Option Addr} {c:Nat} {X:List Int} {cur:Array Value} {T:Nat} (h:IntsAt w A c X) (hg:w.heap[g]?=some (.cells cur T (0,0))) (hs:∀ x y,cur[0]?=some (.int x y)→False) (hb:∀ i,i<w.heap.size→i≠g→w'.heap[i]?=w.heap[i]?) (hz:w.heap.size≤w'.heap.size):IntsAt w' A c X:=by
 obtain ⟨h1,h2 | ⟨b,h2,h3,h4⟩⟩:=h
 ·exact ⟨h1,Or.inl h2⟩
 ·by_cases h0:X.length=0
  ·exact ⟨h1,Or.inl (List.eq_nil_of_length_eq_zero h0)⟩
  ·have hne:b≠g:=fun e=>by
    have:=h4 0 (by omega)
    rw [e] at this
    simp only [World.cell?,hg] at this
    exact hs _ _ this
   exact ⟨h1,Or.inr ⟨b,h2,Nat.lt_of_lt_of_le h3 hz,fun j hj=>(World.cell?_of_block (a:=⟨b,j,none⟩) (hb b h3 hne)).trans (h4 j hj)⟩⟩
theorem SlB.set (h:SlB w g n k L) (hk:k<n) {A:Option Addr} {c:Nat} (hI:IntsAt w A c (L k)):SlB (w.setCell ⟨g,k,none⟩ (.slice A (L k).length c)) g n (k+1) L:=by
 obtain ⟨cur,h1,h2,h3⟩:=h
 have hs:∀ x y,cur[0]?=some (.int x y)→False:=fun x y e=>by
  obtain ⟨A,l,c,h4,-⟩:=h3 0 (by omega)
  rw [h4] at e
  cases e
 have hb:∀ i,i<w.heap.size→i≠g→(w.setCell ⟨g,k,none⟩ (.slice A (L k).length c)).heap[i]?=w.heap[i]?:=fun i _ hi=>Below.heap_setCell w ⟨g,k,none⟩ _ i hi
 have hz:w.heap.size≤(w.setCell ⟨g,k,none⟩ (.slice A (L k).length c)).heap.size:=by simp [World.setCell]
 refine ⟨cur.setIfInBounds k (.slice A (L k).length c),by simp [World.setCell,Array.getElem?_modify,h1],by simpa using h2,fun j hj=>?_⟩
 by_cases e:j=k
 ·subst e
  exact ⟨A,_,c,by simp [h2,hj],fun _=>⟨rfl,hI.off h1 hs hb hz⟩⟩
 ·obtain ⟨A',l,c',h4,h5⟩:=h3 j hj
  refine ⟨A',l,c',?_,fun hjk=>⟨(h5 (by omega)).1,(h5 (by omega)).2.off h1 hs hb hz⟩⟩
  rw [Array.getElem?_setIfInBounds_ne (fun h=>e h.symm)]
  exact h4
theorem SlB.made (w:World) (n:Nat) (L:Nat→List Int):SlB (w.alloc (.cells (madeCells #[.slice none 0 0] n) 22)) w.heap.size n 0 L:=by
 refine ⟨_,heap_alloc_new w _,by simp [madeCells],fun j hj=>⟨none,0,0,?_,fun h=>by cases h⟩⟩
 simp [madeCells,hj,Nat.mod_one]
end
theorem Tryz.infoSl:(Tryz.prog.info? 22).map (fun i=>(i.zero,i.size,i.bytes))=some (some (.slice none 0 0),1,24):=by kernel_rfl
def Four (W:World) (q b o:Nat) (v0 v1 v2 x:Value):Prop:=(q<W.heap.size∧b<W.heap.size)∧W.cell? ⟨q,0,none⟩=some v0∧W.cell? ⟨q,1,none⟩=some v1∧W.cell? ⟨q,2,none⟩=some v2∧W.cell? ⟨b,o,none⟩=some x
theorem keep4 {W w':World} {q b o:Nat} {v0 v1 v2 x:Value} (h:Four W q b o v0 v1 v2 x) (hB:Below W.heap.size W w'):Below W.heap.size W w'∧w'.cell? ⟨q,0,none⟩=some v0∧w'.cell? ⟨q,1,none⟩=some v1∧w'.cell? ⟨q,2,none⟩=some v2∧w'.cell? ⟨b,o,none⟩=some x:=by
 obtain ⟨⟨h1,h2⟩,c0,c1,c2,c3⟩:=h
 exact ⟨hB,(hB.cell (p:=⟨q,0,none⟩) h1).trans c0,(hB.cell (p:=⟨q,1,none⟩) h1).trans c1,(hB.cell (p:=⟨q,2,none⟩) h1).trans c2,(hB.cell (p:=⟨b,o,none⟩) h2).trans c3⟩
set_option maxHeartbeats 4000000 in
theorem rls_any (A0:Option Addr) (cap n:Nat) (D:Nat→Dm) (A:Nat→Option Addr) (C:Nat→Nat) (Ap:Option Addr) (cp:Nat) (p:List Int) (w:World) (hp:InO D n p) (hM:DimsV w A0 cap n D A C) (hP:PlAt w Ap cp p):Calls Tryz.prog 86 #[.agg #[.slice A0 n cap],.slice Ap p.length cp] w fun e w'=>(∃ g,e=.returned (.tuple #[.slice (some ⟨g,0,none⟩) n n,.nilIface])∧SlB w' g n n (lfs D p))∧Below w.heap.size w w':=by
 have hB0:=ownOut_below w A0 n cap 30
 have h:=pcheck_any A0 cap n D A C Ap cp p (ownOut w A0 n cap 30) (hM.later hB0) (hP.later hB0)
 have HB0:Hid (Below w.heap.size w (ownOut w A0 n cap 30)):=hB0
 have HM:Hid (DimsV w A0 cap n D A C):=hM
 have HI:Hid (InO D n p):=hp
 rw [hp.ok,errV_zero] at h
 obtain ⟨hn1,hn4,-,hd⟩:=allErr_some hp.right
 have HD:Hid (∀ i,i<n→(dimErr (D i)).2=0):=(allErr_right hp.right).2
 have hl:=hp.len
 obtain ⟨hcp,h0 | ⟨bp,op,rfl,hbp,hcell⟩⟩:=hP
 ·rw [h0] at hl;simp at hl;omega
 rw [hl] at h hcp
 rw [hl]
 have HC:Hid (∀ j,j<n→w.cell? ⟨bp,op+j,none⟩=some (.int .i64 (p.getD j 0))):=fun j hj=>hcell j (by omega)
 have hn':(n:Int)≤4:=by omega
 have hmk:=run_make_row' (P:=Tryz.prog) 91 22 (.slice none 0 0) 24 Tryz.underlying91 Tryz.infoSl rfl .i64 .i64 n (by omega) (by omega)
 clear hB0 hM hp hl hcell hd
 go_enter Tryz.func86,Tryz.ntmps86
 go_wp2_with fail
 refine h.mono ?_
 rintro e w1 ⟨rfl,hb1⟩
 have hB:Below w.heap.size w w1:=onB HB0.out hb1
 have hz:w.heap.size<w1.heap.size:=by have:=hb1.size;rw [ownOut_size] at this;omega
 have h2:w1.cell? ⟨w.heap.size,0,none⟩=some (.slice A0 n cap):=(hb1.cell (p:=⟨w.heap.size,0,none⟩) (by show w.heap.size<_;rw [ownOut_size];omega)).trans (ownOut_at ..)
 obtain ⟨hcap,h0 | ⟨b,o,rfl,hMs⟩⟩:=HM.out.later hB
 ·omega
 have HMs:Hid (DimsAt w1 b o n D A C):=hMs
 have HB:Hid (Below w.heap.size w w1):=hB
 have HC1:Hid (∀ j,j<n→w1.cell? ⟨bp,op+j,none⟩=some (.int .i64 (p.getD j 0))):=fun j hj=>(hB.cell (p:=⟨bp,op+j,none⟩) hbp).trans (HC.out j hj)
 have hbp1:bp<w1.heap.size:=Nat.lt_of_lt_of_le hbp hB.size
 clear hb1 h hMs hB
 go_wp2_with fail
 clear hmk
 go_loopg [25] n (fun g s25 wr => ∃ (k:Nat),k≤n∧g=n-k∧s25=.int .i64 k∧SlB wr w1.heap.size n k (lfs D p)∧Below w1.heap.size w1 wr)
 case atStart=>exact ⟨0,Nat.zero_le _,rfl,rfl,SlB.made w1 n _,by go_grown⟩
 case round =>
  obtain ⟨k,hk,rfl,rfl,hS,hBw⟩:=hrel
  have HBw:Hid (Below w1.heap.size w1 wr):=hBw
  have HS:Hid (SlB wr w1.heap.size n k (lfs D p)):=hS
  by_cases hlt:k<n
  ·have hki:(k:Int)<(n:Int):=by omega
   obtain ⟨d0,d1,d2,h4⟩:=(HMs.out.later hBw).2 k hlt
   have hdk:=HD.out k hlt
   have e1:=(hBw.cell (p:=⟨bp,op+k,none⟩) hbp1).trans (HC1.out k hlt)
   have hbq:bp<wr.heap.size:=Nat.lt_of_lt_of_le hbp1 hBw.size
   have hte:treeErr (D k) [p.getD k 0]=0:=by
    have:=HI.out.lo k hlt
    have:=HI.out.hi k hlt
    rw [treeErr_one hdk,if_neg (by omega)]
   have HLf:Hid (∀ w',Below wr.heap.size wr w'→Calls Tryz.prog 136 #[dimV (D k) (A k) (C k),.int .i64 (p.getD k 0)] w' fun e w''=>(∃ A' c',e=.returned (.tuple #[.slice A' (lfs D p k).length c',.nilIface])∧IntsAt w'' A' c' (lfs D p k))∧Below w'.heap.size w' w''):=fun w' hw'=>by
    have:=leafs_any (D k) (A k) (C k) (p.getD k 0) w' (h4.later hw')
    rw [hte,errV_zero] at this
    exact this
   unfold dimV at HLf
   have hBx:Below wr.heap.size wr (ownDim wr (D k) (A k) (C k) 63):=ownDim_below ..
   have hFo:Four (ownDim wr (D k) (A k) (C k) 63) wr.heap.size bp (op+k) (.string (D k).name) (.int .i64 (D k).solve) (.slice (A k) (D k).n (C k)) (.int .i64 (p.getD k 0)):=by
    obtain ⟨x0,x1,x2⟩:=ownDim_at wr (D k) (A k) (C k) 63
    exact ⟨⟨by rw [ownDim_size];omega,Nat.lt_of_lt_of_le hbq hBx.size⟩,x0,x1,x2,(hBx.cell (p:=⟨bp,op+k,none⟩) hbq).trans e1⟩
   obtain ⟨Wx,hWx⟩:∃ W,ownDim wr (D k) (A k) (C k) 63=W:=⟨_,rfl⟩
   rw [hWx] at hFo hBx
   unfold ownDim at hWx
   have HFo:Hid (Four Wx wr.heap.size bp (op+k) (.string (D k).name) (.int .i64 (D k).solve) (.slice (A k) (D k).n (C k)) (.int .i64 (p.getD k 0))):=hFo
   have HBx:Hid (Below wr.heap.size wr Wx):=hBx
   generalize p.getD k 0=x at HLf HFo e1
   generalize (D k).name=dn at HLf HFo d0 hWx
   generalize (D k).solve=ds at HLf HFo d1 hWx
   generalize A k=Ak at HLf HFo d2 hWx
   generalize C k=Ck at HLf HFo d2 hWx
   generalize (D k).n=dk at HLf HFo d2 hWx
   obtain ⟨X,hX⟩:∃ X,lfs D p k=X:=⟨_,rfl⟩
   have HX:Hid (lfs D p k=X):=hX
   rw [hX] at HLf
   clear hFo hBx hS hBw h4 hdk hte hX
   go_wp2_with fail
   clear hWx
   go_cut [10,11] (fun s10 s11 wx => ∃ A' c',s10=.slice A' X.length c'∧s11=.nilIface∧IntsAt wx A' c' X∧Below Wx.heap.size Wx wx)
   case first=>as_aux_lemma =>
    go_region_held3 (fun w'=>Below Wx.heap.size Wx w'∧w'.cell? ⟨wr.heap.size,0,none⟩=some (.string dn)∧w'.cell? ⟨wr.heap.size,1,none⟩=some (.int .i64 ds)∧w'.cell? ⟨wr.heap.size,2,none⟩=some (.slice Ak dk Ck)∧w'.cell? ⟨bp,op+k,none⟩=some (.int .i64 x))
     ((refine keep4 HFo.out ?_;go_grown;done))
     (first | (go_at_call 136;refine (HLf.out _ (onB HBx.out (by go_grown))).mono ?_;rintro e w3 ⟨⟨A',c',rfl,hI⟩,hb3⟩;have hN3:=onB (W0:=Wx) (by go_grown) hb3;have hy3:=hN3.size;clear hb3))
    all_goals go_wp2_with fail
    all_goals go_meet
    all_goals exact ⟨_,_,rfl,rfl,by first | assumption | (refine IntsAt.later (by assumption) ?_;go_grown),by go_grown⟩
   case rest=>as_aux_lemma =>
   obtain ⟨A',c',rfl,rfl,hI,hb⟩:=hcut
   obtain ⟨w2,rfl⟩:∃ w2:World,w2=wc:=⟨_,rfl⟩
   have hB2:Below wr.heap.size wr w2:=onB HBx.out hb
   have hS2:=HS.out.later hB2
   obtain ⟨A1,l1,c1,hc1,-⟩:=hS2.at hlt
   have hfr:=hS2.frozen k
   have HB2:Hid (Below w1.heap.size w1 w2):=onB HBw.out hB2
   have HS2:Hid (SlB w2 w1.heap.size n k (lfs D p)):=hS2
   have HI2:Hid (IntsAt w2 A' c' X):=hI
   clear hb hB2 hS2 hI HLf HFo d0 d1 d2 e1
   go_wp2_with fail
   go_roundg (n-(k+1))
   case measure=>omega
   case rel =>
    refine ⟨k+1,by omega,rfl,by go_num,?_,HB2.out.setCell (by show w1.heap.size≤w1.heap.size;omega) _⟩
    have:=HS2.out.set hlt (A:=A') (c:=c') (by rw [HX.out];exact HI2.out)
    rw [HX.out] at this
    exact this
  ·have hke:k=n:=by omega
   subst hke
   clear hBw hS
   go_wp2_with fail
   go_ret2
   exact ⟨⟨_,rfl,HS.out⟩,onB HB.out HBw.out⟩
theorem rls_bad (A0:Option Addr) (cap n:Nat) (D:Nat→Dm) (A:Nat→Option Addr) (C:Nat→Nat) (Ap:Option Addr) (cp:Nat) (p:List Int) (w:World) (hp:placeErr D n p≠0) (hM:DimsV w A0 cap n D A C) (hP:PlAt w Ap cp p):Calls Tryz.prog 86 #[.agg #[.slice A0 n cap],.slice Ap p.length cp] w fun e w'=>e=.returned (.tuple #[.slice none 0 0,.iface 86 (.int .i64 (placeErr D n p))])∧Below w.heap.size w w':=by
 have hB0:=ownOut_below w A0 n cap 30
 have h:=pcheck_any A0 cap n D A C Ap cp p (ownOut w A0 n cap 30) (hM.later hB0) (hP.later hB0)
 have HB0:Hid (Below w.heap.size w (ownOut w A0 n cap 30)):=hB0
 rw [errV_some hp] at h
 clear hB0 hM hP hp
 generalize placeErr D n p=c at h
 generalize p.length=m at h
 go_enter Tryz.func86,Tryz.ntmps86
 go_wp2_with fail
 refine h.mono ?_
 rintro e w1 ⟨rfl,hb1⟩
 go_wp2_with fail
 go_ret2
 exact ⟨rfl,onB HB0.out hb1⟩
def BolB (w:World) (g n:Nat) (f:Nat→Bool):Prop:=w.heap[g]?=some (.cells ((List.range n).map fun j=>Value.bool (f j)).toArray 4 (0,0))
theorem BolB.lt {w:World} {g n:Nat} {f:Nat→Bool} (h:BolB w g n f):g<w.heap.size:=(Array.getElem?_eq_some_iff.1 h).1
theorem BolB.cell {w:World} {g n:Nat} {f:Nat→Bool} (h:BolB w g n f) {j:Nat} (hj:j<n):w.cell? ⟨g,j,none⟩=some (.bool (f j)):=by
 rw [Lib.cell_of_heap h]
 simp [hj]
theorem BolB.frozen {w:World} {g n:Nat} {f:Nat→Bool} (h:BolB w g n f) (j:Nat):w.frozen? ⟨g,j,none⟩=false:=Lib.frozen_of_heap h j
theorem BolB.later {w w':World} {g n:Nat} {f:Nat→Bool} (h:BolB w g n f) (hB:Below w.heap.size w w'):BolB w' g n f:=(hB.block g h.lt).trans h
theorem BolB.set {w:World} {g n:Nat} {f f':Nat→Bool} (h:BolB w g n f) {m:Nat} (hf:∀ j,j<n→f' j=if j=m then true else f j):BolB (w.setCell ⟨g,m,none⟩ (.bool true)) g n f':=by
 unfold BolB at *
 simp only [World.setCell,Array.getElem?_modify,if_true,h,Option.map_some,Option.some.injEq,Obj.cells.injEq,and_true,Option.isSome_none,Bool.false_eq_true,if_false]
 apply Array.ext_getElem?
 intro j
 rw [Array.getElem?_setIfInBounds]
 by_cases hj:j<n
 ·by_cases e:m=j
  ·rw [if_pos e,if_pos (by simp;omega)]
   simp [hj,hf j hj,e]
  ·have e':j≠m:=fun x=>e x.symm
   rw [if_neg e]
   simp only [List.getElem?_toArray,List.getElem?_map,List.getElem?_range hj,Option.map_some,hf j hj,if_neg e']
 ·by_cases e:m=j
  ·rw [if_pos e,if_neg (by simp;omega),Array.getElem?_eq_none (by simp;omega)]
  ·rw [if_neg e,Array.getElem?_eq_none (by simp;omega),Array.getElem?_eq_none (by simp;omega)]
theorem BolB.made (w:World) (n:Nat):BolB (w.alloc (.cells (madeCells #[.bool false] n) 4)) w.heap.size n fun _=>false:=by
 unfold BolB
 have e:madeCells #[.bool false] n=((List.range n).map fun _=>Value.bool false).toArray:=by
  apply Array.ext
  ·simp [madeCells]
  ·intro i h1 h2
   simp [madeCells,Nat.mod_one]
 rw [e]
 exact heap_alloc_new w _
theorem below_set {B:Nat} {w0 w:World} {g j:Nat} {v:Value} (h:Below B w0 w) (hg:B≤g):Below B w0 (w.setCell ⟨g,j,none⟩ v):=by
 refine ⟨h.os,h.tape,h.output,by simpa [World.setCell] using h.size,fun k hk=>?_⟩
 rw [←h.block k hk]
 simp only [World.setCell,Array.getElem?_modify]
 rw [if_neg (by omega)]
theorem Tryz.infoBol:(Tryz.prog.info? 4).map (fun i=>(i.zero,i.size,i.bytes))=some (some (.bool false),1,1):=by kernel_rfl
theorem run_make_bols (n:Nat) (hn:n≤3000) (w:World):(Instr.makeSlice 93 (.int .i64 (n:Int)) (.int .i64 (n:Int))).run Tryz.prog w=.ok (.slice (some ⟨w.heap.size,0,none⟩) n n) (w.alloc (.cells (madeCells #[.bool false] n) 4)):=by
 obtain ⟨i0,hi0,hz0,hz1,hz2⟩:=info_parts Tryz.infoBol
 have hr:=run_make (P:=Tryz.prog) w 93 4 i0 _ Tryz.underlying93 hi0 hz0 .i64 .i64 n n (by omega) (Int.le_refl _) (by rw [hz2];omega) (by omega)
 simp only [Int.toNat_natCast,hz1,Nat.mul_one] at hr
 exact hr
end Go.Proofs.YtfngmnhkhfgmjahGreatDoor
