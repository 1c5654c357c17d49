/-
  What Parts, Path and Leaf of package tree answer: of a dim and a place the parts, the path, whether it is a leaf, or what is wrong.
-/
import Derived.Deep.RegionHeld3
import Derived.Test.YtinebmjpdkjooaaGreatDoorJZAG
namespace Go.Proofs.YtinebmjpdkjooaaGreatDoor
open Go.ChangeShapes Go.WideShapes Go.ChangeAt Go.RowKit
set_option maxRecDepth 20000
theorem parts1_in:EntersO 160:=fun args w=>by simp [callFunc,Tryz.func160];rfl
theorem parts1_any (b o n cap k q r:Nat) (M:Nat→Mem) (i:Int) (w:World) (hk:k<n) (hn:n≤12) (hM:MemsAt w b o n M) (hq:w.cell? ⟨q,2,none⟩=some (.slice (some ⟨b,o,none⟩) n cap)) (hr:w.cell? ⟨r,0,none⟩=some (.int .i64 i)) :
  Calls Tryz.prog 160 #[.int .i64 k,.pointer (some ⟨q,0,none⟩),.pointer (some ⟨r,0,none⟩)] w fun e w'=>e=.returned (.bool (partB M i k))∧Below w.heap.size w w':=by
 obtain ⟨-,h1,-,-⟩:=hM.2 k hk
 have hki:(k:Int)<(n:Int):=by omega
 have hn':(n:Int)≤12:=by omega
 unfold partB
 clear hM
 go_enter Tryz.func160,Tryz.ntmps160
 go_wp2_with fail
 go_quiet (fail)
 go_wp2_with fail
 go_ret
 exact ⟨by simp,below_drewN (Below.refl _ _) _⟩
def lst (c:Int) (L:List Int):List Int:=if c=0 then L else []
theorem lst_ok {c:Int} (h:c=0) (L:List Int):lst c L=L:=by simp [lst,h]
theorem lst_bad {c:Int} (h:c≠0) (L:List Int):lst c L=[]:=by simp [lst,h]
theorem treeErr_right {d:Dm} {L:List Int} (h:treeErr d L=0):(dimErr d).2=0:=by
 unfold treeErr at h
 split at h
 ·rename_i h1;exact absurd h h1
 ·rename_i h1;simpa using h1
theorem treeErr_in {d:Dm} {i:Int} (h:treeErr d [i]=0):(dimErr d).2=0∧∃ k:Nat,i=k∧k<d.n:=by
 have h0:=treeErr_right h
 rw [treeErr_one h0] at h
 by_cases h1:i<0∨(d.n:Int)≤i
 ·rw [if_pos h1] at h;cases h
 ·exact ⟨h0,i.toNat,by omega,by omega⟩
theorem ints_one {w:World} {i:Int} {T:Nat}:IntsAt (ownInt w i T) (some ⟨w.heap.size,0,none⟩) 1 [i]:=by
 refine ⟨Nat.le_refl _,Or.inr ⟨_,rfl,by rw [ownInt_size];omega,fun j hj=>?_⟩⟩
 have hj0:j=0:=by simp at hj;omega
 subst hj0
 exact ownInt_at w i T
def ownP (w:World) (d:Dm) (A:Option Addr) (cap:Nat) (i:Int) (T T':Nat):World:=ownInt (ownDim w d A cap T) i T'
theorem ownP_size (w:World) (d:Dm) (A:Option Addr) (cap:Nat) (i:Int) (T T':Nat):(ownP w d A cap i T T').heap.size=w.heap.size+2:=by unfold ownP;rw [ownInt_size,ownDim_size]
theorem ownP_below (w:World) (d:Dm) (A:Option Addr) (cap:Nat) (i:Int) (T T':Nat):Below w.heap.size w (ownP w d A cap i T T'):=onB (ownDim_below w d A cap T) (ownInt_below _ i T')
theorem ownP_dim (w:World) (d:Dm) (A:Option Addr) (cap:Nat) (i:Int) (T T':Nat):(ownP w d A cap i T T').cell? ⟨w.heap.size,2,none⟩=some (.slice A d.n cap) :=
 ((ownInt_below (ownDim w d A cap T) i T').cell (p:=⟨w.heap.size,2,none⟩) (by show w.heap.size<_;rw [ownDim_size];omega)).trans (ownDim_at w d A cap T).2.2
theorem ownP_int (w:World) (d:Dm) (A:Option Addr) (cap:Nat) (i:Int) (T T':Nat):(ownP w d A cap i T T').cell? ⟨w.heap.size+1,0,none⟩=some (.int .i64 i):=by
 unfold ownP
 rw [←ownDim_size w d A cap T]
 exact ownInt_at _ i T'
theorem ownP_ints (w:World) (d:Dm) (A:Option Addr) (cap:Nat) (i:Int) (T T':Nat):IntsAt (ownP w d A cap i T T') (some ⟨w.heap.size+1,0,none⟩) 1 [i]:=by
 unfold ownP
 rw [←ownDim_size w d A cap T]
 exact ints_one
def ownQ (w:World) (d:Dm) (A:Option Addr) (cap:Nat) (i:Int) (T T':Nat):World:=ownInt (ownP w d A cap i T T') i T'
theorem ownQ_size (w:World) (d:Dm) (A:Option Addr) (cap:Nat) (i:Int) (T T':Nat):(ownQ w d A cap i T T').heap.size=w.heap.size+3:=by unfold ownQ;rw [ownInt_size,ownP_size]
theorem ownQ_below (w:World) (d:Dm) (A:Option Addr) (cap:Nat) (i:Int) (T T':Nat):Below w.heap.size w (ownQ w d A cap i T T'):=onB (ownP_below w d A cap i T T') (ownInt_below _ i T')
theorem ownQ_dim (w:World) (d:Dm) (A:Option Addr) (cap:Nat) (i:Int) (T T':Nat):(ownQ w d A cap i T T').cell? ⟨w.heap.size,2,none⟩=some (.slice A d.n cap) :=
 ((ownInt_below (ownP w d A cap i T T') i T').cell (p:=⟨w.heap.size,2,none⟩) (by show w.heap.size<_;rw [ownP_size];omega)).trans (ownP_dim ..)
theorem ownQ_int (w:World) (d:Dm) (A:Option Addr) (cap:Nat) (i:Int) (T T':Nat):(ownQ w d A cap i T T').cell? ⟨w.heap.size+1,0,none⟩=some (.int .i64 i) :=
 ((ownInt_below (ownP w d A cap i T T') i T').cell (p:=⟨w.heap.size+1,0,none⟩) (by show w.heap.size+1<_;rw [ownP_size];omega)).trans (ownP_int ..)
theorem ownQ_ints (w:World) (d:Dm) (A:Option Addr) (cap:Nat) (i:Int) (T T':Nat):IntsAt (ownQ w d A cap i T T') (some ⟨w.heap.size+2,0,none⟩) 1 [i]:=by
 unfold ownQ
 rw [←ownP_size w d A cap i T T']
 exact ints_one
def lfOf (d:Dm) (i:Int):Bool:=decide (treeErr d [i]=0) && leafB d.mem d.n i.toNat
set_option maxHeartbeats 2000000 in
theorem tleaf_any (d:Dm) (A:Option Addr) (cap:Nat) (i:Int) (w:World) (hM:MemsV w A cap d.n d.mem):Calls Tryz.prog 93 #[dimV d A cap,.int .i64 i] w fun e w'=>e=.returned (.tuple #[.bool (lfOf d i),errV (treeErr d [i])])∧Below w.heap.size w w':=by
 have hB0:=ownP_below w d A cap i 43 3
 have hck:=tcheck_any d A cap _ 1 [i] (ownP w d A cap i 43 3) (hM.later hB0) (by simp) (ownP_ints ..)
 have HB0:Hid (Below w.heap.size w (ownP w d A cap i 43 3)):=hB0
 have HM:Hid (MemsV w A cap d.n d.mem):=hM
 unfold dimV at hck ⊢
 simp only [List.length_singleton] at hck
 clear hM hB0
 by_cases he:treeErr d [i]=0
 ·obtain ⟨hd,k,rfl,hk⟩:=treeErr_in he
  rw [he,errV_zero] at hck
  obtain ⟨-,-,hd2,-⟩:=dimErr_right hd
  have HR:Hid (lfOf d (k:Int)=leafB d.mem d.n k):=by show _=_;simp [lfOf,he]
  have HE:Hid (errV (treeErr d [(k:Int)])=.nilIface):=by show _=_;rw [he];rfl
  clear he hd
  go_enter Tryz.func93,Tryz.ntmps93
  go_wp2_with fail
  refine hck.mono ?_
  rintro e w1 ⟨rfl,hb1⟩
  have hB:Below w.heap.size w w1:=onB HB0.out hb1
  have h2:w1.cell? ⟨w.heap.size,2,none⟩=some (.slice A d.n cap):=(hb1.cell (p:=⟨w.heap.size,2,none⟩) (by show w.heap.size<_;rw [ownP_size];omega)).trans (ownP_dim ..)
  obtain ⟨hcap,h0 | ⟨b,o,rfl,hMs⟩⟩:=HM.out.later hB
  ·omega
  have hpl:=isleaf_any b o d.n cap k d.mem w1 hd2 hk hMs
  have HB:Hid (Below w.heap.size w w1):=hB
  clear hb1 hck hMs hB
  go_wp2_with fail
  refine hpl.mono ?_
  rintro e w2 ⟨rfl,hb2⟩
  go_wp2_with fail
  go_ret2
  rw [HR.out,HE.out]
  exact ⟨rfl,onB HB.out hb2⟩
 ·have HR:Hid (lfOf d i=false):=by show _=_;simp [lfOf,he]
  have HE:Hid (errV (treeErr d [i])=.iface 65 (.int .i64 (treeErr d [i]))):=errV_some he
  rw [errV_some he] at hck
  clear he
  generalize treeErr d [i]=c at hck HE
  go_enter Tryz.func93,Tryz.ntmps93
  go_wp2_with fail
  refine hck.mono ?_
  rintro e w1 ⟨rfl,hb1⟩
  go_wp2_with fail
  go_ret2
  rw [HR.out,HE.out]
  exact ⟨rfl,onB HB0.out hb1⟩
end Go.Proofs.YtinebmjpdkjooaaGreatDoor
namespace Go.Proofs.YtinebmjpdkjooaaGreatDoor
open Go Go.ChangeShapes Go.WideShapes Go.ChangeAt Go.RowKit
set_option maxRecDepth 1000000
set_option maxHeartbeats 64000000
theorem Tryz.infoEntK:(Tryz.prog.info? 51).map (fun i=>(i.zero,i.size,i.bytes))=some (some (.agg #[.slice none 0 0,.int .i64 0]),2,32):=by kernel_rfl
theorem rsL63 (T:Array Value) (s:Nat→Value) (q ga m c k:Nat) (so:Value) (t:ByteArray) (X:Value→Value→World→Prop) (w:World) (hF:rsF T s) (h6:s 6=.pointer (some ⟨q,0,none⟩)) (h7:s 7=.slice (some ⟨ga,0,none⟩) m c) (h30:s 30=.int .i64 (k:Nat)) (hq:w.cell? ⟨q,0,none⟩=some so) (hk:k<m) (ht:w.cell? ⟨ga,k,none⟩=some (.string t)) (hcall:∀ w0,Below w.heap.size w w0→Calls Tryz.prog 30 #[.agg #[so],.string t] w0 fun e w' => ∃ v u,e=.returned (.tuple #[v,u])∧X v u w') (J:Act→World→Prop) (Q:Exit→Act→World→Prop)
  (hJ:∀ T' v u w',rsF T' (upG (upG s 31 v) 32 u)→X v u w'→J ⟨T',[]⟩ w'):Code.wp Tryz.prog (rsC [1,1,1,1,1,1,1,1,1,1,1,1,0,1,3,4,1,0,3,0]) (Exit.then J Q) ⟨T,[]⟩ w:=by
 obtain ⟨xF,rfl⟩:=rs_open hF
 unfold rsL
 rw [h6,h7,h30]
 have HJ:=hid_of hJ
 have H6:=hid_of h6
 have H7:=hid_of h7
 have H30:=hid_of h30
 clear hJ hF h6 h7 h30
 have HC:=hid_of hcall
 clear hcall
 conv=>arg 2;whnf
 have hki:(k:Int)<(m:Int):=by omega
 refine wp_region_noPanic ?_
 go_region_law ((go_simp;refine (HC.out _ (by go_grown)).mono ?_;rintro e w1 ⟨v,u,rfl,hX⟩;have HX:=hid_of hX;clear hX))
 all_goals go_wp2_with fail
 all_goals (
  refine HJ.out _ v u w1 ⟨rfl,?_⟩ HX.out
  rw [←H6.out,←H7.out,←H30.out]
  rfl
  )
theorem rsL66 (T:Array Value) (s:Nat→Value) (base n gn m c k lp cp:Nat) (v:Value) (Ap:Option Addr) (x:Int) (xs:List Value) (w:World) (hF:rsF T s) (h8:s 8=.slice (some ⟨gn,0,none⟩) m c) (h29:s 29=v) (h30:s 30=.int .i64 (k:Nat)) (h31:s 31=.slice Ap lp cp) (hO:w.ownsRow base 51 2 v n xs) (hb:base≤w.heap.size) (hn:n≤1048577) (hk:k<m) (hx:w.cell? ⟨gn,k,none⟩=some (.int .i64 x)) (J:Act→World→Prop) (Q:Exit→Act→World→Prop)
  (hJ:∀ T' v' w',rsF T' (upG s 29 v')→w'.ownsRow base 51 2 v' (n+1) (xs ++ [.slice Ap lp cp,.int .i64 x])→Kept w.heap.size (fun b=>v.ownBlock=some b) w w'→J ⟨T',[]⟩ w'):Code.wp Tryz.prog (rsC [1,1,1,1,1,1,1,1,1,1,1,1,0,1,3,4,1,0,3,1,1]) (Exit.then J Q) ⟨T,[]⟩ w:=by
 obtain ⟨xF,rfl⟩:=rs_open hF
 unfold rsL
 rw [h8,h29,h30,h31]
 have HJ:=hid_of hJ
 have H8:=hid_of h8
 have H29:=hid_of h29
 have H30:=hid_of h30
 have H31:=hid_of h31
 clear hJ hF h8 h29 h30 h31
 obtain ⟨i0,hi0,hz0,hz1,hz2⟩:=info_parts Tryz.infoEntK
 obtain ⟨A1,c1,rfl⟩:=own_formK hO
 have hki:(k:Int)<(m:Int):=by omega
 have HO:=hid_of hO
 clear hO
 conv=>arg 2;whnf
 go_wp2_with (at_builtin;refine wpList_append_own _ rfl _ _ 25 rfl base 51 i0 (.agg #[.slice none 0 0,.int .i64 0]) 2 32 Tryz.underlying25 hi0 hz0 hz1 hz2 rfl (by decide) _ _ _ rfl (HO.out.alloc _) ⟨w.heap.size,0,none⟩ 1 1 [.slice Ap lp cp,.int .i64 x] rfl rfl ?qe2 ?qe3 ?qe4 ?qe5 ?qe6 ?_)
 case qe2 =>
  intro j u hj
  rw [plain_addK,Lib.cell_of_heap (heap_alloc_new w (.cells #[.slice Ap lp cp,.int .i64 x] 51))]
  simpa using hj
 case qe3=>intro u hu;simp at hu;rcases hu with rfl | rfl <;> rfl
 case qe4=>simp only [maxLen];omega
 case qe5=>omega
 case qe6=>simp;omega
 intro v' w8 hown' hgrow hnil
 have HG:Hid (Kept w.heap.size (fun b=>(Value.slice A1 n c1).ownBlock=some b) w w8):=⟨hgrow.os,hgrow.tape,hgrow.output,by have:=hgrow.size;simp at this;omega,fun i hi hx=>by rw [hgrow.block i (by simp;omega) (fun e=>hx e.symm),Below.heap_alloc _ _ _ (by omega)]⟩
 have HO8:=hid_of hown'
 clear hown' hgrow hnil
 go_wp2_with fail
 refine HJ.out _ v' w8 ⟨rfl,?_⟩ HO8.out HG.out
 rw [←H8.out,←H30.out,←H31.out]
 rfl
theorem rsL70 (T:Array Value) (s:Nat→Value) (q q2 n c:Nat) (A:Option Addr) (x vl:Value) (w:World) (hF:rsF T s) (h2:s 2=.pointer (some ⟨q2,0,none⟩)) (h6:s 6=.pointer (some ⟨q,0,none⟩)) (h29:s 29=vl) (hq:w.cell? ⟨q,0,none⟩=some (.slice A n c)) (hq2:w.heap[q2]?=some (.cells #[x] 24 (0,0))) (J:Act→World→Prop) (Q:Exit→Act→World→Prop)
  (hJ:∀ T',rsF T' (upG (upG (upG s 3 vl) 4 (.int .i64 0)) 5 (.int .i64 0))→J ⟨T',[]⟩ (w.setCell ⟨q2,0,none⟩ (.slice A n c))):Code.wp Tryz.prog (rsC [1,1,1,1,1,1,1,1,1,1,1,1,1,1,1,0]) (Exit.then J Q) ⟨T,[]⟩ w:=by
 obtain ⟨xF,rfl⟩:=rs_open hF
 unfold rsL
 rw [h2,h6,h29]
 have HJ:=hid_of hJ
 have H2:=hid_of h2
 have H6:=hid_of h6
 have H29:=hid_of h29
 clear hJ hF h2 h6 h29
 have a1:w.cell? ⟨q2,0,none⟩=some x:=(Lib.cell_of_heap hq2 0).trans rfl
 have a2:w.frozen? ⟨q2,0,none⟩=false:=by simp [World.frozen?,hq2]
 clear hq2
 conv=>arg 2;whnf
 go_wp2_with fail
 refine HJ.out _ ⟨rfl,?_⟩ 
 rw [←H2.out,←H6.out,←H29.out]
 rfl
theorem kept_setK {w:World} {N q f:Nat} {v:Value}:Kept N (fun b=>b=q) w (w.setCell ⟨q,f,none⟩ v):=⟨rfl,rfl,rfl,by simp,fun i _ hi=>setCell_off _ _ _ _ _ hi⟩
theorem box4_1 {w:World} {q T:Nat} {a b c d v:Value} (h:w.heap[q]?=some (.cells #[a,b,c,d] T (0,0))):(w.setCell ⟨q,1,none⟩ v).heap[q]?=some (.cells #[a,v,c,d] T (0,0)):=by simp [World.setCell,Array.getElem?_modify,h]
theorem box4_2 {w:World} {q T:Nat} {a b c d v:Value} (h:w.heap[q]?=some (.cells #[a,b,c,d] T (0,0))):(w.setCell ⟨q,2,none⟩ v).heap[q]?=some (.cells #[a,b,v,d] T (0,0)):=by simp [World.setCell,Array.getElem?_modify,h]
theorem box4_3 {w:World} {q T:Nat} {a b c d v:Value} (h:w.heap[q]?=some (.cells #[a,b,c,d] T (0,0))):(w.setCell ⟨q,3,none⟩ v).heap[q]?=some (.cells #[a,b,c,v] T (0,0)):=by simp [World.setCell,Array.getElem?_modify,h]
theorem rsL23 (T:Array Value) (s:Nat→Value) (q:Nat) (nm fo:ByteArray) (pa sg k:Int) (w:World) (hF:rsF T s) (h18:s 18=.pointer (some ⟨q,0,none⟩)) (h19:s 19=.int .i64 k) (hq:w.heap[q]?=some (.cells #[.string nm,.int .i64 pa,.int .i64 sg,.string fo] 46 (0,0))) (J:Act→World→Prop) (Q:Exit→Act→World→Prop)
  (hJ:∀ T' w',rsF T' s→w'.heap[q]?=some (.cells #[.string nm,.int .i64 k,.int .i64 sg,.string fo] 46 (0,0))→Kept w.heap.size (fun b=>b=q) w w'→J ⟨T',[]⟩ w'):Code.wp Tryz.prog (rsC [1,1,1,1,1,1,1,0,1,3,4,1,0,3,1,1,0,1,5,1,2,1,1,0,1,2,1,1]) (Exit.then J Q) ⟨T,[]⟩ w:=by
 obtain ⟨xF,rfl⟩:=rs_open hF
 unfold rsL
 rw [h18,h19]
 have HJ:=hid_of hJ
 have H18:=hid_of h18
 have H19:=hid_of h19
 clear hJ hF h18 h19
 have a1:w.cell? ⟨q,1,none⟩=some (.int .i64 pa):=(Lib.cell_of_heap hq 1).trans rfl
 have a2:w.frozen? ⟨q,1,none⟩=false:=by simp [World.frozen?,hq]
 have hql:=(Array.getElem?_eq_some_iff.1 hq).1
 have HQ:=hid_of hq
 clear hq
 conv=>arg 2;whnf
 go_wp2_with fail
 refine HJ.out _ _ ⟨rfl,?_⟩ (box4_1 HQ.out) kept_setK
 rw [←H18.out,←H19.out]
 rfl
theorem rsL22 (T:Array Value) (s:Nat→Value) (k:Int) (a b:Bool) (w:World) (hF:rsF T s) (h14:s 14=.bool a) (h19:s 19=.int .i64 k) (h20:s 20=.bool b)  (J:Act→World→Prop) (Q:Exit→Act→World→Prop)
  (hJ:∀ T',rsF T' (upG s 14 (.bool (a && b && decide (0≤k))))→J ⟨T',[]⟩ w):Code.wp Tryz.prog (rsC [1,1,1,1,1,1,1,0,1,3,4,1,0,3,1,1,0,1,5,1,2,1,1,0,1,2,1,0]) (Exit.then J Q) ⟨T,[]⟩ w:=by
 obtain ⟨xF,rfl⟩:=rs_open hF
 unfold rsL
 rw [h14,h19,h20]
 have HJ:=hid_of hJ
 have H14:=hid_of h14
 have H19:=hid_of h19
 have H20:=hid_of h20
 clear hJ hF h14 h19 h20
 conv=>arg 2;whnf
 by_cases hk:0≤k
 ·have HD:=hid_of (decide_eq_true hk)
  cases a
  ·go_wp2_with fail
   rw [HD.out] at HJ
   refine HJ.out _ ⟨rfl,?_⟩ 
   show _=[s 0,s 1,s 2,s 3,s 4,s 5,s 6,s 7,s 8,s 9,s 10,s 11,s 12,s 13,_,s 15,s 16,s 17,s 18,s 19,s 20,s 21,s 22,s 23,s 24,s 25,s 26,s 27,s 28,s 29,s 30,s 31,s 32]
   rw [H19.out,H20.out]
   rfl
  ·cases b
   ·go_wp2_with fail
    rw [HD.out] at HJ
    refine HJ.out _ ⟨rfl,?_⟩ 
    show _=[s 0,s 1,s 2,s 3,s 4,s 5,s 6,s 7,s 8,s 9,s 10,s 11,s 12,s 13,_,s 15,s 16,s 17,s 18,s 19,s 20,s 21,s 22,s 23,s 24,s 25,s 26,s 27,s 28,s 29,s 30,s 31,s 32]
    rw [H19.out,H20.out]
    rfl
   ·go_wp2_with fail
    rw [HD.out] at HJ
    refine HJ.out _ ⟨rfl,?_⟩ 
    show _=[s 0,s 1,s 2,s 3,s 4,s 5,s 6,s 7,s 8,s 9,s 10,s 11,s 12,s 13,_,s 15,s 16,s 17,s 18,s 19,s 20,s 21,s 22,s 23,s 24,s 25,s 26,s 27,s 28,s 29,s 30,s 31,s 32]
    rw [H19.out,H20.out]
    rfl
 ·have HD:=hid_of (decide_eq_false hk)
  cases a
  ·go_wp2_with fail
   rw [HD.out] at HJ
   refine HJ.out _ ⟨rfl,?_⟩ 
   show _=[s 0,s 1,s 2,s 3,s 4,s 5,s 6,s 7,s 8,s 9,s 10,s 11,s 12,s 13,_,s 15,s 16,s 17,s 18,s 19,s 20,s 21,s 22,s 23,s 24,s 25,s 26,s 27,s 28,s 29,s 30,s 31,s 32]
   rw [H19.out,H20.out]
   rfl
  ·cases b
   ·go_wp2_with fail
    rw [HD.out] at HJ
    refine HJ.out _ ⟨rfl,?_⟩ 
    show _=[s 0,s 1,s 2,s 3,s 4,s 5,s 6,s 7,s 8,s 9,s 10,s 11,s 12,s 13,_,s 15,s 16,s 17,s 18,s 19,s 20,s 21,s 22,s 23,s 24,s 25,s 26,s 27,s 28,s 29,s 30,s 31,s 32]
    rw [H19.out,H20.out]
    rfl
   ·go_wp2_with fail
    rw [HD.out] at HJ
    refine HJ.out _ ⟨rfl,?_⟩ 
    show _=[s 0,s 1,s 2,s 3,s 4,s 5,s 6,s 7,s 8,s 9,s 10,s 11,s 12,s 13,_,s 15,s 16,s 17,s 18,s 19,s 20,s 21,s 22,s 23,s 24,s 25,s 26,s 27,s 28,s 29,s 30,s 31,s 32]
    rw [H19.out,H20.out]
    rfl
theorem rsSw (T:Array Value) (s:Nat→Value) (q:Nat) (nm fo x:ByteArray) (pa sg:Int) (b:Bool) (w:World) (hF:rsF T s) (h14:s 14=.bool b) (h18:s 18=.pointer (some ⟨q,0,none⟩)) (h21:s 21=.string x) (hq:w.heap[q]?=some (.cells #[.string nm,.int .i64 pa,.int .i64 sg,.string fo] 46 (0,0))) (hx:0<x.size) (J:Act→World→Prop) (Q:Exit→Act→World→Prop)
  (hJ:∀ T' b' w',rsF T' (upG s 14 (.bool b'))→b'=(b && (decide (x[0]=45) || decide (x[0]=126) || decide (x[0]=43)))→w'.heap[q]?=some (.cells #[.string nm,.int .i64 pa,.int .i64 (if x[0]=45 then -1 else if x[0]=126 then 0 else if x[0]=43 then 1 else sg),.string fo] 46 (0,0))→Kept w.heap.size (fun b=>b=q) w w'→J ⟨T',[]⟩ w'):Code.wp Tryz.prog (rsC [1,1,1,1,1,1,1,0,1,3,4,1,0,3,1,1,0,1,5,1,2,1,1,1,1,0,1,5,0]) (Exit.then J Q) ⟨T,[]⟩ w:=by
 obtain ⟨xF,rfl⟩:=rs_open hF
 unfold rsL
 rw [h14,h18,h21]
 have HJ:=hid_of hJ
 have H14:=hid_of h14
 have H18:=hid_of h18
 have H21:=hid_of h21
 clear hJ hF h14 h18 h21
 have a1:w.cell? ⟨q,2,none⟩=some (.int .i64 sg):=(Lib.cell_of_heap hq 2).trans rfl
 have hxi:(0:Int)<(x.size:Int):=by omega
 have a2:w.frozen? ⟨q,2,none⟩=false:=by simp [World.frozen?,hq]
 have hql:=(Array.getElem?_eq_some_iff.1 hq).1
 have HQ:=hid_of hq
 clear hq
 conv=>arg 2;whnf
 by_cases e45:x[0]=45
 ·have hc:((x[0].toNat:Int) == 45)=true:=by rw [e45];rfl
  have HE:=hid_of e45
  clear e45
  go_wp2_with fail
  refine HJ.out _ b _ ⟨rfl,?_⟩ (by rw [HE.out];simp) (by rw [HE.out];exact box4_2 HQ.out) kept_setK
  rw [←H18.out,←H21.out]
  rfl
 ·have n1 : ¬ (x[0].toNat:Int)=45:=fun e=>e45 (UInt8.toNat_inj.1 (by show x[0].toNat=45;omega))
  have hc:((x[0].toNat:Int) == 45)=false:=by simpa using n1
  by_cases e126:x[0]=126
  ·have hd:((x[0].toNat:Int) == 126)=true:=by rw [e126];rfl
   have HE:=hid_of e126
   clear e126 e45 n1
   go_wp2_with fail
   refine HJ.out _ b _ ⟨rfl,?_⟩ (by rw [HE.out];simp) (by rw [HE.out];exact box4_2 HQ.out) kept_setK
   rw [←H18.out,←H21.out]
   rfl
  ·have n2 : ¬ (x[0].toNat:Int)=126:=fun e=>e126 (UInt8.toNat_inj.1 (by show x[0].toNat=126;omega))
   have hd:((x[0].toNat:Int) == 126)=false:=by simpa using n2
   by_cases e43:x[0]=43
   ·have he:((x[0].toNat:Int) == 43)=true:=by rw [e43];rfl
    have HE:=hid_of e43
    clear e126 e45 e43 n1 n2
    go_wp2_with fail
    refine HJ.out _ b _ ⟨rfl,?_⟩ (by rw [HE.out];simp) (by rw [HE.out];exact box4_2 HQ.out) kept_setK
    rw [←H18.out,←H21.out]
    rfl
   ·have n3 : ¬ (x[0].toNat:Int)=43:=fun e=>e43 (UInt8.toNat_inj.1 (by show x[0].toNat=43;omega))
    have he:((x[0].toNat:Int) == 43)=false:=by simpa using n3
    have HE:=hid_of (And.intro e45 (And.intro e126 e43))
    clear e126 e45 e43 n1 n2 n3
    go_wp2_with fail
    refine HJ.out _ false _ ⟨rfl,?_⟩ (by obtain ⟨y1,y2,y3⟩:=HE.out;simp [y1,y2,y3]) (by obtain ⟨y1,y2,y3⟩:=HE.out;rw [if_neg y1,if_neg y2,if_neg y3];exact HQ.out) (Kept.refl _ _ _)
    rw [←H18.out,←H21.out]
    rfl
theorem rsFo (T:Array Value) (s:Nat→Value) (q:Nat) (nm fo x:ByteArray) (pa sg:Int) (w:World) (hF:rsF T s) (h18:s 18=.pointer (some ⟨q,0,none⟩)) (h21:s 21=.string x) (hq:w.heap[q]?=some (.cells #[.string nm,.int .i64 pa,.int .i64 sg,.string fo] 46 (0,0))) (J:Act→World→Prop) (Q:Exit→Act→World→Prop)
  (hJ:∀ T' w',rsF T' s→w'.heap[q]?=some (.cells #[.string nm,.int .i64 pa,.int .i64 sg,.string (if 2<x.size then x.extract 2 x.size else fo)] 46 (0,0))→Kept w.heap.size (fun b=>b=q) w w'→J ⟨T',[]⟩ w'):Code.wp Tryz.prog (rsC [1,1,1,1,1,1,1,0,1,3,4,1,0,3,1,1,0,1,5,1,2,1,1,1,1,0,1,5,1]) (Exit.then J Q) ⟨T,[]⟩ w:=by
 obtain ⟨xF,rfl⟩:=rs_open hF
 unfold rsL
 rw [h18,h21]
 have HJ:=hid_of hJ
 have H18:=hid_of h18
 have H21:=hid_of h21
 clear hJ hF h18 h21
 have a1:w.cell? ⟨q,3,none⟩=some (.string fo):=(Lib.cell_of_heap hq 3).trans rfl
 have a2:w.frozen? ⟨q,3,none⟩=false:=by simp [World.frozen?,hq]
 have hql:=(Array.getElem?_eq_some_iff.1 hq).1
 have HQ:=hid_of hq
 clear hq
 conv=>arg 2;whnf
 by_cases h2:2<x.size
 ·have h2i:(2:Int)<(x.size:Int):=by omega
  have h2j:(2:Int)≤(x.size:Int):=by omega
  have HE:=hid_of h2
  clear h2
  go_wp2_with fail
  refine HJ.out _ _ ⟨rfl,?_⟩ (by rw [if_pos HE.out];exact box4_3 HQ.out) kept_setK
  rw [←H18.out,←H21.out]
  rfl
 ·have h2i : ¬ (2:Int)<(x.size:Int):=by omega
  have HE:=hid_of h2
  clear h2
  go_wp2_with fail
  refine HJ.out _ _ ⟨rfl,?_⟩ (by rw [if_neg HE.out];exact HQ.out) (Kept.refl _ _ _)
  rw [←H18.out,←H21.out]
  rfl
theorem rsL25 (T:Array Value) (s:Nat→Value) (x:ByteArray) (w:World) (hF:rsF T s) (h21:s 21=.string x)  (J:Act→World→Prop) (Q:Exit→Act→World→Prop)
  (hJ:∀ T',rsF T' s→Act.eval ⟨T',[]⟩ (.tmp 159)=.bool (decide (x.size=0) || decide (x.size=2) || (decide (2<x.size) && !decide (x.data.toList.getD 1 0=61)))→J ⟨T',[]⟩ w):Code.wp Tryz.prog (rsC [1,1,1,1,1,1,1,0,1,3,4,1,0,3,1,1,0,1,5,1,2,1,1,1,1,0,0]) (Exit.then J Q) ⟨T,[]⟩ w:=by
 obtain ⟨xF,rfl⟩:=rs_open hF
 unfold rsL
 rw [h21]
 have HJ:=hid_of hJ
 have H21:=hid_of h21
 clear hJ hF h21
 conv=>arg 2;whnf
 by_cases h0:x.size=0
 ·have g2:x.toList=[]:=by
   rw [ByteArray.toList_eq]
   have e:=Lib.size_eq x
   cases hl:x.data.toList with
   | nil=>rfl
   | cons a b=>rw [hl,List.length_cons] at e;omega
  have HE:=hid_of h0
  clear h0
  go_wp2_with fail
  refine HJ.out _ ⟨rfl,?_⟩ (by simp only [HE.out];rfl)
  rw [←H21.out]
  rfl
 ·have g2:x.toList.isEmpty=false:=by
   rw [ByteArray.toList_eq]
   have e:=Lib.size_eq x
   cases hl:x.data.toList with
   | nil=>rw [hl,List.length_nil] at e;omega
   | cons a b=>rfl
  by_cases h2:x.size=2
  ·have hc:((x.size:Int) == 2)=true:=by rw [h2];rfl
   have HE:=hid_of h2
   clear h0 h2
   go_wp2_with fail
   refine HJ.out _ ⟨rfl,?_⟩ (by simp only [HE.out];rfl)
   rw [←H21.out]
   rfl
  ·have hc:((x.size:Int) == 2)=false:=by simp;omega
   by_cases h3:2<x.size
   ·have h3i:(2:Int)<(x.size:Int):=by omega
    have h1i:(1:Int)<(x.size:Int):=by omega
    have h1:1<x.size:=by omega
    have hgd:x.data.toList.getD 1 0=x[1]:=by
     rw [List.getD_eq_getElem?_getD,List.getElem?_eq_getElem (by simpa using h1)]
     rfl
    by_cases e61:x[1]=61
    ·have hd:((x[1].toNat:Int) != 61)=false:=by rw [e61];rfl
     have HE:Hid ((decide (x.size=0) || decide (x.size=2) || (decide (2<x.size) && !decide (x.data.toList.getD 1 0=61)))=false):=by
      show _=_
      rw [hgd];simp [h0,h2,h3,e61]
     clear h0 h2 h3 e61 hgd
     go_wp2_with fail
     refine HJ.out _ ⟨rfl,?_⟩ (by rw [HE.out];rfl)
     rw [←H21.out]
     rfl
    ·have n1 : ¬ (x[1].toNat:Int)=61:=fun e=>e61 (UInt8.toNat_inj.1 (by show x[1].toNat=61;omega))
     have hd:((x[1].toNat:Int) != 61)=true:=by simpa using n1
     have HE:Hid ((decide (x.size=0) || decide (x.size=2) || (decide (2<x.size) && !decide (x.data.toList.getD 1 0=61)))=true):=by
      show _=_
      rw [hgd];simp [h0,h2,h3,e61]
     clear h0 h2 h3 e61 hgd n1
     go_wp2_with fail
     refine HJ.out _ ⟨rfl,?_⟩ (by rw [HE.out];rfl)
     rw [←H21.out]
     rfl
   ·have h3i : ¬ (2:Int)<(x.size:Int):=by omega
    have HE:Hid ((decide (x.size=0) || decide (x.size=2) || (decide (2<x.size) && !decide (x.data.toList.getD 1 0=61)))=false):=by
     show _=_
     simp [h0,h2,h3]
    clear h0 h2 h3
    go_wp2_with fail
    refine HJ.out _ ⟨rfl,?_⟩ (by rw [HE.out];rfl)
    rw [←H21.out]
    rfl
end Go.Proofs.YtinebmjpdkjooaaGreatDoor
