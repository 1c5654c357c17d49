/-
  tallyref2.Change: the dim copied.
-/
import Derived.Test.YtfldgghobddgkaaGreatDoorJDBJ
import Derived.Test.YtfldgghobddgkaaGreatDoorJDBK
namespace Go.Proofs.YtfldgghobddgkaaGreatDoor
open Go Go.ChangeShapes Go.WideShapes Go.ChangeAt Go.RowKit
set_option maxRecDepth 1000000
set_option maxHeartbeats 64000000
abbrev Kq (q:Nat) (w w':World):Prop:=Kept w.heap.size (fun b=>b=q) w w'
theorem CtD.put {w wa w1:World} {B q m C':Nat} {A':Option Addr} {nm:ByteArray} {sv:Int} {x:Value} {M:Nat→Mem} (hbox:w.heap[q]?=some (.cells #[.string nm,.int .i64 sv,x] 41 (0,0))) (hb:Below w.heap.size w wa)
  (hown:w1.ownsRow B 43 4 (.slice A' m C') m (cellsMb M m)) (hgrow:wa.grownBy w1 none):CtD (w1.setCell ⟨q,2,none⟩ (.slice A' m C')) B q A' C' ⟨nm,sv,m,M⟩∧Kq q w (w1.setCell ⟨q,2,none⟩ (.slice A' m C')):=by
 have hlt:=(Array.getElem?_eq_some_iff.1 hbox).1
 have h1:w1.heap[q]?=some (.cells #[.string nm,.int .i64 sv,x] 41 (0,0)):=(hgrow.block q (Nat.lt_of_lt_of_le hlt hb.size) (by intro e;cases e)).trans ((hb.block q hlt).trans hbox)
 have hne:(Value.slice A' m C').ownBlock≠some q:=own_ne hown h1 (by decide)
 refine ⟨⟨by simp [World.setCell,Array.getElem?_modify,h1],own_setc hown hne⟩,⟨hgrow.os.trans hb.os,hgrow.tape.trans hb.tape,hgrow.output.trans hb.output,by simpa using Nat.le_trans hb.size hgrow.size,fun i hi hx=>?_⟩⟩
 rw [setCell_off _ _ _ _ _ hx]
 exact (hgrow.block i (Nat.lt_of_lt_of_le hi hb.size) (by intro e;cases e)).trans (hb.block i hi)
theorem ctL6 (T:Array Value) (s:Nat→Value) (p n cap b o k:Nat) (nm:ByteArray) (sv:Int) (w:World) (hF:ctF T s) (h3:s 3=.pointer (some ⟨p,0,none⟩)) (h5:s 5=.pointer (some ⟨(p+1),0,none⟩)) (c0:w.cell? ⟨p,0,none⟩=some (.slice (some ⟨b,o,none⟩) n cap)) (c1:w.cell? ⟨p+1,1,none⟩=some (.int .i64 (k:Nat))) (hk:k<n) (d0:w.cell? ⟨b,o+k*3,none⟩=some (.string nm)) (d1:w.cell? ⟨b,o+k*3+1,none⟩=some (.int .i64 sv)) (J:Act→World→Prop) (Q:Exit→Act→World→Prop)
  (hJ:∀ T' w',ctF T' (upG s 10 (.pointer (some ⟨w.heap.size,0,none⟩)))→w'.heap[w.heap.size]?=some (.cells #[.string nm,.int .i64 sv,.slice none 0 0] 41 (0,0))→Below w.heap.size w w'→J ⟨T',[]⟩ w'):Code.wp Tryz.prog (ctC [1,1,1,1,0]) (Exit.then J Q) ⟨T,[]⟩ w:=by
 obtain ⟨xF,rfl⟩:=ct_open hF
 unfold ctL
 rw [h3,h5]
 have HJ:=hid_of hJ
 have H3:=hid_of h3
 have H5:=hid_of h5
 clear hJ hF h3 h5
 have HS:Hid (∀ w',Below w.heap.size w w'→w'.cell? ⟨p,0,none⟩=some (.slice (some ⟨b,o,none⟩) n cap)∧w'.cell? ⟨p+1,1,none⟩=some (.int .i64 (k:Nat))∧w'.cell? ⟨b,o+k*3,none⟩=some (.string nm)∧w'.cell? ⟨b,o+k*3+1,none⟩=some (.int .i64 sv)):=fun w' hb=>⟨cell_laterQ c0 hb,cell_laterQ c1 hb,cell_laterQ d0 hb,cell_laterQ d1 hb⟩
 conv=>arg 2;whnf
 have hkI:(k:Int)<(n:Int):=by omega
 refine wp_region_noPanic ?_
 refine wp_region_held_drew (S:=fun w'=>Below w.heap.size w w'∧w'.cell? ⟨p,0,none⟩=some (.slice (some ⟨b,o,none⟩) n cap)∧w'.cell? ⟨p+1,1,none⟩=some (.int .i64 (k:Nat))∧w'.cell? ⟨b,o+k*3,none⟩=some (.string nm)∧w'.cell? ⟨b,o+k*3+1,none⟩=some (.int .i64 sv)) (by kernel_rfl) (by (refine (fun hB=>⟨hB,HS.out _ hB⟩) ?_;go_grown)) (fun hHeld=>?_)
 refine wpAnyH_take (i:=0) (v := ?v0) rfl (by kernel_rfl) (by kernel_rfl) (by kernel_rfl) (fun _ _ _ h=>h) (Or.inl ⟨by rfl,?y0⟩) hHeld ?r0
 case y0=>(intro w hSw;go_simp;try rfl)
 refine wpAnyH_take (i:=1) (v := ?v1) rfl (by kernel_rfl) (by kernel_rfl) (by kernel_rfl) (fun _ _ _ h=>h) (Or.inl ⟨by rfl,?y1⟩) hHeld ?r1
 case y1=>(intro w hSw;go_simp;try rfl)
 refine wpAnyH_take (i:=2) (v := ?v2) rfl (by kernel_rfl) (by kernel_rfl) (by kernel_rfl) (fun _ _ _ h=>h) (Or.inl ⟨by rfl,?y2⟩) hHeld ?r2
 case y2=>(intro w hSw;go_simp;try rfl)
 refine wpAnyH_take (i:=3) (v := ?v3) rfl (by kernel_rfl) (by kernel_rfl) (by kernel_rfl) (fun _ _ _ h=>h) (Or.inl ⟨by rfl,?y3⟩) hHeld ?r3
 case y3=>(intro w hSw;go_simp;try rfl)
 refine wpAnyH_take (i:=4) (v := ?v4) rfl (by kernel_rfl) (by kernel_rfl) (by kernel_rfl) (fun _ _ _ h=>h) (Or.inl ⟨by rfl,?y4⟩) hHeld ?r4
 case y4=>(intro w hSw;go_simp;try rfl)
 refine wpAnyH_take (i:=5) (v := ?v5) rfl (by kernel_rfl) (by kernel_rfl) (by kernel_rfl) (fun _ _ _ h=>h) (Or.inl ⟨by rfl,?y5⟩) hHeld ?r5
 case y5=>(intro w hSw;go_simp;try rfl)
 refine wpAnyH_take (i:=6) (v := ?v6) rfl (by kernel_rfl) (by kernel_rfl) (by kernel_rfl) (fun _ _ _ h=>h) (Or.inl ⟨by rfl,?y6⟩) hHeld ?r6
 case y6=>(intro w hSw;go_simp;try rfl)
 refine wpAnyH_take (i:=7) (v := ?v7) rfl (by kernel_rfl) (by kernel_rfl) (by kernel_rfl) (fun _ _ _ h=>h) (Or.inl ⟨by rfl,?y7⟩) hHeld ?r7
 case y7=>(intro w hSw;go_simp;try rfl)
 refine wpAnyH_take (i:=8) (v := ?v8) rfl (by kernel_rfl) (by kernel_rfl) (by kernel_rfl) (fun _ _ _ h=>h) (Or.inl ⟨by rfl,?y8⟩) hHeld ?r8
 case y8=>(intro w hSw;go_simp;try rfl)
 refine wpAnyH_take (i:=9) (v := ?v9) rfl (by kernel_rfl) (by kernel_rfl) (by kernel_rfl) (fun _ _ _ h=>h) (Or.inl ⟨by rfl,?y9⟩) hHeld ?r9
 case y9=>(intro w hSw;go_simp;try rfl)
 refine wpAnyH_take (i:=10) (v := ?v10) rfl (by kernel_rfl) (by kernel_rfl) (by kernel_rfl) (fun _ _ _ h=>h) (Or.inl ⟨by rfl,?y10⟩) hHeld ?r10
 case y10=>(intro w hSw;go_simp;try rfl)
 refine wpAnyH_take (i:=11) (v := ?v11) rfl (by kernel_rfl) (by kernel_rfl) (by kernel_rfl) (fun _ _ _ h=>h) (Or.inl ⟨by rfl,?y11⟩) hHeld ?r11
 case y11=>(intro w hSw;go_simp;try rfl)
 refine wpAnyH_take (i:=12) (v := ?v12) rfl (by kernel_rfl) (by kernel_rfl) (by kernel_rfl) (fun _ _ _ h=>h) (Or.inl ⟨by rfl,?y12⟩) hHeld ?r12
 case y12=>(intro w hSw;go_simp;try rfl)
 refine wpAnyH_take (i:=13) (v := ?v13) rfl (by kernel_rfl) (by kernel_rfl) (by kernel_rfl) (fun _ _ _ h=>h) (Or.inl ⟨by rfl,?y13⟩) hHeld ?r13
 case y13=>(intro w hSw;go_simp;try rfl)
 refine wpAnyH_take (i:=14) (v := ?v14) rfl (by kernel_rfl) (by kernel_rfl) (by kernel_rfl) (fun _ _ _ h=>h) (Or.inl ⟨by rfl,?y14⟩) hHeld ?r14
 case y14=>(intro w hSw;go_simp;try rfl)
 refine wpAnyH_ready (rs:=[15]) (by kernel_rfl) (by simp) ?_
 refine AllReadyH.cons rfl (fun K hK=>?_) AllReadyH.nil
 go_simp
 refine hK.out _ _ ((fun hB=>⟨hB,HS.out _ hB⟩) (by go_grown)) (fun hHeld=>?_)
 clear hK K
 refine wpAnyH_ready (rs:=[16]) (by kernel_rfl) (by simp) ?_
 refine AllReadyH.cons rfl (fun K hK=>?_) AllReadyH.nil
 go_simp
 refine hK.out _ _ ((fun hB=>⟨hB,HS.out _ hB⟩) (by go_grown)) (fun hHeld=>?_)
 clear hK K
 refine wpAnyH_done (by kernel_rfl) ?_ _
 go_wp2_with fail
 refine HJ.out _ _ ⟨rfl,?_⟩ (heap_alloc_new ..) (by go_grown)
 rw [←H3.out,←H5.out]
 rfl
theorem ctL7 (T:Array Value) (s:Nat→Value) (p q B n cap b o k m cm bm om:Nat) (nm:ByteArray) (sv:Int) (M:Nat→Mem) (w:World) (hF:ctF T s) (h3:s 3=.pointer (some ⟨p,0,none⟩)) (h5:s 5=.pointer (some ⟨(p+1),0,none⟩)) (h10:s 10=.pointer (some ⟨q,0,none⟩)) (c0:w.cell? ⟨p,0,none⟩=some (.slice (some ⟨b,o,none⟩) n cap)) (c1:w.cell? ⟨p+1,1,none⟩=some (.int .i64 (k:Nat))) (hk:k<n) (d2:w.cell? ⟨b,o+k*3+2,none⟩=some (.slice (some ⟨bm,om,none⟩) m cm)) (hbox:w.heap[q]?=some (.cells #[.string nm,.int .i64 sv,.slice none 0 0] 41 (0,0))) (hM:MemsAt w bm om m M) (hm0:0<m) (hm:m≤12) (hBq:B≤w.heap.size) (J:Act→World→Prop) (Q:Exit→Act→World→Prop)
  (hJ:∀ T' w' A' C',ctF T' s→CtD w' B q A' C' ⟨nm,sv,m,M⟩→Kq q w w'→J ⟨T',[]⟩ w'):Code.wp Tryz.prog (ctC [1,1,1,1,1,0]) (Exit.then J Q) ⟨T,[]⟩ w:=by
 obtain ⟨xF,rfl⟩:=ct_open hF
 unfold ctL
 rw [h3,h5,h10]
 have HJ:=hid_of hJ
 have H3:=hid_of h3
 have H5:=hid_of h5
 have H10:=hid_of h10
 clear hJ hF h3 h5 h10
 obtain ⟨i0,hi0,hz0,hz1,hz2⟩:=info_parts Tryz.infoMemH
 have HBx:=hid_of hbox
 have hql:=(Array.getElem?_eq_some_iff.1 hbox).1
 have a1:w.cell? ⟨q,2,none⟩=some (.slice none 0 0):=(Lib.cell_of_heap hbox 2).trans rfl
 have a2:w.frozen? ⟨q,2,none⟩=false:=Lib.frozen_of_heap hbox 2
 have HQ:Hid (∀ w',Below w.heap.size w w'→w'.cell? ⟨q,2,none⟩=some (.slice none 0 0)∧w'.frozen? ⟨q,2,none⟩=false):=fun w' hb=>⟨(hb.cell (p:=⟨q,2,none⟩) hql).trans a1,(hb.frozen (p:=⟨q,2,none⟩) hql).trans a2⟩
 have HXc0:Hid (∀ w',Below w.heap.size w w'→∀ j u,(cellsMb M m)[j]?=some u→w'.cell? ((⟨bm,om,none⟩:Addr).add j)=some u):=fun w' hb j u hj=>by
  rw [←rowF_mc] at hj
  obtain ⟨h1,rfl⟩:=rowF_at hj
  rw [plain_add]
  exact (hM.later hb).mc h1
 have HXo0:Hid (∀ u∈cellsMb M m,u.oneCell'=true):=by show ∀ u∈_,_;rw [←rowF_mc];exact mcV_one M (m*4)
 have HXl0:Hid ((cellsMb M m).length=m*4):=cellsMb_len M m
 obtain ⟨XS,hXS⟩:∃ XS,cellsMb M m=XS:=⟨_,rfl⟩
 have HXS:=hid_of hXS
 have HXc:Hid (∀ w',Below w.heap.size w w'→∀ j u,XS[j]?=some u→w'.cell? ((⟨bm,om,none⟩:Addr).add j)=some u):=by rw [←hXS];exact HXc0
 have HXo:Hid (∀ u∈XS,u.oneCell'=true):=by rw [←hXS];exact HXo0
 have HXl:Hid (XS.length=m*4):=by rw [←hXS];exact HXl0
 clear HXc0 HXo0 HXl0 hXS hM hbox
 conv=>arg 2;whnf
 have hkI:(k:Int)<(n:Int):=by omega
 refine wp_region_noPanic ?_
 go_region_law ((first
  | (refine step_append_lies _ (by rfl) _ _ _ (by rfl) B 43 i0 _ 4 48 Tryz.underlying39 hi0 hz0 hz1 hz2 rfl (by omega) (.slice none 0 0) 0 [] (by rfl) (World.ownsRow_nil _ _ _ _) ⟨bm,om,none⟩ m cm XS (by rfl) HXl.out (HXc.out _ (by go_grown)) HXo.out (by omega) (by unfold maxLen;omega) (by omega) (by simp;omega) _ rfl ?_;intro gg cg w6 hown6 hgrow hat hlt6;have y1:=(hgrow.cell_far ⟨q,2,none⟩ (by simp;omega) (by intro e;cases e)).trans (HQ.out _ (by go_grown)).1;have y2:=(hgrow.frozen_far ⟨q,2,none⟩ (by simp;omega) (by intro e;cases e)).trans (HQ.out _ (by go_grown)).2;have hql6:q<w6.heap.size:=Nat.lt_of_lt_of_le (by simp;omega) hgrow.size)
  | go_simp))
 all_goals rw [Nat.zero_add,List.nil_append,←HXS.out] at hown6
 all_goals (have HS2:=hid_of (CtD.put HBx.out (by go_grown) hown6 hgrow))
 all_goals clear hown6 hgrow
 all_goals go_wp2_with fail
 all_goals (
  refine HJ.out _ _ _ _ ⟨rfl,?_⟩ HS2.out.1 HS2.out.2
  rw [←H3.out,←H5.out,←H10.out]
  rfl
  )
abbrev Kb (B q:Nat) (w w':World):Prop:=Kept B (fun b=>b=q) w w'
theorem CtB.kb {w w':World} {p n cap q B:Nat} {A0:Option Addr} {wh dm mb tg sg:Int} {nm:ByteArray} (h:CtB w p A0 n cap wh dm mb tg sg nm) (hk:Kb B q w w') (hq:p+2<q) (hB:q<B):CtB w' p A0 n cap wh dm mb tg sg nm :=
 h.keep (hk.block _ (by omega) (by omega)) (hk.block _ (by omega) (by omega)) (hk.block _ (by omega) (by omega))
theorem below_kb {p q B:Nat} {w0 w w':World} (h:Below p w0 w) (hk:Kb B q w w') (hp:p≤q) (hq:q<B):Below p w0 w' :=
 ⟨hk.os.trans h.os,hk.tape.trans h.tape,hk.output.trans h.output,Nat.le_trans h.size hk.size,fun i hi=>(hk.block i (by omega) (by omega)).trans (h.block i hi)⟩
theorem CtD.set {w:World} {B q g C x:Nat} {d:Dm} {v:Value} {M':Nat→Mem} (h:CtD w B q (some ⟨g,0,none⟩) C d) (hM:(cellsMb d.mem d.n).set x v=cellsMb M' d.n):CtD (w.setCell ⟨g,x,none⟩ v) B q (some ⟨g,0,none⟩) C ⟨d.name,d.solve,d.n,M'⟩∧Kb B q w (w.setCell ⟨g,x,none⟩ v):=by
 obtain ⟨b1,b2,-,-,cm,hm⟩:=ow_blk h.row
 refine ⟨⟨(setCell_off _ _ _ _ _ (blk_ty h.box hm (by decide))).trans h.box,by have h1:=(h.row.stored x v).1;rwa [hM] at h1⟩,⟨rfl,rfl,rfl,by simp,fun i hi hx=>setCell_off _ _ _ _ _ (by omega)⟩⟩
theorem CtD.push {w wa w1:World} {B q C C':Nat} {A A':Option Addr} {d:Dm} {m:Mem} (h:CtD w B q A C d) (hb:Below w.heap.size w wa) (hB:B≤w.heap.size)
  (hown:w1.ownsRow B 43 4 (.slice A' (d.n+1) C') (d.n+1) (cellsMb d.mem d.n ++ [.string m.name,.int .i64 m.parent,.int .i64 m.sign,.string m.formula])) (hgrow:wa.grownBy w1 (Value.slice A d.n C).ownBlock):CtD (w1.setCell ⟨q,2,none⟩ (.slice A' (d.n+1) C')) B q A' C' (addD d m)∧Kb B q w (w1.setCell ⟨q,2,none⟩ (.slice A' (d.n+1) C')):=by
 rw [cellsMb_add] at hown
 have hlt:=h.lt
 have hne:=own_ne h.row h.box (by decide)
 have h1:w1.heap[q]?=some (.cells #[.string d.name,.int .i64 d.solve,.slice A d.n C] 41 (0,0)):=(hgrow.block q (Nat.lt_of_lt_of_le hlt hb.size) (fun e=>hne e.symm)).trans ((hb.block q hlt).trans h.box)
 have hne2:(Value.slice A' (d.n+1) C').ownBlock≠some q:=own_ne hown h1 (by decide)
 refine ⟨⟨by simp [World.setCell,Array.getElem?_modify,h1,addD],own_setc hown hne2⟩,⟨hgrow.os.trans hb.os,hgrow.tape.trans hb.tape,hgrow.output.trans hb.output,by simpa using Nat.le_trans hb.size hgrow.size,fun i hi hx=>?_⟩⟩
 rw [setCell_off _ _ _ _ _ hx]
 exact (hgrow.block i (Nat.lt_of_lt_of_le (Nat.lt_of_lt_of_le hi hB) hb.size) (fun e=>by have:=(h.row.lt i e.symm).1;omega)).trans (hb.block i (Nat.lt_of_lt_of_le hi hB))
theorem CtD.cells {w:World} {B q C:Nat} {A:Option Addr} {d:Dm} (h:CtD w B q A C d):w.cell? ⟨q,0,none⟩=some (.string d.name)∧w.cell? ⟨q,1,none⟩=some (.int .i64 d.solve)∧w.cell? ⟨q,2,none⟩=some (.slice A d.n C)∧w.frozen? ⟨q,2,none⟩=false∧q<w.heap.size :=
 ⟨(Lib.cell_of_heap h.box 0).trans rfl,(Lib.cell_of_heap h.box 1).trans rfl,h.c2,Lib.frozen_of_heap h.box 2,h.lt⟩
theorem ctT13 (T:Array Value) (s:Nat→Value) (wh:Int) (w:World) (hF:ctF T s)  (he:Act.eval ⟨T,[]⟩ (.tmp 107)=.int .i64 wh) (J:Act→World→Prop) (Q:Exit→Act→World→Prop)
  (hJ:∀ T',ctF T' s→Act.eval ⟨T',[]⟩ (.tmp 108)=.bool (decide (wh=1))→Act.eval ⟨T',[]⟩ (.tmp 107)=.int .i64 wh→J ⟨T',[]⟩ w):Code.wp Tryz.prog (ctC [1,1,1,1,1,1,1,1,1,0,1,3,0]) (Exit.then J Q) ⟨T,[]⟩ w:=by
 obtain ⟨xF,rfl⟩:=ct_open hF
 unfold ctL
 have HJ:=hid_of hJ
 clear hJ hF 
 have e107:xF 107=.int .i64 wh:=he
 rw [e107]
 clear he e107
 conv=>arg 2;whnf
 by_cases h0:wh=1
 ·have HL:=hid_of (decide_eq_true (p:=wh=1) h0)
  have h0b:(wh == 1)=true:=by simpa using h0
  clear h0
  go_wp2_with fail
  refine HJ.out _ ⟨rfl,?_⟩ (by rw [HL.out];rfl) rfl
  rfl
 ·have HL:=hid_of (decide_eq_false (p:=wh=1) h0)
  have h0b:(wh == 1)=false:=by simpa using h0
  clear h0
  go_wp2_with fail
  refine HJ.out _ ⟨rfl,?_⟩ (by rw [HL.out];rfl) rfl
  rfl
theorem ctT18 (T:Array Value) (s:Nat→Value) (wh:Int) (w:World) (hF:ctF T s)  (he:Act.eval ⟨T,[]⟩ (.tmp 107)=.int .i64 wh) (J:Act→World→Prop) (Q:Exit→Act→World→Prop)
  (hJ:∀ T',ctF T' s→Act.eval ⟨T',[]⟩ (.tmp 142)=.bool (decide (wh=2))→Act.eval ⟨T',[]⟩ (.tmp 107)=.int .i64 wh→J ⟨T',[]⟩ w):Code.wp Tryz.prog (ctC [1,1,1,1,1,1,1,1,1,0,1,3,1,5,0]) (Exit.then J Q) ⟨T,[]⟩ w:=by
 obtain ⟨xF,rfl⟩:=ct_open hF
 unfold ctL
 have HJ:=hid_of hJ
 clear hJ hF 
 have e107:xF 107=.int .i64 wh:=he
 rw [e107]
 clear he e107
 conv=>arg 2;whnf
 by_cases h0:wh=2
 ·have HL:=hid_of (decide_eq_true (p:=wh=2) h0)
  have h0b:(wh == 2)=true:=by simpa using h0
  clear h0
  go_wp2_with fail
  refine HJ.out _ ⟨rfl,?_⟩ (by rw [HL.out];rfl) rfl
  rfl
 ·have HL:=hid_of (decide_eq_false (p:=wh=2) h0)
  have h0b:(wh == 2)=false:=by simpa using h0
  clear h0
  go_wp2_with fail
  refine HJ.out _ ⟨rfl,?_⟩ (by rw [HL.out];rfl) rfl
  rfl
theorem ctT41 (T:Array Value) (s:Nat→Value) (wh:Int) (w:World) (hF:ctF T s)  (he:Act.eval ⟨T,[]⟩ (.tmp 107)=.int .i64 wh) (J:Act→World→Prop) (Q:Exit→Act→World→Prop)
  (hJ:∀ T',ctF T' s→Act.eval ⟨T',[]⟩ (.tmp 232)=.bool (decide (wh=3))→Act.eval ⟨T',[]⟩ (.tmp 107)=.int .i64 wh→J ⟨T',[]⟩ w):Code.wp Tryz.prog (ctC [1,1,1,1,1,1,1,1,1,0,1,3,1,5,1,5,0]) (Exit.then J Q) ⟨T,[]⟩ w:=by
 obtain ⟨xF,rfl⟩:=ct_open hF
 unfold ctL
 have HJ:=hid_of hJ
 clear hJ hF 
 have e107:xF 107=.int .i64 wh:=he
 rw [e107]
 clear he e107
 conv=>arg 2;whnf
 by_cases h0:wh=3
 ·have HL:=hid_of (decide_eq_true (p:=wh=3) h0)
  have h0b:(wh == 3)=true:=by simpa using h0
  clear h0
  go_wp2_with fail
  refine HJ.out _ ⟨rfl,?_⟩ (by rw [HL.out];rfl) rfl
  rfl
 ·have HL:=hid_of (decide_eq_false (p:=wh=3) h0)
  have h0b:(wh == 3)=false:=by simpa using h0
  clear h0
  go_wp2_with fail
  refine HJ.out _ ⟨rfl,?_⟩ (by rw [HL.out];rfl) rfl
  rfl
theorem ctT65 (T:Array Value) (s:Nat→Value) (wh:Int) (w:World) (hF:ctF T s)  (he:Act.eval ⟨T,[]⟩ (.tmp 107)=.int .i64 wh) (J:Act→World→Prop) (Q:Exit→Act→World→Prop)
  (hJ:∀ T',ctF T' s→Act.eval ⟨T',[]⟩ (.tmp 336)=.bool (decide (wh=4))→Act.eval ⟨T',[]⟩ (.tmp 107)=.int .i64 wh→J ⟨T',[]⟩ w):Code.wp Tryz.prog (ctC [1,1,1,1,1,1,1,1,1,0,1,3,1,5,1,5,1,5,0]) (Exit.then J Q) ⟨T,[]⟩ w:=by
 obtain ⟨xF,rfl⟩:=ct_open hF
 unfold ctL
 have HJ:=hid_of hJ
 clear hJ hF 
 have e107:xF 107=.int .i64 wh:=he
 rw [e107]
 clear he e107
 conv=>arg 2;whnf
 by_cases h0:wh=4
 ·have HL:=hid_of (decide_eq_true (p:=wh=4) h0)
  have h0b:(wh == 4)=true:=by simpa using h0
  clear h0
  go_wp2_with fail
  refine HJ.out _ ⟨rfl,?_⟩ (by rw [HL.out];rfl) rfl
  rfl
 ·have HL:=hid_of (decide_eq_false (p:=wh=4) h0)
  have h0b:(wh == 4)=false:=by simpa using h0
  clear h0
  go_wp2_with fail
  refine HJ.out _ ⟨rfl,?_⟩ (by rw [HL.out];rfl) rfl
  rfl
theorem ctT71 (T:Array Value) (s:Nat→Value) (wh:Int) (w:World) (hF:ctF T s)  (he:Act.eval ⟨T,[]⟩ (.tmp 107)=.int .i64 wh) (J:Act→World→Prop) (Q:Exit→Act→World→Prop)
  (hJ:∀ T',ctF T' s→Act.eval ⟨T',[]⟩ (.tmp 388)=.bool (decide (wh=5))→Act.eval ⟨T',[]⟩ (.tmp 107)=.int .i64 wh→J ⟨T',[]⟩ w):Code.wp Tryz.prog (ctC [1,1,1,1,1,1,1,1,1,0,1,3,1,5,1,5,1,5,1,5,0]) (Exit.then J Q) ⟨T,[]⟩ w:=by
 obtain ⟨xF,rfl⟩:=ct_open hF
 unfold ctL
 have HJ:=hid_of hJ
 clear hJ hF 
 have e107:xF 107=.int .i64 wh:=he
 rw [e107]
 clear he e107
 conv=>arg 2;whnf
 by_cases h0:wh=5
 ·have HL:=hid_of (decide_eq_true (p:=wh=5) h0)
  have h0b:(wh == 5)=true:=by simpa using h0
  clear h0
  go_wp2_with fail
  refine HJ.out _ ⟨rfl,?_⟩ (by rw [HL.out];rfl) rfl
  rfl
 ·have HL:=hid_of (decide_eq_false (p:=wh=5) h0)
  have h0b:(wh == 5)=false:=by simpa using h0
  clear h0
  go_wp2_with fail
  refine HJ.out _ ⟨rfl,?_⟩ (by rw [HL.out];rfl) rfl
  rfl
theorem ctL14 (T:Array Value) (s:Nat→Value) (p q B C:Nat) (A:Option Addr) (d:Dm) (nm:ByteArray) (tg sg:Int) (w:World) (hF:ctF T s) (h5:s 5=.pointer (some ⟨(p+1),0,none⟩)) (h10:s 10=.pointer (some ⟨q,0,none⟩)) (c3:w.cell? ⟨p+1,3,none⟩=some (.string nm)) (c4:w.cell? ⟨p+1,4,none⟩=some (.int .i64 tg)) (c5:w.cell? ⟨p+1,5,none⟩=some (.int .i64 sg)) (h:CtD w B q A C d) (hn:d.n≤12) (hBs:B≤w.heap.size) (J:Act→World→Prop) (Q:Exit→Act→World→Prop)
  (hJ:∀ T' w' A' C',ctF T' s→CtD w' B q A' C' (addD d ⟨nm,tg,sg,⟨#[]⟩⟩)→Kb B q w w'→J ⟨T',[]⟩ w'):Code.wp Tryz.prog (ctC [1,1,1,1,1,1,1,1,1,0,1,3,1,2,0]) (Exit.then J Q) ⟨T,[]⟩ w:=by
 obtain ⟨xF,rfl⟩:=ct_open hF
 unfold ctL
 rw [h5,h10]
 have HJ:=hid_of hJ
 have H5:=hid_of h5
 have H10:=hid_of h10
 clear hJ hF h5 h10
 obtain ⟨i0,hi0,hz0,hz1,hz2⟩:=info_parts Tryz.infoMemH
 have HV:=hid_of h
 obtain ⟨-,-,a1,a2,hql⟩:=h.cells
 have hne:=own_ne h.row h.box (by decide)
 have hown:=h.row
 obtain ⟨n,hn'⟩:∃ n,d.n=n:=⟨_,rfl⟩
 have HN:=hid_of hn'
 rw [hn'] at a1 hn hown hne
 obtain ⟨XS,hXS⟩:∃ XS,cellsMb d.mem n=XS:=⟨_,rfl⟩
 have HXS:Hid (cellsMb d.mem d.n=XS):=by rw [hn'];exact hXS
 rw [hXS] at hown
 have HO:=hid_of hown
 have HNE:Hid (some q≠(Value.slice A n C).ownBlock):=fun e=>hne e.symm
 have HQ:Hid (∀ w',Below w.heap.size w w'→w'.cell? ⟨q,2,none⟩=some (.slice A n C)∧w'.frozen? ⟨q,2,none⟩=false):=fun w' hb=>⟨(hb.cell (p:=⟨q,2,none⟩) hql).trans a1,(hb.frozen (p:=⟨q,2,none⟩) hql).trans a2⟩
 clear h hown hXS hn' hne
 conv=>arg 2;whnf
 go_wp2_with (at_builtin;refine wpList_append_lies _ rfl _ _ 39 rfl B 43 i0 _ 4 48 Tryz.underlying39 hi0 hz0 hz1 hz2 rfl (by omega) (.slice A n C) n XS (by rfl) (own_stays HO.out (by go_grown)) ⟨w.heap.size,0,none⟩ 1 1 [.string nm,.int .i64 tg,.int .i64 sg,.string ⟨#[]⟩] (by rfl) (by rfl) (World.news_of_block (cs := #[.string nm,.int .i64 tg,.int .i64 sg,.string ⟨#[]⟩]) (t:=43) (fr:=(0,0)) (heap_alloc_new _ _)) (by simp [Value.oneCell']) (by omega) (by unfold maxLen;omega) (by omega) (by simp;omega) (w.heap.size+1) (by simp) ?_;intro gg cg w6 hown6 hgrow hat hlt6;have y1:=(hgrow.cell_far ⟨q,2,none⟩ (by simp;omega) HNE.out).trans (HQ.out _ (by go_grown)).1;have y2:=(hgrow.frozen_far ⟨q,2,none⟩ (by simp;omega) HNE.out).trans (HQ.out _ (by go_grown)).2;have hql6:q<w6.heap.size:=Nat.lt_of_lt_of_le (by simp;omega) hgrow.size)
 all_goals rw [←HXS.out,←HN.out] at hown6
 all_goals rw [←HN.out] at hgrow
 all_goals (have HS2:=hid_of (CtD.push (m:=⟨nm,tg,sg,⟨#[]⟩⟩) HV.out (by go_grown) hBs hown6 hgrow))
 all_goals rw [HN.out] at HS2
 all_goals clear hown6 hgrow
 all_goals go_wp2_with fail
 all_goals (
  refine HJ.out _ _ _ _ ⟨rfl,?_⟩ HS2.out.1 HS2.out.2
  rw [←H5.out,←H10.out]
  rfl
  )
theorem ctL15 (T:Array Value) (s:Nat→Value) (q m C:Nat) (A:Option Addr) (dnm:ByteArray) (sv:Int) (E:Int) (w:World) (hF:ctF T s) (h10:s 10=.pointer (some ⟨q,0,none⟩)) (d0:w.cell? ⟨q,0,none⟩=some (.string dnm)) (d1:w.cell? ⟨q,1,none⟩=some (.int .i64 sv)) (d2:w.cell? ⟨q,2,none⟩=some (.slice A m C)) (hcall:Calls Tryz.prog 10 #[.agg #[.string dnm,.int .i64 sv,.slice A m C]] w fun e w'=>(∃ v,e=.returned (.tuple #[v,.int .i64 E]))∧Below w.heap.size w w') (J:Act→World→Prop) (Q:Exit→Act→World→Prop)
  (hJ:∀ T' w',ctF T' (upG s 9 (.int .i64 E))→Below w.heap.size w w'→J ⟨T',[]⟩ w'):Code.wp Tryz.prog (ctC [1,1,1,1,1,1,1,1,1,0,1,3,1,2,1,0]) (Exit.then J Q) ⟨T,[]⟩ w:=by
 obtain ⟨xF,rfl⟩:=ct_open hF
 unfold ctL
 rw [h10]
 have HJ:=hid_of hJ
 have H10:=hid_of h10
 clear hJ hF h10
 conv=>arg 2;whnf
 go_wp2_with fail
 refine hcall.mono ?_
 rintro e w1 ⟨⟨v,rfl⟩,hb⟩
 have HX:=hid_of hb
 clear hcall hb
 go_wp2_with fail
 refine HJ.out _ w1 ⟨rfl,?_⟩ HX.out
 rw [←H10.out]
 rfl
theorem ctL16 (T:Array Value) (s:Nat→Value) (p xl ce:Nat) (AE:Option Addr) (E dm tg:Int) (wr:Bool) (w:World) (hF:ctF T s) (h1:s 1=.slice AE xl ce) (h5:s 5=.pointer (some ⟨(p+1),0,none⟩)) (h9:s 9=.int .i64 E) (c1:w.cell? ⟨p+1,1,none⟩=some (.int .i64 dm)) (c4:w.cell? ⟨p+1,4,none⟩=some (.int .i64 tg)) (hcall:E=0→0≤tg→Calls Tryz.prog 11 #[.slice AE xl ce,.int .i64 dm,.int .i64 tg] w fun e w'=>e=.returned (.bool wr)∧Below w.heap.size w w') (J:Act→World→Prop) (Q:Exit→Act→World→Prop)
  (hJ:∀ T' w',ctF T' s→Act.eval ⟨T',[]⟩ (.tmp 141)=.bool (decide (E=0∧0≤tg∧wr=true))→Below w.heap.size w w'→J ⟨T',[]⟩ w'):Code.wp Tryz.prog (ctC [1,1,1,1,1,1,1,1,1,0,1,3,1,2,1,1,0]) (Exit.then J Q) ⟨T,[]⟩ w:=by
 obtain ⟨xF,rfl⟩:=ct_open hF
 unfold ctL
 rw [h1,h5,h9]
 have HJ:=hid_of hJ
 have H1:=hid_of h1
 have H5:=hid_of h5
 have H9:=hid_of h9
 clear hJ hF h1 h5 h9
 conv=>arg 2;whnf
 by_cases h0:E=0
 ·by_cases h1:0≤tg
  ·have hc:=hcall h0 h1
   have HL:Hid (wr=decide (E=0∧0≤tg∧wr=true)):=by show _=_;simp [h0,h1]
   have h0b:(E == 0)=true:=by simpa using h0
   clear h0 hcall
   go_wp2_with fail
   refine hc.mono ?_
   rintro e w1 ⟨rfl,hb⟩
   have HX:=hid_of hb
   clear hc hb
   go_wp2_with fail
   refine HJ.out _ w1 ⟨rfl,?_⟩ (by rw [←HL.out];rfl) HX.out
   rw [←H1.out,←H5.out,←H9.out]
   rfl
  ·have HL:=hid_of (decide_eq_false (p:=E=0∧0≤tg∧wr=true) (fun h=>h1 h.2.1))
   have h0b:(E == 0)=true:=by simpa using h0
   clear h0 hcall
   go_wp2_with fail
   refine HJ.out _ w ⟨rfl,?_⟩ (by rw [HL.out];rfl) (Below.refl _ _)
   rw [←H1.out,←H5.out,←H9.out]
   rfl
 ·have HL:=hid_of (decide_eq_false (p:=E=0∧0≤tg∧wr=true) (fun h=>h0 h.1))
  have h0b:(E == 0)=false:=by simpa using h0
  clear h0 hcall
  go_wp2_with fail
  refine HJ.out _ w ⟨rfl,?_⟩ (by rw [HL.out];rfl) (Below.refl _ _)
  rw [←H1.out,←H5.out,←H9.out]
  rfl
theorem ctL17 (T:Array Value) (s:Nat→Value)  (w:World) (hF:ctF T s)   (J:Act→World→Prop) (Q:Exit→Act→World→Prop)
  (hJ:∀ T',ctF T' (upG s 9 (.int .i64 6))→J ⟨T',[]⟩ w):Code.wp Tryz.prog (ctC [1,1,1,1,1,1,1,1,1,0,1,3,1,2,1,1,1,2]) (Exit.then J Q) ⟨T,[]⟩ w:=by
 obtain ⟨xF,rfl⟩:=ct_open hF
 unfold ctL
 have HJ:=hid_of hJ
 clear hJ hF 
 conv=>arg 2;whnf
 go_wp2_with fail
 refine HJ.out _ ⟨rfl,?_⟩ 
 rfl
theorem ctR20 (T:Array Value) (s:Nat→Value) (q:Nat) (x:Value)  (w:World) (hF:ctF T s) (h6:s 6=.pointer (some ⟨q,0,none⟩)) (hq:w.heap[q]?=some (.cells #[x] 24 (0,0))) (J Rt:Act→World→Prop)
  (hJ:∀ T',ctF T' (upG (upG s 7 (.slice none 0 0)) 8 (.int .i64 6))→Rt ⟨T',[]⟩ (w.setCell ⟨q,0,none⟩ (.slice none 0 0))):Code.wp Tryz.prog (ctC [1,1,1,1,1,1,1,1,1,0,1,3,1,5,1,2,0,1,2]) (Exit.then J (QR Rt)) ⟨T,[]⟩ w:=by
 obtain ⟨xF,rfl⟩:=ct_open hF
 unfold ctL
 rw [h6]
 have HJ:=hid_of hJ
 have H6:=hid_of h6
 clear hJ hF h6
 have a1:w.cell? ⟨q,0,none⟩=some x:=(Lib.cell_of_heap hq 0).trans rfl
 have a2:w.frozen? ⟨q,0,none⟩=false:=Lib.frozen_of_heap hq 0
 have a3:=(Array.getElem?_eq_some_iff.1 hq).1
 clear hq
 conv=>arg 2;whnf
 go_wp2_with fail
 show Rt _ _
 refine HJ.out _ ⟨rfl,?_⟩ 
 rw [←H6.out]
 rfl
theorem ctR67 (T:Array Value) (s:Nat→Value) (q:Nat) (x:Value)  (w:World) (hF:ctF T s) (h6:s 6=.pointer (some ⟨q,0,none⟩)) (hq:w.heap[q]?=some (.cells #[x] 24 (0,0))) (J Rt:Act→World→Prop)
  (hJ:∀ T',ctF T' (upG (upG s 7 (.slice none 0 0)) 8 (.int .i64 1))→Rt ⟨T',[]⟩ (w.setCell ⟨q,0,none⟩ (.slice none 0 0))):Code.wp Tryz.prog (ctC [1,1,1,1,1,1,1,1,1,0,1,3,1,5,1,5,1,5,1,2,0,1,2]) (Exit.then J (QR Rt)) ⟨T,[]⟩ w:=by
 obtain ⟨xF,rfl⟩:=ct_open hF
 unfold ctL
 rw [h6]
 have HJ:=hid_of hJ
 have H6:=hid_of h6
 clear hJ hF h6
 have a1:w.cell? ⟨q,0,none⟩=some x:=(Lib.cell_of_heap hq 0).trans rfl
 have a2:w.frozen? ⟨q,0,none⟩=false:=Lib.frozen_of_heap hq 0
 have a3:=(Array.getElem?_eq_some_iff.1 hq).1
 clear hq
 conv=>arg 2;whnf
 go_wp2_with fail
 show Rt _ _
 refine HJ.out _ ⟨rfl,?_⟩ 
 rw [←H6.out]
 rfl
theorem ctR69 (T:Array Value) (s:Nat→Value) (q:Nat) (x:Value)  (w:World) (hF:ctF T s) (h6:s 6=.pointer (some ⟨q,0,none⟩)) (hq:w.heap[q]?=some (.cells #[x] 24 (0,0))) (J Rt:Act→World→Prop)
  (hJ:∀ T',ctF T' (upG (upG s 7 (.slice none 0 0)) 8 (.int .i64 6))→Rt ⟨T',[]⟩ (w.setCell ⟨q,0,none⟩ (.slice none 0 0))):Code.wp Tryz.prog (ctC [1,1,1,1,1,1,1,1,1,0,1,3,1,5,1,5,1,5,1,2,1,0,1,2]) (Exit.then J (QR Rt)) ⟨T,[]⟩ w:=by
 obtain ⟨xF,rfl⟩:=ct_open hF
 unfold ctL
 rw [h6]
 have HJ:=hid_of hJ
 have H6:=hid_of h6
 clear hJ hF h6
 have a1:w.cell? ⟨q,0,none⟩=some x:=(Lib.cell_of_heap hq 0).trans rfl
 have a2:w.frozen? ⟨q,0,none⟩=false:=Lib.frozen_of_heap hq 0
 have a3:=(Array.getElem?_eq_some_iff.1 hq).1
 clear hq
 conv=>arg 2;whnf
 go_wp2_with fail
 show Rt _ _
 refine HJ.out _ ⟨rfl,?_⟩ 
 rw [←H6.out]
 rfl
theorem ctR73 (T:Array Value) (s:Nat→Value) (q:Nat) (x:Value)  (w:World) (hF:ctF T s) (h6:s 6=.pointer (some ⟨q,0,none⟩)) (hq:w.heap[q]?=some (.cells #[x] 24 (0,0))) (J Rt:Act→World→Prop)
  (hJ:∀ T',ctF T' (upG (upG s 7 (.slice none 0 0)) 8 (.int .i64 1))→Rt ⟨T',[]⟩ (w.setCell ⟨q,0,none⟩ (.slice none 0 0))):Code.wp Tryz.prog (ctC [1,1,1,1,1,1,1,1,1,0,1,3,1,5,1,5,1,5,1,5,1,2,0,1,2]) (Exit.then J (QR Rt)) ⟨T,[]⟩ w:=by
 obtain ⟨xF,rfl⟩:=ct_open hF
 unfold ctL
 rw [h6]
 have HJ:=hid_of hJ
 have H6:=hid_of h6
 clear hJ hF h6
 have a1:w.cell? ⟨q,0,none⟩=some x:=(Lib.cell_of_heap hq 0).trans rfl
 have a2:w.frozen? ⟨q,0,none⟩=false:=Lib.frozen_of_heap hq 0
 have a3:=(Array.getElem?_eq_some_iff.1 hq).1
 clear hq
 conv=>arg 2;whnf
 go_wp2_with fail
 show Rt _ _
 refine HJ.out _ ⟨rfl,?_⟩ 
 rw [←H6.out]
 rfl
theorem ctR76 (T:Array Value) (s:Nat→Value) (q:Nat) (x:Value) (E:Int) (w:World) (hF:ctF T s) (h6:s 6=.pointer (some ⟨q,0,none⟩)) (h9:s 9=.int .i64 E) (hq:w.heap[q]?=some (.cells #[x] 24 (0,0))) (J Rt:Act→World→Prop)
  (hJ:∀ T',ctF T' (upG (upG s 7 (.slice none 0 0)) 8 (.int .i64 E))→Rt ⟨T',[]⟩ (w.setCell ⟨q,0,none⟩ (.slice none 0 0))):Code.wp Tryz.prog (ctC [1,1,1,1,1,1,1,1,1,1,0,1,2]) (Exit.then J (QR Rt)) ⟨T,[]⟩ w:=by
 obtain ⟨xF,rfl⟩:=ct_open hF
 unfold ctL
 rw [h6,h9]
 have HJ:=hid_of hJ
 have H6:=hid_of h6
 have H9:=hid_of h9
 clear hJ hF h6 h9
 have a1:w.cell? ⟨q,0,none⟩=some x:=(Lib.cell_of_heap hq 0).trans rfl
 have a2:w.frozen? ⟨q,0,none⟩=false:=Lib.frozen_of_heap hq 0
 have a3:=(Array.getElem?_eq_some_iff.1 hq).1
 clear hq
 conv=>arg 2;whnf
 go_wp2_with fail
 show Rt _ _
 refine HJ.out _ ⟨rfl,?_⟩ 
 rw [←H6.out,←H9.out]
 rfl
theorem ctR80 (T:Array Value) (s:Nat→Value) (q:Nat) (x:Value) (E:Int) (w:World) (hF:ctF T s) (h6:s 6=.pointer (some ⟨q,0,none⟩)) (h9:s 9=.int .i64 E) (hq:w.heap[q]?=some (.cells #[x] 24 (0,0))) (J Rt:Act→World→Prop)
  (hJ:∀ T',ctF T' (upG (upG s 7 (.slice none 0 0)) 8 (.int .i64 E))→Rt ⟨T',[]⟩ (w.setCell ⟨q,0,none⟩ (.slice none 0 0))):Code.wp Tryz.prog (ctC [1,1,1,1,1,1,1,1,1,1,1,1,1,0,1,2]) (Exit.then J (QR Rt)) ⟨T,[]⟩ w:=by
 obtain ⟨xF,rfl⟩:=ct_open hF
 unfold ctL
 rw [h6,h9]
 have HJ:=hid_of hJ
 have H6:=hid_of h6
 have H9:=hid_of h9
 clear hJ hF h6 h9
 have a1:w.cell? ⟨q,0,none⟩=some x:=(Lib.cell_of_heap hq 0).trans rfl
 have a2:w.frozen? ⟨q,0,none⟩=false:=Lib.frozen_of_heap hq 0
 have a3:=(Array.getElem?_eq_some_iff.1 hq).1
 clear hq
 conv=>arg 2;whnf
 go_wp2_with fail
 show Rt _ _
 refine HJ.out _ ⟨rfl,?_⟩ 
 rw [←H6.out,←H9.out]
 rfl
theorem ctL75 (T:Array Value) (s:Nat→Value) (E:Int) (w:World) (hF:ctF T s) (h9:s 9=.int .i64 E)  (J:Act→World→Prop) (Q:Exit→Act→World→Prop)
  (hJ:∀ T',ctF T' s→Act.eval ⟨T',[]⟩ (.tmp 407)=.bool (decide (E≠0))→J ⟨T',[]⟩ w):Code.wp Tryz.prog (ctC [1,1,1,1,1,1,1,1,1,1,0,0]) (Exit.then J Q) ⟨T,[]⟩ w:=by
 obtain ⟨xF,rfl⟩:=ct_open hF
 unfold ctL
 rw [h9]
 have HJ:=hid_of hJ
 have H9:=hid_of h9
 clear hJ hF h9
 conv=>arg 2;whnf
 by_cases h0:E=0
 ·have HL:=hid_of (decide_eq_false (p:=E≠0) (by omega))
  have h0b:(E == 0)=true:=by simpa using h0
  have h0c:(E != 0)=false:=by simpa using h0
  clear h0
  go_wp2_with fail
  refine HJ.out _ ⟨rfl,?_⟩ (by rw [HL.out];rfl)
  rw [←H9.out]
  rfl
 ·have HL:=hid_of (decide_eq_true (p:=E≠0) h0)
  have h0b:(E == 0)=false:=by simpa using h0
  have h0c:(E != 0)=true:=by simpa using h0
  clear h0
  go_wp2_with fail
  refine HJ.out _ ⟨rfl,?_⟩ (by rw [HL.out];rfl)
  rw [←H9.out]
  rfl
theorem ctL79 (T:Array Value) (s:Nat→Value) (E:Int) (w:World) (hF:ctF T s) (h9:s 9=.int .i64 E)  (J:Act→World→Prop) (Q:Exit→Act→World→Prop)
  (hJ:∀ T',ctF T' s→Act.eval ⟨T',[]⟩ (.tmp 418)=.bool (decide (E≠0))→J ⟨T',[]⟩ w):Code.wp Tryz.prog (ctC [1,1,1,1,1,1,1,1,1,1,1,1,1,0,0]) (Exit.then J Q) ⟨T,[]⟩ w:=by
 obtain ⟨xF,rfl⟩:=ct_open hF
 unfold ctL
 rw [h9]
 have HJ:=hid_of hJ
 have H9:=hid_of h9
 clear hJ hF h9
 conv=>arg 2;whnf
 by_cases h0:E=0
 ·have HL:=hid_of (decide_eq_false (p:=E≠0) (by omega))
  have h0b:(E == 0)=true:=by simpa using h0
  have h0c:(E != 0)=false:=by simpa using h0
  clear h0
  go_wp2_with fail
  refine HJ.out _ ⟨rfl,?_⟩ (by rw [HL.out];rfl)
  rw [←H9.out]
  rfl
 ·have HL:=hid_of (decide_eq_true (p:=E≠0) h0)
  have h0b:(E == 0)=false:=by simpa using h0
  have h0c:(E != 0)=true:=by simpa using h0
  clear h0
  go_wp2_with fail
  refine HJ.out _ ⟨rfl,?_⟩ (by rw [HL.out];rfl)
  rw [←H9.out]
  rfl
theorem ctL66 (T:Array Value) (s:Nat→Value) (p i:Nat) (tg:Int) (w:World) (hF:ctF T s) (h5:s 5=.pointer (some ⟨(p+1),0,none⟩)) (h12:s 12=.int .i64 (i:Nat)) (c4:w.cell? ⟨p+1,4,none⟩=some (.int .i64 tg)) (J:Act→World→Prop) (Q:Exit→Act→World→Prop)
  (hJ:∀ T',ctF T' s→Act.eval ⟨T',[]⟩ (.tmp 346)=.bool (decide (tg < -1∨(i:Int)≤tg))→J ⟨T',[]⟩ w):Code.wp Tryz.prog (ctC [1,1,1,1,1,1,1,1,1,0,1,3,1,5,1,5,1,5,1,2,0,0]) (Exit.then J Q) ⟨T,[]⟩ w:=by
 obtain ⟨xF,rfl⟩:=ct_open hF
 unfold ctL
 rw [h5,h12]
 have HJ:=hid_of hJ
 have H5:=hid_of h5
 have H12:=hid_of h12
 clear hJ hF h5 h12
 conv=>arg 2;whnf
 by_cases h1:tg < -1
 ·have HL:=hid_of (decide_eq_true (p:=tg < -1∨(i:Int)≤tg) (Or.inl h1))
  go_wp2_with fail
  refine HJ.out _ ⟨rfl,?_⟩ (by rw [HL.out];rfl)
  rw [←H5.out,←H12.out]
  rfl
 by_cases h2:(i:Int)≤tg
 ·have HL:=hid_of (decide_eq_true (p:=tg < -1∨(i:Int)≤tg) (Or.inr h2))
  go_wp2_with fail
  refine HJ.out _ ⟨rfl,?_⟩ (by rw [HL.out];rfl)
  rw [←H5.out,←H12.out]
  rfl
 have HL:=hid_of (decide_eq_false (p:=tg < -1∨(i:Int)≤tg) (fun h=>h.elim h1 h2))
 go_wp2_with fail
 refine HJ.out _ ⟨rfl,?_⟩ (by rw [HL.out];rfl)
 rw [←H5.out,←H12.out]
 rfl
theorem ctL72 (T:Array Value) (s:Nat→Value) (p:Nat) (sg:Int) (w:World) (hF:ctF T s) (h5:s 5=.pointer (some ⟨(p+1),0,none⟩)) (c5:w.cell? ⟨p+1,5,none⟩=some (.int .i64 sg)) (J:Act→World→Prop) (Q:Exit→Act→World→Prop)
  (hJ:∀ T',ctF T' s→Act.eval ⟨T',[]⟩ (.tmp 397)=.bool (decide (sg < -1∨1<sg))→J ⟨T',[]⟩ w):Code.wp Tryz.prog (ctC [1,1,1,1,1,1,1,1,1,0,1,3,1,5,1,5,1,5,1,5,1,2,0,0]) (Exit.then J Q) ⟨T,[]⟩ w:=by
 obtain ⟨xF,rfl⟩:=ct_open hF
 unfold ctL
 rw [h5]
 have HJ:=hid_of hJ
 have H5:=hid_of h5
 clear hJ hF h5
 conv=>arg 2;whnf
 by_cases h1:sg < -1
 ·have HL:=hid_of (decide_eq_true (p:=sg < -1∨1<sg) (Or.inl h1))
  go_wp2_with fail
  refine HJ.out _ ⟨rfl,?_⟩ (by rw [HL.out];rfl)
  rw [←H5.out]
  rfl
 by_cases h2:1<sg
 ·have HL:=hid_of (decide_eq_true (p:=sg < -1∨1<sg) (Or.inr h2))
  go_wp2_with fail
  refine HJ.out _ ⟨rfl,?_⟩ (by rw [HL.out];rfl)
  rw [←H5.out]
  rfl
 have HL:=hid_of (decide_eq_false (p:=sg < -1∨1<sg) (fun h=>h.elim h1 h2))
 go_wp2_with fail
 refine HJ.out _ ⟨rfl,?_⟩ (by rw [HL.out];rfl)
 rw [←H5.out]
 rfl
theorem ctL64 (T:Array Value) (s:Nat→Value) (p q B g C i:Nat) (d:Dm) (M':Nat→Mem) (nm:ByteArray) (w:World) (hF:ctF T s) (h5:s 5=.pointer (some ⟨(p+1),0,none⟩)) (h10:s 10=.pointer (some ⟨q,0,none⟩)) (h12:s 12=.int .i64 (i:Nat)) (cv:w.cell? ⟨p+1,3,none⟩=some (.string nm)) (h:CtD w B q (some ⟨g,0,none⟩) C d) (hi:i<d.n) (hM:(cellsMb d.mem d.n).set (i*4) (.string nm)=cellsMb M' d.n) (J:Act→World→Prop) (Q:Exit→Act→World→Prop)
  (hJ:∀ T' w',ctF T' s→CtD w' B q (some ⟨g,0,none⟩) C ⟨d.name,d.solve,d.n,M'⟩→Kb B q w w'→J ⟨T',[]⟩ w'):Code.wp Tryz.prog (ctC [1,1,1,1,1,1,1,1,1,0,1,3,1,5,1,5,1,2,1,1,1,1,1]) (Exit.then J Q) ⟨T,[]⟩ w:=by
 obtain ⟨xF,rfl⟩:=ct_open hF
 unfold ctL
 rw [h5,h10,h12]
 have HJ:=hid_of hJ
 have H5:=hid_of h5
 have H10:=hid_of h10
 have H12:=hid_of h12
 clear hJ hF h5 h10 h12
 obtain ⟨-,-,a1,-,hql⟩:=h.cells
 obtain ⟨-,hgl,hcc,-,cm,hcm⟩:=ow_blk h.row
 have hx:=(h.row.cellAt (i*4) (by omega)).trans (cellsMb_at d.mem d.n i hi).1
 have hfz:=h.row.frozenAt (i*4)
 have HS2:=hid_of (h.set hM)
 have hiI:(i:Int)<(d.n:Int):=by omega
 have hcI:(d.n:Int)≤(C:Int):=by omega
 clear h hM hcm
 conv=>arg 2;whnf
 go_wp2_with fail
 refine HJ.out _ _ ⟨rfl,?_⟩ HS2.out.1 HS2.out.2
 rw [←H5.out,←H10.out,←H12.out]
 rfl
theorem ctL70 (T:Array Value) (s:Nat→Value) (p q B g C i:Nat) (d:Dm) (M':Nat→Mem) (tg:Int) (w:World) (hF:ctF T s) (h5:s 5=.pointer (some ⟨(p+1),0,none⟩)) (h10:s 10=.pointer (some ⟨q,0,none⟩)) (h12:s 12=.int .i64 (i:Nat)) (cv:w.cell? ⟨p+1,4,none⟩=some (.int .i64 tg)) (h:CtD w B q (some ⟨g,0,none⟩) C d) (hi:i<d.n) (hM:(cellsMb d.mem d.n).set (i*4+1) (.int .i64 tg)=cellsMb M' d.n) (J:Act→World→Prop) (Q:Exit→Act→World→Prop)
  (hJ:∀ T' w',ctF T' s→CtD w' B q (some ⟨g,0,none⟩) C ⟨d.name,d.solve,d.n,M'⟩→Kb B q w w'→J ⟨T',[]⟩ w'):Code.wp Tryz.prog (ctC [1,1,1,1,1,1,1,1,1,0,1,3,1,5,1,5,1,5,1,2,1,1]) (Exit.then J Q) ⟨T,[]⟩ w:=by
 obtain ⟨xF,rfl⟩:=ct_open hF
 unfold ctL
 rw [h5,h10,h12]
 have HJ:=hid_of hJ
 have H5:=hid_of h5
 have H10:=hid_of h10
 have H12:=hid_of h12
 clear hJ hF h5 h10 h12
 obtain ⟨-,-,a1,-,hql⟩:=h.cells
 obtain ⟨-,hgl,hcc,-,cm,hcm⟩:=ow_blk h.row
 have hx:=(h.row.cellAt (i*4+1) (by omega)).trans (cellsMb_at d.mem d.n i hi).2.1
 have hfz:=h.row.frozenAt (i*4+1)
 have HS2:=hid_of (h.set hM)
 have hiI:(i:Int)<(d.n:Int):=by omega
 have hcI:(d.n:Int)≤(C:Int):=by omega
 clear h hM hcm
 conv=>arg 2;whnf
 go_wp2_with fail
 refine HJ.out _ _ ⟨rfl,?_⟩ HS2.out.1 HS2.out.2
 rw [←H5.out,←H10.out,←H12.out]
 rfl
theorem ctL74 (T:Array Value) (s:Nat→Value) (p q B g C i:Nat) (d:Dm) (M':Nat→Mem) (sg:Int) (w:World) (hF:ctF T s) (h5:s 5=.pointer (some ⟨(p+1),0,none⟩)) (h10:s 10=.pointer (some ⟨q,0,none⟩)) (h12:s 12=.int .i64 (i:Nat)) (cv:w.cell? ⟨p+1,5,none⟩=some (.int .i64 sg)) (h:CtD w B q (some ⟨g,0,none⟩) C d) (hi:i<d.n) (hM:(cellsMb d.mem d.n).set (i*4+2) (.int .i64 sg)=cellsMb M' d.n) (J:Act→World→Prop) (Q:Exit→Act→World→Prop)
  (hJ:∀ T' w',ctF T' s→CtD w' B q (some ⟨g,0,none⟩) C ⟨d.name,d.solve,d.n,M'⟩→Kb B q w w'→J ⟨T',[]⟩ w'):Code.wp Tryz.prog (ctC [1,1,1,1,1,1,1,1,1,0,1,3,1,5,1,5,1,5,1,5,1,2,1]) (Exit.then J Q) ⟨T,[]⟩ w:=by
 obtain ⟨xF,rfl⟩:=ct_open hF
 unfold ctL
 rw [h5,h10,h12]
 have HJ:=hid_of hJ
 have H5:=hid_of h5
 have H10:=hid_of h10
 have H12:=hid_of h12
 clear hJ hF h5 h10 h12
 obtain ⟨-,-,a1,-,hql⟩:=h.cells
 obtain ⟨-,hgl,hcc,-,cm,hcm⟩:=ow_blk h.row
 have hx:=(h.row.cellAt (i*4+2) (by omega)).trans (cellsMb_at d.mem d.n i hi).2.2.1
 have hfz:=h.row.frozenAt (i*4+2)
 have HS2:=hid_of (h.set hM)
 have hiI:(i:Int)<(d.n:Int):=by omega
 have hcI:(d.n:Int)≤(C:Int):=by omega
 clear h hM hcm
 conv=>arg 2;whnf
 go_wp2_with fail
 refine HJ.out _ _ ⟨rfl,?_⟩ HS2.out.1 HS2.out.2
 rw [←H5.out,←H10.out,←H12.out]
 rfl
end Go.Proofs.YtfldgghobddgkaaGreatDoor
