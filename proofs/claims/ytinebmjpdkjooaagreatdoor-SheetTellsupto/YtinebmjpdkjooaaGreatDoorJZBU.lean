/-
  tallyref2.ReadSheet, what it holds while it reads; a dim, a member, a place put behind.
-/
import Derived.Shelf.Spec.SlicesInsertGrow
import Derived.Test.YtinebmjpdkjooaaGreatDoorJZBK
import Derived.Test.YtinebmjpdkjooaaGreatDoorJZBL
namespace Go.Proofs.YtinebmjpdkjooaaGreatDoor
open Go Go.ChangeShapes Go.WideShapes Go.ChangeAt Go.RowKit
set_option maxRecDepth 1000000
set_option maxHeartbeats 64000000
theorem box1_sR {w:World} {q T:Nat} {a v:Value} (h:w.heap[q]?=some (.cells #[a] T (0,0))):(w.setCell ⟨q,0,none⟩ v).heap[q]?=some (.cells #[v] T (0,0)):=by simp [World.setCell,Array.getElem?_modify,h]
structure RsM (q B:Nat) (S:RdQ) (A:Nat→Option Addr) (C:Nat→Nat) (vd va vn:Value) (w:World):Prop where
 lt:q<B
 size:B≤w.heap.size
 box:w.heap[q]?=some (.cells #[vd] 24 (0,0))
 dm:DmV w B vd A C S.dims
 at_:w.ownsRow B 9 1 va S.pl.length (S.pl.map fun t=>.string t)
 num:w.ownsRow B 3 1 vn S.pl.length (S.num.map fun x=>.int .i64 x)
theorem RsM.later {q B:Nat} {S:RdQ} {A:Nat→Option Addr} {C:Nat→Nat} {vd va vn:Value} {w w':World} (h:RsM q B S A C vd va vn w) (hb:Below w.heap.size w w'):RsM q B S A C vd va vn w' :=
 ⟨h.lt,Nat.le_trans h.size hb.size,(hb.block q (Nat.lt_of_lt_of_le h.lt h.size)).trans h.box,h.dm.later hb,own_later h.at_ hb,own_later h.num hb⟩
theorem kept_onB {B q:Nat} {w w':World} (hs:B≤w.heap.size) (hb:Below w.heap.size w w'):Kept B (fun b=>b=q) w w':=kept_below hb hs
theorem kept_row {B q:Nat} {w wa w1:World} {v:Value} (hs:B≤w.heap.size) (hb:Below w.heap.size w wa) (hv:∀ g,v.ownBlock=some g→B≤g) (hg:wa.grownBy w1 v.ownBlock):Kept B (fun b=>b=q) w w1 :=
 ⟨hg.os.trans hb.os,hg.tape.trans hb.tape,hg.output.trans hb.output,Nat.le_trans hb.size hg.size,fun i hi _=>(hg.block i (Nat.lt_of_lt_of_le hi (Nat.le_trans hs hb.size)) fun e=>Nat.lt_irrefl _ (Nat.lt_of_lt_of_le hi (hv i e.symm))).trans (hb.block i (Nat.lt_of_lt_of_le hi hs))⟩
theorem kept_setM {B q g j:Nat} {w w1:World} {v:Value} (h:Kept B (fun b=>b=q) w w1) (hg:g=q∨B≤g):Kept B (fun b=>b=q) w (w1.setCell ⟨g,j,none⟩ v) :=
 ⟨h.os,h.tape,h.output,by simpa using h.size,fun i hi hx=>(setCell_off _ _ _ _ _ fun e=>hg.elim (fun h1=>hx (e.trans h1)) fun h1=>by omega).trans (h.block i hi hx)⟩
theorem RsM.dim {q B:Nat} {S:RdQ} {A:Nat→Option Addr} {C:Nat→Nat} {vd va vn v':Value} {w wa w1:World} {nm:ByteArray} {sv:Int} (h:RsM q B S A C vd va vn w) (hb:Below w.heap.size w wa)
  (hown:w1.ownsRow B 43 3 v' (S.dims.length+1) (cellsDo (dmL S.dims) A C S.dims.length ++ [.string nm,.int .i64 sv,.slice none 0 0])) (hgrow:wa.grownBy w1 vd.ownBlock) :
  RsM q B ⟨S.dims ++ [⟨nm,sv,[]⟩],S.pl,S.num,S.first⟩ (fun j=>if j<S.dims.length then A j else none) (fun j=>if j<S.dims.length then C j else 0) v' va vn (w1.setCell ⟨q,0,none⟩ v')∧Kept B (fun b=>b=q) w (w1.setCell ⟨q,0,none⟩ v'):=by
 have hq:=h.lt
 have hsz:=h.size
 have hkeep:∀ (b:Nat) (cs:Array Value) (fr:Nat×Nat) (t:Nat),w.heap[b]?=some (Obj.cells cs t fr)→t≠43→w1.heap[b]?=w.heap[b]?:=fun b cs fr t hx ht=>by
  have hlt:=(Array.getElem?_eq_some_iff.1 hx).1
  exact (hgrow.block b (Nat.lt_of_lt_of_le hlt hb.size) fun e=>own_ne h.dm.dims hx ht e.symm).trans (hb.block b hlt)
 have hbox:=(hkeep q _ _ _ h.box (by decide)).trans h.box
 have hvq:v'.ownBlock≠some q:=fun e=>by have:=(hown.lt q e).1;omega
 have hrow:∀ (e size n:Nat) (v:Value) (xs:List Value),e≠43→w.ownsRow B e size v n xs→(w1.setCell ⟨q,0,none⟩ v').ownsRow B e size v n xs:=fun e size n v xs he ho=>own_kept ho fun b hx=>by
  obtain ⟨h1,-,cur,h3⟩:=own_blk ho hx
  rw [setCell_off _ _ _ _ _ (by omega)]
  exact hkeep b cur _ _ h3 he
 have hs1:w.heap.size≤w1.heap.size:=Nat.le_trans hb.size hgrow.size
 refine ⟨⟨hq,by simp;omega,box1_sR hbox,h.dm.push (fun b cs fr hB hx=>?_) (own_setc hown hvq),hrow _ _ _ _ _ (by decide) h.at_,hrow _ _ _ _ _ (by decide) h.num⟩,kept_setM (kept_row hsz hb (fun g hg=>(h.dm.dims.lt g hg).1) hgrow) (Or.inl rfl)⟩
 rw [setCell_off _ _ _ _ _ (by omega)]
 exact hkeep b cs fr _ hx (by decide)
theorem RsM.mem {q B gd cd g cg l k cm:Nat} {S:RdQ} {A:Nat→Option Addr} {C:Nat→Nat} {va vn:Value} {w wa w1:World} {nm fo:ByteArray} {x sg:Int} {XS:List Value} {Am:Option Addr} (h:RsM q B S A C (.slice (some ⟨gd,0,none⟩) S.dims.length cd) va vn w) (hl:S.dims.length=l+1) (hk:(dmL S.dims l).n=k) (hX:cellsMb (dmL S.dims l).mem k=XS) (hA:A l=Am) (hC:C l=cm) (hb:Below w.heap.size w wa)
  (hown:w1.ownsRow B 46 4 (.slice (some ⟨g,0,none⟩) (k+1) cg) (k+1) (XS ++ [.string nm,.int .i64 x,.int .i64 sg,.string fo]))
  (hgrow:wa.grownBy w1 (Value.slice Am k cm).ownBlock) (hat:(Value.slice Am k cm).ownBlock=some g∨wa.heap.size≤g) :
  (∃ A' C' vd',RsM q B (addMS S ⟨nm,x,sg,fo⟩) A' C' vd' va vn (w1.setCell ⟨gd,l*3+2,none⟩ (.slice (some ⟨g,0,none⟩) (k+1) cg)))∧Kept B (fun b=>b=q) w (w1.setCell ⟨gd,l*3+2,none⟩ (.slice (some ⟨g,0,none⟩) (k+1) cg)):=by
 have e:S.dims.length-1=l:=by omega
 subst e hk hX hA hC
 have hq:=h.lt
 have hsz:=h.size
 obtain ⟨hgd0,hgd1,curd,hgd2⟩:=own_blk h.dm.dims (b:=gd) rfl
 have hl2:S.dims.length-1<S.dims.length:=by omega
 have hkeep:∀ (b:Nat) (cs:Array Value) (fr:Nat×Nat) (t:Nat),w.heap[b]?=some (Obj.cells cs t fr)→t≠46→w1.heap[b]?=w.heap[b]?:=fun b cs fr t hx ht=>by
  have hlt:=(Array.getElem?_eq_some_iff.1 hx).1
  exact (hgrow.block b (Nat.lt_of_lt_of_le hlt hb.size) fun e=>own_ne (h.dm.mems _ hl2) hx ht e.symm).trans (hb.block b hlt)
 have h1:=h.dm.more (m:=⟨nm,x,sg,fo⟩) (by omega) hb hown hgrow hat
 have hrow:∀ (e size n:Nat) (v v':Value) (xs:List Value),e≠46→e≠43→w.ownsRow B e size v n xs→(w1.setCell ⟨gd,(S.dims.length-1)*3+2,none⟩ v').ownsRow B e size v n xs:=fun e size n v v' xs he he2 ho=>own_kept ho fun b hx=>by
  obtain ⟨h1,-,cur,h3⟩:=own_blk ho hx
  rw [setCell_off _ _ _ _ _ fun e2=>by
   subst e2
   rw [hgd2] at h3
   exact he2 (Obj.cells.inj (Option.some.inj h3)).2.1.symm]
  exact hkeep b cur _ _ h3 he
 have hs1:w.heap.size≤w1.heap.size:=Nat.le_trans hb.size hgrow.size
 refine ⟨⟨_,_,_,⟨hq,by simp;omega,?_,h1,hrow _ _ _ _ _ _ (by decide) (by decide) h.at_,hrow _ _ _ _ _ _ (by decide) (by decide) h.num⟩⟩,kept_setM (kept_row hsz hb (fun g hg=>((h.dm.mems _ hl2).lt g hg).1) hgrow) (Or.inr hgd0)⟩
 rw [setCell_off _ _ _ _ _ (by omega)]
 exact (hkeep q _ _ _ h.box (by decide)).trans h.box
theorem RsM.cel {q B:Nat} {S:RdQ} {A:Nat→Option Addr} {C:Nat→Nat} {vd va vn v7 v8:Value} {w w1 w2:World} {p:ByteArray} {x:Int} {i:Nat} (h:RsM q B S A C vd va vn w)
  (hO1:w1.ownsRow B 9 1 v7 (S.pl.length+1) ((S.pl.map fun t=>.string t) ++ [.string p])) (hK1:Kept w.heap.size (fun b=>va.ownBlock=some b) w w1)
  (hO2:w2.ownsRow B 3 1 v8 (S.pl.length+1) ((S.num.map fun t=>.int .i64 t) ++ [.int .i64 x])) (hK2:Kept w1.heap.size (fun b=>vn.ownBlock=some b) w1 w2) :
  RsM q B ⟨S.dims,S.pl ++ [p],S.num ++ [x],if S.pl.length=0 then i else S.first⟩ A C vd v7 v8 w2∧Kept B (fun b=>b=q) w w2:=by
 have hq:=h.lt
 have hsz:=h.size
 have k1:∀ (b:Nat) (cs:Array Value) (fr:Nat×Nat) (t:Nat),w.heap[b]?=some (Obj.cells cs t fr)→t≠9→w1.heap[b]?=w.heap[b]?:=fun b cs fr t hx ht =>
  hK1.block b (Array.getElem?_eq_some_iff.1 hx).1 fun e=>own_ne h.at_ hx ht e
 have ho1:w1.ownsRow B 3 1 vn S.pl.length (S.num.map fun x=>.int .i64 x):=own_kept h.num fun b hx=>by
  obtain ⟨-,-,cur,h3⟩:=own_blk h.num hx
  exact k1 b cur _ _ h3 (by decide)
 have k2:∀ (b:Nat) (cs:Array Value) (fr:Nat×Nat) (t:Nat),w1.heap[b]?=some (Obj.cells cs t fr)→t≠3→w2.heap[b]?=w1.heap[b]?:=fun b cs fr t hx ht =>
  hK2.block b (Array.getElem?_eq_some_iff.1 hx).1 fun e=>own_ne ho1 hx ht e
 have k3:∀ (b:Nat) (cs:Array Value) (fr:Nat×Nat) (t:Nat),w.heap[b]?=some (Obj.cells cs t fr)→t≠9→t≠3→w2.heap[b]?=w.heap[b]?:=fun b cs fr t hx h1 h2=>by
  have e:=k1 b cs fr t hx h1
  exact (k2 b cs fr t (e.trans hx) h2).trans e
 refine ⟨⟨hq,Nat.le_trans hsz (Nat.le_trans hK1.size hK2.size),(k3 q _ _ _ h.box (by decide) (by decide)).trans h.box,h.dm.keep fun b cs fr t _ hx ht=>k3 b cs fr t hx (by rcases ht with rfl | rfl <;> decide) (by rcases ht with rfl | rfl <;> decide),?_,?_⟩,?_⟩
 ·simp only [List.length_append,List.map_append,List.length_cons,List.length_nil,List.map_cons,List.map_nil,Nat.zero_add]
  refine own_kept hO1 fun b hx=>?_
  obtain ⟨-,-,cur,h3⟩:=own_blk hO1 hx
  exact k2 b cur _ _ h3 (by decide)
 ·simp only [List.length_append,List.map_append,List.length_cons,List.length_nil,List.map_cons,List.map_nil,Nat.zero_add]
  exact hO2
 ·refine ⟨hK2.os.trans hK1.os,hK2.tape.trans hK1.tape,hK2.output.trans hK1.output,Nat.le_trans hK1.size hK2.size,fun i hi _=>?_⟩
  have hi1:i<w.heap.size:=Nat.lt_of_lt_of_le hi hsz
  exact (hK2.block i (Nat.lt_of_lt_of_le hi1 hK1.size) fun e=>by have:=(h.num.lt i e).1;omega).trans (hK1.block i hi1 fun e=>by have:=(h.at_.lt i e).1;omega)
theorem Tryz.infoDimK:(Tryz.prog.info? 43).map (fun i=>(i.zero,i.size,i.bytes))=some (some (.agg #[.string ⟨#[]⟩,.int .i64 0,.slice none 0 0]),3,48):=by kernel_rfl
theorem Tryz.infoMemK:(Tryz.prog.info? 46).map (fun i=>(i.zero,i.size,i.bytes))=some (some (.agg #[.string ⟨#[]⟩,.int .i64 0,.int .i64 0,.string ⟨#[]⟩]),4,48):=by kernel_rfl
theorem rsL16 (T:Array Value) (s:Nat→Value) (q B:Nat) (S:RdQ) (A:Nat→Option Addr) (C:Nat→Nat) (vd va vn:Value) (gw nw cw:Nat) (w1:ByteArray) (k:Int) (w:World) (hF:rsF T s) (h6:s 6=.pointer (some ⟨q,0,none⟩)) (h13:s 13=.slice (some ⟨gw,0,none⟩) nw cw) (h15:s 15=.int .i64 k) (h:RsM q B S A C vd va vn w) (hn:S.dims.length≤1048577) (hw:1<nw) (hw1:w.cell? ⟨gw,1,none⟩=some (.string w1)) (J:Act→World→Prop) (Q:Exit→Act→World→Prop)
  (hJ:∀ T' w' A' C' vd',rsF T' s→RsM q B ⟨S.dims ++ [⟨w1,k,[]⟩],S.pl,S.num,S.first⟩ A' C' vd' va vn w'→Kept B (fun b=>b=q) w w'→J ⟨T',[]⟩ w'):Code.wp Tryz.prog (rsC [1,1,1,1,1,1,1,0,1,3,4,1,0,3,1,1,0,1,2,1,1,1]) (Exit.then J Q) ⟨T,[]⟩ w:=by
 obtain ⟨xF,rfl⟩:=rs_open hF
 unfold rsL
 rw [h6,h13,h15]
 have HJ:=hid_of hJ
 have H6:=hid_of h6
 have H13:=hid_of h13
 have H15:=hid_of h15
 clear hJ hF h6 h13 h15
 obtain ⟨i0,hi0,hz0,hz1,hz2⟩:=info_parts Tryz.infoDimK
 obtain ⟨A1,c1,rfl⟩:=own_formK h.dm.dims
 have HV:=hid_of h
 have hwi:(1:Int)<(nw:Int):=by omega
 have a1:w.cell? ⟨q,0,none⟩=some (.slice A1 S.dims.length c1):=(Lib.cell_of_heap h.box 0).trans rfl
 have a2:w.frozen? ⟨q,0,none⟩=false:=by simp [World.frozen?,h.box]
 have hql:=(Array.getElem?_eq_some_iff.1 h.box).1
 have hqB:=h.lt
 have hBs:=h.size
 have hown:=h.dm.dims
 clear h
 obtain ⟨n,hn'⟩:∃ n,S.dims.length=n:=⟨_,rfl⟩
 have HN:=hid_of hn'
 rw [hn'] at a1 hn hown
 obtain ⟨XS,hXS⟩:∃ XS,cellsDo (dmL S.dims) A C n=XS:=⟨_,rfl⟩
 have HXS:=hid_of hXS
 rw [hXS] at hown
 have HC2:Hid (∀ w',Below w.heap.size w w'→w'.cell? ⟨q,0,none⟩=some (.slice A1 n c1)∧w'.frozen? ⟨q,0,none⟩=false):=fun w' hb=>⟨(hb.cell (p:=⟨q,0,none⟩) hql).trans a1,(hb.frozen (p:=⟨q,0,none⟩) hql).trans a2⟩
 have HNE:Hid (some q≠(Value.slice A1 n c1).ownBlock):=fun e=>by have:=(hown.lt q e.symm).1;omega
 have HO:=hid_of hown
 clear hown hXS hn'
 conv=>arg 2;whnf
 refine wp_region_noPanic ?_
 go_region_law ((first
  | (refine step_append_lies _ (by rfl) _ _ _ (by rfl) B 43 i0 _ 3 48 Tryz.underlying22 hi0 hz0 hz1 hz2 rfl (by omega) (.slice A1 n c1) n XS (by rfl) (own_stays HO.out (by go_grown)) ⟨w.heap.size,0,none⟩ 1 1 [.string w1,.int .i64 k,.slice none 0 0] (by rfl) (by rfl) (World.news_of_block (cs := #[.string w1,.int .i64 k,.slice none 0 0]) (t:=43) (fr:=(0,0)) (heap_alloc_new w _)) (by simp [Value.oneCell']) (by omega) (by unfold maxLen;omega) (by omega) (by simp;omega) (w.heap.size+1) (by simp) ?_;intro gg cg w6 hown6 hgrow hat hlt6;have y1:=(hgrow.cell_far ⟨q,0,none⟩ (by simp;omega) HNE.out).trans (HC2.out _ (by go_grown)).1;have y2:=(hgrow.frozen_far ⟨q,0,none⟩ (by simp;omega) HNE.out).trans (HC2.out _ (by go_grown)).2)
  | go_simp))
 all_goals rw [←HXS.out,←HN.out] at hown6
 all_goals rw [←HN.out] at hgrow
 all_goals (have hS:=RsM.dim HV.out (by go_grown) hown6 hgrow)
 all_goals rw [HN.out] at hS
 all_goals (have HS:=hid_of hS)
 all_goals clear hown6 hgrow hS
 all_goals go_wp2_with fail
 all_goals (
  refine HJ.out _ _ _ _ _ ⟨rfl,?_⟩ HS.out.1 HS.out.2
  rw [←H6.out,←H13.out,←H15.out]
  rfl
  )
theorem rsL38 (T:Array Value) (s:Nat→Value) (q B:Nat) (S:RdQ) (A:Nat→Option Addr) (C:Nat→Nat) (vd va vn:Value) (qm l:Nat) (nm fo:ByteArray) (x sg:Int) (w:World) (hF:rsF T s) (h6:s 6=.pointer (some ⟨q,0,none⟩)) (h18:s 18=.pointer (some ⟨qm,0,none⟩)) (h22:s 22=.int .i64 (l:Nat)) (h:RsM q B S A C vd va vn w) (hl:S.dims.length=l+1) (hn:S.dims.length≤1048577) (hm:(dmL S.dims l).n≤1048577) (hq18:w.heap[qm]?=some (.cells #[.string nm,.int .i64 x,.int .i64 sg,.string fo] 46 (0,0))) (J:Act→World→Prop) (Q:Exit→Act→World→Prop)
  (hJ:∀ T' w' A' C' vd',rsF T' s→RsM q B (addMS S ⟨nm,x,sg,fo⟩) A' C' vd' va vn w'→Kept B (fun b=>b=q) w w'→J ⟨T',[]⟩ w'):Code.wp Tryz.prog (rsC [1,1,1,1,1,1,1,0,1,3,4,1,0,3,1,1,0,1,5,1,2,1,1,1,1,1,1]) (Exit.then J Q) ⟨T,[]⟩ w:=by
 obtain ⟨xF,rfl⟩:=rs_open hF
 unfold rsL
 rw [h6,h18,h22]
 have HJ:=hid_of hJ
 have H6:=hid_of h6
 have H18:=hid_of h18
 have H22:=hid_of h22
 clear hJ hF h6 h18 h22
 obtain ⟨i0,hi0,hz0,hz1,hz2⟩:=info_parts Tryz.infoMemK
 obtain ⟨gd,cd,hvd,hgd0,hgd1⟩:=h.dm.dims.form (by omega)
 subst hvd
 have HV:=hid_of h
 have HL:=hid_of hl
 have hdc:=h.dm.dims
 have hat0:=(cellsDo_at (dmL S.dims) A C S.dims.length l (by omega)).2.2
 have k2:=hdc.cellAt (l*3+2) (by omega)
 rw [hat0] at k2
 have k3:=hdc.frozenAt (l*3+2)
 have a1:w.cell? ⟨q,0,none⟩=some (.slice (some ⟨gd,0,none⟩) S.dims.length cd):=(Lib.cell_of_heap h.box 0).trans rfl
 rw [hl] at a1
 have a10:w.cell? ⟨qm,0,none⟩=some (.string nm):=(Lib.cell_of_heap hq18 0).trans rfl
 have a11:w.cell? ⟨qm,1,none⟩=some (.int .i64 x):=(Lib.cell_of_heap hq18 1).trans rfl
 have a12:w.cell? ⟨qm,2,none⟩=some (.int .i64 sg):=(Lib.cell_of_heap hq18 2).trans rfl
 have a13:w.cell? ⟨qm,3,none⟩=some (.string fo):=(Lib.cell_of_heap hq18 3).trans rfl
 have hmo:=h.dm.mems l (by omega)
 obtain ⟨m,hmm⟩:∃ m,(dmL S.dims l).n=m:=⟨_,rfl⟩
 obtain ⟨XS,hXS⟩:∃ XS,cellsMb (dmL S.dims l).mem m=XS:=⟨_,rfl⟩
 rw [hmm] at k2 hmo hm
 rw [hXS] at hmo
 have HM:=hid_of hmm
 have HX:=hid_of hXS
 obtain ⟨Am,hAm⟩:∃ Am,A l=Am:=⟨_,rfl⟩
 obtain ⟨cm,hcm⟩:∃ cm,C l=cm:=⟨_,rfl⟩
 rw [hAm,hcm] at k2 hmo
 have HA:=hid_of hAm
 have HCm:=hid_of hcm
 have HC3:Hid (∀ w',Below w.heap.size w w'→w'.cell? ⟨gd,l*3+2,none⟩=some (.slice Am m cm)∧w'.frozen? ⟨gd,l*3+2,none⟩=false):=fun w' hb=>⟨(hb.cell (p:=⟨gd,l*3+2,none⟩) hgd1).trans k2,(hb.frozen (p:=⟨gd,l*3+2,none⟩) hgd1).trans k3⟩
 have HO:=hid_of hmo
 have HNE:Hid (some gd≠(Value.slice Am m cm).ownBlock):=fun e=>by
  obtain ⟨-,-,curd,hgd2⟩:=own_blk hdc (b:=gd) rfl
  exact own_ne hmo hgd2 (by decide) e.symm
 have HNQ:Hid (some q≠(Value.slice Am m cm).ownBlock):=fun e=>own_ne hmo h.box (by decide) e.symm
 have HC4:Hid (∀ w',Below w.heap.size w w'→w'.cell? ⟨q,0,none⟩=some (.slice (some ⟨gd,0,none⟩) (l+1) cd)):=fun w' hb=>(hb.cell (p:=⟨q,0,none⟩) (Array.getElem?_eq_some_iff.1 h.box).1).trans a1
 have hqB:=h.lt
 have hBs:=h.size
 have hql:=(Array.getElem?_eq_some_iff.1 h.box).1
 have hqml:=(Array.getElem?_eq_some_iff.1 hq18).1
 have hl5:(l:Int)≤1048577:=by omega
 have hl6:(l:Int)<(l:Int)+1:=by omega
 have hl7:((l+1:Nat):Int)=(l:Int)+1:=by omega
 clear hmo hat0 hdc h hl hmm hXS hAm hcm hn hgd0 hq18
 conv=>arg 2;whnf
 refine wp_region_noPanic ?_
 go_region_law ((first
  | (refine step_append_lies _ (by rfl) _ _ _ (by rfl) B 46 i0 _ 4 48 Tryz.underlying41 hi0 hz0 hz1 hz2 rfl (by omega) (.slice Am m cm) m XS (by rfl) (own_stays HO.out (by go_grown)) ⟨w.heap.size,0,none⟩ 1 1 [.string nm,.int .i64 x,.int .i64 sg,.string fo] (by rfl) (by rfl) (World.news_of_block (cs := #[.string nm,.int .i64 x,.int .i64 sg,.string fo]) (t:=46) (fr:=(0,0)) (heap_alloc_new w _)) (by simp [Value.oneCell']) (by omega) (by unfold maxLen;omega) (by omega) (by simp;omega) (w.heap.size+1) (by simp) ?_;intro gg cg w6 hown6 hgrow hat hlt6;have y1:=(hgrow.cell_far ⟨gd,l*3+2,none⟩ (by simp;omega) HNE.out).trans (HC3.out _ (by go_grown)).1;have y2:=(hgrow.frozen_far ⟨gd,l*3+2,none⟩ (by simp;omega) HNE.out).trans (HC3.out _ (by go_grown)).2;have y3:=(hgrow.cell_far ⟨q,0,none⟩ (by simp;omega) HNQ.out).trans (HC4.out _ (by go_grown)))
  | go_simp))
 all_goals (have hS:=RsM.mem HV.out HL.out HM.out HX.out HA.out HCm.out (by go_grown) hown6 hgrow (hat.imp id (by intro e;simp;omega)))
 all_goals (have HS:=hid_of hS)
 all_goals clear hown6 hgrow hS
 all_goals go_wp2_with fail
 all_goals (obtain ⟨⟨A',C',vd',hS1⟩,hS2⟩:=HS.out)
 all_goals (
  refine HJ.out _ _ A' C' vd' ⟨rfl,?_⟩ hS1 hS2
  rw [←H6.out,←H18.out,←H22.out]
  rfl
  )
end Go.Proofs.YtinebmjpdkjooaaGreatDoor
