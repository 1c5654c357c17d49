/-
  Grids: cells in rows, as plain data and in memory; what is wrong with one; one turned.
-/
import Derived.Shelf.Spec.SlicesInsertGrow
import Derived.Laws.OwnMore
import Derived.Test.YtmmpanbkmpdnkahGreatDoorJGAY
import Derived.Test.YtmmpanbkmpdnkahGreatDoorJGBA
namespace Go.Proofs.YtmmpanbkmpdnkahGreatDoor
open Go.ChangeShapes Go.WideShapes Go.ChangeAt Go.RowKit
set_option maxRecDepth 20000
def tab (f:Nat→Nat→Int×Int) (R C:Nat):List (List (Int×Int)):=(List.range R).map fun r=>(List.range C).map (f r)
theorem tab_len (f:Nat→Nat→Int×Int) (R C:Nat):(tab f R C).length=R:=by simp [tab]
def badC (L:List (Int×Int)):Bool:=L.any fun x => !good x.1 x.2
def gErr (r c:Nat) (Z:List (List (Int×Int))):Int:=if Z.length=r then (if Z.any (fun L=>decide (L.length≠c))=true then 3 else if Z.any badC=true then 1 else 0) else 3
theorem gErr_len {r c:Nat} {Z:List (List (Int×Int))} (h:Z.length≠r):gErr r c Z=3:=by unfold gErr;rw [if_neg h]
theorem gErr_row {r c:Nat} {Z:List (List (Int×Int))} (h:Z.length=r) (h2:Z.any (fun L=>decide (L.length≠c))=true):gErr r c Z=3:=by unfold gErr;rw [if_pos h,if_pos h2]
theorem gErr_cel {r c:Nat} {Z:List (List (Int×Int))} (h:Z.length=r) (h2:Z.any (fun L=>decide (L.length≠c))=false):gErr r c Z=if Z.any badC=true then 1 else 0:=by unfold gErr;rw [if_pos h,if_neg (by rw [h2];decide)]
theorem gErr_right {r c:Nat} {Z:List (List (Int×Int))} (h:gErr r c Z=0):Z.length=r∧(∀ L∈Z,L.length=c)∧∀ L∈Z,goodL L:=by
 by_cases h1:Z.length=r
 ·cases h2:Z.any (fun L=>decide (L.length≠c)) with
  | true=>rw [gErr_row h1 h2] at h;omega
  | false =>
   rw [gErr_cel h1 h2] at h
   have h3:Z.any badC=false:=by
    cases e:Z.any badC with
    | true=>rw [e] at h;simp at h
    | false=>rfl
   refine ⟨h1,fun L hL=>?_,fun L hL x hx=>?_⟩
   ·have:=List.any_eq_false.1 h2 L hL
    simpa using this
   ·have h4:=List.any_eq_false.1 h3 L hL
    have h5:badC L=false:=by simpa using h4
    have h6:=List.any_eq_false.1 h5 x hx
    show good x.1 x.2=true
    simpa using h6
 ·rw [gErr_len h1] at h;omega
theorem gErr_ok {r c:Nat} {Z:List (List (Int×Int))} (h1:Z.length=r) (h2:∀ L∈Z,L.length=c) (h3:∀ L∈Z,goodL L):gErr r c Z=0:=by
 have h4:Z.any (fun L=>decide (L.length≠c))=false:=List.any_eq_false.2 fun L hL=>by simp [h2 L hL]
 have h5:Z.any badC=false:=List.any_eq_false.2 fun L hL=>by
  have:badC L=false:=List.any_eq_false.2 fun x hx=>by
   have h:good x.1 x.2=true:=h3 L hL x hx
   simp [h]
  simp [this]
 rw [gErr_cel h1 h4,h5]
 rfl
theorem rowD_mem {Z:List (List (Int×Int))} {i:Nat} (h:i<Z.length):Z.getD i []∈Z:=by
 rw [List.getD_eq_getElem?_getD,List.getElem?_eq_getElem h]
 exact List.getElem_mem h
theorem celD_mem {L:List (Int×Int)} {i:Nat} (h:i<L.length):L.getD i noC∈L:=by
 rw [List.getD_eq_getElem?_getD,List.getElem?_eq_getElem h]
 exact List.getElem_mem h
theorem gErr_tab {f:Nat→Nat→Int×Int} {R C:Nat} (h:∀ r c,r<R→c<C→goodC (f r c)):gErr R C (tab f R C)=0:=by
 refine gErr_ok (tab_len ..) (fun L hL=>?_) fun L hL x hx=>?_
 ·obtain ⟨r,-,rfl⟩:=List.mem_map.1 hL
  simp
 ·obtain ⟨r,hr,rfl⟩:=List.mem_map.1 hL
  obtain ⟨c,hc,rfl⟩:=List.mem_map.1 hx
  exact h r c (List.mem_range.1 hr) (List.mem_range.1 hc)
structure CsL where
 L:List (Int×Int)
 A:Option Addr
 c:Nat
def noCs:CsL:=⟨[],none,0⟩
def lZ (zz:List CsL):List (List (Int×Int)):=zz.map CsL.L
theorem lZ_len (zz:List CsL):(lZ zz).length=zz.length:=by simp [lZ]
theorem lZ_at (zz:List CsL) (k:Nat):(lZ zz).getD k []=(zz.getD k noCs).L:=by
 rw [List.getD_eq_getElem?_getD,List.getD_eq_getElem?_getD,lZ,List.getElem?_map]
 cases zz[k]? <;> rfl
def CssV (w:World) (A:Option Addr) (cap:Nat) (zz:List CsL):Prop:=zz.length≤cap∧cap≤9223372036854775807∧(zz=[]∨∃ b o,A=some ⟨b,o,none⟩∧b<w.heap.size∧∀ k,k<zz.length→w.cell? ⟨b,o+k,none⟩=some (.slice (zz.getD k noCs).A (zz.getD k noCs).L.length (zz.getD k noCs).c)∧CelV w (zz.getD k noCs).A (zz.getD k noCs).c (zz.getD k noCs).L)
theorem CssV.later {w w':World} {A:Option Addr} {cap:Nat} {zz:List CsL} (h:CssV w A cap zz) (hB:Below w.heap.size w w'):CssV w' A cap zz:=by
 obtain ⟨h1,h0,h2 | ⟨b,o,h2,h3,h4⟩⟩:=h
 ·exact ⟨h1,h0,Or.inl h2⟩
 ·exact ⟨h1,h0,Or.inr ⟨b,o,h2,Nat.lt_of_lt_of_le h3 hB.size,fun k hk=>⟨(hB.cell (p:=⟨b,o+k,none⟩) h3).trans (h4 k hk).1,(h4 k hk).2.later hB⟩⟩⟩
theorem CssV.nil (w:World) (A:Option Addr) (cap:Nat) (h:cap≤9223372036854775807):CssV w A cap []:=⟨Nat.zero_le _,h,Or.inl rfl⟩
def CssN (w:World) (B:Nat) (A:Option Addr) (cap:Nat) (zz:List CsL):Prop := ∀ w9:World,w.heap.size≤w9.heap.size→(∀ b,B≤b→b<w.heap.size→w9.heap[b]?=w.heap[b]?)→CssV w9 A cap zz
def TabS (w:World) (g0 R C r B:Nat) (f:Nat→Nat→Int×Int):Prop := ∃ gs:Nat→Nat,ValB w g0 R 53 (fun i=>if i<r then .slice (some ⟨gs i,0,none⟩) C C else .slice none 0 0)∧B≤g0∧∀ i,i<r→B≤gs i∧CelB w (gs i) ((List.range C).map (f i))
def rowTo (f:Nat→Int×Int) (C c:Nat):List (Int×Int):=(List.range C).map fun j=>if j<c then f j else (0,0)
theorem rowTo_len (f:Nat→Int×Int) (C c:Nat):(rowTo f C c).length=C:=by simp [rowTo]
theorem rowTo_zero (f:Nat→Int×Int) (C:Nat):rowTo f C 0=List.replicate C (0,0):=by
 refine List.ext_getElem (by simp [rowTo]) fun i h1 h2=>?_
 simp [rowTo]
theorem rowTo_all (f:Nat→Int×Int) (C:Nat):rowTo f C C=(List.range C).map f:=List.map_congr_left fun _ hi=>if_pos (List.mem_range.1 hi)
theorem rowTo_set (f:Nat→Int×Int) {C c:Nat}:(rowTo f C c).set c (f c)=rowTo f C (c+1):=by
 refine List.ext_getElem (by simp [rowTo]) fun i h1 h2=>?_
 rw [List.getElem_set]
 by_cases e:c=i
 ·subst e
  simp [rowTo]
 ·rw [if_neg e]
  simp only [rowTo,List.getElem_map,List.getElem_range]
  by_cases h3:i<c
  ·rw [if_pos h3,if_pos (by omega)]
  ·rw [if_neg h3,if_neg (by omega)]
def TabI (w:World) (g0 gr R C r c B:Nat) (f:Nat→Nat→Int×Int):Prop := ∃ gs:Nat→Nat,ValB w g0 R 53 (fun i=>if i<r then .slice (some ⟨gs i,0,none⟩) C C else if i=r then .slice (some ⟨gr,0,none⟩) C C else .slice none 0 0)∧B≤g0∧B≤gr∧(∀ i,i<r→B≤gs i∧gs i<gr∧CelB w (gs i) ((List.range C).map (f i)))∧CelB w gr (rowTo (f r) C c)
theorem cel_ne_row:(40:Nat)≠53:=by decide
theorem CelB.off {w:World} {g n b:Nat} {L:List (Int×Int)} {f:Nat→Value} (h:CelB w b L) (hV:ValB w g n 53 f):b≠g:=by
 obtain ⟨cur,h1,-⟩:=h
 exact hV.off h1 cel_ne_row
section
variable {w w':World} {g0 gr R C r c B:Nat} {f:Nat→Nat→Int×Int}
theorem TabS.start (w:World) (R C:Nat) (f:Nat→Nat→Int×Int):TabS (w.alloc (.cells (madeCells #[.slice none 0 0] R) 53)) w.heap.size R C 0 w.heap.size f :=
 ⟨fun _=>0,by simpa using ValB.made w R 53 (.slice none 0 0),Nat.le_refl _,fun _ hi=>absurd hi (Nat.not_lt_zero _)⟩
theorem TabS.next (h:TabS w g0 R C r B f) (hB:B≤w.heap.size):TabI ((w.alloc (.cells (madeCells #[.int .i64 0,.int .i64 0] (C*2)) 40)).setCell ⟨g0,r,none⟩ (.slice (some ⟨w.heap.size,0,none⟩) C C)) g0 w.heap.size R C r 0 B f:=by
 obtain ⟨gs,h1,h2,h3⟩:=h
 have hne:∀ b,b<w.heap.size→(w.alloc (.cells (madeCells #[.int .i64 0,.int .i64 0] (C*2)) 40)).heap[b]?=w.heap[b]?:=fun b hb=>Below.heap_alloc _ _ _ hb
 have k1:=h1.same (hne _ h1.lt)
 refine ⟨gs,k1.set fun j hj=>?_,h2,hB,fun i hi=>⟨(h3 i hi).1,(h3 i hi).2.lt,?_⟩,?_⟩
 ·by_cases e1:j<r
  ·rw [if_pos e1,if_neg (by omega),if_pos e1]
  ·rw [if_neg e1,if_neg e1]
 ·have k2:=(h3 i hi).2.same (hne _ (h3 i hi).2.lt)
  exact k2.same (setCell_off _ _ _ _ _ (k2.off k1))
 ·have k2:=celB_made w C
  rw [rowTo_zero]
  exact k2.same (setCell_off _ _ _ _ _ (k2.off k1))
theorem TabI.cells (h:TabI w g0 gr R C r c B f) (hr:r<R) (hc:c<C):w.cell? ⟨g0,r,none⟩=some (.slice (some ⟨gr,0,none⟩) C C)∧g0<w.heap.size∧gr<w.heap.size∧(∃ v,w.cell? ⟨gr,c*2,none⟩=some v)∧(∃ v,w.cell? ⟨gr,c*2+1,none⟩=some v)∧w.frozen? ⟨gr,c*2,none⟩=false∧w.frozen? ⟨gr,c*2+1,none⟩=false:=by
 obtain ⟨gs,h1,h2,h3,h4,h5⟩:=h
 have k:=h1.cell hr
 rw [if_neg (Nat.lt_irrefl _),if_pos rfl] at k
 have k2:=h5.at (k:=c) (by rw [rowTo_len];exact hc)
 exact ⟨k,h1.lt,h5.lt,⟨_,k2.1⟩,⟨_,k2.2⟩,h5.frozen _,h5.frozen _⟩
theorem TabI.keep (h:TabI w g0 gr R C r c B f) (hk:∀ b,b<w.heap.size→B≤b→w'.heap[b]?=w.heap[b]?):TabI w' g0 gr R C r c B f:=by
 obtain ⟨gs,h1,h2,h3,h4,h5⟩:=h
 exact ⟨gs,h1.same (hk _ h1.lt h2),h2,h3,fun i hi=>⟨(h4 i hi).1,(h4 i hi).2.1,(h4 i hi).2.2.same (hk _ (h4 i hi).2.2.lt (h4 i hi).1)⟩,h5.same (hk _ h5.lt h3)⟩
theorem TabI.push (h:TabI w g0 gr R C r c B f) (hc:c<C):TabI ((w.setCell ⟨gr,c*2,none⟩ (.int .i64 (f r c).1)).setCell ⟨gr,c*2+1,none⟩ (.int .i64 (f r c).2)) g0 gr R C r (c+1) B f:=by
 obtain ⟨gs,h1,h2,h3,h4,h5⟩:=h
 have ho:∀ b,b≠gr→((w.setCell ⟨gr,c*2,none⟩ (.int .i64 (f r c).1)).setCell ⟨gr,c*2+1,none⟩ (.int .i64 (f r c).2)).heap[b]?=w.heap[b]?:=fun b hb=>(setCell_off _ _ _ _ _ hb).trans (setCell_off _ _ _ _ _ hb)
 refine ⟨gs,h1.same (ho _ fun e=>(h5.off h1) e.symm),h2,h3,fun i hi=>⟨(h4 i hi).1,(h4 i hi).2.1,(h4 i hi).2.2.same (ho _ (Nat.ne_of_lt (h4 i hi).2.1))⟩,?_⟩
 have k:=h5.set (x:=c) (by rw [rowTo_len];exact hc) (f r c).1 (f r c).2
 rw [rowTo_set] at k
 exact k
theorem TabI.done (h:TabI w g0 gr R C r C B f):TabS w g0 R C (r+1) B f:=by
 obtain ⟨gs,h1,h2,h3,h4,h5⟩:=h
 rw [rowTo_all] at h5
 refine ⟨fun i=>if i<r then gs i else gr,?_,h2,fun i hi=>?_⟩
 ·have e:(fun i:Nat=>if i<r+1 then Value.slice (some ⟨if i<r then gs i else gr,0,none⟩) C C else .slice none 0 0)=fun i=>if i<r then .slice (some ⟨gs i,0,none⟩) C C else if i=r then .slice (some ⟨gr,0,none⟩) C C else .slice none 0 0:=by
   funext i
   by_cases e1:i<r
   ·rw [if_pos e1,if_pos e1,if_pos (by omega)]
   ·by_cases e2:i=r
    ·rw [if_neg e1,if_neg e1,if_pos e2,if_pos (by omega)]
    ·rw [if_neg e1,if_neg e1,if_neg e2,if_neg (by omega)]
  rw [e]
  exact h1
 ·by_cases e1:i<r
  ·simp only [if_pos e1]
   exact ⟨(h4 i e1).1,(h4 i e1).2.2⟩
  ·have e2:i=r:=by omega
   subst e2
   simp only [if_neg e1]
   exact ⟨h3,h5⟩
theorem TabS.rows (h:TabS w g0 R C R B f) (hR:R≤1048576) (hC:C≤1048576):∃ zz,CssN w B (some ⟨g0,0,none⟩) R zz∧zz.length=R∧lZ zz=tab f R C:=by
 obtain ⟨gs,h1,h2,h3⟩:=h
 have hl:((List.range R).map fun i=>(⟨(List.range C).map (f i),some ⟨gs i,0,none⟩,C⟩:CsL)).length=R:=by simp
 refine ⟨(List.range R).map fun i=>⟨(List.range C).map (f i),some ⟨gs i,0,none⟩,C⟩,fun w9 hs hb=>⟨by rw [hl];exact Nat.le_refl _,by omega,Or.inr ⟨g0,0,rfl,Nat.lt_of_lt_of_le h1.lt hs,fun k hk=>?_⟩⟩,hl,by simp [lZ,tab]⟩
 rw [hl] at hk
 have e:((List.range R).map fun i=>(⟨(List.range C).map (f i),some ⟨gs i,0,none⟩,C⟩:CsL)).getD k noCs=⟨(List.range C).map (f k),some ⟨gs k,0,none⟩,C⟩:=by simp [List.getD,hk]
 rw [e]
 have k1:=(h1.same (hb _ h2 h1.lt)).cell hk
 rw [if_pos hk] at k1
 refine ⟨by simpa using k1,by simp,by show C≤_;omega,?_⟩
 exact Or.inr ⟨_,_,rfl,((h3 k hk).2.same (hb _ (h3 k hk).1 (h3 k hk).2.lt)).celAt⟩
end
theorem Tryz.infoCRow:(Tryz.prog.info? 53).map (fun i=>(i.zero,i.size,i.bytes))=some (some (.slice none 0 0),1,24):=by kernel_rfl
theorem run_make_big (n:Nat) (hn:n≤1048576) (w:World):(Instr.makeSlice 53 (.int .i64 (n:Int)) (.int .i64 (n:Int))).run Tryz.prog w=.ok (.slice (some ⟨w.heap.size,0,none⟩) n n) (w.alloc (.cells (madeCells #[.int .i64 0,.int .i64 0] (n*2)) 40)):=by
 obtain ⟨i0,hi0,hz0,hz1,hz2⟩:=info_parts Tryz.infoCe
 have hr:=run_make (P:=Tryz.prog) w 53 40 i0 _ Tryz.underlying53 hi0 hz0 .i64 .i64 n n (by omega) (Int.le_refl _) (by rw [hz2];omega) (by omega)
 simp only [Int.toNat_natCast,hz1] at hr
 exact hr
set_option maxHeartbeats 2000000 in
theorem clone_own (A:Option Addr) (c:Nat) (L:List Int) (w:World) (hL:L.length≤4) (hP:PlAt w A c L):Calls Tryz.prog 69 #[.slice A L.length c] w fun e w'=>(∃ v,e=.returned v∧w'.ownsRow w.heap.size 3 1 v L.length (L.map (Value.int .i64)))∧Below w.heap.size w w':=by
 have hq:∀ (w:World) (a:Option Addr) (n c n' c':Nat),(binOp .eql 35 (.slice a n c) (.slice none n' c')).run Tryz.prog w=.ok (.bool a.isNone) w:=fun w a n c n' c'=>Lib.run_eql_slice_nil w _ _ a n c n' c' Tryz.underlying35
 cases A with
 | none =>
  obtain ⟨-,h0 | ⟨b,o,h0,-⟩⟩:=hP
  ·subst h0
   simp only [List.length_nil]
   go_enter Tryz.func69,Tryz.ntmps69
   go_wp2_with fail
   go_ret
   exact ⟨⟨_,rfl,World.ownsRow_nil _ _ _ _⟩,Below.refl _ _⟩
  ·cases h0
 | some a =>
  obtain ⟨i0,hi0,hz0,hz1,hz2⟩:=info_parts Tryz.infoIntP
  have HC:Hid (∀ j u,(L.map (Value.int .i64))[j]?=some u→w.cell? (a.add j)=some u):=by
   intro j u hj
   obtain ⟨-,h0 | ⟨b,o,h0,-,hcell⟩⟩:=hP
   ·subst h0;simp at hj
   ·cases h0
    have hlt:j<L.length:=by have:=(List.getElem?_eq_some_iff.1 hj).1;simpa using this
    rw [plain_add,hcell j hlt]
    simp only [List.getElem?_map,List.getElem?_eq_getElem hlt,Option.map_some,Option.some.injEq] at hj
    rw [←hj,List.getD_eq_getElem?_getD,List.getElem?_eq_getElem hlt]
    rfl
  have hl:(L.map (Value.int .i64)).length=L.length*1:=by simp
  have h1:∀ u∈L.map (Value.int .i64),u.oneCell'=true:=by intro u hu;simp at hu;obtain ⟨x,-,rfl⟩:=hu;rfl
  have hm:L.length≤4:=hL
  clear hP hL
  go_enter Tryz.func69,Tryz.ntmps69
  go_wp2_with (at_builtin;refine wpList_append_own _ rfl _ _ 35 rfl w.heap.size 3 i0 (.int .i64 0) 1 8 Tryz.underlying35 hi0 hz0 hz1 hz2 rfl (by decide) _ _ _ rfl (World.ownsRow_made w #[] 0 (Nat.le_refl _) (Nat.zero_le _) (by simp)) a L.length c (L.map (Value.int .i64)) rfl ?qc1 ?qc2 ?qc3 ?qc4 ?qc5 ?qc6 ?_)
  case qc1=>exact hl
  case qc2=>exact fun j u hj=>Lib.cell?_alloc_some _ (HC.out j u hj)
  case qc3=>exact h1
  case qc4=>simp only [maxLen];omega
  case qc5=>omega
  case qc6=>simp
  intro v' w1 hown hgrow hnil
  have HT:Hid (w1.ownsRow w.heap.size 3 1 v' L.length (L.map (Value.int .i64))):=hown
  have HB:Hid (Below w.heap.size w w1):=((Below.refl _ w).alloc (Nat.le_refl _) _).grown hgrow (by simp) (by intro k hk;simp [Value.ownBlock] at hk;omega)
  clear hown hgrow hnil
  go_wp2_with fail
  go_ret
  exact ⟨⟨_,rfl,HT.out⟩,HB.out⟩
theorem by_hit {D:Nat→Dm} {p:List Int} {k:Nat} (h1:leafB (D k).mem (D k).n (p.getD k 0).toNat=false) (h2:byTo D p k<0∨(D (byTo D p k).toNat).solve<(D k).solve):byTo D p (k+1)=(k:Int):=by rw [byTo,if_pos ⟨h1,h2⟩]
theorem by_miss {D:Nat→Dm} {p:List Int} {k:Nat} (h : ¬ (leafB (D k).mem (D k).n (p.getD k 0).toNat=false∧(byTo D p k<0∨(D (byTo D p k).toNat).solve<(D k).solve))):byTo D p (k+1)=byTo D p k:=by rw [byTo,if_neg h]
noncomputable def cuErr (D:Nat→Dm) (n:Nat) (l:List En):Int:=if (ruErr D n).2.2≠0 then (ruErr D n).2.2 else entsErr D n l
end Go.Proofs.YtmmpanbkmpdnkahGreatDoor
namespace Go.Proofs.YtmmpanbkmpdnkahGreatDoor
open Go Go.ChangeShapes Go.WideShapes Go.ChangeAt Go.RowKit
set_option maxRecDepth 20000
def rwL (D:Nat→Dm) (n:Nat) (l:List En) (m:Nat):List (Int×Int):=(List.range m).map fun x=>getE l (placeL D n x)
theorem rwL_len (D:Nat→Dm) (n:Nat) (l:List En) (m:Nat):(rwL D n l m).length=m:=by simp [rwL]
theorem wr_none {D:Nat→Dm} {n x:Nat}:∀ (l:List En) (L:List (Int×Int)),(∀ e∈l,InO D n e.pl)→L.length=prodN D n→(∀ e∈l,(numI D e.pl n).toNat≠x)→(l.foldl (wrStep D n) L).getD x (0,0)=L.getD x (0,0)
 | [],_,_,_,_=>rfl
 | e :: r,L,hi,hL,h=>by
  obtain ⟨h1,h2,-⟩:=numI_bound (hi e (List.mem_cons_self ..)) (Nat.le_refl n)
  rw [List.foldl_cons,wr_none r _ (fun y hy=>hi y (List.mem_cons_of_mem _ hy)) (by unfold wrStep;rw [List.length_set];exact hL) fun y hy=>h y (List.mem_cons_of_mem _ hy)]
  unfold wrStep
  have:=h e (List.mem_cons_self ..)
  simp [List.getD,List.getElem?_set_ne this]
theorem wr_some {D:Nat→Dm} {n:Nat} {e:En}:∀ (l:List En) (L:List (Int×Int)),(∀ y∈l,InO D n y.pl)→(l.Pairwise fun a b=>lessL a.pl b.pl=true)→L.length=prodN D n→e∈l→(l.foldl (wrStep D n) L).getD (numI D e.pl n).toNat (0,0)=(1,e.n)
 | [],_,_,_,_,h=>by cases h
 | y :: r,L,hi,hr,hL,h=>by
  have hr':=List.pairwise_cons.1 hr
  have hiy:=hi y (List.mem_cons_self ..)
  have hir:=fun z hz=>hi z (List.mem_cons_of_mem y hz)
  obtain ⟨h1,h2,-⟩:=numI_bound hiy (Nat.le_refl n)
  rw [List.foldl_cons]
  have hL':(wrStep D n L y).length=prodN D n:=by unfold wrStep;rw [List.length_set];exact hL
  rcases List.mem_cons.1 h with rfl | h
  ·rw [wr_none r _ hir hL' fun z hz=>by
    have h3:=less_num hiy (hir z hz) (hr'.1 z hz)
    obtain ⟨h4,-,-⟩:=numI_bound (hir z hz) (Nat.le_refl n)
    omega]
   unfold wrStep
   have:(numI D e.pl n).toNat<L.length:=by omega
   simp [List.getD,this]
  ·exact wr_some r _ hir hr'.2 hL' h
theorem wr_rwL {D:Nat→Dm} {n:Nat} {l:List En} (h:Ens D n l):wrV D n l=rwL D n l (prodN D n):=by
 apply List.ext_getElem (by rw [wrV_len,rwL_len])
 intro x h1 h2
 rw [wrV_len] at h1
 have e1:(wrV D n l).getD x (0,0)=getE l (placeL D n x):=by
  unfold wrV
  by_cases hx:∃ e,e∈l∧(numI D e.pl n).toNat=x
  ·obtain ⟨e,he,hn⟩:=hx
   have h3:=wr_some l (List.replicate (prodN D n) (0,0)) (fun y hy=>(h.each y hy).1) h.rise (by simp) he
   rw [hn] at h3
   rw [h3,←hn,place_num (h.each e he).1,get_mem h.rise he]
  ·rw [wr_none l _ (fun y hy=>(h.each y hy).1) (by simp) fun e he hn=>hx ⟨e,he,hn⟩]
   rw [(get_none h.rise fun e he e2=>hx ⟨e,he,by rw [e2,num_place h.right h1];omega⟩).1]
   simp [List.getD,h1]
 have h3:x<(wrV D n l).length:=by rw [wrV_len];exact h1
 rw [List.getD_eq_getElem?_getD,List.getElem?_eq_getElem h3] at e1
 simp only [Option.getD_some] at e1
 rw [e1]
 simp [rwL]
end Go.Proofs.YtmmpanbkmpdnkahGreatDoor
namespace Go.Proofs.YtmmpanbkmpdnkahGreatDoor
open Go.ChangeShapes Go.WideShapes Go.ChangeAt Go.RowKit
set_option maxRecDepth 20000
def ToldP (D:Nat→Dm) (n:Nat) (p:List Int) (T:List Int):Prop:=T.Pairwise (· < ·)∧T.length≤12∧∀ z,z∈T↔∃ b:Nat,byTo D p n=(b:Int)∧∃ x∈mNd (D b) (p.getD b 0).toNat,z=numI D (p.set b x) n
end Go.Proofs.YtmmpanbkmpdnkahGreatDoor
namespace Go.Proofs.YtmmpanbkmpdnkahGreatDoor
section
variable {D:Nat→Dm} {n:Nat}
theorem told_less (hR:AllR D n) (hE:(allErr D n).2.2=0) {i:Nat} {T:List Int} (hT:ToldP D n (placeL D n i) T) {z:Int} (hz:z∈T):∃ j:Nat,z=(j:Int)∧j<prodN D n∧msrTo D (placeL D n j) n<msrTo D (placeL D n i) n:=by
 obtain ⟨b,hb,x,hx,rfl⟩:=(hT.2.2 z).1 hz
 have hI:InO D n (placeL D n i):=placeL_in hE
 have hbn:b<n:=by
  rcases by_in D (placeL D n i) n with h | ⟨b',h1,h2⟩
  ·omega
  ·omega
 have hxi:=mNd_in hx
 have hI2:=inO_set hI hbn hxi.1 hxi.2
 have hp0:=hI.lo b hbn
 have hp1:=hI.hi b hbn
 have hrk:=rk_less (hR b hbn) (i:=((placeL D n i).getD b 0).toNat) (by omega) hx
 rw [Int.toNat_of_nonneg hp0] at hrk
 have hms:=(msr_less (by rw [hI.len];exact hbn) hrk n).2 hbn
 obtain ⟨j,hj⟩:∃ j:Nat,numI D ((placeL D n i).set b x) n=(j:Int):=⟨(numI D ((placeL D n i).set b x) n).toNat,by have:=(numI_bound hI2 (Nat.le_refl n)).1;omega⟩
 refine ⟨j,hj,by have:=(numI_bound hI2 (Nat.le_refl n)).2.1;omega,?_⟩
 have hpn:=place_num hI2
 rw [hj,Int.toNat_natCast] at hpn
 rw [hpn]
 exact hms
end
end Go.Proofs.YtmmpanbkmpdnkahGreatDoor
namespace Go.Proofs.YtmmpanbkmpdnkahGreatDoor
open Go.ChangeShapes Go.WideShapes Go.ChangeAt Go.RowKit
section
variable {D:Nat→Dm} {n:Nat}
theorem told_inn (hR:AllR D n) (hE:(allErr D n).2.2=0) {N:List (List Int)} (hl:N.length=prodN D n) (hT:∀ i,i<prodN D n→ToldP D n (placeL D n i) (N.getD i [])):Inn N:=fun i hi x hx=>by
 obtain ⟨j,h1,h2,-⟩:=told_less hR hE (hT i (by omega)) hx
 omega
theorem told_acyc (hR:AllR D n) (hE:(allErr D n).2.2=0) {N:List (List Int)} (hl:N.length=prodN D n) (hT:∀ i,i<prodN D n→ToldP D n (placeL D n i) (N.getD i [])) (i:Nat) (hi:i<N.length):cycB N i=false:=by
 rw [cyc_not]
 intro hr
 have key:∀ {a b:Int},Rch N a b→∀ x:Nat,a=(x:Int)→x<prodN D n→∃ y:Nat,b=(y:Int)∧y<prodN D n∧msrTo D (placeL D n y) n<msrTo D (placeL D n x) n:=by
  intro a b hab
  induction hab with
  | one hx =>
   intro x hax hxn
   subst hax
   unfold rowN at hx
   rw [Int.toNat_natCast] at hx
   exact told_less hR hE (hT x hxn) hx
  | more hx _ ih =>
   intro x hax hxn
   subst hax
   unfold rowN at hx
   rw [Int.toNat_natCast] at hx
   obtain ⟨y,h1,h2,h3⟩:=told_less hR hE (hT x hxn) hx
   obtain ⟨z,h4,h5,h6⟩:=ih y h1 h2
   exact ⟨z,h4,h5,by omega⟩
 obtain ⟨y,h1,-,h3⟩:=key hr i rfl (by omega)
 have:y=i:=by omega
 subst this
 omega
end
section
variable {D:Nat→Dm} {n:Nat}
def StpN (D:Nat→Dm) (n i j:Nat):Prop := ∃ b:Nat,byTo D (placeL D n i) n=(b:Int)∧∃ x∈mNd (D b) ((placeL D n i).getD b 0).toNat,(j:Int)=numI D ((placeL D n i).set b x) n
theorem stp_iff {i j:Nat} {T:List Int} (hT:ToldP D n (placeL D n i) T):StpN D n i j↔(j:Int)∈T:=(hT.2.2 _).symm
end
section
variable {D:Nat→Dm} {n:Nat}
noncomputable def stpB (D:Nat→Dm) (n i j:Nat):Bool := @decide (StpN D n i j) (Classical.propDecidable _)
theorem stpB_iff {i j:Nat}:stpB D n i j=true↔StpN D n i j:=by unfold stpB;exact @decide_eq_true_iff _ (Classical.propDecidable _)
noncomputable def telL (D:Nat→Dm) (n i:Nat):List Int:=selTo (stpB D n i) (prodN D n)
theorem told_eq (hR:AllR D n) (hE:(allErr D n).2.2=0) {i:Nat} {T:List Int} (hT:ToldP D n (placeL D n i) T):T=telL D n i :=
 rise_eq _ _ hT.1 (sel_rise _ _) fun x=>⟨fun hx=>by
  obtain ⟨j,rfl,hj,-⟩:=told_less hR hE hT hx
  exact sel_has hj (stpB_iff.2 ((stp_iff hT).2 hx)),fun hx=>by
  obtain ⟨m,rfl,-,hp⟩:=selTo_mem _ hx
  exact (stp_iff hT).1 (stpB_iff.1 hp)⟩
noncomputable def rowsL (D:Nat→Dm) (n:Nat):List (List Int):=(List.range (prodN D n)).map (telL D n)
theorem rows_len:(rowsL D n).length=prodN D n:=by simp [rowsL]
theorem rows_at {i:Nat} (hi:i<prodN D n):(rowsL D n).getD i []=telL D n i:=by
 unfold rowsL
 rw [List.getD_eq_getElem?_getD,List.getElem?_map,List.getElem?_range hi]
 rfl
noncomputable def caL (D:Nat→Dm) (n:Nat) (l:List En):List (Int×Int):=if cuErr D n l=0 then (List.range (prodN D n)).map (fun j=>solV D n (getE l) (placeL D n j)) else []
theorem caL_bad {l:List En} (h:cuErr D n l≠0):caL D n l=[]:=by unfold caL;rw [if_neg h]
theorem caL_len {l:List En} (h:cuErr D n l=0):(caL D n l).length=prodN D n:=by unfold caL;rw [if_pos h];simp
theorem caL_at {l:List En} (h:cuErr D n l=0) {j:Nat} (hj:j<prodN D n):(caL D n l).getD j noC=solV D n (getE l) (placeL D n j):=by
 unfold caL
 rw [if_pos h,List.getD_eq_getElem?_getD,List.getElem?_map,List.getElem?_range hj]
 rfl
theorem ca_eq {l:List En} (h:cuErr D n l=0) {L:List (Int×Int)} (hl:L.length=prodN D n) (hv:∀ j,j<prodN D n→L.getD j noC=solV D n (getE l) (placeL D n j)):L=caL D n l:=by
 refine List.ext_getElem (by rw [hl,caL_len h]) fun i h1 h2=>?_
 have h3:i<prodN D n:=by omega
 have e:=(hv i h3).trans (caL_at h h3).symm
 rw [List.getD_eq_getElem?_getD,List.getElem?_eq_getElem h1,List.getD_eq_getElem?_getD,List.getElem?_eq_getElem h2] at e
 exact e
theorem cu_ru {l:List En} (h:cuErr D n l=0):(ruErr D n).2.2=0∧entsErr D n l=0:=by
 have h4:(ruErr D n).2.2=0:=by
  by_cases h2:(ruErr D n).2.2=0
  ·exact h2
  ·unfold cuErr at h;rw [if_pos h2] at h;exact absurd h h2
 exact ⟨h4,by unfold cuErr at h;rw [h4,if_neg (by simp)] at h;exact h⟩
end
end Go.Proofs.YtmmpanbkmpdnkahGreatDoor
