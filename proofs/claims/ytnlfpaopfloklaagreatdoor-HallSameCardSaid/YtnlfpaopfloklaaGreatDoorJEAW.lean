/-
  What slices.IndexFunc and slices.DeleteFunc over ints answer where the question is told of the list's own numbers alone: the rest of a list in a row of one's own.
-/
import Derived.Test.YtnlfpaopfloklaaGreatDoorJEAM
namespace Go.Proofs.YtnlfpaopfloklaaGreatDoor
open Go Go.ChangeShapes Go.WideShapes Go.ChangeAt Go.RowKit
set_option maxRecDepth 20000
theorem grown_transR {w w1 w2:World} {r:Option Nat} (h:w.grownBy w1 r) (k:w1.grownBy w2 r):w.grownBy w2 r :=
 ⟨k.os.trans h.os,k.tape.trans h.tape,k.output.trans h.output,Nat.le_trans h.size k.size,fun i hi hr=>(k.block i (Nat.lt_of_lt_of_le hi h.size) hr).trans (h.block i hi hr)⟩
theorem grown_belowR {w w':World} {r:Option Nat} (h:Below w.heap.size w w'):w.grownBy w' r:=⟨h.os,h.tape,h.output,h.size,fun i hi _=>h.block i hi⟩
theorem grown_setRowR (w:World) (g:Nat) (cs:Array Value):w.grownBy (w.setRow g cs) (some g) :=
 ⟨rfl,rfl,rfl,by rw [setRow_size];exact Nat.le_refl _,fun i _ hr=>setRow_other w g i cs fun e=>hr (by rw [e])⟩
theorem setCells_rowR (g:Nat) (t:TypeId):∀ (vs:List Value) (o:Nat) (cur:Array Value) (w:World),w.heap[g]?=some (.cells cur t (0,0))→o+vs.length≤cur.size→w.setCells g o vs=w.setRow g (cur.toList.take o ++ vs ++ cur.toList.drop (o+vs.length)).toArray
 | [],o,cur,w,hg,_=>by
  simp only [World.setCells,List.append_nil,List.length_nil,Nat.add_zero,List.take_append_drop,Array.toArray_toList]
  rw [setRow_self w g cur t (0,0) hg]
 | v :: r,o,cur,w,hg,hl=>by
  simp only [List.length_cons] at hl
  rw [World.setCells,setCell_eq_setRow w g o cur t (0,0) v hg,setCells_rowR g t r (o+1) (cur.setIfInBounds o v) _ (setRow_heap w g cur _ t _ hg) (by simp;omega),setRow_setRow]
  have e:=list_seg_step cur.toList o v r (by simp;omega)
  congr 2
  simpa [Array.toList_setIfInBounds,Nat.add_assoc] using e
set_option maxHeartbeats 1000000 in
theorem indexm_any (F:Nat) (cap:Array Value) (p:Int→Bool) (hent:∀ (args:Array Value) (w:World),(callFunc F args).run Tryz.prog w=.ok (.enter F args) w) (A:Option Addr) (c:Nat) (L:List Int) (w:World) (hn:L.length≤3000) (hL:IntsAt w A c L)
  (hF:∀ (x:Int) (w':World),x∈L→Below w.heap.size w w'→Calls Tryz.prog F (#[.int .i64 x] ++ cap) w' fun e w''=>e=.returned (.bool (p x))∧Below w'.heap.size w' w'') :
  Calls Tryz.prog 80 #[.slice A L.length c,.func (.func F) #[] cap] w fun e w'=>e=.returned (.int .i64 (findFrom (fun j=>p (L.getD j 0)) L.length 0))∧Below w.heap.size w w' :=
 indexm_pl F cap p hent A c L w (by omega) (pl_ints hL) hF
def DInv (L:List Int) (p:Int→Bool) (i j:Nat) (cur:Array Value):Prop:=i<j∧((L.take j).filter fun x => !p x).length=i∧(∀ m,m<i→cur[m]?=some (.int .i64 (((L.take j).filter fun x => !p x).getD m 0)))∧∀ m,j≤m→m<L.length→cur[m]?=some (.int .i64 (L.getD m 0))
theorem take_one {L:List Int} {j:Nat} (h:j<L.length):L.take (j+1)=L.take j ++ [L.getD j 0]:=by
 rw [List.take_succ_eq_append_getElem h,List.getD_eq_getElem?_getD,List.getElem?_eq_getElem h]
 rfl
theorem dinv_start {L:List Int} {p:Int→Bool} {k:Nat} {cur:Array Value} (hk:k<L.length) (hp:p (L.getD k 0)=true) (hn:∀ j,j<k→p (L.getD j 0)=false) (hc:∀ m,m<L.length→cur[m]?=some (.int .i64 (L.getD m 0))):DInv L p k (k+1) cur:=by
 have hf:(L.take k).filter (fun x => !p x)=L.take k:=by
  rw [List.filter_eq_self]
  intro x hx
  obtain ⟨j,hj,rfl⟩:=List.getElem_of_mem hx
  have hj2:j<k:=by rw [List.length_take] at hj;omega
  have h:=hn j hj2
  rw [List.getD_eq_getElem?_getD,List.getElem?_eq_getElem (by omega)] at h
  simpa using h
 have e:(L.take (k+1)).filter (fun x => !p x)=L.take k:=by
  rw [take_one hk,List.filter_append,hf]
  generalize L.getD k 0=x at hp ⊢
  simp [hp]
 refine ⟨by omega,by rw [e,List.length_take];omega,fun m hm=>?_,fun m h1 h2=>hc m h2⟩
 rw [e,hc m (by omega),List.getD_eq_getElem?_getD,List.getD_eq_getElem?_getD,List.getElem?_take_of_lt hm]
theorem dinv_skip {L:List Int} {p:Int→Bool} {i j:Nat} {cur:Array Value} (h:DInv L p i j cur) (hj:j<L.length) (hp:p (L.getD j 0)=true):DInv L p i (j+1) cur:=by
 have e:(L.take (j+1)).filter (fun x => !p x)=(L.take j).filter (fun x => !p x):=by
  rw [take_one hj,List.filter_append]
  generalize L.getD j 0=x at hp ⊢
  simp [hp]
 obtain ⟨h1,h2,h3,h4⟩:=h
 refine ⟨by omega,by rw [e];exact h2,fun m hm=>by rw [e];exact h3 m hm,fun m a b=>h4 m (by omega) b⟩
theorem dinv_keep {L:List Int} {p:Int→Bool} {i j:Nat} {cur:Array Value} (h:DInv L p i j cur) (hj:j<L.length) (hs:L.length≤cur.size) (hp:p (L.getD j 0)=false):DInv L p (i+1) (j+1) (cur.setIfInBounds i (.int .i64 (L.getD j 0))):=by
 have e:(L.take (j+1)).filter (fun x => !p x)=(L.take j).filter (fun x => !p x) ++ [L.getD j 0]:=by
  rw [take_one hj,List.filter_append]
  generalize L.getD j 0=x at hp ⊢
  simp [hp]
 obtain ⟨h1,h2,h3,h4⟩:=h
 generalize L.getD j 0=x at e ⊢
 refine ⟨by omega,by rw [e,List.length_append,h2];rfl,fun m hm=>?_,fun m a b=>?_⟩
 ·rw [e,Array.getElem?_setIfInBounds]
  by_cases he:i=m
  ·rw [if_pos he,if_pos (by omega),List.getD_eq_getElem?_getD,List.getElem?_append_right (by omega),h2,he]
   simp
  ·rw [if_neg he,h3 m (by omega),List.getD_eq_getElem?_getD,List.getD_eq_getElem?_getD,List.getElem?_append_left (by omega)]
 ·rw [Array.getElem?_setIfInBounds,if_neg (by omega)]
  exact h4 m (by omega) b
theorem grown_setRu {w wr:World} {g k:Nat} {v:Value} (h:w.grownBy wr (some g)):w.grownBy (wr.setCell ⟨g,k,none⟩ v) (some g):=by
 refine ⟨h.os,h.tape,h.output,by simpa [World.setCell] using h.size,fun i hi hr=>?_⟩
 rw [←h.block i hi hr]
 simp only [World.setCell,Array.getElem?_modify]
 rw [if_neg fun e=>hr (by rw [e])]
set_option maxHeartbeats 4000000 in
theorem delf_any (F:Nat) (cp:Array Value) (p:Int→Bool) (hent:∀ (args:Array Value) (w:World),(callFunc F args).run Tryz.prog w=.ok (.enter F args) w) (base:Nat) (v:Value) (L:List Int) (w:World) (hn:L.length≤3000) (hown:w.ownsRow base 3 1 v L.length (mapI L))
  (hF:∀ (x:Int) (w':World),x∈L→w.grownBy w' v.ownBlock→Calls Tryz.prog F (#[.int .i64 x] ++ cp) w' fun e w''=>e=.returned (.bool (p x))∧Below w'.heap.size w' w'') :
  Calls Tryz.prog 148 #[v,.func (.func F) #[] cp] w fun e w'=>(∃ A' c',e=.returned (.slice A' (L.filter fun x => !p x).length c')∧IntT w' A' c' (L.filter fun x => !p x))∧w.grownBy w' v.ownBlock:=by
 obtain ⟨A,c,rfl,hI⟩:=intT_own hown
 have hix:=indexm_any F cp p hent A c L w (by omega) hI.at fun x w' hx hB=>hF x w' hx (grown_belowR hB)
 rcases findFrom_cases (fun j=>p (L.getD j 0)) L.length 0 with ⟨h1,h2⟩ | ⟨k,h1,_,h3,h4,h5⟩
 ·have hf:(L.filter fun x => !p x)=L:=by
   rw [List.filter_eq_self]
   intro x hx
   obtain ⟨j,hj,rfl⟩:=List.getElem_of_mem hx
   have h:=h2 j (Nat.zero_le _) (by omega)
   simp only [List.getD_eq_getElem?_getD,List.getElem?_eq_getElem hj] at h
   simpa using h
  have HF:Hid ((L.filter fun x => !p x)=L):=hf
  have HI:Hid (IntT w A c L):=hI
  rw [h1] at hix
  rw [hf]
  generalize L.length=n at hix
  clear hF hown hI h1 h2 hf hent
  go_enter Tryz.func148,Tryz.ntmps148
  go_wp2_with fail
  refine hix.mono ?_
  rintro e w1 ⟨rfl,hb1⟩
  go_wp2_with fail
  go_ret
  exact ⟨⟨A,c,rfl,HI.out.later hb1⟩,grown_belowR hb1⟩
 ·have hk:k<L.length:=by omega
  obtain ⟨hLc,hc63,hI0 | ⟨g,cs0,fr0,rfl,hg0,-⟩⟩:=hI
  ·rw [hI0] at hk;simp at hk
  obtain ⟨cur,hg,hcs,hcur⟩:∃ cur:Array Value,w.heap[g]?=some (.cells cur 3 (0,0))∧cur.size=c∧∀ m,m<L.length→cur[m]?=some (.int .i64 (L.getD m 0)):=by
   rcases hown.2 with ⟨e,_⟩ | ⟨g',cap,cur,e,hb,hg,hc,hm,hs,ht⟩
   ·cases e
   ·cases e
    refine ⟨cur,hg,by omega,fun m hm=>?_⟩
    have h:(mapI L)[m]?=some (.int .i64 (L.getD m 0)):=by simp [mapI,List.getD,List.getElem?_eq_getElem hm]
    rw [←ht,Nat.mul_one,List.getElem?_take_of_lt hm] at h
    rw [←h]
    simp
  have HSt:Hid (DInv L p k (k+1) cur):=dinv_start hk h4 (fun j hj=>h5 j (Nat.zero_le _) hj) hcur
  have HF:Hid (∀ (x:Int) (w':World),x∈L→w.grownBy w' (some g)→Calls Tryz.prog F (#[.int .i64 x] ++ cp) w' fun e w''=>e=.returned (.bool (p x))∧Below w'.heap.size w' w''):=hF
  have HCs:Hid (cur.size=c):=hcs
  rw [h1] at hix
  obtain ⟨n,hnn⟩:∃ n,L.length=n:=⟨_,rfl⟩
  have HN:Hid (L.length=n):=hnn
  have HG0:Hid (w.heap[g]?=some (.cells cur 3 (0,0))):=hg
  rw [hnn] at hix hk hn hLc ⊢
  have hki:(k:Int)<(n:Int):=by omega
  have hnI:(n:Int)≤3000:=by omega
  have hne:((k:Int) == -1)=false:=by
   have:(k:Int)≠-1:=by omega
   simp only [beq_eq_false_iff_ne];exact this
  show Calls Tryz.prog 148 #[.slice (some ⟨g,0,none⟩) n c,.func (.func F) #[] cp] w fun e w'=>(∃ A' c',e=.returned (.slice A' (L.filter fun x => !p x).length c')∧IntT w' A' c' (L.filter fun x => !p x))∧w.grownBy w' (some g)
  clear hF hown hg0 hcur hcs h1 h3 h4 h5 hg hnn
  go_enter Tryz.func148,Tryz.ntmps148
  go_wp2_with fail
  refine hix.mono ?_
  rintro e w1 ⟨rfl,hb1⟩
  have HG1:Hid (w1.heap[g]?=some (.cells cur 3 (0,0))∧w.grownBy w1 (some g)):=⟨(hb1.block g (Array.getElem?_eq_some_iff.1 HG0.out).1).trans HG0.out,grown_belowR hb1⟩
  clear hb1 hix
  go_wp2_with fail
  go_loopg [5,6] (n-(k+1)) (fun gg s5 s6 wr => ∃ (i j:Nat) (cu:Array Value),j≤n∧gg=n-j∧s5=.int .i64 i∧s6=.int .i64 j∧Hid (DInv L p i j cu∧cu.size=c)∧wr.heap[g]?=some (.cells cu 3 (0,0))∧w.grownBy wr (some g))
  case atStart=>exact ⟨k,k+1,cur,by omega,rfl,rfl,by go_num,(⟨HSt.out,HCs.out⟩:_∧_),HG1.out.1,HG1.out.2⟩
  case round =>
   obtain ⟨i,j,cu,hj,rfl,rfl,rfl,HD,hg,hG⟩:=hrel
   have HG:Hid (wr.heap[g]?=some (.cells cu 3 (0,0))):=hg
   have HGr:Hid (w.grownBy wr (some g)):=hG
   have hij:=HD.out.1.1
   have hgl:g<wr.heap.size:=(Array.getElem?_eq_some_iff.1 hg).1
   have hcc:=HD.out.2
   by_cases hlt:j<n
   ·have hji:(j:Int)<(n:Int):=by omega
    have hii:(i:Int)<(n:Int):=by omega
    have cj:wr.cell? ⟨g,j,none⟩=some (.int .i64 (L.getD j 0)):=by
     rw [Lib.cell_of_heap hg]
     exact HD.out.1.2.2.2 j (Nat.le_refl _) (by rw [HN.out];exact hlt)
    have hcl:=HF.out (L.getD j 0) wr (by rw [List.getD_eq_getElem?_getD,List.getElem?_eq_getElem (by rw [HN.out];exact hlt)];exact List.getElem_mem _) hG
    cases hp:p (L.getD j 0)
    ·rw [hp] at hcl
     have HD2:Hid (DInv L p (i+1) (j+1) (cu.setIfInBounds i (.int .i64 (L.getD j 0)))∧(cu.setIfInBounds i (.int .i64 (L.getD j 0))).size=c):=⟨dinv_keep HD.out.1 (by rw [HN.out];exact hlt) (by rw [HN.out,hcc];exact hLc) hp,by simpa using hcc⟩
     generalize L.getD j 0=x at cj hcl HD2
     clear hg hG hp
     go_wp2_with fail
     refine hcl.mono ?_
     rintro e w2 ⟨rfl,hb2⟩
     have hg2:=(hb2.block g hgl).trans HG.out
     have ci:(w2.cell? ⟨g,i,none⟩).isSome=true:=by
      rw [Lib.cell_of_heap hg2,Array.getElem?_eq_getElem (by omega)]
      rfl
     obtain ⟨old,hold⟩:∃ old,w2.cell? ⟨g,i,none⟩=some old:=Option.isSome_iff_exists.1 ci
     have hfr:w2.frozen? ⟨g,i,none⟩=false:=Lib.frozen_of_heap hg2 i
     have HG2:Hid ((w2.setCell ⟨g,i,none⟩ (.int .i64 x)).heap[g]?=some (.cells (cu.setIfInBounds i (.int .i64 x)) 3 (0,0))):=by
      show _=_
      simp [World.setCell,Array.getElem?_modify,hg2]
     have HGr2:Hid (w.grownBy (w2.setCell ⟨g,i,none⟩ (.int .i64 x)) (some g)):=grown_setRu (grown_transR HGr.out (grown_belowR hb2))
     clear hb2 hg2 hcl ci
     go_wp2_with fail
     go_roundg (n-(j+1))
     case measure=>omega
     case rel=>exact ⟨i+1,j+1,_,by omega,rfl,by go_num,by go_num,HD2,HG2.out,HGr2.out⟩
    ·rw [hp] at hcl
     have HD2:Hid (DInv L p i (j+1) cu∧cu.size=c):=⟨dinv_skip HD.out.1 (by rw [HN.out];exact hlt) hp,hcc⟩
     generalize L.getD j 0=x at cj hcl
     clear hg hG hp
     go_wp2_with fail
     refine hcl.mono ?_
     rintro e w2 ⟨rfl,hb2⟩
     have HG2:Hid (w2.heap[g]?=some (.cells cu 3 (0,0))):=(hb2.block g hgl).trans HG.out
     have HGr2:Hid (w.grownBy w2 (some g)):=grown_transR HGr.out (grown_belowR hb2)
     clear hb2 hcl
     go_wp2_with fail
     go_roundg (n-(j+1))
     case measure=>omega
     case rel=>exact ⟨i,j+1,_,by omega,rfl,rfl,by go_num,HD2,HG2.out,HGr2.out⟩
   ·have hje:j=n:=by omega
    subst hje
    have hii:(i:Int)<(j:Int):=by omega
    have hcl:∀ ty,(Builtin.clear_ #[38] ty #[.slice (some ⟨g,0+i,none⟩) (j-i) (c-i)]).run Tryz.prog wr=.ok (.tuple #[]) (wr.setCells g (0+i) (List.replicate (j-i) (.int .i64 0))) :=
     fun ty=>Lib.run_clear_slice wr _ _ ty _ Tryz.underlying38 Tryz.zeroValue3 rfl rfl g (0+i) _ _ (by omega) (fun t ht=>by rw [Lib.cell_of_heap hg,Array.getElem?_eq_getElem (by omega)];rfl) (fun t _=>Lib.frozen_of_heap hg _)
    have HDn:Hid (DInv L p i j cu∧cu.size=c):=HD
    have hseg:=setCells_rowR g 3 (List.replicate (j-i) (.int .i64 0)) (0+i) cu wr hg (by simp;omega)
    obtain ⟨W,hW⟩:∃ W,wr.setCells g (0+i) (List.replicate (j-i) (Value.int .i64 0))=W:=⟨_,rfl⟩
    have HGW:Hid (w.grownBy W (some g)):=by rw [←hW,hseg];exact grown_transR hG (grown_setRowR wr g _)
    have HTW:Hid (IntT W (some ⟨g,0,none⟩) c (L.filter fun x => !p x)):=by
     have hf:(L.filter fun x => !p x)=(L.take j).filter fun x => !p x:=by rw [List.take_of_length_le (by rw [HN.out];exact Nat.le_refl _)]
     have hWg:W.heap[g]?=some (.cells (cu.toList.take (0+i) ++ List.replicate (j-i) (Value.int .i64 0) ++ cu.toList.drop (0+i+(List.replicate (j-i) (Value.int .i64 0)).length)).toArray 3 (0,0)):=by rw [←hW,hseg];exact setRow_heap wr g cu _ _ _ hg
     refine ⟨by rw [hf,HD.out.1.2.1];omega,hc63,Or.inr ⟨g,_,_,rfl,hWg,fun m hm=>?_⟩⟩
     rw [hf] at hm ⊢
     rw [HD.out.1.2.1] at hm
     rw [Lib.cell_of_heap hWg,←HD.out.1.2.2.1 m hm]
     simp only [List.getElem?_toArray]
     rw [List.append_assoc,List.getElem?_append_left (by simp;omega),List.getElem?_take_of_lt (by omega)]
     simp
    have HFl:Hid ((L.filter fun x => !p x).length=i):=by
     show _=_
     rw [←HD.out.1.2.1,List.take_of_length_le (by rw [HN.out];exact Nat.le_refl _)]
    rw [hW,Nat.zero_add] at hcl
    have hcI:(j:Int)≤(c:Int):=by omega
    clear hg hG hseg hW
    go_wp2
    go_ret
    exact ⟨⟨some ⟨g,0,none⟩,c,by rw [HFl.out];rfl,HTW.out⟩,HGW.out⟩
end Go.Proofs.YtnlfpaopfloklaaGreatDoor
namespace Go.Proofs.YtnlfpaopfloklaaGreatDoor
def misC (N:List (List Int)) (out:List Int) (j:Nat):Nat:=((N.getD j []).filter fun x => !(out.contains x)).length
def usrL (N:List (List Int)) (m n:Nat):List Int:=selTo (fun j=>(N.getD j []).contains (m:Int)) n
theorem usr_mem {N:List (List Int)} {m n:Nat} {x:Int}:x∈usrL N m n↔∃ j:Nat,x=j∧j<n∧(m:Int)∈N.getD j []:=by
 unfold usrL
 constructor
 ·intro h
  obtain ⟨j,h1,h2,h3⟩:=selTo_mem x h
  exact ⟨j,h1,h2,List.contains_iff_mem.1 h3⟩
 ·rintro ⟨j,rfl,h2,h3⟩
  exact sel_has h2 (List.contains_iff_mem.2 h3)
theorem usr_rise (N:List (List Int)) (m n:Nat):(usrL N m n).Pairwise (· < ·):=sel_rise _ _
theorem mis_none {N:List (List Int)} {out:List Int} {j:Nat}:misC N out j=0↔∀ x∈N.getD j [],x∈out:=by
 unfold misC
 rw [List.length_eq_zero_iff,List.filter_eq_nil_iff]
 refine forall_congr' fun x=>forall_congr' fun _=>?_
 simp
theorem mis_first (N:List (List Int)) (j:Nat):misC N [] j=(N.getD j []).length:=by
 unfold misC
 rw [List.filter_eq_self.2 fun x _=>by simp]
theorem mis_le (N:List (List Int)) (out:List Int) (j:Nat):misC N out j≤(N.getD j []).length:=List.length_filter_le _ _
theorem filt_one:∀ (L out:List Int) (m:Int),L.Pairwise (· < ·)→m∉out→(L.filter fun x => !(out.contains x)).length=(L.filter fun x => !((out ++ [m]).contains x)).length+(if m∈L then 1 else 0)
 | [],_,_,_,_=>rfl
 | a :: L,out,m,hL,hm=>by
  obtain ⟨h1,h2⟩:=List.pairwise_cons.1 hL
  have ih:=filt_one L out m h2 hm
  have hc:∀ x,(out ++ [m]).contains x=(out.contains x || x == m):=fun x=>by
   rw [Bool.eq_iff_iff,Bool.or_eq_true,List.contains_iff_mem,List.contains_iff_mem,List.mem_append,List.mem_singleton,beq_iff_eq]
  rw [List.filter_cons,List.filter_cons]
  by_cases ha:a=m
  ·subst ha
   have hn:a∉L:=fun h=>by have:=h1 a h;omega
   have e1:out.contains a=false:=by rw [←Bool.not_eq_true,List.contains_iff_mem];exact hm
   rw [hc a,e1]
   rw [if_neg hn] at ih
   simp only [Bool.not_false,if_true,beq_self_eq_true,Bool.or_true,Bool.not_true,Bool.false_eq_true,if_false,List.length_cons,List.mem_cons,true_or]
   omega
  ·have hb:(a == m)=false:=by simpa using ha
   have e2:(m∈a :: L)↔m∈L:=by
    rw [List.mem_cons]
    exact ⟨fun h=>h.resolve_left (fun e=>ha e.symm),Or.inr⟩
   rw [hc a,hb,Bool.or_false]
   cases out.contains a
   ·simp only [Bool.not_false,if_true,List.length_cons,e2]
    omega
   ·simp only [Bool.not_true,Bool.false_eq_true,if_false,e2]
    exact ih
theorem mis_next {N:List (List Int)} {out:List Int} {m j:Nat} (hr:(N.getD j []).Pairwise (· < ·)) (hm:(m:Int)∉out):misC N out j=misC N (out ++ [(m:Int)]) j+(if (m:Int)∈N.getD j [] then 1 else 0):=filt_one _ _ _ hr hm
theorem ord_closed (N:List (List Int)) (k:Nat):∀ j:Nat,(j:Int)∈ordTo N k→∀ x∈N.getD j [],x∈ordTo N k:=by
 induction k with
 | zero=>intro j hj;cases hj
 | succ k ih =>
  intro j hj x hx
  rw [ordTo,List.mem_append] at hj ⊢
  rcases hj with hj | hj
  ·exact Or.inl (ih j hj x hx)
  ·split at hj
   ·rename_i h
    obtain ⟨m,h1,-,h3,-⟩:=next_some h
    rw [List.mem_singleton,h1] at hj
    have:j=m:=by omega
    subst this
    exact Or.inl ((ok_out h3).2 x hx)
   ·cases hj
def RdyP (N:List (List Int)) (out R:List Int):Prop:=R.Pairwise (· < ·)∧∀ x,x∈R↔∃ j:Nat,x=j∧j<N.length∧okN N out j=true
def RdyI (N:List (List Int)) (out:List Int) (m i:Nat) (R:List Int):Prop:=R.Pairwise (· < ·)∧∀ x,x∈R↔∃ j:Nat,x=j∧j<N.length∧((okN N out j=true∧j≠m)∨((j:Int)∈(usrL N m N.length).take i∧misC N out j=1))
def misI (N:List (List Int)) (out:List Int) (m i j:Nat):Nat:=misC N out j-(if (j:Int)∈(usrL N m N.length).take i then 1 else 0)
theorem rdy_first {N:List (List Int)} {R:List Int} (hR:R=selTo (fun j=>(N.getD j []).isEmpty) N.length):RdyP N [] R:=by
 subst hR
 refine ⟨sel_rise _ _,fun x=>?_⟩
 constructor
 ·intro h
  obtain ⟨j,h1,h2,h3⟩:=selTo_mem x h
  refine ⟨j,h1,h2,ok_of (by simp) fun y hy=>?_⟩
  rw [List.isEmpty_iff] at h3
  rw [h3] at hy
  cases hy
 ·rintro ⟨j,rfl,h2,h3⟩
  refine sel_has h2 ?_
  rw [List.isEmpty_iff]
  have:=(ok_out h3).2
  cases h:N.getD j [] with
  | nil=>rfl
  | cons a r=>exact absurd (this a (by rw [h];simp)) (by simp)
theorem rdy_head {N:List (List Int)} (hN:Inn N) (hc:∀ i:Nat,i<N.length→cycB N i=false) {k:Nat} (hk:k<N.length) {R:List Int} (hR:RdyP N (ordTo N k) R):∃ (m:Nat) (R':List Int),R=(m:Int) :: R'∧m<N.length∧okN N (ordTo N k) m=true∧ordTo N (k+1)=ordTo N k ++ [(m:Int)]∧RdyI N (ordTo N k) m 0 R':=by
 obtain ⟨m,-,h2,h3,h4,h5⟩:=ord_snoc hN hc hk
 obtain ⟨hr,hm⟩:=hR
 have hmR:=(hm m).2 ⟨m,rfl,h2,h3⟩
 cases R with
 | nil=>cases hmR
 | cons a R' =>
  obtain ⟨r1,r2⟩:=List.pairwise_cons.1 hr
  have ham:a=(m:Int):=by
   obtain ⟨j,e1,e2,e3⟩:=(hm a).1 (by simp)
   rcases List.mem_cons.1 hmR with h | h
   ·exact h.symm
   ·have h6:=r1 _ h
    rw [h4 j (by omega)] at e3
    cases e3
  subst ham
  refine ⟨m,R',rfl,h2,h3,h5,r2,fun x=>?_⟩
  constructor
  ·intro hx
   obtain ⟨j,e1,e2,e3⟩:=(hm x).1 (List.mem_cons_of_mem _ hx)
   refine ⟨j,e1,e2,Or.inl ⟨e3,fun e=>?_⟩⟩
   have:=r1 x hx
   omega
  ·rintro ⟨j,rfl,e2,(⟨e3,e4⟩ | ⟨e3,-⟩)⟩
   ·rcases List.mem_cons.1 ((hm j).2 ⟨j,rfl,e2,e3⟩) with h | h
    ·omega
    ·exact h
   ·simp at e3
theorem rdy_end {N:List (List Int)} (hN:Inn N) (hc:∀ i:Nat,i<N.length→cycB N i=false) {R:List Int} (hR:RdyP N (ordTo N N.length) R):R=[]:=by
 refine List.eq_nil_iff_forall_not_mem.2 fun x hx=>?_
 obtain ⟨j,rfl,h2,h3⟩:=(hR.2 x).1 hx
 have hj:=(ok_out h3).1
 obtain ⟨h1,h4⟩:=ord_in N N.length
 have:=few N.length ((j:Int) :: ordTo N N.length) (List.nodup_cons.2 ⟨hj,h1⟩) fun y hy=>by
  rcases List.mem_cons.1 hy with rfl | hy
  ·omega
  ·exact h4 y hy
 rw [List.length_cons,ord_len hN hc N.length (Nat.le_refl _)] at this
 omega
def insL (R:List Int) (k:Int):List Int:=R.take (R.countP (· < k)) ++ k :: R.drop (R.countP (· < k))
theorem ins_parts:∀ (R:List Int) (k:Int),R.Pairwise (· < ·)→k∉R→(∀ a∈R.take (R.countP (· < k)),a<k)∧∀ b∈R.drop (R.countP (· < k)),k<b
 | [],k,_,_=>⟨fun a h=>by simp at h,fun b h=>by simp at h⟩
 | a :: R,k,hR,hk=>by
  obtain ⟨h1,h2⟩:=List.pairwise_cons.1 hR
  have hk2:k≠a∧k∉R:=by simpa using hk
  by_cases h:a<k
  ·obtain ⟨i1,i2⟩:=ins_parts R k h2 hk2.2
   rw [List.countP_cons_of_pos (by simpa using h),List.take_succ_cons,List.drop_succ_cons]
   refine ⟨fun x hx=>?_,i2⟩
   rcases List.mem_cons.1 hx with rfl | hx
   ·exact h
   ·exact i1 x hx
  ·have h0:(a :: R).countP (· < k)=0:=by
    rw [List.countP_eq_zero]
    intro x hx
    rcases List.mem_cons.1 hx with rfl | hx
    ·simpa using h
    ·have:=h1 x hx
     simp;omega
   rw [h0]
   refine ⟨fun x hx=>by simp at hx,fun x hx=>?_⟩
   rcases List.mem_cons.1 (show x∈a :: R from hx) with rfl | hx
   ·omega
   ·have:=h1 x hx;omega
theorem ins_rise {R:List Int} {k:Int} (hR:R.Pairwise (· < ·)) (hk:k∉R):(insL R k).Pairwise (· < ·)∧∀ x,x∈insL R k↔x=k∨x∈R:=by
 obtain ⟨h1,h2⟩:=ins_parts R k hR hk
 have hsp:R.take (R.countP (· < k)) ++ R.drop (R.countP (· < k))=R:=List.take_append_drop _ _
 refine ⟨?_,fun x=>?_⟩
 ·unfold insL
  rw [List.pairwise_append]
  refine ⟨hR.sublist (List.take_sublist _ _),List.pairwise_cons.2 ⟨h2,hR.sublist (List.drop_sublist _ _)⟩,fun a ha b hb=>?_⟩
  rcases List.mem_cons.1 hb with rfl | hb
  ·exact h1 a ha
  ·have:=h1 a ha
   have:=h2 b hb
   omega
 ·unfold insL
  rw [List.mem_append,List.mem_cons]
  have:x∈R↔x∈R.take (R.countP (· < k))∨x∈R.drop (R.countP (· < k)):=by rw [←List.mem_append,hsp]
  rw [this]
  constructor
  ·rintro (h | h | h)
   ·exact Or.inr (Or.inl h)
   ·exact Or.inl h
   ·exact Or.inr (Or.inr h)
  ·rintro (h | h | h)
   ·exact Or.inr (Or.inl h)
   ·exact Or.inl h
   ·exact Or.inr (Or.inr h)
theorem usr_take {N:List (List Int)} {m i:Nat} (hi:i<(usrL N m N.length).length) (x:Int):x∈(usrL N m N.length).take (i+1)↔x∈(usrL N m N.length).take i∨x=(usrL N m N.length).getD i 0:=by
 rw [List.take_succ_eq_append_getElem hi,List.mem_append,List.mem_singleton,List.getD_eq_getElem?_getD,List.getElem?_eq_getElem hi]
 rfl
theorem usr_new {N:List (List Int)} {m i:Nat} (hi:i<(usrL N m N.length).length):(usrL N m N.length).getD i 0∉(usrL N m N.length).take i:=by
 intro h
 rw [List.getD_eq_getElem?_getD,List.getElem?_eq_getElem hi,Option.getD_some] at h
 obtain ⟨j,hj,e⟩:=List.getElem_of_mem h
 have hj2:j<i:=by have:=hj;rw [List.length_take] at this;omega
 rw [List.getElem_take] at e
 have:=List.pairwise_iff_getElem.1 (usr_rise N m N.length) j i (by omega) hi hj2
 omega
theorem usr_step {N:List (List Int)} (hr:∀ j,j<N.length→(N.getD j []).Pairwise (· < ·)) {out:List Int} {m i:Nat} (hm:okN N out m=true) (hi:i<(usrL N m N.length).length):∃ u:Nat,(usrL N m N.length).getD i 0=(u:Int)∧u<N.length∧misI N out m i u=misC N out u∧1≤misC N out u∧misI N out m (i+1) u+1=misC N out u∧(∀ j,j≠u→misI N out m (i+1) j=misI N out m i j)∧∀ R,RdyI N out m i R→(u:Int)∉R∧(misC N out u=1→RdyI N out m (i+1) (insL R u))∧(misC N out u≠1→RdyI N out m (i+1) R):=by
 have hmo:=(ok_out hm).1
 have hmem:(usrL N m N.length).getD i 0∈usrL N m N.length:=by
  rw [List.getD_eq_getElem?_getD,List.getElem?_eq_getElem hi];exact List.getElem_mem hi
 obtain ⟨u,e1,e2,e3⟩:=usr_mem.1 hmem
 have hnew:=usr_new hi
 rw [e1] at hnew
 have h1:1≤misC N out u:=by
  have:=mis_next (hr u e2) hmo
  rw [if_pos e3] at this
  omega
 have hnk:okN N out u=false:=by
  rw [←Bool.not_eq_true]
  intro h
  exact hmo ((ok_out h).2 _ e3)
 have ht:=fun x=>usr_take (N:=N) (m:=m) hi x
 rw [e1] at ht
 refine ⟨u,e1,e2,by unfold misI;rw [if_neg hnew];omega,h1,?_,fun j hj=>?_,fun R hR=>?_⟩
 ·unfold misI
  rw [if_pos ((ht u).2 (Or.inr rfl))]
  omega
 ·unfold misI
  have:((j:Int)∈(usrL N m N.length).take (i+1))↔(j:Int)∈(usrL N m N.length).take i:=by
   rw [ht]
   exact ⟨fun h=>h.resolve_right (by omega),Or.inl⟩
  simp only [this]
 ·have hnR:(u:Int)∉R:=fun h=>by
   obtain ⟨j,f1,f2,(⟨f3,-⟩ | ⟨f3,-⟩)⟩:=(hR.2 u).1 h
   ·have:j=u:=by omega
    subst this
    rw [hnk] at f3
    cases f3
   ·have:j=u:=by omega
    subst this
    exact hnew f3
  refine ⟨hnR,fun h=>?_,fun h=>⟨hR.1,fun x=>?_⟩⟩
  ·obtain ⟨i1,i2⟩:=ins_rise hR.1 hnR
   refine ⟨i1,fun x=>?_⟩
   rw [i2,hR.2]
   constructor
   ·rintro (rfl | ⟨j,f1,f2,f3⟩)
    ·exact ⟨u,rfl,e2,Or.inr ⟨(ht u).2 (Or.inr rfl),h⟩⟩
    ·refine ⟨j,f1,f2,?_⟩
     rcases f3 with f3 | ⟨f3,f4⟩
     ·exact Or.inl f3
     ·exact Or.inr ⟨(ht j).2 (Or.inl f3),f4⟩
   ·rintro ⟨j,f1,f2,(f3 | ⟨f3,f4⟩)⟩
    ·exact Or.inr ⟨j,f1,f2,Or.inl f3⟩
    ·rcases (ht j).1 f3 with f5 | f5
     ·exact Or.inr ⟨j,f1,f2,Or.inr ⟨f5,f4⟩⟩
     ·exact Or.inl (f1.trans f5)
  ·rw [hR.2]
   constructor
   ·rintro ⟨j,f1,f2,f3⟩
    refine ⟨j,f1,f2,?_⟩
    rcases f3 with f3 | ⟨f3,f4⟩
    ·exact Or.inl f3
    ·exact Or.inr ⟨(ht j).2 (Or.inl f3),f4⟩
   ·rintro ⟨j,f1,f2,(f3 | ⟨f3,f4⟩)⟩
    ·exact ⟨j,f1,f2,Or.inl f3⟩
    ·rcases (ht j).1 f3 with f5 | f5
     ·exact ⟨j,f1,f2,Or.inr ⟨f5,f4⟩⟩
     ·have:j=u:=by omega
      subst this
      exact absurd f4 h
theorem usr_end {N:List (List Int)} (hr:∀ j,j<N.length→(N.getD j []).Pairwise (· < ·)) {k m:Nat} (hm:okN N (ordTo N k) m=true):(∀ j,j<N.length→misI N (ordTo N k) m (usrL N m N.length).length j=misC N (ordTo N k ++ [(m:Int)]) j)∧∀ R,RdyI N (ordTo N k) m (usrL N m N.length).length R→RdyP N (ordTo N k ++ [(m:Int)]) R:=by
 have hmo:=(ok_out hm).1
 have hmn:=(ok_out hm).2
 refine ⟨fun j hj=>?_,fun R hR=>⟨hR.1,fun x=>?_⟩⟩
 ·unfold misI
  rw [List.take_length]
  have h1:=mis_next (hr j hj) hmo
  by_cases h:(m:Int)∈N.getD j []
  ·rw [if_pos (usr_mem.2 ⟨j,rfl,hj,h⟩)]
   rw [if_pos h] at h1
   omega
  ·have hnu:(j:Int)∉usrL N m N.length:=fun e=>by
    obtain ⟨i,e1,-,e3⟩:=usr_mem.1 e
    have e2:i=j:=by omega
    rw [e2] at e3
    exact h e3
   rw [if_neg hnu]
   rw [if_neg h] at h1
   omega
 ·rw [hR.2,List.take_length]
  constructor
  ·rintro ⟨j,f1,f2,f3⟩
   refine ⟨j,f1,f2,?_⟩
   rcases f3 with ⟨f3,f4⟩ | ⟨f3,f4⟩
   ·obtain ⟨g1,g2⟩:=ok_out f3
    refine ok_of ?_ fun y hy=>List.mem_append.2 (Or.inl (g2 y hy))
    rw [List.mem_append,List.mem_singleton]
    rintro (h | h)
    ·exact g1 h
    ·omega
   ·obtain ⟨i,e1,e2,e3⟩:=usr_mem.1 f3
    have:i=j:=by omega
    subst this
    have h1:=mis_next (hr i e2) hmo
    rw [if_pos e3,f4] at h1
    refine ok_of ?_ (mis_none.1 (by omega))
    rw [List.mem_append,List.mem_singleton]
    rintro (h | h)
    ·exact hmo (ord_closed N k i h _ e3)
    ·have:i=m:=by omega
     subst this
     exact hmo (hmn _ e3)
  ·rintro ⟨j,f1,f2,f3⟩
   obtain ⟨g1,g2⟩:=ok_out f3
   rw [List.mem_append,List.mem_singleton] at g1
   refine ⟨j,f1,f2,?_⟩
   by_cases h:(m:Int)∈N.getD j []
   ·refine Or.inr ⟨usr_mem.2 ⟨j,rfl,f2,h⟩,?_⟩
    have h1:=mis_next (hr j f2) hmo
    rw [if_pos h,mis_none.2 g2] at h1
    omega
   ·refine Or.inl ⟨ok_of (fun e=>g1 (Or.inl e)) fun y hy=>?_,fun e=>g1 (Or.inr (by omega))⟩
    rcases List.mem_append.1 (g2 y hy) with h2 | h2
    ·exact h2
    ·rw [List.mem_singleton] at h2
     rw [h2] at hy
     exact absurd hy h
end Go.Proofs.YtnlfpaopfloklaaGreatDoor
