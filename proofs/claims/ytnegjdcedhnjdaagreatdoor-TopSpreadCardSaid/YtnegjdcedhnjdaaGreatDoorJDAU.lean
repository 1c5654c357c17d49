/-
  What slices.IndexFunc and slices.DeleteFunc over ints answer where the question is told of the list's own numbers alone: the rest of a list in a row of one's own.
-/
import Derived.Test.YtnegjdcedhnjdaaGreatDoorJDAO
namespace Go.Proofs.YtnegjdcedhnjdaaGreatDoor
open Go Go.ChangeShapes Go.WideShapes Go.ChangeAt Go.RowKit
set_option maxRecDepth 20000
theorem grown_transR {w w1 w2:World} {r:Option Nat} (h:w.grownBy w1 r) (k:w1.grownBy w2 r):w.grownBy w2 r :=
 ⟨k.os.trans h.os,k.tape.trans h.tape,k.output.trans h.output,Nat.le_trans h.size k.size,fun i hi hr=>(k.block i (Nat.lt_of_lt_of_le hi h.size) hr).trans (h.block i hi hr)⟩
theorem grown_belowR {w w':World} {r:Option Nat} (h:Below w.heap.size w w'):w.grownBy w' r:=⟨h.os,h.tape,h.output,h.size,fun i hi _=>h.block i hi⟩
theorem grown_setRowR (w:World) (g:Nat) (cs:Array Value):w.grownBy (w.setRow g cs) (some g) :=
 ⟨rfl,rfl,rfl,by rw [setRow_size];exact Nat.le_refl _,fun i _ hr=>setRow_other w g i cs fun e=>hr (by rw [e])⟩
theorem setCells_rowR (g:Nat) (t:TypeId):∀ (vs:List Value) (o:Nat) (cur:Array Value) (w:World),w.heap[g]?=some (.cells cur t (0,0))→o+vs.length≤cur.size→w.setCells g o vs=w.setRow g (cur.toList.take o ++ vs ++ cur.toList.drop (o+vs.length)).toArray
 | [],o,cur,w,hg,_=>by
  simp only [World.setCells,List.append_nil,List.length_nil,Nat.add_zero,List.take_append_drop,Array.toArray_toList]
  rw [setRow_self w g cur t (0,0) hg]
 | v :: r,o,cur,w,hg,hl=>by
  simp only [List.length_cons] at hl
  rw [World.setCells,setCell_eq_setRow w g o cur t (0,0) v hg,setCells_rowR g t r (o+1) (cur.setIfInBounds o v) _ (setRow_heap w g cur _ t _ hg) (by simp;omega),setRow_setRow]
  have e:=list_seg_step cur.toList o v r (by simp;omega)
  congr 2
  simpa [Array.toList_setIfInBounds,Nat.add_assoc] using e
set_option maxHeartbeats 1000000 in
theorem indexm_any (F:Nat) (cap:Array Value) (p:Int→Bool) (hent:∀ (args:Array Value) (w:World),(callFunc F args).run Tryz.prog w=.ok (.enter F args) w) (A:Option Addr) (c:Nat) (L:List Int) (w:World) (hn:L.length≤3000) (hL:IntsAt w A c L)
  (hF:∀ (x:Int) (w':World),x∈L→Below w.heap.size w w'→Calls Tryz.prog F (#[.int .i64 x] ++ cap) w' fun e w''=>e=.returned (.bool (p x))∧Below w'.heap.size w' w'') :
  Calls Tryz.prog 69 #[.slice A L.length c,.func (.func F) #[] cap] w fun e w'=>e=.returned (.int .i64 (findFrom (fun j=>p (L.getD j 0)) L.length 0))∧Below w.heap.size w w' :=
 indexm_pl F cap p hent A c L w (by omega) (pl_ints hL) hF
def DInv (L:List Int) (p:Int→Bool) (i j:Nat) (cur:Array Value):Prop:=i<j∧((L.take j).filter fun x => !p x).length=i∧(∀ m,m<i→cur[m]?=some (.int .i64 (((L.take j).filter fun x => !p x).getD m 0)))∧∀ m,j≤m→m<L.length→cur[m]?=some (.int .i64 (L.getD m 0))
theorem take_one {L:List Int} {j:Nat} (h:j<L.length):L.take (j+1)=L.take j ++ [L.getD j 0]:=by
 rw [List.take_succ_eq_append_getElem h,List.getD_eq_getElem?_getD,List.getElem?_eq_getElem h]
 rfl
theorem dinv_start {L:List Int} {p:Int→Bool} {k:Nat} {cur:Array Value} (hk:k<L.length) (hp:p (L.getD k 0)=true) (hn:∀ j,j<k→p (L.getD j 0)=false) (hc:∀ m,m<L.length→cur[m]?=some (.int .i64 (L.getD m 0))):DInv L p k (k+1) cur:=by
 have hf:(L.take k).filter (fun x => !p x)=L.take k:=by
  rw [List.filter_eq_self]
  intro x hx
  obtain ⟨j,hj,rfl⟩:=List.getElem_of_mem hx
  have hj2:j<k:=by rw [List.length_take] at hj;omega
  have h:=hn j hj2
  rw [List.getD_eq_getElem?_getD,List.getElem?_eq_getElem (by omega)] at h
  simpa using h
 have e:(L.take (k+1)).filter (fun x => !p x)=L.take k:=by
  rw [take_one hk,List.filter_append,hf]
  generalize L.getD k 0=x at hp ⊢
  simp [hp]
 refine ⟨by omega,by rw [e,List.length_take];omega,fun m hm=>?_,fun m h1 h2=>hc m h2⟩
 rw [e,hc m (by omega),List.getD_eq_getElem?_getD,List.getD_eq_getElem?_getD,List.getElem?_take_of_lt hm]
theorem dinv_skip {L:List Int} {p:Int→Bool} {i j:Nat} {cur:Array Value} (h:DInv L p i j cur) (hj:j<L.length) (hp:p (L.getD j 0)=true):DInv L p i (j+1) cur:=by
 have e:(L.take (j+1)).filter (fun x => !p x)=(L.take j).filter (fun x => !p x):=by
  rw [take_one hj,List.filter_append]
  generalize L.getD j 0=x at hp ⊢
  simp [hp]
 obtain ⟨h1,h2,h3,h4⟩:=h
 refine ⟨by omega,by rw [e];exact h2,fun m hm=>by rw [e];exact h3 m hm,fun m a b=>h4 m (by omega) b⟩
theorem dinv_keep {L:List Int} {p:Int→Bool} {i j:Nat} {cur:Array Value} (h:DInv L p i j cur) (hj:j<L.length) (hs:L.length≤cur.size) (hp:p (L.getD j 0)=false):DInv L p (i+1) (j+1) (cur.setIfInBounds i (.int .i64 (L.getD j 0))):=by
 have e:(L.take (j+1)).filter (fun x => !p x)=(L.take j).filter (fun x => !p x) ++ [L.getD j 0]:=by
  rw [take_one hj,List.filter_append]
  generalize L.getD j 0=x at hp ⊢
  simp [hp]
 obtain ⟨h1,h2,h3,h4⟩:=h
 generalize L.getD j 0=x at e ⊢
 refine ⟨by omega,by rw [e,List.length_append,h2];rfl,fun m hm=>?_,fun m a b=>?_⟩
 ·rw [e,Array.getElem?_setIfInBounds]
  by_cases he:i=m
  ·rw [if_pos he,if_pos (by omega),List.getD_eq_getElem?_getD,List.getElem?_append_right (by omega),h2,he]
   simp
  ·rw [if_neg he,h3 m (by omega),List.getD_eq_getElem?_getD,List.getD_eq_getElem?_getD,List.getElem?_append_left (by omega)]
 ·rw [Array.getElem?_setIfInBounds,if_neg (by omega)]
  exact h4 m (by omega) b
theorem grown_setRu {w wr:World} {g k:Nat} {v:Value} (h:w.grownBy wr (some g)):w.grownBy (wr.setCell ⟨g,k,none⟩ v) (some g):=by
 refine ⟨h.os,h.tape,h.output,by simpa [World.setCell] using h.size,fun i hi hr=>?_⟩
 rw [←h.block i hi hr]
 simp only [World.setCell,Array.getElem?_modify]
 rw [if_neg fun e=>hr (by rw [e])]
set_option maxHeartbeats 4000000 in
theorem delf_any (F:Nat) (cp:Array Value) (p:Int→Bool) (hent:∀ (args:Array Value) (w:World),(callFunc F args).run Tryz.prog w=.ok (.enter F args) w) (base:Nat) (v:Value) (L:List Int) (w:World) (hn:L.length≤3000) (hown:w.ownsRow base 3 1 v L.length (mapI L))
  (hF:∀ (x:Int) (w':World),x∈L→w.grownBy w' v.ownBlock→Calls Tryz.prog F (#[.int .i64 x] ++ cp) w' fun e w''=>e=.returned (.bool (p x))∧Below w'.heap.size w' w'') :
  Calls Tryz.prog 130 #[v,.func (.func F) #[] cp] w fun e w'=>(∃ A' c',e=.returned (.slice A' (L.filter fun x => !p x).length c')∧IntT w' A' c' (L.filter fun x => !p x))∧w.grownBy w' v.ownBlock:=by
 obtain ⟨A,c,rfl,hI⟩:=intT_own hown
 have hix:=indexm_any F cp p hent A c L w (by omega) hI.at fun x w' hx hB=>hF x w' hx (grown_belowR hB)
 rcases findFrom_cases (fun j=>p (L.getD j 0)) L.length 0 with ⟨h1,h2⟩ | ⟨k,h1,_,h3,h4,h5⟩
 ·have hf:(L.filter fun x => !p x)=L:=by
   rw [List.filter_eq_self]
   intro x hx
   obtain ⟨j,hj,rfl⟩:=List.getElem_of_mem hx
   have h:=h2 j (Nat.zero_le _) (by omega)
   simp only [List.getD_eq_getElem?_getD,List.getElem?_eq_getElem hj] at h
   simpa using h
  have HF:Hid ((L.filter fun x => !p x)=L):=hf
  have HI:Hid (IntT w A c L):=hI
  rw [h1] at hix
  rw [hf]
  generalize L.length=n at hix
  clear hF hown hI h1 h2 hf hent
  go_enter Tryz.func130,Tryz.ntmps130
  go_wp2_with fail
  refine hix.mono ?_
  rintro e w1 ⟨rfl,hb1⟩
  go_wp2_with fail
  go_ret
  exact ⟨⟨A,c,rfl,HI.out.later hb1⟩,grown_belowR hb1⟩
 ·have hk:k<L.length:=by omega
  obtain ⟨hLc,hc63,hI0 | ⟨g,cs0,fr0,rfl,hg0,-⟩⟩:=hI
  ·rw [hI0] at hk;simp at hk
  obtain ⟨cur,hg,hcs,hcur⟩:∃ cur:Array Value,w.heap[g]?=some (.cells cur 3 (0,0))∧cur.size=c∧∀ m,m<L.length→cur[m]?=some (.int .i64 (L.getD m 0)):=by
   rcases hown.2 with ⟨e,_⟩ | ⟨g',cap,cur,e,hb,hg,hc,hm,hs,ht⟩
   ·cases e
   ·cases e
    refine ⟨cur,hg,by omega,fun m hm=>?_⟩
    have h:(mapI L)[m]?=some (.int .i64 (L.getD m 0)):=by simp [mapI,List.getD,List.getElem?_eq_getElem hm]
    rw [←ht,Nat.mul_one,List.getElem?_take_of_lt hm] at h
    rw [←h]
    simp
  have HSt:Hid (DInv L p k (k+1) cur):=dinv_start hk h4 (fun j hj=>h5 j (Nat.zero_le _) hj) hcur
  have HF:Hid (∀ (x:Int) (w':World),x∈L→w.grownBy w' (some g)→Calls Tryz.prog F (#[.int .i64 x] ++ cp) w' fun e w''=>e=.returned (.bool (p x))∧Below w'.heap.size w' w''):=hF
  have HCs:Hid (cur.size=c):=hcs
  rw [h1] at hix
  obtain ⟨n,hnn⟩:∃ n,L.length=n:=⟨_,rfl⟩
  have HN:Hid (L.length=n):=hnn
  have HG0:Hid (w.heap[g]?=some (.cells cur 3 (0,0))):=hg
  rw [hnn] at hix hk hn hLc ⊢
  have hki:(k:Int)<(n:Int):=by omega
  have hnI:(n:Int)≤3000:=by omega
  have hne:((k:Int) == -1)=false:=by
   have:(k:Int)≠-1:=by omega
   simp only [beq_eq_false_iff_ne];exact this
  show Calls Tryz.prog 130 #[.slice (some ⟨g,0,none⟩) n c,.func (.func F) #[] cp] w fun e w'=>(∃ A' c',e=.returned (.slice A' (L.filter fun x => !p x).length c')∧IntT w' A' c' (L.filter fun x => !p x))∧w.grownBy w' (some g)
  clear hF hown hg0 hcur hcs h1 h3 h4 h5 hg hnn
  go_enter Tryz.func130,Tryz.ntmps130
  go_wp2_with fail
  refine hix.mono ?_
  rintro e w1 ⟨rfl,hb1⟩
  have HG1:Hid (w1.heap[g]?=some (.cells cur 3 (0,0))∧w.grownBy w1 (some g)):=⟨(hb1.block g (Array.getElem?_eq_some_iff.1 HG0.out).1).trans HG0.out,grown_belowR hb1⟩
  clear hb1 hix
  go_wp2_with fail
  go_loopg [5,6] (n-(k+1)) (fun gg s5 s6 wr => ∃ (i j:Nat) (cu:Array Value),j≤n∧gg=n-j∧s5=.int .i64 i∧s6=.int .i64 j∧Hid (DInv L p i j cu∧cu.size=c)∧wr.heap[g]?=some (.cells cu 3 (0,0))∧w.grownBy wr (some g))
  case atStart=>exact ⟨k,k+1,cur,by omega,rfl,rfl,by go_num,(⟨HSt.out,HCs.out⟩:_∧_),HG1.out.1,HG1.out.2⟩
  case round =>
   obtain ⟨i,j,cu,hj,rfl,rfl,rfl,HD,hg,hG⟩:=hrel
   have HG:Hid (wr.heap[g]?=some (.cells cu 3 (0,0))):=hg
   have HGr:Hid (w.grownBy wr (some g)):=hG
   have hij:=HD.out.1.1
   have hgl:g<wr.heap.size:=(Array.getElem?_eq_some_iff.1 hg).1
   have hcc:=HD.out.2
   by_cases hlt:j<n
   ·have hji:(j:Int)<(n:Int):=by omega
    have hii:(i:Int)<(n:Int):=by omega
    have cj:wr.cell? ⟨g,j,none⟩=some (.int .i64 (L.getD j 0)):=by
     rw [Lib.cell_of_heap hg]
     exact HD.out.1.2.2.2 j (Nat.le_refl _) (by rw [HN.out];exact hlt)
    have hcl:=HF.out (L.getD j 0) wr (by rw [List.getD_eq_getElem?_getD,List.getElem?_eq_getElem (by rw [HN.out];exact hlt)];exact List.getElem_mem _) hG
    cases hp:p (L.getD j 0)
    ·rw [hp] at hcl
     have HD2:Hid (DInv L p (i+1) (j+1) (cu.setIfInBounds i (.int .i64 (L.getD j 0)))∧(cu.setIfInBounds i (.int .i64 (L.getD j 0))).size=c):=⟨dinv_keep HD.out.1 (by rw [HN.out];exact hlt) (by rw [HN.out,hcc];exact hLc) hp,by simpa using hcc⟩
     generalize L.getD j 0=x at cj hcl HD2
     clear hg hG hp
     go_wp2_with fail
     refine hcl.mono ?_
     rintro e w2 ⟨rfl,hb2⟩
     have hg2:=(hb2.block g hgl).trans HG.out
     have ci:(w2.cell? ⟨g,i,none⟩).isSome=true:=by
      rw [Lib.cell_of_heap hg2,Array.getElem?_eq_getElem (by omega)]
      rfl
     obtain ⟨old,hold⟩:∃ old,w2.cell? ⟨g,i,none⟩=some old:=Option.isSome_iff_exists.1 ci
     have hfr:w2.frozen? ⟨g,i,none⟩=false:=Lib.frozen_of_heap hg2 i
     have HG2:Hid ((w2.setCell ⟨g,i,none⟩ (.int .i64 x)).heap[g]?=some (.cells (cu.setIfInBounds i (.int .i64 x)) 3 (0,0))):=by
      show _=_
      simp [World.setCell,Array.getElem?_modify,hg2]
     have HGr2:Hid (w.grownBy (w2.setCell ⟨g,i,none⟩ (.int .i64 x)) (some g)):=grown_setRu (grown_transR HGr.out (grown_belowR hb2))
     clear hb2 hg2 hcl ci
     go_wp2_with fail
     go_roundg (n-(j+1))
     case measure=>omega
     case rel=>exact ⟨i+1,j+1,_,by omega,rfl,by go_num,by go_num,HD2,HG2.out,HGr2.out⟩
    ·rw [hp] at hcl
     have HD2:Hid (DInv L p i (j+1) cu∧cu.size=c):=⟨dinv_skip HD.out.1 (by rw [HN.out];exact hlt) hp,hcc⟩
     generalize L.getD j 0=x at cj hcl
     clear hg hG hp
     go_wp2_with fail
     refine hcl.mono ?_
     rintro e w2 ⟨rfl,hb2⟩
     have HG2:Hid (w2.heap[g]?=some (.cells cu 3 (0,0))):=(hb2.block g hgl).trans HG.out
     have HGr2:Hid (w.grownBy w2 (some g)):=grown_transR HGr.out (grown_belowR hb2)
     clear hb2 hcl
     go_wp2_with fail
     go_roundg (n-(j+1))
     case measure=>omega
     case rel=>exact ⟨i,j+1,_,by omega,rfl,rfl,by go_num,HD2,HG2.out,HGr2.out⟩
   ·have hje:j=n:=by omega
    subst hje
    have hii:(i:Int)<(j:Int):=by omega
    have hcl:∀ ty,(Builtin.clear_ #[26] ty #[.slice (some ⟨g,0+i,none⟩) (j-i) (c-i)]).run Tryz.prog wr=.ok (.tuple #[]) (wr.setCells g (0+i) (List.replicate (j-i) (.int .i64 0))) :=
     fun ty=>Lib.run_clear_slice wr _ _ ty _ Tryz.underlying26 Tryz.zeroValue3 rfl rfl g (0+i) _ _ (by omega) (fun t ht=>by rw [Lib.cell_of_heap hg,Array.getElem?_eq_getElem (by omega)];rfl) (fun t _=>Lib.frozen_of_heap hg _)
    have HDn:Hid (DInv L p i j cu∧cu.size=c):=HD
    have hseg:=setCells_rowR g 3 (List.replicate (j-i) (.int .i64 0)) (0+i) cu wr hg (by simp;omega)
    obtain ⟨W,hW⟩:∃ W,wr.setCells g (0+i) (List.replicate (j-i) (Value.int .i64 0))=W:=⟨_,rfl⟩
    have HGW:Hid (w.grownBy W (some g)):=by rw [←hW,hseg];exact grown_transR hG (grown_setRowR wr g _)
    have HTW:Hid (IntT W (some ⟨g,0,none⟩) c (L.filter fun x => !p x)):=by
     have hf:(L.filter fun x => !p x)=(L.take j).filter fun x => !p x:=by rw [List.take_of_length_le (by rw [HN.out];exact Nat.le_refl _)]
     have hWg:W.heap[g]?=some (.cells (cu.toList.take (0+i) ++ List.replicate (j-i) (Value.int .i64 0) ++ cu.toList.drop (0+i+(List.replicate (j-i) (Value.int .i64 0)).length)).toArray 3 (0,0)):=by rw [←hW,hseg];exact setRow_heap wr g cu _ _ _ hg
     refine ⟨by rw [hf,HD.out.1.2.1];omega,hc63,Or.inr ⟨g,_,_,rfl,hWg,fun m hm=>?_⟩⟩
     rw [hf] at hm ⊢
     rw [HD.out.1.2.1] at hm
     rw [Lib.cell_of_heap hWg,←HD.out.1.2.2.1 m hm]
     simp only [List.getElem?_toArray]
     rw [List.append_assoc,List.getElem?_append_left (by simp;omega),List.getElem?_take_of_lt (by omega)]
     simp
    have HFl:Hid ((L.filter fun x => !p x).length=i):=by
     show _=_
     rw [←HD.out.1.2.1,List.take_of_length_le (by rw [HN.out];exact Nat.le_refl _)]
    rw [hW,Nat.zero_add] at hcl
    have hcI:(j:Int)≤(c:Int):=by omega
    clear hg hG hseg hW
    go_wp2
    go_ret
    exact ⟨⟨some ⟨g,0,none⟩,c,by rw [HFl.out];rfl,HTW.out⟩,HGW.out⟩
end Go.Proofs.YtnegjdcedhnjdaaGreatDoor
namespace Go.Proofs.YtnegjdcedhnjdaaGreatDoor
open Go.ChangeShapes Go.WideShapes Go.ChangeAt Go.RowKit Go.Lib
set_option maxRecDepth 20000
def ownEd (w:World) (A:Option Addr) (m c:Nat) (N:Int) (cl:Bool):World:=w.alloc (.cells #[.slice A m c,.int .i64 N,.bool cl] 65)
theorem ownEd_below (w:World) (A:Option Addr) (m c:Nat) (N:Int) (cl:Bool):Below w.heap.size w (ownEd w A m c N cl):=by unfold ownEd;go_grown
def ownOX (w:World) (A0:Option Addr) (n cap:Nat) (A:Option Addr) (m c:Nat) (N:Int) (cl:Bool):World:=ownEd (ownOut w A0 n cap 24) A m c N cl
theorem ownOX_below (w:World) (A0:Option Addr) (n cap:Nat) (A:Option Addr) (m c:Nat) (N:Int) (cl:Bool):Below w.heap.size w (ownOX w A0 n cap A m c N cl):=onB (ownOut_below ..) (ownEd_below ..)
set_option maxHeartbeats 4000000 in
theorem iedit_any {M:Nat} (A0:Option Addr) (cap n:Nat) (D:Nat→Dm) (A:Nat→Option Addr) (C:Nat→Nat) (g cg:Nat) (xs:List EnL) (Ax:Option Addr) (cx:Nat) (x:Ed) (w:World) (hM:DimsV w A0 cap n D A C) (hP:PlAt w Ax cx x.pl) (hR:RowE w g cg xs) (hEs:Ens D n (lE xs)) (hMx:NewE M xs) (hMw:M≤w.heap.size) :
  Calls Tryz.prog 18 #[.agg #[.slice A0 n cap],.slice (some ⟨g,0,none⟩) xs.length cg,.agg #[.slice Ax x.pl.length cx,.int .i64 x.n,.bool x.clear]] w fun e w'=>Edited M w g (editErr D n (lE xs) x) (editV (lE xs) x) e w':=by
 obtain ⟨p,N,cl⟩:=x
 have hB0:=ownOX_below w A0 n cap Ax p.length cx N cl
 have HB0:Hid (Below w.heap.size w (ownOX w A0 n cap Ax p.length cx N cl)):=hB0
 cases cl
 ·have h:=iset1_any A0 cap n D A C g cg xs Ax cx p N (ownOX w A0 n cap Ax p.length cx N false) (hM.later hB0) (hP.later hB0) (hR.later hB0) hEs hMx (Nat.le_trans hMw hB0.size)
  have hv:editV (lE xs) ⟨p,N,false⟩=setL (lE xs) p N:=rfl
  rw [hv]
  generalize editErr D n (lE xs) ⟨p,N,false⟩=E at h
  generalize setL (lE xs) p N=l at h
  simp only
  generalize p.length=m at h HB0
  generalize xs.length=nx at h
  clear hM hP hR hEs hB0 hv
  go_enter Tryz.func18,Tryz.ntmps18
  go_wp2_with fail
  refine h.mono ?_
  rintro e w1 ⟨⟨B,c,ys,rfl,hc⟩,hg⟩
  have HC:Hid ((E≠0∧B=none∧c=0∧ys=[])∨(E=0∧∃ g',B=some ⟨g',0,none⟩∧g≤g'∧RowE w1 g' c ys∧lE ys=l∧NewE M ys)):=hc
  have HG:Hid (w.grownBy w1 (some g)):=grown_trans (grown_below HB0.out) hg
  clear hc hg
  go_wp2_with fail
  go_ret2
  exact ⟨⟨B,c,ys,rfl,HC.out⟩,HG.out⟩
 ·have h:=without_any A0 cap n D A C g cg xs Ax cx p N (ownOX w A0 n cap Ax p.length cx N true) (hM.later hB0) (hP.later hB0) (hR.later hB0) hEs hMx
  have hv:editV (lE xs) ⟨p,N,true⟩=clrL (lE xs) p:=rfl
  rw [hv]
  generalize editErr D n (lE xs) ⟨p,N,true⟩=E at h
  generalize clrL (lE xs) p=l at h
  simp only
  generalize p.length=m at h HB0
  generalize xs.length=nx at h
  clear hM hP hR hEs hB0 hv
  go_enter Tryz.func18,Tryz.ntmps18
  go_wp2_with fail
  refine h.mono ?_
  rintro e w1 ⟨⟨B,c,ys,rfl,hc⟩,hg⟩
  have HC:Hid ((E≠0∧B=none∧c=0∧ys=[])∨(E=0∧∃ g',B=some ⟨g',0,none⟩∧g≤g'∧RowE w1 g' c ys∧lE ys=l∧NewE M ys)):=hc
  have HG:Hid (w.grownBy w1 (some g)):=grown_trans (grown_below HB0.out) hg
  clear hc hg
  go_wp2_with fail
  go_ret2
  exact ⟨⟨B,c,ys,rfl,HC.out⟩,HG.out⟩
theorem drop_ed (ys:List EdL) {k:Nat} (h:k<ys.length):(lD ys).drop k=(ys.getD k noD).x :: (lD ys).drop (k+1):=by
 have h1:k<(lD ys).length:=by rw [lD_len];exact h
 rw [List.drop_eq_getElem_cons h1]
 congr 1
 simp [lD,List.getD,h]
theorem edits_on {D:Nat→Dm} {n:Nat} {l:List En} {ys:List EdL} {k:Nat} (h:k<ys.length) (he:editErr D n l (ys.getD k noD).x=0):editsFrom D n l k ((lD ys).drop k)=editsFrom D n (editV l (ys.getD k noD).x) (k+1) ((lD ys).drop (k+1)):=by rw [drop_ed ys h,editsFrom_ok _ he]
theorem edits_bad {D:Nat→Dm} {n:Nat} {l:List En} {ys:List EdL} {k:Nat} (h:k<ys.length) (he:editErr D n l (ys.getD k noD).x≠0):editsFrom D n l k ((lD ys).drop k)=([],(k:Int),editErr D n l (ys.getD k noD).x):=by rw [drop_ed ys h,editsFrom_bad _ he]
theorem edits_end {D:Nat→Dm} {n:Nat} {l:List En} {ys:List EdL} {k:Nat} (h:ys.length≤k):editsFrom D n l k ((lD ys).drop k)=(l,0,0):=by rw [List.drop_eq_nil_of_le (by rw [lD_len];exact h)];rfl
theorem editsV_full {D:Nat→Dm} {n:Nat} (l:List En) {ys:List EdL} (h:60<ys.length):editsV D n l (lD ys)=([],0,4):=by unfold editsV;rw [if_pos (by rw [lD_len];exact h)]
theorem editsV_bad {D:Nat→Dm} {n:Nat} {l:List En} {ys:List EdL} (h : ¬ 60<ys.length) (he:entsErr D n l≠0):editsV D n l (lD ys)=([],0,entsErr D n l):=by unfold editsV;rw [if_neg (by rw [lD_len];exact h),if_pos he]
theorem editsV_in {D:Nat→Dm} {n:Nat} {l:List En} {ys:List EdL} (h : ¬ 60<ys.length) (he:entsErr D n l=0):editsV D n l (lD ys)=editsFrom D n l 0 ((lD ys).drop 0):=by unfold editsV;rw [if_neg (by rw [lD_len];exact h),if_neg (by simpa using he)];rfl
def Answer3 (w:World) (v:List En×Int×Int) (e:Ending) (w':World):Prop:=(∃ B c zs,e=.returned (.tuple #[.slice B zs.length c,.int .i64 v.2.1,errV v.2.2])∧EnsV w' B c zs∧lE zs=v.1)∧Below w.heap.size w w'
def Answer3n (w:World) (v:List En×Int×Int) (e:Ending) (w':World):Prop:=(∃ B c zs,e=.returned (.tuple #[.slice B zs.length c,.int .i64 v.2.1,errV v.2.2])∧EnsV w' B c zs∧lE zs=v.1∧NewA w.heap.size B∧NewE w.heap.size zs)∧Below w.heap.size w w'
set_option maxHeartbeats 8000000 in
theorem iall_new (A0:Option Addr) (cap n:Nat) (D:Nat→Dm) (A:Nat→Option Addr) (C:Nat→Nat) (AE:Option Addr) (ce:Nat) (xs:List EnL) (AX:Option Addr) (cx:Nat) (ys:List EdL) (w:World) (hM:DimsV w A0 cap n D A C) (hE:EnsV w AE ce xs) (hX:EdsV w AX cx ys) :
  Calls Tryz.prog 6 #[.agg #[.slice A0 n cap],.slice AE xs.length ce,.slice AX ys.length cx] w fun e w'=>Answer3n w (editsV D n (lE xs) (lD ys)) e w':=by
 have hB0:=ownOut_below w A0 n cap 24
 have HB0:Hid (Below w.heap.size w (ownOut w A0 n cap 24)):=hB0
 unfold Answer3n
 by_cases h60:60<ys.length
 ·have HV:Hid (editsV D n (lE xs) (lD ys)=([],0,4)):=editsV_full _ h60
  have h60':60<(ys.length:Int):=by omega
  generalize editsV D n (lE xs) (lD ys)=V at HV
  generalize xs.length=nx
  generalize ys.length=ny at h60 h60'
  clear hM hE hX hB0
  go_enter Tryz.func6,Tryz.ntmps6
  go_wp2_with fail
  go_ret3
  rw [HV.out]
  exact ⟨⟨none,0,[],rfl,EnsV.nil _ _ _ (by decide),rfl,NewA.none _,fun _ h=>(by cases h)⟩,HB0.out⟩
 have h:=icheck_any A0 cap n D A C AE ce xs (ownOut w A0 n cap 24) (hM.later hB0) (hE.later hB0)
 have h60':(ys.length:Int)≤60:=by omega
 by_cases he:entsErr D n (lE xs)=0
 ·have hEs:=ens_of he
  have HV:Hid (editsV D n (lE xs) (lD ys)=editsFrom D n (lE xs) 0 ((lD ys).drop 0)):=editsV_in h60 he
  have HFr:Hid (∀ w',Below w.heap.size w w'→Calls Tryz.prog 17 #[.slice AE xs.length ce] w' fun e w'' => ∃ g zs,e=.returned (.slice (some ⟨g,0,none⟩) xs.length xs.length)∧w'.heap.size≤g∧RowE w'' g xs.length zs∧zs.length=xs.length∧lE zs=lE xs∧NewE w'.heap.size zs∧Below w'.heap.size w' w''):=fun w' hw'=>by
   refine (fresh_new AE ce xs w' (few_of hEs) (fresh_of hEs) (hE.later hw')).mono ?_
   rintro e w'' ⟨⟨zs,rfl,hRow,hle,hnw⟩,hb⟩
   exact ⟨w'.heap.size,zs,rfl,Nat.le_refl _,hRow,len_eq hle,hle,hnw,hb⟩
  have HM:Hid (DimsV w A0 cap n D A C):=hM
  have HX:Hid (EdsV w AX cx ys):=hX
  have HEs:Hid (Ens D n (lE xs)):=hEs
  rw [he,errV_zero] at h
  generalize editsV D n (lE xs) (lD ys)=V at HV
  obtain ⟨ny,hny⟩:∃ ny,ys.length=ny:=⟨_,rfl⟩
  obtain ⟨nx,hnx⟩:∃ nx,xs.length=nx:=⟨_,rfl⟩
  have HNY:Hid (ys.length=ny):=hny
  rw [hny] at h60' ⊢
  rw [hnx] at h HFr ⊢
  clear he hEs hM hE hX hB0 h60 hny hnx
  go_enter Tryz.func6,Tryz.ntmps6
  go_wp2_with fail
  refine h.mono ?_
  rintro e w1 ⟨rfl,hb1⟩
  have hB1:Below w.heap.size w w1:=onB HB0.out hb1
  have HB1:Hid (Below w.heap.size w w1):=hB1
  have c1:w1.cell? ⟨w.heap.size,0,none⟩=some (.slice A0 n cap):=(hb1.cell (p:=⟨w.heap.size,0,none⟩) (by show w.heap.size<_;rw [ownOut_size];omega)).trans (ownOut_at ..)
  have hz1:w.heap.size<w1.heap.size:=by have:=hb1.size;rw [ownOut_size] at this;omega
  have h2:=HFr.out w1 hB1
  have HM1:Hid (DimsV w1 A0 cap n D A C):=HM.out.later hB1
  have HX1:Hid (EdsV w1 AX cx ys):=HX.out.later hB1
  clear hb1 h hB1 HM HX HB0 HFr
  go_wp2_with fail
  refine h2.mono ?_
  rintro e w2 ⟨g0,zs0,rfl,hgg,hRow,hzl,hle,hnw,hb2⟩
  have HR0:Hid (RowE w2 g0 nx zs0∧w1.heap.size≤g0∧zs0.length=nx∧lE zs0=lE xs∧NewE w1.heap.size zs0∧Below w1.heap.size w1 w2):=⟨hRow,hgg,hzl,hle,hnw,hb2⟩
  clear hgg hRow hzl hle hnw hb2 h2
  go_wp2_with fail
  go_loopg [10,29] ny (fun gm s10 s29 wr => ∃ (k g cg:Nat) (zs:List EnL),k≤ny∧gm=ny-k∧s29=.int .i64 k∧s10=.slice (some ⟨g,0,none⟩) zs.length cg∧Hid (w1.heap.size≤g∧RowE wr g cg zs∧Ens D n (lE zs)∧NewE w1.heap.size zs)∧Hid (editsFrom D n (lE zs) k ((lD ys).drop k)=editsFrom D n (lE xs) 0 ((lD ys).drop 0))∧Below w1.heap.size w1 wr)
  case atStart =>
   obtain ⟨r1,r2,r3,r4,r6,r5⟩:=HR0.out
   exact ⟨0,g0,nx,zs0,Nat.zero_le _,rfl,rfl,by rw [r3],⟨r2,r1,by rw [r4];exact HEs.out,r6⟩,(by rw [r4]:editsFrom D n (lE zs0) 0 ((lD ys).drop 0)=_),r5⟩
  case round =>
   obtain ⟨k,g,cg,zs,hk,rfl,rfl,rfl,HRw,HF,hBw⟩:=hrel
   have HBw:Hid (Below w1.heap.size w1 wr):=hBw
   by_cases hlt:k<ny
   ·have hkx:k<ys.length:=by rw [HNY.out];exact hlt
    have hki:(k:Int)<(ny:Int):=by omega
    obtain ⟨-,-,h0 | ⟨b,o,rfl,hXs⟩⟩:=HX1.out.later hBw
    ·have:=HNY.out;rw [h0] at this;simp at this;omega
    obtain ⟨d0,d1,d2,hpl⟩:=hXs.2 k hkx
    have c0:wr.cell? ⟨w.heap.size,0,none⟩=some (.slice A0 n cap):=(hBw.cell (p:=⟨w.heap.size,0,none⟩) hz1).trans c1
    have hzr:w.heap.size<wr.heap.size:=Nat.lt_of_lt_of_le hz1 hBw.size
    have hbo:=ownEd_below wr (ys.getD k noD).A (ys.getD k noD).x.pl.length (ys.getD k noD).c (ys.getD k noD).x.n (ys.getD k noD).x.clear
    have HBo:Hid (Below wr.heap.size wr (ownEd wr (ys.getD k noD).A (ys.getD k noD).x.pl.length (ys.getD k noD).c (ys.getD k noD).x.n (ys.getD k noD).x.clear)):=hbo
    have he:=iedit_any A0 cap n D A C g cg zs (ys.getD k noD).A (ys.getD k noD).c (ys.getD k noD).x (ownEd wr (ys.getD k noD).A (ys.getD k noD).x.pl.length (ys.getD k noD).c (ys.getD k noD).x.n (ys.getD k noD).x.clear) ((HM1.out.later hBw).later hbo) (hpl.later hbo) (HRw.out.2.1.later hbo) HRw.out.2.2.1 HRw.out.2.2.2 (Nat.le_trans hBw.size hbo.size)
    by_cases hee:editErr D n (lE zs) (ys.getD k noD).x=0
    ·have HST:Hid (editsFrom D n (lE zs) k ((lD ys).drop k)=editsFrom D n (editV (lE zs) (ys.getD k noD).x) (k+1) ((lD ys).drop (k+1))):=edits_on hkx hee
     have HEn:Hid (Ens D n (editV (lE zs) (ys.getD k noD).x)):=(HRw.out.2.2.1.edit hee).2
     rw [hee] at he
     generalize editV (lE zs) (ys.getD k noD).x=l2 at he HST HEn
     generalize (ys.getD k noD).A=A1 at d0 he HBo
     generalize (ys.getD k noD).c=k1 at d0 he HBo
     generalize (ys.getD k noD).x.n=n1 at d1 he HBo
     generalize (ys.getD k noD).x.clear=q1 at d2 he HBo
     generalize (ys.getD k noD).x.pl.length=m1 at d0 he HBo
     obtain ⟨nz,hnz⟩:∃ nz,zs.length=nz:=⟨_,rfl⟩
     rw [hnz] at he ⊢
     clear hXs hpl hbo hBw hee hnz
     go_wp2_with fail
     refine he.mono ?_
     rintro e w3 ⟨⟨B,c,zs2,rfl,hc⟩,hg⟩
     obtain ⟨g2,rfl,hg2,hRow2,hl2,hnw2⟩:∃ g',B=some ⟨g',0,none⟩∧g≤g'∧RowE w3 g' c zs2∧lE zs2=l2∧NewE w1.heap.size zs2:=by
      rcases hc with ⟨h1,_⟩ | ⟨_,h1⟩
      ·exact absurd rfl h1
      ·exact h1
     have HN2:Hid (w1.heap.size≤g2∧RowE w3 g2 c zs2∧Ens D n (lE zs2)∧NewE w1.heap.size zs2):=⟨Nat.le_trans HRw.out.1 hg2,hRow2,by rw [hl2];exact HEn.out,hnw2⟩
     have HF2:Hid (editsFrom D n (lE zs2) (k+1) ((lD ys).drop (k+1))=editsFrom D n (lE xs) 0 ((lD ys).drop 0)):=by show _=_;rw [hl2,←HST.out];exact HF.out
     have HB3:Hid (Below w1.heap.size w1 w3):=below_grown (onB HBw.out HBo.out) hg (onB HBw.out HBo.out).size HRw.out.1
     rw [errV_zero]
     clear hc hg hRow2 hl2 hg2 hnw2 he HST HEn
     go_wp2_with fail
     go_roundg (ny-(k+1))
     case measure=>omega
     case rel=>exact ⟨k+1,g2,c,zs2,by omega,rfl,by go_num,rfl,HN2,HF2,HB3.out⟩
    ·have HFin:Hid (V=([],(k:Int),editErr D n (lE zs) (ys.getD k noD).x)):=by show _=_;rw [HV.out,←HF.out,edits_bad hkx hee]
     have HEr:Hid (errV (editErr D n (lE zs) (ys.getD k noD).x)=.iface 66 (.int .i64 (editErr D n (lE zs) (ys.getD k noD).x))):=errV_some hee
     have HNe:Hid (editErr D n (lE zs) (ys.getD k noD).x≠0):=hee
     generalize editErr D n (lE zs) (ys.getD k noD).x=E at he HFin HEr HNe
     generalize editV (lE zs) (ys.getD k noD).x=l2 at he
     generalize (ys.getD k noD).A=A1 at d0 he HBo
     generalize (ys.getD k noD).c=k1 at d0 he HBo
     generalize (ys.getD k noD).x.n=n1 at d1 he HBo
     generalize (ys.getD k noD).x.clear=q1 at d2 he HBo
     generalize (ys.getD k noD).x.pl.length=m1 at d0 he HBo
     obtain ⟨nz,hnz⟩:∃ nz,zs.length=nz:=⟨_,rfl⟩
     rw [hnz] at he ⊢
     clear hXs hpl hbo hBw hee hnz
     go_wp2_with fail
     refine he.mono ?_
     rintro e w3 ⟨⟨B,c,zs2,rfl,hc⟩,hg⟩
     have HB3:Hid (Below w1.heap.size w1 w3):=below_grown (onB HBw.out HBo.out) hg (onB HBw.out HBo.out).size HRw.out.1
     rw [HEr.out]
     clear hc hg he
     go_wp2_with fail
     go_ret3
     rw [HFin.out]
     exact ⟨⟨none,0,[],by rw [HEr.out];rfl,EnsV.nil _ _ _ (by decide),rfl,NewA.none _,fun _ h=>(by cases h)⟩,onB HB1.out HB3.out⟩
   ·have hke:k=ny:=by omega
    subst hke
    have HFin:Hid (V=(lE zs,0,0)):=by show _=_;rw [HV.out,←HF.out,edits_end (by rw [HNY.out];exact Nat.le_refl _)]
    clear hBw
    go_wp2_with fail
    go_ret3
    rw [HFin.out]
    exact ⟨⟨_,_,zs,rfl,HRw.out.2.1.ensV,rfl,fun b o e=>by cases e;exact Nat.le_trans HB1.out.size HRw.out.1,HRw.out.2.2.2.le HB1.out.size⟩,onB HB1.out HBw.out⟩
 ·have HV:Hid (editsV D n (lE xs) (lD ys)=([],0,entsErr D n (lE xs))):=editsV_bad h60 he
  have HEr:Hid (errV (entsErr D n (lE xs))=.iface 66 (.int .i64 (entsErr D n (lE xs)))):=errV_some he
  rw [errV_some he] at h
  generalize editsV D n (lE xs) (lD ys)=V at HV
  generalize entsErr D n (lE xs)=E at h HV HEr he
  generalize xs.length=nx at h
  generalize ys.length=ny at h60 h60'
  clear hM hE hX hB0 h60 he
  go_enter Tryz.func6,Tryz.ntmps6
  go_wp2_with fail
  refine h.mono ?_
  rintro e w1 ⟨rfl,hb1⟩
  have HB1:Hid (Below w.heap.size w w1):=onB HB0.out hb1
  clear hb1
  go_wp2_with fail
  go_ret3
  rw [HV.out]
  exact ⟨⟨none,0,[],by rw [HEr.out];rfl,EnsV.nil _ _ _ (by decide),rfl,NewA.none _,fun _ h=>(by cases h)⟩,HB1.out⟩
theorem iall_any (A0:Option Addr) (cap n:Nat) (D:Nat→Dm) (A:Nat→Option Addr) (C:Nat→Nat) (AE:Option Addr) (ce:Nat) (xs:List EnL) (AX:Option Addr) (cx:Nat) (ys:List EdL) (w:World) (hM:DimsV w A0 cap n D A C) (hE:EnsV w AE ce xs) (hX:EdsV w AX cx ys) :
  Calls Tryz.prog 6 #[.agg #[.slice A0 n cap],.slice AE xs.length ce,.slice AX ys.length cx] w fun e w'=>Answer3 w (editsV D n (lE xs) (lD ys)) e w' :=
 (iall_new A0 cap n D A C AE ce xs AX cx ys w hM hE hX).mono fun _ _ ⟨⟨B,c,zs,h1,h2,h3,_⟩,h4⟩=>⟨⟨B,c,zs,h1,h2,h3⟩,h4⟩
end Go.Proofs.YtnegjdcedhnjdaaGreatDoor
