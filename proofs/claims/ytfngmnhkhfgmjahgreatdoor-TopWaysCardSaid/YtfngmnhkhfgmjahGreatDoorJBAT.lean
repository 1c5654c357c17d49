/-
  What slices.IndexFunc and slices.DeleteFunc over ints answer where the question is told of the list's own numbers alone: the rest of a list in a row of one's own.
-/
import Derived.Test.YtfngmnhkhfgmjahGreatDoorJBAP
namespace Go.Proofs.YtfngmnhkhfgmjahGreatDoor
open Go Go.ChangeShapes Go.WideShapes Go.ChangeAt Go.RowKit
set_option maxRecDepth 20000
theorem grown_transR {w w1 w2:World} {r:Option Nat} (h:w.grownBy w1 r) (k:w1.grownBy w2 r):w.grownBy w2 r :=
 ⟨k.os.trans h.os,k.tape.trans h.tape,k.output.trans h.output,Nat.le_trans h.size k.size,fun i hi hr=>(k.block i (Nat.lt_of_lt_of_le hi h.size) hr).trans (h.block i hi hr)⟩
theorem grown_belowR {w w':World} {r:Option Nat} (h:Below w.heap.size w w'):w.grownBy w' r:=⟨h.os,h.tape,h.output,h.size,fun i hi _=>h.block i hi⟩
theorem grown_setRowR (w:World) (g:Nat) (cs:Array Value):w.grownBy (w.setRow g cs) (some g) :=
 ⟨rfl,rfl,rfl,by rw [setRow_size];exact Nat.le_refl _,fun i _ hr=>setRow_other w g i cs fun e=>hr (by rw [e])⟩
theorem setCells_rowR (g:Nat) (t:TypeId):∀ (vs:List Value) (o:Nat) (cur:Array Value) (w:World),w.heap[g]?=some (.cells cur t (0,0))→o+vs.length≤cur.size→w.setCells g o vs=w.setRow g (cur.toList.take o ++ vs ++ cur.toList.drop (o+vs.length)).toArray
 | [],o,cur,w,hg,_=>by
  simp only [World.setCells,List.append_nil,List.length_nil,Nat.add_zero,List.take_append_drop,Array.toArray_toList]
  rw [setRow_self w g cur t (0,0) hg]
 | v :: r,o,cur,w,hg,hl=>by
  simp only [List.length_cons] at hl
  rw [World.setCells,setCell_eq_setRow w g o cur t (0,0) v hg,setCells_rowR g t r (o+1) (cur.setIfInBounds o v) _ (setRow_heap w g cur _ t _ hg) (by simp;omega),setRow_setRow]
  have e:=list_seg_step cur.toList o v r (by simp;omega)
  congr 2
  simpa [Array.toList_setIfInBounds,Nat.add_assoc] using e
set_option maxHeartbeats 1000000 in
theorem indexm_any (F:Nat) (cap:Array Value) (p:Int→Bool) (hent:∀ (args:Array Value) (w:World),(callFunc F args).run Tryz.prog w=.ok (.enter F args) w) (A:Option Addr) (c:Nat) (L:List Int) (w:World) (hn:L.length≤3000) (hL:IntsAt w A c L)
  (hF:∀ (x:Int) (w':World),x∈L→Below w.heap.size w w'→Calls Tryz.prog F (#[.int .i64 x] ++ cap) w' fun e w''=>e=.returned (.bool (p x))∧Below w'.heap.size w' w'') :
  Calls Tryz.prog 156 #[.slice A L.length c,.func (.func F) #[] cap] w fun e w'=>e=.returned (.int .i64 (findFrom (fun j=>p (L.getD j 0)) L.length 0))∧Below w.heap.size w w':=by
 obtain ⟨hc,h0 | ⟨b,rfl,hbw,hcell⟩⟩:=hL
 ·subst h0
  simp only [List.length_nil]
  go_enter Tryz.func156,Tryz.ntmps156
  go_wp2_with fail
  refine wp_loop_rounds 1 ?_
  rw [rounds_succ]
  go_wp2_with fail
  go_ret
  exact ⟨rfl,Below.refl _ _⟩
 ·have HC:Hid (∀ j,j<L.length→w.cell? ⟨b,j,none⟩=some (.int .i64 (L.getD j 0))):=hcell
  have HF:Hid (∀ (x:Int) (w':World),x∈L→Below w.heap.size w w'→Calls Tryz.prog F (#[.int .i64 x] ++ cap) w' fun e w''=>e=.returned (.bool (p x))∧Below w'.heap.size w' w''):=hF
  obtain ⟨pj,hpj⟩:∃ pj:Nat→Bool,pj=fun j=>p (L.getD j 0):=⟨_,rfl⟩
  have HP:Hid (∀ j,pj j=p (L.getD j 0)):=fun j=>by rw [hpj]
  rw [←hpj]
  obtain ⟨n,hnn⟩:∃ n,L.length=n:=⟨_,rfl⟩
  have HNn:Hid (L.length=n):=hnn
  rw [hnn] at hn hc HC ⊢
  clear hcell hpj hnn hF
  go_enter Tryz.func156,Tryz.ntmps156
  go_wp2_with fail
  go_loopg [8] n (fun g s8 wr => ∃ (k:Nat),k≤n∧g=n-k∧s8=.int .i64 k∧findFrom pj (n-k) k=findFrom pj n 0∧Below w.heap.size w wr)
  case atStart=>exact ⟨0,Nat.zero_le _,rfl,rfl,rfl,Below.refl _ _⟩
  case round =>
   obtain ⟨k,hk,rfl,rfl,hf,hBw⟩:=hrel
   have HQ:Hid (findFrom pj (n-k) k=findFrom pj n 0):=hf
   have HW:Hid (Below w.heap.size w wr):=hBw
   clear hf
   by_cases hlt:k<n
   ·have hki:(k:Int)<(n:Int):=by omega
    have hcx:=(hBw.cell (p:=⟨b,k,none⟩) hbw).trans (HC.out k hlt)
    have hn':(n:Int)≤3000:=by omega
    have hpk:=HP.out k
    have HSK:Hid (n-k=(n-(k+1))+1):=by show _=_;omega
    have hbd:=HF.out (L.getD k 0) wr (by rw [List.getD_eq_getElem?_getD,List.getElem?_eq_getElem (by rw [HNn.out];exact hlt)];exact List.getElem_mem _) hBw
    rw [←hpk] at hbd
    generalize L.getD k 0=x at hcx hpk hbd
    clear hBw hpk
    cases hb:pj k
    ·rw [hb] at hbd
     have HK:Hid (pj k=false):=hb
     clear hb
     go_wp2_with fail
     refine hbd.mono ?_
     rintro e w1 ⟨rfl,hb1⟩
     go_wp2_with fail
     go_roundg (n-(k+1))
     case measure=>omega
     case rel=>exact ⟨k+1,by omega,rfl,by go_num,by rw [←HQ.out,HSK.out,findFrom_miss _ HK.out],onB HW.out hb1⟩
    ·rw [hb] at hbd
     have HK:Hid (pj k=true):=hb
     clear hb
     go_wp2_with fail
     refine hbd.mono ?_
     rintro e w1 ⟨rfl,hb1⟩
     go_wp2_with fail
     go_ret
     exact ⟨by rw [←HQ.out,HSK.out,findFrom_hit _ HK.out];rfl,onB HW.out hb1⟩
   ·have hke:k=n:=by omega
    subst hke
    go_wp2_with fail
    go_ret
    exact ⟨by rw [←HQ.out,Nat.sub_self];rfl,HW.out⟩
def DInv (L:List Int) (p:Int→Bool) (i j:Nat) (cur:Array Value):Prop:=i<j∧((L.take j).filter fun x => !p x).length=i∧(∀ m,m<i→cur[m]?=some (.int .i64 (((L.take j).filter fun x => !p x).getD m 0)))∧∀ m,j≤m→m<L.length→cur[m]?=some (.int .i64 (L.getD m 0))
theorem take_one {L:List Int} {j:Nat} (h:j<L.length):L.take (j+1)=L.take j ++ [L.getD j 0]:=by
 rw [List.take_succ_eq_append_getElem h,List.getD_eq_getElem?_getD,List.getElem?_eq_getElem h]
 rfl
theorem dinv_start {L:List Int} {p:Int→Bool} {k:Nat} {cur:Array Value} (hk:k<L.length) (hp:p (L.getD k 0)=true) (hn:∀ j,j<k→p (L.getD j 0)=false) (hc:∀ m,m<L.length→cur[m]?=some (.int .i64 (L.getD m 0))):DInv L p k (k+1) cur:=by
 have hf:(L.take k).filter (fun x => !p x)=L.take k:=by
  rw [List.filter_eq_self]
  intro x hx
  obtain ⟨j,hj,rfl⟩:=List.getElem_of_mem hx
  have hj2:j<k:=by rw [List.length_take] at hj;omega
  have h:=hn j hj2
  rw [List.getD_eq_getElem?_getD,List.getElem?_eq_getElem (by omega)] at h
  simpa using h
 have e:(L.take (k+1)).filter (fun x => !p x)=L.take k:=by
  rw [take_one hk,List.filter_append,hf]
  generalize L.getD k 0=x at hp ⊢
  simp [hp]
 refine ⟨by omega,by rw [e,List.length_take];omega,fun m hm=>?_,fun m h1 h2=>hc m h2⟩
 rw [e,hc m (by omega),List.getD_eq_getElem?_getD,List.getD_eq_getElem?_getD,List.getElem?_take_of_lt hm]
theorem dinv_skip {L:List Int} {p:Int→Bool} {i j:Nat} {cur:Array Value} (h:DInv L p i j cur) (hj:j<L.length) (hp:p (L.getD j 0)=true):DInv L p i (j+1) cur:=by
 have e:(L.take (j+1)).filter (fun x => !p x)=(L.take j).filter (fun x => !p x):=by
  rw [take_one hj,List.filter_append]
  generalize L.getD j 0=x at hp ⊢
  simp [hp]
 obtain ⟨h1,h2,h3,h4⟩:=h
 refine ⟨by omega,by rw [e];exact h2,fun m hm=>by rw [e];exact h3 m hm,fun m a b=>h4 m (by omega) b⟩
theorem dinv_keep {L:List Int} {p:Int→Bool} {i j:Nat} {cur:Array Value} (h:DInv L p i j cur) (hj:j<L.length) (hs:L.length≤cur.size) (hp:p (L.getD j 0)=false):DInv L p (i+1) (j+1) (cur.setIfInBounds i (.int .i64 (L.getD j 0))):=by
 have e:(L.take (j+1)).filter (fun x => !p x)=(L.take j).filter (fun x => !p x) ++ [L.getD j 0]:=by
  rw [take_one hj,List.filter_append]
  generalize L.getD j 0=x at hp ⊢
  simp [hp]
 obtain ⟨h1,h2,h3,h4⟩:=h
 generalize L.getD j 0=x at e ⊢
 refine ⟨by omega,by rw [e,List.length_append,h2];rfl,fun m hm=>?_,fun m a b=>?_⟩
 ·rw [e,Array.getElem?_setIfInBounds]
  by_cases he:i=m
  ·rw [if_pos he,if_pos (by omega),List.getD_eq_getElem?_getD,List.getElem?_append_right (by omega),h2,he]
   simp
  ·rw [if_neg he,h3 m (by omega),List.getD_eq_getElem?_getD,List.getD_eq_getElem?_getD,List.getElem?_append_left (by omega)]
 ·rw [Array.getElem?_setIfInBounds,if_neg (by omega)]
  exact h4 m (by omega) b
theorem grown_setRu {w wr:World} {g k:Nat} {v:Value} (h:w.grownBy wr (some g)):w.grownBy (wr.setCell ⟨g,k,none⟩ v) (some g):=by
 refine ⟨h.os,h.tape,h.output,by simpa [World.setCell] using h.size,fun i hi hr=>?_⟩
 rw [←h.block i hi hr]
 simp only [World.setCell,Array.getElem?_modify]
 rw [if_neg fun e=>hr (by rw [e])]
set_option maxHeartbeats 4000000 in
theorem delf_any (F:Nat) (cp:Array Value) (p:Int→Bool) (hent:∀ (args:Array Value) (w:World),(callFunc F args).run Tryz.prog w=.ok (.enter F args) w) (base:Nat) (v:Value) (L:List Int) (w:World) (hn:L.length≤3000) (hown:w.ownsRow base 3 1 v L.length (mapI L))
  (hF:∀ (x:Int) (w':World),x∈L→w.grownBy w' v.ownBlock→Calls Tryz.prog F (#[.int .i64 x] ++ cp) w' fun e w''=>e=.returned (.bool (p x))∧Below w'.heap.size w' w'') :
  Calls Tryz.prog 234 #[v,.func (.func F) #[] cp] w fun e w'=>(∃ A' c',e=.returned (.slice A' (L.filter fun x => !p x).length c')∧IntT w' A' c' (L.filter fun x => !p x))∧w.grownBy w' v.ownBlock:=by
 obtain ⟨A,c,rfl,hI⟩:=intT_own hown
 have hix:=indexm_any F cp p hent A c L w (by omega) hI.at fun x w' hx hB=>hF x w' hx (grown_belowR hB)
 rcases findFrom_cases (fun j=>p (L.getD j 0)) L.length 0 with ⟨h1,h2⟩ | ⟨k,h1,_,h3,h4,h5⟩
 ·have hf:(L.filter fun x => !p x)=L:=by
   rw [List.filter_eq_self]
   intro x hx
   obtain ⟨j,hj,rfl⟩:=List.getElem_of_mem hx
   have h:=h2 j (Nat.zero_le _) (by omega)
   simp only [List.getD_eq_getElem?_getD,List.getElem?_eq_getElem hj] at h
   simpa using h
  have HF:Hid ((L.filter fun x => !p x)=L):=hf
  have HI:Hid (IntT w A c L):=hI
  rw [h1] at hix
  rw [hf]
  generalize L.length=n at hix
  clear hF hown hI h1 h2 hf hent
  go_enter Tryz.func234,Tryz.ntmps234
  go_wp2_with fail
  refine hix.mono ?_
  rintro e w1 ⟨rfl,hb1⟩
  go_wp2_with fail
  go_ret
  exact ⟨⟨A,c,rfl,HI.out.later hb1⟩,grown_belowR hb1⟩
 ·have hk:k<L.length:=by omega
  obtain ⟨hLc,hc63,hI0 | ⟨g,cs0,fr0,rfl,hg0,-⟩⟩:=hI
  ·rw [hI0] at hk;simp at hk
  obtain ⟨cur,hg,hcs,hcur⟩:∃ cur:Array Value,w.heap[g]?=some (.cells cur 3 (0,0))∧cur.size=c∧∀ m,m<L.length→cur[m]?=some (.int .i64 (L.getD m 0)):=by
   rcases hown.2 with ⟨e,_⟩ | ⟨g',cap,cur,e,hb,hg,hc,hm,hs,ht⟩
   ·cases e
   ·cases e
    refine ⟨cur,hg,by omega,fun m hm=>?_⟩
    have h:(mapI L)[m]?=some (.int .i64 (L.getD m 0)):=by simp [mapI,List.getD,List.getElem?_eq_getElem hm]
    rw [←ht,Nat.mul_one,List.getElem?_take_of_lt hm] at h
    rw [←h]
    simp
  have HSt:Hid (DInv L p k (k+1) cur):=dinv_start hk h4 (fun j hj=>h5 j (Nat.zero_le _) hj) hcur
  have HF:Hid (∀ (x:Int) (w':World),x∈L→w.grownBy w' (some g)→Calls Tryz.prog F (#[.int .i64 x] ++ cp) w' fun e w''=>e=.returned (.bool (p x))∧Below w'.heap.size w' w''):=hF
  have HCs:Hid (cur.size=c):=hcs
  rw [h1] at hix
  obtain ⟨n,hnn⟩:∃ n,L.length=n:=⟨_,rfl⟩
  have HN:Hid (L.length=n):=hnn
  have HG0:Hid (w.heap[g]?=some (.cells cur 3 (0,0))):=hg
  rw [hnn] at hix hk hn hLc ⊢
  have hki:(k:Int)<(n:Int):=by omega
  have hnI:(n:Int)≤3000:=by omega
  have hne:((k:Int) == -1)=false:=by
   have:(k:Int)≠-1:=by omega
   simp only [beq_eq_false_iff_ne];exact this
  show Calls Tryz.prog 234 #[.slice (some ⟨g,0,none⟩) n c,.func (.func F) #[] cp] w fun e w'=>(∃ A' c',e=.returned (.slice A' (L.filter fun x => !p x).length c')∧IntT w' A' c' (L.filter fun x => !p x))∧w.grownBy w' (some g)
  clear hF hown hg0 hcur hcs h1 h3 h4 h5 hg hnn
  go_enter Tryz.func234,Tryz.ntmps234
  go_wp2_with fail
  refine hix.mono ?_
  rintro e w1 ⟨rfl,hb1⟩
  have HG1:Hid (w1.heap[g]?=some (.cells cur 3 (0,0))∧w.grownBy w1 (some g)):=⟨(hb1.block g (Array.getElem?_eq_some_iff.1 HG0.out).1).trans HG0.out,grown_belowR hb1⟩
  clear hb1 hix
  go_wp2_with fail
  go_loopg [5,6] (n-(k+1)) (fun gg s5 s6 wr => ∃ (i j:Nat) (cu:Array Value),j≤n∧gg=n-j∧s5=.int .i64 i∧s6=.int .i64 j∧Hid (DInv L p i j cu∧cu.size=c)∧wr.heap[g]?=some (.cells cu 3 (0,0))∧w.grownBy wr (some g))
  case atStart=>exact ⟨k,k+1,cur,by omega,rfl,rfl,by go_num,(⟨HSt.out,HCs.out⟩:_∧_),HG1.out.1,HG1.out.2⟩
  case round =>
   obtain ⟨i,j,cu,hj,rfl,rfl,rfl,HD,hg,hG⟩:=hrel
   have HG:Hid (wr.heap[g]?=some (.cells cu 3 (0,0))):=hg
   have HGr:Hid (w.grownBy wr (some g)):=hG
   have hij:=HD.out.1.1
   have hgl:g<wr.heap.size:=(Array.getElem?_eq_some_iff.1 hg).1
   have hcc:=HD.out.2
   by_cases hlt:j<n
   ·have hji:(j:Int)<(n:Int):=by omega
    have hii:(i:Int)<(n:Int):=by omega
    have cj:wr.cell? ⟨g,j,none⟩=some (.int .i64 (L.getD j 0)):=by
     rw [Lib.cell_of_heap hg]
     exact HD.out.1.2.2.2 j (Nat.le_refl _) (by rw [HN.out];exact hlt)
    have hcl:=HF.out (L.getD j 0) wr (by rw [List.getD_eq_getElem?_getD,List.getElem?_eq_getElem (by rw [HN.out];exact hlt)];exact List.getElem_mem _) hG
    cases hp:p (L.getD j 0)
    ·rw [hp] at hcl
     have HD2:Hid (DInv L p (i+1) (j+1) (cu.setIfInBounds i (.int .i64 (L.getD j 0)))∧(cu.setIfInBounds i (.int .i64 (L.getD j 0))).size=c):=⟨dinv_keep HD.out.1 (by rw [HN.out];exact hlt) (by rw [HN.out,hcc];exact hLc) hp,by simpa using hcc⟩
     generalize L.getD j 0=x at cj hcl HD2
     clear hg hG hp
     go_wp2_with fail
     refine hcl.mono ?_
     rintro e w2 ⟨rfl,hb2⟩
     have hg2:=(hb2.block g hgl).trans HG.out
     have ci:(w2.cell? ⟨g,i,none⟩).isSome=true:=by
      rw [Lib.cell_of_heap hg2,Array.getElem?_eq_getElem (by omega)]
      rfl
     obtain ⟨old,hold⟩:∃ old,w2.cell? ⟨g,i,none⟩=some old:=Option.isSome_iff_exists.1 ci
     have hfr:w2.frozen? ⟨g,i,none⟩=false:=Lib.frozen_of_heap hg2 i
     have HG2:Hid ((w2.setCell ⟨g,i,none⟩ (.int .i64 x)).heap[g]?=some (.cells (cu.setIfInBounds i (.int .i64 x)) 3 (0,0))):=by
      show _=_
      simp [World.setCell,Array.getElem?_modify,hg2]
     have HGr2:Hid (w.grownBy (w2.setCell ⟨g,i,none⟩ (.int .i64 x)) (some g)):=grown_setRu (grown_transR HGr.out (grown_belowR hb2))
     clear hb2 hg2 hcl ci
     go_wp2_with fail
     go_roundg (n-(j+1))
     case measure=>omega
     case rel=>exact ⟨i+1,j+1,_,by omega,rfl,by go_num,by go_num,HD2,HG2.out,HGr2.out⟩
    ·rw [hp] at hcl
     have HD2:Hid (DInv L p i (j+1) cu∧cu.size=c):=⟨dinv_skip HD.out.1 (by rw [HN.out];exact hlt) hp,hcc⟩
     generalize L.getD j 0=x at cj hcl
     clear hg hG hp
     go_wp2_with fail
     refine hcl.mono ?_
     rintro e w2 ⟨rfl,hb2⟩
     have HG2:Hid (w2.heap[g]?=some (.cells cu 3 (0,0))):=(hb2.block g hgl).trans HG.out
     have HGr2:Hid (w.grownBy w2 (some g)):=grown_transR HGr.out (grown_belowR hb2)
     clear hb2 hcl
     go_wp2_with fail
     go_roundg (n-(j+1))
     case measure=>omega
     case rel=>exact ⟨i,j+1,_,by omega,rfl,rfl,by go_num,HD2,HG2.out,HGr2.out⟩
   ·have hje:j=n:=by omega
    subst hje
    have hii:(i:Int)<(j:Int):=by omega
    have hcl:∀ ty,(Builtin.clear_ #[22] ty #[.slice (some ⟨g,0+i,none⟩) (j-i) (c-i)]).run Tryz.prog wr=.ok (.tuple #[]) (wr.setCells g (0+i) (List.replicate (j-i) (.int .i64 0))) :=
     fun ty=>Lib.run_clear_slice wr _ _ ty _ Tryz.underlying22 Tryz.zeroValue3 rfl rfl g (0+i) _ _ (by omega) (fun t ht=>by rw [Lib.cell_of_heap hg,Array.getElem?_eq_getElem (by omega)];rfl) (fun t _=>Lib.frozen_of_heap hg _)
    have HDn:Hid (DInv L p i j cu∧cu.size=c):=HD
    have hseg:=setCells_rowR g 3 (List.replicate (j-i) (.int .i64 0)) (0+i) cu wr hg (by simp;omega)
    obtain ⟨W,hW⟩:∃ W,wr.setCells g (0+i) (List.replicate (j-i) (Value.int .i64 0))=W:=⟨_,rfl⟩
    have HGW:Hid (w.grownBy W (some g)):=by rw [←hW,hseg];exact grown_transR hG (grown_setRowR wr g _)
    have HTW:Hid (IntT W (some ⟨g,0,none⟩) c (L.filter fun x => !p x)):=by
     have hf:(L.filter fun x => !p x)=(L.take j).filter fun x => !p x:=by rw [List.take_of_length_le (by rw [HN.out];exact Nat.le_refl _)]
     have hWg:W.heap[g]?=some (.cells (cu.toList.take (0+i) ++ List.replicate (j-i) (Value.int .i64 0) ++ cu.toList.drop (0+i+(List.replicate (j-i) (Value.int .i64 0)).length)).toArray 3 (0,0)):=by rw [←hW,hseg];exact setRow_heap wr g cu _ _ _ hg
     refine ⟨by rw [hf,HD.out.1.2.1];omega,hc63,Or.inr ⟨g,_,_,rfl,hWg,fun m hm=>?_⟩⟩
     rw [hf] at hm ⊢
     rw [HD.out.1.2.1] at hm
     rw [Lib.cell_of_heap hWg,←HD.out.1.2.2.1 m hm]
     simp only [List.getElem?_toArray]
     rw [List.append_assoc,List.getElem?_append_left (by simp;omega),List.getElem?_take_of_lt (by omega)]
     simp
    have HFl:Hid ((L.filter fun x => !p x).length=i):=by
     show _=_
     rw [←HD.out.1.2.1,List.take_of_length_le (by rw [HN.out];exact Nat.le_refl _)]
    rw [hW,Nat.zero_add] at hcl
    have hcI:(j:Int)≤(c:Int):=by omega
    clear hg hG hseg hW
    go_wp2
    go_ret
    exact ⟨⟨some ⟨g,0,none⟩,c,by rw [HFl.out];rfl,HTW.out⟩,HGW.out⟩
end Go.Proofs.YtfngmnhkhfgmjahGreatDoor
namespace Go.Proofs.YtfngmnhkhfgmjahGreatDoor
open Go.ChangeShapes Go.WideShapes Go.ChangeAt Go.RowKit
set_option maxRecDepth 20000
theorem Tryz.infoMemH:(Tryz.prog.info? 65).map (fun i=>(i.zero,i.size,i.bytes))=some (some (.agg #[.string ⟨#[]⟩,.int .i64 0,.int .i64 0,.string ⟨#[]⟩]),4,48):=by kernel_rfl
theorem Tryz.infoDimH:(Tryz.prog.info? 63).map (fun i=>(i.zero,i.size,i.bytes))=some (some (.agg #[.string ⟨#[]⟩,.int .i64 0,.slice none 0 0]),3,48):=by kernel_rfl
def dcV (D:Nat→Dm) (A:Nat→Option Addr) (C:Nat→Nat) (j:Nat):Value:=if j % 3=0 then .string (D (j / 3)).name else if j % 3=1 then .int .i64 (D (j / 3)).solve else .slice (A (j / 3)) (D (j / 3)).n (C (j / 3))
def mcV (M:Nat→Mem) (j:Nat):Value:=if j % 4=0 then .string (M (j / 4)).name else if j % 4=1 then .int .i64 (M (j / 4)).parent else if j % 4=2 then .int .i64 (M (j / 4)).sign else .string (M (j / 4)).formula
def rowF (f:Nat→Value) (n:Nat):List Value:=(List.range n).map f
theorem rowF_len (f:Nat→Value) (n:Nat):(rowF f n).length=n:=by simp [rowF]
theorem rowF_at {f:Nat→Value} {n j:Nat} {u:Value} (h:(rowF f n)[j]?=some u):j<n∧u=f j:=by
 have hj:j<n:=by have:=(List.getElem?_eq_some_iff.1 h).1;rwa [rowF_len] at this
 simp [rowF,List.getElem?_range hj] at h
 exact ⟨hj,h.symm⟩
theorem rowF_get (f:Nat→Value) {n j:Nat} (h:j<n):(rowF f n)[j]?=some (f j):=by simp [rowF,List.getElem?_range h]
theorem dcV_one (D:Nat→Dm) (A:Nat→Option Addr) (C:Nat→Nat) (n:Nat):∀ u∈rowF (dcV D A C) n,u.oneCell'=true:=fun u hu=>by
 unfold rowF at hu
 obtain ⟨j,-,rfl⟩:=List.mem_map.1 hu
 unfold dcV
 split
 ·rfl
 ·split <;> rfl
theorem mcV_one (M:Nat→Mem) (n:Nat):∀ u∈rowF (mcV M) n,u.oneCell'=true:=fun u hu=>by
 unfold rowF at hu
 obtain ⟨j,-,rfl⟩:=List.mem_map.1 hu
 unfold mcV
 split
 ·rfl
 ·split
  ·rfl
  ·split <;> rfl
theorem DimsAt.dc {w:World} {b o n:Nat} {D:Nat→Dm} {A:Nat→Option Addr} {C:Nat→Nat} (h:DimsAt w b o n D A C) {j:Nat} (hj:j<n*3):w.cell? ⟨b,o+j,none⟩=some (dcV D A C j):=by
 obtain ⟨h1,h2,h3,-⟩:=h.2 (j / 3) (by omega)
 unfold dcV
 split
 ·rename_i e;rw [show o+j=o+j / 3*3 by omega];exact h1
 ·split
  ·rename_i e;rw [show o+j=o+j / 3*3+1 by omega];exact h2
  ·rw [show o+j=o+j / 3*3+2 by omega];exact h3
theorem MemsAt.mc {w:World} {b o n:Nat} {M:Nat→Mem} (h:MemsAt w b o n M) {j:Nat} (hj:j<n*4):w.cell? ⟨b,o+j,none⟩=some (mcV M j):=by
 obtain ⟨h1,h2,h3,h4⟩:=h.2 (j / 4) (by omega)
 unfold mcV
 split
 ·rw [show o+j=o+j / 4*4 by omega];exact h1
 ·split
  ·rw [show o+j=o+j / 4*4+1 by omega];exact h2
  ·split
   ·rw [show o+j=o+j / 4*4+2 by omega];exact h3
   ·rw [show o+j=o+j / 4*4+3 by omega];exact h4
def MemO (w:World) (g n:Nat) (M:Nat→Mem):Prop := ∃ cur fr,w.heap[g]?=some (.cells cur 65 fr)∧∀ j,j<n*4→cur[j]?=some (mcV M j)
theorem MemO.lt {w:World} {g n:Nat} {M:Nat→Mem} (h:MemO w g n M):g<w.heap.size:=by
 obtain ⟨cur,fr,h1,-⟩:=h
 exact (Array.getElem?_eq_some_iff.1 h1).1
theorem MemO.same {w w':World} {g n:Nat} {M:Nat→Mem} (h:MemO w g n M) (hb:w'.heap[g]?=w.heap[g]?):MemO w' g n M:=by
 obtain ⟨cur,fr,h1,h2⟩:=h
 exact ⟨cur,fr,hb.trans h1,h2⟩
theorem MemO.mems {w:World} {g n:Nat} {M:Nat→Mem} (h:MemO w g n M):MemsAt w g 0 n M:=by
 refine ⟨h.lt,fun i hi=>?_⟩
 obtain ⟨cur,fr,h1,h2⟩:=h
 have e:∀ k,k<4→w.cell? ⟨g,0+i*4+k,none⟩=some (mcV M (i*4+k)):=fun k hk=>by
  rw [Lib.cell_of_heap h1,Nat.zero_add]
  exact h2 _ (by omega)
 refine ⟨(e 0 (by omega)).trans ?_,(e 1 (by omega)).trans ?_,(e 2 (by omega)).trans ?_,(e 3 (by omega)).trans ?_⟩
 ·unfold mcV;rw [if_pos (by omega),show (i*4+0) / 4=i by omega]
 ·unfold mcV;rw [if_neg (by omega),if_pos (by omega),show (i*4+1) / 4=i by omega]
 ·unfold mcV;rw [if_neg (by omega),if_neg (by omega),if_pos (by omega),show (i*4+2) / 4=i by omega]
 ·unfold mcV;rw [if_neg (by omega),if_neg (by omega),if_neg (by omega),show (i*4+3) / 4=i by omega]
set_option maxHeartbeats 2000000 in
theorem mclone_any (b o c n:Nat) (M:Nat→Mem) (w:World) (hn0:0<n) (hn:n≤12) (hL:MemsAt w b o n M):Calls Tryz.prog 56 #[.slice (some ⟨b,o,none⟩) n c] w fun e w'=>(∃ g c',e=.returned (.slice (some ⟨g,0,none⟩) n c')∧w.heap.size≤g∧n≤c'∧MemO w' g n M)∧Below w.heap.size w w':=by
 have hq:∀ (w:World) (a:Option Addr) (n c n' c':Nat),(binOp .eql 61 (.slice a n c) (.slice none n' c')).run Tryz.prog w=.ok (.bool a.isNone) w:=fun w a n c n' c'=>Lib.run_eql_slice_nil w _ _ a n c n' c' Tryz.underlying61
 obtain ⟨i0,hi0,hz0,hz1,hz2⟩:=info_parts Tryz.infoMemH
 have HC:Hid (∀ j u,(rowF (mcV M) (n*4))[j]?=some u→w.cell? ((⟨b,o,none⟩:Addr).add j)=some u):=fun j u hj=>by
  obtain ⟨h1,rfl⟩:=rowF_at hj
  rw [plain_add]
  exact hL.mc h1
 have HF:Hid (∀ (w':World) (v:Value),w'.ownsRow w.heap.size 65 4 v n (rowF (mcV M) (n*4))→∃ g c',v=.slice (some ⟨g,0,none⟩) n c'∧w.heap.size≤g∧n≤c'∧MemO w' g n M):=fun w' v h=>by
  rcases h.2 with ⟨rfl,h0⟩ | ⟨g,cap,cur,rfl,hb,hg,h4,h5,h6,h7⟩
  ·omega
  ·refine ⟨g,cap,rfl,hb,h4,cur,_,hg,fun j hj=>?_⟩
   have:=rowF_get (mcV M) hj
   rw [←h7,List.getElem?_take,if_pos (by omega),Array.getElem?_toList] at this
   exact this
 have hl:(rowF (mcV M) (n*4)).length=n*4:=rowF_len _ _
 have h1:=mcV_one M (n*4)
 generalize rowF (mcV M) (n*4)=R at HC HF hl h1
 clear hL
 go_enter Tryz.func56,Tryz.ntmps56
 go_wp2_with (at_builtin;refine wpList_append_own _ rfl _ _ 61 rfl w.heap.size 65 i0 (.agg #[.string ⟨#[]⟩,.int .i64 0,.int .i64 0,.string ⟨#[]⟩]) 4 48 Tryz.underlying61 hi0 hz0 hz1 hz2 rfl (by decide) _ _ _ rfl (World.ownsRow_made w #[] 0 (Nat.le_refl _) (Nat.zero_le _) (by simp)) ⟨b,o,none⟩ n c R rfl ?qc1 ?qc2 ?qc3 ?qc4 ?qc5 ?qc6 ?_)
 case qc1=>exact hl
 case qc2=>exact fun j u hj=>Lib.cell?_alloc_some _ (HC.out j u hj)
 case qc3=>exact h1
 case qc4=>simp only [maxLen];omega
 case qc5=>omega
 case qc6=>simp
 intro v' w1 hown hgrow hnil
 obtain ⟨g,c',rfl,hg⟩:=HF.out _ _ (by simpa using hown)
 have HT:=hid_of hg
 have HB:Hid (Below w.heap.size w w1):=((Below.refl _ w).alloc (Nat.le_refl _) _).grown hgrow (by simp) (by intro k hk;simp [Value.ownBlock] at hk;omega)
 clear hown hgrow hnil hg
 go_wp2_with fail
 go_ret
 exact ⟨⟨g,c',rfl,HT.out⟩,HB.out⟩
theorem set_tyD {w:World} {g k T:Nat} {cs:Array Value} {fr:Nat×Nat} {v:Value} (h:w.heap[g]?=some (.cells cs T fr)):(w.setCell ⟨g,k,none⟩ v).heap[g]?=some (.cells (cs.setIfInBounds k v) T fr):=by
 rw [Sort.setCell_eq]
 unfold Sort.mapBlock
 simp only [Array.getElem?_modify,if_true,h,Option.map_some]
 rfl
def DimO (w:World) (g n:Nat) (f:Nat→Value):Prop := ∃ cur,w.heap[g]?=some (.cells cur 63 (0,0))∧∀ j,j<n*3→cur[j]?=some (f j)
theorem DimO.lt {w:World} {g n:Nat} {f:Nat→Value} (h:DimO w g n f):g<w.heap.size:=by
 obtain ⟨cur,h1,-⟩:=h
 exact (Array.getElem?_eq_some_iff.1 h1).1
theorem DimO.same {w w':World} {g n:Nat} {f:Nat→Value} (h:DimO w g n f) (hb:w'.heap[g]?=w.heap[g]?):DimO w' g n f:=by
 obtain ⟨cur,h1,h2⟩:=h
 exact ⟨cur,hb.trans h1,h2⟩
theorem DimO.later {w w':World} {g n:Nat} {f:Nat→Value} (h:DimO w g n f) (hB:Below w.heap.size w w'):DimO w' g n f:=h.same (hB.block g h.lt)
theorem DimO.cell {w:World} {g n:Nat} {f:Nat→Value} (h:DimO w g n f) {j:Nat} (hj:j<n*3):w.cell? ⟨g,j,none⟩=some (f j):=by
 obtain ⟨cur,h1,h2⟩:=h
 rw [Lib.cell_of_heap h1]
 exact h2 j hj
theorem DimO.frozen {w:World} {g n:Nat} {f:Nat→Value} (h:DimO w g n f) (j:Nat):w.frozen? ⟨g,j,none⟩=false:=by
 obtain ⟨cur,h1,-⟩:=h
 exact Lib.frozen_of_heap h1 j
theorem DimO.set {w:World} {g n:Nat} {f:Nat→Value} (h:DimO w g n f) {x:Nat} (hx:x<n*3) (v:Value):DimO (w.setCell ⟨g,x,none⟩ v) g n (fun j=>if j=x then v else f j):=by
 obtain ⟨cur,h1,h2⟩:=h
 refine ⟨cur.setIfInBounds x v,set_tyD h1,fun j hj=>?_⟩
 have hc:=h2 x hx
 dsimp only
 by_cases e:j=x
 ·subst e
  rw [if_pos rfl,Array.getElem?_setIfInBounds_self,if_pos (Array.getElem?_eq_some_iff.1 hc).1]
 ·rw [if_neg e,Array.getElem?_setIfInBounds_ne (fun h=>e h.symm)]
  exact h2 j hj
set_option maxHeartbeats 2000000 in
theorem dclone_any (b o c n:Nat) (D:Nat→Dm) (A:Nat→Option Addr) (C:Nat→Nat) (w:World) (hn0:0<n) (hn:n≤4) (hL:DimsAt w b o n D A C):Calls Tryz.prog 55 #[.slice (some ⟨b,o,none⟩) n c] w fun e w'=>(∃ g c',e=.returned (.slice (some ⟨g,0,none⟩) n c')∧w.heap.size≤g∧n≤c'∧DimO w' g n (dcV D A C))∧Below w.heap.size w w':=by
 have hq:∀ (w:World) (a:Option Addr) (n c n' c':Nat),(binOp .eql 28 (.slice a n c) (.slice none n' c')).run Tryz.prog w=.ok (.bool a.isNone) w:=fun w a n c n' c'=>Lib.run_eql_slice_nil w _ _ a n c n' c' Tryz.underlying28
 obtain ⟨i0,hi0,hz0,hz1,hz2⟩:=info_parts Tryz.infoDimH
 have HC:Hid (∀ j u,(rowF (dcV D A C) (n*3))[j]?=some u→w.cell? ((⟨b,o,none⟩:Addr).add j)=some u):=fun j u hj=>by
  obtain ⟨h1,rfl⟩:=rowF_at hj
  rw [plain_add]
  exact hL.dc h1
 have HF:Hid (∀ (w':World) (v:Value),w'.ownsRow w.heap.size 63 3 v n (rowF (dcV D A C) (n*3))→∃ g c',v=.slice (some ⟨g,0,none⟩) n c'∧w.heap.size≤g∧n≤c'∧DimO w' g n (dcV D A C)):=fun w' v h=>by
  rcases h.2 with ⟨rfl,h0⟩ | ⟨g,cap,cur,rfl,hb,hg,h4,h5,h6,h7⟩
  ·omega
  ·refine ⟨g,cap,rfl,hb,h4,cur,hg,fun j hj=>?_⟩
   have:=rowF_get (dcV D A C) hj
   rw [←h7,List.getElem?_take,if_pos (by omega),Array.getElem?_toList] at this
   exact this
 have hl:(rowF (dcV D A C) (n*3)).length=n*3:=rowF_len _ _
 have h1:=dcV_one D A C (n*3)
 generalize rowF (dcV D A C) (n*3)=R at HC HF hl h1
 clear hL
 go_enter Tryz.func55,Tryz.ntmps55
 go_wp2_with (at_builtin;refine wpList_append_own _ rfl _ _ 28 rfl w.heap.size 63 i0 (.agg #[.string ⟨#[]⟩,.int .i64 0,.slice none 0 0]) 3 48 Tryz.underlying28 hi0 hz0 hz1 hz2 rfl (by decide) _ _ _ rfl (World.ownsRow_made w #[] 0 (Nat.le_refl _) (Nat.zero_le _) (by simp)) ⟨b,o,none⟩ n c R rfl ?qc1 ?qc2 ?qc3 ?qc4 ?qc5 ?qc6 ?_)
 case qc1=>exact hl
 case qc2=>exact fun j u hj=>Lib.cell?_alloc_some _ (HC.out j u hj)
 case qc3=>exact h1
 case qc4=>simp only [maxLen];omega
 case qc5=>omega
 case qc6=>simp
 intro v' w1 hown hgrow hnil
 obtain ⟨g,c',rfl,hg⟩:=HF.out _ _ (by simpa using hown)
 have HT:=hid_of hg
 have HB:Hid (Below w.heap.size w w1):=((Below.refl _ w).alloc (Nat.le_refl _) _).grown hgrow (by simp) (by intro k hk;simp [Value.ownBlock] at hk;omega)
 clear hown hgrow hnil hg
 go_wp2_with fail
 go_ret
 exact ⟨⟨g,c',rfl,HT.out⟩,HB.out⟩
def DimsO (w:World) (N g n:Nat) (D:Nat→Dm) (G C:Nat→Nat):Prop:=N≤g∧DimO w g n (dcV D (fun i=>some ⟨G i,0,none⟩) C)∧∀ i,i<n→N≤G i∧(D i).n≤C i∧MemO w (G i) (D i).n (D i).mem
theorem DimsO.dims {w:World} {N g n:Nat} {D:Nat→Dm} {G C:Nat→Nat} (h:DimsO w N g n D G C):DimsAt w g 0 n D (fun i=>some ⟨G i,0,none⟩) C:=by
 refine ⟨h.2.1.lt,fun i hi=>?_⟩
 have e:∀ k,k<3→w.cell? ⟨g,0+i*3+k,none⟩=some (dcV D (fun i=>some ⟨G i,0,none⟩) C (i*3+k)):=fun k hk=>by
  rw [Nat.zero_add]
  exact h.2.1.cell (by omega)
 obtain ⟨-,h2,h3⟩:=h.2.2 i hi
 refine ⟨(e 0 (by omega)).trans ?_,(e 1 (by omega)).trans ?_,(e 2 (by omega)).trans ?_,h2,Or.inr ⟨G i,0,rfl,h3.mems⟩⟩
 ·unfold dcV;rw [if_pos (by omega),show (i*3+0) / 3=i by omega]
 ·unfold dcV;rw [if_neg (by omega),if_pos (by omega),show (i*3+1) / 3=i by omega]
 ·unfold dcV;rw [if_neg (by omega),if_neg (by omega),show (i*3+2) / 3=i by omega]
def FrS (w wr:World) (g k n:Nat) (D:Nat→Dm) (A:Nat→Option Addr) (C:Nat→Nat):Prop := ∃ G C':Nat→Nat,w.heap.size≤g∧DimO wr g n (dcV D (fun i=>if i<k then some ⟨G i,0,none⟩ else A i) (fun i=>if i<k then C' i else C i))∧∀ i,i<k→w.heap.size≤G i∧(D i).n≤C' i∧MemO wr (G i) (D i).n (D i).mem
theorem FrS.later {w wr w':World} {g k n:Nat} {D:Nat→Dm} {A:Nat→Option Addr} {C:Nat→Nat} (h:FrS w wr g k n D A C) (hB:Below wr.heap.size wr w'):FrS w w' g k n D A C:=by
 obtain ⟨G,C',h1,h2,h3⟩:=h
 exact ⟨G,C',h1,h2.later hB,fun i hi=>⟨(h3 i hi).1,(h3 i hi).2.1,(h3 i hi).2.2.same (hB.block _ (h3 i hi).2.2.lt)⟩⟩
theorem FrS.put {w wr:World} {g k n gm cm:Nat} {D:Nat→Dm} {A:Nat→Option Addr} {C:Nat→Nat} (h:FrS w wr g k n D A C) (hk:k<n) (hg:w.heap.size≤gm) (hc:(D k).n≤cm) (hm:MemO wr gm (D k).n (D k).mem):FrS w (wr.setCell ⟨g,k*3+2,none⟩ (.slice (some ⟨gm,0,none⟩) (D k).n cm)) g (k+1) n D A C:=by
 obtain ⟨G,C',h1,h2,h3⟩:=h
 have hoff:∀ x (M:Nat→Mem) m,MemO wr x m M→MemO (wr.setCell ⟨g,k*3+2,none⟩ (.slice (some ⟨gm,0,none⟩) (D k).n cm)) x m M:=fun x M m hx=>hx.same (setCell_off _ _ _ _ _ fun e=>by
  obtain ⟨c1,f1,e1,-⟩:=hx
  obtain ⟨c2,e2,-⟩:=h2
  rw [e,e2] at e1
  simp only [Option.some.injEq,Obj.cells.injEq] at e1
  exact absurd e1.2.1 (by decide))
 refine ⟨fun i=>if i=k then gm else G i,fun i=>if i=k then cm else C' i,h1,?_,fun i hi=>?_⟩
 ·have:=h2.set (x:=k*3+2) (by omega) (.slice (some ⟨gm,0,none⟩) (D k).n cm)
  obtain ⟨cur,q1,q2⟩:=this
  refine ⟨cur,q1,fun j hj=>(q2 j hj).trans ?_⟩
  congr 1
  dsimp only
  by_cases e:j=k*3+2
  ·subst e
   rw [if_pos rfl]
   unfold dcV
   dsimp only
   rw [if_neg (by omega),if_neg (by omega),show (k*3+2) / 3=k by omega]
   simp
  ·rw [if_neg e]
   unfold dcV
   dsimp only
   by_cases e0:j % 3=0
   ·rw [if_pos e0,if_pos e0]
   ·by_cases e1:j % 3=1
    ·rw [if_neg e0,if_neg e0,if_pos e1,if_pos e1]
    ·have hne:j / 3≠k:=by omega
     rw [if_neg e0,if_neg e0,if_neg e1,if_neg e1,if_neg hne,if_neg hne]
     by_cases hlt:j / 3<k
     ·rw [if_pos hlt,if_pos hlt,if_pos (by omega),if_pos (by omega)]
     ·rw [if_neg hlt,if_neg hlt,if_neg (by omega),if_neg (by omega)]
 ·dsimp only
  by_cases e:i=k
  ·subst e
   rw [if_pos rfl,if_pos rfl]
   exact ⟨hg,hc,hoff _ _ _ hm⟩
  ·rw [if_neg e,if_neg e]
   obtain ⟨a1,a2,a3⟩:=h3 i (by omega)
   exact ⟨a1,a2,hoff _ _ _ a3⟩
theorem FrS.all {w wr:World} {g n:Nat} {D:Nat→Dm} {A:Nat→Option Addr} {C:Nat→Nat} (h:FrS w wr g n n D A C):∃ G C',DimsO wr w.heap.size g n D G C':=by
 obtain ⟨G,C',h1,⟨cur,q1,q2⟩,h3⟩:=h
 refine ⟨G,C',h1,⟨cur,q1,fun j hj=>(q2 j hj).trans ?_⟩,h3⟩
 congr 1
 unfold dcV
 dsimp only
 rw [if_pos (by omega:j / 3<n),if_pos (by omega:j / 3<n)]
end Go.Proofs.YtfngmnhkhfgmjahGreatDoor
