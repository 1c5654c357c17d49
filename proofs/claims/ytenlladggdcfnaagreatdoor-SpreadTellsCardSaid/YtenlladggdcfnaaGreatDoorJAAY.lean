/-
  What slices.IndexFunc and slices.DeleteFunc over ints answer where the question is told of the list's own numbers alone: the rest of a list in a row of one's own.
-/
import Derived.Test.YtenlladggdcfnaaGreatDoorJAAS
namespace Go.Proofs.YtenlladggdcfnaaGreatDoor
open Go Go.ChangeShapes Go.WideShapes Go.ChangeAt Go.RowKit
set_option maxRecDepth 20000
theorem grown_transR {w w1 w2:World} {r:Option Nat} (h:w.grownBy w1 r) (k:w1.grownBy w2 r):w.grownBy w2 r :=
 ⟨k.os.trans h.os,k.tape.trans h.tape,k.output.trans h.output,Nat.le_trans h.size k.size,fun i hi hr=>(k.block i (Nat.lt_of_lt_of_le hi h.size) hr).trans (h.block i hi hr)⟩
theorem grown_belowR {w w':World} {r:Option Nat} (h:Below w.heap.size w w'):w.grownBy w' r:=⟨h.os,h.tape,h.output,h.size,fun i hi _=>h.block i hi⟩
theorem grown_setRowR (w:World) (g:Nat) (cs:Array Value):w.grownBy (w.setRow g cs) (some g) :=
 ⟨rfl,rfl,rfl,by rw [setRow_size];exact Nat.le_refl _,fun i _ hr=>setRow_other w g i cs fun e=>hr (by rw [e])⟩
theorem setCells_rowR (g:Nat) (t:TypeId):∀ (vs:List Value) (o:Nat) (cur:Array Value) (w:World),w.heap[g]?=some (.cells cur t (0,0))→o+vs.length≤cur.size→w.setCells g o vs=w.setRow g (cur.toList.take o ++ vs ++ cur.toList.drop (o+vs.length)).toArray
 | [],o,cur,w,hg,_=>by
  simp only [World.setCells,List.append_nil,List.length_nil,Nat.add_zero,List.take_append_drop,Array.toArray_toList]
  rw [setRow_self w g cur t (0,0) hg]
 | v :: r,o,cur,w,hg,hl=>by
  simp only [List.length_cons] at hl
  rw [World.setCells,setCell_eq_setRow w g o cur t (0,0) v hg,setCells_rowR g t r (o+1) (cur.setIfInBounds o v) _ (setRow_heap w g cur _ t _ hg) (by simp;omega),setRow_setRow]
  have e:=list_seg_step cur.toList o v r (by simp;omega)
  congr 2
  simpa [Array.toList_setIfInBounds,Nat.add_assoc] using e
set_option maxHeartbeats 1000000 in
theorem indexm_any (F:Nat) (cap:Array Value) (p:Int→Bool) (hent:∀ (args:Array Value) (w:World),(callFunc F args).run Tryz.prog w=.ok (.enter F args) w) (A:Option Addr) (c:Nat) (L:List Int) (w:World) (hn:L.length≤3000) (hL:IntsAt w A c L)
  (hF:∀ (x:Int) (w':World),x∈L→Below w.heap.size w w'→Calls Tryz.prog F (#[.int .i64 x] ++ cap) w' fun e w''=>e=.returned (.bool (p x))∧Below w'.heap.size w' w'') :
  Calls Tryz.prog 31 #[.slice A L.length c,.func (.func F) #[] cap] w fun e w'=>e=.returned (.int .i64 (findFrom (fun j=>p (L.getD j 0)) L.length 0))∧Below w.heap.size w w' :=
 indexm_pl F cap p hent A c L w (by omega) (pl_ints hL) hF
def DInv (L:List Int) (p:Int→Bool) (i j:Nat) (cur:Array Value):Prop:=i<j∧((L.take j).filter fun x => !p x).length=i∧(∀ m,m<i→cur[m]?=some (.int .i64 (((L.take j).filter fun x => !p x).getD m 0)))∧∀ m,j≤m→m<L.length→cur[m]?=some (.int .i64 (L.getD m 0))
theorem take_one {L:List Int} {j:Nat} (h:j<L.length):L.take (j+1)=L.take j ++ [L.getD j 0]:=by
 rw [List.take_succ_eq_append_getElem h,List.getD_eq_getElem?_getD,List.getElem?_eq_getElem h]
 rfl
theorem dinv_start {L:List Int} {p:Int→Bool} {k:Nat} {cur:Array Value} (hk:k<L.length) (hp:p (L.getD k 0)=true) (hn:∀ j,j<k→p (L.getD j 0)=false) (hc:∀ m,m<L.length→cur[m]?=some (.int .i64 (L.getD m 0))):DInv L p k (k+1) cur:=by
 have hf:(L.take k).filter (fun x => !p x)=L.take k:=by
  rw [List.filter_eq_self]
  intro x hx
  obtain ⟨j,hj,rfl⟩:=List.getElem_of_mem hx
  have hj2:j<k:=by rw [List.length_take] at hj;omega
  have h:=hn j hj2
  rw [List.getD_eq_getElem?_getD,List.getElem?_eq_getElem (by omega)] at h
  simpa using h
 have e:(L.take (k+1)).filter (fun x => !p x)=L.take k:=by
  rw [take_one hk,List.filter_append,hf]
  generalize L.getD k 0=x at hp ⊢
  simp [hp]
 refine ⟨by omega,by rw [e,List.length_take];omega,fun m hm=>?_,fun m h1 h2=>hc m h2⟩
 rw [e,hc m (by omega),List.getD_eq_getElem?_getD,List.getD_eq_getElem?_getD,List.getElem?_take_of_lt hm]
theorem dinv_skip {L:List Int} {p:Int→Bool} {i j:Nat} {cur:Array Value} (h:DInv L p i j cur) (hj:j<L.length) (hp:p (L.getD j 0)=true):DInv L p i (j+1) cur:=by
 have e:(L.take (j+1)).filter (fun x => !p x)=(L.take j).filter (fun x => !p x):=by
  rw [take_one hj,List.filter_append]
  generalize L.getD j 0=x at hp ⊢
  simp [hp]
 obtain ⟨h1,h2,h3,h4⟩:=h
 refine ⟨by omega,by rw [e];exact h2,fun m hm=>by rw [e];exact h3 m hm,fun m a b=>h4 m (by omega) b⟩
theorem dinv_keep {L:List Int} {p:Int→Bool} {i j:Nat} {cur:Array Value} (h:DInv L p i j cur) (hj:j<L.length) (hs:L.length≤cur.size) (hp:p (L.getD j 0)=false):DInv L p (i+1) (j+1) (cur.setIfInBounds i (.int .i64 (L.getD j 0))):=by
 have e:(L.take (j+1)).filter (fun x => !p x)=(L.take j).filter (fun x => !p x) ++ [L.getD j 0]:=by
  rw [take_one hj,List.filter_append]
  generalize L.getD j 0=x at hp ⊢
  simp [hp]
 obtain ⟨h1,h2,h3,h4⟩:=h
 generalize L.getD j 0=x at e ⊢
 refine ⟨by omega,by rw [e,List.length_append,h2];rfl,fun m hm=>?_,fun m a b=>?_⟩
 ·rw [e,Array.getElem?_setIfInBounds]
  by_cases he:i=m
  ·rw [if_pos he,if_pos (by omega),List.getD_eq_getElem?_getD,List.getElem?_append_right (by omega),h2,he]
   simp
  ·rw [if_neg he,h3 m (by omega),List.getD_eq_getElem?_getD,List.getD_eq_getElem?_getD,List.getElem?_append_left (by omega)]
 ·rw [Array.getElem?_setIfInBounds,if_neg (by omega)]
  exact h4 m (by omega) b
theorem grown_setRu {w wr:World} {g k:Nat} {v:Value} (h:w.grownBy wr (some g)):w.grownBy (wr.setCell ⟨g,k,none⟩ v) (some g):=by
 refine ⟨h.os,h.tape,h.output,by simpa [World.setCell] using h.size,fun i hi hr=>?_⟩
 rw [←h.block i hi hr]
 simp only [World.setCell,Array.getElem?_modify]
 rw [if_neg fun e=>hr (by rw [e])]
set_option maxHeartbeats 4000000 in
theorem delf_any (F:Nat) (cp:Array Value) (p:Int→Bool) (hent:∀ (args:Array Value) (w:World),(callFunc F args).run Tryz.prog w=.ok (.enter F args) w) (base:Nat) (v:Value) (L:List Int) (w:World) (hn:L.length≤3000) (hown:w.ownsRow base 3 1 v L.length (mapI L))
  (hF:∀ (x:Int) (w':World),x∈L→w.grownBy w' v.ownBlock→Calls Tryz.prog F (#[.int .i64 x] ++ cp) w' fun e w''=>e=.returned (.bool (p x))∧Below w'.heap.size w' w'') :
  Calls Tryz.prog 120 #[v,.func (.func F) #[] cp] w fun e w'=>(∃ A' c',e=.returned (.slice A' (L.filter fun x => !p x).length c')∧IntT w' A' c' (L.filter fun x => !p x))∧w.grownBy w' v.ownBlock:=by
 obtain ⟨A,c,rfl,hI⟩:=intT_own hown
 have hix:=indexm_any F cp p hent A c L w (by omega) hI.at fun x w' hx hB=>hF x w' hx (grown_belowR hB)
 rcases findFrom_cases (fun j=>p (L.getD j 0)) L.length 0 with ⟨h1,h2⟩ | ⟨k,h1,_,h3,h4,h5⟩
 ·have hf:(L.filter fun x => !p x)=L:=by
   rw [List.filter_eq_self]
   intro x hx
   obtain ⟨j,hj,rfl⟩:=List.getElem_of_mem hx
   have h:=h2 j (Nat.zero_le _) (by omega)
   simp only [List.getD_eq_getElem?_getD,List.getElem?_eq_getElem hj] at h
   simpa using h
  have HF:Hid ((L.filter fun x => !p x)=L):=hf
  have HI:Hid (IntT w A c L):=hI
  rw [h1] at hix
  rw [hf]
  generalize L.length=n at hix
  clear hF hown hI h1 h2 hf hent
  go_enter Tryz.func120,Tryz.ntmps120
  go_wp2_with fail
  refine hix.mono ?_
  rintro e w1 ⟨rfl,hb1⟩
  go_wp2_with fail
  go_ret
  exact ⟨⟨A,c,rfl,HI.out.later hb1⟩,grown_belowR hb1⟩
 ·have hk:k<L.length:=by omega
  obtain ⟨hLc,hc63,hI0 | ⟨g,cs0,fr0,rfl,hg0,-⟩⟩:=hI
  ·rw [hI0] at hk;simp at hk
  obtain ⟨cur,hg,hcs,hcur⟩:∃ cur:Array Value,w.heap[g]?=some (.cells cur 3 (0,0))∧cur.size=c∧∀ m,m<L.length→cur[m]?=some (.int .i64 (L.getD m 0)):=by
   rcases hown.2 with ⟨e,_⟩ | ⟨g',cap,cur,e,hb,hg,hc,hm,hs,ht⟩
   ·cases e
   ·cases e
    refine ⟨cur,hg,by omega,fun m hm=>?_⟩
    have h:(mapI L)[m]?=some (.int .i64 (L.getD m 0)):=by simp [mapI,List.getD,List.getElem?_eq_getElem hm]
    rw [←ht,Nat.mul_one,List.getElem?_take_of_lt hm] at h
    rw [←h]
    simp
  have HSt:Hid (DInv L p k (k+1) cur):=dinv_start hk h4 (fun j hj=>h5 j (Nat.zero_le _) hj) hcur
  have HF:Hid (∀ (x:Int) (w':World),x∈L→w.grownBy w' (some g)→Calls Tryz.prog F (#[.int .i64 x] ++ cp) w' fun e w''=>e=.returned (.bool (p x))∧Below w'.heap.size w' w''):=hF
  have HCs:Hid (cur.size=c):=hcs
  rw [h1] at hix
  obtain ⟨n,hnn⟩:∃ n,L.length=n:=⟨_,rfl⟩
  have HN:Hid (L.length=n):=hnn
  have HG0:Hid (w.heap[g]?=some (.cells cur 3 (0,0))):=hg
  rw [hnn] at hix hk hn hLc ⊢
  have hki:(k:Int)<(n:Int):=by omega
  have hnI:(n:Int)≤3000:=by omega
  have hne:((k:Int) == -1)=false:=by
   have:(k:Int)≠-1:=by omega
   simp only [beq_eq_false_iff_ne];exact this
  show Calls Tryz.prog 120 #[.slice (some ⟨g,0,none⟩) n c,.func (.func F) #[] cp] w fun e w'=>(∃ A' c',e=.returned (.slice A' (L.filter fun x => !p x).length c')∧IntT w' A' c' (L.filter fun x => !p x))∧w.grownBy w' (some g)
  clear hF hown hg0 hcur hcs h1 h3 h4 h5 hg hnn
  go_enter Tryz.func120,Tryz.ntmps120
  go_wp2_with fail
  refine hix.mono ?_
  rintro e w1 ⟨rfl,hb1⟩
  have HG1:Hid (w1.heap[g]?=some (.cells cur 3 (0,0))∧w.grownBy w1 (some g)):=⟨(hb1.block g (Array.getElem?_eq_some_iff.1 HG0.out).1).trans HG0.out,grown_belowR hb1⟩
  clear hb1 hix
  go_wp2_with fail
  go_loopg [5,6] (n-(k+1)) (fun gg s5 s6 wr => ∃ (i j:Nat) (cu:Array Value),j≤n∧gg=n-j∧s5=.int .i64 i∧s6=.int .i64 j∧Hid (DInv L p i j cu∧cu.size=c)∧wr.heap[g]?=some (.cells cu 3 (0,0))∧w.grownBy wr (some g))
  case atStart=>exact ⟨k,k+1,cur,by omega,rfl,rfl,by go_num,(⟨HSt.out,HCs.out⟩:_∧_),HG1.out.1,HG1.out.2⟩
  case round =>
   obtain ⟨i,j,cu,hj,rfl,rfl,rfl,HD,hg,hG⟩:=hrel
   have HG:Hid (wr.heap[g]?=some (.cells cu 3 (0,0))):=hg
   have HGr:Hid (w.grownBy wr (some g)):=hG
   have hij:=HD.out.1.1
   have hgl:g<wr.heap.size:=(Array.getElem?_eq_some_iff.1 hg).1
   have hcc:=HD.out.2
   by_cases hlt:j<n
   ·have hji:(j:Int)<(n:Int):=by omega
    have hii:(i:Int)<(n:Int):=by omega
    have cj:wr.cell? ⟨g,j,none⟩=some (.int .i64 (L.getD j 0)):=by
     rw [Lib.cell_of_heap hg]
     exact HD.out.1.2.2.2 j (Nat.le_refl _) (by rw [HN.out];exact hlt)
    have hcl:=HF.out (L.getD j 0) wr (by rw [List.getD_eq_getElem?_getD,List.getElem?_eq_getElem (by rw [HN.out];exact hlt)];exact List.getElem_mem _) hG
    cases hp:p (L.getD j 0)
    ·rw [hp] at hcl
     have HD2:Hid (DInv L p (i+1) (j+1) (cu.setIfInBounds i (.int .i64 (L.getD j 0)))∧(cu.setIfInBounds i (.int .i64 (L.getD j 0))).size=c):=⟨dinv_keep HD.out.1 (by rw [HN.out];exact hlt) (by rw [HN.out,hcc];exact hLc) hp,by simpa using hcc⟩
     generalize L.getD j 0=x at cj hcl HD2
     clear hg hG hp
     go_wp2_with fail
     refine hcl.mono ?_
     rintro e w2 ⟨rfl,hb2⟩
     have hg2:=(hb2.block g hgl).trans HG.out
     have ci:(w2.cell? ⟨g,i,none⟩).isSome=true:=by
      rw [Lib.cell_of_heap hg2,Array.getElem?_eq_getElem (by omega)]
      rfl
     obtain ⟨old,hold⟩:∃ old,w2.cell? ⟨g,i,none⟩=some old:=Option.isSome_iff_exists.1 ci
     have hfr:w2.frozen? ⟨g,i,none⟩=false:=Lib.frozen_of_heap hg2 i
     have HG2:Hid ((w2.setCell ⟨g,i,none⟩ (.int .i64 x)).heap[g]?=some (.cells (cu.setIfInBounds i (.int .i64 x)) 3 (0,0))):=by
      show _=_
      simp [World.setCell,Array.getElem?_modify,hg2]
     have HGr2:Hid (w.grownBy (w2.setCell ⟨g,i,none⟩ (.int .i64 x)) (some g)):=grown_setRu (grown_transR HGr.out (grown_belowR hb2))
     clear hb2 hg2 hcl ci
     go_wp2_with fail
     go_roundg (n-(j+1))
     case measure=>omega
     case rel=>exact ⟨i+1,j+1,_,by omega,rfl,by go_num,by go_num,HD2,HG2.out,HGr2.out⟩
    ·rw [hp] at hcl
     have HD2:Hid (DInv L p i (j+1) cu∧cu.size=c):=⟨dinv_skip HD.out.1 (by rw [HN.out];exact hlt) hp,hcc⟩
     generalize L.getD j 0=x at cj hcl
     clear hg hG hp
     go_wp2_with fail
     refine hcl.mono ?_
     rintro e w2 ⟨rfl,hb2⟩
     have HG2:Hid (w2.heap[g]?=some (.cells cu 3 (0,0))):=(hb2.block g hgl).trans HG.out
     have HGr2:Hid (w.grownBy w2 (some g)):=grown_transR HGr.out (grown_belowR hb2)
     clear hb2 hcl
     go_wp2_with fail
     go_roundg (n-(j+1))
     case measure=>omega
     case rel=>exact ⟨i,j+1,_,by omega,rfl,rfl,by go_num,HD2,HG2.out,HGr2.out⟩
   ·have hje:j=n:=by omega
    subst hje
    have hii:(i:Int)<(j:Int):=by omega
    have hcl:∀ ty,(Builtin.clear_ #[22] ty #[.slice (some ⟨g,0+i,none⟩) (j-i) (c-i)]).run Tryz.prog wr=.ok (.tuple #[]) (wr.setCells g (0+i) (List.replicate (j-i) (.int .i64 0))) :=
     fun ty=>Lib.run_clear_slice wr _ _ ty _ Tryz.underlying22 Tryz.zeroValue3 rfl rfl g (0+i) _ _ (by omega) (fun t ht=>by rw [Lib.cell_of_heap hg,Array.getElem?_eq_getElem (by omega)];rfl) (fun t _=>Lib.frozen_of_heap hg _)
    have HDn:Hid (DInv L p i j cu∧cu.size=c):=HD
    have hseg:=setCells_rowR g 3 (List.replicate (j-i) (.int .i64 0)) (0+i) cu wr hg (by simp;omega)
    obtain ⟨W,hW⟩:∃ W,wr.setCells g (0+i) (List.replicate (j-i) (Value.int .i64 0))=W:=⟨_,rfl⟩
    have HGW:Hid (w.grownBy W (some g)):=by rw [←hW,hseg];exact grown_transR hG (grown_setRowR wr g _)
    have HTW:Hid (IntT W (some ⟨g,0,none⟩) c (L.filter fun x => !p x)):=by
     have hf:(L.filter fun x => !p x)=(L.take j).filter fun x => !p x:=by rw [List.take_of_length_le (by rw [HN.out];exact Nat.le_refl _)]
     have hWg:W.heap[g]?=some (.cells (cu.toList.take (0+i) ++ List.replicate (j-i) (Value.int .i64 0) ++ cu.toList.drop (0+i+(List.replicate (j-i) (Value.int .i64 0)).length)).toArray 3 (0,0)):=by rw [←hW,hseg];exact setRow_heap wr g cu _ _ _ hg
     refine ⟨by rw [hf,HD.out.1.2.1];omega,hc63,Or.inr ⟨g,_,_,rfl,hWg,fun m hm=>?_⟩⟩
     rw [hf] at hm ⊢
     rw [HD.out.1.2.1] at hm
     rw [Lib.cell_of_heap hWg,←HD.out.1.2.2.1 m hm]
     simp only [List.getElem?_toArray]
     rw [List.append_assoc,List.getElem?_append_left (by simp;omega),List.getElem?_take_of_lt (by omega)]
     simp
    have HFl:Hid ((L.filter fun x => !p x).length=i):=by
     show _=_
     rw [←HD.out.1.2.1,List.take_of_length_le (by rw [HN.out];exact Nat.le_refl _)]
    rw [hW,Nat.zero_add] at hcl
    have hcI:(j:Int)≤(c:Int):=by omega
    clear hg hG hseg hW
    go_wp2
    go_ret
    exact ⟨⟨some ⟨g,0,none⟩,c,by rw [HFl.out];rfl,HTW.out⟩,HGW.out⟩
end Go.Proofs.YtenlladggdcfnaaGreatDoor
namespace Go.Proofs.YtenlladggdcfnaaGreatDoor
open Go.ChangeShapes Go.WideShapes Go.ChangeAt Go.RowKit
open Go.Sort (putRow Holds grow holds_putRow)
set_option maxRecDepth 20000
def NdsT (w:World) (A:Option Addr) (c:Nat) (L:List Nd):Prop:=NdsV w A c L∧(L=[]∨∃ b o cs fr,A=some ⟨b,o,none⟩∧w.heap[b]?=some (.cells cs 172 fr))
theorem NdsT.nil (w:World) (A:Option Addr) (c:Nat) (h:c≤9223372036854775807):NdsT w A c []:=⟨NdsV.nil w A c h,Or.inl rfl⟩
theorem NdsT.keep {w w':World} {A:Option Addr} {c:Nat} {L:List Nd} (h:NdsT w A c L) (hB:∀ (b:Nat) (cs:Array Value) (fr:Nat×Nat),w.heap[b]?=some (Obj.cells cs 172 fr)→w'.heap[b]?=w.heap[b]?):NdsT w' A c L:=by
 obtain ⟨⟨h1,h2,h3⟩,h4⟩:=h
 rcases h4 with h4 | ⟨b,o,cs,fr,hA,hb⟩
 ·exact ⟨⟨h1,h2,Or.inl h4⟩,Or.inl h4⟩
 ·have he:=hB b cs fr hb
  refine ⟨⟨h1,h2,?_⟩,Or.inr ⟨b,o,cs,fr,hA,he.trans hb⟩⟩
  rcases h3 with h3 | ⟨b',o',hA',h5,h6⟩
  ·exact Or.inl h3
  ·rw [hA] at hA'
   cases hA'
   refine Or.inr ⟨b,o,hA,(Array.getElem?_eq_some_iff.1 (he.trans hb)).1,fun k hk=>?_⟩
   obtain ⟨x0,x1,x2,x3,x4⟩:=h6 k hk
   exact ⟨(World.cell?_of_block (a:=⟨b,_,none⟩) he).trans x0,(World.cell?_of_block (a:=⟨b,_,none⟩) he).trans x1,(World.cell?_of_block (a:=⟨b,_,none⟩) he).trans x2,(World.cell?_of_block (a:=⟨b,_,none⟩) he).trans x3,(World.cell?_of_block (a:=⟨b,_,none⟩) he).trans x4⟩
theorem NdsT.later {w w':World} {A:Option Addr} {c:Nat} {L:List Nd} (h:NdsT w A c L) (hB:Below w.heap.size w w'):NdsT w' A c L :=
 h.keep fun b _ _ hb=>hB.block b (Array.getElem?_eq_some_iff.1 hb).1
theorem ndsT_of {w:World} {N:Nat} {A:Option Addr} {c:Nat} {l:List Nd} (h:w.ownsRow N 172 5 (.slice A l.length c) l.length (cellsN l)):NdsT w A c l:=by
 refine ⟨nds_of h,?_⟩
 rcases h.2 with ⟨h0,h1⟩ | ⟨g,cap,cur,h0,hb,hg,-⟩
 ·exact Or.inl (List.eq_nil_of_length_eq_zero h1)
 ·cases h0
  exact Or.inr ⟨g,0,_,_,rfl,hg⟩
def StrT (w:World) (A:Option Addr) (c:Nat) (L:List (List UInt8)):Prop:=StrsV w A c L∧(L=[]∨∃ b o cs fr,A=some ⟨b,o,none⟩∧w.heap[b]?=some (.cells cs 9 fr))
theorem StrT.nil (w:World) (A:Option Addr) (c:Nat) (h:c≤9223372036854775807):StrT w A c []:=⟨StrsV.nil w A c h,Or.inl rfl⟩
theorem put_ty {w:World} {g n:Nat} {d:Array (List UInt8)} {cs:Array Value} {T:Nat} {fr:Nat×Nat} (h:w.heap[g]?=some (.cells cs T fr)):∃ cs' fr',(putRow encStr (Sort.ahead w n) g 0 d).heap[g]?=some (.cells cs' T fr'):=by
 unfold putRow Sort.mapBlock
 have h':(Sort.ahead w n).heap[g]?=some (.cells cs T fr):=h
 simp only [Array.getElem?_modify,if_true,h',Option.map_some]
 exact ⟨_,_,rfl⟩
theorem grown_ty {w:World} {g T:Nat} {os:Array Obj} (h:∃ cs fr,w.heap[g]?=some (.cells cs T fr)):∃ cs fr,(grow w os).heap[g]?=some (.cells cs T fr):=by
 obtain ⟨cs,fr,h⟩:=h
 exact ⟨cs,fr,by rw [Sort.heap_grow_old _ _ (Array.getElem?_eq_some_iff.1 h).1];exact h⟩
set_option maxHeartbeats 1000000 in
theorem ball_typ (N p:Nat) (b:Bld) (w:World) (hN:N≤w.heap.size) (h1:b.nodes.length+opsN b.waiting≤200) (h2:b.ready.length≤200) (h3:opsN b.waiting+1≤b.ready.length) (h4:b.waiting.length≤200) (hB:BldAt N p b w) :
  Calls Tryz.prog 146 #[.pointer (some ⟨p,0,none⟩)] w fun e w'=>(∃ A c,e=.returned (.slice A (settleB 0 b).nodes.length c)∧NdsT w' A c (settleB 0 b).nodes)∧Kept N (fun k=>k=p) w w':=by
 have h:=settle_any N p b 0 w hN h1 h2 h3 h4 hB
 generalize settleB 0 b=b1 at *
 clear hB
 go_enter Tryz.func146,Tryz.ntmps146
 go_wp2_with fail
 refine h.mono ?_
 rintro e w1 ⟨rfl,⟨AN,cN,AR,cR,AW,cW,hV⟩,hK⟩
 have c0:=hV.c0
 have HN:Hid (NdsT w1 AN cN b1.nodes):=ndsT_of hV.nod
 have HK:Hid (Kept N (fun k=>k=p) w w1):=hK
 clear hV hK h
 go_wp2_with fail
 go_ret
 exact ⟨⟨_,_,rfl,HN.out⟩,HK.out⟩
set_option maxHeartbeats 4000000 in
theorem fparse_typ (s:ByteArray) (w:World) (h100:s.size≤100):Calls Tryz.prog 134 #[.string s] w fun e w'=>(∃ A c,e=.returned (.tuple #[.slice A (prsL s).length c,.int .i64 (prsA s:Int),errV (prsE s)])∧NdsT w' A c (prsL s))∧Below w.heap.size w w':=by
 have hmf:∀ (fn:Fn) (first cap:Array Value) (w:World),(Instr.makeFunc fn first cap).run Tryz.prog w=.ok (.func fn first cap) w:=fun _ _ _ _=>rfl
 have h100':(s.size:Int)≤100:=by omega
 have HAt:Hid ((goneB s).1.at'≤s.size):=all_in _ (Nat.zero_le _)
 have hrd:=fread_any (tkB (w.heap.size+4) w.heap.size) (tkB_ok _ _) s noB (newB w) (by show s.size≤100;exact h100) (by rw [newB_size];rfl) (by rw [newB_size];exact Nat.lt_succ_self _) (newB_at w) fit_new (goneB s) rfl
 have HB:Hid (Below w.heap.size w (newB w)):=newB_below w
 obtain ⟨W,hW⟩:∃ W,newB w=W:=⟨_,rfl⟩
 have HZ:Hid ((newB w).heap.size=w.heap.size+1):=newB_size w
 rw [hW] at hrd HB HZ
 unfold newB at hW
 have hfv:(tkB (w.heap.size+4) w.heap.size).fv=.func (.func 143) #[.pointer (some ⟨w.heap.size,0,none⟩)] #[]:=rfl
 rw [hfv] at hrd
 have HI:Hid (∀ st w',(tkB (w.heap.size+4) w.heap.size).I st w'→BldAt (w.heap.size+4) w.heap.size st w'):=fun _ _ h=>h
 have HG:Hid (∀ a o ph st,(tkB (w.heap.size+4) w.heap.size).G a o ph st→FitB a o ph st):=fun _ _ _ _ h=>h
 have HP:Hid ((tkB (w.heap.size+4) w.heap.size).p=w.heap.size∧(tkB (w.heap.size+4) w.heap.size).N=w.heap.size+4):=⟨rfl,rfl⟩
 generalize tkB (w.heap.size+4) w.heap.size=T at *
 cases hx:(goneB s).2
 ·have hE:prsE s=2:=by unfold prsE;rw [if_neg (by omega),if_neg (by rw [hx];decide)]
  have hA:prsA s=(goneB s).1.at':=by unfold prsA;rw [if_neg (by omega),if_neg (by rw [hx];decide)]
  have hL:prsL s=[]:=by unfold prsL;rw [if_neg (by rw [hE];decide)]
  rw [hE,hA,hL,errV_some (by decide)]
  have HX:Hid ((goneB s).2=false):=hx
  clear hE hA hL hx
  go_enter Tryz.func134,Tryz.ntmps134
  go_wp2_with fail
  refine hrd.mono ?_
  rintro e w1 ⟨⟨hk,-⟩,⟨h1,-⟩ | ⟨-,rfl⟩⟩
  ·exact absurd (HX.out.symm.trans h1) (by decide)
  have HB1:Hid (Below w.heap.size w w1):=below_of_kept HB.out hk (by rw [HP.out.1];exact Nat.le_refl _)
  rw [errV_some (by decide)]
  clear hk hrd
  go_wp2_with fail
  go_returns
  exact ⟨⟨none,0,rfl,NdsT.nil _ _ _ (by omega)⟩,HB1.out⟩
 ·have hE:prsE s=formErr (nodesP s):=by unfold prsE;rw [if_neg (by omega),if_pos hx]
  have hA:prsA s=0:=by unfold prsA;rw [if_neg (by omega),if_pos hx]
  have HX:Hid ((goneB s).2=true):=hx
  have HE:Hid (prsE s=formErr (nodesP s)):=hE
  have HLd:Hid (prsL s=if prsE s=0 then nodesP s else []):=rfl
  have HNd:Hid (nodesP s=(settleB 0 (goneB s).1.st).nodes):=rfl
  rw [hE,hA]
  clear hE hA hx
  go_enter Tryz.func134,Tryz.ntmps134
  go_wp2_with fail
  refine hrd.mono ?_
  rintro e w1 ⟨⟨hk,hz1⟩,⟨-,rfl,hI,hG⟩ | ⟨h1,-⟩⟩
  case inr=>exact absurd (HX.out.symm.trans h1) (by decide)
  have HB1:Hid (Below w.heap.size w w1):=below_of_kept HB.out hk (by rw [HP.out.1];exact Nat.le_refl _)
  obtain ⟨f1,f2,f3,f4,f5⟩:=HG.out _ _ _ _ hG
  simp only [if_true] at f2
  rw [HP.out.2] at hz1
  have hat:(goneB s).1.at'≤200:=by have:=HAt.out;omega
  have hal:=ball_typ (w.heap.size+4) w.heap.size (goneB s).1.st w1 hz1 (by omega) (by omega) f2 (by omega) (HI.out _ _ hI)
  clear hk hrd hI hG f1 f2 f3 f4 f5
  rw [←HNd.out] at hal
  obtain ⟨L,hLn⟩:∃ L,nodesP s=L:=⟨_,rfl⟩
  have HLn:Hid (nodesP s=L):=hLn
  rw [hLn] at hal HE HLd
  clear hLn
  go_wp2_with fail
  refine hal.mono ?_
  rintro e w2 ⟨⟨A,c,rfl,hN2⟩,hk2⟩
  have HB2:Hid (Below w.heap.size w w2):=⟨hk2.os.trans HB1.out.os,hk2.tape.trans HB1.out.tape,hk2.output.trans HB1.out.output,Nat.le_trans HB1.out.size hk2.size,fun k hk'=>by rw [hk2.block k (by omega) (by omega)];exact HB1.out.block k hk'⟩
  have HN2:Hid (NdsT w2 A c L):=hN2
  have hck:=fchk_any A c L w2 hN2.1
  clear hk2 hN2 hal
  by_cases h0:formErr L=0
  ·have HL:Hid (prsL s=L):=by show _=_;rw [HLd.out,HE.out,if_pos h0]
   rw [h0,errV_zero] at hck
   have HF:Hid (formErr L=0):=h0
   clear h0
   go_wp2_with fail
   refine hck.mono ?_
   rintro e w3 ⟨rfl,hb3⟩
   have HB3:Hid (Below w.heap.size w w3):=onB HB2.out hb3
   have HN3:Hid (NdsT w3 A c L):=HN2.out.later hb3
   clear hb3 hck
   go_wp2_with fail
   go_returns
   exact ⟨⟨A,c,by rw [HL.out,HLn.out,HF.out];rfl,by rw [HL.out];exact HN3.out⟩,HB3.out⟩
  ·have HL:Hid (prsL s=[]):=by show _=_;rw [HLd.out,HE.out,if_neg h0]
   rw [errV_some h0] at hck
   have HF:Hid (errV (formErr L)=.iface 46 (.int .i64 (formErr L))):=errV_some h0
   clear h0
   go_wp2_with fail
   refine hck.mono ?_
   rintro e w3 ⟨rfl,hb3⟩
   have HB3:Hid (Below w.heap.size w w3):=onB HB2.out hb3
   clear hb3 hck
   go_wp2_with fail
   go_returns
   exact ⟨⟨none,0,by rw [HL.out,HLn.out,HF.out];rfl,by rw [HL.out];exact NdsT.nil _ _ _ (by omega)⟩,HB3.out⟩
set_option maxHeartbeats 4000000 in
theorem frefs_typ (A:Option Addr) (cap:Nat) (l:List Nd) (w:World) (hN:NdsV w A cap l):Calls Tryz.prog 135 #[.slice A l.length cap] w fun e w'=>(∃ A' c',e=.returned (.tuple #[.slice A' (refsP l).length c',errV (formErr l)])∧StrT w' A' c' (refsP l))∧Below w.heap.size w w':=by
 have hck:=fchk_any A cap l w hN
 obtain ⟨i0,hi0,hz0,hz1,hz2⟩:=info_parts Tryz.infoStrF
 by_cases h0:formErr l=0
 case neg =>
  have hP:refsP l=[]:=by unfold refsP;rw [if_neg h0]
  rw [hP]
  rw [errV_some h0] at hck ⊢
  clear h0 hP
  go_enter Tryz.func135,Tryz.ntmps135
  go_wp2_with fail
  refine hck.mono ?_
  rintro e w1 ⟨rfl,hb1⟩
  go_wp2_with fail
  go_returns
  exact ⟨⟨none,0,rfl,StrT.nil _ _ _ (by omega)⟩,hb1⟩
 obtain ⟨hl0,hl30,hg,-⟩:=form_right h0
 have hP:refsP l=Lib.compact ((nmsTo l l.length).mergeSort fun x y=>decide (x≤y)):=by unfold refsP;rw [if_pos h0]
 rw [h0,errV_zero] at hck ⊢
 obtain ⟨-,-,h1 | ⟨b,o,rfl,hN⟩⟩:=hN
 ·rw [h1] at hl0;simp at hl0
 have HG:Hid (∀ j,j<l.length→ndErr (l.getD j noN) j=0):=hg
 have HN:Hid (NdsAt w b o l):=hN
 have HP:Hid (refsP l=Lib.compact ((nmsTo l l.length).mergeSort fun x y=>decide (x≤y))):=hP
 obtain ⟨n,hn⟩:∃ n,l.length=n:=⟨_,rfl⟩
 have HL:Hid (l.length=n):=hn
 rw [hn] at hck ⊢
 have hni:(n:Int)≤30:=by omega
 clear h0 hP hg hN
 go_enter Tryz.func135,Tryz.ntmps135
 go_wp2_with fail
 refine hck.mono ?_
 rintro e w1 ⟨rfl,hb1⟩
 have HB1:Hid (Below w.heap.size w w1):=hb1
 clear hb1 hck
 go_wp2_with fail
 go_loopg [5,15] n (fun g s5 s15 wr => ∃ (k:Nat) (v:Value),k≤n∧g=n-k∧s15=.int .i64 k∧v=s5∧wr.ownsRow w.heap.size 9 1 v (nmsTo l k).length ((nmsTo l k).map encStr)∧Below w.heap.size w wr)
 case atStart=>exact ⟨0,_,Nat.zero_le _,rfl,rfl,rfl,World.ownsRow_nil _ _ _ _,HB1.out⟩
 case round =>
  obtain ⟨k,v,hk,rfl,rfl,rfl,hO,hBw⟩:=hrel
  have HO:Hid (wr.ownsRow w.heap.size 9 1 v (nmsTo l k).length ((nmsTo l k).map encStr)):=hO
  have HW:Hid (Below w.heap.size w wr):=hBw
  have hln:=nms_len l k
  clear hO hBw
  by_cases hlt:k<n
  ·have hki:(k:Int)<(n:Int):=by omega
   obtain ⟨x0,x1,x2,x3,x4⟩:=(HN.out.later HW.out).nd (k:=k) (by omega)
   have hbl:b<w.heap.size:=HN.out.1
   have hsz:=HW.out.size
   have hgk:=HG.out k (by omega)
   obtain ⟨x,hx⟩:∃ x,l.getD k noN=x:=⟨_,rfl⟩
   have HX:Hid (l.getD k noN=x):=hx
   rw [hx] at x0 x1 x2 x3 x4 hgk
   clear hx
   obtain ⟨m,hm⟩:∃ m,(nmsTo l k).length=m:=⟨_,rfl⟩
   by_cases h2:x.op=2
   ·have HT:Hid (nmsTo l (k+1)=nmsTo l k ++ [x.name.data.toList]):=nms_hit (by omega) HX.out h2
    have hnm:nameErr x.name=0:=by
     unfold ndErr at hgk
     rw [if_neg (by omega),if_neg (by omega),if_pos h2] at hgk
     split at hgk
     ·cases hgk
     ·rename_i h;simpa using h
    have hns:x.name.size≤8:=by
     unfold nameErr at hnm
     split at hnm
     ·cases hnm
     ·omega
    have hcl:=fun w=>sclone_any x.name w (by omega)
    rw [h2] at x0
    rw [hm] at HO
    clear hgk hnm
    go_wp2_with fail
    refine (hcl _).mono ?_
    rintro e w2 ⟨rfl,hb2⟩
    have HB2:Hid (Below w.heap.size w w2):=onB HW.out (onB (by go_grown) hb2)
    have hO2:=own_later HO.out (onB (by go_grown) hb2)
    have hsz2:=HB2.out.size
    clear hb2 hcl
    go_wp2_with (at_builtin;refine wpList_append_own _ rfl _ _ 194 rfl w.heap.size 9 i0 (.string ⟨#[]⟩) 1 16 Tryz.underlying194 hi0 hz0 hz1 hz2 rfl (by decide) _ _ _ rfl (hO2.alloc _) ⟨w2.heap.size,0,none⟩ 1 1 [.string x.name] rfl rfl one_cell (by intro u hu;simp at hu;subst hu;rfl) (by unfold maxLen;omega) (by omega) (by simp;omega) ?_)
    intro v' w3 hown' hgrow _
    have HB3:Hid (Below w.heap.size w w3):=grown_own HB2.out hO2 hgrow
    have HO3:Hid (w3.ownsRow w.heap.size 9 1 v' (nmsTo l (k+1)).length ((nmsTo l (k+1)).map encStr)):=by
     show World.ownsRow ..
     rw [HT.out,List.length_append,List.map_append,hm]
     exact hown'
    clear hown' hgrow hO2
    go_wp2_with fail
    go_roundg (n-(k+1))
    case measure=>omega
    case rel=>exact ⟨k+1,_,by omega,rfl,by go_num,rfl,HO3.out,HB3.out⟩
   ·have HT:Hid (nmsTo l (k+1)=nmsTo l k):=nms_miss (by omega) HX.out h2
    have e2:(x.op == 2)=false:=by simpa using h2
    clear hgk h2
    go_wp2_with fail
    go_roundg (n-(k+1))
    case measure=>omega
    case rel=>exact ⟨k+1,_,by omega,rfl,by go_num,rfl,by rw [HT.out];exact own_later HO.out (by go_grown),onB HW.out (by go_grown)⟩
  ·have hke:k=n:=by omega
   subst hke
   obtain ⟨zs,hzs⟩:∃ zs,nmsTo l k=zs:=⟨_,rfl⟩
   have HZ:Hid (refsP l=Lib.compact (zs.mergeSort fun x y=>decide (x≤y))):=by show _=_;rw [HP.out,HL.out,hzs]
   rw [hzs] at HO hln
   clear hzs
   by_cases hz:zs=[]
   ·subst hz
    have hv:v=.slice none 0 0∨∃ g c,v=.slice (some ⟨g,0,none⟩) 0 c∧c≤maxLen:=by
     rcases HO.out.2 with ⟨h,_⟩ | ⟨g,c,cur,h,_,_,_,hm,_⟩
     ·exact Or.inl h
     ·exact Or.inr ⟨g,c,h,hm⟩
    have HZ2:Hid (refsP l=[]):=by show _=_;rw [HZ.out,List.mergeSort_nil];rfl
    rcases hv with rfl | ⟨g,c,rfl,hcm⟩
    ·have hso:=Any.slices_Sort_string_none Tryz.lays190 none 0 wr
     have hco:=Any.slices_Compact_string_empty Tryz.lays194 none 0 wr
     clear HO
     go_wp2_with fail
     refine Calls.mono hso ?_
     rintro e w2 ⟨rfl,rfl⟩
     go_wp2_with fail
     refine Calls.mono hco ?_
     rintro e w3 ⟨rfl,rfl⟩
     go_wp2_with fail
     go_returns
     exact ⟨⟨none,0,by rw [HZ2.out];rfl,by rw [HZ2.out];exact StrT.nil _ _ _ (by omega)⟩,HW.out⟩
    ·have hso:=Any.slices_Sort_string_none Tryz.lays190 (some ⟨g,0,none⟩) c wr
     have hco:=Any.slices_Compact_string_empty Tryz.lays194 (some ⟨g,0,none⟩) c wr
     clear HO
     go_wp2_with fail
     refine Calls.mono hso ?_
     rintro e w2 ⟨rfl,rfl⟩
     go_wp2_with fail
     refine Calls.mono hco ?_
     rintro e w3 ⟨rfl,rfl⟩
     go_wp2_with fail
     go_returns
     exact ⟨⟨some ⟨g,0,none⟩,c,by rw [HZ2.out];rfl,by rw [HZ2.out];exact StrT.nil _ _ _ (by unfold maxLen at hcm;omega)⟩,HW.out⟩
   ·have hpos:0<zs.length:=List.length_pos_iff.2 hz
    obtain ⟨g,c,rfl,hgb,hgl,hnc,hcm,-,hH⟩:=Lib.holds_of_ownsRow HO.out (by intro e;have:=HO.out.2;rcases this with ⟨_,h⟩ | ⟨g,c,cur,h,_⟩;omega;rw [e] at h;cases h)
    have HTy:Hid (∃ cs fr,wr.heap[g]?=some (.cells cs 9 fr)):=by
     rcases HO.out.2 with ⟨h,-⟩ | ⟨g',c',cur,h,-,hg',-⟩
     ·cases h
     ·cases h;exact ⟨_,_,hg'⟩
    have hso:=Any.slices_Sort_string Tryz.lays190 g 0 c zs wr hH hgl (by omega)
    clear HO
    go_wp2_with fail
    refine Calls.mono hso ?_
    rintro e w2 ⟨rfl,q,os,hw2⟩
    obtain ⟨ys,hys⟩:∃ ys,(zs.mergeSort fun x y=>decide (x≤y))=ys:=⟨_,rfl⟩
    have hyl:ys.length=zs.length:=by rw [←hys];exact List.length_mergeSort zs
    rw [hys] at HZ hw2
    have HB2:Hid (Below w.heap.size w w2):=by rw [hw2];exact sorted_below HW.out hgb
    have hg2:g<w2.heap.size:=by rw [hw2];simp;omega
    have hH2:Holds encStr w2 g 0 ys.toArray:=by
     rw [hw2]
     exact Sort.holds_grow encStr _ _ _ _ _ (by simpa using hgl) (holds_putRow encStr (Sort.ahead wr q) g 0 zs.toArray _ hH (by simp [hyl]))
    have hco:=Any.slices_Compact_string Tryz.lays194 g 0 c ys w2 hH2 (by omega) (by omega)
    rw [hyl] at hco
    have HT2:Hid (∃ cs fr,w2.heap[g]?=some (.cells cs 9 fr)):=by
     obtain ⟨cs,fr,hty⟩:=HTy.out
     rw [hw2]
     exact grown_ty (put_ty (n:=q) hty)
    have HPk:Hid (∀ q2,StrsV (putRow encStr (Sort.ahead w2 q2) g 0 (Lib.compact ys ++ List.replicate (ys.length-(Lib.compact ys).length) []).toArray) (some ⟨g,0,none⟩) c (Lib.compact ys)):=fun q2=>packed_strs hH2 (by omega) hcm hg2
    rw [hyl] at HPk
    clear hw2 hys hso hH hH2
    go_wp2_with fail
    refine Calls.mono hco ?_
    rintro e w3 ⟨rfl,q2,hw3⟩
    have HB3:Hid (Below w.heap.size w w3):=by rw [hw3];exact packed_below HB2.out hgb
    have HS3:Hid (StrT w3 (some ⟨g,0,none⟩) c (Lib.compact ys)):=by
     rw [hw3]
     obtain ⟨cs,fr,hty⟩:=HT2.out
     obtain ⟨cs',fr',hty'⟩:=put_ty (n:=q2) hty
     exact ⟨HPk.out q2,Or.inr ⟨g,0,_,_,rfl,hty'⟩⟩
    clear hw3 hco HPk
    go_wp2_with fail
    go_returns
    exact ⟨⟨some ⟨g,0,none⟩,c,by rw [HZ.out];rfl,by rw [HZ.out];exact HS3.out⟩,HB3.out⟩
theorem fparse_v (s:ByteArray) (w:World) (h100:s.size≤100):Calls Tryz.prog 134 #[.string s] w fun e w'=>(∃ A c,e=.returned (.tuple #[.slice A (prsL s).length c,.int .i64 (prsA s:Int),errV (prsE s)])∧NdsV w' A c (prsL s))∧Below w.heap.size w w' :=
 (fparse_typ s w h100).mono fun _ _ ⟨⟨A,c,h1,h2⟩,h3⟩=>⟨⟨A,c,h1,h2.1⟩,h3⟩
theorem frefs_v (A:Option Addr) (cap:Nat) (l:List Nd) (w:World) (hN:NdsV w A cap l):Calls Tryz.prog 135 #[.slice A l.length cap] w fun e w'=>(∃ A' c',e=.returned (.tuple #[.slice A' (refsP l).length c',errV (formErr l)])∧StrsV w' A' c' (refsP l))∧Below w.heap.size w w' :=
 (frefs_typ A cap l w hN).mono fun _ _ ⟨⟨A',c',h1,h2⟩,h3⟩=>⟨⟨A',c',h1,h2.1⟩,h3⟩
end Go.Proofs.YtenlladggdcfnaaGreatDoor
