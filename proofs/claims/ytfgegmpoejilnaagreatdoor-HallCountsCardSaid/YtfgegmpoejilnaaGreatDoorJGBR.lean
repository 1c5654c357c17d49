/-
  Edits of a hall (plain): cells in which edits are written at their places, and those that are dirty then reckoned anew, each behind those that it needs, are all cells of what is written then; and so many are reckoned as are dirty.
-/
import Derived.Test.YtfgegmpoejilnaaGreatDoorJGBI
import Derived.Test.YtfgegmpoejilnaaGreatDoorJGBP
namespace Go.Proofs.YtfgegmpoejilnaaGreatDoor
open Go.ChangeShapes Go.WideShapes Go.ChangeAt Go.RowKit
set_option maxRecDepth 20000
def wrC (x:Ed):Int×Int:=if x.clear=true then (0,0) else ofP x.n
def wrE (D:Nat→Dm) (n:Nat) (L:List (Int×Int)) (x:Ed):List (Int×Int):=L.set (numI D x.pl n).toNat (wrC x)
def wrTo (D:Nat→Dm) (n:Nat) (L:List (Int×Int)) (Y:List Ed) (k:Nat):List (Int×Int):=(Y.take k).foldl (wrE D n) L
theorem wrTo_succ (D:Nat→Dm) (n:Nat) (L:List (Int×Int)) (Y:List Ed) {k:Nat} (hk:k<Y.length):wrTo D n L Y (k+1)=wrE D n (wrTo D n L Y k) (Y.getD k noEd):=by
 unfold wrTo
 rw [List.take_succ_eq_append_getElem hk,List.foldl_append,List.getD_eq_getElem?_getD,List.getElem?_eq_getElem hk]
 rfl
theorem wrTo_len (D:Nat→Dm) (n:Nat) (L:List (Int×Int)) (Y:List Ed):∀ k,k≤Y.length→(wrTo D n L Y k).length=L.length
 | 0,_=>rfl
 | k+1,h=>by rw [wrTo_succ D n L Y (by omega),wrE,List.length_set,wrTo_len D n L Y k (by omega)]
theorem nod_len:∀ (A B:List Int),A.Nodup→(∀ x∈A,x∈B)→A.length≤B.length
 | [],_,_,_=>Nat.zero_le _
 | a :: r,B,hA,h=>by
  obtain ⟨h1,h2⟩:=List.nodup_cons.1 hA
  have hb:=h a (List.mem_cons_self ..)
  have hp:0<B.length:=List.length_pos_of_mem hb
  have:=nod_len r (B.erase a) h2 fun x hx=>(List.mem_erase_of_ne (fun e=>h1 (by rw [←e];exact hx))).2 (h x (List.mem_cons_of_mem _ hx))
  rw [List.length_erase_of_mem hb] at this
  rw [List.length_cons]
  omega
section
variable {D:Nat→Dm} {n:Nat}
theorem edit_leaf {l:List En} {x:Ed} (hl:Ens D n l) (h:editErr D n l x=0):shapeErr D n x.pl=0∧leafV D n x.pl=true∧(x.clear=true→hasE l x.pl=true)∧(x.clear=false→numOk x.n=true):=by
 unfold editErr at h
 split at h
 ·rename_i h1;exact absurd h h1
 rename_i h1
 refine ⟨by simpa using h1,?_⟩
 split at h
 ·rename_i h2
  split at h
  ·rename_i h3
   obtain ⟨-,h4,h5⟩:=set_old h3 0
   have hm:l.getD (cntE l x.pl) noEn∈l:=by rw [List.getD_eq_getElem?_getD,List.getElem?_eq_getElem h4];exact List.getElem_mem h4
   have:=(hl.each _ hm).2.1
   rw [h5] at this
   exact ⟨this,fun _=>h3,fun e=>by rw [h2] at e;cases e⟩
  ·cases h
 ·rename_i h2
  split at h
  ·cases h
  ·rename_i h3
   split at h
   ·cases h
   ·rename_i h4
    exact ⟨by simpa using h3,fun e=>absurd e h2,fun _=>by simpa using h4⟩
theorem edit_get {l:List En} {x:Ed} (hl:Ens D n l) (h:editErr D n l x=0) (q:List Int):getE (editV l x) q=if q=x.pl then wrC x else getE l q:=by
 obtain ⟨-,-,h3,h4⟩:=edit_leaf hl h
 unfold editV wrC
 by_cases hc:x.clear=true
 ·rw [if_pos hc,if_pos hc]
  by_cases e:q=x.pl
  ·rw [if_pos e,e]
   exact (hl.gone (h3 hc)).1
  ·rw [if_neg e]
   obtain ⟨g1,g2,-⟩:=clr_parts hl.rise x.pl (h3 hc)
   refine get_same g1 hl.rise fun y hy=>?_
   rw [g2]
   exact ⟨fun h=>h.1,fun h=>⟨h,by rw [hy];exact e⟩⟩
 ·rw [if_neg hc,if_neg hc]
  by_cases e:q=x.pl
  ·rw [if_pos e,e,(hl.there _ _).1]
   have:=h4 (by simpa using hc)
   unfold numOk at this
   simp only [Bool.and_eq_true,decide_eq_true_eq] at this
   unfold ofP
   rw [if_pos ⟨by omega,by omega⟩]
  ·rw [if_neg e]
   exact hl.else e _
theorem place_ne {j:Nat} {p:List Int} (hI:InO D n p) (hj:j<prodN D n) (h:j≠(numI D p n).toNat):placeL D n j≠p:=fun e=>h (by
 have:=num_place hI.right hj
 rw [e] at this
 omega)
def WrS (D:Nat→Dm) (n:Nat) (l l':List En) (L:List (Int×Int)):Prop:=L.length=prodN D n∧∀ j:Nat,j<prodN D n→(byTo D (placeL D n j) n<0→L.getD j noC=getE l' (placeL D n j))∧(¬ byTo D (placeL D n j) n<0→L.getD j noC=solV D n (getE l) (placeL D n j))
theorem WrS.start {l:List En} (hr:(ruErr D n).2.2=0) (hl:Ens D n l):WrS D n l l (caL D n l):=by
 refine ⟨caL_len (cu_right hr hl),fun j hj=>⟨fun h=>?_,fun _=>caL_at (cu_right hr hl) hj⟩⟩
 rw [caL_at (cu_right hr hl) hj,sol_leaf _ h]
theorem WrS.step {l l':List En} {L:List (Int×Int)} {x:Ed} (h:WrS D n l l' L) (hl:Ens D n l') (hx:editErr D n l' x=0):WrS D n l (editV l' x) (wrE D n L x):=by
 obtain ⟨h1,h2,-,-⟩:=edit_leaf hl hx
 have hI:=(hl.edit hx).1
 have hby:byTo D x.pl n = -1:=by
  have:=leaf_by (D:=D) (n:=n) hI.ok
  rw [h2] at this
  simpa using this.symm
 have hbd:=numI_bound hI (Nat.le_refl n)
 refine ⟨by rw [wrE,List.length_set];exact h.1,fun j hj=>?_⟩
 by_cases e:j=(numI D x.pl n).toNat
 ·have hp:placeL D n j=x.pl:=by rw [e];exact place_num hI
  rw [hp]
  refine ⟨fun _=>?_,fun hn=>absurd (by rw [hby];decide) hn⟩
  rw [edit_get hl hx,if_pos rfl,wrE,List.getD_eq_getElem?_getD,e,List.getElem?_set_self (by rw [h.1];omega)]
  rfl
 ·have hne:=place_ne hI hj e
  rw [edit_get hl hx,if_neg hne,wrE,List.getD_eq_getElem?_getD,List.getElem?_set_ne (fun h'=>e h'.symm),←List.getD_eq_getElem?_getD]
  exact h.2 j hj
theorem wr_all {l:List En} {Y:List Ed} (hr:(ruErr D n).2.2=0) (hl:Ens D n l) (h:doE D n l Y=0):∀ k,k≤Y.length→WrS D n l (edTo l Y k) (wrTo D n (caL D n l) Y k)
 | 0,_=>WrS.start hr hl
 | k+1,hk=>by
  obtain ⟨-,-,h3⟩:=do_all hl h
  rw [wrTo_succ _ _ _ _ (by omega),edTo_succ _ _ (by omega)]
  exact (wr_all hr hl h k (by omega)).step (h3 k (by omega)).2 (h3 k (by omega)).1
def numsY (D:Nat→Dm) (n:Nat) (Y:List Ed):List Int:=Y.map fun x=>numI D x.pl n
theorem num_mem {Y:List Ed} {k:Nat} (hk:k<Y.length):numI D (Y.getD k noEd).pl n∈numsY D n Y:=List.mem_map.2 ⟨Y.getD k noEd,by rw [List.getD_eq_getElem?_getD,List.getElem?_eq_getElem hk];exact List.getElem_mem hk,rfl⟩
theorem clean_all {l:List En} {Y:List Ed} (hr:(ruErr D n).2.2=0) (hl:Ens D n l) (h:doE D n l Y=0) {i:Nat} (hi:i<prodN D n) (hd:(i:Int)∉drtL D n (numsY D n Y)):∀ k,k≤Y.length→solV D n (getE (edTo l Y k)) (placeL D n i)=solV D n (getE l) (placeL D n i)
 | 0,_=>rfl
 | k+1,hk=>by
  obtain ⟨hE,hR⟩:=ru_right hr
  obtain ⟨-,-,h3⟩:=do_all hl h
  obtain ⟨h4,h5⟩:=h3 k (by omega)
  have hI:=(h5.edit h4).1
  have hbd:=numI_bound hI (Nat.le_refl n)
  rw [←clean_all hr hl h hi hd k (by omega),edTo_succ _ _ (by omega)]
  refine sol_clean hR hE (m:=(numI D (Y.getD k noEd).pl n).toNat) (fun j hj hne=>?_) _ i hi (Nat.lt_succ_self _) fun hn=>hd ?_
  ·rw [edit_get h5 h4,if_neg (place_ne hI hj hne)]
  ·unfold drtL
   rw [sel_iff hi,dirB_iff]
   exact ⟨_,by rw [Int.toNat_of_nonneg hbd.1];exact num_mem (by omega),hn⟩
def AgS (D:Nat→Dm) (n:Nat) (l':List En) (DR O:List Int) (k:Nat) (L:List (Int×Int)):Prop:=L.length=prodN D n∧∀ j:Nat,j<prodN D n→(byTo D (placeL D n j) n<0→L.getD j noC=getE l' (placeL D n j))∧((j:Int)∈O.take k∨(j:Int)∉DR→L.getD j noC=solV D n (getE l') (placeL D n j))
theorem ags_start {l:List En} {Y:List Ed} (hr:(ruErr D n).2.2=0) (hl:Ens D n l) (h:doE D n l Y=0) (O:List Int):AgS D n (doL D n l Y) (drtL D n (numsY D n Y)) O 0 (wrTo D n (caL D n l) Y Y.length):=by
 obtain ⟨-,h2,-⟩:=do_all hl h
 have hw:=wr_all hr hl h Y.length (Nat.le_refl _)
 rw [h2]
 refine ⟨hw.1,fun j hj=>⟨(hw.2 j hj).1,fun hd=>?_⟩⟩
 have hd':(j:Int)∉drtL D n (numsY D n Y):=hd.resolve_left (by simp)
 by_cases hb:byTo D (placeL D n j) n<0
 ·rw [(hw.2 j hj).1 hb,sol_leaf _ hb]
 ·rw [(hw.2 j hj).2 hb,clean_all hr hl h hj hd' _ (Nat.le_refl _)]
theorem ags_step {l':List En} {DR:List Int} {k:Nat} {L:List (Int×Int)} (hr:(ruErr D n).2.2=0) (hl:Ens D n l') (hk:k<prodN D n) (h:AgS D n l' DR (coL D n) k L):∃ m:Nat,(coL D n).getD k 0=(m:Int)∧m<prodN D n∧(∀ z∈ndsX D n m,goodC (L.getD z.toNat noC))∧AgS D n l' DR (coL D n) (k+1) (L.set m (tlV D n L m))∧(inB DR (m:Int)=false→AgS D n l' DR (coL D n) (k+1) L)∧(coL D n).take (k+1)=(coL D n).take k ++ [(m:Int)]:=by
 obtain ⟨hE,hR⟩:=ru_right hr
 obtain ⟨m,h1,h2,h3,h4,h5⟩:=ord_at (rows_inn hR hE) (rows_acyc hR hE) (k:=k) (by rw [rows_len];exact hk)
 have hO:ordTo (rowsL D n) (prodN D n)=coL D n:=by unfold coL;rw [if_pos hr]
 rw [rows_len,hO] at h1 h3 h4 h5
 rw [rows_len] at h2
 have hnds:∀ z∈ndsX D n m,∃ y:Nat,z=(y:Int)∧y<prodN D n∧(y:Int)∈(coL D n).take k:=fun z hz=>by
  obtain ⟨y,rfl,hy⟩:=nds_in hR hE h2 z hz
  refine ⟨y,rfl,hy,h4 _ ?_⟩
  have ht:=nds_told hR hE h2
  rw [rows_at h2,←told_eq hR hE ht,(List.mergeSort_perm _ _).mem_iff]
  exact hz
 have hL1:∀ z∈ndsX D n m,L.getD z.toNat noC=solV D n (getE l') (placeL D n z.toNat):=fun z hz=>by
  obtain ⟨y,rfl,hy,hyO⟩:=hnds z hz
  rw [Int.toNat_natCast]
  exact (h.2 y hy).2 (Or.inl hyO)
 have htl:=tl_sol hR hE h2 (fun hb=>(h.2 m h2).1 hb) hL1
 have hcut:∀ j:Nat,j≠m→((j:Int)∈(coL D n).take (k+1)↔(j:Int)∈(coL D n).take k):=fun j e=>by
  rw [h5,List.mem_append,List.mem_singleton]
  exact ⟨fun h=>h.resolve_right (by omega),Or.inl⟩
 refine ⟨m,h1,h2,fun z hz=>?_,⟨by rw [List.length_set];exact h.1,fun j hj=>?_⟩,fun hd=>⟨h.1,fun j hj=>⟨(h.2 j hj).1,fun hj2=>?_⟩⟩,h5⟩
 ·rw [hL1 z hz]
  exact good_sol hR (good_getE hl) _ _ (placeL_in hE) (Nat.lt_succ_self _)
 ·by_cases e:j=m
  ·subst e
   rw [List.getD_eq_getElem?_getD,List.getElem?_set_self (by rw [h.1];exact hj)]
   exact ⟨fun hb=>by rw [Option.getD_some,htl,sol_leaf _ hb],fun _=>htl⟩
  ·rw [List.getD_eq_getElem?_getD,List.getElem?_set_ne (fun h=>e h.symm),←List.getD_eq_getElem?_getD,hcut j e]
   exact h.2 j hj
 ·by_cases e:j=m
  ·subst e
   exact (h.2 j hj).2 (Or.inr (by unfold inB at hd;rwa [decide_eq_false_iff_not] at hd))
  ·rw [hcut j e] at hj2
   exact (h.2 j hj).2 hj2
theorem co_len (hr:(ruErr D n).2.2=0):(coL D n).length=prodN D n:=by
 obtain ⟨hE,hR⟩:=ru_right hr
 unfold coL
 rw [if_pos hr]
 exact ord_len (rows_inn hR hE) (rows_acyc hR hE) (prodN D n) (by rw [rows_len];exact Nat.le_refl _)
theorem co_mem (hr:(ruErr D n).2.2=0) {j:Nat} (hj:j<prodN D n):(j:Int)∈coL D n:=by
 have hnd:(coL D n).Nodup∧∀ x∈coL D n,0≤x∧x<((rowsL D n).length:Int):=by unfold coL;rw [if_pos hr];exact ord_in _ _
 refine Classical.byContradiction fun hn=>?_
 have:=few (prodN D n) ((j:Int) :: coL D n) (List.nodup_cons.2 ⟨hn,hnd.1⟩) fun x hx=>by
  rcases List.mem_cons.1 hx with rfl | hx
  ·omega
  ·have:=hnd.2 x hx;rw [rows_len] at this;exact this
 rw [List.length_cons,co_len hr] at this
 omega
theorem ags_end {l':List En} {DR:List Int} {L:List (Int×Int)} (hr:(ruErr D n).2.2=0) (hl:Ens D n l') (h:AgS D n l' DR (coL D n) (prodN D n) L):L=caL D n l' :=
 ca_eq (cu_right hr hl) h.1 fun j hj=>(h.2 j hj).2 (Or.inl (by rw [List.take_of_length_le (by rw [co_len hr];exact Nat.le_refl _)];exact co_mem hr hj))
def cntD (DR O:List Int) (k:Nat):Nat:=((O.take k).filter fun x=>inB DR x).length
theorem cntD_le (DR O:List Int) (k:Nat):cntD DR O k≤k:=Nat.le_trans (List.length_filter_le _ _) (by rw [List.length_take];omega)
theorem cnt_hit {DR O:List Int} {k:Nat} {z:Int} (h:O.take (k+1)=O.take k ++ [z]) (hz:inB DR z=true):cntD DR O (k+1)=cntD DR O k+1:=by unfold cntD;rw [h,List.filter_append];simp [hz]
theorem cnt_miss {DR O:List Int} {k:Nat} {z:Int} (h:O.take (k+1)=O.take k ++ [z]) (hz:inB DR z=false):cntD DR O (k+1)=cntD DR O k:=by unfold cntD;rw [h,List.filter_append];simp [hz]
theorem cnt_end {f:Nat→Bool} (hr:(ruErr D n).2.2=0):cntD (selTo f (prodN D n)) (coL D n) (prodN D n)=(selTo f (prodN D n)).length:=by
 have hnd:(coL D n).Nodup:=by unfold coL;rw [if_pos hr];exact (ord_in _ _).1
 have hns:(selTo f (prodN D n)).Nodup:=(sel_rise f (prodN D n)).imp fun h=>by omega
 unfold cntD
 rw [List.take_of_length_le (by rw [co_len hr];exact Nat.le_refl _)]
 refine Nat.le_antisymm (nod_len _ _ (hnd.filter _) fun x hx=>?_) (nod_len _ _ hns fun x hx=>?_)
 ·have:=(List.mem_filter.1 hx).2
  unfold inB at this
  simpa using this
 ·obtain ⟨m,rfl,hm,-⟩:=selTo_mem x hx
  exact List.mem_filter.2 ⟨co_mem hr hm,by unfold inB;simpa using hx⟩
theorem shD_all:∀ Q:List (List Int),(∀ q∈Q,shapeErr D n q=0)→shTo D n Q=0
 | [],_=>rfl
 | q :: r,h=>by
  unfold shTo
  rw [if_neg (by simpa using h q (List.mem_cons_self ..))]
  exact shD_all r fun x hx=>h x (List.mem_cons_of_mem _ hx)
theorem dirt_right {l:List En} {Y:List Ed} (hr:(ruErr D n).2.2=0) (hl:Ens D n l) (h:doE D n l Y=0):drE D n (Y.map Ed.pl)=0∧ddL D n (Y.map Ed.pl)=drtL D n (numsY D n Y)∧doN D n l Y=(drtL D n (numsY D n Y)).length:=by
 obtain ⟨-,-,h3⟩:=do_all hl h
 have hq:∀ q∈Y.map Ed.pl,shapeErr D n q=0∧leafV D n q=true:=fun q hq=>by
  obtain ⟨x,hx,rfl⟩:=List.mem_map.1 hq
  obtain ⟨k,hk,e⟩:=List.getElem_of_mem hx
  obtain ⟨h4,h5⟩:=h3 k hk
  have e2:Y.getD k noEd=x:=by rw [List.getD_eq_getElem?_getD,List.getElem?_eq_getElem hk,e];rfl
  rw [e2] at h4
  exact ⟨(edit_leaf h5 h4).1,(edit_leaf h5 h4).2.1⟩
 have hz:drTo D n (Y.map Ed.pl)=0:=by
  unfold drTo
  rw [if_neg (by simpa using shD_all _ fun q h=>(hq q h).1),if_neg]
  rw [List.any_eq_true]
  rintro ⟨q,h6,h7⟩
  rw [(hq q h6).2] at h7
  cases h7
 have hz2:drE D n (Y.map Ed.pl)=0:=by unfold drE;rw [if_neg (by simpa using hr)];exact hz
 refine ⟨hz2,?_,by unfold doN;rw [if_pos h];rfl⟩
 unfold ddL drN numsY
 rw [if_pos hz2,List.map_map]
 rfl
end
def plD (ys:List EdL):List PL:=ys.map fun y=>⟨y.x.pl,y.A,y.c⟩
theorem plD_len (ys:List EdL):(plD ys).length=ys.length:=by simp [plD]
theorem plD_lP (ys:List EdL):lP (plD ys)=(lD ys).map Ed.pl:=by simp [lP,plD,lD,Function.comp_def]
theorem plD_take (ys:List EdL) {k:Nat} (hk:k<ys.length):(plD ys).take (k+1)=(plD ys).take k ++ [⟨(ys.getD k noD).x.pl,(ys.getD k noD).A,(ys.getD k noD).c⟩]:=by
 rw [List.take_succ_eq_append_getElem (by rw [plD_len];exact hk)]
 simp [plD,List.getD_eq_getElem?_getD,List.getElem?_eq_getElem hk]
theorem lD_at0 (ys:List EdL) (k:Nat):(lD ys).getD k noEd=(ys.getD k noD).x:=by
 unfold lD
 rw [List.getD_eq_getElem?_getD,List.getD_eq_getElem?_getD,List.getElem?_map]
 cases ys[k]? <;> rfl
theorem setC2_off {w:World} {g x q:Nat} (h:q≠g) (a b:Value):((w.setCell ⟨g,x,none⟩ a).setCell ⟨g,x+1,none⟩ b).heap[q]?=w.heap[q]?:=(setCell_off _ _ _ _ _ h).trans (setCell_off _ _ _ _ _ h)
theorem setC2_cell {w:World} {g x q o:Nat} {v:Value} (h:q≠g) (hc:w.cell? ⟨q,o,none⟩=some v) (a b:Value):((w.setCell ⟨g,x,none⟩ a).setCell ⟨g,x+1,none⟩ b).cell? ⟨q,o,none⟩=some v:=(World.cell?_of_block (a:=⟨q,o,none⟩) (setC2_off h a b)).trans hc
theorem setC2_size {w:World} {g x:Nat} (a b:Value):((w.setCell ⟨g,x,none⟩ a).setCell ⟨g,x+1,none⟩ b).heap.size=w.heap.size:=by simp
set_option maxHeartbeats 8000000 in
theorem placesof_any (Ax:Option Addr) (cx:Nat) (ys:List EdL) (w:World) (hl:ys.length≤60) (hX:EdsV w Ax cx ys) :
  Calls Tryz.prog 46 #[.slice Ax ys.length cx] w fun e w'=>(∃ A' c',e=.returned (.slice A' ys.length c')∧PlsA w' A' c' (plD ys))∧Below w.heap.size w w':=by
 obtain ⟨i0,hi0,hz0,hz1,hz2⟩:=info_parts Tryz.infoPla
 have HX:Hid (EdsV w Ax cx ys):=hX
 obtain ⟨ny,hny⟩:∃ ny,ys.length=ny:=⟨_,rfl⟩
 have HNY:Hid (ys.length=ny):=hny
 have HTk:Hid (∀ k,k<ny→(plD ys).take (k+1)=(plD ys).take k ++ [⟨(ys.getD k noD).x.pl,(ys.getD k noD).A,(ys.getD k noD).c⟩]):=fun k hk=>plD_take ys (by rw [hny];exact hk)
 have HTl:Hid (∀ k,k≤ny→((plD ys).take k).length=k):=fun k hk=>by rw [List.length_take,plD_len,hny];omega
 rw [hny] at hl ⊢
 have hlI:(ny:Int)≤60:=by omega
 clear hX hny
 go_enter Tryz.func46,Tryz.ntmps46
 go_wp2_with fail
 go_loopg [3,8] ny (fun gg s3 s8 wr => ∃ (k:Nat) (v:Value),k≤ny∧gg=ny-k∧s8=.int .i64 k∧v=s3∧Hid (wr.ownsRow w.heap.size 39 1 v k (cellsP ((plD ys).take k)))∧Hid (Below w.heap.size w wr))
 case atStart=>exact ⟨0,_,Nat.zero_le _,rfl,rfl,rfl,hid_of (by simpa [cellsP] using World.ownsRow_nil _ _ _ _),Below.refl _ _⟩
 case round =>
  obtain ⟨k,v,hk,rfl,rfl,rfl,HO,HBw⟩:=hrel
  by_cases hlt:k<ny
  ·have hkx:k<ys.length:=by rw [HNY.out];exact hlt
   have hki:(k:Int)<(ny:Int):=by omega
   obtain ⟨hcx,-,h0 | ⟨b,o,rfl,hXs⟩⟩:=HX.out.later HBw.out
   ·have:=HNY.out;rw [h0] at this;simp at this;omega
   obtain ⟨d0,d1,d2,-⟩:=hXs.2 k hkx
   have hbl:b<wr.heap.size:=hXs.1
   have HT1:=hid_of (HTk.out k hlt)
   rw [HNY.out] at hcx
   generalize (ys.getD k noD).A=A1 at d0 HT1
   generalize (ys.getD k noD).c=k1 at d0 HT1
   generalize (ys.getD k noD).x.n=n1 at d1
   generalize (ys.getD k noD).x.clear=q1 at d2
   generalize (ys.getD k noD).x.pl=pl at d0 HT1
   obtain ⟨m1,hm1⟩:∃ m1,pl.length=m1:=⟨_,rfl⟩
   have HM1:=hid_of hm1
   rw [hm1] at d0
   obtain ⟨y,hy⟩:∃ y,wr.alloc (.cells #[.slice A1 m1 k1,.int .i64 n1,.bool q1] 41)=y:=⟨_,rfl⟩
   have hBy:Below wr.heap.size wr y:=by rw [←hy];go_grown
   have hyb:y.heap[wr.heap.size]?=some (.cells #[.slice A1 m1 k1,.int .i64 n1,.bool q1] 41 (0,0)):=by rw [←hy];exact heap_alloc_new ..
   have y0:y.cell? ⟨wr.heap.size,0,none⟩=some (.slice A1 m1 k1):=(Lib.cell_of_heap hyb 0).trans rfl
   have hys:wr.heap.size<y.heap.size:=by rw [←hy];simp
   have HBy:Hid (Below w.heap.size w y):=onB HBw.out hBy
   have HOy:Hid (y.ownsRow w.heap.size 39 1 v k (cellsP ((plD ys).take k))):=own_later HO.out hBy
   have hsy:=HBy.out.size
   clear hXs hBy hyb hm1
   go_wp2_with (at_builtin;refine wpList_append_own _ rfl _ _ 103 rfl w.heap.size 39 i0 (.slice none 0 0) 1 24 Tryz.underlying103 hi0 hz0 hz1 hz2 rfl (by decide) _ _ _ rfl (HOy.out.alloc _) ⟨y.heap.size,0,none⟩ 1 1 [.slice A1 m1 k1] rfl rfl one_cell (by intro u hu;simp at hu;subst hu;rfl) (by unfold maxLen;omega) (by omega) (by simp;omega) ?_)
   intro v' w4 hown' hgrow _
   have HB4:Hid (Below w.heap.size w w4):=grown_own HBy.out HOy.out hgrow
   have HO4:Hid (w4.ownsRow w.heap.size 39 1 v' (k+1) (cellsP ((plD ys).take (k+1)))):=by
    show World.ownsRow ..
    have e:cellsP [(⟨pl,A1,k1⟩:PL)]=[.slice A1 m1 k1]:=by simp [cellsP,HM1.out]
    rw [HT1.out,cellsP_append,e]
    exact hown'
   clear hown' hgrow
   go_wp2_with fail
   go_roundg (ny-(k+1))
   case measure=>omega
   case rel=>exact ⟨k+1,v',by omega,rfl,by go_num,rfl,HO4,HB4⟩
  ·have hke:k=ny:=by omega
   subst hke
   have HF:Hid (∃ A' c',v=.slice A' k c'∧PlsA wr A' c' (plD ys)):=by
    have hO:=HO.out
    rw [List.take_of_length_le (by rw [plD_len,HNY.out];exact Nat.le_refl _)] at hO
    have hpl:∀ x∈plD ys,PlAt wr x.A x.c x.p:=fun x hx=>by
     unfold plD at hx
     obtain ⟨y,hy,rfl⟩:=List.mem_map.1 hx
     obtain ⟨j,hj,rfl⟩:=List.getElem_of_mem hy
     obtain ⟨-,-,h0 | ⟨b,o,-,hXs⟩⟩:=HX.out.later HBw.out
     ·rw [h0] at hj;simp at hj
     ·have:=(hXs.2 j hj).2.2.2
      rw [List.getD_eq_getElem?_getD,List.getElem?_eq_getElem hj] at this
      exact this
    rcases hO.2 with ⟨rfl,h0⟩ | ⟨g,cap,cur,rfl,hb,hg,hc,-⟩
    ·have he:plD ys=[]:=List.eq_nil_of_length_eq_zero (by rw [plD_len,HNY.out];exact h0)
     exact ⟨none,0,by rw [h0],by rw [he];exact Nat.le_refl _,Or.inl he,hpl⟩
    ·refine ⟨_,cap,rfl,by rw [plD_len,HNY.out];exact hc,Or.inr ⟨g,0,rfl,(Array.getElem?_eq_some_iff.1 hg).1,fun j hj=>?_⟩,hpl⟩
     have:=hO.cells (g:=g) rfl j (.slice ((plD ys).getD j noP).A ((plD ys).getD j noP).p.length ((plD ys).getD j noP).c) (by simp [cellsP,List.getD_eq_getElem?_getD,List.getElem?_eq_getElem hj])
     rw [plain_add] at this
     exact this
   go_wp2_with fail
   obtain ⟨A',c',rfl,hP⟩:=HF.out
   go_ret
   exact ⟨⟨A',c',rfl,hP⟩,HBw.out⟩
set_option maxHeartbeats 8000000 in
theorem hwrite_any (A0:Option Addr) (cap n:Nat) (D:Nat→Dm) (A:Nat→Option Addr) (C:Nat→Nat) (Ax:Option Addr) (cx:Nat) (ys:List EdL) (gC cC:Nat) (L:List (Int×Int)) (w0 w:World) (hl:ys.length≤60) (hp3:prodN D n≤3000) (hM:DimsV w0 A0 cap n D A C) (hX:EdsV w0 Ax cx ys) (hB:Below w0.heap.size w0 w) (hg:w0.heap.size≤gC) (hC:CelB w gC L) (hL:L.length=prodN D n) (hcc:prodN D n≤cC) (hI:∀ k,k<ys.length→InO D n (ys.getD k noD).x.pl) :
  Calls Tryz.prog 24 #[.agg #[.slice A0 n cap],.slice (some ⟨gC,0,none⟩) (prodN D n) cC,.slice Ax ys.length cx] w fun e w'=>e=.returned .nilIface∧CelB w' gC (wrTo D n L (lD ys) ys.length)∧Below w0.heap.size w0 w':=by
 have hB0:=ownOut_below w A0 n cap 24
 have hS:=ownOut_size w A0 n cap 24
 have hA:=ownOut_at w A0 n cap 24
 obtain ⟨W,hW⟩:∃ W,ownOut w A0 n cap 24=W:=⟨_,rfl⟩
 rw [hW] at hB0 hS hA
 unfold ownOut at hW
 have hgw:gC<w.heap.size:=hC.lt
 have HR0:Hid (CelB W gC (wrTo D n L (lD ys) 0)∧Below w0.heap.size w0 W∧W.cell? ⟨w.heap.size,0,none⟩=some (.slice A0 n cap)∧w.heap.size<W.heap.size):=⟨hC.later hB0,onB hB hB0,hA,by omega⟩
 have HX:Hid (EdsV w0 Ax cx ys):=hX
 obtain ⟨ny,hny⟩:∃ ny,ys.length=ny:=⟨_,rfl⟩
 have HNY:Hid (ys.length=ny):=hny
 have HNm:Hid (∀ k w',k<ny→Below w0.heap.size w0 w'→∃ m:Nat,m<prodN D n∧wrTo D n L (lD ys) (k+1)=(wrTo D n L (lD ys) k).set m (wrC (ys.getD k noD).x)∧(wrTo D n L (lD ys) k).length=prodN D n∧Calls Tryz.prog 19 #[.agg #[.slice A0 n cap],.slice (ys.getD k noD).A (ys.getD k noD).x.pl.length (ys.getD k noD).c] w' fun e w''=>e=.returned (.tuple #[.int .i64 (m:Nat),.nilIface])∧Below w'.heap.size w' w''):=fun k w' hk hB'=>by
  have hk':k<ys.length:=by rw [hny];exact hk
  have hi:=hI k hk'
  have hbd:=numI_bound hi (Nat.le_refl n)
  have hpl:PlAt w' (ys.getD k noD).A (ys.getD k noD).c (ys.getD k noD).x.pl:=by
   obtain ⟨-,-,h0 | ⟨b,o,-,hXs⟩⟩:=hX.later hB'
   ·rw [h0] at hk';simp at hk'
   ·exact (hXs.2 k hk').2.2.2
  have h:=pnumber_any A0 cap n D A C _ _ _ w' (hM.later hB') hpl
  have hnv:numV D n (ys.getD k noD).x.pl=((numI D (ys.getD k noD).x.pl n).toNat:Nat):=by unfold numV;rw [if_pos hi.ok];omega
  rw [hi.ok,errV_zero,hnv] at h
  refine ⟨_,by omega,?_,by rw [wrTo_len _ _ _ _ _ (by rw [lD_len];omega)];exact hL,h⟩
  rw [wrTo_succ _ _ _ _ (by rw [lD_len];exact hk'),wrE,lD_at0]
 have HOf:Hid (∀ x w',Calls Tryz.prog 15 #[.int .i64 x] w' fun e w''=>e=.returned (.agg #[.int .i64 (ofP x).1,.int .i64 (ofP x).2])∧Below w'.heap.size w' w''):=fun x w'=>of_any x w'
 obtain ⟨N,hN⟩:∃ N,prodN D n=N:=⟨_,rfl⟩
 rw [hN] at HNm hcc hp3 ⊢
 rw [hny] at hl ⊢
 generalize wrTo D n L (lD ys)=LW at HR0 HNm ⊢
 have hlI:(ny:Int)≤60:=by omega
 have hNI:(N:Int)≤3000:=by omega
 have hcI:(N:Int)≤(cC:Int):=by omega
 clear hM hX hB hC hL hI hB0 hS hA hny hN
 go_enter Tryz.func24,Tryz.ntmps24
 go_wp2_with fail
 go_loopg [13] ny (fun gg s13 wr => ∃ k:Nat,k≤ny∧gg=ny-k∧s13=.int .i64 k∧Hid (CelB wr gC (LW k)∧Below w0.heap.size w0 wr∧wr.cell? ⟨w.heap.size,0,none⟩=some (.slice A0 n cap)∧w.heap.size<wr.heap.size))
 case atStart=>exact ⟨0,Nat.zero_le _,rfl,rfl,HR0⟩
 case round =>
  obtain ⟨k,hk,rfl,rfl,HK⟩:=hrel
  by_cases hlt:k<ny
  ·have hkx:k<ys.length:=by rw [HNY.out];exact hlt
   have hki:(k:Int)<(ny:Int):=by omega
   obtain ⟨hCr,hBr,c0,hsr⟩:=HK.out
   obtain ⟨hcx,-,h0 | ⟨b,o,rfl,hXs⟩⟩:=HX.out.later hBr
   ·have:=HNY.out;rw [h0] at this;simp at this;omega
   obtain ⟨d0,d1,d2,-⟩:=hXs.2 k hkx
   have hbl:b<wr.heap.size:=hXs.1
   rw [HNY.out] at hcx
   obtain ⟨y,hy⟩:∃ y,wr.alloc (.cells #[.slice (ys.getD k noD).A (ys.getD k noD).x.pl.length (ys.getD k noD).c,.int .i64 (ys.getD k noD).x.n,.bool (ys.getD k noD).x.clear] 41)=y:=⟨_,rfl⟩
   have hBy:Below wr.heap.size wr y:=by rw [←hy];go_grown
   have hyb:y.heap[wr.heap.size]?=some (.cells #[.slice (ys.getD k noD).A (ys.getD k noD).x.pl.length (ys.getD k noD).c,.int .i64 (ys.getD k noD).x.n,.bool (ys.getD k noD).x.clear] 41 (0,0)):=by rw [←hy];exact heap_alloc_new ..
   have y0:y.cell? ⟨wr.heap.size,0,none⟩=some (.slice (ys.getD k noD).A (ys.getD k noD).x.pl.length (ys.getD k noD).c):=(Lib.cell_of_heap hyb 0).trans rfl
   have y1:y.cell? ⟨wr.heap.size,1,none⟩=some (.int .i64 (ys.getD k noD).x.n):=(Lib.cell_of_heap hyb 1).trans rfl
   have y2:y.cell? ⟨wr.heap.size,2,none⟩=some (.bool (ys.getD k noD).x.clear):=(Lib.cell_of_heap hyb 2).trans rfl
   have hys:wr.heap.size<y.heap.size:=by rw [←hy];simp
   have hgr:gC<wr.heap.size:=hCr.lt
   have cy:=(hBy.cell (p:=⟨w.heap.size,0,none⟩) hsr).trans c0
   have HCy:Hid (CelB y gC (LW k)):=hCr.later hBy
   have HBy:Hid (Below w0.heap.size w0 y):=onB hBr hBy
   have hsy:w.heap.size<y.heap.size:=by omega
   obtain ⟨m,hmN,hset,hlw,hnum⟩:=HNm.out k y hlt HBy.out
   have HSet:=hid_of hset
   have HLw:=hid_of hlw
   have hmI:(m:Int)<(N:Int):=by omega
   unfold wrC at HSet
   generalize (ys.getD k noD).A=A1 at d0 hy y0 hnum
   generalize (ys.getD k noD).c=k1 at d0 hy y0 hnum
   generalize (ys.getD k noD).x.n=n1 at d1 hy y1 HSet
   generalize (ys.getD k noD).x.clear=q1 at d2 hy y2 HSet
   generalize (ys.getD k noD).x.pl.length=m1 at d0 hy y0 hnum
   clear hXs hBy hyb hCr hBr hset hlw
   have HAf:Hid (∀ (w5:World) (a b:Int),CelB w5 gC (LW k)→Below w0.heap.size w0 w5→w5.cell? ⟨w.heap.size,0,none⟩=some (.slice A0 n cap)→w.heap.size<w5.heap.size→LW (k+1)=(LW k).set m (a,b)→CelB ((w5.setCell ⟨gC,m*2,none⟩ (.int .i64 a)).setCell ⟨gC,m*2+1,none⟩ (.int .i64 b)) gC (LW (k+1))∧Below w0.heap.size w0 ((w5.setCell ⟨gC,m*2,none⟩ (.int .i64 a)).setCell ⟨gC,m*2+1,none⟩ (.int .i64 b))∧((w5.setCell ⟨gC,m*2,none⟩ (.int .i64 a)).setCell ⟨gC,m*2+1,none⟩ (.int .i64 b)).cell? ⟨w.heap.size,0,none⟩=some (.slice A0 n cap)∧w.heap.size<((w5.setCell ⟨gC,m*2,none⟩ (.int .i64 a)).setCell ⟨gC,m*2+1,none⟩ (.int .i64 b)).heap.size):=fun w5 a b h1 h2 h3 h4 h5 =>
    ⟨by rw [h5];exact h1.set (by rw [HLw.out];exact hmN) a b,(h2.setCell hg _).setCell hg _,setC2_cell (by omega) h3 _ _,by rw [setC2_size];exact h4⟩
   go_wp2_with fail
   refine hnum.mono ?_
   rintro e w3 ⟨rfl,hb3⟩
   clear hnum y0 hy
   cases q1
   ·have z1:=(hb3.cell (p:=⟨wr.heap.size,1,none⟩) hys).trans y1
    have z2:=(hb3.cell (p:=⟨wr.heap.size,2,none⟩) hys).trans y2
    have cz:=(hb3.cell (p:=⟨w.heap.size,0,none⟩) hsy).trans cy
    have HC3:Hid (CelB w3 gC (LW k)):=HCy.out.later hb3
    have HB3:Hid (Below w0.heap.size w0 w3):=onB HBy.out hb3
    have hs3:wr.heap.size<w3.heap.size:=Nat.lt_of_lt_of_le hys hb3.size
    have hsw3:w.heap.size<w3.heap.size:=Nat.lt_of_lt_of_le hsy hb3.size
    have hof:=HOf.out n1 w3
    clear hb3 y1 y2
    go_wp2_with fail
    refine hof.mono ?_
    rintro e w5 ⟨rfl,hb5⟩
    have hC5:=HC3.out.later hb5
    obtain ⟨r0,r1⟩:=hC5.at (k:=m) (by rw [HLw.out];exact hmN)
    have f0:=hC5.frozen (m*2)
    have f1:=hC5.frozen (m*2+1)
    have hgl:=hC5.lt
    have HFin:=hid_of (HAf.out w5 (ofP n1).1 (ofP n1).2 hC5 (onB HB3.out hb5) ((hb5.cell (p:=⟨w.heap.size,0,none⟩) hsw3).trans cz) (Nat.lt_of_lt_of_le hsw3 hb5.size) (by rw [HSet.out];rfl))
    clear hb5 hof hC5
    go_wp2_with fail
    go_roundg (ny-(k+1))
    case measure=>omega
    case rel=>exact ⟨k+1,by omega,rfl,by go_num,HFin⟩
   ·have z2:=(hb3.cell (p:=⟨wr.heap.size,2,none⟩) hys).trans y2
    have hC5:=HCy.out.later hb3
    obtain ⟨r0,r1⟩:=hC5.at (k:=m) (by rw [HLw.out];exact hmN)
    have f0:=hC5.frozen (m*2)
    have f1:=hC5.frozen (m*2+1)
    have hgl:=hC5.lt
    have hs3:wr.heap.size<w3.heap.size:=Nat.lt_of_lt_of_le hys hb3.size
    have HFin:=hid_of (HAf.out w3 0 0 hC5 (onB HBy.out hb3) ((hb3.cell (p:=⟨w.heap.size,0,none⟩) hsy).trans cy) (Nat.lt_of_lt_of_le hsy hb3.size) (by rw [HSet.out];rfl))
    clear hb3 y1 y2 hC5
    go_wp2_with fail
    go_roundg (ny-(k+1))
    case measure=>omega
    case rel=>exact ⟨k+1,by omega,rfl,by go_num,HFin⟩
  ·have hke:k=ny:=by omega
   subst hke
   go_wp2_with fail
   go_ret
   exact ⟨rfl,HK.out.1,HK.out.2.1⟩
end Go.Proofs.YtfgegmpoejilnaaGreatDoor
