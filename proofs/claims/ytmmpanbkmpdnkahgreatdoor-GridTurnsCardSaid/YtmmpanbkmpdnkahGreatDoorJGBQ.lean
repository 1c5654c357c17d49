/-
  What the small functions of package grid answer, in whatever memory: anyOutside, placesOf; and the question that Make hands to table.
-/
import Derived.Test.YtmmpanbkmpdnkahGreatDoorJGBL
namespace Go.Proofs.YtmmpanbkmpdnkahGreatDoor
open Go.ChangeShapes Go.WideShapes Go.ChangeAt Go.RowKit
set_option maxRecDepth 20000
theorem out1_any (i:Int) (m q:Nat) (w:World) (h:w.cell? ⟨q,0,none⟩=some (.int .i64 m)):Calls Tryz.prog 126 #[.int .i64 i,.pointer (some ⟨q,0,none⟩)] w fun e w'=>e=.returned (.bool (outI m i))∧Below w.heap.size w w':=by
 unfold outI
 by_cases h1:i<0
 ·go_enter Tryz.func126,Tryz.ntmps126
  go_wp2
  go_ret
  exact ⟨by simp <;> omega,by go_grown⟩
 ·go_enter Tryz.func126,Tryz.ntmps126
  go_wp2
  go_ret
  exact ⟨by simp <;> omega,by go_grown⟩
theorem outside_any (A:Option Addr) (c:Nat) (L:List Int) (m:Nat) (w:World) (hn:L.length≤1048576) (hL:PlAt w A c L):Calls Tryz.prog 67 #[.slice A L.length c,.int .i64 m] w fun e w'=>e=.returned (.bool (L.any (outI m)))∧Below w.heap.size w w':=by
 obtain ⟨W,hW⟩:∃ W,w.alloc (.cells #[.int .i64 m] 3)=W:=⟨_,rfl⟩
 have hB0:Below w.heap.size w W:=by rw [←hW];go_grown
 have hb:W.heap[w.heap.size]?=some (.cells #[.int .i64 m] 3 (0,0)):=by rw [←hW];exact heap_alloc_new ..
 have h:=contm_pl 126 #[.pointer (some ⟨w.heap.size,0,none⟩)] (outI m) (fun args w=>by simp [callFunc,Tryz.func126];rfl) A c L W hn (hL.later hB0) fun x w' _ hB=>out1_any x m w.heap.size w' ((hB.cell (p:=⟨w.heap.size,0,none⟩) (Array.getElem?_eq_some_iff.1 hb).1).trans ((Lib.cell_of_heap hb 0).trans rfl))
 rw [any_find] at h
 have HB0:=hid_of hB0
 show Calls _ _ _ _ fun e w'=>e=.returned (.bool (anyL (outI m) L))∧_
 generalize anyL (outI m) L=r at h
 generalize L.length=l at h
 clear hL hb hB0
 go_enter Tryz.func67,Tryz.ntmps67
 go_wp2_with fail
 refine h.mono ?_
 rintro e w1 ⟨rfl,hb1⟩
 go_wp2_with fail
 go_ret
 exact ⟨rfl,onB HB0.out hb1⟩
def risL (n:Nat):List Int:=(List.range n).map fun i:Nat=>(i:Int)
theorem risL_len (n:Nat):(risL n).length=n:=by simp [risL]
def risTo (n k:Nat):List Int:=(List.range n).map fun i:Nat=>if i<k then (i:Int) else 0
theorem risTo_len (n k:Nat):(risTo n k).length=n:=by simp [risTo]
theorem risTo_zero (n:Nat):risTo n 0=List.replicate n 0:=by
 refine List.ext_getElem (by simp [risTo]) fun _ _ _=>?_
 simp [risTo]
theorem risTo_all (n:Nat):risTo n n=risL n:=List.map_congr_left fun _ hi=>if_pos (List.mem_range.1 hi)
theorem risTo_set (n k:Nat):(risTo n k).set k (k:Int)=risTo n (k+1):=by
 refine List.ext_getElem (by simp [risTo]) fun i h1 h2=>?_
 rw [List.getElem_set]
 by_cases e:k=i
 ·subst e
  simp [risTo]
 ·rw [if_neg e]
  simp only [risTo,List.getElem_map,List.getElem_range]
  by_cases h3:i<k
  ·rw [if_pos h3,if_pos (by omega)]
  ·rw [if_neg h3,if_neg (by omega)]
theorem gplaces_any (A:Option Addr) (c n:Nat) (w:World) (hn:n≤12):Calls Tryz.prog 68 #[.slice A n c] w fun e w'=>e=.returned (.slice (some ⟨w.heap.size,0,none⟩) n n)∧IntB w' w.heap.size (risL n)∧Below w.heap.size w w':=by
 have hmk:=run_make_row' (P:=Tryz.prog) 22 3 (.int .i64 0) 8 Tryz.underlying22 Tryz.infoInt rfl .i64 .i64 n (by omega) (by omega)
 have hnI:(n:Int)≤12:=by omega
 have HI0:Hid (IntB (w.alloc (.cells (madeCells #[.int .i64 0] n) 3)) w.heap.size (risTo n 0)):=by
  show IntB ..
  rw [risTo_zero]
  exact IntB.made w n
 go_enter Tryz.func68,Tryz.ntmps68
 go_wp2_with fail
 go_loopg [10] n (fun gg s10 wr => ∃ (k:Nat),k≤n∧gg=n-k∧s10=.int .i64 k∧Hid (IntB wr w.heap.size (risTo n k))∧Hid (Below w.heap.size w wr))
 case atStart=>exact ⟨0,Nat.zero_le _,rfl,rfl,HI0,hid_of (by go_grown)⟩
 case round =>
  obtain ⟨k,hk,rfl,rfl,HI,HB⟩:=hrel
  by_cases hlt:k<n
  ·have hki:(k:Int)<(n:Int):=by omega
   have c0:=HI.out.cell (j:=k) (by rw [risTo_len];exact hlt)
   have f0:=HI.out.frozen k
   have hl:=HI.out.lt
   have HI2:Hid (IntB (wr.setCell ⟨w.heap.size,k,none⟩ (.int .i64 k)) w.heap.size (risTo n (k+1))):=by
    show IntB ..
    rw [←risTo_set]
    exact HI.out.set k k
   have HB2:Hid (Below w.heap.size w (wr.setCell ⟨w.heap.size,k,none⟩ (.int .i64 k))):=HB.out.setCell (Nat.le_refl _) _
   clear HI HB
   go_wp2_with fail
   go_roundg (n-(k+1))
   case measure=>omega
   case rel=>exact ⟨k+1,by omega,rfl,by go_num,HI2,HB2⟩
  ·have hke:k=n:=by omega
   subst hke
   have HI2:Hid (IntB wr w.heap.size (risL k)):=by
    show IntB ..
    rw [←risTo_all]
    exact HI.out
   go_wp2_with fail
   go_ret
   exact ⟨rfl,HI2.out,HB.out⟩
def PB (w:World) (g:Nat) (L:List Int):Prop := ∃ cur:Array Value,w.heap[g]?=some (.cells cur 3 (0,0))∧∀ j,j<L.length→cur[j]?=some (.int .i64 (L.getD j 0))
section
variable {w w':World} {g:Nat} {L:List Int}
theorem PB.lt (h:PB w g L):g<w.heap.size:=by
 obtain ⟨cur,h1,_⟩:=h
 exact (Array.getElem?_eq_some_iff.1 h1).1
theorem PB.same (h:PB w g L) (hb:w'.heap[g]?=w.heap[g]?):PB w' g L:=by
 obtain ⟨cur,h1,h2⟩:=h
 exact ⟨cur,hb.trans h1,h2⟩
theorem PB.cell (h:PB w g L) {j:Nat} (hj:j<L.length):w.cell? ⟨g,j,none⟩=some (.int .i64 (L.getD j 0)):=by
 obtain ⟨cur,h1,h2⟩:=h
 rw [Lib.cell_of_heap h1]
 exact h2 j hj
theorem PB.frozen (h:PB w g L) (j:Nat):w.frozen? ⟨g,j,none⟩=false:=by
 obtain ⟨cur,h1,_⟩:=h
 exact Lib.frozen_of_heap h1 j
theorem PB.set (h:PB w g L) {x:Nat} (v:Int):PB (w.setCell ⟨g,x,none⟩ (.int .i64 v)) g (L.set x v):=by
 obtain ⟨cur,h1,h2⟩:=h
 refine ⟨cur.setIfInBounds x (.int .i64 v),by simp [World.setCell,Array.getElem?_modify,h1],fun k hk=>?_⟩
 rw [List.length_set] at hk
 have h3:=h2 k hk
 have z:=(Array.getElem?_eq_some_iff.1 h3).1
 by_cases e:k=x
 ·subst e
  rw [Array.getElem?_setIfInBounds_self_of_lt z]
  simp [List.getD,hk]
 ·rw [Array.getElem?_setIfInBounds_ne (by omega),h3]
  simp [List.getD,List.getElem?_set_ne (fun h=>e h.symm)]
theorem PB.pl (h:PB w g L) {c:Nat} (hc:L.length≤c):PlAt w (some ⟨g,0,none⟩) c L:=⟨hc,Or.inr ⟨g,0,rfl,h.lt,fun j hj=>by rw [Nat.zero_add];exact h.cell hj⟩⟩
theorem pb_own {base:Nat} {v:Value} (h:w.ownsRow base 3 1 v L.length (L.map (Value.int .i64))) (hl:0<L.length):∃ g c,v=.slice (some ⟨g,0,none⟩) L.length c∧base≤g∧L.length≤c∧PB w g L:=by
 rcases h.2 with ⟨_,h0⟩ | ⟨g,cap,cur,rfl,hb,hg,h4,h5,h6,h7⟩
 ·omega
 ·refine ⟨g,cap,rfl,hb,h4,cur,hg,fun k hk=>?_⟩
  have x0:(L.map (Value.int .i64))[k]?=some (.int .i64 (L.getD k 0)):=by simp [List.getD,hk]
  rw [←h7,List.getElem?_take,if_pos (by omega),Array.getElem?_toList] at x0
  exact x0
end
theorem set_agree {L L':List Int} {i k:Nat} (hl:L'.length=L.length) (h:∀ j,j≠i→j≠k→L'.getD j 0=L.getD j 0) (x y:Int):(L'.set i x).set k y=(L.set i x).set k y:=by
 refine List.ext_getElem (by simp [hl]) fun j h1 h2=>?_
 simp only [List.getElem_set]
 by_cases e1:k=j
 ·rw [if_pos e1,if_pos e1]
 ·by_cases e2:i=j
  ·rw [if_neg e1,if_neg e1,if_pos e2,if_pos e2]
  ·rw [if_neg e1,if_neg e1,if_neg e2,if_neg e2]
   have h3:j<L'.length:=by simpa using h1
   have h4:j<L.length:=by simpa using h2
   have:=h j (fun e=>e2 e.symm) (fun e=>e1 e.symm)
   simpa [List.getD,h3,h4] using this
theorem set_other (L:List Int) (i k:Nat) (x y:Int) (j:Nat) (h1:j≠i) (h2:j≠k):((L.set i x).set k y).getD j 0=L.getD j 0:=by
 simp [List.getD,List.getElem?_set_ne (fun h=>h1 h.symm),List.getElem?_set_ne (fun h=>h2 h.symm)]
def MkI (w0:World) (q1 gP n cP row col:Nat) (L:List Int) (w:World):Prop:=Below w0.heap.size w0 w∧w.cell? ⟨q1,0,none⟩=some (.slice (some ⟨gP,0,none⟩) n cP)∧∃ L',L'.length=n∧(∀ j,j≠row→j≠col→L'.getD j 0=L.getD j 0)∧PB w gP L'
theorem mk1_in (args:Array Value) (w:World):(callFunc 71 args).run Tryz.prog w=.ok (.enter 71 args) w:=by simp [callFunc,Tryz.func71];rfl
set_option maxHeartbeats 8000000 in
theorem mk1_any (q1 q2 q3 q4 q5 gP cP:Nat) (A0:Option Addr) (cap n:Nat) (D:Nat→Dm) (A:Nat→Option Addr) (C:Nat→Nat) (AV:Option Addr) (cV:Nat) (V:List (Int×Int)) (L:List Int) (row col r c:Nat) (w0 w:World) (hI:InO D n ((L.set row r).set col c)) (hVl:V.length=prodN D n) (hLl:L.length=n) (hrow:row<n) (hcol:col<n) (hcP:n≤cP) (hgP:w0.heap.size≤gP) (hq1:q1≠gP)
  (hM:DimsV w0 A0 cap n D A C) (hV:CelV w0 AV cV V) (c2:w0.cell? ⟨q2,0,none⟩=some (.int .i64 row)) (c3:w0.cell? ⟨q3,0,none⟩=some (.int .i64 col)) (c4:w0.cell? ⟨q4,0,none⟩=some (.slice A0 n cap)) (c5:w0.cell? ⟨q5,0,none⟩=some (.slice AV (prodN D n) cV)) (hInv:MkI w0 q1 gP n cP row col L w) :
  Calls Tryz.prog 71 #[.int .i64 r,.int .i64 c,.pointer (some ⟨q1,0,none⟩),.pointer (some ⟨q2,0,none⟩),.pointer (some ⟨q3,0,none⟩),.pointer (some ⟨q4,0,none⟩),.pointer (some ⟨q5,0,none⟩)] w fun e w'=>e=.returned (.tuple #[.agg #[.int .i64 (V.getD (numI D ((L.set row r).set col c) n).toNat noC).1,.int .i64 (V.getD (numI D ((L.set row r).set col c) n).toNat noC).2],.nilIface])∧MkI w0 q1 gP n cP row col L w'∧Kept w.heap.size (fun b=>b=gP) w w':=by
 obtain ⟨hB,cq,L',hl',hag,hP⟩:=hInv
 have hset:=set_agree (hl'.trans hLl.symm) hag r c
 obtain ⟨hn1,hn4,hp3,hd⟩:=allErr_some hI.right
 have z2:=World.block_lt_of_cell? _ _ c2
 have z3:=World.block_lt_of_cell? _ _ c3
 have z4:=World.block_lt_of_cell? _ _ c4
 have z5:=World.block_lt_of_cell? _ _ c5
 have z1:=World.block_lt_of_cell? _ _ cq
 simp only at z1 z2 z3 z4 z5
 obtain ⟨y,hy⟩:∃ y,w.alloc (.cells #[.int .i64 0,.int .i64 0] 40)=y:=⟨_,rfl⟩
 have hBy:Below w.heap.size w y:=by rw [←hy];go_grown
 have hyb:y.heap[w.heap.size]?=some (.cells #[.int .i64 0,.int .i64 0] 40 (0,0)):=by rw [←hy];exact heap_alloc_new ..
 have hB0y:=onB hB hBy
 have hPy:=hP.same (hBy.block _ hP.lt)
 have y1:=(hBy.cell (p:=⟨q1,0,none⟩) z1).trans cq
 have y2:=(hB0y.cell (p:=⟨q2,0,none⟩) z2).trans c2
 have y3:=(hB0y.cell (p:=⟨q3,0,none⟩) z3).trans c3
 have yr:=hPy.cell (j:=row) (by omega)
 have fr:=hPy.frozen row
 have fc:=hPy.frozen col
 have hgy:=hPy.lt
 obtain ⟨Z,hZ⟩:∃ Z,((y.setCell ⟨gP,row,none⟩ (.int .i64 r)).setCell ⟨gP,col,none⟩ (.int .i64 c)).drew=Z:=⟨_,rfl⟩
 have hPr:=hPy.set (x:=row) r
 have yc:=hPr.cell (j:=col) (by rw [List.length_set];omega)
 have fcr:=hPr.frozen col
 have yr1:=(World.cell?_of_block (a:=⟨q1,0,none⟩) (setCell_off y gP row q1 (.int .i64 r) hq1)).trans y1
 have yr3:=(World.cell?_of_block (a:=⟨q3,0,none⟩) (setCell_off y gP row q3 (.int .i64 r) (by omega))).trans y3
 have hoff:∀ b,b≠gP→Z.heap[b]?=y.heap[b]?:=fun b hb=>by rw [←hZ];exact (setCell_off _ _ _ _ _ hb).trans (setCell_off _ _ _ _ _ hb)
 have hZs:Z.heap.size=y.heap.size:=by rw [←hZ];simp [World.drew]
 have hPZ:PB Z gP ((L.set row r).set col c):=by rw [←hset,←hZ];exact (hPr.set (x:=col) c).same rfl
 have hKZ:Kept w.heap.size (fun b=>b=gP) w Z:=by
  have k1:Kept w.heap.size (fun b=>b=gP) w y:=kept_below hBy (Nat.le_refl _)
  exact ⟨by rw [←hZ];exact k1.os,by rw [←hZ];exact k1.tape,by rw [←hZ];exact k1.output,by rw [hZs];exact k1.size,fun b hb hx=>(hoff b hx).trans (k1.block b hb hx)⟩
 have hBZ:Below w0.heap.size w0 Z:=⟨hKZ.os.trans hB.os,hKZ.tape.trans hB.tape,hKZ.output.trans hB.output,Nat.le_trans hB.size hKZ.size,fun b hb=>(hKZ.block b (Nat.lt_of_lt_of_le hb hB.size) (by omega)).trans (hB.block b hb)⟩
 have Z1:Z.cell? ⟨q1,0,none⟩=some (.slice (some ⟨gP,0,none⟩) n cP):=(World.cell?_of_block (a:=⟨q1,0,none⟩) (hoff q1 hq1)).trans y1
 have Z4:=(hBZ.cell (p:=⟨q4,0,none⟩) z4).trans c4
 have hZb:Z.heap[w.heap.size]?=some (.cells #[.int .i64 0,.int .i64 0] 40 (0,0)):=(hoff _ (by have:=hP.lt;omega)).trans hyb
 have hpl:((L.set row r).set col c).length=n:=by simp [hLl]
 have hnum:=pnumber_any A0 cap n D A C (some ⟨gP,0,none⟩) cP _ Z (hM.later hBZ) (hPZ.pl (c:=cP) (by rw [hpl];exact hcP))
 have hbd:=numI_bound hI (Nat.le_refl n)
 have hnv:numV D n ((L.set row r).set col c)=numI D ((L.set row r).set col c) n:=by unfold numV;rw [if_pos hI.ok]
 rw [hpl,hI.ok,errV_zero,hnv] at hnum
 obtain ⟨m,hm⟩:∃ m:Nat,numI D ((L.set row r).set col c) n=m:=⟨(numI D ((L.set row r).set col c) n).toNat,by omega⟩
 rw [hm] at hnum ⊢
 rw [hm] at hbd
 have hmN:m<prodN D n:=by omega
 simp only [Int.toNat_natCast]
 have HV:Hid (∀ w',Below Z.heap.size Z w'→∃ b o,AV=some ⟨b,o,none⟩∧b<w'.heap.size∧w'.cell? ⟨b,o+m*2,none⟩=some (.int .i64 (V.getD m noC).1)∧w'.cell? ⟨b,o+m*2+1,none⟩=some (.int .i64 (V.getD m noC).2)):=fun w' h=>by
  obtain ⟨-,-,h0 | ⟨b,o,h1,h2⟩⟩:=(hV.later hBZ).later h
  ·rw [h0] at hVl;simp at hVl;omega
  ·exact ⟨b,o,h1,h2.1,h2.2 m (by omega)⟩
 have HEnd:Hid (∀ w',Below Z.heap.size Z w'→∀ u v:Value,MkI w0 q1 gP n cP row col L ((w'.setCell ⟨w.heap.size,0,none⟩ u).setCell ⟨w.heap.size,1,none⟩ v)∧Kept w.heap.size (fun b=>b=gP) w ((w'.setCell ⟨w.heap.size,0,none⟩ u).setCell ⟨w.heap.size,1,none⟩ v)):=fun w' h u v=>by
  have hk:Kept w.heap.size (fun b=>b=gP) w ((w'.setCell ⟨w.heap.size,0,none⟩ u).setCell ⟨w.heap.size,1,none⟩ v):=kept_setc (kept_setc (hKZ.trans (kept_below h hKZ.size)) (Nat.le_refl _)) (Nat.le_refl _)
  have ho:∀ b,b≠w.heap.size→b<Z.heap.size→((w'.setCell ⟨w.heap.size,0,none⟩ u).setCell ⟨w.heap.size,1,none⟩ v).heap[b]?=Z.heap[b]?:=fun b hb hz=>((setCell_off _ _ _ _ _ hb).trans (setCell_off _ _ _ _ _ hb)).trans (h.block b hz)
  refine ⟨⟨⟨hk.os.trans hB.os,hk.tape.trans hB.tape,hk.output.trans hB.output,Nat.le_trans hB.size hk.size,fun b hb=>(hk.block b (Nat.lt_of_lt_of_le hb hB.size) (by omega)).trans (hB.block b hb)⟩,?_,(L.set row r).set col c,hpl,set_other L row col r c,?_⟩,hk⟩
  ·exact (World.cell?_of_block (a:=⟨q1,0,none⟩) (ho q1 (by omega) (Nat.lt_of_lt_of_le z1 hKZ.size))).trans Z1
  ·exact hPZ.same (ho gP (by have:=hP.lt;omega) hPZ.lt)
 have HZb:=hid_of hZb
 have z5Z:q5<Z.heap.size:=Nat.lt_of_lt_of_le z5 hBZ.size
 have Z5:=(hBZ.cell (p:=⟨q5,0,none⟩) z5).trans c5
 have hwZ:w.heap.size<Z.heap.size:=(Array.getElem?_eq_some_iff.1 hZb).1
 have hrI:(row:Int)<(n:Int):=by omega
 have hcI:(col:Int)<(n:Int):=by omega
 have hmI:(m:Int)<((prodN D n:Nat):Int):=by omega
 have hcPI:(n:Int)≤(cP:Int):=by omega
 generalize (V.getD m noC).1=va at HV
 generalize (V.getD m noC).2=vb at HV
 generalize prodN D n=N at hmI Z5
 generalize L'.getD row 0=x1 at yr
 generalize ((L'.set row r).getD col 0)=x2 at yc
 clear hB cq hP hag hset hI hM hV c2 c3 c4 c5 hBy hyb hB0y hPy hPr hoff hPZ hKZ hBZ hZb hpl hbd hnv hm hmN hd hp3 hVl hl' z1 z2 z3 z4
 go_enter Tryz.func71,Tryz.ntmps71
 go_wp2_with fail
 go_region
 go_wp2_with fail
 refine hnum.mono ?_
 rintro e w2 ⟨rfl,hb2⟩
 obtain ⟨bv,ov,rfl,hbv,v1,v2⟩:=HV.out w2 hb2
 have d5:=(hb2.cell (p:=⟨q5,0,none⟩) z5Z).trans Z5
 have h2s:w.heap.size<w2.heap.size:=Nat.lt_of_lt_of_le hwZ hb2.size
 have hbx:=(hb2.block _ hwZ).trans HZb.out
 obtain ⟨s0,s1,g0,g1⟩:=pair_at hbx
 have HE:=hid_of (HEnd.out w2 hb2 (.int .i64 va) (.int .i64 vb))
 obtain ⟨t0,t1,-,-⟩:=pair_at (pair_set (a:=.int .i64 va) (b:=.int .i64 vb) hbx)
 obtain ⟨U,hU⟩:∃ U,(w2.setCell ⟨w.heap.size,0,none⟩ (.int .i64 va)).setCell ⟨w.heap.size,1,none⟩ (.int .i64 vb)=U:=⟨_,rfl⟩
 rw [hU] at t0 t1 HE
 clear hb2 hbx hnum
 go_wp2_with fail
 exact bodyPost_ret (v:=.tuple #[.agg #[.int .i64 va,.int .i64 vb],.nilIface]) (by simp [results,Tryz.results71,go_sem,t0,t1]) rfl ⟨rfl,HE.out⟩
theorem tri_set {w:World} {q:Nat} {x y z a b c:Value} {T:Nat} (h:w.heap[q]?=some (.cells #[x,y,z] T)):(((w.setCell ⟨q,0,none⟩ a).setCell ⟨q,1,none⟩ b).setCell ⟨q,2,none⟩ c).heap[q]?=some (.cells #[a,b,c] T):=by
 simp [World.setCell,Array.getElem?_modify,h]
theorem tri_at {w:World} {q:Nat} {x y z:Value} {T:Nat} (h:w.heap[q]?=some (.cells #[x,y,z] T)):w.cell? ⟨q,0,none⟩=some x∧w.cell? ⟨q,1,none⟩=some y∧w.cell? ⟨q,2,none⟩=some z∧w.frozen? ⟨q,0,none⟩=false∧w.frozen? ⟨q,1,none⟩=false∧w.frozen? ⟨q,2,none⟩=false :=
 ⟨by rw [Lib.cell_of_heap h];rfl,by rw [Lib.cell_of_heap h];rfl,by rw [Lib.cell_of_heap h];rfl,Lib.frozen_of_heap h 0,Lib.frozen_of_heap h 1,Lib.frozen_of_heap h 2⟩
theorem below_tri {w w':World} {q:Nat} {a b c:Value} (h:Below w.heap.size w w') (hq:w.heap.size≤q):Below w.heap.size w (((w'.setCell ⟨q,0,none⟩ a).setCell ⟨q,1,none⟩ b).setCell ⟨q,2,none⟩ c):=((h.setCell hq _).setCell hq _).setCell hq _
theorem any_findG {α:Type} (d:α) (p:α→Bool) (L:List α):decide (0≤findFrom (fun j=>p (L.getD j d)) L.length 0)=L.any p:=by
 rcases findFrom_cases (fun j=>p (L.getD j d)) L.length 0 with ⟨h1,h2⟩ | ⟨k,h1,-,h3,h4,-⟩
 ·rw [h1]
  symm
  rw [List.any_eq_false.2 fun x hx=>?_]
  ·rfl
  ·obtain ⟨j,hj,rfl⟩:=List.getElem_of_mem hx
   have:=h2 j (Nat.zero_le _) (by omega)
   simpa [List.getD,hj] using this
 ·have hk:k<L.length:=by omega
  rw [h1,decide_eq_true (by omega)]
  symm
  refine List.any_eq_true.2 ⟨L[k],List.getElem_mem hk,?_⟩
  simpa [List.getD,hk] using h4
set_option maxHeartbeats 1000000 in
theorem indexz_any (F:Nat) (cap:Array Value) (p:CsL→Bool) (hent:∀ (args:Array Value) (w:World),(callFunc F args).run Tryz.prog w=.ok (.enter F args) w) (A:Option Addr) (c:Nat) (L:List CsL) (w:World) (hn:L.length≤1048576) (hL:CssV w A c L)
  (hF:∀ (x:CsL) (w':World),x∈L→Below w.heap.size w w'→Calls Tryz.prog F (#[.slice x.A x.L.length x.c] ++ cap) w' fun e w''=>e=.returned (.bool (p x))∧Below w'.heap.size w' w'') :
  Calls Tryz.prog 127 #[.slice A L.length c,.func (.func F) #[] cap] w fun e w'=>e=.returned (.int .i64 (findFrom (fun j=>p (L.getD j noCs)) L.length 0))∧Below w.heap.size w w':=by
 obtain ⟨hc,-,h0 | ⟨b,o,rfl,hbw,hcell⟩⟩:=hL
 ·subst h0
  simp only [List.length_nil]
  go_enter Tryz.func127,Tryz.ntmps127
  go_wp2_with fail
  refine wp_loop_rounds 1 ?_
  rw [rounds_succ]
  go_wp2_with fail
  go_ret
  exact ⟨rfl,Below.refl _ _⟩
 ·have HC:Hid (∀ j,j<L.length→w.cell? ⟨b,o+j,none⟩=some (.slice (L.getD j noCs).A (L.getD j noCs).L.length (L.getD j noCs).c)):=fun j hj=>(hcell j hj).1
  have HF:Hid (∀ (x:CsL) (w':World),x∈L→Below w.heap.size w w'→Calls Tryz.prog F (#[.slice x.A x.L.length x.c] ++ cap) w' fun e w''=>e=.returned (.bool (p x))∧Below w'.heap.size w' w''):=hF
  obtain ⟨pj,hpj⟩:∃ pj:Nat→Bool,pj=fun j=>p (L.getD j noCs):=⟨_,rfl⟩
  have HP:Hid (∀ j,pj j=p (L.getD j noCs)):=fun j=>by rw [hpj]
  rw [←hpj]
  obtain ⟨n,hnn⟩:∃ n,L.length=n:=⟨_,rfl⟩
  have HNn:Hid (L.length=n):=hnn
  rw [hnn] at hn hc HC ⊢
  clear hcell hpj hnn hF
  go_enter Tryz.func127,Tryz.ntmps127
  go_wp2_with fail
  go_loopg [8] n (fun g s8 wr => ∃ (k:Nat),k≤n∧g=n-k∧s8=.int .i64 k∧findFrom pj (n-k) k=findFrom pj n 0∧Below w.heap.size w wr)
  case atStart=>exact ⟨0,Nat.zero_le _,rfl,rfl,rfl,Below.refl _ _⟩
  case round =>
   obtain ⟨k,hk,rfl,rfl,hf,hBw⟩:=hrel
   have HQ:Hid (findFrom pj (n-k) k=findFrom pj n 0):=hf
   have HW:Hid (Below w.heap.size w wr):=hBw
   clear hf
   by_cases hlt:k<n
   ·have hki:(k:Int)<(n:Int):=by omega
    have hcx:=(hBw.cell (p:=⟨b,o+k,none⟩) hbw).trans (HC.out k hlt)
    have hn':(n:Int)≤1048576:=by omega
    have hpk:=HP.out k
    have HSK:Hid (n-k=(n-(k+1))+1):=by show _=_;omega
    have hbd:=HF.out (L.getD k noCs) wr (by rw [List.getD_eq_getElem?_getD,List.getElem?_eq_getElem (by rw [HNn.out];exact hlt)];exact List.getElem_mem _) hBw
    rw [←hpk] at hbd
    generalize L.getD k noCs=x at hcx hpk hbd
    obtain ⟨xl,xA,xc⟩:=x
    simp only at hcx hbd
    generalize xl.length=m at hcx hbd
    clear hBw hpk
    cases hb:pj k
    ·rw [hb] at hbd
     have HK:Hid (pj k=false):=hb
     clear hb
     go_wp2_with fail
     refine hbd.mono ?_
     rintro e w1 ⟨rfl,hb1⟩
     go_wp2_with fail
     go_roundg (n-(k+1))
     case measure=>omega
     case rel=>exact ⟨k+1,by omega,rfl,by go_num,by rw [←HQ.out,HSK.out,findFrom_miss _ HK.out],onB HW.out hb1⟩
    ·rw [hb] at hbd
     have HK:Hid (pj k=true):=hb
     clear hb
     go_wp2_with fail
     refine hbd.mono ?_
     rintro e w1 ⟨rfl,hb1⟩
     go_wp2_with fail
     go_ret
     exact ⟨by rw [←HQ.out,HSK.out,findFrom_hit _ HK.out];rfl,onB HW.out hb1⟩
   ·have hke:k=n:=by omega
    subst hke
    go_wp2_with fail
    go_ret
    exact ⟨by rw [←HQ.out,Nat.sub_self];rfl,HW.out⟩
theorem contz_any (F:Nat) (cap:Array Value) (p:CsL→Bool) (hent:∀ (args:Array Value) (w:World),(callFunc F args).run Tryz.prog w=.ok (.enter F args) w) (A:Option Addr) (c:Nat) (L:List CsL) (w:World) (hn:L.length≤1048576) (hL:CssV w A c L)
  (hF:∀ (x:CsL) (w':World),x∈L→Below w.heap.size w w'→Calls Tryz.prog F (#[.slice x.A x.L.length x.c] ++ cap) w' fun e w''=>e=.returned (.bool (p x))∧Below w'.heap.size w' w'') :
  Calls Tryz.prog 74 #[.slice A L.length c,.func (.func F) #[] cap] w fun e w'=>e=.returned (.bool (L.any p))∧Below w.heap.size w w':=by
 have h:=indexz_any F cap p hent A c L w hn hL hF
 rw [←any_findG noCs]
 generalize findFrom (fun j=>p (L.getD j noCs)) L.length 0=r at *
 clear hF hL
 go_enter Tryz.func74,Tryz.ntmps74
 go_wp2_with fail
 refine h.mono ?_
 rintro e w1 ⟨rfl,hb1⟩
 go_wp2_with fail
 go_ret
 exact ⟨rfl,hb1⟩
theorem gchk1_in (args:Array Value) (w:World):(callFunc 75 args).run Tryz.prog w=.ok (.enter 75 args) w:=by simp [callFunc,Tryz.func75];rfl
theorem gchk1_any (A:Option Addr) (m c q K:Nat) (Ac:Option Addr) (cc:Nat) (w:World) (h:w.cell? ⟨q,1,none⟩=some (.slice Ac K cc)):Calls Tryz.prog 75 #[.slice A m c,.pointer (some ⟨q,0,none⟩)] w fun e w'=>e=.returned (.bool (decide (m≠K)))∧Below w.heap.size w w':=by
 by_cases hm:m=K
 ·have hb:((m:Int) != (K:Int))=false:=by simp [hm]
  have HF:Hid (decide (m≠K)=false):=hid_of (by simp [hm])
  clear hm
  go_enter Tryz.func75,Tryz.ntmps75
  go_wp2_with fail
  go_ret
  exact ⟨by rw [HF.out];rfl,by go_grown⟩
 ·have hb:((m:Int) != (K:Int))=true:=by simp;omega
  have HF:Hid (decide (m≠K)=true):=hid_of (by simp [hm])
  clear hm
  go_enter Tryz.func75,Tryz.ntmps75
  go_wp2_with fail
  go_ret
  exact ⟨by rw [HF.out];rfl,by go_grown⟩
def ownG (w:World) (u v z:Value):World:=w.alloc (.cells #[u,v,z] 75)
theorem ownG_at (w:World) (u v z:Value):(ownG w u v z).heap[w.heap.size]?=some (.cells #[u,v,z] 75 (0,0)):=heap_alloc_new ..
theorem ownG_below (w:World) (u v z:Value):Below w.heap.size w (ownG w u v z):=by unfold ownG;go_grown
theorem lZ_any (zz:List CsL) (p:List (Int×Int)→Bool):(lZ zz).any p=zz.any fun x=>p x.L:=by simp [lZ,List.any_map,Function.comp_def]
theorem zz_mem {zz:List CsL} {k:Nat} (h:k<zz.length):zz.getD k noCs∈zz:=by
 rw [List.getD_eq_getElem?_getD,List.getElem?_eq_getElem h]
 exact List.getElem_mem h
set_option maxHeartbeats 16000000 in
theorem gcheck_any (Ar:Option Addr) (R cr:Nat) (Ac:Option Addr) (K cc:Nat) (Ag:Option Addr) (cg:Nat) (zz:List CsL) (w:World) (hn:zz.length≤1048576) (hx:∀ x∈zz,x.L.length≤1048576) (hZ:CssV w Ag cg zz) :
  Calls Tryz.prog 35 #[.agg #[.slice Ar R cr,.slice Ac K cc,.slice Ag zz.length cg]] w fun e w'=>e=.returned (errV (gErr R K (lZ zz)))∧Below w.heap.size w w':=by
 have hB0:=ownG_below w (.slice Ar R cr) (.slice Ac K cc) (.slice Ag zz.length cg)
 have hb:=ownG_at w (.slice Ar R cr) (.slice Ac K cc) (.slice Ag zz.length cg)
 obtain ⟨W,hW⟩:∃ W,ownG w (.slice Ar R cr) (.slice Ac K cc) (.slice Ag zz.length cg)=W:=⟨_,rfl⟩
 rw [hW] at hB0 hb
 unfold ownG at hW
 obtain ⟨k0,k1,k2,-,-,-⟩:=tri_at hb
 have hq:w.heap.size<W.heap.size:=(Array.getElem?_eq_some_iff.1 hb).1
 have hct:=contz_any 75 #[.pointer (some ⟨w.heap.size,0,none⟩)] (fun x=>decide (x.L.length≠K)) gchk1_in Ag cg zz W hn (hZ.later hB0) fun x w' _ hB=>gchk1_any x.A x.L.length x.c w.heap.size K Ac cc w' ((hB.cell (p:=⟨w.heap.size,1,none⟩) hq).trans k1)
 have HB0:=hid_of hB0
 have HZ:=hid_of (hZ.later hB0)
 have HX:=hid_of hx
 have HA:=hid_of (lZ_any zz fun L=>decide (L.length≠K))
 have HL:=hid_of (lZ_len zz)
 obtain ⟨N,hN⟩:∃ N,zz.length=N:=⟨_,rfl⟩
 rw [hN] at hct hW k2 hn ⊢
 have HN:=hid_of hN
 have hNI:(N:Int)≤1048576:=by omega
 clear hx hZ hB0 hb hN
 by_cases h1:N=R
 case neg =>
  have t1:((N:Int) != (R:Int))=true:=by simp;omega
  have HE:Hid (gErr R K (lZ zz)=3):=gErr_len (by rw [HL.out,HN.out];exact h1)
  clear h1 hct
  go_enter Tryz.func35,Tryz.ntmps35
  go_wp2_with fail
  go_ret
  exact ⟨by rw [HE.out];rfl,HB0.out⟩
 have HLR:Hid ((lZ zz).length=R):=by show _=_;rw [HL.out,HN.out];exact h1
 have t1:((N:Int) != (R:Int))=false:=by simp [h1]
 clear h1
 cases h2:zz.any (fun x=>decide (x.L.length≠K)) with
 | true =>
  rw [h2] at hct
  have HE:Hid (gErr R K (lZ zz)=3):=gErr_row HLR.out (by rw [HA.out];exact h2)
  clear h2
  go_enter Tryz.func35,Tryz.ntmps35
  go_wp2_with fail
  refine hct.mono ?_
  rintro e w1 ⟨rfl,hb1⟩
  go_wp2_with fail
  go_ret
  exact ⟨by rw [HE.out];rfl,onB HB0.out hb1⟩
 | false =>
  rw [h2] at hct
  have HE:Hid (gErr R K (lZ zz)=if (lZ zz).any badC=true then 1 else 0):=gErr_cel HLR.out (by rw [HA.out];exact h2)
  have HBc:=hid_of (lZ_any zz badC)
  clear h2
  go_enter Tryz.func35,Tryz.ntmps35
  go_wp2_with fail
  refine hct.mono ?_
  rintro e w1 ⟨rfl,hb1⟩
  have c2:=(hb1.cell (p:=⟨w.heap.size,2,none⟩) hq).trans k2
  have hq1:w.heap.size<w1.heap.size:=Nat.lt_of_lt_of_le hq hb1.size
  have HZ1:=hid_of (HZ.out.later hb1)
  have HB1:=hid_of (onB HB0.out hb1)
  clear hb1 hct k0 k1 k2
  go_wp2_with fail
  go_loopg [24] N (fun gg s24 wr => ∃ (k:Nat),k≤N∧gg=N-k∧s24=.int .i64 k∧Hid (∀ i,i<k→badC (zz.getD i noCs).L=false)∧Hid (Below w1.heap.size w1 wr))
  case atStart=>exact ⟨0,Nat.zero_le _,rfl,rfl,hid_of fun i hi=>absurd hi (Nat.not_lt_zero _),hid_of (Below.refl _ _)⟩
  case round =>
   obtain ⟨k,hk,rfl,rfl,HO,HB⟩:=hrel
   by_cases hlt:k<N
   ·have hkz:k<zz.length:=by rw [HN.out];exact hlt
    have hki:(k:Int)<(N:Int):=by omega
    obtain ⟨hcg,hcg2,h0 | ⟨b,o,rfl,hbl,hcl⟩⟩:=HZ1.out.later HB.out
    ·rw [h0] at hkz;simp at hkz
    obtain ⟨e1,e2⟩:=hcl k hkz
    have hx1:=HX.out _ (zz_mem hkz)
    have HBd:=hid_of fun (h:badC (zz.getD k noCs).L=true)=>(HE.out.trans (if_pos (HBc.out.trans (List.any_eq_true.2 ⟨_,zz_mem hkz,h⟩))))
    have HOk:Hid (badC (zz.getD k noCs).L=false→∀ i,i<k+1→badC (zz.getD i noCs).L=false):=fun h i hi=>by
     by_cases e:i=k
     ·subst e;exact h
     ·exact HO.out i (by omega)
    generalize zz.getD k noCs=x at e1 e2 hx1 HBd HOk
    obtain ⟨xl,xA,xc⟩:=x
    simp only at e1 e2 hx1 HBd HOk
    obtain ⟨m,hm⟩:∃ m,xl.length=m:=⟨_,rfl⟩
    rw [hm] at e1 hx1
    have HMl:=hid_of hm
    have HE2:=hid_of e2
    have hmI:(m:Int)≤1048576:=by omega
    have hNg:(N:Int)≤(cg:Int):=by have:=HN.out;omega
    clear hcl hm e2 HO
    go_wp2_with fail
    go_loopg [30] m (fun gg s30 wi => ∃ (c:Nat),c≤m∧gg=m-c∧s30=.int .i64 c∧Hid (∀ i,i<c→good (xl.getD i noC).1 (xl.getD i noC).2=true)∧Hid (Below w1.heap.size w1 wi)∧Hid (CelV wi xA xc xl))
    case atStart=>exact ⟨0,Nat.zero_le _,rfl,rfl,hid_of fun i hi=>absurd hi (Nat.not_lt_zero _),HB,HE2⟩
    case round =>
     obtain ⟨c,hc,rfl,rfl,HG,HBi,HV⟩:=hrel
     by_cases hct2:c<m
     ·have hcx:c<xl.length:=by rw [HMl.out];exact hct2
      have hci:(c:Int)<(m:Int):=by omega
      obtain ⟨hv1,hv2,h0 | ⟨b2,o2,rfl,hAt⟩⟩:=HV.out
      ·rw [h0] at hcx;simp at hcx
      obtain ⟨x0,x1⟩:=hAt.2 c hcx
      have hb2:=hAt.1
      have hmem:=celD_mem hcx
      have HBad:Hid (good (xl.getD c noC).1 (xl.getD c noC).2=false→gErr R K (lZ zz)=1):=fun h=>HBd.out (List.any_eq_true.2 ⟨_,hmem,by rw [h];rfl⟩)
      have HG2:Hid (good (xl.getD c noC).1 (xl.getD c noC).2=true→∀ i,i<c+1→good (xl.getD i noC).1 (xl.getD i noC).2=true):=fun h i hi=>by
       by_cases e:i=c
       ·subst e;exact h
       ·exact HG.out i (by omega)
      have hmc:(m:Int)≤(xc:Int):=by have:=HMl.out;omega
      generalize (xl.getD c noC).1=va at x0 HBad HG2
      generalize (xl.getD c noC).2=vb at x1 HBad HG2
      obtain ⟨y,hy⟩:∃ y,wr.alloc (.cells #[.int .i64 va,.int .i64 vb] 40)=y:=⟨_,rfl⟩
      have hBy:Below wr.heap.size wr y:=by rw [←hy];go_grown
      have hyb:y.heap[wr.heap.size]?=some (.cells #[.int .i64 va,.int .i64 vb] 40 (0,0)):=by rw [←hy];exact heap_alloc_new ..
      obtain ⟨y0,y1,-,-⟩:=pair_at hyb
      have HBy:=hid_of (onB HBi.out hBy)
      have HVy:=hid_of (HV.out.later hBy)
      clear hyb hBy hAt hmem HG HV HBi
      cases hg:good va vb with
      | true =>
       have hck:=check_yes hg y
       have HG3:=hid_of (HG2.out hg)
       clear hg
       go_wp2_with fail
       refine hck.mono ?_
       rintro e w2 ⟨rfl,hb2⟩
       have HB2:=hid_of (onB HBy.out hb2)
       have HV2:=hid_of (HVy.out.later hb2)
       clear hb2
       go_wp2_with fail
       go_roundg (m-(c+1))
       case measure=>omega
       case rel=>exact ⟨c+1,by omega,rfl,by go_num,HG3,HB2,HV2⟩
      | false =>
       have hck:=check_no hg y
       have HE3:=hid_of (HBad.out hg)
       clear hg
       go_wp2_with fail
       refine hck.mono ?_
       rintro e w2 ⟨rfl,hb2⟩
       go_wp2_with fail
       go_ret
       exact ⟨by rw [HE3.out];rfl,onB (onB HB1.out HBy.out) hb2⟩
     ·have hce:c=m:=by omega
      have HG3:Hid (badC xl=false):=List.any_eq_false.2 fun z hz=>by
       obtain ⟨i,hi,rfl⟩:=List.getElem_of_mem hz
       have:=HG.out i (by rw [hce,←HMl.out];exact hi)
       rw [List.getD_eq_getElem?_getD,List.getElem?_eq_getElem hi,Option.getD_some] at this
       rw [this]
       decide
      have HO2:=hid_of (HOk.out HG3.out)
      subst hce
      clear HG HV HE2
      go_wp2_with fail
      go_roundg (N-(k+1))
      case measure=>omega
      case rel=>exact ⟨k+1,by omega,rfl,by go_num,HO2,HBi⟩
   ·have hke:k=N:=by omega
    have HE3:Hid (gErr R K (lZ zz)=0):=HE.out.trans (if_neg (by
     rw [HBc.out,Bool.not_eq_true]
     refine List.any_eq_false.2 fun z hz=>?_
     obtain ⟨i,hi,rfl⟩:=List.getElem_of_mem hz
     have:=HO.out i (by rw [hke,←HN.out];exact hi)
     rw [List.getD_eq_getElem?_getD,List.getElem?_eq_getElem hi,Option.getD_some] at this
     rw [this]
     decide))
    subst hke
    go_wp2_with fail
    go_ret
    exact ⟨by rw [HE3.out];rfl,onB HB1.out HB.out⟩
end Go.Proofs.YtmmpanbkmpdnkahGreatDoor
