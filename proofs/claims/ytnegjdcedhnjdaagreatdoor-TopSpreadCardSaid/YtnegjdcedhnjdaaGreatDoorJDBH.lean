/-
  What the small functions of package grid answer, in whatever memory: anyOutside, placesOf; and the question that Make hands to table.
-/
import Derived.Deep.RegionHeld
import Derived.Test.YtnegjdcedhnjdaaGreatDoorShelfH
import Derived.Test.YtnegjdcedhnjdaaGreatDoorJDBA
import Derived.Test.YtnegjdcedhnjdaaGreatDoorJDBG
namespace Go.Proofs.YtnegjdcedhnjdaaGreatDoor
open Go.ChangeShapes Go.WideShapes Go.ChangeAt Go.RowKit
set_option maxRecDepth 20000
theorem out1_any (i:Int) (m q:Nat) (w:World) (h:w.cell? ⟨q,0,none⟩=some (.int .i64 m)):Calls Tryz.prog 48 #[.int .i64 i,.pointer (some ⟨q,0,none⟩)] w fun e w'=>e=.returned (.bool (outI m i))∧Below w.heap.size w w':=by
 unfold outI
 by_cases h1:i<0
 ·go_enter Tryz.func48,Tryz.ntmps48
  go_wp2
  go_ret
  exact ⟨by simp <;> omega,by go_grown⟩
 ·go_enter Tryz.func48,Tryz.ntmps48
  go_wp2
  go_ret
  exact ⟨by simp <;> omega,by go_grown⟩
theorem outside_any (A:Option Addr) (c:Nat) (L:List Int) (m:Nat) (w:World) (hn:L.length≤1048576) (hL:PlAt w A c L):Calls Tryz.prog 20 #[.slice A L.length c,.int .i64 m] w fun e w'=>e=.returned (.bool (L.any (outI m)))∧Below w.heap.size w w':=by
 obtain ⟨W,hW⟩:∃ W,w.alloc (.cells #[.int .i64 m] 3)=W:=⟨_,rfl⟩
 have hB0:Below w.heap.size w W:=by rw [←hW];go_grown
 have hb:W.heap[w.heap.size]?=some (.cells #[.int .i64 m] 3 (0,0)):=by rw [←hW];exact heap_alloc_new ..
 have h:=contm_pl 48 #[.pointer (some ⟨w.heap.size,0,none⟩)] (outI m) (fun args w=>by simp [callFunc,Tryz.func48];rfl) A c L W hn (hL.later hB0) fun x w' _ hB=>out1_any x m w.heap.size w' ((hB.cell (p:=⟨w.heap.size,0,none⟩) (Array.getElem?_eq_some_iff.1 hb).1).trans ((Lib.cell_of_heap hb 0).trans rfl))
 rw [any_find] at h
 have HB0:=hid_of hB0
 show Calls _ _ _ _ fun e w'=>e=.returned (.bool (anyL (outI m) L))∧_
 generalize anyL (outI m) L=r at h
 generalize L.length=l at h
 clear hL hb hB0
 go_enter Tryz.func20,Tryz.ntmps20
 go_wp2_with fail
 refine h.mono ?_
 rintro e w1 ⟨rfl,hb1⟩
 go_wp2_with fail
 go_ret
 exact ⟨rfl,onB HB0.out hb1⟩
def risL (n:Nat):List Int:=(List.range n).map fun i:Nat=>(i:Int)
theorem risL_len (n:Nat):(risL n).length=n:=by simp [risL]
def risTo (n k:Nat):List Int:=(List.range n).map fun i:Nat=>if i<k then (i:Int) else 0
theorem risTo_len (n k:Nat):(risTo n k).length=n:=by simp [risTo]
theorem risTo_zero (n:Nat):risTo n 0=List.replicate n 0:=by
 refine List.ext_getElem (by simp [risTo]) fun _ _ _=>?_
 simp [risTo]
theorem risTo_all (n:Nat):risTo n n=risL n:=List.map_congr_left fun _ hi=>if_pos (List.mem_range.1 hi)
theorem risTo_set (n k:Nat):(risTo n k).set k (k:Int)=risTo n (k+1):=by
 refine List.ext_getElem (by simp [risTo]) fun i h1 h2=>?_
 rw [List.getElem_set]
 by_cases e:k=i
 ·subst e
  simp [risTo]
 ·rw [if_neg e]
  simp only [risTo,List.getElem_map,List.getElem_range]
  by_cases h3:i<k
  ·rw [if_pos h3,if_pos (by omega)]
  ·rw [if_neg h3,if_neg (by omega)]
theorem gplaces_any (A:Option Addr) (c n:Nat) (w:World) (hn:n≤12):Calls Tryz.prog 21 #[.slice A n c] w fun e w'=>e=.returned (.slice (some ⟨w.heap.size,0,none⟩) n n)∧IntB w' w.heap.size (risL n)∧Below w.heap.size w w':=by
 have hmk:=run_make_row' (P:=Tryz.prog) 26 3 (.int .i64 0) 8 Tryz.underlying26 Tryz.infoInt rfl .i64 .i64 n (by omega) (by omega)
 have hnI:(n:Int)≤12:=by omega
 have HI0:Hid (IntB (w.alloc (.cells (madeCells #[.int .i64 0] n) 3)) w.heap.size (risTo n 0)):=by
  show IntB ..
  rw [risTo_zero]
  exact IntB.made w n
 go_enter Tryz.func21,Tryz.ntmps21
 go_wp2_with fail
 go_loopg [10] n (fun gg s10 wr => ∃ (k:Nat),k≤n∧gg=n-k∧s10=.int .i64 k∧Hid (IntB wr w.heap.size (risTo n k))∧Hid (Below w.heap.size w wr))
 case atStart=>exact ⟨0,Nat.zero_le _,rfl,rfl,HI0,hid_of (by go_grown)⟩
 case round =>
  obtain ⟨k,hk,rfl,rfl,HI,HB⟩:=hrel
  by_cases hlt:k<n
  ·have hki:(k:Int)<(n:Int):=by omega
   have c0:=HI.out.cell (j:=k) (by rw [risTo_len];exact hlt)
   have f0:=HI.out.frozen k
   have hl:=HI.out.lt
   have HI2:Hid (IntB (wr.setCell ⟨w.heap.size,k,none⟩ (.int .i64 k)) w.heap.size (risTo n (k+1))):=by
    show IntB ..
    rw [←risTo_set]
    exact HI.out.set k k
   have HB2:Hid (Below w.heap.size w (wr.setCell ⟨w.heap.size,k,none⟩ (.int .i64 k))):=HB.out.setCell (Nat.le_refl _) _
   clear HI HB
   go_wp2_with fail
   go_roundg (n-(k+1))
   case measure=>omega
   case rel=>exact ⟨k+1,by omega,rfl,by go_num,HI2,HB2⟩
  ·have hke:k=n:=by omega
   subst hke
   have HI2:Hid (IntB wr w.heap.size (risL k)):=by
    show IntB ..
    rw [←risTo_all]
    exact HI.out
   go_wp2_with fail
   go_ret
   exact ⟨rfl,HI2.out,HB.out⟩
def PB (w:World) (g:Nat) (L:List Int):Prop := ∃ cur:Array Value,w.heap[g]?=some (.cells cur 3 (0,0))∧∀ j,j<L.length→cur[j]?=some (.int .i64 (L.getD j 0))
section
variable {w w':World} {g:Nat} {L:List Int}
theorem PB.lt (h:PB w g L):g<w.heap.size:=by
 obtain ⟨cur,h1,_⟩:=h
 exact (Array.getElem?_eq_some_iff.1 h1).1
theorem PB.same (h:PB w g L) (hb:w'.heap[g]?=w.heap[g]?):PB w' g L:=by
 obtain ⟨cur,h1,h2⟩:=h
 exact ⟨cur,hb.trans h1,h2⟩
theorem PB.cell (h:PB w g L) {j:Nat} (hj:j<L.length):w.cell? ⟨g,j,none⟩=some (.int .i64 (L.getD j 0)):=by
 obtain ⟨cur,h1,h2⟩:=h
 rw [Lib.cell_of_heap h1]
 exact h2 j hj
theorem PB.frozen (h:PB w g L) (j:Nat):w.frozen? ⟨g,j,none⟩=false:=by
 obtain ⟨cur,h1,_⟩:=h
 exact Lib.frozen_of_heap h1 j
theorem PB.set (h:PB w g L) {x:Nat} (v:Int):PB (w.setCell ⟨g,x,none⟩ (.int .i64 v)) g (L.set x v):=by
 obtain ⟨cur,h1,h2⟩:=h
 refine ⟨cur.setIfInBounds x (.int .i64 v),by simp [World.setCell,Array.getElem?_modify,h1],fun k hk=>?_⟩
 rw [List.length_set] at hk
 have h3:=h2 k hk
 have z:=(Array.getElem?_eq_some_iff.1 h3).1
 by_cases e:k=x
 ·subst e
  rw [Array.getElem?_setIfInBounds_self_of_lt z]
  simp [List.getD,hk]
 ·rw [Array.getElem?_setIfInBounds_ne (by omega),h3]
  simp [List.getD,List.getElem?_set_ne (fun h=>e h.symm)]
theorem PB.pl (h:PB w g L) {c:Nat} (hc:L.length≤c):PlAt w (some ⟨g,0,none⟩) c L:=⟨hc,Or.inr ⟨g,0,rfl,h.lt,fun j hj=>by rw [Nat.zero_add];exact h.cell hj⟩⟩
theorem pb_own {base:Nat} {v:Value} (h:w.ownsRow base 3 1 v L.length (L.map (Value.int .i64))) (hl:0<L.length):∃ g c,v=.slice (some ⟨g,0,none⟩) L.length c∧base≤g∧L.length≤c∧PB w g L:=by
 rcases h.2 with ⟨_,h0⟩ | ⟨g,cap,cur,rfl,hb,hg,h4,h5,h6,h7⟩
 ·omega
 ·refine ⟨g,cap,rfl,hb,h4,cur,hg,fun k hk=>?_⟩
  have x0:(L.map (Value.int .i64))[k]?=some (.int .i64 (L.getD k 0)):=by simp [List.getD,hk]
  rw [←h7,List.getElem?_take,if_pos (by omega),Array.getElem?_toList] at x0
  exact x0
end
theorem set_agree {L L':List Int} {i k:Nat} (hl:L'.length=L.length) (h:∀ j,j≠i→j≠k→L'.getD j 0=L.getD j 0) (x y:Int):(L'.set i x).set k y=(L.set i x).set k y:=by
 refine List.ext_getElem (by simp [hl]) fun j h1 h2=>?_
 simp only [List.getElem_set]
 by_cases e1:k=j
 ·rw [if_pos e1,if_pos e1]
 ·by_cases e2:i=j
  ·rw [if_neg e1,if_neg e1,if_pos e2,if_pos e2]
  ·rw [if_neg e1,if_neg e1,if_neg e2,if_neg e2]
   have h3:j<L'.length:=by simpa using h1
   have h4:j<L.length:=by simpa using h2
   have:=h j (fun e=>e2 e.symm) (fun e=>e1 e.symm)
   simpa [List.getD,h3,h4] using this
theorem set_other (L:List Int) (i k:Nat) (x y:Int) (j:Nat) (h1:j≠i) (h2:j≠k):((L.set i x).set k y).getD j 0=L.getD j 0:=by
 simp [List.getD,List.getElem?_set_ne (fun h=>h1 h.symm),List.getElem?_set_ne (fun h=>h2 h.symm)]
def MkI (w0:World) (q1 gP n cP row col:Nat) (L:List Int) (w:World):Prop:=Below w0.heap.size w0 w∧w.cell? ⟨q1,0,none⟩=some (.slice (some ⟨gP,0,none⟩) n cP)∧∃ L',L'.length=n∧(∀ j,j≠row→j≠col→L'.getD j 0=L.getD j 0)∧PB w gP L'
theorem mk1_in (args:Array Value) (w:World):(callFunc 24 args).run Tryz.prog w=.ok (.enter 24 args) w:=by simp [callFunc,Tryz.func24];rfl
set_option maxHeartbeats 8000000 in
theorem mk1_any (q1 q2 q3 q4 q5 gP cP:Nat) (A0:Option Addr) (cap n:Nat) (D:Nat→Dm) (A:Nat→Option Addr) (C:Nat→Nat) (AV:Option Addr) (cV:Nat) (V:List (Int×Int)) (L:List Int) (row col r c:Nat) (w0 w:World) (hI:InO D n ((L.set row r).set col c)) (hVl:V.length=prodN D n) (hLl:L.length=n) (hrow:row<n) (hcol:col<n) (hcP:n≤cP) (hgP:w0.heap.size≤gP) (hq1:q1≠gP)
  (hM:DimsV w0 A0 cap n D A C) (hV:CelV w0 AV cV V) (c2:w0.cell? ⟨q2,0,none⟩=some (.int .i64 row)) (c3:w0.cell? ⟨q3,0,none⟩=some (.int .i64 col)) (c4:w0.cell? ⟨q4,0,none⟩=some (.slice A0 n cap)) (c5:w0.cell? ⟨q5,0,none⟩=some (.slice AV (prodN D n) cV)) (hInv:MkI w0 q1 gP n cP row col L w) :
  Calls Tryz.prog 24 #[.int .i64 r,.int .i64 c,.pointer (some ⟨q1,0,none⟩),.pointer (some ⟨q2,0,none⟩),.pointer (some ⟨q3,0,none⟩),.pointer (some ⟨q4,0,none⟩),.pointer (some ⟨q5,0,none⟩)] w fun e w'=>e=.returned (.tuple #[.agg #[.int .i64 (V.getD (numI D ((L.set row r).set col c) n).toNat noC).1,.int .i64 (V.getD (numI D ((L.set row r).set col c) n).toNat noC).2],.nilIface])∧MkI w0 q1 gP n cP row col L w'∧Kept w.heap.size (fun b=>b=gP) w w':=by
 obtain ⟨hB,cq,L',hl',hag,hP⟩:=hInv
 have hset:=set_agree (hl'.trans hLl.symm) hag r c
 obtain ⟨hn1,hn4,hp3,hd⟩:=allErr_some hI.right
 have z2:=World.block_lt_of_cell? _ _ c2
 have z3:=World.block_lt_of_cell? _ _ c3
 have z4:=World.block_lt_of_cell? _ _ c4
 have z5:=World.block_lt_of_cell? _ _ c5
 have z1:=World.block_lt_of_cell? _ _ cq
 simp only at z1 z2 z3 z4 z5
 obtain ⟨y,hy⟩:∃ y,w.alloc (.cells #[.int .i64 0,.int .i64 0] 48)=y:=⟨_,rfl⟩
 have hBy:Below w.heap.size w y:=by rw [←hy];go_grown
 have hyb:y.heap[w.heap.size]?=some (.cells #[.int .i64 0,.int .i64 0] 48 (0,0)):=by rw [←hy];exact heap_alloc_new ..
 have hB0y:=onB hB hBy
 have hPy:=hP.same (hBy.block _ hP.lt)
 have y1:=(hBy.cell (p:=⟨q1,0,none⟩) z1).trans cq
 have y2:=(hB0y.cell (p:=⟨q2,0,none⟩) z2).trans c2
 have y3:=(hB0y.cell (p:=⟨q3,0,none⟩) z3).trans c3
 have yr:=hPy.cell (j:=row) (by omega)
 have fr:=hPy.frozen row
 have fc:=hPy.frozen col
 have hgy:=hPy.lt
 obtain ⟨Z,hZ⟩:∃ Z,((y.setCell ⟨gP,row,none⟩ (.int .i64 r)).setCell ⟨gP,col,none⟩ (.int .i64 c)).drew=Z:=⟨_,rfl⟩
 have hPr:=hPy.set (x:=row) r
 have yc:=hPr.cell (j:=col) (by rw [List.length_set];omega)
 have fcr:=hPr.frozen col
 have yr1:=(World.cell?_of_block (a:=⟨q1,0,none⟩) (setCell_off y gP row q1 (.int .i64 r) hq1)).trans y1
 have yr3:=(World.cell?_of_block (a:=⟨q3,0,none⟩) (setCell_off y gP row q3 (.int .i64 r) (by omega))).trans y3
 have hoff:∀ b,b≠gP→Z.heap[b]?=y.heap[b]?:=fun b hb=>by rw [←hZ];exact (setCell_off _ _ _ _ _ hb).trans (setCell_off _ _ _ _ _ hb)
 have hZs:Z.heap.size=y.heap.size:=by rw [←hZ];simp [World.drew]
 have hPZ:PB Z gP ((L.set row r).set col c):=by rw [←hset,←hZ];exact (hPr.set (x:=col) c).same rfl
 have hKZ:Kept w.heap.size (fun b=>b=gP) w Z:=by
  have k1:Kept w.heap.size (fun b=>b=gP) w y:=kept_below hBy (Nat.le_refl _)
  exact ⟨by rw [←hZ];exact k1.os,by rw [←hZ];exact k1.tape,by rw [←hZ];exact k1.output,by rw [hZs];exact k1.size,fun b hb hx=>(hoff b hx).trans (k1.block b hb hx)⟩
 have hBZ:Below w0.heap.size w0 Z:=⟨hKZ.os.trans hB.os,hKZ.tape.trans hB.tape,hKZ.output.trans hB.output,Nat.le_trans hB.size hKZ.size,fun b hb=>(hKZ.block b (Nat.lt_of_lt_of_le hb hB.size) (by omega)).trans (hB.block b hb)⟩
 have Z1:Z.cell? ⟨q1,0,none⟩=some (.slice (some ⟨gP,0,none⟩) n cP):=(World.cell?_of_block (a:=⟨q1,0,none⟩) (hoff q1 hq1)).trans y1
 have Z4:=(hBZ.cell (p:=⟨q4,0,none⟩) z4).trans c4
 have hZb:Z.heap[w.heap.size]?=some (.cells #[.int .i64 0,.int .i64 0] 48 (0,0)):=(hoff _ (by have:=hP.lt;omega)).trans hyb
 have hpl:((L.set row r).set col c).length=n:=by simp [hLl]
 have hnum:=pnumber_any A0 cap n D A C (some ⟨gP,0,none⟩) cP _ Z (hM.later hBZ) (hPZ.pl (c:=cP) (by rw [hpl];exact hcP))
 have hbd:=numI_bound hI (Nat.le_refl n)
 have hnv:numV D n ((L.set row r).set col c)=numI D ((L.set row r).set col c) n:=by unfold numV;rw [if_pos hI.ok]
 rw [hpl,hI.ok,errV_zero,hnv] at hnum
 obtain ⟨m,hm⟩:∃ m:Nat,numI D ((L.set row r).set col c) n=m:=⟨(numI D ((L.set row r).set col c) n).toNat,by omega⟩
 rw [hm] at hnum ⊢
 rw [hm] at hbd
 have hmN:m<prodN D n:=by omega
 simp only [Int.toNat_natCast]
 have HV:Hid (∀ w',Below Z.heap.size Z w'→∃ b o,AV=some ⟨b,o,none⟩∧b<w'.heap.size∧w'.cell? ⟨b,o+m*2,none⟩=some (.int .i64 (V.getD m noC).1)∧w'.cell? ⟨b,o+m*2+1,none⟩=some (.int .i64 (V.getD m noC).2)):=fun w' h=>by
  obtain ⟨-,-,h0 | ⟨b,o,h1,h2⟩⟩:=(hV.later hBZ).later h
  ·rw [h0] at hVl;simp at hVl;omega
  ·exact ⟨b,o,h1,h2.1,h2.2 m (by omega)⟩
 have HEnd:Hid (∀ w',Below Z.heap.size Z w'→∀ u v:Value,MkI w0 q1 gP n cP row col L ((w'.setCell ⟨w.heap.size,0,none⟩ u).setCell ⟨w.heap.size,1,none⟩ v)∧Kept w.heap.size (fun b=>b=gP) w ((w'.setCell ⟨w.heap.size,0,none⟩ u).setCell ⟨w.heap.size,1,none⟩ v)):=fun w' h u v=>by
  have hk:Kept w.heap.size (fun b=>b=gP) w ((w'.setCell ⟨w.heap.size,0,none⟩ u).setCell ⟨w.heap.size,1,none⟩ v):=kept_setc (kept_setc (hKZ.trans (kept_below h hKZ.size)) (Nat.le_refl _)) (Nat.le_refl _)
  have ho:∀ b,b≠w.heap.size→b<Z.heap.size→((w'.setCell ⟨w.heap.size,0,none⟩ u).setCell ⟨w.heap.size,1,none⟩ v).heap[b]?=Z.heap[b]?:=fun b hb hz=>((setCell_off _ _ _ _ _ hb).trans (setCell_off _ _ _ _ _ hb)).trans (h.block b hz)
  refine ⟨⟨⟨hk.os.trans hB.os,hk.tape.trans hB.tape,hk.output.trans hB.output,Nat.le_trans hB.size hk.size,fun b hb=>(hk.block b (Nat.lt_of_lt_of_le hb hB.size) (by omega)).trans (hB.block b hb)⟩,?_,(L.set row r).set col c,hpl,set_other L row col r c,?_⟩,hk⟩
  ·exact (World.cell?_of_block (a:=⟨q1,0,none⟩) (ho q1 (by omega) (Nat.lt_of_lt_of_le z1 hKZ.size))).trans Z1
  ·exact hPZ.same (ho gP (by have:=hP.lt;omega) hPZ.lt)
 have HZb:=hid_of hZb
 have z5Z:q5<Z.heap.size:=Nat.lt_of_lt_of_le z5 hBZ.size
 have Z5:=(hBZ.cell (p:=⟨q5,0,none⟩) z5).trans c5
 have hwZ:w.heap.size<Z.heap.size:=(Array.getElem?_eq_some_iff.1 hZb).1
 have hrI:(row:Int)<(n:Int):=by omega
 have hcI:(col:Int)<(n:Int):=by omega
 have hmI:(m:Int)<((prodN D n:Nat):Int):=by omega
 have hcPI:(n:Int)≤(cP:Int):=by omega
 generalize (V.getD m noC).1=va at HV
 generalize (V.getD m noC).2=vb at HV
 generalize prodN D n=N at hmI Z5
 generalize L'.getD row 0=x1 at yr
 generalize ((L'.set row r).getD col 0)=x2 at yc
 clear hB cq hP hag hset hI hM hV c2 c3 c4 c5 hBy hyb hB0y hPy hPr hoff hPZ hKZ hBZ hZb hpl hbd hnv hm hmN hd hp3 hVl hl' z1 z2 z3 z4
 go_enter Tryz.func24,Tryz.ntmps24
 go_wp2_with fail
 go_region
 go_wp2_with fail
 refine hnum.mono ?_
 rintro e w2 ⟨rfl,hb2⟩
 obtain ⟨bv,ov,rfl,hbv,v1,v2⟩:=HV.out w2 hb2
 have d5:=(hb2.cell (p:=⟨q5,0,none⟩) z5Z).trans Z5
 have h2s:w.heap.size<w2.heap.size:=Nat.lt_of_lt_of_le hwZ hb2.size
 have hbx:=(hb2.block _ hwZ).trans HZb.out
 obtain ⟨s0,s1,g0,g1⟩:=pair_at hbx
 have HE:=hid_of (HEnd.out w2 hb2 (.int .i64 va) (.int .i64 vb))
 obtain ⟨t0,t1,-,-⟩:=pair_at (pair_set (a:=.int .i64 va) (b:=.int .i64 vb) hbx)
 obtain ⟨U,hU⟩:∃ U,(w2.setCell ⟨w.heap.size,0,none⟩ (.int .i64 va)).setCell ⟨w.heap.size,1,none⟩ (.int .i64 vb)=U:=⟨_,rfl⟩
 rw [hU] at t0 t1 HE
 clear hb2 hbx hnum
 go_wp2_with fail
 exact bodyPost_ret (v:=.tuple #[.agg #[.int .i64 va,.int .i64 vb],.nilIface]) (by simp [results,Tryz.results24,go_sem,t0,t1]) rfl ⟨rfl,HE.out⟩
theorem tri_set {w:World} {q:Nat} {x y z a b c:Value} {T:Nat} (h:w.heap[q]?=some (.cells #[x,y,z] T)):(((w.setCell ⟨q,0,none⟩ a).setCell ⟨q,1,none⟩ b).setCell ⟨q,2,none⟩ c).heap[q]?=some (.cells #[a,b,c] T):=by
 simp [World.setCell,Array.getElem?_modify,h]
theorem tri_at {w:World} {q:Nat} {x y z:Value} {T:Nat} (h:w.heap[q]?=some (.cells #[x,y,z] T)):w.cell? ⟨q,0,none⟩=some x∧w.cell? ⟨q,1,none⟩=some y∧w.cell? ⟨q,2,none⟩=some z∧w.frozen? ⟨q,0,none⟩=false∧w.frozen? ⟨q,1,none⟩=false∧w.frozen? ⟨q,2,none⟩=false :=
 ⟨by rw [Lib.cell_of_heap h];rfl,by rw [Lib.cell_of_heap h];rfl,by rw [Lib.cell_of_heap h];rfl,Lib.frozen_of_heap h 0,Lib.frozen_of_heap h 1,Lib.frozen_of_heap h 2⟩
theorem below_tri {w w':World} {q:Nat} {a b c:Value} (h:Below w.heap.size w w') (hq:w.heap.size≤q):Below w.heap.size w (((w'.setCell ⟨q,0,none⟩ a).setCell ⟨q,1,none⟩ b).setCell ⟨q,2,none⟩ c):=((h.setCell hq _).setCell hq _).setCell hq _
end Go.Proofs.YtnegjdcedhnjdaaGreatDoor
namespace Go.Proofs.YtnegjdcedhnjdaaGreatDoor
open Go.ChangeShapes Go.WideShapes Go.ChangeAt Go.RowKit
set_option maxRecDepth 100000
theorem setCells_ty {g T:Nat} {fr:Nat×Nat}:∀ (vs:List Value) (o:Nat) (cur:Array Value) (w:World),w.heap[g]?=some (.cells cur T fr)→∃ cur',(w.setCells g o vs).heap[g]?=some (.cells cur' T fr)∧cur'.size=cur.size
 | [],_,cur,_,h=>⟨cur,h,rfl⟩
 | v :: r,o,cur,w,h=>by
  obtain ⟨c2,h2,h3⟩:=setCells_ty r (o+1) _ (w.setCell ⟨g,o,none⟩ v) (set_ty h)
  exact ⟨c2,h2,by rw [h3];simp⟩
theorem setCells_size (g:Nat):∀ (vs:List Value) (o:Nat) (w:World),(w.setCells g o vs).heap.size=w.heap.size
 | [],_,_=>rfl
 | v :: r,o,w=>by
  show ((w.setCell ⟨g,o,none⟩ v).setCells g (o+1) r).heap.size=_
  rw [setCells_size g r];simp
theorem setCells_off (g:Nat) {b:Nat} (hb:b≠g):∀ (vs:List Value) (o:Nat) (w:World),(w.setCells g o vs).heap[b]?=w.heap[b]?
 | [],_,_=>rfl
 | v :: r,o,w=>by
  show ((w.setCell ⟨g,o,none⟩ v).setCells g (o+1) r).heap[b]?=_
  rw [setCells_off g hb r,setCell_off _ _ _ _ _ hb]
theorem setCells_os (g:Nat):∀ (vs:List Value) (o:Nat) (w:World),(w.setCells g o vs).os=w.os∧(w.setCells g o vs).tape=w.tape∧(w.setCells g o vs).output=w.output
 | [],_,_=>⟨rfl,rfl,rfl⟩
 | v :: r,o,w=>setCells_os g r (o+1) (w.setCell ⟨g,o,none⟩ v)
theorem grown_setCells {w w':World} {g:Nat} (h:w.grownBy w' (some g)) (vs:List Value) (o:Nat):w.grownBy (w'.setCells g o vs) (some g):=by
 obtain ⟨e1,e2,e3⟩:=setCells_os g vs o w'
 refine ⟨e1.trans h.os,e2.trans h.tape,e3.trans h.output,by rw [setCells_size];exact h.size,fun k hk hne=>?_⟩
 rw [setCells_off g (fun e=>hne (by rw [e]))]
 exact h.block k hk hne
def RdyV (w:World) (g:Nat) (A:Option Addr) (cap:Nat) (L:List Int):Prop:=L.length≤cap∧cap≤9223372036854775807∧∃ o,A=some ⟨g,o,none⟩∧(∃ cur,w.heap[g]?=some (.cells cur 3 (0,0))∧o+cap≤cur.size)∧∀ j,j<L.length→w.cell? ⟨g,o+j,none⟩=some (.int .i64 (L.getD j 0))
theorem RdyV.lt {w:World} {g cap:Nat} {A:Option Addr} {L:List Int} (h:RdyV w g A cap L):g<w.heap.size:=by
 obtain ⟨-,-,o,-,⟨cur,hc,-⟩,-⟩:=h
 exact (Array.getElem?_eq_some_iff.1 hc).1
theorem RdyV.same {w w':World} {g cap:Nat} {A:Option Addr} {L:List Int} (h:RdyV w g A cap L) (hb:w'.heap[g]?=w.heap[g]?):RdyV w' g A cap L:=by
 obtain ⟨h1,h2,o,h3,⟨cur,hc,h4⟩,h5⟩:=h
 exact ⟨h1,h2,o,h3,⟨cur,hb.trans hc,h4⟩,fun j hj=>(World.cell?_of_block (a:=⟨g,o+j,none⟩) hb).trans (h5 j hj)⟩
theorem RdyV.later {w w':World} {g cap:Nat} {A:Option Addr} {L:List Int} (h:RdyV w g A cap L) (hB:Below w.heap.size w w'):RdyV w' g A cap L:=h.same (hB.block g h.lt)
theorem RdyV.own {w:World} {base:Nat} {v:Value} {L:List Int} (h:w.ownsRow base 3 1 v L.length (mapI L)) (hl:0<L.length):∃ g c,v=.slice (some ⟨g,0,none⟩) L.length c∧base≤g∧RdyV w g (some ⟨g,0,none⟩) c L:=by
 rcases h.2 with ⟨rfl,h0⟩ | ⟨g,cap,cur,rfl,hb,hg,hc,hm,hs,_⟩
 ·omega
 ·refine ⟨g,cap,rfl,hb,hc,by unfold maxLen at hm;omega,0,rfl,⟨cur,hg,by omega⟩,fun j hj=>?_⟩
  have hx:=h.cells (g:=g) rfl j (.int .i64 (L.getD j 0)) (by simp [mapI,List.getD,List.getElem?_eq_getElem hj])
  have hadd:(⟨g,0,none⟩:Addr).add j=⟨g,j,none⟩:=by unfold Addr.add;split <;> simp_all
  rw [hadd] at hx
  rw [Nat.zero_add]
  exact hx
theorem mapI_at {L:List Int} {j:Nat} {v:Value} (h:(mapI L)[j]?=some v):j<L.length∧v=.int .i64 (L.getD j 0):=by
 unfold mapI at h
 rw [List.getElem?_map] at h
 have hj:j<L.length:=by
  refine Classical.byContradiction fun hn=>?_
  rw [List.getElem?_eq_none (by omega)] at h
  cases h
 rw [List.getElem?_eq_getElem hj] at h
 refine ⟨hj,?_⟩
 rw [List.getD_eq_getElem?_getD,List.getElem?_eq_getElem hj]
 simp at h ⊢
 exact h.symm
theorem mapI_one (L:List Int):∀ v∈mapI L,v.oneCell'=true:=by intro u hu;simp [mapI] at hu;obtain ⟨x,-,rfl⟩:=hu;rfl
theorem mapI_len (L:List Int):(mapI L).length=L.length:=by simp [mapI]
theorem RdyV.cells {w:World} {g cap o:Nat} {L:List Int} (h:RdyV w g (some ⟨g,o,none⟩) cap L):∀ j v,(mapI L)[j]?=some v→w.cell? ⟨g,o+j,none⟩=some v:=fun j v hj=>by
 obtain ⟨hj1,rfl⟩:=mapI_at hj
 obtain ⟨-,-,o',h3,-,h5⟩:=h
 cases h3
 exact h5 j hj1
theorem ins_at {L:List Int} {x:Int} {i:Nat} (hi:i≤L.length) (j:Nat):(j<i→(L.take i ++ x :: L.drop i).getD j 0=L.getD j 0)∧(j=i→(L.take i ++ x :: L.drop i).getD j 0=x)∧(i<j→(L.take i ++ x :: L.drop i).getD j 0=L.getD (j-1) 0):=by
 have hl:(L.take i).length=i:=by rw [List.length_take];omega
 refine ⟨fun h=>?_,fun h=>?_,fun h=>?_⟩
 ·rw [List.getD_eq_getElem?_getD,List.getElem?_append_left (by omega),List.getElem?_take_of_lt h,List.getD_eq_getElem?_getD]
 ·subst h
  rw [List.getD_eq_getElem?_getD,List.getElem?_append_right (by omega),hl,Nat.sub_self]
  rfl
 ·rw [List.getD_eq_getElem?_getD,List.getElem?_append_right (by omega),hl,show j-i=(j-i-1)+1 by omega,List.getElem?_cons_succ,List.getElem?_drop,List.getD_eq_getElem?_getD,show i+(j-i-1)=j-1 by omega]
theorem ins_len {L:List Int} {x:Int} {i:Nat} (hi:i≤L.length):(L.take i ++ x :: L.drop i).length=L.length+1:=by
 rw [List.length_append,List.length_cons,List.length_take,List.length_drop]
 omega
theorem findI_any (A:Option Addr) (cap g:Nat) (L:List Int) (x:Int) (w:World) (hl:L.length≤3000) (hR:RdyV w g A cap L) (hs:L.Pairwise (· < ·)):Calls Tryz.prog 81 #[.slice A L.length cap,.int .i64 x] w fun e w'=>(∃ b,e=.returned (.tuple #[.int .i64 (L.countP (· < x):Nat),.bool b]))∧Below w.heap.size w w':=by
 obtain ⟨-,-,o,rfl,-,h5⟩:=hR
 refine Calls.mono (Any.slices_BinarySearch_int Tryz.lays25 g o L.length cap L x w (Nat.le_refl _) (by omega) h5 (by rw [List.take_length];exact hs.imp fun h=>by omega)) ?_
 rintro e w' ⟨rfl,q,rfl⟩
 rw [List.take_length]
 exact ⟨⟨_,rfl⟩,below_drewN (Below.refl _ _) _⟩
def InsI (w:World) (g i:Nat) (L:List Int) (x:Int) (e:Ending) (w':World):Prop := ∃ g' A' c',e=.returned (.slice A' (L.length+1) c')∧RdyV w' g' A' c' (L.take i ++ x :: L.drop i)∧(g'=g∨w.heap.size≤g')∧w.grownBy w' (some g)
theorem insI_any (A:Option Addr) (cap g i vb:Nat) (L:List Int) (x:Int) (w:World) (hl:L.length≤3000) (hi:i≤L.length) (hR:RdyV w g A cap L) (hv:w.heap[vb]?=some (.cells #[.int .i64 x] 3 (0,0))) (hvb:vb≠g):Calls Tryz.prog 82 #[.slice A L.length cap,.int .i64 i,.slice (some ⟨vb,0,none⟩) 1 1] w fun e w'=>InsI w g i L x e w':=by
 obtain ⟨h1,h2,o,rfl,⟨cur,hc,h4⟩,h5⟩:=id hR
 have hgl:=hR.lt
 have hcs:=hR.cells
 have hvs:∀ j v,([Value.int .i64 x]:List Value)[j]?=some v→w.cell? ⟨vb,0+j,none⟩=some v:=fun j v hj=>by
  rw [Nat.zero_add,Lib.cell_of_heap hv]
  simpa using hj
 have hone:∀ v∈([Value.int .i64 x]:List Value),v.oneCell'=true:=fun v hv=>by simp at hv;subst hv;rfl
 have hsp:∀ j,j<cap→(w.cell? ⟨g,o+j,none⟩).isSome=true:=fun j hj=>by
  rw [Lib.cell_of_heap hc]
  simp [show o+j<cur.size by omega]
 have hfz:∀ j,w.frozen? ⟨g,j,none⟩=false:=fun j=>Lib.frozen_of_heap hc j
 have hfin:∀ w',w.grownBy w' (some g)→(∃ cur',w'.heap[g]?=some (.cells cur' 3 (0,0))∧cur'.size=cur.size)→L.length+1≤cap→(∀ j,j<i→w'.cell? ⟨g,o+j,none⟩=some (.int .i64 (L.getD j 0)))→w'.cell? ⟨g,o+i,none⟩=some (.int .i64 x)→(∀ j,i<j→j<L.length+1→w'.cell? ⟨g,o+j,none⟩=some (.int .i64 (L.getD (j-1) 0)))→InsI w g i L x (.returned (.slice (some ⟨g,o,none⟩) (L.length+1) cap)) w':=fun w' hG hty hroom a1 a2 a3=>by
  obtain ⟨cur',hc',hsz⟩:=hty
  refine ⟨g,_,_,rfl,⟨by rw [ins_len hi];exact hroom,h2,o,rfl,⟨cur',hc',by omega⟩,fun j hj=>?_⟩,Or.inl rfl,hG⟩
  rw [ins_len hi] at hj
  obtain ⟨b1,b2,b3⟩:=ins_at (x:=x) hi j
  by_cases e1:j<i
  ·rw [b1 e1];exact a1 j e1
  ·by_cases e2:j=i
   ·rw [b2 e2,e2];exact a2
   ·rw [b3 (by omega)];exact a3 j (by omega) hj
 by_cases hroom:L.length+1≤cap
 ·by_cases hin:i<L.length
  ·refine Calls.mono (Any2.slices_Insert_int_shift Tryz.lays21 g o L.length cap i vb 0 1 1 (mapI L) [.int .i64 x] w hin (by omega) hroom h2 hvb (mapI_len L) rfl hcs (fun j hj=>hsp j (by omega)) (fun j _=>hfz _) hvs (mapI_one L) hone 3 3 1 cur.size (by simp [World.shape?,hv]) (by simp [World.shape?,hc]) (by omega) (Lib.frozen_of_heap hv 0) (Lib.frozen_of_heap hv 1)) ?_
   rintro e w' ⟨rfl,rfl⟩
   have hdl:((mapI L).drop i).length=L.length-i:=by rw [List.length_drop,mapI_len]
   obtain ⟨c1,hc1,hs1⟩:=setCells_ty ((mapI L).drop i) (o+(i+1)) cur w.drew hc
   obtain ⟨c2,hc2,hs2⟩:=setCells_ty [.int .i64 x] (o+i) c1 _ hc1
   have hin1:∀ j,i<j→j<L.length+1→(w.drew.setCells g (o+(i+1)) ((mapI L).drop i)).cell? ⟨g,o+j,none⟩=some (.int .i64 (L.getD (j-1) 0)):=fun j e1 e2=>by
    have h:=World.cell?_setCells_in g ((mapI L).drop i) (o+(i+1)) w.drew (fun k hk=>by rw [hdl] at hk;have:=hsp (i+1+k) (by omega);rw [show o+(i+1)+k=o+(i+1+k) by omega];exact this) (j-(i+1)) (by rw [hdl];omega)
    rw [show o+(i+1)+(j-(i+1))=o+j by omega] at h
    rw [h,List.getElem_drop]
    simp only [mapI,List.getElem_map,Option.some.injEq,Value.int.injEq,true_and]
    rw [List.getD_eq_getElem?_getD,List.getElem?_eq_getElem (by omega)]
    simp only [Option.getD_some]
    congr 1
    omega
   refine hfin _ (grown_setCells (grown_setCells (grown_drew (grown_refl _ _)) _ _) _ _) ⟨c2,hc2,by omega⟩ hroom (fun j hj=>?_) ?_ fun j e1 e2=>?_
   ·rw [World.cell?_setCells_out g _ _ _ _ (fun _ _=>Or.inl (by show o+j<o+i;omega)),World.cell?_setCells_out g _ _ _ _ (fun _ _=>Or.inl (by show o+j<o+(i+1);omega))]
    exact h5 j (by omega)
   ·have h:=World.cell?_setCells_in g [.int .i64 x] (o+i) (w.drew.setCells g (o+(i+1)) ((mapI L).drop i)) (fun k hk=>by
     have hk0:k=0:=by simpa using hk
     subst hk0
     rw [World.cell?_setCells_out g _ _ _ _ (fun _ _=>Or.inl (by show o+i+0<o+(i+1);omega))]
     exact hsp i (by omega)) 0 (by simp)
    simpa using h
   ·rw [World.cell?_setCells_out g _ _ _ _ (fun _ _=>Or.inr (by show o+i+1≤o+j;omega))]
    exact hin1 j e1 e2
  ·have hie:i=L.length:=by omega
   subst hie
   refine Calls.mono (Any2.slices_Insert_int_end_room Tryz.lays21 g o L.length cap vb 0 1 1 [.int .i64 x] w (by omega) hroom h2 rfl (fun j hj=>by have:=hsp (L.length+j) (by omega);rw [show o+L.length+j=o+(L.length+j) by omega];exact this) (fun j _=>hfz _) hvs hone) ?_
   rintro e w' ⟨rfl,rfl⟩
   obtain ⟨c2,hc2,hs2⟩:=setCells_ty [.int .i64 x] (o+L.length) cur w hc
   refine hfin _ (grown_setCells (grown_refl _ _) _ _) ⟨c2,hc2,hs2⟩ hroom (fun j hj=>?_) ?_ fun j e1 e2=>by omega
   ·rw [World.cell?_setCells_out g _ _ _ _ (fun _ _=>Or.inl (by show o+j<o+L.length;omega))]
    exact h5 j hj
   ·have h:=World.cell?_setCells_in g [.int .i64 x] (o+L.length) w (fun k hk=>by
     have hk0:k=0:=by simpa using hk
     subst hk0
     exact hsp L.length (by omega)) 0 (by simp)
    simpa using h
 ·have hnew:∀ (G:Nat) (w':World),L.length+1≤G→G≤maxLen→Below w.heap.size w w'→(∃ cur',w'.heap[w.heap.size]?=some (.cells cur' 3 (0,0))∧cur'.size=G)→(∀ j,j<i→w'.cell? ⟨w.heap.size,j,none⟩=some (.int .i64 (L.getD j 0)))→w'.cell? ⟨w.heap.size,i,none⟩=some (.int .i64 x)→(∀ j,i<j→j<L.length+1→w'.cell? ⟨w.heap.size,j,none⟩=some (.int .i64 (L.getD (j-1) 0)))→InsI w g i L x (.returned (.slice (some ⟨w.heap.size,0,none⟩) (L.length+1) G)) w':=fun G w' hG hG2 hB hty a1 a2 a3=>by
   obtain ⟨cur',hc',hsz⟩:=hty
   refine ⟨w.heap.size,_,_,rfl,⟨by rw [ins_len hi];exact hG,by unfold maxLen at hG2;omega,0,rfl,⟨cur',hc',by omega⟩,fun j hj=>?_⟩,Or.inr (Nat.le_refl _),grown_below hB⟩
   rw [ins_len hi] at hj
   obtain ⟨b1,b2,b3⟩:=ins_at (x:=x) hi j
   rw [Nat.zero_add]
   by_cases e1:j<i
   ·rw [b1 e1];exact a1 j e1
   ·by_cases e2:j=i
    ·rw [b2 e2,e2];exact a2
    ·rw [b3 (by omega)];exact a3 j (by omega) hj
  have hG1:=grownCap_ge w (L.length+1) cap 3
  have hG2:=grownCap_le_maxLen w (L.length+1) cap 3 (by unfold maxLen;omega)
  by_cases hin:i<L.length
  ·refine Calls.mono (Any2.slices_Insert_int_grow Tryz.lays21 g o L.length cap i vb 0 1 1 (mapI L) [.int .i64 x] w hin (by omega) h1 (by omega) (by omega) (mapI_len L) rfl hcs hvs (mapI_one L) hone) ?_
   rintro e w' ⟨rfl,rfl⟩
   have hdl:((mapI L).drop i).length=L.length-i:=by rw [List.length_drop,mapI_len]
   have htl:((mapI L).take i).length=i:=by rw [List.length_take,mapI_len];omega
   obtain ⟨ROW,hROW⟩:∃ ROW:Array Value,((mapI L).take i).toArray ++ Builtin.zeroCells (Value.int .i64 0).cells (L.length+1-i) ++ Builtin.zeroCells (Value.int .i64 0).cells (grownCap w (L.length+1) cap 3-(L.length+1))=ROW:=⟨_,rfl⟩
   have hRs:ROW.size=grownCap w (L.length+1) cap 3:=by
    rw [←hROW,Array.size_append,Array.size_append,size_zeroCells,size_zeroCells,List.size_toArray,htl]
    simp only [Value.cells,List.size_toArray,List.length_cons,List.length_nil]
    omega
   have hRt:∀ j,j<i→ROW[j]?=some (.int .i64 (L.getD j 0)):=fun j hj=>by
    rw [←hROW,Array.append_assoc,Array.getElem?_append_left (by rw [List.size_toArray,htl];exact hj),List.getElem?_toArray,List.getElem?_take_of_lt hj]
    unfold mapI
    rw [List.getElem?_map,List.getElem?_eq_getElem (by omega),List.getD_eq_getElem?_getD,List.getElem?_eq_getElem (by omega)]
    rfl
   show InsI w g i L x (.returned (.slice (some ⟨w.heap.size,0,none⟩) (L.length+1) (grownCap w (L.length+1) cap 3))) ((((w.alloc (.cells (((mapI L).take i).toArray ++ Builtin.zeroCells (Value.int .i64 0).cells (L.length+1-i) ++ Builtin.zeroCells (Value.int .i64 0).cells (grownCap w (L.length+1) cap 3-(L.length+1))) 3)).drew.setCells w.heap.size i [.int .i64 x]).drew).setCells w.heap.size (i+1) ((mapI L).drop i))
   rw [hROW]
   have hb0:((w.alloc (.cells ROW 3)).drew).heap[w.heap.size]?=some (.cells ROW 3 (0,0)):=heap_alloc_new w _
   obtain ⟨c1,hc1,hs1⟩:=setCells_ty [.int .i64 x] i ROW _ hb0
   obtain ⟨c2,hc2,hs2⟩:=setCells_ty ((mapI L).drop i) (i+1) c1 ((w.alloc (.cells ROW 3)).drew.setCells w.heap.size i [.int .i64 x]).drew hc1
   have hB0:Below w.heap.size w (w.alloc (.cells ROW 3)).drew:=by go_grown
   have hBs:∀ (w1:World) (vs:List Value) (k:Nat),Below w.heap.size w w1→Below w.heap.size w (w1.setCells w.heap.size k vs):=fun w1 vs k h=>by
    obtain ⟨e1,e2,e3⟩:=setCells_os w.heap.size vs k w1
    exact ⟨e1.trans h.os,e2.trans h.tape,e3.trans h.output,by rw [setCells_size];exact h.size,fun b hb=>by rw [setCells_off _ (Nat.ne_of_lt hb)];exact h.block b hb⟩
   have hB1:=hBs _ [.int .i64 x] i hB0
   have hsome:∀ (k:Nat),k<grownCap w (L.length+1) cap 3→((w.alloc (.cells ROW 3)).drew.cell? ⟨w.heap.size,k,none⟩).isSome=true:=fun k hk=>by
    rw [Lib.cell_of_heap hb0]
    simp [show k<ROW.size by omega]
   refine hnew _ _ hG1 hG2 (hBs _ _ _ (by exact below_drewN hB1 1)) ⟨c2,hc2,by omega⟩ (fun j hj=>?_) ?_ fun j e1 e2=>?_
   ·rw [World.cell?_setCells_out _ _ _ _ _ (fun _ _=>Or.inl (by show j<i+1;omega))]
    show ((w.alloc (.cells ROW 3)).drew.setCells w.heap.size i [.int .i64 x]).cell? _=_
    rw [World.cell?_setCells_out _ _ _ _ _ (fun _ _=>Or.inl (by show j<i;omega)),Lib.cell_of_heap hb0]
    exact hRt j hj
   ·rw [World.cell?_setCells_out _ _ _ _ _ (fun _ _=>Or.inl (by show i<i+1;omega))]
    show ((w.alloc (.cells ROW 3)).drew.setCells w.heap.size i [.int .i64 x]).cell? _=_
    have h:=World.cell?_setCells_in w.heap.size [.int .i64 x] i (w.alloc (.cells ROW 3)).drew (fun k hk=>by
     have hk0:k=0:=by simpa using hk
     subst hk0
     exact hsome _ (by omega)) 0 (by simp)
    simpa using h
   ·have h:=World.cell?_setCells_in w.heap.size ((mapI L).drop i) (i+1) ((w.alloc (.cells ROW 3)).drew.setCells w.heap.size i [.int .i64 x]).drew (fun k hk=>by
     rw [hdl] at hk
     show (((w.alloc (.cells ROW 3)).drew.setCells w.heap.size i [.int .i64 x]).cell? _).isSome=true
     rw [World.cell?_setCells_out _ _ _ _ _ (fun _ _=>Or.inr (by show i+1≤i+1+k;omega))]
     exact hsome _ (by omega)) (j-(i+1)) (by rw [hdl];omega)
    rw [show i+1+(j-(i+1))=j by omega] at h
    rw [h,List.getElem_drop]
    simp only [mapI,List.getElem_map,Option.some.injEq,Value.int.injEq,true_and]
    rw [List.getD_eq_getElem?_getD,List.getElem?_eq_getElem (by omega)]
    simp only [Option.getD_some]
    congr 1
    omega
  ·have hie:i=L.length:=by omega
   subst hie
   have hadd:∀ j,(⟨g,o,none⟩:Addr).add j=⟨g,o+j,none⟩:=fun j=>by unfold Addr.add;split <;> simp_all
   refine Calls.mono (Any2.slices_Insert_int_end_grow Tryz.lays21 (some ⟨g,o,none⟩) L.length cap vb 0 1 1 (mapI L) [.int .i64 x] w (by omega) h1 (by omega) (by omega) (mapI_len L) rfl (fun h=>by cases h) (fun a ha j v hj=>by
    cases ha
    rw [hadd]
    exact hcs j v hj) hvs hone) ?_
   rintro e w' ⟨rfl,rfl⟩
   obtain ⟨ROW,hROW⟩:∃ ROW:Array Value,(mapI L ++ [Value.int .i64 x]).toArray ++ Builtin.zeroCells (Value.int .i64 0).cells (grownCap w (L.length+1) cap 3-(L.length+1))=ROW:=⟨_,rfl⟩
   have hRs:ROW.size=grownCap w (L.length+1) cap 3:=by
    rw [←hROW,Array.size_append,size_zeroCells,List.size_toArray,List.length_append,mapI_len]
    simp only [Value.cells,List.size_toArray,List.length_cons,List.length_nil]
    omega
   show InsI w g L.length L x (.returned (.slice (some ⟨w.heap.size,0,none⟩) (L.length+1) (grownCap w (L.length+1) cap 3))) (w.drew.alloc (.cells ((mapI L ++ [Value.int .i64 x]).toArray ++ Builtin.zeroCells (Value.int .i64 0).cells (grownCap w (L.length+1) cap 3-(L.length+1))) 3))
   rw [hROW]
   have hb0:(w.drew.alloc (.cells ROW 3)).heap[w.heap.size]?=some (.cells ROW 3 (0,0)):=heap_alloc_new w.drew _
   have hat:∀ j,j<L.length+1→ROW[j]?=(mapI L ++ [Value.int .i64 x])[j]?:=fun j hj=>by
    rw [←hROW,Array.getElem?_append_left (by rw [List.size_toArray,List.length_append,mapI_len];simpa using hj),List.getElem?_toArray]
   refine hnew _ _ hG1 hG2 (by go_grown) ⟨ROW,hb0,hRs⟩ (fun j hj=>?_) ?_ fun j e1 e2=>by omega
   ·rw [Lib.cell_of_heap hb0,hat j (by omega),List.getElem?_append_left (by rw [mapI_len];exact hj)]
    unfold mapI
    rw [List.getElem?_map,List.getElem?_eq_getElem hj,List.getD_eq_getElem?_getD,List.getElem?_eq_getElem hj]
    rfl
   ·rw [Lib.cell_of_heap hb0,hat _ (by omega),List.getElem?_append_right (by rw [mapI_len];exact Nat.le_refl _),mapI_len,Nat.sub_self]
    rfl
end Go.Proofs.YtnegjdcedhnjdaaGreatDoor
