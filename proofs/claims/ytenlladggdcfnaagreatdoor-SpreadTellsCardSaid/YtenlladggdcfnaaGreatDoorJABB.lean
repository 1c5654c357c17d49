/-
  byWeight: a number on parts by weights.
-/
import Derived.Test.YtenlladggdcfnaaGreatDoorJABA
namespace Go.Proofs.YtenlladggdcfnaaGreatDoor
open Go Go.ChangeShapes Go.WideShapes Go.ChangeAt Go.RowKit Go.Shelf Go.Lib Go.Sort
set_option maxRecDepth 100000
def qTo (n:Int) (W:List Int) (k:Nat):List Int:=(List.range W.length).map fun i=>if i<k then lkQ n W i else 0
theorem qTo_len (n:Int) (W:List Int) (k:Nat):(qTo n W k).length=W.length:=by simp [qTo]
theorem qTo_zero (n:Int) (W:List Int):qTo n W 0=List.replicate W.length 0:=by
 refine List.ext_getElem (by simp [qTo]) fun _ _ _=>?_
 simp [qTo]
theorem qTo_all (n:Int) (W:List Int):qTo n W W.length=incL n W [] 0:=by
 rw [incL_zero];exact List.map_congr_left fun _ hi=>if_pos (List.mem_range.1 hi)
theorem incL_none (n:Int) (W:List Int) (O:List Nat):incL n W [] 0=incL n W O 0:=by rw [incL_zero,incL_zero]
theorem qTo_set (n:Int) (W:List Int) (k:Nat):(qTo n W k).set k (lkQ n W k)=qTo n W (k+1):=by
 refine List.ext_getElem (by simp [qTo]) fun i h1 h2=>?_
 rw [List.getElem_set]
 by_cases e:k=i
 ·subst e
  simp [qTo]
 ·rw [if_neg e]
  simp only [qTo,List.getElem_map,List.getElem_range]
  by_cases h3:i<k
  ·rw [if_pos h3,if_pos (by omega)]
  ·rw [if_neg h3,if_neg (by omega)]
def leftTo (n:Int) (W:List Int) (k:Nat):Int:=n-((List.range k).map (lkQ n W)).sum
theorem leftTo_step (n:Int) (W:List Int) (k:Nat):leftTo n W (k+1)=leftTo n W k-lkQ n W k:=by
 unfold leftTo;rw [List.range_succ,List.map_append,List.sum_append];simp;omega
theorem leftTo_bd {n:Int} {W:List Int} (hn:0≤n∧n≤1000000) (h:∀ x∈W,0≤x) (hs:0<W.sum):∀ j:Nat,- ((j:Int)*1000000)≤leftTo n W j∧leftTo n W j≤1000000
 | 0=>by unfold leftTo;simp;omega
 | j+1=>by
  have:=leftTo_bd hn h hs j
  have h1:=lkQ_ge (n:=n) hn.1 h hs j
  have h2:=(lkQ_le (n:=n) hn.1 h hs j).1
  rw [leftTo_step];omega
theorem five_alloc (w:World) (o1 o2 o3 o4 o5:Obj):∃ q2 q3 qO qR:Nat,q2=w.heap.size+1∧q3=w.heap.size+1+1∧qO=w.heap.size+1+1+1∧qR=w.heap.size+1+1+1+1∧w.heap.size<q2∧q2<q3∧q3<qO∧qO<qR ∧
  (((((w.alloc o1).alloc o2).alloc o3).alloc o4).alloc o5).heap.size=qR+1∧(((((w.alloc o1).alloc o2).alloc o3).alloc o4).alloc o5).heap[w.heap.size]?=some o1∧(((((w.alloc o1).alloc o2).alloc o3).alloc o4).alloc o5).heap[q2]?=some o2 ∧
  (((((w.alloc o1).alloc o2).alloc o3).alloc o4).alloc o5).heap[q3]?=some o3∧(((((w.alloc o1).alloc o2).alloc o3).alloc o4).alloc o5).heap[qO]?=some o4∧(((((w.alloc o1).alloc o2).alloc o3).alloc o4).alloc o5).heap[qR]?=some o5∧Below w.heap.size w (((((w.alloc o1).alloc o2).alloc o3).alloc o4).alloc o5):=by
 have e:(((((w.alloc o1).alloc o2).alloc o3).alloc o4).alloc o5).heap=((((w.heap.push o1).push o2).push o3).push o4).push o5:=rfl
 refine ⟨_,_,_,_,rfl,rfl,rfl,rfl,by omega,by omega,by omega,by omega,by rw [e];simp,?_,?_,?_,?_,?_,by go_grown⟩
 all_goals (rw [e];simp only [Array.getElem?_push,Array.size_push])
 ·rw [if_neg (by omega),if_neg (by omega),if_neg (by omega),if_neg (by omega),if_pos trivial]
 ·rw [if_neg (by omega),if_neg (by omega),if_neg (by omega),if_pos trivial]
 ·rw [if_neg (by omega),if_neg (by omega),if_pos trivial]
 ·rw [if_neg (by omega),if_pos trivial]
 ·rw [if_pos trivial]
set_option maxHeartbeats 8000000 in
theorem byweight_any (n:Int) (A:Option Addr) (cA:Nat) (W:List Int) (w:World) (hL:PlAt w A cA W) (hW0:0<W.length) (hWk:W.length≤60) (hs:0<W.sum) (hn:0≤n∧n≤1000000) (hW:∀ x∈W,0≤x∧x≤1000000) :
  Calls Tryz.prog 17 #[.int .i64 n,.slice A W.length cA,.int .i64 W.sum] w fun e w' => ∃ (P:Nat→Bool) (g:Nat),PickOk W.length (prec n W) P (lkL n W).toNat∧e=.returned (.slice (some ⟨g,0,none⟩) W.length W.length)∧PB w' g (lkO n W P)∧w.heap.size≤g∧Below w.heap.size w w':=by
 obtain ⟨k,hk⟩:∃ k,W.length=k:=⟨_,rfl⟩
 have hmk:=run_make_row' (P:=Tryz.prog) 22 3 (.int .i64 0) 8 Tryz.underlying22 Tryz.infoInt rfl .i64 .i64 k (by omega) (by omega)
 obtain ⟨s,hse⟩:∃ s,W.sum=s:=⟨_,rfl⟩
 have HK:Hid (W.length=k∧W.sum=s):=⟨hk,hse⟩
 have HW:Hid (∀ x∈W,0≤x∧x≤1000000):=hW
 have HL:Hid (PlAt w A cA W):=hL
 have hkI:(k:Int)≤60:=by omega
 rw [hk] at hW0 ⊢
 rw [hse] at hs ⊢
 clear hW hL hk hse
 have hs0 : ¬ s=0:=by omega
 go_enter Tryz.func17,Tryz.ntmps17
 go_upto_region 4 with fail
 obtain ⟨y,hy⟩:∃ y,(((((w.alloc (.cells #[.int .i64 n] 3)).alloc (.cells #[.slice A k cA] 22)).alloc (.cells #[.int .i64 s] 3)).alloc (.cells (madeCells #[.int .i64 0] k) 3)).alloc (.cells (madeCells #[.int .i64 0] k) 3))=y:=⟨_,rfl⟩
 rw [hy]
 obtain ⟨q2,q3,qO,qR,e2,e3,eO,eR,l1,l2,l3,l4,hyz,hc1,hc2,hc3,hc4,hc5,hB0⟩:=five_alloc w (.cells #[.int .i64 n] 3) (.cells #[.slice A k cA] 22) (.cells #[.int .i64 s] 3) (.cells (madeCells #[.int .i64 0] k) 3) (.cells (madeCells #[.int .i64 0] k) 3)
 rw [hy] at hyz hc1 hc2 hc3 hc4 hc5 hB0
 rw [←eR,←eO,←e3,←e2]
 have HY:Hid (IntB y qO (qTo n W 0)∧IntB y qR (risTo k 0)∧y.heap[w.heap.size]?=some (.cells #[.int .i64 n] 3 (0,0))∧y.heap[q2]?=some (.cells #[.slice A k cA] 22 (0,0))∧y.heap[q3]?=some (.cells #[.int .i64 s] 3 (0,0))∧Below w.heap.size w y) :=
  ⟨by unfold IntB;rw [hc4,qTo_zero,HK.out.1,made_ints],by unfold IntB;rw [hc5,risTo_zero,made_ints],hc1,hc2,hc3,hB0⟩
 have c2:y.cell? ⟨q2,0,none⟩=some (.slice A k cA):=(Lib.cell_of_heap hc2 0).trans rfl
 have l5:qR<y.heap.size:=by omega
 clear hc1 hc2 hc3 hc4 hc5 hB0 hy hyz e2 e3 eO eR
 go_wp2_with fail
 go_loopg [9,24] k (fun gg s9 s24 wr => ∃ j:Nat,j≤k∧gg=k-j∧s24=.int .i64 j∧s9=.int .i64 (leftTo n W j)∧Hid (IntB wr qO (qTo n W j)∧IntB wr qR (risTo k j)∧wr.heap[w.heap.size]?=some (.cells #[.int .i64 n] 3 (0,0))∧wr.heap[q2]?=some (.cells #[.slice A k cA] 22 (0,0))∧wr.heap[q3]?=some (.cells #[.int .i64 s] 3 (0,0))∧Below w.heap.size w wr))
 case atStart=>exact ⟨0,Nat.zero_le _,rfl,rfl,by simp [leftTo],HY⟩
 case round =>
  clear HY c2 l5
  obtain ⟨j,hjk,rfl,rfl,rfl,HY⟩:=hrel
  by_cases hlt:j<k
  ·have hjI:(j:Int)<(k:Int):=by omega
   obtain ⟨i1,i2,b1,b2,b3,hB⟩:=HY.out
   obtain ⟨-,h0 | ⟨bA,oA,rfl,hbA,hX⟩⟩:=HL.out
   ·have:=HK.out.1;rw [h0] at this;simp at this;omega
   have hx:wr.cell? ⟨bA,oA+j,none⟩=some (.int .i64 (W.getD j 0)):=by rw [hB.cell (by exact hbA)];exact hX j (by rw [HK.out.1];exact hlt)
   have hm:W.getD j 0∈W:=by rw [List.getD_eq_getElem?_getD,List.getElem?_eq_getElem (by rw [HK.out.1];exact hlt)];exact List.getElem_mem _
   have hw:=HW.out _ hm
   have hQ:lkQ n W j=n*W.getD j 0 / s:=by unfold lkQ;rw [HK.out.2]
   have hQn:0≤lkQ n W j∧lkQ n W j≤n:=⟨lkQ_ge hn.1 (fun x hx=>(HW.out x hx).1) (by rw [HK.out.2];exact hs) j,(lkQ_le hn.1 (fun x hx=>(HW.out x hx).1) (by rw [HK.out.2];exact hs) j).1⟩
   obtain ⟨x,hxe⟩:∃ x,W.getD j 0=x:=⟨_,rfl⟩
   rw [hxe] at hx hw hQ
   obtain ⟨z,hze⟩:∃ z,z=n*x:=⟨_,rfl⟩
   have hz0:0≤z:=by rw [hze];exact Int.mul_nonneg hn.1 hw.1
   have hz1:z≤1000000*1000000:=by rw [hze];exact Int.mul_le_mul hn.2 hw.2 hw.1 (by omega)
   have hzw:IntKind.i64.wrap (n*x)=z:=by rw [←hze,IntKind.wrap_i64];omega
   rw [←hze] at hQ
   have hst:=leftTo_step n W j
   have hLj : -1000000000≤leftTo n W j∧leftTo n W j≤1000000000:=by have:=leftTo_bd hn (fun x hx=>(HW.out x hx).1) (by rw [HK.out.2];exact hs) j;omega
   obtain ⟨u,hu⟩:∃ u,lkQ n W j=u:=⟨_,rfl⟩
   rw [hu] at hQ hQn hst
   have hq:z.tdiv s=u:=by rw [Int.tdiv_eq_ediv_of_nonneg hz0];exact hQ.symm
   have hqw:IntKind.i64.wrap u=u:=by rw [IntKind.wrap_i64];omega
   have d1:wr.cell? ⟨w.heap.size,0,none⟩=some (.int .i64 n):=(Lib.cell_of_heap b1 0).trans rfl
   have d3:wr.cell? ⟨q3,0,none⟩=some (.int .i64 s):=(Lib.cell_of_heap b3 0).trans rfl
   have o1:=i1.cell (j:=j) (by rw [qTo_len,HK.out.1];exact hlt)
   have o2:=i1.frozen j
   have o3:(wr.setCell ⟨qO,j,none⟩ (.int .i64 u)).cell? ⟨qR,j,none⟩=some (.int .i64 ((risTo k j).getD j 0)):=(World.cell?_of_block (w:=wr) (a:=⟨qR,j,none⟩) (setCell_off _ _ _ _ _ (by show qR≠qO;omega))).trans (i2.cell (j:=j) (by rw [risTo_len];exact hlt))
   have o4:=i2.frozen j
   obtain ⟨y2,hy2⟩:∃ y2,(wr.setCell ⟨qO,j,none⟩ (.int .i64 u)).setCell ⟨qR,j,none⟩ (.int .i64 j)=y2:=⟨_,rfl⟩
   have o5:((wr.setCell ⟨qO,j,none⟩ (.int .i64 u)).setCell ⟨qR,j,none⟩ (.int .i64 j)).cell? ⟨qO,j,none⟩=some (.int .i64 u):=by
    rw [World.cell?_of_block (w:=wr.setCell ⟨qO,j,none⟩ (.int .i64 u)) (a:=⟨qO,j,none⟩) (setCell_off _ _ _ _ _ (by show qO≠qR;omega))]
    exact World.cell?_setCell_same _ _ _ o1
   rw [hy2] at o5
   have HY2:Hid (IntB y2 qO (qTo n W (j+1))∧IntB y2 qR (risTo k (j+1))∧y2.heap[w.heap.size]?=some (.cells #[.int .i64 n] 3 (0,0))∧y2.heap[q2]?=some (.cells #[.slice (some ⟨bA,oA,none⟩) k cA] 22 (0,0))∧y2.heap[q3]?=some (.cells #[.int .i64 s] 3 (0,0))∧Below w.heap.size w y2):=by
    have hoff:∀ q,q≠qO→q≠qR→y2.heap[q]?=wr.heap[q]?:=fun q h1 h2=>by rw [←hy2];exact (setCell_off _ _ _ _ _ h2).trans (setCell_off _ _ _ _ _ h1)
    refine ⟨?_,?_,(hoff _ (by omega) (by omega)).trans b1,(hoff _ (by omega) (by omega)).trans b2,(hoff _ (by omega) (by omega)).trans b3,?_⟩
    ·rw [←hy2,←qTo_set,hu]
     have:=i1.set j u
     unfold IntB at this ⊢
     rw [setCell_off _ _ _ _ _ (by omega)];exact this
    ·rw [←hy2,←risTo_set]
     have:IntB (wr.setCell ⟨qO,j,none⟩ (.int .i64 u)) qR (risTo k j):=by unfold IntB;rw [setCell_off _ _ _ _ _ (by omega)];exact i2
     exact this.set j j
    ·rw [←hy2];exact (hB.setCell (by show _≤qO;omega) _).setCell (by show _≤qR;omega) _
   have hq2:z / s=u:=hQ.symm
   clear i1 i2 b1 b2 b3 hB hX hm HY hu hQ hxe hze
   have hsub:IntKind.i64.wrap (leftTo n W j-u)=leftTo n W (j+1):=by rw [hst,IntKind.wrap_i64];omega
   clear hst
   obtain ⟨lf2,hlf2⟩:∃ x,x=leftTo n W (j+1):=⟨_,rfl⟩
   rw [←hlf2] at hsub
   have HLF:Hid (lf2=leftTo n W (j+1)):=hlf2
   clear hlf2
   generalize leftTo n W j=lf at hLj hsub ⊢
   go_wp2_with fail
   go_roundg (k-(j+1))
   case measure=>omega
   case rel=>exact ⟨j+1,by omega,rfl,by go_num,by rw [HLF.out],HY2⟩
  ·have hje:j=k:=by omega
   subst hje
   have hlr:leftTo n W j=lkL n W:=by unfold leftTo lkL;rw [HK.out.1]
   have hl0:=lkL_ge (n:=n) (W:=W) (by rw [HK.out.2];exact hs)
   have hl1:=lkL_lt (n:=n) (W:=W) (by rw [HK.out.2];exact hs) (by rw [HK.out.1];exact hW0)
   obtain ⟨t,ht⟩:∃ t:Nat,(lkL n W).toNat=t:=⟨_,rfl⟩
   have htI:lkL n W=(t:Int):=by omega
   have htk:t<j:=by have:=HK.out.1;omega
   rw [hlr,htI]
   have HT:Hid ((lkL n W).toNat=t):=ht
   clear hlr hl0 hl1 htI ht
   go_upto_region 11 with fail
   obtain ⟨y3,hy3⟩:∃ y3,wr.alloc (.cells #[.func (.func 32) #[] #[.pointer (some ⟨w.heap.size,0,none⟩),.pointer (some ⟨q2,0,none⟩),.pointer (some ⟨q3,0,none⟩)]] 75)=y3:=⟨_,rfl⟩
   rw [hy3]
   obtain ⟨i1,i2,b1,b2,b3,hB⟩:=HY.out
   have hoff:∀ q,q<wr.heap.size→y3.heap[q]?=wr.heap[q]?:=fun q hq=>by rw [←hy3];exact Below.heap_alloc _ _ _ hq
   have hnew:y3.heap[wr.heap.size]?=some (.cells #[.func (.func 32) #[] #[.pointer (some ⟨w.heap.size,0,none⟩),.pointer (some ⟨q2,0,none⟩),.pointer (some ⟨q3,0,none⟩)]] 75 (0,0)):=by rw [←hy3];exact heap_alloc_new ..
   have hsz3:y3.heap.size=wr.heap.size+1:=by rw [←hy3];simp
   have hRl:=i2.lt
   have hB3:Below w.heap.size w y3:=by rw [←hy3];exact hB.alloc hB.size _
   have i1':IntB y3 qO (incL n W [] 0):=by unfold IntB at *;rw [hoff _ (by omega),←qTo_all,HK.out.1];exact i1
   have i2':IntB y3 qR (risL W.length):=by unfold IntB at *;rw [hoff _ hRl,HK.out.1,←risTo_all];exact i2
   have HR:∀ w',OffG qR y3 w'→RestA w' w.heap.size q2 q3 n A cA W∧w'.cell? ⟨wr.heap.size,0,none⟩=some (.func (.func 32) #[] #[.pointer (some ⟨w.heap.size,0,none⟩),.pointer (some ⟨q2,0,none⟩),.pointer (some ⟨q3,0,none⟩)]):=fun w' hO=>by
    have hB':Below w.heap.size w w':=hO.below hB3 (by omega) (by omega)
    refine ⟨⟨?_,?_,?_,HL.out.later hB'⟩,?_⟩
    ·exact (Lib.cell_of_heap ((hO.block _ (by omega) (by omega)).trans ((hoff _ (by omega)).trans b1)) 0).trans rfl
    ·have:=(Lib.cell_of_heap ((hO.block _ (by omega) (by omega)).trans ((hoff _ (by omega)).trans b2)) 0)
     rw [this,HK.out.1];rfl
    ·have:=(Lib.cell_of_heap ((hO.block _ (by omega) (by omega)).trans ((hoff _ (by omega)).trans b3)) 0)
     rw [this,HK.out.2];rfl
    ·exact (Lib.cell_of_heap ((hO.block _ (by omega) (by omega)).trans hnew) 0).trans rfl
   have hc:=sortw_any qR j w.heap.size q2 q3 wr.heap.size n A cA W y3 (by rw [HK.out.1];exact hW0) hWk i2' HR (by rw [HK.out.2];exact hs) hn HW.out
   rw [HK.out.1] at hc
   have HZ:Hid (IntB y3 qO (incL n W [] 0)∧Below w.heap.size w y3):=⟨i1',hB3⟩
   have l6:qO<y3.heap.size:=by omega
   have l7:w.heap.size≤y3.heap.size:=by omega
   clear i1 i2 b1 b2 b3 hB hoff hnew hsz3 hRl hB3 i1' i2' HR HY hy3
   go_wp2_with fail
   refine hc.mono ?_
   rintro e w2 ⟨rfl,⟨O,hO1,hO2,hO3⟩,hO4⟩
   have HO:Hid (O.Perm (List.range W.length)∧(∀ a b,a<b→b<W.length→prec n W (O.getD a 0) (O.getD b 0)=true)):=⟨by rw [HK.out.1];exact hO1,fun a b h1 h2=>hO2 a b h1 (by have:=HK.out.1;omega)⟩
   have HQ:Hid (PB w2 qO (incL n W O 0)∧PB w2 qR (O.map fun x:Nat=>(x:Int))∧Below w.heap.size w w2):=by
    refine ⟨?_,hO3,hO4.below HZ.out.2 (by omega) l7⟩
    have:=HZ.out.1
    unfold IntB at this
    rw [incL_none n W O] at this
    refine ⟨_,(hO4.block qO l6 (by omega)).trans this,fun j hj=>?_⟩
    simp [List.getD,hj]
   clear hO1 hO2 hO3 hO4 HZ hc
   have htI:(t:Int)≤(j:Int):=by omega
   go_wp2_with fail
   go_loopg [56] t (fun gg s56 wz => ∃ a:Nat,a≤t∧gg=t-a∧s56=.int .i64 a∧Hid (PB wz qO (incL n W O a)∧PB wz qR (O.map fun x:Nat=>(x:Int))∧Below w.heap.size w wz))
   case atStart=>exact ⟨0,Nat.zero_le _,rfl,rfl,HQ⟩
   case round =>
    clear HQ
    obtain ⟨a,hat,rfl,rfl,HQ⟩:=hrel
    by_cases hlt2:a<t
    ·have haI:(a:Int)<(t:Int):=by omega
     have hO1:O.length=j:=by rw [HO.out.1.length_eq,List.length_range,HK.out.1]
     obtain ⟨hx1,hx2⟩:=incL_step (n:=n) (j:=a) HO.out.1 (by rw [HK.out.1];omega)
     have hv:=incL_at (n:=n) (O:=O) (j:=a) hx1
     have hQn:0≤lkQ n W (O.getD a 0)∧lkQ n W (O.getD a 0)≤n:=⟨lkQ_ge hn.1 (fun x hx=>(HW.out x hx).1) (by rw [HK.out.2];exact hs) _,(lkQ_le hn.1 (fun x hx=>(HW.out x hx).1) (by rw [HK.out.2];exact hs) _).1⟩
     have hvb:0≤(incL n W O a).getD (O.getD a 0) 0∧(incL n W O a).getD (O.getD a 0) 0≤1000001:=by
      rw [hv];split <;> omega
     have c5:wr.cell? ⟨qR,a,none⟩=some (.int .i64 (O.getD a 0:Nat)):=by
      have:=HQ.out.2.1.cell (j:=a) (by rw [List.length_map];omega)
      rw [this]
      congr 2
      rw [List.getD_eq_getElem?_getD,List.getD_eq_getElem?_getD,List.getElem?_map,List.getElem?_eq_getElem (by omega)];rfl
     rw [HK.out.1] at hx1
     have c6:=HQ.out.1.cell (j:=O.getD a 0) (by rw [incL_len,HK.out.1];exact hx1)
     have c7:=HQ.out.1.frozen (O.getD a 0)
     obtain ⟨x,hxe⟩:∃ x,O.getD a 0=x:=⟨_,rfl⟩
     rw [hxe] at hx1 hx2 hvb c5 c6 c7
     obtain ⟨v,hve⟩:∃ v,(incL n W O a).getD x 0=v:=⟨_,rfl⟩
     rw [hve] at hx2 hvb c6
     have hxI:(x:Int)<(j:Int):=by omega
     have hvw:IntKind.i64.wrap (v+1)=v+1:=by rw [IntKind.wrap_i64];omega
     have HQ2:Hid (PB (wr.setCell ⟨qO,x,none⟩ (.int .i64 (v+1))) qO (incL n W O (a+1))∧PB (wr.setCell ⟨qO,x,none⟩ (.int .i64 (v+1))) qR (O.map fun x:Nat=>(x:Int))∧Below w.heap.size w (wr.setCell ⟨qO,x,none⟩ (.int .i64 (v+1)))):=by
      refine ⟨?_,HQ.out.2.1.same (setCell_off _ _ _ _ _ (by omega)),HQ.out.2.2.setCell (by show _≤qO;omega) _⟩
      rw [←hx2]
      exact HQ.out.1.set _
     clear HQ hv hQn hxe hve hO1 hx2
     go_wp2_with fail
     go_roundg (t-(a+1))
     case measure=>omega
     case rel=>exact ⟨a+1,by omega,rfl,by go_num,HQ2⟩
    ·have hae:a=t:=by omega
     subst hae
     have hfin:PickOk W.length (prec n W) (fun i=>(O.take a).contains i) (lkL n W).toNat:=by
      rw [HT.out]
      exact order_pick HO.out.1 HO.out.2 (by rw [HK.out.1];omega)
     have HF:Hid (PickOk j (prec n W) (fun i=>(O.take a).contains i) (lkL n W).toNat∧w.heap.size≤qO):=⟨by have:=HK.out.1;rw [this] at hfin;exact hfin,by omega⟩
     clear hfin
     go_wp2_with fail
     go_ret
     exact ⟨_,qO,HF.out.1,rfl,HQ.out.1,HF.out.2,HQ.out.2.2⟩
def evE (n m:Int):Int:=if 0≤n∧n≤1000000∧1≤m∧m≤60 then 0 else 1
def evV (n m:Int) (i:Nat):Int:=n / m+if (i:Int)<n % m then 1 else 0
def evO (n m:Int):List Int:=if evE n m=0 then (List.range m.toNat).map (evV n m) else []
def evTo (n:Int) (m k:Nat):List Int:=(List.range m).map fun i=>if i<k then evV n m i else 0
theorem evTo_len (n:Int) (m k:Nat):(evTo n m k).length=m:=by simp [evTo]
theorem evTo_zero (n:Int) (m:Nat):evTo n m 0=List.replicate m 0:=by
 refine List.ext_getElem (by simp [evTo]) fun _ _ _=>?_
 simp [evTo]
theorem evTo_set (n:Int) (m k:Nat):(evTo n m k).set k (evV n m k)=evTo n m (k+1):=by
 refine List.ext_getElem (by simp [evTo]) fun i h1 h2=>?_
 rw [List.getElem_set]
 by_cases e:k=i
 ·subst e
  simp [evTo]
 ·rw [if_neg e]
  simp only [evTo,List.getElem_map,List.getElem_range]
  by_cases h3:i<k
  ·rw [if_pos h3,if_pos (by omega)]
  ·rw [if_neg h3,if_neg (by omega)]
set_option maxHeartbeats 4000000 in
theorem even_ok (n:Int) (m:Nat) (w:World) (hn:0≤n∧n≤1000000) (hm1:1≤m) (hm2:m≤60) :
  Calls Tryz.prog 5 #[.int .i64 n,.int .i64 m] w fun e w' => ∃ g,e=.returned (.tuple #[.slice (some ⟨g,0,none⟩) m m,.nilIface])∧IntB w' g (evTo n m m)∧w.heap.size≤g∧Below w.heap.size w w':=by
 have hc:=isamount_any n w
 rw [show isAmt n=true from decide_eq_true hn] at hc
 have hmk:=run_make_row' (P:=Tryz.prog) 22 3 (.int .i64 0) 8 Tryz.underlying22 Tryz.infoInt rfl .i64 .i64 m (by omega) (by omega)
 have hm3 : ¬ (m:Int)<1:=by omega
 have hm4 : ¬ (m:Int) > 60:=by omega
 have hm0 : ¬ (m:Int)=0:=by omega
 obtain ⟨q,hq⟩:∃ q,q=n / (m:Int):=⟨_,rfl⟩
 obtain ⟨r,hr⟩:∃ r,r=n % (m:Int):=⟨_,rfl⟩
 have hq1:n.tdiv (m:Int)=q:=by rw [Int.tdiv_eq_ediv_of_nonneg hn.1,hq]
 have hr1:n.tmod (m:Int)=r:=by rw [Int.tmod_eq_emod_of_nonneg hn.1,hr]
 have hq0:0≤q:=by rw [hq];exact Int.ediv_nonneg hn.1 (by omega)
 have hq3:q≤n:=by rw [hq];exact Int.ediv_le_self _ hn.1
 have hqw:IntKind.i64.wrap q=q:=by rw [IntKind.wrap_i64];omega
 have hqw2:IntKind.i64.wrap (q+1)=q+1:=by rw [IntKind.wrap_i64];omega
 have hq2:n / (m:Int)=q:=hq.symm
 have hr2:n % (m:Int)=r:=hr.symm
 have HV:Hid (∀ i:Nat,evV n m i=q+if (i:Int)<r then 1 else 0):=fun i=>by unfold evV;rw [hq,hr]
 clear hq hr
 have HI0:Hid (IntB (w.alloc (.cells (madeCells #[.int .i64 0] m) 3)) w.heap.size (evTo n m 0)):=by
  show IntB ..
  rw [evTo_zero]
  exact IntB.made w m
 go_enter Tryz.func5,Tryz.ntmps5
 go_wp2_with (go_at_call 13;refine hc.mono ?_;rintro e w1 ⟨rfl,hw1⟩;obtain rfl:=hw1.symm)
 go_loopg [24] m (fun gg s24 wr => ∃ (k:Nat),k≤m∧gg=m-k∧s24=.int .i64 k∧Hid (IntB wr w.heap.size (evTo n m k))∧Hid (Below w.heap.size w wr))
 case atStart=>exact ⟨0,Nat.zero_le _,rfl,rfl,HI0,hid_of (by go_grown)⟩
 case round =>
  clear HI0
  obtain ⟨k,hk,rfl,rfl,HI,HB⟩:=hrel
  by_cases hlt:k<m
  ·have hki:(k:Int)<(m:Int):=by omega
   have c0:=HI.out.cell (j:=k) (by rw [evTo_len];exact hlt)
   have f0:=HI.out.frozen k
   have hl:=HI.out.lt
   by_cases hkr:(k:Int)<r
   ·have c1:(wr.setCell ⟨w.heap.size,k,none⟩ (.int .i64 q)).cell? ⟨w.heap.size,k,none⟩=some (.int .i64 q):=World.cell?_setCell_same _ _ _ c0
    have HI2:Hid (IntB ((wr.setCell ⟨w.heap.size,k,none⟩ (.int .i64 q)).setCell ⟨w.heap.size,k,none⟩ (.int .i64 (q+1))) w.heap.size (evTo n m (k+1))):=by
     show IntB ..
     have:=(HI.out.set k q).set k (q+1)
     rw [List.set_set] at this
     rw [←evTo_set,HV.out,if_pos hkr]
     exact this
    have HB2:Hid (Below w.heap.size w ((wr.setCell ⟨w.heap.size,k,none⟩ (.int .i64 q)).setCell ⟨w.heap.size,k,none⟩ (.int .i64 (q+1)))):=(HB.out.setCell (Nat.le_refl _) _).setCell (Nat.le_refl _) _
    clear HI HB
    go_wp2_with fail
    go_roundg (m-(k+1))
    case measure=>omega
    case rel=>exact ⟨k+1,by omega,rfl,by go_num,HI2,HB2⟩
   ·have HI2:Hid (IntB (wr.setCell ⟨w.heap.size,k,none⟩ (.int .i64 q)) w.heap.size (evTo n m (k+1))):=by
     show IntB ..
     rw [←evTo_set,HV.out,if_neg hkr,Int.add_zero]
     exact HI.out.set k q
    have HB2:Hid (Below w.heap.size w (wr.setCell ⟨w.heap.size,k,none⟩ (.int .i64 q))):=HB.out.setCell (Nat.le_refl _) _
    clear HI HB
    go_wp2_with fail
    go_roundg (m-(k+1))
    case measure=>omega
    case rel=>exact ⟨k+1,by omega,rfl,by go_num,HI2,HB2⟩
  ·have hke:k=m:=by omega
   subst hke
   go_wp2_with fail
   go_ret2
   exact ⟨_,rfl,HI.out,Nat.le_refl _,HB.out⟩
set_option maxHeartbeats 4000000 in
theorem even_bad (n m:Int) (w:World) (h:evE n m≠0):Calls Tryz.prog 5 #[.int .i64 n,.int .i64 m] w fun e w'=>e=.returned (.tuple #[.slice none 0 0,.iface 46 (.int .i64 1)])∧w'=w:=by
 have hc:=isamount_any n w
 have h2:isAmt n=false∨(isAmt n=true∧(m<1∨(¬ m<1∧m > 60))):=by
  unfold evE at h
  unfold isAmt
  by_cases k:0≤n∧n≤1000000
  ·refine Or.inr ⟨decide_eq_true k,?_⟩
   by_cases k2:m<1
   ·exact Or.inl k2
   ·refine Or.inr ⟨k2,?_⟩
    by_cases k3:m > 60
    ·exact k3
    ·exact absurd (if_pos ⟨k.1,k.2,by omega,by omega⟩) h
  ·exact Or.inl (decide_eq_false k)
 clear h
 go_enter Tryz.func5,Tryz.ntmps5
 rcases h2 with h | ⟨h,h2 | ⟨h2,h3⟩⟩ <;>
  (rw [h] at hc
   go_wp2_with (go_at_call 13;refine hc.mono ?_;rintro e w1 ⟨rfl,hw1⟩;obtain rfl:=hw1.symm)
   go_ret2
   exact ⟨rfl,rfl⟩)
theorem even_any (n m:Int) (w:World):Calls Tryz.prog 5 #[.int .i64 n,.int .i64 m] w fun e w' => ∃ A c,e=.returned (.tuple #[.slice A (evO n m).length c,errV (evE n m)])∧PlAt w' A c (evO n m)∧Below w.heap.size w w':=by
 by_cases h:evE n m=0
 ·have h':0≤n∧n≤1000000∧1≤m∧m≤60:=by
   unfold evE at h
   by_cases k:0≤n∧n≤1000000∧1≤m∧m≤60
   ·exact k
   ·rw [if_neg k] at h;cases h
  obtain ⟨k,rfl⟩:∃ k:Nat,m=(k:Int):=⟨m.toNat,by omega⟩
  refine (even_ok n k w ⟨h'.1,h'.2.1⟩ (by omega) (by omega)).mono ?_
  rintro e w' ⟨g,rfl,hI,-,hB⟩
  have e1:evO n (k:Int)=evTo n k k:=by
   unfold evO;rw [if_pos h,Int.toNat_natCast]
   exact List.map_congr_left fun i hi=>(if_pos (List.mem_range.1 hi)).symm
  rw [e1,h]
  refine ⟨_,k,by rw [evTo_len];rfl,?_,hB⟩
  have:=hI.pl
  rwa [evTo_len] at this
 ·refine (even_bad n m w h).mono ?_
  rintro e w' ⟨rfl,rfl⟩
  have e1:evO n m=[]:=by unfold evO;rw [if_neg h]
  have e2:evE n m=1:=by
   unfold evE at h ⊢
   split
   ·rename_i k;rw [if_pos k] at h;exact absurd rfl h
   ·rfl
  rw [e1,e2]
  exact ⟨none,0,rfl,⟨Nat.le_refl _,Or.inl rfl⟩,Below.refl _ _⟩
end Go.Proofs.YtenlladggdcfnaaGreatDoor
namespace Go.Proofs.YtenlladggdcfnaaGreatDoor
open Go.ChangeShapes Go.WideShapes Go.ChangeAt Go.RowKit
set_option maxRecDepth 20000
def Six (W:World) (q b o k b1 o1 b2 o2:Nat) (u v0 v1 v2 x y:Value):Prop :=
 (q<W.heap.size∧b<W.heap.size∧b1<W.heap.size∧b2<W.heap.size)∧W.cell? ⟨q,0,none⟩=some u∧W.cell? ⟨b,o+k*3,none⟩=some v0∧W.cell? ⟨b,o+k*3+1,none⟩=some v1∧W.cell? ⟨b,o+k*3+2,none⟩=some v2∧W.cell? ⟨b1,o1+k,none⟩=some x∧W.cell? ⟨b2,o2+k,none⟩=some y
theorem keep6 {W w':World} {q b o k b1 o1 b2 o2:Nat} {u v0 v1 v2 x y:Value} (h:Six W q b o k b1 o1 b2 o2 u v0 v1 v2 x y) (hB:Below W.heap.size W w'):Below W.heap.size W w'∧w'.cell? ⟨q,0,none⟩=some u∧w'.cell? ⟨b,o+k*3,none⟩=some v0∧w'.cell? ⟨b,o+k*3+1,none⟩=some v1∧w'.cell? ⟨b,o+k*3+2,none⟩=some v2∧w'.cell? ⟨b1,o1+k,none⟩=some x∧w'.cell? ⟨b2,o2+k,none⟩=some y:=by
 obtain ⟨⟨h1,h2,h3,h4⟩,c0,c1,c2,c3,c4,c5⟩:=h
 exact ⟨hB,(hB.cell (p:=⟨q,0,none⟩) h1).trans c0,(hB.cell (p:=⟨b,o+k*3,none⟩) h2).trans c1,(hB.cell (p:=⟨b,o+k*3+1,none⟩) h2).trans c2,(hB.cell (p:=⟨b,o+k*3+2,none⟩) h2).trans c3,(hB.cell (p:=⟨b1,o1+k,none⟩) h3).trans c4,(hB.cell (p:=⟨b2,o2+k,none⟩) h4).trans c5⟩
set_option maxHeartbeats 8000000 in
theorem rpw_any (A0:Option Addr) (cap n:Nat) (D:Nat→Dm) (A:Nat→Option Addr) (C:Nat→Nat) (Ap:Option Addr) (cp:Nat) (p:List Int) (Aq:Option Addr) (cq:Nat) (q:List Int) (w:World) (hp:InO D n p) (hq:InO D n q) (hM:DimsV w A0 cap n D A C) (hP:PlAt w Ap cp p) (hQ:PlAt w Aq cq q) :
  Calls Tryz.prog 21 #[.agg #[.slice A0 n cap],.slice Ap p.length cp,.slice Aq q.length cq] w fun e w'=>e=.returned (.tuple #[.int .i64 (pwTo D p q n),.bool (inTo D p q n)])∧Below w.heap.size w w':=by
 obtain ⟨hn1,hn4,-,hd⟩:=allErr_some hp.right
 have hl:=hp.len
 have hl2:=hq.len
 obtain ⟨hcp,h0 | ⟨b1,o1,rfl,hb1,hc1⟩⟩:=hP
 ·rw [h0] at hl;simp at hl;omega
 obtain ⟨hcq,h0 | ⟨b2,o2,rfl,hb2,hc2⟩⟩:=hQ
 ·rw [h0] at hl2;simp at hl2;omega
 obtain ⟨hcap,h0 | ⟨b,o,rfl,hMs⟩⟩:=hM
 ·omega
 rw [hl] at hcp hc1 ⊢
 rw [hl2] at hcq hc2 ⊢
 have hB0:=ownOut_below w (some ⟨b,o,none⟩) n cap 25
 obtain ⟨W,hW⟩:∃ W,w.alloc (.cells #[.slice (some ⟨b,o,none⟩) n cap] 25)=W:=⟨_,rfl⟩
 have hWo:ownOut w (some ⟨b,o,none⟩) n cap 25=W:=hW
 rw [hWo] at hB0
 have cW:W.cell? ⟨w.heap.size,0,none⟩=some (.slice (some ⟨b,o,none⟩) n cap):=by rw [←hWo];exact ownOut_at ..
 have hzW:w.heap.size<W.heap.size:=by rw [←hWo,ownOut_size];omega
 have HB0:Hid (Below w.heap.size w W):=hB0
 have HMs:Hid (DimsAt W b o n D A C):=hMs.later hB0
 have HC1:Hid (∀ j,j<n→W.cell? ⟨b1,o1+j,none⟩=some (.int .i64 (p.getD j 0))):=fun j hj=>(hB0.cell (p:=⟨b1,o1+j,none⟩) hb1).trans (hc1 j hj)
 have HC2:Hid (∀ j,j<n→W.cell? ⟨b2,o2+j,none⟩=some (.int .i64 (q.getD j 0))):=fun j hj=>(hB0.cell (p:=⟨b2,o2+j,none⟩) hb2).trans (hc2 j hj)
 have hz1:b1<W.heap.size:=Nat.lt_of_lt_of_le hb1 hB0.size
 have hz2:b2<W.heap.size:=Nat.lt_of_lt_of_le hb2 hB0.size
 have HIp:Hid (InO D n p):=hp
 have HIq:Hid (InO D n q):=hq
 have hn':(n:Int)≤4:=by omega
 clear hWo hMs hc1 hc2 hb1 hb2 hB0 hp hq hl hl2
 go_enter Tryz.func21,Tryz.ntmps21
 go_wp2_with fail
 clear hW
 go_loopg [8,9] n (fun g s8 s9 wr => ∃ (k:Nat),k≤n∧g=n-k∧s9=.int .i64 k∧s8=.int .i64 (pwTo D p q k)∧Hid (inTo D p q k=true)∧Below W.heap.size W wr)
 case atStart=>exact ⟨0,Nat.zero_le _,rfl,rfl,rfl,(rfl:inTo D p q 0=true),Below.refl _ _⟩
 case round =>
  obtain ⟨k,hk,rfl,rfl,rfl,HIn,hBw⟩:=hrel
  have HBw:Hid (Below W.heap.size W wr):=hBw
  by_cases hlt:k<n
  ·have hki:(k:Int)<(n:Int):=by omega
   obtain ⟨d0,d1,d2,h4⟩:=(HMs.out.later hBw).2 k hlt
   have hdk:=(allErr_right HIp.out.right).2 k hlt
   obtain ⟨hdn1,hdn2⟩:=hd k hlt
   have hbr:=(HMs.out.later hBw).1
   obtain ⟨hcm,h0 | ⟨bm,om,hAk,hMm⟩⟩:=h4
   ·omega
   rw [hAk] at d2
   have e1:=(hBw.cell (p:=⟨b1,o1+k,none⟩) hz1).trans (HC1.out k hlt)
   have e2:=(hBw.cell (p:=⟨b2,o2+k,none⟩) hz2).trans (HC2.out k hlt)
   have cr:=(hBw.cell (p:=⟨w.heap.size,0,none⟩) hzW).trans cW
   obtain ⟨x,hx⟩:∃ x:Nat,p.getD k 0=x:=⟨(p.getD k 0).toNat,by have:=HIp.out.lo k hlt;omega⟩
   obtain ⟨y,hy⟩:∃ y:Nat,q.getD k 0=y:=⟨(q.getD k 0).toNat,by have:=HIq.out.lo k hlt;omega⟩
   have hyn:y<(D k).n:=by have:=HIq.out.hi k hlt;omega
   rw [hx] at e1
   rw [hy] at e2
   have HWt:Hid (∀ w',Below wr.heap.size wr w'→Calls Tryz.prog 41 #[.agg #[.string (D k).name,.int .i64 (D k).solve,.slice (some ⟨bm,om,none⟩) (D k).n (C k)],.int .i64 x,.int .i64 y] w' fun e w''=>e=.returned (.tuple #[.int .i64 (weightOf (D k).mem x y),.bool (inB (pathOf (D k).mem y) x)])∧Below w'.heap.size w' w''):=fun w' hw'=>rweight_any (D k) bm om (C k) x y w' hdn2 hyn (Tr.of hdk) (Sg.of hdk) (hMm.later hw')
   have HIn2:Hid (inTo D p q (k+1)=inB (pathOf (D k).mem y) x):=by show _=_;rw [inTo,HIn.out,hx,hy,Bool.true_and]
   have HPw2:Hid (pwTo D p q (k+1)=pwTo D p q k*weightOf (D k).mem x y):=by show _=_;rw [pwTo,hx,hy]
   have hsm:=pwTo_small HIq.out p (k+1) (by omega)
   rw [HPw2.out] at hsm
   have HOut:Hid (inTo D p q (k+1)=false→inTo D p q n=false∧pwTo D p q n=0):=fun h=>by
    have hi:∀ m,k+1≤m→inTo D p q m=false:=by
     intro m hm
     induction m with
     | zero=>omega
     | succ m ih =>
      by_cases h5:k+1=m+1
      ·rw [←h5];exact h
      ·rw [inTo,ih (by omega),Bool.false_and]
    have:=hi n (by omega)
    exact ⟨this,pwTo_out this⟩
   have HSix:Hid (Six wr w.heap.size b o k b1 o1 b2 o2 (.slice (some ⟨b,o,none⟩) n cap) (.string (D k).name) (.int .i64 (D k).solve) (.slice (some ⟨bm,om,none⟩) (D k).n (C k)) (.int .i64 x) (.int .i64 y)):=⟨⟨Nat.lt_of_lt_of_le hzW hBw.size,hbr,Nat.lt_of_lt_of_le hz1 hBw.size,Nat.lt_of_lt_of_le hz2 hBw.size⟩,cr,d0,d1,d2,e1,e2⟩
   generalize weightOf (D k).mem x y=wt at HWt HPw2 hsm
   generalize inB (pathOf (D k).mem y) x=tI at HWt HIn2
   generalize (D k).name=dn at HWt HSix
   generalize (D k).solve=ds at HWt HSix
   generalize (D k).n=dk at HWt HSix hdn1 hdn2 hyn
   obtain ⟨pk,hpk⟩:∃ v,pwTo D p q k=v:=⟨_,rfl⟩
   have HPK:Hid (pwTo D p q k=pk):=hpk
   rw [hpk] at hsm ⊢
   obtain ⟨hs1,hs2⟩:=hsm
   clear hBw hMm hx hy d0 d1 d2 e1 e2 cr hAk hdk hpk
   go_wp2_with fail
   go_cut [10,11] (fun s10 s11 wx=>s10=.int .i64 wt∧s11=.bool tI∧Below wr.heap.size wr wx)
   case first=>as_aux_lemma =>
    go_region_held3 (fun w'=>Below wr.heap.size wr w'∧w'.cell? ⟨w.heap.size,0,none⟩=some (.slice (some ⟨b,o,none⟩) n cap)∧w'.cell? ⟨b,o+k*3,none⟩=some (.string dn)∧w'.cell? ⟨b,o+k*3+1,none⟩=some (.int .i64 ds)∧w'.cell? ⟨b,o+k*3+2,none⟩=some (.slice (some ⟨bm,om,none⟩) dk (C k))∧w'.cell? ⟨b1,o1+k,none⟩=some (.int .i64 x)∧w'.cell? ⟨b2,o2+k,none⟩=some (.int .i64 y))
     ((refine keep6 HSix.out ?_;go_grown;done))
     (first | (go_at_call 41;refine (HWt.out _ (by go_grown)).mono ?_;rintro e w3 ⟨rfl,hb3⟩;have hN3:=onB (W0:=wr) (by go_grown) hb3;have hy3:=hN3.size;clear hb3))
    all_goals go_wp2_with fail
    all_goals go_meet
    all_goals exact ⟨rfl,rfl,by go_grown⟩
   case rest=>as_aux_lemma =>
   obtain ⟨rfl,rfl,hb⟩:=hcut
   obtain ⟨w2,rfl⟩:∃ w2:World,w2=wc:=⟨_,rfl⟩
   have HB2:Hid (Below W.heap.size W w2):=onB HBw.out hb
   clear hb HSix HWt
   cases tI
   ·obtain ⟨r1,r2⟩:=HOut.out HIn2.out
    have HR:Hid (inTo D p q n=false∧pwTo D p q n=0):=⟨r1,r2⟩
    clear r1 r2
    go_wp2_with fail
    go_ret2
    rw [HR.out.1,HR.out.2]
    exact ⟨rfl,onB HB0.out HB2.out⟩
   ·go_wp2_with fail
    go_roundg (n-(k+1))
    case measure=>omega
    case rel=>exact ⟨k+1,by omega,rfl,by go_num,by rw [HPw2.out,HPK.out],HIn2,HB2.out⟩
  ·have hke:k=n:=by omega
   subst hke
   have HR:Hid (inTo D p q k=true):=HIn
   clear hBw
   go_wp2_with fail
   go_ret2
   rw [HR.out]
   exact ⟨rfl,onB HB0.out HBw.out⟩
end Go.Proofs.YtenlladggdcfnaaGreatDoor
