/-
  byWeight: a number on parts by weights.
-/
import Derived.Test.YtenlladggdcfnaaGreatDoorJABC
namespace Go.Proofs.YtenlladggdcfnaaGreatDoor
open Go Go.ChangeShapes Go.WideShapes Go.ChangeAt Go.RowKit Go.Shelf Go.Lib Go.Sort
set_option maxRecDepth 100000
def qTo (n:Int) (W:List Int) (k:Nat):List Int:=(List.range W.length).map fun i=>if i<k then lkQ n W i else 0
theorem qTo_len (n:Int) (W:List Int) (k:Nat):(qTo n W k).length=W.length:=by simp [qTo]
theorem qTo_zero (n:Int) (W:List Int):qTo n W 0=List.replicate W.length 0:=by
 refine List.ext_getElem (by simp [qTo]) fun _ _ _=>?_
 simp [qTo]
theorem qTo_all (n:Int) (W:List Int):qTo n W W.length=incL n W [] 0:=by
 rw [incL_zero];exact List.map_congr_left fun _ hi=>if_pos (List.mem_range.1 hi)
theorem incL_none (n:Int) (W:List Int) (O:List Nat):incL n W [] 0=incL n W O 0:=by rw [incL_zero,incL_zero]
theorem qTo_set (n:Int) (W:List Int) (k:Nat):(qTo n W k).set k (lkQ n W k)=qTo n W (k+1):=by
 refine List.ext_getElem (by simp [qTo]) fun i h1 h2=>?_
 rw [List.getElem_set]
 by_cases e:k=i
 ·subst e
  simp [qTo]
 ·rw [if_neg e]
  simp only [qTo,List.getElem_map,List.getElem_range]
  by_cases h3:i<k
  ·rw [if_pos h3,if_pos (by omega)]
  ·rw [if_neg h3,if_neg (by omega)]
def leftTo (n:Int) (W:List Int) (k:Nat):Int:=n-((List.range k).map (lkQ n W)).sum
theorem leftTo_step (n:Int) (W:List Int) (k:Nat):leftTo n W (k+1)=leftTo n W k-lkQ n W k:=by
 unfold leftTo;rw [List.range_succ,List.map_append,List.sum_append];simp;omega
theorem leftTo_bd {n:Int} {W:List Int} (hn:0≤n∧n≤1000000) (h:∀ x∈W,0≤x) (hs:0<W.sum):∀ j:Nat,- ((j:Int)*1000000)≤leftTo n W j∧leftTo n W j≤1000000
 | 0=>by unfold leftTo;simp;omega
 | j+1=>by
  have:=leftTo_bd hn h hs j
  have h1:=lkQ_ge (n:=n) hn.1 h hs j
  have h2:=(lkQ_le (n:=n) hn.1 h hs j).1
  rw [leftTo_step];omega
theorem five_alloc (w:World) (o1 o2 o3 o4 o5:Obj):∃ q2 q3 qO qR:Nat,q2=w.heap.size+1∧q3=w.heap.size+1+1∧qO=w.heap.size+1+1+1∧qR=w.heap.size+1+1+1+1∧w.heap.size<q2∧q2<q3∧q3<qO∧qO<qR ∧
  (((((w.alloc o1).alloc o2).alloc o3).alloc o4).alloc o5).heap.size=qR+1∧(((((w.alloc o1).alloc o2).alloc o3).alloc o4).alloc o5).heap[w.heap.size]?=some o1∧(((((w.alloc o1).alloc o2).alloc o3).alloc o4).alloc o5).heap[q2]?=some o2 ∧
  (((((w.alloc o1).alloc o2).alloc o3).alloc o4).alloc o5).heap[q3]?=some o3∧(((((w.alloc o1).alloc o2).alloc o3).alloc o4).alloc o5).heap[qO]?=some o4∧(((((w.alloc o1).alloc o2).alloc o3).alloc o4).alloc o5).heap[qR]?=some o5∧Below w.heap.size w (((((w.alloc o1).alloc o2).alloc o3).alloc o4).alloc o5):=by
 have e:(((((w.alloc o1).alloc o2).alloc o3).alloc o4).alloc o5).heap=((((w.heap.push o1).push o2).push o3).push o4).push o5:=rfl
 refine ⟨_,_,_,_,rfl,rfl,rfl,rfl,by omega,by omega,by omega,by omega,by rw [e];simp,?_,?_,?_,?_,?_,by go_grown⟩
 all_goals (rw [e];simp only [Array.getElem?_push,Array.size_push])
 ·rw [if_neg (by omega),if_neg (by omega),if_neg (by omega),if_neg (by omega),if_pos trivial]
 ·rw [if_neg (by omega),if_neg (by omega),if_neg (by omega),if_pos trivial]
 ·rw [if_neg (by omega),if_neg (by omega),if_pos trivial]
 ·rw [if_neg (by omega),if_pos trivial]
 ·rw [if_pos trivial]
set_option maxHeartbeats 8000000 in
theorem byweight_any (n:Int) (A:Option Addr) (cA:Nat) (W:List Int) (w:World) (hL:PlAt w A cA W) (hW0:0<W.length) (hWk:W.length≤60) (hs:0<W.sum) (hn:0≤n∧n≤1000000) (hW:∀ x∈W,0≤x∧x≤1000000) :
  Calls Tryz.prog 17 #[.int .i64 n,.slice A W.length cA,.int .i64 W.sum] w fun e w' => ∃ (P:Nat→Bool) (g:Nat),PickOk W.length (prec n W) P (lkL n W).toNat∧e=.returned (.slice (some ⟨g,0,none⟩) W.length W.length)∧PB w' g (lkO n W P)∧w.heap.size≤g∧Below w.heap.size w w':=by
 obtain ⟨k,hk⟩:∃ k,W.length=k:=⟨_,rfl⟩
 have hmk:=run_make_row' (P:=Tryz.prog) 22 3 (.int .i64 0) 8 Tryz.underlying22 Tryz.infoInt rfl .i64 .i64 k (by omega) (by omega)
 obtain ⟨s,hse⟩:∃ s,W.sum=s:=⟨_,rfl⟩
 have HK:Hid (W.length=k∧W.sum=s):=⟨hk,hse⟩
 have HW:Hid (∀ x∈W,0≤x∧x≤1000000):=hW
 have HL:Hid (PlAt w A cA W):=hL
 have hkI:(k:Int)≤60:=by omega
 rw [hk] at hW0 ⊢
 rw [hse] at hs ⊢
 clear hW hL hk hse
 have hs0 : ¬ s=0:=by omega
 go_enter Tryz.func17,Tryz.ntmps17
 go_upto_region 4 with fail
 obtain ⟨y,hy⟩:∃ y,(((((w.alloc (.cells #[.int .i64 n] 3)).alloc (.cells #[.slice A k cA] 22)).alloc (.cells #[.int .i64 s] 3)).alloc (.cells (madeCells #[.int .i64 0] k) 3)).alloc (.cells (madeCells #[.int .i64 0] k) 3))=y:=⟨_,rfl⟩
 rw [hy]
 obtain ⟨q2,q3,qO,qR,e2,e3,eO,eR,l1,l2,l3,l4,hyz,hc1,hc2,hc3,hc4,hc5,hB0⟩:=five_alloc w (.cells #[.int .i64 n] 3) (.cells #[.slice A k cA] 22) (.cells #[.int .i64 s] 3) (.cells (madeCells #[.int .i64 0] k) 3) (.cells (madeCells #[.int .i64 0] k) 3)
 rw [hy] at hyz hc1 hc2 hc3 hc4 hc5 hB0
 rw [←eR,←eO,←e3,←e2]
 have HY:Hid (IntB y qO (qTo n W 0)∧IntB y qR (risTo k 0)∧y.heap[w.heap.size]?=some (.cells #[.int .i64 n] 3 (0,0))∧y.heap[q2]?=some (.cells #[.slice A k cA] 22 (0,0))∧y.heap[q3]?=some (.cells #[.int .i64 s] 3 (0,0))∧Below w.heap.size w y) :=
  ⟨by unfold IntB;rw [hc4,qTo_zero,HK.out.1,made_ints],by unfold IntB;rw [hc5,risTo_zero,made_ints],hc1,hc2,hc3,hB0⟩
 have c2:y.cell? ⟨q2,0,none⟩=some (.slice A k cA):=(Lib.cell_of_heap hc2 0).trans rfl
 have l5:qR<y.heap.size:=by omega
 clear hc1 hc2 hc3 hc4 hc5 hB0 hy hyz e2 e3 eO eR
 go_wp2_with fail
 go_loopg [9,24] k (fun gg s9 s24 wr => ∃ j:Nat,j≤k∧gg=k-j∧s24=.int .i64 j∧s9=.int .i64 (leftTo n W j)∧Hid (IntB wr qO (qTo n W j)∧IntB wr qR (risTo k j)∧wr.heap[w.heap.size]?=some (.cells #[.int .i64 n] 3 (0,0))∧wr.heap[q2]?=some (.cells #[.slice A k cA] 22 (0,0))∧wr.heap[q3]?=some (.cells #[.int .i64 s] 3 (0,0))∧Below w.heap.size w wr))
 case atStart=>exact ⟨0,Nat.zero_le _,rfl,rfl,by simp [leftTo],HY⟩
 case round =>
  clear HY c2 l5
  obtain ⟨j,hjk,rfl,rfl,rfl,HY⟩:=hrel
  by_cases hlt:j<k
  ·have hjI:(j:Int)<(k:Int):=by omega
   obtain ⟨i1,i2,b1,b2,b3,hB⟩:=HY.out
   obtain ⟨-,h0 | ⟨bA,oA,rfl,hbA,hX⟩⟩:=HL.out
   ·have:=HK.out.1;rw [h0] at this;simp at this;omega
   have hx:wr.cell? ⟨bA,oA+j,none⟩=some (.int .i64 (W.getD j 0)):=by rw [hB.cell (by exact hbA)];exact hX j (by rw [HK.out.1];exact hlt)
   have hm:W.getD j 0∈W:=by rw [List.getD_eq_getElem?_getD,List.getElem?_eq_getElem (by rw [HK.out.1];exact hlt)];exact List.getElem_mem _
   have hw:=HW.out _ hm
   have hQ:lkQ n W j=n*W.getD j 0 / s:=by unfold lkQ;rw [HK.out.2]
   have hQn:0≤lkQ n W j∧lkQ n W j≤n:=⟨lkQ_ge hn.1 (fun x hx=>(HW.out x hx).1) (by rw [HK.out.2];exact hs) j,(lkQ_le hn.1 (fun x hx=>(HW.out x hx).1) (by rw [HK.out.2];exact hs) j).1⟩
   obtain ⟨x,hxe⟩:∃ x,W.getD j 0=x:=⟨_,rfl⟩
   rw [hxe] at hx hw hQ
   obtain ⟨z,hze⟩:∃ z,z=n*x:=⟨_,rfl⟩
   have hz0:0≤z:=by rw [hze];exact Int.mul_nonneg hn.1 hw.1
   have hz1:z≤1000000*1000000:=by rw [hze];exact Int.mul_le_mul hn.2 hw.2 hw.1 (by omega)
   have hzw:IntKind.i64.wrap (n*x)=z:=by rw [←hze,IntKind.wrap_i64];omega
   rw [←hze] at hQ
   have hst:=leftTo_step n W j
   have hLj : -1000000000≤leftTo n W j∧leftTo n W j≤1000000000:=by have:=leftTo_bd hn (fun x hx=>(HW.out x hx).1) (by rw [HK.out.2];exact hs) j;omega
   obtain ⟨u,hu⟩:∃ u,lkQ n W j=u:=⟨_,rfl⟩
   rw [hu] at hQ hQn hst
   have hq:z.tdiv s=u:=by rw [Int.tdiv_eq_ediv_of_nonneg hz0];exact hQ.symm
   have hqw:IntKind.i64.wrap u=u:=by rw [IntKind.wrap_i64];omega
   have d1:wr.cell? ⟨w.heap.size,0,none⟩=some (.int .i64 n):=(Lib.cell_of_heap b1 0).trans rfl
   have d3:wr.cell? ⟨q3,0,none⟩=some (.int .i64 s):=(Lib.cell_of_heap b3 0).trans rfl
   have o1:=i1.cell (j:=j) (by rw [qTo_len,HK.out.1];exact hlt)
   have o2:=i1.frozen j
   have o3:(wr.setCell ⟨qO,j,none⟩ (.int .i64 u)).cell? ⟨qR,j,none⟩=some (.int .i64 ((risTo k j).getD j 0)):=(World.cell?_of_block (w:=wr) (a:=⟨qR,j,none⟩) (setCell_off _ _ _ _ _ (by show qR≠qO;omega))).trans (i2.cell (j:=j) (by rw [risTo_len];exact hlt))
   have o4:=i2.frozen j
   obtain ⟨y2,hy2⟩:∃ y2,(wr.setCell ⟨qO,j,none⟩ (.int .i64 u)).setCell ⟨qR,j,none⟩ (.int .i64 j)=y2:=⟨_,rfl⟩
   have o5:((wr.setCell ⟨qO,j,none⟩ (.int .i64 u)).setCell ⟨qR,j,none⟩ (.int .i64 j)).cell? ⟨qO,j,none⟩=some (.int .i64 u):=by
    rw [World.cell?_of_block (w:=wr.setCell ⟨qO,j,none⟩ (.int .i64 u)) (a:=⟨qO,j,none⟩) (setCell_off _ _ _ _ _ (by show qO≠qR;omega))]
    exact World.cell?_setCell_same _ _ _ o1
   rw [hy2] at o5
   have HY2:Hid (IntB y2 qO (qTo n W (j+1))∧IntB y2 qR (risTo k (j+1))∧y2.heap[w.heap.size]?=some (.cells #[.int .i64 n] 3 (0,0))∧y2.heap[q2]?=some (.cells #[.slice (some ⟨bA,oA,none⟩) k cA] 22 (0,0))∧y2.heap[q3]?=some (.cells #[.int .i64 s] 3 (0,0))∧Below w.heap.size w y2):=by
    have hoff:∀ q,q≠qO→q≠qR→y2.heap[q]?=wr.heap[q]?:=fun q h1 h2=>by rw [←hy2];exact (setCell_off _ _ _ _ _ h2).trans (setCell_off _ _ _ _ _ h1)
    refine ⟨?_,?_,(hoff _ (by omega) (by omega)).trans b1,(hoff _ (by omega) (by omega)).trans b2,(hoff _ (by omega) (by omega)).trans b3,?_⟩
    ·rw [←hy2,←qTo_set,hu]
     have:=i1.set j u
     unfold IntB at this ⊢
     rw [setCell_off _ _ _ _ _ (by omega)];exact this
    ·rw [←hy2,←risTo_set]
     have:IntB (wr.setCell ⟨qO,j,none⟩ (.int .i64 u)) qR (risTo k j):=by unfold IntB;rw [setCell_off _ _ _ _ _ (by omega)];exact i2
     exact this.set j j
    ·rw [←hy2];exact (hB.setCell (by show _≤qO;omega) _).setCell (by show _≤qR;omega) _
   have hq2:z / s=u:=hQ.symm
   clear i1 i2 b1 b2 b3 hB hX hm HY hu hQ hxe hze
   have hsub:IntKind.i64.wrap (leftTo n W j-u)=leftTo n W (j+1):=by rw [hst,IntKind.wrap_i64];omega
   clear hst
   obtain ⟨lf2,hlf2⟩:∃ x,x=leftTo n W (j+1):=⟨_,rfl⟩
   rw [←hlf2] at hsub
   have HLF:Hid (lf2=leftTo n W (j+1)):=hlf2
   clear hlf2
   generalize leftTo n W j=lf at hLj hsub ⊢
   go_wp2_with fail
   go_roundg (k-(j+1))
   case measure=>omega
   case rel=>exact ⟨j+1,by omega,rfl,by go_num,by rw [HLF.out],HY2⟩
  ·have hje:j=k:=by omega
   subst hje
   have hlr:leftTo n W j=lkL n W:=by unfold leftTo lkL;rw [HK.out.1]
   have hl0:=lkL_ge (n:=n) (W:=W) (by rw [HK.out.2];exact hs)
   have hl1:=lkL_lt (n:=n) (W:=W) (by rw [HK.out.2];exact hs) (by rw [HK.out.1];exact hW0)
   obtain ⟨t,ht⟩:∃ t:Nat,(lkL n W).toNat=t:=⟨_,rfl⟩
   have htI:lkL n W=(t:Int):=by omega
   have htk:t<j:=by have:=HK.out.1;omega
   rw [hlr,htI]
   have HT:Hid ((lkL n W).toNat=t):=ht
   clear hlr hl0 hl1 htI ht
   go_upto_region 11 with fail
   obtain ⟨y3,hy3⟩:∃ y3,wr.alloc (.cells #[.func (.func 32) #[] #[.pointer (some ⟨w.heap.size,0,none⟩),.pointer (some ⟨q2,0,none⟩),.pointer (some ⟨q3,0,none⟩)]] 75)=y3:=⟨_,rfl⟩
   rw [hy3]
   obtain ⟨i1,i2,b1,b2,b3,hB⟩:=HY.out
   have hoff:∀ q,q<wr.heap.size→y3.heap[q]?=wr.heap[q]?:=fun q hq=>by rw [←hy3];exact Below.heap_alloc _ _ _ hq
   have hnew:y3.heap[wr.heap.size]?=some (.cells #[.func (.func 32) #[] #[.pointer (some ⟨w.heap.size,0,none⟩),.pointer (some ⟨q2,0,none⟩),.pointer (some ⟨q3,0,none⟩)]] 75 (0,0)):=by rw [←hy3];exact heap_alloc_new ..
   have hsz3:y3.heap.size=wr.heap.size+1:=by rw [←hy3];simp
   have hRl:=i2.lt
   have hB3:Below w.heap.size w y3:=by rw [←hy3];exact hB.alloc hB.size _
   have i1':IntB y3 qO (incL n W [] 0):=by unfold IntB at *;rw [hoff _ (by omega),←qTo_all,HK.out.1];exact i1
   have i2':IntB y3 qR (risL W.length):=by unfold IntB at *;rw [hoff _ hRl,HK.out.1,←risTo_all];exact i2
   have HR:∀ w',OffG qR y3 w'→RestA w' w.heap.size q2 q3 n A cA W∧w'.cell? ⟨wr.heap.size,0,none⟩=some (.func (.func 32) #[] #[.pointer (some ⟨w.heap.size,0,none⟩),.pointer (some ⟨q2,0,none⟩),.pointer (some ⟨q3,0,none⟩)]):=fun w' hO=>by
    have hB':Below w.heap.size w w':=hO.below hB3 (by omega) (by omega)
    refine ⟨⟨?_,?_,?_,HL.out.later hB'⟩,?_⟩
    ·exact (Lib.cell_of_heap ((hO.block _ (by omega) (by omega)).trans ((hoff _ (by omega)).trans b1)) 0).trans rfl
    ·have:=(Lib.cell_of_heap ((hO.block _ (by omega) (by omega)).trans ((hoff _ (by omega)).trans b2)) 0)
     rw [this,HK.out.1];rfl
    ·have:=(Lib.cell_of_heap ((hO.block _ (by omega) (by omega)).trans ((hoff _ (by omega)).trans b3)) 0)
     rw [this,HK.out.2];rfl
    ·exact (Lib.cell_of_heap ((hO.block _ (by omega) (by omega)).trans hnew) 0).trans rfl
   have hc:=sortw_any qR j w.heap.size q2 q3 wr.heap.size n A cA W y3 (by rw [HK.out.1];exact hW0) hWk i2' HR (by rw [HK.out.2];exact hs) hn HW.out
   rw [HK.out.1] at hc
   have HZ:Hid (IntB y3 qO (incL n W [] 0)∧Below w.heap.size w y3):=⟨i1',hB3⟩
   have l6:qO<y3.heap.size:=by omega
   have l7:w.heap.size≤y3.heap.size:=by omega
   clear i1 i2 b1 b2 b3 hB hoff hnew hsz3 hRl hB3 i1' i2' HR HY hy3
   go_wp2_with fail
   refine hc.mono ?_
   rintro e w2 ⟨rfl,⟨O,hO1,hO2,hO3⟩,hO4⟩
   have HO:Hid (O.Perm (List.range W.length)∧(∀ a b,a<b→b<W.length→prec n W (O.getD a 0) (O.getD b 0)=true)):=⟨by rw [HK.out.1];exact hO1,fun a b h1 h2=>hO2 a b h1 (by have:=HK.out.1;omega)⟩
   have HQ:Hid (PB w2 qO (incL n W O 0)∧PB w2 qR (O.map fun x:Nat=>(x:Int))∧Below w.heap.size w w2):=by
    refine ⟨?_,hO3,hO4.below HZ.out.2 (by omega) l7⟩
    have:=HZ.out.1
    unfold IntB at this
    rw [incL_none n W O] at this
    refine ⟨_,(hO4.block qO l6 (by omega)).trans this,fun j hj=>?_⟩
    simp [List.getD,hj]
   clear hO1 hO2 hO3 hO4 HZ hc
   have htI:(t:Int)≤(j:Int):=by omega
   go_wp2_with fail
   go_loopg [56] t (fun gg s56 wz => ∃ a:Nat,a≤t∧gg=t-a∧s56=.int .i64 a∧Hid (PB wz qO (incL n W O a)∧PB wz qR (O.map fun x:Nat=>(x:Int))∧Below w.heap.size w wz))
   case atStart=>exact ⟨0,Nat.zero_le _,rfl,rfl,HQ⟩
   case round =>
    clear HQ
    obtain ⟨a,hat,rfl,rfl,HQ⟩:=hrel
    by_cases hlt2:a<t
    ·have haI:(a:Int)<(t:Int):=by omega
     have hO1:O.length=j:=by rw [HO.out.1.length_eq,List.length_range,HK.out.1]
     obtain ⟨hx1,hx2⟩:=incL_step (n:=n) (j:=a) HO.out.1 (by rw [HK.out.1];omega)
     have hv:=incL_at (n:=n) (O:=O) (j:=a) hx1
     have hQn:0≤lkQ n W (O.getD a 0)∧lkQ n W (O.getD a 0)≤n:=⟨lkQ_ge hn.1 (fun x hx=>(HW.out x hx).1) (by rw [HK.out.2];exact hs) _,(lkQ_le hn.1 (fun x hx=>(HW.out x hx).1) (by rw [HK.out.2];exact hs) _).1⟩
     have hvb:0≤(incL n W O a).getD (O.getD a 0) 0∧(incL n W O a).getD (O.getD a 0) 0≤1000001:=by
      rw [hv];split <;> omega
     have c5:wr.cell? ⟨qR,a,none⟩=some (.int .i64 (O.getD a 0:Nat)):=by
      have:=HQ.out.2.1.cell (j:=a) (by rw [List.length_map];omega)
      rw [this]
      congr 2
      rw [List.getD_eq_getElem?_getD,List.getD_eq_getElem?_getD,List.getElem?_map,List.getElem?_eq_getElem (by omega)];rfl
     rw [HK.out.1] at hx1
     have c6:=HQ.out.1.cell (j:=O.getD a 0) (by rw [incL_len,HK.out.1];exact hx1)
     have c7:=HQ.out.1.frozen (O.getD a 0)
     obtain ⟨x,hxe⟩:∃ x,O.getD a 0=x:=⟨_,rfl⟩
     rw [hxe] at hx1 hx2 hvb c5 c6 c7
     obtain ⟨v,hve⟩:∃ v,(incL n W O a).getD x 0=v:=⟨_,rfl⟩
     rw [hve] at hx2 hvb c6
     have hxI:(x:Int)<(j:Int):=by omega
     have hvw:IntKind.i64.wrap (v+1)=v+1:=by rw [IntKind.wrap_i64];omega
     have HQ2:Hid (PB (wr.setCell ⟨qO,x,none⟩ (.int .i64 (v+1))) qO (incL n W O (a+1))∧PB (wr.setCell ⟨qO,x,none⟩ (.int .i64 (v+1))) qR (O.map fun x:Nat=>(x:Int))∧Below w.heap.size w (wr.setCell ⟨qO,x,none⟩ (.int .i64 (v+1)))):=by
      refine ⟨?_,HQ.out.2.1.same (setCell_off _ _ _ _ _ (by omega)),HQ.out.2.2.setCell (by show _≤qO;omega) _⟩
      rw [←hx2]
      exact HQ.out.1.set _
     clear HQ hv hQn hxe hve hO1 hx2
     go_wp2_with fail
     go_roundg (t-(a+1))
     case measure=>omega
     case rel=>exact ⟨a+1,by omega,rfl,by go_num,HQ2⟩
    ·have hae:a=t:=by omega
     subst hae
     have hfin:PickOk W.length (prec n W) (fun i=>(O.take a).contains i) (lkL n W).toNat:=by
      rw [HT.out]
      exact order_pick HO.out.1 HO.out.2 (by rw [HK.out.1];omega)
     have HF:Hid (PickOk j (prec n W) (fun i=>(O.take a).contains i) (lkL n W).toNat∧w.heap.size≤qO):=⟨by have:=HK.out.1;rw [this] at hfin;exact hfin,by omega⟩
     clear hfin
     go_wp2_with fail
     go_ret
     exact ⟨_,qO,HF.out.1,rfl,HQ.out.1,HF.out.2,HQ.out.2.2⟩
def evE (n m:Int):Int:=if 0≤n∧n≤1000000∧1≤m∧m≤60 then 0 else 1
def evV (n m:Int) (i:Nat):Int:=n / m+if (i:Int)<n % m then 1 else 0
def evO (n m:Int):List Int:=if evE n m=0 then (List.range m.toNat).map (evV n m) else []
def evTo (n:Int) (m k:Nat):List Int:=(List.range m).map fun i=>if i<k then evV n m i else 0
theorem evTo_len (n:Int) (m k:Nat):(evTo n m k).length=m:=by simp [evTo]
theorem evTo_zero (n:Int) (m:Nat):evTo n m 0=List.replicate m 0:=by
 refine List.ext_getElem (by simp [evTo]) fun _ _ _=>?_
 simp [evTo]
theorem evTo_set (n:Int) (m k:Nat):(evTo n m k).set k (evV n m k)=evTo n m (k+1):=by
 refine List.ext_getElem (by simp [evTo]) fun i h1 h2=>?_
 rw [List.getElem_set]
 by_cases e:k=i
 ·subst e
  simp [evTo]
 ·rw [if_neg e]
  simp only [evTo,List.getElem_map,List.getElem_range]
  by_cases h3:i<k
  ·rw [if_pos h3,if_pos (by omega)]
  ·rw [if_neg h3,if_neg (by omega)]
set_option maxHeartbeats 4000000 in
theorem even_ok (n:Int) (m:Nat) (w:World) (hn:0≤n∧n≤1000000) (hm1:1≤m) (hm2:m≤60) :
  Calls Tryz.prog 5 #[.int .i64 n,.int .i64 m] w fun e w' => ∃ g,e=.returned (.tuple #[.slice (some ⟨g,0,none⟩) m m,.nilIface])∧IntB w' g (evTo n m m)∧w.heap.size≤g∧Below w.heap.size w w':=by
 have hc:=isamount_any n w
 rw [show isAmt n=true from decide_eq_true hn] at hc
 have hmk:=run_make_row' (P:=Tryz.prog) 22 3 (.int .i64 0) 8 Tryz.underlying22 Tryz.infoInt rfl .i64 .i64 m (by omega) (by omega)
 have hm3 : ¬ (m:Int)<1:=by omega
 have hm4 : ¬ (m:Int) > 60:=by omega
 have hm0 : ¬ (m:Int)=0:=by omega
 obtain ⟨q,hq⟩:∃ q,q=n / (m:Int):=⟨_,rfl⟩
 obtain ⟨r,hr⟩:∃ r,r=n % (m:Int):=⟨_,rfl⟩
 have hq1:n.tdiv (m:Int)=q:=by rw [Int.tdiv_eq_ediv_of_nonneg hn.1,hq]
 have hr1:n.tmod (m:Int)=r:=by rw [Int.tmod_eq_emod_of_nonneg hn.1,hr]
 have hq0:0≤q:=by rw [hq];exact Int.ediv_nonneg hn.1 (by omega)
 have hq3:q≤n:=by rw [hq];exact Int.ediv_le_self _ hn.1
 have hqw:IntKind.i64.wrap q=q:=by rw [IntKind.wrap_i64];omega
 have hqw2:IntKind.i64.wrap (q+1)=q+1:=by rw [IntKind.wrap_i64];omega
 have hq2:n / (m:Int)=q:=hq.symm
 have hr2:n % (m:Int)=r:=hr.symm
 have HV:Hid (∀ i:Nat,evV n m i=q+if (i:Int)<r then 1 else 0):=fun i=>by unfold evV;rw [hq,hr]
 clear hq hr
 have HI0:Hid (IntB (w.alloc (.cells (madeCells #[.int .i64 0] m) 3)) w.heap.size (evTo n m 0)):=by
  show IntB ..
  rw [evTo_zero]
  exact IntB.made w m
 go_enter Tryz.func5,Tryz.ntmps5
 go_wp2_with (go_at_call 13;refine hc.mono ?_;rintro e w1 ⟨rfl,hw1⟩;obtain rfl:=hw1.symm)
 go_loopg [24] m (fun gg s24 wr => ∃ (k:Nat),k≤m∧gg=m-k∧s24=.int .i64 k∧Hid (IntB wr w.heap.size (evTo n m k))∧Hid (Below w.heap.size w wr))
 case atStart=>exact ⟨0,Nat.zero_le _,rfl,rfl,HI0,hid_of (by go_grown)⟩
 case round =>
  clear HI0
  obtain ⟨k,hk,rfl,rfl,HI,HB⟩:=hrel
  by_cases hlt:k<m
  ·have hki:(k:Int)<(m:Int):=by omega
   have c0:=HI.out.cell (j:=k) (by rw [evTo_len];exact hlt)
   have f0:=HI.out.frozen k
   have hl:=HI.out.lt
   by_cases hkr:(k:Int)<r
   ·have c1:(wr.setCell ⟨w.heap.size,k,none⟩ (.int .i64 q)).cell? ⟨w.heap.size,k,none⟩=some (.int .i64 q):=World.cell?_setCell_same _ _ _ c0
    have HI2:Hid (IntB ((wr.setCell ⟨w.heap.size,k,none⟩ (.int .i64 q)).setCell ⟨w.heap.size,k,none⟩ (.int .i64 (q+1))) w.heap.size (evTo n m (k+1))):=by
     show IntB ..
     have:=(HI.out.set k q).set k (q+1)
     rw [List.set_set] at this
     rw [←evTo_set,HV.out,if_pos hkr]
     exact this
    have HB2:Hid (Below w.heap.size w ((wr.setCell ⟨w.heap.size,k,none⟩ (.int .i64 q)).setCell ⟨w.heap.size,k,none⟩ (.int .i64 (q+1)))):=(HB.out.setCell (Nat.le_refl _) _).setCell (Nat.le_refl _) _
    clear HI HB
    go_wp2_with fail
    go_roundg (m-(k+1))
    case measure=>omega
    case rel=>exact ⟨k+1,by omega,rfl,by go_num,HI2,HB2⟩
   ·have HI2:Hid (IntB (wr.setCell ⟨w.heap.size,k,none⟩ (.int .i64 q)) w.heap.size (evTo n m (k+1))):=by
     show IntB ..
     rw [←evTo_set,HV.out,if_neg hkr,Int.add_zero]
     exact HI.out.set k q
    have HB2:Hid (Below w.heap.size w (wr.setCell ⟨w.heap.size,k,none⟩ (.int .i64 q))):=HB.out.setCell (Nat.le_refl _) _
    clear HI HB
    go_wp2_with fail
    go_roundg (m-(k+1))
    case measure=>omega
    case rel=>exact ⟨k+1,by omega,rfl,by go_num,HI2,HB2⟩
  ·have hke:k=m:=by omega
   subst hke
   go_wp2_with fail
   go_ret2
   exact ⟨_,rfl,HI.out,Nat.le_refl _,HB.out⟩
set_option maxHeartbeats 4000000 in
theorem even_bad (n m:Int) (w:World) (h:evE n m≠0):Calls Tryz.prog 5 #[.int .i64 n,.int .i64 m] w fun e w'=>e=.returned (.tuple #[.slice none 0 0,.iface 46 (.int .i64 1)])∧w'=w:=by
 have hc:=isamount_any n w
 have h2:isAmt n=false∨(isAmt n=true∧(m<1∨(¬ m<1∧m > 60))):=by
  unfold evE at h
  unfold isAmt
  by_cases k:0≤n∧n≤1000000
  ·refine Or.inr ⟨decide_eq_true k,?_⟩
   by_cases k2:m<1
   ·exact Or.inl k2
   ·refine Or.inr ⟨k2,?_⟩
    by_cases k3:m > 60
    ·exact k3
    ·exact absurd (if_pos ⟨k.1,k.2,by omega,by omega⟩) h
  ·exact Or.inl (decide_eq_false k)
 clear h
 go_enter Tryz.func5,Tryz.ntmps5
 rcases h2 with h | ⟨h,h2 | ⟨h2,h3⟩⟩ <;>
  (rw [h] at hc
   go_wp2_with (go_at_call 13;refine hc.mono ?_;rintro e w1 ⟨rfl,hw1⟩;obtain rfl:=hw1.symm)
   go_ret2
   exact ⟨rfl,rfl⟩)
theorem even_any (n m:Int) (w:World):Calls Tryz.prog 5 #[.int .i64 n,.int .i64 m] w fun e w' => ∃ A c,e=.returned (.tuple #[.slice A (evO n m).length c,errV (evE n m)])∧PlAt w' A c (evO n m)∧Below w.heap.size w w':=by
 by_cases h:evE n m=0
 ·have h':0≤n∧n≤1000000∧1≤m∧m≤60:=by
   unfold evE at h
   by_cases k:0≤n∧n≤1000000∧1≤m∧m≤60
   ·exact k
   ·rw [if_neg k] at h;cases h
  obtain ⟨k,rfl⟩:∃ k:Nat,m=(k:Int):=⟨m.toNat,by omega⟩
  refine (even_ok n k w ⟨h'.1,h'.2.1⟩ (by omega) (by omega)).mono ?_
  rintro e w' ⟨g,rfl,hI,-,hB⟩
  have e1:evO n (k:Int)=evTo n k k:=by
   unfold evO;rw [if_pos h,Int.toNat_natCast]
   exact List.map_congr_left fun i hi=>(if_pos (List.mem_range.1 hi)).symm
  rw [e1,h]
  refine ⟨_,k,by rw [evTo_len];rfl,?_,hB⟩
  have:=hI.pl
  rwa [evTo_len] at this
 ·refine (even_bad n m w h).mono ?_
  rintro e w' ⟨rfl,rfl⟩
  have e1:evO n m=[]:=by unfold evO;rw [if_neg h]
  have e2:evE n m=1:=by
   unfold evE at h ⊢
   split
   ·rename_i k;rw [if_pos k] at h;exact absurd rfl h
   ·rfl
  rw [e1,e2]
  exact ⟨none,0,rfl,⟨Nat.le_refl _,Or.inl rfl⟩,Below.refl _ _⟩
def lkE (n:Int) (W:List Int):Int:=if isAmt n=false then 1 else if W.length=0∨60<W.length then 4 else if (W.any fun x => !isAmt x)=true then 1 else if W.sum=0 then 3 else 0
def LkO (n:Int) (W L:List Int):Prop:=if lkE n W=0 then ∃ P,PickOk W.length (prec n W) P (lkL n W).toNat∧L=lkO n W P else L=[]
theorem LkO.unique {n:Int} {W L L':List Int} (h:LkO n W L) (h':LkO n W L'):L=L':=by
 unfold LkO at h h'
 by_cases e:lkE n W=0
 ·rw [if_pos e] at h h'
  obtain ⟨P,h1,rfl⟩:=h
  obtain ⟨Q,h2,rfl⟩:=h'
  exact lkO_unique h1 h2
 ·rw [if_neg e] at h h'
  rw [h,h']
theorem lkE_ok {n:Int} {W:List Int} (h:lkE n W=0):(0≤n∧n≤1000000)∧0<W.length∧W.length≤60∧(∀ x∈W,0≤x∧x≤1000000)∧0<W.sum:=by
 unfold lkE at h
 by_cases k1:isAmt n=false
 ·rw [if_pos k1] at h;cases h
 rw [if_neg k1] at h
 by_cases k2:W.length=0∨60<W.length
 ·rw [if_pos k2] at h;cases h
 rw [if_neg k2] at h
 by_cases k3:(W.any fun x => !isAmt x)=true
 ·rw [if_pos k3] at h;cases h
 rw [if_neg k3] at h
 have hall:∀ x∈W,0≤x∧x≤1000000:=fun x hx=>by
  by_cases k:isAmt x=true
  ·exact of_decide_eq_true k
  ·exact absurd (List.any_eq_true.2 ⟨x,hx,by simpa using k⟩) k3
 by_cases k4:W.sum=0
 ·rw [if_pos k4] at h;cases h
 refine ⟨of_decide_eq_true (by simpa [isAmt] using k1),by omega,by omega,hall,?_⟩
 have:∀ V:List Int,(∀ x∈V,0≤x∧x≤1000000)→0≤V.sum:=by
  intro V
  induction V with
  | nil=>simp
  | cons a V ih=>intro h;have:=h a (List.mem_cons_self ..);have:=ih fun x hx=>h x (List.mem_cons_of_mem _ hx);simp only [List.sum_cons];omega
 have:=this W hall
 omega
def sumW (W:List Int) (k:Nat):Int:=(W.take k).sum
theorem sumW_step {W:List Int} {k:Nat} (hk:k<W.length):sumW W (k+1)=sumW W k+W.getD k 0:=by
 unfold sumW
 rw [List.take_succ_eq_append_getElem hk,List.sum_append,List.getD_eq_getElem?_getD,List.getElem?_eq_getElem hk];simp
theorem sumW_bd {W:List Int} (h:∀ x∈W,0≤x∧x≤1000000):∀ k:Nat,k≤W.length→0≤sumW W k∧sumW W k≤(k:Int)*1000000
 | 0,_=>by simp [sumW]
 | k+1,hk=>by
  have:=sumW_bd h k (by omega)
  have hm:W.getD k 0∈W:=by rw [List.getD_eq_getElem?_getD,List.getElem?_eq_getElem (by omega)];exact List.getElem_mem _
  have:=h _ hm
  rw [sumW_step (by omega)];omega
theorem like1_in (args:Array Value) (w:World):(callFunc 16 args).run Tryz.prog w=.ok (.enter 16 args) w:=by simp [callFunc,Tryz.func16];rfl
set_option maxHeartbeats 8000000 in
theorem like_any (n:Int) (A:Option Addr) (cA:Nat) (W:List Int) (w:World) (hL:PlAt w A cA W) :
  Calls Tryz.prog 9 #[.int .i64 n,.slice A W.length cA] w fun e w' => ∃ A' c' L,e=.returned (.tuple #[.slice A' L.length c',errV (lkE n W)])∧PlAt w' A' c' L∧LkO n W L∧Below w.heap.size w w':=by
 have hc:=isamount_any n w
 have HL:Hid (PlAt w A cA W):=hL
 obtain ⟨k,hk⟩:∃ k,W.length=k:=⟨_,rfl⟩
 have HK:Hid (W.length=k):=hk
 have bad:∀ c:Int,c≠0→lkE n W=c→∀ w':World,Below w.heap.size w w'→∃ A' c' L,Ending.returned (.tuple #[.slice none 0 0,.iface 46 (.int .i64 c)])=.returned (.tuple #[.slice A' L.length c',errV (lkE n W)])∧PlAt w' A' c' L∧LkO n W L∧Below w.heap.size w w':=fun c hc0 h w' hB =>
  ⟨none,0,[],by rw [h];unfold errV;rw [if_neg hc0];rfl,⟨Nat.le_refl _,Or.inl rfl⟩,by unfold LkO;rw [if_neg (by rw [h];exact hc0)],hB⟩
 by_cases k1:isAmt n=false
 ·have HF:=hid_of (bad 1 (by decide) (by unfold lkE;rw [if_pos k1]) w (Below.refl _ _))
  rw [k1] at hc
  rw [hk]
  clear bad hL hk
  go_enter Tryz.func9,Tryz.ntmps9
  go_wp2_with (go_at_call 13;refine hc.mono ?_;rintro e w1 ⟨rfl,hw1⟩;obtain rfl:=hw1.symm)
  go_ret2
  exact HF.out
 have k1':isAmt n=true:=by simpa using k1
 rw [k1'] at hc
 by_cases k2:W.length=0∨60<W.length
 ·have HF:=hid_of (bad 4 (by decide) (by unfold lkE;rw [if_neg k1,if_pos k2]) w (Below.refl _ _))
  rw [hk] at k2 ⊢
  clear bad hL hk
  rcases Nat.eq_zero_or_pos k with h0 | h0
  ·have h0I:(k:Int)=0:=by omega
   go_enter Tryz.func9,Tryz.ntmps9
   go_wp2_with (go_at_call 13;refine hc.mono ?_;rintro e w1 ⟨rfl,hw1⟩;obtain rfl:=hw1.symm)
   go_ret2
   exact HF.out
  ·have h0I : ¬ (k:Int)=0:=by omega
   have h1I:(k:Int) > 60:=by omega
   go_enter Tryz.func9,Tryz.ntmps9
   go_wp2_with (go_at_call 13;refine hc.mono ?_;rintro e w1 ⟨rfl,hw1⟩;obtain rfl:=hw1.symm)
   go_ret2
   exact HF.out
 have hk0:0<k∧k≤60:=by omega
 have hk0I:((k:Int) == 0)=false:=by simp;omega
 have hk1I:decide (60<(k:Int))=false:=decide_eq_false (by omega)
 have hcf:=contm_pl 16 #[] (fun x => !isAmt x) like1_in A cA W w (by omega) hL (fun x w' _ _=>(like1_any x w').mono fun _ _ ⟨h1,h2⟩=>⟨h1,by rw [h2];exact Below.refl _ _⟩)
 rw [show decide (0≤findFrom (fun j => !isAmt (W.getD j 0)) W.length 0)=W.any (fun x => !isAmt x) from any_find (fun x => !isAmt x) W] at hcf
 by_cases k3:(W.any fun x => !isAmt x)=true
 ·have HF:=hid_of fun w' (hB:Below w.heap.size w w')=>bad 1 (by decide) (by unfold lkE;rw [if_neg k1,if_neg k2,if_pos k3]) w' hB
  rw [k3,hk] at hcf
  rw [hk]
  clear bad hL hk k2 k3
  go_enter Tryz.func9,Tryz.ntmps9
  go_wp2_with (first | (go_at_call 13;refine hc.mono ?_;rintro e w1 ⟨rfl,hw1⟩;obtain rfl:=hw1.symm) | (go_at_call 15;refine hcf.mono ?_;rintro e w2 ⟨rfl,hb2⟩;have HB2:=hid_of hb2;clear hb2))
  go_ret2
  exact HF.out _ HB2.out
 have k3':(W.any fun x => !isAmt x)=false:=by simpa using k3
 have hall:∀ x∈W,0≤x∧x≤1000000:=fun x hx=>by
  by_cases h:isAmt x=true
  ·exact of_decide_eq_true h
  ·exact absurd (List.any_eq_true.2 ⟨x,hx,by simpa using h⟩) k3
 have HA:=hid_of hall
 have HE:Hid (lkE n W=if W.sum=0 then 3 else 0):=by show _=_;unfold lkE;rw [if_neg k1,if_neg k2,if_neg k3]
 have hnn:0≤n∧n≤1000000:=of_decide_eq_true k1'
 have HN:Hid (0≤n∧n≤1000000):=hnn
 have HBAD:=hid_of bad
 rw [k3',hk] at hcf
 rw [hk]
 clear bad hL hk k2 k3 k3' hall k1 k1' hnn
 go_enter Tryz.func9,Tryz.ntmps9
 go_wp2_with (first | (go_at_call 13;refine hc.mono ?_;rintro e w1 ⟨rfl,hw1⟩;obtain rfl:=hw1.symm) | (go_at_call 15;refine hcf.mono ?_;rintro e w2 ⟨rfl,hb2⟩;have HB2:=hid_of hb2;clear hb2))
 clear hc hcf
 go_loopg [6,27] k (fun gg s6 s27 wr => ∃ j:Nat,j≤k∧gg=k-j∧s27=.int .i64 j∧s6=.int .i64 (sumW W j)∧wr=w2)
 case atStart=>exact ⟨0,Nat.zero_le _,rfl,rfl,by simp [sumW],rfl⟩
 case round =>
  obtain ⟨j,hjk,rfl,rfl,rfl,hwr⟩:=hrel
  obtain rfl:=hwr
  by_cases hlt:j<k
  ·have hjI:(j:Int)<(k:Int):=by omega
   obtain ⟨-,h0 | ⟨bA,oA,rfl,hbA,hX⟩⟩:=HL.out
   ·have:=HK.out;rw [h0] at this;simp at this;omega
   have hx:wr.cell? ⟨bA,oA+j,none⟩=some (.int .i64 (W.getD j 0)):=by rw [HB2.out.cell (by exact hbA)];exact hX j (by rw [HK.out];exact hlt)
   have hm:W.getD j 0∈W:=by rw [List.getD_eq_getElem?_getD,List.getElem?_eq_getElem (by rw [HK.out];exact hlt)];exact List.getElem_mem _
   have hw:=HA.out _ hm
   have hst:=sumW_step (W:=W) (k:=j) (by rw [HK.out];exact hlt)
   have hbd:=sumW_bd HA.out j (by rw [HK.out];omega)
   have hsw:IntKind.i64.wrap (sumW W j+W.getD j 0)=sumW W (j+1):=by rw [hst,IntKind.wrap_i64];omega
   obtain ⟨x,hxe⟩:∃ x,W.getD j 0=x:=⟨_,rfl⟩
   rw [hxe] at hx hsw
   obtain ⟨s2,hs2⟩:∃ s2,s2=sumW W (j+1):=⟨_,rfl⟩
   rw [←hs2] at hsw
   have HS2:Hid (s2=sumW W (j+1)):=hs2
   clear hX hm hw hst hbd hxe hs2
   go_wp2_with fail
   go_roundg (k-(j+1))
   case measure=>omega
   case rel=>exact ⟨j+1,by omega,rfl,by go_num,by rw [HS2.out],rfl⟩
  ·have hje:j=k:=by omega
   subst hje
   have hsum:sumW W j=W.sum:=by unfold sumW;rw [List.take_of_length_le (by rw [HK.out];exact Nat.le_refl _)]
   rw [hsum]
   by_cases k4:W.sum=0
   ·have HF:=hid_of (HBAD.out 3 (by decide) (by rw [HE.out,if_pos k4]) wr HB2.out)
    go_wp2_with fail
    go_ret2
    exact HF.out
   ·have h0:lkE n W=0:=by rw [HE.out,if_neg k4]
    obtain ⟨-,g1,g2,-,g3⟩:=lkE_ok h0
    have hcb:=byweight_any n A cA W wr (HL.out.later HB2.out) g1 g2 g3 HN.out HA.out
    have HF:Hid (∀ (P:Nat→Bool) (g:Nat) (w':World),PickOk W.length (prec n W) P (lkL n W).toNat→PB w' g (lkO n W P)→Below w.heap.size w w'→∃ A' c' L,Ending.returned (.tuple #[.slice (some ⟨g,0,none⟩) j j,.nilIface])=.returned (.tuple #[.slice A' L.length c',errV (lkE n W)])∧PlAt w' A' c' L∧LkO n W L∧Below w.heap.size w w'):=fun P g w' p1 p2 p3=>by
     have e1:(lkO n W P).length=j:=by rw [←HK.out];simp [lkO]
     refine ⟨some ⟨g,0,none⟩,j,lkO n W P,by rw [e1,h0];rfl,p2.pl (by rw [e1];exact Nat.le_refl _),?_,p3⟩
     unfold LkO
     rw [if_pos h0]
     exact ⟨P,p1,rfl⟩
    rw [HK.out] at hcb
    obtain ⟨s,hse⟩:∃ s,W.sum=s:=⟨_,rfl⟩
    rw [hse] at hcb k4 ⊢
    clear hsum g1 g2 g3 hse h0
    go_wp2_with fail
    refine hcb.mono ?_
    rintro e w3 ⟨P,g,p1,rfl,p2,-,p3⟩
    rw [←HK.out] at p1
    have HG:=hid_of (HF.out P g w3 p1 p2 (HB2.out.trans (p3.mono HB2.out.size)))
    clear p1 p2 p3 HF hcb
    go_wp2_with fail
    go_ret2
    exact HG.out
end Go.Proofs.YtenlladggdcfnaaGreatDoor
