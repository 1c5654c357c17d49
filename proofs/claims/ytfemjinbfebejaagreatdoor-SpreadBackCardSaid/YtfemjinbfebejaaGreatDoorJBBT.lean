/-
  A number spread by what is there already leaves it as it is: plain facts on a cube of one flat dim.
-/
import Derived.Test.YtfemjinbfebejaaGreatDoorShelfH
import Derived.Test.YtfemjinbfebejaaGreatDoorJBBR
import Derived.Test.YtfemjinbfebejaaGreatDoorJBBS
namespace Go.Proofs.YtfemjinbfebejaaGreatDoor
set_option maxRecDepth 20000
theorem fl_all:∀ n:Fin 10,(allErr (squareD n.val) 1).2.2=0∧prodN (squareD n.val) 1=n.val+1:=by decide +kernel
theorem fl_lf:∀ n:Fin 10,1≤n.val→lfTo (squareD n.val) [0] 1=(List.range n.val).map (fun i:Nat=>[((1+i:Nat):Int)])∧clE (squareD n.val) 1 [0]=0∧placeErr (squareD n.val) 1 [0]=0:=by decide +kernel
theorem fl_leaf:∀ n:Fin 10,∀ a:Fin 10,1≤a.val→a.val≤n.val→leafV (squareD n.val) 1 [(a.val:Int)]=true:=by decide +kernel
theorem fl_in {n i:Nat} (hn:n≤9) (hi:i≤n):InO (squareD n) 1 [(i:Int)]:=by
 refine ⟨(fl_all ⟨n,by omega⟩).1,rfl,fun k hk=>?_,fun k hk=>?_⟩
 ·obtain rfl:k=0:=by omega
  show (0:Int)≤(i:Int);omega
 ·obtain rfl:k=0:=by omega
  show (i:Int)<((n+1:Nat):Int);omega
theorem fl_ru {n:Nat} (hn:n≤9):(ruErr (squareD n) 1).2.2=0:=ru_zero (fl_all ⟨n,by omega⟩).1 fun i hi=>by rw [sq_err hn (by omega)]
def flE (v:Nat→Int) (n:Nat):List En:=(List.range n).map fun i:Nat=>⟨[((1+i:Nat):Int)],v i⟩
theorem flE_ens {n:Nat} {v:Nat→Int} (hn:n≤9) (hv:∀ i,i<n→0≤v i∧v i≤100000):Ens (squareD n) 1 (flE v n):=by
 refine ⟨(fl_all ⟨n,by omega⟩).1,fun e he=>?_,?_⟩
 ·obtain ⟨i,hi,rfl⟩:=List.mem_map.1 he
  have hi':=List.mem_range.1 hi
  have:=hv i hi'
  exact ⟨fl_in hn (by omega),fl_leaf ⟨n,by omega⟩ ⟨1+i,by omega⟩ (by show 1≤1+i;omega) (by show 1+i≤n;omega),by simp [numOk];omega⟩
 ·unfold flE
  rw [List.pairwise_map]
  refine List.Pairwise.imp ?_ List.pairwise_lt_range
  intro a b hab
  unfold lessL
  rw [if_neg (by omega)]
  exact decide_eq_true (by omega)
theorem flE_at {n i:Nat} {v:Nat→Int} (hn:n≤9) (hv:∀ i,i<n→0≤v i∧v i≤100000) (hi:i<n):wnV (squareD n) 1 (wrV (squareD n) 1 (flE v n)) [((1+i:Nat):Int)]=v i:=by
 have hE:=flE_ens hn hv
 have:=wr_some (D:=squareD n) (n:=1) (e:=⟨[((1+i:Nat):Int)],v i⟩) (flE v n) (List.replicate (prodN (squareD n) 1) (0,0)) (fun y hy=>(hE.each y hy).1) hE.rise (by simp) (List.mem_map.2 ⟨i,List.mem_range.2 hi,rfl⟩)
 unfold wnV wrV
 show (List.getD _ _ (0,0)).2=_
 rw [this]
def vL (v:Nat→Int) (n:Nat):List Int:=(List.range n).map v
theorem vL_at {v:Nat→Int} {n i:Nat} (hi:i<n):(vL v n).getD i 0=v i:=by
 unfold vL
 rw [List.getD_eq_getElem?_getD,List.getElem?_map,List.getElem?_range hi];rfl
theorem fl_w {n:Nat} {v:Nat→Int} (hn1:1≤n) (hn:n≤9) (hv:∀ i,i<n→0≤v i∧v i≤100000):toW (squareD n) 1 (flE v n) [0]=vL v n:=by
 unfold toW
 rw [(fl_lf ⟨n,by omega⟩ hn1).1,List.map_map]
 exact List.map_congr_left fun i hi=>flE_at hn hv (List.mem_range.1 hi)
theorem vL_sum {v:Nat→Int}:∀ n:Nat,(∀ i,i<n→0≤v i∧v i≤100000)→0≤(vL v n).sum∧(vL v n).sum≤(n:Int)*100000
 | 0,_=>by simp [vL]
 | n+1,h=>by
  have ih:=vL_sum n fun i hi=>h i (by omega)
  have:=h n (by omega)
  have e:(vL v (n+1)).sum=(vL v n).sum+v n:=by unfold vL;rw [List.range_succ,List.map_append,List.sum_append];simp
  rw [e];omega
theorem vL_zero {v:Nat→Int} {n:Nat} (hv:∀ i,i<n→0≤v i∧v i≤100000) (h0:(vL v n).sum=0):∀ i,i<n→v i=0:=fun i hi=>by
 have hnn:∀ x∈vL v n,0≤x:=fun x hx=>by
  obtain ⟨j,hj,rfl⟩:=List.mem_map.1 hx
  exact (hv j (List.mem_range.1 hj)).1
 have:=sum_mem_le (vL v n) hnn (v i) (List.mem_map.2 ⟨i,List.mem_range.2 hi,rfl⟩)
 have:=(hv i hi).1
 omega
theorem fl_back {n:Nat} {v:Nat→Int} (hn1:1≤n) (hn:n≤9) (hv:∀ i,i<n→0≤v i∧v i≤100000) {x:List Ed} (hx:ToO (squareD n) 1 (flE v n) [0] (vL v n).sum x) :
  toE (squareD n) 1 (flE v n) [0] (vL v n).sum=0∧x.length=n∧∀ i,i<n→(x.getD i ⟨[],0,false⟩).n=v i∧(x.getD i ⟨[],0,false⟩).clear=false:=by
 obtain ⟨f1,f2,f3⟩:=fl_lf ⟨n,by omega⟩ hn1
 have hE:=flE_ens hn hv
 have hs:=vL_sum n hv
 have hvl:(vL v n).length=n:=by simp [vL]
 have hmem:∀ x∈vL v n,0≤x∧x≤100000:=fun x hx=>by
  obtain ⟨j,hj,rfl⟩:=List.mem_map.1 hx
  exact hv j (List.mem_range.1 hj)
 have hw:=fl_w hn1 hn hv
 have hto:toE (squareD n) 1 (flE v n) [0] (vL v n).sum=amE (vL v n).sum (vL v n):=by
  unfold toE
  rw [if_neg (by rw [fl_ru hn];decide),if_neg (by rw [hE.ok];decide),if_neg (by rw [f3];decide),if_neg (by rw [f2];decide),hw]
 have key:amE (vL v n).sum (vL v n)=0∧∀ L,AmO (vL v n).sum (vL v n) L→L=vL v n:=by
  by_cases h0:(vL v n).sum=0
  ·have hz:=vL_zero hv h0
   have hT : ¬ amT (vL v n)=true:=by
    unfold amT
    have:((vL v n).any fun x=>decide (0<x))=false:=by
     rw [←Bool.not_eq_true,List.any_eq_true]
     rintro ⟨x,hx,hd⟩
     obtain ⟨j,hj,rfl⟩:=List.mem_map.1 hx
     have:=hz j (List.mem_range.1 hj)
     simp at hd;omega
    rw [this];simp
   have he:evE (vL v n).sum ((vL v n).length:Int)=0:=by
    rw [h0,hvl];unfold evE;exact if_pos ⟨by omega,by omega,by omega,by omega⟩
   refine ⟨by unfold amE;rw [if_neg hT];exact he,fun L hL=>?_⟩
   unfold AmO at hL
   rw [if_neg hT] at hL
   rw [hL]
   unfold evO
   rw [if_pos he,hvl,Int.toNat_natCast]
   refine List.map_congr_left fun i hi=>?_
   rw [hz i (List.mem_range.1 hi),h0]
   unfold evV
   simp;omega
  ·have hp:0<(vL v n).sum:=by omega
   have hT:amT (vL v n)=true:=by
    unfold amT
    have h1:((vL v n).any fun x=>decide (0<x))=true:=by
     refine Classical.byContradiction fun hc=>h0 ?_
     have hz:∀ i,i<n→v i=0:=fun i hi=>by
      have h2:=(hv i hi).1
      by_cases k:0<v i
      ·exact absurd (List.any_eq_true.2 ⟨v i,List.mem_map.2 ⟨i,List.mem_range.2 hi,rfl⟩,decide_eq_true k⟩) hc
      ·omega
     have:vL v n=(List.range n).map fun _=>(0:Int):=List.map_congr_left fun i hi=>hz i (List.mem_range.1 hi)
     rw [this,sum_const];simp
    have h2:((vL v n).any fun x=>decide (x<0))=false:=by
     rw [←Bool.not_eq_true,List.any_eq_true]
     rintro ⟨x,hx,hd⟩
     have:=hmem x hx
     simp at hd;omega
    rw [h1,h2];rfl
   have hlk:lkE (vL v n).sum (vL v n)=0:=by
    unfold lkE
    rw [if_neg (by unfold isAmt;rw [decide_eq_true (by omega)];decide),if_neg (by rw [hvl];omega),if_neg (by
     rw [List.any_eq_true]
     rintro ⟨x,hx,hd⟩
     have:=hmem x hx
     unfold isAmt at hd
     rw [decide_eq_true (by omega)] at hd;cases hd),if_neg h0]
   refine ⟨by unfold amE;rw [if_pos hT];exact hlk,fun L hL=>?_⟩
   unfold AmO at hL
   rw [if_pos hT] at hL
   unfold LkO at hL
   rw [if_pos hlk] at hL
   obtain ⟨P,hP,rfl⟩:=hL
   have hq:∀ i,lkQ (vL v n).sum (vL v n) i=(vL v n).getD i 0:=fun i=>by unfold lkQ;exact Int.mul_ediv_cancel_left _ h0
   have hl0:lkL (vL v n).sum (vL v n)=0:=by
    unfold lkL
    rw [show lkQ (vL v n).sum (vL v n)=fun i=>(vL v n).getD i 0 from funext hq,sum_getD];omega
   have hPn:∀ i,i<(vL v n).length→P i=false:=fun i hi=>by
    have h1:=hP.1
    rw [hl0] at h1
    have h2:=List.eq_nil_of_length_eq_zero h1
    cases hp:P i with
    | false=>rfl
    | true =>
     have:i∈(List.range (vL v n).length).filter P:=List.mem_filter.2 ⟨List.mem_range.2 hi,hp⟩
     rw [h2] at this;cases this
   unfold lkO
   rw [hvl]
   refine List.map_congr_left fun i hi=>?_
   have hi':=List.mem_range.1 hi
   rw [hq,vL_at hi',hPn i (by rw [hvl];exact hi')]
   simp
 have h0:toE (squareD n) 1 (flE v n) [0] (vL v n).sum=0:=by rw [hto];exact key.1
 refine ⟨h0,?_⟩
 unfold ToO at hx
 rw [if_pos h0,hw,f1] at hx
 obtain ⟨L,hL,rfl⟩:=hx
 obtain rfl:=key.2 L hL
 refine ⟨by simp [edL],fun i hi=>?_⟩
 have e:(edL ((List.range n).map fun i:Nat=>[((1+i:Nat):Int)]) (vL v n)).getD i ⟨[],0,false⟩=⟨((List.range n).map fun i:Nat=>[((1+i:Nat):Int)]).getD i [],(vL v n).getD i 0,false⟩:=by
  unfold edL
  rw [List.getD_eq_getElem?_getD,List.getElem?_map,List.getElem?_range (by simpa using hi)];rfl
 rw [e]
 exact ⟨vL_at hi,rfl⟩
end Go.Proofs.YtfemjinbfebejaaGreatDoor
namespace Go.Proofs.YtfemjinbfebejaaGreatDoor
open Go Go.ChangeShapes Go.WideShapes Go.ChangeAt Go.RowKit
set_option maxRecDepth 100000
theorem Tryz.infoEntF:(Tryz.prog.info? 33).map (fun i=>(i.zero,i.size,i.bytes))=some (some (.agg #[.slice none 0 0,.int .i64 0]),2,32):=by kernel_rfl
theorem entE_ne_int:(3:Nat)≠33:=by decide
theorem plty_ent_stays {w w':World} {base:Nat} {v:Value} {n:Nat} {zs:List Value} {A:Option Addr} {c:Nat} {L:List Int} (h:PlTy w A c L) (hown:w.ownsRow base 33 2 v n zs) (hG:w.grownBy w' v.ownBlock):PlTy w' A c L:=by
 obtain ⟨h1,h2 | ⟨b,o,cs,fr',h2,h3,h4⟩⟩:=h
 ·exact ⟨h1,Or.inl h2⟩
 ·have hne:=own_ne hown h3 entE_ne_int
  have hb:w'.heap[b]?=w.heap[b]?:=hG.block b (Array.getElem?_eq_some_iff.1 h3).1 (Ne.symm hne)
  exact ⟨h1,Or.inr ⟨b,o,cs,fr',h2,hb.trans h3,fun j hj=>(World.cell?_of_block (a:=⟨b,o+j,none⟩) hb).trans (h4 j hj)⟩⟩
def entW (w:World) (a x:Int):World:=(w.alloc (.cells #[.int .i64 a] 3)).alloc (.cells #[.slice (some ⟨w.heap.size,0,none⟩) 1 1,.int .i64 x] 33)
theorem entW_below (w:World) (a x:Int):Below w.heap.size w (entW w a x):=by unfold entW;go_grown
theorem entW_pl (w:World) (a x:Int):PlTy (entW w a x) (some ⟨w.heap.size,0,none⟩) 1 [a]:=by
 have h:(entW w a x).heap[w.heap.size]?=some (.cells #[.int .i64 a] 3 (0,0)):=by
  unfold entW
  rw [Below.heap_alloc _ _ _ (by simp)]
  exact heap_alloc_new w _
 refine ⟨by simp,Or.inr ⟨_,_,_,_,rfl,h,fun j hj=>?_⟩⟩
 rw [Lib.cell_of_heap h]
 match j,hj with
 | 0,_=>rfl
theorem entW_at (w:World) (a x:Int):∀ j u,(cellsE [⟨⟨[a],x⟩,some ⟨w.heap.size,0,none⟩,1⟩])[j]?=some u→(entW w a x).cell? ((⟨w.heap.size+1,0,none⟩:Addr).add j)=some u:=by
 intro j u hj
 have h:(entW w a x).heap[w.heap.size+1]?=some (.cells #[.slice (some ⟨w.heap.size,0,none⟩) 1 1,.int .i64 x] 33 (0,0)):=by
  unfold entW
  have h:=heap_alloc_new (w.alloc (.cells #[.int .i64 a] 3)) (.cells #[.slice (some ⟨w.heap.size,0,none⟩) 1 1,.int .i64 x] 33)
  rw [show (w.alloc (.cells #[.int .i64 a] 3)).heap.size=w.heap.size+1 by simp] at h
  exact h
 rw [plain_add,Lib.cell_of_heap h]
 simpa [cellsE] using hj
theorem flE_succ (v:Nat→Int) (k:Nat):flE v (k+1)=flE v k ++ [⟨[((1+k:Nat):Int)],v k⟩]:=by simp [flE,List.range_succ]
theorem vL_succ (v:Nat→Int) (k:Nat):(vL v (k+1)).sum=(vL v k).sum+v k:=by unfold vL;rw [List.range_succ,List.map_append,List.sum_append];simp
set_option maxHeartbeats 16000000 in
theorem spback_core (n:Nat) (A:Option Addr) (cL:Nat) (L:List Int) (w:World) (hL:PlAt w A cL L) (hn1:1≤n) (hn9:n≤9) :
  Calls Tryz.prog 3 #[.int .i64 n,.slice A L.length cL] w fun e w'=>e=.returned (.bool true)∧Below w.heap.size w w':=by
 have mixed:Tryz.prog.follows .mixedOrders=true:=by kernel_rfl
 obtain ⟨i0,hi0,hz0,hz1,hz2⟩:=info_parts Tryz.infoEntF
 have hfl:=flat_any ⟨#[120]⟩ n w (by omega)
 have HL:=hid_of hL
 obtain ⟨lv,hlv⟩:∃ lv,L.length=lv:=⟨_,rfl⟩
 have HLV:=hid_of hlv
 have hn1I : ¬ (n:Int)<1:=by omega
 have hn9I : ¬ (n:Int) > 9:=by omega
 rw [hlv]
 clear hL hlv
 go_enter Tryz.func3,Tryz.ntmps3
 go_wp2_with fail
 refine hfl.mono ?_
 rintro e w1 ⟨⟨g1,k1,rfl,hc1,hg1,hM1⟩,hb1⟩
 obtain ⟨y,hy⟩:∃ y,(w1.alloc (.cells #[.string ⟨#[120]⟩,.int .i64 0,.slice (some ⟨g1,0,none⟩) (n+1) k1] 25)).alloc (.cells #[.slice (some ⟨w1.heap.size,0,none⟩) 1 1] 29)=y:=⟨_,rfl⟩
 have hby:Below w1.heap.size w1 y:=by rw [←hy];go_grown
 have HBy:Hid (Below w.heap.size w y):=onB hb1 hby
 have hD:y.heap[w1.heap.size]?=some (.cells #[.string ⟨#[120]⟩,.int .i64 0,.slice (some ⟨g1,0,none⟩) (n+1) k1] 25 (0,0)):=by
  rw [←hy,Below.heap_alloc _ _ _ (by simp)]
  exact heap_alloc_new ..
 have hO:y.cell? ⟨w1.heap.size+1,0,none⟩=some (.slice (some ⟨w1.heap.size,0,none⟩) 1 1):=by rw [←hy];simp
 have hsy:w1.heap.size+1<y.heap.size:=by rw [←hy];simp
 have HDv:Hid (DimsV y (some ⟨w1.heap.size,0,none⟩) 1 1 (squareD n) (fun _=>some ⟨g1,0,none⟩) (fun _=>k1)):=by
  refine ⟨Nat.le_refl _,Or.inr ⟨_,_,rfl,by omega,fun i hi=>?_⟩⟩
  obtain rfl:i=0:=by omega
  exact ⟨(Lib.cell_of_heap hD 0).trans rfl,(Lib.cell_of_heap hD 1).trans rfl,(Lib.cell_of_heap hD 2).trans rfl,hc1,Or.inr ⟨g1,0,rfl,(hM1.later hby).2⟩⟩
 have HY:=hid_of hy
 clear hy
 go_upto_region 4 with fail
 rw [HY.out]
 obtain ⟨q,hq⟩:∃ q,w1.heap.size=q:=⟨_,rfl⟩
 obtain ⟨v,hv⟩:∃ v:Nat→Int,v=fun i=>L.getD i 0:=⟨_,rfl⟩
 have HV:=hid_of hv
 have HY0:Hid (y.cell? ⟨q+1,0,none⟩=some (.slice (some ⟨q,0,none⟩) 1 1)∧q+1<y.heap.size):=by rw [←hq];exact ⟨hO,hsy⟩
 rw [hq] at HDv ⊢
 clear hb1 hD hO hby hc1 hg1 hM1 hfl hsy hv hq HY
 go_wp2_with fail
 go_loopg [6,7,8,9] n (fun gg s6 s7 s8 s9 wr => ∃ (k:Nat) (ys:List EnL),(∃ x,x=s9)∧k≤n∧gg=n-k∧s8=.int .i64 k∧s7=.int .i64 (vL v k).sum∧Hid (∀ i,i<k→0≤v i∧v i≤100000)∧Hid (ys.length=k∧lE ys=flE v k∧∀ z∈ys,PlTy wr z.A z.c z.e.pl)∧wr.ownsRow y.heap.size 33 2 s6 k (cellsE ys)∧Below y.heap.size y wr)
 case atStart=>exact ⟨0,[],⟨_,rfl⟩,Nat.zero_le _,rfl,rfl,by simp [vL],fun i hi=>absurd hi (Nat.not_lt_zero _),⟨rfl,rfl,fun z hz=>by cases hz⟩,World.ownsRow_nil _ _ _ _,Below.refl _ _⟩
 case round =>
  obtain ⟨k,ys,⟨v9,rfl⟩,hk,rfl,rfl,rfl,HB,HYs,hown,hBw⟩:=hrel
  have HBw:Hid (Below y.heap.size y wr):=hBw
  have HOwn:Hid (wr.ownsRow y.heap.size 33 2 u6 k (cellsE ys)):=hown
  by_cases hlt:k<n
  ·have hki:(k:Int)<(n:Int):=by omega
   obtain ⟨x,hx⟩:∃ x,v k=x:=⟨_,rfl⟩
   have HX:=hid_of hx
   have HLx:Hid (x=L.getD k 0):=by rw [←hx,HV.out];rfl
   clear hown hBw hx
   go_upto_if 31 with fail
   go_cut [9,31] from 32 to 35 (fun s9 s31 wx=>s9=.int .i64 x∧(∃ z,z=s31)∧wx=wr)
   case first =>
    by_cases hkl:k<lv
    ·have hkI:(k:Int)<(lv:Int):=by omega
     obtain ⟨-,h0 | ⟨bA,oA,rfl,hbA,hX⟩⟩:=HL.out
     ·have:=HLV.out;rw [h0] at this;simp at this;omega
     have c1:wr.cell? ⟨bA,oA+k,none⟩=some (.int .i64 x):=by
      rw [HLx.out,(onB HBy.out HBw.out).cell (by exact hbA)];exact hX k (by rw [HLV.out];exact hkl)
     clear hX
     go_wp2_with fail
     go_meet
     exact ⟨rfl,⟨_,rfl⟩,rfl⟩
    ·have hkI : ¬ (k:Int)<(lv:Int):=by omega
     have hx0:x=0:=by rw [HLx.out,List.getD_eq_getElem?_getD,List.getElem?_eq_none (by rw [HLV.out];omega)];rfl
     go_wp2_with fail
     go_meet
     exact ⟨by rw [hx0],⟨_,rfl⟩,rfl⟩
   case rest =>
   obtain ⟨rfl,⟨v31,rfl⟩,rfl⟩:=hcut
   by_cases hxb:0≤x∧x≤100000
   ·have x1:decide (x<0)=false:=decide_eq_false (by omega)
    have x2:decide (x > 100000)=false:=decide_eq_false (by omega)
    have hbm:=entW_below wc (1+(k:Int)) x
    have HOm:Hid ((entW wc (1+(k:Int)) x).ownsRow y.heap.size 33 2 u6 k (cellsE ys)):=own_stays HOwn.out hbm
    have HBm:Hid (Below y.heap.size y (entW wc (1+(k:Int)) x)):=onB HBw.out hbm
    have HPm:Hid (PlTy (entW wc (1+(k:Int)) x) (some ⟨wc.heap.size,0,none⟩) 1 [1+(k:Int)]):=entW_pl ..
    have HPs:Hid (∀ z∈ys,PlTy (entW wc (1+(k:Int)) x) z.A z.c z.e.pl):=fun z hz=>(HYs.out.2.2 z hz).later hbm
    have HAt:Hid (∀ j u,(cellsE [⟨⟨[1+(k:Int)],x⟩,some ⟨wc.heap.size,0,none⟩,1⟩])[j]?=some u→(entW wc (1+(k:Int)) x).cell? ((⟨wc.heap.size+1,0,none⟩:Addr).add j)=some u):=entW_at wc _ _
    have hzm:=HBm.out.size
    have hsw:IntKind.i64.wrap ((vL v k).sum+x)=(vL v (k+1)).sum:=by
     have hb:=vL_sum k HB.out
     rw [vL_succ,HX.out,IntKind.wrap_i64];omega
    obtain ⟨s2,hs2⟩:∃ s2,s2=(vL v (k+1)).sum:=⟨_,rfl⟩
    rw [←hs2] at hsw
    have HS2:=hid_of hs2
    generalize (vL v k).sum=s1 at hsw ⊢
    have h1k:IntKind.i64.wrap (1+(k:Int))=1+(k:Int):=by rw [IntKind.wrap_i64];omega
    clear hbm hs2
    go_wp2_with (at_builtin;refine wpList_append_own _ rfl _ _ 30 rfl y.heap.size 33 i0 (.agg #[.slice none 0 0,.int .i64 0]) 2 32 Tryz.underlying30 hi0 hz0 hz1 hz2 rfl (by decide) _ _ _ rfl HOm.out ⟨wc.heap.size+1,0,none⟩ 1 1 (cellsE [⟨⟨[1+(k:Int)],x⟩,some ⟨wc.heap.size,0,none⟩,1⟩]) rfl rfl HAt.out ?qc3 ?qc4 ?qc5 hzm ?_)
    case qc3=>intro u hu;simp [cellsE] at hu;rcases hu with rfl | rfl <;> rfl
    case qc4=>simp only [maxLen];omega
    case qc5=>omega
    intro v' w2 hown' hgrow _
    have HB2:Hid (Below y.heap.size y w2):=HBm.out.grown hgrow hzm (fun j hj=>(HOm.out.lt j hj).1)
    have HP2:Hid (∀ z∈ys ++ [⟨⟨[1+(k:Int)],x⟩,some ⟨wc.heap.size,0,none⟩,1⟩],PlTy w2 z.A z.c z.e.pl):=fun z hz=>by
     rcases List.mem_append.1 hz with hz | hz
     ·exact plty_ent_stays (HPs.out z hz) HOm.out hgrow
     ·rw [List.mem_singleton.1 hz];exact plty_ent_stays HPm.out HOm.out hgrow
    have HO2:Hid (w2.ownsRow y.heap.size 33 2 v' (k+1) (cellsE (ys ++ [⟨⟨[1+(k:Int)],x⟩,some ⟨wc.heap.size,0,none⟩,1⟩]))):=by show World.ownsRow ..;rw [cellsE_append];exact hown'
    clear hown' hgrow
    go_wp2_with fail
    go_roundg (n-(k+1))
    case measure=>omega
    case rel =>
     refine ⟨k+1,_,⟨_,rfl⟩,by omega,rfl,by go_num,by rw [HS2.out],fun i hi=>?_,⟨?_,?_,HP2.out⟩,HO2.out,HB2.out⟩
     ·rcases Nat.lt_succ_iff_lt_or_eq.1 hi with h | rfl
      ·exact HB.out i h
      ·rw [HX.out];exact hxb
     ·rw [List.length_append,HYs.out.1];rfl
     ·rw [flE_succ,HX.out]
      show (ys ++ _).map EnL.e=_
      rw [List.map_append]
      show lE ys ++ _=_
      rw [HYs.out.2.1]
      congr 1
   ·have hor:x<0∨(¬ x<0∧x > 100000):=by omega
    rcases hor with h1 | ⟨h1,h2⟩
    all_goals
     go_wp2_with fail
     go_ret
     exact ⟨rfl,onB HBy.out HBw.out⟩
  ·have hke:k=n:=by omega
   obtain ⟨AE,ce,hs6,hE⟩:=ens_own (by rw [HYs.out.1];exact hown) (fun z hz=>(HYs.out.2.2 z hz).pl)
   rw [HYs.out.1] at hs6
   subst hke
   obtain rfl:=hs6
   have hbW:Below wr.heap.size wr (wr.alloc (.cells #[.int .i64 0] 3)):=by go_grown
   have hpW:PlAt (wr.alloc (.cells #[.int .i64 0] 3)) (some ⟨wr.heap.size,0,none⟩) 1 [0]:=by
    have h:=heap_alloc_new wr (.cells #[.int .i64 0] 3)
    refine ⟨by simp,Or.inr ⟨_,_,rfl,(Array.getElem?_eq_some_iff.1 h).1,fun j hj=>?_⟩⟩
    rw [Nat.zero_add,Lib.cell_of_heap h]
    match j,hj with
    | 0,_=>rfl
   have HWy:Hid (Below y.heap.size y (wr.alloc (.cells #[.int .i64 0] 3))):=onB HBw.out hbW
   have hto:=to_any (some ⟨q,0,none⟩) 1 1 (squareD k) (fun _=>some ⟨g1,0,none⟩) (fun _=>k1) AE ce ys (some ⟨wr.heap.size,0,none⟩) 1 [0] (vL v k).sum (wr.alloc (.cells #[.int .i64 0] 3)) (HDv.out.later HWy.out) (hE.1.later hbW) hpW
   rw [HYs.out.1,HYs.out.2.1] at hto
   change Calls _ _ #[_,_,.slice _ 1 1,_] _ _ at hto
   have c0:wr.cell? ⟨q+1,0,none⟩=some (.slice (some ⟨q,0,none⟩) 1 1):=(HBw.out.cell (p:=⟨q+1,0,none⟩) HY0.out.2).trans HY0.out.1
   have HE:=hid_of hE.1
   have HFB:Hid (∀ zs,ToO (squareD k) 1 (flE v k) [0] (vL v k).sum (lD zs)→toE (squareD k) 1 (flE v k) [0] (vL v k).sum=0∧zs.length=k∧∀ i,i<k→(zs.getD i noD).x.n=v i∧(zs.getD i noD).x.clear=false):=fun zs h=>by
    obtain ⟨a1,a2,a3⟩:=fl_back hn1 hn9 HB.out h
    refine ⟨a1,by rw [←a2,lD_len],fun i hi=>?_⟩
    have:=a3 i hi
    have e:(lD zs).getD i ⟨[],0,false⟩=(zs.getD i noD).x:=by
     unfold lD
     rw [List.getD_eq_getElem?_getD,List.getD_eq_getElem?_getD,List.getElem?_map]
     cases zs[i]? <;> rfl
    rw [e] at this;exact this
   generalize (vL v k).sum=S at hto HFB ⊢
   clear hbW hpW hown hE
   go_wp2_with fail
   refine hto.mono ?_
   rintro e w3 ⟨A3,c3,zs,rfl,hE3,hO3,hb3⟩
   obtain ⟨a1,a2,a3⟩:=HFB.out zs hO3
   have HB3:Hid (Below y.heap.size y w3):=onB HWy.out hb3
   have HE3:Hid (EnsV w3 AE ce ys):=(HE.out.later (by go_grown)).later hb3
   have HZ3:Hid (EdsV w3 A3 c3 zs∧zs.length=k∧∀ i,i<k→(zs.getD i noD).x.n=v i∧(zs.getD i noD).x.clear=false):=⟨hE3,a2,a3⟩
   rw [a1,a2,show errV 0=.nilIface from rfl]
   clear hto hE3 hO3 hb3 a1 a2 a3 c0 HE HFB HWy
   go_wp2_with fail
   go_loopg [12] k (fun gg s12 wz => ∃ i:Nat,i≤k∧gg=k-i∧s12=.int .i64 i∧∃ m,wz=w3.drewN m)
   case atStart=>exact ⟨0,Nat.zero_le _,rfl,rfl,0,rfl⟩
   case round =>
    obtain ⟨i,hi,rfl,rfl,m,rfl⟩:=hrel
    by_cases hlt2:i<k
    ·have hiI:(i:Int)<(k:Int):=by omega
     obtain ⟨⟨-,-,hz0 | ⟨bz,oz,rfl,hbz,hXz⟩⟩,hzl,hzv⟩:=HZ3.out
     ·rw [hz0] at hzl;simp at hzl;omega
     obtain ⟨-,d1,d2,-⟩:=hXz i (by omega)
     obtain ⟨e1,e2⟩:=hzv i hlt2
     rw [e1] at d1
     rw [e2] at d2
     obtain ⟨-,-,he0 | ⟨be,oe,rfl,hXe⟩⟩:=HE3.out
     ·have:=HYs.out.1;rw [he0] at this;simp at this;omega
     have d3:=(hXe.at (k:=i) (by rw [HYs.out.1];exact hlt2)).2
     have hyv:(ys.getD i noL).e.n=v i:=by
      rw [←lE_at,HYs.out.2.1]
      unfold flE
      rw [List.getD_eq_getElem?_getD,List.getElem?_map,List.getElem?_range hlt2];rfl
     rw [hyv] at d3
     generalize v i=x at d1 d3
     clear hXz hzl hzv e1 e2 hyv hXe
     go_upto_region 22 with fail
     go_quiet (fail)
     go_wp2_with fail
     go_roundg (k-(i+1))
     case measure=>omega
     case rel=>exact ⟨i+1,by omega,rfl,by go_num,m+nq,rfl⟩
    ·have hie:i=k:=by omega
     subst hie
     go_wp2_with fail
     go_ret
     exact ⟨rfl,below_drewN (onB HBy.out HB3.out) _⟩
set_option maxHeartbeats 4000000 in
theorem spback_law (N:Int) (A:Option Addr) (cL:Nat) (L:List Int) (w:World) (hL:PlAt w A cL L) :
  Calls Tryz.prog 3 #[.int .i64 N,.slice A L.length cL] w fun e w'=>e=.returned (.bool true)∧Below w.heap.size w w':=by
 by_cases h1:N<1
 ·clear hL
  generalize L.length=ll
  go_enter Tryz.func3,Tryz.ntmps3
  go_wp2_with fail
  go_ret
  exact ⟨rfl,Below.refl _ _⟩
 by_cases h2:N > 9
 ·clear hL
  generalize L.length=ll
  go_enter Tryz.func3,Tryz.ntmps3
  go_wp2_with fail
  go_ret
  exact ⟨rfl,Below.refl _ _⟩
 obtain ⟨n,rfl⟩:∃ n:Nat,N=n:=⟨N.toNat,by omega⟩
 exact spback_core n A cL L w hL (by omega) (by omega)
end Go.Proofs.YtfemjinbfebejaaGreatDoor
