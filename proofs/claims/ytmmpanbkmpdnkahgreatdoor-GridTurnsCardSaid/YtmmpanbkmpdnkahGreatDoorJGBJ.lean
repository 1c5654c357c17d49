/-
  By which other places a place is told (needs, Needs), how many places there are, and what is told of cells that are there (Tell), as a plan of package solve tells it, in whatever memory.
-/
import Derived.Test.YtmmpanbkmpdnkahGreatDoorJGBI
namespace Go.Proofs.YtmmpanbkmpdnkahGreatDoor
open Go.ChangeShapes Go.WideShapes Go.ChangeAt Go.RowKit
open Go.Sort (putRow Holds grow holds_putRow)
set_option maxRecDepth 20000
theorem map_snocI (f:Int→Int) (P:List Int) {k:Nat} (h:k<P.length):(P.take (k+1)).map f=(P.take k).map f ++ [f (P.getD k 0)]:=by
 rw [List.take_succ_eq_append_getElem h,List.map_append,List.getD_eq_getElem?_getD,List.getElem?_eq_getElem h]
 rfl
theorem map_snoc (f:Int→Int×Int) (P:List Int) {k:Nat} (h:k<P.length):(P.take (k+1)).map f=(P.take k).map f ++ [f (P.getD k 0)]:=by
 rw [List.take_succ_eq_append_getElem h,List.map_append,List.getD_eq_getElem?_getD,List.getElem?_eq_getElem h]
 rfl
theorem getD_memI {P:List Int} {k:Nat} (h:k<P.length):P.getD k 0∈P:=by
 rw [List.getD_eq_getElem?_getD,List.getElem?_eq_getElem h]
 exact List.getElem_mem h
set_option maxHeartbeats 8000000 in
theorem needs_any (q g n:Nat) (D:Nat→Dm) (X:Nat→AL) (x:Nat) (w:World) (hR:AllR D n) (hE:(allErr D n).2.2=0) (hx:x<prodN D n) (hA:PlanV w q g n D X) :
  Calls Tryz.prog 139 #[.pointer (some ⟨q,0,none⟩),.int .i64 x] w fun e w'=>(∃ v,e=.returned v∧w'.ownsRow w.heap.size 3 1 v (ndsX D n x).length (mapI (ndsX D n x)))∧Below w.heap.size w w':=by
 obtain ⟨i0,hi0,hz0,hz1,hz2⟩:=info_parts Tryz.infoInt
 obtain ⟨hn1,hn4,hp3,hd⟩:=allErr_some hE
 have hby:=by_any2 q g n D X x w hE hx hA
 have HA:Hid (PlanV w q g n D X):=hA
 obtain ⟨hq,q0,q1⟩:=hA.cells
 have hnI:(n:Int)≤4:=by omega
 have hxI:(x:Int)≤3000:=by omega
 have hP:=placeL_in (D:=D) (n:=n) (x:=x) hE
 rcases by_in D (placeL D n x) n with h | ⟨b,h,hb⟩
 ·have HNl:Hid (ndsX D n x=[]):=nds_leaf (by omega)
  rw [h] at hby
  clear hA hE hR hP h q0 q1
  go_enter Tryz.func139,Tryz.ntmps139
  go_wp2_with fail
  refine hby.mono ?_
  rintro e w1 ⟨rfl,hb1⟩
  have HB1:Hid (Below w.heap.size w w1):=hb1
  clear hb1 hby
  go_wp2_with fail
  go_ret
  rw [HNl.out]
  exact ⟨⟨_,rfl,World.ownsRow_nil _ _ _ _⟩,HB1.out⟩
 ·obtain ⟨hd1,hd12⟩:=hd b hb
  have hp0:=hP.lo b hb
  have hp1:=hP.hi b hb
  obtain ⟨m,hm⟩:∃ m,x / stepD D n b % (D b).n=m:=⟨_,rfl⟩
  have hpm:((placeL D n x).getD b 0).toNat=m:=by rw [digit_at hb,hm]
  have hmn:m<(D b).n:=by rw [←hm];exact Nat.mod_lt _ hd1
  have HNd:Hid (ndsX D n x=(neW (D b) m).map (putN D n x b)):=by show _=_;rw [nds_by h,hpm]
  have hlen:(neW (D b) m).length≤12:=by
   have:=nds_len hR hE hx
   rw [HNd.out,List.length_map] at this
   exact this
  have HNum:Hid (∀ k∈neW (D b) m,∃ j y:Nat,k=(j:Int)∧j<(D b).n∧putN D n x b k=(y:Int)∧y<prodN D n∧(x:Int)+((j:Int)-(m:Int))*(stepD D n b:Int)=y):=fun k hk=>by
   have hk2:=mNd_in ((neW_mem (hR b hb) hmn k).1 hk)
   obtain ⟨y,e1,e2,-,e4⟩:=putN_at hE hb hx hk2.1 hk2.2
   rw [hm] at e4
   exact ⟨k.toNat,y,by omega,by omega,e1,e2,by rw [Int.toNat_of_nonneg hk2.1];exact e4⟩
  have hSp:=stepD_pos (D:=D) (n:=n) (fun i hi=>(hd i hi).1) hb
  obtain ⟨S,hSd⟩:∃ S,stepD D n b=S:=⟨_,rfl⟩
  have HMb:Hid (∀ w',Calls Tryz.prog 189 #[.agg #[.int .i64 (D b).solve,.int .i64 S,.slice (X b).A (D b).n (X b).c],.int .i64 x] w' fun e w''=>e=.returned (.int .i64 m)∧Below w'.heap.size w' w''):=fun w'=>member_any2 (D b) S (X b) x m w' (by rw [←hSd];exact hSp) hd1 hd12 (by omega) (by rw [←hSd];exact hm)
  have HWy:Hid (∀ w',Below w.heap.size w w'→Calls Tryz.prog 140 #[.agg #[.int .i64 (D b).solve,.int .i64 S,.slice (X b).A (D b).n (X b).c],.int .i64 x] w' fun e w''=>e=.returned (wayV ((X b).xs.getD m noW))∧Below w'.heap.size w' w''):=fun w' hB=>way_any (D b) S (X b) x m w' (by rw [←hSd];exact hSp) hd1 hd12 (by omega) (by rw [←hSd];exact hm) ((hA.later hB).2.one hb).2.2
  have HNe:Hid (∀ w',Below w.heap.size w w'→IntT w' ((X b).xs.getD m noW).Ai ((X b).xs.getD m noW).ci (neW (D b) m)):=fun w' hB=>by
   obtain ⟨-,-,hOne⟩:=(hA.later hB).2.one hb
   obtain ⟨-,-,-,-,-,hWt⟩:=hOne.way hmn
   have:=hWt.2.2.1
   rw [way_ne (hOne.2.2 m hmn)] at this
   exact this
  have hfl:∀ w',(Instr.field 213 (wayV ((X b).xs.getD m noW)) 3).run Tryz.prog w'=.ok (.slice ((X b).xs.getD m noW).Ai (neW (D b) m).length ((X b).xs.getD m noW).ci) w':=fun w'=>by
   obtain ⟨-,-,hOne⟩:=hA.2.one hb
   rw [field_way3,way_ne (hOne.2.2 m hmn)]
  have HCp:Hid (∀ w',Below w.heap.size w w'→q<w'.heap.size∧g<w'.heap.size∧w'.cell? ⟨q,0,none⟩=some (.slice (some ⟨g,0,none⟩) n n)∧w'.cell? ⟨g,b*3,none⟩=some (.int .i64 (D b).solve)∧w'.cell? ⟨g,b*3+1,none⟩=some (.int .i64 S)∧w'.cell? ⟨g,b*3+2,none⟩=some (.slice (X b).A (D b).n (X b).c)):=fun w' hB=>by
   obtain ⟨a1,a2,-⟩:=(hA.later hB).cells
   obtain ⟨hg,⟨c0,c1,c2⟩,-⟩:=(hA.later hB).2.one hb
   rw [hSd] at c1
   exact ⟨a1,hg,a2,c0,c1,c2⟩
  obtain ⟨P,hPn⟩:∃ P,neW (D b) m=P:=⟨_,rfl⟩
  obtain ⟨f,hf⟩:∃ f,putN D n x b=f:=⟨_,rfl⟩
  obtain ⟨z,hz⟩:∃ z,(X b).xs.getD m noW=z:=⟨_,rfl⟩
  rw [hPn] at HNd hlen HNum HNe hfl
  rw [hf] at HNd HNum
  rw [hz] at HWy HNe hfl
  rw [hSd] at HNum
  obtain ⟨N,hN⟩:∃ N,P.length=N:=⟨_,rfl⟩
  have HN:Hid (P.length=N):=hN
  rw [hN] at hlen hfl
  have hNI:(N:Int)≤12:=by omega
  have hbI:(b:Int)<(n:Int):=by omega
  have hb0:((b:Int) == -1)=false:=by simp
  have hmI:(m:Int)<12:=by omega
  have HX3:Hid (prodN D n≤3000):=hp3
  have HDn:Hid ((D b).n≤12):=hd12
  rw [h] at hby
  obtain ⟨ai,hai⟩:∃ ai,z.Ai=ai:=⟨_,rfl⟩
  obtain ⟨ci,hci⟩:∃ ci,z.ci=ci:=⟨_,rfl⟩
  rw [hai,hci] at HNe hfl
  generalize wayV z=wv at hfl HWy
  clear hA hE hR hP h hp0 hp1 hm hpm hmn hSd hPn hf hz hN hd q0 q1 hd12 hd1 hai hci
  go_enter Tryz.func139,Tryz.ntmps139
  go_wp2_with fail
  refine hby.mono ?_
  rintro e w1 ⟨rfl,hb1⟩
  have HB1:Hid (Below w.heap.size w w1):=hb1
  obtain ⟨hq1,hg1,a0,a1,a2,a3⟩:=HCp.out w1 hb1
  obtain ⟨v,hv⟩:∃ v,w1.alloc (.cells #[.int .i64 (D b).solve,.int .i64 S,.slice (X b).A (D b).n (X b).c] 185)=v:=⟨_,rfl⟩
  have hvb:v.heap[w1.heap.size]?=some (.cells #[.int .i64 (D b).solve,.int .i64 S,.slice (X b).A (D b).n (X b).c] 185 (0,0)):=by rw [←hv];exact heap_alloc_new ..
  have HVb:Hid (v.heap[w1.heap.size]?=some (.cells #[.int .i64 (D b).solve,.int .i64 S,.slice (X b).A (D b).n (X b).c] 185 (0,0))):=hvb
  have hBv:Below w1.heap.size w1 v:=by rw [←hv];go_grown
  have HBv:Hid (Below w.heap.size w v):=onB hb1 hBv
  have v0:v.cell? ⟨w1.heap.size,0,none⟩=some (.int .i64 (D b).solve):=by simp [World.cell?,hvb]
  have v1:v.cell? ⟨w1.heap.size,1,none⟩=some (.int .i64 S):=by simp [World.cell?,hvb]
  have v2:v.cell? ⟨w1.heap.size,2,none⟩=some (.slice (X b).A (D b).n (X b).c):=by simp [World.cell?,hvb]
  have hvs:w1.heap.size<v.heap.size:=(Array.getElem?_eq_some_iff.1 hvb).1
  have hwy:=HWy.out v HBv.out
  clear hb1 hby hvb hBv
  go_wp2_with fail
  refine hwy.mono ?_
  rintro e w2 ⟨rfl,hb2⟩
  have HB2:Hid (Below v.heap.size v w2):=hb2
  clear hb2 hwy v0 v1 v2 hv a0 a1 a2 a3
  go_wp2_with fail
  clear hfl
  go_loopg [7,27] N (fun gg s7 s27 wr => ∃ (k:Nat) (AO:Option Addr) (cO:Nat),k≤N∧gg=N-k∧s27=.int .i64 k∧s7=.slice AO k cO∧Hid (wr.ownsRow w2.heap.size 3 1 (.slice AO k cO) k (mapI ((P.take k).map f)))∧Hid (Below w2.heap.size w2 wr))
  case atStart=>exact ⟨0,none,0,Nat.zero_le _,rfl,rfl,rfl,World.ownsRow_nil _ _ _ _,Below.refl _ _⟩
  case round =>
   obtain ⟨k,AO,cO,hk,rfl,rfl,rfl,HO,HBw⟩:=hrel
   have HBwW:Hid (Below w.heap.size w wr):=onB HBv.out (onB HB2.out HBw.out)
   by_cases hlt:k<N
   ·have hki:(k:Int)<(N:Int):=by omega
    have hkP:k<P.length:=by rw [HN.out];exact hlt
    obtain ⟨j,y,hj,hjn,hy,hyN,hyE⟩:=HNum.out _ (getD_memI hkP)
    obtain ⟨hcI,-,h0 | ⟨bi,cs,fr,hAi,hbi,hcl⟩⟩:=HNe.out wr HBwW.out
    ·have:=HN.out;rw [h0] at this;simp at this;omega
    have cx:=hcl k hkP
    have hbil:bi<wr.heap.size:=(Array.getElem?_eq_some_iff.1 hbi).1
    rw [HN.out] at hcI
    rw [hj] at cx
    have hcII:(N:Int)≤(ci:Int):=by omega
    have HNx:Hid ((P.take (k+1)).map f=(P.take k).map f ++ [(y:Int)]):=by show _=_;rw [map_snocI f P hkP,hy]
    have hyI:(y:Int)≤3000:=by have:=HX3.out;omega
    obtain ⟨t1,ht1⟩:∃ t:Int,(j:Int)-(m:Int)=t:=⟨_,rfl⟩
    obtain ⟨t2,ht2⟩:∃ t:Int,t1*(S:Int)=t:=⟨_,rfl⟩
    rw [ht1,ht2] at hyE
    have hjI:(j:Int)≤3000:=by have:=HDn.out;omega
    have hw1:IntKind.i64.wrap ((j:Int)-(m:Int))=t1:=by rw [ht1];exact IntWalk.i64_in _ (by omega)
    have hw2:IntKind.i64.wrap (t1*(S:Int))=t2:=by rw [ht2];exact IntWalk.i64_in _ (by omega)
    have hw3:IntKind.i64.wrap ((x:Int)+t2)=(y:Int):=by rw [hyE];exact IntWalk.i64_in _ (by omega)
    have HC:Hid (∀ w',Below wr.heap.size wr w'→w'.cell? ⟨w1.heap.size,0,none⟩=some (.int .i64 (D b).solve)∧w'.cell? ⟨w1.heap.size,1,none⟩=some (.int .i64 S)∧w'.cell? ⟨w1.heap.size,2,none⟩=some (.slice (X b).A (D b).n (X b).c)):=fun w' h=>by
     have hbk:=((onB HB2.out (onB HBw.out h)).block w1.heap.size hvs).trans HVb.out
     exact ⟨by simp [World.cell?,hbk],by simp [World.cell?,hbk],by simp [World.cell?,hbk]⟩
    obtain ⟨p0,p1,p2⟩:=HC.out wr (Below.refl _ _)
    have hs7:=HBw.out.size
    have hs8:=HB2.out.size
    have hax:w1.heap.size<wr.heap.size:=by omega
    have HFin:Hid (∀ (w4 w6:World) (o':Obj) (A6:Option Addr) (c6:Nat),Below wr.heap.size wr w4→w6.ownsRow w2.heap.size 3 1 (.slice A6 (k+1) c6) (k+1) (mapI ((P.take k).map f) ++ [.int .i64 (y:Int)])→(w4.alloc o').grownBy w6 (Value.slice AO k cO).ownBlock→Hid (w6.ownsRow w2.heap.size 3 1 (.slice A6 (k+1) c6) (k+1) (mapI ((P.take (k+1)).map f)))∧Hid (Below w2.heap.size w2 w6)):=fun w4 w6 o' A6 c6 h4 h6 hg=>by
     refine ⟨?_,grown_own (onB HBw.out h4) (own_later HO.out h4) hg⟩
     show World.ownsRow ..
     rw [HNx.out,mapI_snoc]
     exact h6
    clear hcl hbi hj hy hyE ht1 ht2 hyN hjn
    subst hAi
    go_wp2_with fail
    go_region_law ((first
     | (refine step_append_lies _ (by rfl) _ _ _ (by rfl) w2.heap.size 3 i0 _ 1 8 Tryz.underlying22 hi0 hz0 hz1 hz2 rfl (by omega) (.slice AO k cO) k (mapI ((P.take k).map f)) (by rfl) (own_later HO.out (by go_grown)) ⟨w4.heap.size,0,none⟩ 1 1 [.int .i64 y] (by rfl) (by rfl) (World.news_of_block (cs := #[.int .i64 y]) (t:=3) (fr:=(0,0)) (heap_alloc_new w4 _)) (by simp [Value.oneCell']) (by omega) (by unfold maxLen;omega) (by omega) (by simp;omega) (w4.heap.size+1) (by simp) ?_;intro gg cg w6 hown6 hgrow hat hlt6)
     | (go_simp;refine (HMb.out _).mono ?_;rintro e w4 ⟨rfl,hb4⟩;have hN4:=onB (W0:=wr) (by go_grown) hb4;have hs4:=hN4.size;obtain ⟨x0,x1,x2⟩:=HC.out _ hN4;clear hb4)))
    all_goals (obtain ⟨HO6,HB6⟩:=HFin.out _ _ _ _ _ (by go_grown) hown6 hgrow)
    all_goals clear hown6 hgrow hat
    all_goals go_wp2_with fail
    all_goals go_roundg (N-(k+1))
    all_goals first | omega | exact ⟨k+1,_,_,by omega,rfl,by go_num,rfl,HO6,HB6⟩
   ·have hke:k=N:=by omega
    subst hke
    have HF:Hid (wr.ownsRow w.heap.size 3 1 (.slice AO k cO) (ndsX D n x).length (mapI (ndsX D n x))):=by
     have h:=HO.out
     rw [List.take_of_length_le (by rw [HN.out];exact Nat.le_refl _),←HNd.out] at h
     have hl:(ndsX D n x).length=k:=by rw [HNd.out,List.length_map];exact HN.out
     show World.ownsRow ..
     rw [hl]
     exact own_low h (by have:=HB2.out.size;have:=HBv.out.size;omega)
    go_wp2_with fail
    go_ret
    exact ⟨⟨_,rfl,HF.out⟩,HBwW.out⟩
set_option maxHeartbeats 8000000 in
theorem pneeds_any (q g n:Nat) (D:Nat→Dm) (X:Nat→AL) (x:Nat) (w:World) (hR:AllR D n) (hE:(allErr D n).2.2=0) (hx:x<prodN D n) (hA:PlanV w q g n D X) :
  Calls Tryz.prog 118 #[.pointer (some ⟨q,0,none⟩),.int .i64 x] w fun e w'=>(∃ A' c' T,e=.returned (.tuple #[.slice A' T.length c',.nilIface])∧IntT w' A' c' T∧ToldP D n (placeL D n x) T∧(∀ z,z∈T↔z∈ndsX D n x)∧∀ a,A'=some a→w.heap.size≤a.block)∧Below w.heap.size w w':=by
 obtain ⟨hn1,hn4,hp3,hd⟩:=allErr_some hE
 obtain ⟨hq,q0,q1⟩:=hA.cells
 have hnd:=needs_any q g n D X x w hR hE hx hA
 have HT:=hid_of (nds_told hR hE hx)
 have HMm:Hid (∀ z,z∈((ndsX D n x).mergeSort fun a b=>decide (a≤b))↔z∈ndsX D n x):=fun z=>(List.mergeSort_perm _ _).mem_iff
 have hl:=nds_len hR hE hx
 obtain ⟨N,hN⟩:∃ N,prodN D n=N:=⟨_,rfl⟩
 rw [hN] at q1 hx hp3
 have hxI:(x:Int)<(N:Int):=by omega
 have hNI:(N:Int)≤3000:=by omega
 obtain ⟨zs,hzs⟩:∃ zs,ndsX D n x=zs:=⟨_,rfl⟩
 rw [hzs] at hnd HT hl HMm ⊢
 obtain ⟨k,hk⟩:∃ k,zs.length=k:=⟨_,rfl⟩
 have HK:Hid (zs.length=k):=hk
 have HLl:Hid ((zs.mergeSort fun a b=>decide (a≤b)).length=k):=by show _=_;rw [List.length_mergeSort];exact hk
 rw [hk] at hnd hl
 clear hzs hE hR hA hd hN hk
 go_enter Tryz.func118,Tryz.ntmps118
 go_wp2_with fail
 refine hnd.mono ?_
 rintro e w1 ⟨⟨v,rfl,hO⟩,hb1⟩
 have HB1:Hid (Below w.heap.size w w1):=hb1
 clear hb1 hnd q0 q1
 by_cases hz:v=.slice none 0 0
 ·subst hz
  have hk0:k=0:=by
   rcases hO.2 with ⟨_,h⟩ | ⟨g,c,cur,h,_⟩
   ·exact h
   ·cases h
  subst hk0
  have hso:=Any.slices_Sort_int_none Tryz.lays189 none 0 w1
  have HZ0:Hid ((zs.mergeSort fun a b=>decide (a≤b))=[]):=List.eq_nil_of_length_eq_zero HLl.out
  clear hO
  go_wp2_with fail
  refine Calls.mono hso ?_
  rintro e w4 ⟨rfl,rfl⟩
  go_wp2_with fail
  go_returns
  refine ⟨⟨none,0,(zs.mergeSort fun a b=>decide (a≤b)),by rw [HLl.out];rfl,by rw [HZ0.out];exact IntT.nil _ _ _ (by omega),HT.out,HMm.out,fun a ha=>(by cases ha)⟩,HB1.out⟩
 ·obtain ⟨gg,c,hv,hgb,hgl,hnc,hcm,-,hH⟩:=Lib.holds_of_ownsRow (enc:=Value.int .i64) (zs:=zs) hO hz
  subst hv
  obtain ⟨cur,hg⟩:∃ cur:Array Value,w1.heap[gg]?=some (.cells cur 3 (0,0)):=by
   rcases hO.2 with ⟨h,_⟩ | ⟨g',c',cur,h,_,hg,_⟩
   ·cases h
   ·cases h;exact ⟨cur,hg⟩
  have hso:=Any.slices_Sort_int Tryz.lays189 gg 0 c zs w1 hH hgl (by have:=HK.out;omega)
  rw [HK.out] at hso
  have HTs:Hid (∀ q2 os,IntT (grow (putRow (Value.int .i64) (Sort.ahead w1 q2) gg 0 (zs.mergeSort fun x y=>decide (x≤y)).toArray) os) (some ⟨gg,0,none⟩) c (zs.mergeSort fun x y=>decide (x≤y))):=fun q2 os=>sorted_intT hg hH (by rw [List.length_mergeSort]) (by have:=HK.out;omega) (by unfold maxLen at hcm;omega)
  have HBs:Hid (∀ q2 os,Below w.heap.size w (grow (putRow (Value.int .i64) (Sort.ahead w1 q2) gg 0 (zs.mergeSort fun x y=>decide (x≤y)).toArray) os)):=fun q2 os=>sorted_belowI HB1.out (by omega)
  generalize hys:(zs.mergeSort fun x y=>decide (x≤y))=ys at hso HTs HBs HT HMm HLl
  clear hO hH hg hys
  go_wp2_with fail
  refine Calls.mono hso ?_
  rintro e w4 ⟨rfl,q2,os,hw4⟩
  have HT4:Hid (IntT w4 (some ⟨gg,0,none⟩) c ys):=by rw [hw4];exact HTs.out q2 os
  have HB4:Hid (Below w.heap.size w w4):=by rw [hw4];exact HBs.out q2 os
  have HGb:Hid (w.heap.size≤gg):=hgb
  clear hw4 hso
  go_wp2_with fail
  go_returns
  exact ⟨⟨_,c,ys,by rw [HLl.out];rfl,HT4.out,HT.out,HMm.out,fun a ha=>(by cases ha;exact HGb.out)⟩,HB4.out⟩
end Go.Proofs.YtmmpanbkmpdnkahGreatDoor
