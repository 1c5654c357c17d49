/-
  What comes of the cells of parts by their signs, and of a member by the cells of those that its way names, as package solve tells it (together, tell), in whatever memory.
-/
import Derived.Test.YtmmpanbkmpdnkahGreatDoorJGBF
import Derived.Test.YtmmpanbkmpdnkahGreatDoorJGBH
namespace Go.Proofs.YtmmpanbkmpdnkahGreatDoor
open Go.ChangeShapes Go.WideShapes Go.ChangeAt Go.RowKit
set_option maxRecDepth 20000
def togX (w:World):World:=(w.alloc (.cells #[.int .i64 0,.int .i64 0] 40)).alloc (.cells #[.int .i64 0,.int .i64 0] 40)
theorem togX_size (w:World):(togX w).heap.size=w.heap.size+2:=by unfold togX;simp
theorem togX_below (w:World):Below w.heap.size w (togX w):=by unfold togX;go_grown
theorem togX_0 (w:World):(togX w).heap[w.heap.size]?=some (.cells #[.int .i64 0,.int .i64 0] 40):=by
 unfold togX
 rw [heap_alloc_old _ _ (by simp)]
 exact heap_alloc_new ..
theorem togX_1 (w:World):(togX w).heap[w.heap.size+1]?=some (.cells #[.int .i64 0,.int .i64 0] 40):=by
 unfold togX
 exact topF1 ..
set_option maxHeartbeats 8000000 in
theorem together_any (d:Dm) (AP:Option Addr) (cP:Nat) (P:List Int) (AC:Option Addr) (cC:Nat) (L:List (Int×Int)) (at':Int→Int×Int) (w:World) (hP12:P.length≤12) (hIn:∀ k∈P,∃ j:Nat,k=j∧j<d.n∧(d.mem j).sign≠0) (hSg:Sg d.mem d.n) (hL:L=P.map at') (hG:∀ k∈P,goodC (at' k)) (hP:IntsAt w AP cP (P.map (sgnI d))) (hC:CelV w AC cC L) :
  Calls Tryz.prog 191 #[.slice AP P.length cP,.slice AC P.length cC] w fun e w'=>e=.returned (.tuple #[.agg #[.int .i64 (partsV d.mem at' P).1,.int .i64 (partsV d.mem at' P).2],.nilIface])∧Below w.heap.size w w':=by
 have HIn:Hid (∀ k∈P,∃ j:Nat,k=j∧j<d.n∧(d.mem j).sign≠0):=hIn
 have HSg:Hid (Sg d.mem d.n):=hSg
 have HG:Hid (∀ k∈P,goodC (at' k)):=hG
 have HP:Hid (IntsAt w AP cP (P.map (sgnI d))):=hP
 have HC:Hid (CelV w AC cC L):=hC
 have HL:Hid (L=P.map at'):=hL
 have HB0:Hid (Below w.heap.size w (togX w)):=togX_below ..
 have HW0:Hid ((togX w).heap[w.heap.size]?=some (.cells #[.int .i64 0,.int .i64 0] 40)∧(togX w).heap.size=w.heap.size+2):=⟨togX_0 ..,togX_size ..⟩
 have HFin:Hid ((P.take P.length).foldl (partStep d.mem at') (0,0)=partsV d.mem at' P):=by show _=_;rw [List.take_length];rfl
 obtain ⟨N,hN⟩:∃ N,P.length=N:=⟨_,rfl⟩
 have HN:Hid (P.length=N):=hN
 rw [hN] at HFin hP12 ⊢
 generalize partsV d.mem at' P=V at HFin
 have hN':(N:Int)≤12:=by omega
 clear hIn hSg hG hP hC hN hL
 go_enter Tryz.func191,Tryz.ntmps191
 go_wp2_with fail
 go_loopg [7,13] N (fun g s7 s13 wr => ∃ (k:Nat) (a b:Int),k≤N∧g=N-k∧s13=.int .i64 k∧s7=.nilIface∧Hid ((P.take k).foldl (partStep d.mem at') (0,0)=(a,b))∧Hid (wr.heap[w.heap.size+1]?=some (.cells #[.int .i64 a,.int .i64 b] 40))∧Hid ((togX w).grownBy wr (some (w.heap.size+1))))
 case atStart=>exact ⟨0,0,0,Nat.zero_le _,rfl,rfl,rfl,(rfl:(P.take 0).foldl (partStep d.mem at') (0,0)=(0,0)),togX_1 w,(grown_refl _ _:(togX w).grownBy (togX w) (some (w.heap.size+1)))⟩
 case round =>
  obtain ⟨k,a,b,hk,rfl,rfl,rfl,HF,HCc,HGr⟩:=hrel
  have hB:Below w.heap.size w wr:=HB0.out.grown HGr.out (by rw [HW0.out.2];omega) (fun j hj=>by cases hj;omega)
  have HBw:Hid (Below w.heap.size w wr):=hB
  have hzr:w.heap.size+1<wr.heap.size:=by have:=HGr.out.size;rw [HW0.out.2] at this;omega
  by_cases hlt:k<N
  ·have hkP:k<P.length:=by rw [HN.out];exact hlt
   have hki:(k:Int)<(N:Int):=by omega
   have hmem:P.getD k 0∈P:=by rw [List.getD_eq_getElem?_getD,List.getElem?_eq_getElem hkP];exact List.getElem_mem hkP
   obtain ⟨hcP,h0 | ⟨bp,rfl,hbp,hcell⟩⟩:=HP.out.later hB
   ·have h1:(P.map (sgnI d)).length=N:=by rw [List.length_map];exact HN.out
    rw [h0] at h1;simp at h1;omega
   rw [List.length_map,HN.out] at hcP
   have cP1:=hcell k (by rw [List.length_map];exact hkP)
   have hLl:L.length=N:=by rw [HL.out,List.length_map];exact HN.out
   obtain ⟨hcL,-,h0 | ⟨bc,oc,rfl,hCat⟩⟩:=HC.out.later hB
   ·rw [h0] at hLl;simp at hLl;omega
   obtain ⟨x0,x1⟩:=hCat.2 k (by omega)
   have hbcl:bc<wr.heap.size:=hCat.1
   have hLk:L.getD k noC=at' (P.getD k 0):=by
    rw [HL.out,List.getD_eq_getElem?_getD,List.getElem?_map,List.getD_eq_getElem?_getD,List.getElem?_eq_getElem hkP]
    rfl
   have hSk:(P.map (sgnI d)).getD k 0=sgnI d (P.getD k 0):=by
    rw [List.getD_eq_getElem?_getD,List.getElem?_map,List.getD_eq_getElem?_getD,List.getElem?_eq_getElem hkP]
    rfl
   rw [hLl] at hcL
   rw [hLk] at x0 x1
   obtain ⟨j,hj,hjn,hjs⟩:=HIn.out _ hmem
   have hgd:=HG.out _ hmem
   have HSt:=take_part (M:=d.mem) (at':=at') hkP
   rw [HF.out] at HSt
   rw [hSk,hj,show sgnI d (j:Int)=(d.mem j).sign by unfold sgnI;rw [Int.toNat_natCast]] at cP1
   rw [hj] at HSt hgd x0 x1
   have hgab:goodC (a,b):=by rw [←HF.out];exact good_fold _ _ _ _ good_zero
   unfold partStep at HSt
   rw [show ((j:Int)).toNat=j by omega] at HSt
   simp only at HSt
   have hsg:=HSg.out j hjn
   obtain ⟨s0,s1,f0,f1⟩:=pair_at HCc.out
   have hADD:=fun w'=>add_yes a b (at' (j:Int)).1 (at' (j:Int)).2 hgab hgd w'
   have hSUB:=fun w'=>sub_yes a b (at' (j:Int)).1 (at' (j:Int)).2 hgab hgd w'
   generalize (at' (j:Int)).1=x at x0 HSt hADD hSUB
   generalize (at' (j:Int)).2=y at x1 HSt hADD hSUB
   generalize (d.mem j).sign=sg at cP1 HSt hsg hjs
   obtain ⟨v,hv⟩:∃ v,wr.alloc (.cells #[.int .i64 x,.int .i64 y] 40)=v:=⟨_,rfl⟩
   have hBv:Below wr.heap.size wr v:=by rw [←hv];go_grown
   have HBv:Hid (Below wr.heap.size wr v):=hBv
   obtain ⟨v0,v1,-,-⟩:=pair_at (show v.heap[wr.heap.size]?=some (.cells #[.int .i64 x,.int .i64 y] 40 (0,0)) from by rw [←hv];exact heap_alloc_new ..)
   have hvs:wr.heap.size<v.heap.size:=by rw [←hv];simp
   obtain ⟨t0,t1,-,-⟩:=pair_at ((hBv.block _ hzr).trans HCc.out)
   have cv1:=(hBv.cell (p:=⟨bp,k,none⟩) hbp).trans cP1
   have HKeep:Hid (∀ w',Below wr.heap.size wr w'→w'.cell? ⟨w.heap.size+1,0,none⟩=some (.int .i64 a)∧w'.cell? ⟨w.heap.size+1,1,none⟩=some (.int .i64 b)∧w'.frozen? ⟨w.heap.size+1,0,none⟩=false∧w'.frozen? ⟨w.heap.size+1,1,none⟩=false):=fun w' hw'=>pair_at ((hw'.block _ hzr).trans HCc.out)
   clear hB hj hgd hgab hmem hcell hCat hLk hLl hBv hSk
   by_cases hs1:sg=1
   ·subst hs1
    rw [if_pos rfl] at HSt
    obtain ⟨r1,hr1⟩:∃ r,plusP a b x y=r:=⟨_,rfl⟩
    obtain ⟨rk,rn⟩:=r1
    rw [hr1] at HSt hADD
    simp only at hADD
    have HNx:Hid ((P.take (k+1)).foldl (partStep d.mem at') (0,0)=(rk,rn)):=HSt
    have hadd:=hADD v
    clear hADD hSUB HSt hr1 hsg hjs
    go_wp2_with fail
    refine hadd.mono ?_
    rintro e w4 ⟨rfl,hb4⟩
    have hN4:=onB HBv.out hb4
    obtain ⟨n0,n1,n2,n3⟩:=HKeep.out _ hN4
    have HN4:Hid (Below wr.heap.size wr w4):=hN4
    have hz4:w.heap.size+1<w4.heap.size:=Nat.lt_of_lt_of_le hzr hN4.size
    clear hb4 hN4 hadd hv v0 v1 t0 t1 cv1
    go_wp2_with fail
    go_roundg (N-(k+1))
    case measure=>omega
    case rel=>exact ⟨k+1,rk,rn,by omega,rfl,by go_num,rfl,HNx,pair_set ((HN4.out.block _ hzr).trans HCc.out),pair_grown (grown_then HGr.out HN4.out)⟩
   ·have hs2:sg = -1:=by omega
    subst hs2
    rw [if_neg (by decide),if_pos rfl] at HSt
    obtain ⟨r1,hr1⟩:∃ r,minusP a b x y=r:=⟨_,rfl⟩
    obtain ⟨rk,rn⟩:=r1
    rw [hr1] at HSt hSUB
    simp only at hSUB
    have HNx:Hid ((P.take (k+1)).foldl (partStep d.mem at') (0,0)=(rk,rn)):=HSt
    have hadd:=hSUB v
    clear hADD hSUB HSt hr1 hsg hs1 hjs
    go_wp2_with fail
    refine hadd.mono ?_
    rintro e w4 ⟨rfl,hb4⟩
    have hN4:=onB HBv.out hb4
    obtain ⟨n0,n1,n2,n3⟩:=HKeep.out _ hN4
    have HN4:Hid (Below wr.heap.size wr w4):=hN4
    have hz4:w.heap.size+1<w4.heap.size:=Nat.lt_of_lt_of_le hzr hN4.size
    clear hb4 hN4 hadd hv v0 v1 t0 t1 cv1
    go_wp2_with fail
    go_roundg (N-(k+1))
    case measure=>omega
    case rel=>exact ⟨k+1,rk,rn,by omega,rfl,by go_num,rfl,HNx,pair_set ((HN4.out.block _ hzr).trans HCc.out),pair_grown (grown_then HGr.out HN4.out)⟩
  ·have hke:k=N:=by omega
   subst hke
   have HV:Hid (V=(a,b)):=by show _=_;rw [←HFin.out];exact HF.out
   obtain ⟨s0,s1,f0,f1⟩:=pair_at HCc.out
   have k1:wr.heap[w.heap.size]?=some (.cells #[.int .i64 0,.int .i64 0] 40):=(HGr.out.block w.heap.size (by rw [HW0.out.2];omega) (fun e=>by simp at e)).trans HW0.out.1
   obtain ⟨e0,e1,g0,g1⟩:=pair_at k1
   have hzz:w.heap.size<wr.heap.size:=by omega
   clear hB k1
   go_wp2_with fail
   refine bodyPost_ret (v:=.tuple #[.agg #[.int .i64 a,.int .i64 b],.nilIface]) (by simp [results,Tryz.results191,go_sem,e0,e1]) rfl ⟨by rw [HV.out],?_⟩
   exact (HBw.out.setCell (by simp) _).setCell (by simp) _
theorem ms_nm {w:World} {A:Option Addr} {c:Nat} {L:List (List UInt8)} (h:StrsV w A c L) (hl:L.length≤30):NmV w A c (L.map nmB):=by
 obtain ⟨h1,h2,h3⟩:=h
 refine ⟨by rw [List.length_map];exact h1,by rw [List.length_map];omega,h2,?_⟩
 rcases h3 with h3 | ⟨b,o,h3,h4,h5⟩
 ·exact Or.inl (by rw [h3];rfl)
 ·refine Or.inr ⟨b,o,h3,h4,fun j hj=>?_⟩
  rw [List.length_map] at hj
  rw [h5 j hj,List.getD_eq_getElem?_getD,List.getD_eq_getElem?_getD,List.getElem?_map,List.getElem?_eq_getElem hj]
  rfl
theorem part_sign {d:Dm} {m:Nat} (hf:(d.mem m).formula.size=0):∀ k∈mNd d m,∃ j:Nat,k=j∧j<d.n∧(d.mem j).sign≠0:=fun k hk=>by
 rw [←parts_need hf,List.mem_filter] at hk
 obtain ⟨j,h1,h2,-⟩:=selTo_mem k hk.1
 refine ⟨j,h1,h2,?_⟩
 have:=hk.2
 rw [h1] at this
 unfold sgB at this
 simpa using this
def telW (w:World) (x:WL):World:=(w.alloc (.cells #[.bool x.lf,.slice x.An x.nd.length x.cn,.slice x.As x.nm.length x.cs,.slice x.Ai x.ne.length x.ci,.slice x.Ag x.sg.length x.cg] 213)).alloc (.cells #[.int .i64 0,.int .i64 0] 40)
theorem telW_size (w:World) (x:WL):(telW w x).heap.size=w.heap.size+2:=by unfold telW;simp
theorem telW_below (w:World) (x:WL):Below w.heap.size w (telW w x):=by unfold telW;go_grown
theorem telW_0 (w:World) (x:WL):(telW w x).heap[w.heap.size]?=some (.cells #[.bool x.lf,.slice x.An x.nd.length x.cn,.slice x.As x.nm.length x.cs,.slice x.Ai x.ne.length x.ci,.slice x.Ag x.sg.length x.cg] 213 (0,0)):=by
 unfold telW
 rw [heap_alloc_old _ _ (by simp)]
 exact heap_alloc_new ..
theorem telW_1 (w:World) (x:WL):(telW w x).heap[w.heap.size+1]?=some (.cells #[.int .i64 0,.int .i64 0] 40):=by
 unfold telW
 exact topF1 ..
set_option maxHeartbeats 8000000 in
theorem tell_any (d:Dm) (m:Nat) (x:WL) (AC:Option Addr) (cC:Nat) (f:Int→Int×Int) (w:World) (hR:(rErr d).2=0) (hm:m<d.n) (hwo:WayOf d m x) (hW:WayT w x) (hok:∀ z∈mNd d m,goodC (f z)) (hC:CelV w AC cC (x.ne.map f)) :
  Calls Tryz.prog 141 #[wayV x,.slice AC x.ne.length cC] w fun e w'=>e=.returned (.tuple #[.agg #[.int .i64 (oneV d f m).1,.int .i64 (oneV d f m).2],.nilIface])∧Below w.heap.size w w':=by
 obtain ⟨hd,hme,-,-⟩:=rErr_right hR
 obtain ⟨-,-,hd2,-⟩:=dimErr_right hd
 have hB0:=telW_below w x
 have hSz:=telW_size w x
 have hk0:=telW_0 w x
 have hk1:=telW_1 w x
 obtain ⟨W,hWe⟩:∃ W,telW w x=W:=⟨_,rfl⟩
 rw [hWe] at hB0 hSz hk0 hk1
 unfold telW at hWe
 unfold wayV
 have HB0:Hid (Below w.heap.size w W):=hB0
 have HRs:Hid (W.heap[w.heap.size+1]?=some (.cells #[.int .i64 0,.int .i64 0] 40)):=hk1
 have hl0:w.heap.size<W.heap.size:=by omega
 have hl1:w.heap.size+1<W.heap.size:=by omega
 have x1:W.cell? ⟨w.heap.size,1,none⟩=some (.slice x.An x.nd.length x.cn):=by simp [World.cell?,hk0]
 have x2:W.cell? ⟨w.heap.size,2,none⟩=some (.slice x.As x.nm.length x.cs):=by simp [World.cell?,hk0]
 have x4:W.cell? ⟨w.heap.size,4,none⟩=some (.slice x.Ag x.sg.length x.cg):=by simp [World.cell?,hk0]
 have hWW:=hW.later hB0
 have hCW:=hC.later hB0
 by_cases hf:(d.mem m).formula.size=0
 ·obtain ⟨-,e1,-,e3,e4⟩:=hwo.1 hf
  have htg:=together_any d x.Ag x.cg x.ne AC cC (x.ne.map f) f W (by rw [e3];exact Nat.le_trans (selTo_len _ _) hd2) (by rw [e3];exact part_sign hf) (Sg.of hd) rfl (by rw [e3];exact hok) (by rw [e3,←e4];exact hWW.2.2.2.at) hCW
  have hel:x.sg.length=x.ne.length:=by rw [e4,e3,List.length_map]
  rw [hel] at x4 hWe
  have hpv:partsV d.mem f x.ne=oneV d f m:=by rw [e3,parts_value hf]
  rw [hpv] at htg
  rw [e1] at x1 hWe ⊢
  rw [hel]
  simp only [List.length_nil] at x1 hWe ⊢
  obtain ⟨⟨ra,rb⟩,hRe⟩:∃ R,oneV d f m=R:=⟨_,rfl⟩
  have HRe:Hid (oneV d f m=(ra,rb)):=hRe
  rw [hRe] at htg
  simp only at htg
  generalize x.ne.length=nl at *
  generalize x.nm.length=ml at *
  clear hRe hf e1 e3 e4 hel hpv hW hwo hWW hCW hC hok hR hd hme hB0 hSz hk0 hk1
  go_enter Tryz.func141,Tryz.ntmps141
  go_wp2_with fail
  refine htg.mono ?_
  rintro e w4 ⟨rfl,hb4⟩
  have HB4:Hid (Below W.heap.size W w4):=hb4
  obtain ⟨e0,e1,g0,g1⟩:=pair_at ((hb4.block (w.heap.size+1) hl1).trans HRs.out)
  have hl4:w.heap.size+1<w4.heap.size:=Nat.lt_of_lt_of_le hl1 hb4.size
  clear hb4 htg x1 x2 x4 hWe
  go_wp2_with fail
  refine bodyPost_ret (v:=.tuple #[.agg #[.int .i64 ra,.int .i64 rb],.nilIface]) (by simp [results,Tryz.results141,go_sem,e0,e1]) rfl ⟨by rw [HRe.out],?_⟩
  exact ((onB HB0.out HB4.out).setCell (by simp) _).setCell (by simp) _
 ·obtain ⟨-,e1,e2,e3,e4⟩:=hwo.2 hf
  have hpe:=mErr_prsE hf (hme m hm)
  have hfe:=form_read hpe
  have hrl:=refs_len hfe
  obtain ⟨v1,v2⟩:=form_value hd hf (hme m hm) f hok
  have hpos:=(form_right hfe).1
  rw [←e2] at hrl
  have hvl:=value_any x.An x.cn x.nd x.As x.cs (x.nm.map nmB) AC cC (x.ne.map f) W hWW.1.1 (ms_nm hWW.2.1.1 hrl) hCW
  have q1:valE x.nd (x.nm.map nmB) (x.ne.map f)=0:=by rw [e1,e2,e3];exact v1
  have q2:valC x.nd (x.nm.map nmB) (x.ne.map f)=oneV d f m:=by rw [e1,e2,e3];exact v2
  rw [q1,q2,errV_zero,List.length_map,List.length_map] at hvl
  have hposI:0<(x.nd.length:Int):=by rw [e1];omega
  obtain ⟨⟨ra,rb⟩,hRe⟩:∃ R,oneV d f m=R:=⟨_,rfl⟩
  have HRe:Hid (oneV d f m=(ra,rb)):=hRe
  rw [hRe] at hvl
  simp only at hvl
  generalize x.ne.length=xl at *
  generalize x.sg.length=sl at *
  generalize x.nd.length=nl at *
  generalize x.nm.length=ml at *
  clear hRe hf e1 e2 e3 e4 hpe hfe hrl v1 v2 hpos q1 q2 hW hwo hWW hCW hC hok hR hd hme hB0 hSz hk0 hk1
  obtain ⟨nk,rfl⟩:∃ nk,nl=nk+1:=⟨nl-1,by omega⟩
  clear hposI
  go_enter Tryz.func141,Tryz.ntmps141
  go_wp2_with fail
  refine hvl.mono ?_
  rintro e w4 ⟨rfl,hb4⟩
  have HB4:Hid (Below W.heap.size W w4):=hb4
  obtain ⟨e0,e1,g0,g1⟩:=pair_at ((hb4.block (w.heap.size+1) hl1).trans HRs.out)
  have hl4:w.heap.size+1<w4.heap.size:=Nat.lt_of_lt_of_le hl1 hb4.size
  clear hb4 hvl x1 x2 x4 hWe
  go_wp2_with fail
  refine bodyPost_ret (v:=.tuple #[.agg #[.int .i64 ra,.int .i64 rb],.nilIface]) (by simp [results,Tryz.results141,go_sem,e0,e1]) rfl ⟨by rw [HRe.out],?_⟩
  exact ((onB HB0.out HB4.out).setCell (by simp) _).setCell (by simp) _
noncomputable def neW (d:Dm) (m:Nat):List Int:=if (d.mem m).formula.size=0 then mNd d m else (refsP (prsL (d.mem m).formula)).map (whL d)
theorem way_ne {d:Dm} {m:Nat} {x:WL} (h:WayOf d m x):x.ne=neW d m:=by
 unfold neW
 by_cases hf:(d.mem m).formula.size=0
 ·rw [if_pos hf];exact (h.1 hf).2.2.2.1
 ·rw [if_neg hf];exact (h.2 hf).2.2.2.1
theorem neW_sort {d:Dm} (hR:(rErr d).2=0) {m:Nat} (hm:m<d.n):((neW d m).mergeSort fun x y=>decide (x≤y))=mNd d m:=by
 obtain ⟨hd,hme,-,-⟩:=rErr_right hR
 unfold neW
 by_cases hf:(d.mem m).formula.size=0
 ·rw [if_pos hf]
  exact rise_eq _ _ (by
   have hnd:List.Pairwise (fun a b=>a≠b) ((mNd d m).mergeSort fun x y=>decide (x≤y)):=(List.mergeSort_perm _ _).symm.pairwise ((mNd_rise d m).imp fun h=>by omega) fun {a b} h e=>h e.symm
   exact ((srt_ints _).and hnd).imp fun h=>by omega) (mNd_rise d m) fun z=>(List.mergeSort_perm _ _).mem_iff
 ·rw [if_neg hf]
  exact sort_need hd hf (hme m hm) (mErr_prsE hf (hme m hm))
theorem neW_perm {d:Dm} (hR:(rErr d).2=0) {m:Nat} (hm:m<d.n):(neW d m).Perm (mNd d m):=by
 rw [←neW_sort hR hm]
 exact (List.mergeSort_perm _ _).symm
theorem neW_mem {d:Dm} (hR:(rErr d).2=0) {m:Nat} (hm:m<d.n) (z:Int):z∈neW d m↔z∈mNd d m:=(neW_perm hR hm).mem_iff
section
variable {D:Nat→Dm} {n:Nat}
theorem set_num (hE:(allErr D n).2.2=0) {x b j:Nat} (hb:b<n) (hx:x<prodN D n) (hj:j<(D b).n):∃ y:Nat,(x:Int)+((j:Int)-(x / stepD D n b % (D b).n:Nat))*(stepD D n b:Int)=y∧y<prodN D n∧placeL D n y=(placeL D n x).set b j:=by
 obtain ⟨-,-,-,hd⟩:=allErr_some hE
 obtain ⟨y,h1,h2,h3,h4⟩:=part_place (D:=D) (n:=n) (dim:=b) (x:=x) (j:=j) (fun i hi=>(hd i hi).1) hb hx rfl hj
 refine ⟨y,h1,h2,?_⟩
 apply List.ext_getElem?
 intro i
 by_cases hi:i<n
 ·rw [List.getElem?_set]
  simp only [placeL_len,hb,if_true]
  by_cases e:b=i
  ·subst e
   rw [if_pos rfl]
   have:digitAt D n y b=j:=by rw [digit_step hb];exact h3
   simp [placeL,hi,this]
  ·rw [if_neg e]
   have:=h4 i hi (fun h=>e h.symm)
   simp [placeL,hi,this]
 ·rw [List.getElem?_eq_none (by rw [placeL_len];omega),List.getElem?_eq_none (by rw [List.length_set,placeL_len];omega)]
def putN (D:Nat→Dm) (n x b:Nat) (k:Int):Int:=numI D ((placeL D n x).set b k) n
theorem putN_at (hE:(allErr D n).2.2=0) {x b:Nat} (hb:b<n) (hx:x<prodN D n) {k:Int} (h0:0≤k) (h1:k<((D b).n:Int)):∃ y:Nat,putN D n x b k=(y:Int)∧y<prodN D n∧placeL D n y=(placeL D n x).set b k∧(x:Int)+(k-(x / stepD D n b % (D b).n:Nat))*(stepD D n b:Int)=y:=by
 obtain ⟨y,e1,e2,e3⟩:=set_num hE hb hx (j:=k.toNat) (by omega)
 rw [Int.toNat_of_nonneg h0] at e1 e3
 exact ⟨y,by unfold putN;rw [←e3];exact num_place hE e2,e2,e3,e1⟩
theorem putN_less (hE:(allErr D n).2.2=0) {x b:Nat} (hb:b<n) (hx:x<prodN D n) {i k:Int} (h0:0≤i) (h1:i<((D b).n:Int)) (h2:0≤k) (h3:k<((D b).n:Int)) (h:i<k):putN D n x b i<putN D n x b k:=by
 obtain ⟨-,-,-,hd⟩:=allErr_some hE
 obtain ⟨y,e1,-,-,e2⟩:=putN_at hE hb hx h0 h1
 obtain ⟨z,f1,-,-,f2⟩:=putN_at hE hb hx h2 h3
 have hS:=stepD_pos (D:=D) (n:=n) (fun i hi=>(hd i hi).1) hb
 rw [e1,f1,←e2,←f2]
 have hm:(i-((x / stepD D n b % (D b).n:Nat):Int))*(stepD D n b:Int)<(k-((x / stepD D n b % (D b).n:Nat):Int))*(stepD D n b:Int):=Int.mul_lt_mul_of_pos_right (by omega) (by omega)
 omega
noncomputable def ndsX (D:Nat→Dm) (n x:Nat):List Int:=if byTo D (placeL D n x) n<0 then [] else (neW (D (byTo D (placeL D n x) n).toNat) ((placeL D n x).getD (byTo D (placeL D n x) n).toNat 0).toNat).map (putN D n x (byTo D (placeL D n x) n).toNat)
theorem nds_leaf {x:Nat} (h:byTo D (placeL D n x) n<0):ndsX D n x=[]:=by unfold ndsX;rw [if_pos h]
theorem nds_by {x b:Nat} (h:byTo D (placeL D n x) n=(b:Int)):ndsX D n x=(neW (D b) ((placeL D n x).getD b 0).toNat).map (putN D n x b):=by unfold ndsX;rw [h,if_neg (by omega),Int.toNat_natCast]
theorem nds_told (hR:AllR D n) (hE:(allErr D n).2.2=0) {x:Nat} (hx:x<prodN D n):ToldP D n (placeL D n x) ((ndsX D n x).mergeSort fun a b=>decide (a≤b)):=by
 have hP:=placeL_in (D:=D) (n:=n) (x:=x) hE
 rcases by_in D (placeL D n x) n with h | ⟨b,h,hb⟩
 ·rw [nds_leaf (by omega),List.mergeSort_nil]
  refine ⟨List.Pairwise.nil,Nat.zero_le _,fun z=>⟨fun hz=>absurd hz (by simp),?_⟩⟩
  rintro ⟨b,hb,-⟩
  omega
 ·obtain ⟨hd,hme,-,-⟩:=rErr_right (hR b hb)
  obtain ⟨-,-,hd2,-⟩:=dimErr_right hd
  have hp0:=hP.lo b hb
  have hp1:=hP.hi b hb
  have hm:((placeL D n x).getD b 0).toNat<(D b).n:=by omega
  rw [nds_by h]
  obtain ⟨m,hme2⟩:∃ m,((placeL D n x).getD b 0).toNat=m:=⟨_,rfl⟩
  rw [hme2] at hm ⊢
  have hpm:=(neW_perm (hR b hb) hm).map (putN D n x b)
  have hpp:=(List.mergeSort_perm ((neW (D b) m).map (putN D n x b)) fun a b=>decide (a≤b)).trans hpm
  have hnd:List.Pairwise (fun a b=>a≠b) ((mNd (D b) m).map (putN D n x b)):=by
   rw [List.pairwise_map]
   refine List.Pairwise.imp_of_mem (R:=fun a b=>a<b) (fun {i k} hi hk hik e=>?_) (mNd_rise (D b) m)
   have a1:=mNd_in hi
   have a2:=mNd_in hk
   have:=putN_less hE hb hx a1.1 a1.2 a2.1 a2.2 hik
   omega
  have hn2:=hpp.symm.pairwise hnd fun {a b} h e=>h e.symm
  refine ⟨((srt_ints _).and hn2).imp fun h=>by omega,?_,fun z=>?_⟩
  ·rw [hpp.length_eq,List.length_map]
   exact Nat.le_trans (selTo_len _ _) hd2
  ·rw [hpp.mem_iff,List.mem_map]
   constructor
   ·rintro ⟨k,hk,rfl⟩
    exact ⟨b,h,k,by rw [hme2];exact hk,rfl⟩
   ·rintro ⟨b',h',k,hk,rfl⟩
    have:b'=b:=by omega
    subst this
    rw [hme2] at hk
    exact ⟨k,hk,rfl⟩
theorem nds_len (hR:AllR D n) (hE:(allErr D n).2.2=0) {x:Nat} (hx:x<prodN D n):(ndsX D n x).length≤12:=by
 have:=(nds_told hR hE hx).2.1
 rw [List.length_mergeSort] at this
 exact this
theorem nds_in (hR:AllR D n) (hE:(allErr D n).2.2=0) {x:Nat} (hx:x<prodN D n):∀ z∈ndsX D n x,∃ y:Nat,z=(y:Int)∧y<prodN D n:=by
 intro z hz
 have hP:=placeL_in (D:=D) (n:=n) (x:=x) hE
 rcases by_in D (placeL D n x) n with h | ⟨b,h,hb⟩
 ·rw [nds_leaf (by omega)] at hz;cases hz
 ·have hp0:=hP.lo b hb
  have hp1:=hP.hi b hb
  have hm:((placeL D n x).getD b 0).toNat<(D b).n:=by omega
  rw [nds_by h,List.mem_map] at hz
  obtain ⟨k,hk,rfl⟩:=hz
  have hk2:=mNd_in ((neW_mem (hR b hb) hm k).1 hk)
  obtain ⟨y,e1,e2,-⟩:=putN_at hE hb hx hk2.1 hk2.2
  exact ⟨y,e1,e2⟩
noncomputable def tlV (D:Nat→Dm) (n:Nat) (L:List (Int×Int)) (x:Nat):Int×Int:=if byTo D (placeL D n x) n<0 then L.getD x noC else oneV (D (byTo D (placeL D n x) n).toNat) (fun k=>L.getD (putN D n x (byTo D (placeL D n x) n).toNat k).toNat noC) ((placeL D n x).getD (byTo D (placeL D n x) n).toNat 0).toNat
theorem tl_leaf {L:List (Int×Int)} {x:Nat} (h:byTo D (placeL D n x) n<0):tlV D n L x=L.getD x noC:=by unfold tlV;rw [if_pos h]
theorem tl_by {L:List (Int×Int)} {x b:Nat} (h:byTo D (placeL D n x) n=(b:Int)):tlV D n L x=oneV (D b) (fun k=>L.getD (putN D n x b k).toNat noC) ((placeL D n x).getD b 0).toNat:=by unfold tlV;rw [h,if_neg (by omega),Int.toNat_natCast]
theorem tl_sol (hR:AllR D n) (hE:(allErr D n).2.2=0) {inp:List Int→Int×Int} {L:List (Int×Int)} {x:Nat} (hx:x<prodN D n) (h0:byTo D (placeL D n x) n<0→L.getD x noC=inp (placeL D n x)) (h1:∀ z∈ndsX D n x,L.getD z.toNat noC=solV D n inp (placeL D n z.toNat)):tlV D n L x=solV D n inp (placeL D n x):=by
 have hP:=placeL_in (D:=D) (n:=n) (x:=x) hE
 rcases by_in D (placeL D n x) n with h | ⟨b,h,hb⟩
 ·rw [tl_leaf (by omega),sol_leaf inp (by omega)]
  exact h0 (by omega)
 ·obtain ⟨hd,hme,-,-⟩:=rErr_right (hR b hb)
  have hp0:=hP.lo b hb
  have hp1:=hP.hi b hb
  have hm:((placeL D n x).getD b 0).toNat<(D b).n:=by omega
  rw [tl_by h,sol_by hR inp hP h]
  refine oneV_same hd (hme _ hm) fun k hk=>?_
  have hk2:=mNd_in hk
  obtain ⟨y,e1,e2,e3,-⟩:=putN_at hE hb hx hk2.1 hk2.2
  have h2:=h1 (putN D n x b k) (by rw [nds_by h,List.mem_map];exact ⟨k,(neW_mem (hR b hb) hm k).2 hk,rfl⟩)
  rw [h2,e1,Int.toNat_natCast,e3]
end
end Go.Proofs.YtmmpanbkmpdnkahGreatDoor
