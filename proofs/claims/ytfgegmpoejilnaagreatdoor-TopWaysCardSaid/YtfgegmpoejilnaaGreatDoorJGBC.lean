/-
  What comes of the cells of parts by their signs, and of a member by the cells of those that its way names, as package solve tells it (together, tell), in whatever memory.
-/
import Derived.Test.YtfgegmpoejilnaaGreatDoorJGAZ
import Derived.Test.YtfgegmpoejilnaaGreatDoorJGBB
namespace Go.Proofs.YtfgegmpoejilnaaGreatDoor
open Go.ChangeShapes Go.WideShapes Go.ChangeAt Go.RowKit
set_option maxRecDepth 20000
def togX (w:World):World:=(w.alloc (.cells #[.int .i64 0,.int .i64 0] 54)).alloc (.cells #[.int .i64 0,.int .i64 0] 54)
theorem togX_size (w:World):(togX w).heap.size=w.heap.size+2:=by unfold togX;simp
theorem togX_below (w:World):Below w.heap.size w (togX w):=by unfold togX;go_grown
theorem togX_0 (w:World):(togX w).heap[w.heap.size]?=some (.cells #[.int .i64 0,.int .i64 0] 54):=by
 unfold togX
 rw [heap_alloc_old _ _ (by simp)]
 exact heap_alloc_new ..
theorem togX_1 (w:World):(togX w).heap[w.heap.size+1]?=some (.cells #[.int .i64 0,.int .i64 0] 54):=by
 unfold togX
 exact topF1 ..
set_option maxHeartbeats 8000000 in
theorem together_any (d:Dm) (AP:Option Addr) (cP:Nat) (P:List Int) (AC:Option Addr) (cC:Nat) (L:List (Int×Int)) (at':Int→Int×Int) (w:World) (hP12:P.length≤12) (hIn:∀ k∈P,∃ j:Nat,k=j∧j<d.n∧(d.mem j).sign≠0) (hSg:Sg d.mem d.n) (hL:L=P.map at') (hG:∀ k∈P,goodC (at' k)) (hP:IntsAt w AP cP (P.map (sgnI d))) (hC:CelV w AC cC L) :
  Calls Tryz.prog 90 #[.slice AP P.length cP,.slice AC P.length cC] w fun e w'=>e=.returned (.tuple #[.agg #[.int .i64 (partsV d.mem at' P).1,.int .i64 (partsV d.mem at' P).2],.nilIface])∧Below w.heap.size w w':=by
 have HIn:Hid (∀ k∈P,∃ j:Nat,k=j∧j<d.n∧(d.mem j).sign≠0):=hIn
 have HSg:Hid (Sg d.mem d.n):=hSg
 have HG:Hid (∀ k∈P,goodC (at' k)):=hG
 have HP:Hid (IntsAt w AP cP (P.map (sgnI d))):=hP
 have HC:Hid (CelV w AC cC L):=hC
 have HL:Hid (L=P.map at'):=hL
 have HB0:Hid (Below w.heap.size w (togX w)):=togX_below ..
 have HW0:Hid ((togX w).heap[w.heap.size]?=some (.cells #[.int .i64 0,.int .i64 0] 54)∧(togX w).heap.size=w.heap.size+2):=⟨togX_0 ..,togX_size ..⟩
 have HFin:Hid ((P.take P.length).foldl (partStep d.mem at') (0,0)=partsV d.mem at' P):=by show _=_;rw [List.take_length];rfl
 obtain ⟨N,hN⟩:∃ N,P.length=N:=⟨_,rfl⟩
 have HN:Hid (P.length=N):=hN
 rw [hN] at HFin hP12 ⊢
 generalize partsV d.mem at' P=V at HFin
 have hN':(N:Int)≤12:=by omega
 clear hIn hSg hG hP hC hN hL
 go_enter Tryz.func90,Tryz.ntmps90
 go_wp2_with fail
 go_loopg [7,13] N (fun g s7 s13 wr => ∃ (k:Nat) (a b:Int),k≤N∧g=N-k∧s13=.int .i64 k∧s7=.nilIface∧Hid ((P.take k).foldl (partStep d.mem at') (0,0)=(a,b))∧Hid (wr.heap[w.heap.size+1]?=some (.cells #[.int .i64 a,.int .i64 b] 54))∧Hid ((togX w).grownBy wr (some (w.heap.size+1))))
 case atStart=>exact ⟨0,0,0,Nat.zero_le _,rfl,rfl,rfl,(rfl:(P.take 0).foldl (partStep d.mem at') (0,0)=(0,0)),togX_1 w,(grown_refl _ _:(togX w).grownBy (togX w) (some (w.heap.size+1)))⟩
 case round =>
  obtain ⟨k,a,b,hk,rfl,rfl,rfl,HF,HCc,HGr⟩:=hrel
  have hB:Below w.heap.size w wr:=HB0.out.grown HGr.out (by rw [HW0.out.2];omega) (fun j hj=>by cases hj;omega)
  have HBw:Hid (Below w.heap.size w wr):=hB
  have hzr:w.heap.size+1<wr.heap.size:=by have:=HGr.out.size;rw [HW0.out.2] at this;omega
  by_cases hlt:k<N
  ·have hkP:k<P.length:=by rw [HN.out];exact hlt
   have hki:(k:Int)<(N:Int):=by omega
   have hmem:P.getD k 0∈P:=by rw [List.getD_eq_getElem?_getD,List.getElem?_eq_getElem hkP];exact List.getElem_mem hkP
   obtain ⟨hcP,h0 | ⟨bp,rfl,hbp,hcell⟩⟩:=HP.out.later hB
   ·have h1:(P.map (sgnI d)).length=N:=by rw [List.length_map];exact HN.out
    rw [h0] at h1;simp at h1;omega
   rw [List.length_map,HN.out] at hcP
   have cP1:=hcell k (by rw [List.length_map];exact hkP)
   have hLl:L.length=N:=by rw [HL.out,List.length_map];exact HN.out
   obtain ⟨hcL,-,h0 | ⟨bc,oc,rfl,hCat⟩⟩:=HC.out.later hB
   ·rw [h0] at hLl;simp at hLl;omega
   obtain ⟨x0,x1⟩:=hCat.2 k (by omega)
   have hbcl:bc<wr.heap.size:=hCat.1
   have hLk:L.getD k noC=at' (P.getD k 0):=by
    rw [HL.out,List.getD_eq_getElem?_getD,List.getElem?_map,List.getD_eq_getElem?_getD,List.getElem?_eq_getElem hkP]
    rfl
   have hSk:(P.map (sgnI d)).getD k 0=sgnI d (P.getD k 0):=by
    rw [List.getD_eq_getElem?_getD,List.getElem?_map,List.getD_eq_getElem?_getD,List.getElem?_eq_getElem hkP]
    rfl
   rw [hLl] at hcL
   rw [hLk] at x0 x1
   obtain ⟨j,hj,hjn,hjs⟩:=HIn.out _ hmem
   have hgd:=HG.out _ hmem
   have HSt:=take_part (M:=d.mem) (at':=at') hkP
   rw [HF.out] at HSt
   rw [hSk,hj,show sgnI d (j:Int)=(d.mem j).sign by unfold sgnI;rw [Int.toNat_natCast]] at cP1
   rw [hj] at HSt hgd x0 x1
   have hgab:goodC (a,b):=by rw [←HF.out];exact good_fold _ _ _ _ good_zero
   unfold partStep at HSt
   rw [show ((j:Int)).toNat=j by omega] at HSt
   simp only at HSt
   have hsg:=HSg.out j hjn
   obtain ⟨s0,s1,f0,f1⟩:=pair_at HCc.out
   have hADD:=fun w'=>add_yes a b (at' (j:Int)).1 (at' (j:Int)).2 hgab hgd w'
   have hSUB:=fun w'=>sub_yes a b (at' (j:Int)).1 (at' (j:Int)).2 hgab hgd w'
   generalize (at' (j:Int)).1=x at x0 HSt hADD hSUB
   generalize (at' (j:Int)).2=y at x1 HSt hADD hSUB
   generalize (d.mem j).sign=sg at cP1 HSt hsg hjs
   obtain ⟨v,hv⟩:∃ v,wr.alloc (.cells #[.int .i64 x,.int .i64 y] 54)=v:=⟨_,rfl⟩
   have hBv:Below wr.heap.size wr v:=by rw [←hv];go_grown
   have HBv:Hid (Below wr.heap.size wr v):=hBv
   obtain ⟨v0,v1,-,-⟩:=pair_at (show v.heap[wr.heap.size]?=some (.cells #[.int .i64 x,.int .i64 y] 54 (0,0)) from by rw [←hv];exact heap_alloc_new ..)
   have hvs:wr.heap.size<v.heap.size:=by rw [←hv];simp
   obtain ⟨t0,t1,-,-⟩:=pair_at ((hBv.block _ hzr).trans HCc.out)
   have cv1:=(hBv.cell (p:=⟨bp,k,none⟩) hbp).trans cP1
   have HKeep:Hid (∀ w',Below wr.heap.size wr w'→w'.cell? ⟨w.heap.size+1,0,none⟩=some (.int .i64 a)∧w'.cell? ⟨w.heap.size+1,1,none⟩=some (.int .i64 b)∧w'.frozen? ⟨w.heap.size+1,0,none⟩=false∧w'.frozen? ⟨w.heap.size+1,1,none⟩=false):=fun w' hw'=>pair_at ((hw'.block _ hzr).trans HCc.out)
   clear hB hj hgd hgab hmem hcell hCat hLk hLl hBv hSk
   by_cases hs1:sg=1
   ·subst hs1
    rw [if_pos rfl] at HSt
    obtain ⟨r1,hr1⟩:∃ r,plusP a b x y=r:=⟨_,rfl⟩
    obtain ⟨rk,rn⟩:=r1
    rw [hr1] at HSt hADD
    simp only at hADD
    have HNx:Hid ((P.take (k+1)).foldl (partStep d.mem at') (0,0)=(rk,rn)):=HSt
    have hadd:=hADD v
    clear hADD hSUB HSt hr1 hsg hjs
    go_wp2_with fail
    refine hadd.mono ?_
    rintro e w4 ⟨rfl,hb4⟩
    have hN4:=onB HBv.out hb4
    obtain ⟨n0,n1,n2,n3⟩:=HKeep.out _ hN4
    have HN4:Hid (Below wr.heap.size wr w4):=hN4
    have hz4:w.heap.size+1<w4.heap.size:=Nat.lt_of_lt_of_le hzr hN4.size
    clear hb4 hN4 hadd hv v0 v1 t0 t1 cv1
    go_wp2_with fail
    go_roundg (N-(k+1))
    case measure=>omega
    case rel=>exact ⟨k+1,rk,rn,by omega,rfl,by go_num,rfl,HNx,pair_set ((HN4.out.block _ hzr).trans HCc.out),pair_grown (grown_then HGr.out HN4.out)⟩
   ·have hs2:sg = -1:=by omega
    subst hs2
    rw [if_neg (by decide),if_pos rfl] at HSt
    obtain ⟨r1,hr1⟩:∃ r,minusP a b x y=r:=⟨_,rfl⟩
    obtain ⟨rk,rn⟩:=r1
    rw [hr1] at HSt hSUB
    simp only at hSUB
    have HNx:Hid ((P.take (k+1)).foldl (partStep d.mem at') (0,0)=(rk,rn)):=HSt
    have hadd:=hSUB v
    clear hADD hSUB HSt hr1 hsg hs1 hjs
    go_wp2_with fail
    refine hadd.mono ?_
    rintro e w4 ⟨rfl,hb4⟩
    have hN4:=onB HBv.out hb4
    obtain ⟨n0,n1,n2,n3⟩:=HKeep.out _ hN4
    have HN4:Hid (Below wr.heap.size wr w4):=hN4
    have hz4:w.heap.size+1<w4.heap.size:=Nat.lt_of_lt_of_le hzr hN4.size
    clear hb4 hN4 hadd hv v0 v1 t0 t1 cv1
    go_wp2_with fail
    go_roundg (N-(k+1))
    case measure=>omega
    case rel=>exact ⟨k+1,rk,rn,by omega,rfl,by go_num,rfl,HNx,pair_set ((HN4.out.block _ hzr).trans HCc.out),pair_grown (grown_then HGr.out HN4.out)⟩
  ·have hke:k=N:=by omega
   subst hke
   have HV:Hid (V=(a,b)):=by show _=_;rw [←HFin.out];exact HF.out
   obtain ⟨s0,s1,f0,f1⟩:=pair_at HCc.out
   have k1:wr.heap[w.heap.size]?=some (.cells #[.int .i64 0,.int .i64 0] 54):=(HGr.out.block w.heap.size (by rw [HW0.out.2];omega) (fun e=>by simp at e)).trans HW0.out.1
   obtain ⟨e0,e1,g0,g1⟩:=pair_at k1
   have hzz:w.heap.size<wr.heap.size:=by omega
   clear hB k1
   go_wp2_with fail
   refine bodyPost_ret (v:=.tuple #[.agg #[.int .i64 a,.int .i64 b],.nilIface]) (by simp [results,Tryz.results90,go_sem,e0,e1]) rfl ⟨by rw [HV.out],?_⟩
   exact (HBw.out.setCell (by simp) _).setCell (by simp) _
theorem ms_nm {w:World} {A:Option Addr} {c:Nat} {L:List (List UInt8)} (h:StrsV w A c L) (hl:L.length≤30):NmV w A c (L.map nmB):=by
 obtain ⟨h1,h2,h3⟩:=h
 refine ⟨by rw [List.length_map];exact h1,by rw [List.length_map];omega,h2,?_⟩
 rcases h3 with h3 | ⟨b,o,h3,h4,h5⟩
 ·exact Or.inl (by rw [h3];rfl)
 ·refine Or.inr ⟨b,o,h3,h4,fun j hj=>?_⟩
  rw [List.length_map] at hj
  rw [h5 j hj,List.getD_eq_getElem?_getD,List.getD_eq_getElem?_getD,List.getElem?_map,List.getElem?_eq_getElem hj]
  rfl
theorem part_sign {d:Dm} {m:Nat} (hf:(d.mem m).formula.size=0):∀ k∈mNd d m,∃ j:Nat,k=j∧j<d.n∧(d.mem j).sign≠0:=fun k hk=>by
 rw [←parts_need hf,List.mem_filter] at hk
 obtain ⟨j,h1,h2,-⟩:=selTo_mem k hk.1
 refine ⟨j,h1,h2,?_⟩
 have:=hk.2
 rw [h1] at this
 unfold sgB at this
 simpa using this
def telW (w:World) (x:WL):World:=(w.alloc (.cells #[.bool x.lf,.slice x.An x.nd.length x.cn,.slice x.As x.nm.length x.cs,.slice x.Ai x.ne.length x.ci,.slice x.Ag x.sg.length x.cg] 130)).alloc (.cells #[.int .i64 0,.int .i64 0] 54)
theorem telW_size (w:World) (x:WL):(telW w x).heap.size=w.heap.size+2:=by unfold telW;simp
theorem telW_below (w:World) (x:WL):Below w.heap.size w (telW w x):=by unfold telW;go_grown
theorem telW_0 (w:World) (x:WL):(telW w x).heap[w.heap.size]?=some (.cells #[.bool x.lf,.slice x.An x.nd.length x.cn,.slice x.As x.nm.length x.cs,.slice x.Ai x.ne.length x.ci,.slice x.Ag x.sg.length x.cg] 130 (0,0)):=by
 unfold telW
 rw [heap_alloc_old _ _ (by simp)]
 exact heap_alloc_new ..
theorem telW_1 (w:World) (x:WL):(telW w x).heap[w.heap.size+1]?=some (.cells #[.int .i64 0,.int .i64 0] 54):=by
 unfold telW
 exact topF1 ..
set_option maxHeartbeats 8000000 in
theorem tell_any (d:Dm) (m:Nat) (x:WL) (AC:Option Addr) (cC:Nat) (f:Int→Int×Int) (w:World) (hR:(rErr d).2=0) (hm:m<d.n) (hwo:WayOf d m x) (hW:WayT w x) (hok:∀ z∈mNd d m,goodC (f z)) (hC:CelV w AC cC (x.ne.map f)) :
  Calls Tryz.prog 58 #[wayV x,.slice AC x.ne.length cC] w fun e w'=>e=.returned (.tuple #[.agg #[.int .i64 (oneV d f m).1,.int .i64 (oneV d f m).2],.nilIface])∧Below w.heap.size w w':=by
 obtain ⟨hd,hme,-,-⟩:=rErr_right hR
 obtain ⟨-,-,hd2,-⟩:=dimErr_right hd
 have hB0:=telW_below w x
 have hSz:=telW_size w x
 have hk0:=telW_0 w x
 have hk1:=telW_1 w x
 obtain ⟨W,hWe⟩:∃ W,telW w x=W:=⟨_,rfl⟩
 rw [hWe] at hB0 hSz hk0 hk1
 unfold telW at hWe
 unfold wayV
 have HB0:Hid (Below w.heap.size w W):=hB0
 have HRs:Hid (W.heap[w.heap.size+1]?=some (.cells #[.int .i64 0,.int .i64 0] 54)):=hk1
 have hl0:w.heap.size<W.heap.size:=by omega
 have hl1:w.heap.size+1<W.heap.size:=by omega
 have x1:W.cell? ⟨w.heap.size,1,none⟩=some (.slice x.An x.nd.length x.cn):=by simp [World.cell?,hk0]
 have x2:W.cell? ⟨w.heap.size,2,none⟩=some (.slice x.As x.nm.length x.cs):=by simp [World.cell?,hk0]
 have x4:W.cell? ⟨w.heap.size,4,none⟩=some (.slice x.Ag x.sg.length x.cg):=by simp [World.cell?,hk0]
 have hWW:=hW.later hB0
 have hCW:=hC.later hB0
 by_cases hf:(d.mem m).formula.size=0
 ·obtain ⟨-,e1,-,e3,e4⟩:=hwo.1 hf
  have htg:=together_any d x.Ag x.cg x.ne AC cC (x.ne.map f) f W (by rw [e3];exact Nat.le_trans (selTo_len _ _) hd2) (by rw [e3];exact part_sign hf) (Sg.of hd) rfl (by rw [e3];exact hok) (by rw [e3,←e4];exact hWW.2.2.2.at) hCW
  have hel:x.sg.length=x.ne.length:=by rw [e4,e3,List.length_map]
  rw [hel] at x4 hWe
  have hpv:partsV d.mem f x.ne=oneV d f m:=by rw [e3,parts_value hf]
  rw [hpv] at htg
  rw [e1] at x1 hWe ⊢
  rw [hel]
  simp only [List.length_nil] at x1 hWe ⊢
  obtain ⟨⟨ra,rb⟩,hRe⟩:∃ R,oneV d f m=R:=⟨_,rfl⟩
  have HRe:Hid (oneV d f m=(ra,rb)):=hRe
  rw [hRe] at htg
  simp only at htg
  generalize x.ne.length=nl at *
  generalize x.nm.length=ml at *
  clear hRe hf e1 e3 e4 hel hpv hW hwo hWW hCW hC hok hR hd hme hB0 hSz hk0 hk1
  go_enter Tryz.func58,Tryz.ntmps58
  go_wp2_with fail
  refine htg.mono ?_
  rintro e w4 ⟨rfl,hb4⟩
  have HB4:Hid (Below W.heap.size W w4):=hb4
  obtain ⟨e0,e1,g0,g1⟩:=pair_at ((hb4.block (w.heap.size+1) hl1).trans HRs.out)
  have hl4:w.heap.size+1<w4.heap.size:=Nat.lt_of_lt_of_le hl1 hb4.size
  clear hb4 htg x1 x2 x4 hWe
  go_wp2_with fail
  refine bodyPost_ret (v:=.tuple #[.agg #[.int .i64 ra,.int .i64 rb],.nilIface]) (by simp [results,Tryz.results58,go_sem,e0,e1]) rfl ⟨by rw [HRe.out],?_⟩
  exact ((onB HB0.out HB4.out).setCell (by simp) _).setCell (by simp) _
 ·obtain ⟨-,e1,e2,e3,e4⟩:=hwo.2 hf
  have hpe:=mErr_prsE hf (hme m hm)
  have hfe:=form_read hpe
  have hrl:=refs_len hfe
  obtain ⟨v1,v2⟩:=form_value hd hf (hme m hm) f hok
  have hpos:=(form_right hfe).1
  rw [←e2] at hrl
  have hvl:=value_any x.An x.cn x.nd x.As x.cs (x.nm.map nmB) AC cC (x.ne.map f) W hWW.1.1 (ms_nm hWW.2.1.1 hrl) hCW
  have q1:valE x.nd (x.nm.map nmB) (x.ne.map f)=0:=by rw [e1,e2,e3];exact v1
  have q2:valC x.nd (x.nm.map nmB) (x.ne.map f)=oneV d f m:=by rw [e1,e2,e3];exact v2
  rw [q1,q2,errV_zero,List.length_map,List.length_map] at hvl
  have hposI:0<(x.nd.length:Int):=by rw [e1];omega
  obtain ⟨⟨ra,rb⟩,hRe⟩:∃ R,oneV d f m=R:=⟨_,rfl⟩
  have HRe:Hid (oneV d f m=(ra,rb)):=hRe
  rw [hRe] at hvl
  simp only at hvl
  generalize x.ne.length=xl at *
  generalize x.sg.length=sl at *
  generalize x.nd.length=nl at *
  generalize x.nm.length=ml at *
  clear hRe hf e1 e2 e3 e4 hpe hfe hrl v1 v2 hpos q1 q2 hW hwo hWW hCW hC hok hR hd hme hB0 hSz hk0 hk1
  obtain ⟨nk,rfl⟩:∃ nk,nl=nk+1:=⟨nl-1,by omega⟩
  clear hposI
  go_enter Tryz.func58,Tryz.ntmps58
  go_wp2_with fail
  refine hvl.mono ?_
  rintro e w4 ⟨rfl,hb4⟩
  have HB4:Hid (Below W.heap.size W w4):=hb4
  obtain ⟨e0,e1,g0,g1⟩:=pair_at ((hb4.block (w.heap.size+1) hl1).trans HRs.out)
  have hl4:w.heap.size+1<w4.heap.size:=Nat.lt_of_lt_of_le hl1 hb4.size
  clear hb4 hvl x1 x2 x4 hWe
  go_wp2_with fail
  refine bodyPost_ret (v:=.tuple #[.agg #[.int .i64 ra,.int .i64 rb],.nilIface]) (by simp [results,Tryz.results58,go_sem,e0,e1]) rfl ⟨by rw [HRe.out],?_⟩
  exact ((onB HB0.out HB4.out).setCell (by simp) _).setCell (by simp) _
noncomputable def neW (d:Dm) (m:Nat):List Int:=if (d.mem m).formula.size=0 then mNd d m else (refsP (prsL (d.mem m).formula)).map (whL d)
theorem way_ne {d:Dm} {m:Nat} {x:WL} (h:WayOf d m x):x.ne=neW d m:=by
 unfold neW
 by_cases hf:(d.mem m).formula.size=0
 ·rw [if_pos hf];exact (h.1 hf).2.2.2.1
 ·rw [if_neg hf];exact (h.2 hf).2.2.2.1
theorem neW_sort {d:Dm} (hR:(rErr d).2=0) {m:Nat} (hm:m<d.n):((neW d m).mergeSort fun x y=>decide (x≤y))=mNd d m:=by
 obtain ⟨hd,hme,-,-⟩:=rErr_right hR
 unfold neW
 by_cases hf:(d.mem m).formula.size=0
 ·rw [if_pos hf]
  exact rise_eq _ _ (by
   have hnd:List.Pairwise (fun a b=>a≠b) ((mNd d m).mergeSort fun x y=>decide (x≤y)):=(List.mergeSort_perm _ _).symm.pairwise ((mNd_rise d m).imp fun h=>by omega) fun {a b} h e=>h e.symm
   exact ((srt_ints _).and hnd).imp fun h=>by omega) (mNd_rise d m) fun z=>(List.mergeSort_perm _ _).mem_iff
 ·rw [if_neg hf]
  exact sort_need hd hf (hme m hm) (mErr_prsE hf (hme m hm))
theorem neW_perm {d:Dm} (hR:(rErr d).2=0) {m:Nat} (hm:m<d.n):(neW d m).Perm (mNd d m):=by
 rw [←neW_sort hR hm]
 exact (List.mergeSort_perm _ _).symm
theorem neW_mem {d:Dm} (hR:(rErr d).2=0) {m:Nat} (hm:m<d.n) (z:Int):z∈neW d m↔z∈mNd d m:=(neW_perm hR hm).mem_iff
section
variable {D:Nat→Dm} {n:Nat}
theorem set_num (hE:(allErr D n).2.2=0) {x b j:Nat} (hb:b<n) (hx:x<prodN D n) (hj:j<(D b).n):∃ y:Nat,(x:Int)+((j:Int)-(x / stepD D n b % (D b).n:Nat))*(stepD D n b:Int)=y∧y<prodN D n∧placeL D n y=(placeL D n x).set b j:=by
 obtain ⟨-,-,-,hd⟩:=allErr_some hE
 obtain ⟨y,h1,h2,h3,h4⟩:=part_place (D:=D) (n:=n) (dim:=b) (x:=x) (j:=j) (fun i hi=>(hd i hi).1) hb hx rfl hj
 refine ⟨y,h1,h2,?_⟩
 apply List.ext_getElem?
 intro i
 by_cases hi:i<n
 ·rw [List.getElem?_set]
  simp only [placeL_len,hb,if_true]
  by_cases e:b=i
  ·subst e
   rw [if_pos rfl]
   have:digitAt D n y b=j:=by rw [digit_step hb];exact h3
   simp [placeL,hi,this]
  ·rw [if_neg e]
   have:=h4 i hi (fun h=>e h.symm)
   simp [placeL,hi,this]
 ·rw [List.getElem?_eq_none (by rw [placeL_len];omega),List.getElem?_eq_none (by rw [List.length_set,placeL_len];omega)]
def putN (D:Nat→Dm) (n x b:Nat) (k:Int):Int:=numI D ((placeL D n x).set b k) n
theorem putN_at (hE:(allErr D n).2.2=0) {x b:Nat} (hb:b<n) (hx:x<prodN D n) {k:Int} (h0:0≤k) (h1:k<((D b).n:Int)):∃ y:Nat,putN D n x b k=(y:Int)∧y<prodN D n∧placeL D n y=(placeL D n x).set b k∧(x:Int)+(k-(x / stepD D n b % (D b).n:Nat))*(stepD D n b:Int)=y:=by
 obtain ⟨y,e1,e2,e3⟩:=set_num hE hb hx (j:=k.toNat) (by omega)
 rw [Int.toNat_of_nonneg h0] at e1 e3
 exact ⟨y,by unfold putN;rw [←e3];exact num_place hE e2,e2,e3,e1⟩
theorem putN_less (hE:(allErr D n).2.2=0) {x b:Nat} (hb:b<n) (hx:x<prodN D n) {i k:Int} (h0:0≤i) (h1:i<((D b).n:Int)) (h2:0≤k) (h3:k<((D b).n:Int)) (h:i<k):putN D n x b i<putN D n x b k:=by
 obtain ⟨-,-,-,hd⟩:=allErr_some hE
 obtain ⟨y,e1,-,-,e2⟩:=putN_at hE hb hx h0 h1
 obtain ⟨z,f1,-,-,f2⟩:=putN_at hE hb hx h2 h3
 have hS:=stepD_pos (D:=D) (n:=n) (fun i hi=>(hd i hi).1) hb
 rw [e1,f1,←e2,←f2]
 have hm:(i-((x / stepD D n b % (D b).n:Nat):Int))*(stepD D n b:Int)<(k-((x / stepD D n b % (D b).n:Nat):Int))*(stepD D n b:Int):=Int.mul_lt_mul_of_pos_right (by omega) (by omega)
 omega
noncomputable def ndsX (D:Nat→Dm) (n x:Nat):List Int:=if byTo D (placeL D n x) n<0 then [] else (neW (D (byTo D (placeL D n x) n).toNat) ((placeL D n x).getD (byTo D (placeL D n x) n).toNat 0).toNat).map (putN D n x (byTo D (placeL D n x) n).toNat)
theorem nds_leaf {x:Nat} (h:byTo D (placeL D n x) n<0):ndsX D n x=[]:=by unfold ndsX;rw [if_pos h]
theorem nds_by {x b:Nat} (h:byTo D (placeL D n x) n=(b:Int)):ndsX D n x=(neW (D b) ((placeL D n x).getD b 0).toNat).map (putN D n x b):=by unfold ndsX;rw [h,if_neg (by omega),Int.toNat_natCast]
theorem nds_told (hR:AllR D n) (hE:(allErr D n).2.2=0) {x:Nat} (hx:x<prodN D n):ToldP D n (placeL D n x) ((ndsX D n x).mergeSort fun a b=>decide (a≤b)):=by
 have hP:=placeL_in (D:=D) (n:=n) (x:=x) hE
 rcases by_in D (placeL D n x) n with h | ⟨b,h,hb⟩
 ·rw [nds_leaf (by omega),List.mergeSort_nil]
  refine ⟨List.Pairwise.nil,Nat.zero_le _,fun z=>⟨fun hz=>absurd hz (by simp),?_⟩⟩
  rintro ⟨b,hb,-⟩
  omega
 ·obtain ⟨hd,hme,-,-⟩:=rErr_right (hR b hb)
  obtain ⟨-,-,hd2,-⟩:=dimErr_right hd
  have hp0:=hP.lo b hb
  have hp1:=hP.hi b hb
  have hm:((placeL D n x).getD b 0).toNat<(D b).n:=by omega
  rw [nds_by h]
  obtain ⟨m,hme2⟩:∃ m,((placeL D n x).getD b 0).toNat=m:=⟨_,rfl⟩
  rw [hme2] at hm ⊢
  have hpm:=(neW_perm (hR b hb) hm).map (putN D n x b)
  have hpp:=(List.mergeSort_perm ((neW (D b) m).map (putN D n x b)) fun a b=>decide (a≤b)).trans hpm
  have hnd:List.Pairwise (fun a b=>a≠b) ((mNd (D b) m).map (putN D n x b)):=by
   rw [List.pairwise_map]
   refine List.Pairwise.imp_of_mem (R:=fun a b=>a<b) (fun {i k} hi hk hik e=>?_) (mNd_rise (D b) m)
   have a1:=mNd_in hi
   have a2:=mNd_in hk
   have:=putN_less hE hb hx a1.1 a1.2 a2.1 a2.2 hik
   omega
  have hn2:=hpp.symm.pairwise hnd fun {a b} h e=>h e.symm
  refine ⟨((srt_ints _).and hn2).imp fun h=>by omega,?_,fun z=>?_⟩
  ·rw [hpp.length_eq,List.length_map]
   exact Nat.le_trans (selTo_len _ _) hd2
  ·rw [hpp.mem_iff,List.mem_map]
   constructor
   ·rintro ⟨k,hk,rfl⟩
    exact ⟨b,h,k,by rw [hme2];exact hk,rfl⟩
   ·rintro ⟨b',h',k,hk,rfl⟩
    have:b'=b:=by omega
    subst this
    rw [hme2] at hk
    exact ⟨k,hk,rfl⟩
theorem nds_len (hR:AllR D n) (hE:(allErr D n).2.2=0) {x:Nat} (hx:x<prodN D n):(ndsX D n x).length≤12:=by
 have:=(nds_told hR hE hx).2.1
 rw [List.length_mergeSort] at this
 exact this
theorem nds_in (hR:AllR D n) (hE:(allErr D n).2.2=0) {x:Nat} (hx:x<prodN D n):∀ z∈ndsX D n x,∃ y:Nat,z=(y:Int)∧y<prodN D n:=by
 intro z hz
 have hP:=placeL_in (D:=D) (n:=n) (x:=x) hE
 rcases by_in D (placeL D n x) n with h | ⟨b,h,hb⟩
 ·rw [nds_leaf (by omega)] at hz;cases hz
 ·have hp0:=hP.lo b hb
  have hp1:=hP.hi b hb
  have hm:((placeL D n x).getD b 0).toNat<(D b).n:=by omega
  rw [nds_by h,List.mem_map] at hz
  obtain ⟨k,hk,rfl⟩:=hz
  have hk2:=mNd_in ((neW_mem (hR b hb) hm k).1 hk)
  obtain ⟨y,e1,e2,-⟩:=putN_at hE hb hx hk2.1 hk2.2
  exact ⟨y,e1,e2⟩
noncomputable def tlV (D:Nat→Dm) (n:Nat) (L:List (Int×Int)) (x:Nat):Int×Int:=if byTo D (placeL D n x) n<0 then L.getD x noC else oneV (D (byTo D (placeL D n x) n).toNat) (fun k=>L.getD (putN D n x (byTo D (placeL D n x) n).toNat k).toNat noC) ((placeL D n x).getD (byTo D (placeL D n x) n).toNat 0).toNat
theorem tl_leaf {L:List (Int×Int)} {x:Nat} (h:byTo D (placeL D n x) n<0):tlV D n L x=L.getD x noC:=by unfold tlV;rw [if_pos h]
theorem tl_by {L:List (Int×Int)} {x b:Nat} (h:byTo D (placeL D n x) n=(b:Int)):tlV D n L x=oneV (D b) (fun k=>L.getD (putN D n x b k).toNat noC) ((placeL D n x).getD b 0).toNat:=by unfold tlV;rw [h,if_neg (by omega),Int.toNat_natCast]
theorem tl_sol (hR:AllR D n) (hE:(allErr D n).2.2=0) {inp:List Int→Int×Int} {L:List (Int×Int)} {x:Nat} (hx:x<prodN D n) (h0:byTo D (placeL D n x) n<0→L.getD x noC=inp (placeL D n x)) (h1:∀ z∈ndsX D n x,L.getD z.toNat noC=solV D n inp (placeL D n z.toNat)):tlV D n L x=solV D n inp (placeL D n x):=by
 have hP:=placeL_in (D:=D) (n:=n) (x:=x) hE
 rcases by_in D (placeL D n x) n with h | ⟨b,h,hb⟩
 ·rw [tl_leaf (by omega),sol_leaf inp (by omega)]
  exact h0 (by omega)
 ·obtain ⟨hd,hme,-,-⟩:=rErr_right (hR b hb)
  have hp0:=hP.lo b hb
  have hp1:=hP.hi b hb
  have hm:((placeL D n x).getD b 0).toNat<(D b).n:=by omega
  rw [tl_by h,sol_by hR inp hP h]
  refine oneV_same hd (hme _ hm) fun k hk=>?_
  have hk2:=mNd_in hk
  obtain ⟨y,e1,e2,e3,-⟩:=putN_at hE hb hx hk2.1 hk2.2
  have h2:=h1 (putN D n x b k) (by rw [nds_by h,List.mem_map];exact ⟨k,(neW_mem (hR b hb) hm k).2 hk,rfl⟩)
  rw [h2,e1,Int.toNat_natCast,e3]
end
end Go.Proofs.YtfgegmpoejilnaaGreatDoor
namespace Go.Proofs.YtfgegmpoejilnaaGreatDoor
open Go.ChangeShapes Go.WideShapes Go.ChangeAt Go.RowKit
open Go.Sort (putRow Holds grow holds_putRow)
set_option maxRecDepth 20000
theorem map_snocI (f:Int→Int) (P:List Int) {k:Nat} (h:k<P.length):(P.take (k+1)).map f=(P.take k).map f ++ [f (P.getD k 0)]:=by
 rw [List.take_succ_eq_append_getElem h,List.map_append,List.getD_eq_getElem?_getD,List.getElem?_eq_getElem h]
 rfl
theorem map_snoc (f:Int→Int×Int) (P:List Int) {k:Nat} (h:k<P.length):(P.take (k+1)).map f=(P.take k).map f ++ [f (P.getD k 0)]:=by
 rw [List.take_succ_eq_append_getElem h,List.map_append,List.getD_eq_getElem?_getD,List.getElem?_eq_getElem h]
 rfl
theorem getD_memI {P:List Int} {k:Nat} (h:k<P.length):P.getD k 0∈P:=by
 rw [List.getD_eq_getElem?_getD,List.getElem?_eq_getElem h]
 exact List.getElem_mem h
set_option maxHeartbeats 8000000 in
theorem needs_any (q g n:Nat) (D:Nat→Dm) (X:Nat→AL) (x:Nat) (w:World) (hR:AllR D n) (hE:(allErr D n).2.2=0) (hx:x<prodN D n) (hA:PlanV w q g n D X) :
  Calls Tryz.prog 56 #[.pointer (some ⟨q,0,none⟩),.int .i64 x] w fun e w'=>(∃ v,e=.returned v∧w'.ownsRow w.heap.size 3 1 v (ndsX D n x).length (mapI (ndsX D n x)))∧Below w.heap.size w w':=by
 obtain ⟨i0,hi0,hz0,hz1,hz2⟩:=info_parts Tryz.infoInt
 obtain ⟨hn1,hn4,hp3,hd⟩:=allErr_some hE
 have hby:=by_any2 q g n D X x w hE hx hA
 have HA:Hid (PlanV w q g n D X):=hA
 obtain ⟨hq,q0,q1⟩:=hA.cells
 have hnI:(n:Int)≤4:=by omega
 have hxI:(x:Int)≤3000:=by omega
 have hP:=placeL_in (D:=D) (n:=n) (x:=x) hE
 rcases by_in D (placeL D n x) n with h | ⟨b,h,hb⟩
 ·have HNl:Hid (ndsX D n x=[]):=nds_leaf (by omega)
  rw [h] at hby
  clear hA hE hR hP h q0 q1
  go_enter Tryz.func56,Tryz.ntmps56
  go_wp2_with fail
  refine hby.mono ?_
  rintro e w1 ⟨rfl,hb1⟩
  have HB1:Hid (Below w.heap.size w w1):=hb1
  clear hb1 hby
  go_wp2_with fail
  go_ret
  rw [HNl.out]
  exact ⟨⟨_,rfl,World.ownsRow_nil _ _ _ _⟩,HB1.out⟩
 ·obtain ⟨hd1,hd12⟩:=hd b hb
  have hp0:=hP.lo b hb
  have hp1:=hP.hi b hb
  obtain ⟨m,hm⟩:∃ m,x / stepD D n b % (D b).n=m:=⟨_,rfl⟩
  have hpm:((placeL D n x).getD b 0).toNat=m:=by rw [digit_at hb,hm]
  have hmn:m<(D b).n:=by rw [←hm];exact Nat.mod_lt _ hd1
  have HNd:Hid (ndsX D n x=(neW (D b) m).map (putN D n x b)):=by show _=_;rw [nds_by h,hpm]
  have hlen:(neW (D b) m).length≤12:=by
   have:=nds_len hR hE hx
   rw [HNd.out,List.length_map] at this
   exact this
  have HNum:Hid (∀ k∈neW (D b) m,∃ j y:Nat,k=(j:Int)∧j<(D b).n∧putN D n x b k=(y:Int)∧y<prodN D n∧(x:Int)+((j:Int)-(m:Int))*(stepD D n b:Int)=y):=fun k hk=>by
   have hk2:=mNd_in ((neW_mem (hR b hb) hmn k).1 hk)
   obtain ⟨y,e1,e2,-,e4⟩:=putN_at hE hb hx hk2.1 hk2.2
   rw [hm] at e4
   exact ⟨k.toNat,y,by omega,by omega,e1,e2,by rw [Int.toNat_of_nonneg hk2.1];exact e4⟩
  have hSp:=stepD_pos (D:=D) (n:=n) (fun i hi=>(hd i hi).1) hb
  obtain ⟨S,hSd⟩:∃ S,stepD D n b=S:=⟨_,rfl⟩
  have HMb:Hid (∀ w',Calls Tryz.prog 88 #[.agg #[.int .i64 (D b).solve,.int .i64 S,.slice (X b).A (D b).n (X b).c],.int .i64 x] w' fun e w''=>e=.returned (.int .i64 m)∧Below w'.heap.size w' w''):=fun w'=>member_any2 (D b) S (X b) x m w' (by rw [←hSd];exact hSp) hd1 hd12 (by omega) (by rw [←hSd];exact hm)
  have HWy:Hid (∀ w',Below w.heap.size w w'→Calls Tryz.prog 57 #[.agg #[.int .i64 (D b).solve,.int .i64 S,.slice (X b).A (D b).n (X b).c],.int .i64 x] w' fun e w''=>e=.returned (wayV ((X b).xs.getD m noW))∧Below w'.heap.size w' w''):=fun w' hB=>way_any (D b) S (X b) x m w' (by rw [←hSd];exact hSp) hd1 hd12 (by omega) (by rw [←hSd];exact hm) ((hA.later hB).2.one hb).2.2
  have HNe:Hid (∀ w',Below w.heap.size w w'→IntT w' ((X b).xs.getD m noW).Ai ((X b).xs.getD m noW).ci (neW (D b) m)):=fun w' hB=>by
   obtain ⟨-,-,hOne⟩:=(hA.later hB).2.one hb
   obtain ⟨-,-,-,-,-,hWt⟩:=hOne.way hmn
   have:=hWt.2.2.1
   rw [way_ne (hOne.2.2 m hmn)] at this
   exact this
  have hfl:∀ w',(Instr.field 130 (wayV ((X b).xs.getD m noW)) 3).run Tryz.prog w'=.ok (.slice ((X b).xs.getD m noW).Ai (neW (D b) m).length ((X b).xs.getD m noW).ci) w':=fun w'=>by
   obtain ⟨-,-,hOne⟩:=hA.2.one hb
   rw [field_way3,way_ne (hOne.2.2 m hmn)]
  have HCp:Hid (∀ w',Below w.heap.size w w'→q<w'.heap.size∧g<w'.heap.size∧w'.cell? ⟨q,0,none⟩=some (.slice (some ⟨g,0,none⟩) n n)∧w'.cell? ⟨g,b*3,none⟩=some (.int .i64 (D b).solve)∧w'.cell? ⟨g,b*3+1,none⟩=some (.int .i64 S)∧w'.cell? ⟨g,b*3+2,none⟩=some (.slice (X b).A (D b).n (X b).c)):=fun w' hB=>by
   obtain ⟨a1,a2,-⟩:=(hA.later hB).cells
   obtain ⟨hg,⟨c0,c1,c2⟩,-⟩:=(hA.later hB).2.one hb
   rw [hSd] at c1
   exact ⟨a1,hg,a2,c0,c1,c2⟩
  obtain ⟨P,hPn⟩:∃ P,neW (D b) m=P:=⟨_,rfl⟩
  obtain ⟨f,hf⟩:∃ f,putN D n x b=f:=⟨_,rfl⟩
  obtain ⟨z,hz⟩:∃ z,(X b).xs.getD m noW=z:=⟨_,rfl⟩
  rw [hPn] at HNd hlen HNum HNe hfl
  rw [hf] at HNd HNum
  rw [hz] at HWy HNe hfl
  rw [hSd] at HNum
  obtain ⟨N,hN⟩:∃ N,P.length=N:=⟨_,rfl⟩
  have HN:Hid (P.length=N):=hN
  rw [hN] at hlen hfl
  have hNI:(N:Int)≤12:=by omega
  have hbI:(b:Int)<(n:Int):=by omega
  have hb0:((b:Int) == -1)=false:=by simp
  have hmI:(m:Int)<12:=by omega
  have HX3:Hid (prodN D n≤3000):=hp3
  have HDn:Hid ((D b).n≤12):=hd12
  rw [h] at hby
  obtain ⟨ai,hai⟩:∃ ai,z.Ai=ai:=⟨_,rfl⟩
  obtain ⟨ci,hci⟩:∃ ci,z.ci=ci:=⟨_,rfl⟩
  rw [hai,hci] at HNe hfl
  generalize wayV z=wv at hfl HWy
  clear hA hE hR hP h hp0 hp1 hm hpm hmn hSd hPn hf hz hN hd q0 q1 hd12 hd1 hai hci
  go_enter Tryz.func56,Tryz.ntmps56
  go_wp2_with fail
  refine hby.mono ?_
  rintro e w1 ⟨rfl,hb1⟩
  have HB1:Hid (Below w.heap.size w w1):=hb1
  obtain ⟨hq1,hg1,a0,a1,a2,a3⟩:=HCp.out w1 hb1
  obtain ⟨v,hv⟩:∃ v,w1.alloc (.cells #[.int .i64 (D b).solve,.int .i64 S,.slice (X b).A (D b).n (X b).c] 116)=v:=⟨_,rfl⟩
  have hvb:v.heap[w1.heap.size]?=some (.cells #[.int .i64 (D b).solve,.int .i64 S,.slice (X b).A (D b).n (X b).c] 116 (0,0)):=by rw [←hv];exact heap_alloc_new ..
  have HVb:Hid (v.heap[w1.heap.size]?=some (.cells #[.int .i64 (D b).solve,.int .i64 S,.slice (X b).A (D b).n (X b).c] 116 (0,0))):=hvb
  have hBv:Below w1.heap.size w1 v:=by rw [←hv];go_grown
  have HBv:Hid (Below w.heap.size w v):=onB hb1 hBv
  have v0:v.cell? ⟨w1.heap.size,0,none⟩=some (.int .i64 (D b).solve):=by simp [World.cell?,hvb]
  have v1:v.cell? ⟨w1.heap.size,1,none⟩=some (.int .i64 S):=by simp [World.cell?,hvb]
  have v2:v.cell? ⟨w1.heap.size,2,none⟩=some (.slice (X b).A (D b).n (X b).c):=by simp [World.cell?,hvb]
  have hvs:w1.heap.size<v.heap.size:=(Array.getElem?_eq_some_iff.1 hvb).1
  have hwy:=HWy.out v HBv.out
  clear hb1 hby hvb hBv
  go_wp2_with fail
  refine hwy.mono ?_
  rintro e w2 ⟨rfl,hb2⟩
  have HB2:Hid (Below v.heap.size v w2):=hb2
  clear hb2 hwy v0 v1 v2 hv a0 a1 a2 a3
  go_wp2_with fail
  clear hfl
  go_loopg [7,27] N (fun gg s7 s27 wr => ∃ (k:Nat) (AO:Option Addr) (cO:Nat),k≤N∧gg=N-k∧s27=.int .i64 k∧s7=.slice AO k cO∧Hid (wr.ownsRow w2.heap.size 3 1 (.slice AO k cO) k (mapI ((P.take k).map f)))∧Hid (Below w2.heap.size w2 wr))
  case atStart=>exact ⟨0,none,0,Nat.zero_le _,rfl,rfl,rfl,World.ownsRow_nil _ _ _ _,Below.refl _ _⟩
  case round =>
   obtain ⟨k,AO,cO,hk,rfl,rfl,rfl,HO,HBw⟩:=hrel
   have HBwW:Hid (Below w.heap.size w wr):=onB HBv.out (onB HB2.out HBw.out)
   by_cases hlt:k<N
   ·have hki:(k:Int)<(N:Int):=by omega
    have hkP:k<P.length:=by rw [HN.out];exact hlt
    obtain ⟨j,y,hj,hjn,hy,hyN,hyE⟩:=HNum.out _ (getD_memI hkP)
    obtain ⟨hcI,-,h0 | ⟨bi,cs,fr,hAi,hbi,hcl⟩⟩:=HNe.out wr HBwW.out
    ·have:=HN.out;rw [h0] at this;simp at this;omega
    have cx:=hcl k hkP
    have hbil:bi<wr.heap.size:=(Array.getElem?_eq_some_iff.1 hbi).1
    rw [HN.out] at hcI
    rw [hj] at cx
    have hcII:(N:Int)≤(ci:Int):=by omega
    have HNx:Hid ((P.take (k+1)).map f=(P.take k).map f ++ [(y:Int)]):=by show _=_;rw [map_snocI f P hkP,hy]
    have hyI:(y:Int)≤3000:=by have:=HX3.out;omega
    obtain ⟨t1,ht1⟩:∃ t:Int,(j:Int)-(m:Int)=t:=⟨_,rfl⟩
    obtain ⟨t2,ht2⟩:∃ t:Int,t1*(S:Int)=t:=⟨_,rfl⟩
    rw [ht1,ht2] at hyE
    have hjI:(j:Int)≤3000:=by have:=HDn.out;omega
    have hw1:IntKind.i64.wrap ((j:Int)-(m:Int))=t1:=by rw [ht1];exact IntWalk.i64_in _ (by omega)
    have hw2:IntKind.i64.wrap (t1*(S:Int))=t2:=by rw [ht2];exact IntWalk.i64_in _ (by omega)
    have hw3:IntKind.i64.wrap ((x:Int)+t2)=(y:Int):=by rw [hyE];exact IntWalk.i64_in _ (by omega)
    have HC:Hid (∀ w',Below wr.heap.size wr w'→w'.cell? ⟨w1.heap.size,0,none⟩=some (.int .i64 (D b).solve)∧w'.cell? ⟨w1.heap.size,1,none⟩=some (.int .i64 S)∧w'.cell? ⟨w1.heap.size,2,none⟩=some (.slice (X b).A (D b).n (X b).c)):=fun w' h=>by
     have hbk:=((onB HB2.out (onB HBw.out h)).block w1.heap.size hvs).trans HVb.out
     exact ⟨by simp [World.cell?,hbk],by simp [World.cell?,hbk],by simp [World.cell?,hbk]⟩
    obtain ⟨p0,p1,p2⟩:=HC.out wr (Below.refl _ _)
    have hs7:=HBw.out.size
    have hs8:=HB2.out.size
    have hax:w1.heap.size<wr.heap.size:=by omega
    have HFin:Hid (∀ (w4 w6:World) (o':Obj) (A6:Option Addr) (c6:Nat),Below wr.heap.size wr w4→w6.ownsRow w2.heap.size 3 1 (.slice A6 (k+1) c6) (k+1) (mapI ((P.take k).map f) ++ [.int .i64 (y:Int)])→(w4.alloc o').grownBy w6 (Value.slice AO k cO).ownBlock→Hid (w6.ownsRow w2.heap.size 3 1 (.slice A6 (k+1) c6) (k+1) (mapI ((P.take (k+1)).map f)))∧Hid (Below w2.heap.size w2 w6)):=fun w4 w6 o' A6 c6 h4 h6 hg=>by
     refine ⟨?_,grown_own (onB HBw.out h4) (own_later HO.out h4) hg⟩
     show World.ownsRow ..
     rw [HNx.out,mapI_snoc]
     exact h6
    clear hcl hbi hj hy hyE ht1 ht2 hyN hjn
    subst hAi
    go_wp2_with fail
    go_region_law ((first
     | (refine step_append_lies _ (by rfl) _ _ _ (by rfl) w2.heap.size 3 i0 _ 1 8 Tryz.underlying38 hi0 hz0 hz1 hz2 rfl (by omega) (.slice AO k cO) k (mapI ((P.take k).map f)) (by rfl) (own_later HO.out (by go_grown)) ⟨w4.heap.size,0,none⟩ 1 1 [.int .i64 y] (by rfl) (by rfl) (World.news_of_block (cs := #[.int .i64 y]) (t:=3) (fr:=(0,0)) (heap_alloc_new w4 _)) (by simp [Value.oneCell']) (by omega) (by unfold maxLen;omega) (by omega) (by simp;omega) (w4.heap.size+1) (by simp) ?_;intro gg cg w6 hown6 hgrow hat hlt6)
     | (go_simp;refine (HMb.out _).mono ?_;rintro e w4 ⟨rfl,hb4⟩;have hN4:=onB (W0:=wr) (by go_grown) hb4;have hs4:=hN4.size;obtain ⟨x0,x1,x2⟩:=HC.out _ hN4;clear hb4)))
    all_goals (obtain ⟨HO6,HB6⟩:=HFin.out _ _ _ _ _ (by go_grown) hown6 hgrow)
    all_goals clear hown6 hgrow hat
    all_goals go_wp2_with fail
    all_goals go_roundg (N-(k+1))
    all_goals first | omega | exact ⟨k+1,_,_,by omega,rfl,by go_num,rfl,HO6,HB6⟩
   ·have hke:k=N:=by omega
    subst hke
    have HF:Hid (wr.ownsRow w.heap.size 3 1 (.slice AO k cO) (ndsX D n x).length (mapI (ndsX D n x))):=by
     have h:=HO.out
     rw [List.take_of_length_le (by rw [HN.out];exact Nat.le_refl _),←HNd.out] at h
     have hl:(ndsX D n x).length=k:=by rw [HNd.out,List.length_map];exact HN.out
     show World.ownsRow ..
     rw [hl]
     exact own_low h (by have:=HB2.out.size;have:=HBv.out.size;omega)
    go_wp2_with fail
    go_ret
    exact ⟨⟨_,rfl,HF.out⟩,HBwW.out⟩
set_option maxHeartbeats 8000000 in
theorem pneeds_any (q g n:Nat) (D:Nat→Dm) (X:Nat→AL) (x:Nat) (w:World) (hR:AllR D n) (hE:(allErr D n).2.2=0) (hx:x<prodN D n) (hA:PlanV w q g n D X) :
  Calls Tryz.prog 66 #[.pointer (some ⟨q,0,none⟩),.int .i64 x] w fun e w'=>(∃ A' c' T,e=.returned (.tuple #[.slice A' T.length c',.nilIface])∧IntT w' A' c' T∧ToldP D n (placeL D n x) T∧(∀ z,z∈T↔z∈ndsX D n x)∧∀ a,A'=some a→w.heap.size≤a.block)∧Below w.heap.size w w':=by
 obtain ⟨hn1,hn4,hp3,hd⟩:=allErr_some hE
 obtain ⟨hq,q0,q1⟩:=hA.cells
 have hnd:=needs_any q g n D X x w hR hE hx hA
 have HT:=hid_of (nds_told hR hE hx)
 have HMm:Hid (∀ z,z∈((ndsX D n x).mergeSort fun a b=>decide (a≤b))↔z∈ndsX D n x):=fun z=>(List.mergeSort_perm _ _).mem_iff
 have hl:=nds_len hR hE hx
 obtain ⟨N,hN⟩:∃ N,prodN D n=N:=⟨_,rfl⟩
 rw [hN] at q1 hx hp3
 have hxI:(x:Int)<(N:Int):=by omega
 have hNI:(N:Int)≤3000:=by omega
 obtain ⟨zs,hzs⟩:∃ zs,ndsX D n x=zs:=⟨_,rfl⟩
 rw [hzs] at hnd HT hl HMm ⊢
 obtain ⟨k,hk⟩:∃ k,zs.length=k:=⟨_,rfl⟩
 have HK:Hid (zs.length=k):=hk
 have HLl:Hid ((zs.mergeSort fun a b=>decide (a≤b)).length=k):=by show _=_;rw [List.length_mergeSort];exact hk
 rw [hk] at hnd hl
 clear hzs hE hR hA hd hN hk
 go_enter Tryz.func66,Tryz.ntmps66
 go_wp2_with fail
 refine hnd.mono ?_
 rintro e w1 ⟨⟨v,rfl,hO⟩,hb1⟩
 have HB1:Hid (Below w.heap.size w w1):=hb1
 clear hb1 hnd q0 q1
 by_cases hz:v=.slice none 0 0
 ·subst hz
  have hk0:k=0:=by
   rcases hO.2 with ⟨_,h⟩ | ⟨g,c,cur,h,_⟩
   ·exact h
   ·cases h
  subst hk0
  have hso:=Any.slices_Sort_int_none Tryz.lays189 none 0 w1
  have HZ0:Hid ((zs.mergeSort fun a b=>decide (a≤b))=[]):=List.eq_nil_of_length_eq_zero HLl.out
  clear hO
  go_wp2_with fail
  refine Calls.mono hso ?_
  rintro e w4 ⟨rfl,rfl⟩
  go_wp2_with fail
  go_returns
  refine ⟨⟨none,0,(zs.mergeSort fun a b=>decide (a≤b)),by rw [HLl.out];rfl,by rw [HZ0.out];exact IntT.nil _ _ _ (by omega),HT.out,HMm.out,fun a ha=>(by cases ha)⟩,HB1.out⟩
 ·obtain ⟨gg,c,hv,hgb,hgl,hnc,hcm,-,hH⟩:=Lib.holds_of_ownsRow (enc:=Value.int .i64) (zs:=zs) hO hz
  subst hv
  obtain ⟨cur,hg⟩:∃ cur:Array Value,w1.heap[gg]?=some (.cells cur 3 (0,0)):=by
   rcases hO.2 with ⟨h,_⟩ | ⟨g',c',cur,h,_,hg,_⟩
   ·cases h
   ·cases h;exact ⟨cur,hg⟩
  have hso:=Any.slices_Sort_int Tryz.lays189 gg 0 c zs w1 hH hgl (by have:=HK.out;omega)
  rw [HK.out] at hso
  have HTs:Hid (∀ q2 os,IntT (grow (putRow (Value.int .i64) (Sort.ahead w1 q2) gg 0 (zs.mergeSort fun x y=>decide (x≤y)).toArray) os) (some ⟨gg,0,none⟩) c (zs.mergeSort fun x y=>decide (x≤y))):=fun q2 os=>sorted_intT hg hH (by rw [List.length_mergeSort]) (by have:=HK.out;omega) (by unfold maxLen at hcm;omega)
  have HBs:Hid (∀ q2 os,Below w.heap.size w (grow (putRow (Value.int .i64) (Sort.ahead w1 q2) gg 0 (zs.mergeSort fun x y=>decide (x≤y)).toArray) os)):=fun q2 os=>sorted_belowI HB1.out (by omega)
  generalize hys:(zs.mergeSort fun x y=>decide (x≤y))=ys at hso HTs HBs HT HMm HLl
  clear hO hH hg hys
  go_wp2_with fail
  refine Calls.mono hso ?_
  rintro e w4 ⟨rfl,q2,os,hw4⟩
  have HT4:Hid (IntT w4 (some ⟨gg,0,none⟩) c ys):=by rw [hw4];exact HTs.out q2 os
  have HB4:Hid (Below w.heap.size w w4):=by rw [hw4];exact HBs.out q2 os
  have HGb:Hid (w.heap.size≤gg):=hgb
  clear hw4 hso
  go_wp2_with fail
  go_returns
  exact ⟨⟨_,c,ys,by rw [HLl.out];rfl,HT4.out,HT.out,HMm.out,fun a ha=>(by cases ha;exact HGb.out)⟩,HB4.out⟩
end Go.Proofs.YtfgegmpoejilnaaGreatDoor
