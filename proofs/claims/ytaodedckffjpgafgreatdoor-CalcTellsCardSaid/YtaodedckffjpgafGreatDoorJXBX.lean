/-
  What the document's own tell answers at a place that parts tell: what comes of their cells.
-/
import Derived.Test.YtaodedckffjpgafGreatDoorJXBW
namespace Go.Proofs.YtaodedckffjpgafGreatDoor
open Go.ChangeShapes Go.WideShapes Go.ChangeAt Go.RowKit
set_option maxRecDepth 20000
set_option maxHeartbeats 16000000 in
theorem stell_parts (A0:Option Addr) (cap n:Nat) (D:Nat→Dm) (A:Nat→Option Addr) (C:Nat→Nat) (ve:Value) (Ap:Option Addr) (cp:Nat) (L:List Int) (Ac:Option Addr) (cc:Nat) (CL:List (Int×Int)) (b m:Nat) (w:World) (hI:InO D n L) (hM:DimsV w A0 cap n D A C) (hP:PlAt w Ap cp L) (hC:CelV w Ac cc CL) (hCL:CL.length=prodN D n) (hgd:goodL CL) (hb:byTo D L n=(b:Int)) (hm:(L.getD b 0).toNat=m) (hf:((D b).mem m).formula.size=0) :
  Calls Tryz.prog 37 #[.agg #[.slice A0 n cap],ve,.slice Ap L.length cp,.slice Ac CL.length cc] w fun e w'=>e=.returned (.agg #[.int .i64 (oneV (D b) (fun z=>CL.getD (numI D (L.set b z) n).toNat noC) m).1,.int .i64 (oneV (D b) (fun z=>CL.getD (numI D (L.set b z) n).toNat noC) m).2])∧Below w.heap.size w w':=by
 obtain ⟨hn1,hn4,hp3,hd⟩:=allErr_some hI.right
 have hbn:b<n:=by
  rcases by_in D L n with h | ⟨b',h1,h2⟩ <;> omega
 obtain ⟨hd1,hd12⟩:=hd b hbn
 have hdk:=(allErr_right hI.right).2 b hbn
 have hp0:=hI.lo b hbn
 have hp1:=hI.hi b hbn
 have hmn:m<(D b).n:=by omega
 have hLb:L.getD b 0=(m:Int):=by omega
 have hl:=hI.len
 obtain ⟨W,hW⟩:∃ W,(w.alloc (.cells #[.slice A0 n cap] 42)).alloc (.cells #[.int .i64 0,.int .i64 0] 48)=W:=⟨_,rfl⟩
 have hBW:Below w.heap.size w W:=by rw [←hW];go_grown
 have hk1:W.heap[w.heap.size+1]?=some (.cells #[.int .i64 0,.int .i64 0] 48 (0,0)):=by rw [←hW];exact topF1 _ _ _
 have hk0:W.heap[w.heap.size]?=some (.cells #[.slice A0 n cap] 42 (0,0)):=by rw [←hW];exact topF0 _ _ _
 have d0:W.cell? ⟨w.heap.size,0,none⟩=some (.slice A0 n cap):=by simp [World.cell?,hk0]
 have hsz:w.heap.size<W.heap.size:=(Array.getElem?_eq_some_iff.1 hk0).1
 have hsz1:w.heap.size+1<W.heap.size:=(Array.getElem?_eq_some_iff.1 hk1).1
 have hby:=sby_any A0 cap n D A C Ap cp L W hI (hM.later hBW) (hP.later hBW)
 rw [hb] at hby
 have HB0:Hid (Below w.heap.size w W):=hBW
 have HK:Hid (W.heap[w.heap.size]?=some (.cells #[.slice A0 n cap] 42 (0,0))∧W.heap[w.heap.size+1]?=some (.cells #[.int .i64 0,.int .i64 0] 48 (0,0))):=⟨hk0,hk1⟩
 have HM:Hid (DimsV w A0 cap n D A C):=hM
 have HP:Hid (PlAt w Ap cp L):=hP
 have HC:Hid (CelV w Ac cc CL):=hC
 have HI:Hid (InO D n L):=hI
 have HSg:Hid (Sg (D b).mem (D b).n):=Sg.of hdk
 have HTr:Hid (Tr (D b).mem (D b).n):=Tr.of hdk
 have HCL:Hid (CL.length=prodN D n):=hCL
 have HGd:Hid (goodL CL):=hgd
 obtain ⟨f,hfe⟩:∃ f:Int→Int×Int,f=fun z=>CL.getD (numI D (L.set b z) n).toNat noC:=⟨_,rfl⟩
 have HFe:Hid (∀ z,f z=CL.getD (numI D (L.set b z) n).toNat noC):=fun z=>by rw [hfe]
 rw [←hfe]
 have HOne:Hid (oneV (D b) f m=(partsOf (D b).mem (D b).n m).foldl (partStep (D b).mem f) (0,0)):=by
  show _=_
  unfold oneV
  rw [if_pos hf]
 have hf':((D b).mem m).formula.toList.isEmpty=true:=by rw [empty_same];simpa using hf
 rw [hl] at hby ⊢
 obtain ⟨N,hN⟩:∃ N,CL.length=N:=⟨_,rfl⟩
 have HN:Hid (CL.length=N):=hN
 rw [hN]
 have hN3:N≤3000:=by omega
 have hbI:(b:Int)<(n:Int):=by omega
 have hb0:decide ((b:Int)<0)=false:=decide_eq_false (by omega)
 have hnI:(n:Int)≤4:=by omega
 have hmI:(m:Int)<((D b).n:Int):=by omega
 have hdI:((D b).n:Int)≤12:=by omega
 have hNI:(N:Int)≤3000:=by omega
 clear hI hM hP hC hCL hgd hb hm hf hfe hBW hk0 hk1 hdk hd hN hp0 hp1
 go_enter Tryz.func37,Tryz.ntmps37
 go_wp2_with fail
 refine hby.mono ?_
 rintro e w1 ⟨rfl,hb1⟩
 have HB1:Hid (Below W.heap.size W w1):=hb1
 have hB1:=onB HB0.out hb1
 obtain ⟨hcap,h0 | ⟨bo,oo,rfl,hMs⟩⟩:=HM.out.later hB1
 ·omega
 have hcapI:(n:Int)≤(cap:Int):=by omega
 obtain ⟨q0,q1,q2,q3⟩:=hMs.2 b hbn
 obtain ⟨-,h0 | ⟨bm,om,hAm,hMm⟩⟩:=q3
 ·omega
 rw [hAm] at q2
 obtain ⟨hcp,h0 | ⟨bp,op,rfl,hbp,hcell⟩⟩:=HP.out
 ·rw [h0] at hl;simp at hl;omega
 have hcpI:(n:Int)≤(cp:Int):=by omega
 have HPc:Hid (∀ w',Below w.heap.size w w'→w'.cell? ⟨bp,op+b,none⟩=some (.int .i64 m)∧bp<w'.heap.size):=fun w' hB=>⟨by rw [←hLb];exact (hB.cell (p:=⟨bp,op+b,none⟩) hbp).trans (hcell b (by omega)),Nat.lt_of_lt_of_le hbp hB.size⟩
 have cw1:=(hb1.cell (p:=⟨w.heap.size,0,none⟩) hsz).trans d0
 have hsw1:w.heap.size<w1.heap.size:=Nat.lt_of_lt_of_le hsz hb1.size
 have hbo:bo<w1.heap.size:=hMs.1
 have HMm:Hid (∀ w',Below w.heap.size w w'→MemsAt w' bm om (D b).n (D b).mem):=fun w' hB=>by
  obtain ⟨-,h0 | ⟨b1,o1,h1,h2⟩⟩:=HM.out.later hB
  ·omega
  cases h1
  obtain ⟨-,h0 | ⟨b2,o2,h3,h4⟩⟩:=(h2.2 b hbn).2.2.2
  ·omega
  rw [hAm] at h3
  cases h3
  exact h4
 obtain ⟨y1,hy1⟩:∃ y,w1.alloc (.cells #[.string (D b).name,.int .i64 (D b).solve,.slice (some ⟨bm,om,none⟩) (D b).n (C b)] 24)=y:=⟨_,rfl⟩
 have hBy1:Below w1.heap.size w1 y1:=by rw [←hy1];go_grown
 have HT1:Hid (TelB w (some ⟨bo,oo,none⟩) cap n w1.heap.size (D b) (some ⟨bm,om,none⟩) (C b) y1):=by
  have h0:=(hBy1.block _ hsw1).trans ((hb1.block _ hsz).trans HK.out.1)
  have h2:y1.heap[w1.heap.size]?=some (.cells #[.string (D b).name,.int .i64 (D b).solve,.slice (some ⟨bm,om,none⟩) (D b).n (C b)] 24 (0,0)):=by rw [←hy1];exact heap_alloc_new ..
  exact ⟨onB hB1 hBy1,⟨(Array.getElem?_eq_some_iff.1 h0).1,by simp [World.cell?,h0]⟩,(hBy1.block _ (Nat.lt_of_lt_of_le hsz1 hb1.size)).trans ((hb1.block _ hsz1).trans HK.out.2),(Array.getElem?_eq_some_iff.1 h2).1,by simp [World.cell?,h2],by simp [World.cell?,h2],by simp [World.cell?,h2]⟩
 obtain ⟨e1,e2,e3,e4⟩:=HT1.out.2.2.2
 obtain ⟨pc,hbpy⟩:=HPc.out y1 HT1.out.1
 have hMy:=HMm.out y1 HT1.out.1
 obtain ⟨-,-,-,m3⟩:=hMy.2 m hmn
 have hbmy:bm<y1.heap.size:=hMy.1
 have hsb1:w.heap.size+1<w1.heap.size:=Nat.lt_of_lt_of_le hsz1 hb1.size
 clear hb1 hB1 hMs hMm hAm hcell hby d0 hBy1 hMy
 go_wp2_with fail
 go_quiet (fail)
 generalize hwj:y1.drewN nq=wj
 have hBj:Below y1.heap.size y1 wj:=by rw [←hwj];exact below_drewN (Below.refl _ _) _
 obtain ⟨y2,hy2⟩:∃ y,wj.alloc (.cells #[.int .i64 0,.int .i64 0] 48)=y:=⟨_,rfl⟩
 have hBy2:Below wj.heap.size wj y2:=by rw [←hy2];go_grown
 have HBx2:Hid (y2.heap[wj.heap.size]?=some (.cells #[.int .i64 0,.int .i64 0] 48 (0,0))):=by show _=_;rw [←hy2];exact heap_alloc_new ..
 have HT2:Hid (TelB w (some ⟨bo,oo,none⟩) cap n w1.heap.size (D b) (some ⟨bm,om,none⟩) (C b) y2):=HT1.out.later (onB hBj hBy2)
 have hqk:wj.heap.size<y2.heap.size:=(Array.getElem?_eq_some_iff.1 HBx2.out).1
 have hqd:w1.heap.size<wj.heap.size:=Nat.lt_of_lt_of_le HT1.out.2.2.2.1 hBj.size
 obtain ⟨e1',e2',e3',e4'⟩:=HT2.out.2.2.2
 obtain ⟨pc',hbpy'⟩:=HPc.out y2 HT2.out.1
 have HPt:Hid (∀ w',Below y2.heap.size y2 w'→Calls Tryz.prog 72 #[.agg #[.string (D b).name,.int .i64 (D b).solve,.slice (some ⟨bm,om,none⟩) (D b).n (C b)],.int .i64 m] w' fun e w''=>(∃ A c,e=.returned (.slice A (partsOf (D b).mem (D b).n m).length c)∧IntsAt w'' A c (partsOf (D b).mem (D b).n m)∧∀ b o,A=some ⟨b,o,none⟩→w'.heap.size≤b)∧Below w'.heap.size w' w''):=fun w' hB=>rparts_new (D b) bm om (C b) m w' hd12 (HMm.out w' (onB HT2.out.1 hB))
 obtain ⟨P,hPe⟩:∃ P,partsOf (D b).mem (D b).n m=P:=⟨_,rfl⟩
 have HPm:Hid (∀ z∈P,∃ j:Nat,z=(j:Int)∧j<(D b).n):=fun z hz=>by
  rw [←hPe] at hz
  obtain ⟨j,h1,h2,-⟩:=selTo_mem z hz
  exact ⟨j,h1,h2⟩
 have hPl:P.length≤12:=by rw [←hPe];exact Nat.le_trans (selTo_len _ _) hd12
 rw [hPe] at HPt HOne
 obtain ⟨NP,hNP⟩:∃ NP,P.length=NP:=⟨_,rfl⟩
 have HNP:Hid (P.length=NP):=hNP
 rw [hNP] at HPt hPl
 clear hBj hBy2 hPe hNP e1 e2 e3 e4 pc m3 hbpy q0 q1 q2 cw1 hy1
 go_wp2_with fail
 go_cut [19] from 92 (fun s19 wx=>(∃ A c,s19=.slice A NP c∧IntsAt wx A c P∧∀ b o,A=some ⟨b,o,none⟩→y2.heap.size≤b)∧Below y2.heap.size y2 wx)
 case first =>
  go_region_law ((go_simp;refine (HPt.out _ (by go_grown)).mono ?_;rintro e w3 ⟨⟨A3,c3,rfl,hI3,hN3⟩,hb3⟩;have hB3:=onB (W0:=y2) (by go_grown) hb3;have hN3':∀ b o,A3=some ⟨b,o,none⟩→y2.heap.size≤b:=fun b o e=>Nat.le_trans (by simp) (hN3 b o e);clear hb3 hN3))
  all_goals go_wp2_with fail
  all_goals go_meet
  all_goals exact ⟨⟨A3,c3,rfl,hI3,hN3'⟩,hB3⟩
 case rest =>
 obtain ⟨⟨AP,cP,rfl,hI4,hN4⟩,hB4⟩:=hcut
 obtain ⟨w4,rfl⟩:∃ w4:World,w4=wc:=⟨_,rfl⟩
 have HI4:Hid (IntsAt w4 AP cP P):=hI4
 have HN4:Hid (∀ b o,AP=some ⟨b,o,none⟩→y2.heap.size≤b):=hN4
 have HT4:Hid (TelB w (some ⟨bo,oo,none⟩) cap n w1.heap.size (D b) (some ⟨bm,om,none⟩) (C b) w4):=HT2.out.later hB4
 have HBx4:Hid (w4.heap[wj.heap.size]?=some (.cells #[.int .i64 0,.int .i64 0] 48 (0,0))):=(hB4.block _ hqk).trans HBx2.out
 have hs4:=hB4.size
 have hNPI:(NP:Int)≤12:=by omega
 have HFin:Hid ((P.take NP).foldl (partStep (D b).mem f) (0,0)=oneV (D b) f m):=by show _=_;rw [HOne.out,←HNP.out,List.take_length]
 clear hI4 hN4 hB4 hy2 e1' e2' e3' e4' pc'
 go_wp2_with fail
 go_loopg [20] NP (fun gg s20 wr => ∃ (i:Nat) (a b':Int),i≤NP∧gg=NP-i∧s20=.int .i64 i∧Hid ((P.take i).foldl (partStep (D b).mem f) (0,0)=(a,b'))∧Hid (wr.heap[wj.heap.size]?=some (.cells #[.int .i64 a,.int .i64 b'] 48 (0,0)))∧Hid (w4.grownBy wr (some wj.heap.size)))
 case atStart=>exact ⟨0,0,0,Nat.zero_le _,rfl,rfl,(rfl:(P.take 0).foldl (partStep (D b).mem f) (0,0)=(0,0)),HBx4,grown_refl w4 _⟩
 case round =>
  obtain ⟨wi,rfl⟩:∃ wi:World,wi=wr:=⟨_,rfl⟩
  obtain ⟨i,a,b',hi,rfl,rfl,HFi,HCi2,HGi⟩:=hrel
  have hqi:wj.heap.size<wi.heap.size:=(Array.getElem?_eq_some_iff.1 HCi2.out).1
  have HTi:Hid (TelB w (some ⟨bo,oo,none⟩) cap n w1.heap.size (D b) (some ⟨bm,om,none⟩) (C b) wi):=HT4.out.grown HGi.out (by omega) (by omega)
  obtain ⟨s0,s1,f0,f1⟩:=pair_at HCi2.out
  by_cases hil:i<NP
  ·have hii:(i:Int)<(NP:Int):=by omega
   have hiP:i<P.length:=by rw [HNP.out];exact hil
   have hIi:IntsAt wi AP cP P:=by
    obtain ⟨h1,h0 | ⟨bq,h2,h3,h4⟩⟩:=HI4.out
    ·rw [h0] at hiP;simp at hiP
    ·subst h2
     exact ints_other ⟨h1,Or.inr ⟨bq,rfl,h3,h4⟩⟩ (by have:=HN4.out bq 0 rfl;omega) HGi.out
   obtain ⟨hcP,h0 | ⟨bq,rfl,hbq,hcellp⟩⟩:=hIi
   ·rw [h0] at hiP;simp at hiP
   have cp1:=hcellp i hiP
   rw [HNP.out] at hcP
   have hmem:P.getD i 0∈P:=by rw [List.getD_eq_getElem?_getD,List.getElem?_eq_getElem hiP];exact List.getElem_mem hiP
   obtain ⟨j,hj,hjn⟩:=HPm.out _ hmem
   have hMi:=HMm.out wi HTi.out.1
   obtain ⟨-,-,m2,-⟩:=hMi.2 j hjn
   have hbmi:bm<wi.heap.size:=hMi.1
   have hsg:=HSg.out j hjn
   obtain ⟨k1,k2,k3,k4⟩:=HTi.out.2.2.2
   obtain ⟨hswi,cw⟩:=HTi.out.2.1
   obtain ⟨y,hy1,hy2,hy3⟩:=num_set HI.out hbn hjn
   have hyN:y<N:=by have:=HN.out;have:=HCL.out;omega
   have hyi:(y:Int)<(N:Int):=by omega
   have hSt:=take_part (M:=(D b).mem) (at':=f) hiP
   rw [HFi.out,hj] at hSt
   have hfj:f (j:Int)=CL.getD y noC:=by rw [HFe.out,hy1];rfl
   unfold partStep at hSt
   rw [show ((j:Int)).toNat=j by omega,hfj] at hSt
   simp only at hSt
   have hgd:goodC (CL.getD y noC):=good_at HGd.out (y:Int)
   have hgab:goodC (a,b'):=by rw [←HFi.out];exact good_fold _ _ _ _ good_zero
   rw [hj] at cp1
   obtain ⟨hcL,-,h0 | ⟨bc,oc,rfl,hCat⟩⟩:=HC.out.later HTi.out.1
   ·have:=HN.out;rw [h0] at this;simp at this;omega
   obtain ⟨g1,g2⟩:=hCat.2 y (by rw [HN.out];exact hyN)
   have hbci:bc<wi.heap.size:=hCat.1
   rw [HN.out] at hcL
   have hcLI:(N:Int)≤(cc:Int):=by omega
   have HWith:Hid (∀ w',Below wi.heap.size wi w'→Calls Tryz.prog 69 #[.slice (some ⟨bp,op,none⟩) n cp,.int .i64 b,.int .i64 j] w' fun e w''=>(∃ A' c',e=.returned (.slice A' n c')∧PlAt w'' A' c' (L.set b (j:Int)))∧Below w'.heap.size w' w''):=fun w' hw'=>by
    have h:=rwith_any (some ⟨bp,op,none⟩) cp L b (j:Int) w' (by omega) (by omega) (HP.out.later (onB HTi.out.1 hw'))
    rw [hl] at h
    exact h
   have HNum:Hid (∀ w' A' c',Below wi.heap.size wi w'→PlAt w' A' c' (L.set b (j:Int))→Calls Tryz.prog 17 #[.agg #[.slice (some ⟨bo,oo,none⟩) n cap],.slice A' n c'] w' fun e w''=>e=.returned (.int .i64 y)∧Below w'.heap.size w' w''):=fun w' A' c' hw' hp=>by
    have h:=rnumber_any (some ⟨bo,oo,none⟩) cap n D A C A' c' (L.set b (j:Int)) w' hy3 (HM.out.later (onB HTi.out.1 hw')) hp
    rw [hy1,List.length_set,hl] at h
    exact h
   have hP1:=plus_one (ka:=a) (na:=b') (kb:=(CL.getD y noC).1) (nb:=(CL.getD y noC).2) hgab hgd
   have hP2:=plus_less (ka:=a) (na:=b') (kb:=(CL.getD y noC).1) (nb:=(CL.getD y noC).2) hgab hgd
   generalize (CL.getD y noC).1=v1 at g1 hSt hP1 hP2
   generalize (CL.getD y noC).2=v2 at g2 hSt hP1 hP2
   generalize ((D b).mem j).sign=sg at m2 hSt hsg
   have HKp:Hid ((wj.heap.size<wi.heap.size∧w.heap.size<wi.heap.size∧bq<wi.heap.size∧bc<wi.heap.size)∧wi.cell? ⟨bq,i,none⟩=some (.int .i64 j)∧wi.cell? ⟨w.heap.size,0,none⟩=some (.slice (some ⟨bo,oo,none⟩) n cap)∧wi.cell? ⟨bc,oc+y*2,none⟩=some (.int .i64 v1)∧wi.cell? ⟨bc,oc+y*2+1,none⟩=some (.int .i64 v2)):=⟨⟨hqi,hswi,hbq,hbci⟩,cp1,cw,g1,g2⟩
   have HKeep:Hid (∀ w',Below wi.heap.size wi w'→w'.cell? ⟨wj.heap.size,0,none⟩=some (.int .i64 a)∧w'.cell? ⟨wj.heap.size,1,none⟩=some (.int .i64 b')∧w'.frozen? ⟨wj.heap.size,0,none⟩=false∧w'.frozen? ⟨wj.heap.size,1,none⟩=false∧w'.cell? ⟨bq,i,none⟩=some (.int .i64 j)∧w'.cell? ⟨w.heap.size,0,none⟩=some (.slice (some ⟨bo,oo,none⟩) n cap)∧w'.cell? ⟨bc,oc+y*2,none⟩=some (.int .i64 v1)∧w'.cell? ⟨bc,oc+y*2+1,none⟩=some (.int .i64 v2)):=fun w' hw'=>by
    obtain ⟨p0,p1,p2,p3⟩:=pair_at ((hw'.block _ hqi).trans HCi2.out)
    obtain ⟨⟨-,z2,z3,z4⟩,z5,z6,z7,z8⟩:=HKp.out
    exact ⟨p0,p1,p2,p3,(hw'.cell (p:=⟨bq,i,none⟩) z3).trans z5,(hw'.cell (p:=⟨w.heap.size,0,none⟩) z2).trans z6,(hw'.cell (p:=⟨bc,oc+y*2,none⟩) z4).trans z7,(hw'.cell (p:=⟨bc,oc+y*2+1,none⟩) z4).trans z8⟩
   have hjd:(j:Int)<((D b).n:Int):=by omega
   clear hmem hj hMi hcellp hy1 hy2 hy3 hfj hgd hgab hiP hCat k1 k2 k3
   by_cases hs0:sg=0
   ·subst hs0
    rw [if_neg (by decide),if_neg (by decide)] at hSt
    have HNi:Hid ((P.take (i+1)).foldl (partStep (D b).mem f) (0,0)=(a,b')):=hSt
    clear hSt hsg hP1 hP2
    go_wp2_with fail
    first | (go_quiet (fail);go_wp2_with fail) | skip
    go_roundg (NP-(i+1))
    case measure=>omega
    case rel=>first | exact ⟨i+1,a,b',by omega,rfl,by go_num,HNi,HCi2,HGi⟩ | exact ⟨i+1,a,b',by omega,rfl,by go_num,HNi,HCi2.out,grown_then HGi.out (below_drewN (Below.refl _ _) _)⟩
   ·have hsn:(sg != 0)=true:=by simpa using hs0
    have HR:Hid (∃ rk rn:Int,(P.take (i+1)).foldl (partStep (D b).mem f) (0,0)=(rk,rn)∧∀ w',Calls Tryz.prog 73 #[.agg #[.int .i64 a,.int .i64 b'],.agg #[.int .i64 v1,.int .i64 v2],.int .i64 sg] w' fun e w''=>e=.returned (.agg #[.int .i64 rk,.int .i64 rn])∧Below w'.heap.size w' w''):=by
     by_cases hs1:sg=1
     ·subst hs1
      rw [if_pos rfl] at hSt
      exact ⟨_,_,hSt,hP1⟩
     ·have hs2:sg = -1:=by omega
      subst hs2
      rw [if_neg (by decide),if_pos rfl] at hSt
      exact ⟨_,_,hSt,hP2⟩
    obtain ⟨rk,rn,hNi,hPl⟩:=HR.out
    have HNi:Hid ((P.take (i+1)).foldl (partStep (D b).mem f) (0,0)=(rk,rn)):=hNi
    have HPlus:Hid (∀ w',Calls Tryz.prog 73 #[.agg #[.int .i64 a,.int .i64 b'],.agg #[.int .i64 v1,.int .i64 v2],.int .i64 sg] w' fun e w''=>e=.returned (.agg #[.int .i64 rk,.int .i64 rn])∧Below w'.heap.size w' w''):=hPl
    clear hSt hsg hP1 hP2 hs0 hNi hPl HR
    go_wp2_with fail
    go_quiet (fail)
    go_wp2_with fail
    generalize hwk:wi.drewN nq=wk
    have hBk:Below wi.heap.size wi wk:=by rw [←hwk];exact below_drewN (Below.refl _ _) _
    have HBk:Hid (Below wi.heap.size wi wk):=hBk
    have HWith2:Hid (∀ w',Below wk.heap.size wk w'→_):=fun w' hw'=>HWith.out w' (onB HBk.out hw')
    have HNum2:Hid (∀ w' A' c',Below wk.heap.size wk w'→_):=fun w' A' c' hw'=>HNum.out w' A' c' (onB HBk.out hw')
    have HKeep2:Hid (∀ w',Below wk.heap.size wk w'→_):=fun w' hw'=>HKeep.out w' (onB HBk.out hw')
    obtain ⟨j0,j1,j2,j3,j4,j5,j6,j7⟩:=HKeep.out _ hBk
    clear hwk hBk HWith HNum HKeep s0 s1 f0 f1 cp1 m2 k4 g1 g2 cw hsn hmI hdI hsb1 hbo hsz hsz1 hmn hd1 hd12 hn1 hn4 hl hsw1 hLb hjn hjd hbmi hN3 hf' hp3 HKp HFi HOne HSg HTr HGd HFe
    go_region_law ((first
     | (go_simp;refine (HWith2.out _ (by go_grown)).mono ?_;rintro e w5 ⟨⟨A5,c5,rfl,hP5⟩,hb5⟩;have hN5:=onB (W0:=wk) (by go_grown) hb5;obtain ⟨l0,l1,l2,l3,l4,l5,l6,l7⟩:=HKeep2.out _ hN5;have HP5:Hid (PlAt w5 A5 c5 (L.set b (j:Int))):=hP5;clear hb5 hP5 j0 j1 j2 j3 j4 j5 j6 j7)
     | (go_simp;refine (HNum2.out _ _ _ (by go_grown) (HP5.out.later (by go_grown))).mono ?_;rintro e w6 ⟨rfl,hb6⟩;have hN6:=onB (W0:=wk) (by go_grown) hb6;obtain ⟨n0,n1,n2,n3,n4,n5,n6,n7⟩:=HKeep2.out _ hN6;clear hb6 l0 l1 l2 l3 l4 l5 l6 l7)
     | (go_simp;refine (HPlus.out _).mono ?_;rintro e w7 ⟨rfl,hb7⟩;have hN7:=onB (W0:=wk) (by go_grown) hb7;obtain ⟨r0,r1,r2,r3,r4,r5,r6,r7⟩:=HKeep2.out _ hN7;have HN7:Hid (Below wi.heap.size wi _):=onB HBk.out hN7;clear hb7 n0 n1 n2 n3 n4 n5 n6 n7)))
    all_goals clear hN5 hN6 hN7
    all_goals go_wp2_with fail
    all_goals go_roundg (NP-(i+1))
    all_goals first
     | omega
     | exact ⟨i+1,rk,rn,by omega,rfl,by go_num,HNi,pair_set ((HN7.out.block _ hqi).trans HCi2.out),pair_grown (grown_then HGi.out HN7.out)⟩
     | exact ⟨i+1,rk,rn,by omega,rfl,by go_num,HNi,pair_set ((HN7.out.block _ hqi).trans HCi2.out),grown_drew (pair_grown (grown_then HGi.out HN7.out))⟩
  ·have hie:i=NP:=by omega
   subst hie
   have HV:Hid (oneV (D b) f m=(a,b')):=by show _=_;rw [←HFin.out];exact HFi.out
   obtain ⟨e0,e1,g0,g1⟩:=pair_at HTi.out.2.2.1
   have hs1i:w.heap.size+1<wi.heap.size:=(Array.getElem?_eq_some_iff.1 HTi.out.2.2.1).1
   go_wp2_with fail
   refine bodyPost_ret (v:=.agg #[.int .i64 a,.int .i64 b']) (by simp [results,Tryz.results37,go_sem,e0,e1]) rfl ⟨by rw [HV.out],?_⟩
   exact (HTi.out.1.setCell (Nat.le_succ _) _).setCell (Nat.le_succ _) _
end Go.Proofs.YtaodedckffjpgafGreatDoor
