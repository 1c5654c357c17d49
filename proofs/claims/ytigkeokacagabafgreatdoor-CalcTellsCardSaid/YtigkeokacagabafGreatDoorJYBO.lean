/-
  What the document's own tell answers at a place that parts tell: what comes of their cells.
-/
import Derived.Test.YtigkeokacagabafGreatDoorJYBK
import Derived.Test.YtigkeokacagabafGreatDoorJYBN
namespace Go.Proofs.YtigkeokacagabafGreatDoor
open Go.ChangeShapes Go.WideShapes Go.ChangeAt Go.RowKit
set_option maxRecDepth 20000
set_option maxHeartbeats 16000000 in
theorem stell_parts (A0:Option Addr) (cap n:Nat) (D:Nat→Dm) (A:Nat→Option Addr) (C:Nat→Nat) (ve:Value) (Ap:Option Addr) (cp:Nat) (L:List Int) (Ac:Option Addr) (cc:Nat) (CL:List (Int×Int)) (b m:Nat) (w:World) (hI:InO D n L) (hM:DimsV w A0 cap n D A C) (hP:PlAt w Ap cp L) (hC:CelV w Ac cc CL) (hCL:CL.length=prodN D n) (hgd:goodL CL) (hb:byTo D L n=(b:Int)) (hm:(L.getD b 0).toNat=m) (hf:((D b).mem m).formula.size=0) :
  Calls Tryz.prog 37 #[.agg #[.slice A0 n cap],ve,.slice Ap L.length cp,.slice Ac CL.length cc] w fun e w'=>e=.returned (.agg #[.int .i64 (oneV (D b) (fun z=>CL.getD (numI D (L.set b z) n).toNat noC) m).1,.int .i64 (oneV (D b) (fun z=>CL.getD (numI D (L.set b z) n).toNat noC) m).2])∧Below w.heap.size w w':=by
 obtain ⟨hn1,hn4,hp3,hd⟩:=allErr_some hI.right
 have hbn:b<n:=by
  rcases by_in D L n with h | ⟨b',h1,h2⟩ <;> omega
 obtain ⟨hd1,hd12⟩:=hd b hbn
 have hdk:=(allErr_right hI.right).2 b hbn
 have hp0:=hI.lo b hbn
 have hp1:=hI.hi b hbn
 have hmn:m<(D b).n:=by omega
 have hLb:L.getD b 0=(m:Int):=by omega
 have hl:=hI.len
 obtain ⟨W,hW⟩:∃ W,(w.alloc (.cells #[.slice A0 n cap] 42)).alloc (.cells #[.int .i64 0,.int .i64 0] 48)=W:=⟨_,rfl⟩
 have hBW:Below w.heap.size w W:=by rw [←hW];go_grown
 have hk1:W.heap[w.heap.size+1]?=some (.cells #[.int .i64 0,.int .i64 0] 48 (0,0)):=by rw [←hW];exact topF1 _ _ _
 have hk0:W.heap[w.heap.size]?=some (.cells #[.slice A0 n cap] 42 (0,0)):=by rw [←hW];exact topF0 _ _ _
 have d0:W.cell? ⟨w.heap.size,0,none⟩=some (.slice A0 n cap):=by simp [World.cell?,hk0]
 have hsz:w.heap.size<W.heap.size:=(Array.getElem?_eq_some_iff.1 hk0).1
 have hsz1:w.heap.size+1<W.heap.size:=(Array.getElem?_eq_some_iff.1 hk1).1
 have hby:=sby_any A0 cap n D A C Ap cp L W hI (hM.later hBW) (hP.later hBW)
 rw [hb] at hby
 have HB0:Hid (Below w.heap.size w W):=hBW
 have HK:Hid (W.heap[w.heap.size]?=some (.cells #[.slice A0 n cap] 42 (0,0))∧W.heap[w.heap.size+1]?=some (.cells #[.int .i64 0,.int .i64 0] 48 (0,0))):=⟨hk0,hk1⟩
 have HM:Hid (DimsV w A0 cap n D A C):=hM
 have HP:Hid (PlAt w Ap cp L):=hP
 have HC:Hid (CelV w Ac cc CL):=hC
 have HI:Hid (InO D n L):=hI
 have HSg:Hid (Sg (D b).mem (D b).n):=Sg.of hdk
 have HTr:Hid (Tr (D b).mem (D b).n):=Tr.of hdk
 have HCL:Hid (CL.length=prodN D n):=hCL
 have HGd:Hid (goodL CL):=hgd
 obtain ⟨f,hfe⟩:∃ f:Int→Int×Int,f=fun z=>CL.getD (numI D (L.set b z) n).toNat noC:=⟨_,rfl⟩
 have HFe:Hid (∀ z,f z=CL.getD (numI D (L.set b z) n).toNat noC):=fun z=>by rw [hfe]
 rw [←hfe]
 have HOne:Hid (oneV (D b) f m=(partsOf (D b).mem (D b).n m).foldl (partStep (D b).mem f) (0,0)):=by
  show _=_
  unfold oneV
  rw [if_pos hf]
 have hf':((D b).mem m).formula.toList.isEmpty=true:=by rw [empty_same];simpa using hf
 rw [hl] at hby ⊢
 obtain ⟨N,hN⟩:∃ N,CL.length=N:=⟨_,rfl⟩
 have HN:Hid (CL.length=N):=hN
 rw [hN]
 have hN3:N≤3000:=by omega
 have hbI:(b:Int)<(n:Int):=by omega
 have hb0:decide ((b:Int)<0)=false:=decide_eq_false (by omega)
 have hnI:(n:Int)≤4:=by omega
 have hmI:(m:Int)<((D b).n:Int):=by omega
 have hdI:((D b).n:Int)≤12:=by omega
 have hNI:(N:Int)≤3000:=by omega
 clear hI hM hP hC hCL hgd hb hm hf hfe hBW hk0 hk1 hdk hd hN hp0 hp1
 go_enter Tryz.func37,Tryz.ntmps37
 go_wp2_with fail
 refine hby.mono ?_
 rintro e w1 ⟨rfl,hb1⟩
 have HB1:Hid (Below W.heap.size W w1):=hb1
 have hB1:=onB HB0.out hb1
 obtain ⟨hcap,h0 | ⟨bo,oo,rfl,hMs⟩⟩:=HM.out.later hB1
 ·omega
 have hcapI:(n:Int)≤(cap:Int):=by omega
 obtain ⟨q0,q1,q2,q3⟩:=hMs.2 b hbn
 obtain ⟨-,h0 | ⟨bm,om,hAm,hMm⟩⟩:=q3
 ·omega
 rw [hAm] at q2
 obtain ⟨hcp,h0 | ⟨bp,op,rfl,hbp,hcell⟩⟩:=HP.out
 ·rw [h0] at hl;simp at hl;omega
 have hcpI:(n:Int)≤(cp:Int):=by omega
 have HPc:Hid (∀ w',Below w.heap.size w w'→w'.cell? ⟨bp,op+b,none⟩=some (.int .i64 m)∧bp<w'.heap.size):=fun w' hB=>⟨by rw [←hLb];exact (hB.cell (p:=⟨bp,op+b,none⟩) hbp).trans (hcell b (by omega)),Nat.lt_of_lt_of_le hbp hB.size⟩
 have cw1:=(hb1.cell (p:=⟨w.heap.size,0,none⟩) hsz).trans d0
 have hsw1:w.heap.size<w1.heap.size:=Nat.lt_of_lt_of_le hsz hb1.size
 have hbo:bo<w1.heap.size:=hMs.1
 have HMm:Hid (∀ w',Below w.heap.size w w'→MemsAt w' bm om (D b).n (D b).mem):=fun w' hB=>by
  obtain ⟨-,h0 | ⟨b1,o1,h1,h2⟩⟩:=HM.out.later hB
  ·omega
  cases h1
  obtain ⟨-,h0 | ⟨b2,o2,h3,h4⟩⟩:=(h2.2 b hbn).2.2.2
  ·omega
  rw [hAm] at h3
  cases h3
  exact h4
 obtain ⟨y1,hy1⟩:∃ y,w1.alloc (.cells #[.string (D b).name,.int .i64 (D b).solve,.slice (some ⟨bm,om,none⟩) (D b).n (C b)] 24)=y:=⟨_,rfl⟩
 have hBy1:Below w1.heap.size w1 y1:=by rw [←hy1];go_grown
 have HT1:Hid (TelB w (some ⟨bo,oo,none⟩) cap n w1.heap.size (D b) (some ⟨bm,om,none⟩) (C b) y1):=by
  have h0:=(hBy1.block _ hsw1).trans ((hb1.block _ hsz).trans HK.out.1)
  have h2:y1.heap[w1.heap.size]?=some (.cells #[.string (D b).name,.int .i64 (D b).solve,.slice (some ⟨bm,om,none⟩) (D b).n (C b)] 24 (0,0)):=by rw [←hy1];exact heap_alloc_new ..
  exact ⟨onB hB1 hBy1,⟨(Array.getElem?_eq_some_iff.1 h0).1,by simp [World.cell?,h0]⟩,(hBy1.block _ (Nat.lt_of_lt_of_le hsz1 hb1.size)).trans ((hb1.block _ hsz1).trans HK.out.2),(Array.getElem?_eq_some_iff.1 h2).1,by simp [World.cell?,h2],by simp [World.cell?,h2],by simp [World.cell?,h2]⟩
 obtain ⟨e1,e2,e3,e4⟩:=HT1.out.2.2.2
 obtain ⟨pc,hbpy⟩:=HPc.out y1 HT1.out.1
 have hMy:=HMm.out y1 HT1.out.1
 obtain ⟨-,-,-,m3⟩:=hMy.2 m hmn
 have hbmy:bm<y1.heap.size:=hMy.1
 have hsb1:w.heap.size+1<w1.heap.size:=Nat.lt_of_lt_of_le hsz1 hb1.size
 clear hb1 hB1 hMs hMm hAm hcell hby d0 hBy1 hMy
 go_wp2_with fail
 go_quiet (fail)
 generalize hwj:y1.drewN nq=wj
 have hBj:Below y1.heap.size y1 wj:=by rw [←hwj];exact below_drewN (Below.refl _ _) _
 obtain ⟨y2,hy2⟩:∃ y,wj.alloc (.cells #[.int .i64 0,.int .i64 0] 48)=y:=⟨_,rfl⟩
 have hBy2:Below wj.heap.size wj y2:=by rw [←hy2];go_grown
 have HBx2:Hid (y2.heap[wj.heap.size]?=some (.cells #[.int .i64 0,.int .i64 0] 48 (0,0))):=by show _=_;rw [←hy2];exact heap_alloc_new ..
 have HT2:Hid (TelB w (some ⟨bo,oo,none⟩) cap n w1.heap.size (D b) (some ⟨bm,om,none⟩) (C b) y2):=HT1.out.later (onB hBj hBy2)
 have hqk:wj.heap.size<y2.heap.size:=(Array.getElem?_eq_some_iff.1 HBx2.out).1
 have hqd:w1.heap.size<wj.heap.size:=Nat.lt_of_lt_of_le HT1.out.2.2.2.1 hBj.size
 obtain ⟨e1',e2',e3',e4'⟩:=HT2.out.2.2.2
 obtain ⟨pc',hbpy'⟩:=HPc.out y2 HT2.out.1
 have HPt:Hid (∀ w',Below y2.heap.size y2 w'→Calls Tryz.prog 72 #[.agg #[.string (D b).name,.int .i64 (D b).solve,.slice (some ⟨bm,om,none⟩) (D b).n (C b)],.int .i64 m] w' fun e w''=>(∃ A c,e=.returned (.slice A (partsOf (D b).mem (D b).n m).length c)∧IntsAt w'' A c (partsOf (D b).mem (D b).n m)∧∀ b o,A=some ⟨b,o,none⟩→w'.heap.size≤b)∧Below w'.heap.size w' w''):=fun w' hB=>rparts_new (D b) bm om (C b) m w' hd12 (HMm.out w' (onB HT2.out.1 hB))
 obtain ⟨P,hPe⟩:∃ P,partsOf (D b).mem (D b).n m=P:=⟨_,rfl⟩
 have HPm:Hid (∀ z∈P,∃ j:Nat,z=(j:Int)∧j<(D b).n):=fun z hz=>by
  rw [←hPe] at hz
  obtain ⟨j,h1,h2,-⟩:=selTo_mem z hz
  exact ⟨j,h1,h2⟩
 have hPl:P.length≤12:=by rw [←hPe];exact Nat.le_trans (selTo_len _ _) hd12
 rw [hPe] at HPt HOne
 obtain ⟨NP,hNP⟩:∃ NP,P.length=NP:=⟨_,rfl⟩
 have HNP:Hid (P.length=NP):=hNP
 rw [hNP] at HPt hPl
 clear hBj hBy2 hPe hNP e1 e2 e3 e4 pc m3 hbpy q0 q1 q2 cw1 hy1
 go_wp2_with fail
 go_cut [19] from 92 (fun s19 wx=>(∃ A c,s19=.slice A NP c∧IntsAt wx A c P∧∀ b o,A=some ⟨b,o,none⟩→y2.heap.size≤b)∧Below y2.heap.size y2 wx)
 case first =>
  go_region_law ((go_simp;refine (HPt.out _ (by go_grown)).mono ?_;rintro e w3 ⟨⟨A3,c3,rfl,hI3,hN3⟩,hb3⟩;have hB3:=onB (W0:=y2) (by go_grown) hb3;have hN3':∀ b o,A3=some ⟨b,o,none⟩→y2.heap.size≤b:=fun b o e=>Nat.le_trans (by simp) (hN3 b o e);clear hb3 hN3))
  all_goals go_wp2_with fail
  all_goals go_meet
  all_goals exact ⟨⟨A3,c3,rfl,hI3,hN3'⟩,hB3⟩
 case rest =>
 obtain ⟨⟨AP,cP,rfl,hI4,hN4⟩,hB4⟩:=hcut
 obtain ⟨w4,rfl⟩:∃ w4:World,w4=wc:=⟨_,rfl⟩
 have HI4:Hid (IntsAt w4 AP cP P):=hI4
 have HN4:Hid (∀ b o,AP=some ⟨b,o,none⟩→y2.heap.size≤b):=hN4
 have HT4:Hid (TelB w (some ⟨bo,oo,none⟩) cap n w1.heap.size (D b) (some ⟨bm,om,none⟩) (C b) w4):=HT2.out.later hB4
 have HBx4:Hid (w4.heap[wj.heap.size]?=some (.cells #[.int .i64 0,.int .i64 0] 48 (0,0))):=(hB4.block _ hqk).trans HBx2.out
 have hs4:=hB4.size
 have hNPI:(NP:Int)≤12:=by omega
 have HFin:Hid ((P.take NP).foldl (partStep (D b).mem f) (0,0)=oneV (D b) f m):=by show _=_;rw [HOne.out,←HNP.out,List.take_length]
 clear hI4 hN4 hB4 hy2 e1' e2' e3' e4' pc'
 go_wp2_with fail
 go_loopg [20] NP (fun gg s20 wr => ∃ (i:Nat) (a b':Int),i≤NP∧gg=NP-i∧s20=.int .i64 i∧Hid ((P.take i).foldl (partStep (D b).mem f) (0,0)=(a,b'))∧Hid (wr.heap[wj.heap.size]?=some (.cells #[.int .i64 a,.int .i64 b'] 48 (0,0)))∧Hid (w4.grownBy wr (some wj.heap.size)))
 case atStart=>exact ⟨0,0,0,Nat.zero_le _,rfl,rfl,(rfl:(P.take 0).foldl (partStep (D b).mem f) (0,0)=(0,0)),HBx4,grown_refl w4 _⟩
 case round =>
  obtain ⟨wi,rfl⟩:∃ wi:World,wi=wr:=⟨_,rfl⟩
  obtain ⟨i,a,b',hi,rfl,rfl,HFi,HCi2,HGi⟩:=hrel
  have hqi:wj.heap.size<wi.heap.size:=(Array.getElem?_eq_some_iff.1 HCi2.out).1
  have HTi:Hid (TelB w (some ⟨bo,oo,none⟩) cap n w1.heap.size (D b) (some ⟨bm,om,none⟩) (C b) wi):=HT4.out.grown HGi.out (by omega) (by omega)
  obtain ⟨s0,s1,f0,f1⟩:=pair_at HCi2.out
  by_cases hil:i<NP
  ·have hii:(i:Int)<(NP:Int):=by omega
   have hiP:i<P.length:=by rw [HNP.out];exact hil
   have hIi:IntsAt wi AP cP P:=by
    obtain ⟨h1,h0 | ⟨bq,h2,h3,h4⟩⟩:=HI4.out
    ·rw [h0] at hiP;simp at hiP
    ·subst h2
     exact ints_other ⟨h1,Or.inr ⟨bq,rfl,h3,h4⟩⟩ (by have:=HN4.out bq 0 rfl;omega) HGi.out
   obtain ⟨hcP,h0 | ⟨bq,rfl,hbq,hcellp⟩⟩:=hIi
   ·rw [h0] at hiP;simp at hiP
   have cp1:=hcellp i hiP
   rw [HNP.out] at hcP
   have hmem:P.getD i 0∈P:=by rw [List.getD_eq_getElem?_getD,List.getElem?_eq_getElem hiP];exact List.getElem_mem hiP
   obtain ⟨j,hj,hjn⟩:=HPm.out _ hmem
   have hMi:=HMm.out wi HTi.out.1
   obtain ⟨-,-,m2,-⟩:=hMi.2 j hjn
   have hbmi:bm<wi.heap.size:=hMi.1
   have hsg:=HSg.out j hjn
   obtain ⟨k1,k2,k3,k4⟩:=HTi.out.2.2.2
   obtain ⟨hswi,cw⟩:=HTi.out.2.1
   obtain ⟨y,hy1,hy2,hy3⟩:=num_set HI.out hbn hjn
   have hyN:y<N:=by have:=HN.out;have:=HCL.out;omega
   have hyi:(y:Int)<(N:Int):=by omega
   have hSt:=take_part (M:=(D b).mem) (at':=f) hiP
   rw [HFi.out,hj] at hSt
   have hfj:f (j:Int)=CL.getD y noC:=by rw [HFe.out,hy1];rfl
   unfold partStep at hSt
   rw [show ((j:Int)).toNat=j by omega,hfj] at hSt
   simp only at hSt
   have hgd:goodC (CL.getD y noC):=good_at HGd.out (y:Int)
   have hgab:goodC (a,b'):=by rw [←HFi.out];exact good_fold _ _ _ _ good_zero
   rw [hj] at cp1
   obtain ⟨hcL,-,h0 | ⟨bc,oc,rfl,hCat⟩⟩:=HC.out.later HTi.out.1
   ·have:=HN.out;rw [h0] at this;simp at this;omega
   obtain ⟨g1,g2⟩:=hCat.2 y (by rw [HN.out];exact hyN)
   have hbci:bc<wi.heap.size:=hCat.1
   rw [HN.out] at hcL
   have hcLI:(N:Int)≤(cc:Int):=by omega
   have HWith:Hid (∀ w',Below wi.heap.size wi w'→Calls Tryz.prog 69 #[.slice (some ⟨bp,op,none⟩) n cp,.int .i64 b,.int .i64 j] w' fun e w''=>(∃ A' c',e=.returned (.slice A' n c')∧PlAt w'' A' c' (L.set b (j:Int)))∧Below w'.heap.size w' w''):=fun w' hw'=>by
    have h:=rwith_any (some ⟨bp,op,none⟩) cp L b (j:Int) w' (by omega) (by omega) (HP.out.later (onB HTi.out.1 hw'))
    rw [hl] at h
    exact h
   have HNum:Hid (∀ w' A' c',Below wi.heap.size wi w'→PlAt w' A' c' (L.set b (j:Int))→Calls Tryz.prog 17 #[.agg #[.slice (some ⟨bo,oo,none⟩) n cap],.slice A' n c'] w' fun e w''=>e=.returned (.int .i64 y)∧Below w'.heap.size w' w''):=fun w' A' c' hw' hp=>by
    have h:=rnumber_any (some ⟨bo,oo,none⟩) cap n D A C A' c' (L.set b (j:Int)) w' hy3 (HM.out.later (onB HTi.out.1 hw')) hp
    rw [hy1,List.length_set,hl] at h
    exact h
   have hP1:=plus_one (ka:=a) (na:=b') (kb:=(CL.getD y noC).1) (nb:=(CL.getD y noC).2) hgab hgd
   have hP2:=plus_less (ka:=a) (na:=b') (kb:=(CL.getD y noC).1) (nb:=(CL.getD y noC).2) hgab hgd
   generalize (CL.getD y noC).1=v1 at g1 hSt hP1 hP2
   generalize (CL.getD y noC).2=v2 at g2 hSt hP1 hP2
   generalize ((D b).mem j).sign=sg at m2 hSt hsg
   have HKp:Hid ((wj.heap.size<wi.heap.size∧w.heap.size<wi.heap.size∧bq<wi.heap.size∧bc<wi.heap.size)∧wi.cell? ⟨bq,i,none⟩=some (.int .i64 j)∧wi.cell? ⟨w.heap.size,0,none⟩=some (.slice (some ⟨bo,oo,none⟩) n cap)∧wi.cell? ⟨bc,oc+y*2,none⟩=some (.int .i64 v1)∧wi.cell? ⟨bc,oc+y*2+1,none⟩=some (.int .i64 v2)):=⟨⟨hqi,hswi,hbq,hbci⟩,cp1,cw,g1,g2⟩
   have HKeep:Hid (∀ w',Below wi.heap.size wi w'→w'.cell? ⟨wj.heap.size,0,none⟩=some (.int .i64 a)∧w'.cell? ⟨wj.heap.size,1,none⟩=some (.int .i64 b')∧w'.frozen? ⟨wj.heap.size,0,none⟩=false∧w'.frozen? ⟨wj.heap.size,1,none⟩=false∧w'.cell? ⟨bq,i,none⟩=some (.int .i64 j)∧w'.cell? ⟨w.heap.size,0,none⟩=some (.slice (some ⟨bo,oo,none⟩) n cap)∧w'.cell? ⟨bc,oc+y*2,none⟩=some (.int .i64 v1)∧w'.cell? ⟨bc,oc+y*2+1,none⟩=some (.int .i64 v2)):=fun w' hw'=>by
    obtain ⟨p0,p1,p2,p3⟩:=pair_at ((hw'.block _ hqi).trans HCi2.out)
    obtain ⟨⟨-,z2,z3,z4⟩,z5,z6,z7,z8⟩:=HKp.out
    exact ⟨p0,p1,p2,p3,(hw'.cell (p:=⟨bq,i,none⟩) z3).trans z5,(hw'.cell (p:=⟨w.heap.size,0,none⟩) z2).trans z6,(hw'.cell (p:=⟨bc,oc+y*2,none⟩) z4).trans z7,(hw'.cell (p:=⟨bc,oc+y*2+1,none⟩) z4).trans z8⟩
   have hjd:(j:Int)<((D b).n:Int):=by omega
   clear hmem hj hMi hcellp hy1 hy2 hy3 hfj hgd hgab hiP hCat k1 k2 k3
   by_cases hs0:sg=0
   ·subst hs0
    rw [if_neg (by decide),if_neg (by decide)] at hSt
    have HNi:Hid ((P.take (i+1)).foldl (partStep (D b).mem f) (0,0)=(a,b')):=hSt
    clear hSt hsg hP1 hP2
    go_wp2_with fail
    first | (go_quiet (fail);go_wp2_with fail) | skip
    go_roundg (NP-(i+1))
    case measure=>omega
    case rel=>first | exact ⟨i+1,a,b',by omega,rfl,by go_num,HNi,HCi2,HGi⟩ | exact ⟨i+1,a,b',by omega,rfl,by go_num,HNi,HCi2.out,grown_then HGi.out (below_drewN (Below.refl _ _) _)⟩
   ·have hsn:(sg != 0)=true:=by simpa using hs0
    have HR:Hid (∃ rk rn:Int,(P.take (i+1)).foldl (partStep (D b).mem f) (0,0)=(rk,rn)∧∀ w',Calls Tryz.prog 73 #[.agg #[.int .i64 a,.int .i64 b'],.agg #[.int .i64 v1,.int .i64 v2],.int .i64 sg] w' fun e w''=>e=.returned (.agg #[.int .i64 rk,.int .i64 rn])∧Below w'.heap.size w' w''):=by
     by_cases hs1:sg=1
     ·subst hs1
      rw [if_pos rfl] at hSt
      exact ⟨_,_,hSt,hP1⟩
     ·have hs2:sg = -1:=by omega
      subst hs2
      rw [if_neg (by decide),if_pos rfl] at hSt
      exact ⟨_,_,hSt,hP2⟩
    obtain ⟨rk,rn,hNi,hPl⟩:=HR.out
    have HNi:Hid ((P.take (i+1)).foldl (partStep (D b).mem f) (0,0)=(rk,rn)):=hNi
    have HPlus:Hid (∀ w',Calls Tryz.prog 73 #[.agg #[.int .i64 a,.int .i64 b'],.agg #[.int .i64 v1,.int .i64 v2],.int .i64 sg] w' fun e w''=>e=.returned (.agg #[.int .i64 rk,.int .i64 rn])∧Below w'.heap.size w' w''):=hPl
    clear hSt hsg hP1 hP2 hs0 hNi hPl HR
    go_wp2_with fail
    go_quiet (fail)
    go_wp2_with fail
    generalize hwk:wi.drewN nq=wk
    have hBk:Below wi.heap.size wi wk:=by rw [←hwk];exact below_drewN (Below.refl _ _) _
    have HBk:Hid (Below wi.heap.size wi wk):=hBk
    have HWith2:Hid (∀ w',Below wk.heap.size wk w'→_):=fun w' hw'=>HWith.out w' (onB HBk.out hw')
    have HNum2:Hid (∀ w' A' c',Below wk.heap.size wk w'→_):=fun w' A' c' hw'=>HNum.out w' A' c' (onB HBk.out hw')
    have HKeep2:Hid (∀ w',Below wk.heap.size wk w'→_):=fun w' hw'=>HKeep.out w' (onB HBk.out hw')
    obtain ⟨j0,j1,j2,j3,j4,j5,j6,j7⟩:=HKeep.out _ hBk
    clear hwk hBk HWith HNum HKeep s0 s1 f0 f1 cp1 m2 k4 g1 g2 cw hsn hmI hdI hsb1 hbo hsz hsz1 hmn hd1 hd12 hn1 hn4 hl hsw1 hLb hjn hjd hbmi hN3 hf' hp3 HKp HFi HOne HSg HTr HGd HFe
    go_region_law ((first
     | (go_simp;refine (HWith2.out _ (by go_grown)).mono ?_;rintro e w5 ⟨⟨A5,c5,rfl,hP5⟩,hb5⟩;have hN5:=onB (W0:=wk) (by go_grown) hb5;obtain ⟨l0,l1,l2,l3,l4,l5,l6,l7⟩:=HKeep2.out _ hN5;have HP5:Hid (PlAt w5 A5 c5 (L.set b (j:Int))):=hP5;clear hb5 hP5 j0 j1 j2 j3 j4 j5 j6 j7)
     | (go_simp;refine (HNum2.out _ _ _ (by go_grown) (HP5.out.later (by go_grown))).mono ?_;rintro e w6 ⟨rfl,hb6⟩;have hN6:=onB (W0:=wk) (by go_grown) hb6;obtain ⟨n0,n1,n2,n3,n4,n5,n6,n7⟩:=HKeep2.out _ hN6;clear hb6 l0 l1 l2 l3 l4 l5 l6 l7)
     | (go_simp;refine (HPlus.out _).mono ?_;rintro e w7 ⟨rfl,hb7⟩;have hN7:=onB (W0:=wk) (by go_grown) hb7;obtain ⟨r0,r1,r2,r3,r4,r5,r6,r7⟩:=HKeep2.out _ hN7;have HN7:Hid (Below wi.heap.size wi _):=onB HBk.out hN7;clear hb7 n0 n1 n2 n3 n4 n5 n6 n7)))
    all_goals clear hN5 hN6 hN7
    all_goals go_wp2_with fail
    all_goals go_roundg (NP-(i+1))
    all_goals first
     | omega
     | exact ⟨i+1,rk,rn,by omega,rfl,by go_num,HNi,pair_set ((HN7.out.block _ hqi).trans HCi2.out),pair_grown (grown_then HGi.out HN7.out)⟩
     | exact ⟨i+1,rk,rn,by omega,rfl,by go_num,HNi,pair_set ((HN7.out.block _ hqi).trans HCi2.out),grown_drew (pair_grown (grown_then HGi.out HN7.out))⟩
  ·have hie:i=NP:=by omega
   subst hie
   have HV:Hid (oneV (D b) f m=(a,b')):=by show _=_;rw [←HFin.out];exact HFi.out
   obtain ⟨e0,e1,g0,g1⟩:=pair_at HTi.out.2.2.1
   have hs1i:w.heap.size+1<wi.heap.size:=(Array.getElem?_eq_some_iff.1 HTi.out.2.2.1).1
   go_wp2_with fail
   refine bodyPost_ret (v:=.agg #[.int .i64 a,.int .i64 b']) (by simp [results,Tryz.results37,go_sem,e0,e1]) rfl ⟨by rw [HV.out],?_⟩
   exact (HTi.out.1.setCell (Nat.le_succ _) _).setCell (Nat.le_succ _) _
section
variable {D:Nat→Dm} {n:Nat}
theorem rows_told (hR:AllR D n) (hE:(allErr D n).2.2=0) {i:Nat} (hi:i<prodN D n):ToldP D n (placeL D n i) ((rowsL D n).getD i []):=by
 have h:=nds_told hR hE hi
 rw [rows_at hi,←told_eq hR hE h]
 exact h
theorem rows_inn (hR:AllR D n) (hE:(allErr D n).2.2=0):Inn (rowsL D n):=told_inn hR hE rows_len fun _ hi=>rows_told hR hE hi
theorem rows_acyc (hR:AllR D n) (hE:(allErr D n).2.2=0) (i:Nat) (hi:i<(rowsL D n).length):cycB (rowsL D n) i=false:=told_acyc hR hE rows_len (fun _ hi=>rows_told hR hE hi) i hi
theorem rows_rise (hR:AllR D n) (hE:(allErr D n).2.2=0) (j:Nat) (hj:j<(rowsL D n).length):((rowsL D n).getD j []).Pairwise (· < ·):=(rows_told hR hE (by rw [rows_len] at hj;exact hj)).1
theorem nds_rows (hR:AllR D n) (hE:(allErr D n).2.2=0) {i:Nat} (hi:i<prodN D n):(∀ z,z∈ndsX D n i↔z∈(rowsL D n).getD i [])∧(ndsX D n i).Nodup:=by
 have h:=nds_told hR hE hi
 have e:((ndsX D n i).mergeSort fun a b=>decide (a≤b))=(rowsL D n).getD i []:=by rw [rows_at hi,told_eq hR hE h]
 refine ⟨fun z=>by rw [←e];exact (List.mergeSort_perm _ _).mem_iff.symm,?_⟩
 have hn:((ndsX D n i).mergeSort fun a b=>decide (a≤b)).Nodup:=h.1.imp fun h=>by omega
 exact (List.mergeSort_perm _ _).nodup_iff.1 hn
end
theorem usr_succ (Nn:List (List Int)) (m k:Nat):usrL Nn m (k+1)=usrL Nn m k ++ (if (m:Int)∈Nn.getD k [] then [(k:Int)] else []):=by
 unfold usrL
 rw [selTo]
 simp only [List.contains_iff_mem]
theorem usr_len (Nn:List (List Int)) (m k:Nat):(usrL Nn m k).length≤k:=by unfold usrL;exact selTo_len _ _
theorem sel_len (p:Nat→Bool) (k:Nat):(selTo p k).length≤k:=selTo_len _ _
structure UM (w:World) (B gU N:Nat) (UV:Nat→Value) (UL:Nat→List Int):Prop where
 hU:ValB w gU N 27 UV
 own:∀ j,j<N→w.ownsRow B 3 1 (UV j) (UL j).length (mapI (UL j))
 dU:∀ i j,i<N→j<N→i≠j→∀ b,(UV i).ownBlock=some b→(UV j).ownBlock≠some b
 lU:B≤gU
section
variable {w w':World} {B gU N:Nat} {UV:Nat→Value} {UL:Nat→List Int}
theorem UM.later (h:UM w B gU N UV UL) (hB:Below w.heap.size w w'):UM w' B gU N UV UL :=
 ⟨h.hU.same (hB.block _ h.hU.lt),fun j hj=>own_later (h.own j hj) hB,h.dU,h.lU⟩
theorem UM.off (h:UM w B gU N UV UL) {b:Nat} {cur:Array Value} (hb:w.heap[b]?=some (.cells cur 3 (0,0))):b≠gU:=h.hU.off hb row_ne_int'
theorem UM.made (w:World) (N:Nat):UM (w.alloc (.cells (madeCells #[.slice none 0 0] N) 27)) w.heap.size w.heap.size N (fun _=>.slice none 0 0) (fun _=>[]) :=
 ⟨ValB.made w N 27 (.slice none 0 0),fun _ _=>World.ownsRow_nil _ _ _ _,fun _ _ _ _ _ _ h=>(by cases h),Nat.le_refl _⟩
theorem UM.pushU (h:UM w B gU N UV UL) {w4 w6:World} {k:Nat} {L:List Int} {v:Value} {H:Nat} (hk:k<N) (h4:Below w.heap.size w w4) (hG:w4.grownBy w6 (UV k).ownBlock) (hO:w6.ownsRow B 3 1 v L.length (mapI L)) (hat:v.ownBlock=(UV k).ownBlock∨v.ownBlock=some H) (hH:w.heap.size≤H) :
  UM (w6.setCell ⟨gU,k,none⟩ v) B gU N (fun j=>if j=k then v else UV j) (fun j=>if j=k then L else UL j):=by
 have hr:=fun b (e:(UV k).ownBlock=some b)=>own_blk (h.own k hk) e
 have hkeep:∀ b,b<w.heap.size→(UV k).ownBlock≠some b→w6.heap[b]?=w.heap[b]?:=fun b hb hne=>(hG.block b (Nat.lt_of_lt_of_le hb h4.size) (fun e=>hne e.symm)).trans (h4.block b hb)
 have q2:(UV k).ownBlock≠some gU:=fun e=>by obtain ⟨-,-,cur,hc⟩:=hr gU e;exact (h.off hc) rfl
 have vU:v.ownBlock≠some gU:=fun e=>by
  rcases hat with h1 | h1
  ·exact q2 (h1.symm.trans e)
  ·rw [h1] at e;have:=h.hU.lt;simp at e;omega
 have oth:∀ (v1:Value) (L1:List Int),w.ownsRow B 3 1 v1 L1.length (mapI L1)→(∀ b,v1.ownBlock=some b→(UV k).ownBlock≠some b)→w6.ownsRow B 3 1 v1 L1.length (mapI L1):=fun v1 L1 h1 h2=>own_grown (own_later h1 h4) hG h2
 have far:∀ (v1:Value) (L1:List Int),w.ownsRow B 3 1 v1 L1.length (mapI L1)→(∀ b,v1.ownBlock=some b→(UV k).ownBlock≠some b)→∀ b,v1.ownBlock=some b→v.ownBlock≠some b:=fun v1 L1 h1 h2 b hb e=>by
  rcases hat with h3 | h3
  ·exact h2 b hb (h3.symm.trans e)
  ·rw [h3] at e
   have:=(own_blk h1 hb).2.1
   simp at e
   omega
 have dist:∀ j,j<N→j≠k→∀ b,(UV j).ownBlock=some b→(UV k).ownBlock≠some b:=fun j hj hne b hb=>h.dU j k hj hk hne b hb
 refine ⟨?_,fun j hj=>?_,fun i j hi hj hne b hb=>?_,h.lU⟩
 ·exact (h.hU.same (hkeep _ h.hU.lt q2)).set fun j _=>rfl
 ·by_cases e:j=k
  ·simp only [if_pos e]
   exact own_setc hO vU
  ·simp only [if_neg e]
   refine own_setc (oth _ _ (h.own j hj) (dist j hj e)) fun e2=>?_
   obtain ⟨-,-,cur,hc⟩:=own_blk (h.own j hj) e2
   exact (h.off hc) rfl
 ·by_cases ei:i=k
  ·simp only [if_pos ei] at hb
   have ej:j≠k:=fun e=>hne (ei.trans e.symm)
   simp only [if_neg ej]
   intro e2
   exact far _ _ (h.own j hj) (dist j hj ej) b e2 hb
  ·simp only [if_neg ei] at hb
   by_cases ej:j=k
   ·simp only [if_pos ej]
    exact far _ _ (h.own i hi) (dist i hi ei) b hb
   ·simp only [if_neg ej]
    exact h.dU i j hi hj hne b hb
end
def UMk (w:World) (gU N k:Nat) (Nn:List (List Int)) (w1:World):Prop := ∃ UV,UM w w1.heap.size gU N UV (fun j=>usrL Nn j k)∧Below w1.heap.size w1 w
def UMi (w:World) (gU N k i:Nat) (Nn:List (List Int)) (T:List Int) (A2:Option Addr) (c2:Nat) (w1:World):Prop := ∃ UV,UM w w1.heap.size gU N UV (fun j=>usrL Nn j k ++ (if (j:Int)∈T.take i then [(k:Int)] else []))∧(∀ j,j<N→∀ a,A2=some a→(UV j).ownBlock≠some a.block)∧IntT w A2 c2 T∧Below w1.heap.size w1 w
section
variable {w w2 w1:World} {gU N k i:Nat} {Nn:List (List Int)} {T:List Int} {A2:Option Addr} {c2:Nat}
theorem UMk.next (h:UMk w gU N k Nn w1) (hb:Below w.heap.size w w2) (hI:IntT w2 A2 c2 T) (hA:∀ a,A2=some a→w.heap.size≤a.block):UMi w2 gU N k 0 Nn T A2 c2 w1:=by
 obtain ⟨UV,hQ,hB⟩:=h
 refine ⟨UV,?_,fun j hj a ha e=>?_,hI,onB hB hb⟩
 ·have e:(fun j:Nat=>usrL Nn j k ++ (if (j:Int)∈T.take 0 then [(k:Int)] else []))=fun j=>usrL Nn j k:=by
   funext j
   simp
  rw [e]
  exact hQ.later hb
 ·have h1:=(own_blk (hQ.own j hj) e).2.1
  have h2:=hA a ha
  omega
theorem UMi.push (h:UMi w gU N k i Nn T A2 c2 w1) (hr:T.Nodup) (hi:i<T.length) {y:Nat} (hy:T.getD i 0=(y:Int)) (hyN:y<N) :
  ∃ AO ln cO Ly,w.cell? ⟨gU,y,none⟩=some (.slice AO ln cO)∧gU<w.heap.size∧ln≤k∧w.ownsRow w1.heap.size 3 1 (.slice AO ln cO) ln (mapI Ly)∧(∀ (w5 w6:World),Below w.heap.size w w5→w5.grownBy w6 (Value.slice AO ln cO).ownBlock→w6.cell? ⟨gU,y,none⟩=some (.slice AO ln cO)∧w6.frozen? ⟨gU,y,none⟩=false∧gU<w6.heap.size) ∧
  ∀ (w5 w6:World) (v:Value),Below w.heap.size w w5→w6.ownsRow w1.heap.size 3 1 v (ln+1) (mapI Ly ++ [.int .i64 (k:Int)])→w5.grownBy w6 (Value.slice AO ln cO).ownBlock→(v.ownBlock=(Value.slice AO ln cO).ownBlock∨v.ownBlock=some w5.heap.size)→UMi (w6.setCell ⟨gU,y,none⟩ v) gU N k (i+1) Nn T A2 c2 w1:=by
 obtain ⟨UV,hQ,hd,hI,hB⟩:=h
 have hnew:(y:Int)∉T.take i:=by
  intro h
  obtain ⟨j,hj,e⟩:=List.getElem_of_mem h
  have hj2:j<i:=by have:=hj;rw [List.length_take] at this;omega
  rw [List.getElem_take] at e
  have:=List.pairwise_iff_getElem.1 hr j i (by omega) hi hj2
  rw [List.getD_eq_getElem?_getD,List.getElem?_eq_getElem hi,Option.getD_some] at hy
  omega
 have hO:w.ownsRow w1.heap.size 3 1 (UV y) (usrL Nn y k).length (mapI (usrL Nn y k)):=by
  have h:=hQ.own y hyN
  simp only [if_neg hnew,List.append_nil] at h
  exact h
 obtain ⟨AO,cO,hv⟩:∃ AO cO,UV y=.slice AO (usrL Nn y k).length cO:=by
  rcases hO.2 with ⟨h1,h2⟩ | ⟨g,cap,cur,h1,-⟩
  ·exact ⟨none,0,by rw [h1,h2]⟩
  ·exact ⟨_,_,h1⟩
 have hqo:∀ b,(UV y).ownBlock=some b→b≠gU:=fun b hb=>by
  obtain ⟨-,-,cur,hc⟩:=own_blk hO hb
  exact hQ.off hc
 have hkp:∀ (w5 w6:World) (b:Nat),Below w.heap.size w w5→w5.grownBy w6 (UV y).ownBlock→b<w.heap.size→(UV y).ownBlock≠some b→w6.heap[b]?=w.heap[b]?:=fun w5 w6 b h5 hG hb hne=>(hG.block b (Nat.lt_of_lt_of_le hb h5.size) (fun e=>hne e.symm)).trans (h5.block b hb)
 refine ⟨AO,(usrL Nn y k).length,cO,usrL Nn y k,by rw [←hv];exact hQ.hU.cell hyN,hQ.hU.lt,usr_len _ _ _,by rw [←hv];exact hO,fun w5 w6 h5 hG=>?_,fun w5 w6 v h5 h6 hG hat=>?_⟩
 ·rw [←hv] at hG ⊢
  have e2:=hkp w5 w6 gU h5 hG hQ.hU.lt (fun e=>(hqo gU e) rfl)
  have hU6:=hQ.hU.same e2
  exact ⟨hU6.cell hyN,hU6.frozen y,hU6.lt⟩
 ·rw [←hv] at hG hat
  have hl1:((usrL Nn y k ++ [(k:Int)]).length)=(usrL Nn y k).length+1:=by rw [List.length_append];rfl
  have hP:=hQ.pushU (L:=usrL Nn y k ++ [(k:Int)]) (v:=v) (H:=w5.heap.size) hyN h5 hG (by rw [hl1,mapI_snoc];exact h6) hat h5.size
  have hB6:Below w1.heap.size w1 w6:=⟨hG.os.trans (onB hB h5).os,hG.tape.trans (onB hB h5).tape,hG.output.trans (onB hB h5).output,Nat.le_trans (onB hB h5).size hG.size,fun b hb=>(hG.block b (Nat.lt_of_lt_of_le hb (onB hB h5).size) (fun e=>by have:=(own_blk hO e.symm).1;omega)).trans ((onB hB h5).block b hb)⟩
  refine ⟨fun j=>if j=y then v else UV j,?_,fun j hj a ha=>?_,?_,hB6.setCell hQ.lU _⟩
  ·have e:(fun j:Nat=>usrL Nn j k ++ (if (j:Int)∈T.take (i+1) then [(k:Int)] else []))=fun j:Nat=>if j=y then usrL Nn y k ++ [(k:Int)] else usrL Nn j k ++ (if (j:Int)∈T.take i then [(k:Int)] else []):=by
    funext j
    have ht:(j:Int)∈T.take (i+1)↔(j:Int)∈T.take i∨j=y:=by
     rw [List.take_succ_eq_append_getElem hi,List.mem_append,List.mem_singleton]
     rw [List.getD_eq_getElem?_getD,List.getElem?_eq_getElem hi,Option.getD_some] at hy
     rw [hy]
     exact ⟨fun h=>h.imp id (by omega),fun h=>h.imp id (by omega)⟩
    by_cases ej:j=y
    ·rw [if_pos ej,if_pos (ht.2 (Or.inr ej)),ej]
    ·rw [if_neg ej]
     congr 1
     by_cases e2:(j:Int)∈T.take i
     ·rw [if_pos e2,if_pos (ht.2 (Or.inl e2))]
     ·rw [if_neg e2,if_neg (fun h=>(ht.1 h).elim e2 ej)]
   rw [e]
   exact hP
  ·by_cases ej:j=y
   ·simp only [if_pos ej]
    intro e
    rcases hat with h | h
    ·exact hd y hyN a ha (h.symm.trans e)
    ·obtain ⟨-,-,h2 | ⟨b,cs,fr,h2,h3,-⟩⟩:=hI
     ·rw [h2] at hi;simp at hi
     ·rw [ha] at h2
      cases h2
      have:=(Array.getElem?_eq_some_iff.1 h3).1
      have h5s:=h5.size
      rw [h] at e
      simp at e
      omega
   ·simp only [if_neg ej]
    exact hd j hj a ha
  ·have hI6:IntT w6 A2 c2 T:=by
    refine hI.one fun a ha=>?_
    obtain ⟨-,-,h2 | ⟨b,cs,fr,h2,h3,-⟩⟩:=id hI
    ·rw [h2] at hi;simp at hi
    ·rw [ha] at h2
     cases h2
     exact hkp w5 w6 b h5 hG (Array.getElem?_eq_some_iff.1 h3).1 (hd y hyN _ ha)
   refine hI6.one fun a ha=>setCell_off _ _ _ _ _ fun e=>?_
   obtain ⟨-,-,h2 | ⟨b,cs,fr,h2,h3,-⟩⟩:=id hI
   ·rw [h2] at hi;simp at hi
   ·rw [ha] at h2
    cases h2
    exact hQ.hU.off h3 row_ne_int' e
theorem UMi.done (h:UMi w gU N k T.length Nn T A2 c2 w1) (hT:∀ z,z∈T↔z∈Nn.getD k []):UMk w gU N (k+1) Nn w1:=by
 obtain ⟨UV,hQ,-,-,hB⟩:=h
 refine ⟨UV,?_,hB⟩
 have e:(fun j=>usrL Nn j (k+1))=fun j:Nat=>usrL Nn j k ++ (if (j:Int)∈T.take T.length then [(k:Int)] else []):=by
  funext j
  rw [usr_succ,List.take_length]
  congr 1
  by_cases h:(j:Int)∈T
  ·rw [if_pos h,if_pos ((hT _).1 h)]
  ·rw [if_neg h,if_neg fun h2=>h ((hT _).2 h2)]
 rw [e]
 exact hQ
end
set_option maxHeartbeats 16000000 in
theorem users_any (qp g n:Nat) (D:Nat→Dm) (X:Nat→AL) (w:World) (hR:AllR D n) (hE:(allErr D n).2.2=0) (hA:PlanV w qp g n D X) :
  Calls Tryz.prog 133 #[.pointer (some ⟨qp,0,none⟩)] w fun e w' => ∃ gU,e=.returned (.slice (some ⟨gU,0,none⟩) (prodN D n) (prodN D n))∧UMk w' gU (prodN D n) (prodN D n) (rowsL D n) w:=by
 obtain ⟨i0,hi0,hz0,hz1,hz2⟩:=info_parts Tryz.infoInt
 obtain ⟨hn1,hn4,hp3,hd⟩:=allErr_some hE
 have HNd:Hid (∀ k w',k<prodN D n→Below w.heap.size w w'→Calls Tryz.prog 90 #[.pointer (some ⟨qp,0,none⟩),.int .i64 k] w' fun e w''=>(∃ A' c',e=.returned (.slice A' (ndsX D n k).length c')∧IntT w'' A' c' (ndsX D n k)∧∀ a,A'=some a→w'.heap.size≤a.block)∧Below w'.heap.size w' w''):=fun k w' hk hB=>by
  refine (needs_any qp g n D X k w' hR hE hk (hA.later hB)).mono ?_
  rintro e w'' ⟨⟨v,rfl,hO⟩,hb⟩
  obtain ⟨A',c',rfl,hI⟩:=intT_own hO
  exact ⟨⟨A',c',rfl,hI,fun a ha=>(own_blk hO (by rw [ha];rfl)).1⟩,hb⟩
 have HRw:Hid (∀ k,k<prodN D n→(ndsX D n k).length≤12∧(∀ z∈ndsX D n k,∃ y:Nat,z=(y:Int)∧y<prodN D n)∧(ndsX D n k).Nodup∧∀ z,z∈ndsX D n k↔z∈(rowsL D n).getD k []):=fun k hk=>by
  obtain ⟨h1,h2⟩:=nds_rows hR hE hk
  refine ⟨nds_len hR hE hk,fun z hz=>?_,h2,h1⟩
  have:=rows_inn hR hE k (by rw [rows_len];exact hk) z ((h1 z).1 hz)
  rw [rows_len] at this
  exact ⟨z.toNat,by omega,by omega⟩
 obtain ⟨hq,-,q1⟩:=hA.cells
 obtain ⟨Nn,hNn⟩:∃ Nn,rowsL D n=Nn:=⟨_,rfl⟩
 rw [hNn] at HRw ⊢
 obtain ⟨N,hN⟩:∃ N,prodN D n=N:=⟨_,rfl⟩
 rw [hN] at HNd HRw hp3 q1 ⊢
 have hNI:(N:Int)≤3000:=by omega
 have hmkR:=run_make_row' (P:=Tryz.prog) 70 27 (.slice none 0 0) 24 Tryz.underlying70 Tryz.infoRow rfl .i64 .i64 N (by omega) (by omega)
 have HK1:Hid (UMk (w.alloc (.cells (madeCells #[.slice none 0 0] N) 27)) w.heap.size N 0 Nn w):=⟨_,UM.made w N,by go_grown⟩
 generalize ndsX D n=nx at HNd HRw
 clear hA hE hR hd hNn hN
 go_enter Tryz.func133,Tryz.ntmps133
 go_wp2_with fail
 go_loopg [16] N (fun gg s16 wr => ∃ (k:Nat),k≤N∧gg=N-k∧s16=.int .i64 k∧Hid (UMk wr w.heap.size N k Nn w))
 case atStart=>exact ⟨0,Nat.zero_le _,rfl,rfl,HK1⟩
 case round =>
  obtain ⟨k,hk,rfl,rfl,HK⟩:=hrel
  by_cases hlt:k<N
  ·have hki:(k:Int)<(N:Int):=by omega
   have HBr:Hid (Below w.heap.size w wr):=by obtain ⟨-,-,h⟩:=HK.out;exact h
   have hnd:=HNd.out k wr hlt HBr.out
   obtain ⟨h12,hin,hri,hme⟩:=HRw.out k hlt
   obtain ⟨T,hT⟩:∃ T,nx k=T:=⟨_,rfl⟩
   rw [hT] at hnd h12 hin hri hme
   have HIn:Hid (∀ z∈T,∃ y:Nat,z=(y:Int)∧y<N):=hin
   have HRi:Hid T.Nodup:=hri
   have HMe:Hid (∀ z,z∈T↔z∈Nn.getD k []):=hme
   obtain ⟨tl,htl⟩:∃ tl,T.length=tl:=⟨_,rfl⟩
   have HTl:Hid (T.length=tl):=htl
   rw [htl] at hnd h12
   have htI:(tl:Int)≤12:=by omega
   clear hin hri hme hT htl
   go_wp2_with fail
   refine hnd.mono ?_
   rintro e w3 ⟨⟨A2,c2,rfl,hI2,hA2⟩,hb2⟩
   have HI3:Hid (UMi w3 w.heap.size N k 0 Nn T A2 c2 w):=HK.out.next hb2 hI2 hA2
   clear hnd hI2 hA2 hb2
   go_wp2_with fail
   go_loopg [23] tl (fun gg s23 wi => ∃ (i:Nat),i≤tl∧gg=tl-i∧s23=.int .i64 i∧Hid (UMi wi w.heap.size N k i Nn T A2 c2 w))
   case atStart=>exact ⟨0,Nat.zero_le _,rfl,rfl,HI3⟩
   case round =>
    obtain ⟨i,hi,rfl,rfl,HQ⟩:=hrel
    by_cases hilt:i<tl
    ·have hii:(i:Int)<(tl:Int):=by omega
     have hiT:i<T.length:=by rw [HTl.out];exact hilt
     obtain ⟨y,hy,hyN⟩:=HIn.out _ (getD_memI hiT)
     have hyI:(y:Int)<(N:Int):=by omega
     obtain ⟨AO,ln,cO,Ly,cU,hgl,hln,hO,hRc,hFi⟩:=HQ.out.push HRi.out hiT hy hyN
     have HO:Hid (wr.ownsRow w.heap.size 3 1 (.slice AO ln cO) ln (mapI Ly)):=hO
     have HRch:=hid_of hRc
     have HFin:=hid_of hFi
     obtain ⟨hcT,hBs⟩:IntT wr A2 c2 T∧w.heap.size≤wr.heap.size:=by
      obtain ⟨UV,-,-,hI,hB⟩:=HQ.out
      exact ⟨hI,hB.size⟩
     obtain ⟨hcS,-,hS0 | ⟨bs,cs,fr,rfl,hbS,hcl⟩⟩:=hcT
     ·rw [hS0] at hiT;simp at hiT
     have cx:=hcl i hiT
     have hbs:bs<wr.heap.size:=(Array.getElem?_eq_some_iff.1 hbS).1
     rw [HTl.out] at hcS
     rw [hy] at cx
     have hcSI:(tl:Int)≤(c2:Int):=by omega
     have hlnI:ln≤3000:=by omega
     clear hcl hbS hO hRc hFi hy
     go_wp2_with (at_builtin;refine wpList_append_own_at _ rfl _ _ 27 rfl w.heap.size 3 i0 (.int .i64 0) 1 8 Tryz.underlying27 hi0 hz0 hz1 hz2 rfl (by decide) _ _ _ rfl (HO.out.alloc _) ⟨wr.heap.size,0,none⟩ 1 1 [.int .i64 k] rfl rfl one_cell one_one (by unfold maxLen;omega) (by omega) (by simp;omega) ?_)
     intro v' w6 hown' hgrow _ hat
     obtain ⟨y1,y2,y3⟩:=HRch.out _ _ (by go_grown) hgrow
     obtain ⟨A',c',rfl⟩:∃ A' c',v'=.slice A' (ln+1) c':=by
      rcases hown'.2 with ⟨-,h⟩ | ⟨g',c',cur,h,-⟩
      ·omega
      ·exact ⟨_,_,h⟩
     have HF6:=hid_of (HFin.out _ _ _ (by go_grown) hown' hgrow (hat.imp id fun h=>by rw [h];simp))
     clear hown' hgrow hat
     go_wp2_with fail
     go_roundg (tl-(i+1))
     case measure=>omega
     case rel=>exact ⟨i+1,by omega,rfl,by go_num,HF6⟩
    ·have hie:i=tl:=by omega
     have HF6:Hid (UMk wr w.heap.size N (k+1) Nn w):=by
      have h:=HQ.out
      rw [hie,←HTl.out] at h
      exact h.done HMe.out
     subst hie
     clear HQ HI3
     go_wp2_with fail
     go_roundg (N-(k+1))
     case measure=>omega
     case rel=>exact ⟨k+1,by omega,rfl,by go_num,HF6⟩
  ·have hke:k=N:=by omega
   subst hke
   go_wp2_with fail
   go_ret
   exact ⟨_,rfl,HK.out⟩
end Go.Proofs.YtigkeokacagabafGreatDoor
