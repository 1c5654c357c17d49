/-
  The product of what a place's members count, and what comes of entries at a place: what product and Value of package roll answer, called in whatever memory.
-/
import Derived.Test.YtbhanigcjdegjaaGreatDoorJABG
namespace Go.Proofs.YtbhanigcjdegjaaGreatDoor
open Go.ChangeShapes Go.WideShapes Go.ChangeAt Go.RowKit
set_option maxRecDepth 20000
set_option maxHeartbeats 2000000 in
theorem rprod_any (g n:Nat) (D:Nat→Dm) (p:List Int) (Aq:Option Addr) (cq:Nat) (q:List Int) (w:World) (hq:InO D n q) (hS:SlB w g n n (wts D p)) (hQ:PlAt w Aq cq q):Calls Tryz.prog 24 #[.slice (some ⟨g,0,none⟩) n n,.slice Aq q.length cq] w fun e w'=>e=.returned (.int .i64 (prTo (wts D p) q n))∧Below w.heap.size w w':=by
 obtain ⟨hn1,hn4,-,hd⟩:=allErr_some hq.right
 have hl:=hq.len
 obtain ⟨hcp,h0 | ⟨bq,oq,rfl,hbq,hcell⟩⟩:=hQ
 ·rw [h0] at hl;simp at hl;omega
 rw [hl] at hcp hcell ⊢
 have HC:Hid (∀ j,j<n→w.cell? ⟨bq,oq+j,none⟩=some (.int .i64 (q.getD j 0))):=hcell
 have HS:Hid (SlB w g n n (wts D p)):=hS
 have HQ:Hid (InO D n q):=hq
 have hn':(n:Int)≤4:=by omega
 clear hcell hS hq hl
 go_enter Tryz.func24,Tryz.ntmps24
 go_wp2_with fail
 go_loopg [5,10] n (fun g' s5 s10 wr => ∃ (k:Nat),k≤n∧g'=n-k∧s10=.int .i64 k∧s5=.int .i64 (prTo (wts D p) q k)∧Below w.heap.size w wr)
 case atStart=>exact ⟨0,Nat.zero_le _,rfl,rfl,rfl,Below.refl _ _⟩
 case round =>
  obtain ⟨k,hk,rfl,rfl,rfl,hBw⟩:=hrel
  have HBw:Hid (Below w.heap.size w wr):=hBw
  by_cases hlt:k<n
  ·have hki:(k:Int)<(n:Int):=by omega
   obtain ⟨AL,cL,hcL,hcl,hIL⟩:=(HS.out.later hBw).get hlt
   have hlen:(wts D p k).length=(D k).n:=cnts_len ..
   have e1:=(hBw.cell (p:=⟨bq,oq+k,none⟩) hbq).trans (HC.out k hlt)
   obtain ⟨x,hx⟩:∃ x:Nat,q.getD k 0=x:=⟨(q.getD k 0).toNat,by have:=HQ.out.lo k hlt;omega⟩
   have hxn:x<(D k).n:=by have:=HQ.out.hi k hlt;omega
   obtain ⟨hdn1,hdn2⟩:=hd k hlt
   rcases hIL with h0 | ⟨bL,rfl,hbL,hLc⟩
   ·rw [h0] at hlen;simp at hlen;omega
   have e2:=hLc x (by omega)
   rw [hlen] at hcL hcl
   rw [hx] at e1
   have HPr:Hid (prTo (wts D p) q (k+1)=prTo (wts D p) q k*(wts D p k).getD x 0):=by show _=_;rw [prTo,hx,Int.toNat_natCast]
   have hs1:=prTo_small HQ.out.right p q (k+1) (by omega)
   rw [HPr.out] at hs1
   obtain ⟨hs1,hs2⟩:=hs1
   generalize (wts D p k).getD x 0=y at e2 HPr hs1 hs2
   generalize (D k).n=dk at hcL hcl hdn1 hdn2 hxn
   generalize prTo (wts D p) q k=z at HPr hs1 hs2
   have hxi:(x:Int)<(dk:Int):=by omega
   have hdi:(dk:Int)≤12:=by omega
   clear hBw hLc hlen hx
   go_wp2_with fail
   first | go_quiet (fail) | skip
   go_wp2_with fail
   go_roundg (n-(k+1))
   case measure=>omega
   case rel=>exact ⟨k+1,by omega,rfl,by go_num,by rw [HPr.out],by first | exact HBw.out | exact below_drewN HBw.out _⟩
  ·have hke:k=n:=by omega
   subst hke
   clear hBw
   go_wp2_with fail
   go_ret
   exact ⟨rfl,HBw.out⟩
set_option maxHeartbeats 4000000 in
theorem rvalue_any (A0:Option Addr) (cap n:Nat) (D:Nat→Dm) (A:Nat→Option Addr) (C:Nat→Nat) (AE:Option Addr) (ce:Nat) (xs:List EnL) (Ap:Option Addr) (cp:Nat) (p:List Int) (w:World) (hEs:Ens D n (lE xs)) (hp:InO D n p) (hM:DimsV w A0 cap n D A C) (hE:EnsV w AE ce xs) (hP:PlAt w Ap cp p) :
  Calls Tryz.prog 8 #[.agg #[.slice A0 n cap],.slice AE xs.length ce,.slice Ap p.length cp] w fun e w'=>e=.returned (.tuple #[.agg #[.int .i64 (rollV D n (lE xs) p).1,.int .i64 (rollV D n (lE xs) p).2],.nilIface])∧Below w.heap.size w w':=by
 have hB0:=ownOC_below w A0 n cap
 have h:=icheck_any A0 cap n D A C AE ce xs (ownOC w A0 n cap) (hM.later hB0) (hE.later hB0)
 rw [hEs.ok,errV_zero] at h
 have HB0:Hid (Below w.heap.size w (ownOC w A0 n cap)):=hB0
 have HWs:Hid (∀ w',Below w.heap.size w w'→Calls Tryz.prog 23 #[.agg #[.slice A0 n cap],.slice Ap p.length cp] w' fun e w''=>(∃ g,e=.returned (.tuple #[.slice (some ⟨g,0,none⟩) n n,.nilIface])∧SlB w'' g n n (wts D p))∧Below w'.heap.size w' w''):=fun w' hw'=>rws_any A0 cap n D A C Ap cp p w' hp (hM.later hw') (hP.later hw')
 have HE:Hid (EnsV w AE ce xs):=hE
 have HEs:Hid (Ens D n (lE xs)):=hEs
 have hfew:xs.length≤3000:=by have:=hEs.few;rw [lE_len] at this;exact this
 have HFin:Hid (((lE xs).take xs.length).foldl (rollStep D n p) (0,0)=rollV D n (lE xs) p):=by show _=_;rw [List.take_of_length_le (by rw [lE_len];exact Nat.le_refl _)];exact roll_fold ..
 obtain ⟨N,hN⟩:∃ N,xs.length=N:=⟨_,rfl⟩
 have HN:Hid (xs.length=N):=hN
 rw [hN] at h hfew HFin
 rw [hN]
 generalize p.length=np at HWs
 have hNi:(N:Int)≤3000:=by omega
 clear hB0 hM hE hP hN hEs hp
 go_enter Tryz.func8,Tryz.ntmps8
 go_wp2_with fail
 refine h.mono ?_
 rintro e w1 ⟨rfl,hb1⟩
 have hB:Below w.heap.size w w1:=onB HB0.out hb1
 have hz1:w.heap.size+1<w1.heap.size:=by have:=hb1.size;rw [ownOC_size] at this;omega
 have c1:w1.cell? ⟨w.heap.size,0,none⟩=some (.slice A0 n cap):=(hb1.cell (p:=⟨w.heap.size,0,none⟩) (by show w.heap.size<_;rw [ownOC_size];omega)).trans (ownOC_o ..)
 have HK1:Hid (w1.heap[w.heap.size+1]?=some (.cells #[.int .i64 0,.int .i64 0] 39)):=(hb1.block (w.heap.size+1) (by rw [ownOC_size];omega)).trans (ownOC_b ..)
 have hws:=HWs.out w1 hB
 have HB:Hid (Below w.heap.size w w1):=hB
 clear hb1 h hB
 go_wp2_with fail
 refine hws.mono ?_
 rintro e w2 ⟨⟨g,rfl,hS⟩,hb2⟩
 have HB2:Hid (Below w.heap.size w w2):=onB HB.out hb2
 have HS:Hid (SlB w2 g n n (wts D p)):=hS
 have HK2:Hid (w2.heap[w.heap.size+1]?=some (.cells #[.int .i64 0,.int .i64 0] 39)):=(hb2.block _ hz1).trans HK1.out
 have hz2:w.heap.size+1<w2.heap.size:=Nat.lt_of_lt_of_le hz1 hb2.size
 clear hb2 hS hws c1 HK1 HB hz1
 go_wp2_with fail
 go_loopg [11,12,35] N (fun g' s11 s12 s35 wr => ∃ (k:Nat),k≤N∧g'=N-k∧s35=.int .i64 k∧s11=.int .i64 (rollN D n p ((lE xs).take k))∧s12=.bool (((lE xs).take k).any (cntR D n p))∧Below w2.heap.size w2 wr)
 case atStart=>exact ⟨0,Nat.zero_le _,rfl,rfl,rfl,rfl,Below.refl _ _⟩
 case round =>
  obtain ⟨k,hk,rfl,rfl,rfl,rfl,hBw⟩:=hrel
  have HBw:Hid (Below w2.heap.size w2 wr):=hBw
  by_cases hlt:k<N
  ·have hki:(k:Int)<(N:Int):=by omega
   have hkx:k<xs.length:=by rw [HN.out];exact hlt
   have hkl:k<(lE xs).length:=by rw [lE_len];exact hkx
   obtain ⟨hce,-,h0 | ⟨b,o,rfl,hA⟩⟩:=HE.out.later (onB HB2.out hBw)
   ·rw [h0] at hkx;cases hkx
   obtain ⟨c0,c1⟩:=hA.at hkx
   have hpl:=hA.pl hkx
   have hel:(lE xs)[k]=(xs.getD k noL).e:=by rw [←lE_at,List.getD_eq_getElem?_getD,List.getElem?_eq_getElem hkl];rfl
   obtain ⟨hqO,hqL,hqN⟩:=HEs.out.each (lE xs)[k] (List.getElem_mem hkl)
   rw [hel] at hqO hqL hqN
   have hw0:=pwTo_small hqO p n (Nat.le_refl _)
   have hpr:=pr_wts hqO hqL p n (Nat.le_refl _)
   have HPd:Hid (∀ w',Below wr.heap.size wr w'→Calls Tryz.prog 24 #[.slice (some ⟨g,0,none⟩) n n,.slice (xs.getD k noL).A (xs.getD k noL).e.pl.length (xs.getD k noL).c] w' fun e w''=>e=.returned (.int .i64 (pwTo D p (xs.getD k noL).e.pl n))∧Below w'.heap.size w' w''):=fun w' hw'=>by
    have:=rprod_any g n D p _ _ _ w' hqO (HS.out.later (onB hBw hw')) (hpl.later hw')
    rw [hpr] at this
    exact this
   have hn1 : -1000000≤(xs.getD k noL).e.n∧(xs.getD k noL).e.n≤1000000:=by simpa [numOk] using hqN
   have hbd:=roll_bound p ((lE xs).take k) fun e he=>HEs.out.each e (List.mem_of_mem_take he)
   have hlk:(((lE xs).take k).length:Int)≤3000:=by
    have:=List.length_take_le k (lE xs)
    omega
   have HT:Hid ((lE xs).take (k+1)=(lE xs).take k ++ [(xs.getD k noL).e]):=by show _=_;rw [List.take_succ_eq_append_getElem hkl,hel]
   have HCn:Hid (cntR D n p (xs.getD k noL).e = !(pwTo D p (xs.getD k noL).e.pl n == 0)):=cnt_pw
   have HVr:Hid (valR D n p (xs.getD k noL).e=pwTo D p (xs.getD k noL).e.pl n*(xs.getD k noL).e.n):=rfl
   generalize hlen:((lE xs).take k).length=lk at hbd hlk
   obtain ⟨RS,hRS⟩:∃ v,rollN D n p ((lE xs).take k)=v:=⟨_,rfl⟩
   have HRS:Hid (rollN D n p ((lE xs).take k)=RS):=hRS
   rw [hRS] at hbd ⊢
   obtain ⟨an,han⟩:∃ v,((lE xs).take k).any (cntR D n p)=v:=⟨_,rfl⟩
   have HAN:Hid (((lE xs).take k).any (cntR D n p)=an):=han
   rw [han]
   generalize (xs.getD k noL).e=en at *
   generalize (xs.getD k noL).A=Ae at *
   generalize (xs.getD k noL).c=ke at *
   generalize pwTo D p en.pl n=pw at HPd HCn HVr hw0
   obtain ⟨en1,en2⟩:=en
   simp only at *
   generalize en1.length=me at c0 HPd
   have hRS1 : -3000000000≤RS:=by omega
   have hRS2:RS≤3000000000:=by omega
   have hcs:pw=0∨pw=1∨pw = -1:=by omega
   clear hBw hA hpl hqO hqL hqN hpr hbd hlk hlen hRS han hel hw0
   obtain ⟨hn1,hn2⟩:=hn1
   rcases hcs with rfl | rfl | rfl
   ·have HC0:Hid (cntR D n p ⟨en1,en2⟩=false):=HCn.out
    go_wp2_with fail
    refine (HPd.out _ (by go_grown)).mono ?_
    rintro e w3 ⟨rfl,hb3⟩
    have HB3:Hid (Below wr.heap.size wr w3):=onB (by go_grown) hb3
    clear hb3
    go_wp2_with fail
    go_roundg (N-(k+1))
    case measure=>omega
    case rel =>
     refine ⟨k+1,by omega,rfl,by go_num,?_,?_,onB HBw.out HB3.out⟩
     ·rw [HT.out,rollN_append,HRS.out,rollN,rollN,if_neg (by rw [HC0.out];simp)]
      simp
     ·rw [HT.out,List.any_append,HAN.out];simp [HC0.out]
   ·have HC0:Hid (cntR D n p ⟨en1,en2⟩=true):=HCn.out
    have HV0:Hid (valR D n p ⟨en1,en2⟩=en2):=by show _=_;rw [HVr.out];simp
    go_wp2_with fail
    refine (HPd.out _ (by go_grown)).mono ?_
    rintro e w3 ⟨rfl,hb3⟩
    have HB3:Hid (Below wr.heap.size wr w3):=onB (by go_grown) hb3
    have c3:w3.cell? ⟨wr.heap.size,1,none⟩=some (.int .i64 en2):=(hb3.cell (p:=⟨wr.heap.size,1,none⟩) (by simp)).trans (by simp)
    clear hb3
    go_wp2_with fail
    go_roundg (N-(k+1))
    case measure=>omega
    case rel =>
     refine ⟨k+1,by omega,rfl,by go_num,?_,?_,onB HBw.out HB3.out⟩
     ·rw [HT.out,rollN_append,HRS.out,rollN,rollN,if_pos HC0.out,HV0.out]
      first | rfl | (congr 1;omega) | go_num
     ·rw [HT.out,List.any_append,HAN.out];simp [HC0.out]
   ·have HC0:Hid (cntR D n p ⟨en1,en2⟩=true):=HCn.out
    have HV0:Hid (valR D n p ⟨en1,en2⟩ = -en2):=by show _=_;rw [HVr.out];simp
    go_wp2_with fail
    refine (HPd.out _ (by go_grown)).mono ?_
    rintro e w3 ⟨rfl,hb3⟩
    have HB3:Hid (Below wr.heap.size wr w3):=onB (by go_grown) hb3
    have c3:w3.cell? ⟨wr.heap.size,1,none⟩=some (.int .i64 en2):=(hb3.cell (p:=⟨wr.heap.size,1,none⟩) (by simp)).trans (by simp)
    clear hb3
    go_wp2_with fail
    go_roundg (N-(k+1))
    case measure=>omega
    case rel =>
     refine ⟨k+1,by omega,rfl,by go_num,?_,?_,onB HBw.out HB3.out⟩
     ·rw [HT.out,rollN_append,HRS.out,rollN,rollN,if_pos HC0.out,HV0.out]
      first | rfl | (congr 1;omega) | go_num
     ·rw [HT.out,List.any_append,HAN.out];simp [HC0.out]
  ·have hke:k=N:=by omega
   subst hke
   have hz3:w.heap.size+1<wr.heap.size:=Nat.lt_of_lt_of_le hz2 hBw.size
   have HK3:Hid (wr.heap[w.heap.size+1]?=some (.cells #[.int .i64 0,.int .i64 0] 39)):=(hBw.block _ hz2).trans HK2.out
   have HAll:Hid ((lE xs).take k=lE xs):=by show _=_;rw [List.take_of_length_le (by rw [lE_len,HN.out];exact Nat.le_refl _)]
   rw [HAll.out]
   have hbd:=roll_bound p (lE xs) HEs.out.each
   have hlk:((lE xs).length:Int)≤3000:=by rw [lE_len,HN.out];omega
   have hR1 : -3000000000≤rollN D n p (lE xs):=by omega
   have hR2:rollN D n p (lE xs)≤3000000000:=by omega
   cases han:(lE xs).any (cntR D n p)
   ·have HV1:Hid (rollV D n (lE xs) p=(0,0)):=by show _=_;unfold rollV rollK;rw [roll_none han,han];rfl
    have d0:wr.cell? ⟨w.heap.size+1,0,none⟩=some (.int .i64 0):=by rw [Lib.cell_of_heap HK3.out];rfl
    have d1:wr.cell? ⟨w.heap.size+1,1,none⟩=some (.int .i64 0):=by rw [Lib.cell_of_heap HK3.out];rfl
    have f0:wr.frozen? ⟨w.heap.size+1,0,none⟩=false:=Lib.frozen_of_heap HK3.out 0
    have f1:wr.frozen? ⟨w.heap.size+1,1,none⟩=false:=Lib.frozen_of_heap HK3.out 1
    generalize rollN D n p (lE xs)=RS
    clear hBw han hbd hlk hR1 hR2
    go_wp2_with fail
    refine bodyPost_ret (v:=.tuple #[.agg #[.int .i64 0,.int .i64 0],.nilIface]) (by simp [results,Tryz.results8,go_sem,d0,d1]) rfl ⟨by rw [HV1.out],?_⟩
    exact ((onB HB2.out HBw.out).setCell (by show w.heap.size≤w.heap.size+1;omega) _).setCell (by show w.heap.size≤w.heap.size+1;omega) _
   ·have HV1:Hid (rollV D n (lE xs) p=(1,rollN D n p (lE xs))):=by show _=_;unfold rollV rollK;rw [han];rfl
    generalize rollN D n p (lE xs)=RS at HV1 hR1 hR2
    have hof:=fun w'=>of_any RS w'
    have hofp:ofP RS=(1,RS):=ofP_in (by omega) (by omega)
    rw [hofp] at hof
    clear hBw han hbd hlk hofp
    go_wp2_with fail
    refine (hof _).mono ?_
    rintro e w4 ⟨rfl,hb4⟩
    have k4:w4.heap[w.heap.size+1]?=some (.cells #[.int .i64 0,.int .i64 0] 39):=(hb4.block _ hz3).trans HK3.out
    have d0:w4.cell? ⟨w.heap.size+1,0,none⟩=some (.int .i64 0):=by rw [Lib.cell_of_heap k4];rfl
    have d1:w4.cell? ⟨w.heap.size+1,1,none⟩=some (.int .i64 0):=by rw [Lib.cell_of_heap k4];rfl
    have f0:w4.frozen? ⟨w.heap.size+1,0,none⟩=false:=Lib.frozen_of_heap k4 0
    have f1:w4.frozen? ⟨w.heap.size+1,1,none⟩=false:=Lib.frozen_of_heap k4 1
    have HB4:Hid (Below w.heap.size w w4):=onB (onB HB2.out HBw.out) hb4
    clear hb4 k4 hof
    go_wp2_with fail
    refine bodyPost_ret (v:=.tuple #[.agg #[.int .i64 1,.int .i64 RS],.nilIface]) (by simp [results,Tryz.results8,go_sem,d0,d1]) rfl ⟨by rw [HV1.out],?_⟩
    exact (HB4.out.setCell (by show w.heap.size≤w.heap.size+1;omega) _).setCell (by show w.heap.size≤w.heap.size+1;omega) _
end Go.Proofs.YtbhanigcjdegjaaGreatDoor
