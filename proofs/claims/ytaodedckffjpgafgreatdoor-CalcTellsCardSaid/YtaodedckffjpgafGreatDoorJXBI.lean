/-
  By which dim a place is told, as the document tells it, in whatever memory.
-/
import Derived.Test.YtaodedckffjpgafGreatDoorJXAV
import Derived.Test.YtaodedckffjpgafGreatDoorJXBG
import Derived.Test.YtaodedckffjpgafGreatDoorJXBH
namespace Go.Proofs.YtaodedckffjpgafGreatDoor
open Go.ChangeShapes Go.WideShapes Go.ChangeAt Go.RowKit
set_option maxRecDepth 20000
set_option maxHeartbeats 4000000 in
theorem sby_any (A0:Option Addr) (cap n:Nat) (D:Nat→Dm) (A:Nat→Option Addr) (C:Nat→Nat) (Ap:Option Addr) (cp:Nat) (L:List Int) (w:World) (hI:InO D n L) (hM:DimsV w A0 cap n D A C) (hP:PlAt w Ap cp L):Calls Tryz.prog 20 #[.agg #[.slice A0 n cap],.slice Ap L.length cp] w fun e w'=>e=.returned (.int .i64 (byTo D L n))∧Below w.heap.size w w':=by
 obtain ⟨hn1,hn4,-,hd⟩:=allErr_some hI.right
 have hn':(n:Int)≤4:=by omega
 have HD:Hid (∀ i,i<n→1≤(D i).n∧(D i).n≤12):=hd
 have HI:Hid (InO D n L):=hI
 have hl:=hI.len
 have HM:Hid (DimsV w A0 cap n D A C):=hM
 obtain ⟨hcp,h0 | ⟨bp,op,rfl,hbp,hcell⟩⟩:=hP
 ·rw [h0] at hl;simp at hl;omega
 rw [hl] at hcp ⊢
 have hcpI:(n:Int)≤(cp:Int):=by omega
 have HC:Hid (∀ j,j<n→w.cell? ⟨bp,op+j,none⟩=some (.int .i64 (L.getD j 0))):=fun j hj=>hcell j (by omega)
 have hB0:=ownOut_below w A0 n cap 42
 have hS:=ownOut_size w A0 n cap 42
 have hA:=ownOut_at w A0 n cap 42
 obtain ⟨W,hW⟩:∃ W,ownOut w A0 n cap 42=W:=⟨_,rfl⟩
 rw [hW] at hB0 hS hA
 unfold ownOut at hW
 have HB0:Hid (Below w.heap.size w W):=hB0
 have HA:Hid (W.cell? ⟨w.heap.size,0,none⟩=some (.slice A0 n cap)):=hA
 have hsz:w.heap.size<W.heap.size:=by omega
 clear hl hcell hd hI hM hB0 hA
 go_enter Tryz.func20,Tryz.ntmps20
 go_wp2_with fail
 clear hW
 go_loopg [5,6] n (fun g s5 s6 wr => ∃ (k:Nat),k≤n∧g=n-k∧s5=.int .i64 (byTo D L k)∧s6=.int .i64 k∧Below W.heap.size W wr)
 case atStart=>exact ⟨0,Nat.zero_le _,rfl,rfl,rfl,Below.refl _ _⟩
 case round =>
  obtain ⟨k,hk,rfl,rfl,rfl,hBw⟩:=hrel
  have HBw:Hid (Below W.heap.size W wr):=hBw
  by_cases hlt:k<n
  ·have hki:(k:Int)<(n:Int):=by omega
   have cw:wr.cell? ⟨w.heap.size,0,none⟩=some (.slice A0 n cap):=(hBw.cell (p:=⟨w.heap.size,0,none⟩) hsz).trans HA.out
   have hszr:w.heap.size<wr.heap.size:=Nat.lt_of_lt_of_le hsz hBw.size
   have cp1:wr.cell? ⟨bp,op+k,none⟩=some (.int .i64 (L.getD k 0)):=((onB HB0.out hBw).cell (p:=⟨bp,op+k,none⟩) hbp).trans (HC.out k hlt)
   have hbpr:bp<wr.heap.size:=Nat.lt_of_lt_of_le hbp (onB HB0.out hBw).size
   obtain ⟨hcap,h0 | ⟨b,o,rfl,hMs⟩⟩:=HM.out.later (onB HB0.out hBw)
   ·omega
   have hcapI:(n:Int)≤(cap:Int):=by omega
   have hbr:b<wr.heap.size:=hMs.1
   obtain ⟨d0,d1,d2,d3⟩:=hMs.2 k hlt
   have hp0:=HI.out.lo k hlt
   have hp1:=HI.out.hi k hlt
   obtain ⟨x,hx⟩:∃ x:Nat,L.getD k 0=(x:Int):=⟨(L.getD k 0).toNat,by omega⟩
   rw [hx] at cp1 hp1
   obtain ⟨hcm,h0 | ⟨bm,om,hAm,hMm⟩⟩:=d3
   ·have:=(HD.out k hlt).1;omega
   rw [hAm] at d2
   have HLf:Hid (∀ w',Below wr.heap.size wr w'→Calls Tryz.prog 43 #[.agg #[.string (D k).name,.int .i64 (D k).solve,.slice (some ⟨bm,om,none⟩) (D k).n (C k)],.int .i64 x] w' fun e w''=>e=.returned (.bool (leafB (D k).mem (D k).n x))∧Below w'.heap.size w' w''):=fun w' hB=>rleaf_any (D k) bm om (C k) x w' (HD.out k hlt).2 (by omega) (hMm.later hB)
   have HB:Hid (∀ h,leafB (D k).mem (D k).n x=h→(h=true→byTo D L (k+1)=byTo D L k)∧(h=false→(byTo D L k<0→byTo D L (k+1)=(k:Int))∧∀ j:Nat,byTo D L k=(j:Int)→byTo D L (k+1)=if (D j).solve<(D k).solve then (k:Int) else (j:Int))):=fun h e=>by
    refine ⟨fun e2=>?_,fun e2=>⟨fun e3=>?_,fun j hj=>?_⟩⟩
    ·refine by_miss fun ⟨h1,_⟩=>?_
     rw [hx,Int.toNat_natCast,e,e2] at h1
     cases h1
    ·exact by_hit (by rw [hx,Int.toNat_natCast,e,e2]) (Or.inl e3)
    ·by_cases hs:(D j).solve<(D k).solve
     ·rw [if_pos hs]
      exact by_hit (by rw [hx,Int.toNat_natCast,e,e2]) (Or.inr (by rw [hj,Int.toNat_natCast];exact hs))
     ·rw [if_neg hs,←hj]
      refine by_miss fun ⟨_,h2⟩=>?_
      rw [hj,Int.toNat_natCast] at h2
      omega
   obtain ⟨lf,hlf⟩:∃ lf,leafB (D k).mem (D k).n x=lf:=⟨_,rfl⟩
   have HB2:=hid_of (HB.out lf hlf)
   rw [hlf] at HLf
   have HSv:Hid (∀ w',Below wr.heap.size wr w'→∀ j,j<n→w'.cell? ⟨b,o+j*3+1,none⟩=some (.int .i64 (D j).solve)):=fun w' hB j hj=>((hMs.later hB).2 j hj).2.1
   have HBi:=hid_of (by_in D L k)
   clear hx hMm hMs hAm hBw hlf HB
   go_upto_region 5 with fail
   go_cut [7] from 8 to 45 (fun s7 wx=>s7=.bool lf∧Below wr.heap.size wr wx)
   case first =>
    go_region_law ((go_simp;refine (HLf.out _ (by go_grown)).mono ?_;rintro e w3 ⟨rfl,hb3⟩;have hN3:=onB (W0:=wr) (by go_grown) hb3;clear hb3))
    all_goals go_wp2_with fail
    all_goals go_meet
    all_goals exact ⟨rfl,hN3⟩
   case rest =>
   obtain ⟨rfl,hBc⟩:=hcut
   obtain ⟨w3,rfl⟩:∃ w3:World,w3=wc:=⟨_,rfl⟩
   have HB3:Hid (Below W.heap.size W w3):=onB HBw.out hBc
   have cw3:=(hBc.cell (p:=⟨w.heap.size,0,none⟩) hszr).trans cw
   have hsz3:w.heap.size<w3.heap.size:=Nat.lt_of_lt_of_le hszr hBc.size
   have hb3:b<w3.heap.size:=Nat.lt_of_lt_of_le hbr hBc.size
   have ck3:=HSv.out w3 hBc k hlt
   cases lf
   ·rcases HBi.out with hneg | ⟨j,hj,hjk⟩
    ·have HNx:Hid (byTo D L (k+1)=(k:Int)):=(HB2.out.2 rfl).1 (by omega)
     rw [hneg]
     clear hneg hBc
     go_wp2_with fail
     go_quiet (fail)
     go_wp2_with fail
     go_roundg (n-(k+1))
     case measure=>omega
     case rel=>exact ⟨k+1,by omega,rfl,by rw [HNx.out],by go_num,below_drewN HB3.out _⟩
    ·have HNx:Hid (byTo D L (k+1)=if (D j).solve<(D k).solve then (k:Int) else (j:Int)):=(HB2.out.2 rfl).2 j hj
     have cj3:=HSv.out w3 hBc j (by omega)
     have hjn:(j:Int)<(n:Int):=by omega
     have hj0:decide ((j:Int)<0)=false:=decide_eq_false (by omega)
     rw [hj]
     clear hj hBc
     by_cases hs:(D j).solve<(D k).solve
     ·rw [if_pos hs] at HNx
      have hsb:decide ((D j).solve<(D k).solve)=true:=decide_eq_true hs
      go_wp2_with fail
      go_quiet (fail)
      go_wp2_with fail
      go_roundg (n-(k+1))
      case measure=>omega
      case rel=>exact ⟨k+1,by omega,rfl,by rw [HNx.out],by go_num,below_drewN HB3.out _⟩
     ·rw [if_neg hs] at HNx
      have hsb:decide ((D j).solve<(D k).solve)=false:=decide_eq_false hs
      go_wp2_with fail
      go_quiet (fail)
      go_wp2_with fail
      go_roundg (n-(k+1))
      case measure=>omega
      case rel=>exact ⟨k+1,by omega,rfl,by rw [HNx.out],by go_num,below_drewN HB3.out _⟩
   ·have HNx:Hid (byTo D L (k+1)=byTo D L k):=HB2.out.1 rfl
    generalize byTo D L k=bk at HNx
    clear hBc
    go_wp2_with fail
    go_quiet (fail)
    go_wp2_with fail
    go_roundg (n-(k+1))
    case measure=>omega
    case rel=>exact ⟨k+1,by omega,rfl,by rw [HNx.out],by go_num,below_drewN HB3.out _⟩
  ·have hke:k=n:=by omega
   subst hke
   clear hBw
   go_wp2_with fail
   go_ret
   exact ⟨rfl,onB HB0.out HBw.out⟩
set_option maxHeartbeats 4000000 in
theorem rinput_any (A:Option Addr) (cap:Nat) (xs:List EnL) (Ap:Option Addr) (cp:Nat) (p:List Int) (w:World) (hn:xs.length≤3000) (hE:EnsV w A cap xs) (hS:Short xs p) (hP:PlAt w Ap cp p) :
  Calls Tryz.prog 66 #[.slice A xs.length cap,.slice Ap p.length cp] w fun e w'=>e=.returned (.agg #[.int .i64 (getE (lE xs) p).1,.int .i64 (getE (lE xs) p).2])∧Below w.heap.size w w':=by
 obtain ⟨v0,hv0⟩:∃ v0,w.alloc (.cells #[.int .i64 0,.int .i64 0] 48)=v0:=⟨_,rfl⟩
 have hB0:Below w.heap.size w v0:=by rw [←hv0];go_grown
 have h:=rfind_any A cap xs Ap cp p v0 hn (hE.later hB0) hS (hP.later hB0)
 have HB0:Hid (Below w.heap.size w v0):=hB0
 have k0:v0.heap[w.heap.size]?=some (.cells #[.int .i64 0,.int .i64 0] 48):=by rw [←hv0];exact heap_alloc_new w _
 have hz0:w.heap.size<v0.heap.size:=by rw [←hv0];simp
 have HK0:Hid (v0.heap[w.heap.size]?=some (.cells #[.int .i64 0,.int .i64 0] 48)):=k0
 have HE:Hid (EnsV w A cap xs):=hE
 clear hP hB0 k0
 cases hh:hasE (lE xs) p
 ·have HV:Hid (getE (lE xs) p=(0,0)):=by
   show _=_
   rcases Nat.lt_or_ge (cntE (lE xs) p) (lE xs).length with h1 | h1
   ·have hx:=has_in (l:=lE xs) (p:=p) rfl h1
    rw [hx.1] at hh
    rw [hx.2,if_pos (by simpa using hh)]
   ·exact (has_out rfl h1).2
  rw [hh] at h
  generalize cntE (lE xs) p=i at h
  generalize getE (lE xs) p=V at HV
  generalize xs.length=n at h hn
  generalize p.length=np at h
  clear hh hE hS
  go_enter Tryz.func66,Tryz.ntmps66
  go_wp2_with fail
  clear hv0
  refine h.mono ?_
  rintro e w1 ⟨rfl,hb1⟩
  have k1:w1.heap[w.heap.size]?=some (.cells #[.int .i64 0,.int .i64 0] 48):=(hb1.block _ hz0).trans HK0.out
  have d0:w1.cell? ⟨w.heap.size,0,none⟩=some (.int .i64 0):=by rw [Lib.cell_of_heap k1];rfl
  have d1:w1.cell? ⟨w.heap.size,1,none⟩=some (.int .i64 0):=by rw [Lib.cell_of_heap k1];rfl
  have f0:w1.frozen? ⟨w.heap.size,0,none⟩=false:=Lib.frozen_of_heap k1 0
  have f1:w1.frozen? ⟨w.heap.size,1,none⟩=false:=Lib.frozen_of_heap k1 1
  have HB1:Hid (Below w.heap.size w w1):=onB HB0.out hb1
  clear hb1 k1 h
  go_wp2_with fail
  refine bodyPost_ret (v:=.agg #[.int .i64 0,.int .i64 0]) (by simp [results,Tryz.results66,go_sem,d0,d1]) rfl ⟨by rw [HV.out],?_⟩
  exact (HB1.out.setCell (Nat.le_refl _) _).setCell (Nat.le_refl _) _
 ·have hi:=clr_in hh
  have hx:=has_in (l:=lE xs) (p:=p) rfl hi
  have HV:Hid (getE (lE xs) p=(1,(xs.getD (cntE (lE xs) p) noL).e.n)):=by
   show _=_
   rw [hx.1] at hh
   rw [hx.2,if_neg (by simpa using hh),lE_at]
  rw [lE_len] at hi
  rw [hh] at h
  obtain ⟨n,hnn⟩:∃ n,xs.length=n:=⟨_,rfl⟩
  have HN:Hid (xs.length=n):=hnn
  rw [hnn] at h hn hi ⊢
  generalize cntE (lE xs) p=i at h hi HV
  generalize getE (lE xs) p=V at HV
  generalize hgn:(xs.getD i noL).e.n=num at HV
  have HGN:Hid ((xs.getD i noL).e.n=num):=hgn
  generalize p.length=np at h
  have hi':(i:Int)<(n:Int):=by omega
  clear hh hE hS hx hgn hnn
  go_enter Tryz.func66,Tryz.ntmps66
  go_wp2_with fail
  clear hv0
  refine h.mono ?_
  rintro e w1 ⟨rfl,hb1⟩
  have k1:w1.heap[w.heap.size]?=some (.cells #[.int .i64 0,.int .i64 0] 48):=(hb1.block _ hz0).trans HK0.out
  have d0:w1.cell? ⟨w.heap.size,0,none⟩=some (.int .i64 0):=by rw [Lib.cell_of_heap k1];rfl
  have d1:w1.cell? ⟨w.heap.size,1,none⟩=some (.int .i64 0):=by rw [Lib.cell_of_heap k1];rfl
  have f0:w1.frozen? ⟨w.heap.size,0,none⟩=false:=Lib.frozen_of_heap k1 0
  have f1:w1.frozen? ⟨w.heap.size,1,none⟩=false:=Lib.frozen_of_heap k1 1
  have hB1:Below w.heap.size w w1:=onB HB0.out hb1
  have HB1:Hid (Below w.heap.size w w1):=hB1
  obtain ⟨-,-,h0 | ⟨b,o,rfl,hA⟩⟩:=HE.out.later hB1
  ·have:=HN.out;rw [h0] at this;simp at this;omega
  have c3:=(hA.at (k:=i) (by rw [HN.out];exact hi)).2
  rw [HGN.out] at c3
  clear hb1 k1 h hB1 hA
  go_wp2_with fail
  refine bodyPost_ret (v:=.agg #[.int .i64 1,.int .i64 num]) (by simp [results,Tryz.results66,go_sem,d0,d1]) rfl ⟨by rw [HV.out],?_⟩
  exact (HB1.out.setCell (Nat.le_refl _) _).setCell (Nat.le_refl _) _
theorem keep2 {W w':World} {q b o1:Nat} {u v:Value} (h:q<W.heap.size∧b<W.heap.size∧W.cell? ⟨q,0,none⟩=some u∧W.cell? ⟨b,o1,none⟩=some v) (hB:Below W.heap.size W w'):Below W.heap.size W w'∧w'.cell? ⟨q,0,none⟩=some u∧w'.cell? ⟨b,o1,none⟩=some v :=
 ⟨hB,(hB.cell (p:=⟨q,0,none⟩) h.1).trans h.2.2.1,(hB.cell (p:=⟨b,o1,none⟩) h.2.1).trans h.2.2.2⟩
theorem keepL {W w':World} {b o1 o2:Nat} {u v:Value} (h:b<W.heap.size∧W.cell? ⟨b,o1,none⟩=some u∧W.cell? ⟨b,o2,none⟩=some v) (hB:Below W.heap.size W w'):Below W.heap.size W w'∧w'.cell? ⟨b,o1,none⟩=some u∧w'.cell? ⟨b,o2,none⟩=some v :=
 ⟨hB,(hB.cell (p:=⟨b,o1,none⟩) h.1).trans h.2.1,(hB.cell (p:=⟨b,o2,none⟩) h.1).trans h.2.2⟩
set_option maxHeartbeats 16000000 in
theorem rentries_any (A0:Option Addr) (cap n:Nat) (D:Nat→Dm) (A:Nat→Option Addr) (C:Nat→Nat) (AE:Option Addr) (ce:Nat) (xs:List EnL) (w:World) (hM:DimsV w A0 cap n D A C) (hE:EnsV w AE ce xs) :
  Calls Tryz.prog 36 #[.agg #[.slice A0 n cap],.slice AE xs.length ce] w fun r w'=>r=.returned (.int .i64 (entsErr D n (lE xs)))∧Below w.heap.size w w':=by
 have hB0:=ownOut_below w A0 n cap 42
 have h:=rright_any A0 cap n D A C (ownOut w A0 n cap 42) (hM.later hB0)
 have HB0:Hid (Below w.heap.size w (ownOut w A0 n cap 42)):=hB0
 have HM:Hid (DimsV w A0 cap n D A C):=hM
 have HE:Hid (EnsV w AE ce xs):=hE
 clear hM hB0
 by_cases hR:(allErr D n).2.2=0
 ·have HR:Hid ((allErr D n).2.2=0):=hR
  have HV:Hid (entsErr D n (lE xs)=entFrom D n (qOf (lE xs) 0) ((lE xs).drop 0)):=ents_in _ hR
  rw [hR] at h
  obtain ⟨N,hN⟩:∃ N,xs.length=N:=⟨_,rfl⟩
  have HN:Hid (xs.length=N):=hN
  have hNb:(N:Int)≤9223372036854775807:=by have h1:=hE.1;have h2:=hE.2.1;omega
  rw [hN]
  generalize entsErr D n (lE xs)=RES at HV
  clear hR hN hE
  go_enter Tryz.func36,Tryz.ntmps36
  go_wp2_with fail
  refine h.mono ?_
  rintro e w1 ⟨rfl,hb1⟩
  have hB:Below w.heap.size w w1:=onB HB0.out hb1
  have hz:w.heap.size<w1.heap.size:=by have:=hb1.size;rw [ownOut_size] at this;omega
  have h2:w1.cell? ⟨w.heap.size,0,none⟩=some (.slice A0 n cap):=(hb1.cell (p:=⟨w.heap.size,0,none⟩) (by show w.heap.size<_;rw [ownOut_size];omega)).trans (ownOut_at ..)
  have HM1:Hid (DimsV w1 A0 cap n D A C):=HM.out.later hB
  have HE1:Hid (EnsV w1 AE ce xs):=HE.out.later hB
  have HB:Hid (Below w.heap.size w w1):=hB
  clear hb1 h hB HM HE HB0
  go_wp2_with fail
  go_loopg [6] N (fun g s6 wr => ∃ (k:Nat),k≤N∧g=N-k∧s6=.int .i64 k∧Hid (entFrom D n (qOf (lE xs) k) ((lE xs).drop k)=entFrom D n (qOf (lE xs) 0) ((lE xs).drop 0))∧Hid (∀ j,j<k→entOne D n ((lE xs).getD j noEn)=0)∧Below w1.heap.size w1 wr)
  case atStart=>exact ⟨0,Nat.zero_le _,rfl,rfl,(rfl:entFrom D n (qOf (lE xs) 0) ((lE xs).drop 0)=entFrom D n (qOf (lE xs) 0) ((lE xs).drop 0)),fun j hj=>absurd hj (Nat.not_lt_zero _),Below.refl _ _⟩
  case round =>
   obtain ⟨k,hk,rfl,rfl,HF,HO,hBw⟩:=hrel
   have HBw:Hid (Below w1.heap.size w1 wr):=hBw
   by_cases hlt:k<N
   ·have hkx:k<xs.length:=by rw [HN.out];exact hlt
    have hki:(k:Int)<(N:Int):=by omega
    have hk1:(k:Int)+1≤9223372036854775807:=by omega
    obtain ⟨-,-,h0 | ⟨b,o,rfl,hEs⟩⟩:=HE1.out.later hBw
    ·have:=HN.out;rw [h0] at this;simp at this;omega
    obtain ⟨c1,c2⟩:=hEs.at hkx
    have c0:wr.cell? ⟨w.heap.size,0,none⟩=some (.slice A0 n cap):=(hBw.cell (p:=⟨w.heap.size,0,none⟩) hz).trans h2
    have hzr:w.heap.size<wr.heap.size:=Nat.lt_of_lt_of_le hz hBw.size
    have hbb:=hEs.1
    have HMr:Hid (DimsV wr A0 cap n D A C):=HM1.out.later hBw
    have HEs:Hid (EnsAt wr b o xs):=hEs
    have HPl:Hid (∀ w',Below wr.heap.size wr w'→Calls Tryz.prog 15 #[.agg #[.slice A0 n cap],.slice (xs.getD k noL).A (xs.getD k noL).e.pl.length (xs.getD k noL).c] w' fun e w''=>e=.returned (.int .i64 (shapeErr D n (xs.getD k noL).e.pl))∧Below w'.heap.size w' w''):=fun w' hw'=>rplace_any A0 cap n D A C _ _ _ w' HR.out (HMr.out.later hw') ((HEs.out.pl hkx).later hw')
    have HLf:Hid (shapeErr D n (xs.getD k noL).e.pl=0→∀ w',Below wr.heap.size wr w'→Calls Tryz.prog 64 #[.agg #[.slice A0 n cap],.slice (xs.getD k noL).A (xs.getD k noL).e.pl.length (xs.getD k noL).c] w' fun e w''=>e=.returned (.bool (leafV D n (xs.getD k noL).e.pl))∧Below w'.heap.size w' w''):=fun hs w' hw'=>rleafplace_any A0 cap n D A C _ _ _ w' (inO_of (by rw [pe1 HR.out];exact hs)) (HMr.out.later hw') ((HEs.out.pl hkx).later hw')
    have HOne:Hid (entOne D n (xs.getD k noL).e=if shapeErr D n (xs.getD k noL).e.pl≠0 then shapeErr D n (xs.getD k noL).e.pl else if leafV D n (xs.getD k noL).e.pl=false then 6 else if numOk (xs.getD k noL).e.n=false then 1 else 0):=rfl
    have HBad:Hid (entOne D n (xs.getD k noL).e≠0→RES=entOne D n (xs.getD k noL).e):=fun he=>by rw [HV.out,←HF.out,ent_bad (by rw [lE_len];exact hkx) (by rw [lE_at];exact he),lE_at]
    have HOn:Hid (entOne D n (xs.getD k noL).e=0→∀ t,aheadOk (qOf (lE xs) k) (xs.getD k noL).e.pl=t→(t=false→RES=7)∧(t=true→entFrom D n (qOf (lE xs) (k+1)) ((lE xs).drop (k+1))=entFrom D n (qOf (lE xs) 0) ((lE xs).drop 0))):=fun he t ht=>by
     rw [←lE_at] at he ht
     refine ⟨fun h1=>?_,fun h1=>?_⟩
     ·rw [HV.out,←HF.out,ent_clash (by rw [lE_len];exact hkx) he (by rw [ht];exact h1)]
     ·rw [←ent_on (by rw [lE_len];exact hkx) he (by rw [ht];exact h1)];exact HF.out
    have HK0:Hid (entOne D n (xs.getD k noL).e=0→entOne D n ((lE xs).getD k noEn)=0):=fun he=>by rw [lE_at];exact he
    have HPrev:Hid (∀ j,k=j+1→entOne D n (xs.getD k noL).e=0→(∃ A2 m2 k2,wr.cell? ⟨b,o+j*2,none⟩=some (.slice A2 m2 k2)∧∀ w',Below wr.heap.size wr w'→Calls Tryz.prog 65 #[.slice A2 m2 k2,.slice (xs.getD k noL).A (xs.getD k noL).e.pl.length (xs.getD k noL).c] w' fun e w''=>e=.returned (.bool (aheadOk (qOf (lE xs) k) (xs.getD k noL).e.pl))∧Below w'.heap.size w' w'')):=fun j hj he=>by
     have hjx:j<xs.length:=by omega
     have h3:=entOne_right HR.out he
     have h4:=entOne_right HR.out (HO.out j (by omega))
     rw [lE_at] at h4
     refine ⟨_,_,_,(HEs.out.at hjx).1,fun w' hw'=>?_⟩
     have h5:=rless_any _ _ _ _ _ _ w' (inO_short h4.1) (inO_short h3.1) ((HEs.out.pl hjx).later hw') ((HEs.out.pl hkx).later hw')
     have h6:aheadOk (qOf (lE xs) k) (xs.getD k noL).e.pl=lessL (xs.getD j noL).e.pl (xs.getD k noL).e.pl:=by rw [hj,←lE_at xs j];rfl
     rw [h6]
     exact h5
    have HQ0:Hid (k=0→aheadOk (qOf (lE xs) k) (xs.getD k noL).e.pl=true):=fun h0=>by rw [h0];rfl
    clear hEs hBw
    generalize aheadOk (qOf (lE xs) k) (xs.getD k noL).e.pl=tA at HOn HPrev HQ0
    generalize entOne D n (xs.getD k noL).e=E1 at HOne HBad HOn HK0 HPrev
    generalize shapeErr D n (xs.getD k noL).e.pl=SE at HPl HLf HOne
    generalize leafV D n (xs.getD k noL).e.pl=lf at HLf HOne
    generalize (xs.getD k noL).A=A1 at c1 HPl HLf HPrev
    generalize (xs.getD k noL).c=k1 at c1 HPl HLf HPrev
    generalize (xs.getD k noL).e.n=n1 at c2 HOne
    generalize (xs.getD k noL).e.pl.length=m1 at c1 HPl HLf HPrev
    have HC0:Hid (w.heap.size<wr.heap.size∧b<wr.heap.size∧wr.cell? ⟨w.heap.size,0,none⟩=some (.slice A0 n cap)∧wr.cell? ⟨b,o+k*2,none⟩=some (.slice A1 m1 k1)):=⟨hzr,hbb,c0,c1⟩
    have HC2:Hid (wr.cell? ⟨b,o+k*2+1,none⟩=some (.int .i64 n1)):=c2
    clear c0 c1 c2
    go_wp2_with fail
    go_cut [5] (fun s5 wx=>s5=.int .i64 SE∧Below wr.heap.size wr wx)
    case first=>as_aux_lemma =>
     go_region_held3 (fun w'=>Below wr.heap.size wr w'∧w'.cell? ⟨w.heap.size,0,none⟩=some (.slice A0 n cap)∧w'.cell? ⟨b,o+k*2,none⟩=some (.slice A1 m1 k1))
      ((refine keep2 HC0.out ?_;go_grown;done))
      (first | (go_at_call 15;refine (HPl.out _ (by go_grown)).mono ?_;rintro e w3 ⟨rfl,hb3⟩;have hN3:=onB (W0:=wr) (by go_grown) hb3;have hy3:=hN3.size;clear hb3))
     all_goals go_wp2_with fail
     all_goals go_meet
     all_goals exact ⟨rfl,by go_grown⟩
    case rest=>as_aux_lemma =>
    obtain ⟨rfl,hb⟩:=hcut
    obtain ⟨w2,rfl⟩:∃ w2:World,w2=wc:=⟨_,rfl⟩
    have HB2:Hid (Below wr.heap.size wr w2):=hb
    clear hb
    by_cases hSE:SE=0
    ·have HLf2:=HLf.out hSE
     have HLf3:Hid (∀ w',Below wr.heap.size wr w'→Calls Tryz.prog 64 #[.agg #[.slice A0 n cap],.slice A1 m1 k1] w' fun e w''=>e=.returned (.bool lf)∧Below w'.heap.size w' w''):=HLf2
     have HC3:Hid (w.heap.size<w2.heap.size∧b<w2.heap.size∧w2.cell? ⟨w.heap.size,0,none⟩=some (.slice A0 n cap)∧w2.cell? ⟨b,o+k*2,none⟩=some (.slice A1 m1 k1)):=⟨Nat.lt_of_lt_of_le HC0.out.1 HB2.out.size,Nat.lt_of_lt_of_le HC0.out.2.1 HB2.out.size,(keep2 HC0.out HB2.out).2.1,(keep2 HC0.out HB2.out).2.2⟩
     have hOne2:E1=if lf=false then 6 else if numOk n1=false then 1 else 0:=by rw [HOne.out,if_neg (by simpa using hSE)]
     have HOne2:Hid (E1=if lf=false then 6 else if numOk n1=false then 1 else 0):=hOne2
     subst hSE
     clear hOne2 HLf2
     go_wp2_with fail
     go_cut [7] (fun s7 wx=>s7=.bool lf∧Below w2.heap.size w2 wx)
     case first=>as_aux_lemma =>
      go_region_held3 (fun w'=>Below w2.heap.size w2 w'∧w'.cell? ⟨w.heap.size,0,none⟩=some (.slice A0 n cap)∧w'.cell? ⟨b,o+k*2,none⟩=some (.slice A1 m1 k1))
       ((refine keep2 HC3.out ?_;go_grown;done))
       (first | (go_at_call 64;refine (HLf3.out _ (onB HB2.out (by go_grown))).mono ?_;rintro e w3 ⟨rfl,hb3⟩;have hN3:=onB (W0:=w2) (by go_grown) hb3;have hy3:=hN3.size;clear hb3))
      all_goals go_wp2_with fail
      all_goals go_meet
      all_goals exact ⟨rfl,by go_grown⟩
     case rest=>as_aux_lemma =>
     obtain ⟨rfl,hb⟩:=hcut
     obtain ⟨w3,rfl⟩:∃ w3:World,w3=wc:=⟨_,rfl⟩
     have HB3:Hid (Below wr.heap.size wr w3):=onB HB2.out hb
     clear hb HC3 HLf3 HB2
     cases lf
     ·have HRes:Hid (RES=6):=by
       have e6:E1=6:=by rw [HOne2.out];rfl
       show _=_
       rw [HBad.out (by rw [e6];decide),e6]
      go_wp2_with fail
      go_ret
      rw [HRes.out]
      exact ⟨rfl,onB HB.out (onB HBw.out HB3.out)⟩
     ·have c3:w3.cell? ⟨b,o+k*2+1,none⟩=some (.int .i64 n1):=(HB3.out.cell (p:=⟨b,o+k*2+1,none⟩) hbb).trans HC2.out
      by_cases hlo:n1 < -1000000
      ·have HRes:Hid (RES=1):=by
        have e1:E1=1:=by rw [HOne2.out,if_neg (by decide),if_pos (by simp [numOk];omega)]
        show _=_
        rw [HBad.out (by rw [e1];decide),e1]
       go_wp2_with fail
       go_ret
       rw [HRes.out]
       exact ⟨rfl,onB HB.out (onB HBw.out HB3.out)⟩
      by_cases hhi:1000000<n1
      ·have HRes:Hid (RES=1):=by
        have e1:E1=1:=by rw [HOne2.out,if_neg (by decide),if_pos (by simp [numOk];omega)]
        show _=_
        rw [HBad.out (by rw [e1];decide),e1]
       go_wp2_with fail
       go_ret
       rw [HRes.out]
       exact ⟨rfl,onB HB.out (onB HBw.out HB3.out)⟩
      have e0:E1=0:=by rw [HOne2.out,if_neg (by decide),if_neg (by simp [numOk];omega)]
      have HT:Hid ((tA=false→RES=7)∧(tA=true→entFrom D n (qOf (lE xs) (k+1)) ((lE xs).drop (k+1))=entFrom D n (qOf (lE xs) 0) ((lE xs).drop 0))):=HOn.out e0 tA rfl
      have HKk:Hid (entOne D n ((lE xs).getD k noEn)=0):=HK0.out e0
      have HP2:Hid (∀ j,k=j+1→(∃ A2 m2 k2,wr.cell? ⟨b,o+j*2,none⟩=some (.slice A2 m2 k2)∧∀ w',Below wr.heap.size wr w'→Calls Tryz.prog 65 #[.slice A2 m2 k2,.slice A1 m1 k1] w' fun e w''=>e=.returned (.bool tA)∧Below w'.heap.size w' w'')):=fun j hj=>HPrev.out j hj e0
      clear HOne HOne2 HBad HOn HK0 HPrev HLf HPl e0
      rcases Nat.eq_zero_or_pos k with hk0 | hk0
      ·have HTr:Hid (entFrom D n (qOf (lE xs) (k+1)) ((lE xs).drop (k+1))=entFrom D n (qOf (lE xs) 0) ((lE xs).drop 0)):=HT.out.2 (HQ0.out hk0)
       subst hk0
       simp only [Nat.zero_mul,Nat.add_zero] at c3
       clear HP2 HQ0 HT HO HF
       go_wp2_with fail
       go_quiet (fail)
       go_wp2_with fail
       go_roundg (N-(0+1))
       case measure=>omega
       case rel =>
        refine ⟨0+1,by omega,rfl,by go_num,HTr.out,fun j hj=>?_,below_drewN (onB HBw.out HB3.out) _⟩
        have:j=0:=by omega
        rw [this]
        exact HKk.out
      ·obtain ⟨j,hj⟩:∃ j,k=j+1:=⟨k-1,by omega⟩
       obtain ⟨A2,m2,k2,hcell,hcalls⟩:=HP2.out j hj
       have HLs:Hid (∀ w',Below wr.heap.size wr w'→Calls Tryz.prog 65 #[.slice A2 m2 k2,.slice A1 m1 k1] w' fun e w''=>e=.returned (.bool tA)∧Below w'.heap.size w' w''):=hcalls
       have HC4:Hid (b<w3.heap.size∧w3.cell? ⟨b,o+j*2,none⟩=some (.slice A2 m2 k2)∧w3.cell? ⟨b,o+k*2,none⟩=some (.slice A1 m1 k1)):=⟨Nat.lt_of_lt_of_le hbb HB3.out.size,(HB3.out.cell (p:=⟨b,o+j*2,none⟩) hbb).trans hcell,(HB3.out.cell (p:=⟨b,o+k*2,none⟩) hbb).trans HC0.out.2.2.2⟩
       have hwr:IntKind.i64.wrap ((k:Int)-1)=(j:Int):=by rw [IntKind.wrap_i64];omega
       have hkz:((k:Int) == 0)=false:=by simp;omega
       have hkz' : ¬ ((k:Int)=0):=by omega
       have hjN:(j:Int)<(N:Int):=by omega
       clear hj hcell hcalls HP2 hk0
       go_wp2_with fail
       go_cut [8] (fun s8 wx=>s8=.bool tA∧Below w3.heap.size w3 wx)
       case first=>as_aux_lemma =>
        go_region_held3 (fun w'=>Below w3.heap.size w3 w'∧w'.cell? ⟨b,o+j*2,none⟩=some (.slice A2 m2 k2)∧w'.cell? ⟨b,o+k*2,none⟩=some (.slice A1 m1 k1))
         ((refine keepL HC4.out ?_;go_grown;done))
         (first | (go_at_call 65;refine (HLs.out _ (onB HB3.out (by go_grown))).mono ?_;rintro e w4 ⟨rfl,hb4⟩;have hN4:=onB (W0:=w3) (by go_grown) hb4;have hy4:=hN4.size;clear hb4))
        all_goals go_wp2_with fail
        all_goals go_meet
        all_goals exact ⟨rfl,by go_grown⟩
       case rest=>as_aux_lemma =>
       obtain ⟨rfl,hb⟩:=hcut
       obtain ⟨w4,rfl⟩:∃ w4:World,w4=wc:=⟨_,rfl⟩
       have HB4:Hid (Below wr.heap.size wr w4):=onB HB3.out hb
       clear hb HC4 HLs hwr hkz hkz' hjN c3
       cases tA
       ·have HRes:Hid (RES=7):=HT.out.1 rfl
        go_wp2_with fail
        go_ret
        rw [HRes.out]
        exact ⟨rfl,onB HB.out (onB HBw.out HB4.out)⟩
       ·have HTr:Hid (entFrom D n (qOf (lE xs) (k+1)) ((lE xs).drop (k+1))=entFrom D n (qOf (lE xs) 0) ((lE xs).drop 0)):=HT.out.2 rfl
        go_wp2_with fail
        go_roundg (N-(k+1))
        case measure=>omega
        case rel =>
         refine ⟨k+1,by omega,rfl,by go_num,HTr.out,fun i hi=>?_,onB HBw.out HB4.out⟩
         rcases Nat.lt_succ_iff_lt_or_eq.1 hi with h1 | rfl
         ·exact HO.out i h1
         ·exact HKk.out
    ·have HRes:Hid (RES=SE):=by
      have e1:E1=SE:=by rw [HOne.out,if_pos (by simpa using hSE)]
      show _=_
      rw [HBad.out (by rw [e1];exact hSE),e1]
     have hSE':(SE != 0)=true:=by simpa using hSE
     clear HLf HPl HOne HBad HOn HK0 HPrev hSE HC0 HC2 HEs HMr HE1 HM1 HO HF HQ0 hki hk1 hzr hbb
     go_wp2_with fail
     go_ret
     rw [HRes.out]
     exact ⟨rfl,onB HB.out (onB HBw.out HB2.out)⟩
   ·have hke:k=N:=by omega
    subst hke
    have HRes:Hid (RES=0):=by show _=_;rw [HV.out,←HF.out,ent_end (by rw [lE_len,HN.out];exact Nat.le_refl _)]
    clear hBw
    go_wp2_with fail
    go_ret
    rw [HRes.out]
    exact ⟨rfl,onB HB.out HBw.out⟩
 ·have HV:Hid (entsErr D n (lE xs)=(allErr D n).2.2):=ents_bad _ hR
  have hR':((allErr D n).2.2 == 0)=false:=by simpa using hR
  generalize entsErr D n (lE xs)=RES at HV
  generalize (allErr D n).2.2=E at h HV hR hR'
  generalize xs.length=N
  clear hE HM HE
  go_enter Tryz.func36,Tryz.ntmps36
  go_wp2_with fail
  refine h.mono ?_
  rintro e w1 ⟨rfl,hb1⟩
  go_wp2_with fail
  go_ret
  rw [HV.out]
  exact ⟨rfl,onB HB0.out hb1⟩
end Go.Proofs.YtaodedckffjpgafGreatDoor
namespace Go.Proofs.YtaodedckffjpgafGreatDoor
open Go Go.ChangeShapes Go.WideShapes Go.ChangeAt Go.RowKit
set_option maxRecDepth 20000
set_option maxHeartbeats 4000000 in
theorem rwith_any (Ap:Option Addr) (cp:Nat) (p:List Int) (dim:Nat) (x:Int) (w:World) (hd:dim<p.length) (h4:p.length≤4) (hP:PlAt w Ap cp p) :
  Calls Tryz.prog 69 #[.slice Ap p.length cp,.int .i64 dim,.int .i64 x] w fun e w'=>(∃ A' c',e=.returned (.slice A' p.length c')∧PlAt w' A' c' (p.set dim x))∧Below w.heap.size w w':=by
 obtain ⟨i0,hi0,hz0,hz1,hz2⟩:=info_parts Tryz.infoIntP
 obtain ⟨hcp,h0 | ⟨b,o,rfl,hb,hcell⟩⟩:=hP
 ·rw [h0] at hd;simp at hd
 have HC:Hid (∀ j u,(p.map (Value.int .i64))[j]?=some u→w.cell? ((⟨b,o,none⟩:Addr).add j)=some u):=by
  intro j u hj
  have hlt:j<p.length:=by have:=(List.getElem?_eq_some_iff.1 hj).1;simpa using this
  rw [plain_add,hcell j hlt]
  simp only [List.getElem?_map,List.getElem?_eq_getElem hlt,Option.map_some,Option.some.injEq] at hj
  rw [←hj,List.getD_eq_getElem?_getD,List.getElem?_eq_getElem hlt]
  rfl
 obtain ⟨N,hN⟩:∃ N,p.length=N:=⟨_,rfl⟩
 have HN:Hid (p.length=N):=hN
 rw [hN] at hd h4 hcp ⊢
 have hdi:(dim:Int)<(N:Int):=by omega
 have h4':(N:Int)≤4:=by omega
 clear hcell hN
 go_enter Tryz.func69,Tryz.ntmps69
 go_wp2_with (at_builtin;refine wpList_append_own _ rfl _ _ 44 rfl w.heap.size 3 i0 (.int .i64 0) 1 8 Tryz.underlying44 hi0 hz0 hz1 hz2 rfl (by decide) _ _ _ rfl (World.ownsRow_nil w w.heap.size 3 1) ⟨b,o,none⟩ N cp (p.map (Value.int .i64)) rfl ?qc1 ?qc2 ?qc3 ?qc4 ?qc5 ?qc6 ?_)
 case qc1=>simp [HN.out]
 case qc2=>exact HC.out
 case qc3=>intro u hu;simp at hu;obtain ⟨y,-,rfl⟩:=hu;rfl
 case qc4=>simp only [maxLen];omega
 case qc5=>omega
 case qc6=>exact Nat.le_refl _
 intro v' w1 hown hgrow hnil
 have hown1:w1.ownsRow w.heap.size 3 1 v' N (p.map (Value.int .i64)):=by simpa using hown
 have HB:Hid (Below w.heap.size w w1):=(Below.refl _ w).grown hgrow (Nat.le_refl _) (by intro k hk;cases hk)
 rcases hown1.2 with ⟨h1,h2⟩ | ⟨g,cap,cur,rfl,hbg,hg,hc,hm,hs,ht⟩
 ·omega
 have HT:Hid (cur.toList.take (N*1)=p.map (Value.int .i64)∧cur.size=cap*1∧w1.heap[g]?=some (.cells cur 3 (0,0))∧w.heap.size≤g):=⟨ht,hs,hg,hbg⟩
 have cg:w1.cell? ⟨g,dim,none⟩=some (.int .i64 (p.getD dim 0)):=by
  have:=hown1.cells (g:=g) rfl dim (.int .i64 (p.getD dim 0)) (by simp [List.getD,HN.out,hd])
  rw [plain_add,Nat.zero_add] at this
  exact this
 have fg:w1.frozen? ⟨g,dim,none⟩=false:=Lib.frozen_of_heap hg dim
 have hcap:N≤cap:=hc
 generalize p.getD dim 0=old at cg
 clear hown hown1 hgrow hnil hg hbg hs ht
 go_wp2_with fail
 go_ret
 obtain ⟨h1,h2,h3,h5⟩:=HT.out
 refine ⟨⟨_,cap,rfl,by rw [List.length_set,HN.out];exact hcap,Or.inr ⟨g,0,rfl,by simp [World.setCell];exact (Array.getElem?_eq_some_iff.1 h3).1,fun j hj=>?_⟩⟩,HB.out.setCell (by show w.heap.size≤g;exact h5) _⟩
 rw [List.length_set,HN.out] at hj
 have hk:(w1.setCell ⟨g,dim,none⟩ (.int .i64 x)).heap[g]?=some (.cells (cur.setIfInBounds dim (.int .i64 x)) 3 (0,0)):=by simp [World.setCell,Array.getElem?_modify,h3]
 rw [Nat.zero_add,Lib.cell_of_heap hk]
 have hcj:∀ i,i<N→cur[i]?=some (.int .i64 (p.getD i 0)):=fun i hi=>by
  have:=congrArg (fun l=>l[i]?) h1
  simp only [List.getElem?_take,show i<N*1 by omega,if_true,Array.getElem?_toList] at this
  rw [this]
  simp [List.getD,HN.out,hi]
 by_cases e:j=dim
 ·subst e
  have hz:=(Array.getElem?_eq_some_iff.1 (hcj j hj)).1
  rw [Array.getElem?_setIfInBounds_self_of_lt hz]
  simp [List.getD,HN.out,hj]
 ·rw [Array.getElem?_setIfInBounds_ne (fun h=>e h.symm),hcj j hj]
  simp [List.getD,List.getElem?_set_ne (fun h=>e h.symm)]
set_option maxHeartbeats 2000000 in
theorem rparts_new (d:Dm) (b o cap:Nat) (i:Int) (w:World) (hn:d.n≤12) (hM:MemsAt w b o d.n d.mem):Calls Tryz.prog 72 #[.agg #[.string d.name,.int .i64 d.solve,.slice (some ⟨b,o,none⟩) d.n cap],.int .i64 i] w fun e w'=>(∃ A c,e=.returned (.slice A (partsOf d.mem d.n i).length c)∧IntsAt w' A c (partsOf d.mem d.n i)∧∀ b o,A=some ⟨b,o,none⟩→w.heap.size≤b)∧Below w.heap.size w w':=by
 obtain ⟨i0,hi0,hz0,hz1,hz2⟩:=info_parts Tryz.infoInt
 have hS:=ownDim_size w d (some ⟨b,o,none⟩) cap 24
 have hB0:=ownDim_below w d (some ⟨b,o,none⟩) cap 24
 have hA:=(ownDim_at w d (some ⟨b,o,none⟩) cap 24).2.2
 obtain ⟨W,hW⟩:∃ W,W=ownDim w d (some ⟨b,o,none⟩) cap 24:=⟨_,rfl⟩
 rw [←hW] at hS hB0 hA
 have HW:Hid (W=ownDim w d (some ⟨b,o,none⟩) cap 24):=hW
 have HB0:Hid (Below w.heap.size w W):=hB0
 have HM:Hid (MemsAt W b o d.n d.mem):=hM.later hB0
 have HA:Hid (W.cell? ⟨w.heap.size,2,none⟩=some (.slice (some ⟨b,o,none⟩) d.n cap)):=hA
 have hsz:w.heap.size<W.heap.size:=by omega
 have hn':(d.n:Int)≤12:=by omega
 obtain ⟨p,hp⟩:∃ p:Nat→Bool,p=partB d.mem i:=⟨_,rfl⟩
 have HP:Hid (p=partB d.mem i):=hp
 unfold partsOf
 rw [←hp]
 clear hM hW hB0 hA hS hp
 go_enter Tryz.func72,Tryz.ntmps72
 go_wp2_with fail
 go_loopg [5,6] d.n (fun g s5 s6 wr => ∃ (k:Nat),k≤d.n∧g=d.n-k∧s6=.int .i64 k∧wr.ownsRow W.heap.size 3 1 s5 (selTo p k).length (mapI (selTo p k))∧Below W.heap.size W wr)
 case atStart=>exact ⟨0,Nat.zero_le _,rfl,rfl,World.ownsRow_nil _ _ _ _,by rw [HW.out];exact Below.refl _ _⟩
 case round =>
  obtain ⟨k,hk,rfl,rfl,hown,hBw⟩:=hrel
  have HWr:Hid (Below W.heap.size W wr):=hBw
  have HO:Hid (wr.ownsRow W.heap.size 3 1 _ (selTo p k).length (mapI (selTo p k))):=hown
  have c2:wr.cell? ⟨w.heap.size,2,none⟩=some (.slice (some ⟨b,o,none⟩) d.n cap):=(hBw.cell (p:=⟨w.heap.size,2,none⟩) hsz).trans HA.out
  have hszr:=hBw.size
  by_cases hlt:k<d.n
  ·have hki:(k:Int)<(d.n:Int):=by omega
   obtain ⟨-,h1,-,-⟩:=(HM.out.later hBw).2 k hlt
   have hlen:=selTo_len p k
   have hpk:p k=((d.mem k).parent == i):=by rw [HP.out];rfl
   clear hBw
   cases hb:p k
   ·have HK:Hid (p k=false):=hb
    rw [hb] at hpk
    have hpe:((d.mem k).parent == i)=false:=hpk.symm
    clear hb hpk hown
    go_wp2_with fail
    go_roundg (d.n-(k+1))
    case measure=>omega
    case rel=>exact ⟨k+1,by omega,rfl,by go_num,by rw [selTo_miss HK.out];exact HO.out,HWr.out⟩
   ·have HK:Hid (p k=true):=hb
    rw [hb] at hpk
    have hpe:((d.mem k).parent == i)=true:=hpk.symm
    clear hb hpk
    go_wp2_with (at_builtin;refine wpList_append_own _ rfl _ _ 27 rfl W.heap.size 3 i0 (.int .i64 0) 1 8 Tryz.underlying27 hi0 hz0 hz1 hz2 rfl (by decide) _ _ _ rfl (hown.alloc _) ⟨wr.heap.size,0,none⟩ 1 1 [.int .i64 k] rfl rfl one_cell one_one (by unfold maxLen;omega) (by omega) (by simp;omega) ?_)
    intro v' w2 hown' hgrow _
    have HB2:Hid (Below W.heap.size W w2):=grown_own HWr.out hown hgrow
    have HO2:Hid (w2.ownsRow W.heap.size 3 1 v' (selTo p (k+1)).length (mapI (selTo p (k+1)))):=by
     show World.ownsRow ..
     rw [selTo_hit HK.out,mapI_snoc,List.length_append];exact hown'
    clear hown' hgrow hown c2
    go_wp2_with fail
    go_roundg (d.n-(k+1))
    case measure=>omega
    case rel=>exact ⟨k+1,by omega,rfl,by go_num,HO2.out,HB2.out⟩
  ·have hke:k=d.n:=by omega
   subst hke
   clear hBw hown
   go_wp2_with fail
   go_ret
   obtain ⟨A,c,h1,h2,h3⟩:=ints_new HO.out
   exact ⟨⟨A,c,by rw [←h1];rfl,h2,fun b o e=>Nat.le_trans HB0.out.size (h3 b o e)⟩,onB HB0.out HWr.out⟩
end Go.Proofs.YtaodedckffjpgafGreatDoor
