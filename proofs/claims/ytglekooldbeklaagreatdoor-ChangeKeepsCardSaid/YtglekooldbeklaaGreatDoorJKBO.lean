/-
  A member added and taken out again leaves a cube as it was: plain data.
-/
import Derived.BigRegion
import Derived.LaidEql
import Derived.Stop.Asserts
import Derived.RowKitTokens
import Derived.Test.YtglekooldbeklaaGreatDoorJKBH
import Derived.Test.YtglekooldbeklaaGreatDoorJKBN
namespace Go.Proofs.YtglekooldbeklaaGreatDoor
open Go.ChangeShapes Go.WideShapes Go.ChangeAt Go.RowKit Go.Lib
theorem ens_add {D:Nat→Dm} {n k:Nat} {l:List En} {m:Mem} (hE:Ens D n l) (hk:k<n) (hA:(allErr (putD D k (addD (D k) m)) n).2.2=0) (hw:wrAt l k m.parent=false):Ens (putD D k (addD (D k) m)) n l:=by
 refine ⟨hA,fun e he=>?_,hE.rise⟩
 obtain ⟨h1,h2,h3⟩:=hE.each e he
 have hn:∀ i,(D i).n≤(putD D k (addD (D k) m) i).n:=fun i=>by
  by_cases hi:i=k
  ·subst hi;rw [putD_at];show (D i).n≤(D i).n+1;omega
  ·rw [putD_off D _ hi];exact Nat.le_refl _
 have hIn:InO (putD D k (addD (D k) m)) n e.pl:=⟨hA,h1.len,h1.lo,fun i hi=>by have:=h1.hi i hi;have:=hn i;omega⟩
 refine ⟨hIn,?_,h3⟩
 have hp1:placeErr D n e.pl=0:=h1.ok
 have hp2:placeErr (putD D k (addD (D k) m)) n e.pl=0:=hIn.ok
 unfold leafV at h2 ⊢
 rw [if_pos hp1] at h2
 rw [if_pos hp2]
 have hno:∀ i,i<n→notLeaf D e.pl i=false:=fun i hi=>by
  rcases findFrom_cases (notLeaf D e.pl) n 0 with ⟨_,h4⟩ | ⟨j,h4,_⟩
  ·exact h4 i (Nat.zero_le _) (by omega)
  ·rw [h4] at h2
   simp at h2
 rw [findFrom_none (p:=notLeaf (putD D k (addD (D k) m)) e.pl) fun i _ hi=>?_]
 ·rfl
 ·have hi':i<n:=by omega
  have h4:=hno i hi'
  by_cases hik:i=k
  ·subst hik
   have hlo:=h1.lo i hi'
   have hhi:=h1.hi i hi'
   unfold notLeaf at h4 ⊢
   rw [putD_at]
   obtain ⟨x,hx⟩:∃ x:Nat,e.pl.getD i 0=x:=⟨(e.pl.getD i 0).toNat,by omega⟩
   rw [hx,Int.toNat_natCast] at h4 ⊢
   have hxn:x<(D i).n:=by omega
   have hmx:(addD (D i) m).mem x=(D i).mem x:=if_neg (by omega)
   have hmp:m.parent≠(x:Int):=fun e2=>by
    have:wrAt l i m.parent=true:=by
     unfold wrAt
     rw [List.any_eq_true]
     exact ⟨e,he,by simp only [decide_eq_true_eq];rw [hx,e2]⟩
    rw [hw] at this
    cases this
   unfold leafB at h4 ⊢
   rw [hmx]
   have hf:findFrom (partB (addD (D i) m).mem x) (addD (D i) m).n 0<0↔findFrom (partB (D i).mem x) (D i).n 0<0:=by
    constructor
    ·intro h5
     rcases findFrom_cases (partB (D i).mem x) (D i).n 0 with ⟨h6,_⟩ | ⟨j,_,_,h7,h8,_⟩
     ·omega
     ·have h9:partB (addD (D i) m).mem x j=true:=by
       unfold partB at h8 ⊢
       rwa [show (addD (D i) m).mem j=(D i).mem j from if_neg (by omega)]
      have:=findFrom_nonneg (q:=partB (addD (D i) m).mem x) (n:=(addD (D i) m).n) (i:=j) (by show j<(D i).n+1;omega) h9
      omega
    ·intro h5
     rcases findFrom_cases (partB (addD (D i) m).mem x) (addD (D i) m).n 0 with ⟨h6,_⟩ | ⟨j,_,_,h7,h8,_⟩
     ·omega
     ·have hj:j<(D i).n+1:=by have h10:j<0+(addD (D i) m).n:=h7;have:(addD (D i) m).n=(D i).n+1:=rfl;omega
      by_cases hjn:j=(D i).n
      ·unfold partB at h8
       rw [show (addD (D i) m).mem j=m from if_pos hjn] at h8
       exact absurd (by simpa using h8) hmp
      ·have h9:partB (D i).mem x j=true:=by
        unfold partB at h8 ⊢
        rwa [show (addD (D i) m).mem j=(D i).mem j from if_neg hjn] at h8
       have:=findFrom_nonneg (q:=partB (D i).mem x) (n:=(D i).n) (i:=j) (by omega) h9
       omega
   simp only [Bool.not_eq_false',Bool.and_eq_true,decide_eq_true_eq,Bool.not_eq_true',decide_eq_false_iff_not] at h4 ⊢
   exact ⟨h4.1,by have:=hf.2 (by omega);omega⟩
  ·unfold notLeaf at h4 ⊢
   rw [putD_off D _ hik]
   exact h4
end Go.Proofs.YtglekooldbeklaaGreatDoor
namespace Go.Proofs.YtglekooldbeklaaGreatDoor
open Go.ChangeShapes Go.WideShapes Go.ChangeAt Go.RowKit
set_option maxRecDepth 20000
set_option maxHeartbeats 8000000 in
theorem fcells_own (A0:Option Addr) (cap n:Nat) (D:Nat→Dm) (A:Nat→Option Addr) (C:Nat→Nat) (AE:Option Addr) (ce:Nat) (xs:List EnL) (w:World) (hM:DimsV w A0 cap n D A C) (hE:EnsV w AE ce xs) (he:entsErr D n (lE xs)=0) :
  Calls Tryz.prog 20 #[.agg #[.slice A0 n cap],.slice AE xs.length ce] w fun e w'=>(∃ g,e=.returned (.tuple #[.slice (some ⟨g,0,none⟩) (prodN D n) (prodN D n),.nilIface])∧w.heap.size≤g∧CelB w' g (wrV D n (lE xs)))∧Below w.heap.size w w':=by
 have hB0:=ownOut_below w A0 n cap 24
 have h:=icheck_any A0 cap n D A C AE ce xs (ownOut w A0 n cap 24) (hM.later hB0) (hE.later hB0)
 have HB0:Hid (Below w.heap.size w (ownOut w A0 n cap 24)):=hB0
 have HM:Hid (DimsV w A0 cap n D A C):=hM
 have HE:Hid (EnsV w AE ce xs):=hE
 clear hM hE hB0
 have hEs:=ens_of he
 have HEs:Hid (Ens D n (lE xs)):=hEs
 have hfew:xs.length≤3000:=by have:=hEs.few;rw [lE_len] at this;exact this
 have hR:=hEs.right
 have HR:Hid ((allErr D n).2.2=0):=hR
 obtain ⟨hn1,hn4,hp3,hd⟩:=allErr_some hR
 rw [he,errV_zero] at h
 have HBo:Hid (w.heap.size<(ownOut w A0 n cap 24).heap.size∧(ownOut w A0 n cap 24).cell? ⟨w.heap.size,0,none⟩=some (.slice A0 n cap)):=⟨by rw [ownOut_size];omega,ownOut_at ..⟩
 obtain ⟨N,hN⟩:∃ N,xs.length=N:=⟨_,rfl⟩
 have HN:Hid (xs.length=N):=hN
 rw [hN] at h hfew ⊢
 have hN':(N:Int)≤3000:=by omega
 obtain ⟨PN,hPN⟩:∃ PN,prodN D n=PN:=⟨_,rfl⟩
 have HPN:Hid (prodN D n=PN):=hPN
 rw [hPN] at hp3
 have hmk:=run_make_cells PN hp3
 have hPN':(PN:Int)≤3000:=by omega
 have HWE:Hid (((lE xs).take N).foldl (wrStep D n) (List.replicate PN (0,0))=wrV D n (lE xs)):=by show _=_;rw [List.take_of_length_le (by rw [lE_len,hN];exact Nat.le_refl _),←hPN];rfl
 clear he hEs hR hd hN hPN
 go_enter Tryz.func20,Tryz.ntmps20
 go_wp2_with fail
 refine h.mono ?_
 rintro e w1 ⟨rfl,hb1⟩
 have hB:Below w.heap.size w w1:=onB HB0.out hb1
 have HB:Hid (Below w.heap.size w w1):=hB
 have HBox:Hid (BoxN w1 w.heap.size (.slice A0 n cap)):=⟨Nat.lt_of_lt_of_le HBo.out.1 hb1.size,(hb1.cell (p:=⟨w.heap.size,0,none⟩) HBo.out.1).trans HBo.out.2⟩
 have c1:=HBox.out.2
 have hpc:=pcells_any A0 cap n D A C w1 (HM.out.later hB)
 have hcv:cellsV D n=(PN:Int):=by unfold cellsV;rw [if_pos HR.out,HPN.out]
 rw [HR.out,errV_zero,hcv] at hpc
 clear hb1 h hB hcv
 go_wp2_with fail
 refine hpc.mono ?_
 rintro e w2 ⟨rfl,hb2⟩
 have HB2:Hid (Below w.heap.size w w2):=onB HB.out hb2
 have HBox2:Hid (BoxN w2 w.heap.size (.slice A0 n cap)):=HBox.out.later hb2
 obtain ⟨v2,hv2⟩:∃ v,w2.alloc (.cells (madeCells #[.int .i64 0,.int .i64 0] (PN*2)) 48)=v:=⟨_,rfl⟩
 have hBv:Below w2.heap.size w2 v2:=by rw [←hv2];go_grown
 have HBv:Hid (Below w2.heap.size w2 v2):=hBv
 have HCv:Hid (CelB v2 w2.heap.size (List.replicate PN (0,0))):=by rw [←hv2];exact celB_made w2 PN
 have HBoxv:Hid (BoxN v2 w.heap.size (.slice A0 n cap)):=HBox2.out.later hBv
 have hwz:w.heap.size<w2.heap.size:=HBox2.out.1
 clear hpc hb2 c1 hBv
 go_wp2_with fail
 clear hmk hv2
 go_loopg [32] N (fun gg s32 wr => ∃ (k:Nat),k≤N∧gg=N-k∧s32=.int .i64 k∧Hid (CelB wr w2.heap.size (((lE xs).take k).foldl (wrStep D n) (List.replicate PN (0,0))))∧Hid (v2.grownBy wr (some w2.heap.size)))
 case atStart=>exact ⟨0,Nat.zero_le _,rfl,rfl,HCv,grown_refl v2 _⟩
 case round =>
  obtain ⟨k,hk,rfl,rfl,HC,HG⟩:=hrel
  have hB2r:Below w2.heap.size w2 wr:=HBv.out.grown HG.out HBv.out.size (fun j hj=>by cases hj;exact Nat.le_refl _)
  have HB2r:Hid (Below w2.heap.size w2 wr):=hB2r
  have HBr:Hid (Below w.heap.size w wr):=onB HB2.out hB2r
  by_cases hlt:k<N
  ·have hkx:k<xs.length:=by rw [HN.out];exact hlt
   have hki:(k:Int)<(N:Int):=by omega
   obtain ⟨-,-,h0 | ⟨bb,oo,rfl,hA⟩⟩:=HE.out.later HBr.out
   ·have:=HN.out;rw [h0] at this;simp at this;omega
   obtain ⟨c1,c2⟩:=hA.at hkx
   have hmem:(xs.getD k noL).e∈lE xs:=List.mem_map.2 ⟨_,enl_mem hkx,rfl⟩
   obtain ⟨hqI,-,hnum⟩:=HEs.out.each _ hmem
   have hnn : -1000000≤(xs.getD k noL).e.n∧(xs.getD k noL).e.n≤1000000:=by simpa [numOk] using hnum
   obtain ⟨hq1,hq2,-⟩:=numI_bound hqI (Nat.le_refl n)
   have hpl:=hA.pl hkx
   have HWr:=take_wr D n (List.replicate PN (0,0)) xs hkx
   unfold wrStep at HWr
   obtain ⟨X,hX⟩:∃ X:Nat,numI D (xs.getD k noL).e.pl n=X:=⟨(numI D (xs.getD k noL).e.pl n).toNat,by omega⟩
   have hnv:numV D n (xs.getD k noL).e.pl=(X:Int):=by unfold numV;rw [if_pos hqI.ok,hX]
   have hXN:X<PN:=by have:=HPN.out;omega
   have hNum:∀ w',Below wr.heap.size wr w'→_:=fun w' hw'=>pnumber_any A0 cap n D A C (xs.getD k noL).A (xs.getD k noL).c (xs.getD k noL).e.pl w' (HM.out.later (onB HBr.out hw')) (hpl.later hw')
   rw [hnv,hqI.ok,errV_zero] at hNum
   have HNum:Hid (∀ w',Below wr.heap.size wr w'→_):=hNum
   have hof:=fun w'=>of_any (xs.getD k noL).e.n w'
   rw [ofP_in (by omega) (by omega)] at hof
   rw [hX,show ((X:Int)).toNat=X by omega] at HWr
   have HWR:Hid _:=HWr
   obtain ⟨LL,hLL⟩:∃ LL,((lE xs).take k).foldl (wrStep D n) (List.replicate PN (0,0))=LL:=⟨_,rfl⟩
   have hLLn:LL.length=PN:=by rw [←hLL,wrs_len];simp
   have HCL:Hid (CelB wr w2.heap.size LL):=by rw [←hLL];exact HC.out
   have HNx:Hid (((lE xs).take (k+1)).foldl (wrStep D n) (List.replicate PN (0,0))=LL.set X (1,(xs.getD k noL).e.n)):=by
    show _=_
    rw [←hLL]
    exact HWR.out
   have HBxr:Hid (BoxN wr w.heap.size (.slice A0 n cap)):=boxn_other HBoxv.out (by omega) HG.out
   have hXL:X<LL.length:=by omega
   have HXL:Hid (X<LL.length):=hXL
   generalize (xs.getD k noL).A=A1 at c1 HNum
   generalize (xs.getD k noL).c=k1 at c1 HNum
   generalize (xs.getD k noL).e.n=num at c2 hnn hof HNx
   generalize (xs.getD k noL).e.pl.length=m1 at c1 HNum
   have hcr:=HBxr.out.2
   have hXi:(X:Int)<(PN:Int):=by omega
   obtain ⟨y,hy⟩:∃ y,wr.alloc (.cells #[.slice A1 m1 k1,.int .i64 num] 77)=y:=⟨_,rfl⟩
   have hBy:Below wr.heap.size wr y:=by rw [←hy];go_grown
   have HBy:Hid (Below wr.heap.size wr y):=hBy
   have HPy:Hid (y.heap[wr.heap.size]?=some (.cells #[.slice A1 m1 k1,.int .i64 num] 77 (0,0))):=by show _=_;rw [←hy];exact heap_alloc_new ..
   obtain ⟨p0,p1,-,-⟩:=pair_at HPy.out
   have hyo:=(HBxr.out.later hBy).2
   clear hB2r hA hmem hqI hnum hpl HWr hNum hnv hLL hLLn hX hq1 hq2 hBy hXL HWR
   go_wp2_with fail
   refine (HNum.out _ HBy.out).mono ?_
   rintro e w5 ⟨rfl,hb5⟩
   have HB5:Hid (Below y.heap.size y w5):=hb5
   have hwr:wr.heap.size<y.heap.size:=(Array.getElem?_eq_some_iff.1 HPy.out).1
   have hP5:w5.heap[wr.heap.size]?=some (.cells #[.slice A1 m1 k1,.int .i64 num] 77 (0,0)):=(hb5.block _ hwr).trans HPy.out
   obtain ⟨-,s1,-,-⟩:=pair_at hP5
   clear hb5 hP5 p0 p1 hyo
   go_wp2_with fail
   refine (hof _).mono ?_
   rintro e w6 ⟨rfl,hb6⟩
   have hB6:Below wr.heap.size wr w6:=onB (onB HBy.out HB5.out) hb6
   have HC6:Hid (CelB w6 w2.heap.size LL):=HCL.out.later hB6
   obtain ⟨g1,g2⟩:=HC6.out.at HXL.out
   have g3:=HC6.out.frozen (X*2)
   have g4:=HC6.out.frozen (X*2+1)
   have HC7:Hid (CelB ((w6.setCell ⟨w2.heap.size,X*2,none⟩ (.int .i64 1)).setCell ⟨w2.heap.size,X*2+1,none⟩ (.int .i64 num)) w2.heap.size (((lE xs).take (k+1)).foldl (wrStep D n) (List.replicate PN (0,0)))):=by show CelB _ _ _;rw [HNx.out];exact HC6.out.set HXL.out 1 num
   have HG7:Hid (v2.grownBy ((w6.setCell ⟨w2.heap.size,X*2,none⟩ (.int .i64 1)).setCell ⟨w2.heap.size,X*2+1,none⟩ (.int .i64 num)) (some w2.heap.size)):=cel_grown (grown_then HG.out hB6)
   clear hb6 hB6 hof s1
   go_wp2_with fail
   go_roundg (N-(k+1))
   case measure=>omega
   case rel=>exact ⟨k+1,by omega,rfl,by go_num,HC7,HG7⟩
  ·have hke:k=N:=by omega
   subst hke
   have HV:Hid (CelB wr w2.heap.size (wrV D n (lE xs))):=by rw [←HWE.out];exact HC.out
   clear hB2r
   go_wp2_with fail
   go_ret2
   exact ⟨⟨w2.heap.size,by rw [HPN.out];rfl,HB2.out.size,HV.out⟩,HBr.out⟩
theorem good_getE {D:Nat→Dm} {n:Nat} {l:List En} (h:Ens D n l) (p:List Int):goodC (getE l p):=by
 unfold getE
 split
 ·exact good_zero
 ·rename_i e r he
  split
  ·exact good_zero
  ·have hm:e∈l:=List.mem_of_mem_drop (i:=cntE l p) (by rw [he];exact List.mem_cons_self ..)
   exact goodC_num (h.each e hm).2.2
theorem wr_at {D:Nat→Dm} {n:Nat} {l:List En} (h:Ens D n l) {j:Nat} (hj:j<prodN D n):(wrV D n l).getD j noC=getE l (placeL D n j):=by
 rw [wr_rwL h]
 simp [rwL,List.getD,hj]
end Go.Proofs.YtglekooldbeklaaGreatDoor
namespace Go.Proofs.YtglekooldbeklaaGreatDoor
open Go.ChangeShapes Go.WideShapes Go.ChangeAt Go.RowKit Go.Lib
set_option maxRecDepth 100000
theorem cell_laterQ {w w':World} {b o:Nat} {x:Value} (h:w.cell? ⟨b,o,none⟩=some x) (hB:Below w.heap.size w w'):w'.cell? ⟨b,o,none⟩=some x:=(hB.cell (p:=⟨b,o,none⟩) (World.block_lt_of_cell? _ _ h)).trans h
end Go.Proofs.YtglekooldbeklaaGreatDoor
namespace Go.Proofs.YtglekooldbeklaaGreatDoor
open Go.ChangeShapes Go.WideShapes Go.ChangeAt Go.RowKit Go.Lib
theorem ens_same {D D':Nat→Dm} {n:Nat} {l:List En} (hE:Ens D n l) (hA:(allErr D' n).2.2=0) (hn:∀ i,i<n→(D' i).n=(D i).n) (hm:∀ i,i<n→∀ x,x<(D i).n→((D' i).mem x).parent=((D i).mem x).parent∧(((D i).mem x).formula.size=0→((D' i).mem x).formula.size=0)):Ens D' n l:=by
 refine ⟨hA,fun e he=>?_,hE.rise⟩
 obtain ⟨h1,h2,h3⟩:=hE.each e he
 have hIn:InO D' n e.pl:=⟨hA,h1.len,h1.lo,fun i hi=>by rw [hn i hi];exact h1.hi i hi⟩
 refine ⟨hIn,?_,h3⟩
 have hp1:placeErr D n e.pl=0:=h1.ok
 have hp2:placeErr D' n e.pl=0:=hIn.ok
 unfold leafV at h2 ⊢
 rw [if_pos hp1] at h2
 rw [if_pos hp2]
 have hno:∀ i,i<n→notLeaf D e.pl i=false:=fun i hi=>by
  rcases findFrom_cases (notLeaf D e.pl) n 0 with ⟨_,h4⟩ | ⟨j,h4,_⟩
  ·exact h4 i (Nat.zero_le _) (by omega)
  ·rw [h4] at h2
   simp at h2
 rw [findFrom_none (p:=notLeaf D' e.pl) fun i _ hi=>?_]
 ·rfl
 ·have hi':i<n:=by omega
  have h4:=hno i hi'
  have hlo:=h1.lo i hi'
  have hhi:=h1.hi i hi'
  unfold notLeaf at h4 ⊢
  obtain ⟨x,hx⟩:∃ x:Nat,e.pl.getD i 0=x:=⟨(e.pl.getD i 0).toNat,by omega⟩
  rw [hx,Int.toNat_natCast] at h4 ⊢
  have hxn:x<(D i).n:=by omega
  unfold leafB at h4 ⊢
  have hf:findFrom (partB (D' i).mem x) (D' i).n 0<0↔findFrom (partB (D i).mem x) (D i).n 0<0:=by
   have hp:∀ j,j<(D i).n→partB (D' i).mem x j=partB (D i).mem x j:=fun j hj=>by
    unfold partB
    rw [(hm i hi' j hj).1]
   rw [hn i hi']
   constructor
   ·intro h5
    rcases findFrom_cases (partB (D i).mem x) (D i).n 0 with ⟨h6,_⟩ | ⟨j,_,_,h7,h8,_⟩
    ·omega
    ·have:=findFrom_nonneg (q:=partB (D' i).mem x) (n:=(D i).n) (i:=j) (by omega) (by rw [hp j (by omega)];exact h8)
     omega
   ·intro h5
    rcases findFrom_cases (partB (D' i).mem x) (D i).n 0 with ⟨h6,_⟩ | ⟨j,_,_,h7,h8,_⟩
    ·omega
    ·have:=findFrom_nonneg (q:=partB (D i).mem x) (n:=(D i).n) (i:=j) (by omega) (by rw [←hp j (by omega)];exact h8)
     omega
  have hg:=(hm i hi' x hxn).2
  simp only [Bool.not_eq_false',Bool.and_eq_true,decide_eq_true_eq,Bool.not_eq_true',decide_eq_false_iff_not] at h4 ⊢
  exact ⟨hg h4.1,by have:=hf.2 (by omega);omega⟩
theorem ens_rename {D:Nat→Dm} {n k i:Nat} {l:List En} {new:ByteArray} (hE:Ens D n l) (hA:(allErr (putD D k (renD (D k) i new)) n).2.2=0):Ens (putD D k (renD (D k) i new)) n l :=
 ens_same hE hA (fun j _=>by
  by_cases e:j=k
  ·subst e
   rw [putD_at]
   rfl
  ·rw [putD_off D _ e]) fun j _ x _=>by
  by_cases e:j=k
  ·subst e
   rw [putD_at]
   refine ⟨rfl,fun h0=>?_⟩
   show (refT ((D j).mem i).name new ((D j).mem x).formula).size=0
   unfold refT
   rw [if_pos h0]
   exact h0
  ·rw [putD_off D _ e]
   exact ⟨rfl,id⟩
theorem ens_move {D:Nat→Dm} {n k i:Nat} {l:List En} {tgt:Int} (hE:Ens D n l) (hA:(allErr (putD D k (movD (D k) i tgt)) n).2.2=0) (hw:wrAt l k tgt=false):Ens (putD D k (movD (D k) i tgt)) n l:=by
 have hn:∀ j,(putD D k (movD (D k) i tgt) j).n=(D j).n:=fun j=>by
  by_cases e:j=k
  ·subst e
   rw [putD_at]
   rfl
  ·rw [putD_off D _ e]
 refine ⟨hA,fun e he=>?_,hE.rise⟩
 obtain ⟨h1,h2,h3⟩:=hE.each e he
 have hIn:InO (putD D k (movD (D k) i tgt)) n e.pl:=⟨hA,h1.len,h1.lo,fun j hj=>by rw [hn j];exact h1.hi j hj⟩
 refine ⟨hIn,?_,h3⟩
 have hp1:placeErr D n e.pl=0:=h1.ok
 have hp2:placeErr (putD D k (movD (D k) i tgt)) n e.pl=0:=hIn.ok
 unfold leafV at h2 ⊢
 rw [if_pos hp1] at h2
 rw [if_pos hp2]
 have hno:∀ j,j<n→notLeaf D e.pl j=false:=fun j hj=>by
  rcases findFrom_cases (notLeaf D e.pl) n 0 with ⟨_,h4⟩ | ⟨j',h4,_⟩
  ·exact h4 j (Nat.zero_le _) (by omega)
  ·rw [h4] at h2
   simp at h2
 rw [findFrom_none (p:=notLeaf (putD D k (movD (D k) i tgt)) e.pl) fun j _ hj=>?_]
 ·rfl
 ·have hj':j<n:=by omega
  have h4:=hno j hj'
  have hlo:=h1.lo j hj'
  have hhi:=h1.hi j hj'
  by_cases hjk:j=k
  ·subst hjk
   unfold notLeaf at h4 ⊢
   rw [putD_at]
   obtain ⟨x,hx⟩:∃ x:Nat,e.pl.getD j 0=x:=⟨(e.pl.getD j 0).toNat,by omega⟩
   rw [hx,Int.toNat_natCast] at h4 ⊢
   have hxt:tgt≠(x:Int):=fun e2=>by
    have:wrAt l j tgt=true:=by
     unfold wrAt
     rw [List.any_eq_true]
     exact ⟨e,he,by simp only [decide_eq_true_eq];rw [hx,e2]⟩
    rw [hw] at this
    cases this
   unfold leafB at h4 ⊢
   have hfm:((movD (D j) i tgt).mem x).formula=((D j).mem x).formula:=by
    by_cases e2:x=i
    ·subst e2
     simp [movD,setMb,putM]
    ·simp [movD,setMb,putM,e2]
   have hf:findFrom (partB (D j).mem x) (D j).n 0<0→findFrom (partB (movD (D j) i tgt).mem x) (movD (D j) i tgt).n 0<0:=by
    intro h5
    have hmn:(movD (D j) i tgt).n=(D j).n:=rfl
    rcases findFrom_cases (partB (movD (D j) i tgt).mem x) (movD (D j) i tgt).n 0 with ⟨h6,_⟩ | ⟨y,_,_,h7,h8,_⟩
    ·omega
    ·by_cases e2:y=i
     ·subst e2
      unfold partB at h8
      rw [show ((movD (D j) y tgt).mem y).parent=tgt by simp [movD,setMb,putM]] at h8
      exact absurd (by simpa using h8) hxt
     ·have h9:partB (D j).mem x y=true:=by
       unfold partB at h8 ⊢
       rwa [show (movD (D j) i tgt).mem y=(D j).mem y by simp [movD,setMb,putM,e2]] at h8
      have:=findFrom_nonneg (q:=partB (D j).mem x) (n:=(D j).n) (i:=y) (by omega) h9
      omega
   rw [hfm]
   simp only [Bool.not_eq_false',Bool.and_eq_true,decide_eq_true_eq,Bool.not_eq_true',decide_eq_false_iff_not] at h4 ⊢
   exact ⟨h4.1,by have:=hf (by omega);omega⟩
  ·unfold notLeaf at h4 ⊢
   rw [putD_off D _ hjk]
   exact h4
theorem sign_ok {d:Dm} (h:(dimErr d).2=0) {i:Nat} (hi:i<d.n):resE (d.mem i).sign=0:=by
 have hm:=(dimErr_right h).2.2.2 i hi
 unfold memErr at hm
 unfold resE
 rw [if_neg]
 intro hs
 repeat' split at hm
 all_goals first | omega | (simp_all;done) | (cases hm)
theorem res_put {d:Dm} {i:Nat} {s:Int}:resD (resD d i s) i (d.mem i).sign=d:=by
 obtain ⟨nm,sv,dn,mm⟩:=d
 unfold resD setMb
 simp only
 congr 1
 funext x
 by_cases h:x=i
 ·subst h
  simp [putM]
 ·simp [putM,h]
theorem res_back {D:Nat→Dm} {n k i:Nat} {l:List En} {nm:ByteArray} {tgt sign:Int} (hk:k<n) (hi:i<(D k).n) (h:chE D n l ⟨5,k,i,nm,tgt,sign⟩=0) :
  chL D n l ⟨5,k,i,nm,tgt,sign⟩=l∧cuErr (chD D ⟨5,k,i,nm,tgt,sign⟩) n l=0∧chE (chD D ⟨5,k,i,nm,tgt,sign⟩) n l ⟨5,k,i,⟨#[]⟩,0,((D k).mem i).sign⟩=0∧chD (chD D ⟨5,k,i,nm,tgt,sign⟩) ⟨5,k,i,⟨#[]⟩,0,((D k).mem i).sign⟩=D∧chL (chD D ⟨5,k,i,nm,tgt,sign⟩) n l ⟨5,k,i,⟨#[]⟩,0,((D k).mem i).sign⟩=l:=by
 have hD1:chD D ⟨5,k,i,nm,tgt,sign⟩=putD D k (resD (D k) i sign):=by
  show putD D ((k:Int).toNat) (cgD (D ((k:Int).toNat)) _)=_
  rw [Int.toNat_natCast]
  show putD D k (resD (D k) ((i:Int).toNat) sign)=_
  rw [Int.toNat_natCast]
 have hL:∀ D' s' nm' tg',chE D' n l ⟨5,k,i,nm',tg',s'⟩=0→chL D' n l ⟨5,k,i,nm',tg',s'⟩=l:=fun D' s' nm' tg' h'=>by
  unfold chL
  rw [if_pos h']
  show (if (5:Int)=2 then _ else l)=l
  exact if_neg (by decide)
 have hL1:=hL D sign nm tgt h
 unfold chE at h
 simp only [Int.toNat_natCast] at h
 by_cases hcu:cuErr D n l=0
 case neg=>rw [if_pos hcu] at h;exact absurd h hcu
 rw [if_neg (by simpa using hcu),if_neg (by omega)] at h
 by_cases hs:cgE (D k) l k ⟨5,k,i,nm,tgt,sign⟩=0
 case neg=>rw [if_pos hs] at h;exact absurd h hs
 rw [if_neg (by simpa using hs)] at h
 have hc5:∀ d':Dm,cgD d' ⟨5,k,i,nm,tgt,sign⟩=resD d' i sign:=fun d'=>by
  show resD d' ((i:Int).toNat) sign=_
  rw [Int.toNat_natCast]
 rw [hc5] at h
 obtain ⟨hr0,hens⟩:=cu_parts hcu
 have hens1:Ens (putD D k (resD (D k) i sign)) n l:=ens_same hens (ru_parts h).1 (fun j _=>by
  by_cases e:j=k
  ·subst e;rw [putD_at];rfl
  ·rw [putD_off D _ e]) fun j _ x _=>by
  by_cases e:j=k
  ·subst e
   rw [putD_at]
   show ((if x=i then _ else _:Mem)).parent=_∧_
   by_cases e2:x=i
   ·subst e2
    simp [resD,setMb,putM]
   ·simp [resD,setMb,putM,e2]
  ·rw [putD_off D _ e]
   exact ⟨rfl,id⟩
 have hcu1:cuErr (putD D k (resD (D k) i sign)) n l=0:=by
  unfold cuErr
  rw [if_neg (by simpa using h)]
  exact hens1.ok
 have hback:putD (putD D k (resD (D k) i sign)) k (resD (resD (D k) i sign) i ((D k).mem i).sign)=D:=by
  rw [res_put,putD_twice,putD_self]
 have hs2:cgE (resD (D k) i sign) l k ⟨5,k,i,⟨#[]⟩,0,((D k).mem i).sign⟩=0:=by
  show (if (5:Int)=1 then _ else if (i:Int)<0∨(((D k).n:Nat):Int)≤(i:Int) then _ else if (5:Int)=2 then _ else if (5:Int)=3 then _ else if (5:Int)=4 then _ else if (5:Int)=5 then resE ((D k).mem i).sign else _)=0
  rw [if_neg (by decide),if_neg (by omega),if_neg (by decide),if_neg (by decide),if_neg (by decide),if_pos rfl]
  exact sign_ok ((allErr_right (ru_parts hr0).1).2 k hk) hi
 have hc6:∀ d':Dm,cgD d' ⟨5,k,i,⟨#[]⟩,0,((D k).mem i).sign⟩=resD d' i ((D k).mem i).sign:=fun d'=>by
  show resD d' ((i:Int).toNat) _=_
  rw [Int.toNat_natCast]
 have hE2:chE (putD D k (resD (D k) i sign)) n l ⟨5,k,i,⟨#[]⟩,0,((D k).mem i).sign⟩=0:=by
  unfold chE
  rw [if_neg (by simpa using hcu1)]
  simp only [Int.toNat_natCast]
  rw [if_neg (by omega),putD_at,hs2,if_neg (by decide),hc6,hback]
  exact hr0
 rw [hD1]
 refine ⟨hL1,hcu1,hE2,?_,hL _ _ _ _ hE2⟩
 unfold chD
 simp only [Int.toNat_natCast]
 rw [putD_at,hc6,hback]
def kpD (_:Nat):Dm:=⟨⟨#[97]⟩,0,1,fun _=>⟨⟨#[98]⟩,-1,0,⟨#[]⟩⟩⟩
def kpC:Chg:=⟨1,0,0,⟨#[99]⟩,0,1⟩
theorem kp_dim:(dimErr (addD (kpD 0) (newM kpC))).2=0:=by decide +kernel
theorem kp_all0:(allErr kpD 1).2.2=0:=by decide +kernel
theorem kp_all:(allErr (putD kpD 0 (addD (kpD 0) (newM kpC))) 1).2.2=0:=by decide +kernel
theorem kp_ok:chE kpD 1 [] kpC=0∧chN kpD 1 [] kpC=1∧(chD kpD kpC 0).n=2:=by
 have h0:cuErr kpD 1 []=0:=by
  have hr:(ruErr kpD 1).2.2=0:=bare_right kp_all0 fun _ _ _ _=>rfl
  unfold cuErr
  rw [hr,if_neg (by simp)]
  exact Ens.ok ⟨kp_all0,fun e he=>(by cases he),List.Pairwise.nil⟩
 have h:chE kpD 1 [] kpC=0:=by
  unfold chE
  rw [if_neg (by simpa using h0),if_neg (by decide)]
  have h1:cgE (kpD 0) [] 0 kpC=0:=by
   show addE (kpD 0) [] 0 (newM kpC)=0
   unfold addE
   rw [if_neg (by simpa using kp_dim)]
   rfl
  have h2:(ruErr (putD kpD 0 (addD (kpD 0) (newM kpC))) 1).2.2=0:=bare_right kp_all fun i hi k _=>by
   have hi0:i=0:=by omega
   subst hi0
   rw [putD_at]
   show (if k=1 then newM kpC else _).formula.size=0
   split <;> rfl
  show (if cgE (kpD 0) [] 0 kpC≠0 then _ else (ruErr (putD kpD 0 (addD (kpD 0) (newM kpC))) 1).2.2)=0
  rw [if_neg (by simpa using h1)]
  exact h2
 exact ⟨h,if_pos h,rfl⟩
end Go.Proofs.YtglekooldbeklaaGreatDoor
