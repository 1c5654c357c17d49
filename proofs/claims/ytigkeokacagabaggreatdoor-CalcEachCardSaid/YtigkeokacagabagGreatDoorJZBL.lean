/-
  What is written, by number, and all dims folded in an order: what Cells, eachOnce and All of package fold answer, called in whatever memory.
-/
import Derived.Test.YtigkeokacagabagGreatDoorJZBK
namespace Go.Proofs.YtigkeokacagabagGreatDoor
open Go.ChangeShapes Go.WideShapes Go.ChangeAt Go.RowKit
set_option maxRecDepth 20000
def wrStep (D:Nat→Dm) (n:Nat) (L:List (Int×Int)) (e:En):List (Int×Int):=L.set (numI D e.pl n).toNat (1,e.n)
def wrV (D:Nat→Dm) (n:Nat) (l:List En):List (Int×Int):=l.foldl (wrStep D n) (List.replicate (prodN D n) (0,0))
theorem wrs_len (D:Nat→Dm) (n:Nat):∀ (l:List En) (L:List (Int×Int)),(l.foldl (wrStep D n) L).length=L.length
 | [],_=>rfl
 | e :: r,L=>by rw [List.foldl_cons,wrs_len D n r];unfold wrStep;rw [List.length_set]
theorem wrV_len (D:Nat→Dm) (n:Nat) (l:List En):(wrV D n l).length=prodN D n:=by unfold wrV;rw [wrs_len];simp
theorem take_wr (D:Nat→Dm) (n:Nat) (L:List (Int×Int)) (xs:List EnL) {k:Nat} (h:k<xs.length):((lE xs).take (k+1)).foldl (wrStep D n) L=wrStep D n (((lE xs).take k).foldl (wrStep D n) L) (xs.getD k noL).e:=by
 have hk:k<(lE xs).length:=by rw [lE_len];exact h
 rw [List.take_succ_eq_append_getElem hk,List.foldl_append]
 have e:(lE xs)[k]=(xs.getD k noL).e:=by rw [←lE_at,List.getD_eq_getElem?_getD,List.getElem?_eq_getElem hk];rfl
 rw [e]
 rfl
theorem goodC_num {x:Int} (h:numOk x=true):goodC (1,x):=by
 have hn : -1000000≤x∧x≤1000000:=by simpa [numOk] using h
 exact decide_eq_true (Or.inl ⟨rfl,by omega,by omega⟩)
theorem run_make_cells (n:Nat) (hn:n≤3000) (w:World):(Instr.makeSlice 22 (.int .i64 (n:Int)) (.int .i64 (n:Int))).run Tryz.prog w=.ok (.slice (some ⟨w.heap.size,0,none⟩) n n) (w.alloc (.cells (madeCells #[.int .i64 0,.int .i64 0] (n*2)) 32)):=by
 obtain ⟨i0,hi0,hz0,hz1,hz2⟩:=info_parts Tryz.infoCe
 have hr:=run_make (P:=Tryz.prog) w 22 32 i0 _ Tryz.underlying22 hi0 hz0 .i64 .i64 n n (by omega) (Int.le_refl _) (by rw [hz2];omega) (by omega)
 simp only [Int.toNat_natCast,hz1] at hr
 exact hr
theorem celB_made (w:World) (n:Nat):CelB (w.alloc (.cells (madeCells #[.int .i64 0,.int .i64 0] (n*2)) 32)) w.heap.size (List.replicate n (0,0)):=by
 refine ⟨_,heap_alloc_new w _,fun k hk=>?_⟩
 have hk':k<n:=by simpa using hk
 have e1:(List.replicate n ((0:Int),(0:Int))).getD k noC=(0,0):=by simp [List.getD,hk']
 rw [e1]
 constructor
 ·simp [madeCells,show k*2<n*2 by omega]
 ·simp [madeCells,show k*2+1<n*2 by omega,show (k*2+1) % 2=1 by omega]
def fcL (D:Nat→Dm) (n:Nat) (l:List En):List (Int×Int):=if entsErr D n l=0 then wrV D n l else []
theorem fc_ok {D:Nat→Dm} {n:Nat} {l:List En} (h:entsErr D n l=0):fcL D n l=wrV D n l:=by unfold fcL;rw [if_pos h]
theorem fc_bad {D:Nat→Dm} {n:Nat} {l:List En} (h:entsErr D n l≠0):fcL D n l=[]:=by unfold fcL;rw [if_neg h]
set_option maxHeartbeats 8000000 in
theorem fcells_any (A0:Option Addr) (cap n:Nat) (D:Nat→Dm) (A:Nat→Option Addr) (C:Nat→Nat) (AE:Option Addr) (ce:Nat) (xs:List EnL) (w:World) (hM:DimsV w A0 cap n D A C) (hE:EnsV w AE ce xs) :
  Calls Tryz.prog 32 #[.agg #[.slice A0 n cap],.slice AE xs.length ce] w fun e w'=>(∃ A' c',e=.returned (.tuple #[.slice A' (fcL D n (lE xs)).length c',errV (entsErr D n (lE xs))])∧CelV w' A' c' (fcL D n (lE xs)))∧Below w.heap.size w w':=by
 have hB0:=ownOut_below w A0 n cap 29
 have h:=icheck_any A0 cap n D A C AE ce xs (ownOut w A0 n cap 29) (hM.later hB0) (hE.later hB0)
 have HB0:Hid (Below w.heap.size w (ownOut w A0 n cap 29)):=hB0
 have HM:Hid (DimsV w A0 cap n D A C):=hM
 have HE:Hid (EnsV w AE ce xs):=hE
 clear hM hE hB0
 by_cases he:entsErr D n (lE xs)=0
 ·have hEs:=ens_of he
  have HEs:Hid (Ens D n (lE xs)):=hEs
  have hfew:xs.length≤3000:=by have:=hEs.few;rw [lE_len] at this;exact this
  have hR:=hEs.right
  have HR:Hid ((allErr D n).2.2=0):=hR
  obtain ⟨hn1,hn4,hp3,hd⟩:=allErr_some hR
  have HF:Hid (fcL D n (lE xs)=wrV D n (lE xs)∧errV (entsErr D n (lE xs))=.nilIface):=⟨fc_ok he,by rw [he];rfl⟩
  rw [he,errV_zero] at h
  have HBo:Hid (w.heap.size<(ownOut w A0 n cap 29).heap.size∧(ownOut w A0 n cap 29).cell? ⟨w.heap.size,0,none⟩=some (.slice A0 n cap)):=⟨by rw [ownOut_size];omega,ownOut_at ..⟩
  obtain ⟨N,hN⟩:∃ N,xs.length=N:=⟨_,rfl⟩
  have HN:Hid (xs.length=N):=hN
  rw [hN] at h hfew ⊢
  have hN':(N:Int)≤3000:=by omega
  obtain ⟨PN,hPN⟩:∃ PN,prodN D n=PN:=⟨_,rfl⟩
  have HPN:Hid (prodN D n=PN):=hPN
  rw [hPN] at hp3
  have hmk:=run_make_cells PN hp3
  have hPN':(PN:Int)≤3000:=by omega
  have HWE:Hid (((lE xs).take N).foldl (wrStep D n) (List.replicate PN (0,0))=wrV D n (lE xs)):=by show _=_;rw [List.take_of_length_le (by rw [lE_len,hN];exact Nat.le_refl _),←hPN];rfl
  clear he hEs hR hd hN hPN
  go_enter Tryz.func32,Tryz.ntmps32
  go_wp2_with fail
  refine h.mono ?_
  rintro e w1 ⟨rfl,hb1⟩
  have hB:Below w.heap.size w w1:=onB HB0.out hb1
  have HB:Hid (Below w.heap.size w w1):=hB
  have HBox:Hid (BoxN w1 w.heap.size (.slice A0 n cap)):=⟨Nat.lt_of_lt_of_le HBo.out.1 hb1.size,(hb1.cell (p:=⟨w.heap.size,0,none⟩) HBo.out.1).trans HBo.out.2⟩
  have c1:=HBox.out.2
  have hpc:=pcells_any A0 cap n D A C w1 (HM.out.later hB)
  have hcv:cellsV D n=(PN:Int):=by unfold cellsV;rw [if_pos HR.out,HPN.out]
  rw [HR.out,errV_zero,hcv] at hpc
  clear hb1 h hB hcv
  go_wp2_with fail
  refine hpc.mono ?_
  rintro e w2 ⟨rfl,hb2⟩
  have HB2:Hid (Below w.heap.size w w2):=onB HB.out hb2
  have HBox2:Hid (BoxN w2 w.heap.size (.slice A0 n cap)):=HBox.out.later hb2
  obtain ⟨v2,hv2⟩:∃ v,w2.alloc (.cells (madeCells #[.int .i64 0,.int .i64 0] (PN*2)) 32)=v:=⟨_,rfl⟩
  have hBv:Below w2.heap.size w2 v2:=by rw [←hv2];go_grown
  have HBv:Hid (Below w2.heap.size w2 v2):=hBv
  have HCv:Hid (CelB v2 w2.heap.size (List.replicate PN (0,0))):=by rw [←hv2];exact celB_made w2 PN
  have HBoxv:Hid (BoxN v2 w.heap.size (.slice A0 n cap)):=HBox2.out.later hBv
  have hwz:w.heap.size<w2.heap.size:=HBox2.out.1
  clear hpc hb2 c1 hBv
  go_wp2_with fail
  clear hmk hv2
  go_loopg [32] N (fun gg s32 wr => ∃ (k:Nat),k≤N∧gg=N-k∧s32=.int .i64 k∧Hid (CelB wr w2.heap.size (((lE xs).take k).foldl (wrStep D n) (List.replicate PN (0,0))))∧Hid (v2.grownBy wr (some w2.heap.size)))
  case atStart=>exact ⟨0,Nat.zero_le _,rfl,rfl,HCv,grown_refl v2 _⟩
  case round =>
   obtain ⟨k,hk,rfl,rfl,HC,HG⟩:=hrel
   have hB2r:Below w2.heap.size w2 wr:=HBv.out.grown HG.out HBv.out.size (fun j hj=>by cases hj;exact Nat.le_refl _)
   have HB2r:Hid (Below w2.heap.size w2 wr):=hB2r
   have HBr:Hid (Below w.heap.size w wr):=onB HB2.out hB2r
   by_cases hlt:k<N
   ·have hkx:k<xs.length:=by rw [HN.out];exact hlt
    have hki:(k:Int)<(N:Int):=by omega
    obtain ⟨-,-,h0 | ⟨bb,oo,rfl,hA⟩⟩:=HE.out.later HBr.out
    ·have:=HN.out;rw [h0] at this;simp at this;omega
    obtain ⟨c1,c2⟩:=hA.at hkx
    have hmem:(xs.getD k noL).e∈lE xs:=List.mem_map.2 ⟨_,enl_mem hkx,rfl⟩
    obtain ⟨hqI,-,hnum⟩:=HEs.out.each _ hmem
    have hnn : -1000000≤(xs.getD k noL).e.n∧(xs.getD k noL).e.n≤1000000:=by simpa [numOk] using hnum
    obtain ⟨hq1,hq2,-⟩:=numI_bound hqI (Nat.le_refl n)
    have hpl:=hA.pl hkx
    have HWr:=take_wr D n (List.replicate PN (0,0)) xs hkx
    unfold wrStep at HWr
    obtain ⟨X,hX⟩:∃ X:Nat,numI D (xs.getD k noL).e.pl n=X:=⟨(numI D (xs.getD k noL).e.pl n).toNat,by omega⟩
    have hnv:numV D n (xs.getD k noL).e.pl=(X:Int):=by unfold numV;rw [if_pos hqI.ok,hX]
    have hXN:X<PN:=by have:=HPN.out;omega
    have hNum:∀ w',Below wr.heap.size wr w'→_:=fun w' hw'=>pnumber_any A0 cap n D A C (xs.getD k noL).A (xs.getD k noL).c (xs.getD k noL).e.pl w' (HM.out.later (onB HBr.out hw')) (hpl.later hw')
    rw [hnv,hqI.ok,errV_zero] at hNum
    have HNum:Hid (∀ w',Below wr.heap.size wr w'→_):=hNum
    have hof:=fun w'=>of_any (xs.getD k noL).e.n w'
    rw [ofP_in (by omega) (by omega)] at hof
    rw [hX,show ((X:Int)).toNat=X by omega] at HWr
    have HWR:Hid _:=HWr
    obtain ⟨LL,hLL⟩:∃ LL,((lE xs).take k).foldl (wrStep D n) (List.replicate PN (0,0))=LL:=⟨_,rfl⟩
    have hLLn:LL.length=PN:=by rw [←hLL,wrs_len];simp
    have HCL:Hid (CelB wr w2.heap.size LL):=by rw [←hLL];exact HC.out
    have HNx:Hid (((lE xs).take (k+1)).foldl (wrStep D n) (List.replicate PN (0,0))=LL.set X (1,(xs.getD k noL).e.n)):=by
     show _=_
     rw [←hLL]
     exact HWR.out
    have HBxr:Hid (BoxN wr w.heap.size (.slice A0 n cap)):=boxn_other HBoxv.out (by omega) HG.out
    have hXL:X<LL.length:=by omega
    have HXL:Hid (X<LL.length):=hXL
    generalize (xs.getD k noL).A=A1 at c1 HNum
    generalize (xs.getD k noL).c=k1 at c1 HNum
    generalize (xs.getD k noL).e.n=num at c2 hnn hof HNx
    generalize (xs.getD k noL).e.pl.length=m1 at c1 HNum
    have hcr:=HBxr.out.2
    have hXi:(X:Int)<(PN:Int):=by omega
    obtain ⟨y,hy⟩:∃ y,wr.alloc (.cells #[.slice A1 m1 k1,.int .i64 num] 46)=y:=⟨_,rfl⟩
    have hBy:Below wr.heap.size wr y:=by rw [←hy];go_grown
    have HBy:Hid (Below wr.heap.size wr y):=hBy
    have HPy:Hid (y.heap[wr.heap.size]?=some (.cells #[.slice A1 m1 k1,.int .i64 num] 46 (0,0))):=by show _=_;rw [←hy];exact heap_alloc_new ..
    obtain ⟨p0,p1,-,-⟩:=pair_at HPy.out
    have hyo:=(HBxr.out.later hBy).2
    clear hB2r hA hmem hqI hnum hpl HWr hNum hnv hLL hLLn hX hq1 hq2 hBy hXL HWR
    go_wp2_with fail
    refine (HNum.out _ HBy.out).mono ?_
    rintro e w5 ⟨rfl,hb5⟩
    have HB5:Hid (Below y.heap.size y w5):=hb5
    have hwr:wr.heap.size<y.heap.size:=(Array.getElem?_eq_some_iff.1 HPy.out).1
    have hP5:w5.heap[wr.heap.size]?=some (.cells #[.slice A1 m1 k1,.int .i64 num] 46 (0,0)):=(hb5.block _ hwr).trans HPy.out
    obtain ⟨-,s1,-,-⟩:=pair_at hP5
    clear hb5 hP5 p0 p1 hyo
    go_wp2_with fail
    refine (hof _).mono ?_
    rintro e w6 ⟨rfl,hb6⟩
    have hB6:Below wr.heap.size wr w6:=onB (onB HBy.out HB5.out) hb6
    have HC6:Hid (CelB w6 w2.heap.size LL):=HCL.out.later hB6
    obtain ⟨g1,g2⟩:=HC6.out.at HXL.out
    have g3:=HC6.out.frozen (X*2)
    have g4:=HC6.out.frozen (X*2+1)
    have HC7:Hid (CelB ((w6.setCell ⟨w2.heap.size,X*2,none⟩ (.int .i64 1)).setCell ⟨w2.heap.size,X*2+1,none⟩ (.int .i64 num)) w2.heap.size (((lE xs).take (k+1)).foldl (wrStep D n) (List.replicate PN (0,0)))):=by show CelB _ _ _;rw [HNx.out];exact HC6.out.set HXL.out 1 num
    have HG7:Hid (v2.grownBy ((w6.setCell ⟨w2.heap.size,X*2,none⟩ (.int .i64 1)).setCell ⟨w2.heap.size,X*2+1,none⟩ (.int .i64 num)) (some w2.heap.size)):=cel_grown (grown_then HG.out hB6)
    clear hb6 hB6 hof s1
    go_wp2_with fail
    go_roundg (N-(k+1))
    case measure=>omega
    case rel=>exact ⟨k+1,by omega,rfl,by go_num,HC7,HG7⟩
   ·have hke:k=N:=by omega
    subst hke
    have HV:Hid (CelB wr w2.heap.size (wrV D n (lE xs))):=by rw [←HWE.out];exact HC.out
    have HVL:Hid ((wrV D n (lE xs)).length=PN):=by show _=_;rw [wrV_len];exact HPN.out
    clear hB2r
    go_wp2_with fail
    go_ret2
    rw [HF.out.1,HF.out.2,HVL.out]
    exact ⟨⟨_,PN,rfl,by rw [HVL.out];exact Nat.le_refl _,by omega,Or.inr ⟨_,0,rfl,HV.out.celAt⟩⟩,HBr.out⟩
 ·have HF:Hid (fcL D n (lE xs)=[]):=fc_bad he
  have HEr:Hid (errV (entsErr D n (lE xs))=.iface 83 (.int .i64 (entsErr D n (lE xs)))):=errV_some he
  rw [errV_some he] at h
  clear he
  generalize entsErr D n (lE xs)=ee at h HEr
  generalize xs.length=N at h
  go_enter Tryz.func32,Tryz.ntmps32
  go_wp2_with fail
  refine h.mono ?_
  rintro e w1 ⟨rfl,hb1⟩
  have HB:Hid (Below w.heap.size w w1):=onB HB0.out hb1
  clear hb1 h
  go_wp2_with fail
  go_ret2
  rw [HF.out,HEr.out]
  exact ⟨⟨none,0,rfl,CelV.nil _ _ _ (by decide)⟩,HB.out⟩
end Go.Proofs.YtigkeokacagabagGreatDoor
namespace Go.Proofs.YtigkeokacagabagGreatDoor
open Go Go.ChangeShapes Go.WideShapes Go.ChangeAt Go.RowKit
set_option maxRecDepth 20000
def rwL (D:Nat→Dm) (n:Nat) (l:List En) (m:Nat):List (Int×Int):=(List.range m).map fun x=>getE l (placeL D n x)
theorem rwL_len (D:Nat→Dm) (n:Nat) (l:List En) (m:Nat):(rwL D n l m).length=m:=by simp [rwL]
theorem wr_none {D:Nat→Dm} {n x:Nat}:∀ (l:List En) (L:List (Int×Int)),(∀ e∈l,InO D n e.pl)→L.length=prodN D n→(∀ e∈l,(numI D e.pl n).toNat≠x)→(l.foldl (wrStep D n) L).getD x (0,0)=L.getD x (0,0)
 | [],_,_,_,_=>rfl
 | e :: r,L,hi,hL,h=>by
  obtain ⟨h1,h2,-⟩:=numI_bound (hi e (List.mem_cons_self ..)) (Nat.le_refl n)
  rw [List.foldl_cons,wr_none r _ (fun y hy=>hi y (List.mem_cons_of_mem _ hy)) (by unfold wrStep;rw [List.length_set];exact hL) fun y hy=>h y (List.mem_cons_of_mem _ hy)]
  unfold wrStep
  have:=h e (List.mem_cons_self ..)
  simp [List.getD,List.getElem?_set_ne this]
theorem wr_some {D:Nat→Dm} {n:Nat} {e:En}:∀ (l:List En) (L:List (Int×Int)),(∀ y∈l,InO D n y.pl)→(l.Pairwise fun a b=>lessL a.pl b.pl=true)→L.length=prodN D n→e∈l→(l.foldl (wrStep D n) L).getD (numI D e.pl n).toNat (0,0)=(1,e.n)
 | [],_,_,_,_,h=>by cases h
 | y :: r,L,hi,hr,hL,h=>by
  have hr':=List.pairwise_cons.1 hr
  have hiy:=hi y (List.mem_cons_self ..)
  have hir:=fun z hz=>hi z (List.mem_cons_of_mem y hz)
  obtain ⟨h1,h2,-⟩:=numI_bound hiy (Nat.le_refl n)
  rw [List.foldl_cons]
  have hL':(wrStep D n L y).length=prodN D n:=by unfold wrStep;rw [List.length_set];exact hL
  rcases List.mem_cons.1 h with rfl | h
  ·rw [wr_none r _ hir hL' fun z hz=>by
    have h3:=less_num hiy (hir z hz) (hr'.1 z hz)
    obtain ⟨h4,-,-⟩:=numI_bound (hir z hz) (Nat.le_refl n)
    omega]
   unfold wrStep
   have:(numI D e.pl n).toNat<L.length:=by omega
   simp [List.getD,this]
  ·exact wr_some r _ hir hr'.2 hL' h
theorem wr_rwL {D:Nat→Dm} {n:Nat} {l:List En} (h:Ens D n l):wrV D n l=rwL D n l (prodN D n):=by
 apply List.ext_getElem (by rw [wrV_len,rwL_len])
 intro x h1 h2
 rw [wrV_len] at h1
 have e1:(wrV D n l).getD x (0,0)=getE l (placeL D n x):=by
  unfold wrV
  by_cases hx:∃ e,e∈l∧(numI D e.pl n).toNat=x
  ·obtain ⟨e,he,hn⟩:=hx
   have h3:=wr_some l (List.replicate (prodN D n) (0,0)) (fun y hy=>(h.each y hy).1) h.rise (by simp) he
   rw [hn] at h3
   rw [h3,←hn,place_num (h.each e he).1,get_mem h.rise he]
  ·rw [wr_none l _ (fun y hy=>(h.each y hy).1) (by simp) fun e he hn=>hx ⟨e,he,hn⟩]
   rw [(get_none h.rise fun e he e2=>hx ⟨e,he,by rw [e2,num_place h.right h1];omega⟩).1]
   simp [List.getD,h1]
 have h3:x<(wrV D n l).length:=by rw [wrV_len];exact h1
 rw [List.getD_eq_getElem?_getD,List.getElem?_eq_getElem h3] at e1
 simp only [Option.getD_some] at e1
 rw [e1]
 simp [rwL]
end Go.Proofs.YtigkeokacagabagGreatDoor
namespace Go.Proofs.YtigkeokacagabagGreatDoor
open Go.ChangeShapes Go.WideShapes Go.ChangeAt Go.RowKit
set_option maxRecDepth 20000
set_option maxHeartbeats 8000000 in
theorem fcells_own (A0:Option Addr) (cap n:Nat) (D:Nat→Dm) (A:Nat→Option Addr) (C:Nat→Nat) (AE:Option Addr) (ce:Nat) (xs:List EnL) (w:World) (hM:DimsV w A0 cap n D A C) (hE:EnsV w AE ce xs) (he:entsErr D n (lE xs)=0) :
  Calls Tryz.prog 32 #[.agg #[.slice A0 n cap],.slice AE xs.length ce] w fun e w'=>(∃ g,e=.returned (.tuple #[.slice (some ⟨g,0,none⟩) (prodN D n) (prodN D n),.nilIface])∧w.heap.size≤g∧CelB w' g (wrV D n (lE xs)))∧Below w.heap.size w w':=by
 have hB0:=ownOut_below w A0 n cap 29
 have h:=icheck_any A0 cap n D A C AE ce xs (ownOut w A0 n cap 29) (hM.later hB0) (hE.later hB0)
 have HB0:Hid (Below w.heap.size w (ownOut w A0 n cap 29)):=hB0
 have HM:Hid (DimsV w A0 cap n D A C):=hM
 have HE:Hid (EnsV w AE ce xs):=hE
 clear hM hE hB0
 have hEs:=ens_of he
 have HEs:Hid (Ens D n (lE xs)):=hEs
 have hfew:xs.length≤3000:=by have:=hEs.few;rw [lE_len] at this;exact this
 have hR:=hEs.right
 have HR:Hid ((allErr D n).2.2=0):=hR
 obtain ⟨hn1,hn4,hp3,hd⟩:=allErr_some hR
 rw [he,errV_zero] at h
 have HBo:Hid (w.heap.size<(ownOut w A0 n cap 29).heap.size∧(ownOut w A0 n cap 29).cell? ⟨w.heap.size,0,none⟩=some (.slice A0 n cap)):=⟨by rw [ownOut_size];omega,ownOut_at ..⟩
 obtain ⟨N,hN⟩:∃ N,xs.length=N:=⟨_,rfl⟩
 have HN:Hid (xs.length=N):=hN
 rw [hN] at h hfew ⊢
 have hN':(N:Int)≤3000:=by omega
 obtain ⟨PN,hPN⟩:∃ PN,prodN D n=PN:=⟨_,rfl⟩
 have HPN:Hid (prodN D n=PN):=hPN
 rw [hPN] at hp3
 have hmk:=run_make_cells PN hp3
 have hPN':(PN:Int)≤3000:=by omega
 have HWE:Hid (((lE xs).take N).foldl (wrStep D n) (List.replicate PN (0,0))=wrV D n (lE xs)):=by show _=_;rw [List.take_of_length_le (by rw [lE_len,hN];exact Nat.le_refl _),←hPN];rfl
 clear he hEs hR hd hN hPN
 go_enter Tryz.func32,Tryz.ntmps32
 go_wp2_with fail
 refine h.mono ?_
 rintro e w1 ⟨rfl,hb1⟩
 have hB:Below w.heap.size w w1:=onB HB0.out hb1
 have HB:Hid (Below w.heap.size w w1):=hB
 have HBox:Hid (BoxN w1 w.heap.size (.slice A0 n cap)):=⟨Nat.lt_of_lt_of_le HBo.out.1 hb1.size,(hb1.cell (p:=⟨w.heap.size,0,none⟩) HBo.out.1).trans HBo.out.2⟩
 have c1:=HBox.out.2
 have hpc:=pcells_any A0 cap n D A C w1 (HM.out.later hB)
 have hcv:cellsV D n=(PN:Int):=by unfold cellsV;rw [if_pos HR.out,HPN.out]
 rw [HR.out,errV_zero,hcv] at hpc
 clear hb1 h hB hcv
 go_wp2_with fail
 refine hpc.mono ?_
 rintro e w2 ⟨rfl,hb2⟩
 have HB2:Hid (Below w.heap.size w w2):=onB HB.out hb2
 have HBox2:Hid (BoxN w2 w.heap.size (.slice A0 n cap)):=HBox.out.later hb2
 obtain ⟨v2,hv2⟩:∃ v,w2.alloc (.cells (madeCells #[.int .i64 0,.int .i64 0] (PN*2)) 32)=v:=⟨_,rfl⟩
 have hBv:Below w2.heap.size w2 v2:=by rw [←hv2];go_grown
 have HBv:Hid (Below w2.heap.size w2 v2):=hBv
 have HCv:Hid (CelB v2 w2.heap.size (List.replicate PN (0,0))):=by rw [←hv2];exact celB_made w2 PN
 have HBoxv:Hid (BoxN v2 w.heap.size (.slice A0 n cap)):=HBox2.out.later hBv
 have hwz:w.heap.size<w2.heap.size:=HBox2.out.1
 clear hpc hb2 c1 hBv
 go_wp2_with fail
 clear hmk hv2
 go_loopg [32] N (fun gg s32 wr => ∃ (k:Nat),k≤N∧gg=N-k∧s32=.int .i64 k∧Hid (CelB wr w2.heap.size (((lE xs).take k).foldl (wrStep D n) (List.replicate PN (0,0))))∧Hid (v2.grownBy wr (some w2.heap.size)))
 case atStart=>exact ⟨0,Nat.zero_le _,rfl,rfl,HCv,grown_refl v2 _⟩
 case round =>
  obtain ⟨k,hk,rfl,rfl,HC,HG⟩:=hrel
  have hB2r:Below w2.heap.size w2 wr:=HBv.out.grown HG.out HBv.out.size (fun j hj=>by cases hj;exact Nat.le_refl _)
  have HB2r:Hid (Below w2.heap.size w2 wr):=hB2r
  have HBr:Hid (Below w.heap.size w wr):=onB HB2.out hB2r
  by_cases hlt:k<N
  ·have hkx:k<xs.length:=by rw [HN.out];exact hlt
   have hki:(k:Int)<(N:Int):=by omega
   obtain ⟨-,-,h0 | ⟨bb,oo,rfl,hA⟩⟩:=HE.out.later HBr.out
   ·have:=HN.out;rw [h0] at this;simp at this;omega
   obtain ⟨c1,c2⟩:=hA.at hkx
   have hmem:(xs.getD k noL).e∈lE xs:=List.mem_map.2 ⟨_,enl_mem hkx,rfl⟩
   obtain ⟨hqI,-,hnum⟩:=HEs.out.each _ hmem
   have hnn : -1000000≤(xs.getD k noL).e.n∧(xs.getD k noL).e.n≤1000000:=by simpa [numOk] using hnum
   obtain ⟨hq1,hq2,-⟩:=numI_bound hqI (Nat.le_refl n)
   have hpl:=hA.pl hkx
   have HWr:=take_wr D n (List.replicate PN (0,0)) xs hkx
   unfold wrStep at HWr
   obtain ⟨X,hX⟩:∃ X:Nat,numI D (xs.getD k noL).e.pl n=X:=⟨(numI D (xs.getD k noL).e.pl n).toNat,by omega⟩
   have hnv:numV D n (xs.getD k noL).e.pl=(X:Int):=by unfold numV;rw [if_pos hqI.ok,hX]
   have hXN:X<PN:=by have:=HPN.out;omega
   have hNum:∀ w',Below wr.heap.size wr w'→_:=fun w' hw'=>pnumber_any A0 cap n D A C (xs.getD k noL).A (xs.getD k noL).c (xs.getD k noL).e.pl w' (HM.out.later (onB HBr.out hw')) (hpl.later hw')
   rw [hnv,hqI.ok,errV_zero] at hNum
   have HNum:Hid (∀ w',Below wr.heap.size wr w'→_):=hNum
   have hof:=fun w'=>of_any (xs.getD k noL).e.n w'
   rw [ofP_in (by omega) (by omega)] at hof
   rw [hX,show ((X:Int)).toNat=X by omega] at HWr
   have HWR:Hid _:=HWr
   obtain ⟨LL,hLL⟩:∃ LL,((lE xs).take k).foldl (wrStep D n) (List.replicate PN (0,0))=LL:=⟨_,rfl⟩
   have hLLn:LL.length=PN:=by rw [←hLL,wrs_len];simp
   have HCL:Hid (CelB wr w2.heap.size LL):=by rw [←hLL];exact HC.out
   have HNx:Hid (((lE xs).take (k+1)).foldl (wrStep D n) (List.replicate PN (0,0))=LL.set X (1,(xs.getD k noL).e.n)):=by
    show _=_
    rw [←hLL]
    exact HWR.out
   have HBxr:Hid (BoxN wr w.heap.size (.slice A0 n cap)):=boxn_other HBoxv.out (by omega) HG.out
   have hXL:X<LL.length:=by omega
   have HXL:Hid (X<LL.length):=hXL
   generalize (xs.getD k noL).A=A1 at c1 HNum
   generalize (xs.getD k noL).c=k1 at c1 HNum
   generalize (xs.getD k noL).e.n=num at c2 hnn hof HNx
   generalize (xs.getD k noL).e.pl.length=m1 at c1 HNum
   have hcr:=HBxr.out.2
   have hXi:(X:Int)<(PN:Int):=by omega
   obtain ⟨y,hy⟩:∃ y,wr.alloc (.cells #[.slice A1 m1 k1,.int .i64 num] 46)=y:=⟨_,rfl⟩
   have hBy:Below wr.heap.size wr y:=by rw [←hy];go_grown
   have HBy:Hid (Below wr.heap.size wr y):=hBy
   have HPy:Hid (y.heap[wr.heap.size]?=some (.cells #[.slice A1 m1 k1,.int .i64 num] 46 (0,0))):=by show _=_;rw [←hy];exact heap_alloc_new ..
   obtain ⟨p0,p1,-,-⟩:=pair_at HPy.out
   have hyo:=(HBxr.out.later hBy).2
   clear hB2r hA hmem hqI hnum hpl HWr hNum hnv hLL hLLn hX hq1 hq2 hBy hXL HWR
   go_wp2_with fail
   refine (HNum.out _ HBy.out).mono ?_
   rintro e w5 ⟨rfl,hb5⟩
   have HB5:Hid (Below y.heap.size y w5):=hb5
   have hwr:wr.heap.size<y.heap.size:=(Array.getElem?_eq_some_iff.1 HPy.out).1
   have hP5:w5.heap[wr.heap.size]?=some (.cells #[.slice A1 m1 k1,.int .i64 num] 46 (0,0)):=(hb5.block _ hwr).trans HPy.out
   obtain ⟨-,s1,-,-⟩:=pair_at hP5
   clear hb5 hP5 p0 p1 hyo
   go_wp2_with fail
   refine (hof _).mono ?_
   rintro e w6 ⟨rfl,hb6⟩
   have hB6:Below wr.heap.size wr w6:=onB (onB HBy.out HB5.out) hb6
   have HC6:Hid (CelB w6 w2.heap.size LL):=HCL.out.later hB6
   obtain ⟨g1,g2⟩:=HC6.out.at HXL.out
   have g3:=HC6.out.frozen (X*2)
   have g4:=HC6.out.frozen (X*2+1)
   have HC7:Hid (CelB ((w6.setCell ⟨w2.heap.size,X*2,none⟩ (.int .i64 1)).setCell ⟨w2.heap.size,X*2+1,none⟩ (.int .i64 num)) w2.heap.size (((lE xs).take (k+1)).foldl (wrStep D n) (List.replicate PN (0,0)))):=by show CelB _ _ _;rw [HNx.out];exact HC6.out.set HXL.out 1 num
   have HG7:Hid (v2.grownBy ((w6.setCell ⟨w2.heap.size,X*2,none⟩ (.int .i64 1)).setCell ⟨w2.heap.size,X*2+1,none⟩ (.int .i64 num)) (some w2.heap.size)):=cel_grown (grown_then HG.out hB6)
   clear hb6 hB6 hof s1
   go_wp2_with fail
   go_roundg (N-(k+1))
   case measure=>omega
   case rel=>exact ⟨k+1,by omega,rfl,by go_num,HC7,HG7⟩
  ·have hke:k=N:=by omega
   subst hke
   have HV:Hid (CelB wr w2.heap.size (wrV D n (lE xs))):=by rw [←HWE.out];exact HC.out
   clear hB2r
   go_wp2_with fail
   go_ret2
   exact ⟨⟨w2.heap.size,by rw [HPN.out];rfl,HB2.out.size,HV.out⟩,HBr.out⟩
end Go.Proofs.YtigkeokacagabagGreatDoor
