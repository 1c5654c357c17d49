/-
  What is written, by number, and all dims folded in an order: what Cells, eachOnce and All of package fold answer, called in whatever memory.
-/
import Derived.Test.YtigkeokacagabafGreatDoorJYBB
import Derived.Test.YtigkeokacagabafGreatDoorJYBE
namespace Go.Proofs.YtigkeokacagabafGreatDoor
open Go.ChangeShapes Go.WideShapes Go.ChangeAt Go.RowKit
set_option maxRecDepth 20000
def wrStep (D:Nat→Dm) (n:Nat) (L:List (Int×Int)) (e:En):List (Int×Int):=L.set (numI D e.pl n).toNat (1,e.n)
def wrV (D:Nat→Dm) (n:Nat) (l:List En):List (Int×Int):=l.foldl (wrStep D n) (List.replicate (prodN D n) (0,0))
theorem wrs_len (D:Nat→Dm) (n:Nat):∀ (l:List En) (L:List (Int×Int)),(l.foldl (wrStep D n) L).length=L.length
 | [],_=>rfl
 | e :: r,L=>by rw [List.foldl_cons,wrs_len D n r];unfold wrStep;rw [List.length_set]
theorem wrV_len (D:Nat→Dm) (n:Nat) (l:List En):(wrV D n l).length=prodN D n:=by unfold wrV;rw [wrs_len];simp
theorem take_wr (D:Nat→Dm) (n:Nat) (L:List (Int×Int)) (xs:List EnL) {k:Nat} (h:k<xs.length):((lE xs).take (k+1)).foldl (wrStep D n) L=wrStep D n (((lE xs).take k).foldl (wrStep D n) L) (xs.getD k noL).e:=by
 have hk:k<(lE xs).length:=by rw [lE_len];exact h
 rw [List.take_succ_eq_append_getElem hk,List.foldl_append]
 have e:(lE xs)[k]=(xs.getD k noL).e:=by rw [←lE_at,List.getD_eq_getElem?_getD,List.getElem?_eq_getElem hk];rfl
 rw [e]
 rfl
theorem goodC_num {x:Int} (h:numOk x=true):goodC (1,x):=by
 have hn : -1000000≤x∧x≤1000000:=by simpa [numOk] using h
 exact decide_eq_true (Or.inl ⟨rfl,by omega,by omega⟩)
theorem run_make_cells (n:Nat) (hn:n≤3000) (w:World):(Instr.makeSlice 49 (.int .i64 (n:Int)) (.int .i64 (n:Int))).run Tryz.prog w=.ok (.slice (some ⟨w.heap.size,0,none⟩) n n) (w.alloc (.cells (madeCells #[.int .i64 0,.int .i64 0] (n*2)) 48)):=by
 obtain ⟨i0,hi0,hz0,hz1,hz2⟩:=info_parts Tryz.infoCe
 have hr:=run_make (P:=Tryz.prog) w 49 48 i0 _ Tryz.underlying49 hi0 hz0 .i64 .i64 n n (by omega) (Int.le_refl _) (by rw [hz2];omega) (by omega)
 simp only [Int.toNat_natCast,hz1] at hr
 exact hr
theorem celB_made (w:World) (n:Nat):CelB (w.alloc (.cells (madeCells #[.int .i64 0,.int .i64 0] (n*2)) 48)) w.heap.size (List.replicate n (0,0)):=by
 refine ⟨_,heap_alloc_new w _,fun k hk=>?_⟩
 have hk':k<n:=by simpa using hk
 have e1:(List.replicate n ((0:Int),(0:Int))).getD k noC=(0,0):=by simp [List.getD,hk']
 rw [e1]
 constructor
 ·simp [madeCells,show k*2<n*2 by omega]
 ·simp [madeCells,show k*2+1<n*2 by omega,show (k*2+1) % 2=1 by omega]
def fcL (D:Nat→Dm) (n:Nat) (l:List En):List (Int×Int):=if entsErr D n l=0 then wrV D n l else []
theorem fc_ok {D:Nat→Dm} {n:Nat} {l:List En} (h:entsErr D n l=0):fcL D n l=wrV D n l:=by unfold fcL;rw [if_pos h]
theorem fc_bad {D:Nat→Dm} {n:Nat} {l:List En} (h:entsErr D n l≠0):fcL D n l=[]:=by unfold fcL;rw [if_neg h]
set_option maxHeartbeats 8000000 in
theorem fcells_any (A0:Option Addr) (cap n:Nat) (D:Nat→Dm) (A:Nat→Option Addr) (C:Nat→Nat) (AE:Option Addr) (ce:Nat) (xs:List EnL) (w:World) (hM:DimsV w A0 cap n D A C) (hE:EnsV w AE ce xs) :
  Calls Tryz.prog 39 #[.agg #[.slice A0 n cap],.slice AE xs.length ce] w fun e w'=>(∃ A' c',e=.returned (.tuple #[.slice A' (fcL D n (lE xs)).length c',errV (entsErr D n (lE xs))])∧CelV w' A' c' (fcL D n (lE xs)))∧Below w.heap.size w w':=by
 have hB0:=ownOut_below w A0 n cap 42
 have h:=icheck_any A0 cap n D A C AE ce xs (ownOut w A0 n cap 42) (hM.later hB0) (hE.later hB0)
 have HB0:Hid (Below w.heap.size w (ownOut w A0 n cap 42)):=hB0
 have HM:Hid (DimsV w A0 cap n D A C):=hM
 have HE:Hid (EnsV w AE ce xs):=hE
 clear hM hE hB0
 by_cases he:entsErr D n (lE xs)=0
 ·have hEs:=ens_of he
  have HEs:Hid (Ens D n (lE xs)):=hEs
  have hfew:xs.length≤3000:=by have:=hEs.few;rw [lE_len] at this;exact this
  have hR:=hEs.right
  have HR:Hid ((allErr D n).2.2=0):=hR
  obtain ⟨hn1,hn4,hp3,hd⟩:=allErr_some hR
  have HF:Hid (fcL D n (lE xs)=wrV D n (lE xs)∧errV (entsErr D n (lE xs))=.nilIface):=⟨fc_ok he,by rw [he];rfl⟩
  rw [he,errV_zero] at h
  have HBo:Hid (w.heap.size<(ownOut w A0 n cap 42).heap.size∧(ownOut w A0 n cap 42).cell? ⟨w.heap.size,0,none⟩=some (.slice A0 n cap)):=⟨by rw [ownOut_size];omega,ownOut_at ..⟩
  obtain ⟨N,hN⟩:∃ N,xs.length=N:=⟨_,rfl⟩
  have HN:Hid (xs.length=N):=hN
  rw [hN] at h hfew ⊢
  have hN':(N:Int)≤3000:=by omega
  obtain ⟨PN,hPN⟩:∃ PN,prodN D n=PN:=⟨_,rfl⟩
  have HPN:Hid (prodN D n=PN):=hPN
  rw [hPN] at hp3
  have hmk:=run_make_cells PN hp3
  have hPN':(PN:Int)≤3000:=by omega
  have HWE:Hid (((lE xs).take N).foldl (wrStep D n) (List.replicate PN (0,0))=wrV D n (lE xs)):=by show _=_;rw [List.take_of_length_le (by rw [lE_len,hN];exact Nat.le_refl _),←hPN];rfl
  clear he hEs hR hd hN hPN
  go_enter Tryz.func39,Tryz.ntmps39
  go_wp2_with fail
  refine h.mono ?_
  rintro e w1 ⟨rfl,hb1⟩
  have hB:Below w.heap.size w w1:=onB HB0.out hb1
  have HB:Hid (Below w.heap.size w w1):=hB
  have HBox:Hid (BoxN w1 w.heap.size (.slice A0 n cap)):=⟨Nat.lt_of_lt_of_le HBo.out.1 hb1.size,(hb1.cell (p:=⟨w.heap.size,0,none⟩) HBo.out.1).trans HBo.out.2⟩
  have c1:=HBox.out.2
  have hpc:=pcells_any A0 cap n D A C w1 (HM.out.later hB)
  have hcv:cellsV D n=(PN:Int):=by unfold cellsV;rw [if_pos HR.out,HPN.out]
  rw [HR.out,errV_zero,hcv] at hpc
  clear hb1 h hB hcv
  go_wp2_with fail
  refine hpc.mono ?_
  rintro e w2 ⟨rfl,hb2⟩
  have HB2:Hid (Below w.heap.size w w2):=onB HB.out hb2
  have HBox2:Hid (BoxN w2 w.heap.size (.slice A0 n cap)):=HBox.out.later hb2
  obtain ⟨v2,hv2⟩:∃ v,w2.alloc (.cells (madeCells #[.int .i64 0,.int .i64 0] (PN*2)) 48)=v:=⟨_,rfl⟩
  have hBv:Below w2.heap.size w2 v2:=by rw [←hv2];go_grown
  have HBv:Hid (Below w2.heap.size w2 v2):=hBv
  have HCv:Hid (CelB v2 w2.heap.size (List.replicate PN (0,0))):=by rw [←hv2];exact celB_made w2 PN
  have HBoxv:Hid (BoxN v2 w.heap.size (.slice A0 n cap)):=HBox2.out.later hBv
  have hwz:w.heap.size<w2.heap.size:=HBox2.out.1
  clear hpc hb2 c1 hBv
  go_wp2_with fail
  clear hmk hv2
  go_loopg [32] N (fun gg s32 wr => ∃ (k:Nat),k≤N∧gg=N-k∧s32=.int .i64 k∧Hid (CelB wr w2.heap.size (((lE xs).take k).foldl (wrStep D n) (List.replicate PN (0,0))))∧Hid (v2.grownBy wr (some w2.heap.size)))
  case atStart=>exact ⟨0,Nat.zero_le _,rfl,rfl,HCv,grown_refl v2 _⟩
  case round =>
   obtain ⟨k,hk,rfl,rfl,HC,HG⟩:=hrel
   have hB2r:Below w2.heap.size w2 wr:=HBv.out.grown HG.out HBv.out.size (fun j hj=>by cases hj;exact Nat.le_refl _)
   have HB2r:Hid (Below w2.heap.size w2 wr):=hB2r
   have HBr:Hid (Below w.heap.size w wr):=onB HB2.out hB2r
   by_cases hlt:k<N
   ·have hkx:k<xs.length:=by rw [HN.out];exact hlt
    have hki:(k:Int)<(N:Int):=by omega
    obtain ⟨-,-,h0 | ⟨bb,oo,rfl,hA⟩⟩:=HE.out.later HBr.out
    ·have:=HN.out;rw [h0] at this;simp at this;omega
    obtain ⟨c1,c2⟩:=hA.at hkx
    have hmem:(xs.getD k noL).e∈lE xs:=List.mem_map.2 ⟨_,enl_mem hkx,rfl⟩
    obtain ⟨hqI,-,hnum⟩:=HEs.out.each _ hmem
    have hnn : -1000000≤(xs.getD k noL).e.n∧(xs.getD k noL).e.n≤1000000:=by simpa [numOk] using hnum
    obtain ⟨hq1,hq2,-⟩:=numI_bound hqI (Nat.le_refl n)
    have hpl:=hA.pl hkx
    have HWr:=take_wr D n (List.replicate PN (0,0)) xs hkx
    unfold wrStep at HWr
    obtain ⟨X,hX⟩:∃ X:Nat,numI D (xs.getD k noL).e.pl n=X:=⟨(numI D (xs.getD k noL).e.pl n).toNat,by omega⟩
    have hnv:numV D n (xs.getD k noL).e.pl=(X:Int):=by unfold numV;rw [if_pos hqI.ok,hX]
    have hXN:X<PN:=by have:=HPN.out;omega
    have hNum:∀ w',Below wr.heap.size wr w'→_:=fun w' hw'=>pnumber_any A0 cap n D A C (xs.getD k noL).A (xs.getD k noL).c (xs.getD k noL).e.pl w' (HM.out.later (onB HBr.out hw')) (hpl.later hw')
    rw [hnv,hqI.ok,errV_zero] at hNum
    have HNum:Hid (∀ w',Below wr.heap.size wr w'→_):=hNum
    have hof:=fun w'=>of_any (xs.getD k noL).e.n w'
    rw [ofP_in (by omega) (by omega)] at hof
    rw [hX,show ((X:Int)).toNat=X by omega] at HWr
    have HWR:Hid _:=HWr
    obtain ⟨LL,hLL⟩:∃ LL,((lE xs).take k).foldl (wrStep D n) (List.replicate PN (0,0))=LL:=⟨_,rfl⟩
    have hLLn:LL.length=PN:=by rw [←hLL,wrs_len];simp
    have HCL:Hid (CelB wr w2.heap.size LL):=by rw [←hLL];exact HC.out
    have HNx:Hid (((lE xs).take (k+1)).foldl (wrStep D n) (List.replicate PN (0,0))=LL.set X (1,(xs.getD k noL).e.n)):=by
     show _=_
     rw [←hLL]
     exact HWR.out
    have HBxr:Hid (BoxN wr w.heap.size (.slice A0 n cap)):=boxn_other HBoxv.out (by omega) HG.out
    have hXL:X<LL.length:=by omega
    have HXL:Hid (X<LL.length):=hXL
    generalize (xs.getD k noL).A=A1 at c1 HNum
    generalize (xs.getD k noL).c=k1 at c1 HNum
    generalize (xs.getD k noL).e.n=num at c2 hnn hof HNx
    generalize (xs.getD k noL).e.pl.length=m1 at c1 HNum
    have hcr:=HBxr.out.2
    have hXi:(X:Int)<(PN:Int):=by omega
    obtain ⟨y,hy⟩:∃ y,wr.alloc (.cells #[.slice A1 m1 k1,.int .i64 num] 57)=y:=⟨_,rfl⟩
    have hBy:Below wr.heap.size wr y:=by rw [←hy];go_grown
    have HBy:Hid (Below wr.heap.size wr y):=hBy
    have HPy:Hid (y.heap[wr.heap.size]?=some (.cells #[.slice A1 m1 k1,.int .i64 num] 57 (0,0))):=by show _=_;rw [←hy];exact heap_alloc_new ..
    obtain ⟨p0,p1,-,-⟩:=pair_at HPy.out
    have hyo:=(HBxr.out.later hBy).2
    clear hB2r hA hmem hqI hnum hpl HWr hNum hnv hLL hLLn hX hq1 hq2 hBy hXL HWR
    go_wp2_with fail
    refine (HNum.out _ HBy.out).mono ?_
    rintro e w5 ⟨rfl,hb5⟩
    have HB5:Hid (Below y.heap.size y w5):=hb5
    have hwr:wr.heap.size<y.heap.size:=(Array.getElem?_eq_some_iff.1 HPy.out).1
    have hP5:w5.heap[wr.heap.size]?=some (.cells #[.slice A1 m1 k1,.int .i64 num] 57 (0,0)):=(hb5.block _ hwr).trans HPy.out
    obtain ⟨-,s1,-,-⟩:=pair_at hP5
    clear hb5 hP5 p0 p1 hyo
    go_wp2_with fail
    refine (hof _).mono ?_
    rintro e w6 ⟨rfl,hb6⟩
    have hB6:Below wr.heap.size wr w6:=onB (onB HBy.out HB5.out) hb6
    have HC6:Hid (CelB w6 w2.heap.size LL):=HCL.out.later hB6
    obtain ⟨g1,g2⟩:=HC6.out.at HXL.out
    have g3:=HC6.out.frozen (X*2)
    have g4:=HC6.out.frozen (X*2+1)
    have HC7:Hid (CelB ((w6.setCell ⟨w2.heap.size,X*2,none⟩ (.int .i64 1)).setCell ⟨w2.heap.size,X*2+1,none⟩ (.int .i64 num)) w2.heap.size (((lE xs).take (k+1)).foldl (wrStep D n) (List.replicate PN (0,0)))):=by show CelB _ _ _;rw [HNx.out];exact HC6.out.set HXL.out 1 num
    have HG7:Hid (v2.grownBy ((w6.setCell ⟨w2.heap.size,X*2,none⟩ (.int .i64 1)).setCell ⟨w2.heap.size,X*2+1,none⟩ (.int .i64 num)) (some w2.heap.size)):=cel_grown (grown_then HG.out hB6)
    clear hb6 hB6 hof s1
    go_wp2_with fail
    go_roundg (N-(k+1))
    case measure=>omega
    case rel=>exact ⟨k+1,by omega,rfl,by go_num,HC7,HG7⟩
   ·have hke:k=N:=by omega
    subst hke
    have HV:Hid (CelB wr w2.heap.size (wrV D n (lE xs))):=by rw [←HWE.out];exact HC.out
    have HVL:Hid ((wrV D n (lE xs)).length=PN):=by show _=_;rw [wrV_len];exact HPN.out
    clear hB2r
    go_wp2_with fail
    go_ret2
    rw [HF.out.1,HF.out.2,HVL.out]
    exact ⟨⟨_,PN,rfl,by rw [HVL.out];exact Nat.le_refl _,by omega,Or.inr ⟨_,0,rfl,HV.out.celAt⟩⟩,HBr.out⟩
 ·have HF:Hid (fcL D n (lE xs)=[]):=fc_bad he
  have HEr:Hid (errV (entsErr D n (lE xs))=.iface 77 (.int .i64 (entsErr D n (lE xs)))):=errV_some he
  rw [errV_some he] at h
  clear he
  generalize entsErr D n (lE xs)=ee at h HEr
  generalize xs.length=N at h
  go_enter Tryz.func39,Tryz.ntmps39
  go_wp2_with fail
  refine h.mono ?_
  rintro e w1 ⟨rfl,hb1⟩
  have HB:Hid (Below w.heap.size w w1):=onB HB0.out hb1
  clear hb1 h
  go_wp2_with fail
  go_ret2
  rw [HF.out,HEr.out]
  exact ⟨⟨none,0,rfl,CelV.nil _ _ _ (by decide)⟩,HB.out⟩
def cellsW (l:List WL):List Value:=l.flatMap cellsW1
theorem cellsW_snoc (l:List WL) (x:WL):cellsW (l ++ [x])=cellsW l ++ cellsW1 x:=by simp [cellsW]
theorem cellsW_at:∀ (l:List WL) (k:Nat),k<l.length→(cellsW l)[k*5]?=some (.bool (l.getD k noW).lf)∧(cellsW l)[k*5+1]?=some (.slice (l.getD k noW).An (l.getD k noW).nd.length (l.getD k noW).cn)∧(cellsW l)[k*5+2]?=some (.slice (l.getD k noW).As (l.getD k noW).nm.length (l.getD k noW).cs)∧(cellsW l)[k*5+3]?=some (.slice (l.getD k noW).Ai (l.getD k noW).ne.length (l.getD k noW).ci)∧(cellsW l)[k*5+4]?=some (.slice (l.getD k noW).Ag (l.getD k noW).sg.length (l.getD k noW).cg)
 | x :: r,0,_=>⟨rfl,rfl,rfl,rfl,rfl⟩
 | x :: r,k+1,h=>by
  have ih:=cellsW_at r k (by simpa using h)
  have e:cellsW (x :: r)=cellsW1 x ++ cellsW r:=rfl
  have hl:(cellsW1 x).length=5:=rfl
  rw [e]
  refine ⟨?_,?_,?_,?_,?_⟩
  ·rw [List.getElem?_append_right (by omega),hl,show (k+1)*5-5=k*5 by omega];exact ih.1
  ·rw [List.getElem?_append_right (by omega),hl,show (k+1)*5+1-5=k*5+1 by omega];exact ih.2.1
  ·rw [List.getElem?_append_right (by omega),hl,show (k+1)*5+2-5=k*5+2 by omega];exact ih.2.2.1
  ·rw [List.getElem?_append_right (by omega),hl,show (k+1)*5+3-5=k*5+3 by omega];exact ih.2.2.2.1
  ·rw [List.getElem?_append_right (by omega),hl,show (k+1)*5+4-5=k*5+4 by omega];exact ih.2.2.2.2
def WaysV (w:World) (A:Option Addr) (cap:Nat) (xs:List WL):Prop:=xs.length≤cap∧(xs=[]∨∃ b cs fr,A=some ⟨b,0,none⟩∧w.heap[b]?=some (.cells cs 137 fr)∧∀ k,k<xs.length→cs[k*5]?=some (.bool (xs.getD k noW).lf)∧cs[k*5+1]?=some (.slice (xs.getD k noW).An (xs.getD k noW).nd.length (xs.getD k noW).cn)∧cs[k*5+2]?=some (.slice (xs.getD k noW).As (xs.getD k noW).nm.length (xs.getD k noW).cs)∧cs[k*5+3]?=some (.slice (xs.getD k noW).Ai (xs.getD k noW).ne.length (xs.getD k noW).ci)∧cs[k*5+4]?=some (.slice (xs.getD k noW).Ag (xs.getD k noW).sg.length (xs.getD k noW).cg))∧∀ x∈xs,WayT w x
theorem WaysV.keepA {w w':World} {A:Option Addr} {cap:Nat} {xs:List WL} (h:WaysV w A cap xs) (hB:OffT 128 w w'):WaysV w' A cap xs:=by
 obtain ⟨h1,h2,h3⟩:=h
 refine ⟨h1,?_,fun x hx=>(h3 x hx).keepA hB⟩
 rcases h2 with h2 | ⟨b,cs,fr,h2,h4,h5⟩
 ·exact Or.inl h2
 ·exact Or.inr ⟨b,cs,fr,h2,(hB b cs _ fr h4 ax_ne_way).trans h4,h5⟩
theorem WaysV.later {w w':World} {A:Option Addr} {cap:Nat} {xs:List WL} (h:WaysV w A cap xs) (hB:Below w.heap.size w w'):WaysV w' A cap xs:=by
 obtain ⟨h1,h2,h3⟩:=h
 refine ⟨h1,?_,fun x hx=>(h3 x hx).later hB⟩
 rcases h2 with h2 | ⟨b,cs,fr,h2,h4,h5⟩
 ·exact Or.inl h2
 ·exact Or.inr ⟨b,cs,fr,h2,(hB.block b (Array.getElem?_eq_some_iff.1 h4).1).trans h4,h5⟩
theorem ways_own {w:World} {base:Nat} {v:Value} {xs:List WL} (h:w.ownsRow base 137 5 v xs.length (cellsW xs)) (hp:∀ x∈xs,WayT w x):∃ A c,v=.slice A xs.length c∧WaysV w A c xs:=by
 rcases h.2 with ⟨rfl,h0⟩ | ⟨g,cap,cur,rfl,hb,hg,h4,h5,h6,h7⟩
 ·have hL:xs=[]:=List.eq_nil_of_length_eq_zero h0
  subst hL
  exact ⟨none,0,rfl,by simp,Or.inl rfl,hp⟩
 ·refine ⟨_,_,rfl,h4,Or.inr ⟨g,cur,_,rfl,hg,fun k hk=>?_⟩,hp⟩
  obtain ⟨x0,x1,x2,x3,x4⟩:=cellsW_at xs k hk
  rw [←h7,List.getElem?_take,if_pos (by omega),Array.getElem?_toList] at x0 x1 x2 x3 x4
  exact ⟨x0,x1,x2,x3,x4⟩
theorem Tryz.infoWay:(Tryz.prog.info? 137).map (fun i=>(i.zero,i.size,i.bytes))=some (some (.agg #[.bool false,.slice none 0 0,.slice none 0 0,.slice none 0 0,.slice none 0 0]),5,104):=by kernel_rfl
theorem off_way {w w':World} {base n:Nat} {v:Value} {zs:List Value} (hown:w.ownsRow base 137 5 v n zs) (hG:w.grownBy w' v.ownBlock):OffT 137 w w':=fun b cs t fr hb ht=>by
 refine hG.block b (Array.getElem?_eq_some_iff.1 hb).1 fun e=>?_
 rcases hown.2 with ⟨rfl,-⟩ | ⟨g,cap,cur,rfl,-,hg,-⟩
 ·cases e
 ·simp only [Value.ownBlock,Option.some.injEq] at e
  rw [e,hg] at hb
  simp only [Option.some.injEq,Obj.cells.injEq] at hb
  exact ht hb.2.1.symm
theorem plain_addW (b j:Nat):(⟨b,0,none⟩:Addr).add j=⟨b,j,none⟩:=by unfold Addr.add;split <;> simp_all
set_option maxHeartbeats 4000000 in
theorem waysof_any (d:Dm) (A:Option Addr) (cap:Nat) (w:World) (hR:(rErr d).2=0) (hM:MemsV w A cap d.n d.mem) :
  Calls Tryz.prog 76 #[dimV d A cap] w fun e w'=>(∃ A' c' xs,e=.returned (.tuple #[.slice A' d.n c',.nilIface])∧xs.length=d.n∧WaysV w' A' c' xs∧∀ k,k<d.n→WayOf d k (xs.getD k noW))∧Below w.heap.size w w':=by
 obtain ⟨i0,hi0,hz0,hz1,hz2⟩:=info_parts Tryz.infoWay
 obtain ⟨hd,-,-,-⟩:=rErr_right hR
 obtain ⟨-,-,hd2,-⟩:=dimErr_right hd
 have hB0:=ownDim_below w d A cap 24
 have hS:=ownDim_size w d A cap 24
 have HDc:Hid (∀ w1,Below (ownDim w d A cap 24).heap.size (ownDim w d A cap 24) w1→w1.cell? ⟨w.heap.size,0,none⟩=some (.string d.name)∧w1.cell? ⟨w.heap.size,1,none⟩=some (.int .i64 d.solve)∧w1.cell? ⟨w.heap.size,2,none⟩=some (.slice A d.n cap)∧w.heap.size<w1.heap.size):=fun w1 h=>dim_cells h
 have HWy:Hid (∀ w' i,Below w.heap.size w w'→i<d.n→Calls Tryz.prog 117 #[dimV d A cap,.int .i64 i] w' fun e w''=>(∃ x,e=.returned (.tuple #[wayV x,.nilIface])∧WayT w'' x∧WayOf d i x)∧Below w'.heap.size w' w''):=fun w' i hb hi=>wayof_any d A cap i w' hR hi (hM.later hb)
 unfold dimV at HWy ⊢
 obtain ⟨W,hW⟩:∃ W,ownDim w d A cap 24=W:=⟨_,rfl⟩
 rw [hW] at hB0 hS HDc
 unfold ownDim at hW
 obtain ⟨o0,o1,o2,hq⟩:=HDc.out W (Below.refl _ _)
 have HB0:Hid (Below w.heap.size w W):=hB0
 obtain ⟨n,hn⟩:∃ n,d.n=n:=⟨_,rfl⟩
 have HN:Hid (d.n=n):=hn
 rw [hn] at o2 HWy hd2 hW HDc ⊢
 have hnI:(n:Int)≤12:=by omega
 clear hB0 hR hM hd hn hS
 go_enter Tryz.func76,Tryz.ntmps76
 go_wp2_with fail
 clear hW o0 o1 o2
 go_loopg [4,11] n (fun g s4 s11 wr => ∃ (k:Nat) (v:Value) (xs:List WL),k≤n∧g=n-k∧s11=.int .i64 k∧v=s4∧Hid (xs.length=k∧(∀ j,j<k→WayOf d j (xs.getD j noW))∧∀ x∈xs,WayT wr x)∧wr.ownsRow W.heap.size 137 5 v k (cellsW xs)∧Below W.heap.size W wr)
 case atStart=>exact ⟨0,_,[],Nat.zero_le _,rfl,rfl,rfl,(⟨rfl,fun j hj=>absurd hj (Nat.not_lt_zero _),fun x hx=>by cases hx⟩:_∧_∧_),World.ownsRow_nil _ _ _ _,Below.refl _ _⟩
 case round =>
  obtain ⟨k,v,xs,hk,rfl,rfl,rfl,HY,hO,hBw⟩:=hrel
  have HO:Hid (wr.ownsRow W.heap.size 137 5 v k (cellsW xs)):=hO
  have HBw:Hid (Below W.heap.size W wr):=hBw
  by_cases hlt:k<n
  ·have hki:(k:Int)<(n:Int):=by omega
   obtain ⟨p0,p1,p2,hq1⟩:=HDc.out wr hBw
   have hwy:=HWy.out wr k (onB HB0.out hBw) hlt
   clear hO hBw
   go_wp2_with fail
   refine hwy.mono ?_
   rintro e w1 ⟨⟨x,rfl,hT,hOf⟩,hb1⟩
   have HT1:Hid (WayT w1 x∧WayOf d k x):=⟨hT,hOf⟩
   have HB1:Hid (Below wr.heap.size wr w1):=hb1
   obtain ⟨y,hy⟩:∃ y,w1.alloc (.cells #[.bool x.lf,.slice x.An x.nd.length x.cn,.slice x.As x.nm.length x.cs,.slice x.Ai x.ne.length x.ci,.slice x.Ag x.sg.length x.cg] 137)=y:=⟨_,rfl⟩
   have hyb:y.heap[w1.heap.size]?=some (.cells #[.bool x.lf,.slice x.An x.nd.length x.cn,.slice x.As x.nm.length x.cs,.slice x.Ai x.ne.length x.ci,.slice x.Ag x.sg.length x.cg] 137 (0,0)):=by rw [←hy];exact heap_alloc_new ..
   have y0:y.cell? ⟨w1.heap.size,0,none⟩=some (.bool x.lf):=by simp [World.cell?,hyb]
   have y1:y.cell? ⟨w1.heap.size,1,none⟩=some (.slice x.An x.nd.length x.cn):=by simp [World.cell?,hyb]
   have y2:y.cell? ⟨w1.heap.size,2,none⟩=some (.slice x.As x.nm.length x.cs):=by simp [World.cell?,hyb]
   have y3:y.cell? ⟨w1.heap.size,3,none⟩=some (.slice x.Ai x.ne.length x.ci):=by simp [World.cell?,hyb]
   have y4:y.cell? ⟨w1.heap.size,4,none⟩=some (.slice x.Ag x.sg.length x.cg):=by simp [World.cell?,hyb]
   have hBy:Below w1.heap.size w1 y:=by rw [←hy];go_grown
   have HBy:Hid (Below wr.heap.size wr y):=onB hb1 hBy
   have HTy:Hid (WayT y x∧WayOf d k x):=⟨hT.later hBy,hOf⟩
   have HOy:Hid (y.ownsRow W.heap.size 137 5 v k (cellsW xs)):=own_later HO.out HBy.out
   have HBWy:Hid (Below W.heap.size W y):=onB HBw.out HBy.out
   have HYy:Hid (∀ z∈xs,WayT y z):=fun z hz=>(HY.out.2.2 z hz).later HBy.out
   have hszy:=HBWy.out.size
   unfold wayV
   clear hb1 hT hOf hwy hyb hBy p0 p1 p2
   go_wp2_with (at_builtin;refine wpList_append_own _ rfl _ _ 124 rfl W.heap.size 137 i0 (.agg #[.bool false,.slice none 0 0,.slice none 0 0,.slice none 0 0,.slice none 0 0]) 5 104 Tryz.underlying124 hi0 hz0 hz1 hz2 rfl (by decide) _ _ _ rfl (HOy.out.alloc _) ⟨y.heap.size,0,none⟩ 1 1 (cellsW1 x) rfl rfl ?qe2 ?qe3 ?qe4 ?qe5 ?qe6 ?_)
   case qe2 =>
    intro j u hj
    rw [plain_addW,Lib.cell_of_heap (heap_alloc_new y (.cells #[.bool x.lf,.slice x.An x.nd.length x.cn,.slice x.As x.nm.length x.cs,.slice x.Ai x.ne.length x.ci,.slice x.Ag x.sg.length x.cg] 137))]
    simpa [cellsW1] using hj
   case qe3=>intro u hu;simp [cellsW1] at hu;rcases hu with rfl | rfl | rfl | rfl | rfl <;> rfl
   case qe4=>simp only [maxLen];omega
   case qe5=>omega
   case qe6=>simp;omega
   intro v' w4 hown' hgrow hnil
   have HB4:Hid (Below W.heap.size W w4):=grown_own HBWy.out HOy.out hgrow
   have HO4:Hid (w4.ownsRow W.heap.size 137 5 v' (k+1) (cellsW (xs ++ [x]))):=by
    show World.ownsRow ..
    rw [cellsW_snoc]
    exact hown'
   have hoff:∀ z,WayT y z→WayT w4 z:=fun z hz=>(hz.later (by go_grown)).keepW (off_way (HOy.out.alloc _) hgrow)
   have HY4:Hid ((xs ++ [x]).length=k+1∧(∀ j,j<k+1→WayOf d j ((xs ++ [x]).getD j noW))∧∀ z∈xs ++ [x],WayT w4 z):=by
    have hlen:=HY.out.1
    refine ⟨by rw [List.length_append,hlen];rfl,fun j hj=>?_,fun z hz=>?_⟩
    ·by_cases e:j=k
     ·rw [e,List.getD_eq_getElem?_getD,List.getElem?_append_right (by omega),hlen,Nat.sub_self]
      exact HTy.out.2
     ·rw [List.getD_eq_getElem?_getD,List.getElem?_append_left (by omega),←List.getD_eq_getElem?_getD]
      exact HY.out.2.1 j (by omega)
    ·rcases List.mem_append.1 hz with hz | hz
     ·exact hoff z (HYy.out z hz)
     ·rw [List.mem_singleton.1 hz]
      exact hoff x HTy.out.1
   clear hown' hgrow hnil y0 y1 y2 y3 y4 hy hoff
   go_wp2_with fail
   go_roundg (n-(k+1))
   case measure=>omega
   case rel=>exact ⟨k+1,_,xs ++ [x],by omega,rfl,by go_num,rfl,HY4,HO4.out,HB4.out⟩
  ·have hke:k=n:=by omega
   subst hke
   have HF:Hid (∃ A' c',v=.slice A' k c'∧WaysV wr A' c' xs):=by
    have hlen:=HY.out.1
    have h:=hO
    rw [←hlen] at h
    obtain ⟨A',c',e,hv⟩:=ways_own h HY.out.2.2
    rw [hlen] at e
    exact ⟨A',c',e,hv⟩
   clear hO hBw
   go_wp2_with fail
   go_returns
   obtain ⟨A',c',e,hv⟩:=HF.out
   exact ⟨⟨A',c',xs,by rw [←e];rfl,HY.out.1,hv,HY.out.2.1⟩,onB HB0.out HBw.out⟩
end Go.Proofs.YtigkeokacagabafGreatDoor
