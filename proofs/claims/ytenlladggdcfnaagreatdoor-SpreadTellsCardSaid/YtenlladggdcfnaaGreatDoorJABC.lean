/-
  What is written, by number, and all dims folded in an order: what Cells, eachOnce and All of package fold answer, called in whatever memory.
-/
import Derived.Deep.RegionHeld
import Derived.Test.YtenlladggdcfnaaGreatDoorJAAX
import Derived.Test.YtenlladggdcfnaaGreatDoorJABA
import Derived.Test.YtenlladggdcfnaaGreatDoorJABB
namespace Go.Proofs.YtenlladggdcfnaaGreatDoor
open Go.ChangeShapes Go.WideShapes Go.ChangeAt Go.RowKit
set_option maxRecDepth 20000
def wrStep (D:Nat→Dm) (n:Nat) (L:List (Int×Int)) (e:En):List (Int×Int):=L.set (numI D e.pl n).toNat (1,e.n)
def wrV (D:Nat→Dm) (n:Nat) (l:List En):List (Int×Int):=l.foldl (wrStep D n) (List.replicate (prodN D n) (0,0))
theorem wrs_len (D:Nat→Dm) (n:Nat):∀ (l:List En) (L:List (Int×Int)),(l.foldl (wrStep D n) L).length=L.length
 | [],_=>rfl
 | e :: r,L=>by rw [List.foldl_cons,wrs_len D n r];unfold wrStep;rw [List.length_set]
theorem wrV_len (D:Nat→Dm) (n:Nat) (l:List En):(wrV D n l).length=prodN D n:=by unfold wrV;rw [wrs_len];simp
theorem take_wr (D:Nat→Dm) (n:Nat) (L:List (Int×Int)) (xs:List EnL) {k:Nat} (h:k<xs.length):((lE xs).take (k+1)).foldl (wrStep D n) L=wrStep D n (((lE xs).take k).foldl (wrStep D n) L) (xs.getD k noL).e:=by
 have hk:k<(lE xs).length:=by rw [lE_len];exact h
 rw [List.take_succ_eq_append_getElem hk,List.foldl_append]
 have e:(lE xs)[k]=(xs.getD k noL).e:=by rw [←lE_at,List.getD_eq_getElem?_getD,List.getElem?_eq_getElem hk];rfl
 rw [e]
 rfl
theorem run_make_cells (n:Nat) (hn:n≤3000) (w:World):(Instr.makeSlice 64 (.int .i64 (n:Int)) (.int .i64 (n:Int))).run Tryz.prog w=.ok (.slice (some ⟨w.heap.size,0,none⟩) n n) (w.alloc (.cells (madeCells #[.int .i64 0,.int .i64 0] (n*2)) 58)):=by
 obtain ⟨i0,hi0,hz0,hz1,hz2⟩:=info_parts Tryz.infoCe
 have hr:=run_make (P:=Tryz.prog) w 64 58 i0 _ Tryz.underlying64 hi0 hz0 .i64 .i64 n n (by omega) (Int.le_refl _) (by rw [hz2];omega) (by omega)
 simp only [Int.toNat_natCast,hz1] at hr
 exact hr
theorem celB_made (w:World) (n:Nat):CelB (w.alloc (.cells (madeCells #[.int .i64 0,.int .i64 0] (n*2)) 58)) w.heap.size (List.replicate n (0,0)):=by
 refine ⟨_,heap_alloc_new w _,fun k hk=>?_⟩
 have hk':k<n:=by simpa using hk
 have e1:(List.replicate n ((0:Int),(0:Int))).getD k noC=(0,0):=by simp [List.getD,hk']
 rw [e1]
 constructor
 ·simp [madeCells,show k*2<n*2 by omega]
 ·simp [madeCells,show k*2+1<n*2 by omega,show (k*2+1) % 2=1 by omega]
def fcL (D:Nat→Dm) (n:Nat) (l:List En):List (Int×Int):=if entsErr D n l=0 then wrV D n l else []
theorem fc_ok {D:Nat→Dm} {n:Nat} {l:List En} (h:entsErr D n l=0):fcL D n l=wrV D n l:=by unfold fcL;rw [if_pos h]
theorem fc_bad {D:Nat→Dm} {n:Nat} {l:List En} (h:entsErr D n l≠0):fcL D n l=[]:=by unfold fcL;rw [if_neg h]
set_option maxHeartbeats 8000000 in
theorem fcells_any (A0:Option Addr) (cap n:Nat) (D:Nat→Dm) (A:Nat→Option Addr) (C:Nat→Nat) (AE:Option Addr) (ce:Nat) (xs:List EnL) (w:World) (hM:DimsV w A0 cap n D A C) (hE:EnsV w AE ce xs) :
  Calls Tryz.prog 24 #[.agg #[.slice A0 n cap],.slice AE xs.length ce] w fun e w'=>(∃ A' c',e=.returned (.tuple #[.slice A' (fcL D n (lE xs)).length c',errV (entsErr D n (lE xs))])∧CelV w' A' c' (fcL D n (lE xs)))∧Below w.heap.size w w':=by
 have hB0:=ownOut_below w A0 n cap 25
 have h:=icheck_any A0 cap n D A C AE ce xs (ownOut w A0 n cap 25) (hM.later hB0) (hE.later hB0)
 have HB0:Hid (Below w.heap.size w (ownOut w A0 n cap 25)):=hB0
 have HM:Hid (DimsV w A0 cap n D A C):=hM
 have HE:Hid (EnsV w AE ce xs):=hE
 clear hM hE hB0
 by_cases he:entsErr D n (lE xs)=0
 ·have hEs:=ens_of he
  have HEs:Hid (Ens D n (lE xs)):=hEs
  have hfew:xs.length≤3000:=by have:=hEs.few;rw [lE_len] at this;exact this
  have hR:=hEs.right
  have HR:Hid ((allErr D n).2.2=0):=hR
  obtain ⟨hn1,hn4,hp3,hd⟩:=allErr_some hR
  have HF:Hid (fcL D n (lE xs)=wrV D n (lE xs)∧errV (entsErr D n (lE xs))=.nilIface):=⟨fc_ok he,by rw [he];rfl⟩
  rw [he,errV_zero] at h
  have HBo:Hid (w.heap.size<(ownOut w A0 n cap 25).heap.size∧(ownOut w A0 n cap 25).cell? ⟨w.heap.size,0,none⟩=some (.slice A0 n cap)):=⟨by rw [ownOut_size];omega,ownOut_at ..⟩
  obtain ⟨N,hN⟩:∃ N,xs.length=N:=⟨_,rfl⟩
  have HN:Hid (xs.length=N):=hN
  rw [hN] at h hfew ⊢
  have hN':(N:Int)≤3000:=by omega
  obtain ⟨PN,hPN⟩:∃ PN,prodN D n=PN:=⟨_,rfl⟩
  have HPN:Hid (prodN D n=PN):=hPN
  rw [hPN] at hp3
  have hmk:=run_make_cells PN hp3
  have hPN':(PN:Int)≤3000:=by omega
  have HWE:Hid (((lE xs).take N).foldl (wrStep D n) (List.replicate PN (0,0))=wrV D n (lE xs)):=by show _=_;rw [List.take_of_length_le (by rw [lE_len,hN];exact Nat.le_refl _),←hPN];rfl
  clear he hEs hR hd hN hPN
  go_enter Tryz.func24,Tryz.ntmps24
  go_wp2_with fail
  refine h.mono ?_
  rintro e w1 ⟨rfl,hb1⟩
  have hB:Below w.heap.size w w1:=onB HB0.out hb1
  have HB:Hid (Below w.heap.size w w1):=hB
  have HBox:Hid (BoxN w1 w.heap.size (.slice A0 n cap)):=⟨Nat.lt_of_lt_of_le HBo.out.1 hb1.size,(hb1.cell (p:=⟨w.heap.size,0,none⟩) HBo.out.1).trans HBo.out.2⟩
  have c1:=HBox.out.2
  have hpc:=pcells_any A0 cap n D A C w1 (HM.out.later hB)
  have hcv:cellsV D n=(PN:Int):=by unfold cellsV;rw [if_pos HR.out,HPN.out]
  rw [HR.out,errV_zero,hcv] at hpc
  clear hb1 h hB hcv
  go_wp2_with fail
  refine hpc.mono ?_
  rintro e w2 ⟨rfl,hb2⟩
  have HB2:Hid (Below w.heap.size w w2):=onB HB.out hb2
  have HBox2:Hid (BoxN w2 w.heap.size (.slice A0 n cap)):=HBox.out.later hb2
  obtain ⟨v2,hv2⟩:∃ v,w2.alloc (.cells (madeCells #[.int .i64 0,.int .i64 0] (PN*2)) 58)=v:=⟨_,rfl⟩
  have hBv:Below w2.heap.size w2 v2:=by rw [←hv2];go_grown
  have HBv:Hid (Below w2.heap.size w2 v2):=hBv
  have HCv:Hid (CelB v2 w2.heap.size (List.replicate PN (0,0))):=by rw [←hv2];exact celB_made w2 PN
  have HBoxv:Hid (BoxN v2 w.heap.size (.slice A0 n cap)):=HBox2.out.later hBv
  have hwz:w.heap.size<w2.heap.size:=HBox2.out.1
  clear hpc hb2 c1 hBv
  go_wp2_with fail
  clear hmk hv2
  go_loopg [32] N (fun gg s32 wr => ∃ (k:Nat),k≤N∧gg=N-k∧s32=.int .i64 k∧Hid (CelB wr w2.heap.size (((lE xs).take k).foldl (wrStep D n) (List.replicate PN (0,0))))∧Hid (v2.grownBy wr (some w2.heap.size)))
  case atStart=>exact ⟨0,Nat.zero_le _,rfl,rfl,HCv,grown_refl v2 _⟩
  case round =>
   obtain ⟨k,hk,rfl,rfl,HC,HG⟩:=hrel
   have hB2r:Below w2.heap.size w2 wr:=HBv.out.grown HG.out HBv.out.size (fun j hj=>by cases hj;exact Nat.le_refl _)
   have HB2r:Hid (Below w2.heap.size w2 wr):=hB2r
   have HBr:Hid (Below w.heap.size w wr):=onB HB2.out hB2r
   by_cases hlt:k<N
   ·have hkx:k<xs.length:=by rw [HN.out];exact hlt
    have hki:(k:Int)<(N:Int):=by omega
    obtain ⟨-,-,h0 | ⟨bb,oo,rfl,hA⟩⟩:=HE.out.later HBr.out
    ·have:=HN.out;rw [h0] at this;simp at this;omega
    obtain ⟨c1,c2⟩:=hA.at hkx
    have hmem:(xs.getD k noL).e∈lE xs:=List.mem_map.2 ⟨_,enl_mem hkx,rfl⟩
    obtain ⟨hqI,-,hnum⟩:=HEs.out.each _ hmem
    have hnn : -1000000≤(xs.getD k noL).e.n∧(xs.getD k noL).e.n≤1000000:=by simpa [numOk] using hnum
    obtain ⟨hq1,hq2,-⟩:=numI_bound hqI (Nat.le_refl n)
    have hpl:=hA.pl hkx
    have HWr:=take_wr D n (List.replicate PN (0,0)) xs hkx
    unfold wrStep at HWr
    obtain ⟨X,hX⟩:∃ X:Nat,numI D (xs.getD k noL).e.pl n=X:=⟨(numI D (xs.getD k noL).e.pl n).toNat,by omega⟩
    have hnv:numV D n (xs.getD k noL).e.pl=(X:Int):=by unfold numV;rw [if_pos hqI.ok,hX]
    have hXN:X<PN:=by have:=HPN.out;omega
    have hNum:∀ w',Below wr.heap.size wr w'→_:=fun w' hw'=>pnumber_any A0 cap n D A C (xs.getD k noL).A (xs.getD k noL).c (xs.getD k noL).e.pl w' (HM.out.later (onB HBr.out hw')) (hpl.later hw')
    rw [hnv,hqI.ok,errV_zero] at hNum
    have HNum:Hid (∀ w',Below wr.heap.size wr w'→_):=hNum
    have hof:=fun w'=>of_any (xs.getD k noL).e.n w'
    rw [ofP_in (by omega) (by omega)] at hof
    rw [hX,show ((X:Int)).toNat=X by omega] at HWr
    have HWR:Hid _:=HWr
    obtain ⟨LL,hLL⟩:∃ LL,((lE xs).take k).foldl (wrStep D n) (List.replicate PN (0,0))=LL:=⟨_,rfl⟩
    have hLLn:LL.length=PN:=by rw [←hLL,wrs_len];simp
    have HCL:Hid (CelB wr w2.heap.size LL):=by rw [←hLL];exact HC.out
    have HNx:Hid (((lE xs).take (k+1)).foldl (wrStep D n) (List.replicate PN (0,0))=LL.set X (1,(xs.getD k noL).e.n)):=by
     show _=_
     rw [←hLL]
     exact HWR.out
    have HBxr:Hid (BoxN wr w.heap.size (.slice A0 n cap)):=boxn_other HBoxv.out (by omega) HG.out
    have hXL:X<LL.length:=by omega
    have HXL:Hid (X<LL.length):=hXL
    generalize (xs.getD k noL).A=A1 at c1 HNum
    generalize (xs.getD k noL).c=k1 at c1 HNum
    generalize (xs.getD k noL).e.n=num at c2 hnn hof HNx
    generalize (xs.getD k noL).e.pl.length=m1 at c1 HNum
    have hcr:=HBxr.out.2
    have hXi:(X:Int)<(PN:Int):=by omega
    obtain ⟨y,hy⟩:∃ y,wr.alloc (.cells #[.slice A1 m1 k1,.int .i64 num] 87)=y:=⟨_,rfl⟩
    have hBy:Below wr.heap.size wr y:=by rw [←hy];go_grown
    have HBy:Hid (Below wr.heap.size wr y):=hBy
    have HPy:Hid (y.heap[wr.heap.size]?=some (.cells #[.slice A1 m1 k1,.int .i64 num] 87 (0,0))):=by show _=_;rw [←hy];exact heap_alloc_new ..
    obtain ⟨p0,p1,-,-⟩:=pair_at HPy.out
    have hyo:=(HBxr.out.later hBy).2
    clear hB2r hA hmem hqI hnum hpl HWr hNum hnv hLL hLLn hX hq1 hq2 hBy hXL HWR
    go_wp2_with fail
    refine (HNum.out _ HBy.out).mono ?_
    rintro e w5 ⟨rfl,hb5⟩
    have HB5:Hid (Below y.heap.size y w5):=hb5
    have hwr:wr.heap.size<y.heap.size:=(Array.getElem?_eq_some_iff.1 HPy.out).1
    have hP5:w5.heap[wr.heap.size]?=some (.cells #[.slice A1 m1 k1,.int .i64 num] 87 (0,0)):=(hb5.block _ hwr).trans HPy.out
    obtain ⟨-,s1,-,-⟩:=pair_at hP5
    clear hb5 hP5 p0 p1 hyo
    go_wp2_with fail
    refine (hof _).mono ?_
    rintro e w6 ⟨rfl,hb6⟩
    have hB6:Below wr.heap.size wr w6:=onB (onB HBy.out HB5.out) hb6
    have HC6:Hid (CelB w6 w2.heap.size LL):=HCL.out.later hB6
    obtain ⟨g1,g2⟩:=HC6.out.at HXL.out
    have g3:=HC6.out.frozen (X*2)
    have g4:=HC6.out.frozen (X*2+1)
    have HC7:Hid (CelB ((w6.setCell ⟨w2.heap.size,X*2,none⟩ (.int .i64 1)).setCell ⟨w2.heap.size,X*2+1,none⟩ (.int .i64 num)) w2.heap.size (((lE xs).take (k+1)).foldl (wrStep D n) (List.replicate PN (0,0)))):=by show CelB _ _ _;rw [HNx.out];exact HC6.out.set HXL.out 1 num
    have HG7:Hid (v2.grownBy ((w6.setCell ⟨w2.heap.size,X*2,none⟩ (.int .i64 1)).setCell ⟨w2.heap.size,X*2+1,none⟩ (.int .i64 num)) (some w2.heap.size)):=cel_grown (grown_then HG.out hB6)
    clear hb6 hB6 hof s1
    go_wp2_with fail
    go_roundg (N-(k+1))
    case measure=>omega
    case rel=>exact ⟨k+1,by omega,rfl,by go_num,HC7,HG7⟩
   ·have hke:k=N:=by omega
    subst hke
    have HV:Hid (CelB wr w2.heap.size (wrV D n (lE xs))):=by rw [←HWE.out];exact HC.out
    have HVL:Hid ((wrV D n (lE xs)).length=PN):=by show _=_;rw [wrV_len];exact HPN.out
    clear hB2r
    go_wp2_with fail
    go_ret2
    rw [HF.out.1,HF.out.2,HVL.out]
    exact ⟨⟨_,PN,rfl,by rw [HVL.out];exact Nat.le_refl _,by omega,Or.inr ⟨_,0,rfl,HV.out.celAt⟩⟩,HBr.out⟩
 ·have HF:Hid (fcL D n (lE xs)=[]):=fc_bad he
  have HEr:Hid (errV (entsErr D n (lE xs))=.iface 46 (.int .i64 (entsErr D n (lE xs)))):=errV_some he
  rw [errV_some he] at h
  clear he
  generalize entsErr D n (lE xs)=ee at h HEr
  generalize xs.length=N at h
  go_enter Tryz.func24,Tryz.ntmps24
  go_wp2_with fail
  refine h.mono ?_
  rintro e w1 ⟨rfl,hb1⟩
  have HB:Hid (Below w.heap.size w w1):=onB HB0.out hb1
  clear hb1 h
  go_wp2_with fail
  go_ret2
  rw [HF.out,HEr.out]
  exact ⟨⟨none,0,rfl,CelV.nil _ _ _ (by decide)⟩,HB.out⟩
def gErr (r c:Nat) (Z:List (List (Int×Int))):Int:=if Z.length=r then (if Z.any (fun L=>decide (L.length≠c))=true then 3 else if Z.any badC=true then 1 else 0) else 3
def risL (n:Nat):List Int:=(List.range n).map fun i:Nat=>(i:Int)
theorem risL_len (n:Nat):(risL n).length=n:=by simp [risL]
def risTo (n k:Nat):List Int:=(List.range n).map fun i:Nat=>if i<k then (i:Int) else 0
theorem risTo_len (n k:Nat):(risTo n k).length=n:=by simp [risTo]
theorem risTo_zero (n:Nat):risTo n 0=List.replicate n 0:=by
 refine List.ext_getElem (by simp [risTo]) fun _ _ _=>?_
 simp [risTo]
theorem risTo_all (n:Nat):risTo n n=risL n:=List.map_congr_left fun _ hi=>if_pos (List.mem_range.1 hi)
theorem risTo_set (n k:Nat):(risTo n k).set k (k:Int)=risTo n (k+1):=by
 refine List.ext_getElem (by simp [risTo]) fun i h1 h2=>?_
 rw [List.getElem_set]
 by_cases e:k=i
 ·subst e
  simp [risTo]
 ·rw [if_neg e]
  simp only [risTo,List.getElem_map,List.getElem_range]
  by_cases h3:i<k
  ·rw [if_pos h3,if_pos (by omega)]
  ·rw [if_neg h3,if_neg (by omega)]
def PB (w:World) (g:Nat) (L:List Int):Prop := ∃ cur:Array Value,w.heap[g]?=some (.cells cur 3 (0,0))∧∀ j,j<L.length→cur[j]?=some (.int .i64 (L.getD j 0))
section
variable {w w':World} {g:Nat} {L:List Int}
theorem PB.lt (h:PB w g L):g<w.heap.size:=by
 obtain ⟨cur,h1,_⟩:=h
 exact (Array.getElem?_eq_some_iff.1 h1).1
theorem PB.same (h:PB w g L) (hb:w'.heap[g]?=w.heap[g]?):PB w' g L:=by
 obtain ⟨cur,h1,h2⟩:=h
 exact ⟨cur,hb.trans h1,h2⟩
theorem PB.cell (h:PB w g L) {j:Nat} (hj:j<L.length):w.cell? ⟨g,j,none⟩=some (.int .i64 (L.getD j 0)):=by
 obtain ⟨cur,h1,h2⟩:=h
 rw [Lib.cell_of_heap h1]
 exact h2 j hj
theorem PB.frozen (h:PB w g L) (j:Nat):w.frozen? ⟨g,j,none⟩=false:=by
 obtain ⟨cur,h1,_⟩:=h
 exact Lib.frozen_of_heap h1 j
theorem PB.set (h:PB w g L) {x:Nat} (v:Int):PB (w.setCell ⟨g,x,none⟩ (.int .i64 v)) g (L.set x v):=by
 obtain ⟨cur,h1,h2⟩:=h
 refine ⟨cur.setIfInBounds x (.int .i64 v),by simp [World.setCell,Array.getElem?_modify,h1],fun k hk=>?_⟩
 rw [List.length_set] at hk
 have h3:=h2 k hk
 have z:=(Array.getElem?_eq_some_iff.1 h3).1
 by_cases e:k=x
 ·subst e
  rw [Array.getElem?_setIfInBounds_self_of_lt z]
  simp [List.getD,hk]
 ·rw [Array.getElem?_setIfInBounds_ne (by omega),h3]
  simp [List.getD,List.getElem?_set_ne (fun h=>e h.symm)]
theorem PB.pl (h:PB w g L) {c:Nat} (hc:L.length≤c):PlAt w (some ⟨g,0,none⟩) c L:=⟨hc,Or.inr ⟨g,0,rfl,h.lt,fun j hj=>by rw [Nat.zero_add];exact h.cell hj⟩⟩
end
end Go.Proofs.YtenlladggdcfnaaGreatDoor
namespace Go.Proofs.YtenlladggdcfnaaGreatDoor
open Go Go.ChangeShapes Go.WideShapes Go.ChangeAt Go.RowKit Go.Shelf Go.Lib Go.Sort
set_option maxRecDepth 100000
structure OffG (g:Nat) (w w':World):Prop where
 os:w'.os=w.os
 tape:w'.tape=w.tape
 output:w'.output=w.output
 size:w.heap.size≤w'.heap.size
 block:∀ k,k<w.heap.size→k≠g→w'.heap[k]?=w.heap[k]?
theorem OffG.below {g B:Nat} {w0 w w':World} (h:OffG g w w') (hB:Below B w0 w) (hg:B≤g) (hs:B≤w.heap.size):Below B w0 w' :=
 ⟨h.os.trans hB.os,h.tape.trans hB.tape,h.output.trans hB.output,Nat.le_trans hB.size h.size,fun k hk=>(h.block k (by omega) (by omega)).trans (hB.block k hk)⟩
theorem heap_sortWorld {α:Type} [Inhabited α] (enc:α→Value) (w:World) (g n:Nat) (d:Array α) (os:Array Obj) {k:Nat} (hk:k<w.heap.size):(sortWorld enc w g 0 n d os).heap[k]?=if g=k then (w.heap[k]?).map (onCells (putCells enc 0 d)) else w.heap[k]?:=by
 show ((w.heap.modify g (onCells (putCells enc 0 d))) ++ os)[k]?=_
 rw [Array.getElem?_append_left (by simpa using hk),Array.getElem?_modify]
theorem offG_sort {α:Type} [Inhabited α] (enc:α→Value) (w:World) (g n:Nat) (d:Array α) (os:Array Obj):OffG g w (sortWorld enc w g 0 n d os) :=
 ⟨rfl,rfl,rfl,by show _≤((w.heap.modify g _) ++ os).size;simp,fun k hk hn=>by rw [heap_sortWorld enc w g n d os hk,if_neg (fun h=>hn h.symm)]⟩
theorem pb_sort {α:Type} [Inhabited α] (ix:α→Nat) {w:World} {g n:Nat} {d0 d:Array α} {os:Array Obj} {L:List Int} (h:IntB w g L) (hH:Holds (encI ix) w g 0 d0) (hs:d.size=d0.size):PB (sortWorld (encI ix) w g 0 n d os) g (d.toList.map fun x=>((ix x:Nat):Int)):=by
 have hh:=holds_sortWorld (encI ix) w g 0 n d0 d os h.lt hH hs
 have hb:=heap_sortWorld (encI ix) w g n d os h.lt
 rw [if_pos rfl,h] at hb
 refine ⟨_,hb,fun j hj=>?_⟩
 have hj':j<d.size:=by simpa using hj
 have:=(hh j hj').1
 rw [Lib.cell_of_heap hb,Nat.zero_add] at this
 rw [this]
 unfold encI
 rw [List.getD_eq_getElem?_getD,List.getElem?_map,getElem!_pos d j hj']
 simp [hj']
set_option maxHeartbeats 4000000 in
theorem sortst_any {α:Type} [Inhabited α] {cf:α→α→Int} {tot:α→α→Bool} {ix:α→Nat} {g:Nat} {cb:Array Value} {blk off:Nat} {d0:Array α} {w0:World} (M:MgC cf tot ix g cb blk off d0 w0)
  (cap n:Nat) (hn:d0.size=n) (h0:∀ i,i<n→ix d0[i]! = i) :
  Calls Tryz.prog 33 #[.slice (some ⟨blk,off,none⟩) n cap,.func (.func g) #[] cb] w0 fun e w'=>e=.returned (.tuple #[])∧∃ d',SortedIn tot 0 n d'∧PermIn 0 n d0 d'∧SW (encI ix) w0 blk off d' w':=by
 have hc:=stable_any M cap n d0 w0 hn rfl (SW.start M.R.hH) h0
 clear M
 go_enter Tryz.func33,Tryz.ntmps33
 go_wp2_with fail
 refine hc.mono ?_
 rintro e w' ⟨rfl,h⟩
 go_wp2_with fail
 go_end0
 exact ⟨rfl,h⟩
def cfW (n:Int) (W:List Int) (k:Nat) (x y:Fin (k+1)):Int:=cmpI (lkR n W y.val) (lkR n W x.val)
def totW (n:Int) (W:List Int) (k:Nat) (x y:Fin (k+1)):Bool:=prec n W x.val y.val
theorem tieW (n:Int) (W:List Int) (k:Nat):Tie (ltOf (cfW n W k)) (totW n W k) Fin.val where
 S:=by
  refine ⟨fun x=>?_,fun x y z h1 h2=>?_,fun x y z h1 h2=>?_⟩
  ·unfold totW prec;simp
  ·unfold totW prec at *;simp only [decide_eq_true_eq] at *;omega
  ·unfold totW prec at *;simp only [decide_eq_false_iff_not] at *;omega
 on:=fun x y h=>by
  unfold ltOf cfW totW prec cmpI
  by_cases h1:lkR n W y.val<lkR n W x.val
  ·rw [if_pos h1];simp [h1]
  ·rw [if_neg h1]
   by_cases h2:lkR n W x.val<lkR n W y.val
   ·rw [if_pos h2];simp;omega
   ·rw [if_neg h2];simp;omega
def ids (k:Nat):Array (Fin (k+1)):=Array.ofFn fun i=>i
theorem ids_size (k:Nat):(ids k).size=k+1:=by simp [ids]
theorem ids_at (k i:Nat) (h:i<k+1):((ids k)[i]!).val=i:=by rw [getElem!_pos (ids k) i (by rw [ids_size];exact h)];simp [ids]
theorem ids_list (k:Nat):(ids k).toList.map Fin.val=List.range (k+1):=by
 refine List.ext_getElem (by simp [ids]) fun i h1 h2=>?_
 have hi:i<k+1:=by simpa using h2
 rw [List.getElem_map,List.getElem_range]
 have:=ids_at k i hi
 rw [getElem!_pos (ids k) i (by rw [ids_size];exact hi)] at this
 simpa using this
theorem sortw_any (g c q1 q2 q3 q4:Nat) (n:Int) (A:Option Addr) (cA:Nat) (W:List Int) (w:World) (hW0:0<W.length) (hWk:W.length≤60) (hO:IntB w g (risL W.length))
  (HR:∀ w',OffG g w w'→RestA w' q1 q2 q3 n A cA W∧w'.cell? ⟨q4,0,none⟩=some (.func (.func 32) #[] #[.pointer (some ⟨q1,0,none⟩),.pointer (some ⟨q2,0,none⟩),.pointer (some ⟨q3,0,none⟩)]))
  (hs:0<W.sum) (hn:0≤n∧n≤1000000) (hW:∀ x∈W,0≤x∧x≤1000000) :
  Calls Tryz.prog 33 #[.slice (some ⟨g,0,none⟩) W.length c,.func (.func 34) #[] #[.pointer (some ⟨q4,0,none⟩)]] w fun e w'=>e=.returned (.tuple #[]) ∧
   (∃ O:List Nat,O.Perm (List.range W.length)∧(∀ a b,a<b→b<W.length→prec n W (O.getD a 0) (O.getD b 0)=true)∧PB w' g (O.map fun x:Nat=>(x:Int)))∧OffG g w w':=by
 obtain ⟨k,hk⟩:∃ k,W.length=k+1:=⟨W.length-1,by omega⟩
 have hH:Holds (encI (Fin.val:Fin (k+1)→Nat)) w g 0 (ids k):=fun j hj=>by
  rw [ids_size] at hj
  refine ⟨?_,hO.frozen _⟩
  rw [Nat.zero_add,hO.cell (j:=j) (by rw [risL_len];omega)]
  unfold encI
  rw [ids_at k j hj]
  congr 2
  unfold risL
  rw [List.getD_eq_getElem?_getD,List.getElem?_map,List.getElem?_range (by omega)];rfl
 have hread:CmpReads Tryz.prog 34 #[.pointer (some ⟨q4,0,none⟩)] (encI Fin.val) (cfW n W k) g 0 (ids k).size w:=fun m os dk _ x y=>by
  obtain ⟨h1,h2⟩:=HR _ (offG_sort (encI Fin.val) w g m dk os)
  exact less_any q1 q2 q3 q4 n A cA W x.val y.val _ h1 h2 (by have:=x.isLt;omega) (by have:=y.isLt;omega) hs hn hW
 have M:MgC (cfW n W k) (totW n W k) Fin.val 34 #[.pointer (some ⟨q4,0,none⟩)] g 0 (ids k) w :=
  ⟨fun args w=>by simp [callFunc,Tryz.func34];rfl,hread.lays,⟨fun _=>rfl,hH,hO.lt⟩,tieW n W k,by rw [ids_size];omega⟩
 rw [hk]
 refine (sortst_any M c (k+1) (ids_size k) (ids_at k)).mono ?_
 rintro e w' ⟨rfl,d,hS,hP,m,os,rfl⟩
 obtain ⟨o1,o2⟩:=order_of (n:=n) (W:=W) hk (tot:=totW n W k) (fun _ _=>rfl) (ids_list k) hS hP
 refine ⟨rfl,⟨_,by have:=o1;rw [hk] at this;exact this,fun a b h1 h2=>o2 a b h1 (by omega),?_⟩,offG_sort _ w g m d os⟩
 have:=pb_sort Fin.val (n:=m) (os:=os) hO hH hP.1
 rwa [List.map_map]
end Go.Proofs.YtenlladggdcfnaaGreatDoor
namespace Go.Proofs.YtenlladggdcfnaaGreatDoor
open Go.ChangeShapes Go.WideShapes Go.ChangeAt Go.RowKit
set_option maxRecDepth 20000
theorem rcheck_any (d:Dm) (A:Option Addr) (cap:Nat) (w:World) (hM:MemsV w A cap d.n d.mem):Calls Tryz.prog 44 #[dimV d A cap] w fun e w'=>e=.returned (.tuple #[.int .i64 (rErr d).1,errV (rErr d).2])∧Below w.heap.size w w':=by
 have hB0:=ownDim_below w d A cap 81
 have hn:=rneeds_any d A cap (ownDim w d A cap 81) (hM.later hB0)
 obtain ⟨d0,d1,d2,hqW⟩:=dim_cells (w:=w) (d:=d) (A:=A) (cap:=cap) (Below.refl _ _)
 have HB0:Hid (Below w.heap.size w (ownDim w d A cap 81)):=hB0
 unfold dimV at hn ⊢
 obtain ⟨W,hW⟩:∃ W,ownDim w d A cap 81=W:=⟨_,rfl⟩
 rw [hW] at d0 d1 d2 hqW HB0 hn
 unfold ownDim at hW
 generalize errV (rErr d).2=ev at hn ⊢
 generalize (rErr d).1=x at hn ⊢
 clear hM hB0
 go_enter Tryz.func44,Tryz.ntmps44
 go_wp2_with fail
 refine hn.mono ?_
 rintro e w1 ⟨⟨A1,c1,xs,rfl,-⟩,hb1⟩
 go_wp2_with fail
 go_ret2
 exact ⟨rfl,onB HB0.out hb1⟩
set_option maxHeartbeats 1000000 in
theorem osize_any (b o n cap:Nat) (D:Nat→Dm) (A:Nat→Option Addr) (C:Nat→Nat) (w:World) (hn:n≤4) (hd:∀ j,j<n→(D j).n≤12) (hM:DimsAt w b o n D A C):Calls Tryz.prog 38 #[.agg #[.slice (some ⟨b,o,none⟩) n cap]] w fun e w'=>e=.returned (.int .i64 (prodN D n))∧Below w.heap.size w w':=by
 have HB:Hid (DimsAt w b o n D A C):=hM
 have HD:Hid (∀ j,j<n→(D j).n≤12):=hd
 clear hM hd
 have hS:=ownOut_size w (some ⟨b,o,none⟩) n cap 25
 have hB0:=ownOut_below w (some ⟨b,o,none⟩) n cap 25
 have hA2:=ownOut_at w (some ⟨b,o,none⟩) n cap 25
 obtain ⟨W,hW⟩:∃ W,W=ownOut w (some ⟨b,o,none⟩) n cap 25:=⟨_,rfl⟩
 rw [←hW] at hB0 hS hA2
 have HW:Hid (W=ownOut w (some ⟨b,o,none⟩) n cap 25):=hW
 have HA:Hid (W.cell? ⟨w.heap.size,0,none⟩=some (.slice (some ⟨b,o,none⟩) n cap)):=hA2
 have HB0:Hid (Below w.heap.size w W):=hB0
 have hs8:(n:Int)≤4:=by omega
 clear hW hA2 hB0 hS
 go_enter Tryz.func38,Tryz.ntmps38
 go_wp2_with fail
 go_loopg [3,4] n (fun g s3 s4 wr => ∃ (k:Nat),k≤n∧g=n-k∧s4=.int .i64 k∧s3=.int .i64 (prodN D k)∧wr=W)
 case atStart=>exact ⟨0,Nat.zero_le _,rfl,rfl,rfl,by rw [HW.out];rfl⟩
 case round =>
  obtain ⟨k,hk,rfl,rfl,rfl,rfl⟩:=hrel
  have c0:=HA.out
  by_cases hlt:k<n
  ·obtain ⟨h0,h1,h2,-⟩:=(HB.out.later HB0.out).2 k hlt
   have hki:(k:Int)<(n:Int):=by omega
   have hp1:prodN D (k+1)≤20736:=prod_small (fun j hj=>HD.out j (by omega)) (by omega)
   have hp2:(prodN D (k+1):Int)=(prodN D k:Int)*((D k).n:Int):=by rw [prodN];exact Int.natCast_mul _ _
   have hp3:0≤(prodN D k:Int)*((D k).n:Int):=by omega
   have hp4:(prodN D k:Int)*((D k).n:Int)≤20736:=by omega
   have HP:Hid ((prodN D (k+1):Int)=(prodN D k:Int)*((D k).n:Int)):=hp2
   clear hp1 hp2
   go_wp2_with fail
   go_roundg (n-(k+1))
   case measure=>omega
   case rel=>exact ⟨k+1,by omega,rfl,by go_num,by rw [HP.out],rfl⟩
  ·have hke:k=n:=by omega
   subst hke
   go_wp2_with fail
   go_ret
   exact ⟨rfl,HB0.out⟩
theorem clashD_hit {D:Nat→Dm} {k j:Nat} (hj:j<k) (h:same (D j).name (D k).name=true):clashD D k=true:=by
 unfold clashD
 exact decide_eq_true (findFrom_nonneg (q:=fun j=>same (D j).name (D k).name) hj h)
theorem clashD_none {D:Nat→Dm} {k:Nat} (h:findFrom (fun j=>same (D j).name (D k).name) k 0 = -1):clashD D k=false:=by
 unfold clashD
 rw [h]
 rfl
set_option maxHeartbeats 8000000 in
theorem routline_any (A0:Option Addr) (cap n:Nat) (D:Nat→Dm) (A:Nat→Option Addr) (C:Nat→Nat) (w:World) (hM:DimsV w A0 cap n D A C):Calls Tryz.prog 86 #[.agg #[.slice A0 n cap]] w fun e w'=>e=.returned (.tuple #[.int .i64 (allErr D n).1,.int .i64 (allErr D n).2.1,.int .i64 (allErr D n).2.2])∧Below w.heap.size w w':=by
 by_cases hn4:4<n
 ·have hn':4<(n:Int):=by omega
  have HR:Hid (allErr D n=(-1,-1,4)):=al0 hn4
  clear hn4 hM
  go_enter Tryz.func86,Tryz.ntmps86
  go_wp2_with fail
  refine bodyPost_ret (v:=.tuple #[.int .i64 (-1),.int .i64 (-1),.int .i64 4]) (by simp [results,Tryz.results86,go_sem]) rfl ⟨by rw [HR.out],?_⟩
  go_grown
 have hn':(n:Int)≤4:=by omega
 by_cases hn0:n=0
 ·have HR:Hid (allErr D n=(-1,-1,5)):=al1 hn0
  have hz:((n:Int) == 0)=true:=by simp [hn0]
  clear hn0 hM hn4
  go_enter Tryz.func86,Tryz.ntmps86
  go_wp2_with fail
  refine bodyPost_ret (v:=.tuple #[.int .i64 (-1),.int .i64 (-1),.int .i64 5]) (by simp [results,Tryz.results86,go_sem]) rfl ⟨by rw [HR.out],?_⟩
  go_grown
 have hz:((n:Int) == 0)=false:=by simp;omega
 obtain ⟨hcap,h0 | ⟨b,o,rfl,hMs⟩⟩:=hM
 ·omega
 have hcap':(n:Int)≤(cap:Int):=by omega
 have hB0:=ownOut_below w (some ⟨b,o,none⟩) n cap 25
 have hS:=ownOut_size w (some ⟨b,o,none⟩) n cap 25
 have hA:=ownOut_at w (some ⟨b,o,none⟩) n cap 25
 obtain ⟨W,hW⟩:∃ W,W=ownOut w (some ⟨b,o,none⟩) n cap 25:=⟨_,rfl⟩
 rw [←hW] at hB0 hS hA
 have HMs:Hid (DimsAt W b o n D A C):=hMs.later hB0
 have hsz:w.heap.size<W.heap.size:=by omega
 clear hMs
 have HW:Hid (W=ownOut w (some ⟨b,o,none⟩) n cap 25):=hW
 have HA:Hid (W.cell? ⟨w.heap.size,0,none⟩=some (.slice (some ⟨b,o,none⟩) n cap)):=hA
 have HB0:Hid (Below w.heap.size w W):=hB0
 clear hW hA hB0 hS
 go_enter Tryz.func86,Tryz.ntmps86
 go_wp2_with fail
 go_loopg [5] n (fun g s5 wr => ∃ (k:Nat),k≤n∧g=n-k∧s5=.int .i64 k∧scanD D (n-k) k=scanD D n 0∧Below W.heap.size W wr)
 case atStart=>exact ⟨0,Nat.zero_le _,rfl,rfl,rfl,by rw [HW.out];exact Below.refl _ _⟩
 case round =>
  obtain ⟨k,hk,rfl,rfl,hsc,hBw⟩:=hrel
  obtain ⟨wo,rfl⟩:∃ wo:World,wo=wr:=⟨_,rfl⟩
  have HBr:Hid (Below W.heap.size W wo):=hBw
  have HF:Hid (scanD D (n-k) k=scanD D n 0):=hsc
  have c0:wo.cell? ⟨w.heap.size,0,none⟩=some (.slice (some ⟨b,o,none⟩) n cap):=(hBw.cell (p:=⟨w.heap.size,0,none⟩) hsz).trans HA.out
  have hMr:=HMs.out.later hBw
  have hszr:w.heap.size<wo.heap.size:=Nat.lt_of_lt_of_le hsz hBw.size
  clear hsc hBw
  by_cases hlt:k<n
  ·obtain ⟨h0,h1,h2,h3⟩:=hMr.2 k hlt
   have hki:(k:Int)<(n:Int):=by omega
   have hsk:n-k=(n-(k+1))+1:=by omega
   have hck:=rdim_any (D k) (A k) (C k) wo h3
   unfold dimV at hck
   have HMr:Hid (DimsAt wo b o n D A C):=hMr
   clear h3 hMr
   by_cases he:(dimErr (D k)).2=0
   ·obtain ⟨e1,hd1,hd2,-⟩:=dimErr_right he
    rw [he,e1] at hck
    have HE:Hid ((dimErr (D k)).2=0):=he
    clear he e1
    go_wp2_with fail
    refine hck.mono ?_
    rintro e w1 ⟨rfl,hb1⟩
    have hz1:w.heap.size<w1.heap.size:=Nat.lt_of_lt_of_le hszr hb1.size
    have c1:w1.cell? ⟨w.heap.size,0,none⟩=some (.slice (some ⟨b,o,none⟩) n cap):=(hb1.cell (p:=⟨w.heap.size,0,none⟩) hszr).trans c0
    have HM1:Hid (DimsAt w1 b o n D A C):=HMr.out.later hb1
    have HB1:Hid (Below W.heap.size W w1):=onB HBr.out hb1
    clear hb1 hck c0 h0 h1 h2 HMr hd1 hd2
    go_wp2_with fail
    go_loopg [7,8] k (fun g s7 s8 wr => ∃ (j:Nat),j≤k∧g=k-j∧s8=.int .i64 j∧((s7=.int .i64 0∧findFrom (fun j=>same (D j).name (D k).name) (k-j) j=findFrom (fun j=>same (D j).name (D k).name) k 0)∨(s7=.int .i64 7∧clashD D k=true))∧Below w1.heap.size w1 wr)
    case atStart=>exact ⟨0,Nat.zero_le _,rfl,rfl,Or.inl ⟨rfl,rfl⟩,Below.refl _ _⟩
    case round =>
     obtain ⟨j,hj,rfl,rfl,hs,hBi⟩:=hrel
     have HBi:Hid (Below w1.heap.size w1 wr):=hBi
     have c2:wr.cell? ⟨w.heap.size,0,none⟩=some (.slice (some ⟨b,o,none⟩) n cap):=(hBi.cell (p:=⟨w.heap.size,0,none⟩) hz1).trans c1
     have hMi:=HM1.out.later hBi
     clear hBi
     rcases hs with ⟨rfl,hff⟩ | ⟨rfl,hcl⟩
     ·have HFF:Hid (findFrom (fun j=>same (D j).name (D k).name) (k-j) j=findFrom (fun j=>same (D j).name (D k).name) k 0):=hff
      clear hff
      by_cases hjk:j<k
      ·obtain ⟨a0,-,-,-⟩:=hMi.2 j (by omega)
       obtain ⟨b0,-,-,-⟩:=hMi.2 k hlt
       have hji:(j:Int)<(k:Int):=by omega
       have hjn:(j:Int)<(n:Int):=by omega
       have hsj:k-j=(k-(j+1))+1:=by omega
       clear hMi
       cases hq:((D j).name.toList == (D k).name.toList)
       ·have HQ:Hid ((fun j=>same (D j).name (D k).name) j=false):=hq
        go_wp2_with fail
        go_quiet (fail)
        go_wp2_with fail
        go_roundg (k-(j+1))
        case measure=>omega
        case rel=>exact ⟨j+1,by omega,rfl,by go_num,Or.inl ⟨rfl,by rw [←HFF.out,hsj,findFrom_miss _ HQ.out]⟩,onB HBi.out (below_drewN (Below.refl _ _) _)⟩
       ·have HQ:Hid (clashD D k=true):=clashD_hit hjk hq
        go_wp2_with fail
        go_quiet (fail)
        go_wp2_with fail
        go_roundg (k-(j+1))
        case measure=>omega
        case rel=>exact ⟨j+1,by omega,rfl,by go_num,Or.inr ⟨rfl,HQ.out⟩,onB HBi.out (below_drewN (Below.refl _ _) _)⟩
      ·have hje:j=k:=by omega
       have hji:(k:Int)≤(j:Int):=by omega
       have hcl:clashD D k=false:=clashD_none (by rw [←HFF.out,hje,Nat.sub_self];rfl)
       have HK:Hid (oneD D k=(-1,0)):=one2 HE.out hcl
       clear hMi hcl
       go_wp2_with fail
       go_roundg (n-(k+1))
       case measure=>omega
       case rel=>exact ⟨k+1,by omega,rfl,by go_num,by rw [←HF.out,hsk,scanD_ok _ (by rw [HK.out])],onB HB1.out HBi.out⟩
     ·have HK:Hid (oneD D k=(-1,7)):=one1 HE.out hcl
      clear hMi hcl
      have hsb:scanD D n 0=((k:Int),-1,7):=by rw [←HF.out,hsk,scanD_bad _ (by rw [HK.out];decide),HK.out]
      have HR:Hid (allErr D n=((k:Int),-1,7)):=by show _=_;rw [al2 (by omega) (by omega) (by rw [hsb];show (7:Int)≠0;decide),hsb]
      clear hsb
      by_cases hjk:(j:Int)<(k:Int)
      ·go_wp2_with fail
       refine bodyPost_ret (v:=.tuple #[.int .i64 k,.int .i64 (-1),.int .i64 7]) (by simp [results,Tryz.results86,go_sem]) rfl ⟨by rw [HR.out],?_⟩
       exact onB HB0.out (onB HB1.out HBi.out)
      ·go_wp2_with fail
       refine bodyPost_ret (v:=.tuple #[.int .i64 k,.int .i64 (-1),.int .i64 7]) (by simp [results,Tryz.results86,go_sem]) rfl ⟨by rw [HR.out],?_⟩
       exact onB HB0.out (onB HB1.out HBi.out)
   ·have HK:Hid (oneD D k=dimErr (D k)):=one0 he
    have HE:Hid ((dimErr (D k)).2≠0):=he
    have hsb:scanD D n 0=((k:Int),(dimErr (D k)).1,(dimErr (D k)).2):=by rw [←HF.out,hsk,scanD_bad _ (by rw [HK.out];exact he),HK.out]
    have HR:Hid (allErr D n=((k:Int),(dimErr (D k)).1,(dimErr (D k)).2)):=by show _=_;rw [al2 (by omega) (by omega) (by rw [hsb];exact he),hsb]
    have he2:((dimErr (D k)).2 == 0)=false:=by simpa using he
    clear he hsb HK HE
    generalize (dimErr (D k)).2=ec at hck HR he2
    generalize (dimErr (D k)).1=kc at hck HR
    go_wp2_with fail
    refine hck.mono ?_
    rintro e w1 ⟨rfl,hb1⟩
    have HB1:Hid (Below W.heap.size W w1):=onB HBr.out hb1
    clear hb1 hck
    go_wp2_with fail
    by_cases hk0:(0:Int)<(k:Int)
    ·refine wp_loop_rounds 1 ?_
     rw [rounds_succ]
     go_wp2_with fail
     refine bodyPost_ret (v:=.tuple #[.int .i64 k,.int .i64 kc,.int .i64 ec]) (by simp [results,Tryz.results86,go_sem]) rfl ⟨by rw [HR.out],?_⟩
     exact onB HB0.out HB1.out
    ·have hk0':(k:Int)≤0:=by omega
     refine wp_loop_rounds 1 ?_
     rw [rounds_succ]
     go_wp2_with fail
     refine bodyPost_ret (v:=.tuple #[.int .i64 k,.int .i64 kc,.int .i64 ec]) (by simp [results,Tryz.results86,go_sem]) rfl ⟨by rw [HR.out],?_⟩
     exact onB HB0.out HB1.out
  ·have hke:k=n:=by omega
   subst hke
   have hs0:(scanD D k 0).2.2=0:=by rw [←HF.out,Nat.sub_self];rfl
   have hone:=(scanD_right k 0 hs0).2
   have hcs:=osize_any b o k cap D A C wo (by omega) (fun j hj=>(dimErr_right (oneD_right (hone j (Nat.zero_le _) (by omega)))).2.2.1) hMr
   clear hone hMr
   by_cases hp:3000<prodN D k
   ·have hp':3000<(prodN D k:Int):=by omega
    have HR:Hid (allErr D k=(-1,-1,4)):=al3 (by omega) (by omega) hs0 hp
    clear hs0 hp
    go_wp2_with fail
    refine hcs.mono ?_
    rintro e w2 ⟨rfl,hb2⟩
    go_wp2_with fail
    refine bodyPost_ret (v:=.tuple #[.int .i64 (-1),.int .i64 (-1),.int .i64 4]) (by simp [results,Tryz.results86,go_sem]) rfl ⟨by rw [HR.out],?_⟩
    exact onB HB0.out (onB HBr.out hb2)
   ·have hp':(prodN D k:Int)≤3000:=by omega
    have HR:Hid (allErr D k=(-1,-1,0)):=al4 (by omega) (by omega) hs0 hp
    clear hs0 hp
    go_wp2_with fail
    refine hcs.mono ?_
    rintro e w2 ⟨rfl,hb2⟩
    go_wp2_with fail
    refine bodyPost_ret (v:=.tuple #[.int .i64 (-1),.int .i64 (-1),.int .i64 0]) (by simp [results,Tryz.results86,go_sem]) rfl ⟨by rw [HR.out],?_⟩
    exact onB HB0.out (onB HBr.out hb2)
end Go.Proofs.YtenlladggdcfnaaGreatDoor
