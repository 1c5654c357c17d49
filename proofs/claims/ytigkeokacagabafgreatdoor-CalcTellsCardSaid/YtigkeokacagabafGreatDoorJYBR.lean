/-
  How many of a row are not done yet, and one pass over it (plain); a row of so many words 'no' made anew.
-/
import Derived.BigRegion
import Derived.Test.YtigkeokacagabafGreatDoorShelfH
import Derived.Test.YtigkeokacagabafGreatDoorJYBK
import Derived.Test.YtigkeokacagabafGreatDoorJYBN
namespace Go.Proofs.YtigkeokacagabafGreatDoor
open Go.ChangeShapes Go.WideShapes Go.ChangeAt Go.RowKit
set_option maxRecDepth 20000
def cntF (f:Nat→Bool):Nat→Nat
 | 0=>0
 | k+1=>cntF f k+(if f k=true then 0 else 1)
def putF (f:Nat→Bool) (x j:Nat):Bool:=if j=x then true else f j
theorem cnt_put {f:Nat→Bool} {x:Nat} (hf:f x=false):∀ N,(x<N→cntF (putF f x) N+1=cntF f N)∧(N≤x→cntF (putF f x) N=cntF f N)
 | 0=>⟨fun h=>by omega,fun _=>rfl⟩
 | k+1=>by
  obtain ⟨h1,h2⟩:=cnt_put hf k
  refine ⟨fun h=>?_,fun h=>?_⟩
  ·rw [cntF,cntF]
   by_cases e:k=x
   ·rw [h2 (by omega)]
    subst e
    simp [putF,hf]
   ·have h3:=h1 (by omega)
    have h4:putF f x k=f k:=by simp [putF,e]
    rw [h4]
    omega
  ·rw [cntF,cntF,h2 (by omega)]
   have h4:putF f x k=f k:=by simp [putF,show k≠x by omega]
   rw [h4]
def PassP (N:Nat) (f0 f:Nat→Bool) (ag:Bool):Prop:=(ag=true→cntF f N<cntF f0 N)∧(ag=false→f=f0)
theorem pass_put {N i:Nat} {f0 f:Nat→Bool} {ag:Bool} (h:PassP N f0 f ag) (hi:i<N) (hf:f i=false):PassP N f0 (putF f i) true:=by
 refine ⟨fun _=>?_,fun e=>by cases e⟩
 have h1:=(cnt_put hf N).1 hi
 cases ag with
 | true=>have:=h.1 rfl;omega
 | false=>rw [h.2 rfl] at h1 ⊢;omega
def muF (f:Nat→Bool) (ag:Bool) (N:Nat):Nat:=cntF f N+(if ag=true then 1 else 0)
theorem run_make_bols (n:Nat) (hn:n≤3000) (w:World):(Instr.makeSlice 34 (.int .i64 (n:Int)) (.int .i64 (n:Int))).run Tryz.prog w=.ok (.slice (some ⟨w.heap.size,0,none⟩) n n) (w.alloc (.cells (madeCells #[.bool false] n) 4)):=by
 obtain ⟨i0,hi0,hz0,hz1,hz2⟩:=info_parts Tryz.infoBol
 have hr:=run_make (P:=Tryz.prog) w 34 4 i0 _ Tryz.underlying34 hi0 hz0 .i64 .i64 n n (by omega) (Int.le_refl _) (by rw [hz2];omega) (by omega)
 simp only [Int.toNat_natCast,hz1,Nat.mul_one] at hr
 exact hr
set_option maxHeartbeats 8000000 in
theorem fcells_own (A0:Option Addr) (cap n:Nat) (D:Nat→Dm) (A:Nat→Option Addr) (C:Nat→Nat) (AE:Option Addr) (ce:Nat) (xs:List EnL) (w:World) (hM:DimsV w A0 cap n D A C) (hE:EnsV w AE ce xs) (he:entsErr D n (lE xs)=0) :
  Calls Tryz.prog 39 #[.agg #[.slice A0 n cap],.slice AE xs.length ce] w fun e w'=>(∃ g,e=.returned (.tuple #[.slice (some ⟨g,0,none⟩) (prodN D n) (prodN D n),.nilIface])∧w.heap.size≤g∧CelB w' g (wrV D n (lE xs)))∧Below w.heap.size w w':=by
 have hB0:=ownOut_below w A0 n cap 42
 have h:=icheck_any A0 cap n D A C AE ce xs (ownOut w A0 n cap 42) (hM.later hB0) (hE.later hB0)
 have HB0:Hid (Below w.heap.size w (ownOut w A0 n cap 42)):=hB0
 have HM:Hid (DimsV w A0 cap n D A C):=hM
 have HE:Hid (EnsV w AE ce xs):=hE
 clear hM hE hB0
 have hEs:=ens_of he
 have HEs:Hid (Ens D n (lE xs)):=hEs
 have hfew:xs.length≤3000:=by have:=hEs.few;rw [lE_len] at this;exact this
 have hR:=hEs.right
 have HR:Hid ((allErr D n).2.2=0):=hR
 obtain ⟨hn1,hn4,hp3,hd⟩:=allErr_some hR
 rw [he,errV_zero] at h
 have HBo:Hid (w.heap.size<(ownOut w A0 n cap 42).heap.size∧(ownOut w A0 n cap 42).cell? ⟨w.heap.size,0,none⟩=some (.slice A0 n cap)):=⟨by rw [ownOut_size];omega,ownOut_at ..⟩
 obtain ⟨N,hN⟩:∃ N,xs.length=N:=⟨_,rfl⟩
 have HN:Hid (xs.length=N):=hN
 rw [hN] at h hfew ⊢
 have hN':(N:Int)≤3000:=by omega
 obtain ⟨PN,hPN⟩:∃ PN,prodN D n=PN:=⟨_,rfl⟩
 have HPN:Hid (prodN D n=PN):=hPN
 rw [hPN] at hp3
 have hmk:=run_make_cells PN hp3
 have hPN':(PN:Int)≤3000:=by omega
 have HWE:Hid (((lE xs).take N).foldl (wrStep D n) (List.replicate PN (0,0))=wrV D n (lE xs)):=by show _=_;rw [List.take_of_length_le (by rw [lE_len,hN];exact Nat.le_refl _),←hPN];rfl
 clear he hEs hR hd hN hPN
 go_enter Tryz.func39,Tryz.ntmps39
 go_wp2_with fail
 refine h.mono ?_
 rintro e w1 ⟨rfl,hb1⟩
 have hB:Below w.heap.size w w1:=onB HB0.out hb1
 have HB:Hid (Below w.heap.size w w1):=hB
 have HBox:Hid (BoxN w1 w.heap.size (.slice A0 n cap)):=⟨Nat.lt_of_lt_of_le HBo.out.1 hb1.size,(hb1.cell (p:=⟨w.heap.size,0,none⟩) HBo.out.1).trans HBo.out.2⟩
 have c1:=HBox.out.2
 have hpc:=pcells_any A0 cap n D A C w1 (HM.out.later hB)
 have hcv:cellsV D n=(PN:Int):=by unfold cellsV;rw [if_pos HR.out,HPN.out]
 rw [HR.out,errV_zero,hcv] at hpc
 clear hb1 h hB hcv
 go_wp2_with fail
 refine hpc.mono ?_
 rintro e w2 ⟨rfl,hb2⟩
 have HB2:Hid (Below w.heap.size w w2):=onB HB.out hb2
 have HBox2:Hid (BoxN w2 w.heap.size (.slice A0 n cap)):=HBox.out.later hb2
 obtain ⟨v2,hv2⟩:∃ v,w2.alloc (.cells (madeCells #[.int .i64 0,.int .i64 0] (PN*2)) 48)=v:=⟨_,rfl⟩
 have hBv:Below w2.heap.size w2 v2:=by rw [←hv2];go_grown
 have HBv:Hid (Below w2.heap.size w2 v2):=hBv
 have HCv:Hid (CelB v2 w2.heap.size (List.replicate PN (0,0))):=by rw [←hv2];exact celB_made w2 PN
 have HBoxv:Hid (BoxN v2 w.heap.size (.slice A0 n cap)):=HBox2.out.later hBv
 have hwz:w.heap.size<w2.heap.size:=HBox2.out.1
 clear hpc hb2 c1 hBv
 go_wp2_with fail
 clear hmk hv2
 go_loopg [32] N (fun gg s32 wr => ∃ (k:Nat),k≤N∧gg=N-k∧s32=.int .i64 k∧Hid (CelB wr w2.heap.size (((lE xs).take k).foldl (wrStep D n) (List.replicate PN (0,0))))∧Hid (v2.grownBy wr (some w2.heap.size)))
 case atStart=>exact ⟨0,Nat.zero_le _,rfl,rfl,HCv,grown_refl v2 _⟩
 case round =>
  obtain ⟨k,hk,rfl,rfl,HC,HG⟩:=hrel
  have hB2r:Below w2.heap.size w2 wr:=HBv.out.grown HG.out HBv.out.size (fun j hj=>by cases hj;exact Nat.le_refl _)
  have HB2r:Hid (Below w2.heap.size w2 wr):=hB2r
  have HBr:Hid (Below w.heap.size w wr):=onB HB2.out hB2r
  by_cases hlt:k<N
  ·have hkx:k<xs.length:=by rw [HN.out];exact hlt
   have hki:(k:Int)<(N:Int):=by omega
   obtain ⟨-,-,h0 | ⟨bb,oo,rfl,hA⟩⟩:=HE.out.later HBr.out
   ·have:=HN.out;rw [h0] at this;simp at this;omega
   obtain ⟨c1,c2⟩:=hA.at hkx
   have hmem:(xs.getD k noL).e∈lE xs:=List.mem_map.2 ⟨_,enl_mem hkx,rfl⟩
   obtain ⟨hqI,-,hnum⟩:=HEs.out.each _ hmem
   have hnn : -1000000≤(xs.getD k noL).e.n∧(xs.getD k noL).e.n≤1000000:=by simpa [numOk] using hnum
   obtain ⟨hq1,hq2,-⟩:=numI_bound hqI (Nat.le_refl n)
   have hpl:=hA.pl hkx
   have HWr:=take_wr D n (List.replicate PN (0,0)) xs hkx
   unfold wrStep at HWr
   obtain ⟨X,hX⟩:∃ X:Nat,numI D (xs.getD k noL).e.pl n=X:=⟨(numI D (xs.getD k noL).e.pl n).toNat,by omega⟩
   have hnv:numV D n (xs.getD k noL).e.pl=(X:Int):=by unfold numV;rw [if_pos hqI.ok,hX]
   have hXN:X<PN:=by have:=HPN.out;omega
   have hNum:∀ w',Below wr.heap.size wr w'→_:=fun w' hw'=>pnumber_any A0 cap n D A C (xs.getD k noL).A (xs.getD k noL).c (xs.getD k noL).e.pl w' (HM.out.later (onB HBr.out hw')) (hpl.later hw')
   rw [hnv,hqI.ok,errV_zero] at hNum
   have HNum:Hid (∀ w',Below wr.heap.size wr w'→_):=hNum
   have hof:=fun w'=>of_any (xs.getD k noL).e.n w'
   rw [ofP_in (by omega) (by omega)] at hof
   rw [hX,show ((X:Int)).toNat=X by omega] at HWr
   have HWR:Hid _:=HWr
   obtain ⟨LL,hLL⟩:∃ LL,((lE xs).take k).foldl (wrStep D n) (List.replicate PN (0,0))=LL:=⟨_,rfl⟩
   have hLLn:LL.length=PN:=by rw [←hLL,wrs_len];simp
   have HCL:Hid (CelB wr w2.heap.size LL):=by rw [←hLL];exact HC.out
   have HNx:Hid (((lE xs).take (k+1)).foldl (wrStep D n) (List.replicate PN (0,0))=LL.set X (1,(xs.getD k noL).e.n)):=by
    show _=_
    rw [←hLL]
    exact HWR.out
   have HBxr:Hid (BoxN wr w.heap.size (.slice A0 n cap)):=boxn_other HBoxv.out (by omega) HG.out
   have hXL:X<LL.length:=by omega
   have HXL:Hid (X<LL.length):=hXL
   generalize (xs.getD k noL).A=A1 at c1 HNum
   generalize (xs.getD k noL).c=k1 at c1 HNum
   generalize (xs.getD k noL).e.n=num at c2 hnn hof HNx
   generalize (xs.getD k noL).e.pl.length=m1 at c1 HNum
   have hcr:=HBxr.out.2
   have hXi:(X:Int)<(PN:Int):=by omega
   obtain ⟨y,hy⟩:∃ y,wr.alloc (.cells #[.slice A1 m1 k1,.int .i64 num] 57)=y:=⟨_,rfl⟩
   have hBy:Below wr.heap.size wr y:=by rw [←hy];go_grown
   have HBy:Hid (Below wr.heap.size wr y):=hBy
   have HPy:Hid (y.heap[wr.heap.size]?=some (.cells #[.slice A1 m1 k1,.int .i64 num] 57 (0,0))):=by show _=_;rw [←hy];exact heap_alloc_new ..
   obtain ⟨p0,p1,-,-⟩:=pair_at HPy.out
   have hyo:=(HBxr.out.later hBy).2
   clear hB2r hA hmem hqI hnum hpl HWr hNum hnv hLL hLLn hX hq1 hq2 hBy hXL HWR
   go_wp2_with fail
   refine (HNum.out _ HBy.out).mono ?_
   rintro e w5 ⟨rfl,hb5⟩
   have HB5:Hid (Below y.heap.size y w5):=hb5
   have hwr:wr.heap.size<y.heap.size:=(Array.getElem?_eq_some_iff.1 HPy.out).1
   have hP5:w5.heap[wr.heap.size]?=some (.cells #[.slice A1 m1 k1,.int .i64 num] 57 (0,0)):=(hb5.block _ hwr).trans HPy.out
   obtain ⟨-,s1,-,-⟩:=pair_at hP5
   clear hb5 hP5 p0 p1 hyo
   go_wp2_with fail
   refine (hof _).mono ?_
   rintro e w6 ⟨rfl,hb6⟩
   have hB6:Below wr.heap.size wr w6:=onB (onB HBy.out HB5.out) hb6
   have HC6:Hid (CelB w6 w2.heap.size LL):=HCL.out.later hB6
   obtain ⟨g1,g2⟩:=HC6.out.at HXL.out
   have g3:=HC6.out.frozen (X*2)
   have g4:=HC6.out.frozen (X*2+1)
   have HC7:Hid (CelB ((w6.setCell ⟨w2.heap.size,X*2,none⟩ (.int .i64 1)).setCell ⟨w2.heap.size,X*2+1,none⟩ (.int .i64 num)) w2.heap.size (((lE xs).take (k+1)).foldl (wrStep D n) (List.replicate PN (0,0)))):=by show CelB _ _ _;rw [HNx.out];exact HC6.out.set HXL.out 1 num
   have HG7:Hid (v2.grownBy ((w6.setCell ⟨w2.heap.size,X*2,none⟩ (.int .i64 1)).setCell ⟨w2.heap.size,X*2+1,none⟩ (.int .i64 num)) (some w2.heap.size)):=cel_grown (grown_then HG.out hB6)
   clear hb6 hB6 hof s1
   go_wp2_with fail
   go_roundg (N-(k+1))
   case measure=>omega
   case rel=>exact ⟨k+1,by omega,rfl,by go_num,HC7,HG7⟩
  ·have hke:k=N:=by omega
   subst hke
   have HV:Hid (CelB wr w2.heap.size (wrV D n (lE xs))):=by rw [←HWE.out];exact HC.out
   clear hB2r
   go_wp2_with fail
   go_ret2
   exact ⟨⟨w2.heap.size,by rw [HPN.out];rfl,HB2.out.size,HV.out⟩,HBr.out⟩
theorem ru_right {D:Nat→Dm} {n:Nat} (h:(ruErr D n).2.2=0):(allErr D n).2.2=0∧AllR D n:=by
 by_cases h1:(allErr D n).2.2=0
 ·refine ⟨h1,Classical.byContradiction fun hn=>?_⟩
  have hex:∃ i,i<n∧(rErr (D i)).2≠0:=Classical.byContradiction fun he=>hn fun i hi=>Classical.byContradiction fun hb=>he ⟨i,hi,hb⟩
  have hleast:∀ m,(∃ i,i<m∧i<n∧(rErr (D i)).2≠0)→∃ i,i<n∧(rErr (D i)).2≠0∧∀ j,j<i→(rErr (D j)).2=0:=by
   intro m
   induction m with
   | zero=>rintro ⟨i,h,-⟩;omega
   | succ m ih =>
    rintro ⟨i,h3,h4,h5⟩
    by_cases hm:∃ i,i<m∧i<n∧(rErr (D i)).2≠0
    ·exact ih hm
    ·exact ⟨i,h4,h5,fun j hj=>Classical.byContradiction fun hb=>hm ⟨j,by omega,by omega,hb⟩⟩
  obtain ⟨i0,hi0,hb0⟩:=hex
  obtain ⟨i,hi,hb,hf⟩:=hleast n ⟨i0,hi0,hi0,hb0⟩
  rw [ru1 h1 hi hb hf] at h
  exact hb h
 ·rw [ru0 h1] at h
  exact absurd h h1
theorem good_getE {D:Nat→Dm} {n:Nat} {l:List En} (h:Ens D n l) (p:List Int):goodC (getE l p):=by
 unfold getE
 split
 ·exact good_zero
 ·rename_i e r he
  split
  ·exact good_zero
  ·have hm:e∈l:=List.mem_of_mem_drop (i:=cntE l p) (by rw [he];exact List.mem_cons_self ..)
   exact goodC_num (h.each e hm).2.2
theorem wr_at {D:Nat→Dm} {n:Nat} {l:List En} (h:Ens D n l) {j:Nat} (hj:j<prodN D n):(wrV D n l).getD j noC=getE l (placeL D n j):=by
 rw [wr_rwL h]
 simp [rwL,List.getD,hj]
end Go.Proofs.YtigkeokacagabafGreatDoor
namespace Go.Proofs.YtigkeokacagabafGreatDoor
open Go Go.ChangeShapes Go.WideShapes Go.ChangeAt Go.RowKit
set_option maxRecDepth 20000
theorem keepQ2 {W w':World} {b o b' o':Nat} {u v:Value} (h:b<W.heap.size∧b'<W.heap.size∧W.cell? ⟨b,o,none⟩=some u∧W.cell? ⟨b',o',none⟩=some v) (hB:Below W.heap.size W w'):Below W.heap.size W w'∧w'.cell? ⟨b,o,none⟩=some u∧w'.cell? ⟨b',o',none⟩=some v :=
 ⟨hB,(hB.cell (p:=⟨b,o,none⟩) h.1).trans h.2.2.1,(hB.cell (p:=⟨b',o',none⟩) h.2.1).trans h.2.2.2⟩
set_option maxHeartbeats 4000000 in
theorem samepls_any (A B:Option Addr) (ca cb:Nat) (xs ys:List PL) (w:World) (hl:lP xs=lP ys) (hn:xs.length≤20736) (h4:∀ x∈xs,x.p.length≤4) (hA:PlsV w A ca xs) (hB:PlsV w B cb ys) :
  Calls Tryz.prog 28 #[.slice A xs.length ca,.slice B ys.length cb] w fun e w'=>e=.returned (.bool true)∧Below w.heap.size w w':=by
 have HA:Hid (PlsV w A ca xs):=hA
 have HB:Hid (PlsV w B cb ys):=hB
 have HL:Hid (lP xs=lP ys):=hl
 have H4:Hid (∀ x∈xs,x.p.length≤4):=h4
 have hyl:ys.length=xs.length:=by rw [←lP_len,←hl,lP_len]
 obtain ⟨N,hN⟩:∃ N,xs.length=N:=⟨_,rfl⟩
 have HN:Hid (xs.length=N):=hN
 have HNy:Hid (ys.length=N):=by show _=_;rw [hyl];exact hN
 rw [hyl]
 rw [hN] at hn ⊢
 have hn':(N:Int)≤20736:=by omega
 have hne:((N:Int) != (N:Int))=false:=by simp
 clear hA hB hN hyl hl h4
 go_enter Tryz.func28,Tryz.ntmps28
 go_wp2_with fail
 go_loopg [5] N (fun g s5 wr => ∃ (k:Nat),k≤N∧g=N-k∧s5=.int .i64 k∧Below w.heap.size w wr)
 case atStart=>exact ⟨0,Nat.zero_le _,rfl,rfl,Below.refl _ _⟩
 case round =>
  obtain ⟨k,hk,rfl,rfl,hBw⟩:=hrel
  have HW:Hid (Below w.heap.size w wr):=hBw
  by_cases hlt:k<N
  ·have hki:(k:Int)<(N:Int):=by omega
   have hkx:k<xs.length:=by rw [HN.out];exact hlt
   have hky:k<ys.length:=by rw [HNy.out];exact hlt
   obtain ⟨hca,h0 | ⟨b1,o1,rfl,hz1,hc1⟩,hp1⟩:=HA.out.later hBw
   ·rw [h0] at hkx;simp at hkx
   obtain ⟨hcb,h0 | ⟨b2,o2,rfl,hz2,hc2⟩,hp2⟩:=HB.out.later hBw
   ·rw [h0] at hky;simp at hky
   rw [HN.out] at hca
   rw [HNy.out] at hcb
   have a1:=hc1 k hkx
   have a2:=hc2 k hky
   have hpp:(xs.getD k noP).p=(ys.getD k noP).p:=by rw [←lP_at,←lP_at,HL.out]
   have hs:∀ w',Below wr.heap.size wr w'→Calls Tryz.prog 52 #[.slice (xs.getD k noP).A (xs.getD k noP).p.length (xs.getD k noP).c,.slice (ys.getD k noP).A (ys.getD k noP).p.length (ys.getD k noP).c] w' fun e w''=>e=.returned (.bool true)∧Below w'.heap.size w' w'':=fun w' hw'=>by
    have h:=samepl_any (xs.getD k noP).A (ys.getD k noP).A (xs.getD k noP).c (ys.getD k noP).c (xs.getD k noP).p (ys.getD k noP).p w' (H4.out _ (pl_mem hkx)) ((hp1 _ (pl_mem hkx)).later hw').pl ((hp2 _ (pl_mem hky)).later hw').pl
    rw [decide_eq_true hpp] at h
    exact h
   have HSm:Hid (∀ w',Below wr.heap.size wr w'→Calls Tryz.prog 52 #[.slice (xs.getD k noP).A (xs.getD k noP).p.length (xs.getD k noP).c,.slice (ys.getD k noP).A (ys.getD k noP).p.length (ys.getD k noP).c] w' fun e w''=>e=.returned (.bool true)∧Below w'.heap.size w' w''):=hs
   have HKq:Hid (b1<wr.heap.size∧b2<wr.heap.size∧wr.cell? ⟨b1,o1+k,none⟩=some (.slice (xs.getD k noP).A (xs.getD k noP).p.length (xs.getD k noP).c)∧wr.cell? ⟨b2,o2+k,none⟩=some (.slice (ys.getD k noP).A (ys.getD k noP).p.length (ys.getD k noP).c)):=⟨hz1,hz2,a1,a2⟩
   generalize (xs.getD k noP).A=X1 at a1 HSm HKq
   generalize (xs.getD k noP).p.length=X2 at a1 HSm HKq
   generalize (xs.getD k noP).c=X3 at a1 HSm HKq
   generalize (ys.getD k noP).A=Y1 at a2 HSm HKq
   generalize (ys.getD k noP).p.length=Y2 at a2 HSm HKq
   generalize (ys.getD k noP).c=Y3 at a2 HSm HKq
   clear hs hc1 hc2 hp1 hp2 hBw hpp
   go_wp2_with fail
   go_cut [6] (fun s6 wx=>s6=.bool true∧Below wr.heap.size wr wx)
   case first=>as_aux_lemma =>
    go_region_held3 (fun w'=>Below wr.heap.size wr w'∧w'.cell? ⟨b1,o1+k,none⟩=some (.slice X1 X2 X3)∧w'.cell? ⟨b2,o2+k,none⟩=some (.slice Y1 Y2 Y3))
     ((refine keepQ2 HKq.out ?_;go_grown;done))
     (first | (go_at_call 52;refine (HSm.out _ (by go_grown)).mono ?_;rintro e w3 ⟨rfl,hb3⟩;have hM3:=onB (W0:=wr) (by go_grown) hb3;have hy3:=hM3.size;clear hb3))
    all_goals go_wp2_with fail
    all_goals go_meet
    all_goals exact ⟨rfl,by go_grown⟩
   case rest=>as_aux_lemma =>
   obtain ⟨rfl,hb⟩:=hcut
   have HB2:Hid (Below w.heap.size w wc):=onB HW.out hb
   clear hb a1 a2
   go_wp2_with fail
   go_roundg (N-(k+1))
   case measure=>omega
   case rel=>exact ⟨k+1,by omega,rfl,by go_num,HB2.out⟩
  ·have hke:k=N:=by omega
   subst hke
   clear hBw
   go_wp2_with fail
   go_ret
   exact ⟨rfl,HW.out⟩
end Go.Proofs.YtigkeokacagabafGreatDoor
namespace Go.Proofs.YtigkeokacagabafGreatDoor
open Go.ChangeShapes Go.WideShapes Go.ChangeAt Go.RowKit
set_option maxRecDepth 100000
theorem setCells_ty {g T:Nat} {fr:Nat×Nat}:∀ (vs:List Value) (o:Nat) (cur:Array Value) (w:World),w.heap[g]?=some (.cells cur T fr)→∃ cur',(w.setCells g o vs).heap[g]?=some (.cells cur' T fr)∧cur'.size=cur.size
 | [],_,cur,_,h=>⟨cur,h,rfl⟩
 | v :: r,o,cur,w,h=>by
  obtain ⟨c2,h2,h3⟩:=setCells_ty r (o+1) _ (w.setCell ⟨g,o,none⟩ v) (set_ty h)
  exact ⟨c2,h2,by rw [h3];simp⟩
theorem setCells_size (g:Nat):∀ (vs:List Value) (o:Nat) (w:World),(w.setCells g o vs).heap.size=w.heap.size
 | [],_,_=>rfl
 | v :: r,o,w=>by
  show ((w.setCell ⟨g,o,none⟩ v).setCells g (o+1) r).heap.size=_
  rw [setCells_size g r];simp
theorem setCells_off (g:Nat) {b:Nat} (hb:b≠g):∀ (vs:List Value) (o:Nat) (w:World),(w.setCells g o vs).heap[b]?=w.heap[b]?
 | [],_,_=>rfl
 | v :: r,o,w=>by
  show ((w.setCell ⟨g,o,none⟩ v).setCells g (o+1) r).heap[b]?=_
  rw [setCells_off g hb r,setCell_off _ _ _ _ _ hb]
theorem setCells_os (g:Nat):∀ (vs:List Value) (o:Nat) (w:World),(w.setCells g o vs).os=w.os∧(w.setCells g o vs).tape=w.tape∧(w.setCells g o vs).output=w.output
 | [],_,_=>⟨rfl,rfl,rfl⟩
 | v :: r,o,w=>setCells_os g r (o+1) (w.setCell ⟨g,o,none⟩ v)
theorem grown_setCells {w w':World} {g:Nat} (h:w.grownBy w' (some g)) (vs:List Value) (o:Nat):w.grownBy (w'.setCells g o vs) (some g):=by
 obtain ⟨e1,e2,e3⟩:=setCells_os g vs o w'
 refine ⟨e1.trans h.os,e2.trans h.tape,e3.trans h.output,by rw [setCells_size];exact h.size,fun k hk hne=>?_⟩
 rw [setCells_off g (fun e=>hne (by rw [e]))]
 exact h.block k hk hne
def RdyV (w:World) (g:Nat) (A:Option Addr) (cap:Nat) (L:List Int):Prop:=L.length≤cap∧cap≤9223372036854775807∧∃ o,A=some ⟨g,o,none⟩∧(∃ cur,w.heap[g]?=some (.cells cur 3 (0,0))∧o+cap≤cur.size)∧∀ j,j<L.length→w.cell? ⟨g,o+j,none⟩=some (.int .i64 (L.getD j 0))
theorem RdyV.lt {w:World} {g cap:Nat} {A:Option Addr} {L:List Int} (h:RdyV w g A cap L):g<w.heap.size:=by
 obtain ⟨-,-,o,-,⟨cur,hc,-⟩,-⟩:=h
 exact (Array.getElem?_eq_some_iff.1 hc).1
theorem RdyV.same {w w':World} {g cap:Nat} {A:Option Addr} {L:List Int} (h:RdyV w g A cap L) (hb:w'.heap[g]?=w.heap[g]?):RdyV w' g A cap L:=by
 obtain ⟨h1,h2,o,h3,⟨cur,hc,h4⟩,h5⟩:=h
 exact ⟨h1,h2,o,h3,⟨cur,hb.trans hc,h4⟩,fun j hj=>(World.cell?_of_block (a:=⟨g,o+j,none⟩) hb).trans (h5 j hj)⟩
theorem RdyV.later {w w':World} {g cap:Nat} {A:Option Addr} {L:List Int} (h:RdyV w g A cap L) (hB:Below w.heap.size w w'):RdyV w' g A cap L:=h.same (hB.block g h.lt)
theorem RdyV.own {w:World} {base:Nat} {v:Value} {L:List Int} (h:w.ownsRow base 3 1 v L.length (mapI L)) (hl:0<L.length):∃ g c,v=.slice (some ⟨g,0,none⟩) L.length c∧base≤g∧RdyV w g (some ⟨g,0,none⟩) c L:=by
 rcases h.2 with ⟨rfl,h0⟩ | ⟨g,cap,cur,rfl,hb,hg,hc,hm,hs,_⟩
 ·omega
 ·refine ⟨g,cap,rfl,hb,hc,by unfold maxLen at hm;omega,0,rfl,⟨cur,hg,by omega⟩,fun j hj=>?_⟩
  have hx:=h.cells (g:=g) rfl j (.int .i64 (L.getD j 0)) (by simp [mapI,List.getD,List.getElem?_eq_getElem hj])
  have hadd:(⟨g,0,none⟩:Addr).add j=⟨g,j,none⟩:=by unfold Addr.add;split <;> simp_all
  rw [hadd] at hx
  rw [Nat.zero_add]
  exact hx
theorem mapI_at {L:List Int} {j:Nat} {v:Value} (h:(mapI L)[j]?=some v):j<L.length∧v=.int .i64 (L.getD j 0):=by
 unfold mapI at h
 rw [List.getElem?_map] at h
 have hj:j<L.length:=by
  refine Classical.byContradiction fun hn=>?_
  rw [List.getElem?_eq_none (by omega)] at h
  cases h
 rw [List.getElem?_eq_getElem hj] at h
 refine ⟨hj,?_⟩
 rw [List.getD_eq_getElem?_getD,List.getElem?_eq_getElem hj]
 simp at h ⊢
 exact h.symm
theorem mapI_one (L:List Int):∀ v∈mapI L,v.oneCell'=true:=by intro u hu;simp [mapI] at hu;obtain ⟨x,-,rfl⟩:=hu;rfl
theorem mapI_len (L:List Int):(mapI L).length=L.length:=by simp [mapI]
theorem RdyV.cells {w:World} {g cap o:Nat} {L:List Int} (h:RdyV w g (some ⟨g,o,none⟩) cap L):∀ j v,(mapI L)[j]?=some v→w.cell? ⟨g,o+j,none⟩=some v:=fun j v hj=>by
 obtain ⟨hj1,rfl⟩:=mapI_at hj
 obtain ⟨-,-,o',h3,-,h5⟩:=h
 cases h3
 exact h5 j hj1
theorem ins_at {L:List Int} {x:Int} {i:Nat} (hi:i≤L.length) (j:Nat):(j<i→(L.take i ++ x :: L.drop i).getD j 0=L.getD j 0)∧(j=i→(L.take i ++ x :: L.drop i).getD j 0=x)∧(i<j→(L.take i ++ x :: L.drop i).getD j 0=L.getD (j-1) 0):=by
 have hl:(L.take i).length=i:=by rw [List.length_take];omega
 refine ⟨fun h=>?_,fun h=>?_,fun h=>?_⟩
 ·rw [List.getD_eq_getElem?_getD,List.getElem?_append_left (by omega),List.getElem?_take_of_lt h,List.getD_eq_getElem?_getD]
 ·subst h
  rw [List.getD_eq_getElem?_getD,List.getElem?_append_right (by omega),hl,Nat.sub_self]
  rfl
 ·rw [List.getD_eq_getElem?_getD,List.getElem?_append_right (by omega),hl,show j-i=(j-i-1)+1 by omega,List.getElem?_cons_succ,List.getElem?_drop,List.getD_eq_getElem?_getD,show i+(j-i-1)=j-1 by omega]
theorem ins_len {L:List Int} {x:Int} {i:Nat} (hi:i≤L.length):(L.take i ++ x :: L.drop i).length=L.length+1:=by
 rw [List.length_append,List.length_cons,List.length_take,List.length_drop]
 omega
theorem findI_any (A:Option Addr) (cap g:Nat) (L:List Int) (x:Int) (w:World) (hl:L.length≤3000) (hR:RdyV w g A cap L) (hs:L.Pairwise (· < ·)):Calls Tryz.prog 134 #[.slice A L.length cap,.int .i64 x] w fun e w'=>(∃ b,e=.returned (.tuple #[.int .i64 (L.countP (· < x):Nat),.bool b]))∧Below w.heap.size w w':=by
 obtain ⟨-,-,o,rfl,-,h5⟩:=hR
 refine Calls.mono (Any.slices_BinarySearch_int Tryz.lays25 g o L.length cap L x w (Nat.le_refl _) (by omega) h5 (by rw [List.take_length];exact hs.imp fun h=>by omega)) ?_
 rintro e w' ⟨rfl,q,rfl⟩
 rw [List.take_length]
 exact ⟨⟨_,rfl⟩,below_drewN (Below.refl _ _) _⟩
def InsI (w:World) (g i:Nat) (L:List Int) (x:Int) (e:Ending) (w':World):Prop := ∃ g' A' c',e=.returned (.slice A' (L.length+1) c')∧RdyV w' g' A' c' (L.take i ++ x :: L.drop i)∧(g'=g∨w.heap.size≤g')∧w.grownBy w' (some g)
theorem insI_any (A:Option Addr) (cap g i vb:Nat) (L:List Int) (x:Int) (w:World) (hl:L.length≤3000) (hi:i≤L.length) (hR:RdyV w g A cap L) (hv:w.heap[vb]?=some (.cells #[.int .i64 x] 3 (0,0))) (hvb:vb≠g):Calls Tryz.prog 135 #[.slice A L.length cap,.int .i64 i,.slice (some ⟨vb,0,none⟩) 1 1] w fun e w'=>InsI w g i L x e w':=by
 obtain ⟨h1,h2,o,rfl,⟨cur,hc,h4⟩,h5⟩:=id hR
 have hgl:=hR.lt
 have hcs:=hR.cells
 have hvs:∀ j v,([Value.int .i64 x]:List Value)[j]?=some v→w.cell? ⟨vb,0+j,none⟩=some v:=fun j v hj=>by
  rw [Nat.zero_add,Lib.cell_of_heap hv]
  simpa using hj
 have hone:∀ v∈([Value.int .i64 x]:List Value),v.oneCell'=true:=fun v hv=>by simp at hv;subst hv;rfl
 have hsp:∀ j,j<cap→(w.cell? ⟨g,o+j,none⟩).isSome=true:=fun j hj=>by
  rw [Lib.cell_of_heap hc]
  simp [show o+j<cur.size by omega]
 have hfz:∀ j,w.frozen? ⟨g,j,none⟩=false:=fun j=>Lib.frozen_of_heap hc j
 have hfin:∀ w',w.grownBy w' (some g)→(∃ cur',w'.heap[g]?=some (.cells cur' 3 (0,0))∧cur'.size=cur.size)→L.length+1≤cap→(∀ j,j<i→w'.cell? ⟨g,o+j,none⟩=some (.int .i64 (L.getD j 0)))→w'.cell? ⟨g,o+i,none⟩=some (.int .i64 x)→(∀ j,i<j→j<L.length+1→w'.cell? ⟨g,o+j,none⟩=some (.int .i64 (L.getD (j-1) 0)))→InsI w g i L x (.returned (.slice (some ⟨g,o,none⟩) (L.length+1) cap)) w':=fun w' hG hty hroom a1 a2 a3=>by
  obtain ⟨cur',hc',hsz⟩:=hty
  refine ⟨g,_,_,rfl,⟨by rw [ins_len hi];exact hroom,h2,o,rfl,⟨cur',hc',by omega⟩,fun j hj=>?_⟩,Or.inl rfl,hG⟩
  rw [ins_len hi] at hj
  obtain ⟨b1,b2,b3⟩:=ins_at (x:=x) hi j
  by_cases e1:j<i
  ·rw [b1 e1];exact a1 j e1
  ·by_cases e2:j=i
   ·rw [b2 e2,e2];exact a2
   ·rw [b3 (by omega)];exact a3 j (by omega) hj
 by_cases hroom:L.length+1≤cap
 ·by_cases hin:i<L.length
  ·refine Calls.mono (Any2.slices_Insert_int_shift Tryz.lays21 g o L.length cap i vb 0 1 1 (mapI L) [.int .i64 x] w hin (by omega) hroom h2 hvb (mapI_len L) rfl hcs (fun j hj=>hsp j (by omega)) (fun j _=>hfz _) hvs (mapI_one L) hone 3 3 1 cur.size (by simp [World.shape?,hv]) (by simp [World.shape?,hc]) (by omega) (Lib.frozen_of_heap hv 0) (Lib.frozen_of_heap hv 1)) ?_
   rintro e w' ⟨rfl,rfl⟩
   have hdl:((mapI L).drop i).length=L.length-i:=by rw [List.length_drop,mapI_len]
   obtain ⟨c1,hc1,hs1⟩:=setCells_ty ((mapI L).drop i) (o+(i+1)) cur w.drew hc
   obtain ⟨c2,hc2,hs2⟩:=setCells_ty [.int .i64 x] (o+i) c1 _ hc1
   have hin1:∀ j,i<j→j<L.length+1→(w.drew.setCells g (o+(i+1)) ((mapI L).drop i)).cell? ⟨g,o+j,none⟩=some (.int .i64 (L.getD (j-1) 0)):=fun j e1 e2=>by
    have h:=World.cell?_setCells_in g ((mapI L).drop i) (o+(i+1)) w.drew (fun k hk=>by rw [hdl] at hk;have:=hsp (i+1+k) (by omega);rw [show o+(i+1)+k=o+(i+1+k) by omega];exact this) (j-(i+1)) (by rw [hdl];omega)
    rw [show o+(i+1)+(j-(i+1))=o+j by omega] at h
    rw [h,List.getElem_drop]
    simp only [mapI,List.getElem_map,Option.some.injEq,Value.int.injEq,true_and]
    rw [List.getD_eq_getElem?_getD,List.getElem?_eq_getElem (by omega)]
    simp only [Option.getD_some]
    congr 1
    omega
   refine hfin _ (grown_setCells (grown_setCells (grown_drew (grown_refl _ _)) _ _) _ _) ⟨c2,hc2,by omega⟩ hroom (fun j hj=>?_) ?_ fun j e1 e2=>?_
   ·rw [World.cell?_setCells_out g _ _ _ _ (fun _ _=>Or.inl (by show o+j<o+i;omega)),World.cell?_setCells_out g _ _ _ _ (fun _ _=>Or.inl (by show o+j<o+(i+1);omega))]
    exact h5 j (by omega)
   ·have h:=World.cell?_setCells_in g [.int .i64 x] (o+i) (w.drew.setCells g (o+(i+1)) ((mapI L).drop i)) (fun k hk=>by
     have hk0:k=0:=by simpa using hk
     subst hk0
     rw [World.cell?_setCells_out g _ _ _ _ (fun _ _=>Or.inl (by show o+i+0<o+(i+1);omega))]
     exact hsp i (by omega)) 0 (by simp)
    simpa using h
   ·rw [World.cell?_setCells_out g _ _ _ _ (fun _ _=>Or.inr (by show o+i+1≤o+j;omega))]
    exact hin1 j e1 e2
  ·have hie:i=L.length:=by omega
   subst hie
   refine Calls.mono (Any2.slices_Insert_int_end_room Tryz.lays21 g o L.length cap vb 0 1 1 [.int .i64 x] w (by omega) hroom h2 rfl (fun j hj=>by have:=hsp (L.length+j) (by omega);rw [show o+L.length+j=o+(L.length+j) by omega];exact this) (fun j _=>hfz _) hvs hone) ?_
   rintro e w' ⟨rfl,rfl⟩
   obtain ⟨c2,hc2,hs2⟩:=setCells_ty [.int .i64 x] (o+L.length) cur w hc
   refine hfin _ (grown_setCells (grown_refl _ _) _ _) ⟨c2,hc2,hs2⟩ hroom (fun j hj=>?_) ?_ fun j e1 e2=>by omega
   ·rw [World.cell?_setCells_out g _ _ _ _ (fun _ _=>Or.inl (by show o+j<o+L.length;omega))]
    exact h5 j hj
   ·have h:=World.cell?_setCells_in g [.int .i64 x] (o+L.length) w (fun k hk=>by
     have hk0:k=0:=by simpa using hk
     subst hk0
     exact hsp L.length (by omega)) 0 (by simp)
    simpa using h
 ·have hnew:∀ (G:Nat) (w':World),L.length+1≤G→G≤maxLen→Below w.heap.size w w'→(∃ cur',w'.heap[w.heap.size]?=some (.cells cur' 3 (0,0))∧cur'.size=G)→(∀ j,j<i→w'.cell? ⟨w.heap.size,j,none⟩=some (.int .i64 (L.getD j 0)))→w'.cell? ⟨w.heap.size,i,none⟩=some (.int .i64 x)→(∀ j,i<j→j<L.length+1→w'.cell? ⟨w.heap.size,j,none⟩=some (.int .i64 (L.getD (j-1) 0)))→InsI w g i L x (.returned (.slice (some ⟨w.heap.size,0,none⟩) (L.length+1) G)) w':=fun G w' hG hG2 hB hty a1 a2 a3=>by
   obtain ⟨cur',hc',hsz⟩:=hty
   refine ⟨w.heap.size,_,_,rfl,⟨by rw [ins_len hi];exact hG,by unfold maxLen at hG2;omega,0,rfl,⟨cur',hc',by omega⟩,fun j hj=>?_⟩,Or.inr (Nat.le_refl _),grown_below hB⟩
   rw [ins_len hi] at hj
   obtain ⟨b1,b2,b3⟩:=ins_at (x:=x) hi j
   rw [Nat.zero_add]
   by_cases e1:j<i
   ·rw [b1 e1];exact a1 j e1
   ·by_cases e2:j=i
    ·rw [b2 e2,e2];exact a2
    ·rw [b3 (by omega)];exact a3 j (by omega) hj
  have hG1:=grownCap_ge w (L.length+1) cap 3
  have hG2:=grownCap_le_maxLen w (L.length+1) cap 3 (by unfold maxLen;omega)
  by_cases hin:i<L.length
  ·refine Calls.mono (Any2.slices_Insert_int_grow Tryz.lays21 g o L.length cap i vb 0 1 1 (mapI L) [.int .i64 x] w hin (by omega) h1 (by omega) (by omega) (mapI_len L) rfl hcs hvs (mapI_one L) hone) ?_
   rintro e w' ⟨rfl,rfl⟩
   have hdl:((mapI L).drop i).length=L.length-i:=by rw [List.length_drop,mapI_len]
   have htl:((mapI L).take i).length=i:=by rw [List.length_take,mapI_len];omega
   obtain ⟨ROW,hROW⟩:∃ ROW:Array Value,((mapI L).take i).toArray ++ Builtin.zeroCells (Value.int .i64 0).cells (L.length+1-i) ++ Builtin.zeroCells (Value.int .i64 0).cells (grownCap w (L.length+1) cap 3-(L.length+1))=ROW:=⟨_,rfl⟩
   have hRs:ROW.size=grownCap w (L.length+1) cap 3:=by
    rw [←hROW,Array.size_append,Array.size_append,size_zeroCells,size_zeroCells,List.size_toArray,htl]
    simp only [Value.cells,List.size_toArray,List.length_cons,List.length_nil]
    omega
   have hRt:∀ j,j<i→ROW[j]?=some (.int .i64 (L.getD j 0)):=fun j hj=>by
    rw [←hROW,Array.append_assoc,Array.getElem?_append_left (by rw [List.size_toArray,htl];exact hj),List.getElem?_toArray,List.getElem?_take_of_lt hj]
    unfold mapI
    rw [List.getElem?_map,List.getElem?_eq_getElem (by omega),List.getD_eq_getElem?_getD,List.getElem?_eq_getElem (by omega)]
    rfl
   show InsI w g i L x (.returned (.slice (some ⟨w.heap.size,0,none⟩) (L.length+1) (grownCap w (L.length+1) cap 3))) ((((w.alloc (.cells (((mapI L).take i).toArray ++ Builtin.zeroCells (Value.int .i64 0).cells (L.length+1-i) ++ Builtin.zeroCells (Value.int .i64 0).cells (grownCap w (L.length+1) cap 3-(L.length+1))) 3)).drew.setCells w.heap.size i [.int .i64 x]).drew).setCells w.heap.size (i+1) ((mapI L).drop i))
   rw [hROW]
   have hb0:((w.alloc (.cells ROW 3)).drew).heap[w.heap.size]?=some (.cells ROW 3 (0,0)):=heap_alloc_new w _
   obtain ⟨c1,hc1,hs1⟩:=setCells_ty [.int .i64 x] i ROW _ hb0
   obtain ⟨c2,hc2,hs2⟩:=setCells_ty ((mapI L).drop i) (i+1) c1 ((w.alloc (.cells ROW 3)).drew.setCells w.heap.size i [.int .i64 x]).drew hc1
   have hB0:Below w.heap.size w (w.alloc (.cells ROW 3)).drew:=by go_grown
   have hBs:∀ (w1:World) (vs:List Value) (k:Nat),Below w.heap.size w w1→Below w.heap.size w (w1.setCells w.heap.size k vs):=fun w1 vs k h=>by
    obtain ⟨e1,e2,e3⟩:=setCells_os w.heap.size vs k w1
    exact ⟨e1.trans h.os,e2.trans h.tape,e3.trans h.output,by rw [setCells_size];exact h.size,fun b hb=>by rw [setCells_off _ (Nat.ne_of_lt hb)];exact h.block b hb⟩
   have hB1:=hBs _ [.int .i64 x] i hB0
   have hsome:∀ (k:Nat),k<grownCap w (L.length+1) cap 3→((w.alloc (.cells ROW 3)).drew.cell? ⟨w.heap.size,k,none⟩).isSome=true:=fun k hk=>by
    rw [Lib.cell_of_heap hb0]
    simp [show k<ROW.size by omega]
   refine hnew _ _ hG1 hG2 (hBs _ _ _ (by exact below_drewN hB1 1)) ⟨c2,hc2,by omega⟩ (fun j hj=>?_) ?_ fun j e1 e2=>?_
   ·rw [World.cell?_setCells_out _ _ _ _ _ (fun _ _=>Or.inl (by show j<i+1;omega))]
    show ((w.alloc (.cells ROW 3)).drew.setCells w.heap.size i [.int .i64 x]).cell? _=_
    rw [World.cell?_setCells_out _ _ _ _ _ (fun _ _=>Or.inl (by show j<i;omega)),Lib.cell_of_heap hb0]
    exact hRt j hj
   ·rw [World.cell?_setCells_out _ _ _ _ _ (fun _ _=>Or.inl (by show i<i+1;omega))]
    show ((w.alloc (.cells ROW 3)).drew.setCells w.heap.size i [.int .i64 x]).cell? _=_
    have h:=World.cell?_setCells_in w.heap.size [.int .i64 x] i (w.alloc (.cells ROW 3)).drew (fun k hk=>by
     have hk0:k=0:=by simpa using hk
     subst hk0
     exact hsome _ (by omega)) 0 (by simp)
    simpa using h
   ·have h:=World.cell?_setCells_in w.heap.size ((mapI L).drop i) (i+1) ((w.alloc (.cells ROW 3)).drew.setCells w.heap.size i [.int .i64 x]).drew (fun k hk=>by
     rw [hdl] at hk
     show (((w.alloc (.cells ROW 3)).drew.setCells w.heap.size i [.int .i64 x]).cell? _).isSome=true
     rw [World.cell?_setCells_out _ _ _ _ _ (fun _ _=>Or.inr (by show i+1≤i+1+k;omega))]
     exact hsome _ (by omega)) (j-(i+1)) (by rw [hdl];omega)
    rw [show i+1+(j-(i+1))=j by omega] at h
    rw [h,List.getElem_drop]
    simp only [mapI,List.getElem_map,Option.some.injEq,Value.int.injEq,true_and]
    rw [List.getD_eq_getElem?_getD,List.getElem?_eq_getElem (by omega)]
    simp only [Option.getD_some]
    congr 1
    omega
  ·have hie:i=L.length:=by omega
   subst hie
   have hadd:∀ j,(⟨g,o,none⟩:Addr).add j=⟨g,o+j,none⟩:=fun j=>by unfold Addr.add;split <;> simp_all
   refine Calls.mono (Any2.slices_Insert_int_end_grow Tryz.lays21 (some ⟨g,o,none⟩) L.length cap vb 0 1 1 (mapI L) [.int .i64 x] w (by omega) h1 (by omega) (by omega) (mapI_len L) rfl (fun h=>by cases h) (fun a ha j v hj=>by
    cases ha
    rw [hadd]
    exact hcs j v hj) hvs hone) ?_
   rintro e w' ⟨rfl,rfl⟩
   obtain ⟨ROW,hROW⟩:∃ ROW:Array Value,(mapI L ++ [Value.int .i64 x]).toArray ++ Builtin.zeroCells (Value.int .i64 0).cells (grownCap w (L.length+1) cap 3-(L.length+1))=ROW:=⟨_,rfl⟩
   have hRs:ROW.size=grownCap w (L.length+1) cap 3:=by
    rw [←hROW,Array.size_append,size_zeroCells,List.size_toArray,List.length_append,mapI_len]
    simp only [Value.cells,List.size_toArray,List.length_cons,List.length_nil]
    omega
   show InsI w g L.length L x (.returned (.slice (some ⟨w.heap.size,0,none⟩) (L.length+1) (grownCap w (L.length+1) cap 3))) (w.drew.alloc (.cells ((mapI L ++ [Value.int .i64 x]).toArray ++ Builtin.zeroCells (Value.int .i64 0).cells (grownCap w (L.length+1) cap 3-(L.length+1))) 3))
   rw [hROW]
   have hb0:(w.drew.alloc (.cells ROW 3)).heap[w.heap.size]?=some (.cells ROW 3 (0,0)):=heap_alloc_new w.drew _
   have hat:∀ j,j<L.length+1→ROW[j]?=(mapI L ++ [Value.int .i64 x])[j]?:=fun j hj=>by
    rw [←hROW,Array.getElem?_append_left (by rw [List.size_toArray,List.length_append,mapI_len];simpa using hj),List.getElem?_toArray]
   refine hnew _ _ hG1 hG2 (by go_grown) ⟨ROW,hb0,hRs⟩ (fun j hj=>?_) ?_ fun j e1 e2=>by omega
   ·rw [Lib.cell_of_heap hb0,hat j (by omega),List.getElem?_append_left (by rw [mapI_len];exact hj)]
    unfold mapI
    rw [List.getElem?_map,List.getElem?_eq_getElem hj,List.getD_eq_getElem?_getD,List.getElem?_eq_getElem hj]
    rfl
   ·rw [Lib.cell_of_heap hb0,hat _ (by omega),List.getElem?_append_right (by rw [mapI_len];exact Nat.le_refl _),mapI_len,Nat.sub_self]
    rfl
end Go.Proofs.YtigkeokacagabafGreatDoor
namespace Go.Proofs.YtigkeokacagabafGreatDoor
open Go.ChangeShapes Go.WideShapes Go.ChangeAt Go.RowKit
set_option maxRecDepth 20000
structure QM (w:World) (B q gM gU N:Nat) (M:Nat→Int) (UV:Nat→Value) (UL:Nat→List Int) (R:Value) (RL:List Int):Prop where
 hq:w.heap[q]?=some (.cells #[.slice (some ⟨gM,0,none⟩) N N,.slice (some ⟨gU,0,none⟩) N N,R] 147 (0,0))
 hM:ValB w gM N 3 fun j=>.int .i64 (M j)
 hU:ValB w gU N 27 UV
 own:∀ j,j<N→w.ownsRow B 3 1 (UV j) (UL j).length (mapI (UL j))
 ready:w.ownsRow B 3 1 R RL.length (mapI RL)
 dM:∀ j,j<N→(UV j).ownBlock≠some gM
 dU:∀ i j,i<N→j<N→i≠j→∀ b,(UV i).ownBlock=some b→(UV j).ownBlock≠some b
 dR:R.ownBlock≠some gM
 dRU:∀ j,j<N→∀ b,R.ownBlock=some b→(UV j).ownBlock≠some b
 lq:B≤q
 lM:B≤gM
 lU:B≤gU
section
variable {w w':World} {B q gM gU N:Nat} {M:Nat→Int} {UV:Nat→Value} {UL:Nat→List Int} {R:Value} {RL:List Int}
theorem QM.ql (h:QM w B q gM gU N M UV UL R RL):q<w.heap.size:=(Array.getElem?_eq_some_iff.1 h.hq).1
theorem QM.later (h:QM w B q gM gU N M UV UL R RL) (hB:Below w.heap.size w w'):QM w' B q gM gU N M UV UL R RL :=
 ⟨(hB.block q h.ql).trans h.hq,h.hM.same (hB.block _ h.hM.lt),h.hU.same (hB.block _ h.hU.lt),fun j hj=>own_later (h.own j hj) hB,own_later h.ready hB,h.dM,h.dU,h.dR,h.dRU,h.lq,h.lM,h.lU⟩
theorem QM.cells (h:QM w B q gM gU N M UV UL R RL):w.cell? ⟨q,0,none⟩=some (.slice (some ⟨gM,0,none⟩) N N)∧w.cell? ⟨q,1,none⟩=some (.slice (some ⟨gU,0,none⟩) N N)∧w.cell? ⟨q,2,none⟩=some R∧w.frozen? ⟨q,2,none⟩=false :=
 ⟨by simp [World.cell?,h.hq],by simp [World.cell?,h.hq],by simp [World.cell?,h.hq],by simp [World.frozen?,h.hq]⟩
theorem QM.ne (h:QM w B q gM gU N M UV UL R RL):q≠gM∧q≠gU∧gM≠gU:=by
 refine ⟨fun e=>?_,fun e=>?_,fun e=>?_⟩
 ·have h1:=h.hq;rw [e,h.hM] at h1;simp at h1
 ·have h1:=h.hq;rw [e,h.hU] at h1;simp at h1
 ·have h1:=h.hM;unfold ValB at h1;rw [e,h.hU] at h1;simp at h1
theorem QM.off (h:QM w B q gM gU N M UV UL R RL) {b:Nat} {cur:Array Value} (hb:w.heap[b]?=some (.cells cur 3 (0,0))):b≠q∧b≠gU:=by
 refine ⟨fun e=>?_,h.hU.off hb row_ne_int'⟩
 rw [e,h.hq] at hb
 simp at hb
theorem QM.setM (h:QM w B q gM gU N M UV UL R RL) (m:Nat) (x:Int):QM (w.setCell ⟨gM,m,none⟩ (.int .i64 x)) B q gM gU N (fun j=>if j=m then x else M j) UV UL R RL:=by
 obtain ⟨n1,n2,n3⟩:=h.ne
 refine ⟨by rw [setCell_off _ _ _ _ _ n1];exact h.hq,?_,h.hU.same (setCell_off _ _ _ _ _ n3.symm),fun j hj=>own_setc (h.own j hj) (h.dM j hj),own_setc h.ready h.dR,h.dM,h.dU,h.dR,h.dRU,h.lq,h.lM,h.lU⟩
 refine h.hM.set (f':=fun j=>.int .i64 (if j=m then x else M j)) fun j _=>?_
 by_cases e:j=m
 ·simp only [if_pos e]
 ·simp only [if_neg e]
theorem QM.pushR (h:QM w B q gM gU N M UV UL R RL) {w4 w6:World} {L:List Int} {v:Value} {H:Nat} (h4:Below w.heap.size w w4) (hG:w4.grownBy w6 R.ownBlock) (hO:w6.ownsRow B 3 1 v L.length (mapI L)) (hat:v.ownBlock=R.ownBlock∨v.ownBlock=some H) (hH:w.heap.size≤H) :
  QM (w6.setCell ⟨q,2,none⟩ v) B q gM gU N M UV UL v L:=by
 obtain ⟨n1,n2,n3⟩:=h.ne
 have hr:=fun b (e:R.ownBlock=some b)=>own_blk h.ready e
 have hkeep:∀ b,b<w.heap.size→R.ownBlock≠some b→w6.heap[b]?=w.heap[b]?:=fun b hb hne=>(hG.block b (Nat.lt_of_lt_of_le hb h4.size) (fun e=>hne e.symm)).trans (h4.block b hb)
 have q1:R.ownBlock≠some q:=fun e=>by obtain ⟨-,-,cur,hc⟩:=hr q e;exact (h.off hc).1 rfl
 have q2:R.ownBlock≠some gU:=fun e=>by obtain ⟨-,-,cur,hc⟩:=hr gU e;exact (h.off hc).2 rfl
 have vq:v.ownBlock≠some q:=fun e=>by
  rcases hat with h1 | h1
  ·exact q1 (h1.symm.trans e)
  ·rw [h1] at e;have:=h.ql;simp at e;omega
 refine ⟨?_,(h.hM.same (hkeep _ h.hM.lt h.dR)).same (setCell_off _ _ _ _ _ n1.symm),(h.hU.same (hkeep _ h.hU.lt q2)).same (setCell_off _ _ _ _ _ n2.symm),fun j hj=>?_,own_setc hO vq,h.dM,h.dU,fun e=>?_,fun j hj b hb e=>?_,h.lq,h.lM,h.lU⟩
 ·have:=set_ty (k:=2) (v:=v) ((hkeep q h.ql q1).trans h.hq)
  simpa using this
 ·refine own_setc (own_grown (own_later (h.own j hj) h4) hG fun b hb e=>h.dRU j hj b e hb) fun e2=>?_
  obtain ⟨-,-,cur,hc⟩:=own_blk (h.own j hj) e2
  exact (h.off hc).1 rfl
 ·rcases hat with h1 | h1
  ·exact h.dR (h1.symm.trans e)
  ·rw [h1] at e;have:=h.hM.lt;simp at e;omega
 ·rcases hat with h1 | h1
  ·exact h.dRU j hj b (h1.symm.trans hb) e
  ·rw [h1] at hb
   have:=(own_blk (h.own j hj) e).2.1
   simp at hb
   omega
end
end Go.Proofs.YtigkeokacagabafGreatDoor
