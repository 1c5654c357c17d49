/-
  What Value and By of package solve answer, called in whatever memory.
-/
import Derived.Test.YtfgegmpoejilnaaGreatDoorJGBN
import Derived.Test.YtfgegmpoejilnaaGreatDoorJGBP
namespace Go.Proofs.YtfgegmpoejilnaaGreatDoor
open Go.ChangeShapes Go.WideShapes Go.ChangeAt Go.RowKit
set_option maxRecDepth 20000
noncomputable def soErr (D:Nat→Dm) (n:Nat) (l:List En) (p:List Int):Int:=if cuErr D n l≠0 then cuErr D n l else placeErr D n p
noncomputable def soV (D:Nat→Dm) (n:Nat) (l:List En) (p:List Int):Int×Int:=if soErr D n l p=0 then solV D n (getE l) p else (0,0)
set_option maxHeartbeats 8000000 in
theorem pvalue_any (A0:Option Addr) (cap n:Nat) (D:Nat→Dm) (A:Nat→Option Addr) (C:Nat→Nat) (AE:Option Addr) (ce:Nat) (xs:List EnL) (Ap:Option Addr) (cp:Nat) (p:List Int) (w:World) (hM:DimsV w A0 cap n D A C) (hEn:EnsV w AE ce xs) (hP:PlAt w Ap cp p) :
  Calls Tryz.prog 18 #[.agg #[.slice A0 n cap],.slice AE xs.length ce,.slice Ap p.length cp] w fun e w'=>e=.returned (.tuple #[.agg #[.int .i64 (soV D n (lE xs) p).1,.int .i64 (soV D n (lE xs) p).2],errV (soErr D n (lE xs) p)])∧Below w.heap.size w w':=by
 have hB0:=ownOC_below w A0 n cap
 have hS:=ownOC_size w A0 n cap
 have hA:=ownOC_o w A0 n cap
 have hk1:=ownOC_b w A0 n cap
 obtain ⟨W,hW⟩:∃ W,ownOC w A0 n cap=W:=⟨_,rfl⟩
 rw [hW] at hB0 hS hA hk1
 unfold ownOC ownOut at hW
 have HB0:Hid (Below w.heap.size w W):=hB0
 have hsz:w.heap.size<W.heap.size:=by omega
 have hsz1:w.heap.size+1<W.heap.size:=by omega
 have HA:Hid (W.cell? ⟨w.heap.size,0,none⟩=some (.slice A0 n cap)):=hA
 have HK:Hid (W.heap[w.heap.size+1]?=some (.cells #[.int .i64 0,.int .i64 0] 54 (0,0))):=hk1
 have HNum:Hid (∀ w',Below w.heap.size w w'→Calls Tryz.prog 19 #[.agg #[.slice A0 n cap],.slice Ap p.length cp] w' fun e w''=>e=.returned (.tuple #[.int .i64 (numV D n p),errV (placeErr D n p)])∧Below w'.heap.size w' w''):=fun w' hB=>pnumber_any A0 cap n D A C Ap cp p w' (hM.later hB) (hP.later hB)
 by_cases hr:(ruErr D n).2.2=0
 case neg =>
  have hl:=new_bad A0 cap n D A C W hr (hM.later hB0)
  have HE:Hid (soErr D n (lE xs) p=(ruErr D n).2.2∧soV D n (lE xs) p=(0,0)):=by
   have e1:cuErr D n (lE xs)=(ruErr D n).2.2:=by unfold cuErr;rw [if_pos hr]
   have e:soErr D n (lE xs) p=(ruErr D n).2.2:=by unfold soErr;rw [e1,if_pos hr]
   exact ⟨e,by unfold soV;rw [e,if_neg hr]⟩
  have HEr:Hid (errV (ruErr D n).2.2=.iface 95 (.int .i64 (ruErr D n).2.2)):=errV_some hr
  rw [errV_some hr] at hl
  generalize p.length=pl at HNum ⊢
  generalize xs.length=xl
  clear hM hP hB0 hr hS hEn hk1
  generalize (ruErr D n).2.2=z at hl HE HEr
  go_enter Tryz.func18,Tryz.ntmps18
  go_wp2_with fail
  refine hl.mono ?_
  rintro e w1 ⟨rfl,hb1⟩
  have HB1:Hid (Below w.heap.size w w1):=onB HB0.out hb1
  obtain ⟨e0,e1,g0,g1⟩:=pair_at ((hb1.block (w.heap.size+1) hsz1).trans HK.out)
  have hs1:w.heap.size+1<w1.heap.size:=Nat.lt_of_lt_of_le hsz1 hb1.size
  clear hb1 hl hA hW
  go_wp2_with fail
  refine bodyPost_ret (v:=.tuple #[.agg #[.int .i64 0,.int .i64 0],.iface 95 (.int .i64 z)]) (by simp [results,Tryz.results18,go_sem,e0,e1]) rfl ⟨by rw [HE.out.1,HE.out.2,HEr.out],?_⟩
  exact (HB1.out.setCell (by simp) _).setCell (by simp) _
 obtain ⟨hE,hR⟩:=ru_right hr
 have hl:=new_any A0 cap n D A C W hE hR (hM.later hB0)
 have hce:cuErr D n (lE xs)=entsErr D n (lE xs):=by unfold cuErr;rw [if_neg (by simpa using hr)]
 by_cases he:entsErr D n (lE xs)=0
 case neg =>
  have HE:Hid (soErr D n (lE xs) p=entsErr D n (lE xs)∧soV D n (lE xs) p=(0,0)):=by
   have e:soErr D n (lE xs) p=entsErr D n (lE xs):=by unfold soErr;rw [hce,if_pos he]
   exact ⟨e,by unfold soV;rw [e,if_neg he]⟩
  have HEr:Hid (errV (entsErr D n (lE xs))=.iface 95 (.int .i64 (entsErr D n (lE xs)))):=errV_some he
  have HCe:Hid (∀ w',Below w.heap.size w w'→Calls Tryz.prog 27 #[.agg #[.slice A0 n cap],.slice AE xs.length ce] w' fun e w''=>(∃ A' c',e=.returned (.tuple #[.slice A' 0 c',.iface 95 (.int .i64 (entsErr D n (lE xs)))]))∧Below w'.heap.size w' w''):=fun w' hB=>fcells_bad A0 cap n D A C AE ce xs w' (hM.later hB) (hEn.later hB) he
  generalize p.length=pl at HNum ⊢
  generalize xs.length=xl at HCe ⊢
  generalize entsErr D n (lE xs)=z at HE HEr HCe
  clear hM hP hB0 hr hS hEn hk1 hE hR he hce
  go_enter Tryz.func18,Tryz.ntmps18
  go_wp2_with fail
  refine hl.mono ?_
  rintro e w1 ⟨⟨qp,g,X,rfl,-,-,-⟩,hb1⟩
  have HB1:Hid (Below W.heap.size W w1):=hb1
  have c1:=(hb1.cell (p:=⟨w.heap.size,0,none⟩) hsz).trans HA.out
  have hs1:w.heap.size<w1.heap.size:=Nat.lt_of_lt_of_le hsz hb1.size
  clear hb1 hl hA hW
  go_wp2_with fail
  refine (HCe.out w1 (onB HB0.out HB1.out)).mono ?_
  rintro e w2 ⟨⟨A2,c2,rfl⟩,hb2⟩
  have HB2:Hid (Below w.heap.size w w2):=onB (onB HB0.out HB1.out) hb2
  obtain ⟨e0,e1,g0,g1⟩:=pair_at (((onB HB1.out hb2).block (w.heap.size+1) hsz1).trans HK.out)
  have hs2:w.heap.size+1<w2.heap.size:=Nat.lt_of_lt_of_le hsz1 (onB HB1.out hb2).size
  clear hb2 c1
  go_wp2_with fail
  refine bodyPost_ret (v:=.tuple #[.agg #[.int .i64 0,.int .i64 0],.iface 95 (.int .i64 z)]) (by simp [results,Tryz.results18,go_sem,e0,e1]) rfl ⟨by rw [HE.out.1,HE.out.2,HEr.out],?_⟩
  exact (HB2.out.setCell (by simp) _).setCell (by simp) _
 have hEs:=ens_of he
 have HCe:Hid (∀ w',Below w.heap.size w w'→Calls Tryz.prog 27 #[.agg #[.slice A0 n cap],.slice AE xs.length ce] w' fun e w''=>(∃ g,e=.returned (.tuple #[.slice (some ⟨g,0,none⟩) (prodN D n) (prodN D n),.nilIface])∧w'.heap.size≤g∧CelB w'' g (wrV D n (lE xs)))∧Below w'.heap.size w' w''):=fun w' hB=>fcells_own A0 cap n D A C AE ce xs w' (hM.later hB) (hEn.later hB) he
 have HSE:Hid (soErr D n (lE xs) p=placeErr D n p):=by show _=_;unfold soErr;rw [hce,if_neg (by simpa using he)]
 obtain ⟨N,hN⟩:∃ N,prodN D n=N:=⟨_,rfl⟩
 have HN:Hid (prodN D n=N):=hN
 obtain ⟨-,-,hp3,-⟩:=allErr_some hE
 rw [hN] at HCe hp3
 have hNI:(N:Int)≤3000:=by omega
 by_cases hp:placeErr D n p=0
 case neg =>
  have HE:Hid (soV D n (lE xs) p=(0,0)):=by show _=_;unfold soV;rw [HSE.out,if_neg hp]
  have HEr:Hid (errV (placeErr D n p)=.iface 95 (.int .i64 (placeErr D n p))):=errV_some hp
  rw [errV_some hp] at HNum
  generalize p.length=pl at HNum ⊢
  generalize xs.length=xl at HCe ⊢
  generalize placeErr D n p=z at HNum HSE HEr
  generalize numV D n p=nv at HNum
  clear hM hP hB0 hr hS hEn hk1 hE hR he hce hp hEs hN
  go_enter Tryz.func18,Tryz.ntmps18
  go_wp2_with fail
  refine hl.mono ?_
  rintro e w1 ⟨⟨qp,g,X,rfl,-,-,-⟩,hb1⟩
  have HB1:Hid (Below W.heap.size W w1):=hb1
  have c1:=(hb1.cell (p:=⟨w.heap.size,0,none⟩) hsz).trans HA.out
  have hs1:w.heap.size<w1.heap.size:=Nat.lt_of_lt_of_le hsz hb1.size
  clear hb1 hl hA hW
  go_wp2_with fail
  refine (HCe.out w1 (onB HB0.out HB1.out)).mono ?_
  rintro e w2 ⟨⟨gC,rfl,-,-⟩,hb2⟩
  have HB2:Hid (Below W.heap.size W w2):=onB HB1.out hb2
  have c2:=(hb2.cell (p:=⟨w.heap.size,0,none⟩) hs1).trans c1
  have hs2:w.heap.size<w2.heap.size:=Nat.lt_of_lt_of_le hs1 hb2.size
  clear hb2 c1
  go_wp2_with fail
  refine (HNum.out w2 (onB HB0.out HB2.out)).mono ?_
  rintro e w3 ⟨rfl,hb3⟩
  have HB3:Hid (Below w.heap.size w w3):=onB (onB HB0.out HB2.out) hb3
  obtain ⟨e0,e1,g0,g1⟩:=pair_at (((onB HB2.out hb3).block (w.heap.size+1) hsz1).trans HK.out)
  have hs3:w.heap.size+1<w3.heap.size:=Nat.lt_of_lt_of_le hsz1 (onB HB2.out hb3).size
  clear hb3 c2
  go_wp2_with fail
  refine bodyPost_ret (v:=.tuple #[.agg #[.int .i64 0,.int .i64 0],.iface 95 (.int .i64 z)]) (by simp [results,Tryz.results18,go_sem,e0,e1]) rfl ⟨by rw [HE.out,HSE.out,HEr.out],?_⟩
  exact (HB3.out.setCell (by simp) _).setCell (by simp) _
 obtain ⟨x,hx1,hx2,hx3⟩:=num_lt (inO_of hp)
 have hnv:numV D n p=(x:Int):=by unfold numV;rw [if_pos hp,hx1]
 have HE:Hid (soErr D n (lE xs) p=0∧soV D n (lE xs) p=solV D n (getE (lE xs)) p):=⟨by rw [HSE.out,hp],by unfold soV;rw [HSE.out,if_pos hp]⟩
 rw [hp,hnv,errV_zero] at HNum
 have HAt:Hid (∀ wB qc qp g gC gT X f w',CtxA wB qc qp g n gC N gT D X (getE (lE xs))→StC wB qc qp n gC N gT D (getE (lE xs)) f w'→Calls Tryz.prog 37 #[.pointer (some ⟨qc,0,none⟩),.int .i64 x] w' fun e w2=>e=.returned .nilIface∧(Below wB.heap.size wB w2∧w2.cell? ⟨qc,1,none⟩=some (.slice (some ⟨gC,0,none⟩) N N)∧w2.cell? ⟨gC,x*2,none⟩=some (.int .i64 (solV D n (getE (lE xs)) p).1)∧w2.cell? ⟨gC,x*2+1,none⟩=some (.int .i64 (solV D n (getE (lE xs)) p).2)∧qc<w2.heap.size∧gC<w2.heap.size)):=fun wB qc qp g gC gT X f w' hX hSt=>by
  refine (ctell_all hX _ x f w' hx2 (Nat.lt_succ_self _) hSt).mono ?_
  rintro e w2 ⟨rfl,f2,hS2,-,hf2,-⟩
  obtain ⟨-,c1,-⟩:=hS2.cells
  obtain ⟨l1,l2,-,-⟩:=hS2.lts
  obtain ⟨hBB,-,L,hCL,hLl,-,hIn⟩:=hS2
  obtain ⟨k0,k1⟩:=hCL.at (k:=x) (by omega)
  rw [(hIn x hx2).1 hf2,hx3] at k0 k1
  rw [hN] at c1
  exact ⟨rfl,hBB,c1,k0,k1,l1,l2⟩
 have HCtx:Hid (∀ wB qc qp g gC gT X,PlanV wB qp g n D X→wB.heap.size≤qc→wB.heap.size≤gC→wB.heap.size≤gT→CtxA wB qc qp g n gC N gT D X (getE (lE xs))):=fun wB qc qp g gC gT X h1 h2 h3 h4=>⟨hE,hR,h1,good_getE hEs,h2,h3,h4,by rw [hN];exact Nat.le_refl _,hp3⟩
 have HWr:Hid (∀ j,j<N→(wrV D n (lE xs)).getD j noC=getE (lE xs) (placeL D n j)):=fun j hj=>wr_at hEs (by rw [hN];exact hj)
 have hmk:=run_make_bols N hp3
 generalize p.length=pl at HNum ⊢
 generalize xs.length=xl at HCe ⊢
 obtain ⟨⟨ra,rb⟩,hR2⟩:∃ R,solV D n (getE (lE xs)) p=R:=⟨_,rfl⟩
 rw [hR2] at HE HAt
 simp only at HAt
 have hxI:(x:Int)<(N:Int):=by omega
 clear hM hP hB0 hr hS hEn hk1 hE hR he hce hp hEs hN hnv hx1 hx2 hx3 hR2
 go_enter Tryz.func18,Tryz.ntmps18
 go_wp2_with fail
 refine hl.mono ?_
 rintro e w1 ⟨⟨qp,g,X,rfl,-,-,hAx⟩,hb1⟩
 have HAx:Hid (PlanV w1 qp g n D X):=hAx
 have HB1:Hid (Below W.heap.size W w1):=hb1
 have c1:=(hb1.cell (p:=⟨w.heap.size,0,none⟩) hsz).trans HA.out
 have hs1:w.heap.size<w1.heap.size:=Nat.lt_of_lt_of_le hsz hb1.size
 clear hb1 hl hA hW hAx
 go_wp2_with fail
 refine (HCe.out w1 (onB HB0.out HB1.out)).mono ?_
 rintro e w2 ⟨⟨gC,rfl,hgC,hCb⟩,hb2⟩
 have HB2:Hid (Below w1.heap.size w1 w2):=hb2
 have HCb:Hid (CelB w2 gC (wrV D n (lE xs))):=hCb
 have c2:=(hb2.cell (p:=⟨w.heap.size,0,none⟩) hs1).trans c1
 have hs2:w.heap.size<w2.heap.size:=Nat.lt_of_lt_of_le hs1 hb2.size
 clear hb2 c1 hCb
 go_wp2_with fail
 refine (HNum.out w2 (onB HB0.out (onB HB1.out HB2.out))).mono ?_
 rintro e w3 ⟨rfl,hb3⟩
 have HB3:Hid (Below w1.heap.size w1 w3):=onB HB2.out hb3
 have HC3:Hid (CelB w3 gC (wrV D n (lE xs))):=HCb.out.later hb3
 obtain ⟨y,hy⟩:∃ y,w3.alloc (.cells (madeCells #[.bool false] N) 4)=y:=⟨_,rfl⟩
 have hBy:Below w3.heap.size w3 y:=by rw [←hy];go_grown
 have HTb:Hid (BolB y w3.heap.size N fun _=>false):=by rw [←hy];exact BolB.made w3 N
 obtain ⟨z,hz⟩:∃ z,y.alloc (.cells #[.pointer (some ⟨qp,0,none⟩),.slice (some ⟨gC,0,none⟩) N N,.slice (some ⟨w3.heap.size,0,none⟩) N N] 91)=z:=⟨_,rfl⟩
 have hBz:Below y.heap.size y z:=by rw [←hz];go_grown
 have hqz:z.heap[y.heap.size]?=some (.cells #[.pointer (some ⟨qp,0,none⟩),.slice (some ⟨gC,0,none⟩) N N,.slice (some ⟨w3.heap.size,0,none⟩) N N] 91 (0,0)):=by rw [←hz];exact heap_alloc_new ..
 have hysz:y.heap.size=w3.heap.size+1:=by rw [←hy];simp
 have HYs:Hid (y.heap.size=w3.heap.size+1):=hysz
 have hs13:=HB3.out.size
 have HSt:Hid (StC w1 y.heap.size qp n gC N w3.heap.size D (getE (lE xs)) (fun _=>false) z):=by
  refine ⟨onB HB3.out (onB hBy hBz),by rw [HN.out];exact hqz,wrV D n (lE xs),HC3.out.later (onB hBy hBz),wrV_len ..,by rw [HN.out];exact HTb.out.later hBz,fun j hj=>⟨fun h=>(by cases h),fun _=>HWr.out j (by rw [←HN.out];exact hj)⟩⟩
 have hat:=HAt.out w1 y.heap.size qp g gC w3.heap.size X _ z (HCtx.out w1 y.heap.size qp g gC w3.heap.size X HAx.out (by omega) hgC (by omega)) HSt.out
 have HBz:Hid (Below w1.heap.size w1 z):=onB HB3.out (onB hBy hBz)
 clear hb3 c2 hBy hBz hqz HAt HCtx HWr hysz
 go_wp2_with fail
 refine hat.mono ?_
 rintro e w5 ⟨rfl,hlow,k1,k2,k3,kq,kC⟩
 have HB5:Hid (Below W.heap.size W w5):=onB HB1.out hlow
 obtain ⟨e0,e1,g0,g1⟩:=pair_at ((HB5.out.block (w.heap.size+1) hsz1).trans HK.out)
 have hs5:w.heap.size+1<w5.heap.size:=Nat.lt_of_lt_of_le hsz1 HB5.out.size
 clear hlow hat hy hz hmk
 go_wp2_with fail
 refine bodyPost_ret (v:=.tuple #[.agg #[.int .i64 ra,.int .i64 rb],.nilIface]) (by simp [results,Tryz.results18,go_sem,e0,e1]) rfl ⟨by rw [HE.out.1,HE.out.2];rfl,?_⟩
 exact ((onB HB0.out HB5.out).setCell (by simp) _).setCell (by simp) _
section
variable {D:Nat→Dm} {n dim:Nat} (hp:∀ i,i<n→1≤(D i).n) (hd:dim<n) (ht:Tr (D dim).mem (D dim).n)
include hp hd ht
theorem atP_same {m:Nat} {L L':List (Int×Int)} {y:Nat} (hy:y<prodN D n) (hm:y / stepD D n dim % (D dim).n=m) (h:∀ z,z<prodN D n→m<z / stepD D n dim % (D dim).n→L'.getD z (0,0)=L.getD z (0,0)):∀ k∈partsOf (D dim).mem (D dim).n (m:Int),atP D n dim m y L' k=atP D n dim m y L k:=fun k hk=>by
 obtain ⟨j,rfl,h1,h2,-⟩:=part_behind ht hk
 obtain ⟨z,hz,hzl,hzd,-⟩:=part_place hp hd hy hm h2
 unfold atP cAt
 rw [hz]
 exact h z hzl (by rw [hzd];exact h1)
theorem pass_get {m:Nat} {L:List (Int×Int)} (hL:L.length=prodN D n):∀ k,k≤L.length→∀ y,y<L.length→(passTo D n dim m L k).getD y (0,0)=if y<k∧y / stepD D n dim % (D dim).n=m then partsV (D dim).mem (atP D n dim m y L) (partsOf (D dim).mem (D dim).n m) else L.getD y (0,0)
 | 0,_,y,_=>by rw [passTo,if_neg (by omega)]
 | k+1,hk,y,hy=>by
  have ih:=pass_get hL (m:=m) k (by omega)
  rw [passTo]
  by_cases hm:k / stepD D n dim % (D dim).n=m
  ·rw [if_pos hm,getD_set (by rw [pass_len];omega)]
   by_cases e:y=k
   ·subst e
    rw [if_pos rfl,if_pos ⟨by omega,hm⟩]
    unfold partsV
    exact parts_same _ _ (atP_same hp hd ht (by omega) hm fun z hz hzm=>by rw [ih z (by omega),if_neg (by omega)])
   ·rw [if_neg e,ih y hy]
    by_cases h1:y<k∧y / stepD D n dim % (D dim).n=m
    ·rw [if_pos h1,if_pos ⟨by omega,h1.2⟩]
    ·rw [if_neg h1,if_neg (by omega)]
  ·rw [if_neg hm,ih y hy]
   by_cases h1:y<k∧y / stepD D n dim % (D dim).n=m
   ·rw [if_pos h1,if_pos ⟨by omega,h1.2⟩]
   ·rw [if_neg h1,if_neg]
    rintro ⟨h2,h3⟩
    by_cases e:y=k
    ·exact hm (by rw [←e];exact h3)
    ·exact h1 ⟨by omega,h3⟩
theorem mbr_get {m:Nat} {L:List (Int×Int)} (hL:L.length=prodN D n) {y:Nat} (hy:y<L.length):(mbrV D n dim m L).getD y (0,0)=if partsOf (D dim).mem (D dim).n (m:Int)≠[]∧y / stepD D n dim % (D dim).n=m then partsV (D dim).mem (atP D n dim m y L) (partsOf (D dim).mem (D dim).n m) else L.getD y (0,0):=by
 unfold mbrV
 by_cases h:partsOf (D dim).mem (D dim).n (m:Int)=[]
 ·rw [if_pos h,if_neg (by simp [h])]
 ·rw [if_neg h,pass_get hp hd ht hL _ (Nat.le_refl _) y hy]
  by_cases h1:y / stepD D n dim % (D dim).n=m
  ·rw [if_pos ⟨hy,h1⟩,if_pos ⟨h,h1⟩]
  ·rw [if_neg (by omega),if_neg (by simp [h1])]
end
end Go.Proofs.YtfgegmpoejilnaaGreatDoor
namespace Go.Proofs.YtfgegmpoejilnaaGreatDoor
set_option maxRecDepth 20000
section
variable {D:Nat→Dm} {n dim:Nat} {l:List En} (hE:Ens D n l) (hd:dim<n) {S:Nat→Bool}
include hE hd
theorem once_gL (hS:S dim=false):onceV D n dim (gL D n S l)=gL D n (addS S dim) l:=by
 have hR:=hE.right
 obtain ⟨-,-,hp3,hdn⟩:=allErr_some hR
 have hdk:=(allErr_right hR).2 dim hd
 have hpos:∀ i,i<n→1≤(D i).n:=fun i hi=>(hdn i hi).1
 have ht:=Tr.of hdk
 have key:∀ r,r≤(D dim).n→∀ y,y<prodN D n→(onceTo D n dim (gL D n S l) r).getD y (0,0)=if (D dim).n-r≤y / stepD D n dim % (D dim).n then (gL D n (addS S dim) l).getD y (0,0) else (gL D n S l).getD y (0,0):=by
  intro r
  induction r with
  | zero =>
   intro _ y _
   have:=Nat.mod_lt (y / stepD D n dim) (hpos dim hd)
   rw [onceTo,if_neg (by omega)]
  | succ r ih =>
   intro hr y hy
   have hlen:(onceTo D n dim (gL D n S l) r).length=prodN D n:=by rw [once_len,gL_len]
   have hmod:=Nat.mod_lt (y / stepD D n dim) (hpos dim hd)
   rw [onceTo,mbr_get hpos hd ht hlen (by omega)]
   by_cases hm:y / stepD D n dim % (D dim).n=(D dim).n-1-r
   ·rw [if_pos (show (D dim).n-(r+1)≤y / stepD D n dim % (D dim).n by omega)]
    by_cases hP:partsOf (D dim).mem (D dim).n (((D dim).n-1-r:Nat):Int)=[]
    ·rw [if_neg (by simp [hP]),ih (by omega) y hy,if_neg (by omega),gL_at hy,gL_at hy]
     exact (gV_congr fun e he=>gw_bare hE hd hS he (m:=(D dim).n-1-r) (by omega) (by rw [placeL_at hd,digit_step hd,hm]) hP).symm
    ·rw [if_pos ⟨hP,hm⟩,gL_fix hE hd (S:=S) y (by rw [gL_len];exact hy) hm hP]
     unfold partsV
     exact parts_same _ _ (atP_same hpos hd ht hy hm fun z hz hzm=>by rw [ih (by omega) z hz,if_pos (by omega)])
   ·rw [if_neg (fun h=>hm h.2),ih (by omega) y hy]
    by_cases h1:(D dim).n-r≤y / stepD D n dim % (D dim).n
    ·rw [if_pos h1,if_pos (by omega)]
    ·rw [if_neg h1,if_neg (by omega)]
 refine list_same (by unfold onceV;rw [once_len,gL_len,gL_len]) fun y hy=>?_
 have hy':y<prodN D n:=by unfold onceV at hy;rw [once_len,gL_len] at hy;exact hy
 have:=key (D dim).n (Nat.le_refl _) y hy'
 rw [if_pos (by omega)] at this
 exact this
end
theorem gL_congr {D:Nat→Dm} {n:Nat} {l:List En} {S S':Nat→Bool} (h:∀ j,j<n→S j=S' j):gL D n S l=gL D n S' l:=by
 unfold gL
 apply List.map_congr_left
 intro x _
 exact gV_congr fun e _=>gw_congr n fun j hj=>by unfold facS;rw [h j hj]
theorem fold_gL {D:Nat→Dm} {n:Nat} {l:List En} (hE:Ens D n l):∀ (O:List Int) (S:Nat→Bool),O.Nodup→(∀ d∈O,∃ j:Nat,d=j∧j<n∧S j=false)→foldO D n (gL D n S l) O=gL D n (fun j=>S j || decide ((j:Int)∈O)) l
 | [],S,_,_=>by
  unfold foldO
  exact gL_congr fun j _=>by simp
 | d :: r,S,hn,hO=>by
  obtain ⟨j,rfl,hj,hSj⟩:=hO d (List.mem_cons_self ..)
  have hn':=List.nodup_cons.1 hn
  have h1:foldO D n (gL D n S l) ((j:Int) :: r)=foldO D n (gL D n (addS S j) l) r:=by
   unfold foldO
   rw [List.foldl_cons,show ((j:Int)).toNat=j by omega,once_gL hE hj hSj]
  rw [h1,fold_gL hE r (addS S j) hn'.2 fun d hd=>?_]
  ·refine gL_congr fun i _=>?_
   unfold addS
   by_cases e:i=j
   ·subst e;simp
   ·have e':decide ((i:Int)=(j:Int))=false:=decide_eq_false (by omega)
    simp [e,e']
  ·obtain ⟨i,rfl,hi,hSi⟩:=hO d (List.mem_cons_of_mem _ hd)
   refine ⟨i,rfl,hi,?_⟩
   unfold addS
   have:i≠j:=fun e=>hn'.1 (by rw [←e];exact hd)
   simp [hSi,this]
def rollL (D:Nat→Dm) (n:Nat) (l:List En):List (Int×Int):=(List.range (prodN D n)).map fun x=>rollV D n l (placeL D n x)
theorem fold_all {D:Nat→Dm} {n:Nat} {l:List En} (hE:Ens D n l) {O:List Int} (hO:eachB n O=true):foldO D n (wrV D n l) O=rollL D n l:=by
 have hp:=each_perm hO
 rw [wr_gL hE,fold_gL hE O _ (hp.nodup_iff.2 (rangeI_nodup n)) fun d hd=>by obtain ⟨j,h1,h2⟩:=(each_in hO).2 d hd;exact ⟨j,h1,h2,rfl⟩]
 unfold gL rollL
 apply List.map_congr_left
 intro x _
 exact gV_all (fun j hj=>by
  have:(j:Int)∈O:=hp.mem_iff.2 (by simp only [rangeI,List.mem_map,List.mem_range];exact ⟨j,hj,rfl⟩)
  simp [this]) l _
theorem rollL_at {D:Nat→Dm} {n:Nat} {l:List En} {p:List Int} (hp:InO D n p):(rollL D n l).getD (numI D p n).toNat (0,0)=rollV D n l p∧(numI D p n).toNat<prodN D n:=by
 obtain ⟨h1,h2,-⟩:=numI_bound hp (Nat.le_refl n)
 have h3:(numI D p n).toNat<prodN D n:=by omega
 refine ⟨?_,h3⟩
 simp [rollL,List.getD,h3,place_num hp]
end Go.Proofs.YtfgegmpoejilnaaGreatDoor
namespace Go.Proofs.YtfgegmpoejilnaaGreatDoor
open Go.ChangeShapes Go.WideShapes Go.ChangeAt Go.RowKit
set_option maxRecDepth 20000
theorem cex_cu:cuErr ndmO 1 [⟨[1],7⟩]=0:=by
 unfold cuErr
 rw [ndm_ru,if_neg (by simp)]
 decide +kernel
theorem cex_len:(caL ndmO 1 [⟨[1],7⟩]).length=2:=by rw [caL_len cex_cu,ndm_prod]
theorem cex_at:(caL ndmO 1 [⟨[1],7⟩]).getD 0 noC=(1,7):=by
 rw [caL_at cex_cu (by rw [ndm_prod];omega)]
 decide +kernel
def cexW (w:World):World:=((((w.alloc (.cells #[.string ⟨#[98]⟩,.int .i64 (-1),.int .i64 0,.string ⟨#[]⟩,.string ⟨#[99]⟩,.int .i64 0,.int .i64 1,.string ⟨#[]⟩] 27)).alloc (.cells #[.string ⟨#[97]⟩,.int .i64 0,.slice (some ⟨w.heap.size,0,none⟩) 2 2] 30)).alloc (.cells #[.slice (some ⟨w.heap.size+1,0,none⟩) 1 1] 24)).alloc (.cells #[.int .i64 1] 3)).alloc (.cells #[.slice (some ⟨w.heap.size+3,0,none⟩) 1 1,.int .i64 7] 63)
theorem cexW_below (w:World):Below w.heap.size w (cexW w):=by unfold cexW;go_grown
theorem cexW_dims (w:World):DimsV (cexW w) (some ⟨w.heap.size+1,0,none⟩) 1 1 ndmO (fun _=>some ⟨w.heap.size,0,none⟩) (fun _=>2):=by
 have k0:(cexW w).heap[w.heap.size]?=some (.cells #[.string ⟨#[98]⟩,.int .i64 (-1),.int .i64 0,.string ⟨#[]⟩,.string ⟨#[99]⟩,.int .i64 0,.int .i64 1,.string ⟨#[]⟩] 27 (0,0)):=by unfold cexW;exact eachO (eachO (eachO (eachO (eachN rfl))))
 have k1:(cexW w).heap[w.heap.size+1]?=some (.cells #[.string ⟨#[97]⟩,.int .i64 0,.slice (some ⟨w.heap.size,0,none⟩) 2 2] 30 (0,0)):=by unfold cexW;exact eachO (eachO (eachO (eachN (by simp))))
 refine ⟨Nat.le_refl _,Or.inr ⟨w.heap.size+1,0,rfl,(Array.getElem?_eq_some_iff.1 k1).1,fun i hi=>?_⟩⟩
 have hi0:i=0:=by omega
 subst hi0
 refine ⟨(Lib.cell_of_heap k1 0).trans rfl,(Lib.cell_of_heap k1 1).trans rfl,(Lib.cell_of_heap k1 2).trans rfl,Nat.le_refl _,Or.inr ⟨w.heap.size,0,rfl,(Array.getElem?_eq_some_iff.1 k0).1,fun j hj=>?_⟩⟩
 have hj2:j<2:=hj
 rcases j with _ | _ | j
 ·exact ⟨(Lib.cell_of_heap k0 0).trans rfl,(Lib.cell_of_heap k0 1).trans rfl,(Lib.cell_of_heap k0 2).trans rfl,(Lib.cell_of_heap k0 3).trans rfl⟩
 ·exact ⟨(Lib.cell_of_heap k0 4).trans rfl,(Lib.cell_of_heap k0 5).trans rfl,(Lib.cell_of_heap k0 6).trans rfl,(Lib.cell_of_heap k0 7).trans rfl⟩
 ·omega
def cexX (w:World):List EnL:=[⟨⟨[1],7⟩,some ⟨w.heap.size+3,0,none⟩,1⟩]
theorem cexW_ens (w:World):EnsV (cexW w) (some ⟨w.heap.size+4,0,none⟩) 1 (cexX w):=by
 have k3:IntB (cexW w) (w.heap.size+3) [1]:=by unfold IntB cexW;exact eachO (eachN (by simp))
 have k4:(cexW w).heap[w.heap.size+4]?=some (.cells #[.slice (some ⟨w.heap.size+3,0,none⟩) 1 1,.int .i64 7] 63 (0,0)):=by unfold cexW;exact eachN (by simp)
 refine ⟨Nat.le_refl _,by decide,Or.inr ⟨w.heap.size+4,0,rfl,(Array.getElem?_eq_some_iff.1 k4).1,fun j u hj=>?_,fun x hx=>?_⟩⟩
 ·rw [Nat.zero_add,Lib.cell_of_heap k4,←hj]
  simp [cexX,cellsE]
 ·simp only [cexX,List.mem_cons,List.not_mem_nil,or_false] at hx
  rw [hx]
  exact k3.pl
theorem keepT2 {w1 w':World} {b o:Nat} {u v:Value} (h:b<w1.heap.size∧w1.cell? ⟨b,o,none⟩=some u∧w1.cell? ⟨b,o+1,none⟩=some v) (hB:Below w1.heap.size w1 w'):Below w1.heap.size w1 w'∧w'.cell? ⟨b,o,none⟩=some u∧w'.cell? ⟨b,o+1,none⟩=some v:=⟨hB,(hB.cell (p:=⟨b,o,none⟩) h.1).trans h.2.1,(hB.cell (p:=⟨b,o+1,none⟩) h.1).trans h.2.2⟩
set_option maxHeartbeats 8000000 in
theorem topone_any (w:World):Calls Tryz.prog 16 #[] w fun e w'=>e=.returned (.bool true)∧Below w.heap.size w w':=by
 have hcl:=call_any (some ⟨w.heap.size+1,0,none⟩) 1 1 ndmO (fun _=>some ⟨w.heap.size,0,none⟩) (fun _=>2) (some ⟨w.heap.size+4,0,none⟩) 1 (cexX w) (cexW w) (cexW_dims w) (cexW_ens w)
 have hlp:lE (cexX w)=[⟨[1],7⟩]:=rfl
 have hlx:(cexX w).length=1:=rfl
 rw [hlp,cex_cu,cex_len,errV_zero,hlx] at hcl
 have HCx:Hid (∀ A' c' w',CelV w' A' c' (caL ndmO 1 [⟨[1],7⟩])→∃ b o,A'=some ⟨b,o,none⟩∧2≤c'∧b<w'.heap.size∧w'.cell? ⟨b,o,none⟩=some (.int .i64 1)∧w'.cell? ⟨b,o+1,none⟩=some (.int .i64 7)):=fun A' c' w' h=>by
  obtain ⟨h1,-,h0 | ⟨b,o,h2,h3,h4⟩⟩:=h
  ·have:=cex_len;rw [h0] at this;simp at this
  ·obtain ⟨x0,x1⟩:=h4 0 (by rw [cex_len];omega)
   rw [cex_at] at x0 x1
   rw [cex_len] at h1
   exact ⟨b,o,h2,h1,h3,by simpa using x0,by simpa using x1⟩
 have hBW:=cexW_below w
 have hko:(cexW w).cell? ⟨w.heap.size+2,0,none⟩=some (.slice (some ⟨w.heap.size+1,0,none⟩) 1 1):=by
  have k2:(cexW w).heap[w.heap.size+2]?=some (.cells #[.slice (some ⟨w.heap.size+1,0,none⟩) 1 1] 24 (0,0)):=by unfold cexW;exact eachO (eachO (eachN (by simp)))
  exact (Lib.cell_of_heap k2 0).trans rfl
 obtain ⟨W1,hW1⟩:∃ W1,cexW w=W1:=⟨_,rfl⟩
 rw [hW1] at hcl hBW hko
 unfold cexW at hW1
 rw [show w.heap.size+3=w.heap.size+1+1+1 from rfl] at hW1
 rw [show w.heap.size+4=w.heap.size+1+1+1+1 from rfl] at hcl
 rw [show w.heap.size+2=w.heap.size+1+1 from rfl] at hko
 have HBW:Hid (Below w.heap.size w W1):=hBW
 have hof:=fun w'=>of_any 7 w'
 rw [show ofP 7=(1,7) from rfl] at hof
 have HOF7:Hid (∀ w',Calls Tryz.prog 15 #[.int .i64 7] w' fun e w''=>e=.returned (.agg #[.int .i64 1,.int .i64 7])∧Below w'.heap.size w' w''):=hof
 clear hof hlp hlx hBW
 go_enter Tryz.func16,Tryz.ntmps16
 go_wp2_with fail
 refine hcl.mono ?_
 rintro e w1 ⟨⟨A1,c1,rfl,hC1⟩,hb1⟩
 have HB1:Hid (Below w.heap.size w w1):=onB HBW.out hb1
 obtain ⟨bF,oF,rfl,hcF,hbF,f1,f2⟩:=HCx.out A1 c1 w1 hC1
 have HK:Hid (bF<w1.heap.size∧w1.cell? ⟨bF,oF,none⟩=some (.int .i64 1)∧w1.cell? ⟨bF,oF+1,none⟩=some (.int .i64 7)):=⟨hbF,f1,f2⟩
 clear hcl hb1 hko hW1 hC1 f1 f2 hbF HCx
 go_wp2_with fail
 go_region_held3 (fun w'=>Below w1.heap.size w1 w'∧w'.cell? ⟨bF,oF,none⟩=some (.int .i64 1)∧w'.cell? ⟨bF,oF+1,none⟩=some (.int .i64 7))
  ((refine keepT2 HK.out ?_;go_grown;done))
  (first | (go_at_call 15;refine (HOF7.out _).mono ?_;rintro e w3 ⟨rfl,hb3⟩;have hM3:=onB (W0:=w1) (by go_grown) hb3;have hy3:=hM3.size;clear hb3))
 all_goals go_wp2_with fail
 all_goals go_ret
 all_goals exact ⟨rfl,onB HB1.out (by go_grown)⟩
def edOf (e:En):Ed:=⟨e.pl,e.n,false⟩
section
variable {D:Nat→Dm} {n:Nat}
theorem edOf_ok {l m:List En} {e:En} (hl:Ens D n l) (he:e∈l):editErr D n m (edOf e)=0:=by
 obtain ⟨h1,h2,h3⟩:=hl.each e he
 have hs:shapeErr D n e.pl=0:=by rw [←place_shapeN hl.right];exact h1.ok
 unfold editErr edOf
 rw [if_neg (by simpa using hs),if_neg (by simp),if_neg (by simp [h2]),if_neg (by simp [h3])]
theorem ents_from {l:List En} (hl:Ens D n l):∀ r k,k+r=l.length→editsFrom D n (l.take k) k ((l.drop k).map edOf)=(l,0,0):=by
 intro r
 induction r with
 | zero =>
  intro k hk
  have hk':k=l.length:=by omega
  subst hk'
  rw [List.drop_length,List.take_length]
  rfl
 | succ r ih =>
  intro k hk
  have hlt:k<l.length:=by omega
  rw [List.drop_eq_getElem_cons hlt,List.map_cons,editsFrom_ok _ (edOf_ok hl (List.getElem_mem hlt))]
  have e:editV (l.take k) (edOf l[k])=l.take (k+1):=by
   unfold editV edOf
   rw [if_neg (by simp),List.take_succ_eq_append_getElem hlt]
   refine set_last (fun x hx=>?_) _
   obtain ⟨j,hj,rfl⟩:=List.getElem_of_mem hx
   have hj2:j<k:=by rw [List.length_take] at hj;omega
   rw [List.getElem_take]
   exact List.pairwise_iff_getElem.1 hl.rise j k (by omega) hlt hj2
  rw [e]
  exact ih (k+1) (by omega)
theorem ents_edits {l:List En} (hl:Ens D n l) (h60:l.length≤60):doE D n [] (l.map edOf)=0∧doL D n [] (l.map edOf)=l:=by
 have h0:Ens D n []:=⟨hl.right,fun e h=>(by cases h),List.Pairwise.nil⟩
 have e:editsV D n [] (l.map edOf)=(l,0,0):=by
  unfold editsV
  rw [if_neg (by rw [List.length_map];omega),if_neg (by simpa using h0.ok)]
  have h:=ents_from hl l.length 0 (by omega)
  rw [List.take_zero,List.drop_zero] at h
  exact h
 have e2:doE D n [] (l.map edOf)=0:=by unfold doE;rw [e]
 exact ⟨e2,by unfold doL;rw [if_pos e2,e]⟩
theorem top_cell {l:List En} {p:List Int} (hru:(ruErr D n).2.2=0) (hl:Ens D n l) (hp:placeErr D n p=0) (hf:∀ i,i<n→∀ k,k<(D i).n→((D i).mem k).formula.size=0):hcV D n l p=rollV D n l p:=by
 obtain ⟨-,hR⟩:=ru_right hru
 obtain ⟨y,h1,h2,h3⟩:=num_lt (inO_of hp)
 unfold hcV
 rw [if_pos hp,h1,Int.toNat_natCast,caL_at (cu_right hru hl) h2,h3]
 exact sol_roll hl hR hf _ _ (inO_of hp) (Nat.lt_succ_self _)
end
end Go.Proofs.YtfgegmpoejilnaaGreatDoor
