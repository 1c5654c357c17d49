/-
  What Value and By of package solve answer, called in whatever memory.
-/
import Derived.Test.YtigkeokacagabagGreatDoorJZBU
namespace Go.Proofs.YtigkeokacagabagGreatDoor
open Go.ChangeShapes Go.WideShapes Go.ChangeAt Go.RowKit
set_option maxRecDepth 20000
noncomputable def soErr (D:Nat→Dm) (n:Nat) (l:List En) (p:List Int):Int:=if cuErr D n l≠0 then cuErr D n l else placeErr D n p
noncomputable def soV (D:Nat→Dm) (n:Nat) (l:List En) (p:List Int):Int×Int:=if soErr D n l p=0 then solV D n (getE l) p else (0,0)
set_option maxHeartbeats 8000000 in
theorem pvalue_any (A0:Option Addr) (cap n:Nat) (D:Nat→Dm) (A:Nat→Option Addr) (C:Nat→Nat) (AE:Option Addr) (ce:Nat) (xs:List EnL) (Ap:Option Addr) (cp:Nat) (p:List Int) (w:World) (hM:DimsV w A0 cap n D A C) (hEn:EnsV w AE ce xs) (hP:PlAt w Ap cp p) :
  Calls Tryz.prog 13 #[.agg #[.slice A0 n cap],.slice AE xs.length ce,.slice Ap p.length cp] w fun e w'=>e=.returned (.tuple #[.agg #[.int .i64 (soV D n (lE xs) p).1,.int .i64 (soV D n (lE xs) p).2],errV (soErr D n (lE xs) p)])∧Below w.heap.size w w':=by
 have hB0:=ownOC_below w A0 n cap
 have hS:=ownOC_size w A0 n cap
 have hA:=ownOC_o w A0 n cap
 have hk1:=ownOC_b w A0 n cap
 obtain ⟨W,hW⟩:∃ W,ownOC w A0 n cap=W:=⟨_,rfl⟩
 rw [hW] at hB0 hS hA hk1
 unfold ownOC ownOut at hW
 have HB0:Hid (Below w.heap.size w W):=hB0
 have hsz:w.heap.size<W.heap.size:=by omega
 have hsz1:w.heap.size+1<W.heap.size:=by omega
 have HA:Hid (W.cell? ⟨w.heap.size,0,none⟩=some (.slice A0 n cap)):=hA
 have HK:Hid (W.heap[w.heap.size+1]?=some (.cells #[.int .i64 0,.int .i64 0] 32 (0,0))):=hk1
 have HNum:Hid (∀ w',Below w.heap.size w w'→Calls Tryz.prog 14 #[.agg #[.slice A0 n cap],.slice Ap p.length cp] w' fun e w''=>e=.returned (.tuple #[.int .i64 (numV D n p),errV (placeErr D n p)])∧Below w'.heap.size w' w''):=fun w' hB=>pnumber_any A0 cap n D A C Ap cp p w' (hM.later hB) (hP.later hB)
 by_cases hr:(ruErr D n).2.2=0
 case neg =>
  have hl:=new_bad A0 cap n D A C W hr (hM.later hB0)
  have HE:Hid (soErr D n (lE xs) p=(ruErr D n).2.2∧soV D n (lE xs) p=(0,0)):=by
   have e1:cuErr D n (lE xs)=(ruErr D n).2.2:=by unfold cuErr;rw [if_pos hr]
   have e:soErr D n (lE xs) p=(ruErr D n).2.2:=by unfold soErr;rw [e1,if_pos hr]
   exact ⟨e,by unfold soV;rw [e,if_neg hr]⟩
  have HEr:Hid (errV (ruErr D n).2.2=.iface 83 (.int .i64 (ruErr D n).2.2)):=errV_some hr
  rw [errV_some hr] at hl
  generalize p.length=pl at HNum ⊢
  generalize xs.length=xl
  clear hM hP hB0 hr hS hEn hk1
  generalize (ruErr D n).2.2=z at hl HE HEr
  go_enter Tryz.func13,Tryz.ntmps13
  go_wp2_with fail
  refine hl.mono ?_
  rintro e w1 ⟨rfl,hb1⟩
  have HB1:Hid (Below w.heap.size w w1):=onB HB0.out hb1
  obtain ⟨e0,e1,g0,g1⟩:=pair_at ((hb1.block (w.heap.size+1) hsz1).trans HK.out)
  have hs1:w.heap.size+1<w1.heap.size:=Nat.lt_of_lt_of_le hsz1 hb1.size
  clear hb1 hl hA hW
  go_wp2_with fail
  refine bodyPost_ret (v:=.tuple #[.agg #[.int .i64 0,.int .i64 0],.iface 83 (.int .i64 z)]) (by simp [results,Tryz.results13,go_sem,e0,e1]) rfl ⟨by rw [HE.out.1,HE.out.2,HEr.out],?_⟩
  exact (HB1.out.setCell (by simp) _).setCell (by simp) _
 obtain ⟨hE,hR⟩:=ru_right hr
 have hl:=new_any A0 cap n D A C W hE hR (hM.later hB0)
 have hce:cuErr D n (lE xs)=entsErr D n (lE xs):=by unfold cuErr;rw [if_neg (by simpa using hr)]
 by_cases he:entsErr D n (lE xs)=0
 case neg =>
  have HE:Hid (soErr D n (lE xs) p=entsErr D n (lE xs)∧soV D n (lE xs) p=(0,0)):=by
   have e:soErr D n (lE xs) p=entsErr D n (lE xs):=by unfold soErr;rw [hce,if_pos he]
   exact ⟨e,by unfold soV;rw [e,if_neg he]⟩
  have HEr:Hid (errV (entsErr D n (lE xs))=.iface 83 (.int .i64 (entsErr D n (lE xs)))):=errV_some he
  have HCe:Hid (∀ w',Below w.heap.size w w'→Calls Tryz.prog 32 #[.agg #[.slice A0 n cap],.slice AE xs.length ce] w' fun e w''=>(∃ A' c',e=.returned (.tuple #[.slice A' 0 c',.iface 83 (.int .i64 (entsErr D n (lE xs)))]))∧Below w'.heap.size w' w''):=fun w' hB=>by
   have h:=fcells_any A0 cap n D A C AE ce xs w' (hM.later hB) (hEn.later hB)
   rw [fc_bad he,errV_some he] at h
   refine h.mono ?_
   rintro e w'' ⟨⟨A',c',rfl,-⟩,hb⟩
   exact ⟨⟨A',c',rfl⟩,hb⟩
  generalize p.length=pl at HNum ⊢
  generalize xs.length=xl at HCe ⊢
  generalize entsErr D n (lE xs)=z at HE HEr HCe
  clear hM hP hB0 hr hS hEn hk1 hE hR he hce
  go_enter Tryz.func13,Tryz.ntmps13
  go_wp2_with fail
  refine hl.mono ?_
  rintro e w1 ⟨⟨qp,g,X,rfl,-,-,-⟩,hb1⟩
  have HB1:Hid (Below W.heap.size W w1):=hb1
  have c1:=(hb1.cell (p:=⟨w.heap.size,0,none⟩) hsz).trans HA.out
  have hs1:w.heap.size<w1.heap.size:=Nat.lt_of_lt_of_le hsz hb1.size
  clear hb1 hl hA hW
  go_wp2_with fail
  refine (HCe.out w1 (onB HB0.out HB1.out)).mono ?_
  rintro e w2 ⟨⟨A2,c2,rfl⟩,hb2⟩
  have HB2:Hid (Below w.heap.size w w2):=onB (onB HB0.out HB1.out) hb2
  obtain ⟨e0,e1,g0,g1⟩:=pair_at (((onB HB1.out hb2).block (w.heap.size+1) hsz1).trans HK.out)
  have hs2:w.heap.size+1<w2.heap.size:=Nat.lt_of_lt_of_le hsz1 (onB HB1.out hb2).size
  clear hb2 c1
  go_wp2_with fail
  refine bodyPost_ret (v:=.tuple #[.agg #[.int .i64 0,.int .i64 0],.iface 83 (.int .i64 z)]) (by simp [results,Tryz.results13,go_sem,e0,e1]) rfl ⟨by rw [HE.out.1,HE.out.2,HEr.out],?_⟩
  exact (HB2.out.setCell (by simp) _).setCell (by simp) _
 have hEs:=ens_of he
 have HCe:Hid (∀ w',Below w.heap.size w w'→Calls Tryz.prog 32 #[.agg #[.slice A0 n cap],.slice AE xs.length ce] w' fun e w''=>(∃ g,e=.returned (.tuple #[.slice (some ⟨g,0,none⟩) (prodN D n) (prodN D n),.nilIface])∧w'.heap.size≤g∧CelB w'' g (wrV D n (lE xs)))∧Below w'.heap.size w' w''):=fun w' hB=>fcells_own A0 cap n D A C AE ce xs w' (hM.later hB) (hEn.later hB) he
 have HSE:Hid (soErr D n (lE xs) p=placeErr D n p):=by show _=_;unfold soErr;rw [hce,if_neg (by simpa using he)]
 obtain ⟨N,hN⟩:∃ N,prodN D n=N:=⟨_,rfl⟩
 have HN:Hid (prodN D n=N):=hN
 obtain ⟨-,-,hp3,-⟩:=allErr_some hE
 rw [hN] at HCe hp3
 have hNI:(N:Int)≤3000:=by omega
 by_cases hp:placeErr D n p=0
 case neg =>
  have HE:Hid (soV D n (lE xs) p=(0,0)):=by show _=_;unfold soV;rw [HSE.out,if_neg hp]
  have HEr:Hid (errV (placeErr D n p)=.iface 83 (.int .i64 (placeErr D n p))):=errV_some hp
  rw [errV_some hp] at HNum
  generalize p.length=pl at HNum ⊢
  generalize xs.length=xl at HCe ⊢
  generalize placeErr D n p=z at HNum HSE HEr
  generalize numV D n p=nv at HNum
  clear hM hP hB0 hr hS hEn hk1 hE hR he hce hp hEs hN
  go_enter Tryz.func13,Tryz.ntmps13
  go_wp2_with fail
  refine hl.mono ?_
  rintro e w1 ⟨⟨qp,g,X,rfl,-,-,-⟩,hb1⟩
  have HB1:Hid (Below W.heap.size W w1):=hb1
  have c1:=(hb1.cell (p:=⟨w.heap.size,0,none⟩) hsz).trans HA.out
  have hs1:w.heap.size<w1.heap.size:=Nat.lt_of_lt_of_le hsz hb1.size
  clear hb1 hl hA hW
  go_wp2_with fail
  refine (HCe.out w1 (onB HB0.out HB1.out)).mono ?_
  rintro e w2 ⟨⟨gC,rfl,-,-⟩,hb2⟩
  have HB2:Hid (Below W.heap.size W w2):=onB HB1.out hb2
  have c2:=(hb2.cell (p:=⟨w.heap.size,0,none⟩) hs1).trans c1
  have hs2:w.heap.size<w2.heap.size:=Nat.lt_of_lt_of_le hs1 hb2.size
  clear hb2 c1
  go_wp2_with fail
  refine (HNum.out w2 (onB HB0.out HB2.out)).mono ?_
  rintro e w3 ⟨rfl,hb3⟩
  have HB3:Hid (Below w.heap.size w w3):=onB (onB HB0.out HB2.out) hb3
  obtain ⟨e0,e1,g0,g1⟩:=pair_at (((onB HB2.out hb3).block (w.heap.size+1) hsz1).trans HK.out)
  have hs3:w.heap.size+1<w3.heap.size:=Nat.lt_of_lt_of_le hsz1 (onB HB2.out hb3).size
  clear hb3 c2
  go_wp2_with fail
  refine bodyPost_ret (v:=.tuple #[.agg #[.int .i64 0,.int .i64 0],.iface 83 (.int .i64 z)]) (by simp [results,Tryz.results13,go_sem,e0,e1]) rfl ⟨by rw [HE.out,HSE.out,HEr.out],?_⟩
  exact (HB3.out.setCell (by simp) _).setCell (by simp) _
 obtain ⟨x,hx1,hx2,hx3⟩:=num_lt (inO_of hp)
 have hnv:numV D n p=(x:Int):=by unfold numV;rw [if_pos hp,hx1]
 have HE:Hid (soErr D n (lE xs) p=0∧soV D n (lE xs) p=solV D n (getE (lE xs)) p):=⟨by rw [HSE.out,hp],by unfold soV;rw [HSE.out,if_pos hp]⟩
 rw [hp,hnv,errV_zero] at HNum
 have HAt:Hid (∀ wB qc qp g gC gT X f w',CtxA wB qc qp g n gC N gT D X (getE (lE xs))→StC wB qc qp n gC N gT D (getE (lE xs)) f w'→Calls Tryz.prog 38 #[.pointer (some ⟨qc,0,none⟩),.int .i64 x] w' fun e w2=>e=.returned .nilIface∧(Below wB.heap.size wB w2∧w2.cell? ⟨qc,1,none⟩=some (.slice (some ⟨gC,0,none⟩) N N)∧w2.cell? ⟨gC,x*2,none⟩=some (.int .i64 (solV D n (getE (lE xs)) p).1)∧w2.cell? ⟨gC,x*2+1,none⟩=some (.int .i64 (solV D n (getE (lE xs)) p).2)∧qc<w2.heap.size∧gC<w2.heap.size)):=fun wB qc qp g gC gT X f w' hX hSt=>by
  refine (ctell_all hX _ x f w' hx2 (Nat.lt_succ_self _) hSt).mono ?_
  rintro e w2 ⟨rfl,f2,hS2,-,hf2,-⟩
  obtain ⟨-,c1,-⟩:=hS2.cells
  obtain ⟨l1,l2,-,-⟩:=hS2.lts
  obtain ⟨hBB,-,L,hCL,hLl,-,hIn⟩:=hS2
  obtain ⟨k0,k1⟩:=hCL.at (k:=x) (by omega)
  rw [(hIn x hx2).1 hf2,hx3] at k0 k1
  rw [hN] at c1
  exact ⟨rfl,hBB,c1,k0,k1,l1,l2⟩
 have HCtx:Hid (∀ wB qc qp g gC gT X,PlanV wB qp g n D X→wB.heap.size≤qc→wB.heap.size≤gC→wB.heap.size≤gT→CtxA wB qc qp g n gC N gT D X (getE (lE xs))):=fun wB qc qp g gC gT X h1 h2 h3 h4=>⟨hE,hR,h1,good_getE hEs,h2,h3,h4,by rw [hN];exact Nat.le_refl _,hp3⟩
 have HWr:Hid (∀ j,j<N→(wrV D n (lE xs)).getD j noC=getE (lE xs) (placeL D n j)):=fun j hj=>wr_at hEs (by rw [hN];exact hj)
 have hmk:=run_make_bols N hp3
 generalize p.length=pl at HNum ⊢
 generalize xs.length=xl at HCe ⊢
 obtain ⟨⟨ra,rb⟩,hR2⟩:∃ R,solV D n (getE (lE xs)) p=R:=⟨_,rfl⟩
 rw [hR2] at HE HAt
 simp only at HAt
 have hxI:(x:Int)<(N:Int):=by omega
 clear hM hP hB0 hr hS hEn hk1 hE hR he hce hp hEs hN hnv hx1 hx2 hx3 hR2
 go_enter Tryz.func13,Tryz.ntmps13
 go_wp2_with fail
 refine hl.mono ?_
 rintro e w1 ⟨⟨qp,g,X,rfl,-,-,hAx⟩,hb1⟩
 have HAx:Hid (PlanV w1 qp g n D X):=hAx
 have HB1:Hid (Below W.heap.size W w1):=hb1
 have c1:=(hb1.cell (p:=⟨w.heap.size,0,none⟩) hsz).trans HA.out
 have hs1:w.heap.size<w1.heap.size:=Nat.lt_of_lt_of_le hsz hb1.size
 clear hb1 hl hA hW hAx
 go_wp2_with fail
 refine (HCe.out w1 (onB HB0.out HB1.out)).mono ?_
 rintro e w2 ⟨⟨gC,rfl,hgC,hCb⟩,hb2⟩
 have HB2:Hid (Below w1.heap.size w1 w2):=hb2
 have HCb:Hid (CelB w2 gC (wrV D n (lE xs))):=hCb
 have c2:=(hb2.cell (p:=⟨w.heap.size,0,none⟩) hs1).trans c1
 have hs2:w.heap.size<w2.heap.size:=Nat.lt_of_lt_of_le hs1 hb2.size
 clear hb2 c1 hCb
 go_wp2_with fail
 refine (HNum.out w2 (onB HB0.out (onB HB1.out HB2.out))).mono ?_
 rintro e w3 ⟨rfl,hb3⟩
 have HB3:Hid (Below w1.heap.size w1 w3):=onB HB2.out hb3
 have HC3:Hid (CelB w3 gC (wrV D n (lE xs))):=HCb.out.later hb3
 obtain ⟨y,hy⟩:∃ y,w3.alloc (.cells (madeCells #[.bool false] N) 4)=y:=⟨_,rfl⟩
 have hBy:Below w3.heap.size w3 y:=by rw [←hy];go_grown
 have HTb:Hid (BolB y w3.heap.size N fun _=>false):=by rw [←hy];exact BolB.made w3 N
 obtain ⟨z,hz⟩:∃ z,y.alloc (.cells #[.pointer (some ⟨qp,0,none⟩),.slice (some ⟨gC,0,none⟩) N N,.slice (some ⟨w3.heap.size,0,none⟩) N N] 85)=z:=⟨_,rfl⟩
 have hBz:Below y.heap.size y z:=by rw [←hz];go_grown
 have hqz:z.heap[y.heap.size]?=some (.cells #[.pointer (some ⟨qp,0,none⟩),.slice (some ⟨gC,0,none⟩) N N,.slice (some ⟨w3.heap.size,0,none⟩) N N] 85 (0,0)):=by rw [←hz];exact heap_alloc_new ..
 have hysz:y.heap.size=w3.heap.size+1:=by rw [←hy];simp
 have HYs:Hid (y.heap.size=w3.heap.size+1):=hysz
 have hs13:=HB3.out.size
 have HSt:Hid (StC w1 y.heap.size qp n gC N w3.heap.size D (getE (lE xs)) (fun _=>false) z):=by
  refine ⟨onB HB3.out (onB hBy hBz),by rw [HN.out];exact hqz,wrV D n (lE xs),HC3.out.later (onB hBy hBz),wrV_len ..,by rw [HN.out];exact HTb.out.later hBz,fun j hj=>⟨fun h=>(by cases h),fun _=>HWr.out j (by rw [←HN.out];exact hj)⟩⟩
 have hat:=HAt.out w1 y.heap.size qp g gC w3.heap.size X _ z (HCtx.out w1 y.heap.size qp g gC w3.heap.size X HAx.out (by omega) hgC (by omega)) HSt.out
 have HBz:Hid (Below w1.heap.size w1 z):=onB HB3.out (onB hBy hBz)
 clear hb3 c2 hBy hBz hqz HAt HCtx HWr hysz
 go_wp2_with fail
 refine hat.mono ?_
 rintro e w5 ⟨rfl,hlow,k1,k2,k3,kq,kC⟩
 have HB5:Hid (Below W.heap.size W w5):=onB HB1.out hlow
 obtain ⟨e0,e1,g0,g1⟩:=pair_at ((HB5.out.block (w.heap.size+1) hsz1).trans HK.out)
 have hs5:w.heap.size+1<w5.heap.size:=Nat.lt_of_lt_of_le hsz1 HB5.out.size
 clear hlow hat hy hz hmk
 go_wp2_with fail
 refine bodyPost_ret (v:=.tuple #[.agg #[.int .i64 ra,.int .i64 rb],.nilIface]) (by simp [results,Tryz.results13,go_sem,e0,e1]) rfl ⟨by rw [HE.out.1,HE.out.2];rfl,?_⟩
 exact ((onB HB0.out HB5.out).setCell (by simp) _).setCell (by simp) _
end Go.Proofs.YtigkeokacagabagGreatDoor
