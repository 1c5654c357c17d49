/-
  What tallylaw2.HallSame answers, called in whatever memory, of a hall whatever it is made of, if its calls tell what they should: true.
-/
import Derived.Test.YtnlfpaopfloklaaGreatDoorJEBO
namespace Go.Proofs.YtnlfpaopfloklaaGreatDoor
open Go.ChangeShapes Go.WideShapes Go.ChangeAt Go.RowKit
set_option maxRecDepth 20000
def hsW (w:World):World:=((w.alloc (.cells #[.string ⟨#[98]⟩,.int .i64 (-1),.int .i64 0,.string ⟨#[]⟩,.string ⟨#[99]⟩,.int .i64 0,.int .i64 1,.string ⟨#[]⟩] 27)).alloc (.cells #[.string ⟨#[97]⟩,.int .i64 0,.slice (some ⟨w.heap.size,0,none⟩) 2 2] 30)).alloc (.cells #[.slice (some ⟨w.heap.size+1,0,none⟩) 1 1] 24)
theorem hsW_below (w:World):Below w.heap.size w (hsW w):=by unfold hsW;go_grown
theorem hsW_dims (w:World):DimsV (hsW w) (some ⟨w.heap.size+1,0,none⟩) 1 1 ndmO (fun _=>some ⟨w.heap.size,0,none⟩) (fun _=>2):=by
 have k0:(hsW w).heap[w.heap.size]?=some (.cells #[.string ⟨#[98]⟩,.int .i64 (-1),.int .i64 0,.string ⟨#[]⟩,.string ⟨#[99]⟩,.int .i64 0,.int .i64 1,.string ⟨#[]⟩] 27 (0,0)):=by unfold hsW;exact bkO (bkO (bkN rfl))
 have k1:(hsW w).heap[w.heap.size+1]?=some (.cells #[.string ⟨#[97]⟩,.int .i64 0,.slice (some ⟨w.heap.size,0,none⟩) 2 2] 30 (0,0)):=by unfold hsW;exact bkO (bkN (by simp))
 refine ⟨Nat.le_refl _,Or.inr ⟨w.heap.size+1,0,rfl,(Array.getElem?_eq_some_iff.1 k1).1,fun i hi=>?_⟩⟩
 have hi0:i=0:=by omega
 subst hi0
 refine ⟨(Lib.cell_of_heap k1 0).trans rfl,(Lib.cell_of_heap k1 1).trans rfl,(Lib.cell_of_heap k1 2).trans rfl,Nat.le_refl _,Or.inr ⟨w.heap.size,0,rfl,(Array.getElem?_eq_some_iff.1 k0).1,fun j hj=>?_⟩⟩
 have hj2:j<2:=hj
 rcases j with _ | _ | j
 ·exact ⟨(Lib.cell_of_heap k0 0).trans rfl,(Lib.cell_of_heap k0 1).trans rfl,(Lib.cell_of_heap k0 2).trans rfl,(Lib.cell_of_heap k0 3).trans rfl⟩
 ·exact ⟨(Lib.cell_of_heap k0 4).trans rfl,(Lib.cell_of_heap k0 5).trans rfl,(Lib.cell_of_heap k0 6).trans rfl,(Lib.cell_of_heap k0 7).trans rfl⟩
 ·omega
def hsX (w:World):List EdL:=[⟨⟨[1],7,false⟩,some ⟨w.heap.size,0,none⟩,1⟩]
def hsE (w:World):World:=(w.alloc (.cells #[.int .i64 1] 3)).alloc (.cells #[.slice (some ⟨w.heap.size,0,none⟩) 1 1,.int .i64 7,.bool false] 41)
theorem hsE_below (w:World):Below w.heap.size w (hsE w):=by unfold hsE;go_grown
theorem hsE_eds (w:World):EdsV (hsE w) (some ⟨w.heap.size+1,0,none⟩) 1 (hsX w):=by
 have k3:IntB (hsE w) w.heap.size [1]:=by unfold IntB hsE;exact bkO (bkN rfl)
 have k4:(hsE w).heap[w.heap.size+1]?=some (.cells #[.slice (some ⟨w.heap.size,0,none⟩) 1 1,.int .i64 7,.bool false] 41 (0,0)):=by unfold hsE;exact bkN (by simp)
 refine ⟨Nat.le_refl _,by decide,Or.inr ⟨w.heap.size+1,0,rfl,(Array.getElem?_eq_some_iff.1 k4).1,fun j hj=>?_⟩⟩
 have hj0:j=0:=by have:j<1:=hj;omega
 subst hj0
 exact ⟨(Lib.cell_of_heap k4 0).trans rfl,(Lib.cell_of_heap k4 1).trans rfl,(Lib.cell_of_heap k4 2).trans rfl,k3.pl⟩
theorem hs_do:doE ndmO 1 [] [⟨[1],7,false⟩]=0:=by decide +kernel
theorem hs_n:doN ndmO 1 [] [⟨[1],7,false⟩]=2:=by
 unfold doN
 rw [if_pos hs_do]
 have h:=ndm_dirty.2
 unfold ddL at h
 rw [if_pos ndm_dirty.1] at h
 exact h
theorem EdsV.one {w:World} {b o c:Nat} {ys:List EdL} {k:Nat} (h:EdsV w (some ⟨b,o,none⟩) c ys) (hk:k<ys.length):EdsV w (some ⟨b,o+k*3,none⟩) (c-k) [ys.getD k noD]:=by
 obtain ⟨h1,h2,h3 | ⟨b',o',e,h4,h5⟩⟩:=h
 ·rw [h3] at hk;simp at hk
 ·cases e
  refine ⟨by simp;omega,by omega,Or.inr ⟨b,o+k*3,rfl,h4,fun j hj=>?_⟩⟩
  have hj0:j=0:=by have:j<1:=hj;omega
  subst hj0
  have:=h5 k hk
  simpa using this
theorem keepHo {w9 w':World} {q:Nat} {v:Value} (hq:q<w9.heap.size) (h:w9.cell? ⟨q,0,none⟩=some v) (hB:Below w9.heap.size w9 w'):Below w9.heap.size w9 w'∧w'.cell? ⟨q,0,none⟩=some v:=⟨hB,(hB.cell (p:=⟨q,0,none⟩) hq).trans h⟩
theorem lD_at (ys:List EdL) (k:Nat):(lD ys).getD k noEd=(ys.getD k noD).x:=by
 unfold lD
 rw [List.getD_eq_getElem?_getD,List.getD_eq_getElem?_getD,List.getElem?_map]
 cases ys[k]? <;> rfl
set_option maxHeartbeats 16000000 in
theorem hsame_law {HV:World→Nat→(Nat→Prop)→(Nat→Dm)→Nat→List En→Prop} (hC:HallC HV) (A0:Option Addr) (cap n:Nat) (D:Nat→Dm) (A:Nat→Option Addr) (C:Nat→Nat) (Ax:Option Addr) (cx:Nat) (xs:List EdL) (Ay:Option Addr) (cy:Nat) (ys:List EdL) (w:World) (hM:DimsV w A0 cap n D A C) (hX:EdsV w Ax cx xs) (hY:EdsV w Ay cy ys) :
  Calls Tryz.prog 3 #[.agg #[.slice A0 n cap],.slice Ax xs.length cx,.slice Ay ys.length cy] w fun e w'=>e=.returned (.bool true)∧Below w.heap.size w w':=by
 have hB0:=ownOut_below w A0 n cap 24
 have HBx:Hid (∀ w1,Below (ownOut w A0 n cap 24).heap.size (ownOut w A0 n cap 24) w1→w1.cell? ⟨w.heap.size,0,none⟩=some (.slice A0 n cap)∧w.heap.size<w1.heap.size):=fun w1 h=>out_cellH h
 obtain ⟨W,hW⟩:∃ W,ownOut w A0 n cap 24=W:=⟨_,rfl⟩
 rw [hW] at hB0 HBx
 unfold ownOut at hW
 have HB0:Hid (Below w.heap.size w W):=hB0
 have hcl:=hC.new (some ⟨W.heap.size+1,0,none⟩) 1 1 ndmO (fun _=>some ⟨W.heap.size,0,none⟩) (fun _=>2) (hsW W) ndm_ru (hsW_dims W)
 have hBW:=hsW_below W
 have hko:(hsW W).cell? ⟨W.heap.size+1+1,0,none⟩=some (.slice (some ⟨W.heap.size+1,0,none⟩) 1 1):=by
  have k2:(hsW W).heap[W.heap.size+1+1]?=some (.cells #[.slice (some ⟨W.heap.size+1,0,none⟩) 1 1] 24 (0,0)):=by unfold hsW;exact bkN (by simp)
  exact (Lib.cell_of_heap k2 0).trans rfl
 obtain ⟨W1,hW1⟩:∃ W1,hsW W=W1:=⟨_,rfl⟩
 rw [hW1] at hcl hBW hko
 unfold hsW at hW1
 have HBW:Hid (Below W.heap.size W W1):=hBW
 have HC:=hid_of hC
 have HDim:Hid (∀ w',Below W.heap.size W w'→DimsV w' A0 cap n D A C):=fun w' hB=>hM.later (onB hB0 hB)
 have HX:Hid (∀ w',Below W.heap.size W w'→EdsV w' Ax cx xs):=fun w' hB=>hX.later (onB hB0 hB)
 have HY:Hid (∀ w',Below W.heap.size W w'→EdsV w' Ay cy ys):=fun w' hB=>hY.later (onB hB0 hB)
 have HAll:Hid (∀ w' B c zs,Below W.heap.size W w'→EnsV w' B c zs→Calls Tryz.prog 7 #[.agg #[.slice A0 n cap],.slice B zs.length c] w' fun e w''=>(∃ A' c',e=.returned (.tuple #[.slice A' (caL D n (lE zs)).length c',errV (cuErr D n (lE zs))])∧CelV w'' A' c' (caL D n (lE zs)))∧Below w'.heap.size w' w''):=fun w' B c zs hB hz=>call_any A0 cap n D A C B c zs w' (hM.later (onB hB0 hB)) hz
 obtain ⟨xl,hxl⟩:∃ xl,xs.length=xl:=⟨_,rfl⟩
 have Hxl:=hid_of hxl
 obtain ⟨yl,hyl⟩:∃ yl,ys.length=yl:=⟨_,rfl⟩
 have Hyl:=hid_of hyl
 have hycI:(yl:Int)≤(cy:Int):=by have:=hY.1;omega
 have HYc:Hid (cy≤9223372036854775807):=hY.2.1
 rw [hxl,hyl]
 clear hM hX hY hC hB0 hBW hxl hyl
 go_enter Tryz.func3,Tryz.ntmps3
 go_wp2_with fail
 refine hcl.mono ?_
 rintro e w1 ⟨⟨z,Sz,rfl,hz,hSz⟩,hb1⟩
 have HB1:Hid (Below W.heap.size W w1):=onB HBW.out hb1
 have hdo:=HC.out.edit z Sz ndmO 1 [] (some ⟨w1.heap.size+1,0,none⟩) 1 (hsX w1) (hsE w1) (HC.out.later hz (hsE_below w1)) (hsE_eds w1)
 have hlx:lD (hsX w1)=[⟨[1],7,false⟩]:=rfl
 have hll:(hsX w1).length=1:=rfl
 rw [hlx,hs_do,hs_n,hll,errV_zero] at hdo
 have HBE:Hid (Below W.heap.size W (hsE w1)):=onB HB1.out (hsE_below w1)
 have HSz:Hid (∀ b,Sz b→W.heap.size≤b):=fun b hb=>Nat.le_trans HBW.out.size (hSz b hb)
 obtain ⟨W2,hW2⟩:∃ W2,hsE w1=W2:=⟨_,rfl⟩
 rw [hW2] at hdo HBE
 unfold hsE at hW2
 clear hcl hb1 hko hW hW1 hz hSz hlx hll
 go_wp2_with fail
 refine hdo.mono ?_
 rintro e w2 ⟨⟨S1,rfl,hz2,-⟩,hk2⟩
 have HB2:Hid (Below W.heap.size W w2):=below_kept HBE.out hk2 HSz.out
 have hce:=HC.out.cells z S1 ndmO 1 (doL ndmO 1 [] [⟨[1],7,false⟩]) w2 hz2
 have hl2:(caL ndmO 1 (doL ndmO 1 [] [⟨[1],7,false⟩])).length=2:=by
  rw [caL_len (cu_right (HC.out.right hz2).1 (HC.out.right hz2).2),ndm_prod]
 rw [hl2] at hce
 clear hdo hk2 hW2 hz2 hl2
 go_wp2_with fail
 refine hce.mono ?_
 rintro e w3 ⟨⟨A3,c3,rfl,-⟩,hb3⟩
 have HB3:Hid (Below W.heap.size W w3):=onB HB2.out hb3
 clear hce hb3
 obtain ⟨o0,hq⟩:=HBx.out w3 HB3.out
 by_cases hr:(ruErr D n).2.2=0
 case neg =>
  have hbd:=HC.out.bad A0 cap n D A C w3 hr (HDim.out w3 HB3.out)
  rw [errV_some hr] at hbd
  generalize (ruErr D n).2.2=E at hbd
  clear hr
  go_wp2_with fail
  refine hbd.mono ?_
  rintro e w4 ⟨rfl,hb4⟩
  have HB4:Hid (Below W.heap.size W w4):=onB HB3.out hb4
  clear hbd hb4 o0 hq
  go_wp2_with fail
  go_ret
  exact ⟨rfl,onB HB0.out HB4.out⟩
 case pos =>
 have HR:=hid_of hr
 have hn1:=HC.out.new A0 cap n D A C w3 hr (HDim.out w3 HB3.out)
 clear hr
 go_wp2_with fail
 refine hn1.mono ?_
 rintro e w4 ⟨⟨h,Sh,rfl,hh4,hSh⟩,hb4⟩
 have HB4:Hid (Below W.heap.size W w4):=onB HB3.out hb4
 have HH4:=hid_of hh4
 have HSh:Hid (∀ b,Sh b→W.heap.size≤b):=fun b hb=>Nat.le_trans HB3.out.size (hSh b hb)
 have hn2:=HC.out.new A0 cap n D A C w4 HR.out (HDim.out w4 HB4.out)
 clear hn1 hb4 o0 hq hh4 hSh
 obtain ⟨o0,hq⟩:=HBx.out w4 HB4.out
 go_wp2_with fail
 refine hn2.mono ?_
 rintro e w5 ⟨⟨g,Sg,rfl,hg5,hSg⟩,hb5⟩
 have HB5:Hid (Below W.heap.size W w5):=onB HB4.out hb5
 have HH5:Hid (HV w5 h Sh D n []):=HC.out.later HH4.out hb5
 have HG5:=hid_of hg5
 have HSg:Hid (∀ b,Sg b→W.heap.size≤b):=fun b hb=>Nat.le_trans HB4.out.size (hSg b hb)
 have HDj:Hid (∀ b,Sh b→¬ Sg b):=fun b hb hb'=>by
  have h1:=HC.out.inS HH4.out b hb
  have h2:=hSg b hb'
  omega
 have hd1:=HC.out.edit h Sh D n [] Ax cx xs w5 HH5.out (HX.out w5 HB5.out)
 rw [Hxl.out] at hd1
 clear hn2 hb5 o0 hq hg5 hSg
 obtain ⟨L1,hL1⟩:∃ L1,doL D n [] (lD xs)=L1:=⟨_,rfl⟩
 obtain ⟨E1,hE1⟩:∃ E1,doE D n [] (lD xs)=E1:=⟨_,rfl⟩
 obtain ⟨N1,hN1⟩:∃ N1,doN D n [] (lD xs)=N1:=⟨_,rfl⟩
 rw [hL1,hE1,hN1] at hd1
 have HD1:Hid (∀ w' S',HV w' g S' D n []→Below W.heap.size W w'→Calls Tryz.prog 5 #[.pointer (some ⟨g,0,none⟩),.slice Ax xl cx] w' fun e w''=>(∃ S'',e=.returned (.tuple #[.int .i64 (N1:Nat),errV E1])∧HV w'' g S'' D n L1∧∀ b,S'' b→S' b∨w'.heap.size≤b)∧Kept w'.heap.size S' w' w''):=fun w' S' hg' hB'=>by
  have h':=HC.out.edit g S' D n [] Ax cx xs w' hg' (HX.out w' hB')
  rw [Hxl.out,hL1,hE1,hN1] at h'
  exact h'
 clear hL1 hE1 hN1
 go_wp2_with fail
 refine hd1.mono ?_
 rintro e w6 ⟨⟨Sh1,rfl,hh6,hS6⟩,hk6⟩
 have HB6:Hid (Below W.heap.size W w6):=below_kept HB5.out hk6 HSh.out
 have HG6:Hid (HV w6 g Sg D n []):=HC.out.keep HG5.out hk6.size fun b hb=>hk6.block b (HC.out.inS HG5.out b hb) fun h'=>HDj.out b h' hb
 have HH6:=hid_of hh6
 have HSh1:Hid (∀ b,Sh1 b→W.heap.size≤b):=fun b hb=>(hS6 b hb).elim (HSh.out b) fun h'=>Nat.le_trans HB5.out.size h'
 have HDj1:Hid (∀ b,Sh1 b→¬ Sg b):=fun b hb hb'=>(hS6 b hb).elim (fun h'=>HDj.out b h' hb') fun h'=>by
  have:=HC.out.inS HG5.out b hb'
  omega
 have hd2:=HD1.out w6 Sg HG6.out HB6.out
 clear hd1 hk6 hS6 hh6
 go_wp2_with fail
 refine hd2.mono ?_
 rintro e w7 ⟨⟨Sg1,rfl,hg7,hS7⟩,hk7⟩
 have HB7:Hid (Below W.heap.size W w7):=below_kept HB6.out hk7 HSg.out
 have HH7:Hid (HV w7 h Sh1 D n L1):=HC.out.keep HH6.out hk7.size fun b hb=>hk7.block b (HC.out.inS HH6.out b hb) (HDj1.out b hb)
 have HG7:=hid_of hg7
 have HSg1:Hid (∀ b,Sg1 b→W.heap.size≤b):=fun b hb=>(hS7 b hb).elim (HSg.out b) fun h'=>Nat.le_trans HB6.out.size h'
 have HDj2:Hid (∀ b,Sh1 b→¬ Sg1 b):=fun b hb hb'=>(hS7 b hb').elim (HDj1.out b hb) fun h'=>by
  have:=HC.out.inS HH6.out b hb
  omega
 have hd3:=HC.out.edit h Sh1 D n L1 Ay cy ys w7 HH7.out (HY.out w7 HB7.out)
 rw [Hyl.out] at hd3
 clear hd2 hk7 hS7 hg7 HD1
 have HL1:Hid (Ens D n L1):=(HC.out.right HH7.out).2
 obtain ⟨L2,hL2⟩:∃ L2,doL D n L1 (lD ys)=L2:=⟨_,rfl⟩
 obtain ⟨E2,hE2⟩:∃ E2,doE D n L1 (lD ys)=E2:=⟨_,rfl⟩
 obtain ⟨N2,hN2⟩:∃ N2,doN D n L1 (lD ys)=N2:=⟨_,rfl⟩
 rw [hL2,hE2,hN2] at hd3
 have HL2:=hid_of hL2
 have HE2:=hid_of hE2
 clear hL2 hE2 hN2
 have HEns:Hid (Ens D n L2):=by rw [←HL2.out];exact do_ens HL1.out _
 by_cases h0:E2=0
 case neg =>
  rw [errV_some h0] at hd3
  have HLe:Hid (L2=L1):=by
   have h':=HL2.out
   unfold doL at h'
   rw [HE2.out,if_neg h0] at h'
   exact h'.symm
  have hyl0:0<yl:=by
   rcases Nat.eq_zero_or_pos yl with h' | h'
   ·exfalso
    apply h0
    have e:ys=[]:=List.eq_nil_of_length_eq_zero (Hyl.out.trans h')
    rw [←HE2.out,e]
    unfold doE editsV lD
    rw [if_neg (by simp),if_neg (by simpa using HL1.out.ok)]
    rfl
   ·exact h'
  have hylI:(0:Int)<(yl:Int):=by omega
  clear h0
  go_wp2_with fail
  refine hd3.mono ?_
  rintro e w9 ⟨⟨Sh9,rfl,hh9,hS9⟩,hk9⟩
  have HB9:Hid (Below W.heap.size W w9):=below_kept HB7.out hk9 HSh1.out
  have HH9:=hid_of hh9
  obtain ⟨Sg9,hSg9⟩:∃ S,S=Sg1:=⟨_,rfl⟩
  have HG9:Hid (HV w9 g Sg9 D n L2):=by
   rw [hSg9,HLe.out]
   exact HC.out.keep HG7.out hk9.size fun b hb=>hk9.block b (HC.out.inS HG7.out b hb) fun h'=>HDj2.out b h' hb
  clear hd3 hk9 hS9 hh9 hSg9
  go_wp2_with fail
  refine wp_loop_rounds 1 ?_
  rw [rounds_succ]
  have HEn:Hid (∀ w',Below w9.heap.size w9 w'→Calls Tryz.prog 8 #[.pointer (some ⟨h,0,none⟩)] w' fun e w''=>(∃ A' c' zs,e=.returned (.slice A' zs.length c')∧EnsV w'' A' c' zs∧lE zs=L2)∧Below w'.heap.size w' w''):=fun w' hB=>HC.out.entries h Sh9 D n L2 w' (HC.out.later HH9.out hB)
  have HEg:Hid (∀ w',Below w9.heap.size w9 w'→Calls Tryz.prog 8 #[.pointer (some ⟨g,0,none⟩)] w' fun e w''=>(∃ A' c' zs,e=.returned (.slice A' zs.length c')∧EnsV w'' A' c' zs∧lE zs=L2)∧Below w'.heap.size w' w''):=fun w' hB=>HC.out.entries g Sg9 D n L2 w' (HC.out.later HG9.out hB)
  have hcu:cuErr D n L2=0:=cu_right HR.out HEns.out
  have hcl3:(caL D n L2).length≤3000:=by rw [caL_len hcu];exact (allErr_some (ru_right HR.out).1).2.2.1
  obtain ⟨CL,hCL⟩:∃ CL,caL D n L2=CL:=⟨_,rfl⟩
  have HAl2:Hid (∀ w' B c zs,Below w9.heap.size w9 w'→EnsV w' B c zs→lE zs=L2→Calls Tryz.prog 7 #[.agg #[.slice A0 n cap],.slice B zs.length c] w' fun e w''=>(∃ A' c',e=.returned (.tuple #[.slice A' CL.length c',.nilIface])∧CelV w'' A' c' CL)∧Below w'.heap.size w' w''):=fun w' B c zs hB hz hl=>by
   have h':=HAll.out w' B c zs (onB HB9.out hB) hz
   rw [hl,hcu,hCL,errV_zero] at h'
   exact h'
  have HCe:Hid (∀ w',Below w9.heap.size w9 w'→Calls Tryz.prog 6 #[.pointer (some ⟨h,0,none⟩)] w' fun e w''=>(∃ A' c',e=.returned (.slice A' CL.length c')∧CelV w'' A' c' CL)∧Below w'.heap.size w' w''):=fun w' hB=>by
   have h':=HC.out.cells h Sh9 D n L2 w' (HC.out.later HH9.out hB)
   rw [hCL] at h'
   exact h'
  have HCg:Hid (∀ w',Below w9.heap.size w9 w'→Calls Tryz.prog 6 #[.pointer (some ⟨g,0,none⟩)] w' fun e w''=>(∃ A' c',e=.returned (.slice A' CL.length c')∧CelV w'' A' c' CL)∧Below w'.heap.size w' w''):=fun w' hB=>by
   have h':=HC.out.cells g Sg9 D n L2 w' (HC.out.later HG9.out hB)
   rw [hCL] at h'
   exact h'
  have HSm:Hid (∀ w' A1 c1 A2 c2,CelV w' A1 c1 CL→CelV w' A2 c2 CL→Calls Tryz.prog 9 #[.slice A1 CL.length c1,.slice A2 CL.length c2] w' fun e w''=>e=.returned (.bool true)∧Below w'.heap.size w' w''):=fun w' A1 c1 A2 c2 h1 h2=>samecells_any A1 A2 c1 c2 CL w' (by rw [←hCL];exact hcl3) h1 h2
  have HSe:Hid (∀ w' A1 c1 zs A2 c2 us,EnsV w' A1 c1 zs→EnsV w' A2 c2 us→lE zs=L2→lE us=L2→Calls Tryz.prog 10 #[.slice A1 zs.length c1,.slice A2 us.length c2] w' fun e w''=>e=.returned (.bool true)∧Below w'.heap.size w' w''):=fun w' A1 c1 zs A2 c2 us h1 h2 e1 e2=>by
   have hE:=HEns.out
   rw [←e1] at hE
   exact sameents_any A1 A2 c1 c2 zs us w' (e1.trans e2.symm) (by rw [←lE_len];exact hE.few) (fresh_of hE) h1 h2
  clear hcu hcl3 hCL HEns HAll HX HY HDim HL1 HL2 HE2
  obtain ⟨o0,hq⟩:=HBx.out w9 HB9.out
  have HO:Hid (∀ w',Below w9.heap.size w9 w'→w'.cell? ⟨w.heap.size,0,none⟩=some (.slice A0 n cap)∧w.heap.size<w'.heap.size):=fun w' hB=>HBx.out w' (onB HB9.out hB)
  go_wp2_with fail
  go_cut [15,20] from 111 (fun s15 s20 wx=>s15=.nilIface∧∃ A' c',s20=.slice A' CL.length c'∧CelV wx A' c' CL∧Below w9.heap.size w9 wx)
  case first =>
   go_region_held3 (fun w'=>Below w9.heap.size w9 w'∧w'.cell? ⟨w.heap.size,0,none⟩=some (.slice A0 n cap))
    ((refine keepHo hq o0 ?_;go_grown;done))
    (first
     | (go_at_call 8;refine (HEn.out _ (by go_grown)).mono ?_;rintro e wa ⟨⟨Aa,ca,zs,rfl,hza,hzl⟩,hba⟩;have hNa:=onB (W0:=w9) (by go_grown) hba;have hsa:=hNa.size;clear hba)
     | (go_at_call 7;refine (HAl2.out _ _ _ _ (by go_grown) (hza.later (by go_grown)) hzl).mono ?_;rintro e wb ⟨⟨Ab,cb,rfl,hcb⟩,hbb⟩;have hNb:=onB (W0:=w9) (by go_grown) hbb;have hsb:=hNb.size;clear hbb))
   all_goals go_wp2_with fail
   all_goals go_meet
   all_goals exact ⟨rfl,_,_,rfl,hcb.later (by go_grown),by go_grown⟩
  case rest =>
  obtain ⟨rfl,Ac,cc,rfl,hCc,hBc⟩:=hcut
  obtain ⟨wd,rfl⟩:∃ wd:World,wd=wc:=⟨_,rfl⟩
  have HCc:=hid_of hCc
  have HBc:=hid_of hBc
  have h1:=HCe.out wd hBc
  clear hCc hBc o0 hq
  go_wp2_with fail
  refine h1.mono ?_
  rintro e u1 ⟨⟨Ae,ce,rfl,hCe1⟩,hbu1⟩
  have HU1:Hid (Below w9.heap.size w9 u1):=onB HBc.out hbu1
  have HC1:Hid (CelV u1 Ac cc CL):=HCc.out.later hbu1
  have h2:=HSm.out u1 Ae ce Ac cc hCe1 HC1.out
  clear h1 hbu1 hCe1
  go_wp2_with fail
  refine h2.mono ?_
  rintro e u2 ⟨rfl,hbu2⟩
  have HU2:Hid (Below w9.heap.size w9 u2):=onB HU1.out hbu2
  have HC2:Hid (CelV u2 Ac cc CL):=HC1.out.later hbu2
  have h3:=HCg.out u2 HU2.out
  clear h2 hbu2
  go_wp2_with fail
  refine h3.mono ?_
  rintro e u3 ⟨⟨Af,cf,rfl,hCf⟩,hbu3⟩
  have HU3:Hid (Below w9.heap.size w9 u3):=onB HU2.out hbu3
  have h4:=HSm.out u3 Af cf Ac cc hCf (HC2.out.later hbu3)
  clear h3 hbu3 hCf
  go_wp2_with fail
  refine h4.mono ?_
  rintro e u4 ⟨rfl,hbu4⟩
  have HU4:Hid (Below w9.heap.size w9 u4):=onB HU3.out hbu4
  have h5:=HEg.out u4 HU4.out
  clear h4 hbu4
  go_wp2_with fail
  refine h5.mono ?_
  rintro e u5 ⟨⟨Ag,cg,zg,rfl,hzg,hlg⟩,hbu5⟩
  have HU5:Hid (Below w9.heap.size w9 u5):=onB HU4.out hbu5
  have HZg:=hid_of hzg
  have HLg:=hid_of hlg
  have h6:=HEn.out u5 HU5.out
  clear h5 hbu5 hzg hlg
  go_wp2_with fail
  refine h6.mono ?_
  rintro e u6 ⟨⟨Ah,ch,zh,rfl,hzh,hlh⟩,hbu6⟩
  have HU6:Hid (Below w9.heap.size w9 u6):=onB HU5.out hbu6
  have h7:=HSe.out u6 Ag cg zg Ah ch zh (HZg.out.later hbu6) hzh HLg.out hlh
  clear h6 hbu6 hzh hlh
  go_wp2_with fail
  refine h7.mono ?_
  rintro e u7 ⟨rfl,hbu7⟩
  have HU7:Hid (Below w9.heap.size w9 u7):=onB HU6.out hbu7
  clear h7 hbu7
  go_wp2_with fail
  go_ret
  exact ⟨rfl,onB HB0.out (onB HB9.out HU7.out)⟩
 case pos =>
 subst h0
 rw [errV_zero] at hd3
 obtain ⟨h60,hLe,hEach⟩:=do_all HL1.out HE2.out
 rw [lD_len,Hyl.out] at h60
 have HLe:Hid (L2=edTo L1 (lD ys) yl):=by
  have h':=hLe
  rw [HL2.out,lD_len,Hyl.out] at h'
  exact h'
 have HEach:Hid (∀ k,k<yl→editErr D n (edTo L1 (lD ys) k) (ys.getD k noD).x=0∧Ens D n (edTo L1 (lD ys) k)):=fun k hk=>by
  have h':=hEach k (by rw [lD_len,Hyl.out];exact hk)
  rw [lD_at] at h'
  exact h'
 have hy60:(yl:Int)≤60:=by omega
 have HDo1:Hid (∀ k w' S',k<yl→HV w' g S' D n (edTo L1 (lD ys) k)→Below W.heap.size W w'→∃ b o,Ay=some ⟨b,o,none⟩∧∃ N3:Nat,Calls Tryz.prog 5 #[.pointer (some ⟨g,0,none⟩),.slice (some ⟨b,o+k*3,none⟩) 1 (cy-k)] w' fun e w''=>(∃ S'',e=.returned (.tuple #[.int .i64 (N3:Nat),.nilIface])∧HV w'' g S'' D n (edTo L1 (lD ys) (k+1))∧∀ b,S'' b→S' b∨w'.heap.size≤b)∧Kept w'.heap.size S' w' w''):=fun k w' S' hk hg' hB'=>by
  have hk':k<ys.length:=by rw [Hyl.out];exact hk
  obtain ⟨b,o,hA⟩:∃ b o,Ay=some ⟨b,o,none⟩:=by
   obtain ⟨-,-,h' | ⟨b,o,h',-⟩⟩:=HY.out w' hB'
   ·rw [h'] at hk';simp at hk'
   ·exact ⟨b,o,h'⟩
  refine ⟨b,o,hA,doN D n (edTo L1 (lD ys) k) [(ys.getD k noD).x],?_⟩
  have hY':=HY.out w' hB'
  rw [hA] at hY'
  have h':=HC.out.edit g S' D n (edTo L1 (lD ys) k) (some ⟨b,o+k*3,none⟩) (cy-k) [ys.getD k noD] w' hg' (hY'.one hk')
  obtain ⟨e1,e2⟩:=HEach.out k hk
  obtain ⟨d1,d2⟩:=do_one e2 e1
  have hl':lD [ys.getD k noD]=[(ys.getD k noD).x]:=rfl
  rw [hl',d1,d2,errV_zero] at h'
  rw [edTo_succ L1 (lD ys) (by rw [lD_len];exact hk'),lD_at]
  exact h'
 clear hLe hEach
 go_wp2_with fail
 refine hd3.mono ?_
 rintro e w8 ⟨⟨Sh9,rfl,hh8,hS8⟩,hk8⟩
 have HB8:Hid (Below W.heap.size W w8):=below_kept HB7.out hk8 HSh1.out
 have HH8:=hid_of hh8
 have HSh9:Hid (∀ b,Sh9 b→W.heap.size≤b):=fun b hb=>(hS8 b hb).elim (HSh1.out b) fun h'=>Nat.le_trans HB7.out.size h'
 have HG8:Hid (HV w8 g Sg1 D n L1):=HC.out.keep HG7.out hk8.size fun b hb=>hk8.block b (HC.out.inS HG7.out b hb) fun h'=>HDj2.out b h' hb
 have HDj8:Hid (∀ b,Sh9 b→¬ Sg1 b):=fun b hb hb'=>(hS8 b hb).elim (fun h'=>HDj2.out b h' hb') fun h'=>by
  have:=HC.out.inS HG7.out b hb'
  omega
 clear hd3 hk8 hS8 hh8
 go_wp2_with fail
 go_loopg [17] yl (fun gg s17 wr => ∃ (k:Nat),k≤yl∧gg=yl-k∧s17=.int .i64 k∧Hid (∃ Sr,HV wr g Sr D n (edTo L1 (lD ys) k)∧HV wr h Sh9 D n L2∧(∀ b,Sr b→W.heap.size≤b)∧(∀ b,Sh9 b→¬ Sr b)∧Below W.heap.size W wr))
 case atStart=>exact ⟨0,Nat.zero_le _,rfl,rfl,⟨Sg1,HG8.out,HH8.out,HSg1.out,HDj8.out,HB8.out⟩⟩
 case round =>
  obtain ⟨k,hk,rfl,rfl,HK⟩:=hrel
  by_cases hlt:k<yl
  ·have hki:(k:Int)<(yl:Int):=by omega
   have hk60:(k:Int)<60:=by omega
   obtain ⟨Sr,hg,hh,hSr,hDr,hBr⟩:=HK.out
   obtain ⟨by',oy,rfl,N3,hdk⟩:=HDo1.out k wr Sr hlt hg hBr
   have hcy:cy≠k:=by omega
   have HNext:Hid (∀ w'' S'',HV w'' g S'' D n (edTo L1 (lD ys) (k+1))→(∀ b,S'' b→Sr b∨wr.heap.size≤b)→Kept wr.heap.size Sr wr w''→∃ Sr,HV w'' g Sr D n (edTo L1 (lD ys) (k+1))∧HV w'' h Sh9 D n L2∧(∀ b,Sr b→W.heap.size≤b)∧(∀ b,Sh9 b→¬ Sr b)∧Below W.heap.size W w''):=fun w'' S'' h1 h2 h3 =>
    ⟨S'',h1,HC.out.keep hh h3.size fun b hb=>h3.block b (HC.out.inS hh b hb) (hDr b hb),fun b hb=>(h2 b hb).elim (hSr b) fun h'=>Nat.le_trans hBr.size h',fun b hb hb'=>(h2 b hb').elim (hDr b hb) fun h'=>by
     have:=HC.out.inS hh b hb
     omega,below_kept hBr h3 hSr⟩
   clear hg hh hSr hDr hBr
   go_wp2_with fail
   refine hdk.mono ?_
   rintro e w'' ⟨⟨S'',rfl,h1,h2⟩,h3⟩
   have HK2:=hid_of (HNext.out w'' S'' h1 h2 h3)
   clear hdk h1 h2 h3
   go_wp2_with fail
   go_roundg (yl-(k+1))
   case measure=>omega
   case rel=>exact ⟨k+1,by omega,rfl,by go_num,HK2⟩
  ·have hke:k=yl:=by omega
   subst hke
   obtain ⟨Sg9,hg9,hh9,-,-,hB9⟩:=HK.out
   obtain ⟨w9,rfl⟩:∃ w9,w9=wr:=⟨_,rfl⟩
   have HG9:Hid (HV w9 g Sg9 D n L2):=by rw [HLe.out];exact hg9
   have HH9:=hid_of hh9
   have HB9:=hid_of hB9
   clear hg9 hh9 hB9 HK HDo1 HEach
   have HEn:Hid (∀ w',Below w9.heap.size w9 w'→Calls Tryz.prog 8 #[.pointer (some ⟨h,0,none⟩)] w' fun e w''=>(∃ A' c' zs,e=.returned (.slice A' zs.length c')∧EnsV w'' A' c' zs∧lE zs=L2)∧Below w'.heap.size w' w''):=fun w' hB=>HC.out.entries h Sh9 D n L2 w' (HC.out.later HH9.out hB)
   have HEg:Hid (∀ w',Below w9.heap.size w9 w'→Calls Tryz.prog 8 #[.pointer (some ⟨g,0,none⟩)] w' fun e w''=>(∃ A' c' zs,e=.returned (.slice A' zs.length c')∧EnsV w'' A' c' zs∧lE zs=L2)∧Below w'.heap.size w' w''):=fun w' hB=>HC.out.entries g Sg9 D n L2 w' (HC.out.later HG9.out hB)
   have hcu:cuErr D n L2=0:=cu_right HR.out HEns.out
   have hcl3:(caL D n L2).length≤3000:=by rw [caL_len hcu];exact (allErr_some (ru_right HR.out).1).2.2.1
   obtain ⟨CL,hCL⟩:∃ CL,caL D n L2=CL:=⟨_,rfl⟩
   have HAl2:Hid (∀ w' B c zs,Below w9.heap.size w9 w'→EnsV w' B c zs→lE zs=L2→Calls Tryz.prog 7 #[.agg #[.slice A0 n cap],.slice B zs.length c] w' fun e w''=>(∃ A' c',e=.returned (.tuple #[.slice A' CL.length c',.nilIface])∧CelV w'' A' c' CL)∧Below w'.heap.size w' w''):=fun w' B c zs hB hz hl=>by
    have h':=HAll.out w' B c zs (onB HB9.out hB) hz
    rw [hl,hcu,hCL,errV_zero] at h'
    exact h'
   have HCe:Hid (∀ w',Below w9.heap.size w9 w'→Calls Tryz.prog 6 #[.pointer (some ⟨h,0,none⟩)] w' fun e w''=>(∃ A' c',e=.returned (.slice A' CL.length c')∧CelV w'' A' c' CL)∧Below w'.heap.size w' w''):=fun w' hB=>by
    have h':=HC.out.cells h Sh9 D n L2 w' (HC.out.later HH9.out hB)
    rw [hCL] at h'
    exact h'
   have HCg:Hid (∀ w',Below w9.heap.size w9 w'→Calls Tryz.prog 6 #[.pointer (some ⟨g,0,none⟩)] w' fun e w''=>(∃ A' c',e=.returned (.slice A' CL.length c')∧CelV w'' A' c' CL)∧Below w'.heap.size w' w''):=fun w' hB=>by
    have h':=HC.out.cells g Sg9 D n L2 w' (HC.out.later HG9.out hB)
    rw [hCL] at h'
    exact h'
   have HSm:Hid (∀ w' A1 c1 A2 c2,CelV w' A1 c1 CL→CelV w' A2 c2 CL→Calls Tryz.prog 9 #[.slice A1 CL.length c1,.slice A2 CL.length c2] w' fun e w''=>e=.returned (.bool true)∧Below w'.heap.size w' w''):=fun w' A1 c1 A2 c2 h1 h2=>samecells_any A1 A2 c1 c2 CL w' (by rw [←hCL];exact hcl3) h1 h2
   have HSe:Hid (∀ w' A1 c1 zs A2 c2 us,EnsV w' A1 c1 zs→EnsV w' A2 c2 us→lE zs=L2→lE us=L2→Calls Tryz.prog 10 #[.slice A1 zs.length c1,.slice A2 us.length c2] w' fun e w''=>e=.returned (.bool true)∧Below w'.heap.size w' w''):=fun w' A1 c1 zs A2 c2 us h1 h2 e1 e2=>by
    have hE:=HEns.out
    rw [←e1] at hE
    exact sameents_any A1 A2 c1 c2 zs us w' (e1.trans e2.symm) (by rw [←lE_len];exact hE.few) (fresh_of hE) h1 h2
   clear hcu hcl3 hCL HEns HAll HX HY HDim HL1 HL2 HE2
   obtain ⟨o0,hq⟩:=HBx.out w9 HB9.out
   have HO:Hid (∀ w',Below w9.heap.size w9 w'→w'.cell? ⟨w.heap.size,0,none⟩=some (.slice A0 n cap)∧w.heap.size<w'.heap.size):=fun w' hB=>HBx.out w' (onB HB9.out hB)
   go_wp2_with fail
   go_cut [15,20] from 111 (fun s15 s20 wx=>s15=.nilIface∧∃ A' c',s20=.slice A' CL.length c'∧CelV wx A' c' CL∧Below w9.heap.size w9 wx)
   case first =>
    go_region_held3 (fun w'=>Below w9.heap.size w9 w'∧w'.cell? ⟨w.heap.size,0,none⟩=some (.slice A0 n cap))
     ((refine keepHo hq o0 ?_;go_grown;done))
     (first
      | (go_at_call 8;refine (HEn.out _ (by go_grown)).mono ?_;rintro e wa ⟨⟨Aa,ca,zs,rfl,hza,hzl⟩,hba⟩;have hNa:=onB (W0:=w9) (by go_grown) hba;have hsa:=hNa.size;clear hba)
      | (go_at_call 7;refine (HAl2.out _ _ _ _ (by go_grown) (hza.later (by go_grown)) hzl).mono ?_;rintro e wb ⟨⟨Ab,cb,rfl,hcb⟩,hbb⟩;have hNb:=onB (W0:=w9) (by go_grown) hbb;have hsb:=hNb.size;clear hbb))
    all_goals go_wp2_with fail
    all_goals go_meet
    all_goals exact ⟨rfl,_,_,rfl,hcb.later (by go_grown),by go_grown⟩
   case rest =>
   obtain ⟨rfl,Ac,cc,rfl,hCc,hBc⟩:=hcut
   obtain ⟨wd,rfl⟩:∃ wd:World,wd=wc:=⟨_,rfl⟩
   have HCc:=hid_of hCc
   have HBc:=hid_of hBc
   have h1:=HCe.out wd hBc
   clear hCc hBc o0 hq
   go_wp2_with fail
   refine h1.mono ?_
   rintro e u1 ⟨⟨Ae,ce,rfl,hCe1⟩,hbu1⟩
   have HU1:Hid (Below w9.heap.size w9 u1):=onB HBc.out hbu1
   have HC1:Hid (CelV u1 Ac cc CL):=HCc.out.later hbu1
   have h2:=HSm.out u1 Ae ce Ac cc hCe1 HC1.out
   clear h1 hbu1 hCe1
   go_wp2_with fail
   refine h2.mono ?_
   rintro e u2 ⟨rfl,hbu2⟩
   have HU2:Hid (Below w9.heap.size w9 u2):=onB HU1.out hbu2
   have HC2:Hid (CelV u2 Ac cc CL):=HC1.out.later hbu2
   have h3:=HCg.out u2 HU2.out
   clear h2 hbu2
   go_wp2_with fail
   refine h3.mono ?_
   rintro e u3 ⟨⟨Af,cf,rfl,hCf⟩,hbu3⟩
   have HU3:Hid (Below w9.heap.size w9 u3):=onB HU2.out hbu3
   have h4:=HSm.out u3 Af cf Ac cc hCf (HC2.out.later hbu3)
   clear h3 hbu3 hCf
   go_wp2_with fail
   refine h4.mono ?_
   rintro e u4 ⟨rfl,hbu4⟩
   have HU4:Hid (Below w9.heap.size w9 u4):=onB HU3.out hbu4
   have h5:=HEg.out u4 HU4.out
   clear h4 hbu4
   go_wp2_with fail
   refine h5.mono ?_
   rintro e u5 ⟨⟨Ag,cg,zg,rfl,hzg,hlg⟩,hbu5⟩
   have HU5:Hid (Below w9.heap.size w9 u5):=onB HU4.out hbu5
   have HZg:=hid_of hzg
   have HLg:=hid_of hlg
   have h6:=HEn.out u5 HU5.out
   clear h5 hbu5 hzg hlg
   go_wp2_with fail
   refine h6.mono ?_
   rintro e u6 ⟨⟨Ah,ch,zh,rfl,hzh,hlh⟩,hbu6⟩
   have HU6:Hid (Below w9.heap.size w9 u6):=onB HU5.out hbu6
   have h7:=HSe.out u6 Ag cg zg Ah ch zh (HZg.out.later hbu6) hzh HLg.out hlh
   clear h6 hbu6 hzh hlh
   go_wp2_with fail
   refine h7.mono ?_
   rintro e u7 ⟨rfl,hbu7⟩
   have HU7:Hid (Below w9.heap.size w9 u7):=onB HU6.out hbu7
   clear h7 hbu7
   go_wp2_with fail
   go_ret
   exact ⟨rfl,onB HB0.out (onB HB9.out HU7.out)⟩
end Go.Proofs.YtnlfpaopfloklaaGreatDoor
