/-
  What tallylaw2.NeedHolds answers, called in whatever memory, of whatever All of package calc and Leafs and Dirty of package need tell as they should: true.
-/
import Derived.Test.YtfngmnhkhfgmjagGreatDoorJDBN
namespace Go.Proofs.YtfngmnhkhfgmjagGreatDoor
open Go.ChangeShapes Go.WideShapes Go.ChangeAt Go.RowKit
set_option maxRecDepth 20000
theorem bkO {w:World} {o:Obj} {k:Nat} {x:Obj} (h:w.heap[k]?=some x):(w.alloc o).heap[k]?=some x:=by
 rw [heap_alloc_old _ _ (Array.getElem?_eq_some_iff.1 h).1]
 exact h
theorem bkN {w:World} {cs:Array Value} {t k:Nat} (h:w.heap.size=k):(w.alloc (.cells cs t)).heap[k]?=some (.cells cs t (0,0)):=by
 subst h
 exact heap_alloc_new ..
def ndmW (w:World):World:=((((w.alloc (.cells #[.string ⟨#[98]⟩,.int .i64 (-1),.int .i64 0,.string ⟨#[]⟩,.string ⟨#[99]⟩,.int .i64 0,.int .i64 1,.string ⟨#[]⟩] 40)).alloc (.cells #[.string ⟨#[97]⟩,.int .i64 0,.slice (some ⟨w.heap.size,0,none⟩) 2 2] 43)).alloc (.cells #[.slice (some ⟨w.heap.size+1,0,none⟩) 1 1] 29)).alloc (.cells #[.int .i64 1] 3)).alloc (.cells #[.slice (some ⟨w.heap.size+3,0,none⟩) 1 1] 44)
theorem ndmW_below (w:World):Below w.heap.size w (ndmW w):=by unfold ndmW;go_grown
theorem ndmW_dims (w:World):DimsV (ndmW w) (some ⟨w.heap.size+1,0,none⟩) 1 1 ndmO (fun _=>some ⟨w.heap.size,0,none⟩) (fun _=>2):=by
 have k0:(ndmW w).heap[w.heap.size]?=some (.cells #[.string ⟨#[98]⟩,.int .i64 (-1),.int .i64 0,.string ⟨#[]⟩,.string ⟨#[99]⟩,.int .i64 0,.int .i64 1,.string ⟨#[]⟩] 40 (0,0)):=by unfold ndmW;exact bkO (bkO (bkO (bkO (bkN rfl))))
 have k1:(ndmW w).heap[w.heap.size+1]?=some (.cells #[.string ⟨#[97]⟩,.int .i64 0,.slice (some ⟨w.heap.size,0,none⟩) 2 2] 43 (0,0)):=by unfold ndmW;exact bkO (bkO (bkO (bkN (by simp))))
 refine ⟨Nat.le_refl _,Or.inr ⟨w.heap.size+1,0,rfl,(Array.getElem?_eq_some_iff.1 k1).1,fun i hi=>?_⟩⟩
 have hi0:i=0:=by omega
 subst hi0
 refine ⟨(Lib.cell_of_heap k1 0).trans rfl,(Lib.cell_of_heap k1 1).trans rfl,(Lib.cell_of_heap k1 2).trans rfl,Nat.le_refl _,Or.inr ⟨w.heap.size,0,rfl,(Array.getElem?_eq_some_iff.1 k0).1,fun j hj=>?_⟩⟩
 have hj2:j<2:=hj
 rcases j with _ | _ | j
 ·exact ⟨(Lib.cell_of_heap k0 0).trans rfl,(Lib.cell_of_heap k0 1).trans rfl,(Lib.cell_of_heap k0 2).trans rfl,(Lib.cell_of_heap k0 3).trans rfl⟩
 ·exact ⟨(Lib.cell_of_heap k0 4).trans rfl,(Lib.cell_of_heap k0 5).trans rfl,(Lib.cell_of_heap k0 6).trans rfl,(Lib.cell_of_heap k0 7).trans rfl⟩
 ·omega
theorem ndmW_pls (w:World):PlsA (ndmW w) (some ⟨w.heap.size+4,0,none⟩) 1 [(⟨[1],some ⟨w.heap.size+3,0,none⟩,1⟩:PL)]:=by
 have k3:IntB (ndmW w) (w.heap.size+3) [1]:=by unfold IntB ndmW;exact bkO (bkN (by simp))
 have k4:(ndmW w).heap[w.heap.size+4]?=some (.cells #[.slice (some ⟨w.heap.size+3,0,none⟩) 1 1] 44 (0,0)):=by unfold ndmW;exact bkN (by simp)
 refine ⟨Nat.le_refl _,Or.inr ⟨w.heap.size+4,0,rfl,(Array.getElem?_eq_some_iff.1 k4).1,fun j hj=>?_⟩,fun x hx=>?_⟩
 ·have hj0:j=0:=by have:j<1:=hj;omega
  subst hj0
  exact (Lib.cell_of_heap k4 0).trans rfl
 ·rw [List.mem_singleton.1 hx]
  exact k3.pl
theorem out_cellH {w w1:World} {A0:Option Addr} {n cap:Nat} (hB:Below (ownOut w A0 n cap 29).heap.size (ownOut w A0 n cap 29) w1):w1.cell? ⟨w.heap.size,0,none⟩=some (.slice A0 n cap)∧w.heap.size<w1.heap.size:=by
 have hS:=ownOut_size w A0 n cap 29
 exact ⟨(hB.cell (p:=⟨w.heap.size,0,none⟩) (by show w.heap.size<_;omega)).trans (ownOut_at ..),by have:=hB.size;omega⟩
set_option maxHeartbeats 16000000 in
theorem nholds_law (A0:Option Addr) (cap n:Nat) (D:Nat→Dm) (A:Nat→Option Addr) (C:Nat→Nat) (AE:Option Addr) (ce:Nat) (xs:List EnL) (Aq:Option Addr) (cq:Nat) (q:List Int) (NN:Int) (Ap:Option Addr) (cp:Nat) (p:List Int) (w:World) (hM:DimsV w A0 cap n D A C) (hEn:EnsV w AE ce xs) (hQ:PlAt w Aq cq q) (hP:PlAt w Ap cp p)
  (hDr:∀ w' A0 cap n D A C Aq cq ys,DimsV w' A0 cap n D A C→PlsA w' Aq cq ys→ys.length≤200→Calls Tryz.prog 28 #[.agg #[.slice A0 n cap],.slice Aq ys.length cq] w' fun e w''=>(∃ A' c',e=.returned (.tuple #[.slice A' (ddL D n (lP ys)).length c',errV (drE D n (lP ys))])∧IntsAt w'' A' c' (ddL D n (lP ys)))∧Below w'.heap.size w' w'')
  (hAll:∀ w' AE ce ys,DimsV w' A0 cap n D A C→EnsV w' AE ce ys→Calls Tryz.prog 9 #[.agg #[.slice A0 n cap],.slice AE ys.length ce] w' fun e w''=>(∃ A' c',e=.returned (.tuple #[.slice A' (caL D n (lE ys)).length c',errV (cuErr D n (lE ys))])∧CelV w'' A' c' (caL D n (lE ys)))∧Below w'.heap.size w' w'')
  (hLf:∀ w',DimsV w' A0 cap n D A C→PlAt w' Ap cp p→Calls Tryz.prog 24 #[.agg #[.slice A0 n cap],.slice Ap p.length cp] w' fun e w''=>(∃ A' c',e=.returned (.tuple #[.slice A' (nlL D n p).length c',errV (neE D n p)])∧IntsAt w'' A' c' (nlL D n p))∧Below w'.heap.size w' w'') :
  Calls Tryz.prog 6 #[.agg #[.slice A0 n cap],.slice AE xs.length ce,.slice Aq q.length cq,.int .i64 NN,.slice Ap p.length cp] w fun e w'=>e=.returned (.bool true)∧Below w.heap.size w w':=by
 have hB0:=ownOut_below w A0 n cap 29
 have HBx:Hid (∀ w1,Below (ownOut w A0 n cap 29).heap.size (ownOut w A0 n cap 29) w1→w1.cell? ⟨w.heap.size,0,none⟩=some (.slice A0 n cap)∧w.heap.size<w1.heap.size):=fun w1 h=>out_cellH h
 obtain ⟨W,hW⟩:∃ W,ownOut w A0 n cap 29=W:=⟨_,rfl⟩
 rw [hW] at hB0 HBx
 unfold ownOut at hW
 have HB0:Hid (Below w.heap.size w W):=hB0
 have hcl:=hDr (ndmW W) (some ⟨W.heap.size+1,0,none⟩) 1 1 ndmO (fun _=>some ⟨W.heap.size,0,none⟩) (fun _=>2) (some ⟨W.heap.size+4,0,none⟩) 1 [(⟨[1],some ⟨W.heap.size+3,0,none⟩,1⟩:PL)] (ndmW_dims W) (ndmW_pls W) (by simp)
 have hlp:lP [(⟨[1],some ⟨W.heap.size+3,0,none⟩,1⟩:PL)]=[[1]]:=rfl
 rw [hlp,ndm_dirty.1,ndm_dirty.2,errV_zero] at hcl
 simp only [List.length_cons,List.length_nil,Nat.zero_add] at hcl
 have hBW:=ndmW_below W
 have hko:(ndmW W).cell? ⟨W.heap.size+2,0,none⟩=some (.slice (some ⟨W.heap.size+1,0,none⟩) 1 1):=by
  have k2:(ndmW W).heap[W.heap.size+2]?=some (.cells #[.slice (some ⟨W.heap.size+1,0,none⟩) 1 1] 29 (0,0)):=by unfold ndmW;exact bkO (bkO (bkN (by simp)))
  exact (Lib.cell_of_heap k2 0).trans rfl
 obtain ⟨W1,hW1⟩:∃ W1,ndmW W=W1:=⟨_,rfl⟩
 rw [hW1] at hcl hBW hko
 unfold ndmW at hW1
 rw [show W.heap.size+3=W.heap.size+1+1+1 from rfl] at hW1
 rw [show W.heap.size+4=W.heap.size+1+1+1+1 from rfl] at hcl
 rw [show W.heap.size+2=W.heap.size+1+1 from rfl] at hko
 have HBW:Hid (Below W.heap.size W W1):=hBW
 obtain ⟨E,hE⟩:∃ E,changeErr D n (lE xs) ⟨q,NN,false⟩=E:=⟨_,rfl⟩
 have HSet:Hid (∀ w',Below W.heap.size W w'→Calls Tryz.prog 30 #[.agg #[.slice A0 n cap],.slice AE xs.length ce,.slice Aq q.length cq,.int .i64 NN] w' fun e w''=>(∃ B c zs,e=.returned (.tuple #[.slice B zs.length c,errV E])∧EnsV w'' B c zs∧lE zs=pickL E (setL (lE xs) q NN))∧Below w'.heap.size w' w''):=fun w' hB=>by
  have h:=iset_any A0 cap n D A C AE ce xs Aq cq q NN w' (hM.later (onB hB0 hB)) (hEn.later (onB hB0 hB)) (hQ.later (onB hB0 hB))
  rw [hE] at h
  exact h
 have HAl:Hid (∀ w',Below W.heap.size W w'→Calls Tryz.prog 9 #[.agg #[.slice A0 n cap],.slice AE xs.length ce] w' fun e w''=>(∃ A' c',e=.returned (.tuple #[.slice A' (caL D n (lE xs)).length c',errV (cuErr D n (lE xs))])∧CelV w'' A' c' (caL D n (lE xs)))∧Below w'.heap.size w' w''):=fun w' hB=>hAll w' AE ce xs (hM.later (onB hB0 hB)) (hEn.later (onB hB0 hB))
 have HAx:Hid (∀ w' B c zs,Below W.heap.size W w'→EnsV w' B c zs→Calls Tryz.prog 9 #[.agg #[.slice A0 n cap],.slice B zs.length c] w' fun e w''=>(∃ A' c',e=.returned (.tuple #[.slice A' (caL D n (lE zs)).length c',errV (cuErr D n (lE zs))])∧CelV w'' A' c' (caL D n (lE zs)))∧Below w'.heap.size w' w''):=fun w' B c zs hB hZ=>hAll w' B c zs (hM.later (onB hB0 hB)) hZ
 have HDx:Hid (∀ w' Ay cy ys,Below W.heap.size W w'→PlsA w' Ay cy ys→ys.length≤200→Calls Tryz.prog 28 #[.agg #[.slice A0 n cap],.slice Ay ys.length cy] w' fun e w''=>(∃ A' c',e=.returned (.tuple #[.slice A' (ddL D n (lP ys)).length c',errV (drE D n (lP ys))])∧IntsAt w'' A' c' (ddL D n (lP ys)))∧Below w'.heap.size w' w''):=fun w' Ay cy ys hB hy hl=>hDr w' A0 cap n D A C Ay cy ys (hM.later (onB hB0 hB)) hy hl
 have HLx:Hid (∀ w',Below W.heap.size W w'→Calls Tryz.prog 24 #[.agg #[.slice A0 n cap],.slice Ap p.length cp] w' fun e w''=>(∃ A' c',e=.returned (.tuple #[.slice A' (nlL D n p).length c',errV (neE D n p)])∧IntsAt w'' A' c' (nlL D n p))∧Below w'.heap.size w' w''):=fun w' hB=>hLf w' (hM.later (onB hB0 hB)) (hP.later (onB hB0 hB))
 have HNp:Hid (∀ w',Below W.heap.size W w'→Calls Tryz.prog 15 #[.agg #[.slice A0 n cap],.slice Ap p.length cp] w' fun e w''=>e=.returned (.tuple #[.int .i64 (numV D n p),errV (placeErr D n p)])∧Below w'.heap.size w' w''):=fun w' hB=>pnumber_any A0 cap n D A C Ap cp p w' (hM.later (onB hB0 hB)) (hP.later (onB hB0 hB))
 have HNq:Hid (∀ w',Below W.heap.size W w'→Calls Tryz.prog 15 #[.agg #[.slice A0 n cap],.slice Aq q.length cq] w' fun e w''=>e=.returned (.tuple #[.int .i64 (numV D n q),errV (placeErr D n q)])∧Below w'.heap.size w' w''):=fun w' hB=>pnumber_any A0 cap n D A C Aq cq q w' (hM.later (onB hB0 hB)) (hQ.later (onB hB0 hB))
 have HQ:Hid (PlAt w Aq cq q):=hQ
 have HE:Hid (changeErr D n (lE xs) ⟨q,NN,false⟩=E):=hE
 obtain ⟨xl,hxl⟩:∃ xl,xs.length=xl:=⟨_,rfl⟩
 rw [hxl] at HSet HAl ⊢
 obtain ⟨ql,hql⟩:∃ ql,q.length=ql:=⟨_,rfl⟩
 have Hql:=hid_of hql
 rw [hql] at HSet HNq ⊢
 obtain ⟨pl,hpl⟩:∃ pl,p.length=pl:=⟨_,rfl⟩
 rw [hpl] at HLx HNp ⊢
 clear hM hEn hQ hP hDr hAll hLf hB0 hlp hBW hE hxl hql hpl
 go_enter Tryz.func6,Tryz.ntmps6
 go_wp2_with fail
 refine hcl.mono ?_
 rintro e w1 ⟨⟨A1,c1,rfl,-⟩,hb1⟩
 have HB1:Hid (Below W.heap.size W w1):=onB HBW.out hb1
 clear hcl hb1 hko hW hW1
 obtain ⟨o0,hq⟩:=HBx.out w1 HB1.out
 have hc:=HSet.out w1 HB1.out
 by_cases hE0:E=0
 case neg =>
  rw [errV_some hE0] at hc
  clear hE0
  go_wp2_with fail
  refine hc.mono ?_
  rintro e w2 ⟨⟨B,cB,zs,rfl,-,-⟩,hb2⟩
  have HB2:Hid (Below W.heap.size W w2):=onB HB1.out hb2
  clear hc hb2 o0 hq
  go_wp2_with fail
  go_ret
  exact ⟨rfl,onB HB0.out HB2.out⟩
 case pos =>
 have HSr:Hid (Ens D n (lE xs)∧InO D n q∧leafV D n q=true∧Ens D n (setL (lE xs) q NN)):=set_right (HE.out.trans hE0)
 subst hE0
 rw [errV_zero] at hc
 go_wp2_with fail
 refine hc.mono ?_
 rintro e w2 ⟨⟨B,cB,zs,rfl,hZ,hZl⟩,hb2⟩
 have HB2:Hid (Below W.heap.size W w2):=onB HB1.out hb2
 have HZ:=hid_of hZ
 have HZl:Hid (lE zs=setL (lE xs) q NN):=hZl
 clear hc hb2 o0 hq hZ hZl
 obtain ⟨zl,hzl⟩:∃ zl,zs.length=zl:=⟨_,rfl⟩
 have Hzl:=hid_of hzl
 rw [hzl]
 clear hzl
 obtain ⟨R,hR⟩:∃ R,(ruErr D n).2.2=R:=⟨_,rfl⟩
 have HR:=hid_of hR
 have HCu:Hid (cuErr D n (lE xs)=R∧cuErr D n (lE zs)=R):=by
  unfold cuErr
  rw [HZl.out,hR,HSr.out.1.ok,HSr.out.2.2.2.ok]
  by_cases h:R=0
  ·rw [if_neg (by simpa using h)];exact ⟨h.symm,h.symm⟩
  ·rw [if_pos h];exact ⟨rfl,rfl⟩
 obtain ⟨o0,hq⟩:=HBx.out w2 HB2.out
 have hc:=HAl.out w2 HB2.out
 rw [HCu.out.1] at hc
 obtain ⟨LA,hLA⟩:∃ LA,caL D n (lE xs)=LA:=⟨_,rfl⟩
 have HLA:=hid_of hLA
 rw [hLA] at hc
 obtain ⟨LB,hLB⟩:∃ LB,caL D n (lE zs)=LB:=⟨_,rfl⟩
 have HLB:=hid_of hLB
 clear hLA hLB hR
 by_cases hR0:R=0
 case neg =>
  rw [errV_some hR0] at hc
  have HR0:=hid_of hR0
  clear hR0
  go_wp2_with fail
  refine hc.mono ?_
  rintro e w3 ⟨⟨A3,c3,rfl,-⟩,hb3⟩
  have HB3:Hid (Below W.heap.size W w3):=onB HB2.out hb3
  have hc2:=HAx.out w3 B cB zs HB3.out (HZ.out.later hb3)
  rw [HCu.out.2,HLB.out,Hzl.out,errV_some HR0.out] at hc2
  clear hc hb3 o0 hq
  obtain ⟨o0,hq⟩:=HBx.out w3 HB3.out
  go_wp2_with fail
  refine hc2.mono ?_
  rintro e w4 ⟨⟨A4,c4,rfl,-⟩,hb4⟩
  have HB4:Hid (Below W.heap.size W w4):=onB HB3.out hb4
  clear hc2 hb4 o0 hq
  go_wp2_with fail
  go_quiet (fail)
  go_wp2_with fail
  go_ret
  exact ⟨by simp,by first | exact onB HB0.out HB4.out | exact below_drewN (onB HB0.out HB4.out) _⟩
 case pos =>
 subst hR0
 rw [errV_zero] at hc
 have HG:Hid ((allErr D n).2.2=0∧AllR D n):=ru_right HR.out
 have HLl:Hid (LA.length=prodN D n∧LB.length=prodN D n):=⟨by rw [←HLA.out];exact caL_len HCu.out.1,by rw [←HLB.out];exact caL_len HCu.out.2⟩
 obtain ⟨PN,hPN⟩:∃ PN,prodN D n=PN:=⟨_,rfl⟩
 have HPN:=hid_of hPN
 have hPN3:PN≤3000:=by rw [←hPN];exact (allErr_some HG.out.1).2.2.1
 have hPNI:(PN:Int)≤3000:=by omega
 rw [HLl.out.1,hPN] at hc
 clear hPN
 obtain ⟨m,hm1,hm2,hm3⟩:=num_lt HSr.out.2.1
 have Hm:Hid (numI D q n=(m:Int)∧m<prodN D n∧placeL D n m=q):=⟨hm1,hm2,hm3⟩
 clear hm1 hm2 hm3
 go_wp2_with fail
 refine hc.mono ?_
 rintro e w3 ⟨⟨A3,c3,rfl,hC3⟩,hb3⟩
 have HB3:Hid (Below W.heap.size W w3):=onB HB2.out hb3
 have HC3:=hid_of hC3
 have hc2:=HAx.out w3 B cB zs HB3.out (HZ.out.later hb3)
 rw [HCu.out.2,HLB.out,Hzl.out,errV_zero,HLl.out.2,HPN.out] at hc2
 clear hc hb3 hC3 o0 hq
 obtain ⟨o0,hq⟩:=HBx.out w3 HB3.out
 go_wp2_with fail
 refine hc2.mono ?_
 rintro e w4 ⟨⟨A4,c4,rfl,hC4⟩,hb4⟩
 have HB4:Hid (Below W.heap.size W w4):=onB HB3.out hb4
 have HC4:Hid (CelV w4 A3 c3 LA∧CelV w4 A4 c4 LB):=⟨HC3.out.later hb4,hC4⟩
 clear hc2 hb4 hC4 o0 hq
 obtain ⟨o0,hq⟩:=HBx.out w4 HB4.out
 obtain ⟨y4,hy4⟩:∃ y,w4.alloc (.cells #[.slice Aq ql cq] 44)=y:=⟨_,rfl⟩
 have hBy:Below w4.heap.size w4 y4:=by rw [←hy4];go_grown
 have hg4:y4.heap[w4.heap.size]?=some (.cells #[.slice Aq ql cq] 44 (0,0)):=by rw [←hy4];exact heap_alloc_new ..
 have hpa:PlsA y4 (some ⟨w4.heap.size,0,none⟩) 1 [(⟨q,Aq,cq⟩:PL)]:=by
  refine ⟨Nat.le_refl _,Or.inr ⟨w4.heap.size,0,rfl,(Array.getElem?_eq_some_iff.1 hg4).1,fun j hj=>?_⟩,fun x hx=>?_⟩
  ·have hj0:j=0:=by have:j<1:=hj;omega
   subst hj0
   show _=some (Value.slice Aq q.length cq)
   rw [Hql.out]
   exact (Lib.cell_of_heap hg4 0).trans rfl
  ·rw [List.mem_singleton.1 hx]
   exact HQ.out.later (onB HB0.out (onB HB4.out hBy))
 have hc:=HDx.out y4 _ _ _ (onB HB4.out hBy) hpa (by simp)
 have hlp:lP [(⟨q,Aq,cq⟩:PL)]=[q]:=rfl
 have hde:drE D n [q]=0:=by
  unfold drE
  rw [HR.out,if_neg (by simp),drTo_one (by rw [←place_shapeN HG.out.1,HSr.out.2.1.ok]) HSr.out.2.2.1]
 have hdl:ddL D n [q]=drtL D n [(m:Int)]:=by
  unfold ddL
  rw [if_pos hde]
  unfold drN
  rw [List.map_cons,List.map_nil,Hm.out.1]
 rw [hlp,hde,hdl,errV_zero] at hc
 obtain ⟨DL,hDL⟩:∃ DL,drtL D n [(m:Int)]=DL:=⟨_,rfl⟩
 have HDL:=hid_of hDL
 rw [hDL] at hc
 have HD3:Hid (DL.length≤3000):=by rw [←hDL];exact sel_3000 HG.out.1 _
 obtain ⟨dl,hdle⟩:∃ dl,DL.length=dl:=⟨_,rfl⟩
 have Hdl:=hid_of hdle
 rw [hdle] at hc
 simp only [List.length_cons,List.length_nil,Nat.zero_add] at hc
 have HBy:Hid (Below W.heap.size W y4):=onB HB4.out hBy
 have HCy:Hid (CelV y4 A3 c3 LA∧CelV y4 A4 c4 LB):=⟨HC4.out.1.later hBy,HC4.out.2.later hBy⟩
 clear hBy hg4 hpa hlp hde hdl hDL hdle
 go_wp2_with fail
 refine hc.mono ?_
 rintro e w5 ⟨⟨A5,c5,rfl,hI5⟩,hb5⟩
 have HB5:Hid (Below W.heap.size W w5):=onB HBy.out hb5
 have HC5:Hid (CelV w5 A3 c3 LA∧CelV w5 A4 c4 LB∧IntsAt w5 A5 c5 DL):=⟨HCy.out.1.later hb5,HCy.out.2.later hb5,hI5⟩
 have HCl:Hid (∀ i,i<PN→inB DL (i:Int)=false→LA.getD i noC=LB.getD i noC):=fun i hi hn=>by
  rw [←HLA.out,←HLB.out,HZl.out]
  refine clean_cell HR.out HSr.out.1 HCu.out.1 (by rw [←HZl.out];exact HCu.out.2) (by rw [HPN.out];exact hi) Hm.out.2.1 Hm.out.2.2 ?_
  rw [HDL.out]
  exact hn
 clear hc hb5 hI5 hy4 o0 hq
 go_wp2_with fail
 go_loopg [22] PN (fun gg s22 wr => ∃ (i:Nat),i≤PN∧gg=PN-i∧s22=.int .i64 i∧Hid (Below w5.heap.size w5 wr))
 case atStart=>exact ⟨0,Nat.zero_le _,rfl,rfl,Below.refl _ _⟩
 case round =>
  obtain ⟨i,hi,rfl,rfl,HBr⟩:=hrel
  obtain ⟨wi,rfl⟩:∃ wi:World,wi=wr:=⟨_,rfl⟩
  by_cases hlt:i<PN
  ·have hii:(i:Int)<(PN:Int):=by omega
   have hh:=has_any A5 c5 DL (i:Int) wi HD3.out (HC5.out.2.2.later HBr.out)
   rw [Hdl.out] at hh
   obtain ⟨ib,hib⟩:∃ ib,inB DL (i:Int)=ib:=⟨_,rfl⟩
   have Hib:=hid_of hib
   rw [hib] at hh
   clear hib
   go_wp2_with fail
   refine hh.mono ?_
   rintro e w6 ⟨rfl,hb6⟩
   have HB6:Hid (Below w5.heap.size w5 w6):=onB HBr.out hb6
   clear hh hb6
   cases ib
   ·have HEq:=hid_of (HCl.out i hlt Hib.out)
    obtain ⟨hca,-,h0 | ⟨ba,oa,rfl,hbwa,hcla⟩⟩:=HC5.out.1.later HB6.out
    ·have:=HLl.out.1;rw [h0,HPN.out] at this;simp at this;omega
    obtain ⟨hcb,-,h0 | ⟨bb,ob,rfl,hbwb,hclb⟩⟩:=HC5.out.2.1.later HB6.out
    ·have:=HLl.out.2;rw [h0,HPN.out] at this;simp at this;omega
    obtain ⟨a0,a1⟩:=hcla i (by rw [HLl.out.1,HPN.out];exact hlt)
    obtain ⟨b0,b1⟩:=hclb i (by rw [HLl.out.2,HPN.out];exact hlt)
    rw [←HEq.out] at b0 b1
    rw [HLl.out.1,HPN.out] at hca
    rw [HLl.out.2,HPN.out] at hcb
    have hcaI:(PN:Int)≤(c3:Int):=by omega
    have hcbI:(PN:Int)≤(c4:Int):=by omega
    generalize (LA.getD i noC).1=va at a0 b0
    generalize (LA.getD i noC).2=vb at a1 b1
    clear hcla hclb
    go_wp2_with fail
    go_quiet (fail)
    go_wp2_with fail
    go_roundg (PN-(i+1))
    case measure=>omega
    case rel=>exact ⟨i+1,by omega,rfl,by go_num,hid_of (onB HB6.out (below_drewN (Below.refl _ _) _))⟩
   ·go_wp2_with fail
    go_quiet (fail)
    go_wp2_with fail
    go_roundg (PN-(i+1))
    case measure=>omega
    case rel=>exact ⟨i+1,by omega,rfl,by go_num,hid_of (onB HB6.out (below_drewN (Below.refl _ _) _))⟩
  ·have hie:i=PN:=by omega
   subst hie
   have HBi:Hid (Below W.heap.size W wi):=onB HB5.out HBr.out
   have HIi:Hid (IntsAt wi A5 c5 DL):=HC5.out.2.2.later HBr.out
   obtain ⟨o0,hq⟩:=HBx.out wi HBi.out
   have hc:=HNp.out wi HBi.out
   obtain ⟨vp,hvp⟩:∃ vp,numV D n p=vp:=⟨_,rfl⟩
   have Hvp:=hid_of hvp
   rw [hvp] at hc
   have hnq:numV D n q=(m:Int)∧placeErr D n q=0:=by
    refine ⟨?_,HSr.out.2.1.ok⟩
    unfold numV
    rw [if_pos HSr.out.2.1.ok,Hm.out.1]
   have Hnq:=hid_of hnq
   have hne:neE D n p=placeErr D n p:=by unfold neE;rw [HR.out,if_neg (by simp),place_shapeN HG.out.1]
   have Hne:=hid_of hne
   clear hvp hnq hne
   by_cases hpe:placeErr D n p=0
   case neg =>
    have Hpe:=hid_of hpe
    rw [errV_some hpe] at hc
    generalize placeErr D n p=EP at hc Hne Hpe
    clear hpe
    go_wp2_with fail
    refine hc.mono ?_
    rintro e w6 ⟨rfl,hb6⟩
    have HB6:Hid (Below W.heap.size W w6):=onB HBi.out hb6
    clear hc hb6 o0 hq
    obtain ⟨o0,hq⟩:=HBx.out w6 HB6.out
    have hc:=HNq.out w6 HB6.out
    rw [Hnq.out.1,Hnq.out.2,errV_zero] at hc
    go_wp2_with fail
    refine hc.mono ?_
    rintro e w7 ⟨rfl,hb7⟩
    have HB7:Hid (Below W.heap.size W w7):=onB HB6.out hb7
    clear hc hb7 o0 hq
    obtain ⟨o0,hq⟩:=HBx.out w7 HB7.out
    have hc:=HLx.out w7 HB7.out
    rw [Hne.out,errV_some Hpe.out] at hc
    generalize (nlL D n p).length=nll at hc
    go_wp2_with fail
    refine hc.mono ?_
    rintro e w8 ⟨⟨A8,c8,rfl,-⟩,hb8⟩
    have HB8:Hid (Below W.heap.size W w8):=onB HB7.out hb8
    clear hc hb8 o0 hq
    go_wp2_with fail
    go_ret
    exact ⟨by simp,onB HB0.out HB8.out⟩
   case pos =>
    have Hpe:=hid_of hpe
    obtain ⟨x,hx1,hx2,hx3⟩:=num_lt (inO_of hpe)
    have Hx:Hid (numI D p n=(x:Int)∧x<prodN D n):=⟨hx1,hx2⟩
    have hvx:vp=(x:Int):=by rw [←Hvp.out];unfold numV;rw [if_pos hpe,hx1]
    have HSw:Hid (inB (nlL D n p) (m:Int)=inB DL (x:Int)):=by
     show _=_
     unfold nlL
     rw [if_pos (by rw [Hne.out];exact hpe),hx1,Int.toNat_natCast,←HDL.out]
     exact need_swap hx2 Hm.out.2.1 (by rw [Hm.out.2.2];exact HSr.out.2.2.1)
    have HL3:Hid ((nlL D n p).length≤3000):=by
     show _≤_
     unfold nlL
     rw [if_pos (by rw [Hne.out];exact hpe)]
     exact sel_3000 HG.out.1 _
    rw [hpe,errV_zero,hvx] at hc
    clear hpe hx1 hx2 hx3 hvx Hvp
    go_wp2_with fail
    refine hc.mono ?_
    rintro e w6 ⟨rfl,hb6⟩
    have HB6:Hid (Below W.heap.size W w6):=onB HBi.out hb6
    have HI6:Hid (IntsAt w6 A5 c5 DL):=HIi.out.later hb6
    clear hc hb6 o0 hq
    obtain ⟨o0,hq⟩:=HBx.out w6 HB6.out
    have hc:=HNq.out w6 HB6.out
    rw [Hnq.out.1,Hnq.out.2,errV_zero] at hc
    go_wp2_with fail
    refine hc.mono ?_
    rintro e w7 ⟨rfl,hb7⟩
    have HB7:Hid (Below W.heap.size W w7):=onB HB6.out hb7
    have HI7:Hid (IntsAt w7 A5 c5 DL):=HI6.out.later hb7
    clear hc hb7 o0 hq
    obtain ⟨o0,hq⟩:=HBx.out w7 HB7.out
    have hc:=HLx.out w7 HB7.out
    rw [Hne.out,Hpe.out,errV_zero] at hc
    obtain ⟨LL,hLL⟩:∃ LL,nlL D n p=LL:=⟨_,rfl⟩
    rw [hLL] at hc HSw HL3
    obtain ⟨ll,hll⟩:∃ ll,LL.length=ll:=⟨_,rfl⟩
    have Hll:=hid_of hll
    rw [hll] at hc
    clear hLL hll
    go_wp2_with fail
    refine hc.mono ?_
    rintro e w8 ⟨⟨A8,c8,rfl,hI8⟩,hb8⟩
    have HB8:Hid (Below W.heap.size W w8):=onB HB7.out hb8
    have HI8:Hid (IntsAt w8 A5 c5 DL):=HI7.out.later hb8
    have hh:=has_any A8 c8 LL (m:Int) w8 HL3.out hI8
    rw [Hll.out,HSw.out] at hh
    obtain ⟨ub,hub⟩:∃ ub,inB DL (x:Int)=ub:=⟨_,rfl⟩
    have Hub:=hid_of hub
    rw [hub] at hh
    clear hc hb8 o0 hq hI8 hub
    go_wp2_with fail
    refine hh.mono ?_
    rintro e w9 ⟨rfl,hb9⟩
    have HB9:Hid (Below W.heap.size W w9):=onB HB8.out hb9
    have hh2:=has_any A5 c5 DL (x:Int) w9 HD3.out (HI8.out.later hb9)
    rw [Hdl.out,Hub.out] at hh2
    clear hh hb9
    go_wp2_with fail
    refine hh2.mono ?_
    rintro e wa ⟨rfl,hba⟩
    have HBa:Hid (Below W.heap.size W wa):=onB HB9.out hba
    clear hh2 hba
    go_wp2_with fail
    first | (go_quiet (fail);go_wp2_with fail) | skip
    go_ret
    exact ⟨by simp,by first | exact onB HB0.out HBa.out | exact below_drewN (onB HB0.out HBa.out) _⟩
end Go.Proofs.YtfngmnhkhfgmjagGreatDoor
