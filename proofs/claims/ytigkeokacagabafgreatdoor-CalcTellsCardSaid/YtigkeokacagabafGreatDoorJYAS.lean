/-
  The document's own answers on places (tallyref1): what is wrong with a place, its number, whether it is of leafs, a number's place.
-/
import Derived.Test.YtigkeokacagabafGreatDoorJYAP
namespace Go.Proofs.YtigkeokacagabafGreatDoor
open Go.ChangeShapes Go.WideShapes Go.ChangeAt Go.RowKit
set_option maxRecDepth 20000
theorem rright_any (A0:Option Addr) (cap n:Nat) (D:Nat→Dm) (A:Nat→Option Addr) (C:Nat→Nat) (w:World) (hM:DimsV w A0 cap n D A C):Calls Tryz.prog 63 #[.agg #[.slice A0 n cap]] w fun e w'=>e=.returned (.int .i64 (allErr D n).2.2)∧Below w.heap.size w w':=by
 have hB0:=ownOut_below w A0 n cap 42
 have h:=routline_any A0 cap n D A C (ownOut w A0 n cap 42) (hM.later hB0)
 have HB0:Hid (Below w.heap.size w (ownOut w A0 n cap 42)):=hB0
 clear hM hB0
 generalize (allErr D n).2.2=v at h
 generalize (allErr D n).1=x at h
 generalize (allErr D n).2.1=y at h
 go_enter Tryz.func63,Tryz.ntmps63
 go_wp2_with fail
 refine h.mono ?_
 rintro e w1 ⟨rfl,hb1⟩
 go_wp2_with fail
 go_ret
 exact ⟨rfl,onB HB0.out hb1⟩
set_option maxHeartbeats 4000000 in
theorem rplace_any (A0:Option Addr) (cap n:Nat) (D:Nat→Dm) (A:Nat→Option Addr) (C:Nat→Nat) (Ap:Option Addr) (cp:Nat) (L:List Int) (w:World) (hR:(allErr D n).2.2=0) (hM:DimsV w A0 cap n D A C) (hP:PlAt w Ap cp L):Calls Tryz.prog 15 #[.agg #[.slice A0 n cap],.slice Ap L.length cp] w fun e w'=>e=.returned (.int .i64 (shapeErr D n L))∧Below w.heap.size w w':=by
 obtain ⟨hn1,hn4,-,hd⟩:=allErr_some hR
 have hn':(n:Int)≤4:=by omega
 have HD:Hid (∀ i,i<n→1≤(D i).n∧(D i).n≤12):=hd
 clear hd hR
 by_cases hl:L.length=n
 ·have hle:((L.length:Int) == (n:Int))=true:=by simp [hl]
  have HL:Hid (L.length=n):=hl
  obtain ⟨hcp,h0 | ⟨bp,op,rfl,hbp,hcell⟩⟩:=hP
  ·rw [h0] at hl;simp at hl;omega
  obtain ⟨hcap,h0 | ⟨b,o,rfl,hMs⟩⟩:=hM
  ·omega
  rw [hl] at hle hcp
  rw [hl]
  have HC:Hid (∀ j,j<n→w.cell? ⟨bp,op+j,none⟩=some (.int .i64 (L.getD j 0))):=fun j hj=>hcell j (by omega)
  have HMs:Hid (DimsAt w b o n D A C):=hMs
  have HB0:Hid (Below w.heap.size w (ownOut w (some ⟨b,o,none⟩) n cap 42)):=ownOut_below ..
  have HO:Hid (∀ w',Below (w.heap.size+1) (ownOut w (some ⟨b,o,none⟩) n cap 42) w'→w'.cell? ⟨w.heap.size,0,none⟩=some (.slice (some ⟨b,o,none⟩) n cap)):=fun w' hw'=>(hw'.cell (p:=⟨w.heap.size,0,none⟩) (by show w.heap.size<_;omega)).trans (ownOut_at ..)
  clear hl hcell hMs
  go_enter Tryz.func15,Tryz.ntmps15
  go_wp2_with fail
  go_loopg [5] n (fun g s5 wr => ∃ (k:Nat),k≤n∧g=n-k∧s5=.int .i64 k∧findFrom (outP D L) (n-k) k=findFrom (outP D L) n 0∧Below (w.heap.size+1) (ownOut w (some ⟨b,o,none⟩) n cap 42) wr)
  case atStart=>exact ⟨0,Nat.zero_le _,rfl,rfl,rfl,Below.refl _ _⟩
  case round =>
   obtain ⟨k,hk,rfl,rfl,hf,hBw⟩:=hrel
   have HF:Hid (findFrom (outP D L) (n-k) k=findFrom (outP D L) n 0):=hf
   have HW:Hid (Below (w.heap.size+1) (ownOut w (some ⟨b,o,none⟩) n cap 42) wr):=hBw
   have hBo:Below w.heap.size w wr:=HB0.out.trans (hBw.mono (by omega))
   have HBo:Hid (Below w.heap.size w wr):=hBo
   by_cases hlt:k<n
   ·have hki:(k:Int)<(n:Int):=by omega
    have HSK:Hid (n-k=(n-(k+1))+1):=by show _=_;omega
    obtain ⟨-,-,h3,-⟩:=(HMs.out.later hBo).2 k hlt
    have hcx:wr.cell? ⟨bp,op+k,none⟩=some (.int .i64 (L.getD k 0)):=(hBo.cell (p:=⟨bp,op+k,none⟩) hbp).trans (HC.out k hlt)
    have c0:=HO.out wr hBw
    have hm:=(HD.out k hlt).2
    have HOK:Hid (outP D L k=(decide (L.getD k 0<0) || decide (((D k).n:Int)≤L.getD k 0))):=rfl
    generalize L.getD k 0=x at hcx HOK
    generalize (D k).n=m at h3 hm HOK
    have hm':(m:Int)≤12:=by omega
    clear hf hBw hBo
    by_cases hx0:x<0
    ·have HN:Hid (outP D L k=true):=by show _=_;rw [HOK.out,decide_eq_true hx0];rfl
     go_wp2_with fail
     go_quiet (fail)
     go_wp2_with fail
     go_ret
     refine ⟨?_,below_drewN HBo.out _⟩
     rw [sh1 HL.out]
     ·rfl
     ·rw [←HF.out,HSK.out,findFrom_hit _ HN.out];omega
    ·have hx0':0≤x:=by omega
     have hxd:decide (x<0)=false:=decide_eq_false hx0
     by_cases hx1:(m:Int)≤x
     ·have HN:Hid (outP D L k=true):=by show _=_;rw [HOK.out,decide_eq_true hx1];simp
      go_wp2_with fail
      go_quiet (fail)
      go_wp2_with fail
      go_ret
      refine ⟨?_,below_drewN HBo.out _⟩
      rw [sh1 HL.out]
      ·rfl
      ·rw [←HF.out,HSK.out,findFrom_hit _ HN.out];omega
     ·have hx1':x<(m:Int):=by omega
      have HN:Hid (outP D L k=false):=by show _=_;rw [HOK.out,hxd,decide_eq_false hx1];rfl
      go_wp2_with fail
      go_quiet (fail)
      go_wp2_with fail
      go_roundg (n-(k+1))
      case measure=>omega
      case rel=>exact ⟨k+1,by omega,rfl,by go_num,by rw [←HF.out,HSK.out,findFrom_miss _ HN.out],below_drewN HW.out _⟩
   ·have hke:k=n:=by omega
    subst hke
    clear hf hBw hBo
    go_wp2_with fail
    go_ret
    refine ⟨?_,HBo.out⟩
    rw [sh2 HL.out]
    ·rfl
    ·rw [←HF.out,Nat.sub_self];show ¬ (0:Int)≤-1;decide
 ·have hle:((L.length:Int) == (n:Int))=false:=by simp;omega
  have HR:Hid (shapeErr D n L=3):=sh0 hl
  generalize L.length=m at hle
  clear hl hM hP
  go_enter Tryz.func15,Tryz.ntmps15
  go_wp2_with fail
  go_ret
  exact ⟨by rw [HR.out];rfl,by go_grown⟩
set_option maxHeartbeats 4000000 in
theorem rnumber_any (A0:Option Addr) (cap n:Nat) (D:Nat→Dm) (A:Nat→Option Addr) (C:Nat→Nat) (Ap:Option Addr) (cp:Nat) (L:List Int) (w:World) (hI:InO D n L) (hM:DimsV w A0 cap n D A C) (hP:PlAt w Ap cp L):Calls Tryz.prog 17 #[.agg #[.slice A0 n cap],.slice Ap L.length cp] w fun e w'=>e=.returned (.int .i64 (numI D L n))∧Below w.heap.size w w':=by
 obtain ⟨hn1,hn4,-,hd⟩:=allErr_some hI.right
 have hn':(n:Int)≤4:=by omega
 have HD:Hid (∀ i,i<n→1≤(D i).n∧(D i).n≤12):=hd
 have HI:Hid (InO D n L):=hI
 have hl:=hI.len
 obtain ⟨hcp,h0 | ⟨bp,op,rfl,hbp,hcell⟩⟩:=hP
 ·rw [h0] at hl;simp at hl;omega
 obtain ⟨hcap,h0 | ⟨b,o,rfl,hMs⟩⟩:=hM
 ·omega
 rw [hl]
 have HC:Hid (∀ j,j<n→w.cell? ⟨bp,op+j,none⟩=some (.int .i64 (L.getD j 0))):=fun j hj=>hcell j (by omega)
 have HMs:Hid (DimsAt w b o n D A C):=hMs
 have HB0:Hid (Below w.heap.size w (ownOut w (some ⟨b,o,none⟩) n cap 42)):=ownOut_below ..
 have HO:Hid (∀ w',Below (w.heap.size+1) (ownOut w (some ⟨b,o,none⟩) n cap 42) w'→w'.cell? ⟨w.heap.size,0,none⟩=some (.slice (some ⟨b,o,none⟩) n cap)):=fun w' hw'=>(hw'.cell (p:=⟨w.heap.size,0,none⟩) (by show w.heap.size<_;omega)).trans (ownOut_at ..)
 clear hl hcell hMs hd hI
 go_enter Tryz.func17,Tryz.ntmps17
 go_wp2_with fail
 go_loopg [5,6] n (fun g s5 s6 wr => ∃ (k:Nat),k≤n∧g=n-k∧s6=.int .i64 k∧s5=.int .i64 (numI D L k)∧Below (w.heap.size+1) (ownOut w (some ⟨b,o,none⟩) n cap 42) wr)
 case atStart=>exact ⟨0,Nat.zero_le _,rfl,rfl,rfl,Below.refl _ _⟩
 case round =>
  obtain ⟨k,hk,rfl,rfl,rfl,hBw⟩:=hrel
  have HW:Hid (Below (w.heap.size+1) (ownOut w (some ⟨b,o,none⟩) n cap 42) wr):=hBw
  have hBo:Below w.heap.size w wr:=HB0.out.trans (hBw.mono (by omega))
  have HBo:Hid (Below w.heap.size w wr):=hBo
  by_cases hlt:k<n
  ·have hki:(k:Int)<(n:Int):=by omega
   obtain ⟨-,-,h3,-⟩:=(HMs.out.later hBo).2 k hlt
   have hcx:wr.cell? ⟨bp,op+k,none⟩=some (.int .i64 (L.getD k 0)):=(hBo.cell (p:=⟨bp,op+k,none⟩) hbp).trans (HC.out k hlt)
   have c0:=HO.out wr hBw
   obtain ⟨hb1,hb2,hb3⟩:=numI_bound HI.out (k:=k+1) (by omega)
   obtain ⟨hb4,hb5,hb6⟩:=numI_bound HI.out (k:=k) (by omega)
   have hx0:=HI.out.lo k hlt
   have hx1:=HI.out.hi k hlt
   obtain ⟨hd1,hd2⟩:=HD.out k hlt
   have HN:Hid (numI D L (k+1)=numI D L k*((D k).n:Int)+L.getD k 0):=rfl
   rw [HN.out] at hb1 hb2
   generalize L.getD k 0=x at hcx hb1 hb2 hx0 hx1 HN
   generalize (D k).n=m at h3 hb1 hb2 hd1 hd2 hx1 HN
   generalize numI D L k=y at hb1 hb2 hb4 hb5 HN
   have hm0:0≤y*(m:Int):=Int.mul_nonneg hb4 (by omega)
   have hm1:y*(m:Int)≤20736:=by omega
   have hm2:y*(m:Int)+x≤20736:=by omega
   clear hBw hBo hb2 hb5
   go_wp2_with fail
   go_quiet (fail)
   go_wp2_with fail
   go_roundg (n-(k+1))
   case measure=>omega
   case rel=>exact ⟨k+1,by omega,rfl,by go_num,by rw [HN.out],below_drewN HW.out _⟩
  ·have hke:k=n:=by omega
   subst hke
   clear hBw hBo
   go_wp2_with fail
   go_ret
   exact ⟨rfl,HBo.out⟩
set_option maxHeartbeats 4000000 in
theorem rleafplace_any (A0:Option Addr) (cap n:Nat) (D:Nat→Dm) (A:Nat→Option Addr) (C:Nat→Nat) (Ap:Option Addr) (cp:Nat) (L:List Int) (w:World) (hI:InO D n L) (hM:DimsV w A0 cap n D A C) (hP:PlAt w Ap cp L):Calls Tryz.prog 64 #[.agg #[.slice A0 n cap],.slice Ap L.length cp] w fun e w'=>e=.returned (.bool (leafV D n L))∧Below w.heap.size w w':=by
 obtain ⟨hn1,hn4,-,hd⟩:=allErr_some hI.right
 have hn':(n:Int)≤4:=by omega
 have HD:Hid (∀ i,i<n→1≤(D i).n∧(D i).n≤12):=hd
 have HI:Hid (InO D n L):=hI
 have HV:Hid (leafV D n L = !decide (0≤findFrom (notLeaf D L) n 0)):=by show _=_;unfold leafV;rw [if_pos hI.ok]
 have hl:=hI.len
 obtain ⟨hcp,h0 | ⟨bp,op,rfl,hbp,hcell⟩⟩:=hP
 ·rw [h0] at hl;simp at hl;omega
 obtain ⟨hcap,h0 | ⟨b,o,rfl,hMs⟩⟩:=hM
 ·omega
 rw [hl]
 have HC:Hid (∀ j,j<n→w.cell? ⟨bp,op+j,none⟩=some (.int .i64 (L.getD j 0))):=fun j hj=>hcell j (by omega)
 have HMs:Hid (DimsAt w b o n D A C):=hMs
 have HB0:Hid (Below w.heap.size w (ownOut w (some ⟨b,o,none⟩) n cap 42)):=ownOut_below ..
 have HO:Hid (∀ w',Below (w.heap.size+1) (ownOut w (some ⟨b,o,none⟩) n cap 42) w'→w'.cell? ⟨w.heap.size,0,none⟩=some (.slice (some ⟨b,o,none⟩) n cap)):=fun w' hw'=>(hw'.cell (p:=⟨w.heap.size,0,none⟩) (by show w.heap.size<_;omega)).trans (ownOut_at ..)
 have hS0:=ownOut_size w (some ⟨b,o,none⟩) n cap 42
 clear hl hcell hMs hd hI
 go_enter Tryz.func64,Tryz.ntmps64
 go_wp2_with fail
 go_loopg [5,6] n (fun g s5 s6 wr => ∃ (k:Nat),k≤n∧g=n-k∧s5=.int .i64 k∧findFrom (notLeaf D L) (n-k) k=findFrom (notLeaf D L) n 0∧Below (w.heap.size+1) (ownOut w (some ⟨b,o,none⟩) n cap 42) wr)
 case atStart=>exact ⟨0,Nat.zero_le _,rfl,rfl,rfl,Below.refl _ _⟩
 case round =>
  obtain ⟨k,hk,rfl,rfl,hf,hBw⟩:=hrel
  have HF:Hid (findFrom (notLeaf D L) (n-k) k=findFrom (notLeaf D L) n 0):=hf
  have HW:Hid (Below (w.heap.size+1) (ownOut w (some ⟨b,o,none⟩) n cap 42) wr):=hBw
  have hBo:Below w.heap.size w wr:=HB0.out.trans (hBw.mono (by omega))
  have HBo:Hid (Below w.heap.size w wr):=hBo
  by_cases hlt:k<n
  ·have hki:(k:Int)<(n:Int):=by omega
   have HSK:Hid (n-k=(n-(k+1))+1):=by show _=_;omega
   obtain ⟨h0,h1,h3,h4⟩:=(HMs.out.later hBo).2 k hlt
   have hlo:=HI.out.lo k hlt
   have hhi:=HI.out.hi k hlt
   obtain ⟨X,hX⟩:∃ X:Nat,L.getD k 0=X:=⟨(L.getD k 0).toNat,by omega⟩
   have hcx:wr.cell? ⟨bp,op+k,none⟩=some (.int .i64 (L.getD k 0)):=(hBo.cell (p:=⟨bp,op+k,none⟩) hbp).trans (HC.out k hlt)
   have HNL:Hid (notLeaf D L k = !leafB (D k).mem (D k).n X):=by show _=_;unfold notLeaf;rw [hX];rfl
   rw [hX] at hcx hlo hhi
   have c0:=HO.out wr hBw
   have hwz:w.heap.size+1≤wr.heap.size:=by have:=hBw.size;omega
   obtain ⟨hd1,hd2⟩:=HD.out k hlt
   obtain ⟨hcm,h5 | ⟨b',o',hA,hMm⟩⟩:=h4
   ·omega
   rw [hA] at h3
   have HLf:Hid (∀ w',Below wr.heap.size wr w'→Calls Tryz.prog 43 #[.agg #[.string (D k).name,.int .i64 (D k).solve,.slice (some ⟨b',o',none⟩) (D k).n (C k)],.int .i64 X] w' fun e w''=>e=.returned (.bool (leafB (D k).mem (D k).n X))∧Below w'.heap.size w' w''):=fun w' hw'=>rleaf_any (D k) b' o' (C k) X w' hd2 (by omega) (hMm.later hw')
   clear hf hBw hBo hX hMm hA
   cases hb:leafB (D k).mem (D k).n X
   ·rw [hb] at HLf HNL
    have HN:Hid (notLeaf D L k=true):=HNL.out
    clear hb
    go_wp2_with fail
    go_region_law ((go_simp;refine (HLf.out _ (by go_grown)).mono ?_;rintro e w2 ⟨rfl,hb2⟩;have hN2:=onB (W0:=wr) (by go_grown) hb2;clear hb2))
    all_goals go_wp2_with fail
    all_goals go_ret
    all_goals refine ⟨?_,onB HBo.out hN2⟩
    all_goals rw [HV.out,←HF.out,HSK.out,findFrom_hit _ HN.out,decide_eq_true (by omega)]
    all_goals rfl
   ·rw [hb] at HLf HNL
    have HN:Hid (notLeaf D L k=false):=HNL.out
    clear hb
    go_wp2_with fail
    go_region_law ((go_simp;refine (HLf.out _ (by go_grown)).mono ?_;rintro e w2 ⟨rfl,hb2⟩;have hN2:=onB (W0:=wr) (by go_grown) hb2;clear hb2))
    all_goals go_wp2_with fail
    all_goals go_roundg (n-(k+1))
    all_goals first | omega | exact ⟨k+1,by omega,rfl,by go_num,by rw [←HF.out,HSK.out,findFrom_miss _ HN.out],HW.out.trans (hN2.mono hwz)⟩
  ·have hke:k=n:=by omega
   subst hke
   clear hf hBw hBo
   go_wp2_with fail
   go_ret
   refine ⟨?_,HBo.out⟩
   rw [HV.out,←HF.out,Nat.sub_self]
   rfl
set_option maxHeartbeats 4000000 in
theorem rat_any (A0:Option Addr) (cap n:Nat) (D:Nat→Dm) (A:Nat→Option Addr) (C:Nat→Nat) (X:Nat) (w:World) (hR:(allErr D n).2.2=0) (hX:X<prodN D n) (hM:DimsV w A0 cap n D A C):Calls Tryz.prog 24 #[.agg #[.slice A0 n cap],.int .i64 X] w fun e w'=>(∃ A' c',e=.returned (.slice A' (placeL D n X).length c')∧PlAt w' A' c' (placeL D n X))∧Below w.heap.size w w':=by
 obtain ⟨hn1,hn4,hp3,hd⟩:=allErr_some hR
 have HD:Hid (∀ i,i<n→1≤(D i).n∧(D i).n≤12):=hd
 have hn':(n:Int)≤4:=by omega
 have hn1':(1:Int)≤(n:Int):=by omega
 have hX3:X≤3000:=by omega
 have hmk:=run_make_row' (P:=Tryz.prog) 44 3 (.int .i64 0) 8 Tryz.underlying44 Tryz.infoIntP rfl .i64 .i64 n (by omega) (by omega)
 obtain ⟨hcap,h0 | ⟨b,o,rfl,hMs⟩⟩:=hM
 ·omega
 obtain ⟨w1,hw1⟩:∃ w1,w1=ownOut w (some ⟨b,o,none⟩) n cap 42:=⟨_,rfl⟩
 have hB1:Below w.heap.size w w1:=by rw [hw1];exact ownOut_below ..
 have h2:w1.cell? ⟨w.heap.size,0,none⟩=some (.slice (some ⟨b,o,none⟩) n cap):=by rw [hw1];exact ownOut_at ..
 have hz1:w1.heap.size=w.heap.size+1:=by rw [hw1];exact ownOut_size ..
 have HMs:Hid (DimsAt w1 b o n D A C):=hMs.later hB1
 have HB1:Hid (Below w.heap.size w w1):=hB1
 have H2:Hid (w1.cell? ⟨w.heap.size,0,none⟩=some (.slice (some ⟨b,o,none⟩) n cap)):=h2
 have HZ1:Hid (w1.heap.size=w.heap.size+1):=hz1
 have HW1:Hid (w1=ownOut w (some ⟨b,o,none⟩) n cap 42):=hw1
 have HI0:Hid (IntB (w1.alloc (.cells (madeCells #[.int .i64 0] n) 3)) w1.heap.size (digL D n X 0)):=by show IntB _ _ _;rw [digL_zero];exact IntB.made w1 n
 have HBm:Hid (Below w1.heap.size w1 (w1.alloc (.cells (madeCells #[.int .i64 0] n) 3))):=by show Below _ _ _;go_grown
 rw [hw1] at HI0 HBm
 unfold ownOut at HI0 HBm
 clear hd hMs hB1 h2 hz1 hw1 hX hp3 hR
 go_enter Tryz.func24,Tryz.ntmps24
 go_wp2_with fail
 clear hmk
 go_loopg [1,6,7] n (fun g s1 s6 s7 wr => ∃ (r:Nat),r≤n∧g=n-r∧s6=.int .i64 ((n:Int)-1-r)∧s1=.int .i64 (restAt D n X r)∧IntB wr w1.heap.size (digL D n X r)∧Below w1.heap.size w1 wr)
 case atStart=>exact ⟨0,Nat.zero_le _,rfl,by simp,rfl,by rw [HW1.out];exact HI0.out,by rw [HW1.out];exact HBm.out⟩
 case round =>
  obtain ⟨r,hr,rfl,rfl,rfl,hI,hBw⟩:=hrel
  have HI:Hid (IntB wr w1.heap.size (digL D n X r)):=hI
  have HBw:Hid (Below w1.heap.size w1 wr):=hBw
  by_cases hlt:r<n
  ·obtain ⟨k,hk⟩:∃ k:Nat,k=n-1-r:=⟨_,rfl⟩
   have hki:(n:Int)-1-(r:Int)=(k:Int):=by omega
   rw [hki]
   have HK:Hid (k=n-1-r):=hk
   have hkn:k<n:=by omega
   obtain ⟨-,-,h3,-⟩:=(HMs.out.later hBw).2 k hkn
   have c2:wr.cell? ⟨w.heap.size,0,none⟩=some (.slice (some ⟨b,o,none⟩) n cap):=(hBw.cell (p:=⟨w.heap.size,0,none⟩) (by show w.heap.size<_;rw [HZ1.out];omega)).trans H2.out
   have hkn':(k:Int)<(n:Int):=by omega
   have c4:=hI.cell (j:=k) (by rw [digL_len];exact hkn)
   have c5:=hI.frozen k
   rw [HZ1.out] at c4 c5
   obtain ⟨hd1,hd2⟩:=HD.out k hkn
   have hre:=restAt_le D n X r
   have HR1:Hid (restAt D n X (r+1)=restAt D n X r / (D k).n):=by show _=_;rw [restAt,hk]
   have HR2:Hid (digitAt D n X k=restAt D n X r % (D k).n):=by show _=_;rw [digitAt,show n-1-k=r by omega]
   have HS:Hid ((digL D n X r).set k (digitAt D n X k:Int)=digL D n X (r+1)):=by show _=_;rw [hk];exact digL_set D n X r hlt
   generalize (digL D n X r).getD k 0=old at c4
   generalize restAt D n X r=R at HR1 HR2 hre
   generalize hm:(D k).n=m at h3 hd1 hd2 HR1 HR2
   have hm1:(1:Int)≤(m:Int):=by omega
   have hm2:(m:Int)≤12:=by omega
   have hRR:(R:Int)≤3000:=by omega
   have hR0:(0:Int)≤(R:Int):=by omega
   have hm0:((m:Int) == 0)=false:=by simp;omega
   clear hI hBw hk hki hm
   go_wp2_with fail
   go_roundg (n-(r+1))
   case measure=>omega
   case rel =>
    have hdm:=Nat.div_le_self R m
    have hw:wrap64 ((R:Int) / (m:Int))=((R / m:Nat):Int):=by
     rw [←Int.natCast_ediv]
     exact wrap_small (Nat.le_trans hdm (by omega))
    refine ⟨r+1,by omega,rfl,?_,?_,?_,HBw.out.setCell (by show w1.heap.size≤w.heap.size+1;rw [HZ1.out];exact Nat.le_refl _) _⟩
    ·have:=HK.out
     congr 1
     omega
    ·rw [hw,HR1.out]
    ·have hs:=HI.out.set k (digitAt D n X k:Int)
     rw [HS.out,HR2.out,Int.natCast_emod] at hs
     rw [HZ1.out] at hs ⊢
     exact hs
  ·have hre:r=n:=by omega
   subst hre
   have hk0:(r:Int)-1-(r:Int) = -1:=by omega
   rw [hk0]
   clear hI hBw
   go_wp2_with fail
   go_ret
   have hp:=HI.out.pl
   rw [digL_all] at hp
   rw [placeL_len] at hp ⊢
   rw [HZ1.out] at hp
   exact ⟨⟨_,_,rfl,hp⟩,onB HB1.out HBw.out⟩
end Go.Proofs.YtigkeokacagabafGreatDoor
namespace Go.Proofs.YtigkeokacagabafGreatDoor
def leafT (w:ByteArray):Tre:=if 97≤byteN w 0∧byteN w 0≤122 then .ref w else .num (numW w)
theorem leaf_opnd (w:ByteArray) (k:Nat):post (leafT w) k=[opndN w]∧sizT (leafT w)=1:=by
 unfold leafT opndN
 split
 ·exact ⟨rfl,rfl⟩
 ·exact ⟨rfl,rfl⟩
inductive Spl:Nat→Tre→List ByteArray→Prop
 | word (w:ByteArray):48≤byteN w 0→Spl 3 (leafT w) [w]
 | brk (t:Tre) (ws:List ByteArray):Spl 1 t ws→Spl 3 t ([⟨#[40]⟩] ++ ws ++ [⟨#[41]⟩])
 | up (k:Nat) (t:Tre) (ws:List ByteArray):1≤k→k≤2→Spl (k+1) t ws→Spl k t ws
 | bin (k:Nat) (o:Int) (a c:Tre) (wa wc:List ByteArray):3≤o→o≤6→bindN o=(k:Int)→Spl k a wa→Spl (k+1) c wc→Spl k (.bin o a c) (wa ++ [sgnT o] ++ wc)
theorem spl_take {k:Nat} {t:Tre} {ws:List ByteArray} (h:Spl k t ws):∀ (b:Bld),Low b (k:Int)→∀ least:Int,least≤k→settleB least (ws.foldl takeB b)=settleB least (pushT t b):=by
 induction h with
 | word w hw =>
  intro b _ least _
  show settleB least (takeB b w)=_
  rw [take_is_opd hw]
  obtain ⟨e1,e2⟩:=leaf_opnd w b.nodes.length
  unfold pushT addB
  rw [e1,e2]
  rfl
 | brk t ws _ ih =>
  intro b _ least _
  have:=take_brk (l:=ws) (t:=t) (b:=b) (ih _ (low_open _ _ _ _) 0 (by omega))
  rw [brkL,if_pos rfl] at this
  rw [this]
 | up k t ws h1 h2 _ ih =>
  intro b hl least hle
  exact ih b (hl.up (by omega)) least (by omega)
 | bin k o a c wa wc h1 h2 h3 _ _ iha ihc =>
  intro b hl least hle
  have e1:settleB (bindN o) (wa.foldl takeB b)=pushT a b:=by
   rw [h3,iha b hl k (Int.le_refl _)]
   exact settle_low (low_push a hl)
  rw [List.foldl_append,List.foldl_append]
  show settleB least (wc.foldl takeB (takeB (wa.foldl takeB b) (sgnT o)))=_
  rw [take_sign _ ⟨h1,h2⟩,e1,ihc ⟨(pushT a b).nodes,(pushT a b).ready,(pushT a b).waiting ++ [o]⟩ (Or.inr ⟨_,o,rfl,Or.inr (by rw [h3];omega)⟩) least (by omega)]
  show settleB least ⟨(pushT c ⟨(pushT a b).nodes,(pushT a b).ready,b.waiting ++ [o]⟩).nodes,(pushT c ⟨(pushT a b).nodes,(pushT a b).ready,b.waiting ++ [o]⟩).ready,b.waiting ++ [o]⟩=_
  rw [settle_pop (by omega) (by rw [h3];exact hle),join_push]
def Rds (s:ByteArray) (k a a':Nat) (t:Tre):Prop:=a<a'∧a'≤s.size∧∃ ws,Spl k t ws∧∀ r:Rd Bld,r.at'=a→toEnd s takeB false r=toEnd s takeB true ⟨a',r.opn,ws.foldl takeB r.st⟩
def Fls (s:ByteArray) (a a':Nat):Prop:=a≤a'∧a'≤s.size∧∀ r:Rd Bld,r.at'=a→∃ o st,toEnd s takeB false r=(⟨a',o,st⟩,false)
def NoSg (s:ByteArray) (k a:Nat):Prop:=a<s.size→signI (nextB s a)<0∨bindN (3+signI (nextB s a))<(k:Int)
section
variable {s:ByteArray} {k a a1 a2 a':Nat} {t u:Tre}
theorem word_first {n:Nat} (ha:a<s.size) (hn:1≤n):byteN (s.extract a (a+n)) 0=nextB s a:=by
 rw [byteN_ext (by omega),nextB,if_neg (by omega),Nat.add_zero]
theorem rds_dig (ha:a≤s.size) (h:digB (nextB s a)=true):Rds s 3 a (a+digitsN s a) (leafT (s.extract a (a+digitsN s a))):=by
 obtain ⟨h1,h2⟩:=dig_pos ha h
 obtain ⟨h3,h4⟩:=dig_word (o:=0) ha h
 refine ⟨by omega,h2,[s.extract a (a+digitsN s a)],Spl.word _ ?_,fun r hr=>?_⟩
 ·have hd:=word_first (by omega:a<s.size) h1
  rw [hd]
  unfold digB at h
  simp at h
  omega
 ·have he:=end_dig (tk:=takeB) (r:=r) (by rw [hr];exact ha) (by rw [hr];exact h)
  rw [he,wordR,hr]
  rfl
theorem rds_let (ha:a≤s.size) (h:letB (nextB s a)=true):Rds s 3 a (a+leadN letB (s.extract a s.size)) (leafT (s.extract a (a+leadN letB (s.extract a s.size)))):=by
 obtain ⟨h1,h2⟩:=let_pos ha h
 refine ⟨by omega,h2,[s.extract a (a+leadN letB (s.extract a s.size))],Spl.word _ ?_,fun r hr=>?_⟩
 ·have hd:=word_first (by omega:a<s.size) h1
  rw [hd]
  unfold letB at h
  simp at h
  omega
 ·have he:=end_let (tk:=takeB) (r:=r) (by rw [hr];exact ha) (by rw [hr];exact h)
  rw [he,wordR,hr]
  rfl
theorem byte_one (ha:a<s.size) (c:UInt8) (h:nextB s a=(c.toNat:Int)):s.extract a (a+1)=⟨#[c]⟩:=by
 have hz:=slice_ok (s:=s) (a:=a) (n:=1) (by omega)
 have hb:=word_first (n:=1) ha (by omega)
 rw [h] at hb
 apply ByteArray.ext
 apply Array.ext
 ·exact hz
 ·intro i h1 h2
  have hi:i=0:=by simp at h2;omega
  subst hi
  have e:byteN (s.extract a (a+1)) 0=(((s.extract a (a+1)).data[0]'h1).toNat:Int):=by
   unfold byteN
   rw [List.getD,List.getElem?_eq_getElem (by rw [Array.length_toList];exact h1)]
   rfl
  rw [e] at hb
  have:((s.extract a (a+1)).data[0]'h1).toNat=c.toNat:=by omega
  simpa using UInt8.toNat_inj.1 this
theorem rds_brk (ha:a≤s.size) (h40:nextB s a=40) (h:Rds s 1 (a+1) a1 t) (h41:nextB s a1=41):Rds s 3 a (a1+1) t:=by
 obtain ⟨h1,h2,ws,h3,h4⟩:=h
 have hlt:a<s.size:=next_zero (by rw [h40];decide) ha
 have hlt1:a1<s.size:=next_zero (by rw [h41];decide) h2
 refine ⟨by omega,by omega,_,Spl.brk t ws h3,fun r hr=>?_⟩
 have e1:=end_open (tk:=takeB) (r:=r) (by rw [hr];exact ha) (by rw [hr];exact h40)
 have e2:=h4 (wordR s takeB 1 ⟨r.at',r.opn+1,r.st⟩) (by rw [wordR,hr])
 have e3:=end_close (tk:=takeB) (r:=⟨a1,(wordR s takeB 1 ⟨r.at',r.opn+1,r.st⟩).opn,ws.foldl takeB (wordR s takeB 1 ⟨r.at',r.opn+1,r.st⟩).st⟩) h2 ⟨by show 0<r.opn+1;omega,h41⟩
 rw [e1,e2,e3]
 unfold wordR
 simp only
 rw [hr,byte_one hlt 40 (by rw [h40];rfl),byte_one hlt1 41 (by rw [h41];rfl),List.foldl_append,List.foldl_append]
 rfl
theorem rds_up (h1:1≤k) (h2:k≤2) (h:Rds s (k+1) a a' t):Rds s k a a' t:=by
 obtain ⟨g1,g2,ws,g3,g4⟩:=h
 exact ⟨g1,g2,ws,Spl.up k t ws h1 h2 g3,g4⟩
theorem sgn_four {c:Int} (h : ¬ signI c<0):(c=43∧signI c=0)∨(c=45∧signI c=1)∨(c=42∧signI c=2)∨(c=47∧signI c=3):=by
 unfold signI at *
 by_cases h1:c=43
 ·left;exact ⟨h1,by rw [if_pos h1]⟩
 by_cases h2:c=45
 ·right;left;exact ⟨h2,by rw [if_neg h1,if_pos h2]⟩
 by_cases h3:c=42
 ·right;right;left;exact ⟨h3,by rw [if_neg h1,if_neg h2,if_pos h3]⟩
 by_cases h4:c=47
 ·right;right;right;exact ⟨h4,by rw [if_neg h1,if_neg h2,if_neg h3,if_pos h4]⟩
 ·rw [if_neg h1,if_neg h2,if_neg h3,if_neg h4] at h;omega
theorem sign_word (hlt:a<s.size) (h : ¬ signI (nextB s a)<0):s.extract a (a+1)=sgnT (3+signI (nextB s a))∧3≤3+signI (nextB s a)∧3+signI (nextB s a)≤6∧nextB s a≠41:=by
 rcases sgn_four h with ⟨e,e2⟩ | ⟨e,e2⟩ | ⟨e,e2⟩ | ⟨e,e2⟩
 ·rw [e2,byte_one hlt 43 (by rw [e];rfl),e];exact ⟨rfl,by omega,by omega,by omega⟩
 ·rw [e2,byte_one hlt 45 (by rw [e];rfl),e];exact ⟨rfl,by omega,by omega,by omega⟩
 ·rw [e2,byte_one hlt 42 (by rw [e];rfl),e];exact ⟨rfl,by omega,by omega,by omega⟩
 ·rw [e2,byte_one hlt 47 (by rw [e];rfl),e];exact ⟨rfl,by omega,by omega,by omega⟩
theorem rds_bin (h:Rds s k a a1 t) (hlt:a1<s.size) (hs : ¬ signI (nextB s a1)<0) (hk:bindN (3+signI (nextB s a1))=(k:Int)) (h2:Rds s (k+1) (a1+1) a2 u):Rds s k a a2 (.bin (3+signI (nextB s a1)) t u):=by
 obtain ⟨g1,g2,ws,g3,g4⟩:=h
 obtain ⟨f1,f2,vs,f3,f4⟩:=h2
 obtain ⟨w1,w2,w3,w4⟩:=sign_word hlt hs
 refine ⟨by omega,f2,_,Spl.bin k _ t u ws vs w2 w3 hk g3 f3,fun r hr=>?_⟩
 have e2:=end_sign (tk:=takeB) (r:=⟨a1,r.opn,ws.foldl takeB r.st⟩) (fun e=>w4 e.2) hlt hs
 have e3:=f4 (wordR s takeB 1 ⟨a1,r.opn,ws.foldl takeB r.st⟩) rfl
 rw [g4 r hr,e2,e3]
 unfold wordR
 simp only
 rw [w1,List.foldl_append,List.foldl_append]
 rfl
/-! where it goes wrong -/
theorem fls_none (ha:a≤s.size) (h:nextB s a≠40) (h1:digB (nextB s a)=false) (h2:letB (nextB s a)=false):Fls s a a :=
 ⟨Nat.le_refl _,ha,fun r hr=>⟨r.opn,r.st,by rw [end_none (by rw [hr];exact h) (by rw [hr];exact h1) (by rw [hr];exact h2),←hr]⟩⟩
theorem fls_open (ha:a≤s.size) (h40:nextB s a=40) (h:Fls s (a+1) a'):Fls s a a':=by
 obtain ⟨h1,h2,h3⟩:=h
 refine ⟨by omega,h2,fun r hr=>?_⟩
 rw [end_open (by rw [hr];exact ha) (by rw [hr];exact h40)]
 exact h3 _ (by rw [wordR,hr])
theorem fls_shut (ha:a≤s.size) (h40:nextB s a=40) (h:Rds s 1 (a+1) a1 t) (hn:NoSg s 1 a1) (h41:nextB s a1≠41):Fls s a a1:=by
 obtain ⟨h1,h2,ws,h3,h4⟩:=h
 refine ⟨by omega,h2,fun r hr=>?_⟩
 rw [end_open (tk:=takeB) (r:=r) (by rw [hr];exact ha) (by rw [hr];exact h40),h4 _ (by rw [wordR,hr])]
 by_cases hlt:a1<s.size
 ·have hs:signI (nextB s a1)<0:=by
   rcases hn hlt with h | h
   ·exact h
   ·have:=bindN_ge (3+signI (nextB s a1));omega
  rw [end_bad (fun e=>h41 e.2) hlt hs]
  exact ⟨_,_,rfl⟩
 ·rw [end_end (fun e=>h41 e.2) hlt]
  refine ⟨(wordR s takeB 1 ⟨r.at',r.opn+1,r.st⟩).opn,ws.foldl takeB (wordR s takeB 1 ⟨r.at',r.opn+1,r.st⟩).st,?_⟩
  rw [decide_eq_false (show ¬ (wordR s takeB 1 ⟨r.at',r.opn+1,r.st⟩).opn=0 by show ¬ r.opn+1=0;omega)]
theorem fls_sign (h:Rds s k a a1 t) (hlt:a1<s.size) (hs : ¬ signI (nextB s a1)<0) (h2:Fls s (a1+1) a2):Fls s a a2:=by
 obtain ⟨g1,g2,ws,g3,g4⟩:=h
 obtain ⟨f1,f2,f3⟩:=h2
 obtain ⟨w1,w2,w3,w4⟩:=sign_word hlt hs
 refine ⟨by omega,f2,fun r hr=>?_⟩
 rw [g4 r hr,end_sign (tk:=takeB) (r:=⟨a1,r.opn,ws.foldl takeB r.st⟩) (fun e=>w4 e.2) hlt hs]
 exact f3 _ rfl
end
/-! all of a text -/
section
variable {s:ByteArray} {a':Nat} {t:Tre}
theorem read_all (h:Rds s 1 0 s.size t):(goneB s).2=true∧nodesP s=post t 0:=by
 obtain ⟨h1,h2,ws,h3,h4⟩:=h
 have e:goneB s=(⟨s.size,0,ws.foldl takeB noB⟩,true):=by
  unfold goneB
  rw [all_end_eq (r:=⟨0,0,noB⟩) (Nat.zero_le _),h4 ⟨0,0,noB⟩ rfl,end_end (fun e=>absurd e.1 (Nat.lt_irrefl 0)) (Nat.lt_irrefl _)]
  rfl
 refine ⟨by rw [e],?_⟩
 unfold nodesP
 rw [e]
 show (settleB 0 (ws.foldl takeB noB)).nodes=_
 rw [spl_take h3 noB (Or.inl rfl) 0 (by omega)]
 rw [settle_low (b:=pushT t noB) (Or.inl rfl)]
 show [] ++ post t 0=_
 rfl
theorem read_part (h:Rds s 1 0 a' t) (hn:NoSg s 1 a') (hlt:a'<s.size):(goneB s).2=false∧(goneB s).1.at'=a':=by
 obtain ⟨h1,h2,ws,h3,h4⟩:=h
 have hs:signI (nextB s a')<0:=by
  rcases hn hlt with h | h
  ·exact h
  ·have:=bindN_ge (3+signI (nextB s a'));omega
 have e:goneB s=(⟨a',0,ws.foldl takeB noB⟩,false):=by
  unfold goneB
  rw [all_end_eq (r:=⟨0,0,noB⟩) (Nat.zero_le _),h4 ⟨0,0,noB⟩ rfl,end_bad (fun e=>absurd e.1 (Nat.lt_irrefl 0)) hlt hs]
 rw [e]
 exact ⟨rfl,rfl⟩
theorem read_not (h:Fls s 0 a'):(goneB s).2=false∧(goneB s).1.at'=a':=by
 obtain ⟨h1,h2,h3⟩:=h
 obtain ⟨o,st,e⟩:=h3 ⟨0,0,noB⟩ rfl
 have e2:goneB s=(⟨a',o,st⟩,false):=by
  unfold goneB
  rw [all_end_eq (r:=⟨0,0,noB⟩) (Nat.zero_le _),e]
 rw [e2]
 exact ⟨rfl,rfl⟩
end
end Go.Proofs.YtigkeokacagabafGreatDoor
