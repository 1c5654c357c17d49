/-
  The document's own answers on places (tallyref1): what is wrong with a place, its number, whether it is of leafs, a number's place.
-/
import Derived.Test.YtenlladggdcfnaaGreatDoorJABC
import Derived.Test.YtenlladggdcfnaaGreatDoorJABE
namespace Go.Proofs.YtenlladggdcfnaaGreatDoor
open Go.ChangeShapes Go.WideShapes Go.ChangeAt Go.RowKit
set_option maxRecDepth 20000
theorem rright_any (A0:Option Addr) (cap n:Nat) (D:Nat→Dm) (A:Nat→Option Addr) (C:Nat→Nat) (w:World) (hM:DimsV w A0 cap n D A C):Calls Tryz.prog 61 #[.agg #[.slice A0 n cap]] w fun e w'=>e=.returned (.int .i64 (allErr D n).2.2)∧Below w.heap.size w w':=by
 have hB0:=ownOut_below w A0 n cap 25
 have h:=routline_any A0 cap n D A C (ownOut w A0 n cap 25) (hM.later hB0)
 have HB0:Hid (Below w.heap.size w (ownOut w A0 n cap 25)):=hB0
 clear hM hB0
 generalize (allErr D n).2.2=v at h
 generalize (allErr D n).1=x at h
 generalize (allErr D n).2.1=y at h
 go_enter Tryz.func61,Tryz.ntmps61
 go_wp2_with fail
 refine h.mono ?_
 rintro e w1 ⟨rfl,hb1⟩
 go_wp2_with fail
 go_ret
 exact ⟨rfl,onB HB0.out hb1⟩
set_option maxHeartbeats 4000000 in
theorem rplace_any (A0:Option Addr) (cap n:Nat) (D:Nat→Dm) (A:Nat→Option Addr) (C:Nat→Nat) (Ap:Option Addr) (cp:Nat) (L:List Int) (w:World) (hR:(allErr D n).2.2=0) (hM:DimsV w A0 cap n D A C) (hP:PlAt w Ap cp L):Calls Tryz.prog 19 #[.agg #[.slice A0 n cap],.slice Ap L.length cp] w fun e w'=>e=.returned (.int .i64 (shapeErr D n L))∧Below w.heap.size w w':=by
 obtain ⟨hn1,hn4,-,hd⟩:=allErr_some hR
 have hn':(n:Int)≤4:=by omega
 have HD:Hid (∀ i,i<n→1≤(D i).n∧(D i).n≤12):=hd
 clear hd hR
 by_cases hl:L.length=n
 ·have hle:((L.length:Int) == (n:Int))=true:=by simp [hl]
  have HL:Hid (L.length=n):=hl
  obtain ⟨hcp,h0 | ⟨bp,op,rfl,hbp,hcell⟩⟩:=hP
  ·rw [h0] at hl;simp at hl;omega
  obtain ⟨hcap,h0 | ⟨b,o,rfl,hMs⟩⟩:=hM
  ·omega
  rw [hl] at hle hcp
  rw [hl]
  have HC:Hid (∀ j,j<n→w.cell? ⟨bp,op+j,none⟩=some (.int .i64 (L.getD j 0))):=fun j hj=>hcell j (by omega)
  have HMs:Hid (DimsAt w b o n D A C):=hMs
  have HB0:Hid (Below w.heap.size w (ownOut w (some ⟨b,o,none⟩) n cap 25)):=ownOut_below ..
  have HO:Hid (∀ w',Below (w.heap.size+1) (ownOut w (some ⟨b,o,none⟩) n cap 25) w'→w'.cell? ⟨w.heap.size,0,none⟩=some (.slice (some ⟨b,o,none⟩) n cap)):=fun w' hw'=>(hw'.cell (p:=⟨w.heap.size,0,none⟩) (by show w.heap.size<_;omega)).trans (ownOut_at ..)
  clear hl hcell hMs
  go_enter Tryz.func19,Tryz.ntmps19
  go_wp2_with fail
  go_loopg [5] n (fun g s5 wr => ∃ (k:Nat),k≤n∧g=n-k∧s5=.int .i64 k∧findFrom (outP D L) (n-k) k=findFrom (outP D L) n 0∧Below (w.heap.size+1) (ownOut w (some ⟨b,o,none⟩) n cap 25) wr)
  case atStart=>exact ⟨0,Nat.zero_le _,rfl,rfl,rfl,Below.refl _ _⟩
  case round =>
   obtain ⟨k,hk,rfl,rfl,hf,hBw⟩:=hrel
   have HF:Hid (findFrom (outP D L) (n-k) k=findFrom (outP D L) n 0):=hf
   have HW:Hid (Below (w.heap.size+1) (ownOut w (some ⟨b,o,none⟩) n cap 25) wr):=hBw
   have hBo:Below w.heap.size w wr:=HB0.out.trans (hBw.mono (by omega))
   have HBo:Hid (Below w.heap.size w wr):=hBo
   by_cases hlt:k<n
   ·have hki:(k:Int)<(n:Int):=by omega
    have HSK:Hid (n-k=(n-(k+1))+1):=by show _=_;omega
    obtain ⟨-,-,h3,-⟩:=(HMs.out.later hBo).2 k hlt
    have hcx:wr.cell? ⟨bp,op+k,none⟩=some (.int .i64 (L.getD k 0)):=(hBo.cell (p:=⟨bp,op+k,none⟩) hbp).trans (HC.out k hlt)
    have c0:=HO.out wr hBw
    have hm:=(HD.out k hlt).2
    have HOK:Hid (outP D L k=(decide (L.getD k 0<0) || decide (((D k).n:Int)≤L.getD k 0))):=rfl
    generalize L.getD k 0=x at hcx HOK
    generalize (D k).n=m at h3 hm HOK
    have hm':(m:Int)≤12:=by omega
    clear hf hBw hBo
    by_cases hx0:x<0
    ·have HN:Hid (outP D L k=true):=by show _=_;rw [HOK.out,decide_eq_true hx0];rfl
     go_wp2_with fail
     go_quiet (fail)
     go_wp2_with fail
     go_ret
     refine ⟨?_,below_drewN HBo.out _⟩
     rw [sh1 HL.out]
     ·rfl
     ·rw [←HF.out,HSK.out,findFrom_hit _ HN.out];omega
    ·have hx0':0≤x:=by omega
     have hxd:decide (x<0)=false:=decide_eq_false hx0
     by_cases hx1:(m:Int)≤x
     ·have HN:Hid (outP D L k=true):=by show _=_;rw [HOK.out,decide_eq_true hx1];simp
      go_wp2_with fail
      go_quiet (fail)
      go_wp2_with fail
      go_ret
      refine ⟨?_,below_drewN HBo.out _⟩
      rw [sh1 HL.out]
      ·rfl
      ·rw [←HF.out,HSK.out,findFrom_hit _ HN.out];omega
     ·have hx1':x<(m:Int):=by omega
      have HN:Hid (outP D L k=false):=by show _=_;rw [HOK.out,hxd,decide_eq_false hx1];rfl
      go_wp2_with fail
      go_quiet (fail)
      go_wp2_with fail
      go_roundg (n-(k+1))
      case measure=>omega
      case rel=>exact ⟨k+1,by omega,rfl,by go_num,by rw [←HF.out,HSK.out,findFrom_miss _ HN.out],below_drewN HW.out _⟩
   ·have hke:k=n:=by omega
    subst hke
    clear hf hBw hBo
    go_wp2_with fail
    go_ret
    refine ⟨?_,HBo.out⟩
    rw [sh2 HL.out]
    ·rfl
    ·rw [←HF.out,Nat.sub_self];show ¬ (0:Int)≤-1;decide
 ·have hle:((L.length:Int) == (n:Int))=false:=by simp;omega
  have HR:Hid (shapeErr D n L=3):=sh0 hl
  generalize L.length=m at hle
  clear hl hM hP
  go_enter Tryz.func19,Tryz.ntmps19
  go_wp2_with fail
  go_ret
  exact ⟨by rw [HR.out];rfl,by go_grown⟩
set_option maxHeartbeats 4000000 in
theorem rleafplace_any (A0:Option Addr) (cap n:Nat) (D:Nat→Dm) (A:Nat→Option Addr) (C:Nat→Nat) (Ap:Option Addr) (cp:Nat) (L:List Int) (w:World) (hI:InO D n L) (hM:DimsV w A0 cap n D A C) (hP:PlAt w Ap cp L):Calls Tryz.prog 40 #[.agg #[.slice A0 n cap],.slice Ap L.length cp] w fun e w'=>e=.returned (.bool (leafV D n L))∧Below w.heap.size w w':=by
 obtain ⟨hn1,hn4,-,hd⟩:=allErr_some hI.right
 have hn':(n:Int)≤4:=by omega
 have HD:Hid (∀ i,i<n→1≤(D i).n∧(D i).n≤12):=hd
 have HI:Hid (InO D n L):=hI
 have HV:Hid (leafV D n L = !decide (0≤findFrom (notLeaf D L) n 0)):=by show _=_;unfold leafV;rw [if_pos hI.ok]
 have hl:=hI.len
 obtain ⟨hcp,h0 | ⟨bp,op,rfl,hbp,hcell⟩⟩:=hP
 ·rw [h0] at hl;simp at hl;omega
 obtain ⟨hcap,h0 | ⟨b,o,rfl,hMs⟩⟩:=hM
 ·omega
 rw [hl]
 have HC:Hid (∀ j,j<n→w.cell? ⟨bp,op+j,none⟩=some (.int .i64 (L.getD j 0))):=fun j hj=>hcell j (by omega)
 have HMs:Hid (DimsAt w b o n D A C):=hMs
 have HB0:Hid (Below w.heap.size w (ownOut w (some ⟨b,o,none⟩) n cap 25)):=ownOut_below ..
 have HO:Hid (∀ w',Below (w.heap.size+1) (ownOut w (some ⟨b,o,none⟩) n cap 25) w'→w'.cell? ⟨w.heap.size,0,none⟩=some (.slice (some ⟨b,o,none⟩) n cap)):=fun w' hw'=>(hw'.cell (p:=⟨w.heap.size,0,none⟩) (by show w.heap.size<_;omega)).trans (ownOut_at ..)
 have hS0:=ownOut_size w (some ⟨b,o,none⟩) n cap 25
 clear hl hcell hMs hd hI
 go_enter Tryz.func40,Tryz.ntmps40
 go_wp2_with fail
 go_loopg [5,6] n (fun g s5 s6 wr => ∃ (k:Nat),k≤n∧g=n-k∧s5=.int .i64 k∧findFrom (notLeaf D L) (n-k) k=findFrom (notLeaf D L) n 0∧Below (w.heap.size+1) (ownOut w (some ⟨b,o,none⟩) n cap 25) wr)
 case atStart=>exact ⟨0,Nat.zero_le _,rfl,rfl,rfl,Below.refl _ _⟩
 case round =>
  obtain ⟨k,hk,rfl,rfl,hf,hBw⟩:=hrel
  have HF:Hid (findFrom (notLeaf D L) (n-k) k=findFrom (notLeaf D L) n 0):=hf
  have HW:Hid (Below (w.heap.size+1) (ownOut w (some ⟨b,o,none⟩) n cap 25) wr):=hBw
  have hBo:Below w.heap.size w wr:=HB0.out.trans (hBw.mono (by omega))
  have HBo:Hid (Below w.heap.size w wr):=hBo
  by_cases hlt:k<n
  ·have hki:(k:Int)<(n:Int):=by omega
   have HSK:Hid (n-k=(n-(k+1))+1):=by show _=_;omega
   obtain ⟨h0,h1,h3,h4⟩:=(HMs.out.later hBo).2 k hlt
   have hlo:=HI.out.lo k hlt
   have hhi:=HI.out.hi k hlt
   obtain ⟨X,hX⟩:∃ X:Nat,L.getD k 0=X:=⟨(L.getD k 0).toNat,by omega⟩
   have hcx:wr.cell? ⟨bp,op+k,none⟩=some (.int .i64 (L.getD k 0)):=(hBo.cell (p:=⟨bp,op+k,none⟩) hbp).trans (HC.out k hlt)
   have HNL:Hid (notLeaf D L k = !leafB (D k).mem (D k).n X):=by show _=_;unfold notLeaf;rw [hX];rfl
   rw [hX] at hcx hlo hhi
   have c0:=HO.out wr hBw
   have hwz:w.heap.size+1≤wr.heap.size:=by have:=hBw.size;omega
   obtain ⟨hd1,hd2⟩:=HD.out k hlt
   obtain ⟨hcm,h5 | ⟨b',o',hA,hMm⟩⟩:=h4
   ·omega
   rw [hA] at h3
   have HLf:Hid (∀ w',Below wr.heap.size wr w'→Calls Tryz.prog 63 #[.agg #[.string (D k).name,.int .i64 (D k).solve,.slice (some ⟨b',o',none⟩) (D k).n (C k)],.int .i64 X] w' fun e w''=>e=.returned (.bool (leafB (D k).mem (D k).n X))∧Below w'.heap.size w' w''):=fun w' hw'=>rleaf_any (D k) b' o' (C k) X w' hd2 (by omega) (hMm.later hw')
   clear hf hBw hBo hX hMm hA
   cases hb:leafB (D k).mem (D k).n X
   ·rw [hb] at HLf HNL
    have HN:Hid (notLeaf D L k=true):=HNL.out
    clear hb
    go_wp2_with fail
    go_region_law ((go_simp;refine (HLf.out _ (by go_grown)).mono ?_;rintro e w2 ⟨rfl,hb2⟩;have hN2:=onB (W0:=wr) (by go_grown) hb2;clear hb2))
    all_goals go_wp2_with fail
    all_goals go_ret
    all_goals refine ⟨?_,onB HBo.out hN2⟩
    all_goals rw [HV.out,←HF.out,HSK.out,findFrom_hit _ HN.out,decide_eq_true (by omega)]
    all_goals rfl
   ·rw [hb] at HLf HNL
    have HN:Hid (notLeaf D L k=false):=HNL.out
    clear hb
    go_wp2_with fail
    go_region_law ((go_simp;refine (HLf.out _ (by go_grown)).mono ?_;rintro e w2 ⟨rfl,hb2⟩;have hN2:=onB (W0:=wr) (by go_grown) hb2;clear hb2))
    all_goals go_wp2_with fail
    all_goals go_roundg (n-(k+1))
    all_goals first | omega | exact ⟨k+1,by omega,rfl,by go_num,by rw [←HF.out,HSK.out,findFrom_miss _ HN.out],HW.out.trans (hN2.mono hwz)⟩
  ·have hke:k=n:=by omega
   subst hke
   clear hf hBw hBo
   go_wp2_with fail
   go_ret
   refine ⟨?_,HBo.out⟩
   rw [HV.out,←HF.out,Nat.sub_self]
   rfl
end Go.Proofs.YtenlladggdcfnaaGreatDoor
namespace Go.Proofs.YtenlladggdcfnaaGreatDoor
open Go Go.ChangeShapes Go.WideShapes Go.ChangeAt Go.RowKit
set_option maxRecDepth 20000
theorem IntB.plty {w:World} {g:Nat} {L:List Int} (h:IntB w g L):PlTy w (some ⟨g,0,none⟩) L.length L :=
 ⟨Nat.le_refl _,Or.inr ⟨g,0,_,_,rfl,h,fun j hj=>by rw [Nat.zero_add];exact h.cell hj⟩⟩
set_option maxHeartbeats 4000000 in
theorem rat_ty (A0:Option Addr) (cap n:Nat) (D:Nat→Dm) (A:Nat→Option Addr) (C:Nat→Nat) (X:Nat) (w:World) (hR:(allErr D n).2.2=0) (hX:X<prodN D n) (hM:DimsV w A0 cap n D A C):Calls Tryz.prog 39 #[.agg #[.slice A0 n cap],.int .i64 X] w fun e w'=>(∃ A' c',e=.returned (.slice A' (placeL D n X).length c')∧PlTy w' A' c' (placeL D n X))∧Below w.heap.size w w':=by
 obtain ⟨hn1,hn4,hp3,hd⟩:=allErr_some hR
 have HD:Hid (∀ i,i<n→1≤(D i).n∧(D i).n≤12):=hd
 have hn':(n:Int)≤4:=by omega
 have hn1':(1:Int)≤(n:Int):=by omega
 have hX3:X≤3000:=by omega
 have hmk:=run_make_row' (P:=Tryz.prog) 27 3 (.int .i64 0) 8 Tryz.underlying27 Tryz.infoIntP rfl .i64 .i64 n (by omega) (by omega)
 obtain ⟨hcap,h0 | ⟨b,o,rfl,hMs⟩⟩:=hM
 ·omega
 obtain ⟨w1,hw1⟩:∃ w1,w1=ownOut w (some ⟨b,o,none⟩) n cap 25:=⟨_,rfl⟩
 have hB1:Below w.heap.size w w1:=by rw [hw1];exact ownOut_below ..
 have h2:w1.cell? ⟨w.heap.size,0,none⟩=some (.slice (some ⟨b,o,none⟩) n cap):=by rw [hw1];exact ownOut_at ..
 have hz1:w1.heap.size=w.heap.size+1:=by rw [hw1];exact ownOut_size ..
 have HMs:Hid (DimsAt w1 b o n D A C):=hMs.later hB1
 have HB1:Hid (Below w.heap.size w w1):=hB1
 have H2:Hid (w1.cell? ⟨w.heap.size,0,none⟩=some (.slice (some ⟨b,o,none⟩) n cap)):=h2
 have HZ1:Hid (w1.heap.size=w.heap.size+1):=hz1
 have HW1:Hid (w1=ownOut w (some ⟨b,o,none⟩) n cap 25):=hw1
 have HI0:Hid (IntB (w1.alloc (.cells (madeCells #[.int .i64 0] n) 3)) w1.heap.size (digL D n X 0)):=by show IntB _ _ _;rw [digL_zero];exact IntB.made w1 n
 have HBm:Hid (Below w1.heap.size w1 (w1.alloc (.cells (madeCells #[.int .i64 0] n) 3))):=by show Below _ _ _;go_grown
 rw [hw1] at HI0 HBm
 unfold ownOut at HI0 HBm
 clear hd hMs hB1 h2 hz1 hw1 hX hp3 hR
 go_enter Tryz.func39,Tryz.ntmps39
 go_wp2_with fail
 clear hmk
 go_loopg [1,6,7] n (fun g s1 s6 s7 wr => ∃ (r:Nat),r≤n∧g=n-r∧s6=.int .i64 ((n:Int)-1-r)∧s1=.int .i64 (restAt D n X r)∧IntB wr w1.heap.size (digL D n X r)∧Below w1.heap.size w1 wr)
 case atStart=>exact ⟨0,Nat.zero_le _,rfl,by simp,rfl,by rw [HW1.out];exact HI0.out,by rw [HW1.out];exact HBm.out⟩
 case round =>
  obtain ⟨r,hr,rfl,rfl,rfl,hI,hBw⟩:=hrel
  have HI:Hid (IntB wr w1.heap.size (digL D n X r)):=hI
  have HBw:Hid (Below w1.heap.size w1 wr):=hBw
  by_cases hlt:r<n
  ·obtain ⟨k,hk⟩:∃ k:Nat,k=n-1-r:=⟨_,rfl⟩
   have hki:(n:Int)-1-(r:Int)=(k:Int):=by omega
   rw [hki]
   have HK:Hid (k=n-1-r):=hk
   have hkn:k<n:=by omega
   obtain ⟨-,-,h3,-⟩:=(HMs.out.later hBw).2 k hkn
   have c2:wr.cell? ⟨w.heap.size,0,none⟩=some (.slice (some ⟨b,o,none⟩) n cap):=(hBw.cell (p:=⟨w.heap.size,0,none⟩) (by show w.heap.size<_;rw [HZ1.out];omega)).trans H2.out
   have hkn':(k:Int)<(n:Int):=by omega
   have c4:=hI.cell (j:=k) (by rw [digL_len];exact hkn)
   have c5:=hI.frozen k
   rw [HZ1.out] at c4 c5
   obtain ⟨hd1,hd2⟩:=HD.out k hkn
   have hre:=restAt_le D n X r
   have HR1:Hid (restAt D n X (r+1)=restAt D n X r / (D k).n):=by show _=_;rw [restAt,hk]
   have HR2:Hid (digitAt D n X k=restAt D n X r % (D k).n):=by show _=_;rw [digitAt,show n-1-k=r by omega]
   have HS:Hid ((digL D n X r).set k (digitAt D n X k:Int)=digL D n X (r+1)):=by show _=_;rw [hk];exact digL_set D n X r hlt
   generalize (digL D n X r).getD k 0=old at c4
   generalize restAt D n X r=R at HR1 HR2 hre
   generalize hm:(D k).n=m at h3 hd1 hd2 HR1 HR2
   have hm1:(1:Int)≤(m:Int):=by omega
   have hm2:(m:Int)≤12:=by omega
   have hRR:(R:Int)≤3000:=by omega
   have hR0:(0:Int)≤(R:Int):=by omega
   have hm0:((m:Int) == 0)=false:=by simp;omega
   clear hI hBw hk hki hm
   go_wp2_with fail
   go_roundg (n-(r+1))
   case measure=>omega
   case rel =>
    have hdm:=Nat.div_le_self R m
    have hw:wrap64 ((R:Int) / (m:Int))=((R / m:Nat):Int):=by
     rw [←Int.natCast_ediv]
     exact wrap_small (Nat.le_trans hdm (by omega))
    refine ⟨r+1,by omega,rfl,?_,?_,?_,HBw.out.setCell (by show w1.heap.size≤w.heap.size+1;rw [HZ1.out];exact Nat.le_refl _) _⟩
    ·have:=HK.out
     congr 1
     omega
    ·rw [hw,HR1.out]
    ·have hs:=HI.out.set k (digitAt D n X k:Int)
     rw [HS.out,HR2.out,Int.natCast_emod] at hs
     rw [HZ1.out] at hs ⊢
     exact hs
  ·have hre:r=n:=by omega
   subst hre
   have hk0:(r:Int)-1-(r:Int) = -1:=by omega
   rw [hk0]
   clear hI hBw
   go_wp2_with fail
   go_ret
   have hp:=HI.out.plty
   rw [digL_all] at hp
   rw [placeL_len] at hp ⊢
   rw [HZ1.out] at hp
   exact ⟨⟨_,_,rfl,hp⟩,onB HB1.out HBw.out⟩
set_option maxHeartbeats 8000000 in
theorem rrlf_any (A0:Option Addr) (cap n:Nat) (D:Nat→Dm) (A:Nat→Option Addr) (C:Nat→Nat) (Ap:Option Addr) (cp:Nat) (p:List Int) (w:World) (hp:InO D n p) (hM:DimsV w A0 cap n D A C) (hP:PlAt w Ap cp p) :
  Calls Tryz.prog 20 #[.agg #[.slice A0 n cap],.slice Ap p.length cp] w fun e w'=>(∃ A' c' ys,e=.returned (.slice A' ys.length c')∧PlsV w' A' c' ys∧lP ys=lfTo D p n)∧Below w.heap.size w w':=by
 obtain ⟨i0,hi0,hz0,hz1,hz2⟩:=info_parts Tryz.infoPla
 have hR:=hp.right
 obtain ⟨hn1,hn4,hp3,hd⟩:=allErr_some hR
 have HR:Hid ((allErr D n).2.2=0):=hR
 have HI:Hid (InO D n p):=hp
 have HM:Hid (DimsV w A0 cap n D A C):=hM
 have HP:Hid (PlAt w Ap cp p):=hP
 have hB0:=ownOut_below w A0 n cap 25
 obtain ⟨W,hW⟩:∃ W,w.alloc (.cells #[.slice A0 n cap] 25)=W:=⟨_,rfl⟩
 have hWo:ownOut w A0 n cap 25=W:=hW
 rw [hWo] at hB0
 have cW:W.cell? ⟨w.heap.size,0,none⟩=some (.slice A0 n cap):=by rw [←hWo];exact ownOut_at ..
 have hzW:w.heap.size<W.heap.size:=by rw [←hWo,ownOut_size];omega
 have HB0:Hid (Below w.heap.size w W):=hB0
 have hsz:Calls Tryz.prog 38 #[.agg #[.slice A0 n cap]] W fun e w'=>e=.returned (.int .i64 (prodN D n))∧Below W.heap.size W w':=by
  obtain ⟨-,h0 | ⟨b,o,rfl,hMs⟩⟩:=hM.later hB0
  ·omega
  ·exact osize_any b o n cap D A C W hn4 (fun j hj=>(hd j hj).2) hMs
 obtain ⟨PN,hPN⟩:∃ PN,prodN D n=PN:=⟨_,rfl⟩
 have HPN:Hid (prodN D n=PN):=hPN
 rw [hPN] at hsz hp3
 have hp3':(PN:Int)≤3000:=by omega
 have HNE:Hid (∀ x,placeL D n x≠[]):=fun x e=>by have:=placeL_len D n x;rw [e] at this;simp at this;omega
 obtain ⟨np,hnp⟩:∃ np,p.length=np:=⟨_,rfl⟩
 have HNP:Hid (p.length=np):=hnp
 rw [hnp]
 clear hM hP hR hd hB0 hWo hPN hp hnp
 go_enter Tryz.func20,Tryz.ntmps20
 go_wp2_with fail
 clear hW
 refine hsz.mono ?_
 rintro e w1 ⟨rfl,hb1⟩
 have HB1:Hid (Below w.heap.size w w1):=onB HB0.out hb1
 have HBo:Hid (w.heap.size<w1.heap.size∧w1.cell? ⟨w.heap.size,0,none⟩=some (.slice A0 n cap)):=⟨Nat.lt_of_lt_of_le hzW hb1.size,(hb1.cell (p:=⟨w.heap.size,0,none⟩) hzW).trans cW⟩
 clear hb1 hsz cW hzW
 go_wp2_with fail
 go_loopg [5,7] PN (fun g s5 s7 wr => ∃ (k:Nat) (ys:List PL),k≤PN∧g=PN-k∧s7=.int .i64 k∧Hid (lP ys=docL D n p k∧∀ y∈ys,y.p≠[]∧PlTy wr y.A y.c y.p)∧wr.ownsRow w1.heap.size 27 1 s5 ys.length (cellsP ys)∧Below w1.heap.size w1 wr)
 case atStart=>exact ⟨0,[],Nat.zero_le _,rfl,rfl,(⟨rfl,fun y hy=>by cases hy⟩:_∧_),World.ownsRow_nil _ _ _ _,Below.refl _ _⟩
 case round =>
  obtain ⟨k,ys,hk,rfl,rfl,HY,hown,hBw⟩:=hrel
  have HBw:Hid (Below w1.heap.size w1 wr):=hBw
  have HOw:Hid (wr.ownsRow w1.heap.size 27 1 u5 ys.length (cellsP ys)):=hown
  have HYL:Hid (ys.length≤3000):=by show _≤_;rw [←lP_len,HY.out.1];exact Nat.le_trans (docL_len D n p k) (by omega)
  have HBo2:Hid (w.heap.size<wr.heap.size∧wr.cell? ⟨w.heap.size,0,none⟩=some (.slice A0 n cap)):=⟨Nat.lt_of_lt_of_le HBo.out.1 hBw.size,(hBw.cell (p:=⟨w.heap.size,0,none⟩) HBo.out.1).trans HBo.out.2⟩
  have cr:=HBo2.out.2
  have HBr:Hid (Below w.heap.size w wr):=onB HB1.out hBw
  by_cases hlt:k<PN
  ·have hki:(k:Int)<(PN:Int):=by omega
   have hst:=docL_step D n p k
   have hat:=rat_ty A0 cap n D A C k wr HR.out (by rw [HPN.out];exact hlt) (HM.out.later HBr.out)
   have HIq:Hid (InO D n (placeL D n k)):=placeL_in HR.out
   obtain ⟨q,hq⟩:∃ q,placeL D n k=q:=⟨_,rfl⟩
   have HQn:Hid (q≠[]):=by rw [←hq];exact HNE.out k
   rw [hq] at hat hst HIq
   obtain ⟨nq,hnq⟩:∃ nq,q.length=nq:=⟨_,rfl⟩
   have HNQ:Hid (q.length=nq):=hnq
   rw [hnq] at hat
   have HST:Hid (docL D n p (k+1)=docL D n p k ++ (if (leafV D n q && inTo D p q n)=true then [q] else [])):=hst
   clear hown hBw hst hq hnq
   go_wp2_with fail
   refine hat.mono ?_
   rintro e w2 ⟨⟨Aq,cq,rfl,hT⟩,hb2⟩
   have HT2:Hid (PlTy w2 Aq cq q):=hT
   have HB2:Hid (Below wr.heap.size wr w2):=hb2
   have c2:=(hb2.cell (p:=⟨w.heap.size,0,none⟩) HBo2.out.1).trans HBo2.out.2
   have hlf:=rleafplace_any A0 cap n D A C Aq cq q w2 HIq.out (HM.out.later (onB HBr.out hb2)) hT.pl
   rw [HNQ.out] at hlf
   clear hb2 hT hat cr
   go_wp2_with fail
   refine hlf.mono ?_
   rintro e w3 ⟨rfl,hb3⟩
   have HT3:Hid (PlTy w3 Aq cq q):=HT2.out.later hb3
   have HB3:Hid (Below wr.heap.size wr w3):=onB HB2.out hb3
   have c3:=(HB3.out.cell (p:=⟨w.heap.size,0,none⟩) HBo2.out.1).trans HBo2.out.2
   clear hb3 hlf c2 HT2 HB2
   obtain ⟨tl,htl⟩:∃ t,leafV D n q=t:=⟨_,rfl⟩
   have HTL:Hid (leafV D n q=tl):=htl
   rw [htl]
   clear htl
   cases tl
   ·have HY3:Hid (lP ys=docL D n p (k+1)∧∀ y∈ys,y.p≠[]∧PlTy w3 y.A y.c y.p):=⟨by rw [HST.out,HTL.out,HY.out.1];simp,fun y hy=>⟨(HY.out.2 y hy).1,(HY.out.2 y hy).2.later HB3.out⟩⟩
    have HO3:Hid (w3.ownsRow w1.heap.size 27 1 u5 ys.length (cellsP ys)):=own_later HOw.out HB3.out
    go_wp2_with fail
    go_roundg (PN-(k+1))
    case measure=>omega
    case rel=>exact ⟨k+1,ys,by omega,rfl,by go_num,HY3,HO3.out,onB HBw.out HB3.out⟩
   ·have hpw:=rpw_any A0 cap n D A C Ap cp p Aq cq q w3 HI.out HIq.out (HM.out.later (onB HBr.out HB3.out)) (HP.out.later (onB HBr.out HB3.out)) HT3.out.pl
    rw [HNQ.out,HNP.out] at hpw
    generalize pwTo D p q n=pw at hpw
    obtain ⟨ti,hti⟩:∃ t,inTo D p q n=t:=⟨_,rfl⟩
    have HTI:Hid (inTo D p q n=ti):=hti
    rw [hti] at hpw
    clear hti
    cases ti
    ·go_wp2_with fail
     refine hpw.mono ?_
     rintro e w4 ⟨rfl,hb4⟩
     have HB4:Hid (Below wr.heap.size wr w4):=onB HB3.out hb4
     have HY4:Hid (lP ys=docL D n p (k+1)∧∀ y∈ys,y.p≠[]∧PlTy w4 y.A y.c y.p):=⟨by rw [HST.out,HTI.out,HY.out.1];simp,fun y hy=>⟨(HY.out.2 y hy).1,(HY.out.2 y hy).2.later HB4.out⟩⟩
     have HO4:Hid (w4.ownsRow w1.heap.size 27 1 u5 ys.length (cellsP ys)):=own_later HOw.out HB4.out
     clear hb4 hpw c3
     go_wp2_with fail
     go_roundg (PN-(k+1))
     case measure=>omega
     case rel=>exact ⟨k+1,ys,by omega,rfl,by go_num,HY4,HO4.out,onB HBw.out HB4.out⟩
    ·go_wp2_with fail
     refine hpw.mono ?_
     rintro e w4 ⟨rfl,hb4⟩
     have HB4:Hid (Below wr.heap.size wr w4):=onB HB3.out hb4
     have HB14:Hid (Below w1.heap.size w1 w4):=onB HBw.out HB4.out
     have HT4:Hid (PlTy w4 Aq cq q):=HT3.out.later hb4
     have HY4:Hid (∀ y∈ys,y.p≠[]∧PlTy w4 y.A y.c y.p):=fun y hy=>⟨(HY.out.2 y hy).1,(HY.out.2 y hy).2.later HB4.out⟩
     have HO4:Hid (w4.ownsRow w1.heap.size 27 1 u5 ys.length (cellsP ys)):=own_later HOw.out HB4.out
     have hsz4:=HB14.out.size
     clear hb4 hpw c3
     go_wp2_with (at_builtin;refine wpList_append_own _ rfl _ _ 53 rfl w1.heap.size 27 i0 (.slice none 0 0) 1 24 Tryz.underlying53 hi0 hz0 hz1 hz2 rfl (by decide) _ _ _ rfl (HO4.out.alloc _) ⟨w4.heap.size,0,none⟩ 1 1 [.slice Aq nq cq] rfl rfl one_cell ?qe3 ?qe4 ?qe5 ?qe6 ?_)
     case qe3=>intro u hu;simp at hu;subst hu;rfl
     case qe4=>have:=HYL.out;simp only [maxLen];omega
     case qe5=>have:=HYL.out;omega
     case qe6=>simp;omega
     intro v' w5 hown' hgrow hnil
     have HB5:Hid (Below w1.heap.size w1 w5):=grown_own HB14.out HO4.out hgrow
     have hal:∀ {B:Option Addr} {d:Nat} {Y:List Int},PlTy w4 B d Y→PlTy w5 B d Y:=fun hY=>plty_row (hY.later (by go_grown)) (HO4.out.alloc _) hgrow
     have HY5:Hid (lP (ys ++ [(⟨q,Aq,cq⟩:PL)])=docL D n p (k+1)∧∀ y∈ys ++ [(⟨q,Aq,cq⟩:PL)],y.p≠[]∧PlTy w5 y.A y.c y.p):=by
      refine ⟨by rw [lP_append,HY.out.1,HST.out,HTL.out,HTI.out];rfl,fun y hy=>?_⟩
      rcases List.mem_append.1 hy with hy | hy
      ·exact ⟨(HY4.out y hy).1,hal (HY4.out y hy).2⟩
      ·rw [List.mem_singleton.1 hy]
       exact ⟨HQn.out,hal HT4.out⟩
     have HO5:Hid (w5.ownsRow w1.heap.size 27 1 v' (ys ++ [(⟨q,Aq,cq⟩:PL)]).length (cellsP (ys ++ [(⟨q,Aq,cq⟩:PL)]))):=by
      show World.ownsRow ..
      rw [cellsP_append,List.length_append]
      have e:cellsP [(⟨q,Aq,cq⟩:PL)]=[.slice Aq nq cq]:=by simp [cellsP,HNQ.out]
      rw [e]
      exact hown'
     clear hown' hgrow hnil hal
     go_wp2_with fail
     go_roundg (PN-(k+1))
     case measure=>omega
     case rel=>exact ⟨k+1,_,by omega,rfl,by go_num,HY5,HO5.out,HB5.out⟩
  ·have hke:k=PN:=by omega
   subst hke
   have HFin:Hid (lP ys=lfTo D p n):=by show _=_;rw [HY.out.1,←HPN.out];exact docL_all HR.out p
   clear hown hBw cr
   go_wp2_with fail
   go_ret
   obtain ⟨A',c',h1,h2⟩:=pls_own HOw.out HY.out.2
   exact ⟨⟨A',c',ys,by rw [←h1];rfl,h2,HFin.out⟩,HBr.out⟩
theorem keepQ2 {W w':World} {b o b' o':Nat} {u v:Value} (h:b<W.heap.size∧b'<W.heap.size∧W.cell? ⟨b,o,none⟩=some u∧W.cell? ⟨b',o',none⟩=some v) (hB:Below W.heap.size W w'):Below W.heap.size W w'∧w'.cell? ⟨b,o,none⟩=some u∧w'.cell? ⟨b',o',none⟩=some v :=
 ⟨hB,(hB.cell (p:=⟨b,o,none⟩) h.1).trans h.2.2.1,(hB.cell (p:=⟨b',o',none⟩) h.2.1).trans h.2.2.2⟩
end Go.Proofs.YtenlladggdcfnaaGreatDoor
