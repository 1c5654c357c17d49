/-
  The document's own reading of an outline (tallyref1.Outline): which dim is the first that is wrong, in which member, and how.
-/
import Derived.Test.YtaodedckffjpgafGreatDoorJXBF
namespace Go.Proofs.YtaodedckffjpgafGreatDoor
open Go.ChangeShapes Go.WideShapes Go.ChangeAt Go.RowKit
set_option maxRecDepth 20000
theorem clashD_hit {D:Nat→Dm} {k j:Nat} (hj:j<k) (h:same (D j).name (D k).name=true):clashD D k=true:=by
 unfold clashD
 exact decide_eq_true (findFrom_nonneg (q:=fun j=>same (D j).name (D k).name) hj h)
theorem clashD_none {D:Nat→Dm} {k:Nat} (h:findFrom (fun j=>same (D j).name (D k).name) k 0 = -1):clashD D k=false:=by
 unfold clashD
 rw [h]
 rfl
set_option maxHeartbeats 8000000 in
theorem routline_any (A0:Option Addr) (cap n:Nat) (D:Nat→Dm) (A:Nat→Option Addr) (C:Nat→Nat) (w:World) (hM:DimsV w A0 cap n D A C):Calls Tryz.prog 79 #[.agg #[.slice A0 n cap]] w fun e w'=>e=.returned (.tuple #[.int .i64 (allErr D n).1,.int .i64 (allErr D n).2.1,.int .i64 (allErr D n).2.2])∧Below w.heap.size w w':=by
 by_cases hn4:4<n
 ·have hn':4<(n:Int):=by omega
  have HR:Hid (allErr D n=(-1,-1,4)):=al0 hn4
  clear hn4 hM
  go_enter Tryz.func79,Tryz.ntmps79
  go_wp2_with fail
  refine bodyPost_ret (v:=.tuple #[.int .i64 (-1),.int .i64 (-1),.int .i64 4]) (by simp [results,Tryz.results79,go_sem]) rfl ⟨by rw [HR.out],?_⟩
  go_grown
 have hn':(n:Int)≤4:=by omega
 by_cases hn0:n=0
 ·have HR:Hid (allErr D n=(-1,-1,5)):=al1 hn0
  have hz:((n:Int) == 0)=true:=by simp [hn0]
  clear hn0 hM hn4
  go_enter Tryz.func79,Tryz.ntmps79
  go_wp2_with fail
  refine bodyPost_ret (v:=.tuple #[.int .i64 (-1),.int .i64 (-1),.int .i64 5]) (by simp [results,Tryz.results79,go_sem]) rfl ⟨by rw [HR.out],?_⟩
  go_grown
 have hz:((n:Int) == 0)=false:=by simp;omega
 obtain ⟨hcap,h0 | ⟨b,o,rfl,hMs⟩⟩:=hM
 ·omega
 have hcap':(n:Int)≤(cap:Int):=by omega
 have hB0:=ownOut_below w (some ⟨b,o,none⟩) n cap 42
 have hS:=ownOut_size w (some ⟨b,o,none⟩) n cap 42
 have hA:=ownOut_at w (some ⟨b,o,none⟩) n cap 42
 obtain ⟨W,hW⟩:∃ W,W=ownOut w (some ⟨b,o,none⟩) n cap 42:=⟨_,rfl⟩
 rw [←hW] at hB0 hS hA
 have HMs:Hid (DimsAt W b o n D A C):=hMs.later hB0
 have hsz:w.heap.size<W.heap.size:=by omega
 clear hMs
 have HW:Hid (W=ownOut w (some ⟨b,o,none⟩) n cap 42):=hW
 have HA:Hid (W.cell? ⟨w.heap.size,0,none⟩=some (.slice (some ⟨b,o,none⟩) n cap)):=hA
 have HB0:Hid (Below w.heap.size w W):=hB0
 clear hW hA hB0 hS
 go_enter Tryz.func79,Tryz.ntmps79
 go_wp2_with fail
 go_loopg [5] n (fun g s5 wr => ∃ (k:Nat),k≤n∧g=n-k∧s5=.int .i64 k∧scanD D (n-k) k=scanD D n 0∧Below W.heap.size W wr)
 case atStart=>exact ⟨0,Nat.zero_le _,rfl,rfl,rfl,by rw [HW.out];exact Below.refl _ _⟩
 case round =>
  obtain ⟨k,hk,rfl,rfl,hsc,hBw⟩:=hrel
  obtain ⟨wo,rfl⟩:∃ wo:World,wo=wr:=⟨_,rfl⟩
  have HBr:Hid (Below W.heap.size W wo):=hBw
  have HF:Hid (scanD D (n-k) k=scanD D n 0):=hsc
  have c0:wo.cell? ⟨w.heap.size,0,none⟩=some (.slice (some ⟨b,o,none⟩) n cap):=(hBw.cell (p:=⟨w.heap.size,0,none⟩) hsz).trans HA.out
  have hMr:=HMs.out.later hBw
  have hszr:w.heap.size<wo.heap.size:=Nat.lt_of_lt_of_le hsz hBw.size
  clear hsc hBw
  by_cases hlt:k<n
  ·obtain ⟨h0,h1,h2,h3⟩:=hMr.2 k hlt
   have hki:(k:Int)<(n:Int):=by omega
   have hsk:n-k=(n-(k+1))+1:=by omega
   have hck:=rdim_any (D k) (A k) (C k) wo h3
   unfold dimV at hck
   have HMr:Hid (DimsAt wo b o n D A C):=hMr
   clear h3 hMr
   by_cases he:(dimErr (D k)).2=0
   ·obtain ⟨e1,hd1,hd2,-⟩:=dimErr_right he
    rw [he,e1] at hck
    have HE:Hid ((dimErr (D k)).2=0):=he
    clear he e1
    go_wp2_with fail
    refine hck.mono ?_
    rintro e w1 ⟨rfl,hb1⟩
    have hz1:w.heap.size<w1.heap.size:=Nat.lt_of_lt_of_le hszr hb1.size
    have c1:w1.cell? ⟨w.heap.size,0,none⟩=some (.slice (some ⟨b,o,none⟩) n cap):=(hb1.cell (p:=⟨w.heap.size,0,none⟩) hszr).trans c0
    have HM1:Hid (DimsAt w1 b o n D A C):=HMr.out.later hb1
    have HB1:Hid (Below W.heap.size W w1):=onB HBr.out hb1
    clear hb1 hck c0 h0 h1 h2 HMr hd1 hd2
    go_wp2_with fail
    go_loopg [7,8] k (fun g s7 s8 wr => ∃ (j:Nat),j≤k∧g=k-j∧s8=.int .i64 j∧((s7=.int .i64 0∧findFrom (fun j=>same (D j).name (D k).name) (k-j) j=findFrom (fun j=>same (D j).name (D k).name) k 0)∨(s7=.int .i64 7∧clashD D k=true))∧Below w1.heap.size w1 wr)
    case atStart=>exact ⟨0,Nat.zero_le _,rfl,rfl,Or.inl ⟨rfl,rfl⟩,Below.refl _ _⟩
    case round =>
     obtain ⟨j,hj,rfl,rfl,hs,hBi⟩:=hrel
     have HBi:Hid (Below w1.heap.size w1 wr):=hBi
     have c2:wr.cell? ⟨w.heap.size,0,none⟩=some (.slice (some ⟨b,o,none⟩) n cap):=(hBi.cell (p:=⟨w.heap.size,0,none⟩) hz1).trans c1
     have hMi:=HM1.out.later hBi
     clear hBi
     rcases hs with ⟨rfl,hff⟩ | ⟨rfl,hcl⟩
     ·have HFF:Hid (findFrom (fun j=>same (D j).name (D k).name) (k-j) j=findFrom (fun j=>same (D j).name (D k).name) k 0):=hff
      clear hff
      by_cases hjk:j<k
      ·obtain ⟨a0,-,-,-⟩:=hMi.2 j (by omega)
       obtain ⟨b0,-,-,-⟩:=hMi.2 k hlt
       have hji:(j:Int)<(k:Int):=by omega
       have hjn:(j:Int)<(n:Int):=by omega
       have hsj:k-j=(k-(j+1))+1:=by omega
       clear hMi
       cases hq:((D j).name.toList == (D k).name.toList)
       ·have HQ:Hid ((fun j=>same (D j).name (D k).name) j=false):=hq
        go_wp2_with fail
        go_quiet (fail)
        go_wp2_with fail
        go_roundg (k-(j+1))
        case measure=>omega
        case rel=>exact ⟨j+1,by omega,rfl,by go_num,Or.inl ⟨rfl,by rw [←HFF.out,hsj,findFrom_miss _ HQ.out]⟩,onB HBi.out (below_drewN (Below.refl _ _) _)⟩
       ·have HQ:Hid (clashD D k=true):=clashD_hit hjk hq
        go_wp2_with fail
        go_quiet (fail)
        go_wp2_with fail
        go_roundg (k-(j+1))
        case measure=>omega
        case rel=>exact ⟨j+1,by omega,rfl,by go_num,Or.inr ⟨rfl,HQ.out⟩,onB HBi.out (below_drewN (Below.refl _ _) _)⟩
      ·have hje:j=k:=by omega
       have hji:(k:Int)≤(j:Int):=by omega
       have hcl:clashD D k=false:=clashD_none (by rw [←HFF.out,hje,Nat.sub_self];rfl)
       have HK:Hid (oneD D k=(-1,0)):=one2 HE.out hcl
       clear hMi hcl
       go_wp2_with fail
       go_roundg (n-(k+1))
       case measure=>omega
       case rel=>exact ⟨k+1,by omega,rfl,by go_num,by rw [←HF.out,hsk,scanD_ok _ (by rw [HK.out])],onB HB1.out HBi.out⟩
     ·have HK:Hid (oneD D k=(-1,7)):=one1 HE.out hcl
      clear hMi hcl
      have hsb:scanD D n 0=((k:Int),-1,7):=by rw [←HF.out,hsk,scanD_bad _ (by rw [HK.out];decide),HK.out]
      have HR:Hid (allErr D n=((k:Int),-1,7)):=by show _=_;rw [al2 (by omega) (by omega) (by rw [hsb];show (7:Int)≠0;decide),hsb]
      clear hsb
      by_cases hjk:(j:Int)<(k:Int)
      ·go_wp2_with fail
       refine bodyPost_ret (v:=.tuple #[.int .i64 k,.int .i64 (-1),.int .i64 7]) (by simp [results,Tryz.results79,go_sem]) rfl ⟨by rw [HR.out],?_⟩
       exact onB HB0.out (onB HB1.out HBi.out)
      ·go_wp2_with fail
       refine bodyPost_ret (v:=.tuple #[.int .i64 k,.int .i64 (-1),.int .i64 7]) (by simp [results,Tryz.results79,go_sem]) rfl ⟨by rw [HR.out],?_⟩
       exact onB HB0.out (onB HB1.out HBi.out)
   ·have HK:Hid (oneD D k=dimErr (D k)):=one0 he
    have HE:Hid ((dimErr (D k)).2≠0):=he
    have hsb:scanD D n 0=((k:Int),(dimErr (D k)).1,(dimErr (D k)).2):=by rw [←HF.out,hsk,scanD_bad _ (by rw [HK.out];exact he),HK.out]
    have HR:Hid (allErr D n=((k:Int),(dimErr (D k)).1,(dimErr (D k)).2)):=by show _=_;rw [al2 (by omega) (by omega) (by rw [hsb];exact he),hsb]
    have he2:((dimErr (D k)).2 == 0)=false:=by simpa using he
    clear he hsb HK HE
    generalize (dimErr (D k)).2=ec at hck HR he2
    generalize (dimErr (D k)).1=kc at hck HR
    go_wp2_with fail
    refine hck.mono ?_
    rintro e w1 ⟨rfl,hb1⟩
    have HB1:Hid (Below W.heap.size W w1):=onB HBr.out hb1
    clear hb1 hck
    go_wp2_with fail
    by_cases hk0:(0:Int)<(k:Int)
    ·refine wp_loop_rounds 1 ?_
     rw [rounds_succ]
     go_wp2_with fail
     refine bodyPost_ret (v:=.tuple #[.int .i64 k,.int .i64 kc,.int .i64 ec]) (by simp [results,Tryz.results79,go_sem]) rfl ⟨by rw [HR.out],?_⟩
     exact onB HB0.out HB1.out
    ·have hk0':(k:Int)≤0:=by omega
     refine wp_loop_rounds 1 ?_
     rw [rounds_succ]
     go_wp2_with fail
     refine bodyPost_ret (v:=.tuple #[.int .i64 k,.int .i64 kc,.int .i64 ec]) (by simp [results,Tryz.results79,go_sem]) rfl ⟨by rw [HR.out],?_⟩
     exact onB HB0.out HB1.out
  ·have hke:k=n:=by omega
   subst hke
   have hs0:(scanD D k 0).2.2=0:=by rw [←HF.out,Nat.sub_self];rfl
   have hone:=(scanD_right k 0 hs0).2
   have hcs:=osize_any b o k cap D A C wo (by omega) (fun j hj=>(dimErr_right (oneD_right (hone j (Nat.zero_le _) (by omega)))).2.2.1) hMr
   clear hone hMr
   by_cases hp:3000<prodN D k
   ·have hp':3000<(prodN D k:Int):=by omega
    have HR:Hid (allErr D k=(-1,-1,4)):=al3 (by omega) (by omega) hs0 hp
    clear hs0 hp
    go_wp2_with fail
    refine hcs.mono ?_
    rintro e w2 ⟨rfl,hb2⟩
    go_wp2_with fail
    refine bodyPost_ret (v:=.tuple #[.int .i64 (-1),.int .i64 (-1),.int .i64 4]) (by simp [results,Tryz.results79,go_sem]) rfl ⟨by rw [HR.out],?_⟩
    exact onB HB0.out (onB HBr.out hb2)
   ·have hp':(prodN D k:Int)≤3000:=by omega
    have HR:Hid (allErr D k=(-1,-1,0)):=al4 (by omega) (by omega) hs0 hp
    clear hs0 hp
    go_wp2_with fail
    refine hcs.mono ?_
    rintro e w2 ⟨rfl,hb2⟩
    go_wp2_with fail
    refine bodyPost_ret (v:=.tuple #[.int .i64 (-1),.int .i64 (-1),.int .i64 0]) (by simp [results,Tryz.results79,go_sem]) rfl ⟨by rw [HR.out],?_⟩
    exact onB HB0.out (onB HBr.out hb2)
theorem rright_any (A0:Option Addr) (cap n:Nat) (D:Nat→Dm) (A:Nat→Option Addr) (C:Nat→Nat) (w:World) (hM:DimsV w A0 cap n D A C):Calls Tryz.prog 63 #[.agg #[.slice A0 n cap]] w fun e w'=>e=.returned (.int .i64 (allErr D n).2.2)∧Below w.heap.size w w':=by
 have hB0:=ownOut_below w A0 n cap 42
 have h:=routline_any A0 cap n D A C (ownOut w A0 n cap 42) (hM.later hB0)
 have HB0:Hid (Below w.heap.size w (ownOut w A0 n cap 42)):=hB0
 clear hM hB0
 generalize (allErr D n).2.2=v at h
 generalize (allErr D n).1=x at h
 generalize (allErr D n).2.1=y at h
 go_enter Tryz.func63,Tryz.ntmps63
 go_wp2_with fail
 refine h.mono ?_
 rintro e w1 ⟨rfl,hb1⟩
 go_wp2_with fail
 go_ret
 exact ⟨rfl,onB HB0.out hb1⟩
set_option maxHeartbeats 4000000 in
theorem rplace_any (A0:Option Addr) (cap n:Nat) (D:Nat→Dm) (A:Nat→Option Addr) (C:Nat→Nat) (Ap:Option Addr) (cp:Nat) (L:List Int) (w:World) (hR:(allErr D n).2.2=0) (hM:DimsV w A0 cap n D A C) (hP:PlAt w Ap cp L):Calls Tryz.prog 15 #[.agg #[.slice A0 n cap],.slice Ap L.length cp] w fun e w'=>e=.returned (.int .i64 (shapeErr D n L))∧Below w.heap.size w w':=by
 obtain ⟨hn1,hn4,-,hd⟩:=allErr_some hR
 have hn':(n:Int)≤4:=by omega
 have HD:Hid (∀ i,i<n→1≤(D i).n∧(D i).n≤12):=hd
 clear hd hR
 by_cases hl:L.length=n
 ·have hle:((L.length:Int) == (n:Int))=true:=by simp [hl]
  have HL:Hid (L.length=n):=hl
  obtain ⟨hcp,h0 | ⟨bp,op,rfl,hbp,hcell⟩⟩:=hP
  ·rw [h0] at hl;simp at hl;omega
  obtain ⟨hcap,h0 | ⟨b,o,rfl,hMs⟩⟩:=hM
  ·omega
  rw [hl] at hle hcp
  rw [hl]
  have HC:Hid (∀ j,j<n→w.cell? ⟨bp,op+j,none⟩=some (.int .i64 (L.getD j 0))):=fun j hj=>hcell j (by omega)
  have HMs:Hid (DimsAt w b o n D A C):=hMs
  have HB0:Hid (Below w.heap.size w (ownOut w (some ⟨b,o,none⟩) n cap 42)):=ownOut_below ..
  have HO:Hid (∀ w',Below (w.heap.size+1) (ownOut w (some ⟨b,o,none⟩) n cap 42) w'→w'.cell? ⟨w.heap.size,0,none⟩=some (.slice (some ⟨b,o,none⟩) n cap)):=fun w' hw'=>(hw'.cell (p:=⟨w.heap.size,0,none⟩) (by show w.heap.size<_;omega)).trans (ownOut_at ..)
  clear hl hcell hMs
  go_enter Tryz.func15,Tryz.ntmps15
  go_wp2_with fail
  go_loopg [5] n (fun g s5 wr => ∃ (k:Nat),k≤n∧g=n-k∧s5=.int .i64 k∧findFrom (outP D L) (n-k) k=findFrom (outP D L) n 0∧Below (w.heap.size+1) (ownOut w (some ⟨b,o,none⟩) n cap 42) wr)
  case atStart=>exact ⟨0,Nat.zero_le _,rfl,rfl,rfl,Below.refl _ _⟩
  case round =>
   obtain ⟨k,hk,rfl,rfl,hf,hBw⟩:=hrel
   have HF:Hid (findFrom (outP D L) (n-k) k=findFrom (outP D L) n 0):=hf
   have HW:Hid (Below (w.heap.size+1) (ownOut w (some ⟨b,o,none⟩) n cap 42) wr):=hBw
   have hBo:Below w.heap.size w wr:=HB0.out.trans (hBw.mono (by omega))
   have HBo:Hid (Below w.heap.size w wr):=hBo
   by_cases hlt:k<n
   ·have hki:(k:Int)<(n:Int):=by omega
    have HSK:Hid (n-k=(n-(k+1))+1):=by show _=_;omega
    obtain ⟨-,-,h3,-⟩:=(HMs.out.later hBo).2 k hlt
    have hcx:wr.cell? ⟨bp,op+k,none⟩=some (.int .i64 (L.getD k 0)):=(hBo.cell (p:=⟨bp,op+k,none⟩) hbp).trans (HC.out k hlt)
    have c0:=HO.out wr hBw
    have hm:=(HD.out k hlt).2
    have HOK:Hid (outP D L k=(decide (L.getD k 0<0) || decide (((D k).n:Int)≤L.getD k 0))):=rfl
    generalize L.getD k 0=x at hcx HOK
    generalize (D k).n=m at h3 hm HOK
    have hm':(m:Int)≤12:=by omega
    clear hf hBw hBo
    by_cases hx0:x<0
    ·have HN:Hid (outP D L k=true):=by show _=_;rw [HOK.out,decide_eq_true hx0];rfl
     go_wp2_with fail
     go_quiet (fail)
     go_wp2_with fail
     go_ret
     refine ⟨?_,below_drewN HBo.out _⟩
     rw [sh1 HL.out]
     ·rfl
     ·rw [←HF.out,HSK.out,findFrom_hit _ HN.out];omega
    ·have hx0':0≤x:=by omega
     have hxd:decide (x<0)=false:=decide_eq_false hx0
     by_cases hx1:(m:Int)≤x
     ·have HN:Hid (outP D L k=true):=by show _=_;rw [HOK.out,decide_eq_true hx1];simp
      go_wp2_with fail
      go_quiet (fail)
      go_wp2_with fail
      go_ret
      refine ⟨?_,below_drewN HBo.out _⟩
      rw [sh1 HL.out]
      ·rfl
      ·rw [←HF.out,HSK.out,findFrom_hit _ HN.out];omega
     ·have hx1':x<(m:Int):=by omega
      have HN:Hid (outP D L k=false):=by show _=_;rw [HOK.out,hxd,decide_eq_false hx1];rfl
      go_wp2_with fail
      go_quiet (fail)
      go_wp2_with fail
      go_roundg (n-(k+1))
      case measure=>omega
      case rel=>exact ⟨k+1,by omega,rfl,by go_num,by rw [←HF.out,HSK.out,findFrom_miss _ HN.out],below_drewN HW.out _⟩
   ·have hke:k=n:=by omega
    subst hke
    clear hf hBw hBo
    go_wp2_with fail
    go_ret
    refine ⟨?_,HBo.out⟩
    rw [sh2 HL.out]
    ·rfl
    ·rw [←HF.out,Nat.sub_self];show ¬ (0:Int)≤-1;decide
 ·have hle:((L.length:Int) == (n:Int))=false:=by simp;omega
  have HR:Hid (shapeErr D n L=3):=sh0 hl
  generalize L.length=m at hle
  clear hl hM hP
  go_enter Tryz.func15,Tryz.ntmps15
  go_wp2_with fail
  go_ret
  exact ⟨by rw [HR.out];rfl,by go_grown⟩
set_option maxHeartbeats 4000000 in
theorem rnumber_any (A0:Option Addr) (cap n:Nat) (D:Nat→Dm) (A:Nat→Option Addr) (C:Nat→Nat) (Ap:Option Addr) (cp:Nat) (L:List Int) (w:World) (hI:InO D n L) (hM:DimsV w A0 cap n D A C) (hP:PlAt w Ap cp L):Calls Tryz.prog 17 #[.agg #[.slice A0 n cap],.slice Ap L.length cp] w fun e w'=>e=.returned (.int .i64 (numI D L n))∧Below w.heap.size w w':=by
 obtain ⟨hn1,hn4,-,hd⟩:=allErr_some hI.right
 have hn':(n:Int)≤4:=by omega
 have HD:Hid (∀ i,i<n→1≤(D i).n∧(D i).n≤12):=hd
 have HI:Hid (InO D n L):=hI
 have hl:=hI.len
 obtain ⟨hcp,h0 | ⟨bp,op,rfl,hbp,hcell⟩⟩:=hP
 ·rw [h0] at hl;simp at hl;omega
 obtain ⟨hcap,h0 | ⟨b,o,rfl,hMs⟩⟩:=hM
 ·omega
 rw [hl]
 have HC:Hid (∀ j,j<n→w.cell? ⟨bp,op+j,none⟩=some (.int .i64 (L.getD j 0))):=fun j hj=>hcell j (by omega)
 have HMs:Hid (DimsAt w b o n D A C):=hMs
 have HB0:Hid (Below w.heap.size w (ownOut w (some ⟨b,o,none⟩) n cap 42)):=ownOut_below ..
 have HO:Hid (∀ w',Below (w.heap.size+1) (ownOut w (some ⟨b,o,none⟩) n cap 42) w'→w'.cell? ⟨w.heap.size,0,none⟩=some (.slice (some ⟨b,o,none⟩) n cap)):=fun w' hw'=>(hw'.cell (p:=⟨w.heap.size,0,none⟩) (by show w.heap.size<_;omega)).trans (ownOut_at ..)
 clear hl hcell hMs hd hI
 go_enter Tryz.func17,Tryz.ntmps17
 go_wp2_with fail
 go_loopg [5,6] n (fun g s5 s6 wr => ∃ (k:Nat),k≤n∧g=n-k∧s6=.int .i64 k∧s5=.int .i64 (numI D L k)∧Below (w.heap.size+1) (ownOut w (some ⟨b,o,none⟩) n cap 42) wr)
 case atStart=>exact ⟨0,Nat.zero_le _,rfl,rfl,rfl,Below.refl _ _⟩
 case round =>
  obtain ⟨k,hk,rfl,rfl,rfl,hBw⟩:=hrel
  have HW:Hid (Below (w.heap.size+1) (ownOut w (some ⟨b,o,none⟩) n cap 42) wr):=hBw
  have hBo:Below w.heap.size w wr:=HB0.out.trans (hBw.mono (by omega))
  have HBo:Hid (Below w.heap.size w wr):=hBo
  by_cases hlt:k<n
  ·have hki:(k:Int)<(n:Int):=by omega
   obtain ⟨-,-,h3,-⟩:=(HMs.out.later hBo).2 k hlt
   have hcx:wr.cell? ⟨bp,op+k,none⟩=some (.int .i64 (L.getD k 0)):=(hBo.cell (p:=⟨bp,op+k,none⟩) hbp).trans (HC.out k hlt)
   have c0:=HO.out wr hBw
   obtain ⟨hb1,hb2,hb3⟩:=numI_bound HI.out (k:=k+1) (by omega)
   obtain ⟨hb4,hb5,hb6⟩:=numI_bound HI.out (k:=k) (by omega)
   have hx0:=HI.out.lo k hlt
   have hx1:=HI.out.hi k hlt
   obtain ⟨hd1,hd2⟩:=HD.out k hlt
   have HN:Hid (numI D L (k+1)=numI D L k*((D k).n:Int)+L.getD k 0):=rfl
   rw [HN.out] at hb1 hb2
   generalize L.getD k 0=x at hcx hb1 hb2 hx0 hx1 HN
   generalize (D k).n=m at h3 hb1 hb2 hd1 hd2 hx1 HN
   generalize numI D L k=y at hb1 hb2 hb4 hb5 HN
   have hm0:0≤y*(m:Int):=Int.mul_nonneg hb4 (by omega)
   have hm1:y*(m:Int)≤20736:=by omega
   have hm2:y*(m:Int)+x≤20736:=by omega
   clear hBw hBo hb2 hb5
   go_wp2_with fail
   go_quiet (fail)
   go_wp2_with fail
   go_roundg (n-(k+1))
   case measure=>omega
   case rel=>exact ⟨k+1,by omega,rfl,by go_num,by rw [HN.out],below_drewN HW.out _⟩
  ·have hke:k=n:=by omega
   subst hke
   clear hBw hBo
   go_wp2_with fail
   go_ret
   exact ⟨rfl,HBo.out⟩
set_option maxHeartbeats 4000000 in
theorem rleafplace_any (A0:Option Addr) (cap n:Nat) (D:Nat→Dm) (A:Nat→Option Addr) (C:Nat→Nat) (Ap:Option Addr) (cp:Nat) (L:List Int) (w:World) (hI:InO D n L) (hM:DimsV w A0 cap n D A C) (hP:PlAt w Ap cp L):Calls Tryz.prog 64 #[.agg #[.slice A0 n cap],.slice Ap L.length cp] w fun e w'=>e=.returned (.bool (leafV D n L))∧Below w.heap.size w w':=by
 obtain ⟨hn1,hn4,-,hd⟩:=allErr_some hI.right
 have hn':(n:Int)≤4:=by omega
 have HD:Hid (∀ i,i<n→1≤(D i).n∧(D i).n≤12):=hd
 have HI:Hid (InO D n L):=hI
 have HV:Hid (leafV D n L = !decide (0≤findFrom (notLeaf D L) n 0)):=by show _=_;unfold leafV;rw [if_pos hI.ok]
 have hl:=hI.len
 obtain ⟨hcp,h0 | ⟨bp,op,rfl,hbp,hcell⟩⟩:=hP
 ·rw [h0] at hl;simp at hl;omega
 obtain ⟨hcap,h0 | ⟨b,o,rfl,hMs⟩⟩:=hM
 ·omega
 rw [hl]
 have HC:Hid (∀ j,j<n→w.cell? ⟨bp,op+j,none⟩=some (.int .i64 (L.getD j 0))):=fun j hj=>hcell j (by omega)
 have HMs:Hid (DimsAt w b o n D A C):=hMs
 have HB0:Hid (Below w.heap.size w (ownOut w (some ⟨b,o,none⟩) n cap 42)):=ownOut_below ..
 have HO:Hid (∀ w',Below (w.heap.size+1) (ownOut w (some ⟨b,o,none⟩) n cap 42) w'→w'.cell? ⟨w.heap.size,0,none⟩=some (.slice (some ⟨b,o,none⟩) n cap)):=fun w' hw'=>(hw'.cell (p:=⟨w.heap.size,0,none⟩) (by show w.heap.size<_;omega)).trans (ownOut_at ..)
 have hS0:=ownOut_size w (some ⟨b,o,none⟩) n cap 42
 clear hl hcell hMs hd hI
 go_enter Tryz.func64,Tryz.ntmps64
 go_wp2_with fail
 go_loopg [5,6] n (fun g s5 s6 wr => ∃ (k:Nat),k≤n∧g=n-k∧s5=.int .i64 k∧findFrom (notLeaf D L) (n-k) k=findFrom (notLeaf D L) n 0∧Below (w.heap.size+1) (ownOut w (some ⟨b,o,none⟩) n cap 42) wr)
 case atStart=>exact ⟨0,Nat.zero_le _,rfl,rfl,rfl,Below.refl _ _⟩
 case round =>
  obtain ⟨k,hk,rfl,rfl,hf,hBw⟩:=hrel
  have HF:Hid (findFrom (notLeaf D L) (n-k) k=findFrom (notLeaf D L) n 0):=hf
  have HW:Hid (Below (w.heap.size+1) (ownOut w (some ⟨b,o,none⟩) n cap 42) wr):=hBw
  have hBo:Below w.heap.size w wr:=HB0.out.trans (hBw.mono (by omega))
  have HBo:Hid (Below w.heap.size w wr):=hBo
  by_cases hlt:k<n
  ·have hki:(k:Int)<(n:Int):=by omega
   have HSK:Hid (n-k=(n-(k+1))+1):=by show _=_;omega
   obtain ⟨h0,h1,h3,h4⟩:=(HMs.out.later hBo).2 k hlt
   have hlo:=HI.out.lo k hlt
   have hhi:=HI.out.hi k hlt
   obtain ⟨X,hX⟩:∃ X:Nat,L.getD k 0=X:=⟨(L.getD k 0).toNat,by omega⟩
   have hcx:wr.cell? ⟨bp,op+k,none⟩=some (.int .i64 (L.getD k 0)):=(hBo.cell (p:=⟨bp,op+k,none⟩) hbp).trans (HC.out k hlt)
   have HNL:Hid (notLeaf D L k = !leafB (D k).mem (D k).n X):=by show _=_;unfold notLeaf;rw [hX];rfl
   rw [hX] at hcx hlo hhi
   have c0:=HO.out wr hBw
   have hwz:w.heap.size+1≤wr.heap.size:=by have:=hBw.size;omega
   obtain ⟨hd1,hd2⟩:=HD.out k hlt
   obtain ⟨hcm,h5 | ⟨b',o',hA,hMm⟩⟩:=h4
   ·omega
   rw [hA] at h3
   have HLf:Hid (∀ w',Below wr.heap.size wr w'→Calls Tryz.prog 43 #[.agg #[.string (D k).name,.int .i64 (D k).solve,.slice (some ⟨b',o',none⟩) (D k).n (C k)],.int .i64 X] w' fun e w''=>e=.returned (.bool (leafB (D k).mem (D k).n X))∧Below w'.heap.size w' w''):=fun w' hw'=>rleaf_any (D k) b' o' (C k) X w' hd2 (by omega) (hMm.later hw')
   clear hf hBw hBo hX hMm hA
   cases hb:leafB (D k).mem (D k).n X
   ·rw [hb] at HLf HNL
    have HN:Hid (notLeaf D L k=true):=HNL.out
    clear hb
    go_wp2_with fail
    go_region_law ((go_simp;refine (HLf.out _ (by go_grown)).mono ?_;rintro e w2 ⟨rfl,hb2⟩;have hN2:=onB (W0:=wr) (by go_grown) hb2;clear hb2))
    all_goals go_wp2_with fail
    all_goals go_ret
    all_goals refine ⟨?_,onB HBo.out hN2⟩
    all_goals rw [HV.out,←HF.out,HSK.out,findFrom_hit _ HN.out,decide_eq_true (by omega)]
    all_goals rfl
   ·rw [hb] at HLf HNL
    have HN:Hid (notLeaf D L k=false):=HNL.out
    clear hb
    go_wp2_with fail
    go_region_law ((go_simp;refine (HLf.out _ (by go_grown)).mono ?_;rintro e w2 ⟨rfl,hb2⟩;have hN2:=onB (W0:=wr) (by go_grown) hb2;clear hb2))
    all_goals go_wp2_with fail
    all_goals go_roundg (n-(k+1))
    all_goals first | omega | exact ⟨k+1,by omega,rfl,by go_num,by rw [←HF.out,HSK.out,findFrom_miss _ HN.out],HW.out.trans (hN2.mono hwz)⟩
  ·have hke:k=n:=by omega
   subst hke
   clear hf hBw hBo
   go_wp2_with fail
   go_ret
   refine ⟨?_,HBo.out⟩
   rw [HV.out,←HF.out,Nat.sub_self]
   rfl
set_option maxHeartbeats 4000000 in
theorem rat_any (A0:Option Addr) (cap n:Nat) (D:Nat→Dm) (A:Nat→Option Addr) (C:Nat→Nat) (X:Nat) (w:World) (hR:(allErr D n).2.2=0) (hX:X<prodN D n) (hM:DimsV w A0 cap n D A C):Calls Tryz.prog 24 #[.agg #[.slice A0 n cap],.int .i64 X] w fun e w'=>(∃ A' c',e=.returned (.slice A' (placeL D n X).length c')∧PlAt w' A' c' (placeL D n X))∧Below w.heap.size w w':=by
 obtain ⟨hn1,hn4,hp3,hd⟩:=allErr_some hR
 have HD:Hid (∀ i,i<n→1≤(D i).n∧(D i).n≤12):=hd
 have hn':(n:Int)≤4:=by omega
 have hn1':(1:Int)≤(n:Int):=by omega
 have hX3:X≤3000:=by omega
 have hmk:=run_make_row' (P:=Tryz.prog) 44 3 (.int .i64 0) 8 Tryz.underlying44 Tryz.infoIntP rfl .i64 .i64 n (by omega) (by omega)
 obtain ⟨hcap,h0 | ⟨b,o,rfl,hMs⟩⟩:=hM
 ·omega
 obtain ⟨w1,hw1⟩:∃ w1,w1=ownOut w (some ⟨b,o,none⟩) n cap 42:=⟨_,rfl⟩
 have hB1:Below w.heap.size w w1:=by rw [hw1];exact ownOut_below ..
 have h2:w1.cell? ⟨w.heap.size,0,none⟩=some (.slice (some ⟨b,o,none⟩) n cap):=by rw [hw1];exact ownOut_at ..
 have hz1:w1.heap.size=w.heap.size+1:=by rw [hw1];exact ownOut_size ..
 have HMs:Hid (DimsAt w1 b o n D A C):=hMs.later hB1
 have HB1:Hid (Below w.heap.size w w1):=hB1
 have H2:Hid (w1.cell? ⟨w.heap.size,0,none⟩=some (.slice (some ⟨b,o,none⟩) n cap)):=h2
 have HZ1:Hid (w1.heap.size=w.heap.size+1):=hz1
 have HW1:Hid (w1=ownOut w (some ⟨b,o,none⟩) n cap 42):=hw1
 have HI0:Hid (IntB (w1.alloc (.cells (madeCells #[.int .i64 0] n) 3)) w1.heap.size (digL D n X 0)):=by show IntB _ _ _;rw [digL_zero];exact IntB.made w1 n
 have HBm:Hid (Below w1.heap.size w1 (w1.alloc (.cells (madeCells #[.int .i64 0] n) 3))):=by show Below _ _ _;go_grown
 rw [hw1] at HI0 HBm
 unfold ownOut at HI0 HBm
 clear hd hMs hB1 h2 hz1 hw1 hX hp3 hR
 go_enter Tryz.func24,Tryz.ntmps24
 go_wp2_with fail
 clear hmk
 go_loopg [1,6,7] n (fun g s1 s6 s7 wr => ∃ (r:Nat),r≤n∧g=n-r∧s6=.int .i64 ((n:Int)-1-r)∧s1=.int .i64 (restAt D n X r)∧IntB wr w1.heap.size (digL D n X r)∧Below w1.heap.size w1 wr)
 case atStart=>exact ⟨0,Nat.zero_le _,rfl,by simp,rfl,by rw [HW1.out];exact HI0.out,by rw [HW1.out];exact HBm.out⟩
 case round =>
  obtain ⟨r,hr,rfl,rfl,rfl,hI,hBw⟩:=hrel
  have HI:Hid (IntB wr w1.heap.size (digL D n X r)):=hI
  have HBw:Hid (Below w1.heap.size w1 wr):=hBw
  by_cases hlt:r<n
  ·obtain ⟨k,hk⟩:∃ k:Nat,k=n-1-r:=⟨_,rfl⟩
   have hki:(n:Int)-1-(r:Int)=(k:Int):=by omega
   rw [hki]
   have HK:Hid (k=n-1-r):=hk
   have hkn:k<n:=by omega
   obtain ⟨-,-,h3,-⟩:=(HMs.out.later hBw).2 k hkn
   have c2:wr.cell? ⟨w.heap.size,0,none⟩=some (.slice (some ⟨b,o,none⟩) n cap):=(hBw.cell (p:=⟨w.heap.size,0,none⟩) (by show w.heap.size<_;rw [HZ1.out];omega)).trans H2.out
   have hkn':(k:Int)<(n:Int):=by omega
   have c4:=hI.cell (j:=k) (by rw [digL_len];exact hkn)
   have c5:=hI.frozen k
   rw [HZ1.out] at c4 c5
   obtain ⟨hd1,hd2⟩:=HD.out k hkn
   have hre:=restAt_le D n X r
   have HR1:Hid (restAt D n X (r+1)=restAt D n X r / (D k).n):=by show _=_;rw [restAt,hk]
   have HR2:Hid (digitAt D n X k=restAt D n X r % (D k).n):=by show _=_;rw [digitAt,show n-1-k=r by omega]
   have HS:Hid ((digL D n X r).set k (digitAt D n X k:Int)=digL D n X (r+1)):=by show _=_;rw [hk];exact digL_set D n X r hlt
   generalize (digL D n X r).getD k 0=old at c4
   generalize restAt D n X r=R at HR1 HR2 hre
   generalize hm:(D k).n=m at h3 hd1 hd2 HR1 HR2
   have hm1:(1:Int)≤(m:Int):=by omega
   have hm2:(m:Int)≤12:=by omega
   have hRR:(R:Int)≤3000:=by omega
   have hR0:(0:Int)≤(R:Int):=by omega
   have hm0:((m:Int) == 0)=false:=by simp;omega
   clear hI hBw hk hki hm
   go_wp2_with fail
   go_roundg (n-(r+1))
   case measure=>omega
   case rel =>
    have hdm:=Nat.div_le_self R m
    have hw:wrap64 ((R:Int) / (m:Int))=((R / m:Nat):Int):=by
     rw [←Int.natCast_ediv]
     exact wrap_small (Nat.le_trans hdm (by omega))
    refine ⟨r+1,by omega,rfl,?_,?_,?_,HBw.out.setCell (by show w1.heap.size≤w.heap.size+1;rw [HZ1.out];exact Nat.le_refl _) _⟩
    ·have:=HK.out
     congr 1
     omega
    ·rw [hw,HR1.out]
    ·have hs:=HI.out.set k (digitAt D n X k:Int)
     rw [HS.out,HR2.out,Int.natCast_emod] at hs
     rw [HZ1.out] at hs ⊢
     exact hs
  ·have hre:r=n:=by omega
   subst hre
   have hk0:(r:Int)-1-(r:Int) = -1:=by omega
   rw [hk0]
   clear hI hBw
   go_wp2_with fail
   go_ret
   have hp:=HI.out.pl
   rw [digL_all] at hp
   rw [placeL_len] at hp ⊢
   rw [HZ1.out] at hp
   exact ⟨⟨_,_,rfl,hp⟩,onB HB1.out HBw.out⟩
end Go.Proofs.YtaodedckffjpgafGreatDoor
