/-
  The document's own reading of a dim (tallyref1.Dim): which member is the first that is wrong, and how.
-/
import Derived.Test.YtfldgghobddgkaaGreatDoorJDAB
namespace Go.Proofs.YtfldgghobddgkaaGreatDoor
open Go.ChangeShapes Go.WideShapes Go.ChangeAt Go.RowKit
set_option maxRecDepth 20000
theorem clash_where {M:Nat→Mem} {n i:Nat} (hi:i<n):decide (findFrom (fun j=>same (M j).name (M i).name) n 0<(i:Int))=clash M i:=by
 unfold clash
 rw [decide_eq_decide]
 exact findFrom_ahead (q:=fun j=>same (M j).name (M i).name) hi (same_refl _)
theorem dim_name {d:Dm} (h:nameErr d.name≠0):dimErr d=(-1,2):=by rw [dimErr_frame (by rw [fr0 h];decide),fr0 h]
theorem dim_solve {d:Dm} (h:nameErr d.name=0) (h1:d.solve<0∨9<d.solve):dimErr d=(-1,1):=by rw [dimErr_frame (by rw [fr1 h h1];decide),fr1 h h1]
theorem dim_full {d:Dm} (h:nameErr d.name=0) (h1 : ¬ (d.solve<0∨9<d.solve)) (h2:12<d.n):dimErr d=(-1,4):=by rw [dimErr_frame (by rw [fr2 h h1 h2];decide),fr2 h h1 h2]
theorem dim_none {d:Dm} (h:nameErr d.name=0) (h1 : ¬ (d.solve<0∨9<d.solve)) (h2 : ¬ 12<d.n) (h3:d.n=0):dimErr d=(-1,5):=by rw [dimErr_frame (by rw [fr3 h h1 h2 h3];decide),fr3 h h1 h2 h3]
theorem dim_scan {d:Dm} (h:nameErr d.name=0) (h1 : ¬ (d.solve<0∨9<d.solve)) (h2 : ¬ 12<d.n) (h3 : ¬ d.n=0):dimErr d=scan d.mem d.n 0:=(dimErr_scan (fr4 h h1 h2 h3)).1
set_option maxHeartbeats 8000000 in
theorem rdim_any (d:Dm) (A:Option Addr) (cap:Nat) (w:World) (hM:MemsV w A cap d.n d.mem):Calls Tryz.prog 10 #[dimV d A cap] w fun e w'=>e=.returned (.tuple #[.int .i64 (dimErr d).1,.int .i64 (dimErr d).2])∧Below w.heap.size w w':=by
 have HM:Hid (MemsV w A cap d.n d.mem):=hM
 have hnm:=rname_any d.name
 clear hM
 unfold dimV
 by_cases hn:nameErr d.name=0
 ·rw [hn] at hnm
  have HN:Hid (nameErr d.name=0):=hn
  clear hn
  by_cases c1:d.solve<0
  ·have HR:Hid (dimErr d=(-1,1)):=dim_solve HN.out (Or.inl c1)
   go_enter Tryz.func10,Tryz.ntmps10
   go_wp2_with fail
   refine (hnm _).mono ?_
   rintro e w1 ⟨rfl,rfl⟩
   go_wp2_with fail
   go_ret2
   exact ⟨by rw [HR.out];rfl,by go_grown⟩
  by_cases c2:9<d.solve
  ·have HR:Hid (dimErr d=(-1,1)):=dim_solve HN.out (Or.inr c2)
   go_enter Tryz.func10,Tryz.ntmps10
   go_wp2_with fail
   refine (hnm _).mono ?_
   rintro e w1 ⟨rfl,rfl⟩
   go_wp2_with fail
   go_ret2
   exact ⟨by rw [HR.out];rfl,by go_grown⟩
  have HC:Hid (¬ (d.solve<0∨9<d.solve)):=by show ¬ _;omega
  by_cases c3:12<d.n
  ·have HR:Hid (dimErr d=(-1,4)):=dim_full HN.out HC.out c3
   have c3':12<(d.n:Int):=by omega
   go_enter Tryz.func10,Tryz.ntmps10
   go_wp2_with fail
   refine (hnm _).mono ?_
   rintro e w1 ⟨rfl,rfl⟩
   go_wp2_with fail
   go_ret2
   exact ⟨by rw [HR.out];rfl,by go_grown⟩
  have c3':(d.n:Int)≤12:=by omega
  by_cases c4:d.n=0
  ·have HR:Hid (dimErr d=(-1,5)):=dim_none HN.out HC.out c3 c4
   have c4':((d.n:Int) == 0)=true:=by simp [c4]
   clear c4
   go_enter Tryz.func10,Tryz.ntmps10
   go_wp2_with fail
   refine (hnm _).mono ?_
   rintro e w1 ⟨rfl,rfl⟩
   go_wp2_with fail
   go_ret2
   exact ⟨by rw [HR.out];rfl,by go_grown⟩
  have HD:Hid (dimErr d=scan d.mem d.n 0):=dim_scan HN.out HC.out c3 c4
  have c4':((d.n:Int) == 0)=false:=by simp;omega
  have hS:=ownDim_size w d A cap 41
  have hB0:=ownDim_below w d A cap 41
  have hA:=ownDim_at w d A cap 41
  obtain ⟨W,hW⟩:∃ W,W=ownDim w d A cap 41:=⟨_,rfl⟩
  rw [←hW] at hB0 hS hA
  have HW:Hid (W=ownDim w d A cap 41):=hW
  have HB0:Hid (Below w.heap.size w W):=hB0
  have hsz:w.heap.size<W.heap.size:=by omega
  obtain ⟨hcap,h0 | ⟨b,o,rfl,hMs⟩⟩:=HM.out.later hB0
  ·omega
  have HMs:Hid (MemsAt W b o d.n d.mem):=hMs
  have HA:Hid (W.cell? ⟨w.heap.size,0,none⟩=some (.string d.name)∧W.cell? ⟨w.heap.size,1,none⟩=some (.int .i64 d.solve)∧W.cell? ⟨w.heap.size,2,none⟩=some (.slice (some ⟨b,o,none⟩) d.n cap)):=hA
  clear hW hB0 hS hA hMs HM
  go_enter Tryz.func10,Tryz.ntmps10
  go_wp2_with fail
  refine (hnm _).mono ?_
  rintro e w1 ⟨rfl,rfl⟩
  clear hnm
  go_wp2_with fail
  go_loopg [4] d.n (fun g s4 wr => ∃ (k:Nat),k≤d.n∧g=d.n-k∧s4=.int .i64 k∧scan d.mem (d.n-k) k=scan d.mem d.n 0∧Below W.heap.size W wr)
  case atStart=>exact ⟨0,Nat.zero_le _,rfl,rfl,rfl,by rw [HW.out];exact Below.refl _ _⟩
  case round =>
   obtain ⟨k,hk,rfl,rfl,hsc,hBw⟩:=hrel
   have HF:Hid (scan d.mem (d.n-k) k=scan d.mem d.n 0):=hsc
   have hMr:=HMs.out.later hBw
   have q0:wr.cell? ⟨w.heap.size,0,none⟩=some (.string d.name):=(hBw.cell (p:=⟨w.heap.size,0,none⟩) hsz).trans HA.out.1
   have q1:wr.cell? ⟨w.heap.size,1,none⟩=some (.int .i64 d.solve):=(hBw.cell (p:=⟨w.heap.size,1,none⟩) hsz).trans HA.out.2.1
   have q2:wr.cell? ⟨w.heap.size,2,none⟩=some (.slice (some ⟨b,o,none⟩) d.n cap):=(hBw.cell (p:=⟨w.heap.size,2,none⟩) hsz).trans HA.out.2.2
   have hszr:w.heap.size<wr.heap.size:=Nat.lt_of_lt_of_le hsz hBw.size
   have HBr:Hid (Below w.heap.size w wr):=onB HB0.out hBw
   have HBw:Hid (Below W.heap.size W wr):=hBw
   clear hsc hBw
   by_cases hlt:k<d.n
   ·obtain ⟨h0,h1,h2,h3⟩:=hMr.2 k hlt
    have hki:(k:Int)<(d.n:Int):=by omega
    have hsk:d.n-k=(d.n-(k+1))+1:=by omega
    have hnk:=rname_any (d.mem k).name
    have hbr:=hMr.1
    have HBm:Hid (Below wr.heap.size wr (ownMem wr (d.mem k) 43)):=ownMem_below wr (d.mem k) 43
    have HSm:Hid ((ownMem wr (d.mem k) 43).heap.size=wr.heap.size+1):=ownMem_size wr (d.mem k) 43
    have HAm:Hid (MemAt (ownMem wr (d.mem k) 43) wr.heap.size 0 (d.mem k)):=ownMem_at wr (d.mem k) 43
    have hwh:=where_any d (some ⟨b,o,none⟩) cap (d.mem k).name (ownMem wr (d.mem k) 43) (by omega) ⟨hcap,Or.inr ⟨b,o,rfl,hMr.later HBm.out⟩⟩
    unfold dimV at hwh
    have HC2:Hid (decide (findFrom (fun j=>same (d.mem j).name (d.mem k).name) d.n 0<(k:Int))=clash d.mem k):=clash_where hlt
    have HMr:Hid (MemsAt wr b o d.n d.mem):=hMr
    generalize findFrom (fun j=>same (d.mem j).name (d.mem k).name) d.n 0=f at hwh HC2
    clear hMr
    by_cases hnk0:nameErr (d.mem k).name=0
    ·rw [hnk0] at hnk
     have HK:Hid (nameErr (d.mem k).name=0):=hnk0
     clear hnk0
     go_wp2_with fail
     refine (hnk _).mono ?_
     rintro e w1 ⟨rfl,rfl⟩
     clear hnk
     go_wp2_with fail
     refine hwh.mono ?_
     rintro e w2 ⟨rfl,hb2⟩
     have hB2:Below wr.heap.size wr w2:=onB HBm.out hb2
     have hzm:wr.heap.size<(ownMem wr (d.mem k) 43).heap.size:=by rw [HSm.out];omega
     have hAm2:=HAm.out.later hzm hb2
     obtain ⟨-,m1,m2,m3⟩:=hAm2
     have v2:w2.cell? ⟨w.heap.size,2,none⟩=some (.slice (some ⟨b,o,none⟩) d.n cap):=(hB2.cell (p:=⟨w.heap.size,2,none⟩) hszr).trans q2
     have hM2:=HMr.out.later hB2
     have HB2:Hid (Below W.heap.size W w2):=onB HBw.out hB2
     have HBe:Hid (Below w.heap.size w w2):=onB HBr.out hB2
     clear hb2 hwh h0 h1 h2 h3 q0 q1 q2 hzm HAm HSm HBm HMr hB2
     by_cases hf:f<(k:Int)
     ·have hcl:clash d.mem k=true:=by rw [←HC2.out];simpa using hf
      have HE:Hid (memErr d.mem k=7):=me1 HK.out hcl
      clear hM2 hcl
      go_wp2_with fail
      go_ret2
      exact ⟨by rw [HD.out,←HF.out,hsk,scan_bad _ (by rw [HE.out];decide),HE.out];rfl,HBe.out⟩
     ·have HL:Hid (clash d.mem k=false):=by show _=_;rw [←HC2.out];simpa using hf
      clear HC2
      by_cases p1:(d.mem k).parent < -1
      ·have HE:Hid (memErr d.mem k=1):=me2 HK.out HL.out (Or.inl p1)
       clear hM2
       go_wp2_with fail
       go_ret2
       exact ⟨by rw [HD.out,←HF.out,hsk,scan_bad _ (by rw [HE.out];decide),HE.out];rfl,HBe.out⟩
      by_cases p2:(k:Int)≤(d.mem k).parent
      ·have HE:Hid (memErr d.mem k=1):=me2 HK.out HL.out (Or.inr p2)
       clear hM2
       go_wp2_with fail
       go_ret2
       exact ⟨by rw [HD.out,←HF.out,hsk,scan_bad _ (by rw [HE.out];decide),HE.out];rfl,HBe.out⟩
      have HP:Hid (¬ ((d.mem k).parent < -1∨(k:Int)≤(d.mem k).parent)):=by show ¬ _;omega
      by_cases p3:0≤(d.mem k).parent
      ·obtain ⟨p,hp⟩:∃ p:Nat,(d.mem k).parent=(p:Int):=⟨(d.mem k).parent.toNat,by omega⟩
       obtain ⟨-,-,-,d3⟩:=hM2.2 p (by omega)
       rw [hp] at m1 p1 p2 p3
       have HQ:Hid ((d.mem k).parent.toNat=p∧0≤(d.mem k).parent):=⟨by omega,by omega⟩
       have hpi:(p:Int)<(d.n:Int):=by omega
       clear hp hM2
       by_cases p4:(d.mem p).formula.size=0
       ·have p4':(d.mem p).formula.toList.isEmpty=true:=by rw [empty_same];simpa using p4
        have HG:Hid (¬ (0≤(d.mem k).parent∧(d.mem (d.mem k).parent.toNat).formula.size≠0)):=by show ¬ _;rw [HQ.out.1];omega
        clear p4
        by_cases p5:(d.mem k).sign < -1
        ·have HE:Hid (memErr d.mem k=1):=me4 HK.out HL.out HP.out HG.out (Or.inl p5)
         go_wp2_with fail
         go_ret2
         exact ⟨by rw [HD.out,←HF.out,hsk,scan_bad _ (by rw [HE.out];decide),HE.out];rfl,HBe.out⟩
        by_cases p6:1<(d.mem k).sign
        ·have HE:Hid (memErr d.mem k=1):=me4 HK.out HL.out HP.out HG.out (Or.inr p6)
         go_wp2_with fail
         go_ret2
         exact ⟨by rw [HD.out,←HF.out,hsk,scan_bad _ (by rw [HE.out];decide),HE.out];rfl,HBe.out⟩
        by_cases p7:100<(d.mem k).formula.size
        ·have HE:Hid (memErr d.mem k=4):=me5 HK.out HL.out HP.out HG.out (by omega) p7
         have p7':100<((d.mem k).formula.size:Int):=by omega
         go_wp2_with fail
         go_ret2
         exact ⟨by rw [HD.out,←HF.out,hsk,scan_bad _ (by rw [HE.out];decide),HE.out];rfl,HBe.out⟩
        ·have HE:Hid (memErr d.mem k=0):=me6 HK.out HL.out HP.out HG.out (by omega) p7
         have p7':((d.mem k).formula.size:Int)≤100:=by omega
         go_wp2_with fail
         go_roundg (d.n-(k+1))
         case measure=>omega
         case rel=>exact ⟨k+1,by omega,rfl,by go_num,by rw [←HF.out,hsk,scan_ok _ HE.out],HB2.out⟩
       ·have p4':(d.mem p).formula.toList.isEmpty=false:=by rw [empty_same];simpa using p4
        have HG:Hid (0≤(d.mem k).parent∧(d.mem (d.mem k).parent.toNat).formula.size≠0):=by refine ⟨HQ.out.2,?_⟩;rw [HQ.out.1];exact p4
        have HE:Hid (memErr d.mem k=6):=me3 HK.out HL.out HP.out HG.out
        clear p4
        go_wp2_with fail
        go_ret2
        exact ⟨by rw [HD.out,←HF.out,hsk,scan_bad _ (by rw [HE.out];decide),HE.out];rfl,HBe.out⟩
      ·have HG:Hid (¬ (0≤(d.mem k).parent∧(d.mem (d.mem k).parent.toNat).formula.size≠0)):=by show ¬ _;omega
       clear hM2
       by_cases p5:(d.mem k).sign < -1
       ·have HE:Hid (memErr d.mem k=1):=me4 HK.out HL.out HP.out HG.out (Or.inl p5)
        go_wp2_with fail
        go_ret2
        exact ⟨by rw [HD.out,←HF.out,hsk,scan_bad _ (by rw [HE.out];decide),HE.out];rfl,HBe.out⟩
       by_cases p6:1<(d.mem k).sign
       ·have HE:Hid (memErr d.mem k=1):=me4 HK.out HL.out HP.out HG.out (Or.inr p6)
        go_wp2_with fail
        go_ret2
        exact ⟨by rw [HD.out,←HF.out,hsk,scan_bad _ (by rw [HE.out];decide),HE.out];rfl,HBe.out⟩
       by_cases p7:100<(d.mem k).formula.size
       ·have HE:Hid (memErr d.mem k=4):=me5 HK.out HL.out HP.out HG.out (by omega) p7
        have p7':100<((d.mem k).formula.size:Int):=by omega
        go_wp2_with fail
        go_ret2
        exact ⟨by rw [HD.out,←HF.out,hsk,scan_bad _ (by rw [HE.out];decide),HE.out];rfl,HBe.out⟩
       ·have HE:Hid (memErr d.mem k=0):=me6 HK.out HL.out HP.out HG.out (by omega) p7
        have p7':((d.mem k).formula.size:Int)≤100:=by omega
        go_wp2_with fail
        go_roundg (d.n-(k+1))
        case measure=>omega
        case rel=>exact ⟨k+1,by omega,rfl,by go_num,by rw [←HF.out,hsk,scan_ok _ HE.out],HB2.out⟩
    ·rw [nameErr_two hnk0] at hnk
     have HE:Hid (memErr d.mem k=2):=me0 hnk0
     clear hnk0 hwh
     go_wp2_with fail
     refine (hnk _).mono ?_
     rintro e w1 ⟨rfl,rfl⟩
     clear hnk
     go_wp2_with fail
     go_ret2
     exact ⟨by rw [HD.out,←HF.out,hsk,scan_bad _ (by rw [HE.out];decide),HE.out];rfl,onB HBr.out HBm.out⟩
   ·have hke:k=d.n:=by omega
    have hki:(d.n:Int)≤(k:Int):=by omega
    clear hMr
    go_wp2_with fail
    go_ret2
    exact ⟨by rw [HD.out,←HF.out,hke,Nat.sub_self];rfl,HBr.out⟩
 ·rw [nameErr_two hn] at hnm
  have HR:Hid (dimErr d=(-1,2)):=dim_name hn
  clear hn
  go_enter Tryz.func10,Tryz.ntmps10
  go_wp2_with fail
  refine (hnm _).mono ?_
  rintro e w1 ⟨rfl,rfl⟩
  go_wp2_with fail
  go_ret2
  exact ⟨by rw [HR.out];rfl,by go_grown⟩
end Go.Proofs.YtfldgghobddgkaaGreatDoor
