/-
  What Check and Find of package outline answer: which member of a dim is the first that is wrong, and how; where a member of a name is.
-/
import Derived.Test.YtfemjinbfebejaaGreatDoorJBAD
namespace Go.Proofs.YtfemjinbfebejaaGreatDoor
open Go.ChangeShapes Go.WideShapes Go.ChangeAt Go.RowKit
set_option maxRecDepth 20000
def MemsV (w:World) (A:Option Addr) (cap n:Nat) (M:Nat→Mem):Prop:=n≤cap∧(n=0∨∃ b o,A=some ⟨b,o,none⟩∧MemsAt w b o n M)
theorem MemsV.later {w w':World} {A:Option Addr} {cap n:Nat} {M:Nat→Mem} (h:MemsV w A cap n M) (hB:Below w.heap.size w w'):MemsV w' A cap n M:=by
 obtain ⟨h1,h2 | ⟨b,o,h2,h3⟩⟩:=h
 ·exact ⟨h1,Or.inl h2⟩
 ·exact ⟨h1,Or.inr ⟨b,o,h2,h3.later hB⟩⟩
theorem dimErr_frame {d:Dm} (h:frameErr d≠0):dimErr d=(-1,frameErr d):=by
 unfold frameErr at h ⊢
 unfold dimErr
 split
 ·rfl
 ·split
  ·rfl
  ·split
   ·rfl
   ·split
    ·rfl
    ·rename_i h1 h2 h3 h4
     rw [if_neg h1,if_neg h2,if_neg h3,if_neg h4] at h
     exact absurd rfl h
theorem dimErr_scan {d:Dm} (h:frameErr d=0):dimErr d=scan d.mem d.n 0∧1≤d.n∧d.n≤12:=by
 unfold frameErr at h
 unfold dimErr
 split at h
 ·simp at h
 ·split at h
  ·simp at h
  ·split at h
   ·simp at h
   ·split at h
    ·simp at h
    ·rename_i h1 h2 h3 h4
     rw [if_neg h1,if_neg h2,if_neg h3,if_neg h4]
     exact ⟨rfl,by omega,by omega⟩
def ownDim (w:World) (d:Dm) (A:Option Addr) (cap T:Nat):World:=w.alloc (.cells #[.string d.name,.int .i64 d.solve,.slice A d.n cap] T)
theorem ownDim_at (w:World) (d:Dm) (A:Option Addr) (cap T:Nat):(ownDim w d A cap T).cell? ⟨w.heap.size,0,none⟩=some (.string d.name)∧(ownDim w d A cap T).cell? ⟨w.heap.size,1,none⟩=some (.int .i64 d.solve)∧(ownDim w d A cap T).cell? ⟨w.heap.size,2,none⟩=some (.slice A d.n cap):=by unfold ownDim;exact ⟨by simp,by simp,by simp⟩
theorem ownDim_size (w:World) (d:Dm) (A:Option Addr) (cap T:Nat):(ownDim w d A cap T).heap.size=w.heap.size+1:=by unfold ownDim;simp
theorem ownDim_below (w:World) (d:Dm) (A:Option Addr) (cap T:Nat):Below w.heap.size w (ownDim w d A cap T):=by unfold ownDim;go_grown
set_option maxHeartbeats 2000000 in
theorem dcheck_any (d:Dm) (A:Option Addr) (cap:Nat) (w:World) (hM:MemsV w A cap d.n d.mem):Calls Tryz.prog 27 #[dimV d A cap] w fun e w'=>e=.returned (.tuple #[.int .i64 (dimErr d).1,errV (dimErr d).2])∧Below w.heap.size w w':=by
 have hfr:=frame_any d A cap
 unfold dimV at hfr ⊢
 have HM:Hid (MemsV w A cap d.n d.mem):=hM
 clear hM
 by_cases hf:frameErr d=0
 ·rw [hf,errV_zero] at hfr
  obtain ⟨hds,hd1,hd2⟩:=dimErr_scan hf
  have HD:Hid (dimErr d=scan d.mem d.n 0):=hds
  clear hds hf
  go_enter Tryz.func27,Tryz.ntmps27
  go_wp2_with fail
  refine (hfr _).mono ?_
  rintro e w1 ⟨rfl,hb1⟩
  have hS:=ownDim_size w d A cap 25
  have hB:Below w.heap.size w w1:=onB (ownDim_below w d A cap 25) hb1
  have hz:w.heap.size<w1.heap.size:=by
   have:=hb1.size
   change (ownDim w d A cap 25).heap.size≤_ at this
   omega
  have h2:w1.cell? ⟨w.heap.size,2,none⟩=some (.slice A d.n cap):=(hb1.cell (p:=⟨w.heap.size,2,none⟩) (by show w.heap.size<(ownDim w d A cap 25).heap.size;rw [hS];omega)).trans (ownDim_at w d A cap 25).2.2
  obtain ⟨hcap,h0 | ⟨b,o,rfl,hMs⟩⟩:=HM.out.later hB
  ·omega
  have HMs:Hid (MemsAt w1 b o d.n d.mem):=hMs
  have hd2':(d.n:Int)≤12:=by omega
  clear hb1 hS hMs hfr
  go_wp2_with fail
  go_loopg [15] d.n (fun g s15 wr => ∃ (k:Nat),k≤d.n∧g=d.n-k∧s15=.int .i64 k∧scan d.mem (d.n-k) k=scan d.mem d.n 0∧Below w1.heap.size w1 wr)
  case atStart=>exact ⟨0,Nat.zero_le _,rfl,rfl,rfl,Below.refl _ _⟩
  case round =>
   obtain ⟨k,hk,rfl,rfl,hsc,hBw⟩:=hrel
   by_cases hlt:k<d.n
   ·have hmem:=member_any b o d.n cap k d.mem wr hd2 hcap hlt (HMs.out.later hBw)
    have hki:(k:Int)<(d.n:Int):=by omega
    have HF:Hid (scan d.mem (d.n-k) k=scan d.mem d.n 0):=hsc
    have HW:Hid (Below w1.heap.size w1 wr):=hBw
    have hsk:d.n-k=(d.n-(k+1))+1:=by omega
    have c2:wr.cell? ⟨w.heap.size,2,none⟩=some (.slice (some ⟨b,o,none⟩) d.n cap):=(hBw.cell (p:=⟨w.heap.size,2,none⟩) hz).trans h2
    clear hsc hBw
    by_cases hm:memErr d.mem k=0
    ·rw [hm,errV_zero] at hmem
     have HK:Hid (memErr d.mem k=0):=hm
     clear hm
     go_wp2_with fail
     refine hmem.mono ?_
     rintro e w2 ⟨rfl,hb2⟩
     go_wp2_with fail
     go_roundg (d.n-(k+1))
     case measure=>omega
     case rel=>exact ⟨k+1,by omega,rfl,by go_num,by rw [←HF.out,hsk,scan_ok _ HK.out],onB HW.out hb2⟩
    ·rw [errV_some hm] at hmem
     have HK:Hid (memErr d.mem k≠0):=hm
     clear hm
     go_wp2_with fail
     refine hmem.mono ?_
     rintro e w2 ⟨rfl,hb2⟩
     go_wp2_with fail
     go_ret2
     refine ⟨?_,onB hB (onB HW.out hb2)⟩
     rw [HD.out,←HF.out,hsk,scan_bad _ HK.out]
     simp [errV,HK.out]
   ·have hke:k=d.n:=by omega
    have HF:Hid (scan d.mem (d.n-k) k=scan d.mem d.n 0):=hsc
    clear hsc
    subst hke
    go_wp2_with fail
    go_ret2
    refine ⟨?_,onB hB hBw⟩
    rw [HD.out,←HF.out,Nat.sub_self]
    rfl
 ·rw [errV_some hf] at hfr
  have HD:Hid (dimErr d=(-1,frameErr d)):=dimErr_frame hf
  have HE:Hid (frameErr d≠0):=hf
  clear hf
  go_enter Tryz.func27,Tryz.ntmps27
  go_wp2_with fail
  refine (hfr _).mono ?_
  rintro e w1 ⟨rfl,hb1⟩
  have hB:Below w.heap.size w w1:=onB (ownDim_below w d A cap 25) hb1
  clear hb1
  go_wp2_with fail
  go_ret2
  refine ⟨?_,hB⟩
  rw [HD.out]
  simp [errV,HE.out]
end Go.Proofs.YtfemjinbfebejaaGreatDoor
