/-
  What Check and Find of package outline answer: which member of a dim is the first that is wrong, and how; where a member of a name is.
-/
import Derived.Test.YtfgegmpoejilnaaGreatDoorJGAB
import Derived.Test.YtfgegmpoejilnaaGreatDoorJGAD
namespace Go.Proofs.YtfgegmpoejilnaaGreatDoor
open Go.ChangeShapes Go.WideShapes Go.ChangeAt Go.RowKit
set_option maxRecDepth 20000
def MemsV (w:World) (A:Option Addr) (cap n:Nat) (M:Nat→Mem):Prop:=n≤cap∧(n=0∨∃ b o,A=some ⟨b,o,none⟩∧MemsAt w b o n M)
theorem MemsV.later {w w':World} {A:Option Addr} {cap n:Nat} {M:Nat→Mem} (h:MemsV w A cap n M) (hB:Below w.heap.size w w'):MemsV w' A cap n M:=by
 obtain ⟨h1,h2 | ⟨b,o,h2,h3⟩⟩:=h
 ·exact ⟨h1,Or.inl h2⟩
 ·exact ⟨h1,Or.inr ⟨b,o,h2,h3.later hB⟩⟩
theorem dimErr_frame {d:Dm} (h:frameErr d≠0):dimErr d=(-1,frameErr d):=by
 unfold frameErr at h ⊢
 unfold dimErr
 split
 ·rfl
 ·split
  ·rfl
  ·split
   ·rfl
   ·split
    ·rfl
    ·rename_i h1 h2 h3 h4
     rw [if_neg h1,if_neg h2,if_neg h3,if_neg h4] at h
     exact absurd rfl h
theorem dimErr_scan {d:Dm} (h:frameErr d=0):dimErr d=scan d.mem d.n 0∧1≤d.n∧d.n≤12:=by
 unfold frameErr at h
 unfold dimErr
 split at h
 ·simp at h
 ·split at h
  ·simp at h
  ·split at h
   ·simp at h
   ·split at h
    ·simp at h
    ·rename_i h1 h2 h3 h4
     rw [if_neg h1,if_neg h2,if_neg h3,if_neg h4]
     exact ⟨rfl,by omega,by omega⟩
def ownDim (w:World) (d:Dm) (A:Option Addr) (cap T:Nat):World:=w.alloc (.cells #[.string d.name,.int .i64 d.solve,.slice A d.n cap] T)
theorem ownDim_at (w:World) (d:Dm) (A:Option Addr) (cap T:Nat):(ownDim w d A cap T).cell? ⟨w.heap.size,0,none⟩=some (.string d.name)∧(ownDim w d A cap T).cell? ⟨w.heap.size,1,none⟩=some (.int .i64 d.solve)∧(ownDim w d A cap T).cell? ⟨w.heap.size,2,none⟩=some (.slice A d.n cap):=by unfold ownDim;exact ⟨by simp,by simp,by simp⟩
theorem ownDim_size (w:World) (d:Dm) (A:Option Addr) (cap T:Nat):(ownDim w d A cap T).heap.size=w.heap.size+1:=by unfold ownDim;simp
theorem ownDim_below (w:World) (d:Dm) (A:Option Addr) (cap T:Nat):Below w.heap.size w (ownDim w d A cap T):=by unfold ownDim;go_grown
set_option maxHeartbeats 2000000 in
theorem dcheck_any (d:Dm) (A:Option Addr) (cap:Nat) (w:World) (hM:MemsV w A cap d.n d.mem):Calls Tryz.prog 91 #[dimV d A cap] w fun e w'=>e=.returned (.tuple #[.int .i64 (dimErr d).1,errV (dimErr d).2])∧Below w.heap.size w w':=by
 have hfr:=frame_any d A cap
 unfold dimV at hfr ⊢
 have HM:Hid (MemsV w A cap d.n d.mem):=hM
 clear hM
 by_cases hf:frameErr d=0
 ·rw [hf,errV_zero] at hfr
  obtain ⟨hds,hd1,hd2⟩:=dimErr_scan hf
  have HD:Hid (dimErr d=scan d.mem d.n 0):=hds
  clear hds hf
  go_enter Tryz.func91,Tryz.ntmps91
  go_wp2_with fail
  refine (hfr _).mono ?_
  rintro e w1 ⟨rfl,hb1⟩
  have hS:=ownDim_size w d A cap 30
  have hB:Below w.heap.size w w1:=onB (ownDim_below w d A cap 30) hb1
  have hz:w.heap.size<w1.heap.size:=by
   have:=hb1.size
   change (ownDim w d A cap 30).heap.size≤_ at this
   omega
  have h2:w1.cell? ⟨w.heap.size,2,none⟩=some (.slice A d.n cap):=(hb1.cell (p:=⟨w.heap.size,2,none⟩) (by show w.heap.size<(ownDim w d A cap 30).heap.size;rw [hS];omega)).trans (ownDim_at w d A cap 30).2.2
  obtain ⟨hcap,h0 | ⟨b,o,rfl,hMs⟩⟩:=HM.out.later hB
  ·omega
  have HMs:Hid (MemsAt w1 b o d.n d.mem):=hMs
  have hd2':(d.n:Int)≤12:=by omega
  clear hb1 hS hMs hfr
  go_wp2_with fail
  go_loopg [15] d.n (fun g s15 wr => ∃ (k:Nat),k≤d.n∧g=d.n-k∧s15=.int .i64 k∧scan d.mem (d.n-k) k=scan d.mem d.n 0∧Below w1.heap.size w1 wr)
  case atStart=>exact ⟨0,Nat.zero_le _,rfl,rfl,rfl,Below.refl _ _⟩
  case round =>
   obtain ⟨k,hk,rfl,rfl,hsc,hBw⟩:=hrel
   by_cases hlt:k<d.n
   ·have hmem:=member_any b o d.n cap k d.mem wr hd2 hcap hlt (HMs.out.later hBw)
    have hki:(k:Int)<(d.n:Int):=by omega
    have HF:Hid (scan d.mem (d.n-k) k=scan d.mem d.n 0):=hsc
    have HW:Hid (Below w1.heap.size w1 wr):=hBw
    have hsk:d.n-k=(d.n-(k+1))+1:=by omega
    have c2:wr.cell? ⟨w.heap.size,2,none⟩=some (.slice (some ⟨b,o,none⟩) d.n cap):=(hBw.cell (p:=⟨w.heap.size,2,none⟩) hz).trans h2
    clear hsc hBw
    by_cases hm:memErr d.mem k=0
    ·rw [hm,errV_zero] at hmem
     have HK:Hid (memErr d.mem k=0):=hm
     clear hm
     go_wp2_with fail
     refine hmem.mono ?_
     rintro e w2 ⟨rfl,hb2⟩
     go_wp2_with fail
     go_roundg (d.n-(k+1))
     case measure=>omega
     case rel=>exact ⟨k+1,by omega,rfl,by go_num,by rw [←HF.out,hsk,scan_ok _ HK.out],onB HW.out hb2⟩
    ·rw [errV_some hm] at hmem
     have HK:Hid (memErr d.mem k≠0):=hm
     clear hm
     go_wp2_with fail
     refine hmem.mono ?_
     rintro e w2 ⟨rfl,hb2⟩
     go_wp2_with fail
     go_ret2
     refine ⟨?_,onB hB (onB HW.out hb2)⟩
     rw [HD.out,←HF.out,hsk,scan_bad _ HK.out]
     simp [errV,HK.out]
   ·have hke:k=d.n:=by omega
    have HF:Hid (scan d.mem (d.n-k) k=scan d.mem d.n 0):=hsc
    clear hsc
    subst hke
    go_wp2_with fail
    go_ret2
    refine ⟨?_,onB hB hBw⟩
    rw [HD.out,←HF.out,Nat.sub_self]
    rfl
 ·rw [errV_some hf] at hfr
  have HD:Hid (dimErr d=(-1,frameErr d)):=dimErr_frame hf
  have HE:Hid (frameErr d≠0):=hf
  clear hf
  go_enter Tryz.func91,Tryz.ntmps91
  go_wp2_with fail
  refine (hfr _).mono ?_
  rintro e w1 ⟨rfl,hb1⟩
  have hB:Below w.heap.size w w1:=onB (ownDim_below w d A cap 30) hb1
  clear hb1
  go_wp2_with fail
  go_ret2
  refine ⟨?_,hB⟩
  rw [HD.out]
  simp [errV,HE.out]
end Go.Proofs.YtfgegmpoejilnaaGreatDoor
namespace Go.Proofs.YtfgegmpoejilnaaGreatDoor
open Go.ChangeShapes Go.WideShapes Go.ChangeAt Go.RowKit
def Makes (fn:Nat) (x y:Int) (r:Int×Int):Prop := ∀ (w:World),Calls Tryz.prog fn #[.int .i64 x,.int .i64 y] w fun e w'=>e=.returned (.agg #[.int .i64 r.1,.int .i64 r.2])∧Below w.heap.size w w'
theorem bsize {W w1:World} {n:Nat} (hb:Below n W w1):W.heap.size≤w1.heap.size:=hb.size
theorem plus_any (x y:Int) (hx1 : -1000000000000≤x) (hx2:x≤1000000000000) (hy1 : -1000000000000≤y) (hy2:y≤1000000000000):Makes 162 x y (ofP (x+y)):=by
 intro w
 go_enter Tryz.func162,Tryz.ntmps162
 go_wp2_with (go_at_call 15;refine (of_any _ _).mono ?_;rintro e w1 ⟨rfl,hb⟩;obtain ⟨hc,hf⟩:=bcell hb;have hz:=bsize hb;simp at hz)
 refine bodyPost_ret (v:=.agg #[.int .i64 (ofP (x+y)).1,.int .i64 (ofP (x+y)).2]) (by simp [results,Tryz.results162,go_sem,hc]) rfl ⟨rfl,?_⟩
 exact (((((Below.refl _ _).alloc (Nat.le_refl _) _).trans (hb.mono (by simp))).setCell (by simp) _).setCell (by simp) _)
theorem minus_any (x y:Int) (hx1 : -1000000000000≤x) (hx2:x≤1000000000000) (hy1 : -1000000000000≤y) (hy2:y≤1000000000000):Makes 161 x y (ofP (x-y)):=by
 intro w
 go_enter Tryz.func161,Tryz.ntmps161
 go_wp2_with (go_at_call 15;refine (of_any _ _).mono ?_;rintro e w1 ⟨rfl,hb⟩;obtain ⟨hc,hf⟩:=bcell hb;have hz:=bsize hb;simp at hz)
 refine bodyPost_ret (v:=.agg #[.int .i64 (ofP (x-y)).1,.int .i64 (ofP (x-y)).2]) (by simp [results,Tryz.results161,go_sem,hc]) rfl ⟨rfl,?_⟩
 exact (((((Below.refl _ _).alloc (Nat.le_refl _) _).trans (hb.mono (by simp))).setCell (by simp) _).setCell (by simp) _)
def ab (n:Int):Int:=if n<0 then -n else n
theorem ab_mul (x y:Int):ab (x*y)=ab x*ab y:=by
 unfold ab
 by_cases hx:x<0 <;> by_cases hy:y<0
 ·rw [if_neg (Int.not_lt.mpr (Int.le_of_lt (Int.mul_pos_of_neg_of_neg hx hy))),if_pos hx,if_pos hy,Int.neg_mul_neg]
 ·by_cases h0:y=0
  ·subst h0;simp
  ·rw [if_pos (Int.mul_neg_of_neg_of_pos hx (by omega)),if_pos hx,if_neg hy,Int.neg_mul]
 ·by_cases h0:x=0
  ·subst h0;simp
  ·rw [if_pos (Int.mul_neg_of_pos_of_neg (by omega) hy),if_neg hx,if_pos hy,Int.mul_neg]
 ·rw [if_neg (Int.not_lt.mpr (Int.mul_nonneg (by omega) (by omega))),if_neg hx,if_neg hy]
theorem ab_bd {n m:Int} (h:ab n≤m) : -m≤n∧n≤m:=by unfold ab at h;split at h <;> omega
theorem ab_out {n m:Int} (h:m<ab n):n < -m∨m<n:=by unfold ab at h;split at h <;> omega
theorem ab_in {n m:Int} (h1 : -m≤n) (h2:n≤m):0≤ab n∧ab n≤m:=by unfold ab;split <;> omega
theorem ab_pos {n:Int} (h : ¬ n=0):1≤ab n:=by unfold ab;split <;> omega
theorem size_any (n:Int) (w:World) (h1 : -1000000000000≤n) (h2:n≤1000000000000):Calls Tryz.prog 238 #[.int .i64 n] w fun e w'=>e=.returned (.int .i64 (ab n))∧w'=w:=by
 unfold ab
 by_cases h:n<0
 ·rw [if_pos h]
  go_enter Tryz.func238,Tryz.ntmps238
  go_wp2
  go_ret
  exact ⟨by first | rfl | (show Ending.returned (Value.int .i64 (max n (-n)))=_;congr 2;omega) | (congr 2;omega),rfl⟩
 ·rw [if_neg h]
  go_enter Tryz.func238,Tryz.ntmps238
  go_wp2
  go_ret
  exact ⟨by first | rfl | (show Ending.returned (Value.int .i64 (max n (-n)))=_;congr 2;omega) | (congr 2;omega),rfl⟩
def quoP (x y:Int):Int×Int:=if y=0 then (2,0) else ofP (x.tdiv y)
theorem tdiv_bd (x y:Int):ab (x.tdiv y)≤ab x:=by
 have h:=Int.natAbs_tdiv_le_natAbs x y
 unfold ab
 split <;> split <;> omega
theorem quo_wrap (x y:Int) (hy : ¬ y=0):Makes 217 x y (ofP (wrap64 (x.tdiv y))):=by
 intro w
 have hy0:(y == 0)=false:=by simp;omega
 go_enter Tryz.func217,Tryz.ntmps217
 go_wp2_with (go_at_call 15;refine (of_any _ _).mono ?_;rintro e w1 ⟨rfl,hb⟩;obtain ⟨hc,hf⟩:=bcell hb;have hz:=bsize hb;simp at hz)
 refine bodyPost_ret (v:=.agg #[.int .i64 (ofP (wrap64 (x.tdiv y))).1,.int .i64 (ofP (wrap64 (x.tdiv y))).2]) (by simp [results,Tryz.results217,go_sem,hc]) rfl ⟨rfl,?_⟩
 exact (((((Below.refl _ _).alloc (Nat.le_refl _) _).trans (hb.mono (by simp))).setCell (by simp) _).setCell (by simp) _)
theorem quotient_any (x y:Int) (hx1 : -1000000000000≤x) (hx2:x≤1000000000000):Makes 217 x y (quoP x y):=by
 unfold quoP
 by_cases hy:y=0
 ·subst hy
  rw [if_pos rfl]
  intro w
  go_enter Tryz.func217,Tryz.ntmps217
  go_wp2
  go_returns
  exact ⟨rfl,by go_grown⟩
 ·rw [if_neg hy]
  have hq:=quo_wrap x y hy
  have hb:=ab_bd (Int.le_trans (tdiv_bd x y) (ab_in hx1 hx2).2)
  have hw:wrap64 (x.tdiv y)=x.tdiv y:=by unfold wrap64;omega
  rw [hw] at hq
  exact hq
theorem product_any (x y:Int) (hx1 : -1000000000000≤x) (hx2:x≤1000000000000) (hy1 : -1000000000000≤y) (hy2:y≤1000000000000):Makes 216 x y (ofP (x*y)):=by
 intro w
 by_cases hy:y=0
 ·subst hy
  have hb0:ofP (x*0)=(1,0):=by rw [Int.mul_zero];exact ofP_in (by omega) (by omega)
  rw [hb0]
  have ho:=of_any 0
  rw [ofP_in (by omega) (by omega)] at ho
  go_enter Tryz.func216,Tryz.ntmps216
  go_wp2_with (go_at_call 15;refine (ho _).mono ?_;rintro e w1 ⟨rfl,hb⟩;obtain ⟨hc,hf⟩:=bcell hb;have hz:=bsize hb;simp at hz)
  refine bodyPost_ret (v:=.agg #[.int .i64 1,.int .i64 0]) (by simp [results,Tryz.results216,go_sem,hc]) rfl ⟨rfl,?_⟩
  exact (((((Below.refl _ _).alloc (Nat.le_refl _) _).trans (hb.mono (by simp))).setCell (by simp) _).setCell (by simp) _)
 ·have hy0:(y != 0)=true:=by simp;omega
  obtain ⟨ax0,ax1⟩:=ab_in hx1 hx2
  obtain ⟨_,ay1⟩:=ab_in hy1 hy2
  have ay0:=ab_pos hy
  have hsx:=size_any x
  have hsy:=size_any y
  by_cases hg:1000000000000 / ab y<ab x
  ·have hout:ofP (x*y)=(2,0):=by
    refine ofP_out (ab_out (m:=1000000000000) ?_)
    rw [ab_mul]
    exact (Int.ediv_lt_iff_lt_mul (by omega)).mp hg
   rw [hout]
   go_enter Tryz.func216,Tryz.ntmps216
   go_wp2_with fail
   refine (hsx _ hx1 hx2).mono ?_
   rintro e w1 ⟨rfl,rfl⟩
   go_wp2_with fail
   refine (hsy _ hy1 hy2).mono ?_
   rintro e w1 ⟨rfl,rfl⟩
   go_wp2
   go_returns
   exact ⟨rfl,by go_grown⟩
  ·have hin:ab (x*y)≤1000000000000:=by
    rw [ab_mul]
    exact Int.not_lt.mp (fun h=>hg ((Int.ediv_lt_iff_lt_mul (by omega)).mpr h))
   obtain ⟨hp1,hp2⟩:=ab_bd hin
   have ho:=of_any (x*y)
   clear hin
   go_enter Tryz.func216,Tryz.ntmps216
   go_wp2_with fail
   refine (hsx _ hx1 hx2).mono ?_
   rintro e w1 ⟨rfl,rfl⟩
   go_wp2_with fail
   refine (hsy _ hy1 hy2).mono ?_
   rintro e w1 ⟨rfl,rfl⟩
   go_wp2_with fail
   refine (ho _).mono ?_
   rintro e w1 ⟨rfl,hb⟩
   obtain ⟨hc,hf⟩:=bcell hb
   have hz:=bsize hb
   simp at hz
   go_wp2_with fail
   refine bodyPost_ret (v:=.agg #[.int .i64 (ofP (x*y)).1,.int .i64 (ofP (x*y)).2]) (by simp [results,Tryz.results216,go_sem,hc]) rfl ⟨rfl,?_⟩
   exact (((((Below.refl _ _).alloc (Nat.le_refl _) _).trans (hb.mono (by simp))).setCell (by simp) _).setCell (by simp) _)
end Go.Proofs.YtfgegmpoejilnaaGreatDoor
