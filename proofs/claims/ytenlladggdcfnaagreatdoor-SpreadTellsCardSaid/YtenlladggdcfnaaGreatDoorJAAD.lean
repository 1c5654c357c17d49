/-
  What Check and Find of package outline answer: which member of a dim is the first that is wrong, and how; where a member of a name is.
-/
import Derived.OwnWalk
import Derived.WalkSpells
import Derived.WalkLawsBesides
import Derived.Test.YtenlladggdcfnaaGreatDoorJAAC
namespace Go.Proofs.YtenlladggdcfnaaGreatDoor
open Go.ChangeShapes Go.WideShapes Go.ChangeAt Go.RowKit
set_option maxRecDepth 20000
def MemsV (w:World) (A:Option Addr) (cap n:Nat) (M:Nat→Mem):Prop:=n≤cap∧(n=0∨∃ b o,A=some ⟨b,o,none⟩∧MemsAt w b o n M)
theorem MemsV.later {w w':World} {A:Option Addr} {cap n:Nat} {M:Nat→Mem} (h:MemsV w A cap n M) (hB:Below w.heap.size w w'):MemsV w' A cap n M:=by
 obtain ⟨h1,h2 | ⟨b,o,h2,h3⟩⟩:=h
 ·exact ⟨h1,Or.inl h2⟩
 ·exact ⟨h1,Or.inr ⟨b,o,h2,h3.later hB⟩⟩
theorem dimErr_frame {d:Dm} (h:frameErr d≠0):dimErr d=(-1,frameErr d):=by
 unfold frameErr at h ⊢
 unfold dimErr
 split
 ·rfl
 ·split
  ·rfl
  ·split
   ·rfl
   ·split
    ·rfl
    ·rename_i h1 h2 h3 h4
     rw [if_neg h1,if_neg h2,if_neg h3,if_neg h4] at h
     exact absurd rfl h
theorem dimErr_scan {d:Dm} (h:frameErr d=0):dimErr d=scan d.mem d.n 0∧1≤d.n∧d.n≤12:=by
 unfold frameErr at h
 unfold dimErr
 split at h
 ·simp at h
 ·split at h
  ·simp at h
  ·split at h
   ·simp at h
   ·split at h
    ·simp at h
    ·rename_i h1 h2 h3 h4
     rw [if_neg h1,if_neg h2,if_neg h3,if_neg h4]
     exact ⟨rfl,by omega,by omega⟩
def ownDim (w:World) (d:Dm) (A:Option Addr) (cap T:Nat):World:=w.alloc (.cells #[.string d.name,.int .i64 d.solve,.slice A d.n cap] T)
theorem ownDim_at (w:World) (d:Dm) (A:Option Addr) (cap T:Nat):(ownDim w d A cap T).cell? ⟨w.heap.size,0,none⟩=some (.string d.name)∧(ownDim w d A cap T).cell? ⟨w.heap.size,1,none⟩=some (.int .i64 d.solve)∧(ownDim w d A cap T).cell? ⟨w.heap.size,2,none⟩=some (.slice A d.n cap):=by unfold ownDim;exact ⟨by simp,by simp,by simp⟩
theorem ownDim_size (w:World) (d:Dm) (A:Option Addr) (cap T:Nat):(ownDim w d A cap T).heap.size=w.heap.size+1:=by unfold ownDim;simp
theorem ownDim_below (w:World) (d:Dm) (A:Option Addr) (cap T:Nat):Below w.heap.size w (ownDim w d A cap T):=by unfold ownDim;go_grown
set_option maxHeartbeats 2000000 in
theorem dcheck_any (d:Dm) (A:Option Addr) (cap:Nat) (w:World) (hM:MemsV w A cap d.n d.mem):Calls Tryz.prog 64 #[dimV d A cap] w fun e w'=>e=.returned (.tuple #[.int .i64 (dimErr d).1,errV (dimErr d).2])∧Below w.heap.size w w':=by
 have hfr:=frame_any d A cap
 unfold dimV at hfr ⊢
 have HM:Hid (MemsV w A cap d.n d.mem):=hM
 clear hM
 by_cases hf:frameErr d=0
 ·rw [hf,errV_zero] at hfr
  obtain ⟨hds,hd1,hd2⟩:=dimErr_scan hf
  have HD:Hid (dimErr d=scan d.mem d.n 0):=hds
  clear hds hf
  go_enter Tryz.func64,Tryz.ntmps64
  go_wp2_with fail
  refine (hfr _).mono ?_
  rintro e w1 ⟨rfl,hb1⟩
  have hS:=ownDim_size w d A cap 81
  have hB:Below w.heap.size w w1:=onB (ownDim_below w d A cap 81) hb1
  have hz:w.heap.size<w1.heap.size:=by
   have:=hb1.size
   change (ownDim w d A cap 81).heap.size≤_ at this
   omega
  have h2:w1.cell? ⟨w.heap.size,2,none⟩=some (.slice A d.n cap):=(hb1.cell (p:=⟨w.heap.size,2,none⟩) (by show w.heap.size<(ownDim w d A cap 81).heap.size;rw [hS];omega)).trans (ownDim_at w d A cap 81).2.2
  obtain ⟨hcap,h0 | ⟨b,o,rfl,hMs⟩⟩:=HM.out.later hB
  ·omega
  have HMs:Hid (MemsAt w1 b o d.n d.mem):=hMs
  have hd2':(d.n:Int)≤12:=by omega
  clear hb1 hS hMs hfr
  go_wp2_with fail
  go_loopg [15] d.n (fun g s15 wr => ∃ (k:Nat),k≤d.n∧g=d.n-k∧s15=.int .i64 k∧scan d.mem (d.n-k) k=scan d.mem d.n 0∧Below w1.heap.size w1 wr)
  case atStart=>exact ⟨0,Nat.zero_le _,rfl,rfl,rfl,Below.refl _ _⟩
  case round =>
   obtain ⟨k,hk,rfl,rfl,hsc,hBw⟩:=hrel
   by_cases hlt:k<d.n
   ·have hmem:=member_any b o d.n cap k d.mem wr hd2 hcap hlt (HMs.out.later hBw)
    have hki:(k:Int)<(d.n:Int):=by omega
    have HF:Hid (scan d.mem (d.n-k) k=scan d.mem d.n 0):=hsc
    have HW:Hid (Below w1.heap.size w1 wr):=hBw
    have hsk:d.n-k=(d.n-(k+1))+1:=by omega
    have c2:wr.cell? ⟨w.heap.size,2,none⟩=some (.slice (some ⟨b,o,none⟩) d.n cap):=(hBw.cell (p:=⟨w.heap.size,2,none⟩) hz).trans h2
    clear hsc hBw
    by_cases hm:memErr d.mem k=0
    ·rw [hm,errV_zero] at hmem
     have HK:Hid (memErr d.mem k=0):=hm
     clear hm
     go_wp2_with fail
     refine hmem.mono ?_
     rintro e w2 ⟨rfl,hb2⟩
     go_wp2_with fail
     go_roundg (d.n-(k+1))
     case measure=>omega
     case rel=>exact ⟨k+1,by omega,rfl,by go_num,by rw [←HF.out,hsk,scan_ok _ HK.out],onB HW.out hb2⟩
    ·rw [errV_some hm] at hmem
     have HK:Hid (memErr d.mem k≠0):=hm
     clear hm
     go_wp2_with fail
     refine hmem.mono ?_
     rintro e w2 ⟨rfl,hb2⟩
     go_wp2_with fail
     go_ret2
     refine ⟨?_,onB hB (onB HW.out hb2)⟩
     rw [HD.out,←HF.out,hsk,scan_bad _ HK.out]
     simp [errV,HK.out]
   ·have hke:k=d.n:=by omega
    have HF:Hid (scan d.mem (d.n-k) k=scan d.mem d.n 0):=hsc
    clear hsc
    subst hke
    go_wp2_with fail
    go_ret2
    refine ⟨?_,onB hB hBw⟩
    rw [HD.out,←HF.out,Nat.sub_self]
    rfl
 ·rw [errV_some hf] at hfr
  have HD:Hid (dimErr d=(-1,frameErr d)):=dimErr_frame hf
  have HE:Hid (frameErr d≠0):=hf
  clear hf
  go_enter Tryz.func64,Tryz.ntmps64
  go_wp2_with fail
  refine (hfr _).mono ?_
  rintro e w1 ⟨rfl,hb1⟩
  have hB:Below w.heap.size w w1:=onB (ownDim_below w d A cap 81) hb1
  clear hb1
  go_wp2_with fail
  go_ret2
  refine ⟨?_,hB⟩
  rw [HD.out]
  simp [errV,HE.out]
def DimAt (w:World) (b o:Nat) (d:Dm) (A:Option Addr) (c:Nat):Prop:=w.cell? ⟨b,o,none⟩=some (.string d.name)∧w.cell? ⟨b,o+1,none⟩=some (.int .i64 d.solve)∧w.cell? ⟨b,o+2,none⟩=some (.slice A d.n c)∧MemsV w A c d.n d.mem
def DimsAt (w:World) (b o n:Nat) (D:Nat→Dm) (A:Nat→Option Addr) (C:Nat→Nat):Prop:=b<w.heap.size∧∀ i,i<n→DimAt w b (o+i*3) (D i) (A i) (C i)
theorem DimAt.later {w w':World} {b o:Nat} {d:Dm} {A:Option Addr} {c:Nat} (h:DimAt w b o d A c) (hb:b<w.heap.size) (hB:Below w.heap.size w w'):DimAt w' b o d A c :=
 ⟨(hB.cell (p:=⟨b,o,none⟩) hb).trans h.1,(hB.cell (p:=⟨b,o+1,none⟩) hb).trans h.2.1,(hB.cell (p:=⟨b,o+2,none⟩) hb).trans h.2.2.1,h.2.2.2.later hB⟩
theorem DimsAt.later {w w':World} {b o n:Nat} {D:Nat→Dm} {A:Nat→Option Addr} {C:Nat→Nat} (h:DimsAt w b o n D A C) (hB:Below w.heap.size w w'):DimsAt w' b o n D A C :=
 ⟨Nat.lt_of_lt_of_le h.1 hB.size,fun i hi=>(h.2 i hi).later h.1 hB⟩
theorem DimsAt.less {w:World} {b o n m:Nat} {D:Nat→Dm} {A:Nat→Option Addr} {C:Nat→Nat} (h:DimsAt w b o n D A C) (hm:m≤n):DimsAt w b o m D A C:=⟨h.1,fun i hi=>h.2 i (by omega)⟩
def AskD (q:Nat) (w:World) (n:Nat) (D:Nat→Dm) (A:Nat→Option Addr) (C:Nat→Nat) (p:Nat→Bool):Prop := ∀ (i:Nat) (w':World),i<n→Below w.heap.size w w'→Calls Tryz.prog 66 #[dimV (D i) (A i) (C i),.pointer (some ⟨q,0,none⟩)] w' fun e w''=>e=.returned (.bool (p i))∧Below w'.heap.size w' w''
set_option maxHeartbeats 1000000 in
theorem index_dims (q b o n cap:Nat) (D:Nat→Dm) (A:Nat→Option Addr) (C:Nat→Nat) (p:Nat→Bool) (w:World) (hn:n≤4) (hM:DimsAt w b o n D A C) (hp:AskD q w n D A C p) :
  Calls Tryz.prog 91 #[.slice (some ⟨b,o,none⟩) n cap,.func (.func 66) #[] #[.pointer (some ⟨q,0,none⟩)]] w fun e w'=>e=.returned (.int .i64 (findFrom p n 0))∧Below w.heap.size w w':=by
 have HB:Hid (DimsAt w b o n D A C):=hM
 have HP:Hid (AskD q w n D A C p):=hp
 clear hM hp
 go_enter Tryz.func91,Tryz.ntmps91
 go_wp2_with fail
 go_loopg [8] n (fun g s8 wr => ∃ (k:Nat),k≤n∧g=n-k∧s8=.int .i64 k∧findFrom p (n-k) k=findFrom p n 0∧Below w.heap.size w wr)
 case atStart=>exact ⟨0,Nat.zero_le _,rfl,rfl,rfl,Below.refl _ _⟩
 case round =>
  obtain ⟨k,hk,rfl,rfl,hf,hBw⟩:=hrel
  by_cases hlt:k<n
  ·obtain ⟨h0,h1,h2,-⟩:=(HB.out.later hBw).2 k hlt
   have hki:(k:Int)<(n:Int):=by omega
   have HF:Hid (findFrom p (n-k) k=findFrom p n 0):=hf
   have HW:Hid (Below w.heap.size w wr):=hBw
   have hsk:n-k=(n-(k+1))+1:=by omega
   have hbd:=HP.out k wr hlt hBw
   unfold dimV at hbd
   have hs8:(n:Int)≤4:=by omega
   clear hf hBw
   cases hb:p k
   ·rw [hb] at hbd
    have HK:Hid (p k=false):=hb
    clear hb
    go_wp2_with fail
    refine hbd.mono ?_
    rintro e w1 ⟨rfl,hb1⟩
    go_wp2_with fail
    go_roundg (n-(k+1))
    case measure=>omega
    case rel=>exact ⟨k+1,by omega,rfl,by go_num,by rw [←HF.out,hsk,findFrom_miss _ HK.out],onB HW.out hb1⟩
   ·rw [hb] at hbd
    have HK:Hid (p k=true):=hb
    clear hb
    go_wp2_with fail
    refine hbd.mono ?_
    rintro e w1 ⟨rfl,hb1⟩
    go_wp2_with fail
    go_ret
    exact ⟨by rw [←HF.out,hsk,findFrom_hit _ HK.out];rfl,onB HW.out hb1⟩
  ·have hke:k=n:=by omega
   subst hke
   go_wp2_with fail
   go_ret
   exact ⟨by rw [←hf,Nat.sub_self];rfl,hBw⟩
theorem contains_dims (q b o n cap:Nat) (D:Nat→Dm) (A:Nat→Option Addr) (C:Nat→Nat) (p:Nat→Bool) (w:World) (hn:n≤4) (hM:DimsAt w b o n D A C) (hp:AskD q w n D A C p) :
  Calls Tryz.prog 65 #[.slice (some ⟨b,o,none⟩) n cap,.func (.func 66) #[] #[.pointer (some ⟨q,0,none⟩)]] w fun e w'=>e=.returned (.bool (decide (0≤findFrom p n 0)))∧Below w.heap.size w w':=by
 have h:=index_dims q b o n cap D A C p w hn hM hp
 clear hM hp
 go_enter Tryz.func65,Tryz.ntmps65
 go_wp2_with fail
 refine h.mono ?_
 rintro e w1 ⟨rfl,hb1⟩
 go_wp2_with fail
 go_ret
 exact ⟨rfl,hb1⟩
theorem all1_any (d:Dm) (A:Option Addr) (c:Nat) (s:ByteArray) (q:Nat) (w:World) (hq:q<w.heap.size) (h:w.cell? ⟨q,0,none⟩=some (.string s)):Calls Tryz.prog 66 #[dimV d A c,.pointer (some ⟨q,0,none⟩)] w fun e w'=>e=.returned (.bool (same d.name s))∧Below w.heap.size w w':=by
 unfold dimV
 go_enter Tryz.func66,Tryz.ntmps66
 go_wp2_with fail
 go_ret
 exact ⟨by simp [same],by go_grown⟩
theorem prod_small {D:Nat→Dm} {k:Nat} (h:∀ j,j<k→(D j).n≤12) (hk:k≤4):prodN D k≤20736:=by
 refine Nat.le_trans (prodN_le h) ?_
 exact Nat.le_trans (Nat.pow_le_pow_right (by omega) hk) (by decide)
set_option maxHeartbeats 1000000 in
theorem cells_any (b o n cap:Nat) (D:Nat→Dm) (A:Nat→Option Addr) (C:Nat→Nat) (w:World) (hn:n≤4) (hd:∀ j,j<n→(D j).n≤12) (hM:DimsAt w b o n D A C):Calls Tryz.prog 67 #[.agg #[.slice (some ⟨b,o,none⟩) n cap]] w fun e w'=>e=.returned (.int .i64 (prodN D n))∧Below w.heap.size w w':=by
 have HB:Hid (DimsAt w b o n D A C):=hM
 have HD:Hid (∀ j,j<n→(D j).n≤12):=hd
 clear hM hd
 go_enter Tryz.func67,Tryz.ntmps67
 go_wp2_with fail
 go_loopg [3,9] n (fun g s3 s9 wr => ∃ (k:Nat),k≤n∧g=n-k∧s9=.int .i64 k∧s3=.int .i64 (prodN D k)∧Below w.heap.size w wr)
 case atStart=>exact ⟨0,Nat.zero_le _,rfl,rfl,rfl,by go_grown⟩
 case round =>
  obtain ⟨k,hk,rfl,rfl,rfl,hBw⟩:=hrel
  by_cases hlt:k<n
  ·obtain ⟨h0,h1,h2,-⟩:=(HB.out.later hBw).2 k hlt
   have hki:(k:Int)<(n:Int):=by omega
   have hs8:(n:Int)≤4:=by omega
   have hp1:prodN D (k+1)≤20736:=prod_small (fun j hj=>HD.out j (by omega)) (by omega)
   have hp2:(prodN D (k+1):Int)=(prodN D k:Int)*((D k).n:Int):=by rw [prodN];exact Int.natCast_mul _ _
   have hp3:0≤(prodN D k:Int)*((D k).n:Int):=by omega
   have hp4:(prodN D k:Int)*((D k).n:Int)≤20736:=by omega
   have HW:Hid (Below w.heap.size w wr):=hBw
   have HP:Hid ((prodN D (k+1):Int)=(prodN D k:Int)*((D k).n:Int)):=hp2
   clear hBw hp1 hp2
   go_wp2_with fail
   go_roundg (n-(k+1))
   case measure=>omega
   case rel=>exact ⟨k+1,by omega,rfl,by go_num,by rw [HP.out],onB HW.out (by go_grown)⟩
  ·have hke:k=n:=by omega
   subst hke
   go_wp2_with fail
   go_ret
   exact ⟨rfl,hBw⟩
def DimsV (w:World) (A0:Option Addr) (cap n:Nat) (D:Nat→Dm) (A:Nat→Option Addr) (C:Nat→Nat):Prop:=n≤cap∧(n=0∨∃ b o,A0=some ⟨b,o,none⟩∧DimsAt w b o n D A C)
theorem DimsV.later {w w':World} {A0:Option Addr} {cap n:Nat} {D:Nat→Dm} {A:Nat→Option Addr} {C:Nat→Nat} (h:DimsV w A0 cap n D A C) (hB:Below w.heap.size w w'):DimsV w' A0 cap n D A C:=by
 obtain ⟨h1,h2 | ⟨b,o,h2,h3⟩⟩:=h
 ·exact ⟨h1,Or.inl h2⟩
 ·exact ⟨h1,Or.inr ⟨b,o,h2,h3.later hB⟩⟩
theorem al0 {D:Nat→Dm} {n:Nat} (h:4<n):allErr D n=(-1,-1,4):=by unfold allErr;rw [if_pos h]
theorem al1 {D:Nat→Dm} {n:Nat} (h:n=0):allErr D n=(-1,-1,5):=by unfold allErr;rw [if_neg (by omega),if_pos h]
theorem al2 {D:Nat→Dm} {n:Nat} (h : ¬ 4<n) (h1 : ¬ n=0) (h2:(scanD D n 0).2.2≠0):allErr D n=scanD D n 0:=by unfold allErr;rw [if_neg h,if_neg h1,if_pos h2]
theorem al3 {D:Nat→Dm} {n:Nat} (h : ¬ 4<n) (h1 : ¬ n=0) (h2:(scanD D n 0).2.2=0) (h3:3000<prodN D n):allErr D n=(-1,-1,4):=by unfold allErr;rw [if_neg h,if_neg h1,if_neg (by simpa using h2),if_pos h3]
theorem al4 {D:Nat→Dm} {n:Nat} (h : ¬ 4<n) (h1 : ¬ n=0) (h2:(scanD D n 0).2.2=0) (h3 : ¬ 3000<prodN D n):allErr D n=(-1,-1,0):=by unfold allErr;rw [if_neg h,if_neg h1,if_neg (by simpa using h2),if_neg h3]
theorem one0 {D:Nat→Dm} {i:Nat} (h:(dimErr (D i)).2≠0):oneD D i=dimErr (D i):=by unfold oneD;rw [if_pos h]
theorem one1 {D:Nat→Dm} {i:Nat} (h:(dimErr (D i)).2=0) (h1:clashD D i=true):oneD D i=(-1,7):=by unfold oneD;rw [if_neg (by simpa using h),if_pos h1]
theorem one2 {D:Nat→Dm} {i:Nat} (h:(dimErr (D i)).2=0) (h1:clashD D i=false):oneD D i=(-1,0):=by unfold oneD;rw [if_neg (by simpa using h),if_neg (by simp [h1])]
def ownOut (w:World) (A0:Option Addr) (n cap T:Nat):World:=w.alloc (.cells #[.slice A0 n cap] T)
theorem ownOut_at (w:World) (A0:Option Addr) (n cap T:Nat):(ownOut w A0 n cap T).cell? ⟨w.heap.size,0,none⟩=some (.slice A0 n cap):=by unfold ownOut;simp
theorem ownOut_size (w:World) (A0:Option Addr) (n cap T:Nat):(ownOut w A0 n cap T).heap.size=w.heap.size+1:=by unfold ownOut;simp
theorem ownOut_below (w:World) (A0:Option Addr) (n cap T:Nat):Below w.heap.size w (ownOut w A0 n cap T):=by unfold ownOut;go_grown
set_option maxHeartbeats 4000000 in
theorem all_any (A0:Option Addr) (cap n:Nat) (D:Nat→Dm) (A:Nat→Option Addr) (C:Nat→Nat) (w:World) (hM:DimsV w A0 cap n D A C):Calls Tryz.prog 43 #[.agg #[.slice A0 n cap]] w fun e w'=>e=.returned (.tuple #[.int .i64 (allErr D n).1,.int .i64 (allErr D n).2.1,errV (allErr D n).2.2])∧Below w.heap.size w w':=by
 by_cases hn4:4<n
 ·have hn':4<(n:Int):=by omega
  have HR:Hid (allErr D n=(-1,-1,4)):=al0 hn4
  clear hn4 hM
  go_enter Tryz.func43,Tryz.ntmps43
  go_wp2_with fail
  refine bodyPost_ret (v:=.tuple #[.int .i64 (-1),.int .i64 (-1),.iface 46 (.int .i64 4)]) (by simp [results,Tryz.results43,go_sem]) rfl ⟨by rw [HR.out];rfl,?_⟩
  go_grown
 have hn':(n:Int)≤4:=by omega
 by_cases hn0:n=0
 ·have HR:Hid (allErr D n=(-1,-1,5)):=al1 hn0
  have hz:((n:Int) == 0)=true:=by simp [hn0]
  clear hn0 hM hn4
  go_enter Tryz.func43,Tryz.ntmps43
  go_wp2_with fail
  refine bodyPost_ret (v:=.tuple #[.int .i64 (-1),.int .i64 (-1),.iface 46 (.int .i64 5)]) (by simp [results,Tryz.results43,go_sem]) rfl ⟨by rw [HR.out];rfl,?_⟩
  go_grown
 have hz:((n:Int) == 0)=false:=by simp;omega
 obtain ⟨hcap,h0 | ⟨b,o,rfl,hMs⟩⟩:=hM
 ·omega
 have hcap':(n:Int)≤(cap:Int):=by omega
 have hB0:=ownOut_below w (some ⟨b,o,none⟩) n cap 25
 have hS:=ownOut_size w (some ⟨b,o,none⟩) n cap 25
 have hA:=ownOut_at w (some ⟨b,o,none⟩) n cap 25
 obtain ⟨W,hW⟩:∃ W,W=ownOut w (some ⟨b,o,none⟩) n cap 25:=⟨_,rfl⟩
 rw [←hW] at hB0 hS hA
 have HMs:Hid (DimsAt W b o n D A C):=hMs.later hB0
 have hsz:w.heap.size<W.heap.size:=by omega
 clear hMs
 have HW:Hid (W=ownOut w (some ⟨b,o,none⟩) n cap 25):=hW
 have HA:Hid (W.cell? ⟨w.heap.size,0,none⟩=some (.slice (some ⟨b,o,none⟩) n cap)):=hA
 have HB0:Hid (Below w.heap.size w W):=hB0
 clear hW hA hB0 hS
 go_enter Tryz.func43,Tryz.ntmps43
 go_wp2_with fail
 go_loopg [22] n (fun g s22 wr => ∃ (k:Nat),k≤n∧g=n-k∧s22=.int .i64 k∧scanD D (n-k) k=scanD D n 0∧Below W.heap.size W wr)
 case atStart=>exact ⟨0,Nat.zero_le _,rfl,rfl,rfl,by rw [HW.out];exact Below.refl _ _⟩
 case round =>
  obtain ⟨k,hk,rfl,rfl,hsc,hBw⟩:=hrel
  have HBr:Hid (Below W.heap.size W wr):=hBw
  have HF:Hid (scanD D (n-k) k=scanD D n 0):=hsc
  have c0:wr.cell? ⟨w.heap.size,0,none⟩=some (.slice (some ⟨b,o,none⟩) n cap):=(hBw.cell (p:=⟨w.heap.size,0,none⟩) hsz).trans HA.out
  have hMr:=HMs.out.later hBw
  have hszr:w.heap.size<wr.heap.size:=Nat.lt_of_lt_of_le hsz hBw.size
  clear hsc hBw
  by_cases hlt:k<n
  ·obtain ⟨h0,h1,h2,h3⟩:=hMr.2 k hlt
   have hki:(k:Int)<(n:Int):=by omega
   have hsk:n-k=(n-(k+1))+1:=by omega
   have hBo:=ownDim_below wr (D k) (A k) (C k) 81
   have hck:=dcheck_any (D k) (A k) (C k) (ownDim wr (D k) (A k) (C k) 81) (h3.later hBo)
   unfold dimV at hck
   have HMr:Hid (DimsAt wr b o n D A C):=hMr
   clear h3 hMr hBo
   by_cases he:(dimErr (D k)).2=0
   ·obtain ⟨e1,hd1,hd2,-⟩:=dimErr_right he
    rw [he,e1,errV_zero] at hck
    have HE:Hid ((dimErr (D k)).2=0):=he
    clear he e1
    go_wp2_with fail
    refine hck.mono ?_
    rintro e w1 ⟨rfl,hb1⟩
    have hB1:Below wr.heap.size wr w1:=onB (ownDim_below wr (D k) (A k) (C k) 81) hb1
    have hz1:wr.heap.size<w1.heap.size:=by
     have:=hb1.size
     rw [ownDim_size] at this
     omega
    have q0:w1.cell? ⟨wr.heap.size,0,none⟩=some (.string (D k).name):=(hb1.cell (p:=⟨wr.heap.size,0,none⟩) (by show wr.heap.size<_;rw [ownDim_size];omega)).trans (ownDim_at wr (D k) (A k) (C k) 81).1
    have c1:w1.cell? ⟨w.heap.size,0,none⟩=some (.slice (some ⟨b,o,none⟩) n cap):=(hB1.cell (p:=⟨w.heap.size,0,none⟩) hszr).trans c0
    have hM1:=HMr.out.later hB1
    have hcl:=contains_dims wr.heap.size b o k cap D A C (fun j=>same (D j).name (D k).name) w1 (by omega) (hM1.less (by omega)) (fun j w' _ hw'=>all1_any (D j) (A j) (C j) (D k).name wr.heap.size w' (Nat.lt_of_lt_of_le hz1 hw'.size) ((hw'.cell (p:=⟨wr.heap.size,0,none⟩) hz1).trans q0))
    change Calls _ _ _ _ (fun e w'=>e=.returned (.bool (clashD D k))∧_) at hcl
    clear hb1 hck hM1 q0 c0 h0 h1 h2 HMr
    cases hc:clashD D k
    ·rw [hc] at hcl
     have HK:Hid (oneD D k=(-1,0)):=one2 HE.out hc
     clear hc
     go_wp2_with fail
     refine hcl.mono ?_
     rintro e w2 ⟨rfl,hb2⟩
     go_wp2_with fail
     go_roundg (n-(k+1))
     case measure=>omega
     case rel=>exact ⟨k+1,by omega,rfl,by go_num,by rw [←HF.out,hsk,scanD_ok _ (by rw [HK.out])],onB (onB HBr.out hB1) hb2⟩
    ·rw [hc] at hcl
     have HK:Hid (oneD D k=(-1,7)):=one1 HE.out hc
     clear hc
     go_wp2_with fail
     refine hcl.mono ?_
     rintro e w2 ⟨rfl,hb2⟩
     go_wp2_with fail
     have hsb:scanD D n 0=((k:Int),-1,7):=by rw [←HF.out,hsk,scanD_bad _ (by rw [HK.out];decide),HK.out]
     have HR:allErr D n=((k:Int),-1,7):=by rw [al2 (by omega) (by omega) (by rw [hsb];show (7:Int)≠0;decide),hsb]
     refine bodyPost_ret (v:=.tuple #[.int .i64 k,.int .i64 (-1),.iface 46 (.int .i64 7)]) (by simp [results,Tryz.results43,go_sem]) rfl ⟨by rw [HR];rfl,?_⟩
     exact onB HB0.out (onB (onB HBr.out hB1) hb2)
   ·rw [errV_some he] at hck
    have HK:Hid (oneD D k=dimErr (D k)):=one0 he
    have HE:Hid ((dimErr (D k)).2≠0):=he
    clear he
    go_wp2_with fail
    refine hck.mono ?_
    rintro e w1 ⟨rfl,hb1⟩
    have hB1:Below wr.heap.size wr w1:=onB (ownDim_below wr (D k) (A k) (C k) 81) hb1
    clear hb1 hck
    go_wp2_with fail
    have hsb:scanD D n 0=((k:Int),(dimErr (D k)).1,(dimErr (D k)).2):=by rw [←HF.out,hsk,scanD_bad _ (by rw [HK.out];exact HE.out),HK.out]
    have HR:allErr D n=((k:Int),(dimErr (D k)).1,(dimErr (D k)).2):=by rw [al2 (by omega) (by omega) (by rw [hsb];exact HE.out),hsb]
    refine bodyPost_ret (v:=.tuple #[.int .i64 k,.int .i64 (dimErr (D k)).1,.iface 46 (.int .i64 (dimErr (D k)).2)]) (by simp [results,Tryz.results43,go_sem]) rfl ⟨by rw [HR,errV_some HE.out],?_⟩
    exact onB HB0.out (onB HBr.out hB1)
  ·have hke:k=n:=by omega
   subst hke
   have hs0:(scanD D k 0).2.2=0:=by rw [←HF.out,Nat.sub_self];rfl
   have hone:=(scanD_right k 0 hs0).2
   have hcs:=cells_any b o k cap D A C wr (by omega) (fun j hj=>(dimErr_right (oneD_right (hone j (Nat.zero_le _) (by omega)))).2.2.1) hMr
   clear hone hMr
   by_cases hp:3000<prodN D k
   ·have hp':3000<(prodN D k:Int):=by omega
    have HR:Hid (allErr D k=(-1,-1,4)):=al3 (by omega) (by omega) hs0 hp
    clear hs0 hp
    go_wp2_with fail
    refine hcs.mono ?_
    rintro e w2 ⟨rfl,hb2⟩
    go_wp2_with fail
    refine bodyPost_ret (v:=.tuple #[.int .i64 (-1),.int .i64 (-1),.iface 46 (.int .i64 4)]) (by simp [results,Tryz.results43,go_sem]) rfl ⟨by rw [HR.out];rfl,?_⟩
    exact onB HB0.out (onB HBr.out hb2)
   ·have hp':(prodN D k:Int)≤3000:=by omega
    have HR:Hid (allErr D k=(-1,-1,0)):=al4 (by omega) (by omega) hs0 hp
    clear hs0 hp
    go_wp2_with fail
    refine hcs.mono ?_
    rintro e w2 ⟨rfl,hb2⟩
    go_wp2_with fail
    refine bodyPost_ret (v:=.tuple #[.int .i64 (-1),.int .i64 (-1),.nilIface]) (by simp [results,Tryz.results43,go_sem]) rfl ⟨by rw [HR.out];rfl,?_⟩
    exact onB HB0.out (onB HBr.out hb2)
end Go.Proofs.YtenlladggdcfnaaGreatDoor
namespace Go.Proofs.YtenlladggdcfnaaGreatDoor
def Tr (M:Nat→Mem) (n:Nat):Prop := ∀ k,k<n→-1≤(M k).parent∧(M k).parent<(k:Int)
def Sg (M:Nat→Mem) (n:Nat):Prop := ∀ k,k<n→-1≤(M k).sign∧(M k).sign≤1
theorem memErr_tree {M:Nat→Mem} {i:Nat} (h:memErr M i=0):(-1≤(M i).parent∧(M i).parent<(i:Int))∧(-1≤(M i).sign∧(M i).sign≤1)∧(0≤(M i).parent→(M (M i).parent.toNat).formula.size=0):=by
 unfold memErr at h
 split at h
 ·simp at h
 ·split at h
  ·simp at h
  ·split at h
   ·simp at h
   ·split at h
    ·simp at h
    ·split at h
     ·simp at h
     ·rename_i h1 h2 h3 h4 h5
      refine ⟨by omega,by omega,fun h6=>?_⟩
      exact Decidable.byContradiction fun h7=>h4 ⟨h6,h7⟩
theorem Tr.of {d:Dm} (h:(dimErr d).2=0):Tr d.mem d.n:=fun k hk=>(memErr_tree ((dimErr_right h).2.2.2 k hk)).1
theorem Sg.of {d:Dm} (h:(dimErr d).2=0):Sg d.mem d.n:=fun k hk=>(memErr_tree ((dimErr_right h).2.2.2 k hk)).2.1
def pth (M:Nat→Mem):Nat→Int→List Int
 | 0,_=>[]
 | f+1,i=>if i<0 then [] else i :: pth M f (M i.toNat).parent
def pathOf (M:Nat→Mem) (i:Int):List Int:=pth M (i.toNat+1) i
theorem pth_same {M:Nat→Mem} {n:Nat} (ht:Tr M n) (f:Nat):∀ (g:Nat) (i:Int),i<n→i<f→i<g→pth M f i=pth M g i:=by
 induction f with
 | zero =>
  intro g i _ h2 _
  have:i<0:=by omega
  cases g with
  | zero=>rfl
  | succ g=>simp [pth,this]
 | succ f ih =>
  intro g i h1 h2 h3
  cases g with
  | zero =>
   have:i<0:=by omega
   simp [pth,this]
  | succ g =>
   by_cases h0:i<0
   ·simp [pth,h0]
   ·simp only [pth,if_neg h0]
    have:=ht i.toNat (by omega)
    rw [ih g _ (by omega) (by omega) (by omega)]
theorem pathOf_neg {M:Nat→Mem} {i:Int} (h:i<0):pathOf M i=[]:=by simp [pathOf,pth,h]
theorem pathOf_cons {M:Nat→Mem} {n:Nat} (ht:Tr M n) {i:Nat} (h:i<n):pathOf M i=(i:Int) :: pathOf M (M i).parent:=by
 have:=ht i h
 unfold pathOf
 rw [show ((i:Int)).toNat=i by omega,pth,if_neg (by omega),show ((i:Int)).toNat=i by omega,pth_same ht i ((M i).parent.toNat+1) _ (by omega) (by omega) (by omega)]
theorem pathOf_len {M:Nat→Mem} {n:Nat} (ht:Tr M n) (k:Nat):∀ i:Int,i<n→i<k→(pathOf M i).length≤k:=by
 induction k with
 | zero=>intro i _ h;rw [pathOf_neg (by omega)];exact Nat.le_refl _
 | succ k ih =>
  intro i h1 h2
  by_cases h0:i<0
  ·rw [pathOf_neg h0];exact Nat.zero_le _
  ·obtain ⟨j,rfl⟩:∃ j:Nat,i=j:=⟨i.toNat,by omega⟩
   have:=ht j (by omega)
   rw [pathOf_cons ht (by omega),List.length_cons]
   have:=ih (M j).parent (by omega) (by omega)
   omega
theorem pathOf_mem {M:Nat→Mem} {n:Nat} (ht:Tr M n) (k:Nat):∀ i:Int,i<n→i<k→∀ j∈pathOf M i,0≤j∧j≤i:=by
 induction k with
 | zero=>intro i _ h j hj;rw [pathOf_neg (by omega)] at hj;cases hj
 | succ k ih =>
  intro i h1 h2 j hj
  by_cases h0:i<0
  ·rw [pathOf_neg h0] at hj;cases hj
  ·obtain ⟨q,rfl⟩:∃ q:Nat,i=q:=⟨i.toNat,by omega⟩
   have:=ht q (by omega)
   rw [pathOf_cons ht (by omega),List.mem_cons] at hj
   rcases hj with rfl | hj
   ·omega
   ·have:=ih (M q).parent (by omega) (by omega) j hj
    omega
def selTo (p:Nat→Bool):Nat→List Int
 | 0=>[]
 | k+1=>selTo p k ++ (if p k=true then [(k:Int)] else [])
theorem selTo_hit {p:Nat→Bool} {k:Nat} (h:p k=true):selTo p (k+1)=selTo p k ++ [(k:Int)]:=by simp [selTo,h]
theorem selTo_miss {p:Nat→Bool} {k:Nat} (h:p k=false):selTo p (k+1)=selTo p k:=by simp [selTo,h]
theorem selTo_len (p:Nat→Bool) (k:Nat):(selTo p k).length≤k:=by
 induction k with
 | zero=>exact Nat.le_refl _
 | succ k ih=>rw [selTo,List.length_append];split <;> simp <;> omega
theorem selTo_mem {p:Nat→Bool} {k:Nat}:∀ j∈selTo p k,∃ m:Nat,j=m∧m<k∧p m=true:=by
 induction k with
 | zero=>intro j hj;cases hj
 | succ k ih =>
  intro j hj
  rw [selTo,List.mem_append] at hj
  rcases hj with hj | hj
  ·obtain ⟨m,h1,h2,h3⟩:=ih j hj;exact ⟨m,h1,by omega,h3⟩
  ·split at hj
   ·rename_i hp;simp at hj;exact ⟨k,hj,by omega,hp⟩
   ·cases hj
theorem selTo_none {p:Nat→Bool} {k:Nat} (h:∀ j,j<k→p j=false):selTo p k=[]:=by
 induction k with
 | zero=>rfl
 | succ k ih=>rw [selTo_miss (h k (by omega)),ih fun j hj=>h j (by omega)]
def partB (M:Nat→Mem) (i:Int) (k:Nat):Bool:=(M k).parent == i
def leafB (M:Nat→Mem) (n k:Nat):Bool:=decide ((M k).formula.size=0) && !decide (0≤findFrom (partB M k) n 0)
def inB (L:List Int) (i:Int):Bool:=decide (i∈L)
def leafIn (M:Nat→Mem) (n:Nat) (i:Int) (k:Nat):Bool:=leafB M n k && inB (pathOf M k) i
def partsOf (M:Nat→Mem) (n:Nat) (i:Int):List Int:=selTo (partB M i) n
def leafsOf (M:Nat→Mem) (n:Nat) (i:Int):List Int:=selTo (leafIn M n i) n
theorem find_in (L:List Int) (i:Int):decide (0≤findFrom (fun j=>L.getD j 0 == i) L.length 0)=inB L i:=by
 unfold inB
 rw [decide_eq_decide]
 rcases findFrom_cases (fun j=>L.getD j 0 == i) L.length 0 with ⟨h1,h2⟩ | ⟨k,h1,_,h3,h4,_⟩
 ·rw [h1]
  constructor
  ·intro h;omega
  ·intro h
   obtain ⟨j,hj,e⟩:=List.getElem_of_mem h
   have:=h2 j (Nat.zero_le _) (by omega)
   simp [List.getD,List.getElem?_eq_getElem hj,e] at this
 ·rw [h1]
  constructor
  ·intro _
   have hk:k<L.length:=by omega
   simp [List.getD,List.getElem?_eq_getElem hk] at h4
   rw [←h4];exact List.getElem_mem hk
  ·intro _;omega
def wgt (M:Nat→Mem) (i:Int):List Int→Int→Int
 | [],_=>0
 | k :: t,a=>if k=i then a else wgt M i t (a*(M k.toNat).sign)
def weightOf (M:Nat→Mem) (i j:Int):Int:=wgt M i (pathOf M j) 1
theorem wgt_hit {M:Nat→Mem} {i:Int} (t:List Int) (a:Int):wgt M i (i :: t) a=a:=by simp [wgt]
theorem wgt_miss {M:Nat→Mem} {i k:Int} (h:k≠i) (t:List Int) (a:Int):wgt M i (k :: t) a=wgt M i t (a*(M k.toNat).sign):=by simp [wgt,h]
theorem wgt_out {M:Nat→Mem} {i:Int} (L:List Int) (h:i∉L):∀ a,wgt M i L a=0:=by
 induction L with
 | nil=>intro a;rfl
 | cons k t ih =>
  intro a
  simp only [List.mem_cons,not_or] at h
  rw [wgt_miss (fun e=>h.1 e.symm)]
  exact ih h.2 _
theorem small_mul {a b:Int} (ha : -1≤a∧a≤1) (hb : -1≤b∧b≤1) : -1≤a*b∧a*b≤1:=by
 rcases (show a = -1∨a=0∨a=1 by omega) with rfl | rfl | rfl <;> simp <;> omega
theorem wgt_small {M:Nat→Mem} {n:Nat} (hs:Sg M n) (i:Int) (L:List Int) (hL:∀ j∈L,0≤j∧j<n):∀ a,(-1≤a∧a≤1)→-1≤wgt M i L a∧wgt M i L a≤1:=by
 induction L with
 | nil=>intro a _;simp [wgt]
 | cons k t ih =>
  intro a ha
  by_cases hk:k=i
  ·subst hk;rw [wgt_hit];exact ha
  ·rw [wgt_miss hk]
   have:=hL k (List.mem_cons_self ..)
   exact ih (fun j hj=>hL j (List.mem_cons_of_mem _ hj)) _ (small_mul ha (hs k.toNat (by omega)))
def rangeErr (n:Nat) (L:List Int):Int:=if 0≤findFrom (fun j=>decide (L.getD j 0<0) || decide ((n:Int)≤L.getD j 0)) L.length 0 then 1 else 0
def treeErr (d:Dm) (L:List Int):Int:=if (dimErr d).2≠0 then (dimErr d).2 else rangeErr d.n L
theorem treeErr_dim {d:Dm} {L:List Int} (h:(dimErr d).2≠0):treeErr d L=(dimErr d).2:=by unfold treeErr;rw [if_pos h]
theorem treeErr_one {d:Dm} {i:Int} (h:(dimErr d).2=0):treeErr d [i]=if i<0∨(d.n:Int)≤i then 1 else 0:=by
 unfold treeErr rangeErr;rw [if_neg (by simpa using h)]
 by_cases h1:i<0∨(d.n:Int)≤i
 ·rw [if_pos h1];simp [findFrom,h1]
 ·rw [if_neg h1];simp [findFrom,h1]
theorem treeErr_two {d:Dm} {i j:Int} (h:(dimErr d).2=0):treeErr d [i,j]=if i<0∨(d.n:Int)≤i∨j<0∨(d.n:Int)≤j then 1 else 0:=by
 unfold treeErr rangeErr;rw [if_neg (by simpa using h)]
 by_cases h1:i<0∨(d.n:Int)≤i
 ·have e:i<0∨(d.n:Int)≤i∨j<0∨(d.n:Int)≤j:=by omega
  rw [if_pos e];simp [findFrom,h1]
 ·by_cases h2:j<0∨(d.n:Int)≤j
  ·have e:i<0∨(d.n:Int)≤i∨j<0∨(d.n:Int)≤j:=by omega
   rw [if_pos e];simp [findFrom,h1,h2]
  ·have e : ¬ (i<0∨(d.n:Int)≤i∨j<0∨(d.n:Int)≤j):=by omega
   rw [if_neg e];simp [findFrom,h1,h2]
end Go.Proofs.YtenlladggdcfnaaGreatDoor
namespace Go.Proofs.YtenlladggdcfnaaGreatDoor
open Go.ChangeShapes Go.WideShapes Go.ChangeAt Go.RowKit
set_option maxRecDepth 20000
theorem isleaf1_in:EntersO 126:=fun args w=>by simp [callFunc,Tryz.func126];rfl
theorem isleaf1_any (m:Mem) (i:Int) (q:Nat) (w:World) (hq:q<w.heap.size) (h:w.cell? ⟨q,0,none⟩=some (.int .i64 i)):Calls Tryz.prog 126 #[memV m,.pointer (some ⟨q,0,none⟩)] w fun e w'=>e=.returned (.bool (m.parent == i))∧Below w.heap.size w w':=by
 unfold memV
 go_enter Tryz.func126,Tryz.ntmps126
 go_wp2_with fail
 go_ret
 exact ⟨by simp,by go_grown⟩
def ownInt (w:World) (i:Int) (T:Nat):World:=w.alloc (.cells #[.int .i64 i] T)
theorem ownInt_at (w:World) (i:Int) (T:Nat):(ownInt w i T).cell? ⟨w.heap.size,0,none⟩=some (.int .i64 i):=by unfold ownInt;simp
theorem ownInt_size (w:World) (i:Int) (T:Nat):(ownInt w i T).heap.size=w.heap.size+1:=by unfold ownInt;simp
theorem ownInt_below (w:World) (i:Int) (T:Nat):Below w.heap.size w (ownInt w i T):=by unfold ownInt;go_grown
theorem leafB_told {M:Nat→Mem} {n k:Nat} (h:(M k).formula.size≠0):leafB M n k=false:=by simp [leafB,h]
theorem leafB_parts {M:Nat→Mem} {n k:Nat} (h:(M k).formula.size=0):leafB M n k = !decide (0≤findFrom (partB M k) n 0):=by simp [leafB,h]
set_option maxHeartbeats 2000000 in
theorem isleaf_any (b o n cap i:Nat) (M:Nat→Mem) (w:World) (hn:n≤12) (hi:i<n) (hM:MemsAt w b o n M):Calls Tryz.prog 101 #[.slice (some ⟨b,o,none⟩) n cap,.int .i64 i] w fun e w'=>e=.returned (.bool (leafB M n i))∧Below w.heap.size w w':=by
 have hS:=ownInt_size w i 3
 have hB0:=ownInt_below w i 3
 have hA:=ownInt_at w i 3
 have hM0:=hM.later hB0
 have hcl:=contains_mems 126 w.heap.size isleaf1_in b o n cap M (partB M i) (ownInt w i 3) hn hM0 (fun j w' _ hw'=>isleaf1_any (M j) i w.heap.size w' (by have:=hw'.size;omega) ((hw'.cell (p:=⟨w.heap.size,0,none⟩) (by show w.heap.size<_;omega)).trans hA))
 have HB0:Hid (Below w.heap.size w (ownInt w i 3)):=hB0
 obtain ⟨-,-,-,h3⟩:=hM.2 i hi
 have hbw:=hM.1
 have hii:(i:Int)<(n:Int):=by omega
 have hn':(n:Int)≤12:=by omega
 clear hM hS hB0 hA hM0
 by_cases hf:(M i).formula.size=0
 ·have hf':(M i).formula.toList.isEmpty=true:=by rw [empty_same];simpa using hf
  have HR:Hid (leafB M n i = !decide (0≤findFrom (partB M i) n 0)):=leafB_parts hf
  clear hf
  generalize decide (0≤findFrom (partB M i) n 0)=f at hcl HR
  go_enter Tryz.func101,Tryz.ntmps101
  go_wp2_with fail
  refine hcl.mono ?_
  rintro e w1 ⟨rfl,hb1⟩
  go_wp2_with fail
  go_ret
  exact ⟨by rw [HR.out];rfl,onB HB0.out hb1⟩
 ·have hf':(M i).formula.toList.isEmpty=false:=by rw [empty_same];simpa using hf
  have HR:Hid (leafB M n i=false):=leafB_told hf
  clear hf hcl
  go_enter Tryz.func101,Tryz.ntmps101
  go_wp2_with fail
  go_ret
  exact ⟨by rw [HR.out];rfl,by go_grown⟩
theorem byteN_eq (s:ByteArray) (k:Nat) (h:k<s.size):byteN s k=(s[k].toNat:Int):=by
 unfold byteN
 rw [List.getD,List.getElem?_eq_getElem (by simpa using h)]
 rfl
set_option maxHeartbeats 1000000 in
theorem rname_any (s:ByteArray) (w:World):Calls Tryz.prog 129 #[.string s] w fun e w'=>e=.returned (.int .i64 (nameErr s))∧w'=w:=by
 by_cases h1:s.size<1
 ·rw [nameErr_short (Or.inl h1)]
  have h2:s.toList.isEmpty=true:=by rw [empty_same];simpa using (by omega:s.size=0)
  clear h1
  go_enter Tryz.func129,Tryz.ntmps129
  go_wp2
  go_ret
  exact ⟨rfl,rfl⟩
 ·have h0:s.toList.isEmpty=false:=by rw [empty_same];simpa using (by omega : ¬ s.size=0)
  by_cases h2:8<s.size
  ·rw [nameErr_short (Or.inr h2)]
   have h2':8<(s.size:Int):=by omega
   clear h1
   go_enter Tryz.func129,Tryz.ntmps129
   go_wp2
   go_ret
   exact ⟨rfl,rfl⟩
  ·have h2':(s.size:Int)≤8:=by omega
   have HN:Hid (nameErr s=if 0≤findFrom (badByte s) s.size 0 then 2 else 0):=nameErr_bytes (by omega) (by omega)
   clear h1
   go_enter Tryz.func129,Tryz.ntmps129
   go_wp2
   go_loopg [3] s.size (fun g s3 wr => ∃ k:Nat,k≤s.size∧g=s.size-k∧s3=.int .i64 k∧findFrom (badByte s) (s.size-k) k=findFrom (badByte s) s.size 0∧wr=w)
   case atStart=>exact ⟨0,Nat.zero_le _,rfl,rfl,rfl,rfl⟩
   case round =>
    obtain ⟨k,hk,rfl,rfl,hf,rfl⟩:=hrel
    by_cases hlt:k<s.size
    ·have HF:Hid (findFrom (badByte s) (s.size-k) k=findFrom (badByte s) s.size 0):=hf
     have hsk:s.size-k=(s.size-(k+1))+1:=by omega
     have hki:(k:Int)<(s.size:Int):=by omega
     have HY:=byteN_eq s k hlt
     have HZ:Hid (byteN s k=(s[k].toNat:Int)):=HY
     clear hf HY
     by_cases b1:(s[k].toNat:Int)<97
     ·go_wp2
      go_ret
      have hb:badByte s k=true:=by unfold badByte badB;rw [HZ.out];simp [b1]
      exact ⟨by rw [HN.out,←HF.out,hsk,findFrom_hit _ hb,if_pos (by omega)];rfl,rfl⟩
     ·by_cases b2:122<(s[k].toNat:Int)
      ·go_wp2
       go_ret
       have hb:badByte s k=true:=by unfold badByte badB;rw [HZ.out];simp [b2]
       exact ⟨by rw [HN.out,←HF.out,hsk,findFrom_hit _ hb,if_pos (by omega)];rfl,rfl⟩
      ·have HB:Hid (badByte s k=false):=by show badByte s k=false;unfold badByte badB;rw [HZ.out];simp;omega
       go_wp2
       go_roundg (s.size-(k+1))
       case measure=>omega
       case rel=>exact ⟨k+1,by omega,rfl,by go_num,by rw [←HF.out,hsk,findFrom_miss _ HB.out],rfl⟩
    ·have hke:k=s.size:=by omega
     have HF:Hid (findFrom (badByte s) (s.size-k) k=findFrom (badByte s) s.size 0):=hf
     have hki:(s.size:Int)≤(k:Int):=by omega
     clear hf
     go_wp2
     go_ret
     exact ⟨by rw [HN.out,←HF.out,hke,Nat.sub_self];rfl,rfl⟩
set_option maxHeartbeats 1000000 in
theorem where_any (d:Dm) (A:Option Addr) (cap:Nat) (s:ByteArray) (w:World) (hn:d.n≤12) (hM:MemsV w A cap d.n d.mem):Calls Tryz.prog 109 #[dimV d A cap,.string s] w fun e w'=>e=.returned (.int .i64 (findFrom (fun j=>same (d.mem j).name s) d.n 0))∧Below w.heap.size w w':=by
 have HM:Hid (MemsV w A cap d.n d.mem):=hM
 clear hM
 unfold dimV
 have hn':(d.n:Int)≤12:=by omega
 have hS:=ownDim_size w d A cap 81
 have hB0:=ownDim_below w d A cap 81
 have hA2:=(ownDim_at w d A cap 81).2.2
 obtain ⟨W,hW⟩:∃ W,W=ownDim w d A cap 81:=⟨_,rfl⟩
 rw [←hW] at hB0 hS hA2
 have HW:Hid (W=ownDim w d A cap 81):=hW
 have HA:Hid (W.cell? ⟨w.heap.size,2,none⟩=some (.slice A d.n cap)):=hA2
 have HB0:Hid (Below w.heap.size w W):=hB0
 have hsz:w.heap.size<W.heap.size:=by omega
 clear hW hA2 hB0 hS
 go_enter Tryz.func109,Tryz.ntmps109
 go_wp2_with fail
 go_loopg [5] d.n (fun g s5 wr => ∃ k:Nat,k≤d.n∧g=d.n-k∧s5=.int .i64 k∧findFrom (fun j=>same (d.mem j).name s) (d.n-k) k=findFrom (fun j=>same (d.mem j).name s) d.n 0∧wr=W)
 case atStart=>exact ⟨0,Nat.zero_le _,rfl,rfl,rfl,by rw [HW.out];rfl⟩
 case round =>
  obtain ⟨k,hk,rfl,rfl,hf,rfl⟩:=hrel
  have HF:Hid (findFrom (fun j=>same (d.mem j).name s) (d.n-k) k=findFrom (fun j=>same (d.mem j).name s) d.n 0):=hf
  have c2:=HA.out
  clear hf
  by_cases hlt:k<d.n
  ·obtain ⟨hcap,h0 | ⟨b,o,rfl,hMs⟩⟩:=HM.out.later HB0.out
   ·omega
   obtain ⟨n0,-,-,-⟩:=hMs.2 k hlt
   have hki:(k:Int)<(d.n:Int):=by omega
   have hsk:d.n-k=(d.n-(k+1))+1:=by omega
   clear hMs
   cases hq:((d.mem k).name.toList == s.toList)
   ·have HQ:Hid ((fun j=>same (d.mem j).name s) k=false):=hq
    go_wp2_with fail
    go_roundg (d.n-(k+1))
    case measure=>omega
    case rel=>exact ⟨k+1,by omega,rfl,by go_num,by rw [←HF.out,hsk,findFrom_miss _ HQ.out],rfl⟩
   ·have HQ:Hid ((fun j=>same (d.mem j).name s) k=true):=hq
    go_wp2_with fail
    go_ret
    exact ⟨by rw [←HF.out,hsk,findFrom_hit _ HQ.out];rfl,HB0.out⟩
  ·have hke:k=d.n:=by omega
   have hki:(d.n:Int)≤(k:Int):=by omega
   go_wp2_with fail
   go_ret
   exact ⟨by rw [←HF.out,hke,Nat.sub_self];rfl,HB0.out⟩
end Go.Proofs.YtenlladggdcfnaaGreatDoor
