/-
  slices.IndexFunc and slices.ContainsFunc over the dims of an outline, and how many cells an outline has.
-/
import Derived.Test.YtnlfpaopfloklaaGreatDoorJEAE
namespace Go.Proofs.YtnlfpaopfloklaaGreatDoor
open Go.ChangeShapes Go.WideShapes Go.ChangeAt Go.RowKit
set_option maxRecDepth 20000
def DimAt (w:World) (b o:Nat) (d:Dm) (A:Option Addr) (c:Nat):Prop:=w.cell? ⟨b,o,none⟩=some (.string d.name)∧w.cell? ⟨b,o+1,none⟩=some (.int .i64 d.solve)∧w.cell? ⟨b,o+2,none⟩=some (.slice A d.n c)∧MemsV w A c d.n d.mem
def DimsAt (w:World) (b o n:Nat) (D:Nat→Dm) (A:Nat→Option Addr) (C:Nat→Nat):Prop:=b<w.heap.size∧∀ i,i<n→DimAt w b (o+i*3) (D i) (A i) (C i)
theorem DimAt.later {w w':World} {b o:Nat} {d:Dm} {A:Option Addr} {c:Nat} (h:DimAt w b o d A c) (hb:b<w.heap.size) (hB:Below w.heap.size w w'):DimAt w' b o d A c :=
 ⟨(hB.cell (p:=⟨b,o,none⟩) hb).trans h.1,(hB.cell (p:=⟨b,o+1,none⟩) hb).trans h.2.1,(hB.cell (p:=⟨b,o+2,none⟩) hb).trans h.2.2.1,h.2.2.2.later hB⟩
theorem DimsAt.later {w w':World} {b o n:Nat} {D:Nat→Dm} {A:Nat→Option Addr} {C:Nat→Nat} (h:DimsAt w b o n D A C) (hB:Below w.heap.size w w'):DimsAt w' b o n D A C :=
 ⟨Nat.lt_of_lt_of_le h.1 hB.size,fun i hi=>(h.2 i hi).later h.1 hB⟩
theorem DimsAt.less {w:World} {b o n m:Nat} {D:Nat→Dm} {A:Nat→Option Addr} {C:Nat→Nat} (h:DimsAt w b o n D A C) (hm:m≤n):DimsAt w b o m D A C:=⟨h.1,fun i hi=>h.2 i (by omega)⟩
def AskD (q:Nat) (w:World) (n:Nat) (D:Nat→Dm) (A:Nat→Option Addr) (C:Nat→Nat) (p:Nat→Bool):Prop := ∀ (i:Nat) (w':World),i<n→Below w.heap.size w w'→Calls Tryz.prog 71 #[dimV (D i) (A i) (C i),.pointer (some ⟨q,0,none⟩)] w' fun e w''=>e=.returned (.bool (p i))∧Below w'.heap.size w' w''
set_option maxHeartbeats 1000000 in
theorem index_dims (q b o n cap:Nat) (D:Nat→Dm) (A:Nat→Option Addr) (C:Nat→Nat) (p:Nat→Bool) (w:World) (hn:n≤4) (hM:DimsAt w b o n D A C) (hp:AskD q w n D A C p) :
  Calls Tryz.prog 98 #[.slice (some ⟨b,o,none⟩) n cap,.func (.func 71) #[] #[.pointer (some ⟨q,0,none⟩)]] w fun e w'=>e=.returned (.int .i64 (findFrom p n 0))∧Below w.heap.size w w':=by
 have HB:Hid (DimsAt w b o n D A C):=hM
 have HP:Hid (AskD q w n D A C p):=hp
 clear hM hp
 go_enter Tryz.func98,Tryz.ntmps98
 go_wp2_with fail
 go_loopg [8] n (fun g s8 wr => ∃ (k:Nat),k≤n∧g=n-k∧s8=.int .i64 k∧findFrom p (n-k) k=findFrom p n 0∧Below w.heap.size w wr)
 case atStart=>exact ⟨0,Nat.zero_le _,rfl,rfl,rfl,Below.refl _ _⟩
 case round =>
  obtain ⟨k,hk,rfl,rfl,hf,hBw⟩:=hrel
  by_cases hlt:k<n
  ·obtain ⟨h0,h1,h2,-⟩:=(HB.out.later hBw).2 k hlt
   have hki:(k:Int)<(n:Int):=by omega
   have HF:Hid (findFrom p (n-k) k=findFrom p n 0):=hf
   have HW:Hid (Below w.heap.size w wr):=hBw
   have hsk:n-k=(n-(k+1))+1:=by omega
   have hbd:=HP.out k wr hlt hBw
   unfold dimV at hbd
   have hs8:(n:Int)≤4:=by omega
   clear hf hBw
   cases hb:p k
   ·rw [hb] at hbd
    have HK:Hid (p k=false):=hb
    clear hb
    go_wp2_with fail
    refine hbd.mono ?_
    rintro e w1 ⟨rfl,hb1⟩
    go_wp2_with fail
    go_roundg (n-(k+1))
    case measure=>omega
    case rel=>exact ⟨k+1,by omega,rfl,by go_num,by rw [←HF.out,hsk,findFrom_miss _ HK.out],onB HW.out hb1⟩
   ·rw [hb] at hbd
    have HK:Hid (p k=true):=hb
    clear hb
    go_wp2_with fail
    refine hbd.mono ?_
    rintro e w1 ⟨rfl,hb1⟩
    go_wp2_with fail
    go_ret
    exact ⟨by rw [←HF.out,hsk,findFrom_hit _ HK.out];rfl,onB HW.out hb1⟩
  ·have hke:k=n:=by omega
   subst hke
   go_wp2_with fail
   go_ret
   exact ⟨by rw [←hf,Nat.sub_self];rfl,hBw⟩
theorem contains_dims (q b o n cap:Nat) (D:Nat→Dm) (A:Nat→Option Addr) (C:Nat→Nat) (p:Nat→Bool) (w:World) (hn:n≤4) (hM:DimsAt w b o n D A C) (hp:AskD q w n D A C p) :
  Calls Tryz.prog 70 #[.slice (some ⟨b,o,none⟩) n cap,.func (.func 71) #[] #[.pointer (some ⟨q,0,none⟩)]] w fun e w'=>e=.returned (.bool (decide (0≤findFrom p n 0)))∧Below w.heap.size w w':=by
 have h:=index_dims q b o n cap D A C p w hn hM hp
 clear hM hp
 go_enter Tryz.func70,Tryz.ntmps70
 go_wp2_with fail
 refine h.mono ?_
 rintro e w1 ⟨rfl,hb1⟩
 go_wp2_with fail
 go_ret
 exact ⟨rfl,hb1⟩
theorem all1_any (d:Dm) (A:Option Addr) (c:Nat) (s:ByteArray) (q:Nat) (w:World) (hq:q<w.heap.size) (h:w.cell? ⟨q,0,none⟩=some (.string s)):Calls Tryz.prog 71 #[dimV d A c,.pointer (some ⟨q,0,none⟩)] w fun e w'=>e=.returned (.bool (same d.name s))∧Below w.heap.size w w':=by
 unfold dimV
 go_enter Tryz.func71,Tryz.ntmps71
 go_wp2_with fail
 go_ret
 exact ⟨by simp [same],by go_grown⟩
theorem prod_small {D:Nat→Dm} {k:Nat} (h:∀ j,j<k→(D j).n≤12) (hk:k≤4):prodN D k≤20736:=by
 refine Nat.le_trans (prodN_le h) ?_
 exact Nat.le_trans (Nat.pow_le_pow_right (by omega) hk) (by decide)
set_option maxHeartbeats 1000000 in
theorem cells_any (b o n cap:Nat) (D:Nat→Dm) (A:Nat→Option Addr) (C:Nat→Nat) (w:World) (hn:n≤4) (hd:∀ j,j<n→(D j).n≤12) (hM:DimsAt w b o n D A C):Calls Tryz.prog 72 #[.agg #[.slice (some ⟨b,o,none⟩) n cap]] w fun e w'=>e=.returned (.int .i64 (prodN D n))∧Below w.heap.size w w':=by
 have HB:Hid (DimsAt w b o n D A C):=hM
 have HD:Hid (∀ j,j<n→(D j).n≤12):=hd
 clear hM hd
 go_enter Tryz.func72,Tryz.ntmps72
 go_wp2_with fail
 go_loopg [3,9] n (fun g s3 s9 wr => ∃ (k:Nat),k≤n∧g=n-k∧s9=.int .i64 k∧s3=.int .i64 (prodN D k)∧Below w.heap.size w wr)
 case atStart=>exact ⟨0,Nat.zero_le _,rfl,rfl,rfl,by go_grown⟩
 case round =>
  obtain ⟨k,hk,rfl,rfl,rfl,hBw⟩:=hrel
  by_cases hlt:k<n
  ·obtain ⟨h0,h1,h2,-⟩:=(HB.out.later hBw).2 k hlt
   have hki:(k:Int)<(n:Int):=by omega
   have hs8:(n:Int)≤4:=by omega
   have hp1:prodN D (k+1)≤20736:=prod_small (fun j hj=>HD.out j (by omega)) (by omega)
   have hp2:(prodN D (k+1):Int)=(prodN D k:Int)*((D k).n:Int):=by rw [prodN];exact Int.natCast_mul _ _
   have hp3:0≤(prodN D k:Int)*((D k).n:Int):=by omega
   have hp4:(prodN D k:Int)*((D k).n:Int)≤20736:=by omega
   have HW:Hid (Below w.heap.size w wr):=hBw
   have HP:Hid ((prodN D (k+1):Int)=(prodN D k:Int)*((D k).n:Int)):=hp2
   clear hBw hp1 hp2
   go_wp2_with fail
   go_roundg (n-(k+1))
   case measure=>omega
   case rel=>exact ⟨k+1,by omega,rfl,by go_num,by rw [HP.out],onB HW.out (by go_grown)⟩
  ·have hke:k=n:=by omega
   subst hke
   go_wp2_with fail
   go_ret
   exact ⟨rfl,hBw⟩
def DimsV (w:World) (A0:Option Addr) (cap n:Nat) (D:Nat→Dm) (A:Nat→Option Addr) (C:Nat→Nat):Prop:=n≤cap∧(n=0∨∃ b o,A0=some ⟨b,o,none⟩∧DimsAt w b o n D A C)
theorem DimsV.later {w w':World} {A0:Option Addr} {cap n:Nat} {D:Nat→Dm} {A:Nat→Option Addr} {C:Nat→Nat} (h:DimsV w A0 cap n D A C) (hB:Below w.heap.size w w'):DimsV w' A0 cap n D A C:=by
 obtain ⟨h1,h2 | ⟨b,o,h2,h3⟩⟩:=h
 ·exact ⟨h1,Or.inl h2⟩
 ·exact ⟨h1,Or.inr ⟨b,o,h2,h3.later hB⟩⟩
theorem al0 {D:Nat→Dm} {n:Nat} (h:4<n):allErr D n=(-1,-1,4):=by unfold allErr;rw [if_pos h]
theorem al1 {D:Nat→Dm} {n:Nat} (h:n=0):allErr D n=(-1,-1,5):=by unfold allErr;rw [if_neg (by omega),if_pos h]
theorem al2 {D:Nat→Dm} {n:Nat} (h : ¬ 4<n) (h1 : ¬ n=0) (h2:(scanD D n 0).2.2≠0):allErr D n=scanD D n 0:=by unfold allErr;rw [if_neg h,if_neg h1,if_pos h2]
theorem al3 {D:Nat→Dm} {n:Nat} (h : ¬ 4<n) (h1 : ¬ n=0) (h2:(scanD D n 0).2.2=0) (h3:3000<prodN D n):allErr D n=(-1,-1,4):=by unfold allErr;rw [if_neg h,if_neg h1,if_neg (by simpa using h2),if_pos h3]
theorem al4 {D:Nat→Dm} {n:Nat} (h : ¬ 4<n) (h1 : ¬ n=0) (h2:(scanD D n 0).2.2=0) (h3 : ¬ 3000<prodN D n):allErr D n=(-1,-1,0):=by unfold allErr;rw [if_neg h,if_neg h1,if_neg (by simpa using h2),if_neg h3]
theorem one0 {D:Nat→Dm} {i:Nat} (h:(dimErr (D i)).2≠0):oneD D i=dimErr (D i):=by unfold oneD;rw [if_pos h]
theorem one1 {D:Nat→Dm} {i:Nat} (h:(dimErr (D i)).2=0) (h1:clashD D i=true):oneD D i=(-1,7):=by unfold oneD;rw [if_neg (by simpa using h),if_pos h1]
theorem one2 {D:Nat→Dm} {i:Nat} (h:(dimErr (D i)).2=0) (h1:clashD D i=false):oneD D i=(-1,0):=by unfold oneD;rw [if_neg (by simpa using h),if_neg (by simp [h1])]
def ownOut (w:World) (A0:Option Addr) (n cap T:Nat):World:=w.alloc (.cells #[.slice A0 n cap] T)
theorem ownOut_at (w:World) (A0:Option Addr) (n cap T:Nat):(ownOut w A0 n cap T).cell? ⟨w.heap.size,0,none⟩=some (.slice A0 n cap):=by unfold ownOut;simp
theorem ownOut_size (w:World) (A0:Option Addr) (n cap T:Nat):(ownOut w A0 n cap T).heap.size=w.heap.size+1:=by unfold ownOut;simp
theorem ownOut_below (w:World) (A0:Option Addr) (n cap T:Nat):Below w.heap.size w (ownOut w A0 n cap T):=by unfold ownOut;go_grown
set_option maxHeartbeats 4000000 in
theorem all_any (A0:Option Addr) (cap n:Nat) (D:Nat→Dm) (A:Nat→Option Addr) (C:Nat→Nat) (w:World) (hM:DimsV w A0 cap n D A C):Calls Tryz.prog 45 #[.agg #[.slice A0 n cap]] w fun e w'=>e=.returned (.tuple #[.int .i64 (allErr D n).1,.int .i64 (allErr D n).2.1,errV (allErr D n).2.2])∧Below w.heap.size w w':=by
 by_cases hn4:4<n
 ·have hn':4<(n:Int):=by omega
  have HR:Hid (allErr D n=(-1,-1,4)):=al0 hn4
  clear hn4 hM
  go_enter Tryz.func45,Tryz.ntmps45
  go_wp2_with fail
  refine bodyPost_ret (v:=.tuple #[.int .i64 (-1),.int .i64 (-1),.iface 75 (.int .i64 4)]) (by simp [results,Tryz.results45,go_sem]) rfl ⟨by rw [HR.out];rfl,?_⟩
  go_grown
 have hn':(n:Int)≤4:=by omega
 by_cases hn0:n=0
 ·have HR:Hid (allErr D n=(-1,-1,5)):=al1 hn0
  have hz:((n:Int) == 0)=true:=by simp [hn0]
  clear hn0 hM hn4
  go_enter Tryz.func45,Tryz.ntmps45
  go_wp2_with fail
  refine bodyPost_ret (v:=.tuple #[.int .i64 (-1),.int .i64 (-1),.iface 75 (.int .i64 5)]) (by simp [results,Tryz.results45,go_sem]) rfl ⟨by rw [HR.out];rfl,?_⟩
  go_grown
 have hz:((n:Int) == 0)=false:=by simp;omega
 obtain ⟨hcap,h0 | ⟨b,o,rfl,hMs⟩⟩:=hM
 ·omega
 have hcap':(n:Int)≤(cap:Int):=by omega
 have hB0:=ownOut_below w (some ⟨b,o,none⟩) n cap 24
 have hS:=ownOut_size w (some ⟨b,o,none⟩) n cap 24
 have hA:=ownOut_at w (some ⟨b,o,none⟩) n cap 24
 obtain ⟨W,hW⟩:∃ W,W=ownOut w (some ⟨b,o,none⟩) n cap 24:=⟨_,rfl⟩
 rw [←hW] at hB0 hS hA
 have HMs:Hid (DimsAt W b o n D A C):=hMs.later hB0
 have hsz:w.heap.size<W.heap.size:=by omega
 clear hMs
 have HW:Hid (W=ownOut w (some ⟨b,o,none⟩) n cap 24):=hW
 have HA:Hid (W.cell? ⟨w.heap.size,0,none⟩=some (.slice (some ⟨b,o,none⟩) n cap)):=hA
 have HB0:Hid (Below w.heap.size w W):=hB0
 clear hW hA hB0 hS
 go_enter Tryz.func45,Tryz.ntmps45
 go_wp2_with fail
 go_loopg [22] n (fun g s22 wr => ∃ (k:Nat),k≤n∧g=n-k∧s22=.int .i64 k∧scanD D (n-k) k=scanD D n 0∧Below W.heap.size W wr)
 case atStart=>exact ⟨0,Nat.zero_le _,rfl,rfl,rfl,by rw [HW.out];exact Below.refl _ _⟩
 case round =>
  obtain ⟨k,hk,rfl,rfl,hsc,hBw⟩:=hrel
  have HBr:Hid (Below W.heap.size W wr):=hBw
  have HF:Hid (scanD D (n-k) k=scanD D n 0):=hsc
  have c0:wr.cell? ⟨w.heap.size,0,none⟩=some (.slice (some ⟨b,o,none⟩) n cap):=(hBw.cell (p:=⟨w.heap.size,0,none⟩) hsz).trans HA.out
  have hMr:=HMs.out.later hBw
  have hszr:w.heap.size<wr.heap.size:=Nat.lt_of_lt_of_le hsz hBw.size
  clear hsc hBw
  by_cases hlt:k<n
  ·obtain ⟨h0,h1,h2,h3⟩:=hMr.2 k hlt
   have hki:(k:Int)<(n:Int):=by omega
   have hsk:n-k=(n-(k+1))+1:=by omega
   have hBo:=ownDim_below wr (D k) (A k) (C k) 30
   have hck:=dcheck_any (D k) (A k) (C k) (ownDim wr (D k) (A k) (C k) 30) (h3.later hBo)
   unfold dimV at hck
   have HMr:Hid (DimsAt wr b o n D A C):=hMr
   clear h3 hMr hBo
   by_cases he:(dimErr (D k)).2=0
   ·obtain ⟨e1,hd1,hd2,-⟩:=dimErr_right he
    rw [he,e1,errV_zero] at hck
    have HE:Hid ((dimErr (D k)).2=0):=he
    clear he e1
    go_wp2_with fail
    refine hck.mono ?_
    rintro e w1 ⟨rfl,hb1⟩
    have hB1:Below wr.heap.size wr w1:=onB (ownDim_below wr (D k) (A k) (C k) 30) hb1
    have hz1:wr.heap.size<w1.heap.size:=by
     have:=hb1.size
     rw [ownDim_size] at this
     omega
    have q0:w1.cell? ⟨wr.heap.size,0,none⟩=some (.string (D k).name):=(hb1.cell (p:=⟨wr.heap.size,0,none⟩) (by show wr.heap.size<_;rw [ownDim_size];omega)).trans (ownDim_at wr (D k) (A k) (C k) 30).1
    have c1:w1.cell? ⟨w.heap.size,0,none⟩=some (.slice (some ⟨b,o,none⟩) n cap):=(hB1.cell (p:=⟨w.heap.size,0,none⟩) hszr).trans c0
    have hM1:=HMr.out.later hB1
    have hcl:=contains_dims wr.heap.size b o k cap D A C (fun j=>same (D j).name (D k).name) w1 (by omega) (hM1.less (by omega)) (fun j w' _ hw'=>all1_any (D j) (A j) (C j) (D k).name wr.heap.size w' (Nat.lt_of_lt_of_le hz1 hw'.size) ((hw'.cell (p:=⟨wr.heap.size,0,none⟩) hz1).trans q0))
    change Calls _ _ _ _ (fun e w'=>e=.returned (.bool (clashD D k))∧_) at hcl
    clear hb1 hck hM1 q0 c0 h0 h1 h2 HMr
    cases hc:clashD D k
    ·rw [hc] at hcl
     have HK:Hid (oneD D k=(-1,0)):=one2 HE.out hc
     clear hc
     go_wp2_with fail
     refine hcl.mono ?_
     rintro e w2 ⟨rfl,hb2⟩
     go_wp2_with fail
     go_roundg (n-(k+1))
     case measure=>omega
     case rel=>exact ⟨k+1,by omega,rfl,by go_num,by rw [←HF.out,hsk,scanD_ok _ (by rw [HK.out])],onB (onB HBr.out hB1) hb2⟩
    ·rw [hc] at hcl
     have HK:Hid (oneD D k=(-1,7)):=one1 HE.out hc
     clear hc
     go_wp2_with fail
     refine hcl.mono ?_
     rintro e w2 ⟨rfl,hb2⟩
     go_wp2_with fail
     have hsb:scanD D n 0=((k:Int),-1,7):=by rw [←HF.out,hsk,scanD_bad _ (by rw [HK.out];decide),HK.out]
     have HR:allErr D n=((k:Int),-1,7):=by rw [al2 (by omega) (by omega) (by rw [hsb];show (7:Int)≠0;decide),hsb]
     refine bodyPost_ret (v:=.tuple #[.int .i64 k,.int .i64 (-1),.iface 75 (.int .i64 7)]) (by simp [results,Tryz.results45,go_sem]) rfl ⟨by rw [HR];rfl,?_⟩
     exact onB HB0.out (onB (onB HBr.out hB1) hb2)
   ·rw [errV_some he] at hck
    have HK:Hid (oneD D k=dimErr (D k)):=one0 he
    have HE:Hid ((dimErr (D k)).2≠0):=he
    clear he
    go_wp2_with fail
    refine hck.mono ?_
    rintro e w1 ⟨rfl,hb1⟩
    have hB1:Below wr.heap.size wr w1:=onB (ownDim_below wr (D k) (A k) (C k) 30) hb1
    clear hb1 hck
    go_wp2_with fail
    have hsb:scanD D n 0=((k:Int),(dimErr (D k)).1,(dimErr (D k)).2):=by rw [←HF.out,hsk,scanD_bad _ (by rw [HK.out];exact HE.out),HK.out]
    have HR:allErr D n=((k:Int),(dimErr (D k)).1,(dimErr (D k)).2):=by rw [al2 (by omega) (by omega) (by rw [hsb];exact HE.out),hsb]
    refine bodyPost_ret (v:=.tuple #[.int .i64 k,.int .i64 (dimErr (D k)).1,.iface 75 (.int .i64 (dimErr (D k)).2)]) (by simp [results,Tryz.results45,go_sem]) rfl ⟨by rw [HR,errV_some HE.out],?_⟩
    exact onB HB0.out (onB HBr.out hB1)
  ·have hke:k=n:=by omega
   subst hke
   have hs0:(scanD D k 0).2.2=0:=by rw [←HF.out,Nat.sub_self];rfl
   have hone:=(scanD_right k 0 hs0).2
   have hcs:=cells_any b o k cap D A C wr (by omega) (fun j hj=>(dimErr_right (oneD_right (hone j (Nat.zero_le _) (by omega)))).2.2.1) hMr
   clear hone hMr
   by_cases hp:3000<prodN D k
   ·have hp':3000<(prodN D k:Int):=by omega
    have HR:Hid (allErr D k=(-1,-1,4)):=al3 (by omega) (by omega) hs0 hp
    clear hs0 hp
    go_wp2_with fail
    refine hcs.mono ?_
    rintro e w2 ⟨rfl,hb2⟩
    go_wp2_with fail
    refine bodyPost_ret (v:=.tuple #[.int .i64 (-1),.int .i64 (-1),.iface 75 (.int .i64 4)]) (by simp [results,Tryz.results45,go_sem]) rfl ⟨by rw [HR.out];rfl,?_⟩
    exact onB HB0.out (onB HBr.out hb2)
   ·have hp':(prodN D k:Int)≤3000:=by omega
    have HR:Hid (allErr D k=(-1,-1,0)):=al4 (by omega) (by omega) hs0 hp
    clear hs0 hp
    go_wp2_with fail
    refine hcs.mono ?_
    rintro e w2 ⟨rfl,hb2⟩
    go_wp2_with fail
    refine bodyPost_ret (v:=.tuple #[.int .i64 (-1),.int .i64 (-1),.nilIface]) (by simp [results,Tryz.results45,go_sem]) rfl ⟨by rw [HR.out];rfl,?_⟩
    exact onB HB0.out (onB HBr.out hb2)
end Go.Proofs.YtnlfpaopfloklaaGreatDoor
