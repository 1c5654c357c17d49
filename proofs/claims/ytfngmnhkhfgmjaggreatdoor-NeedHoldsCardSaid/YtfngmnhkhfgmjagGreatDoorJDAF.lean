/-
  slices.IndexFunc and slices.ContainsFunc over the dims of an outline, and how many cells an outline has.
-/
import Derived.Test.YtfngmnhkhfgmjagGreatDoorJDAB
import Derived.Test.YtfngmnhkhfgmjagGreatDoorJDAE
namespace Go.Proofs.YtfngmnhkhfgmjagGreatDoor
open Go.ChangeShapes Go.WideShapes Go.ChangeAt Go.RowKit
set_option maxRecDepth 20000
def DimAt (w:World) (b o:Nat) (d:Dm) (A:Option Addr) (c:Nat):Prop:=w.cell? ⟨b,o,none⟩=some (.string d.name)∧w.cell? ⟨b,o+1,none⟩=some (.int .i64 d.solve)∧w.cell? ⟨b,o+2,none⟩=some (.slice A d.n c)∧MemsV w A c d.n d.mem
def DimsAt (w:World) (b o n:Nat) (D:Nat→Dm) (A:Nat→Option Addr) (C:Nat→Nat):Prop:=b<w.heap.size∧∀ i,i<n→DimAt w b (o+i*3) (D i) (A i) (C i)
theorem DimAt.later {w w':World} {b o:Nat} {d:Dm} {A:Option Addr} {c:Nat} (h:DimAt w b o d A c) (hb:b<w.heap.size) (hB:Below w.heap.size w w'):DimAt w' b o d A c :=
 ⟨(hB.cell (p:=⟨b,o,none⟩) hb).trans h.1,(hB.cell (p:=⟨b,o+1,none⟩) hb).trans h.2.1,(hB.cell (p:=⟨b,o+2,none⟩) hb).trans h.2.2.1,h.2.2.2.later hB⟩
theorem DimsAt.later {w w':World} {b o n:Nat} {D:Nat→Dm} {A:Nat→Option Addr} {C:Nat→Nat} (h:DimsAt w b o n D A C) (hB:Below w.heap.size w w'):DimsAt w' b o n D A C :=
 ⟨Nat.lt_of_lt_of_le h.1 hB.size,fun i hi=>(h.2 i hi).later h.1 hB⟩
theorem DimsAt.less {w:World} {b o n m:Nat} {D:Nat→Dm} {A:Nat→Option Addr} {C:Nat→Nat} (h:DimsAt w b o n D A C) (hm:m≤n):DimsAt w b o m D A C:=⟨h.1,fun i hi=>h.2 i (by omega)⟩
def AskD (q:Nat) (w:World) (n:Nat) (D:Nat→Dm) (A:Nat→Option Addr) (C:Nat→Nat) (p:Nat→Bool):Prop := ∀ (i:Nat) (w':World),i<n→Below w.heap.size w w'→Calls Tryz.prog 128 #[dimV (D i) (A i) (C i),.pointer (some ⟨q,0,none⟩)] w' fun e w''=>e=.returned (.bool (p i))∧Below w'.heap.size w' w''
set_option maxHeartbeats 1000000 in
theorem index_dims (q b o n cap:Nat) (D:Nat→Dm) (A:Nat→Option Addr) (C:Nat→Nat) (p:Nat→Bool) (w:World) (hn:n≤4) (hM:DimsAt w b o n D A C) (hp:AskD q w n D A C p) :
  Calls Tryz.prog 167 #[.slice (some ⟨b,o,none⟩) n cap,.func (.func 128) #[] #[.pointer (some ⟨q,0,none⟩)]] w fun e w'=>e=.returned (.int .i64 (findFrom p n 0))∧Below w.heap.size w w':=by
 have HB:Hid (DimsAt w b o n D A C):=hM
 have HP:Hid (AskD q w n D A C p):=hp
 clear hM hp
 go_enter Tryz.func167,Tryz.ntmps167
 go_wp2_with fail
 go_loopg [8] n (fun g s8 wr => ∃ (k:Nat),k≤n∧g=n-k∧s8=.int .i64 k∧findFrom p (n-k) k=findFrom p n 0∧Below w.heap.size w wr)
 case atStart=>exact ⟨0,Nat.zero_le _,rfl,rfl,rfl,Below.refl _ _⟩
 case round =>
  obtain ⟨k,hk,rfl,rfl,hf,hBw⟩:=hrel
  by_cases hlt:k<n
  ·obtain ⟨h0,h1,h2,-⟩:=(HB.out.later hBw).2 k hlt
   have hki:(k:Int)<(n:Int):=by omega
   have HF:Hid (findFrom p (n-k) k=findFrom p n 0):=hf
   have HW:Hid (Below w.heap.size w wr):=hBw
   have hsk:n-k=(n-(k+1))+1:=by omega
   have hbd:=HP.out k wr hlt hBw
   unfold dimV at hbd
   have hs8:(n:Int)≤4:=by omega
   clear hf hBw
   cases hb:p k
   ·rw [hb] at hbd
    have HK:Hid (p k=false):=hb
    clear hb
    go_wp2_with fail
    refine hbd.mono ?_
    rintro e w1 ⟨rfl,hb1⟩
    go_wp2_with fail
    go_roundg (n-(k+1))
    case measure=>omega
    case rel=>exact ⟨k+1,by omega,rfl,by go_num,by rw [←HF.out,hsk,findFrom_miss _ HK.out],onB HW.out hb1⟩
   ·rw [hb] at hbd
    have HK:Hid (p k=true):=hb
    clear hb
    go_wp2_with fail
    refine hbd.mono ?_
    rintro e w1 ⟨rfl,hb1⟩
    go_wp2_with fail
    go_ret
    exact ⟨by rw [←HF.out,hsk,findFrom_hit _ HK.out];rfl,onB HW.out hb1⟩
  ·have hke:k=n:=by omega
   subst hke
   go_wp2_with fail
   go_ret
   exact ⟨by rw [←hf,Nat.sub_self];rfl,hBw⟩
theorem contains_dims (q b o n cap:Nat) (D:Nat→Dm) (A:Nat→Option Addr) (C:Nat→Nat) (p:Nat→Bool) (w:World) (hn:n≤4) (hM:DimsAt w b o n D A C) (hp:AskD q w n D A C p) :
  Calls Tryz.prog 127 #[.slice (some ⟨b,o,none⟩) n cap,.func (.func 128) #[] #[.pointer (some ⟨q,0,none⟩)]] w fun e w'=>e=.returned (.bool (decide (0≤findFrom p n 0)))∧Below w.heap.size w w':=by
 have h:=index_dims q b o n cap D A C p w hn hM hp
 clear hM hp
 go_enter Tryz.func127,Tryz.ntmps127
 go_wp2_with fail
 refine h.mono ?_
 rintro e w1 ⟨rfl,hb1⟩
 go_wp2_with fail
 go_ret
 exact ⟨rfl,hb1⟩
theorem all1_any (d:Dm) (A:Option Addr) (c:Nat) (s:ByteArray) (q:Nat) (w:World) (hq:q<w.heap.size) (h:w.cell? ⟨q,0,none⟩=some (.string s)):Calls Tryz.prog 128 #[dimV d A c,.pointer (some ⟨q,0,none⟩)] w fun e w'=>e=.returned (.bool (same d.name s))∧Below w.heap.size w w':=by
 unfold dimV
 go_enter Tryz.func128,Tryz.ntmps128
 go_wp2_with fail
 go_ret
 exact ⟨by simp [same],by go_grown⟩
theorem prod_small {D:Nat→Dm} {k:Nat} (h:∀ j,j<k→(D j).n≤12) (hk:k≤4):prodN D k≤20736:=by
 refine Nat.le_trans (prodN_le h) ?_
 exact Nat.le_trans (Nat.pow_le_pow_right (by omega) hk) (by decide)
set_option maxHeartbeats 1000000 in
theorem cells_any (b o n cap:Nat) (D:Nat→Dm) (A:Nat→Option Addr) (C:Nat→Nat) (w:World) (hn:n≤4) (hd:∀ j,j<n→(D j).n≤12) (hM:DimsAt w b o n D A C):Calls Tryz.prog 129 #[.agg #[.slice (some ⟨b,o,none⟩) n cap]] w fun e w'=>e=.returned (.int .i64 (prodN D n))∧Below w.heap.size w w':=by
 have HB:Hid (DimsAt w b o n D A C):=hM
 have HD:Hid (∀ j,j<n→(D j).n≤12):=hd
 clear hM hd
 go_enter Tryz.func129,Tryz.ntmps129
 go_wp2_with fail
 go_loopg [3,9] n (fun g s3 s9 wr => ∃ (k:Nat),k≤n∧g=n-k∧s9=.int .i64 k∧s3=.int .i64 (prodN D k)∧Below w.heap.size w wr)
 case atStart=>exact ⟨0,Nat.zero_le _,rfl,rfl,rfl,by go_grown⟩
 case round =>
  obtain ⟨k,hk,rfl,rfl,rfl,hBw⟩:=hrel
  by_cases hlt:k<n
  ·obtain ⟨h0,h1,h2,-⟩:=(HB.out.later hBw).2 k hlt
   have hki:(k:Int)<(n:Int):=by omega
   have hs8:(n:Int)≤4:=by omega
   have hp1:prodN D (k+1)≤20736:=prod_small (fun j hj=>HD.out j (by omega)) (by omega)
   have hp2:(prodN D (k+1):Int)=(prodN D k:Int)*((D k).n:Int):=by rw [prodN];exact Int.natCast_mul _ _
   have hp3:0≤(prodN D k:Int)*((D k).n:Int):=by omega
   have hp4:(prodN D k:Int)*((D k).n:Int)≤20736:=by omega
   have HW:Hid (Below w.heap.size w wr):=hBw
   have HP:Hid ((prodN D (k+1):Int)=(prodN D k:Int)*((D k).n:Int)):=hp2
   clear hBw hp1 hp2
   go_wp2_with fail
   go_roundg (n-(k+1))
   case measure=>omega
   case rel=>exact ⟨k+1,by omega,rfl,by go_num,by rw [HP.out],onB HW.out (by go_grown)⟩
  ·have hke:k=n:=by omega
   subst hke
   go_wp2_with fail
   go_ret
   exact ⟨rfl,hBw⟩
end Go.Proofs.YtfngmnhkhfgmjagGreatDoor
namespace Go.Proofs.YtfngmnhkhfgmjagGreatDoor
open Go.ChangeShapes Go.WideShapes Go.ChangeAt Go.RowKit
def Makes (fn:Nat) (x y:Int) (r:Int×Int):Prop := ∀ (w:World),Calls Tryz.prog fn #[.int .i64 x,.int .i64 y] w fun e w'=>e=.returned (.agg #[.int .i64 r.1,.int .i64 r.2])∧Below w.heap.size w w'
theorem bsize {W w1:World} {n:Nat} (hb:Below n W w1):W.heap.size≤w1.heap.size:=hb.size
theorem plus_any (x y:Int) (hx1 : -1000000000000≤x) (hx2:x≤1000000000000) (hy1 : -1000000000000≤y) (hy2:y≤1000000000000):Makes 194 x y (ofP (x+y)):=by
 intro w
 go_enter Tryz.func194,Tryz.ntmps194
 go_wp2_with (go_at_call 12;refine (of_any _ _).mono ?_;rintro e w1 ⟨rfl,hb⟩;obtain ⟨hc,hf⟩:=bcell hb;have hz:=bsize hb;simp at hz)
 refine bodyPost_ret (v:=.agg #[.int .i64 (ofP (x+y)).1,.int .i64 (ofP (x+y)).2]) (by simp [results,Tryz.results194,go_sem,hc]) rfl ⟨rfl,?_⟩
 exact (((((Below.refl _ _).alloc (Nat.le_refl _) _).trans (hb.mono (by simp))).setCell (by simp) _).setCell (by simp) _)
theorem minus_any (x y:Int) (hx1 : -1000000000000≤x) (hx2:x≤1000000000000) (hy1 : -1000000000000≤y) (hy2:y≤1000000000000):Makes 193 x y (ofP (x-y)):=by
 intro w
 go_enter Tryz.func193,Tryz.ntmps193
 go_wp2_with (go_at_call 12;refine (of_any _ _).mono ?_;rintro e w1 ⟨rfl,hb⟩;obtain ⟨hc,hf⟩:=bcell hb;have hz:=bsize hb;simp at hz)
 refine bodyPost_ret (v:=.agg #[.int .i64 (ofP (x-y)).1,.int .i64 (ofP (x-y)).2]) (by simp [results,Tryz.results193,go_sem,hc]) rfl ⟨rfl,?_⟩
 exact (((((Below.refl _ _).alloc (Nat.le_refl _) _).trans (hb.mono (by simp))).setCell (by simp) _).setCell (by simp) _)
def ab (n:Int):Int:=if n<0 then -n else n
theorem ab_mul (x y:Int):ab (x*y)=ab x*ab y:=by
 unfold ab
 by_cases hx:x<0 <;> by_cases hy:y<0
 ·rw [if_neg (Int.not_lt.mpr (Int.le_of_lt (Int.mul_pos_of_neg_of_neg hx hy))),if_pos hx,if_pos hy,Int.neg_mul_neg]
 ·by_cases h0:y=0
  ·subst h0;simp
  ·rw [if_pos (Int.mul_neg_of_neg_of_pos hx (by omega)),if_pos hx,if_neg hy,Int.neg_mul]
 ·by_cases h0:x=0
  ·subst h0;simp
  ·rw [if_pos (Int.mul_neg_of_pos_of_neg (by omega) hy),if_neg hx,if_pos hy,Int.mul_neg]
 ·rw [if_neg (Int.not_lt.mpr (Int.mul_nonneg (by omega) (by omega))),if_neg hx,if_neg hy]
theorem ab_bd {n m:Int} (h:ab n≤m) : -m≤n∧n≤m:=by unfold ab at h;split at h <;> omega
theorem ab_out {n m:Int} (h:m<ab n):n < -m∨m<n:=by unfold ab at h;split at h <;> omega
theorem ab_in {n m:Int} (h1 : -m≤n) (h2:n≤m):0≤ab n∧ab n≤m:=by unfold ab;split <;> omega
theorem ab_pos {n:Int} (h : ¬ n=0):1≤ab n:=by unfold ab;split <;> omega
theorem size_any (n:Int) (w:World) (h1 : -1000000000000≤n) (h2:n≤1000000000000):Calls Tryz.prog 270 #[.int .i64 n] w fun e w'=>e=.returned (.int .i64 (ab n))∧w'=w:=by
 unfold ab
 by_cases h:n<0
 ·rw [if_pos h]
  go_enter Tryz.func270,Tryz.ntmps270
  go_wp2
  go_ret
  exact ⟨by first | rfl | (show Ending.returned (Value.int .i64 (max n (-n)))=_;congr 2;omega) | (congr 2;omega),rfl⟩
 ·rw [if_neg h]
  go_enter Tryz.func270,Tryz.ntmps270
  go_wp2
  go_ret
  exact ⟨by first | rfl | (show Ending.returned (Value.int .i64 (max n (-n)))=_;congr 2;omega) | (congr 2;omega),rfl⟩
def quoP (x y:Int):Int×Int:=if y=0 then (2,0) else ofP (x.tdiv y)
theorem tdiv_bd (x y:Int):ab (x.tdiv y)≤ab x:=by
 have h:=Int.natAbs_tdiv_le_natAbs x y
 unfold ab
 split <;> split <;> omega
theorem quo_wrap (x y:Int) (hy : ¬ y=0):Makes 250 x y (ofP (wrap64 (x.tdiv y))):=by
 intro w
 have hy0:(y == 0)=false:=by simp;omega
 go_enter Tryz.func250,Tryz.ntmps250
 go_wp2_with (go_at_call 12;refine (of_any _ _).mono ?_;rintro e w1 ⟨rfl,hb⟩;obtain ⟨hc,hf⟩:=bcell hb;have hz:=bsize hb;simp at hz)
 refine bodyPost_ret (v:=.agg #[.int .i64 (ofP (wrap64 (x.tdiv y))).1,.int .i64 (ofP (wrap64 (x.tdiv y))).2]) (by simp [results,Tryz.results250,go_sem,hc]) rfl ⟨rfl,?_⟩
 exact (((((Below.refl _ _).alloc (Nat.le_refl _) _).trans (hb.mono (by simp))).setCell (by simp) _).setCell (by simp) _)
theorem quotient_any (x y:Int) (hx1 : -1000000000000≤x) (hx2:x≤1000000000000):Makes 250 x y (quoP x y):=by
 unfold quoP
 by_cases hy:y=0
 ·subst hy
  rw [if_pos rfl]
  intro w
  go_enter Tryz.func250,Tryz.ntmps250
  go_wp2
  go_returns
  exact ⟨rfl,by go_grown⟩
 ·rw [if_neg hy]
  have hq:=quo_wrap x y hy
  have hb:=ab_bd (Int.le_trans (tdiv_bd x y) (ab_in hx1 hx2).2)
  have hw:wrap64 (x.tdiv y)=x.tdiv y:=by unfold wrap64;omega
  rw [hw] at hq
  exact hq
theorem product_any (x y:Int) (hx1 : -1000000000000≤x) (hx2:x≤1000000000000) (hy1 : -1000000000000≤y) (hy2:y≤1000000000000):Makes 249 x y (ofP (x*y)):=by
 intro w
 by_cases hy:y=0
 ·subst hy
  have hb0:ofP (x*0)=(1,0):=by rw [Int.mul_zero];exact ofP_in (by omega) (by omega)
  rw [hb0]
  have ho:=of_any 0
  rw [ofP_in (by omega) (by omega)] at ho
  go_enter Tryz.func249,Tryz.ntmps249
  go_wp2_with (go_at_call 12;refine (ho _).mono ?_;rintro e w1 ⟨rfl,hb⟩;obtain ⟨hc,hf⟩:=bcell hb;have hz:=bsize hb;simp at hz)
  refine bodyPost_ret (v:=.agg #[.int .i64 1,.int .i64 0]) (by simp [results,Tryz.results249,go_sem,hc]) rfl ⟨rfl,?_⟩
  exact (((((Below.refl _ _).alloc (Nat.le_refl _) _).trans (hb.mono (by simp))).setCell (by simp) _).setCell (by simp) _)
 ·have hy0:(y != 0)=true:=by simp;omega
  obtain ⟨ax0,ax1⟩:=ab_in hx1 hx2
  obtain ⟨_,ay1⟩:=ab_in hy1 hy2
  have ay0:=ab_pos hy
  have hsx:=size_any x
  have hsy:=size_any y
  by_cases hg:1000000000000 / ab y<ab x
  ·have hout:ofP (x*y)=(2,0):=by
    refine ofP_out (ab_out (m:=1000000000000) ?_)
    rw [ab_mul]
    exact (Int.ediv_lt_iff_lt_mul (by omega)).mp hg
   rw [hout]
   go_enter Tryz.func249,Tryz.ntmps249
   go_wp2_with fail
   refine (hsx _ hx1 hx2).mono ?_
   rintro e w1 ⟨rfl,rfl⟩
   go_wp2_with fail
   refine (hsy _ hy1 hy2).mono ?_
   rintro e w1 ⟨rfl,rfl⟩
   go_wp2
   go_returns
   exact ⟨rfl,by go_grown⟩
  ·have hin:ab (x*y)≤1000000000000:=by
    rw [ab_mul]
    exact Int.not_lt.mp (fun h=>hg ((Int.ediv_lt_iff_lt_mul (by omega)).mpr h))
   obtain ⟨hp1,hp2⟩:=ab_bd hin
   have ho:=of_any (x*y)
   clear hin
   go_enter Tryz.func249,Tryz.ntmps249
   go_wp2_with fail
   refine (hsx _ hx1 hx2).mono ?_
   rintro e w1 ⟨rfl,rfl⟩
   go_wp2_with fail
   refine (hsy _ hy1 hy2).mono ?_
   rintro e w1 ⟨rfl,rfl⟩
   go_wp2_with fail
   refine (ho _).mono ?_
   rintro e w1 ⟨rfl,hb⟩
   obtain ⟨hc,hf⟩:=bcell hb
   have hz:=bsize hb
   simp at hz
   go_wp2_with fail
   refine bodyPost_ret (v:=.agg #[.int .i64 (ofP (x*y)).1,.int .i64 (ofP (x*y)).2]) (by simp [results,Tryz.results249,go_sem,hc]) rfl ⟨rfl,?_⟩
   exact (((((Below.refl _ _).alloc (Nat.le_refl _) _).trans (hb.mono (by simp))).setCell (by simp) _).setCell (by simp) _)
end Go.Proofs.YtfngmnhkhfgmjagGreatDoor
