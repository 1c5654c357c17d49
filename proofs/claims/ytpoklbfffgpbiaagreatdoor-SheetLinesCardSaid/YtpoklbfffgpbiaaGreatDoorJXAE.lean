/-
  slices.IndexFunc and slices.ContainsFunc over the dims of an outline, and how many cells an outline has.
-/
import Derived.Test.YtpoklbfffgpbiaaGreatDoorJXAD
namespace Go.Proofs.YtpoklbfffgpbiaaGreatDoor
open Go.ChangeShapes Go.WideShapes Go.ChangeAt Go.RowKit
set_option maxRecDepth 20000
def DimAt (w:World) (b o:Nat) (d:Dm) (A:Option Addr) (c:Nat):Prop:=w.cell? ⟨b,o,none⟩=some (.string d.name)∧w.cell? ⟨b,o+1,none⟩=some (.int .i64 d.solve)∧w.cell? ⟨b,o+2,none⟩=some (.slice A d.n c)∧MemsV w A c d.n d.mem
def DimsAt (w:World) (b o n:Nat) (D:Nat→Dm) (A:Nat→Option Addr) (C:Nat→Nat):Prop:=b<w.heap.size∧∀ i,i<n→DimAt w b (o+i*3) (D i) (A i) (C i)
theorem DimAt.later {w w':World} {b o:Nat} {d:Dm} {A:Option Addr} {c:Nat} (h:DimAt w b o d A c) (hb:b<w.heap.size) (hB:Below w.heap.size w w'):DimAt w' b o d A c :=
 ⟨(hB.cell (p:=⟨b,o,none⟩) hb).trans h.1,(hB.cell (p:=⟨b,o+1,none⟩) hb).trans h.2.1,(hB.cell (p:=⟨b,o+2,none⟩) hb).trans h.2.2.1,h.2.2.2.later hB⟩
theorem DimsAt.later {w w':World} {b o n:Nat} {D:Nat→Dm} {A:Nat→Option Addr} {C:Nat→Nat} (h:DimsAt w b o n D A C) (hB:Below w.heap.size w w'):DimsAt w' b o n D A C :=
 ⟨Nat.lt_of_lt_of_le h.1 hB.size,fun i hi=>(h.2 i hi).later h.1 hB⟩
theorem DimsAt.less {w:World} {b o n m:Nat} {D:Nat→Dm} {A:Nat→Option Addr} {C:Nat→Nat} (h:DimsAt w b o n D A C) (hm:m≤n):DimsAt w b o m D A C:=⟨h.1,fun i hi=>h.2 i (by omega)⟩
def AskD (q:Nat) (w:World) (n:Nat) (D:Nat→Dm) (A:Nat→Option Addr) (C:Nat→Nat) (p:Nat→Bool):Prop := ∀ (i:Nat) (w':World),i<n→Below w.heap.size w w'→Calls Tryz.prog 40 #[dimV (D i) (A i) (C i),.pointer (some ⟨q,0,none⟩)] w' fun e w''=>e=.returned (.bool (p i))∧Below w'.heap.size w' w''
set_option maxHeartbeats 1000000 in
theorem index_dims (q b o n cap:Nat) (D:Nat→Dm) (A:Nat→Option Addr) (C:Nat→Nat) (p:Nat→Bool) (w:World) (hn:n≤4) (hM:DimsAt w b o n D A C) (hp:AskD q w n D A C p) :
  Calls Tryz.prog 65 #[.slice (some ⟨b,o,none⟩) n cap,.func (.func 40) #[] #[.pointer (some ⟨q,0,none⟩)]] w fun e w'=>e=.returned (.int .i64 (findFrom p n 0))∧Below w.heap.size w w':=by
 have HB:Hid (DimsAt w b o n D A C):=hM
 have HP:Hid (AskD q w n D A C p):=hp
 clear hM hp
 go_enter Tryz.func65,Tryz.ntmps65
 go_wp2_with fail
 go_loopg [8] n (fun g s8 wr => ∃ (k:Nat),k≤n∧g=n-k∧s8=.int .i64 k∧findFrom p (n-k) k=findFrom p n 0∧Below w.heap.size w wr)
 case atStart=>exact ⟨0,Nat.zero_le _,rfl,rfl,rfl,Below.refl _ _⟩
 case round =>
  obtain ⟨k,hk,rfl,rfl,hf,hBw⟩:=hrel
  by_cases hlt:k<n
  ·obtain ⟨h0,h1,h2,-⟩:=(HB.out.later hBw).2 k hlt
   have hki:(k:Int)<(n:Int):=by omega
   have HF:Hid (findFrom p (n-k) k=findFrom p n 0):=hf
   have HW:Hid (Below w.heap.size w wr):=hBw
   have hsk:n-k=(n-(k+1))+1:=by omega
   have hbd:=HP.out k wr hlt hBw
   unfold dimV at hbd
   have hs8:(n:Int)≤4:=by omega
   clear hf hBw
   cases hb:p k
   ·rw [hb] at hbd
    have HK:Hid (p k=false):=hb
    clear hb
    go_wp2_with fail
    refine hbd.mono ?_
    rintro e w1 ⟨rfl,hb1⟩
    go_wp2_with fail
    go_roundg (n-(k+1))
    case measure=>omega
    case rel=>exact ⟨k+1,by omega,rfl,by go_num,by rw [←HF.out,hsk,findFrom_miss _ HK.out],onB HW.out hb1⟩
   ·rw [hb] at hbd
    have HK:Hid (p k=true):=hb
    clear hb
    go_wp2_with fail
    refine hbd.mono ?_
    rintro e w1 ⟨rfl,hb1⟩
    go_wp2_with fail
    go_ret
    exact ⟨by rw [←HF.out,hsk,findFrom_hit _ HK.out];rfl,onB HW.out hb1⟩
  ·have hke:k=n:=by omega
   subst hke
   go_wp2_with fail
   go_ret
   exact ⟨by rw [←hf,Nat.sub_self];rfl,hBw⟩
theorem contains_dims (q b o n cap:Nat) (D:Nat→Dm) (A:Nat→Option Addr) (C:Nat→Nat) (p:Nat→Bool) (w:World) (hn:n≤4) (hM:DimsAt w b o n D A C) (hp:AskD q w n D A C p) :
  Calls Tryz.prog 39 #[.slice (some ⟨b,o,none⟩) n cap,.func (.func 40) #[] #[.pointer (some ⟨q,0,none⟩)]] w fun e w'=>e=.returned (.bool (decide (0≤findFrom p n 0)))∧Below w.heap.size w w':=by
 have h:=index_dims q b o n cap D A C p w hn hM hp
 clear hM hp
 go_enter Tryz.func39,Tryz.ntmps39
 go_wp2_with fail
 refine h.mono ?_
 rintro e w1 ⟨rfl,hb1⟩
 go_wp2_with fail
 go_ret
 exact ⟨rfl,hb1⟩
theorem all1_any (d:Dm) (A:Option Addr) (c:Nat) (s:ByteArray) (q:Nat) (w:World) (hq:q<w.heap.size) (h:w.cell? ⟨q,0,none⟩=some (.string s)):Calls Tryz.prog 40 #[dimV d A c,.pointer (some ⟨q,0,none⟩)] w fun e w'=>e=.returned (.bool (same d.name s))∧Below w.heap.size w w':=by
 unfold dimV
 go_enter Tryz.func40,Tryz.ntmps40
 go_wp2_with fail
 go_ret
 exact ⟨by simp [same],by go_grown⟩
theorem prod_small {D:Nat→Dm} {k:Nat} (h:∀ j,j<k→(D j).n≤12) (hk:k≤4):prodN D k≤20736:=by
 refine Nat.le_trans (prodN_le h) ?_
 exact Nat.le_trans (Nat.pow_le_pow_right (by omega) hk) (by decide)
set_option maxHeartbeats 1000000 in
theorem cells_any (b o n cap:Nat) (D:Nat→Dm) (A:Nat→Option Addr) (C:Nat→Nat) (w:World) (hn:n≤4) (hd:∀ j,j<n→(D j).n≤12) (hM:DimsAt w b o n D A C):Calls Tryz.prog 41 #[.agg #[.slice (some ⟨b,o,none⟩) n cap]] w fun e w'=>e=.returned (.int .i64 (prodN D n))∧Below w.heap.size w w':=by
 have HB:Hid (DimsAt w b o n D A C):=hM
 have HD:Hid (∀ j,j<n→(D j).n≤12):=hd
 clear hM hd
 go_enter Tryz.func41,Tryz.ntmps41
 go_wp2_with fail
 go_loopg [3,9] n (fun g s3 s9 wr => ∃ (k:Nat),k≤n∧g=n-k∧s9=.int .i64 k∧s3=.int .i64 (prodN D k)∧Below w.heap.size w wr)
 case atStart=>exact ⟨0,Nat.zero_le _,rfl,rfl,rfl,by go_grown⟩
 case round =>
  obtain ⟨k,hk,rfl,rfl,rfl,hBw⟩:=hrel
  by_cases hlt:k<n
  ·obtain ⟨h0,h1,h2,-⟩:=(HB.out.later hBw).2 k hlt
   have hki:(k:Int)<(n:Int):=by omega
   have hs8:(n:Int)≤4:=by omega
   have hp1:prodN D (k+1)≤20736:=prod_small (fun j hj=>HD.out j (by omega)) (by omega)
   have hp2:(prodN D (k+1):Int)=(prodN D k:Int)*((D k).n:Int):=by rw [prodN];exact Int.natCast_mul _ _
   have hp3:0≤(prodN D k:Int)*((D k).n:Int):=by omega
   have hp4:(prodN D k:Int)*((D k).n:Int)≤20736:=by omega
   have HW:Hid (Below w.heap.size w wr):=hBw
   have HP:Hid ((prodN D (k+1):Int)=(prodN D k:Int)*((D k).n:Int)):=hp2
   clear hBw hp1 hp2
   go_wp2_with fail
   go_roundg (n-(k+1))
   case measure=>omega
   case rel=>exact ⟨k+1,by omega,rfl,by go_num,by rw [HP.out],onB HW.out (by go_grown)⟩
  ·have hke:k=n:=by omega
   subst hke
   go_wp2_with fail
   go_ret
   exact ⟨rfl,hBw⟩
end Go.Proofs.YtpoklbfffgpbiaaGreatDoor
