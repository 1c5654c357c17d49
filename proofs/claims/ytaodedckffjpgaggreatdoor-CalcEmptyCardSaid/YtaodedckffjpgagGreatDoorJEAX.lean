/-
  The parts of a member, as Parts of package tree answers, in a row of the call's own.
-/
import Derived.Test.YtaodedckffjpgagGreatDoorJEAW
namespace Go.Proofs.YtaodedckffjpgagGreatDoor
open Go.ChangeShapes Go.WideShapes Go.ChangeAt Go.RowKit
set_option maxRecDepth 20000
theorem own_low {w:World} {b b' e size n:Nat} {v:Value} {xs:List Value} (h:w.ownsRow b e size v n xs) (hb:b'≤b):w.ownsRow b' e size v n xs:=by
 refine ⟨h.1,?_⟩
 rcases h.2 with h0 | ⟨g,cap,cur,h1,h2,h3⟩
 ·exact Or.inl h0
 ·exact Or.inr ⟨g,cap,cur,h1,Nat.le_trans hb h2,h3⟩
set_option maxHeartbeats 2000000 in
theorem places_own (fn q r:Nat) (he:EntersO fn) (A:Option Addr) (n cap:Nat) (p:Nat→Bool) (w:World) (hn:n≤12) (hp:AskP fn q r w n p):Calls Tryz.prog 148 #[.slice A n cap,.func (.func fn) #[] #[.pointer (some ⟨q,0,none⟩),.pointer (some ⟨r,0,none⟩)]] w fun e w'=>(∃ v,e=.returned v∧w'.ownsRow w.heap.size 3 1 v (selTo p n).length (mapI (selTo p n)))∧Below w.heap.size w w':=by
 obtain ⟨i0,hi0,hz0,hz1,hz2⟩:=info_parts Tryz.infoInt
 have HP:Hid (AskP fn q r w n p):=hp
 have hn':(n:Int)≤12:=by omega
 clear hp
 unfold EntersO at he
 go_enter Tryz.func148,Tryz.ntmps148
 go_wp2_with fail
 go_loopg [5,9] n (fun g s5 s9 wr => ∃ (k:Nat),k≤n∧g=n-k∧s9=.int .i64 k∧wr.ownsRow w.heap.size 3 1 s5 (selTo p k).length (mapI (selTo p k))∧Below w.heap.size w wr)
 case atStart=>exact ⟨0,Nat.zero_le _,rfl,rfl,World.ownsRow_nil _ _ _ _,Below.refl _ _⟩
 case round =>
  obtain ⟨k,hk,rfl,rfl,hown,hBw⟩:=hrel
  have HW:Hid (Below w.heap.size w wr):=hBw
  have HO:Hid (wr.ownsRow w.heap.size 3 1 _ (selTo p k).length (mapI (selTo p k))):=hown
  by_cases hlt:k<n
  ·have hki:(k:Int)<(n:Int):=by omega
   have hbd:=HP.out k wr hlt hBw
   clear hBw hown
   cases hb:p k
   ·rw [hb] at hbd
    have HK:Hid (p k=false):=hb
    clear hb
    go_wp2_with fail
    refine hbd.mono ?_
    rintro e w1 ⟨rfl,hb1⟩
    go_wp2_with fail
    go_roundg (n-(k+1))
    case measure=>omega
    case rel=>exact ⟨k+1,by omega,rfl,by go_num,by rw [selTo_miss HK.out];exact own_later HO.out hb1,onB HW.out hb1⟩
   ·rw [hb] at hbd
    have HK:Hid (p k=true):=hb
    have hlen:=selTo_len p k
    clear hb
    go_wp2_with fail
    refine hbd.mono ?_
    rintro e w1 ⟨rfl,hb1⟩
    have hown:=own_later HO.out hb1
    have hB1:=onB HW.out hb1
    have hsz:=hB1.size
    have HB1:Hid (Below w.heap.size w w1):=hB1
    clear hb1 hB1
    go_wp2_with (at_builtin;refine wpList_append_own _ rfl _ _ 38 rfl w.heap.size 3 i0 (.int .i64 0) 1 8 Tryz.underlying38 hi0 hz0 hz1 hz2 rfl (by decide) _ _ _ rfl (hown.alloc _) ⟨w1.heap.size,0,none⟩ 1 1 [.int .i64 k] rfl rfl one_cell one_one (by unfold maxLen;omega) (by omega) (by simp;omega) ?_)
    intro v' w2 hown' hgrow _
    have HB2:Hid (Below w.heap.size w w2):=grown_own HB1.out hown hgrow
    have HO2:Hid (w2.ownsRow w.heap.size 3 1 v' (selTo p (k+1)).length (mapI (selTo p (k+1)))):=by
     show World.ownsRow ..
     rw [selTo_hit HK.out,mapI_snoc,List.length_append];exact hown'
    clear hown' hgrow hown
    go_wp2_with fail
    go_roundg (n-(k+1))
    case measure=>omega
    case rel=>exact ⟨k+1,by omega,rfl,by go_num,HO2.out,HB2.out⟩
  ·have hke:k=n:=by omega
   subst hke
   clear hBw hown
   go_wp2_with fail
   go_ret
   exact ⟨⟨_,rfl,HO.out⟩,HW.out⟩
set_option maxHeartbeats 2000000 in
theorem parts_own (d:Dm) (A:Option Addr) (cap:Nat) (k:Nat) (w:World) (hd:(dimErr d).2=0) (hk:k<d.n) (hM:MemsV w A cap d.n d.mem):Calls Tryz.prog 115 #[dimV d A cap,.int .i64 k] w fun e w'=>(∃ v,e=.returned (.tuple #[v,.nilIface])∧w'.ownsRow w.heap.size 3 1 v (partsOf d.mem d.n k).length (mapI (partsOf d.mem d.n k)))∧Below w.heap.size w w':=by
 have hB0:=ownQ_below w d A cap k 43 3
 have hck:=tcheck_any d A cap _ 1 [(k:Int)] (ownQ w d A cap k 43 3) (hM.later hB0) (by simp) (ownQ_ints ..)
 have HB0:Hid (Below w.heap.size w (ownQ w d A cap k 43 3)):=hB0
 have HM:Hid (MemsV w A cap d.n d.mem):=hM
 unfold dimV at hck ⊢
 simp only [List.length_singleton] at hck
 clear hM hB0
 have he:treeErr d [(k:Int)]=0:=by rw [treeErr_one hd,if_neg (by omega)]
 ·rw [he,errV_zero] at hck
  obtain ⟨-,-,hd2,-⟩:=dimErr_right hd
  clear he hd
  go_enter Tryz.func115,Tryz.ntmps115
  go_wp2_with fail
  refine hck.mono ?_
  rintro e w1 ⟨rfl,hb1⟩
  have hB:Below w.heap.size w w1:=onB HB0.out hb1
  have hz:w.heap.size+1<w1.heap.size:=by have:=hb1.size;rw [ownQ_size] at this;omega
  have h2:w1.cell? ⟨w.heap.size,2,none⟩=some (.slice A d.n cap):=(hb1.cell (p:=⟨w.heap.size,2,none⟩) (by show w.heap.size<_;rw [ownQ_size];omega)).trans (ownQ_dim ..)
  have h3:w1.cell? ⟨w.heap.size+1,0,none⟩=some (.int .i64 k):=(hb1.cell (p:=⟨w.heap.size+1,0,none⟩) (by show w.heap.size+1<_;rw [ownQ_size];omega)).trans (ownQ_int ..)
  obtain ⟨hcap,h0 | ⟨b,o,rfl,hMs⟩⟩:=HM.out.later hB
  ·omega
  have hpl:=places_own 149 w.heap.size (w.heap.size+1) parts1_in (some ⟨b,o,none⟩) d.n cap (partB d.mem k) w1 hd2 (fun j w' hj hw'=>parts1_any b o d.n cap j w.heap.size (w.heap.size+1) d.mem k w' hj hd2 (hMs.later hw') ((hw'.cell (p:=⟨w.heap.size,2,none⟩) (by show w.heap.size<_;omega)).trans h2) ((hw'.cell (p:=⟨w.heap.size+1,0,none⟩) hz).trans h3))
  have HB:Hid (Below w.heap.size w w1):=hB
  clear hb1 hck hMs h3 hB
  go_wp2_with fail
  refine hpl.mono ?_
  rintro e w2 ⟨⟨v2,rfl,hO2⟩,hb2⟩
  have HO2:Hid (w2.ownsRow w1.heap.size 3 1 v2 (selTo (partB d.mem k) d.n).length (mapI (selTo (partB d.mem k) d.n))):=hO2
  have HB2:Hid (Below w.heap.size w w2):=onB HB.out hb2
  clear hO2 hb2 hpl
  go_wp2_with fail
  go_ret2
  exact ⟨⟨v2,rfl,own_low HO2.out HB.out.size⟩,HB2.out⟩
def ownEn (w:World) (A:Option Addr) (m c:Nat) (N:Int) (T:Nat):World:=w.alloc (.cells #[.slice A m c,.int .i64 N] T)
theorem ownEn_size (w:World) (A:Option Addr) (m c:Nat) (N:Int) (T:Nat):(ownEn w A m c N T).heap.size=w.heap.size+1:=by unfold ownEn;simp
theorem ownEn_below (w:World) (A:Option Addr) (m c:Nat) (N:Int) (T:Nat):Below w.heap.size w (ownEn w A m c N T):=by unfold ownEn;go_grown
theorem ownEn_0 (w:World) (A:Option Addr) (m c:Nat) (N:Int) (T:Nat):(ownEn w A m c N T).cell? ⟨w.heap.size,0,none⟩=some (.slice A m c):=by unfold ownEn;simp
theorem ownEn_1 (w:World) (A:Option Addr) (m c:Nat) (N:Int) (T:Nat):(ownEn w A m c N T).cell? ⟨w.heap.size,1,none⟩=some (.int .i64 N):=by unfold ownEn;simp
def ownOE (w:World) (A0:Option Addr) (n cap:Nat) (A:Option Addr) (m c:Nat) (N:Int):World:=ownEn (ownOut w A0 n cap 29) A m c N 46
theorem ownOE_size (w:World) (A0:Option Addr) (n cap:Nat) (A:Option Addr) (m c:Nat) (N:Int):(ownOE w A0 n cap A m c N).heap.size=w.heap.size+2:=by unfold ownOE;rw [ownEn_size,ownOut_size]
theorem ownOE_below (w:World) (A0:Option Addr) (n cap:Nat) (A:Option Addr) (m c:Nat) (N:Int):Below w.heap.size w (ownOE w A0 n cap A m c N):=onB (ownOut_below ..) (ownEn_below ..)
theorem ownOE_1 (w:World) (A0:Option Addr) (n cap:Nat) (A:Option Addr) (m c:Nat) (N:Int):(ownOE w A0 n cap A m c N).cell? ⟨w.heap.size+1,1,none⟩=some (.int .i64 N):=by
 have h:=ownEn_1 (ownOut w A0 n cap 29) A m c N 46
 rw [ownOut_size] at h
 exact h
set_option maxHeartbeats 4000000 in
theorem icheck1_any (A0:Option Addr) (cap n:Nat) (D:Nat→Dm) (A:Nat→Option Addr) (C:Nat→Nat) (Ae:Option Addr) (ce:Nat) (e:En) (w:World) (hR:(allErr D n).2.2=0) (hM:DimsV w A0 cap n D A C) (hP:PlAt w Ae ce e.pl) :
  Calls Tryz.prog 41 #[.agg #[.slice A0 n cap],.agg #[.slice Ae e.pl.length ce,.int .i64 e.n]] w fun r w'=>r=.returned (errV (entOne D n e))∧Below w.heap.size w w':=by
 have hB0:=ownOE_below w A0 n cap Ae e.pl.length ce e.n
 have h:=pleaf_any A0 cap n D A C Ae ce e.pl (ownOE w A0 n cap Ae e.pl.length ce e.n) (hM.later hB0) (hP.later hB0)
 have HB0:Hid (Below w.heap.size w (ownOE w A0 n cap Ae e.pl.length ce e.n)):=hB0
 have HS:Hid (w.heap.size+1<(ownOE w A0 n cap Ae e.pl.length ce e.n).heap.size):=by show _<_;rw [ownOE_size];omega
 have H1:Hid ((ownOE w A0 n cap Ae e.pl.length ce e.n).cell? ⟨w.heap.size+1,1,none⟩=some (.int .i64 e.n)):=ownOE_1 ..
 clear hM hP hB0
 by_cases hp:placeErr D n e.pl=0
 ·by_cases hf:leafV D n e.pl=true
  ·have hv:=one_num hR hp hf
   rw [hp,hf,errV_zero] at h
   clear hp hf
   by_cases hlo:e.n < -1000000
   ·have HV:Hid (errV (entOne D n e)=.iface 66 (.int .i64 1)):=by
     show _=_
     rw [hv,if_pos (by simp [numOk];omega)];rfl
    generalize e.pl.length=m at h HB0 HS H1
    generalize e.n=N at h HB0 HS H1 hlo
    clear hv
    go_enter Tryz.func41,Tryz.ntmps41
    go_wp2_with fail
    refine h.mono ?_
    rintro r w1 ⟨rfl,hb1⟩
    have c1:=(hb1.cell (p:=⟨w.heap.size+1,1,none⟩) HS.out).trans H1.out
    have HB1:Hid (Below w.heap.size w w1):=onB HB0.out hb1
    clear hb1
    go_wp2_with fail
    go_ret
    rw [HV.out]
    exact ⟨rfl,HB1.out⟩
   ·by_cases hhi:1000000<e.n
    ·have HV:Hid (errV (entOne D n e)=.iface 66 (.int .i64 1)):=by
      show _=_
      rw [hv,if_pos (by simp [numOk];omega)];rfl
     generalize e.pl.length=m at h HB0 HS H1
     generalize e.n=N at h HB0 HS H1 hlo hhi
     clear hv
     go_enter Tryz.func41,Tryz.ntmps41
     go_wp2_with fail
     refine h.mono ?_
     rintro r w1 ⟨rfl,hb1⟩
     have c1:=(hb1.cell (p:=⟨w.heap.size+1,1,none⟩) HS.out).trans H1.out
     have HB1:Hid (Below w.heap.size w w1):=onB HB0.out hb1
     clear hb1
     go_wp2_with fail
     go_ret
     rw [HV.out]
     exact ⟨rfl,HB1.out⟩
    ·have HV:Hid (errV (entOne D n e)=.nilIface):=by
      show _=_
      rw [hv,if_neg (by simp [numOk];omega)];rfl
     generalize e.pl.length=m at h HB0 HS H1
     generalize e.n=N at h HB0 HS H1 hlo hhi
     clear hv
     go_enter Tryz.func41,Tryz.ntmps41
     go_wp2_with fail
     refine h.mono ?_
     rintro r w1 ⟨rfl,hb1⟩
     have c1:=(hb1.cell (p:=⟨w.heap.size+1,1,none⟩) HS.out).trans H1.out
     have HB1:Hid (Below w.heap.size w w1):=onB HB0.out hb1
     clear hb1
     go_wp2_with fail
     go_ret
     rw [HV.out]
     exact ⟨rfl,HB1.out⟩
  ·have hf':leafV D n e.pl=false:=by simpa using hf
   have HV:Hid (errV (entOne D n e)=.iface 66 (.int .i64 6)):=by show _=_;rw [one_leaf hR hp hf'];rfl
   rw [hp,hf',errV_zero] at h
   generalize e.pl.length=m at h HB0
   generalize e.n=N at h HB0
   clear hp hf hf' HS H1
   go_enter Tryz.func41,Tryz.ntmps41
   go_wp2_with fail
   refine h.mono ?_
   rintro r w1 ⟨rfl,hb1⟩
   have HB1:Hid (Below w.heap.size w w1):=onB HB0.out hb1
   clear hb1
   go_wp2_with fail
   go_ret
   rw [HV.out]
   exact ⟨rfl,HB1.out⟩
 ·have HV:Hid (errV (entOne D n e)=.iface 66 (.int .i64 (placeErr D n e.pl))):=by show _=_;rw [one_place hR hp,errV_some hp]
  rw [errV_some hp] at h
  generalize placeErr D n e.pl=E at h HV
  generalize leafV D n e.pl=lf at h
  generalize e.pl.length=m at h HB0
  generalize e.n=N at h HB0
  clear hp HS H1
  go_enter Tryz.func41,Tryz.ntmps41
  go_wp2_with fail
  refine h.mono ?_
  rintro r w1 ⟨rfl,hb1⟩
  have HB1:Hid (Below w.heap.size w w1):=onB HB0.out hb1
  clear hb1
  go_wp2_with fail
  go_ret
  rw [HV.out]
  exact ⟨rfl,HB1.out⟩
end Go.Proofs.YtaodedckffjpgagGreatDoor
