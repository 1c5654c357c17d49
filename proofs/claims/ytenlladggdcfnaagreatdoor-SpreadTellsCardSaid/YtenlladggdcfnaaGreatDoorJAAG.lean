/-
  slices.swapRangeCmpFunc, rotateCmpFunc at ints: a row of numbers that stand for elements of some type.
-/
import Derived.Shelf.SlSortCmp.Kit1
import Derived.Sort.WalkB2
import Derived.Sort.WalkB12
import Derived.Deep.RegionHeld3
import Derived.Deep.OwnRows
import Derived.Lib.Builder
import Derived.Test.YtenlladggdcfnaaGreatDoorJAAF
namespace Go.Proofs.YtenlladggdcfnaaGreatDoor
open Go Go.ChangeShapes Go.WideShapes Go.ChangeAt Go.RowKit Go.Shelf Go.Lib Go.Sort
set_option linter.unusedSectionVars false
set_option maxRecDepth 100000
variable {α:Type} [Inhabited α]
def encI (ix:α→Nat) (x:α):Value:=.int .i64 ((ix x:Nat):Int)
theorem swr_go (a b n:Nat) (d:Array α) (h:0<n):swr a b n d=swr (a+1) (b+1) (n-1) (swp d a b):=by
 obtain ⟨m,rfl⟩:∃ m,n=m+1:=⟨n-1,by omega⟩
 rfl
set_option maxHeartbeats 8000000 in
theorem swaprange_any (ix:α→Nat) (cf:Value) (blk off cap a b n:Nat) (d0 d:Array α) (w0 w:World) (R:Row1 (encI ix) w0 blk off d0) (hs:d0.size=d.size) (S:SW (encI ix) w0 blk off d w)
  (hab:a+n≤b) (hb:b+n≤d.size) (hsz:d.size≤1000) :
  Calls Tryz.prog 128 #[.slice (some ⟨blk,off,none⟩) d.size cap,.int .i64 a,.int .i64 b,.int .i64 n,cf] w fun e w'=>e=.returned (.tuple #[])∧SW (encI ix) w0 blk off (swr a b n d) w':=by
 have mixed:Tryz.prog.follows .mixedOrders=true:=by kernel_rfl
 have S0:Aside (SW (encI ix) w0 blk off d w):=S
 clear S
 go_enter Tryz.func128,Tryz.ntmps128
 go_wp2
 go_loopg [10] n (fun gg s10 wr => ∃ (i:Nat) (dk:Array α),s10=.int .i64 i∧i≤n∧gg=n-i∧dk.size=d.size∧Aside (SW (encI ix) w0 blk off dk wr)∧Hid (swr (a+i) (b+i) (n-i) dk=swr a b n d))
 case atStart=>exact ⟨0,d,rfl,Nat.zero_le _,rfl,rfl,S0,rfl⟩
 case round =>
  clear S0
  obtain ⟨i,dk,rfl,hin,rfl,hds,S1,HE⟩:=hrel
  by_cases hlt:i<n
  ·have hltz:(i:Int)<(n:Int):=by omega
   go_wp2_with fail
   have r1:IntKind.i64.wrap ((a:Int)+(i:Int))=((a:Int)+(i:Int)):=by rw [IntKind.wrap_i64];omega
   have r2:IntKind.i64.wrap ((b:Int)+(i:Int))=((b:Int)+(i:Int)):=by rw [IntKind.wrap_i64];omega
   have b1:((a:Int)+(i:Int))<(d.size:Int):=by omega
   have b2:((b:Int)+(i:Int))<(d.size:Int):=by omega
   obtain ⟨x,hx⟩:∃ x,x=ix dk[(a+i)]! := ⟨_,rfl⟩
   obtain ⟨y,hy⟩:∃ x,x=ix dk[(b+i)]! := ⟨_,rfl⟩
   have S2:Aside (SW (encI ix) w0 blk off (swp dk (a+i) (b+i)) ((wr.setCell ⟨blk,off+(a+i),none⟩ (.int .i64 (y:Int))).setCell ⟨blk,off+(b+i),none⟩ (.int .i64 (x:Int))).drew):=by rw [hx,hy];exact S1.out.swapped R (a+i) (b+i) (by omega) (by omega)
   have c1:wr.cell? ⟨blk,off+(a+i),none⟩=some (.int .i64 (x:Int)):=by rw [hx];exact S1.out.c1 R (by omega) (a+i) (by omega)
   have c2:wr.cell? ⟨blk,off+(b+i),none⟩=some (.int .i64 (y:Int)):=by rw [hy];exact S1.out.c1 R (by omega) (b+i) (by omega)
   have f1:=S1.out.f1 R (by omega) (a+i) (by omega)
   have f2:=S1.out.f1 R (by omega) (b+i) (by omega)
   obtain ⟨u,c3⟩:=S1.out.c2 R (by omega) (a+i) (b+i) (by omega) (by omega) (.int .i64 (y:Int))
   have HE2:Hid (swr (a+(i+1)) (b+(i+1)) (n-(i+1)) (swp dk (a+i) (b+i))=swr a b n d):=by
    have:=HE.out
    rw [swr_go _ _ _ _ (by omega)] at this
    rw [←this];congr 1
   have HSZ:Hid ((swp dk (a+i) (b+i)).size=d.size):=by show _=_;rw [size_swp];exact hds
   clear S1 hx hy HE hds
   go_wp2_with fail
   go_big_region_o
   clear c1 c2 c3 f1 f2
   generalize ((wr.setCell ⟨blk,off+(a+i),none⟩ (.int .i64 (y:Int))).setCell ⟨blk,off+(b+i),none⟩ (.int .i64 (x:Int))).drew=w2 at S2 ⊢
   go_wp2
   go_roundg (n-(i+1))
   case measure=>omega
   case rel=>exact ⟨i+1,swp dk (a+i) (b+i),by go_num,by omega,rfl,HSZ.out,S2,HE2⟩
  ·have hie:i=n:=by omega
   subst hie
   go_wp2
   go_end0
   refine ⟨rfl,?_⟩
   have:=HE.out
   rw [Nat.sub_self] at this
   rw [←this];exact S1.out
set_option maxHeartbeats 8000000 in
theorem rotate_any (ix:α→Nat) (cf:Value) (blk off cap a m b:Nat) (d0 d:Array α) (w0 w:World) (R:Row1 (encI ix) w0 blk off d0) (hs:d0.size=d.size) (S:SW (encI ix) w0 blk off d w)
  (h1:a<m) (h2:m<b) (hb:b≤d.size) (hsz:d.size≤1000) :
  Calls Tryz.prog 106 #[.slice (some ⟨blk,off,none⟩) d.size cap,.int .i64 a,.int .i64 m,.int .i64 b,cf] w fun e w'=>e=.returned (.tuple #[])∧∃ d',Rot a m b d d'∧SW (encI ix) w0 blk off d' w':=by
 have mixed:Tryz.prog.follows .mixedOrders=true:=by kernel_rfl
 have HSR:∀ (a b n:Nat) (dk:Array α) (w':World),dk.size=d.size→a+n≤b→b+n≤d.size→Aside (SW (encI ix) w0 blk off dk w') →
   Calls Tryz.prog 128 #[.slice (some ⟨blk,off,none⟩) d.size cap,.int .i64 a,.int .i64 b,.int .i64 n,cf] w' fun e w'=>e=.returned (.tuple #[])∧SW (encI ix) w0 blk off (swr a b n dk) w':=fun a b n dk w' e h1 h2 h3=>by
  have:=swaprange_any ix cf blk off cap a b n d0 dk w0 w' R (by omega) h3 h1 (by omega) (by omega)
  rwa [e] at this
 have S0:Aside (SW (encI ix) w0 blk off d w):=S
 clear S
 go_enter Tryz.func106,Tryz.ntmps106
 go_wp2
 go_loopg [10,11] (b-a) (fun gg s5 s6 wr => ∃ (i j:Nat) (dk:Array α),s5=.int .i64 i∧s6=.int .i64 j∧0<i∧0<j∧a+i≤m∧m+j≤b∧i+j≤gg∧dk.size=d.size∧Aside (SW (encI ix) w0 blk off dk wr)∧Hid (∀ d',Rot (m-i) m (m+j) dk d'→Rot a m b d d'))
 case atStart=>exact ⟨m-a,b-m,d,by go_num,by go_num,by omega,by omega,by omega,by omega,by omega,rfl,S0,fun d' h=>by rwa [show m-(m-a)=a by omega,show m+(b-m)=b by omega] at h⟩
 case round =>
  clear S0
  obtain ⟨i,j,dk,rfl,rfl,hi,hj,hai,hmj,hgg,hds,S1,HE⟩:=hrel
  have hr1:IntKind.i64.wrap ((m:Int)-(i:Int))=((m-i:Nat):Int):=by rw [IntKind.wrap_i64];omega
  by_cases hne:i=j
  ·subst hne
   have hc:=HSR (m-i) m i dk wr hds (by omega) (by omega) S1
   have HE2:=HE.out _ (rot_end (d:=dk) (i:=i) (m:=m) (by omega) (by omega))
   go_wp2_with fail
   refine hc.mono ?_
   rintro e w' ⟨rfl,hS⟩
   go_wp2_with fail
   go_end0
   exact ⟨rfl,_,HE2,hS⟩
  ·have hneI : ¬ (i:Int)=(j:Int):=by omega
   by_cases hij:j<i
   ·have hijI:(i:Int) > (j:Int):=by omega
    have hc:=HSR (m-i) m j dk wr hds (by omega) (by omega) S1
    have hsz2:=(swr_spec j (m-i) m dk (by omega) (by omega)).1
    have HE2:Hid (∀ d',Rot (m-(i-j)) m (m+j) (swr (m-i) m j dk) d'→Rot a m b d d'):=fun d' h=>HE.out d' (rot_big hij (by omega) (by omega) h)
    clear HE S1
    go_wp2_with fail
    refine hc.mono ?_
    rintro e w' ⟨rfl,hS⟩
    have HS:Aside (SW (encI ix) w0 blk off (swr (m-i) m j dk) w'):=hS
    clear hS hc
    go_wp2
    go_roundg (i-j+j)
    case measure=>omega
    case rel=>exact ⟨i-j,j,swr (m-i) m j dk,by go_num,rfl,by omega,hj,by omega,hmj,Nat.le_refl _,by rw [hsz2];exact hds,HS,HE2⟩
   ·have hijI : ¬ (i:Int) > (j:Int):=by omega
    have hr2:IntKind.i64.wrap ((m:Int)+(j:Int)-(i:Int))=((m+j-i:Nat):Int):=by rw [IntKind.wrap_i64];omega
    have hc:=HSR (m-i) (m+j-i) i dk wr hds (by omega) (by omega) S1
    have hsz2:=(swr_spec i (m-i) (m+j-i) dk (by omega) (by omega)).1
    have HE2:Hid (∀ d',Rot (m-i) m (m+(j-i)) (swr (m-i) (m+j-i) i dk) d'→Rot a m b d d'):=fun d' h=>HE.out d' (rot_less (by omega) (by omega) (by omega) h)
    clear HE S1
    go_wp2_with fail
    refine hc.mono ?_
    rintro e w' ⟨rfl,hS⟩
    have HS:Aside (SW (encI ix) w0 blk off (swr (m-i) (m+j-i) i dk) w'):=hS
    clear hS hc
    go_wp2
    go_roundg (i+(j-i))
    case measure=>omega
    case rel=>exact ⟨i,j-i,swr (m-i) (m+j-i) i dk,rfl,by go_num,hi,by omega,hai,by omega,Nat.le_refl _,by rw [hsz2];exact hds,HS,HE2⟩
end Go.Proofs.YtenlladggdcfnaaGreatDoor
namespace Go.Proofs.YtenlladggdcfnaaGreatDoor
open Go.ChangeShapes Go.WideShapes Go.ChangeAt Go.RowKit
set_option maxRecDepth 20000
def PlAt (w:World) (A:Option Addr) (cap:Nat) (L:List Int):Prop:=L.length≤cap∧(L=[]∨∃ b o,A=some ⟨b,o,none⟩∧b<w.heap.size∧∀ j,j<L.length→w.cell? ⟨b,o+j,none⟩=some (.int .i64 (L.getD j 0)))
theorem PlAt.later {w w':World} {A:Option Addr} {cap:Nat} {L:List Int} (h:PlAt w A cap L) (hB:Below w.heap.size w w'):PlAt w' A cap L:=by
 obtain ⟨h1,h2 | ⟨b,o,h2,h3,h4⟩⟩:=h
 ·exact ⟨h1,Or.inl h2⟩
 ·exact ⟨h1,Or.inr ⟨b,o,h2,Nat.lt_of_lt_of_le h3 hB.size,fun j hj=>(hB.cell (p:=⟨b,o+j,none⟩) h3).trans (h4 j hj)⟩⟩
theorem PlAt.nil (w:World) (A:Option Addr) (cap:Nat):PlAt w A cap []:=⟨Nat.zero_le _,Or.inl rfl⟩
def IntB (w:World) (g:Nat) (L:List Int):Prop:=w.heap[g]?=some (.cells (L.map (Value.int .i64)).toArray 3 (0,0))
theorem IntB.lt {w:World} {g:Nat} {L:List Int} (h:IntB w g L):g<w.heap.size:=(Array.getElem?_eq_some_iff.1 h).1
theorem IntB.cell {w:World} {g:Nat} {L:List Int} (h:IntB w g L) {j:Nat} (hj:j<L.length):w.cell? ⟨g,j,none⟩=some (.int .i64 (L.getD j 0)):=by
 rw [Lib.cell_of_heap h]
 simp [List.getD,hj]
theorem IntB.frozen {w:World} {g:Nat} {L:List Int} (h:IntB w g L) (j:Nat):w.frozen? ⟨g,j,none⟩=false:=Lib.frozen_of_heap h j
theorem IntB.later {w w':World} {g:Nat} {L:List Int} (h:IntB w g L) (hB:Below w.heap.size w w'):IntB w' g L:=(hB.block g h.lt).trans h
theorem IntB.set {w:World} {g:Nat} {L:List Int} (h:IntB w g L) (j:Nat) (x:Int):IntB (w.setCell ⟨g,j,none⟩ (.int .i64 x)) g (L.set j x):=by
 unfold IntB at *
 have e:(L.set j x).map (Value.int .i64)=(L.map (Value.int .i64)).set j (.int .i64 x):=by rw [List.map_set]
 simp [World.setCell,Array.getElem?_modify,h,e]
theorem IntB.pl {w:World} {g:Nat} {L:List Int} (h:IntB w g L):PlAt w (some ⟨g,0,none⟩) L.length L :=
 ⟨Nat.le_refl _,Or.inr ⟨g,0,rfl,h.lt,fun j hj=>by rw [Nat.zero_add];exact h.cell hj⟩⟩
theorem made_ints (n:Nat):madeCells #[.int .i64 0] n=((List.replicate n (0:Int)).map (Value.int .i64)).toArray:=by
 apply Array.ext
 ·simp [madeCells]
 ·intro i h1 h2
  simp [madeCells,Nat.mod_one]
theorem IntB.made (w:World) (n:Nat):IntB (w.alloc (.cells (madeCells #[.int .i64 0] n) 3)) w.heap.size (List.replicate n 0):=by
 unfold IntB
 rw [made_ints]
 exact heap_alloc_new w _
theorem Tryz.infoIntP:(Tryz.prog.info? 3).map (fun i=>(i.zero,i.size,i.bytes))=some (some (.int .i64 0),1,8):=by kernel_rfl
theorem checko_any (A0:Option Addr) (cap n:Nat) (D:Nat→Dm) (A:Nat→Option Addr) (C:Nat→Nat) (w:World) (hM:DimsV w A0 cap n D A C):Calls Tryz.prog 71 #[.agg #[.slice A0 n cap]] w fun e w'=>e=.returned (errV (allErr D n).2.2)∧Below w.heap.size w w':=by
 have hB0:=ownOut_below w A0 n cap 25
 have h:=all_any A0 cap n D A C (ownOut w A0 n cap 25) (hM.later hB0)
 have HB0:Hid (Below w.heap.size w (ownOut w A0 n cap 25)):=hB0
 clear hM hB0
 generalize errV (allErr D n).2.2=v at h
 generalize (allErr D n).1=x at h
 generalize (allErr D n).2.1=y at h
 go_enter Tryz.func71,Tryz.ntmps71
 go_wp2_with fail
 refine h.mono ?_
 rintro e w1 ⟨rfl,hb1⟩
 go_wp2_with fail
 go_ret
 exact ⟨rfl,onB HB0.out hb1⟩
def cellsV (D:Nat→Dm) (n:Nat):Int:=if (allErr D n).2.2=0 then (prodN D n:Int) else 0
set_option maxHeartbeats 2000000 in
theorem pcells_any (A0:Option Addr) (cap n:Nat) (D:Nat→Dm) (A:Nat→Option Addr) (C:Nat→Nat) (w:World) (hM:DimsV w A0 cap n D A C):Calls Tryz.prog 46 #[.agg #[.slice A0 n cap]] w fun e w'=>e=.returned (.tuple #[.int .i64 (cellsV D n),errV (allErr D n).2.2])∧Below w.heap.size w w':=by
 have hB0:=ownOut_below w A0 n cap 25
 have h:=checko_any A0 cap n D A C (ownOut w A0 n cap 25) (hM.later hB0)
 have HB0:Hid (Below w.heap.size w (ownOut w A0 n cap 25)):=hB0
 have HM:Hid (DimsV w A0 cap n D A C):=hM
 clear hM hB0
 by_cases he:(allErr D n).2.2=0
 ·obtain ⟨hn1,hn4,-,hd⟩:=allErr_some he
  have HV:Hid (cellsV D n=(prodN D n:Int)):=by show _=_;unfold cellsV;rw [if_pos he]
  have HE:Hid (errV (allErr D n).2.2=.nilIface):=by show _=_;rw [he];rfl
  rw [he,errV_zero] at h
  have HD:Hid (∀ i,i<n→1≤(D i).n∧(D i).n≤12):=hd
  have hn':(n:Int)≤4:=by omega
  clear he hd
  go_enter Tryz.func46,Tryz.ntmps46
  go_wp2_with fail
  refine h.mono ?_
  rintro e w1 ⟨rfl,hb1⟩
  have hB:Below w.heap.size w w1:=onB HB0.out hb1
  have h2:w1.cell? ⟨w.heap.size,0,none⟩=some (.slice A0 n cap):=(hb1.cell (p:=⟨w.heap.size,0,none⟩) (by show w.heap.size<_;rw [ownOut_size];omega)).trans (ownOut_at ..)
  obtain ⟨hcap,h0 | ⟨b,o,rfl,hMs⟩⟩:=HM.out.later hB
  ·omega
  have HMs:Hid (DimsAt w1 b o n D A C):=hMs
  have HB:Hid (Below w.heap.size w w1):=hB
  clear hb1 h hMs hB
  go_wp2_with fail
  go_loopg [5,16] n (fun g s5 s16 wr => ∃ (k:Nat),k≤n∧g=n-k∧s16=.int .i64 k∧s5=.int .i64 (prodN D k)∧Below w1.heap.size w1 wr)
  case atStart=>exact ⟨0,Nat.zero_le _,rfl,rfl,rfl,Below.refl _ _⟩
  case round =>
   obtain ⟨k,hk,rfl,rfl,rfl,hBw⟩:=hrel
   by_cases hlt:k<n
   ·obtain ⟨h0,h1,h3,-⟩:=(HMs.out.later hBw).2 k hlt
    have hki:(k:Int)<(n:Int):=by omega
    have hp1:prodN D (k+1)≤20736:=prod_small (fun j hj=>(HD.out j (by omega)).2) (by omega)
    have hp2:(prodN D (k+1):Int)=(prodN D k:Int)*((D k).n:Int):=by rw [prodN];exact Int.natCast_mul _ _
    have hp3:0≤(prodN D k:Int)*((D k).n:Int):=by omega
    have hp4:(prodN D k:Int)*((D k).n:Int)≤20736:=by omega
    have HW:Hid (Below w1.heap.size w1 wr):=hBw
    have HP:Hid ((prodN D (k+1):Int)=(prodN D k:Int)*((D k).n:Int)):=hp2
    clear hBw hp1 hp2
    go_wp2_with fail
    go_roundg (n-(k+1))
    case measure=>omega
    case rel=>exact ⟨k+1,by omega,rfl,by go_num,by rw [HP.out],onB HW.out (by go_grown)⟩
   ·have hke:k=n:=by omega
    subst hke
    go_wp2_with fail
    go_ret2
    rw [HV.out,HE.out]
    exact ⟨rfl,onB HB.out hBw⟩
 ·have HV:Hid (cellsV D n=0):=by show _=_;unfold cellsV;rw [if_neg he]
  have HE:Hid (errV (allErr D n).2.2=.iface 46 (.int .i64 (allErr D n).2.2)):=errV_some he
  rw [errV_some he] at h
  clear he
  generalize (allErr D n).2.2=c at h HE
  go_enter Tryz.func46,Tryz.ntmps46
  go_wp2_with fail
  refine h.mono ?_
  rintro e w1 ⟨rfl,hb1⟩
  go_wp2_with fail
  go_ret2
  rw [HV.out,HE.out]
  exact ⟨rfl,onB HB0.out hb1⟩
theorem wrap_small {q:Nat} (h:q≤3000):wrap64 (q:Int)=q:=by unfold wrap64;omega
theorem restAt_le (D:Nat→Dm) (m n r:Nat):restAt D m n r≤n:=by
 induction r with
 | zero=>exact Nat.le_refl _
 | succ r ih=>rw [restAt];exact Nat.le_trans (Nat.div_le_self _ _) ih
theorem pl_ints {w:World} {A:Option Addr} {cap:Nat} {L:List Int} (h:IntsAt w A cap L):PlAt w A cap L:=by
 obtain ⟨h1,h2 | ⟨b,h2,h3,h4⟩⟩:=h
 ·exact ⟨h1,Or.inl h2⟩
 ·exact ⟨h1,Or.inr ⟨b,0,h2,h3,fun j hj=>by rw [Nat.zero_add];exact h4 j hj⟩⟩
set_option maxHeartbeats 1000000 in
theorem indexm_pl (F:Nat) (cap:Array Value) (p:Int→Bool) (hent:∀ (args:Array Value) (w:World),(callFunc F args).run Tryz.prog w=.ok (.enter F args) w) (A:Option Addr) (c:Nat) (L:List Int) (w:World) (hn:L.length≤1048576) (hL:PlAt w A c L)
  (hF:∀ (x:Int) (w':World),x∈L→Below w.heap.size w w'→Calls Tryz.prog F (#[.int .i64 x] ++ cap) w' fun e w''=>e=.returned (.bool (p x))∧Below w'.heap.size w' w'') :
  Calls Tryz.prog 31 #[.slice A L.length c,.func (.func F) #[] cap] w fun e w'=>e=.returned (.int .i64 (findFrom (fun j=>p (L.getD j 0)) L.length 0))∧Below w.heap.size w w':=by
 obtain ⟨hc,h0 | ⟨b,o,rfl,hbw,hcell⟩⟩:=hL
 ·subst h0
  simp only [List.length_nil]
  go_enter Tryz.func31,Tryz.ntmps31
  go_wp2_with fail
  refine wp_loop_rounds 1 ?_
  rw [rounds_succ]
  go_wp2_with fail
  go_ret
  exact ⟨rfl,Below.refl _ _⟩
 ·have HC:Hid (∀ j,j<L.length→w.cell? ⟨b,o+j,none⟩=some (.int .i64 (L.getD j 0))):=hcell
  have HF:Hid (∀ (x:Int) (w':World),x∈L→Below w.heap.size w w'→Calls Tryz.prog F (#[.int .i64 x] ++ cap) w' fun e w''=>e=.returned (.bool (p x))∧Below w'.heap.size w' w''):=hF
  obtain ⟨pj,hpj⟩:∃ pj:Nat→Bool,pj=fun j=>p (L.getD j 0):=⟨_,rfl⟩
  have HP:Hid (∀ j,pj j=p (L.getD j 0)):=fun j=>by rw [hpj]
  rw [←hpj]
  obtain ⟨n,hnn⟩:∃ n,L.length=n:=⟨_,rfl⟩
  have HNn:Hid (L.length=n):=hnn
  rw [hnn] at hn hc HC ⊢
  clear hcell hpj hnn hF
  go_enter Tryz.func31,Tryz.ntmps31
  go_wp2_with fail
  go_loopg [8] n (fun g s8 wr => ∃ (k:Nat),k≤n∧g=n-k∧s8=.int .i64 k∧findFrom pj (n-k) k=findFrom pj n 0∧Below w.heap.size w wr)
  case atStart=>exact ⟨0,Nat.zero_le _,rfl,rfl,rfl,Below.refl _ _⟩
  case round =>
   obtain ⟨k,hk,rfl,rfl,hf,hBw⟩:=hrel
   have HQ:Hid (findFrom pj (n-k) k=findFrom pj n 0):=hf
   have HW:Hid (Below w.heap.size w wr):=hBw
   clear hf
   by_cases hlt:k<n
   ·have hki:(k:Int)<(n:Int):=by omega
    have hcx:=(hBw.cell (p:=⟨b,o+k,none⟩) hbw).trans (HC.out k hlt)
    have hn':(n:Int)≤1048576:=by omega
    have hpk:=HP.out k
    have HSK:Hid (n-k=(n-(k+1))+1):=by show _=_;omega
    have hbd:=HF.out (L.getD k 0) wr (by rw [List.getD_eq_getElem?_getD,List.getElem?_eq_getElem (by rw [HNn.out];exact hlt)];exact List.getElem_mem _) hBw
    rw [←hpk] at hbd
    generalize L.getD k 0=x at hcx hpk hbd
    clear hBw hpk
    cases hb:pj k
    ·rw [hb] at hbd
     have HK:Hid (pj k=false):=hb
     clear hb
     go_wp2_with fail
     refine hbd.mono ?_
     rintro e w1 ⟨rfl,hb1⟩
     go_wp2_with fail
     go_roundg (n-(k+1))
     case measure=>omega
     case rel=>exact ⟨k+1,by omega,rfl,by go_num,by rw [←HQ.out,HSK.out,findFrom_miss _ HK.out],onB HW.out hb1⟩
    ·rw [hb] at hbd
     have HK:Hid (pj k=true):=hb
     clear hb
     go_wp2_with fail
     refine hbd.mono ?_
     rintro e w1 ⟨rfl,hb1⟩
     go_wp2_with fail
     go_ret
     exact ⟨by rw [←HQ.out,HSK.out,findFrom_hit _ HK.out];rfl,onB HW.out hb1⟩
   ·have hke:k=n:=by omega
    subst hke
    go_wp2_with fail
    go_ret
    exact ⟨by rw [←HQ.out,Nat.sub_self];rfl,HW.out⟩
theorem contm_pl (F:Nat) (cap:Array Value) (p:Int→Bool) (hent:∀ (args:Array Value) (w:World),(callFunc F args).run Tryz.prog w=.ok (.enter F args) w) (A:Option Addr) (c:Nat) (L:List Int) (w:World) (hn:L.length≤1048576) (hL:PlAt w A c L)
  (hF:∀ (x:Int) (w':World),x∈L→Below w.heap.size w w'→Calls Tryz.prog F (#[.int .i64 x] ++ cap) w' fun e w''=>e=.returned (.bool (p x))∧Below w'.heap.size w' w'') :
  Calls Tryz.prog 15 #[.slice A L.length c,.func (.func F) #[] cap] w fun e w'=>e=.returned (.bool (decide (0≤findFrom (fun j=>p (L.getD j 0)) L.length 0)))∧Below w.heap.size w w':=by
 have h:=indexm_pl F cap p hent A c L w hn hL hF
 generalize findFrom (fun j=>p (L.getD j 0)) L.length 0=r at *
 clear hF hL
 go_enter Tryz.func15,Tryz.ntmps15
 go_wp2_with fail
 refine h.mono ?_
 rintro e w1 ⟨rfl,hb1⟩
 go_wp2_with fail
 go_ret
 exact ⟨rfl,hb1⟩
def outB (n:Nat) (i:Int):Bool:=decide (i<0) || decide ((n:Int)≤i)
theorem check1_any (i:Int) (A:Option Addr) (n cap q:Nat) (w:World) (h:w.cell? ⟨q,2,none⟩=some (.slice A n cap)):Calls Tryz.prog 125 #[.int .i64 i,.pointer (some ⟨q,0,none⟩)] w fun e w'=>e=.returned (.bool (outB n i))∧Below w.heap.size w w':=by
 unfold outB
 by_cases h1:i<0
 ·go_enter Tryz.func125,Tryz.ntmps125
  go_wp2
  go_ret
  exact ⟨by simp <;> omega,by go_grown⟩
 ·go_enter Tryz.func125,Tryz.ntmps125
  go_wp2
  go_ret
  exact ⟨by simp <;> omega,by go_grown⟩
theorem containsf_ints (A:Option Addr) (cap:Nat) (L:List Int) (Am:Option Addr) (nm cm q:Nat) (w:World) (hn:L.length≤2) (hL:IntsAt w A cap L) (hq:q<w.heap.size) (hqc:w.cell? ⟨q,2,none⟩=some (.slice Am nm cm)) :
  Calls Tryz.prog 15 #[.slice A L.length cap,.func (.func 125) #[] #[.pointer (some ⟨q,0,none⟩)]] w fun e w'=>e=.returned (.bool (decide (0≤findFrom (fun j=>outB nm (L.getD j 0)) L.length 0)))∧Below w.heap.size w w' :=
 contm_pl 125 #[.pointer (some ⟨q,0,none⟩)] (outB nm) (fun args w=>by simp [callFunc,Tryz.func125];rfl) A cap L w (by omega) (pl_ints hL) fun x w' _ hB=>check1_any x Am nm cm q w' ((hB.cell (p:=⟨q,2,none⟩) hq).trans hqc)
theorem treeErr_range {d:Dm} {L:List Int} (h:(dimErr d).2=0):treeErr d L=if 0≤findFrom (fun j=>outB d.n (L.getD j 0)) L.length 0 then 1 else 0:=by
 unfold treeErr rangeErr;rw [if_neg (by simpa using h)];rfl
set_option maxHeartbeats 2000000 in
theorem tcheck_any (d:Dm) (A:Option Addr) (cap:Nat) (Ai:Option Addr) (ci:Nat) (L:List Int) (w:World) (hM:MemsV w A cap d.n d.mem) (hn:L.length≤2) (hL:IntsAt w Ai ci L):Calls Tryz.prog 98 #[dimV d A cap,.slice Ai L.length ci] w fun e w'=>e=.returned (errV (treeErr d L))∧Below w.heap.size w w':=by
 have hS:=ownDim_size w d A cap 81
 have hB0:=ownDim_below w d A cap 81
 have hA:=(ownDim_at w d A cap 81).2.2
 have hck:=dcheck_any d A cap (ownDim w d A cap 81) (hM.later hB0)
 unfold dimV at hck ⊢
 have HB0:Hid (Below w.heap.size w (ownDim w d A cap 81)):=hB0
 have HS:Hid ((ownDim w d A cap 81).heap.size=w.heap.size+1):=hS
 have HA:Hid ((ownDim w d A cap 81).cell? ⟨w.heap.size,2,none⟩=some (.slice A d.n cap)):=hA
 have HL:Hid (IntsAt w Ai ci L):=hL
 clear hM hS hB0 hA hL
 by_cases he:(dimErr d).2=0
 ·obtain ⟨e1,hd1,hd2,-⟩:=dimErr_right he
  rw [he,e1,errV_zero] at hck
  have HE:Hid ((dimErr d).2=0):=he
  clear he e1
  go_enter Tryz.func98,Tryz.ntmps98
  go_wp2_with fail
  refine hck.mono ?_
  rintro e w1 ⟨rfl,hb1⟩
  have hB:Below w.heap.size w w1:=onB HB0.out hb1
  have hz:w.heap.size<w1.heap.size:=by
   have:=hb1.size
   rw [HS.out] at this
   omega
  have h2:w1.cell? ⟨w.heap.size,2,none⟩=some (.slice A d.n cap):=(hb1.cell (p:=⟨w.heap.size,2,none⟩) (by show w.heap.size<_;rw [HS.out];omega)).trans HA.out
  have hcf:=containsf_ints Ai ci L A d.n cap w.heap.size w1 hn (HL.out.later hB) hz h2
  have HR:Hid (treeErr d L=if 0≤findFrom (fun j=>outB d.n (L.getD j 0)) L.length 0 then 1 else 0):=treeErr_range HE.out
  have HB:Hid (Below w.heap.size w w1):=hB
  generalize findFrom (fun j=>outB d.n (L.getD j 0)) L.length 0=f at hcf HR
  generalize L.length=n at hcf
  clear hb1 hck h2 hB
  by_cases hf:0≤f
  ·rw [decide_eq_true hf] at hcf
   have HR1:Hid (treeErr d L=1):=by show _=_;rw [HR.out,if_pos hf]
   clear hf HR
   go_wp2_with fail
   refine hcf.mono ?_
   rintro e w2 ⟨rfl,hb2⟩
   go_wp2_with fail
   go_ret
   exact ⟨by rw [HR1.out];rfl,onB HB.out hb2⟩
  ·rw [decide_eq_false hf] at hcf
   have HR1:Hid (treeErr d L=0):=by show _=_;rw [HR.out,if_neg hf]
   clear hf HR
   go_wp2_with fail
   refine hcf.mono ?_
   rintro e w2 ⟨rfl,hb2⟩
   go_wp2_with fail
   go_ret
   exact ⟨by rw [HR1.out];rfl,onB HB.out hb2⟩
 ·have HK:Hid (errV (treeErr d L)=.iface 46 (.int .i64 (dimErr d).2)):=by show _=_;rw [treeErr_dim he,errV_some he]
  rw [errV_some he] at hck
  clear he
  generalize (dimErr d).2=c at hck HK
  go_enter Tryz.func98,Tryz.ntmps98
  go_wp2_with fail
  refine hck.mono ?_
  rintro e w1 ⟨rfl,hb1⟩
  go_wp2_with fail
  go_ret
  exact ⟨by rw [HK.out];rfl,onB HB0.out hb1⟩
end Go.Proofs.YtenlladggdcfnaaGreatDoor
namespace Go.Proofs.YtenlladggdcfnaaGreatDoor
open Go.ChangeShapes Go.WideShapes Go.ChangeAt Go.RowKit
def ofP (n:Int):Int×Int:=if -1000000000000≤n∧n≤1000000000000 then (1,n) else (2,0)
theorem ofP_in {n:Int} (h1 : -1000000000000≤n) (h2:n≤1000000000000):ofP n=(1,n):=by unfold ofP;rw [if_pos ⟨h1,h2⟩]
theorem ofP_out {n:Int} (h:n < -1000000000000∨1000000000000<n):ofP n=(2,0):=by unfold ofP;rw [if_neg (by omega)]
theorem of_any (n:Int) (w:World):Calls Tryz.prog 48 #[.int .i64 n] w fun e w'=>e=.returned (.agg #[.int .i64 (ofP n).1,.int .i64 (ofP n).2])∧Below w.heap.size w w':=by
 by_cases h1 : -1000000000000≤n
 ·by_cases h2:n≤1000000000000
  ·rw [ofP_in h1 h2]
   go_enter Tryz.func48,Tryz.ntmps48
   go_wp2
   go_returns
   exact ⟨rfl,by go_grown⟩
  ·rw [ofP_out (by omega)]
   go_enter Tryz.func48,Tryz.ntmps48
   go_wp2
   go_returns
   exact ⟨rfl,by go_grown⟩
 ·rw [ofP_out (by omega)]
  go_enter Tryz.func48,Tryz.ntmps48
  go_wp2
  go_returns
  exact ⟨rfl,by go_grown⟩
def good (k n:Int):Bool:=decide ((k=1∧-1000000000000≤n∧n≤1000000000000)∨((k=0∨k=2)∧n=0))
end Go.Proofs.YtenlladggdcfnaaGreatDoor
