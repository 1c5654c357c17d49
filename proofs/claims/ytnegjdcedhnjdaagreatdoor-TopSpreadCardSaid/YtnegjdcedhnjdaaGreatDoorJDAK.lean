/-
  slices.swapRangeCmpFunc, rotateCmpFunc at ints: a row of numbers that stand for elements of some type.
-/
import Derived.Shelf.SlSortCmp.Kit1
import Derived.Sort.WalkB2
import Derived.Sort.WalkB12
import Derived.Test.YtnegjdcedhnjdaaGreatDoorJDAJ
namespace Go.Proofs.YtnegjdcedhnjdaaGreatDoor
open Go Go.ChangeShapes Go.WideShapes Go.ChangeAt Go.RowKit Go.Shelf Go.Lib Go.Sort
set_option linter.unusedSectionVars false
set_option maxRecDepth 100000
variable {α:Type} [Inhabited α]
def encI (ix:α→Nat) (x:α):Value:=.int .i64 ((ix x:Nat):Int)
theorem swr_go (a b n:Nat) (d:Array α) (h:0<n):swr a b n d=swr (a+1) (b+1) (n-1) (swp d a b):=by
 obtain ⟨m,rfl⟩:∃ m,n=m+1:=⟨n-1,by omega⟩
 rfl
set_option maxHeartbeats 8000000 in
theorem swaprange_any (ix:α→Nat) (cf:Value) (blk off cap a b n:Nat) (d0 d:Array α) (w0 w:World) (R:Row1 (encI ix) w0 blk off d0) (hs:d0.size=d.size) (S:SW (encI ix) w0 blk off d w)
  (hab:a+n≤b) (hb:b+n≤d.size) (hsz:d.size≤1000) :
  Calls Tryz.prog 213 #[.slice (some ⟨blk,off,none⟩) d.size cap,.int .i64 a,.int .i64 b,.int .i64 n,cf] w fun e w'=>e=.returned (.tuple #[])∧SW (encI ix) w0 blk off (swr a b n d) w':=by
 have mixed:Tryz.prog.follows .mixedOrders=true:=by kernel_rfl
 have S0:Aside (SW (encI ix) w0 blk off d w):=S
 clear S
 go_enter Tryz.func213,Tryz.ntmps213
 go_wp2
 go_loopg [10] n (fun gg s10 wr => ∃ (i:Nat) (dk:Array α),s10=.int .i64 i∧i≤n∧gg=n-i∧dk.size=d.size∧Aside (SW (encI ix) w0 blk off dk wr)∧Hid (swr (a+i) (b+i) (n-i) dk=swr a b n d))
 case atStart=>exact ⟨0,d,rfl,Nat.zero_le _,rfl,rfl,S0,rfl⟩
 case round =>
  clear S0
  obtain ⟨i,dk,rfl,hin,rfl,hds,S1,HE⟩:=hrel
  by_cases hlt:i<n
  ·have hltz:(i:Int)<(n:Int):=by omega
   go_wp2_with fail
   have r1:IntKind.i64.wrap ((a:Int)+(i:Int))=((a:Int)+(i:Int)):=by rw [IntKind.wrap_i64];omega
   have r2:IntKind.i64.wrap ((b:Int)+(i:Int))=((b:Int)+(i:Int)):=by rw [IntKind.wrap_i64];omega
   have b1:((a:Int)+(i:Int))<(d.size:Int):=by omega
   have b2:((b:Int)+(i:Int))<(d.size:Int):=by omega
   obtain ⟨x,hx⟩:∃ x,x=ix dk[(a+i)]! := ⟨_,rfl⟩
   obtain ⟨y,hy⟩:∃ x,x=ix dk[(b+i)]! := ⟨_,rfl⟩
   have S2:Aside (SW (encI ix) w0 blk off (swp dk (a+i) (b+i)) ((wr.setCell ⟨blk,off+(a+i),none⟩ (.int .i64 (y:Int))).setCell ⟨blk,off+(b+i),none⟩ (.int .i64 (x:Int))).drew):=by rw [hx,hy];exact S1.out.swapped R (a+i) (b+i) (by omega) (by omega)
   have c1:wr.cell? ⟨blk,off+(a+i),none⟩=some (.int .i64 (x:Int)):=by rw [hx];exact S1.out.c1 R (by omega) (a+i) (by omega)
   have c2:wr.cell? ⟨blk,off+(b+i),none⟩=some (.int .i64 (y:Int)):=by rw [hy];exact S1.out.c1 R (by omega) (b+i) (by omega)
   have f1:=S1.out.f1 R (by omega) (a+i) (by omega)
   have f2:=S1.out.f1 R (by omega) (b+i) (by omega)
   obtain ⟨u,c3⟩:=S1.out.c2 R (by omega) (a+i) (b+i) (by omega) (by omega) (.int .i64 (y:Int))
   have HE2:Hid (swr (a+(i+1)) (b+(i+1)) (n-(i+1)) (swp dk (a+i) (b+i))=swr a b n d):=by
    have:=HE.out
    rw [swr_go _ _ _ _ (by omega)] at this
    rw [←this];congr 1
   have HSZ:Hid ((swp dk (a+i) (b+i)).size=d.size):=by show _=_;rw [size_swp];exact hds
   clear S1 hx hy HE hds
   go_wp2_with fail
   go_big_region_o
   clear c1 c2 c3 f1 f2
   generalize ((wr.setCell ⟨blk,off+(a+i),none⟩ (.int .i64 (y:Int))).setCell ⟨blk,off+(b+i),none⟩ (.int .i64 (x:Int))).drew=w2 at S2 ⊢
   go_wp2
   go_roundg (n-(i+1))
   case measure=>omega
   case rel=>exact ⟨i+1,swp dk (a+i) (b+i),by go_num,by omega,rfl,HSZ.out,S2,HE2⟩
  ·have hie:i=n:=by omega
   subst hie
   go_wp2
   go_end0
   refine ⟨rfl,?_⟩
   have:=HE.out
   rw [Nat.sub_self] at this
   rw [←this];exact S1.out
set_option maxHeartbeats 8000000 in
theorem rotate_any (ix:α→Nat) (cf:Value) (blk off cap a m b:Nat) (d0 d:Array α) (w0 w:World) (R:Row1 (encI ix) w0 blk off d0) (hs:d0.size=d.size) (S:SW (encI ix) w0 blk off d w)
  (h1:a<m) (h2:m<b) (hb:b≤d.size) (hsz:d.size≤1000) :
  Calls Tryz.prog 194 #[.slice (some ⟨blk,off,none⟩) d.size cap,.int .i64 a,.int .i64 m,.int .i64 b,cf] w fun e w'=>e=.returned (.tuple #[])∧∃ d',Rot a m b d d'∧SW (encI ix) w0 blk off d' w':=by
 have mixed:Tryz.prog.follows .mixedOrders=true:=by kernel_rfl
 have HSR:∀ (a b n:Nat) (dk:Array α) (w':World),dk.size=d.size→a+n≤b→b+n≤d.size→Aside (SW (encI ix) w0 blk off dk w') →
   Calls Tryz.prog 213 #[.slice (some ⟨blk,off,none⟩) d.size cap,.int .i64 a,.int .i64 b,.int .i64 n,cf] w' fun e w'=>e=.returned (.tuple #[])∧SW (encI ix) w0 blk off (swr a b n dk) w':=fun a b n dk w' e h1 h2 h3=>by
  have:=swaprange_any ix cf blk off cap a b n d0 dk w0 w' R (by omega) h3 h1 (by omega) (by omega)
  rwa [e] at this
 have S0:Aside (SW (encI ix) w0 blk off d w):=S
 clear S
 go_enter Tryz.func194,Tryz.ntmps194
 go_wp2
 go_loopg [10,11] (b-a) (fun gg s5 s6 wr => ∃ (i j:Nat) (dk:Array α),s5=.int .i64 i∧s6=.int .i64 j∧0<i∧0<j∧a+i≤m∧m+j≤b∧i+j≤gg∧dk.size=d.size∧Aside (SW (encI ix) w0 blk off dk wr)∧Hid (∀ d',Rot (m-i) m (m+j) dk d'→Rot a m b d d'))
 case atStart=>exact ⟨m-a,b-m,d,by go_num,by go_num,by omega,by omega,by omega,by omega,by omega,rfl,S0,fun d' h=>by rwa [show m-(m-a)=a by omega,show m+(b-m)=b by omega] at h⟩
 case round =>
  clear S0
  obtain ⟨i,j,dk,rfl,rfl,hi,hj,hai,hmj,hgg,hds,S1,HE⟩:=hrel
  have hr1:IntKind.i64.wrap ((m:Int)-(i:Int))=((m-i:Nat):Int):=by rw [IntKind.wrap_i64];omega
  by_cases hne:i=j
  ·subst hne
   have hc:=HSR (m-i) m i dk wr hds (by omega) (by omega) S1
   have HE2:=HE.out _ (rot_end (d:=dk) (i:=i) (m:=m) (by omega) (by omega))
   go_wp2_with fail
   refine hc.mono ?_
   rintro e w' ⟨rfl,hS⟩
   go_wp2_with fail
   go_end0
   exact ⟨rfl,_,HE2,hS⟩
  ·have hneI : ¬ (i:Int)=(j:Int):=by omega
   by_cases hij:j<i
   ·have hijI:(i:Int) > (j:Int):=by omega
    have hc:=HSR (m-i) m j dk wr hds (by omega) (by omega) S1
    have hsz2:=(swr_spec j (m-i) m dk (by omega) (by omega)).1
    have HE2:Hid (∀ d',Rot (m-(i-j)) m (m+j) (swr (m-i) m j dk) d'→Rot a m b d d'):=fun d' h=>HE.out d' (rot_big hij (by omega) (by omega) h)
    clear HE S1
    go_wp2_with fail
    refine hc.mono ?_
    rintro e w' ⟨rfl,hS⟩
    have HS:Aside (SW (encI ix) w0 blk off (swr (m-i) m j dk) w'):=hS
    clear hS hc
    go_wp2
    go_roundg (i-j+j)
    case measure=>omega
    case rel=>exact ⟨i-j,j,swr (m-i) m j dk,by go_num,rfl,by omega,hj,by omega,hmj,Nat.le_refl _,by rw [hsz2];exact hds,HS,HE2⟩
   ·have hijI : ¬ (i:Int) > (j:Int):=by omega
    have hr2:IntKind.i64.wrap ((m:Int)+(j:Int)-(i:Int))=((m+j-i:Nat):Int):=by rw [IntKind.wrap_i64];omega
    have hc:=HSR (m-i) (m+j-i) i dk wr hds (by omega) (by omega) S1
    have hsz2:=(swr_spec i (m-i) (m+j-i) dk (by omega) (by omega)).1
    have HE2:Hid (∀ d',Rot (m-i) m (m+(j-i)) (swr (m-i) (m+j-i) i dk) d'→Rot a m b d d'):=fun d' h=>HE.out d' (rot_less (by omega) (by omega) (by omega) h)
    clear HE S1
    go_wp2_with fail
    refine hc.mono ?_
    rintro e w' ⟨rfl,hS⟩
    have HS:Aside (SW (encI ix) w0 blk off (swr (m-i) (m+j-i) i dk) w'):=hS
    clear hS hc
    go_wp2
    go_roundg (i+(j-i))
    case measure=>omega
    case rel=>exact ⟨i,j-i,swr (m-i) (m+j-i) i dk,rfl,by go_num,hi,by omega,hai,by omega,Nat.le_refl _,by rw [hsz2];exact hds,HS,HE2⟩
end Go.Proofs.YtnegjdcedhnjdaaGreatDoor
namespace Go.Proofs.YtnegjdcedhnjdaaGreatDoor
open Go.ChangeShapes Go.WideShapes Go.ChangeAt Go.RowKit
set_option maxRecDepth 20000
def ownEn (w:World) (A:Option Addr) (m c:Nat) (N:Int) (T:Nat):World:=w.alloc (.cells #[.slice A m c,.int .i64 N] T)
theorem ownEn_size (w:World) (A:Option Addr) (m c:Nat) (N:Int) (T:Nat):(ownEn w A m c N T).heap.size=w.heap.size+1:=by unfold ownEn;simp
theorem ownEn_below (w:World) (A:Option Addr) (m c:Nat) (N:Int) (T:Nat):Below w.heap.size w (ownEn w A m c N T):=by unfold ownEn;go_grown
theorem ownEn_0 (w:World) (A:Option Addr) (m c:Nat) (N:Int) (T:Nat):(ownEn w A m c N T).cell? ⟨w.heap.size,0,none⟩=some (.slice A m c):=by unfold ownEn;simp
theorem ownEn_1 (w:World) (A:Option Addr) (m c:Nat) (N:Int) (T:Nat):(ownEn w A m c N T).cell? ⟨w.heap.size,1,none⟩=some (.int .i64 N):=by unfold ownEn;simp
def ownOE (w:World) (A0:Option Addr) (n cap:Nat) (A:Option Addr) (m c:Nat) (N:Int):World:=ownEn (ownOut w A0 n cap 24) A m c N 54
theorem ownOE_size (w:World) (A0:Option Addr) (n cap:Nat) (A:Option Addr) (m c:Nat) (N:Int):(ownOE w A0 n cap A m c N).heap.size=w.heap.size+2:=by unfold ownOE;rw [ownEn_size,ownOut_size]
theorem ownOE_below (w:World) (A0:Option Addr) (n cap:Nat) (A:Option Addr) (m c:Nat) (N:Int):Below w.heap.size w (ownOE w A0 n cap A m c N):=onB (ownOut_below ..) (ownEn_below ..)
theorem ownOE_0 (w:World) (A0:Option Addr) (n cap:Nat) (A:Option Addr) (m c:Nat) (N:Int):(ownOE w A0 n cap A m c N).cell? ⟨w.heap.size+1,0,none⟩=some (.slice A m c):=by
 have h:=ownEn_0 (ownOut w A0 n cap 24) A m c N 54
 rw [ownOut_size] at h
 exact h
theorem ownOE_1 (w:World) (A0:Option Addr) (n cap:Nat) (A:Option Addr) (m c:Nat) (N:Int):(ownOE w A0 n cap A m c N).cell? ⟨w.heap.size+1,1,none⟩=some (.int .i64 N):=by
 have h:=ownEn_1 (ownOut w A0 n cap 24) A m c N 54
 rw [ownOut_size] at h
 exact h
set_option maxHeartbeats 4000000 in
theorem icheck1_any (A0:Option Addr) (cap n:Nat) (D:Nat→Dm) (A:Nat→Option Addr) (C:Nat→Nat) (Ae:Option Addr) (ce:Nat) (e:En) (w:World) (hR:(allErr D n).2.2=0) (hM:DimsV w A0 cap n D A C) (hP:PlAt w Ae ce e.pl) :
  Calls Tryz.prog 41 #[.agg #[.slice A0 n cap],.agg #[.slice Ae e.pl.length ce,.int .i64 e.n]] w fun r w'=>r=.returned (errV (entOne D n e))∧Below w.heap.size w w':=by
 have hB0:=ownOE_below w A0 n cap Ae e.pl.length ce e.n
 have h:=pleaf_any A0 cap n D A C Ae ce e.pl (ownOE w A0 n cap Ae e.pl.length ce e.n) (hM.later hB0) (hP.later hB0)
 have HB0:Hid (Below w.heap.size w (ownOE w A0 n cap Ae e.pl.length ce e.n)):=hB0
 have HS:Hid (w.heap.size+1<(ownOE w A0 n cap Ae e.pl.length ce e.n).heap.size):=by show _<_;rw [ownOE_size];omega
 have H1:Hid ((ownOE w A0 n cap Ae e.pl.length ce e.n).cell? ⟨w.heap.size+1,1,none⟩=some (.int .i64 e.n)):=ownOE_1 ..
 clear hM hP hB0
 by_cases hp:placeErr D n e.pl=0
 ·by_cases hf:leafV D n e.pl=true
  ·have hv:=one_num hR hp hf
   rw [hp,hf,errV_zero] at h
   clear hp hf
   by_cases hlo:e.n < -1000000
   ·have HV:Hid (errV (entOne D n e)=.iface 66 (.int .i64 1)):=by
     show _=_
     rw [hv,if_pos (by simp [numOk];omega)];rfl
    generalize e.pl.length=m at h HB0 HS H1
    generalize e.n=N at h HB0 HS H1 hlo
    clear hv
    go_enter Tryz.func41,Tryz.ntmps41
    go_wp2_with fail
    refine h.mono ?_
    rintro r w1 ⟨rfl,hb1⟩
    have c1:=(hb1.cell (p:=⟨w.heap.size+1,1,none⟩) HS.out).trans H1.out
    have HB1:Hid (Below w.heap.size w w1):=onB HB0.out hb1
    clear hb1
    go_wp2_with fail
    go_ret
    rw [HV.out]
    exact ⟨rfl,HB1.out⟩
   ·by_cases hhi:1000000<e.n
    ·have HV:Hid (errV (entOne D n e)=.iface 66 (.int .i64 1)):=by
      show _=_
      rw [hv,if_pos (by simp [numOk];omega)];rfl
     generalize e.pl.length=m at h HB0 HS H1
     generalize e.n=N at h HB0 HS H1 hlo hhi
     clear hv
     go_enter Tryz.func41,Tryz.ntmps41
     go_wp2_with fail
     refine h.mono ?_
     rintro r w1 ⟨rfl,hb1⟩
     have c1:=(hb1.cell (p:=⟨w.heap.size+1,1,none⟩) HS.out).trans H1.out
     have HB1:Hid (Below w.heap.size w w1):=onB HB0.out hb1
     clear hb1
     go_wp2_with fail
     go_ret
     rw [HV.out]
     exact ⟨rfl,HB1.out⟩
    ·have HV:Hid (errV (entOne D n e)=.nilIface):=by
      show _=_
      rw [hv,if_neg (by simp [numOk];omega)];rfl
     generalize e.pl.length=m at h HB0 HS H1
     generalize e.n=N at h HB0 HS H1 hlo hhi
     clear hv
     go_enter Tryz.func41,Tryz.ntmps41
     go_wp2_with fail
     refine h.mono ?_
     rintro r w1 ⟨rfl,hb1⟩
     have c1:=(hb1.cell (p:=⟨w.heap.size+1,1,none⟩) HS.out).trans H1.out
     have HB1:Hid (Below w.heap.size w w1):=onB HB0.out hb1
     clear hb1
     go_wp2_with fail
     go_ret
     rw [HV.out]
     exact ⟨rfl,HB1.out⟩
  ·have hf':leafV D n e.pl=false:=by simpa using hf
   have HV:Hid (errV (entOne D n e)=.iface 66 (.int .i64 6)):=by show _=_;rw [one_leaf hR hp hf'];rfl
   rw [hp,hf',errV_zero] at h
   generalize e.pl.length=m at h HB0
   generalize e.n=N at h HB0
   clear hp hf hf' HS H1
   go_enter Tryz.func41,Tryz.ntmps41
   go_wp2_with fail
   refine h.mono ?_
   rintro r w1 ⟨rfl,hb1⟩
   have HB1:Hid (Below w.heap.size w w1):=onB HB0.out hb1
   clear hb1
   go_wp2_with fail
   go_ret
   rw [HV.out]
   exact ⟨rfl,HB1.out⟩
 ·have HV:Hid (errV (entOne D n e)=.iface 66 (.int .i64 (placeErr D n e.pl))):=by show _=_;rw [one_place hR hp,errV_some hp]
  rw [errV_some hp] at h
  generalize placeErr D n e.pl=E at h HV
  generalize leafV D n e.pl=lf at h
  generalize e.pl.length=m at h HB0
  generalize e.n=N at h HB0
  clear hp HS H1
  go_enter Tryz.func41,Tryz.ntmps41
  go_wp2_with fail
  refine h.mono ?_
  rintro r w1 ⟨rfl,hb1⟩
  have HB1:Hid (Below w.heap.size w w1):=onB HB0.out hb1
  clear hb1
  go_wp2_with fail
  go_ret
  rw [HV.out]
  exact ⟨rfl,HB1.out⟩
theorem inO_short {D:Nat→Dm} {n:Nat} {L:List Int} (h:InO D n L):L.length≤4:=by rw [h.len];exact (allErr_some h.right).2.1
theorem keep3 {W w':World} {b b' o1 o2 o3:Nat} {u v z:Value} (h:b<W.heap.size∧b'<W.heap.size∧W.cell? ⟨b,o1,none⟩=some u∧W.cell? ⟨b,o2,none⟩=some v∧W.cell? ⟨b',o3,none⟩=some z) (hB:Below W.heap.size W w'):Below W.heap.size W w'∧w'.cell? ⟨b,o1,none⟩=some u∧w'.cell? ⟨b,o2,none⟩=some v∧w'.cell? ⟨b',o3,none⟩=some z :=
 ⟨hB,(hB.cell (p:=⟨b,o1,none⟩) h.1).trans h.2.2.1,(hB.cell (p:=⟨b,o2,none⟩) h.1).trans h.2.2.2.1,(hB.cell (p:=⟨b',o3,none⟩) h.2.1).trans h.2.2.2.2⟩
set_option maxHeartbeats 8000000 in
theorem icheck_any (A0:Option Addr) (cap n:Nat) (D:Nat→Dm) (A:Nat→Option Addr) (C:Nat→Nat) (AE:Option Addr) (ce:Nat) (xs:List EnL) (w:World) (hM:DimsV w A0 cap n D A C) (hE:EnsV w AE ce xs) :
  Calls Tryz.prog 16 #[.agg #[.slice A0 n cap],.slice AE xs.length ce] w fun r w'=>r=.returned (errV (entsErr D n (lE xs)))∧Below w.heap.size w w':=by
 have hB0:=ownOut_below w A0 n cap 24
 have h:=all_any A0 cap n D A C (ownOut w A0 n cap 24) (hM.later hB0)
 have HB0:Hid (Below w.heap.size w (ownOut w A0 n cap 24)):=hB0
 have HM:Hid (DimsV w A0 cap n D A C):=hM
 have HE:Hid (EnsV w AE ce xs):=hE
 generalize (allErr D n).1=x1 at h
 generalize (allErr D n).2.1=x2 at h
 clear hM hB0
 by_cases hR:(allErr D n).2.2=0
 ·have HR:Hid ((allErr D n).2.2=0):=hR
  have HV:Hid (entsErr D n (lE xs)=entFrom D n (qOf (lE xs) 0) ((lE xs).drop 0)):=ents_in _ hR
  rw [hR,errV_zero] at h
  obtain ⟨N,hN⟩:∃ N,xs.length=N:=⟨_,rfl⟩
  have HN:Hid (xs.length=N):=hN
  have hNb:(N:Int)≤9223372036854775807:=by have h1:=hE.1;have h2:=hE.2.1;omega
  rw [hN]
  clear hR hN hE
  go_enter Tryz.func16,Tryz.ntmps16
  go_wp2_with fail
  refine h.mono ?_
  rintro e w1 ⟨rfl,hb1⟩
  have hB:Below w.heap.size w w1:=onB HB0.out hb1
  have hz:w.heap.size<w1.heap.size:=by have:=hb1.size;rw [ownOut_size] at this;omega
  have h2:w1.cell? ⟨w.heap.size,0,none⟩=some (.slice A0 n cap):=(hb1.cell (p:=⟨w.heap.size,0,none⟩) (by show w.heap.size<_;rw [ownOut_size];omega)).trans (ownOut_at ..)
  have HM1:Hid (DimsV w1 A0 cap n D A C):=HM.out.later hB
  have HE1:Hid (EnsV w1 AE ce xs):=HE.out.later hB
  have HB:Hid (Below w.heap.size w w1):=hB
  clear hb1 h hB HM HE HB0
  go_wp2_with fail
  go_loopg [22] N (fun g s22 wr => ∃ (k:Nat),k≤N∧g=N-k∧s22=.int .i64 k∧Hid (entFrom D n (qOf (lE xs) k) ((lE xs).drop k)=entFrom D n (qOf (lE xs) 0) ((lE xs).drop 0))∧Hid (∀ j,j<k→entOne D n ((lE xs).getD j noEn)=0)∧Below w1.heap.size w1 wr)
  case atStart=>exact ⟨0,Nat.zero_le _,rfl,rfl,(rfl:entFrom D n (qOf (lE xs) 0) ((lE xs).drop 0)=entFrom D n (qOf (lE xs) 0) ((lE xs).drop 0)),fun j hj=>absurd hj (Nat.not_lt_zero _),Below.refl _ _⟩
  case round =>
   obtain ⟨k,hk,rfl,rfl,HF,HO,hBw⟩:=hrel
   have HBw:Hid (Below w1.heap.size w1 wr):=hBw
   by_cases hlt:k<N
   ·have hkx:k<xs.length:=by rw [HN.out];exact hlt
    have hki:(k:Int)<(N:Int):=by omega
    have hk1:(k:Int)+1≤9223372036854775807:=by omega
    obtain ⟨-,-,h0 | ⟨b,o,rfl,hEs⟩⟩:=HE1.out.later hBw
    ·have:=HN.out;rw [h0] at this;simp at this;omega
    obtain ⟨c1,c2⟩:=hEs.at hkx
    have hpl:=hEs.pl hkx
    have c0:wr.cell? ⟨w.heap.size,0,none⟩=some (.slice A0 n cap):=(hBw.cell (p:=⟨w.heap.size,0,none⟩) hz).trans h2
    have hzr:w.heap.size<wr.heap.size:=Nat.lt_of_lt_of_le hz hBw.size
    have hBo:=ownEn_below wr (xs.getD k noL).A (xs.getD k noL).e.pl.length (xs.getD k noL).c (xs.getD k noL).e.n 54
    have hck:=icheck1_any A0 cap n D A C (xs.getD k noL).A (xs.getD k noL).c (xs.getD k noL).e (ownEn wr (xs.getD k noL).A (xs.getD k noL).e.pl.length (xs.getD k noL).c (xs.getD k noL).e.n 54) HR.out ((HM1.out.later hBw).later hBo) (hpl.later hBo)
    have HBo:Hid (Below wr.heap.size wr (ownEn wr (xs.getD k noL).A (xs.getD k noL).e.pl.length (xs.getD k noL).c (xs.getD k noL).e.n 54)):=hBo
    have HEs:Hid (EnsAt wr b o xs):=hEs
    have HPL:Hid (PlAt wr (xs.getD k noL).A (xs.getD k noL).c (xs.getD k noL).e.pl):=hpl
    have H0:Hid ((ownEn wr (xs.getD k noL).A (xs.getD k noL).e.pl.length (xs.getD k noL).c (xs.getD k noL).e.n 54).cell? ⟨wr.heap.size,0,none⟩=some (.slice (xs.getD k noL).A (xs.getD k noL).e.pl.length (xs.getD k noL).c)):=ownEn_0 ..
    have HS:Hid (wr.heap.size<(ownEn wr (xs.getD k noL).A (xs.getD k noL).e.pl.length (xs.getD k noL).c (xs.getD k noL).e.n 54).heap.size):=by show _<_;rw [ownEn_size];omega
    clear hBw hEs hpl hBo
    by_cases he:entOne D n (xs.getD k noL).e=0
    ·have hKO:=entOne_right HR.out he
     have HK0:Hid (entOne D n ((lE xs).getD k noEn)=0):=by show _=_;rw [lE_at];exact he
     have HSh:Hid ((xs.getD k noL).e.pl.length≤4):=inO_short hKO.1
     rw [he,errV_zero] at hck
     clear he hKO
     rcases Nat.eq_zero_or_pos k with hk0 | hk0
     ·subst hk0
      have HQ:Hid (aheadOk (qOf (lE xs) 0) ((lE xs).getD 0 noEn).pl=true):=rfl
      have HST:Hid (entFrom D n (qOf (lE xs) 0) ((lE xs).drop 0)=entFrom D n (qOf (lE xs) (0+1)) ((lE xs).drop (0+1))):=ent_on (by rw [lE_len];exact hkx) HK0.out HQ.out
      generalize (xs.getD 0 noL).A=A1 at c1 hck HBo H0 HS
      generalize (xs.getD 0 noL).c=k1 at c1 hck HBo H0 HS
      generalize (xs.getD 0 noL).e.n=n1 at c2 hck HBo H0 HS
      generalize (xs.getD 0 noL).e.pl.length=m1 at c1 hck HBo H0 HS
      simp only [Nat.zero_mul,Nat.add_zero] at c1 c2
      clear HPL HSh
      go_wp2_with fail
      refine hck.mono ?_
      rintro e w2 ⟨rfl,hb2⟩
      have HB2:Hid (Below wr.heap.size wr w2):=onB HBo.out hb2
      clear hb2
      go_wp2_with fail
      go_quiet (fail)
      go_wp2_with fail
      go_roundg (N-(0+1))
      case measure=>omega
      case rel =>
       refine ⟨0+1,by omega,rfl,by go_num,HST.out.symm,fun j hj=>?_,below_drewN (onB HBw.out HB2.out) _⟩
       have:j=0:=by omega
       subst this
       exact HK0.out
     ·obtain ⟨j,hj⟩:∃ j,k=j+1:=⟨k-1,by omega⟩
      have hjx:j<xs.length:=by omega
      obtain ⟨d1,d2⟩:=HEs.out.at hjx
      have hjO:=entOne_right HR.out (HO.out j (by omega))
      rw [lE_at] at hjO
      have HJ:Hid (∀ w',Below wr.heap.size wr w'→Calls Tryz.prog 42 #[.agg #[.slice (xs.getD j noL).A (xs.getD j noL).e.pl.length (xs.getD j noL).c,.int .i64 (xs.getD j noL).e.n],.slice (xs.getD k noL).A (xs.getD k noL).e.pl.length (xs.getD k noL).c] w' fun e w''=>e=.returned (.int .i64 (cmpL (xs.getD j noL).e.pl (xs.getD k noL).e.pl))∧Below w'.heap.size w' w''):=fun w' hw'=>order_any _ _ _ _ _ _ _ w' (inO_short hjO.1) HSh.out ((HEs.out.pl hjx).later hw') (HPL.out.later hw')
      have HCN:Hid (decide (0≤cmpL (xs.getD j noL).e.pl (xs.getD k noL).e.pl) = !lessL (xs.getD j noL).e.pl (xs.getD k noL).e.pl):=cmpL_nonneg (xs.getD j noL).e.pl (xs.getD k noL).e.pl
      have HQ:Hid (aheadOk (qOf (lE xs) k) ((lE xs).getD k noEn).pl=lessL (xs.getD j noL).e.pl (xs.getD k noL).e.pl):=by show _=_;rw [←lE_at,←lE_at,hj];rfl
      have hwr:IntKind.i64.wrap ((k:Int)-1)=(j:Int):=by rw [IntKind.wrap_i64];omega
      have hj0:(0:Int)<(k:Int):=by omega
      have HKJ:Hid (k=j+1):=hj
      have hjN:(j:Int)<(N:Int):=by omega
      generalize (xs.getD k noL).A=A1 at c1 hck HBo H0 HS HJ
      generalize (xs.getD k noL).c=k1 at c1 hck HBo H0 HS HJ
      generalize (xs.getD k noL).e.n=n1 at c2 hck HBo H0 HS
      generalize (xs.getD k noL).e.pl.length=m1 at c1 hck HBo H0 HS HJ
      generalize (xs.getD j noL).A=A2 at d1 HJ
      generalize (xs.getD j noL).c=k2 at d1 HJ
      generalize (xs.getD j noL).e.n=n2 at d2 HJ
      generalize (xs.getD j noL).e.pl.length=m2 at d1 HJ
      generalize cmpL (xs.getD j noL).e.pl (xs.getD k noL).e.pl=cc at HJ HCN
      have hbb:=HEs.out.1
      clear HPL HSh hjO hj
      go_wp2_with fail
      refine hck.mono ?_
      rintro e w2 ⟨rfl,hb2⟩
      have hB2:Below wr.heap.size wr w2:=onB HBo.out hb2
      have HB2:Hid (Below wr.heap.size wr w2):=hB2
      have e1:w2.cell? ⟨b,o+j*2,none⟩=some (.slice A2 m2 k2):=(hB2.cell (p:=⟨b,o+j*2,none⟩) hbb).trans d1
      have e2:w2.cell? ⟨b,o+j*2+1,none⟩=some (.int .i64 n2):=(hB2.cell (p:=⟨b,o+j*2+1,none⟩) hbb).trans d2
      have e3:w2.cell? ⟨wr.heap.size,0,none⟩=some (.slice A1 m1 k1):=(hb2.cell (p:=⟨wr.heap.size,0,none⟩) HS.out).trans H0.out
      have hz2:wr.heap.size<w2.heap.size:=Nat.lt_of_lt_of_le HS.out hb2.size
      clear hb2 hB2 c1 c2 d1 d2
      have HC3:Hid (b<w2.heap.size∧wr.heap.size<w2.heap.size∧w2.cell? ⟨b,o+j*2,none⟩=some (.slice A2 m2 k2)∧w2.cell? ⟨b,o+j*2+1,none⟩=some (.int .i64 n2)∧w2.cell? ⟨wr.heap.size,0,none⟩=some (.slice A1 m1 k1)):=⟨Nat.lt_of_lt_of_le hbb HB2.out.size,hz2,e1,e2,e3⟩
      go_wp2_with fail
      go_cut [45] (fun s45 wx=>s45=.bool (decide (0≤cc))∧Below w2.heap.size w2 wx)
      case first =>
       go_region_held3 (fun w'=>Below w2.heap.size w2 w'∧w'.cell? ⟨b,o+j*2,none⟩=some (.slice A2 m2 k2)∧w'.cell? ⟨b,o+j*2+1,none⟩=some (.int .i64 n2)∧w'.cell? ⟨wr.heap.size,0,none⟩=some (.slice A1 m1 k1))
        ((refine keep3 HC3.out ?_;go_grown;done))
        (first | (go_at_call 42;refine (HJ.out _ (onB HB2.out (by go_grown))).mono ?_;rintro e w3 ⟨rfl,hb3⟩;have hN3:=onB (W0:=w2) (by go_grown) hb3;have hy3:=hN3.size;clear hb3))
       all_goals go_wp2_with fail
       all_goals go_meet
       all_goals exact ⟨rfl,by go_grown⟩
      case rest =>
       obtain ⟨rfl,hb3⟩:=hcut
       have HB3:Hid (Below w2.heap.size w2 wc):=hb3
       clear hb3 e1 e2 e3 HC3 HJ hz2 hwr hjN
       obtain ⟨tC,htC⟩:∃ t,decide (0≤cc)=t:=⟨_,rfl⟩
       rw [htC]
       have HTC:Hid (decide (0≤cc)=tC):=htC
       clear htC hk0 hj0 hbb hzr c0
       cases tC
       case true =>
        have HST:Hid (errV (entsErr D n (lE xs))=.iface 66 (.int .i64 7)):=by
         show _=_
         have h3:=HCN.out
         rw [HTC.out] at h3
         rw [HV.out,←HF.out,ent_clash (by rw [lE_len];exact hkx) HK0.out (by rw [HQ.out];simpa using h3)];rfl
        go_wp2_with fail
        go_ret
        rw [HST.out]
        exact ⟨rfl,onB HB.out (onB HBw.out (onB HB2.out HB3.out))⟩
       case false =>
        have HST:Hid (entFrom D n (qOf (lE xs) k) ((lE xs).drop k)=entFrom D n (qOf (lE xs) (k+1)) ((lE xs).drop (k+1))):=by
         show _=_
         have h3:=HCN.out
         rw [HTC.out] at h3
         exact ent_on (by rw [lE_len];exact hkx) HK0.out (by rw [HQ.out];simpa using h3)
        go_wp2_with fail
        go_roundg (N-(k+1))
        case measure=>omega
        case rel =>
         refine ⟨k+1,by omega,rfl,by go_num,HST.out.symm.trans HF.out,fun i hi=>?_,onB HBw.out (onB HB2.out HB3.out)⟩
         rcases Nat.lt_succ_iff_lt_or_eq.1 hi with h1 | rfl
         ·exact HO.out i h1
         ·exact HK0.out
    ·have HFin:Hid (errV (entsErr D n (lE xs))=.iface 66 (.int .i64 (entOne D n (xs.getD k noL).e))):=by
      show _=_
      rw [HV.out,←HF.out,ent_bad (by rw [lE_len];exact hkx) (by rw [lE_at];exact he),lE_at,errV_some he]
     rw [errV_some he] at hck
     generalize entOne D n (xs.getD k noL).e=E at hck HFin
     generalize (xs.getD k noL).A=A1 at c1 hck HBo H0 HS
     generalize (xs.getD k noL).c=k1 at c1 hck HBo H0 HS
     generalize (xs.getD k noL).e.n=n1 at c2 hck HBo H0 HS
     generalize (xs.getD k noL).e.pl.length=m1 at c1 hck HBo H0 HS
     clear HPL he
     go_wp2_with fail
     refine hck.mono ?_
     rintro e w2 ⟨rfl,hb2⟩
     have HB2:Hid (Below wr.heap.size wr w2):=onB HBo.out hb2
     clear hb2
     go_wp2_with fail
     go_ret
     rw [HFin.out]
     exact ⟨rfl,onB HB.out (onB HBw.out HB2.out)⟩
   ·have hke:k=N:=by omega
    subst hke
    have HFin:Hid (errV (entsErr D n (lE xs))=.nilIface):=by show _=_;rw [HV.out,←HF.out,ent_end (by rw [lE_len,HN.out];exact Nat.le_refl _)];rfl
    clear hBw
    go_wp2_with fail
    go_ret
    rw [HFin.out]
    exact ⟨rfl,onB HB.out HBw.out⟩
 ·have HV:Hid (errV (entsErr D n (lE xs))=.iface 66 (.int .i64 (allErr D n).2.2)):=by show _=_;rw [ents_bad _ hR,errV_some hR]
  rw [errV_some hR] at h
  generalize (allErr D n).2.2=E at h HV
  generalize xs.length=N
  clear hR hE HM HE
  go_enter Tryz.func16,Tryz.ntmps16
  go_wp2_with fail
  refine h.mono ?_
  rintro e w1 ⟨rfl,hb1⟩
  go_wp2_with fail
  go_ret
  rw [HV.out]
  exact ⟨rfl,onB HB0.out hb1⟩
end Go.Proofs.YtnegjdcedhnjdaaGreatDoor
