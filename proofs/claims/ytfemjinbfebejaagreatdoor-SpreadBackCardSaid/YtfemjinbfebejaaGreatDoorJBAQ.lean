/-
  slices.swapRangeCmpFunc, rotateCmpFunc at ints: a row of numbers that stand for elements of some type.
-/
import Derived.Shelf.SlSortCmp.Kit1
import Derived.Sort.WalkB2
import Derived.Sort.WalkB12
import Derived.Test.YtfemjinbfebejaaGreatDoorJBAP
namespace Go.Proofs.YtfemjinbfebejaaGreatDoor
open Go Go.ChangeShapes Go.WideShapes Go.ChangeAt Go.RowKit Go.Shelf Go.Lib Go.Sort
set_option linter.unusedSectionVars false
set_option maxRecDepth 100000
variable {α:Type} [Inhabited α]
def encI (ix:α→Nat) (x:α):Value:=.int .i64 ((ix x:Nat):Int)
theorem swr_go (a b n:Nat) (d:Array α) (h:0<n):swr a b n d=swr (a+1) (b+1) (n-1) (swp d a b):=by
 obtain ⟨m,rfl⟩:∃ m,n=m+1:=⟨n-1,by omega⟩
 rfl
set_option maxHeartbeats 8000000 in
theorem swaprange_any (ix:α→Nat) (cf:Value) (blk off cap a b n:Nat) (d0 d:Array α) (w0 w:World) (R:Row1 (encI ix) w0 blk off d0) (hs:d0.size=d.size) (S:SW (encI ix) w0 blk off d w)
  (hab:a+n≤b) (hb:b+n≤d.size) (hsz:d.size≤1000) :
  Calls Tryz.prog 134 #[.slice (some ⟨blk,off,none⟩) d.size cap,.int .i64 a,.int .i64 b,.int .i64 n,cf] w fun e w'=>e=.returned (.tuple #[])∧SW (encI ix) w0 blk off (swr a b n d) w':=by
 have mixed:Tryz.prog.follows .mixedOrders=true:=by kernel_rfl
 have S0:Aside (SW (encI ix) w0 blk off d w):=S
 clear S
 go_enter Tryz.func134,Tryz.ntmps134
 go_wp2
 go_loopg [10] n (fun gg s10 wr => ∃ (i:Nat) (dk:Array α),s10=.int .i64 i∧i≤n∧gg=n-i∧dk.size=d.size∧Aside (SW (encI ix) w0 blk off dk wr)∧Hid (swr (a+i) (b+i) (n-i) dk=swr a b n d))
 case atStart=>exact ⟨0,d,rfl,Nat.zero_le _,rfl,rfl,S0,rfl⟩
 case round =>
  clear S0
  obtain ⟨i,dk,rfl,hin,rfl,hds,S1,HE⟩:=hrel
  by_cases hlt:i<n
  ·have hltz:(i:Int)<(n:Int):=by omega
   go_wp2_with fail
   have r1:IntKind.i64.wrap ((a:Int)+(i:Int))=((a:Int)+(i:Int)):=by rw [IntKind.wrap_i64];omega
   have r2:IntKind.i64.wrap ((b:Int)+(i:Int))=((b:Int)+(i:Int)):=by rw [IntKind.wrap_i64];omega
   have b1:((a:Int)+(i:Int))<(d.size:Int):=by omega
   have b2:((b:Int)+(i:Int))<(d.size:Int):=by omega
   obtain ⟨x,hx⟩:∃ x,x=ix dk[(a+i)]! := ⟨_,rfl⟩
   obtain ⟨y,hy⟩:∃ x,x=ix dk[(b+i)]! := ⟨_,rfl⟩
   have S2:Aside (SW (encI ix) w0 blk off (swp dk (a+i) (b+i)) ((wr.setCell ⟨blk,off+(a+i),none⟩ (.int .i64 (y:Int))).setCell ⟨blk,off+(b+i),none⟩ (.int .i64 (x:Int))).drew):=by rw [hx,hy];exact S1.out.swapped R (a+i) (b+i) (by omega) (by omega)
   have c1:wr.cell? ⟨blk,off+(a+i),none⟩=some (.int .i64 (x:Int)):=by rw [hx];exact S1.out.c1 R (by omega) (a+i) (by omega)
   have c2:wr.cell? ⟨blk,off+(b+i),none⟩=some (.int .i64 (y:Int)):=by rw [hy];exact S1.out.c1 R (by omega) (b+i) (by omega)
   have f1:=S1.out.f1 R (by omega) (a+i) (by omega)
   have f2:=S1.out.f1 R (by omega) (b+i) (by omega)
   obtain ⟨u,c3⟩:=S1.out.c2 R (by omega) (a+i) (b+i) (by omega) (by omega) (.int .i64 (y:Int))
   have HE2:Hid (swr (a+(i+1)) (b+(i+1)) (n-(i+1)) (swp dk (a+i) (b+i))=swr a b n d):=by
    have:=HE.out
    rw [swr_go _ _ _ _ (by omega)] at this
    rw [←this];congr 1
   have HSZ:Hid ((swp dk (a+i) (b+i)).size=d.size):=by show _=_;rw [size_swp];exact hds
   clear S1 hx hy HE hds
   go_wp2_with fail
   go_big_region_o
   clear c1 c2 c3 f1 f2
   generalize ((wr.setCell ⟨blk,off+(a+i),none⟩ (.int .i64 (y:Int))).setCell ⟨blk,off+(b+i),none⟩ (.int .i64 (x:Int))).drew=w2 at S2 ⊢
   go_wp2
   go_roundg (n-(i+1))
   case measure=>omega
   case rel=>exact ⟨i+1,swp dk (a+i) (b+i),by go_num,by omega,rfl,HSZ.out,S2,HE2⟩
  ·have hie:i=n:=by omega
   subst hie
   go_wp2
   go_end0
   refine ⟨rfl,?_⟩
   have:=HE.out
   rw [Nat.sub_self] at this
   rw [←this];exact S1.out
set_option maxHeartbeats 8000000 in
theorem rotate_any (ix:α→Nat) (cf:Value) (blk off cap a m b:Nat) (d0 d:Array α) (w0 w:World) (R:Row1 (encI ix) w0 blk off d0) (hs:d0.size=d.size) (S:SW (encI ix) w0 blk off d w)
  (h1:a<m) (h2:m<b) (hb:b≤d.size) (hsz:d.size≤1000) :
  Calls Tryz.prog 109 #[.slice (some ⟨blk,off,none⟩) d.size cap,.int .i64 a,.int .i64 m,.int .i64 b,cf] w fun e w'=>e=.returned (.tuple #[])∧∃ d',Rot a m b d d'∧SW (encI ix) w0 blk off d' w':=by
 have mixed:Tryz.prog.follows .mixedOrders=true:=by kernel_rfl
 have HSR:∀ (a b n:Nat) (dk:Array α) (w':World),dk.size=d.size→a+n≤b→b+n≤d.size→Aside (SW (encI ix) w0 blk off dk w') →
   Calls Tryz.prog 134 #[.slice (some ⟨blk,off,none⟩) d.size cap,.int .i64 a,.int .i64 b,.int .i64 n,cf] w' fun e w'=>e=.returned (.tuple #[])∧SW (encI ix) w0 blk off (swr a b n dk) w':=fun a b n dk w' e h1 h2 h3=>by
  have:=swaprange_any ix cf blk off cap a b n d0 dk w0 w' R (by omega) h3 h1 (by omega) (by omega)
  rwa [e] at this
 have S0:Aside (SW (encI ix) w0 blk off d w):=S
 clear S
 go_enter Tryz.func109,Tryz.ntmps109
 go_wp2
 go_loopg [10,11] (b-a) (fun gg s5 s6 wr => ∃ (i j:Nat) (dk:Array α),s5=.int .i64 i∧s6=.int .i64 j∧0<i∧0<j∧a+i≤m∧m+j≤b∧i+j≤gg∧dk.size=d.size∧Aside (SW (encI ix) w0 blk off dk wr)∧Hid (∀ d',Rot (m-i) m (m+j) dk d'→Rot a m b d d'))
 case atStart=>exact ⟨m-a,b-m,d,by go_num,by go_num,by omega,by omega,by omega,by omega,by omega,rfl,S0,fun d' h=>by rwa [show m-(m-a)=a by omega,show m+(b-m)=b by omega] at h⟩
 case round =>
  clear S0
  obtain ⟨i,j,dk,rfl,rfl,hi,hj,hai,hmj,hgg,hds,S1,HE⟩:=hrel
  have hr1:IntKind.i64.wrap ((m:Int)-(i:Int))=((m-i:Nat):Int):=by rw [IntKind.wrap_i64];omega
  by_cases hne:i=j
  ·subst hne
   have hc:=HSR (m-i) m i dk wr hds (by omega) (by omega) S1
   have HE2:=HE.out _ (rot_end (d:=dk) (i:=i) (m:=m) (by omega) (by omega))
   go_wp2_with fail
   refine hc.mono ?_
   rintro e w' ⟨rfl,hS⟩
   go_wp2_with fail
   go_end0
   exact ⟨rfl,_,HE2,hS⟩
  ·have hneI : ¬ (i:Int)=(j:Int):=by omega
   by_cases hij:j<i
   ·have hijI:(i:Int) > (j:Int):=by omega
    have hc:=HSR (m-i) m j dk wr hds (by omega) (by omega) S1
    have hsz2:=(swr_spec j (m-i) m dk (by omega) (by omega)).1
    have HE2:Hid (∀ d',Rot (m-(i-j)) m (m+j) (swr (m-i) m j dk) d'→Rot a m b d d'):=fun d' h=>HE.out d' (rot_big hij (by omega) (by omega) h)
    clear HE S1
    go_wp2_with fail
    refine hc.mono ?_
    rintro e w' ⟨rfl,hS⟩
    have HS:Aside (SW (encI ix) w0 blk off (swr (m-i) m j dk) w'):=hS
    clear hS hc
    go_wp2
    go_roundg (i-j+j)
    case measure=>omega
    case rel=>exact ⟨i-j,j,swr (m-i) m j dk,by go_num,rfl,by omega,hj,by omega,hmj,Nat.le_refl _,by rw [hsz2];exact hds,HS,HE2⟩
   ·have hijI : ¬ (i:Int) > (j:Int):=by omega
    have hr2:IntKind.i64.wrap ((m:Int)+(j:Int)-(i:Int))=((m+j-i:Nat):Int):=by rw [IntKind.wrap_i64];omega
    have hc:=HSR (m-i) (m+j-i) i dk wr hds (by omega) (by omega) S1
    have hsz2:=(swr_spec i (m-i) (m+j-i) dk (by omega) (by omega)).1
    have HE2:Hid (∀ d',Rot (m-i) m (m+(j-i)) (swr (m-i) (m+j-i) i dk) d'→Rot a m b d d'):=fun d' h=>HE.out d' (rot_less (by omega) (by omega) (by omega) h)
    clear HE S1
    go_wp2_with fail
    refine hc.mono ?_
    rintro e w' ⟨rfl,hS⟩
    have HS:Aside (SW (encI ix) w0 blk off (swr (m-i) (m+j-i) i dk) w'):=hS
    clear hS hc
    go_wp2
    go_roundg (i+(j-i))
    case measure=>omega
    case rel=>exact ⟨i,j-i,swr (m-i) (m+j-i) i dk,rfl,by go_num,hi,by omega,hai,by omega,Nat.le_refl _,by rw [hsz2];exact hds,HS,HE2⟩
variable {α:Type} [Inhabited α]
structure MgC (cf:α→α→Int) (tot:α→α→Bool) (ix:α→Nat) (g:Nat) (cb:Array Value) (blk off:Nat) (d0:Array α) (w0:World):Prop where
 eg:∀ args w,(callFunc g args).run Tryz.prog w=.ok (.enter g args) w
 hc:CmpLays1 Tryz.prog g cb (encI ix) cf blk off d0.size w0
 R:Row1 (encI ix) w0 blk off d0
 T:Tie (ltOf cf) tot ix
 sz:d0.size≤1000
set_option maxHeartbeats 8000000 in
theorem sym1_any {cf:α→α→Int} {tot:α→α→Bool} {ix:α→Nat} {g:Nat} {cb:Array Value} {blk off:Nat} {d0:Array α} {w0:World} (M:MgC cf tot ix g cb blk off d0 w0)
  (cap a m b:Nat) (d:Array α) (w:World) (hs:d0.size=d.size) (S:SW (encI ix) w0 blk off d w) (W:TwoP tot ix a m b d) (hm:m=a+1) (h2:m<b) (hb:b≤d.size) :
  Calls Tryz.prog 96 #[.slice (some ⟨blk,off,none⟩) d.size cap,.int .i64 a,.int .i64 m,.int .i64 b,.func (.func g) #[] cb] w fun e w'=>e=.returned (.tuple #[])∧∃ d',SortedIn tot a b d'∧PermIn a b d d'∧SW (encI ix) w0 blk off d' w':=by
 have mixed:Tryz.prog.follows .mixedOrders=true:=by kernel_rfl
 obtain ⟨eg,hcmp,R,T,hsz⟩:=M
 have HC:Aside (CmpLays1 Tryz.prog g cb (encI ix) cf blk off d0.size w0):=hcmp
 have HT:Hid (Tie (ltOf cf) tot ix):=T
 have HW:Hid (TwoP tot ix a (a+1) b d):=by rw [hm] at W;exact W
 have S0:Aside (SW (encI ix) w0 blk off d w):=S
 clear S hcmp T W
 have hm1:IntKind.i64.wrap ((m:Int)-(a:Int))=1:=by rw [IntKind.wrap_i64];omega
 have h2':a+1<b:=by omega
 have HM:Hid (m=a+1):=hm
 clear hm h2
 go_enter Tryz.func96,Tryz.ntmps96
 go_wp2
 go_loopg [10,11] (b-a) (fun gg s10 s11 wr => ∃ (i j:Nat),s10=.int .i64 i∧s11=.int .i64 j∧a+1≤i∧i≤j∧j≤b∧j-i≤gg∧Aside (SW (encI ix) w0 blk off d wr)∧Hid ((i=a+1∨tot d[i-1]! d[a]! = true)∧(j=b∨tot d[j]! d[a]! = false)))
 case atStart=>have hm:=HM.out;exact ⟨m,b,rfl,rfl,by omega,by omega,Nat.le_refl _,by omega,S0,⟨Or.inl hm,Or.inl rfl⟩⟩
 case round =>
  clear S0
  obtain ⟨i,j,rfl,rfl,hai,hij,hjb,hgg,S1,HE⟩:=hrel
  by_cases hlt:i<j
  ·have hltz:(i:Int)<(j:Int):=by omega
   have htie:=HT.out.on d[(i+j) / 2]! d[a]! (HW.out.lo a ((i+j) / 2) (Nat.le_refl _) (by omega) (by omega) (by omega))
   have ba2:(a:Int)<(d.size:Int):=by omega
   have ea:(((i:Int)+(j:Int)) / 2).toNat=(i+j) / 2:=by omega
   have pa:(0:Int)≤((i:Int)+(j:Int)) / 2:=by omega
   have ba:((i:Int)+(j:Int)) / 2<(d.size:Int):=by omega
   have l1:=S1.out.cl R (by omega) ((i+j) / 2) (by omega)
   have l2:=S1.out.cl R (by omega) a (by omega)
   obtain ⟨x,hx⟩:∃ x,x=d[(i+j) / 2]! := ⟨_,rfl⟩
   obtain ⟨y,hy⟩:∃ y,y=d[a]! := ⟨_,rfl⟩
   rw [←hx,←hy] at htie
   rw [←hx] at l1
   rw [←hy] at l2
   have hc:=S1.out.cmp HC.out (by omega) x y
   unfold encI at l1 l2 hc
   cases hv:tot x y with
   | true =>
    have hd:decide (cf x y<0)=true:=by rw [hv] at htie;exact htie
    have HE2:Hid (((i+j) / 2+1=a+1∨tot d[(i+j) / 2+1-1]! d[a]! = true)∧(j=b∨tot d[j]! d[a]! = false)):=⟨Or.inr (by rw [Nat.add_sub_cancel,←hx,←hy];exact hv),HE.out.2⟩
    clear HE hv htie hx hy
    go_wp2_with fail
    go_quiet_grown (first | (go_at_fn g;refine Calls.grown_of (hc _ _)))
    have S2:Aside (SW (encI ix) w0 blk off d (grow (wr.drewN nq) osq)):=S1.out.grown nq osq
    clear l1 l2 hc S1
    generalize grow (wr.drewN nq) osq=w2 at S2 ⊢
    go_wp2
    go_roundg (j-((i+j) / 2+1))
    case measure=>omega
    case rel=>exact ⟨(i+j) / 2+1,j,by go_num,rfl,by omega,by omega,hjb,Nat.le_refl _,S2,HE2⟩
   | false =>
    have hd:decide (cf x y<0)=false:=by rw [hv] at htie;exact htie
    have HE2:Hid ((i=a+1∨tot d[i-1]! d[a]! = true)∧((i+j) / 2=b∨tot d[(i+j) / 2]! d[a]! = false)):=⟨HE.out.1,Or.inr (by rw [←hx,←hy];exact hv)⟩
    clear HE hv htie hx hy
    go_wp2_with fail
    go_quiet_grown (first | (go_at_fn g;refine Calls.grown_of (hc _ _)))
    have S2:Aside (SW (encI ix) w0 blk off d (grow (wr.drewN nq) osq)):=S1.out.grown nq osq
    clear l1 l2 hc S1
    generalize grow (wr.drewN nq) osq=w2 at S2 ⊢
    go_wp2
    go_roundg ((i+j) / 2-i)
    case measure=>omega
    case rel=>exact ⟨i,(i+j) / 2,rfl,by go_num,hai,by omega,by omega,Nat.le_refl _,S2,HE2⟩
  ·have hie:i=j:=by omega
   subst hie
   clear hlt hij hgg
   have hi1:IntKind.i64.wrap ((i:Int)-1)=((i-1:Nat):Int):=by rw [IntKind.wrap_i64];omega
   go_wp2
   go_loopg [13] (i-1-a) (fun gg s13 wr => ∃ (k:Nat) (dk:Array α),s13=.int .i64 k∧a≤k∧k≤i-1∧gg=i-1-k∧dk.size=d.size∧Aside (SW (encI ix) w0 blk off dk wr)∧Hid (swr k (k+1) (i-1-k) dk=swr a (a+1) (i-1-a) d))
   case atStart=>exact ⟨a,d,rfl,Nat.le_refl _,by omega,rfl,rfl,S1,rfl⟩
   case round =>
    clear S1
    obtain ⟨k,dk,rfl,hak,hki,rfl,hds,S1,HK⟩:=hrel
    by_cases hlt:k<i-1
    ·have hltz:(k:Int)<((i-1:Nat):Int):=by omega
     have r1:IntKind.i64.wrap ((k:Int)+1)=(k:Int)+1:=by rw [IntKind.wrap_i64];omega
     have b1:(k:Int)<(d.size:Int):=by omega
     have b2:(k:Int)+1<(d.size:Int):=by omega
     obtain ⟨x,hx⟩:∃ x,x=ix dk[k]! := ⟨_,rfl⟩
     obtain ⟨y,hy⟩:∃ x,x=ix dk[(k+1)]! := ⟨_,rfl⟩
     have S2:Aside (SW (encI ix) w0 blk off (swp dk k (k+1)) ((wr.setCell ⟨blk,off+k,none⟩ (.int .i64 (y:Int))).setCell ⟨blk,off+(k+1),none⟩ (.int .i64 (x:Int))).drew):=by rw [hx,hy];exact S1.out.swapped R k (k+1) (by omega) (by omega)
     have c1:wr.cell? ⟨blk,off+k,none⟩=some (.int .i64 (x:Int)):=by rw [hx];exact S1.out.c1 R (by omega) k (by omega)
     have c2:wr.cell? ⟨blk,off+(k+1),none⟩=some (.int .i64 (y:Int)):=by rw [hy];exact S1.out.c1 R (by omega) (k+1) (by omega)
     have f1:=S1.out.f1 R (by omega) k (by omega)
     have f2:=S1.out.f1 R (by omega) (k+1) (by omega)
     obtain ⟨u,c3⟩:=S1.out.c2 R (by omega) k (k+1) (by omega) (by omega) (.int .i64 (y:Int))
     have HK2:Hid (swr (k+1) (k+1+1) (i-1-(k+1)) (swp dk k (k+1))=swr a (a+1) (i-1-a) d):=by
      have:=HK.out
      rw [swr_go _ _ _ _ (by omega)] at this
      rw [←this];congr 1
     have HSZ:Hid ((swp dk k (k+1)).size=d.size):=by show _=_;rw [size_swp];exact hds
     clear S1 hx hy HK hds
     go_wp2_with fail
     go_big_region_o
     clear c1 c2 c3 f1 f2
     generalize ((wr.setCell ⟨blk,off+k,none⟩ (.int .i64 (y:Int))).setCell ⟨blk,off+(k+1),none⟩ (.int .i64 (x:Int))).drew=w2 at S2 ⊢
     go_wp2
     go_roundg (i-1-(k+1))
     case measure=>omega
     case rel=>exact ⟨k+1,swp dk k (k+1),by go_num,by omega,by omega,rfl,HSZ.out,S2,HK2⟩
    ·have hke:k=i-1:=by omega
     have hltz : ¬ (k:Int)<((i-1:Nat):Int):=by omega
     have hfin:SortedIn tot a b dk∧PermIn a b d dk:=by
      have hK:=HK.out
      rw [hke,Nat.sub_self] at hK
      have hr:=mvr_spec (i-1-a) a d (by omega)
      rw [←hK,show a+1+(i-1-a)=i by omega] at hr
      exact one_right HT.out HW.out hai hjb hb HE.out.1 HE.out.2 hr
     have HF:Hid (SortedIn tot a b dk∧PermIn a b d dk):=hfin
     clear hfin
     go_wp2
     refine bodyPost_ret (results_none rfl _ _ _) rfl ?_
     exact ⟨rfl,dk,HF.out.1,HF.out.2,S1.out⟩
end Go.Proofs.YtfemjinbfebejaaGreatDoor
