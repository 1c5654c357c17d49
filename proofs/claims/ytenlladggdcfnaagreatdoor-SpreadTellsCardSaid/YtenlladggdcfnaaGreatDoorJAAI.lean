/-
  slices.symMergeCmpFunc at ints where the second part is one element.
-/
import Derived.Deep.CutRange
import Derived.Test.YtenlladggdcfnaaGreatDoorJAAF
import Derived.Test.YtenlladggdcfnaaGreatDoorJAAH
namespace Go.Proofs.YtenlladggdcfnaaGreatDoor
open Go Go.ChangeShapes Go.WideShapes Go.ChangeAt Go.RowKit Go.Shelf Go.Lib Go.Sort
set_option linter.unusedSectionVars false
set_option maxRecDepth 100000
variable {α:Type} [Inhabited α]
set_option maxHeartbeats 8000000 in
theorem sym2_any {cf:α→α→Int} {tot:α→α→Bool} {ix:α→Nat} {g:Nat} {cb:Array Value} {blk off:Nat} {d0:Array α} {w0:World} (M:MgC cf tot ix g cb blk off d0 w0)
  (cap a m b:Nat) (d:Array α) (w:World) (hs:d0.size=d.size) (S:SW (encI ix) w0 blk off d w) (W:TwoP tot ix a m b d) (hm:b=m+1) (h2:a+1<m) (hb:b≤d.size) :
  Calls Tryz.prog 85 #[.slice (some ⟨blk,off,none⟩) d.size cap,.int .i64 a,.int .i64 m,.int .i64 b,.func (.func g) #[] cb] w fun e w'=>e=.returned (.tuple #[])∧∃ d',SortedIn tot a b d'∧PermIn a b d d'∧SW (encI ix) w0 blk off d' w':=by
 have mixed:Tryz.prog.follows .mixedOrders=true:=by kernel_rfl
 obtain ⟨eg,hcmp,R,T,hsz⟩:=M
 have HC:Aside (CmpLays1 Tryz.prog g cb (encI ix) cf blk off d0.size w0):=hcmp
 have HT:Hid (Tie (ltOf cf) tot ix):=T
 have HW:Hid (TwoP tot ix a m (m+1) d):=by rw [hm] at W;exact W
 have S0:Aside (SW (encI ix) w0 blk off d w):=S
 clear S hcmp T W
 have hm0:IntKind.i64.wrap ((m:Int)-(a:Int))=((m-a:Nat):Int):=by rw [IntKind.wrap_i64];omega
 have hm3:(((m-a:Nat):Int) == 1)=false:=by simp;omega
 have hm1:IntKind.i64.wrap ((b:Int)-(m:Int))=1:=by rw [IntKind.wrap_i64];omega
 have hmb:m<d.size:=by omega
 have HM:Hid (b=m+1):=hm
 clear hm hb
 go_enter Tryz.func85,Tryz.ntmps85
 go_wp2
 go_loopg [14,15] (m-a) (fun gg s10 s11 wr => ∃ (i j:Nat),s10=.int .i64 i∧s11=.int .i64 j∧a≤i∧i≤j∧j≤m∧j-i≤gg∧Aside (SW (encI ix) w0 blk off d wr)∧Hid ((i=a∨tot d[m]! d[i-1]! = false)∧(j=m∨tot d[m]! d[j]! = true)))
 case atStart=>exact ⟨a,m,rfl,rfl,by omega,by omega,Nat.le_refl _,by omega,S0,⟨Or.inl rfl,Or.inl rfl⟩⟩
 case round =>
  clear S0
  obtain ⟨i,j,rfl,rfl,hai,hij,hjb,hgg,S1,HE⟩:=hrel
  by_cases hlt:i<j
  ·have hltz:(i:Int)<(j:Int):=by omega
   have htie:=HT.out.on d[m]! d[(i+j) / 2]! (HW.out.lo ((i+j) / 2) m (by omega) (by omega) (by omega) (by omega))
   have ba2:(m:Int)<(d.size:Int):=by omega
   have ea:(((i:Int)+(j:Int)) / 2).toNat=(i+j) / 2:=by omega
   have pa:(0:Int)≤((i:Int)+(j:Int)) / 2:=by omega
   have ba:((i:Int)+(j:Int)) / 2<(d.size:Int):=by omega
   have l1:=S1.out.cl R (by omega) m (by omega)
   have l2:=S1.out.cl R (by omega) ((i+j) / 2) (by omega)
   obtain ⟨x,hx⟩:∃ x,x=d[m]! := ⟨_,rfl⟩
   obtain ⟨y,hy⟩:∃ y,y=d[(i+j) / 2]! := ⟨_,rfl⟩
   rw [←hx,←hy] at htie
   rw [←hx] at l1
   rw [←hy] at l2
   have hc:=S1.out.cmp HC.out (by omega) x y
   unfold encI at l1 l2 hc
   cases hv:tot x y with
   | true =>
    have hd:decide (cf x y<0)=true:=by rw [hv] at htie;exact htie
    have HE2:Hid ((i=a∨tot d[m]! d[i-1]! = false)∧((i+j) / 2=m∨tot d[m]! d[(i+j) / 2]! = true)):=⟨HE.out.1,Or.inr (by rw [←hx,←hy];exact hv)⟩
    clear HE hv htie hx hy
    go_wp2_with fail
    go_quiet_grown (first | (go_at_fn g;refine Calls.grown_of (hc _ _)))
    have S2:Aside (SW (encI ix) w0 blk off d (grow (wr.drewN nq) osq)):=S1.out.grown nq osq
    clear l1 l2 hc S1
    generalize grow (wr.drewN nq) osq=w2 at S2 ⊢
    go_wp2
    go_roundg ((i+j) / 2-i)
    case measure=>omega
    case rel=>exact ⟨i,(i+j) / 2,rfl,by go_num,hai,by omega,by omega,Nat.le_refl _,S2,HE2⟩
   | false =>
    have hd:decide (cf x y<0)=false:=by rw [hv] at htie;exact htie
    have HE2:Hid (((i+j) / 2+1=a∨tot d[m]! d[(i+j) / 2+1-1]! = false)∧(j=m∨tot d[m]! d[j]! = true)):=⟨Or.inr (by rw [Nat.add_sub_cancel,←hx,←hy];exact hv),HE.out.2⟩
    clear HE hv htie hx hy
    go_wp2_with fail
    go_quiet_grown (first | (go_at_fn g;refine Calls.grown_of (hc _ _)))
    have S2:Aside (SW (encI ix) w0 blk off d (grow (wr.drewN nq) osq)):=S1.out.grown nq osq
    clear l1 l2 hc S1
    generalize grow (wr.drewN nq) osq=w2 at S2 ⊢
    go_wp2
    go_roundg (j-((i+j) / 2+1))
    case measure=>omega
    case rel=>exact ⟨(i+j) / 2+1,j,by go_num,rfl,by omega,by omega,hjb,Nat.le_refl _,S2,HE2⟩
  ·have hie:i=j:=by omega
   subst hie
   clear hlt hij hgg
   go_wp2
   go_loopg [17] (m-i) (fun gg s13 wr => ∃ (k:Nat) (dk:Array α),s13=.int .i64 k∧i≤k∧k≤m∧gg=k-i∧dk.size=d.size∧Aside (SW (encI ix) w0 blk off dk wr)∧Hid (mvl (k-i) k dk=mvl (m-i) m d))
   case atStart=>exact ⟨m,d,rfl,by omega,Nat.le_refl _,rfl,rfl,S1,rfl⟩
   case round =>
    clear S1
    obtain ⟨k,dk,rfl,hak,hki,rfl,hds,S1,HK⟩:=hrel
    by_cases hlt:i<k
    ·have hltz:(k:Int) > (i:Int):=by omega
     have r1:IntKind.i64.wrap ((k:Int)-1)=((k-1:Nat):Int):=by rw [IntKind.wrap_i64];omega
     have b1:(k:Int)<(d.size:Int):=by omega
     have b2:((k-1:Nat):Int)<(d.size:Int):=by omega
     obtain ⟨x,hx⟩:∃ x,x=ix dk[k]! := ⟨_,rfl⟩
     obtain ⟨y,hy⟩:∃ x,x=ix dk[k-1]! := ⟨_,rfl⟩
     have S2:Aside (SW (encI ix) w0 blk off (swp dk k (k-1)) ((wr.setCell ⟨blk,off+k,none⟩ (.int .i64 (y:Int))).setCell ⟨blk,off+(k-1),none⟩ (.int .i64 (x:Int))).drew):=by rw [hx,hy];exact S1.out.swapped R k (k-1) (by omega) (by omega)
     have c1:wr.cell? ⟨blk,off+k,none⟩=some (.int .i64 (x:Int)):=by rw [hx];exact S1.out.c1 R (by omega) k (by omega)
     have c2:wr.cell? ⟨blk,off+(k-1),none⟩=some (.int .i64 (y:Int)):=by rw [hy];exact S1.out.c1 R (by omega) (k-1) (by omega)
     have f1:=S1.out.f1 R (by omega) k (by omega)
     have f2:=S1.out.f1 R (by omega) (k-1) (by omega)
     obtain ⟨u,c3⟩:=S1.out.c2 R (by omega) k (k-1) (by omega) (by omega) (.int .i64 (y:Int))
     have HK2:Hid (mvl (k-1-i) (k-1) (swp dk k (k-1))=mvl (m-i) m d):=by
      have:=HK.out
      rw [show k-i=(k-1-i)+1 by omega] at this
      exact this
     have HSZ:Hid ((swp dk k (k-1)).size=d.size):=by show _=_;rw [size_swp];exact hds
     clear S1 hx hy HK hds
     go_wp2_with fail
     go_big_region_o
     clear c1 c2 c3 f1 f2
     generalize ((wr.setCell ⟨blk,off+k,none⟩ (.int .i64 (y:Int))).setCell ⟨blk,off+(k-1),none⟩ (.int .i64 (x:Int))).drew=w2 at S2 ⊢
     go_wp2
     go_roundg (k-1-i)
     case measure=>omega
     case rel=>exact ⟨k-1,swp dk k (k-1),by go_num,by omega,by omega,rfl,HSZ.out,S2,HK2⟩
    ·have hke:k=i:=by omega
     have hltz : ¬ (k:Int) > (i:Int):=by omega
     have hfin:SortedIn tot a b dk∧PermIn a b d dk:=by
      have hK:=HK.out
      rw [hke,Nat.sub_self] at hK
      have hr:=mvl_spec (m-i) m d (by omega) (by omega)
      rw [←hK,show m-(m-i)=i by omega] at hr
      rw [HM.out]
      exact one_left HT.out HW.out hai hjb (by omega) HE.out.1 HE.out.2 hr
     have HF:Hid (SortedIn tot a b dk∧PermIn a b d dk):=hfin
     clear hfin
     go_wp2
     refine bodyPost_ret (results_none rfl _ _ _) rfl ?_
     exact ⟨rfl,dk,HF.out.1,HF.out.2,S1.out⟩
variable {α:Type} [Inhabited α]
def MergeOk (tot:α→α→Bool) (ix:α→Nat) (g:Nat) (cb:Array Value) (blk off:Nat) (d0:Array α) (w0:World) (cap N:Nat):Prop :=
 ∀ (a m b:Nat) (d:Array α) (w:World),b-a≤N→d0.size=d.size→Aside (SW (encI ix) w0 blk off d w)→TwoP tot ix a m b d→a<m→m<b→b≤d.size →
  Calls Tryz.prog 85 #[.slice (some ⟨blk,off,none⟩) d.size cap,.int .i64 a,.int .i64 m,.int .i64 b,.func (.func g) #[] cb] w fun e w'=>e=.returned (.tuple #[])∧∃ d',SortedIn tot a b d'∧PermIn a b d d'∧SW (encI ix) w0 blk off d' w'
set_option maxHeartbeats 16000000 in
theorem symmain_any {cf:α→α→Int} {tot:α→α→Bool} {ix:α→Nat} {g:Nat} {cb:Array Value} {blk off:Nat} {d0:Array α} {w0:World} (M:MgC cf tot ix g cb blk off d0 w0)
  (cap N:Nat) (IH:MergeOk tot ix g cb blk off d0 w0 cap N) (a m b:Nat) (d:Array α) (w:World) (hN:b-a≤N+1) (hs:d0.size=d.size) (S:SW (encI ix) w0 blk off d w) (W:TwoP tot ix a m b d) (h1:a+1<m) (h2:m+1<b) (hb:b≤d.size) :
  Calls Tryz.prog 85 #[.slice (some ⟨blk,off,none⟩) d.size cap,.int .i64 a,.int .i64 m,.int .i64 b,.func (.func g) #[] cb] w fun e w'=>e=.returned (.tuple #[])∧∃ d',SortedIn tot a b d'∧PermIn a b d d'∧SW (encI ix) w0 blk off d' w':=by
 have mixed:Tryz.prog.follows .mixedOrders=true:=by kernel_rfl
 obtain ⟨eg,hcmp,R,T,hsz⟩:=M
 have HC:Aside (CmpLays1 Tryz.prog g cb (encI ix) cf blk off d0.size w0):=hcmp
 have HT:Hid (Tie (ltOf cf) tot ix):=T
 have HW:Hid (TwoP tot ix a m b d):=W
 have HI:Aside (MergeOk tot ix g cb blk off d0 w0 cap N):=IH
 have HR:Aside (Row1 (encI ix) w0 blk off d0):=R
 have S0:Aside (SW (encI ix) w0 blk off d w):=S
 clear S hcmp T W IH R
 obtain ⟨h,hg1,hg2,hgI⟩:∃ h:Nat,2*h≤a+b∧a+b≤2*h+1∧((a:Int)+(b:Int)) / 2=(h:Int):=⟨(a+b) / 2,by omega,by omega,by omega⟩
 obtain ⟨n,hn1,hn2,hnI⟩:∃ n:Nat,n≤h+m∧h+m≤n∧IntKind.i64.wrap ((h:Int)+(m:Int))=(n:Int):=⟨h+m,Nat.le_refl _,Nat.le_refl _,by rw [IntKind.wrap_i64];omega⟩
 obtain ⟨p,hp1,hp2,hpI⟩:∃ p:Nat,p+1≤n∧n≤p+1∧IntKind.i64.wrap ((n:Int)-1)=(p:Int):=⟨n-1,by omega,by omega,by rw [IntKind.wrap_i64];omega⟩
 obtain ⟨z1,hz1,hz1I⟩:∃ z:Nat,1<z∧IntKind.i64.wrap ((m:Int)-(a:Int))=(z:Int):=⟨m-a,by omega,by rw [IntKind.wrap_i64];omega⟩
 obtain ⟨z2,hz2,hz2I⟩:∃ z:Nat,1<z∧IntKind.i64.wrap ((b:Int)-(m:Int))=(z:Int):=⟨b-m,by omega,by rw [IntKind.wrap_i64];omega⟩
 have hz1':((z1:Int) == 1)=false:=by simp;omega
 have hz2':((z2:Int) == 1)=false:=by simp;omega
 go_enter Tryz.func85,Tryz.ntmps85
 go_upto_if 140 with fail
 go_cut [20,21,140] from 141 to 146 (fun s20 s21 s140 wx => ∃ (s0 r0:Nat) (x:Bool),s20=.int .i64 s0∧s21=.int .i64 r0∧s140=.bool x∧Hid ((s0+b=n∧r0=h∧h<m)∨(s0=a∧r0=m∧m≤h))∧Aside (SW (encI ix) w0 blk off d wx))
 case first =>
  by_cases hmh:h<m
  ·have hmI:(m:Int) > (h:Int):=by omega
   have hr0:IntKind.i64.wrap ((n:Int)-(b:Int))=((n-b:Nat):Int):=by rw [IntKind.wrap_i64];omega
   go_wp2_with fail
   go_meet
   exact ⟨n-b,h,_,rfl,rfl,rfl,Or.inl ⟨by omega,rfl,hmh⟩,S0⟩
  ·have hmI : ¬ (m:Int) > (h:Int):=by omega
   go_wp2_with fail
   go_meet
   exact ⟨a,m,_,rfl,rfl,rfl,Or.inr ⟨rfl,rfl,by omega⟩,S0⟩
 case rest =>
 obtain ⟨s0,r0,b140,rfl,rfl,rfl,HS0,S1⟩:=hcut
 have f0:a≤s0∧s0≤r0∧r0≤m∧m+r0≤n∧n≤b+s0:=by have:=HS0.out;omega
 obtain ⟨f1,f2,f3,f4,f5⟩:=f0
 clear S0
 go_wp2_with fail
 go_loopg [20,21] (r0-s0) (fun gg s20 s21 wr => ∃ s r:Nat,s20=.int .i64 s∧s21=.int .i64 r∧s0≤s∧s≤r∧r≤r0∧r-s≤gg∧Aside (SW (encI ix) w0 blk off d wr)∧Hid ((s=s0∨tot d[n-s]! d[s-1]! = false)∧(r=r0∨tot d[n-r-1]! d[r]! = true)))
 case atStart=>exact ⟨s0,r0,rfl,rfl,Nat.le_refl _,f2,Nat.le_refl _,by omega,S1,⟨Or.inl rfl,Or.inl rfl⟩⟩
 case round =>
  clear S1
  obtain ⟨s,r,rfl,rfl,hss,hsr,hrr,hgg,S1,HE⟩:=hrel
  by_cases hlt:s<r
  ·have hltz:(s:Int)<(r:Int):=by omega
   obtain ⟨c,hc1,hc2,hcI⟩:∃ c:Nat,2*c≤s+r∧s+r≤2*c+1∧((s:Int)+(r:Int)) / 2=(c:Int):=⟨(s+r) / 2,by omega,by omega,by omega⟩
   obtain ⟨q,hq1,hq2,hqI⟩:∃ q:Nat,q+c≤p∧p≤q+c∧IntKind.i64.wrap ((p:Int)-(c:Int))=(q:Int):=⟨p-c,by omega,by omega,by rw [IntKind.wrap_i64];omega⟩
   have htie:=HT.out.on d[q]! d[c]! (HW.out.lo c q (by omega) (by omega) (by omega) (by omega))
   have hqs:(q:Int)<(d.size:Int):=by omega
   have hcs:(c:Int)<(d.size:Int):=by omega
   have l1:=S1.out.cl HR.out (by omega) q (by omega)
   have l2:=S1.out.cl HR.out (by omega) c (by omega)
   obtain ⟨x,hx⟩:∃ x,x=d[q]! := ⟨_,rfl⟩
   obtain ⟨y,hy⟩:∃ y,y=d[c]! := ⟨_,rfl⟩
   rw [←hx,←hy] at htie
   rw [←hx] at l1
   rw [←hy] at l2
   have hc:=S1.out.cmp HC.out (by omega) x y
   unfold encI at l1 l2 hc
   cases hv:tot x y with
   | true =>
    have hd:decide (cf x y<0)=true:=by rw [hv] at htie;exact htie
    have HE2:Hid ((s=s0∨tot d[n-s]! d[s-1]! = false)∧(c=r0∨tot d[n-c-1]! d[c]! = true)):=⟨HE.out.1,Or.inr (by rw [show n-c-1=q by omega,←hx,←hy];exact hv)⟩
    clear HE hv htie hx hy
    go_wp2_with fail
    go_quiet_grown (first | (go_at_fn g;refine Calls.grown_of (hc _ _)))
    have S2:Aside (SW (encI ix) w0 blk off d (grow (wr.drewN nq) osq)):=S1.out.grown nq osq
    clear l1 l2 hc S1
    generalize grow (wr.drewN nq) osq=w2 at S2 ⊢
    go_wp2
    go_roundg (c-s)
    case measure=>omega
    case rel=>exact ⟨s,c,rfl,rfl,hss,by omega,by omega,Nat.le_refl _,S2,HE2⟩
   | false =>
    have hd:decide (cf x y<0)=false:=by rw [hv] at htie;exact htie
    have HE2:Hid ((c+1=s0∨tot d[n-(c+1)]! d[c+1-1]! = false)∧(r=r0∨tot d[n-r-1]! d[r]! = true)):=⟨Or.inr (by rw [show n-(c+1)=q by omega,Nat.add_sub_cancel,←hx,←hy];exact hv),HE.out.2⟩
    clear HE hv htie hx hy
    go_wp2_with fail
    go_quiet_grown (first | (go_at_fn g;refine Calls.grown_of (hc _ _)))
    have S2:Aside (SW (encI ix) w0 blk off d (grow (wr.drewN nq) osq)):=S1.out.grown nq osq
    clear l1 l2 hc S1
    generalize grow (wr.drewN nq) osq=w2 at S2 ⊢
    go_wp2
    go_roundg (r-(c+1))
    case measure=>omega
    case rel=>exact ⟨c+1,r,by go_num,rfl,by omega,by omega,hrr,Nat.le_refl _,S2,HE2⟩
  ·have hsr2:s=r:=by omega
   subst hsr2
   clear hlt hsr hgg
   obtain ⟨e,he1,he2,heI⟩:∃ e:Nat,e+s≤n∧n≤e+s∧IntKind.i64.wrap ((n:Int)-(s:Int))=(e:Int):=⟨n-s,by omega,by omega,by rw [IntKind.wrap_i64];omega⟩
   have HST:∀ d1:Array α,((s<m∧m<e∧Rot s m e d d1)∨(¬ (s<m∧m<e)∧d1=d)) →
     TwoP tot ix a s h d1∧TwoP tot ix h e b d1∧(∀ i j,a≤i→i<h→h≤j→j<b→tot d1[j]! d1[i]! = false)∧PermIn a b d d1:=fun d1 hd1=>by
    have hE:=HE.out
    have hS0:=HS0.out
    have hh:(a+b) / 2=h:=by omega
    have hl:s=a∨e=b∨tot d[e]! d[s-1]! = false:=by
     rcases hE.1 with k | k
     ·rcases hS0 with ⟨k1,k2,k3⟩ | ⟨k1,k2,k3⟩
      ·exact Or.inr (Or.inl (by omega))
      ·exact Or.inl (by omega)
     ·rw [show n-s=e by omega] at k
      exact Or.inr (Or.inr k)
    have hr:s=m∨e=m∨tot d[e-1]! d[s]! = true:=by
     rcases hE.2 with k | k
     ·rcases hS0 with ⟨k1,k2,k3⟩ | ⟨k1,k2,k3⟩
      ·exact Or.inr (Or.inl (by omega))
      ·exact Or.inl (by omega)
     ·rw [show n-s-1=e-1 by omega] at k
      exact Or.inr (Or.inr k)
    have:=two_step HT.out HW.out (by omega) (by omega) hb e (by rw [hh];omega) (by omega) (by omega) (by omega) (by omega) (s:=s) (d1:=d1) hl hr hd1
    rw [hh] at this
    exact this
   have HST2:Hid (∀ d1:Array α,((s<m∧m<e∧Rot s m e d d1)∨(¬ (s<m∧m<e)∧d1=d)) →
     TwoP tot ix a s h d1∧TwoP tot ix h e b d1∧(∀ i j,a≤i→i<h→h≤j→j<b→tot d1[j]! d1[i]! = false)∧PermIn a b d d1):=HST
   clear HST HE HW
   go_upto_region 39 with fail
   go_cut [185] from 178 to 184 (fun s185 wx => ∃ β:Bool,s185=.bool β∧Hid (β=true↔s<m∧m<e)∧wx=wr)
   case first =>
    by_cases k1:s<m
    ·have k1I:(s:Int)<(m:Int):=by omega
     by_cases k2:m<e
     ·have k2I:(m:Int)<(e:Int):=by omega
      go_wp2_with fail
      go_meet
      exact ⟨true,rfl,⟨fun _=>⟨k1,k2⟩,fun _=>rfl⟩,rfl⟩
     ·have k2I : ¬ (m:Int)<(e:Int):=by omega
      go_wp2_with fail
      go_meet
      exact ⟨false,rfl,⟨fun h=>(by cases h),fun h=>absurd h.2 k2⟩,rfl⟩
    ·have k1I : ¬ (s:Int)<(m:Int):=by omega
     go_wp2_with fail
     go_meet
     exact ⟨false,rfl,⟨fun h=>(by cases h),fun h=>absurd h.1 k1⟩,rfl⟩
   case rest =>
   obtain ⟨β,rfl,HB,rfl⟩:=hcut
   go_upto_if 185 with fail
   go_cut [24,185] from 186 to 191 (fun s24 s185 wx => ∃ d1:Array α,s24=.int .i64 e∧s185=.bool β∧Hid (TwoP tot ix a s h d1∧TwoP tot ix h e b d1∧(∀ i j,a≤i→i<h→h≤j→j<b→tot d1[j]! d1[i]! = false)∧PermIn a b d d1)∧Aside (SW (encI ix) w0 blk off d1 wx))
   case first =>
    cases β with
    | true =>
     have hb:=HB.out.1 rfl
     have hc:=rotate_any ix (.func (.func g) #[] cb) blk off cap s m e d0 d w0 wc HR.out hs S1.out hb.1 hb.2 (by omega) (by omega)
     go_wp2_with fail
     refine hc.mono ?_
     rintro e' w' ⟨rfl,d1,hr,hS⟩
     have HX:Aside (SW (encI ix) w0 blk off d1 w'):=hS
     have HY:Hid (TwoP tot ix a s h d1∧TwoP tot ix h e b d1∧(∀ i j,a≤i→i<h→h≤j→j<b→tot d1[j]! d1[i]! = false)∧PermIn a b d d1):=HST2.out d1 (Or.inl ⟨hb.1,hb.2,hr⟩)
     clear hS hr hc
     go_wp2_with fail
     go_meet
     exact ⟨d1,rfl,rfl,HY,HX⟩
    | false =>
     have HY:Hid (TwoP tot ix a s h d∧TwoP tot ix h e b d∧(∀ i j,a≤i→i<h→h≤j→j<b→tot d[j]! d[i]! = false)∧PermIn a b d d):=HST2.out d (Or.inr ⟨fun h=>(by have:=HB.out.2 h;cases this),rfl⟩)
     go_wp2_with fail
     go_meet
     exact ⟨d,rfl,rfl,HY,S1⟩
   case rest =>
   obtain ⟨d1,rfl,rfl,HD1,S2⟩:=hcut
   have hz1s:d1.size=d.size:=HD1.out.2.2.2.1
   clear S1 HST2 HB
   go_upto_region 41 with fail
   go_cut [199] from 192 to 198 (fun s199 wx => ∃ β:Bool,s199=.bool β∧Hid (β=true↔a<s∧s<h)∧wx=wc)
   case first =>
    by_cases k1:a<s
    ·have k1I:(a:Int)<(s:Int):=by omega
     by_cases k2:s<h
     ·have k2I:(s:Int)<(h:Int):=by omega
      go_wp2_with fail
      go_meet
      exact ⟨true,rfl,⟨fun _=>⟨k1,k2⟩,fun _=>rfl⟩,rfl⟩
     ·have k2I : ¬ (s:Int)<(h:Int):=by omega
      go_wp2_with fail
      go_meet
      exact ⟨false,rfl,⟨fun h=>(by cases h),fun h=>absurd h.2 k2⟩,rfl⟩
    ·have k1I : ¬ (a:Int)<(s:Int):=by omega
     go_wp2_with fail
     go_meet
     exact ⟨false,rfl,⟨fun h=>(by cases h),fun h=>absurd h.1 k1⟩,rfl⟩
   case rest =>
   obtain ⟨β2,rfl,HB,rfl⟩:=hcut
   go_upto_if 199 with fail
   go_cut [24,199] from 200 to 205 (fun s24 s199 wx => ∃ d2:Array α,s24=.int .i64 e∧s199=.bool β2∧Hid (PermIn a h d1 d2∧SortedIn tot a h d2)∧Aside (SW (encI ix) w0 blk off d2 wx))
   case first =>
    cases β2 with
    | true =>
     have hb:=HB.out.1 rfl
     have hc:=HI.out a s h d1 wc (by omega) (by omega) S2 HD1.out.1 hb.1 hb.2 (by omega)
     rw [hz1s] at hc
     go_wp2_with fail
     refine hc.mono ?_
     rintro e' w' ⟨rfl,d2,hr1,hr2,hS⟩
     have HX:Aside (SW (encI ix) w0 blk off d2 w'):=hS
     have HY:Hid (PermIn a h d1 d2∧SortedIn tot a h d2):=⟨hr2,hr1⟩
     clear hS hr1 hr2 hc
     go_wp2_with fail
     go_meet
     exact ⟨d2,rfl,rfl,HY,HX⟩
    | false =>
     have HY:Hid (PermIn a h d1 d1∧SortedIn tot a h d1):=⟨permIn_refl d1 a h,two_done HD1.out.1 (fun h=>(by have:=HB.out.2 h;cases this)) (by omega) (by omega)⟩
     go_wp2_with fail
     go_meet
     exact ⟨d1,rfl,rfl,HY,S2⟩
   case rest =>
   obtain ⟨d2,rfl,rfl,HD2,S3⟩:=hcut
   have hz2s:d2.size=d.size:=HD2.out.1.1.trans hz1s
   clear S2 HB
   go_upto_region 43 with fail
   go_cut [213] from 206 to 212 (fun s213 wx => ∃ β:Bool,s213=.bool β∧Hid (β=true↔h<e∧e<b)∧wx=wc)
   case first =>
    by_cases k1:h<e
    ·have k1I:(h:Int)<(e:Int):=by omega
     by_cases k2:e<b
     ·have k2I:(e:Int)<(b:Int):=by omega
      go_wp2_with fail
      go_meet
      exact ⟨true,rfl,⟨fun _=>⟨k1,k2⟩,fun _=>rfl⟩,rfl⟩
     ·have k2I : ¬ (e:Int)<(b:Int):=by omega
      go_wp2_with fail
      go_meet
      exact ⟨false,rfl,⟨fun h=>(by cases h),fun h=>absurd h.2 k2⟩,rfl⟩
    ·have k1I : ¬ (h:Int)<(e:Int):=by omega
     go_wp2_with fail
     go_meet
     exact ⟨false,rfl,⟨fun h=>(by cases h),fun h=>absurd h.1 k1⟩,rfl⟩
   case rest =>
   obtain ⟨β3,rfl,HB,rfl⟩:=hcut
   have HTW:Hid (TwoP tot ix h e b d2):=two_perm HD1.out.2.1 HD2.out.1 (Or.inr (Nat.le_refl _)) (by omega) (by omega)
   have HJ:Hid (∀ d3:Array α,PermIn h b d2 d3→SortedIn tot h b d3→SortedIn tot a b d3∧PermIn a b d d3):=fun d3 k1 k2=>by
    obtain ⟨-,-,hx,hp⟩:=HD1.out
    have:=two_join (d3:=d3) (by omega) (by omega) (by omega) hx HD2.out.1 HD2.out.2 k1 k2
    exact ⟨this.1,permIn_trans d d1 d3 a b hp this.2⟩
   clear HD1 HD2
   cases β3 with
   | true =>
    have hb:=HB.out.1 rfl
    have hc:=HI.out h e b d2 wc (by omega) (by omega) S3 HTW.out hb.1 hb.2 (by omega)
    rw [hz2s] at hc
    go_wp2_with fail
    refine hc.mono ?_
    rintro e' w' ⟨rfl,d3,hr1,hr2,hS⟩
    have HY:=HJ.out d3 hr2 hr1
    go_wp2_with fail
    go_end0
    exact ⟨rfl,d3,HY.1,HY.2,hS⟩
   | false =>
    have HY:=HJ.out d2 (permIn_refl d2 h b) (two_done HTW.out (fun h=>(by have:=HB.out.2 h;cases this)) (by omega) (by omega))
    go_wp2_with fail
    go_end0
    exact ⟨rfl,d2,HY.1,HY.2,S3.out⟩
theorem merge_any {cf:α→α→Int} {tot:α→α→Bool} {ix:α→Nat} {g:Nat} {cb:Array Value} {blk off:Nat} {d0:Array α} {w0:World} (M:MgC cf tot ix g cb blk off d0 w0) (cap:Nat):∀ N,MergeOk tot ix g cb blk off d0 w0 cap N:=by
 intro N
 induction N with
 | zero=>exact fun a m b d w h1 _ _ _ h2 h3 _=>by omega
 | succ N ih =>
  intro a m b d w hN hs S W h2 h3 hb
  by_cases k1:m=a+1
  ·exact sym1_any M cap a m b d w hs S.out W k1 h3 hb
  ·by_cases k2:b=m+1
   ·exact sym2_any M cap a m b d w hs S.out W k2 (by omega) hb
   ·exact symmain_any M cap N ih a m b d w hN hs S.out W (by omega) (by omega) hb
end Go.Proofs.YtenlladggdcfnaaGreatDoor
namespace Go.Proofs.YtenlladggdcfnaaGreatDoor
open Go.ChangeShapes Go.WideShapes Go.ChangeAt Go.RowKit
set_option maxRecDepth 20000
def outB (n:Nat) (i:Int):Bool:=decide (i<0) || decide ((n:Int)≤i)
theorem check1_any (i:Int) (A:Option Addr) (n cap q:Nat) (w:World) (h:w.cell? ⟨q,2,none⟩=some (.slice A n cap)):Calls Tryz.prog 125 #[.int .i64 i,.pointer (some ⟨q,0,none⟩)] w fun e w'=>e=.returned (.bool (outB n i))∧Below w.heap.size w w':=by
 unfold outB
 by_cases h1:i<0
 ·go_enter Tryz.func125,Tryz.ntmps125
  go_wp2
  go_ret
  exact ⟨by simp <;> omega,by go_grown⟩
 ·go_enter Tryz.func125,Tryz.ntmps125
  go_wp2
  go_ret
  exact ⟨by simp <;> omega,by go_grown⟩
theorem containsf_ints (A:Option Addr) (cap:Nat) (L:List Int) (Am:Option Addr) (nm cm q:Nat) (w:World) (hn:L.length≤2) (hL:IntsAt w A cap L) (hq:q<w.heap.size) (hqc:w.cell? ⟨q,2,none⟩=some (.slice Am nm cm)) :
  Calls Tryz.prog 15 #[.slice A L.length cap,.func (.func 125) #[] #[.pointer (some ⟨q,0,none⟩)]] w fun e w'=>e=.returned (.bool (decide (0≤findFrom (fun j=>outB nm (L.getD j 0)) L.length 0)))∧Below w.heap.size w w' :=
 contm_pl 125 #[.pointer (some ⟨q,0,none⟩)] (outB nm) (fun args w=>by simp [callFunc,Tryz.func125];rfl) A cap L w (by omega) (pl_ints hL) fun x w' _ hB=>check1_any x Am nm cm q w' ((hB.cell (p:=⟨q,2,none⟩) hq).trans hqc)
theorem treeErr_range {d:Dm} {L:List Int} (h:(dimErr d).2=0):treeErr d L=if 0≤findFrom (fun j=>outB d.n (L.getD j 0)) L.length 0 then 1 else 0:=by
 unfold treeErr rangeErr;rw [if_neg (by simpa using h)];rfl
set_option maxHeartbeats 2000000 in
theorem tcheck_any (d:Dm) (A:Option Addr) (cap:Nat) (Ai:Option Addr) (ci:Nat) (L:List Int) (w:World) (hM:MemsV w A cap d.n d.mem) (hn:L.length≤2) (hL:IntsAt w Ai ci L):Calls Tryz.prog 98 #[dimV d A cap,.slice Ai L.length ci] w fun e w'=>e=.returned (errV (treeErr d L))∧Below w.heap.size w w':=by
 have hS:=ownDim_size w d A cap 81
 have hB0:=ownDim_below w d A cap 81
 have hA:=(ownDim_at w d A cap 81).2.2
 have hck:=dcheck_any d A cap (ownDim w d A cap 81) (hM.later hB0)
 unfold dimV at hck ⊢
 have HB0:Hid (Below w.heap.size w (ownDim w d A cap 81)):=hB0
 have HS:Hid ((ownDim w d A cap 81).heap.size=w.heap.size+1):=hS
 have HA:Hid ((ownDim w d A cap 81).cell? ⟨w.heap.size,2,none⟩=some (.slice A d.n cap)):=hA
 have HL:Hid (IntsAt w Ai ci L):=hL
 clear hM hS hB0 hA hL
 by_cases he:(dimErr d).2=0
 ·obtain ⟨e1,hd1,hd2,-⟩:=dimErr_right he
  rw [he,e1,errV_zero] at hck
  have HE:Hid ((dimErr d).2=0):=he
  clear he e1
  go_enter Tryz.func98,Tryz.ntmps98
  go_wp2_with fail
  refine hck.mono ?_
  rintro e w1 ⟨rfl,hb1⟩
  have hB:Below w.heap.size w w1:=onB HB0.out hb1
  have hz:w.heap.size<w1.heap.size:=by
   have:=hb1.size
   rw [HS.out] at this
   omega
  have h2:w1.cell? ⟨w.heap.size,2,none⟩=some (.slice A d.n cap):=(hb1.cell (p:=⟨w.heap.size,2,none⟩) (by show w.heap.size<_;rw [HS.out];omega)).trans HA.out
  have hcf:=containsf_ints Ai ci L A d.n cap w.heap.size w1 hn (HL.out.later hB) hz h2
  have HR:Hid (treeErr d L=if 0≤findFrom (fun j=>outB d.n (L.getD j 0)) L.length 0 then 1 else 0):=treeErr_range HE.out
  have HB:Hid (Below w.heap.size w w1):=hB
  generalize findFrom (fun j=>outB d.n (L.getD j 0)) L.length 0=f at hcf HR
  generalize L.length=n at hcf
  clear hb1 hck h2 hB
  by_cases hf:0≤f
  ·rw [decide_eq_true hf] at hcf
   have HR1:Hid (treeErr d L=1):=by show _=_;rw [HR.out,if_pos hf]
   clear hf HR
   go_wp2_with fail
   refine hcf.mono ?_
   rintro e w2 ⟨rfl,hb2⟩
   go_wp2_with fail
   go_ret
   exact ⟨by rw [HR1.out];rfl,onB HB.out hb2⟩
  ·rw [decide_eq_false hf] at hcf
   have HR1:Hid (treeErr d L=0):=by show _=_;rw [HR.out,if_neg hf]
   clear hf HR
   go_wp2_with fail
   refine hcf.mono ?_
   rintro e w2 ⟨rfl,hb2⟩
   go_wp2_with fail
   go_ret
   exact ⟨by rw [HR1.out];rfl,onB HB.out hb2⟩
 ·have HK:Hid (errV (treeErr d L)=.iface 46 (.int .i64 (dimErr d).2)):=by show _=_;rw [treeErr_dim he,errV_some he]
  rw [errV_some he] at hck
  clear he
  generalize (dimErr d).2=c at hck HK
  go_enter Tryz.func98,Tryz.ntmps98
  go_wp2_with fail
  refine hck.mono ?_
  rintro e w1 ⟨rfl,hb1⟩
  go_wp2_with fail
  go_ret
  exact ⟨by rw [HK.out];rfl,onB HB0.out hb1⟩
end Go.Proofs.YtenlladggdcfnaaGreatDoor
