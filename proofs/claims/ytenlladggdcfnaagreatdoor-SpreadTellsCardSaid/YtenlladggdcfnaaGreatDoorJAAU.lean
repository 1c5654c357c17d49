/-
  slices.symMergeCmpFunc at ints where the second part is one element.
-/
import Derived.Deep.CutRange
import Derived.Test.YtenlladggdcfnaaGreatDoorJAAT
namespace Go.Proofs.YtenlladggdcfnaaGreatDoor
open Go Go.ChangeShapes Go.WideShapes Go.ChangeAt Go.RowKit Go.Shelf Go.Lib Go.Sort
set_option linter.unusedSectionVars false
set_option maxRecDepth 100000
variable {α:Type} [Inhabited α]
set_option maxHeartbeats 8000000 in
theorem sym2_any {cf:α→α→Int} {tot:α→α→Bool} {ix:α→Nat} {g:Nat} {cb:Array Value} {blk off:Nat} {d0:Array α} {w0:World} (M:MgC cf tot ix g cb blk off d0 w0)
  (cap a m b:Nat) (d:Array α) (w:World) (hs:d0.size=d.size) (S:SW (encI ix) w0 blk off d w) (W:TwoP tot ix a m b d) (hm:b=m+1) (h2:a+1<m) (hb:b≤d.size) :
  Calls Tryz.prog 85 #[.slice (some ⟨blk,off,none⟩) d.size cap,.int .i64 a,.int .i64 m,.int .i64 b,.func (.func g) #[] cb] w fun e w'=>e=.returned (.tuple #[])∧∃ d',SortedIn tot a b d'∧PermIn a b d d'∧SW (encI ix) w0 blk off d' w':=by
 have mixed:Tryz.prog.follows .mixedOrders=true:=by kernel_rfl
 obtain ⟨eg,hcmp,R,T,hsz⟩:=M
 have HC:Aside (CmpLays1 Tryz.prog g cb (encI ix) cf blk off d0.size w0):=hcmp
 have HT:Hid (Tie (ltOf cf) tot ix):=T
 have HW:Hid (TwoP tot ix a m (m+1) d):=by rw [hm] at W;exact W
 have S0:Aside (SW (encI ix) w0 blk off d w):=S
 clear S hcmp T W
 have hm0:IntKind.i64.wrap ((m:Int)-(a:Int))=((m-a:Nat):Int):=by rw [IntKind.wrap_i64];omega
 have hm3:(((m-a:Nat):Int) == 1)=false:=by simp;omega
 have hm1:IntKind.i64.wrap ((b:Int)-(m:Int))=1:=by rw [IntKind.wrap_i64];omega
 have hmb:m<d.size:=by omega
 have HM:Hid (b=m+1):=hm
 clear hm hb
 go_enter Tryz.func85,Tryz.ntmps85
 go_wp2
 go_loopg [14,15] (m-a) (fun gg s10 s11 wr => ∃ (i j:Nat),s10=.int .i64 i∧s11=.int .i64 j∧a≤i∧i≤j∧j≤m∧j-i≤gg∧Aside (SW (encI ix) w0 blk off d wr)∧Hid ((i=a∨tot d[m]! d[i-1]! = false)∧(j=m∨tot d[m]! d[j]! = true)))
 case atStart=>exact ⟨a,m,rfl,rfl,by omega,by omega,Nat.le_refl _,by omega,S0,⟨Or.inl rfl,Or.inl rfl⟩⟩
 case round =>
  clear S0
  obtain ⟨i,j,rfl,rfl,hai,hij,hjb,hgg,S1,HE⟩:=hrel
  by_cases hlt:i<j
  ·have hltz:(i:Int)<(j:Int):=by omega
   have htie:=HT.out.on d[m]! d[(i+j) / 2]! (HW.out.lo ((i+j) / 2) m (by omega) (by omega) (by omega) (by omega))
   have ba2:(m:Int)<(d.size:Int):=by omega
   have ea:(((i:Int)+(j:Int)) / 2).toNat=(i+j) / 2:=by omega
   have pa:(0:Int)≤((i:Int)+(j:Int)) / 2:=by omega
   have ba:((i:Int)+(j:Int)) / 2<(d.size:Int):=by omega
   have l1:=S1.out.cl R (by omega) m (by omega)
   have l2:=S1.out.cl R (by omega) ((i+j) / 2) (by omega)
   obtain ⟨x,hx⟩:∃ x,x=d[m]! := ⟨_,rfl⟩
   obtain ⟨y,hy⟩:∃ y,y=d[(i+j) / 2]! := ⟨_,rfl⟩
   rw [←hx,←hy] at htie
   rw [←hx] at l1
   rw [←hy] at l2
   have hc:=S1.out.cmp HC.out (by omega) x y
   unfold encI at l1 l2 hc
   cases hv:tot x y with
   | true =>
    have hd:decide (cf x y<0)=true:=by rw [hv] at htie;exact htie
    have HE2:Hid ((i=a∨tot d[m]! d[i-1]! = false)∧((i+j) / 2=m∨tot d[m]! d[(i+j) / 2]! = true)):=⟨HE.out.1,Or.inr (by rw [←hx,←hy];exact hv)⟩
    clear HE hv htie hx hy
    go_wp2_with fail
    go_quiet_grown (first | (go_at_fn g;refine Calls.grown_of (hc _ _)))
    have S2:Aside (SW (encI ix) w0 blk off d (grow (wr.drewN nq) osq)):=S1.out.grown nq osq
    clear l1 l2 hc S1
    generalize grow (wr.drewN nq) osq=w2 at S2 ⊢
    go_wp2
    go_roundg ((i+j) / 2-i)
    case measure=>omega
    case rel=>exact ⟨i,(i+j) / 2,rfl,by go_num,hai,by omega,by omega,Nat.le_refl _,S2,HE2⟩
   | false =>
    have hd:decide (cf x y<0)=false:=by rw [hv] at htie;exact htie
    have HE2:Hid (((i+j) / 2+1=a∨tot d[m]! d[(i+j) / 2+1-1]! = false)∧(j=m∨tot d[m]! d[j]! = true)):=⟨Or.inr (by rw [Nat.add_sub_cancel,←hx,←hy];exact hv),HE.out.2⟩
    clear HE hv htie hx hy
    go_wp2_with fail
    go_quiet_grown (first | (go_at_fn g;refine Calls.grown_of (hc _ _)))
    have S2:Aside (SW (encI ix) w0 blk off d (grow (wr.drewN nq) osq)):=S1.out.grown nq osq
    clear l1 l2 hc S1
    generalize grow (wr.drewN nq) osq=w2 at S2 ⊢
    go_wp2
    go_roundg (j-((i+j) / 2+1))
    case measure=>omega
    case rel=>exact ⟨(i+j) / 2+1,j,by go_num,rfl,by omega,by omega,hjb,Nat.le_refl _,S2,HE2⟩
  ·have hie:i=j:=by omega
   subst hie
   clear hlt hij hgg
   go_wp2
   go_loopg [17] (m-i) (fun gg s13 wr => ∃ (k:Nat) (dk:Array α),s13=.int .i64 k∧i≤k∧k≤m∧gg=k-i∧dk.size=d.size∧Aside (SW (encI ix) w0 blk off dk wr)∧Hid (mvl (k-i) k dk=mvl (m-i) m d))
   case atStart=>exact ⟨m,d,rfl,by omega,Nat.le_refl _,rfl,rfl,S1,rfl⟩
   case round =>
    clear S1
    obtain ⟨k,dk,rfl,hak,hki,rfl,hds,S1,HK⟩:=hrel
    by_cases hlt:i<k
    ·have hltz:(k:Int) > (i:Int):=by omega
     have r1:IntKind.i64.wrap ((k:Int)-1)=((k-1:Nat):Int):=by rw [IntKind.wrap_i64];omega
     have b1:(k:Int)<(d.size:Int):=by omega
     have b2:((k-1:Nat):Int)<(d.size:Int):=by omega
     obtain ⟨x,hx⟩:∃ x,x=ix dk[k]! := ⟨_,rfl⟩
     obtain ⟨y,hy⟩:∃ x,x=ix dk[k-1]! := ⟨_,rfl⟩
     have S2:Aside (SW (encI ix) w0 blk off (swp dk k (k-1)) ((wr.setCell ⟨blk,off+k,none⟩ (.int .i64 (y:Int))).setCell ⟨blk,off+(k-1),none⟩ (.int .i64 (x:Int))).drew):=by rw [hx,hy];exact S1.out.swapped R k (k-1) (by omega) (by omega)
     have c1:wr.cell? ⟨blk,off+k,none⟩=some (.int .i64 (x:Int)):=by rw [hx];exact S1.out.c1 R (by omega) k (by omega)
     have c2:wr.cell? ⟨blk,off+(k-1),none⟩=some (.int .i64 (y:Int)):=by rw [hy];exact S1.out.c1 R (by omega) (k-1) (by omega)
     have f1:=S1.out.f1 R (by omega) k (by omega)
     have f2:=S1.out.f1 R (by omega) (k-1) (by omega)
     obtain ⟨u,c3⟩:=S1.out.c2 R (by omega) k (k-1) (by omega) (by omega) (.int .i64 (y:Int))
     have HK2:Hid (mvl (k-1-i) (k-1) (swp dk k (k-1))=mvl (m-i) m d):=by
      have:=HK.out
      rw [show k-i=(k-1-i)+1 by omega] at this
      exact this
     have HSZ:Hid ((swp dk k (k-1)).size=d.size):=by show _=_;rw [size_swp];exact hds
     clear S1 hx hy HK hds
     go_wp2_with fail
     go_big_region_o
     clear c1 c2 c3 f1 f2
     generalize ((wr.setCell ⟨blk,off+k,none⟩ (.int .i64 (y:Int))).setCell ⟨blk,off+(k-1),none⟩ (.int .i64 (x:Int))).drew=w2 at S2 ⊢
     go_wp2
     go_roundg (k-1-i)
     case measure=>omega
     case rel=>exact ⟨k-1,swp dk k (k-1),by go_num,by omega,by omega,rfl,HSZ.out,S2,HK2⟩
    ·have hke:k=i:=by omega
     have hltz : ¬ (k:Int) > (i:Int):=by omega
     have hfin:SortedIn tot a b dk∧PermIn a b d dk:=by
      have hK:=HK.out
      rw [hke,Nat.sub_self] at hK
      have hr:=mvl_spec (m-i) m d (by omega) (by omega)
      rw [←hK,show m-(m-i)=i by omega] at hr
      rw [HM.out]
      exact one_left HT.out HW.out hai hjb (by omega) HE.out.1 HE.out.2 hr
     have HF:Hid (SortedIn tot a b dk∧PermIn a b d dk):=hfin
     clear hfin
     go_wp2
     refine bodyPost_ret (results_none rfl _ _ _) rfl ?_
     exact ⟨rfl,dk,HF.out.1,HF.out.2,S1.out⟩
variable {α:Type} [Inhabited α]
def MergeOk (tot:α→α→Bool) (ix:α→Nat) (g:Nat) (cb:Array Value) (blk off:Nat) (d0:Array α) (w0:World) (cap N:Nat):Prop :=
 ∀ (a m b:Nat) (d:Array α) (w:World),b-a≤N→d0.size=d.size→Aside (SW (encI ix) w0 blk off d w)→TwoP tot ix a m b d→a<m→m<b→b≤d.size →
  Calls Tryz.prog 85 #[.slice (some ⟨blk,off,none⟩) d.size cap,.int .i64 a,.int .i64 m,.int .i64 b,.func (.func g) #[] cb] w fun e w'=>e=.returned (.tuple #[])∧∃ d',SortedIn tot a b d'∧PermIn a b d d'∧SW (encI ix) w0 blk off d' w'
set_option maxHeartbeats 16000000 in
theorem symmain_any {cf:α→α→Int} {tot:α→α→Bool} {ix:α→Nat} {g:Nat} {cb:Array Value} {blk off:Nat} {d0:Array α} {w0:World} (M:MgC cf tot ix g cb blk off d0 w0)
  (cap N:Nat) (IH:MergeOk tot ix g cb blk off d0 w0 cap N) (a m b:Nat) (d:Array α) (w:World) (hN:b-a≤N+1) (hs:d0.size=d.size) (S:SW (encI ix) w0 blk off d w) (W:TwoP tot ix a m b d) (h1:a+1<m) (h2:m+1<b) (hb:b≤d.size) :
  Calls Tryz.prog 85 #[.slice (some ⟨blk,off,none⟩) d.size cap,.int .i64 a,.int .i64 m,.int .i64 b,.func (.func g) #[] cb] w fun e w'=>e=.returned (.tuple #[])∧∃ d',SortedIn tot a b d'∧PermIn a b d d'∧SW (encI ix) w0 blk off d' w':=by
 have mixed:Tryz.prog.follows .mixedOrders=true:=by kernel_rfl
 obtain ⟨eg,hcmp,R,T,hsz⟩:=M
 have HC:Aside (CmpLays1 Tryz.prog g cb (encI ix) cf blk off d0.size w0):=hcmp
 have HT:Hid (Tie (ltOf cf) tot ix):=T
 have HW:Hid (TwoP tot ix a m b d):=W
 have HI:Aside (MergeOk tot ix g cb blk off d0 w0 cap N):=IH
 have HR:Aside (Row1 (encI ix) w0 blk off d0):=R
 have S0:Aside (SW (encI ix) w0 blk off d w):=S
 clear S hcmp T W IH R
 obtain ⟨h,hg1,hg2,hgI⟩:∃ h:Nat,2*h≤a+b∧a+b≤2*h+1∧((a:Int)+(b:Int)) / 2=(h:Int):=⟨(a+b) / 2,by omega,by omega,by omega⟩
 obtain ⟨n,hn1,hn2,hnI⟩:∃ n:Nat,n≤h+m∧h+m≤n∧IntKind.i64.wrap ((h:Int)+(m:Int))=(n:Int):=⟨h+m,Nat.le_refl _,Nat.le_refl _,by rw [IntKind.wrap_i64];omega⟩
 obtain ⟨p,hp1,hp2,hpI⟩:∃ p:Nat,p+1≤n∧n≤p+1∧IntKind.i64.wrap ((n:Int)-1)=(p:Int):=⟨n-1,by omega,by omega,by rw [IntKind.wrap_i64];omega⟩
 obtain ⟨z1,hz1,hz1I⟩:∃ z:Nat,1<z∧IntKind.i64.wrap ((m:Int)-(a:Int))=(z:Int):=⟨m-a,by omega,by rw [IntKind.wrap_i64];omega⟩
 obtain ⟨z2,hz2,hz2I⟩:∃ z:Nat,1<z∧IntKind.i64.wrap ((b:Int)-(m:Int))=(z:Int):=⟨b-m,by omega,by rw [IntKind.wrap_i64];omega⟩
 have hz1':((z1:Int) == 1)=false:=by simp;omega
 have hz2':((z2:Int) == 1)=false:=by simp;omega
 go_enter Tryz.func85,Tryz.ntmps85
 go_upto_if 140 with fail
 go_cut [20,21,140] from 141 to 146 (fun s20 s21 s140 wx => ∃ (s0 r0:Nat) (x:Bool),s20=.int .i64 s0∧s21=.int .i64 r0∧s140=.bool x∧Hid ((s0+b=n∧r0=h∧h<m)∨(s0=a∧r0=m∧m≤h))∧Aside (SW (encI ix) w0 blk off d wx))
 case first =>
  by_cases hmh:h<m
  ·have hmI:(m:Int) > (h:Int):=by omega
   have hr0:IntKind.i64.wrap ((n:Int)-(b:Int))=((n-b:Nat):Int):=by rw [IntKind.wrap_i64];omega
   go_wp2_with fail
   go_meet
   exact ⟨n-b,h,_,rfl,rfl,rfl,Or.inl ⟨by omega,rfl,hmh⟩,S0⟩
  ·have hmI : ¬ (m:Int) > (h:Int):=by omega
   go_wp2_with fail
   go_meet
   exact ⟨a,m,_,rfl,rfl,rfl,Or.inr ⟨rfl,rfl,by omega⟩,S0⟩
 case rest =>
 obtain ⟨s0,r0,b140,rfl,rfl,rfl,HS0,S1⟩:=hcut
 have f0:a≤s0∧s0≤r0∧r0≤m∧m+r0≤n∧n≤b+s0:=by have:=HS0.out;omega
 obtain ⟨f1,f2,f3,f4,f5⟩:=f0
 clear S0
 go_wp2_with fail
 go_loopg [20,21] (r0-s0) (fun gg s20 s21 wr => ∃ s r:Nat,s20=.int .i64 s∧s21=.int .i64 r∧s0≤s∧s≤r∧r≤r0∧r-s≤gg∧Aside (SW (encI ix) w0 blk off d wr)∧Hid ((s=s0∨tot d[n-s]! d[s-1]! = false)∧(r=r0∨tot d[n-r-1]! d[r]! = true)))
 case atStart=>exact ⟨s0,r0,rfl,rfl,Nat.le_refl _,f2,Nat.le_refl _,by omega,S1,⟨Or.inl rfl,Or.inl rfl⟩⟩
 case round =>
  clear S1
  obtain ⟨s,r,rfl,rfl,hss,hsr,hrr,hgg,S1,HE⟩:=hrel
  by_cases hlt:s<r
  ·have hltz:(s:Int)<(r:Int):=by omega
   obtain ⟨c,hc1,hc2,hcI⟩:∃ c:Nat,2*c≤s+r∧s+r≤2*c+1∧((s:Int)+(r:Int)) / 2=(c:Int):=⟨(s+r) / 2,by omega,by omega,by omega⟩
   obtain ⟨q,hq1,hq2,hqI⟩:∃ q:Nat,q+c≤p∧p≤q+c∧IntKind.i64.wrap ((p:Int)-(c:Int))=(q:Int):=⟨p-c,by omega,by omega,by rw [IntKind.wrap_i64];omega⟩
   have htie:=HT.out.on d[q]! d[c]! (HW.out.lo c q (by omega) (by omega) (by omega) (by omega))
   have hqs:(q:Int)<(d.size:Int):=by omega
   have hcs:(c:Int)<(d.size:Int):=by omega
   have l1:=S1.out.cl HR.out (by omega) q (by omega)
   have l2:=S1.out.cl HR.out (by omega) c (by omega)
   obtain ⟨x,hx⟩:∃ x,x=d[q]! := ⟨_,rfl⟩
   obtain ⟨y,hy⟩:∃ y,y=d[c]! := ⟨_,rfl⟩
   rw [←hx,←hy] at htie
   rw [←hx] at l1
   rw [←hy] at l2
   have hc:=S1.out.cmp HC.out (by omega) x y
   unfold encI at l1 l2 hc
   cases hv:tot x y with
   | true =>
    have hd:decide (cf x y<0)=true:=by rw [hv] at htie;exact htie
    have HE2:Hid ((s=s0∨tot d[n-s]! d[s-1]! = false)∧(c=r0∨tot d[n-c-1]! d[c]! = true)):=⟨HE.out.1,Or.inr (by rw [show n-c-1=q by omega,←hx,←hy];exact hv)⟩
    clear HE hv htie hx hy
    go_wp2_with fail
    go_quiet_grown (first | (go_at_fn g;refine Calls.grown_of (hc _ _)))
    have S2:Aside (SW (encI ix) w0 blk off d (grow (wr.drewN nq) osq)):=S1.out.grown nq osq
    clear l1 l2 hc S1
    generalize grow (wr.drewN nq) osq=w2 at S2 ⊢
    go_wp2
    go_roundg (c-s)
    case measure=>omega
    case rel=>exact ⟨s,c,rfl,rfl,hss,by omega,by omega,Nat.le_refl _,S2,HE2⟩
   | false =>
    have hd:decide (cf x y<0)=false:=by rw [hv] at htie;exact htie
    have HE2:Hid ((c+1=s0∨tot d[n-(c+1)]! d[c+1-1]! = false)∧(r=r0∨tot d[n-r-1]! d[r]! = true)):=⟨Or.inr (by rw [show n-(c+1)=q by omega,Nat.add_sub_cancel,←hx,←hy];exact hv),HE.out.2⟩
    clear HE hv htie hx hy
    go_wp2_with fail
    go_quiet_grown (first | (go_at_fn g;refine Calls.grown_of (hc _ _)))
    have S2:Aside (SW (encI ix) w0 blk off d (grow (wr.drewN nq) osq)):=S1.out.grown nq osq
    clear l1 l2 hc S1
    generalize grow (wr.drewN nq) osq=w2 at S2 ⊢
    go_wp2
    go_roundg (r-(c+1))
    case measure=>omega
    case rel=>exact ⟨c+1,r,by go_num,rfl,by omega,by omega,hrr,Nat.le_refl _,S2,HE2⟩
  ·have hsr2:s=r:=by omega
   subst hsr2
   clear hlt hsr hgg
   obtain ⟨e,he1,he2,heI⟩:∃ e:Nat,e+s≤n∧n≤e+s∧IntKind.i64.wrap ((n:Int)-(s:Int))=(e:Int):=⟨n-s,by omega,by omega,by rw [IntKind.wrap_i64];omega⟩
   have HST:∀ d1:Array α,((s<m∧m<e∧Rot s m e d d1)∨(¬ (s<m∧m<e)∧d1=d)) →
     TwoP tot ix a s h d1∧TwoP tot ix h e b d1∧(∀ i j,a≤i→i<h→h≤j→j<b→tot d1[j]! d1[i]! = false)∧PermIn a b d d1:=fun d1 hd1=>by
    have hE:=HE.out
    have hS0:=HS0.out
    have hh:(a+b) / 2=h:=by omega
    have hl:s=a∨e=b∨tot d[e]! d[s-1]! = false:=by
     rcases hE.1 with k | k
     ·rcases hS0 with ⟨k1,k2,k3⟩ | ⟨k1,k2,k3⟩
      ·exact Or.inr (Or.inl (by omega))
      ·exact Or.inl (by omega)
     ·rw [show n-s=e by omega] at k
      exact Or.inr (Or.inr k)
    have hr:s=m∨e=m∨tot d[e-1]! d[s]! = true:=by
     rcases hE.2 with k | k
     ·rcases hS0 with ⟨k1,k2,k3⟩ | ⟨k1,k2,k3⟩
      ·exact Or.inr (Or.inl (by omega))
      ·exact Or.inl (by omega)
     ·rw [show n-s-1=e-1 by omega] at k
      exact Or.inr (Or.inr k)
    have:=two_step HT.out HW.out (by omega) (by omega) hb e (by rw [hh];omega) (by omega) (by omega) (by omega) (by omega) (s:=s) (d1:=d1) hl hr hd1
    rw [hh] at this
    exact this
   have HST2:Hid (∀ d1:Array α,((s<m∧m<e∧Rot s m e d d1)∨(¬ (s<m∧m<e)∧d1=d)) →
     TwoP tot ix a s h d1∧TwoP tot ix h e b d1∧(∀ i j,a≤i→i<h→h≤j→j<b→tot d1[j]! d1[i]! = false)∧PermIn a b d d1):=HST
   clear HST HE HW
   go_upto_region 39 with fail
   go_cut [185] from 178 to 184 (fun s185 wx => ∃ β:Bool,s185=.bool β∧Hid (β=true↔s<m∧m<e)∧wx=wr)
   case first =>
    by_cases k1:s<m
    ·have k1I:(s:Int)<(m:Int):=by omega
     by_cases k2:m<e
     ·have k2I:(m:Int)<(e:Int):=by omega
      go_wp2_with fail
      go_meet
      exact ⟨true,rfl,⟨fun _=>⟨k1,k2⟩,fun _=>rfl⟩,rfl⟩
     ·have k2I : ¬ (m:Int)<(e:Int):=by omega
      go_wp2_with fail
      go_meet
      exact ⟨false,rfl,⟨fun h=>(by cases h),fun h=>absurd h.2 k2⟩,rfl⟩
    ·have k1I : ¬ (s:Int)<(m:Int):=by omega
     go_wp2_with fail
     go_meet
     exact ⟨false,rfl,⟨fun h=>(by cases h),fun h=>absurd h.1 k1⟩,rfl⟩
   case rest =>
   obtain ⟨β,rfl,HB,rfl⟩:=hcut
   go_upto_if 185 with fail
   go_cut [24,185] from 186 to 191 (fun s24 s185 wx => ∃ d1:Array α,s24=.int .i64 e∧s185=.bool β∧Hid (TwoP tot ix a s h d1∧TwoP tot ix h e b d1∧(∀ i j,a≤i→i<h→h≤j→j<b→tot d1[j]! d1[i]! = false)∧PermIn a b d d1)∧Aside (SW (encI ix) w0 blk off d1 wx))
   case first =>
    cases β with
    | true =>
     have hb:=HB.out.1 rfl
     have hc:=rotate_any ix (.func (.func g) #[] cb) blk off cap s m e d0 d w0 wc HR.out hs S1.out hb.1 hb.2 (by omega) (by omega)
     go_wp2_with fail
     refine hc.mono ?_
     rintro e' w' ⟨rfl,d1,hr,hS⟩
     have HX:Aside (SW (encI ix) w0 blk off d1 w'):=hS
     have HY:Hid (TwoP tot ix a s h d1∧TwoP tot ix h e b d1∧(∀ i j,a≤i→i<h→h≤j→j<b→tot d1[j]! d1[i]! = false)∧PermIn a b d d1):=HST2.out d1 (Or.inl ⟨hb.1,hb.2,hr⟩)
     clear hS hr hc
     go_wp2_with fail
     go_meet
     exact ⟨d1,rfl,rfl,HY,HX⟩
    | false =>
     have HY:Hid (TwoP tot ix a s h d∧TwoP tot ix h e b d∧(∀ i j,a≤i→i<h→h≤j→j<b→tot d[j]! d[i]! = false)∧PermIn a b d d):=HST2.out d (Or.inr ⟨fun h=>(by have:=HB.out.2 h;cases this),rfl⟩)
     go_wp2_with fail
     go_meet
     exact ⟨d,rfl,rfl,HY,S1⟩
   case rest =>
   obtain ⟨d1,rfl,rfl,HD1,S2⟩:=hcut
   have hz1s:d1.size=d.size:=HD1.out.2.2.2.1
   clear S1 HST2 HB
   go_upto_region 41 with fail
   go_cut [199] from 192 to 198 (fun s199 wx => ∃ β:Bool,s199=.bool β∧Hid (β=true↔a<s∧s<h)∧wx=wc)
   case first =>
    by_cases k1:a<s
    ·have k1I:(a:Int)<(s:Int):=by omega
     by_cases k2:s<h
     ·have k2I:(s:Int)<(h:Int):=by omega
      go_wp2_with fail
      go_meet
      exact ⟨true,rfl,⟨fun _=>⟨k1,k2⟩,fun _=>rfl⟩,rfl⟩
     ·have k2I : ¬ (s:Int)<(h:Int):=by omega
      go_wp2_with fail
      go_meet
      exact ⟨false,rfl,⟨fun h=>(by cases h),fun h=>absurd h.2 k2⟩,rfl⟩
    ·have k1I : ¬ (a:Int)<(s:Int):=by omega
     go_wp2_with fail
     go_meet
     exact ⟨false,rfl,⟨fun h=>(by cases h),fun h=>absurd h.1 k1⟩,rfl⟩
   case rest =>
   obtain ⟨β2,rfl,HB,rfl⟩:=hcut
   go_upto_if 199 with fail
   go_cut [24,199] from 200 to 205 (fun s24 s199 wx => ∃ d2:Array α,s24=.int .i64 e∧s199=.bool β2∧Hid (PermIn a h d1 d2∧SortedIn tot a h d2)∧Aside (SW (encI ix) w0 blk off d2 wx))
   case first =>
    cases β2 with
    | true =>
     have hb:=HB.out.1 rfl
     have hc:=HI.out a s h d1 wc (by omega) (by omega) S2 HD1.out.1 hb.1 hb.2 (by omega)
     rw [hz1s] at hc
     go_wp2_with fail
     refine hc.mono ?_
     rintro e' w' ⟨rfl,d2,hr1,hr2,hS⟩
     have HX:Aside (SW (encI ix) w0 blk off d2 w'):=hS
     have HY:Hid (PermIn a h d1 d2∧SortedIn tot a h d2):=⟨hr2,hr1⟩
     clear hS hr1 hr2 hc
     go_wp2_with fail
     go_meet
     exact ⟨d2,rfl,rfl,HY,HX⟩
    | false =>
     have HY:Hid (PermIn a h d1 d1∧SortedIn tot a h d1):=⟨permIn_refl d1 a h,two_done HD1.out.1 (fun h=>(by have:=HB.out.2 h;cases this)) (by omega) (by omega)⟩
     go_wp2_with fail
     go_meet
     exact ⟨d1,rfl,rfl,HY,S2⟩
   case rest =>
   obtain ⟨d2,rfl,rfl,HD2,S3⟩:=hcut
   have hz2s:d2.size=d.size:=HD2.out.1.1.trans hz1s
   clear S2 HB
   go_upto_region 43 with fail
   go_cut [213] from 206 to 212 (fun s213 wx => ∃ β:Bool,s213=.bool β∧Hid (β=true↔h<e∧e<b)∧wx=wc)
   case first =>
    by_cases k1:h<e
    ·have k1I:(h:Int)<(e:Int):=by omega
     by_cases k2:e<b
     ·have k2I:(e:Int)<(b:Int):=by omega
      go_wp2_with fail
      go_meet
      exact ⟨true,rfl,⟨fun _=>⟨k1,k2⟩,fun _=>rfl⟩,rfl⟩
     ·have k2I : ¬ (e:Int)<(b:Int):=by omega
      go_wp2_with fail
      go_meet
      exact ⟨false,rfl,⟨fun h=>(by cases h),fun h=>absurd h.2 k2⟩,rfl⟩
    ·have k1I : ¬ (h:Int)<(e:Int):=by omega
     go_wp2_with fail
     go_meet
     exact ⟨false,rfl,⟨fun h=>(by cases h),fun h=>absurd h.1 k1⟩,rfl⟩
   case rest =>
   obtain ⟨β3,rfl,HB,rfl⟩:=hcut
   have HTW:Hid (TwoP tot ix h e b d2):=two_perm HD1.out.2.1 HD2.out.1 (Or.inr (Nat.le_refl _)) (by omega) (by omega)
   have HJ:Hid (∀ d3:Array α,PermIn h b d2 d3→SortedIn tot h b d3→SortedIn tot a b d3∧PermIn a b d d3):=fun d3 k1 k2=>by
    obtain ⟨-,-,hx,hp⟩:=HD1.out
    have:=two_join (d3:=d3) (by omega) (by omega) (by omega) hx HD2.out.1 HD2.out.2 k1 k2
    exact ⟨this.1,permIn_trans d d1 d3 a b hp this.2⟩
   clear HD1 HD2
   cases β3 with
   | true =>
    have hb:=HB.out.1 rfl
    have hc:=HI.out h e b d2 wc (by omega) (by omega) S3 HTW.out hb.1 hb.2 (by omega)
    rw [hz2s] at hc
    go_wp2_with fail
    refine hc.mono ?_
    rintro e' w' ⟨rfl,d3,hr1,hr2,hS⟩
    have HY:=HJ.out d3 hr2 hr1
    go_wp2_with fail
    go_end0
    exact ⟨rfl,d3,HY.1,HY.2,hS⟩
   | false =>
    have HY:=HJ.out d2 (permIn_refl d2 h b) (two_done HTW.out (fun h=>(by have:=HB.out.2 h;cases this)) (by omega) (by omega))
    go_wp2_with fail
    go_end0
    exact ⟨rfl,d2,HY.1,HY.2,S3.out⟩
theorem merge_any {cf:α→α→Int} {tot:α→α→Bool} {ix:α→Nat} {g:Nat} {cb:Array Value} {blk off:Nat} {d0:Array α} {w0:World} (M:MgC cf tot ix g cb blk off d0 w0) (cap:Nat):∀ N,MergeOk tot ix g cb blk off d0 w0 cap N:=by
 intro N
 induction N with
 | zero=>exact fun a m b d w h1 _ _ _ h2 h3 _=>by omega
 | succ N ih =>
  intro a m b d w hN hs S W h2 h3 hb
  by_cases k1:m=a+1
  ·exact sym1_any M cap a m b d w hs S.out W k1 h3 hb
  ·by_cases k2:b=m+1
   ·exact sym2_any M cap a m b d w hs S.out W k2 (by omega) hb
   ·exact symmain_any M cap N ih a m b d w hN hs S.out W (by omega) (by omega) hb
end Go.Proofs.YtenlladggdcfnaaGreatDoor
namespace Go.Proofs.YtenlladggdcfnaaGreatDoor
open Go.ChangeShapes Go.WideShapes Go.ChangeAt Go.RowKit
set_option maxRecDepth 20000
theorem inO_short {D:Nat→Dm} {n:Nat} {L:List Int} (h:InO D n L):L.length≤4:=by rw [h.len];exact (allErr_some h.right).2.1
theorem keep3 {W w':World} {b b' o1 o2 o3:Nat} {u v z:Value} (h:b<W.heap.size∧b'<W.heap.size∧W.cell? ⟨b,o1,none⟩=some u∧W.cell? ⟨b,o2,none⟩=some v∧W.cell? ⟨b',o3,none⟩=some z) (hB:Below W.heap.size W w'):Below W.heap.size W w'∧w'.cell? ⟨b,o1,none⟩=some u∧w'.cell? ⟨b,o2,none⟩=some v∧w'.cell? ⟨b',o3,none⟩=some z :=
 ⟨hB,(hB.cell (p:=⟨b,o1,none⟩) h.1).trans h.2.2.1,(hB.cell (p:=⟨b,o2,none⟩) h.1).trans h.2.2.2.1,(hB.cell (p:=⟨b',o3,none⟩) h.2.1).trans h.2.2.2.2⟩
set_option maxHeartbeats 8000000 in
theorem icheck_any (A0:Option Addr) (cap n:Nat) (D:Nat→Dm) (A:Nat→Option Addr) (C:Nat→Nat) (AE:Option Addr) (ce:Nat) (xs:List EnL) (w:World) (hM:DimsV w A0 cap n D A C) (hE:EnsV w AE ce xs) :
  Calls Tryz.prog 45 #[.agg #[.slice A0 n cap],.slice AE xs.length ce] w fun r w'=>r=.returned (errV (entsErr D n (lE xs)))∧Below w.heap.size w w':=by
 have hB0:=ownOut_below w A0 n cap 25
 have h:=all_any A0 cap n D A C (ownOut w A0 n cap 25) (hM.later hB0)
 have HB0:Hid (Below w.heap.size w (ownOut w A0 n cap 25)):=hB0
 have HM:Hid (DimsV w A0 cap n D A C):=hM
 have HE:Hid (EnsV w AE ce xs):=hE
 generalize (allErr D n).1=x1 at h
 generalize (allErr D n).2.1=x2 at h
 clear hM hB0
 by_cases hR:(allErr D n).2.2=0
 ·have HR:Hid ((allErr D n).2.2=0):=hR
  have HV:Hid (entsErr D n (lE xs)=entFrom D n (qOf (lE xs) 0) ((lE xs).drop 0)):=ents_in _ hR
  rw [hR,errV_zero] at h
  obtain ⟨N,hN⟩:∃ N,xs.length=N:=⟨_,rfl⟩
  have HN:Hid (xs.length=N):=hN
  have hNb:(N:Int)≤9223372036854775807:=by have h1:=hE.1;have h2:=hE.2.1;omega
  rw [hN]
  clear hR hN hE
  go_enter Tryz.func45,Tryz.ntmps45
  go_wp2_with fail
  refine h.mono ?_
  rintro e w1 ⟨rfl,hb1⟩
  have hB:Below w.heap.size w w1:=onB HB0.out hb1
  have hz:w.heap.size<w1.heap.size:=by have:=hb1.size;rw [ownOut_size] at this;omega
  have h2:w1.cell? ⟨w.heap.size,0,none⟩=some (.slice A0 n cap):=(hb1.cell (p:=⟨w.heap.size,0,none⟩) (by show w.heap.size<_;rw [ownOut_size];omega)).trans (ownOut_at ..)
  have HM1:Hid (DimsV w1 A0 cap n D A C):=HM.out.later hB
  have HE1:Hid (EnsV w1 AE ce xs):=HE.out.later hB
  have HB:Hid (Below w.heap.size w w1):=hB
  clear hb1 h hB HM HE HB0
  go_wp2_with fail
  go_loopg [22] N (fun g s22 wr => ∃ (k:Nat),k≤N∧g=N-k∧s22=.int .i64 k∧Hid (entFrom D n (qOf (lE xs) k) ((lE xs).drop k)=entFrom D n (qOf (lE xs) 0) ((lE xs).drop 0))∧Hid (∀ j,j<k→entOne D n ((lE xs).getD j noEn)=0)∧Below w1.heap.size w1 wr)
  case atStart=>exact ⟨0,Nat.zero_le _,rfl,rfl,(rfl:entFrom D n (qOf (lE xs) 0) ((lE xs).drop 0)=entFrom D n (qOf (lE xs) 0) ((lE xs).drop 0)),fun j hj=>absurd hj (Nat.not_lt_zero _),Below.refl _ _⟩
  case round =>
   obtain ⟨k,hk,rfl,rfl,HF,HO,hBw⟩:=hrel
   have HBw:Hid (Below w1.heap.size w1 wr):=hBw
   by_cases hlt:k<N
   ·have hkx:k<xs.length:=by rw [HN.out];exact hlt
    have hki:(k:Int)<(N:Int):=by omega
    have hk1:(k:Int)+1≤9223372036854775807:=by omega
    obtain ⟨-,-,h0 | ⟨b,o,rfl,hEs⟩⟩:=HE1.out.later hBw
    ·have:=HN.out;rw [h0] at this;simp at this;omega
    obtain ⟨c1,c2⟩:=hEs.at hkx
    have hpl:=hEs.pl hkx
    have c0:wr.cell? ⟨w.heap.size,0,none⟩=some (.slice A0 n cap):=(hBw.cell (p:=⟨w.heap.size,0,none⟩) hz).trans h2
    have hzr:w.heap.size<wr.heap.size:=Nat.lt_of_lt_of_le hz hBw.size
    have hBo:=ownEn_below wr (xs.getD k noL).A (xs.getD k noL).e.pl.length (xs.getD k noL).c (xs.getD k noL).e.n 87
    have hck:=icheck1_any A0 cap n D A C (xs.getD k noL).A (xs.getD k noL).c (xs.getD k noL).e (ownEn wr (xs.getD k noL).A (xs.getD k noL).e.pl.length (xs.getD k noL).c (xs.getD k noL).e.n 87) HR.out ((HM1.out.later hBw).later hBo) (hpl.later hBo)
    have HBo:Hid (Below wr.heap.size wr (ownEn wr (xs.getD k noL).A (xs.getD k noL).e.pl.length (xs.getD k noL).c (xs.getD k noL).e.n 87)):=hBo
    have HEs:Hid (EnsAt wr b o xs):=hEs
    have HPL:Hid (PlAt wr (xs.getD k noL).A (xs.getD k noL).c (xs.getD k noL).e.pl):=hpl
    have H0:Hid ((ownEn wr (xs.getD k noL).A (xs.getD k noL).e.pl.length (xs.getD k noL).c (xs.getD k noL).e.n 87).cell? ⟨wr.heap.size,0,none⟩=some (.slice (xs.getD k noL).A (xs.getD k noL).e.pl.length (xs.getD k noL).c)):=ownEn_0 ..
    have HS:Hid (wr.heap.size<(ownEn wr (xs.getD k noL).A (xs.getD k noL).e.pl.length (xs.getD k noL).c (xs.getD k noL).e.n 87).heap.size):=by show _<_;rw [ownEn_size];omega
    clear hBw hEs hpl hBo
    by_cases he:entOne D n (xs.getD k noL).e=0
    ·have hKO:=entOne_right HR.out he
     have HK0:Hid (entOne D n ((lE xs).getD k noEn)=0):=by show _=_;rw [lE_at];exact he
     have HSh:Hid ((xs.getD k noL).e.pl.length≤4):=inO_short hKO.1
     rw [he,errV_zero] at hck
     clear he hKO
     rcases Nat.eq_zero_or_pos k with hk0 | hk0
     ·subst hk0
      have HQ:Hid (aheadOk (qOf (lE xs) 0) ((lE xs).getD 0 noEn).pl=true):=rfl
      have HST:Hid (entFrom D n (qOf (lE xs) 0) ((lE xs).drop 0)=entFrom D n (qOf (lE xs) (0+1)) ((lE xs).drop (0+1))):=ent_on (by rw [lE_len];exact hkx) HK0.out HQ.out
      generalize (xs.getD 0 noL).A=A1 at c1 hck HBo H0 HS
      generalize (xs.getD 0 noL).c=k1 at c1 hck HBo H0 HS
      generalize (xs.getD 0 noL).e.n=n1 at c2 hck HBo H0 HS
      generalize (xs.getD 0 noL).e.pl.length=m1 at c1 hck HBo H0 HS
      simp only [Nat.zero_mul,Nat.add_zero] at c1 c2
      clear HPL HSh
      go_wp2_with fail
      refine hck.mono ?_
      rintro e w2 ⟨rfl,hb2⟩
      have HB2:Hid (Below wr.heap.size wr w2):=onB HBo.out hb2
      clear hb2
      go_wp2_with fail
      go_quiet (fail)
      go_wp2_with fail
      go_roundg (N-(0+1))
      case measure=>omega
      case rel =>
       refine ⟨0+1,by omega,rfl,by go_num,HST.out.symm,fun j hj=>?_,below_drewN (onB HBw.out HB2.out) _⟩
       have:j=0:=by omega
       subst this
       exact HK0.out
     ·obtain ⟨j,hj⟩:∃ j,k=j+1:=⟨k-1,by omega⟩
      have hjx:j<xs.length:=by omega
      obtain ⟨d1,d2⟩:=HEs.out.at hjx
      have hjO:=entOne_right HR.out (HO.out j (by omega))
      rw [lE_at] at hjO
      have HJ:Hid (∀ w',Below wr.heap.size wr w'→Calls Tryz.prog 70 #[.agg #[.slice (xs.getD j noL).A (xs.getD j noL).e.pl.length (xs.getD j noL).c,.int .i64 (xs.getD j noL).e.n],.slice (xs.getD k noL).A (xs.getD k noL).e.pl.length (xs.getD k noL).c] w' fun e w''=>e=.returned (.int .i64 (cmpL (xs.getD j noL).e.pl (xs.getD k noL).e.pl))∧Below w'.heap.size w' w''):=fun w' hw'=>order_any _ _ _ _ _ _ _ w' (inO_short hjO.1) HSh.out ((HEs.out.pl hjx).later hw') (HPL.out.later hw')
      have HCN:Hid (decide (0≤cmpL (xs.getD j noL).e.pl (xs.getD k noL).e.pl) = !lessL (xs.getD j noL).e.pl (xs.getD k noL).e.pl):=cmpL_nonneg (xs.getD j noL).e.pl (xs.getD k noL).e.pl
      have HQ:Hid (aheadOk (qOf (lE xs) k) ((lE xs).getD k noEn).pl=lessL (xs.getD j noL).e.pl (xs.getD k noL).e.pl):=by show _=_;rw [←lE_at,←lE_at,hj];rfl
      have hwr:IntKind.i64.wrap ((k:Int)-1)=(j:Int):=by rw [IntKind.wrap_i64];omega
      have hj0:(0:Int)<(k:Int):=by omega
      have HKJ:Hid (k=j+1):=hj
      have hjN:(j:Int)<(N:Int):=by omega
      generalize (xs.getD k noL).A=A1 at c1 hck HBo H0 HS HJ
      generalize (xs.getD k noL).c=k1 at c1 hck HBo H0 HS HJ
      generalize (xs.getD k noL).e.n=n1 at c2 hck HBo H0 HS
      generalize (xs.getD k noL).e.pl.length=m1 at c1 hck HBo H0 HS HJ
      generalize (xs.getD j noL).A=A2 at d1 HJ
      generalize (xs.getD j noL).c=k2 at d1 HJ
      generalize (xs.getD j noL).e.n=n2 at d2 HJ
      generalize (xs.getD j noL).e.pl.length=m2 at d1 HJ
      generalize cmpL (xs.getD j noL).e.pl (xs.getD k noL).e.pl=cc at HJ HCN
      have hbb:=HEs.out.1
      clear HPL HSh hjO hj
      go_wp2_with fail
      refine hck.mono ?_
      rintro e w2 ⟨rfl,hb2⟩
      have hB2:Below wr.heap.size wr w2:=onB HBo.out hb2
      have HB2:Hid (Below wr.heap.size wr w2):=hB2
      have e1:w2.cell? ⟨b,o+j*2,none⟩=some (.slice A2 m2 k2):=(hB2.cell (p:=⟨b,o+j*2,none⟩) hbb).trans d1
      have e2:w2.cell? ⟨b,o+j*2+1,none⟩=some (.int .i64 n2):=(hB2.cell (p:=⟨b,o+j*2+1,none⟩) hbb).trans d2
      have e3:w2.cell? ⟨wr.heap.size,0,none⟩=some (.slice A1 m1 k1):=(hb2.cell (p:=⟨wr.heap.size,0,none⟩) HS.out).trans H0.out
      have hz2:wr.heap.size<w2.heap.size:=Nat.lt_of_lt_of_le HS.out hb2.size
      clear hb2 hB2 c1 c2 d1 d2
      have HC3:Hid (b<w2.heap.size∧wr.heap.size<w2.heap.size∧w2.cell? ⟨b,o+j*2,none⟩=some (.slice A2 m2 k2)∧w2.cell? ⟨b,o+j*2+1,none⟩=some (.int .i64 n2)∧w2.cell? ⟨wr.heap.size,0,none⟩=some (.slice A1 m1 k1)):=⟨Nat.lt_of_lt_of_le hbb HB2.out.size,hz2,e1,e2,e3⟩
      go_wp2_with fail
      go_cut [45] (fun s45 wx=>s45=.bool (decide (0≤cc))∧Below w2.heap.size w2 wx)
      case first =>
       go_region_held3 (fun w'=>Below w2.heap.size w2 w'∧w'.cell? ⟨b,o+j*2,none⟩=some (.slice A2 m2 k2)∧w'.cell? ⟨b,o+j*2+1,none⟩=some (.int .i64 n2)∧w'.cell? ⟨wr.heap.size,0,none⟩=some (.slice A1 m1 k1))
        ((refine keep3 HC3.out ?_;go_grown;done))
        (first | (go_at_call 70;refine (HJ.out _ (onB HB2.out (by go_grown))).mono ?_;rintro e w3 ⟨rfl,hb3⟩;have hN3:=onB (W0:=w2) (by go_grown) hb3;have hy3:=hN3.size;clear hb3))
       all_goals go_wp2_with fail
       all_goals go_meet
       all_goals exact ⟨rfl,by go_grown⟩
      case rest =>
       obtain ⟨rfl,hb3⟩:=hcut
       have HB3:Hid (Below w2.heap.size w2 wc):=hb3
       clear hb3 e1 e2 e3 HC3 HJ hz2 hwr hjN
       obtain ⟨tC,htC⟩:∃ t,decide (0≤cc)=t:=⟨_,rfl⟩
       rw [htC]
       have HTC:Hid (decide (0≤cc)=tC):=htC
       clear htC hk0 hj0 hbb hzr c0
       cases tC
       case true =>
        have HST:Hid (errV (entsErr D n (lE xs))=.iface 46 (.int .i64 7)):=by
         show _=_
         have h3:=HCN.out
         rw [HTC.out] at h3
         rw [HV.out,←HF.out,ent_clash (by rw [lE_len];exact hkx) HK0.out (by rw [HQ.out];simpa using h3)];rfl
        go_wp2_with fail
        go_ret
        rw [HST.out]
        exact ⟨rfl,onB HB.out (onB HBw.out (onB HB2.out HB3.out))⟩
       case false =>
        have HST:Hid (entFrom D n (qOf (lE xs) k) ((lE xs).drop k)=entFrom D n (qOf (lE xs) (k+1)) ((lE xs).drop (k+1))):=by
         show _=_
         have h3:=HCN.out
         rw [HTC.out] at h3
         exact ent_on (by rw [lE_len];exact hkx) HK0.out (by rw [HQ.out];simpa using h3)
        go_wp2_with fail
        go_roundg (N-(k+1))
        case measure=>omega
        case rel =>
         refine ⟨k+1,by omega,rfl,by go_num,HST.out.symm.trans HF.out,fun i hi=>?_,onB HBw.out (onB HB2.out HB3.out)⟩
         rcases Nat.lt_succ_iff_lt_or_eq.1 hi with h1 | rfl
         ·exact HO.out i h1
         ·exact HK0.out
    ·have HFin:Hid (errV (entsErr D n (lE xs))=.iface 46 (.int .i64 (entOne D n (xs.getD k noL).e))):=by
      show _=_
      rw [HV.out,←HF.out,ent_bad (by rw [lE_len];exact hkx) (by rw [lE_at];exact he),lE_at,errV_some he]
     rw [errV_some he] at hck
     generalize entOne D n (xs.getD k noL).e=E at hck HFin
     generalize (xs.getD k noL).A=A1 at c1 hck HBo H0 HS
     generalize (xs.getD k noL).c=k1 at c1 hck HBo H0 HS
     generalize (xs.getD k noL).e.n=n1 at c2 hck HBo H0 HS
     generalize (xs.getD k noL).e.pl.length=m1 at c1 hck HBo H0 HS
     clear HPL he
     go_wp2_with fail
     refine hck.mono ?_
     rintro e w2 ⟨rfl,hb2⟩
     have HB2:Hid (Below wr.heap.size wr w2):=onB HBo.out hb2
     clear hb2
     go_wp2_with fail
     go_ret
     rw [HFin.out]
     exact ⟨rfl,onB HB.out (onB HBw.out HB2.out)⟩
   ·have hke:k=N:=by omega
    subst hke
    have HFin:Hid (errV (entsErr D n (lE xs))=.nilIface):=by show _=_;rw [HV.out,←HF.out,ent_end (by rw [lE_len,HN.out];exact Nat.le_refl _)];rfl
    clear hBw
    go_wp2_with fail
    go_ret
    rw [HFin.out]
    exact ⟨rfl,onB HB.out HBw.out⟩
 ·have HV:Hid (errV (entsErr D n (lE xs))=.iface 46 (.int .i64 (allErr D n).2.2)):=by show _=_;rw [ents_bad _ hR,errV_some hR]
  rw [errV_some hR] at h
  generalize (allErr D n).2.2=E at h HV
  generalize xs.length=N
  clear hR hE HM HE
  go_enter Tryz.func45,Tryz.ntmps45
  go_wp2_with fail
  refine h.mono ?_
  rintro e w1 ⟨rfl,hb1⟩
  go_wp2_with fail
  go_ret
  rw [HV.out]
  exact ⟨rfl,onB HB0.out hb1⟩
end Go.Proofs.YtenlladggdcfnaaGreatDoor
