/-
  slices.stableCmpFunc and slices.SortStableFunc at ints: what stands for 0, 1, 2 .. in order comes to the order that is asked, equal ones as they stood.
-/
import Derived.Test.YtbhanigcjdegjaaGreatDoorShelfQ
import Derived.Deep.CutBlock
import Derived.Test.YtbhanigcjdegjaaGreatDoorJAAM
namespace Go.Proofs.YtbhanigcjdegjaaGreatDoor
open Go Go.ChangeShapes Go.WideShapes Go.ChangeAt Go.RowKit Go.Shelf Go.Lib Go.Sort
set_option linter.unusedSectionVars false
set_option maxRecDepth 100000
variable {α:Type} [Inhabited α]
theorem ins_any {cf:α→α→Int} {tot:α→α→Bool} {ix:α→Nat} {g:Nat} {cb:Array Value} {blk off:Nat} {d0:Array α} {w0:World} (M:MgC cf tot ix g cb blk off d0 w0)
  (cap a b:Nat) (d:Array α) (w:World) (hs:d0.size=d.size) (S:Aside (SW (encI ix) w0 blk off d w)) (hab:a≤b) (hb:b≤d.size) :
  Calls Tryz.prog 68 #[.slice (some ⟨blk,off,none⟩) d.size cap,.int .i64 a,.int .i64 b,.func (.func g) #[] cb] w fun e w'=>e=.returned (.tuple #[])∧SW (encI ix) w0 blk off (Go.Sort.insertionSort (ltOf cf) d a b) w' :=
 Any.insertionSortCmpFunc_s Tryz.insL (encI ix) cf g cb blk off cap a b d0 d w0 w M.eg M.hc M.R hs S.out hab hb (by have:=M.sz;omega)
theorem perm_up {n a b:Nat} {d dk dk':Array α} (h:PermIn 0 n d dk) (hn:dk.size=n) (hb:b≤n) (P:PermIn a b dk dk'):PermIn 0 n d dk' :=
 permIn_trans d dk dk' 0 n h (permIn_mono dk dk' a b 0 n (Nat.zero_le _) hb (by omega) P)
set_option maxHeartbeats 16000000 in
theorem stable_any {cf:α→α→Int} {tot:α→α→Bool} {ix:α→Nat} {g:Nat} {cb:Array Value} {blk off:Nat} {d0:Array α} {w0:World} (M:MgC cf tot ix g cb blk off d0 w0)
  (cap n:Nat) (d:Array α) (w:World) (hn:d.size=n) (hs:d0.size=d.size) (S:SW (encI ix) w0 blk off d w) (h0:∀ i,i<n→ix d[i]! = i) :
  Calls Tryz.prog 46 #[.slice (some ⟨blk,off,none⟩) n cap,.int .i64 n,.func (.func g) #[] cb] w fun e w'=>e=.returned (.tuple #[])∧∃ d',SortedIn tot 0 n d'∧PermIn 0 n d d'∧SW (encI ix) w0 blk off d' w':=by
 have mixed:Tryz.prog.follows .mixedOrders=true:=by kernel_rfl
 have hsz:n≤1000:=by have:=M.sz;omega
 have HM:Aside (MgC cf tot ix g cb blk off d0 w0):=M
 have S0:Aside (SW (encI ix) w0 blk off d w):=S
 have HD:Hid (d0.size=n∧d.size=n):=⟨by omega,hn⟩
 have H0:Hid (InsB tot ix n 20 0 d):=⟨fun e he=>absurd he (Nat.not_lt_zero _),fun i _ hi=>h0 i hi⟩
 clear S M hn hs h0
 go_enter Tryz.func46,Tryz.ntmps46
 go_wp2_with fail
 go_loopg [7,8] n (fun gg s7 s8 wr => ∃ (c A B:Nat) (dk:Array α),s7=.int .i64 A∧s8=.int .i64 B∧A+20≤B∧B≤A+20∧A≤n∧gg=n-A∧Hid (A=c*20)∧Hid (InsB tot ix n 20 c dk)∧Hid (PermIn 0 n d dk)∧Hid (dk.size=n)∧Aside (SW (encI ix) w0 blk off dk wr))
 case atStart=>exact ⟨0,0,20,d,rfl,rfl,by omega,by omega,Nat.zero_le _,rfl,rfl,H0,permIn_refl d 0 n,HD.out.2,S0⟩
 case round =>
  clear S0 H0
  obtain ⟨c,A,B,dk,rfl,rfl,hB1,hB2,hAn,rfl,HA,HI,HP,HS,S1⟩:=hrel
  by_cases hlt:B≤n
  ·have hltz:(B:Int)≤(n:Int):=by omega
   have hBI:IntKind.i64.wrap ((B:Int)+20)=((B+20:Nat):Int):=by rw [IntKind.wrap_i64];omega
   have hc:=ins_any HM.out cap A B dk wr (by have:=HD.out;have:=HS.out;omega) S1 (by omega) (by have:=HS.out;omega)
   rw [HS.out] at hc
   have hst:InsB tot ix n 20 (c+1) (Go.Sort.insertionSort (ltOf cf) dk A B)∧PermIn A B dk (Go.Sort.insertionSort (ltOf cf) dk A B):=by
    have:=insB_step HM.out.T HS.out HI.out (by have:=HA.out;omega)
    rwa [show c*20+20=B by have:=HA.out;omega,←HA.out] at this
   have HI2:Hid (InsB tot ix n 20 (c+1) (Go.Sort.insertionSort (ltOf cf) dk A B)):=hst.1
   have HP2:Hid (PermIn 0 n d (Go.Sort.insertionSort (ltOf cf) dk A B)):=perm_up HP.out HS.out hlt hst.2
   have HS2:Hid ((Go.Sort.insertionSort (ltOf cf) dk A B).size=n):=hst.2.1.trans HS.out
   have HA2:Hid (B=(c+1)*20):=by show _=_;rw [Nat.succ_mul,←HA.out];omega
   clear hst S1 HI HP HS
   generalize Go.Sort.insertionSort (ltOf cf) dk A B=dk2 at hc HI2 HP2 HS2
   go_wp2_with fail
   refine hc.mono ?_
   rintro e w' ⟨rfl,hS⟩
   have HX:Aside (SW (encI ix) w0 blk off dk2 w'):=hS
   clear hS hc
   go_wp2_with fail
   go_roundg (n-B)
   case measure=>omega
   case rel=>exact ⟨c+1,B,B+20,dk2,rfl,rfl,Nat.le_refl _,Nat.le_refl _,hlt,rfl,HA2,HI2,HP2,HS2,HX⟩
  ·have hltz : ¬ (B:Int)≤(n:Int):=by omega
   have hc:=ins_any HM.out cap A n dk wr (by have:=HD.out;have:=HS.out;omega) S1 hAn (by have:=HS.out;omega)
   rw [HS.out] at hc
   have hst:AllB tot ix n 20 (Go.Sort.insertionSort (ltOf cf) dk A n)∧PermIn A n dk (Go.Sort.insertionSort (ltOf cf) dk A n):=by
    have:=insB_end HM.out.T (by omega) HS.out HI.out (by have:=HA.out;omega) (by have:=HA.out;omega)
    rwa [←HA.out] at this
   have HI2:Hid (AllB tot ix n 20 (Go.Sort.insertionSort (ltOf cf) dk A n)):=hst.1
   have HP2:Hid (PermIn 0 n d (Go.Sort.insertionSort (ltOf cf) dk A n)):=perm_up HP.out HS.out (Nat.le_refl _) hst.2
   have HS2:Hid ((Go.Sort.insertionSort (ltOf cf) dk A n).size=n):=hst.2.1.trans HS.out
   clear hst S1 HI HP HS
   generalize Go.Sort.insertionSort (ltOf cf) dk A n=dk2 at hc HI2 HP2 HS2
   go_wp2_with fail
   refine hc.mono ?_
   rintro e w' ⟨rfl,hS⟩
   have HX:Aside (SW (encI ix) w0 blk off dk2 w'):=hS
   clear hS hc
   go_wp2_with fail
   go_loopg [6,7,8,9] (n-20) (fun gg s6 s7 s8 s9 wr => ∃ (s:Nat) (dk:Array α),s6=.int .i64 s∧(∃ v7,v7=s7)∧(∃ v8,v8=s8)∧(∃ v9,v9=s9)∧0<s∧s≤2000∧gg=n-s∧Hid (AllB tot ix n s dk)∧Hid (PermIn 0 n d dk)∧Hid (dk.size=n)∧Aside (SW (encI ix) w0 blk off dk wr))
   case atStart=>exact ⟨20,dk2,rfl,⟨_,rfl⟩,⟨_,rfl⟩,⟨_,rfl⟩,by omega,by omega,rfl,HI2,HP2,HS2,HX⟩
   case round =>
    clear HX HI2 HP2 HS2
    obtain ⟨s,dk3,rfl,⟨v7,rfl⟩,⟨v8,rfl⟩,⟨v9,rfl⟩,hs0,hs2,rfl,HI,HP,HS,S1⟩:=hrel
    by_cases hlt2:s<n
    ·have hltz2:(s:Int)<(n:Int):=by omega
     obtain ⟨T,hT1,hT2,hTI⟩:∃ T:Nat,T≤2*s∧2*s≤T∧IntKind.i64.wrap (2*(s:Int))=(T:Int):=⟨2*s,Nat.le_refl _,Nat.le_refl _,by rw [IntKind.wrap_i64];omega⟩
     have hTI2:IntKind.i64.wrap ((s:Int)*2)=(T:Int):=by rw [IntKind.wrap_i64];omega
     have HH:Hid (Half tot ix n s 0 dk3):=half_start HI.out
     clear HI
     go_wp2_with fail
     go_loopg [7,8] n (fun gg s7 s8 wr => ∃ (c A B:Nat) (dk:Array α),s7=.int .i64 A∧s8=.int .i64 B∧A+T≤B∧B≤A+T∧A≤n∧gg=n-A∧Hid (A=c*(2*s))∧Hid (Half tot ix n s c dk)∧Hid (PermIn 0 n d dk)∧Hid (dk.size=n)∧Aside (SW (encI ix) w0 blk off dk wr))
     case atStart=>exact ⟨0,0,T,dk3,rfl,rfl,by omega,by omega,Nat.zero_le _,rfl,by show _=_;rw [Nat.zero_mul],HH,HP,HS,S1⟩
     case round =>
      clear S1 HH HP HS
      obtain ⟨c,A,B,dk,rfl,rfl,hB1,hB2,hAn,rfl,HA,HI,HP,HS,S1⟩:=hrel
      by_cases hlt3:B≤n
      ·have hltz3:(B:Int)≤(n:Int):=by omega
       have hBI:IntKind.i64.wrap ((B:Int)+(T:Int))=((B+T:Nat):Int):=by rw [IntKind.wrap_i64];omega
       obtain ⟨m,hm1,hm2,hmI⟩:∃ m:Nat,m≤A+s∧A+s≤m∧IntKind.i64.wrap ((A:Int)+(s:Int))=(m:Int):=⟨A+s,Nat.le_refl _,Nat.le_refl _,by rw [IntKind.wrap_i64];omega⟩
       have htw:TwoP tot ix A m B dk:=by
        have:=(half_two hs0 HI.out (by have:=HA.out;omega)).1
        rw [←HA.out,Nat.min_eq_left (by omega),show A+s=m by omega,show A+2*s=B by omega] at this
        exact this
       have hc:=merge_any HM.out cap 1000 A m B dk wr (by omega) (by have:=HD.out;have:=HS.out;omega) S1 htw (by omega) (by omega) (by have:=HS.out;omega)
       rw [HS.out] at hc
       have HST:Hid (∀ dk',SortedIn tot A B dk'→PermIn A B dk dk'→Half tot ix n s (c+1) dk'∧PermIn 0 n d dk'∧dk'.size=n):=fun dk' k1 k2=>by
        refine ⟨?_,perm_up HP.out HS.out hlt3 k2,k2.1.trans HS.out⟩
        rw [show B=A+2*s by omega,HA.out] at k1 k2
        exact half_step hs0 HS.out HI.out (by have:=HA.out;omega) k1 k2
       have HA2:Hid (B=(c+1)*(2*s)):=by show _=_;rw [Nat.succ_mul,←HA.out];omega
       clear htw S1 HI HP HS
       go_wp2_with fail
       refine hc.mono ?_
       rintro e w' ⟨rfl,dk4,k1,k2,hS⟩
       have HX:Aside (SW (encI ix) w0 blk off dk4 w'):=hS
       have HY:=HST.out dk4 k1 k2
       have HY1:Hid (Half tot ix n s (c+1) dk4):=HY.1
       have HY2:Hid (PermIn 0 n d dk4):=HY.2.1
       have HY3:Hid (dk4.size=n):=HY.2.2
       clear hS hc HY k1 k2 HST
       go_wp2_with fail
       go_roundg (n-B)
       case measure=>omega
       case rel=>exact ⟨c+1,B,B+T,dk4,rfl,by first | rfl | go_num,by omega,by omega,hlt3,rfl,HA2,HY1,HY2,HY3,HX⟩
      ·have hltz3 : ¬ (B:Int)≤(n:Int):=by omega
       obtain ⟨m,hm1,hm2,hmI⟩:∃ m:Nat,m≤A+s∧A+s≤m∧IntKind.i64.wrap ((A:Int)+(s:Int))=(m:Int):=⟨A+s,Nat.le_refl _,Nat.le_refl _,by rw [IntKind.wrap_i64];omega⟩
       go_upto_if 54 with fail
       go_cut [54] from 55 to 60 (fun s54 wx => ∃ (β:Bool) (dk':Array α),s54=.bool β∧Hid (AllB tot ix n (2*s) dk')∧Hid (PermIn 0 n d dk')∧Hid (dk'.size=n)∧Aside (SW (encI ix) w0 blk off dk' wx))
       case first =>
        by_cases hmn:m<n
        ·have hmnI:(m:Int)<(n:Int):=by omega
         have htw:TwoP tot ix A m n dk:=by
          have:=(half_two hs0 HI.out (by have:=HA.out;omega)).1
          rw [←HA.out,Nat.min_eq_right (by omega),show A+s=m by omega] at this
          exact this
         have hc:=merge_any HM.out cap 1000 A m n dk wr (by omega) (by have:=HD.out;have:=HS.out;omega) S1 htw (by omega) hmn (by have:=HS.out;omega)
         rw [HS.out] at hc
         have HST:Hid (∀ dk',SortedIn tot A n dk'→PermIn A n dk dk'→AllB tot ix n (2*s) dk'∧PermIn 0 n d dk'∧dk'.size=n):=fun dk' k1 k2=>by
          refine ⟨?_,perm_up HP.out HS.out (Nat.le_refl _) k2,k2.1.trans HS.out⟩
          rw [HA.out] at k1 k2
          exact half_end hs0 HS.out HI.out (by have:=HA.out;omega) (by have:=HA.out;omega) k1 k2
         clear htw S1 HI HP HS
         go_wp2_with fail
         refine hc.mono ?_
         rintro e w' ⟨rfl,dk4,k1,k2,hS⟩
         have HX:Aside (SW (encI ix) w0 blk off dk4 w'):=hS
         have HY:=HST.out dk4 k1 k2
         have HY1:Hid (AllB tot ix n (2*s) dk4):=HY.1
         have HY2:Hid (PermIn 0 n d dk4):=HY.2.1
         have HY3:Hid (dk4.size=n):=HY.2.2
         clear hS hc HY k1 k2 HST
         go_wp2_with fail
         go_meet
         exact ⟨_,dk4,rfl,HY1,HY2,HY3,HX⟩
        ·have hmnI : ¬ (m:Int)<(n:Int):=by omega
         have HY1:Hid (AllB tot ix n (2*s) dk):=half_end0 hs0 HI.out (by have:=HA.out;omega) (by have:=HA.out;omega)
         go_wp2_with fail
         go_meet
         exact ⟨_,dk,rfl,HY1,HP,HS,S1⟩
       case rest =>
       obtain ⟨β,dk5,rfl,HZ1,HZ2,HZ3,HZ4⟩:=hcut
       clear HI HP HS S1
       go_wp2_with fail
       go_roundg (n-T)
       case measure=>omega
       case rel=>exact ⟨T,dk5,rfl,⟨_,rfl⟩,⟨_,rfl⟩,⟨_,rfl⟩,by omega,by omega,rfl,by rw [show T=2*s by omega];exact HZ1,HZ2,HZ3,HZ4⟩
    ·have hltz2 : ¬ (s:Int)<(n:Int):=by omega
     go_wp2_with fail
     go_end0
     exact ⟨rfl,dk3,allB_sorted HI.out (by omega),HP.out,S1.out⟩
end Go.Proofs.YtbhanigcjdegjaaGreatDoor
namespace Go.Proofs.YtbhanigcjdegjaaGreatDoor
open Go.ChangeShapes Go.WideShapes Go.ChangeAt Go.RowKit
set_option maxRecDepth 20000
theorem isnan_any (x:Int) (w:World):Calls Tryz.prog 47 #[.int .i64 x] w fun e w'=>e=.returned (.bool false)∧w'=w:=by
 go_enter Tryz.func47,Tryz.ntmps47
 go_wp2_with fail
 go_ret
 exact ⟨rfl,rfl⟩
def cmpI (x y:Int):Int:=if x<y then -1 else if y<x then 1 else 0
set_option maxHeartbeats 1000000 in
theorem compare_any (x y:Int) (w:World):Calls Tryz.prog 30 #[.int .i64 x,.int .i64 y] w fun e w'=>e=.returned (.int .i64 (cmpI x y))∧w'=w:=by
 have h1:=isnan_any x
 have h2:=isnan_any y
 by_cases hxy:x<y
 ·have HV:Hid (cmpI x y = -1):=by show _=_;unfold cmpI;rw [if_pos hxy]
  go_enter Tryz.func30,Tryz.ntmps30
  go_wp2_with fail
  refine (h1 _).mono ?_
  rintro e w1 ⟨rfl,rfl⟩
  go_wp2_with fail
  refine (h2 _).mono ?_
  rintro e w2 ⟨rfl,rfl⟩
  go_wp2_with fail
  go_ret
  rw [HV.out]
  exact ⟨rfl,rfl⟩
 ·by_cases hyx:y<x
  ·have HV:Hid (cmpI x y=1):=by show _=_;unfold cmpI;rw [if_neg hxy,if_pos hyx]
   go_enter Tryz.func30,Tryz.ntmps30
   go_wp2_with fail
   refine (h1 _).mono ?_
   rintro e w1 ⟨rfl,rfl⟩
   go_wp2_with fail
   refine (h2 _).mono ?_
   rintro e w2 ⟨rfl,rfl⟩
   go_wp2_with fail
   go_ret
   rw [HV.out]
   exact ⟨rfl,rfl⟩
  ·have HV:Hid (cmpI x y=0):=by show _=_;unfold cmpI;rw [if_neg hxy,if_neg hyx]
   have e:x=y:=by omega
   subst e
   go_enter Tryz.func30,Tryz.ntmps30
   go_wp2_with fail
   refine (h1 _).mono ?_
   rintro e w1 ⟨rfl,rfl⟩
   go_wp2_with fail
   refine (h2 _).mono ?_
   rintro e w2 ⟨rfl,rfl⟩
   go_wp2_with fail
   go_ret
   rw [HV.out]
   exact ⟨rfl,rfl⟩
set_option maxHeartbeats 2000000 in
theorem scompare_any (A B:Option Addr) (ca cb:Nat) (a b:List Int) (w:World) (ha:a.length≤4) (hb:b.length≤4) (hA:PlAt w A ca a) (hB:PlAt w B cb b):Calls Tryz.prog 61 #[.slice A a.length ca,.slice B b.length cb] w fun e w'=>e=.returned (.int .i64 (cmpL a b))∧w'=w:=by
 have HA:Hid (PlAt w A ca a):=hA
 have HB:Hid (PlAt w B cb b):=hB
 have HN:Hid (∀ k,k<a.length→k<b.length→cmpL (a.drop k) (b.drop k)=if a.getD k 0<b.getD k 0 then -1 else if b.getD k 0<a.getD k 0 then 1 else cmpL (a.drop (k+1)) (b.drop (k+1))):=fun k h1 h2=>cmpL_in h1 h2
 have HL:Hid (∀ k,k<a.length→b.length≤k→cmpL (a.drop k) (b.drop k)=1):=fun k h1 h2=>cmpL_long h1 h2
 have HS:Hid (∀ k,a.length≤k→k<b.length→cmpL (a.drop k) (b.drop k) = -1):=fun k h1 h2=>cmpL_short h1 h2
 have HE:Hid (∀ k,a.length≤k→b.length≤k→cmpL (a.drop k) (b.drop k)=0):=fun k h1 h2=>cmpL_end h1 h2
 obtain ⟨na,hna⟩:∃ na,a.length=na:=⟨_,rfl⟩
 obtain ⟨nb,hnb⟩:∃ nb,b.length=nb:=⟨_,rfl⟩
 have HNA:Hid (a.length=na):=hna
 have HNB:Hid (b.length=nb):=hnb
 rw [hna] at HN HL HS HE ha
 rw [hnb] at HN HL HS HE hb
 rw [hna,hnb]
 have ha':(na:Int)≤4:=by omega
 have hb':(nb:Int)≤4:=by omega
 clear hA hB hna hnb
 go_enter Tryz.func61,Tryz.ntmps61
 go_wp2_with fail
 go_loopg [11] na (fun g s11 wr => ∃ (k:Nat),k≤na∧k≤nb∧g=na-k∧s11=.int .i64 k∧Hid (cmpL (a.drop k) (b.drop k)=cmpL a b)∧wr=w)
 case atStart=>exact ⟨0,Nat.zero_le _,Nat.zero_le _,rfl,rfl,(rfl:cmpL (a.drop 0) (b.drop 0)=cmpL a b),rfl⟩
 case round =>
  obtain ⟨k,hk,hk2,rfl,rfl,HF,hw⟩:=hrel
  subst hw
  by_cases hlt:k<na
  ·obtain ⟨hc,h0 | ⟨g1,o1,rfl,hbw,hcell⟩⟩:=HA.out
   ·have:=HNA.out;rw [h0] at this;simp at this;omega
   have x1:=hcell k (by rw [HNA.out];exact hlt)
   have hki:(k:Int)<(na:Int):=by omega
   by_cases hlb:k<nb
   ·obtain ⟨hc',h0 | ⟨g2,o2,rfl,hbw2,hcell2⟩⟩:=HB.out
    ·have:=HNB.out;rw [h0] at this;simp at this;omega
    have x2:=hcell2 k (by rw [HNB.out];exact hlb)
    have hkb:(k:Int)<(nb:Int):=by omega
    have hst:=HN.out k hlt hlb
    have hcmp:=compare_any (a.getD k 0) (b.getD k 0) wr
    generalize a.getD k 0=x at x1 hst hcmp
    generalize b.getD k 0=y at x2 hst hcmp
    have HST:Hid (cmpL (a.drop k) (b.drop k)=if x<y then -1 else if y<x then 1 else cmpL (a.drop (k+1)) (b.drop (k+1))):=hst
    clear hcell hcell2 hst
    by_cases hxy:x<y
    ·have hv:cmpI x y = -1:=by unfold cmpI;rw [if_pos hxy]
     rw [hv] at hcmp
     have HR:Hid (cmpL a b = -1):=by show _=_;rw [←HF.out,HST.out,if_pos hxy]
     clear hv hxy
     go_wp2_with fail
     refine hcmp.mono ?_
     rintro e w1 ⟨rfl,rfl⟩
     go_wp2_with fail
     go_ret
     rw [HR.out]
     exact ⟨rfl,rfl⟩
    ·by_cases hyx:y<x
     ·have hv:cmpI x y=1:=by unfold cmpI;rw [if_neg hxy,if_pos hyx]
      rw [hv] at hcmp
      have HR:Hid (cmpL a b=1):=by show _=_;rw [←HF.out,HST.out,if_neg hxy,if_pos hyx]
      clear hv hxy hyx
      go_wp2_with fail
      refine hcmp.mono ?_
      rintro e w1 ⟨rfl,rfl⟩
      go_wp2_with fail
      go_ret
      rw [HR.out]
      exact ⟨rfl,rfl⟩
     ·have hv:cmpI x y=0:=by unfold cmpI;rw [if_neg hxy,if_neg hyx]
      rw [hv] at hcmp
      have HR:Hid (cmpL (a.drop (k+1)) (b.drop (k+1))=cmpL a b):=by show _=_;rw [←HF.out,HST.out,if_neg hxy,if_neg hyx]
      clear hv hxy hyx
      go_wp2_with fail
      refine hcmp.mono ?_
      rintro e w1 ⟨rfl,rfl⟩
      go_wp2_with fail
      go_roundg (na-(k+1))
      case measure=>omega
      case rel=>exact ⟨k+1,by omega,by omega,rfl,by go_num,HR,rfl⟩
   ·have HR:Hid (cmpL a b=1):=by show _=_;rw [←HF.out,HL.out k hlt (by omega)]
    have hkb:(nb:Int)≤(k:Int):=by omega
    clear hcell
    generalize a.getD k 0=x at x1
    go_wp2_with fail
    go_ret
    rw [HR.out]
    exact ⟨rfl,rfl⟩
  ·have hke:k=na:=by omega
   subst hke
   by_cases hlb:k<nb
   ·have HR:Hid (cmpL a b = -1):=by show _=_;rw [←HF.out,HS.out k (Nat.le_refl _) hlb]
    have hkb:(k:Int)<(nb:Int):=by omega
    go_wp2_with fail
    go_ret
    rw [HR.out]
    exact ⟨rfl,rfl⟩
   ·have HR:Hid (cmpL a b=0):=by show _=_;rw [←HF.out,HE.out k (Nat.le_refl _) (by omega)]
    have hkb:(nb:Int)≤(k:Int):=by omega
    go_wp2_with fail
    go_ret
    rw [HR.out]
    exact ⟨rfl,rfl⟩
theorem order_any (A B:Option Addr) (ca cb:Nat) (a b:List Int) (N:Int) (w:World) (ha:a.length≤4) (hb:b.length≤4) (hA:PlAt w A ca a) (hB:PlAt w B cb b):Calls Tryz.prog 41 #[.agg #[.slice A a.length ca,.int .i64 N],.slice B b.length cb] w fun e w'=>e=.returned (.int .i64 (cmpL a b))∧Below w.heap.size w w':=by
 have h0:∀ w',Below w.heap.size w w'→Calls Tryz.prog 61 #[.slice A a.length ca,.slice B b.length cb] w' fun e w''=>e=.returned (.int .i64 (cmpL a b))∧w''=w':=fun w' hw'=>scompare_any A B ca cb a b w' ha hb (hA.later hw') (hB.later hw')
 have H:Hid (∀ w',Below w.heap.size w w'→Calls Tryz.prog 61 #[.slice A a.length ca,.slice B b.length cb] w' fun e w''=>e=.returned (.int .i64 (cmpL a b))∧w''=w'):=h0
 generalize cmpL a b=c at H
 generalize a.length=na at H
 generalize b.length=nb at H
 clear hA hB h0 ha hb
 go_enter Tryz.func41,Tryz.ntmps41
 go_wp2_with fail
 refine (H.out _ (by go_grown)).mono ?_
 rintro e w1 ⟨rfl,rfl⟩
 go_wp2_with fail
 go_ret
 exact ⟨rfl,by go_grown⟩
end Go.Proofs.YtbhanigcjdegjaaGreatDoor
namespace Go.Proofs.YtbhanigcjdegjaaGreatDoor
open Go Go.ChangeShapes Go.WideShapes Go.ChangeAt Go.RowKit Go.Shelf Go.Lib Go.Sort
set_option maxRecDepth 100000
def isAmt (n:Int):Bool:=decide (0≤n∧n≤1000000)
set_option maxHeartbeats 1000000 in
theorem isamount_any (n:Int) (w:World):Calls Tryz.prog 10 #[.int .i64 n] w fun e w'=>e=.returned (.bool (isAmt n))∧w'=w:=by
 unfold isAmt
 go_enter Tryz.func10,Tryz.ntmps10
 by_cases h1:0≤n
 ·by_cases h2:n≤1000000
  ·rw [decide_eq_true ⟨h1,h2⟩]
   go_wp2_with fail
   go_ret
   exact ⟨rfl,rfl⟩
  ·rw [decide_eq_false fun h=>h2 h.2]
   go_wp2_with fail
   go_ret
   exact ⟨rfl,rfl⟩
 ·rw [decide_eq_false fun h=>h1 h.1]
  go_wp2_with fail
  go_ret
  exact ⟨rfl,rfl⟩
set_option maxHeartbeats 1000000 in
theorem like1_any (n:Int) (w:World):Calls Tryz.prog 12 #[.int .i64 n] w fun e w'=>e=.returned (.bool (!isAmt n))∧w'=w:=by
 have hc:=isamount_any n w
 go_enter Tryz.func12,Tryz.ntmps12
 generalize isAmt n=b at hc ⊢
 go_wp2_with (go_at_call 10;refine hc.mono ?_;rintro e w1 ⟨rfl,rfl⟩)
 go_ret
 exact ⟨rfl,rfl⟩
structure RestA (w:World) (q1 q2 q3:Nat) (n:Int) (A:Option Addr) (c:Nat) (W:List Int):Prop where
 c1:w.cell? ⟨q1,0,none⟩=some (.int .i64 n)
 c2:w.cell? ⟨q2,0,none⟩=some (.slice A W.length c)
 c3:w.cell? ⟨q3,0,none⟩=some (.int .i64 W.sum)
 pl:PlAt w A c W
set_option maxHeartbeats 4000000 in
theorem rest_any (q1 q2 q3:Nat) (n:Int) (A:Option Addr) (c:Nat) (W:List Int) (i:Nat) (w:World) (H:RestA w q1 q2 q3 n A c W) (hi:i<W.length) (hs:0<W.sum) (hn:0≤n∧n≤1000000) (hW:∀ x∈W,0≤x∧x≤1000000) :
  Calls Tryz.prog 27 #[.int .i64 i,.pointer (some ⟨q1,0,none⟩),.pointer (some ⟨q2,0,none⟩),.pointer (some ⟨q3,0,none⟩)] w fun e w'=>e=.returned (.int .i64 (lkR n W i))∧∃ q,w'=w.drewN q:=by
 have mixed:Tryz.prog.follows .mixedOrders=true:=by kernel_rfl
 obtain ⟨c1,c2,c3,hl,h0 | ⟨b,o,rfl,hb,hX⟩⟩:=H
 ·rw [h0] at hi;exact absurd hi (Nat.not_lt_zero _)
 have hx:=hX i hi
 have hm:W.getD i 0∈W:=by rw [List.getD_eq_getElem?_getD,List.getElem?_eq_getElem hi];exact List.getElem_mem hi
 have hw:=hW _ hm
 unfold lkR
 obtain ⟨x,hxe⟩:∃ x,x=W.getD i 0:=⟨_,rfl⟩
 obtain ⟨s,hse⟩:∃ s,s=W.sum:=⟨_,rfl⟩
 obtain ⟨k,hke⟩:∃ k,k=W.length:=⟨_,rfl⟩
 rw [←hxe] at hx hw ⊢
 rw [←hse] at c3 hs ⊢
 rw [←hke] at c2 hi
 have hs0 : ¬ s=0:=by omega
 have hiI:(i:Int)<(k:Int):=by omega
 obtain ⟨y,hye⟩:∃ y,y=n*x:=⟨_,rfl⟩
 have hy0:0≤y:=by rw [hye];exact Int.mul_nonneg hn.1 hw.1
 have hy1:y≤1000000*1000000:=by rw [hye];exact Int.mul_le_mul hn.2 hw.2 hw.1 (by omega)
 have hyw:IntKind.i64.wrap (n*x)=y:=by rw [←hye,IntKind.wrap_i64];omega
 have hr:y.tmod s=y % s:=Int.tmod_eq_emod_of_nonneg hy0
 have hr1:=Int.emod_nonneg y hs0
 have hr2:=Int.emod_lt_of_pos y hs
 rw [←hye]
 clear hX hl hm hW hxe hse hke hye
 go_enter Tryz.func27,Tryz.ntmps27
 go_wp2_with fail
 go_quiet (fail)
 go_wp2_with fail
 go_ret
 exact ⟨rfl,nq,rfl⟩
theorem RestA.drew {w:World} {q1 q2 q3:Nat} {n:Int} {A:Option Addr} {c:Nat} {W:List Int} (h:RestA w q1 q2 q3 n A c W) (k:Nat):RestA (w.drewN k) q1 q2 q3 n A c W:=⟨h.c1,h.c2,h.c3,h.pl⟩
set_option maxHeartbeats 4000000 in
theorem less_any (q1 q2 q3 q4:Nat) (n:Int) (A:Option Addr) (c:Nat) (W:List Int) (i k:Nat) (w:World) (H:RestA w q1 q2 q3 n A c W) (h4:w.cell? ⟨q4,0,none⟩=some (.func (.func 27) #[] #[.pointer (some ⟨q1,0,none⟩),.pointer (some ⟨q2,0,none⟩),.pointer (some ⟨q3,0,none⟩)]))
  (hi:i<W.length) (hk:k<W.length) (hs:0<W.sum) (hn:0≤n∧n≤1000000) (hW:∀ x∈W,0≤x∧x≤1000000) :
  Calls Tryz.prog 29 #[.int .i64 i,.int .i64 k,.pointer (some ⟨q4,0,none⟩)] w fun e w'=>e=.returned (.int .i64 (cmpI (lkR n W k) (lkR n W i)))∧∃ q,w'=w.drewN q:=by
 have mixed:Tryz.prog.follows .mixedOrders=true:=by kernel_rfl
 have hc1:∀ m,Calls Tryz.prog 27 #[.int .i64 i,.pointer (some ⟨q1,0,none⟩),.pointer (some ⟨q2,0,none⟩),.pointer (some ⟨q3,0,none⟩)] (w.drewN m) fun e w'=>e=.returned (.int .i64 (lkR n W i))∧∃ q,w'=(w.drewN m).drewN q:=fun m=>rest_any q1 q2 q3 n A c W i _ (H.drew m) hi hs hn hW
 have hc2:∀ m,Calls Tryz.prog 27 #[.int .i64 k,.pointer (some ⟨q1,0,none⟩),.pointer (some ⟨q2,0,none⟩),.pointer (some ⟨q3,0,none⟩)] (w.drewN m) fun e w'=>e=.returned (.int .i64 (lkR n W k))∧∃ q,w'=(w.drewN m).drewN q:=fun m=>rest_any q1 q2 q3 n A c W k _ (H.drew m) hk hs hn hW
 have hc3:=fun (w:World)=>compare_any (lkR n W k) (lkR n W i) w
 generalize lkR n W i=r1 at hc1 hc3 ⊢
 generalize lkR n W k=r2 at hc2 hc3 ⊢
 generalize cmpI r2 r1=r3 at hc3 ⊢
 clear H hs hn hW hi hk
 have e1:∀ (args:Array Value) (w:World),(callFunc 27 args).run Tryz.prog w=.ok (.enter 27 args) w:=fun args w=>by simp [callFunc,Tryz.func27];rfl
 go_enter Tryz.func29,Tryz.ntmps29
 go_wp2_with fail
 go_quiet (first | (go_at_call 30;exact Calls.quiet_of_same (hc3 _)) | (go_at_call_of 27 (Value.int .i64 k);exact Calls.quiet_of (hc2 _)) | (go_at_call_of 27 (Value.int .i64 i);exact Calls.quiet_of (hc1 _)))
 go_wp2_with fail
 go_ret
 exact ⟨rfl,nq,rfl⟩
end Go.Proofs.YtbhanigcjdegjaaGreatDoor
