/-
  slices.stableCmpFunc and slices.SortStableFunc at ints: what stands for 0, 1, 2 .. in order comes to the order that is asked, equal ones as they stood.
-/
import Derived.Test.YtenlladggdcfnaaGreatDoorShelfQ
import Derived.Shelf.Spec.SlicesInsertGrow
import Derived.Laws.OwnMore
import Derived.Test.YtenlladggdcfnaaGreatDoorJAAU
import Derived.Test.YtenlladggdcfnaaGreatDoorJAAW
namespace Go.Proofs.YtenlladggdcfnaaGreatDoor
open Go Go.ChangeShapes Go.WideShapes Go.ChangeAt Go.RowKit Go.Shelf Go.Lib Go.Sort
set_option linter.unusedSectionVars false
set_option maxRecDepth 100000
variable {α:Type} [Inhabited α]
theorem ins_any {cf:α→α→Int} {tot:α→α→Bool} {ix:α→Nat} {g:Nat} {cb:Array Value} {blk off:Nat} {d0:Array α} {w0:World} (M:MgC cf tot ix g cb blk off d0 w0)
  (cap a b:Nat) (d:Array α) (w:World) (hs:d0.size=d.size) (S:Aside (SW (encI ix) w0 blk off d w)) (hab:a≤b) (hb:b≤d.size) :
  Calls Tryz.prog 84 #[.slice (some ⟨blk,off,none⟩) d.size cap,.int .i64 a,.int .i64 b,.func (.func g) #[] cb] w fun e w'=>e=.returned (.tuple #[])∧SW (encI ix) w0 blk off (Go.Sort.insertionSort (ltOf cf) d a b) w' :=
 Any.insertionSortCmpFunc_s Tryz.insL (encI ix) cf g cb blk off cap a b d0 d w0 w M.eg M.hc M.R hs S.out hab hb (by have:=M.sz;omega)
theorem perm_up {n a b:Nat} {d dk dk':Array α} (h:PermIn 0 n d dk) (hn:dk.size=n) (hb:b≤n) (P:PermIn a b dk dk'):PermIn 0 n d dk' :=
 permIn_trans d dk dk' 0 n h (permIn_mono dk dk' a b 0 n (Nat.zero_le _) hb (by omega) P)
set_option maxHeartbeats 16000000 in
theorem stable_any {cf:α→α→Int} {tot:α→α→Bool} {ix:α→Nat} {g:Nat} {cb:Array Value} {blk off:Nat} {d0:Array α} {w0:World} (M:MgC cf tot ix g cb blk off d0 w0)
  (cap n:Nat) (d:Array α) (w:World) (hn:d.size=n) (hs:d0.size=d.size) (S:SW (encI ix) w0 blk off d w) (h0:∀ i,i<n→ix d[i]! = i) :
  Calls Tryz.prog 58 #[.slice (some ⟨blk,off,none⟩) n cap,.int .i64 n,.func (.func g) #[] cb] w fun e w'=>e=.returned (.tuple #[])∧∃ d',SortedIn tot 0 n d'∧PermIn 0 n d d'∧SW (encI ix) w0 blk off d' w':=by
 have mixed:Tryz.prog.follows .mixedOrders=true:=by kernel_rfl
 have hsz:n≤1000:=by have:=M.sz;omega
 have HM:Aside (MgC cf tot ix g cb blk off d0 w0):=M
 have S0:Aside (SW (encI ix) w0 blk off d w):=S
 have HD:Hid (d0.size=n∧d.size=n):=⟨by omega,hn⟩
 have H0:Hid (InsB tot ix n 20 0 d):=⟨fun e he=>absurd he (Nat.not_lt_zero _),fun i _ hi=>h0 i hi⟩
 clear S M hn hs h0
 go_enter Tryz.func58,Tryz.ntmps58
 go_wp2_with fail
 go_loopg [7,8] n (fun gg s7 s8 wr => ∃ (c A B:Nat) (dk:Array α),s7=.int .i64 A∧s8=.int .i64 B∧A+20≤B∧B≤A+20∧A≤n∧gg=n-A∧Hid (A=c*20)∧Hid (InsB tot ix n 20 c dk)∧Hid (PermIn 0 n d dk)∧Hid (dk.size=n)∧Aside (SW (encI ix) w0 blk off dk wr))
 case atStart=>exact ⟨0,0,20,d,rfl,rfl,by omega,by omega,Nat.zero_le _,rfl,rfl,H0,permIn_refl d 0 n,HD.out.2,S0⟩
 case round =>
  clear S0 H0
  obtain ⟨c,A,B,dk,rfl,rfl,hB1,hB2,hAn,rfl,HA,HI,HP,HS,S1⟩:=hrel
  by_cases hlt:B≤n
  ·have hltz:(B:Int)≤(n:Int):=by omega
   have hBI:IntKind.i64.wrap ((B:Int)+20)=((B+20:Nat):Int):=by rw [IntKind.wrap_i64];omega
   have hc:=ins_any HM.out cap A B dk wr (by have:=HD.out;have:=HS.out;omega) S1 (by omega) (by have:=HS.out;omega)
   rw [HS.out] at hc
   have hst:InsB tot ix n 20 (c+1) (Go.Sort.insertionSort (ltOf cf) dk A B)∧PermIn A B dk (Go.Sort.insertionSort (ltOf cf) dk A B):=by
    have:=insB_step HM.out.T HS.out HI.out (by have:=HA.out;omega)
    rwa [show c*20+20=B by have:=HA.out;omega,←HA.out] at this
   have HI2:Hid (InsB tot ix n 20 (c+1) (Go.Sort.insertionSort (ltOf cf) dk A B)):=hst.1
   have HP2:Hid (PermIn 0 n d (Go.Sort.insertionSort (ltOf cf) dk A B)):=perm_up HP.out HS.out hlt hst.2
   have HS2:Hid ((Go.Sort.insertionSort (ltOf cf) dk A B).size=n):=hst.2.1.trans HS.out
   have HA2:Hid (B=(c+1)*20):=by show _=_;rw [Nat.succ_mul,←HA.out];omega
   clear hst S1 HI HP HS
   generalize Go.Sort.insertionSort (ltOf cf) dk A B=dk2 at hc HI2 HP2 HS2
   go_wp2_with fail
   refine hc.mono ?_
   rintro e w' ⟨rfl,hS⟩
   have HX:Aside (SW (encI ix) w0 blk off dk2 w'):=hS
   clear hS hc
   go_wp2_with fail
   go_roundg (n-B)
   case measure=>omega
   case rel=>exact ⟨c+1,B,B+20,dk2,rfl,rfl,Nat.le_refl _,Nat.le_refl _,hlt,rfl,HA2,HI2,HP2,HS2,HX⟩
  ·have hltz : ¬ (B:Int)≤(n:Int):=by omega
   have hc:=ins_any HM.out cap A n dk wr (by have:=HD.out;have:=HS.out;omega) S1 hAn (by have:=HS.out;omega)
   rw [HS.out] at hc
   have hst:AllB tot ix n 20 (Go.Sort.insertionSort (ltOf cf) dk A n)∧PermIn A n dk (Go.Sort.insertionSort (ltOf cf) dk A n):=by
    have:=insB_end HM.out.T (by omega) HS.out HI.out (by have:=HA.out;omega) (by have:=HA.out;omega)
    rwa [←HA.out] at this
   have HI2:Hid (AllB tot ix n 20 (Go.Sort.insertionSort (ltOf cf) dk A n)):=hst.1
   have HP2:Hid (PermIn 0 n d (Go.Sort.insertionSort (ltOf cf) dk A n)):=perm_up HP.out HS.out (Nat.le_refl _) hst.2
   have HS2:Hid ((Go.Sort.insertionSort (ltOf cf) dk A n).size=n):=hst.2.1.trans HS.out
   clear hst S1 HI HP HS
   generalize Go.Sort.insertionSort (ltOf cf) dk A n=dk2 at hc HI2 HP2 HS2
   go_wp2_with fail
   refine hc.mono ?_
   rintro e w' ⟨rfl,hS⟩
   have HX:Aside (SW (encI ix) w0 blk off dk2 w'):=hS
   clear hS hc
   go_wp2_with fail
   go_loopg [6,7,8,9] (n-20) (fun gg s6 s7 s8 s9 wr => ∃ (s:Nat) (dk:Array α),s6=.int .i64 s∧(∃ v7,v7=s7)∧(∃ v8,v8=s8)∧(∃ v9,v9=s9)∧0<s∧s≤2000∧gg=n-s∧Hid (AllB tot ix n s dk)∧Hid (PermIn 0 n d dk)∧Hid (dk.size=n)∧Aside (SW (encI ix) w0 blk off dk wr))
   case atStart=>exact ⟨20,dk2,rfl,⟨_,rfl⟩,⟨_,rfl⟩,⟨_,rfl⟩,by omega,by omega,rfl,HI2,HP2,HS2,HX⟩
   case round =>
    clear HX HI2 HP2 HS2
    obtain ⟨s,dk3,rfl,⟨v7,rfl⟩,⟨v8,rfl⟩,⟨v9,rfl⟩,hs0,hs2,rfl,HI,HP,HS,S1⟩:=hrel
    by_cases hlt2:s<n
    ·have hltz2:(s:Int)<(n:Int):=by omega
     obtain ⟨T,hT1,hT2,hTI⟩:∃ T:Nat,T≤2*s∧2*s≤T∧IntKind.i64.wrap (2*(s:Int))=(T:Int):=⟨2*s,Nat.le_refl _,Nat.le_refl _,by rw [IntKind.wrap_i64];omega⟩
     have hTI2:IntKind.i64.wrap ((s:Int)*2)=(T:Int):=by rw [IntKind.wrap_i64];omega
     have HH:Hid (Half tot ix n s 0 dk3):=half_start HI.out
     clear HI
     go_wp2_with fail
     go_loopg [7,8] n (fun gg s7 s8 wr => ∃ (c A B:Nat) (dk:Array α),s7=.int .i64 A∧s8=.int .i64 B∧A+T≤B∧B≤A+T∧A≤n∧gg=n-A∧Hid (A=c*(2*s))∧Hid (Half tot ix n s c dk)∧Hid (PermIn 0 n d dk)∧Hid (dk.size=n)∧Aside (SW (encI ix) w0 blk off dk wr))
     case atStart=>exact ⟨0,0,T,dk3,rfl,rfl,by omega,by omega,Nat.zero_le _,rfl,by show _=_;rw [Nat.zero_mul],HH,HP,HS,S1⟩
     case round =>
      clear S1 HH HP HS
      obtain ⟨c,A,B,dk,rfl,rfl,hB1,hB2,hAn,rfl,HA,HI,HP,HS,S1⟩:=hrel
      by_cases hlt3:B≤n
      ·have hltz3:(B:Int)≤(n:Int):=by omega
       have hBI:IntKind.i64.wrap ((B:Int)+(T:Int))=((B+T:Nat):Int):=by rw [IntKind.wrap_i64];omega
       obtain ⟨m,hm1,hm2,hmI⟩:∃ m:Nat,m≤A+s∧A+s≤m∧IntKind.i64.wrap ((A:Int)+(s:Int))=(m:Int):=⟨A+s,Nat.le_refl _,Nat.le_refl _,by rw [IntKind.wrap_i64];omega⟩
       have htw:TwoP tot ix A m B dk:=by
        have:=(half_two hs0 HI.out (by have:=HA.out;omega)).1
        rw [←HA.out,Nat.min_eq_left (by omega),show A+s=m by omega,show A+2*s=B by omega] at this
        exact this
       have hc:=merge_any HM.out cap 1000 A m B dk wr (by omega) (by have:=HD.out;have:=HS.out;omega) S1 htw (by omega) (by omega) (by have:=HS.out;omega)
       rw [HS.out] at hc
       have HST:Hid (∀ dk',SortedIn tot A B dk'→PermIn A B dk dk'→Half tot ix n s (c+1) dk'∧PermIn 0 n d dk'∧dk'.size=n):=fun dk' k1 k2=>by
        refine ⟨?_,perm_up HP.out HS.out hlt3 k2,k2.1.trans HS.out⟩
        rw [show B=A+2*s by omega,HA.out] at k1 k2
        exact half_step hs0 HS.out HI.out (by have:=HA.out;omega) k1 k2
       have HA2:Hid (B=(c+1)*(2*s)):=by show _=_;rw [Nat.succ_mul,←HA.out];omega
       clear htw S1 HI HP HS
       go_wp2_with fail
       refine hc.mono ?_
       rintro e w' ⟨rfl,dk4,k1,k2,hS⟩
       have HX:Aside (SW (encI ix) w0 blk off dk4 w'):=hS
       have HY:=HST.out dk4 k1 k2
       have HY1:Hid (Half tot ix n s (c+1) dk4):=HY.1
       have HY2:Hid (PermIn 0 n d dk4):=HY.2.1
       have HY3:Hid (dk4.size=n):=HY.2.2
       clear hS hc HY k1 k2 HST
       go_wp2_with fail
       go_roundg (n-B)
       case measure=>omega
       case rel=>exact ⟨c+1,B,B+T,dk4,rfl,by first | rfl | go_num,by omega,by omega,hlt3,rfl,HA2,HY1,HY2,HY3,HX⟩
      ·have hltz3 : ¬ (B:Int)≤(n:Int):=by omega
       obtain ⟨m,hm1,hm2,hmI⟩:∃ m:Nat,m≤A+s∧A+s≤m∧IntKind.i64.wrap ((A:Int)+(s:Int))=(m:Int):=⟨A+s,Nat.le_refl _,Nat.le_refl _,by rw [IntKind.wrap_i64];omega⟩
       go_upto_if 54 with fail
       go_cut [54] from 55 to 60 (fun s54 wx => ∃ (β:Bool) (dk':Array α),s54=.bool β∧Hid (AllB tot ix n (2*s) dk')∧Hid (PermIn 0 n d dk')∧Hid (dk'.size=n)∧Aside (SW (encI ix) w0 blk off dk' wx))
       case first =>
        by_cases hmn:m<n
        ·have hmnI:(m:Int)<(n:Int):=by omega
         have htw:TwoP tot ix A m n dk:=by
          have:=(half_two hs0 HI.out (by have:=HA.out;omega)).1
          rw [←HA.out,Nat.min_eq_right (by omega),show A+s=m by omega] at this
          exact this
         have hc:=merge_any HM.out cap 1000 A m n dk wr (by omega) (by have:=HD.out;have:=HS.out;omega) S1 htw (by omega) hmn (by have:=HS.out;omega)
         rw [HS.out] at hc
         have HST:Hid (∀ dk',SortedIn tot A n dk'→PermIn A n dk dk'→AllB tot ix n (2*s) dk'∧PermIn 0 n d dk'∧dk'.size=n):=fun dk' k1 k2=>by
          refine ⟨?_,perm_up HP.out HS.out (Nat.le_refl _) k2,k2.1.trans HS.out⟩
          rw [HA.out] at k1 k2
          exact half_end hs0 HS.out HI.out (by have:=HA.out;omega) (by have:=HA.out;omega) k1 k2
         clear htw S1 HI HP HS
         go_wp2_with fail
         refine hc.mono ?_
         rintro e w' ⟨rfl,dk4,k1,k2,hS⟩
         have HX:Aside (SW (encI ix) w0 blk off dk4 w'):=hS
         have HY:=HST.out dk4 k1 k2
         have HY1:Hid (AllB tot ix n (2*s) dk4):=HY.1
         have HY2:Hid (PermIn 0 n d dk4):=HY.2.1
         have HY3:Hid (dk4.size=n):=HY.2.2
         clear hS hc HY k1 k2 HST
         go_wp2_with fail
         go_meet
         exact ⟨_,dk4,rfl,HY1,HY2,HY3,HX⟩
        ·have hmnI : ¬ (m:Int)<(n:Int):=by omega
         have HY1:Hid (AllB tot ix n (2*s) dk):=half_end0 hs0 HI.out (by have:=HA.out;omega) (by have:=HA.out;omega)
         go_wp2_with fail
         go_meet
         exact ⟨_,dk,rfl,HY1,HP,HS,S1⟩
       case rest =>
       obtain ⟨β,dk5,rfl,HZ1,HZ2,HZ3,HZ4⟩:=hcut
       clear HI HP HS S1
       go_wp2_with fail
       go_roundg (n-T)
       case measure=>omega
       case rel=>exact ⟨T,dk5,rfl,⟨_,rfl⟩,⟨_,rfl⟩,⟨_,rfl⟩,by omega,by omega,rfl,by rw [show T=2*s by omega];exact HZ1,HZ2,HZ3,HZ4⟩
    ·have hltz2 : ¬ (s:Int)<(n:Int):=by omega
     go_wp2_with fail
     go_end0
     exact ⟨rfl,dk3,allB_sorted HI.out (by omega),HP.out,S1.out⟩
end Go.Proofs.YtenlladggdcfnaaGreatDoor
namespace Go.Proofs.YtenlladggdcfnaaGreatDoor
open Go Go.ChangeShapes Go.WideShapes Go.ChangeAt Go.RowKit Go.Shelf Go.Lib Go.Sort
set_option maxRecDepth 100000
def isAmt (n:Int):Bool:=decide (0≤n∧n≤1000000)
set_option maxHeartbeats 1000000 in
theorem isamount_any (n:Int) (w:World):Calls Tryz.prog 13 #[.int .i64 n] w fun e w'=>e=.returned (.bool (isAmt n))∧w'=w:=by
 unfold isAmt
 go_enter Tryz.func13,Tryz.ntmps13
 by_cases h1:0≤n
 ·by_cases h2:n≤1000000
  ·rw [decide_eq_true ⟨h1,h2⟩]
   go_wp2_with fail
   go_ret
   exact ⟨rfl,rfl⟩
  ·rw [decide_eq_false fun h=>h2 h.2]
   go_wp2_with fail
   go_ret
   exact ⟨rfl,rfl⟩
 ·rw [decide_eq_false fun h=>h1 h.1]
  go_wp2_with fail
  go_ret
  exact ⟨rfl,rfl⟩
set_option maxHeartbeats 1000000 in
theorem like1_any (n:Int) (w:World):Calls Tryz.prog 16 #[.int .i64 n] w fun e w'=>e=.returned (.bool (!isAmt n))∧w'=w:=by
 have hc:=isamount_any n w
 go_enter Tryz.func16,Tryz.ntmps16
 generalize isAmt n=b at hc ⊢
 go_wp2_with (go_at_call 13;refine hc.mono ?_;rintro e w1 ⟨rfl,rfl⟩)
 go_ret
 exact ⟨rfl,rfl⟩
structure RestA (w:World) (q1 q2 q3:Nat) (n:Int) (A:Option Addr) (c:Nat) (W:List Int):Prop where
 c1:w.cell? ⟨q1,0,none⟩=some (.int .i64 n)
 c2:w.cell? ⟨q2,0,none⟩=some (.slice A W.length c)
 c3:w.cell? ⟨q3,0,none⟩=some (.int .i64 W.sum)
 pl:PlAt w A c W
set_option maxHeartbeats 4000000 in
theorem rest_any (q1 q2 q3:Nat) (n:Int) (A:Option Addr) (c:Nat) (W:List Int) (i:Nat) (w:World) (H:RestA w q1 q2 q3 n A c W) (hi:i<W.length) (hs:0<W.sum) (hn:0≤n∧n≤1000000) (hW:∀ x∈W,0≤x∧x≤1000000) :
  Calls Tryz.prog 32 #[.int .i64 i,.pointer (some ⟨q1,0,none⟩),.pointer (some ⟨q2,0,none⟩),.pointer (some ⟨q3,0,none⟩)] w fun e w'=>e=.returned (.int .i64 (lkR n W i))∧∃ q,w'=w.drewN q:=by
 have mixed:Tryz.prog.follows .mixedOrders=true:=by kernel_rfl
 obtain ⟨c1,c2,c3,hl,h0 | ⟨b,o,rfl,hb,hX⟩⟩:=H
 ·rw [h0] at hi;exact absurd hi (Nat.not_lt_zero _)
 have hx:=hX i hi
 have hm:W.getD i 0∈W:=by rw [List.getD_eq_getElem?_getD,List.getElem?_eq_getElem hi];exact List.getElem_mem hi
 have hw:=hW _ hm
 unfold lkR
 obtain ⟨x,hxe⟩:∃ x,x=W.getD i 0:=⟨_,rfl⟩
 obtain ⟨s,hse⟩:∃ s,s=W.sum:=⟨_,rfl⟩
 obtain ⟨k,hke⟩:∃ k,k=W.length:=⟨_,rfl⟩
 rw [←hxe] at hx hw ⊢
 rw [←hse] at c3 hs ⊢
 rw [←hke] at c2 hi
 have hs0 : ¬ s=0:=by omega
 have hiI:(i:Int)<(k:Int):=by omega
 obtain ⟨y,hye⟩:∃ y,y=n*x:=⟨_,rfl⟩
 have hy0:0≤y:=by rw [hye];exact Int.mul_nonneg hn.1 hw.1
 have hy1:y≤1000000*1000000:=by rw [hye];exact Int.mul_le_mul hn.2 hw.2 hw.1 (by omega)
 have hyw:IntKind.i64.wrap (n*x)=y:=by rw [←hye,IntKind.wrap_i64];omega
 have hr:y.tmod s=y % s:=Int.tmod_eq_emod_of_nonneg hy0
 have hr1:=Int.emod_nonneg y hs0
 have hr2:=Int.emod_lt_of_pos y hs
 rw [←hye]
 clear hX hl hm hW hxe hse hke hye
 go_enter Tryz.func32,Tryz.ntmps32
 go_wp2_with fail
 go_quiet (fail)
 go_wp2_with fail
 go_ret
 exact ⟨rfl,nq,rfl⟩
theorem RestA.drew {w:World} {q1 q2 q3:Nat} {n:Int} {A:Option Addr} {c:Nat} {W:List Int} (h:RestA w q1 q2 q3 n A c W) (k:Nat):RestA (w.drewN k) q1 q2 q3 n A c W:=⟨h.c1,h.c2,h.c3,h.pl⟩
set_option maxHeartbeats 4000000 in
theorem less_any (q1 q2 q3 q4:Nat) (n:Int) (A:Option Addr) (c:Nat) (W:List Int) (i k:Nat) (w:World) (H:RestA w q1 q2 q3 n A c W) (h4:w.cell? ⟨q4,0,none⟩=some (.func (.func 32) #[] #[.pointer (some ⟨q1,0,none⟩),.pointer (some ⟨q2,0,none⟩),.pointer (some ⟨q3,0,none⟩)]))
  (hi:i<W.length) (hk:k<W.length) (hs:0<W.sum) (hn:0≤n∧n≤1000000) (hW:∀ x∈W,0≤x∧x≤1000000) :
  Calls Tryz.prog 34 #[.int .i64 i,.int .i64 k,.pointer (some ⟨q4,0,none⟩)] w fun e w'=>e=.returned (.int .i64 (cmpI (lkR n W k) (lkR n W i)))∧∃ q,w'=w.drewN q:=by
 have mixed:Tryz.prog.follows .mixedOrders=true:=by kernel_rfl
 have hc1:∀ m,Calls Tryz.prog 32 #[.int .i64 i,.pointer (some ⟨q1,0,none⟩),.pointer (some ⟨q2,0,none⟩),.pointer (some ⟨q3,0,none⟩)] (w.drewN m) fun e w'=>e=.returned (.int .i64 (lkR n W i))∧∃ q,w'=(w.drewN m).drewN q:=fun m=>rest_any q1 q2 q3 n A c W i _ (H.drew m) hi hs hn hW
 have hc2:∀ m,Calls Tryz.prog 32 #[.int .i64 k,.pointer (some ⟨q1,0,none⟩),.pointer (some ⟨q2,0,none⟩),.pointer (some ⟨q3,0,none⟩)] (w.drewN m) fun e w'=>e=.returned (.int .i64 (lkR n W k))∧∃ q,w'=(w.drewN m).drewN q:=fun m=>rest_any q1 q2 q3 n A c W k _ (H.drew m) hk hs hn hW
 have hc3:=fun (w:World)=>compare_any (lkR n W k) (lkR n W i) w
 generalize lkR n W i=r1 at hc1 hc3 ⊢
 generalize lkR n W k=r2 at hc2 hc3 ⊢
 generalize cmpI r2 r1=r3 at hc3 ⊢
 clear H hs hn hW hi hk
 have e1:∀ (args:Array Value) (w:World),(callFunc 32 args).run Tryz.prog w=.ok (.enter 32 args) w:=fun args w=>by simp [callFunc,Tryz.func32];rfl
 go_enter Tryz.func34,Tryz.ntmps34
 go_wp2_with fail
 go_quiet (first | (go_at_call 35;exact Calls.quiet_of_same (hc3 _)) | (go_at_call_of 32 (Value.int .i64 k);exact Calls.quiet_of (hc2 _)) | (go_at_call_of 32 (Value.int .i64 i);exact Calls.quiet_of (hc1 _)))
 go_wp2_with fail
 go_ret
 exact ⟨rfl,nq,rfl⟩
end Go.Proofs.YtenlladggdcfnaaGreatDoor
namespace Go.Proofs.YtenlladggdcfnaaGreatDoor
open Go.ChangeShapes Go.WideShapes Go.ChangeAt Go.RowKit
set_option maxRecDepth 20000
def BoxN (w:World) (q:Nat) (v:Value):Prop:=q<w.heap.size∧w.cell? ⟨q,0,none⟩=some v
theorem BoxN.same {w w':World} {q:Nat} {v:Value} (h:BoxN w q v) (hz:w.heap.size≤w'.heap.size) (hb:w'.heap[q]?=w.heap[q]?):BoxN w' q v :=
 ⟨Nat.lt_of_lt_of_le h.1 hz,(World.cell?_of_block (a:=⟨q,0,none⟩) hb).trans h.2⟩
theorem BoxN.later {w w':World} {q:Nat} {v:Value} (h:BoxN w q v) (hB:Below w.heap.size w w'):BoxN w' q v:=h.same hB.size (hB.block q h.1)
theorem cel_grown {w w':World} {g i j:Nat} {a b:Value} (h:w.grownBy w' (some g)):w.grownBy ((w'.setCell ⟨g,i,none⟩ a).setCell ⟨g,j,none⟩ b) (some g) :=
 ⟨h.os,h.tape,h.output,by simpa [World.setCell] using h.size,fun k hk hr=>(Below.heap_setCell _ ⟨g,j,none⟩ b k fun e=>hr (by rw [e])).trans ((Below.heap_setCell w' ⟨g,i,none⟩ a k fun e=>hr (by rw [e])).trans (h.block k hk hr))⟩
theorem boxn_other {w w':World} {q g:Nat} {v:Value} (h:BoxN w q v) (hne:q≠g) (hG:w.grownBy w' (some g)):BoxN w' q v:=h.same hG.size (hG.block q h.1 fun e=>hne (by simpa using e))
end Go.Proofs.YtenlladggdcfnaaGreatDoor
namespace Go.Proofs.YtenlladggdcfnaaGreatDoor
open Go Go.ChangeShapes Go.WideShapes Go.ChangeAt Go.RowKit
set_option maxRecDepth 20000
theorem set_old {l:List En} {p:List Int} (h:hasE l p=true) (n:Int):setL l p n=l.set (cntE l p) ⟨(l.getD (cntE l p) noEn).pl,n⟩∧cntE l p<l.length∧(l.getD (cntE l p) noEn).pl=p:=by
 have hi:cntE l p<l.length:=by
  rcases Nat.lt_or_ge (cntE l p) l.length with h1 | h1
  ·exact h1
  ·rw [(has_out rfl h1).1] at h;cases h
 have h2:=has_cmp rfl hi
 rw [h] at h2
 have h3:(l.getD (cntE l p) noEn).pl=p:=by
  rcases cmpL_three (l.getD (cntE l p) noEn).pl p with ⟨e1,_⟩ | ⟨_,_,e3⟩ | ⟨e1,_⟩
  ·rw [e1] at h2;cases h2
  ·exact e3
  ·rw [e1] at h2;cases h2
 refine ⟨?_,hi,h3⟩
 unfold setL
 rw [h,h3,if_pos rfl,List.set_eq_take_append_cons_drop,if_pos hi]
end Go.Proofs.YtenlladggdcfnaaGreatDoor
namespace Go.Proofs.YtenlladggdcfnaaGreatDoor
open Go.ChangeShapes Go.WideShapes Go.ChangeAt Go.RowKit
set_option maxRecDepth 20000
theorem short_of {D:Nat→Dm} {n:Nat} {xs:List EnL} {p:List Int} (hE:Ens D n (lE xs)) (hp:InO D n p):Short xs p:=by
 refine ⟨fun k hk=>?_,inO_short hp⟩
 have h1:(xs.getD k noL).e∈lE xs:=List.mem_map.2 ⟨_,enl_mem hk,rfl⟩
 exact inO_short (hE.each _ h1).1
theorem few_of {D:Nat→Dm} {n:Nat} {xs:List EnL} (hE:Ens D n (lE xs)):xs.length≤3000:=by have:=hE.few;rw [lE_len] at this;exact this
set_option maxHeartbeats 2000000 in
theorem rprod_any (g n:Nat) (D:Nat→Dm) (p:List Int) (Aq:Option Addr) (cq:Nat) (q:List Int) (w:World) (hq:InO D n q) (hS:SlB w g n n (wts D p)) (hQ:PlAt w Aq cq q):Calls Tryz.prog 80 #[.slice (some ⟨g,0,none⟩) n n,.slice Aq q.length cq] w fun e w'=>e=.returned (.int .i64 (prTo (wts D p) q n))∧Below w.heap.size w w':=by
 obtain ⟨hn1,hn4,-,hd⟩:=allErr_some hq.right
 have hl:=hq.len
 obtain ⟨hcp,h0 | ⟨bq,oq,rfl,hbq,hcell⟩⟩:=hQ
 ·rw [h0] at hl;simp at hl;omega
 rw [hl] at hcp hcell ⊢
 have HC:Hid (∀ j,j<n→w.cell? ⟨bq,oq+j,none⟩=some (.int .i64 (q.getD j 0))):=hcell
 have HS:Hid (SlB w g n n (wts D p)):=hS
 have HQ:Hid (InO D n q):=hq
 have hn':(n:Int)≤4:=by omega
 clear hcell hS hq hl
 go_enter Tryz.func80,Tryz.ntmps80
 go_wp2_with fail
 go_loopg [5,10] n (fun g' s5 s10 wr => ∃ (k:Nat),k≤n∧g'=n-k∧s10=.int .i64 k∧s5=.int .i64 (prTo (wts D p) q k)∧Below w.heap.size w wr)
 case atStart=>exact ⟨0,Nat.zero_le _,rfl,rfl,rfl,Below.refl _ _⟩
 case round =>
  obtain ⟨k,hk,rfl,rfl,rfl,hBw⟩:=hrel
  have HBw:Hid (Below w.heap.size w wr):=hBw
  by_cases hlt:k<n
  ·have hki:(k:Int)<(n:Int):=by omega
   obtain ⟨AL,cL,hcL,hcl,hIL⟩:=(HS.out.later hBw).get hlt
   have hlen:(wts D p k).length=(D k).n:=cnts_len ..
   have e1:=(hBw.cell (p:=⟨bq,oq+k,none⟩) hbq).trans (HC.out k hlt)
   obtain ⟨x,hx⟩:∃ x:Nat,q.getD k 0=x:=⟨(q.getD k 0).toNat,by have:=HQ.out.lo k hlt;omega⟩
   have hxn:x<(D k).n:=by have:=HQ.out.hi k hlt;omega
   obtain ⟨hdn1,hdn2⟩:=hd k hlt
   rcases hIL with h0 | ⟨bL,rfl,hbL,hLc⟩
   ·rw [h0] at hlen;simp at hlen;omega
   have e2:=hLc x (by omega)
   rw [hlen] at hcL hcl
   rw [hx] at e1
   have HPr:Hid (prTo (wts D p) q (k+1)=prTo (wts D p) q k*(wts D p k).getD x 0):=by show _=_;rw [prTo,hx,Int.toNat_natCast]
   have hs1:=prTo_small HQ.out.right p q (k+1) (by omega)
   rw [HPr.out] at hs1
   obtain ⟨hs1,hs2⟩:=hs1
   generalize (wts D p k).getD x 0=y at e2 HPr hs1 hs2
   generalize (D k).n=dk at hcL hcl hdn1 hdn2 hxn
   generalize prTo (wts D p) q k=z at HPr hs1 hs2
   have hxi:(x:Int)<(dk:Int):=by omega
   have hdi:(dk:Int)≤12:=by omega
   clear hBw hLc hlen hx
   go_wp2_with fail
   first | go_quiet (fail) | skip
   go_wp2_with fail
   go_roundg (n-(k+1))
   case measure=>omega
   case rel=>exact ⟨k+1,by omega,rfl,by go_num,by rw [HPr.out],by first | exact HBw.out | exact below_drewN HBw.out _⟩
  ·have hke:k=n:=by omega
   subst hke
   clear hBw
   go_wp2_with fail
   go_ret
   exact ⟨rfl,HBw.out⟩
end Go.Proofs.YtenlladggdcfnaaGreatDoor
namespace Go.Proofs.YtenlladggdcfnaaGreatDoor
open Go.ChangeShapes Go.WideShapes Go.ChangeAt Go.RowKit Go.Lib
set_option maxRecDepth 20000
theorem clr_in {l:List En} {p:List Int} (h:hasE l p=true):cntE l p<l.length:=(set_old h 0).2.1
end Go.Proofs.YtenlladggdcfnaaGreatDoor
