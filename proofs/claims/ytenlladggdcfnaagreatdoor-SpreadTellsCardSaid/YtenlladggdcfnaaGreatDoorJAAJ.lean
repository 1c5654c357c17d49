/-
  slices.stableCmpFunc and slices.SortStableFunc at ints: what stands for 0, 1, 2 .. in order comes to the order that is asked, equal ones as they stood.
-/
import Derived.Test.YtenlladggdcfnaaGreatDoorShelfQ
import Derived.Deep.QuietTactic
import Derived.Test.YtenlladggdcfnaaGreatDoorJAAI
namespace Go.Proofs.YtenlladggdcfnaaGreatDoor
open Go Go.ChangeShapes Go.WideShapes Go.ChangeAt Go.RowKit Go.Shelf Go.Lib Go.Sort
set_option linter.unusedSectionVars false
set_option maxRecDepth 100000
variable {α:Type} [Inhabited α]
theorem ins_any {cf:α→α→Int} {tot:α→α→Bool} {ix:α→Nat} {g:Nat} {cb:Array Value} {blk off:Nat} {d0:Array α} {w0:World} (M:MgC cf tot ix g cb blk off d0 w0)
  (cap a b:Nat) (d:Array α) (w:World) (hs:d0.size=d.size) (S:Aside (SW (encI ix) w0 blk off d w)) (hab:a≤b) (hb:b≤d.size) :
  Calls Tryz.prog 84 #[.slice (some ⟨blk,off,none⟩) d.size cap,.int .i64 a,.int .i64 b,.func (.func g) #[] cb] w fun e w'=>e=.returned (.tuple #[])∧SW (encI ix) w0 blk off (Go.Sort.insertionSort (ltOf cf) d a b) w' :=
 Any.insertionSortCmpFunc_s Tryz.insL (encI ix) cf g cb blk off cap a b d0 d w0 w M.eg M.hc M.R hs S.out hab hb (by have:=M.sz;omega)
theorem perm_up {n a b:Nat} {d dk dk':Array α} (h:PermIn 0 n d dk) (hn:dk.size=n) (hb:b≤n) (P:PermIn a b dk dk'):PermIn 0 n d dk' :=
 permIn_trans d dk dk' 0 n h (permIn_mono dk dk' a b 0 n (Nat.zero_le _) hb (by omega) P)
set_option maxHeartbeats 16000000 in
theorem stable_any {cf:α→α→Int} {tot:α→α→Bool} {ix:α→Nat} {g:Nat} {cb:Array Value} {blk off:Nat} {d0:Array α} {w0:World} (M:MgC cf tot ix g cb blk off d0 w0)
  (cap n:Nat) (d:Array α) (w:World) (hn:d.size=n) (hs:d0.size=d.size) (S:SW (encI ix) w0 blk off d w) (h0:∀ i,i<n→ix d[i]! = i) :
  Calls Tryz.prog 58 #[.slice (some ⟨blk,off,none⟩) n cap,.int .i64 n,.func (.func g) #[] cb] w fun e w'=>e=.returned (.tuple #[])∧∃ d',SortedIn tot 0 n d'∧PermIn 0 n d d'∧SW (encI ix) w0 blk off d' w':=by
 have mixed:Tryz.prog.follows .mixedOrders=true:=by kernel_rfl
 have hsz:n≤1000:=by have:=M.sz;omega
 have HM:Aside (MgC cf tot ix g cb blk off d0 w0):=M
 have S0:Aside (SW (encI ix) w0 blk off d w):=S
 have HD:Hid (d0.size=n∧d.size=n):=⟨by omega,hn⟩
 have H0:Hid (InsB tot ix n 20 0 d):=⟨fun e he=>absurd he (Nat.not_lt_zero _),fun i _ hi=>h0 i hi⟩
 clear S M hn hs h0
 go_enter Tryz.func58,Tryz.ntmps58
 go_wp2_with fail
 go_loopg [7,8] n (fun gg s7 s8 wr => ∃ (c A B:Nat) (dk:Array α),s7=.int .i64 A∧s8=.int .i64 B∧A+20≤B∧B≤A+20∧A≤n∧gg=n-A∧Hid (A=c*20)∧Hid (InsB tot ix n 20 c dk)∧Hid (PermIn 0 n d dk)∧Hid (dk.size=n)∧Aside (SW (encI ix) w0 blk off dk wr))
 case atStart=>exact ⟨0,0,20,d,rfl,rfl,by omega,by omega,Nat.zero_le _,rfl,rfl,H0,permIn_refl d 0 n,HD.out.2,S0⟩
 case round =>
  clear S0 H0
  obtain ⟨c,A,B,dk,rfl,rfl,hB1,hB2,hAn,rfl,HA,HI,HP,HS,S1⟩:=hrel
  by_cases hlt:B≤n
  ·have hltz:(B:Int)≤(n:Int):=by omega
   have hBI:IntKind.i64.wrap ((B:Int)+20)=((B+20:Nat):Int):=by rw [IntKind.wrap_i64];omega
   have hc:=ins_any HM.out cap A B dk wr (by have:=HD.out;have:=HS.out;omega) S1 (by omega) (by have:=HS.out;omega)
   rw [HS.out] at hc
   have hst:InsB tot ix n 20 (c+1) (Go.Sort.insertionSort (ltOf cf) dk A B)∧PermIn A B dk (Go.Sort.insertionSort (ltOf cf) dk A B):=by
    have:=insB_step HM.out.T HS.out HI.out (by have:=HA.out;omega)
    rwa [show c*20+20=B by have:=HA.out;omega,←HA.out] at this
   have HI2:Hid (InsB tot ix n 20 (c+1) (Go.Sort.insertionSort (ltOf cf) dk A B)):=hst.1
   have HP2:Hid (PermIn 0 n d (Go.Sort.insertionSort (ltOf cf) dk A B)):=perm_up HP.out HS.out hlt hst.2
   have HS2:Hid ((Go.Sort.insertionSort (ltOf cf) dk A B).size=n):=hst.2.1.trans HS.out
   have HA2:Hid (B=(c+1)*20):=by show _=_;rw [Nat.succ_mul,←HA.out];omega
   clear hst S1 HI HP HS
   generalize Go.Sort.insertionSort (ltOf cf) dk A B=dk2 at hc HI2 HP2 HS2
   go_wp2_with fail
   refine hc.mono ?_
   rintro e w' ⟨rfl,hS⟩
   have HX:Aside (SW (encI ix) w0 blk off dk2 w'):=hS
   clear hS hc
   go_wp2_with fail
   go_roundg (n-B)
   case measure=>omega
   case rel=>exact ⟨c+1,B,B+20,dk2,rfl,rfl,Nat.le_refl _,Nat.le_refl _,hlt,rfl,HA2,HI2,HP2,HS2,HX⟩
  ·have hltz : ¬ (B:Int)≤(n:Int):=by omega
   have hc:=ins_any HM.out cap A n dk wr (by have:=HD.out;have:=HS.out;omega) S1 hAn (by have:=HS.out;omega)
   rw [HS.out] at hc
   have hst:AllB tot ix n 20 (Go.Sort.insertionSort (ltOf cf) dk A n)∧PermIn A n dk (Go.Sort.insertionSort (ltOf cf) dk A n):=by
    have:=insB_end HM.out.T (by omega) HS.out HI.out (by have:=HA.out;omega) (by have:=HA.out;omega)
    rwa [←HA.out] at this
   have HI2:Hid (AllB tot ix n 20 (Go.Sort.insertionSort (ltOf cf) dk A n)):=hst.1
   have HP2:Hid (PermIn 0 n d (Go.Sort.insertionSort (ltOf cf) dk A n)):=perm_up HP.out HS.out (Nat.le_refl _) hst.2
   have HS2:Hid ((Go.Sort.insertionSort (ltOf cf) dk A n).size=n):=hst.2.1.trans HS.out
   clear hst S1 HI HP HS
   generalize Go.Sort.insertionSort (ltOf cf) dk A n=dk2 at hc HI2 HP2 HS2
   go_wp2_with fail
   refine hc.mono ?_
   rintro e w' ⟨rfl,hS⟩
   have HX:Aside (SW (encI ix) w0 blk off dk2 w'):=hS
   clear hS hc
   go_wp2_with fail
   go_loopg [6,7,8,9] (n-20) (fun gg s6 s7 s8 s9 wr => ∃ (s:Nat) (dk:Array α),s6=.int .i64 s∧(∃ v7,v7=s7)∧(∃ v8,v8=s8)∧(∃ v9,v9=s9)∧0<s∧s≤2000∧gg=n-s∧Hid (AllB tot ix n s dk)∧Hid (PermIn 0 n d dk)∧Hid (dk.size=n)∧Aside (SW (encI ix) w0 blk off dk wr))
   case atStart=>exact ⟨20,dk2,rfl,⟨_,rfl⟩,⟨_,rfl⟩,⟨_,rfl⟩,by omega,by omega,rfl,HI2,HP2,HS2,HX⟩
   case round =>
    clear HX HI2 HP2 HS2
    obtain ⟨s,dk3,rfl,⟨v7,rfl⟩,⟨v8,rfl⟩,⟨v9,rfl⟩,hs0,hs2,rfl,HI,HP,HS,S1⟩:=hrel
    by_cases hlt2:s<n
    ·have hltz2:(s:Int)<(n:Int):=by omega
     obtain ⟨T,hT1,hT2,hTI⟩:∃ T:Nat,T≤2*s∧2*s≤T∧IntKind.i64.wrap (2*(s:Int))=(T:Int):=⟨2*s,Nat.le_refl _,Nat.le_refl _,by rw [IntKind.wrap_i64];omega⟩
     have hTI2:IntKind.i64.wrap ((s:Int)*2)=(T:Int):=by rw [IntKind.wrap_i64];omega
     have HH:Hid (Half tot ix n s 0 dk3):=half_start HI.out
     clear HI
     go_wp2_with fail
     go_loopg [7,8] n (fun gg s7 s8 wr => ∃ (c A B:Nat) (dk:Array α),s7=.int .i64 A∧s8=.int .i64 B∧A+T≤B∧B≤A+T∧A≤n∧gg=n-A∧Hid (A=c*(2*s))∧Hid (Half tot ix n s c dk)∧Hid (PermIn 0 n d dk)∧Hid (dk.size=n)∧Aside (SW (encI ix) w0 blk off dk wr))
     case atStart=>exact ⟨0,0,T,dk3,rfl,rfl,by omega,by omega,Nat.zero_le _,rfl,by show _=_;rw [Nat.zero_mul],HH,HP,HS,S1⟩
     case round =>
      clear S1 HH HP HS
      obtain ⟨c,A,B,dk,rfl,rfl,hB1,hB2,hAn,rfl,HA,HI,HP,HS,S1⟩:=hrel
      by_cases hlt3:B≤n
      ·have hltz3:(B:Int)≤(n:Int):=by omega
       have hBI:IntKind.i64.wrap ((B:Int)+(T:Int))=((B+T:Nat):Int):=by rw [IntKind.wrap_i64];omega
       obtain ⟨m,hm1,hm2,hmI⟩:∃ m:Nat,m≤A+s∧A+s≤m∧IntKind.i64.wrap ((A:Int)+(s:Int))=(m:Int):=⟨A+s,Nat.le_refl _,Nat.le_refl _,by rw [IntKind.wrap_i64];omega⟩
       have htw:TwoP tot ix A m B dk:=by
        have:=(half_two hs0 HI.out (by have:=HA.out;omega)).1
        rw [←HA.out,Nat.min_eq_left (by omega),show A+s=m by omega,show A+2*s=B by omega] at this
        exact this
       have hc:=merge_any HM.out cap 1000 A m B dk wr (by omega) (by have:=HD.out;have:=HS.out;omega) S1 htw (by omega) (by omega) (by have:=HS.out;omega)
       rw [HS.out] at hc
       have HST:Hid (∀ dk',SortedIn tot A B dk'→PermIn A B dk dk'→Half tot ix n s (c+1) dk'∧PermIn 0 n d dk'∧dk'.size=n):=fun dk' k1 k2=>by
        refine ⟨?_,perm_up HP.out HS.out hlt3 k2,k2.1.trans HS.out⟩
        rw [show B=A+2*s by omega,HA.out] at k1 k2
        exact half_step hs0 HS.out HI.out (by have:=HA.out;omega) k1 k2
       have HA2:Hid (B=(c+1)*(2*s)):=by show _=_;rw [Nat.succ_mul,←HA.out];omega
       clear htw S1 HI HP HS
       go_wp2_with fail
       refine hc.mono ?_
       rintro e w' ⟨rfl,dk4,k1,k2,hS⟩
       have HX:Aside (SW (encI ix) w0 blk off dk4 w'):=hS
       have HY:=HST.out dk4 k1 k2
       have HY1:Hid (Half tot ix n s (c+1) dk4):=HY.1
       have HY2:Hid (PermIn 0 n d dk4):=HY.2.1
       have HY3:Hid (dk4.size=n):=HY.2.2
       clear hS hc HY k1 k2 HST
       go_wp2_with fail
       go_roundg (n-B)
       case measure=>omega
       case rel=>exact ⟨c+1,B,B+T,dk4,rfl,by first | rfl | go_num,by omega,by omega,hlt3,rfl,HA2,HY1,HY2,HY3,HX⟩
      ·have hltz3 : ¬ (B:Int)≤(n:Int):=by omega
       obtain ⟨m,hm1,hm2,hmI⟩:∃ m:Nat,m≤A+s∧A+s≤m∧IntKind.i64.wrap ((A:Int)+(s:Int))=(m:Int):=⟨A+s,Nat.le_refl _,Nat.le_refl _,by rw [IntKind.wrap_i64];omega⟩
       go_upto_if 54 with fail
       go_cut [54] from 55 to 60 (fun s54 wx => ∃ (β:Bool) (dk':Array α),s54=.bool β∧Hid (AllB tot ix n (2*s) dk')∧Hid (PermIn 0 n d dk')∧Hid (dk'.size=n)∧Aside (SW (encI ix) w0 blk off dk' wx))
       case first =>
        by_cases hmn:m<n
        ·have hmnI:(m:Int)<(n:Int):=by omega
         have htw:TwoP tot ix A m n dk:=by
          have:=(half_two hs0 HI.out (by have:=HA.out;omega)).1
          rw [←HA.out,Nat.min_eq_right (by omega),show A+s=m by omega] at this
          exact this
         have hc:=merge_any HM.out cap 1000 A m n dk wr (by omega) (by have:=HD.out;have:=HS.out;omega) S1 htw (by omega) hmn (by have:=HS.out;omega)
         rw [HS.out] at hc
         have HST:Hid (∀ dk',SortedIn tot A n dk'→PermIn A n dk dk'→AllB tot ix n (2*s) dk'∧PermIn 0 n d dk'∧dk'.size=n):=fun dk' k1 k2=>by
          refine ⟨?_,perm_up HP.out HS.out (Nat.le_refl _) k2,k2.1.trans HS.out⟩
          rw [HA.out] at k1 k2
          exact half_end hs0 HS.out HI.out (by have:=HA.out;omega) (by have:=HA.out;omega) k1 k2
         clear htw S1 HI HP HS
         go_wp2_with fail
         refine hc.mono ?_
         rintro e w' ⟨rfl,dk4,k1,k2,hS⟩
         have HX:Aside (SW (encI ix) w0 blk off dk4 w'):=hS
         have HY:=HST.out dk4 k1 k2
         have HY1:Hid (AllB tot ix n (2*s) dk4):=HY.1
         have HY2:Hid (PermIn 0 n d dk4):=HY.2.1
         have HY3:Hid (dk4.size=n):=HY.2.2
         clear hS hc HY k1 k2 HST
         go_wp2_with fail
         go_meet
         exact ⟨_,dk4,rfl,HY1,HY2,HY3,HX⟩
        ·have hmnI : ¬ (m:Int)<(n:Int):=by omega
         have HY1:Hid (AllB tot ix n (2*s) dk):=half_end0 hs0 HI.out (by have:=HA.out;omega) (by have:=HA.out;omega)
         go_wp2_with fail
         go_meet
         exact ⟨_,dk,rfl,HY1,HP,HS,S1⟩
       case rest =>
       obtain ⟨β,dk5,rfl,HZ1,HZ2,HZ3,HZ4⟩:=hcut
       clear HI HP HS S1
       go_wp2_with fail
       go_roundg (n-T)
       case measure=>omega
       case rel=>exact ⟨T,dk5,rfl,⟨_,rfl⟩,⟨_,rfl⟩,⟨_,rfl⟩,by omega,by omega,rfl,by rw [show T=2*s by omega];exact HZ1,HZ2,HZ3,HZ4⟩
    ·have hltz2 : ¬ (s:Int)<(n:Int):=by omega
     go_wp2_with fail
     go_end0
     exact ⟨rfl,dk3,allB_sorted HI.out (by omega),HP.out,S1.out⟩
end Go.Proofs.YtenlladggdcfnaaGreatDoor
namespace Go.Proofs.YtenlladggdcfnaaGreatDoor
open Go.ChangeShapes Go.WideShapes Go.ChangeAt Go.RowKit
set_option maxRecDepth 20000
theorem parts1_in:EntersO 139:=fun args w=>by simp [callFunc,Tryz.func139];rfl
theorem parts1_any (b o n cap k q r:Nat) (M:Nat→Mem) (i:Int) (w:World) (hk:k<n) (hn:n≤12) (hM:MemsAt w b o n M) (hq:w.cell? ⟨q,2,none⟩=some (.slice (some ⟨b,o,none⟩) n cap)) (hr:w.cell? ⟨r,0,none⟩=some (.int .i64 i)) :
  Calls Tryz.prog 139 #[.int .i64 k,.pointer (some ⟨q,0,none⟩),.pointer (some ⟨r,0,none⟩)] w fun e w'=>e=.returned (.bool (partB M i k))∧Below w.heap.size w w':=by
 obtain ⟨-,h1,-,-⟩:=hM.2 k hk
 have hki:(k:Int)<(n:Int):=by omega
 have hn':(n:Int)≤12:=by omega
 unfold partB
 clear hM
 go_enter Tryz.func139,Tryz.ntmps139
 go_wp2_with fail
 go_quiet (fail)
 go_wp2_with fail
 go_ret
 exact ⟨by simp,below_drewN (Below.refl _ _) _⟩
def lst (c:Int) (L:List Int):List Int:=if c=0 then L else []
theorem lst_ok {c:Int} (h:c=0) (L:List Int):lst c L=L:=by simp [lst,h]
theorem lst_bad {c:Int} (h:c≠0) (L:List Int):lst c L=[]:=by simp [lst,h]
theorem treeErr_right {d:Dm} {L:List Int} (h:treeErr d L=0):(dimErr d).2=0:=by
 unfold treeErr at h
 split at h
 ·rename_i h1;exact absurd h h1
 ·rename_i h1;simpa using h1
theorem treeErr_in {d:Dm} {i:Int} (h:treeErr d [i]=0):(dimErr d).2=0∧∃ k:Nat,i=k∧k<d.n:=by
 have h0:=treeErr_right h
 rw [treeErr_one h0] at h
 by_cases h1:i<0∨(d.n:Int)≤i
 ·rw [if_pos h1] at h;cases h
 ·exact ⟨h0,i.toNat,by omega,by omega⟩
theorem ints_one {w:World} {i:Int} {T:Nat}:IntsAt (ownInt w i T) (some ⟨w.heap.size,0,none⟩) 1 [i]:=by
 refine ⟨Nat.le_refl _,Or.inr ⟨_,rfl,by rw [ownInt_size];omega,fun j hj=>?_⟩⟩
 have hj0:j=0:=by simp at hj;omega
 subst hj0
 exact ownInt_at w i T
def ownP (w:World) (d:Dm) (A:Option Addr) (cap:Nat) (i:Int) (T T':Nat):World:=ownInt (ownDim w d A cap T) i T'
theorem ownP_size (w:World) (d:Dm) (A:Option Addr) (cap:Nat) (i:Int) (T T':Nat):(ownP w d A cap i T T').heap.size=w.heap.size+2:=by unfold ownP;rw [ownInt_size,ownDim_size]
theorem ownP_below (w:World) (d:Dm) (A:Option Addr) (cap:Nat) (i:Int) (T T':Nat):Below w.heap.size w (ownP w d A cap i T T'):=onB (ownDim_below w d A cap T) (ownInt_below _ i T')
theorem ownP_dim (w:World) (d:Dm) (A:Option Addr) (cap:Nat) (i:Int) (T T':Nat):(ownP w d A cap i T T').cell? ⟨w.heap.size,2,none⟩=some (.slice A d.n cap) :=
 ((ownInt_below (ownDim w d A cap T) i T').cell (p:=⟨w.heap.size,2,none⟩) (by show w.heap.size<_;rw [ownDim_size];omega)).trans (ownDim_at w d A cap T).2.2
theorem ownP_int (w:World) (d:Dm) (A:Option Addr) (cap:Nat) (i:Int) (T T':Nat):(ownP w d A cap i T T').cell? ⟨w.heap.size+1,0,none⟩=some (.int .i64 i):=by
 unfold ownP
 rw [←ownDim_size w d A cap T]
 exact ownInt_at _ i T'
theorem ownP_ints (w:World) (d:Dm) (A:Option Addr) (cap:Nat) (i:Int) (T T':Nat):IntsAt (ownP w d A cap i T T') (some ⟨w.heap.size+1,0,none⟩) 1 [i]:=by
 unfold ownP
 rw [←ownDim_size w d A cap T]
 exact ints_one
def ownQ (w:World) (d:Dm) (A:Option Addr) (cap:Nat) (i:Int) (T T':Nat):World:=ownInt (ownP w d A cap i T T') i T'
theorem ownQ_size (w:World) (d:Dm) (A:Option Addr) (cap:Nat) (i:Int) (T T':Nat):(ownQ w d A cap i T T').heap.size=w.heap.size+3:=by unfold ownQ;rw [ownInt_size,ownP_size]
theorem ownQ_below (w:World) (d:Dm) (A:Option Addr) (cap:Nat) (i:Int) (T T':Nat):Below w.heap.size w (ownQ w d A cap i T T'):=onB (ownP_below w d A cap i T T') (ownInt_below _ i T')
theorem ownQ_dim (w:World) (d:Dm) (A:Option Addr) (cap:Nat) (i:Int) (T T':Nat):(ownQ w d A cap i T T').cell? ⟨w.heap.size,2,none⟩=some (.slice A d.n cap) :=
 ((ownInt_below (ownP w d A cap i T T') i T').cell (p:=⟨w.heap.size,2,none⟩) (by show w.heap.size<_;rw [ownP_size];omega)).trans (ownP_dim ..)
theorem ownQ_int (w:World) (d:Dm) (A:Option Addr) (cap:Nat) (i:Int) (T T':Nat):(ownQ w d A cap i T T').cell? ⟨w.heap.size+1,0,none⟩=some (.int .i64 i) :=
 ((ownInt_below (ownP w d A cap i T T') i T').cell (p:=⟨w.heap.size+1,0,none⟩) (by show w.heap.size+1<_;rw [ownP_size];omega)).trans (ownP_int ..)
theorem ownQ_ints (w:World) (d:Dm) (A:Option Addr) (cap:Nat) (i:Int) (T T':Nat):IntsAt (ownQ w d A cap i T T') (some ⟨w.heap.size+2,0,none⟩) 1 [i]:=by
 unfold ownQ
 rw [←ownP_size w d A cap i T T']
 exact ints_one
def lfOf (d:Dm) (i:Int):Bool:=decide (treeErr d [i]=0) && leafB d.mem d.n i.toNat
set_option maxHeartbeats 2000000 in
theorem tleaf_any (d:Dm) (A:Option Addr) (cap:Nat) (i:Int) (w:World) (hM:MemsV w A cap d.n d.mem):Calls Tryz.prog 124 #[dimV d A cap,.int .i64 i] w fun e w'=>e=.returned (.tuple #[.bool (lfOf d i),errV (treeErr d [i])])∧Below w.heap.size w w':=by
 have hB0:=ownP_below w d A cap i 81 3
 have hck:=tcheck_any d A cap _ 1 [i] (ownP w d A cap i 81 3) (hM.later hB0) (by simp) (ownP_ints ..)
 have HB0:Hid (Below w.heap.size w (ownP w d A cap i 81 3)):=hB0
 have HM:Hid (MemsV w A cap d.n d.mem):=hM
 unfold dimV at hck ⊢
 simp only [List.length_singleton] at hck
 clear hM hB0
 by_cases he:treeErr d [i]=0
 ·obtain ⟨hd,k,rfl,hk⟩:=treeErr_in he
  rw [he,errV_zero] at hck
  obtain ⟨-,-,hd2,-⟩:=dimErr_right hd
  have HR:Hid (lfOf d (k:Int)=leafB d.mem d.n k):=by show _=_;simp [lfOf,he]
  have HE:Hid (errV (treeErr d [(k:Int)])=.nilIface):=by show _=_;rw [he];rfl
  clear he hd
  go_enter Tryz.func124,Tryz.ntmps124
  go_wp2_with fail
  refine hck.mono ?_
  rintro e w1 ⟨rfl,hb1⟩
  have hB:Below w.heap.size w w1:=onB HB0.out hb1
  have h2:w1.cell? ⟨w.heap.size,2,none⟩=some (.slice A d.n cap):=(hb1.cell (p:=⟨w.heap.size,2,none⟩) (by show w.heap.size<_;rw [ownP_size];omega)).trans (ownP_dim ..)
  obtain ⟨hcap,h0 | ⟨b,o,rfl,hMs⟩⟩:=HM.out.later hB
  ·omega
  have hpl:=isleaf_any b o d.n cap k d.mem w1 hd2 hk hMs
  have HB:Hid (Below w.heap.size w w1):=hB
  clear hb1 hck hMs hB
  go_wp2_with fail
  refine hpl.mono ?_
  rintro e w2 ⟨rfl,hb2⟩
  go_wp2_with fail
  go_ret2
  rw [HR.out,HE.out]
  exact ⟨rfl,onB HB.out hb2⟩
 ·have HR:Hid (lfOf d i=false):=by show _=_;simp [lfOf,he]
  have HE:Hid (errV (treeErr d [i])=.iface 46 (.int .i64 (treeErr d [i]))):=errV_some he
  rw [errV_some he] at hck
  clear he
  generalize treeErr d [i]=c at hck HE
  go_enter Tryz.func124,Tryz.ntmps124
  go_wp2_with fail
  refine hck.mono ?_
  rintro e w1 ⟨rfl,hb1⟩
  go_wp2_with fail
  go_ret2
  rw [HR.out,HE.out]
  exact ⟨rfl,onB HB0.out hb1⟩
set_option maxHeartbeats 2000000 in
theorem anydim_any (fn q r:Nat) (he:EntersO fn) (A0:Option Addr) (n cap:Nat) (p:Nat→Bool) (w:World) (hn:n≤4) (hp:AskP fn q r w n p):Calls Tryz.prog 96 #[.agg #[.slice A0 n cap],.func (.func fn) #[] #[.pointer (some ⟨q,0,none⟩),.pointer (some ⟨r,0,none⟩)]] w fun e w'=>e=.returned (.bool (decide (0≤findFrom p n 0)))∧Below w.heap.size w w':=by
 have HP:Hid (AskP fn q r w n p):=hp
 have hn':(n:Int)≤4:=by omega
 clear hp
 unfold EntersO at he
 go_enter Tryz.func96,Tryz.ntmps96
 go_wp2_with fail
 go_loopg [5,9] n (fun g s5 s9 wr => ∃ (k:Nat),k≤n∧g=n-k∧s9=.int .i64 k∧findFrom p (n-k) k=findFrom p n 0∧Below w.heap.size w wr)
 case atStart=>exact ⟨0,Nat.zero_le _,rfl,rfl,rfl,by go_grown⟩
 case round =>
  obtain ⟨k,hk,rfl,rfl,hf,hBw⟩:=hrel
  have HF:Hid (findFrom p (n-k) k=findFrom p n 0):=hf
  have HW:Hid (Below w.heap.size w wr):=hBw
  by_cases hlt:k<n
  ·have hki:(k:Int)<(n:Int):=by omega
   have HSK:Hid (n-k=(n-(k+1))+1):=by show _=_;omega
   have hbd:=HP.out k wr hlt hBw
   clear hf hBw
   cases hb:p k
   ·rw [hb] at hbd
    have HK:Hid (p k=false):=hb
    clear hb
    go_wp2_with fail
    refine hbd.mono ?_
    rintro e w1 ⟨rfl,hb1⟩
    go_wp2_with fail
    go_roundg (n-(k+1))
    case measure=>omega
    case rel=>exact ⟨k+1,by omega,rfl,by go_num,by rw [←HF.out,HSK.out,findFrom_miss _ HK.out],onB HW.out hb1⟩
   ·rw [hb] at hbd
    have HK:Hid (p k=true):=hb
    clear hb
    go_wp2_with fail
    refine hbd.mono ?_
    rintro e w1 ⟨rfl,hb1⟩
    go_wp2_with fail
    go_ret
    exact ⟨by rw [←HF.out,HSK.out,findFrom_hit _ HK.out,decide_eq_true (by omega)];rfl,onB HW.out hb1⟩
  ·have hke:k=n:=by omega
   subst hke
   clear hf hBw
   go_wp2_with fail
   go_ret
   exact ⟨by rw [←HF.out,Nat.sub_self];rfl,HW.out⟩
def ownOP (w:World) (A0:Option Addr) (n cap:Nat) (Ap:Option Addr) (m cp T T':Nat):World:=(ownOut w A0 n cap T).alloc (.cells #[.slice Ap m cp] T')
theorem ownOP_size (w:World) (A0:Option Addr) (n cap:Nat) (Ap:Option Addr) (m cp T T':Nat):(ownOP w A0 n cap Ap m cp T T').heap.size=w.heap.size+2:=by unfold ownOP;simp [ownOut_size]
theorem ownOP_below (w:World) (A0:Option Addr) (n cap:Nat) (Ap:Option Addr) (m cp T T':Nat):Below w.heap.size w (ownOP w A0 n cap Ap m cp T T'):=by unfold ownOP ownOut;go_grown
theorem ownOP_o (w:World) (A0:Option Addr) (n cap:Nat) (Ap:Option Addr) (m cp T T':Nat):(ownOP w A0 n cap Ap m cp T T').cell? ⟨w.heap.size,0,none⟩=some (.slice A0 n cap):=by
 unfold ownOP
 rw [World.cell?_alloc_lt _ _ ⟨w.heap.size,0,none⟩ (by rw [ownOut_size];exact Nat.lt_succ_self _)]
 exact ownOut_at ..
theorem ownOP_p (w:World) (A0:Option Addr) (n cap:Nat) (Ap:Option Addr) (m cp T T':Nat):(ownOP w A0 n cap Ap m cp T T').cell? ⟨w.heap.size+1,0,none⟩=some (.slice Ap m cp):=by
 unfold ownOP
 rw [←ownOut_size w A0 n cap T]
 simp
theorem pcheck1_in:EntersO 97:=fun args w=>by simp [callFunc,Tryz.func97];rfl
set_option maxHeartbeats 2000000 in
theorem pcheck1_any (b o n cap k q r bp op cp:Nat) (D:Nat→Dm) (A:Nat→Option Addr) (C:Nat→Nat) (x:Int) (w:World) (hk:k<n) (hn:n≤4) (hd:(D k).n≤12) (hM:DimsAt w b o n D A C) (hx:w.cell? ⟨bp,op+k,none⟩=some (.int .i64 x)) (hq:w.cell? ⟨q,0,none⟩=some (.slice (some ⟨bp,op,none⟩) n cp)) (hr:w.cell? ⟨r,0,none⟩=some (.slice (some ⟨b,o,none⟩) n cap)) :
  Calls Tryz.prog 97 #[.int .i64 k,.pointer (some ⟨q,0,none⟩),.pointer (some ⟨r,0,none⟩)] w fun e w'=>e=.returned (.bool (decide (x<0) || decide (((D k).n:Int)≤x)))∧Below w.heap.size w w':=by
 obtain ⟨-,-,h3,-⟩:=hM.2 k hk
 have hki:(k:Int)<(n:Int):=by omega
 have hn':(n:Int)≤4:=by omega
 generalize (D k).n=m at h3 hd
 have hm:(m:Int)≤12:=by omega
 clear hM
 by_cases hx0:x<0
 ·rw [decide_eq_true hx0]
  go_enter Tryz.func97,Tryz.ntmps97
  go_wp2_with fail
  go_quiet (fail)
  go_wp2_with fail
  go_ret
  exact ⟨by simp,below_drewN (Below.refl _ _) _⟩
 ·rw [decide_eq_false hx0]
  have hx1:0≤x:=by omega
  have hxd:decide (x<0)=false:=decide_eq_false hx0
  go_enter Tryz.func97,Tryz.ntmps97
  go_wp2_with fail
  go_quiet (fail)
  go_wp2_with fail
  go_ret
  exact ⟨by simp,below_drewN (Below.refl _ _) _⟩
set_option maxHeartbeats 4000000 in
theorem pcheck_any (A0:Option Addr) (cap n:Nat) (D:Nat→Dm) (A:Nat→Option Addr) (C:Nat→Nat) (Ap:Option Addr) (cp:Nat) (L:List Int) (w:World) (hM:DimsV w A0 cap n D A C) (hP:PlAt w Ap cp L):Calls Tryz.prog 72 #[.agg #[.slice A0 n cap],.slice Ap L.length cp] w fun e w'=>e=.returned (errV (placeErr D n L))∧Below w.heap.size w w':=by
 have hB0:=ownOP_below w A0 n cap Ap L.length cp 25 27
 have h:=checko_any A0 cap n D A C (ownOP w A0 n cap Ap L.length cp 25 27) (hM.later hB0)
 have HB0:Hid (Below w.heap.size w (ownOP w A0 n cap Ap L.length cp 25 27)):=hB0
 have HM:Hid (DimsV w A0 cap n D A C):=hM
 have HP:Hid (PlAt w Ap cp L):=hP
 clear hM hB0 hP
 by_cases he:(allErr D n).2.2=0
 ·obtain ⟨hn1,hn4,-,hd⟩:=allErr_some he
  have HE:Hid (placeErr D n L=shapeErr D n L):=pe1 he
  rw [he,errV_zero] at h
  have HD:Hid (∀ i,i<n→1≤(D i).n∧(D i).n≤12):=hd
  have hn':(n:Int)≤4:=by omega
  clear he hd
  by_cases hl:L.length=n
  ·have hle:((L.length:Int) == (n:Int))=true:=by simp [hl]
   have HL:Hid (L.length=n):=hl
   obtain ⟨hcp,h0 | ⟨bp,op,rfl,hbp,hcell⟩⟩:=HP.out
   ·rw [h0] at hl;simp at hl;omega
   rw [hl] at h HB0 hcp hle
   rw [hl]
   have HC:Hid (∀ j,j<n→w.cell? ⟨bp,op+j,none⟩=some (.int .i64 (L.getD j 0))):=fun j hj=>hcell j (by omega)
   clear hl hcell
   go_enter Tryz.func72,Tryz.ntmps72
   go_wp2_with fail
   refine h.mono ?_
   rintro e w1 ⟨rfl,hb1⟩
   have hB:Below w.heap.size w w1:=onB HB0.out hb1
   have hz:w.heap.size+1<w1.heap.size:=by have:=hb1.size;rw [ownOP_size] at this;omega
   have ho:w1.cell? ⟨w.heap.size,0,none⟩=some (.slice A0 n cap):=(hb1.cell (p:=⟨w.heap.size,0,none⟩) (by show w.heap.size<_;rw [ownOP_size];omega)).trans (ownOP_o ..)
   have hp:w1.cell? ⟨w.heap.size+1,0,none⟩=some (.slice (some ⟨bp,op,none⟩) n cp):=(hb1.cell (p:=⟨w.heap.size+1,0,none⟩) (by show w.heap.size+1<_;rw [ownOP_size];omega)).trans (ownOP_p ..)
   obtain ⟨hcap,h0 | ⟨b,o,rfl,hMs⟩⟩:=HM.out.later hB
   ·omega
   have hany:=anydim_any 97 (w.heap.size+1) w.heap.size pcheck1_in (some ⟨b,o,none⟩) n cap (outP D L) w1 hn4 (fun j w' hj hw'=>pcheck1_any b o n cap j (w.heap.size+1) w.heap.size bp op cp D A C (L.getD j 0) w' hj hn4 (HD.out j hj).2 (hMs.later hw') (((onB hB hw').cell (p:=⟨bp,op+j,none⟩) hbp).trans (HC.out j hj)) ((hw'.cell (p:=⟨w.heap.size+1,0,none⟩) hz).trans hp) ((hw'.cell (p:=⟨w.heap.size,0,none⟩) (by show w.heap.size<_;omega)).trans ho))
   have HB:Hid (Below w.heap.size w w1):=hB
   clear hb1 h hMs hB
   by_cases hf:0≤findFrom (outP D L) n 0
   ·rw [decide_eq_true hf] at hany
    have HR:Hid (placeErr D n L=1):=by show _=_;rw [HE.out,sh1 HL.out hf]
    clear hf
    go_wp2_with fail
    refine hany.mono ?_
    rintro e w2 ⟨rfl,hb2⟩
    go_wp2_with fail
    go_ret
    exact ⟨by rw [HR.out];rfl,onB HB.out hb2⟩
   ·rw [decide_eq_false hf] at hany
    have HR:Hid (placeErr D n L=0):=by show _=_;rw [HE.out,sh2 HL.out hf]
    clear hf
    go_wp2_with fail
    refine hany.mono ?_
    rintro e w2 ⟨rfl,hb2⟩
    go_wp2_with fail
    go_ret
    exact ⟨by rw [HR.out];rfl,onB HB.out hb2⟩
  ·have hle:((L.length:Int) == (n:Int))=false:=by simp;omega
   have HR:Hid (placeErr D n L=3):=by show _=_;rw [HE.out,sh0 hl]
   generalize L.length=m at h hle HB0
   clear hl
   go_enter Tryz.func72,Tryz.ntmps72
   go_wp2_with fail
   refine h.mono ?_
   rintro e w1 ⟨rfl,hb1⟩
   have ho:w1.cell? ⟨w.heap.size,0,none⟩=some (.slice A0 n cap):=(hb1.cell (p:=⟨w.heap.size,0,none⟩) (by show w.heap.size<_;rw [ownOP_size];omega)).trans (ownOP_o ..)
   have hp:w1.cell? ⟨w.heap.size+1,0,none⟩=some (.slice Ap m cp):=(hb1.cell (p:=⟨w.heap.size+1,0,none⟩) (by show w.heap.size+1<_;rw [ownOP_size];omega)).trans (ownOP_p ..)
   have HB:Hid (Below w.heap.size w w1):=onB HB0.out hb1
   clear hb1 h
   go_wp2_with fail
   go_ret
   exact ⟨by rw [HR.out];rfl,HB.out⟩
 ·have HR:Hid (placeErr D n L=(allErr D n).2.2):=pe0 he
  have HE:Hid (errV (allErr D n).2.2=.iface 46 (.int .i64 (allErr D n).2.2)):=errV_some he
  rw [errV_some he] at h
  clear he
  generalize (allErr D n).2.2=c at h HE HR
  generalize L.length=m at h HB0
  go_enter Tryz.func72,Tryz.ntmps72
  go_wp2_with fail
  refine h.mono ?_
  rintro e w1 ⟨rfl,hb1⟩
  go_wp2_with fail
  go_ret
  exact ⟨by rw [HR.out,HE.out];rfl,onB HB0.out hb1⟩
set_option maxHeartbeats 4000000 in
theorem pnumber_any (A0:Option Addr) (cap n:Nat) (D:Nat→Dm) (A:Nat→Option Addr) (C:Nat→Nat) (Ap:Option Addr) (cp:Nat) (L:List Int) (w:World) (hM:DimsV w A0 cap n D A C) (hP:PlAt w Ap cp L):Calls Tryz.prog 47 #[.agg #[.slice A0 n cap],.slice Ap L.length cp] w fun e w'=>e=.returned (.tuple #[.int .i64 (numV D n L),errV (placeErr D n L)])∧Below w.heap.size w w':=by
 have hB0:=ownOut_below w A0 n cap 25
 have h:=pcheck_any A0 cap n D A C Ap cp L (ownOut w A0 n cap 25) (hM.later hB0) (hP.later hB0)
 have HB0:Hid (Below w.heap.size w (ownOut w A0 n cap 25)):=hB0
 have HM:Hid (DimsV w A0 cap n D A C):=hM
 have HP:Hid (PlAt w Ap cp L):=hP
 clear hM hB0 hP
 by_cases he:placeErr D n L=0
 ·have HI:Hid (InO D n L):=inO_of he
  have HV:Hid (numV D n L=numI D L n):=by show _=_;unfold numV;rw [if_pos he]
  have HE:Hid (errV (placeErr D n L)=.nilIface):=by show _=_;rw [he];rfl
  rw [he,errV_zero] at h
  obtain ⟨hn1,hn4,-,hd⟩:=allErr_some HI.out.right
  have HD:Hid (∀ i,i<n→1≤(D i).n∧(D i).n≤12):=hd
  have hn':(n:Int)≤4:=by omega
  have hl:=HI.out.len
  obtain ⟨hcp,h0 | ⟨bp,op,rfl,hbp,hcell⟩⟩:=HP.out
  ·rw [h0] at hl;simp at hl;omega
  rw [hl] at h hcp
  rw [hl]
  have HC:Hid (∀ j,j<n→w.cell? ⟨bp,op+j,none⟩=some (.int .i64 (L.getD j 0))):=fun j hj=>hcell j (by omega)
  clear he hd hl hcell
  go_enter Tryz.func47,Tryz.ntmps47
  go_wp2_with fail
  refine h.mono ?_
  rintro e w1 ⟨rfl,hb1⟩
  have hB:Below w.heap.size w w1:=onB HB0.out hb1
  have h2:w1.cell? ⟨w.heap.size,0,none⟩=some (.slice A0 n cap):=(hb1.cell (p:=⟨w.heap.size,0,none⟩) (by show w.heap.size<_;rw [ownOut_size];omega)).trans (ownOut_at ..)
  obtain ⟨hcap,h0 | ⟨b,o,rfl,hMs⟩⟩:=HM.out.later hB
  ·omega
  have HMs:Hid (DimsAt w1 b o n D A C):=hMs
  have HB:Hid (Below w.heap.size w w1):=hB
  clear hb1 h hMs hB
  go_wp2_with fail
  go_loopg [7,19] n (fun g s7 s19 wr => ∃ (k:Nat),k≤n∧g=n-k∧s19=.int .i64 k∧s7=.int .i64 (numI D L k)∧Below w1.heap.size w1 wr)
  case atStart=>exact ⟨0,Nat.zero_le _,rfl,rfl,rfl,Below.refl _ _⟩
  case round =>
   obtain ⟨k,hk,rfl,rfl,rfl,hBw⟩:=hrel
   have HW:Hid (Below w1.heap.size w1 wr):=hBw
   by_cases hlt:k<n
   ·obtain ⟨h0,h1,h3,-⟩:=(HMs.out.later hBw).2 k hlt
    have hki:(k:Int)<(n:Int):=by omega
    have hcx:wr.cell? ⟨bp,op+k,none⟩=some (.int .i64 (L.getD k 0)):=((onB HB.out hBw).cell (p:=⟨bp,op+k,none⟩) hbp).trans (HC.out k hlt)
    have hcx':∀ o1,(wr.alloc o1).cell? ⟨bp,op+k,none⟩=some (.int .i64 (L.getD k 0)):=fun o1=>(World.cell?_alloc_lt _ _ ⟨bp,op+k,none⟩ (World.block_lt_of_cell? _ _ hcx)).trans hcx
    obtain ⟨hb1,hb2,hb3⟩:=numI_bound HI.out (k:=k+1) (by omega)
    obtain ⟨hb4,hb5,hb6⟩:=numI_bound HI.out (k:=k) (by omega)
    have hx0:=HI.out.lo k hlt
    have hx1:=HI.out.hi k hlt
    obtain ⟨hd1,hd2⟩:=HD.out k hlt
    have HN:Hid (numI D L (k+1)=numI D L k*((D k).n:Int)+L.getD k 0):=rfl
    rw [HN.out] at hb1 hb2
    generalize L.getD k 0=x at hcx hcx' hb1 hb2 hx0 hx1 HN
    generalize (D k).n=m at h3 hb1 hb2 hd1 hd2 hx1 HN
    generalize numI D L k=y at hb1 hb2 hb4 hb5 HN
    have hm0:0≤y*(m:Int):=Int.mul_nonneg hb4 (by omega)
    have hm1:y*(m:Int)≤20736:=by omega
    have hm2:y*(m:Int)+x≤20736:=by omega
    clear hBw hb2 hb5
    go_wp2_with fail
    go_quiet (fail)
    go_wp2_with fail
    go_roundg (n-(k+1))
    case measure=>omega
    case rel=>exact ⟨k+1,by omega,rfl,by go_num,by rw [HN.out],below_drewN (HW.out.alloc (by have:=HW.out.size;omega) _) _⟩
   ·have hke:k=n:=by omega
    subst hke
    go_wp2_with fail
    go_ret2
    rw [HV.out,HE.out]
    exact ⟨rfl,onB HB.out HW.out⟩
 ·have HV:Hid (numV D n L=0):=by show _=_;unfold numV;rw [if_neg he]
  have HE:Hid (errV (placeErr D n L)=.iface 46 (.int .i64 (placeErr D n L))):=errV_some he
  rw [errV_some he] at h
  clear he
  generalize placeErr D n L=c at h HE
  generalize L.length=m at h
  go_enter Tryz.func47,Tryz.ntmps47
  go_wp2_with fail
  refine h.mono ?_
  rintro e w1 ⟨rfl,hb1⟩
  go_wp2_with fail
  go_ret2
  rw [HV.out,HE.out]
  exact ⟨rfl,onB HB0.out hb1⟩
theorem own_low {w:World} {b b' e size n:Nat} {v:Value} {xs:List Value} (h:w.ownsRow b e size v n xs) (hb:b'≤b):w.ownsRow b' e size v n xs:=by
 refine ⟨h.1,?_⟩
 rcases h.2 with h0 | ⟨g,cap,cur,h1,h2,h3⟩
 ·exact Or.inl h0
 ·exact Or.inr ⟨g,cap,cur,h1,Nat.le_trans hb h2,h3⟩
set_option maxHeartbeats 2000000 in
theorem places_own (fn q r:Nat) (he:EntersO fn) (A:Option Addr) (n cap:Nat) (p:Nat→Bool) (w:World) (hn:n≤12) (hp:AskP fn q r w n p):Calls Tryz.prog 99 #[.slice A n cap,.func (.func fn) #[] #[.pointer (some ⟨q,0,none⟩),.pointer (some ⟨r,0,none⟩)]] w fun e w'=>(∃ v,e=.returned v∧w'.ownsRow w.heap.size 3 1 v (selTo p n).length (mapI (selTo p n)))∧Below w.heap.size w w':=by
 obtain ⟨i0,hi0,hz0,hz1,hz2⟩:=info_parts Tryz.infoInt
 have HP:Hid (AskP fn q r w n p):=hp
 have hn':(n:Int)≤12:=by omega
 clear hp
 unfold EntersO at he
 go_enter Tryz.func99,Tryz.ntmps99
 go_wp2_with fail
 go_loopg [5,9] n (fun g s5 s9 wr => ∃ (k:Nat),k≤n∧g=n-k∧s9=.int .i64 k∧wr.ownsRow w.heap.size 3 1 s5 (selTo p k).length (mapI (selTo p k))∧Below w.heap.size w wr)
 case atStart=>exact ⟨0,Nat.zero_le _,rfl,rfl,World.ownsRow_nil _ _ _ _,Below.refl _ _⟩
 case round =>
  obtain ⟨k,hk,rfl,rfl,hown,hBw⟩:=hrel
  have HW:Hid (Below w.heap.size w wr):=hBw
  have HO:Hid (wr.ownsRow w.heap.size 3 1 _ (selTo p k).length (mapI (selTo p k))):=hown
  by_cases hlt:k<n
  ·have hki:(k:Int)<(n:Int):=by omega
   have hbd:=HP.out k wr hlt hBw
   clear hBw hown
   cases hb:p k
   ·rw [hb] at hbd
    have HK:Hid (p k=false):=hb
    clear hb
    go_wp2_with fail
    refine hbd.mono ?_
    rintro e w1 ⟨rfl,hb1⟩
    go_wp2_with fail
    go_roundg (n-(k+1))
    case measure=>omega
    case rel=>exact ⟨k+1,by omega,rfl,by go_num,by rw [selTo_miss HK.out];exact own_later HO.out hb1,onB HW.out hb1⟩
   ·rw [hb] at hbd
    have HK:Hid (p k=true):=hb
    have hlen:=selTo_len p k
    clear hb
    go_wp2_with fail
    refine hbd.mono ?_
    rintro e w1 ⟨rfl,hb1⟩
    have hown:=own_later HO.out hb1
    have hB1:=onB HW.out hb1
    have hsz:=hB1.size
    have HB1:Hid (Below w.heap.size w w1):=hB1
    clear hb1 hB1
    go_wp2_with (at_builtin;refine wpList_append_own _ rfl _ _ 22 rfl w.heap.size 3 i0 (.int .i64 0) 1 8 Tryz.underlying22 hi0 hz0 hz1 hz2 rfl (by decide) _ _ _ rfl (hown.alloc _) ⟨w1.heap.size,0,none⟩ 1 1 [.int .i64 k] rfl rfl one_cell one_one (by unfold maxLen;omega) (by omega) (by simp;omega) ?_)
    intro v' w2 hown' hgrow _
    have HB2:Hid (Below w.heap.size w w2):=grown_own HB1.out hown hgrow
    have HO2:Hid (w2.ownsRow w.heap.size 3 1 v' (selTo p (k+1)).length (mapI (selTo p (k+1)))):=by
     show World.ownsRow ..
     rw [selTo_hit HK.out,mapI_snoc,List.length_append];exact hown'
    clear hown' hgrow hown
    go_wp2_with fail
    go_roundg (n-(k+1))
    case measure=>omega
    case rel=>exact ⟨k+1,by omega,rfl,by go_num,HO2.out,HB2.out⟩
  ·have hke:k=n:=by omega
   subst hke
   clear hBw hown
   go_wp2_with fail
   go_ret
   exact ⟨⟨_,rfl,HO.out⟩,HW.out⟩
set_option maxHeartbeats 2000000 in
theorem parts_own (d:Dm) (A:Option Addr) (cap:Nat) (k:Nat) (w:World) (hd:(dimErr d).2=0) (hk:k<d.n) (hM:MemsV w A cap d.n d.mem):Calls Tryz.prog 119 #[dimV d A cap,.int .i64 k] w fun e w'=>(∃ v,e=.returned (.tuple #[v,.nilIface])∧w'.ownsRow w.heap.size 3 1 v (partsOf d.mem d.n k).length (mapI (partsOf d.mem d.n k)))∧Below w.heap.size w w':=by
 have hB0:=ownQ_below w d A cap k 81 3
 have hck:=tcheck_any d A cap _ 1 [(k:Int)] (ownQ w d A cap k 81 3) (hM.later hB0) (by simp) (ownQ_ints ..)
 have HB0:Hid (Below w.heap.size w (ownQ w d A cap k 81 3)):=hB0
 have HM:Hid (MemsV w A cap d.n d.mem):=hM
 unfold dimV at hck ⊢
 simp only [List.length_singleton] at hck
 clear hM hB0
 have he:treeErr d [(k:Int)]=0:=by rw [treeErr_one hd,if_neg (by omega)]
 ·rw [he,errV_zero] at hck
  obtain ⟨-,-,hd2,-⟩:=dimErr_right hd
  clear he hd
  go_enter Tryz.func119,Tryz.ntmps119
  go_wp2_with fail
  refine hck.mono ?_
  rintro e w1 ⟨rfl,hb1⟩
  have hB:Below w.heap.size w w1:=onB HB0.out hb1
  have hz:w.heap.size+1<w1.heap.size:=by have:=hb1.size;rw [ownQ_size] at this;omega
  have h2:w1.cell? ⟨w.heap.size,2,none⟩=some (.slice A d.n cap):=(hb1.cell (p:=⟨w.heap.size,2,none⟩) (by show w.heap.size<_;rw [ownQ_size];omega)).trans (ownQ_dim ..)
  have h3:w1.cell? ⟨w.heap.size+1,0,none⟩=some (.int .i64 k):=(hb1.cell (p:=⟨w.heap.size+1,0,none⟩) (by show w.heap.size+1<_;rw [ownQ_size];omega)).trans (ownQ_int ..)
  obtain ⟨hcap,h0 | ⟨b,o,rfl,hMs⟩⟩:=HM.out.later hB
  ·omega
  have hpl:=places_own 139 w.heap.size (w.heap.size+1) parts1_in (some ⟨b,o,none⟩) d.n cap (partB d.mem k) w1 hd2 (fun j w' hj hw'=>parts1_any b o d.n cap j w.heap.size (w.heap.size+1) d.mem k w' hj hd2 (hMs.later hw') ((hw'.cell (p:=⟨w.heap.size,2,none⟩) (by show w.heap.size<_;omega)).trans h2) ((hw'.cell (p:=⟨w.heap.size+1,0,none⟩) hz).trans h3))
  have HB:Hid (Below w.heap.size w w1):=hB
  clear hb1 hck hMs h3 hB
  go_wp2_with fail
  refine hpl.mono ?_
  rintro e w2 ⟨⟨v2,rfl,hO2⟩,hb2⟩
  have HO2:Hid (w2.ownsRow w1.heap.size 3 1 v2 (selTo (partB d.mem k) d.n).length (mapI (selTo (partB d.mem k) d.n))):=hO2
  have HB2:Hid (Below w.heap.size w w2):=onB HB.out hb2
  clear hO2 hb2 hpl
  go_wp2_with fail
  go_ret2
  exact ⟨⟨v2,rfl,own_low HO2.out HB.out.size⟩,HB2.out⟩
end Go.Proofs.YtenlladggdcfnaaGreatDoor
