/-
  What line, parentText, signText, formulaText of package sheet answer, in whatever memory.
-/
import Derived.Test.YtpoklbfffgpbiaaGreatDoorShelfJ
import Derived.Deep.CutBlock
import Derived.Test.YtpoklbfffgpbiaaGreatDoorJXBD
import Derived.Test.YtpoklbfffgpbiaaGreatDoorJXBE
namespace Go.Proofs.YtpoklbfffgpbiaaGreatDoor
open Go Go.ChangeShapes Go.WideShapes Go.ChangeAt Go.RowKit
set_option maxRecDepth 20000
set_option maxHeartbeats 4000000
theorem Tryz.extraJ:Builder.Extra Tryz.prog Tryz.lays156_ren:={
 sizeBuilder:=by kernel_rfl
 liesBuilder:=by kernel_rfl
 t5:=Tryz.underlying5
 a5:=Tryz.isAgg5
 z5:=Tryz.sizeOf5
 v5:=Tryz.zeroValue5
 infoByte:=by kernel_rfl
 cellsByte:=by kernel_rfl
 sizeByte:=by kernel_rfl
 neB5:=by decide }
def liB (l:List ByteArray):ByteArray:=⟨((Lib.join (l.map fun x:ByteArray=>x.data.toList) [32]:List UInt8) ++ [10]).toArray⟩
theorem liB_three (a b c:ByteArray):(liB [a,b,c]).data.toList=a.data.toList ++ [32] ++ b.data.toList ++ [32] ++ c.data.toList ++ [10]:=by
 simp [liB,Lib.join]
theorem liB_four (a b c d:ByteArray):(liB [a,b,c,d]).data.toList=a.data.toList ++ [32] ++ b.data.toList ++ [32] ++ c.data.toList ++ [32] ++ d.data.toList ++ [10]:=by
 simp [liB,Lib.join]
theorem joinW_len (m:Nat):∀ L:List ByteArray,(∀ x∈L,x.size≤m)→(Lib.join (L.map (·.data.toList)) [32]).length≤L.length*(m+1)
 | [],_=>by simp [Lib.join]
 | x :: r,h=>by
  have h2:=h x (List.mem_cons_self ..)
  have h3:x.data.toList.length=x.size:=by simp
  have h1:∀ L:List ByteArray,(∀ x∈L,x.size≤m)→(Lib.joinTail [32] (L.map (·.data.toList))).length≤L.length*(m+1):=by
   intro L
   induction L with
   | nil=>intro _;simp [Lib.joinTail]
   | cons x r ih =>
    intro h
    have h1:=ih fun y hy=>h y (List.mem_cons_of_mem _ hy)
    have h2:=h x (List.mem_cons_self ..)
    have h3:x.data.toList.length=x.size:=by simp
    simp only [Lib.joinTail,List.map_cons,List.flatten_cons,List.length_append,List.length_cons,List.length_nil,Nat.add_mul] at h1 ⊢
    omega
  have h4:=h1 r fun y hy=>h y (List.mem_cons_of_mem _ hy)
  rw [List.map_cons,Lib.join_cons,List.length_append,List.length_cons,Nat.add_mul]
  omega
theorem sline_any (g c m:Nat) (l:List ByteArray) (w:World) (h1:∀ (j:Nat) x,l[j]?=some x→w.cell? ⟨g,0+j,none⟩=some (.string x)) (hg:g<w.heap.size) (hl:l.length=m) (hm:m≤4) (hc:m≤c) (hx:∀ x∈l,x.size≤1048576) :
  Calls Tryz.prog 14 #[.slice (some ⟨g,0,none⟩) m c] w fun e w'=>e=.returned (.string (liB l))∧Below w.heap.size w w':=by
 have hj:=joinW_len 1048576 l hx
 have hjl:(Lib.join (l.map (·.data.toList)) (ByteArray.mk #[32]).data.toList).length≤140737488355328:=by
  refine Nat.le_trans hj ?_
  rw [hl]
  omega
 have h:=Any.strings_Join Tryz.lays156 Tryz.extraJ g 0 c l ⟨#[32]⟩ w h1 hg (by omega) (by omega) hjl
 rw [hl] at h
 obtain ⟨t,ht⟩:∃ t:ByteArray,⟨(Lib.join (l.map (·.data.toList)) (ByteArray.mk #[32]).data.toList).toArray⟩=t:=⟨_,rfl⟩
 have hts:t.size≤140737488355328:=by rw [←ht];show (List.toArray _).size≤_;rw [List.size_toArray];exact hjl
 have HE:Hid (t ++ ⟨#[10]⟩=liB l):=by
  show _=_
  rw [←ht]
  apply ByteArray.ext
  simp [liB,ByteArray.data_append]
 rw [ht] at h
 have hts':(t.size:Int)≤140737488355328:=by omega
 have hadd : ¬ 9223372036854775807<t.size+1:=by omega
 clear h1 hg hl hm hc hx hj hjl ht
 go_enter Tryz.func14,Tryz.ntmps14
 go_wp2_with fail
 refine h.mono ?_
 rintro e w1 ⟨rfl,hb⟩
 go_wp2_with fail
 go_ret
 rw [HE.out]
 exact ⟨rfl,hb⟩
theorem parent_any (p:Int) (w:World) (h0 : -1≤p) (h1:p≤9223372036854775807) (hE:TabE w):Calls Tryz.prog 16 #[.int .i64 p] w fun e w'=>e=.returned (.string ⟨(paB p).toArray⟩)∧Below w.heap.size w w':=by
 by_cases hp:p = -1
 ·subst hp
  have HP:Hid ((⟨#[45]⟩:ByteArray)=⟨(paB (-1)).toArray⟩):=by show _=_;unfold paB;rw [if_neg (by omega)]
  clear hE
  go_enter Tryz.func16,Tryz.ntmps16
  go_wp2_with fail
  go_ret
  exact ⟨by rw [←HP.out];rfl,Below.refl _ _⟩
 ·have HP:Hid (Lib.itoa p=paB p):=by show _=_;unfold paB;rw [if_pos (by omega)]
  have h:=itoaF p w (by omega) h1 hE
  have hp':(p == -1)=false:=by simpa using hp
  clear hE h0 h1
  go_enter Tryz.func16,Tryz.ntmps16
  go_wp2_with fail
  refine h.mono ?_
  rintro e w1 ⟨rfl,hb⟩
  go_wp2_with fail
  go_ret
  exact ⟨by rw [←HP.out];rfl,hb⟩
theorem sgt_any (x:Int) (w:World) (h0 : -1≤x) (h1:x≤1):Calls Tryz.prog 17 #[.int .i64 x] w fun e w'=>e=.returned (.string ⟨(sgT x).toArray⟩)∧Below w.heap.size w w':=by
 have h:x = -1∨x=0∨x=1:=by omega
 rcases h with rfl | rfl | rfl
 all_goals
  go_enter Tryz.func17,Tryz.ntmps17
  go_wp2_with fail
  go_ret
  exact ⟨rfl,Below.refl _ _⟩
theorem formt_any (s:ByteArray) (w:World) (hs:s.size≤1048576):Calls Tryz.prog 18 #[.string s] w fun e w'=>e=.returned (.string ⟨(foB s).toArray⟩)∧Below w.heap.size w w':=by
 cases hb:s.toList.isEmpty
 ·have HP:Hid ((⟨#[61]⟩ ++ s:ByteArray)=⟨(foB s).toArray⟩):=by
   show _=_
   unfold foB
   rw [hb,if_neg (by decide)]
   apply ByteArray.ext
   simp [ByteArray.data_append]
  have hadd : ¬ 9223372036854775807<1+s.size:=by omega
  go_enter Tryz.func18,Tryz.ntmps18
  go_wp2_with fail
  go_ret
  exact ⟨by rw [←HP.out];rfl,Below.refl _ _⟩
 ·have HP:Hid ((⟨#[]⟩:ByteArray)=⟨(foB s).toArray⟩):=by
   show _=_
   unfold foB
   rw [hb,if_pos rfl]
  have hb2:s.toList=[]:=List.isEmpty_iff.1 hb
  go_enter Tryz.func18,Tryz.ntmps18
  go_wp2_with fail
  go_ret
  exact ⟨by rw [←HP.out];rfl,Below.refl _ _⟩
end Go.Proofs.YtpoklbfffgpbiaaGreatDoor
namespace Go.Proofs.YtpoklbfffgpbiaaGreatDoor
open Go.ChangeShapes Go.WideShapes Go.ChangeAt Go.RowKit
set_option maxRecDepth 20000
theorem isnan_any (x:Int) (w:World):Calls Tryz.prog 105 #[.int .i64 x] w fun e w'=>e=.returned (.bool false)∧w'=w:=by
 go_enter Tryz.func105,Tryz.ntmps105
 go_wp2_with fail
 go_ret
 exact ⟨rfl,rfl⟩
def cmpI (x y:Int):Int:=if x<y then -1 else if y<x then 1 else 0
set_option maxHeartbeats 1000000 in
theorem compare_any (x y:Int) (w:World):Calls Tryz.prog 76 #[.int .i64 x,.int .i64 y] w fun e w'=>e=.returned (.int .i64 (cmpI x y))∧w'=w:=by
 have h1:=isnan_any x
 have h2:=isnan_any y
 by_cases hxy:x<y
 ·have HV:Hid (cmpI x y = -1):=by show _=_;unfold cmpI;rw [if_pos hxy]
  go_enter Tryz.func76,Tryz.ntmps76
  go_wp2_with fail
  refine (h1 _).mono ?_
  rintro e w1 ⟨rfl,rfl⟩
  go_wp2_with fail
  refine (h2 _).mono ?_
  rintro e w2 ⟨rfl,rfl⟩
  go_wp2_with fail
  go_ret
  rw [HV.out]
  exact ⟨rfl,rfl⟩
 ·by_cases hyx:y<x
  ·have HV:Hid (cmpI x y=1):=by show _=_;unfold cmpI;rw [if_neg hxy,if_pos hyx]
   go_enter Tryz.func76,Tryz.ntmps76
   go_wp2_with fail
   refine (h1 _).mono ?_
   rintro e w1 ⟨rfl,rfl⟩
   go_wp2_with fail
   refine (h2 _).mono ?_
   rintro e w2 ⟨rfl,rfl⟩
   go_wp2_with fail
   go_ret
   rw [HV.out]
   exact ⟨rfl,rfl⟩
  ·have HV:Hid (cmpI x y=0):=by show _=_;unfold cmpI;rw [if_neg hxy,if_neg hyx]
   have e:x=y:=by omega
   subst e
   go_enter Tryz.func76,Tryz.ntmps76
   go_wp2_with fail
   refine (h1 _).mono ?_
   rintro e w1 ⟨rfl,rfl⟩
   go_wp2_with fail
   refine (h2 _).mono ?_
   rintro e w2 ⟨rfl,rfl⟩
   go_wp2_with fail
   go_ret
   rw [HV.out]
   exact ⟨rfl,rfl⟩
set_option maxHeartbeats 2000000 in
theorem scompare_any (A B:Option Addr) (ca cb:Nat) (a b:List Int) (w:World) (ha:a.length≤4) (hb:b.length≤4) (hA:PlAt w A ca a) (hB:PlAt w B cb b):Calls Tryz.prog 48 #[.slice A a.length ca,.slice B b.length cb] w fun e w'=>e=.returned (.int .i64 (cmpL a b))∧w'=w:=by
 have HA:Hid (PlAt w A ca a):=hA
 have HB:Hid (PlAt w B cb b):=hB
 have HN:Hid (∀ k,k<a.length→k<b.length→cmpL (a.drop k) (b.drop k)=if a.getD k 0<b.getD k 0 then -1 else if b.getD k 0<a.getD k 0 then 1 else cmpL (a.drop (k+1)) (b.drop (k+1))):=fun k h1 h2=>cmpL_in h1 h2
 have HL:Hid (∀ k,k<a.length→b.length≤k→cmpL (a.drop k) (b.drop k)=1):=fun k h1 h2=>cmpL_long h1 h2
 have HS:Hid (∀ k,a.length≤k→k<b.length→cmpL (a.drop k) (b.drop k) = -1):=fun k h1 h2=>cmpL_short h1 h2
 have HE:Hid (∀ k,a.length≤k→b.length≤k→cmpL (a.drop k) (b.drop k)=0):=fun k h1 h2=>cmpL_end h1 h2
 obtain ⟨na,hna⟩:∃ na,a.length=na:=⟨_,rfl⟩
 obtain ⟨nb,hnb⟩:∃ nb,b.length=nb:=⟨_,rfl⟩
 have HNA:Hid (a.length=na):=hna
 have HNB:Hid (b.length=nb):=hnb
 rw [hna] at HN HL HS HE ha
 rw [hnb] at HN HL HS HE hb
 rw [hna,hnb]
 have ha':(na:Int)≤4:=by omega
 have hb':(nb:Int)≤4:=by omega
 clear hA hB hna hnb
 go_enter Tryz.func48,Tryz.ntmps48
 go_wp2_with fail
 go_loopg [11] na (fun g s11 wr => ∃ (k:Nat),k≤na∧k≤nb∧g=na-k∧s11=.int .i64 k∧Hid (cmpL (a.drop k) (b.drop k)=cmpL a b)∧wr=w)
 case atStart=>exact ⟨0,Nat.zero_le _,Nat.zero_le _,rfl,rfl,(rfl:cmpL (a.drop 0) (b.drop 0)=cmpL a b),rfl⟩
 case round =>
  obtain ⟨k,hk,hk2,rfl,rfl,HF,hw⟩:=hrel
  subst hw
  by_cases hlt:k<na
  ·obtain ⟨hc,h0 | ⟨g1,o1,rfl,hbw,hcell⟩⟩:=HA.out
   ·have:=HNA.out;rw [h0] at this;simp at this;omega
   have x1:=hcell k (by rw [HNA.out];exact hlt)
   have hki:(k:Int)<(na:Int):=by omega
   by_cases hlb:k<nb
   ·obtain ⟨hc',h0 | ⟨g2,o2,rfl,hbw2,hcell2⟩⟩:=HB.out
    ·have:=HNB.out;rw [h0] at this;simp at this;omega
    have x2:=hcell2 k (by rw [HNB.out];exact hlb)
    have hkb:(k:Int)<(nb:Int):=by omega
    have hst:=HN.out k hlt hlb
    have hcmp:=compare_any (a.getD k 0) (b.getD k 0) wr
    generalize a.getD k 0=x at x1 hst hcmp
    generalize b.getD k 0=y at x2 hst hcmp
    have HST:Hid (cmpL (a.drop k) (b.drop k)=if x<y then -1 else if y<x then 1 else cmpL (a.drop (k+1)) (b.drop (k+1))):=hst
    clear hcell hcell2 hst
    by_cases hxy:x<y
    ·have hv:cmpI x y = -1:=by unfold cmpI;rw [if_pos hxy]
     rw [hv] at hcmp
     have HR:Hid (cmpL a b = -1):=by show _=_;rw [←HF.out,HST.out,if_pos hxy]
     clear hv hxy
     go_wp2_with fail
     refine hcmp.mono ?_
     rintro e w1 ⟨rfl,rfl⟩
     go_wp2_with fail
     go_ret
     rw [HR.out]
     exact ⟨rfl,rfl⟩
    ·by_cases hyx:y<x
     ·have hv:cmpI x y=1:=by unfold cmpI;rw [if_neg hxy,if_pos hyx]
      rw [hv] at hcmp
      have HR:Hid (cmpL a b=1):=by show _=_;rw [←HF.out,HST.out,if_neg hxy,if_pos hyx]
      clear hv hxy hyx
      go_wp2_with fail
      refine hcmp.mono ?_
      rintro e w1 ⟨rfl,rfl⟩
      go_wp2_with fail
      go_ret
      rw [HR.out]
      exact ⟨rfl,rfl⟩
     ·have hv:cmpI x y=0:=by unfold cmpI;rw [if_neg hxy,if_neg hyx]
      rw [hv] at hcmp
      have HR:Hid (cmpL (a.drop (k+1)) (b.drop (k+1))=cmpL a b):=by show _=_;rw [←HF.out,HST.out,if_neg hxy,if_neg hyx]
      clear hv hxy hyx
      go_wp2_with fail
      refine hcmp.mono ?_
      rintro e w1 ⟨rfl,rfl⟩
      go_wp2_with fail
      go_roundg (na-(k+1))
      case measure=>omega
      case rel=>exact ⟨k+1,by omega,by omega,rfl,by go_num,HR,rfl⟩
   ·have HR:Hid (cmpL a b=1):=by show _=_;rw [←HF.out,HL.out k hlt (by omega)]
    have hkb:(nb:Int)≤(k:Int):=by omega
    clear hcell
    generalize a.getD k 0=x at x1
    go_wp2_with fail
    go_ret
    rw [HR.out]
    exact ⟨rfl,rfl⟩
  ·have hke:k=na:=by omega
   subst hke
   by_cases hlb:k<nb
   ·have HR:Hid (cmpL a b = -1):=by show _=_;rw [←HF.out,HS.out k (Nat.le_refl _) hlb]
    have hkb:(k:Int)<(nb:Int):=by omega
    go_wp2_with fail
    go_ret
    rw [HR.out]
    exact ⟨rfl,rfl⟩
   ·have HR:Hid (cmpL a b=0):=by show _=_;rw [←HF.out,HE.out k (Nat.le_refl _) (by omega)]
    have hkb:(nb:Int)≤(k:Int):=by omega
    go_wp2_with fail
    go_ret
    rw [HR.out]
    exact ⟨rfl,rfl⟩
theorem order_any (A B:Option Addr) (ca cb:Nat) (a b:List Int) (N:Int) (w:World) (ha:a.length≤4) (hb:b.length≤4) (hA:PlAt w A ca a) (hB:PlAt w B cb b):Calls Tryz.prog 28 #[.agg #[.slice A a.length ca,.int .i64 N],.slice B b.length cb] w fun e w'=>e=.returned (.int .i64 (cmpL a b))∧Below w.heap.size w w':=by
 have h0:∀ w',Below w.heap.size w w'→Calls Tryz.prog 48 #[.slice A a.length ca,.slice B b.length cb] w' fun e w''=>e=.returned (.int .i64 (cmpL a b))∧w''=w':=fun w' hw'=>scompare_any A B ca cb a b w' ha hb (hA.later hw') (hB.later hw')
 have H:Hid (∀ w',Below w.heap.size w w'→Calls Tryz.prog 48 #[.slice A a.length ca,.slice B b.length cb] w' fun e w''=>e=.returned (.int .i64 (cmpL a b))∧w''=w'):=h0
 generalize cmpL a b=c at H
 generalize a.length=na at H
 generalize b.length=nb at H
 clear hA hB h0 ha hb
 go_enter Tryz.func28,Tryz.ntmps28
 go_wp2_with fail
 refine (H.out _ (by go_grown)).mono ?_
 rintro e w1 ⟨rfl,rfl⟩
 go_wp2_with fail
 go_ret
 exact ⟨rfl,by go_grown⟩
end Go.Proofs.YtpoklbfffgpbiaaGreatDoor
