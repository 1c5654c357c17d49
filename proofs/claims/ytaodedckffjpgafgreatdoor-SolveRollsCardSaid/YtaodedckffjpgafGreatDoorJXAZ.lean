/-
  What package tree tells, as plain functions on plain data: the path of a member, its parts, its leafs, how a leaf counts in a member, how long paths are; and small facts on them.
-/
import Derived.Test.YtaodedckffjpgafGreatDoorJXAW
import Derived.Test.YtaodedckffjpgafGreatDoorJXAY
namespace Go.Proofs.YtaodedckffjpgafGreatDoor
def pth (M:Nat→Mem):Nat→Int→List Int
 | 0,_=>[]
 | f+1,i=>if i<0 then [] else i :: pth M f (M i.toNat).parent
def pathOf (M:Nat→Mem) (i:Int):List Int:=pth M (i.toNat+1) i
theorem pth_same {M:Nat→Mem} {n:Nat} (ht:Tr M n) (f:Nat):∀ (g:Nat) (i:Int),i<n→i<f→i<g→pth M f i=pth M g i:=by
 induction f with
 | zero =>
  intro g i _ h2 _
  have:i<0:=by omega
  cases g with
  | zero=>rfl
  | succ g=>simp [pth,this]
 | succ f ih =>
  intro g i h1 h2 h3
  cases g with
  | zero =>
   have:i<0:=by omega
   simp [pth,this]
  | succ g =>
   by_cases h0:i<0
   ·simp [pth,h0]
   ·simp only [pth,if_neg h0]
    have:=ht i.toNat (by omega)
    rw [ih g _ (by omega) (by omega) (by omega)]
theorem pathOf_neg {M:Nat→Mem} {i:Int} (h:i<0):pathOf M i=[]:=by simp [pathOf,pth,h]
theorem pathOf_cons {M:Nat→Mem} {n:Nat} (ht:Tr M n) {i:Nat} (h:i<n):pathOf M i=(i:Int) :: pathOf M (M i).parent:=by
 have:=ht i h
 unfold pathOf
 rw [show ((i:Int)).toNat=i by omega,pth,if_neg (by omega),show ((i:Int)).toNat=i by omega,pth_same ht i ((M i).parent.toNat+1) _ (by omega) (by omega) (by omega)]
theorem pathOf_len {M:Nat→Mem} {n:Nat} (ht:Tr M n) (k:Nat):∀ i:Int,i<n→i<k→(pathOf M i).length≤k:=by
 induction k with
 | zero=>intro i _ h;rw [pathOf_neg (by omega)];exact Nat.le_refl _
 | succ k ih =>
  intro i h1 h2
  by_cases h0:i<0
  ·rw [pathOf_neg h0];exact Nat.zero_le _
  ·obtain ⟨j,rfl⟩:∃ j:Nat,i=j:=⟨i.toNat,by omega⟩
   have:=ht j (by omega)
   rw [pathOf_cons ht (by omega),List.length_cons]
   have:=ih (M j).parent (by omega) (by omega)
   omega
theorem pathOf_mem {M:Nat→Mem} {n:Nat} (ht:Tr M n) (k:Nat):∀ i:Int,i<n→i<k→∀ j∈pathOf M i,0≤j∧j≤i:=by
 induction k with
 | zero=>intro i _ h j hj;rw [pathOf_neg (by omega)] at hj;cases hj
 | succ k ih =>
  intro i h1 h2 j hj
  by_cases h0:i<0
  ·rw [pathOf_neg h0] at hj;cases hj
  ·obtain ⟨q,rfl⟩:∃ q:Nat,i=q:=⟨i.toNat,by omega⟩
   have:=ht q (by omega)
   rw [pathOf_cons ht (by omega),List.mem_cons] at hj
   rcases hj with rfl | hj
   ·omega
   ·have:=ih (M q).parent (by omega) (by omega) j hj
    omega
def leafIn (M:Nat→Mem) (n:Nat) (i:Int) (k:Nat):Bool:=leafB M n k && inB (pathOf M k) i
def leafsOf (M:Nat→Mem) (n:Nat) (i:Int):List Int:=selTo (leafIn M n i) n
def wgt (M:Nat→Mem) (i:Int):List Int→Int→Int
 | [],_=>0
 | k :: t,a=>if k=i then a else wgt M i t (a*(M k.toNat).sign)
def weightOf (M:Nat→Mem) (i j:Int):Int:=wgt M i (pathOf M j) 1
theorem wgt_hit {M:Nat→Mem} {i:Int} (t:List Int) (a:Int):wgt M i (i :: t) a=a:=by simp [wgt]
theorem wgt_miss {M:Nat→Mem} {i k:Int} (h:k≠i) (t:List Int) (a:Int):wgt M i (k :: t) a=wgt M i t (a*(M k.toNat).sign):=by simp [wgt,h]
theorem wgt_out {M:Nat→Mem} {i:Int} (L:List Int) (h:i∉L):∀ a,wgt M i L a=0:=by
 induction L with
 | nil=>intro a;rfl
 | cons k t ih =>
  intro a
  simp only [List.mem_cons,not_or] at h
  rw [wgt_miss (fun e=>h.1 e.symm)]
  exact ih h.2 _
theorem small_mul {a b:Int} (ha : -1≤a∧a≤1) (hb : -1≤b∧b≤1) : -1≤a*b∧a*b≤1:=by
 rcases (show a = -1∨a=0∨a=1 by omega) with rfl | rfl | rfl <;> simp <;> omega
theorem wgt_small {M:Nat→Mem} {n:Nat} (hs:Sg M n) (i:Int) (L:List Int) (hL:∀ j∈L,0≤j∧j<n):∀ a,(-1≤a∧a≤1)→-1≤wgt M i L a∧wgt M i L a≤1:=by
 induction L with
 | nil=>intro a _;simp [wgt]
 | cons k t ih =>
  intro a ha
  by_cases hk:k=i
  ·subst hk;rw [wgt_hit];exact ha
  ·rw [wgt_miss hk]
   have:=hL k (List.mem_cons_self ..)
   exact ih (fun j hj=>hL j (List.mem_cons_of_mem _ hj)) _ (small_mul ha (hs k.toNat (by omega)))
theorem treeErr_two {d:Dm} {i j:Int} (h:(dimErr d).2=0):treeErr d [i,j]=if i<0∨(d.n:Int)≤i∨j<0∨(d.n:Int)≤j then 1 else 0:=by
 unfold treeErr rangeErr;rw [if_neg (by simpa using h)]
 by_cases h1:i<0∨(d.n:Int)≤i
 ·have e:i<0∨(d.n:Int)≤i∨j<0∨(d.n:Int)≤j:=by omega
  rw [if_pos e];simp [findFrom,h1]
 ·by_cases h2:j<0∨(d.n:Int)≤j
  ·have e:i<0∨(d.n:Int)≤i∨j<0∨(d.n:Int)≤j:=by omega
   rw [if_pos e];simp [findFrom,h1,h2]
  ·have e : ¬ (i<0∨(d.n:Int)≤i∨j<0∨(d.n:Int)≤j):=by omega
   rw [if_neg e];simp [findFrom,h1,h2]
end Go.Proofs.YtaodedckffjpgafGreatDoor
namespace Go.Proofs.YtaodedckffjpgafGreatDoor
open Go.ChangeShapes Go.WideShapes Go.ChangeAt Go.RowKit
set_option maxRecDepth 20000
set_option maxHeartbeats 2000000 in
theorem path_any (b o n cap i:Nat) (M:Nat→Mem) (w:World) (hn:n≤12) (hi:i<n) (ht:Tr M n) (hM:MemsAt w b o n M):Calls Tryz.prog 162 #[.slice (some ⟨b,o,none⟩) n cap,.int .i64 i] w fun e w'=>(∃ A c,e=.returned (.slice A (pathOf M i).length c)∧IntsAt w' A c (pathOf M i))∧Below w.heap.size w w':=by
 obtain ⟨i0,hi0,hz0,hz1,hz2⟩:=info_parts Tryz.infoInt
 have HM:Hid (MemsAt w b o n M):=hM
 have HT:Hid (Tr M n):=ht
 have HL:Hid ((pathOf M i).length≤12):=by have:=pathOf_len ht n i (by omega) (by omega);show _≤_;omega
 have hn':(n:Int)≤12:=by omega
 clear hM ht
 go_enter Tryz.func162,Tryz.ntmps162
 go_wp2_with fail
 go_loopg [1,5] (i+1) (fun g s1 s5 wr => ∃ (k:Int) (L:List Int),-1≤k∧k<n∧g=(k+1).toNat∧s1=.int .i64 k∧L ++ pathOf M k=pathOf M i∧wr.ownsRow w.heap.size 3 1 s5 L.length (mapI L)∧Below w.heap.size w wr)
 case atStart=>exact ⟨i,[],by omega,by omega,by omega,rfl,rfl,World.ownsRow_nil _ _ _ _,Below.refl _ _⟩
 case round =>
  obtain ⟨k,L,hk1,hk2,rfl,rfl,hf,hown,hBw⟩:=hrel
  have HF:Hid (L ++ pathOf M k=pathOf M i):=hf
  have HW:Hid (Below w.heap.size w wr):=hBw
  clear hf
  by_cases h0:0≤k
  ·obtain ⟨m,rfl⟩:∃ m:Nat,k=m:=⟨k.toNat,by omega⟩
   have hmn:m<n:=by omega
   have HC:Hid (pathOf M m=(m:Int) :: pathOf M (M m).parent):=pathOf_cons HT.out hmn
   have hlen:L.length+1≤12:=by
    have h1:=HL.out
    rw [←HF.out,HC.out,List.length_append,List.length_cons] at h1
    omega
   have hsz:=hBw.size
   have hp:=HT.out m hmn
   clear hBw
   go_wp2_with (at_builtin;refine wpList_append_own _ rfl _ _ 27 rfl w.heap.size 3 i0 (.int .i64 0) 1 8 Tryz.underlying27 hi0 hz0 hz1 hz2 rfl (by decide) _ _ _ rfl (hown.alloc _) ⟨wr.heap.size,0,none⟩ 1 1 [.int .i64 m] rfl rfl one_cell one_one (by unfold maxLen;omega) (by omega) (by simp;omega) ?_)
   intro v' w1 hown' hgrow _
   have HB1:Hid (Below w.heap.size w w1):=grown_own HW.out hown hgrow
   have HO1:Hid (w1.ownsRow w.heap.size 3 1 v' (L ++ [(m:Int)]).length (mapI (L ++ [(m:Int)]))):=by
    show World.ownsRow ..
    rw [mapI_snoc,List.length_append];exact hown'
   obtain ⟨-,h1,-,-⟩:=(HM.out.later HB1.out).2 m hmn
   clear hown' hgrow hown
   go_wp2_with fail
   go_roundg ((M m).parent+1).toNat
   case measure=>omega
   case rel=>exact ⟨(M m).parent,L ++ [(m:Int)],by omega,by omega,rfl,rfl,by rw [←HF.out,HC.out];simp,HO1.out,HB1.out⟩
  ·have hk:k<0:=by omega
   go_wp2_with fail
   go_ret
   have hL:L=pathOf M i:=by rw [←HF.out,pathOf_neg hk];simp
   rw [←hL]
   obtain ⟨A,c,h1,h2⟩:=ints_of hown
   exact ⟨⟨A,c,by rw [←h1];rfl,h2⟩,HW.out⟩
end Go.Proofs.YtaodedckffjpgafGreatDoor
namespace Go.Proofs.YtaodedckffjpgafGreatDoor
theorem parts_same {M:Nat→Mem} {f g:Int→Int×Int}:∀ (L:List Int) (c:Int×Int),(∀ k∈L,f k=g k)→L.foldl (partStep M f) c=L.foldl (partStep M g) c
 | [],_,_=>rfl
 | k :: r,c,h=>by
  have e:partStep M f c k=partStep M g c k:=by unfold partStep;rw [h k (List.mem_cons_self ..)]
  rw [List.foldl_cons,List.foldl_cons,e]
  exact parts_same r _ fun j hj=>h j (List.mem_cons_of_mem _ hj)
def atP (D:Nat→Dm) (n dim m x:Nat) (L:List (Int×Int)) (k:Int):Int×Int:=cAt L ((x:Int)+(k-(m:Int))*(stepD D n dim:Int))
theorem part_behind {M:Nat→Mem} {n:Nat} (ht:Tr M n) {m:Nat} {k:Int} (h:k∈partsOf M n (m:Int)):∃ j:Nat,k=j∧m<j∧j<n∧(M j).parent=(m:Int):=by
 obtain ⟨j,rfl,hj,hp⟩:=selTo_mem k h
 have h1:(M j).parent=(m:Int):=by simpa [partB] using hp
 have:=(ht j hj).2
 exact ⟨j,rfl,by omega,hj,h1⟩
end Go.Proofs.YtaodedckffjpgafGreatDoor
namespace Go.Proofs.YtaodedckffjpgafGreatDoor
open Go.ChangeShapes Go.WideShapes Go.ChangeAt Go.RowKit
set_option maxRecDepth 20000
set_option maxHeartbeats 2000000 in
theorem places_any (fn q r:Nat) (he:EntersO fn) (A:Option Addr) (n cap:Nat) (p:Nat→Bool) (w:World) (hn:n≤12) (hp:AskP fn q r w n p):Calls Tryz.prog 144 #[.slice A n cap,.func (.func fn) #[] #[.pointer (some ⟨q,0,none⟩),.pointer (some ⟨r,0,none⟩)]] w fun e w'=>(∃ A c,e=.returned (.slice A (selTo p n).length c)∧IntsAt w' A c (selTo p n))∧Below w.heap.size w w':=by
 obtain ⟨i0,hi0,hz0,hz1,hz2⟩:=info_parts Tryz.infoInt
 have HP:Hid (AskP fn q r w n p):=hp
 have hn':(n:Int)≤12:=by omega
 clear hp
 unfold EntersO at he
 go_enter Tryz.func144,Tryz.ntmps144
 go_wp2_with fail
 go_loopg [5,9] n (fun g s5 s9 wr => ∃ (k:Nat),k≤n∧g=n-k∧s9=.int .i64 k∧wr.ownsRow w.heap.size 3 1 s5 (selTo p k).length (mapI (selTo p k))∧Below w.heap.size w wr)
 case atStart=>exact ⟨0,Nat.zero_le _,rfl,rfl,World.ownsRow_nil _ _ _ _,Below.refl _ _⟩
 case round =>
  obtain ⟨k,hk,rfl,rfl,hown,hBw⟩:=hrel
  have HW:Hid (Below w.heap.size w wr):=hBw
  have HO:Hid (wr.ownsRow w.heap.size 3 1 _ (selTo p k).length (mapI (selTo p k))):=hown
  by_cases hlt:k<n
  ·have hki:(k:Int)<(n:Int):=by omega
   have hbd:=HP.out k wr hlt hBw
   clear hBw hown
   cases hb:p k
   ·rw [hb] at hbd
    have HK:Hid (p k=false):=hb
    clear hb
    go_wp2_with fail
    refine hbd.mono ?_
    rintro e w1 ⟨rfl,hb1⟩
    go_wp2_with fail
    go_roundg (n-(k+1))
    case measure=>omega
    case rel=>exact ⟨k+1,by omega,rfl,by go_num,by rw [selTo_miss HK.out];exact own_later HO.out hb1,onB HW.out hb1⟩
   ·rw [hb] at hbd
    have HK:Hid (p k=true):=hb
    have hlen:=selTo_len p k
    clear hb
    go_wp2_with fail
    refine hbd.mono ?_
    rintro e w1 ⟨rfl,hb1⟩
    have hown:=own_later HO.out hb1
    have hB1:=onB HW.out hb1
    have hsz:=hB1.size
    have HB1:Hid (Below w.heap.size w w1):=hB1
    clear hb1 hB1
    go_wp2_with (at_builtin;refine wpList_append_own _ rfl _ _ 27 rfl w.heap.size 3 i0 (.int .i64 0) 1 8 Tryz.underlying27 hi0 hz0 hz1 hz2 rfl (by decide) _ _ _ rfl (hown.alloc _) ⟨w1.heap.size,0,none⟩ 1 1 [.int .i64 k] rfl rfl one_cell one_one (by unfold maxLen;omega) (by omega) (by simp;omega) ?_)
    intro v' w2 hown' hgrow _
    have HB2:Hid (Below w.heap.size w w2):=grown_own HB1.out hown hgrow
    have HO2:Hid (w2.ownsRow w.heap.size 3 1 v' (selTo p (k+1)).length (mapI (selTo p (k+1)))):=by
     show World.ownsRow ..
     rw [selTo_hit HK.out,mapI_snoc,List.length_append];exact hown'
    clear hown' hgrow hown
    go_wp2_with fail
    go_roundg (n-(k+1))
    case measure=>omega
    case rel=>exact ⟨k+1,by omega,rfl,by go_num,HO2.out,HB2.out⟩
  ·have hke:k=n:=by omega
   subst hke
   clear hBw hown
   go_wp2_with fail
   go_ret
   obtain ⟨A,c,h1,h2⟩:=ints_of HO.out
   exact ⟨⟨A,c,by rw [←h1];rfl,h2⟩,HW.out⟩
theorem drop_at {L:List Int} {k:Nat} (h:k<L.length):L.drop k=L.getD k 0 :: L.drop (k+1):=by
 rw [List.drop_eq_getElem_cons h];simp [List.getD,List.getElem?_eq_getElem h]
theorem getD_mem {L:List Int} {k:Nat} (h:k<L.length):L.getD k 0∈L:=by
 simp [List.getD,List.getElem?_eq_getElem h]
set_option maxHeartbeats 2000000 in
theorem weight_any (b o n cap j:Nat) (i:Int) (M:Nat→Mem) (w:World) (hn:n≤12) (hj:j<n) (ht:Tr M n) (hs:Sg M n) (hM:MemsAt w b o n M):Calls Tryz.prog 132 #[.slice (some ⟨b,o,none⟩) n cap,.int .i64 i,.int .i64 j] w fun e w'=>e=.returned (.int .i64 (weightOf M i j))∧Below w.heap.size w w':=by
 have hpl:=path_any b o n cap j M w hn hj ht hM
 have HM:Hid (MemsAt w b o n M):=hM
 have HS:Hid (Sg M n):=hs
 have hln:(pathOf M j).length≤12:=by have:=pathOf_len ht n j (by omega) (by omega);omega
 have HI:Hid (∀ x∈pathOf M j,0≤x∧x<n):=fun x hx=>by have:=pathOf_mem ht n j (by omega) (by omega) x hx;omega
 have HW:Hid (wgt M i (pathOf M j) 1=weightOf M i j):=rfl
 generalize pathOf M j=L at hpl hln HI HW
 clear hM ht hs
 go_enter Tryz.func132,Tryz.ntmps132
 go_wp2_with fail
 refine hpl.mono ?_
 rintro e w1 ⟨⟨A,c,rfl,hI⟩,hb1⟩
 have HB1:Hid (Below w.heap.size w w1):=hb1
 have hM1:=HM.out.later hb1
 have hbw:=hM1.1
 have HMs:Hid (MemsAt w1 b o n M):=hM1
 have HL:Hid (IntsAt w1 A c L):=hI
 clear hb1 hpl hM1 hI
 go_wp2_with fail
 go_loopg [7,14] L.length (fun g s7 s14 wr => ∃ (k:Nat) (a:Int),k≤L.length∧g=L.length-k∧s14=.int .i64 k∧s7=.int .i64 a∧(-1≤a∧a≤1)∧wgt M i (L.drop k) a=wgt M i L 1∧wr=w1)
 case atStart=>exact ⟨0,1,Nat.zero_le _,rfl,rfl,rfl,by omega,rfl,rfl⟩
 case round =>
  obtain ⟨k,a,hk,rfl,rfl,rfl,ha,hf,rfl⟩:=hrel
  have HF:Hid (wgt M i (L.drop k) a=wgt M i L 1):=hf
  clear hf
  by_cases hlt:k<L.length
  ·obtain ⟨hc,h0 | ⟨g,rfl,hg,hcell⟩⟩:=HL.out
   ·rw [h0] at hlt;cases hlt
   have hx:=HI.out _ (getD_mem hlt)
   have HD:Hid (L.drop k=L.getD k 0 :: L.drop (k+1)):=drop_at hlt
   have hcx:=hcell k hlt
   generalize L.getD k 0=x at hx HD hcx
   obtain ⟨m,rfl⟩:∃ m:Nat,x=m:=⟨x.toNat,by omega⟩
   have hmn:m<n:=by omega
   have hki:(k:Int)<(L.length:Int):=by omega
   have hln':(L.length:Int)≤12:=by omega
   have hn':(n:Int)≤12:=by omega
   have hmi:(m:Int)<(n:Int):=by omega
   clear hcell hx
   by_cases hq:(m:Int)=i
   ·subst hq
    have HR:Hid (a=weightOf M m j):=by show _=_;rw [←HW.out,←HF.out,HD.out,wgt_hit]
    go_wp2_with fail
    go_ret
    exact ⟨by rw [←HR.out];rfl,HB1.out⟩
   ·have hq':((m:Int) == i)=false:=by simpa using hq
    obtain ⟨-,-,h2,-⟩:=HMs.out.2 m hmn
    have hsm:=HS.out m hmn
    have hmul:=small_mul ha hsm
    have HR:Hid (wgt M i (L.drop (k+1)) (a*(M m).sign)=wgt M i L 1):=by show _=_;rw [←HF.out,HD.out,wgt_miss hq];rfl
    have HMul:Hid (-1≤a*(M m).sign∧a*(M m).sign≤1):=hmul
    clear hq
    go_wp2_with fail
    go_roundg (L.length-(k+1))
    case measure=>omega
    case rel=>exact ⟨k+1,a*(M m).sign,by omega,rfl,by go_num,by go_num,HMul.out,HR.out,rfl⟩
  ·have hke:k=L.length:=by omega
   have HR:Hid (0=weightOf M i j):=by show _=_;rw [←HW.out,←HF.out,hke,List.drop_length];rfl
   subst hke
   go_wp2_with fail
   go_ret
   exact ⟨by rw [←HR.out];rfl,HB1.out⟩
end Go.Proofs.YtaodedckffjpgafGreatDoor
namespace Go.Proofs.YtaodedckffjpgafGreatDoor
def sumTo (f:Nat→Nat):Nat→Nat
 | 0=>0
 | k+1=>sumTo f k+f k
theorem sumTo_congr {f g:Nat→Nat} {n:Nat} (h:∀ k,k<n→f k=g k):sumTo f n=sumTo g n:=by
 induction n with
 | zero=>rfl
 | succ n ih=>rw [sumTo,sumTo,ih fun k hk=>h k (by omega),h n (by omega)]
theorem sumTo_add (f g:Nat→Nat) (n:Nat):sumTo (fun k=>f k+g k) n=sumTo f n+sumTo g n:=by
 induction n with
 | zero=>rfl
 | succ n ih=>rw [sumTo,sumTo,sumTo,ih];omega
theorem sumTo_zero {f:Nat→Nat} {n:Nat} (h:∀ k,k<n→f k=0):sumTo f n=0:=by
 induction n with
 | zero=>rfl
 | succ n ih=>rw [sumTo,ih fun k hk=>h k (by omega),h n (by omega)]
theorem sumTo_single {f:Nat→Nat} {n k:Nat} (hk:k<n) (h:∀ j,j<n→j≠k→f j=0):sumTo f n=f k:=by
 induction n with
 | zero=>omega
 | succ n ih =>
  rw [sumTo]
  by_cases e:k=n
  ·subst e;rw [sumTo_zero fun j hj=>h j (by omega) (by omega)];omega
  ·rw [ih (by omega) fun j hj=>h j (by omega),h n (by omega) (fun x=>e x.symm)];rfl
theorem one_false:one false=0:=rfl
theorem inB_true {L:List Int} {i:Int}:inB L i=true↔i∈L:=by simp [inB]
theorem inB_false {L:List Int} {i:Int}:inB L i=false↔i∉L:=by simp [inB]
theorem steps_one {M:Nat→Mem} {n:Nat} (ht:Tr M n) {i:Nat} (f:Nat):∀ k:Nat,k<n→k<f→sumTo (fun p=>one (partB M i p && inB (pathOf M k) p)) n=one (inB (pathOf M k) i && !decide (k=i)):=by
 induction f with
 | zero=>intro k _ h;omega
 | succ f ih =>
  intro k hk hf
  have hp:=ht k hk
  have hc:=pathOf_cons ht hk
  have hnk:∀ j∈pathOf M (M k).parent,0≤j∧j≤(M k).parent:=pathOf_mem ht k _ (by omega) (by omega)
  have e:∀ p,p<n→one (partB M i p && inB (pathOf M k) p)=one (decide (p=k) && partB M i k)+one (partB M i p && inB (pathOf M (M k).parent) p):=by
   intro p _
   by_cases h:p=k
   ·subst h
    have h1:inB (pathOf M p) p=true:=by rw [inB_true,hc];exact List.mem_cons_self ..
    have h2:inB (pathOf M (M p).parent) p=false:=by rw [inB_false];intro h;have:=hnk _ h;omega
    rw [h1,h2];simp [one_false]
   ·have h1:inB (pathOf M k) p=inB (pathOf M (M k).parent) p:=by
     unfold inB;rw [decide_eq_decide,hc,List.mem_cons]
     constructor
     ·rintro (h3 | h3)
      ·omega
      ·exact h3
     ·exact Or.inr
    rw [h1];simp [h,one_false]
  rw [sumTo_congr e,sumTo_add,sumTo_single (f:=fun p=>one (decide (p=k) && partB M i k)) hk (fun j _ hj=>by simp [hj,one_false])]
  have hik:(inB (pathOf M k) i && !decide (k=i))=inB (pathOf M (M k).parent) i:=by
   by_cases h:k=i
   ·subst h
    have h2:inB (pathOf M (M k).parent) k=false:=by rw [inB_false];intro h;have:=hnk _ h;omega
    rw [h2];simp
   ·have h1:inB (pathOf M k) i=inB (pathOf M (M k).parent) i:=by
     unfold inB;rw [decide_eq_decide,hc,List.mem_cons]
     constructor
     ·rintro (h3 | h3)
      ·omega
      ·exact h3
     ·exact Or.inr
    rw [h1];simp [h]
  rw [hik]
  by_cases h0:(M k).parent<0
  ·rw [pathOf_neg h0,sumTo_zero (fun p _=>by simp [inB,one])]
   have:partB M i k=false:=by simp [partB];omega
   simp [this,inB,one]
  ·obtain ⟨q,hq⟩:∃ q:Nat,(M k).parent=q:=⟨(M k).parent.toNat,by omega⟩
   rw [hq,ih q (by omega) (by omega)]
   by_cases h:q=i
   ·subst h
    have h1:partB M q k=true:=by simp [partB,hq]
    have h2:inB (pathOf M q) q=true:=by rw [inB_true,pathOf_cons ht (by omega)];exact List.mem_cons_self ..
    rw [h1,h2];simp [one]
   ·have h1:partB M i k=false:=by simp [partB,hq];omega
    rw [h1];simp [h,one]
theorem part_has {M:Nat→Mem} {n:Nat} (ht:Tr M n) {i:Nat} (f:Nat):∀ k:Nat,k<n→k<f→k≠i→(i:Int)∈pathOf M k→∃ p,p<n∧partB M i p=true:=by
 induction f with
 | zero=>intro k _ h;omega
 | succ f ih =>
  intro k hk hf hne hm
  have hp:=ht k hk
  rw [pathOf_cons ht hk,List.mem_cons] at hm
  rcases hm with hm | hm
  ·omega
  ·by_cases h0:(M k).parent<0
   ·rw [pathOf_neg h0] at hm;cases hm
   ·obtain ⟨q,hq⟩:∃ q:Nat,(M k).parent=q:=⟨(M k).parent.toNat,by omega⟩
    by_cases h:q=i
    ·exact ⟨k,hk,by simp [partB,hq,h]⟩
    ·rw [hq] at hm
     exact ih q (by omega) (by omega) h hm
theorem leaf_noparts {M:Nat→Mem} {n i:Nat} (hl:leafB M n i=true):∀ p,p<n→partB M i p=false:=by
 unfold leafB at hl
 simp only [Bool.and_eq_true,Bool.not_eq_true',decide_eq_false_iff_not] at hl
 intro p hp
 cases h:partB M i p
 ·rfl
 ·exact absurd (findFrom_nonneg (q:=partB M i) hp h) hl.2
theorem leaf_parts {M:Nat→Mem} {n i:Nat} (hl:leafB M n i=true):partsOf M n i=[]:=selTo_none (leaf_noparts hl)
theorem part_weight {M:Nat→Mem} {n:Nat} (ht:Tr M n) {p i:Nat} (hp:p<n) (hpi:(M p).parent=i) (f:Nat):∀ (l:Nat) (a:Int),l<n→l<f→(p:Int)∈pathOf M l→wgt M i (pathOf M l) a=wgt M p (pathOf M l) a*(M p).sign:=by
 induction f with
 | zero=>intro l _ _ h;omega
 | succ f ih =>
  intro l a hl hf hm
  have h1:=ht l hl
  have h2:=ht p hp
  rw [pathOf_cons ht hl] at hm ⊢
  by_cases h:l=p
  ·subst h
   rw [wgt_hit,wgt_miss (by omega),hpi,pathOf_cons ht (by omega),wgt_hit]
   simp
  ·rcases List.mem_cons.1 hm with hm | hm
   ·omega
   ·have h3:=pathOf_mem ht l (M l).parent (by omega) (by omega) _ hm
    rw [wgt_miss (by omega),wgt_miss (by omega)]
    obtain ⟨q,hq⟩:∃ q:Nat,(M l).parent=q:=⟨(M l).parent.toNat,by omega⟩
    rw [hq] at hm ⊢
    exact ih q _ (by omega) (by omega) hm
def inTo (D:Nat→Dm) (p q:List Int):Nat→Bool
 | 0=>true
 | k+1=>inTo D p q k && inB (pathOf (D k).mem (q.getD k 0)) (p.getD k 0)
def pwTo (D:Nat→Dm) (p q:List Int):Nat→Int
 | 0=>1
 | k+1=>pwTo D p q k*weightOf (D k).mem (p.getD k 0) (q.getD k 0)
theorem pwTo_out {D:Nat→Dm} {p q:List Int} {k:Nat} (h:inTo D p q k=false):pwTo D p q k=0:=by
 induction k with
 | zero=>simp [inTo] at h
 | succ k ih =>
  simp only [inTo,Bool.and_eq_false_iff] at h
  rcases h with h | h
  ·rw [pwTo,ih h,Int.zero_mul]
  ·have h1:p.getD k 0∉pathOf (D k).mem (q.getD k 0):=by unfold inB at h;exact of_decide_eq_false h
   rw [pwTo,weightOf,wgt_out _ h1,Int.mul_zero]
theorem weight_small {D:Nat→Dm} {n:Nat} {q:List Int} (hq:InO D n q) {k:Nat} (hk:k<n) (i:Int) : -1≤weightOf (D k).mem i (q.getD k 0)∧weightOf (D k).mem i (q.getD k 0)≤1:=by
 have hd:=(allErr_right hq.right).2 k hk
 have hlo:=hq.lo k hk
 have hhi:=hq.hi k hk
 have ht:Tr (D k).mem (D k).n:=Tr.of hd
 refine wgt_small (Sg.of hd) i _ (fun j hj=>?_) 1 (by omega)
 have:=pathOf_mem ht (D k).n (q.getD k 0) hhi hhi j hj
 omega
theorem pwTo_small {D:Nat→Dm} {n:Nat} {q:List Int} (hq:InO D n q) (p:List Int):∀ k,k≤n→-1≤pwTo D p q k∧pwTo D p q k≤1
 | 0,_=>by simp [pwTo]
 | k+1,hk=>by
  rw [pwTo]
  exact small_mul (pwTo_small hq p k (by omega)) (weight_small hq (by omega) _)
def cntR (D:Nat→Dm) (n:Nat) (p:List Int) (e:En):Bool:=inTo D p e.pl n && !(pwTo D p e.pl n == 0)
def valR (D:Nat→Dm) (n:Nat) (p:List Int) (e:En):Int:=pwTo D p e.pl n*e.n
def rollN (D:Nat→Dm) (n:Nat) (p:List Int):List En→Int
 | []=>0
 | e :: r=>(if cntR D n p e=true then valR D n p e else 0)+rollN D n p r
def rollK (D:Nat→Dm) (n:Nat) (p:List Int) (l:List En):Int:=if l.any (cntR D n p)=true then 1 else 0
def rollV (D:Nat→Dm) (n:Nat) (l:List En) (p:List Int):Int×Int:=(rollK D n p l,rollN D n p l)
def rollStep (D:Nat→Dm) (n:Nat) (p:List Int) (c:Int×Int) (e:En):Int×Int:=if cntR D n p e=true then (1,c.2+valR D n p e) else c
theorem roll_steps (D:Nat→Dm) (n:Nat) (p:List Int) (l:List En):∀ c:Int×Int,l.foldl (rollStep D n p) c=(if l.any (cntR D n p)=true then 1 else c.1,c.2+rollN D n p l):=by
 induction l with
 | nil=>intro c;simp [rollN]
 | cons e r ih =>
  intro c
  rw [List.foldl_cons,ih,rollStep,rollN,List.any_cons]
  by_cases h:cntR D n p e=true
  ·simp only [h,Bool.true_or,if_true]
   refine Prod.ext ?_ (by simp only;omega)
   simp only
   split <;> rfl
  ·simp only [h,Bool.false_eq_true,if_false] at *
   simp
theorem roll_fold (D:Nat→Dm) (n:Nat) (l:List En) (p:List Int):l.foldl (rollStep D n p) (0,0)=rollV D n l p:=by
 rw [roll_steps]
 unfold rollV rollK
 simp
theorem rollN_append (D:Nat→Dm) (n:Nat) (p:List Int) (a b:List En):rollN D n p (a ++ b)=rollN D n p a+rollN D n p b:=by
 induction a with
 | nil=>simp [rollN]
 | cons e r ih=>rw [List.cons_append,rollN,rollN,ih];omega
theorem roll_bound {D:Nat→Dm} {n:Nat} (p:List Int):∀ l:List En,(∀ e∈l,InO D n e.pl∧leafV D n e.pl=true∧numOk e.n=true)→-1000000*(l.length:Int)≤rollN D n p l∧rollN D n p l≤1000000*(l.length:Int)
 | [],_=>by simp [rollN]
 | e :: r,h=>by
  obtain ⟨h1,-,h2⟩:=h e (List.mem_cons_self ..)
  have ih:=roll_bound p r fun x hx=>h x (List.mem_cons_of_mem _ hx)
  have hw:=pwTo_small h1 p n (Nat.le_refl _)
  have hn : -1000000≤e.n∧e.n≤1000000:=by simpa [numOk] using h2
  have hv : -1000000≤valR D n p e∧valR D n p e≤1000000:=by
   unfold valR
   have h3:pwTo D p e.pl n = -1∨pwTo D p e.pl n=0∨pwTo D p e.pl n=1:=by omega
   rcases h3 with h3 | h3 | h3 <;> rw [h3] <;> omega
  rw [rollN,List.length_cons]
  split <;> omega
end Go.Proofs.YtaodedckffjpgafGreatDoor
namespace Go.Proofs.YtaodedckffjpgafGreatDoor
open Go Go.ChangeShapes Go.WideShapes Go.ChangeAt Go.RowKit Go.Deep
set_option maxRecDepth 100000
theorem open_list {H:Type} {enc:TypeId×Value→H} {w:World} {held:Bool} {r:Reach} {b0:Nat} {v:Value} {d:DataW H} {p:List MemPlace} (hv:Value.okWide Tryz.prog w r b0 27 v) (h:DataW.Trod enc Tryz.prog w 0 (fun _=>true) held 27 v d p) :
  ∃ (Ap:Option Addr) (cp:Nat) (L:List Int),v=.slice Ap L.length cp∧PlAt w Ap cp L:=by
 obtain ⟨a,len,cap,rfl⟩:=okWide_slice Tryz.underlying27 hv
 obtain ⟨fuel,hf⟩:=h
 have hf':DataW.trod enc Tryz.prog w 0 (fun _=>true) held fuel 27 [.slice a len cap]=some (d,p):=hf
 rcases open_ints Tryz.underlying27 Tryz.underlying3 (by kernel_rfl) hf' with ⟨e,_⟩ | ⟨a',len',cap',zs,e,_,hl,_,hzl,_,hc,_⟩
 ·simp at e
  obtain ⟨rfl,rfl,rfl⟩:=e
  exact ⟨none,0,[],rfl,PlAt.nil _ _ _⟩
 ·simp at e hzl
  obtain ⟨rfl,rfl,rfl⟩:=e
  have hlen:(zs.take len).length=len:=by simp;omega
  refine ⟨some a',cap,zs.take len,by rw [hlen],by rw [hlen];exact hl,?_⟩
  rcases Nat.eq_zero_or_pos len with h0 | h0
  ·left
   subst h0
   simp
  right
  have c0:=hc 0 (by omega)
  have hp:=addr_plain c0 rfl
  have hb:=World.block_lt_of_cell? _ _ c0
  refine ⟨a'.block,a'.off,by rw [←hp],by simpa [Addr.add] using hb,fun j hj=>?_⟩
  rw [hlen] at hj
  have:=hc j (by omega)
  rw [hp,plain_add] at this
  rw [this]
  simp [List.getD,hj]
end Go.Proofs.YtaodedckffjpgafGreatDoor
