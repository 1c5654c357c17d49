/-
  What reach of package rules answers, in whatever memory: all that a member needs, that these need, and so on.
-/
import Derived.Laws.CopyRow
import Derived.Laws.CopyOwn
import Derived.Laws.IdiomCopy
import Derived.Deep.CutBlock
import Derived.Test.YtfngmnhkhfgmjagGreatDoorJDAS
namespace Go.Proofs.YtfngmnhkhfgmjagGreatDoor
open Go.ChangeShapes Go.WideShapes Go.ChangeAt Go.RowKit
set_option maxRecDepth 20000
def RInv (N:List (List Int)) (i:Nat) (L:List Int) (k:Nat):Prop:=L.Nodup∧(∀ x∈L,Rch N i x)∧(∀ x∈N.getD i [],x∈L)∧∀ j,j<k→∀ y∈rowN N (L.getD j 0),y∈L
theorem rinv_start {N:List (List Int)} {i:Nat} (h:(N.getD i []).Nodup):RInv N i (N.getD i []) 0 :=
 ⟨h,fun x hx=>.one (by unfold rowN;simpa using hx),fun _ h=>h,fun j hj=>absurd hj (Nat.not_lt_zero _)⟩
theorem rinv_in {N:List (List Int)} {i:Nat} {L:List Int} {k:Nat} (h:RInv N i L k) (hN:Inn N) (hi:i<N.length):∀ x∈L,0≤x∧x<(N.length:Int):=fun x hx=>(h.2.1 x hx).inn hN (by omega) (by omega)
theorem rinv_len {N:List (List Int)} {i:Nat} {L:List Int} {k:Nat} (h:RInv N i L k) (hN:Inn N) (hi:i<N.length):L.length≤N.length:=few _ _ h.1 (rinv_in h hN hi)
theorem rinv_end {N:List (List Int)} {i:Nat} {L:List Int} (h:RInv N i L L.length):∀ x,x∈L↔Rch N i x:=fun x=>by
 refine ⟨h.2.1 x,fun hr=>hr.closed (S:=fun y=>y∈L) (fun y hy=>h.2.2.1 y (by unfold rowN at hy;simpa using hy)) fun y hy z hz=>?_⟩
 obtain ⟨j,hj,rfl⟩:=List.getElem_of_mem hy
 refine h.2.2.2 j hj z ?_
 rw [List.getD_eq_getElem?_getD,List.getElem?_eq_getElem hj]
 exact hz
theorem getD_app {L T:List Int} {j:Nat} (h:j<L.length):(L ++ T).getD j 0=L.getD j 0:=by
 rw [List.getD_eq_getElem?_getD,List.getD_eq_getElem?_getD,List.getElem?_append_left h]
theorem rinv_put {N:List (List Int)} {i:Nat} {L:List Int} {k:Nat} {x:Int} (h:RInv N i L k) (hk:k≤L.length) (hx:x∉L) (hr:Rch N i x):RInv N i (L ++ [x]) k:=by
 refine ⟨?_,fun y hy=>?_,fun y hy=>List.mem_append_left _ (h.2.2.1 y hy),fun j hj y hy=>?_⟩
 ·rw [List.nodup_append]
  refine ⟨h.1,by simp,fun a ha b hb e=>?_⟩
  rw [List.mem_singleton.1 hb] at e
  exact hx (e ▸ ha)
 ·rcases List.mem_append.1 hy with hy | hy
  ·exact h.2.1 y hy
  ·rw [List.mem_singleton.1 hy];exact hr
 ·rw [getD_app (by omega)] at hy
  exact List.mem_append_left _ (h.2.2.2 j hj y hy)
theorem rinv_next {N:List (List Int)} {i:Nat} {L:List Int} {k:Nat} (h:RInv N i L k) (hy:∀ y∈rowN N (L.getD k 0),y∈L):RInv N i L (k+1) :=
 ⟨h.1,h.2.1,h.2.2.1,fun j hj y hyj=>by
  by_cases e:j=k
  ·rw [e] at hyj;exact hy y hyj
  ·exact h.2.2.2 j (by omega) y hyj⟩
theorem mem_at {L:List Int} {j:Nat} (h:j<L.length):L.getD j 0∈L:=by
 rw [List.getD_eq_getElem?_getD,List.getElem?_eq_getElem h]
 exact List.getElem_mem h
set_option maxHeartbeats 4000000 in
theorem rureach_any (A:Option Addr) (cap:Nat) (xs:List RL) (i:Nat) (w:World) (hn:xs.length≤12) (hi:i<xs.length) (hN:Inn (lR xs)) (hnd:∀ x∈xs,x.p.Nodup∧x.p.length≤12) (hR:RowsV w A cap xs) :
  Calls Tryz.prog 176 #[.slice A xs.length cap,.int .i64 i] w fun e w'=>(∃ A' c' L,e=.returned (.slice A' L.length c')∧IntsAt w' A' c' L∧L.length≤12∧∀ x,x∈L↔Rch (lR xs) i x)∧Below w.heap.size w w':=by
 obtain ⟨i0,hi0,hz0,hz1,hz2⟩:=info_parts Tryz.infoInt
 have HR:Hid (RowsV w A cap xs):=hR
 have HNd:Hid (∀ x∈xs,x.p.Nodup∧x.p.length≤12):=hnd
 have HIn:Hid (Inn (lR xs)):=hN
 have HLen:Hid ((lR xs).length=xs.length):=lR_len xs
 obtain ⟨hcap,h0 | ⟨b,rfl,hbw,hcell⟩,hrows⟩:=hR
 ·rw [h0] at hi;simp at hi
 have hci:=hcell i hi
 have hri:=hrows _ (rl_mem hi)
 have hni:=hnd _ (rl_mem hi)
 have HC:Hid (∀ k,k<xs.length→w.cell? ⟨b,k,none⟩=some (.slice (xs.getD k noR).A (xs.getD k noR).p.length (xs.getD k noR).c)):=hcell
 have HRw:Hid (∀ x∈xs,IntT w x.A x.c x.p):=hrows
 have HSt:Hid (RInv (lR xs) i (xs.getD i noR).p 0):=by
  have h:=rinv_start (N:=lR xs) (i:=i) (by rw [lR_at];exact hni.1)
  rw [lR_at] at h
  exact h
 have hcl:=iclone_any (xs.getD i noR).A (xs.getD i noR).c (xs.getD i noR).p w hni.2 hri
 obtain ⟨n,hnn⟩:∃ n,xs.length=n:=⟨_,rfl⟩
 have HX:Hid (xs.length=n):=hnn
 rw [hnn] at hn hi hcap ⊢
 have hii:(i:Int)<(n:Int):=by omega
 have hnI:(n:Int)≤12:=by omega
 obtain ⟨pi,hpi⟩:∃ pi,(xs.getD i noR).p=pi:=⟨_,rfl⟩
 rw [hpi] at hci hcl HSt
 generalize (xs.getD i noR).A=Ai at hci hcl
 generalize (xs.getD i noR).c=ci at hci hcl
 clear hcell hrows hnd hN hri hni hpi hnn
 go_enter Tryz.func176,Tryz.ntmps176
 go_wp2_with fail
 refine hcl.mono ?_
 rintro e w1 ⟨⟨v1,rfl,hO1⟩,hb1⟩
 have HO1:Hid (w1.ownsRow w.heap.size 3 1 v1 pi.length (mapI pi)):=hO1
 have HB1:Hid (Below w.heap.size w w1):=hb1
 clear hO1 hb1 hcl hci
 go_wp2_with fail
 go_loopg [5,6] n (fun g s5 s6 wr => ∃ (k:Nat) (L:List Int),k≤L.length∧g=n-k∧s6=.int .i64 k∧Hid (RInv (lR xs) i L k)∧wr.ownsRow w.heap.size 3 1 s5 L.length (mapI L)∧Below w.heap.size w wr)
 case atStart=>exact ⟨0,pi,Nat.zero_le _,rfl,rfl,HSt,HO1.out,HB1.out⟩
 case round =>
  obtain ⟨k,L,hk,rfl,rfl,HI,hown,hBw⟩:=hrel
  have HBw:Hid (Below w.heap.size w wr):=hBw
  have HO:Hid (wr.ownsRow w.heap.size 3 1 u5 L.length (mapI L)):=hown
  have hLn:L.length≤n:=by rw [←HX.out,←HLen.out];exact rinv_len HI.out HIn.out (by rw [HLen.out,HX.out];exact hi)
  obtain ⟨AL,cL,rfl,hIL⟩:=intT_own hown
  obtain ⟨m,hm⟩:∃ m,L.length=m:=⟨_,rfl⟩
  have HM:Hid (L.length=m):=hm
  have hmI:(m:Int)≤12:=by omega
  rw [hm] at hk hLn
  rw [hm]
  by_cases hlt:k<m
  ·have hki:(k:Int)<(m:Int):=by omega
   obtain ⟨hcL,-,hL0 | ⟨bl,cs,fr,rfl,hbl,hcl⟩⟩:=hIL
   ·rw [hL0] at hm;simp at hm;omega
   have cx:=hcl k (by omega)
   have hx:=rinv_in HI.out HIn.out (by rw [HLen.out,HX.out];exact hi) _ (mem_at (L:=L) (j:=k) (by omega))
   rw [HLen.out,HX.out] at hx
   obtain ⟨y,hy⟩:∃ y:Nat,L.getD k 0=(y:Int):=⟨(L.getD k 0).toNat,by omega⟩
   have HY:Hid (L.getD k 0=(y:Int)):=hy
   rw [hy] at cx hx
   have hyn:y<n:=by omega
   have hyi:(y:Int)<(n:Int):=by omega
   have cy:=(hBw.cell (p:=⟨b,y,none⟩) hbw).trans (HC.out y (by rw [HX.out];exact hyn))
   have HRy:Hid (IntT w (xs.getD y noR).A (xs.getD y noR).c (xs.getD y noR).p):=HRw.out _ (rl_mem (by rw [HX.out];exact hyn))
   have hry:=(HNd.out _ (rl_mem (k:=y) (by rw [HX.out];exact hyn))).2
   have HRow:Hid (rowN (lR xs) (L.getD k 0)=(xs.getD y noR).p):=by
    show _=_
    rw [hy]
    unfold rowN
    rw [Int.toNat_natCast,lR_at]
   have HRk:Hid (Rch (lR xs) i (L.getD k 0)):=HI.out.2.1 _ (mem_at (by omega))
   obtain ⟨R,hRe⟩:∃ R,(xs.getD y noR).p=R:=⟨_,rfl⟩
   rw [hRe] at cy HRy hry HRow
   generalize (xs.getD y noR).A=Ay at cy HRy
   generalize (xs.getD y noR).c=cy' at cy HRy
   obtain ⟨r,hr⟩:∃ r,R.length=r:=⟨_,rfl⟩
   have HRl:Hid (R.length=r):=hr
   rw [hr] at cy hry
   have hrI:(r:Int)≤12:=by omega
   have hblt:bl<wr.heap.size:=(Array.getElem?_eq_some_iff.1 hbl).1
   clear hcl hx hown hBw hbl hy hRe hr hm
   go_wp2_with fail
   go_loopg [5,28] r (fun gg s5 s28 wi => ∃ (j:Nat) (K:List Int),j≤r∧gg=r-j∧s28=.int .i64 j∧Hid (RInv (lR xs) i K k∧(∃ T,K=L ++ T)∧∀ t,t<j→R.getD t 0∈K)∧wi.ownsRow w.heap.size 3 1 s5 K.length (mapI K)∧Below w.heap.size w wi)
   case atStart=>exact ⟨0,L,Nat.zero_le _,rfl,rfl,(⟨HI.out,⟨[],by simp⟩,fun t ht=>absurd ht (Nat.not_lt_zero _)⟩:_∧_∧_),by have h:=HO.out;rw [HM.out] at h;rw [HM.out];exact h,HBw.out⟩
   case round =>
    obtain ⟨wj,rfl⟩:∃ wj:World,wj=wr:=⟨_,rfl⟩
    obtain ⟨j,K,hj,rfl,rfl,HK,hown,hBj⟩:=hrel
    have HBj:Hid (Below w.heap.size w wj):=hBj
    have HOj:Hid (wj.ownsRow w.heap.size 3 1 u5 K.length (mapI K)):=hown
    have hKn:K.length≤n:=by rw [←HX.out,←HLen.out];exact rinv_len HK.out.1 HIn.out (by rw [HLen.out,HX.out];exact hi)
    obtain ⟨AK,cK,rfl,hIK⟩:=intT_own hown
    by_cases hjl:j<r
    ·have hji:(j:Int)<(r:Int):=by omega
     obtain ⟨hcR,-,hR0 | ⟨br,csr,frr,rfl,hbr,hcr⟩⟩:=HRy.out.later hBj
     ·have:=HRl.out;rw [hR0] at this;simp at this;omega
     have cz:=hcr j (by rw [HRl.out];exact hjl)
     have hbrl:br<wj.heap.size:=(Array.getElem?_eq_some_iff.1 hbr).1
     rw [HRl.out] at hcR
     have hcRi:(r:Int)≤(cy':Int):=by omega
     obtain ⟨x,hx⟩:∃ x,R.getD j 0=x:=⟨_,rfl⟩
     have HXx:Hid (R.getD j 0=x):=hx
     rw [hx] at cz
     have hct:=contains_ints AK cK K x wj (by omega) hIK.at
     obtain ⟨mk,hmk⟩:∃ mk,K.length=mk:=⟨_,rfl⟩
     have HMk:Hid (K.length=mk):=hmk
     have HKn:Hid (mk≤n):=by show _≤_;omega
     rw [hmk] at hct hKn
     rw [hmk]
     clear hcr hbr hown hBj hIK hx hmk
     by_cases hin:x∈K
     ·have hb:inB K x=true:=by unfold inB;exact decide_eq_true hin
      rw [hb] at hct
      have HK2:Hid (RInv (lR xs) i K k∧(∃ T,K=L ++ T)∧∀ t,t<j+1→R.getD t 0∈K):=⟨HK.out.1,HK.out.2.1,fun t ht=>by
       by_cases e:t=j
       ·rw [e,HXx.out];exact hin
       ·exact HK.out.2.2 t (by omega)⟩
      clear hb hin
      go_wp2_with fail
      refine hct.mono ?_
      rintro e w2 ⟨rfl,hb2⟩
      have HB2:Hid (Below w.heap.size w w2):=onB HBj.out hb2
      have HO2:Hid (w2.ownsRow w.heap.size 3 1 (.slice AK mk cK) K.length (mapI K)):=by have h:=own_later HOj.out hb2;rw [HMk.out] at h;show World.ownsRow ..;rw [HMk.out];exact h
      clear hb2 hct
      go_wp2_with fail
      go_roundg (r-(j+1))
      case measure=>omega
      case rel=>exact ⟨j+1,K,by omega,rfl,by go_num,HK2,HO2.out,HB2.out⟩
     ·have hb:inB K x=false:=by unfold inB;exact decide_eq_false hin
      rw [hb] at hct
      have HK2:Hid (RInv (lR xs) i (K ++ [x]) k∧(∃ T,K ++ [x]=L ++ T)∧∀ t,t<j+1→R.getD t 0∈K ++ [x]):=by
       obtain ⟨hI,⟨T,hT⟩,hA⟩:=HK.out
       refine ⟨rinv_put hI ?_ hin ?_,⟨T ++ [x],by rw [hT,List.append_assoc]⟩,fun t ht=>?_⟩
       ·rw [hT,List.length_append,HM.out];omega
       ·refine HRk.out.snoc ?_
        rw [HRow.out,←HXx.out]
        exact mem_at (by rw [HRl.out];exact hjl)
       ·by_cases e:t=j
        ·rw [e,HXx.out];simp
        ·exact List.mem_append_left _ (hA t (by omega))
      clear hb hin
      go_wp2_with fail
      refine hct.mono ?_
      rintro e w2 ⟨rfl,hb2⟩
      have hB2:Below w.heap.size w w2:=onB HBj.out hb2
      have HB2:Hid (Below w.heap.size w w2):=hB2
      have HO2:Hid (w2.ownsRow w.heap.size 3 1 (.slice AK mk cK) mk (mapI K)):=by have h:=own_later HOj.out hb2;rw [HMk.out] at h;exact h
      have hsz:=hB2.size
      clear hb2 hct hB2
      go_wp2_with (at_builtin;refine wpList_append_own _ rfl _ _ 38 rfl w.heap.size 3 i0 (.int .i64 0) 1 8 Tryz.underlying38 hi0 hz0 hz1 hz2 rfl (by decide) _ _ _ rfl (HO2.out.alloc _) ⟨w2.heap.size,0,none⟩ 1 1 [.int .i64 x] rfl rfl one_cell one_one (by have:=HKn.out;unfold maxLen;omega) (by have:=HKn.out;omega) (by simp;omega) ?_)
      intro v' w3 hown' hgrow _
      have HB3:Hid (Below w.heap.size w w3):=grown_own HB2.out HO2.out hgrow
      have HO3:Hid (w3.ownsRow w.heap.size 3 1 v' (K ++ [x]).length (mapI (K ++ [x]))):=by
       show World.ownsRow ..
       rw [mapI_snoc,List.length_append,HMk.out];exact hown'
      clear hown' hgrow
      go_wp2_with fail
      go_roundg (r-(j+1))
      case measure=>omega
      case rel=>exact ⟨j+1,K ++ [x],by omega,rfl,by go_num,HK2,HO3.out,HB3.out⟩
    ·have hje:j=r:=by omega
     subst hje
     have HI2:Hid (k+1≤K.length∧RInv (lR xs) i K (k+1)):=by
      obtain ⟨hI,⟨T,hT⟩,hA⟩:=HK.out
      refine ⟨by rw [hT,List.length_append,HM.out];omega,rinv_next hI fun y' hy'=>?_⟩
      rw [hT,getD_app (by rw [HM.out];exact hlt),HRow.out] at hy'
      obtain ⟨t,ht,rfl⟩:=List.getElem_of_mem hy'
      have h:=hA t (by rw [←HRl.out];exact ht)
      rw [List.getD_eq_getElem?_getD,List.getElem?_eq_getElem ht] at h
      exact h
     clear hown hBj hIK hKn
     go_wp2_with fail
     go_roundg (n-(k+1))
     case measure=>omega
     case rel=>exact ⟨k+1,K,HI2.out.1,rfl,by go_num,HI2.out.2,HOj.out,HBj.out⟩
  ·have hke:k=m:=by omega
   subst hke
   have HEnd:Hid (∀ x,x∈L↔Rch (lR xs) i x):=rinv_end (by rw [HM.out];exact HI.out)
   have HIL:Hid (IntsAt wr AL cL L):=hIL.at
   clear hown hBw hIL hm
   go_wp2_with fail
   go_ret
   exact ⟨⟨AL,cL,L,by rw [HM.out];rfl,HIL.out,by rw [HM.out];omega,HEnd.out⟩,HBw.out⟩
end Go.Proofs.YtfngmnhkhfgmjagGreatDoor
namespace Go.Proofs.YtfngmnhkhfgmjagGreatDoor
def cmpL:List Int→List Int→Int
 | [],[]=>0
 | [],_ :: _ => -1
 | _ :: _,[]=>1
 | a :: r,b :: t=>if a<b then -1 else if b<a then 1 else cmpL r t
theorem cmpL_three:∀ a b:List Int,(cmpL a b = -1∧lessL a b=true∧a≠b)∨(cmpL a b=0∧lessL a b=false∧a=b)∨(cmpL a b=1∧lessL a b=false∧a≠b)
 | [],[]=>Or.inr (Or.inl ⟨rfl,rfl,rfl⟩)
 | [],_ :: _=>Or.inl ⟨rfl,rfl,by simp⟩
 | _ :: _,[]=>Or.inr (Or.inr ⟨rfl,rfl,by simp⟩)
 | a :: r,b :: t=>by
  simp only [cmpL,lessL]
  by_cases h1:a<b
  ·rw [if_pos h1,if_neg (by omega)]
   exact Or.inl ⟨rfl,decide_eq_true h1,by simp;omega⟩
  ·rw [if_neg h1]
   by_cases h2:b<a
   ·rw [if_pos h2,if_neg (by omega)]
    exact Or.inr (Or.inr ⟨rfl,decide_eq_false h1,by simp;omega⟩)
   ·have h3:a=b:=by omega
    rw [if_neg h2,if_pos h3]
    subst h3
    rcases cmpL_three r t with ⟨e1,e2,e3⟩ | ⟨e1,e2,e3⟩ | ⟨e1,e2,e3⟩
    ·exact Or.inl ⟨e1,e2,by simpa using e3⟩
    ·exact Or.inr (Or.inl ⟨e1,e2,by rw [e3]⟩)
    ·exact Or.inr (Or.inr ⟨e1,e2,by simpa using e3⟩)
theorem cmpL_neg (a b:List Int):decide (cmpL a b<0)=lessL a b:=by
 rcases cmpL_three a b with ⟨e1,e2,_⟩ | ⟨e1,e2,_⟩ | ⟨e1,e2,_⟩ <;> rw [e1,e2] <;> rfl
theorem cmpL_nonneg (a b:List Int):decide (0≤cmpL a b) = !lessL a b:=by
 rcases cmpL_three a b with ⟨e1,e2,_⟩ | ⟨e1,e2,_⟩ | ⟨e1,e2,_⟩ <;> rw [e1,e2] <;> rfl
theorem dropI_at (l:List Int) {k:Nat} (h:k<l.length):l.drop k=l.getD k 0 :: l.drop (k+1):=by
 rw [List.drop_eq_getElem_cons h,List.getD_eq_getElem?_getD,List.getElem?_eq_getElem h]
 rfl
theorem cmpL_in {a b:List Int} {k:Nat} (h1:k<a.length) (h2:k<b.length):cmpL (a.drop k) (b.drop k)=if a.getD k 0<b.getD k 0 then -1 else if b.getD k 0<a.getD k 0 then 1 else cmpL (a.drop (k+1)) (b.drop (k+1)):=by
 rw [dropI_at a h1,dropI_at b h2,cmpL]
theorem cmpL_long {a b:List Int} {k:Nat} (h1:k<a.length) (h2:b.length≤k):cmpL (a.drop k) (b.drop k)=1:=by
 rw [dropI_at a h1,List.drop_eq_nil_of_le h2];rfl
theorem cmpL_short {a b:List Int} {k:Nat} (h1:a.length≤k) (h2:k<b.length):cmpL (a.drop k) (b.drop k) = -1:=by
 rw [dropI_at b h2,List.drop_eq_nil_of_le h1];rfl
theorem cmpL_end {a b:List Int} {k:Nat} (h1:a.length≤k) (h2:b.length≤k):cmpL (a.drop k) (b.drop k)=0:=by
 rw [List.drop_eq_nil_of_le h1,List.drop_eq_nil_of_le h2];rfl
theorem drop_en (l:List En) {k:Nat} (h:k<l.length):l.drop k=l.getD k noEn :: l.drop (k+1):=by
 rw [List.drop_eq_getElem_cons h,List.getD_eq_getElem?_getD,List.getElem?_eq_getElem h]
 rfl
theorem cnt_at:∀ (l:List En) (p:List Int) (i:Nat),i≤l.length→(∀ t,t<i→lessL (l.getD t noEn).pl p=true)→(i<l.length→lessL (l.getD i noEn).pl p=false)→cntE l p=i
 | [],p,i,hi,_,_=>by simp at hi;subst hi;rfl
 | e :: r,p,0,_,_,h2=>by
  have h3:=h2 (by simp)
  simp at h3
  simp [cntE,h3]
 | e :: r,p,i+1,hi,h1,h2=>by
  have h3:=h1 0 (by omega)
  simp at h3
  have h4:=cnt_at r p i (by simpa using hi) (fun t ht=>by simpa using h1 (t+1) (by omega)) (fun ht=>by simpa using h2 (by simpa using ht))
  unfold cntE at h4 ⊢
  rw [List.takeWhile_cons,if_pos h3,List.length_cons,h4]
theorem cnt_le (l:List En) (p:List Int):cntE l p≤l.length:=by
 unfold cntE
 exact (List.takeWhile_sublist _).length_le
theorem has_in {l:List En} {p:List Int} {i:Nat} (h:cntE l p=i) (hi:i<l.length):hasE l p = !lessL p (l.getD i noEn).pl∧getE l p=if lessL p (l.getD i noEn).pl=true then (0,0) else (1,(l.getD i noEn).n):=by
 have e:l.drop (cntE l p)=l.getD i noEn :: l.drop (i+1):=by rw [h,drop_en l hi]
 unfold hasE getE
 rw [e]
 exact ⟨rfl,rfl⟩
theorem has_out {l:List En} {p:List Int} {i:Nat} (h:cntE l p=i) (hi:l.length≤i):hasE l p=false∧getE l p=(0,0):=by
 have e:l.drop (cntE l p)=[]:=by rw [h,List.drop_eq_nil_of_le hi]
 unfold hasE getE
 rw [e]
 exact ⟨rfl,rfl⟩
theorem rise_at {l:List En} (h:l.Pairwise fun a b=>lessL a.pl b.pl=true) {a b:Nat} (hab:a<b) (hb:b<l.length):lessL (l.getD a noEn).pl (l.getD b noEn).pl=true:=by
 have:=List.pairwise_iff_getElem.1 h a b (by omega) hb hab
 rw [List.getD_eq_getElem?_getD,List.getD_eq_getElem?_getD,List.getElem?_eq_getElem hb,List.getElem?_eq_getElem (by omega:a<l.length)]
 exact this
theorem less_mono {l:List En} (h:l.Pairwise fun a b=>lessL a.pl b.pl=true) {p:List Int} {a b:Nat} (hab:a≤b) (hb:b<l.length) (hl:lessL (l.getD b noEn).pl p=true):lessL (l.getD a noEn).pl p=true:=by
 rcases Nat.eq_or_lt_of_le hab with rfl | h1
 ·exact hl
 ·exact lessL_trans _ _ _ (rise_at h h1 hb) hl
theorem has_cmp {l:List En} {p:List Int} {i:Nat} (h:cntE l p=i) (hi:i<l.length):decide (cmpL (l.getD i noEn).pl p=0)=hasE l p:=by
 have h1:lessL (l.getD i noEn).pl p=false:=by
  have e:l.dropWhile (fun e=>lessL e.pl p)=l.getD i noEn :: l.drop (i+1):=by rw [←drop_while];show l.drop (cntE l p)=_;rw [h,drop_en l hi]
  exact head_while (q:=fun e:En=>lessL e.pl p) e
 rw [(has_in h hi).1]
 rcases cmpL_three (l.getD i noEn).pl p with ⟨_,e2,_⟩ | ⟨e1,_,e3⟩ | ⟨e1,_,e3⟩
 ·rw [e2] at h1;cases h1
 ·rw [e1,e3,lessL_self];rfl
 ·rw [e1]
  rcases lessL_total _ _ e3 with h2 | h2
  ·rw [h2] at h1;cases h1
  ·rw [h2];rfl
def qOf (l:List En):Nat→Option (List Int)
 | 0=>none
 | k+1=>some (l.getD k noEn).pl
theorem ent_step {D:Nat→Dm} {n:Nat} {l:List En} {k:Nat} (h:k<l.length):entFrom D n (qOf l k) (l.drop k)=if entOne D n (l.getD k noEn)≠0 then entOne D n (l.getD k noEn) else if aheadOk (qOf l k) (l.getD k noEn).pl=true then entFrom D n (qOf l (k+1)) (l.drop (k+1)) else 7:=by
 rw [drop_en l h,entFrom]
 rfl
theorem ent_bad {D:Nat→Dm} {n:Nat} {l:List En} {k:Nat} (h:k<l.length) (he:entOne D n (l.getD k noEn)≠0):entFrom D n (qOf l k) (l.drop k)=entOne D n (l.getD k noEn):=by rw [ent_step h,if_pos he]
theorem ent_clash {D:Nat→Dm} {n:Nat} {l:List En} {k:Nat} (h:k<l.length) (he:entOne D n (l.getD k noEn)=0) (hq:aheadOk (qOf l k) (l.getD k noEn).pl=false):entFrom D n (qOf l k) (l.drop k)=7:=by rw [ent_step h,if_neg (by simpa using he),if_neg (by rw [hq];decide)]
theorem ent_on {D:Nat→Dm} {n:Nat} {l:List En} {k:Nat} (h:k<l.length) (he:entOne D n (l.getD k noEn)=0) (hq:aheadOk (qOf l k) (l.getD k noEn).pl=true):entFrom D n (qOf l k) (l.drop k)=entFrom D n (qOf l (k+1)) (l.drop (k+1)):=by rw [ent_step h,if_neg (by simpa using he),if_pos hq]
theorem ent_end {D:Nat→Dm} {n:Nat} {l:List En} {k:Nat} (h:l.length≤k):entFrom D n (qOf l k) (l.drop k)=0:=by
 rw [List.drop_eq_nil_of_le h]
 cases qOf l k <;> rfl
theorem ents_bad {D:Nat→Dm} {n:Nat} (l:List En) (h:(allErr D n).2.2≠0):entsErr D n l=(allErr D n).2.2:=by unfold entsErr;rw [if_pos h]
theorem ents_in {D:Nat→Dm} {n:Nat} (l:List En) (h:(allErr D n).2.2=0):entsErr D n l=entFrom D n (qOf l 0) (l.drop 0):=by unfold entsErr;rw [if_neg (by simpa using h)];rfl
theorem one_place {D:Nat→Dm} {n:Nat} {e:En} (hR:(allErr D n).2.2=0) (h:placeErr D n e.pl≠0):entOne D n e=placeErr D n e.pl:=by
 rw [pe1 hR] at h ⊢
 unfold entOne
 rw [if_pos h]
theorem one_leaf {D:Nat→Dm} {n:Nat} {e:En} (hR:(allErr D n).2.2=0) (h:placeErr D n e.pl=0) (hf:leafV D n e.pl=false):entOne D n e=6:=by
 rw [pe1 hR] at h
 unfold entOne
 rw [if_neg (by simpa using h),if_pos hf]
theorem one_num {D:Nat→Dm} {n:Nat} {e:En} (hR:(allErr D n).2.2=0) (h:placeErr D n e.pl=0) (hf:leafV D n e.pl=true):entOne D n e=if numOk e.n=false then 1 else 0:=by
 rw [pe1 hR] at h
 unfold entOne
 rw [if_neg (by simpa using h),if_neg (by simp [hf])]
end Go.Proofs.YtfngmnhkhfgmjagGreatDoor
namespace Go.Proofs.YtfngmnhkhfgmjagGreatDoor
open Go Go.ChangeShapes Go.WideShapes Go.ChangeAt Go.RowKit
set_option maxRecDepth 20000
theorem ent_ne_int:(3:Nat)≠46:=by decide
theorem grown_trans {w w1 w2:World} {r:Option Nat} (h:w.grownBy w1 r) (k:w1.grownBy w2 r):w.grownBy w2 r :=
 ⟨k.os.trans h.os,k.tape.trans h.tape,k.output.trans h.output,Nat.le_trans h.size k.size,fun i hi hr=>(k.block i (Nat.lt_of_lt_of_le hi h.size) hr).trans (h.block i hi hr)⟩
theorem grown_below {w w':World} {r:Option Nat} (h:Below w.heap.size w w'):w.grownBy w' r:=⟨h.os,h.tape,h.output,h.size,fun i hi _=>h.block i hi⟩
theorem grown_drew {w w':World} {r:Option Nat} (h:w.grownBy w' r):w.grownBy w'.drew r:=⟨h.os,h.tape,h.output,h.size,h.block⟩
theorem grown_refl (w:World) (r:Option Nat):w.grownBy w r:=⟨rfl,rfl,rfl,Nat.le_refl _,fun _ _ _=>rfl⟩
theorem grown_setRow (w:World) (g:Nat) (cs:Array Value):w.grownBy (w.setRow g cs) (some g) :=
 ⟨rfl,rfl,rfl,by rw [setRow_size];exact Nat.le_refl _,fun i _ hr=>setRow_other w g i cs fun e=>hr (by rw [e])⟩
theorem below_grown {B:Nat} {w0 w w':World} {g:Nat} (h:Below B w0 w) (hg:w.grownBy w' (some g)) (hB:B≤w.heap.size) (hr:B≤g):Below B w0 w' :=
 h.grown hg hB fun k hk=>by cases hk;exact hr
def PlTy (w:World) (A:Option Addr) (c:Nat) (L:List Int):Prop:=L.length≤c∧(L=[]∨∃ b o cs fr,A=some ⟨b,o,none⟩∧w.heap[b]?=some (.cells cs 3 fr)∧∀ j,j<L.length→w.cell? ⟨b,o+j,none⟩=some (.int .i64 (L.getD j 0)))
theorem PlTy.pl {w:World} {A:Option Addr} {c:Nat} {L:List Int} (h:PlTy w A c L):PlAt w A c L:=by
 obtain ⟨h1,h2 | ⟨b,o,cs,fr,h2,h3,h4⟩⟩:=h
 ·exact ⟨h1,Or.inl h2⟩
 ·exact ⟨h1,Or.inr ⟨b,o,h2,(Array.getElem?_eq_some_iff.1 h3).1,h4⟩⟩
theorem PlTy.nil (w:World) (A:Option Addr) (c:Nat):PlTy w A c []:=⟨Nat.zero_le _,Or.inl rfl⟩
theorem PlTy.grown {w w':World} {A:Option Addr} {c g:Nat} {L:List Int} {cur:Array Value} {fr:Nat×Nat} (h:PlTy w A c L) (hg:w.heap[g]?=some (.cells cur 46 fr)) (hG:w.grownBy w' (some g)):PlTy w' A c L:=by
 obtain ⟨h1,h2 | ⟨b,o,cs,fr',h2,h3,h4⟩⟩:=h
 ·exact ⟨h1,Or.inl h2⟩
 ·have hne:b≠g:=fun e=>by
   rw [e,hg] at h3
   simp only [Option.some.injEq,Obj.cells.injEq] at h3
   exact ent_ne_int h3.2.1.symm
  have hb:w'.heap[b]?=w.heap[b]?:=hG.block b (Array.getElem?_eq_some_iff.1 h3).1 fun e=>hne (by simpa using e)
  exact ⟨h1,Or.inr ⟨b,o,cs,fr',h2,hb.trans h3,fun j hj=>(World.cell?_of_block (a:=⟨b,o+j,none⟩) hb).trans (h4 j hj)⟩⟩
theorem PlTy.later {w w':World} {A:Option Addr} {c:Nat} {L:List Int} (h:PlTy w A c L) (hB:Below w.heap.size w w'):PlTy w' A c L:=by
 obtain ⟨h1,h2 | ⟨b,o,cs,fr',h2,h3,h4⟩⟩:=h
 ·exact ⟨h1,Or.inl h2⟩
 ·have hb:w'.heap[b]?=w.heap[b]?:=hB.block b (Array.getElem?_eq_some_iff.1 h3).1
  exact ⟨h1,Or.inr ⟨b,o,cs,fr',h2,hb.trans h3,fun j hj=>(World.cell?_of_block (a:=⟨b,o+j,none⟩) hb).trans (h4 j hj)⟩⟩
theorem plty_own {w:World} {base:Nat} {v:Value} {L:List Int} (h:w.ownsRow base 3 1 v L.length (L.map (Value.int .i64))):∃ A c,v=.slice A L.length c∧PlTy w A c L:=by
 rcases h.2 with ⟨rfl,h0⟩ | ⟨g,cap,cur,rfl,hb,hg,hc,_,_,_⟩
 ·have:L=[]:=List.eq_nil_of_length_eq_zero h0
  subst this
  exact ⟨none,0,rfl,PlTy.nil _ _ _⟩
 ·refine ⟨_,cap,rfl,hc,Or.inr ⟨g,0,cur,_,rfl,hg,fun j hj=>?_⟩⟩
  have hx:=h.cells (g:=g) rfl j (.int .i64 (L.getD j 0)) (by simp [List.getD,List.getElem?_eq_getElem hj])
  have hadd:(⟨g,0,none⟩:Addr).add j=⟨g,j,none⟩:=by unfold Addr.add;split <;> simp_all
  rw [hadd] at hx
  rw [Nat.zero_add]
  exact hx
def RowE (w:World) (g cap:Nat) (xs:List EnL):Prop:=(∃ cur:Array Value,w.heap[g]?=some (.cells cur 46 (0,0))∧cur.size=cap*2∧cur.toList.take (xs.length*2)=cellsE xs)∧xs.length≤cap∧cap≤maxLen∧∀ x∈xs,PlTy w x.A x.c x.e.pl
section
variable {w w':World} {g cap:Nat} {xs:List EnL}
theorem RowE.lt (h:RowE w g cap xs):g<w.heap.size:=by
 obtain ⟨⟨cur,h1,_⟩,_⟩:=h
 exact (Array.getElem?_eq_some_iff.1 h1).1
theorem RowE.cells (h:RowE w g cap xs):∀ j u,(cellsE xs)[j]?=some u→w.cell? ⟨g,j,none⟩=some u:=by
 obtain ⟨⟨cur,h1,h2,h3⟩,_⟩:=h
 intro j u hj
 have hlt:=(List.getElem?_eq_some_iff.1 hj).1
 rw [cellsE_len] at hlt
 rw [←h3,List.getElem?_take,if_pos hlt,Array.getElem?_toList] at hj
 simp [World.cell?,h1,hj]
theorem RowE.full (h:RowE w g cap xs) {j:Nat} (hj:j<cap*2):(w.cell? ⟨g,j,none⟩).isSome=true:=by
 obtain ⟨⟨cur,h1,h2,h3⟩,_⟩:=h
 simp [World.cell?,h1,h2,hj]
theorem RowE.frozen (h:RowE w g cap xs) (j:Nat):w.frozen? ⟨g,j,none⟩=false:=by
 obtain ⟨⟨cur,h1,_⟩,_⟩:=h
 simp [World.frozen?,h1]
theorem RowE.ens (h:RowE w g cap xs):EnsAt w g 0 xs:=⟨h.lt,fun j u hj=>by rw [Nat.zero_add];exact h.cells j u hj,fun x hx=>(h.2.2.2 x hx).pl⟩
theorem RowE.ensV (h:RowE w g cap xs):EnsV w (some ⟨g,0,none⟩) cap xs:=⟨h.2.1,by have:=h.2.2.1;unfold maxLen at this;omega,Or.inr ⟨g,0,rfl,h.ens⟩⟩
theorem RowE.later (h:RowE w g cap xs) (hB:Below w.heap.size w w'):RowE w' g cap xs:=by
 have hlt:=h.lt
 obtain ⟨⟨cur,h1,h2,h3⟩,h4,h5,h6⟩:=h
 exact ⟨⟨cur,(hB.block g hlt).trans h1,h2,h3⟩,h4,h5,fun x hx=>(h6 x hx).later hB⟩
theorem RowE.own (h:RowE w g cap xs) {base:Nat} (hb:base≤g):w.ownsRow base 46 2 (.slice (some ⟨g,0,none⟩) xs.length cap) xs.length (cellsE xs):=by
 obtain ⟨⟨cur,h1,h2,h3⟩,h4,h5,h6⟩:=h
 exact ⟨cellsE_len xs,Or.inr ⟨g,cap,cur,rfl,hb,h1,h4,h5,h2,h3⟩⟩
theorem row_own {base:Nat} {v:Value} (h:w.ownsRow base 46 2 v xs.length (cellsE xs)) (hv:v≠.slice none 0 0) (hp:∀ x∈xs,PlTy w x.A x.c x.e.pl):∃ g cap,v=.slice (some ⟨g,0,none⟩) xs.length cap∧base≤g∧RowE w g cap xs:=by
 rcases h.2 with ⟨h0,_⟩ | ⟨g,cap,cur,rfl,hb,hg,h4,h5,h2,h3⟩
 ·exact absurd h0 hv
 ·exact ⟨g,cap,rfl,hb,⟨cur,hg,h2,h3⟩,h4,h5,hp⟩
theorem RowE.lay (h:RowE w g cap xs) {cs:List Value} {ys:List EnL} (hs:cs.length=cap*2) (ht:cs.take (ys.length*2)=cellsE ys) (hl:ys.length≤cap) (hp:∀ y∈ys,PlTy w y.A y.c y.e.pl):RowE (w.setRow g cs.toArray) g cap ys:=by
 obtain ⟨⟨cur,h1,h2,h3⟩,h4,h5,h6⟩:=h
 exact ⟨⟨cs.toArray,setRow_heap w g cur _ _ _ h1,by simpa using hs,by simpa using ht⟩,hl,h5,fun y hy=>(hp y hy).grown h1 (grown_setRow ..)⟩
end
theorem setCells_row (g:Nat) (t:TypeId):∀ (vs:List Value) (o:Nat) (cur:Array Value) (w:World),w.heap[g]?=some (.cells cur t (0,0))→o+vs.length≤cur.size→w.setCells g o vs=w.setRow g (cur.toList.take o ++ vs ++ cur.toList.drop (o+vs.length)).toArray
 | [],o,cur,w,hg,_=>by
  simp only [World.setCells,List.append_nil,List.length_nil,Nat.add_zero,List.take_append_drop,Array.toArray_toList]
  rw [setRow_self w g cur t (0,0) hg]
 | v :: r,o,cur,w,hg,hl=>by
  simp only [List.length_cons] at hl
  rw [World.setCells,setCell_eq_setRow w g o cur t (0,0) v hg,setCells_row g t r (o+1) (cur.setIfInBounds o v) _ (setRow_heap w g cur _ t _ hg) (by simp;omega),setRow_setRow]
  have e:=list_seg_step cur.toList o v r (by simp;omega)
  congr 2
  simpa [Array.toList_setIfInBounds,Nat.add_assoc] using e
variable {P:Program}
theorem run_copy_k (k:Nat) (w:World) (dT sT ty elem:TypeId) (g o dLen dCap:Nat) (a:Addr) (sLen sCap:Nat) (cur:Array Value) (t:TypeId) (cs:List Value)
  (hu:P.underlying dT=some (.slice elem)) (hs:(P.info? elem).map (·.size)=some k)
  (hg:w.heap[g]?=some (.cells cur t (0,0))) (hn:cs.length=Nat.min sLen dLen*k)
  (hsrc:∀ j v,cs[j]?=some v→w.cell? (a.add j)=some v) (hfit:o+cs.length≤cur.size) (h1:∀ v∈cs,v.oneCell'=true) :
  (Builtin.copy_ #[dT,sT] ty #[.slice (some ⟨g,o,none⟩) dLen dCap,.slice (some a) sLen sCap]).run P w =
   .ok (goInt (Nat.min sLen dLen)) (w.setRow g (cur.toList.take o ++ cs ++ cur.toList.drop (o+cs.length)).toArray):=by
 have hl:=run_loadCells_list (P:=P) w a cs hsrc
 have hst:=run_storeCells_at P g o t cs 0 cur w hg (by simpa using hfit) h1
 rw [hn] at hl
 cases hq:P.info? elem with
 | none=>simp [hq] at hs
 | some i =>
  have hi:i.size=k:=by simpa [hq] using hs
  simp [Builtin.copy_,run_underlying hu,Builtin.lenOf,Builtin.firstCells,sizeOf,typeInfo,hq,hi,hl,hst]
theorem take_join {α:Type} {a b:List α} {k:Nat} (h:a.length=k):(a ++ b).take k=a:=by subst h;simp
theorem drop_join {α:Type} {a b:List α} {k:Nat} (h:a.length=k):(a ++ b).drop k=b:=by subst h;simp
theorem head_cells {C:List Value} {xs:List EnL} (hC:C.take (xs.length*2)=cellsE xs) {i:Nat} (hi:i≤xs.length):C.take (i*2)=cellsE (xs.take i):=by
 rw [←cellsE_take,←hC,List.take_take,Nat.min_eq_left (by omega)]
theorem ins_cells {C C1 C2:List Value} {xs:List EnL} {x:EnL} {i:Nat} (hC:C.take (xs.length*2)=cellsE xs) (hlen:(xs.length+1)*2≤C.length) (hi:i≤xs.length)
  (h1:C1=C.take ((i+1)*2) ++ cellsE (xs.drop i) ++ C.drop ((i+1)*2+(cellsE (xs.drop i)).length)) (h2:C2=C1.take (i*2) ++ cellsE [x] ++ C1.drop (i*2+(cellsE [x]).length)) :
  C2.length=C.length∧C2.take ((xs.take i ++ x :: xs.drop i).length*2)=cellsE (xs.take i ++ x :: xs.drop i):=by
 have hd:(cellsE (xs.drop i)).length=(xs.length-i)*2:=by rw [cellsE_len,List.length_drop]
 have hx:(cellsE [x]).length=2:=by rw [cellsE_len];rfl
 have e1:C1.take (i*2)=cellsE (xs.take i):=by
  rw [h1,List.append_assoc,List.take_append_of_le_length (by rw [List.length_take];omega),List.take_take,Nat.min_eq_left (by omega)]
  exact head_cells hC hi
 have e2:C1.drop (i*2+(cellsE [x]).length)=cellsE (xs.drop i) ++ C.drop ((i+1)*2+(cellsE (xs.drop i)).length):=by
  rw [h1,List.append_assoc,hx]
  exact drop_join (by rw [List.length_take];omega)
 rw [h2,e1,e2]
 refine ⟨?_,?_⟩
 ·simp only [List.length_append,cellsE_len,List.length_take,List.length_drop,List.length_cons,List.length_nil]
  omega
 ·have hl:(xs.take i ++ x :: xs.drop i).length=xs.length+1:=by simp;omega
  rw [hl,←List.append_assoc]
  rw [show cellsE (xs.take i ++ x :: xs.drop i)=cellsE (xs.take i) ++ cellsE [x] ++ cellsE (xs.drop i) by rw [show x :: xs.drop i=[x] ++ xs.drop i from rfl,cellsE_append,cellsE_append,List.append_assoc]]
  exact take_join (by simp only [List.length_append,cellsE_len,List.length_take,List.length_drop,List.length_cons,List.length_nil];omega)
theorem grow_cells {C C1 C2:List Value} {xs:List EnL} {x:EnL} {i:Nat} (hC:C.take (i*2)=cellsE (xs.take i)) (hlen:(xs.length+1)*2≤C.length) (hi:i≤xs.length)
  (h1:C1=C.take (i*2) ++ cellsE [x] ++ C.drop (i*2+(cellsE [x]).length)) (h2:C2=C1.take ((i+1)*2) ++ cellsE (xs.drop i) ++ C1.drop ((i+1)*2+(cellsE (xs.drop i)).length)) :
  C2.length=C.length∧C2.take ((xs.take i ++ x :: xs.drop i).length*2)=cellsE (xs.take i ++ x :: xs.drop i):=by
 have hd:(cellsE (xs.drop i)).length=(xs.length-i)*2:=by rw [cellsE_len,List.length_drop]
 have hx:(cellsE [x]).length=2:=by rw [cellsE_len];rfl
 have hc1:C1.length=C.length:=by
  rw [h1,hC]
  simp only [List.length_append,cellsE_len,List.length_take,List.length_drop,List.length_cons,List.length_nil]
  omega
 have e1:C1.take ((i+1)*2)=cellsE (xs.take i) ++ cellsE [x]:=by
  rw [h1,hC]
  exact take_join (by simp only [List.length_append,cellsE_len,List.length_take,List.length_cons,List.length_nil];omega)
 rw [h2,e1]
 refine ⟨?_,?_⟩
 ·simp only [List.length_append,cellsE_len,List.length_take,List.length_drop,List.length_cons,List.length_nil,hc1]
  omega
 ·have hl:(xs.take i ++ x :: xs.drop i).length=xs.length+1:=by simp;omega
  rw [hl]
  rw [show cellsE (xs.take i ++ x :: xs.drop i)=cellsE (xs.take i) ++ cellsE [x] ++ cellsE (xs.drop i) by rw [show x :: xs.drop i=[x] ++ xs.drop i from rfl,cellsE_append,cellsE_append,List.append_assoc]]
  exact take_join (by simp only [List.length_append,cellsE_len,List.length_take,List.length_drop,List.length_cons,List.length_nil];omega)
theorem cellsE_set {xs:List EnL}:∀ {i:Nat} (n:Int),i<xs.length→(cellsE xs).set (i*2+1) (.int .i64 n)=cellsE (xs.set i ⟨⟨(xs.getD i noL).e.pl,n⟩,(xs.getD i noL).A,(xs.getD i noL).c⟩):=by
 induction xs with
 | nil=>intro i n h;cases h
 | cons x r ih =>
  intro i n h
  cases i with
  | zero=>simp [cellsE]
  | succ i =>
   rw [show (i+1)*2+1=(i*2+1)+1+1 by omega]
   simp only [cellsE,List.set_cons_succ,List.getD_cons_succ]
   rw [ih n (by simpa using h)]
theorem RowE.setN {w:World} {g cap:Nat} {xs:List EnL} (h:RowE w g cap xs) {i:Nat} (hi:i<xs.length) (n:Int):RowE (w.setCell ⟨g,i*2+1,none⟩ (.int .i64 n)) g cap (xs.set i ⟨⟨(xs.getD i noL).e.pl,n⟩,(xs.getD i noL).A,(xs.getD i noL).c⟩)∧w.grownBy (w.setCell ⟨g,i*2+1,none⟩ (.int .i64 n)) (some g):=by
 obtain ⟨⟨cur,h1,h2,h3⟩,h4,h5,h6⟩:=h
 rw [setCell_eq_setRow w g (i*2+1) cur _ (0,0) _ h1]
 refine ⟨?_,grown_setRow ..⟩
 refine ⟨⟨_,setRow_heap w g cur _ _ _ h1,by simpa using h2,?_⟩,by simpa using h4,h5,fun y hy=>?_⟩
 ·rw [Array.toList_setIfInBounds,List.length_set,←cellsE_set n hi,←h3,List.take_set]
 ·refine PlTy.grown (g:=g) ?_ h1 (grown_setRow ..)
  rcases List.mem_or_eq_of_mem_set hy with hy | rfl
  ·exact h6 y hy
  ·exact h6 (xs.getD i noL) (enl_mem hi)
theorem lE_append (a b:List EnL):lE (a ++ b)=lE a ++ lE b:=by simp [lE]
theorem lE_ins (xs:List EnL) (x:EnL) (i:Nat):lE (xs.take i ++ x :: xs.drop i)=(lE xs).take i ++ x.e :: (lE xs).drop i:=by simp [lE]
theorem set_new {l:List En} {p:List Int} (h:hasE l p=false) (n:Int):setL l p n=l.take (cntE l p) ++ ⟨p,n⟩ :: l.drop (cntE l p):=by unfold setL;rw [h];rfl
theorem set_old {l:List En} {p:List Int} (h:hasE l p=true) (n:Int):setL l p n=l.set (cntE l p) ⟨(l.getD (cntE l p) noEn).pl,n⟩∧cntE l p<l.length∧(l.getD (cntE l p) noEn).pl=p:=by
 have hi:cntE l p<l.length:=by
  rcases Nat.lt_or_ge (cntE l p) l.length with h1 | h1
  ·exact h1
  ·rw [(has_out rfl h1).1] at h;cases h
 have h2:=has_cmp rfl hi
 rw [h] at h2
 have h3:(l.getD (cntE l p) noEn).pl=p:=by
  rcases cmpL_three (l.getD (cntE l p) noEn).pl p with ⟨e1,_⟩ | ⟨_,_,e3⟩ | ⟨e1,_⟩
  ·rw [e1] at h2;cases h2
  ·exact e3
  ·rw [e1] at h2;cases h2
 refine ⟨?_,hi,h3⟩
 unfold setL
 rw [h,h3,if_pos rfl,List.set_eq_take_append_cons_drop,if_pos hi]
theorem lE_set (xs:List EnL) (i:Nat) (y:EnL):lE (xs.set i y)=(lE xs).set i y.e:=by simp [lE,List.map_set]
end Go.Proofs.YtfngmnhkhfgmjagGreatDoor
namespace Go.Proofs.YtfngmnhkhfgmjagGreatDoor
open Go.ChangeShapes Go.WideShapes Go.ChangeAt Go.RowKit
set_option maxRecDepth 20000
theorem isnan_any (x:Int) (w:World):Calls Tryz.prog 173 #[.int .i64 x] w fun e w'=>e=.returned (.bool false)∧w'=w:=by
 go_enter Tryz.func173,Tryz.ntmps173
 go_wp2_with fail
 go_ret
 exact ⟨rfl,rfl⟩
def cmpI (x y:Int):Int:=if x<y then -1 else if y<x then 1 else 0
set_option maxHeartbeats 1000000 in
theorem compare_any (x y:Int) (w:World):Calls Tryz.prog 170 #[.int .i64 x,.int .i64 y] w fun e w'=>e=.returned (.int .i64 (cmpI x y))∧w'=w:=by
 have h1:=isnan_any x
 have h2:=isnan_any y
 by_cases hxy:x<y
 ·have HV:Hid (cmpI x y = -1):=by show _=_;unfold cmpI;rw [if_pos hxy]
  go_enter Tryz.func170,Tryz.ntmps170
  go_wp2_with fail
  refine (h1 _).mono ?_
  rintro e w1 ⟨rfl,rfl⟩
  go_wp2_with fail
  refine (h2 _).mono ?_
  rintro e w2 ⟨rfl,rfl⟩
  go_wp2_with fail
  go_ret
  rw [HV.out]
  exact ⟨rfl,rfl⟩
 ·by_cases hyx:y<x
  ·have HV:Hid (cmpI x y=1):=by show _=_;unfold cmpI;rw [if_neg hxy,if_pos hyx]
   go_enter Tryz.func170,Tryz.ntmps170
   go_wp2_with fail
   refine (h1 _).mono ?_
   rintro e w1 ⟨rfl,rfl⟩
   go_wp2_with fail
   refine (h2 _).mono ?_
   rintro e w2 ⟨rfl,rfl⟩
   go_wp2_with fail
   go_ret
   rw [HV.out]
   exact ⟨rfl,rfl⟩
  ·have HV:Hid (cmpI x y=0):=by show _=_;unfold cmpI;rw [if_neg hxy,if_neg hyx]
   have e:x=y:=by omega
   subst e
   go_enter Tryz.func170,Tryz.ntmps170
   go_wp2_with fail
   refine (h1 _).mono ?_
   rintro e w1 ⟨rfl,rfl⟩
   go_wp2_with fail
   refine (h2 _).mono ?_
   rintro e w2 ⟨rfl,rfl⟩
   go_wp2_with fail
   go_ret
   rw [HV.out]
   exact ⟨rfl,rfl⟩
set_option maxHeartbeats 2000000 in
theorem scompare_any (A B:Option Addr) (ca cb:Nat) (a b:List Int) (w:World) (ha:a.length≤4) (hb:b.length≤4) (hA:PlAt w A ca a) (hB:PlAt w B cb b):Calls Tryz.prog 131 #[.slice A a.length ca,.slice B b.length cb] w fun e w'=>e=.returned (.int .i64 (cmpL a b))∧w'=w:=by
 have HA:Hid (PlAt w A ca a):=hA
 have HB:Hid (PlAt w B cb b):=hB
 have HN:Hid (∀ k,k<a.length→k<b.length→cmpL (a.drop k) (b.drop k)=if a.getD k 0<b.getD k 0 then -1 else if b.getD k 0<a.getD k 0 then 1 else cmpL (a.drop (k+1)) (b.drop (k+1))):=fun k h1 h2=>cmpL_in h1 h2
 have HL:Hid (∀ k,k<a.length→b.length≤k→cmpL (a.drop k) (b.drop k)=1):=fun k h1 h2=>cmpL_long h1 h2
 have HS:Hid (∀ k,a.length≤k→k<b.length→cmpL (a.drop k) (b.drop k) = -1):=fun k h1 h2=>cmpL_short h1 h2
 have HE:Hid (∀ k,a.length≤k→b.length≤k→cmpL (a.drop k) (b.drop k)=0):=fun k h1 h2=>cmpL_end h1 h2
 obtain ⟨na,hna⟩:∃ na,a.length=na:=⟨_,rfl⟩
 obtain ⟨nb,hnb⟩:∃ nb,b.length=nb:=⟨_,rfl⟩
 have HNA:Hid (a.length=na):=hna
 have HNB:Hid (b.length=nb):=hnb
 rw [hna] at HN HL HS HE ha
 rw [hnb] at HN HL HS HE hb
 rw [hna,hnb]
 have ha':(na:Int)≤4:=by omega
 have hb':(nb:Int)≤4:=by omega
 clear hA hB hna hnb
 go_enter Tryz.func131,Tryz.ntmps131
 go_wp2_with fail
 go_loopg [11] na (fun g s11 wr => ∃ (k:Nat),k≤na∧k≤nb∧g=na-k∧s11=.int .i64 k∧Hid (cmpL (a.drop k) (b.drop k)=cmpL a b)∧wr=w)
 case atStart=>exact ⟨0,Nat.zero_le _,Nat.zero_le _,rfl,rfl,(rfl:cmpL (a.drop 0) (b.drop 0)=cmpL a b),rfl⟩
 case round =>
  obtain ⟨k,hk,hk2,rfl,rfl,HF,hw⟩:=hrel
  subst hw
  by_cases hlt:k<na
  ·obtain ⟨hc,h0 | ⟨g1,o1,rfl,hbw,hcell⟩⟩:=HA.out
   ·have:=HNA.out;rw [h0] at this;simp at this;omega
   have x1:=hcell k (by rw [HNA.out];exact hlt)
   have hki:(k:Int)<(na:Int):=by omega
   by_cases hlb:k<nb
   ·obtain ⟨hc',h0 | ⟨g2,o2,rfl,hbw2,hcell2⟩⟩:=HB.out
    ·have:=HNB.out;rw [h0] at this;simp at this;omega
    have x2:=hcell2 k (by rw [HNB.out];exact hlb)
    have hkb:(k:Int)<(nb:Int):=by omega
    have hst:=HN.out k hlt hlb
    have hcmp:=compare_any (a.getD k 0) (b.getD k 0) wr
    generalize a.getD k 0=x at x1 hst hcmp
    generalize b.getD k 0=y at x2 hst hcmp
    have HST:Hid (cmpL (a.drop k) (b.drop k)=if x<y then -1 else if y<x then 1 else cmpL (a.drop (k+1)) (b.drop (k+1))):=hst
    clear hcell hcell2 hst
    by_cases hxy:x<y
    ·have hv:cmpI x y = -1:=by unfold cmpI;rw [if_pos hxy]
     rw [hv] at hcmp
     have HR:Hid (cmpL a b = -1):=by show _=_;rw [←HF.out,HST.out,if_pos hxy]
     clear hv hxy
     go_wp2_with fail
     refine hcmp.mono ?_
     rintro e w1 ⟨rfl,rfl⟩
     go_wp2_with fail
     go_ret
     rw [HR.out]
     exact ⟨rfl,rfl⟩
    ·by_cases hyx:y<x
     ·have hv:cmpI x y=1:=by unfold cmpI;rw [if_neg hxy,if_pos hyx]
      rw [hv] at hcmp
      have HR:Hid (cmpL a b=1):=by show _=_;rw [←HF.out,HST.out,if_neg hxy,if_pos hyx]
      clear hv hxy hyx
      go_wp2_with fail
      refine hcmp.mono ?_
      rintro e w1 ⟨rfl,rfl⟩
      go_wp2_with fail
      go_ret
      rw [HR.out]
      exact ⟨rfl,rfl⟩
     ·have hv:cmpI x y=0:=by unfold cmpI;rw [if_neg hxy,if_neg hyx]
      rw [hv] at hcmp
      have HR:Hid (cmpL (a.drop (k+1)) (b.drop (k+1))=cmpL a b):=by show _=_;rw [←HF.out,HST.out,if_neg hxy,if_neg hyx]
      clear hv hxy hyx
      go_wp2_with fail
      refine hcmp.mono ?_
      rintro e w1 ⟨rfl,rfl⟩
      go_wp2_with fail
      go_roundg (na-(k+1))
      case measure=>omega
      case rel=>exact ⟨k+1,by omega,by omega,rfl,by go_num,HR,rfl⟩
   ·have HR:Hid (cmpL a b=1):=by show _=_;rw [←HF.out,HL.out k hlt (by omega)]
    have hkb:(nb:Int)≤(k:Int):=by omega
    clear hcell
    generalize a.getD k 0=x at x1
    go_wp2_with fail
    go_ret
    rw [HR.out]
    exact ⟨rfl,rfl⟩
  ·have hke:k=na:=by omega
   subst hke
   by_cases hlb:k<nb
   ·have HR:Hid (cmpL a b = -1):=by show _=_;rw [←HF.out,HS.out k (Nat.le_refl _) hlb]
    have hkb:(k:Int)<(nb:Int):=by omega
    go_wp2_with fail
    go_ret
    rw [HR.out]
    exact ⟨rfl,rfl⟩
   ·have HR:Hid (cmpL a b=0):=by show _=_;rw [←HF.out,HE.out k (Nat.le_refl _) (by omega)]
    have hkb:(nb:Int)≤(k:Int):=by omega
    go_wp2_with fail
    go_ret
    rw [HR.out]
    exact ⟨rfl,rfl⟩
theorem order_any (A B:Option Addr) (ca cb:Nat) (a b:List Int) (N:Int) (w:World) (ha:a.length≤4) (hb:b.length≤4) (hA:PlAt w A ca a) (hB:PlAt w B cb b):Calls Tryz.prog 102 #[.agg #[.slice A a.length ca,.int .i64 N],.slice B b.length cb] w fun e w'=>e=.returned (.int .i64 (cmpL a b))∧Below w.heap.size w w':=by
 have h0:∀ w',Below w.heap.size w w'→Calls Tryz.prog 131 #[.slice A a.length ca,.slice B b.length cb] w' fun e w''=>e=.returned (.int .i64 (cmpL a b))∧w''=w':=fun w' hw'=>scompare_any A B ca cb a b w' ha hb (hA.later hw') (hB.later hw')
 have H:Hid (∀ w',Below w.heap.size w w'→Calls Tryz.prog 131 #[.slice A a.length ca,.slice B b.length cb] w' fun e w''=>e=.returned (.int .i64 (cmpL a b))∧w''=w'):=h0
 generalize cmpL a b=c at H
 generalize a.length=na at H
 generalize b.length=nb at H
 clear hA hB h0 ha hb
 go_enter Tryz.func102,Tryz.ntmps102
 go_wp2_with fail
 refine (H.out _ (by go_grown)).mono ?_
 rintro e w1 ⟨rfl,rfl⟩
 go_wp2_with fail
 go_ret
 exact ⟨rfl,by go_grown⟩
end Go.Proofs.YtfngmnhkhfgmjagGreatDoor
namespace Go.Proofs.YtfngmnhkhfgmjagGreatDoor
open Go.ChangeShapes Go.WideShapes Go.ChangeAt Go.RowKit
def At (s:Nat) (k n:Int) (w:World):Prop:=s<w.heap.size∧w.cell? ⟨s,0,none⟩=some (.int .i64 k)∧w.cell? ⟨s,1,none⟩=some (.int .i64 n)
end Go.Proofs.YtfngmnhkhfgmjagGreatDoor
