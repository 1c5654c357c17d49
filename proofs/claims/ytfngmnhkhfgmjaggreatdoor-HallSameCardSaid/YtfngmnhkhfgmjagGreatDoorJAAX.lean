/-
  What reach of package rules answers, in whatever memory: all that a member needs, that these need, and so on.
-/
import Derived.Test.YtfngmnhkhfgmjagGreatDoorJAAT
namespace Go.Proofs.YtfngmnhkhfgmjagGreatDoor
open Go.ChangeShapes Go.WideShapes Go.ChangeAt Go.RowKit
set_option maxRecDepth 20000
def RInv (N:List (List Int)) (i:Nat) (L:List Int) (k:Nat):Prop:=L.Nodup∧(∀ x∈L,Rch N i x)∧(∀ x∈N.getD i [],x∈L)∧∀ j,j<k→∀ y∈rowN N (L.getD j 0),y∈L
theorem rinv_start {N:List (List Int)} {i:Nat} (h:(N.getD i []).Nodup):RInv N i (N.getD i []) 0 :=
 ⟨h,fun x hx=>.one (by unfold rowN;simpa using hx),fun _ h=>h,fun j hj=>absurd hj (Nat.not_lt_zero _)⟩
theorem rinv_in {N:List (List Int)} {i:Nat} {L:List Int} {k:Nat} (h:RInv N i L k) (hN:Inn N) (hi:i<N.length):∀ x∈L,0≤x∧x<(N.length:Int):=fun x hx=>(h.2.1 x hx).inn hN (by omega) (by omega)
theorem rinv_len {N:List (List Int)} {i:Nat} {L:List Int} {k:Nat} (h:RInv N i L k) (hN:Inn N) (hi:i<N.length):L.length≤N.length:=few _ _ h.1 (rinv_in h hN hi)
theorem rinv_end {N:List (List Int)} {i:Nat} {L:List Int} (h:RInv N i L L.length):∀ x,x∈L↔Rch N i x:=fun x=>by
 refine ⟨h.2.1 x,fun hr=>hr.closed (S:=fun y=>y∈L) (fun y hy=>h.2.2.1 y (by unfold rowN at hy;simpa using hy)) fun y hy z hz=>?_⟩
 obtain ⟨j,hj,rfl⟩:=List.getElem_of_mem hy
 refine h.2.2.2 j hj z ?_
 rw [List.getD_eq_getElem?_getD,List.getElem?_eq_getElem hj]
 exact hz
theorem getD_app {L T:List Int} {j:Nat} (h:j<L.length):(L ++ T).getD j 0=L.getD j 0:=by
 rw [List.getD_eq_getElem?_getD,List.getD_eq_getElem?_getD,List.getElem?_append_left h]
theorem rinv_put {N:List (List Int)} {i:Nat} {L:List Int} {k:Nat} {x:Int} (h:RInv N i L k) (hk:k≤L.length) (hx:x∉L) (hr:Rch N i x):RInv N i (L ++ [x]) k:=by
 refine ⟨?_,fun y hy=>?_,fun y hy=>List.mem_append_left _ (h.2.2.1 y hy),fun j hj y hy=>?_⟩
 ·rw [List.nodup_append]
  refine ⟨h.1,by simp,fun a ha b hb e=>?_⟩
  rw [List.mem_singleton.1 hb] at e
  exact hx (e ▸ ha)
 ·rcases List.mem_append.1 hy with hy | hy
  ·exact h.2.1 y hy
  ·rw [List.mem_singleton.1 hy];exact hr
 ·rw [getD_app (by omega)] at hy
  exact List.mem_append_left _ (h.2.2.2 j hj y hy)
theorem rinv_next {N:List (List Int)} {i:Nat} {L:List Int} {k:Nat} (h:RInv N i L k) (hy:∀ y∈rowN N (L.getD k 0),y∈L):RInv N i L (k+1) :=
 ⟨h.1,h.2.1,h.2.2.1,fun j hj y hyj=>by
  by_cases e:j=k
  ·rw [e] at hyj;exact hy y hyj
  ·exact h.2.2.2 j (by omega) y hyj⟩
theorem mem_at {L:List Int} {j:Nat} (h:j<L.length):L.getD j 0∈L:=by
 rw [List.getD_eq_getElem?_getD,List.getElem?_eq_getElem h]
 exact List.getElem_mem h
set_option maxHeartbeats 4000000 in
theorem rureach_any (A:Option Addr) (cap:Nat) (xs:List RL) (i:Nat) (w:World) (hn:xs.length≤12) (hi:i<xs.length) (hN:Inn (lR xs)) (hnd:∀ x∈xs,x.p.Nodup∧x.p.length≤12) (hR:RowsV w A cap xs) :
  Calls Tryz.prog 176 #[.slice A xs.length cap,.int .i64 i] w fun e w'=>(∃ A' c' L,e=.returned (.slice A' L.length c')∧IntsAt w' A' c' L∧L.length≤12∧∀ x,x∈L↔Rch (lR xs) i x)∧Below w.heap.size w w':=by
 obtain ⟨i0,hi0,hz0,hz1,hz2⟩:=info_parts Tryz.infoInt
 have HR:Hid (RowsV w A cap xs):=hR
 have HNd:Hid (∀ x∈xs,x.p.Nodup∧x.p.length≤12):=hnd
 have HIn:Hid (Inn (lR xs)):=hN
 have HLen:Hid ((lR xs).length=xs.length):=lR_len xs
 obtain ⟨hcap,h0 | ⟨b,rfl,hbw,hcell⟩,hrows⟩:=hR
 ·rw [h0] at hi;simp at hi
 have hci:=hcell i hi
 have hri:=hrows _ (rl_mem hi)
 have hni:=hnd _ (rl_mem hi)
 have HC:Hid (∀ k,k<xs.length→w.cell? ⟨b,k,none⟩=some (.slice (xs.getD k noR).A (xs.getD k noR).p.length (xs.getD k noR).c)):=hcell
 have HRw:Hid (∀ x∈xs,IntT w x.A x.c x.p):=hrows
 have HSt:Hid (RInv (lR xs) i (xs.getD i noR).p 0):=by
  have h:=rinv_start (N:=lR xs) (i:=i) (by rw [lR_at];exact hni.1)
  rw [lR_at] at h
  exact h
 have hcl:=iclone_any (xs.getD i noR).A (xs.getD i noR).c (xs.getD i noR).p w hni.2 hri
 obtain ⟨n,hnn⟩:∃ n,xs.length=n:=⟨_,rfl⟩
 have HX:Hid (xs.length=n):=hnn
 rw [hnn] at hn hi hcap ⊢
 have hii:(i:Int)<(n:Int):=by omega
 have hnI:(n:Int)≤12:=by omega
 obtain ⟨pi,hpi⟩:∃ pi,(xs.getD i noR).p=pi:=⟨_,rfl⟩
 rw [hpi] at hci hcl HSt
 generalize (xs.getD i noR).A=Ai at hci hcl
 generalize (xs.getD i noR).c=ci at hci hcl
 clear hcell hrows hnd hN hri hni hpi hnn
 go_enter Tryz.func176,Tryz.ntmps176
 go_wp2_with fail
 refine hcl.mono ?_
 rintro e w1 ⟨⟨v1,rfl,hO1⟩,hb1⟩
 have HO1:Hid (w1.ownsRow w.heap.size 3 1 v1 pi.length (mapI pi)):=hO1
 have HB1:Hid (Below w.heap.size w w1):=hb1
 clear hO1 hb1 hcl hci
 go_wp2_with fail
 go_loopg [5,6] n (fun g s5 s6 wr => ∃ (k:Nat) (L:List Int),k≤L.length∧g=n-k∧s6=.int .i64 k∧Hid (RInv (lR xs) i L k)∧wr.ownsRow w.heap.size 3 1 s5 L.length (mapI L)∧Below w.heap.size w wr)
 case atStart=>exact ⟨0,pi,Nat.zero_le _,rfl,rfl,HSt,HO1.out,HB1.out⟩
 case round =>
  obtain ⟨k,L,hk,rfl,rfl,HI,hown,hBw⟩:=hrel
  have HBw:Hid (Below w.heap.size w wr):=hBw
  have HO:Hid (wr.ownsRow w.heap.size 3 1 u5 L.length (mapI L)):=hown
  have hLn:L.length≤n:=by rw [←HX.out,←HLen.out];exact rinv_len HI.out HIn.out (by rw [HLen.out,HX.out];exact hi)
  obtain ⟨AL,cL,rfl,hIL⟩:=intT_own hown
  obtain ⟨m,hm⟩:∃ m,L.length=m:=⟨_,rfl⟩
  have HM:Hid (L.length=m):=hm
  have hmI:(m:Int)≤12:=by omega
  rw [hm] at hk hLn
  rw [hm]
  by_cases hlt:k<m
  ·have hki:(k:Int)<(m:Int):=by omega
   obtain ⟨hcL,-,hL0 | ⟨bl,cs,fr,rfl,hbl,hcl⟩⟩:=hIL
   ·rw [hL0] at hm;simp at hm;omega
   have cx:=hcl k (by omega)
   have hx:=rinv_in HI.out HIn.out (by rw [HLen.out,HX.out];exact hi) _ (mem_at (L:=L) (j:=k) (by omega))
   rw [HLen.out,HX.out] at hx
   obtain ⟨y,hy⟩:∃ y:Nat,L.getD k 0=(y:Int):=⟨(L.getD k 0).toNat,by omega⟩
   have HY:Hid (L.getD k 0=(y:Int)):=hy
   rw [hy] at cx hx
   have hyn:y<n:=by omega
   have hyi:(y:Int)<(n:Int):=by omega
   have cy:=(hBw.cell (p:=⟨b,y,none⟩) hbw).trans (HC.out y (by rw [HX.out];exact hyn))
   have HRy:Hid (IntT w (xs.getD y noR).A (xs.getD y noR).c (xs.getD y noR).p):=HRw.out _ (rl_mem (by rw [HX.out];exact hyn))
   have hry:=(HNd.out _ (rl_mem (k:=y) (by rw [HX.out];exact hyn))).2
   have HRow:Hid (rowN (lR xs) (L.getD k 0)=(xs.getD y noR).p):=by
    show _=_
    rw [hy]
    unfold rowN
    rw [Int.toNat_natCast,lR_at]
   have HRk:Hid (Rch (lR xs) i (L.getD k 0)):=HI.out.2.1 _ (mem_at (by omega))
   obtain ⟨R,hRe⟩:∃ R,(xs.getD y noR).p=R:=⟨_,rfl⟩
   rw [hRe] at cy HRy hry HRow
   generalize (xs.getD y noR).A=Ay at cy HRy
   generalize (xs.getD y noR).c=cy' at cy HRy
   obtain ⟨r,hr⟩:∃ r,R.length=r:=⟨_,rfl⟩
   have HRl:Hid (R.length=r):=hr
   rw [hr] at cy hry
   have hrI:(r:Int)≤12:=by omega
   have hblt:bl<wr.heap.size:=(Array.getElem?_eq_some_iff.1 hbl).1
   clear hcl hx hown hBw hbl hy hRe hr hm
   go_wp2_with fail
   go_loopg [5,28] r (fun gg s5 s28 wi => ∃ (j:Nat) (K:List Int),j≤r∧gg=r-j∧s28=.int .i64 j∧Hid (RInv (lR xs) i K k∧(∃ T,K=L ++ T)∧∀ t,t<j→R.getD t 0∈K)∧wi.ownsRow w.heap.size 3 1 s5 K.length (mapI K)∧Below w.heap.size w wi)
   case atStart=>exact ⟨0,L,Nat.zero_le _,rfl,rfl,(⟨HI.out,⟨[],by simp⟩,fun t ht=>absurd ht (Nat.not_lt_zero _)⟩:_∧_∧_),by have h:=HO.out;rw [HM.out] at h;rw [HM.out];exact h,HBw.out⟩
   case round =>
    obtain ⟨wj,rfl⟩:∃ wj:World,wj=wr:=⟨_,rfl⟩
    obtain ⟨j,K,hj,rfl,rfl,HK,hown,hBj⟩:=hrel
    have HBj:Hid (Below w.heap.size w wj):=hBj
    have HOj:Hid (wj.ownsRow w.heap.size 3 1 u5 K.length (mapI K)):=hown
    have hKn:K.length≤n:=by rw [←HX.out,←HLen.out];exact rinv_len HK.out.1 HIn.out (by rw [HLen.out,HX.out];exact hi)
    obtain ⟨AK,cK,rfl,hIK⟩:=intT_own hown
    by_cases hjl:j<r
    ·have hji:(j:Int)<(r:Int):=by omega
     obtain ⟨hcR,-,hR0 | ⟨br,csr,frr,rfl,hbr,hcr⟩⟩:=HRy.out.later hBj
     ·have:=HRl.out;rw [hR0] at this;simp at this;omega
     have cz:=hcr j (by rw [HRl.out];exact hjl)
     have hbrl:br<wj.heap.size:=(Array.getElem?_eq_some_iff.1 hbr).1
     rw [HRl.out] at hcR
     have hcRi:(r:Int)≤(cy':Int):=by omega
     obtain ⟨x,hx⟩:∃ x,R.getD j 0=x:=⟨_,rfl⟩
     have HXx:Hid (R.getD j 0=x):=hx
     rw [hx] at cz
     have hct:=contains_ints AK cK K x wj (by omega) hIK.at
     obtain ⟨mk,hmk⟩:∃ mk,K.length=mk:=⟨_,rfl⟩
     have HMk:Hid (K.length=mk):=hmk
     have HKn:Hid (mk≤n):=by show _≤_;omega
     rw [hmk] at hct hKn
     rw [hmk]
     clear hcr hbr hown hBj hIK hx hmk
     by_cases hin:x∈K
     ·have hb:inB K x=true:=by unfold inB;exact decide_eq_true hin
      rw [hb] at hct
      have HK2:Hid (RInv (lR xs) i K k∧(∃ T,K=L ++ T)∧∀ t,t<j+1→R.getD t 0∈K):=⟨HK.out.1,HK.out.2.1,fun t ht=>by
       by_cases e:t=j
       ·rw [e,HXx.out];exact hin
       ·exact HK.out.2.2 t (by omega)⟩
      clear hb hin
      go_wp2_with fail
      refine hct.mono ?_
      rintro e w2 ⟨rfl,hb2⟩
      have HB2:Hid (Below w.heap.size w w2):=onB HBj.out hb2
      have HO2:Hid (w2.ownsRow w.heap.size 3 1 (.slice AK mk cK) K.length (mapI K)):=by have h:=own_later HOj.out hb2;rw [HMk.out] at h;show World.ownsRow ..;rw [HMk.out];exact h
      clear hb2 hct
      go_wp2_with fail
      go_roundg (r-(j+1))
      case measure=>omega
      case rel=>exact ⟨j+1,K,by omega,rfl,by go_num,HK2,HO2.out,HB2.out⟩
     ·have hb:inB K x=false:=by unfold inB;exact decide_eq_false hin
      rw [hb] at hct
      have HK2:Hid (RInv (lR xs) i (K ++ [x]) k∧(∃ T,K ++ [x]=L ++ T)∧∀ t,t<j+1→R.getD t 0∈K ++ [x]):=by
       obtain ⟨hI,⟨T,hT⟩,hA⟩:=HK.out
       refine ⟨rinv_put hI ?_ hin ?_,⟨T ++ [x],by rw [hT,List.append_assoc]⟩,fun t ht=>?_⟩
       ·rw [hT,List.length_append,HM.out];omega
       ·refine HRk.out.snoc ?_
        rw [HRow.out,←HXx.out]
        exact mem_at (by rw [HRl.out];exact hjl)
       ·by_cases e:t=j
        ·rw [e,HXx.out];simp
        ·exact List.mem_append_left _ (hA t (by omega))
      clear hb hin
      go_wp2_with fail
      refine hct.mono ?_
      rintro e w2 ⟨rfl,hb2⟩
      have hB2:Below w.heap.size w w2:=onB HBj.out hb2
      have HB2:Hid (Below w.heap.size w w2):=hB2
      have HO2:Hid (w2.ownsRow w.heap.size 3 1 (.slice AK mk cK) mk (mapI K)):=by have h:=own_later HOj.out hb2;rw [HMk.out] at h;exact h
      have hsz:=hB2.size
      clear hb2 hct hB2
      go_wp2_with (at_builtin;refine wpList_append_own _ rfl _ _ 38 rfl w.heap.size 3 i0 (.int .i64 0) 1 8 Tryz.underlying38 hi0 hz0 hz1 hz2 rfl (by decide) _ _ _ rfl (HO2.out.alloc _) ⟨w2.heap.size,0,none⟩ 1 1 [.int .i64 x] rfl rfl one_cell one_one (by have:=HKn.out;unfold maxLen;omega) (by have:=HKn.out;omega) (by simp;omega) ?_)
      intro v' w3 hown' hgrow _
      have HB3:Hid (Below w.heap.size w w3):=grown_own HB2.out HO2.out hgrow
      have HO3:Hid (w3.ownsRow w.heap.size 3 1 v' (K ++ [x]).length (mapI (K ++ [x]))):=by
       show World.ownsRow ..
       rw [mapI_snoc,List.length_append,HMk.out];exact hown'
      clear hown' hgrow
      go_wp2_with fail
      go_roundg (r-(j+1))
      case measure=>omega
      case rel=>exact ⟨j+1,K ++ [x],by omega,rfl,by go_num,HK2,HO3.out,HB3.out⟩
    ·have hje:j=r:=by omega
     subst hje
     have HI2:Hid (k+1≤K.length∧RInv (lR xs) i K (k+1)):=by
      obtain ⟨hI,⟨T,hT⟩,hA⟩:=HK.out
      refine ⟨by rw [hT,List.length_append,HM.out];omega,rinv_next hI fun y' hy'=>?_⟩
      rw [hT,getD_app (by rw [HM.out];exact hlt),HRow.out] at hy'
      obtain ⟨t,ht,rfl⟩:=List.getElem_of_mem hy'
      have h:=hA t (by rw [←HRl.out];exact ht)
      rw [List.getD_eq_getElem?_getD,List.getElem?_eq_getElem ht] at h
      exact h
     clear hown hBj hIK hKn
     go_wp2_with fail
     go_roundg (n-(k+1))
     case measure=>omega
     case rel=>exact ⟨k+1,K,HI2.out.1,rfl,by go_num,HI2.out.2,HOj.out,HBj.out⟩
  ·have hke:k=m:=by omega
   subst hke
   have HEnd:Hid (∀ x,x∈L↔Rch (lR xs) i x):=rinv_end (by rw [HM.out];exact HI.out)
   have HIL:Hid (IntsAt wr AL cL L):=hIL.at
   clear hown hBw hIL hm
   go_wp2_with fail
   go_ret
   exact ⟨⟨AL,cL,L,by rw [HM.out];rfl,HIL.out,by rw [HM.out];omega,HEnd.out⟩,HBw.out⟩
end Go.Proofs.YtfngmnhkhfgmjagGreatDoor
namespace Go.Proofs.YtfngmnhkhfgmjagGreatDoor
def misC (N:List (List Int)) (out:List Int) (j:Nat):Nat:=((N.getD j []).filter fun x => !(out.contains x)).length
def usrL (N:List (List Int)) (m n:Nat):List Int:=selTo (fun j=>(N.getD j []).contains (m:Int)) n
theorem usr_mem {N:List (List Int)} {m n:Nat} {x:Int}:x∈usrL N m n↔∃ j:Nat,x=j∧j<n∧(m:Int)∈N.getD j []:=by
 unfold usrL
 constructor
 ·intro h
  obtain ⟨j,h1,h2,h3⟩:=selTo_mem x h
  exact ⟨j,h1,h2,List.contains_iff_mem.1 h3⟩
 ·rintro ⟨j,rfl,h2,h3⟩
  exact sel_has h2 (List.contains_iff_mem.2 h3)
theorem usr_rise (N:List (List Int)) (m n:Nat):(usrL N m n).Pairwise (· < ·):=sel_rise _ _
theorem mis_none {N:List (List Int)} {out:List Int} {j:Nat}:misC N out j=0↔∀ x∈N.getD j [],x∈out:=by
 unfold misC
 rw [List.length_eq_zero_iff,List.filter_eq_nil_iff]
 refine forall_congr' fun x=>forall_congr' fun _=>?_
 simp
theorem mis_first (N:List (List Int)) (j:Nat):misC N [] j=(N.getD j []).length:=by
 unfold misC
 rw [List.filter_eq_self.2 fun x _=>by simp]
theorem mis_le (N:List (List Int)) (out:List Int) (j:Nat):misC N out j≤(N.getD j []).length:=List.length_filter_le _ _
theorem filt_one:∀ (L out:List Int) (m:Int),L.Pairwise (· < ·)→m∉out→(L.filter fun x => !(out.contains x)).length=(L.filter fun x => !((out ++ [m]).contains x)).length+(if m∈L then 1 else 0)
 | [],_,_,_,_=>rfl
 | a :: L,out,m,hL,hm=>by
  obtain ⟨h1,h2⟩:=List.pairwise_cons.1 hL
  have ih:=filt_one L out m h2 hm
  have hc:∀ x,(out ++ [m]).contains x=(out.contains x || x == m):=fun x=>by
   rw [Bool.eq_iff_iff,Bool.or_eq_true,List.contains_iff_mem,List.contains_iff_mem,List.mem_append,List.mem_singleton,beq_iff_eq]
  rw [List.filter_cons,List.filter_cons]
  by_cases ha:a=m
  ·subst ha
   have hn:a∉L:=fun h=>by have:=h1 a h;omega
   have e1:out.contains a=false:=by rw [←Bool.not_eq_true,List.contains_iff_mem];exact hm
   rw [hc a,e1]
   rw [if_neg hn] at ih
   simp only [Bool.not_false,if_true,beq_self_eq_true,Bool.or_true,Bool.not_true,Bool.false_eq_true,if_false,List.length_cons,List.mem_cons,true_or]
   omega
  ·have hb:(a == m)=false:=by simpa using ha
   have e2:(m∈a :: L)↔m∈L:=by
    rw [List.mem_cons]
    exact ⟨fun h=>h.resolve_left (fun e=>ha e.symm),Or.inr⟩
   rw [hc a,hb,Bool.or_false]
   cases out.contains a
   ·simp only [Bool.not_false,if_true,List.length_cons,e2]
    omega
   ·simp only [Bool.not_true,Bool.false_eq_true,if_false,e2]
    exact ih
theorem mis_next {N:List (List Int)} {out:List Int} {m j:Nat} (hr:(N.getD j []).Pairwise (· < ·)) (hm:(m:Int)∉out):misC N out j=misC N (out ++ [(m:Int)]) j+(if (m:Int)∈N.getD j [] then 1 else 0):=filt_one _ _ _ hr hm
theorem ord_closed (N:List (List Int)) (k:Nat):∀ j:Nat,(j:Int)∈ordTo N k→∀ x∈N.getD j [],x∈ordTo N k:=by
 induction k with
 | zero=>intro j hj;cases hj
 | succ k ih =>
  intro j hj x hx
  rw [ordTo,List.mem_append] at hj ⊢
  rcases hj with hj | hj
  ·exact Or.inl (ih j hj x hx)
  ·split at hj
   ·rename_i h
    obtain ⟨m,h1,-,h3,-⟩:=next_some h
    rw [List.mem_singleton,h1] at hj
    have:j=m:=by omega
    subst this
    exact Or.inl ((ok_out h3).2 x hx)
   ·cases hj
def RdyP (N:List (List Int)) (out R:List Int):Prop:=R.Pairwise (· < ·)∧∀ x,x∈R↔∃ j:Nat,x=j∧j<N.length∧okN N out j=true
def RdyI (N:List (List Int)) (out:List Int) (m i:Nat) (R:List Int):Prop:=R.Pairwise (· < ·)∧∀ x,x∈R↔∃ j:Nat,x=j∧j<N.length∧((okN N out j=true∧j≠m)∨((j:Int)∈(usrL N m N.length).take i∧misC N out j=1))
def misI (N:List (List Int)) (out:List Int) (m i j:Nat):Nat:=misC N out j-(if (j:Int)∈(usrL N m N.length).take i then 1 else 0)
theorem rdy_first {N:List (List Int)} {R:List Int} (hR:R=selTo (fun j=>(N.getD j []).isEmpty) N.length):RdyP N [] R:=by
 subst hR
 refine ⟨sel_rise _ _,fun x=>?_⟩
 constructor
 ·intro h
  obtain ⟨j,h1,h2,h3⟩:=selTo_mem x h
  refine ⟨j,h1,h2,ok_of (by simp) fun y hy=>?_⟩
  rw [List.isEmpty_iff] at h3
  rw [h3] at hy
  cases hy
 ·rintro ⟨j,rfl,h2,h3⟩
  refine sel_has h2 ?_
  rw [List.isEmpty_iff]
  have:=(ok_out h3).2
  cases h:N.getD j [] with
  | nil=>rfl
  | cons a r=>exact absurd (this a (by rw [h];simp)) (by simp)
theorem rdy_head {N:List (List Int)} (hN:Inn N) (hc:∀ i:Nat,i<N.length→cycB N i=false) {k:Nat} (hk:k<N.length) {R:List Int} (hR:RdyP N (ordTo N k) R):∃ (m:Nat) (R':List Int),R=(m:Int) :: R'∧m<N.length∧okN N (ordTo N k) m=true∧ordTo N (k+1)=ordTo N k ++ [(m:Int)]∧RdyI N (ordTo N k) m 0 R':=by
 obtain ⟨m,-,h2,h3,h4,h5⟩:=ord_snoc hN hc hk
 obtain ⟨hr,hm⟩:=hR
 have hmR:=(hm m).2 ⟨m,rfl,h2,h3⟩
 cases R with
 | nil=>cases hmR
 | cons a R' =>
  obtain ⟨r1,r2⟩:=List.pairwise_cons.1 hr
  have ham:a=(m:Int):=by
   obtain ⟨j,e1,e2,e3⟩:=(hm a).1 (by simp)
   rcases List.mem_cons.1 hmR with h | h
   ·exact h.symm
   ·have h6:=r1 _ h
    rw [h4 j (by omega)] at e3
    cases e3
  subst ham
  refine ⟨m,R',rfl,h2,h3,h5,r2,fun x=>?_⟩
  constructor
  ·intro hx
   obtain ⟨j,e1,e2,e3⟩:=(hm x).1 (List.mem_cons_of_mem _ hx)
   refine ⟨j,e1,e2,Or.inl ⟨e3,fun e=>?_⟩⟩
   have:=r1 x hx
   omega
  ·rintro ⟨j,rfl,e2,(⟨e3,e4⟩ | ⟨e3,-⟩)⟩
   ·rcases List.mem_cons.1 ((hm j).2 ⟨j,rfl,e2,e3⟩) with h | h
    ·omega
    ·exact h
   ·simp at e3
theorem rdy_end {N:List (List Int)} (hN:Inn N) (hc:∀ i:Nat,i<N.length→cycB N i=false) {R:List Int} (hR:RdyP N (ordTo N N.length) R):R=[]:=by
 refine List.eq_nil_iff_forall_not_mem.2 fun x hx=>?_
 obtain ⟨j,rfl,h2,h3⟩:=(hR.2 x).1 hx
 have hj:=(ok_out h3).1
 obtain ⟨h1,h4⟩:=ord_in N N.length
 have:=few N.length ((j:Int) :: ordTo N N.length) (List.nodup_cons.2 ⟨hj,h1⟩) fun y hy=>by
  rcases List.mem_cons.1 hy with rfl | hy
  ·omega
  ·exact h4 y hy
 rw [List.length_cons,ord_len hN hc N.length (Nat.le_refl _)] at this
 omega
def insL (R:List Int) (k:Int):List Int:=R.take (R.countP (· < k)) ++ k :: R.drop (R.countP (· < k))
theorem ins_parts:∀ (R:List Int) (k:Int),R.Pairwise (· < ·)→k∉R→(∀ a∈R.take (R.countP (· < k)),a<k)∧∀ b∈R.drop (R.countP (· < k)),k<b
 | [],k,_,_=>⟨fun a h=>by simp at h,fun b h=>by simp at h⟩
 | a :: R,k,hR,hk=>by
  obtain ⟨h1,h2⟩:=List.pairwise_cons.1 hR
  have hk2:k≠a∧k∉R:=by simpa using hk
  by_cases h:a<k
  ·obtain ⟨i1,i2⟩:=ins_parts R k h2 hk2.2
   rw [List.countP_cons_of_pos (by simpa using h),List.take_succ_cons,List.drop_succ_cons]
   refine ⟨fun x hx=>?_,i2⟩
   rcases List.mem_cons.1 hx with rfl | hx
   ·exact h
   ·exact i1 x hx
  ·have h0:(a :: R).countP (· < k)=0:=by
    rw [List.countP_eq_zero]
    intro x hx
    rcases List.mem_cons.1 hx with rfl | hx
    ·simpa using h
    ·have:=h1 x hx
     simp;omega
   rw [h0]
   refine ⟨fun x hx=>by simp at hx,fun x hx=>?_⟩
   rcases List.mem_cons.1 (show x∈a :: R from hx) with rfl | hx
   ·omega
   ·have:=h1 x hx;omega
theorem ins_rise {R:List Int} {k:Int} (hR:R.Pairwise (· < ·)) (hk:k∉R):(insL R k).Pairwise (· < ·)∧∀ x,x∈insL R k↔x=k∨x∈R:=by
 obtain ⟨h1,h2⟩:=ins_parts R k hR hk
 have hsp:R.take (R.countP (· < k)) ++ R.drop (R.countP (· < k))=R:=List.take_append_drop _ _
 refine ⟨?_,fun x=>?_⟩
 ·unfold insL
  rw [List.pairwise_append]
  refine ⟨hR.sublist (List.take_sublist _ _),List.pairwise_cons.2 ⟨h2,hR.sublist (List.drop_sublist _ _)⟩,fun a ha b hb=>?_⟩
  rcases List.mem_cons.1 hb with rfl | hb
  ·exact h1 a ha
  ·have:=h1 a ha
   have:=h2 b hb
   omega
 ·unfold insL
  rw [List.mem_append,List.mem_cons]
  have:x∈R↔x∈R.take (R.countP (· < k))∨x∈R.drop (R.countP (· < k)):=by rw [←List.mem_append,hsp]
  rw [this]
  constructor
  ·rintro (h | h | h)
   ·exact Or.inr (Or.inl h)
   ·exact Or.inl h
   ·exact Or.inr (Or.inr h)
  ·rintro (h | h | h)
   ·exact Or.inr (Or.inl h)
   ·exact Or.inl h
   ·exact Or.inr (Or.inr h)
theorem usr_take {N:List (List Int)} {m i:Nat} (hi:i<(usrL N m N.length).length) (x:Int):x∈(usrL N m N.length).take (i+1)↔x∈(usrL N m N.length).take i∨x=(usrL N m N.length).getD i 0:=by
 rw [List.take_succ_eq_append_getElem hi,List.mem_append,List.mem_singleton,List.getD_eq_getElem?_getD,List.getElem?_eq_getElem hi]
 rfl
theorem usr_new {N:List (List Int)} {m i:Nat} (hi:i<(usrL N m N.length).length):(usrL N m N.length).getD i 0∉(usrL N m N.length).take i:=by
 intro h
 rw [List.getD_eq_getElem?_getD,List.getElem?_eq_getElem hi,Option.getD_some] at h
 obtain ⟨j,hj,e⟩:=List.getElem_of_mem h
 have hj2:j<i:=by have:=hj;rw [List.length_take] at this;omega
 rw [List.getElem_take] at e
 have:=List.pairwise_iff_getElem.1 (usr_rise N m N.length) j i (by omega) hi hj2
 omega
theorem usr_step {N:List (List Int)} (hr:∀ j,j<N.length→(N.getD j []).Pairwise (· < ·)) {out:List Int} {m i:Nat} (hm:okN N out m=true) (hi:i<(usrL N m N.length).length):∃ u:Nat,(usrL N m N.length).getD i 0=(u:Int)∧u<N.length∧misI N out m i u=misC N out u∧1≤misC N out u∧misI N out m (i+1) u+1=misC N out u∧(∀ j,j≠u→misI N out m (i+1) j=misI N out m i j)∧∀ R,RdyI N out m i R→(u:Int)∉R∧(misC N out u=1→RdyI N out m (i+1) (insL R u))∧(misC N out u≠1→RdyI N out m (i+1) R):=by
 have hmo:=(ok_out hm).1
 have hmem:(usrL N m N.length).getD i 0∈usrL N m N.length:=by
  rw [List.getD_eq_getElem?_getD,List.getElem?_eq_getElem hi];exact List.getElem_mem hi
 obtain ⟨u,e1,e2,e3⟩:=usr_mem.1 hmem
 have hnew:=usr_new hi
 rw [e1] at hnew
 have h1:1≤misC N out u:=by
  have:=mis_next (hr u e2) hmo
  rw [if_pos e3] at this
  omega
 have hnk:okN N out u=false:=by
  rw [←Bool.not_eq_true]
  intro h
  exact hmo ((ok_out h).2 _ e3)
 have ht:=fun x=>usr_take (N:=N) (m:=m) hi x
 rw [e1] at ht
 refine ⟨u,e1,e2,by unfold misI;rw [if_neg hnew];omega,h1,?_,fun j hj=>?_,fun R hR=>?_⟩
 ·unfold misI
  rw [if_pos ((ht u).2 (Or.inr rfl))]
  omega
 ·unfold misI
  have:((j:Int)∈(usrL N m N.length).take (i+1))↔(j:Int)∈(usrL N m N.length).take i:=by
   rw [ht]
   exact ⟨fun h=>h.resolve_right (by omega),Or.inl⟩
  simp only [this]
 ·have hnR:(u:Int)∉R:=fun h=>by
   obtain ⟨j,f1,f2,(⟨f3,-⟩ | ⟨f3,-⟩)⟩:=(hR.2 u).1 h
   ·have:j=u:=by omega
    subst this
    rw [hnk] at f3
    cases f3
   ·have:j=u:=by omega
    subst this
    exact hnew f3
  refine ⟨hnR,fun h=>?_,fun h=>⟨hR.1,fun x=>?_⟩⟩
  ·obtain ⟨i1,i2⟩:=ins_rise hR.1 hnR
   refine ⟨i1,fun x=>?_⟩
   rw [i2,hR.2]
   constructor
   ·rintro (rfl | ⟨j,f1,f2,f3⟩)
    ·exact ⟨u,rfl,e2,Or.inr ⟨(ht u).2 (Or.inr rfl),h⟩⟩
    ·refine ⟨j,f1,f2,?_⟩
     rcases f3 with f3 | ⟨f3,f4⟩
     ·exact Or.inl f3
     ·exact Or.inr ⟨(ht j).2 (Or.inl f3),f4⟩
   ·rintro ⟨j,f1,f2,(f3 | ⟨f3,f4⟩)⟩
    ·exact Or.inr ⟨j,f1,f2,Or.inl f3⟩
    ·rcases (ht j).1 f3 with f5 | f5
     ·exact Or.inr ⟨j,f1,f2,Or.inr ⟨f5,f4⟩⟩
     ·exact Or.inl (f1.trans f5)
  ·rw [hR.2]
   constructor
   ·rintro ⟨j,f1,f2,f3⟩
    refine ⟨j,f1,f2,?_⟩
    rcases f3 with f3 | ⟨f3,f4⟩
    ·exact Or.inl f3
    ·exact Or.inr ⟨(ht j).2 (Or.inl f3),f4⟩
   ·rintro ⟨j,f1,f2,(f3 | ⟨f3,f4⟩)⟩
    ·exact ⟨j,f1,f2,Or.inl f3⟩
    ·rcases (ht j).1 f3 with f5 | f5
     ·exact ⟨j,f1,f2,Or.inr ⟨f5,f4⟩⟩
     ·have:j=u:=by omega
      subst this
      exact absurd f4 h
theorem usr_end {N:List (List Int)} (hr:∀ j,j<N.length→(N.getD j []).Pairwise (· < ·)) {k m:Nat} (hm:okN N (ordTo N k) m=true):(∀ j,j<N.length→misI N (ordTo N k) m (usrL N m N.length).length j=misC N (ordTo N k ++ [(m:Int)]) j)∧∀ R,RdyI N (ordTo N k) m (usrL N m N.length).length R→RdyP N (ordTo N k ++ [(m:Int)]) R:=by
 have hmo:=(ok_out hm).1
 have hmn:=(ok_out hm).2
 refine ⟨fun j hj=>?_,fun R hR=>⟨hR.1,fun x=>?_⟩⟩
 ·unfold misI
  rw [List.take_length]
  have h1:=mis_next (hr j hj) hmo
  by_cases h:(m:Int)∈N.getD j []
  ·rw [if_pos (usr_mem.2 ⟨j,rfl,hj,h⟩)]
   rw [if_pos h] at h1
   omega
  ·have hnu:(j:Int)∉usrL N m N.length:=fun e=>by
    obtain ⟨i,e1,-,e3⟩:=usr_mem.1 e
    have e2:i=j:=by omega
    rw [e2] at e3
    exact h e3
   rw [if_neg hnu]
   rw [if_neg h] at h1
   omega
 ·rw [hR.2,List.take_length]
  constructor
  ·rintro ⟨j,f1,f2,f3⟩
   refine ⟨j,f1,f2,?_⟩
   rcases f3 with ⟨f3,f4⟩ | ⟨f3,f4⟩
   ·obtain ⟨g1,g2⟩:=ok_out f3
    refine ok_of ?_ fun y hy=>List.mem_append.2 (Or.inl (g2 y hy))
    rw [List.mem_append,List.mem_singleton]
    rintro (h | h)
    ·exact g1 h
    ·omega
   ·obtain ⟨i,e1,e2,e3⟩:=usr_mem.1 f3
    have:i=j:=by omega
    subst this
    have h1:=mis_next (hr i e2) hmo
    rw [if_pos e3,f4] at h1
    refine ok_of ?_ (mis_none.1 (by omega))
    rw [List.mem_append,List.mem_singleton]
    rintro (h | h)
    ·exact hmo (ord_closed N k i h _ e3)
    ·have:i=m:=by omega
     subst this
     exact hmo (hmn _ e3)
  ·rintro ⟨j,f1,f2,f3⟩
   obtain ⟨g1,g2⟩:=ok_out f3
   rw [List.mem_append,List.mem_singleton] at g1
   refine ⟨j,f1,f2,?_⟩
   by_cases h:(m:Int)∈N.getD j []
   ·refine Or.inr ⟨usr_mem.2 ⟨j,rfl,f2,h⟩,?_⟩
    have h1:=mis_next (hr j f2) hmo
    rw [if_pos h,mis_none.2 g2] at h1
    omega
   ·refine Or.inl ⟨ok_of (fun e=>g1 (Or.inl e)) fun y hy=>?_,fun e=>g1 (Or.inr (by omega))⟩
    rcases List.mem_append.1 (g2 y hy) with h2 | h2
    ·exact h2
    ·rw [List.mem_singleton] at h2
     rw [h2] at hy
     exact absurd hy h
end Go.Proofs.YtfngmnhkhfgmjagGreatDoor
