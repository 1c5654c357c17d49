/-
  Whatever text is read as a formula, what Print writes of it is no longer than that text, on plain data.
-/
import Derived.Test.YtfldgghobddgkaaGreatDoorJDAP
import Derived.Test.YtfldgghobddgkaaGreatDoorJDAY
namespace Go.Proofs.YtfldgghobddgkaaGreatDoor
theorem form_prs {s:ByteArray} (h:prsE s=0):formErr (prsL s)=0:=by
 have hL:prsL s=nodesP s:=by unfold prsL;rw [if_pos h]
 rw [hL]
 unfold prsE at h
 split at h
 ·split at h <;> cases h
 ·split at h
  ·exact h
  ·cases h
end Go.Proofs.YtfldgghobddgkaaGreatDoor
namespace Go.Proofs.YtfldgghobddgkaaGreatDoor
open Go.ChangeShapes Go.WideShapes Go.ChangeAt Go.RowKit
set_option maxRecDepth 20000
def ndTo (d:Dm) (k:Nat):List (List Int):=(List.range k).map (mNd d)
theorem ndTo_snoc (d:Dm) (k:Nat):ndTo d (k+1)=ndTo d k ++ [mNd d k]:=by simp [ndTo,List.range_succ]
theorem nd_rows {d:Dm} {xs:List RL} (h:lR xs=ndL d):∀ x∈xs,x.p.Nodup∧x.p.length≤d.n:=fun x hx=>by
 have h1:x.p∈ndL d:=by rw [←h];exact List.mem_map.2 ⟨x,hx,rfl⟩
 obtain ⟨i,-,e⟩:=List.mem_map.1 h1
 rw [←e]
 exact ⟨rise_nodup (mNd_rise d i),mNd_len d i⟩
theorem dim_cells {w w1:World} {d:Dm} {A:Option Addr} {cap:Nat} (hB:Below (ownDim w d A cap 41).heap.size (ownDim w d A cap 41) w1):w1.cell? ⟨w.heap.size,0,none⟩=some (.string d.name)∧w1.cell? ⟨w.heap.size,1,none⟩=some (.int .i64 d.solve)∧w1.cell? ⟨w.heap.size,2,none⟩=some (.slice A d.n cap)∧w.heap.size<w1.heap.size:=by
 have hS:=ownDim_size w d A cap 41
 obtain ⟨o0,o1,o2⟩:=ownDim_at w d A cap 41
 have hl:w.heap.size<(ownDim w d A cap 41).heap.size:=by omega
 exact ⟨(hB.cell (p:=⟨w.heap.size,0,none⟩) hl).trans o0,(hB.cell (p:=⟨w.heap.size,1,none⟩) hl).trans o1,(hB.cell (p:=⟨w.heap.size,2,none⟩) hl).trans o2,by have:=hB.size;omega⟩
set_option maxHeartbeats 4000000 in
theorem rneeds_any (d:Dm) (A:Option Addr) (cap:Nat) (w:World) (hM:MemsV w A cap d.n d.mem) :
  Calls Tryz.prog 60 #[dimV d A cap] w fun e w'=>(∃ A' c' xs,e=.returned (.tuple #[.slice A' xs.length c',.int .i64 (rErr d).1,errV (rErr d).2])∧RowsV w' A' c' xs∧((rErr d).2=0→lR xs=ndL d))∧Below w.heap.size w w':=by
 have hB0:=ownDim_below w d A cap 41
 have hck:=dcheck_any d A cap (ownDim w d A cap 41) (hM.later hB0)
 have HM:Hid (MemsV w A cap d.n d.mem):=hM
 have HDC:Hid (∀ w1,Below (ownDim w d A cap 41).heap.size (ownDim w d A cap 41) w1→w1.cell? ⟨w.heap.size,0,none⟩=some (.string d.name)∧w1.cell? ⟨w.heap.size,1,none⟩=some (.int .i64 d.solve)∧w1.cell? ⟨w.heap.size,2,none⟩=some (.slice A d.n cap)∧w.heap.size<w1.heap.size):=fun w1 h=>dim_cells h
 unfold dimV at hck ⊢
 obtain ⟨W,hW⟩:∃ W,ownDim w d A cap 41=W:=⟨_,rfl⟩
 rw [hW] at hB0 hck HDC
 unfold ownDim at hW
 have HB0:Hid (Below w.heap.size w W):=hB0
 clear hM hB0
 by_cases hd:(dimErr d).2=0
 case neg =>
  rw [re0 hd]
  rw [errV_some hd] at hck ⊢
  have HE:Hid ((dimErr d).2≠0):=hd
  generalize (dimErr d).1=x at hck ⊢
  generalize (dimErr d).2=c at hck HE ⊢
  obtain ⟨d0,d1,d2,hqW⟩:=HDC.out W (Below.refl _ _)
  clear hd
  go_enter Tryz.func60,Tryz.ntmps60
  go_wp2_with fail
  refine hck.mono ?_
  rintro e w1 ⟨rfl,hb1⟩
  go_wp2_with fail
  go_returns
  exact ⟨⟨none,0,[],rfl,RowsV.nil _ _ _,fun e=>absurd e HE.out⟩,onB HB0.out hb1⟩
 obtain ⟨hd1,hdn,hd12,-⟩:=dimErr_right hd
 have HD:Hid ((dimErr d).2=0):=hd
 rw [hd,hd1,errV_zero] at hck
 obtain ⟨i0,hi0,hz0,hz1,hz2⟩:=info_parts Tryz.infoRow
 obtain ⟨n,hn⟩:∃ n,d.n=n:=⟨_,rfl⟩
 have HNn:Hid (d.n=n):=hn
 rw [hn] at hck hW HDC hdn hd12 ⊢
 have hmk:∀ w',(Instr.makeSlice 53 (.int .i64 0) (.int .i64 (n:Int))).run Tryz.prog w'=.ok (.slice (some ⟨w'.heap.size,0,none⟩) 0 n) (w'.alloc (.cells (madeCells #[.slice none 0 0] n) 47)):=fun w'=>by
  have h:=run_make (P:=Tryz.prog) w' 53 47 i0 _ Tryz.underlying53 hi0 hz0 .i64 .i64 0 n (Int.le_refl _) (by omega) (by rw [hz2];omega) (by omega)
  simp only [Int.toNat_natCast,hz1,Nat.mul_one] at h
  exact h
 have hnI:(n:Int)≤12:=by omega
 obtain ⟨d0,d1,d2,hqW⟩:=HDC.out W (Below.refl _ _)
 clear hd hn hd1
 go_enter Tryz.func60,Tryz.ntmps60
 go_wp2_with fail
 refine hck.mono ?_
 rintro e w1 ⟨rfl,hb1⟩
 obtain ⟨c0,c1,c2,hq1⟩:=HDC.out w1 hb1
 have HB1:Hid (Below W.heap.size W w1):=hb1
 clear hb1 hck c0 c1 d0 d1 d2 hW
 obtain ⟨W1,hW1⟩:∃ W1,w1.alloc (.cells (madeCells #[.slice none 0 0] n) 47)=W1:=⟨_,rfl⟩
 have hBW1:Below w1.heap.size w1 W1:=by rw [←hW1];exact (Below.refl _ _).alloc (Nat.le_refl _) _
 have HBW1:Hid (Below w1.heap.size w1 W1):=hBW1
 have HOW1:Hid (W1.ownsRow w1.heap.size 47 1 (.slice (some ⟨w1.heap.size,0,none⟩) 0 n) 0 []):=by
  rw [←hW1]
  exact World.ownsRow_made w1 _ n (Nat.le_refl _) (by unfold maxLen;omega) (by simp [madeCells])
 obtain ⟨-,-,c2',hq1'⟩:=HDC.out W1 (onB HB1.out hBW1)
 clear hBW1
 go_wp2_with fail
 clear hW1 hmk
 go_loopg [7,28] n (fun g s7 s28 wr => ∃ (k:Nat) (xs:List RL),k≤n∧g=n-k∧s28=.int .i64 k∧Hid (lR xs=ndTo d k∧(∀ j,j<k→mErr d j=0)∧∀ x∈xs,IntT wr x.A x.c x.p)∧wr.ownsRow w1.heap.size 47 1 s7 xs.length (cellsR xs)∧Below w1.heap.size w1 wr)
 case atStart=>exact ⟨0,[],Nat.zero_le _,rfl,rfl,(⟨rfl,fun j hj=>absurd hj (Nat.not_lt_zero _),fun x hx=>by cases hx⟩:_∧_∧_),HOW1.out,HBW1.out⟩
 case round =>
  obtain ⟨k,xs,hk,rfl,rfl,HX,hO,hBw⟩:=hrel
  have HO:Hid (wr.ownsRow w1.heap.size 47 1 u7 xs.length (cellsR xs)):=hO
  have HBw:Hid (Below w1.heap.size w1 wr):=hBw
  have HXl:Hid (xs.length=k):=by
   have h:=HX.out.1
   show _=_
   rw [←lR_len,h]
   simp [ndTo]
  obtain ⟨c0,c1,c2,hq⟩:=HDC.out wr (onB HB1.out hBw)
  by_cases hlt:k<n
  ·have hki:(k:Int)<(n:Int):=by omega
   have hme:=rmember_any d A cap k wr HD.out (by rw [HNn.out];exact hlt) (HM.out.later (onB HB0.out (onB HB1.out hBw)))
   unfold dimV at hme
   rw [HNn.out] at hme
   by_cases he:mErr d k=0
   ·rw [lst_ok he,he,errV_zero] at hme
    have HE:Hid (mErr d k=0):=he
    obtain ⟨r,hr⟩:∃ r,(mNd d k).length=r:=⟨_,rfl⟩
    have HR:Hid ((mNd d k).length=r):=hr
    rw [hr] at hme
    clear hO hBw he hr
    go_wp2_with fail
    refine hme.mono ?_
    rintro e w2 ⟨⟨A2,c2',rfl,hT⟩,hb2⟩
    have HB2:Hid (Below w1.heap.size w1 w2):=onB HBw.out hb2
    have HO2:Hid (w2.ownsRow w1.heap.size 47 1 u7 k (cellsR xs)):=by
     have h:=own_later HO.out hb2
     rw [HXl.out] at h
     exact h
    have HT2:Hid (IntT w2 A2 c2' (mNd d k)):=hT
    have HX2:Hid (∀ x∈xs,IntT w2 x.A x.c x.p):=fun x hx=>(HX.out.2.2 x hx).later hb2
    have hsz:=HB2.out.size
    clear hT hb2 hme c0 c1 c2
    go_wp2_with (at_builtin;refine wpList_append_own _ rfl _ _ 53 rfl w1.heap.size 47 i0 (.slice none 0 0) 1 24 Tryz.underlying53 hi0 hz0 hz1 hz2 rfl (by decide) _ _ _ rfl (HO2.out.alloc _) ⟨w2.heap.size,0,none⟩ 1 1 [.slice A2 r c2'] rfl rfl one_cell (by intro u hu;simp at hu;subst hu;rfl) (by unfold maxLen;omega) (by omega) (by simp;omega) ?_)
    intro v' w3 hown' hgrow _
    have HB3:Hid (Below w1.heap.size w1 w3):=grown_own HB2.out HO2.out hgrow
    have HX3:Hid (lR (xs ++ [(⟨mNd d k,A2,c2'⟩:RL)])=ndTo d (k+1)∧(∀ j,j<k+1→mErr d j=0)∧∀ x∈xs ++ [(⟨mNd d k,A2,c2'⟩:RL)],IntT w3 x.A x.c x.p):=by
     refine ⟨by rw [lR_append,HX.out.1,ndTo_snoc];rfl,fun j hj=>?_,fun x hx=>?_⟩
     ·by_cases e:j=k
      ·rw [e];exact HE.out
      ·exact HX.out.2.1 j (by omega)
     ·rcases List.mem_append.1 hx with hx | hx
      ·exact ((HX2.out x hx).later (by go_grown)).row (HO2.out.alloc _) hgrow
      ·rw [List.mem_singleton.1 hx]
       exact (HT2.out.later (by go_grown)).row (HO2.out.alloc _) hgrow
    have HO3:Hid (w3.ownsRow w1.heap.size 47 1 v' (xs ++ [(⟨mNd d k,A2,c2'⟩:RL)]).length (cellsR (xs ++ [(⟨mNd d k,A2,c2'⟩:RL)]))):=by
     show World.ownsRow ..
     rw [cellsR_append,List.length_append,HXl.out]
     have e:cellsR [(⟨mNd d k,A2,c2'⟩:RL)]=[.slice A2 r c2']:=by simp [cellsR,HR.out]
     rw [e]
     exact hown'
    clear hown' hgrow
    go_wp2_with fail
    go_roundg (n-(k+1))
    case measure=>omega
    case rel=>exact ⟨k+1,_,by omega,rfl,by go_num,HX3,HO3.out,HB3.out⟩
   ·have HRe:Hid (rErr d=((k:Int),mErr d k)):=re1 HD.out (i:=k) (by rw [HNn.out];exact hlt) he HX.out.2.1
    have HE:Hid (mErr d k≠0):=he
    rw [lst_bad he,errV_some he] at hme
    generalize mErr d k=ec at hme HE HRe
    clear hO hBw he
    go_wp2_with fail
    refine hme.mono ?_
    rintro e w2 ⟨⟨A2,c2',rfl,-⟩,hb2⟩
    go_wp2_with fail
    go_returns
    rw [HRe.out]
    exact ⟨⟨none,0,[],by rw [errV_some HE.out];rfl,RowsV.nil _ _ _,fun e=>absurd e HE.out⟩,onB HB0.out (onB HB1.out (onB HBw.out hb2))⟩
  ·have hke:k=n:=by omega
   subst hke
   have HL:Hid (lR xs=ndL d):=by show _=_;rw [HX.out.1,←HNn.out];rfl
   have HAll:Hid (∀ j,j<d.n→mErr d j=0):=by rw [HNn.out];exact HX.out.2.1
   obtain ⟨Ar,cr,hv,hRv⟩:=rows_own hO HX.out.2.2
   subst hv
   have HRv:Hid (RowsV wr Ar cr xs):=hRv
   have HBa:Hid (Below w.heap.size w wr):=onB HB0.out (onB HB1.out hBw)
   clear hO hBw hRv c0 c1 c2 HDC
   rw [HXl.out]
   obtain ⟨w4,rfl⟩:∃ w4:World,w4=wr:=⟨_,rfl⟩
   go_wp2_with fail
   go_loopg [48] k (fun g s48 wi => ∃ (j:Nat),j≤k∧g=k-j∧s48=.int .i64 j∧Hid (∀ t,t<j→cycB (ndL d) t=false)∧Below w4.heap.size w4 wi)
   case atStart=>exact ⟨0,Nat.zero_le _,rfl,rfl,(fun t ht=>absurd ht (Nat.not_lt_zero _):∀ t,t<0→_),Below.refl _ _⟩
   case round =>
    obtain ⟨j,hj,rfl,rfl,HCy,hBj⟩:=hrel
    have HBj:Hid (Below w4.heap.size w4 wr):=hBj
    by_cases hlt:j<k
    ·have hji:(j:Int)<(k:Int):=by omega
     have hrc:=rureach_any Ar cr xs j wr (by rw [HXl.out];exact hd12) (by rw [HXl.out];exact hlt) (by rw [HL.out];exact ndL_inn d) (fun x hx=>by
      have h:=nd_rows HL.out x hx
      rw [HNn.out] at h
      exact ⟨h.1,by omega⟩) (HRv.out.later hBj)
     rw [HXl.out,HL.out] at hrc
     clear hBj
     go_wp2_with fail
     refine hrc.mono ?_
     rintro e w5 ⟨⟨A5,c5,R,rfl,hI5,hR12,hRr⟩,hb5⟩
     have hct:=contains_ints A5 c5 R j w5 hR12 hI5
     have HB5:Hid (Below w4.heap.size w4 w5):=onB HBj.out hb5
     have HIn:Hid (inB R j=cycB (ndL d) j):=by
      show _=_
      rw [Bool.eq_iff_iff,cyc_iff,←hRr]
      unfold inB
      exact decide_eq_true_iff
     rw [HIn.out] at hct
     generalize R.length=m at hct
     clear hrc hb5 hI5 hRr hR12
     cases hcy:cycB (ndL d) j
     ·rw [hcy] at hct
      have HCy2:Hid (∀ t,t<j+1→cycB (ndL d) t=false):=fun t ht=>by
       by_cases e:t=j
       ·rw [e];exact hcy
       ·exact HCy.out t (by omega)
      clear hcy
      go_wp2_with fail
      refine hct.mono ?_
      rintro e w6 ⟨rfl,hb6⟩
      have HB6:Hid (Below w4.heap.size w4 w6):=onB HB5.out hb6
      clear hb6 hct
      go_wp2_with fail
      go_roundg (k-(j+1))
      case measure=>omega
      case rel=>exact ⟨j+1,by omega,rfl,by go_num,HCy2,HB6.out⟩
     ·rw [hcy] at hct
      have HRe:Hid (rErr d=((j:Int),8)):=re2 HD.out HAll.out (by rw [HNn.out];exact hlt) hcy HCy.out
      clear hcy
      go_wp2_with fail
      refine hct.mono ?_
      rintro e w6 ⟨rfl,hb6⟩
      have HB6:Hid (Below w4.heap.size w4 w6):=onB HB5.out hb6
      clear hb6 hct
      go_wp2_with fail
      go_returns
      rw [HRe.out]
      exact ⟨⟨none,0,[],rfl,RowsV.nil _ _ _,fun e=>by cases e⟩,onB HBa.out HB6.out⟩
    ·have hje:j=k:=by omega
     subst hje
     have HRe:Hid (rErr d=(-1,0)):=re3 HD.out HAll.out (by rw [HNn.out];exact HCy.out)
     clear hBj
     go_wp2_with fail
     go_returns
     rw [HRe.out]
     exact ⟨⟨Ar,cr,xs,by rw [HXl.out];rfl,HRv.out.later HBj.out,fun _=>HL.out⟩,onB HBa.out HBj.out⟩
theorem rcheck_any (d:Dm) (A:Option Addr) (cap:Nat) (w:World) (hM:MemsV w A cap d.n d.mem):Calls Tryz.prog 37 #[dimV d A cap] w fun e w'=>e=.returned (.tuple #[.int .i64 (rErr d).1,errV (rErr d).2])∧Below w.heap.size w w':=by
 have hB0:=ownDim_below w d A cap 41
 have hn:=rneeds_any d A cap (ownDim w d A cap 41) (hM.later hB0)
 obtain ⟨d0,d1,d2,hqW⟩:=dim_cells (w:=w) (d:=d) (A:=A) (cap:=cap) (Below.refl _ _)
 have HB0:Hid (Below w.heap.size w (ownDim w d A cap 41)):=hB0
 unfold dimV at hn ⊢
 obtain ⟨W,hW⟩:∃ W,ownDim w d A cap 41=W:=⟨_,rfl⟩
 rw [hW] at d0 d1 d2 hqW HB0 hn
 unfold ownDim at hW
 generalize errV (rErr d).2=ev at hn ⊢
 generalize (rErr d).1=x at hn ⊢
 clear hM hB0
 go_enter Tryz.func37,Tryz.ntmps37
 go_wp2_with fail
 refine hn.mono ?_
 rintro e w1 ⟨⟨A1,c1,xs,rfl,-⟩,hb1⟩
 go_wp2_with fail
 go_ret2
 exact ⟨rfl,onB HB0.out hb1⟩
def twoO (w:World) (u v:Value):World:=(w.alloc (.cells #[u] 24)).alloc (.cells #[v] 24)
theorem twoO_at (w:World) (u v:Value):(twoO w u v).heap[w.heap.size]?=some (.cells #[u] 24 (0,0))∧(twoO w u v).heap[w.heap.size+1]?=some (.cells #[v] 24 (0,0)):=by
 have h1:(w.alloc (.cells #[u] 24)).heap[w.heap.size]?=some (.cells #[u] 24 (0,0)):=heap_alloc_new ..
 have hs:(w.alloc (.cells #[u] 24)).heap.size=w.heap.size+1:=by simp
 refine ⟨(Below.heap_alloc _ _ _ (by omega)).trans h1,?_⟩
 rw [←hs]
 exact heap_alloc_new ..
theorem twoO_below (w:World) (u v:Value):Below w.heap.size w (twoO w u v):=by unfold twoO;go_grown
def twoDs (w:World) (u0 u1 u2 v0 v1 v2:Value):World:=(w.alloc (.cells #[u0,u1,u2] 41)).alloc (.cells #[v0,v1,v2] 41)
theorem twoD_at (w:World) (u0 u1 u2 v0 v1 v2:Value):(twoDs w u0 u1 u2 v0 v1 v2).heap[w.heap.size]?=some (.cells #[u0,u1,u2] 41 (0,0))∧(twoDs w u0 u1 u2 v0 v1 v2).heap[w.heap.size+1]?=some (.cells #[v0,v1,v2] 41 (0,0)):=by
 have h1:(w.alloc (.cells #[u0,u1,u2] 41)).heap[w.heap.size]?=some (.cells #[u0,u1,u2] 41 (0,0)):=heap_alloc_new ..
 have hs:(w.alloc (.cells #[u0,u1,u2] 41)).heap.size=w.heap.size+1:=by simp
 refine ⟨(Below.heap_alloc _ _ _ (by omega)).trans h1,?_⟩
 rw [←hs]
 exact heap_alloc_new ..
theorem twoD_below (w:World) (u0 u1 u2 v0 v1 v2:Value):Below w.heap.size w (twoDs w u0 u1 u2 v0 v1 v2):=by unfold twoDs;go_grown
set_option maxHeartbeats 16000000 in
theorem sameout_any (A0 B0:Option Addr) (ca cb n:Nat) (D:Nat→Dm) (A:Nat→Option Addr) (C:Nat→Nat) (A':Nat→Option Addr) (C':Nat→Nat) (w:World) (hn:n≤4) (hd:∀ i,i<n→(D i).n≤12) (hA:DimsV w A0 ca n D A C) (hB:DimsV w B0 cb n D A' C') :
  Calls Tryz.prog 7 #[.agg #[.slice A0 n ca],.agg #[.slice B0 n cb]] w fun e w'=>e=.returned (.bool true)∧Below w.heap.size w w':=by
 have hB0:=twoO_below w (.slice A0 n ca) (.slice B0 n cb)
 obtain ⟨b1,b2⟩:=twoO_at w (.slice A0 n ca) (.slice B0 n cb)
 obtain ⟨W,hW⟩:∃ W,twoO w (.slice A0 n ca) (.slice B0 n cb)=W:=⟨_,rfl⟩
 rw [hW] at hB0 b1 b2
 unfold twoO at hW
 have l2:=(Array.getElem?_eq_some_iff.1 b2).1
 have HK:Hid (∀ w',Below W.heap.size W w'→w'.cell? ⟨w.heap.size,0,none⟩=some (.slice A0 n ca)∧w'.cell? ⟨w.heap.size+1,0,none⟩=some (.slice B0 n cb)∧w.heap.size+1<w'.heap.size):=fun w' h =>
  ⟨(Lib.cell_of_heap ((h.block _ (by omega)).trans b1) 0).trans rfl,(Lib.cell_of_heap ((h.block _ l2).trans b2) 0).trans rfl,Nat.lt_of_lt_of_le l2 h.size⟩
 have HA:=hid_of (hA.later hB0)
 have HB:=hid_of (hB.later hB0)
 have HD:=hid_of hd
 have HB0:=hid_of hB0
 obtain ⟨k0,k1,k2⟩:=HK.out W (Below.refl _ _)
 have hn4:(n:Int)≤4:=by omega
 have hnn:((n:Int) != (n:Int))=false:=by simp
 have hs0:w.heap.size<W.heap.size:=by omega
 clear hA hB hd hB0 b1 b2
 go_enter Tryz.func7,Tryz.ntmps7
 go_wp2_with fail
 go_loopg [5] n (fun g s5 wr => ∃ k:Nat,k≤n∧g=n-k∧s5=.int .i64 k∧Hid (Below W.heap.size W wr))
 case atStart=>exact ⟨0,Nat.zero_le _,rfl,rfl,hid_of (Below.refl _ _)⟩
 case round =>
  obtain ⟨k,hk,rfl,rfl,HBw⟩:=hrel
  obtain ⟨wo,rfl⟩:∃ wo:World,wo=wr:=⟨_,rfl⟩
  obtain ⟨k0,k1,k2⟩:=HK.out wo HBw.out
  have hs0:w.heap.size<wo.heap.size:=by omega
  by_cases hlt:k<n
  ·have hki:(k:Int)<(n:Int):=by omega
   obtain ⟨-,h0 | ⟨ba,oa,rfl,hDa⟩⟩:=HA.out.later HBw.out
   ·omega
   obtain ⟨-,h0 | ⟨bb,ob,rfl,hDb⟩⟩:=HB.out.later HBw.out
   ·omega
   have hba:=hDa.1
   have hbb:=hDb.1
   obtain ⟨a0,a1,a2,hMa⟩:=hDa.2 k hlt
   obtain ⟨c0,c1,c2,hMb⟩:=hDb.2 k hlt
   have hm12:=HD.out k hlt
   have HMa:=hid_of hMa
   have HMb:=hid_of hMb
   obtain ⟨M,hM⟩:∃ M,(D k).mem=M:=⟨_,rfl⟩
   rw [hM] at HMa HMb
   have hB1:=twoD_below wo (.string (D k).name) (.int .i64 (D k).solve) (.slice (A k) (D k).n (C k)) (.string (D k).name) (.int .i64 (D k).solve) (.slice (A' k) (D k).n (C' k))
   obtain ⟨e1,e2⟩:=twoD_at wo (.string (D k).name) (.int .i64 (D k).solve) (.slice (A k) (D k).n (C k)) (.string (D k).name) (.int .i64 (D k).solve) (.slice (A' k) (D k).n (C' k))
   generalize (D k).name=nm at a0 c0 hB1 e1 e2
   generalize (D k).solve=sv at a1 c1 hB1 e1 e2
   generalize (D k).n=m at a2 c2 hm12 HMa HMb hB1 e1 e2
   generalize A k=Ak at a2 HMa hB1 e1 e2
   generalize C k=Ck at a2 HMa hB1 e1 e2
   generalize A' k=Al at c2 HMb hB1 e1 e2
   generalize C' k=Cl at c2 HMb hB1 e1 e2
   obtain ⟨V,hV⟩:∃ V,twoDs wo (.string nm) (.int .i64 sv) (.slice Ak m Ck) (.string nm) (.int .i64 sv) (.slice Al m Cl)=V:=⟨_,rfl⟩
   rw [hV] at hB1 e1 e2
   unfold twoDs at hV
   have HBV:=hid_of (onB HBw.out hB1)
   have l3:=(Array.getElem?_eq_some_iff.1 e2).1
   have HKV:Hid (∀ w',Below V.heap.size V w'→w'.cell? ⟨wo.heap.size,0,none⟩=some (.string nm)∧w'.cell? ⟨wo.heap.size,1,none⟩=some (.int .i64 sv)∧w'.cell? ⟨wo.heap.size,2,none⟩=some (.slice Ak m Ck)∧w'.cell? ⟨wo.heap.size+1,0,none⟩=some (.string nm)∧w'.cell? ⟨wo.heap.size+1,1,none⟩=some (.int .i64 sv)∧w'.cell? ⟨wo.heap.size+1,2,none⟩=some (.slice Al m Cl)∧wo.heap.size+1<w'.heap.size):=fun w' h=>by
    have f1:=(h.block _ (by omega)).trans e1
    have f2:=(h.block _ l3).trans e2
    exact ⟨(Lib.cell_of_heap f1 0).trans rfl,(Lib.cell_of_heap f1 1).trans rfl,(Lib.cell_of_heap f1 2).trans rfl,(Lib.cell_of_heap f2 0).trans rfl,(Lib.cell_of_heap f2 1).trans rfl,(Lib.cell_of_heap f2 2).trans rfl,Nat.lt_of_lt_of_le l3 h.size⟩
   have HMa':=hid_of (HMa.out.later hB1)
   have HMb':=hid_of (HMb.out.later hB1)
   obtain ⟨v0,v1,v2,v3,v4,v5,v6⟩:=HKV.out V (Below.refl _ _)
   have hsv:(sv != sv)=false:=by simp
   have hmm:((m:Int) != (m:Int))=false:=by simp
   have hmi:(m:Int)≤12:=by omega
   have hv7:wo.heap.size<V.heap.size:=by omega
   clear hM hMa hMb hDa hDb hB1 e1 e2 HMa HMb
   go_wp2_with fail
   go_loopg [8] m (fun g s8 wr => ∃ j:Nat,j≤m∧g=m-j∧s8=.int .i64 j∧Hid (Below V.heap.size V wr))
   case atStart=>exact ⟨0,Nat.zero_le _,rfl,rfl,hid_of (Below.refl _ _)⟩
   case round =>
    obtain ⟨j,hj,rfl,rfl,HBi⟩:=hrel
    obtain ⟨v0,v1,v2,v3,v4,v5,v6⟩:=HKV.out wr HBi.out
    have hv7:wo.heap.size<wr.heap.size:=by omega
    by_cases hjl:j<m
    ·have hji:(j:Int)<(m:Int):=by omega
     obtain ⟨-,h0 | ⟨bm,om,rfl,hMa⟩⟩:=HMa'.out.later HBi.out
     ·omega
     obtain ⟨-,h0 | ⟨bn,on_,rfl,hMb⟩⟩:=HMb'.out.later HBi.out
     ·omega
     obtain ⟨x0,x1,x2,x3⟩:=hMa.2 j hjl
     obtain ⟨y0,y1,y2,y3⟩:=hMb.2 j hjl
     clear hMa hMb
     go_wp2_with fail
     first | (go_quiet (fail);go_wp2_with fail) | skip
     go_roundg (m-(j+1))
     case measure=>omega
     case rel=>exact ⟨j+1,by omega,rfl,by go_num,hid_of (below_drewN HBi.out _)⟩
    ·have hje:j=m:=by omega
     subst hje
     go_wp2_with fail
     go_roundg (n-(k+1))
     case measure=>omega
     case rel=>exact ⟨k+1,by omega,rfl,by go_num,hid_of (onB HBV.out HBi.out)⟩
  ·have hke:k=n:=by omega
   subst hke
   go_wp2_with fail
   go_ret
   exact ⟨rfl,onB HB0.out HBw.out⟩
set_option maxHeartbeats 4000000 in
theorem rwith_own (Ap:Option Addr) (cp:Nat) (p:List Int) (dim:Nat) (x:Int) (w:World) (hd:dim<p.length) (h4:p.length≤4) (hP:PlAt w Ap cp p) :
  Calls Tryz.prog 13 #[.slice Ap p.length cp,.int .i64 dim,.int .i64 x] w fun e w'=>(∃ g c',e=.returned (.slice (some ⟨g,0,none⟩) p.length c')∧(w.heap.size≤g∧∃ cur,w'.heap[g]?=some (.cells cur 3 (0,0)))∧PlAt w' (some ⟨g,0,none⟩) c' (p.set dim x))∧Below w.heap.size w w':=by
 obtain ⟨i0,hi0,hz0,hz1,hz2⟩:=info_parts Tryz.infoIntP
 obtain ⟨hcp,h0 | ⟨b,o,rfl,hb,hcell⟩⟩:=hP
 ·rw [h0] at hd;simp at hd
 have HC:Hid (∀ j u,(p.map (Value.int .i64))[j]?=some u→w.cell? ((⟨b,o,none⟩:Addr).add j)=some u):=by
  intro j u hj
  have hlt:j<p.length:=by have:=(List.getElem?_eq_some_iff.1 hj).1;simpa using this
  rw [plain_add,hcell j hlt]
  simp only [List.getElem?_map,List.getElem?_eq_getElem hlt,Option.map_some,Option.some.injEq] at hj
  rw [←hj,List.getD_eq_getElem?_getD,List.getElem?_eq_getElem hlt]
  rfl
 obtain ⟨N,hN⟩:∃ N,p.length=N:=⟨_,rfl⟩
 have HN:Hid (p.length=N):=hN
 rw [hN] at hd h4 hcp ⊢
 have hdi:(dim:Int)<(N:Int):=by omega
 have h4':(N:Int)≤4:=by omega
 clear hcell hN
 go_enter Tryz.func13,Tryz.ntmps13
 go_wp2_with (at_builtin;refine wpList_append_own _ rfl _ _ 49 rfl w.heap.size 3 i0 (.int .i64 0) 1 8 Tryz.underlying49 hi0 hz0 hz1 hz2 rfl (by decide) _ _ _ rfl (World.ownsRow_nil w w.heap.size 3 1) ⟨b,o,none⟩ N cp (p.map (Value.int .i64)) rfl ?qc1 ?qc2 ?qc3 ?qc4 ?qc5 ?qc6 ?_)
 case qc1=>simp [HN.out]
 case qc2=>exact HC.out
 case qc3=>intro u hu;simp at hu;obtain ⟨y,-,rfl⟩:=hu;rfl
 case qc4=>simp only [maxLen];omega
 case qc5=>omega
 case qc6=>exact Nat.le_refl _
 intro v' w1 hown hgrow hnil
 have hown1:w1.ownsRow w.heap.size 3 1 v' N (p.map (Value.int .i64)):=by simpa using hown
 have HB:Hid (Below w.heap.size w w1):=(Below.refl _ w).grown hgrow (Nat.le_refl _) (by intro k hk;cases hk)
 rcases hown1.2 with ⟨h1,h2⟩ | ⟨g,cap,cur,rfl,hbg,hg,hc,hm,hs,ht⟩
 ·omega
 have HT:Hid (cur.toList.take (N*1)=p.map (Value.int .i64)∧cur.size=cap*1∧w1.heap[g]?=some (.cells cur 3 (0,0))∧w.heap.size≤g):=⟨ht,hs,hg,hbg⟩
 have cg:w1.cell? ⟨g,dim,none⟩=some (.int .i64 (p.getD dim 0)):=by
  have:=hown1.cells (g:=g) rfl dim (.int .i64 (p.getD dim 0)) (by simp [List.getD,HN.out,hd])
  rw [plain_add,Nat.zero_add] at this
  exact this
 have fg:w1.frozen? ⟨g,dim,none⟩=false:=Lib.frozen_of_heap hg dim
 have hcap:N≤cap:=hc
 generalize p.getD dim 0=old at cg
 clear hown hown1 hgrow hnil hg hbg hs ht
 go_wp2_with fail
 go_ret
 obtain ⟨h1,h2,h3,h5⟩:=HT.out
 refine ⟨⟨g,cap,rfl,⟨h5,cur.setIfInBounds dim (.int .i64 x),by simp [World.setCell,Array.getElem?_modify,h3]⟩,by rw [List.length_set,HN.out];exact hcap,Or.inr ⟨g,0,rfl,by simp [World.setCell];exact (Array.getElem?_eq_some_iff.1 h3).1,fun j hj=>?_⟩⟩,HB.out.setCell (by show w.heap.size≤g;exact h5) _⟩
 rw [List.length_set,HN.out] at hj
 have hk:(w1.setCell ⟨g,dim,none⟩ (.int .i64 x)).heap[g]?=some (.cells (cur.setIfInBounds dim (.int .i64 x)) 3 (0,0)):=by simp [World.setCell,Array.getElem?_modify,h3]
 rw [Nat.zero_add,Lib.cell_of_heap hk]
 have hcj:∀ i,i<N→cur[i]?=some (.int .i64 (p.getD i 0)):=fun i hi=>by
  have:=congrArg (fun l=>l[i]?) h1
  simp only [List.getElem?_take,show i<N*1 by omega,if_true,Array.getElem?_toList] at this
  rw [this]
  simp [List.getD,HN.out,hi]
 by_cases e:j=dim
 ·subst e
  have hz:=(Array.getElem?_eq_some_iff.1 (hcj j hj)).1
  rw [Array.getElem?_setIfInBounds_self_of_lt hz]
  simp [List.getD,HN.out,hj]
 ·rw [Array.getElem?_setIfInBounds_ne (fun h=>e h.symm),hcj j hj]
  simp [List.getD,List.getElem?_set_ne (fun h=>e h.symm)]
end Go.Proofs.YtfldgghobddgkaaGreatDoor
namespace Go.Proofs.YtfldgghobddgkaaGreatDoor
open Go Go.ChangeShapes Go.WideShapes Go.ChangeAt Go.RowKit
theorem wp_block_c {P:Program} {id:Nat} {b:Code} {K:Act→World→Prop} {Q:Exit→Act→World→Prop} {a:Act} {w:World} (h:∀ Q',(∀ a w,K a w→Q' (.exit id) a w)→b.wp P (Exit.then K Q') a w):(Code.block id b).wp P (Exit.then K Q) a w:=by
 refine wp_block (wp_mono (h (Exit.inBlock id (Exit.then K Q)) fun a w hK=>?_) (by intro e a w h;cases e <;> exact h))
 show (if id=id then _ else _)
 rw [if_pos rfl]
 exact hK
theorem for_wpc {N M:Nat} {P:Program} {id id':Nat} {t b st:Code} {c:Operand} (n:Nat) (tb:Nat→Bool) (hn:tb n=false) (I I':Nat→(Nat→Value)→World→Prop)
  (ht:∀ k T s w,k≤n→FrK N M T s→I k s w→∀ K Q,(∀ T',FrK N M T' s→Act.eval ⟨T',[]⟩ c=.bool (tb k)→K ⟨T',[]⟩ w)→t.wp P (Exit.then K Q) ⟨T,[]⟩ w)
  (hb:∀ k T s w,k<n→tb k=true→FrK N M T s→I k s w→∀ K Q,(∀ a w,K a w→Q (.exit id') a w)→(∀ T' s' w',FrK N M T' s'→I' k s' w'→K ⟨T',[]⟩ w')→b.wp P (Exit.then K Q) ⟨T,[]⟩ w)
  (hs:∀ k T s w,k<n→FrK N M T s→I' k s w→∀ K Q,(∀ T' s' w',FrK N M T' s'→I (k+1) s' w'→K ⟨T',[]⟩ w')→st.wp P (Exit.then K Q) ⟨T,[]⟩ w)
  {T:Array Value} {s:Nat→Value} {w:World} (hF:FrK N M T s) (h0:I 0 s w) {J:Act→World→Prop} {Q:Exit→Act→World→Prop}
  (hJ:∀ k T' s' w',k≤n→tb k=false→FrK N M T' s'→I k s' w'→J ⟨T',[]⟩ w') :
  (Code.block id (.loop (.seq (.seq t (.cond c .skip (.exit id))) (.seq (.block id' b) st)))).wp P (Exit.then J Q) ⟨T,[]⟩ w:=by
 refine wp_block (wp_loop_ghost (fun g a w => ∃ k T s,g=n-k∧k≤n∧a=⟨T,[]⟩∧FrK N M T s∧I k s w) n ⟨0,T,s,rfl,Nat.zero_le _,rfl,hF,h0⟩ ?_)
 rintro g a w ⟨k,T,s,rfl,hk,rfl,hF,hI⟩
 refine wp_seq (wp_seq (ht k T s w hk hF hI _ _ fun T1 hF1 he=>?_))
 cases htb:tb k
 ·rw [htb] at he
  refine wp_cond_false he (wp_exit ?_)
  show (if id=id then _ else _)
  rw [if_pos rfl]
  exact hJ k T1 s w hk htb hF1 hI
 ·have hkn:k<n:=by
   rcases Nat.lt_or_eq_of_le hk with h | h
   ·exact h
   ·rw [h,hn] at htb;cases htb
  rw [htb] at he
  refine wp_cond_true he (wp_skip ?_)
  show Code.wp P (.seq (.block id' b) st) _ _ _
  refine wp_seq (wp_block_c fun Q' hQ'=>hb k T1 s w hkn htb hF1 hI _ Q' hQ' fun T2 s2 w2 hF2 hI2=>hs k T2 s2 w2 hkn hF2 hI2 _ _ fun T3 s3 w3 hF3 hI3=>?_)
  exact ⟨n-(k+1),by omega,k+1,T3,s3,rfl,by omega,rfl,hF3,hI3⟩
end Go.Proofs.YtfldgghobddgkaaGreatDoor
