/-
  What the document's own Needs answers, in whatever memory: the rows of all members.
-/
import Derived.Test.YtfldgghobddgkaaGreatDoorJDAZ
import Derived.Test.YtfldgghobddgkaaGreatDoorJDBF
namespace Go.Proofs.YtfldgghobddgkaaGreatDoor
open Go.ChangeShapes Go.WideShapes Go.ChangeAt Go.RowKit
set_option maxRecDepth 20000
theorem RiseV.row {w w':World} {base:Nat} {v:Value} {n:Nat} {zs:List Value} {A:Option Addr} {c:Nat} {L:List Int} (h:RiseV w A c L) (hown:w.ownsRow base 47 1 v n zs) (hG:w.grownBy w' v.ownBlock):RiseV w' A c L:=by
 rcases h with h | ⟨h1,h⟩
 ·exact Or.inl h
 ·exact Or.inr ⟨h1,h.row hown hG⟩
theorem rdim_none {d:Dm} (h:(dimErr d).2≠0):((dimErr d).2 != 0)=true:=by simpa using h
def RowsT (w:World) (A:Option Addr) (xs:List RL):Prop:=xs=[]∨∃ b cs fr,A=some ⟨b,0,none⟩∧w.heap[b]?=some (.cells cs 47 fr)
theorem RowsT.later {w w':World} {A:Option Addr} {xs:List RL} (h:RowsT w A xs) (hB:Below w.heap.size w w'):RowsT w' A xs:=by
 rcases h with h | ⟨b,cs,fr,h1,h2⟩
 ·exact Or.inl h
 ·exact Or.inr ⟨b,cs,fr,h1,(hB.block b (Array.getElem?_eq_some_iff.1 h2).1).trans h2⟩
theorem rowsT_own {w:World} {base:Nat} {A:Option Addr} {c:Nat} {xs:List RL} (h:w.ownsRow base 47 1 (.slice A xs.length c) xs.length (cellsR xs)):RowsT w A xs:=by
 rcases h.2 with ⟨h0,h1⟩ | ⟨g,cap,cur,h0,hb,hg,_⟩
 ·exact Or.inl (List.eq_nil_of_length_eq_zero h1)
 ·cases h0
  exact Or.inr ⟨g,cur,_,rfl,hg⟩
def CInv (N:List (List Int)) (i:Nat) (L:List Int):Prop:=L.Pairwise (· < ·)∧(∀ x∈L,Rch N i x)∧∀ x∈N.getD i [],x∈L
theorem cinv_len {N:List (List Int)} {i:Nat} {L:List Int} (h:CInv N i L) (hN:Inn N) (hi:i<N.length):L.length≤N.length:=few _ _ (rise_nodup h.1) fun x hx=>(h.2.1 x hx).inn hN (by omega) (by omega)
theorem cinv_in {N:List (List Int)} {i:Nat} {L:List Int} (h:CInv N i L) (hN:Inn N) (hi:i<N.length):∀ x∈L,0≤x∧x<(N.length:Int):=fun x hx=>(h.2.1 x hx).inn hN (by omega) (by omega)
theorem cinv_put {N:List (List Int)} {i:Nat} {L:List Int} {x y:Int} (h:CInv N i L) (hx:x∈L) (hy:y∈rowN N x):CInv N i (putL L y):=by
 refine ⟨put_rise _ _ h.1,fun z hz=>?_,fun z hz=>(put_mem _ _ _).2 (Or.inl (h.2.2 z hz))⟩
 rcases (put_mem _ _ _).1 hz with e | e
 ·exact h.2.1 z e
 ·rw [e];exact (h.2.1 x hx).snoc hy
theorem cinv_end {N:List (List Int)} {i:Nat} {L:List Int} (h:CInv N i L) (hc:∀ u,u<L.length→∀ y∈rowN N (L.getD u 0),y∈L):L.contains (i:Int)=cycB N i:=by
 rw [Bool.eq_iff_iff,List.contains_iff_mem,cyc_iff]
 refine ⟨h.2.1 _,fun hr=>hr.closed (S:=fun y=>y∈L) (fun y hy=>h.2.2 y (by unfold rowN at hy;simpa using hy)) fun y hy z hz=>?_⟩
 obtain ⟨u,hu,rfl⟩:=List.getElem_of_mem hy
 refine hc u hu z ?_
 rw [List.getD_eq_getElem?_getD,List.getElem?_eq_getElem hu]
 exact hz
set_option maxHeartbeats 8000000 in
theorem sneeds_any (d:Dm) (A:Option Addr) (cap:Nat) (w:World) (hM:MemsV w A cap d.n d.mem) :
  Calls Tryz.prog 14 #[dimV d A cap] w fun e w'=>(∃ A' c' xs,e=.returned (.tuple #[.slice A' xs.length c',.int .i64 (rErr d).1,.int .i64 (rErr d).2])∧RowsV w' A' c' xs∧((rErr d).2=0→lR xs=ndL d)∧RowsT w' A' xs)∧Below w.heap.size w w':=by
 have hB0:=ownDim_below w d A cap 41
 have hck:=rdim_any d A cap (ownDim w d A cap 41) (hM.later hB0)
 have HM:Hid (MemsV w A cap d.n d.mem):=hM
 have HDC:Hid (∀ w1,Below (ownDim w d A cap 41).heap.size (ownDim w d A cap 41) w1→w1.cell? ⟨w.heap.size,0,none⟩=some (.string d.name)∧w1.cell? ⟨w.heap.size,1,none⟩=some (.int .i64 d.solve)∧w1.cell? ⟨w.heap.size,2,none⟩=some (.slice A d.n cap)∧w.heap.size<w1.heap.size):=fun w1 h=>dim_cells h
 unfold dimV at hck ⊢
 obtain ⟨W,hW⟩:∃ W,ownDim w d A cap 41=W:=⟨_,rfl⟩
 rw [hW] at hB0 hck HDC
 unfold ownDim at hW
 have HB0:Hid (Below w.heap.size w W):=hB0
 clear hM hB0
 by_cases hd:(dimErr d).2=0
 case neg =>
  rw [re0 hd]
  have HE:Hid ((dimErr d).2≠0):=hd
  have hne:=rdim_none hd
  generalize (dimErr d).1=x at hck ⊢
  generalize (dimErr d).2=c at hck HE hne ⊢
  obtain ⟨d0,d1,d2,hqW⟩:=HDC.out W (Below.refl _ _)
  clear hd
  go_enter Tryz.func14,Tryz.ntmps14
  go_wp2_with fail
  refine hck.mono ?_
  rintro e w1 ⟨rfl,hb1⟩
  go_wp2_with fail
  go_returns
  exact ⟨⟨none,0,[],rfl,RowsV.nil _ _ _,fun e=>absurd e HE.out,Or.inl rfl⟩,onB HB0.out hb1⟩
 obtain ⟨hd1,hdn,hd12,hall⟩:=dimErr_right hd
 have HF1:Hid (∀ i,i<d.n→(d.mem i).formula.size≤100):=fun i hi=>memErr_form (hall i hi)
 have HD:Hid ((dimErr d).2=0):=hd
 rw [hd,hd1] at hck
 obtain ⟨i0,hi0,hz0,hz1,hz2⟩:=info_parts Tryz.infoRow
 obtain ⟨n,hn⟩:∃ n,d.n=n:=⟨_,rfl⟩
 have HNn:Hid (d.n=n):=hn
 rw [hn] at hck hW HDC hdn hd12 HF1 ⊢
 have hnI:(n:Int)≤12:=by omega
 obtain ⟨d0,d1,d2,hqW⟩:=HDC.out W (Below.refl _ _)
 clear hd hn hd1 hall
 go_enter Tryz.func14,Tryz.ntmps14
 go_wp2_with fail
 refine hck.mono ?_
 rintro e w1 ⟨rfl,hb1⟩
 have HB1:Hid (Below W.heap.size W w1):=hb1
 obtain ⟨c0,c1,c2,hq1⟩:=HDC.out w1 hb1
 clear hb1 hck d0 d1 d2 hW
 go_wp2_with fail
 go_loopg [7,8] n (fun g s7 s8 wr => ∃ (k:Nat) (xs:List RL),k≤n∧g=n-k∧s8=.int .i64 k∧Hid (lR xs=ndTo d k∧(∀ j,j<k→mErr d j=0)∧∀ x∈xs,RiseV wr x.A x.c x.p)∧wr.ownsRow w1.heap.size 47 1 s7 xs.length (cellsR xs)∧Below w1.heap.size w1 wr)
 case atStart=>exact ⟨0,[],Nat.zero_le _,rfl,rfl,(⟨rfl,fun j hj=>absurd hj (Nat.not_lt_zero _),fun x hx=>by cases hx⟩:_∧_∧_),World.ownsRow_nil _ _ _ _,Below.refl _ _⟩
 case round =>
  obtain ⟨k,xs,hk,rfl,rfl,HX,hO,hBw⟩:=hrel
  have HO:Hid (wr.ownsRow w1.heap.size 47 1 u7 xs.length (cellsR xs)):=hO
  have HBw:Hid (Below w1.heap.size w1 wr):=hBw
  have HXl:Hid (xs.length=k):=by
   have h:=HX.out.1
   show _=_
   rw [←lR_len,h]
   simp [ndTo]
  obtain ⟨c0,c1,c2,hq⟩:=HDC.out wr (onB HB1.out hBw)
  by_cases hlt:k<n
  ·have hki:(k:Int)<(n:Int):=by omega
   obtain ⟨hcap,h0 | ⟨b,o,rfl,hMs⟩⟩:=HM.out.later (onB HB0.out (onB HB1.out hBw))
   ·have:=HNn.out;omega
   obtain ⟨-,-,-,c3⟩:=hMs.2 k (by rw [HNn.out];exact hlt)
   have HMs:Hid (MemsAt wr b o d.n d.mem):=hMs
   have hbw:b<wr.heap.size:=hMs.1
   have HCp:Hid (d.n≤cap):=hcap
   clear hO hBw hMs hcap
   obtain ⟨wk,rfl⟩:∃ wk:World,wk=wr:=⟨_,rfl⟩
   go_upto_if 46 with fail
   go_cut [9] from 33 to 115 (fun s9 wx => ∃ A9 c9,s9=.slice A9 (mNd d k).length c9∧RiseV wx A9 c9 (mNd d k)∧mErr d k=0∧Below wk.heap.size wk wx)
   case first =>
    by_cases hf:(d.mem k).formula.size=0
    ·have hf':(d.mem k).formula.toList.isEmpty=true:=by rw [empty_same];simpa using hf
     have HF:Hid ((d.mem k).formula.size=0):=hf
     have HE:Hid (mErr d k=0):=by show _=_;unfold mErr;rw [if_pos hf]
     have hpa:=rparts_any d b o cap k wk (by rw [HNn.out];exact hd12) HMs.out
     rw [HNn.out] at hpa
     have HPm:Hid (∀ x∈partsOf d.mem n k,∃ y:Nat,x=(y:Int)∧y<n):=fun x hx=>by
      obtain ⟨m,h1,h2,-⟩:=selTo_mem x hx
      exact ⟨m,h1,h2⟩
     have HPl:Hid ((partsOf d.mem n k).length≤12):=Nat.le_trans (selTo_len _ _) hd12
     have HPe:Hid (partTo d (partsOf d.mem n k) (partsOf d.mem n k).length=mNd d k):=by
      have h:=putsP_need hf
      rw [HNn.out] at h
      show _=_
      unfold partTo
      rw [List.take_length]
      exact h
     obtain ⟨P,hP⟩:∃ P,partsOf d.mem n k=P:=⟨_,rfl⟩
     rw [hP] at hpa HPm HPl HPe
     obtain ⟨m,hm⟩:∃ m,P.length=m:=⟨_,rfl⟩
     have HPm2:Hid (P.length=m):=hm
     rw [hm] at hpa HPl HPe
     have hmI:(m:Int)≤12:=by have:=HPl.out;omega
     rw [hf']
     clear hf hP hm
     go_wp2_with fail
     refine hpa.mono ?_
     rintro e w2 ⟨⟨A2,c2',rfl,hI2⟩,hb2⟩
     have HB2:Hid (Below wk.heap.size wk w2):=hb2
     have HI2:Hid (IntsAt w2 A2 c2' P):=hI2
     have HM2:Hid (MemsAt w2 b o d.n d.mem):=HMs.out.later hb2
     clear hb2 hI2 hpa c0 c1 c2
     go_wp2_with fail
     go_loopg [9,16] m (fun g s9 s16 wi => ∃ (t:Nat) (A9:Option Addr) (c9:Nat),t≤m∧g=m-t∧s16=.int .i64 t∧s9=.slice A9 (partTo d P t).length c9∧RiseV wi A9 c9 (partTo d P t)∧Below w2.heap.size w2 wi)
     case atStart=>exact ⟨0,none,0,Nat.zero_le _,rfl,rfl,rfl,RiseV.nil _,Below.refl _ _⟩
     case round =>
      obtain ⟨t,A9,c9,ht,rfl,rfl,rfl,hR,hBi⟩:=hrel
      have HR:Hid (RiseV wr A9 c9 (partTo d P t)):=hR
      have HBi:Hid (Below w2.heap.size w2 wr):=hBi
      have hpl:=partTo_len d P t (by rw [HPm2.out];exact ht)
      by_cases htl:t<m
      ·have hti:(t:Int)<(m:Int):=by omega
       obtain ⟨hcI,hI0 | ⟨bi,rfl,hbi,hci⟩⟩:=HI2.out.later hBi
       ·have:=HPm2.out;rw [hI0] at this;simp at this;omega
       have ct:=hci t (by rw [HPm2.out];exact htl)
       obtain ⟨y,hy,hyn⟩:=HPm.out (P.getD t 0) (mem_at (by rw [HPm2.out];exact htl))
       have HNx:Hid (partTo d P (t+1)=if sgB d (y:Int)=true then putL (partTo d P t) y else partTo d P t):=partTo_next (by rw [HPm2.out];exact htl) hy
       rw [hy] at ct
       rw [HPm2.out] at hcI
       have hyi:(y:Int)<(n:Int):=by omega
       have hcIi:(m:Int)≤(c2':Int):=by omega
       obtain ⟨-,-,csg,-⟩:=(HM2.out.later hBi).2 y (by rw [HNn.out];exact hyn)
       obtain ⟨q0,q1,q2,hqi⟩:=HDC.out wr (onB HB1.out (onB HBw.out (onB HB2.out hBi)))
       have hbw':b<wr.heap.size:=(HM2.out.later hBi).1
       have hsg:sgB d (y:Int)=decide ((d.mem y).sign≠0):=by unfold sgB;rw [Int.toNat_natCast]
       obtain ⟨K,hK⟩:∃ K,partTo d P t=K:=⟨_,rfl⟩
       rw [hK] at HNx HR hpl
       rw [hK]
       have hpu:=put_any A9 c9 K y wr (by omega)
       clear hci hy hK hR
       by_cases hs0:(d.mem y).sign=0
       ·have hsb:((d.mem y).sign != 0)=false:=by simpa using hs0
        rw [hsg,decide_eq_false (by simpa using hs0),if_neg (by decide)] at HNx
        clear hpu
        go_wp2_with fail
        go_quiet (fail)
        go_wp2_with fail
        go_roundg (m-(t+1))
        case measure=>omega
        case rel=>exact ⟨t+1,A9,c9,by omega,rfl,by go_num,by rw [HNx.out],by rw [HNx.out];exact HR.out.later (below_drewN (Below.refl _ _) _),below_drewN HBi.out _⟩
       ·have hsb:((d.mem y).sign != 0)=true:=by simpa using hs0
        rw [hsg,decide_eq_true hs0,if_pos rfl] at HNx
        have HPu:Hid (∀ w',RiseV w' A9 c9 K→Calls Tryz.prog 29 #[.slice A9 K.length c9,.int .i64 y] w' fun e w''=>(∃ A' c',e=.returned (.slice A' (putL K y).length c')∧RiseV w'' A' c' (putL K y))∧Below w'.heap.size w' w''):=fun w' h=>put_any A9 c9 K y w' (by omega) h
        obtain ⟨kl,hkl⟩:∃ kl,K.length=kl:=⟨_,rfl⟩
        rw [hkl] at HPu
        rw [hkl]
        clear hpu hkl
        go_wp2_with fail
        go_quiet (fail)
        have HBq:Hid (Below w2.heap.size w2 (wr.drewN nq)):=below_drewN HBi.out _
        have ct':(wr.drewN nq).cell? ⟨bi,t,none⟩=some (.int .i64 y):=((below_drewN (Below.refl _ _) nq:Below wr.heap.size wr (wr.drewN nq)).cell (p:=⟨bi,t,none⟩) hbi).trans ct
        have hbi':bi<(wr.drewN nq).heap.size:=Nat.lt_of_lt_of_le hbi (below_drewN (Below.refl _ _) nq:Below wr.heap.size wr (wr.drewN nq)).size
        have hpu:=HPu.out (wr.drewN nq) (HR.out.later (below_drewN (Below.refl _ _) nq))
        clear ct q0 q1 q2 csg
        go_wp2_with fail
        refine hpu.mono ?_
        rintro e w3 ⟨⟨A3,c3',rfl,hR3⟩,hb3⟩
        have HR3:Hid (RiseV w3 A3 c3' (partTo d P (t+1))):=by rw [HNx.out];exact hR3
        have HB3:Hid (Below w2.heap.size w2 w3):=onB HBq.out hb3
        clear hR3 hb3 hpu
        go_wp2_with fail
        go_roundg (m-(t+1))
        case measure=>omega
        case rel=>exact ⟨t+1,A3,c3',by omega,rfl,by go_num,by rw [HNx.out],HR3.out,HB3.out⟩
      ·have hte:t=m:=by omega
       subst hte
       have HEnd:Hid (partTo d P t=mNd d k):=HPe.out
       clear hBi hR
       go_wp2_with fail
       go_meet
       exact ⟨A9,c9,by rw [HEnd.out],by rw [←HEnd.out];exact HR.out,HE.out,onB HB2.out HBi.out⟩
    ·have hf':(d.mem k).formula.toList.isEmpty=false:=by rw [empty_same];simpa using hf
     have hrd:=rread_any (d.mem k).formula wk (HF1.out k hlt)
     have HFn:Hid ((d.mem k).formula.size≠0):=hf
     have HPr:Hid (prsE (d.mem k).formula≠0→mErr d k=prsE (d.mem k).formula):=fun h=>mErr_prs hf h
     have HRf:Hid (prsE (d.mem k).formula=0→∀ x∈prsL (d.mem k).formula,x.op=2→whL d x.name.data.toList<0→mErr d k=5):=fun h x hx h2 hw=>mErr_ref hf h hx h2 hw
     have HAl:Hid (prsE (d.mem k).formula=0→(∀ x∈prsL (d.mem k).formula,x.op=2→0≤whL d x.name.data.toList)→mErr d k=0∧putTo d (prsL (d.mem k).formula) (prsL (d.mem k).formula).length=mNd d k):=fun h ha=>by
      have he:=mErr_all hf h ha
      refine ⟨he,?_⟩
      unfold putTo
      rw [List.take_length]
      exact puts_need HD.out hf he
     have HFl:Hid (prsE (d.mem k).formula=0→(prsL (d.mem k).formula).length≤30):=fun h=>(form_right (form_read h)).2.1
     rw [hf']
     obtain ⟨fm,hfm⟩:∃ fm,(d.mem k).formula=fm:=⟨_,rfl⟩
     rw [hfm] at c3 hrd HPr HRf HAl HFl
     clear hf hfm hf'
     generalize (prsA fm:Int)=pa at hrd
     by_cases hpe:prsE fm=0
     case neg =>
      have hpb:(prsE fm != 0)=true:=by simpa using hpe
      have HPe:Hid (prsE fm≠0):=hpe
      have HRe:Hid (rErr d=((k:Int),prsE fm)):=by
       have h:=HPr.out hpe
       have h2:=re1 HD.out (i:=k) (by rw [HNn.out];exact hlt) (by rw [h];exact hpe) HX.out.2.1
       rw [h] at h2
       exact h2
      generalize prsE fm=pe at hrd hpb HRe HPe
      generalize (prsL fm).length=pl at hrd
      clear hpe
      go_wp2_with fail
      refine hrd.mono ?_
      rintro e w2 ⟨⟨A2,c2',rfl,-⟩,hb2⟩
      go_wp2_with fail
      go_returns
      rw [HRe.out]
      exact ⟨⟨none,0,[],rfl,RowsV.nil _ _ _,fun e=>absurd e HPe.out,Or.inl rfl⟩,onB HB0.out (onB HB1.out (onB HBw.out hb2))⟩
     rw [hpe] at hrd
     have hfl:=HFl.out hpe
     have HAl2:Hid ((∀ x∈prsL fm,x.op=2→0≤whL d x.name.data.toList)→mErr d k=0∧putTo d (prsL fm) (prsL fm).length=mNd d k):=HAl.out hpe
     have HRf2:Hid (∀ x∈prsL fm,x.op=2→whL d x.name.data.toList<0→mErr d k=5):=HRf.out hpe
     obtain ⟨l,hl⟩:∃ l,prsL fm=l:=⟨_,rfl⟩
     rw [hl] at hrd hfl HAl2 HRf2
     obtain ⟨m,hm⟩:∃ m,l.length=m:=⟨_,rfl⟩
     have HLm:Hid (l.length=m):=hm
     rw [hm] at hrd hfl HAl2
     have hmI:(m:Int)≤30:=by omega
     clear hpe hl hm HPr HRf HAl HFl
     go_wp2_with fail
     refine hrd.mono ?_
     rintro e w2 ⟨⟨A2,c2',rfl,hN2⟩,hb2⟩
     have HB2:Hid (Below wk.heap.size wk w2):=hb2
     have HN2:Hid (NdsV w2 A2 c2' l):=hN2
     clear hb2 hN2 hrd c0 c1 c2
     go_wp2_with fail
     go_loopg [9,13] m (fun g s9 s13 wi => ∃ (t:Nat) (A9:Option Addr) (c9:Nat),t≤m∧g=m-t∧s13=.int .i64 t∧s9=.slice A9 (putTo d l t).length c9∧Hid (∀ j,j<t→(l.getD j noN).op=2→0≤whL d (l.getD j noN).name.data.toList)∧RiseV wi A9 c9 (putTo d l t)∧Below w2.heap.size w2 wi)
     case atStart=>exact ⟨0,none,0,Nat.zero_le _,rfl,rfl,rfl,(fun j hj=>absurd hj (Nat.not_lt_zero _):∀ j,j<0→_),RiseV.nil _,Below.refl _ _⟩
     case round =>
      obtain ⟨t,A9,c9,ht,rfl,rfl,rfl,HA,hR,hBi⟩:=hrel
      have HR:Hid (RiseV wr A9 c9 (putTo d l t)):=hR
      have HBi:Hid (Below w2.heap.size w2 wr):=hBi
      have hpl:=putTo_len d l t (by rw [HLm.out];exact ht)
      by_cases htl:t<m
      ·have hti:(t:Int)<(m:Int):=by omega
       obtain ⟨hcN,-,hN0 | ⟨bn,on,rfl,hNn⟩⟩:=HN2.out.later hBi
       ·have:=HLm.out;rw [hN0] at this;simp at this;omega
       obtain ⟨x0,-,x2,-,-⟩:=hNn.nd (k:=t) (by rw [HLm.out];exact htl)
       have hbn:bn<wr.heap.size:=hNn.1
       rw [HLm.out] at hcN
       have HMx:Hid (l.getD t noN∈l):=by
        show _∈_
        rw [List.getD_eq_getElem?_getD,List.getElem?_eq_getElem (by rw [HLm.out];exact htl)]
        exact List.getElem_mem _
       have HNx:Hid (putTo d l (t+1)=if (l.getD t noN).op=2 then putL (putTo d l t) (whL d (l.getD t noN).name.data.toList) else putTo d l t):=putTo_next (by rw [HLm.out];exact htl) rfl
       have HA2:Hid (((l.getD t noN).op=2→0≤whL d (l.getD t noN).name.data.toList)→∀ j,j<t+1→(l.getD j noN).op=2→0≤whL d (l.getD j noN).name.data.toList):=fun h j hj h2=>by
        by_cases e:j=t
        ·rw [e] at h2 ⊢;exact h h2
        ·exact HA.out j (by omega) h2
       obtain ⟨x,hx⟩:∃ x,l.getD t noN=x:=⟨_,rfl⟩
       rw [hx] at x0 x2 HMx HNx HA2
       obtain ⟨K,hK⟩:∃ K,putTo d l t=K:=⟨_,rfl⟩
       rw [hK] at HNx HR hpl
       rw [hK]
       obtain ⟨q0,q1,q2,hqi⟩:=HDC.out wr (onB HB1.out (onB HBw.out (onB HB2.out hBi)))
       clear hR hx hK hNn
       by_cases h2:x.op=2
       ·rw [if_pos h2] at HNx
        have HWh:Hid (∀ w',Below wr.heap.size wr w'→Calls Tryz.prog 16 #[.agg #[.string d.name,.int .i64 d.solve,.slice (some ⟨b,o,none⟩) n cap],.string x.name] w' fun e w''=>e=.returned (.int .i64 (whL d x.name.data.toList))∧Below w'.heap.size w' w''):=fun w' hB=>by
         have h:=where_any d (some ⟨b,o,none⟩) cap x.name w' (by rw [HNn.out];exact hd12) (HM.out.later (onB HB0.out (onB HB1.out (onB HBw.out (onB HB2.out (onB HBi.out hB))))))
         unfold dimV at h
         rw [whL_same,HNn.out] at h
         exact h
        have HBad:Hid (whL d x.name.data.toList<0→rErr d=((k:Int),5)):=fun hw=>by
         have h:=HRf2.out x HMx.out h2 hw
         have h3:=re1 HD.out (i:=k) (by rw [HNn.out];exact hlt) (by rw [h];decide) HX.out.2.1
         rw [h] at h3
         exact h3
        have HA3:Hid (0≤whL d x.name.data.toList→∀ j,j<t+1→(l.getD j noN).op=2→0≤whL d (l.getD j noN).name.data.toList):=fun h=>HA2.out fun _=>h
        rw [h2] at x0
        obtain ⟨y,hy⟩:∃ y,whL d x.name.data.toList=y:=⟨_,rfl⟩
        rw [hy] at HWh HNx HBad HA3
        generalize x.name=nm at x2 HWh
        obtain ⟨kl,hkl⟩:∃ kl,K.length=kl:=⟨_,rfl⟩
        have HPu:Hid (∀ w',RiseV w' A9 c9 K→Calls Tryz.prog 29 #[.slice A9 kl c9,.int .i64 y] w' fun e w''=>(∃ A' c',e=.returned (.slice A' (putL K y).length c')∧RiseV w'' A' c' (putL K y))∧Below w'.heap.size w' w''):=fun w' h=>by rw [←hkl];exact put_any A9 c9 K y w' (by omega) h
        rw [hkl]
        clear hBi hkl hy h2
        go_upto_region 17 with fail
        go_cut [14] from 62 to 86 (fun s14 wx=>s14=.int .i64 y∧Below wr.heap.size wr wx)
        case first =>
         go_region_law ((go_simp;refine (HWh.out _ (by go_grown)).mono ?_;rintro e w3 ⟨rfl,hb3⟩;have hN3:=onB (W0:=wr) (by go_grown) hb3;clear hb3))
         all_goals go_wp2_with fail
         all_goals go_meet
         all_goals exact ⟨rfl,hN3⟩
        case rest =>
        obtain ⟨rfl,hBc⟩:=hcut
        obtain ⟨w3,rfl⟩:∃ w3:World,w3=wc:=⟨_,rfl⟩
        have HB3:Hid (Below w2.heap.size w2 w3):=onB HBi.out hBc
        have hpu:=HPu.out w3 (HR.out.later hBc)
        clear hBc q0 q1 q2 x0 x2
        by_cases hy0:y<0
        ·have HRe:Hid (rErr d=((k:Int),5)):=HBad.out hy0
         clear hpu
         go_wp2_with fail
         go_returns
         rw [HRe.out]
         exact ⟨⟨none,0,[],rfl,RowsV.nil _ _ _,fun e=>(by cases e),Or.inl rfl⟩,onB HB0.out (onB HB1.out (onB HBw.out (onB HB2.out HB3.out)))⟩
        ·have hy1:decide (y<0)=false:=decide_eq_false hy0
         have HA4:Hid (∀ j,j<t+1→(l.getD j noN).op=2→0≤whL d (l.getD j noN).name.data.toList):=HA3.out (by omega)
         clear hy0
         go_wp2_with fail
         refine hpu.mono ?_
         rintro e w4 ⟨⟨A4,c4,rfl,hR4⟩,hb4⟩
         have HR4:Hid (RiseV w4 A4 c4 (putTo d l (t+1))):=by rw [HNx.out];exact hR4
         have HB4:Hid (Below w2.heap.size w2 w4):=onB HB3.out hb4
         clear hR4 hb4 hpu
         go_wp2_with fail
         go_roundg (m-(t+1))
         case measure=>omega
         case rel=>exact ⟨t+1,A4,c4,by omega,rfl,by go_num,by rw [HNx.out],HA4,HR4.out,HB4.out⟩
       ·have h2b:(x.op != 2)=true:=by simpa using h2
        rw [if_neg h2] at HNx
        have HA3:Hid (∀ j,j<t+1→(l.getD j noN).op=2→0≤whL d (l.getD j noN).name.data.toList):=HA2.out fun h=>absurd h h2
        clear h2 hBi
        go_wp2_with fail
        go_roundg (m-(t+1))
        case measure=>omega
        case rel=>exact ⟨t+1,A9,c9,by omega,rfl,by go_num,by rw [HNx.out],HA3,by rw [HNx.out];exact HR.out,HBi.out⟩
      ·have hte:t=m:=by omega
       subst hte
       obtain ⟨HE,HEnd⟩:Hid (mErr d k=0)∧Hid (putTo d l t=mNd d k):=by
        have h:=HAl2.out fun x hx h2=>by
         obtain ⟨j,hj,rfl⟩:=List.getElem_of_mem hx
         have h3:=HA.out j (by rw [←HLm.out];exact hj)
         rw [List.getD_eq_getElem?_getD,List.getElem?_eq_getElem hj] at h3
         exact h3 h2
        exact h
       clear hBi hR
       go_wp2_with fail
       go_meet
       exact ⟨A9,c9,by rw [HEnd.out],by rw [←HEnd.out];exact HR.out,HE.out,onB HB2.out HBi.out⟩
   case rest =>
   obtain ⟨A9,c9,rfl,hR9,he,hB9⟩:=hcut
   obtain ⟨w2,rfl⟩:∃ w2:World,w2=wc:=⟨_,rfl⟩
   have HE:Hid (mErr d k=0):=he
   have HR9:Hid (RiseV w2 A9 c9 (mNd d k)):=hR9
   have HB2:Hid (Below w1.heap.size w1 w2):=onB HBw.out hB9
   have HO2:Hid (w2.ownsRow w1.heap.size 47 1 u7 k (cellsR xs)):=by
    have h:=own_later HO.out hB9
    rw [HXl.out] at h
    exact h
   have HX2:Hid (∀ x∈xs,RiseV w2 x.A x.c x.p):=fun x hx=>(HX.out.2.2 x hx).later hB9
   have hsz:=HB2.out.size
   obtain ⟨r,hr⟩:∃ r,(mNd d k).length=r:=⟨_,rfl⟩
   have HR:Hid ((mNd d k).length=r):=hr
   rw [hr]
   clear hR9 he hB9 c0 c1 c2 c3 hr
   go_wp2_with (at_builtin;refine wpList_append_own _ rfl _ _ 53 rfl w1.heap.size 47 i0 (.slice none 0 0) 1 24 Tryz.underlying53 hi0 hz0 hz1 hz2 rfl (by decide) _ _ _ rfl (HO2.out.alloc _) ⟨w2.heap.size,0,none⟩ 1 1 [.slice A9 r c9] rfl rfl one_cell (by intro u hu;simp at hu;subst hu;rfl) (by unfold maxLen;omega) (by omega) (by simp;omega) ?_)
   intro v' w3 hown' hgrow _
   have HB3:Hid (Below w1.heap.size w1 w3):=grown_own HB2.out HO2.out hgrow
   have HX3:Hid (lR (xs ++ [(⟨mNd d k,A9,c9⟩:RL)])=ndTo d (k+1)∧(∀ j,j<k+1→mErr d j=0)∧∀ x∈xs ++ [(⟨mNd d k,A9,c9⟩:RL)],RiseV w3 x.A x.c x.p):=by
    refine ⟨by rw [lR_append,HX.out.1,ndTo_snoc];rfl,fun j hj=>?_,fun x hx=>?_⟩
    ·by_cases e:j=k
     ·rw [e];exact HE.out
     ·exact HX.out.2.1 j (by omega)
    ·rcases List.mem_append.1 hx with hx | hx
     ·exact ((HX2.out x hx).later (by go_grown)).row (HO2.out.alloc _) hgrow
     ·rw [List.mem_singleton.1 hx]
      exact (HR9.out.later (by go_grown)).row (HO2.out.alloc _) hgrow
   have HO3:Hid (w3.ownsRow w1.heap.size 47 1 v' (xs ++ [(⟨mNd d k,A9,c9⟩:RL)]).length (cellsR (xs ++ [(⟨mNd d k,A9,c9⟩:RL)]))):=by
    show World.ownsRow ..
    rw [cellsR_append,List.length_append,HXl.out]
    have e:cellsR [(⟨mNd d k,A9,c9⟩:RL)]=[.slice A9 r c9]:=by simp [cellsR,HR.out]
    rw [e]
    exact hown'
   clear hown' hgrow
   go_wp2_with fail
   go_roundg (n-(k+1))
   case measure=>omega
   case rel=>exact ⟨k+1,_,by omega,rfl,by go_num,HX3,HO3.out,HB3.out⟩
  ·have hke:k=n:=by omega
   subst hke
   have HL:Hid (lR xs=ndL d):=by show _=_;rw [HX.out.1,←HNn.out];rfl
   have HAll:Hid (∀ j,j<d.n→mErr d j=0):=by rw [HNn.out];exact HX.out.2.1
   obtain ⟨Ar,cr,hv,hRv⟩:=rows_own hO fun x hx=>(HX.out.2.2 x hx).intT
   subst hv
   have HRt:Hid (RowsT wr Ar xs):=rowsT_own hO
   have HRv:Hid (RowsV wr Ar cr xs):=hRv
   have HRi:Hid (∀ x∈xs,RiseV wr x.A x.c x.p):=HX.out.2.2
   have HBa:Hid (Below w.heap.size w wr):=onB HB0.out (onB HB1.out hBw)
   have HIn:Hid (Inn (ndL d)):=ndL_inn d
   have HNl:Hid ((ndL d).length=k):=by show _=_;rw [ndL_len];exact HNn.out
   have HRl:Hid (∀ j,j<k→(xs.getD j noR).p=(ndL d).getD j []∧(xs.getD j noR).p.Pairwise (· < ·)∧(xs.getD j noR).p.length≤12):=fun j hj=>by
    have e:(xs.getD j noR).p=(ndL d).getD j []:=by rw [←lR_at,HL.out]
    refine ⟨e,?_,?_⟩
    ·rw [e,ndL_at (by rw [HNn.out];exact hj)];exact mNd_rise d j
    ·rw [e,ndL_at (by rw [HNn.out];exact hj)];have:=mNd_len d j;rw [HNn.out] at this;omega
   clear hO hBw hRv HDC
   rw [HXl.out]
   obtain ⟨w4,rfl⟩:∃ w4:World,w4=wr:=⟨_,rfl⟩
   go_wp2_with fail
   clear c0 c1 c2
   go_loopg [17] k (fun g s17 wi => ∃ (j:Nat),j≤k∧g=k-j∧s17=.int .i64 j∧Hid (∀ t,t<j→cycB (ndL d) t=false)∧Below w4.heap.size w4 wi)
   case atStart=>exact ⟨0,Nat.zero_le _,rfl,rfl,(fun t ht=>absurd ht (Nat.not_lt_zero _):∀ t,t<0→_),Below.refl _ _⟩
   case round =>
    obtain ⟨j,hj,rfl,rfl,HCy,hBj⟩:=hrel
    have HBj:Hid (Below w4.heap.size w4 wr):=hBj
    by_cases hlt:j<k
    ·have hji:(j:Int)<(k:Int):=by omega
     obtain ⟨hcap,hx0 | ⟨b,rfl,hbw,hcl⟩,-⟩:=HRv.out.later hBj
     ·have:=HXl.out;rw [hx0] at this;simp at this;omega
     have cj:=hcl j (by rw [HXl.out];exact hlt)
     rw [HXl.out] at hcap
     have hcapI:(k:Int)≤(cr:Int):=by omega
     obtain ⟨e1,e2,e3⟩:=HRl.out j hlt
     have HRj:Hid (RiseV wr (xs.getD j noR).A (xs.getD j noR).c (xs.getD j noR).p):=(HRi.out _ (rl_mem (by rw [HXl.out];exact hlt))).later hBj
     have HC0:Hid (CInv (ndL d) j (xs.getD j noR).p):=⟨e2,fun x hx=>.one (by unfold rowN;rw [Int.toNat_natCast,←e1];exact hx),fun x hx=>by rw [e1];exact hx⟩
     generalize (xs.getD j noR).p=L0 at cj HRj HC0
     generalize (xs.getD j noR).A=A0 at cj HRj
     generalize (xs.getD j noR).c=c0 at cj HRj
     obtain ⟨wj,rfl⟩:∃ wj:World,wj=wr:=⟨_,rfl⟩
     clear hcl hBj e1 e2 e3
     go_wp2_with fail
     go_loopg [18,19] (2*(k-L0.length)+1) (fun g s18 s19 wi => ∃ (L:List Int) (A8:Option Addr) (c8:Nat) (ag:Bool),g=2*(k-L.length)+(if ag=true then 1 else 0)∧s18=.slice A8 L.length c8∧s19=.bool ag∧RiseV wi A8 c8 L∧Hid (CInv (ndL d) j L∧(ag=false→∀ u,u<L.length→∀ y∈rowN (ndL d) (L.getD u 0),y∈L))∧Below wj.heap.size wj wi)
     case atStart=>exact ⟨L0,A0,c0,true,rfl,rfl,rfl,HRj.out,(⟨HC0.out,fun e=>by cases e⟩:_∧_),Below.refl _ _⟩
     case round =>
      obtain ⟨L,A8,c8,ag,rfl,rfl,rfl,hR,HI,hBi⟩:=hrel
      have HR:Hid (RiseV wr A8 c8 L):=hR
      have HBi:Hid (Below wj.heap.size wj wr):=hBi
      have hLk:L.length≤k:=by rw [←HNl.out];exact cinv_len HI.out.1 HIn.out (by rw [HNl.out];exact hlt)
      cases ag
      case false =>
       have hin:=in2_any A8 c8 L j wr (by omega) hR.intT.pl
       rw [cinv_end HI.out.1 (HI.out.2 rfl)] at hin
       generalize L.length=m at hin
       clear hR hBi hLk
       cases hcy:cycB (ndL d) j
       ·rw [hcy] at hin
        have HCy2:Hid (∀ t,t<j+1→cycB (ndL d) t=false):=fun t ht=>by
         by_cases e:t=j
         ·rw [e];exact hcy
         ·exact HCy.out t (by omega)
        clear hcy
        go_wp2_with fail
        refine hin.mono ?_
        rintro e w6 ⟨rfl,hb6⟩
        have HB6:Hid (Below w4.heap.size w4 w6):=onB HBj.out (onB HBi.out hb6)
        clear hb6 hin
        go_wp2_with fail
        go_roundg (k-(j+1))
        case measure=>omega
        case rel=>exact ⟨j+1,by omega,rfl,by go_num,HCy2,HB6.out⟩
       ·rw [hcy] at hin
        have HRe:Hid (rErr d=((j:Int),8)):=re2 HD.out HAll.out (by rw [HNn.out];exact hlt) hcy HCy.out
        clear hcy
        go_wp2_with fail
        refine hin.mono ?_
        rintro e w6 ⟨rfl,hb6⟩
        have HB6:Hid (Below w4.heap.size w4 w6):=onB HBj.out (onB HBi.out hb6)
        clear hb6 hin
        go_wp2_with fail
        go_returns
        rw [HRe.out]
        exact ⟨⟨none,0,[],rfl,RowsV.nil _ _ _,fun e=>(by cases e),Or.inl rfl⟩,onB HBa.out HB6.out⟩
      case true =>
       have HLk:Hid (L.length≤k):=hLk
       clear hR hBi hLk
       obtain ⟨w5,rfl⟩:∃ w5:World,w5=wr:=⟨_,rfl⟩
       go_wp2_with fail
       go_loopg [18,19,20] k (fun g s18 s19 s20 wi => ∃ (t:Nat) (K:List Int) (A8:Option Addr) (c8:Nat) (ag:Bool),t≤K.length∧g=k-t∧s18=.slice A8 K.length c8∧s19=.bool ag∧s20=.int .i64 t∧RiseV wi A8 c8 K∧Hid (CInv (ndL d) j K∧(ag=false→K.length=L.length∧∀ u,u<t→∀ y∈rowN (ndL d) (K.getD u 0),y∈K)∧(ag=true→L.length<K.length))∧Below w5.heap.size w5 wi)
       case atStart=>exact ⟨0,L,A8,c8,false,Nat.zero_le _,rfl,rfl,rfl,rfl,HR.out,(⟨HI.out.1,fun _=>⟨rfl,fun u hu=>absurd hu (Nat.not_lt_zero _)⟩,fun e=>by cases e⟩:_∧_∧_),Below.refl _ _⟩
       case round =>
        obtain ⟨t,K,A9,c9,ag,htK,rfl,rfl,rfl,rfl,hR9,HK,hB9⟩:=hrel
        have HR9:Hid (RiseV wr A9 c9 K):=hR9
        have HB9:Hid (Below w5.heap.size w5 wr):=hB9
        have hKk:K.length≤k:=by rw [←HNl.out];exact cinv_len HK.out.1 HIn.out (by rw [HNl.out];exact hlt)
        have HKk:Hid (K.length≤k):=hKk
        by_cases htl:t<K.length
        ·have hx:=cinv_in HK.out.1 HIn.out (by rw [HNl.out];exact hlt) _ (mem_at (L:=K) (j:=t) htl)
         rw [HNl.out] at hx
         obtain ⟨y,hy⟩:∃ y:Nat,K.getD t 0=(y:Int):=⟨(K.getD t 0).toNat,by omega⟩
         rw [hy] at hx
         have hyk:y<k:=by omega
         have hyi:(y:Int)<(k:Int):=by omega
         have HYm:Hid ((y:Int)∈K):=by rw [←hy];exact mem_at htl
         have HYt:Hid (K.getD t 0=(y:Int)):=hy
         obtain ⟨e1,e2,e3⟩:=HRl.out y hyk
         have HRow:Hid (rowN (ndL d) (y:Int)=(xs.getD y noR).p):=by show _=_;unfold rowN;rw [Int.toNat_natCast,e1]
         have HCy3:Hid (∀ w',Below wr.heap.size wr w'→w'.cell? ⟨b,y,none⟩=some (.slice (xs.getD y noR).A (xs.getD y noR).p.length (xs.getD y noR).c)∧IntT w' (xs.getD y noR).A (xs.getD y noR).c (xs.getD y noR).p∧b<w'.heap.size):=fun w' hB=>by
          obtain ⟨-,h0 | ⟨b',hb',hbz,hcl⟩,hrw⟩:=HRv.out.later (onB HBj.out (onB HBi.out (onB HB9.out hB)))
          ·have:=HXl.out;rw [h0] at this;simp at this;omega
          ·cases hb'
           exact ⟨hcl y (by rw [HXl.out];exact hyk),hrw _ (rl_mem (by rw [HXl.out];exact hyk)),hbz⟩
         have HKt:Hid (∀ w',Below wr.heap.size wr w'→∃ bk,A9=some ⟨bk,0,none⟩∧bk<w'.heap.size∧w'.cell? ⟨bk,t,none⟩=some (.int .i64 y)):=fun w' hB=>by
          obtain ⟨-,-,h0 | ⟨bk,cs,fr,h1,h2,h3⟩⟩:=(HR9.out.later hB).intT
          ·rw [h0] at htl;simp at htl
          ·exact ⟨bk,h1,(Array.getElem?_eq_some_iff.1 h2).1,by rw [h3 t htl,hy]⟩
         have hcK:K.length≤c9:=HR9.out.intT.1
         obtain ⟨R,hRe⟩:∃ R,(xs.getD y noR).p=R:=⟨_,rfl⟩
         rw [hRe] at HCy3 HRow e3
         generalize (xs.getD y noR).A=Ay at HCy3
         generalize (xs.getD y noR).c=cy at HCy3
         obtain ⟨r,hr⟩:∃ r,R.length=r:=⟨_,rfl⟩
         have HRr:Hid (R.length=r):=hr
         rw [hr] at HCy3 e3
         have hrI:(r:Int)≤12:=by omega
         obtain ⟨mk,hmk⟩:∃ mk,K.length=mk:=⟨_,rfl⟩
         have HMk:Hid (K.length=mk):=hmk
         rw [hmk] at htl hKk hcK htK
         rw [hmk]
         have hti:(t:Int)<(mk:Int):=by omega
         have hmI:(mk:Int)≤12:=by omega
         have hcKi:(mk:Int)≤(c9:Int):=by omega
         obtain ⟨bk,rfl,-,-⟩:=HKt.out wr (Below.refl _ _)
         obtain ⟨w6,rfl⟩:∃ w6:World,w6=wr:=⟨_,rfl⟩
         clear hR9 hB9 hx hy e1 e2 hRe hr hmk
         go_wp2_with fail
         go_loopg [18,19,21] r (fun g s18 s19 s21 wi => ∃ (u:Nat),u≤r∧g=r-u∧s18=.slice (some ⟨bk,0,none⟩) mk c9∧s19=.bool ag∧s21=.int .i64 u∧Hid (∀ v,v<u→R.getD v 0∈K)∧Below w6.heap.size w6 wi)
         case atStart=>exact ⟨0,Nat.zero_le _,rfl,rfl,rfl,rfl,(fun v hv=>absurd hv (Nat.not_lt_zero _):∀ v,v<0→_),Below.refl _ _⟩
         case round =>
          obtain ⟨u,hu,rfl,rfl,rfl,rfl,HU,hBu⟩:=hrel
          have HBu:Hid (Below w6.heap.size w6 wr):=hBu
          obtain ⟨cy1,hTy,hbz⟩:=HCy3.out wr hBu
          obtain ⟨bk',hbk',hbkl,ckt⟩:=HKt.out wr hBu
          cases hbk'
          by_cases hul:u<r
          ·have hui:(u:Int)<(r:Int):=by omega
           obtain ⟨hcR,-,hR0 | ⟨br,cs,fr,rfl,hbr,hcr⟩⟩:=hTy
           ·have:=HRr.out;rw [hR0] at this;simp at this;omega
           have cu:=hcr u (by rw [HRr.out];exact hul)
           rw [HRr.out] at hcR
           have hcRi:(r:Int)≤(cy:Int):=by omega
           have hbrl:br<wr.heap.size:=(Array.getElem?_eq_some_iff.1 hbr).1
           have HZm:Hid (R.getD u 0∈rowN (ndL d) (y:Int)):=by rw [HRow.out];exact mem_at (by rw [HRr.out];exact hul)
           obtain ⟨z,hz⟩:∃ z,R.getD u 0=z:=⟨_,rfl⟩
           have HZ:Hid (R.getD u 0=z):=hz
           rw [hz] at cu HZm
           have hin:=in2_any (some ⟨bk,0,none⟩) c9 K z wr (by rw [HMk.out];omega) (HR9.out.later hBu).intT.pl
           rw [HMk.out] at hin
           clear hcr hbr hBu hz
           by_cases hzK:z∈K
           ·rw [List.contains_iff_mem.2 hzK] at hin
            have HU2:Hid (∀ v,v<u+1→R.getD v 0∈K):=fun v hv=>by
             by_cases e:v=u
             ·rw [e,HZ.out];exact hzK
             ·exact HU.out v (by omega)
            clear hzK
            go_wp2_with fail
            refine hin.mono ?_
            rintro e w7 ⟨rfl,hb7⟩
            have HB7:Hid (Below w6.heap.size w6 w7):=onB HBu.out hb7
            clear hb7 hin cy1 ckt cu
            go_wp2_with fail
            go_roundg (r-(u+1))
            case measure=>omega
            case rel=>exact ⟨u+1,by omega,rfl,rfl,rfl,by go_num,HU2,HB7.out⟩
           ·have hzf:K.contains z=false:=by rw [←Bool.not_eq_true,List.contains_iff_mem];exact hzK
            rw [hzf] at hin
            have HPu:Hid (∀ w',Below w6.heap.size w6 w'→Calls Tryz.prog 29 #[.slice (some ⟨bk,0,none⟩) mk c9,.int .i64 z] w' fun e w''=>(∃ A' c',e=.returned (.slice A' (putL K z).length c')∧RiseV w'' A' c' (putL K z))∧Below w'.heap.size w' w''):=fun w' hB=>by
             rw [←HMk.out]
             exact put_any (some ⟨bk,0,none⟩) c9 K z w' (by rw [HMk.out];omega) (HR9.out.later hB)
            have HK3:Hid (t+1≤(putL K z).length∧CInv (ndL d) j (putL K z)∧L.length<(putL K z).length):=by
             have hl:=put_more hzK
             refine ⟨by rw [hl,HMk.out];omega,cinv_put HK.out.1 HYm.out HZm.out,?_⟩
             rw [hl]
             cases ag
             ·have:=(HK.out.2.1 rfl).1;omega
             ·have:=HK.out.2.2 rfl;omega
            clear hzK hzf
            go_wp2_with fail
            refine hin.mono ?_
            rintro e w7 ⟨rfl,hb7⟩
            have hB7:Below w6.heap.size w6 w7:=onB HBu.out hb7
            have HB7:Hid (Below w6.heap.size w6 w7):=hB7
            have hpu:=HPu.out w7 hB7
            have cy7:=(hb7.cell (p:=⟨b,y,none⟩) hbz).trans cy1
            have ck7:=(hb7.cell (p:=⟨bk,t,none⟩) hbkl).trans ckt
            have cu7:=(hb7.cell (p:=⟨br,u,none⟩) hbrl).trans cu
            have hz7:b<w7.heap.size:=Nat.lt_of_lt_of_le hbz hb7.size
            have hk7:bk<w7.heap.size:=Nat.lt_of_lt_of_le hbkl hb7.size
            have hr7:br<w7.heap.size:=Nat.lt_of_lt_of_le hbrl hb7.size
            clear hb7 hin cy1 ckt cu hB7
            go_wp2_with fail
            refine hpu.mono ?_
            rintro e w8 ⟨⟨A8',c8',rfl,hR8⟩,hb8⟩
            have HR8:Hid (RiseV w8 A8' c8' (putL K z)):=hR8
            have HB8:Hid (Below w5.heap.size w5 w8):=onB HB9.out (onB HB7.out hb8)
            clear hR8 hb8 hpu cy7 ck7 cu7
            go_wp2_with fail
            go_roundg (k-(t+1))
            case measure=>omega
            case rel=>exact ⟨t+1,putL K z,A8',c8',true,HK3.out.1,rfl,rfl,rfl,by go_num,HR8.out,(⟨HK3.out.2.1,fun e=>(by cases e),fun _=>HK3.out.2.2⟩:_∧_∧_),HB8.out⟩
          ·have hue:u=r:=by omega
           subst hue
           have HK3:Hid (CInv (ndL d) j K∧(ag=false→K.length=L.length∧∀ u,u<t+1→∀ y∈rowN (ndL d) (K.getD u 0),y∈K)∧(ag=true→L.length<K.length)):=by
            refine ⟨HK.out.1,fun e=>⟨(HK.out.2.1 e).1,fun v hv z hz=>?_⟩,HK.out.2.2⟩
            by_cases ev:v=t
            ·rw [ev,HYt.out,HRow.out] at hz
             obtain ⟨i,hi,rfl⟩:=List.getElem_of_mem hz
             have h:=HU.out i (by rw [←HRr.out];exact hi)
             rw [List.getD_eq_getElem?_getD,List.getElem?_eq_getElem hi] at h
             exact h
            ·exact (HK.out.2.1 e).2 v (by omega) z hz
           clear hBu hTy
           go_wp2_with fail
           go_roundg (k-(t+1))
           case measure=>omega
           case rel=>exact ⟨t+1,K,some ⟨bk,0,none⟩,c9,ag,by rw [HMk.out];omega,rfl,by rw [HMk.out],rfl,by go_num,HR9.out.later HBu.out,HK3,onB HB9.out HBu.out⟩
        ·have hte:t=K.length:=by omega
         have HK2:Hid (CInv (ndL d) j K∧(ag=false→∀ u,u<K.length→∀ y∈rowN (ndL d) (K.getD u 0),y∈K)):=⟨HK.out.1,fun e=>by rw [←hte];exact (HK.out.2.1 e).2⟩
         have HM2:Hid (2*(k-K.length)+(if ag=true then 1 else 0)<2*(k-L.length)+(if true=true then 1 else 0)):=by
          show _<_
          cases ag
          ·have h:=(HK.out.2.1 rfl).1
           rw [h]
           simp
          ·have h:=HK.out.2.2 rfl
           simp
           omega
         obtain ⟨m,hm⟩:∃ m,K.length=m:=⟨_,rfl⟩
         have HMm:Hid (K.length=m):=hm
         have hmI:(m:Int)≤12:=by omega
         rw [hm] at hte
         subst hte
         rw [hm]
         clear hR9 hB9 hKk htK htl hm
         go_wp2_with fail
         go_roundg (2*(k-K.length)+(if ag=true then 1 else 0))
         case measure=>exact HM2.out
         case rel=>exact ⟨K,A9,c9,ag,rfl,by rw [HMm.out],rfl,HR9.out,HK2,onB HBi.out HB9.out⟩
    ·have hje:j=k:=by omega
     subst hje
     have HRe:Hid (rErr d=(-1,0)):=re3 HD.out HAll.out (by rw [HNn.out];exact HCy.out)
     clear hBj
     go_wp2_with fail
     go_returns
     rw [HRe.out]
     exact ⟨⟨Ar,cr,xs,by rw [HXl.out];rfl,HRv.out.later HBj.out,fun _=>HL.out,HRt.out.later HBj.out⟩,onB HBa.out HBj.out⟩
end Go.Proofs.YtfldgghobddgkaaGreatDoor
