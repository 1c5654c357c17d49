/-
  Whatever text is read as a formula, what Print writes of it is no longer than that text, on plain data.
-/
import Derived.Sort.Walk0
import Derived.Maps.AppendAt
import Derived.Deep.CutRange
import Derived.WalkSpells
import Derived.WalkLawsBesides
import Derived.Deep.RegionHeld
import Derived.Laws.AppendOwnNone
import Derived.Test.YtglekooldbeklaaGreatDoorShelfG
import Derived.Laws.Cover1
import Derived.BigRegion
import Derived.LaidEql
import Derived.Stop.Asserts
import Derived.RowKitTokens
import Derived.Test.YtglekooldbeklaaGreatDoorJGAU
import Derived.Test.YtglekooldbeklaaGreatDoorJGBM
namespace Go.Proofs.YtglekooldbeklaaGreatDoor
theorem form_prs {s:ByteArray} (h:prsE s=0):formErr (prsL s)=0:=by
 have hL:prsL s=nodesP s:=by unfold prsL;rw [if_pos h]
 rw [hL]
 unfold prsE at h
 split at h
 ·split at h <;> cases h
 ·split at h
  ·exact h
  ·cases h
def AllR (D:Nat→Dm) (n:Nat):Prop := ∀ i,i<n→(rErr (D i)).2=0
end Go.Proofs.YtglekooldbeklaaGreatDoor
namespace Go.Proofs.YtglekooldbeklaaGreatDoor
open Go.ChangeShapes Go.WideShapes Go.ChangeAt Go.RowKit
set_option maxRecDepth 20000
theorem rcheck_any (d:Dm) (A:Option Addr) (cap:Nat) (w:World) (hM:MemsV w A cap d.n d.mem):Calls Tryz.prog 29 #[dimV d A cap] w fun e w'=>e=.returned (.tuple #[.int .i64 (rErr d).1,errV (rErr d).2])∧Below w.heap.size w w':=by
 have hB0:=ownDim_below w d A cap 32
 have hn:=rneeds_any d A cap (ownDim w d A cap 32) (hM.later hB0)
 obtain ⟨d0,d1,d2,hqW⟩:=dim_cells (w:=w) (d:=d) (A:=A) (cap:=cap) (Below.refl _ _)
 have HB0:Hid (Below w.heap.size w (ownDim w d A cap 32)):=hB0
 unfold dimV at hn ⊢
 obtain ⟨W,hW⟩:∃ W,ownDim w d A cap 32=W:=⟨_,rfl⟩
 rw [hW] at d0 d1 d2 hqW HB0 hn
 unfold ownDim at hW
 generalize errV (rErr d).2=ev at hn ⊢
 generalize (rErr d).1=x at hn ⊢
 clear hM hB0
 go_enter Tryz.func29,Tryz.ntmps29
 go_wp2_with fail
 refine hn.mono ?_
 rintro e w1 ⟨⟨A1,c1,xs,rfl,-⟩,hb1⟩
 go_wp2_with fail
 go_ret2
 exact ⟨rfl,onB HB0.out hb1⟩
noncomputable def badD (D:Nat→Dm) (i:Nat):Bool:=decide ((rErr (D i)).2≠0)
noncomputable def ruErr (D:Nat→Dm) (n:Nat):Int×Int×Int :=
 if (allErr D n).2.2≠0 then allErr D n
 else if 0≤findFrom (badD D) n 0 then (findFrom (badD D) n 0,rErr (D (findFrom (badD D) n 0).toNat))
 else (-1,-1,0)
theorem ru0 {D:Nat→Dm} {n:Nat} (h:(allErr D n).2.2≠0):ruErr D n=allErr D n:=by unfold ruErr;rw [if_pos h]
theorem ru1 {D:Nat→Dm} {n i:Nat} (h:(allErr D n).2.2=0) (hi:i<n) (hb:(rErr (D i)).2≠0) (hf:∀ j,j<i→(rErr (D j)).2=0):ruErr D n=((i:Int),(rErr (D i)).1,(rErr (D i)).2):=by
 have e:findFrom (badD D) n 0=(i:Int):=findFrom_at (Nat.zero_le _) (by omega) (decide_eq_true hb) fun j _ hj=>decide_eq_false (by simpa using hf j hj)
 unfold ruErr
 rw [if_neg (by simpa using h),e,if_pos (by omega),Int.toNat_natCast]
theorem ru2 {D:Nat→Dm} {n:Nat} (h:(allErr D n).2.2=0) (hf:∀ j,j<n→(rErr (D j)).2=0):ruErr D n=(-1,-1,0):=by
 unfold ruErr
 rw [if_neg (by simpa using h),findFrom_none (p:=badD D) fun j _ hj=>decide_eq_false (by simpa using hf j (by omega)),if_neg (by omega)]
set_option maxHeartbeats 4000000 in
theorem rulall_any (A0:Option Addr) (cap n:Nat) (D:Nat→Dm) (A:Nat→Option Addr) (C:Nat→Nat) (w:World) (hM:DimsV w A0 cap n D A C):Calls Tryz.prog 14 #[.agg #[.slice A0 n cap]] w fun e w'=>e=.returned (.tuple #[.int .i64 (ruErr D n).1,.int .i64 (ruErr D n).2.1,errV (ruErr D n).2.2])∧Below w.heap.size w w':=by
 have hB0:=ownOut_below w A0 n cap 24
 have hS:=ownOut_size w A0 n cap 24
 have hA:=ownOut_at w A0 n cap 24
 have hal:=all_any A0 cap n D A C (ownOut w A0 n cap 24) (hM.later hB0)
 obtain ⟨W,hW⟩:∃ W,ownOut w A0 n cap 24=W:=⟨_,rfl⟩
 rw [hW] at hB0 hS hA hal
 unfold ownOut at hW
 have HB0:Hid (Below w.heap.size w W):=hB0
 have HM:Hid (DimsV w A0 cap n D A C):=hM
 have hsz:w.heap.size<W.heap.size:=by omega
 clear hM hB0
 by_cases he:(allErr D n).2.2=0
 case neg =>
  rw [ru0 he]
  rw [errV_some he] at hal ⊢
  generalize (allErr D n).1=x at hal ⊢
  generalize (allErr D n).2.1=y at hal ⊢
  generalize (allErr D n).2.2=c at hal ⊢
  clear he
  go_enter Tryz.func14,Tryz.ntmps14
  go_wp2_with fail
  refine hal.mono ?_
  rintro e w1 ⟨rfl,hb1⟩
  go_wp2_with fail
  go_returns
  exact ⟨rfl,onB HB0.out hb1⟩
 obtain ⟨hn1,hn4,-,-⟩:=allErr_some he
 have HE:Hid ((allErr D n).2.2=0):=he
 rw [he,errV_zero] at hal
 generalize (allErr D n).1=x at hal
 generalize (allErr D n).2.1=y at hal
 have hnI:(n:Int)≤4:=by omega
 have HA:Hid (W.cell? ⟨w.heap.size,0,none⟩=some (.slice A0 n cap)):=hA
 clear he
 go_enter Tryz.func14,Tryz.ntmps14
 go_wp2_with fail
 refine hal.mono ?_
 rintro e w1 ⟨rfl,hb1⟩
 have HB1:Hid (Below W.heap.size W w1):=hb1
 have c1:w1.cell? ⟨w.heap.size,0,none⟩=some (.slice A0 n cap):=(hb1.cell (p:=⟨w.heap.size,0,none⟩) hsz).trans hA
 have hsz1:w.heap.size<w1.heap.size:=Nat.lt_of_lt_of_le hsz hb1.size
 clear hb1 hal hA hW
 go_wp2_with fail
 go_loopg [26] n (fun g s26 wr => ∃ (k:Nat),k≤n∧g=n-k∧s26=.int .i64 k∧Hid (∀ j,j<k→(rErr (D j)).2=0)∧Below W.heap.size W wr)
 case atStart=>exact ⟨0,Nat.zero_le _,rfl,rfl,(fun j hj=>absurd hj (Nat.not_lt_zero _):∀ j,j<0→_),HB1.out⟩
 case round =>
  obtain ⟨k,hk,rfl,rfl,HK,hBw⟩:=hrel
  have HBw:Hid (Below W.heap.size W wr):=hBw
  by_cases hlt:k<n
  ·have hki:(k:Int)<(n:Int):=by omega
   obtain ⟨hcap,h0 | ⟨b,o,rfl,hMs⟩⟩:=HM.out.later (onB HB0.out hBw)
   ·omega
   have hcapI:(n:Int)≤(cap:Int):=by omega
   obtain ⟨h0,h1,h2,h3⟩:=hMs.2 k hlt
   have hbl:b<wr.heap.size:=hMs.1
   have hBo:=ownDim_below wr (D k) (A k) (C k) 32
   have hck:=rcheck_any (D k) (A k) (C k) (ownDim wr (D k) (A k) (C k) 32) (h3.later hBo)
   obtain ⟨d0,d1,d2,hqW⟩:=dim_cells (w:=wr) (d:=D k) (A:=A k) (cap:=C k) (Below.refl _ _)
   have HBo:Hid (Below wr.heap.size wr (ownDim wr (D k) (A k) (C k) 32)):=hBo
   unfold dimV at hck
   obtain ⟨W2,hW2⟩:∃ W2,ownDim wr (D k) (A k) (C k) 32=W2:=⟨_,rfl⟩
   rw [hW2] at d0 d1 d2 hqW HBo hck
   unfold ownDim at hW2
   clear h3 hMs hBo hBw
   by_cases he:(rErr (D k)).2=0
   ·rw [he,errV_zero] at hck
    have HK2:Hid (∀ j,j<k+1→(rErr (D j)).2=0):=fun j hj=>by
     by_cases e:j=k
     ·rw [e];exact he
     ·exact HK.out j (by omega)
    generalize (rErr (D k)).1=z at hck
    clear he
    go_wp2_with fail
    refine hck.mono ?_
    rintro e w2 ⟨rfl,hb2⟩
    have HB2:Hid (Below W.heap.size W w2):=onB HBw.out (onB HBo.out hb2)
    clear hb2 hck
    go_wp2_with fail
    go_roundg (n-(k+1))
    case measure=>omega
    case rel=>exact ⟨k+1,by omega,rfl,by go_num,HK2,HB2.out⟩
   ·have HRu:Hid (ruErr D n=((k:Int),(rErr (D k)).1,(rErr (D k)).2)):=ru1 HE.out hlt he HK.out
    have HEe:Hid ((rErr (D k)).2≠0):=he
    rw [errV_some he] at hck
    generalize (rErr (D k)).1=z at hck HRu
    generalize (rErr (D k)).2=c at hck HRu HEe
    clear he
    go_wp2_with fail
    refine hck.mono ?_
    rintro e w2 ⟨rfl,hb2⟩
    have HB2:Hid (Below W.heap.size W w2):=onB HBw.out (onB HBo.out hb2)
    clear hb2 hck
    go_wp2_with fail
    go_returns
    rw [HRu.out]
    exact ⟨by rw [errV_some HEe.out];rfl,onB HB0.out HB2.out⟩
  ·have hke:k=n:=by omega
   subst hke
   have HRu:Hid (ruErr D k=(-1,-1,0)):=ru2 HE.out HK.out
   clear hBw
   go_wp2_with fail
   go_returns
   rw [HRu.out]
   exact ⟨rfl,onB HB0.out HBw.out⟩
noncomputable def cuErr (D:Nat→Dm) (n:Nat) (l:List En):Int:=if (ruErr D n).2.2≠0 then (ruErr D n).2.2 else entsErr D n l
theorem ru_zero {D:Nat→Dm} {n:Nat} (h1:(allErr D n).2.2=0) (h2:AllR D n):(ruErr D n).2.2=0:=by rw [ru2 h1 h2]
theorem up_acyc {N:List (List Int)} (h:∀ (a:Int),∀ x∈rowN N a,a<x) (i:Nat):cycB N i=false:=by
 rw [cyc_not]
 intro hr
 have hlt:∀ {a b:Int},Rch N a b→a<b:=by
  intro a b hab
  induction hab with
  | one hx=>exact h _ _ hx
  | more hx _ ih=>have:=h _ _ hx;omega
 have:=hlt hr
 omega
theorem bare_rule {d:Dm} (hd:(dimErr d).2=0) (hf:∀ k,k<d.n→(d.mem k).formula.size=0):(rErr d).2=0:=by
 have ht:=Tr.of hd
 rw [re3 hd (fun j hj=>by unfold mErr;rw [if_pos (hf j hj)]) fun j _=>by
  refine up_acyc (fun a x hx=>?_) j
  unfold rowN at hx
  by_cases ha:a.toNat<d.n
  ·rw [ndL_at ha] at hx
   unfold mNd at hx
   obtain ⟨m,rfl,hm,hb⟩:=selTo_mem x hx
   unfold needB at hb
   rw [if_pos (hf _ ha),Bool.and_eq_true] at hb
   have h1:(d.mem m).parent=((a.toNat:Nat):Int):=by have:=hb.1;unfold partB at this;simpa using this
   have h2:=(ht m hm).2
   omega
  ·rw [List.getD_eq_getElem?_getD,List.getElem?_eq_none (by rw [ndL_len];omega)] at hx
   cases hx]
theorem bare_right {D:Nat→Dm} {n:Nat} (hE:(allErr D n).2.2=0) (hf:∀ i,i<n→∀ k,k<(D i).n→((D i).mem k).formula.size=0):(ruErr D n).2.2=0:=ru_zero hE fun i hi=>bare_rule ((allErr_right hE).2 i hi) (hf i hi)
theorem sq_dim:∀ n:Fin 10,∀ i:Fin 2,dimErr (squareD n.val i.val)=(-1,0):=by decide +kernel
theorem sq_mem:∀ n:Fin 10,∀ i:Fin 2,∀ j:Fin 10,j.val<n.val+1→mErr (squareD n.val i.val) j.val=0:=by decide +kernel
theorem sq_ndl:∀ n:Fin 10,∀ i:Fin 2,(ndL (squareD n.val i.val)).length=n.val+1:=by decide +kernel
theorem sq_ndr:∀ n:Fin 10,∀ i:Fin 2,∀ a:Fin 10,(((ndL (squareD n.val i.val)).getD a.val []).all fun x=>decide ((a.val:Int)<x))=true:=by decide +kernel
theorem sq_err {n i:Nat} (hn:n≤9) (hi:i<2):rErr (squareD n i)=(-1,0):=re3 (by rw [sq_dim ⟨n,by omega⟩ ⟨i,hi⟩]) (fun j hj=>sq_mem ⟨n,by omega⟩ ⟨i,hi⟩ ⟨j,by have:j<n+1:=hj;omega⟩ hj) fun j _=>by
 refine up_acyc (fun a x hx=>?_) j
 unfold rowN at hx
 have hl:=sq_ndl ⟨n,by omega⟩ ⟨i,hi⟩
 by_cases ha:a.toNat<n+1
 ·have h:=List.all_eq_true.1 (sq_ndr ⟨n,by omega⟩ ⟨i,hi⟩ ⟨a.toNat,by omega⟩) x hx
  have h':((a.toNat:Nat):Int)<x:=by simpa using h
  omega
 ·rw [List.getD_eq_getElem?_getD,List.getElem?_eq_none (by rw [show (ndL (squareD n i)).length=n+1 from hl];omega)] at hx
  cases hx
theorem sq_cube {n:Nat} (hn:n≤9):(ruErr (squareD n) 2).2.2=0∧cuErr (squareD n) 2 []=0:=by
 obtain ⟨h1,-⟩:=square_all ⟨n,by omega⟩
 have hr:(ruErr (squareD n) 2).2.2=0:=ru_zero h1 fun i hi=>by rw [sq_err hn hi]
 refine ⟨hr,?_⟩
 unfold cuErr
 rw [hr,if_neg (by simp)]
 exact Ens.ok ⟨h1,fun e he=>(by cases he),List.Pairwise.nil⟩
theorem keepE {W w':World} {b o b' o':Nat} {u v:Value} (h:b<W.heap.size∧b'<W.heap.size∧W.cell? ⟨b,o,none⟩=some u∧W.cell? ⟨b',o',none⟩=some v) (hB:Below W.heap.size W w'):Below W.heap.size W w'∧w'.cell? ⟨b,o,none⟩=some u∧w'.cell? ⟨b',o',none⟩=some v :=
 ⟨hB,(hB.cell (p:=⟨b,o,none⟩) h.1).trans h.2.2.1,(hB.cell (p:=⟨b',o',none⟩) h.2.1).trans h.2.2.2⟩
set_option maxHeartbeats 8000000 in
theorem sameents_any (A B:Option Addr) (ca cb:Nat) (xs ys:List EnL) (w:World) (hl:lE xs=lE ys) (hn:xs.length≤3000) (hS:∀ k,k<xs.length→(xs.getD k noL).e.pl.length≤4) (hA:EnsV w A ca xs) (hB:EnsV w B cb ys) :
  Calls Tryz.prog 12 #[.slice A xs.length ca,.slice B ys.length cb] w fun e w'=>e=.returned (.bool true)∧Below w.heap.size w w':=by
 have hll:ys.length=xs.length:=by rw [←lE_len,←hl,lE_len]
 have HA:Hid (EnsV w A ca xs):=hA
 have HB:Hid (EnsV w B cb ys):=hB
 have HEq:Hid (∀ k,(ys.getD k noL).e=(xs.getD k noL).e):=fun k=>by rw [←lE_at,←lE_at,hl]
 have HS:Hid (∀ k,k<xs.length→(xs.getD k noL).e.pl.length≤4):=hS
 obtain ⟨n,hnn⟩:∃ n,xs.length=n:=⟨_,rfl⟩
 have HN:Hid (xs.length=n):=hnn
 have HN2:Hid (ys.length=n):=hll.trans hnn
 rw [hll]
 rw [hnn] at hn ⊢
 have hn':(n:Int)≤3000:=by omega
 clear hA hB hl hS hll hnn
 go_enter Tryz.func12,Tryz.ntmps12
 go_wp2_with fail
 go_loopg [5] n (fun g s5 wr => ∃ (k:Nat),k≤n∧g=n-k∧s5=.int .i64 k∧Below w.heap.size w wr)
 case atStart=>exact ⟨0,Nat.zero_le _,rfl,rfl,Below.refl _ _⟩
 case round =>
  obtain ⟨k,hk,rfl,rfl,hBw⟩:=hrel
  have HBw:Hid (Below w.heap.size w wr):=hBw
  by_cases hlt:k<n
  ·have hki:(k:Int)<(n:Int):=by omega
   obtain ⟨-,-,h0 | ⟨b,o,rfl,hXs⟩⟩:=HA.out.later hBw
   ·have:=HN.out;rw [h0] at this;simp at this;omega
   obtain ⟨-,-,h0 | ⟨b',o',rfl,hYs⟩⟩:=HB.out.later hBw
   ·have:=HN2.out;rw [h0] at this;simp at this;omega
   obtain ⟨c1,c2⟩:=hXs.at (k:=k) (by rw [HN.out];exact hlt)
   obtain ⟨d1,d2⟩:=hYs.at (k:=k) (by rw [HN2.out];exact hlt)
   have hp1:=hXs.pl (k:=k) (by rw [HN.out];exact hlt)
   have hp2:=hYs.pl (k:=k) (by rw [HN2.out];exact hlt)
   rw [HEq.out k] at d1 d2 hp2
   have HSm:Hid (∀ w',Below wr.heap.size wr w'→Calls Tryz.prog 26 #[.slice (xs.getD k noL).A (xs.getD k noL).e.pl.length (xs.getD k noL).c,.slice (ys.getD k noL).A (xs.getD k noL).e.pl.length (ys.getD k noL).c] w' fun e w''=>e=.returned (.bool true)∧Below w'.heap.size w' w''):=fun w' hw'=>by
    have h:=samepl_any _ _ _ _ _ _ w' (HS.out k (by rw [HN.out];exact hlt)) (hp1.later hw') (hp2.later hw')
    rw [decide_eq_true rfl] at h
    exact h
   have hb1:=hXs.1
   have hb2:=hYs.1
   generalize (xs.getD k noL).A=A1 at c1 HSm
   generalize (xs.getD k noL).c=k1 at c1 HSm
   generalize (ys.getD k noL).A=A2 at d1 HSm
   generalize (ys.getD k noL).c=k2 at d1 HSm
   generalize (xs.getD k noL).e.n=n1 at c2 d2
   generalize (xs.getD k noL).e.pl.length=m1 at c1 d1 HSm
   have HC:Hid (b<wr.heap.size∧b'<wr.heap.size∧wr.cell? ⟨b,o+k*2,none⟩=some (.slice A1 m1 k1)∧wr.cell? ⟨b',o'+k*2,none⟩=some (.slice A2 m1 k2)):=⟨hb1,hb2,c1,d1⟩
   have HC2:Hid (wr.cell? ⟨b,o+k*2+1,none⟩=some (.int .i64 n1)∧wr.cell? ⟨b',o'+k*2+1,none⟩=some (.int .i64 n1)):=⟨c2,d2⟩
   clear hXs hYs hp1 hp2 c1 c2 d1 d2 hBw
   go_wp2_with fail
   go_cut [6] (fun s6 wx=>s6=.bool true∧Below wr.heap.size wr wx)
   case first=>as_aux_lemma =>
    go_region_held3 (fun w'=>Below wr.heap.size wr w'∧w'.cell? ⟨b,o+k*2,none⟩=some (.slice A1 m1 k1)∧w'.cell? ⟨b',o'+k*2,none⟩=some (.slice A2 m1 k2))
     ((refine keepE HC.out ?_;go_grown;done))
     (first | (go_at_call 26;refine (HSm.out _ (by go_grown)).mono ?_;rintro e w3 ⟨rfl,hb3⟩;have hN3:=onB (W0:=wr) (by go_grown) hb3;have hy3:=hN3.size;clear hb3))
    all_goals go_wp2_with fail
    all_goals go_meet
    all_goals exact ⟨rfl,by go_grown⟩
   case rest=>as_aux_lemma =>
   obtain ⟨rfl,hb⟩:=hcut
   obtain ⟨w2,rfl⟩:∃ w2:World,w2=wc:=⟨_,rfl⟩
   have HB2:Hid (Below wr.heap.size wr w2):=hb
   have f1:w2.cell? ⟨b,o+k*2+1,none⟩=some (.int .i64 n1):=(hb.cell (p:=⟨b,o+k*2+1,none⟩) hb1).trans HC2.out.1
   have f2:w2.cell? ⟨b',o'+k*2+1,none⟩=some (.int .i64 n1):=(hb.cell (p:=⟨b',o'+k*2+1,none⟩) hb2).trans HC2.out.2
   clear hb HC HC2 HSm
   go_wp2_with fail
   go_quiet (fail)
   go_wp2_with fail
   go_roundg (n-(k+1))
   case measure=>omega
   case rel=>exact ⟨k+1,by omega,rfl,by go_num,below_drewN (onB HBw.out HB2.out) _⟩
  ·have hke:k=n:=by omega
   subst hke
   go_wp2_with fail
   go_ret
   exact ⟨rfl,hBw⟩
def SqA (g h:Nat) (i:Nat):Option Addr:=if i=0 then some ⟨g,0,none⟩ else some ⟨h,0,none⟩
def SqC (c d:Nat) (i:Nat):Nat:=if i=0 then c else d
theorem new_cell (w:World) (a:Addr) (u:Value) (cs:Array Value) (t j:Nat):((w.setCell a u).alloc (.cells cs t)).cell? ⟨w.heap.size,j,none⟩=cs[j]?:=by
 have h:=heap_alloc_new (w.setCell a u) (.cells cs t)
 have e:(w.setCell a u).heap.size=w.heap.size:=by simp [World.setCell]
 rw [e] at h
 exact Lib.cell_of_heap h j
theorem new_mem {w:World} {a:Addr} {u:Value} {o:Obj} {g n:Nat} (h:MemB w g n) (hne:g≠a.block):MemB ((w.setCell a u).alloc o) g n:=by
 have e:(w.setCell a u).heap.size=w.heap.size:=by simp [World.setCell]
 refine h.same ?_
 rw [Below.heap_alloc _ _ _ (by rw [e];exact h.lt),Below.heap_setCell _ _ _ _ hne]
set_option maxHeartbeats 4000000 in
theorem square_any (n:Nat) (w:World) (hn:n≤12):Calls Tryz.prog 13 #[.int .i64 n] w fun e w'=>(∃ A0 A C,e=.returned (.agg #[.slice A0 2 2])∧DimsV w' A0 2 2 (squareD n) A C)∧Below w.heap.size w w':=by
 have h1:=flat_any ⟨#[120]⟩ n (ownOut w none 0 0 24) hn
 have HB0:Hid (Below w.heap.size w (ownOut w none 0 0 24)):=ownOut_below ..
 go_enter Tryz.func13,Tryz.ntmps13
 go_wp2_with fail
 refine h1.mono ?_
 rintro e w1 ⟨⟨g1,k1,rfl,hc1,hg1,hM1⟩,hb1⟩
 have hB1:=onB HB0.out hb1
 have hz1:w.heap.size<w1.heap.size:=by have:=hb1.size;rw [ownOut_size] at this;omega
 have c1:w1.cell? ⟨w.heap.size,0,none⟩=some (.slice none 0 0):=(hb1.cell (p:=⟨w.heap.size,0,none⟩) (by show w.heap.size<_;rw [ownOut_size];omega)).trans (ownOut_at ..)
 have f1:w1.frozen? ⟨w.heap.size,0,none⟩=false:=(hb1.frozen (p:=⟨w.heap.size,0,none⟩) (by show w.heap.size<_;rw [ownOut_size];omega)).trans (by unfold ownOut;exact World.frozen?_alloc_at _ _ _ _ rfl)
 have h2:=flat_any ⟨#[121]⟩ n w1 hn
 clear h1 hb1
 go_wp2_with fail
 refine h2.mono ?_
 rintro e w2 ⟨⟨g2,k2,rfl,hc2,hg2,hM2⟩,hb2⟩
 have hB2:=onB hB1 hb2
 have hz2:w.heap.size<w2.heap.size:=Nat.lt_of_lt_of_le hz1 hb2.size
 have c2:=(hb2.cell (p:=⟨w.heap.size,0,none⟩) hz1).trans c1
 have f2:=(hb2.frozen (p:=⟨w.heap.size,0,none⟩) hz1).trans f1
 have HM1:Hid (MemB w2 g1 (n+1)):=hM1.later hb2
 have HM2:Hid (MemB w2 g2 (n+1)):=hM2
 have HB2:Hid (Below w.heap.size w w2):=hB2
 clear c1 f1 h2 hM1 hM2 hb2 hB1 hB2
 go_wp2_with fail
 rw [ownOut_size] at hg1
 have hq:∀ v o,((w2.setCell ⟨w.heap.size,0,none⟩ v).alloc o).cell? ⟨w.heap.size,0,none⟩=some v:=fun v o=>by
  rw [World.cell?_alloc_lt _ _ ⟨w.heap.size,0,none⟩ (by show w.heap.size<_;simp [World.setCell];exact hz2),World.cell?_setCell_same _ _ _ c2]
 refine bodyPost_ret (v:=.agg #[.slice (some ⟨w2.heap.size,0,none⟩) 2 2]) (by simp [results,Tryz.results13,go_sem,hq]) rfl ⟨⟨some ⟨w2.heap.size,0,none⟩,SqA g1 g2,SqC k1 k2,rfl,Nat.le_refl _,Or.inr ⟨_,_,rfl,by simp [World.setCell],fun i hi=>?_⟩⟩,?_⟩
 ·match i,hi with
  | 0,_=>exact ⟨new_cell _ _ _ _ _ 0,new_cell _ _ _ _ _ 1,new_cell _ _ _ _ _ 2,hc1,Or.inr ⟨g1,0,rfl,(new_mem HM1.out (by show g1≠w.heap.size;omega)).2⟩⟩
  | 1,_=>exact ⟨new_cell _ _ _ _ _ 3,new_cell _ _ _ _ _ 4,new_cell _ _ _ _ _ 5,hc2,Or.inr ⟨g2,0,rfl,(new_mem HM2.out (by show g2≠w.heap.size;omega)).2⟩⟩
 ·exact (HB2.out.setCell (Nat.le_refl _) _).alloc (by simp [World.setCell];omega) _
end Go.Proofs.YtglekooldbeklaaGreatDoor
