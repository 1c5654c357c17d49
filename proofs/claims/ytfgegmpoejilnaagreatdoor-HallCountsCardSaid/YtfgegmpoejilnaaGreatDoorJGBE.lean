/-
  All parts together, on plain data: how the members of a dim count in one of them, laid out; the leafs of a place, dim by dim, and that these are the places of the outline, in order, that are leafs of it.
-/
import Derived.Lib.AppendZerosOnto
import Derived.Test.YtfgegmpoejilnaaGreatDoorJGAX
import Derived.Test.YtfgegmpoejilnaaGreatDoorJGBC
import Derived.Test.YtfgegmpoejilnaaGreatDoorJGBD
namespace Go.Proofs.YtfgegmpoejilnaaGreatDoor
theorem sel_in {p:Nat→Bool} {k m:Nat} (hm:m<k) (hp:p m=true):(m:Int)∈selTo p k:=by
 induction k with
 | zero=>omega
 | succ k ih =>
  by_cases e:m=k
  ·subst e;rw [selTo_hit hp];simp
  ·have h1:=ih (by omega)
   cases hk:p k
   ·rw [selTo_miss hk];exact h1
   ·rw [selTo_hit hk];simp [h1]
theorem leaf_each {D:Nat→Dm} {n:Nat} {q:List Int} (h:leafV D n q=true):∀ k,k<n→leafB (D k).mem (D k).n (q.getD k 0).toNat=true:=by
 unfold leafV at h
 split at h
 ·intro k hk
  cases hb:leafB (D k).mem (D k).n (q.getD k 0).toNat
  ·have h1:∀ m i,i≤k→k<i+m→0≤findFrom (notLeaf D q) m i:=by
    intro m
    induction m with
    | zero=>intro i h1 h2;omega
    | succ m ih =>
     intro i h1 h2
     cases hn:notLeaf D q i
     ·rw [findFrom_miss _ hn]
      refine ih (i+1) ?_ (by omega)
      rcases Nat.lt_or_ge i k with h3 | h3
      ·omega
      ·have:i=k:=by omega
       subst this
       unfold notLeaf at hn
       rw [hb] at hn
       cases hn
     ·rw [findFrom_hit _ hn];omega
   have:=h1 n 0 (by omega) (by omega)
   rw [decide_eq_true this] at h
   cases h
  ·rfl
 ·cases h
theorem cnt_pw {D:Nat→Dm} {n:Nat} {p:List Int} {e:En}:cntR D n p e = !(pwTo D p e.pl n == 0):=by
 unfold cntR
 cases h:inTo D p e.pl n
 ·rw [pwTo_out h];rfl
 ·rfl
end Go.Proofs.YtfgegmpoejilnaaGreatDoor
namespace Go.Proofs.YtfgegmpoejilnaaGreatDoor
open Go Go.ChangeShapes Go.WideShapes Go.ChangeAt Go.RowKit
set_option maxRecDepth 20000
structure PL where
 p:List Int
 A:Option Addr
 c:Nat
def noP:PL:=⟨[],none,0⟩
def lP (xs:List PL):List (List Int):=xs.map PL.p
def cellsP (xs:List PL):List Value:=xs.map fun x=>.slice x.A x.p.length x.c
theorem cellsP_append (a b:List PL):cellsP (a ++ b)=cellsP a ++ cellsP b:=by simp [cellsP]
theorem Tryz.infoPla:(Tryz.prog.info? 39).map (fun i=>(i.zero,i.size,i.bytes))=some (some (.slice none 0 0),1,24):=by kernel_rfl
theorem map_take {X:List Int} {h:List Int} {j:Nat} (hj:j<X.length):(X.take (j+1)).map (fun x=>h ++ [x])=(X.take j).map (fun x=>h ++ [x]) ++ [h ++ [X.getD j 0]]:=by
 rw [List.take_succ_eq_append_getElem hj,List.map_append,List.getD_eq_getElem?_getD,List.getElem?_eq_getElem hj]
 rfl
end Go.Proofs.YtfgegmpoejilnaaGreatDoor
namespace Go.Proofs.YtfgegmpoejilnaaGreatDoor
open Go.ChangeShapes Go.WideShapes Go.ChangeAt Go.RowKit
def shTo (D:Nat→Dm) (n:Nat):List (List Int)→Int
 | []=>0
 | q :: r=>if shapeErr D n q≠0 then shapeErr D n q else shTo D n r
def drTo (D:Nat→Dm) (n:Nat) (Q:List (List Int)):Int:=if shTo D n Q≠0 then shTo D n Q else if Q.any (fun q => !leafV D n q)=true then 6 else 0
noncomputable def drE (D:Nat→Dm) (n:Nat) (Q:List (List Int)):Int:=if (ruErr D n).2.2≠0 then (ruErr D n).2.2 else drTo D n Q
def drN (D:Nat→Dm) (n:Nat) (Q:List (List Int)):List Int:=Q.map fun q=>numI D q n
noncomputable def ddL (D:Nat→Dm) (n:Nat) (Q:List (List Int)):List Int:=if drE D n Q=0 then drtL D n (drN D n Q) else []
theorem place_shapeN {D:Nat→Dm} {n:Nat} {p:List Int} (h:(allErr D n).2.2=0):placeErr D n p=shapeErr D n p:=by unfold placeErr;rw [if_neg (by simpa using h)]
theorem sel_3000 {D:Nat→Dm} {n:Nat} (h:(allErr D n).2.2=0) (f:Nat→Bool):(selTo f (prodN D n)).length≤3000:=by
 obtain ⟨-,-,hp3,-⟩:=allErr_some h
 exact Nat.le_trans (selTo_len _ _) hp3
def PlsA (w:World) (A:Option Addr) (cap:Nat) (xs:List PL):Prop:=xs.length≤cap∧(xs=[]∨∃ b o,A=some ⟨b,o,none⟩∧b<w.heap.size∧∀ k,k<xs.length→w.cell? ⟨b,o+k,none⟩=some (.slice (xs.getD k noP).A (xs.getD k noP).p.length (xs.getD k noP).c))∧∀ x∈xs,PlAt w x.A x.c x.p
theorem PlsA.later {w w':World} {A:Option Addr} {cap:Nat} {xs:List PL} (h:PlsA w A cap xs) (hB:Below w.heap.size w w'):PlsA w' A cap xs:=by
 obtain ⟨h1,h2,h3⟩:=h
 refine ⟨h1,?_,fun x hx=>(h3 x hx).later hB⟩
 rcases h2 with h2 | ⟨b,o,h2,h4,h5⟩
 ·exact Or.inl h2
 ·exact Or.inr ⟨b,o,h2,Nat.lt_of_lt_of_le h4 hB.size,fun k hk=>(hB.cell (p:=⟨b,o+k,none⟩) h4).trans (h5 k hk)⟩
end Go.Proofs.YtfgegmpoejilnaaGreatDoor
namespace Go.Proofs.YtfgegmpoejilnaaGreatDoor
open Go.ChangeShapes Go.WideShapes Go.ChangeAt Go.RowKit
set_option maxRecDepth 20000
set_option maxHeartbeats 8000000 in
theorem ptell_any (q g n:Nat) (D:Nat→Dm) (X:Nat→AL) (x:Nat) (AC:Option Addr) (cC:Nat) (L:List (Int×Int)) (w:World) (hR:AllR D n) (hE:(allErr D n).2.2=0) (hx:x<prodN D n) (hA:PlanV w q g n D X) (hL:L.length=prodN D n) (hC:CelV w AC cC L) (hok:∀ z∈ndsX D n x,goodC (L.getD z.toNat noC)) :
  Calls Tryz.prog 29 #[.pointer (some ⟨q,0,none⟩),.slice AC (prodN D n) cC,.int .i64 x] w fun e w'=>e=.returned (.tuple #[.agg #[.int .i64 (tlV D n L x).1,.int .i64 (tlV D n L x).2],.nilIface])∧Below w.heap.size w w':=by
 obtain ⟨i0,hi0,hz0,hz1,hz2⟩:=info_parts Tryz.infoCe
 obtain ⟨hn1,hn4,hp3,hd⟩:=allErr_some hE
 obtain ⟨W,hW⟩:∃ W,w.alloc (.cells #[.int .i64 0,.int .i64 0] 54)=W:=⟨_,rfl⟩
 have hB0:Below w.heap.size w W:=by rw [←hW];go_grown
 have hWb:W.heap[w.heap.size]?=some (.cells #[.int .i64 0,.int .i64 0] 54 (0,0)):=by rw [←hW];exact heap_alloc_new ..
 have HB0:Hid (Below w.heap.size w W):=hB0
 have HWb:Hid (W.heap[w.heap.size]?=some (.cells #[.int .i64 0,.int .i64 0] 54 (0,0))):=hWb
 have hl0:w.heap.size<W.heap.size:=(Array.getElem?_eq_some_iff.1 hWb).1
 obtain ⟨hcL,-,h0 | ⟨bc,oc,rfl,hCat⟩⟩:=id hC
 ·rw [h0] at hL;simp at hL;omega
 have hby:=by_any2 q g n D X x W hE hx (hA.later hB0)
 have HCe:Hid (∀ w',Below w.heap.size w w'→bc<w'.heap.size∧∀ j,j<prodN D n→w'.cell? ⟨bc,oc+j*2,none⟩=some (.int .i64 (L.getD j noC).1)∧w'.cell? ⟨bc,oc+j*2+1,none⟩=some (.int .i64 (L.getD j noC).2)):=fun w' hB=>by
  obtain ⟨-,-,h0 | ⟨bc',oc',h1,hCat'⟩⟩:=hC.later hB
  ·rw [h0] at hL;simp at hL;omega
  ·cases h1
   exact ⟨hCat'.1,fun j hj=>hCat'.2 j (by omega)⟩
 have HCp:Hid (∀ w',Below w.heap.size w w'→q<w'.heap.size∧w'.cell? ⟨q,0,none⟩=some (.slice (some ⟨g,0,none⟩) n n)∧w'.cell? ⟨q,1,none⟩=some (.int .i64 (prodN D n:Nat))):=fun w' hB=>(hA.later hB).cells
 have HA:Hid (PlanV w q g n D X):=hA
 have HRs:Hid (∀ w',Below W.heap.size W w'→w.heap.size<w'.heap.size∧w'.cell? ⟨w.heap.size,0,none⟩=some (.int .i64 0)∧w'.cell? ⟨w.heap.size,1,none⟩=some (.int .i64 0)∧w'.frozen? ⟨w.heap.size,0,none⟩=false∧w'.frozen? ⟨w.heap.size,1,none⟩=false):=fun w' hB=>⟨Nat.lt_of_lt_of_le hl0 hB.size,pair_at ((hB.block _ hl0).trans hWb)⟩
 obtain ⟨hq,q0,q1⟩:=HCp.out W hB0
 have hnI:(n:Int)≤4:=by omega
 have hP:=placeL_in (D:=D) (n:=n) (x:=x) hE
 obtain ⟨N,hN⟩:∃ N,prodN D n=N:=⟨_,rfl⟩
 have HN:Hid (prodN D n=N):=hN
 rcases by_in D (placeL D n x) n with h | ⟨b,h,hb⟩
 ·have HV:Hid (tlV D n L x=L.getD x noC):=tl_leaf (by omega)
  rw [h] at hby
  rw [hN] at q1 hx hp3 HCe HCp hL ⊢
  have hxI:(x:Int)<(N:Int):=by omega
  have hNI:(N:Int)≤3000:=by omega
  have hcI:(N:Int)≤(cC:Int):=by omega
  clear hA hE hR hP h hd hC hCat hok hB0 hWb hN
  go_enter Tryz.func29,Tryz.ntmps29
  go_wp2_with fail
  refine hby.mono ?_
  rintro e w1 ⟨rfl,hb1⟩
  have HB1:Hid (Below W.heap.size W w1):=hb1
  obtain ⟨hbc,hcj⟩:=HCe.out w1 (onB HB0.out hb1)
  obtain ⟨y0,y1⟩:=hcj x hx
  obtain ⟨hr,r0,r1,r2,r3⟩:=HRs.out w1 hb1
  obtain ⟨⟨ra,rb⟩,hRe⟩:∃ R,L.getD x noC=R:=⟨_,rfl⟩
  have HRe:Hid (L.getD x noC=(ra,rb)):=hRe
  rw [hRe] at y0 y1
  simp only at y0 y1
  clear hb1 hby q0 q1 hW hcj hRe
  go_wp2_with fail
  refine bodyPost_ret (v:=.tuple #[.agg #[.int .i64 ra,.int .i64 rb],.nilIface]) (by simp [results,Tryz.results29,go_sem,r0,r1]) rfl ⟨by rw [HV.out,HRe.out],?_⟩
  exact ((onB HB0.out HB1.out).setCell (by simp) _).setCell (by simp) _
 ·obtain ⟨hd1,hd12⟩:=hd b hb
  have hp0:=hP.lo b hb
  have hp1:=hP.hi b hb
  obtain ⟨m,hm⟩:∃ m,x / stepD D n b % (D b).n=m:=⟨_,rfl⟩
  have hpm:((placeL D n x).getD b 0).toNat=m:=by rw [digit_at hb,hm]
  have hmn:m<(D b).n:=by rw [←hm];exact Nat.mod_lt _ hd1
  have HV:Hid (tlV D n L x=oneV (D b) (fun k=>L.getD (putN D n x b k).toNat noC) m):=by show _=_;rw [tl_by h,hpm]
  have HNd:Hid (ndsX D n x=(neW (D b) m).map (putN D n x b)):=by show _=_;rw [nds_by h,hpm]
  have hSp:=stepD_pos (D:=D) (n:=n) (fun i hi=>(hd i hi).1) hb
  obtain ⟨S,hSd⟩:∃ S,stepD D n b=S:=⟨_,rfl⟩
  have HWy:Hid (∀ w',Below w.heap.size w w'→Calls Tryz.prog 57 #[.agg #[.int .i64 (D b).solve,.int .i64 S,.slice (X b).A (D b).n (X b).c],.int .i64 x] w' fun e w''=>e=.returned (wayV ((X b).xs.getD m noW))∧Below w'.heap.size w' w''):=fun w' hB=>way_any (D b) S (X b) x m w' (by rw [←hSd];exact hSp) hd1 hd12 (by omega) (by rw [←hSd];exact hm) ((hA.later hB).2.one hb).2.2
  have HTl:Hid (∀ w' A' c',Below w.heap.size w w'→CelV w' A' c' ((ndsX D n x).map fun z=>L.getD z.toNat noC)→Calls Tryz.prog 58 #[wayV ((X b).xs.getD m noW),.slice A' (ndsX D n x).length c'] w' fun e w''=>e=.returned (.tuple #[.agg #[.int .i64 (tlV D n L x).1,.int .i64 (tlV D n L x).2],.nilIface])∧Below w'.heap.size w' w''):=fun w' A' c' hB hCv=>by
   obtain ⟨-,-,hOne⟩:=(hA.later hB).2.one hb
   obtain ⟨-,-,-,-,-,hWt⟩:=hOne.way hmn
   have hwo:=hOne.2.2 m hmn
   have hne:=way_ne hwo
   have h2:=tell_any (D b) m ((X b).xs.getD m noW) A' c' (fun k=>L.getD (putN D n x b k).toNat noC) w' (hR b hb) hmn hwo hWt (fun k hk=>hok _ (by rw [HNd.out,List.mem_map];exact ⟨k,(neW_mem (hR b hb) hmn k).2 hk,rfl⟩)) (by
    rw [HNd.out,List.map_map] at hCv
    rw [hne]
    exact hCv)
   rw [hne,←HV.out] at h2
   have hl2:(ndsX D n x).length=(neW (D b) m).length:=by rw [HNd.out,List.length_map]
   rw [hl2]
   exact h2
  have HNdc:Hid (∀ w',Below w.heap.size w w'→Calls Tryz.prog 56 #[.pointer (some ⟨q,0,none⟩),.int .i64 x] w' fun e w''=>(∃ v,e=.returned v∧w''.ownsRow w'.heap.size 3 1 v (ndsX D n x).length (mapI (ndsX D n x)))∧Below w'.heap.size w' w''):=fun w' hB=>needs_any q g n D X x w' hR hE hx (hA.later hB)
  have HIn:Hid (∀ z∈ndsX D n x,∃ y:Nat,z=(y:Int)∧y<N):=fun z hz=>by
   obtain ⟨y,e1,e2⟩:=nds_in hR hE hx z hz
   exact ⟨y,e1,by omega⟩
  have hln:=nds_len hR hE hx
  have HCx:Hid (∀ w',Below w.heap.size w w'→g<w'.heap.size∧w'.cell? ⟨g,b*3,none⟩=some (.int .i64 (D b).solve)∧w'.cell? ⟨g,b*3+1,none⟩=some (.int .i64 S)∧w'.cell? ⟨g,b*3+2,none⟩=some (.slice (X b).A (D b).n (X b).c)):=fun w' hB=>by
   obtain ⟨hg,⟨c0,c1,c2⟩,-⟩:=(hA.later hB).2.one hb
   rw [hSd] at c1
   exact ⟨hg,c0,c1,c2⟩
  obtain ⟨P,hPn⟩:∃ P,ndsX D n x=P:=⟨_,rfl⟩
  rw [hPn] at HTl HNdc HIn hln
  obtain ⟨F,hF⟩:∃ F,(fun z:Int=>L.getD z.toNat noC)=F:=⟨_,rfl⟩
  have HFe:Hid (∀ z:Int,F z=L.getD z.toNat noC):=fun z=>by rw [←hF]
  rw [hF] at HTl
  obtain ⟨⟨ra,rb⟩,hRe⟩:∃ R,tlV D n L x=R:=⟨_,rfl⟩
  rw [hRe] at HTl ⊢
  simp only at HTl ⊢
  obtain ⟨M,hMl⟩:∃ M,P.length=M:=⟨_,rfl⟩
  have HM:Hid (P.length=M):=hMl
  rw [hMl] at HTl HNdc hln
  have hMI:(M:Int)≤12:=by omega
  rw [h] at hby
  rw [hN] at q1 hx hp3 HCe HCp hL ⊢
  have hxI:(x:Int)<(N:Int):=by omega
  have hNI:(N:Int)≤3000:=by omega
  have hcI:(N:Int)≤(cC:Int):=by omega
  have hbI:(b:Int)<(n:Int):=by omega
  have hb0:((b:Int) == -1)=false:=by simp
  generalize wayV ((X b).xs.getD m noW)=wv at HWy HTl
  clear hA hE hR hP h hd hC hCat hok hB0 hWb hp0 hp1 hm hpm hmn hSp hSd hPn hMl HNd HV hRe hN hF
  go_enter Tryz.func29,Tryz.ntmps29
  go_wp2_with fail
  refine hby.mono ?_
  rintro e w1 ⟨rfl,hb1⟩
  have HB1:Hid (Below W.heap.size W w1):=hb1
  have hnd:=HNdc.out w1 (onB HB0.out hb1)
  clear hb1 hby q0 q1 hW
  go_wp2_with fail
  refine hnd.mono ?_
  rintro e w2 ⟨⟨v,rfl,hO2⟩,hb2⟩
  have HB2:Hid (Below W.heap.size W w2):=onB HB1.out hb2
  have HIt:Hid (∃ A' c',v=.slice A' M c'∧IntT w2 A' c' P):=by
   have h2:=hO2
   rw [←HM.out] at h2
   obtain ⟨A',c',e,hv⟩:=intT_own h2
   rw [HM.out] at e
   exact ⟨A',c',e,hv⟩
  obtain ⟨A2,c2,rfl,hI2⟩:=HIt.out
  have HI2:Hid (IntT w2 A2 c2 P):=hI2
  clear hb2 hnd hO2 hI2 HIt
  go_wp2_with fail
  go_loopg [9,46] M (fun gg s9 s46 wr => ∃ (k:Nat) (u:Value),k≤M∧gg=M-k∧s46=.int .i64 k∧u=s9∧Hid (wr.ownsRow w2.heap.size 54 2 u k (cellsC ((P.take k).map F)))∧Hid (Below w2.heap.size w2 wr))
  case atStart=>exact ⟨0,_,Nat.zero_le _,rfl,rfl,rfl,World.ownsRow_nil _ _ _ _,Below.refl _ _⟩
  case round =>
   obtain ⟨k,u,hk,rfl,rfl,rfl,HO,HBw⟩:=hrel
   have HBwW:Hid (Below W.heap.size W wr):=onB HB2.out HBw.out
   by_cases hlt:k<M
   ·have hki:(k:Int)<(M:Int):=by omega
    have hkP:k<P.length:=by rw [HM.out];exact hlt
    obtain ⟨y,hy,hyN⟩:=HIn.out _ (getD_memI hkP)
    obtain ⟨hcS,-,hS0 | ⟨bs,cs,fr,rfl,hbS,hcl⟩⟩:=HI2.out.later HBw.out
    ·have:=HM.out;rw [hS0] at this;simp at this;omega
    have cx:=hcl k hkP
    have hbs:bs<wr.heap.size:=(Array.getElem?_eq_some_iff.1 hbS).1
    rw [HM.out] at hcS
    rw [hy] at cx
    have hcSI:(M:Int)≤(c2:Int):=by omega
    have HSn:Hid ((P.take (k+1)).map F=(P.take k).map F ++ [L.getD y noC]):=by
     show _=_
     rw [map_snoc F P hkP,HFe.out,hy,Int.toNat_natCast]
    obtain ⟨hbc,hcj⟩:=HCe.out wr (onB HB0.out HBwW.out)
    obtain ⟨y0,y1⟩:=hcj y hyN
    have hyI:(y:Int)<(N:Int):=by omega
    generalize L.getD y noC=r at y0 y1 HSn
    obtain ⟨sa,sb⟩:=r
    simp only at y0 y1
    have hsz2:=HBw.out.size
    clear hcl hbS hy hcj
    go_wp2_with (at_builtin;refine wpList_append_own _ rfl _ _ 42 rfl w2.heap.size 54 i0 (.agg #[.int .i64 0,.int .i64 0]) 2 16 Tryz.underlying42 hi0 hz0 hz1 hz2 rfl (by decide) _ _ _ rfl (HO.out.alloc _) ⟨wr.heap.size,0,none⟩ 1 1 [.int .i64 sa,.int .i64 sb] rfl rfl ?qe2 ?qe3 ?qe4 ?qe5 ?qe6 ?_)
    case qe2 =>
     intro j t hj
     rw [plain_addW,Lib.cell_of_heap (heap_alloc_new wr (.cells #[.int .i64 sa,.int .i64 sb] 54))]
     simpa using hj
    case qe3=>intro t ht;simp at ht;rcases ht with rfl | rfl <;> rfl
    case qe4=>simp only [maxLen];omega
    case qe5=>omega
    case qe6=>simp;omega
    intro v' w4 hown' hgrow hnil
    have HB4:Hid (Below w2.heap.size w2 w4):=grown_own HBw.out HO.out hgrow
    have HO4:Hid (w4.ownsRow w2.heap.size 54 2 v' (k+1) (cellsC ((P.take (k+1)).map F))):=by
     show World.ownsRow ..
     rw [HSn.out,cellsC_append,List.map_take]
     exact hown'
    clear hown' hgrow hnil
    go_wp2_with fail
    go_roundg (M-(k+1))
    case measure=>omega
    case rel=>exact ⟨k+1,_,by omega,rfl,by go_num,rfl,HO4,HB4⟩
   ·have hke:k=M:=by omega
    subst hke
    have HCv:Hid (∃ A' c',u=.slice A' k c'∧CelV wr A' c' (P.map F)):=by
     have h:=HO.out
     rw [List.take_of_length_le (by rw [HM.out];exact Nat.le_refl _)] at h
     have hlen:(P.map F).length=k:=by rw [List.length_map];exact HM.out
     rw [←hlen] at h
     obtain ⟨A',c',e,hv⟩:=cel_own h
     rw [hlen] at e
     exact ⟨A',c',e,hv⟩
    obtain ⟨A3,c3,rfl,hC3⟩:=HCv.out
    have HC3:Hid (CelV wr A3 c3 (P.map F)):=hC3
    obtain ⟨hq1,p0,p1⟩:=HCp.out wr (onB HB0.out HBwW.out)
    obtain ⟨hg1,a1,a2,a3⟩:=HCx.out wr (onB HB0.out HBwW.out)
    have hwy:=HWy.out wr (onB HB0.out HBwW.out)
    clear hC3 HCv
    go_wp2_with fail
    refine hwy.mono ?_
    rintro e w5 ⟨rfl,hb5⟩
    have HB5:Hid (Below W.heap.size W w5):=onB HBwW.out hb5
    have htl:=HTl.out w5 A3 c3 (onB HB0.out HB5.out) (HC3.out.later hb5)
    clear hb5 hwy p0 p1 a1 a2 a3
    go_wp2_with fail
    refine htl.mono ?_
    rintro e w6 ⟨rfl,hb6⟩
    have HB6:Hid (Below W.heap.size W w6):=onB HB5.out hb6
    obtain ⟨hr,r0,r1,r2,r3⟩:=HRs.out w6 HB6.out
    clear hb6 htl
    go_wp2_with fail
    refine bodyPost_ret (v:=.tuple #[.agg #[.int .i64 ra,.int .i64 rb],.nilIface]) (by simp [results,Tryz.results29,go_sem,r0,r1]) rfl ⟨rfl,?_⟩
    exact ((onB HB0.out HB6.out).setCell (by simp) _).setCell (by simp) _
end Go.Proofs.YtfgegmpoejilnaaGreatDoor
namespace Go.Proofs.YtfgegmpoejilnaaGreatDoor
def facS (D:Nat→Dm) (S:Nat→Bool) (p q:List Int) (k:Nat):Int:=if S k=true then weightOf (D k).mem (p.getD k 0) (q.getD k 0) else if p.getD k 0=q.getD k 0 then 1 else 0
def gwTo (D:Nat→Dm) (S:Nat→Bool) (p q:List Int):Nat→Int
 | 0=>1
 | k+1=>gwTo D S p q k*facS D S p q k
theorem gw_congr {D:Nat→Dm} {S S':Nat→Bool} {p p' q:List Int}:∀ k,(∀ j,j<k→facS D S p q j=facS D S' p' q j)→gwTo D S p q k=gwTo D S' p' q k
 | 0,_=>rfl
 | k+1,h=>by rw [gwTo,gwTo,gw_congr k fun j hj=>h j (by omega),h k (by omega)]
def grTo (D:Nat→Dm) (S:Nat→Bool) (dim:Nat) (p q:List Int):Nat→Int
 | 0=>1
 | k+1=>grTo D S dim p q k*(if k=dim then 1 else facS D S p q k)
theorem gw_split (D:Nat→Dm) (S:Nat→Bool) (dim:Nat) (p q:List Int):∀ k,gwTo D S p q k=grTo D S dim p q k*(if dim<k then facS D S p q dim else 1)
 | 0=>by simp [gwTo,grTo]
 | k+1=>by
  rw [gwTo,grTo,gw_split D S dim p q k]
  rcases Nat.lt_trichotomy dim k with h | h | h
  ·rw [if_pos h,if_pos (show dim<k+1 by omega),if_neg (show ¬ k=dim by omega),Int.mul_assoc,Int.mul_comm (facS D S p q dim),←Int.mul_assoc]
  ·subst h
   rw [if_neg (show ¬ dim<dim by omega),if_pos (show dim<dim+1 by omega),if_pos (show dim=dim from rfl)]
  ·rw [if_neg (show ¬ dim<k by omega),if_neg (show ¬ dim<k+1 by omega),if_neg (show ¬ k=dim by omega),Int.mul_one,Int.mul_one]
theorem gr_congr {D:Nat→Dm} {S:Nat→Bool} {dim:Nat} {p p' q:List Int}:∀ k,(∀ j,j<k→j≠dim→p.getD j 0=p'.getD j 0)→grTo D S dim p q k=grTo D S dim p' q k
 | 0,_=>rfl
 | k+1,h=>by
  rw [grTo,grTo,gr_congr k fun j hj=>h j (by omega)]
  by_cases e:k=dim
  ·rw [if_pos e,if_pos e]
  ·rw [if_neg e,if_neg e]
   unfold facS
   rw [h k (by omega) e]
theorem fac_small {D:Nat→Dm} {n:Nat} {q:List Int} (hq:InO D n q) (S:Nat→Bool) (p:List Int) {k:Nat} (hk:k<n) : -1≤facS D S p q k∧facS D S p q k≤1:=by
 unfold facS
 split
 ·exact weight_small hq hk _
 ·split <;> omega
theorem gw_small {D:Nat→Dm} {n:Nat} {q:List Int} (hq:InO D n q) (S:Nat→Bool) (p:List Int):∀ k,k≤n→-1≤gwTo D S p q k∧gwTo D S p q k≤1
 | 0,_=>by simp [gwTo]
 | k+1,hk=>by
  rw [gwTo]
  exact small_mul (gw_small hq S p k (by omega)) (fac_small hq S p (by omega))
def gN (D:Nat→Dm) (n:Nat) (S:Nat→Bool) (p:List Int):List En→Int
 | []=>0
 | e :: r=>gwTo D S p e.pl n*e.n+gN D n S p r
def gB (D:Nat→Dm) (n:Nat) (S:Nat→Bool) (p:List Int) (e:En):Bool := !(gwTo D S p e.pl n == 0)
def gV (D:Nat→Dm) (n:Nat) (S:Nat→Bool) (l:List En) (p:List Int):Int×Int:=(if l.any (gB D n S p)=true then 1 else 0,gN D n S p l)
def gL (D:Nat→Dm) (n:Nat) (S:Nat→Bool) (l:List En):List (Int×Int):=(List.range (prodN D n)).map fun x=>gV D n S l (placeL D n x)
theorem gL_len (D:Nat→Dm) (n:Nat) (S:Nat→Bool) (l:List En):(gL D n S l).length=prodN D n:=by simp [gL]
theorem gL_at {D:Nat→Dm} {n:Nat} {S:Nat→Bool} {l:List En} {x:Nat} (hx:x<prodN D n):(gL D n S l).getD x (0,0)=gV D n S l (placeL D n x):=by simp [gL,List.getD,hx]
theorem gV_congr {D:Nat→Dm} {n:Nat} {S S':Nat→Bool} {p p':List Int}:∀ {l:List En},(∀ e∈l,gwTo D S p e.pl n=gwTo D S' p' e.pl n)→gV D n S l p=gV D n S' l p'
 | [],_=>rfl
 | e :: r,h=>by
  have ih:=gV_congr (l:=r) fun x hx=>h x (List.mem_cons_of_mem _ hx)
  have he:=h e (List.mem_cons_self ..)
  unfold gV at ih ⊢
  simp only [Prod.mk.injEq] at ih
  have hb:gB D n S p e=gB D n S' p' e:=by unfold gB;rw [he]
  rw [List.any_cons,List.any_cons,hb,gN,gN,he,ih.2]
  refine Prod.ext ?_ rfl
  have h1:=ih.1
  simp only at h1 ⊢
  cases gB D n S' p' e
  ·simpa using h1
  ·simp
theorem gN_bound {D:Nat→Dm} {n:Nat} (S:Nat→Bool) (p:List Int):∀ l:List En,(∀ e∈l,InO D n e.pl∧leafV D n e.pl=true∧numOk e.n=true)→-1000000*(l.length:Int)≤gN D n S p l∧gN D n S p l≤1000000*(l.length:Int)
 | [],_=>by simp [gN]
 | e :: r,h=>by
  obtain ⟨h1,-,h2⟩:=h e (List.mem_cons_self ..)
  have ih:=gN_bound S p r fun x hx=>h x (List.mem_cons_of_mem _ hx)
  have hw:=gw_small h1 S p n (Nat.le_refl _)
  have hn : -1000000≤e.n∧e.n≤1000000:=by simpa [numOk] using h2
  have hv : -1000000≤gwTo D S p e.pl n*e.n∧gwTo D S p e.pl n*e.n≤1000000:=by
   have h3:gwTo D S p e.pl n = -1∨gwTo D S p e.pl n=0∨gwTo D S p e.pl n=1:=by omega
   rcases h3 with h3 | h3 | h3 <;> rw [h3] <;> omega
  rw [gN,List.length_cons]
  omega
theorem gN_none {D:Nat→Dm} {n:Nat} {S:Nat→Bool} {p:List Int}:∀ {l:List En},l.any (gB D n S p)=false→gN D n S p l=0
 | [],_=>rfl
 | e :: r,h=>by
  rw [List.any_cons,Bool.or_eq_false_iff] at h
  have:gwTo D S p e.pl n=0:=by have:=h.1;unfold gB at this;simpa using this
  rw [gN,gN_none h.2,this]
  simp
theorem gw_all {D:Nat→Dm} {S:Nat→Bool} {p q:List Int}:∀ k,(∀ j,j<k→S j=true)→gwTo D S p q k=pwTo D p q k
 | 0,_=>rfl
 | k+1,h=>by rw [gwTo,pwTo,gw_all k fun j hj=>h j (by omega),facS,if_pos (h k (by omega))]
theorem gV_all {D:Nat→Dm} {n:Nat} {S:Nat→Bool} (hS:∀ j,j<n→S j=true) (l:List En) (p:List Int):gV D n S l p=rollV D n l p:=by
 have h1:∀ l:List En,l.any (gB D n S p)=l.any (cntR D n p):=fun l=>by
  induction l with
  | nil=>rfl
  | cons e r ih=>rw [List.any_cons,List.any_cons,ih,cnt_pw,gB,gw_all n hS]
 have h2:∀ l:List En,gN D n S p l=rollN D n p l:=fun l=>by
  induction l with
  | nil=>rfl
  | cons e r ih =>
   rw [gN,rollN,ih,gw_all n hS,cnt_pw]
   by_cases h:pwTo D p e.pl n=0
   ·rw [h];simp
   ·rw [if_pos (by simpa using h)];rfl
 unfold gV rollV rollK
 rw [h1,h2]
theorem gw_none {D:Nat→Dm} {p q:List Int}:∀ k,gwTo D (fun _=>false) p q k=if ∀ j,j<k→p.getD j 0=q.getD j 0 then 1 else 0
 | 0=>by simp [gwTo]
 | k+1=>by
  rw [gwTo,gw_none k,facS]
  simp only [Bool.false_eq_true,if_false]
  by_cases h:∀ j,j<k→p.getD j 0=q.getD j 0
  ·rw [if_pos h]
   by_cases e:p.getD k 0=q.getD k 0
   ·rw [if_pos e,if_pos]
    ·rfl
    ·intro j hj
     rcases Nat.lt_succ_iff_lt_or_eq.1 hj with h1 | rfl
     ·exact h j h1
     ·exact e
   ·rw [if_neg e,if_neg]
    ·rfl
    ·exact fun h1=>e (h1 k (by omega))
  ·rw [if_neg h,if_neg (show ¬ ∀ j,j<k+1→p.getD j 0=q.getD j 0 from fun h1=>h fun j hj=>h1 j (by omega)),Int.zero_mul]
theorem gw_num {D:Nat→Dm} {n x:Nat} {q:List Int} (hq:InO D n q) (hx:x<prodN D n):gwTo D (fun _=>false) (placeL D n x) q n=if (numI D q n).toNat=x then 1 else 0:=by
 rw [gw_none]
 by_cases h:(numI D q n).toNat=x
 ·rw [if_pos h,if_pos]
  intro j _
  rw [←h,place_num hq]
 ·rw [if_neg h,if_neg]
  intro h1
  have e:placeL D n x=q:=by
   apply List.ext_getElem (by rw [placeL_len];exact hq.len.symm)
   intro j h2 h3
   have:=h1 j (by rw [placeL_len] at h2;exact h2)
   simpa [List.getD,h2,h3] using this
  apply h
  rw [←e,num_place hq.right hx]
  omega
theorem wr_get {D:Nat→Dm} {n:Nat} {x:Nat} (hx:x<prodN D n):∀ (l:List En) (L:List (Int×Int)),L.length=prodN D n→(∀ e∈l,InO D n e.pl)→(l.Pairwise fun a b=>lessL a.pl b.pl=true)→(l.foldl (wrStep D n) L).getD x (0,0)=if l.any (gB D n (fun _=>false) (placeL D n x))=true then (1,gN D n (fun _=>false) (placeL D n x) l) else L.getD x (0,0)
 | [],L,_,_,_=>by simp
 | e :: r,L,hL,hi,hr=>by
  have hie:=hi e (List.mem_cons_self ..)
  have hr':=List.pairwise_cons.1 hr
  obtain ⟨hb1,hb2,-⟩:=numI_bound hie (Nat.le_refl n)
  rw [List.foldl_cons,wr_get hx r _ (by unfold wrStep;rw [List.length_set];exact hL) (fun y hy=>hi y (List.mem_cons_of_mem _ hy)) hr'.2,List.any_cons,gN]
  have hg:=gw_num hie hx
  unfold wrStep
  rw [getD_set (by omega)]
  by_cases h:(numI D e.pl n).toNat=x
  ·have hno:r.any (gB D n (fun _=>false) (placeL D n x))=false:=by
    rw [Bool.eq_false_iff]
    intro ha
    obtain ⟨y,hy,hyb⟩:=List.any_eq_true.1 ha
    have hiy:=hi y (List.mem_cons_of_mem _ hy)
    have h1:=gw_num hiy hx
    have h2:=less_num hie hiy (hr'.1 y hy)
    obtain ⟨h3,-,-⟩:=numI_bound hiy (Nat.le_refl n)
    rw [if_neg (by omega)] at h1
    unfold gB at hyb
    rw [h1] at hyb
    simp at hyb
   rw [if_pos h] at hg
   have hbe:gB D n (fun _=>false) (placeL D n x) e=true:=by unfold gB;rw [hg];rfl
   rw [hno,hbe,gN_none hno,hg]
   simp [h]
  ·rw [if_neg h] at hg
   have hbe:gB D n (fun _=>false) (placeL D n x) e=false:=by unfold gB;rw [hg];rfl
   rw [hbe,hg,if_neg (show ¬ x=(numI D e.pl n).toNat from fun e=>h e.symm)]
   simp
theorem wr_gL {D:Nat→Dm} {n:Nat} {l:List En} (h:Ens D n l):wrV D n l=gL D n (fun _=>false) l:=by
 refine list_same (by rw [wrV_len,gL_len]) fun x hx=>?_
 rw [wrV_len] at hx
 rw [gL_at hx]
 unfold wrV
 rw [wr_get hx l _ (by simp) (fun e he=>(h.each e he).1) h.rise]
 unfold gV
 split
 ·rfl
 ·rename_i hn
  rw [gN_none (by simpa using hn)]
  simp [List.getD,hx]
def sumP (f:Int→Int):List Int→Int
 | []=>0
 | k :: r=>f k+sumP f r
theorem sumP_congr {f g:Int→Int}:∀ {P:List Int},(∀ k∈P,f k=g k)→sumP f P=sumP g P
 | [],_=>rfl
 | k :: r,h=>by rw [sumP,sumP,h k (List.mem_cons_self ..),sumP_congr fun j hj=>h j (List.mem_cons_of_mem _ hj)]
theorem sumP_add (f g:Int→Int):∀ P:List Int,sumP (fun k=>f k+g k) P=sumP f P+sumP g P
 | []=>rfl
 | k :: r=>by rw [sumP,sumP,sumP,sumP_add f g r];omega
theorem sumP_mul (f:Int→Int) (c:Int):∀ P:List Int,sumP (fun k=>f k*c) P=sumP f P*c
 | []=>by simp [sumP]
 | k :: r=>by rw [sumP,sumP,sumP_mul f c r,Int.add_mul]
theorem sumP_append (f:Int→Int):∀ (P Q:List Int),sumP f (P ++ Q)=sumP f P+sumP f Q
 | [],Q=>by simp [sumP]
 | k :: r,Q=>by rw [List.cons_append,sumP,sumP,sumP_append f r Q];omega
theorem sumP_zero {f:Int→Int}:∀ {P:List Int},(∀ k∈P,f k=0)→sumP f P=0
 | [],_=>rfl
 | k :: r,h=>by rw [sumP,h k (List.mem_cons_self ..),sumP_zero fun j hj=>h j (List.mem_cons_of_mem _ hj)];rfl
theorem sel_single {f:Int→Int} {p:Nat→Bool} {k0:Nat}:∀ n,k0<n→p k0=true→(∀ k,k<n→p k=true→k≠k0→f k=0)→sumP f (selTo p n)=f k0
 | 0,h,_,_=>by omega
 | n+1,h,hp,hz=>by
  by_cases e:k0=n
  ·subst e
   have h0:sumP f (selTo p k0)=0:=sumP_zero fun k hk=>by
    obtain ⟨m,rfl,hm,hpm⟩:=selTo_mem k hk
    exact hz m (by omega) hpm (by omega)
   rw [selTo_hit hp,sumP_append,h0]
   simp [sumP]
  ·have ih:=sel_single n (by omega) hp fun k hk=>hz k (by omega)
   cases hn:p n
   ·rw [selTo_miss hn];exact ih
   ·rw [selTo_hit hn,sumP_append,ih,sumP,sumP,hz n (by omega) hn (fun h=>e h.symm)];omega
theorem sumTo_none {f:Nat→Nat}:∀ n,sumTo f n=0→∀ k,k<n→f k=0
 | 0,_,k,hk=>by omega
 | n+1,h,k,hk=>by
  rw [sumTo] at h
  by_cases e:k=n
  ·rw [e];omega
  ·exact sumTo_none n (by omega) k (by omega)
theorem sumTo_only {f:Nat→Nat}:∀ n,sumTo f n=1→∃ k,k<n∧f k=1∧∀ j,j<n→j≠k→f j=0
 | 0,h=>by simp [sumTo] at h
 | n+1,h=>by
  rw [sumTo] at h
  by_cases e:f n=0
  ·obtain ⟨k,h1,h2,h3⟩:=sumTo_only (f:=f) n (by omega)
   refine ⟨k,by omega,h2,fun j hj hne=>?_⟩
   by_cases e2:j=n
   ·rw [e2];exact e
   ·exact h3 j (by omega) hne
  ·have h0:sumTo f n=0:=by omega
   refine ⟨n,by omega,by omega,fun j hj hne=>sumTo_none n h0 j (by omega)⟩
theorem part_cases {M:Nat→Mem} {n:Nat} (ht:Tr M n) {m j:Nat} (hj:j<n) (hne:j≠m) :
  (weightOf M (m:Int) (j:Int)=0∧∀ k,k<n→partB M (m:Int) k=true→weightOf M (k:Int) (j:Int)=0) ∨
  ∃ k0,k0<n∧partB M (m:Int) k0=true∧weightOf M (m:Int) (j:Int)=(M k0).sign*weightOf M (k0:Int) (j:Int)∧∀ k,k<n→partB M (m:Int) k=true→k≠k0→weightOf M (k:Int) (j:Int)=0:=by
 have hs:=steps_one ht (i:=m) (j+1) j hj (by omega)
 have hd:decide (j=m)=false:=decide_eq_false hne
 rw [hd] at hs
 cases hin:inB (pathOf M (j:Int)) (m:Int)
 ·left
  rw [hin] at hs
  have h0:sumTo (fun p=>one (partB M m p && inB (pathOf M j) p)) n=0:=hs
  refine ⟨wgt_out _ (inB_false.1 hin) _,fun k hk hp=>wgt_out _ (inB_false.1 ?_) _⟩
  have:=sumTo_none n h0 k hk
  simp only [hp,Bool.true_and] at this
  cases h:inB (pathOf M (j:Int)) (k:Int)
  ·rfl
  ·rw [h] at this;cases this
 ·right
  rw [hin] at hs
  have h1:sumTo (fun p=>one (partB M m p && inB (pathOf M j) p)) n=1:=hs
  obtain ⟨k0,hk0,h2,h3⟩:=sumTo_only n h1
  have h4:partB M (m:Int) k0=true∧inB (pathOf M (j:Int)) (k0:Int)=true:=by
   cases ha:partB M (m:Int) k0
   ·simp [ha,one] at h2
   ·cases hb:inB (pathOf M (j:Int)) (k0:Int)
    ·simp [hb,one] at h2
    ·exact ⟨rfl,rfl⟩
  refine ⟨k0,hk0,h4.1,?_,fun k hk hp hne=>wgt_out _ (inB_false.1 ?_) _⟩
  ·rw [Int.mul_comm]
   exact part_weight ht hk0 (by simpa [partB] using h4.1) (j+1) j 1 hj (by omega) (inB_true.1 h4.2)
  ·have:=h3 k hk hne
   simp only [hp,Bool.true_and] at this
   cases h:inB (pathOf M (j:Int)) (k:Int)
   ·rfl
   ·rw [h] at this;cases this
end Go.Proofs.YtfgegmpoejilnaaGreatDoor
namespace Go.Proofs.YtfgegmpoejilnaaGreatDoor
open Go.ChangeShapes Go.WideShapes Go.ChangeAt Go.RowKit
set_option maxRecDepth 20000
structure QM (w:World) (B q gM gU N:Nat) (M:Nat→Int) (UV:Nat→Value) (UL:Nat→List Int) (R:Value) (RL:List Int):Prop where
 hq:w.heap[q]?=some (.cells #[.slice (some ⟨gM,0,none⟩) N N,.slice (some ⟨gU,0,none⟩) N N,R] 124 (0,0))
 hM:ValB w gM N 3 fun j=>.int .i64 (M j)
 hU:ValB w gU N 38 UV
 own:∀ j,j<N→w.ownsRow B 3 1 (UV j) (UL j).length (mapI (UL j))
 ready:w.ownsRow B 3 1 R RL.length (mapI RL)
 dM:∀ j,j<N→(UV j).ownBlock≠some gM
 dU:∀ i j,i<N→j<N→i≠j→∀ b,(UV i).ownBlock=some b→(UV j).ownBlock≠some b
 dR:R.ownBlock≠some gM
 dRU:∀ j,j<N→∀ b,R.ownBlock=some b→(UV j).ownBlock≠some b
 lq:B≤q
 lM:B≤gM
 lU:B≤gU
section
variable {w w':World} {B q gM gU N:Nat} {M:Nat→Int} {UV:Nat→Value} {UL:Nat→List Int} {R:Value} {RL:List Int}
theorem QM.ql (h:QM w B q gM gU N M UV UL R RL):q<w.heap.size:=(Array.getElem?_eq_some_iff.1 h.hq).1
theorem QM.later (h:QM w B q gM gU N M UV UL R RL) (hB:Below w.heap.size w w'):QM w' B q gM gU N M UV UL R RL :=
 ⟨(hB.block q h.ql).trans h.hq,h.hM.same (hB.block _ h.hM.lt),h.hU.same (hB.block _ h.hU.lt),fun j hj=>own_later (h.own j hj) hB,own_later h.ready hB,h.dM,h.dU,h.dR,h.dRU,h.lq,h.lM,h.lU⟩
theorem QM.cells (h:QM w B q gM gU N M UV UL R RL):w.cell? ⟨q,0,none⟩=some (.slice (some ⟨gM,0,none⟩) N N)∧w.cell? ⟨q,1,none⟩=some (.slice (some ⟨gU,0,none⟩) N N)∧w.cell? ⟨q,2,none⟩=some R∧w.frozen? ⟨q,2,none⟩=false :=
 ⟨by simp [World.cell?,h.hq],by simp [World.cell?,h.hq],by simp [World.cell?,h.hq],by simp [World.frozen?,h.hq]⟩
theorem QM.ne (h:QM w B q gM gU N M UV UL R RL):q≠gM∧q≠gU∧gM≠gU:=by
 refine ⟨fun e=>?_,fun e=>?_,fun e=>?_⟩
 ·have h1:=h.hq;rw [e,h.hM] at h1;simp at h1
 ·have h1:=h.hq;rw [e,h.hU] at h1;simp at h1
 ·have h1:=h.hM;unfold ValB at h1;rw [e,h.hU] at h1;simp at h1
theorem QM.off (h:QM w B q gM gU N M UV UL R RL) {b:Nat} {cur:Array Value} (hb:w.heap[b]?=some (.cells cur 3 (0,0))):b≠q∧b≠gU:=by
 refine ⟨fun e=>?_,h.hU.off hb row_ne_int'⟩
 rw [e,h.hq] at hb
 simp at hb
theorem QM.setM (h:QM w B q gM gU N M UV UL R RL) (m:Nat) (x:Int):QM (w.setCell ⟨gM,m,none⟩ (.int .i64 x)) B q gM gU N (fun j=>if j=m then x else M j) UV UL R RL:=by
 obtain ⟨n1,n2,n3⟩:=h.ne
 refine ⟨by rw [setCell_off _ _ _ _ _ n1];exact h.hq,?_,h.hU.same (setCell_off _ _ _ _ _ n3.symm),fun j hj=>own_setc (h.own j hj) (h.dM j hj),own_setc h.ready h.dR,h.dM,h.dU,h.dR,h.dRU,h.lq,h.lM,h.lU⟩
 refine h.hM.set (f':=fun j=>.int .i64 (if j=m then x else M j)) fun j _=>?_
 by_cases e:j=m
 ·simp only [if_pos e]
 ·simp only [if_neg e]
theorem QM.pushR (h:QM w B q gM gU N M UV UL R RL) {w4 w6:World} {L:List Int} {v:Value} {H:Nat} (h4:Below w.heap.size w w4) (hG:w4.grownBy w6 R.ownBlock) (hO:w6.ownsRow B 3 1 v L.length (mapI L)) (hat:v.ownBlock=R.ownBlock∨v.ownBlock=some H) (hH:w.heap.size≤H) :
  QM (w6.setCell ⟨q,2,none⟩ v) B q gM gU N M UV UL v L:=by
 obtain ⟨n1,n2,n3⟩:=h.ne
 have hr:=fun b (e:R.ownBlock=some b)=>own_blk h.ready e
 have hkeep:∀ b,b<w.heap.size→R.ownBlock≠some b→w6.heap[b]?=w.heap[b]?:=fun b hb hne=>(hG.block b (Nat.lt_of_lt_of_le hb h4.size) (fun e=>hne e.symm)).trans (h4.block b hb)
 have q1:R.ownBlock≠some q:=fun e=>by obtain ⟨-,-,cur,hc⟩:=hr q e;exact (h.off hc).1 rfl
 have q2:R.ownBlock≠some gU:=fun e=>by obtain ⟨-,-,cur,hc⟩:=hr gU e;exact (h.off hc).2 rfl
 have vq:v.ownBlock≠some q:=fun e=>by
  rcases hat with h1 | h1
  ·exact q1 (h1.symm.trans e)
  ·rw [h1] at e;have:=h.ql;simp at e;omega
 refine ⟨?_,(h.hM.same (hkeep _ h.hM.lt h.dR)).same (setCell_off _ _ _ _ _ n1.symm),(h.hU.same (hkeep _ h.hU.lt q2)).same (setCell_off _ _ _ _ _ n2.symm),fun j hj=>?_,own_setc hO vq,h.dM,h.dU,fun e=>?_,fun j hj b hb e=>?_,h.lq,h.lM,h.lU⟩
 ·have:=set_ty (k:=2) (v:=v) ((hkeep q h.ql q1).trans h.hq)
  simpa using this
 ·refine own_setc (own_grown (own_later (h.own j hj) h4) hG fun b hb e=>h.dRU j hj b e hb) fun e2=>?_
  obtain ⟨-,-,cur,hc⟩:=own_blk (h.own j hj) e2
  exact (h.off hc).1 rfl
 ·rcases hat with h1 | h1
  ·exact h.dR (h1.symm.trans e)
  ·rw [h1] at e;have:=h.hM.lt;simp at e;omega
 ·rcases hat with h1 | h1
  ·exact h.dRU j hj b (h1.symm.trans hb) e
  ·rw [h1] at hb
   have:=(own_blk (h.own j hj) e).2.1
   simp at hb
   omega
end
end Go.Proofs.YtfgegmpoejilnaaGreatDoor
