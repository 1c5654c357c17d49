/-
  among: like what is written, if that can be weights, else evenly.
-/
import Derived.Test.YtenlladggdcfnaaGreatDoorJABC
import Derived.Test.YtenlladggdcfnaaGreatDoorJABG
import Derived.Test.YtenlladggdcfnaaGreatDoorJABJ
namespace Go.Proofs.YtenlladggdcfnaaGreatDoor
open Go Go.ChangeShapes Go.WideShapes Go.ChangeAt Go.RowKit Go.Shelf Go.Lib Go.Sort
set_option maxRecDepth 100000
def amT (W:List Int):Bool:=(W.any fun x=>decide (0<x)) && !(W.any fun x=>decide (x<0))
def amE (n:Int) (W:List Int):Int:=if amT W=true then lkE n W else evE n W.length
def AmO (n:Int) (W L:List Int):Prop:=if amT W=true then LkO n W L else L=evO n W.length
theorem AmO.unique {n:Int} {W L L':List Int} (h:AmO n W L) (h':AmO n W L'):L=L':=by
 unfold AmO at h h'
 by_cases e:amT W=true
 ·rw [if_pos e] at h h';exact h.unique h'
 ·rw [if_neg e] at h h';rw [h,h']
theorem AmO.len {n:Int} {W L:List Int} (h:AmO n W L) (h0:amE n W=0):L.length=W.length:=by
 unfold AmO amE at *
 by_cases e:amT W=true
 ·rw [if_pos e] at h h0
  unfold LkO at h
  rw [if_pos h0] at h
  obtain ⟨P,-,rfl⟩:=h
  simp [lkO]
 ·rw [if_neg e] at h h0
  rw [h];unfold evO;rw [if_pos h0];simp
set_option maxHeartbeats 1000000 in
theorem among1_any (n:Int) (w:World):Calls Tryz.prog 52 #[.int .i64 n] w fun e w'=>e=.returned (.bool (decide (n<0)))∧w'=w:=by
 go_enter Tryz.func52,Tryz.ntmps52
 go_wp2_with fail
 go_ret
 exact ⟨rfl,rfl⟩
set_option maxHeartbeats 1000000 in
theorem among2_any (n:Int) (w:World):Calls Tryz.prog 53 #[.int .i64 n] w fun e w'=>e=.returned (.bool (decide (0<n)))∧w'=w:=by
 go_enter Tryz.func53,Tryz.ntmps53
 go_wp2_with fail
 go_ret
 exact ⟨rfl,rfl⟩
theorem among1_in (args:Array Value) (w:World):(callFunc 52 args).run Tryz.prog w=.ok (.enter 52 args) w:=by simp [callFunc,Tryz.func52];rfl
theorem among2_in (args:Array Value) (w:World):(callFunc 53 args).run Tryz.prog w=.ok (.enter 53 args) w:=by simp [callFunc,Tryz.func53];rfl
set_option maxHeartbeats 4000000 in
theorem among_any (n:Int) (A:Option Addr) (cA:Nat) (W:List Int) (w:World) (hL:PlAt w A cA W) (hlen:W.length≤1048576) :
  Calls Tryz.prog 28 #[.int .i64 n,.slice A W.length cA] w fun e w' => ∃ A' c' L,e=.returned (.tuple #[.slice A' L.length c',errV (amE n W)])∧PlAt w' A' c' L∧AmO n W L∧Below w.heap.size w w':=by
 have h1:∀ w',Below w.heap.size w w'→Calls Tryz.prog 15 #[.slice A W.length cA,.func (.func 52) #[] #[]] w' fun e w''=>e=.returned (.bool (W.any fun x=>decide (x<0)))∧Below w'.heap.size w' w'':=fun w' hB=>by
  have:=contm_pl 52 #[] (fun x=>decide (x<0)) among1_in A cA W w' hlen (hL.later hB) (fun x w' _ _=>(among1_any x w').mono fun _ _ ⟨h1,h2⟩=>⟨h1,by rw [h2];exact Below.refl _ _⟩)
  rwa [show decide (0≤findFrom (fun j=>decide (W.getD j 0<0)) W.length 0)=W.any (fun x=>decide (x<0)) from any_find (fun x=>decide (x<0)) W] at this
 have h2:∀ w',Below w.heap.size w w'→Calls Tryz.prog 15 #[.slice A W.length cA,.func (.func 53) #[] #[]] w' fun e w''=>e=.returned (.bool (W.any fun x=>decide (0<x)))∧Below w'.heap.size w' w'':=fun w' hB=>by
  have:=contm_pl 53 #[] (fun x=>decide (0<x)) among2_in A cA W w' hlen (hL.later hB) (fun x w' _ _=>(among2_any x w').mono fun _ _ ⟨h1,h2⟩=>⟨h1,by rw [h2];exact Below.refl _ _⟩)
  rwa [show decide (0≤findFrom (fun j=>decide (0<W.getD j 0)) W.length 0)=W.any (fun x=>decide (0<x)) from any_find (fun x=>decide (0<x)) W] at this
 have H1:=hid_of h1
 have H2:=hid_of h2
 have HL:=hid_of hL
 have HA:Hid (amT W=((W.any fun x=>decide (0<x)) && !(W.any fun x=>decide (x<0)))):=rfl
 have hc3:=fun w' (hB:Below w.heap.size w w')=>like_any n A cA W w' (HL.out.later hB)
 have H3:=hid_of hc3
 have H4:=hid_of fun w'=>even_any n (W.length:Int) w'
 obtain ⟨k,hk⟩:∃ k,W.length=k:=⟨_,rfl⟩
 have HK:=hid_of hk
 rw [hk] at H1 H2 H3 H4 ⊢
 clear h1 h2 hc3 hL hlen hk
 go_enter Tryz.func28,Tryz.ntmps28
 go_wp2_with fail
 refine (H1.out w (Below.refl _ _)).mono ?_
 rintro e w1 ⟨rfl,hb1⟩
 have HB1:=hid_of hb1
 clear hb1
 generalize (W.any fun x=>decide (x<0))=b1 at HA ⊢
 go_wp2_with fail
 refine (H2.out w1 HB1.out).mono ?_
 rintro e w2 ⟨rfl,hb2⟩
 have HB2:Hid (Below w.heap.size w w2):=onB HB1.out hb2
 clear hb2
 generalize (W.any fun x=>decide (0<x))=b2 at HA ⊢
 by_cases hb:b2=true∧b1=false
 ·obtain ⟨rfl,rfl⟩:=hb
  have hT:amT W=true:=by rw [HA.out];rfl
  have HF:Hid (∀ L,LkO n W L→AmO n W L):=fun L h=>by unfold AmO;rw [if_pos hT];exact h
  have HG:Hid (amE n W=lkE n W):=by show _=_;unfold amE;rw [if_pos hT]
  go_wp2_with fail
  refine (H3.out w2 HB2.out).mono ?_
  rintro e w3 ⟨A',c',L,rfl,h1,h2,h3⟩
  have HR:=hid_of (And.intro h1 (And.intro (HF.out L h2) (onB HB2.out h3)))
  clear h1 h2 h3
  rw [←HG.out]
  go_wp2_with fail
  go_ret2
  exact ⟨A',c',L,rfl,HR.out⟩
 ·have hT : ¬ amT W=true:=by rw [HA.out];cases b1 <;> cases b2 <;> simp_all
  have HF:Hid (AmO n W (evO n W.length)):=by show AmO ..;unfold AmO;rw [if_neg hT]
  have HG:Hid (amE n W=evE n k):=by show _=_;unfold amE;rw [if_neg hT,HK.out]
  have HF2:Hid (∀ w3,Below w.heap.size w w3→∀ A' c',PlAt w3 A' c' (evO n (k:Int))→∃ A'' c'' L,Ending.returned (.tuple #[.slice A' (evO n (k:Int)).length c',errV (amE n W)])=.returned (.tuple #[.slice A'' L.length c'',errV (amE n W)])∧PlAt w3 A'' c'' L∧AmO n W L∧Below w.heap.size w w3):=fun w3 h3 A' c' h1=>⟨A',c',_,rfl,h1,by have:=HF.out;rw [HK.out] at this;exact this,h3⟩
  have hcase:b2=false∨(b2=true∧b1=true):=by cases b1 <;> cases b2 <;> simp_all
  clear hb HF hT
  rcases hcase with rfl | ⟨rfl,rfl⟩
  all_goals
   go_wp2_with fail
   refine (H4.out w2).mono ?_
   rintro e w3 ⟨A',c',rfl,h1,h3⟩
   have HR:=hid_of (HF2.out w3 (onB HB2.out h3) A' c' h1)
   clear h1 h3
   rw [←HG.out]
   go_wp2_with fail
   go_ret2
   exact HR.out
theorem lf_in {D:Nat→Dm} {n:Nat} {p q:List Int} (hR:(allErr D n).2.2=0) (hq:q∈lfTo D p n):InO D n q∧leafV D n q=true∧inTo D p q n=true:=by
 rw [←docL_all hR] at hq
 unfold docL at hq
 obtain ⟨h1,h2⟩:=List.mem_filter.1 hq
 obtain ⟨x,-,rfl⟩:=List.mem_map.1 h1
 simp only [Bool.and_eq_true] at h2
 exact ⟨placeL_in hR,h2.1,h2.2⟩
theorem lf_weight {D:Nat→Dm} {n:Nat} {p q:List Int} (hp:InO D n p) (hq:q∈lfTo D p n):rwErr D n p q=0∧rwV D n p q=pwTo D p q n:=by
 obtain ⟨h1,h2,h3⟩:=lf_in hp.right hq
 have e:rwErr D n p q=0:=by
  unfold rwErr
  rw [if_neg (by rw [hp.ok];decide),if_neg (by rw [h1.ok];decide),h2,h3];rfl
 exact ⟨e,by unfold rwV;rw [if_pos e]⟩
def clB (D:Nat→Dm) (n:Nat) (p:List Int) (l:List (List Int)):Bool:=l.any fun q=>decide (pwTo D p q n≠1)
def clE (D:Nat→Dm) (n:Nat) (p:List Int):Int:=if lfTo D p n=[] then 3 else if clB D n p (lfTo D p n)=true then 3 else if 60<(lfTo D p n).length then 4 else 0
set_option maxHeartbeats 8000000 in
theorem checkleafs_any (A0:Option Addr) (cap n:Nat) (D:Nat→Dm) (A:Nat→Option Addr) (C:Nat→Nat) (Ap:Option Addr) (cp:Nat) (p:List Int) (Ay:Option Addr) (cy:Nat) (ys:List PL) (w:World) (hp:InO D n p) (hM:DimsV w A0 cap n D A C) (hP:PlAt w Ap cp p) (hY:PlsV w Ay cy ys) (hl:lP ys=lfTo D p n) :
  Calls Tryz.prog 26 #[.agg #[.slice A0 n cap],.slice Ap p.length cp,.slice Ay ys.length cy] w fun e w'=>e=.returned (errV (clE D n p))∧Below w.heap.size w w':=by
 have hB0:=ownOut_below w A0 n cap 25
 have hS:=ownOut_size w A0 n cap 25
 have hA:=ownOut_at w A0 n cap 25
 obtain ⟨W,hW⟩:∃ W,ownOut w A0 n cap 25=W:=⟨_,rfl⟩
 rw [hW] at hB0 hS hA
 unfold ownOut at hW
 obtain ⟨k,hk⟩:∃ k,ys.length=k:=⟨_,rfl⟩
 have hlen:(lfTo D p n).length=k:=by rw [←hl,lP_len,hk]
 have hk3:k≤3000:=by have:=lfTo_len (D:=D) p n;have:=(allErr_some hp.right).2.2.1;omega
 have HK:Hid (ys.length=k∧(lfTo D p n).length=k):=⟨hk,hlen⟩
 have HWt:Hid (∀ (j:Nat) (w':World),j<k→Below w.heap.size w w'→Calls Tryz.prog 51 #[.agg #[.slice A0 n cap],.slice Ap p.length cp,.slice (ys.getD j noP).A (ys.getD j noP).p.length (ys.getD j noP).c] w' fun e w''=>e=.returned (.tuple #[.int .i64 (pwTo D p (ys.getD j noP).p n),.nilIface])∧Below w'.heap.size w' w''):=fun j w' hj hB=>by
  have hm:ys.getD j noP∈ys:=pl_mem (by omega)
  have hq:(ys.getD j noP).p∈lfTo D p n:=by rw [←hl];exact List.mem_map.2 ⟨_,hm,rfl⟩
  obtain ⟨e1,e2⟩:=lf_weight hp hq
  have:=rweight_ok A0 cap n D A C Ap cp p _ _ _ w' hp (lf_in hp.right hq).1 (hM.later hB) (hP.later hB) ((hY.2.2 _ hm).pl.later hB)
  rw [e1,e2] at this
  exact this
 have HY:Hid (PlsV w Ay cy ys):=hY
 have HQ:Hid (∀ j,j<k→(lfTo D p n).getD j []=(ys.getD j noP).p):=fun j hj=>by rw [←hl,lP_at]
 have HB0:Hid (Below w.heap.size w W):=hB0
 have hkI:(k:Int)≤3000:=by omega
 rw [hk]
 clear hM hP hY hl hk hlen hB0
 by_cases h0:k=0
 ·have h0I:((k:Int) == 0)=true:=by simp;omega
  have HE:Hid (errV (clE D n p)=.iface 46 (.int .i64 3)):=by
   show _=_
   unfold clE
   rw [if_pos (List.eq_nil_of_length_eq_zero (by rw [HK.out.2];exact h0))];rfl
  rw [HE.out]
  clear hp
  go_enter Tryz.func26,Tryz.ntmps26
  go_wp2_with fail
  go_ret
  exact ⟨rfl,HB0.out⟩
 have h0I:((k:Int) == 0)=false:=by simp;omega
 have HE:Hid (clE D n p=if clB D n p (lfTo D p n)=true then 3 else if 60<k then 4 else 0):=by
  show _=_
  unfold clE
  rw [if_neg (fun h=>h0 (by have:=HK.out.2;rw [h] at this;exact this.symm)),HK.out.2]
 have HS1:Hid (∀ j,j<k→clB D n p ((lfTo D p n).take (j+1))=(clB D n p ((lfTo D p n).take j) || decide (pwTo D p (ys.getD j noP).p n≠1))):=fun j hj=>by
  have hj2:j<(lfTo D p n).length:=by rw [HK.out.2];exact hj
  unfold clB
  rw [List.take_succ_eq_append_getElem hj2,List.any_append]
  congr 1
  have:=HQ.out j hj
  rw [List.getD_eq_getElem?_getD,List.getElem?_eq_getElem hj2] at this
  simp only [Option.getD_some] at this
  simp [this]
 have HS2:Hid (∀ j,j<k→pwTo D p (ys.getD j noP).p n≠1→clB D n p (lfTo D p n)=true):=fun j hj h=>by
  have h1:clB D n p ((lfTo D p n).take (j+1))=true:=by rw [HS1.out j hj,decide_eq_true h,Bool.or_true]
  unfold clB at h1 ⊢
  obtain ⟨x,hx,e⟩:=List.any_eq_true.1 h1
  exact List.any_eq_true.2 ⟨x,List.mem_of_mem_take hx,e⟩
 clear hp
 go_enter Tryz.func26,Tryz.ntmps26
 go_upto_region 3 with fail
 have l0:w.heap.size<W.heap.size:=by omega
 clear hW hS
 go_wp2_with fail
 go_loopg [8,9,10,17] k (fun gg s8 s9 s10 s17 wr => ∃ (j:Nat),(∃ x,x=s8)∧(∃ x,x=s9)∧(∃ x,x=s10)∧j≤k∧gg=k-j∧s17=.int .i64 j∧wr.cell? ⟨w.heap.size,0,none⟩=some (.slice A0 n cap)∧w.heap.size<wr.heap.size∧Hid (clB D n p ((lfTo D p n).take j)=false)∧Hid (Below w.heap.size w wr))
 case atStart=>exact ⟨0,⟨_,rfl⟩,⟨_,rfl⟩,⟨_,rfl⟩,Nat.zero_le _,rfl,rfl,hA,l0,rfl,HB0⟩
 case round =>
  clear hA l0 HB0
  obtain ⟨j,⟨v8,rfl⟩,⟨v9,rfl⟩,⟨v10,rfl⟩,hjk,rfl,rfl,hA,l0,HN,HB⟩:=hrel
  by_cases hlt:j<k
  ·have hjI:(j:Int)<(k:Int):=by omega
   obtain ⟨-,hy0 | ⟨b,o,rfl,hb,hX⟩,-⟩:=HY.out
   ·have:=HK.out.1;rw [hy0] at this;simp at this;omega
   have c1:wr.cell? ⟨b,o+j,none⟩=some (.slice (ys.getD j noP).A (ys.getD j noP).p.length (ys.getD j noP).c):=by rw [HB.out.cell (by exact hb)];exact hX j (by rw [HK.out.1];exact hlt)
   have hc:=HWt.out j wr hlt HB.out
   have s1:=HS1.out j hlt
   have s2:=HS2.out j hlt
   generalize (ys.getD j noP).p.length=lq at c1 hc
   generalize (ys.getD j noP).A=Aq at c1 hc
   generalize (ys.getD j noP).c=cq at c1 hc
   obtain ⟨v,hv⟩:∃ v,pwTo D p (ys.getD j noP).p n=v:=⟨_,rfl⟩
   rw [hv] at hc s1 s2
   by_cases h1:v=1
   ·subst h1
    have HN2:Hid (clB D n p ((lfTo D p n).take (j+1))=false):=by show _=_;rw [s1,HN.out];rfl
    clear s1 s2 hv hX HN
    go_wp2_with fail
    refine hc.mono ?_
    rintro e w2 ⟨rfl,hb2⟩
    have hA2:w2.cell? ⟨w.heap.size,0,none⟩=some (.slice A0 n cap):=(hb2.cell l0).trans hA
    have l2:w.heap.size<w2.heap.size:=Nat.lt_of_lt_of_le l0 hb2.size
    have HB2:Hid (Below w.heap.size w w2):=onB HB.out hb2
    clear hb2 hc c1 hA l0 HB
    go_wp2_with fail
    go_roundg (k-(j+1))
    case measure=>omega
    case rel=>exact ⟨j+1,⟨_,rfl⟩,⟨_,rfl⟩,⟨_,rfl⟩,by omega,rfl,by go_num,hA2,l2,HN2,HB2⟩
   ·have h1I:(v == 1)=false:=by simpa using h1
    have HE2:Hid (errV (clE D n p)=.iface 46 (.int .i64 3)):=by show _=_;rw [HE.out,if_pos (s2 h1)];rfl
    clear s1 s2 hv hX HN
    go_wp2_with fail
    refine hc.mono ?_
    rintro e w2 ⟨rfl,hb2⟩
    have HB2:Hid (Below w.heap.size w w2):=onB HB.out hb2
    clear hb2 hc c1 hA l0 HB
    go_wp2_with fail
    go_ret
    exact ⟨congrArg Ending.returned HE2.out.symm,HB2.out⟩
  ·have hje:j=k:=by omega
   subst hje
   have hN:clB D n p (lfTo D p n)=false:=by have:=HN.out;rw [List.take_of_length_le (by rw [HK.out.2];exact Nat.le_refl _)] at this;exact this
   by_cases h60:60<j
   ·have h60I:(j:Int) > 60:=by omega
    have HE2:Hid (errV (clE D n p)=.iface 46 (.int .i64 4)):=by show _=_;rw [HE.out,hN,if_neg (by decide),if_pos h60];rfl
    clear hN
    go_wp2_with fail
    go_ret
    exact ⟨congrArg Ending.returned HE2.out.symm,HB.out⟩
   ·have h60I : ¬ (j:Int) > 60:=by omega
    have HE2:Hid (errV (clE D n p)=.nilIface):=by show _=_;rw [HE.out,hN,if_neg (by decide),if_neg h60];rfl
    clear hN
    go_wp2_with fail
    go_ret
    exact ⟨congrArg Ending.returned HE2.out.symm,HB.out⟩
def wnV (D:Nat→Dm) (n:Nat) (L:List (Int×Int)) (q:List Int):Int:=(L.getD (numI D q n).toNat noC).2
def wnTo (D:Nat→Dm) (n:Nat) (L:List (Int×Int)) (P:List (List Int)) (k:Nat):List Int:=(List.range P.length).map fun i=>if i<k then wnV D n L (P.getD i []) else 0
theorem wnTo_len (D:Nat→Dm) (n:Nat) (L:List (Int×Int)) (P:List (List Int)) (k:Nat):(wnTo D n L P k).length=P.length:=by simp [wnTo]
theorem wnTo_zero (D:Nat→Dm) (n:Nat) (L:List (Int×Int)) (P:List (List Int)):wnTo D n L P 0=List.replicate P.length 0:=by
 refine List.ext_getElem (by simp [wnTo]) fun _ _ _=>?_
 simp [wnTo]
theorem wnTo_all (D:Nat→Dm) (n:Nat) (L:List (Int×Int)) (P:List (List Int)):wnTo D n L P P.length=P.map (wnV D n L):=by
 refine List.ext_getElem (by simp [wnTo]) fun i h1 h2=>?_
 rw [wnTo_len] at h1
 simp [wnTo,h1]
theorem wnTo_set (D:Nat→Dm) (n:Nat) (L:List (Int×Int)) (P:List (List Int)) (k:Nat):(wnTo D n L P k).set k (wnV D n L (P.getD k []))=wnTo D n L P (k+1):=by
 refine List.ext_getElem (by simp [wnTo]) fun i h1 h2=>?_
 rw [List.getElem_set]
 by_cases e:k=i
 ·subst e
  simp [wnTo]
 ·rw [if_neg e]
  simp only [wnTo,List.getElem_map,List.getElem_range]
  by_cases h3:i<k
  ·rw [if_pos h3,if_pos (by omega)]
  ·rw [if_neg h3,if_neg (by omega)]
set_option maxHeartbeats 8000000 in
theorem snumbers_any (A0:Option Addr) (cap n:Nat) (D:Nat→Dm) (A:Nat→Option Addr) (C:Nat→Nat) (Ac:Option Addr) (cc:Nat) (L:List (Int×Int)) (Ay:Option Addr) (cy:Nat) (ys:List PL) (w:World) (hR:(allErr D n).2.2=0) (hM:DimsV w A0 cap n D A C) (hC:CelV w Ac cc L) (hLl:L.length=prodN D n) (hY:PlsV w Ay cy ys)
  (hin:∀ y∈ys,InO D n y.p) (hys:ys.length≤3000) :
  Calls Tryz.prog 27 #[.agg #[.slice A0 n cap],.slice Ac L.length cc,.slice Ay ys.length cy] w fun e w'=>(∃ g,e=.returned (.tuple #[.slice (some ⟨g,0,none⟩) ys.length ys.length,.nilIface])∧IntB w' g ((lP ys).map (wnV D n L)))∧Below w.heap.size w w':=by
 obtain ⟨k,hk⟩:∃ k,ys.length=k:=⟨_,rfl⟩
 obtain ⟨lc,hlc⟩:∃ lc,L.length=lc:=⟨_,rfl⟩
 have hlc3:lc≤3000:=by have:=(allErr_some hR).2.2.1;omega
 have hmk:=run_make_row' (P:=Tryz.prog) 22 3 (.int .i64 0) 8 Tryz.underlying22 Tryz.infoInt rfl .i64 .i64 k (by omega) (by omega)
 obtain ⟨W,hW⟩:∃ W,(w.alloc (.cells #[.slice A0 n cap] 25)).alloc (.cells (madeCells #[.int .i64 0] k) 3)=W:=⟨_,rfl⟩
 have hB0:Below w.heap.size w W:=by rw [←hW];go_grown
 have hg:IntB W (w.heap.size+1) (wnTo D n L (lP ys) 0):=by
  rw [wnTo_zero,lP_len,hk,←hW]
  have:=IntB.made (w.alloc (.cells #[.slice A0 n cap] 25)) k
  simpa using this
 have hA:W.cell? ⟨w.heap.size,0,none⟩=some (.slice A0 n cap):=by
  rw [←hW];simp
 have HK:Hid (ys.length=k∧L.length=lc∧(lP ys).length=k):=⟨hk,hlc,by rw [lP_len,hk]⟩
 have HNm:Hid (∀ (j:Nat) (w':World),j<k→Below w.heap.size w w'→Calls Tryz.prog 47 #[.agg #[.slice A0 n cap],.slice (ys.getD j noP).A (ys.getD j noP).p.length (ys.getD j noP).c] w' fun e w''=>e=.returned (.tuple #[.int .i64 ((numI D (ys.getD j noP).p n).toNat:Nat),.nilIface])∧Below w'.heap.size w' w''):=fun j w' hj hB=>by
  have hm:ys.getD j noP∈ys:=pl_mem (by omega)
  have hi:=hin _ hm
  have:=pnumber_any A0 cap n D A C _ _ _ w' (hM.later hB) ((hY.2.2 _ hm).pl.later hB)
  rw [hi.ok] at this
  have e:numV D n (ys.getD j noP).p=((numI D (ys.getD j noP).p n).toNat:Int):=by
   unfold numV;rw [if_pos hi.ok];have:=(numI_bound hi (Nat.le_refl n)).1;omega
  rw [e] at this
  exact this
 have HNb:Hid (∀ j,j<k→(numI D (ys.getD j noP).p n).toNat<lc):=fun j hj=>by
  have hjy:j<ys.length:=by omega
  have:=numI_bound (hin _ (pl_mem hjy)) (Nat.le_refl n);omega
 have HY:Hid (PlsV w Ay cy ys):=hY
 have HC:Hid (CelV w Ac cc L):=hC
 have HB0:Hid (Below w.heap.size w W):=hB0
 have hkI:(k:Int)≤3000:=by omega
 have hgI:Hid (IntB W (w.heap.size+1) (wnTo D n L (lP ys) 0)):=hg
 rw [hk,hlc]
 clear hM hY hC hR hLl hin hk hlc hB0 hg
 have l0:w.heap.size<W.heap.size:=by rw [←hW];simp;omega
 go_enter Tryz.func27,Tryz.ntmps27
 go_upto_region 2 with fail
 clear hW
 go_wp2_with fail
 go_loopg [9,10,11,12,18] k (fun gg s9 s10 s11 s12 s18 wr => ∃ (j:Nat),(∃ x,x=s9)∧(∃ x,x=s10)∧(∃ x,x=s11)∧(∃ x,x=s12)∧j≤k∧gg=k-j∧s18=.int .i64 j∧wr.cell? ⟨w.heap.size,0,none⟩=some (.slice A0 n cap)∧w.heap.size<wr.heap.size∧Hid (IntB wr (w.heap.size+1) (wnTo D n L (lP ys) j))∧Hid (Below w.heap.size w wr))
 case atStart=>exact ⟨0,⟨_,rfl⟩,⟨_,rfl⟩,⟨_,rfl⟩,⟨_,rfl⟩,Nat.zero_le _,rfl,rfl,hA,l0,hgI,HB0⟩
 case round =>
  clear hA l0 HB0 hgI
  obtain ⟨j,⟨v9,rfl⟩,⟨v10,rfl⟩,⟨v11,rfl⟩,⟨v12,rfl⟩,hjk,rfl,rfl,hA,l0,HI,HB⟩:=hrel
  by_cases hlt:j<k
  ·have hjI:(j:Int)<(k:Int):=by omega
   obtain ⟨-,hy0 | ⟨b,o,rfl,hb,hX⟩,-⟩:=HY.out
   ·have:=HK.out.1;rw [hy0] at this;simp at this;omega
   have c1:wr.cell? ⟨b,o+j,none⟩=some (.slice (ys.getD j noP).A (ys.getD j noP).p.length (ys.getD j noP).c):=by rw [HB.out.cell (by exact hb)];exact hX j (by rw [HK.out.1];exact hlt)
   have hc:=HNm.out j wr hlt HB.out
   have hnb:=HNb.out j hlt
   have hst:=wnTo_set D n L (lP ys) j
   rw [lP_at] at hst
   have hv:wnV D n L (ys.getD j noP).p=(L.getD (numI D (ys.getD j noP).p n).toNat noC).2:=rfl
   obtain ⟨u,hu⟩:∃ u,(numI D (ys.getD j noP).p n).toNat=u:=⟨_,rfl⟩
   rw [hu] at hc hnb hv
   rw [hv] at hst
   obtain ⟨-,-,hc0 | ⟨bc,oc,rfl,hbc,hXc⟩⟩:=HC.out
   ·have:=HK.out.2.1;rw [hc0] at this;simp at this;omega
   have c2:=(hXc u (by rw [HK.out.2.1];exact hnb)).2
   obtain ⟨x,hx⟩:∃ x,(L.getD u noC).2=x:=⟨_,rfl⟩
   rw [hx] at c2 hst
   generalize (ys.getD j noP).p.length=lq at c1 hc
   generalize (ys.getD j noP).A=Aq at c1 hc
   generalize (ys.getD j noP).c=cq at c1 hc
   have huI:(u:Int)<(lc:Int):=by omega
   have HST:=hid_of hst
   clear hst hv hu hx hX hXc hnb
   go_wp2_with fail
   refine hc.mono ?_
   rintro e w2 ⟨rfl,hb2⟩
   have hA2:w2.cell? ⟨w.heap.size,0,none⟩=some (.slice A0 n cap):=(hb2.cell l0).trans hA
   have l2:w.heap.size<w2.heap.size:=Nat.lt_of_lt_of_le l0 hb2.size
   have HB2:Hid (Below w.heap.size w w2):=onB HB.out hb2
   have hI2:IntB w2 (w.heap.size+1) (wnTo D n L (lP ys) j):=HI.out.later hb2
   have c3:w2.cell? ⟨bc,oc+u*2+1,none⟩=some (.int .i64 x):=by rw [HB2.out.cell (by exact hbc)];exact c2
   have c4:=hI2.cell (j:=j) (by rw [wnTo_len,HK.out.2.2];exact hlt)
   have f4:=hI2.frozen j
   have HI3:Hid (IntB (w2.setCell ⟨w.heap.size+1,j,none⟩ (.int .i64 x)) (w.heap.size+1) (wnTo D n L (lP ys) (j+1))):=by
    show IntB ..
    rw [←HST.out];exact hI2.set j x
   have HB3:Hid (Below w.heap.size w (w2.setCell ⟨w.heap.size+1,j,none⟩ (.int .i64 x))):=HB2.out.setCell (by show _≤w.heap.size+1;omega) _
   have hA3:(w2.setCell ⟨w.heap.size+1,j,none⟩ (.int .i64 x)).cell? ⟨w.heap.size,0,none⟩=some (.slice A0 n cap):=(World.cell?_of_block (w:=w2) (a:=⟨w.heap.size,0,none⟩) (setCell_off _ _ _ _ _ (by show w.heap.size≠w.heap.size+1;omega))).trans hA2
   have l3:w.heap.size<(w2.setCell ⟨w.heap.size+1,j,none⟩ (.int .i64 x)).heap.size:=by simpa using l2
   clear hb2 hc c1 c2 hA l0 HB HI hI2 HB2
   go_wp2_with fail
   go_roundg (k-(j+1))
   case measure=>omega
   case rel=>exact ⟨j+1,⟨_,rfl⟩,⟨_,rfl⟩,⟨_,rfl⟩,⟨_,rfl⟩,by omega,rfl,by go_num,hA3,l3,HI3,HB3⟩
  ·have hje:j=k:=by omega
   subst hje
   have HF:Hid (IntB wr (w.heap.size+1) ((lP ys).map (wnV D n L))):=by
    have:=HI.out
    rw [←wnTo_all,HK.out.2.2];exact this
   go_wp2_with fail
   go_ret2
   exact ⟨⟨_,rfl,HF.out⟩,HB.out⟩
end Go.Proofs.YtenlladggdcfnaaGreatDoor
