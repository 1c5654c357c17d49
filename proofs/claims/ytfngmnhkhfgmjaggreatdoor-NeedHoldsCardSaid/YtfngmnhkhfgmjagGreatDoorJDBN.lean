/-
  A number that is written (plain): which cells stay, and that a place is dirty by a leaf just if it needs it. What tallylaw2.has answers. The example of two members.
-/
import Derived.Test.YtfngmnhkhfgmjagGreatDoorJDBL
import Derived.Test.YtfngmnhkhfgmjagGreatDoorJDBM
namespace Go.Proofs.YtfngmnhkhfgmjagGreatDoor
open Go.ChangeShapes Go.WideShapes Go.ChangeAt Go.RowKit
set_option maxRecDepth 20000
theorem sel_iff {p:Nat→Bool} {N m:Nat} (hm:m<N):(m:Int)∈selTo p N↔p m=true :=
 ⟨fun h=>by obtain ⟨j,hj,-,hp⟩:=selTo_mem _ h;have e:m=j:=(by omega);rw [e];exact hp,fun h=>sel_has hm h⟩
theorem set_right {D:Nat→Dm} {n:Nat} {l:List En} {q:List Int} {N:Int} (h:changeErr D n l ⟨q,N,false⟩=0):Ens D n l∧InO D n q∧leafV D n q=true∧Ens D n (setL l q N):=by
 have h1:entsErr D n l=0:=by
  by_cases h1:entsErr D n l=0
  ·exact h1
  ·rw [change_bad _ h1] at h;exact absurd h h1
 rw [change_in _ h1] at h
 have hE:=ens_of h1
 obtain ⟨g1,g2⟩:=hE.edit h
 refine ⟨hE,g1,?_,g2⟩
 unfold editErr at h
 split at h
 ·rename_i h2;exact absurd h h2
 ·split at h
  ·rename_i h2;cases h2
  ·split at h
   ·cases h
   ·rename_i h3;simpa using h3
theorem need_swap {D:Nat→Dm} {n k m:Nat} (hk:k<prodN D n) (hm:m<prodN D n) (hl:leafV D n (placeL D n m)=true):inB (blwL D n k) (m:Int)=inB (drtL D n [(m:Int)]) (k:Int):=by
 unfold inB
 rw [Bool.eq_iff_iff,decide_eq_true_iff,decide_eq_true_iff]
 unfold blwL drtL
 rw [sel_iff hm,sel_iff hk]
 unfold blwB
 rw [hl,Bool.and_true,ndB_iff,dirB_iff]
 constructor
 ·intro h
  exact ⟨m,List.mem_singleton.2 rfl,h⟩
 ·rintro ⟨a,ha,h⟩
  have:a=m:=by rw [List.mem_singleton] at ha;omega
  rw [←this]
  exact h
theorem clean_cell {D:Nat→Dm} {n i m:Nat} {l:List En} {q:List Int} {N:Int} (hr:(ruErr D n).2.2=0) (hEs:Ens D n l) (h1:cuErr D n l=0) (h2:cuErr D n (setL l q N)=0) (hi:i<prodN D n) (hm:m<prodN D n) (hq:placeL D n m=q) (hn:inB (drtL D n [(m:Int)]) (i:Int)=false):(caL D n l).getD i noC=(caL D n (setL l q N)).getD i noC:=by
 obtain ⟨hE,hR⟩:=ru_right hr
 rw [caL_at h1 hi,caL_at h2 hi]
 refine sol_clean hR hE (m:=m) (fun j hj hne=>?_) _ i hi (Nat.lt_succ_self _) fun h=>?_
 ·refine (hEs.else (fun e=>hne ?_) N).symm
  have h3:=num_place hE hj
  rw [e,←hq] at h3
  rw [num_place hE hm] at h3
  omega
 ·unfold inB at hn
  rw [decide_eq_false_iff_not] at hn
  refine hn ?_
  unfold drtL
  rw [sel_iff hi,dirB_iff]
  exact ⟨m,List.mem_singleton.2 rfl,h⟩
set_option maxHeartbeats 2000000 in
theorem has_any (A:Option Addr) (c:Nat) (L:List Int) (x:Int) (w:World) (hl:L.length≤3000) (hI:IntsAt w A c L):Calls Tryz.prog 31 #[.slice A L.length c,.int .i64 x] w fun e w'=>e=.returned (.bool (inB L x))∧Below w.heap.size w w':=by
 have HI:=hid_of hI
 obtain ⟨N,hN⟩:∃ N,L.length=N:=⟨_,rfl⟩
 have HN:=hid_of hN
 rw [hN] at hl ⊢
 have hNI:(N:Int)≤3000:=by omega
 clear hI hN
 go_enter Tryz.func31,Tryz.ntmps31
 go_wp2_with fail
 go_loopg [5] N (fun gg s5 wr => ∃ (k:Nat),k≤N∧gg=N-k∧s5=.int .i64 k∧Hid (∀ j,j<k→L.getD j 0≠x)∧Hid (Below w.heap.size w wr))
 case atStart=>exact ⟨0,Nat.zero_le _,rfl,rfl,(fun j hj=>absurd hj (Nat.not_lt_zero _):∀ j,j<0→L.getD j 0≠x),Below.refl _ _⟩
 case round =>
  obtain ⟨k,hk,rfl,rfl,HK,HB⟩:=hrel
  by_cases hlt:k<N
  ·have hki:(k:Int)<(N:Int):=by omega
   obtain ⟨hcc,h0 | ⟨b,rfl,hbw,hcl⟩⟩:=HI.out.later HB.out
   ·have:=HN.out;rw [h0] at this;simp at this;omega
   have ck:=hcl k (by rw [HN.out];exact hlt)
   rw [HN.out] at hcc
   have hccI:(N:Int)≤(c:Int):=by omega
   have hmem:L.getD k 0∈L:=mem_at (by rw [HN.out];exact hlt)
   obtain ⟨y,hy⟩:∃ y,L.getD k 0=y:=⟨_,rfl⟩
   have HY:=hid_of hy
   rw [hy] at ck hmem
   clear hcl hy
   by_cases hyx:y=x
   ·have HR:Hid (inB L x=true):=by show _=_;unfold inB;rw [decide_eq_true_iff,←hyx];exact hmem
    have hyt:(y == x)=true:=by simpa using hyx
    clear hyx hmem
    go_wp2_with fail
    first | (go_quiet (fail);go_wp2_with fail) | skip
    go_ret
    exact ⟨by rw [HR.out];rfl,by first | exact HB.out | exact below_drewN HB.out _⟩
   ·have hyt:(y == x)=false:=by simpa using hyx
    have HK2:Hid (∀ j,j<k+1→L.getD j 0≠x):=fun j hj=>by
     by_cases e:j=k
     ·rw [e,HY.out];exact hyx
     ·exact HK.out j (by omega)
    clear hyx hmem
    go_wp2_with fail
    first | (go_quiet (fail);go_wp2_with fail) | skip
    go_roundg (N-(k+1))
    case measure=>omega
    case rel=>exact ⟨k+1,by omega,rfl,by go_num,HK2,by first | exact HB | exact hid_of (below_drewN HB.out _)⟩
  ·have hke:k=N:=by omega
   subst hke
   have HR:Hid (inB L x=false):=by
    show _=_
    unfold inB
    rw [decide_eq_false_iff_not]
    intro h
    obtain ⟨j,hj,e⟩:=List.mem_iff_getElem.1 h
    refine HK.out j (by rw [←HN.out];exact hj) ?_
    rw [List.getD_eq_getElem?_getD,List.getElem?_eq_getElem hj]
    exact e
   go_wp2_with fail
   go_ret
   exact ⟨by rw [HR.out];rfl,HB.out⟩
def ndmB:Mem:=⟨⟨#[98]⟩,-1,0,⟨#[]⟩⟩
def ndmC:Mem:=⟨⟨#[99]⟩,0,1,⟨#[]⟩⟩
def ndmM (i:Nat):Mem:=if i=0 then ndmB else ndmC
def ndmD:Dm:=⟨⟨#[97]⟩,0,2,ndmM⟩
def ndmO:Nat→Dm:=fun _=>ndmD
theorem ndm_dim:dimErr ndmD=(-1,0):=by decide +kernel
theorem ndm_mem:∀ j:Fin 2,mErr ndmD j=0:=by decide +kernel
theorem ndm_nd:ndL ndmD=[[1],[]]:=by decide +kernel
theorem ndm_err:rErr ndmD=(-1,0):=re3 (by rw [ndm_dim]) (fun j hj=>ndm_mem ⟨j,hj⟩) fun j _=>by rw [ndm_nd,←one_nd];exact one_acyc j
theorem ndm_all:(allErr ndmO 1).2.2=0:=by decide +kernel
theorem ndm_ru:(ruErr ndmO 1).2.2=0:=ru_zero ndm_all fun i _=>by show (rErr ndmD).2=0;rw [ndm_err]
theorem ndm_prod:prodN ndmO 1=2:=by decide +kernel
theorem ndm_sh:shapeErr ndmO 1 [1]=0∧leafV ndmO 1 [1]=true∧numI ndmO [1] 1=1∧byTo ndmO [0] 1=0∧mNd ndmD 0=[1]∧placeL ndmO 1 0=[0]:=by decide +kernel
theorem ndm_dirty:drE ndmO 1 [[1]]=0∧(ddL ndmO 1 [[1]]).length=2:=by
 obtain ⟨h1,h2,h3,h4,h5,h6⟩:=ndm_sh
 have he:drE ndmO 1 [[1]]=0:=by
  unfold drE
  rw [ndm_ru,if_neg (by simp),drTo_one h1 h2]
 refine ⟨he,?_⟩
 unfold ddL
 rw [if_pos he]
 have e:drN ndmO 1 [[1]]=[((1:Nat):Int)]:=by
  unfold drN
  rw [List.map_cons,List.map_nil,h3]
  rfl
 rw [e]
 unfold drtL
 rw [ndm_prod]
 have p1:dirB ndmO 1 [((1:Nat):Int)] 1=true:=dirB_iff.2 ⟨1,List.mem_singleton.2 rfl,.refl _⟩
 have p0:dirB ndmO 1 [((1:Nat):Int)] 0=true:=by
  refine dirB_iff.2 ⟨1,List.mem_singleton.2 rfl,.step ⟨0,?_,1,?_,?_⟩ (.refl _)⟩
  ·rw [h6,h4];rfl
  ·rw [h6]
   show (1:Int)∈mNd ndmD 0
   rw [h5]
   exact List.mem_singleton.2 rfl
  ·rw [h6]
   show ((1:Nat):Int)=numI ndmO [1] 1
   rw [h3]
   rfl
 rw [selTo_hit p1,selTo_hit p0]
 rfl
theorem ne_right {D:Nat→Dm} {n:Nat} {p:List Int} (h:neE D n p=0):(ruErr D n).2.2=0∧(allErr D n).2.2=0∧AllR D n∧placeErr D n p=0∧∃ x:Nat,numI D p n=(x:Int)∧x<prodN D n∧placeL D n x=p:=by
 unfold neE at h
 by_cases hr:(ruErr D n).2.2=0
 ·rw [if_neg (by simpa using hr)] at h
  obtain ⟨hE,hR⟩:=ru_right hr
  have hp:placeErr D n p=0:=by rw [place_shapeN hE];exact h
  exact ⟨hr,hE,hR,hp,num_lt (inO_of hp)⟩
 ·rw [if_pos hr] at h
  exact absurd h hr
set_option maxHeartbeats 4000000 in
theorem find_bad (A0:Option Addr) (cap n:Nat) (D:Nat→Dm) (A:Nat→Option Addr) (C:Nat→Nat) (Ap:Option Addr) (cp:Nat) (p:List Int) (w:World) (he:neE D n p≠0) (hM:DimsV w A0 cap n D A C) (hP:PlAt w Ap cp p) :
  Calls Tryz.prog 47 #[.agg #[.slice A0 n cap],.slice Ap p.length cp] w fun e w'=>e=.returned (.tuple #[.pointer none,.int .i64 0,errV (neE D n p)])∧Below w.heap.size w w':=by
 have hB0:=ownOut_below w A0 n cap 29
 have hS:=ownOut_size w A0 n cap 29
 have hA:=ownOut_at w A0 n cap 29
 obtain ⟨W,hW⟩:∃ W,ownOut w A0 n cap 29=W:=⟨_,rfl⟩
 rw [hW] at hB0 hS hA
 unfold ownOut at hW
 have HB0:Hid (Below w.heap.size w W):=hB0
 have hsz:w.heap.size<W.heap.size:=by omega
 have HA:Hid (W.cell? ⟨w.heap.size,0,none⟩=some (.slice A0 n cap)):=hA
 have HNum:Hid (∀ w',Below w.heap.size w w'→Calls Tryz.prog 15 #[.agg #[.slice A0 n cap],.slice Ap p.length cp] w' fun e w''=>e=.returned (.tuple #[.int .i64 (numV D n p),errV (placeErr D n p)])∧Below w'.heap.size w' w''):=fun w' hB=>pnumber_any A0 cap n D A C Ap cp p w' (hM.later hB) (hP.later hB)
 by_cases hr:(ruErr D n).2.2=0
 case neg =>
  have hl:=new_bad A0 cap n D A C W hr (hM.later hB0)
  have HE:Hid (neE D n p=(ruErr D n).2.2):=by show _=_;unfold neE;rw [if_pos hr]
  have HEr:Hid (errV (ruErr D n).2.2=.iface 95 (.int .i64 (ruErr D n).2.2)):=errV_some hr
  rw [errV_some hr] at hl
  generalize p.length=pl at HNum ⊢
  clear hM hP hB0 hr hS he
  generalize (ruErr D n).2.2=z at hl HE HEr
  go_enter Tryz.func47,Tryz.ntmps47
  go_wp2_with fail
  refine hl.mono ?_
  rintro e w1 ⟨rfl,hb1⟩
  go_wp2_with fail
  go_returns
  exact ⟨by rw [HE.out,HEr.out];rfl,onB HB0.out hb1⟩
 obtain ⟨hE,hR⟩:=ru_right hr
 have hl:=new_any A0 cap n D A C W hE hR (hM.later hB0)
 have hz:neE D n p=placeErr D n p:=by unfold neE;rw [if_neg (by simpa using hr),place_shapeN hE]
 have HBE:Hid (neE D n p=placeErr D n p):=hz
 have hp:placeErr D n p≠0:=by rw [←hz];exact he
 have HEr:Hid (errV (placeErr D n p)=.iface 95 (.int .i64 (placeErr D n p))):=errV_some hp
 rw [errV_some hp] at HNum
 generalize p.length=pl at HNum ⊢
 generalize placeErr D n p=z at HNum HBE HEr
 generalize numV D n p=nv at HNum
 clear hM hP hB0 hr hS hE hR hp he hz
 go_enter Tryz.func47,Tryz.ntmps47
 go_wp2_with fail
 refine hl.mono ?_
 rintro e w1 ⟨⟨qp,g,X,rfl,-,-,-⟩,hb1⟩
 have HB1:Hid (Below w.heap.size w w1):=onB HB0.out hb1
 have c1:=(hb1.cell (p:=⟨w.heap.size,0,none⟩) hsz).trans HA.out
 have hs1:w.heap.size<w1.heap.size:=Nat.lt_of_lt_of_le hsz hb1.size
 clear hb1 hl hA hW
 go_wp2_with fail
 refine (HNum.out w1 HB1.out).mono ?_
 rintro e w2 ⟨rfl,hb2⟩
 go_wp2_with fail
 go_returns
 exact ⟨by rw [HBE.out,HEr.out];rfl,onB HB1.out hb2⟩
set_option maxHeartbeats 4000000 in
theorem find_any' (A0:Option Addr) (cap n:Nat) (D:Nat→Dm) (A:Nat→Option Addr) (C:Nat→Nat) (Ap:Option Addr) (cp:Nat) (p:List Int) (x:Nat) (w:World) (he:neE D n p=0) (hx:numI D p n=(x:Int)) (hM:DimsV w A0 cap n D A C) (hP:PlAt w Ap cp p) :
  Calls Tryz.prog 47 #[.agg #[.slice A0 n cap],.slice Ap p.length cp] w fun e w'=>(∃ q g X,e=.returned (.tuple #[.pointer (some ⟨q,0,none⟩),.int .i64 x,.nilIface])∧PlanV w' q g n D X)∧Below w.heap.size w w':=by
 obtain ⟨hr,hE,hR,hp,-⟩:=ne_right he
 have hB0:=ownOut_below w A0 n cap 29
 have hS:=ownOut_size w A0 n cap 29
 have hA:=ownOut_at w A0 n cap 29
 obtain ⟨W,hW⟩:∃ W,ownOut w A0 n cap 29=W:=⟨_,rfl⟩
 rw [hW] at hB0 hS hA
 unfold ownOut at hW
 have HB0:Hid (Below w.heap.size w W):=hB0
 have hsz:w.heap.size<W.heap.size:=by omega
 have HA:Hid (W.cell? ⟨w.heap.size,0,none⟩=some (.slice A0 n cap)):=hA
 have hnv:numV D n p=(x:Int):=by unfold numV;rw [if_pos hp,hx]
 have HNum:Hid (∀ w',Below w.heap.size w w'→Calls Tryz.prog 15 #[.agg #[.slice A0 n cap],.slice Ap p.length cp] w' fun e w''=>e=.returned (.tuple #[.int .i64 (x:Int),.nilIface])∧Below w'.heap.size w' w''):=fun w' hB=>by
  have h:=pnumber_any A0 cap n D A C Ap cp p w' (hM.later hB) (hP.later hB)
  rw [hp,hnv,errV_zero] at h
  exact h
 have hl:=new_any A0 cap n D A C W hE hR (hM.later hB0)
 generalize p.length=pl at HNum ⊢
 clear hM hP hB0 hr hS hE hR hp hnv hx he
 go_enter Tryz.func47,Tryz.ntmps47
 go_wp2_with fail
 refine hl.mono ?_
 rintro e w1 ⟨⟨qp,g,X,rfl,-,-,hPl⟩,hb1⟩
 have HPl:Hid (PlanV w1 qp g n D X):=hPl
 have HB1:Hid (Below w.heap.size w w1):=onB HB0.out hb1
 have c1:=(hb1.cell (p:=⟨w.heap.size,0,none⟩) hsz).trans HA.out
 have hs1:w.heap.size<w1.heap.size:=Nat.lt_of_lt_of_le hsz hb1.size
 clear hb1 hl hA hW hPl
 go_wp2_with fail
 refine (HNum.out w1 HB1.out).mono ?_
 rintro e w2 ⟨rfl,hb2⟩
 have HB2:Hid (Below w.heap.size w w2):=onB HB1.out hb2
 have HP2:Hid (PlanV w2 qp g n D X):=HPl.out.later hb2
 clear hb2
 go_wp2_with fail
 go_returns
 exact ⟨⟨qp,g,X,rfl,HP2.out⟩,HB2.out⟩
end Go.Proofs.YtfngmnhkhfgmjagGreatDoor
