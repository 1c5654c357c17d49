/-
  What Order and All of package calc answer, called in whatever memory.
-/
import Derived.Test.YtnlfpaopfloklaaGreatDoorJEBL
import Derived.Test.YtnlfpaopfloklaaGreatDoorJEBN
namespace Go.Proofs.YtnlfpaopfloklaaGreatDoor
open Go.ChangeShapes Go.WideShapes Go.ChangeAt Go.RowKit
set_option maxRecDepth 20000
set_option maxHeartbeats 4000000 in
theorem corder_t (A0:Option Addr) (cap n:Nat) (D:Nat→Dm) (A:Nat→Option Addr) (C:Nat→Nat) (w:World) (hM:DimsV w A0 cap n D A C) :
  Calls Tryz.prog 31 #[.agg #[.slice A0 n cap]] w fun e w'=>(∃ A' c',e=.returned (.tuple #[.slice A' (coL D n).length c',errV (ruErr D n).2.2])∧IntT w' A' c' (coL D n))∧Below w.heap.size w w':=by
 have hB0:=ownOut_below w A0 n cap 24
 have hA:=ownOut_at w A0 n cap 24
 obtain ⟨W,hW⟩:∃ W,ownOut w A0 n cap 24=W:=⟨_,rfl⟩
 rw [hW] at hB0 hA
 unfold ownOut at hW
 have HB0:Hid (Below w.heap.size w W):=hB0
 by_cases hr:(ruErr D n).2.2=0
 case neg =>
  have hl:=new_bad A0 cap n D A C W hr (hM.later hB0)
  have HE:Hid (coL D n=[]):=by show _=_;unfold coL;rw [if_neg hr]
  have HEr:Hid (errV (ruErr D n).2.2=.iface 75 (.int .i64 (ruErr D n).2.2)):=errV_some hr
  rw [errV_some hr] at hl
  generalize (ruErr D n).2.2=z at hl HEr
  clear hM hB0 hr
  go_enter Tryz.func31,Tryz.ntmps31
  go_wp2_with fail
  refine hl.mono ?_
  rintro e w1 ⟨rfl,hb1⟩
  go_wp2_with fail
  go_returns
  rw [HE.out,HEr.out]
  exact ⟨⟨none,0,rfl,IntT.nil _ _ _ (by omega)⟩,onB HB0.out hb1⟩
 obtain ⟨hE,hR⟩:=ru_right hr
 have hl:=new_any A0 cap n D A C W hE hR (hM.later hB0)
 have HE:Hid (coL D n=ordTo (rowsL D n) (prodN D n)∧(coL D n).length=prodN D n):=by
  have e:coL D n=ordTo (rowsL D n) (prodN D n):=by unfold coL;rw [if_pos hr]
  exact ⟨e,by rw [e];exact ord_len (rows_inn hR hE) (rows_acyc hR hE) (prodN D n) (by rw [rows_len];exact Nat.le_refl _)⟩
 have HOr:Hid (∀ qp g X w',PlanV w' qp g n D X→Calls Tryz.prog 18 #[.pointer (some ⟨qp,0,none⟩)] w' fun e w''=>(∃ A' c',e=.returned (.tuple #[.slice A' (coL D n).length c',.nilIface])∧IntT w'' A' c' (coL D n))∧Below w'.heap.size w' w''):=fun qp g X w' h=>by
  have h2:=orderof_any qp g n D X w' hR hE h
  rw [←HE.out.1,←HE.out.2] at h2
  exact h2
 rw [hr,errV_zero]
 generalize coL D n=L at HOr ⊢
 generalize L.length=ll at HOr ⊢
 clear hM hB0 hr hE hR HE
 go_enter Tryz.func31,Tryz.ntmps31
 go_wp2_with fail
 refine hl.mono ?_
 rintro e w1 ⟨⟨qp,g,X,rfl,-,-,hP⟩,hb1⟩
 have HB1:Hid (Below w.heap.size w w1):=onB HB0.out hb1
 have hor:=HOr.out qp g X w1 hP
 clear hb1 hl hP
 go_wp2_with fail
 refine hor.mono ?_
 rintro e w2 ⟨⟨A',c',rfl,hI⟩,hb2⟩
 have HI:Hid (IntT w2 A' c' L):=hI
 have HB2:Hid (Below w.heap.size w w2):=onB HB1.out hb2
 clear hI hb2 hor
 go_wp2_with fail
 go_returns
 exact ⟨⟨A',c',rfl,HI.out⟩,HB2.out⟩
def AllS (D:Nat→Dm) (n:Nat) (inp:List Int→Int×Int) (O:List Int) (k:Nat) (L:List (Int×Int)):Prop:=L.length=prodN D n∧∀ j:Nat,j<prodN D n→((j:Int)∈O.take k→L.getD j noC=solV D n inp (placeL D n j))∧((j:Int)∉O.take k→L.getD j noC=inp (placeL D n j))
theorem intT_cell {w:World} {A:Option Addr} {c g x:Nat} {L:List Int} {cur:Array Value} {fr:Nat×Nat} {a b:Value} (h:IntT w A c L) (hg:w.heap[g]?=some (.cells cur 58 fr)):IntT ((w.setCell ⟨g,x,none⟩ a).setCell ⟨g,x+1,none⟩ b) A c L:=h.keep fun b' cs fr' hb=>by
 have hne:b'≠g:=fun e=>by
  rw [e,hg] at hb
  simp at hb
 rw [setCell_off _ _ _ _ _ hne,setCell_off _ _ _ _ _ hne]
set_option maxHeartbeats 16000000 in
theorem call_new (A0:Option Addr) (cap n:Nat) (D:Nat→Dm) (A:Nat→Option Addr) (C:Nat→Nat) (AE:Option Addr) (ce:Nat) (xs:List EnL) (w:World) (hM:DimsV w A0 cap n D A C) (hEn:EnsV w AE ce xs) :
  Calls Tryz.prog 7 #[.agg #[.slice A0 n cap],.slice AE xs.length ce] w fun e w'=>(∃ A' c',e=.returned (.tuple #[.slice A' (caL D n (lE xs)).length c',errV (cuErr D n (lE xs))])∧CelV w' A' c' (caL D n (lE xs))∧NewA w.heap.size A')∧Below w.heap.size w w':=by
 have hB0:=ownOut_below w A0 n cap 24
 have hS:=ownOut_size w A0 n cap 24
 have hA:=ownOut_at w A0 n cap 24
 obtain ⟨W,hW⟩:∃ W,ownOut w A0 n cap 24=W:=⟨_,rfl⟩
 rw [hW] at hB0 hS hA
 unfold ownOut at hW
 have HB0:Hid (Below w.heap.size w W):=hB0
 have hsz:w.heap.size<W.heap.size:=by omega
 have HA:Hid (W.cell? ⟨w.heap.size,0,none⟩=some (.slice A0 n cap)):=hA
 by_cases hr:(ruErr D n).2.2=0
 case neg =>
  have hl:=new_bad A0 cap n D A C W hr (hM.later hB0)
  have HE:Hid (cuErr D n (lE xs)=(ruErr D n).2.2∧caL D n (lE xs)=[]):=by
   have e1:cuErr D n (lE xs)=(ruErr D n).2.2:=by unfold cuErr;rw [if_pos hr]
   exact ⟨e1,caL_bad (by rw [e1];exact hr)⟩
  have HEr:Hid (errV (ruErr D n).2.2=.iface 75 (.int .i64 (ruErr D n).2.2)):=errV_some hr
  rw [errV_some hr] at hl
  generalize xs.length=xl
  generalize (ruErr D n).2.2=z at hl HE HEr
  clear hM hB0 hr hS hEn
  go_enter Tryz.func7,Tryz.ntmps7
  go_wp2_with fail
  refine hl.mono ?_
  rintro e w1 ⟨rfl,hb1⟩
  go_wp2_with fail
  go_returns
  rw [HE.out.1,HE.out.2,HEr.out]
  exact ⟨⟨none,0,rfl,CelV.nil _ _ _ (by omega),NewA.none _⟩,onB HB0.out hb1⟩
 obtain ⟨hE,hR⟩:=ru_right hr
 have hl:=new_any A0 cap n D A C W hE hR (hM.later hB0)
 have hce:cuErr D n (lE xs)=entsErr D n (lE xs):=by unfold cuErr;rw [if_neg (by simpa using hr)]
 by_cases he:entsErr D n (lE xs)=0
 case neg =>
  have HE:Hid (cuErr D n (lE xs)=entsErr D n (lE xs)∧caL D n (lE xs)=[]):=⟨hce,caL_bad (by rw [hce];exact he)⟩
  have HEr:Hid (errV (entsErr D n (lE xs))=.iface 75 (.int .i64 (entsErr D n (lE xs)))):=errV_some he
  have HCe:Hid (∀ w',Below w.heap.size w w'→Calls Tryz.prog 17 #[.agg #[.slice A0 n cap],.slice AE xs.length ce] w' fun e w''=>(∃ A' c',e=.returned (.tuple #[.slice A' 0 c',.iface 75 (.int .i64 (entsErr D n (lE xs)))]))∧Below w'.heap.size w' w''):=fun w' hB=>fcells_bad A0 cap n D A C AE ce xs w' (hM.later hB) (hEn.later hB) he
  generalize xs.length=xl at HCe ⊢
  generalize entsErr D n (lE xs)=z at HE HEr HCe
  clear hM hB0 hr hS hEn hE hR he hce
  go_enter Tryz.func7,Tryz.ntmps7
  go_wp2_with fail
  refine hl.mono ?_
  rintro e w1 ⟨⟨qp,g,X,rfl,-,-,-⟩,hb1⟩
  have HB1:Hid (Below W.heap.size W w1):=hb1
  have c1:=(hb1.cell (p:=⟨w.heap.size,0,none⟩) hsz).trans HA.out
  have hs1:w.heap.size<w1.heap.size:=Nat.lt_of_lt_of_le hsz hb1.size
  clear hb1 hl hA hW
  go_wp2_with fail
  refine (HCe.out w1 (onB HB0.out HB1.out)).mono ?_
  rintro e w2 ⟨⟨A2,c2,rfl⟩,hb2⟩
  have HB2:Hid (Below w.heap.size w w2):=onB (onB HB0.out HB1.out) hb2
  clear hb2 c1
  go_wp2_with fail
  go_returns
  rw [HE.out.1,HE.out.2,HEr.out]
  exact ⟨⟨none,0,rfl,CelV.nil _ _ _ (by omega),NewA.none _⟩,HB2.out⟩
 have hEs:=ens_of he
 have hcu:cuErr D n (lE xs)=0:=hce.trans he
 have HCe:Hid (∀ w',Below w.heap.size w w'→Calls Tryz.prog 17 #[.agg #[.slice A0 n cap],.slice AE xs.length ce] w' fun e w''=>(∃ g,e=.returned (.tuple #[.slice (some ⟨g,0,none⟩) (prodN D n) (prodN D n),.nilIface])∧w'.heap.size≤g∧CelB w'' g (wrV D n (lE xs)))∧Below w'.heap.size w' w''):=fun w' hB=>fcells_own A0 cap n D A C AE ce xs w' (hM.later hB) (hEn.later hB) he
 obtain ⟨-,-,hp3,-⟩:=allErr_some hE
 obtain ⟨O,hO⟩:∃ O,ordTo (rowsL D n) (prodN D n)=O:=⟨_,rfl⟩
 have HOl:Hid (O.length=prodN D n):=by show _=_;rw [←hO];exact ord_len (rows_inn hR hE) (rows_acyc hR hE) (prodN D n) (by rw [rows_len];exact Nat.le_refl _)
 have HOr:Hid (∀ qp g X w',PlanV w' qp g n D X→Calls Tryz.prog 18 #[.pointer (some ⟨qp,0,none⟩)] w' fun e w''=>(∃ A' c',e=.returned (.tuple #[.slice A' (prodN D n) c',.nilIface])∧IntT w'' A' c' O)∧Below w'.heap.size w' w''):=fun qp g X w' h=>by
  have h2:=orderof_any qp g n D X w' hR hE h
  rw [hO] at h2
  exact h2
 have HStp:Hid (∀ k L,k<prodN D n→AllS D n (getE (lE xs)) O k L→∃ m:Nat,O.getD k 0=(m:Int)∧m<prodN D n∧(∀ z∈ndsX D n m,goodC (L.getD z.toNat noC))∧tlV D n L m=solV D n (getE (lE xs)) (placeL D n m)∧AllS D n (getE (lE xs)) O (k+1) (L.set m (solV D n (getE (lE xs)) (placeL D n m)))):=fun k L hk hAS=>by
  obtain ⟨m,h1,h2,h3,h4,h5⟩:=ord_at (rows_inn hR hE) (rows_acyc hR hE) (k:=k) (by rw [rows_len];exact hk)
  rw [rows_len,hO] at h1 h3 h4 h5
  rw [rows_len] at h2
  have hnds:∀ z∈ndsX D n m,∃ y:Nat,z=(y:Int)∧y<prodN D n∧(y:Int)∈O.take k:=fun z hz=>by
   obtain ⟨y,rfl,hy⟩:=nds_in hR hE h2 z hz
   refine ⟨y,rfl,hy,h4 _ ?_⟩
   have ht:=nds_told hR hE h2
   rw [rows_at h2,←told_eq hR hE ht,(List.mergeSort_perm _ _).mem_iff]
   exact hz
  have hL1:∀ z∈ndsX D n m,L.getD z.toNat noC=solV D n (getE (lE xs)) (placeL D n z.toNat):=fun z hz=>by
   obtain ⟨y,rfl,hy,hyO⟩:=hnds z hz
   rw [Int.toNat_natCast]
   exact (hAS.2 y hy).1 hyO
  refine ⟨m,h1,h2,fun z hz=>?_,tl_sol hR hE h2 (fun _=>(hAS.2 m h2).2 h3) hL1,by rw [List.length_set];exact hAS.1,fun j hj=>?_⟩
  ·rw [hL1 z hz]
   exact good_sol hR (good_getE hEs) _ _ (placeL_in hE) (Nat.lt_succ_self _)
  ·by_cases e:j=m
   ·subst e
    refine ⟨fun _=>?_,fun h=>absurd ?_ h⟩
    ·rw [List.getD_eq_getElem?_getD,List.getElem?_set_self (by rw [hAS.1];exact hj)]
     rfl
    ·rw [h5];simp
   ·have ht:(j:Int)∈O.take (k+1)↔(j:Int)∈O.take k:=by
     rw [h5,List.mem_append,List.mem_singleton]
     exact ⟨fun h=>h.resolve_right (by omega),Or.inl⟩
    rw [ht,List.getD_eq_getElem?_getD,List.getElem?_set_ne (fun h=>e h.symm),←List.getD_eq_getElem?_getD]
    exact hAS.2 j hj
 have HTl:Hid (∀ qp g X gC L m w',PlanV w' qp g n D X→CelB w' gC L→L.length=prodN D n→m<prodN D n→(∀ z∈ndsX D n m,goodC (L.getD z.toNat noC))→Calls Tryz.prog 19 #[.pointer (some ⟨qp,0,none⟩),.slice (some ⟨gC,0,none⟩) (prodN D n) (prodN D n),.int .i64 m] w' fun e w''=>e=.returned (.tuple #[.agg #[.int .i64 (tlV D n L m).1,.int .i64 (tlV D n L m).2],.nilIface])∧Below w'.heap.size w' w''):=fun qp g X gC L m w' hP hC hLl hm hok=>ptell_any qp g n D X m (some ⟨gC,0,none⟩) (prodN D n) L w' hR hE hm hP hLl ⟨by rw [hLl];exact Nat.le_refl _,by omega,Or.inr ⟨gC,0,rfl,hC.celAt⟩⟩ hok
 have HFi:Hid (∀ L,AllS D n (getE (lE xs)) O (prodN D n) L→L=caL D n (lE xs)):=fun L h=>ca_eq hcu h.1 fun j hj=>(h.2 j hj).1 (by
  rw [List.take_of_length_le (by rw [HOl.out];exact Nat.le_refl _),←hO]
  have hnd:=ord_in (rowsL D n) (prodN D n)
  refine Classical.byContradiction fun hn=>?_
  have:=few (prodN D n) ((j:Int) :: ordTo (rowsL D n) (prodN D n)) (List.nodup_cons.2 ⟨hn,hnd.1⟩) fun x hx=>by
   rcases List.mem_cons.1 hx with rfl | hx
   ·omega
   ·have:=hnd.2 x hx;rw [rows_len] at this;exact this
  rw [List.length_cons,hO,HOl.out] at this
  omega)
 have HSt0:Hid (AllS D n (getE (lE xs)) O 0 (wrV D n (lE xs))):=⟨wrV_len ..,fun j hj=>⟨fun h=>by simp at h,fun _=>wr_at hEs hj⟩⟩
 have HCl:Hid ((caL D n (lE xs)).length=prodN D n):=caL_len hcu
 rw [hcu,errV_zero,HCl.out]
 generalize caL D n (lE xs)=CA at HFi HCl ⊢
 generalize getE (lE xs)=inp at HStp HFi HSt0
 generalize wrV D n (lE xs)=W0 at HCe HSt0
 generalize xs.length=xl at HCe ⊢
 obtain ⟨N,hN⟩:∃ N,prodN D n=N:=⟨_,rfl⟩
 have HN:Hid (prodN D n=N):=hN
 rw [hN] at HCe HOl HOr HStp HTl HFi hp3 HCl ⊢
 have hNI:(N:Int)≤3000:=by omega
 clear hM hB0 hr hS hEn hE hR he hce hEs hcu hO hN
 go_enter Tryz.func7,Tryz.ntmps7
 go_wp2_with fail
 refine hl.mono ?_
 rintro e w1 ⟨⟨qp,g,X,rfl,-,-,hP1⟩,hb1⟩
 have HP1:Hid (PlanV w1 qp g n D X):=hP1
 have HB1:Hid (Below W.heap.size W w1):=hb1
 have c1:=(hb1.cell (p:=⟨w.heap.size,0,none⟩) hsz).trans HA.out
 have hs1:w.heap.size<w1.heap.size:=Nat.lt_of_lt_of_le hsz hb1.size
 clear hb1 hl hA hW hP1
 go_wp2_with fail
 refine (HCe.out w1 (onB HB0.out HB1.out)).mono ?_
 rintro e w2 ⟨⟨gC,rfl,hgC,hC2⟩,hb2⟩
 have HB2:Hid (Below w1.heap.size w1 w2):=hb2
 have HC2:Hid (CelB w2 gC W0):=hC2
 have hor:=HOr.out qp g X w2 (HP1.out.later hb2)
 clear hb2 c1 hC2
 go_wp2_with fail
 refine hor.mono ?_
 rintro e w3 ⟨⟨A3,c3,rfl,hI3⟩,hb3⟩
 have HB3:Hid (Below w1.heap.size w1 w3):=onB HB2.out hb3
 have HC3:Hid (CelB w3 gC W0):=HC2.out.later hb3
 have HI3:Hid (IntT w3 A3 c3 O):=hI3
 clear hb3 hor hI3
 go_wp2_with fail
 go_loopg [7,39] N (fun gg s7 s39 wr => ∃ (k:Nat),k≤N∧gg=N-k∧s39=.int .i64 k∧s7=.nilIface∧Hid (∃ L,CelB wr gC L∧AllS D n inp O k L)∧Hid (IntT wr A3 c3 O)∧Hid (Below w1.heap.size w1 wr))
 case atStart=>exact ⟨0,Nat.zero_le _,rfl,rfl,rfl,hid_of ⟨W0,HC3.out,HSt0.out⟩,HI3,HB3⟩
 case round =>
  obtain ⟨k,hk,rfl,rfl,rfl,HL,HI,HBw⟩:=hrel
  by_cases hlt:k<N
  ·have hki:(k:Int)<(N:Int):=by omega
   obtain ⟨L,hCL,hAS⟩:=HL.out
   obtain ⟨m,hm,hmN,hok,htl,hAS2⟩:=HStp.out k L hlt hAS
   have hLl:L.length=N:=by rw [←HN.out];exact hAS.1
   have htc:=HTl.out qp g X gC L m wr (HP1.out.later HBw.out) hCL hLl hmN hok
   rw [htl] at htc
   obtain ⟨⟨ra,rb⟩,hRe⟩:∃ R,solV D n inp (placeL D n m)=R:=⟨_,rfl⟩
   rw [hRe] at htc hAS2
   simp only at htc
   obtain ⟨hcS,-,hS0 | ⟨bs,cs,fr,rfl,hbS,hcl⟩⟩:=HI.out
   ·have:=HOl.out;rw [hS0] at this;simp at this;omega
   have cx:=hcl k (by rw [HOl.out];exact hlt)
   have hbs:bs<wr.heap.size:=(Array.getElem?_eq_some_iff.1 hbS).1
   rw [HOl.out] at hcS
   rw [hm] at cx
   have hcSI:(N:Int)≤(c3:Int):=by omega
   have hmI:(m:Int)<(N:Int):=by omega
   have HCL:Hid (CelB wr gC L):=hCL
   have HAS2:=hid_of hAS2
   have HLl:Hid (L.length=N):=hLl
   clear hcl hbS hm hok htl hRe hAS hAS2 hCL
   go_wp2_with fail
   refine htc.mono ?_
   rintro e w5 ⟨rfl,hb5⟩
   have hC5:=HCL.out.later hb5
   obtain ⟨r0,r1⟩:=hC5.at (k:=m) (by rw [HLl.out];exact hmN)
   have f0:=hC5.frozen (m*2)
   have f1:=hC5.frozen (m*2+1)
   have hgl:=hC5.lt
   have HC5:Hid (CelB ((w5.setCell ⟨gC,m*2,none⟩ (.int .i64 ra)).setCell ⟨gC,m*2+1,none⟩ (.int .i64 rb)) gC (L.set m (ra,rb))):=hC5.set (by rw [HLl.out];exact hmN) ra rb
   obtain ⟨cur,hcur,-⟩:=hC5
   have HI5:Hid (IntT ((w5.setCell ⟨gC,m*2,none⟩ (.int .i64 ra)).setCell ⟨gC,m*2+1,none⟩ (.int .i64 rb)) (some ⟨bs,0,none⟩) c3 O):=intT_cell (HI.out.later hb5) hcur
   have HB5:Hid (Below w1.heap.size w1 ((w5.setCell ⟨gC,m*2,none⟩ (.int .i64 ra)).setCell ⟨gC,m*2+1,none⟩ (.int .i64 rb))):=((onB HBw.out hb5).setCell hgC _).setCell hgC _
   clear hb5 htc hcur
   go_wp2_with fail
   go_roundg (N-(k+1))
   case measure=>omega
   case rel=>exact ⟨k+1,by omega,rfl,by go_num,rfl,hid_of ⟨_,HC5.out,HAS2.out⟩,HI5,HB5⟩
  ·have hke:k=N:=by omega
   subst hke
   have HgC:Hid (NewA w.heap.size (some ⟨gC,0,none⟩)):=fun b o e=>by cases e;exact Nat.le_trans (Nat.le_of_lt hs1) hgC
   have HF:Hid (CelV wr (some ⟨gC,0,none⟩) k CA):=by
    obtain ⟨L,hCL,hAS⟩:=HL.out
    have hLe:=HFi.out L hAS
    have hLl:=HCl.out
    rw [hLe] at hCL
    exact ⟨by rw [hLl];exact Nat.le_refl _,by omega,Or.inr ⟨gC,0,rfl,hCL.celAt⟩⟩
   go_wp2_with fail
   go_returns
   exact ⟨⟨_,_,rfl,HF.out,HgC.out⟩,onB HB0.out (onB HB1.out HBw.out)⟩
theorem call_any (A0:Option Addr) (cap n:Nat) (D:Nat→Dm) (A:Nat→Option Addr) (C:Nat→Nat) (AE:Option Addr) (ce:Nat) (xs:List EnL) (w:World) (hM:DimsV w A0 cap n D A C) (hEn:EnsV w AE ce xs) :
  Calls Tryz.prog 7 #[.agg #[.slice A0 n cap],.slice AE xs.length ce] w fun e w'=>(∃ A' c',e=.returned (.tuple #[.slice A' (caL D n (lE xs)).length c',errV (cuErr D n (lE xs))])∧CelV w' A' c' (caL D n (lE xs)))∧Below w.heap.size w w' :=
 (call_new A0 cap n D A C AE ce xs w hM hEn).mono fun _ _ ⟨⟨A',c',h1,h2,_⟩,h3⟩=>⟨⟨A',c',h1,h2⟩,h3⟩
end Go.Proofs.YtnlfpaopfloklaaGreatDoor
