/-
  What tallylaw2.CalcEach answers, called in whatever memory, of whatever Of of package need tells as it should: true.
-/
import Derived.Test.YtigkeokacagabagGreatDoorJZCB
namespace Go.Proofs.YtigkeokacagabagGreatDoor
open Go.ChangeShapes Go.WideShapes Go.ChangeAt Go.RowKit
set_option maxRecDepth 20000
theorem keep2E {W w':World} {b o:Nat} {v0 v1:Value} (h:b<W.heap.size∧W.cell? ⟨b,o,none⟩=some v0∧W.cell? ⟨b,o+1,none⟩=some v1) (hB:Below W.heap.size W w'):Below W.heap.size W w'∧w'.cell? ⟨b,o,none⟩=some v0∧w'.cell? ⟨b,o+1,none⟩=some v1 :=
 ⟨hB,(hB.cell (p:=⟨b,o,none⟩) h.1).trans h.2.1,(hB.cell (p:=⟨b,o+1,none⟩) h.1).trans h.2.2⟩
theorem out_cellE {w w1:World} {A0:Option Addr} {n cap:Nat} (hB:Below (ownOut w A0 n cap 29).heap.size (ownOut w A0 n cap 29) w1):w1.cell? ⟨w.heap.size,0,none⟩=some (.slice A0 n cap)∧w.heap.size<w1.heap.size:=by
 have hS:=ownOut_size w A0 n cap 29
 exact ⟨(hB.cell (p:=⟨w.heap.size,0,none⟩) (by show w.heap.size<_;omega)).trans (ownOut_at ..),by have:=hB.size;omega⟩
set_option maxHeartbeats 32000000 in
theorem ceach_law (A0:Option Addr) (cap n:Nat) (D:Nat→Dm) (A:Nat→Option Addr) (C:Nat→Nat) (AE:Option Addr) (ce:Nat) (xs:List EnL) (AT:Option Addr) (cT:Nat) (T:List Int) (w:World) (hM:DimsV w A0 cap n D A C) (hEn:EnsV w AE ce xs) (hT:PlAt w AT cT T)
  (hOf:∀ w' Ap cp p,Below w.heap.size w w'→PlAt w' Ap cp p→Calls Tryz.prog 16 #[.agg #[.slice A0 n cap],.slice Ap p.length cp] w' fun e w''=>(∃ A' c',e=.returned (.tuple #[.slice A' (neL D n p).length c',errV (neE D n p)])∧IntsAt w'' A' c' (neL D n p))∧Below w'.heap.size w' w'') :
  Calls Tryz.prog 4 #[.agg #[.slice A0 n cap],.slice AE xs.length ce,.slice AT T.length cT] w fun e w'=>e=.returned (.bool true)∧Below w.heap.size w w':=by
 have hB0:=ownOut_below w A0 n cap 29
 have HBx:Hid (∀ w1,Below (ownOut w A0 n cap 29).heap.size (ownOut w A0 n cap 29) w1→w1.cell? ⟨w.heap.size,0,none⟩=some (.slice A0 n cap)∧w.heap.size<w1.heap.size):=fun w1 h=>out_cellE h
 obtain ⟨W,hW⟩:∃ W,ownOut w A0 n cap 29=W:=⟨_,rfl⟩
 rw [hW] at hB0 HBx
 unfold ownOut at hW
 have HB0:Hid (Below w.heap.size w W):=hB0
 have hcl:=call_any (some ⟨W.heap.size+1,0,none⟩) 1 1 ndmO (fun _=>some ⟨W.heap.size,0,none⟩) (fun _=>2) (some ⟨W.heap.size+4,0,none⟩) 1 (cexX W) (cexW W) (cexW_dims W) (cexW_ens W)
 have hlp:lE (cexX W)=[⟨[1],7⟩]:=rfl
 have hlx:(cexX W).length=1:=rfl
 rw [hlp,cex_cu,cex_len,errV_zero,hlx] at hcl
 have HCx:Hid (∀ A' c' w',CelV w' A' c' (caL ndmO 1 [⟨[1],7⟩])→∃ b o,A'=some ⟨b,o,none⟩∧2≤c'∧b<w'.heap.size∧w'.cell? ⟨b,o,none⟩=some (.int .i64 1)∧w'.cell? ⟨b,o+1,none⟩=some (.int .i64 7)):=fun A' c' w' h=>by
  obtain ⟨h1,-,h0 | ⟨b,o,h2,h3,h4⟩⟩:=h
  ·have:=cex_len;rw [h0] at this;simp at this
  ·obtain ⟨x0,x1⟩:=h4 0 (by rw [cex_len];omega)
   rw [cex_at] at x0 x1
   rw [cex_len] at h1
   exact ⟨b,o,h2,h1,h3,by simpa using x0,by simpa using x1⟩
 have hBW:=cexW_below W
 have hko:(cexW W).cell? ⟨W.heap.size+2,0,none⟩=some (.slice (some ⟨W.heap.size+1,0,none⟩) 1 1):=by
  have k2:(cexW W).heap[W.heap.size+2]?=some (.cells #[.slice (some ⟨W.heap.size+1,0,none⟩) 1 1] 29 (0,0)):=by unfold cexW;exact eachO (eachO (eachN (by simp)))
  exact (Lib.cell_of_heap k2 0).trans rfl
 obtain ⟨W1,hW1⟩:∃ W1,cexW W=W1:=⟨_,rfl⟩
 rw [hW1] at hcl hBW hko
 unfold cexW at hW1
 rw [show W.heap.size+3=W.heap.size+1+1+1 from rfl] at hW1
 rw [show W.heap.size+4=W.heap.size+1+1+1+1 from rfl] at hcl
 rw [show W.heap.size+2=W.heap.size+1+1 from rfl] at hko
 have HBW:Hid (Below W.heap.size W W1):=hBW
 have hof:=fun w'=>of_any 7 w'
 rw [show ofP 7=(1,7) from rfl] at hof
 have HOF7:Hid (∀ w',Calls Tryz.prog 11 #[.int .i64 7] w' fun e w''=>e=.returned (.agg #[.int .i64 1,.int .i64 7])∧Below w'.heap.size w' w''):=hof
 have HOFn:Hid (∀ (N:Int),-1000000000000≤N→N≤1000000000000→∀ w',Calls Tryz.prog 11 #[.int .i64 N] w' fun e w''=>e=.returned (.agg #[.int .i64 1,.int .i64 N])∧Below w'.heap.size w' w''):=fun N h1 h2 w'=>of_in h1 h2 w'
 have HAl:Hid (∀ w',Below W.heap.size W w'→Calls Tryz.prog 8 #[.agg #[.slice A0 n cap],.slice AE xs.length ce] w' fun e w''=>(∃ A' c',e=.returned (.tuple #[.slice A' (caL D n (lE xs)).length c',errV (cuErr D n (lE xs))])∧CelV w'' A' c' (caL D n (lE xs)))∧Below w'.heap.size w' w''):=fun w' hB=>call_any A0 cap n D A C AE ce xs w' (hM.later (onB hB0 hB)) (hEn.later (onB hB0 hB))
 have HPo:Hid (∀ (x:Int) w',Below W.heap.size W w'→Calls Tryz.prog 12 #[.agg #[.slice A0 n cap],.int .i64 x] w' fun e w''=>(∃ A' c',e=.returned (.tuple #[.slice A' (ofL D n x).length c',errV (ofErr D n x)])∧PlAt w'' A' c' (ofL D n x))∧Below w'.heap.size w' w''):=fun x w' hB=>pof_any A0 cap n D A C x w' (hM.later (onB hB0 hB))
 have HSo:Hid (∀ Ap cp p w',Below W.heap.size W w'→PlAt w' Ap cp p→Calls Tryz.prog 13 #[.agg #[.slice A0 n cap],.slice AE xs.length ce,.slice Ap p.length cp] w' fun e w''=>e=.returned (.tuple #[.agg #[.int .i64 (soV D n (lE xs) p).1,.int .i64 (soV D n (lE xs) p).2],errV (soErr D n (lE xs) p)])∧Below w'.heap.size w' w''):=fun Ap cp p w' hB hp=>pvalue_any A0 cap n D A C AE ce xs Ap cp p w' (hM.later (onB hB0 hB)) (hEn.later (onB hB0 hB)) hp
 have HNu:Hid (∀ Ap cp p w',Below W.heap.size W w'→PlAt w' Ap cp p→Calls Tryz.prog 14 #[.agg #[.slice A0 n cap],.slice Ap p.length cp] w' fun e w''=>e=.returned (.tuple #[.int .i64 (numV D n p),errV (placeErr D n p)])∧Below w'.heap.size w' w''):=fun Ap cp p w' hB hp=>pnumber_any A0 cap n D A C Ap cp p w' (hM.later (onB hB0 hB)) hp
 have HOr:Hid (∀ w',Below W.heap.size W w'→Calls Tryz.prog 15 #[.agg #[.slice A0 n cap]] w' fun e w''=>(∃ A' c',e=.returned (.tuple #[.slice A' (coL D n).length c',errV (ruErr D n).2.2])∧IntsAt w'' A' c' (coL D n))∧Below w'.heap.size w' w''):=fun w' hB=>corder_any A0 cap n D A C w' (hM.later (onB hB0 hB))
 have HNe:Hid (∀ Ap cp p w',Below W.heap.size W w'→PlAt w' Ap cp p→Calls Tryz.prog 16 #[.agg #[.slice A0 n cap],.slice Ap p.length cp] w' fun e w''=>(∃ A' c',e=.returned (.tuple #[.slice A' (neL D n p).length c',errV (neE D n p)])∧IntsAt w'' A' c' (neL D n p))∧Below w'.heap.size w' w''):=fun Ap cp p w' hB hp=>hOf w' Ap cp p (onB hB0 hB) hp
 have HTv:Hid (PlAt W AT cT T):=hT.later hB0
 have HEv:Hid (EnsV W AE ce xs):=hEn.later hB0
 obtain ⟨xl,hxl⟩:∃ xl,xs.length=xl:=⟨_,rfl⟩
 have HXl:=hid_of hxl
 rw [hxl] at HAl HSo ⊢
 obtain ⟨tl,htl⟩:∃ tl,T.length=tl:=⟨_,rfl⟩
 have HTl:=hid_of htl
 rw [htl]
 clear hM hEn hT hOf hB0 hlp hlx hBW hof hxl htl
 go_enter Tryz.func4,Tryz.ntmps4
 go_wp2_with fail
 refine hcl.mono ?_
 rintro e w1 ⟨⟨A1,c1,rfl,hC1⟩,hb1⟩
 have HB1:Hid (Below W.heap.size W w1):=onB HBW.out hb1
 obtain ⟨bF,oF,rfl,hcF,hbF,f1,f2⟩:=HCx.out A1 c1 w1 hC1
 have HK:Hid (bF<w1.heap.size∧w1.cell? ⟨bF,oF,none⟩=some (.int .i64 1)∧w1.cell? ⟨bF,oF+1,none⟩=some (.int .i64 7)):=⟨hbF,f1,f2⟩
 clear hcl hb1 hko hW hW1 hC1 f1 f2 hbF HCx
 go_upto_region 3 with fail
 go_cut [55] from 28 (fun s55 wx=>s55=.bool false∧Below w1.heap.size w1 wx)
 case first=>as_aux_lemma =>
  go_region_held3 (fun w'=>Below w1.heap.size w1 w'∧w'.cell? ⟨bF,oF,none⟩=some (.int .i64 1)∧w'.cell? ⟨bF,oF+1,none⟩=some (.int .i64 7))
   ((refine keep2E HK.out ?_;go_grown;done))
   (first | (go_at_call 11;refine (HOF7.out _).mono ?_;rintro e w3 ⟨rfl,hb3⟩;have hM3:=onB (W0:=w1) (by go_grown) hb3;have hy3:=hM3.size;clear hb3))
  all_goals go_wp2_with fail
  all_goals go_meet
  all_goals exact ⟨rfl,by go_grown⟩
 case rest =>
 obtain ⟨rfl,hb⟩:=hcut
 obtain ⟨w2,rfl⟩:∃ w2:World,w2=wc:=⟨_,rfl⟩
 have HB2:Hid (Below W.heap.size W w2):=onB HB1.out hb
 obtain ⟨o0,hq⟩:=HBx.out w2 HB2.out
 have hc:=HAl.out w2 HB2.out
 clear hb HK HOF7 HB1
 by_cases he:cuErr D n (lE xs)=0
 case neg =>
  rw [errV_some he] at hc
  generalize (caL D n (lE xs)).length=ll at hc
  generalize cuErr D n (lE xs)=z at hc
  clear he
  go_wp2_with fail
  refine hc.mono ?_
  rintro e w3 ⟨⟨A3,c3,rfl,-⟩,hb3⟩
  have HB3:Hid (Below W.heap.size W w3):=onB HB2.out hb3
  clear hc hb3 o0 hq
  go_wp2_with fail
  go_ret
  exact ⟨rfl,onB HB0.out HB3.out⟩
 case pos =>
 obtain ⟨hru,hen⟩:=cu_ru he
 obtain ⟨hE,hR⟩:=ru_right hru
 have hp3:=(allErr_some hE).2.2.1
 have hLl:=caL_len he
 have HSol:Hid (∀ X,X<prodN D n→soErr D n (lE xs) (placeL D n X)=0∧soV D n (lE xs) (placeL D n X)=(caL D n (lE xs)).getD X noC):=fun X hX=>each_sol he hX
 have HEnt:Hid (∀ i,i<xl→∃ m:Nat,numV D n (xs.getD i noL).e.pl=(m:Int)∧placeErr D n (xs.getD i noL).e.pl=0∧m<prodN D n∧(caL D n (lE xs)).getD m noC=(1,(xs.getD i noL).e.n)∧-1000000000000≤(xs.getD i noL).e.n∧(xs.getD i noL).e.n≤1000000000000):=fun i hi=>each_ent he (List.mem_map.2 ⟨_,enl_mem (by rw [HXl.out];exact hi),rfl⟩)
 have HNed:Hid (∀ m,m<prodN D n→neE D n (placeL D n m)=0∧neL D n (placeL D n m)=(rowsL D n).getD m []):=fun m hm=>each_need hru hm
 have HOfx:Hid (∀ x:Int,(ofErr D n x≠0∧ofErr D n x=1)∨∃ X:Nat,x=(X:Int)∧X<prodN D n∧ofErr D n x=0∧ofL D n x=placeL D n X):=fun x=>by
  by_cases hx:x<0∨(prodN D n:Int)≤x
  ·exact Or.inl ⟨by rw [of1 hE hx];omega,of1 hE hx⟩
  ·refine Or.inr ⟨x.toNat,by omega,by omega,of2 hE hx,?_⟩
   unfold ofL
   rw [if_pos (of2 hE hx)]
 have HOfm:Hid (∀ m:Nat,m<prodN D n→ofErr D n (m:Int)=0∧ofL D n (m:Int)=placeL D n m):=fun m hm=>by
  have h2 : ¬ ((m:Int)<0∨(prodN D n:Int)≤(m:Int)):=by omega
  refine ⟨of2 hE h2,?_⟩
  unfold ofL
  rw [if_pos (of2 hE h2),Int.toNat_natCast]
 have HCo:Hid (coL D n=ordTo (rowsL D n) (prodN D n)):=by show _=_;unfold coL;rw [if_pos hru]
 have HOrd:Hid (∀ k,k<prodN D n→∃ m:Nat,(ordTo (rowsL D n) (prodN D n)).getD k 0=(m:Int)∧m<prodN D n∧(m:Int)∉(ordTo (rowsL D n) (prodN D n)).take k∧(∀ x∈(rowsL D n).getD m [],∃ y:Nat,x=(y:Int)∧y<prodN D n∧x∈(ordTo (rowsL D n) (prodN D n)).take k)∧(ordTo (rowsL D n) (prodN D n)).take (k+1)=(ordTo (rowsL D n) (prodN D n)).take k ++ [(m:Int)]∧((rowsL D n).getD m []).length≤12):=fun k hk=>by
  obtain ⟨m,h1,h2,h3,h4,h5⟩:=ord_at (rows_inn hR hE) (rows_acyc hR hE) (k:=k) (by rw [rows_len];exact hk)
  rw [rows_len] at h1 h2 h3 h4 h5
  refine ⟨m,h1,h2,h3,fun x hx=>?_,h5,(rows_told hR hE h2).2.1⟩
  have hin:=rows_inn hR hE m (by rw [rows_len];exact h2) x hx
  rw [rows_len] at hin
  exact ⟨x.toNat,by omega,by omega,h4 x hx⟩
 have HOl:Hid ((ordTo (rowsL D n) (prodN D n)).length=prodN D n):=ord_len (rows_inn hR hE) (rows_acyc hR hE) (prodN D n) (by rw [rows_len];exact Nat.le_refl _)
 have HRu:Hid ((ruErr D n).2.2=0):=hru
 have HFew:Hid (xl≤3000):=by
  have h:=(ens_of hen).few
  unfold lE at h
  rw [List.length_map,HXl.out] at h
  exact h
 rw [he,errV_zero,hLl] at hc
 obtain ⟨LA,hLA⟩:∃ LA,caL D n (lE xs)=LA:=⟨_,rfl⟩
 rw [hLA] at hc HSol HEnt hLl
 have HLl:Hid (LA.length=prodN D n):=hLl
 obtain ⟨PN,hPN⟩:∃ PN,prodN D n=PN:=⟨_,rfl⟩
 rw [hPN] at hc HSol HEnt HNed HOfx HOfm HOrd HOl HLl hp3 HCo
 have hPNI:(PN:Int)≤3000:=by omega
 clear hru hen hE hR hLl he hLA hPN
 go_wp2_with fail
 refine hc.mono ?_
 rintro e w3 ⟨⟨A3,c3,rfl,hC3⟩,hb3⟩
 have HB3:Hid (Below W.heap.size W w3):=onB HB2.out hb3
 have HC3:Hid (CelV w3 A3 c3 LA):=hC3
 clear hc hb3 hC3 o0 hq HB2
 go_wp2_with fail
 go_loopg [12] 20 (fun gg s12 wr => ∃ (i:Nat),i≤20∧gg=20-i∧s12=.int .i64 i∧Hid (Below w3.heap.size w3 wr))
 case atStart=>exact ⟨0,Nat.zero_le _,rfl,rfl,Below.refl _ _⟩
 case round =>
  obtain ⟨i,hi,rfl,rfl,HBr⟩:=hrel
  obtain ⟨wi,rfl⟩:∃ wi:World,wi=wr:=⟨_,rfl⟩
  go_upto_region 9 with fail
  go_cut [71] from 64 to 120 (fun s71 wx => ∃ b,s71=.bool b∧Hid (b=true↔i<tl∧i<20)∧Below wi.heap.size wi wx)
  case first=>as_aux_lemma =>
   by_cases h1:i<tl
   ·have h1I:(i:Int)<(tl:Int):=by omega
    by_cases h2:i<20
    ·have h2I:(i:Int)<20:=by omega
     go_wp2_with fail
     go_meet
     exact ⟨true,rfl,hid_of ⟨fun _=>⟨h1,h2⟩,fun _=>rfl⟩,by go_grown⟩
    ·have h2I : ¬ (i:Int)<20:=by omega
     go_wp2_with fail
     go_meet
     exact ⟨false,rfl,hid_of ⟨fun h=>(by cases h),fun h=>absurd h.2 h2⟩,by go_grown⟩
   ·have h1I : ¬ (i:Int)<(tl:Int):=by omega
    go_wp2_with fail
    go_meet
    exact ⟨false,rfl,hid_of ⟨fun h=>(by cases h),fun h=>absurd h.1 h1⟩,by go_grown⟩
  case rest =>
  obtain ⟨b,rfl,Hb,hbc⟩:=hcut
  obtain ⟨wj,rfl⟩:∃ wj:World,wj=wc:=⟨_,rfl⟩
  have HBj:Hid (Below w3.heap.size w3 wj):=onB HBr.out hbc
  have HBk:Hid (Below W.heap.size W wj):=onB HB3.out HBj.out
  clear hbc HBr
  cases b
  case true =>
   obtain ⟨hit,hi20⟩:=Hb.out.1 rfl
   have hitI:(i:Int)<(tl:Int):=by omega
   obtain ⟨hcT,h0 | ⟨bT,oT,rfl,hbT,hclT⟩⟩:=HTv.out.later HBk.out
   ·have:=HTl.out;rw [h0] at this;simp at this;omega
   have cx:=hclT i (by rw [HTl.out];exact hit)
   rw [HTl.out] at hcT
   have hcTI:(tl:Int)≤(cT:Int):=by omega
   obtain ⟨x,hx⟩:∃ x,T.getD i 0=x:=⟨_,rfl⟩
   rw [hx] at cx
   obtain ⟨o0,hq⟩:=HBx.out wj HBk.out
   obtain ⟨ll,hll⟩:∃ ll,(ofL D n x).length=ll:=⟨_,rfl⟩
   obtain ⟨ev,hev⟩:∃ ev,errV (ofErr D n x)=ev:=⟨_,rfl⟩
   obtain ⟨PX,hPX⟩:∃ PX,ofL D n x=PX:=⟨_,rfl⟩
   have HPx:Hid (∀ w',Below wj.heap.size wj w'→Calls Tryz.prog 12 #[.agg #[.slice A0 n cap],.int .i64 x] w' fun e w''=>(∃ A' c',e=.returned (.tuple #[.slice A' ll c',ev])∧PlAt w'' A' c' PX)∧Below w'.heap.size w' w''):=fun w' hB=>by
    have h:=HPo.out x w' (onB HBk.out hB)
    rw [hll,hev,hPX] at h
    exact h
   have HKp:Hid (∀ w',Below wj.heap.size wj w'→Below wj.heap.size wj w'∧w'.cell? ⟨w.heap.size,0,none⟩=some (.slice A0 n cap)∧w'.cell? ⟨bT,oT+i,none⟩=some (.int .i64 x)):=fun w' hB=>⟨hB,(hB.cell (p:=⟨w.heap.size,0,none⟩) hq).trans o0,(hB.cell (p:=⟨bT,oT+i,none⟩) hbT).trans cx⟩
   have HKx:Hid (bT<wj.heap.size∧wj.cell? ⟨bT,oT+i,none⟩=some (.int .i64 x)):=⟨hbT,cx⟩
   have HPX:=hid_of hPX
   have Hll:=hid_of hll
   have Hev:=hid_of hev
   clear hclT hx hPX hll hev
   go_wp2_with fail
   go_cut [13,14] from 64 to 120 (fun s13 s14 wx => ∃ A' c',s13=.slice A' ll c'∧s14=ev∧Hid (PlAt wx A' c' PX)∧Below wj.heap.size wj wx)
   case first=>as_aux_lemma =>
    go_region_held3 (fun w'=>Below wj.heap.size wj w'∧w'.cell? ⟨w.heap.size,0,none⟩=some (.slice A0 n cap)∧w'.cell? ⟨bT,oT+i,none⟩=some (.int .i64 x))
     ((refine HKp.out _ ?_;go_grown;done))
     (first | (go_at_call 12;refine (HPx.out _ (by go_grown)).mono ?_;rintro e w5 ⟨⟨A5,c5,rfl,hP5⟩,hb5⟩;have hM5:=onB (W0:=wj) (by go_grown) hb5;have hy5:=hM5.size;have HP5:=hid_of hP5;clear hb5 hP5))
    all_goals go_wp2_with fail
    all_goals go_meet
    all_goals exact ⟨_,_,rfl,rfl,hid_of (HP5.out.later (by go_grown)),by go_grown⟩
   case rest =>
   obtain ⟨A5,c5,rfl,rfl,HP5,hb5⟩:=hcut
   obtain ⟨w5,rfl⟩:∃ w5:World,w5=wc:=⟨_,rfl⟩
   have HB5:Hid (Below w3.heap.size w3 w5):=onB HBj.out hb5
   have HK5:Hid (bT<w5.heap.size∧w5.cell? ⟨bT,oT+i,none⟩=some (.int .i64 x)):=⟨Nat.lt_of_lt_of_le HKx.out.1 hb5.size,(hb5.cell (p:=⟨bT,oT+i,none⟩) HKx.out.1).trans HKx.out.2⟩
   clear hb5 cx hbT o0 hq HKp HPx HKx
   rcases HOfx.out x with ⟨-,h1⟩ | ⟨X,hX1,hX,h0e,hpl⟩
   ·have hev:=Hev.out
    rw [h1,errV_some (by omega)] at hev
    subst hev
    clear h1 Hev
    go_wp2_with fail
    go_roundg (20-(i+1))
    case measure=>omega
    case rel=>exact ⟨i+1,by omega,rfl,by go_num,HB5⟩
   ·have hev:=Hev.out
    rw [h0e,errV_zero] at hev
    subst hev
    have hPX:=HPX.out
    have hll:=Hll.out
    rw [hPX] at hll
    rw [hpl] at hPX
    rw [←hPX,placeL_len] at hll
    subst hll
    have HB5W:Hid (Below W.heap.size W w5):=onB HB3.out HB5.out
    obtain ⟨o5,hq5⟩:=HBx.out w5 HB5W.out
    have hso:=HSo.out A5 c5 (placeL D n X) w5 HB5W.out (by rw [hPX];exact HP5.out)
    rw [placeL_len,(HSol.out X hX).1,errV_zero,(HSol.out X hX).2] at hso
    obtain ⟨⟨v1,v2⟩,hv⟩:∃ v,LA.getD X noC=v:=⟨_,rfl⟩
    have Hv:=hid_of hv
    rw [hv] at hso
    simp only at hso
    subst hX1
    clear hPX hpl h0e hv HP5 HPX Hll Hev
    go_upto_region 13 with fail
    go_cut [14,15] from 64 to 120 (fun s14 s15 wx => ∃ q,s15=.pointer (some ⟨q,0,none⟩)∧s14=.nilIface∧At q v1 v2 wx∧Below w5.heap.size w5 wx)
    case first=>as_aux_lemma =>
     go_wp2_with fail
     refine hso.mono ?_
     rintro e w6 ⟨rfl,hb6⟩
     clear hso
     have hz6:=hb6.size
     go_wp2_with fail
     go_meet
     exact ⟨_,rfl,rfl,At.new _ _ _ _,by go_grown⟩
    case rest =>
    obtain ⟨q,rfl,rfl,⟨hql,p0,p1⟩,hb7⟩:=hcut
    obtain ⟨w7,rfl⟩:∃ w7:World,w7=wc:=⟨_,rfl⟩
    have HB7:Hid (Below w3.heap.size w3 w7):=onB HB5.out hb7
    have cx:=(hb7.cell (p:=⟨bT,oT+i,none⟩) HK5.out.1).trans HK5.out.2
    obtain ⟨hcL,-,h0 | ⟨bL,oL,rfl,hbL,hclL⟩⟩:=HC3.out.later HB7.out
    ·have:=HLl.out;rw [h0] at this;simp at this;omega
    obtain ⟨a0,a1⟩:=hclL X (by rw [HLl.out];exact hX)
    rw [Hv.out] at a0 a1
    simp only at a0 a1
    rw [HLl.out] at hcL
    have hcLI:(PN:Int)≤(c3:Int):=by omega
    have hXI:(X:Int)<(PN:Int):=by omega
    have hd1:decide ((X:Int)<0)=false:=decide_eq_false (by omega)
    have hd2:decide (PN≤X)=false:=decide_eq_false (by omega)
    clear hclL hso o5 hq5 hb7
    go_wp2_with fail
    go_quiet (fail)
    go_wp2_with fail
    go_roundg (20-(i+1))
    case measure=>omega
    case rel=>exact ⟨i+1,by omega,rfl,by go_num,hid_of (onB HB7.out (below_drewN (Below.refl _ _) _))⟩
  case false =>
   clear Hb HTv HSol HSo HOfx HTl
   go_wp2_with fail
   go_loopg [16] xl (fun gg s16 wr => ∃ (k:Nat),k≤xl∧gg=xl-k∧s16=.int .i64 k∧Hid (Below w3.heap.size w3 wr))
   case atStart=>exact ⟨0,Nat.zero_le _,rfl,rfl,HBj⟩
   case round =>
    obtain ⟨k,hk,rfl,rfl,HBr⟩:=hrel
    obtain ⟨wk,rfl⟩:∃ wk:World,wk=wr:=⟨_,rfl⟩
    have HBW2:Hid (Below W.heap.size W wk):=onB HB3.out HBr.out
    obtain ⟨o0,hq⟩:=HBx.out wk HBW2.out
    have hfI:(xl:Int)≤3000:=by have:=HFew.out;omega
    by_cases hlt:k<xl
    ·have hltI:(k:Int)<(xl:Int):=by omega
     obtain ⟨hcE,-,h0 | ⟨bE,oE,rfl,hEat⟩⟩:=HEv.out.later HBW2.out
     ·have:=HXl.out;rw [h0] at this;simp at this;omega
     obtain ⟨e0,e1⟩:=hEat.at (k:=k) (by rw [HXl.out];exact hlt)
     have hplk:=hEat.pl (k:=k) (by rw [HXl.out];exact hlt)
     have hbE:=hEat.1
     rw [HXl.out] at hcE
     have hcEI:(xl:Int)≤(ce:Int):=by omega
     obtain ⟨m,hm1,hm2,hm3,hm4,hn1,hn2⟩:=HEnt.out k hlt
     generalize (xs.getD k noL).A=Ak at e0 hplk
     generalize (xs.getD k noL).c=ck at e0 hplk
     generalize (xs.getD k noL).e.n=nk at e1 hm4 hn1 hn2
     generalize (xs.getD k noL).e.pl=pk at e0 hplk hm1 hm2
     have HNm:Hid (∀ w',Below wk.heap.size wk w'→Calls Tryz.prog 14 #[.agg #[.slice A0 n cap],.slice Ak pk.length ck] w' fun e w''=>e=.returned (.tuple #[.int .i64 m,.nilIface])∧Below w'.heap.size w' w''):=fun w' hB=>by
      have h:=HNu.out Ak ck pk w' (onB HBW2.out hB) (hplk.later hB)
      rw [hm1,hm2,errV_zero] at h
      exact h
     have HKp:Hid (∀ w',Below wk.heap.size wk w'→Below wk.heap.size wk w'∧w'.cell? ⟨w.heap.size,0,none⟩=some (.slice A0 n cap)∧w'.cell? ⟨bE,oE+k*2,none⟩=some (.slice Ak pk.length ck)):=fun w' hB=>⟨hB,(hB.cell (p:=⟨w.heap.size,0,none⟩) hq).trans o0,(hB.cell (p:=⟨bE,oE+k*2,none⟩) hbE).trans e0⟩
     have HKx:Hid (bE<wk.heap.size∧wk.cell? ⟨bE,oE+k*2+1,none⟩=some (.int .i64 nk)):=⟨hbE,e1⟩
     have HOk:=hid_of (HOFn.out nk hn1 hn2)
     have Hm4:=hid_of hm4
     generalize pk.length=pkl at e0 HNm HKp
     clear hEat hplk hm1 hm2 hm4 hn1 hn2 e1
     go_wp2_with fail
     go_cut [17,18] from 121 to 161 (fun s17 s18 wx=>s17=.int .i64 m∧s18=.nilIface∧Below wk.heap.size wk wx)
     case first=>as_aux_lemma =>
      go_region_held3 (fun w'=>Below wk.heap.size wk w'∧w'.cell? ⟨w.heap.size,0,none⟩=some (.slice A0 n cap)∧w'.cell? ⟨bE,oE+k*2,none⟩=some (.slice Ak pkl ck))
       ((refine HKp.out _ ?_;go_grown;done))
       (first | (go_at_call 14;refine (HNm.out _ (by go_grown)).mono ?_;rintro e w5 ⟨rfl,hb5⟩;have hM5:=onB (W0:=wk) (by go_grown) hb5;have hy5:=hM5.size;clear hb5))
      all_goals go_wp2_with fail
      all_goals go_meet
      all_goals exact ⟨rfl,rfl,by go_grown⟩
     case rest =>
     obtain ⟨rfl,rfl,hb5⟩:=hcut
     obtain ⟨w5,rfl⟩:∃ w5:World,w5=wc:=⟨_,rfl⟩
     have HB5:Hid (Below w3.heap.size w3 w5):=onB HBr.out hb5
     have e1:=(hb5.cell (p:=⟨bE,oE+k*2+1,none⟩) HKx.out.1).trans HKx.out.2
     have hb1:bE<w5.heap.size:=Nat.lt_of_lt_of_le HKx.out.1 hb5.size
     obtain ⟨hcL,-,h0 | ⟨bL,oL,rfl,hbL,hclL⟩⟩:=HC3.out.later HB5.out
     ·have:=HLl.out;rw [h0] at this;simp at this;omega
     obtain ⟨a0,a1⟩:=hclL m (by rw [HLl.out];exact hm3)
     rw [Hm4.out] at a0 a1
     simp only at a0 a1
     rw [HLl.out] at hcL
     have hcLI:(PN:Int)≤(c3:Int):=by omega
     have hmI:(m:Int)<(PN:Int):=by omega
     have hd1:decide ((m:Int)<0)=false:=decide_eq_false (by omega)
     have hd2:decide (PN≤m)=false:=decide_eq_false (by omega)
     have HKq:Hid (∀ w',Below w5.heap.size w5 w'→Below w5.heap.size w5 w'∧w'.cell? ⟨bL,oL+m*2,none⟩=some (.int .i64 1)∧w'.cell? ⟨bL,oL+m*2+1,none⟩=some (.int .i64 nk)∧w'.cell? ⟨bE,oE+k*2+1,none⟩=some (.int .i64 nk)):=fun w' hB=>⟨hB,(hB.cell (p:=⟨bL,oL+m*2,none⟩) hbL).trans a0,(hB.cell (p:=⟨bL,oL+m*2+1,none⟩) hbL).trans a1,(hB.cell (p:=⟨bE,oE+k*2+1,none⟩) hb1).trans e1⟩
     clear hb5 hclL HKx HKp HNm e0 o0 hq
     go_wp2_with fail
     go_cut [161] from 121 to 161 (fun s161 wx=>s161=.bool false∧Below w5.heap.size w5 wx)
     case first=>as_aux_lemma =>
      go_region_held3 (fun w'=>Below w5.heap.size w5 w'∧w'.cell? ⟨bL,oL+m*2,none⟩=some (.int .i64 1)∧w'.cell? ⟨bL,oL+m*2+1,none⟩=some (.int .i64 nk)∧w'.cell? ⟨bE,oE+k*2+1,none⟩=some (.int .i64 nk))
       ((refine HKq.out _ ?_;go_grown;done))
       (first | (go_at_call 11;refine (HOk.out _).mono ?_;rintro e w6 ⟨rfl,hb6⟩;have hM6:=onB (W0:=w5) (by go_grown) hb6;have hy6:=hM6.size;clear hb6))
      all_goals go_wp2_with fail
      all_goals go_meet
      all_goals exact ⟨rfl,by go_grown⟩
     case rest =>
     obtain ⟨rfl,hb6⟩:=hcut
     obtain ⟨w6,rfl⟩:∃ w6:World,w6=wc:=⟨_,rfl⟩
     have HB6:Hid (Below w3.heap.size w3 w6):=onB HB5.out hb6
     clear hb6 a0 a1 e1 HKq
     go_wp2_with fail
     go_roundg (xl-(k+1))
     case measure=>omega
     case rel=>exact ⟨k+1,by omega,rfl,by go_num,HB6⟩
    ·obtain rfl:k=xl:=by omega
     have hor:=HOr.out wk HBW2.out
     rw [HRu.out,errV_zero,HCo.out,HOl.out] at hor
     generalize ordTo (rowsL D n) PN=O at hor HOrd HOl
     clear HEnt HOFn HCo
     go_wp2_with fail
     refine hor.mono ?_
     rintro e w8 ⟨⟨A8,c8,rfl,hI8⟩,hb8⟩
     have HI8:Hid (IntsAt w8 A8 c8 O):=hI8
     have HB8:Hid (Below W.heap.size W w8):=onB HBW2.out hb8
     have hmb:=run_make_bols PN hp3
     obtain ⟨y,hy⟩:∃ y,w8.alloc (.cells (madeCells #[.bool false] PN) 4)=y:=⟨_,rfl⟩
     have HD0:Hid (BolB y w8.heap.size PN (inF (O.take 0))∧Below w8.heap.size w8 y):=⟨by rw [←hy];exact BolB.made w8 PN,by rw [←hy];go_grown⟩
     clear hor hb8 hI8 o0 hq HBr HBj HBk
     go_wp2_with fail
     clear hmb hy
     go_loopg [22] PN (fun gg s22 wr => ∃ (j:Nat),j≤PN∧gg=PN-j∧s22=.int .i64 j∧Hid (BolB wr w8.heap.size PN (inF (O.take j))∧Below w8.heap.size w8 wr))
     case atStart=>exact ⟨0,Nat.zero_le _,rfl,rfl,HD0⟩
     case round =>
      obtain ⟨j,hj,rfl,rfl,HD⟩:=hrel
      obtain ⟨wo,rfl⟩:∃ wo:World,wo=wr:=⟨_,rfl⟩
      by_cases hjl:j<PN
      ·have hjI:(j:Int)<(PN:Int):=by omega
       obtain ⟨m,hm,hmN,hnot,hnd,htk,h12⟩:=HOrd.out j hjl
       obtain ⟨hcO,h0 | ⟨bO,rfl,hbO,hclO⟩⟩:=HI8.out.later HD.out.2
       ·have:=HOl.out;rw [h0] at this;simp at this;omega
       have cx:=hclO j (by rw [HOl.out];exact hjl)
       rw [hm] at cx
       rw [HOl.out] at hcO
       have hcOI:(PN:Int)≤(c8:Int):=by omega
       have hmI:(m:Int)<(PN:Int):=by omega
       have hd1:decide ((m:Int)<0)=false:=decide_eq_false (by omega)
       have hd2:decide (PN≤m)=false:=decide_eq_false (by omega)
       have HBo:Hid (Below W.heap.size W wo):=onB HB8.out HD.out.2
       obtain ⟨o0,hq⟩:=HBx.out wo HBo.out
       have HPx:Hid (∀ w',Below wo.heap.size wo w'→Calls Tryz.prog 12 #[.agg #[.slice A0 n cap],.int .i64 m] w' fun e w''=>(∃ A' c',e=.returned (.tuple #[.slice A' n c',.nilIface])∧PlAt w'' A' c' (placeL D n m))∧Below w'.heap.size w' w''):=fun w' hB=>by
        have h:=HPo.out (m:Int) w' (onB HBo.out hB)
        rw [(HOfm.out m hmN).1,(HOfm.out m hmN).2,errV_zero,placeL_len] at h
        exact h
       have HKp:Hid (∀ w',Below wo.heap.size wo w'→Below wo.heap.size wo w'∧w'.cell? ⟨w.heap.size,0,none⟩=some (.slice A0 n cap)∧w'.cell? ⟨bO,j,none⟩=some (.int .i64 m)):=fun w' hB=>⟨hB,(hB.cell (p:=⟨w.heap.size,0,none⟩) hq).trans o0,(hB.cell (p:=⟨bO,j,none⟩) hbO).trans cx⟩
       have HKx:Hid (bO<wo.heap.size∧wo.cell? ⟨bO,j,none⟩=some (.int .i64 m)):=⟨hbO,cx⟩
       have Hnd:=hid_of hnd
       have Htk:=hid_of htk
       have Hno:Hid (inF (O.take j) m=false):=by show _=_;unfold inF;simpa using hnot
       have HR0:Hid (∃ R,(rowsL D n).getD m []=R):=⟨_,rfl⟩
       clear hclO hm hnd htk hnot HR0
       go_wp2_with fail
       go_cut [23,24] from 179 to 266 (fun s23 s24 wx => ∃ A' c',s23=.slice A' n c'∧s24=.nilIface∧Hid (PlAt wx A' c' (placeL D n m))∧Below wo.heap.size wo wx)
       case first=>as_aux_lemma =>
        go_region_held3 (fun w'=>Below wo.heap.size wo w'∧w'.cell? ⟨w.heap.size,0,none⟩=some (.slice A0 n cap)∧w'.cell? ⟨bO,j,none⟩=some (.int .i64 m))
         ((refine HKp.out _ ?_;go_grown;done))
         (first | (go_at_call 12;refine (HPx.out _ (by go_grown)).mono ?_;rintro e w5 ⟨⟨A5,c5,rfl,hP5⟩,hb5⟩;have hM5:=onB (W0:=wo) (by go_grown) hb5;have hy5:=hM5.size;have HP5:=hid_of hP5;clear hb5 hP5))
        all_goals go_wp2_with fail
        all_goals go_meet
        all_goals exact ⟨_,_,rfl,rfl,hid_of (HP5.out.later (by go_grown)),by go_grown⟩
       case rest =>
       obtain ⟨A5,c5,rfl,rfl,HP5,hb5⟩:=hcut
       obtain ⟨w5,rfl⟩:∃ w5:World,w5=wc:=⟨_,rfl⟩
       have HB5:Hid (Below wo.heap.size wo w5):=hb5
       have HB5W:Hid (Below W.heap.size W w5):=onB HBo.out hb5
       obtain ⟨o5,hq5⟩:=HBx.out w5 HB5W.out
       have hne:=HNe.out A5 c5 (placeL D n m) w5 HB5W.out HP5.out
       rw [placeL_len,(HNed.out m hmN).1,errV_zero,(HNed.out m hmN).2] at hne
       generalize (rowsL D n).getD m []=R at hne Hnd h12
       obtain ⟨rl,hrl⟩:∃ rl,R.length=rl:=⟨_,rfl⟩
       have Hrl:=hid_of hrl
       rw [hrl] at hne h12
       clear hb5 o0 hq cx hbO HKp HPx hrl
       go_wp2_with fail
       refine hne.mono ?_
       rintro e w6 ⟨⟨A6,c6,rfl,hI6⟩,hb6⟩
       have HI6:Hid (IntsAt w6 A6 c6 R):=hI6
       have HB6:Hid (Below wo.heap.size wo w6):=onB HB5.out hb6
       have HK6:Hid (∀ w',Below w6.heap.size w6 w'→w'.cell? ⟨bO,j,none⟩=some (.int .i64 m)∧bO<w'.heap.size):=fun w' hB=>by
        have h:=onB HB6.out hB
        exact ⟨(h.cell (p:=⟨bO,j,none⟩) HKx.out.1).trans HKx.out.2,Nat.lt_of_lt_of_le HKx.out.1 h.size⟩
       have HD6:Hid (BolB w6 w8.heap.size PN (inF (O.take j))∧Below w8.heap.size w8 w6):=⟨HD.out.1.later HB6.out,onB HD.out.2 HB6.out⟩
       obtain ⟨cx,hbO⟩:=HK6.out w6 (Below.refl _ _)
       have cd:=HD6.out.1.cell hmN
       rw [Hno.out] at cd
       have hgl:=HD6.out.1.lt
       clear hne hb6 hI6 o5 hq5 HKx HD
       go_wp2_with fail
       go_loopg [27] rl (fun gg s27 wr => ∃ (t:Nat),t≤rl∧gg=rl-t∧s27=.int .i64 t∧Hid (Below w6.heap.size w6 wr))
       case atStart=>exact ⟨0,Nat.zero_le _,rfl,rfl,Below.refl _ _⟩
       case round =>
        obtain ⟨t,ht,rfl,rfl,HBt⟩:=hrel
        obtain ⟨wt,rfl⟩:∃ wt:World,wt=wr:=⟨_,rfl⟩
        have HDt:Hid (BolB wt w8.heap.size PN (inF (O.take j))∧Below w8.heap.size w8 wt):=⟨HD6.out.1.later HBt.out,onB HD6.out.2 HBt.out⟩
        clear cx cd hbO hgl
        obtain ⟨cx,hbO⟩:=HK6.out wt HBt.out
        have hgl:=HDt.out.1.lt
        by_cases htl:t<rl
        ·have htI:(t:Int)<(rl:Int):=by omega
         obtain ⟨hcR,h0 | ⟨bR,rfl,hbR,hclR⟩⟩:=HI6.out.later HBt.out
         ·have:=Hrl.out;rw [h0] at this;simp at this;omega
         have cy:=hclR t (by rw [Hrl.out];exact htl)
         obtain ⟨y,hy1,hy2,hy3⟩:=Hnd.out (R.getD t 0) (mem_at (by rw [Hrl.out];exact htl))
         rw [hy1] at cy hy3
         rw [Hrl.out] at hcR
         have hcRI:(rl:Int)≤(c6:Int):=by omega
         have hyI:(y:Int)<(PN:Int):=by omega
         have hd3:decide ((y:Int)<0)=false:=decide_eq_false (by omega)
         have hd4:decide (PN≤y)=false:=decide_eq_false (by omega)
         have cd:=HDt.out.1.cell hy2
         have hF:inF (O.take j) y=true:=by unfold inF;simpa using hy3
         rw [hF] at cd
         clear hclR hy1 hy3 hF
         go_wp2_with fail
         go_roundg (rl-(t+1))
         case measure=>omega
         case rel=>exact ⟨t+1,by omega,rfl,by go_num,HBt⟩
        ·obtain rfl:t=rl:=by omega
         have cd:=HDt.out.1.cell hmN
         have fd:=HDt.out.1.frozen m
         have HD2:Hid (BolB (wt.setCell ⟨w8.heap.size,m,none⟩ (.bool true)) w8.heap.size PN (inF (O.take (j+1)))∧Below w8.heap.size w8 (wt.setCell ⟨w8.heap.size,m,none⟩ (.bool true))):=by
          show _∧_
          rw [Htk.out]
          exact ⟨HDt.out.1.set fun j _=>inF_next j,below_set HDt.out.2 (Nat.le_refl _)⟩
         rw [Hno.out] at cd
         go_wp2_with fail
         go_roundg (PN-(j+1))
         case measure=>omega
         case rel=>exact ⟨j+1,by omega,rfl,by go_num,HD2⟩
      ·obtain rfl:j=PN:=by omega
       go_wp2_with fail
       go_ret
       exact ⟨rfl,onB HB0.out (onB HB8.out HD.out.2)⟩
end Go.Proofs.YtigkeokacagabagGreatDoor
namespace Go.Proofs.YtigkeokacagabagGreatDoor
open Go.ChangeShapes Go.WideShapes Go.ChangeAt Go.RowKit
theorem ceach_full (A0:Option Addr) (cap n:Nat) (D:Nat→Dm) (A:Nat→Option Addr) (C:Nat→Nat) (AE:Option Addr) (ce:Nat) (xs:List EnL) (AT:Option Addr) (cT:Nat) (T:List Int) (w:World) (hM:DimsV w A0 cap n D A C) (hEn:EnsV w AE ce xs) (hT:PlAt w AT cT T) :
  Calls Tryz.prog 4 #[.agg #[.slice A0 n cap],.slice AE xs.length ce,.slice AT T.length cT] w fun e w'=>e=.returned (.bool true)∧Below w.heap.size w w' :=
 ceach_law A0 cap n D A C AE ce xs AT cT T w hM hEn hT fun w' Ap cp p hB hP=>nof_any A0 cap n D A C Ap cp p w' (hM.later hB) hP
end Go.Proofs.YtigkeokacagabagGreatDoor
