/-
  All dims folded in an order: what eachOnce and All of package fold answer, called in whatever memory.
-/
import Derived.Test.YtfgegmpoejilnaaGreatDoorJGBK
namespace Go.Proofs.YtfgegmpoejilnaaGreatDoor
open Go.ChangeShapes Go.WideShapes Go.ChangeAt Go.RowKit
set_option maxRecDepth 20000
set_option maxHeartbeats 1000000 in
theorem index_pl (A:Option Addr) (cap:Nat) (L:List Int) (i:Int) (w:World) (hn:L.length≤12) (hL:PlAt w A cap L):Calls Tryz.prog 102 #[.slice A L.length cap,.int .i64 i] w fun e w'=>e=.returned (.int .i64 (findFrom (fun j=>L.getD j 0 == i) L.length 0))∧Below w.heap.size w w':=by
 obtain ⟨hc,h0 | ⟨b,o,rfl,hbw,hcell⟩⟩:=hL
 ·subst h0
  simp only [List.length_nil]
  go_enter Tryz.func102,Tryz.ntmps102
  go_wp2_with fail
  refine wp_loop_rounds 1 ?_
  rw [rounds_succ]
  go_wp2_with fail
  go_ret
  exact ⟨rfl,Below.refl _ _⟩
 ·have HC:Hid (∀ j,j<L.length→w.cell? ⟨b,o+j,none⟩=some (.int .i64 (L.getD j 0))):=hcell
  obtain ⟨p,hp⟩:∃ p:Nat→Bool,p=fun j=>L.getD j 0 == i:=⟨_,rfl⟩
  have HP:Hid (∀ j,p j=(L.getD j 0 == i)):=fun j=>by rw [hp]
  rw [←hp]
  generalize hnn:L.length=n at hn hc HC
  clear hcell hp hnn
  go_enter Tryz.func102,Tryz.ntmps102
  go_wp2_with fail
  go_loopg [8] n (fun g s8 wr => ∃ (k:Nat),k≤n∧g=n-k∧s8=.int .i64 k∧findFrom p (n-k) k=findFrom p n 0∧wr=w)
  case atStart=>exact ⟨0,Nat.zero_le _,rfl,rfl,rfl,rfl⟩
  case round =>
   obtain ⟨k,hk,rfl,rfl,hf,rfl⟩:=hrel
   have HF:Hid (findFrom p (n-k) k=findFrom p n 0):=hf
   clear hf
   by_cases hlt:k<n
   ·have hki:(k:Int)<(n:Int):=by omega
    have hcx:=HC.out k hlt
    have hsk:n-k=(n-(k+1))+1:=by omega
    have hn':(n:Int)≤12:=by omega
    have hpk:=HP.out k
    have HSK:Hid (n-k=(n-(k+1))+1):=hsk
    generalize L.getD k 0=x at hcx hpk
    clear hsk
    cases hb:p k
    ·have HK:Hid (p k=false):=hb
     rw [hb] at hpk
     have hx:(i == x)=false:=by
      have h1:x≠i:=by simpa using hpk.symm
      simpa using fun h:i=x=>h1 h.symm
     clear hb hpk
     go_wp2_with fail
     go_roundg (n-(k+1))
     case measure=>omega
     case rel=>exact ⟨k+1,by omega,rfl,by go_num,by rw [←HF.out,HSK.out,findFrom_miss _ HK.out],rfl⟩
    ·have HK:Hid (p k=true):=hb
     rw [hb] at hpk
     have hx:(i == x)=true:=by
      have h1:x=i:=by simpa using hpk.symm
      simpa using h1.symm
     clear hb hpk
     go_wp2_with fail
     go_ret
     exact ⟨by rw [←HF.out,HSK.out,findFrom_hit _ HK.out];rfl,Below.refl _ _⟩
   ·have hke:k=n:=by omega
    subst hke
    go_wp2_with fail
    go_ret
    exact ⟨by rw [←HF.out,Nat.sub_self];rfl,Below.refl _ _⟩
theorem contains_pl (A:Option Addr) (cap:Nat) (L:List Int) (i:Int) (w:World) (hn:L.length≤12) (hL:PlAt w A cap L):Calls Tryz.prog 70 #[.slice A L.length cap,.int .i64 i] w fun e w'=>e=.returned (.bool (inB L i))∧Below w.heap.size w w':=by
 have h:=index_pl A cap L i w hn hL
 have HI:Hid (decide (0≤findFrom (fun j=>L.getD j 0 == i) L.length 0)=inB L i):=find_in L i
 generalize findFrom (fun j=>L.getD j 0 == i) L.length 0=f at h HI
 generalize L.length=n at h
 clear hL hn
 go_enter Tryz.func70,Tryz.ntmps70
 go_wp2_with fail
 refine h.mono ?_
 rintro e w1 ⟨rfl,hb1⟩
 go_wp2_with fail
 go_ret
 exact ⟨by rw [←HI.out];rfl,hb1⟩
def missB (O:List Int) (i:Nat):Bool := !(inB O (i:Int))
def eachB (n:Nat) (O:List Int):Bool:=decide (O.length=n) && decide (findFrom (missB O) n 0<0)
theorem pig:∀ (R O:List Int),R.Nodup→(∀ x∈R,x∈O)→O.length≤R.length→O.Perm R
 | [],O,_,_,hl=>by
  have:O=[]:=List.eq_nil_of_length_eq_zero (by simpa using hl)
  rw [this]
 | a :: R,O,hn,hs,hl=>by
  have ha:a∈O:=hs a (List.mem_cons_self ..)
  have h1:=List.nodup_cons.1 hn
  have h2:=List.length_erase_of_mem ha
  have h3:(O.erase a).Perm R:=pig R (O.erase a) h1.2 (fun x hx=>(List.mem_erase_of_ne (fun e=>h1.1 (by rw [←e];exact hx))).2 (hs x (List.mem_cons_of_mem _ hx))) (by simp only [List.length_cons] at hl;omega)
  exact (List.perm_cons_erase ha).trans (h3.cons a)
def rangeI (n:Nat):List Int:=(List.range n).map fun j=>((j:Nat):Int)
theorem rangeI_nodup (n:Nat):(rangeI n).Nodup:=by
 unfold rangeI
 induction n with
 | zero=>simp
 | succ n ih =>
  rw [List.range_succ,List.map_append,List.nodup_append]
  refine ⟨ih,by simp,fun a ha b hb e=>?_⟩
  simp only [List.map_cons,List.map_nil,List.mem_singleton] at hb
  simp only [List.mem_map,List.mem_range] at ha
  obtain ⟨j,hj,rfl⟩:=ha
  omega
theorem each_perm {n:Nat} {O:List Int} (h:eachB n O=true):O.Perm (rangeI n):=by
 unfold eachB at h
 rw [Bool.and_eq_true] at h
 have h1:O.length=n:=of_decide_eq_true h.1
 have h2:=of_decide_eq_true h.2
 refine pig _ _ (rangeI_nodup n) (fun x hx=>?_) (by rw [h1];simp [rangeI])
 simp only [rangeI,List.mem_map,List.mem_range] at hx
 obtain ⟨j,hj,rfl⟩:=hx
 have:=find_none_all _ _ h2 j (Nat.zero_le _) (by omega)
 unfold missB inB at this
 simpa using this
theorem each_in {n:Nat} {O:List Int} (h:eachB n O=true):O.length=n∧∀ d∈O,∃ j:Nat,d=j∧j<n:=by
 have hp:=each_perm h
 refine ⟨by rw [hp.length_eq];simp [rangeI],fun d hd=>?_⟩
 have:=hp.mem_iff.1 hd
 simp only [rangeI,List.mem_map,List.mem_range] at this
 obtain ⟨j,hj,rfl⟩:=this
 exact ⟨j,rfl,hj⟩
set_option maxHeartbeats 2000000 in
theorem each_any (AO:Option Addr) (cO:Nat) (O:List Int) (n:Nat) (w:World) (hn:n≤4) (hO:PlAt w AO cO O):Calls Tryz.prog 39 #[.slice AO O.length cO,.int .i64 n] w fun e w'=>e=.returned (.bool (eachB n O))∧Below w.heap.size w w':=by
 have hn':(n:Int)≤4:=by omega
 by_cases hl:O.length=n
 ·have HR:Hid (eachB n O=decide (findFrom (missB O) n 0<0)):=by show _=_;unfold eachB;rw [decide_eq_true hl,Bool.true_and]
  have hne:((n:Int) != (n:Int))=false:=by simp
  have HO:Hid (PlAt w AO cO O):=hO
  have HL:Hid (O.length=n):=hl
  rw [hl]
  clear hO hl
  go_enter Tryz.func39,Tryz.ntmps39
  go_wp2_with fail
  go_loopg [11] n (fun g s11 wr => ∃ (k:Nat),k≤n∧g=n-k∧s11=.int .i64 k∧Hid (findFrom (missB O) (n-k) k=findFrom (missB O) n 0)∧Below w.heap.size w wr)
  case atStart=>exact ⟨0,Nat.zero_le _,rfl,rfl,(rfl:findFrom (missB O) (n-0) 0=findFrom (missB O) n 0),Below.refl _ _⟩
  case round =>
   obtain ⟨k,hk,rfl,rfl,HF,hBw⟩:=hrel
   have HW:Hid (Below w.heap.size w wr):=hBw
   by_cases hlt:k<n
   ·have hki:(k:Int)<(n:Int):=by omega
    have hco:=contains_pl AO cO O (k:Int) wr (by rw [HL.out];omega) (HO.out.later hBw)
    rw [HL.out] at hco
    have HSK:Hid (n-k=(n-(k+1))+1):=by show _=_;omega
    have hms:missB O k = !(inB O (k:Int)):=rfl
    generalize inB O (k:Int)=t at hco hms
    clear hBw
    cases t
    ·have HK:Hid (missB O k=true):=hms
     clear hms
     go_wp2_with fail
     refine hco.mono ?_
     rintro e w1 ⟨rfl,hb1⟩
     go_wp2_with fail
     go_ret
     refine ⟨?_,onB HW.out hb1⟩
     rw [HR.out,←HF.out,HSK.out,findFrom_hit _ HK.out,decide_eq_false (by omega)]
     rfl
    ·have HK:Hid (missB O k=false):=hms
     clear hms
     go_wp2_with fail
     refine hco.mono ?_
     rintro e w1 ⟨rfl,hb1⟩
     go_wp2_with fail
     go_roundg (n-(k+1))
     case measure=>omega
     case rel=>exact ⟨k+1,by omega,rfl,by go_num,(by rw [←HF.out,HSK.out,findFrom_miss _ HK.out]:findFrom (missB O) (n-(k+1)) (k+1)=findFrom (missB O) n 0),onB HW.out hb1⟩
   ·have hke:k=n:=by omega
    subst hke
    clear hBw
    go_wp2_with fail
    go_ret
    refine ⟨?_,HW.out⟩
    rw [HR.out,←HF.out,Nat.sub_self]
    rfl
 ·have HR:Hid (eachB n O=false):=by show _=_;unfold eachB;rw [decide_eq_false hl,Bool.false_and]
  have hne:((O.length:Int) != (n:Int))=true:=by simp;omega
  generalize O.length=N at hne
  clear hO hl
  go_enter Tryz.func39,Tryz.ntmps39
  go_wp2_with fail
  go_ret
  exact ⟨by rw [HR.out];rfl,Below.refl _ _⟩
def foldO (D:Nat→Dm) (n:Nat) (L:List (Int×Int)) (O:List Int):List (Int×Int):=O.foldl (fun L d=>onceV D n d.toNat L) L
theorem foldO_len (D:Nat→Dm) (n:Nat):∀ (O:List Int) (L:List (Int×Int)),(foldO D n L O).length=L.length
 | [],_=>rfl
 | d :: r,L=>by
  have:=foldO_len D n r (onceV D n d.toNat L)
  unfold foldO at this ⊢
  rw [List.foldl_cons,this]
  exact once_len ..
theorem foldO_good {D:Nat→Dm} {n:Nat}:∀ (O:List Int) {L:List (Int×Int)},goodL L→goodL (foldO D n L O)
 | [],_,h=>h
 | d :: r,L,h=>by
  have:=foldO_good r (L:=onceV D n d.toNat L) (D:=D) (n:=n) (once_good h _)
  unfold foldO at this ⊢
  rw [List.foldl_cons]
  exact this
def faErr (D:Nat→Dm) (n:Nat) (l:List En) (O:List Int):Int:=if entsErr D n l≠0 then entsErr D n l else if eachB n O=true then 0 else 3
def faL (D:Nat→Dm) (n:Nat) (l:List En) (O:List Int):List (Int×Int):=if faErr D n l O=0 then foldO D n (wrV D n l) O else []
theorem fa0 {D:Nat→Dm} {n:Nat} {l:List En} {O:List Int} (h:entsErr D n l≠0):faErr D n l O=entsErr D n l∧faL D n l O=[]:=by
 have h1:faErr D n l O=entsErr D n l:=by unfold faErr;rw [if_pos h]
 exact ⟨h1,by unfold faL;rw [h1,if_neg h]⟩
theorem fa1 {D:Nat→Dm} {n:Nat} {l:List En} {O:List Int} (h:entsErr D n l=0) (h1:eachB n O=false):faErr D n l O=3∧faL D n l O=[]:=by
 have h2:faErr D n l O=3:=by unfold faErr;rw [if_neg (by simpa using h),h1];rfl
 exact ⟨h2,by unfold faL;rw [h2,if_neg (by decide)]⟩
theorem fa2 {D:Nat→Dm} {n:Nat} {l:List En} {O:List Int} (h:entsErr D n l=0) (h1:eachB n O=true):faErr D n l O=0∧faL D n l O=foldO D n (wrV D n l) O:=by
 have h2:faErr D n l O=0:=by unfold faErr;rw [if_neg (by simpa using h),h1];rfl
 exact ⟨h2,by unfold faL;rw [h2,if_pos rfl]⟩
theorem foldO_take {D:Nat→Dm} {n:Nat} {L:List (Int×Int)} {O:List Int} {k:Nat} (h:k<O.length):foldO D n L (O.take (k+1))=onceV D n (O.getD k 0).toNat (foldO D n L (O.take k)):=by
 unfold foldO
 rw [List.take_succ_eq_append_getElem h,List.foldl_append,List.getD_eq_getElem?_getD,List.getElem?_eq_getElem h]
 rfl
set_option maxHeartbeats 8000000 in
theorem fall_any (A0:Option Addr) (cap n:Nat) (D:Nat→Dm) (A:Nat→Option Addr) (C:Nat→Nat) (AE:Option Addr) (ce:Nat) (xs:List EnL) (AO:Option Addr) (cO:Nat) (O:List Int) (w:World) (hM:DimsV w A0 cap n D A C) (hE:EnsV w AE ce xs) (hO:PlAt w AO cO O) :
  Calls Tryz.prog 20 #[.agg #[.slice A0 n cap],.slice AE xs.length ce,.slice AO O.length cO] w fun e w'=>(∃ A' c',e=.returned (.tuple #[.slice A' (faL D n (lE xs) O).length c',errV (faErr D n (lE xs) O)])∧CelV w' A' c' (faL D n (lE xs) O))∧Below w.heap.size w w':=by
 have hB0:=ownOut_below w A0 n cap 24
 have h:=fcells_any A0 cap n D A C AE ce xs (ownOut w A0 n cap 24) (hM.later hB0) (hE.later hB0)
 have HB0:Hid (Below w.heap.size w (ownOut w A0 n cap 24)):=hB0
 have HM:Hid (DimsV w A0 cap n D A C):=hM
 have HO:Hid (PlAt w AO cO O):=hO
 have HBo:Hid (w.heap.size<(ownOut w A0 n cap 24).heap.size∧(ownOut w A0 n cap 24).cell? ⟨w.heap.size,0,none⟩=some (.slice A0 n cap)):=⟨by rw [ownOut_size];omega,ownOut_at ..⟩
 clear hM hE hB0 hO
 by_cases he:entsErr D n (lE xs)=0
 ·have hEs:=ens_of he
  have HEs:Hid (Ens D n (lE xs)):=hEs
  obtain ⟨hn1,hn4,hp3,hd⟩:=allErr_some hEs.right
  have HE:Hid (entsErr D n (lE xs)=0):=he
  have hn':(n:Int)≤4:=by omega
  rw [he,errV_zero,fc_ok he,wrV_len] at h
  obtain ⟨PN,hPN⟩:∃ PN,prodN D n=PN:=⟨_,rfl⟩
  have HPN:Hid (prodN D n=PN):=hPN
  rw [hPN] at hp3 h
  generalize xs.length=N at h
  clear he hEs hd hPN
  cases heb:eachB n O
  ·have HF:Hid (faErr D n (lE xs) O=3∧faL D n (lE xs) O=[]):=fa1 HE.out heb
   have hea:=fun w' (hw':Below w.heap.size w w')=>each_any AO cO O n w' hn4 (HO.out.later hw')
   rw [heb] at hea
   generalize O.length=NO at hea
   clear heb
   go_enter Tryz.func20,Tryz.ntmps20
   go_wp2_with fail
   refine h.mono ?_
   rintro e w1 ⟨⟨AC,cc,rfl,-⟩,hb1⟩
   have HB:Hid (Below w.heap.size w w1):=onB HB0.out hb1
   have c1:=(hb1.cell (p:=⟨w.heap.size,0,none⟩) HBo.out.1).trans HBo.out.2
   have hea1:=hea w1 HB.out
   clear hb1 h hea
   go_wp2_with fail
   refine hea1.mono ?_
   rintro e w2 ⟨rfl,hb2⟩
   have HB2:Hid (Below w.heap.size w w2):=onB HB.out hb2
   clear hb2 hea1 c1
   go_wp2_with fail
   go_ret2
   rw [HF.out.1,HF.out.2]
   exact ⟨⟨none,0,rfl,CelV.nil _ _ _ (by decide)⟩,HB2.out⟩
  ·have HF:Hid (faErr D n (lE xs) O=0∧faL D n (lE xs) O=foldO D n (wrV D n (lE xs)) O):=fa2 HE.out heb
   obtain ⟨hOl,hOi⟩:=each_in heb
   have HOi:Hid (∀ d∈O,∃ j:Nat,d=j∧j<n):=hOi
   have HOl:Hid (O.length=n):=hOl
   have hea:=fun w' (hw':Below w.heap.size w w')=>each_any AO cO O n w' hn4 (HO.out.later hw')
   rw [heb,hOl] at hea
   have HFin:Hid (foldO D n (wrV D n (lE xs)) (O.take n)=foldO D n (wrV D n (lE xs)) O):=by show _=_;rw [List.take_of_length_le (by rw [hOl];exact Nat.le_refl _)]
   rw [hOl]
   clear heb hOl hOi
   go_enter Tryz.func20,Tryz.ntmps20
   go_wp2_with fail
   refine h.mono ?_
   rintro e w1 ⟨⟨AC,cc,rfl,hC⟩,hb1⟩
   have HB:Hid (Below w.heap.size w w1):=onB HB0.out hb1
   have HBox:Hid (BoxN w1 w.heap.size (.slice A0 n cap)):=⟨Nat.lt_of_lt_of_le HBo.out.1 hb1.size,(hb1.cell (p:=⟨w.heap.size,0,none⟩) HBo.out.1).trans HBo.out.2⟩
   have HC:Hid (CelV w1 AC cc (wrV D n (lE xs))):=hC
   have c1:=HBox.out.2
   have hea1:=hea w1 HB.out
   clear hb1 h hea hC
   go_wp2_with fail
   refine hea1.mono ?_
   rintro e w2 ⟨rfl,hb2⟩
   have HB2:Hid (Below w.heap.size w w2):=onB HB.out hb2
   have HBox2:Hid (BoxN w2 w.heap.size (.slice A0 n cap)):=HBox.out.later hb2
   have HC2:Hid (CelV w2 AC cc (wrV D n (lE xs))):=HC.out.later hb2
   clear hb2 hea1 c1
   go_wp2_with fail
   go_loopg [8,9,30] n (fun gg s8 s9 s30 wr => ∃ (k:Nat) (Ac:Option Addr) (ac:Nat),k≤n∧gg=n-k∧s30=.int .i64 k∧s9=.nilIface∧s8=.slice Ac PN ac∧Hid (CelV wr Ac ac (foldO D n (wrV D n (lE xs)) (O.take k)))∧Below w2.heap.size w2 wr)
   case atStart=>exact ⟨0,AC,cc,Nat.zero_le _,rfl,rfl,rfl,rfl,HC2,Below.refl _ _⟩
   case round =>
    obtain ⟨k,Ac,ac,hk,rfl,rfl,rfl,rfl,HCr,hBw⟩:=hrel
    have HBw:Hid (Below w2.heap.size w2 wr):=hBw
    have HBr:Hid (Below w.heap.size w wr):=onB HB2.out hBw
    have cr:=(HBox2.out.later hBw).2
    by_cases hlt:k<n
    ·have hki:(k:Int)<(n:Int):=by omega
     have hkO:k<O.length:=by rw [HOl.out];exact hlt
     obtain ⟨hcO,h0 | ⟨bo,oo,rfl,hbo,hcell⟩⟩:=HO.out.later HBr.out
     ·rw [h0] at hkO;simp at hkO
     rw [HOl.out] at hcO
     have co:=hcell k hkO
     have hmem:O.getD k 0∈O:=by rw [List.getD_eq_getElem?_getD,List.getElem?_eq_getElem hkO];exact List.getElem_mem hkO
     obtain ⟨j,hj,hjn⟩:=HOi.out _ hmem
     have hNx:=foldO_take (D:=D) (n:=n) (L:=wrV D n (lE xs)) hkO
     rw [hj] at co hNx
     rw [show ((j:Int)).toNat=j by omega] at hNx
     obtain ⟨Lk,hLk⟩:∃ Lk,foldO D n (wrV D n (lE xs)) (O.take k)=Lk:=⟨_,rfl⟩
     have hLl:Lk.length=prodN D n:=by rw [←hLk,foldO_len,wrV_len]
     have hLg:goodL Lk:=by rw [←hLk];exact foldO_good _ (wrV_good HEs.out)
     rw [hLk] at hNx
     have HNx:Hid (foldO D n (wrV D n (lE xs)) (O.take (k+1))=onceV D n j Lk):=hNx
     have hck:chkErr D n Lk=0:=chk_ok HEs.out.right hLl hLg
     have hfo:=fonce_any A0 cap n D A C Ac ac Lk (j:Int) wr (HM.out.later HBr.out) (by rw [←hLk];exact HCr.out)
     obtain ⟨o1,o2⟩:=on2 hck hjn
     rw [o1,o2,errV_zero,hLl,show (onceV D n j Lk).length=PN from by unfold onceV;rw [once_len,hLl];exact HPN.out,HPN.out,←HNx.out] at hfo
     clear hj hmem hcell hLk hLl hLg hNx hck o1 o2 hBw
     go_wp2_with fail
     refine hfo.mono ?_
     rintro e w3 ⟨⟨A3,c3,rfl,hC3⟩,hb3⟩
     have HC3:Hid (CelV w3 A3 c3 (foldO D n (wrV D n (lE xs)) (O.take (k+1)))):=hC3
     have HB3:Hid (Below w2.heap.size w2 w3):=onB HBw.out hb3
     clear hC3 hb3 hfo
     go_wp2_with fail
     go_roundg (n-(k+1))
     case measure=>omega
     case rel=>exact ⟨k+1,A3,c3,by omega,rfl,by go_num,rfl,rfl,HC3,HB3.out⟩
    ·have hke:k=n:=by omega
     subst hke
     have HCf:Hid (CelV wr Ac ac (foldO D k (wrV D k (lE xs)) O)):=by rw [←HFin.out];exact HCr.out
     have HFl:Hid ((foldO D k (wrV D k (lE xs)) O).length=PN):=by show _=_;rw [foldO_len,wrV_len];exact HPN.out
     clear hBw
     go_wp2_with fail
     go_ret2
     rw [HF.out.1,HF.out.2,HFl.out]
     exact ⟨⟨Ac,ac,rfl,HCf.out⟩,HBr.out⟩
 ·obtain ⟨h1,h2⟩:=fa0 (O:=O) he
  have HF:Hid (faErr D n (lE xs) O=entsErr D n (lE xs)∧faL D n (lE xs) O=[]):=⟨h1,h2⟩
  have HEr:Hid (errV (entsErr D n (lE xs))=.iface 95 (.int .i64 (entsErr D n (lE xs)))):=errV_some he
  rw [errV_some he,fc_bad he] at h
  clear h1 h2 he
  generalize entsErr D n (lE xs)=ee at h HEr HF
  generalize xs.length=N at h
  generalize O.length=NO
  simp only [List.length_nil] at h
  go_enter Tryz.func20,Tryz.ntmps20
  go_wp2_with fail
  refine h.mono ?_
  rintro e w1 ⟨⟨AC,cc,rfl,-⟩,hb1⟩
  have HB:Hid (Below w.heap.size w w1):=onB HB0.out hb1
  clear hb1 h
  go_wp2_with fail
  go_ret2
  rw [HF.out.1,HF.out.2,HEr.out]
  exact ⟨⟨none,0,rfl,CelV.nil _ _ _ (by decide)⟩,HB.out⟩
end Go.Proofs.YtfgegmpoejilnaaGreatDoor
