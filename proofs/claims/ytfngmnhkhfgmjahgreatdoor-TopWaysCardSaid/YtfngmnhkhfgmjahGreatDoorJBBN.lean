/-
  The text of a tree, on plain data: it is read as its words, and so as its nodes.
-/
import Derived.Test.YtfngmnhkhfgmjahGreatDoorJBBM
namespace Go.Proofs.YtfngmnhkhfgmjahGreatDoor
def bytesOf (ts:List ByteArray):List UInt8:=ts.flatMap fun t=>t.data.toList
end Go.Proofs.YtfngmnhkhfgmjahGreatDoor
namespace Go.Proofs.YtfngmnhkhfgmjahGreatDoor
open Go.ChangeShapes Go.WideShapes Go.ChangeAt Go.RowKit
set_option maxRecDepth 20000
set_option maxHeartbeats 1000000 in
theorem index_pl (A:Option Addr) (cap:Nat) (L:List Int) (i:Int) (w:World) (hn:L.length≤12) (hL:PlAt w A cap L):Calls Tryz.prog 143 #[.slice A L.length cap,.int .i64 i] w fun e w'=>e=.returned (.int .i64 (findFrom (fun j=>L.getD j 0 == i) L.length 0))∧Below w.heap.size w w':=by
 obtain ⟨hc,h0 | ⟨b,o,rfl,hbw,hcell⟩⟩:=hL
 ·subst h0
  simp only [List.length_nil]
  go_enter Tryz.func143,Tryz.ntmps143
  go_wp2_with fail
  refine wp_loop_rounds 1 ?_
  rw [rounds_succ]
  go_wp2_with fail
  go_ret
  exact ⟨rfl,Below.refl _ _⟩
 ·have HC:Hid (∀ j,j<L.length→w.cell? ⟨b,o+j,none⟩=some (.int .i64 (L.getD j 0))):=hcell
  obtain ⟨p,hp⟩:∃ p:Nat→Bool,p=fun j=>L.getD j 0 == i:=⟨_,rfl⟩
  have HP:Hid (∀ j,p j=(L.getD j 0 == i)):=fun j=>by rw [hp]
  rw [←hp]
  generalize hnn:L.length=n at hn hc HC
  clear hcell hp hnn
  go_enter Tryz.func143,Tryz.ntmps143
  go_wp2_with fail
  go_loopg [8] n (fun g s8 wr => ∃ (k:Nat),k≤n∧g=n-k∧s8=.int .i64 k∧findFrom p (n-k) k=findFrom p n 0∧wr=w)
  case atStart=>exact ⟨0,Nat.zero_le _,rfl,rfl,rfl,rfl⟩
  case round =>
   obtain ⟨k,hk,rfl,rfl,hf,rfl⟩:=hrel
   have HF:Hid (findFrom p (n-k) k=findFrom p n 0):=hf
   clear hf
   by_cases hlt:k<n
   ·have hki:(k:Int)<(n:Int):=by omega
    have hcx:=HC.out k hlt
    have hsk:n-k=(n-(k+1))+1:=by omega
    have hn':(n:Int)≤12:=by omega
    have hpk:=HP.out k
    have HSK:Hid (n-k=(n-(k+1))+1):=hsk
    generalize L.getD k 0=x at hcx hpk
    clear hsk
    cases hb:p k
    ·have HK:Hid (p k=false):=hb
     rw [hb] at hpk
     have hx:(i == x)=false:=by
      have h1:x≠i:=by simpa using hpk.symm
      simpa using fun h:i=x=>h1 h.symm
     clear hb hpk
     go_wp2_with fail
     go_roundg (n-(k+1))
     case measure=>omega
     case rel=>exact ⟨k+1,by omega,rfl,by go_num,by rw [←HF.out,HSK.out,findFrom_miss _ HK.out],rfl⟩
    ·have HK:Hid (p k=true):=hb
     rw [hb] at hpk
     have hx:(i == x)=true:=by
      have h1:x=i:=by simpa using hpk.symm
      simpa using h1.symm
     clear hb hpk
     go_wp2_with fail
     go_ret
     exact ⟨by rw [←HF.out,HSK.out,findFrom_hit _ HK.out];rfl,Below.refl _ _⟩
   ·have hke:k=n:=by omega
    subst hke
    go_wp2_with fail
    go_ret
    exact ⟨by rw [←HF.out,Nat.sub_self];rfl,Below.refl _ _⟩
theorem contains_pl (A:Option Addr) (cap:Nat) (L:List Int) (i:Int) (w:World) (hn:L.length≤12) (hL:PlAt w A cap L):Calls Tryz.prog 95 #[.slice A L.length cap,.int .i64 i] w fun e w'=>e=.returned (.bool (inB L i))∧Below w.heap.size w w':=by
 have h:=index_pl A cap L i w hn hL
 have HI:Hid (decide (0≤findFrom (fun j=>L.getD j 0 == i) L.length 0)=inB L i):=find_in L i
 generalize findFrom (fun j=>L.getD j 0 == i) L.length 0=f at h HI
 generalize L.length=n at h
 clear hL hn
 go_enter Tryz.func95,Tryz.ntmps95
 go_wp2_with fail
 refine h.mono ?_
 rintro e w1 ⟨rfl,hb1⟩
 go_wp2_with fail
 go_ret
 exact ⟨by rw [←HI.out];rfl,hb1⟩
def missB (O:List Int) (i:Nat):Bool := !(inB O (i:Int))
def eachB (n:Nat) (O:List Int):Bool:=decide (O.length=n) && decide (findFrom (missB O) n 0<0)
theorem pig:∀ (R O:List Int),R.Nodup→(∀ x∈R,x∈O)→O.length≤R.length→O.Perm R
 | [],O,_,_,hl=>by
  have:O=[]:=List.eq_nil_of_length_eq_zero (by simpa using hl)
  rw [this]
 | a :: R,O,hn,hs,hl=>by
  have ha:a∈O:=hs a (List.mem_cons_self ..)
  have h1:=List.nodup_cons.1 hn
  have h2:=List.length_erase_of_mem ha
  have h3:(O.erase a).Perm R:=pig R (O.erase a) h1.2 (fun x hx=>(List.mem_erase_of_ne (fun e=>h1.1 (by rw [←e];exact hx))).2 (hs x (List.mem_cons_of_mem _ hx))) (by simp only [List.length_cons] at hl;omega)
  exact (List.perm_cons_erase ha).trans (h3.cons a)
def rangeI (n:Nat):List Int:=(List.range n).map fun j=>((j:Nat):Int)
theorem rangeI_nodup (n:Nat):(rangeI n).Nodup:=by
 unfold rangeI
 induction n with
 | zero=>simp
 | succ n ih =>
  rw [List.range_succ,List.map_append,List.nodup_append]
  refine ⟨ih,by simp,fun a ha b hb e=>?_⟩
  simp only [List.map_cons,List.map_nil,List.mem_singleton] at hb
  simp only [List.mem_map,List.mem_range] at ha
  obtain ⟨j,hj,rfl⟩:=ha
  omega
theorem each_perm {n:Nat} {O:List Int} (h:eachB n O=true):O.Perm (rangeI n):=by
 unfold eachB at h
 rw [Bool.and_eq_true] at h
 have h1:O.length=n:=of_decide_eq_true h.1
 have h2:=of_decide_eq_true h.2
 refine pig _ _ (rangeI_nodup n) (fun x hx=>?_) (by rw [h1];simp [rangeI])
 simp only [rangeI,List.mem_map,List.mem_range] at hx
 obtain ⟨j,hj,rfl⟩:=hx
 have:=find_none_all _ _ h2 j (Nat.zero_le _) (by omega)
 unfold missB inB at this
 simpa using this
theorem each_in {n:Nat} {O:List Int} (h:eachB n O=true):O.length=n∧∀ d∈O,∃ j:Nat,d=j∧j<n:=by
 have hp:=each_perm h
 refine ⟨by rw [hp.length_eq];simp [rangeI],fun d hd=>?_⟩
 have:=hp.mem_iff.1 hd
 simp only [rangeI,List.mem_map,List.mem_range] at this
 obtain ⟨j,hj,rfl⟩:=this
 exact ⟨j,rfl,hj⟩
set_option maxHeartbeats 2000000 in
theorem each_any (AO:Option Addr) (cO:Nat) (O:List Int) (n:Nat) (w:World) (hn:n≤4) (hO:PlAt w AO cO O):Calls Tryz.prog 51 #[.slice AO O.length cO,.int .i64 n] w fun e w'=>e=.returned (.bool (eachB n O))∧Below w.heap.size w w':=by
 have hn':(n:Int)≤4:=by omega
 by_cases hl:O.length=n
 ·have HR:Hid (eachB n O=decide (findFrom (missB O) n 0<0)):=by show _=_;unfold eachB;rw [decide_eq_true hl,Bool.true_and]
  have hne:((n:Int) != (n:Int))=false:=by simp
  have HO:Hid (PlAt w AO cO O):=hO
  have HL:Hid (O.length=n):=hl
  rw [hl]
  clear hO hl
  go_enter Tryz.func51,Tryz.ntmps51
  go_wp2_with fail
  go_loopg [11] n (fun g s11 wr => ∃ (k:Nat),k≤n∧g=n-k∧s11=.int .i64 k∧Hid (findFrom (missB O) (n-k) k=findFrom (missB O) n 0)∧Below w.heap.size w wr)
  case atStart=>exact ⟨0,Nat.zero_le _,rfl,rfl,(rfl:findFrom (missB O) (n-0) 0=findFrom (missB O) n 0),Below.refl _ _⟩
  case round =>
   obtain ⟨k,hk,rfl,rfl,HF,hBw⟩:=hrel
   have HW:Hid (Below w.heap.size w wr):=hBw
   by_cases hlt:k<n
   ·have hki:(k:Int)<(n:Int):=by omega
    have hco:=contains_pl AO cO O (k:Int) wr (by rw [HL.out];omega) (HO.out.later hBw)
    rw [HL.out] at hco
    have HSK:Hid (n-k=(n-(k+1))+1):=by show _=_;omega
    have hms:missB O k = !(inB O (k:Int)):=rfl
    generalize inB O (k:Int)=t at hco hms
    clear hBw
    cases t
    ·have HK:Hid (missB O k=true):=hms
     clear hms
     go_wp2_with fail
     refine hco.mono ?_
     rintro e w1 ⟨rfl,hb1⟩
     go_wp2_with fail
     go_ret
     refine ⟨?_,onB HW.out hb1⟩
     rw [HR.out,←HF.out,HSK.out,findFrom_hit _ HK.out,decide_eq_false (by omega)]
     rfl
    ·have HK:Hid (missB O k=false):=hms
     clear hms
     go_wp2_with fail
     refine hco.mono ?_
     rintro e w1 ⟨rfl,hb1⟩
     go_wp2_with fail
     go_roundg (n-(k+1))
     case measure=>omega
     case rel=>exact ⟨k+1,by omega,rfl,by go_num,(by rw [←HF.out,HSK.out,findFrom_miss _ HK.out]:findFrom (missB O) (n-(k+1)) (k+1)=findFrom (missB O) n 0),onB HW.out hb1⟩
   ·have hke:k=n:=by omega
    subst hke
    clear hBw
    go_wp2_with fail
    go_ret
    refine ⟨?_,HW.out⟩
    rw [HR.out,←HF.out,Nat.sub_self]
    rfl
 ·have HR:Hid (eachB n O=false):=by show _=_;unfold eachB;rw [decide_eq_false hl,Bool.false_and]
  have hne:((O.length:Int) != (n:Int))=true:=by simp;omega
  generalize O.length=N at hne
  clear hO hl
  go_enter Tryz.func51,Tryz.ntmps51
  go_wp2_with fail
  go_ret
  exact ⟨by rw [HR.out];rfl,Below.refl _ _⟩
def foldO (D:Nat→Dm) (n:Nat) (L:List (Int×Int)) (O:List Int):List (Int×Int):=O.foldl (fun L d=>onceV D n d.toNat L) L
theorem foldO_len (D:Nat→Dm) (n:Nat):∀ (O:List Int) (L:List (Int×Int)),(foldO D n L O).length=L.length
 | [],_=>rfl
 | d :: r,L=>by
  have:=foldO_len D n r (onceV D n d.toNat L)
  unfold foldO at this ⊢
  rw [List.foldl_cons,this]
  exact once_len ..
theorem foldO_good {D:Nat→Dm} {n:Nat}:∀ (O:List Int) {L:List (Int×Int)},goodL L→goodL (foldO D n L O)
 | [],_,h=>h
 | d :: r,L,h=>by
  have:=foldO_good r (L:=onceV D n d.toNat L) (D:=D) (n:=n) (once_good h _)
  unfold foldO at this ⊢
  rw [List.foldl_cons]
  exact this
def faErr (D:Nat→Dm) (n:Nat) (l:List En) (O:List Int):Int:=if entsErr D n l≠0 then entsErr D n l else if eachB n O=true then 0 else 3
def faL (D:Nat→Dm) (n:Nat) (l:List En) (O:List Int):List (Int×Int):=if faErr D n l O=0 then foldO D n (wrV D n l) O else []
theorem fa0 {D:Nat→Dm} {n:Nat} {l:List En} {O:List Int} (h:entsErr D n l≠0):faErr D n l O=entsErr D n l∧faL D n l O=[]:=by
 have h1:faErr D n l O=entsErr D n l:=by unfold faErr;rw [if_pos h]
 exact ⟨h1,by unfold faL;rw [h1,if_neg h]⟩
theorem fa1 {D:Nat→Dm} {n:Nat} {l:List En} {O:List Int} (h:entsErr D n l=0) (h1:eachB n O=false):faErr D n l O=3∧faL D n l O=[]:=by
 have h2:faErr D n l O=3:=by unfold faErr;rw [if_neg (by simpa using h),h1];rfl
 exact ⟨h2,by unfold faL;rw [h2,if_neg (by decide)]⟩
theorem fa2 {D:Nat→Dm} {n:Nat} {l:List En} {O:List Int} (h:entsErr D n l=0) (h1:eachB n O=true):faErr D n l O=0∧faL D n l O=foldO D n (wrV D n l) O:=by
 have h2:faErr D n l O=0:=by unfold faErr;rw [if_neg (by simpa using h),h1];rfl
 exact ⟨h2,by unfold faL;rw [h2,if_pos rfl]⟩
theorem foldO_take {D:Nat→Dm} {n:Nat} {L:List (Int×Int)} {O:List Int} {k:Nat} (h:k<O.length):foldO D n L (O.take (k+1))=onceV D n (O.getD k 0).toNat (foldO D n L (O.take k)):=by
 unfold foldO
 rw [List.take_succ_eq_append_getElem h,List.foldl_append,List.getD_eq_getElem?_getD,List.getElem?_eq_getElem h]
 rfl
set_option maxHeartbeats 8000000 in
theorem fall_any (A0:Option Addr) (cap n:Nat) (D:Nat→Dm) (A:Nat→Option Addr) (C:Nat→Nat) (AE:Option Addr) (ce:Nat) (xs:List EnL) (AO:Option Addr) (cO:Nat) (O:List Int) (w:World) (hM:DimsV w A0 cap n D A C) (hE:EnsV w AE ce xs) (hO:PlAt w AO cO O) :
  Calls Tryz.prog 26 #[.agg #[.slice A0 n cap],.slice AE xs.length ce,.slice AO O.length cO] w fun e w'=>(∃ A' c',e=.returned (.tuple #[.slice A' (faL D n (lE xs) O).length c',errV (faErr D n (lE xs) O)])∧CelV w' A' c' (faL D n (lE xs) O))∧Below w.heap.size w w':=by
 have hB0:=ownOut_below w A0 n cap 30
 have h:=fcells_any A0 cap n D A C AE ce xs (ownOut w A0 n cap 30) (hM.later hB0) (hE.later hB0)
 have HB0:Hid (Below w.heap.size w (ownOut w A0 n cap 30)):=hB0
 have HM:Hid (DimsV w A0 cap n D A C):=hM
 have HO:Hid (PlAt w AO cO O):=hO
 have HBo:Hid (w.heap.size<(ownOut w A0 n cap 30).heap.size∧(ownOut w A0 n cap 30).cell? ⟨w.heap.size,0,none⟩=some (.slice A0 n cap)):=⟨by rw [ownOut_size];omega,ownOut_at ..⟩
 clear hM hE hB0 hO
 by_cases he:entsErr D n (lE xs)=0
 ·have hEs:=ens_of he
  have HEs:Hid (Ens D n (lE xs)):=hEs
  obtain ⟨hn1,hn4,hp3,hd⟩:=allErr_some hEs.right
  have HE:Hid (entsErr D n (lE xs)=0):=he
  have hn':(n:Int)≤4:=by omega
  rw [he,errV_zero,fc_ok he,wrV_len] at h
  obtain ⟨PN,hPN⟩:∃ PN,prodN D n=PN:=⟨_,rfl⟩
  have HPN:Hid (prodN D n=PN):=hPN
  rw [hPN] at hp3 h
  generalize xs.length=N at h
  clear he hEs hd hPN
  cases heb:eachB n O
  ·have HF:Hid (faErr D n (lE xs) O=3∧faL D n (lE xs) O=[]):=fa1 HE.out heb
   have hea:=fun w' (hw':Below w.heap.size w w')=>each_any AO cO O n w' hn4 (HO.out.later hw')
   rw [heb] at hea
   generalize O.length=NO at hea
   clear heb
   go_enter Tryz.func26,Tryz.ntmps26
   go_wp2_with fail
   refine h.mono ?_
   rintro e w1 ⟨⟨AC,cc,rfl,-⟩,hb1⟩
   have HB:Hid (Below w.heap.size w w1):=onB HB0.out hb1
   have c1:=(hb1.cell (p:=⟨w.heap.size,0,none⟩) HBo.out.1).trans HBo.out.2
   have hea1:=hea w1 HB.out
   clear hb1 h hea
   go_wp2_with fail
   refine hea1.mono ?_
   rintro e w2 ⟨rfl,hb2⟩
   have HB2:Hid (Below w.heap.size w w2):=onB HB.out hb2
   clear hb2 hea1 c1
   go_wp2_with fail
   go_ret2
   rw [HF.out.1,HF.out.2]
   exact ⟨⟨none,0,rfl,CelV.nil _ _ _ (by decide)⟩,HB2.out⟩
  ·have HF:Hid (faErr D n (lE xs) O=0∧faL D n (lE xs) O=foldO D n (wrV D n (lE xs)) O):=fa2 HE.out heb
   obtain ⟨hOl,hOi⟩:=each_in heb
   have HOi:Hid (∀ d∈O,∃ j:Nat,d=j∧j<n):=hOi
   have HOl:Hid (O.length=n):=hOl
   have hea:=fun w' (hw':Below w.heap.size w w')=>each_any AO cO O n w' hn4 (HO.out.later hw')
   rw [heb,hOl] at hea
   have HFin:Hid (foldO D n (wrV D n (lE xs)) (O.take n)=foldO D n (wrV D n (lE xs)) O):=by show _=_;rw [List.take_of_length_le (by rw [hOl];exact Nat.le_refl _)]
   rw [hOl]
   clear heb hOl hOi
   go_enter Tryz.func26,Tryz.ntmps26
   go_wp2_with fail
   refine h.mono ?_
   rintro e w1 ⟨⟨AC,cc,rfl,hC⟩,hb1⟩
   have HB:Hid (Below w.heap.size w w1):=onB HB0.out hb1
   have HBox:Hid (BoxN w1 w.heap.size (.slice A0 n cap)):=⟨Nat.lt_of_lt_of_le HBo.out.1 hb1.size,(hb1.cell (p:=⟨w.heap.size,0,none⟩) HBo.out.1).trans HBo.out.2⟩
   have HC:Hid (CelV w1 AC cc (wrV D n (lE xs))):=hC
   have c1:=HBox.out.2
   have hea1:=hea w1 HB.out
   clear hb1 h hea hC
   go_wp2_with fail
   refine hea1.mono ?_
   rintro e w2 ⟨rfl,hb2⟩
   have HB2:Hid (Below w.heap.size w w2):=onB HB.out hb2
   have HBox2:Hid (BoxN w2 w.heap.size (.slice A0 n cap)):=HBox.out.later hb2
   have HC2:Hid (CelV w2 AC cc (wrV D n (lE xs))):=HC.out.later hb2
   clear hb2 hea1 c1
   go_wp2_with fail
   go_loopg [8,9,30] n (fun gg s8 s9 s30 wr => ∃ (k:Nat) (Ac:Option Addr) (ac:Nat),k≤n∧gg=n-k∧s30=.int .i64 k∧s9=.nilIface∧s8=.slice Ac PN ac∧Hid (CelV wr Ac ac (foldO D n (wrV D n (lE xs)) (O.take k)))∧Below w2.heap.size w2 wr)
   case atStart=>exact ⟨0,AC,cc,Nat.zero_le _,rfl,rfl,rfl,rfl,HC2,Below.refl _ _⟩
   case round =>
    obtain ⟨k,Ac,ac,hk,rfl,rfl,rfl,rfl,HCr,hBw⟩:=hrel
    have HBw:Hid (Below w2.heap.size w2 wr):=hBw
    have HBr:Hid (Below w.heap.size w wr):=onB HB2.out hBw
    have cr:=(HBox2.out.later hBw).2
    by_cases hlt:k<n
    ·have hki:(k:Int)<(n:Int):=by omega
     have hkO:k<O.length:=by rw [HOl.out];exact hlt
     obtain ⟨hcO,h0 | ⟨bo,oo,rfl,hbo,hcell⟩⟩:=HO.out.later HBr.out
     ·rw [h0] at hkO;simp at hkO
     rw [HOl.out] at hcO
     have co:=hcell k hkO
     have hmem:O.getD k 0∈O:=by rw [List.getD_eq_getElem?_getD,List.getElem?_eq_getElem hkO];exact List.getElem_mem hkO
     obtain ⟨j,hj,hjn⟩:=HOi.out _ hmem
     have hNx:=foldO_take (D:=D) (n:=n) (L:=wrV D n (lE xs)) hkO
     rw [hj] at co hNx
     rw [show ((j:Int)).toNat=j by omega] at hNx
     obtain ⟨Lk,hLk⟩:∃ Lk,foldO D n (wrV D n (lE xs)) (O.take k)=Lk:=⟨_,rfl⟩
     have hLl:Lk.length=prodN D n:=by rw [←hLk,foldO_len,wrV_len]
     have hLg:goodL Lk:=by rw [←hLk];exact foldO_good _ (wrV_good HEs.out)
     rw [hLk] at hNx
     have HNx:Hid (foldO D n (wrV D n (lE xs)) (O.take (k+1))=onceV D n j Lk):=hNx
     have hck:chkErr D n Lk=0:=chk_ok HEs.out.right hLl hLg
     have hfo:=fonce_any A0 cap n D A C Ac ac Lk (j:Int) wr (HM.out.later HBr.out) (by rw [←hLk];exact HCr.out)
     obtain ⟨o1,o2⟩:=on2 hck hjn
     rw [o1,o2,errV_zero,hLl,show (onceV D n j Lk).length=PN from by unfold onceV;rw [once_len,hLl];exact HPN.out,HPN.out,←HNx.out] at hfo
     clear hj hmem hcell hLk hLl hLg hNx hck o1 o2 hBw
     go_wp2_with fail
     refine hfo.mono ?_
     rintro e w3 ⟨⟨A3,c3,rfl,hC3⟩,hb3⟩
     have HC3:Hid (CelV w3 A3 c3 (foldO D n (wrV D n (lE xs)) (O.take (k+1)))):=hC3
     have HB3:Hid (Below w2.heap.size w2 w3):=onB HBw.out hb3
     clear hC3 hb3 hfo
     go_wp2_with fail
     go_roundg (n-(k+1))
     case measure=>omega
     case rel=>exact ⟨k+1,A3,c3,by omega,rfl,by go_num,rfl,rfl,HC3,HB3.out⟩
    ·have hke:k=n:=by omega
     subst hke
     have HCf:Hid (CelV wr Ac ac (foldO D k (wrV D k (lE xs)) O)):=by rw [←HFin.out];exact HCr.out
     have HFl:Hid ((foldO D k (wrV D k (lE xs)) O).length=PN):=by show _=_;rw [foldO_len,wrV_len];exact HPN.out
     clear hBw
     go_wp2_with fail
     go_ret2
     rw [HF.out.1,HF.out.2,HFl.out]
     exact ⟨⟨Ac,ac,rfl,HCf.out⟩,HBr.out⟩
 ·obtain ⟨h1,h2⟩:=fa0 (O:=O) he
  have HF:Hid (faErr D n (lE xs) O=entsErr D n (lE xs)∧faL D n (lE xs) O=[]):=⟨h1,h2⟩
  have HEr:Hid (errV (entsErr D n (lE xs))=.iface 86 (.int .i64 (entsErr D n (lE xs)))):=errV_some he
  rw [errV_some he,fc_bad he] at h
  clear h1 h2 he
  generalize entsErr D n (lE xs)=ee at h HEr HF
  generalize xs.length=N at h
  generalize O.length=NO
  simp only [List.length_nil] at h
  go_enter Tryz.func26,Tryz.ntmps26
  go_wp2_with fail
  refine h.mono ?_
  rintro e w1 ⟨⟨AC,cc,rfl,-⟩,hb1⟩
  have HB:Hid (Below w.heap.size w w1):=onB HB0.out hb1
  clear hb1 h
  go_wp2_with fail
  go_ret2
  rw [HF.out.1,HF.out.2,HEr.out]
  exact ⟨⟨none,0,rfl,CelV.nil _ _ _ (by decide)⟩,HB.out⟩
def FrC (gC gT:Nat) (w w':World):Prop:=Kept w.heap.size (fun k=>k=gC∨k=gT) w w'
theorem FrC.refl (gC gT:Nat) (w:World):FrC gC gT w w:=Kept.refl _ _ _
theorem FrC.trans {gC gT:Nat} {w w1 w2:World} (h:FrC gC gT w w1) (k:FrC gC gT w1 w2):FrC gC gT w w2:=⟨k.os.trans h.os,k.tape.trans h.tape,k.output.trans h.output,Nat.le_trans h.size k.size,fun i hi hx=>(k.block i (Nat.lt_of_lt_of_le hi h.size) hx).trans (h.block i hi hx)⟩
theorem frC_below {gC gT:Nat} {w w':World} (h:Below w.heap.size w w'):FrC gC gT w w':=kept_below h (Nat.le_refl _)
theorem frC_drew {gC gT:Nat} {w w':World} (h:FrC gC gT w w'):FrC gC gT w w'.drew:=⟨h.os,h.tape,h.output,h.size,h.block⟩
theorem intT_frC {gC gT:Nat} {w w':World} {A:Option Addr} {c:Nat} {L:List Int} (h:IntT w A c L) (k:FrC gC gT w w') (h1:∀ cs fr,w.heap[gC]?≠some (.cells cs 3 fr)) (h2:∀ cs fr,w.heap[gT]?≠some (.cells cs 3 fr)):IntT w' A c L :=
 h.keep fun b cs fr hb=>k.block b (Array.getElem?_eq_some_iff.1 hb).1 (by
  rintro (e | e)
  ·exact h1 cs fr (by rw [←e];exact hb)
  ·exact h2 cs fr (by rw [←e];exact hb))
def StC (wB:World) (qc qp n gC cC gT:Nat) (D:Nat→Dm) (inp:List Int→Int×Int) (f:Nat→Bool) (w:World):Prop :=
 Below wB.heap.size wB w∧w.heap[qc]?=some (.cells #[.pointer (some ⟨qp,0,none⟩),.slice (some ⟨gC,0,none⟩) (prodN D n) cC,.slice (some ⟨gT,0,none⟩) (prodN D n) (prodN D n)] 106 (0,0))∧∃ L,CelB w gC L∧L.length=prodN D n∧BolB w gT (prodN D n) f∧∀ j,j<prodN D n→(f j=true→L.getD j noC=solV D n inp (placeL D n j))∧(f j=false→L.getD j noC=inp (placeL D n j))
structure CtxA (wB:World) (qc qp g n gC cC gT:Nat) (D:Nat→Dm) (X:Nat→AL) (inp:List Int→Int×Int):Prop where
 hE:(allErr D n).2.2=0
 hR:AllR D n
 hA:PlanV wB qp g n D X
 hg:∀ p,goodC (inp p)
 hq:wB.heap.size≤qc
 hC:wB.heap.size≤gC
 hT:wB.heap.size≤gT
 hcc:prodN D n≤cC
 hc63:cC≤3000
section
variable {wB:World} {qc qp g n gC cC gT:Nat} {D:Nat→Dm} {X:Nat→AL} {inp:List Int→Int×Int} {f:Nat→Bool}
theorem StC.lts {w:World} (h:StC wB qc qp n gC cC gT D inp f w):qc<w.heap.size∧gC<w.heap.size∧gT<w.heap.size∧wB.heap.size≤w.heap.size:=by
 obtain ⟨h1,h2,L,h3,-,h4,-⟩:=h
 exact ⟨(Array.getElem?_eq_some_iff.1 h2).1,h3.lt,h4.lt,h1.size⟩
theorem StC.ne {w:World} (h:StC wB qc qp n gC cC gT D inp f w):qc≠gC∧qc≠gT∧gC≠gT:=by
 obtain ⟨-,h2,L,⟨cur,h3,-⟩,-,h4,-⟩:=h
 unfold BolB at h4
 refine ⟨fun e=>?_,fun e=>?_,fun e=>?_⟩
 ·rw [e,h3] at h2;simp at h2
 ·rw [e,h4] at h2;simp at h2
 ·rw [e,h4] at h3;simp at h3
theorem StC.offI {w:World} (h:StC wB qc qp n gC cC gT D inp f w):(∀ cs fr,w.heap[gC]?≠some (.cells cs 3 fr))∧∀ cs fr,w.heap[gT]?≠some (.cells cs 3 fr):=by
 obtain ⟨-,-,L,⟨cur,h3,-⟩,-,h4,-⟩:=h
 unfold BolB at h4
 refine ⟨fun cs fr e=>?_,fun cs fr e=>?_⟩
 ·rw [h3] at e;simp at e
 ·rw [h4] at e;simp at e
theorem StC.next {w0 w1 w2:World} {f0:Nat→Bool} (h0:StC wB qc qp n gC cC gT D inp f0 w0) (h:StC wB qc qp n gC cC gT D inp f w1) (hB:Below w0.heap.size w1 w2):StC wB qc qp n gC cC gT D inp f w2:=by
 obtain ⟨l1,l2,l3,l4⟩:=h0.lts
 obtain ⟨h1,h2,L,h3,h5,h4,h6⟩:=h
 exact ⟨⟨hB.os.trans h1.os,hB.tape.trans h1.tape,hB.output.trans h1.output,Nat.le_trans h1.size hB.size,fun i hi=>(hB.block i (by omega)).trans (h1.block i hi)⟩,(hB.block qc l1).trans h2,L,h3.same (hB.block gC l2),h5,(hB.block gT l3).trans h4,h6⟩
theorem StC.drew {w:World} (h:StC wB qc qp n gC cC gT D inp f w):StC wB qc qp n gC cC gT D inp f w.drew:=h.next h (below_drewN (Below.refl _ _) 1)
theorem StC.cells {w:World} (h:StC wB qc qp n gC cC gT D inp f w):w.cell? ⟨qc,0,none⟩=some (.pointer (some ⟨qp,0,none⟩))∧w.cell? ⟨qc,1,none⟩=some (.slice (some ⟨gC,0,none⟩) (prodN D n) cC)∧w.cell? ⟨qc,2,none⟩=some (.slice (some ⟨gT,0,none⟩) (prodN D n) (prodN D n)):=by
 obtain ⟨-,hq,-⟩:=h
 exact ⟨by simp [World.cell?,hq],by simp [World.cell?,hq],by simp [World.cell?,hq]⟩
theorem StC.put {w:World} (h:StC wB qc qp n gC cC gT D inp f w) {x:Nat} (hx:x<prodN D n) {ra rb:Int} (hv:solV D n inp (placeL D n x)=(ra,rb)) (h1:wB.heap.size≤gC) (h2:wB.heap.size≤gT):StC wB qc qp n gC cC gT D inp (fun j=>if j=x then true else f j) (((w.setCell ⟨gC,x*2,none⟩ (.int .i64 ra)).setCell ⟨gC,x*2+1,none⟩ (.int .i64 rb)).setCell ⟨gT,x,none⟩ (.bool true)):=by
 obtain ⟨n1,n2,n3⟩:=h.ne
 obtain ⟨hB,hq,L,hC,hL,hT,hI⟩:=h
 refine ⟨below_set (below_set (below_set hB h1) h1) h2,?_,L.set x (ra,rb),?_,by rw [List.length_set];exact hL,?_,fun j hj=>?_⟩
 ·rw [setCell_off _ _ _ _ _ n2,setCell_off _ _ _ _ _ n1,setCell_off _ _ _ _ _ n1]
  exact hq
 ·exact (hC.set (by omega) ra rb).same (setCell_off _ _ _ _ _ n3)
 ·refine BolB.set (f:=f) ?_ fun j _=>rfl
  unfold BolB at hT ⊢
  rw [setCell_off _ _ _ _ _ n3.symm,setCell_off _ _ _ _ _ n3.symm]
  exact hT
 ·by_cases e:j=x
  ·subst e
   refine ⟨fun _=>?_,fun h=>by simp at h⟩
   rw [List.getD_eq_getElem?_getD,List.getElem?_set_self (by omega)]
   exact hv.symm
  ·simp only [if_neg e]
   rw [List.getD_eq_getElem?_getD,List.getElem?_set_ne (fun h=>e h.symm),←List.getD_eq_getElem?_getD]
   exact hI j hj
theorem frC_put {w y:World} {x:Nat} {a b c:Value} (h:FrC gC gT w y):FrC gC gT w (((y.setCell ⟨gC,x*2,none⟩ a).setCell ⟨gC,x*2+1,none⟩ b).setCell ⟨gT,x,none⟩ c):=⟨h.os,h.tape,h.output,by simp only [World.size_setCell];exact h.size,fun i hi hx=>by
 rw [setCell_off _ _ _ _ _ (fun e=>hx (Or.inr e)),setCell_off _ _ _ _ _ (fun e=>hx (Or.inl e)),setCell_off _ _ _ _ _ (fun e=>hx (Or.inl e))]
 exact h.block i hi hx⟩
theorem nds_near (hX:CtxA wB qc qp g n gC cC gT D X inp) {x:Nat} (hx:x<prodN D n) {z:Int} (hz:z∈ndsX D n x):∃ y:Nat,z=(y:Int)∧y<prodN D n∧msrTo D (placeL D n y) n<msrTo D (placeL D n x) n:=by
 have hP:=placeL_in (D:=D) (n:=n) (x:=x) hX.hE
 rcases by_in D (placeL D n x) n with h | ⟨b,h,hb⟩
 ·rw [nds_leaf (by omega)] at hz;cases hz
 ·have hp0:=hP.lo b hb
  have hp1:=hP.hi b hb
  have hm:((placeL D n x).getD b 0).toNat<(D b).n:=by omega
  rw [nds_by h,List.mem_map] at hz
  obtain ⟨k,hk,rfl⟩:=hz
  have hk1:=(neW_mem (hX.hR b hb) hm k).1 hk
  have hk2:=mNd_in hk1
  obtain ⟨y,e1,e2,e3,-⟩:=putN_at hX.hE hb hx hk2.1 hk2.2
  refine ⟨y,e1,e2,?_⟩
  rw [e3]
  have hrk:=rk_less (hX.hR b hb) hm hk1
  rw [Int.toNat_of_nonneg hp0] at hrk
  exact (msr_less (by rw [hP.len];exact hb) hrk n).2 hb
end
section
variable {wB:World} {qc qp g n gC cC gT:Nat} {D:Nat→Dm} {X:Nat→AL} {inp:List Int→Int×Int}
set_option maxHeartbeats 4000000 in
theorem ctell_told (hX:CtxA wB qc qp g n gC cC gT D X inp) (x:Nat) (f:Nat→Bool) (w:World) (hx:x<prodN D n) (hS:StC wB qc qp n gC cC gT D inp f w) (hf:f x=true) :
  Calls Tryz.prog 49 #[.pointer (some ⟨qc,0,none⟩),.int .i64 x] w fun e w'=>e=.returned .nilIface∧w'=w:=by
 obtain ⟨-,-,hp3,-⟩:=allErr_some hX.hE
 obtain ⟨l1,l2,l3,-⟩:=hS.lts
 obtain ⟨c0,c1,c2⟩:=hS.cells
 obtain ⟨-,-,L,-,-,hT,-⟩:=hS
 have ct:=hT.cell hx
 rw [hf] at ct
 generalize prodN D n=N at *
 have hNI:(N:Int)≤3000:=by omega
 have hxI:(x:Int)<(N:Int):=by omega
 clear hX hT hf
 go_enter Tryz.func49,Tryz.ntmps49
 go_wp2_with fail
 go_ret
 exact ⟨rfl,rfl⟩
set_option maxHeartbeats 16000000 in
theorem ctell_new (hX:CtxA wB qc qp g n gC cC gT D X inp) (x:Nat) (f:Nat→Bool) (w:World) (hx:x<prodN D n) (hS:StC wB qc qp n gC cC gT D inp f w) (hf:f x=false)
  (ih:∀ (y:Nat) (f1:Nat→Bool) (w1:World),y<prodN D n→msrTo D (placeL D n y) n<msrTo D (placeL D n x) n→StC wB qc qp n gC cC gT D inp f1 w1→Calls Tryz.prog 49 #[.pointer (some ⟨qc,0,none⟩),.int .i64 y] w1 fun e w2=>e=.returned .nilIface∧∃ f2,StC wB qc qp n gC cC gT D inp f2 w2∧(∀ j,f1 j=true→f2 j=true)∧f2 y=true∧FrC gC gT w1 w2) :
  Calls Tryz.prog 49 #[.pointer (some ⟨qc,0,none⟩),.int .i64 x] w fun e w'=>e=.returned .nilIface∧∃ f2,StC wB qc qp n gC cC gT D inp f2 w'∧(∀ j,f j=true→f2 j=true)∧f2 x=true∧FrC gC gT w w':=by
 obtain ⟨hn1,hn4,hp3,hd⟩:=allErr_some hX.hE
 obtain ⟨l1,l2,l3,-⟩:=hS.lts
 obtain ⟨c0,c1,c2⟩:=hS.cells
 have HX:Hid (CtxA wB qc qp g n gC cC gT D X inp):=hX
 have HS:Hid (StC wB qc qp n gC cC gT D inp f w):=hS
 have HIh:Hid (∀ (y:Nat) (f1:Nat→Bool) (w1:World),y<prodN D n→msrTo D (placeL D n y) n<msrTo D (placeL D n x) n→StC wB qc qp n gC cC gT D inp f1 w1→Calls Tryz.prog 49 #[.pointer (some ⟨qc,0,none⟩),.int .i64 y] w1 fun e w2=>e=.returned .nilIface∧∃ f2,StC wB qc qp n gC cC gT D inp f2 w2∧(∀ j,f1 j=true→f2 j=true)∧f2 y=true∧FrC gC gT w1 w2):=ih
 have hnd:=pneeds_any qp g n D X x w hX.hR hX.hE hx (hX.hA.later hS.1)
 obtain ⟨-,-,L0,-,-,hT0,-⟩:=id hS
 have ct:=hT0.cell hx
 rw [hf] at ct
 have HXx:Hid (x<prodN D n):=hx
 have hcc:=hX.hcc
 have hc63:=hX.hc63
 obtain ⟨N,hN⟩:∃ N,prodN D n=N:=⟨_,rfl⟩
 have HN:Hid (prodN D n=N):=hN
 rw [hN] at hx hp3 c1 c2 hcc
 have hNI:(N:Int)≤3000:=by omega
 have hxI:(x:Int)<(N:Int):=by omega
 have hcI:(N:Int)≤(cC:Int):=by omega
 clear hX hS hT0 hf ih hd hN
 go_enter Tryz.func49,Tryz.ntmps49
 go_wp2_with fail
 refine hnd.mono ?_
 rintro e w2 ⟨⟨A2,c2',T,rfl,hI2,hT2,hM2,-⟩,hb2⟩
 have HB2:Hid (Below w.heap.size w w2):=hb2
 have HI2:Hid (IntT w2 A2 c2' T):=hI2
 have HM2:Hid (∀ z,z∈T↔z∈ndsX D n x):=hM2
 have hl12:=hT2.2.1
 obtain ⟨M,hM⟩:∃ M,T.length=M:=⟨_,rfl⟩
 have HM:Hid (T.length=M):=hM
 rw [hM] at hl12 ⊢
 have hMI:(M:Int)≤12:=by omega
 have HS2:Hid (StC wB qc qp n gC cC gT D inp f w2):=HS.out.next HS.out hb2
 clear hb2 hI2 hT2 hM2 hM hnd c0 c1 c2 ct
 go_wp2_with fail
 go_loopg [32] M (fun gg s32 wr => ∃ (k:Nat) (fk:Nat→Bool),k≤M∧gg=M-k∧s32=.int .i64 k∧Hid (StC wB qc qp n gC cC gT D inp fk wr)∧Hid ((∀ j,f j=true→fk j=true)∧∀ i,i<k→fk (T.getD i 0).toNat=true)∧Hid (FrC gC gT w2 wr))
 case atStart=>exact ⟨0,f,Nat.zero_le _,rfl,rfl,HS2,hid_of ⟨fun j h=>h,fun i hi=>absurd hi (Nat.not_lt_zero _)⟩,FrC.refl _ _ _⟩
 case round =>
  obtain ⟨k,fk,hk,rfl,rfl,HSk,HFk,HFr⟩:=hrel
  by_cases hlt:k<M
  ·have hki:(k:Int)<(M:Int):=by omega
   have hkT:k<T.length:=by rw [HM.out];exact hlt
   obtain ⟨o1,o2⟩:=HS2.out.offI
   obtain ⟨hcS,-,hS0 | ⟨bs,cs,fr,rfl,hbS,hcl⟩⟩:=intT_frC HI2.out HFr.out o1 o2
   ·have:=HM.out;rw [hS0] at this;simp at this;omega
   have cx:=hcl k hkT
   have hbs:bs<wr.heap.size:=(Array.getElem?_eq_some_iff.1 hbS).1
   rw [HM.out] at hcS
   obtain ⟨y,hy,hyN,hym⟩:=nds_near HX.out HXx.out ((HM2.out _).1 (getD_memI hkT))
   rw [hy] at cx
   have hcall:=HIh.out y fk wr hyN hym HSk.out
   have HY:Hid (T.getD k 0=(y:Int)):=hy
   clear hcl hbS hy hym o1 o2 hyN
   go_wp2_with fail
   refine hcall.mono ?_
   rintro e w3 ⟨rfl,f2,hS3,hm3,hf3,hF3⟩
   have HS3:Hid (StC wB qc qp n gC cC gT D inp f2 w3):=hS3
   have HF3:Hid ((∀ j,f j=true→f2 j=true)∧∀ i,i<k+1→f2 (T.getD i 0).toNat=true):=by
    refine ⟨fun j h=>hm3 j (HFk.out.1 j h),fun i hi=>?_⟩
    by_cases e:i=k
    ·rw [e,HY.out,Int.toNat_natCast];exact hf3
    ·exact hm3 _ (HFk.out.2 i (by omega))
   have HFr3:Hid (FrC gC gT w2 w3):=HFr.out.trans hF3
   clear hcall hS3 hm3 hf3 hF3 cx
   go_wp2_with fail
   go_roundg (M-(k+1))
   case measure=>omega
   case rel=>exact ⟨k+1,f2,by omega,rfl,by go_num,HS3,HF3,HFr3⟩
  ·have hke:k=M:=by omega
   subst hke
   obtain ⟨c0,c1,c2⟩:=HSk.out.cells
   obtain ⟨m1,m2,m3,-⟩:=HSk.out.lts
   have HTd:Hid (∀ z∈ndsX D n x,fk z.toNat=true):=fun z hz=>by
    have hz2:=(HM2.out z).2 hz
    obtain ⟨i,hi,e⟩:=List.getElem_of_mem hz2
    have h:=HFk.out.2 i (by rw [HM.out] at hi;exact hi)
    rw [List.getD_eq_getElem?_getD,List.getElem?_eq_getElem hi,Option.getD_some,e] at h
    exact h
   have HTl:Hid (∀ w',Below wr.heap.size wr w'→Calls Tryz.prog 54 #[.pointer (some ⟨qp,0,none⟩),.slice (some ⟨gC,0,none⟩) N cC,.int .i64 x] w' fun e w''=>e=.returned (.tuple #[.agg #[.int .i64 (solV D n inp (placeL D n x)).1,.int .i64 (solV D n inp (placeL D n x)).2],.nilIface])∧Below w'.heap.size w' w''):=fun w' hB=>by
    have hS':=HSk.out.next HSk.out hB
    obtain ⟨hBb,-,L,hCL,hLl,-,hIn⟩:=hS'
    have hXx:=HX.out
    have hnear:∀ z∈ndsX D n x,L.getD z.toNat noC=solV D n inp (placeL D n z.toNat):=fun z hz=>by
     obtain ⟨y,rfl,hy,-⟩:=nds_near hXx HXx.out hz
     have:=HTd.out _ hz
     rw [Int.toNat_natCast] at this ⊢
     exact (hIn y hy).1 this
    have hlf:byTo D (placeL D n x) n<0→L.getD x noC=inp (placeL D n x):=fun h=>by
     cases hfx:fk x with
     | true=>rw [(hIn x HXx.out).1 hfx,sol_leaf inp h]
     | false=>exact (hIn x HXx.out).2 hfx
    have h:=ptell_any qp g n D X x (some ⟨gC,0,none⟩) cC L w' hXx.hR hXx.hE HXx.out (hXx.hA.later hBb) hLl ⟨by rw [hLl];exact hXx.hcc,by have:=hXx.hc63;omega,Or.inr ⟨gC,0,rfl,hCL.celAt⟩⟩ (fun z hz=>by
     rw [hnear z hz]
     exact good_sol hXx.hR hXx.hg _ _ (placeL_in hXx.hE) (Nat.lt_succ_self _))
    rw [tl_sol hXx.hR hXx.hE HXx.out hlf hnear,HN.out] at h
    exact h
   obtain ⟨⟨ra,rb⟩,hRe⟩:∃ R,solV D n inp (placeL D n x)=R:=⟨_,rfl⟩
   have HRe:Hid (solV D n inp (placeL D n x)=(ra,rb)):=hRe
   rw [hRe] at HTl
   simp only at HTl
   rw [HN.out] at c1 c2
   have HKp:Hid (∀ w',Below wr.heap.size wr w'→Below wr.heap.size wr w'∧w'.cell? ⟨qc,0,none⟩=some (.pointer (some ⟨qp,0,none⟩))∧w'.cell? ⟨qc,1,none⟩=some (.slice (some ⟨gC,0,none⟩) N cC)):=fun w' h=>⟨h,(h.cell (p:=⟨qc,0,none⟩) m1).trans c0,(h.cell (p:=⟨qc,1,none⟩) m1).trans c1⟩
   clear hRe
   go_upto_region 13 with fail
   go_cut [6,10] from 11 (fun s6 s10 wx=>s6=.nilIface∧∃ q,s10=.pointer (some ⟨q,0,none⟩)∧At q ra rb wx∧wr.heap.size≤q∧Below wr.heap.size wr wx)
   case first =>
    go_region_held3 (fun w'=>Below wr.heap.size wr w'∧w'.cell? ⟨qc,0,none⟩=some (.pointer (some ⟨qp,0,none⟩))∧w'.cell? ⟨qc,1,none⟩=some (.slice (some ⟨gC,0,none⟩) N cC))
     ((refine HKp.out _ ?_;go_grown;done))
     ((go_at_call 54;refine (HTl.out _ (by go_grown)).mono ?_;rintro e w7 ⟨rfl,hb7⟩;have hN7:=onB (W0:=wr) (by go_grown) hb7;have hy7:=hN7.size;obtain ⟨hc7,hf7⟩:=bcell hb7;have hz7:=bsize hb7;(try simp [Nat.add_one_le_iff] at hz7);(try have ha7:wr.heap.size<w7.heap.size:=by omega);clear hb7))
    all_goals go_wp2_with fail
    all_goals go_meet
    all_goals
     refine ⟨rfl,_,rfl,?_,by (first | omega | (simp;omega) | simp),by go_grown⟩
     first
      | exact At.new _ _ _ _
      | (refine At.set (u:=.int .i64 0) (v:=.int .i64 0) (by omega) ?_ ?_ <;> (rw [hc7 _ _ (by simp)];simp;done))
      | (refine At.set (u:=.int .i64 0) (v:=.int .i64 0) (by omega) ?_ ?_ <;> (rw [hc7 _ _ (by omega)];simp;done))
   case rest =>
   obtain ⟨rfl,q,rfl,⟨hql,p0,p1⟩,hqw,hBc⟩:=hcut
   obtain ⟨w9,rfl⟩:∃ w9:World,w9=wc:=⟨_,rfl⟩
   have hS9:=HSk.out.next HSk.out hBc
   have HS9:Hid (StC wB qc qp n gC cC gT D inp fk w9):=hS9
   obtain ⟨d0,d1,d2⟩:=hS9.cells
   rw [HN.out] at d1 d2
   obtain ⟨j1,j2,j3,-⟩:=hS9.lts
   obtain ⟨n1,n2,n3⟩:=hS9.ne
   have HFr9:Hid (FrC gC gT w w9):=(frC_below HB2.out).trans (HFr.out.trans (frC_below hBc))
   obtain ⟨-,-,Lx,hCx,hLx,hTx,-⟩:=hS9
   rw [HN.out] at hLx hTx
   obtain ⟨r0,r1⟩:=hCx.at (k:=x) (by omega)
   have r2:=hTx.cell hx
   have f0:=hCx.frozen (x*2)
   have f1:=hCx.frozen (x*2+1)
   have f2:=hTx.frozen x
   have HFin:Hid (StC wB qc qp n gC cC gT D inp (fun j=>if j=x then true else fk j) (((w9.setCell ⟨gC,x*2,none⟩ (.int .i64 ra)).setCell ⟨gC,x*2+1,none⟩ (.int .i64 rb)).setCell ⟨gT,x,none⟩ (.bool true))∧FrC gC gT w (((w9.setCell ⟨gC,x*2,none⟩ (.int .i64 ra)).setCell ⟨gC,x*2+1,none⟩ (.int .i64 rb)).setCell ⟨gT,x,none⟩ (.bool true))):=⟨HS9.out.put HXx.out HRe.out HX.out.hC HX.out.hT,frC_put HFr9.out⟩
   have HMo:Hid (∀ j,f j=true→(if j=x then true else fk j)=true):=by
    intro j h
    by_cases e:j=x
    ·rw [if_pos e]
    ·rw [if_neg e];exact HFk.out.1 j h
   have hqC:gC<q:=by omega
   have hqT:gT<q:=by omega
   clear hCx hLx hTx hBc c0 c1 c2 d0
   go_wp2_with fail
   go_region
   all_goals go_wp2_with fail
   all_goals go_ret
   all_goals exact ⟨rfl,_,HFin.out.1.drew,HMo.out,if_pos rfl,frC_drew HFin.out.2⟩
theorem ctell_all (hX:CtxA wB qc qp g n gC cC gT D X inp):∀ (F x:Nat) (f:Nat→Bool) (w:World),x<prodN D n→msrTo D (placeL D n x) n<F→StC wB qc qp n gC cC gT D inp f w→Calls Tryz.prog 49 #[.pointer (some ⟨qc,0,none⟩),.int .i64 x] w fun e w2=>e=.returned .nilIface∧∃ f2,StC wB qc qp n gC cC gT D inp f2 w2∧(∀ j,f j=true→f2 j=true)∧f2 x=true∧FrC gC gT w w2:=by
 intro F
 induction F with
 | zero=>intro x f w _ h;omega
 | succ F ihF =>
  intro x f w hx hF hS
  cases hf:f x with
  | true =>
   refine (ctell_told hX x f w hx hS hf).mono ?_
   rintro e w2 ⟨rfl,rfl⟩
   exact ⟨rfl,f,hS,fun j h=>h,hf,FrC.refl _ _ _⟩
  | false=>exact ctell_new hX x f w hx hS hf fun y f1 w1 hy hm h=>ihF y f1 w1 hy (by omega) h
end
section
variable {D:Nat→Dm} {n dim:Nat} (hp:∀ i,i<n→1≤(D i).n) (hd:dim<n) (ht:Tr (D dim).mem (D dim).n)
include hp hd ht
theorem atP_same {m:Nat} {L L':List (Int×Int)} {y:Nat} (hy:y<prodN D n) (hm:y / stepD D n dim % (D dim).n=m) (h:∀ z,z<prodN D n→m<z / stepD D n dim % (D dim).n→L'.getD z (0,0)=L.getD z (0,0)):∀ k∈partsOf (D dim).mem (D dim).n (m:Int),atP D n dim m y L' k=atP D n dim m y L k:=fun k hk=>by
 obtain ⟨j,rfl,h1,h2,-⟩:=part_behind ht hk
 obtain ⟨z,hz,hzl,hzd,-⟩:=part_place hp hd hy hm h2
 unfold atP cAt
 rw [hz]
 exact h z hzl (by rw [hzd];exact h1)
theorem pass_get {m:Nat} {L:List (Int×Int)} (hL:L.length=prodN D n):∀ k,k≤L.length→∀ y,y<L.length→(passTo D n dim m L k).getD y (0,0)=if y<k∧y / stepD D n dim % (D dim).n=m then partsV (D dim).mem (atP D n dim m y L) (partsOf (D dim).mem (D dim).n m) else L.getD y (0,0)
 | 0,_,y,_=>by rw [passTo,if_neg (by omega)]
 | k+1,hk,y,hy=>by
  have ih:=pass_get hL (m:=m) k (by omega)
  rw [passTo]
  by_cases hm:k / stepD D n dim % (D dim).n=m
  ·rw [if_pos hm,getD_set (by rw [pass_len];omega)]
   by_cases e:y=k
   ·subst e
    rw [if_pos rfl,if_pos ⟨by omega,hm⟩]
    unfold partsV
    exact parts_same _ _ (atP_same hp hd ht (by omega) hm fun z hz hzm=>by rw [ih z (by omega),if_neg (by omega)])
   ·rw [if_neg e,ih y hy]
    by_cases h1:y<k∧y / stepD D n dim % (D dim).n=m
    ·rw [if_pos h1,if_pos ⟨by omega,h1.2⟩]
    ·rw [if_neg h1,if_neg (by omega)]
  ·rw [if_neg hm,ih y hy]
   by_cases h1:y<k∧y / stepD D n dim % (D dim).n=m
   ·rw [if_pos h1,if_pos ⟨by omega,h1.2⟩]
   ·rw [if_neg h1,if_neg]
    rintro ⟨h2,h3⟩
    by_cases e:y=k
    ·exact hm (by rw [←e];exact h3)
    ·exact h1 ⟨by omega,h3⟩
theorem mbr_get {m:Nat} {L:List (Int×Int)} (hL:L.length=prodN D n) {y:Nat} (hy:y<L.length):(mbrV D n dim m L).getD y (0,0)=if partsOf (D dim).mem (D dim).n (m:Int)≠[]∧y / stepD D n dim % (D dim).n=m then partsV (D dim).mem (atP D n dim m y L) (partsOf (D dim).mem (D dim).n m) else L.getD y (0,0):=by
 unfold mbrV
 by_cases h:partsOf (D dim).mem (D dim).n (m:Int)=[]
 ·rw [if_pos h,if_neg (by simp [h])]
 ·rw [if_neg h,pass_get hp hd ht hL _ (Nat.le_refl _) y hy]
  by_cases h1:y / stepD D n dim % (D dim).n=m
  ·rw [if_pos ⟨hy,h1⟩,if_pos ⟨h,h1⟩]
  ·rw [if_neg (by omega),if_neg (by simp [h1])]
end
end Go.Proofs.YtfngmnhkhfgmjahGreatDoor
namespace Go.Proofs.YtfngmnhkhfgmjahGreatDoor
set_option maxRecDepth 20000
section
variable {D:Nat→Dm} {n dim:Nat} {l:List En} (hE:Ens D n l) (hd:dim<n) {S:Nat→Bool}
include hE hd
theorem once_gL (hS:S dim=false):onceV D n dim (gL D n S l)=gL D n (addS S dim) l:=by
 have hR:=hE.right
 obtain ⟨-,-,hp3,hdn⟩:=allErr_some hR
 have hdk:=(allErr_right hR).2 dim hd
 have hpos:∀ i,i<n→1≤(D i).n:=fun i hi=>(hdn i hi).1
 have ht:=Tr.of hdk
 have key:∀ r,r≤(D dim).n→∀ y,y<prodN D n→(onceTo D n dim (gL D n S l) r).getD y (0,0)=if (D dim).n-r≤y / stepD D n dim % (D dim).n then (gL D n (addS S dim) l).getD y (0,0) else (gL D n S l).getD y (0,0):=by
  intro r
  induction r with
  | zero =>
   intro _ y _
   have:=Nat.mod_lt (y / stepD D n dim) (hpos dim hd)
   rw [onceTo,if_neg (by omega)]
  | succ r ih =>
   intro hr y hy
   have hlen:(onceTo D n dim (gL D n S l) r).length=prodN D n:=by rw [once_len,gL_len]
   have hmod:=Nat.mod_lt (y / stepD D n dim) (hpos dim hd)
   rw [onceTo,mbr_get hpos hd ht hlen (by omega)]
   by_cases hm:y / stepD D n dim % (D dim).n=(D dim).n-1-r
   ·rw [if_pos (show (D dim).n-(r+1)≤y / stepD D n dim % (D dim).n by omega)]
    by_cases hP:partsOf (D dim).mem (D dim).n (((D dim).n-1-r:Nat):Int)=[]
    ·rw [if_neg (by simp [hP]),ih (by omega) y hy,if_neg (by omega),gL_at hy,gL_at hy]
     exact (gV_congr fun e he=>gw_bare hE hd hS he (m:=(D dim).n-1-r) (by omega) (by rw [placeL_at hd,digit_step hd,hm]) hP).symm
    ·rw [if_pos ⟨hP,hm⟩,gL_fix hE hd (S:=S) y (by rw [gL_len];exact hy) hm hP]
     unfold partsV
     exact parts_same _ _ (atP_same hpos hd ht hy hm fun z hz hzm=>by rw [ih (by omega) z hz,if_pos (by omega)])
   ·rw [if_neg (fun h=>hm h.2),ih (by omega) y hy]
    by_cases h1:(D dim).n-r≤y / stepD D n dim % (D dim).n
    ·rw [if_pos h1,if_pos (by omega)]
    ·rw [if_neg h1,if_neg (by omega)]
 refine list_same (by unfold onceV;rw [once_len,gL_len,gL_len]) fun y hy=>?_
 have hy':y<prodN D n:=by unfold onceV at hy;rw [once_len,gL_len] at hy;exact hy
 have:=key (D dim).n (Nat.le_refl _) y hy'
 rw [if_pos (by omega)] at this
 exact this
end
theorem gL_congr {D:Nat→Dm} {n:Nat} {l:List En} {S S':Nat→Bool} (h:∀ j,j<n→S j=S' j):gL D n S l=gL D n S' l:=by
 unfold gL
 apply List.map_congr_left
 intro x _
 exact gV_congr fun e _=>gw_congr n fun j hj=>by unfold facS;rw [h j hj]
theorem fold_gL {D:Nat→Dm} {n:Nat} {l:List En} (hE:Ens D n l):∀ (O:List Int) (S:Nat→Bool),O.Nodup→(∀ d∈O,∃ j:Nat,d=j∧j<n∧S j=false)→foldO D n (gL D n S l) O=gL D n (fun j=>S j || decide ((j:Int)∈O)) l
 | [],S,_,_=>by
  unfold foldO
  exact gL_congr fun j _=>by simp
 | d :: r,S,hn,hO=>by
  obtain ⟨j,rfl,hj,hSj⟩:=hO d (List.mem_cons_self ..)
  have hn':=List.nodup_cons.1 hn
  have h1:foldO D n (gL D n S l) ((j:Int) :: r)=foldO D n (gL D n (addS S j) l) r:=by
   unfold foldO
   rw [List.foldl_cons,show ((j:Int)).toNat=j by omega,once_gL hE hj hSj]
  rw [h1,fold_gL hE r (addS S j) hn'.2 fun d hd=>?_]
  ·refine gL_congr fun i _=>?_
   unfold addS
   by_cases e:i=j
   ·subst e;simp
   ·have e':decide ((i:Int)=(j:Int))=false:=decide_eq_false (by omega)
    simp [e,e']
  ·obtain ⟨i,rfl,hi,hSi⟩:=hO d (List.mem_cons_of_mem _ hd)
   refine ⟨i,rfl,hi,?_⟩
   unfold addS
   have:i≠j:=fun e=>hn'.1 (by rw [←e];exact hd)
   simp [hSi,this]
def rollL (D:Nat→Dm) (n:Nat) (l:List En):List (Int×Int):=(List.range (prodN D n)).map fun x=>rollV D n l (placeL D n x)
theorem fold_all {D:Nat→Dm} {n:Nat} {l:List En} (hE:Ens D n l) {O:List Int} (hO:eachB n O=true):foldO D n (wrV D n l) O=rollL D n l:=by
 have hp:=each_perm hO
 rw [wr_gL hE,fold_gL hE O _ (hp.nodup_iff.2 (rangeI_nodup n)) fun d hd=>by obtain ⟨j,h1,h2⟩:=(each_in hO).2 d hd;exact ⟨j,h1,h2,rfl⟩]
 unfold gL rollL
 apply List.map_congr_left
 intro x _
 exact gV_all (fun j hj=>by
  have:(j:Int)∈O:=hp.mem_iff.2 (by simp only [rangeI,List.mem_map,List.mem_range];exact ⟨j,hj,rfl⟩)
  simp [this]) l _
theorem rollL_at {D:Nat→Dm} {n:Nat} {l:List En} {p:List Int} (hp:InO D n p):(rollL D n l).getD (numI D p n).toNat (0,0)=rollV D n l p∧(numI D p n).toNat<prodN D n:=by
 obtain ⟨h1,h2,-⟩:=numI_bound hp (Nat.le_refl n)
 have h3:(numI D p n).toNat<prodN D n:=by omega
 refine ⟨?_,h3⟩
 simp [rollL,List.getD,h3,place_num hp]
end Go.Proofs.YtfngmnhkhfgmjahGreatDoor
namespace Go.Proofs.YtfngmnhkhfgmjahGreatDoor
open Go.ChangeShapes Go.WideShapes Go.ChangeAt Go.RowKit
set_option maxRecDepth 20000
def ndmB:Mem:=⟨⟨#[98]⟩,-1,0,⟨#[]⟩⟩
def ndmC:Mem:=⟨⟨#[99]⟩,0,1,⟨#[]⟩⟩
def ndmM (i:Nat):Mem:=if i=0 then ndmB else ndmC
def ndmD:Dm:=⟨⟨#[97]⟩,0,2,ndmM⟩
def ndmO:Nat→Dm:=fun _=>ndmD
theorem ndm_dim:dimErr ndmD=(-1,0):=by decide +kernel
theorem ndm_mem:∀ j:Fin 2,mErr ndmD j=0:=by decide +kernel
theorem ndm_nd:ndL ndmD=[[1],[]]:=by decide +kernel
theorem ndm_err:rErr ndmD=(-1,0):=re3 (by rw [ndm_dim]) (fun j hj=>ndm_mem ⟨j,hj⟩) fun j _=>by rw [ndm_nd,←one_nd];exact one_acyc j
theorem ndm_all:(allErr ndmO 1).2.2=0:=by decide +kernel
theorem ndm_ru:(ruErr ndmO 1).2.2=0:=ru_zero ndm_all fun i _=>by show (rErr ndmD).2=0;rw [ndm_err]
theorem ndm_prod:prodN ndmO 1=2:=by decide +kernel
end Go.Proofs.YtfngmnhkhfgmjahGreatDoor
