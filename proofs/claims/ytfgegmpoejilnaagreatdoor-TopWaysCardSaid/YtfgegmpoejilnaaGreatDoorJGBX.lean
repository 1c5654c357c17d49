/-
  What tallytop.TopWays answers, called in whatever memory, of a hall whatever it is made of, if its calls tell what they should: true.
-/
import Derived.Test.YtfgegmpoejilnaaGreatDoorJGBQ
import Derived.Test.YtfgegmpoejilnaaGreatDoorJGBW
namespace Go.Proofs.YtfgegmpoejilnaaGreatDoor
open Go.ChangeShapes Go.WideShapes Go.ChangeAt Go.RowKit
set_option maxRecDepth 20000
def edX (xs:List EnL):List EdL:=xs.map fun x=>⟨edOf x.e,x.A,x.c⟩
theorem edX_len (xs:List EnL):(edX xs).length=xs.length:=by simp [edX]
theorem edX_lD (xs:List EnL):lD (edX xs)=(lE xs).map edOf:=by simp [lD,edX,lE,Function.comp_def]
theorem edX_take (xs:List EnL) {k:Nat} (hk:k<xs.length):(edX xs).take (k+1)=(edX xs).take k ++ [⟨edOf (xs.getD k noL).e,(xs.getD k noL).A,(xs.getD k noL).c⟩]:=by
 rw [List.take_succ_eq_append_getElem (by rw [edX_len];exact hk)]
 simp [edX,List.getD_eq_getElem?_getD,List.getElem?_eq_getElem hk]
theorem eds_ownA {w:World} {base:Nat} {v:Value} {ys:List EdL} (h:w.ownsRow base 41 3 v ys.length (cellsX ys)) (hp:∀ y∈ys,PlAt w y.A y.c y.x.pl):∃ A c,v=.slice A ys.length c∧EdsV w A c ys:=by
 rcases h.2 with ⟨rfl,h0⟩ | ⟨g,cap,cur,rfl,hb,hg,hc,hm,_,_⟩
 ·refine ⟨none,0,by rw [h0],by omega,by decide,Or.inl (List.eq_nil_of_length_eq_zero h0)⟩
 ·refine ⟨_,cap,rfl,hc,by unfold maxLen at hm;omega,Or.inr ⟨g,0,rfl,(Array.getElem?_eq_some_iff.1 hg).1,fun k hk=>?_⟩⟩
  obtain ⟨x0,x1,x2⟩:=cellsX_at ys k hk
  have y:=fun j u=>h.cells (g:=g) rfl j u
  simp only [plain_add] at y
  refine ⟨y _ _ x0,?_,?_,?_⟩
  ·rw [Nat.add_assoc];exact y _ _ x1
  ·rw [Nat.add_assoc];exact y _ _ x2
  ·refine hp _ ?_
   rw [List.getD_eq_getElem?_getD,List.getElem?_eq_getElem hk]
   exact List.getElem_mem hk
theorem edX_pl {w:World} {A:Option Addr} {c:Nat} {xs:List EnL} (h:EnsV w A c xs):∀ y∈edX xs,PlAt w y.A y.c y.x.pl:=fun y hy=>by
 unfold edX at hy
 obtain ⟨x,hx,rfl⟩:=List.mem_map.1 hy
 obtain ⟨-,-,h0 | ⟨b,o,-,hs⟩⟩:=h
 ·rw [h0] at hx;cases hx
 ·exact hs.2.2 x hx
theorem str_empty {s:ByteArray} (h:s.size=0):s=⟨#[]⟩:=by
 cases s with
 | mk d =>
  have:d.size=0:=h
  rw [Array.eq_empty_of_size_eq_zero this]
theorem one_news {W:World} {x y z:Value} {T:Nat}:∀ j u,[x,y,z][j]?=some u→(W.alloc (.cells #[x,y,z] T)).cell? ((⟨W.heap.size,0,none⟩:Addr).add j)=some u:=by
 intro j u hj
 rw [plain_add,Lib.cell_of_heap (heap_alloc_new W (.cells #[x,y,z] T))]
 simpa using hj
theorem topw_step {v1 wr X w6:World} {v:Value} {k:Nat} {cs:List Value} (hb:Below wr.heap.size wr X) (hown:wr.ownsRow v1.heap.size 41 3 v k cs) (hB:Below v1.heap.size v1 wr) (hgrow:X.grownBy w6 v.ownBlock):Below v1.heap.size v1 w6:=(onB hB hb).grown hgrow (onB hB hb).size fun j hj=>(hown.lt j hj).1
set_option maxHeartbeats 16000000 in
theorem topw_law {HV:World→Nat→(Nat→Prop)→(Nat→Dm)→Nat→List En→Prop} (hC:HallC HV) (hKc:HallK HV) (A0:Option Addr) (cap n:Nat) (D:Nat→Dm) (A:Nat→Option Addr) (C:Nat→Nat) (AE:Option Addr) (ce:Nat) (xs:List EnL) (Ap:Option Addr) (cp:Nat) (p:List Int) (AO:Option Addr) (cO:Nat) (O:List Int) (w:World) (hM:DimsV w A0 cap n D A C) (hEn:EnsV w AE ce xs) (hP:PlAt w Ap cp p) (hO:PlAt w AO cO O) (hn:n≤9223372036854775807) (hz:∀ i,i<n→(D i).n≤9223372036854775807) :
  Calls Tryz.prog 5 #[.agg #[.slice A0 n cap],.slice AE xs.length ce,.slice Ap p.length cp,.slice AO O.length cO] w fun e w'=>e=.returned (.bool true)∧Below w.heap.size w w':=by
 obtain ⟨i0,hi0,hz0,hz1,hz2⟩:=info_parts Tryz.infoEd
 have hB0:=ownOut_below w A0 n cap 24
 have hS:=ownOut_size w A0 n cap 24
 have hA:=ownOut_at w A0 n cap 24
 have ht:=topone_any (ownOut w A0 n cap 24)
 obtain ⟨W,hW⟩:∃ W,ownOut w A0 n cap 24=W:=⟨_,rfl⟩
 rw [hW] at hB0 hS hA ht
 unfold ownOut at hW
 have HB0:Hid (Below w.heap.size w W):=hB0
 have hsz:w.heap.size<W.heap.size:=by omega
 have HC:=hid_of hC
 have HKc:=hid_of hKc
 have HM:=hid_of hM
 have HEn:=hid_of hEn
 have HP:=hid_of hP
 have HO:=hid_of hO
 have HZ:=hid_of hz
 obtain ⟨xl,hxl⟩:∃ xl,xs.length=xl:=⟨_,rfl⟩
 have HXl:=hid_of hxl
 have hx9:(xl:Int)≤9223372036854775807:=by have h1:=hEn.1;have h2:=hEn.2.1;omega
 obtain ⟨pl,hpl⟩:∃ pl,p.length=pl:=⟨_,rfl⟩
 have HPl:=hid_of hpl
 obtain ⟨ol,hol⟩:∃ ol,O.length=ol:=⟨_,rfl⟩
 have HOl:=hid_of hol
 rw [hxl,hpl,hol]
 have hnI:(n:Int)≤9223372036854775807:=by omega
 clear hB0 hS hM hEn hP hO hz hxl hpl hol hC hKc
 go_enter Tryz.func5,Tryz.ntmps5
 go_wp2_with fail
 refine ht.mono ?_
 rintro e w1 ⟨rfl,hb1⟩
 have HB1:Hid (Below w.heap.size w w1):=onB HB0.out hb1
 have c1:=(hb1.cell (p:=⟨w.heap.size,0,none⟩) hsz).trans hA
 have hs1:w.heap.size<w1.heap.size:=Nat.lt_of_lt_of_le hsz hb1.size
 clear hb1 ht hA hW HB0
 go_wp2_with fail
 go_loopg [10,11] n (fun gg s10 s11 wr => ∃ i:Nat,i≤n∧gg=n-i∧s10=.int .i64 i∧wr=w1∧Hid (∀ j,j<i→∀ k,k<(D j).n→((D j).mem k).formula.size=0))
 case atStart=>exact ⟨0,Nat.zero_le _,rfl,rfl,rfl,hid_of fun j hj=>absurd hj (Nat.not_lt_zero _)⟩
 case round =>
  obtain ⟨i,hi,rfl,rfl,rfl,HF⟩:=hrel
  obtain ⟨w1,rfl⟩:∃ x:World,x=wr:=⟨_,rfl⟩
  by_cases hlt:i<n
  ·as_aux_lemma =>
   have hii:(i:Int)<(n:Int):=by omega
   obtain ⟨hcap,h0 | ⟨b,o,rfl,hMs⟩⟩:=HM.out.later HB1.out
   ·omega
   have hcapI:(n:Int)≤(cap:Int):=by omega
   have hbr:=hMs.1
   obtain ⟨-,-,d2,hdc,d3⟩:=hMs.2 i hlt
   have hdz:=HZ.out i hlt
   have HMi:=hid_of d3
   obtain ⟨dn,hdn⟩:∃ dn,(D i).n=dn:=⟨_,rfl⟩
   have HDn:=hid_of hdn
   rw [hdn] at d2 hdc hdz
   have hdzI:(dn:Int)≤9223372036854775807:=by omega
   have hdcI:(dn:Int)≤(C i:Int):=by omega
   clear d3 hMs hdn
   go_wp2_with fail
   go_loopg [11] dn (fun gg s11 wr => ∃ k:Nat,k≤dn∧gg=dn-k∧s11=.int .i64 k∧wr=w1∧Hid (∀ m,m<k→((D i).mem m).formula.size=0))
   case atStart=>exact ⟨0,Nat.zero_le _,rfl,rfl,rfl,hid_of fun j hj=>absurd hj (Nat.not_lt_zero _)⟩
   case round =>
    obtain ⟨k,hk,rfl,rfl,rfl,HG⟩:=hrel
    obtain ⟨w1,rfl⟩:∃ x:World,x=wr:=⟨_,rfl⟩
    by_cases hkt:k<dn
    ·have hki:(k:Int)<(dn:Int):=by omega
     obtain h0 | ⟨bm,om,hAi,hMm⟩:=HMi.out
     ·have:=HDn.out;omega
     obtain ⟨-,-,-,f3⟩:=hMm.2 k (by rw [HDn.out];exact hkt)
     have hbm:=hMm.1
     rw [hAi] at d2
     by_cases hf:((D i).mem k).formula.size=0
     ·have he:=str_empty hf
      rw [he] at f3
      have HG2:Hid (∀ m,m<k+1→((D i).mem m).formula.size=0):=fun m hm=>by
       rcases Nat.lt_succ_iff_lt_or_eq.1 hm with h | rfl
       ·exact HG.out m h
       ·exact hf
      clear hMm hf he
      go_wp2_with fail
      go_roundg (dn-(k+1))
      case measure=>omega
      case rel=>exact ⟨k+1,by omega,rfl,by go_num,rfl,HG2⟩
     ·have hneb:((D i).mem k).formula.toList.isEmpty=false:=by rw [empty_same];simpa using hf
      generalize ((D i).mem k).formula=s at f3 hneb
      clear hMm hf
      go_wp2_with fail
      go_ret
      exact ⟨rfl,HB1.out⟩
    ·have hke:k=dn:=by omega
     subst hke
     have HF2:Hid (∀ j,j<i+1→∀ m,m<(D j).n→((D j).mem m).formula.size=0):=fun j hj m hm=>by
      rcases Nat.lt_succ_iff_lt_or_eq.1 hj with h | rfl
      ·exact HF.out j h m hm
      ·exact HG.out m (by rw [←HDn.out];exact hm)
     go_wp2_with fail
     go_roundg (n-(i+1))
     case measure=>omega
     case rel=>exact ⟨i+1,by omega,rfl,by go_num,rfl,HF2⟩
  ·have hie:i=n:=by omega
   subst hie
   have hrv:=rval_any A0 cap i D A C AE ce xs Ap cp p w1 (HM.out.later HB1.out) (HEn.out.later HB1.out) (HP.out.later HB1.out)
   rw [HXl.out,HPl.out] at hrv
   by_cases hre:rvErr D i (lE xs) p=0
   case neg =>
    rw [errV_some hre] at hrv
    generalize rvErr D i (lE xs) p=z at hrv
    generalize (rvV D i (lE xs) p).1=ra at hrv
    generalize (rvV D i (lE xs) p).2=rb at hrv
    clear hre
    go_wp2_with fail
    refine hrv.mono ?_
    rintro e w2 ⟨rfl,hb2⟩
    have HB2:Hid (Below w.heap.size w w2):=onB HB1.out hb2
    clear hb2 hrv
    go_wp2_with fail
    go_ret
    exact ⟨rfl,onB HB2.out (by go_grown)⟩
   obtain ⟨hEs,hIp⟩:=rvErr_in hre
   rw [rvV_ok hre,hre,errV_zero] at hrv
   by_cases h60:60<xl
   case pos =>
    have h60I:(60:Int)<(xl:Int):=by omega
    generalize (rollV D i (lE xs) p).1=ra at hrv
    generalize (rollV D i (lE xs) p).2=rb at hrv
    clear hre
    go_wp2_with fail
    refine hrv.mono ?_
    rintro e w2 ⟨rfl,hb2⟩
    have HB2:Hid (Below w.heap.size w w2):=onB HB1.out hb2
    clear hb2 hrv
    go_wp2_with fail
    go_ret
    exact ⟨rfl,onB HB2.out (by go_grown)⟩
   have h60I:(xl:Int)≤60:=by omega
   have hru:=bare_right hEs.right HF.out
   obtain ⟨hE,hR⟩:=ru_right hru
   have hsv:solV D i (getE (lE xs)) p=rollV D i (lE xs) p:=sol_roll hEs hR HF.out _ _ hIp (Nat.lt_succ_self _)
   have hso:soErr D i (lE xs) p=0:=by unfold soErr;rw [if_neg (by simpa using cu_right hru hEs)];exact hIp.ok
   obtain ⟨m,hm,hmN,-⟩:=num_lt hIp
   have hp3:=(allErr_some hE).2.2.1
   have HSv:Hid (∀ w',Below w.heap.size w w'→Calls Tryz.prog 18 #[.agg #[.slice A0 i cap],.slice AE xl ce,.slice Ap pl cp] w' fun e w''=>e=.returned (.tuple #[.agg #[.int .i64 (rollV D i (lE xs) p).1,.int .i64 (rollV D i (lE xs) p).2],.nilIface])∧Below w'.heap.size w' w''):=fun w' hB=>by
    have h:=pvalue_any A0 cap i D A C AE ce xs Ap cp p w' (HM.out.later hB) (HEn.out.later hB) (HP.out.later hB)
    have e:soV D i (lE xs) p=rollV D i (lE xs) p:=by unfold soV;rw [if_pos hso];exact hsv
    rw [e,hso,errV_zero,HXl.out,HPl.out] at h
    exact h
   have HNu:Hid (∀ w',Below w.heap.size w w'→Calls Tryz.prog 19 #[.agg #[.slice A0 i cap],.slice Ap pl cp] w' fun e w''=>e=.returned (.tuple #[.int .i64 (m:Nat),.nilIface])∧Below w'.heap.size w' w''):=fun w' hB=>by
    have h:=pnumber_any A0 cap i D A C Ap cp p w' (HM.out.later hB) (HP.out.later hB)
    have e:numV D i p=(m:Nat):=by unfold numV;rw [if_pos hIp.ok];exact hm
    rw [hIp.ok,errV_zero,e,HPl.out] at h
    exact h
   have HNw:Hid (∀ w',Below w.heap.size w w'→Calls Tryz.prog 6 #[.agg #[.slice A0 i cap]] w' fun e w''=>(∃ h S,e=.returned (.tuple #[.pointer (some ⟨h,0,none⟩),.nilIface])∧HV w'' h S D i []∧∀ b,S b→w'.heap.size≤b)∧Below w'.heap.size w' w''):=fun w' hB=>HC.out.new A0 cap i D A C w' hru (HM.out.later hB)
   obtain ⟨hde,hdl⟩:=ents_edits hEs (by rw [lE_len,HXl.out];omega)
   have HDo:Hid (∀ h S w' Ax cx,HV w' h S D i []→EdsV w' Ax cx (edX xs)→Calls Tryz.prog 7 #[.pointer (some ⟨h,0,none⟩),.slice Ax xl cx] w' fun e w''=>(∃ S' k,e=.returned (.tuple #[.int .i64 (k:Nat),.nilIface])∧HV w'' h S' D i (lE xs))∧Kept w'.heap.size S w' w''):=fun h S w' Ax cx hH hX=>by
    have h':=HC.out.edit h S D i [] Ax cx (edX xs) w' hH hX
    rw [edX_lD,hde,hdl,errV_zero,edX_len,HXl.out] at h'
    exact h'.mono fun _ _ ⟨⟨S',a1,a2,_⟩,a3⟩=>⟨⟨S',_,a1,a2⟩,a3⟩
   have HCe:Hid (∀ h S w',HV w' h S D i (lE xs)→PlAt w' Ap cp p→Calls Tryz.prog 14 #[.pointer (some ⟨h,0,none⟩),.slice Ap pl cp] w' fun e w''=>e=.returned (.tuple #[.agg #[.int .i64 (rollV D i (lE xs) p).1,.int .i64 (rollV D i (lE xs) p).2],.nilIface])∧Below w'.heap.size w' w''):=fun h S w' hH hP=>by
    have h':=HKc.out h S D i (lE xs) Ap cp p w' hH hP
    rw [top_cell hru hEs hIp.ok HF.out,hIp.ok,errV_zero,HPl.out] at h'
    exact h'
   have hfa:faErr D i (lE xs) O=0→faL D i (lE xs) O=rollL D i (lE xs):=fun h=>by
    have hO:eachB i O=true:=by
     unfold faErr at h
     rw [if_neg (by simpa using hEs.ok)] at h
     split at h
     ·assumption
     ·cases h
    unfold faL
    rw [if_pos h]
    exact fold_all hEs hO
   have HFa:Hid (∀ w',Below w.heap.size w w'→Calls Tryz.prog 20 #[.agg #[.slice A0 i cap],.slice AE xl ce,.slice AO ol cO] w' fun e w''=>(∃ A' c',e=.returned (.tuple #[.slice A' (faL D i (lE xs) O).length c',errV (faErr D i (lE xs) O)])∧CelV w'' A' c' (faL D i (lE xs) O))∧Below w'.heap.size w' w''):=fun w' hB=>by
    have h:=fall_any A0 cap i D A C AE ce xs AO cO O w' (HM.out.later hB) (HEn.out.later hB) (HO.out.later hB)
    rw [HXl.out,HOl.out] at h
    exact h
   have hrl:=(rollL_at (l:=lE xs) hIp).1
   have hrn:(rollL D i (lE xs)).length=prodN D i:=by simp [rollL]
   rw [hm,Int.toNat_natCast] at hrl
   have HRl:=hid_of hrl
   have HRn:=hid_of hrn
   have HFaE:=hid_of hfa
   generalize rollL D i (lE xs)=RL at HRl HRn HFaE
   generalize faErr D i (lE xs) O=fe at HFa HFaE
   generalize faL D i (lE xs) O=FL at HFa HFaE
   generalize rollV D i (lE xs) p=R at hrv HSv HCe HRl
   obtain ⟨ra,rb⟩:=R
   simp only at hrv HSv HCe
   generalize prodN D i=N at hmN HRn hp3
   have hNI:(N:Int)≤3000:=by omega
   have hmI:(m:Int)<(N:Int):=by omega
   clear hre hEs hru hE hR hsv hso hm hde hdl hfa hrl hrn hIp h60
   go_wp2_with fail
   refine hrv.mono ?_
   rintro e w2 ⟨rfl,hb2⟩
   obtain ⟨y2,hy2⟩:∃ y,w2.alloc (.cells #[.int .i64 ra,.int .i64 rb] 54)=y:=⟨_,rfl⟩
   have hB2:Below w2.heap.size w2 y2:=by rw [←hy2];go_grown
   obtain ⟨p0,p1,-,-⟩:=pair_at (show y2.heap[w2.heap.size]?=some (.cells #[.int .i64 ra,.int .i64 rb] 54 (0,0)) from by rw [←hy2];exact heap_alloc_new ..)
   have hs2:w2.heap.size<y2.heap.size:=by rw [←hy2];simp
   have HB2:Hid (Below w1.heap.size w1 y2):=onB hb2 hB2
   have hw2:=hb2.size
   have c2:=(HB2.out.cell (p:=⟨w.heap.size,0,none⟩) hs1).trans c1
   have hsv2:=HSv.out y2 (onB HB1.out HB2.out)
   have hs12:w.heap.size<y2.heap.size:=by omega
   clear hb2 hB2 hrv
   go_wp2_with fail
   refine hsv2.mono ?_
   rintro e w3 ⟨rfl,hb3⟩
   obtain ⟨y3,hy3⟩:∃ y,w3.alloc (.cells #[.int .i64 ra,.int .i64 rb] 54)=y:=⟨_,rfl⟩
   have hB3:Below w3.heap.size w3 y3:=by rw [←hy3];go_grown
   obtain ⟨q0,q1,-,-⟩:=pair_at (show y3.heap[w3.heap.size]?=some (.cells #[.int .i64 ra,.int .i64 rb] 54 (0,0)) from by rw [←hy3];exact heap_alloc_new ..)
   have hs3:w3.heap.size<y3.heap.size:=by rw [←hy3];simp
   have hb3y:=onB hb3 hB3
   have hw3:=hb3.size
   have HB3:Hid (Below w.heap.size w y3):=onB HB1.out (onB HB2.out hb3y)
   have c3:=(hb3y.cell (p:=⟨w.heap.size,0,none⟩) hs12).trans c2
   have p03:=(hb3y.cell (p:=⟨w2.heap.size,0,none⟩) hs2).trans p0
   have p13:=(hb3y.cell (p:=⟨w2.heap.size,1,none⟩) hs2).trans p1
   have hnu:=HNu.out y3 HB3.out
   have hs13:w.heap.size<y3.heap.size:=by omega
   have hs23:w2.heap.size<y3.heap.size:=by omega
   clear hb3 hB3 hb3y hsv2 p0 p1 c2 hy2
   go_wp2_with fail
   refine hnu.mono ?_
   rintro e w4 ⟨rfl,hb4⟩
   have HB4:Hid (Below w.heap.size w w4):=onB HB3.out hb4
   have hw4:=hb4.size
   have c4:=(hb4.cell (p:=⟨w.heap.size,0,none⟩) hs13).trans c3
   have p04:=(hb4.cell (p:=⟨w2.heap.size,0,none⟩) hs23).trans p03
   have p14:=(hb4.cell (p:=⟨w2.heap.size,1,none⟩) hs23).trans p13
   have q04:=(hb4.cell (p:=⟨w3.heap.size,0,none⟩) hs3).trans q0
   have q14:=(hb4.cell (p:=⟨w3.heap.size,1,none⟩) hs3).trans q1
   have hs14:w.heap.size<w4.heap.size:=by omega
   have hs24:w2.heap.size<w4.heap.size:=by omega
   have hs34:w3.heap.size<w4.heap.size:=by omega
   have hnw:=HNw.out w4 HB4.out
   clear hb4 hnu p03 p13 q0 q1 c3 hy3
   go_wp2_with fail
   refine hnw.mono ?_
   rintro e w5 ⟨⟨h,S,rfl,hH,hS⟩,hb5⟩
   have HH:=hid_of hH
   have HS:=hid_of hS
   have HB5:=hid_of hb5
   have c5:=(hb5.cell (p:=⟨w.heap.size,0,none⟩) hs14).trans c4
   have p05:=(hb5.cell (p:=⟨w2.heap.size,0,none⟩) hs24).trans p04
   have p15:=(hb5.cell (p:=⟨w2.heap.size,1,none⟩) hs24).trans p14
   have q05:=(hb5.cell (p:=⟨w3.heap.size,0,none⟩) hs34).trans q04
   have q15:=(hb5.cell (p:=⟨w3.heap.size,1,none⟩) hs34).trans q14
   have hw5:=hb5.size
   have hs25:w2.heap.size<w5.heap.size:=by omega
   have hs35:w3.heap.size<w5.heap.size:=by omega
   clear hH hS hb5 hnw
   have HBx:Hid (∀ w',Below w4.heap.size w4 w'→w'.cell? ⟨w.heap.size,0,none⟩=some (.slice A0 i cap)∧w'.cell? ⟨w2.heap.size,0,none⟩=some (.int .i64 ra)∧w'.cell? ⟨w2.heap.size,1,none⟩=some (.int .i64 rb)∧w.heap.size<w'.heap.size∧w2.heap.size<w'.heap.size):=fun w' hB=>⟨(hB.cell (p:=⟨w.heap.size,0,none⟩) hs14).trans c4,(hB.cell (p:=⟨w2.heap.size,0,none⟩) hs24).trans p04,(hB.cell (p:=⟨w2.heap.size,1,none⟩) hs24).trans p14,Nat.lt_of_lt_of_le hs14 hB.size,Nat.lt_of_lt_of_le hs24 hB.size⟩
   clear c4 p04 p14 q04 q14
   have HTk:Hid (∀ k,k<xl→(edX xs).take (k+1)=(edX xs).take k ++ [⟨edOf (xs.getD k noL).e,(xs.getD k noL).A,(xs.getD k noL).c⟩]):=fun k hk=>edX_take xs (by rw [HXl.out];exact hk)
   go_wp2_with fail
   clear c5 p05 p15 q05 q15
   go_loopg [20,21] xl (fun gg s20 s21 wr => ∃ (k:Nat) (v:Value),k≤xl∧gg=xl-k∧s21=.int .i64 k∧v=s20∧Hid (wr.ownsRow w5.heap.size 41 3 v k (cellsX ((edX xs).take k)))∧Hid (Below w5.heap.size w5 wr))
   case atStart=>exact ⟨0,_,Nat.zero_le _,rfl,rfl,rfl,hid_of (by simpa [cellsX] using World.ownsRow_nil _ _ _ _),Below.refl _ _⟩
   case round =>
    obtain ⟨k,v,hk,rfl,rfl,rfl,HOw,HBr⟩:=hrel
    by_cases hkt:k<xl
    ·have hki:(k:Int)<(xl:Int):=by omega
     have hkx:k<xs.length:=by rw [HXl.out];exact hkt
     obtain ⟨hce,-,h0 | ⟨bL,oL,rfl,hEs⟩⟩:=HEn.out.later (onB HB4.out (onB HB5.out HBr.out))
     ·have:=HXl.out;rw [h0] at this;simp at this;omega
     obtain ⟨e0,e1⟩:=hEs.at hkx
     have hbL:=hEs.1
     rw [HXl.out] at hce
     have hceI:(xl:Int)≤(ce:Int):=by omega
     have HT1:=hid_of (HTk.out k hkt)
     have hwr:=HBr.out.size
     generalize xs.getD k noL=x at e0 e1 HT1
     obtain ⟨xpl,hxpl⟩:∃ m,x.e.pl.length=m:=⟨_,rfl⟩
     have HXP:=hid_of hxpl
     rw [hxpl] at e0
     obtain ⟨xn,hxn⟩:∃ m,x.e.n=m:=⟨_,rfl⟩
     have HXN:=hid_of hxn
     rw [hxn] at e1
     have HCx:Hid (cellsX [(⟨edOf x.e,x.A,x.c⟩:EdL)]=[.slice x.A xpl x.c,.int .i64 xn,.bool false]):=by show _=_;simp [cellsX,edOf,HXP.out,HXN.out]
     clear hEs hxpl hxn HSv HNu HNw HDo HCe HFa HFaE HRl HRn HC HKc HM HP HO HBx HH HS HF HZ HPl HOl HB1 HB2 HB3 HTk HEn hmN hmI hNI hp3 hw2 hw3 hw4 hw5 hs14 hs24 hs34 hs25 hs35 hs1 hs2 hs3 hs12 hs13 hs23
     go_wp2_with fail
     go_region_law ((refine step_append_lies _ (by rfl) _ _ _ (by rfl) w5.heap.size 41 i0 _ 3 40 Tryz.underlying25 hi0 hz0 hz1 hz2 ?g2 ?g3 v k (cellsX ((edX xs).take k)) ?h1 ?h2 ⟨wr.heap.size,0,none⟩ 1 1 [.slice x.A xpl x.c,.int .i64 xn,.bool false] ?h3 ?h4 ?h5 ?h6 ?g4 ?h7 ?h8 ?h9 (wr.heap.size+1) ?h10 ?_;(case g2=>rfl);(case g3=>omega);(case h1=>rfl);(case h2=>exact (own_later HOw.out (by go_grown)));(case h3=>rfl);(case h4=>rfl);(case h5=>exact one_news);(case h6=>simp [Value.oneCell']);(case g4=>omega);(case h7=>(unfold maxLen;omega));(case h8=>omega);(case h9=>(simp;omega));(case h10=>simp);(intro gg cg w6 hown6 hgrow hat hlt6);(have HG6:=hid_of (And.intro hown6 hgrow));(clear hown6 hgrow hat hlt6 hwr hce hkx hbL)))
     all_goals (have HST:Hid _:=topw_step (by go_grown) HOw.out HBr.out HG6.out.2)
     all_goals (have HOw2:Hid (w6.ownsRow w5.heap.size 41 3 (.slice (some ⟨gg,0,none⟩) (k+1) cg) (k+1) (cellsX ((edX xs).take (k+1)))):=(by show World.ownsRow ..;rw [HT1.out,cellsX_append,HCx.out];exact HG6.out.1))
     all_goals clear HG6
     all_goals go_wp2_with fail
     all_goals go_roundg (xl-(k+1))
     all_goals first | omega | exact ⟨k+1,_,by omega,rfl,by go_num,rfl,HOw2,HST⟩
    ·have hke:k=xl:=by omega
     subst hke
     have hown:=HOw.out
     rw [List.take_of_length_le (by rw [edX_len,HXl.out];exact Nat.le_refl _)] at hown
     have HBb:Hid (Below w.heap.size w wr):=onB HB4.out (onB HB5.out HBr.out)
     obtain ⟨Ax,cx,hv,hX⟩:=eds_ownA (by rw [edX_len,HXl.out];exact hown) (edX_pl (HEn.out.later HBb.out))
     rw [edX_len,HXl.out] at hv
     subst hv
     have hdo:=HDo.out h S wr Ax cx (HC.out.later HH.out HBr.out) hX
     have HBw4:Hid (Below w4.heap.size w4 wr):=onB HB5.out HBr.out
     clear hown hX
     go_wp2_with fail
     refine hdo.mono ?_
     rintro e w7 ⟨⟨S',kk,rfl,hH7⟩,hk7⟩
     have HB7:Hid (Below w4.heap.size w4 w7):=below_kept HBw4.out hk7 HS.out
     have hce:=HCe.out h S' w7 hH7 (HP.out.later (onB HB4.out HB7.out))
     clear hk7 hH7 hdo
     go_wp2_with fail
     refine hce.mono ?_
     rintro e w8 ⟨rfl,hb8⟩
     obtain ⟨y8,hy8⟩:∃ y,w8.alloc (.cells #[.int .i64 ra,.int .i64 rb] 54)=y:=⟨_,rfl⟩
     have hB8:Below w8.heap.size w8 y8:=by rw [←hy8];go_grown
     obtain ⟨q0,q1,-,-⟩:=pair_at (show y8.heap[w8.heap.size]?=some (.cells #[.int .i64 ra,.int .i64 rb] 54 (0,0)) from by rw [←hy8];exact heap_alloc_new ..)
     have hs8:w8.heap.size<y8.heap.size:=by rw [←hy8];simp
     have HB8:Hid (Below w4.heap.size w4 y8):=onB HB7.out (onB hb8 hB8)
     obtain ⟨x0,x1,x2,x3,x4⟩:=HBx.out y8 HB8.out
     have hfa:=HFa.out y8 (onB HB4.out HB8.out)
     clear hb8 hB8 hce
     go_wp2_with fail
     refine hfa.mono ?_
     rintro e w9 ⟨⟨A9,c9,rfl,hC9⟩,hb9⟩
     have HB9:Hid (Below w4.heap.size w4 w9):=onB HB8.out hb9
     obtain ⟨-,z1,z2,-,z4⟩:=HBx.out w9 HB9.out
     clear x0 x1 x2 x3 x4 q0 q1 hb9 hfa hy8
     by_cases hfe:fe=0
     ·have hFL:=HFaE.out hfe
      rw [hFL] at hC9
      obtain ⟨hc9,-,h0 | ⟨b9,o9,rfl,hCa⟩⟩:=hC9
      ·have:=HRn.out;rw [h0] at this;simp at this;omega
      obtain ⟨v0,v1⟩:=hCa.2 m (by rw [HRn.out];exact hmN)
      have e:=HRl.out
      have hbl9:=hCa.1
      rw [show RL.getD m noC=(ra,rb) from e] at v0 v1
      rw [HRn.out] at hc9
      have hc9I:(N:Int)≤(c9:Int):=by omega
      simp only at v0 v1
      rw [hFL,HRn.out,hfe,errV_zero]
      clear hFL hCa e hfe
      go_wp2_with fail
      go_quiet (fail)
      go_wp2_with fail
      go_ret
      exact ⟨rfl,below_drewN (onB HB4.out HB9.out) _⟩
     ·rw [errV_some hfe]
      clear hC9
      go_wp2_with fail
      go_ret
      exact ⟨rfl,onB HB4.out HB9.out⟩
end Go.Proofs.YtfgegmpoejilnaaGreatDoor
