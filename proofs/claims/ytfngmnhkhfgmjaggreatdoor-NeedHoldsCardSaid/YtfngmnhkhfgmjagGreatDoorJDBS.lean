/-
  What Dirty of package need answers, in whatever memory: the places that hang on some of leafs, or what is wrong.
-/
import Derived.Test.YtfngmnhkhfgmjagGreatDoorJDBR
namespace Go.Proofs.YtfngmnhkhfgmjagGreatDoor
open Go.ChangeShapes Go.WideShapes Go.ChangeAt Go.RowKit
set_option maxRecDepth 20000
set_option maxHeartbeats 8000000 in
theorem ndirty_t (A0:Option Addr) (cap n:Nat) (D:Nat→Dm) (A:Nat→Option Addr) (C:Nat→Nat) (Aq:Option Addr) (cq:Nat) (xs:List PL) (w:World) (hM:DimsV w A0 cap n D A C) (hX:PlsA w Aq cq xs) (hl:xs.length≤200) :
  Calls Tryz.prog 28 #[.agg #[.slice A0 n cap],.slice Aq xs.length cq] w fun e w'=>(∃ A' c',e=.returned (.tuple #[.slice A' (ddL D n (lP xs)).length c',errV (drE D n (lP xs))])∧IntT w' A' c' (ddL D n (lP xs)))∧Below w.heap.size w w':=by
 have hB0:=ownOut_below w A0 n cap 29
 have hS:=ownOut_size w A0 n cap 29
 have hA:=ownOut_at w A0 n cap 29
 obtain ⟨W,hW⟩:∃ W,ownOut w A0 n cap 29=W:=⟨_,rfl⟩
 rw [hW] at hB0 hS hA
 unfold ownOut at hW
 have HB0:Hid (Below w.heap.size w W):=hB0
 have hsz:w.heap.size<W.heap.size:=by omega
 have HA:Hid (W.cell? ⟨w.heap.size,0,none⟩=some (.slice A0 n cap)):=hA
 by_cases hr:(ruErr D n).2.2=0
 case neg =>
  have hn:=new_bad A0 cap n D A C W hr (hM.later hB0)
  have hz:drE D n (lP xs)=(ruErr D n).2.2:=by unfold drE;rw [if_pos hr]
  have HL:Hid (ddL D n (lP xs)=[]):=by show _=_;unfold ddL;rw [if_neg (by rw [hz];exact hr)]
  have HEr:Hid (errV (drE D n (lP xs))=.iface 95 (.int .i64 (ruErr D n).2.2)):=by show _=_;rw [hz,errV_some hr]
  rw [errV_some hr] at hn
  generalize (ruErr D n).2.2=z at hn HEr
  generalize xs.length=xl
  clear hM hX hB0 hr hS hz hl
  go_enter Tryz.func28,Tryz.ntmps28
  go_wp2_with fail
  refine hn.mono ?_
  rintro e w1 ⟨rfl,hb1⟩
  have HB1:Hid (Below w.heap.size w w1):=onB HB0.out hb1
  clear hb1 hn
  go_wp2_with fail
  go_returns
  exact ⟨⟨none,0,by rw [HL.out,HEr.out];rfl,by rw [HL.out];exact IntT.nil _ _ _ (by omega)⟩,onB HB1.out (by go_grown)⟩
 obtain ⟨hE,hR⟩:=ru_right hr
 have hn:=new_any A0 cap n D A C W hE hR (hM.later hB0)
 have hde:drE D n (lP xs)=drTo D n (lP xs):=by unfold drE;rw [if_neg (by simpa using hr)]
 have HNm:Hid (∀ w',Below w.heap.size w w'→Calls Tryz.prog 62 #[.agg #[.slice A0 n cap],.slice Aq xs.length cq] w' fun e w''=>(∃ v,e=.returned (.tuple #[v,errV (shTo D n (lP xs))])∧w''.ownsRow w'.heap.size 3 1 v (nuL D n (lP xs)).length (mapI (nuL D n (lP xs))))∧Below w'.heap.size w' w''):=fun w' hB=>numbers_any A0 cap n D A C Aq cq xs w' hE (hM.later hB) (hX.later hB) hl
 have HBox:Hid (∀ w1,Below W.heap.size W w1→∀ (v:Value) (T:Nat),(w1.alloc (.cells #[v] T)).cell? ⟨w.heap.size,0,none⟩=some (.slice A0 n cap)∧w.heap.size<(w1.alloc (.cells #[v] T)).heap.size∧Below w.heap.size w (w1.alloc (.cells #[v] T))):=fun w1 hb1 v T=>by
  have hb2:Below w1.heap.size w1 (w1.alloc (.cells #[v] T)):=by go_grown
  have hb:=onB hb1 hb2
  exact ⟨(hb.cell (p:=⟨w.heap.size,0,none⟩) hsz).trans HA.out,Nat.lt_of_lt_of_le hsz hb.size,onB HB0.out hb⟩
 by_cases hs:shTo D n (lP xs)=0
 case neg =>
  have hz:drE D n (lP xs)=shTo D n (lP xs):=by rw [hde];unfold drTo;rw [if_pos hs]
  have HL:Hid (ddL D n (lP xs)=[]):=by show _=_;unfold ddL;rw [if_neg (by rw [hz];exact hs)]
  have HEr:Hid (errV (drE D n (lP xs))=.iface 95 (.int .i64 (shTo D n (lP xs)))):=by show _=_;rw [hz,errV_some hs]
  have hnu:nuL D n (lP xs)=[]:=by unfold nuL;rw [if_neg hs]
  rw [errV_some hs,hnu] at HNm
  generalize shTo D n (lP xs)=z at HNm HEr
  generalize xs.length=xl at HNm ⊢
  clear hM hX hB0 hr hS hz hl hE hR hde hs hnu
  go_enter Tryz.func28,Tryz.ntmps28
  go_wp2_with fail
  refine hn.mono ?_
  rintro e w1 ⟨⟨qp,g,X,rfl,-,-,-⟩,hb1⟩
  obtain ⟨x1,x2,x3⟩:=HBox.out w1 hb1 (.pointer (some ⟨qp,0,none⟩)) 88
  obtain ⟨w2,hw2⟩:∃ w2,w1.alloc (.cells #[.pointer (some ⟨qp,0,none⟩)] 88)=w2:=⟨_,rfl⟩
  rw [hw2] at x1 x2 x3
  have HB2:Hid (Below w.heap.size w w2):=x3
  clear hb1 hn hA hW x3
  go_wp2_with fail
  refine (HNm.out w2 HB2.out).mono ?_
  rintro e w3 ⟨⟨v,rfl,hO⟩,hb3⟩
  have HB3:Hid (Below w.heap.size w w3):=onB HB2.out hb3
  obtain ⟨AO,lO,cO,hv⟩:∃ AO lO cO,v=.slice AO lO cO:=by
   rcases hO.2 with ⟨h1,h2⟩ | ⟨g,cap,cur,h1,-⟩
   ·exact ⟨none,0,0,h1⟩
   ·exact ⟨_,_,_,h1⟩
  subst hv
  clear hb3 hO
  go_wp2_with fail
  go_returns
  exact ⟨⟨none,0,by rw [HL.out,HEr.out];rfl,by rw [HL.out];exact IntT.nil _ _ _ (by omega)⟩,HB3.out⟩
 obtain ⟨hin,hany⟩:=drN_in hE hs
 have hnu:nuL D n (lP xs)=drN D n (lP xs):=by unfold nuL;rw [if_pos hs]
 have hdl:(drN D n (lP xs)).length=xs.length:=by unfold drN lP;rw [List.length_map,List.length_map]
 rw [hs,hnu,errV_zero] at HNm
 have hp3:=(allErr_some hE).2.2.1
 have HCf:Hid (∀ q g X b w' A' c',PlanV w' q g n D X→w'.cell? ⟨b,0,none⟩=some (.pointer (some ⟨q,0,none⟩))→b<w'.heap.size→IntT w' A' c' (drN D n (lP xs))→Calls Tryz.prog 63 #[.slice A' (drN D n (lP xs)).length c',.func (.func 64) #[] #[.pointer (some ⟨b,0,none⟩)]] w' fun e w''=>e=.returned (.bool ((lP xs).any fun q => !leafV D n q))∧Below w'.heap.size w' w''):=fun q g X b w' A' c' hA hc hb hI=>by
  rw [←hany]
  refine icontm_any 64 #[.pointer (some ⟨b,0,none⟩)] (fun z => !leafV D n (placeL D n z.toNat)) ent_dirty1 A' c' (drN D n (lP xs)) w' (by omega) hI.at fun z w2 hz hB2=>?_
  obtain ⟨j,rfl,hj⟩:=hin z hz
  rw [Int.toNat_natCast]
  exact dirty1_any q g n b D X j w2 hE hj (hA.later hB2) ((hB2.cell (p:=⟨b,0,none⟩) hb).trans hc)
 have HUs:Hid (∀ q g X w',PlanV w' q g n D X→Calls Tryz.prog 65 #[.pointer (some ⟨q,0,none⟩)] w' fun e w''=>(∃ gU,e=.returned (.slice (some ⟨gU,0,none⟩) (prodN D n) (prodN D n))∧UMk w'' gU (prodN D n) (prodN D n) (rowsL D n) w')∧Below w'.heap.size w' w''):=fun q g X w' hA=>by
  refine (users_any q g n D X w' hR hE hA).mono ?_
  rintro e w'' ⟨gU,rfl,hU⟩
  exact ⟨⟨gU,rfl,hU⟩,hU.choose_spec.2⟩
 have HRe:Hid (∀ gU w0 w1 b w' A' c',UMk w1 gU (prodN D n) (prodN D n) (rowsL D n) w0→Below w1.heap.size w1 w'→w'.cell? ⟨b,0,none⟩=some (.slice (some ⟨gU,0,none⟩) (prodN D n) (prodN D n))→b<w'.heap.size→IntT w' A' c' (drN D n (lP xs))→Calls Tryz.prog 57 #[.slice A' (drN D n (lP xs)).length c',.func (.func 66) #[] #[.pointer (some ⟨b,0,none⟩)]] w' fun e w''=>(∃ A' c',e=.returned (.tuple #[.slice A' (drtL D n (drN D n (lP xs))).length c',.nilIface])∧IntT w'' A' c' (drtL D n (drN D n (lP xs))))∧Below w'.heap.size w' w''):=fun gU w0 w1 b w' A' c' hU hB1 hc hb hI=>by
  obtain ⟨UV,hU,-⟩:=hU
  have h:=nreach_any 66 #[] #[.pointer (some ⟨b,0,none⟩)] (fun y=>usrL (rowsL D n) y (prodN D n)) (prodN D n) ent_dirty2 A' c' (drN D n (lP xs)) w' hp3 (by omega) hI hin (fun y _=>usr_in y) (fun y hy=>by have:=usr_len (rowsL D n) y (prodN D n);omega) fun y w2 hy hB2=>by
   have hU2:=(hU.later hB1).later hB2
   refine (dirty2_any b gU (prodN D n) y (UV y) w2 hp3 hy ((hB2.cell (p:=⟨b,0,none⟩) hb).trans hc) (hU2.hU.cell hy)).mono ?_
   rintro e w3 ⟨rfl,hb3⟩
   obtain ⟨A2,c2,hv,hI2⟩:=intT_own (hU2.own y hy)
   refine ⟨⟨A2,c2,by rw [hv],hI2.later hb3,fun a ha=>Or.inl ?_⟩,hb3⟩
   exact (own_blk ((hU.later hB1).own y hy) (by rw [hv,ha];rfl)).2.1
  refine Calls.mono h ?_
  rintro e w'' ⟨⟨v,L,rfl,hO,hLt,hLm⟩,hb2⟩
  obtain ⟨A2,c2,rfl,hI2⟩:=intT_own hO
  rw [←dirty_eq hR hE hin hLt hLm]
  exact ⟨⟨A2,c2,rfl,hI2⟩,hb2⟩
 obtain ⟨LN,hLN⟩:∃ LN,drN D n (lP xs)=LN:=⟨_,rfl⟩
 have HLN:Hid (drN D n (lP xs)=LN):=hLN
 rw [hLN] at HNm HCf HRe hdl
 obtain ⟨N,hN⟩:∃ N,prodN D n=N:=⟨_,rfl⟩
 rw [hN] at HUs HRe hp3
 have hNI:(N:Int)≤3000:=by omega
 by_cases hlf:((lP xs).any fun q => !leafV D n q)=true
 case pos =>
  have hz:drE D n (lP xs)=6:=by rw [hde];unfold drTo;rw [if_neg (by simpa using hs),if_pos hlf]
  have HL:Hid (ddL D n (lP xs)=[]):=by show _=_;unfold ddL;rw [if_neg (by rw [hz];decide)]
  have HEr:Hid (errV (drE D n (lP xs))=.iface 95 (.int .i64 6)):=by show _=_;rw [hz,errV_some (by decide)]
  rw [hlf] at HCf
  generalize rowsL D n=Nn at HUs HRe
  generalize xs.length=xl at HNm hl hdl ⊢
  have hxl:LN.length≤3000:=by omega
  clear hM hX hB0 hr hS hz hE hR hde hs hnu hany hin hlf hLN hN HRe hdl
  go_enter Tryz.func28,Tryz.ntmps28
  go_wp2_with fail
  refine hn.mono ?_
  rintro e w1 ⟨⟨qp,g,X,rfl,-,-,hPl⟩,hb1⟩
  obtain ⟨x1,x2,x3⟩:=HBox.out w1 hb1 (.pointer (some ⟨qp,0,none⟩)) 88
  obtain ⟨w2,hw2⟩:∃ w2,w1.alloc (.cells #[.pointer (some ⟨qp,0,none⟩)] 88)=w2:=⟨_,rfl⟩
  have hb2:Below w1.heap.size w1 w2:=by rw [←hw2];go_grown
  have c2:w2.cell? ⟨w1.heap.size,0,none⟩=some (.pointer (some ⟨qp,0,none⟩)):=by rw [←hw2];exact (Lib.cell_of_heap (heap_alloc_new w1 _) 0).trans rfl
  have hs2:w1.heap.size<w2.heap.size:=by rw [←hw2];simp
  rw [hw2] at x1 x2 x3
  have HB2:Hid (Below w.heap.size w w2):=x3
  have HP2:Hid (PlanV w2 qp g n D X):=hPl.later hb2
  have HC2:Hid (w2.cell? ⟨w1.heap.size,0,none⟩=some (.pointer (some ⟨qp,0,none⟩))):=c2
  clear hb1 hn hA hW x3 hPl hb2
  go_wp2_with fail
  refine (HNm.out w2 HB2.out).mono ?_
  rintro e w3 ⟨⟨v,rfl,hO⟩,hb3⟩
  obtain ⟨A3,c3,hv,hI3⟩:=intT_own hO
  have HB3:Hid (Below w.heap.size w w3):=onB HB2.out hb3
  have hcf:=HCf.out qp g X w1.heap.size w3 A3 c3 (HP2.out.later hb3) ((hb3.cell (p:=⟨w1.heap.size,0,none⟩) hs2).trans HC2.out) (Nat.lt_of_lt_of_le hs2 hb3.size) hI3
  subst hv
  clear hb3 hO hI3 hw2 c2
  go_wp2_with fail
  refine hcf.mono ?_
  rintro e w4 ⟨rfl,hb4⟩
  have HB4:Hid (Below w.heap.size w w4):=onB HB3.out hb4
  clear hb4 hcf
  go_wp2_with fail
  go_returns
  exact ⟨⟨none,0,by rw [HL.out,HEr.out];rfl,by rw [HL.out];exact IntT.nil _ _ _ (by omega)⟩,HB4.out⟩
 have hlf':((lP xs).any fun q => !leafV D n q)=false:=by simpa using hlf
 have hz:drE D n (lP xs)=0:=by rw [hde];unfold drTo;rw [if_neg (by simpa using hs),if_neg hlf]
 have HL:Hid (ddL D n (lP xs)=drtL D n LN):=by show _=_;unfold ddL;rw [if_pos hz,hLN]
 have HEr:Hid (errV (drE D n (lP xs))=.nilIface):=by show _=_;rw [hz,errV_zero]
 rw [hlf'] at HCf
 generalize rowsL D n=Nn at HUs HRe
 generalize xs.length=xl at HNm hl hdl ⊢
 have hxl:LN.length≤3000:=by omega
 generalize drtL D n LN=DL at HL HRe
 clear hM hX hB0 hr hS hz hE hR hde hs hnu hany hin hlf hlf' hLN hN hdl
 go_enter Tryz.func28,Tryz.ntmps28
 go_wp2_with fail
 refine hn.mono ?_
 rintro e w1 ⟨⟨qp,g,X,rfl,-,-,hPl⟩,hb1⟩
 obtain ⟨x1,x2,x3⟩:=HBox.out w1 hb1 (.pointer (some ⟨qp,0,none⟩)) 88
 obtain ⟨w2,hw2⟩:∃ w2,w1.alloc (.cells #[.pointer (some ⟨qp,0,none⟩)] 88)=w2:=⟨_,rfl⟩
 have hb2:Below w1.heap.size w1 w2:=by rw [←hw2];go_grown
 have c2:w2.cell? ⟨w1.heap.size,0,none⟩=some (.pointer (some ⟨qp,0,none⟩)):=by rw [←hw2];exact (Lib.cell_of_heap (heap_alloc_new w1 _) 0).trans rfl
 have hs2:w1.heap.size<w2.heap.size:=by rw [←hw2];simp
 rw [hw2] at x1 x2 x3
 have HB2:Hid (Below w.heap.size w w2):=x3
 have HP2:Hid (PlanV w2 qp g n D X):=hPl.later hb2
 have HC2:Hid (w2.cell? ⟨w1.heap.size,0,none⟩=some (.pointer (some ⟨qp,0,none⟩))):=c2
 clear hb1 hn hA hW x3 hPl hb2
 go_wp2_with fail
 refine (HNm.out w2 HB2.out).mono ?_
 rintro e w3 ⟨⟨v,rfl,hO⟩,hb3⟩
 obtain ⟨A3,c3,hv,hI3⟩:=intT_own hO
 have HB3:Hid (Below w.heap.size w w3):=onB HB2.out hb3
 have HP3:Hid (PlanV w3 qp g n D X):=HP2.out.later hb3
 have HC3:Hid (w3.cell? ⟨w1.heap.size,0,none⟩=some (.pointer (some ⟨qp,0,none⟩))):=(hb3.cell (p:=⟨w1.heap.size,0,none⟩) hs2).trans HC2.out
 have hs3:w1.heap.size<w3.heap.size:=Nat.lt_of_lt_of_le hs2 hb3.size
 have hcf:=HCf.out qp g X w1.heap.size w3 A3 c3 HP3.out HC3.out hs3 hI3
 have HI3:Hid (IntT w3 A3 c3 LN):=hI3
 subst hv
 clear hb3 hO hI3 hw2 c2
 go_wp2_with fail
 refine hcf.mono ?_
 rintro e w4 ⟨rfl,hb4⟩
 have HB4:Hid (Below w.heap.size w w4):=onB HB3.out hb4
 have c4:w4.cell? ⟨w1.heap.size,0,none⟩=some (.pointer (some ⟨qp,0,none⟩)):=(hb4.cell (p:=⟨w1.heap.size,0,none⟩) hs3).trans HC3.out
 have hs4:w1.heap.size<w4.heap.size:=Nat.lt_of_lt_of_le hs3 hb4.size
 have hus:=HUs.out qp g X w4 (HP3.out.later hb4)
 have HI4:Hid (IntT w4 A3 c3 LN):=HI3.out.later hb4
 clear hb4 hcf
 go_wp2_with fail
 refine hus.mono ?_
 rintro e w5 ⟨⟨gU,rfl,hU5⟩,hb5⟩
 obtain ⟨w6,hw6⟩:∃ w6,w5.alloc (.cells #[.slice (some ⟨gU,0,none⟩) N N] 105)=w6:=⟨_,rfl⟩
 have hb6:Below w5.heap.size w5 w6:=by rw [←hw6];go_grown
 have c6:w6.cell? ⟨w5.heap.size,0,none⟩=some (.slice (some ⟨gU,0,none⟩) N N):=by rw [←hw6];exact (Lib.cell_of_heap (heap_alloc_new w5 _) 0).trans rfl
 have hs6:w5.heap.size<w6.heap.size:=by rw [←hw6];simp
 have HB6:Hid (Below w.heap.size w w6):=onB HB4.out (onB hb5 hb6)
 have hre:=HRe.out gU w4 w5 w5.heap.size w6 A3 c3 hU5 hb6 c6 hs6 (HI4.out.later (onB hb5 hb6))
 clear hU5 hb5 hb6 hus c4 c6
 go_wp2_with fail
 refine hre.mono ?_
 rintro e w7 ⟨⟨A7,c7,rfl,hI7⟩,hb7⟩
 have HI7:Hid (IntT w7 A7 c7 DL):=hI7
 have HB7:Hid (Below w.heap.size w w7):=onB HB6.out hb7
 clear hI7 hb7 hre
 go_wp2_with fail
 go_returns
 exact ⟨⟨A7,c7,by rw [HL.out,HEr.out];rfl,by rw [HL.out];exact HI7.out⟩,HB7.out⟩
theorem ndirty_any (A0:Option Addr) (cap n:Nat) (D:Nat→Dm) (A:Nat→Option Addr) (C:Nat→Nat) (Aq:Option Addr) (cq:Nat) (xs:List PL) (w:World) (hM:DimsV w A0 cap n D A C) (hX:PlsA w Aq cq xs) (hl:xs.length≤200) :
  Calls Tryz.prog 28 #[.agg #[.slice A0 n cap],.slice Aq xs.length cq] w fun e w'=>(∃ A' c',e=.returned (.tuple #[.slice A' (ddL D n (lP xs)).length c',errV (drE D n (lP xs))])∧IntsAt w' A' c' (ddL D n (lP xs)))∧Below w.heap.size w w' :=
 (ndirty_t A0 cap n D A C Aq cq xs w hM hX hl).mono fun _ _ ⟨⟨A',c',h1,h2⟩,h3⟩=>⟨⟨A',c',h1,h2.at⟩,h3⟩
end Go.Proofs.YtfngmnhkhfgmjagGreatDoor
