/-
  What Lines of package grid answers, in whatever memory.
-/
import Derived.Test.YtmmpanbkmpdnkahGreatDoorJGBT
import Derived.Test.YtmmpanbkmpdnkahGreatDoorJGBV
namespace Go.Proofs.YtmmpanbkmpdnkahGreatDoor
open Go.ChangeShapes Go.WideShapes Go.ChangeAt Go.RowKit
set_option maxRecDepth 20000
def lnsL (dr dc:Dm) (R K:List Int) (Z:List (List (Int×Int))):List ByteArray:=lnB ⟨#[45]⟩ (gnm dc.mem K) :: (List.range R.length).map fun i=>lnB (dr.mem (R.getD i 0).toNat).name ((Z.getD i []).map txB)
def liE (D:Nat→Dm) (n:Nat) (R K:List Int) (Z:List (List (Int×Int))) (row col:Int):Int:=if (allErr D n).2.2≠0 then (allErr D n).2.2 else if gErr R.length K.length Z≠0 then gErr R.length K.length Z else if outI n row=true∨outI n col=true then 1 else if R.any (outI (D row.toNat).n)=true∨K.any (outI (D col.toNat).n)=true then 1 else 0
def liL (D:Nat→Dm) (n:Nat) (R K:List Int) (Z:List (List (Int×Int))) (row col:Int):List ByteArray:=if liE D n R K Z row col=0 then lnsL (D row.toNat) (D col.toNat) R K Z else []
section
variable {D:Nat→Dm} {n:Nat} {R K:List Int} {Z:List (List (Int×Int))} {row col:Int}
theorem liE_o (h:(allErr D n).2.2≠0):liE D n R K Z row col=(allErr D n).2.2:=by unfold liE;rw [if_pos h]
theorem liE_g (h:(allErr D n).2.2=0) (h2:gErr R.length K.length Z≠0):liE D n R K Z row col=gErr R.length K.length Z:=by unfold liE;rw [if_neg (by simpa using h),if_pos h2]
theorem liE_x (h:(allErr D n).2.2=0) (h2:gErr R.length K.length Z=0) (h3:outI n row=true∨outI n col=true):liE D n R K Z row col=1:=by unfold liE;rw [if_neg (by simpa using h),if_neg (by simpa using h2),if_pos h3]
theorem liE_i (h:(allErr D n).2.2=0) (h2:gErr R.length K.length Z=0) (h3:outI n row=false) (h4:outI n col=false):liE D n R K Z row col=if R.any (outI (D row.toNat).n)=true∨K.any (outI (D col.toNat).n)=true then 1 else 0:=by unfold liE;rw [if_neg (by simpa using h),if_neg (by simpa using h2),if_neg (by rw [h3,h4];decide)]
theorem liL_bad (h:liE D n R K Z row col≠0):liL D n R K Z row col=[]:=by unfold liL;rw [if_neg h]
theorem lns_len (dr dc:Dm):(lnsL dr dc R K Z).length=R.length+1:=by simp [lnsL]
theorem any_in {L:List Int} {m:Nat} (h:L.any (outI m)=false):∀ k∈L,∃ j:Nat,k=j∧j<m:=fun k hk=>outI_in (by simpa using List.any_eq_false.1 h k hk)
theorem name_small (h:(allErr D n).2.2=0) {i j:Nat} (hi:i<n) (hj:j<(D i).n):((D i).mem j).name.size≤30:=by
 have h1:=(dimErr_right ((allErr_right h).2 i hi)).2.2.2 j hj
 have h2:nameErr ((D i).mem j).name=0:=by
  unfold memErr at h1
  split at h1
  ·cases h1
  ·rename_i h3;simpa using h3
 unfold nameErr at h2
 split at h2
 ·cases h2
 ·omega
end
theorem lns_take (dr dc:Dm) (R K:List Int) (Z:List (List (Int×Int))) {k:Nat} (h:k<R.length):((lnsL dr dc R K Z).map Value.string).take (k+1+1)=((lnsL dr dc R K Z).map Value.string).take (k+1) ++ [.string (lnB (dr.mem (R.getD k 0).toNat).name ((Z.getD k []).map txB))]:=by
 rw [List.take_succ_eq_append_getElem (by simp [lnsL];omega)]
 simp [lnsL]
theorem nm_own {w:World} {base n:Nat} {v:Value} {L:List ByteArray} (h:w.ownsRow base 9 1 v n (L.map Value.string)) (hn:L.length=n) (hb:n≤1048577):∃ A c,v=.slice A n c∧NmV w A c L:=by
 rcases str_cells h hn with ⟨rfl,rfl⟩ | ⟨g,c,rfl,h1,h2,h3,h4⟩
 ·simp at hn
  subst hn
  exact ⟨none,0,rfl,Nat.le_refl _,by simp,by omega,Or.inl rfl⟩
 ·refine ⟨_,c,rfl,by omega,by omega,h2,Or.inr ⟨g,0,rfl,h3,fun j hj=>?_⟩⟩
  rw [h4 j _ (List.getElem?_eq_getElem hj)]
  simp [List.getD,hj]
theorem NmV.none0 (w:World):NmV w none 0 []:=⟨Nat.le_refl _,by simp,by omega,Or.inl rfl⟩
def liW (w:World) (o u v z:Value):World:=(w.alloc (.cells #[o] 30)).alloc (.cells #[u,v,z] 75)
theorem liW_at (w:World) (o u v z:Value):(liW w o u v z).heap[w.heap.size]?=some (.cells #[o] 30 (0,0))∧(liW w o u v z).heap[w.heap.size+1]?=some (.cells #[u,v,z] 75 (0,0)):=by
 have h1:(w.alloc (.cells #[o] 30)).heap[w.heap.size]?=some (.cells #[o] 30 (0,0)):=heap_alloc_new ..
 have hs:(w.alloc (.cells #[o] 30)).heap.size=w.heap.size+1:=by simp
 refine ⟨(Below.heap_alloc _ _ _ (by omega)).trans h1,?_⟩
 rw [←hs]
 exact heap_alloc_new ..
theorem liW_below (w:World) (o u v z:Value):Below w.heap.size w (liW w o u v z):=by unfold liW;go_grown
set_option maxHeartbeats 16000000 in
theorem glines_any (A0:Option Addr) (cap n:Nat) (D:Nat→Dm) (A:Nat→Option Addr) (C:Nat→Nat) (Ar:Option Addr) (R:List Int) (cr:Nat) (Ac:Option Addr) (K:List Int) (cc:Nat) (Ag:Option Addr) (cg:Nat) (zz:List CsL) (row col:Int) (w:World) (hn:zz.length≤1048576) (hx:∀ x∈zz,x.L.length≤1048576) (hR:R.length≤1048576) (hK:K.length≤1048576) (hE:TabE w) (hM:DimsV w A0 cap n D A C) (hPr:PlAt w Ar cr R) (hPk:PlAt w Ac cc K) (hZ:CssV w Ag cg zz) :
  Calls Tryz.prog 39 #[.agg #[.slice A0 n cap],.agg #[.slice Ar R.length cr,.slice Ac K.length cc,.slice Ag zz.length cg],.int .i64 row,.int .i64 col] w fun e w'=>(∃ A' c',e=.returned (.tuple #[.slice A' (liL D n R K (lZ zz) row col).length c',errV (liE D n R K (lZ zz) row col)])∧NmV w' A' c' (liL D n R K (lZ zz) row col))∧Below w.heap.size w w':=by
 obtain ⟨i0,hi0,hz0,hz1,hz2⟩:=info_parts Tryz.infoStrF
 have hB0:=liW_below w (.slice A0 n cap) (.slice Ar R.length cr) (.slice Ac K.length cc) (.slice Ag zz.length cg)
 obtain ⟨b1,b2⟩:=liW_at w (.slice A0 n cap) (.slice Ar R.length cr) (.slice Ac K.length cc) (.slice Ag zz.length cg)
 obtain ⟨W,hW⟩:∃ W,liW w (.slice A0 n cap) (.slice Ar R.length cr) (.slice Ac K.length cc) (.slice Ag zz.length cg)=W:=⟨_,rfl⟩
 rw [hW] at hB0 b1 b2
 unfold liW at hW
 have hs:w.heap.size+1<W.heap.size:=(Array.getElem?_eq_some_iff.1 b2).1
 have hal:=all_any A0 cap n D A C W (hM.later hB0)
 have HB0:=hid_of hB0
 have HK:Hid (∀ w',Below W.heap.size W w'→w'.cell? ⟨w.heap.size,0,none⟩=some (.slice A0 n cap)∧w'.cell? ⟨w.heap.size+1,0,none⟩=some (.slice Ar R.length cr)∧w'.cell? ⟨w.heap.size+1,1,none⟩=some (.slice Ac K.length cc)∧w'.cell? ⟨w.heap.size+1,2,none⟩=some (.slice Ag zz.length cg)∧w.heap.size+1<w'.heap.size):=fun w' h=>by
  have h1:=(h.block _ (by omega)).trans b1
  obtain ⟨x0,x1,x2,-,-,-⟩:=tri_at ((h.block _ hs).trans b2)
  exact ⟨(Lib.cell_of_heap h1 0).trans rfl,x0,x1,x2,Nat.lt_of_lt_of_le hs h.size⟩
 obtain ⟨k0,k1,k2,k3,-⟩:=HK.out W (Below.refl _ _)
 have HM:=hid_of hM
 have HPr:=hid_of hPr
 have HPk:=hid_of hPk
 have HZ:=hid_of hZ
 have HTb:=hid_of hE
 have HX:=hid_of hx
 obtain ⟨Z,hZz⟩:∃ Z,lZ zz=Z:=⟨_,rfl⟩
 have HZz:=hid_of hZz
 rw [hZz]
 generalize (allErr D n).1=x1 at hal
 generalize (allErr D n).2.1=x2 at hal
 clear hB0 b1 b2 hM hPr hPk hZ hE hx hZz
 go_enter Tryz.func39,Tryz.ntmps39
 go_wp2_with fail
 refine hal.mono ?_
 rintro e w1 ⟨he,hb1⟩
 by_cases hA:(allErr D n).2.2=0
 case neg =>
  rw [errV_some hA] at he
  subst he
  have HF:Hid (liE D n R K Z row col=(allErr D n).2.2∧liL D n R K Z row col=[]):=⟨liE_o hA,liL_bad (by rw [liE_o hA];exact hA)⟩
  have HA:=hid_of hA
  clear hal hA
  go_wp2_with fail
  go_returns
  rw [HF.out.1,HF.out.2,errV_some HA.out]
  exact ⟨⟨none,0,rfl,NmV.none0 _⟩,onB HB0.out hb1⟩
 rw [hA,errV_zero] at he
 subst he
 have HA:=hid_of hA
 have HW1:=hid_of hb1
 have hck:=gcheck_any Ar R.length cr Ac K.length cc Ag cg zz w1 hn HX.out (HZ.out.later (onB HB0.out hb1))
 rw [HZz.out] at hck
 obtain ⟨d0,d1,d2,d3,d4⟩:=HK.out w1 hb1
 clear hb1 hal hA k0 k1 k2 k3
 go_wp2_with fail
 refine hck.mono ?_
 rintro e w2 ⟨he,hb2⟩
 have hW2:=onB HW1.out hb2
 by_cases hG:gErr R.length K.length Z=0
 case neg =>
  rw [errV_some hG] at he
  subst he
  have HF:Hid (liE D n R K Z row col=gErr R.length K.length Z∧liL D n R K Z row col=[]):=⟨liE_g HA.out hG,liL_bad (by rw [liE_g HA.out hG];exact hG)⟩
  have HG:=hid_of hG
  have HW2:=hid_of hW2
  clear hck hG hb2 hW2
  go_wp2_with fail
  go_returns
  rw [HF.out.1,HF.out.2,errV_some HG.out]
  exact ⟨⟨none,0,rfl,NmV.none0 _⟩,onB HB0.out HW2.out⟩
 rw [hG,errV_zero] at he
 subst he
 have HG:=hid_of hG
 obtain ⟨f0,f1,f2,f3,f4⟩:=HK.out w2 hW2
 obtain ⟨y2,hy2⟩:∃ y2,w2.alloc (.cells #[.int .i64 row,.int .i64 col] 3)=y2:=⟨_,rfl⟩
 have hBy2:Below w2.heap.size w2 y2:=by rw [←hy2];go_grown
 have hyb2:y2.heap[w2.heap.size]?=some (.cells #[.int .i64 row,.int .i64 col] 3 (0,0)):=by rw [←hy2];exact heap_alloc_new ..
 have hPb:PB y2 w2.heap.size [row,col]:=⟨_,hyb2,fun j hj=>by
  match j,hj with
  | 0,_=>rfl
  | 1,_=>rfl⟩
 have hout:=outside_any (some ⟨w2.heap.size,0,none⟩) 2 [row,col] n y2 (by simp) (hPb.pl (by simp))
 rw [any_two] at hout
 simp only [List.length_cons,List.length_nil,Nat.zero_add,Nat.reduceAdd] at hout
 have HWy2:=hid_of (onB hW2 hBy2)
 obtain ⟨q0,-,-,-,q4⟩:=HK.out y2 HWy2.out
 have hq0:w.heap.size<y2.heap.size:=by omega
 clear hb2 hW2 hck hG hBy2 hyb2 hPb d0 d1 d2 d3 d4
 go_wp2_with fail
 refine hout.mono ?_
 rintro e w3 ⟨he,hb3⟩
 have hW3:=onB HWy2.out hb3
 have HW3:=hid_of hW3
 clear hb3 hout HWy2 q0 hq0 f0 f1 f2 f3 f4 hy2 q4
 cases hob:(outI n row || outI n col) with
 | true =>
  rw [hob] at he
  subst he
  have HF:Hid (liE D n R K Z row col=1∧liL D n R K Z row col=[]):=by
   have h1:liE D n R K Z row col=1:=liE_x HA.out HG.out (by simpa using hob)
   exact ⟨h1,liL_bad (by rw [h1];omega)⟩
  clear hob hW3
  go_wp2_with fail
  go_returns
  rw [HF.out.1,HF.out.2]
  exact ⟨⟨none,0,rfl,NmV.none0 _⟩,onB HB0.out HW3.out⟩
 | false =>
  rw [hob] at he
  subst he
  obtain ⟨ho1,ho2⟩:outI n row=false∧outI n col=false:=by simpa using hob
  have hLi:=liE_i (R:=R) (K:=K) (Z:=Z) HA.out HG.out ho1 ho2
  obtain ⟨i,hri,hi⟩:=outI_in ho1
  obtain ⟨k,hck,hk⟩:=outI_in ho2
  subst hri
  subst hck
  have HL1:Hid (R.any (outI (D i).n)=true∨K.any (outI (D k).n)=true→liE D n R K Z (i:Int) (k:Int)=1):=fun h=>hLi.trans (if_pos h)
  have HL0:Hid (R.any (outI (D i).n)=false→K.any (outI (D k).n)=false→liE D n R K Z (i:Int) (k:Int)=0):=fun h1 h2=>hLi.trans (if_neg fun h=>by
   rcases h with h | h
   ·exact absurd (h1.symm.trans h) (by decide)
   ·exact absurd (h2.symm.trans h) (by decide))
  clear hLi
  obtain ⟨hn1,hn4,-,hd⟩:=allErr_some HA.out
  obtain ⟨hm1a,hm1⟩:=hd i hi
  obtain ⟨hm2a,hm2⟩:=hd k hk
  have hBw3:=onB HB0.out hW3
  obtain ⟨hcap,h0 | ⟨b0,o0,rfl,hDs⟩⟩:=HM.out.later hBw3
  ·omega
  obtain ⟨-,-,e1,hMi⟩:=hDs.2 i hi
  obtain ⟨-,-,e2,hMk⟩:=hDs.2 k hk
  obtain ⟨hci,h0 | ⟨bi,oi,hAi,hMi⟩⟩:=hMi
  ·omega
  obtain ⟨hckk,h0 | ⟨bk,ok,hAk,hMk⟩⟩:=hMk
  ·omega
  have hbl:=hDs.1
  have HMk:=hid_of hMk
  have HNi:Hid (∀ j,j<(D i).n→((D i).mem j).name.size≤30):=fun j hj=>name_small HA.out hi hj
  have HNk:Hid (∀ j,j<(D k).n→((D k).mem j).name.size≤30):=fun j hj=>name_small HA.out hk hj
  have HLv:Hid (liE D n R K Z (i:Int) (k:Int)=0→liL D n R K Z (i:Int) (k:Int)=lnsL (D i) (D k) R K Z):=fun h=>by unfold liL;rw [if_pos h];simp
  have HMw:Hid (∀ w',Below w.heap.size w w'→MemsAt w' bi oi (D i).n (D i).mem):=fun w' h=>by
   obtain ⟨-,h0 | ⟨b0',o0',hh,hDs'⟩⟩:=HM.out.later h
   ·omega
   obtain ⟨-,-,-,-,h0 | ⟨bi',oi',hAi',hMi'⟩⟩:=hDs'.2 i hi
   ·omega
   rw [hAi] at hAi'
   cases hAi'
   exact hMi'
  rw [hAi] at e1
  rw [hAk] at e2
  obtain ⟨f0,f1,f2,f3,f4⟩:=HK.out w3 hW3
  obtain ⟨m1,hm1e⟩:∃ m,(D i).n=m:=⟨_,rfl⟩
  obtain ⟨m2,hm2e⟩:∃ m,(D k).n=m:=⟨_,rfl⟩
  rw [hm1e] at e1 hm1 hm1a HNi hci HL1 HL0 HMw
  rw [hm2e] at e2 hm2 hm2a HMk HNk hckk HL1 HL0
  have HoR:Hid (∀ w',Below w3.heap.size w3 w'→Calls Tryz.prog 67 #[.slice Ar R.length cr,.int .i64 m1] w' fun e w''=>e=.returned (.bool (R.any (outI m1)))∧Below w'.heap.size w' w''):=fun w' h=>outside_any Ar cr R m1 w' hR (HPr.out.later (onB hBw3 h))
  have HWw:Hid (Below w.heap.size w w3):=hBw3
  have hiI:(i:Int)<(n:Int):=by omega
  have hkI:(k:Int)<(n:Int):=by omega
  generalize C i=C1 at e1 hci
  generalize C k=C2 at e2 hckk
  have hw3:w.heap.size<w3.heap.size:=by omega
  clear hob ho1 ho2 hDs hMi hMk hd hAi hAk hm1e hm2e hBw3
  go_wp2_with fail
  go_quiet (fail)
  go_wp2_with fail
  refine (HoR.out _ (below_drewN (Below.refl _ _) _)).mono ?_
  rintro e w4 ⟨he,hb4⟩
  have hB34:Below w3.heap.size w3 w4:=onB (below_drewN (Below.refl _ _) _) hb4
  have HB34:=hid_of hB34
  obtain ⟨j0,j1,j2,j3,j4⟩:=HK.out w4 (onB HW3.out hB34)
  cases hRa:R.any (outI m1) with
  | true =>
   rw [hRa] at he
   subst he
   have HF:Hid (liE D n R K Z (i:Int) (k:Int)=1∧liL D n R K Z (i:Int) (k:Int)=[]):=by
    have h1:=HL1.out (Or.inl hRa)
    exact ⟨h1,liL_bad (by rw [h1];omega)⟩
   clear hRa hb4 hB34
   go_wp2_with fail
   go_returns
   rw [HF.out.1,HF.out.2]
   exact ⟨⟨none,0,rfl,NmV.none0 _⟩,onB HWw.out HB34.out⟩
  | false =>
  rw [hRa] at he
  subst he
  have hoK:=outside_any Ac cc K m2 w4 hK (HPk.out.later (onB HWw.out hB34))
  have HRa:=hid_of hRa
  clear hRa hb4 HoR f0 f1 f2 f3
  have hj4:w.heap.size<w4.heap.size:=by omega
  go_wp2_with fail
  refine hoK.mono ?_
  rintro e w5 ⟨he,hb5⟩
  have hB35:Below w3.heap.size w3 w5:=onB hB34 hb5
  have HB35:=hid_of hB35
  obtain ⟨l0,l1,l2,l3,l4⟩:=HK.out w5 (onB HW3.out hB35)
  cases hKa:K.any (outI m2) with
  | true =>
   rw [hKa] at he
   subst he
   have HF:Hid (liE D n R K Z (i:Int) (k:Int)=1∧liL D n R K Z (i:Int) (k:Int)=[]):=by
    have h1:=HL1.out (Or.inr hKa)
    exact ⟨h1,liL_bad (by rw [h1];omega)⟩
   clear hKa hb5 hB34 hB35 hoK
   go_wp2_with fail
   go_returns
   rw [HF.out.1,HF.out.2]
   exact ⟨⟨none,0,rfl,NmV.none0 _⟩,onB HWw.out HB35.out⟩
  | false =>
  rw [hKa] at he
  subst he
  have HE0:=hid_of (HL0.out HRa.out hKa)
  have HLl:=hid_of (HLv.out HE0.out)
  have HinR:=hid_of (any_in HRa.out)
  have HinK:=hid_of (any_in hKa)
  have hnm:=gnames_any bk ok m2 C2 (D k).mem Ac cc K w5 hm2 hK (any_in hKa) (HMk.out.later hB35) (HPk.out.later (onB HWw.out hB35))
  have hj5:w.heap.size<w5.heap.size:=by omega
  clear hKa hb5 hB34 hB35 hoK j0 j1 j2 j3 j4 HB34
  go_wp2_with fail
  refine hnm.mono ?_
  rintro e w6 ⟨⟨v6,rfl,hO6⟩,hb6⟩
  have HB36:=hid_of (onB HB35.out hb6)
  have hln:=gline_any ⟨#[45]⟩ v6 w5.heap.size K.length (gnm (D k).mem K) w6 (by decide) (by simp [gnm]) hK (fun x hx=>by
   obtain ⟨z,hz,rfl⟩:=List.mem_map.1 hx
   obtain ⟨j,rfl,hj⟩:=HinK.out z hz
   exact HNk.out j hj) hO6
  clear hO6 hb6 hnm HB35 l0 l1 l2 l3
  go_wp2_with fail
  refine hln.mono ?_
  rintro e w7 ⟨rfl,hb7⟩
  have HW7:=hid_of (onB HW3.out (onB HB36.out hb7))
  obtain ⟨x,hx⟩:∃ x,lnB ⟨#[45]⟩ (gnm (D k).mem K)=x:=⟨_,rfl⟩
  obtain ⟨G,hG⟩:∃ G,(lnsL (D i) (D k) R K Z).map Value.string=G:=⟨_,rfl⟩
  have HGl:Hid (G.length=R.length+1):=by show _=_;rw [←hG,List.length_map,lns_len]
  have HTk:Hid (∀ q,q<R.length→G.take (q+1+1)=G.take (q+1) ++ [.string (lnB ((D i).mem (R.getD q 0).toNat).name ((Z.getD q []).map txB))]):=fun q hq=>by rw [←hG];exact lns_take _ _ _ _ _ hq
  have HT1:Hid (G.take 1=[.string x]):=by show _=_;rw [←hG,←hx];rfl
  have HGe:=hid_of hG
  obtain ⟨y7,hy7⟩:∃ y7,w7.alloc (.cells #[.string x] 9)=y7:=⟨_,rfl⟩
  have hBy7:Below w7.heap.size w7 y7:=by rw [←hy7];go_grown
  have HWy7:=hid_of (onB HW7.out hBy7)
  have HO7:Hid (y7.ownsRow W.heap.size 9 1 (.slice (some ⟨w7.heap.size,0,none⟩) 1 1) (0+1) (G.take (0+1))):=by
   show World.ownsRow ..
   rw [←hy7]
   have h:=World.ownsRow_lit (base:=W.heap.size) (e:=9) (size:=1) w7 #[.string x] 1 HW7.out.size (by unfold maxLen;omega) (by simp)
   rw [HT1.out]
   exact h
  obtain ⟨l0,l1,l2,l3,l4⟩:=HK.out y7 HWy7.out
  rw [hx]
  obtain ⟨hzl,hzr,hzg⟩:=gErr_right HG.out
  have HZr:=hid_of hzr
  have HZg:=hid_of hzg
  have hzl2:zz.length=R.length:=by rw [←lZ_len,HZz.out];exact hzl
  have HZl:=hid_of hzl2
  obtain ⟨N,hN⟩:∃ N,R.length=N:=⟨_,rfl⟩
  have HN:=hid_of hN
  have HEnd:Hid (∀ (wq:World) (v:Value),wq.ownsRow W.heap.size 9 1 v (N+1) (G.take (N+1))→∃ A' c',v=.slice A' (liL D n R K Z (i:Int) (k:Int)).length c'∧NmV wq A' c' (liL D n R K Z (i:Int) (k:Int))):=fun wq v h=>by
   have hl:=lns_len (R:=R) (K:=K) (Z:=Z) (D i) (D k)
   rw [List.take_of_length_le (by rw [HGl.out,hN];exact Nat.le_refl _),←HGe.out] at h
   obtain ⟨A',c',h1,h2⟩:=nm_own h (by rw [hl,hN]) (by omega)
   rw [HLl.out]
   exact ⟨A',c',by rw [h1,hl,hN],h2⟩
  rw [hN] at l1 hR ⊢
  have hNI:(N:Int)≤1048576:=by omega
  have hm1I:(m1:Int)≤12:=by omega
  clear hb7 hln hx hG hBy7 hzl hzr hzg hzl2 hN
  go_wp2_with fail
  clear hy7
  go_loopg [16,77] N (fun gg s16 s77 wr => ∃ (q:Nat) (v:Value),q≤N∧gg=N-q∧s77=.int .i64 q∧v=s16∧Hid (wr.ownsRow W.heap.size 9 1 v (q+1) (G.take (q+1)))∧Hid (Below W.heap.size W wr))
  case atStart=>exact ⟨0,_,Nat.zero_le _,rfl,rfl,rfl,HO7,HWy7⟩
  case round =>
   obtain ⟨q,v,hq,rfl,rfl,rfl,HO,HB⟩:=hrel
   by_cases hlt:q<N
   ·have hqR:q<R.length:=by rw [HN.out];exact hlt
    have hqI:(q:Int)<(N:Int):=by omega
    have hBw:=onB HB0.out HB.out
    obtain ⟨r0,r1,r2,r3,r4⟩:=HK.out wr HB.out
    obtain ⟨hcr,h0 | ⟨br,or,rfl,hbr,hcl⟩⟩:=HPr.out.later hBw
    ·rw [h0] at hqR;simp at hqR
    have cq:=hcl q hqR
    obtain ⟨j,hj,hjm⟩:=HinR.out _ (getD_memI hqR)
    have HT:=hid_of (HTk.out q hqR)
    rw [hj] at cq HT
    simp only [Int.toNat_natCast] at HT
    have hqz:q<zz.length:=by rw [HZl.out];exact hqR
    obtain ⟨hcg,-,h0 | ⟨bg,og,rfl,hbg,hcz⟩⟩:=HZ.out.later hBw
    ·rw [h0] at hqz;simp at hqz
    obtain ⟨ez,hvz⟩:=hcz q hqz
    have hmem:Z.getD q []∈Z:=by rw [←HZz.out];exact rowD_mem (by rw [lZ_len];exact hqz)
    have hrl:=HZr.out _ hmem
    have hrg:=HZg.out _ hmem
    have ezq:Z.getD q []=(zz.getD q noCs).L:=by rw [←HZz.out];exact lZ_at zz q
    rw [ezq] at hrl hrg HT
    generalize zz.getD q noCs=xz at ez hvz hrl hrg HT
    obtain ⟨xl,xA,xc⟩:=xz
    simp only at ez hvz hrl hrg HT
    rw [hrl] at ez
    have htx:=gtexts_any xA xc xl wr (by omega) hrg (HTb.out.later hBw) hvz
    rw [hrl] at htx
    have htl:(xl.map txB).length=K.length:=by rw [List.length_map];exact hrl
    have hts:∀ z∈xl.map txB,z.size≤30:=fun z hz=>by
     obtain ⟨u,hu,rfl⟩:=List.mem_map.1 hz
     exact txB_size (hrg u hu)
    have HTx:Hid (∀ (vv:Value) (base:Nat) (w':World),w'.ownsRow base 9 1 vv K.length ((xl.map txB).map Value.string)→Calls Tryz.prog 82 #[.string ((D i).mem j).name,vv] w' fun e w''=>e=.returned (.string (lnB ((D i).mem j).name (xl.map txB)))∧Below w'.heap.size w' w''):=fun vv base w' h=>gline_any _ vv base K.length _ w' (HNi.out j hjm) htl hK hts h
    generalize (xl.map txB).map Value.string=tv at htx HTx
    generalize lnB ((D i).mem j).name (xl.map txB)=lx at HTx HT
    obtain ⟨nm,hnm⟩:∃ nm,((D i).mem j).name=nm:=⟨_,rfl⟩
    have HNm:Hid (∀ w',Below w.heap.size w w'→w'.cell? ⟨bi,oi+j*4,none⟩=some (.string nm)∧bi<w'.heap.size):=fun w' h=>by
     have h1:=HMw.out w' h
     exact ⟨by rw [←hnm];exact (h1.2 j hjm).1,h1.1⟩
    rw [hnm] at HTx
    have hjI:(j:Int)<(m1:Int):=by omega
    have hqg:(q:Int)<(zz.length:Int):=by omega
    rw [HN.out] at r1
    clear hcl hcz hmem hrg hj hts htl ezq hnm hrl hvz
    go_wp2_with fail
    refine htx.mono ?_
    rintro e w8 ⟨⟨v8,rfl,hO8⟩,hb8⟩
    have HB8:=hid_of (onB HB.out hb8)
    have HO8:=hid_of (own_later HO.out hb8)
    obtain ⟨n0,hbi⟩:=HNm.out w8 (onB HB0.out HB8.out)
    have hl8:=HTx.out v8 _ w8 hO8
    clear hb8 htx hO8 r0 r1 r2 r3
    go_wp2_with fail
    refine hl8.mono ?_
    rintro e w9 ⟨rfl,hb9⟩
    have HB9:=hid_of (onB HB8.out hb9)
    have hO9:=own_later HO8.out hb9
    have hsz:=HB9.out.size
    clear hb9 hl8
    go_wp2_with (at_builtin;refine wpList_append_own _ rfl _ _ 84 rfl W.heap.size 9 i0 (.string ⟨#[]⟩) 1 16 Tryz.underlying84 hi0 hz0 hz1 hz2 rfl (by decide) _ _ _ rfl (hO9.alloc _) ⟨w9.heap.size,0,none⟩ 1 1 [.string lx] rfl rfl one_cell (by intro u hu;simp at hu;subst hu;rfl) (by unfold maxLen;omega) (by omega) (by simp;omega) ?_)
    intro v' wa hown' hgrow _
    have HBa:Hid (Below W.heap.size W wa):=grown_own HB9.out hO9 hgrow
    have HOa:Hid (wa.ownsRow W.heap.size 9 1 v' (q+1+1) (G.take (q+1+1))):=by
     show World.ownsRow ..
     rw [HT.out]
     exact hown'
    clear hown' hgrow hO9
    go_wp2_with fail
    go_roundg (N-(q+1))
    case measure=>omega
    case rel=>exact ⟨q+1,_,by omega,rfl,by go_num,rfl,HOa,HBa⟩
   ·have hqe:q=N:=by omega
    subst hqe
    have HF:=hid_of (HEnd.out wr v HO.out)
    go_wp2_with fail
    obtain ⟨A',c',rfl,hP⟩:=HF.out
    go_returns
    rw [HE0.out]
    exact ⟨⟨A',c',rfl,hP⟩,onB HB0.out HB.out⟩
theorem ris_in (n:Nat):(risL n).any (outI n)=false:=List.any_eq_false.2 fun x hx=>by
 obtain ⟨j,hj,rfl⟩:=List.mem_map.1 hx
 have:=List.mem_range.1 hj
 unfold outI
 simp
 omega
theorem sq_n (m i:Nat):(squareD m i).n=m+1:=by
 unfold squareD
 split <;> rfl
theorem sq_pl0 (m:Nat) (h9:m≤9):placeErr (squareD m) 2 [0,0]=0:=by
 have h:∀ x:Fin 10,placeErr (squareD x.val) 2 [0,0]=0:=by decide +kernel
 exact h ⟨m,by omega⟩
theorem sq_all (m:Nat) (h9:m≤9):(allErr (squareD m) 2).2.2=0:=by
 have h:∀ x:Fin 10,(allErr (squareD x.val) 2).2.2=0:=by decide +kernel
 exact h ⟨m,by omega⟩
theorem sq_mk (m:Nat) (h9:m≤9):mkE (squareD m) 2 [] [0,0] 0 1=0:=(mkE_in (sq_cube h9).2 (sq_pl0 m h9) rfl rfl).trans (if_neg (by decide))
theorem sq_li (m:Nat) (h9:m≤9) (Z:List (List (Int×Int))) (hZ:gErr (m+1) (m+1) Z=0):liE (squareD m) 2 (risL (m+1)) (risL (m+1)) Z 0 1=0:=by
 refine (liE_i (sq_all m h9) (by rw [risL_len];exact hZ) rfl rfl).trans (if_neg ?_)
 rw [sq_n,sq_n,ris_in]
 decide
set_option maxHeartbeats 8000000 in
theorem gwide_core (m:Nat) (w:World) (hE:TabE w) (h1:1≤m) (h9:m≤9):Calls Tryz.prog 8 #[.int .i64 m] w fun e w'=>e=.returned (.bool true)∧Below w.heap.size w w':=by
 have hmk:=sq_mk m h9
 obtain ⟨er,ec,ez⟩:=mk_all (i:=0) (k:=1) hmk
 have hgr:=mk_right (i:=0) (k:=1) (sq_cube h9).2 (sq_pl0 m h9) (by omega) (by omega)
 rw [sq_n,sq_n] at hgr ez
 rw [sq_n] at er ec
 generalize tab (mkF (squareD m) 2 [] [0,0] ((0:Nat):Int) ((1:Nat):Int)) (m+1) (m+1)=Z at hgr ez
 have hli:=sq_li m h9 Z hgr
 have hll:(liL (squareD m) 2 (risL (m+1)) (risL (m+1)) Z 0 1).length=m+2:=by
  unfold liL
  rw [if_pos hli,lns_len,risL_len]
 obtain ⟨hzl,hzr,-⟩:=gErr_right hgr
 have HTb:=hid_of hE
 have hsq:=square_any m w (by omega)
 have HMk:Hid (mkE (squareD m) 2 [] [0,0] 0 1=0∧mkR (squareD m) 2 [] [0,0] 0 1=risL (m+1)∧mkC (squareD m) 2 [] [0,0] 0 1=risL (m+1)∧mkZ (squareD m) 2 [] [0,0] 0 1=Z):=⟨hmk,er,ec,ez⟩
 have HZl:=hid_of hzl
 have HZr:=hid_of hzr
 have HLi:=hid_of hli
 have HLl:=hid_of hll
 have h1I:(1:Int)≤(m:Int):=by omega
 have h9I:(m:Int)≤9:=by omega
 have hw1:IntKind.i64.wrap ((m:Int)+1)=((m+1:Nat):Int):=by rw [IntKind.wrap_i64];omega
 have hw2:IntKind.i64.wrap ((m:Int)+2)=((m+2:Nat):Int):=by rw [IntKind.wrap_i64];omega
 clear hmk er ec ez hgr hli hll hzl hzr hE
 go_enter Tryz.func8,Tryz.ntmps8
 go_wp2_with fail
 refine hsq.mono ?_
 rintro e w1 ⟨⟨A0,AA,CC,rfl,hD⟩,hb1⟩
 obtain ⟨y1,hy1⟩:∃ y1,w1.alloc (.cells #[.int .i64 0,.int .i64 0] 3)=y1:=⟨_,rfl⟩
 have hby1:Below w1.heap.size w1 y1:=by rw [←hy1];go_grown
 have hPb:PB y1 w1.heap.size [0,0]:=⟨#[.int .i64 0,.int .i64 0],by rw [←hy1];exact heap_alloc_new ..,fun j hj=>by
  match j,hj with
  | 0,_=>rfl
  | 1,_=>rfl⟩
 have hmk:=gmake_any A0 2 2 (squareD m) AA CC none 0 [] (some ⟨w1.heap.size,0,none⟩) 2 [0,0] 0 1 y1 (hD.later hby1) (ens_none _) (hPb.pl (by simp))
 have HB1:=hid_of (onB hb1 hby1)
 rw [show lE ([]:List EnL)=[] from rfl,HMk.out.1,HMk.out.2.1,HMk.out.2.2.1,HMk.out.2.2.2] at hmk
 simp only [List.length_cons,List.length_nil,Nat.zero_add,Nat.reduceAdd] at hmk
 clear hsq hD hb1 hby1 hPb
 go_wp2_with fail
 refine hmk.mono ?_
 rintro e w2 ⟨⟨Ar,cr,Ac,cc,Ag,cg,zz,he,hr,hc,hz,hlz⟩,hb2⟩
 have hzz:zz.length=m+1:=by rw [←lZ_len,hlz];exact HZl.out
 rw [errV_zero,risL_len,hzz] at he
 subst he
 obtain ⟨y2,hy2⟩:∃ y2,w2.alloc (.cells #[.slice Ar (m+1) cr,.slice Ac (m+1) cc,.slice Ag (m+1) cg] 75)=y2:=⟨_,rfl⟩
 have hby2:Below w2.heap.size w2 y2:=by rw [←hy2];go_grown
 have hg2:GBx y2 w2.heap.size (.slice Ar (m+1) cr) (.slice Ac (m+1) cc) (.slice Ag (m+1) cg):=by rw [←hy2];exact GBx.new ..
 have HB2:=hid_of (onB HB1.out (onB hb2 hby2))
 have HLn:Hid (∀ (w':World) (A0:Option Addr) (A:Nat→Option Addr) (C:Nat→Nat),Below y2.heap.size y2 w'→DimsV w' A0 2 2 (squareD m) A C→Calls Tryz.prog 39 #[.agg #[.slice A0 2 2],.agg #[.slice Ar (m+1) cr,.slice Ac (m+1) cc,.slice Ag (m+1) cg],.int .i64 0,.int .i64 1] w' fun e w''=>(∃ A' c',e=.returned (.tuple #[.slice A' (m+2) c',.nilIface]))∧Below w'.heap.size w' w''):=fun w' A0 A C h hD=>by
  have hl:=glines_any A0 2 2 (squareD m) A C Ar (risL (m+1)) cr Ac (risL (m+1)) cc Ag cg zz 0 1 w' (by omega) (fun x hx=>by
   have:=HZr.out x.L (by rw [←hlz];exact List.mem_map.2 ⟨x,hx,rfl⟩)
   omega) (by rw [risL_len];omega) (by rw [risL_len];omega) (HTb.out.later (onB HB2.out h)) hD (hr.later (onB hby2 h)) (hc.later (onB hby2 h)) (hz.later (onB hby2 h))
  rw [hlz,HLi.out,HLl.out,errV_zero,risL_len,hzz] at hl
  exact hl.mono fun e w'' ⟨⟨A',c',h1,_⟩,h2⟩=>⟨⟨A',c',h1⟩,h2⟩
 obtain ⟨q0,q1,q2,q3⟩:=hg2.at
 have HKw:Hid (∀ w',Below y2.heap.size y2 w'→Below y2.heap.size y2 w'∧w'.cell? ⟨w2.heap.size,0,none⟩=some (.slice Ar (m+1) cr)∧w'.cell? ⟨w2.heap.size,1,none⟩=some (.slice Ac (m+1) cc)∧w'.cell? ⟨w2.heap.size,2,none⟩=some (.slice Ag (m+1) cg)):=fun w' h=>by
  obtain ⟨x0,x1,x2,-⟩:=(hg2.later h).at
  exact ⟨h,x0,x1,x2⟩
 clear hmk hb2 hby2 hr hc hz hlz hg2 hzz hy1
 go_wp2_with fail
 go_cut [5,6] from 7 (fun s5 s6 wx=>(∃ A' c',s5=.slice A' (m+2) c'∧s6=.nilIface)∧Below y2.heap.size y2 wx)
 case first =>
  go_region_held3 (fun w'=>Below y2.heap.size y2 w'∧w'.cell? ⟨w2.heap.size,0,none⟩=some (.slice Ar (m+1) cr)∧w'.cell? ⟨w2.heap.size,1,none⟩=some (.slice Ac (m+1) cc)∧w'.cell? ⟨w2.heap.size,2,none⟩=some (.slice Ag (m+1) cg))
   ((refine HKw.out _ ?_;go_grown;done))
   (first | (go_at_call 10;refine (square_any m _ (by omega)).mono ?_;rintro e w4 ⟨⟨A4,AA4,CC4,rfl,hD4⟩,hb4⟩;have hB4:=onB (W0:=y2) (by go_grown) hb4;have hy4:=hB4.size;have HD4:=hid_of hD4;clear hD4 hb4) | (go_at_call 39;refine (HLn.out _ _ _ _ (by go_grown) (HD4.out.later (by go_grown))).mono ?_;rintro e w5 ⟨⟨A5,c5,rfl⟩,hb5⟩;have hB5:=onB (W0:=y2) (by go_grown) hb5;have hy5:=hB5.size;clear hb5))
  all_goals go_wp2_with fail
  all_goals go_meet
  all_goals exact ⟨⟨A5,c5,rfl,rfl⟩,by go_grown⟩
 case rest =>
 obtain ⟨⟨A5,c5,rfl,rfl⟩,hBc⟩:=hcut
 obtain ⟨x0,x1,x2,x3⟩:=HKw.out _ hBc
 have HEnd:=hid_of (onB HB2.out hBc)
 have hq5:w2.heap.size<wc.heap.size:=Nat.lt_of_lt_of_le q3 hBc.size
 clear hBc x0 q0 q1 q2
 go_wp2_with fail
 go_ret
 exact ⟨rfl,HEnd.out⟩
theorem gwide_law (n:Int) (w:World) (hE:TabE w):Calls Tryz.prog 8 #[.int .i64 n] w fun e w'=>e=.returned (.bool true)∧Below w.heap.size w w':=by
 by_cases h1:n<1
 ·go_enter Tryz.func8,Tryz.ntmps8
  go_wp2_with fail
  go_ret
  exact ⟨rfl,Below.refl _ _⟩
 by_cases h2:9<n
 ·go_enter Tryz.func8,Tryz.ntmps8
  go_wp2_with fail
  go_ret
  exact ⟨rfl,Below.refl _ _⟩
 obtain ⟨m,rfl⟩:∃ m:Nat,n=(m:Int):=⟨n.toNat,by omega⟩
 exact gwide_core m w hE (by omega) (by omega)
end Go.Proofs.YtmmpanbkmpdnkahGreatDoor
