/-
  To: a number on the leafs of a place.
-/
import Derived.Test.YtenlladggdcfnaaGreatDoorJABK
import Derived.Test.YtenlladggdcfnaaGreatDoorJABP
namespace Go.Proofs.YtenlladggdcfnaaGreatDoor
open Go Go.ChangeShapes Go.WideShapes Go.ChangeAt Go.RowKit Go.Shelf Go.Lib Go.Sort
set_option maxRecDepth 100000
def toW (D:Nat→Dm) (n:Nat) (l:List En) (p:List Int):List Int:=(lfTo D p n).map (wnV D n (wrV D n l))
noncomputable def toE (D:Nat→Dm) (n:Nat) (l:List En) (p:List Int) (N:Int):Int :=
 if (ruErr D n).2.2≠0 then (ruErr D n).2.2 else if entsErr D n l≠0 then entsErr D n l else if placeErr D n p≠0 then placeErr D n p else if clE D n p≠0 then clE D n p else amE N (toW D n l p)
def edL (P:List (List Int)) (L:List Int):List Ed:=(List.range P.length).map fun i=>⟨P.getD i [],L.getD i 0,false⟩
def ToO (D:Nat→Dm) (n:Nat) (l:List En) (p:List Int) (N:Int) (x:List Ed):Prop:=if toE D n l p N=0 then ∃ L,AmO N (toW D n l p) L∧x=edL (lfTo D p n) L else x=[]
theorem ToO.unique {D:Nat→Dm} {n:Nat} {l:List En} {p:List Int} {N:Int} {x x':List Ed} (h:ToO D n l p N x) (h':ToO D n l p N x'):x=x':=by
 unfold ToO at h h'
 by_cases e:toE D n l p N=0
 ·rw [if_pos e] at h h'
  obtain ⟨L,h1,rfl⟩:=h
  obtain ⟨L',h2,rfl⟩:=h'
  rw [h1.unique h2]
 ·rw [if_neg e] at h h'
  rw [h,h']
def EdB (w:World) (g k j:Nat) (zs:Nat→EdL):Prop := ∃ cur:Array Value,w.heap[g]?=some (.cells cur 61 (0,0))∧cur.size=k*3∧∀ i,i<j→cur[i*3]?=some (.slice (zs i).A (zs i).x.pl.length (zs i).c)∧cur[i*3+1]?=some (.int .i64 (zs i).x.n)∧cur[i*3+2]?=some (.bool (zs i).x.clear)
section
variable {w w':World} {g k j:Nat} {zs:Nat→EdL}
theorem EdB.lt (h:EdB w g k j zs):g<w.heap.size:=by
 obtain ⟨cur,h1,_⟩:=h
 exact (Array.getElem?_eq_some_iff.1 h1).1
theorem EdB.frozen (h:EdB w g k j zs) (i:Nat):w.frozen? ⟨g,i,none⟩=false:=by
 obtain ⟨cur,h1,_⟩:=h
 exact Lib.frozen_of_heap h1 i
theorem EdB.here (h:EdB w g k j zs) {i:Nat} (hi:i<k*3):∃ v,w.cell? ⟨g,i,none⟩=some v:=by
 obtain ⟨cur,h1,h2,_⟩:=h
 rw [Lib.cell_of_heap h1]
 exact ⟨_,Array.getElem?_eq_getElem (by omega)⟩
theorem EdB.put (h:EdB w g k j zs) (hj:j<k):EdB (((w.setCell ⟨g,j*3,none⟩ (.slice (zs j).A (zs j).x.pl.length (zs j).c)).setCell ⟨g,j*3+1,none⟩ (.int .i64 (zs j).x.n)).setCell ⟨g,j*3+2,none⟩ (.bool (zs j).x.clear)) g k (j+1) zs:=by
 obtain ⟨cur,h1,h2,h3⟩:=h
 refine ⟨((cur.setIfInBounds (j*3) (.slice (zs j).A (zs j).x.pl.length (zs j).c)).setIfInBounds (j*3+1) (.int .i64 (zs j).x.n)).setIfInBounds (j*3+2) (.bool (zs j).x.clear),by simp [World.setCell,Array.getElem?_modify,h1],by simpa using h2,fun i hi=>?_⟩
 by_cases e:i=j
 ·subst e
  simp only [Array.getElem?_setIfInBounds,Array.size_setIfInBounds]
  refine ⟨?_,?_,?_⟩
  ·rw [if_neg (by omega),if_neg (by omega),if_pos trivial,if_pos (by omega)]
  ·rw [if_neg (by omega),if_pos trivial,if_pos (by omega)]
  ·rw [if_pos trivial,if_pos (by omega)]
 ·obtain ⟨g1,g2,g3⟩:=h3 i (by omega)
  simp only [Array.getElem?_setIfInBounds]
  refine ⟨?_,?_,?_⟩
  ·rw [if_neg (by omega),if_neg (by omega),if_neg (by omega)];exact g1
  ·rw [if_neg (by omega),if_neg (by omega),if_neg (by omega)];exact g2
  ·rw [if_neg (by omega),if_neg (by omega),if_neg (by omega)];exact g3
theorem EdB.eds (h:EdB w g k k zs) (hk:k≤3000) (hp:∀ i,i<k→PlAt w (zs i).A (zs i).c (zs i).x.pl):EdsV w (some ⟨g,0,none⟩) k ((List.range k).map zs):=by
 have hlt:=h.lt
 obtain ⟨cur,h1,h2,h3⟩:=h
 refine ⟨by simp,by omega,Or.inr ⟨g,0,rfl,hlt,fun i hi=>?_⟩⟩
 have hi':i<k:=by simpa using hi
 have e:((List.range k).map zs).getD i noD=zs i:=by rw [List.getD_eq_getElem?_getD,List.getElem?_map,List.getElem?_range hi'];rfl
 rw [e]
 obtain ⟨g1,g2,g3⟩:=h3 i hi'
 simp only [Nat.zero_add]
 exact ⟨by rw [Lib.cell_of_heap h1];exact g1,by rw [Lib.cell_of_heap h1];exact g2,by rw [Lib.cell_of_heap h1];exact g3,hp i hi'⟩
end
theorem Tryz.infoEdT:(Tryz.prog.info? 61).map (fun i=>(i.zero,i.size,i.bytes))=some (some (.agg #[.slice none 0 0,.int .i64 0,.bool false]),3,40):=by kernel_rfl
def ToRes (D:Nat→Dm) (n:Nat) (l:List En) (p:List Int) (N:Int) (w:World) (e:Ending) (w':World):Prop :=
 ∃ A' c' zs,e=.returned (.tuple #[.slice A' zs.length c',errV (toE D n l p N)])∧EdsV w' A' c' zs∧ToO D n l p N (lD zs)∧Below w.heap.size w w'
theorem toRes_bad {D:Nat→Dm} {n:Nat} {l:List En} {p:List Int} {N:Int} {w w':World} {c:Int} (hc:c≠0) (h:toE D n l p N=c) (hB:Below w.heap.size w w'):ToRes D n l p N w (.returned (.tuple #[.slice none 0 0,.iface 46 (.int .i64 c)])) w' :=
 ⟨none,0,[],by rw [h];unfold errV;rw [if_neg hc];rfl,⟨Nat.le_refl _,by decide,Or.inl rfl⟩,by unfold ToO;rw [if_neg (by rw [h];exact hc)];rfl,hB⟩
theorem errV_bad {c:Int} (h:c≠0):errV c=.iface 46 (.int .i64 c):=by unfold errV;rw [if_neg h]
set_option maxHeartbeats 16000000 in
theorem to_any (A0:Option Addr) (cap n:Nat) (D:Nat→Dm) (A:Nat→Option Addr) (C:Nat→Nat) (AE:Option Addr) (ce:Nat) (xs:List EnL) (Ap:Option Addr) (cp:Nat) (p:List Int) (N:Int) (w:World) (hM:DimsV w A0 cap n D A C) (hEn:EnsV w AE ce xs) (hP:PlAt w Ap cp p) :
  Calls Tryz.prog 11 #[.agg #[.slice A0 n cap],.slice AE xs.length ce,.slice Ap p.length cp,.int .i64 N] w (ToRes D n (lE xs) p N w):=by
 obtain ⟨W,hW⟩:∃ W,w.alloc (.cells #[.slice A0 n cap] 25)=W:=⟨_,rfl⟩
 have hBW:Below w.heap.size w W:=by rw [←hW];go_grown
 have hA:W.cell? ⟨w.heap.size,0,none⟩=some (.slice A0 n cap):=by rw [←hW];simp
 have l0:w.heap.size<W.heap.size:=by rw [←hW];simp
 have HM:=hid_of hM
 have HE:=hid_of hEn
 have HP:=hid_of hP
 have HBW:=hid_of hBW
 have H1:Hid (∀ w',Below w.heap.size w w'→_):=fun w' hB=>rulall_any A0 cap n D A C w' (HM.out.later hB)
 have H2:Hid (∀ w',Below w.heap.size w w'→_):=fun w' hB=>fcells_any A0 cap n D A C AE ce xs w' (HM.out.later hB) (HE.out.later hB)
 obtain ⟨lx,hlx⟩:∃ lx,xs.length=lx:=⟨_,rfl⟩
 obtain ⟨lp,hlp⟩:∃ lp,p.length=lp:=⟨_,rfl⟩
 have HLP:=hid_of hlp
 rw [hlx] at H2
 rw [hlx,hlp]
 clear hM hEn hP hBW hlx hlp
 go_enter Tryz.func11,Tryz.ntmps11
 go_upto_region 1 with fail
 clear hW
 go_wp2_with fail
 refine (H1.out W HBW.out).mono ?_
 rintro e w1 ⟨rfl,hb1⟩
 have hA1:w1.cell? ⟨w.heap.size,0,none⟩=some (.slice A0 n cap):=(hb1.cell l0).trans hA
 have l1:w.heap.size<w1.heap.size:=Nat.lt_of_lt_of_le l0 hb1.size
 have HB1:Hid (Below w.heap.size w w1):=onB HBW.out hb1
 clear hb1 hA l0 HBW H1
 by_cases k1:(ruErr D n).2.2≠0
 ·have HF:=hid_of fun w'=>toRes_bad (D:=D) (n:=n) (l:=lE xs) (p:=p) (N:=N) (w:=w) (w':=w') k1 (by unfold toE;rw [if_pos k1])
  rw [errV_bad k1]
  generalize (ruErr D n).2.2=c at HF ⊢
  generalize (ruErr D n).1=r1
  generalize (ruErr D n).2.1=r2
  clear k1
  go_wp2_with fail
  go_ret2
  exact HF.out _ HB1.out
 have K1:=hid_of k1
 have e1:errV (ruErr D n).2.2=.nilIface:=by unfold errV;rw [if_pos (by simpa using k1)]
 rw [e1]
 generalize (ruErr D n).1=r1
 generalize (ruErr D n).2.1=r2
 clear k1 e1
 go_wp2_with fail
 refine (H2.out w1 HB1.out).mono ?_
 rintro e w2 ⟨⟨Ac,cc,rfl,hC⟩,hb2⟩
 have hA2:w2.cell? ⟨w.heap.size,0,none⟩=some (.slice A0 n cap):=(hb2.cell l1).trans hA1
 have l2:w.heap.size<w2.heap.size:=Nat.lt_of_lt_of_le l1 hb2.size
 have HB2:Hid (Below w.heap.size w w2):=onB HB1.out hb2
 have HC:=hid_of hC
 clear hb2 hA1 l1 HB1 H2 hC
 by_cases k2:entsErr D n (lE xs)≠0
 ·have HF:=hid_of fun w'=>toRes_bad (D:=D) (n:=n) (l:=lE xs) (p:=p) (N:=N) (w:=w) (w':=w') k2 (by unfold toE;rw [if_neg K1.out,if_pos k2])
  rw [errV_bad k2]
  generalize entsErr D n (lE xs)=c at HF ⊢
  generalize (fcL D n (lE xs)).length=lc at HC ⊢
  clear k2
  go_wp2_with fail
  go_ret2
  exact HF.out _ HB2.out
 have K2:=hid_of k2
 have e2:errV (entsErr D n (lE xs))=.nilIface:=by unfold errV;rw [if_pos (by simpa using k2)]
 have hfc:fcL D n (lE xs)=wrV D n (lE xs):=by unfold fcL;rw [if_pos (by simpa using k2)]
 have hR:(allErr D n).2.2=0:=by
  have h0:entsErr D n (lE xs)=0:=by simpa using k2
  unfold entsErr at h0
  by_cases k:(allErr D n).2.2≠0
  ·rw [if_pos k] at h0;exact absurd h0 k
  ·simpa using k
 have HC2:Hid (CelV w2 Ac cc (wrV D n (lE xs))∧(wrV D n (lE xs)).length=prodN D n):=⟨by rw [←hfc];exact HC.out,wrV_len _ _ _⟩
 have HR:=hid_of hR
 rw [e2,hfc,wrV_len]
 clear k2 e2 hfc hR HC
 by_cases k3:placeErr D n p≠0
 ·have HF:=hid_of fun w'=>toRes_bad (D:=D) (n:=n) (l:=lE xs) (p:=p) (N:=N) (w:=w) (w':=w') k3 (by unfold toE;rw [if_neg K1.out,if_neg K2.out,if_pos k3])
  have hc:=rlfs_bad A0 cap n D A C Ap cp p w2 k3 (HM.out.later HB2.out) (HP.out.later HB2.out)
  rw [HLP.out] at hc
  generalize placeErr D n p=c at HF hc
  generalize prodN D n=pn
  clear k3
  go_wp2_with fail
  refine hc.mono ?_
  rintro e w3 ⟨rfl,hb3⟩
  have HB3:Hid (Below w.heap.size w w3):=onB HB2.out hb3
  clear hb3
  go_wp2_with fail
  go_ret2
  exact HF.out _ HB3.out
 have K3:=hid_of k3
 have hp0:placeErr D n p=0:=by simpa using k3
 have hpi:=inO_of hp0
 have hc3:=rlfs_any A0 cap n D A C Ap cp p w2 hpi (HM.out.later HB2.out) (HP.out.later HB2.out)
 rw [HLP.out] at hc3
 have HPI:=hid_of hpi
 have hpn:prodN D n≤3000:=(allErr_some HR.out).2.2.1
 generalize hpne:prodN D n=pn at hpn ⊢
 have HPN:=hid_of hpne
 clear k3 hp0 hpi hpne
 go_wp2_with fail
 refine hc3.mono ?_
 rintro e w3 ⟨⟨Ay,cy,ys,rfl,hY,hl⟩,hb3⟩
 have hA3:w3.cell? ⟨w.heap.size,0,none⟩=some (.slice A0 n cap):=(hb3.cell l2).trans hA2
 have l3:w.heap.size<w3.heap.size:=Nat.lt_of_lt_of_le l2 hb3.size
 have HB3:Hid (Below w.heap.size w w3):=onB HB2.out hb3
 have HY:Hid (PlsV w3 Ay cy ys∧lP ys=lfTo D p n∧CelV w3 Ac cc (wrV D n (lE xs))):=⟨hY,hl,HC2.out.1.later hb3⟩
 have hc4:=checkleafs_any A0 cap n D A C Ap cp p Ay cy ys w3 HPI.out (HM.out.later HB3.out) (HP.out.later HB3.out) hY hl
 have hys:ys.length≤3000:=by
  have h1:=lfTo_len (D:=D) p n
  rw [←hl,lP_len] at h1
  have:=HPN.out;omega
 have hc5:∀ w',Below w3.heap.size w3 w'→Calls Tryz.prog 27 #[.agg #[.slice A0 n cap],.slice Ac (wrV D n (lE xs)).length cc,.slice Ay ys.length cy] w' fun e w''=>(∃ g,e=.returned (.tuple #[.slice (some ⟨g,0,none⟩) ys.length ys.length,.nilIface])∧IntB w'' g ((lP ys).map (wnV D n (wrV D n (lE xs)))))∧Below w'.heap.size w' w'':=fun w' hB =>
  snumbers_any A0 cap n D A C Ac cc _ Ay cy ys w' HR.out ((HM.out.later HB3.out).later hB) (HY.out.2.2.later hB) HC2.out.2 (hY.later hB) (fun y hy=>(lf_in (p:=p) HR.out (by rw [←hl];exact List.mem_map.2 ⟨y,hy,rfl⟩)).1) hys
 rw [hl] at hc5
 rw [HLP.out] at hc4
 rw [wrV_len,HPN.out] at hc5
 obtain ⟨k,hk⟩:∃ k,ys.length=k:=⟨_,rfl⟩
 rw [hk] at hc4 hc5 hys ⊢
 have HK:Hid (ys.length=k):=hk
 have H5:=hid_of hc5
 clear hb3 hA2 l2 hc3 hY hl hk hc5 HB2 HC2
 go_wp2_with fail
 refine hc4.mono ?_
 rintro e w4 ⟨rfl,hb4⟩
 have hA4:w4.cell? ⟨w.heap.size,0,none⟩=some (.slice A0 n cap):=(hb4.cell l3).trans hA3
 have l4:w.heap.size<w4.heap.size:=Nat.lt_of_lt_of_le l3 hb4.size
 have HB4:Hid (Below w3.heap.size w3 w4):=hb4
 clear hb4 hA3 l3 hc4
 by_cases k4:clE D n p≠0
 ·have HF:=hid_of fun w'=>toRes_bad (D:=D) (n:=n) (l:=lE xs) (p:=p) (N:=N) (w:=w) (w':=w') k4 (by unfold toE;rw [if_neg K1.out,if_neg K2.out,if_neg K3.out,if_pos k4])
  rw [errV_bad k4]
  generalize clE D n p=c at HF ⊢
  clear k4
  go_wp2_with fail
  go_ret2
  exact HF.out _ (onB HB3.out HB4.out)
 have K4:=hid_of k4
 have e4:errV (clE D n p)=.nilIface:=by unfold errV;rw [if_pos (by simpa using k4)]
 have hk60:k≤60:=by
  have h0:clE D n p=0:=by simpa using k4
  unfold clE at h0
  have hlen:(lfTo D p n).length=k:=by rw [←HY.out.2.1,lP_len];exact HK.out
  by_cases j1:lfTo D p n=[]
  ·rw [if_pos j1] at h0;cases h0
  ·rw [if_neg j1] at h0
   by_cases j2:clB D n p (lfTo D p n)=true
   ·rw [if_pos j2] at h0;cases h0
   ·rw [if_neg j2] at h0
    by_cases j3:60<(lfTo D p n).length
    ·rw [if_pos j3] at h0;cases h0
    ·omega
 rw [e4]
 clear k4 e4
 go_wp2_with fail
 refine (H5.out w4 HB4.out).mono ?_
 rintro e w5 ⟨⟨g5,rfl,hI5⟩,hb5⟩
 have l5:w.heap.size<w5.heap.size:=Nat.lt_of_lt_of_le l4 hb5.size
 have HB5:Hid (Below w3.heap.size w3 w5):=onB HB4.out hb5
 have hWl:(toW D n (lE xs) p).length=k:=by unfold toW;rw [List.length_map,←HY.out.2.1,lP_len];exact HK.out
 have hpl5:PlAt w5 (some ⟨g5,0,none⟩) k (toW D n (lE xs) p):=by
  have:=hI5.pl
  change PlAt w5 (some ⟨g5,0,none⟩) (toW D n (lE xs) p).length (toW D n (lE xs) p) at this
  rwa [hWl] at this
 have hc6:=among_any N (some ⟨g5,0,none⟩) k (toW D n (lE xs) p) w5 hpl5 (by omega)
 rw [hWl] at hc6
 have HWL:=hid_of hWl
 clear hb5 hA4 l4 H5 hI5 hpl5 hWl HB4
 go_wp2_with fail
 refine hc6.mono ?_
 rintro e w6 ⟨As,cs,L,rfl,hL,hO,hb6⟩
 have l6:w.heap.size<w6.heap.size:=Nat.lt_of_lt_of_le l5 hb6.size
 have HB6:Hid (Below w3.heap.size w3 w6):=onB HB5.out hb6
 have HL:Hid (PlAt w6 As cs L∧AmO N (toW D n (lE xs) p) L):=⟨hL,hO⟩
 clear hb6 l5 hc6 hL hO HB5
 have HT:Hid (toE D n (lE xs) p N=amE N (toW D n (lE xs) p)):=by show _=_;unfold toE;rw [if_neg K1.out,if_neg K2.out,if_neg K3.out,if_neg K4.out]
 by_cases k6:amE N (toW D n (lE xs) p)≠0
 ·have HF:=hid_of fun w'=>toRes_bad (D:=D) (n:=n) (l:=lE xs) (p:=p) (N:=N) (w:=w) (w':=w') k6 HT.out
  rw [errV_bad k6]
  generalize amE N (toW D n (lE xs) p)=c at HF ⊢
  generalize L.length=ll
  clear k6
  go_wp2_with fail
  go_ret2
  exact HF.out _ (onB HB3.out HB6.out)
 have h6:amE N (toW D n (lE xs) p)=0:=by simpa using k6
 have e6:errV (amE N (toW D n (lE xs) p))=.nilIface:=by unfold errV;rw [if_pos h6]
 have hLl:L.length=k:=(HL.out.2.len h6).trans HWL.out
 have HT0:Hid (toE D n (lE xs) p N=0):=by show _=_;rw [HT.out,h6]
 have HLL:=hid_of hLl
 rw [e6,hLl]
 clear k6 e6 h6 hLl HT
 obtain ⟨i0,hi0,hz0,hz1,hz2⟩:=info_parts Tryz.infoEdT
 have hmk:∀ w',(Instr.makeSlice 38 (.int .i64 k) (.int .i64 k)).run Tryz.prog w'=.ok (.slice (some ⟨w'.heap.size,0,none⟩) k k) (w'.alloc (.cells (madeCells (Value.agg #[.slice none 0 0,.int .i64 0,.bool false]).cells (k*3)) 61)):=fun w'=>by
  have h:=run_make (P:=Tryz.prog) w' 38 61 i0 _ Tryz.underlying38 hi0 hz0 .i64 .i64 k k (by omega) (Int.le_refl _) (by rw [hz2];omega) (by omega)
  rw [hz1] at h
  simpa using h
 obtain ⟨zs,hzs⟩:∃ zs:Nat→EdL,zs=fun i=>⟨⟨(ys.getD i noP).p,L.getD i 0,false⟩,(ys.getD i noP).A,(ys.getD i noP).c⟩:=⟨_,rfl⟩
 have HZS:=hid_of hzs
 have HE0:Hid (EdB (w6.alloc (.cells (madeCells (Value.agg #[.slice none 0 0,.int .i64 0,.bool false]).cells (k*3)) 61)) w6.heap.size k 0 zs):=⟨_,heap_alloc_new w6 _,size_madeCells _ _,fun i hi=>absurd hi (Nat.not_lt_zero _)⟩
 have hkI:(k:Int)≤60:=by omega
 clear hzs
 have hlen0:(Value.agg #[.slice none 0 0,.int .i64 0,.bool false]).cells=#[.slice none 0 0,.int .i64 0,.bool false]:=rfl
 rw [hlen0] at hmk HE0
 clear hlen0
 go_wp2_with fail
 obtain ⟨w7,hw7⟩:∃ w7,w6.alloc (.cells (madeCells #[.slice none 0 0,.int .i64 0,.bool false] (k*3)) 61)=w7:=⟨_,rfl⟩
 rw [hw7] at HE0 ⊢
 have HB7:Hid (Below w6.heap.size w6 w7):=by rw [←hw7];show Below ..;go_grown
 clear hmk hw7
 go_loopg [20,21,80] k (fun gg s20 s21 s80 wr => ∃ (j:Nat),(∃ x,x=s20)∧(∃ x,x=s21)∧j≤k∧gg=k-j∧s80=.int .i64 j∧Hid (EdB wr w6.heap.size k j zs)∧Hid (Below w6.heap.size w6 wr))
 case atStart=>exact ⟨0,⟨_,rfl⟩,⟨_,rfl⟩,Nat.zero_le _,rfl,rfl,HE0,HB7⟩
 case round =>
  clear HE0 HB7
  obtain ⟨j,⟨v20,rfl⟩,⟨v21,rfl⟩,hjk,rfl,rfl,HE,HB⟩:=hrel
  by_cases hlt:j<k
  ·have hjI:(j:Int)<(k:Int):=by omega
   have HB3r:Below w3.heap.size w3 wr:=HB6.out.trans (HB.out.mono HB6.out.size)
   obtain ⟨⟨-,hy0 | ⟨b,o,rfl,hb,hX⟩,-⟩,-,-⟩:=HY.out
   ·have:=HK.out;rw [hy0] at this;simp at this;omega
   have c1:wr.cell? ⟨b,o+j,none⟩=some (.slice (ys.getD j noP).A (ys.getD j noP).p.length (ys.getD j noP).c):=by rw [HB3r.cell (by exact hb)];exact hX j (by rw [HK.out];exact hlt)
   obtain ⟨⟨-,hL0 | ⟨bs,os,rfl,hbs,hXs⟩⟩,-⟩:=HL.out
   ·have:=HLL.out;rw [hL0] at this;simp at this;omega
   have c2:wr.cell? ⟨bs,os+j,none⟩=some (.int .i64 (L.getD j 0)):=by rw [HB.out.cell (by exact hbs)];exact hXs j (by rw [HLL.out];exact hlt)
   have hput:=HE.out.put hlt
   have hl:=HE.out.lt
   obtain ⟨u0,d0⟩:=HE.out.here (i:=j*3) (by omega)
   obtain ⟨u1,d1⟩:=HE.out.here (i:=j*3+1) (by omega)
   obtain ⟨u2,d2⟩:=HE.out.here (i:=j*3+2) (by omega)
   have f0:=HE.out.frozen (j*3)
   have f1:=HE.out.frozen (j*3+1)
   have f2:=HE.out.frozen (j*3+2)
   rw [show (zs j).A=(ys.getD j noP).A by rw [HZS.out],show (zs j).x.pl.length=(ys.getD j noP).p.length by rw [HZS.out],show (zs j).c=(ys.getD j noP).c by rw [HZS.out],show (zs j).x.n=L.getD j 0 by rw [HZS.out],show (zs j).x.clear=false by rw [HZS.out]] at hput
   generalize (ys.getD j noP).p.length=lq at c1 hput
   generalize (ys.getD j noP).A=Aq at c1 hput
   generalize (ys.getD j noP).c=cq at c1 hput
   generalize L.getD j 0=x at c2 hput
   have HE2:Hid (EdB (((wr.setCell ⟨w6.heap.size,j*3,none⟩ (.slice Aq lq cq)).setCell ⟨w6.heap.size,j*3+1,none⟩ (.int .i64 x)).setCell ⟨w6.heap.size,j*3+2,none⟩ (.bool false)) w6.heap.size k (j+1) zs):=hput
   have HB2:Hid (Below w6.heap.size w6 (((wr.setCell ⟨w6.heap.size,j*3,none⟩ (.slice Aq lq cq)).setCell ⟨w6.heap.size,j*3+1,none⟩ (.int .i64 x)).setCell ⟨w6.heap.size,j*3+2,none⟩ (.bool false))):=((HB.out.setCell (Nat.le_refl _) _).setCell (Nat.le_refl _) _).setCell (Nat.le_refl _) _
   clear hput HE HB HB3r hX hXs
   go_wp2_with fail
   go_roundg (k-(j+1))
   case measure=>omega
   case rel=>exact ⟨j+1,⟨_,rfl⟩,⟨_,rfl⟩,by omega,rfl,by go_num,HE2,HB2⟩
  ·have hje:j=k:=by omega
   subst hje
   have hres:ToRes D n (lE xs) p N w (.returned (.tuple #[.slice (some ⟨w6.heap.size,0,none⟩) j j,.nilIface])) wr:=by
    have HB3r:Below w3.heap.size w3 wr:=HB6.out.trans (HB.out.mono HB6.out.size)
    refine ⟨some ⟨w6.heap.size,0,none⟩,j,(List.range j).map zs,?_,?_,?_,HB3.out.trans (HB3r.mono HB3.out.size)⟩
    ·rw [HT0.out,List.length_map,List.length_range];rfl
    ·refine HE.out.eds (by omega) fun i hi=>?_
     have hm:ys.getD i noP∈ys:=pl_mem (by rw [HK.out];exact hi)
     have:=((HY.out.1.2.2 _ hm).pl).later HB3r
     rw [HZS.out];exact this
    ·unfold ToO
     rw [if_pos HT0.out]
     refine ⟨L,HL.out.2,?_⟩
     unfold lD edL
     rw [List.map_map,←HY.out.2.1,lP_len,HK.out]
     refine List.map_congr_left fun i hi=>?_
     rw [lP_at,HZS.out];rfl
   have HRES:=hid_of hres
   clear hres
   go_wp2_with fail
   go_ret2
   exact HRES.out
end Go.Proofs.YtenlladggdcfnaaGreatDoor
namespace Go.Proofs.YtenlladggdcfnaaGreatDoor
variable {D:Nat→Dm} {n:Nat}
theorem lk_bound {N:Int} {W:List Int} {P:Nat→Bool} (h:lkE N W=0) (hP:PickOk W.length (prec N W) P (lkL N W).toNat):∀ x∈lkO N W P,0≤x∧x≤N:=by
 obtain ⟨h1,h2,h3,h4,h5⟩:=lkE_ok h
 intro x hx
 obtain ⟨i,hi,rfl⟩:=List.mem_map.1 hx
 have hi':=List.mem_range.1 hi
 have a1:=lkQ_ge (n:=N) h1.1 (fun x hx=>(h4 x hx).1) h5 i
 have a2:=lkQ_le (n:=N) h1.1 (fun x hx=>(h4 x hx).1) h5 i
 cases hp:P i with
 | true=>have:=a2.2 (pick_rest h5 hP hi' hp);simp;omega
 | false=>simp;omega
end Go.Proofs.YtenlladggdcfnaaGreatDoor
namespace Go.Proofs.YtenlladggdcfnaaGreatDoor
open Go Go.ChangeShapes Go.WideShapes Go.ChangeAt Go.RowKit Go.Shelf Go.Lib Go.Sort
set_option maxRecDepth 100000
theorem ev_len {N m:Int} (h:evE N m=0):((evO N m).length:Int)=m∧0<(evO N m).length∧(evO N m).length≤60∧0≤N∧N≤1000000:=by
 have h':0≤N∧N≤1000000∧1≤m∧m≤60:=by
  unfold evE at h
  by_cases k:0≤N∧N≤1000000∧1≤m∧m≤60
  ·exact k
  ·rw [if_neg k] at h;cases h
 unfold evO
 rw [if_pos h]
 simp only [List.length_map,List.length_range]
 omega
theorem lk_facts {N:Int} {W L:List Int} (h:lkE N W=0) (hL:LkO N W L):L.length=W.length∧L.sum=N∧(∀ x∈L,0≤x∧x≤N)∧∀ j,j<W.length→- W.sum<L.getD j 0*W.sum-N*W.getD j 0∧L.getD j 0*W.sum-N*W.getD j 0<W.sum:=by
 obtain ⟨h1,h2,h3,h4,h5⟩:=lkE_ok h
 unfold LkO at hL
 rw [if_pos h] at hL
 obtain ⟨P,hP,rfl⟩:=hL
 refine ⟨by simp [lkO],lkO_sum h5 hP,lk_bound h hP,fun j hj=>?_⟩
 have e:(lkO N W P).getD j 0=lkQ N W j+if P j then 1 else 0:=by
  unfold lkO
  rw [List.getD_eq_getElem?_getD,List.getElem?_map,List.getElem?_range hj];rfl
 have h6:=Int.mul_ediv_add_emod (N*W.getD j 0) W.sum
 change W.sum*lkQ N W j+lkR N W j=_ at h6
 have h7:=lkR_pos (n:=N) h5 j
 rw [e,Int.add_mul,Int.mul_comm (lkQ N W j)]
 cases hp:P j with
 | true=>have:=pick_rest h5 hP hj hp;rw [if_pos rfl];omega
 | false=>rw [if_neg (by decide)];omega
def evL (n m:Int) (k:Nat):List Int:=(List.range k).map (evV n m)
theorem evL_len (n m:Int) (k:Nat):(evL n m k).length=k:=by simp [evL]
theorem evL_step (n m:Int) (k:Nat):(evL n m (k+1)).map (Value.int .i64)=(evL n m k).map (Value.int .i64) ++ [.int .i64 (evV n m k)]:=by
 unfold evL;rw [List.range_succ,List.map_append,List.map_append];rfl
theorem evL_all {n m:Int} {k:Nat} (h:evE n m=0) (hk:m=(k:Int)):evL n m k=evO n m:=by
 unfold evL evO;rw [if_pos h,hk,Int.toNat_natCast]
set_option maxHeartbeats 4000000 in
theorem reven_ok (n:Int) (m:Nat) (w:World) (hn:0≤n∧n≤1000000) (hm1:1≤m) (hm2:m≤60) :
  Calls Tryz.prog 4 #[.int .i64 n,.int .i64 m] w fun e w' => ∃ A c,e=.returned (.tuple #[.slice A (evL n m m).length c,.int .i64 0])∧PlAt w' A c (evL n m m)∧Below w.heap.size w w':=by
 obtain ⟨i0,hi0,hz0,hz1,hz2⟩:=info_parts Tryz.infoInt
 have hn1 : ¬ n<0:=by omega
 have hn2 : ¬ n > 1000000:=by omega
 have hm3 : ¬ (m:Int)<1:=by omega
 have hm4 : ¬ (m:Int) > 60:=by omega
 have hm0 : ¬ (m:Int)=0:=by omega
 obtain ⟨q,hq⟩:∃ q,q=n / (m:Int):=⟨_,rfl⟩
 obtain ⟨r,hr⟩:∃ r,r=n % (m:Int):=⟨_,rfl⟩
 have hq1:n.tdiv (m:Int)=q:=by rw [Int.tdiv_eq_ediv_of_nonneg hn.1,hq]
 have hr1:n.tmod (m:Int)=r:=by rw [Int.tmod_eq_emod_of_nonneg hn.1,hr]
 have hq0:0≤q:=by rw [hq];exact Int.ediv_nonneg hn.1 (by omega)
 have hq3:q≤n:=by rw [hq];exact Int.ediv_le_self _ hn.1
 have hqw:IntKind.i64.wrap q=q:=by rw [IntKind.wrap_i64];omega
 have hqw2:IntKind.i64.wrap (q+1)=q+1:=by rw [IntKind.wrap_i64];omega
 have HV:Hid (∀ i:Nat,evV n m i=q+if (i:Int)<r then 1 else 0):=fun i=>by unfold evV;rw [hq,hr]
 clear hq hr
 go_enter Tryz.func4,Tryz.ntmps4
 go_wp2_with fail
 go_loopg [6,7,8] m (fun gg s6 s7 s8 wr => ∃ (k:Nat),k≤m∧gg=m-k∧s7=.int .i64 k∧(∃ x,x=s8)∧Hid (wr.ownsRow w.heap.size 3 1 s6 (evL n m k).length ((evL n m k).map (Value.int .i64)))∧Hid (Below w.heap.size w wr))
 case atStart=>exact ⟨0,Nat.zero_le _,rfl,rfl,⟨_,rfl⟩,World.ownsRow_nil _ _ _ _,Below.refl _ _⟩
 case round =>
  obtain ⟨k,hk,rfl,rfl,⟨v8,rfl⟩,HO,HB⟩:=hrel
  by_cases hlt:k<m
  ·have hki:(k:Int)<(m:Int):=by omega
   have hlen:=evL_len n m k
   have hsz:=HB.out.size
   have hown:=HO.out
   by_cases hkr:(k:Int)<r
   ·have HST:Hid ((evL n m (k+1)).map (Value.int .i64)=(evL n m k).map (Value.int .i64) ++ [.int .i64 (q+1)]):=by
     show _=_
     rw [evL_step,HV.out,if_pos hkr]
    clear HO
    go_wp2_with (at_builtin;refine wpList_append_own _ rfl _ _ 22 rfl w.heap.size 3 i0 (.int .i64 0) 1 8 Tryz.underlying22 hi0 hz0 hz1 hz2 rfl (by decide) _ _ _ rfl (hown.alloc _) ⟨wr.heap.size,0,none⟩ 1 1 [.int .i64 (q+1)] rfl rfl one_cell one_one (by unfold maxLen;omega) (by omega) (by simp;omega) ?_)
    intro v' w2 hown' hgrow _
    have HB2:Hid (Below w.heap.size w w2):=grown_own HB.out hown hgrow
    have HO2:Hid (w2.ownsRow w.heap.size 3 1 v' (evL n m (k+1)).length ((evL n m (k+1)).map (Value.int .i64))):=by
     show World.ownsRow ..
     rw [HST.out,evL_len];exact hown'
    clear hown' hgrow hown
    go_wp2_with fail
    go_roundg (m-(k+1))
    case measure=>omega
    case rel=>exact ⟨k+1,by omega,rfl,by go_num,⟨_,rfl⟩,HO2,HB2⟩
   ·have HST:Hid ((evL n m (k+1)).map (Value.int .i64)=(evL n m k).map (Value.int .i64) ++ [.int .i64 q]):=by
     show _=_
     rw [evL_step,HV.out,if_neg hkr,Int.add_zero]
    clear HO
    go_wp2_with (at_builtin;refine wpList_append_own _ rfl _ _ 22 rfl w.heap.size 3 i0 (.int .i64 0) 1 8 Tryz.underlying22 hi0 hz0 hz1 hz2 rfl (by decide) _ _ _ rfl (hown.alloc _) ⟨wr.heap.size,0,none⟩ 1 1 [.int .i64 q] rfl rfl one_cell one_one (by unfold maxLen;omega) (by omega) (by simp;omega) ?_)
    intro v' w2 hown' hgrow _
    have HB2:Hid (Below w.heap.size w w2):=grown_own HB.out hown hgrow
    have HO2:Hid (w2.ownsRow w.heap.size 3 1 v' (evL n m (k+1)).length ((evL n m (k+1)).map (Value.int .i64))):=by
     show World.ownsRow ..
     rw [HST.out,evL_len];exact hown'
    clear hown' hgrow hown
    go_wp2_with fail
    go_roundg (m-(k+1))
    case measure=>omega
    case rel=>exact ⟨k+1,by omega,rfl,by go_num,⟨_,rfl⟩,HO2,HB2⟩
  ·have hke:k=m:=by omega
   subst hke
   have HR:Hid (∃ A c,Ending.returned (.tuple #[u6,.int .i64 0])=.returned (.tuple #[.slice A (evL n k k).length c,.int .i64 0])∧PlAt wr A c (evL n k k)∧Below w.heap.size w wr):=by
    obtain ⟨A,c,h1,h2⟩:=plty_own HO.out
    exact ⟨A,c,by rw [h1],h2.pl,HB.out⟩
   go_wp2_with fail
   go_ret2
   exact HR.out
set_option maxHeartbeats 4000000 in
theorem reven_bad (n m:Int) (w:World) (h:evE n m≠0):Calls Tryz.prog 4 #[.int .i64 n,.int .i64 m] w fun e w'=>e=.returned (.tuple #[.slice none 0 0,.int .i64 1])∧w'=w:=by
 have h2:n<0∨(¬ n<0∧(n > 1000000∨(¬ n > 1000000∧(m<1∨(¬ m<1∧m > 60))))):=by
  unfold evE at h
  by_cases k:0≤n∧n≤1000000∧1≤m∧m≤60
  ·rw [if_pos k] at h;exact absurd rfl h
  ·omega
 clear h
 go_enter Tryz.func4,Tryz.ntmps4
 rcases h2 with h | ⟨h,h1 | ⟨h1,h2 | ⟨h2,h3⟩⟩⟩ <;>
  (go_wp2_with fail
   go_ret2
   exact ⟨rfl,rfl⟩)
theorem reven_any (n m:Int) (w:World):Calls Tryz.prog 4 #[.int .i64 n,.int .i64 m] w fun e w' => ∃ A c,e=.returned (.tuple #[.slice A (evO n m).length c,.int .i64 (evE n m)])∧PlAt w' A c (evO n m)∧Below w.heap.size w w':=by
 by_cases h:evE n m=0
 ·have h':0≤n∧n≤1000000∧1≤m∧m≤60:=by
   unfold evE at h
   by_cases k:0≤n∧n≤1000000∧1≤m∧m≤60
   ·exact k
   ·rw [if_neg k] at h;cases h
  obtain ⟨k,rfl⟩:∃ k:Nat,m=(k:Int):=⟨m.toNat,by omega⟩
  refine (reven_ok n k w ⟨h'.1,h'.2.1⟩ (by omega) (by omega)).mono ?_
  rintro e w' hx
  rw [evL_all h rfl] at hx
  rw [h];exact hx
 ·refine (reven_bad n m w h).mono ?_
  rintro e w' ⟨rfl,rfl⟩
  have e1:evO n m=[]:=by unfold evO;rw [if_neg h]
  have e2:evE n m=1:=by
   unfold evE at h ⊢
   split
   ·rename_i k;rw [if_pos k] at h;exact absurd rfl h
   ·rfl
  rw [e1,e2]
  exact ⟨none,0,rfl,⟨Nat.le_refl _,Or.inl rfl⟩,Below.refl _ _⟩
end Go.Proofs.YtenlladggdcfnaaGreatDoor
namespace Go.Proofs.YtenlladggdcfnaaGreatDoor
open Go.Sort
def bestTo (n:Int) (W:List Int) (P:Nat→Bool):Nat→Option Nat
 | 0=>none
 | i+1=>match bestTo n W P i with
  | none=>if P i=true then none else some i
  | some b=>if P i=false∧lkR n W b<lkR n W i then some i else some b
def bI:Option Nat→Int
 | none => -1
 | some b=>(b:Int)
theorem best_taken {n:Int} {W:List Int} {P:Nat→Bool} {i:Nat} (h:P i=true):bestTo n W P (i+1)=bestTo n W P i:=by
 simp only [bestTo]
 split
 ·rename_i e;rw [if_pos h,e]
 ·rename_i b e;rw [if_neg (by rw [h];simp),e]
theorem best_none {n:Int} {W:List Int} {P:Nat→Bool} {i:Nat} (h:P i=false) (e:bestTo n W P i=none):bestTo n W P (i+1)=some i:=by
 simp only [bestTo,e,h];rfl
theorem best_more {n:Int} {W:List Int} {P:Nat→Bool} {i b:Nat} (h:P i=false) (e:bestTo n W P i=some b) (k:lkR n W i > lkR n W b):bestTo n W P (i+1)=some i:=by
 simp only [bestTo,e];rw [if_pos ⟨h,k⟩]
theorem best_less {n:Int} {W:List Int} {P:Nat→Bool} {i b:Nat} (e:bestTo n W P i=some b) (k : ¬ lkR n W i > lkR n W b):bestTo n W P (i+1)=some b:=by
 simp only [bestTo,e];rw [if_neg fun h=>k h.2]
theorem best_spec {n:Int} {W:List Int} {P:Nat→Bool}:∀ i:Nat,(bestTo n W P i=none→∀ j,j<i→P j=true)∧∀ b,bestTo n W P i=some b→b<i∧P b=false∧∀ j,j<i→j≠b→P j=false→prec n W b j=true
 | 0=>⟨fun _ j h=>absurd h (Nat.not_lt_zero _),fun b h=>by simp [bestTo] at h⟩
 | i+1=>by
  obtain ⟨h1,h2⟩:=best_spec (n:=n) (W:=W) (P:=P) i
  cases hp:P i with
  | true =>
   rw [best_taken hp]
   refine ⟨fun h j hj=>?_,fun b h=>?_⟩
   ·by_cases e:j=i
    ·rw [e];exact hp
    ·exact h1 h j (by omega)
   ·obtain ⟨a1,a2,a3⟩:=h2 b h
    refine ⟨by omega,a2,fun j hj hn hf=>?_⟩
    by_cases e:j=i
    ·rw [e,hp] at hf;cases hf
    ·exact a3 j (by omega) hn hf
  | false =>
   cases hb:bestTo n W P i with
   | none =>
    rw [best_none hp hb]
    refine ⟨fun h=>(by cases h),fun b h=>?_⟩
    simp only [Option.some.injEq] at h
    subst h
    refine ⟨by omega,hp,fun j hj hn hf=>?_⟩
    have:=h1 hb j (by omega)
    rw [this] at hf;cases hf
   | some c =>
    obtain ⟨a1,a2,a3⟩:=h2 c hb
    by_cases k:lkR n W i > lkR n W c
    ·rw [best_more hp hb k]
     refine ⟨fun h=>(by cases h),fun b h=>?_⟩
     simp only [Option.some.injEq] at h
     subst h
     refine ⟨by omega,hp,fun j hj hn hf=>?_⟩
     unfold prec at *
     rw [decide_eq_true_eq]
     by_cases e:j=c
     ·subst e;exact Or.inl k
     ·have:=a3 j (by omega) e hf
      rw [decide_eq_true_eq] at this
      omega
    ·rw [best_less hb k]
     refine ⟨fun h=>(by cases h),fun b h=>?_⟩
     simp only [Option.some.injEq] at h
     subst h
     refine ⟨by omega,a2,fun j hj hn hf=>?_⟩
     by_cases e:j=i
     ·subst e
      unfold prec
      rw [decide_eq_true_eq];omega
     ·exact a3 j (by omega) hn hf
def taken (P:Nat→Bool) (b:Nat) (i:Nat):Bool:=if i=b then true else P i
theorem filter_taken {P:Nat→Bool} {b:Nat} (hp:P b=false):∀ l:List Nat,l.Nodup→b∈l→(l.filter (taken P b)).length=(l.filter P).length+1
 | [],_,h=>absurd h (by simp)
 | a :: l,hn,h=>by
  rw [List.nodup_cons] at hn
  by_cases e:a=b
  ·subst e
   have h1:taken P a a=true:=if_pos rfl
   have h2:l.filter (taken P a)=l.filter P:=List.filter_congr fun x hx=>if_neg fun e:x=a=>hn.1 (e ▸ hx)
   rw [List.filter_cons_of_pos h1,List.filter_cons_of_neg (by rw [hp];simp),h2,List.length_cons]
  ·have hm:b∈l:=(List.mem_cons.1 h).resolve_left fun h=>e h.symm
   have h1:taken P b a=P a:=if_neg e
   have ih:=filter_taken hp l hn.2 hm
   cases hpa:P a with
   | true=>rw [List.filter_cons_of_pos (by rw [h1,hpa]),List.filter_cons_of_pos hpa,List.length_cons,List.length_cons,ih]
   | false=>rw [List.filter_cons_of_neg (by rw [h1,hpa];simp),List.filter_cons_of_neg (by rw [hpa];simp),ih]
theorem pick_zero (k:Nat) (pr:Nat→Nat→Bool):PickOk k pr (fun _=>false) 0:=⟨by simp,fun _ _ _ _ h=>by cases h⟩
theorem pick_more {k t b:Nat} {pr:Nat→Nat→Bool} {P:Nat→Bool} (h:PickOk k pr P t) (hb:b<k) (hp:P b=false) (hbest:∀ j,j<k→j≠b→P j=false→pr b j=true):PickOk k pr (taken P b) (t+1):=by
 refine ⟨by rw [filter_taken hp _ List.nodup_range (List.mem_range.2 hb),h.1],fun i j hi hj h1 h2=>?_⟩
 have hjb:j≠b:=fun e=>by unfold taken at h2;rw [if_pos e] at h2;cases h2
 have hj2:P j=false:=by unfold taken at h2;rwa [if_neg hjb] at h2
 by_cases e:i=b
 ·subst e;exact hbest j hj hjb hj2
 ·have hi2:P i=true:=by unfold taken at h1;rwa [if_neg e] at h1
  exact h.2 i j hi hj hi2 hj2
theorem pick_some {k t:Nat} {n:Int} {W:List Int} {pr:Nat→Nat→Bool} {P:Nat→Bool} (h:PickOk k pr P t) (ht:t<k):∃ b,bestTo n W P k=some b:=by
 cases e:bestTo n W P k with
 | some b=>exact ⟨b,rfl⟩
 | none =>
  have h1:=(best_spec (n:=n) (W:=W) (P:=P) k).1 e
  have h2:(List.range k).filter P=List.range k:=List.filter_eq_self.2 fun x hx=>h1 x (List.mem_range.1 hx)
  have h3:=h.1
  rw [h2,List.length_range] at h3;omega
theorem lkO_len (n:Int) (W:List Int) (P:Nat→Bool):(lkO n W P).length=W.length:=by simp [lkO]
theorem lkO_at {n:Int} {W:List Int} {P:Nat→Bool} {i:Nat} (hi:i<W.length):(lkO n W P).getD i 0=lkQ n W i+if P i then 1 else 0:=by
 unfold lkO
 rw [List.getD_eq_getElem?_getD,List.getElem?_map,List.getElem?_range hi];rfl
theorem lkO_taken {n:Int} {W:List Int} {P:Nat→Bool} {b:Nat} (hb:b<W.length) (hp:P b=false):(lkO n W P).getD b 0=lkQ n W b∧(lkO n W P).set b (lkQ n W b+1)=lkO n W (taken P b):=by
 refine ⟨by rw [lkO_at hb,hp];simp,List.ext_getElem (by simp [lkO]) fun i h1 h2=>?_⟩
 rw [List.getElem_set]
 by_cases e:b=i
 ·subst e
  simp [lkO,taken]
 ·rw [if_neg e]
  have e2 : ¬ i=b:=fun h=>e h.symm
  simp [lkO,taken,e2]
def qPre (n:Int) (W:List Int) (k:Nat):List Int:=(List.range k).map (lkQ n W)
theorem qPre_len (n:Int) (W:List Int) (k:Nat):(qPre n W k).length=k:=by simp [qPre]
theorem qPre_step (n:Int) (W:List Int) (k:Nat):(qPre n W (k+1)).map (Value.int .i64)=(qPre n W k).map (Value.int .i64) ++ [.int .i64 (lkQ n W k)]:=by
 unfold qPre;rw [List.range_succ,List.map_append,List.map_append];rfl
theorem qPre_all (n:Int) (W:List Int):qPre n W W.length=lkO n W fun _=>false:=List.map_congr_left fun i _=>by simp
theorem own_pb {w:World} {base:Nat} {v:Value} {L:List Int} (h:w.ownsRow base 3 1 v L.length (L.map (Value.int .i64))) (h0:0<L.length):∃ g c,v=.slice (some ⟨g,0,none⟩) L.length c∧L.length≤c∧base≤g∧PB w g L:=by
 rcases h.2 with ⟨rfl,h1⟩ | ⟨g,cap,cur,rfl,hb,hg,hc,_,_,_⟩
 ·omega
 ·refine ⟨g,cap,rfl,hc,hb,cur,hg,fun j hj=>?_⟩
  have hx:=h.cells (g:=g) rfl j (.int .i64 (L.getD j 0)) (by simp [List.getD,List.getElem?_eq_getElem hj])
  have hadd:(⟨g,0,none⟩:Addr).add j=⟨g,j,none⟩:=by unfold Addr.add;split <;> simp_all
  rw [hadd,Lib.cell_of_heap hg] at hx
  exact hx
end Go.Proofs.YtenlladggdcfnaaGreatDoor
