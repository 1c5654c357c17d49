/-
  All cells of a cube, its faults, the order of its places (plain): what is told of them, and nothing where something is wrong.
-/
import Derived.Test.YtfgegmpoejilnaaGreatDoorJGAW
namespace Go.Proofs.YtfgegmpoejilnaaGreatDoor
open Go.ChangeShapes Go.WideShapes Go.ChangeAt Go.RowKit
section
variable {D:Nat→Dm} {n:Nat}
noncomputable def stpB (D:Nat→Dm) (n i j:Nat):Bool := @decide (StpN D n i j) (Classical.propDecidable _)
theorem stpB_iff {i j:Nat}:stpB D n i j=true↔StpN D n i j:=by unfold stpB;exact @decide_eq_true_iff _ (Classical.propDecidable _)
noncomputable def telL (D:Nat→Dm) (n i:Nat):List Int:=selTo (stpB D n i) (prodN D n)
theorem told_eq (hR:AllR D n) (hE:(allErr D n).2.2=0) {i:Nat} {T:List Int} (hT:ToldP D n (placeL D n i) T):T=telL D n i :=
 rise_eq _ _ hT.1 (sel_rise _ _) fun x=>⟨fun hx=>by
  obtain ⟨j,rfl,hj,-⟩:=told_less hR hE hT hx
  exact sel_has hj (stpB_iff.2 ((stp_iff hT).2 hx)),fun hx=>by
  obtain ⟨m,rfl,-,hp⟩:=selTo_mem _ hx
  exact (stp_iff hT).1 (stpB_iff.1 hp)⟩
noncomputable def rowsL (D:Nat→Dm) (n:Nat):List (List Int):=(List.range (prodN D n)).map (telL D n)
theorem rows_len:(rowsL D n).length=prodN D n:=by simp [rowsL]
theorem rows_at {i:Nat} (hi:i<prodN D n):(rowsL D n).getD i []=telL D n i:=by
 unfold rowsL
 rw [List.getD_eq_getElem?_getD,List.getElem?_map,List.getElem?_range hi]
 rfl
noncomputable def caL (D:Nat→Dm) (n:Nat) (l:List En):List (Int×Int):=if cuErr D n l=0 then (List.range (prodN D n)).map (fun j=>solV D n (getE l) (placeL D n j)) else []
theorem caL_bad {l:List En} (h:cuErr D n l≠0):caL D n l=[]:=by unfold caL;rw [if_neg h]
theorem caL_len {l:List En} (h:cuErr D n l=0):(caL D n l).length=prodN D n:=by unfold caL;rw [if_pos h];simp
theorem caL_at {l:List En} (h:cuErr D n l=0) {j:Nat} (hj:j<prodN D n):(caL D n l).getD j noC=solV D n (getE l) (placeL D n j):=by
 unfold caL
 rw [if_pos h,List.getD_eq_getElem?_getD,List.getElem?_map,List.getElem?_range hj]
 rfl
theorem ca_eq {l:List En} (h:cuErr D n l=0) {L:List (Int×Int)} (hl:L.length=prodN D n) (hv:∀ j,j<prodN D n→L.getD j noC=solV D n (getE l) (placeL D n j)):L=caL D n l:=by
 refine List.ext_getElem (by rw [hl,caL_len h]) fun i h1 h2=>?_
 have h3:i<prodN D n:=by omega
 have e:=(hv i h3).trans (caL_at h h3).symm
 rw [List.getD_eq_getElem?_getD,List.getElem?_eq_getElem h1,List.getD_eq_getElem?_getD,List.getElem?_eq_getElem h2] at e
 exact e
noncomputable def coL (D:Nat→Dm) (n:Nat):List Int:=if (ruErr D n).2.2=0 then ordTo (rowsL D n) (prodN D n) else []
end
end Go.Proofs.YtfgegmpoejilnaaGreatDoor
namespace Go.Proofs.YtfgegmpoejilnaaGreatDoor
open Go.ChangeShapes Go.WideShapes Go.ChangeAt Go.RowKit Go.Lib
set_option maxRecDepth 20000
def ownEd (w:World) (A:Option Addr) (m c:Nat) (N:Int) (cl:Bool):World:=w.alloc (.cells #[.slice A m c,.int .i64 N,.bool cl] 41)
theorem ownEd_below (w:World) (A:Option Addr) (m c:Nat) (N:Int) (cl:Bool):Below w.heap.size w (ownEd w A m c N cl):=by unfold ownEd;go_grown
def ownOX (w:World) (A0:Option Addr) (n cap:Nat) (A:Option Addr) (m c:Nat) (N:Int) (cl:Bool):World:=ownEd (ownOut w A0 n cap 24) A m c N cl
theorem ownOX_below (w:World) (A0:Option Addr) (n cap:Nat) (A:Option Addr) (m c:Nat) (N:Int) (cl:Bool):Below w.heap.size w (ownOX w A0 n cap A m c N cl):=onB (ownOut_below ..) (ownEd_below ..)
set_option maxHeartbeats 4000000 in
theorem iedit_any {M:Nat} (A0:Option Addr) (cap n:Nat) (D:Nat→Dm) (A:Nat→Option Addr) (C:Nat→Nat) (g cg:Nat) (xs:List EnL) (Ax:Option Addr) (cx:Nat) (x:Ed) (w:World) (hM:DimsV w A0 cap n D A C) (hP:PlAt w Ax cx x.pl) (hR:RowE w g cg xs) (hEs:Ens D n (lE xs)) (hMx:NewE M xs) (hMw:M≤w.heap.size) :
  Calls Tryz.prog 44 #[.agg #[.slice A0 n cap],.slice (some ⟨g,0,none⟩) xs.length cg,.agg #[.slice Ax x.pl.length cx,.int .i64 x.n,.bool x.clear]] w fun e w'=>Edited M w g (editErr D n (lE xs) x) (editV (lE xs) x) e w':=by
 obtain ⟨p,N,cl⟩:=x
 have hB0:=ownOX_below w A0 n cap Ax p.length cx N cl
 have HB0:Hid (Below w.heap.size w (ownOX w A0 n cap Ax p.length cx N cl)):=hB0
 cases cl
 ·have h:=iset1_any A0 cap n D A C g cg xs Ax cx p N (ownOX w A0 n cap Ax p.length cx N false) (hM.later hB0) (hP.later hB0) (hR.later hB0) hEs hMx (Nat.le_trans hMw hB0.size)
  have hv:editV (lE xs) ⟨p,N,false⟩=setL (lE xs) p N:=rfl
  rw [hv]
  generalize editErr D n (lE xs) ⟨p,N,false⟩=E at h
  generalize setL (lE xs) p N=l at h
  simp only
  generalize p.length=m at h HB0
  generalize xs.length=nx at h
  clear hM hP hR hEs hB0 hv
  go_enter Tryz.func44,Tryz.ntmps44
  go_wp2_with fail
  refine h.mono ?_
  rintro e w1 ⟨⟨B,c,ys,rfl,hc⟩,hg⟩
  have HC:Hid ((E≠0∧B=none∧c=0∧ys=[])∨(E=0∧∃ g',B=some ⟨g',0,none⟩∧g≤g'∧RowE w1 g' c ys∧lE ys=l∧NewE M ys)):=hc
  have HG:Hid (w.grownBy w1 (some g)):=grown_trans (grown_below HB0.out) hg
  clear hc hg
  go_wp2_with fail
  go_ret2
  exact ⟨⟨B,c,ys,rfl,HC.out⟩,HG.out⟩
 ·have h:=without_any A0 cap n D A C g cg xs Ax cx p N (ownOX w A0 n cap Ax p.length cx N true) (hM.later hB0) (hP.later hB0) (hR.later hB0) hEs hMx
  have hv:editV (lE xs) ⟨p,N,true⟩=clrL (lE xs) p:=rfl
  rw [hv]
  generalize editErr D n (lE xs) ⟨p,N,true⟩=E at h
  generalize clrL (lE xs) p=l at h
  simp only
  generalize p.length=m at h HB0
  generalize xs.length=nx at h
  clear hM hP hR hEs hB0 hv
  go_enter Tryz.func44,Tryz.ntmps44
  go_wp2_with fail
  refine h.mono ?_
  rintro e w1 ⟨⟨B,c,ys,rfl,hc⟩,hg⟩
  have HC:Hid ((E≠0∧B=none∧c=0∧ys=[])∨(E=0∧∃ g',B=some ⟨g',0,none⟩∧g≤g'∧RowE w1 g' c ys∧lE ys=l∧NewE M ys)):=hc
  have HG:Hid (w.grownBy w1 (some g)):=grown_trans (grown_below HB0.out) hg
  clear hc hg
  go_wp2_with fail
  go_ret2
  exact ⟨⟨B,c,ys,rfl,HC.out⟩,HG.out⟩
theorem drop_ed (ys:List EdL) {k:Nat} (h:k<ys.length):(lD ys).drop k=(ys.getD k noD).x :: (lD ys).drop (k+1):=by
 have h1:k<(lD ys).length:=by rw [lD_len];exact h
 rw [List.drop_eq_getElem_cons h1]
 congr 1
 simp [lD,List.getD,h]
theorem edits_on {D:Nat→Dm} {n:Nat} {l:List En} {ys:List EdL} {k:Nat} (h:k<ys.length) (he:editErr D n l (ys.getD k noD).x=0):editsFrom D n l k ((lD ys).drop k)=editsFrom D n (editV l (ys.getD k noD).x) (k+1) ((lD ys).drop (k+1)):=by rw [drop_ed ys h,editsFrom_ok _ he]
theorem edits_bad {D:Nat→Dm} {n:Nat} {l:List En} {ys:List EdL} {k:Nat} (h:k<ys.length) (he:editErr D n l (ys.getD k noD).x≠0):editsFrom D n l k ((lD ys).drop k)=([],(k:Int),editErr D n l (ys.getD k noD).x):=by rw [drop_ed ys h,editsFrom_bad _ he]
theorem edits_end {D:Nat→Dm} {n:Nat} {l:List En} {ys:List EdL} {k:Nat} (h:ys.length≤k):editsFrom D n l k ((lD ys).drop k)=(l,0,0):=by rw [List.drop_eq_nil_of_le (by rw [lD_len];exact h)];rfl
theorem editsV_full {D:Nat→Dm} {n:Nat} (l:List En) {ys:List EdL} (h:60<ys.length):editsV D n l (lD ys)=([],0,4):=by unfold editsV;rw [if_pos (by rw [lD_len];exact h)]
theorem editsV_bad {D:Nat→Dm} {n:Nat} {l:List En} {ys:List EdL} (h : ¬ 60<ys.length) (he:entsErr D n l≠0):editsV D n l (lD ys)=([],0,entsErr D n l):=by unfold editsV;rw [if_neg (by rw [lD_len];exact h),if_pos he]
theorem editsV_in {D:Nat→Dm} {n:Nat} {l:List En} {ys:List EdL} (h : ¬ 60<ys.length) (he:entsErr D n l=0):editsV D n l (lD ys)=editsFrom D n l 0 ((lD ys).drop 0):=by unfold editsV;rw [if_neg (by rw [lD_len];exact h),if_neg (by simpa using he)];rfl
def Answer3n (w:World) (v:List En×Int×Int) (e:Ending) (w':World):Prop:=(∃ B c zs,e=.returned (.tuple #[.slice B zs.length c,.int .i64 v.2.1,errV v.2.2])∧EnsV w' B c zs∧lE zs=v.1∧NewA w.heap.size B∧NewE w.heap.size zs)∧Below w.heap.size w w'
set_option maxHeartbeats 8000000 in
theorem iall_new (A0:Option Addr) (cap n:Nat) (D:Nat→Dm) (A:Nat→Option Addr) (C:Nat→Nat) (AE:Option Addr) (ce:Nat) (xs:List EnL) (AX:Option Addr) (cx:Nat) (ys:List EdL) (w:World) (hM:DimsV w A0 cap n D A C) (hE:EnsV w AE ce xs) (hX:EdsV w AX cx ys) :
  Calls Tryz.prog 22 #[.agg #[.slice A0 n cap],.slice AE xs.length ce,.slice AX ys.length cx] w fun e w'=>Answer3n w (editsV D n (lE xs) (lD ys)) e w':=by
 have hB0:=ownOut_below w A0 n cap 24
 have HB0:Hid (Below w.heap.size w (ownOut w A0 n cap 24)):=hB0
 unfold Answer3n
 by_cases h60:60<ys.length
 ·have HV:Hid (editsV D n (lE xs) (lD ys)=([],0,4)):=editsV_full _ h60
  have h60':60<(ys.length:Int):=by omega
  generalize editsV D n (lE xs) (lD ys)=V at HV
  generalize xs.length=nx
  generalize ys.length=ny at h60 h60'
  clear hM hE hX hB0
  go_enter Tryz.func22,Tryz.ntmps22
  go_wp2_with fail
  go_ret3
  rw [HV.out]
  exact ⟨⟨none,0,[],rfl,EnsV.nil _ _ _ (by decide),rfl,NewA.none _,fun _ h=>(by cases h)⟩,HB0.out⟩
 have h:=icheck_any A0 cap n D A C AE ce xs (ownOut w A0 n cap 24) (hM.later hB0) (hE.later hB0)
 have h60':(ys.length:Int)≤60:=by omega
 by_cases he:entsErr D n (lE xs)=0
 ·have hEs:=ens_of he
  have HV:Hid (editsV D n (lE xs) (lD ys)=editsFrom D n (lE xs) 0 ((lD ys).drop 0)):=editsV_in h60 he
  have HFr:Hid (∀ w',Below w.heap.size w w'→Calls Tryz.prog 30 #[.slice AE xs.length ce] w' fun e w'' => ∃ g zs,e=.returned (.slice (some ⟨g,0,none⟩) xs.length xs.length)∧w'.heap.size≤g∧RowE w'' g xs.length zs∧zs.length=xs.length∧lE zs=lE xs∧NewE w'.heap.size zs∧Below w'.heap.size w' w''):=fun w' hw'=>by
   refine (fresh_new AE ce xs w' (few_of hEs) (fresh_of hEs) (hE.later hw')).mono ?_
   rintro e w'' ⟨⟨zs,rfl,hRow,hle,hnw⟩,hb⟩
   exact ⟨w'.heap.size,zs,rfl,Nat.le_refl _,hRow,len_eq hle,hle,hnw,hb⟩
  have HM:Hid (DimsV w A0 cap n D A C):=hM
  have HX:Hid (EdsV w AX cx ys):=hX
  have HEs:Hid (Ens D n (lE xs)):=hEs
  rw [he,errV_zero] at h
  generalize editsV D n (lE xs) (lD ys)=V at HV
  obtain ⟨ny,hny⟩:∃ ny,ys.length=ny:=⟨_,rfl⟩
  obtain ⟨nx,hnx⟩:∃ nx,xs.length=nx:=⟨_,rfl⟩
  have HNY:Hid (ys.length=ny):=hny
  rw [hny] at h60' ⊢
  rw [hnx] at h HFr ⊢
  clear he hEs hM hE hX hB0 h60 hny hnx
  go_enter Tryz.func22,Tryz.ntmps22
  go_wp2_with fail
  refine h.mono ?_
  rintro e w1 ⟨rfl,hb1⟩
  have hB1:Below w.heap.size w w1:=onB HB0.out hb1
  have HB1:Hid (Below w.heap.size w w1):=hB1
  have c1:w1.cell? ⟨w.heap.size,0,none⟩=some (.slice A0 n cap):=(hb1.cell (p:=⟨w.heap.size,0,none⟩) (by show w.heap.size<_;rw [ownOut_size];omega)).trans (ownOut_at ..)
  have hz1:w.heap.size<w1.heap.size:=by have:=hb1.size;rw [ownOut_size] at this;omega
  have h2:=HFr.out w1 hB1
  have HM1:Hid (DimsV w1 A0 cap n D A C):=HM.out.later hB1
  have HX1:Hid (EdsV w1 AX cx ys):=HX.out.later hB1
  clear hb1 h hB1 HM HX HB0 HFr
  go_wp2_with fail
  refine h2.mono ?_
  rintro e w2 ⟨g0,zs0,rfl,hgg,hRow,hzl,hle,hnw,hb2⟩
  have HR0:Hid (RowE w2 g0 nx zs0∧w1.heap.size≤g0∧zs0.length=nx∧lE zs0=lE xs∧NewE w1.heap.size zs0∧Below w1.heap.size w1 w2):=⟨hRow,hgg,hzl,hle,hnw,hb2⟩
  clear hgg hRow hzl hle hnw hb2 h2
  go_wp2_with fail
  go_loopg [10,29] ny (fun gm s10 s29 wr => ∃ (k g cg:Nat) (zs:List EnL),k≤ny∧gm=ny-k∧s29=.int .i64 k∧s10=.slice (some ⟨g,0,none⟩) zs.length cg∧Hid (w1.heap.size≤g∧RowE wr g cg zs∧Ens D n (lE zs)∧NewE w1.heap.size zs)∧Hid (editsFrom D n (lE zs) k ((lD ys).drop k)=editsFrom D n (lE xs) 0 ((lD ys).drop 0))∧Below w1.heap.size w1 wr)
  case atStart =>
   obtain ⟨r1,r2,r3,r4,r6,r5⟩:=HR0.out
   exact ⟨0,g0,nx,zs0,Nat.zero_le _,rfl,rfl,by rw [r3],⟨r2,r1,by rw [r4];exact HEs.out,r6⟩,(by rw [r4]:editsFrom D n (lE zs0) 0 ((lD ys).drop 0)=_),r5⟩
  case round =>
   obtain ⟨k,g,cg,zs,hk,rfl,rfl,rfl,HRw,HF,hBw⟩:=hrel
   have HBw:Hid (Below w1.heap.size w1 wr):=hBw
   by_cases hlt:k<ny
   ·have hkx:k<ys.length:=by rw [HNY.out];exact hlt
    have hki:(k:Int)<(ny:Int):=by omega
    obtain ⟨-,-,h0 | ⟨b,o,rfl,hXs⟩⟩:=HX1.out.later hBw
    ·have:=HNY.out;rw [h0] at this;simp at this;omega
    obtain ⟨d0,d1,d2,hpl⟩:=hXs.2 k hkx
    have c0:wr.cell? ⟨w.heap.size,0,none⟩=some (.slice A0 n cap):=(hBw.cell (p:=⟨w.heap.size,0,none⟩) hz1).trans c1
    have hzr:w.heap.size<wr.heap.size:=Nat.lt_of_lt_of_le hz1 hBw.size
    have hbo:=ownEd_below wr (ys.getD k noD).A (ys.getD k noD).x.pl.length (ys.getD k noD).c (ys.getD k noD).x.n (ys.getD k noD).x.clear
    have HBo:Hid (Below wr.heap.size wr (ownEd wr (ys.getD k noD).A (ys.getD k noD).x.pl.length (ys.getD k noD).c (ys.getD k noD).x.n (ys.getD k noD).x.clear)):=hbo
    have he:=iedit_any A0 cap n D A C g cg zs (ys.getD k noD).A (ys.getD k noD).c (ys.getD k noD).x (ownEd wr (ys.getD k noD).A (ys.getD k noD).x.pl.length (ys.getD k noD).c (ys.getD k noD).x.n (ys.getD k noD).x.clear) ((HM1.out.later hBw).later hbo) (hpl.later hbo) (HRw.out.2.1.later hbo) HRw.out.2.2.1 HRw.out.2.2.2 (Nat.le_trans hBw.size hbo.size)
    by_cases hee:editErr D n (lE zs) (ys.getD k noD).x=0
    ·have HST:Hid (editsFrom D n (lE zs) k ((lD ys).drop k)=editsFrom D n (editV (lE zs) (ys.getD k noD).x) (k+1) ((lD ys).drop (k+1))):=edits_on hkx hee
     have HEn:Hid (Ens D n (editV (lE zs) (ys.getD k noD).x)):=(HRw.out.2.2.1.edit hee).2
     rw [hee] at he
     generalize editV (lE zs) (ys.getD k noD).x=l2 at he HST HEn
     generalize (ys.getD k noD).A=A1 at d0 he HBo
     generalize (ys.getD k noD).c=k1 at d0 he HBo
     generalize (ys.getD k noD).x.n=n1 at d1 he HBo
     generalize (ys.getD k noD).x.clear=q1 at d2 he HBo
     generalize (ys.getD k noD).x.pl.length=m1 at d0 he HBo
     obtain ⟨nz,hnz⟩:∃ nz,zs.length=nz:=⟨_,rfl⟩
     rw [hnz] at he ⊢
     clear hXs hpl hbo hBw hee hnz
     go_wp2_with fail
     refine he.mono ?_
     rintro e w3 ⟨⟨B,c,zs2,rfl,hc⟩,hg⟩
     obtain ⟨g2,rfl,hg2,hRow2,hl2,hnw2⟩:∃ g',B=some ⟨g',0,none⟩∧g≤g'∧RowE w3 g' c zs2∧lE zs2=l2∧NewE w1.heap.size zs2:=by
      rcases hc with ⟨h1,_⟩ | ⟨_,h1⟩
      ·exact absurd rfl h1
      ·exact h1
     have HN2:Hid (w1.heap.size≤g2∧RowE w3 g2 c zs2∧Ens D n (lE zs2)∧NewE w1.heap.size zs2):=⟨Nat.le_trans HRw.out.1 hg2,hRow2,by rw [hl2];exact HEn.out,hnw2⟩
     have HF2:Hid (editsFrom D n (lE zs2) (k+1) ((lD ys).drop (k+1))=editsFrom D n (lE xs) 0 ((lD ys).drop 0)):=by show _=_;rw [hl2,←HST.out];exact HF.out
     have HB3:Hid (Below w1.heap.size w1 w3):=below_grown (onB HBw.out HBo.out) hg (onB HBw.out HBo.out).size HRw.out.1
     rw [errV_zero]
     clear hc hg hRow2 hl2 hg2 hnw2 he HST HEn
     go_wp2_with fail
     go_roundg (ny-(k+1))
     case measure=>omega
     case rel=>exact ⟨k+1,g2,c,zs2,by omega,rfl,by go_num,rfl,HN2,HF2,HB3.out⟩
    ·have HFin:Hid (V=([],(k:Int),editErr D n (lE zs) (ys.getD k noD).x)):=by show _=_;rw [HV.out,←HF.out,edits_bad hkx hee]
     have HEr:Hid (errV (editErr D n (lE zs) (ys.getD k noD).x)=.iface 95 (.int .i64 (editErr D n (lE zs) (ys.getD k noD).x))):=errV_some hee
     have HNe:Hid (editErr D n (lE zs) (ys.getD k noD).x≠0):=hee
     generalize editErr D n (lE zs) (ys.getD k noD).x=E at he HFin HEr HNe
     generalize editV (lE zs) (ys.getD k noD).x=l2 at he
     generalize (ys.getD k noD).A=A1 at d0 he HBo
     generalize (ys.getD k noD).c=k1 at d0 he HBo
     generalize (ys.getD k noD).x.n=n1 at d1 he HBo
     generalize (ys.getD k noD).x.clear=q1 at d2 he HBo
     generalize (ys.getD k noD).x.pl.length=m1 at d0 he HBo
     obtain ⟨nz,hnz⟩:∃ nz,zs.length=nz:=⟨_,rfl⟩
     rw [hnz] at he ⊢
     clear hXs hpl hbo hBw hee hnz
     go_wp2_with fail
     refine he.mono ?_
     rintro e w3 ⟨⟨B,c,zs2,rfl,hc⟩,hg⟩
     have HB3:Hid (Below w1.heap.size w1 w3):=below_grown (onB HBw.out HBo.out) hg (onB HBw.out HBo.out).size HRw.out.1
     rw [HEr.out]
     clear hc hg he
     go_wp2_with fail
     go_ret3
     rw [HFin.out]
     exact ⟨⟨none,0,[],by rw [HEr.out];rfl,EnsV.nil _ _ _ (by decide),rfl,NewA.none _,fun _ h=>(by cases h)⟩,onB HB1.out HB3.out⟩
   ·have hke:k=ny:=by omega
    subst hke
    have HFin:Hid (V=(lE zs,0,0)):=by show _=_;rw [HV.out,←HF.out,edits_end (by rw [HNY.out];exact Nat.le_refl _)]
    clear hBw
    go_wp2_with fail
    go_ret3
    rw [HFin.out]
    exact ⟨⟨_,_,zs,rfl,HRw.out.2.1.ensV,rfl,fun b o e=>by cases e;exact Nat.le_trans HB1.out.size HRw.out.1,HRw.out.2.2.2.le HB1.out.size⟩,onB HB1.out HBw.out⟩
 ·have HV:Hid (editsV D n (lE xs) (lD ys)=([],0,entsErr D n (lE xs))):=editsV_bad h60 he
  have HEr:Hid (errV (entsErr D n (lE xs))=.iface 95 (.int .i64 (entsErr D n (lE xs)))):=errV_some he
  rw [errV_some he] at h
  generalize editsV D n (lE xs) (lD ys)=V at HV
  generalize entsErr D n (lE xs)=E at h HV HEr he
  generalize xs.length=nx at h
  generalize ys.length=ny at h60 h60'
  clear hM hE hX hB0 h60 he
  go_enter Tryz.func22,Tryz.ntmps22
  go_wp2_with fail
  refine h.mono ?_
  rintro e w1 ⟨rfl,hb1⟩
  have HB1:Hid (Below w.heap.size w w1):=onB HB0.out hb1
  clear hb1
  go_wp2_with fail
  go_ret3
  rw [HV.out]
  exact ⟨⟨none,0,[],by rw [HEr.out];rfl,EnsV.nil _ _ _ (by decide),rfl,NewA.none _,fun _ h=>(by cases h)⟩,HB1.out⟩
end Go.Proofs.YtfgegmpoejilnaaGreatDoor
namespace Go.Proofs.YtfgegmpoejilnaaGreatDoor
open Go.ChangeShapes Go.WideShapes Go.ChangeAt Go.RowKit
set_option maxRecDepth 20000
set_option maxHeartbeats 8000000 in
theorem fcells_own (A0:Option Addr) (cap n:Nat) (D:Nat→Dm) (A:Nat→Option Addr) (C:Nat→Nat) (AE:Option Addr) (ce:Nat) (xs:List EnL) (w:World) (hM:DimsV w A0 cap n D A C) (hE:EnsV w AE ce xs) (he:entsErr D n (lE xs)=0) :
  Calls Tryz.prog 27 #[.agg #[.slice A0 n cap],.slice AE xs.length ce] w fun e w'=>(∃ g,e=.returned (.tuple #[.slice (some ⟨g,0,none⟩) (prodN D n) (prodN D n),.nilIface])∧w.heap.size≤g∧CelB w' g (wrV D n (lE xs)))∧Below w.heap.size w w':=by
 have hB0:=ownOut_below w A0 n cap 24
 have h:=icheck_any A0 cap n D A C AE ce xs (ownOut w A0 n cap 24) (hM.later hB0) (hE.later hB0)
 have HB0:Hid (Below w.heap.size w (ownOut w A0 n cap 24)):=hB0
 have HM:Hid (DimsV w A0 cap n D A C):=hM
 have HE:Hid (EnsV w AE ce xs):=hE
 clear hM hE hB0
 have hEs:=ens_of he
 have HEs:Hid (Ens D n (lE xs)):=hEs
 have hfew:xs.length≤3000:=by have:=hEs.few;rw [lE_len] at this;exact this
 have hR:=hEs.right
 have HR:Hid ((allErr D n).2.2=0):=hR
 obtain ⟨hn1,hn4,hp3,hd⟩:=allErr_some hR
 rw [he,errV_zero] at h
 have HBo:Hid (w.heap.size<(ownOut w A0 n cap 24).heap.size∧(ownOut w A0 n cap 24).cell? ⟨w.heap.size,0,none⟩=some (.slice A0 n cap)):=⟨by rw [ownOut_size];omega,ownOut_at ..⟩
 obtain ⟨N,hN⟩:∃ N,xs.length=N:=⟨_,rfl⟩
 have HN:Hid (xs.length=N):=hN
 rw [hN] at h hfew ⊢
 have hN':(N:Int)≤3000:=by omega
 obtain ⟨PN,hPN⟩:∃ PN,prodN D n=PN:=⟨_,rfl⟩
 have HPN:Hid (prodN D n=PN):=hPN
 rw [hPN] at hp3
 have hmk:=run_make_cells PN hp3
 have hPN':(PN:Int)≤3000:=by omega
 have HWE:Hid (((lE xs).take N).foldl (wrStep D n) (List.replicate PN (0,0))=wrV D n (lE xs)):=by show _=_;rw [List.take_of_length_le (by rw [lE_len,hN];exact Nat.le_refl _),←hPN];rfl
 clear he hEs hR hd hN hPN
 go_enter Tryz.func27,Tryz.ntmps27
 go_wp2_with fail
 refine h.mono ?_
 rintro e w1 ⟨rfl,hb1⟩
 have hB:Below w.heap.size w w1:=onB HB0.out hb1
 have HB:Hid (Below w.heap.size w w1):=hB
 have HBox:Hid (BoxN w1 w.heap.size (.slice A0 n cap)):=⟨Nat.lt_of_lt_of_le HBo.out.1 hb1.size,(hb1.cell (p:=⟨w.heap.size,0,none⟩) HBo.out.1).trans HBo.out.2⟩
 have c1:=HBox.out.2
 have hpc:=pcells_any A0 cap n D A C w1 (HM.out.later hB)
 have hcv:cellsV D n=(PN:Int):=by unfold cellsV;rw [if_pos HR.out,HPN.out]
 rw [HR.out,errV_zero,hcv] at hpc
 clear hb1 h hB hcv
 go_wp2_with fail
 refine hpc.mono ?_
 rintro e w2 ⟨rfl,hb2⟩
 have HB2:Hid (Below w.heap.size w w2):=onB HB.out hb2
 have HBox2:Hid (BoxN w2 w.heap.size (.slice A0 n cap)):=HBox.out.later hb2
 obtain ⟨v2,hv2⟩:∃ v,w2.alloc (.cells (madeCells #[.int .i64 0,.int .i64 0] (PN*2)) 54)=v:=⟨_,rfl⟩
 have hBv:Below w2.heap.size w2 v2:=by rw [←hv2];go_grown
 have HBv:Hid (Below w2.heap.size w2 v2):=hBv
 have HCv:Hid (CelB v2 w2.heap.size (List.replicate PN (0,0))):=by rw [←hv2];exact celB_made w2 PN
 have HBoxv:Hid (BoxN v2 w.heap.size (.slice A0 n cap)):=HBox2.out.later hBv
 have hwz:w.heap.size<w2.heap.size:=HBox2.out.1
 clear hpc hb2 c1 hBv
 go_wp2_with fail
 clear hmk hv2
 go_loopg [32] N (fun gg s32 wr => ∃ (k:Nat),k≤N∧gg=N-k∧s32=.int .i64 k∧Hid (CelB wr w2.heap.size (((lE xs).take k).foldl (wrStep D n) (List.replicate PN (0,0))))∧Hid (v2.grownBy wr (some w2.heap.size)))
 case atStart=>exact ⟨0,Nat.zero_le _,rfl,rfl,HCv,grown_refl v2 _⟩
 case round =>
  obtain ⟨k,hk,rfl,rfl,HC,HG⟩:=hrel
  have hB2r:Below w2.heap.size w2 wr:=HBv.out.grown HG.out HBv.out.size (fun j hj=>by cases hj;exact Nat.le_refl _)
  have HB2r:Hid (Below w2.heap.size w2 wr):=hB2r
  have HBr:Hid (Below w.heap.size w wr):=onB HB2.out hB2r
  by_cases hlt:k<N
  ·have hkx:k<xs.length:=by rw [HN.out];exact hlt
   have hki:(k:Int)<(N:Int):=by omega
   obtain ⟨-,-,h0 | ⟨bb,oo,rfl,hA⟩⟩:=HE.out.later HBr.out
   ·have:=HN.out;rw [h0] at this;simp at this;omega
   obtain ⟨c1,c2⟩:=hA.at hkx
   have hmem:(xs.getD k noL).e∈lE xs:=List.mem_map.2 ⟨_,enl_mem hkx,rfl⟩
   obtain ⟨hqI,-,hnum⟩:=HEs.out.each _ hmem
   have hnn : -1000000≤(xs.getD k noL).e.n∧(xs.getD k noL).e.n≤1000000:=by simpa [numOk] using hnum
   obtain ⟨hq1,hq2,-⟩:=numI_bound hqI (Nat.le_refl n)
   have hpl:=hA.pl hkx
   have HWr:=take_wr D n (List.replicate PN (0,0)) xs hkx
   unfold wrStep at HWr
   obtain ⟨X,hX⟩:∃ X:Nat,numI D (xs.getD k noL).e.pl n=X:=⟨(numI D (xs.getD k noL).e.pl n).toNat,by omega⟩
   have hnv:numV D n (xs.getD k noL).e.pl=(X:Int):=by unfold numV;rw [if_pos hqI.ok,hX]
   have hXN:X<PN:=by have:=HPN.out;omega
   have hNum:∀ w',Below wr.heap.size wr w'→_:=fun w' hw'=>pnumber_any A0 cap n D A C (xs.getD k noL).A (xs.getD k noL).c (xs.getD k noL).e.pl w' (HM.out.later (onB HBr.out hw')) (hpl.later hw')
   rw [hnv,hqI.ok,errV_zero] at hNum
   have HNum:Hid (∀ w',Below wr.heap.size wr w'→_):=hNum
   have hof:=fun w'=>of_any (xs.getD k noL).e.n w'
   rw [ofP_in (by omega) (by omega)] at hof
   rw [hX,show ((X:Int)).toNat=X by omega] at HWr
   have HWR:Hid _:=HWr
   obtain ⟨LL,hLL⟩:∃ LL,((lE xs).take k).foldl (wrStep D n) (List.replicate PN (0,0))=LL:=⟨_,rfl⟩
   have hLLn:LL.length=PN:=by rw [←hLL,wrs_len];simp
   have HCL:Hid (CelB wr w2.heap.size LL):=by rw [←hLL];exact HC.out
   have HNx:Hid (((lE xs).take (k+1)).foldl (wrStep D n) (List.replicate PN (0,0))=LL.set X (1,(xs.getD k noL).e.n)):=by
    show _=_
    rw [←hLL]
    exact HWR.out
   have HBxr:Hid (BoxN wr w.heap.size (.slice A0 n cap)):=boxn_other HBoxv.out (by omega) HG.out
   have hXL:X<LL.length:=by omega
   have HXL:Hid (X<LL.length):=hXL
   generalize (xs.getD k noL).A=A1 at c1 HNum
   generalize (xs.getD k noL).c=k1 at c1 HNum
   generalize (xs.getD k noL).e.n=num at c2 hnn hof HNx
   generalize (xs.getD k noL).e.pl.length=m1 at c1 HNum
   have hcr:=HBxr.out.2
   have hXi:(X:Int)<(PN:Int):=by omega
   obtain ⟨y,hy⟩:∃ y,wr.alloc (.cells #[.slice A1 m1 k1,.int .i64 num] 63)=y:=⟨_,rfl⟩
   have hBy:Below wr.heap.size wr y:=by rw [←hy];go_grown
   have HBy:Hid (Below wr.heap.size wr y):=hBy
   have HPy:Hid (y.heap[wr.heap.size]?=some (.cells #[.slice A1 m1 k1,.int .i64 num] 63 (0,0))):=by show _=_;rw [←hy];exact heap_alloc_new ..
   obtain ⟨p0,p1,-,-⟩:=pair_at HPy.out
   have hyo:=(HBxr.out.later hBy).2
   clear hB2r hA hmem hqI hnum hpl HWr hNum hnv hLL hLLn hX hq1 hq2 hBy hXL HWR
   go_wp2_with fail
   refine (HNum.out _ HBy.out).mono ?_
   rintro e w5 ⟨rfl,hb5⟩
   have HB5:Hid (Below y.heap.size y w5):=hb5
   have hwr:wr.heap.size<y.heap.size:=(Array.getElem?_eq_some_iff.1 HPy.out).1
   have hP5:w5.heap[wr.heap.size]?=some (.cells #[.slice A1 m1 k1,.int .i64 num] 63 (0,0)):=(hb5.block _ hwr).trans HPy.out
   obtain ⟨-,s1,-,-⟩:=pair_at hP5
   clear hb5 hP5 p0 p1 hyo
   go_wp2_with fail
   refine (hof _).mono ?_
   rintro e w6 ⟨rfl,hb6⟩
   have hB6:Below wr.heap.size wr w6:=onB (onB HBy.out HB5.out) hb6
   have HC6:Hid (CelB w6 w2.heap.size LL):=HCL.out.later hB6
   obtain ⟨g1,g2⟩:=HC6.out.at HXL.out
   have g3:=HC6.out.frozen (X*2)
   have g4:=HC6.out.frozen (X*2+1)
   have HC7:Hid (CelB ((w6.setCell ⟨w2.heap.size,X*2,none⟩ (.int .i64 1)).setCell ⟨w2.heap.size,X*2+1,none⟩ (.int .i64 num)) w2.heap.size (((lE xs).take (k+1)).foldl (wrStep D n) (List.replicate PN (0,0)))):=by show CelB _ _ _;rw [HNx.out];exact HC6.out.set HXL.out 1 num
   have HG7:Hid (v2.grownBy ((w6.setCell ⟨w2.heap.size,X*2,none⟩ (.int .i64 1)).setCell ⟨w2.heap.size,X*2+1,none⟩ (.int .i64 num)) (some w2.heap.size)):=cel_grown (grown_then HG.out hB6)
   clear hb6 hB6 hof s1
   go_wp2_with fail
   go_roundg (N-(k+1))
   case measure=>omega
   case rel=>exact ⟨k+1,by omega,rfl,by go_num,HC7,HG7⟩
  ·have hke:k=N:=by omega
   subst hke
   have HV:Hid (CelB wr w2.heap.size (wrV D n (lE xs))):=by rw [←HWE.out];exact HC.out
   clear hB2r
   go_wp2_with fail
   go_ret2
   exact ⟨⟨w2.heap.size,by rw [HPN.out];rfl,HB2.out.size,HV.out⟩,HBr.out⟩
theorem Tryz.infoMemH:(Tryz.prog.info? 27).map (fun i=>(i.zero,i.size,i.bytes))=some (some (.agg #[.string ⟨#[]⟩,.int .i64 0,.int .i64 0,.string ⟨#[]⟩]),4,48):=by kernel_rfl
theorem Tryz.infoDimH:(Tryz.prog.info? 30).map (fun i=>(i.zero,i.size,i.bytes))=some (some (.agg #[.string ⟨#[]⟩,.int .i64 0,.slice none 0 0]),3,48):=by kernel_rfl
def dcV (D:Nat→Dm) (A:Nat→Option Addr) (C:Nat→Nat) (j:Nat):Value:=if j % 3=0 then .string (D (j / 3)).name else if j % 3=1 then .int .i64 (D (j / 3)).solve else .slice (A (j / 3)) (D (j / 3)).n (C (j / 3))
def mcV (M:Nat→Mem) (j:Nat):Value:=if j % 4=0 then .string (M (j / 4)).name else if j % 4=1 then .int .i64 (M (j / 4)).parent else if j % 4=2 then .int .i64 (M (j / 4)).sign else .string (M (j / 4)).formula
def rowF (f:Nat→Value) (n:Nat):List Value:=(List.range n).map f
theorem rowF_len (f:Nat→Value) (n:Nat):(rowF f n).length=n:=by simp [rowF]
theorem rowF_at {f:Nat→Value} {n j:Nat} {u:Value} (h:(rowF f n)[j]?=some u):j<n∧u=f j:=by
 have hj:j<n:=by have:=(List.getElem?_eq_some_iff.1 h).1;rwa [rowF_len] at this
 simp [rowF,List.getElem?_range hj] at h
 exact ⟨hj,h.symm⟩
theorem rowF_get (f:Nat→Value) {n j:Nat} (h:j<n):(rowF f n)[j]?=some (f j):=by simp [rowF,List.getElem?_range h]
theorem dcV_one (D:Nat→Dm) (A:Nat→Option Addr) (C:Nat→Nat) (n:Nat):∀ u∈rowF (dcV D A C) n,u.oneCell'=true:=fun u hu=>by
 unfold rowF at hu
 obtain ⟨j,-,rfl⟩:=List.mem_map.1 hu
 unfold dcV
 split
 ·rfl
 ·split <;> rfl
theorem mcV_one (M:Nat→Mem) (n:Nat):∀ u∈rowF (mcV M) n,u.oneCell'=true:=fun u hu=>by
 unfold rowF at hu
 obtain ⟨j,-,rfl⟩:=List.mem_map.1 hu
 unfold mcV
 split
 ·rfl
 ·split
  ·rfl
  ·split <;> rfl
theorem DimsAt.dc {w:World} {b o n:Nat} {D:Nat→Dm} {A:Nat→Option Addr} {C:Nat→Nat} (h:DimsAt w b o n D A C) {j:Nat} (hj:j<n*3):w.cell? ⟨b,o+j,none⟩=some (dcV D A C j):=by
 obtain ⟨h1,h2,h3,-⟩:=h.2 (j / 3) (by omega)
 unfold dcV
 split
 ·rename_i e;rw [show o+j=o+j / 3*3 by omega];exact h1
 ·split
  ·rename_i e;rw [show o+j=o+j / 3*3+1 by omega];exact h2
  ·rw [show o+j=o+j / 3*3+2 by omega];exact h3
theorem MemsAt.mc {w:World} {b o n:Nat} {M:Nat→Mem} (h:MemsAt w b o n M) {j:Nat} (hj:j<n*4):w.cell? ⟨b,o+j,none⟩=some (mcV M j):=by
 obtain ⟨h1,h2,h3,h4⟩:=h.2 (j / 4) (by omega)
 unfold mcV
 split
 ·rw [show o+j=o+j / 4*4 by omega];exact h1
 ·split
  ·rw [show o+j=o+j / 4*4+1 by omega];exact h2
  ·split
   ·rw [show o+j=o+j / 4*4+2 by omega];exact h3
   ·rw [show o+j=o+j / 4*4+3 by omega];exact h4
def MemO (w:World) (g n:Nat) (M:Nat→Mem):Prop := ∃ cur fr,w.heap[g]?=some (.cells cur 27 fr)∧∀ j,j<n*4→cur[j]?=some (mcV M j)
theorem MemO.lt {w:World} {g n:Nat} {M:Nat→Mem} (h:MemO w g n M):g<w.heap.size:=by
 obtain ⟨cur,fr,h1,-⟩:=h
 exact (Array.getElem?_eq_some_iff.1 h1).1
theorem MemO.same {w w':World} {g n:Nat} {M:Nat→Mem} (h:MemO w g n M) (hb:w'.heap[g]?=w.heap[g]?):MemO w' g n M:=by
 obtain ⟨cur,fr,h1,h2⟩:=h
 exact ⟨cur,fr,hb.trans h1,h2⟩
theorem MemO.mems {w:World} {g n:Nat} {M:Nat→Mem} (h:MemO w g n M):MemsAt w g 0 n M:=by
 refine ⟨h.lt,fun i hi=>?_⟩
 obtain ⟨cur,fr,h1,h2⟩:=h
 have e:∀ k,k<4→w.cell? ⟨g,0+i*4+k,none⟩=some (mcV M (i*4+k)):=fun k hk=>by
  rw [Lib.cell_of_heap h1,Nat.zero_add]
  exact h2 _ (by omega)
 refine ⟨(e 0 (by omega)).trans ?_,(e 1 (by omega)).trans ?_,(e 2 (by omega)).trans ?_,(e 3 (by omega)).trans ?_⟩
 ·unfold mcV;rw [if_pos (by omega),show (i*4+0) / 4=i by omega]
 ·unfold mcV;rw [if_neg (by omega),if_pos (by omega),show (i*4+1) / 4=i by omega]
 ·unfold mcV;rw [if_neg (by omega),if_neg (by omega),if_pos (by omega),show (i*4+2) / 4=i by omega]
 ·unfold mcV;rw [if_neg (by omega),if_neg (by omega),if_neg (by omega),show (i*4+3) / 4=i by omega]
theorem set_tyD {w:World} {g k T:Nat} {cs:Array Value} {fr:Nat×Nat} {v:Value} (h:w.heap[g]?=some (.cells cs T fr)):(w.setCell ⟨g,k,none⟩ v).heap[g]?=some (.cells (cs.setIfInBounds k v) T fr):=by
 rw [Sort.setCell_eq]
 unfold Sort.mapBlock
 simp only [Array.getElem?_modify,if_true,h,Option.map_some]
 rfl
def DimO (w:World) (g n:Nat) (f:Nat→Value):Prop := ∃ cur,w.heap[g]?=some (.cells cur 30 (0,0))∧∀ j,j<n*3→cur[j]?=some (f j)
theorem DimO.lt {w:World} {g n:Nat} {f:Nat→Value} (h:DimO w g n f):g<w.heap.size:=by
 obtain ⟨cur,h1,-⟩:=h
 exact (Array.getElem?_eq_some_iff.1 h1).1
theorem DimO.same {w w':World} {g n:Nat} {f:Nat→Value} (h:DimO w g n f) (hb:w'.heap[g]?=w.heap[g]?):DimO w' g n f:=by
 obtain ⟨cur,h1,h2⟩:=h
 exact ⟨cur,hb.trans h1,h2⟩
theorem DimO.later {w w':World} {g n:Nat} {f:Nat→Value} (h:DimO w g n f) (hB:Below w.heap.size w w'):DimO w' g n f:=h.same (hB.block g h.lt)
theorem DimO.cell {w:World} {g n:Nat} {f:Nat→Value} (h:DimO w g n f) {j:Nat} (hj:j<n*3):w.cell? ⟨g,j,none⟩=some (f j):=by
 obtain ⟨cur,h1,h2⟩:=h
 rw [Lib.cell_of_heap h1]
 exact h2 j hj
theorem DimO.frozen {w:World} {g n:Nat} {f:Nat→Value} (h:DimO w g n f) (j:Nat):w.frozen? ⟨g,j,none⟩=false:=by
 obtain ⟨cur,h1,-⟩:=h
 exact Lib.frozen_of_heap h1 j
theorem DimO.set {w:World} {g n:Nat} {f:Nat→Value} (h:DimO w g n f) {x:Nat} (hx:x<n*3) (v:Value):DimO (w.setCell ⟨g,x,none⟩ v) g n (fun j=>if j=x then v else f j):=by
 obtain ⟨cur,h1,h2⟩:=h
 refine ⟨cur.setIfInBounds x v,set_tyD h1,fun j hj=>?_⟩
 have hc:=h2 x hx
 dsimp only
 by_cases e:j=x
 ·subst e
  rw [if_pos rfl,Array.getElem?_setIfInBounds_self,if_pos (Array.getElem?_eq_some_iff.1 hc).1]
 ·rw [if_neg e,Array.getElem?_setIfInBounds_ne (fun h=>e h.symm)]
  exact h2 j hj
def DimsO (w:World) (N g n:Nat) (D:Nat→Dm) (G C:Nat→Nat):Prop:=N≤g∧DimO w g n (dcV D (fun i=>some ⟨G i,0,none⟩) C)∧∀ i,i<n→N≤G i∧(D i).n≤C i∧MemO w (G i) (D i).n (D i).mem
theorem DimsO.dims {w:World} {N g n:Nat} {D:Nat→Dm} {G C:Nat→Nat} (h:DimsO w N g n D G C):DimsAt w g 0 n D (fun i=>some ⟨G i,0,none⟩) C:=by
 refine ⟨h.2.1.lt,fun i hi=>?_⟩
 have e:∀ k,k<3→w.cell? ⟨g,0+i*3+k,none⟩=some (dcV D (fun i=>some ⟨G i,0,none⟩) C (i*3+k)):=fun k hk=>by
  rw [Nat.zero_add]
  exact h.2.1.cell (by omega)
 obtain ⟨-,h2,h3⟩:=h.2.2 i hi
 refine ⟨(e 0 (by omega)).trans ?_,(e 1 (by omega)).trans ?_,(e 2 (by omega)).trans ?_,h2,Or.inr ⟨G i,0,rfl,h3.mems⟩⟩
 ·unfold dcV;rw [if_pos (by omega),show (i*3+0) / 3=i by omega]
 ·unfold dcV;rw [if_neg (by omega),if_pos (by omega),show (i*3+1) / 3=i by omega]
 ·unfold dcV;rw [if_neg (by omega),if_neg (by omega),show (i*3+2) / 3=i by omega]
end Go.Proofs.YtfgegmpoejilnaaGreatDoor
