/-
  Edits of entries, one by one: what edit and All of package input answer, called in whatever memory.
-/
import Derived.Test.YtfngmnhkhfgmjagGreatDoorJAAZ
namespace Go.Proofs.YtfngmnhkhfgmjagGreatDoor
open Go.ChangeShapes Go.WideShapes Go.ChangeAt Go.RowKit Go.Lib
set_option maxRecDepth 20000
def ownEd (w:World) (A:Option Addr) (m c:Nat) (N:Int) (cl:Bool):World:=w.alloc (.cells #[.slice A m c,.int .i64 N,.bool cl] 82)
theorem ownEd_below (w:World) (A:Option Addr) (m c:Nat) (N:Int) (cl:Bool):Below w.heap.size w (ownEd w A m c N cl):=by unfold ownEd;go_grown
def ownOX (w:World) (A0:Option Addr) (n cap:Nat) (A:Option Addr) (m c:Nat) (N:Int) (cl:Bool):World:=ownEd (ownOut w A0 n cap 29) A m c N cl
theorem ownOX_below (w:World) (A0:Option Addr) (n cap:Nat) (A:Option Addr) (m c:Nat) (N:Int) (cl:Bool):Below w.heap.size w (ownOX w A0 n cap A m c N cl):=onB (ownOut_below ..) (ownEd_below ..)
set_option maxHeartbeats 4000000 in
theorem iedit_any {M:Nat} (A0:Option Addr) (cap n:Nat) (D:Nat→Dm) (A:Nat→Option Addr) (C:Nat→Nat) (g cg:Nat) (xs:List EnL) (Ax:Option Addr) (cx:Nat) (x:Ed) (w:World) (hM:DimsV w A0 cap n D A C) (hP:PlAt w Ax cx x.pl) (hR:RowE w g cg xs) (hEs:Ens D n (lE xs)) (hMx:NewE M xs) (hMw:M≤w.heap.size) :
  Calls Tryz.prog 108 #[.agg #[.slice A0 n cap],.slice (some ⟨g,0,none⟩) xs.length cg,.agg #[.slice Ax x.pl.length cx,.int .i64 x.n,.bool x.clear]] w fun e w'=>Edited M w g (editErr D n (lE xs) x) (editV (lE xs) x) e w':=by
 obtain ⟨p,N,cl⟩:=x
 have hB0:=ownOX_below w A0 n cap Ax p.length cx N cl
 have HB0:Hid (Below w.heap.size w (ownOX w A0 n cap Ax p.length cx N cl)):=hB0
 cases cl
 ·have h:=iset1_any A0 cap n D A C g cg xs Ax cx p N (ownOX w A0 n cap Ax p.length cx N false) (hM.later hB0) (hP.later hB0) (hR.later hB0) hEs hMx (Nat.le_trans hMw hB0.size)
  have hv:editV (lE xs) ⟨p,N,false⟩=setL (lE xs) p N:=rfl
  rw [hv]
  generalize editErr D n (lE xs) ⟨p,N,false⟩=E at h
  generalize setL (lE xs) p N=l at h
  simp only
  generalize p.length=m at h HB0
  generalize xs.length=nx at h
  clear hM hP hR hEs hB0 hv
  go_enter Tryz.func108,Tryz.ntmps108
  go_wp2_with fail
  refine h.mono ?_
  rintro e w1 ⟨⟨B,c,ys,rfl,hc⟩,hg⟩
  have HC:Hid ((E≠0∧B=none∧c=0∧ys=[])∨(E=0∧∃ g',B=some ⟨g',0,none⟩∧g≤g'∧RowE w1 g' c ys∧lE ys=l∧NewE M ys)):=hc
  have HG:Hid (w.grownBy w1 (some g)):=grown_trans (grown_below HB0.out) hg
  clear hc hg
  go_wp2_with fail
  go_ret2
  exact ⟨⟨B,c,ys,rfl,HC.out⟩,HG.out⟩
 ·have h:=without_any A0 cap n D A C g cg xs Ax cx p N (ownOX w A0 n cap Ax p.length cx N true) (hM.later hB0) (hP.later hB0) (hR.later hB0) hEs hMx
  have hv:editV (lE xs) ⟨p,N,true⟩=clrL (lE xs) p:=rfl
  rw [hv]
  generalize editErr D n (lE xs) ⟨p,N,true⟩=E at h
  generalize clrL (lE xs) p=l at h
  simp only
  generalize p.length=m at h HB0
  generalize xs.length=nx at h
  clear hM hP hR hEs hB0 hv
  go_enter Tryz.func108,Tryz.ntmps108
  go_wp2_with fail
  refine h.mono ?_
  rintro e w1 ⟨⟨B,c,ys,rfl,hc⟩,hg⟩
  have HC:Hid ((E≠0∧B=none∧c=0∧ys=[])∨(E=0∧∃ g',B=some ⟨g',0,none⟩∧g≤g'∧RowE w1 g' c ys∧lE ys=l∧NewE M ys)):=hc
  have HG:Hid (w.grownBy w1 (some g)):=grown_trans (grown_below HB0.out) hg
  clear hc hg
  go_wp2_with fail
  go_ret2
  exact ⟨⟨B,c,ys,rfl,HC.out⟩,HG.out⟩
theorem drop_ed (ys:List EdL) {k:Nat} (h:k<ys.length):(lD ys).drop k=(ys.getD k noD).x :: (lD ys).drop (k+1):=by
 have h1:k<(lD ys).length:=by rw [lD_len];exact h
 rw [List.drop_eq_getElem_cons h1]
 congr 1
 simp [lD,List.getD,h]
theorem edits_on {D:Nat→Dm} {n:Nat} {l:List En} {ys:List EdL} {k:Nat} (h:k<ys.length) (he:editErr D n l (ys.getD k noD).x=0):editsFrom D n l k ((lD ys).drop k)=editsFrom D n (editV l (ys.getD k noD).x) (k+1) ((lD ys).drop (k+1)):=by rw [drop_ed ys h,editsFrom_ok _ he]
theorem edits_bad {D:Nat→Dm} {n:Nat} {l:List En} {ys:List EdL} {k:Nat} (h:k<ys.length) (he:editErr D n l (ys.getD k noD).x≠0):editsFrom D n l k ((lD ys).drop k)=([],(k:Int),editErr D n l (ys.getD k noD).x):=by rw [drop_ed ys h,editsFrom_bad _ he]
theorem edits_end {D:Nat→Dm} {n:Nat} {l:List En} {ys:List EdL} {k:Nat} (h:ys.length≤k):editsFrom D n l k ((lD ys).drop k)=(l,0,0):=by rw [List.drop_eq_nil_of_le (by rw [lD_len];exact h)];rfl
theorem editsV_full {D:Nat→Dm} {n:Nat} (l:List En) {ys:List EdL} (h:60<ys.length):editsV D n l (lD ys)=([],0,4):=by unfold editsV;rw [if_pos (by rw [lD_len];exact h)]
theorem editsV_bad {D:Nat→Dm} {n:Nat} {l:List En} {ys:List EdL} (h : ¬ 60<ys.length) (he:entsErr D n l≠0):editsV D n l (lD ys)=([],0,entsErr D n l):=by unfold editsV;rw [if_neg (by rw [lD_len];exact h),if_pos he]
theorem editsV_in {D:Nat→Dm} {n:Nat} {l:List En} {ys:List EdL} (h : ¬ 60<ys.length) (he:entsErr D n l=0):editsV D n l (lD ys)=editsFrom D n l 0 ((lD ys).drop 0):=by unfold editsV;rw [if_neg (by rw [lD_len];exact h),if_neg (by simpa using he)];rfl
def Answer3n (w:World) (v:List En×Int×Int) (e:Ending) (w':World):Prop:=(∃ B c zs,e=.returned (.tuple #[.slice B zs.length c,.int .i64 v.2.1,errV v.2.2])∧EnsV w' B c zs∧lE zs=v.1∧NewA w.heap.size B∧NewE w.heap.size zs)∧Below w.heap.size w w'
set_option maxHeartbeats 8000000 in
theorem iall_new (A0:Option Addr) (cap n:Nat) (D:Nat→Dm) (A:Nat→Option Addr) (C:Nat→Nat) (AE:Option Addr) (ce:Nat) (xs:List EnL) (AX:Option Addr) (cx:Nat) (ys:List EdL) (w:World) (hM:DimsV w A0 cap n D A C) (hE:EnsV w AE ce xs) (hX:EdsV w AX cx ys) :
  Calls Tryz.prog 71 #[.agg #[.slice A0 n cap],.slice AE xs.length ce,.slice AX ys.length cx] w fun e w'=>Answer3n w (editsV D n (lE xs) (lD ys)) e w':=by
 have hB0:=ownOut_below w A0 n cap 29
 have HB0:Hid (Below w.heap.size w (ownOut w A0 n cap 29)):=hB0
 unfold Answer3n
 by_cases h60:60<ys.length
 ·have HV:Hid (editsV D n (lE xs) (lD ys)=([],0,4)):=editsV_full _ h60
  have h60':60<(ys.length:Int):=by omega
  generalize editsV D n (lE xs) (lD ys)=V at HV
  generalize xs.length=nx
  generalize ys.length=ny at h60 h60'
  clear hM hE hX hB0
  go_enter Tryz.func71,Tryz.ntmps71
  go_wp2_with fail
  go_ret3
  rw [HV.out]
  exact ⟨⟨none,0,[],rfl,EnsV.nil _ _ _ (by decide),rfl,NewA.none _,fun _ h=>(by cases h)⟩,HB0.out⟩
 have h:=icheck_any A0 cap n D A C AE ce xs (ownOut w A0 n cap 29) (hM.later hB0) (hE.later hB0)
 have h60':(ys.length:Int)≤60:=by omega
 by_cases he:entsErr D n (lE xs)=0
 ·have hEs:=ens_of he
  have HV:Hid (editsV D n (lE xs) (lD ys)=editsFrom D n (lE xs) 0 ((lD ys).drop 0)):=editsV_in h60 he
  have HFr:Hid (∀ w',Below w.heap.size w w'→Calls Tryz.prog 69 #[.slice AE xs.length ce] w' fun e w'' => ∃ g zs,e=.returned (.slice (some ⟨g,0,none⟩) xs.length xs.length)∧w'.heap.size≤g∧RowE w'' g xs.length zs∧zs.length=xs.length∧lE zs=lE xs∧NewE w'.heap.size zs∧Below w'.heap.size w' w''):=fun w' hw'=>by
   refine (fresh_new AE ce xs w' (few_of hEs) (fresh_of hEs) (hE.later hw')).mono ?_
   rintro e w'' ⟨⟨zs,rfl,hRow,hle,hnw⟩,hb⟩
   exact ⟨w'.heap.size,zs,rfl,Nat.le_refl _,hRow,len_eq hle,hle,hnw,hb⟩
  have HM:Hid (DimsV w A0 cap n D A C):=hM
  have HX:Hid (EdsV w AX cx ys):=hX
  have HEs:Hid (Ens D n (lE xs)):=hEs
  rw [he,errV_zero] at h
  generalize editsV D n (lE xs) (lD ys)=V at HV
  obtain ⟨ny,hny⟩:∃ ny,ys.length=ny:=⟨_,rfl⟩
  obtain ⟨nx,hnx⟩:∃ nx,xs.length=nx:=⟨_,rfl⟩
  have HNY:Hid (ys.length=ny):=hny
  rw [hny] at h60' ⊢
  rw [hnx] at h HFr ⊢
  clear he hEs hM hE hX hB0 h60 hny hnx
  go_enter Tryz.func71,Tryz.ntmps71
  go_wp2_with fail
  refine h.mono ?_
  rintro e w1 ⟨rfl,hb1⟩
  have hB1:Below w.heap.size w w1:=onB HB0.out hb1
  have HB1:Hid (Below w.heap.size w w1):=hB1
  have c1:w1.cell? ⟨w.heap.size,0,none⟩=some (.slice A0 n cap):=(hb1.cell (p:=⟨w.heap.size,0,none⟩) (by show w.heap.size<_;rw [ownOut_size];omega)).trans (ownOut_at ..)
  have hz1:w.heap.size<w1.heap.size:=by have:=hb1.size;rw [ownOut_size] at this;omega
  have h2:=HFr.out w1 hB1
  have HM1:Hid (DimsV w1 A0 cap n D A C):=HM.out.later hB1
  have HX1:Hid (EdsV w1 AX cx ys):=HX.out.later hB1
  clear hb1 h hB1 HM HX HB0 HFr
  go_wp2_with fail
  refine h2.mono ?_
  rintro e w2 ⟨g0,zs0,rfl,hgg,hRow,hzl,hle,hnw,hb2⟩
  have HR0:Hid (RowE w2 g0 nx zs0∧w1.heap.size≤g0∧zs0.length=nx∧lE zs0=lE xs∧NewE w1.heap.size zs0∧Below w1.heap.size w1 w2):=⟨hRow,hgg,hzl,hle,hnw,hb2⟩
  clear hgg hRow hzl hle hnw hb2 h2
  go_wp2_with fail
  go_loopg [10,29] ny (fun gm s10 s29 wr => ∃ (k g cg:Nat) (zs:List EnL),k≤ny∧gm=ny-k∧s29=.int .i64 k∧s10=.slice (some ⟨g,0,none⟩) zs.length cg∧Hid (w1.heap.size≤g∧RowE wr g cg zs∧Ens D n (lE zs)∧NewE w1.heap.size zs)∧Hid (editsFrom D n (lE zs) k ((lD ys).drop k)=editsFrom D n (lE xs) 0 ((lD ys).drop 0))∧Below w1.heap.size w1 wr)
  case atStart =>
   obtain ⟨r1,r2,r3,r4,r6,r5⟩:=HR0.out
   exact ⟨0,g0,nx,zs0,Nat.zero_le _,rfl,rfl,by rw [r3],⟨r2,r1,by rw [r4];exact HEs.out,r6⟩,(by rw [r4]:editsFrom D n (lE zs0) 0 ((lD ys).drop 0)=_),r5⟩
  case round =>
   obtain ⟨k,g,cg,zs,hk,rfl,rfl,rfl,HRw,HF,hBw⟩:=hrel
   have HBw:Hid (Below w1.heap.size w1 wr):=hBw
   by_cases hlt:k<ny
   ·have hkx:k<ys.length:=by rw [HNY.out];exact hlt
    have hki:(k:Int)<(ny:Int):=by omega
    obtain ⟨-,-,h0 | ⟨b,o,rfl,hXs⟩⟩:=HX1.out.later hBw
    ·have:=HNY.out;rw [h0] at this;simp at this;omega
    obtain ⟨d0,d1,d2,hpl⟩:=hXs.2 k hkx
    have c0:wr.cell? ⟨w.heap.size,0,none⟩=some (.slice A0 n cap):=(hBw.cell (p:=⟨w.heap.size,0,none⟩) hz1).trans c1
    have hzr:w.heap.size<wr.heap.size:=Nat.lt_of_lt_of_le hz1 hBw.size
    have hbo:=ownEd_below wr (ys.getD k noD).A (ys.getD k noD).x.pl.length (ys.getD k noD).c (ys.getD k noD).x.n (ys.getD k noD).x.clear
    have HBo:Hid (Below wr.heap.size wr (ownEd wr (ys.getD k noD).A (ys.getD k noD).x.pl.length (ys.getD k noD).c (ys.getD k noD).x.n (ys.getD k noD).x.clear)):=hbo
    have he:=iedit_any A0 cap n D A C g cg zs (ys.getD k noD).A (ys.getD k noD).c (ys.getD k noD).x (ownEd wr (ys.getD k noD).A (ys.getD k noD).x.pl.length (ys.getD k noD).c (ys.getD k noD).x.n (ys.getD k noD).x.clear) ((HM1.out.later hBw).later hbo) (hpl.later hbo) (HRw.out.2.1.later hbo) HRw.out.2.2.1 HRw.out.2.2.2 (Nat.le_trans hBw.size hbo.size)
    by_cases hee:editErr D n (lE zs) (ys.getD k noD).x=0
    ·have HST:Hid (editsFrom D n (lE zs) k ((lD ys).drop k)=editsFrom D n (editV (lE zs) (ys.getD k noD).x) (k+1) ((lD ys).drop (k+1))):=edits_on hkx hee
     have HEn:Hid (Ens D n (editV (lE zs) (ys.getD k noD).x)):=(HRw.out.2.2.1.edit hee).2
     rw [hee] at he
     generalize editV (lE zs) (ys.getD k noD).x=l2 at he HST HEn
     generalize (ys.getD k noD).A=A1 at d0 he HBo
     generalize (ys.getD k noD).c=k1 at d0 he HBo
     generalize (ys.getD k noD).x.n=n1 at d1 he HBo
     generalize (ys.getD k noD).x.clear=q1 at d2 he HBo
     generalize (ys.getD k noD).x.pl.length=m1 at d0 he HBo
     obtain ⟨nz,hnz⟩:∃ nz,zs.length=nz:=⟨_,rfl⟩
     rw [hnz] at he ⊢
     clear hXs hpl hbo hBw hee hnz
     go_wp2_with fail
     refine he.mono ?_
     rintro e w3 ⟨⟨B,c,zs2,rfl,hc⟩,hg⟩
     obtain ⟨g2,rfl,hg2,hRow2,hl2,hnw2⟩:∃ g',B=some ⟨g',0,none⟩∧g≤g'∧RowE w3 g' c zs2∧lE zs2=l2∧NewE w1.heap.size zs2:=by
      rcases hc with ⟨h1,_⟩ | ⟨_,h1⟩
      ·exact absurd rfl h1
      ·exact h1
     have HN2:Hid (w1.heap.size≤g2∧RowE w3 g2 c zs2∧Ens D n (lE zs2)∧NewE w1.heap.size zs2):=⟨Nat.le_trans HRw.out.1 hg2,hRow2,by rw [hl2];exact HEn.out,hnw2⟩
     have HF2:Hid (editsFrom D n (lE zs2) (k+1) ((lD ys).drop (k+1))=editsFrom D n (lE xs) 0 ((lD ys).drop 0)):=by show _=_;rw [hl2,←HST.out];exact HF.out
     have HB3:Hid (Below w1.heap.size w1 w3):=below_grown (onB HBw.out HBo.out) hg (onB HBw.out HBo.out).size HRw.out.1
     rw [errV_zero]
     clear hc hg hRow2 hl2 hg2 hnw2 he HST HEn
     go_wp2_with fail
     go_roundg (ny-(k+1))
     case measure=>omega
     case rel=>exact ⟨k+1,g2,c,zs2,by omega,rfl,by go_num,rfl,HN2,HF2,HB3.out⟩
    ·have HFin:Hid (V=([],(k:Int),editErr D n (lE zs) (ys.getD k noD).x)):=by show _=_;rw [HV.out,←HF.out,edits_bad hkx hee]
     have HEr:Hid (errV (editErr D n (lE zs) (ys.getD k noD).x)=.iface 95 (.int .i64 (editErr D n (lE zs) (ys.getD k noD).x))):=errV_some hee
     have HNe:Hid (editErr D n (lE zs) (ys.getD k noD).x≠0):=hee
     generalize editErr D n (lE zs) (ys.getD k noD).x=E at he HFin HEr HNe
     generalize editV (lE zs) (ys.getD k noD).x=l2 at he
     generalize (ys.getD k noD).A=A1 at d0 he HBo
     generalize (ys.getD k noD).c=k1 at d0 he HBo
     generalize (ys.getD k noD).x.n=n1 at d1 he HBo
     generalize (ys.getD k noD).x.clear=q1 at d2 he HBo
     generalize (ys.getD k noD).x.pl.length=m1 at d0 he HBo
     obtain ⟨nz,hnz⟩:∃ nz,zs.length=nz:=⟨_,rfl⟩
     rw [hnz] at he ⊢
     clear hXs hpl hbo hBw hee hnz
     go_wp2_with fail
     refine he.mono ?_
     rintro e w3 ⟨⟨B,c,zs2,rfl,hc⟩,hg⟩
     have HB3:Hid (Below w1.heap.size w1 w3):=below_grown (onB HBw.out HBo.out) hg (onB HBw.out HBo.out).size HRw.out.1
     rw [HEr.out]
     clear hc hg he
     go_wp2_with fail
     go_ret3
     rw [HFin.out]
     exact ⟨⟨none,0,[],by rw [HEr.out];rfl,EnsV.nil _ _ _ (by decide),rfl,NewA.none _,fun _ h=>(by cases h)⟩,onB HB1.out HB3.out⟩
   ·have hke:k=ny:=by omega
    subst hke
    have HFin:Hid (V=(lE zs,0,0)):=by show _=_;rw [HV.out,←HF.out,edits_end (by rw [HNY.out];exact Nat.le_refl _)]
    clear hBw
    go_wp2_with fail
    go_ret3
    rw [HFin.out]
    exact ⟨⟨_,_,zs,rfl,HRw.out.2.1.ensV,rfl,fun b o e=>by cases e;exact Nat.le_trans HB1.out.size HRw.out.1,HRw.out.2.2.2.le HB1.out.size⟩,onB HB1.out HBw.out⟩
 ·have HV:Hid (editsV D n (lE xs) (lD ys)=([],0,entsErr D n (lE xs))):=editsV_bad h60 he
  have HEr:Hid (errV (entsErr D n (lE xs))=.iface 95 (.int .i64 (entsErr D n (lE xs)))):=errV_some he
  rw [errV_some he] at h
  generalize editsV D n (lE xs) (lD ys)=V at HV
  generalize entsErr D n (lE xs)=E at h HV HEr he
  generalize xs.length=nx at h
  generalize ys.length=ny at h60 h60'
  clear hM hE hX hB0 h60 he
  go_enter Tryz.func71,Tryz.ntmps71
  go_wp2_with fail
  refine h.mono ?_
  rintro e w1 ⟨rfl,hb1⟩
  have HB1:Hid (Below w.heap.size w w1):=onB HB0.out hb1
  clear hb1
  go_wp2_with fail
  go_ret3
  rw [HV.out]
  exact ⟨⟨none,0,[],by rw [HEr.out];rfl,EnsV.nil _ _ _ (by decide),rfl,NewA.none _,fun _ h=>(by cases h)⟩,HB1.out⟩
end Go.Proofs.YtfngmnhkhfgmjagGreatDoor
namespace Go.Proofs.YtfngmnhkhfgmjagGreatDoor
open Go.ChangeShapes Go.WideShapes Go.ChangeAt Go.RowKit
set_option maxRecDepth 20000
theorem Tryz.infoMemH:(Tryz.prog.info? 40).map (fun i=>(i.zero,i.size,i.bytes))=some (some (.agg #[.string ⟨#[]⟩,.int .i64 0,.int .i64 0,.string ⟨#[]⟩]),4,48):=by kernel_rfl
theorem Tryz.infoDimH:(Tryz.prog.info? 43).map (fun i=>(i.zero,i.size,i.bytes))=some (some (.agg #[.string ⟨#[]⟩,.int .i64 0,.slice none 0 0]),3,48):=by kernel_rfl
def dcV (D:Nat→Dm) (A:Nat→Option Addr) (C:Nat→Nat) (j:Nat):Value:=if j % 3=0 then .string (D (j / 3)).name else if j % 3=1 then .int .i64 (D (j / 3)).solve else .slice (A (j / 3)) (D (j / 3)).n (C (j / 3))
def mcV (M:Nat→Mem) (j:Nat):Value:=if j % 4=0 then .string (M (j / 4)).name else if j % 4=1 then .int .i64 (M (j / 4)).parent else if j % 4=2 then .int .i64 (M (j / 4)).sign else .string (M (j / 4)).formula
def rowF (f:Nat→Value) (n:Nat):List Value:=(List.range n).map f
theorem rowF_len (f:Nat→Value) (n:Nat):(rowF f n).length=n:=by simp [rowF]
theorem rowF_at {f:Nat→Value} {n j:Nat} {u:Value} (h:(rowF f n)[j]?=some u):j<n∧u=f j:=by
 have hj:j<n:=by have:=(List.getElem?_eq_some_iff.1 h).1;rwa [rowF_len] at this
 simp [rowF,List.getElem?_range hj] at h
 exact ⟨hj,h.symm⟩
theorem rowF_get (f:Nat→Value) {n j:Nat} (h:j<n):(rowF f n)[j]?=some (f j):=by simp [rowF,List.getElem?_range h]
theorem dcV_one (D:Nat→Dm) (A:Nat→Option Addr) (C:Nat→Nat) (n:Nat):∀ u∈rowF (dcV D A C) n,u.oneCell'=true:=fun u hu=>by
 unfold rowF at hu
 obtain ⟨j,-,rfl⟩:=List.mem_map.1 hu
 unfold dcV
 split
 ·rfl
 ·split <;> rfl
theorem mcV_one (M:Nat→Mem) (n:Nat):∀ u∈rowF (mcV M) n,u.oneCell'=true:=fun u hu=>by
 unfold rowF at hu
 obtain ⟨j,-,rfl⟩:=List.mem_map.1 hu
 unfold mcV
 split
 ·rfl
 ·split
  ·rfl
  ·split <;> rfl
theorem DimsAt.dc {w:World} {b o n:Nat} {D:Nat→Dm} {A:Nat→Option Addr} {C:Nat→Nat} (h:DimsAt w b o n D A C) {j:Nat} (hj:j<n*3):w.cell? ⟨b,o+j,none⟩=some (dcV D A C j):=by
 obtain ⟨h1,h2,h3,-⟩:=h.2 (j / 3) (by omega)
 unfold dcV
 split
 ·rename_i e;rw [show o+j=o+j / 3*3 by omega];exact h1
 ·split
  ·rename_i e;rw [show o+j=o+j / 3*3+1 by omega];exact h2
  ·rw [show o+j=o+j / 3*3+2 by omega];exact h3
theorem MemsAt.mc {w:World} {b o n:Nat} {M:Nat→Mem} (h:MemsAt w b o n M) {j:Nat} (hj:j<n*4):w.cell? ⟨b,o+j,none⟩=some (mcV M j):=by
 obtain ⟨h1,h2,h3,h4⟩:=h.2 (j / 4) (by omega)
 unfold mcV
 split
 ·rw [show o+j=o+j / 4*4 by omega];exact h1
 ·split
  ·rw [show o+j=o+j / 4*4+1 by omega];exact h2
  ·split
   ·rw [show o+j=o+j / 4*4+2 by omega];exact h3
   ·rw [show o+j=o+j / 4*4+3 by omega];exact h4
def MemO (w:World) (g n:Nat) (M:Nat→Mem):Prop := ∃ cur fr,w.heap[g]?=some (.cells cur 40 fr)∧∀ j,j<n*4→cur[j]?=some (mcV M j)
theorem MemO.lt {w:World} {g n:Nat} {M:Nat→Mem} (h:MemO w g n M):g<w.heap.size:=by
 obtain ⟨cur,fr,h1,-⟩:=h
 exact (Array.getElem?_eq_some_iff.1 h1).1
theorem MemO.same {w w':World} {g n:Nat} {M:Nat→Mem} (h:MemO w g n M) (hb:w'.heap[g]?=w.heap[g]?):MemO w' g n M:=by
 obtain ⟨cur,fr,h1,h2⟩:=h
 exact ⟨cur,fr,hb.trans h1,h2⟩
theorem MemO.mems {w:World} {g n:Nat} {M:Nat→Mem} (h:MemO w g n M):MemsAt w g 0 n M:=by
 refine ⟨h.lt,fun i hi=>?_⟩
 obtain ⟨cur,fr,h1,h2⟩:=h
 have e:∀ k,k<4→w.cell? ⟨g,0+i*4+k,none⟩=some (mcV M (i*4+k)):=fun k hk=>by
  rw [Lib.cell_of_heap h1,Nat.zero_add]
  exact h2 _ (by omega)
 refine ⟨(e 0 (by omega)).trans ?_,(e 1 (by omega)).trans ?_,(e 2 (by omega)).trans ?_,(e 3 (by omega)).trans ?_⟩
 ·unfold mcV;rw [if_pos (by omega),show (i*4+0) / 4=i by omega]
 ·unfold mcV;rw [if_neg (by omega),if_pos (by omega),show (i*4+1) / 4=i by omega]
 ·unfold mcV;rw [if_neg (by omega),if_neg (by omega),if_pos (by omega),show (i*4+2) / 4=i by omega]
 ·unfold mcV;rw [if_neg (by omega),if_neg (by omega),if_neg (by omega),show (i*4+3) / 4=i by omega]
set_option maxHeartbeats 2000000 in
theorem mclone_any (b o c n:Nat) (M:Nat→Mem) (w:World) (hn0:0<n) (hn:n≤12) (hL:MemsAt w b o n M):Calls Tryz.prog 107 #[.slice (some ⟨b,o,none⟩) n c] w fun e w'=>(∃ g c',e=.returned (.slice (some ⟨g,0,none⟩) n c')∧w.heap.size≤g∧n≤c'∧MemO w' g n M)∧Below w.heap.size w w':=by
 have hq:∀ (w:World) (a:Option Addr) (n c n' c':Nat),(binOp .eql 41 (.slice a n c) (.slice none n' c')).run Tryz.prog w=.ok (.bool a.isNone) w:=fun w a n c n' c'=>Lib.run_eql_slice_nil w _ _ a n c n' c' Tryz.underlying41
 obtain ⟨i0,hi0,hz0,hz1,hz2⟩:=info_parts Tryz.infoMemH
 have HC:Hid (∀ j u,(rowF (mcV M) (n*4))[j]?=some u→w.cell? ((⟨b,o,none⟩:Addr).add j)=some u):=fun j u hj=>by
  obtain ⟨h1,rfl⟩:=rowF_at hj
  rw [plain_add]
  exact hL.mc h1
 have HF:Hid (∀ (w':World) (v:Value),w'.ownsRow w.heap.size 40 4 v n (rowF (mcV M) (n*4))→∃ g c',v=.slice (some ⟨g,0,none⟩) n c'∧w.heap.size≤g∧n≤c'∧MemO w' g n M):=fun w' v h=>by
  rcases h.2 with ⟨rfl,h0⟩ | ⟨g,cap,cur,rfl,hb,hg,h4,h5,h6,h7⟩
  ·omega
  ·refine ⟨g,cap,rfl,hb,h4,cur,_,hg,fun j hj=>?_⟩
   have:=rowF_get (mcV M) hj
   rw [←h7,List.getElem?_take,if_pos (by omega),Array.getElem?_toList] at this
   exact this
 have hl:(rowF (mcV M) (n*4)).length=n*4:=rowF_len _ _
 have h1:=mcV_one M (n*4)
 generalize rowF (mcV M) (n*4)=R at HC HF hl h1
 clear hL
 go_enter Tryz.func107,Tryz.ntmps107
 go_wp2_with (at_builtin;refine wpList_append_own _ rfl _ _ 41 rfl w.heap.size 40 i0 (.agg #[.string ⟨#[]⟩,.int .i64 0,.int .i64 0,.string ⟨#[]⟩]) 4 48 Tryz.underlying41 hi0 hz0 hz1 hz2 rfl (by decide) _ _ _ rfl (World.ownsRow_made w #[] 0 (Nat.le_refl _) (Nat.zero_le _) (by simp)) ⟨b,o,none⟩ n c R rfl ?qc1 ?qc2 ?qc3 ?qc4 ?qc5 ?qc6 ?_)
 case qc1=>exact hl
 case qc2=>exact fun j u hj=>Lib.cell?_alloc_some _ (HC.out j u hj)
 case qc3=>exact h1
 case qc4=>simp only [maxLen];omega
 case qc5=>omega
 case qc6=>simp
 intro v' w1 hown hgrow hnil
 obtain ⟨g,c',rfl,hg⟩:=HF.out _ _ (by simpa using hown)
 have HT:=hid_of hg
 have HB:Hid (Below w.heap.size w w1):=((Below.refl _ w).alloc (Nat.le_refl _) _).grown hgrow (by simp) (by intro k hk;simp [Value.ownBlock] at hk;omega)
 clear hown hgrow hnil hg
 go_wp2_with fail
 go_ret
 exact ⟨⟨g,c',rfl,HT.out⟩,HB.out⟩
theorem set_tyD {w:World} {g k T:Nat} {cs:Array Value} {fr:Nat×Nat} {v:Value} (h:w.heap[g]?=some (.cells cs T fr)):(w.setCell ⟨g,k,none⟩ v).heap[g]?=some (.cells (cs.setIfInBounds k v) T fr):=by
 rw [Sort.setCell_eq]
 unfold Sort.mapBlock
 simp only [Array.getElem?_modify,if_true,h,Option.map_some]
 rfl
def DimO (w:World) (g n:Nat) (f:Nat→Value):Prop := ∃ cur,w.heap[g]?=some (.cells cur 43 (0,0))∧∀ j,j<n*3→cur[j]?=some (f j)
theorem DimO.lt {w:World} {g n:Nat} {f:Nat→Value} (h:DimO w g n f):g<w.heap.size:=by
 obtain ⟨cur,h1,-⟩:=h
 exact (Array.getElem?_eq_some_iff.1 h1).1
theorem DimO.same {w w':World} {g n:Nat} {f:Nat→Value} (h:DimO w g n f) (hb:w'.heap[g]?=w.heap[g]?):DimO w' g n f:=by
 obtain ⟨cur,h1,h2⟩:=h
 exact ⟨cur,hb.trans h1,h2⟩
theorem DimO.later {w w':World} {g n:Nat} {f:Nat→Value} (h:DimO w g n f) (hB:Below w.heap.size w w'):DimO w' g n f:=h.same (hB.block g h.lt)
theorem DimO.cell {w:World} {g n:Nat} {f:Nat→Value} (h:DimO w g n f) {j:Nat} (hj:j<n*3):w.cell? ⟨g,j,none⟩=some (f j):=by
 obtain ⟨cur,h1,h2⟩:=h
 rw [Lib.cell_of_heap h1]
 exact h2 j hj
theorem DimO.frozen {w:World} {g n:Nat} {f:Nat→Value} (h:DimO w g n f) (j:Nat):w.frozen? ⟨g,j,none⟩=false:=by
 obtain ⟨cur,h1,-⟩:=h
 exact Lib.frozen_of_heap h1 j
theorem DimO.set {w:World} {g n:Nat} {f:Nat→Value} (h:DimO w g n f) {x:Nat} (hx:x<n*3) (v:Value):DimO (w.setCell ⟨g,x,none⟩ v) g n (fun j=>if j=x then v else f j):=by
 obtain ⟨cur,h1,h2⟩:=h
 refine ⟨cur.setIfInBounds x v,set_tyD h1,fun j hj=>?_⟩
 have hc:=h2 x hx
 dsimp only
 by_cases e:j=x
 ·subst e
  rw [if_pos rfl,Array.getElem?_setIfInBounds_self,if_pos (Array.getElem?_eq_some_iff.1 hc).1]
 ·rw [if_neg e,Array.getElem?_setIfInBounds_ne (fun h=>e h.symm)]
  exact h2 j hj
set_option maxHeartbeats 2000000 in
theorem dclone_any (b o c n:Nat) (D:Nat→Dm) (A:Nat→Option Addr) (C:Nat→Nat) (w:World) (hn0:0<n) (hn:n≤4) (hL:DimsAt w b o n D A C):Calls Tryz.prog 106 #[.slice (some ⟨b,o,none⟩) n c] w fun e w'=>(∃ g c',e=.returned (.slice (some ⟨g,0,none⟩) n c')∧w.heap.size≤g∧n≤c'∧DimO w' g n (dcV D A C))∧Below w.heap.size w w':=by
 have hq:∀ (w:World) (a:Option Addr) (n c n' c':Nat),(binOp .eql 27 (.slice a n c) (.slice none n' c')).run Tryz.prog w=.ok (.bool a.isNone) w:=fun w a n c n' c'=>Lib.run_eql_slice_nil w _ _ a n c n' c' Tryz.underlying27
 obtain ⟨i0,hi0,hz0,hz1,hz2⟩:=info_parts Tryz.infoDimH
 have HC:Hid (∀ j u,(rowF (dcV D A C) (n*3))[j]?=some u→w.cell? ((⟨b,o,none⟩:Addr).add j)=some u):=fun j u hj=>by
  obtain ⟨h1,rfl⟩:=rowF_at hj
  rw [plain_add]
  exact hL.dc h1
 have HF:Hid (∀ (w':World) (v:Value),w'.ownsRow w.heap.size 43 3 v n (rowF (dcV D A C) (n*3))→∃ g c',v=.slice (some ⟨g,0,none⟩) n c'∧w.heap.size≤g∧n≤c'∧DimO w' g n (dcV D A C)):=fun w' v h=>by
  rcases h.2 with ⟨rfl,h0⟩ | ⟨g,cap,cur,rfl,hb,hg,h4,h5,h6,h7⟩
  ·omega
  ·refine ⟨g,cap,rfl,hb,h4,cur,hg,fun j hj=>?_⟩
   have:=rowF_get (dcV D A C) hj
   rw [←h7,List.getElem?_take,if_pos (by omega),Array.getElem?_toList] at this
   exact this
 have hl:(rowF (dcV D A C) (n*3)).length=n*3:=rowF_len _ _
 have h1:=dcV_one D A C (n*3)
 generalize rowF (dcV D A C) (n*3)=R at HC HF hl h1
 clear hL
 go_enter Tryz.func106,Tryz.ntmps106
 go_wp2_with (at_builtin;refine wpList_append_own _ rfl _ _ 27 rfl w.heap.size 43 i0 (.agg #[.string ⟨#[]⟩,.int .i64 0,.slice none 0 0]) 3 48 Tryz.underlying27 hi0 hz0 hz1 hz2 rfl (by decide) _ _ _ rfl (World.ownsRow_made w #[] 0 (Nat.le_refl _) (Nat.zero_le _) (by simp)) ⟨b,o,none⟩ n c R rfl ?qc1 ?qc2 ?qc3 ?qc4 ?qc5 ?qc6 ?_)
 case qc1=>exact hl
 case qc2=>exact fun j u hj=>Lib.cell?_alloc_some _ (HC.out j u hj)
 case qc3=>exact h1
 case qc4=>simp only [maxLen];omega
 case qc5=>omega
 case qc6=>simp
 intro v' w1 hown hgrow hnil
 obtain ⟨g,c',rfl,hg⟩:=HF.out _ _ (by simpa using hown)
 have HT:=hid_of hg
 have HB:Hid (Below w.heap.size w w1):=((Below.refl _ w).alloc (Nat.le_refl _) _).grown hgrow (by simp) (by intro k hk;simp [Value.ownBlock] at hk;omega)
 clear hown hgrow hnil hg
 go_wp2_with fail
 go_ret
 exact ⟨⟨g,c',rfl,HT.out⟩,HB.out⟩
def DimsO (w:World) (N g n:Nat) (D:Nat→Dm) (G C:Nat→Nat):Prop:=N≤g∧DimO w g n (dcV D (fun i=>some ⟨G i,0,none⟩) C)∧∀ i,i<n→N≤G i∧(D i).n≤C i∧MemO w (G i) (D i).n (D i).mem
theorem DimsO.dims {w:World} {N g n:Nat} {D:Nat→Dm} {G C:Nat→Nat} (h:DimsO w N g n D G C):DimsAt w g 0 n D (fun i=>some ⟨G i,0,none⟩) C:=by
 refine ⟨h.2.1.lt,fun i hi=>?_⟩
 have e:∀ k,k<3→w.cell? ⟨g,0+i*3+k,none⟩=some (dcV D (fun i=>some ⟨G i,0,none⟩) C (i*3+k)):=fun k hk=>by
  rw [Nat.zero_add]
  exact h.2.1.cell (by omega)
 obtain ⟨-,h2,h3⟩:=h.2.2 i hi
 refine ⟨(e 0 (by omega)).trans ?_,(e 1 (by omega)).trans ?_,(e 2 (by omega)).trans ?_,h2,Or.inr ⟨G i,0,rfl,h3.mems⟩⟩
 ·unfold dcV;rw [if_pos (by omega),show (i*3+0) / 3=i by omega]
 ·unfold dcV;rw [if_neg (by omega),if_pos (by omega),show (i*3+1) / 3=i by omega]
 ·unfold dcV;rw [if_neg (by omega),if_neg (by omega),show (i*3+2) / 3=i by omega]
def FrS (w wr:World) (g k n:Nat) (D:Nat→Dm) (A:Nat→Option Addr) (C:Nat→Nat):Prop := ∃ G C':Nat→Nat,w.heap.size≤g∧DimO wr g n (dcV D (fun i=>if i<k then some ⟨G i,0,none⟩ else A i) (fun i=>if i<k then C' i else C i))∧∀ i,i<k→w.heap.size≤G i∧(D i).n≤C' i∧MemO wr (G i) (D i).n (D i).mem
theorem FrS.later {w wr w':World} {g k n:Nat} {D:Nat→Dm} {A:Nat→Option Addr} {C:Nat→Nat} (h:FrS w wr g k n D A C) (hB:Below wr.heap.size wr w'):FrS w w' g k n D A C:=by
 obtain ⟨G,C',h1,h2,h3⟩:=h
 exact ⟨G,C',h1,h2.later hB,fun i hi=>⟨(h3 i hi).1,(h3 i hi).2.1,(h3 i hi).2.2.same (hB.block _ (h3 i hi).2.2.lt)⟩⟩
theorem FrS.put {w wr:World} {g k n gm cm:Nat} {D:Nat→Dm} {A:Nat→Option Addr} {C:Nat→Nat} (h:FrS w wr g k n D A C) (hk:k<n) (hg:w.heap.size≤gm) (hc:(D k).n≤cm) (hm:MemO wr gm (D k).n (D k).mem):FrS w (wr.setCell ⟨g,k*3+2,none⟩ (.slice (some ⟨gm,0,none⟩) (D k).n cm)) g (k+1) n D A C:=by
 obtain ⟨G,C',h1,h2,h3⟩:=h
 have hoff:∀ x (M:Nat→Mem) m,MemO wr x m M→MemO (wr.setCell ⟨g,k*3+2,none⟩ (.slice (some ⟨gm,0,none⟩) (D k).n cm)) x m M:=fun x M m hx=>hx.same (setCell_off _ _ _ _ _ fun e=>by
  obtain ⟨c1,f1,e1,-⟩:=hx
  obtain ⟨c2,e2,-⟩:=h2
  rw [e,e2] at e1
  simp only [Option.some.injEq,Obj.cells.injEq] at e1
  exact absurd e1.2.1 (by decide))
 refine ⟨fun i=>if i=k then gm else G i,fun i=>if i=k then cm else C' i,h1,?_,fun i hi=>?_⟩
 ·have:=h2.set (x:=k*3+2) (by omega) (.slice (some ⟨gm,0,none⟩) (D k).n cm)
  obtain ⟨cur,q1,q2⟩:=this
  refine ⟨cur,q1,fun j hj=>(q2 j hj).trans ?_⟩
  congr 1
  dsimp only
  by_cases e:j=k*3+2
  ·subst e
   rw [if_pos rfl]
   unfold dcV
   dsimp only
   rw [if_neg (by omega),if_neg (by omega),show (k*3+2) / 3=k by omega]
   simp
  ·rw [if_neg e]
   unfold dcV
   dsimp only
   by_cases e0:j % 3=0
   ·rw [if_pos e0,if_pos e0]
   ·by_cases e1:j % 3=1
    ·rw [if_neg e0,if_neg e0,if_pos e1,if_pos e1]
    ·have hne:j / 3≠k:=by omega
     rw [if_neg e0,if_neg e0,if_neg e1,if_neg e1,if_neg hne,if_neg hne]
     by_cases hlt:j / 3<k
     ·rw [if_pos hlt,if_pos hlt,if_pos (by omega),if_pos (by omega)]
     ·rw [if_neg hlt,if_neg hlt,if_neg (by omega),if_neg (by omega)]
 ·dsimp only
  by_cases e:i=k
  ·subst e
   rw [if_pos rfl,if_pos rfl]
   exact ⟨hg,hc,hoff _ _ _ hm⟩
  ·rw [if_neg e,if_neg e]
   obtain ⟨a1,a2,a3⟩:=h3 i (by omega)
   exact ⟨a1,a2,hoff _ _ _ a3⟩
theorem FrS.all {w wr:World} {g n:Nat} {D:Nat→Dm} {A:Nat→Option Addr} {C:Nat→Nat} (h:FrS w wr g n n D A C):∃ G C',DimsO wr w.heap.size g n D G C':=by
 obtain ⟨G,C',h1,⟨cur,q1,q2⟩,h3⟩:=h
 refine ⟨G,C',h1,⟨cur,q1,fun j hj=>(q2 j hj).trans ?_⟩,h3⟩
 congr 1
 unfold dcV
 dsimp only
 rw [if_pos (by omega:j / 3<n),if_pos (by omega:j / 3<n)]
end Go.Proofs.YtfngmnhkhfgmjagGreatDoor
