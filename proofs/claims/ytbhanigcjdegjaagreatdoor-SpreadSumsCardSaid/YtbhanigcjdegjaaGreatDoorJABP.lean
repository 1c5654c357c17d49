/-
  Edits of entries, one by one: what edit and All of package input answer, called in whatever memory.
-/
import Derived.Test.YtbhanigcjdegjaaGreatDoorJABA
namespace Go.Proofs.YtbhanigcjdegjaaGreatDoor
open Go.ChangeShapes Go.WideShapes Go.ChangeAt Go.RowKit Go.Lib
set_option maxRecDepth 20000
def ownEd (w:World) (A:Option Addr) (m c:Nat) (N:Int) (cl:Bool):World:=w.alloc (.cells #[.slice A m c,.int .i64 N,.bool cl] 59)
theorem ownEd_below (w:World) (A:Option Addr) (m c:Nat) (N:Int) (cl:Bool):Below w.heap.size w (ownEd w A m c N cl):=by unfold ownEd;go_grown
def ownOX (w:World) (A0:Option Addr) (n cap:Nat) (A:Option Addr) (m c:Nat) (N:Int) (cl:Bool):World:=ownEd (ownOut w A0 n cap 25) A m c N cl
theorem ownOX_below (w:World) (A0:Option Addr) (n cap:Nat) (A:Option Addr) (m c:Nat) (N:Int) (cl:Bool):Below w.heap.size w (ownOX w A0 n cap A m c N cl):=onB (ownOut_below ..) (ownEd_below ..)
set_option maxHeartbeats 4000000 in
theorem iedit_any {M:Nat} (A0:Option Addr) (cap n:Nat) (D:Nat→Dm) (A:Nat→Option Addr) (C:Nat→Nat) (g cg:Nat) (xs:List EnL) (Ax:Option Addr) (cx:Nat) (x:Ed) (w:World) (hM:DimsV w A0 cap n D A C) (hP:PlAt w Ax cx x.pl) (hR:RowE w g cg xs) (hEs:Ens D n (lE xs)) (hMx:NewE M xs) (hMw:M≤w.heap.size) :
  Calls Tryz.prog 22 #[.agg #[.slice A0 n cap],.slice (some ⟨g,0,none⟩) xs.length cg,.agg #[.slice Ax x.pl.length cx,.int .i64 x.n,.bool x.clear]] w fun e w'=>Edited M w g (editErr D n (lE xs) x) (editV (lE xs) x) e w':=by
 obtain ⟨p,N,cl⟩:=x
 have hB0:=ownOX_below w A0 n cap Ax p.length cx N cl
 have HB0:Hid (Below w.heap.size w (ownOX w A0 n cap Ax p.length cx N cl)):=hB0
 cases cl
 ·have h:=iset1_any A0 cap n D A C g cg xs Ax cx p N (ownOX w A0 n cap Ax p.length cx N false) (hM.later hB0) (hP.later hB0) (hR.later hB0) hEs hMx (Nat.le_trans hMw hB0.size)
  have hv:editV (lE xs) ⟨p,N,false⟩=setL (lE xs) p N:=rfl
  rw [hv]
  generalize editErr D n (lE xs) ⟨p,N,false⟩=E at h
  generalize setL (lE xs) p N=l at h
  simp only
  generalize p.length=m at h HB0
  generalize xs.length=nx at h
  clear hM hP hR hEs hB0 hv
  go_enter Tryz.func22,Tryz.ntmps22
  go_wp2_with fail
  refine h.mono ?_
  rintro e w1 ⟨⟨B,c,ys,rfl,hc⟩,hg⟩
  have HC:Hid ((E≠0∧B=none∧c=0∧ys=[])∨(E=0∧∃ g',B=some ⟨g',0,none⟩∧g≤g'∧RowE w1 g' c ys∧lE ys=l∧NewE M ys)):=hc
  have HG:Hid (w.grownBy w1 (some g)):=grown_trans (grown_below HB0.out) hg
  clear hc hg
  go_wp2_with fail
  go_ret2
  exact ⟨⟨B,c,ys,rfl,HC.out⟩,HG.out⟩
 ·have h:=without_any A0 cap n D A C g cg xs Ax cx p N (ownOX w A0 n cap Ax p.length cx N true) (hM.later hB0) (hP.later hB0) (hR.later hB0) hEs hMx
  have hv:editV (lE xs) ⟨p,N,true⟩=clrL (lE xs) p:=rfl
  rw [hv]
  generalize editErr D n (lE xs) ⟨p,N,true⟩=E at h
  generalize clrL (lE xs) p=l at h
  simp only
  generalize p.length=m at h HB0
  generalize xs.length=nx at h
  clear hM hP hR hEs hB0 hv
  go_enter Tryz.func22,Tryz.ntmps22
  go_wp2_with fail
  refine h.mono ?_
  rintro e w1 ⟨⟨B,c,ys,rfl,hc⟩,hg⟩
  have HC:Hid ((E≠0∧B=none∧c=0∧ys=[])∨(E=0∧∃ g',B=some ⟨g',0,none⟩∧g≤g'∧RowE w1 g' c ys∧lE ys=l∧NewE M ys)):=hc
  have HG:Hid (w.grownBy w1 (some g)):=grown_trans (grown_below HB0.out) hg
  clear hc hg
  go_wp2_with fail
  go_ret2
  exact ⟨⟨B,c,ys,rfl,HC.out⟩,HG.out⟩
theorem drop_ed (ys:List EdL) {k:Nat} (h:k<ys.length):(lD ys).drop k=(ys.getD k noD).x :: (lD ys).drop (k+1):=by
 have h1:k<(lD ys).length:=by rw [lD_len];exact h
 rw [List.drop_eq_getElem_cons h1]
 congr 1
 simp [lD,List.getD,h]
theorem edits_on {D:Nat→Dm} {n:Nat} {l:List En} {ys:List EdL} {k:Nat} (h:k<ys.length) (he:editErr D n l (ys.getD k noD).x=0):editsFrom D n l k ((lD ys).drop k)=editsFrom D n (editV l (ys.getD k noD).x) (k+1) ((lD ys).drop (k+1)):=by rw [drop_ed ys h,editsFrom_ok _ he]
theorem edits_bad {D:Nat→Dm} {n:Nat} {l:List En} {ys:List EdL} {k:Nat} (h:k<ys.length) (he:editErr D n l (ys.getD k noD).x≠0):editsFrom D n l k ((lD ys).drop k)=([],(k:Int),editErr D n l (ys.getD k noD).x):=by rw [drop_ed ys h,editsFrom_bad _ he]
theorem edits_end {D:Nat→Dm} {n:Nat} {l:List En} {ys:List EdL} {k:Nat} (h:ys.length≤k):editsFrom D n l k ((lD ys).drop k)=(l,0,0):=by rw [List.drop_eq_nil_of_le (by rw [lD_len];exact h)];rfl
theorem editsV_full {D:Nat→Dm} {n:Nat} (l:List En) {ys:List EdL} (h:60<ys.length):editsV D n l (lD ys)=([],0,4):=by unfold editsV;rw [if_pos (by rw [lD_len];exact h)]
theorem editsV_bad {D:Nat→Dm} {n:Nat} {l:List En} {ys:List EdL} (h : ¬ 60<ys.length) (he:entsErr D n l≠0):editsV D n l (lD ys)=([],0,entsErr D n l):=by unfold editsV;rw [if_neg (by rw [lD_len];exact h),if_pos he]
theorem editsV_in {D:Nat→Dm} {n:Nat} {l:List En} {ys:List EdL} (h : ¬ 60<ys.length) (he:entsErr D n l=0):editsV D n l (lD ys)=editsFrom D n l 0 ((lD ys).drop 0):=by unfold editsV;rw [if_neg (by rw [lD_len];exact h),if_neg (by simpa using he)];rfl
def Answer3 (w:World) (v:List En×Int×Int) (e:Ending) (w':World):Prop:=(∃ B c zs,e=.returned (.tuple #[.slice B zs.length c,.int .i64 v.2.1,errV v.2.2])∧EnsV w' B c zs∧lE zs=v.1)∧Below w.heap.size w w'
def Answer3n (w:World) (v:List En×Int×Int) (e:Ending) (w':World):Prop:=(∃ B c zs,e=.returned (.tuple #[.slice B zs.length c,.int .i64 v.2.1,errV v.2.2])∧EnsV w' B c zs∧lE zs=v.1∧NewA w.heap.size B∧NewE w.heap.size zs)∧Below w.heap.size w w'
set_option maxHeartbeats 8000000 in
theorem iall_new (A0:Option Addr) (cap n:Nat) (D:Nat→Dm) (A:Nat→Option Addr) (C:Nat→Nat) (AE:Option Addr) (ce:Nat) (xs:List EnL) (AX:Option Addr) (cx:Nat) (ys:List EdL) (w:World) (hM:DimsV w A0 cap n D A C) (hE:EnsV w AE ce xs) (hX:EdsV w AX cx ys) :
  Calls Tryz.prog 7 #[.agg #[.slice A0 n cap],.slice AE xs.length ce,.slice AX ys.length cx] w fun e w'=>Answer3n w (editsV D n (lE xs) (lD ys)) e w':=by
 have hB0:=ownOut_below w A0 n cap 25
 have HB0:Hid (Below w.heap.size w (ownOut w A0 n cap 25)):=hB0
 unfold Answer3n
 by_cases h60:60<ys.length
 ·have HV:Hid (editsV D n (lE xs) (lD ys)=([],0,4)):=editsV_full _ h60
  have h60':60<(ys.length:Int):=by omega
  generalize editsV D n (lE xs) (lD ys)=V at HV
  generalize xs.length=nx
  generalize ys.length=ny at h60 h60'
  clear hM hE hX hB0
  go_enter Tryz.func7,Tryz.ntmps7
  go_wp2_with fail
  go_ret3
  rw [HV.out]
  exact ⟨⟨none,0,[],rfl,EnsV.nil _ _ _ (by decide),rfl,NewA.none _,fun _ h=>(by cases h)⟩,HB0.out⟩
 have h:=icheck_any A0 cap n D A C AE ce xs (ownOut w A0 n cap 25) (hM.later hB0) (hE.later hB0)
 have h60':(ys.length:Int)≤60:=by omega
 by_cases he:entsErr D n (lE xs)=0
 ·have hEs:=ens_of he
  have HV:Hid (editsV D n (lE xs) (lD ys)=editsFrom D n (lE xs) 0 ((lD ys).drop 0)):=editsV_in h60 he
  have HFr:Hid (∀ w',Below w.heap.size w w'→Calls Tryz.prog 21 #[.slice AE xs.length ce] w' fun e w'' => ∃ g zs,e=.returned (.slice (some ⟨g,0,none⟩) xs.length xs.length)∧w'.heap.size≤g∧RowE w'' g xs.length zs∧zs.length=xs.length∧lE zs=lE xs∧NewE w'.heap.size zs∧Below w'.heap.size w' w''):=fun w' hw'=>by
   refine (fresh_new AE ce xs w' (few_of hEs) (fresh_of hEs) (hE.later hw')).mono ?_
   rintro e w'' ⟨⟨zs,rfl,hRow,hle,hnw⟩,hb⟩
   exact ⟨w'.heap.size,zs,rfl,Nat.le_refl _,hRow,len_eq hle,hle,hnw,hb⟩
  have HM:Hid (DimsV w A0 cap n D A C):=hM
  have HX:Hid (EdsV w AX cx ys):=hX
  have HEs:Hid (Ens D n (lE xs)):=hEs
  rw [he,errV_zero] at h
  generalize editsV D n (lE xs) (lD ys)=V at HV
  obtain ⟨ny,hny⟩:∃ ny,ys.length=ny:=⟨_,rfl⟩
  obtain ⟨nx,hnx⟩:∃ nx,xs.length=nx:=⟨_,rfl⟩
  have HNY:Hid (ys.length=ny):=hny
  rw [hny] at h60' ⊢
  rw [hnx] at h HFr ⊢
  clear he hEs hM hE hX hB0 h60 hny hnx
  go_enter Tryz.func7,Tryz.ntmps7
  go_wp2_with fail
  refine h.mono ?_
  rintro e w1 ⟨rfl,hb1⟩
  have hB1:Below w.heap.size w w1:=onB HB0.out hb1
  have HB1:Hid (Below w.heap.size w w1):=hB1
  have c1:w1.cell? ⟨w.heap.size,0,none⟩=some (.slice A0 n cap):=(hb1.cell (p:=⟨w.heap.size,0,none⟩) (by show w.heap.size<_;rw [ownOut_size];omega)).trans (ownOut_at ..)
  have hz1:w.heap.size<w1.heap.size:=by have:=hb1.size;rw [ownOut_size] at this;omega
  have h2:=HFr.out w1 hB1
  have HM1:Hid (DimsV w1 A0 cap n D A C):=HM.out.later hB1
  have HX1:Hid (EdsV w1 AX cx ys):=HX.out.later hB1
  clear hb1 h hB1 HM HX HB0 HFr
  go_wp2_with fail
  refine h2.mono ?_
  rintro e w2 ⟨g0,zs0,rfl,hgg,hRow,hzl,hle,hnw,hb2⟩
  have HR0:Hid (RowE w2 g0 nx zs0∧w1.heap.size≤g0∧zs0.length=nx∧lE zs0=lE xs∧NewE w1.heap.size zs0∧Below w1.heap.size w1 w2):=⟨hRow,hgg,hzl,hle,hnw,hb2⟩
  clear hgg hRow hzl hle hnw hb2 h2
  go_wp2_with fail
  go_loopg [10,29] ny (fun gm s10 s29 wr => ∃ (k g cg:Nat) (zs:List EnL),k≤ny∧gm=ny-k∧s29=.int .i64 k∧s10=.slice (some ⟨g,0,none⟩) zs.length cg∧Hid (w1.heap.size≤g∧RowE wr g cg zs∧Ens D n (lE zs)∧NewE w1.heap.size zs)∧Hid (editsFrom D n (lE zs) k ((lD ys).drop k)=editsFrom D n (lE xs) 0 ((lD ys).drop 0))∧Below w1.heap.size w1 wr)
  case atStart =>
   obtain ⟨r1,r2,r3,r4,r6,r5⟩:=HR0.out
   exact ⟨0,g0,nx,zs0,Nat.zero_le _,rfl,rfl,by rw [r3],⟨r2,r1,by rw [r4];exact HEs.out,r6⟩,(by rw [r4]:editsFrom D n (lE zs0) 0 ((lD ys).drop 0)=_),r5⟩
  case round =>
   obtain ⟨k,g,cg,zs,hk,rfl,rfl,rfl,HRw,HF,hBw⟩:=hrel
   have HBw:Hid (Below w1.heap.size w1 wr):=hBw
   by_cases hlt:k<ny
   ·have hkx:k<ys.length:=by rw [HNY.out];exact hlt
    have hki:(k:Int)<(ny:Int):=by omega
    obtain ⟨-,-,h0 | ⟨b,o,rfl,hXs⟩⟩:=HX1.out.later hBw
    ·have:=HNY.out;rw [h0] at this;simp at this;omega
    obtain ⟨d0,d1,d2,hpl⟩:=hXs.2 k hkx
    have c0:wr.cell? ⟨w.heap.size,0,none⟩=some (.slice A0 n cap):=(hBw.cell (p:=⟨w.heap.size,0,none⟩) hz1).trans c1
    have hzr:w.heap.size<wr.heap.size:=Nat.lt_of_lt_of_le hz1 hBw.size
    have hbo:=ownEd_below wr (ys.getD k noD).A (ys.getD k noD).x.pl.length (ys.getD k noD).c (ys.getD k noD).x.n (ys.getD k noD).x.clear
    have HBo:Hid (Below wr.heap.size wr (ownEd wr (ys.getD k noD).A (ys.getD k noD).x.pl.length (ys.getD k noD).c (ys.getD k noD).x.n (ys.getD k noD).x.clear)):=hbo
    have he:=iedit_any A0 cap n D A C g cg zs (ys.getD k noD).A (ys.getD k noD).c (ys.getD k noD).x (ownEd wr (ys.getD k noD).A (ys.getD k noD).x.pl.length (ys.getD k noD).c (ys.getD k noD).x.n (ys.getD k noD).x.clear) ((HM1.out.later hBw).later hbo) (hpl.later hbo) (HRw.out.2.1.later hbo) HRw.out.2.2.1 HRw.out.2.2.2 (Nat.le_trans hBw.size hbo.size)
    by_cases hee:editErr D n (lE zs) (ys.getD k noD).x=0
    ·have HST:Hid (editsFrom D n (lE zs) k ((lD ys).drop k)=editsFrom D n (editV (lE zs) (ys.getD k noD).x) (k+1) ((lD ys).drop (k+1))):=edits_on hkx hee
     have HEn:Hid (Ens D n (editV (lE zs) (ys.getD k noD).x)):=(HRw.out.2.2.1.edit hee).2
     rw [hee] at he
     generalize editV (lE zs) (ys.getD k noD).x=l2 at he HST HEn
     generalize (ys.getD k noD).A=A1 at d0 he HBo
     generalize (ys.getD k noD).c=k1 at d0 he HBo
     generalize (ys.getD k noD).x.n=n1 at d1 he HBo
     generalize (ys.getD k noD).x.clear=q1 at d2 he HBo
     generalize (ys.getD k noD).x.pl.length=m1 at d0 he HBo
     obtain ⟨nz,hnz⟩:∃ nz,zs.length=nz:=⟨_,rfl⟩
     rw [hnz] at he ⊢
     clear hXs hpl hbo hBw hee hnz
     go_wp2_with fail
     refine he.mono ?_
     rintro e w3 ⟨⟨B,c,zs2,rfl,hc⟩,hg⟩
     obtain ⟨g2,rfl,hg2,hRow2,hl2,hnw2⟩:∃ g',B=some ⟨g',0,none⟩∧g≤g'∧RowE w3 g' c zs2∧lE zs2=l2∧NewE w1.heap.size zs2:=by
      rcases hc with ⟨h1,_⟩ | ⟨_,h1⟩
      ·exact absurd rfl h1
      ·exact h1
     have HN2:Hid (w1.heap.size≤g2∧RowE w3 g2 c zs2∧Ens D n (lE zs2)∧NewE w1.heap.size zs2):=⟨Nat.le_trans HRw.out.1 hg2,hRow2,by rw [hl2];exact HEn.out,hnw2⟩
     have HF2:Hid (editsFrom D n (lE zs2) (k+1) ((lD ys).drop (k+1))=editsFrom D n (lE xs) 0 ((lD ys).drop 0)):=by show _=_;rw [hl2,←HST.out];exact HF.out
     have HB3:Hid (Below w1.heap.size w1 w3):=below_grown (onB HBw.out HBo.out) hg (onB HBw.out HBo.out).size HRw.out.1
     rw [errV_zero]
     clear hc hg hRow2 hl2 hg2 hnw2 he HST HEn
     go_wp2_with fail
     go_roundg (ny-(k+1))
     case measure=>omega
     case rel=>exact ⟨k+1,g2,c,zs2,by omega,rfl,by go_num,rfl,HN2,HF2,HB3.out⟩
    ·have HFin:Hid (V=([],(k:Int),editErr D n (lE zs) (ys.getD k noD).x)):=by show _=_;rw [HV.out,←HF.out,edits_bad hkx hee]
     have HEr:Hid (errV (editErr D n (lE zs) (ys.getD k noD).x)=.iface 45 (.int .i64 (editErr D n (lE zs) (ys.getD k noD).x))):=errV_some hee
     have HNe:Hid (editErr D n (lE zs) (ys.getD k noD).x≠0):=hee
     generalize editErr D n (lE zs) (ys.getD k noD).x=E at he HFin HEr HNe
     generalize editV (lE zs) (ys.getD k noD).x=l2 at he
     generalize (ys.getD k noD).A=A1 at d0 he HBo
     generalize (ys.getD k noD).c=k1 at d0 he HBo
     generalize (ys.getD k noD).x.n=n1 at d1 he HBo
     generalize (ys.getD k noD).x.clear=q1 at d2 he HBo
     generalize (ys.getD k noD).x.pl.length=m1 at d0 he HBo
     obtain ⟨nz,hnz⟩:∃ nz,zs.length=nz:=⟨_,rfl⟩
     rw [hnz] at he ⊢
     clear hXs hpl hbo hBw hee hnz
     go_wp2_with fail
     refine he.mono ?_
     rintro e w3 ⟨⟨B,c,zs2,rfl,hc⟩,hg⟩
     have HB3:Hid (Below w1.heap.size w1 w3):=below_grown (onB HBw.out HBo.out) hg (onB HBw.out HBo.out).size HRw.out.1
     rw [HEr.out]
     clear hc hg he
     go_wp2_with fail
     go_ret3
     rw [HFin.out]
     exact ⟨⟨none,0,[],by rw [HEr.out];rfl,EnsV.nil _ _ _ (by decide),rfl,NewA.none _,fun _ h=>(by cases h)⟩,onB HB1.out HB3.out⟩
   ·have hke:k=ny:=by omega
    subst hke
    have HFin:Hid (V=(lE zs,0,0)):=by show _=_;rw [HV.out,←HF.out,edits_end (by rw [HNY.out];exact Nat.le_refl _)]
    clear hBw
    go_wp2_with fail
    go_ret3
    rw [HFin.out]
    exact ⟨⟨_,_,zs,rfl,HRw.out.2.1.ensV,rfl,fun b o e=>by cases e;exact Nat.le_trans HB1.out.size HRw.out.1,HRw.out.2.2.2.le HB1.out.size⟩,onB HB1.out HBw.out⟩
 ·have HV:Hid (editsV D n (lE xs) (lD ys)=([],0,entsErr D n (lE xs))):=editsV_bad h60 he
  have HEr:Hid (errV (entsErr D n (lE xs))=.iface 45 (.int .i64 (entsErr D n (lE xs)))):=errV_some he
  rw [errV_some he] at h
  generalize editsV D n (lE xs) (lD ys)=V at HV
  generalize entsErr D n (lE xs)=E at h HV HEr he
  generalize xs.length=nx at h
  generalize ys.length=ny at h60 h60'
  clear hM hE hX hB0 h60 he
  go_enter Tryz.func7,Tryz.ntmps7
  go_wp2_with fail
  refine h.mono ?_
  rintro e w1 ⟨rfl,hb1⟩
  have HB1:Hid (Below w.heap.size w w1):=onB HB0.out hb1
  clear hb1
  go_wp2_with fail
  go_ret3
  rw [HV.out]
  exact ⟨⟨none,0,[],by rw [HEr.out];rfl,EnsV.nil _ _ _ (by decide),rfl,NewA.none _,fun _ h=>(by cases h)⟩,HB1.out⟩
theorem iall_any (A0:Option Addr) (cap n:Nat) (D:Nat→Dm) (A:Nat→Option Addr) (C:Nat→Nat) (AE:Option Addr) (ce:Nat) (xs:List EnL) (AX:Option Addr) (cx:Nat) (ys:List EdL) (w:World) (hM:DimsV w A0 cap n D A C) (hE:EnsV w AE ce xs) (hX:EdsV w AX cx ys) :
  Calls Tryz.prog 7 #[.agg #[.slice A0 n cap],.slice AE xs.length ce,.slice AX ys.length cx] w fun e w'=>Answer3 w (editsV D n (lE xs) (lD ys)) e w' :=
 (iall_new A0 cap n D A C AE ce xs AX cx ys w hM hE hX).mono fun _ _ ⟨⟨B,c,zs,h1,h2,h3,_⟩,h4⟩=>⟨⟨B,c,zs,h1,h2,h3⟩,h4⟩
end Go.Proofs.YtbhanigcjdegjaaGreatDoor
