/-
  What Print of package sheet answers, in whatever memory: the cube as text.
-/
import Derived.Test.YtinebmjpdkjooaaGreatDoorJZBK
import Derived.Test.YtinebmjpdkjooaaGreatDoorJZBL
namespace Go.Proofs.YtinebmjpdkjooaaGreatDoor
open Go Go.ChangeShapes Go.WideShapes Go.ChangeAt Go.RowKit
set_option maxRecDepth 20000
theorem wstringL_any (B b:Nat) (l:List UInt8) (s:ByteArray) (w:World) (h:Buil B b l w) (hlen:l.length+s.size≤100000000) (hBw:B≤w.heap.size) :
  Calls Tryz.prog 18 #[.pointer (some ⟨b,0,none⟩),.string s] w fun e w'=>e=.returned (.tuple #[.int .i64 s.size,.nilIface])∧Buil B b (l ++ s.data.toList) w'∧Below B w w'∧Lib.OthersKept 5 (some b) w w':=by
 refine (Any.Builder_WriteString_k Tryz.lays166 Tryz.extra166 B b (Lib.byteCells l) s w h (by rw [Lib.byteCells_length];omega) hBw).mono fun e w' ⟨h1,h2,h3,h4⟩=>⟨h1,?_,h3,h4⟩
 unfold Buil
 rw [Lib.byteCells_append]
 exact Or.inr h2
noncomputable def shE (D:Nat→Dm) (n:Nat) (l:List En):Int:=if (ruErr D n).2.2≠0 then (ruErr D n).2.2 else entsErr D n l
noncomputable def shV (D:Nat→Dm) (n:Nat) (l:List En):ByteArray:=if shE D n l=0 then ⟨(shT D n l).toArray⟩ else ⟨#[]⟩
theorem she_ok {D:Nat→Dm} {n:Nat} {l:List En} (h:shE D n l=0):(ruErr D n).2.2=0∧Ens D n l:=by
 unfold shE at h
 split at h
 ·rename_i h1;exact absurd h h1
 ·rename_i h1;exact ⟨by simpa using h1,ens_of h⟩
theorem ru_all {D:Nat→Dm} {n:Nat} (h:(ruErr D n).2.2=0):(allErr D n).2.2=0:=by
 by_cases h1:(allErr D n).2.2=0
 ·exact h1
 ·rw [ru0 h1] at h;exact absurd h h1
theorem kept_own {b c T:Nat} {w w':World} {cs:Array Value} (h:Lib.OthersKept 5 (some b) w w') (hc:w.heap[c]?=some (.cells cs T (0,0))) (hne:c≠b) (hT:T≠5):w'.heap[c]?=some (.cells cs T (0,0)) :=
 kept_dim h hc hne hT
theorem tri3_at {g:Nat} {w:World} {a b c:ByteArray} {T:Nat} (h:w.heap[g]?=some (.cells #[.string a,.string b,.string c] T (0,0))):∀ (j:Nat) x,[a,b,c][j]?=some x→w.cell? ⟨g,0+j,none⟩=some (.string x):=fun j x hj=>by
 rw [Nat.zero_add,Lib.cell_of_heap h]
 match j,hj with
 | 0,hj=>cases hj;rfl
 | 1,hj=>cases hj;rfl
 | 2,hj=>cases hj;rfl
theorem four_at {g:Nat} {w:World} {a b c d:ByteArray} {T:Nat} (h:w.heap[g]?=some (.cells #[.string a,.string b,.string c,.string d] T (0,0))):∀ (j:Nat) x,[a,b,c,d][j]?=some x→w.cell? ⟨g,0+j,none⟩=some (.string x):=fun j x hj=>by
 rw [Nat.zero_add,Lib.cell_of_heap h]
 match j,hj with
 | 0,hj=>cases hj;rfl
 | 1,hj=>cases hj;rfl
 | 2,hj=>cases hj;rfl
 | 3,hj=>cases hj;rfl
set_option maxHeartbeats 16000000 in
theorem sprint_right (A0:Option Addr) (cap n:Nat) (D:Nat→Dm) (A:Nat→Option Addr) (C:Nat→Nat) (AE:Option Addr) (ce:Nat) (xs:List EnL) (w:World) (hok:shE D n (lE xs)=0) (hT:TabE w) (hM:DimsV w A0 cap n D A C) (hEn:EnsV w AE ce xs) :
  Calls Tryz.prog 6 #[.agg #[.slice A0 n cap],.slice AE xs.length ce] w fun e w'=>e=.returned (.tuple #[.string ⟨(shT D n (lE xs)).toArray⟩,.nilIface])∧Below w.heap.size w w':=by
 obtain ⟨hr,hEs⟩:=she_ok hok
 have hB0:=ownOut_below w A0 n cap 24
 have hat:=ownOut_at w A0 n cap 24
 have hsz:=ownOut_size w A0 n cap 24
 have h1:=rulall_any A0 cap n D A C (ownOut w A0 n cap 24) (hM.later hB0)
 rw [hr,errV_zero] at h1
 have HR1:Hid (∀ w',Below (ownOut w A0 n cap 24).heap.size (ownOut w A0 n cap 24) w'→Calls Tryz.prog 17 #[.agg #[.slice A0 n cap],.slice AE xs.length ce] w' fun r w''=>r=.returned .nilIface∧Below w'.heap.size w' w''):=fun w' hb=>by
  have h:=icheck_any A0 cap n D A C AE ce xs w' (hM.later (onB hB0 hb)) (hEn.later (onB hB0 hb))
  rw [hEs.ok,errV_zero] at h
  exact h
 have HM:=hid_of hM
 have HEn:=hid_of hEn
 have HEs:=hid_of hEs
 have HT:=hid_of hT
 have HB0:=hid_of hB0
 have HR:=hid_of hr
 have hn1:=(allErr_some hEs.right).1
 have hn4:=(allErr_some hEs.right).2.1
 have hx:xs.length≤3000:=by have:=hEs.few;rw [lE_len] at this;exact this
 have HDr:Hid (∀ i,i<n→(dimErr (D i)).2=0):=(allErr_right hEs.right).2
 obtain ⟨f1,f2,hf⟩:∃ f1 f2,(ruErr D n).1=f1∧(ruErr D n).2.1=f2:=⟨_,_,rfl,rfl⟩
 rw [hf.1,hf.2] at h1
 obtain ⟨xl,hxl⟩:∃ xl,xs.length=xl:=⟨_,rfl⟩
 have HXl:=hid_of hxl
 rw [hxl] at HR1 hx ⊢
 clear hok hr hM hEn hEs hT hB0 hf hxl
 go_enter Tryz.func6,Tryz.ntmps6
 go_wp2_with fail
 refine h1.mono ?_
 rintro e w1 ⟨rfl,hb1⟩
 have hc1:w1.cell? ⟨w.heap.size,0,none⟩=some (.slice A0 n cap):=(hb1.cell (p:=⟨w.heap.size,0,none⟩) (by show w.heap.size<_;omega)).trans hat
 have h2:=HR1.out w1 hb1
 have hz1:=hb1.size
 have HB1:=hid_of hb1
 clear h1 hb1
 go_wp2_with fail
 refine h2.mono ?_
 rintro e w2 ⟨rfl,hb2⟩
 have hB2:Below w.heap.size w w2:=onB HB0.out (onB HB1.out hb2)
 have hc2:w2.cell? ⟨w.heap.size,0,none⟩=some (.slice A0 n cap):=(hb2.cell (p:=⟨w.heap.size,0,none⟩) (by show w.heap.size<_;omega)).trans hc1
 have hz2:w.heap.size<w2.heap.size:=by have:=hb2.size;omega
 obtain ⟨hcap,h0 | ⟨b,o,rfl,hMs⟩⟩:=HM.out.later hB2
 ·omega
 have HMs:=hid_of hMs
 have HB2:=hid_of hB2
 have HBu:Hid (Buil w2.heap.size w2.heap.size [] (w2.alloc (.cells #[.pointer none,.slice none 0 0] 58))):=Buil.fresh w2
 clear hb2 h2 hc1 hat hsz hz1 hMs hB2
 go_wp2_with fail
 go_loopg [37] n (fun g s37 wr => ∃ (k:Nat),k≤n∧g=n-k∧s37=.int .i64 k∧Buil w2.heap.size w2.heap.size (dimsT D k) wr∧Below w2.heap.size w2 wr)
 case atStart=>exact ⟨0,Nat.zero_le _,rfl,rfl,HBu.out,by go_grown⟩
 case round =>
  obtain ⟨wk,rfl⟩:∃ wk:World,wk=wr:=⟨_,rfl⟩
  obtain ⟨k,hk,rfl,rfl,hBu,hBw⟩:=hrel
  have HW:=hid_of hBw
  have HU:=hid_of hBu
  by_cases hlt:k<n
  ·obtain ⟨h0,h1,h3,-⟩:=(HMs.out.later hBw).2 k hlt
   obtain ⟨-,-,-,h4⟩:=HMs.out.2 k hlt
   have hki:(k:Int)<(n:Int):=by omega
   have hdr:=HDr.out k hlt
   obtain ⟨hd1,hd2,hd3⟩:=dim_right hdr
   have hdl:=dimsT_len HDr.out k hk
   have HdT:Hid (hdT (D k)=(liB [⟨#[100,105,109]⟩,(D k).name,⟨(Lib.itoa (D k).solve).toArray⟩]).data.toList):=by show _=_;rw [liB_three];simp [hdT]
   have HDS:Hid (dimsT D (k+1)=dimsT D k ++ (hdT (D k) ++ memsT (D k).mem (D k).n)):=dimsT_succ D k
   have HMm:=hid_of h4
   have HMr:Hid (∀ j,j<(D k).n→memErr (D k).mem j=0):=(dimErr_right hdr).2.2.2
   have hm12:=(dimErr_right hdr).2.2.1
   have hm1:=(dimErr_right hdr).2.1
   have hTab:=HT.out.later (onB HB2.out hBw)
   have hil:(Lib.itoa (D k).solve).length≤21:=Lib.itoa_length_le (D k).solve (by omega) (by omega)
   have HTab:=hid_of hTab
   generalize hgn:(D k).name=dn at h0 hd1 HdT
   generalize hgs:(D k).solve=ds at h1 hd2 hd3 hil HdT
   generalize hgm:(D k).n=m at h3 h4 HMm hm12 hm1 HMr HDS
   obtain ⟨sv,hsv⟩:∃ sv:ByteArray,⟨(Lib.itoa ds).toArray⟩=sv:=⟨_,rfl⟩
   have hss:sv.size≤21:=by rw [←hsv];show (List.toArray _).size≤_;rw [List.size_toArray];exact hil
   rw [hsv] at HdT
   obtain ⟨lin,hlin⟩:∃ lin,liB [⟨#[100,105,109]⟩,dn,sv]=lin:=⟨_,rfl⟩
   have hls:lin.size≤1000:=by
    have h:=liB_three ⟨#[100,105,109]⟩ dn sv
    rw [hlin] at h
    have h':lin.data.toList.length=lin.size:=by simp
    have h2:dn.data.toList.length=dn.size:=by simp
    have h3:sv.data.toList.length=sv.size:=by simp
    rw [h] at h'
    simp only [List.length_append,List.length_cons,List.length_nil] at h'
    have h5:(ByteArray.mk #[100,105,109]).data.toList.length=3:=rfl
    omega
   have HLi:Hid (∀ (w':World) (g:Nat),w'.heap[g]?=some (.cells #[.string ⟨#[100,105,109]⟩,.string dn,.string sv] 9 (0,0))→Calls Tryz.prog 19 #[.slice (some ⟨g,0,none⟩) 3 3] w' fun e w''=>e=.returned (.string lin)∧Below w'.heap.size w' w''):=fun w' g hg=>by
    have h:=sline_any g 3 3 [⟨#[100,105,109]⟩,dn,sv] w' (tri3_at hg) (Array.getElem?_eq_some_iff.1 hg).1 rfl (by omega) (Nat.le_refl _) (by
     intro x hx
     rcases List.mem_cons.1 hx with rfl | hx
     ·exact (by decide:(ByteArray.mk #[100,105,109]).size≤1048576)
     rcases List.mem_cons.1 hx with rfl | hx
     ·omega
     rcases List.mem_cons.1 hx with rfl | hx
     ·omega
     ·cases hx)
    rw [hlin] at h
    exact h
   rw [hlin] at HdT
   obtain ⟨wd,hwd⟩:∃ wd,wk.alloc (.cells #[.string dn,.int .i64 ds,.slice (A k) m (C k)] 43)=wd:=⟨_,rfl⟩
   have hBo:Below wk.heap.size wk wd:=by rw [←hwd];go_grown
   have hcz:wd.heap[wk.heap.size]?=some (.cells #[.string dn,.int .i64 ds,.slice (A k) m (C k)] 43 (0,0)):=by rw [←hwd];exact heap_alloc_new wk _
   have hzd:wk.heap.size<wd.heap.size:=(Array.getElem?_eq_some_iff.1 hcz).1
   have HIt:Hid (∀ w',Below wd.heap.size wd w'→Calls Tryz.prog 20 #[.int .i64 ds] w' fun e w''=>e=.returned (.string sv)∧Below w'.heap.size w' w''):=fun w' hb=>by
    have h:=itoaF ds w' (by omega) (by omega) (HTab.out.later (onB hBo hb))
    rw [hsv] at h
    exact h
   have hzw:=hBw.size
   have hbu:=hBu.lt
   have HWs:Hid (∀ w',Below wd.heap.size wd w'→Calls Tryz.prog 18 #[.pointer (some ⟨w2.heap.size,0,none⟩),.string lin] w' fun e w''=>e=.returned (.tuple #[.int .i64 lin.size,.nilIface])∧Buil w2.heap.size w2.heap.size (dimsT D k ++ hdT (D k)) w''∧Below w2.heap.size w2 w''∧w''.heap[wk.heap.size]?=some (.cells #[.string dn,.int .i64 ds,.slice (A k) m (C k)] 43 (0,0))):=fun w' hw'=>by
    have hB':=onB hBo hw'
    refine (wstringL_any _ _ _ lin w' (HU.out.later hB') (by omega) (by have:=hB'.size;omega)).mono fun e w'' ⟨a1,a2,a3,a4⟩=>⟨a1,?_,(onB HW.out hB').trans a3,kept_own a4 ((hw'.block _ hzd).trans hcz) (by omega) (by decide)⟩
    rw [HdT.out]
    exact a2
   have HKq:Hid (∀ w',Below w2.heap.size w2 w'→w'.heap[wk.heap.size]?=some (.cells #[.string dn,.int .i64 ds,.slice (A k) m (C k)] 43 (0,0))→Below w2.heap.size w2 w'∧w'.cell? ⟨wk.heap.size,0,none⟩=some (.string dn)∧w'.cell? ⟨wk.heap.size,1,none⟩=some (.int .i64 ds)):=fun w' h h'=>⟨h,by rw [Lib.cell_of_heap h'];rfl,by rw [Lib.cell_of_heap h'];rfl⟩
   have HKp:Hid (∀ w',Below wd.heap.size wd w'→Below w2.heap.size w2 w'∧w'.cell? ⟨wk.heap.size,0,none⟩=some (.string dn)∧w'.cell? ⟨wk.heap.size,1,none⟩=some (.int .i64 ds)):=fun w' h=>HKq.out w' (onB HW.out (onB hBo h)) ((h.block _ hzd).trans hcz)
   have HWD:=hid_of hwd
   have HSv:=hid_of hsv
   have HLn:=hid_of hlin
   have HGn:=hid_of hgn
   have HGs:=hid_of hgs
   have HGm:=hid_of hgm
   have k0:=(HKp.out wd (Below.refl _ _)).2.1
   have k1:=(HKp.out wd (Below.refl _ _)).2.2
   clear hBo hcz hwd hBw hBu hsv hlin hgn hgs hgm hdr hTab h4 hil
   go_upto_region 11 with fail
   rw [HWD.out]
   go_cut [37] from 37 to 72 (fun s37 wx=>s37=.int .i64 k∧Buil w2.heap.size w2.heap.size (dimsT D k ++ hdT (D k)) wx∧Below w2.heap.size w2 wx∧wx.heap[wk.heap.size]?=some (.cells #[.string dn,.int .i64 ds,.slice (A k) m (C k)] 43 (0,0)))
   case first =>
    go_region_held3 (fun w'=>Below w2.heap.size w2 w'∧w'.cell? ⟨wk.heap.size,0,none⟩=some (.string dn)∧w'.cell? ⟨wk.heap.size,1,none⟩=some (.int .i64 ds))
     (first | (exact HKq.out _ hb8 hd8) | (refine HKp.out _ ?_;go_grown;done))
     (first
      | (go_at_call 20;refine (HIt.out _ (by go_grown)).mono ?_;rintro e w6 ⟨rfl,hb6⟩;have hN6:=onB (W0:=wd) (by go_grown) hb6;have hy6:=hN6.size;clear hb6)
      | (go_at_call 19;refine (HLi.out _ _ (by first | exact heap_alloc_new _ _ | simp)).mono ?_;rintro e w7 ⟨rfl,hb7⟩;have hN7:=onB (W0:=wd) (by go_grown) hb7;have hy7:=hN7.size;clear hb7)
      | (go_at_call 18;refine (HWs.out _ (by go_grown)).mono ?_;rintro e w8 ⟨rfl,hu8,hb8,hd8⟩))
    all_goals go_wp2_with fail
    all_goals go_meet
    all_goals exact ⟨rfl,hu8,hb8,hd8⟩
   case rest =>
   obtain ⟨rfl,hu,hbx,hdx⟩:=hcut
   obtain ⟨wx,rfl⟩:∃ wx:World,wx=wc:=⟨_,rfl⟩
   have e2:wx.cell? ⟨wk.heap.size,2,none⟩=some (.slice (A k) m (C k)):=by rw [Lib.cell_of_heap hdx];rfl
   have hzx:wk.heap.size<wx.heap.size:=(Array.getElem?_eq_some_iff.1 hdx).1
   obtain ⟨hcm,h5 | ⟨b',o',hA,hMm⟩⟩:=HMm.out
   ·omega
   have hm12':(m:Int)≤12:=by omega
   have hb'1:b'<w2.heap.size:=hMm.1
   have HMe:=hid_of hMm
   have HU2:=hid_of hu
   have HX:=hid_of hbx
   have HA:=hid_of hA
   rw [hA] at e2
   clear hu hbx hdx k0 k1 h0 h1 h3 HWs HLi HIt HKp HKq hMm hA
   go_wp2_with fail
   go_loopg [52] m (fun g s52 wy => ∃ (j:Nat),j≤m∧g=m-j∧s52=.int .i64 j∧Buil w2.heap.size w2.heap.size (dimsT D k ++ (hdT (D k) ++ memsT (D k).mem j)) wy∧Below w2.heap.size w2 wy)
   case atStart=>exact ⟨0,Nat.zero_le _,rfl,rfl,by simpa [memsT] using HU2.out,HX.out⟩
   case round =>
    obtain ⟨j,hj,rfl,rfl,hBy,hBz⟩:=hrel
    have HY:=hid_of hBz
    have HV:=hid_of hBy
    by_cases hjm:j<m
    ·have hji:(j:Int)<(m:Int):=by omega
     obtain ⟨g0,g1,g2,g3⟩:=(HMe.out.2 j hjm).later HMe.out.1 hBz
     obtain ⟨q1,q2,q3,q4,q5,q6⟩:=mem_right (HMr.out j hjm) (by omega)
     have hml:=memsT_len j (by omega) (fun i hi=>HMr.out i (by omega))
     have HmT:Hid (memT ((D k).mem j)=(liB [⟨#[109,101,109]⟩,((D k).mem j).name,⟨(paB ((D k).mem j).parent).toArray⟩,⟨(sgT ((D k).mem j).sign).toArray⟩ ++ ⟨(foB ((D k).mem j).formula).toArray⟩]).data.toList):=by show _=_;rw [liB_four];simp [memT,ByteArray.data_append]
     have HMS:Hid (memsT (D k).mem (j+1)=memsT (D k).mem j ++ memT ((D k).mem j)):=memsT_succ _ _
     have hhl:(hdT (D k)).length≤1000:=by rw [HdT.out];simp;omega
     have hTab:=HT.out.later (onB HB2.out hBz)
     have HTb:=hid_of hTab
     have hpl:(paB ((D k).mem j).parent).length≤40:=by
      have a3:=Lib.itoa_length_le ((D k).mem j).parent (by omega) (by omega)
      unfold paB;split;omega;simp
     have hgl:=sgT_len ((D k).mem j).sign
     have hfl:(foB ((D k).mem j).formula).length≤101:=by
      have a2:=bsz ((D k).mem j).formula
      unfold foB;split;simp;simp only [List.length_cons];omega
     generalize (D k).mem j=M at g0 g1 g2 g3 q1 q2 q3 q4 q5 q6 HmT HMS hpl hgl hfl
     obtain ⟨nm,pa,sg,fo⟩:=M
     obtain ⟨pt,hpt⟩:∃ pt:ByteArray,⟨(paB pa).toArray⟩=pt:=⟨_,rfl⟩
     obtain ⟨st,hst⟩:∃ st:ByteArray,⟨(sgT sg).toArray⟩=st:=⟨_,rfl⟩
     obtain ⟨ft,hft⟩:∃ ft:ByteArray,⟨(foB fo).toArray⟩=ft:=⟨_,rfl⟩
     have hps:pt.size≤40:=by rw [←hpt];show (List.toArray _).size≤_;rw [List.size_toArray];exact hpl
     have hss':st.size≤1:=by rw [←hst];show (List.toArray _).size≤_;rw [List.size_toArray];exact hgl
     have hfs:ft.size≤101:=by rw [←hft];show (List.toArray _).size≤_;rw [List.size_toArray];exact hfl
     dsimp only at g0 g1 g2 g3 q1 q2 q3 q4 q5 q6 HmT
     rw [hpt,hst,hft] at HmT
     have hadd : ¬ 9223372036854775807<st.size+ft.size:=by omega
     obtain ⟨sf,hsf⟩:∃ sf:ByteArray,st ++ ft=sf:=⟨_,rfl⟩
     have hsfs:sf.size≤102:=by rw [←hsf,ByteArray.size_append];omega
     obtain ⟨lm,hlm⟩:∃ lm,liB [⟨#[109,101,109]⟩,nm,pt,sf]=lm:=⟨_,rfl⟩
     rw [hsf,hlm] at HmT
     have hlms:lm.size≤1000:=by
      have h:=liB_four ⟨#[109,101,109]⟩ nm pt sf
      rw [hlm] at h
      have h':lm.data.toList.length=lm.size:=by simp
      have h2:nm.data.toList.length=nm.size:=by simp
      have h3:pt.data.toList.length=pt.size:=by simp
      have h4:sf.data.toList.length=sf.size:=by simp
      rw [h] at h'
      simp only [List.length_append,List.length_cons,List.length_nil] at h'
      have h5:(ByteArray.mk #[109,101,109]).data.toList.length=3:=rfl
      omega
     have HLi:Hid (∀ (w':World) (g:Nat),w'.heap[g]?=some (.cells #[.string ⟨#[109,101,109]⟩,.string nm,.string pt,.string (st ++ ft)] 9 (0,0))→Calls Tryz.prog 19 #[.slice (some ⟨g,0,none⟩) 4 4] w' fun e w''=>e=.returned (.string lm)∧Below w'.heap.size w' w''):=fun w' g hg=>by
      rw [hsf] at hg
      have h:=sline_any g 4 4 [⟨#[109,101,109]⟩,nm,pt,sf] w' (four_at hg) (Array.getElem?_eq_some_iff.1 hg).1 rfl (by omega) (Nat.le_refl _) (by
       intro x hx
       rcases List.mem_cons.1 hx with rfl | hx
       ·exact (by decide:(ByteArray.mk #[109,101,109]).size≤1048576)
       rcases List.mem_cons.1 hx with rfl | hx
       ·omega
       rcases List.mem_cons.1 hx with rfl | hx
       ·omega
       rcases List.mem_cons.1 hx with rfl | hx
       ·omega
       ·cases hx)
      rw [hlm] at h
      exact h
     obtain ⟨wm,hwm⟩:∃ wm,wr.alloc (.cells #[.string nm,.int .i64 pa,.int .i64 sg,.string fo] 46)=wm:=⟨_,rfl⟩
     have hBo:Below wr.heap.size wr wm:=by rw [←hwm];go_grown
     have hcz:wm.heap[wr.heap.size]?=some (.cells #[.string nm,.int .i64 pa,.int .i64 sg,.string fo] 46 (0,0)):=by rw [←hwm];exact heap_alloc_new wr _
     have hzm:wr.heap.size<wm.heap.size:=(Array.getElem?_eq_some_iff.1 hcz).1
     have HPa:Hid (∀ w',Below wm.heap.size wm w'→Calls Tryz.prog 21 #[.int .i64 pa] w' fun e w''=>e=.returned (.string pt)∧Below w'.heap.size w' w''):=fun w' hb=>by
      have h:=parent_any pa w' (by omega) (by omega) (HTb.out.later (onB hBo hb))
      rw [hpt] at h
      exact h
     have HSg:Hid (∀ w',Calls Tryz.prog 22 #[.int .i64 sg] w' fun e w''=>e=.returned (.string st)∧Below w'.heap.size w' w''):=fun w'=>by
      have h:=sgt_any sg w' (by omega) (by omega)
      rw [hst] at h
      exact h
     have HFo:Hid (∀ w',Calls Tryz.prog 23 #[.string fo] w' fun e w''=>e=.returned (.string ft)∧Below w'.heap.size w' w''):=fun w'=>by
      have h:=formt_any fo w' (by omega)
      rw [hft] at h
      exact h
     have hzw':=hBz.size
     have hbu':=hBy.lt
     have HWs:Hid (∀ w',Below wm.heap.size wm w'→Calls Tryz.prog 18 #[.pointer (some ⟨w2.heap.size,0,none⟩),.string lm] w' fun e w''=>e=.returned (.tuple #[.int .i64 lm.size,.nilIface])∧Buil w2.heap.size w2.heap.size (dimsT D k ++ (hdT (D k) ++ memsT (D k).mem (j+1))) w''∧Below w2.heap.size w2 w''∧w''.heap[wr.heap.size]?=some (.cells #[.string nm,.int .i64 pa,.int .i64 sg,.string fo] 46 (0,0))):=fun w' hw'=>by
      have hB':=onB hBo hw'
      refine (wstringL_any _ _ _ lm w' (HV.out.later hB') (by rw [List.length_append,List.length_append];omega) (by have:=hB'.size;omega)).mono fun e w'' ⟨a1,a2,a3,a4⟩=>⟨a1,?_,(onB HY.out hB').trans a3,kept_own a4 ((hw'.block _ hzm).trans hcz) (by omega) (by decide)⟩
      rw [HMS.out,HmT.out]
      simpa [List.append_assoc] using a2
     have HKq:Hid (∀ w',Below w2.heap.size w2 w'→w'.heap[wr.heap.size]?=some (.cells #[.string nm,.int .i64 pa,.int .i64 sg,.string fo] 46 (0,0))→Below w2.heap.size w2 w'∧w'.cell? ⟨wr.heap.size,0,none⟩=some (.string nm)∧w'.cell? ⟨wr.heap.size,1,none⟩=some (.int .i64 pa)∧w'.cell? ⟨wr.heap.size,2,none⟩=some (.int .i64 sg)∧w'.cell? ⟨wr.heap.size,3,none⟩=some (.string fo)):=fun w' h h'=>⟨h,by rw [Lib.cell_of_heap h'];rfl,by rw [Lib.cell_of_heap h'];rfl,by rw [Lib.cell_of_heap h'];rfl,by rw [Lib.cell_of_heap h'];rfl⟩
     have HKp:Hid (∀ w',Below wm.heap.size wm w'→Below w2.heap.size w2 w'∧w'.cell? ⟨wr.heap.size,0,none⟩=some (.string nm)∧w'.cell? ⟨wr.heap.size,1,none⟩=some (.int .i64 pa)∧w'.cell? ⟨wr.heap.size,2,none⟩=some (.int .i64 sg)∧w'.cell? ⟨wr.heap.size,3,none⟩=some (.string fo)):=fun w' h=>HKq.out w' (onB HY.out (onB hBo h)) ((h.block _ hzm).trans hcz)
     have HWD':=hid_of hwm
     obtain ⟨-,k0,k1,k2,k3⟩:=HKp.out wm (Below.refl _ _)
     clear hBo hcz hwm hBz hBy hpt hst hft hsf hlm hTab hpl hgl hfl
     go_upto_region 15 with fail
     rw [HWD'.out]
     go_region_held3 (fun w'=>Below w2.heap.size w2 w'∧w'.cell? ⟨wr.heap.size,0,none⟩=some (.string nm)∧w'.cell? ⟨wr.heap.size,1,none⟩=some (.int .i64 pa)∧w'.cell? ⟨wr.heap.size,2,none⟩=some (.int .i64 sg)∧w'.cell? ⟨wr.heap.size,3,none⟩=some (.string fo))
      (first | (exact HKq.out _ hb8 hd8) | (refine HKp.out _ ?_;go_grown;done))
      (first
       | (go_at_call 21;refine (HPa.out _ (by go_grown)).mono ?_;rintro e w4 ⟨rfl,hb4⟩;have hN4:=onB (W0:=wm) (by go_grown) hb4;have hy4:=hN4.size;clear hb4)
       | (go_at_call 22;refine (HSg.out _).mono ?_;rintro e w5 ⟨rfl,hb5⟩;have hN5:=onB (W0:=wm) (by go_grown) hb5;have hy5:=hN5.size;clear hb5)
       | (go_at_call 23;refine (HFo.out _).mono ?_;rintro e w6 ⟨rfl,hb6⟩;have hN6:=onB (W0:=wm) (by go_grown) hb6;have hy6:=hN6.size;clear hb6)
       | (go_at_call 19;refine (HLi.out _ _ (by first | exact heap_alloc_new _ _ | simp)).mono ?_;rintro e w7 ⟨rfl,hb7⟩;have hN7:=onB (W0:=wm) (by go_grown) hb7;have hy7:=hN7.size;clear hb7)
       | (go_at_call 18;refine (HWs.out _ (by go_grown)).mono ?_;rintro e w8 ⟨rfl,hu8,hb8,hd8⟩))
     all_goals (have HU8:=hid_of hu8;have HB8:=hid_of hb8;clear hu8 hb8 hd8)
     all_goals go_wp2_with fail
     all_goals go_roundg (m-(j+1))
     all_goals first | omega | exact ⟨j+1,by omega,rfl,by go_num,HU8.out,HB8.out⟩
    ·have hje:j=m:=by omega
     subst hje
     have HFin:Hid (Buil w2.heap.size w2.heap.size (dimsT D (k+1)) wr):=by
      show Buil _ _ _ _
      rw [HDS.out]
      exact HV.out
     clear hBy hBz
     go_wp2_with fail
     go_roundg (n-(k+1))
     case measure=>omega
     case rel=>exact ⟨k+1,by omega,rfl,by go_num,HFin.out,HY.out⟩
  ·have hke:k=n:=by omega
   subst hke
   have hdl:=dimsT_len HDr.out k (Nat.le_refl _)
   have HDl:=hid_of hdl
   have hc3:wk.cell? ⟨w.heap.size,0,none⟩=some (.slice (some ⟨b,o,none⟩) k cap):=(hBw.cell (p:=⟨w.heap.size,0,none⟩) hz2).trans hc2
   clear hBu hBw hdl hc3
   go_wp2_with fail
   go_loopg [75] xl (fun g s75 wy => ∃ (j:Nat),j≤xl∧g=xl-j∧s75=.int .i64 j∧Buil w2.heap.size w2.heap.size (dimsT D k ++ celsT D k ((lE xs).take j)) wy∧Below w2.heap.size w2 wy)
   case atStart=>exact ⟨0,Nat.zero_le _,rfl,rfl,by simpa [celsT] using HU.out,HW.out⟩
   case round =>
    obtain ⟨j,hj,rfl,rfl,hBy,hBz⟩:=hrel
    have HY:=hid_of hBz
    have HV:=hid_of hBy
    have hcl:(celsT D k ((lE xs).take j)).length≤3000*1000:=by
     refine Nat.le_trans (celsT_len _ fun e he=>?_) (Nat.mul_le_mul_right _ ?_)
     ·have:=HEs.out.each e (List.mem_of_mem_take he)
      exact ⟨this.1,this.2.2⟩
     ·rw [List.length_take];omega
    by_cases hjm:j<xl
    ·have hji:(j:Int)<(xl:Int):=by omega
     have hjx:j<xs.length:=by rw [HXl.out];exact hjm
     obtain ⟨hce,hce2,h5 | ⟨be,oe,hAE,hEt⟩⟩:=HEn.out.later (onB HB2.out hBz)
     ·rw [h5] at hjx;cases hjx
     obtain ⟨g0,g1⟩:=EnsAt.at hEt hjx
     have hpl:=EnsAt.pl hEt hjx
     have hbe:=hEt.1
     have he:=HEs.out.each ((lE xs).getD j noEn) (by rw [lE_at];exact List.mem_map.2 ⟨_,enl_mem hjx,rfl⟩)
     have HCT:Hid (celsT D k ((lE xs).take (j+1))=celsT D k ((lE xs).take j) ++ celT D k ((lE xs).getD j noEn)):=celsT_take D k (lE xs) (by rw [lE_len];exact hjx)
     rw [lE_at] at he HCT
     have HcT:Hid (celT D k (xs.getD j noL).e=(liB [⟨#[99,101,108,108]⟩,⟨(textTo D (xs.getD j noL).e.pl k).toArray⟩,⟨(Lib.itoa (xs.getD j noL).e.n).toArray⟩]).data.toList):=by show _=_;rw [liB_three];simp [celT]
     have hcel:=celT_len he.1 he.2.2
     have htl:=textTo_len he.1 k (Nat.le_refl _)
     have hne : -9223372036854775808≤(xs.getD j noL).e.n∧(xs.getD j noL).e.n≤9223372036854775807:=by
      have hn:=he.2.2
      unfold numOk at hn
      simp only [Bool.and_eq_true,decide_eq_true_eq] at hn
      omega
     have hil:=Lib.itoa_length_le (xs.getD j noL).e.n (by omega) (by omega)
     have hHI:=hid_of he.1
     subst hAE
     have HPl:=hid_of hpl
     generalize (xs.getD j noL)=X at g0 g1 HPl HCT HcT hcel htl hne hil hHI
     obtain ⟨⟨L,nn⟩,Ap,cp⟩:=X
     dsimp only at g0 g1 HPl HCT HcT hcel htl hne hil hHI
     obtain ⟨tx,htx⟩:∃ tx:ByteArray,⟨(textTo D L k).toArray⟩=tx:=⟨_,rfl⟩
     obtain ⟨sv,hsv⟩:∃ sv:ByteArray,⟨(Lib.itoa nn).toArray⟩=sv:=⟨_,rfl⟩
     have hts:tx.size≤1000:=by rw [←htx];show (List.toArray _).size≤_;rw [List.size_toArray];omega
     have hss:sv.size≤21:=by rw [←hsv];show (List.toArray _).size≤_;rw [List.size_toArray];exact hil
     rw [htx,hsv] at HcT
     obtain ⟨lc,hlc⟩:∃ lc,liB [⟨#[99,101,108,108]⟩,tx,sv]=lc:=⟨_,rfl⟩
     rw [hlc] at HcT
     have hls:lc.size≤1000:=by
      have h':lc.data.toList.length=lc.size:=by simp
      rw [←HcT.out] at h'
      omega
     have HLi:Hid (∀ (w':World) (g:Nat),w'.heap[g]?=some (.cells #[.string ⟨#[99,101,108,108]⟩,.string tx,.string sv] 9 (0,0))→Calls Tryz.prog 19 #[.slice (some ⟨g,0,none⟩) 3 3] w' fun e w''=>e=.returned (.string lc)∧Below w'.heap.size w' w''):=fun w' g hg=>by
      have h:=sline_any g 3 3 [⟨#[99,101,108,108]⟩,tx,sv] w' (tri3_at hg) (Array.getElem?_eq_some_iff.1 hg).1 rfl (by omega) (Nat.le_refl _) (by
       intro x hx
       rcases List.mem_cons.1 hx with rfl | hx
       ·exact (by decide:(ByteArray.mk #[99,101,108,108]).size≤1048576)
       rcases List.mem_cons.1 hx with rfl | hx
       ·omega
       rcases List.mem_cons.1 hx with rfl | hx
       ·omega
       ·cases hx)
      rw [hlc] at h
      exact h
     obtain ⟨we,hwe⟩:∃ we,wr.alloc (.cells #[.slice Ap L.length cp,.int .i64 nn] 51)=we:=⟨_,rfl⟩
     have hBo:Below wr.heap.size wr we:=by rw [←hwe];go_grown
     have hcz:we.heap[wr.heap.size]?=some (.cells #[.slice Ap L.length cp,.int .i64 nn] 51 (0,0)):=by rw [←hwe];exact heap_alloc_new wr _
     have hze:wr.heap.size<we.heap.size:=(Array.getElem?_eq_some_iff.1 hcz).1
     have hB2e:=onB HY.out hBo
     have hPr:=pprint_any (some ⟨b,o,none⟩) cap k D A C Ap cp L we (HM.out.later (onB HB2.out hB2e)) (HPl.out.later hBo)
     rw [hHI.out.ok,errV_zero,show textV D k L=⟨(textTo D L k).toArray⟩ by unfold textV;rw [if_pos hHI.out.ok],htx] at hPr
     have HIt:Hid (∀ w',Below we.heap.size we w'→Calls Tryz.prog 20 #[.int .i64 nn] w' fun e w''=>e=.returned (.string sv)∧Below w'.heap.size w' w''):=fun w' hb=>by
      have h:=itoaF nn w' hne.1 hne.2 (HT.out.later (onB (onB HB2.out hB2e) hb))
      rw [hsv] at h
      exact h
     have hzw:=hBz.size
     have hbu:=hBy.lt
     have hdl':=HDl.out
     have HWs:Hid (∀ w',Below we.heap.size we w'→Calls Tryz.prog 18 #[.pointer (some ⟨w2.heap.size,0,none⟩),.string lc] w' fun e w''=>e=.returned (.tuple #[.int .i64 lc.size,.nilIface])∧Buil w2.heap.size w2.heap.size (dimsT D k ++ celsT D k ((lE xs).take (j+1))) w''∧Below w2.heap.size w2 w''):=fun w' hw'=>by
      have hB':=onB hBo hw'
      refine (wstringL_any _ _ _ lc w' (HV.out.later hB') (by rw [List.length_append];omega) (by have:=hB'.size;omega)).mono fun e w'' ⟨a1,a2,a3,_⟩=>⟨a1,?_,(onB HY.out hB').trans a3⟩
      rw [HCT.out,HcT.out,←List.append_assoc]
      exact a2
     have HWD:=hid_of hwe
     have c3:we.cell? ⟨w.heap.size,0,none⟩=some (.slice (some ⟨b,o,none⟩) k cap):=(hB2e.cell (p:=⟨w.heap.size,0,none⟩) hz2).trans hc2
     have k0:we.cell? ⟨wr.heap.size,0,none⟩=some (.slice Ap L.length cp):=by rw [Lib.cell_of_heap hcz];rfl
     have HK1:Hid (∀ w',Below we.heap.size we w'→w'.cell? ⟨wr.heap.size,1,none⟩=some (.int .i64 nn)):=fun w' h=>by rw [Lib.cell_of_heap ((h.block _ hze).trans hcz)];rfl
     obtain ⟨ll,hll⟩:∃ ll,L.length=ll:=⟨_,rfl⟩
     rw [hll] at hPr k0 HWD g0
     clear hBo hcz hwe hBz hBy hsv hlc htx hEt hpl he hdl' hil htl hcel hll hB2e
     go_upto_region 21 with fail
     rw [HWD.out]
     go_wp2_with fail
     refine hPr.mono ?_
     rintro e w5 ⟨rfl,hb5⟩
     have k1:=HK1.out w5 hb5
     have hIt:=HIt.out w5 hb5
     have hz5:=hb5.size
     have HB5:=hid_of hb5
     clear hPr hb5
     go_wp2_with fail
     refine hIt.mono ?_
     rintro e w6 ⟨rfl,hb6⟩
     have HB6:=hid_of (onB HB5.out hb6)
     clear hIt hb6
     go_wp2_with fail
     refine (HLi.out _ _ (heap_alloc_new _ _)).mono ?_
     rintro e w7 ⟨rfl,hb7⟩
     have hB7:=onB (W0:=we) (onB HB6.out (by go_grown)) hb7
     have hWs:=HWs.out w7 hB7
     clear hb7
     go_wp2_with fail
     refine hWs.mono ?_
     rintro e w8 ⟨rfl,hu8,hb8⟩
     have HU8:=hid_of hu8
     have HB8:=hid_of hb8
     clear hWs hu8 hb8 hB7
     go_wp2_with fail
     go_roundg (xl-(j+1))
     case measure=>omega
     case rel=>exact ⟨j+1,by omega,rfl,by go_num,HU8.out,HB8.out⟩
    ·have hje:j=xl:=by omega
     subst hje
     have HFin:Hid (Buil w2.heap.size w2.heap.size (shT D k (lE xs)) wr):=by
      show Buil _ _ _ _
      have h:=HV.out
      rw [←HXl.out,←lE_len,List.take_length] at h
      exact h
     have hst:=bstring_any w2.heap.size w2.heap.size _ wr HFin.out (by have:=hBz.size;omega)
     clear hBy hBz
     go_wp2_with fail
     refine hst.mono ?_
     rintro e w9 ⟨rfl,hb9⟩
     go_wp2_with fail
     go_ret2
     exact ⟨rfl,onB HB2.out (HY.out.trans hb9)⟩
end Go.Proofs.YtinebmjpdkjooaaGreatDoor
