/-
  What Make of package grid answers, in whatever memory.
-/
import Derived.Test.YtnegjdcedhnjdaaGreatDoorJDBQ
namespace Go.Proofs.YtnegjdcedhnjdaaGreatDoor
open Go.ChangeShapes Go.WideShapes Go.ChangeAt Go.RowKit
set_option maxRecDepth 20000
section
variable (D:Nat→Dm) (n:Nat) (l:List En) (p:List Int) (row col:Int)
noncomputable def mkE:Int:=if cuErr D n l≠0 then cuErr D n l else if placeErr D n p≠0 then placeErr D n p else if outI n row=true∨outI n col=true then 1 else if row=col then 3 else 0
noncomputable def mkF (r c:Nat):Int×Int:=(caL D n l).getD (numI D ((p.set row.toNat r).set col.toNat c) n).toNat noC
noncomputable def mkR:List Int:=if mkE D n l p row col=0 then risL (D row.toNat).n else []
noncomputable def mkC:List Int:=if mkE D n l p row col=0 then risL (D col.toNat).n else []
noncomputable def mkZ:List (List (Int×Int)):=if mkE D n l p row col=0 then tab (mkF D n l p row col) (D row.toNat).n (D col.toNat).n else []
end
section
variable {D:Nat→Dm} {n:Nat} {l:List En} {p:List Int} {row col:Int}
theorem mkE_cu (h:cuErr D n l≠0):mkE D n l p row col=cuErr D n l:=by unfold mkE;rw [if_pos h]
theorem mkE_pl (h:cuErr D n l=0) (h2:placeErr D n p≠0):mkE D n l p row col=placeErr D n p:=by unfold mkE;rw [if_neg (by simpa using h),if_pos h2]
theorem mkE_out (h:cuErr D n l=0) (h2:placeErr D n p=0) (h3:outI n row=true∨outI n col=true):mkE D n l p row col=1:=by unfold mkE;rw [if_neg (by simpa using h),if_neg (by simpa using h2),if_pos h3]
theorem mkE_in (h:cuErr D n l=0) (h2:placeErr D n p=0) (h3:outI n row=false) (h4:outI n col=false):mkE D n l p row col=if row=col then 3 else 0:=by unfold mkE;rw [if_neg (by simpa using h),if_neg (by simpa using h2),if_neg (by rw [h3,h4];decide)]
theorem outI_in {n:Nat} {x:Int} (h:outI n x=false):∃ k:Nat,x=k∧k<n:=by
 unfold outI at h
 simp at h
 exact ⟨x.toNat,by omega,by omega⟩
theorem mkE_right (h:mkE D n l p row col=0):cuErr D n l=0∧placeErr D n p=0∧∃ i k:Nat,row=i∧col=k∧i<n∧k<n∧i≠k:=by
 by_cases h1:cuErr D n l=0
 ·by_cases h2:placeErr D n p=0
  ·cases h3:outI n row with
   | true=>rw [mkE_out h1 h2 (Or.inl h3)] at h;omega
   | false =>
    cases h4:outI n col with
    | true=>rw [mkE_out h1 h2 (Or.inr h4)] at h;omega
    | false =>
     rw [mkE_in h1 h2 h3 h4] at h
     obtain ⟨i,rfl,hi⟩:=outI_in h3
     obtain ⟨k,rfl,hk⟩:=outI_in h4
     refine ⟨h1,h2,i,k,rfl,rfl,hi,hk,fun e=>?_⟩
     subst e
     simp at h
  ·rw [mkE_pl h1 h2] at h;exact absurd h h2
 ·rw [mkE_cu h1] at h;exact absurd h h1
theorem mk_in {i k:Nat} (hp:placeErr D n p=0) (hi:i<n) (hk:k<n) {r c:Nat} (hr:r<(D i).n) (hc:c<(D k).n):InO D n ((p.set i (r:Int)).set k (c:Int)):=inO_set (inO_set (inO_of hp) hi (by omega) (by omega)) hk (by omega) (by omega)
end
def MkRes (w:World) (R K:List Int) (Z:List (List (Int×Int))) (E:Int) (e:Ending) (w':World):Prop:=(∃ Ar cr Ac cc Ag cg zz,e=.returned (.tuple #[.agg #[.slice Ar R.length cr,.slice Ac K.length cc,.slice Ag zz.length cg],errV E])∧PlAt w' Ar cr R∧PlAt w' Ac cc K∧CssV w' Ag cg zz∧lZ zz=Z)∧Below w.heap.size w w'
theorem mkres_bad {w w':World} {E:Int} (hE:E≠0) (hB:Below w.heap.size w w'):MkRes w [] [] [] E (.returned (.tuple #[.agg #[.slice none 0 0,.slice none 0 0,.slice none 0 0],.iface 66 (.int .i64 E)])) w' :=
 ⟨⟨none,0,none,0,none,0,[],by rw [errV_some hE];rfl,PlAt.nil _ _ _,PlAt.nil _ _ _,CssV.nil _ _ _ (by omega),rfl⟩,hB⟩
def mkW (w:World) (A0:Option Addr) (n cap:Nat) (row col:Int):World:=(((w.alloc (.cells #[.slice A0 n cap] 24)).alloc (.cells #[.int .i64 row] 3)).alloc (.cells #[.int .i64 col] 3)).alloc (.cells #[.slice none 0 0,.slice none 0 0,.slice none 0 0] 43)
theorem mkW_size (w:World) (A0:Option Addr) (n cap:Nat) (row col:Int):(mkW w A0 n cap row col).heap.size=w.heap.size+4:=by simp [mkW]
theorem mkW_below (w:World) (A0:Option Addr) (n cap:Nat) (row col:Int):Below w.heap.size w (mkW w A0 n cap row col):=by unfold mkW;go_grown
theorem mkW_at (w:World) (A0:Option Addr) (n cap:Nat) (row col:Int):(mkW w A0 n cap row col).cell? ⟨w.heap.size,0,none⟩=some (.slice A0 n cap)∧(mkW w A0 n cap row col).cell? ⟨w.heap.size+1,0,none⟩=some (.int .i64 row)∧(mkW w A0 n cap row col).cell? ⟨w.heap.size+2,0,none⟩=some (.int .i64 col)∧(mkW w A0 n cap row col).heap[w.heap.size+3]?=some (.cells #[.slice none 0 0,.slice none 0 0,.slice none 0 0] 43 (0,0)):=by
 unfold mkW
 obtain ⟨w1,h1⟩:∃ w1,w.alloc (.cells #[.slice A0 n cap] 24)=w1:=⟨_,rfl⟩
 have b1:w1.heap[w.heap.size]?=some (.cells #[.slice A0 n cap] 24 (0,0)):=by rw [←h1];exact heap_alloc_new ..
 have s1:w1.heap.size=w.heap.size+1:=by rw [←h1];simp
 rw [h1]
 obtain ⟨w2,h2⟩:∃ w2,w1.alloc (.cells #[.int .i64 row] 3)=w2:=⟨_,rfl⟩
 have b2:w2.heap[w.heap.size+1]?=some (.cells #[.int .i64 row] 3 (0,0)):=by rw [←h2,←s1];exact heap_alloc_new ..
 have o2:∀ b,b<w.heap.size+1→w2.heap[b]?=w1.heap[b]?:=fun b hb=>by rw [←h2];exact Below.heap_alloc _ _ _ (by omega)
 have s2:w2.heap.size=w.heap.size+2:=by rw [←h2];simp [s1]
 rw [h2]
 obtain ⟨w3,h3⟩:∃ w3,w2.alloc (.cells #[.int .i64 col] 3)=w3:=⟨_,rfl⟩
 have b3:w3.heap[w.heap.size+2]?=some (.cells #[.int .i64 col] 3 (0,0)):=by rw [←h3,←s2];exact heap_alloc_new ..
 have o3:∀ b,b<w.heap.size+2→w3.heap[b]?=w2.heap[b]?:=fun b hb=>by rw [←h3];exact Below.heap_alloc _ _ _ (by omega)
 have s3:w3.heap.size=w.heap.size+3:=by rw [←h3];simp [s2]
 rw [h3]
 obtain ⟨w4,h4⟩:∃ w4,w3.alloc (.cells #[.slice none 0 0,.slice none 0 0,.slice none 0 0] 43)=w4:=⟨_,rfl⟩
 have b4:w4.heap[w.heap.size+3]?=some (.cells #[.slice none 0 0,.slice none 0 0,.slice none 0 0] 43 (0,0)):=by rw [←h4,←s3];exact heap_alloc_new ..
 have o4:∀ b,b<w.heap.size+3→w4.heap[b]?=w3.heap[b]?:=fun b hb=>by rw [←h4];exact Below.heap_alloc _ _ _ (by omega)
 rw [h4]
 exact ⟨(Lib.cell_of_heap ((o4 _ (by omega)).trans ((o3 _ (by omega)).trans ((o2 _ (by omega)).trans b1))) 0).trans rfl,(Lib.cell_of_heap ((o4 _ (by omega)).trans ((o3 _ (by omega)).trans b2)) 0).trans rfl,(Lib.cell_of_heap ((o4 _ (by omega)).trans b3) 0).trans rfl,b4⟩
theorem any_two (p:Int→Bool) (a b:Int):[a,b].any p=(p a || p b):=by simp
set_option maxHeartbeats 16000000 in
theorem gmake_any (A0:Option Addr) (cap n:Nat) (D:Nat→Dm) (A:Nat→Option Addr) (C:Nat→Nat) (AE:Option Addr) (ce:Nat) (xs:List EnL) (Ap:Option Addr) (cp:Nat) (p:List Int) (row col:Int) (w:World) (hM:DimsV w A0 cap n D A C) (hEn:EnsV w AE ce xs) (hP:PlAt w Ap cp p) :
  Calls Tryz.prog 7 #[.agg #[.slice A0 n cap],.slice AE xs.length ce,.slice Ap p.length cp,.int .i64 row,.int .i64 col] w (MkRes w (mkR D n (lE xs) p row col) (mkC D n (lE xs) p row col) (mkZ D n (lE xs) p row col) (mkE D n (lE xs) p row col)):=by
 have hB0:=mkW_below w A0 n cap row col
 have hS:=mkW_size w A0 n cap row col
 obtain ⟨k0,k1,k2,k3⟩:=mkW_at w A0 n cap row col
 obtain ⟨W,hW⟩:∃ W,mkW w A0 n cap row col=W:=⟨_,rfl⟩
 rw [hW] at hB0 hS k0 k1 k2 k3
 unfold mkW at hW
 have hall:=call_any A0 cap n D A C AE ce xs W (hM.later hB0) (hEn.later hB0)
 have HB0:=hid_of hB0
 have HM:=hid_of hM
 have HP:=hid_of hP
 have HS:=hid_of hS
 have HK:Hid (∀ w',Below W.heap.size W w'→w'.cell? ⟨w.heap.size,0,none⟩=some (.slice A0 n cap)∧w'.cell? ⟨w.heap.size+1,0,none⟩=some (.int .i64 row)∧w'.cell? ⟨w.heap.size+2,0,none⟩=some (.int .i64 col)∧w'.heap[w.heap.size+3]?=some (.cells #[.slice none 0 0,.slice none 0 0,.slice none 0 0] 43 (0,0))∧w.heap.size+3<w'.heap.size):=fun w' h=>⟨(h.cell (p:=⟨w.heap.size,0,none⟩) (by simp only;omega)).trans k0,(h.cell (p:=⟨w.heap.size+1,0,none⟩) (by simp only;omega)).trans k1,(h.cell (p:=⟨w.heap.size+2,0,none⟩) (by simp only;omega)).trans k2,(h.block _ (by omega)).trans k3,by have:=h.size;omega⟩
 obtain ⟨V,hV⟩:∃ V,caL D n (lE xs)=V:=⟨_,rfl⟩
 have HV:=hid_of hV
 rw [hV] at hall
 obtain ⟨N,hN⟩:∃ N,V.length=N:=⟨_,rfl⟩
 have HN:=hid_of hN
 rw [hN] at hall
 generalize xs.length=xl at hall
 obtain ⟨ll,hll⟩:∃ ll,lE xs=ll:=⟨_,rfl⟩
 rw [hll] at hall HV ⊢
 have HRet:Hid (∀ (u:World) (E:Int),Below W.heap.size W u→mkE D n ll p row col=E→E≠0→(u.cell? ⟨w.heap.size+3,0,none⟩=some (.slice none 0 0)∧u.cell? ⟨w.heap.size+3,1,none⟩=some (.slice none 0 0)∧u.cell? ⟨w.heap.size+3,2,none⟩=some (.slice none 0 0)∧u.frozen? ⟨w.heap.size+3,0,none⟩=false∧u.frozen? ⟨w.heap.size+3,1,none⟩=false∧u.frozen? ⟨w.heap.size+3,2,none⟩=false)∧w.heap.size+3<u.heap.size∧∃ U,((u.setCell ⟨w.heap.size+3,0,none⟩ (.slice none 0 0)).setCell ⟨w.heap.size+3,1,none⟩ (.slice none 0 0)).setCell ⟨w.heap.size+3,2,none⟩ (.slice none 0 0)=U∧U.cell? ⟨w.heap.size+3,0,none⟩=some (.slice none 0 0)∧U.cell? ⟨w.heap.size+3,1,none⟩=some (.slice none 0 0)∧U.cell? ⟨w.heap.size+3,2,none⟩=some (.slice none 0 0)∧Hid (MkRes w (mkR D n ll p row col) (mkC D n ll p row col) (mkZ D n ll p row col) (mkE D n ll p row col) (.returned (.tuple #[.agg #[.slice none 0 0,.slice none 0 0,.slice none 0 0],.iface 66 (.int .i64 E)])) U)):=fun u E hu he hE=>by
  obtain ⟨-,-,-,d3,d4⟩:=HK.out u hu
  obtain ⟨t0,t1,t2,-,-,-⟩:=tri_at (tri_set (a:=.slice none 0 0) (b:=.slice none 0 0) (c:=.slice none 0 0) d3)
  refine ⟨tri_at d3,d4,_,rfl,t0,t1,t2,?_⟩
  unfold mkR mkC mkZ
  rw [he,if_neg hE,if_neg hE,if_neg hE]
  exact mkres_bad hE (below_tri (onB HB0.out hu) (by omega))
 obtain ⟨pl,hpl⟩:∃ pl,p.length=pl:=⟨_,rfl⟩
 have HPl:=hid_of hpl
 rw [hpl]
 clear hM hEn hP hB0 hS k1 k2 k3 hV hN hll hpl
 go_enter Tryz.func7,Tryz.ntmps7
 go_wp2_with fail
 refine hall.mono ?_
 rintro e w1 ⟨⟨AV,cV,he,hCv⟩,hb1⟩
 obtain ⟨y,hy⟩:∃ y,w1.alloc (.cells #[.slice AV N cV] 46)=y:=⟨_,rfl⟩
 have hBy:Below w1.heap.size w1 y:=by rw [←hy];go_grown
 have hyb:y.heap[w1.heap.size]?=some (.cells #[.slice AV N cV] 46 (0,0)):=by rw [←hy];exact heap_alloc_new ..
 have hWy:=onB hb1 hBy
 by_cases hE:cuErr D n ll=0
 case neg =>
  rw [errV_some hE] at he
  subst he
  obtain ⟨⟨s0,s1,s2,g0,g1,g2⟩,sz,U,hU,t0,t1,t2,HF⟩:=HRet.out y _ hWy (mkE_cu hE) hE
  generalize cuErr D n ll=E at HF
  clear hb1 hBy hyb hWy hall hCv hE HK HRet
  go_wp2_with fail
  exact bodyPost_ret (v:=.tuple #[.agg #[.slice none 0 0,.slice none 0 0,.slice none 0 0],.iface 66 (.int .i64 E)]) (by simp [results,Tryz.results7,go_sem,t0,t1,t2]) rfl HF.out
 rw [hE,errV_zero] at he
 subst he
 have hNp:N=prodN D n:=by rw [←HN.out,←HV.out];exact caL_len hE
 obtain ⟨hru,-⟩:=cu_ru hE
 obtain ⟨hal,-⟩:=ru_right hru
 obtain ⟨hn1,hn4,hp3,hd⟩:=allErr_some hal
 have HD:=hid_of hd
 have HP3:=hid_of hp3
 have HCu:=hid_of hE
 have hpc:=pcheck_any A0 cap n D A C Ap cp p y (HM.out.later (onB HB0.out hWy)) (HP.out.later (onB HB0.out hWy))
 obtain ⟨d0,d1,d2,d3,d4⟩:=HK.out y hWy
 have HWy:=hid_of hWy
 have HCv:=hid_of (hCv.later hBy)
 have HVb:Hid (y.cell? ⟨w1.heap.size,0,none⟩=some (.slice AV N cV)∧w1.heap.size<y.heap.size):=⟨(Lib.cell_of_heap hyb 0).trans rfl,(Array.getElem?_eq_some_iff.1 hyb).1⟩
 have HNp:=hid_of hNp
 have hw1:w.heap.size+3<w1.heap.size:=(HK.out w1 hb1).2.2.2.2
 rw [HPl.out] at hpc
 clear hb1 hBy hyb hWy hall hCv hE d3 hru hal hNp d1 d2 hd hp3
 go_wp2_with fail
 refine hpc.mono ?_
 rintro e w2 ⟨he,hb2⟩
 have hW2:=onB HWy.out hb2
 have HW2:=hid_of hW2
 by_cases hPE:placeErr D n p=0
 case neg =>
  rw [errV_some hPE] at he
  subst he
  obtain ⟨⟨s0,s1,s2,g0,g1,g2⟩,sz,U,hU,t0,t1,t2,HF⟩:=HRet.out w2 _ hW2 (mkE_pl HCu.out hPE) hPE
  generalize placeErr D n p=E at HF
  clear hb2 hW2 hpc HK HRet hPE
  go_wp2_with fail
  exact bodyPost_ret (v:=.tuple #[.agg #[.slice none 0 0,.slice none 0 0,.slice none 0 0],.iface 66 (.int .i64 E)]) (by simp [results,Tryz.results7,go_sem,t0,t1,t2]) rfl HF.out
 rw [hPE,errV_zero] at he
 subst he
 have HPE:=hid_of hPE
 obtain ⟨f0,f1,f2,-,f4⟩:=HK.out w2 hW2
 obtain ⟨y2,hy2⟩:∃ y2,w2.alloc (.cells #[.int .i64 row,.int .i64 col] 3)=y2:=⟨_,rfl⟩
 have hBy2:Below w2.heap.size w2 y2:=by rw [←hy2];go_grown
 have hyb2:y2.heap[w2.heap.size]?=some (.cells #[.int .i64 row,.int .i64 col] 3 (0,0)):=by rw [←hy2];exact heap_alloc_new ..
 have hPb:PB y2 w2.heap.size [row,col]:=⟨_,hyb2,fun j hj=>by
  match j,hj with
  | 0,_=>rfl
  | 1,_=>rfl⟩
 have hout:=outside_any (some ⟨w2.heap.size,0,none⟩) 2 [row,col] n y2 (by simp) (hPb.pl (by simp))
 rw [any_two] at hout
 simp only [List.length_cons,List.length_nil,Nat.zero_add,Nat.reduceAdd] at hout
 have HVb2:Hid (y2.cell? ⟨w1.heap.size,0,none⟩=some (.slice AV N cV)∧w1.heap.size<y2.heap.size):=by
  have h:=onB hb2 hBy2
  exact ⟨(h.cell (p:=⟨w1.heap.size,0,none⟩) HVb.out.2).trans HVb.out.1,Nat.lt_of_lt_of_le HVb.out.2 h.size⟩
 have HCv2:=hid_of (HCv.out.later (onB hb2 hBy2))
 have HWy2:=hid_of (onB hW2 hBy2)
 have q0:=(HK.out y2 (onB hW2 hBy2)).1
 have hq0:w.heap.size<y2.heap.size:=by have:=(HK.out y2 (onB hW2 hBy2)).2.2.2.2;omega
 clear hb2 hW2 hpc hPE hBy2 hyb2 hPb HCv HVb d0 d4 HWy
 go_wp2_with fail
 refine hout.mono ?_
 rintro e w3 ⟨he,hb3⟩
 have hW3:=onB HWy2.out hb3
 have HCv3:=hid_of (HCv2.out.later hb3)
 have HVb3:Hid (w3.cell? ⟨w1.heap.size,0,none⟩=some (.slice AV N cV)∧w1.heap.size<w3.heap.size):=⟨(hb3.cell (p:=⟨w1.heap.size,0,none⟩) HVb2.out.2).trans HVb2.out.1,Nat.lt_of_lt_of_le HVb2.out.2 hb3.size⟩
 have HW3:=hid_of hW3
 clear hb3 hout HCv2 HVb2 HWy2 q0 hq0 f0 f1 f2 f4 hy2 hy
 cases hob:(outI n row || outI n col) with
 | true =>
  rw [hob] at he
  subst he
  obtain ⟨⟨s0,s1,s2,g0,g1,g2⟩,sz,U,hU,t0,t1,t2,HF⟩:=HRet.out w3 _ hW3 (mkE_out HCu.out HPE.out (by simpa using hob)) (by omega)
  clear hW3 HK HRet hob
  go_wp2_with fail
  exact bodyPost_ret (v:=.tuple #[.agg #[.slice none 0 0,.slice none 0 0,.slice none 0 0],.iface 66 (.int .i64 1)]) (by simp [results,Tryz.results7,go_sem,t0,t1,t2]) rfl HF.out
 | false =>
  rw [hob] at he
  subst he
  obtain ⟨ho1,ho2⟩:outI n row=false∧outI n col=false:=by simpa using hob
  have HMe:=hid_of (mkE_in (l:=ll) (p:=p) HCu.out HPE.out ho1 ho2)
  obtain ⟨i,hri,hi⟩:=outI_in ho1
  obtain ⟨k,hck,hk⟩:=outI_in ho2
  obtain ⟨f0,f1,f2,-,f4⟩:=HK.out w3 hW3
  clear hob ho1 ho2
  by_cases hik:i=k
  ·have hrc:(row == col)=true:=by rw [hri,hck,hik];simp
   obtain ⟨⟨s0,s1,s2,g0,g1,g2⟩,sz,U,hU,t0,t1,t2,HF⟩:=HRet.out w3 3 hW3 (HMe.out.trans (if_pos (by rw [hri,hck,hik]))) (by omega)
   clear hW3 HK HRet hri hck
   go_wp2_with fail
   exact bodyPost_ret (v:=.tuple #[.agg #[.slice none 0 0,.slice none 0 0,.slice none 0 0],.iface 66 (.int .i64 3)]) (by simp [results,Tryz.results7,go_sem,t0,t1,t2]) rfl HF.out
  ·have hrc:(row == col)=false:=by rw [hri,hck];simpa using fun e=>hik (by omega)
   have HM0:Hid (mkE D n ll p row col=0):=HMe.out.trans (if_neg (by rw [hri,hck];omega))
   have HF0:Hid (∀ r c:Nat,mkF D n ll p row col r c=V.getD (numI D ((p.set i (r:Int)).set k (c:Int)) n).toNat noC):=fun r c=>by unfold mkF;rw [HV.out,hri,hck];simp
   have HRw:Hid (mkR D n ll p row col=risL (D i).n∧mkC D n ll p row col=risL (D k).n∧mkZ D n ll p row col=tab (mkF D n ll p row col) (D i).n (D k).n):=by
    show _∧_∧_
    unfold mkR mkC mkZ
    rw [if_pos HM0.out,if_pos HM0.out,if_pos HM0.out,hri,hck]
    simp
   have hBw3:=onB HB0.out hW3
   obtain ⟨hcap,h0 | ⟨b0,o0,rfl,hDs⟩⟩:=HM.out.later hBw3
   ·omega
   obtain ⟨-,-,e1,-⟩:=hDs.2 i hi
   obtain ⟨-,-,e2,-⟩:=hDs.2 k hk
   have hbl:=hDs.1
   obtain ⟨-,hn1'⟩:=HD.out i hi
   obtain ⟨-,hn2'⟩:=HD.out k hk
   have HIn:Hid (∀ r c:Nat,r<(D i).n→c<(D k).n→InO D n ((p.set i (r:Int)).set k (c:Int))):=fun r c hr hc=>mk_in HPE.out hi hk hr hc
   have HDr:Hid (DimsV w3 (some ⟨b0,o0,none⟩) cap n D A C):=HM.out.later hBw3
   have HP3':Hid (PlAt w3 Ap cp p):=HP.out.later hBw3
   rw [hri] at f1
   rw [hck] at f2
   generalize (D i).n=m1 at e1 hn1' HIn HRw
   generalize (D k).n=m2 at e2 hn2' HIn HRw
   generalize A i=A1 at e1
   generalize A k=A2 at e2
   generalize C i=C1 at e1
   generalize C k=C2 at e2
   have HKw:Hid (∀ w',Below w3.heap.size w3 w'→Below w3.heap.size w3 w'∧w'.cell? ⟨w.heap.size,0,none⟩=some (.slice (some ⟨b0,o0,none⟩) n cap)∧w'.cell? ⟨w.heap.size+1,0,none⟩=some (.int .i64 (i:Int))∧w'.cell? ⟨w.heap.size+1+1,0,none⟩=some (.int .i64 (k:Int))∧w'.cell? ⟨b0,o0+i*3+2,none⟩=some (.slice A1 m1 C1)∧w'.cell? ⟨b0,o0+k*3+2,none⟩=some (.slice A2 m2 C2)):=fun w' h=>⟨h,(h.cell (p:=⟨w.heap.size,0,none⟩) (by simp only;omega)).trans f0,(h.cell (p:=⟨w.heap.size+1,0,none⟩) (by simp only;omega)).trans f1,(h.cell (p:=⟨w.heap.size+2,0,none⟩) (by simp only;omega)).trans f2,(h.cell (p:=⟨b0,o0+i*3+2,none⟩) hbl).trans e1,(h.cell (p:=⟨b0,o0+k*3+2,none⟩) hbl).trans e2⟩
   have hiI:(i:Int)<(n:Int):=by omega
   have hkI:(k:Int)<(n:Int):=by omega
   have hrcI:((i:Int) == (k:Int))=false:=by simpa using fun e=>hik (by omega)
   have HRC:Hid (row=(i:Int)∧col=(k:Int)):=⟨hri,hck⟩
   have hc3:(n:Int)≤(cap:Int):=by omega
   clear hri hck hDs hBw3 hrc
   go_wp2_with fail
   go_cut [15,16] from 19 (fun s15 s16 wx => ∃ g1 g2,s15=.slice (some ⟨g1,0,none⟩) m1 m1∧s16=.slice (some ⟨g2,0,none⟩) m2 m2∧IntB wx g1 (risL m1)∧IntB wx g2 (risL m2)∧Below w3.heap.size w3 wx)
   case first =>
    go_region_held3 (fun w'=>Below w3.heap.size w3 w'∧w'.cell? ⟨w.heap.size,0,none⟩=some (.slice (some ⟨b0,o0,none⟩) n cap)∧w'.cell? ⟨w.heap.size+1,0,none⟩=some (.int .i64 (i:Int))∧w'.cell? ⟨w.heap.size+1+1,0,none⟩=some (.int .i64 (k:Int))∧w'.cell? ⟨b0,o0+i*3+2,none⟩=some (.slice A1 m1 C1)∧w'.cell? ⟨b0,o0+k*3+2,none⟩=some (.slice A2 m2 C2))
     ((refine HKw.out _ ?_;go_grown;done))
     (first | (go_at_call 21;refine (gplaces_any _ _ _ _ (by first | exact hn1' | exact hn2')).mono ?_;rintro e w4 ⟨rfl,hI4,hb4⟩;have hB4:=onB (W0:=w3) (by go_grown) hb4;have hy4:=hB4.size;first | (have HI1:Hid (IntB _ _ (risL m1)):=hI4;have HX1:=hid_of hb4) | (have HI2:Hid (IntB _ _ (risL m2)):=hI4;have HX2:=hid_of hb4);clear hI4 hb4))
    all_goals go_wp2_with fail
    all_goals go_meet
    all_goals (have h4:=HX1.out;have h5:=HX2.out;exact ⟨_,_,rfl,rfl,HI1.out.later (by go_grown),HI2.out.later (by go_grown),by go_grown⟩)
   case rest =>
   obtain ⟨g1,g2,rfl,rfl,hI1,hI2,hBc⟩:=hcut
   obtain ⟨w4,rfl⟩:∃ w4:World,w4=wc:=⟨_,rfl⟩
   have HI1:=hid_of hI1
   have HI2:=hid_of hI2
   have HW4:=hid_of (onB HW3.out hBc)
   have hpn:p.length=n:=(inO_of HPE.out).len
   have hcl:=clone_own Ap cp p w4 (by omega) (HP3'.out.later hBc)
   obtain ⟨-,x0,x1,x2,-,-⟩:=HKw.out w4 hBc
   have HX:Hid (w4.cell? ⟨w.heap.size,0,none⟩=some (.slice (some ⟨b0,o0,none⟩) n cap)∧w4.cell? ⟨w.heap.size+1,0,none⟩=some (.int .i64 (i:Int))∧w4.cell? ⟨w.heap.size+1+1,0,none⟩=some (.int .i64 (k:Int))∧w4.cell? ⟨w1.heap.size,0,none⟩=some (.slice AV (prodN D n) cV)):=⟨x0,x1,x2,by rw [←HNp.out];exact (hBc.cell (p:=⟨w1.heap.size,0,none⟩) HVb3.out.2).trans HVb3.out.1⟩
   have HD4:=hid_of (HDr.out.later hBc)
   have HV4:=hid_of (HCv3.out.later hBc)
   have HPn:=hid_of hpn
   rw [HPl.out] at hcl
   clear hI1 hI2 hBc x0 x1 x2 HKw HDr HP3' HCv3 HVb3 hpn e1 e2 f0 f1 f2
   go_wp2_with fail
   refine hcl.mono ?_
   rintro e w5 ⟨⟨v,rfl,hO⟩,hb5⟩
   rw [←HPl.out] at hO
   obtain ⟨gP,cP,rfl,hgP,hcP,hPB⟩:=pb_own hO (by rw [HPn.out];omega)
   obtain ⟨y5,hy5⟩:∃ y5,w5.alloc (.cells #[.slice (some ⟨gP,0,none⟩) p.length cP] 27)=y5:=⟨_,rfl⟩
   have hBy5:Below w5.heap.size w5 y5:=by rw [←hy5];go_grown
   have hyb5:y5.heap[w5.heap.size]?=some (.cells #[.slice (some ⟨gP,0,none⟩) p.length cP] 27 (0,0)):=by rw [←hy5];exact heap_alloc_new ..
   have hB45:=onB hb5 hBy5
   have hs5:w5.heap.size<y5.heap.size:=(Array.getElem?_eq_some_iff.1 hyb5).1
   have hg5:=hPB.lt
   have hMk:MkI w4 w5.heap.size gP n cP i k p y5:=⟨hB45,by rw [←HPn.out];exact (Lib.cell_of_heap hyb5 0).trans rfl,p,HPn.out,fun _ _ _=>rfl,hPB.same (hBy5.block _ hg5)⟩
   have htab:=table_any 24 #[.pointer (some ⟨w5.heap.size,0,none⟩),.pointer (some ⟨w.heap.size+1,0,none⟩),.pointer (some ⟨w.heap.size+1+1,0,none⟩),.pointer (some ⟨w.heap.size,0,none⟩),.pointer (some ⟨w1.heap.size,0,none⟩)] (mkF D n ll p row col) (MkI w4 w5.heap.size gP n cP i k p) (fun b=>b=gP) m1 m2 y5 (by omega) (by omega) mk1_in (fun b hb=>by omega) hMk
    (fun w' w'' ⟨hb,hc,L',h1,h2,h3⟩ hk=>⟨⟨hk.os.trans hb.os,hk.tape.trans hb.tape,hk.output.trans hb.output,Nat.le_trans hb.size hk.size,fun b hbb=>(hk.block b (Nat.lt_of_lt_of_le hbb hB45.size) id).trans (hb.block b hbb)⟩,(World.cell?_of_block (a:=⟨w5.heap.size,0,none⟩) (hk.block _ hs5 id)).trans hc,L',h1,h2,h3.same (hk.block _ (by omega) id)⟩)
    (fun r c w' hr hc hInv _=>by
     rw [HF0.out r c]
     exact mk1_any w5.heap.size (w.heap.size+1) (w.heap.size+1+1) w.heap.size w1.heap.size gP cP (some ⟨b0,o0,none⟩) cap n D A C AV cV V p i k r c w4 w' (HIn.out r c hr hc) (HN.out.trans HNp.out) HPn.out hi hk (by rw [←HPn.out];exact hcP) hgP (by omega) HD4.out HV4.out HX.out.2.1 HX.out.2.2.1 HX.out.1 HX.out.2.2.2 hInv)
   clear hMk hPB hO hBy5 hyb5 hcl
   rw [HPl.out] at hy5 ⊢
   go_wp2_with fail
   refine htab.mono ?_
   rintro e w6 ⟨⟨zz,rfl,hzl,hZ,hlz⟩,⟨hB46,-⟩,-⟩
   have hW6:=onB HW4.out hB46
   obtain ⟨-,-,-,d3,d4⟩:=HK.out w6 hW6
   obtain ⟨s0,s1,s2,j0,j1,j2⟩:=tri_at d3
   obtain ⟨t0,t1,t2,-,-,-⟩:=tri_at (tri_set (a:=.slice (some ⟨g1,0,none⟩) m1 m1) (b:=.slice (some ⟨g2,0,none⟩) m2 m2) (c:=.slice (some ⟨y5.heap.size,0,none⟩) m1 m1) d3)
   obtain ⟨U,hU⟩:∃ U,((w6.setCell ⟨w.heap.size+3,0,none⟩ (.slice (some ⟨g1,0,none⟩) m1 m1)).setCell ⟨w.heap.size+3,1,none⟩ (.slice (some ⟨g2,0,none⟩) m2 m2)).setCell ⟨w.heap.size+3,2,none⟩ (.slice (some ⟨y5.heap.size,0,none⟩) m1 m1)=U:=⟨_,rfl⟩
   have HEnd:Hid (MkRes w (mkR D n ll p row col) (mkC D n ll p row col) (mkZ D n ll p row col) (mkE D n ll p row col) (.returned (.tuple #[.agg #[.slice (some ⟨g1,0,none⟩) m1 m1,.slice (some ⟨g2,0,none⟩) m2 m2,.slice (some ⟨y5.heap.size,0,none⟩) m1 m1],.nilIface])) U):=by
    obtain ⟨hr1,hr2,hr3⟩:=HRw.out
    show MkRes ..
    rw [hr1,hr2,hr3,HM0.out,←hU]
    have hgt:∀ (u v z:Value) (b:Nat),b≠w.heap.size+3→(((w6.setCell ⟨w.heap.size+3,0,none⟩ u).setCell ⟨w.heap.size+3,1,none⟩ v).setCell ⟨w.heap.size+3,2,none⟩ z).heap[b]?=w6.heap[b]?:=fun u v z b hb=>((setCell_off _ _ _ _ _ hb).trans (setCell_off _ _ _ _ _ hb)).trans (setCell_off _ _ _ _ _ hb)
    have hne:∀ {g:Nat} {L:List Int},IntB w6 g L→g≠w.heap.size+3:=fun h e=>by
     unfold IntB at h
     rw [e,d3] at h
     simp at h
    have hpl1:∀ {g m:Nat},IntB w4 g (risL m)→∀ (u v z:Value),PlAt (((w6.setCell ⟨w.heap.size+3,0,none⟩ u).setCell ⟨w.heap.size+3,1,none⟩ v).setCell ⟨w.heap.size+3,2,none⟩ z) (some ⟨g,0,none⟩) m (risL m):=fun {g m} h u v z=>by
     have h6:=h.later hB46
     have h7:=IntB.pl (show IntB _ g (risL m) from (hgt u v z g (hne h6)).trans h6)
     rw [risL_len] at h7
     exact h7
    refine ⟨⟨some ⟨g1,0,none⟩,m1,some ⟨g2,0,none⟩,m2,some ⟨y5.heap.size,0,none⟩,m1,zz,by rw [risL_len,risL_len,hzl];rfl,hpl1 HI1.out _ _ _,hpl1 HI2.out _ _ _,hZ _ (by simp) fun b hb _=>hgt _ _ _ b ?_,hlz⟩,below_tri (onB HB0.out hW6) (by omega)⟩
    have h4:=(HK.out w4 HW4.out).2.2.2.2
    have h5:=hB45.size
    omega
   rw [hU] at t0 t1 t2
   clear hB46 hW6 d3 hZ hlz hzl htab
   go_wp2_with fail
   exact bodyPost_ret (v:=.tuple #[.agg #[.slice (some ⟨g1,0,none⟩) m1 m1,.slice (some ⟨g2,0,none⟩) m2 m2,.slice (some ⟨y5.heap.size,0,none⟩) m1 m1],.nilIface]) (by simp [results,Tryz.results7,go_sem,t0,t1,t2]) rfl HEnd.out
end Go.Proofs.YtnegjdcedhnjdaaGreatDoor
