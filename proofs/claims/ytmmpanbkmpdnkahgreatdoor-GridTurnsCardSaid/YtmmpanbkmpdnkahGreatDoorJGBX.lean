/-
  ROWS FOR COLUMNS: the walk of tallylaw3.GridTurns.
-/
import Derived.Test.YtmmpanbkmpdnkahGreatDoorJGBW
namespace Go.Proofs.YtmmpanbkmpdnkahGreatDoor
open Go.ChangeShapes Go.WideShapes Go.ChangeAt Go.RowKit
set_option maxRecDepth 20000
section
variable {D:Nat→Dm} {n:Nat} {l:List En} {p:List Int} {i k:Nat}
theorem mkF_swap (hne:i≠k) (r c:Nat):mkF D n l p k i c r=mkF D n l p i k r c:=by
 unfold mkF
 simp only [Int.toNat_natCast]
 rw [List.set_comm _ _ (fun e=>hne e.symm)]
theorem mkE_swap (h:mkE D n l p (i:Int) (k:Int)=0):mkE D n l p (k:Int) (i:Int)=0:=by
 obtain ⟨h1,h2,i',k',e1,e2,h3,h4,h5⟩:=mkE_right h
 have e1':i=i':=by omega
 have e2':k=k':=by omega
 subst e1' e2'
 rw [mkE_in h1 h2 (by unfold outI;simp;omega) (by unfold outI;simp;omega),if_neg (by omega)]
theorem set_self {L:List Int} {j:Nat} {x:Int} (h:L.getD j 0=x) (hj:j<L.length):L.set j x=L:=by
 refine List.ext_getElem (by simp) fun m h1 h2=>?_
 rw [List.getElem_set]
 by_cases e:j=m
 ·subst e
  rw [if_pos rfl,←h]
  simp [List.getD,hj]
 ·rw [if_neg e]
theorem mk_self (h:cuErr D n l=0) (hp:placeErr D n p=0) {a b:Nat} (ha:p.getD i 0=a) (hb:p.getD k 0=b) (hi:i<n) (hk:k<n):mkF D n l p i k a b=soV D n l p∧soErr D n l p=0:=by
 have hI:=inO_of hp
 have e0:soErr D n l p=0:=by unfold soErr;rw [if_neg (by simpa using h)];exact hp
 refine ⟨?_,e0⟩
 have hbd:=numI_bound hI (Nat.le_refl n)
 unfold mkF soV
 simp only [Int.toNat_natCast]
 rw [if_pos e0,set_self ha (by rw [hI.len];exact hi),set_self hb (by rw [hI.len];exact hk),caL_at h (by omega),place_num hI]
end
def exZ (A:Option Addr):List CsL:=[⟨[(1,1),(1,2)],A,2⟩]
theorem ex_right (A:Option Addr):gErr ([0]:List Int).length ([0,1]:List Int).length (lZ (exZ A))=0:=by
 show gErr 1 2 [[(1,1),(1,2)]]=0
 decide
theorem of_small (n:Int) (w:World) (h1 : -1000000000000≤n) (h2:n≤1000000000000):Calls Tryz.prog 13 #[.int .i64 n] w fun e w'=>e=.returned (.agg #[.int .i64 1,.int .i64 n])∧Below w.heap.size w w':=by
 have h:=of_any n w
 rw [ofP_in h1 h2] at h
 exact h
set_option maxHeartbeats 16000000 in
theorem gturns_law (A0:Option Addr) (cap n:Nat) (D:Nat→Dm) (A:Nat→Option Addr) (C:Nat→Nat) (AE:Option Addr) (ce:Nat) (xs:List EnL) (Ap:Option Addr) (cp:Nat) (p:List Int) (row col:Int) (w:World) (hM:DimsV w A0 cap n D A C) (hEn:EnsV w AE ce xs) (hP:PlAt w Ap cp p) :
  Calls Tryz.prog 7 #[.agg #[.slice A0 n cap],.slice AE xs.length ce,.slice Ap p.length cp,.int .i64 row,.int .i64 col] w fun e w'=>e=.returned (.bool true)∧Below w.heap.size w w':=by
 have hB0:=ownOut_below w A0 n cap 30
 have hA:=ownOut_at w A0 n cap 30
 have hS:=ownOut_size w A0 n cap 30
 obtain ⟨W,hW⟩:∃ W,ownOut w A0 n cap 30=W:=⟨_,rfl⟩
 rw [hW] at hB0 hA hS
 unfold ownOut at hW
 have HB0:=hid_of hB0
 have HM:=hid_of hM
 have HEn:=hid_of hEn
 have HP:=hid_of hP
 have hs0:w.heap.size<W.heap.size:=by omega
 have HA:Hid (∀ w',Below W.heap.size W w'→w'.cell? ⟨w.heap.size,0,none⟩=some (.slice A0 n cap)∧w.heap.size<w'.heap.size):=fun w' h=>⟨(h.cell (p:=⟨w.heap.size,0,none⟩) hs0).trans hA,Nat.lt_of_lt_of_le hs0 h.size⟩
 obtain ⟨a1,ha1⟩:∃ a1,W.alloc (.cells #[.int .i64 0] 3)=a1:=⟨_,rfl⟩
 have hb1:Below W.heap.size W a1:=by rw [←ha1];go_grown
 have hk1:PB a1 W.heap.size [0]:=by
  refine ⟨#[.int .i64 0],by rw [←ha1];exact heap_alloc_new ..,fun j hj=>?_⟩
  match j,hj with
  | 0,_=>rfl
 obtain ⟨a2,ha2⟩:∃ a2,a1.alloc (.cells #[.int .i64 0,.int .i64 1] 3)=a2:=⟨_,rfl⟩
 have hb2:Below a1.heap.size a1 a2:=by rw [←ha2];go_grown
 have hk2:PB a2 a1.heap.size [0,1]:=by
  refine ⟨#[.int .i64 0,.int .i64 1],by rw [←ha2];exact heap_alloc_new ..,fun j hj=>?_⟩
  match j,hj with
  | 0,_=>rfl
  | 1,_=>rfl
 have HR1:=hid_of ((hk1.same (hb2.block _ hk1.lt)).pl (c:=1) (by simp))
 have HC1:=hid_of (hk2.pl (c:=2) (by simp))
 have HB2:=hid_of (onB hb1 hb2)
 have hof1:=of_small 1 a2 (by omega) (by omega)
 have HOf2:Hid (∀ w',Calls Tryz.prog 13 #[.int .i64 2] w' fun e w''=>e=.returned (.agg #[.int .i64 1,.int .i64 2])∧Below w'.heap.size w' w''):=fun w'=>of_small 2 w' (by omega) (by omega)
 obtain ⟨pl,hpl⟩:∃ pl,p.length=pl:=⟨_,rfl⟩
 have HPl:=hid_of hpl
 obtain ⟨xl,hxl⟩:∃ xl,xs.length=xl:=⟨_,rfl⟩
 have HXl:=hid_of hxl
 rw [hpl,hxl]
 have hs1:W.heap.size<a1.heap.size:=hk1.lt
 clear hB0 hA hS hM hEn hP hb1 hb2 hk1 hk2 hpl hxl
 go_enter Tryz.func7,Tryz.ntmps7
 go_wp2_with fail
 refine hof1.mono ?_
 rintro e a3 ⟨rfl,hb3⟩
 have HB3:=hid_of (onB HB2.out hb3)
 have HR3:=hid_of (HR1.out.later hb3)
 have HC3:=hid_of (HC1.out.later hb3)
 clear hb3 hof1 ha1 ha2
 go_wp2_with fail
 refine (HOf2.out a3).mono ?_
 rintro e a4 ⟨rfl,hb4⟩
 obtain ⟨a5,ha5⟩:∃ a5,a4.alloc (.cells #[.int .i64 1,.int .i64 1,.int .i64 1,.int .i64 2] 40)=a5:=⟨_,rfl⟩
 have hb5:Below a4.heap.size a4 a5:=by rw [←ha5];go_grown
 have hc5:CelB a5 a4.heap.size [(1,1),(1,2)]:=by
  refine ⟨#[.int .i64 1,.int .i64 1,.int .i64 1,.int .i64 2],by rw [←ha5];exact heap_alloc_new ..,fun j hj=>?_⟩
  match j,hj with
  | 0,_=>exact ⟨rfl,rfl⟩
  | 1,_=>exact ⟨rfl,rfl⟩
 obtain ⟨a6,ha6⟩:∃ a6,a5.alloc (.cells #[.slice (some ⟨a4.heap.size,0,none⟩) 2 2] 53)=a6:=⟨_,rfl⟩
 have hb6:Below a5.heap.size a5 a6:=by rw [←ha6];go_grown
 have hk6:a6.heap[a5.heap.size]?=some (.cells #[.slice (some ⟨a4.heap.size,0,none⟩) 2 2] 53 (0,0)):=by rw [←ha6];exact heap_alloc_new ..
 have hz6:CssV a6 (some ⟨a5.heap.size,0,none⟩) 1 (exZ (some ⟨a4.heap.size,0,none⟩)):=by
  refine ⟨by simp [exZ],by omega,Or.inr ⟨a5.heap.size,0,rfl,(Array.getElem?_eq_some_iff.1 hk6).1,fun j hj=>?_⟩⟩
  match j,hj with
  | 0,_=>exact ⟨(Lib.cell_of_heap hk6 0).trans rfl,by show (2:Nat)≤2;omega,by show (2:Nat)≤9223372036854775807;omega,Or.inr ⟨_,_,rfl,(hc5.later hb6).celAt⟩⟩
 obtain ⟨a7,ha7⟩:∃ a7,a6.alloc (.cells #[.slice (some ⟨W.heap.size,0,none⟩) 1 1,.slice (some ⟨a1.heap.size,0,none⟩) 2 2,.slice (some ⟨a5.heap.size,0,none⟩) 1 1] 75)=a7:=⟨_,rfl⟩
 have hb7:Below a6.heap.size a6 a7:=by rw [←ha7];go_grown
 have hg7:GBx a7 a6.heap.size (.slice (some ⟨W.heap.size,0,none⟩) 1 1) (.slice (some ⟨a1.heap.size,0,none⟩) 2 2) (.slice (some ⟨a5.heap.size,0,none⟩) 1 1):=by rw [←ha7];exact GBx.new ..
 have hb47:Below a3.heap.size a3 a7:=onB hb4 (onB hb5 (onB hb6 hb7))
 have HB7:=hid_of (onB HB3.out hb47)
 have htu:=gturn_any (some ⟨W.heap.size,0,none⟩) [0] 1 (some ⟨a1.heap.size,0,none⟩) [0,1] 2 (some ⟨a5.heap.size,0,none⟩) 1 (exZ (some ⟨a4.heap.size,0,none⟩)) a7 (by simp [exZ]) (fun x hx=>by simp [exZ] at hx;subst hx;show (2:Nat)≤1048576;omega) (by simp) (by simp) (HR3.out.later hb47) (HC3.out.later hb47) (hz6.later hb7)
 rw [ex_right,show tuL 0 ([0,1]:List Int)=[0,1] from if_pos rfl,show tuL 0 ([0]:List Int)=[0] from if_pos rfl] at htu
 have HTl:Hid (∀ tz:List CsL,lZ tz=tuZ 0 (lZ (exZ (some ⟨a4.heap.size,0,none⟩))) ([0]:List Int).length ([0,1]:List Int).length→tz.length=2):=fun tz h=>by
  rw [←lZ_len,h]
  unfold tuZ trZ
  rw [if_pos rfl,tab_len]
  rfl
 obtain ⟨g0,g1,g2,g3⟩:=hg7.at
 clear hb4 hb5 hc5 hb6 hk6 hz6 hb7 hg7 hb47 HR1 HC1 HR3 HC3
 go_wp2_with fail
 refine htu.mono ?_
 rintro e w8 ⟨⟨Xr,xr,Xc,xc,Xg,xg,tz,he,-,-,-,hlz⟩,hb8⟩
 rw [HTl.out tz hlz,errV_zero] at he
 subst he
 simp only [List.length_cons,List.length_nil,Nat.zero_add,Nat.reduceAdd]
 obtain ⟨y8,hy8⟩:∃ y8,w8.alloc (.cells #[.slice Xr 2 xr,.slice Xc 1 xc,.slice Xg 2 xg] 75)=y8:=⟨_,rfl⟩
 have hby8:Below w8.heap.size w8 y8:=by rw [←hy8];go_grown
 have hg8:GBx y8 w8.heap.size (.slice Xr 2 xr) (.slice Xc 1 xc) (.slice Xg 2 xg):=by rw [←hy8];exact GBx.new ..
 obtain ⟨x0,x1,x2,x3⟩:=hg8.at
 have HW8:=hid_of (onB HB7.out (onB hb8 hby8))
 obtain ⟨o8,s8⟩:=HA.out y8 HW8.out
 have hmk:=gmake_any A0 cap n D A C AE ce xs Ap cp p row col y8 (HM.out.later (onB HB0.out HW8.out)) (HEn.out.later (onB HB0.out HW8.out)) (HP.out.later (onB HB0.out HW8.out))
 rw [HPl.out,HXl.out] at hmk
 clear hb8 hby8 hg8 htu hlz HTl g0 g1 g2 g3
 go_wp2_with fail
 refine hmk.mono ?_
 rintro e w9 ⟨⟨Ar,cr,Ac,cc,Ag,cg,zz,he,hr1,hc1,hz1,hlz1⟩,hb9⟩
 have HW9:=hid_of (onB HW8.out hb9)
 by_cases hE:mkE D n (lE xs) p row col=0
 case neg =>
  rw [errV_some hE] at he
  subst he
  generalize (mkR D n (lE xs) p row col).length=l1
  generalize (mkC D n (lE xs) p row col).length=l2
  generalize zz.length=l3
  generalize mkE D n (lE xs) p row col=E
  clear hb9 hmk hE hr1 hc1 hz1 hlz1 hy8
  go_wp2_with fail
  go_ret
  exact ⟨rfl,onB HB0.out (onB HW9.out (by go_grown))⟩
 obtain ⟨hcu,hpe,i,k,rfl,rfl,hi,hk,hne⟩:=mkE_right hE
 have hE':=mkE_swap hE
 obtain ⟨er,ec,ez⟩:=mk_all hE
 obtain ⟨er',ec',ez'⟩:=mk_all hE'
 have hgr:=mk_right (l:=lE xs) hcu hpe hi hk
 have hI:=inO_of hpe
 obtain ⟨hn1,hn4,-,hd⟩:=allErr_some hI.right
 obtain ⟨-,hm1⟩:=hd i hi
 obtain ⟨-,hm2⟩:=hd k hk
 have hlo:=hI.lo i hi
 have hhi:=hI.hi i hi
 have klo:=hI.lo k hk
 have khi:=hI.hi k hk
 obtain ⟨a,ha⟩:∃ a:Nat,p.getD i 0=a:=⟨(p.getD i 0).toNat,by omega⟩
 obtain ⟨b,hb⟩:∃ b:Nat,p.getD k 0=b:=⟨(p.getD k 0).toNat,by omega⟩
 obtain ⟨hsf,hse⟩:=mk_self (l:=lE xs) hcu hpe ha hb hi hk
 rw [ha] at hhi
 rw [hb] at khi
 have hsw:tab (mkF D n (lE xs) p k i) (D k).n (D i).n=trZ (tab (mkF D n (lE xs) p i k) (D i).n (D k).n) (D i).n (D k).n:=by
  rw [trZ_tab]
  congr 1
  funext r c
  exact mkF_swap hne c r
 have hat:(((tab (mkF D n (lE xs) p i k) (D i).n (D k).n).getD a []).getD b noC)=soV D n (lE xs) p:=by rw [tab_at _ (by omega) (by omega)];exact hsf
 rw [hE,errV_zero,er,ec,risL_len,risL_len] at he
 rw [er] at hr1
 rw [ec] at hc1
 rw [ez] at hlz1
 rw [hsw] at ez'
 generalize tab (mkF D n (lE xs) p i k) (D i).n (D k).n=Zg at hgr hat hlz1 ez'
 obtain ⟨m1,hm1e⟩:∃ m,(D i).n=m:=⟨_,rfl⟩
 obtain ⟨m2,hm2e⟩:∃ m,(D k).n=m:=⟨_,rfl⟩
 rw [hm1e] at he hr1 hgr ez' ec' hm1 hhi
 rw [hm2e] at he hc1 hgr ez' er' hm2 khi
 obtain ⟨hzl0,hzr0,-⟩:=gErr_right hgr
 have hzl:zz.length=m1:=by rw [←lZ_len,hlz1];exact hzl0
 have hxz:∀ x∈zz,x.L.length≤1048576:=fun x hx=>by
  have:=hzr0 x.L (by rw [←hlz1];exact List.mem_map.2 ⟨x,hx,rfl⟩)
  omega
 have HGr:=hid_of hgr
 have HTr:=hid_of (trZ_right hgr)
 have HTT:=hid_of (trZ_twice hgr)
 have HAt:=hid_of hat
 have HSe:=hid_of hse
 have HMk:Hid (mkE D n (lE xs) p (k:Int) (i:Int)=0∧mkR D n (lE xs) p (k:Int) (i:Int)=risL m2∧mkC D n (lE xs) p (k:Int) (i:Int)=risL m1∧mkZ D n (lE xs) p (k:Int) (i:Int)=trZ Zg m1 m2):=⟨hE',er',ec',ez'⟩
 have HXz:=hid_of hxz
 have HLz:=hid_of hlz1
 have HZl:=hid_of hzl
 have HIl:Hid (p.length=n):=hI.len
 rw [hzl] at he
 subst he
 obtain ⟨y9,hy9⟩:∃ y9,w9.alloc (.cells #[.slice Ar m1 cr,.slice Ac m2 cc,.slice Ag m1 cg] 75)=y9:=⟨_,rfl⟩
 have hby9:Below w9.heap.size w9 y9:=by rw [←hy9];go_grown
 have hg9:GBx y9 w9.heap.size (.slice Ar m1 cr) (.slice Ac m2 cc) (.slice Ag m1 cg):=by rw [←hy9];exact GBx.new ..
 obtain ⟨z0,z1,z2,z3⟩:=hg9.at
 have HG9:=hid_of hg9
 have HWy9:=hid_of (onB HW9.out hby9)
 have HR9:=hid_of (hr1.later hby9)
 have HC9:=hid_of (hc1.later hby9)
 have HZ9:=hid_of (hz1.later hby9)
 have hck:=gcheck_any Ar m1 cr Ac m2 cc Ag cg zz y9 (by omega) hxz HZ9.out
 rw [hlz1,hgr,errV_zero,hzl] at hck
 have hpln:pl=n:=HPl.out.symm.trans hI.len
 have hiI:(i:Int)<(pl:Int):=by omega
 have hkI:(k:Int)<(pl:Int):=by omega
 have HHi:Hid (a<m1∧b<m2):=⟨by omega,by omega⟩
 have HAB:Hid (p.getD i 0=(a:Int)∧p.getD k 0=(b:Int)):=⟨ha,hb⟩
 clear hb9 hmk hE hr1 hc1 hz1 hlz1 hy8 hcu hpe hE' er ec ez er' ec' ez' hgr hI hd hlo hhi klo khi ha hb hsf hse hsw hat hm1e hm2e hzl0 hzr0 hxz hby9 hg9 hpln x0 x1 x2 x3 hzl
 go_wp2_with fail
 refine hck.mono ?_
 rintro e v1 ⟨rfl,hb1⟩
 have HV1:=hid_of (onB HWy9.out hb1)
 obtain ⟨o1,s1⟩:=HA.out v1 HV1.out
 have hmk2:=gmake_any A0 cap n D A C AE ce xs Ap cp p (k:Int) (i:Int) v1 (HM.out.later (onB HB0.out HV1.out)) (HEn.out.later (onB HB0.out HV1.out)) (HP.out.later (onB HB0.out HV1.out))
 rw [HPl.out,HXl.out,HMk.out.1,HMk.out.2.1,HMk.out.2.2.1,HMk.out.2.2.2] at hmk2
 have HG:=hid_of (HG9.out.later hb1)
 have HR:=hid_of (HR9.out.later hb1)
 have HC:=hid_of (HC9.out.later hb1)
 have HZ:=hid_of (HZ9.out.later hb1)
 clear hb1 hck HG9 HR9 HC9 HZ9 hy9 z0 z1 z2 z3
 go_wp2_with fail
 refine hmk2.mono ?_
 rintro e v2 ⟨⟨Br,br,Bc,bc,Bg,bg,yy,he,hr2,hc2,hz2,hlz2⟩,hb2⟩
 have HTl:=hid_of (gErr_right HTr.out).1
 have hyl:yy.length=m2:=by rw [←lZ_len,hlz2];exact HTl.out
 rw [errV_zero,risL_len,risL_len,hyl] at he
 subst he
 obtain ⟨y2,hy2⟩:∃ y2,v2.alloc (.cells #[.slice Br m2 br,.slice Bc m1 bc,.slice Bg m2 bg] 75)=y2:=⟨_,rfl⟩
 have hby2:Below v2.heap.size v2 y2:=by rw [←hy2];go_grown
 have hg2:GBx y2 v2.heap.size (.slice Br m2 br) (.slice Bc m1 bc) (.slice Bg m2 bg):=by rw [←hy2];exact GBx.new ..
 have hbb:=onB hb2 hby2
 have HV2:=hid_of (onB HV1.out hbb)
 have HG2:=hid_of hg2
 have HR2:=hid_of (hr2.later hby2)
 have HC2:=hid_of (hc2.later hby2)
 have HZ2:=hid_of (hz2.later hby2)
 have HL2:=hid_of hlz2
 have HY2:=hid_of hyl
 have HGx:=hid_of (HG.out.later hbb)
 have HRx:=hid_of (HR.out.later hbb)
 have HCx:=hid_of (HC.out.later hbb)
 have HZx:=hid_of (HZ.out.later hbb)
 have hl1:m1≤1048576:=by omega
 have hl2:m2≤1048576:=by omega
 have htu:=gturn_any Ar (risL m1) cr Ac (risL m2) cc Ag cg zz y2 (by rw [HZl.out];exact hl1) HXz.out (by rw [risL_len];exact hl1) (by rw [risL_len];exact hl2) HRx.out HCx.out HZx.out
 rw [risL_len,risL_len,HLz.out,HGr.out,HZl.out,show tuL 0 (risL m2)=risL m2 from if_pos rfl,show tuL 0 (risL m1)=risL m1 from if_pos rfl,show tuZ 0 Zg m1 m2=trZ Zg m1 m2 from if_pos rfl] at htu
 obtain ⟨q0,q1,q2,q3⟩:=HGx.out.at
 clear hb2 hbb hg2 hr2 hc2 hz2 hlz2 hyl hmk2 HG HR HC HZ hby2
 go_wp2_with fail
 refine htu.mono ?_
 rintro e v3 ⟨⟨Tr,tr,Tc,tc,Tg,tg,tz,he,hr3,hc3,hz3,hlz3⟩,hb3⟩
 have htl:tz.length=m2:=by rw [←lZ_len,hlz3];exact HTl.out
 rw [errV_zero,risL_len,risL_len,htl] at he
 subst he
 obtain ⟨y3,hy3⟩:∃ y3,v3.alloc (.cells #[.slice Tr m2 tr,.slice Tc m1 tc,.slice Tg m2 tg] 75)=y3:=⟨_,rfl⟩
 have hby3:Below v3.heap.size v3 y3:=by rw [←hy3];go_grown
 have hg3:GBx y3 v3.heap.size (.slice Tr m2 tr) (.slice Tc m1 tc) (.slice Tg m2 tg):=by rw [←hy3];exact GBx.new ..
 have hbb:=onB hb3 hby3
 have HV3:=hid_of (onB HV2.out hbb)
 have HG3:=hid_of hg3
 have HR3:=hid_of (hr3.later hby3)
 have HC3:=hid_of (hc3.later hby3)
 have HZ3:=hid_of (hz3.later hby3)
 have HL3:=hid_of hlz3
 have HY3:=hid_of htl
 have HG:=hid_of (HGx.out.later hbb)
 have HR:=hid_of (HRx.out.later hbb)
 have HC:=hid_of (HCx.out.later hbb)
 have HZ:=hid_of (HZx.out.later hbb)
 have HGh:=hid_of (HG2.out.later hbb)
 have HRh:=hid_of (HR2.out.later hbb)
 have HCh:=hid_of (HC2.out.later hbb)
 have HZh:=hid_of (HZ2.out.later hbb)
 have HX3:Hid (∀ x∈tz,x.L.length≤1048576):=fun x hx=>by
  have:=(gErr_right HTr.out).2.1 x.L (by rw [←HL3.out];exact List.mem_map.2 ⟨x,hx,rfl⟩)
  omega
 have htu2:=gturn_any Tr (risL m2) tr Tc (risL m1) tc Tg tg tz y3 (by rw [htl];exact hl2) HX3.out (by rw [risL_len];exact hl2) (by rw [risL_len];exact hl1) HR3.out HC3.out HZ3.out
 rw [risL_len,risL_len,hlz3,HTr.out,htl,show tuL 0 (risL m2)=risL m2 from if_pos rfl,show tuL 0 (risL m1)=risL m1 from if_pos rfl,show tuZ 0 (trZ Zg m1 m2) m2 m1=trZ (trZ Zg m1 m2) m2 m1 from if_pos rfl,HTT.out] at htu2
 obtain ⟨q0,q1,q2,q3⟩:=hg3.at
 clear hb3 hbb hg3 hr3 hc3 hz3 hlz3 htl htu HGx HRx HCx HZx HG2 HR2 HC2 HZ2 hby3
 go_wp2_with fail
 refine htu2.mono ?_
 rintro e v4 ⟨⟨Ur,ur,Uc,uc,Ug,ug,uz,he,hr4,hc4,hz4,hlz4⟩,hb4⟩
 have hul:uz.length=m1:=by rw [←lZ_len,hlz4];exact (gErr_right HGr.out).1
 rw [errV_zero,risL_len,risL_len,hul] at he
 subst he
 obtain ⟨y4,hy4⟩:∃ y4,v4.alloc (.cells #[.slice Ur m1 ur,.slice Uc m2 uc,.slice Ug m1 ug] 75)=y4:=⟨_,rfl⟩
 have hby4:Below v4.heap.size v4 y4:=by rw [←hy4];go_grown
 have hg4:GBx y4 v4.heap.size (.slice Ur m1 ur) (.slice Uc m2 uc) (.slice Ug m1 ug):=by rw [←hy4];exact GBx.new ..
 have hbb:=onB hb4 hby4
 have HV4:=hid_of (onB HV3.out hbb)
 have HX4:Hid (∀ x∈uz,x.L.length≤1048576):=fun x hx=>by
  have:=(gErr_right HGr.out).2.1 x.L (by rw [←hlz4];exact List.mem_map.2 ⟨x,hx,rfl⟩)
  omega
 have hsm:=samegrid_any Tr tr Tc tc Tg tg tz Br br Bc bc Bg bg yy (risL m2) (risL m1) y4 (by rw [risL_len];exact hl2) (by rw [risL_len];exact hl1) (by rw [HY3.out];exact hl2) HX3.out (HR3.out.later hbb) (HC3.out.later hbb) (HZ3.out.later hbb) (HRh.out.later hbb) (HCh.out.later hbb) (HZh.out.later hbb) (HL3.out.trans HL2.out.symm)
 rw [risL_len,risL_len,HY3.out,HY2.out] at hsm
 have HSm2:Hid (∀ w',Below y4.heap.size y4 w'→Calls Tryz.prog 33 #[.agg #[.slice Ur m1 ur,.slice Uc m2 uc,.slice Ug m1 ug],.agg #[.slice Ar m1 cr,.slice Ac m2 cc,.slice Ag m1 cg]] w' fun e w''=>e=.returned (.bool true)∧Below w'.heap.size w' w''):=fun w' h=>by
  have h2:=samegrid_any Ur ur Uc uc Ug ug uz Ar cr Ac cc Ag cg zz (risL m1) (risL m2) w' (by rw [risL_len];exact hl1) (by rw [risL_len];exact hl2) (by rw [hul];exact hl1) HX4.out (hr4.later (onB hby4 h)) (hc4.later (onB hby4 h)) (hz4.later (onB hby4 h)) (HR.out.later (onB hbb h)) (HC.out.later (onB hbb h)) (HZ.out.later (onB hbb h)) (hlz4.trans HLz.out.symm)
  rw [risL_len,risL_len,hul,HZl.out] at h2
  exact h2
 have HGt:=hid_of (HG3.out.later hbb)
 have HGh4:=hid_of (HGh.out.later hbb)
 have HG4:=hid_of (HG.out.later hbb)
 have HU4:=hid_of hg4
 have HZg:=hid_of (HZ.out.later hbb)
 obtain ⟨q0,q1,q2,q3⟩:=HGt.out.at
 obtain ⟨r0,r1,r2,r3⟩:=HGh4.out.at
 clear hb4 hbb hg4 hr4 hc4 hz4 hlz4 hul htu2 HG HR HC HZ HGh HRh HCh HZh hby4 HR3 HC3 HZ3 HG3 HX3 HX4
 go_wp2_with fail
 refine hsm.mono ?_
 rintro e v5 ⟨rfl,hb5⟩
 have HV5:=hid_of (onB HV4.out hb5)
 have HG5:=hid_of (HG4.out.later hb5)
 have HZ5:=hid_of (HZg.out.later hb5)
 obtain ⟨q0,q1,q2,q3⟩:=(HU4.out.later hb5).at
 obtain ⟨r0,r1,r2,r3⟩:=HG5.out.at
 have hsm2:=HSm2.out v5 hb5
 clear hb5 hsm HSm2 HG4 HZg HGt HGh4 HU4
 go_wp2_with fail
 refine hsm2.mono ?_
 rintro e v6 ⟨rfl,hb6⟩
 have HV6:=hid_of (onB HV5.out hb6)
 have HG6:=hid_of (HG5.out.later hb6)
 have HZ6:=hid_of (HZ5.out.later hb6)
 obtain ⟨o6,s6⟩:=HA.out v6 HV6.out
 have hvl:=pvalue_any A0 cap n D A C AE ce xs Ap cp p v6 (HM.out.later (onB HB0.out HV6.out)) (HEn.out.later (onB HB0.out HV6.out)) (HP.out.later (onB HB0.out HV6.out))
 rw [HSe.out,errV_zero,←HAt.out,HPl.out,HXl.out] at hvl
 clear hb6 hsm2 HG5 HZ5 q0 q1 q2 q3 r0 r1 r2 r3 o1 s1 o8 s8
 go_wp2_with fail
 refine hvl.mono ?_
 rintro e v7 ⟨rfl,hb7⟩
 have hlz:=HLz.out
 obtain ⟨haM,hbM⟩:=HHi.out
 have haz:a<zz.length:=by rw [HZl.out];exact haM
 have hrow:Zg.getD a []=(zz.getD a noCs).L:=by rw [←hlz];exact lZ_at zz a
 have hrl:(zz.getD a noCs).L.length=m2:=by
  rw [←hrow]
  exact (gErr_right HGr.out).2.1 _ (rowD_mem (by rw [(gErr_right HGr.out).1];exact haM))
 rw [hrow]
 obtain ⟨c1,hc1⟩:∃ c1,((zz.getD a noCs).L.getD b noC).1=c1:=⟨_,rfl⟩
 obtain ⟨c2,hc2⟩:∃ c2,((zz.getD a noCs).L.getD b noC).2=c2:=⟨_,rfl⟩
 rw [hc1,hc2]
 obtain ⟨y7,hy7⟩:∃ y7,v7.alloc (.cells #[.int .i64 c1,.int .i64 c2] 40)=y7:=⟨_,rfl⟩
 have hby7:Below v7.heap.size v7 y7:=by rw [←hy7];go_grown
 have hyb7:y7.heap[v7.heap.size]?=some (.cells #[.int .i64 c1,.int .i64 c2] 40 (0,0)):=by rw [←hy7];exact heap_alloc_new ..
 obtain ⟨t0,t1,-,-⟩:=pair_at hyb7
 have t2:v7.heap.size<y7.heap.size:=(Array.getElem?_eq_some_iff.1 hyb7).1
 have hbb:=onB hb7 hby7
 have HVy:=hid_of (onB HV6.out hbb)
 obtain ⟨r0,r1,r2,r3⟩:=(HG6.out.later hbb).at
 obtain ⟨hcg,-,h0 | ⟨bz,oz,rfl,hbz,hcz⟩⟩:=HZ6.out.later hbb
 ·rw [h0] at haz;simp at haz
 obtain ⟨ez,hv1,-,h0 | ⟨b2,o2,hA2,hAt2⟩⟩:=hcz a haz
 ·rw [h0] at hrl;simp at hrl;omega
 obtain ⟨u0,u1⟩:=hAt2.2 b (by rw [hrl];exact hbM)
 have hb2:=hAt2.1
 rw [hc1] at u0
 rw [hc2] at u1
 rw [hrl,hA2] at ez
 rw [hrl] at hv1
 rw [HZl.out] at hcg
 generalize (zz.getD a noCs).c=c3 at ez hv1
 obtain ⟨hcp,h0 | ⟨bp,op,rfl,hbp,hcl⟩⟩:=HP.out.later (onB HB0.out HVy.out)
 ·have:=HIl.out;rw [h0] at this;simp at this;omega
 have p1:=hcl i (by rw [HIl.out];exact hi)
 have p2:=hcl k (by rw [HIl.out];exact hk)
 rw [HAB.out.1] at p1
 rw [HAB.out.2] at p2
 have haI:(a:Int)<(m1:Int):=by omega
 have hbI:(b:Int)<(m2:Int):=by omega
 rw [HPl.out] at hcp
 have HEnd:=hid_of (onB HB0.out HVy.out)
 clear hb7 hby7 hyb7 hbb hcz hAt2 hcl hvl hlz haM hbM haz hrow hrl hc1 hc2 hA2 HG6 HZ6
 go_wp2_with fail
 go_quiet (fail)
 go_wp2_with fail
 go_ret
 exact ⟨rfl,below_drewN HEnd.out _⟩
end Go.Proofs.YtmmpanbkmpdnkahGreatDoor
