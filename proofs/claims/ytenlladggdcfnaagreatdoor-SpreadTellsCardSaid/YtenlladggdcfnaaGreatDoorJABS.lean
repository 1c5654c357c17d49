/-
  The document's own Spread.
-/
import Derived.Test.YtenlladggdcfnaaGreatDoorJABR
namespace Go.Proofs.YtenlladggdcfnaaGreatDoor
open Go Go.ChangeShapes Go.WideShapes Go.ChangeAt Go.RowKit Go.Shelf Go.Lib Go.Sort
set_option maxRecDepth 100000
def RTo (D:Nat→Dm) (n:Nat) (l:List En) (p:List Int) (N:Int) (w:World) (e:Ending) (w':World):Prop :=
 ∃ A' c' zs,e=.returned (.tuple #[.slice A' zs.length c',.int .i64 (toE D n l p N)])∧EdsV w' A' c' zs∧ToO D n l p N (lD zs)∧Below w.heap.size w w'
theorem rto_bad {D:Nat→Dm} {n:Nat} {l:List En} {p:List Int} {N:Int} {w w':World} {c:Int} (hc:c≠0) (h:toE D n l p N=c) (hB:Below w.heap.size w w'):RTo D n l p N w (.returned (.tuple #[.slice none 0 0,.int .i64 c])) w' :=
 ⟨none,0,[],by rw [h];rfl,⟨Nat.le_refl _,by decide,Or.inl rfl⟩,by unfold ToO;rw [if_neg (by rw [h];exact hc)];rfl,hB⟩
theorem wn_get {D:Nat→Dm} {n:Nat} {l:List En} {q:List Int} (h:Ens D n l) (hq:InO D n q):wnV D n (wrV D n l) q=(getE l q).2:=by
 have hb:=numI_bound hq (Nat.le_refl n)
 unfold wnV
 rw [wr_rwL h]
 unfold rwL
 rw [List.getD_eq_getElem?_getD,List.getElem?_map,List.getElem?_range (by omega)]
 simp only [Option.map_some,Option.getD_some]
 rw [place_num hq]
theorem any_step {W:List Int} {j:Nat} (hj:j<W.length) (f:Int→Bool):(W.take (j+1)).any f=((W.take j).any f || f (W.getD j 0)):=by
 rw [List.take_succ_eq_append_getElem hj,List.any_append,List.getD_eq_getElem?_getD,List.getElem?_eq_getElem hj]
 simp
theorem take_step1 {W:List Int} {j:Nat} (hj:j<W.length):(W.take (j+1)).map (Value.int .i64)=(W.take j).map (Value.int .i64) ++ [.int .i64 (W.getD j 0)]:=by
 rw [List.take_succ_eq_append_getElem hj,List.map_append,List.getD_eq_getElem?_getD,List.getElem?_eq_getElem hj];rfl
theorem one_at2 (w:World) (o:Obj) (v:Value) (t:TypeId):∀ j u,([v]:List Value)[j]?=some u→((w.alloc o).alloc (.cells #[v] t)).cell? ((⟨w.heap.size+1,0,none⟩:Addr).add j)=some u:=by
 intro j u hj
 have h:=heap_alloc_new (w.alloc o) (.cells #[v] t)
 rw [World.size_alloc] at h
 rw [plain_add,Lib.cell_of_heap h]
 simpa using hj
theorem keep_two {wr w':World} {a b o:Nat} {u v:Value} (h:a<wr.heap.size∧b<wr.heap.size∧wr.cell? ⟨a,0,none⟩=some u∧wr.cell? ⟨b,o,none⟩=some v) (hB:Below wr.heap.size wr w'):Below wr.heap.size wr w'∧w'.cell? ⟨a,0,none⟩=some u∧w'.cell? ⟨b,o,none⟩=some v :=
 ⟨hB,(hB.cell (p:=⟨a,0,none⟩) h.1).trans h.2.2.1,(hB.cell (p:=⟨b,o,none⟩) h.2.1).trans h.2.2.2⟩
structure LfH (w w3:World) (A0:Option Addr) (n cap:Nat) (D:Nat→Dm) (AE:Option Addr) (lx ce:Nat) (l:List En) (Ap:Option Addr) (lp cp:Nat) (p:List Int) (b o k:Nat) (ys:List PL):Prop where
 len:ys.length=k∧(lfTo D p n).length=k∧(toW D n l p).length=k
 hb:b<w3.heap.size
 cell:∀ j,j<k→w3.cell? ⟨b,o+j,none⟩=some (.slice (ys.getD j noP).A (ys.getD j noP).p.length (ys.getD j noP).c)
 weight:∀ (j:Nat) (w':World),j<k→Below w3.heap.size w3 w'→Calls Tryz.prog 21 #[.agg #[.slice A0 n cap],.slice Ap lp cp,.slice (ys.getD j noP).A (ys.getD j noP).p.length (ys.getD j noP).c] w' fun e w''=>e=.returned (.tuple #[.int .i64 (pwTo D p (ys.getD j noP).p n),.bool (inTo D p (ys.getD j noP).p n)])∧Below w'.heap.size w' w''
 input:∀ (j:Nat) (w':World),j<k→Below w3.heap.size w3 w'→Calls Tryz.prog 22 #[.slice AE lx ce,.slice (ys.getD j noP).A (ys.getD j noP).p.length (ys.getD j noP).c] w' fun e w''=>e=.returned (.agg #[.int .i64 (getE l (ys.getD j noP).p).1,.int .i64 ((toW D n l p).getD j 0)])∧Below w'.heap.size w' w''
 ones:∀ j,j<k→clB D n p ((lfTo D p n).take (j+1))=(clB D n p ((lfTo D p n).take j) || decide (pwTo D p (ys.getD j noP).p n≠1))
 one:∀ j,j<k→pwTo D p (ys.getD j noP).p n≠1→clB D n p (lfTo D p n)=true
 plty:∀ j,j<k→PlTy w3 (ys.getD j noP).A (ys.getD j noP).c (ys.getD j noP).p
 at':∀ j,j<k→(lfTo D p n).getD j []=(ys.getD j noP).p
theorem lfh_of {w w3:World} {A0:Option Addr} {n cap:Nat} {D:Nat→Dm} {A:Nat→Option Addr} {C:Nat→Nat} {AE:Option Addr} {ce:Nat} {xs:List EnL} {Ap:Option Addr} {cp:Nat} {p:List Int} {b o cy k:Nat} {ys:List PL}
  (hM:DimsV w3 A0 cap n D A C) (hE:EnsV w3 AE ce xs) (hP:PlAt w3 Ap cp p) (hp:InO D n p) (hEs:Ens D n (lE xs)) (hY:PlsV w3 (some ⟨b,o,none⟩) cy ys) (hl:lP ys=lfTo D p n) (hk:ys.length=k) (h0:0<k) :
  LfH w w3 A0 n cap D AE xs.length ce (lE xs) Ap p.length cp p b o k ys:=by
 have hlen:(lfTo D p n).length=k:=by rw [←hl,lP_len,hk]
 have hmem:∀ j,j<k→(ys.getD j noP).p∈lfTo D p n∧ys.getD j noP∈ys:=fun j hj=>by
  have hm:ys.getD j noP∈ys:=pl_mem (by omega)
  exact ⟨by rw [←hl];exact List.mem_map.2 ⟨_,hm,rfl⟩,hm⟩
 have hat:∀ j,j<k→(lfTo D p n).getD j []=(ys.getD j noP).p:=fun j hj=>by rw [←hl,lP_at]
 have hones:∀ j,j<k→clB D n p ((lfTo D p n).take (j+1))=(clB D n p ((lfTo D p n).take j) || decide (pwTo D p (ys.getD j noP).p n≠1)):=fun j hj=>by
  have hj2:j<(lfTo D p n).length:=by rw [hlen];exact hj
  unfold clB
  rw [List.take_succ_eq_append_getElem hj2,List.any_append]
  congr 1
  have:=hat j hj
  rw [List.getD_eq_getElem?_getD,List.getElem?_eq_getElem hj2] at this
  simp only [Option.getD_some] at this
  simp [this]
 obtain ⟨-,hy0 | ⟨b',o',e1,hb,hX⟩,hT⟩:=hY
 ·rw [hy0] at hk;simp at hk;omega
 simp only [Option.some.injEq,Addr.mk.injEq,and_true] at e1
 obtain ⟨rfl,rfl⟩:=e1
 refine ⟨⟨hk,hlen,by unfold toW;rw [List.length_map,hlen]⟩,hb,fun j hj=>hX j (by omega),fun j w' hj hB=>?_,fun j w' hj hB=>?_,hones,fun j hj h=>?_,fun j hj=>(by
  rcases hT _ (hmem j hj).2 with ⟨h1,h2,h3⟩ | ⟨-,h⟩
  ·rw [h3];exact PlTy.nil _ _ _
  ·exact h),hat⟩
 ·exact rpw_any A0 cap n D A C Ap cp p _ _ _ w' hp (lf_in hp.right (hmem j hj).1).1 (hM.later hB) (hP.later hB) ((hT _ (hmem j hj).2).pl.later hB)
 ·have hq:=(lf_in hp.right (hmem j hj).1).1
  have:=rinput_any AE ce xs (ys.getD j noP).A (ys.getD j noP).c (ys.getD j noP).p w' (few_of hEs) (hE.later hB) (short_of hEs hq) ((hT _ (hmem j hj).2).pl.later hB)
  have e:(toW D n (lE xs) p).getD j 0=(getE (lE xs) (ys.getD j noP).p).2:=by
   unfold toW
   have hj2:j<(lfTo D p n).length:=by omega
   have h2:=hat j hj
   rw [List.getD_eq_getElem?_getD,List.getElem?_eq_getElem hj2] at h2
   simp only [Option.getD_some] at h2
   rw [List.getD_eq_getElem?_getD,List.getElem?_map,List.getElem?_eq_getElem hj2]
   simp only [Option.map_some,Option.getD_some]
   rw [h2,wn_get hEs hq]
  rw [e];exact this
 ·have h1:clB D n p ((lfTo D p n).take (j+1))=true:=by rw [hones j hj,decide_eq_true h,Bool.or_true]
  unfold clB at h1 ⊢
  obtain ⟨x,hx,e⟩:=List.any_eq_true.1 h1
  exact List.any_eq_true.2 ⟨x,List.mem_of_mem_take hx,e⟩
theorem zl_step (zs:Nat→EdL) (j:Nat):cellsX ((List.range (j+1)).map zs)=cellsX ((List.range j).map zs) ++ [.slice (zs j).A (zs j).x.pl.length (zs j).c,.int .i64 (zs j).x.n,.bool (zs j).x.clear]:=by
 rw [List.range_succ,List.map_append,cellsX_append];rfl
theorem zl_len (zs:Nat→EdL) (j:Nat):((List.range j).map zs).length=j:=by simp
def zsF (ys:List PL) (L:List Int) (i:Nat):EdL:=⟨⟨(ys.getD i noP).p,L.getD i 0,false⟩,(ys.getD i noP).A,(ys.getD i noP).c⟩
set_option maxHeartbeats 16000000 in
theorem rspread_any (A0:Option Addr) (cap n:Nat) (D:Nat→Dm) (A:Nat→Option Addr) (C:Nat→Nat) (AE:Option Addr) (ce:Nat) (xs:List EnL) (Ap:Option Addr) (cp:Nat) (p:List Int) (N:Int) (w:World) (hM:DimsV w A0 cap n D A C) (hEn:EnsV w AE ce xs) (hP:PlAt w Ap cp p) :
  Calls Tryz.prog 10 #[.agg #[.slice A0 n cap],.slice AE xs.length ce,.slice Ap p.length cp,.int .i64 N] w (RTo D n (lE xs) p N w):=by
 obtain ⟨W,hW⟩:∃ W,w.alloc (.cells #[.slice A0 n cap] 25)=W:=⟨_,rfl⟩
 have hBW:Below w.heap.size w W:=by rw [←hW];go_grown
 have hA:W.cell? ⟨w.heap.size,0,none⟩=some (.slice A0 n cap):=by rw [←hW];simp
 have l0:w.heap.size<W.heap.size:=by rw [←hW];simp
 have HM:=hid_of hM
 have HE:=hid_of hEn
 have HP:=hid_of hP
 have HBW:=hid_of hBW
 have H1:=hid_of fun w' (hB:Below w.heap.size w w')=>scube_any A0 cap n D A C AE ce xs w' (HM.out.later hB) (HE.out.later hB)
 have HLF:=hid_of fun (w3:World) (hB:Below w.heap.size w w3) (b o cy k:Nat) (ys:List PL)=>lfh_of (w:=w) (w3:=w3) (xs:=xs) (cp:=cp) (p:=p) (b:=b) (o:=o) (cy:=cy) (k:=k) (ys:=ys) (HM.out.later hB) (HE.out.later hB) (HP.out.later hB)
 obtain ⟨lx,hlx⟩:∃ lx,xs.length=lx:=⟨_,rfl⟩
 obtain ⟨lp,hlp⟩:∃ lp,p.length=lp:=⟨_,rfl⟩
 have HLP:=hid_of hlp
 rw [hlx] at H1
 rw [hlx,hlp] at HLF
 rw [hlx,hlp]
 clear hM hEn hP hBW hlx hlp
 go_enter Tryz.func10,Tryz.ntmps10
 go_upto_region 1 with fail
 clear hW
 go_wp2_with fail
 refine (H1.out W HBW.out).mono ?_
 rintro e w1 ⟨rfl,hb1⟩
 have hA1:w1.cell? ⟨w.heap.size,0,none⟩=some (.slice A0 n cap):=(hb1.cell l0).trans hA
 have l1:w.heap.size<w1.heap.size:=Nat.lt_of_lt_of_le l0 hb1.size
 have HB1:Hid (Below w.heap.size w w1):=onB HBW.out hb1
 clear hb1 hA l0 HBW H1
 by_cases k1:cuErr D n (lE xs)≠0
 ·have HF:=hid_of fun w'=>rto_bad (D:=D) (n:=n) (l:=lE xs) (p:=p) (N:=N) (w:=w) (w':=w') k1 (by
   unfold toE cuErr
   unfold cuErr at k1
   by_cases h:(ruErr D n).2.2≠0
   ·rw [if_pos h,if_pos h]
   ·rw [if_neg h,if_neg h];rw [if_neg h] at k1;rw [if_pos k1])
  generalize cuErr D n (lE xs)=c at HF k1 ⊢
  go_wp2_with fail
  go_ret2
  exact HF.out _ HB1.out
 have h1:cuErr D n (lE xs)=0:=by simpa using k1
 obtain ⟨hru,hEs⟩:=cu_parts h1
 have HT:Hid (toE D n (lE xs) p N=if placeErr D n p≠0 then placeErr D n p else if clE D n p≠0 then clE D n p else amE N (toW D n (lE xs) p)):=by
  show _=_
  unfold toE
  rw [if_neg (by simpa using hru),if_neg (by simpa using hEs.ok)]
 have HEs:=hid_of hEs
 have hpe:placeErr D n p=shapeErr D n p:=by unfold placeErr;rw [if_neg (by simpa using hEs.right)]
 have hc2:=rplace_any A0 cap n D A C Ap cp p w1 hEs.right (HM.out.later HB1.out) (HP.out.later HB1.out)
 rw [HLP.out,←hpe] at hc2
 rw [h1]
 clear k1 h1 hru hEs hpe
 go_wp2_with fail
 refine hc2.mono ?_
 rintro e w2 ⟨rfl,hb2⟩
 have hA2:w2.cell? ⟨w.heap.size,0,none⟩=some (.slice A0 n cap):=(hb2.cell l1).trans hA1
 have l2:w.heap.size<w2.heap.size:=Nat.lt_of_lt_of_le l1 hb2.size
 have HB2:Hid (Below w.heap.size w w2):=onB HB1.out hb2
 clear hb2 hA1 l1 HB1 hc2
 by_cases k3:placeErr D n p≠0
 ·have HF:=hid_of fun w'=>rto_bad (D:=D) (n:=n) (l:=lE xs) (p:=p) (N:=N) (w:=w) (w':=w') k3 (by rw [HT.out,if_pos k3])
  generalize placeErr D n p=c at HF k3 ⊢
  go_wp2_with fail
  go_ret2
  exact HF.out _ HB2.out
 have h3:placeErr D n p=0:=by simpa using k3
 have hpi:=inO_of h3
 have HPI:=hid_of hpi
 have HT2:Hid (toE D n (lE xs) p N=if clE D n p≠0 then clE D n p else amE N (toW D n (lE xs) p)):=by show _=_;rw [HT.out,if_neg k3]
 have hc3:=rrlf_any A0 cap n D A C Ap cp p w2 hpi (HM.out.later HB2.out) (HP.out.later HB2.out)
 rw [HLP.out] at hc3
 rw [h3]
 clear k3 h3 hpi HT
 go_wp2_with fail
 refine hc3.mono ?_
 rintro e w3 ⟨⟨Ay,cy,ys,rfl,hY,hl⟩,hb3⟩
 have hA3:w3.cell? ⟨w.heap.size,0,none⟩=some (.slice A0 n cap):=(hb3.cell l2).trans hA2
 have l3:w.heap.size<w3.heap.size:=Nat.lt_of_lt_of_le l2 hb3.size
 have HB3:Hid (Below w.heap.size w w3):=onB HB2.out hb3
 obtain ⟨k,hk⟩:∃ k,ys.length=k:=⟨_,rfl⟩
 have hlen:(lfTo D p n).length=k:=by rw [←hl,lP_len,hk]
 have hk3:k≤3000:=by have:=lfTo_len (D:=D) p n;have:=(allErr_some HPI.out.right).2.2.1;omega
 have HL:=hid_of hl
 have HLEN:=hid_of hlen
 rw [hk]
 clear hb3 hA2 l2 hc3 HB2
 by_cases k4:k=0
 ·have h4:clE D n p=3:=by unfold clE;rw [if_pos (List.eq_nil_of_length_eq_zero (by omega))]
  have HF:=hid_of fun w'=>rto_bad (D:=D) (n:=n) (l:=lE xs) (p:=p) (N:=N) (w:=w) (w':=w') (c:=3) (by decide) (by rw [HT2.out,h4];rfl)
  have hkI:(k:Int)=0:=by omega
  clear h4 hY hl hlen hk
  go_wp2_with fail
  go_ret2
  exact HF.out _ HB3.out
 have hk0:((k:Int) == 0)=false:=by simp;omega
 have hY':=hY
 obtain ⟨-,hy0 | ⟨b,o,rfl,-,-⟩,-⟩:=hY'
 ·rw [hy0] at hk;simp at hk;omega
 have hlf:=HLF.out w3 HB3.out b o cy k ys HPI.out HEs.out hY hl hk (by omega)
 have HK:=hid_of hlf
 have HKP:Hid (0<k):=by show 0<k;omega
 have HCL:Hid (clE D n p=if clB D n p (lfTo D p n)=true then 3 else if 60<k then 4 else 0):=by
  show _=_
  unfold clE
  rw [if_neg (fun h=>k4 (by rw [h] at hlen;exact hlen.symm)),hlen]
 obtain ⟨V,hV⟩:∃ V,toW D n (lE xs) p=V:=⟨_,rfl⟩
 have HVL:Hid (V.length=k):=by rw [←hV];exact hlf.len.2.2
 have HV:=hid_of hV
 obtain ⟨i0,hi0,hz0,hz1,hz2⟩:=info_parts Tryz.infoInt
 clear hY hl hk hlen HLF k4 hlf hV
 go_wp2_with fail
 have HA3:=hid_of hA3
 clear hA3
 go_loopg [12,13,14,15,16,17,18] k (fun gg s12 s13 s14 s15 s16 s17 s18 wr => ∃ (j:Nat),j≤k∧gg=k-j∧s12=.bool ((V.take j).any fun x=>decide (0<x))∧s13=.bool ((V.take j).any fun x=>decide (x<0))∧s15=.int .i64 j∧(∃ x,x=s16)∧(∃ x,x=s17)∧(∃ x,x=s18)∧Hid (wr.ownsRow w3.heap.size 3 1 s14 j ((V.take j).map (Value.int .i64)))∧Hid (clB D n p ((lfTo D p n).take j)=false)∧Hid (Below w3.heap.size w3 wr))
 case atStart=>exact ⟨0,Nat.zero_le _,rfl,rfl,rfl,rfl,⟨_,rfl⟩,⟨_,rfl⟩,⟨_,rfl⟩,World.ownsRow_nil _ _ _ _,rfl,Below.refl _ _⟩
 case round =>
  obtain ⟨j,hjk,rfl,rfl,rfl,rfl,⟨v16,rfl⟩,⟨v17,rfl⟩,⟨v18,rfl⟩,HO,HN,HB⟩:=hrel
  by_cases hlt:j<k
  ·have hjI:(j:Int)<(k:Int):=by omega
   have hA:wr.cell? ⟨w.heap.size,0,none⟩=some (.slice A0 n cap):=(HB.out.cell (p:=⟨w.heap.size,0,none⟩) l3).trans HA3.out
   have c1:wr.cell? ⟨b,o+j,none⟩=some (.slice (ys.getD j noP).A (ys.getD j noP).p.length (ys.getD j noP).c):=by rw [HB.out.cell (by exact HK.out.hb)];exact HK.out.cell j hlt
   have hsz:=HB.out.size
   have hbr:b<wr.heap.size:=Nat.lt_of_lt_of_le HK.out.hb hsz
   have HPw:Hid (∀ w',Below wr.heap.size wr w'→_):=fun w' hB'=>HK.out.weight j w' hlt (onB HB.out hB')
   have HIn:Hid (∀ w',Below wr.heap.size wr w'→_):=fun w' hB'=>HK.out.input j w' hlt (onB HB.out hB')
   rw [HV.out] at HIn
   have s1:=HK.out.ones j hlt
   have s2:=HK.out.one j hlt
   have hjV:j<V.length:=by rw [HVL.out];exact hlt
   have s12:=any_step hjV fun x=>decide (0<x)
   have s13:=any_step hjV fun x=>decide (x<0)
   have s14:=take_step1 hjV
   generalize (getE (lE xs) (ys.getD j noP).p).1=g1 at HIn
   generalize inTo D p (ys.getD j noP).p n=ti at HPw
   generalize pwTo D p (ys.getD j noP).p n=pw at HPw s1 s2
   generalize (ys.getD j noP).p.length=lq at c1 HPw HIn
   generalize (ys.getD j noP).A=Aq at c1 HPw HIn
   generalize (ys.getD j noP).c=cq at c1 HPw HIn
   generalize V.getD j 0=x at HIn s12 s13 s14
   generalize ((V.take j).any fun x=>decide (0<x))=b12 at s12 ⊢
   generalize ((V.take j).any fun x=>decide (x<0))=b13 at s13 ⊢
   have HS12:=hid_of s12
   have HS13:=hid_of s13
   have HS14:=hid_of s14
   have HRd:Hid (w.heap.size<wr.heap.size∧b<wr.heap.size∧wr.cell? ⟨w.heap.size,0,none⟩=some (.slice A0 n cap)∧wr.cell? ⟨b,o+j,none⟩=some (.slice Aq lq cq)):=⟨by omega,hbr,hA,c1⟩
   clear s12 s13 s14 hjV hA c1
   go_upto_region 15 with fail
   go_cut [16,17] from 39 to 79 (fun s16 s17 wx=>s16=.int .i64 pw∧s17=.bool ti∧Hid (Below wr.heap.size wr wx))
   case first =>
    go_region_held3 (fun w'=>Below wr.heap.size wr w'∧w'.cell? ⟨w.heap.size,0,none⟩=some (.slice A0 n cap)∧w'.cell? ⟨b,o+j,none⟩=some (.slice Aq lq cq))
     ((refine keep_two HRd.out ?_;go_grown;done))
     (first | (go_at_call 21;refine (HPw.out _ (by go_grown)).mono ?_;rintro e w4 ⟨rfl,hb4⟩;have hN4:=onB (W0:=wr) (by go_grown) hb4;have hy4:=hN4.size;clear hb4))
    all_goals go_wp2_with fail
    all_goals go_meet
    all_goals exact ⟨rfl,rfl,hid_of (by go_grown)⟩
   case rest =>
   obtain ⟨rfl,rfl,HC⟩:=hcut
   obtain ⟨wd,rfl⟩:∃ wd,wd=wc:=⟨_,rfl⟩
   clear HPw
   by_cases h1:pw=1
   ·subst h1
    have HN2:Hid (clB D n p ((lfTo D p n).take (j+1))=false):=by show _=_;rw [s1,HN.out];rfl
    have c1:wd.cell? ⟨b,o+j,none⟩=some (.slice Aq lq cq):=by rw [HC.out.cell (by exact hbr)];exact HRd.out.2.2.2
    clear s1 s2 HN
    go_wp2_with fail
    refine (HIn.out wd HC.out).mono ?_
    rintro e w4 ⟨rfl,hb4⟩
    have HB4:Hid (Below w3.heap.size w3 w4):=onB HB.out (onB HC.out hb4)
    have hown:w4.ownsRow w3.heap.size 3 1 u14 j ((V.take j).map (Value.int .i64)):=own_later HO.out (onB HC.out hb4)
    have hs4:=HB4.out.size
    have hc4:(w4.alloc (.cells #[.int .i64 g1,.int .i64 x] 58)).cell? ⟨w4.heap.size,1,none⟩=some (.int .i64 x):=(Lib.cell_of_heap (heap_alloc_new w4 _) 1).trans rfl
    have HBA:Hid (Below w3.heap.size w3 (w4.alloc (.cells #[.int .i64 g1,.int .i64 x] 58))):=HB4.out.alloc hs4 _
    clear hb4 c1 HIn HO
    have hown2:=(hown.alloc (.cells #[.int .i64 g1,.int .i64 x] 58))
    have HST:Hid (∀ (v':Value) (w5:World),w5.ownsRow w3.heap.size 3 1 v' (j+1) ((V.take j).map (Value.int .i64) ++ [.int .i64 x])→w5.ownsRow w3.heap.size 3 1 v' (j+1) ((V.take (j+1)).map (Value.int .i64))):=fun v' w5 h=>by rw [HS14.out];exact h
    have HGR:Hid (∀ (w5:World) (o:Obj),((w4.alloc (.cells #[.int .i64 g1,.int .i64 x] 58)).alloc o).grownBy w5 u14.ownBlock→Below w3.heap.size w3 w5):=fun w5 o h=>grown_own HBA.out hown2 h
    clear hown
    cases b12 <;> cases b13
    all_goals
     go_wp2_with (at_builtin;refine wpList_append_own _ rfl _ _ 22 rfl w3.heap.size 3 i0 (.int .i64 0) 1 8 Tryz.underlying22 hi0 hz0 hz1 hz2 rfl (by decide) _ _ _ rfl (hown2.alloc _) ⟨w4.heap.size+1,0,none⟩ 1 1 [.int .i64 x] rfl rfl (one_at2 _ _ _ _) one_one (by unfold maxLen;omega) (by omega) (by simp;omega) ?_)
     intro v' w5 hown' hgrow _
     have HB5:Hid (Below w3.heap.size w3 w5):=HGR.out _ _ hgrow
     have HO5:Hid (w5.ownsRow w3.heap.size 3 1 v' (j+1) ((V.take (j+1)).map (Value.int .i64))):=HST.out _ _ (by rw [List.map_take];exact hown')
     clear hown' hgrow hown2
     go_wp2_with fail
     go_roundg (k-(j+1))
     case measure=>omega
     case rel=>exact ⟨j+1,by omega,rfl,by rw [HS12.out];rfl,by rw [HS13.out];rfl,by go_num,⟨_,rfl⟩,⟨_,rfl⟩,⟨_,rfl⟩,HO5,HN2,HB5⟩
   ·have HF:=hid_of fun w'=>rto_bad (D:=D) (n:=n) (l:=lE xs) (p:=p) (N:=N) (w:=w) (w':=w') (c:=3) (by decide) (by rw [HT2.out,HCL.out,s2 h1];rfl)
    clear s1 s2 HIn
    go_wp2_with fail
    go_ret2
    exact HF.out _ (onB HB3.out (onB HB.out HC.out))
  ·have hje:j=k:=by omega
   subst hje
   have hN:clB D n p (lfTo D p n)=false:=by have:=HN.out;rw [List.take_of_length_le (by rw [HLEN.out];exact Nat.le_refl _)] at this;exact this
   have hVt:V.take j=V:=List.take_of_length_le (by rw [HVL.out];exact Nat.le_refl _)
   have hown:=HO.out
   rw [hVt] at hown ⊢
   have hpl:∃ Aw cw,u14=.slice Aw V.length cw∧PlTy wr Aw cw V:=plty_own (base:=w3.heap.size) (by rw [HVL.out];exact hown)
   obtain ⟨Aw,cw,rfl,hwt⟩:=hpl
   have HW:=hid_of hwt.pl
   rw [HVL.out]
   clear hown hVt HO hwt
   by_cases h60:60<j
   ·have HF:=hid_of fun w'=>rto_bad (D:=D) (n:=n) (l:=lE xs) (p:=p) (N:=N) (w:=w) (w':=w') (c:=4) (by decide) (by rw [HT2.out,HCL.out,hN,if_neg (by decide : ¬ false=true),if_pos h60];rfl)
    have h60I:(j:Int) > 60:=by omega
    clear hN
    go_wp2_with fail
    go_ret2
    exact HF.out _ (onB HB3.out HB.out)
   have h60I : ¬ (j:Int) > 60:=by omega
   have HT3:Hid (toE D n (lE xs) p N=amE N V):=by
    show _=_
    rw [HT2.out,HCL.out,hN,if_neg (by decide : ¬ false=true),if_neg h60,if_neg (by decide),HV.out]
   have hcE:=reven_any N (j:Int) wr
   generalize hb12:(V.any fun x=>decide (0<x))=b12
   generalize hb13:(V.any fun x=>decide (x<0))=b13
   have HAM:Hid (amT V=(b12 && !b13)):=by show _=_;unfold amT;rw [hb12,hb13]
   clear hN HT2 HCL hb12 hb13
   go_wp2_with fail
   refine hcE.mono ?_
   rintro e w5 ⟨A5,c5,rfl,hp5,hb5⟩
   have HB5:Hid (Below w3.heap.size w3 w5):=onB HB.out hb5
   have HW5:Hid (PlAt w5 Aw cw V):=HW.out.later hb5
   have HP5:=hid_of hp5
   clear hb5 hp5 hcE HW HB
   obtain ⟨l5,hl5⟩:∃ l,(evO N (j:Int)).length=l:=⟨_,rfl⟩
   have HL5:=hid_of hl5
   rw [hl5]
   clear hl5
   go_upto_region 25 with fail
   go_cut [94] from 90 to 94 (fun s94 wx=>s94=.bool (amT V)∧wx=w5)
   case first =>
    cases b12 <;> cases b13 <;>
     (go_wp2_with fail
      go_meet
      exact ⟨by rw [HAM.out];rfl,rfl⟩)
   case rest =>
   obtain ⟨rfl,rfl⟩:=hcut
   obtain ⟨wd,rfl⟩:∃ wd,wd=wc:=⟨_,rfl⟩
   go_upto_if 94 with fail
   go_cut [10,19,94] from 95 to 100 (fun s10 s19 s94 wx=>s10=.int .i64 (amE N V)∧(∃ A c L,s19=.slice A L.length c∧Hid (PlAt wx A c L∧AmO N V L))∧(∃ x,x=s94)∧Hid (Below w3.heap.size w3 wx))
   case first =>
    by_cases ht:amT V=true
    ·have hl:=rlike_any N Aw cw V wd HW5.out
     have HE7:Hid (amE N V=lkE N V):=by show _=_;unfold amE;rw [if_pos ht]
     have HO7:Hid (∀ L,LkO N V L→AmO N V L):=fun L h=>by unfold AmO;rw [if_pos ht];exact h
     rw [HVL.out] at hl
     rw [ht]
     clear ht
     go_wp2_with fail
     refine hl.mono ?_
     rintro e w6 ⟨A6,c6,L,rfl,g1,g2,g3⟩
     have HR:Hid (PlAt w6 A6 c6 L∧AmO N V L):=⟨g1,HO7.out L g2⟩
     have HB6:Hid (Below w3.heap.size w3 w6):=onB HB5.out g3
     clear g1 g2 g3 hl
     go_wp2_with fail
     go_meet
     exact ⟨by rw [HE7.out],⟨_,_,L,rfl,HR⟩,⟨_,rfl⟩,HB6⟩
    ·have hE7:amE N V=evE N (j:Int):=by unfold amE;rw [if_neg ht,HVL.out]
     have HR:Hid (PlAt wd A5 c5 (evO N (j:Int))∧AmO N V (evO N (j:Int))):=⟨HP5.out,by unfold AmO;rw [if_neg ht,HVL.out]⟩
     have ht2:amT V=false:=by simpa using ht
     have HE7:=hid_of hE7
     rw [ht2]
     clear ht ht2 hE7
     go_wp2_with fail
     go_meet
     exact ⟨by rw [HE7.out],⟨_,_,_,by rw [HL5.out],HR⟩,⟨_,rfl⟩,HB5⟩
   case rest =>
   obtain ⟨rfl,⟨A6,c6,L,rfl,HL6⟩,⟨v94,rfl⟩,HB6⟩:=hcut
   obtain ⟨w7,rfl⟩:∃ w7,w7=wc:=⟨_,rfl⟩
   by_cases k6:amE N V≠0
   ·have HF:=hid_of fun w'=>rto_bad (D:=D) (n:=n) (l:=lE xs) (p:=p) (N:=N) (w:=w) (w':=w') k6 HT3.out
    generalize amE N V=c at HF k6 ⊢
    generalize L.length=ll
    go_wp2_with fail
    go_ret2
    exact HF.out _ (onB HB3.out HB6.out)
   have h6:amE N V=0:=by simpa using k6
   have hLl:L.length=j:=(HL6.out.2.len h6).trans HVL.out
   have HT0:Hid (toE D n (lE xs) p N=0):=by show _=_;rw [HT3.out,h6]
   have HLL:=hid_of hLl
   rw [h6,hLl]
   clear k6 h6 hLl HT3
   obtain ⟨i1,hi1,hy0,hy1,hy2⟩:=info_parts Tryz.infoEdT
   obtain ⟨-,hL0 | ⟨bs,os,rfl,hbs,hXs⟩⟩:=HL6.out.1
   ·have:=HLL.out;rw [hL0] at this;simp at this;have:=HKP.out;omega
   have hbs7:bs<w7.heap.size:=hbs
   have HXs:=hid_of hXs
   have hszB:=HB6.out.size
   have HSZ:=hid_of hszB
   clear hbs hXs hszB
   go_wp2_with fail
   go_loopg [20,21] j (fun gg s20 s21 wr => ∃ i:Nat,i≤j∧gg=j-i∧s21=.int .i64 i∧Hid (wr.ownsRow w7.heap.size 61 3 s20 i (cellsX ((List.range i).map (zsF ys L))))∧Hid (Below w7.heap.size w7 wr))
   case atStart=>exact ⟨0,Nat.zero_le _,rfl,rfl,World.ownsRow_nil _ _ _ _,Below.refl _ _⟩
   case round =>
    obtain ⟨i,hij,rfl,rfl,HO,HB⟩:=hrel
    by_cases hlt:i<j
    ·have hiI:(i:Int)<(j:Int):=by omega
     have c1:wr.cell? ⟨b,o+i,none⟩=some (.slice (ys.getD i noP).A (ys.getD i noP).p.length (ys.getD i noP).c):=by rw [(onB HB6.out HB.out).cell (by exact HK.out.hb)];exact HK.out.cell i hlt
     have c2:wr.cell? ⟨bs,os+i,none⟩=some (.int .i64 (L.getD i 0)):=by rw [HB.out.cell (by exact hbs7)];exact HXs.out i (by rw [HLL.out];exact hlt)
     have hown:=HO.out
     have hsz:=HB.out.size
     have HST:Hid (cellsX ((List.range (i+1)).map (zsF ys L))=cellsX ((List.range i).map (zsF ys L)) ++ [.slice (ys.getD i noP).A (ys.getD i noP).p.length (ys.getD i noP).c,.int .i64 (L.getD i 0),.bool false]):=zl_step (zsF ys L) i
     generalize (ys.getD i noP).p.length=lq at c1 HST
     generalize (ys.getD i noP).A=Aq at c1 HST
     generalize (ys.getD i noP).c=cq at c1 HST
     generalize L.getD i 0=x at c2 HST
     go_upto_region 33 with fail
     have HST2:Hid (∀ (v':Value) (w6:World),w6.ownsRow w7.heap.size 61 3 v' (i+1) (cellsX ((List.range i).map (zsF ys L)) ++ [.slice Aq lq cq,.int .i64 x,.bool false])→w6.ownsRow w7.heap.size 61 3 v' (i+1) (cellsX ((List.range (i+1)).map (zsF ys L)))):=fun v' w6 h=>by rw [HST.out];exact h
     clear hown
     go_region_law (first
      | (refine step_append_lies _ (by rfl) _ _ _ (by rfl) w7.heap.size 61 i1 _ 3 40 Tryz.underlying38 hi1 hy0 hy1 hy2 rfl (by omega) u20 i (cellsX ((List.range i).map (zsF ys L))) (by rfl) (own_stays HO.out (by go_grown)) ⟨wr.heap.size,0,none⟩ 1 1 [.slice Aq lq cq,.int .i64 x,.bool false] (by rfl) (by rfl) (World.news_of_block (cs := #[.slice Aq lq cq,.int .i64 x,.bool false]) (t:=61) (fr:=(0,0)) (heap_alloc_new _ _)) (by simp [Value.oneCell']) (by omega) (by unfold maxLen;omega) (by omega) (by simp;omega) (wr.heap.size+1) (by simp) ?_;intro gg cg w6 hown6 hgrow hat hlt6))
     all_goals (have HB2:Hid (Below w7.heap.size w7 w6):=(onB HB.out (by go_grown)).grown hgrow (by simp;omega) (fun b hb=>(HO.out.lt b hb).1))
     all_goals (have HO2:=hid_of (HST2.out _ _ hown6))
     all_goals clear hown6 hgrow hat hlt6 c1 c2 HO
     all_goals go_wp2_with fail
     all_goals go_roundg (j-(i+1))
     all_goals first | omega | exact ⟨i+1,by omega,rfl,by go_num,HO2,HB2⟩
    ·have hie:i=j:=by omega
     subst hie
     have hres:RTo D n (lE xs) p N w (.returned (.tuple #[u20,.int .i64 0])) wr:=by
      obtain ⟨A',c',h1,h2⟩:=eds_own (ys:=(List.range i).map (zsF ys L)) (by rw [zl_len];exact HO.out) (fun y hy=>by
       obtain ⟨a,ha,rfl⟩:=List.mem_map.1 hy
       exact (HK.out.plty a (List.mem_range.1 ha)).later (onB HB6.out HB.out))
      refine ⟨A',c',(List.range i).map (zsF ys L),by rw [h1,HT0.out],h2,?_,onB HB3.out (onB HB6.out HB.out)⟩
      unfold ToO
      rw [if_pos HT0.out]
      refine ⟨L,by rw [HV.out];exact HL6.out.2,?_⟩
      unfold lD edL
      rw [List.map_map,HLEN.out]
      refine List.map_congr_left fun a ha=>?_
      rw [HK.out.at' a (List.mem_range.1 ha)];rfl
     have HRES:=hid_of hres
     clear hres
     go_wp2_with fail
     go_ret2
     exact HRES.out
end Go.Proofs.YtenlladggdcfnaaGreatDoor
