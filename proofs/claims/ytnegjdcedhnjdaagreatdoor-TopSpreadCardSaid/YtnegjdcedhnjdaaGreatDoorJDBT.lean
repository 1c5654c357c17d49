/-
  ROWS FOR COLUMNS: the walk of tallylaw3.GridTurns.
-/
import Derived.Test.YtnegjdcedhnjdaaGreatDoorShelfJ
import Derived.Test.YtnegjdcedhnjdaaGreatDoorJDBR
import Derived.Test.YtnegjdcedhnjdaaGreatDoorJDBS
namespace Go.Proofs.YtnegjdcedhnjdaaGreatDoor
open Go.ChangeShapes Go.WideShapes Go.ChangeAt Go.RowKit
set_option maxRecDepth 20000
section
variable {D:Nat→Dm} {n:Nat} {l:List En} {p:List Int} {i k:Nat}
theorem mk_all (h:mkE D n l p (i:Int) (k:Int)=0):mkR D n l p i k=risL (D i).n∧mkC D n l p i k=risL (D k).n∧mkZ D n l p i k=tab (mkF D n l p i k) (D i).n (D k).n:=by
 unfold mkR mkC mkZ
 rw [if_pos h,if_pos h,if_pos h]
 simp
theorem set_self {L:List Int} {j:Nat} {x:Int} (h:L.getD j 0=x) (hj:j<L.length):L.set j x=L:=by
 refine List.ext_getElem (by simp) fun m h1 h2=>?_
 rw [List.getElem_set]
 by_cases e:j=m
 ·subst e
  rw [if_pos rfl,←h]
  simp [List.getD,hj]
 ·rw [if_neg e]
theorem mk_self (h:cuErr D n l=0) (hp:placeErr D n p=0) {a b:Nat} (ha:p.getD i 0=a) (hb:p.getD k 0=b) (hi:i<n) (hk:k<n):mkF D n l p i k a b=soV D n l p∧soErr D n l p=0:=by
 have hI:=inO_of hp
 have e0:soErr D n l p=0:=by unfold soErr;rw [if_neg (by simpa using h)];exact hp
 refine ⟨?_,e0⟩
 have hbd:=numI_bound hI (Nat.le_refl n)
 unfold mkF soV
 simp only [Int.toNat_natCast]
 rw [if_pos e0,set_self ha (by rw [hI.len];exact hi),set_self hb (by rw [hI.len];exact hk),caL_at h (by omega),place_num hI]
end
end Go.Proofs.YtnegjdcedhnjdaaGreatDoor
namespace Go.Proofs.YtnegjdcedhnjdaaGreatDoor
open Go Go.ChangeShapes Go.WideShapes Go.ChangeAt Go.RowKit
set_option maxRecDepth 100000
theorem empty_str {s:ByteArray} (h:s.size=0):s=⟨#[]⟩:=by
 cases s with
 | mk d =>
  have:d.size=0:=h
  rw [Array.eq_empty_of_size_eq_zero this]
theorem grid_at {D:Nat→Dm} {n:Nat} {l:List En} {p:List Int} {N:Int} {i k:Nat} (hru:(ruErr D n).2.2=0) (hl:Ens D n l) (hp:placeErr D n p=0) (hf:∀ i,i<n→∀ k,k<(D i).n→((D i).mem k).formula.size=0) (hr:rollV D n l p=(1,N)) (hi:i<n) (hk:k<n) :
  mkF D n l p i k (p.getD i 0).toNat (p.getD k 0).toNat=(1,N):=by
 have hI:=inO_of hp
 have h1:=hI.lo i hi
 have h2:=hI.lo k hk
 obtain ⟨e1,e2⟩:=mk_self (i:=i) (k:=k) (a:=(p.getD i 0).toNat) (b:=(p.getD k 0).toNat) (cu_right hru hl) hp (by omega) (by omega) hi hk
 rw [e1]
 obtain ⟨-,hR⟩:=ru_right hru
 unfold soV
 rw [if_pos e2,sol_roll hl hR hf _ _ hI (Nat.lt_succ_self _)]
 exact hr
set_option maxHeartbeats 16000000 in
theorem tspread_law (A0:Option Addr) (cap n:Nat) (D:Nat→Dm) (A:Nat→Option Addr) (C:Nat→Nat) (AE:Option Addr) (ce:Nat) (xs:List EnL) (Ap:Option Addr) (cp:Nat) (p:List Int) (N row col:Int) (w:World) (hM:DimsV w A0 cap n D A C) (hEn:EnsV w AE ce xs) (hP:PlAt w Ap cp p) (hn:n≤9223372036854775807) (hz:∀ i,i<n→(D i).n≤9223372036854775807) :
  Calls Tryz.prog 3 #[.agg #[.slice A0 n cap],.slice AE xs.length ce,.slice Ap p.length cp,.int .i64 N,.int .i64 row,.int .i64 col] w fun e w'=>e=.returned (.bool true)∧Below w.heap.size w w':=by
 have hB0:=ownOut_below w A0 n cap 24
 have hS:=ownOut_size w A0 n cap 24
 have hA:=ownOut_at w A0 n cap 24
 have ht:=topone_any (ownOut w A0 n cap 24)
 obtain ⟨W,hW⟩:∃ W,ownOut w A0 n cap 24=W:=⟨_,rfl⟩
 rw [hW] at hB0 hS hA ht
 unfold ownOut at hW
 have HB0:Hid (Below w.heap.size w W):=hB0
 have hsz:w.heap.size<W.heap.size:=by omega
 have HM:=hid_of hM
 have HEn:=hid_of hEn
 have HP:=hid_of hP
 have HZ:=hid_of hz
 obtain ⟨xl,hxl⟩:∃ xl,xs.length=xl:=⟨_,rfl⟩
 have HXl:=hid_of hxl
 obtain ⟨pl,hpl⟩:∃ pl,p.length=pl:=⟨_,rfl⟩
 have HPl:=hid_of hpl
 rw [hxl,hpl]
 have hnI:(n:Int)≤9223372036854775807:=by omega
 clear hB0 hS hM hEn hP hz hxl hpl
 go_enter Tryz.func3,Tryz.ntmps3
 go_wp2_with fail
 refine ht.mono ?_
 rintro e w1 ⟨rfl,hb1⟩
 have HB1:Hid (Below w.heap.size w w1):=onB HB0.out hb1
 have c1:=(hb1.cell (p:=⟨w.heap.size,0,none⟩) hsz).trans hA
 have hs1:w.heap.size<w1.heap.size:=Nat.lt_of_lt_of_le hsz hb1.size
 clear hb1 ht hA hW HB0
 go_wp2_with fail
 go_loopg [14,15] n (fun gg s14 s15 wr => ∃ i:Nat,i≤n∧gg=n-i∧s14=.int .i64 i∧wr=w1∧Hid (∀ j,j<i→∀ k,k<(D j).n→((D j).mem k).formula.size=0))
 case atStart=>exact ⟨0,Nat.zero_le _,rfl,rfl,rfl,hid_of fun j hj=>absurd hj (Nat.not_lt_zero _)⟩
 case round =>
  obtain ⟨i,hi,rfl,rfl,rfl,HF⟩:=hrel
  obtain ⟨w1,rfl⟩:∃ x:World,x=wr:=⟨_,rfl⟩
  by_cases hlt:i<n
  ·as_aux_lemma =>
   have hii:(i:Int)<(n:Int):=by omega
   obtain ⟨hcap,h0 | ⟨b,o,rfl,hMs⟩⟩:=HM.out.later HB1.out
   ·omega
   have hcapI:(n:Int)≤(cap:Int):=by omega
   have hbr:=hMs.1
   obtain ⟨-,-,d2,hdc,d3⟩:=hMs.2 i hlt
   have hdz:=HZ.out i hlt
   have HMi:=hid_of d3
   obtain ⟨dn,hdn⟩:∃ dn,(D i).n=dn:=⟨_,rfl⟩
   have HDn:=hid_of hdn
   rw [hdn] at d2 hdc hdz
   have hdzI:(dn:Int)≤9223372036854775807:=by omega
   have hdcI:(dn:Int)≤(C i:Int):=by omega
   clear d3 hMs hdn
   go_wp2_with fail
   go_loopg [15] dn (fun gg s15 wr => ∃ k:Nat,k≤dn∧gg=dn-k∧s15=.int .i64 k∧wr=w1∧Hid (∀ m,m<k→((D i).mem m).formula.size=0))
   case atStart=>exact ⟨0,Nat.zero_le _,rfl,rfl,rfl,hid_of fun j hj=>absurd hj (Nat.not_lt_zero _)⟩
   case round =>
    obtain ⟨k,hk,rfl,rfl,rfl,HG⟩:=hrel
    obtain ⟨w1,rfl⟩:∃ x:World,x=wr:=⟨_,rfl⟩
    by_cases hkt:k<dn
    ·have hki:(k:Int)<(dn:Int):=by omega
     obtain h0 | ⟨bm,om,hAi,hMm⟩:=HMi.out
     ·have:=HDn.out;omega
     obtain ⟨-,-,-,f3⟩:=hMm.2 k (by rw [HDn.out];exact hkt)
     have hbm:=hMm.1
     rw [hAi] at d2
     by_cases hf:((D i).mem k).formula.size=0
     ·have he:=empty_str hf
      rw [he] at f3
      have HG2:Hid (∀ m,m<k+1→((D i).mem m).formula.size=0):=fun m hm=>by
       rcases Nat.lt_succ_iff_lt_or_eq.1 hm with h | rfl
       ·exact HG.out m h
       ·exact hf
      clear hMm hf he
      go_wp2_with fail
      go_roundg (dn-(k+1))
      case measure=>omega
      case rel=>exact ⟨k+1,by omega,rfl,by go_num,rfl,HG2⟩
     ·have hneb:((D i).mem k).formula.toList.isEmpty=false:=by rw [empty_same];simpa using hf
      generalize ((D i).mem k).formula=s at f3 hneb
      clear hMm hf
      go_wp2_with fail
      go_ret
      exact ⟨rfl,HB1.out⟩
    ·have hke:k=dn:=by omega
     subst hke
     have HF2:Hid (∀ j,j<i+1→∀ m,m<(D j).n→((D j).mem m).formula.size=0):=fun j hj m hm=>by
      rcases Nat.lt_succ_iff_lt_or_eq.1 hj with h | rfl
      ·exact HF.out j h m hm
      ·exact HG.out m (by rw [←HDn.out];exact hm)
     go_wp2_with fail
     go_roundg (n-(i+1))
     case measure=>omega
     case rel=>exact ⟨i+1,by omega,rfl,by go_num,rfl,HF2⟩
  ·have hie:i=n:=by omega
   subst hie
   have hto:=to_any A0 cap i D A C AE ce xs Ap cp p N w1 (HM.out.later HB1.out) (HEn.out.later HB1.out) (HP.out.later HB1.out)
   rw [HXl.out,HPl.out] at hto
   go_wp2_with fail
   refine hto.mono ?_
   rintro e w2 ⟨A2,c2,zs,rfl,hE2,hO2,hb2⟩
   have c22:=(hb2.cell (p:=⟨w.heap.size,0,none⟩) hs1).trans c1
   have hs2:w.heap.size<w2.heap.size:=Nat.lt_of_lt_of_le hs1 hb2.size
   have HB2:Hid (Below w.heap.size w w2):=onB HB1.out hb2
   clear hb2 hto c1 hs1 HB1
   by_cases k1:toE D i (lE xs) p N≠0
   ·rw [errV_bad k1]
    generalize toE D i (lE xs) p N=c at k1
    generalize zs.length=lz
    clear k1
    go_wp2_with fail
    go_ret
    exact ⟨rfl,HB2.out⟩
   have k2:toE D i (lE xs) p N=0:=by simpa using k1
   obtain ⟨l',m1,m2,m3,m4,m5⟩:=to_sum k2 hO2
   obtain ⟨q1,-,hpi,-,-⟩:=toE_parts k2
   have hc7:=iall_any A0 cap i D A C AE ce xs A2 c2 zs w2 (HM.out.later HB2.out) (HEn.out.later HB2.out) hE2
   rw [m1,HXl.out] at hc7
   rw [k2,show errV 0=.nilIface from rfl]
   have HQ:Hid (Ens D i l'∧rollV D i l' p=(1,N)∧(0≤N∧N≤1000000)∧InO D i p∧(ruErr D i).2.2=0):=⟨m2,m3,⟨m4,m5⟩,hpi,q1⟩
   generalize zs.length=lz at hc7 ⊢
   clear k1 k2 m1 m2 m3 m4 m5 hpi hE2 hO2 q1
   go_wp2_with fail
   refine hc7.mono ?_
   rintro e w3 ⟨⟨A7,c7,ys,rfl,hE7,hl7⟩,hb7⟩
   have c33:=(hb7.cell (p:=⟨w.heap.size,0,none⟩) hs2).trans c22
   have hs3:w.heap.size<w3.heap.size:=Nat.lt_of_lt_of_le hs2 hb7.size
   have HB3:Hid (Below w.heap.size w w3):=onB HB2.out hb7
   have hl7':lE ys=l':=hl7
   have hmk:=gmake_any A0 cap i D A C A7 c7 ys Ap cp p row col w3 (HM.out.later HB3.out) hE7 (HP.out.later HB3.out)
   rw [hl7',HPl.out] at hmk
   rw [show errV ((l',(0:Int),(0:Int)).2.2)=.nilIface from rfl]
   generalize ys.length=ly at hmk ⊢
   clear hb7 c22 hs2 HB2 hl7 hl7' hc7 hE7
   go_wp2_with fail
   refine hmk.mono ?_
   rintro e w4 ⟨⟨Ar,cr,Ac,cc,Ag,cg,zz,rfl,-,-,hz4,hlz⟩,hb4⟩
   have HB4:Hid (Below w.heap.size w w4):=onB HB3.out hb4
   have HZ4:Hid (CssV w4 Ag cg zz∧lZ zz=mkZ D i l' p row col):=⟨hz4,hlz⟩
   clear hb4 c33 hs3 HB3 hmk hz4 hlz
   have hpln:pl=i:=HPl.out.symm.trans HQ.out.2.2.2.1.len
   by_cases k5:mkE D i l' p row col≠0
   ·have hor:row<0∨(¬ row<0∧row ≥ pl)∨(¬ row<0∧¬ row ≥ pl∧col<0)∨(¬ row<0∧¬ row ≥ pl∧¬ col<0∧col ≥ pl)∨(¬ row<0∧¬ row ≥ pl∧¬ col<0∧¬ col ≥ pl∧row=col):=by
     by_cases h1:row<0
     ·exact Or.inl h1
     by_cases h2:row ≥ pl
     ·exact Or.inr (Or.inl ⟨h1,h2⟩)
     by_cases h3:col<0
     ·exact Or.inr (Or.inr (Or.inl ⟨h1,h2,h3⟩))
     by_cases h4:col ≥ pl
     ·exact Or.inr (Or.inr (Or.inr (Or.inl ⟨h1,h2,h3,h4⟩)))
     refine Or.inr (Or.inr (Or.inr (Or.inr ⟨h1,h2,h3,h4,?_⟩)))
     have o1:outI i row=false:=by unfold outI;simp;omega
     have o2:outI i col=false:=by unfold outI;simp;omega
     have:=mkE_in (cu_right HQ.out.2.2.2.2 HQ.out.1) HQ.out.2.2.2.1.ok o1 o2
     by_cases h5:row=col
     ·exact h5
     ·rw [this,if_neg h5] at k5;exact absurd rfl k5
    rw [errV_bad k5]
    generalize mkE D i l' p row col=c at k5
    generalize (mkR D i l' p row col).length=l1
    generalize (mkC D i l' p row col).length=l2
    generalize zz.length=l3
    clear k5
    rcases hor with h1 | ⟨h1,h2⟩ | ⟨h1,h2,h3⟩ | ⟨h1,h2,h3,h4⟩ | ⟨h1,h2,h3,h4,h5⟩
    all_goals
     go_wp2_with fail
     go_ret
     exact ⟨by simp_all,onB HB4.out (by go_grown)⟩
   have k6:mkE D i l' p row col=0:=by simpa using k5
   obtain ⟨-,-,a,b,rfl,rfl,ha,hb,hab⟩:=mkE_right k6
   obtain ⟨e1,e2,e3⟩:=mk_all k6
   obtain ⟨r,hr⟩:∃ r,(p.getD a 0).toNat=r:=⟨_,rfl⟩
   obtain ⟨c,hc⟩:∃ c,(p.getD b 0).toNat=c:=⟨_,rfl⟩
   have hI:=HQ.out.2.2.2.1
   have ra:=hI.lo a ha
   have rb:=hI.hi a ha
   have ca:=hI.lo b hb
   have cb:=hI.hi b hb
   have hrI:p.getD a 0=(r:Int):=by omega
   have hcI:p.getD b 0=(c:Int):=by omega
   have hat:=grid_at HQ.out.2.2.2.2 HQ.out.1 hI.ok HF.out HQ.out.2.1 ha hb
   rw [hr,hc] at hat
   obtain ⟨m1,hm1⟩:∃ m,(D a).n=m:=⟨_,rfl⟩
   obtain ⟨m2,hm2⟩:∃ m,(D b).n=m:=⟨_,rfl⟩
   have hrm:r<m1:=by omega
   have hcm:c<m2:=by omega
   have hzl:zz.length=m1:=by rw [←lZ_len,HZ4.out.2,e3,tab_len,hm1]
   have hrow:(zz.getD r noCs).L=(List.range m2).map (mkF D i l' p a b r):=by rw [←lZ_at,HZ4.out.2,e3,hm1,hm2,tab_row _ hrm]
   obtain ⟨-,-,hz0 | ⟨bg,og,rfl,hbg,hXg⟩⟩:=HZ4.out.1
   ·rw [hz0] at hzl;simp at hzl;omega
   obtain ⟨g1,-,-,g2⟩:=hXg r (by omega)
   have hrl:(zz.getD r noCs).L.length=m2:=by rw [hrow];simp
   rw [hrl] at g1
   obtain hL0 | ⟨bl,ol,hAl,hbl,hXl⟩:=g2
   ·rw [hL0] at hrl;simp at hrl;omega
   obtain ⟨d1,d2⟩:=hXl c (by omega)
   have hcel:(zz.getD r noCs).L.getD c noC=(1,N):=by rw [hrow,List.getD_eq_getElem?_getD,List.getElem?_map,List.getElem?_range hcm];exact hat
   rw [hcel] at d1 d2
   rw [hAl] at g1
   generalize (zz.getD r noCs).c=cz at g1
   have HD:Hid (bg<w4.heap.size∧bl<w4.heap.size∧w4.cell? ⟨bg,og+r,none⟩=some (.slice (some ⟨bl,ol,none⟩) m2 cz)∧w4.cell? ⟨bl,ol+c*2,none⟩=some (.int .i64 1)∧w4.cell? ⟨bl,ol+c*2+1,none⟩=some (.int .i64 N)):=⟨hbg,hbl,g1,d1,d2⟩
   obtain ⟨-,hp0 | ⟨bp,op,rfl,hbp,hXp⟩⟩:=HP.out
   ·have:=HPl.out;rw [hp0] at this;simp at this;omega
   have pa:w4.cell? ⟨bp,op+a,none⟩=some (.int .i64 r):=by rw [HB4.out.cell (by exact hbp),hXp a (by rw [HPl.out];omega),hrI]
   have pb:w4.cell? ⟨bp,op+b,none⟩=some (.int .i64 c):=by rw [HB4.out.cell (by exact hbp),hXp b (by rw [HPl.out];omega),hcI]
   have hpb:bp<w4.heap.size:=Nat.lt_of_lt_of_le hbp HB4.out.size
   have hN:=HQ.out.2.2.1
   have HOf:Hid (∀ w',Calls Tryz.prog 8 #[.int .i64 N] w' fun e w''=>e=.returned (.agg #[.int .i64 1,.int .i64 N])∧Below w'.heap.size w' w''):=fun w'=>of_in (by omega) (by omega) w'
   have hae:(a:Int)<(pl:Int):=by omega
   have hbe:(b:Int)<(pl:Int):=by omega
   have hrI2:(r:Int)<(m1:Int):=by omega
   have hcI2:(c:Int)<(m2:Int):=by omega
   rw [k6,show errV 0=.nilIface from rfl,hzl]
   generalize (mkR D i l' p (a:Int) (b:Int)).length=l1
   generalize (mkC D i l' p (a:Int) (b:Int)).length=l2
   clear k5 k6 e1 e2 e3 hr hc hI ra rb ca cb hrI hcI hat hm1 hm2 hrm hcm hzl hrow hbg hXg g1 hrl hAl hbl hXl d1 d2 hcel HZ4 hXp hbp HQ
   obtain ⟨y,hy⟩:∃ y,w4.alloc (.cells #[.slice Ar l1 cr,.slice Ac l2 cc,.slice (some ⟨bg,og,none⟩) m1 cg] 43)=y:=⟨_,rfl⟩
   have hBy:Below w4.heap.size w4 y:=by rw [←hy];go_grown
   have hgy:y.heap[w4.heap.size]?=some (.cells #[.slice Ar l1 cr,.slice Ac l2 cc,.slice (some ⟨bg,og,none⟩) m1 cg] 43 (0,0)):=by rw [←hy];exact heap_alloc_new ..
   have HBy:Hid (Below w.heap.size w y):=onB HB4.out hBy
   have pa2:=(hBy.cell (p:=⟨bp,op+a,none⟩) hpb).trans pa
   have pb2:=(hBy.cell (p:=⟨bp,op+b,none⟩) hpb).trans pb
   obtain ⟨q,hq⟩:∃ q,w4.heap.size=q:=⟨_,rfl⟩
   have HK:Hid (∀ w',Below y.heap.size y w'→Below y.heap.size y w'∧w'.cell? ⟨q,2,none⟩=some (.slice (some ⟨bg,og,none⟩) m1 cg)∧w'.cell? ⟨bg,og+r,none⟩=some (.slice (some ⟨bl,ol,none⟩) m2 cz)∧w'.cell? ⟨bl,ol+c*2,none⟩=some (.int .i64 1)∧w'.cell? ⟨bl,ol+c*2+1,none⟩=some (.int .i64 N)):=fun w' hb=>by
    obtain ⟨z1,z2,z3,z4,z5⟩:=HD.out
    have s1:w4.heap.size<y.heap.size:=(Array.getElem?_eq_some_iff.1 hgy).1
    have hb2:Below w4.heap.size w4 w':=onB hBy hb
    refine ⟨hb,?_,(hb2.cell (p:=⟨bg,og+r,none⟩) z1).trans z3,(hb2.cell (p:=⟨bl,ol+c*2,none⟩) z2).trans z4,(hb2.cell (p:=⟨bl,ol+c*2+1,none⟩) z2).trans z5⟩
    rw [←hq]
    exact (hb.cell (p:=⟨w4.heap.size,2,none⟩) s1).trans ((Lib.cell_of_heap hgy 2).trans rfl)
   clear pa pb hpb hBy hgy HB4 HD
   have r0I:(r:Int) ≥ 0:=by omega
   have c0I:(c:Int) ≥ 0:=by omega
   go_upto_region 23 with fail
   go_region_held3 (fun w'=>Below y.heap.size y w'∧w'.cell? ⟨q,2,none⟩=some (.slice (some ⟨bg,og,none⟩) m1 cg)∧w'.cell? ⟨bg,og+r,none⟩=some (.slice (some ⟨bl,ol,none⟩) m2 cz)∧w'.cell? ⟨bl,ol+c*2,none⟩=some (.int .i64 1)∧w'.cell? ⟨bl,ol+c*2+1,none⟩=some (.int .i64 N))
    ((refine HK.out _ ?_;go_grown;done))
    (first | (go_at_call 8;refine (HOf.out _).mono ?_;rintro e w5 ⟨rfl,hb5⟩;have hM5:=onB (W0:=y) (by go_grown) hb5;have hy5:=hM5.size;clear hb5))
   all_goals go_wp2_with fail
   all_goals go_ret
   all_goals exact ⟨by simp,onB HBy.out (by go_grown)⟩
end Go.Proofs.YtnegjdcedhnjdaaGreatDoor
