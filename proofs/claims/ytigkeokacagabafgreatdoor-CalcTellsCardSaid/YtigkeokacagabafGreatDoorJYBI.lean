/-
  What the document's own Told answers, in whatever memory: the numbers of the places that a place needs, rising.
-/
import Derived.Test.YtigkeokacagabafGreatDoorJYBD
import Derived.Test.YtigkeokacagabafGreatDoorJYBH
namespace Go.Proofs.YtigkeokacagabafGreatDoor
open Go.ChangeShapes Go.WideShapes Go.ChangeAt Go.RowKit
set_option maxRecDepth 20000
def ToldP (D:Nat→Dm) (n:Nat) (p:List Int) (T:List Int):Prop:=T.Pairwise (· < ·)∧T.length≤12∧∀ z,z∈T↔∃ b:Nat,byTo D p n=(b:Int)∧∃ x∈mNd (D b) (p.getD b 0).toNat,z=numI D (p.set b x) n
set_option maxHeartbeats 8000000 in
theorem stold_any (A0:Option Addr) (cap n:Nat) (D:Nat→Dm) (A:Nat→Option Addr) (C:Nat→Nat) (AN:Option Addr) (cN:Nat) (ys:List R2) (Ap:Option Addr) (cp:Nat) (L:List Int) (w:World) (hR:AllR D n) (hI:InO D n L) (hM:DimsV w A0 cap n D A C) (hyl:ys.length=n) (hY:Rows2V w AN cN ys) (hyn:∀ i,i<n→lR (ys.getD i noR2).xs=ndL (D i)) (hP:PlAt w Ap cp L) :
  Calls Tryz.prog 55 #[.agg #[.slice A0 n cap],.slice AN n cN,.slice Ap L.length cp] w fun e w'=>(∃ A' c' T,e=.returned (.slice A' T.length c')∧RiseV w' A' c' T∧ToldP D n L T)∧Below w.heap.size w w':=by
 obtain ⟨hn1,hn4,-,hd⟩:=allErr_some hI.right
 have hnI:(n:Int)≤4:=by omega
 have hl:=hI.len
 have hB0:=ownOut_below w A0 n cap 42
 have hS:=ownOut_size w A0 n cap 42
 have hA:=ownOut_at w A0 n cap 42
 have hby:=sby_any A0 cap n D A C Ap cp L (ownOut w A0 n cap 42) hI (hM.later hB0) (hP.later hB0)
 obtain ⟨W,hW⟩:∃ W,ownOut w A0 n cap 42=W:=⟨_,rfl⟩
 rw [hW] at hB0 hS hA hby
 unfold ownOut at hW
 have HB0:Hid (Below w.heap.size w W):=hB0
 have HM:Hid (DimsV w A0 cap n D A C):=hM
 have HA:Hid (W.cell? ⟨w.heap.size,0,none⟩=some (.slice A0 n cap)):=hA
 have HR:Hid (AllR D n):=hR
 have HI:Hid (InO D n L):=hI
 have HP:Hid (PlAt w Ap cp L):=hP
 have HY:Hid (Rows2V w AN cN ys):=hY
 have HYn:Hid (∀ i,i<n→lR (ys.getD i noR2).xs=ndL (D i)):=hyn
 have HYl:Hid (ys.length=n):=hyl
 have HLn:Hid (L.length=n):=hl
 have HD12:Hid (∀ i,i<n→(D i).n≤12):=fun i hi=>(hd i hi).2
 have hsz:w.heap.size<W.heap.size:=by omega
 rw [hl] at hby ⊢
 clear hM hB0 hR hI hP hY hyn hyl hl hd hS
 rcases by_in D L n with hneg | ⟨b,hb,hbn⟩
 ·have HT:Hid (ToldP D n L []):=⟨List.Pairwise.nil,Nat.zero_le _,fun z=>⟨fun h=>(by cases h),fun ⟨b,h1,_⟩=>(by rw [hneg] at h1;omega)⟩⟩
  rw [hneg] at hby
  clear hneg
  go_enter Tryz.func55,Tryz.ntmps55
  go_wp2_with fail
  refine hby.mono ?_
  rintro e w1 ⟨rfl,hb1⟩
  go_wp2_with fail
  go_ret
  exact ⟨⟨none,0,[],rfl,RiseV.nil _,HT.out⟩,onB HB0.out hb1⟩
 ·rw [hb] at hby
  have HBy:Hid (byTo D L n=(b:Int)):=hb
  have hbI:(b:Int)<(n:Int):=by omega
  have hb0:decide ((b:Int)<0)=false:=decide_eq_false (by omega)
  have hp0:=HI.out.lo b hbn
  have hp1:=HI.out.hi b hbn
  obtain ⟨x,hx⟩:∃ x:Nat,L.getD b 0=(x:Int):=⟨(L.getD b 0).toNat,by omega⟩
  have HX:Hid (L.getD b 0=(x:Int)):=hx
  have hxn:x<(D b).n:=by omega
  clear hb
  go_enter Tryz.func55,Tryz.ntmps55
  go_wp2_with fail
  refine hby.mono ?_
  rintro e w1 ⟨rfl,hb1⟩
  have HB1:Hid (Below W.heap.size W w1):=hb1
  have hBw1:=onB HB0.out hb1
  have HBw1:Hid (Below w.heap.size w w1):=hBw1
  obtain ⟨hcN,hy0 | ⟨g2,rfl,hg2,hc2⟩,hr2⟩:=HY.out.later hBw1
  ·have:=HYl.out;rw [hy0] at this;simp at this;omega
  have cy:=hc2 b (by rw [HYl.out];exact hbn)
  have hry:=hr2 _ (r2_mem (k:=b) (by rw [HYl.out];exact hbn))
  have hrn:=HYn.out b hbn
  rw [HYl.out] at hcN
  have hcNi:(n:Int)≤(cN:Int):=by omega
  have hxl:(ys.getD b noR2).xs.length=(D b).n:=by rw [←lR_len,hrn,ndL_len]
  rw [hxl] at cy
  obtain ⟨hcx,hx0 | ⟨g1,hg1,hgl1,hc1⟩,hr1⟩:=hry
  ·rw [hx0] at hxl;simp at hxl;omega
  have cx:=hc1 x (by omega)
  have hTx:=hr1 _ (rl_mem (k:=x) (by omega))
  have HMx:Hid (((ys.getD b noR2).xs.getD x noR).p=mNd (D b) x):=by show _=_;rw [←lR_at,hrn,ndL_at hxn]
  rw [HMx.out] at cx hTx
  rw [hg1] at cy
  rw [hxl] at hcx
  generalize ((ys.getD b noR2).xs.getD x noR).A=Ax at cx hTx
  generalize ((ys.getD b noR2).xs.getD x noR).c=ccx at cx hTx
  generalize (ys.getD b noR2).c=ccy at cy hcx
  obtain ⟨hcP,hP0 | ⟨bp,op,rfl,hbp,hcp⟩⟩:=HP.out.later hBw1
  ·have:=HLn.out;rw [hP0] at this;simp at this;omega
  have cpb:=hcp b (by rw [HLn.out];exact hbn)
  rw [HX.out] at cpb
  rw [HLn.out] at hcP
  have hcPi:(n:Int)≤(cp:Int):=by omega
  have hxI:(x:Int)<((D b).n:Int):=by omega
  have hcxi:((D b).n:Int)≤(ccy:Int):=by omega
  have hd12:=HD12.out b hbn
  have HTx:Hid (IntT w1 Ax ccx (mNd (D b) x)):=hTx
  have HMl:Hid ((mNd (D b) x).length≤12):=Nat.le_trans (mNd_len (D b) x) hd12
  obtain ⟨m,hm⟩:∃ m,(mNd (D b) x).length=m:=⟨_,rfl⟩
  have HMm:Hid ((mNd (D b) x).length=m):=hm
  rw [hm] at cx HMl
  have hmI:(m:Int)≤12:=by have:=HMl.out;omega
  generalize (D b).n=dn at cy hcx hxI hcxi hd12
  clear hb1 hBw1 hby hc2 hr2 hc1 hr1 hTx hrn hxl hm hW hA
  go_wp2_with fail
  go_quiet (fail)
  obtain ⟨w2,hw2⟩:∃ w2,w1.drewN nq=w2:=⟨_,rfl⟩
  have HB2:Hid (Below w1.heap.size w1 w2):=by rw [←hw2];exact below_drewN (Below.refl _ _) _
  rw [hw2]
  clear hw2 cy cx cpb
  obtain ⟨M,hM⟩:∃ M,mNd (D b) x=M:=⟨_,rfl⟩
  have HMe:Hid (mNd (D b) x=M):=hM
  rw [hM] at HTx HMm
  clear hM
  go_wp2_with fail
  go_loopg [8,10] m (fun g s8 s10 wi => ∃ (t:Nat) (T:List Int) (A8:Option Addr) (c8:Nat),t≤m∧g=m-t∧s10=.int .i64 t∧s8=.slice A8 T.length c8∧RiseV wi A8 c8 T∧Hid (T.Pairwise (· < ·)∧T.length≤t∧∀ z,z∈T↔∃ j,j<t∧z=numI D (L.set b (M.getD j 0)) n)∧Below w2.heap.size w2 wi)
  case atStart=>exact ⟨0,[],none,0,Nat.zero_le _,rfl,rfl,rfl,RiseV.nil _,(⟨List.Pairwise.nil,Nat.le_refl _,fun z=>⟨fun h=>(by cases h),fun ⟨j,hj,_⟩=>absurd hj (Nat.not_lt_zero _)⟩⟩:_∧_∧_),Below.refl _ _⟩
  case round =>
   obtain ⟨t,T,A8,c8,ht,rfl,rfl,rfl,hR8,HT,hBt⟩:=hrel
   have HR8:Hid (RiseV wr A8 c8 T):=hR8
   have HBt:Hid (Below w2.heap.size w2 wr):=hBt
   by_cases htl:t<m
   ·have hti:(t:Int)<(m:Int):=by omega
    have hBW:Below w.heap.size w wr:=onB HBw1.out (onB HB2.out hBt)
    have cw:wr.cell? ⟨w.heap.size,0,none⟩=some (.slice A0 n cap):=((onB HB1.out (onB HB2.out hBt)).cell (p:=⟨w.heap.size,0,none⟩) hsz).trans HA.out
    have hszr:w.heap.size<wr.heap.size:=Nat.lt_of_lt_of_le hsz (onB HB1.out (onB HB2.out hBt)).size
    obtain ⟨hcT,-,hT0 | ⟨bt,cs,fr,rfl,hbt,hct⟩⟩:=(HTx.out.later HB2.out).later hBt
    ·have:=HMm.out;rw [hT0] at this;simp at this;omega
    have ct:=hct t (by rw [HMm.out];exact htl)
    have hbtl:bt<wr.heap.size:=(Array.getElem?_eq_some_iff.1 hbt).1
    rw [HMm.out] at hcT
    have hcTi:(m:Int)≤(ccx:Int):=by omega
    have hyi:=mNd_in (d:=D b) (i:=x) (by rw [HMe.out];exact mem_at (L:=M) (j:=t) (by rw [HMm.out];exact htl))
    have HNx:Hid (∀ z,(z∈T∨z=numI D (L.set b (M.getD t 0)) n)↔∃ j,j<t+1∧z=numI D (L.set b (M.getD j 0)) n):=fun z=>by
     rw [HT.out.2.2 z]
     constructor
     ·rintro (⟨j,hj,e⟩ | e)
      ·exact ⟨j,by omega,e⟩
      ·exact ⟨t,by omega,e⟩
     ·rintro ⟨j,hj,e⟩
      by_cases ej:j=t
      ·rw [ej] at e;exact Or.inr e
      ·exact Or.inl ⟨j,by omega,e⟩
    obtain ⟨y,hy⟩:∃ y,M.getD t 0=y:=⟨_,rfl⟩
    rw [hy] at ct hyi HNx
    have hIn:=inO_set HI.out hbn hyi.1 hyi.2
    have hll:(L.set b y).length=n:=by rw [List.length_set];exact HLn.out
    have HWt:Hid (∀ w',Below wr.heap.size wr w'→Calls Tryz.prog 69 #[.slice (some ⟨bp,op,none⟩) n cp,.int .i64 b,.int .i64 y] w' fun e w''=>(∃ A' c',e=.returned (.slice A' n c')∧PlAt w'' A' c' (L.set b y))∧Below w'.heap.size w' w''):=fun w' hB=>by
     have h:=rwith_any (some ⟨bp,op,none⟩) cp L b y w' (by rw [HLn.out];exact hbn) (by rw [HLn.out];exact hn4) (HP.out.later (onB hBW hB))
     rw [HLn.out] at h
     exact h
    have HNu:Hid (∀ A' c' w',Below wr.heap.size wr w'→PlAt w' A' c' (L.set b y)→Calls Tryz.prog 17 #[.agg #[.slice A0 n cap],.slice A' n c'] w' fun e w''=>e=.returned (.int .i64 (numI D (L.set b y) n))∧Below w'.heap.size w' w''):=fun A' c' w' hB hP'=>by
     have h:=rnumber_any A0 cap n D A C A' c' (L.set b y) w' hIn (HM.out.later (onB hBW hB)) hP'
     rw [hll] at h
     exact h
    obtain ⟨Z,hZ⟩:∃ Z,numI D (L.set b y) n=Z:=⟨_,rfl⟩
    rw [hZ] at HNx HNu
    obtain ⟨tl,htl2⟩:∃ tl,T.length=tl:=⟨_,rfl⟩
    have HPu:Hid (∀ w',Below wr.heap.size wr w'→Calls Tryz.prog 92 #[.slice A8 tl c8,.int .i64 Z] w' fun e w''=>(∃ A' c',e=.returned (.slice A' (putL T Z).length c')∧RiseV w'' A' c' (putL T Z))∧Below w'.heap.size w' w''):=fun w' hB=>by
     rw [←htl2]
     exact put_any A8 c8 T Z w' (by have:=HT.out.2.1;omega) (HR8.out.later hB)
    have HT2:Hid ((putL T Z).Pairwise (· < ·)∧(putL T Z).length≤t+1∧∀ z,z∈putL T Z↔∃ j,j<t+1∧z=numI D (L.set b (M.getD j 0)) n):=⟨put_rise _ _ HT.out.1,Nat.le_trans (put_len _ _) (by have:=HT.out.2.1;omega),fun z=>by rw [put_mem];exact HNx.out z⟩
    rw [htl2]
    clear hR8 hBt hct hbt hy hIn hll hZ htl2 hBW hyi
    have HCw:Hid (∀ w',Below wr.heap.size wr w'→w'.cell? ⟨w.heap.size,0,none⟩=some (.slice A0 n cap)∧w.heap.size<w'.heap.size∧w'.cell? ⟨bt,t,none⟩=some (.int .i64 y)∧bt<w'.heap.size):=fun w' hB=>⟨(hB.cell (p:=⟨w.heap.size,0,none⟩) hszr).trans cw,Nat.lt_of_lt_of_le hszr hB.size,(hB.cell (p:=⟨bt,t,none⟩) hbtl).trans ct,Nat.lt_of_lt_of_le hbtl hB.size⟩
    go_upto_region 9 with fail
    go_region_law ((first
     | (go_simp;refine (HWt.out _ (by go_grown)).mono ?_;rintro e w3 ⟨⟨A3,c3,rfl,hP3⟩,hb3⟩;have hN3:=onB (W0:=wr) (by go_grown) hb3;obtain ⟨cw3,hw3,ct3,ht3⟩:=HCw.out _ hN3;clear hb3)
     | (go_simp;refine (HNu.out _ _ _ (by go_grown) (by first | exact hP3 | exact hP3.later (by go_grown))).mono ?_;rintro e w4 ⟨rfl,hb4⟩;have hN4:=onB (W0:=wr) (by go_grown) hb4;obtain ⟨cw4,hw4,ct4,ht4⟩:=HCw.out _ hN4;clear hb4)
     | (go_simp;refine (HPu.out _ (by go_grown)).mono ?_;rintro e w5 ⟨⟨A5,c5,rfl,hR5⟩,hb5⟩;have hN5:=onB (W0:=wr) (by go_grown) hb5;obtain ⟨cw5,hw5,ct5,ht5⟩:=HCw.out _ hN5;have HR5:=hid_of hR5;have HN5:=hid_of hN5;clear hb5)))
    all_goals clear hP3 hR5 hN3 hN4 hN5
    all_goals go_wp2_with fail
    all_goals go_roundg (m-(t+1))
    all_goals first
     | omega
     | exact ⟨t+1,putL T Z,A5,c5,by omega,rfl,by go_num,rfl,HR5.out,HT2,onB HBt.out HN5.out⟩
     | exact ⟨t+1,putL T Z,A5,c5,by omega,rfl,by go_num,rfl,HR5.out.later (below_drewN (Below.refl _ _) _),HT2,below_drewN (onB HBt.out HN5.out) _⟩
   ·have hte:t=m:=by omega
    subst hte
    have HFin:Hid (ToldP D n L T):=by
     refine ⟨HT.out.1,Nat.le_trans HT.out.2.1 HMl.out,fun z=>?_⟩
     rw [HT.out.2.2 z]
     constructor
     ·rintro ⟨j,hj,e⟩
      refine ⟨b,HBy.out,M.getD j 0,?_,e⟩
      rw [HX.out,Int.toNat_natCast,HMe.out]
      exact mem_at (by rw [HMm.out];exact hj)
     ·rintro ⟨b',h1,y,hy,e⟩
      have hbb:b'=b:=by have:=HBy.out;omega
      subst hbb
      rw [HX.out,Int.toNat_natCast,HMe.out] at hy
      obtain ⟨j,hj,rfl⟩:=List.getElem_of_mem hy
      refine ⟨j,by rw [←HMm.out];exact hj,?_⟩
      rw [List.getD_eq_getElem?_getD,List.getElem?_eq_getElem hj]
      exact e
    clear hR8 hBt
    go_wp2_with fail
    go_ret
    exact ⟨⟨A8,c8,T,rfl,HR8.out,HFin.out⟩,onB HBw1.out (onB HB2.out HBt.out)⟩
end Go.Proofs.YtigkeokacagabafGreatDoor
namespace Go.Proofs.YtigkeokacagabafGreatDoor
set_option maxRecDepth 20000
def nmB (l:List UInt8):ByteArray:=⟨l.toArray⟩
theorem nmB_list (l:List UInt8):(nmB l).data.toList=l:=by simp [nmB]
theorem nmB_back (s:ByteArray):nmB s.data.toList=s:=by unfold nmB;simp
theorem comp_rise (zs:List (List UInt8)) (hs:zs.Pairwise (fun a b=>a≤b)):(Lib.compact zs).Pairwise (fun a b=>a≤b):=by
 unfold Lib.compact
 have hle:∀ i j,i≤j→j<zs.length→zs.toArray[i]!≤zs.toArray[j]! := fun i j hij hj=>by
  rw [getElem!_pos _ i (by simp;omega),getElem!_pos _ j (by simpa using hj)]
  by_cases e:i=j
  ·subst e;exact List.le_refl _
  ·have:=List.pairwise_iff_getElem.1 hs i j (by omega) hj (by omega)
   simpa using this
 have h:∀ m,m≤zs.length→(Lib.compactUpTo zs.toArray m).Pairwise (fun a b=>a≤b)∧∀ x∈Lib.compactUpTo zs.toArray m,∃ j,j<m∧zs.toArray[j]! = x:=by
  intro m
  induction m with
  | zero=>intro _;exact ⟨by simp [Lib.compactUpTo],fun x hx=>by simp [Lib.compactUpTo] at hx⟩
  | succ m ih =>
   intro hm
   obtain ⟨h1,h2⟩:=ih (by omega)
   rw [Lib.compactUpTo_succ]
   refine ⟨?_,fun x hx=>?_⟩
   ·rw [List.pairwise_append]
    refine ⟨h1,by split <;> simp,fun a ha b hb=>?_⟩
    split at hb
    ·rw [List.mem_singleton.1 hb]
     obtain ⟨j,h3,h4⟩:=h2 a ha
     rw [←h4]
     exact hle j m (by omega) (by omega)
    ·cases hb
   ·rcases List.mem_append.1 hx with hx | hx
    ·obtain ⟨j,h3,h4⟩:=h2 x hx
     exact ⟨j,by omega,h4⟩
    ·split at hx
     ·exact ⟨m,by omega,(List.mem_singleton.1 hx).symm⟩
     ·cases hx
 exact (h _ (Nat.le_refl _)).1
theorem refs_rise {l:List Nd} (h:formErr l=0):∀ i j,i<j→j<(refsP l).length→(refsP l).getD i []<(refsP l).getD j []:=by
 intro i j hij hj
 have hnd:=(refs_once h).1
 have hle:(refsP l).Pairwise (fun a b=>a≤b):=by
  unfold refsP
  rw [if_pos h]
  exact comp_rise _ (srt_le _)
 rw [List.getD_eq_getElem?_getD,List.getD_eq_getElem?_getD,List.getElem?_eq_getElem (by omega:i<_),List.getElem?_eq_getElem hj]
 have h1:=List.pairwise_iff_getElem.1 hle i j (by omega) hj hij
 have h2:=List.pairwise_iff_getElem.1 hnd i j (by omega) hj hij
 simp only [Option.getD_some]
 rcases Std.lt_trichotomy (refsP l)[i] (refsP l)[j] with h3 | h3 | h3
 ·exact h3
 ·exact absurd h3 h2
 ·exact absurd (List.le_antisymm h1 (List.le_of_lt h3)) h2
theorem names_down {l:List Nd} (h:formErr l=0):∀ j,1≤j→j<((refsP l).map nmB).length→downS ((refsP l).map nmB) j=false:=by
 intro j h1 hj
 rw [List.length_map] at hj
 have hr:=refs_rise h (j-1) j (by omega) hj
 have e:∀ k,k<(refsP l).length→(((refsP l).map nmB).getD k noS).toList=(refsP l).getD k []:=fun k hk=>by
  rw [List.getD_eq_getElem?_getD,List.getElem?_map,List.getElem?_eq_getElem hk,List.getD_eq_getElem?_getD,List.getElem?_eq_getElem hk]
  simp only [Option.map_some,Option.getD_some]
  rw [ByteArray.toList_eq,nmB_list]
 unfold downS
 rw [e j hj,e (j-1) (by omega),bytesLess_eq,Bool.or_eq_false_iff]
 refine ⟨decide_eq_false fun h3=>?_,?_⟩
 ·exact absurd (List.lt_trans hr h3) (List.lt_irrefl _)
 ·rw [beq_eq_false_iff_ne]
  intro h3
  rw [h3] at hr
  exact absurd hr (List.lt_irrefl _)
theorem form_value {d:Dm} (hd:(dimErr d).2=0) {i:Nat} (hf:(d.mem i).formula.size≠0) (hm:mErr d i=0) (f:Int→Int×Int) (hok:∀ z∈mNd d i,goodC (f z)) :
  valE (prsL (d.mem i).formula) ((refsP (prsL (d.mem i).formula)).map nmB) (((refsP (prsL (d.mem i).formula)).map (whL d)).map f)=0∧valC (prsL (d.mem i).formula) ((refsP (prsL (d.mem i).formula)).map nmB) (((refsP (prsL (d.mem i).formula)).map (whL d)).map f)=oneV d f i:=by
 have hpe:=mErr_prsE hf hm
 have hfe:=form_read hpe
 obtain ⟨l,hl⟩:∃ l,prsL (d.mem i).formula=l:=⟨_,rfl⟩
 have hmem:∀ x,x∈refsP l↔x∈nmsOf d i:=fun x=>by
  rw [(refs_once (by rw [←hl];exact hfe)).2 x]
  unfold nmsOf
  rw [hl]
 have htre:treF d i=treeOf l (l.length-1):=by unfold treF;rw [hl]
 have htn:∀ s∈refsT (treeOf l (l.length-1)),s.data.toList∈refsP l:=fun s hs=>(hmem _).2 (tre_names hpe (by rw [htre];exact hs))
 rw [hl] at hfe ⊢
 have hck:ckErr ((refsP l).map nmB) (((refsP l).map (whL d)).map f)=0:=by
  refine ck_good (by simp) (fun j hj=>?_) (names_down hfe)
  simp only [List.length_map] at hj
  unfold goodB
  have hz:((refsP l).map (whL d))[j]'(by simpa using hj)∈mNd d i:=(need_names hd hf hm _).2 ⟨_,(hmem _).1 (List.getElem_mem hj),by simp⟩
  have hg:=hok _ hz
  unfold goodC at hg
  rw [List.getD_eq_getElem?_getD,List.getElem?_eq_getElem (by simpa using hj)]
  simp only [Option.getD_some,List.getElem_map] at hg ⊢
  rw [hg]
  rfl
 have hwh:∀ s,s.data.toList∈refsP l→∃ k:Nat,whereS ((refsP l).map nmB) s=(k:Int)∧k<(refsP l).length∧nmB ((refsP l).getD k [])=s:=fun s hs=>by
  rcases where_cases ((refsP l).map nmB) s with ⟨-,h2⟩ | ⟨k,h1,h2,h3⟩
  ·obtain ⟨k,hk,e⟩:=List.getElem_of_mem hs
   refine absurd ?_ (h2 k (by simpa using hk))
   rw [List.getD_eq_getElem?_getD,List.getElem?_map,List.getElem?_eq_getElem hk]
   simp only [Option.map_some,Option.getD_some]
   rw [e,nmB_back]
  ·rw [List.length_map] at h2
   refine ⟨k,h1,h2,?_⟩
   rw [List.getD_eq_getElem?_getD,List.getElem?_map,List.getElem?_eq_getElem h2] at h3
   rw [List.getD_eq_getElem?_getD,List.getElem?_eq_getElem h2]
   exact h3
 have hmiss:missT ((refsP l).map nmB) (treeOf l (l.length-1))=false:=by
  unfold missT
  rw [List.any_eq_false]
  intro s hs
  obtain ⟨k,h1,-,-⟩:=hwh s (htn s hs)
  rw [h1]
  simp
 obtain ⟨e1,e2⟩:=val_all hfe hck
 rw [hmiss] at e1 e2
 refine ⟨e1,e2.trans ?_⟩
 simp only [Bool.false_eq_true,if_false]
 unfold oneV
 rw [if_neg hf,htre]
 refine valG_names _ _ _ _ fun s hs=>?_
 obtain ⟨k,h1,h2,h3⟩:=hwh s (htn s hs)
 unfold refC
 rw [h1,Int.toNat_natCast,List.getD_eq_getElem?_getD,List.getElem?_map,List.getElem?_map,List.getElem?_eq_getElem h2]
 simp only [Option.map_some,Option.getD_some]
 rw [←h3,nmB_list,List.getD_eq_getElem?_getD,List.getElem?_eq_getElem h2]
 rfl
theorem parts_value {d:Dm} {i:Nat} (hf:(d.mem i).formula.size=0) (f:Int→Int×Int):partsV d.mem f (mNd d i)=oneV d f i:=by
 unfold partsV oneV
 rw [if_pos hf,←parts_need hf]
 have hall:∀ (P:List Int) (c:Int×Int),(P.filter (sgB d)).foldl (partStep d.mem f) c=P.foldl (partStep d.mem f) c:=by
  intro P
  induction P with
  | nil=>intro c;rfl
  | cons x r ih =>
   intro c
   rw [List.filter_cons,List.foldl_cons]
   by_cases hs:sgB d x=true
   ·rw [if_pos hs,List.foldl_cons,ih]
   ·rw [if_neg hs,ih]
    have h0:(d.mem x.toNat).sign=0:=by unfold sgB at hs;simpa using hs
    have e:partStep d.mem f c x=c:=by unfold partStep;rw [if_neg (by omega),if_neg (by omega)]
    rw [e]
 exact hall _ _
theorem good_one {d:Dm} (hd:(dimErr d).2=0) {i:Nat} (hm:mErr d i=0) (f:Int→Int×Int) (hok:∀ z∈mNd d i,goodC (f z)):goodC (oneV d f i):=by
 by_cases hf:(d.mem i).formula.size=0
 ·rw [←parts_value hf]
  exact good_parts _ _ _
 ·have hpe:=mErr_prsE hf hm
  unfold oneV
  rw [if_neg hf]
  have hall:∀ t:Tre,(∀ s∈refsT t,goodC (f (whL d s.data.toList)))→goodC (valG (fun s=>f (whL d s.data.toList)) t):=by
   intro t
   induction t with
   | num n=>intro _;exact good_ofP n
   | ref s=>intro h;exact h s (by simp [refsT])
   | bin o a b _ _=>intro _;exact opP_ok o _ _
  exact hall _ fun s hs=>hok _ ((need_names hd hf hm _).2 ⟨_,tre_names hpe hs,rfl⟩)
theorem good_sol {D:Nat→Dm} {n:Nat} (hR:AllR D n) {inp:List Int→Int×Int} (hg:∀ p,goodC (inp p)):∀ (m:Nat) (p:List Int),InO D n p→msrTo D p n<m→goodC (solV D n inp p):=by
 intro m
 induction m with
 | zero=>intro p _ h;omega
 | succ m ih =>
  intro p hp hm
  rcases by_in D p n with h | ⟨b,h1,h2⟩
  ·rw [sol_leaf inp (by omega)]
   exact hg p
  ·rw [sol_by hR inp hp h1]
   obtain ⟨hd,hme,-,-⟩:=rErr_right (hR b h2)
   have hp0:=hp.lo b h2
   have hp1:=hp.hi b h2
   refine good_one hd (hme _ (by omega)) _ fun z hz=>?_
   have hxi:=mNd_in hz
   have hrk:=rk_less (hR b h2) (i:=(p.getD b 0).toNat) (by omega) hz
   rw [Int.toNat_of_nonneg hp0] at hrk
   have hms:=(msr_less (by rw [hp.len];exact h2) hrk n).2 h2
   exact ih _ (inO_set hp h2 hxi.1 hxi.2) (by omega)
end Go.Proofs.YtigkeokacagabafGreatDoor
