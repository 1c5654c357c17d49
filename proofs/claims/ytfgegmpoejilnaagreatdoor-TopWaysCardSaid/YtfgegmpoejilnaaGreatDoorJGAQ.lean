/-
  What uses and Check of package formula answer, in whatever memory: of any nodes what is wrong with them.
-/
import Derived.Lib.ItoaLen
import Derived.Lib.AppendIntMem
import Derived.Lib.OwnBridge
import Derived.Shelf.Slices.In.SortNone
import Derived.Test.YtfgegmpoejilnaaGreatDoorJGAP
namespace Go.Proofs.YtfgegmpoejilnaaGreatDoor
open Go.ChangeShapes Go.WideShapes Go.ChangeAt Go.RowKit
set_option maxRecDepth 20000
def cntN (l:List Nd) (k j:Nat):Nat:=usedTo l k j+(if j+1=l.length then 1 else 0)
def cntL (l:List Nd) (k:Nat):List Int:=(List.range l.length).map fun j=>(cntN l k j:Int)
section
variable {l:List Nd} {k j a b:Nat}
theorem cntL_len:(cntL l k).length=l.length:=by simp [cntL]
theorem cntL_at (h:j<l.length):(cntL l k).getD j 0=(cntN l k j:Int):=by simp [cntL,List.getD,h]
theorem usedN_le (l:List Nd) (k j:Nat):usedTo l k j≤2*k:=by
 induction k with
 | zero=>exact Nat.le_refl _
 | succ k ih =>
  have:uses (l.getD k noN) j≤2:=by unfold uses;split <;> (try split) <;> (try split) <;> omega
  show usedTo l k j+uses (l.getD k noN) j≤_
  omega
theorem cntN_le (l:List Nd) (k j:Nat):cntN l k j≤2*k+1:=by
 have:=usedN_le l k j
 unfold cntN
 split <;> omega
theorem cntL_zero (h:0<l.length):cntL l 0=(List.replicate l.length (0:Int)).set (l.length-1) 1:=by
 apply List.ext_getElem (by simp [cntL])
 intro j h1 h2
 rw [List.getElem_set]
 simp only [cntL,cntN,usedTo,List.getElem_map,List.getElem_range,List.getElem_replicate]
 by_cases e:l.length-1=j
 ·rw [if_pos (by omega),if_pos e];rfl
 ·rw [if_neg (by omega),if_neg e];rfl
theorem cntL_same (h:(l.getD k noN).op≤2):cntL l (k+1)=cntL l k:=by
 have e:∀ j,cntN l (k+1) j=cntN l k j:=fun j=>by
  show usedTo l k j+uses (l.getD k noN) j+_=usedTo l k j+_
  rw [uses,if_neg (by omega)]
  rfl
 unfold cntL
 simp only [e]
theorem cntL_two (h:2<(l.getD k noN).op) (ha:(l.getD k noN).left=(a:Int)) (hb:(l.getD k noN).right=(b:Int)) (hal:a<l.length) (hbl:b<l.length) :
  ((cntL l k).set a ((cntN l k a:Int)+1)).set b ((((cntL l k).set a ((cntN l k a:Int)+1)).getD b 0)+1)=cntL l (k+1):=by
 apply List.ext_getElem (by simp [cntL])
 intro j h1 h2
 have hj:j<l.length:=by simpa [cntL] using h2
 have e:(cntL l (k+1))[j]=((usedTo l k j+uses (l.getD k noN) j+(if j+1=l.length then 1 else 0):Nat):Int):=by simp only [cntL,cntN,usedTo,List.getElem_map,List.getElem_range]
 have e2:∀ h,(cntL l k)[j]'h=(cntN l k j:Int):=fun h=>by simp only [cntL,List.getElem_map,List.getElem_range]
 have e3:((cntL l k).set a ((cntN l k a:Int)+1)).getD b 0=if a=b then (cntN l k a:Int)+1 else (cntN l k b:Int):=by
  rw [List.getD_eq_getElem?_getD,List.getElem?_set]
  by_cases e:a=b
  ·subst e;simp [cntL_len,hal]
  ·rw [if_neg e,if_neg e,←List.getD_eq_getElem?_getD,cntL_at hbl]
 rw [e,uses,if_pos h,ha,hb,List.getElem_set,List.getElem_set,e2,e3]
 unfold cntN
 by_cases hbj:b=j
 ·subst hbj
  by_cases hab:a=b
  ·subst hab
   simp
   omega
  ·have : ¬ (a:Int)=(b:Int):=by omega
   simp [hab,this]
   omega
 ·have h3 : ¬ (b:Int)=(j:Int):=by omega
  by_cases haj:a=j
  ·subst haj
   simp [hbj,h3]
   omega
  ·have h4 : ¬ (a:Int)=(j:Int):=by omega
   simp [hbj,h3,haj,h4]
theorem nd_sides {x:Nd} {i:Nat} (h:ndErr x i=0) (hop:2<x.op):0≤x.left∧x.left<i∧0≤x.right∧x.right<i:=by
 unfold ndErr at h
 split at h
 ·cases h
 rw [if_neg (by omega),if_neg (by omega)] at h
 split at h
 ·cases h
 ·omega
theorem used_last (hg:∀ j,j<l.length→ndErr (l.getD j noN) j=0):∀ k,k≤l.length→usedTo l k (l.length-1)=0
 | 0,_=>rfl
 | k+1,hk=>by
  have ih:=used_last hg k (by omega)
  show usedTo l k (l.length-1)+uses (l.getD k noN) (l.length-1)=0
  rw [ih]
  unfold uses
  split
  ·rename_i h
   have:=nd_sides (hg k (by omega)) h
   rw [if_neg (by omega),if_neg (by omega)]
  ·rfl
end
theorem NdsAt.nd {w:World} {b o:Nat} {l:List Nd} {k:Nat} (h:NdsAt w b o l) (hk:k<l.length):w.cell? ⟨b,o+k*5,none⟩=some (.int .i64 (l.getD k noN).op)∧w.cell? ⟨b,o+k*5+1,none⟩=some (.int .i64 (l.getD k noN).n)∧w.cell? ⟨b,o+k*5+2,none⟩=some (.string (l.getD k noN).name)∧w.cell? ⟨b,o+k*5+3,none⟩=some (.int .i64 (l.getD k noN).left)∧w.cell? ⟨b,o+k*5+4,none⟩=some (.int .i64 (l.getD k noN).right):=h.2 k hk
set_option maxHeartbeats 4000000 in
theorem uses_any (b o cap:Nat) (l:List Nd) (w:World) (h0:0<l.length) (h30:l.length≤30) (hN:NdsAt w b o l) (hg:∀ j,j<l.length→ndErr (l.getD j noN) j=0) :
  Calls Tryz.prog 154 #[.slice (some ⟨b,o,none⟩) l.length cap] w fun e w'=>(∃ A c,e=.returned (.slice A (cntL l l.length).length c)∧IntsAt w' A c (cntL l l.length))∧Below w.heap.size w w':=by
 have HG:Hid (∀ j,j<l.length→ndErr (l.getD j noN) j=0):=hg
 have HN:Hid (NdsAt w b o l):=hN
 have HLen:Hid ((cntL l l.length).length=l.length):=cntL_len
 have hmk:=run_make_row' (P:=Tryz.prog) 38 3 (.int .i64 0) 8 Tryz.underlying38 Tryz.infoIntP rfl .i64 .i64 l.length (by omega) (by omega)
 have hz:=cntL_zero h0
 obtain ⟨n,hn⟩:∃ n,l.length=n+1:=⟨l.length-1,by omega⟩
 rw [hn] at hmk HLen hz ⊢
 have hni:(n:Int)≤29:=by omega
 have HZ:Hid (cntL l 0=(List.replicate (n+1) (0:Int)).set n 1):=hz
 have hI0:IntB (w.alloc (.cells (madeCells #[.int .i64 0] (n+1)) 3)) w.heap.size (List.replicate (n+1) 0):=IntB.made w (n+1)
 have y0:=hI0.cell (j:=n) (by simp)
 have yf:=hI0.frozen n
 have y0':(List.replicate (n+1) (0:Int)).getD n 0=0:=by simp [List.getD]
 rw [y0'] at y0
 have HI0:Hid (IntB (w.alloc (.cells ((madeCells #[.int .i64 0] (n+1)).setIfInBounds n (.int .i64 1)) 3)) w.heap.size (cntL l 0)):=by
  show IntB _ _ _
  unfold IntB
  rw [hz,heap_alloc_new,made_ints,List.setIfInBounds_toArray,List.map_set]
  rfl
 have hmk':∀ w:World,(Instr.makeSlice 38 (.int .i64 ((n:Int)+1)) (.int .i64 ((n:Int)+1))).run Tryz.prog w=.ok (.slice (some ⟨w.heap.size,0,none⟩) (n+1) (n+1)) (w.alloc (.cells (madeCells #[.int .i64 0] (n+1)) 3)):=hmk
 clear hz hg hN hI0 y0' hmk
 go_enter Tryz.func154,Tryz.ntmps154
 go_wp2_with fail
 go_loopg [19] (n+1) (fun g s19 wr => ∃ (k:Nat),k≤n+1∧g=n+1-k∧s19=.int .i64 k∧IntB wr w.heap.size (cntL l k)∧Below w.heap.size w wr)
 case atStart=>exact ⟨0,Nat.zero_le _,rfl,rfl,HI0.out,by go_grown⟩
 case round =>
  obtain ⟨k,hk,rfl,rfl,hI,hBw⟩:=hrel
  have HI:Hid (IntB wr w.heap.size (cntL l k)):=hI
  have HW:Hid (Below w.heap.size w wr):=hBw
  clear hI hBw
  by_cases hlt:k<n+1
  ·have hki:(k:Int)<(n:Int)+1:=by omega
   obtain ⟨x0,x1,x2,x3,x4⟩:=(HN.out.later HW.out).nd (k:=k) (by omega)
   have hjn:=joins_any (l.getD k noN).op
   have hbl:b<w.heap.size:=HN.out.1
   have hsz:=HW.out.size
   have hIl:=HI.out.lt
   obtain ⟨x,hx⟩:∃ x,l.getD k noN=x:=⟨_,rfl⟩
   have HX:Hid (l.getD k noN=x):=hx
   rw [hx] at x0 x1 x2 x3 x4 hjn
   clear hx
   have HBx:Hid (Below wr.heap.size wr (wr.alloc (.cells #[.int .i64 x.op,.int .i64 x.n,.string x.name,.int .i64 x.left,.int .i64 x.right] 212))):=(Below.refl _ _).alloc (Nat.le_refl _) _
   have hgk:=HG.out k (by omega)
   rw [HX.out] at hgk
   by_cases hj:x.op≠1∧x.op≠2
   ·have hop:2<x.op:=by
     unfold ndErr at hgk
     split at hgk
     ·cases hgk
     ·omega
    obtain ⟨l0,l1,r0,r1⟩:=nd_sides hgk hop
    obtain ⟨a,ha⟩:∃ a:Nat,x.left=a:=⟨x.left.toNat,by omega⟩
    obtain ⟨c,hc2⟩:∃ c:Nat,x.right=c:=⟨x.right.toNat,by omega⟩
    have hal:a<l.length:=by omega
    have hcl:c<l.length:=by omega
    have HT:Hid (((cntL l k).set a ((cntN l k a:Int)+1)).set c ((((cntL l k).set a ((cntN l k a:Int)+1)).getD c 0)+1)=cntL l (k+1)):=cntL_two (by rw [HX.out];exact hop) (by rw [HX.out];exact ha) (by rw [HX.out];exact hc2) hal hcl
    have hle:=cntN_le l k a
    obtain ⟨ca,hca⟩:∃ ca:Nat,cntN l k a=ca:=⟨_,rfl⟩
    rw [decide_eq_true hj] at hjn
    rw [ha] at x3
    rw [hc2] at x4
    rw [ha,hc2] at HBx
    have hcb:∀ e:Int,((cntL l k).set a ((ca:Int)+1)).getD c 0=e→0≤e∧e≤200:=by
     intro e he
     rw [List.getD_eq_getElem?_getD,List.getElem?_set] at he
     by_cases hac:a=c
     ·rw [if_pos hac,if_pos (by rw [cntL_len];exact hal)] at he
      simp at he;omega
     ·rw [if_neg hac,←List.getD_eq_getElem?_getD,cntL_at hcl] at he
      have:=cntN_le l k c
      omega
    rw [hca] at HT
    obtain ⟨cb,hcbv⟩:∃ cb:Int,((cntL l k).set a ((ca:Int)+1)).getD c 0=cb:=⟨_,rfl⟩
    obtain ⟨cb0,cb1⟩:=hcb cb hcbv
    have HCB:Hid (((cntL l k).set a ((ca:Int)+1)).getD c 0=cb):=hcbv
    rw [hcbv] at HT
    have hai:(a:Int)<(n:Int)+1:=by omega
    have hci:(c:Int)<(n:Int)+1:=by omega
    have hcai:(ca:Int)≤200:=by omega
    have HCA:Hid (cntN l k a=ca):=hca
    clear hgk hj l0 l1 r0 r1 hcb hcbv hca
    go_wp2_with fail
    refine (hjn _).mono ?_
    rintro e w1 ⟨rfl,hb1⟩
    have HB1:Hid (Below w.heap.size w w1):=onB HW.out (onB HBx.out hb1)
    have HI1:Hid (IntB w1 w.heap.size (cntL l k)):=HI.out.later (onB HBx.out hb1)
    have hbox:w1.heap[wr.heap.size]?=some (.cells #[.int .i64 x.op,.int .i64 x.n,.string x.name,.int .i64 a,.int .i64 c] 212 (0,0)):=by
     rw [hb1.block wr.heap.size (by simp)]
     have:=heap_alloc_new wr (.cells #[.int .i64 x.op,.int .i64 x.n,.string x.name,.int .i64 a,.int .i64 c] 212)
     simpa [ha,hc2] using this
    have z3:w1.cell? ⟨wr.heap.size,3,none⟩=some (.int .i64 a):=by simp [World.cell?,hbox]
    have z4:w1.cell? ⟨wr.heap.size,4,none⟩=some (.int .i64 c):=by simp [World.cell?,hbox]
    have i1:=HI1.out.cell (j:=a) (by rw [cntL_len];exact hal)
    rw [cntL_at hal,HCA.out] at i1
    have i2:=HI1.out.frozen a
    have HI2:Hid (IntB (w1.setCell ⟨w.heap.size,a,none⟩ (.int .i64 ((ca:Int)+1))) w.heap.size ((cntL l k).set a ((ca:Int)+1))):=HI1.out.set a _
    have i3:=HI2.out.cell (j:=c) (by rw [List.length_set,cntL_len];exact hcl)
    rw [HCB.out] at i3
    have i4:=HI2.out.frozen c
    have hne:wr.heap.size≠w.heap.size:=by omega
    have z4':(w1.setCell ⟨w.heap.size,a,none⟩ (.int .i64 ((ca:Int)+1))).cell? ⟨wr.heap.size,4,none⟩=some (.int .i64 c):=by
     rw [World.cell?_setCell_other _ _ _ _ (by first | (simp;done) | (simp;omega))];exact z4
    clear hb1 hbox hjn
    go_wp2_with fail
    go_roundg (n+1-(k+1))
    case measure=>omega
    case rel=>exact ⟨k+1,by omega,rfl,by go_num,by rw [←HT.out];exact HI2.out.set c _,(HB1.out.setCell (Nat.le_refl _) _).setCell (Nat.le_refl _) _⟩
   ·rw [decide_eq_false hj] at hjn
    have HT:Hid (cntL l (k+1)=cntL l k):=cntL_same (by rw [HX.out];omega)
    clear hgk hj
    go_wp2_with fail
    refine (hjn _).mono ?_
    rintro e w1 ⟨rfl,hb1⟩
    have HB1:Hid (Below w.heap.size w w1):=onB HW.out (onB HBx.out hb1)
    have HI1:Hid (IntB w1 w.heap.size (cntL l k)):=HI.out.later (onB HBx.out hb1)
    clear hb1 hjn
    go_wp2_with fail
    go_roundg (n+1-(k+1))
    case measure=>omega
    case rel=>exact ⟨k+1,by omega,rfl,by go_num,by rw [HT.out];exact HI1.out,HB1.out⟩
  ·have hke:k=n+1:=by omega
   subst hke
   go_wp2_with fail
   go_ret
   refine ⟨⟨some ⟨w.heap.size,0,none⟩,n+1,by rw [HLen.out];rfl,?_⟩,HW.out⟩
   refine ⟨by rw [HLen.out];exact Nat.le_refl _,Or.inr ⟨_,rfl,HI.out.lt,fun j hj=>HI.out.cell hj⟩⟩
theorem any_odd {l:List Nd} (h0:0<l.length) (hg:∀ j,j<l.length→ndErr (l.getD j noN) j=0):anyL (fun x=>decide (x≠1)) (cntL l l.length)=decide (∃ j,j<l.length-1∧oddN l j=true):=by
 have hl:=used_last hg l.length (Nat.le_refl _)
 have hv:∀ j,j<l.length→(cntL l l.length).getD j 0=(cntN l l.length j:Int):=fun j hj=>cntL_at hj
 cases hx:decide (∃ j,j<l.length-1∧oddN l j=true)
 ·unfold anyL
  rw [List.any_eq_false]
  intro x hx2
  obtain ⟨i,hi,rfl⟩:=List.getElem_of_mem hx2
  have hi':i<l.length:=by rw [cntL_len] at hi;exact hi
  have e:(cntL l l.length)[i]=(cntN l l.length i:Int):=by rw [←hv i hi',List.getD,List.getElem?_eq_getElem hi];rfl
  rw [e]
  have hc:cntN l l.length i=1:=by
   unfold cntN
   by_cases hlast:i+1=l.length
   ·rw [if_pos hlast,show i=l.length-1 by omega,hl]
   ·rw [if_neg hlast]
    have:=(decide_eq_false_iff_not.1 hx)
    by_cases ho:oddN l i=true
    ·exact absurd ⟨i,by omega,ho⟩ this
    ·simpa [oddN] using ho
  rw [hc]
  decide
 ·obtain ⟨j,hj,ho⟩:=of_decide_eq_true hx
  unfold anyL
  rw [List.any_eq_true]
  have hj':j<(cntL l l.length).length:=by rw [cntL_len];omega
  refine ⟨(cntL l l.length)[j],List.getElem_mem hj',?_⟩
  have e:(cntL l l.length)[j]=(cntN l l.length j:Int):=by rw [←hv j (by omega),List.getD,List.getElem?_eq_getElem hj'];rfl
  rw [e]
  unfold cntN
  rw [if_neg (by omega)]
  have:usedTo l l.length j≠1:=of_decide_eq_true ho
  simp
  omega
set_option maxHeartbeats 4000000 in
theorem fchk_any (A:Option Addr) (cap:Nat) (l:List Nd) (w:World) (hN:NdsV w A cap l):Calls Tryz.prog 119 #[.slice A l.length cap] w fun e w'=>e=.returned (errV (formErr l))∧Below w.heap.size w w':=by
 obtain ⟨hc,hcm,h0 | ⟨b,o,rfl,hN⟩⟩:=hN
 ·subst h0
  rw [form_none rfl,errV_some (by decide)]
  simp only [List.length_nil]
  go_enter Tryz.func119,Tryz.ntmps119
  go_wp2_with fail
  go_ret
  exact ⟨rfl,Below.refl _ _⟩
 by_cases hl0:l.length=0
 ·rw [form_none hl0,errV_some (by decide),hl0]
  go_enter Tryz.func119,Tryz.ntmps119
  go_wp2_with fail
  go_ret
  exact ⟨rfl,Below.refl _ _⟩
 have hpos:0<(l.length:Int):=by omega
 have hne:((l.length:Int) == 0)=false:=by simpa using hl0
 by_cases h30:30<l.length
 ·have h30':30<(l.length:Int):=by omega
  rw [form_full h30,errV_some (by decide)]
  go_enter Tryz.func119,Tryz.ntmps119
  go_wp2_with fail
  go_ret
  exact ⟨rfl,Below.refl _ _⟩
 have h30':(l.length:Int)≤30:=by omega
 have HN:Hid (NdsAt w b o l):=hN
 obtain ⟨n,hn⟩:∃ n,l.length=n:=⟨_,rfl⟩
 have HL:Hid (l.length=n):=hn
 rw [hn] at hne hpos h30' ⊢
 clear hN
 go_enter Tryz.func119,Tryz.ntmps119
 go_wp2_with fail
 go_loopg [16] n (fun g s16 wr => ∃ (k:Nat),k≤n∧g=n-k∧s16=.int .i64 k∧(∀ j,j<k→badN l j=false)∧Below w.heap.size w wr)
 case atStart=>exact ⟨0,Nat.zero_le _,rfl,rfl,fun j hj=>absurd hj (Nat.not_lt_zero j),Below.refl _ _⟩
 case round =>
  obtain ⟨k,hk,rfl,rfl,hbd,hBw⟩:=hrel
  have HBd:Hid (∀ j,j<k→badN l j=false):=hbd
  have HW:Hid (Below w.heap.size w wr):=hBw
  have hbl:b<w.heap.size:=HN.out.1
  have hsz:=hBw.size
  clear hbd hBw
  by_cases hlt:k<n
  ·have hki:(k:Int)<(n:Int):=by omega
   obtain ⟨x0,x1,x2,x3,x4⟩:=(HN.out.later HW.out).nd (k:=k) (by omega)
   have hnd:=node_any (l.getD k noN) k
   obtain ⟨x,hx⟩:∃ x,l.getD k noN=x:=⟨_,rfl⟩
   have HX:Hid (l.getD k noN=x):=hx
   rw [hx] at x0 x1 x2 x3 x4 hnd
   rw [ndV_def] at hnd
   clear hx
   by_cases hE:ndErr x k=0
   ·rw [hE,errV_zero] at hnd
    have HBn:Hid (badN l k=false):=by show badN l k=false;unfold badN;rw [HX.out,hE];rfl
    clear hE
    go_wp2_with fail
    refine (hnd _).mono ?_
    rintro e w1 ⟨rfl,hb1⟩
    have HB1:Hid (Below w.heap.size w w1):=onB HW.out (onB (by go_grown) hb1)
    clear hb1 hnd
    go_wp2_with fail
    go_roundg (n-(k+1))
    case measure=>omega
    case rel=>exact ⟨k+1,by omega,rfl,by go_num,fun j hj=>by rcases Nat.lt_succ_iff_lt_or_eq.1 hj with h | h;exact HBd.out j h;rw [h];exact HBn.out,HB1.out⟩
   ·have HF:Hid (formErr l=ndErr x k):=by
     have h:=form_bad (l:=l) (i:=k) (by omega) (by omega) (by unfold badN;rw [HX.out];simpa using hE) HBd.out
     rw [HX.out] at h
     exact h
    rw [errV_some hE] at hnd
    have HE:Hid (errV (formErr l)=.iface 95 (.int .i64 (ndErr x k))):=by show _=_;rw [HF.out,errV_some hE]
    generalize ndErr x k=ec at *
    clear hE
    go_wp2_with fail
    refine (hnd _).mono ?_
    rintro e w1 ⟨rfl,hb1⟩
    have HB1:Hid (Below w.heap.size w w1):=onB HW.out (onB (by go_grown) hb1)
    clear hb1 hnd
    go_wp2_with fail
    go_ret
    exact ⟨by rw [HE.out];rfl,HB1.out⟩
  ·have hke:k=n:=by omega
   subst hke
   have hg:∀ j,j<l.length→ndErr (l.getD j noN) j=0:=fun j hj=>by
    have h:=HBd.out j (by have:=HL.out;omega)
    simpa [badN] using h
   have hus:=uses_any b o cap l wr (by omega) (by omega) (HN.out.later HW.out) hg
   rw [HL.out] at hus
   have HOd:=hid_of (any_odd (l:=l) (by omega) hg)
   have HAll:Hid (∀ j,j<l.length→badN l j=false):=fun j hj=>HBd.out j (by have:=HL.out;omega)
   clear hg
   go_wp2_with fail
   refine hus.mono ?_
   rintro e w1 ⟨⟨A1,c1,rfl,hI1⟩,hb1⟩
   have HB1:Hid (Below w.heap.size w w1):=onB HW.out hb1
   have hany:=anyof_any 155 #[] (fun x=>decide (x≠1)) ent_check1 A1 c1 (cntL l k) w1 (by rw [cntL_len];omega) hI1 (fun x w' _=>fcheck1_any x w')
   have h1:=HOd.out
   rw [HL.out] at h1
   rw [h1] at hany
   cases hd:decide (∃ j,j<k-1∧oddN l j=true)
   ·have HF:Hid (formErr l=0):=by
     refine form_good hl0 (by omega) HAll.out fun j hj=>?_
     have:=of_decide_eq_false hd
     cases ho:oddN l j
     ·rfl
     ·exact absurd ⟨j,by have:=HL.out;omega,ho⟩ this
    rw [hd] at hany
    clear hI1 hb1 hus hd h1
    go_wp2_with fail
    refine hany.mono ?_
    rintro e w2 ⟨rfl,hb2⟩
    have HB2:Hid (Below w.heap.size w w2):=onB HB1.out hb2
    clear hb2 hany
    go_wp2_with fail
    go_ret
    exact ⟨by rw [HF.out];rfl,HB2.out⟩
   ·have HF:Hid (formErr l=3):=by
     obtain ⟨j,hj,ho⟩:=of_decide_eq_true hd
     exact form_odd hl0 (by omega) HAll.out (i:=j) (by have:=HL.out;omega) ho
    rw [hd] at hany
    clear hI1 hb1 hus hd h1
    go_wp2_with fail
    refine hany.mono ?_
    rintro e w2 ⟨rfl,hb2⟩
    have HB2:Hid (Below w.heap.size w w2):=onB HB1.out hb2
    clear hb2 hany
    go_wp2_with fail
    go_ret
    exact ⟨by rw [HF.out];rfl,HB2.out⟩
def tkU:Unit→ByteArray→Unit:=fun _ _=>()
def goneU (s:ByteArray):Rd Unit×Bool:=allR s tkU ⟨0,0,()⟩
def goneB (s:ByteArray):Rd Bld×Bool:=allR s takeB ⟨0,0,noB⟩
def nodesP (s:ByteArray):List Nd:=(settleB 0 (goneB s).1.st).nodes
def prsE (s:ByteArray):Int:=if 100<s.size then (if (goneU s).2=true then 4 else 2) else if (goneB s).2=true then formErr (nodesP s) else 2
def prsA (s:ByteArray):Nat:=if 100<s.size then (if (goneU s).2=true then 0 else (goneU s).1.at') else if (goneB s).2=true then 0 else (goneB s).1.at'
def prsL (s:ByteArray):List Nd:=if prsE s=0 then nodesP s else []
theorem nds_of {w:World} {N:Nat} {A:Option Addr} {c:Nat} {l:List Nd} (h:w.ownsRow N 212 5 (.slice A l.length c) l.length (cellsN l)):NdsV w A c l:=by
 rcases h.2 with ⟨h0,h1⟩ | ⟨g,cap,cur,h0,hb,hg,hc,hm,hs,ht⟩
 ·simp only [Value.slice.injEq] at h0
  obtain ⟨rfl,-,rfl⟩:=h0
  exact ⟨by omega,by omega,Or.inl (List.eq_nil_of_length_eq_zero h1)⟩
 ·cases h0
  refine ⟨hc,by unfold maxLen at hm;omega,Or.inr ⟨g,0,rfl,(Array.getElem?_eq_some_iff.1 hg).1,fun k hk=>?_⟩⟩
  have hcell:∀ j u,(cellsN l)[j]?=some u→w.cell? ⟨g,j,none⟩=some u:=fun j u hu=>by
   have hx:=h.cells (g:=g) rfl j u hu
   have hadd:(⟨g,0,none⟩:Addr).add j=⟨g,j,none⟩:=by unfold Addr.add;split <;> simp_all
   rw [hadd] at hx
   exact hx
  obtain ⟨a0,a1,a2,a3,a4⟩:=cellsN_at l k hk
  simp only [Nat.zero_add]
  exact ⟨hcell _ _ a0,hcell _ _ a1,hcell _ _ a2,hcell _ _ a3,hcell _ _ a4⟩
def newB (w:World):World:=w.alloc (.cells #[.slice none 0 0,.slice none 0 0,.slice none 0 0] 238)
theorem newB_at (w:World):BldAt (w.heap.size+4) w.heap.size noB (newB w):=by
 refine ⟨none,0,none,0,none,0,by omega,heap_alloc_new w _,World.ownsRow_nil _ _ _ _,World.ownsRow_nil _ _ _ _,World.ownsRow_nil _ _ _ _,?_⟩
 intro g hg
 cases hg
theorem newB_size (w:World):(newB w).heap.size=w.heap.size+1:=by unfold newB;simp
theorem newB_below (w:World):Below w.heap.size w (newB w):=by unfold newB;go_grown
theorem below_of_kept {w w1 w2:World} {p:Nat} (h:Below w.heap.size w w1) (hk:Kept w1.heap.size (fun k=>k=p) w1 w2) (hp:w.heap.size≤p):Below w.heap.size w w2 :=
 ⟨hk.os.trans h.os,hk.tape.trans h.tape,hk.output.trans h.output,Nat.le_trans h.size hk.size,fun k hk'=>by
  rw [hk.block k (Nat.lt_of_lt_of_le hk' h.size) (by omega)]
  exact h.block k hk'⟩
theorem fit_new:FitB 0 0 false noB:=⟨rfl,by decide,Nat.le_refl _,Nat.le_refl _,Nat.le_refl _⟩
theorem opens_in {S:Type} {s:ByteArray} {tk:S→ByteArray→S}:∀ (f:Nat) (r:Rd S),r.at'≤s.size→(opensR s tk f r).at'≤s.size
 | 0,r,h=>h
 | f+1,r,h=>by
  rw [opensR]
  split
  ·rename_i h40
   exact opens_in f _ (opn_word (o:=0) h h40).1
  ·exact h
theorem closes_in {S:Type} {s:ByteArray} {tk:S→ByteArray→S}:∀ (f:Nat) (r:Rd S),r.at'≤s.size→(closesR s tk f r).at'≤s.size
 | 0,r,h=>h
 | f+1,r,h=>by
  rw [closesR]
  split
  ·rename_i h41
   exact closes_in f _ (cls_word (o:=0) h h41.2).1
  ·exact h
theorem operand_in {S:Type} {s:ByteArray} {tk:S→ByteArray→S} (r:Rd S) (h:r.at'≤s.size):(operandR s tk r).1.at'≤s.size:=by
 have h1:(openedR s tk r).at'≤s.size:=opens_in _ r h
 unfold operandR
 split
 ·rename_i hd
  exact closes_in _ _ (dig_word (o:=0) h1 hd).1
 ·split
  ·rename_i hl
   exact closes_in _ _ (let_word (o:=0) h1 hl).1
  ·exact h1
theorem loop_in {S:Type} {s:ByteArray} {tk:S→ByteArray→S}:∀ (f:Nat) (r:Rd S),r.at'≤s.size→(loopR s tk f r).1.at'≤s.size
 | 0,r,h=>h
 | f+1,r,h=>by
  have hsg:(signR s tk r).1.at'≤s.size:=by
   unfold signR
   split
   ·exact h
   ·rename_i hs
    exact (sgn_stp (o:=0) h hs).1
  rw [loopR]
  split
  ·split
   ·split
    ·exact loop_in f _ (operand_in _ hsg)
    ·exact operand_in _ hsg
   ·exact hsg
  ·exact h
theorem all_in {S:Type} {s:ByteArray} {tk:S→ByteArray→S} (r:Rd S) (h:r.at'≤s.size):(allR s tk r).1.at'≤s.size:=by
 unfold allR
 split
 ·split
  ·exact loop_in _ _ (operand_in _ h)
  ·exact loop_in _ _ (operand_in _ h)
 ·exact operand_in _ h
theorem Tryz.infoStrF:(Tryz.prog.info? 9).map (fun i=>(i.zero,i.size,i.bytes))=some (some (.string ⟨#[]⟩),1,16):=by kernel_rfl
theorem take_snoc (l:List Nd) {k:Nat} (hk:k<l.length):l.take (k+1)=l.take k ++ [l.getD k noN]:=by
 rw [List.take_add_one,List.getElem?_eq_getElem hk]
 simp [List.getD,List.getElem?_eq_getElem hk]
end Go.Proofs.YtfgegmpoejilnaaGreatDoor
namespace Go.Proofs.YtfgegmpoejilnaaGreatDoor
open Go.ChangeShapes Go.WideShapes Go.ChangeAt Go.RowKit
open Go.Sort (putRow Holds grow holds_putRow)
set_option maxRecDepth 20000
def nmsTo (l:List Nd) (k:Nat):List (List UInt8):=((l.take k).filter fun x=>decide (x.op=2)).map fun x=>x.name.data.toList
def refsP (l:List Nd):List (List UInt8):=if formErr l=0 then Lib.compact ((nmsTo l l.length).mergeSort fun x y=>decide (x≤y)) else []
theorem nms_hit {l:List Nd} {k:Nat} {x:Nd} (hk:k<l.length) (hx:l.getD k noN=x) (h:x.op=2):nmsTo l (k+1)=nmsTo l k ++ [x.name.data.toList]:=by
 unfold nmsTo
 rw [take_snoc l hk,hx,List.filter_append,List.map_append]
 simp [h]
theorem nms_miss {l:List Nd} {k:Nat} {x:Nd} (hk:k<l.length) (hx:l.getD k noN=x) (h:x.op≠2):nmsTo l (k+1)=nmsTo l k:=by
 unfold nmsTo
 rw [take_snoc l hk,hx,List.filter_append,List.map_append]
 simp [h]
theorem nms_len (l:List Nd) (k:Nat):(nmsTo l k).length≤k:=by
 unfold nmsTo
 rw [List.length_map]
 exact Nat.le_trans (List.length_filter_le _ _) (by rw [List.length_take];omega)
def StrsV (w:World) (A:Option Addr) (c:Nat) (L:List (List UInt8)):Prop:=L.length≤c∧c≤9223372036854775807∧(L=[]∨∃ b o,A=some ⟨b,o,none⟩∧b<w.heap.size∧∀ j,j<L.length→w.cell? ⟨b,o+j,none⟩=some (.string ⟨(L.getD j []).toArray⟩))
theorem StrsV.nil (w:World) (A:Option Addr) (c:Nat) (h:c≤9223372036854775807):StrsV w A c []:=⟨Nat.zero_le _,h,Or.inl rfl⟩
theorem StrsV.later {w w':World} {A:Option Addr} {c:Nat} {L:List (List UInt8)} (h:StrsV w A c L) (hB:Below w.heap.size w w'):StrsV w' A c L:=by
 obtain ⟨h1,h2,h3 | ⟨b,o,h3,h4,h5⟩⟩:=h
 ·exact ⟨h1,h2,Or.inl h3⟩
 ·exact ⟨h1,h2,Or.inr ⟨b,o,h3,Nat.lt_of_lt_of_le h4 hB.size,fun j hj=>(hB.cell (p:=⟨b,o+j,none⟩) h4).trans (h5 j hj)⟩⟩
theorem put_off {w:World} {g k:Nat} {d:Array (List UInt8)} (h:k≠g):(putRow encStr w g 0 d).heap[k]?=w.heap[k]?:=by
 unfold putRow Sort.mapBlock
 simp only [Array.getElem?_modify]
 rw [if_neg (fun e=>h e.symm)]
theorem sorted_below {w0 w:World} {g n:Nat} {d:Array (List UInt8)} {os:Array Obj} (h:Below w0.heap.size w0 w) (hg:w0.heap.size≤g):Below w0.heap.size w0 (grow (putRow encStr (Sort.ahead w n) g 0 d) os):=by
 refine ⟨h.os,h.tape,h.output,by have:=h.size;simp;omega,fun k hk=>?_⟩
 have hs:=h.size
 rw [Sort.heap_grow_old _ _ (by simp;omega),put_off (by omega)]
 exact h.block k hk
theorem packed_below {w0 w:World} {g n:Nat} {d:Array (List UInt8)} (h:Below w0.heap.size w0 w) (hg:w0.heap.size≤g):Below w0.heap.size w0 (putRow encStr (Sort.ahead w n) g 0 d):=by
 refine ⟨h.os,h.tape,h.output,by have:=h.size;simp;omega,fun k hk=>?_⟩
 rw [put_off (by omega)]
 exact h.block k hk
theorem compact_len (zs:List (List UInt8)):(Lib.compact zs).length≤zs.length:=by
 unfold Lib.compact Lib.compactUpTo
 rw [List.length_map]
 exact Nat.le_trans (List.length_filter_le _ _) (by simp)
theorem packed_strs {w:World} {g n cap:Nat} {zs:List (List UInt8)} (hH:Holds encStr w g 0 zs.toArray) (hc:zs.length≤cap) (hm:cap≤maxLen) (hg:g<w.heap.size) :
  StrsV (putRow encStr (Sort.ahead w n) g 0 (Lib.compact zs ++ List.replicate (zs.length-(Lib.compact zs).length) []).toArray) (some ⟨g,0,none⟩) cap (Lib.compact zs):=by
 have hl:=compact_len zs
 refine ⟨by omega,by unfold maxLen at hm;omega,Or.inr ⟨g,0,rfl,by simpa using hg,fun j hj=>?_⟩⟩
 have hs:(Lib.compact zs ++ List.replicate (zs.length-(Lib.compact zs).length) []).toArray.size=zs.toArray.size:=by simp;omega
 have h1:=(holds_putRow encStr (Sort.ahead w n) g 0 zs.toArray _ hH hs j (by rw [hs];simp;omega)).1
 rw [h1]
 have e:(Lib.compact zs ++ List.replicate (zs.length-(Lib.compact zs).length) ([]:List UInt8)).toArray[j]! = (Lib.compact zs).getD j []:=by
  rw [getElem!_pos _ j (by rw [hs];simp;omega)]
  simp [List.getD,List.getElem?_eq_getElem hj,List.getElem_append_left hj]
 rw [e]
end Go.Proofs.YtfgegmpoejilnaaGreatDoor
