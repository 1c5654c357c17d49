/-
  Even: a number on equal parts.
-/
import Derived.Test.YtfemjinbfebejaaGreatDoorJBBD
namespace Go.Proofs.YtfemjinbfebejaaGreatDoor
open Go Go.ChangeShapes Go.WideShapes Go.ChangeAt Go.RowKit Go.Shelf Go.Lib Go.Sort
set_option maxRecDepth 100000
def evE (n m:Int):Int:=if 0≤n∧n≤1000000∧1≤m∧m≤60 then 0 else 1
def evV (n m:Int) (i:Nat):Int:=n / m+if (i:Int)<n % m then 1 else 0
def evO (n m:Int):List Int:=if evE n m=0 then (List.range m.toNat).map (evV n m) else []
def evTo (n:Int) (m k:Nat):List Int:=(List.range m).map fun i=>if i<k then evV n m i else 0
theorem evTo_len (n:Int) (m k:Nat):(evTo n m k).length=m:=by simp [evTo]
theorem evTo_zero (n:Int) (m:Nat):evTo n m 0=List.replicate m 0:=by
 refine List.ext_getElem (by simp [evTo]) fun _ _ _=>?_
 simp [evTo]
theorem evTo_set (n:Int) (m k:Nat):(evTo n m k).set k (evV n m k)=evTo n m (k+1):=by
 refine List.ext_getElem (by simp [evTo]) fun i h1 h2=>?_
 rw [List.getElem_set]
 by_cases e:k=i
 ·subst e
  simp [evTo]
 ·rw [if_neg e]
  simp only [evTo,List.getElem_map,List.getElem_range]
  by_cases h3:i<k
  ·rw [if_pos h3,if_pos (by omega)]
  ·rw [if_neg h3,if_neg (by omega)]
set_option maxHeartbeats 4000000 in
theorem even_ok (n:Int) (m:Nat) (w:World) (hn:0≤n∧n≤1000000) (hm1:1≤m) (hm2:m≤60) :
  Calls Tryz.prog 26 #[.int .i64 n,.int .i64 m] w fun e w' => ∃ g,e=.returned (.tuple #[.slice (some ⟨g,0,none⟩) m m,.nilIface])∧IntB w' g (evTo n m m)∧w.heap.size≤g∧Below w.heap.size w w':=by
 have hc:=isamount_any n w
 rw [show isAmt n=true from decide_eq_true hn] at hc
 have hmk:=run_make_row' (P:=Tryz.prog) 22 3 (.int .i64 0) 8 Tryz.underlying22 Tryz.infoInt rfl .i64 .i64 m (by omega) (by omega)
 have hm3 : ¬ (m:Int)<1:=by omega
 have hm4 : ¬ (m:Int) > 60:=by omega
 have hm0 : ¬ (m:Int)=0:=by omega
 obtain ⟨q,hq⟩:∃ q,q=n / (m:Int):=⟨_,rfl⟩
 obtain ⟨r,hr⟩:∃ r,r=n % (m:Int):=⟨_,rfl⟩
 have hq1:n.tdiv (m:Int)=q:=by rw [Int.tdiv_eq_ediv_of_nonneg hn.1,hq]
 have hr1:n.tmod (m:Int)=r:=by rw [Int.tmod_eq_emod_of_nonneg hn.1,hr]
 have hq0:0≤q:=by rw [hq];exact Int.ediv_nonneg hn.1 (by omega)
 have hq3:q≤n:=by rw [hq];exact Int.ediv_le_self _ hn.1
 have hqw:IntKind.i64.wrap q=q:=by rw [IntKind.wrap_i64];omega
 have hqw2:IntKind.i64.wrap (q+1)=q+1:=by rw [IntKind.wrap_i64];omega
 have hq2:n / (m:Int)=q:=hq.symm
 have hr2:n % (m:Int)=r:=hr.symm
 have HV:Hid (∀ i:Nat,evV n m i=q+if (i:Int)<r then 1 else 0):=fun i=>by unfold evV;rw [hq,hr]
 clear hq hr
 have HI0:Hid (IntB (w.alloc (.cells (madeCells #[.int .i64 0] m) 3)) w.heap.size (evTo n m 0)):=by
  show IntB ..
  rw [evTo_zero]
  exact IntB.made w m
 go_enter Tryz.func26,Tryz.ntmps26
 go_wp2_with (go_at_call 45;refine hc.mono ?_;rintro e w1 ⟨rfl,hw1⟩;obtain rfl:=hw1.symm)
 go_loopg [24] m (fun gg s24 wr => ∃ (k:Nat),k≤m∧gg=m-k∧s24=.int .i64 k∧Hid (IntB wr w.heap.size (evTo n m k))∧Hid (Below w.heap.size w wr))
 case atStart=>exact ⟨0,Nat.zero_le _,rfl,rfl,HI0,hid_of (by go_grown)⟩
 case round =>
  clear HI0
  obtain ⟨k,hk,rfl,rfl,HI,HB⟩:=hrel
  by_cases hlt:k<m
  ·have hki:(k:Int)<(m:Int):=by omega
   have c0:=HI.out.cell (j:=k) (by rw [evTo_len];exact hlt)
   have f0:=HI.out.frozen k
   have hl:=HI.out.lt
   by_cases hkr:(k:Int)<r
   ·have c1:(wr.setCell ⟨w.heap.size,k,none⟩ (.int .i64 q)).cell? ⟨w.heap.size,k,none⟩=some (.int .i64 q):=World.cell?_setCell_same _ _ _ c0
    have HI2:Hid (IntB ((wr.setCell ⟨w.heap.size,k,none⟩ (.int .i64 q)).setCell ⟨w.heap.size,k,none⟩ (.int .i64 (q+1))) w.heap.size (evTo n m (k+1))):=by
     show IntB ..
     have:=(HI.out.set k q).set k (q+1)
     rw [List.set_set] at this
     rw [←evTo_set,HV.out,if_pos hkr]
     exact this
    have HB2:Hid (Below w.heap.size w ((wr.setCell ⟨w.heap.size,k,none⟩ (.int .i64 q)).setCell ⟨w.heap.size,k,none⟩ (.int .i64 (q+1)))):=(HB.out.setCell (Nat.le_refl _) _).setCell (Nat.le_refl _) _
    clear HI HB
    go_wp2_with fail
    go_roundg (m-(k+1))
    case measure=>omega
    case rel=>exact ⟨k+1,by omega,rfl,by go_num,HI2,HB2⟩
   ·have HI2:Hid (IntB (wr.setCell ⟨w.heap.size,k,none⟩ (.int .i64 q)) w.heap.size (evTo n m (k+1))):=by
     show IntB ..
     rw [←evTo_set,HV.out,if_neg hkr,Int.add_zero]
     exact HI.out.set k q
    have HB2:Hid (Below w.heap.size w (wr.setCell ⟨w.heap.size,k,none⟩ (.int .i64 q))):=HB.out.setCell (Nat.le_refl _) _
    clear HI HB
    go_wp2_with fail
    go_roundg (m-(k+1))
    case measure=>omega
    case rel=>exact ⟨k+1,by omega,rfl,by go_num,HI2,HB2⟩
  ·have hke:k=m:=by omega
   subst hke
   go_wp2_with fail
   go_ret2
   exact ⟨_,rfl,HI.out,Nat.le_refl _,HB.out⟩
set_option maxHeartbeats 4000000 in
theorem even_bad (n m:Int) (w:World) (h:evE n m≠0):Calls Tryz.prog 26 #[.int .i64 n,.int .i64 m] w fun e w'=>e=.returned (.tuple #[.slice none 0 0,.iface 69 (.int .i64 1)])∧w'=w:=by
 have hc:=isamount_any n w
 have h2:isAmt n=false∨(isAmt n=true∧(m<1∨(¬ m<1∧m > 60))):=by
  unfold evE at h
  unfold isAmt
  by_cases k:0≤n∧n≤1000000
  ·refine Or.inr ⟨decide_eq_true k,?_⟩
   by_cases k2:m<1
   ·exact Or.inl k2
   ·refine Or.inr ⟨k2,?_⟩
    by_cases k3:m > 60
    ·exact k3
    ·exact absurd (if_pos ⟨k.1,k.2,by omega,by omega⟩) h
  ·exact Or.inl (decide_eq_false k)
 clear h
 go_enter Tryz.func26,Tryz.ntmps26
 rcases h2 with h | ⟨h,h2 | ⟨h2,h3⟩⟩ <;>
  (rw [h] at hc
   go_wp2_with (go_at_call 45;refine hc.mono ?_;rintro e w1 ⟨rfl,hw1⟩;obtain rfl:=hw1.symm)
   go_ret2
   exact ⟨rfl,rfl⟩)
theorem even_any (n m:Int) (w:World):Calls Tryz.prog 26 #[.int .i64 n,.int .i64 m] w fun e w' => ∃ A c,e=.returned (.tuple #[.slice A (evO n m).length c,errV (evE n m)])∧PlAt w' A c (evO n m)∧Below w.heap.size w w':=by
 by_cases h:evE n m=0
 ·have h':0≤n∧n≤1000000∧1≤m∧m≤60:=by
   unfold evE at h
   by_cases k:0≤n∧n≤1000000∧1≤m∧m≤60
   ·exact k
   ·rw [if_neg k] at h;cases h
  obtain ⟨k,rfl⟩:∃ k:Nat,m=(k:Int):=⟨m.toNat,by omega⟩
  refine (even_ok n k w ⟨h'.1,h'.2.1⟩ (by omega) (by omega)).mono ?_
  rintro e w' ⟨g,rfl,hI,-,hB⟩
  have e1:evO n (k:Int)=evTo n k k:=by
   unfold evO;rw [if_pos h,Int.toNat_natCast]
   exact List.map_congr_left fun i hi=>(if_pos (List.mem_range.1 hi)).symm
  rw [e1,h]
  refine ⟨_,k,by rw [evTo_len];rfl,?_,hB⟩
  have:=hI.pl
  rwa [evTo_len] at this
 ·refine (even_bad n m w h).mono ?_
  rintro e w' ⟨rfl,rfl⟩
  have e1:evO n m=[]:=by unfold evO;rw [if_neg h]
  have e2:evE n m=1:=by
   unfold evE at h ⊢
   split
   ·rename_i k;rw [if_pos k] at h;exact absurd rfl h
   ·rfl
  rw [e1,e2]
  exact ⟨none,0,rfl,⟨Nat.le_refl _,Or.inl rfl⟩,Below.refl _ _⟩
def lkE (n:Int) (W:List Int):Int:=if isAmt n=false then 1 else if W.length=0∨60<W.length then 4 else if (W.any fun x => !isAmt x)=true then 1 else if W.sum=0 then 3 else 0
def LkO (n:Int) (W L:List Int):Prop:=if lkE n W=0 then ∃ P,PickOk W.length (prec n W) P (lkL n W).toNat∧L=lkO n W P else L=[]
theorem lkE_ok {n:Int} {W:List Int} (h:lkE n W=0):(0≤n∧n≤1000000)∧0<W.length∧W.length≤60∧(∀ x∈W,0≤x∧x≤1000000)∧0<W.sum:=by
 unfold lkE at h
 by_cases k1:isAmt n=false
 ·rw [if_pos k1] at h;cases h
 rw [if_neg k1] at h
 by_cases k2:W.length=0∨60<W.length
 ·rw [if_pos k2] at h;cases h
 rw [if_neg k2] at h
 by_cases k3:(W.any fun x => !isAmt x)=true
 ·rw [if_pos k3] at h;cases h
 rw [if_neg k3] at h
 have hall:∀ x∈W,0≤x∧x≤1000000:=fun x hx=>by
  by_cases k:isAmt x=true
  ·exact of_decide_eq_true k
  ·exact absurd (List.any_eq_true.2 ⟨x,hx,by simpa using k⟩) k3
 by_cases k4:W.sum=0
 ·rw [if_pos k4] at h;cases h
 refine ⟨of_decide_eq_true (by simpa [isAmt] using k1),by omega,by omega,hall,?_⟩
 have:∀ V:List Int,(∀ x∈V,0≤x∧x≤1000000)→0≤V.sum:=by
  intro V
  induction V with
  | nil=>simp
  | cons a V ih=>intro h;have:=h a (List.mem_cons_self ..);have:=ih fun x hx=>h x (List.mem_cons_of_mem _ hx);simp only [List.sum_cons];omega
 have:=this W hall
 omega
def sumW (W:List Int) (k:Nat):Int:=(W.take k).sum
theorem sumW_step {W:List Int} {k:Nat} (hk:k<W.length):sumW W (k+1)=sumW W k+W.getD k 0:=by
 unfold sumW
 rw [List.take_succ_eq_append_getElem hk,List.sum_append,List.getD_eq_getElem?_getD,List.getElem?_eq_getElem hk];simp
theorem sumW_bd {W:List Int} (h:∀ x∈W,0≤x∧x≤1000000):∀ k:Nat,k≤W.length→0≤sumW W k∧sumW W k≤(k:Int)*1000000
 | 0,_=>by simp [sumW]
 | k+1,hk=>by
  have:=sumW_bd h k (by omega)
  have hm:W.getD k 0∈W:=by rw [List.getD_eq_getElem?_getD,List.getElem?_eq_getElem (by omega)];exact List.getElem_mem _
  have:=h _ hm
  rw [sumW_step (by omega)];omega
theorem like1_in (args:Array Value) (w:World):(callFunc 46 args).run Tryz.prog w=.ok (.enter 46 args) w:=by simp [callFunc,Tryz.func46];rfl
set_option maxHeartbeats 8000000 in
theorem like_any (n:Int) (A:Option Addr) (cA:Nat) (W:List Int) (w:World) (hL:PlAt w A cA W) :
  Calls Tryz.prog 25 #[.int .i64 n,.slice A W.length cA] w fun e w' => ∃ A' c' L,e=.returned (.tuple #[.slice A' L.length c',errV (lkE n W)])∧PlAt w' A' c' L∧LkO n W L∧Below w.heap.size w w':=by
 have hc:=isamount_any n w
 have HL:Hid (PlAt w A cA W):=hL
 obtain ⟨k,hk⟩:∃ k,W.length=k:=⟨_,rfl⟩
 have HK:Hid (W.length=k):=hk
 have bad:∀ c:Int,c≠0→lkE n W=c→∀ w':World,Below w.heap.size w w'→∃ A' c' L,Ending.returned (.tuple #[.slice none 0 0,.iface 69 (.int .i64 c)])=.returned (.tuple #[.slice A' L.length c',errV (lkE n W)])∧PlAt w' A' c' L∧LkO n W L∧Below w.heap.size w w':=fun c hc0 h w' hB =>
  ⟨none,0,[],by rw [h];unfold errV;rw [if_neg hc0];rfl,⟨Nat.le_refl _,Or.inl rfl⟩,by unfold LkO;rw [if_neg (by rw [h];exact hc0)],hB⟩
 by_cases k1:isAmt n=false
 ·have HF:=hid_of (bad 1 (by decide) (by unfold lkE;rw [if_pos k1]) w (Below.refl _ _))
  rw [k1] at hc
  rw [hk]
  clear bad hL hk
  go_enter Tryz.func25,Tryz.ntmps25
  go_wp2_with (go_at_call 45;refine hc.mono ?_;rintro e w1 ⟨rfl,hw1⟩;obtain rfl:=hw1.symm)
  go_ret2
  exact HF.out
 have k1':isAmt n=true:=by simpa using k1
 rw [k1'] at hc
 by_cases k2:W.length=0∨60<W.length
 ·have HF:=hid_of (bad 4 (by decide) (by unfold lkE;rw [if_neg k1,if_pos k2]) w (Below.refl _ _))
  rw [hk] at k2 ⊢
  clear bad hL hk
  rcases Nat.eq_zero_or_pos k with h0 | h0
  ·have h0I:(k:Int)=0:=by omega
   go_enter Tryz.func25,Tryz.ntmps25
   go_wp2_with (go_at_call 45;refine hc.mono ?_;rintro e w1 ⟨rfl,hw1⟩;obtain rfl:=hw1.symm)
   go_ret2
   exact HF.out
  ·have h0I : ¬ (k:Int)=0:=by omega
   have h1I:(k:Int) > 60:=by omega
   go_enter Tryz.func25,Tryz.ntmps25
   go_wp2_with (go_at_call 45;refine hc.mono ?_;rintro e w1 ⟨rfl,hw1⟩;obtain rfl:=hw1.symm)
   go_ret2
   exact HF.out
 have hk0:0<k∧k≤60:=by omega
 have hk0I:((k:Int) == 0)=false:=by simp;omega
 have hk1I:decide (60<(k:Int))=false:=decide_eq_false (by omega)
 have hcf:=contm_pl 46 #[] (fun x => !isAmt x) like1_in A cA W w (by omega) hL (fun x w' _ _=>(like1_any x w').mono fun _ _ ⟨h1,h2⟩=>⟨h1,by rw [h2];exact Below.refl _ _⟩)
 rw [show decide (0≤findFrom (fun j => !isAmt (W.getD j 0)) W.length 0)=W.any (fun x => !isAmt x) from any_find (fun x => !isAmt x) W] at hcf
 by_cases k3:(W.any fun x => !isAmt x)=true
 ·have HF:=hid_of fun w' (hB:Below w.heap.size w w')=>bad 1 (by decide) (by unfold lkE;rw [if_neg k1,if_neg k2,if_pos k3]) w' hB
  rw [k3,hk] at hcf
  rw [hk]
  clear bad hL hk k2 k3
  go_enter Tryz.func25,Tryz.ntmps25
  go_wp2_with (first | (go_at_call 45;refine hc.mono ?_;rintro e w1 ⟨rfl,hw1⟩;obtain rfl:=hw1.symm) | (go_at_call 22;refine hcf.mono ?_;rintro e w2 ⟨rfl,hb2⟩;have HB2:=hid_of hb2;clear hb2))
  go_ret2
  exact HF.out _ HB2.out
 have k3':(W.any fun x => !isAmt x)=false:=by simpa using k3
 have hall:∀ x∈W,0≤x∧x≤1000000:=fun x hx=>by
  by_cases h:isAmt x=true
  ·exact of_decide_eq_true h
  ·exact absurd (List.any_eq_true.2 ⟨x,hx,by simpa using h⟩) k3
 have HA:=hid_of hall
 have HE:Hid (lkE n W=if W.sum=0 then 3 else 0):=by show _=_;unfold lkE;rw [if_neg k1,if_neg k2,if_neg k3]
 have hnn:0≤n∧n≤1000000:=of_decide_eq_true k1'
 have HN:Hid (0≤n∧n≤1000000):=hnn
 have HBAD:=hid_of bad
 rw [k3',hk] at hcf
 rw [hk]
 clear bad hL hk k2 k3 k3' hall k1 k1' hnn
 go_enter Tryz.func25,Tryz.ntmps25
 go_wp2_with (first | (go_at_call 45;refine hc.mono ?_;rintro e w1 ⟨rfl,hw1⟩;obtain rfl:=hw1.symm) | (go_at_call 22;refine hcf.mono ?_;rintro e w2 ⟨rfl,hb2⟩;have HB2:=hid_of hb2;clear hb2))
 clear hc hcf
 go_loopg [6,27] k (fun gg s6 s27 wr => ∃ j:Nat,j≤k∧gg=k-j∧s27=.int .i64 j∧s6=.int .i64 (sumW W j)∧wr=w2)
 case atStart=>exact ⟨0,Nat.zero_le _,rfl,rfl,by simp [sumW],rfl⟩
 case round =>
  obtain ⟨j,hjk,rfl,rfl,rfl,hwr⟩:=hrel
  obtain rfl:=hwr
  by_cases hlt:j<k
  ·have hjI:(j:Int)<(k:Int):=by omega
   obtain ⟨-,h0 | ⟨bA,oA,rfl,hbA,hX⟩⟩:=HL.out
   ·have:=HK.out;rw [h0] at this;simp at this;omega
   have hx:wr.cell? ⟨bA,oA+j,none⟩=some (.int .i64 (W.getD j 0)):=by rw [HB2.out.cell (by exact hbA)];exact hX j (by rw [HK.out];exact hlt)
   have hm:W.getD j 0∈W:=by rw [List.getD_eq_getElem?_getD,List.getElem?_eq_getElem (by rw [HK.out];exact hlt)];exact List.getElem_mem _
   have hw:=HA.out _ hm
   have hst:=sumW_step (W:=W) (k:=j) (by rw [HK.out];exact hlt)
   have hbd:=sumW_bd HA.out j (by rw [HK.out];omega)
   have hsw:IntKind.i64.wrap (sumW W j+W.getD j 0)=sumW W (j+1):=by rw [hst,IntKind.wrap_i64];omega
   obtain ⟨x,hxe⟩:∃ x,W.getD j 0=x:=⟨_,rfl⟩
   rw [hxe] at hx hsw
   obtain ⟨s2,hs2⟩:∃ s2,s2=sumW W (j+1):=⟨_,rfl⟩
   rw [←hs2] at hsw
   have HS2:Hid (s2=sumW W (j+1)):=hs2
   clear hX hm hw hst hbd hxe hs2
   go_wp2_with fail
   go_roundg (k-(j+1))
   case measure=>omega
   case rel=>exact ⟨j+1,by omega,rfl,by go_num,by rw [HS2.out],rfl⟩
  ·have hje:j=k:=by omega
   subst hje
   have hsum:sumW W j=W.sum:=by unfold sumW;rw [List.take_of_length_le (by rw [HK.out];exact Nat.le_refl _)]
   rw [hsum]
   by_cases k4:W.sum=0
   ·have HF:=hid_of (HBAD.out 3 (by decide) (by rw [HE.out,if_pos k4]) wr HB2.out)
    go_wp2_with fail
    go_ret2
    exact HF.out
   ·have h0:lkE n W=0:=by rw [HE.out,if_neg k4]
    obtain ⟨-,g1,g2,-,g3⟩:=lkE_ok h0
    have hcb:=byweight_any n A cA W wr (HL.out.later HB2.out) g1 g2 g3 HN.out HA.out
    have HF:Hid (∀ (P:Nat→Bool) (g:Nat) (w':World),PickOk W.length (prec n W) P (lkL n W).toNat→PB w' g (lkO n W P)→Below w.heap.size w w'→∃ A' c' L,Ending.returned (.tuple #[.slice (some ⟨g,0,none⟩) j j,.nilIface])=.returned (.tuple #[.slice A' L.length c',errV (lkE n W)])∧PlAt w' A' c' L∧LkO n W L∧Below w.heap.size w w'):=fun P g w' p1 p2 p3=>by
     have e1:(lkO n W P).length=j:=by rw [←HK.out];simp [lkO]
     refine ⟨some ⟨g,0,none⟩,j,lkO n W P,by rw [e1,h0];rfl,p2.pl (by rw [e1];exact Nat.le_refl _),?_,p3⟩
     unfold LkO
     rw [if_pos h0]
     exact ⟨P,p1,rfl⟩
    rw [HK.out] at hcb
    obtain ⟨s,hse⟩:∃ s,W.sum=s:=⟨_,rfl⟩
    rw [hse] at hcb k4 ⊢
    clear hsum g1 g2 g3 hse h0
    go_wp2_with fail
    refine hcb.mono ?_
    rintro e w3 ⟨P,g,p1,rfl,p2,-,p3⟩
    rw [←HK.out] at p1
    have HG:=hid_of (HF.out P g w3 p1 p2 (HB2.out.trans (p3.mono HB2.out.size)))
    clear p1 p2 p3 HF hcb
    go_wp2_with fail
    go_ret2
    exact HG.out
end Go.Proofs.YtfemjinbfebejaaGreatDoor
