/-
  Even: a number on equal parts.
-/
import Derived.Test.YtbhanigcjdegjaaGreatDoorJABD
import Derived.Test.YtbhanigcjdegjaaGreatDoorJABF
import Derived.Test.YtbhanigcjdegjaaGreatDoorJABI
namespace Go.Proofs.YtbhanigcjdegjaaGreatDoor
open Go Go.ChangeShapes Go.WideShapes Go.ChangeAt Go.RowKit Go.Shelf Go.Lib Go.Sort
set_option maxRecDepth 100000
def evE (n m:Int):Int:=if 0≤n∧n≤1000000∧1≤m∧m≤60 then 0 else 1
def evV (n m:Int) (i:Nat):Int:=n / m+if (i:Int)<n % m then 1 else 0
def evO (n m:Int):List Int:=if evE n m=0 then (List.range m.toNat).map (evV n m) else []
def evTo (n:Int) (m k:Nat):List Int:=(List.range m).map fun i=>if i<k then evV n m i else 0
theorem evTo_len (n:Int) (m k:Nat):(evTo n m k).length=m:=by simp [evTo]
theorem evTo_zero (n:Int) (m:Nat):evTo n m 0=List.replicate m 0:=by
 refine List.ext_getElem (by simp [evTo]) fun _ _ _=>?_
 simp [evTo]
theorem evTo_set (n:Int) (m k:Nat):(evTo n m k).set k (evV n m k)=evTo n m (k+1):=by
 refine List.ext_getElem (by simp [evTo]) fun i h1 h2=>?_
 rw [List.getElem_set]
 by_cases e:k=i
 ·subst e
  simp [evTo]
 ·rw [if_neg e]
  simp only [evTo,List.getElem_map,List.getElem_range]
  by_cases h3:i<k
  ·rw [if_pos h3,if_pos (by omega)]
  ·rw [if_neg h3,if_neg (by omega)]
set_option maxHeartbeats 4000000 in
theorem even_ok (n:Int) (m:Nat) (w:World) (hn:0≤n∧n≤1000000) (hm1:1≤m) (hm2:m≤60) :
  Calls Tryz.prog 4 #[.int .i64 n,.int .i64 m] w fun e w' => ∃ g,e=.returned (.tuple #[.slice (some ⟨g,0,none⟩) m m,.nilIface])∧IntB w' g (evTo n m m)∧w.heap.size≤g∧Below w.heap.size w w':=by
 have hc:=isamount_any n w
 rw [show isAmt n=true from decide_eq_true hn] at hc
 have hmk:=run_make_row' (P:=Tryz.prog) 22 3 (.int .i64 0) 8 Tryz.underlying22 Tryz.infoInt rfl .i64 .i64 m (by omega) (by omega)
 have hm3 : ¬ (m:Int)<1:=by omega
 have hm4 : ¬ (m:Int) > 60:=by omega
 have hm0 : ¬ (m:Int)=0:=by omega
 obtain ⟨q,hq⟩:∃ q,q=n / (m:Int):=⟨_,rfl⟩
 obtain ⟨r,hr⟩:∃ r,r=n % (m:Int):=⟨_,rfl⟩
 have hq1:n.tdiv (m:Int)=q:=by rw [Int.tdiv_eq_ediv_of_nonneg hn.1,hq]
 have hr1:n.tmod (m:Int)=r:=by rw [Int.tmod_eq_emod_of_nonneg hn.1,hr]
 have hq0:0≤q:=by rw [hq];exact Int.ediv_nonneg hn.1 (by omega)
 have hq3:q≤n:=by rw [hq];exact Int.ediv_le_self _ hn.1
 have hqw:IntKind.i64.wrap q=q:=by rw [IntKind.wrap_i64];omega
 have hqw2:IntKind.i64.wrap (q+1)=q+1:=by rw [IntKind.wrap_i64];omega
 have hq2:n / (m:Int)=q:=hq.symm
 have hr2:n % (m:Int)=r:=hr.symm
 have HV:Hid (∀ i:Nat,evV n m i=q+if (i:Int)<r then 1 else 0):=fun i=>by unfold evV;rw [hq,hr]
 clear hq hr
 have HI0:Hid (IntB (w.alloc (.cells (madeCells #[.int .i64 0] m) 3)) w.heap.size (evTo n m 0)):=by
  show IntB ..
  rw [evTo_zero]
  exact IntB.made w m
 go_enter Tryz.func4,Tryz.ntmps4
 go_wp2_with (go_at_call 10;refine hc.mono ?_;rintro e w1 ⟨rfl,hw1⟩;obtain rfl:=hw1.symm)
 go_loopg [24] m (fun gg s24 wr => ∃ (k:Nat),k≤m∧gg=m-k∧s24=.int .i64 k∧Hid (IntB wr w.heap.size (evTo n m k))∧Hid (Below w.heap.size w wr))
 case atStart=>exact ⟨0,Nat.zero_le _,rfl,rfl,HI0,hid_of (by go_grown)⟩
 case round =>
  clear HI0
  obtain ⟨k,hk,rfl,rfl,HI,HB⟩:=hrel
  by_cases hlt:k<m
  ·have hki:(k:Int)<(m:Int):=by omega
   have c0:=HI.out.cell (j:=k) (by rw [evTo_len];exact hlt)
   have f0:=HI.out.frozen k
   have hl:=HI.out.lt
   by_cases hkr:(k:Int)<r
   ·have c1:(wr.setCell ⟨w.heap.size,k,none⟩ (.int .i64 q)).cell? ⟨w.heap.size,k,none⟩=some (.int .i64 q):=World.cell?_setCell_same _ _ _ c0
    have HI2:Hid (IntB ((wr.setCell ⟨w.heap.size,k,none⟩ (.int .i64 q)).setCell ⟨w.heap.size,k,none⟩ (.int .i64 (q+1))) w.heap.size (evTo n m (k+1))):=by
     show IntB ..
     have:=(HI.out.set k q).set k (q+1)
     rw [List.set_set] at this
     rw [←evTo_set,HV.out,if_pos hkr]
     exact this
    have HB2:Hid (Below w.heap.size w ((wr.setCell ⟨w.heap.size,k,none⟩ (.int .i64 q)).setCell ⟨w.heap.size,k,none⟩ (.int .i64 (q+1)))):=(HB.out.setCell (Nat.le_refl _) _).setCell (Nat.le_refl _) _
    clear HI HB
    go_wp2_with fail
    go_roundg (m-(k+1))
    case measure=>omega
    case rel=>exact ⟨k+1,by omega,rfl,by go_num,HI2,HB2⟩
   ·have HI2:Hid (IntB (wr.setCell ⟨w.heap.size,k,none⟩ (.int .i64 q)) w.heap.size (evTo n m (k+1))):=by
     show IntB ..
     rw [←evTo_set,HV.out,if_neg hkr,Int.add_zero]
     exact HI.out.set k q
    have HB2:Hid (Below w.heap.size w (wr.setCell ⟨w.heap.size,k,none⟩ (.int .i64 q))):=HB.out.setCell (Nat.le_refl _) _
    clear HI HB
    go_wp2_with fail
    go_roundg (m-(k+1))
    case measure=>omega
    case rel=>exact ⟨k+1,by omega,rfl,by go_num,HI2,HB2⟩
  ·have hke:k=m:=by omega
   subst hke
   go_wp2_with fail
   go_ret2
   exact ⟨_,rfl,HI.out,Nat.le_refl _,HB.out⟩
set_option maxHeartbeats 4000000 in
theorem even_bad (n m:Int) (w:World) (h:evE n m≠0):Calls Tryz.prog 4 #[.int .i64 n,.int .i64 m] w fun e w'=>e=.returned (.tuple #[.slice none 0 0,.iface 45 (.int .i64 1)])∧w'=w:=by
 have hc:=isamount_any n w
 have h2:isAmt n=false∨(isAmt n=true∧(m<1∨(¬ m<1∧m > 60))):=by
  unfold evE at h
  unfold isAmt
  by_cases k:0≤n∧n≤1000000
  ·refine Or.inr ⟨decide_eq_true k,?_⟩
   by_cases k2:m<1
   ·exact Or.inl k2
   ·refine Or.inr ⟨k2,?_⟩
    by_cases k3:m > 60
    ·exact k3
    ·exact absurd (if_pos ⟨k.1,k.2,by omega,by omega⟩) h
  ·exact Or.inl (decide_eq_false k)
 clear h
 go_enter Tryz.func4,Tryz.ntmps4
 rcases h2 with h | ⟨h,h2 | ⟨h2,h3⟩⟩ <;>
  (rw [h] at hc
   go_wp2_with (go_at_call 10;refine hc.mono ?_;rintro e w1 ⟨rfl,hw1⟩;obtain rfl:=hw1.symm)
   go_ret2
   exact ⟨rfl,rfl⟩)
theorem even_any (n m:Int) (w:World):Calls Tryz.prog 4 #[.int .i64 n,.int .i64 m] w fun e w' => ∃ A c,e=.returned (.tuple #[.slice A (evO n m).length c,errV (evE n m)])∧PlAt w' A c (evO n m)∧Below w.heap.size w w':=by
 by_cases h:evE n m=0
 ·have h':0≤n∧n≤1000000∧1≤m∧m≤60:=by
   unfold evE at h
   by_cases k:0≤n∧n≤1000000∧1≤m∧m≤60
   ·exact k
   ·rw [if_neg k] at h;cases h
  obtain ⟨k,rfl⟩:∃ k:Nat,m=(k:Int):=⟨m.toNat,by omega⟩
  refine (even_ok n k w ⟨h'.1,h'.2.1⟩ (by omega) (by omega)).mono ?_
  rintro e w' ⟨g,rfl,hI,-,hB⟩
  have e1:evO n (k:Int)=evTo n k k:=by
   unfold evO;rw [if_pos h,Int.toNat_natCast]
   exact List.map_congr_left fun i hi=>(if_pos (List.mem_range.1 hi)).symm
  rw [e1,h]
  refine ⟨_,k,by rw [evTo_len];rfl,?_,hB⟩
  have:=hI.pl
  rwa [evTo_len] at this
 ·refine (even_bad n m w h).mono ?_
  rintro e w' ⟨rfl,rfl⟩
  have e1:evO n m=[]:=by unfold evO;rw [if_neg h]
  have e2:evE n m=1:=by
   unfold evE at h ⊢
   split
   ·rename_i k;rw [if_pos k] at h;exact absurd rfl h
   ·rfl
  rw [e1,e2]
  exact ⟨none,0,rfl,⟨Nat.le_refl _,Or.inl rfl⟩,Below.refl _ _⟩
def lkE (n:Int) (W:List Int):Int:=if isAmt n=false then 1 else if W.length=0∨60<W.length then 4 else if (W.any fun x => !isAmt x)=true then 1 else if W.sum=0 then 3 else 0
def LkO (n:Int) (W L:List Int):Prop:=if lkE n W=0 then ∃ P,PickOk W.length (prec n W) P (lkL n W).toNat∧L=lkO n W P else L=[]
theorem lkE_ok {n:Int} {W:List Int} (h:lkE n W=0):(0≤n∧n≤1000000)∧0<W.length∧W.length≤60∧(∀ x∈W,0≤x∧x≤1000000)∧0<W.sum:=by
 unfold lkE at h
 by_cases k1:isAmt n=false
 ·rw [if_pos k1] at h;cases h
 rw [if_neg k1] at h
 by_cases k2:W.length=0∨60<W.length
 ·rw [if_pos k2] at h;cases h
 rw [if_neg k2] at h
 by_cases k3:(W.any fun x => !isAmt x)=true
 ·rw [if_pos k3] at h;cases h
 rw [if_neg k3] at h
 have hall:∀ x∈W,0≤x∧x≤1000000:=fun x hx=>by
  by_cases k:isAmt x=true
  ·exact of_decide_eq_true k
  ·exact absurd (List.any_eq_true.2 ⟨x,hx,by simpa using k⟩) k3
 by_cases k4:W.sum=0
 ·rw [if_pos k4] at h;cases h
 refine ⟨of_decide_eq_true (by simpa [isAmt] using k1),by omega,by omega,hall,?_⟩
 have:∀ V:List Int,(∀ x∈V,0≤x∧x≤1000000)→0≤V.sum:=by
  intro V
  induction V with
  | nil=>simp
  | cons a V ih=>intro h;have:=h a (List.mem_cons_self ..);have:=ih fun x hx=>h x (List.mem_cons_of_mem _ hx);simp only [List.sum_cons];omega
 have:=this W hall
 omega
def sumW (W:List Int) (k:Nat):Int:=(W.take k).sum
theorem sumW_step {W:List Int} {k:Nat} (hk:k<W.length):sumW W (k+1)=sumW W k+W.getD k 0:=by
 unfold sumW
 rw [List.take_succ_eq_append_getElem hk,List.sum_append,List.getD_eq_getElem?_getD,List.getElem?_eq_getElem hk];simp
theorem sumW_bd {W:List Int} (h:∀ x∈W,0≤x∧x≤1000000):∀ k:Nat,k≤W.length→0≤sumW W k∧sumW W k≤(k:Int)*1000000
 | 0,_=>by simp [sumW]
 | k+1,hk=>by
  have:=sumW_bd h k (by omega)
  have hm:W.getD k 0∈W:=by rw [List.getD_eq_getElem?_getD,List.getElem?_eq_getElem (by omega)];exact List.getElem_mem _
  have:=h _ hm
  rw [sumW_step (by omega)];omega
theorem like1_in (args:Array Value) (w:World):(callFunc 12 args).run Tryz.prog w=.ok (.enter 12 args) w:=by simp [callFunc,Tryz.func12];rfl
set_option maxHeartbeats 8000000 in
theorem like_any (n:Int) (A:Option Addr) (cA:Nat) (W:List Int) (w:World) (hL:PlAt w A cA W) :
  Calls Tryz.prog 5 #[.int .i64 n,.slice A W.length cA] w fun e w' => ∃ A' c' L,e=.returned (.tuple #[.slice A' L.length c',errV (lkE n W)])∧PlAt w' A' c' L∧LkO n W L∧Below w.heap.size w w':=by
 have hc:=isamount_any n w
 have HL:Hid (PlAt w A cA W):=hL
 obtain ⟨k,hk⟩:∃ k,W.length=k:=⟨_,rfl⟩
 have HK:Hid (W.length=k):=hk
 have bad:∀ c:Int,c≠0→lkE n W=c→∀ w':World,Below w.heap.size w w'→∃ A' c' L,Ending.returned (.tuple #[.slice none 0 0,.iface 45 (.int .i64 c)])=.returned (.tuple #[.slice A' L.length c',errV (lkE n W)])∧PlAt w' A' c' L∧LkO n W L∧Below w.heap.size w w':=fun c hc0 h w' hB =>
  ⟨none,0,[],by rw [h];unfold errV;rw [if_neg hc0];rfl,⟨Nat.le_refl _,Or.inl rfl⟩,by unfold LkO;rw [if_neg (by rw [h];exact hc0)],hB⟩
 by_cases k1:isAmt n=false
 ·have HF:=hid_of (bad 1 (by decide) (by unfold lkE;rw [if_pos k1]) w (Below.refl _ _))
  rw [k1] at hc
  rw [hk]
  clear bad hL hk
  go_enter Tryz.func5,Tryz.ntmps5
  go_wp2_with (go_at_call 10;refine hc.mono ?_;rintro e w1 ⟨rfl,hw1⟩;obtain rfl:=hw1.symm)
  go_ret2
  exact HF.out
 have k1':isAmt n=true:=by simpa using k1
 rw [k1'] at hc
 by_cases k2:W.length=0∨60<W.length
 ·have HF:=hid_of (bad 4 (by decide) (by unfold lkE;rw [if_neg k1,if_pos k2]) w (Below.refl _ _))
  rw [hk] at k2 ⊢
  clear bad hL hk
  rcases Nat.eq_zero_or_pos k with h0 | h0
  ·have h0I:(k:Int)=0:=by omega
   go_enter Tryz.func5,Tryz.ntmps5
   go_wp2_with (go_at_call 10;refine hc.mono ?_;rintro e w1 ⟨rfl,hw1⟩;obtain rfl:=hw1.symm)
   go_ret2
   exact HF.out
  ·have h0I : ¬ (k:Int)=0:=by omega
   have h1I:(k:Int) > 60:=by omega
   go_enter Tryz.func5,Tryz.ntmps5
   go_wp2_with (go_at_call 10;refine hc.mono ?_;rintro e w1 ⟨rfl,hw1⟩;obtain rfl:=hw1.symm)
   go_ret2
   exact HF.out
 have hk0:0<k∧k≤60:=by omega
 have hk0I:((k:Int) == 0)=false:=by simp;omega
 have hk1I:decide (60<(k:Int))=false:=decide_eq_false (by omega)
 have hcf:=contm_pl 12 #[] (fun x => !isAmt x) like1_in A cA W w (by omega) hL (fun x w' _ _=>(like1_any x w').mono fun _ _ ⟨h1,h2⟩=>⟨h1,by rw [h2];exact Below.refl _ _⟩)
 rw [show decide (0≤findFrom (fun j => !isAmt (W.getD j 0)) W.length 0)=W.any (fun x => !isAmt x) from any_find (fun x => !isAmt x) W] at hcf
 by_cases k3:(W.any fun x => !isAmt x)=true
 ·have HF:=hid_of fun w' (hB:Below w.heap.size w w')=>bad 1 (by decide) (by unfold lkE;rw [if_neg k1,if_neg k2,if_pos k3]) w' hB
  rw [k3,hk] at hcf
  rw [hk]
  clear bad hL hk k2 k3
  go_enter Tryz.func5,Tryz.ntmps5
  go_wp2_with (first | (go_at_call 10;refine hc.mono ?_;rintro e w1 ⟨rfl,hw1⟩;obtain rfl:=hw1.symm) | (go_at_call 11;refine hcf.mono ?_;rintro e w2 ⟨rfl,hb2⟩;have HB2:=hid_of hb2;clear hb2))
  go_ret2
  exact HF.out _ HB2.out
 have k3':(W.any fun x => !isAmt x)=false:=by simpa using k3
 have hall:∀ x∈W,0≤x∧x≤1000000:=fun x hx=>by
  by_cases h:isAmt x=true
  ·exact of_decide_eq_true h
  ·exact absurd (List.any_eq_true.2 ⟨x,hx,by simpa using h⟩) k3
 have HA:=hid_of hall
 have HE:Hid (lkE n W=if W.sum=0 then 3 else 0):=by show _=_;unfold lkE;rw [if_neg k1,if_neg k2,if_neg k3]
 have hnn:0≤n∧n≤1000000:=of_decide_eq_true k1'
 have HN:Hid (0≤n∧n≤1000000):=hnn
 have HBAD:=hid_of bad
 rw [k3',hk] at hcf
 rw [hk]
 clear bad hL hk k2 k3 k3' hall k1 k1' hnn
 go_enter Tryz.func5,Tryz.ntmps5
 go_wp2_with (first | (go_at_call 10;refine hc.mono ?_;rintro e w1 ⟨rfl,hw1⟩;obtain rfl:=hw1.symm) | (go_at_call 11;refine hcf.mono ?_;rintro e w2 ⟨rfl,hb2⟩;have HB2:=hid_of hb2;clear hb2))
 clear hc hcf
 go_loopg [6,27] k (fun gg s6 s27 wr => ∃ j:Nat,j≤k∧gg=k-j∧s27=.int .i64 j∧s6=.int .i64 (sumW W j)∧wr=w2)
 case atStart=>exact ⟨0,Nat.zero_le _,rfl,rfl,by simp [sumW],rfl⟩
 case round =>
  obtain ⟨j,hjk,rfl,rfl,rfl,hwr⟩:=hrel
  obtain rfl:=hwr
  by_cases hlt:j<k
  ·have hjI:(j:Int)<(k:Int):=by omega
   obtain ⟨-,h0 | ⟨bA,oA,rfl,hbA,hX⟩⟩:=HL.out
   ·have:=HK.out;rw [h0] at this;simp at this;omega
   have hx:wr.cell? ⟨bA,oA+j,none⟩=some (.int .i64 (W.getD j 0)):=by rw [HB2.out.cell (by exact hbA)];exact hX j (by rw [HK.out];exact hlt)
   have hm:W.getD j 0∈W:=by rw [List.getD_eq_getElem?_getD,List.getElem?_eq_getElem (by rw [HK.out];exact hlt)];exact List.getElem_mem _
   have hw:=HA.out _ hm
   have hst:=sumW_step (W:=W) (k:=j) (by rw [HK.out];exact hlt)
   have hbd:=sumW_bd HA.out j (by rw [HK.out];omega)
   have hsw:IntKind.i64.wrap (sumW W j+W.getD j 0)=sumW W (j+1):=by rw [hst,IntKind.wrap_i64];omega
   obtain ⟨x,hxe⟩:∃ x,W.getD j 0=x:=⟨_,rfl⟩
   rw [hxe] at hx hsw
   obtain ⟨s2,hs2⟩:∃ s2,s2=sumW W (j+1):=⟨_,rfl⟩
   rw [←hs2] at hsw
   have HS2:Hid (s2=sumW W (j+1)):=hs2
   clear hX hm hw hst hbd hxe hs2
   go_wp2_with fail
   go_roundg (k-(j+1))
   case measure=>omega
   case rel=>exact ⟨j+1,by omega,rfl,by go_num,by rw [HS2.out],rfl⟩
  ·have hje:j=k:=by omega
   subst hje
   have hsum:sumW W j=W.sum:=by unfold sumW;rw [List.take_of_length_le (by rw [HK.out];exact Nat.le_refl _)]
   rw [hsum]
   by_cases k4:W.sum=0
   ·have HF:=hid_of (HBAD.out 3 (by decide) (by rw [HE.out,if_pos k4]) wr HB2.out)
    go_wp2_with fail
    go_ret2
    exact HF.out
   ·have h0:lkE n W=0:=by rw [HE.out,if_neg k4]
    obtain ⟨-,g1,g2,-,g3⟩:=lkE_ok h0
    have hcb:=byweight_any n A cA W wr (HL.out.later HB2.out) g1 g2 g3 HN.out HA.out
    have HF:Hid (∀ (P:Nat→Bool) (g:Nat) (w':World),PickOk W.length (prec n W) P (lkL n W).toNat→PB w' g (lkO n W P)→Below w.heap.size w w'→∃ A' c' L,Ending.returned (.tuple #[.slice (some ⟨g,0,none⟩) j j,.nilIface])=.returned (.tuple #[.slice A' L.length c',errV (lkE n W)])∧PlAt w' A' c' L∧LkO n W L∧Below w.heap.size w w'):=fun P g w' p1 p2 p3=>by
     have e1:(lkO n W P).length=j:=by rw [←HK.out];simp [lkO]
     refine ⟨some ⟨g,0,none⟩,j,lkO n W P,by rw [e1,h0];rfl,p2.pl (by rw [e1];exact Nat.le_refl _),?_,p3⟩
     unfold LkO
     rw [if_pos h0]
     exact ⟨P,p1,rfl⟩
    rw [HK.out] at hcb
    obtain ⟨s,hse⟩:∃ s,W.sum=s:=⟨_,rfl⟩
    rw [hse] at hcb k4 ⊢
    clear hsum g1 g2 g3 hse h0
    go_wp2_with fail
    refine hcb.mono ?_
    rintro e w3 ⟨P,g,p1,rfl,p2,-,p3⟩
    rw [←HK.out] at p1
    have HG:=hid_of (HF.out P g w3 p1 p2 (HB2.out.trans (p3.mono HB2.out.size)))
    clear p1 p2 p3 HF hcb
    go_wp2_with fail
    go_ret2
    exact HG.out
def amT (W:List Int):Bool:=(W.any fun x=>decide (0<x)) && !(W.any fun x=>decide (x<0))
def amE (n:Int) (W:List Int):Int:=if amT W=true then lkE n W else evE n W.length
def AmO (n:Int) (W L:List Int):Prop:=if amT W=true then LkO n W L else L=evO n W.length
theorem AmO.len {n:Int} {W L:List Int} (h:AmO n W L) (h0:amE n W=0):L.length=W.length:=by
 unfold AmO amE at *
 by_cases e:amT W=true
 ·rw [if_pos e] at h h0
  unfold LkO at h
  rw [if_pos h0] at h
  obtain ⟨P,-,rfl⟩:=h
  simp [lkO]
 ·rw [if_neg e] at h h0
  rw [h];unfold evO;rw [if_pos h0];simp
set_option maxHeartbeats 1000000 in
theorem among1_any (n:Int) (w:World):Calls Tryz.prog 38 #[.int .i64 n] w fun e w'=>e=.returned (.bool (decide (n<0)))∧w'=w:=by
 go_enter Tryz.func38,Tryz.ntmps38
 go_wp2_with fail
 go_ret
 exact ⟨rfl,rfl⟩
set_option maxHeartbeats 1000000 in
theorem among2_any (n:Int) (w:World):Calls Tryz.prog 39 #[.int .i64 n] w fun e w'=>e=.returned (.bool (decide (0<n)))∧w'=w:=by
 go_enter Tryz.func39,Tryz.ntmps39
 go_wp2_with fail
 go_ret
 exact ⟨rfl,rfl⟩
theorem among1_in (args:Array Value) (w:World):(callFunc 38 args).run Tryz.prog w=.ok (.enter 38 args) w:=by simp [callFunc,Tryz.func38];rfl
theorem among2_in (args:Array Value) (w:World):(callFunc 39 args).run Tryz.prog w=.ok (.enter 39 args) w:=by simp [callFunc,Tryz.func39];rfl
set_option maxHeartbeats 4000000 in
theorem among_any (n:Int) (A:Option Addr) (cA:Nat) (W:List Int) (w:World) (hL:PlAt w A cA W) (hlen:W.length≤1048576) :
  Calls Tryz.prog 19 #[.int .i64 n,.slice A W.length cA] w fun e w' => ∃ A' c' L,e=.returned (.tuple #[.slice A' L.length c',errV (amE n W)])∧PlAt w' A' c' L∧AmO n W L∧Below w.heap.size w w':=by
 have h1:∀ w',Below w.heap.size w w'→Calls Tryz.prog 11 #[.slice A W.length cA,.func (.func 38) #[] #[]] w' fun e w''=>e=.returned (.bool (W.any fun x=>decide (x<0)))∧Below w'.heap.size w' w'':=fun w' hB=>by
  have:=contm_pl 38 #[] (fun x=>decide (x<0)) among1_in A cA W w' hlen (hL.later hB) (fun x w' _ _=>(among1_any x w').mono fun _ _ ⟨h1,h2⟩=>⟨h1,by rw [h2];exact Below.refl _ _⟩)
  rwa [show decide (0≤findFrom (fun j=>decide (W.getD j 0<0)) W.length 0)=W.any (fun x=>decide (x<0)) from any_find (fun x=>decide (x<0)) W] at this
 have h2:∀ w',Below w.heap.size w w'→Calls Tryz.prog 11 #[.slice A W.length cA,.func (.func 39) #[] #[]] w' fun e w''=>e=.returned (.bool (W.any fun x=>decide (0<x)))∧Below w'.heap.size w' w'':=fun w' hB=>by
  have:=contm_pl 39 #[] (fun x=>decide (0<x)) among2_in A cA W w' hlen (hL.later hB) (fun x w' _ _=>(among2_any x w').mono fun _ _ ⟨h1,h2⟩=>⟨h1,by rw [h2];exact Below.refl _ _⟩)
  rwa [show decide (0≤findFrom (fun j=>decide (0<W.getD j 0)) W.length 0)=W.any (fun x=>decide (0<x)) from any_find (fun x=>decide (0<x)) W] at this
 have H1:=hid_of h1
 have H2:=hid_of h2
 have HL:=hid_of hL
 have HA:Hid (amT W=((W.any fun x=>decide (0<x)) && !(W.any fun x=>decide (x<0)))):=rfl
 have hc3:=fun w' (hB:Below w.heap.size w w')=>like_any n A cA W w' (HL.out.later hB)
 have H3:=hid_of hc3
 have H4:=hid_of fun w'=>even_any n (W.length:Int) w'
 obtain ⟨k,hk⟩:∃ k,W.length=k:=⟨_,rfl⟩
 have HK:=hid_of hk
 rw [hk] at H1 H2 H3 H4 ⊢
 clear h1 h2 hc3 hL hlen hk
 go_enter Tryz.func19,Tryz.ntmps19
 go_wp2_with fail
 refine (H1.out w (Below.refl _ _)).mono ?_
 rintro e w1 ⟨rfl,hb1⟩
 have HB1:=hid_of hb1
 clear hb1
 generalize (W.any fun x=>decide (x<0))=b1 at HA ⊢
 go_wp2_with fail
 refine (H2.out w1 HB1.out).mono ?_
 rintro e w2 ⟨rfl,hb2⟩
 have HB2:Hid (Below w.heap.size w w2):=onB HB1.out hb2
 clear hb2
 generalize (W.any fun x=>decide (0<x))=b2 at HA ⊢
 by_cases hb:b2=true∧b1=false
 ·obtain ⟨rfl,rfl⟩:=hb
  have hT:amT W=true:=by rw [HA.out];rfl
  have HF:Hid (∀ L,LkO n W L→AmO n W L):=fun L h=>by unfold AmO;rw [if_pos hT];exact h
  have HG:Hid (amE n W=lkE n W):=by show _=_;unfold amE;rw [if_pos hT]
  go_wp2_with fail
  refine (H3.out w2 HB2.out).mono ?_
  rintro e w3 ⟨A',c',L,rfl,h1,h2,h3⟩
  have HR:=hid_of (And.intro h1 (And.intro (HF.out L h2) (onB HB2.out h3)))
  clear h1 h2 h3
  rw [←HG.out]
  go_wp2_with fail
  go_ret2
  exact ⟨A',c',L,rfl,HR.out⟩
 ·have hT : ¬ amT W=true:=by rw [HA.out];cases b1 <;> cases b2 <;> simp_all
  have HF:Hid (AmO n W (evO n W.length)):=by show AmO ..;unfold AmO;rw [if_neg hT]
  have HG:Hid (amE n W=evE n k):=by show _=_;unfold amE;rw [if_neg hT,HK.out]
  have HF2:Hid (∀ w3,Below w.heap.size w w3→∀ A' c',PlAt w3 A' c' (evO n (k:Int))→∃ A'' c'' L,Ending.returned (.tuple #[.slice A' (evO n (k:Int)).length c',errV (amE n W)])=.returned (.tuple #[.slice A'' L.length c'',errV (amE n W)])∧PlAt w3 A'' c'' L∧AmO n W L∧Below w.heap.size w w3):=fun w3 h3 A' c' h1=>⟨A',c',_,rfl,h1,by have:=HF.out;rw [HK.out] at this;exact this,h3⟩
  have hcase:b2=false∨(b2=true∧b1=true):=by cases b1 <;> cases b2 <;> simp_all
  clear hb HF hT
  rcases hcase with rfl | ⟨rfl,rfl⟩
  all_goals
   go_wp2_with fail
   refine (H4.out w2).mono ?_
   rintro e w3 ⟨A',c',rfl,h1,h3⟩
   have HR:=hid_of (HF2.out w3 (onB HB2.out h3) A' c' h1)
   clear h1 h3
   rw [←HG.out]
   go_wp2_with fail
   go_ret2
   exact HR.out
theorem lf_in {D:Nat→Dm} {n:Nat} {p q:List Int} (hR:(allErr D n).2.2=0) (hq:q∈lfTo D p n):InO D n q∧leafV D n q=true∧inTo D p q n=true:=by
 rw [←docL_all hR] at hq
 unfold docL at hq
 obtain ⟨h1,h2⟩:=List.mem_filter.1 hq
 obtain ⟨x,-,rfl⟩:=List.mem_map.1 h1
 simp only [Bool.and_eq_true] at h2
 exact ⟨placeL_in hR,h2.1,h2.2⟩
theorem lf_weight {D:Nat→Dm} {n:Nat} {p q:List Int} (hp:InO D n p) (hq:q∈lfTo D p n):rwErr D n p q=0∧rwV D n p q=pwTo D p q n:=by
 obtain ⟨h1,h2,h3⟩:=lf_in hp.right hq
 have e:rwErr D n p q=0:=by
  unfold rwErr
  rw [if_neg (by rw [hp.ok];decide),if_neg (by rw [h1.ok];decide),h2,h3];rfl
 exact ⟨e,by unfold rwV;rw [if_pos e]⟩
def clB (D:Nat→Dm) (n:Nat) (p:List Int) (l:List (List Int)):Bool:=l.any fun q=>decide (pwTo D p q n≠1)
def clE (D:Nat→Dm) (n:Nat) (p:List Int):Int:=if lfTo D p n=[] then 3 else if clB D n p (lfTo D p n)=true then 3 else if 60<(lfTo D p n).length then 4 else 0
set_option maxHeartbeats 8000000 in
theorem checkleafs_any (A0:Option Addr) (cap n:Nat) (D:Nat→Dm) (A:Nat→Option Addr) (C:Nat→Nat) (Ap:Option Addr) (cp:Nat) (p:List Int) (Ay:Option Addr) (cy:Nat) (ys:List PL) (w:World) (hp:InO D n p) (hM:DimsV w A0 cap n D A C) (hP:PlAt w Ap cp p) (hY:PlsV w Ay cy ys) (hl:lP ys=lfTo D p n) :
  Calls Tryz.prog 17 #[.agg #[.slice A0 n cap],.slice Ap p.length cp,.slice Ay ys.length cy] w fun e w'=>e=.returned (errV (clE D n p))∧Below w.heap.size w w':=by
 have hB0:=ownOut_below w A0 n cap 25
 have hS:=ownOut_size w A0 n cap 25
 have hA:=ownOut_at w A0 n cap 25
 obtain ⟨W,hW⟩:∃ W,ownOut w A0 n cap 25=W:=⟨_,rfl⟩
 rw [hW] at hB0 hS hA
 unfold ownOut at hW
 obtain ⟨k,hk⟩:∃ k,ys.length=k:=⟨_,rfl⟩
 have hlen:(lfTo D p n).length=k:=by rw [←hl,lP_len,hk]
 have hk3:k≤3000:=by have:=lfTo_len (D:=D) p n;have:=(allErr_some hp.right).2.2.1;omega
 have HK:Hid (ys.length=k∧(lfTo D p n).length=k):=⟨hk,hlen⟩
 have HWt:Hid (∀ (j:Nat) (w':World),j<k→Below w.heap.size w w'→Calls Tryz.prog 37 #[.agg #[.slice A0 n cap],.slice Ap p.length cp,.slice (ys.getD j noP).A (ys.getD j noP).p.length (ys.getD j noP).c] w' fun e w''=>e=.returned (.tuple #[.int .i64 (pwTo D p (ys.getD j noP).p n),.nilIface])∧Below w'.heap.size w' w''):=fun j w' hj hB=>by
  have hm:ys.getD j noP∈ys:=pl_mem (by omega)
  have hq:(ys.getD j noP).p∈lfTo D p n:=by rw [←hl];exact List.mem_map.2 ⟨_,hm,rfl⟩
  obtain ⟨e1,e2⟩:=lf_weight hp hq
  have:=rweight_ok A0 cap n D A C Ap cp p _ _ _ w' hp (lf_in hp.right hq).1 (hM.later hB) (hP.later hB) ((hY.2.2 _ hm).pl.later hB)
  rw [e1,e2] at this
  exact this
 have HY:Hid (PlsV w Ay cy ys):=hY
 have HQ:Hid (∀ j,j<k→(lfTo D p n).getD j []=(ys.getD j noP).p):=fun j hj=>by rw [←hl,lP_at]
 have HB0:Hid (Below w.heap.size w W):=hB0
 have hkI:(k:Int)≤3000:=by omega
 rw [hk]
 clear hM hP hY hl hk hlen hB0
 by_cases h0:k=0
 ·have h0I:((k:Int) == 0)=true:=by simp;omega
  have HE:Hid (errV (clE D n p)=.iface 45 (.int .i64 3)):=by
   show _=_
   unfold clE
   rw [if_pos (List.eq_nil_of_length_eq_zero (by rw [HK.out.2];exact h0))];rfl
  rw [HE.out]
  clear hp
  go_enter Tryz.func17,Tryz.ntmps17
  go_wp2_with fail
  go_ret
  exact ⟨rfl,HB0.out⟩
 have h0I:((k:Int) == 0)=false:=by simp;omega
 have HE:Hid (clE D n p=if clB D n p (lfTo D p n)=true then 3 else if 60<k then 4 else 0):=by
  show _=_
  unfold clE
  rw [if_neg (fun h=>h0 (by have:=HK.out.2;rw [h] at this;exact this.symm)),HK.out.2]
 have HS1:Hid (∀ j,j<k→clB D n p ((lfTo D p n).take (j+1))=(clB D n p ((lfTo D p n).take j) || decide (pwTo D p (ys.getD j noP).p n≠1))):=fun j hj=>by
  have hj2:j<(lfTo D p n).length:=by rw [HK.out.2];exact hj
  unfold clB
  rw [List.take_succ_eq_append_getElem hj2,List.any_append]
  congr 1
  have:=HQ.out j hj
  rw [List.getD_eq_getElem?_getD,List.getElem?_eq_getElem hj2] at this
  simp only [Option.getD_some] at this
  simp [this]
 have HS2:Hid (∀ j,j<k→pwTo D p (ys.getD j noP).p n≠1→clB D n p (lfTo D p n)=true):=fun j hj h=>by
  have h1:clB D n p ((lfTo D p n).take (j+1))=true:=by rw [HS1.out j hj,decide_eq_true h,Bool.or_true]
  unfold clB at h1 ⊢
  obtain ⟨x,hx,e⟩:=List.any_eq_true.1 h1
  exact List.any_eq_true.2 ⟨x,List.mem_of_mem_take hx,e⟩
 clear hp
 go_enter Tryz.func17,Tryz.ntmps17
 go_upto_region 3 with fail
 have l0:w.heap.size<W.heap.size:=by omega
 clear hW hS
 go_wp2_with fail
 go_loopg [8,9,10,17] k (fun gg s8 s9 s10 s17 wr => ∃ (j:Nat),(∃ x,x=s8)∧(∃ x,x=s9)∧(∃ x,x=s10)∧j≤k∧gg=k-j∧s17=.int .i64 j∧wr.cell? ⟨w.heap.size,0,none⟩=some (.slice A0 n cap)∧w.heap.size<wr.heap.size∧Hid (clB D n p ((lfTo D p n).take j)=false)∧Hid (Below w.heap.size w wr))
 case atStart=>exact ⟨0,⟨_,rfl⟩,⟨_,rfl⟩,⟨_,rfl⟩,Nat.zero_le _,rfl,rfl,hA,l0,rfl,HB0⟩
 case round =>
  clear hA l0 HB0
  obtain ⟨j,⟨v8,rfl⟩,⟨v9,rfl⟩,⟨v10,rfl⟩,hjk,rfl,rfl,hA,l0,HN,HB⟩:=hrel
  by_cases hlt:j<k
  ·have hjI:(j:Int)<(k:Int):=by omega
   obtain ⟨-,hy0 | ⟨b,o,rfl,hb,hX⟩,-⟩:=HY.out
   ·have:=HK.out.1;rw [hy0] at this;simp at this;omega
   have c1:wr.cell? ⟨b,o+j,none⟩=some (.slice (ys.getD j noP).A (ys.getD j noP).p.length (ys.getD j noP).c):=by rw [HB.out.cell (by exact hb)];exact hX j (by rw [HK.out.1];exact hlt)
   have hc:=HWt.out j wr hlt HB.out
   have s1:=HS1.out j hlt
   have s2:=HS2.out j hlt
   generalize (ys.getD j noP).p.length=lq at c1 hc
   generalize (ys.getD j noP).A=Aq at c1 hc
   generalize (ys.getD j noP).c=cq at c1 hc
   obtain ⟨v,hv⟩:∃ v,pwTo D p (ys.getD j noP).p n=v:=⟨_,rfl⟩
   rw [hv] at hc s1 s2
   by_cases h1:v=1
   ·subst h1
    have HN2:Hid (clB D n p ((lfTo D p n).take (j+1))=false):=by show _=_;rw [s1,HN.out];rfl
    clear s1 s2 hv hX HN
    go_wp2_with fail
    refine hc.mono ?_
    rintro e w2 ⟨rfl,hb2⟩
    have hA2:w2.cell? ⟨w.heap.size,0,none⟩=some (.slice A0 n cap):=(hb2.cell l0).trans hA
    have l2:w.heap.size<w2.heap.size:=Nat.lt_of_lt_of_le l0 hb2.size
    have HB2:Hid (Below w.heap.size w w2):=onB HB.out hb2
    clear hb2 hc c1 hA l0 HB
    go_wp2_with fail
    go_roundg (k-(j+1))
    case measure=>omega
    case rel=>exact ⟨j+1,⟨_,rfl⟩,⟨_,rfl⟩,⟨_,rfl⟩,by omega,rfl,by go_num,hA2,l2,HN2,HB2⟩
   ·have h1I:(v == 1)=false:=by simpa using h1
    have HE2:Hid (errV (clE D n p)=.iface 45 (.int .i64 3)):=by show _=_;rw [HE.out,if_pos (s2 h1)];rfl
    clear s1 s2 hv hX HN
    go_wp2_with fail
    refine hc.mono ?_
    rintro e w2 ⟨rfl,hb2⟩
    have HB2:Hid (Below w.heap.size w w2):=onB HB.out hb2
    clear hb2 hc c1 hA l0 HB
    go_wp2_with fail
    go_ret
    exact ⟨congrArg Ending.returned HE2.out.symm,HB2.out⟩
  ·have hje:j=k:=by omega
   subst hje
   have hN:clB D n p (lfTo D p n)=false:=by have:=HN.out;rw [List.take_of_length_le (by rw [HK.out.2];exact Nat.le_refl _)] at this;exact this
   by_cases h60:60<j
   ·have h60I:(j:Int) > 60:=by omega
    have HE2:Hid (errV (clE D n p)=.iface 45 (.int .i64 4)):=by show _=_;rw [HE.out,hN,if_neg (by decide),if_pos h60];rfl
    clear hN
    go_wp2_with fail
    go_ret
    exact ⟨congrArg Ending.returned HE2.out.symm,HB.out⟩
   ·have h60I : ¬ (j:Int) > 60:=by omega
    have HE2:Hid (errV (clE D n p)=.nilIface):=by show _=_;rw [HE.out,hN,if_neg (by decide),if_neg h60];rfl
    clear hN
    go_wp2_with fail
    go_ret
    exact ⟨congrArg Ending.returned HE2.out.symm,HB.out⟩
end Go.Proofs.YtbhanigcjdegjaaGreatDoor
