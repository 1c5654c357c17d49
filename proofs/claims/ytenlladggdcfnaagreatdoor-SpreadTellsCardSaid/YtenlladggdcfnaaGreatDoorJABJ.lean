/-
  How leafs count in a place: what anyOf and Weight of package roll answer, called in whatever memory.
-/
import Derived.Laws.AppendOwnNone
import Derived.Test.YtenlladggdcfnaaGreatDoorJAAX
import Derived.Test.YtenlladggdcfnaaGreatDoorJABI
namespace Go.Proofs.YtenlladggdcfnaaGreatDoor
open Go.ChangeShapes Go.WideShapes Go.ChangeAt Go.RowKit
set_option maxRecDepth 20000
set_option maxHeartbeats 2000000 in
theorem ranyof_any (fn q r:Nat) (he:EntersO fn) (A0:Option Addr) (n cap:Nat) (p:Nat→Bool) (w:World) (hn:n≤4) (hp:AskP fn q r w n p):Calls Tryz.prog 76 #[.slice A0 n cap,.func (.func fn) #[] #[.pointer (some ⟨q,0,none⟩),.pointer (some ⟨r,0,none⟩)]] w fun e w'=>e=.returned (.bool (decide (0≤findFrom p n 0)))∧Below w.heap.size w w':=by
 have HP:Hid (AskP fn q r w n p):=hp
 have hn':(n:Int)≤4:=by omega
 clear hp
 unfold EntersO at he
 go_enter Tryz.func76,Tryz.ntmps76
 go_wp2_with fail
 go_loopg [8] n (fun g s8 wr => ∃ (k:Nat),k≤n∧g=n-k∧s8=.int .i64 k∧findFrom p (n-k) k=findFrom p n 0∧Below w.heap.size w wr)
 case atStart=>exact ⟨0,Nat.zero_le _,rfl,rfl,rfl,by go_grown⟩
 case round =>
  obtain ⟨k,hk,rfl,rfl,hf,hBw⟩:=hrel
  have HF:Hid (findFrom p (n-k) k=findFrom p n 0):=hf
  have HW:Hid (Below w.heap.size w wr):=hBw
  by_cases hlt:k<n
  ·have hki:(k:Int)<(n:Int):=by omega
   have HSK:Hid (n-k=(n-(k+1))+1):=by show _=_;omega
   have hbd:=HP.out k wr hlt hBw
   clear hf hBw
   cases hb:p k
   ·rw [hb] at hbd
    have HK:Hid (p k=false):=hb
    clear hb
    go_wp2_with fail
    refine hbd.mono ?_
    rintro e w1 ⟨rfl,hb1⟩
    go_wp2_with fail
    go_roundg (n-(k+1))
    case measure=>omega
    case rel=>exact ⟨k+1,by omega,rfl,by go_num,by rw [←HF.out,HSK.out,findFrom_miss _ HK.out],onB HW.out hb1⟩
   ·rw [hb] at hbd
    have HK:Hid (p k=true):=hb
    clear hb
    go_wp2_with fail
    refine hbd.mono ?_
    rintro e w1 ⟨rfl,hb1⟩
    go_wp2_with fail
    go_ret
    exact ⟨by rw [←HF.out,HSK.out,findFrom_hit _ HK.out,decide_eq_true (by omega)];rfl,onB HW.out hb1⟩
  ·have hke:k=n:=by omega
   subst hke
   clear hf hBw
   go_wp2_with fail
   go_ret
   exact ⟨by rw [←HF.out,Nat.sub_self];rfl,HW.out⟩
theorem rw1_in:EntersO 77:=fun args w=>by simp [callFunc,Tryz.func77];rfl
def Quad (W:World) (q g k r b o:Nat) (v0 v1 v2 x:Value):Prop:=(q<W.heap.size∧g<W.heap.size∧r<W.heap.size∧b<W.heap.size)∧W.cell? ⟨q,0,none⟩=some v0∧W.cell? ⟨g,k,none⟩=some v1∧W.cell? ⟨r,0,none⟩=some v2∧W.cell? ⟨b,o,none⟩=some x
theorem keepQ {W w':World} {q g k r b o:Nat} {v0 v1 v2 x:Value} (h:Quad W q g k r b o v0 v1 v2 x) (hB:Below W.heap.size W w'):Below W.heap.size W w'∧w'.cell? ⟨q,0,none⟩=some v0∧w'.cell? ⟨g,k,none⟩=some v1∧w'.cell? ⟨r,0,none⟩=some v2∧w'.cell? ⟨b,o,none⟩=some x:=by
 obtain ⟨⟨h1,h2,h3,h4⟩,c0,c1,c2,c3⟩:=h
 exact ⟨hB,(hB.cell (p:=⟨q,0,none⟩) h1).trans c0,(hB.cell (p:=⟨g,k,none⟩) h2).trans c1,(hB.cell (p:=⟨r,0,none⟩) h3).trans c2,(hB.cell (p:=⟨b,o,none⟩) h4).trans c3⟩
set_option maxHeartbeats 2000000 in
theorem rw1_any (g n k q r b o c:Nat) (L:Nat→List Int) (x:Int) (w:World) (hk:k<n) (hn:n≤4) (hL:(L k).length≤12) (hS:SlB w g n n L) (hq:q<w.heap.size) (hr:r<w.heap.size) (hb:b<w.heap.size) (h0:w.cell? ⟨q,0,none⟩=some (.slice (some ⟨g,0,none⟩) n n)) (h1:w.cell? ⟨r,0,none⟩=some (.slice (some ⟨b,o,none⟩) n c)) (hx:w.cell? ⟨b,o+k,none⟩=some (.int .i64 x)) :
  Calls Tryz.prog 77 #[.int .i64 k,.pointer (some ⟨q,0,none⟩),.pointer (some ⟨r,0,none⟩)] w fun e w'=>e=.returned (.bool (!inB (L k) x))∧Below w.heap.size w w':=by
 obtain ⟨AL,cL,hcL,hIL⟩:=hS.get hk
 have HQd:Hid (Quad w q g k r b (o+k) (.slice (some ⟨g,0,none⟩) n n) (.slice AL (L k).length cL) (.slice (some ⟨b,o,none⟩) n c) (.int .i64 x)):=⟨⟨hq,hS.lt,hr,hb⟩,h0,hcL,h1,hx⟩
 have HC:Hid (∀ w',Below w.heap.size w w'→Calls Tryz.prog 78 #[.slice AL (L k).length cL,.int .i64 x] w' fun e w''=>e=.returned (.bool (inB (L k) x))∧Below w'.heap.size w' w''):=fun w' hw'=>contains_ints AL cL (L k) x w' hL (hIL.later hw')
 have hki:(k:Int)<(n:Int):=by omega
 have hn':(n:Int)≤4:=by omega
 generalize L k=X at HQd HC
 generalize inB X x=t at HC
 clear hS hIL hcL h0 h1 hx hL
 go_enter Tryz.func77,Tryz.ntmps77
 go_wp2_with fail
 go_region_held3 (fun w'=>Below w.heap.size w w'∧w'.cell? ⟨q,0,none⟩=some (.slice (some ⟨g,0,none⟩) n n)∧w'.cell? ⟨g,k,none⟩=some (.slice AL X.length cL)∧w'.cell? ⟨r,0,none⟩=some (.slice (some ⟨b,o,none⟩) n c)∧w'.cell? ⟨b,o+k,none⟩=some (.int .i64 x))
  ((refine keepQ HQd.out ?_;go_grown;done))
  (first | (go_at_call 78;refine (HC.out _ (by go_grown)).mono ?_;rintro e w6 ⟨rfl,hb6⟩;have hN6:=onB (W0:=w) (by go_grown) hb6;have hy6:=hN6.size;clear hb6))
 all_goals go_wp2_with fail
 all_goals go_ret
 all_goals exact ⟨rfl,by go_grown⟩
def rwErr (D:Nat→Dm) (n:Nat) (p q:List Int):Int:=if placeErr D n p≠0 then placeErr D n p else if placeErr D n q≠0 then placeErr D n q else if (leafV D n q && inTo D p q n)=true then 0 else 3
def rwV (D:Nat→Dm) (n:Nat) (p q:List Int):Int:=if rwErr D n p q=0 then pwTo D p q n else 0
def noneW (D:Nat→Dm) (p q:List Int) (i:Nat):Bool := !inB (lfs D p i) (q.getD i 0)
theorem lfs_in {D:Nat→Dm} {p:List Int} {i m:Nat} (hm:m<(D i).n):inB (lfs D p i) (m:Int)=leafIn (D i).mem (D i).n (p.getD i 0) m:=by
 cases h:leafIn (D i).mem (D i).n (p.getD i 0) m
 ·unfold inB
  refine decide_eq_false fun h1=>?_
  obtain ⟨m',e,-,h2⟩:=lfs_mem _ h1
  have:m=m':=by omega
  subst this
  rw [h] at h2
  cases h2
 ·unfold inB
  exact decide_eq_true (sel_in hm h)
theorem noneW_find {D:Nat→Dm} {n:Nat} {p q:List Int} (hq:InO D n q):decide (0≤findFrom (noneW D p q) n 0) = !(leafV D n q && inTo D p q n):=by
 rw [←ok_is hq]
 have h1:∀ m i,i+m=n→okTo D p q i=true→(decide (0≤findFrom (noneW D p q) m i) = !okTo D p q n):=by
  intro m
  induction m with
  | zero =>
   intro i hi ho
   have:i=n:=by omega
   subst this
   rw [ho]
   simp [findFrom]
  | succ m ih =>
   intro i hi ho
   have hlo:=hq.lo i (by omega)
   have hhi:=hq.hi i (by omega)
   have e:inB (lfs D p i) (q.getD i 0)=leafIn (D i).mem (D i).n (p.getD i 0) (q.getD i 0).toNat:=by
    have:=lfs_in (D:=D) (p:=p) (i:=i) (m:=(q.getD i 0).toNat) (by omega)
    rw [show ((q.getD i 0).toNat:Int)=q.getD i 0 by omega] at this
    exact this
   cases hb:leafIn (D i).mem (D i).n (p.getD i 0) (q.getD i 0).toNat
   ·have hn:noneW D p q i=true:=by unfold noneW;rw [e,hb];rfl
    rw [findFrom_hit _ hn,decide_eq_true (by omega)]
    have h2:∀ j,i+1≤j→okTo D p q j=false:=by
     intro j hj
     induction j with
     | zero=>omega
     | succ j ihj =>
      by_cases h5:i+1=j+1
      ·have:i=j:=by omega
       subst this
       rw [okTo,hb,Bool.and_false]
      ·rw [okTo,ihj (by omega),Bool.false_and]
    rw [h2 n (by omega)];rfl
   ·have hn:noneW D p q i=false:=by unfold noneW;rw [e,hb];rfl
    rw [findFrom_miss _ hn]
    exact ih (i+1) (by omega) (by rw [okTo,ho,hb];rfl)
 exact h1 n 0 (by omega) rfl
set_option maxHeartbeats 4000000 in
theorem rweight_ok (A0:Option Addr) (cap n:Nat) (D:Nat→Dm) (A:Nat→Option Addr) (C:Nat→Nat) (Ap:Option Addr) (cp:Nat) (p:List Int) (Aq:Option Addr) (cq:Nat) (q:List Int) (w:World) (hp:InO D n p) (hq:InO D n q) (hM:DimsV w A0 cap n D A C) (hP:PlAt w Ap cp p) (hQ:PlAt w Aq cq q) :
  Calls Tryz.prog 51 #[.agg #[.slice A0 n cap],.slice Ap p.length cp,.slice Aq q.length cq] w fun e w'=>e=.returned (.tuple #[.int .i64 (rwV D n p q),errV (rwErr D n p q)])∧Below w.heap.size w w':=by
 have HLs:Hid (∀ w',Below w.heap.size w w'→Calls Tryz.prog 49 #[.agg #[.slice A0 n cap],.slice Ap p.length cp] w' fun e w''=>(∃ g,e=.returned (.tuple #[.slice (some ⟨g,0,none⟩) n n,.nilIface])∧SlB w'' g n n (lfs D p))∧Below w'.heap.size w' w''):=fun w' hw'=>rls_any A0 cap n D A C Ap cp p w' hp (hM.later hw') (hP.later hw')
 have HWs:Hid (∀ w',Below w.heap.size w w'→Calls Tryz.prog 79 #[.agg #[.slice A0 n cap],.slice Ap p.length cp] w' fun e w''=>(∃ g,e=.returned (.tuple #[.slice (some ⟨g,0,none⟩) n n,.nilIface])∧SlB w'' g n n (wts D p))∧Below w'.heap.size w' w''):=fun w' hw'=>rws_any A0 cap n D A C Ap cp p w' hp (hM.later hw') (hP.later hw')
 have HCh:Hid (∀ w',Below w.heap.size w w'→Calls Tryz.prog 72 #[.agg #[.slice A0 n cap],.slice Aq q.length cq] w' fun e w''=>e=.returned .nilIface∧Below w'.heap.size w' w''):=fun w' hw'=>by
  have h1:=pcheck_any A0 cap n D A C Aq cq q w' (hM.later hw') (hQ.later hw')
  rw [hq.ok,errV_zero] at h1
  exact h1
 have HPd:Hid (∀ g w',Below w.heap.size w w'→SlB w' g n n (wts D p)→Calls Tryz.prog 80 #[.slice (some ⟨g,0,none⟩) n n,.slice Aq q.length cq] w' fun e w''=>e=.returned (.int .i64 (prTo (wts D p) q n))∧Below w'.heap.size w' w''):=fun g w' hw' hS=>rprod_any g n D p Aq cq q w' hq hS (hQ.later hw')
 have HQ:Hid (InO D n q):=hq
 obtain ⟨hn1,hn4,-,hd⟩:=allErr_some hp.right
 have HFd:Hid (decide (0≤findFrom (noneW D p q) n 0) = !(leafV D n q && inTo D p q n)):=noneW_find hq
 have HRE:Hid (rwErr D n p q=if (leafV D n q && inTo D p q n)=true then 0 else 3):=by show _=_;unfold rwErr;rw [hp.ok,hq.ok];rfl
 have HLn:Hid (∀ i,i<n→(lfs D p i).length≤12):=fun i hi=>Nat.le_trans (lfs_len D p i) (hd i hi).2
 have HRV:Hid ((leafV D n q && inTo D p q n)=true→prTo (wts D p) q n=pwTo D p q n):=fun h=>pr_wts hq (by rw [Bool.and_eq_true] at h;exact h.1) p n (Nat.le_refl _)
 have hl:=hq.len
 obtain ⟨hcq,h0 | ⟨bq,oq,rfl,hbq,hcell⟩⟩:=hQ
 ·rw [h0] at hl;simp at hl;omega
 rw [hl] at HCh HPd hcq
 rw [hl]
 have HC:Hid (∀ j,j<n→w.cell? ⟨bq,oq+j,none⟩=some (.int .i64 (q.getD j 0))):=fun j hj=>hcell j (by omega)
 generalize p.length=np at HLs HWs
 have hn':(n:Int)≤4:=by omega
 clear hp hq hM hP hcell hl hd
 go_enter Tryz.func51,Tryz.ntmps51
 go_wp2_with fail
 have HB0:Hid (Below w.heap.size w (ownOP w A0 n cap (some ⟨bq,oq,none⟩) n cq 25 27)):=ownOP_below ..
 refine (HLs.out _ HB0.out).mono ?_
 rintro e w1 ⟨⟨g,rfl,hS⟩,hb1⟩
 have hB:Below w.heap.size w w1:=onB HB0.out hb1
 have hz:w.heap.size+1<w1.heap.size:=by have:=hb1.size;change (ownOP w A0 n cap (some ⟨bq,oq,none⟩) n cq 25 27).heap.size≤_ at this;rw [ownOP_size] at this;omega
 have c1:w1.cell? ⟨w.heap.size,0,none⟩=some (.slice A0 n cap):=(hb1.cell (p:=⟨w.heap.size,0,none⟩) (by show w.heap.size<(ownOP w A0 n cap (some ⟨bq,oq,none⟩) n cq 25 27).heap.size;rw [ownOP_size];omega)).trans (ownOP_o ..)
 have c2:w1.cell? ⟨w.heap.size+1,0,none⟩=some (.slice (some ⟨bq,oq,none⟩) n cq):=(hb1.cell (p:=⟨w.heap.size+1,0,none⟩) (by show w.heap.size+1<(ownOP w A0 n cap (some ⟨bq,oq,none⟩) n cq 25 27).heap.size;rw [ownOP_size];omega)).trans (ownOP_p ..)
 have HB1:Hid (Below w.heap.size w w1):=hB
 have HS1:Hid (SlB w1 g n n (lfs D p)):=hS
 have hz1:w.heap.size<w1.heap.size:=by omega
 clear hb1 hB hS
 go_wp2_with fail
 obtain ⟨W,hW⟩:∃ W,w1.alloc (.cells #[.slice (some ⟨g,0,none⟩) n n] 94)=W:=⟨_,rfl⟩
 have hBW:Below w1.heap.size w1 W:=by rw [←hW];go_grown
 have hzW:W.heap.size=w1.heap.size+1:=by rw [←hW];simp
 have cW:W.cell? ⟨w1.heap.size,0,none⟩=some (.slice (some ⟨g,0,none⟩) n n):=by rw [←hW];simp
 rw [hW]
 refine (HCh.out _ (onB HB1.out hBW)).mono ?_
 rintro e w2 ⟨rfl,hb2⟩
 have hB2:Below w1.heap.size w1 w2:=onB hBW hb2
 have d1:=(hB2.cell (p:=⟨w.heap.size,0,none⟩) hz1).trans c1
 have d2:=(hB2.cell (p:=⟨w.heap.size+1,0,none⟩) hz).trans c2
 have d3:w2.cell? ⟨w1.heap.size,0,none⟩=some (.slice (some ⟨g,0,none⟩) n n):=(hb2.cell (p:=⟨w1.heap.size,0,none⟩) (by show w1.heap.size<_;omega)).trans cW
 have hS2:=HS1.out.later hB2
 have hz2:w1.heap.size<w2.heap.size:=by have:=hb2.size;omega
 have HB2:Hid (Below w.heap.size w w2):=onB HB1.out hB2
 have hany:=ranyof_any 77 w1.heap.size (w.heap.size+1) rw1_in (some ⟨g,0,none⟩) n n (noneW D p q) w2 hn4 (fun j w' hj hw'=>rw1_any g n j w1.heap.size (w.heap.size+1) bq oq cq (lfs D p) (q.getD j 0) w' hj hn4 (HLn.out j hj) (hS2.later hw') (Nat.lt_of_lt_of_le hz2 hw'.size) (Nat.lt_of_lt_of_le (by omega) hw'.size) (Nat.lt_of_lt_of_le hbq (onB HB2.out hw').size) ((hw'.cell (p:=⟨w1.heap.size,0,none⟩) hz2).trans d3) ((hw'.cell (p:=⟨w.heap.size+1,0,none⟩) (by show w.heap.size+1<_;omega)).trans d2) (((onB HB2.out hw').cell (p:=⟨bq,oq+j,none⟩) hbq).trans (HC.out j hj)))
 rw [HFd.out] at hany
 have HZ2:Hid (w.heap.size+1<w2.heap.size∧w.heap.size<w2.heap.size):=⟨by omega,by omega⟩
 clear hW hBW hzW cW hb2 hB2 hS2 c1 c2 hz hz1 hz2
 cases ht:(leafV D n q && inTo D p q n)
 ·rw [ht] at hany
  have HE3:Hid (errV (rwErr D n p q)=.iface 46 (.int .i64 3)):=by show _=_;rw [HRE.out,ht];rfl
  have HV0:Hid (rwV D n p q=0):=by show _=_;unfold rwV;rw [HRE.out,ht];rfl
  clear ht
  go_wp2_with fail
  refine hany.mono ?_
  rintro e w3 ⟨rfl,hb3⟩
  go_wp2_with fail
  go_ret2
  rw [HE3.out,HV0.out]
  exact ⟨rfl,onB HB2.out hb3⟩
 ·rw [ht] at hany
  have HE3:Hid (errV (rwErr D n p q)=.nilIface):=by show _=_;rw [HRE.out,ht];rfl
  have HV0:Hid (rwV D n p q=prTo (wts D p) q n):=by show _=_;unfold rwV;rw [HRE.out,ht,HRV.out ht];rfl
  clear ht
  go_wp2_with fail
  refine hany.mono ?_
  rintro e w3 ⟨rfl,hb3⟩
  have f1:=(hb3.cell (p:=⟨w.heap.size,0,none⟩) HZ2.out.2).trans d1
  have f2:=(hb3.cell (p:=⟨w.heap.size+1,0,none⟩) HZ2.out.1).trans d2
  have HB3:Hid (Below w.heap.size w w3):=onB HB2.out hb3
  have hz3:w.heap.size+1<w3.heap.size:=Nat.lt_of_lt_of_le HZ2.out.1 hb3.size
  clear hb3 d1 d2 d3 hany
  go_wp2_with fail
  refine (HWs.out _ HB3.out).mono ?_
  rintro e w4 ⟨⟨g4,rfl,hS4⟩,hb4⟩
  have HS4:Hid (SlB w4 g4 n n (wts D p)):=hS4
  have f3:=(hb4.cell (p:=⟨w.heap.size+1,0,none⟩) hz3).trans f2
  have HB4:Hid (Below w.heap.size w w4):=onB HB3.out hb4
  clear hb4 hS4 f1 f2
  go_wp2_with fail
  refine (HPd.out _ _ HB4.out HS4.out).mono ?_
  rintro e w5 ⟨rfl,hb5⟩
  have HB5:Hid (Below w.heap.size w w5):=onB HB4.out hb5
  clear hb5 f3
  go_wp2_with fail
  go_ret2
  rw [HE3.out,HV0.out]
  exact ⟨rfl,HB5.out⟩
def RiseV (w:World) (A:Option Addr) (c:Nat) (L:List Int):Prop:=(L=[]∧A=none∧c=0)∨(L≠[]∧IntT w A c L)
theorem RiseV.later {w w':World} {A:Option Addr} {c:Nat} {L:List Int} (h:RiseV w A c L) (hB:Below w.heap.size w w'):RiseV w' A c L:=by
 rcases h with h | ⟨h1,h⟩
 ·exact Or.inl h
 ·exact Or.inr ⟨h1,h.later hB⟩
theorem RiseV.nil (w:World):RiseV w none 0 []:=Or.inl ⟨rfl,rfl,rfl⟩
theorem RiseV.intT {w:World} {A:Option Addr} {c:Nat} {L:List Int} (h:RiseV w A c L):IntT w A c L:=by
 rcases h with ⟨rfl,-,rfl⟩ | ⟨-,h⟩
 ·exact IntT.nil _ _ _ (by omega)
 ·exact h
theorem IntT.pl {w:World} {A:Option Addr} {c:Nat} {L:List Int} (h:IntT w A c L):PlAt w A c L:=by
 obtain ⟨h1,-,h2 | ⟨b,cs,fr,h2,h3,h4⟩⟩:=h
 ·exact ⟨h1,Or.inl h2⟩
 ·exact ⟨h1,Or.inr ⟨b,0,h2,(Array.getElem?_eq_some_iff.1 h3).1,fun j hj=>by rw [Nat.zero_add];exact h4 j hj⟩⟩
theorem ints_ones {L:List Int}:∀ u∈L.map (Value.int .i64),u.oneCell'=true:=by
 intro u hu
 simp at hu
 obtain ⟨x,-,rfl⟩:=hu
 rfl
set_option maxHeartbeats 4000000 in
theorem put_any (A:Option Addr) (cap:Nat) (L:List Int) (n:Int) (w:World) (h63:L.length≤1000000) (hL:RiseV w A cap L):Calls Tryz.prog 110 #[.slice A L.length cap,.int .i64 n] w fun e w'=>(∃ A' c',e=.returned (.slice A' (putL L n).length c')∧RiseV w' A' c' (putL L n))∧Below w.heap.size w w':=by
 obtain ⟨i0,hi0,hz0,hz1,hz2⟩:=info_parts Tryz.infoIntF
 have hPl:=hL.intT.pl
 have hc63:cap≤9223372036854775807:=hL.intT.2.1
 have HRs:Hid (RiseV w A cap L):=hL
 rcases hL with ⟨rfl,rfl,rfl⟩ | ⟨hne,-⟩
 ·show Calls Tryz.prog 110 #[.slice none 0 0,.int .i64 n] w _
  go_enter Tryz.func110,Tryz.ntmps110
  go_wp2_with fail
  refine wp_loop_rounds 1 ?_
  rw [rounds_succ]
  go_wp2_with (first
   | (at_builtin;refine wpList_append_own_none rfl _ _ 22 rfl w.heap.size 3 i0 1 Tryz.underlying22 hi0 _ 0 _ rfl (World.ownsRow_nil w w.heap.size 3 1) rfl ?_)
   | (at_builtin;refine wpList_append_own_at _ rfl _ _ 22 rfl w.heap.size 3 i0 _ 1 8 Tryz.underlying22 hi0 hz0 hz1 hz2 rfl (by decide) _ 0 [] rfl (World.ownsRow_nil _ w.heap.size 3 1) ⟨w.heap.size,0,none⟩ 1 1 [.int .i64 n] rfl rfl ?qc1 ?qc2 ?qc3 ?qc4 ?qc5 ?_))
  case qc1=>exact cell_one_new _ _ _
  case qc2=>intro u hu;simp at hu;subst hu;rfl
  case qc3=>unfold maxLen;omega
  case qc4=>omega
  case qc5=>simp
  intro v1 w1 hown hgrow _ _
  have HB1:Hid (Below w.heap.size w w1):=((Below.refl _ _).alloc (Nat.le_refl _) _).grown hgrow (by simp) (fun j hj=>by cases hj)
  have hown1:w1.ownsRow w.heap.size 3 1 v1 1 [.int .i64 n]:=hown
  have HP1:=hid_of (intT_own (L:=[n]) hown1)
  clear hown hgrow
  go_wp2_with (at_builtin;refine wpList_append_own_none rfl _ _ 22 rfl w.heap.size 3 i0 1 Tryz.underlying22 hi0 _ 1 _ rfl hown1 rfl ?_)
  go_ret
  obtain ⟨A1,c1,rfl,hP⟩:=HP1.out
  exact ⟨⟨A1,c1,rfl,Or.inr ⟨by simp [putL],hP⟩⟩,HB1.out⟩
 ·obtain ⟨hc,h0 | ⟨b,o,rfl,hb,hcell⟩⟩:=hPl
  ·exact absurd h0 hne
  obtain ⟨m,hm⟩:∃ m,L.length=m:=⟨_,rfl⟩
  have HM:=hid_of hm
  have HC:=hid_of hcell
  rw [hm]
  have hmi:(m:Int)≤1000000:=by omega
  have hci:(cap:Int)≤9223372036854775807:=by omega
  have hmc:(m:Int)≤(cap:Int):=by omega
  clear hcell
  go_enter Tryz.func110,Tryz.ntmps110
  go_upto_block 0 with fail
  go_cut [5] from 7 (fun s5 wx=>(∃ k:Nat,k≤m∧s5=.int .i64 k∧(∀ i,i<k→L.getD i 0<n)∧(k=m∨n≤L.getD k 0))∧wx=w)
  case first =>
   go_wp2_with fail
   go_loopg [5] m (fun g s5 wr => ∃ (k:Nat),k≤m∧g=m-k∧s5=.int .i64 k∧(∀ i,i<k→L.getD i 0<n)∧wr=w)
   case atStart=>exact ⟨0,Nat.zero_le _,rfl,rfl,fun i hi=>absurd hi (Nat.not_lt_zero i),rfl⟩
   case round =>
    obtain ⟨k,hk,rfl,rfl,hf,rfl⟩:=hrel
    have HF:=hid_of hf
    clear hf
    by_cases hlt:k<m
    ·have hki:(k:Int)<(m:Int):=by omega
     have hcx:=HC.out k (by omega)
     obtain ⟨x,hx⟩:∃ x,L.getD k 0=x:=⟨_,rfl⟩
     have HXx:=hid_of hx
     rw [hx] at hcx
     clear hx
     by_cases hxn:x<n
     ·have HAll:Hid (∀ i,i<k+1→L.getD i 0<n):=fun i hi=>by
       by_cases e:i=k
       ·rw [e,HXx.out];exact hxn
       ·exact HF.out i (by omega)
      go_wp2_with fail
      go_roundg (m-(k+1))
      case measure=>omega
      case rel=>exact ⟨k+1,by omega,rfl,by go_num,HAll.out,rfl⟩
     ·have hd1:decide (x<n)=false:=decide_eq_false hxn
      have HGe:Hid (n≤L.getD k 0):=by show _≤_;rw [HXx.out];omega
      clear hxn
      go_wp2_with fail
      go_meet
      exact ⟨⟨k,hk,rfl,HF.out,Or.inr HGe.out⟩,rfl⟩
    ·have hke:k=m:=by omega
     subst hke
     go_wp2_with fail
     go_meet
     exact ⟨⟨k,Nat.le_refl _,rfl,HF.out,Or.inl rfl⟩,rfl⟩
  case rest =>
   obtain ⟨⟨k,hk,rfl,hf,hge⟩,hwc⟩:=hcut
   subst hwc
   have hki:(k:Int)≤(m:Int):=by omega
   have HPut:=hid_of (putL_at L n k (by omega) hf (by rw [hm];exact hge))
   have HMc:=hid_of hc
   clear hf
   by_cases heq:k<m∧L.getD k 0=n
   ·obtain ⟨hlt,hxe⟩:=heq
    have HE:Hid (putL L n=L):=by show _=_;rw [HPut.out,if_pos ⟨by omega,hxe⟩]
    have hki2:(k:Int)<(m:Int):=by omega
    have hcx:=HC.out k (by omega)
    rw [hxe] at hcx
    clear hxe hge
    go_wp2_with fail
    go_ret
    rw [HE.out]
    exact ⟨⟨some ⟨b,o,none⟩,cap,by rw [HM.out];rfl,HRs.out⟩,Below.refl _ _⟩
   ·have HE:Hid (putL L n=L.take k ++ [n] ++ L.drop k):=by show _=_;rw [HPut.out,if_neg (by rw [hm];exact heq)]
    obtain ⟨w0,rfl⟩:∃ wx:World,wx=wc:=⟨_,rfl⟩
    have hkn:k≤L.length:=by omega
    have hk63:k≤1000000:=by omega
    have hkc:(k:Int)≤(cap:Int):=by omega
    have HTk:Hid (∀ w',Below w0.heap.size w0 w'→∀ j u,((L.take k).map (Value.int .i64))[j]?=some u→w'.cell? ((⟨b,o,none⟩:Addr).add j)=some u):=fun w' hB=>by
     have h:=mapI_cells (w:=w') (b:=b) (o:=o) (L:=L) (fun j hj=>(hB.cell (p:=⟨b,o+j,none⟩) hb).trans (HC.out j hj)) 0 k (by omega)
     exact h
    have HDk:Hid (∀ w',Below w0.heap.size w0 w'→∀ j u,((L.drop k).map (Value.int .i64))[j]?=some u→w'.cell? ((⟨b,o+k,none⟩:Addr).add j)=some u):=fun w' hB=>by
     have h:=mapI_cells (w:=w') (b:=b) (o:=o) (L:=L) (fun j hj=>(hB.cell (p:=⟨b,o+j,none⟩) hb).trans (HC.out j hj)) k (L.length-k) (by omega)
     rw [List.take_of_length_le (by simp)] at h
     exact h
    rcases Nat.lt_or_ge k m with hlt | hgek
    ·have hki2:(k:Int)<(m:Int):=by omega
     have hcx:=HC.out k (by omega)
     obtain ⟨x,hx⟩:∃ x,L.getD k 0=x:=⟨_,rfl⟩
     have hxn:(x == n)=false:=by
      have:x≠n:=fun e=>heq ⟨hlt,hx.trans e⟩
      simpa using this
     rw [hx] at hcx
     clear hx heq hge
     go_upto_region 7 with fail
     go_wp2_with (at_builtin;refine wpList_append_own_at _ rfl _ _ 22 rfl w0.heap.size 3 i0 _ 1 8 Tryz.underlying22 hi0 hz0 hz1 hz2 rfl (by decide) _ 0 [] rfl (World.ownsRow_nil _ w0.heap.size 3 1) ⟨b,o,none⟩ k cap ((L.take k).map (Value.int .i64)) rfl ?qc0 ?qc1 ?qc2 ?qc3 ?qc4 ?qc5 ?_)
     case qc0=>simp;omega
     case qc1=>exact HTk.out _ (Below.refl _ _)
     case qc2=>exact ints_ones
     case qc3=>unfold maxLen;omega
     case qc4=>omega
     case qc5=>exact Nat.le_refl _
     intro v1 w1 hown hgrow _ _
     have hb1:Below w0.heap.size w0 w1:=(Below.refl _ _).grown hgrow (Nat.le_refl _) (fun j hj=>by cases hj)
     have hown1:w1.ownsRow w0.heap.size 3 1 v1 k ((L.take k).map (Value.int .i64)):=by simpa using hown
     have HB1:=hid_of hb1
     have HO1:=hid_of hown1
     have hs1:=hb1.size
     clear hown hgrow hb1 hown1 hcx
     go_wp2_with (at_builtin;refine wpList_append_own_at _ rfl _ _ 22 rfl w0.heap.size 3 i0 _ 1 8 Tryz.underlying22 hi0 hz0 hz1 hz2 rfl (by decide) _ k ((L.take k).map (Value.int .i64)) rfl (own_later HO1.out ((Below.refl _ _).alloc (Nat.le_refl _) _)) ⟨w1.heap.size,0,none⟩ 1 1 [.int .i64 n] rfl rfl ?qd1 ?qd2 ?qd3 ?qd4 ?qd5 ?_)
     case qd1=>exact cell_one_new _ _ _
     case qd2=>intro u hu;simp at hu;subst hu;rfl
     case qd3=>unfold maxLen;omega
     case qd4=>omega
     case qd5=>simp;omega
     intro v2 w2 hown hgrow _ _
     have hb2:Below w0.heap.size w0 w2:=(HB1.out.alloc hs1 _).grown hgrow (by simp;omega) (fun j hj=>(HO1.out.lt j hj).1)
     have HB2:=hid_of hb2
     have hown2:w2.ownsRow w0.heap.size 3 1 v2 (k+1) ((L.take k ++ [n]).map (Value.int .i64)):=by simpa [List.map_append] using hown
     have HO2:=hid_of hown2
     have hs2:=hb2.size
     clear hown hgrow hb2 hown2
     go_wp2_with (at_builtin;refine wpList_append_own_at _ rfl _ _ 22 rfl w0.heap.size 3 i0 _ 1 8 Tryz.underlying22 hi0 hz0 hz1 hz2 rfl (by decide) _ (k+1) ((L.take k ++ [n]).map (Value.int .i64)) rfl HO2.out ⟨b,o+k,none⟩ (m-k) (cap-k) ((L.drop k).map (Value.int .i64)) rfl ?qe0 ?qe1 ?qe2 ?qe3 ?qe4 ?qe5 ?_)
     case qe0=>simp;omega
     case qe1=>exact HDk.out _ HB2.out
     case qe2=>exact ints_ones
     case qe3=>unfold maxLen;omega
     case qe4=>omega
     case qe5=>exact hs2
     intro v3 w3 hown hgrow _ _
     have HB3:Hid (Below w0.heap.size w0 w3):=HB2.out.grown hgrow hs2 (fun j hj=>(HO2.out.lt j hj).1)
     have hlen:(L.take k ++ [n] ++ L.drop k).length=k+1+(m-k):=by simp;omega
     have hown3:w3.ownsRow w0.heap.size 3 1 v3 (L.take k ++ [n] ++ L.drop k).length ((L.take k ++ [n] ++ L.drop k).map (Value.int .i64)):=by
      rw [hlen]
      simpa [List.map_append] using hown
     have HP3:=hid_of (intT_own (L:=L.take k ++ [n] ++ L.drop k) hown3)
     clear hown hgrow hown3 hlen
     go_wp2_with fail
     go_ret
     obtain ⟨A3,c3,rfl,hP⟩:=HP3.out
     rw [HE.out]
     exact ⟨⟨A3,c3,rfl,Or.inr ⟨by simp,hP⟩⟩,HB3.out⟩
    ·have hke:k=m:=by omega
     subst hke
     clear heq hge
     obtain ⟨ad,had⟩:∃ ad:Addr,(if cap=k then some (⟨b,o,none⟩:Addr) else some ⟨b,o+k,none⟩)=some ad:=by split <;> exact ⟨_,rfl⟩
     have HAd:=hid_of had
     clear had
     go_upto_region 7 with fail
     go_wp2_with (at_builtin;refine wpList_append_own_at _ rfl _ _ 22 rfl w0.heap.size 3 i0 _ 1 8 Tryz.underlying22 hi0 hz0 hz1 hz2 rfl (by decide) _ 0 [] rfl (World.ownsRow_nil _ w0.heap.size 3 1) ⟨b,o,none⟩ k cap ((L.take k).map (Value.int .i64)) rfl ?qc0 ?qc1 ?qc2 ?qc3 ?qc4 ?qc5 ?_)
     case qc0=>simp;omega
     case qc1=>exact HTk.out _ (Below.refl _ _)
     case qc2=>exact ints_ones
     case qc3=>unfold maxLen;omega
     case qc4=>omega
     case qc5=>exact Nat.le_refl _
     intro v1 w1 hown hgrow _ _
     have hb1:Below w0.heap.size w0 w1:=(Below.refl _ _).grown hgrow (Nat.le_refl _) (fun j hj=>by cases hj)
     have hown1:w1.ownsRow w0.heap.size 3 1 v1 k ((L.take k).map (Value.int .i64)):=by simpa using hown
     have HB1:=hid_of hb1
     have HO1:=hid_of hown1
     have hs1:=hb1.size
     clear hown hgrow hb1 hown1
     go_wp2_with (at_builtin;refine wpList_append_own_at _ rfl _ _ 22 rfl w0.heap.size 3 i0 _ 1 8 Tryz.underlying22 hi0 hz0 hz1 hz2 rfl (by decide) _ k ((L.take k).map (Value.int .i64)) rfl (own_later HO1.out ((Below.refl _ _).alloc (Nat.le_refl _) _)) ⟨w1.heap.size,0,none⟩ 1 1 [.int .i64 n] rfl rfl ?qd1 ?qd2 ?qd3 ?qd4 ?qd5 ?_)
     case qd1=>exact cell_one_new _ _ _
     case qd2=>intro u hu;simp at hu;subst hu;rfl
     case qd3=>unfold maxLen;omega
     case qd4=>omega
     case qd5=>simp;omega
     intro v2 w2 hown hgrow _ _
     have hb2:Below w0.heap.size w0 w2:=(HB1.out.alloc hs1 _).grown hgrow (by simp;omega) (fun j hj=>(HO1.out.lt j hj).1)
     have HB2:=hid_of hb2
     have hown2:w2.ownsRow w0.heap.size 3 1 v2 (k+1) ((L.take k ++ [n]).map (Value.int .i64)):=by simpa [List.map_append] using hown
     have HO2:=hid_of hown2
     have hs2:=hb2.size
     clear hown hgrow hb2 hown2
     go_wp2_with (at_builtin;refine wpList_append_own_at _ rfl _ _ 22 rfl w0.heap.size 3 i0 _ 1 8 Tryz.underlying22 hi0 hz0 hz1 hz2 rfl (by decide) _ (k+1) ((L.take k ++ [n]).map (Value.int .i64)) rfl HO2.out ad 0 (cap-k) [] (by rw [←HAd.out];rfl) ?qe0 ?qe1 ?qe2 ?qe3 ?qe4 ?qe5 ?_)
     case qe0=>rfl
     case qe1=>intro j u hj;simp at hj
     case qe2=>intro u hu;simp at hu
     case qe3=>unfold maxLen;omega
     case qe4=>omega
     case qe5=>exact hs2
     all_goals
      intro v3 w3 hown hgrow _ _
      have HB3:Hid (Below w0.heap.size w0 w3):=HB2.out.grown hgrow hs2 (fun j hj=>(HO2.out.lt j hj).1)
      have hdr:L.drop k=[]:=List.drop_of_length_le (by omega)
      have hlen:(L.take k ++ [n] ++ L.drop k).length=k+1:=by rw [hdr];simp;omega
      have hown3:w3.ownsRow w0.heap.size 3 1 v3 (L.take k ++ [n] ++ L.drop k).length ((L.take k ++ [n] ++ L.drop k).map (Value.int .i64)):=by
       rw [hlen,hdr]
       simpa [List.map_append] using hown
      have HP3:=hid_of (intT_own (L:=L.take k ++ [n] ++ L.drop k) hown3)
      clear hown hgrow hown3 hlen
      go_wp2_with fail
      go_ret
      obtain ⟨A3,c3,rfl,hP⟩:=HP3.out
      rw [HE.out]
      exact ⟨⟨A3,c3,rfl,Or.inr ⟨by simp,hP⟩⟩,HB3.out⟩
end Go.Proofs.YtenlladggdcfnaaGreatDoor
