/-
  The product of what a place's members count, and what comes of entries at a place: what product and Value of package roll answer, called in whatever memory.
-/
import Derived.Test.YtenlladggdcfnaaGreatDoorJABH
import Derived.Test.YtenlladggdcfnaaGreatDoorJABI
namespace Go.Proofs.YtenlladggdcfnaaGreatDoor
open Go.ChangeShapes Go.WideShapes Go.ChangeAt Go.RowKit
set_option maxRecDepth 20000
set_option maxHeartbeats 2000000 in
theorem rprod_any (g n:Nat) (D:Nat→Dm) (p:List Int) (Aq:Option Addr) (cq:Nat) (q:List Int) (w:World) (hq:InO D n q) (hS:SlB w g n n (wts D p)) (hQ:PlAt w Aq cq q):Calls Tryz.prog 80 #[.slice (some ⟨g,0,none⟩) n n,.slice Aq q.length cq] w fun e w'=>e=.returned (.int .i64 (prTo (wts D p) q n))∧Below w.heap.size w w':=by
 obtain ⟨hn1,hn4,-,hd⟩:=allErr_some hq.right
 have hl:=hq.len
 obtain ⟨hcp,h0 | ⟨bq,oq,rfl,hbq,hcell⟩⟩:=hQ
 ·rw [h0] at hl;simp at hl;omega
 rw [hl] at hcp hcell ⊢
 have HC:Hid (∀ j,j<n→w.cell? ⟨bq,oq+j,none⟩=some (.int .i64 (q.getD j 0))):=hcell
 have HS:Hid (SlB w g n n (wts D p)):=hS
 have HQ:Hid (InO D n q):=hq
 have hn':(n:Int)≤4:=by omega
 clear hcell hS hq hl
 go_enter Tryz.func80,Tryz.ntmps80
 go_wp2_with fail
 go_loopg [5,10] n (fun g' s5 s10 wr => ∃ (k:Nat),k≤n∧g'=n-k∧s10=.int .i64 k∧s5=.int .i64 (prTo (wts D p) q k)∧Below w.heap.size w wr)
 case atStart=>exact ⟨0,Nat.zero_le _,rfl,rfl,rfl,Below.refl _ _⟩
 case round =>
  obtain ⟨k,hk,rfl,rfl,rfl,hBw⟩:=hrel
  have HBw:Hid (Below w.heap.size w wr):=hBw
  by_cases hlt:k<n
  ·have hki:(k:Int)<(n:Int):=by omega
   obtain ⟨AL,cL,hcL,hcl,hIL⟩:=(HS.out.later hBw).get hlt
   have hlen:(wts D p k).length=(D k).n:=cnts_len ..
   have e1:=(hBw.cell (p:=⟨bq,oq+k,none⟩) hbq).trans (HC.out k hlt)
   obtain ⟨x,hx⟩:∃ x:Nat,q.getD k 0=x:=⟨(q.getD k 0).toNat,by have:=HQ.out.lo k hlt;omega⟩
   have hxn:x<(D k).n:=by have:=HQ.out.hi k hlt;omega
   obtain ⟨hdn1,hdn2⟩:=hd k hlt
   rcases hIL with h0 | ⟨bL,rfl,hbL,hLc⟩
   ·rw [h0] at hlen;simp at hlen;omega
   have e2:=hLc x (by omega)
   rw [hlen] at hcL hcl
   rw [hx] at e1
   have HPr:Hid (prTo (wts D p) q (k+1)=prTo (wts D p) q k*(wts D p k).getD x 0):=by show _=_;rw [prTo,hx,Int.toNat_natCast]
   have hs1:=prTo_small HQ.out.right p q (k+1) (by omega)
   rw [HPr.out] at hs1
   obtain ⟨hs1,hs2⟩:=hs1
   generalize (wts D p k).getD x 0=y at e2 HPr hs1 hs2
   generalize (D k).n=dk at hcL hcl hdn1 hdn2 hxn
   generalize prTo (wts D p) q k=z at HPr hs1 hs2
   have hxi:(x:Int)<(dk:Int):=by omega
   have hdi:(dk:Int)≤12:=by omega
   clear hBw hLc hlen hx
   go_wp2_with fail
   first | go_quiet (fail) | skip
   go_wp2_with fail
   go_roundg (n-(k+1))
   case measure=>omega
   case rel=>exact ⟨k+1,by omega,rfl,by go_num,by rw [HPr.out],by first | exact HBw.out | exact below_drewN HBw.out _⟩
  ·have hke:k=n:=by omega
   subst hke
   clear hBw
   go_wp2_with fail
   go_ret
   exact ⟨rfl,HBw.out⟩
set_option maxHeartbeats 2000000 in
theorem ranyof_any (fn q r:Nat) (he:EntersO fn) (A0:Option Addr) (n cap:Nat) (p:Nat→Bool) (w:World) (hn:n≤4) (hp:AskP fn q r w n p):Calls Tryz.prog 76 #[.slice A0 n cap,.func (.func fn) #[] #[.pointer (some ⟨q,0,none⟩),.pointer (some ⟨r,0,none⟩)]] w fun e w'=>e=.returned (.bool (decide (0≤findFrom p n 0)))∧Below w.heap.size w w':=by
 have HP:Hid (AskP fn q r w n p):=hp
 have hn':(n:Int)≤4:=by omega
 clear hp
 unfold EntersO at he
 go_enter Tryz.func76,Tryz.ntmps76
 go_wp2_with fail
 go_loopg [8] n (fun g s8 wr => ∃ (k:Nat),k≤n∧g=n-k∧s8=.int .i64 k∧findFrom p (n-k) k=findFrom p n 0∧Below w.heap.size w wr)
 case atStart=>exact ⟨0,Nat.zero_le _,rfl,rfl,rfl,by go_grown⟩
 case round =>
  obtain ⟨k,hk,rfl,rfl,hf,hBw⟩:=hrel
  have HF:Hid (findFrom p (n-k) k=findFrom p n 0):=hf
  have HW:Hid (Below w.heap.size w wr):=hBw
  by_cases hlt:k<n
  ·have hki:(k:Int)<(n:Int):=by omega
   have HSK:Hid (n-k=(n-(k+1))+1):=by show _=_;omega
   have hbd:=HP.out k wr hlt hBw
   clear hf hBw
   cases hb:p k
   ·rw [hb] at hbd
    have HK:Hid (p k=false):=hb
    clear hb
    go_wp2_with fail
    refine hbd.mono ?_
    rintro e w1 ⟨rfl,hb1⟩
    go_wp2_with fail
    go_roundg (n-(k+1))
    case measure=>omega
    case rel=>exact ⟨k+1,by omega,rfl,by go_num,by rw [←HF.out,HSK.out,findFrom_miss _ HK.out],onB HW.out hb1⟩
   ·rw [hb] at hbd
    have HK:Hid (p k=true):=hb
    clear hb
    go_wp2_with fail
    refine hbd.mono ?_
    rintro e w1 ⟨rfl,hb1⟩
    go_wp2_with fail
    go_ret
    exact ⟨by rw [←HF.out,HSK.out,findFrom_hit _ HK.out,decide_eq_true (by omega)];rfl,onB HW.out hb1⟩
  ·have hke:k=n:=by omega
   subst hke
   clear hf hBw
   go_wp2_with fail
   go_ret
   exact ⟨by rw [←HF.out,Nat.sub_self];rfl,HW.out⟩
theorem rw1_in:EntersO 77:=fun args w=>by simp [callFunc,Tryz.func77];rfl
def Quad (W:World) (q g k r b o:Nat) (v0 v1 v2 x:Value):Prop:=(q<W.heap.size∧g<W.heap.size∧r<W.heap.size∧b<W.heap.size)∧W.cell? ⟨q,0,none⟩=some v0∧W.cell? ⟨g,k,none⟩=some v1∧W.cell? ⟨r,0,none⟩=some v2∧W.cell? ⟨b,o,none⟩=some x
theorem keepQ {W w':World} {q g k r b o:Nat} {v0 v1 v2 x:Value} (h:Quad W q g k r b o v0 v1 v2 x) (hB:Below W.heap.size W w'):Below W.heap.size W w'∧w'.cell? ⟨q,0,none⟩=some v0∧w'.cell? ⟨g,k,none⟩=some v1∧w'.cell? ⟨r,0,none⟩=some v2∧w'.cell? ⟨b,o,none⟩=some x:=by
 obtain ⟨⟨h1,h2,h3,h4⟩,c0,c1,c2,c3⟩:=h
 exact ⟨hB,(hB.cell (p:=⟨q,0,none⟩) h1).trans c0,(hB.cell (p:=⟨g,k,none⟩) h2).trans c1,(hB.cell (p:=⟨r,0,none⟩) h3).trans c2,(hB.cell (p:=⟨b,o,none⟩) h4).trans c3⟩
set_option maxHeartbeats 2000000 in
theorem rw1_any (g n k q r b o c:Nat) (L:Nat→List Int) (x:Int) (w:World) (hk:k<n) (hn:n≤4) (hL:(L k).length≤12) (hS:SlB w g n n L) (hq:q<w.heap.size) (hr:r<w.heap.size) (hb:b<w.heap.size) (h0:w.cell? ⟨q,0,none⟩=some (.slice (some ⟨g,0,none⟩) n n)) (h1:w.cell? ⟨r,0,none⟩=some (.slice (some ⟨b,o,none⟩) n c)) (hx:w.cell? ⟨b,o+k,none⟩=some (.int .i64 x)) :
  Calls Tryz.prog 77 #[.int .i64 k,.pointer (some ⟨q,0,none⟩),.pointer (some ⟨r,0,none⟩)] w fun e w'=>e=.returned (.bool (!inB (L k) x))∧Below w.heap.size w w':=by
 obtain ⟨AL,cL,hcL,hIL⟩:=hS.get hk
 have HQd:Hid (Quad w q g k r b (o+k) (.slice (some ⟨g,0,none⟩) n n) (.slice AL (L k).length cL) (.slice (some ⟨b,o,none⟩) n c) (.int .i64 x)):=⟨⟨hq,hS.lt,hr,hb⟩,h0,hcL,h1,hx⟩
 have HC:Hid (∀ w',Below w.heap.size w w'→Calls Tryz.prog 78 #[.slice AL (L k).length cL,.int .i64 x] w' fun e w''=>e=.returned (.bool (inB (L k) x))∧Below w'.heap.size w' w''):=fun w' hw'=>contains_ints AL cL (L k) x w' hL (hIL.later hw')
 have hki:(k:Int)<(n:Int):=by omega
 have hn':(n:Int)≤4:=by omega
 generalize L k=X at HQd HC
 generalize inB X x=t at HC
 clear hS hIL hcL h0 h1 hx hL
 go_enter Tryz.func77,Tryz.ntmps77
 go_wp2_with fail
 go_region_held3 (fun w'=>Below w.heap.size w w'∧w'.cell? ⟨q,0,none⟩=some (.slice (some ⟨g,0,none⟩) n n)∧w'.cell? ⟨g,k,none⟩=some (.slice AL X.length cL)∧w'.cell? ⟨r,0,none⟩=some (.slice (some ⟨b,o,none⟩) n c)∧w'.cell? ⟨b,o+k,none⟩=some (.int .i64 x))
  ((refine keepQ HQd.out ?_;go_grown;done))
  (first | (go_at_call 78;refine (HC.out _ (by go_grown)).mono ?_;rintro e w6 ⟨rfl,hb6⟩;have hN6:=onB (W0:=w) (by go_grown) hb6;have hy6:=hN6.size;clear hb6))
 all_goals go_wp2_with fail
 all_goals go_ret
 all_goals exact ⟨rfl,by go_grown⟩
def rwErr (D:Nat→Dm) (n:Nat) (p q:List Int):Int:=if placeErr D n p≠0 then placeErr D n p else if placeErr D n q≠0 then placeErr D n q else if (leafV D n q && inTo D p q n)=true then 0 else 3
def rwV (D:Nat→Dm) (n:Nat) (p q:List Int):Int:=if rwErr D n p q=0 then pwTo D p q n else 0
def noneW (D:Nat→Dm) (p q:List Int) (i:Nat):Bool := !inB (lfs D p i) (q.getD i 0)
theorem lfs_in {D:Nat→Dm} {p:List Int} {i m:Nat} (hm:m<(D i).n):inB (lfs D p i) (m:Int)=leafIn (D i).mem (D i).n (p.getD i 0) m:=by
 cases h:leafIn (D i).mem (D i).n (p.getD i 0) m
 ·unfold inB
  refine decide_eq_false fun h1=>?_
  obtain ⟨m',e,-,h2⟩:=lfs_mem _ h1
  have:m=m':=by omega
  subst this
  rw [h] at h2
  cases h2
 ·unfold inB
  exact decide_eq_true (sel_in hm h)
theorem noneW_find {D:Nat→Dm} {n:Nat} {p q:List Int} (hq:InO D n q):decide (0≤findFrom (noneW D p q) n 0) = !(leafV D n q && inTo D p q n):=by
 rw [←ok_is hq]
 have h1:∀ m i,i+m=n→okTo D p q i=true→(decide (0≤findFrom (noneW D p q) m i) = !okTo D p q n):=by
  intro m
  induction m with
  | zero =>
   intro i hi ho
   have:i=n:=by omega
   subst this
   rw [ho]
   simp [findFrom]
  | succ m ih =>
   intro i hi ho
   have hlo:=hq.lo i (by omega)
   have hhi:=hq.hi i (by omega)
   have e:inB (lfs D p i) (q.getD i 0)=leafIn (D i).mem (D i).n (p.getD i 0) (q.getD i 0).toNat:=by
    have:=lfs_in (D:=D) (p:=p) (i:=i) (m:=(q.getD i 0).toNat) (by omega)
    rw [show ((q.getD i 0).toNat:Int)=q.getD i 0 by omega] at this
    exact this
   cases hb:leafIn (D i).mem (D i).n (p.getD i 0) (q.getD i 0).toNat
   ·have hn:noneW D p q i=true:=by unfold noneW;rw [e,hb];rfl
    rw [findFrom_hit _ hn,decide_eq_true (by omega)]
    have h2:∀ j,i+1≤j→okTo D p q j=false:=by
     intro j hj
     induction j with
     | zero=>omega
     | succ j ihj =>
      by_cases h5:i+1=j+1
      ·have:i=j:=by omega
       subst this
       rw [okTo,hb,Bool.and_false]
      ·rw [okTo,ihj (by omega),Bool.false_and]
    rw [h2 n (by omega)];rfl
   ·have hn:noneW D p q i=false:=by unfold noneW;rw [e,hb];rfl
    rw [findFrom_miss _ hn]
    exact ih (i+1) (by omega) (by rw [okTo,ho,hb];rfl)
 exact h1 n 0 (by omega) rfl
set_option maxHeartbeats 4000000 in
theorem rweight_ok (A0:Option Addr) (cap n:Nat) (D:Nat→Dm) (A:Nat→Option Addr) (C:Nat→Nat) (Ap:Option Addr) (cp:Nat) (p:List Int) (Aq:Option Addr) (cq:Nat) (q:List Int) (w:World) (hp:InO D n p) (hq:InO D n q) (hM:DimsV w A0 cap n D A C) (hP:PlAt w Ap cp p) (hQ:PlAt w Aq cq q) :
  Calls Tryz.prog 51 #[.agg #[.slice A0 n cap],.slice Ap p.length cp,.slice Aq q.length cq] w fun e w'=>e=.returned (.tuple #[.int .i64 (rwV D n p q),errV (rwErr D n p q)])∧Below w.heap.size w w':=by
 have HLs:Hid (∀ w',Below w.heap.size w w'→Calls Tryz.prog 49 #[.agg #[.slice A0 n cap],.slice Ap p.length cp] w' fun e w''=>(∃ g,e=.returned (.tuple #[.slice (some ⟨g,0,none⟩) n n,.nilIface])∧SlB w'' g n n (lfs D p))∧Below w'.heap.size w' w''):=fun w' hw'=>rls_any A0 cap n D A C Ap cp p w' hp (hM.later hw') (hP.later hw')
 have HWs:Hid (∀ w',Below w.heap.size w w'→Calls Tryz.prog 79 #[.agg #[.slice A0 n cap],.slice Ap p.length cp] w' fun e w''=>(∃ g,e=.returned (.tuple #[.slice (some ⟨g,0,none⟩) n n,.nilIface])∧SlB w'' g n n (wts D p))∧Below w'.heap.size w' w''):=fun w' hw'=>rws_any A0 cap n D A C Ap cp p w' hp (hM.later hw') (hP.later hw')
 have HCh:Hid (∀ w',Below w.heap.size w w'→Calls Tryz.prog 72 #[.agg #[.slice A0 n cap],.slice Aq q.length cq] w' fun e w''=>e=.returned .nilIface∧Below w'.heap.size w' w''):=fun w' hw'=>by
  have h1:=pcheck_any A0 cap n D A C Aq cq q w' (hM.later hw') (hQ.later hw')
  rw [hq.ok,errV_zero] at h1
  exact h1
 have HPd:Hid (∀ g w',Below w.heap.size w w'→SlB w' g n n (wts D p)→Calls Tryz.prog 80 #[.slice (some ⟨g,0,none⟩) n n,.slice Aq q.length cq] w' fun e w''=>e=.returned (.int .i64 (prTo (wts D p) q n))∧Below w'.heap.size w' w''):=fun g w' hw' hS=>rprod_any g n D p Aq cq q w' hq hS (hQ.later hw')
 have HQ:Hid (InO D n q):=hq
 obtain ⟨hn1,hn4,-,hd⟩:=allErr_some hp.right
 have HFd:Hid (decide (0≤findFrom (noneW D p q) n 0) = !(leafV D n q && inTo D p q n)):=noneW_find hq
 have HRE:Hid (rwErr D n p q=if (leafV D n q && inTo D p q n)=true then 0 else 3):=by show _=_;unfold rwErr;rw [hp.ok,hq.ok];rfl
 have HLn:Hid (∀ i,i<n→(lfs D p i).length≤12):=fun i hi=>Nat.le_trans (lfs_len D p i) (hd i hi).2
 have HRV:Hid ((leafV D n q && inTo D p q n)=true→prTo (wts D p) q n=pwTo D p q n):=fun h=>pr_wts hq (by rw [Bool.and_eq_true] at h;exact h.1) p n (Nat.le_refl _)
 have hl:=hq.len
 obtain ⟨hcq,h0 | ⟨bq,oq,rfl,hbq,hcell⟩⟩:=hQ
 ·rw [h0] at hl;simp at hl;omega
 rw [hl] at HCh HPd hcq
 rw [hl]
 have HC:Hid (∀ j,j<n→w.cell? ⟨bq,oq+j,none⟩=some (.int .i64 (q.getD j 0))):=fun j hj=>hcell j (by omega)
 generalize p.length=np at HLs HWs
 have hn':(n:Int)≤4:=by omega
 clear hp hq hM hP hcell hl hd
 go_enter Tryz.func51,Tryz.ntmps51
 go_wp2_with fail
 have HB0:Hid (Below w.heap.size w (ownOP w A0 n cap (some ⟨bq,oq,none⟩) n cq 25 27)):=ownOP_below ..
 refine (HLs.out _ HB0.out).mono ?_
 rintro e w1 ⟨⟨g,rfl,hS⟩,hb1⟩
 have hB:Below w.heap.size w w1:=onB HB0.out hb1
 have hz:w.heap.size+1<w1.heap.size:=by have:=hb1.size;change (ownOP w A0 n cap (some ⟨bq,oq,none⟩) n cq 25 27).heap.size≤_ at this;rw [ownOP_size] at this;omega
 have c1:w1.cell? ⟨w.heap.size,0,none⟩=some (.slice A0 n cap):=(hb1.cell (p:=⟨w.heap.size,0,none⟩) (by show w.heap.size<(ownOP w A0 n cap (some ⟨bq,oq,none⟩) n cq 25 27).heap.size;rw [ownOP_size];omega)).trans (ownOP_o ..)
 have c2:w1.cell? ⟨w.heap.size+1,0,none⟩=some (.slice (some ⟨bq,oq,none⟩) n cq):=(hb1.cell (p:=⟨w.heap.size+1,0,none⟩) (by show w.heap.size+1<(ownOP w A0 n cap (some ⟨bq,oq,none⟩) n cq 25 27).heap.size;rw [ownOP_size];omega)).trans (ownOP_p ..)
 have HB1:Hid (Below w.heap.size w w1):=hB
 have HS1:Hid (SlB w1 g n n (lfs D p)):=hS
 have hz1:w.heap.size<w1.heap.size:=by omega
 clear hb1 hB hS
 go_wp2_with fail
 obtain ⟨W,hW⟩:∃ W,w1.alloc (.cells #[.slice (some ⟨g,0,none⟩) n n] 94)=W:=⟨_,rfl⟩
 have hBW:Below w1.heap.size w1 W:=by rw [←hW];go_grown
 have hzW:W.heap.size=w1.heap.size+1:=by rw [←hW];simp
 have cW:W.cell? ⟨w1.heap.size,0,none⟩=some (.slice (some ⟨g,0,none⟩) n n):=by rw [←hW];simp
 rw [hW]
 refine (HCh.out _ (onB HB1.out hBW)).mono ?_
 rintro e w2 ⟨rfl,hb2⟩
 have hB2:Below w1.heap.size w1 w2:=onB hBW hb2
 have d1:=(hB2.cell (p:=⟨w.heap.size,0,none⟩) hz1).trans c1
 have d2:=(hB2.cell (p:=⟨w.heap.size+1,0,none⟩) hz).trans c2
 have d3:w2.cell? ⟨w1.heap.size,0,none⟩=some (.slice (some ⟨g,0,none⟩) n n):=(hb2.cell (p:=⟨w1.heap.size,0,none⟩) (by show w1.heap.size<_;omega)).trans cW
 have hS2:=HS1.out.later hB2
 have hz2:w1.heap.size<w2.heap.size:=by have:=hb2.size;omega
 have HB2:Hid (Below w.heap.size w w2):=onB HB1.out hB2
 have hany:=ranyof_any 77 w1.heap.size (w.heap.size+1) rw1_in (some ⟨g,0,none⟩) n n (noneW D p q) w2 hn4 (fun j w' hj hw'=>rw1_any g n j w1.heap.size (w.heap.size+1) bq oq cq (lfs D p) (q.getD j 0) w' hj hn4 (HLn.out j hj) (hS2.later hw') (Nat.lt_of_lt_of_le hz2 hw'.size) (Nat.lt_of_lt_of_le (by omega) hw'.size) (Nat.lt_of_lt_of_le hbq (onB HB2.out hw').size) ((hw'.cell (p:=⟨w1.heap.size,0,none⟩) hz2).trans d3) ((hw'.cell (p:=⟨w.heap.size+1,0,none⟩) (by show w.heap.size+1<_;omega)).trans d2) (((onB HB2.out hw').cell (p:=⟨bq,oq+j,none⟩) hbq).trans (HC.out j hj)))
 rw [HFd.out] at hany
 have HZ2:Hid (w.heap.size+1<w2.heap.size∧w.heap.size<w2.heap.size):=⟨by omega,by omega⟩
 clear hW hBW hzW cW hb2 hB2 hS2 c1 c2 hz hz1 hz2
 cases ht:(leafV D n q && inTo D p q n)
 ·rw [ht] at hany
  have HE3:Hid (errV (rwErr D n p q)=.iface 46 (.int .i64 3)):=by show _=_;rw [HRE.out,ht];rfl
  have HV0:Hid (rwV D n p q=0):=by show _=_;unfold rwV;rw [HRE.out,ht];rfl
  clear ht
  go_wp2_with fail
  refine hany.mono ?_
  rintro e w3 ⟨rfl,hb3⟩
  go_wp2_with fail
  go_ret2
  rw [HE3.out,HV0.out]
  exact ⟨rfl,onB HB2.out hb3⟩
 ·rw [ht] at hany
  have HE3:Hid (errV (rwErr D n p q)=.nilIface):=by show _=_;rw [HRE.out,ht];rfl
  have HV0:Hid (rwV D n p q=prTo (wts D p) q n):=by show _=_;unfold rwV;rw [HRE.out,ht,HRV.out ht];rfl
  clear ht
  go_wp2_with fail
  refine hany.mono ?_
  rintro e w3 ⟨rfl,hb3⟩
  have f1:=(hb3.cell (p:=⟨w.heap.size,0,none⟩) HZ2.out.2).trans d1
  have f2:=(hb3.cell (p:=⟨w.heap.size+1,0,none⟩) HZ2.out.1).trans d2
  have HB3:Hid (Below w.heap.size w w3):=onB HB2.out hb3
  have hz3:w.heap.size+1<w3.heap.size:=Nat.lt_of_lt_of_le HZ2.out.1 hb3.size
  clear hb3 d1 d2 d3 hany
  go_wp2_with fail
  refine (HWs.out _ HB3.out).mono ?_
  rintro e w4 ⟨⟨g4,rfl,hS4⟩,hb4⟩
  have HS4:Hid (SlB w4 g4 n n (wts D p)):=hS4
  have f3:=(hb4.cell (p:=⟨w.heap.size+1,0,none⟩) hz3).trans f2
  have HB4:Hid (Below w.heap.size w w4):=onB HB3.out hb4
  clear hb4 hS4 f1 f2
  go_wp2_with fail
  refine (HPd.out _ _ HB4.out HS4.out).mono ?_
  rintro e w5 ⟨rfl,hb5⟩
  have HB5:Hid (Below w.heap.size w w5):=onB HB4.out hb5
  clear hb5 f3
  go_wp2_with fail
  go_ret2
  rw [HE3.out,HV0.out]
  exact ⟨rfl,HB5.out⟩
end Go.Proofs.YtenlladggdcfnaaGreatDoor
namespace Go.Proofs.YtenlladggdcfnaaGreatDoor
open Go Go.ChangeShapes Go.WideShapes Go.ChangeAt Go.RowKit
set_option maxRecDepth 20000
def rwL (D:Nat→Dm) (n:Nat) (l:List En) (m:Nat):List (Int×Int):=(List.range m).map fun x=>getE l (placeL D n x)
theorem rwL_len (D:Nat→Dm) (n:Nat) (l:List En) (m:Nat):(rwL D n l m).length=m:=by simp [rwL]
theorem wr_none {D:Nat→Dm} {n x:Nat}:∀ (l:List En) (L:List (Int×Int)),(∀ e∈l,InO D n e.pl)→L.length=prodN D n→(∀ e∈l,(numI D e.pl n).toNat≠x)→(l.foldl (wrStep D n) L).getD x (0,0)=L.getD x (0,0)
 | [],_,_,_,_=>rfl
 | e :: r,L,hi,hL,h=>by
  obtain ⟨h1,h2,-⟩:=numI_bound (hi e (List.mem_cons_self ..)) (Nat.le_refl n)
  rw [List.foldl_cons,wr_none r _ (fun y hy=>hi y (List.mem_cons_of_mem _ hy)) (by unfold wrStep;rw [List.length_set];exact hL) fun y hy=>h y (List.mem_cons_of_mem _ hy)]
  unfold wrStep
  have:=h e (List.mem_cons_self ..)
  simp [List.getD,List.getElem?_set_ne this]
theorem wr_some {D:Nat→Dm} {n:Nat} {e:En}:∀ (l:List En) (L:List (Int×Int)),(∀ y∈l,InO D n y.pl)→(l.Pairwise fun a b=>lessL a.pl b.pl=true)→L.length=prodN D n→e∈l→(l.foldl (wrStep D n) L).getD (numI D e.pl n).toNat (0,0)=(1,e.n)
 | [],_,_,_,_,h=>by cases h
 | y :: r,L,hi,hr,hL,h=>by
  have hr':=List.pairwise_cons.1 hr
  have hiy:=hi y (List.mem_cons_self ..)
  have hir:=fun z hz=>hi z (List.mem_cons_of_mem y hz)
  obtain ⟨h1,h2,-⟩:=numI_bound hiy (Nat.le_refl n)
  rw [List.foldl_cons]
  have hL':(wrStep D n L y).length=prodN D n:=by unfold wrStep;rw [List.length_set];exact hL
  rcases List.mem_cons.1 h with rfl | h
  ·rw [wr_none r _ hir hL' fun z hz=>by
    have h3:=less_num hiy (hir z hz) (hr'.1 z hz)
    obtain ⟨h4,-,-⟩:=numI_bound (hir z hz) (Nat.le_refl n)
    omega]
   unfold wrStep
   have:(numI D e.pl n).toNat<L.length:=by omega
   simp [List.getD,this]
  ·exact wr_some r _ hir hr'.2 hL' h
theorem wr_rwL {D:Nat→Dm} {n:Nat} {l:List En} (h:Ens D n l):wrV D n l=rwL D n l (prodN D n):=by
 apply List.ext_getElem (by rw [wrV_len,rwL_len])
 intro x h1 h2
 rw [wrV_len] at h1
 have e1:(wrV D n l).getD x (0,0)=getE l (placeL D n x):=by
  unfold wrV
  by_cases hx:∃ e,e∈l∧(numI D e.pl n).toNat=x
  ·obtain ⟨e,he,hn⟩:=hx
   have h3:=wr_some l (List.replicate (prodN D n) (0,0)) (fun y hy=>(h.each y hy).1) h.rise (by simp) he
   rw [hn] at h3
   rw [h3,←hn,place_num (h.each e he).1,get_mem h.rise he]
  ·rw [wr_none l _ (fun y hy=>(h.each y hy).1) (by simp) fun e he hn=>hx ⟨e,he,hn⟩]
   rw [(get_none h.rise fun e he e2=>hx ⟨e,he,by rw [e2,num_place h.right h1];omega⟩).1]
   simp [List.getD,h1]
 have h3:x<(wrV D n l).length:=by rw [wrV_len];exact h1
 rw [List.getD_eq_getElem?_getD,List.getElem?_eq_getElem h3] at e1
 simp only [Option.getD_some] at e1
 rw [e1]
 simp [rwL]
end Go.Proofs.YtenlladggdcfnaaGreatDoor
