/-
  What member of package rules answers, in whatever memory.
-/
import Derived.Test.YtfgegmpoejilnaaGreatDoorJGAT
import Derived.Test.YtfgegmpoejilnaaGreatDoorJGAU
namespace Go.Proofs.YtfgegmpoejilnaaGreatDoor
open Go.ChangeShapes Go.WideShapes Go.ChangeAt Go.RowKit
set_option maxRecDepth 20000
theorem MemsAt.grown {w w':World} {b o n:Nat} {M:Nat→Mem} {r:Option Nat} (h:MemsAt w b o n M) (hG:w.grownBy w' r) (hr:some b≠r):MemsAt w' b o n M:=by
 have hb:w'.heap[b]?=w.heap[b]?:=hG.block b h.1 hr
 have hc:∀ k,w'.cell? ⟨b,k,none⟩=w.cell? ⟨b,k,none⟩:=fun k=>World.cell?_of_block (a:=⟨b,k,none⟩) hb
 refine ⟨Nat.lt_of_lt_of_le h.1 hG.size,fun i hi=>?_⟩
 obtain ⟨h0,h1,h2,h3⟩:=h.2 i hi
 exact ⟨(hc _).trans h0,(hc _).trans h1,(hc _).trans h2,(hc _).trans h3⟩
def noSg (d:Dm) (k:Int):Bool:=decide ((d.mem k.toNat).sign=0)
theorem noSg_sg (d:Dm):(fun x => !noSg d x)=sgB d:=by
 funext x
 unfold noSg sgB
 by_cases h:(d.mem x.toNat).sign=0 <;> simp [h]
theorem ent_sign (args:Array Value) (w:World):(callFunc 180 args).run Tryz.prog w=.ok (.enter 180 args) w:=by simp [go_sem]
theorem rsign_any (d:Dm) (b o cap q k:Nat) (w:World) (hk:k<d.n) (hn:d.n≤12) (hM:MemsAt w b o d.n d.mem) (hc:w.cell? ⟨q,2,none⟩=some (.slice (some ⟨b,o,none⟩) d.n cap)) :
  Calls Tryz.prog 180 #[.int .i64 k,.pointer (some ⟨q,0,none⟩)] w fun e w'=>e=.returned (.bool (noSg d k))∧Below w.heap.size w w':=by
 obtain ⟨-,-,h2,-⟩:=hM.2 k hk
 have hki:(k:Int)<(d.n:Int):=by omega
 have hni:(d.n:Int)≤12:=by omega
 unfold noSg
 rw [Int.toNat_natCast]
 generalize (d.mem k).sign=sg at h2 ⊢
 generalize d.n=n at *
 clear hM
 go_enter Tryz.func180,Tryz.ntmps180
 go_wp2_with fail
 go_ret
 exact ⟨by by_cases h:sg=0 <;> simp [h],Below.refl _ _⟩
theorem memErr_form {M:Nat→Mem} {i:Nat} (h:memErr M i=0):(M i).formula.size≤100:=by
 unfold memErr at h
 split at h
 ·simp at h
 ·split at h
  ·simp at h
  ·split at h
   ·simp at h
   ·split at h
    ·simp at h
    ·split at h
     ·simp at h
     ·split at h
      ·simp at h
      ·omega
theorem rf_mem {d:Dm} (hd:(dimErr d).2=0) {i:Nat} (hf:(d.mem i).formula.size≠0):rfE d (d.mem i).formula=mErr d i∧rfL d (d.mem i).formula=lst (mErr d i) (mNd d i):=by
 have e:rfE d (d.mem i).formula=mErr d i:=by
  unfold rfE mErr nmsOf
  rw [if_neg hf]
 refine ⟨e,?_⟩
 unfold rfL lst
 rw [e]
 by_cases h:mErr d i=0
 ·rw [if_pos h,if_pos h]
  refine sort_need hd hf h ?_
  unfold mErr at h
  rw [if_neg hf] at h
  split at h
  ·rename_i h1;exact absurd h h1
  ·rename_i h1;simpa using h1
 ·rw [if_neg h,if_neg h]
set_option maxHeartbeats 4000000 in
theorem rmember_any (d:Dm) (A:Option Addr) (cap i:Nat) (w:World) (hd:(dimErr d).2=0) (hi:i<d.n) (hM:MemsV w A cap d.n d.mem) :
  Calls Tryz.prog 144 #[dimV d A cap,.int .i64 i] w fun e w'=>(∃ A' c',e=.returned (.tuple #[.slice A' (lst (mErr d i) (mNd d i)).length c',errV (mErr d i)])∧IntT w' A' c' (lst (mErr d i) (mNd d i)))∧Below w.heap.size w w':=by
 obtain ⟨-,-,hd2,hall⟩:=dimErr_right hd
 obtain ⟨hcap,h0 | ⟨b,o,rfl,hMs⟩⟩:=hM
 ·omega
 have hB0:=ownDim_below w d (some ⟨b,o,none⟩) cap 30
 have hS:=ownDim_size w d (some ⟨b,o,none⟩) cap 30
 obtain ⟨o0,o1,o2⟩:=ownDim_at w d (some ⟨b,o,none⟩) cap 30
 unfold dimV
 obtain ⟨W,hW⟩:∃ W,ownDim w d (some ⟨b,o,none⟩) cap 30=W:=⟨_,rfl⟩
 rw [hW] at hB0 hS o0 o1 o2
 unfold ownDim at hW
 have hMW:=hMs.later hB0
 obtain ⟨-,-,-,c3⟩:=hMW.2 i hi
 have hii:(i:Int)<(d.n:Int):=by omega
 have hni:(d.n:Int)≤12:=by omega
 have hq:w.heap.size<W.heap.size:=by omega
 have HB0:Hid (Below w.heap.size w W):=hB0
 by_cases hf:(d.mem i).formula.size=0
 ·have hf':(d.mem i).formula.toList.isEmpty=true:=by rw [empty_same];simpa using hf
  have hme:mErr d i=0:=by unfold mErr;rw [if_pos hf]
  rw [hme,lst_ok rfl,errV_zero]
  have hpa:=parts_own d (some ⟨b,o,none⟩) cap i W hd hi ⟨hcap,Or.inr ⟨b,o,rfl,hMW⟩⟩
  unfold dimV at hpa
  have HNd:Hid ((partsOf d.mem d.n i).filter (sgB d)=mNd d i):=parts_need hf
  have HPl:Hid ((partsOf d.mem d.n i).length≤12):=Nat.le_trans (selTo_len _ _) hd2
  have HPm:Hid (∀ x∈partsOf d.mem d.n i,∃ k:Nat,x=(k:Int)∧k<d.n):=fun x hx=>by
   obtain ⟨m,h1,h2,-⟩:=selTo_mem x hx
   exact ⟨m,h1,h2⟩
  have HMW:Hid (MemsAt W b o d.n d.mem):=hMW
  have HO2:Hid (W.cell? ⟨w.heap.size,2,none⟩=some (.slice (some ⟨b,o,none⟩) d.n cap)):=o2
  generalize (d.mem i).formula=fm at c3 hf'
  clear hMs hall hf hme
  go_enter Tryz.func144,Tryz.ntmps144
  go_wp2_with fail
  refine hpa.mono ?_
  rintro e w1 ⟨⟨v1,rfl,hO1⟩,hb1⟩
  have HB1:Hid (Below W.heap.size W w1):=hb1
  have hq1:w.heap.size<w1.heap.size:=by have:=hb1.size;omega
  have hdel:=delf_any 180 #[.pointer (some ⟨w.heap.size,0,none⟩)] (noSg d) ent_sign W.heap.size v1 (partsOf d.mem d.n i) w1 (by have:=HPl.out;omega) hO1 fun x w' hx hG=>by
   obtain ⟨k,rfl,hk⟩:=HPm.out x hx
   have hown:∀ j,v1.ownBlock=some j→W.heap.size≤j:=fun j hj=>(hO1.lt j hj).1
   have hbw:b<W.heap.size:=HMW.out.1
   have hne:∀ j,j<W.heap.size→some j≠v1.ownBlock:=fun j hj e=>by have:=hown j e.symm;omega
   refine rsign_any d b o cap w.heap.size k w' hk hd2 ((HMW.out.later hb1).grown hG (hne b hbw)) ?_
   have h1:w1.cell? ⟨w.heap.size,2,none⟩=some (.slice (some ⟨b,o,none⟩) d.n cap):=(hb1.cell (p:=⟨w.heap.size,2,none⟩) hq).trans HO2.out
   rw [World.cell?_of_block (a:=⟨w.heap.size,2,none⟩) (hG.block w.heap.size hq1 (hne _ hq))]
   exact h1
  rw [noSg_sg,HNd.out] at hdel
  have HBd:Hid (∀ w',w1.grownBy w' v1.ownBlock→Below w.heap.size w w'):=fun w' hG=>(onB HB0.out hb1).grown hG (by have:=HB0.out.size;have:=hb1.size;omega) fun j hj=>by have:=(hO1.lt j hj).1;omega
  clear hO1 hb1 hpa
  go_wp2_with fail
  refine hdel.mono ?_
  rintro e w2 ⟨⟨A2,c2,rfl,hT⟩,hG⟩
  have HT:Hid (IntT w2 A2 c2 (mNd d i)):=hT
  have HB2:Hid (Below w.heap.size w w2):=HBd.out w2 hG
  clear hT hG hdel
  go_wp2_with fail
  go_ret2
  exact ⟨⟨A2,c2,rfl,HT.out⟩,HB2.out⟩
 ·have hf':(d.mem i).formula.toList.isEmpty=false:=by rw [empty_same];simpa using hf
  obtain ⟨e1,e2⟩:=rf_mem hd hf
  have hIs:IsF d w.heap.size W:=fun s w' hB=>is_any d b o cap w.heap.size s w' hd2 (hMW.later hB) (Nat.lt_of_lt_of_le hq hB.size) ((hB.cell (p:=⟨w.heap.size,2,none⟩) hq).trans o2)
  have hrf:=refs_any d w.heap.size (d.mem i).formula W (memErr_form (hall i hi)) hIs
  rw [←e2,←e1]
  unfold isV at hrf
  obtain ⟨fm,hfm⟩:∃ fm,(d.mem i).formula=fm:=⟨_,rfl⟩
  rw [hfm] at c3 hf' hrf ⊢
  generalize rfL d fm=L at hrf ⊢
  generalize errV (rfE d fm)=ev at hrf ⊢
  clear hMs hall hf hIs hMW e1 e2 hfm
  go_enter Tryz.func144,Tryz.ntmps144
  go_wp2_with fail
  refine hrf.mono ?_
  rintro e w1 ⟨⟨A1,c1,rfl,hT⟩,hb1⟩
  have HT:Hid (IntT w1 A1 c1 L):=hT
  clear hT hrf
  go_wp2_with fail
  go_ret2
  exact ⟨⟨A1,c1,rfl,HT.out⟩,onB HB0.out hb1⟩
def ndTo (d:Dm) (k:Nat):List (List Int):=(List.range k).map (mNd d)
theorem ndTo_snoc (d:Dm) (k:Nat):ndTo d (k+1)=ndTo d k ++ [mNd d k]:=by simp [ndTo,List.range_succ]
theorem nd_rows {d:Dm} {xs:List RL} (h:lR xs=ndL d):∀ x∈xs,x.p.Nodup∧x.p.length≤d.n:=fun x hx=>by
 have h1:x.p∈ndL d:=by rw [←h];exact List.mem_map.2 ⟨x,hx,rfl⟩
 obtain ⟨i,-,e⟩:=List.mem_map.1 h1
 rw [←e]
 exact ⟨rise_nodup (mNd_rise d i),mNd_len d i⟩
theorem dim_cells {w w1:World} {d:Dm} {A:Option Addr} {cap:Nat} (hB:Below (ownDim w d A cap 30).heap.size (ownDim w d A cap 30) w1):w1.cell? ⟨w.heap.size,0,none⟩=some (.string d.name)∧w1.cell? ⟨w.heap.size,1,none⟩=some (.int .i64 d.solve)∧w1.cell? ⟨w.heap.size,2,none⟩=some (.slice A d.n cap)∧w.heap.size<w1.heap.size:=by
 have hS:=ownDim_size w d A cap 30
 obtain ⟨o0,o1,o2⟩:=ownDim_at w d A cap 30
 have hl:w.heap.size<(ownDim w d A cap 30).heap.size:=by omega
 exact ⟨(hB.cell (p:=⟨w.heap.size,0,none⟩) hl).trans o0,(hB.cell (p:=⟨w.heap.size,1,none⟩) hl).trans o1,(hB.cell (p:=⟨w.heap.size,2,none⟩) hl).trans o2,by have:=hB.size;omega⟩
set_option maxHeartbeats 4000000 in
theorem rneeds_any (d:Dm) (A:Option Addr) (cap:Nat) (w:World) (hM:MemsV w A cap d.n d.mem) :
  Calls Tryz.prog 114 #[dimV d A cap] w fun e w'=>(∃ A' c' xs,e=.returned (.tuple #[.slice A' xs.length c',.int .i64 (rErr d).1,errV (rErr d).2])∧RowsV w' A' c' xs∧((rErr d).2=0→lR xs=ndL d))∧Below w.heap.size w w':=by
 have hB0:=ownDim_below w d A cap 30
 have hck:=dcheck_any d A cap (ownDim w d A cap 30) (hM.later hB0)
 have HM:Hid (MemsV w A cap d.n d.mem):=hM
 have HDC:Hid (∀ w1,Below (ownDim w d A cap 30).heap.size (ownDim w d A cap 30) w1→w1.cell? ⟨w.heap.size,0,none⟩=some (.string d.name)∧w1.cell? ⟨w.heap.size,1,none⟩=some (.int .i64 d.solve)∧w1.cell? ⟨w.heap.size,2,none⟩=some (.slice A d.n cap)∧w.heap.size<w1.heap.size):=fun w1 h=>dim_cells h
 unfold dimV at hck ⊢
 obtain ⟨W,hW⟩:∃ W,ownDim w d A cap 30=W:=⟨_,rfl⟩
 rw [hW] at hB0 hck HDC
 unfold ownDim at hW
 have HB0:Hid (Below w.heap.size w W):=hB0
 clear hM hB0
 by_cases hd:(dimErr d).2=0
 case neg =>
  rw [re0 hd]
  rw [errV_some hd] at hck ⊢
  have HE:Hid ((dimErr d).2≠0):=hd
  generalize (dimErr d).1=x at hck ⊢
  generalize (dimErr d).2=c at hck HE ⊢
  obtain ⟨d0,d1,d2,hqW⟩:=HDC.out W (Below.refl _ _)
  clear hd
  go_enter Tryz.func114,Tryz.ntmps114
  go_wp2_with fail
  refine hck.mono ?_
  rintro e w1 ⟨rfl,hb1⟩
  go_wp2_with fail
  go_returns
  exact ⟨⟨none,0,[],rfl,RowsV.nil _ _ _,fun e=>absurd e HE.out⟩,onB HB0.out hb1⟩
 obtain ⟨hd1,hdn,hd12,-⟩:=dimErr_right hd
 have HD:Hid ((dimErr d).2=0):=hd
 rw [hd,hd1,errV_zero] at hck
 obtain ⟨i0,hi0,hz0,hz1,hz2⟩:=info_parts Tryz.infoRow
 obtain ⟨n,hn⟩:∃ n,d.n=n:=⟨_,rfl⟩
 have HNn:Hid (d.n=n):=hn
 rw [hn] at hck hW HDC hdn hd12 ⊢
 have hmk:∀ w',(Instr.makeSlice 85 (.int .i64 0) (.int .i64 (n:Int))).run Tryz.prog w'=.ok (.slice (some ⟨w'.heap.size,0,none⟩) 0 n) (w'.alloc (.cells (madeCells #[.slice none 0 0] n) 38)):=fun w'=>by
  have h:=run_make (P:=Tryz.prog) w' 85 38 i0 _ Tryz.underlying85 hi0 hz0 .i64 .i64 0 n (Int.le_refl _) (by omega) (by rw [hz2];omega) (by omega)
  simp only [Int.toNat_natCast,hz1,Nat.mul_one] at h
  exact h
 have hnI:(n:Int)≤12:=by omega
 obtain ⟨d0,d1,d2,hqW⟩:=HDC.out W (Below.refl _ _)
 clear hd hn hd1
 go_enter Tryz.func114,Tryz.ntmps114
 go_wp2_with fail
 refine hck.mono ?_
 rintro e w1 ⟨rfl,hb1⟩
 obtain ⟨c0,c1,c2,hq1⟩:=HDC.out w1 hb1
 have HB1:Hid (Below W.heap.size W w1):=hb1
 clear hb1 hck c0 c1 d0 d1 d2 hW
 obtain ⟨W1,hW1⟩:∃ W1,w1.alloc (.cells (madeCells #[.slice none 0 0] n) 38)=W1:=⟨_,rfl⟩
 have hBW1:Below w1.heap.size w1 W1:=by rw [←hW1];exact (Below.refl _ _).alloc (Nat.le_refl _) _
 have HBW1:Hid (Below w1.heap.size w1 W1):=hBW1
 have HOW1:Hid (W1.ownsRow w1.heap.size 38 1 (.slice (some ⟨w1.heap.size,0,none⟩) 0 n) 0 []):=by
  rw [←hW1]
  exact World.ownsRow_made w1 _ n (Nat.le_refl _) (by unfold maxLen;omega) (by simp [madeCells])
 obtain ⟨-,-,c2',hq1'⟩:=HDC.out W1 (onB HB1.out hBW1)
 clear hBW1
 go_wp2_with fail
 clear hW1 hmk
 go_loopg [7,28] n (fun g s7 s28 wr => ∃ (k:Nat) (xs:List RL),k≤n∧g=n-k∧s28=.int .i64 k∧Hid (lR xs=ndTo d k∧(∀ j,j<k→mErr d j=0)∧∀ x∈xs,IntT wr x.A x.c x.p)∧wr.ownsRow w1.heap.size 38 1 s7 xs.length (cellsR xs)∧Below w1.heap.size w1 wr)
 case atStart=>exact ⟨0,[],Nat.zero_le _,rfl,rfl,(⟨rfl,fun j hj=>absurd hj (Nat.not_lt_zero _),fun x hx=>by cases hx⟩:_∧_∧_),HOW1.out,HBW1.out⟩
 case round =>
  obtain ⟨k,xs,hk,rfl,rfl,HX,hO,hBw⟩:=hrel
  have HO:Hid (wr.ownsRow w1.heap.size 38 1 u7 xs.length (cellsR xs)):=hO
  have HBw:Hid (Below w1.heap.size w1 wr):=hBw
  have HXl:Hid (xs.length=k):=by
   have h:=HX.out.1
   show _=_
   rw [←lR_len,h]
   simp [ndTo]
  obtain ⟨c0,c1,c2,hq⟩:=HDC.out wr (onB HB1.out hBw)
  by_cases hlt:k<n
  ·have hki:(k:Int)<(n:Int):=by omega
   have hme:=rmember_any d A cap k wr HD.out (by rw [HNn.out];exact hlt) (HM.out.later (onB HB0.out (onB HB1.out hBw)))
   unfold dimV at hme
   rw [HNn.out] at hme
   by_cases he:mErr d k=0
   ·rw [lst_ok he,he,errV_zero] at hme
    have HE:Hid (mErr d k=0):=he
    obtain ⟨r,hr⟩:∃ r,(mNd d k).length=r:=⟨_,rfl⟩
    have HR:Hid ((mNd d k).length=r):=hr
    rw [hr] at hme
    clear hO hBw he hr
    go_wp2_with fail
    refine hme.mono ?_
    rintro e w2 ⟨⟨A2,c2',rfl,hT⟩,hb2⟩
    have HB2:Hid (Below w1.heap.size w1 w2):=onB HBw.out hb2
    have HO2:Hid (w2.ownsRow w1.heap.size 38 1 u7 k (cellsR xs)):=by
     have h:=own_later HO.out hb2
     rw [HXl.out] at h
     exact h
    have HT2:Hid (IntT w2 A2 c2' (mNd d k)):=hT
    have HX2:Hid (∀ x∈xs,IntT w2 x.A x.c x.p):=fun x hx=>(HX.out.2.2 x hx).later hb2
    have hsz:=HB2.out.size
    clear hT hb2 hme c0 c1 c2
    go_wp2_with (at_builtin;refine wpList_append_own _ rfl _ _ 85 rfl w1.heap.size 38 i0 (.slice none 0 0) 1 24 Tryz.underlying85 hi0 hz0 hz1 hz2 rfl (by decide) _ _ _ rfl (HO2.out.alloc _) ⟨w2.heap.size,0,none⟩ 1 1 [.slice A2 r c2'] rfl rfl one_cell (by intro u hu;simp at hu;subst hu;rfl) (by unfold maxLen;omega) (by omega) (by simp;omega) ?_)
    intro v' w3 hown' hgrow _
    have HB3:Hid (Below w1.heap.size w1 w3):=grown_own HB2.out HO2.out hgrow
    have HX3:Hid (lR (xs ++ [(⟨mNd d k,A2,c2'⟩:RL)])=ndTo d (k+1)∧(∀ j,j<k+1→mErr d j=0)∧∀ x∈xs ++ [(⟨mNd d k,A2,c2'⟩:RL)],IntT w3 x.A x.c x.p):=by
     refine ⟨by rw [lR_append,HX.out.1,ndTo_snoc];rfl,fun j hj=>?_,fun x hx=>?_⟩
     ·by_cases e:j=k
      ·rw [e];exact HE.out
      ·exact HX.out.2.1 j (by omega)
     ·rcases List.mem_append.1 hx with hx | hx
      ·exact ((HX2.out x hx).later (by go_grown)).row (HO2.out.alloc _) hgrow
      ·rw [List.mem_singleton.1 hx]
       exact (HT2.out.later (by go_grown)).row (HO2.out.alloc _) hgrow
    have HO3:Hid (w3.ownsRow w1.heap.size 38 1 v' (xs ++ [(⟨mNd d k,A2,c2'⟩:RL)]).length (cellsR (xs ++ [(⟨mNd d k,A2,c2'⟩:RL)]))):=by
     show World.ownsRow ..
     rw [cellsR_append,List.length_append,HXl.out]
     have e:cellsR [(⟨mNd d k,A2,c2'⟩:RL)]=[.slice A2 r c2']:=by simp [cellsR,HR.out]
     rw [e]
     exact hown'
    clear hown' hgrow
    go_wp2_with fail
    go_roundg (n-(k+1))
    case measure=>omega
    case rel=>exact ⟨k+1,_,by omega,rfl,by go_num,HX3,HO3.out,HB3.out⟩
   ·have HRe:Hid (rErr d=((k:Int),mErr d k)):=re1 HD.out (i:=k) (by rw [HNn.out];exact hlt) he HX.out.2.1
    have HE:Hid (mErr d k≠0):=he
    rw [lst_bad he,errV_some he] at hme
    generalize mErr d k=ec at hme HE HRe
    clear hO hBw he
    go_wp2_with fail
    refine hme.mono ?_
    rintro e w2 ⟨⟨A2,c2',rfl,-⟩,hb2⟩
    go_wp2_with fail
    go_returns
    rw [HRe.out]
    exact ⟨⟨none,0,[],by rw [errV_some HE.out];rfl,RowsV.nil _ _ _,fun e=>absurd e HE.out⟩,onB HB0.out (onB HB1.out (onB HBw.out hb2))⟩
  ·have hke:k=n:=by omega
   subst hke
   have HL:Hid (lR xs=ndL d):=by show _=_;rw [HX.out.1,←HNn.out];rfl
   have HAll:Hid (∀ j,j<d.n→mErr d j=0):=by rw [HNn.out];exact HX.out.2.1
   obtain ⟨Ar,cr,hv,hRv⟩:=rows_own hO HX.out.2.2
   subst hv
   have HRv:Hid (RowsV wr Ar cr xs):=hRv
   have HBa:Hid (Below w.heap.size w wr):=onB HB0.out (onB HB1.out hBw)
   clear hO hBw hRv c0 c1 c2 HDC
   rw [HXl.out]
   obtain ⟨w4,rfl⟩:∃ w4:World,w4=wr:=⟨_,rfl⟩
   go_wp2_with fail
   go_loopg [48] k (fun g s48 wi => ∃ (j:Nat),j≤k∧g=k-j∧s48=.int .i64 j∧Hid (∀ t,t<j→cycB (ndL d) t=false)∧Below w4.heap.size w4 wi)
   case atStart=>exact ⟨0,Nat.zero_le _,rfl,rfl,(fun t ht=>absurd ht (Nat.not_lt_zero _):∀ t,t<0→_),Below.refl _ _⟩
   case round =>
    obtain ⟨j,hj,rfl,rfl,HCy,hBj⟩:=hrel
    have HBj:Hid (Below w4.heap.size w4 wr):=hBj
    by_cases hlt:j<k
    ·have hji:(j:Int)<(k:Int):=by omega
     have hrc:=rureach_any Ar cr xs j wr (by rw [HXl.out];exact hd12) (by rw [HXl.out];exact hlt) (by rw [HL.out];exact ndL_inn d) (fun x hx=>by
      have h:=nd_rows HL.out x hx
      rw [HNn.out] at h
      exact ⟨h.1,by omega⟩) (HRv.out.later hBj)
     rw [HXl.out,HL.out] at hrc
     clear hBj
     go_wp2_with fail
     refine hrc.mono ?_
     rintro e w5 ⟨⟨A5,c5,R,rfl,hI5,hR12,hRr⟩,hb5⟩
     have hct:=contains_ints A5 c5 R j w5 hR12 hI5
     have HB5:Hid (Below w4.heap.size w4 w5):=onB HBj.out hb5
     have HIn:Hid (inB R j=cycB (ndL d) j):=by
      show _=_
      rw [Bool.eq_iff_iff,cyc_iff,←hRr]
      unfold inB
      exact decide_eq_true_iff
     rw [HIn.out] at hct
     generalize R.length=m at hct
     clear hrc hb5 hI5 hRr hR12
     cases hcy:cycB (ndL d) j
     ·rw [hcy] at hct
      have HCy2:Hid (∀ t,t<j+1→cycB (ndL d) t=false):=fun t ht=>by
       by_cases e:t=j
       ·rw [e];exact hcy
       ·exact HCy.out t (by omega)
      clear hcy
      go_wp2_with fail
      refine hct.mono ?_
      rintro e w6 ⟨rfl,hb6⟩
      have HB6:Hid (Below w4.heap.size w4 w6):=onB HB5.out hb6
      clear hb6 hct
      go_wp2_with fail
      go_roundg (k-(j+1))
      case measure=>omega
      case rel=>exact ⟨j+1,by omega,rfl,by go_num,HCy2,HB6.out⟩
     ·rw [hcy] at hct
      have HRe:Hid (rErr d=((j:Int),8)):=re2 HD.out HAll.out (by rw [HNn.out];exact hlt) hcy HCy.out
      clear hcy
      go_wp2_with fail
      refine hct.mono ?_
      rintro e w6 ⟨rfl,hb6⟩
      have HB6:Hid (Below w4.heap.size w4 w6):=onB HB5.out hb6
      clear hb6 hct
      go_wp2_with fail
      go_returns
      rw [HRe.out]
      exact ⟨⟨none,0,[],rfl,RowsV.nil _ _ _,fun e=>by cases e⟩,onB HBa.out HB6.out⟩
    ·have hje:j=k:=by omega
     subst hje
     have HRe:Hid (rErr d=(-1,0)):=re3 HD.out HAll.out (by rw [HNn.out];exact HCy.out)
     clear hBj
     go_wp2_with fail
     go_returns
     rw [HRe.out]
     exact ⟨⟨Ar,cr,xs,by rw [HXl.out];rfl,HRv.out.later HBj.out,fun _=>HL.out⟩,onB HBa.out HBj.out⟩
theorem rcheck_any (d:Dm) (A:Option Addr) (cap:Nat) (w:World) (hM:MemsV w A cap d.n d.mem):Calls Tryz.prog 85 #[dimV d A cap] w fun e w'=>e=.returned (.tuple #[.int .i64 (rErr d).1,errV (rErr d).2])∧Below w.heap.size w w':=by
 have hB0:=ownDim_below w d A cap 30
 have hn:=rneeds_any d A cap (ownDim w d A cap 30) (hM.later hB0)
 obtain ⟨d0,d1,d2,hqW⟩:=dim_cells (w:=w) (d:=d) (A:=A) (cap:=cap) (Below.refl _ _)
 have HB0:Hid (Below w.heap.size w (ownDim w d A cap 30)):=hB0
 unfold dimV at hn ⊢
 obtain ⟨W,hW⟩:∃ W,ownDim w d A cap 30=W:=⟨_,rfl⟩
 rw [hW] at d0 d1 d2 hqW HB0 hn
 unfold ownDim at hW
 generalize errV (rErr d).2=ev at hn ⊢
 generalize (rErr d).1=x at hn ⊢
 clear hM hB0
 go_enter Tryz.func85,Tryz.ntmps85
 go_wp2_with fail
 refine hn.mono ?_
 rintro e w1 ⟨⟨A1,c1,xs,rfl,-⟩,hb1⟩
 go_wp2_with fail
 go_ret2
 exact ⟨rfl,onB HB0.out hb1⟩
noncomputable def nErr (d:Dm) (i:Int):Int:=if (rErr d).2≠0 then (rErr d).2 else if i<0∨(d.n:Int)≤i then 1 else 0
noncomputable def nLst (d:Dm) (i:Int):List Int:=if nErr d i=0 then mNd d i.toNat else []
theorem ne0 {d:Dm} {i:Int} (h:(rErr d).2≠0):nErr d i=(rErr d).2∧nLst d i=[]:=by
 have e:nErr d i=(rErr d).2:=by unfold nErr;rw [if_pos h]
 exact ⟨e,by unfold nLst;rw [e,if_neg h]⟩
theorem ne1 {d:Dm} {i:Int} (h:(rErr d).2=0) (hi:i<0∨(d.n:Int)≤i):nErr d i=1∧nLst d i=[]:=by
 have e:nErr d i=1:=by unfold nErr;rw [if_neg (by simpa using h),if_pos hi]
 exact ⟨e,by unfold nLst;rw [e,if_neg (by decide)]⟩
theorem ne2 {d:Dm} {k:Nat} (h:(rErr d).2=0) (hk:k<d.n):nErr d k=0∧nLst d k=mNd d k:=by
 have e:nErr d k=0:=by unfold nErr;rw [if_neg (by simpa using h),if_neg (by omega)]
 exact ⟨e,by unfold nLst;rw [if_pos e,Int.toNat_natCast]⟩
set_option maxHeartbeats 2000000 in
theorem rneed_any (d:Dm) (A:Option Addr) (cap:Nat) (i:Int) (w:World) (hM:MemsV w A cap d.n d.mem):Calls Tryz.prog 150 #[dimV d A cap,.int .i64 i] w fun e w'=>(∃ A' c',e=.returned (.tuple #[.slice A' (nLst d i).length c',errV (nErr d i)])∧IntT w' A' c' (nLst d i))∧Below w.heap.size w w':=by
 have hB0:=ownDim_below w d A cap 30
 have hn:=rneeds_any d A cap (ownDim w d A cap 30) (hM.later hB0)
 obtain ⟨d0,d1,d2,hqW⟩:=dim_cells (w:=w) (d:=d) (A:=A) (cap:=cap) (Below.refl _ _)
 have HB0:Hid (Below w.heap.size w (ownDim w d A cap 30)):=hB0
 unfold dimV at hn ⊢
 obtain ⟨W,hW⟩:∃ W,ownDim w d A cap 30=W:=⟨_,rfl⟩
 rw [hW] at d0 d1 d2 hqW HB0 hn
 unfold ownDim at hW
 clear hM hB0
 by_cases he:(rErr d).2=0
 ·obtain ⟨hd,-,-,h1⟩:=rErr_right he
  obtain ⟨-,-,hd12,-⟩:=dimErr_right hd
  rw [he,h1,errV_zero] at hn
  have HE:Hid ((rErr d).2=0):=he
  obtain ⟨n,hnn⟩:∃ n,d.n=n:=⟨_,rfl⟩
  have HN:Hid (d.n=n):=hnn
  rw [hnn] at d2 hd12 hW hn ⊢
  have hnI:(n:Int)≤12:=by omega
  clear he hd h1 hnn
  go_enter Tryz.func150,Tryz.ntmps150
  go_wp2_with fail
  refine hn.mono ?_
  rintro e w1 ⟨⟨A1,c1,xs,rfl,hR,hL⟩,hb1⟩
  have hL':=hL trivial
  have hxl:xs.length=n:=by rw [←lR_len,hL',ndL_len];exact HN.out
  have HB1:Hid (Below w.heap.size w w1):=onB HB0.out hb1
  have HRx:Hid (RowsV w1 A1 c1 xs∧lR xs=ndL d∧xs.length=n):=⟨hR,hL',hxl⟩
  rw [hxl]
  clear hR hL hL' hxl hb1 hn d0 d1 d2
  by_cases h0:i<0
  ·obtain ⟨e1,e2⟩:=ne1 HE.out (Or.inl h0)
   have HE1:Hid (nErr d i=1):=e1
   have HE2:Hid (nLst d i=[]):=e2
   clear e1 e2
   go_wp2_with fail
   go_ret2
   rw [HE1.out,HE2.out]
   exact ⟨⟨none,0,rfl,IntT.nil _ _ _ (by omega)⟩,HB1.out⟩
  ·have h0':decide (i<0)=false:=decide_eq_false h0
   by_cases h2:(n:Int)≤i
   ·obtain ⟨e1,e2⟩:=ne1 HE.out (Or.inr (by rw [HN.out];exact h2))
    have HE1:Hid (nErr d i=1):=e1
    have HE2:Hid (nLst d i=[]):=e2
    clear e1 e2
    go_wp2_with fail
    go_ret2
    rw [HE1.out,HE2.out]
    exact ⟨⟨none,0,rfl,IntT.nil _ _ _ (by omega)⟩,HB1.out⟩
   ·obtain ⟨k,rfl⟩:∃ k:Nat,i=k:=⟨i.toNat,by omega⟩
    have hkn:k<n:=by omega
    have hki:(k:Int)<(n:Int):=by omega
    obtain ⟨e1,e2⟩:=ne2 HE.out (k:=k) (by rw [HN.out];exact hkn)
    have HE1:Hid (nErr d k=0):=e1
    obtain ⟨⟨hcap,hx0 | ⟨b,rfl,hbw,hcl⟩,hrw⟩,hLx,hxl⟩:=HRx.out
    ·rw [hx0] at hxl;simp at hxl;omega
    have ck:=hcl k (by omega)
    have hTk:=hrw _ (rl_mem (k:=k) (by omega))
    have HPk:Hid ((xs.getD k noR).p=nLst d k):=by
     show _=_
     rw [e2,←lR_at,hLx,ndL_at (by rw [HN.out];exact hkn)]
    rw [HPk.out] at ck hTk
    generalize (xs.getD k noR).A=Ak at ck hTk
    generalize (xs.getD k noR).c=cck at ck hTk
    have HTk:Hid (IntT w1 Ak cck (nLst d k)):=hTk
    clear hcl hrw hLx e1 e2 hTk h0
    go_wp2_with fail
    go_ret2
    rw [HE1.out]
    exact ⟨⟨Ak,cck,rfl,HTk.out⟩,HB1.out⟩
 ·obtain ⟨e1,e2⟩:=ne0 (i:=i) he
  rw [e1,e2]
  rw [errV_some he] at hn ⊢
  generalize (rErr d).2=ec at hn ⊢
  generalize (rErr d).1=x at hn
  clear he e1 e2
  go_enter Tryz.func150,Tryz.ntmps150
  go_wp2_with fail
  refine hn.mono ?_
  rintro e w1 ⟨⟨A1,c1,xs,rfl,-⟩,hb1⟩
  go_wp2_with fail
  go_ret2
  exact ⟨⟨none,0,rfl,IntT.nil _ _ _ (by omega)⟩,onB HB0.out hb1⟩
end Go.Proofs.YtfgegmpoejilnaaGreatDoor
