/-
  What member of package rules answers, in whatever memory.
-/
import Derived.Test.YtpoklbfffgpbiaaGreatDoorJXBJ
namespace Go.Proofs.YtpoklbfffgpbiaaGreatDoor
open Go.ChangeShapes Go.WideShapes Go.ChangeAt Go.RowKit
set_option maxRecDepth 20000
theorem MemsAt.grown {w w':World} {b o n:Nat} {M:Nat→Mem} {r:Option Nat} (h:MemsAt w b o n M) (hG:w.grownBy w' r) (hr:some b≠r):MemsAt w' b o n M:=by
 have hb:w'.heap[b]?=w.heap[b]?:=hG.block b h.1 hr
 have hc:∀ k,w'.cell? ⟨b,k,none⟩=w.cell? ⟨b,k,none⟩:=fun k=>World.cell?_of_block (a:=⟨b,k,none⟩) hb
 refine ⟨Nat.lt_of_lt_of_le h.1 hG.size,fun i hi=>?_⟩
 obtain ⟨h0,h1,h2,h3⟩:=h.2 i hi
 exact ⟨(hc _).trans h0,(hc _).trans h1,(hc _).trans h2,(hc _).trans h3⟩
def noSg (d:Dm) (k:Int):Bool:=decide ((d.mem k.toNat).sign=0)
theorem noSg_sg (d:Dm):(fun x => !noSg d x)=sgB d:=by
 funext x
 unfold noSg sgB
 by_cases h:(d.mem x.toNat).sign=0 <;> simp [h]
theorem ent_sign (args:Array Value) (w:World):(callFunc 100 args).run Tryz.prog w=.ok (.enter 100 args) w:=by simp [go_sem]
theorem rsign_any (d:Dm) (b o cap q k:Nat) (w:World) (hk:k<d.n) (hn:d.n≤12) (hM:MemsAt w b o d.n d.mem) (hc:w.cell? ⟨q,2,none⟩=some (.slice (some ⟨b,o,none⟩) d.n cap)) :
  Calls Tryz.prog 100 #[.int .i64 k,.pointer (some ⟨q,0,none⟩)] w fun e w'=>e=.returned (.bool (noSg d k))∧Below w.heap.size w w':=by
 obtain ⟨-,-,h2,-⟩:=hM.2 k hk
 have hki:(k:Int)<(d.n:Int):=by omega
 have hni:(d.n:Int)≤12:=by omega
 unfold noSg
 rw [Int.toNat_natCast]
 generalize (d.mem k).sign=sg at h2 ⊢
 generalize d.n=n at *
 clear hM
 go_enter Tryz.func100,Tryz.ntmps100
 go_wp2_with fail
 go_ret
 exact ⟨by by_cases h:sg=0 <;> simp [h],Below.refl _ _⟩
theorem memErr_form {M:Nat→Mem} {i:Nat} (h:memErr M i=0):(M i).formula.size≤100:=by
 unfold memErr at h
 split at h
 ·simp at h
 ·split at h
  ·simp at h
  ·split at h
   ·simp at h
   ·split at h
    ·simp at h
    ·split at h
     ·simp at h
     ·split at h
      ·simp at h
      ·omega
theorem rf_mem {d:Dm} (hd:(dimErr d).2=0) {i:Nat} (hf:(d.mem i).formula.size≠0):rfE d (d.mem i).formula=mErr d i∧rfL d (d.mem i).formula=lst (mErr d i) (mNd d i):=by
 have e:rfE d (d.mem i).formula=mErr d i:=by
  unfold rfE mErr nmsOf
  rw [if_neg hf]
 refine ⟨e,?_⟩
 unfold rfL lst
 rw [e]
 by_cases h:mErr d i=0
 ·rw [if_pos h,if_pos h]
  refine sort_need hd hf h ?_
  unfold mErr at h
  rw [if_neg hf] at h
  split at h
  ·rename_i h1;exact absurd h h1
  ·rename_i h1;simpa using h1
 ·rw [if_neg h,if_neg h]
set_option maxHeartbeats 4000000 in
theorem rmember_any (d:Dm) (A:Option Addr) (cap i:Nat) (w:World) (hd:(dimErr d).2=0) (hi:i<d.n) (hM:MemsV w A cap d.n d.mem) :
  Calls Tryz.prog 66 #[dimV d A cap,.int .i64 i] w fun e w'=>(∃ A' c',e=.returned (.tuple #[.slice A' (lst (mErr d i) (mNd d i)).length c',errV (mErr d i)])∧IntT w' A' c' (lst (mErr d i) (mNd d i)))∧Below w.heap.size w w':=by
 obtain ⟨-,-,hd2,hall⟩:=dimErr_right hd
 obtain ⟨hcap,h0 | ⟨b,o,rfl,hMs⟩⟩:=hM
 ·omega
 have hB0:=ownDim_below w d (some ⟨b,o,none⟩) cap 32
 have hS:=ownDim_size w d (some ⟨b,o,none⟩) cap 32
 obtain ⟨o0,o1,o2⟩:=ownDim_at w d (some ⟨b,o,none⟩) cap 32
 unfold dimV
 obtain ⟨W,hW⟩:∃ W,ownDim w d (some ⟨b,o,none⟩) cap 32=W:=⟨_,rfl⟩
 rw [hW] at hB0 hS o0 o1 o2
 unfold ownDim at hW
 have hMW:=hMs.later hB0
 obtain ⟨-,-,-,c3⟩:=hMW.2 i hi
 have hii:(i:Int)<(d.n:Int):=by omega
 have hni:(d.n:Int)≤12:=by omega
 have hq:w.heap.size<W.heap.size:=by omega
 have HB0:Hid (Below w.heap.size w W):=hB0
 by_cases hf:(d.mem i).formula.size=0
 ·have hf':(d.mem i).formula.toList.isEmpty=true:=by rw [empty_same];simpa using hf
  have hme:mErr d i=0:=by unfold mErr;rw [if_pos hf]
  rw [hme,lst_ok rfl,errV_zero]
  have hpa:=parts_own d (some ⟨b,o,none⟩) cap i W hd hi ⟨hcap,Or.inr ⟨b,o,rfl,hMW⟩⟩
  unfold dimV at hpa
  have HNd:Hid ((partsOf d.mem d.n i).filter (sgB d)=mNd d i):=parts_need hf
  have HPl:Hid ((partsOf d.mem d.n i).length≤12):=Nat.le_trans (selTo_len _ _) hd2
  have HPm:Hid (∀ x∈partsOf d.mem d.n i,∃ k:Nat,x=(k:Int)∧k<d.n):=fun x hx=>by
   obtain ⟨m,h1,h2,-⟩:=selTo_mem x hx
   exact ⟨m,h1,h2⟩
  have HMW:Hid (MemsAt W b o d.n d.mem):=hMW
  have HO2:Hid (W.cell? ⟨w.heap.size,2,none⟩=some (.slice (some ⟨b,o,none⟩) d.n cap)):=o2
  generalize (d.mem i).formula=fm at c3 hf'
  clear hMs hall hf hme
  go_enter Tryz.func66,Tryz.ntmps66
  go_wp2_with fail
  refine hpa.mono ?_
  rintro e w1 ⟨⟨v1,rfl,hO1⟩,hb1⟩
  have HB1:Hid (Below W.heap.size W w1):=hb1
  have hq1:w.heap.size<w1.heap.size:=by have:=hb1.size;omega
  have hdel:=delf_any 100 #[.pointer (some ⟨w.heap.size,0,none⟩)] (noSg d) ent_sign W.heap.size v1 (partsOf d.mem d.n i) w1 (by have:=HPl.out;omega) hO1 fun x w' hx hG=>by
   obtain ⟨k,rfl,hk⟩:=HPm.out x hx
   have hown:∀ j,v1.ownBlock=some j→W.heap.size≤j:=fun j hj=>(hO1.lt j hj).1
   have hbw:b<W.heap.size:=HMW.out.1
   have hne:∀ j,j<W.heap.size→some j≠v1.ownBlock:=fun j hj e=>by have:=hown j e.symm;omega
   refine rsign_any d b o cap w.heap.size k w' hk hd2 ((HMW.out.later hb1).grown hG (hne b hbw)) ?_
   have h1:w1.cell? ⟨w.heap.size,2,none⟩=some (.slice (some ⟨b,o,none⟩) d.n cap):=(hb1.cell (p:=⟨w.heap.size,2,none⟩) hq).trans HO2.out
   rw [World.cell?_of_block (a:=⟨w.heap.size,2,none⟩) (hG.block w.heap.size hq1 (hne _ hq))]
   exact h1
  rw [noSg_sg,HNd.out] at hdel
  have HBd:Hid (∀ w',w1.grownBy w' v1.ownBlock→Below w.heap.size w w'):=fun w' hG=>(onB HB0.out hb1).grown hG (by have:=HB0.out.size;have:=hb1.size;omega) fun j hj=>by have:=(hO1.lt j hj).1;omega
  clear hO1 hb1 hpa
  go_wp2_with fail
  refine hdel.mono ?_
  rintro e w2 ⟨⟨A2,c2,rfl,hT⟩,hG⟩
  have HT:Hid (IntT w2 A2 c2 (mNd d i)):=hT
  have HB2:Hid (Below w.heap.size w w2):=HBd.out w2 hG
  clear hT hG hdel
  go_wp2_with fail
  go_ret2
  exact ⟨⟨A2,c2,rfl,HT.out⟩,HB2.out⟩
 ·have hf':(d.mem i).formula.toList.isEmpty=false:=by rw [empty_same];simpa using hf
  obtain ⟨e1,e2⟩:=rf_mem hd hf
  have hIs:IsF d w.heap.size W:=fun s w' hB=>is_any d b o cap w.heap.size s w' hd2 (hMW.later hB) (Nat.lt_of_lt_of_le hq hB.size) ((hB.cell (p:=⟨w.heap.size,2,none⟩) hq).trans o2)
  have hrf:=refs_any d w.heap.size (d.mem i).formula W (memErr_form (hall i hi)) hIs
  rw [←e2,←e1]
  unfold isV at hrf
  obtain ⟨fm,hfm⟩:∃ fm,(d.mem i).formula=fm:=⟨_,rfl⟩
  rw [hfm] at c3 hf' hrf ⊢
  generalize rfL d fm=L at hrf ⊢
  generalize errV (rfE d fm)=ev at hrf ⊢
  clear hMs hall hf hIs hMW e1 e2 hfm
  go_enter Tryz.func66,Tryz.ntmps66
  go_wp2_with fail
  refine hrf.mono ?_
  rintro e w1 ⟨⟨A1,c1,rfl,hT⟩,hb1⟩
  have HT:Hid (IntT w1 A1 c1 L):=hT
  clear hT hrf
  go_wp2_with fail
  go_ret2
  exact ⟨⟨A1,c1,rfl,HT.out⟩,onB HB0.out hb1⟩
end Go.Proofs.YtpoklbfffgpbiaaGreatDoor
