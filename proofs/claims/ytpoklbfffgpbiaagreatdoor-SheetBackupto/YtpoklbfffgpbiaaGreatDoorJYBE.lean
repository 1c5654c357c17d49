/-
  What member of package rules answers, in whatever memory.
-/
import Derived.Test.YtpoklbfffgpbiaaGreatDoorShelfJ
import Derived.Test.YtpoklbfffgpbiaaGreatDoorJYBD
namespace Go.Proofs.YtpoklbfffgpbiaaGreatDoor
open Go.ChangeShapes Go.WideShapes Go.ChangeAt Go.RowKit
set_option maxRecDepth 20000
theorem MemsAt.grown {w w':World} {b o n:Nat} {M:Nat→Mem} {r:Option Nat} (h:MemsAt w b o n M) (hG:w.grownBy w' r) (hr:some b≠r):MemsAt w' b o n M:=by
 have hb:w'.heap[b]?=w.heap[b]?:=hG.block b h.1 hr
 have hc:∀ k,w'.cell? ⟨b,k,none⟩=w.cell? ⟨b,k,none⟩:=fun k=>World.cell?_of_block (a:=⟨b,k,none⟩) hb
 refine ⟨Nat.lt_of_lt_of_le h.1 hG.size,fun i hi=>?_⟩
 obtain ⟨h0,h1,h2,h3⟩:=h.2 i hi
 exact ⟨(hc _).trans h0,(hc _).trans h1,(hc _).trans h2,(hc _).trans h3⟩
def noSg (d:Dm) (k:Int):Bool:=decide ((d.mem k.toNat).sign=0)
theorem noSg_sg (d:Dm):(fun x => !noSg d x)=sgB d:=by
 funext x
 unfold noSg sgB
 by_cases h:(d.mem x.toNat).sign=0 <;> simp [h]
theorem ent_sign (args:Array Value) (w:World):(callFunc 100 args).run Tryz.prog w=.ok (.enter 100 args) w:=by simp [go_sem]
theorem rsign_any (d:Dm) (b o cap q k:Nat) (w:World) (hk:k<d.n) (hn:d.n≤12) (hM:MemsAt w b o d.n d.mem) (hc:w.cell? ⟨q,2,none⟩=some (.slice (some ⟨b,o,none⟩) d.n cap)) :
  Calls Tryz.prog 100 #[.int .i64 k,.pointer (some ⟨q,0,none⟩)] w fun e w'=>e=.returned (.bool (noSg d k))∧Below w.heap.size w w':=by
 obtain ⟨-,-,h2,-⟩:=hM.2 k hk
 have hki:(k:Int)<(d.n:Int):=by omega
 have hni:(d.n:Int)≤12:=by omega
 unfold noSg
 rw [Int.toNat_natCast]
 generalize (d.mem k).sign=sg at h2 ⊢
 generalize d.n=n at *
 clear hM
 go_enter Tryz.func100,Tryz.ntmps100
 go_wp2_with fail
 go_ret
 exact ⟨by by_cases h:sg=0 <;> simp [h],Below.refl _ _⟩
theorem memErr_form {M:Nat→Mem} {i:Nat} (h:memErr M i=0):(M i).formula.size≤100:=by
 unfold memErr at h
 split at h
 ·simp at h
 ·split at h
  ·simp at h
  ·split at h
   ·simp at h
   ·split at h
    ·simp at h
    ·split at h
     ·simp at h
     ·split at h
      ·simp at h
      ·omega
theorem rf_mem {d:Dm} (hd:(dimErr d).2=0) {i:Nat} (hf:(d.mem i).formula.size≠0):rfE d (d.mem i).formula=mErr d i∧rfL d (d.mem i).formula=lst (mErr d i) (mNd d i):=by
 have e:rfE d (d.mem i).formula=mErr d i:=by
  unfold rfE mErr nmsOf
  rw [if_neg hf]
 refine ⟨e,?_⟩
 unfold rfL lst
 rw [e]
 by_cases h:mErr d i=0
 ·rw [if_pos h,if_pos h]
  refine sort_need hd hf h ?_
  unfold mErr at h
  rw [if_neg hf] at h
  split at h
  ·rename_i h1;exact absurd h h1
  ·rename_i h1;simpa using h1
 ·rw [if_neg h,if_neg h]
set_option maxHeartbeats 4000000 in
theorem rmember_any (d:Dm) (A:Option Addr) (cap i:Nat) (w:World) (hd:(dimErr d).2=0) (hi:i<d.n) (hM:MemsV w A cap d.n d.mem) :
  Calls Tryz.prog 66 #[dimV d A cap,.int .i64 i] w fun e w'=>(∃ A' c',e=.returned (.tuple #[.slice A' (lst (mErr d i) (mNd d i)).length c',errV (mErr d i)])∧IntT w' A' c' (lst (mErr d i) (mNd d i)))∧Below w.heap.size w w':=by
 obtain ⟨-,-,hd2,hall⟩:=dimErr_right hd
 obtain ⟨hcap,h0 | ⟨b,o,rfl,hMs⟩⟩:=hM
 ·omega
 have hB0:=ownDim_below w d (some ⟨b,o,none⟩) cap 32
 have hS:=ownDim_size w d (some ⟨b,o,none⟩) cap 32
 obtain ⟨o0,o1,o2⟩:=ownDim_at w d (some ⟨b,o,none⟩) cap 32
 unfold dimV
 obtain ⟨W,hW⟩:∃ W,ownDim w d (some ⟨b,o,none⟩) cap 32=W:=⟨_,rfl⟩
 rw [hW] at hB0 hS o0 o1 o2
 unfold ownDim at hW
 have hMW:=hMs.later hB0
 obtain ⟨-,-,-,c3⟩:=hMW.2 i hi
 have hii:(i:Int)<(d.n:Int):=by omega
 have hni:(d.n:Int)≤12:=by omega
 have hq:w.heap.size<W.heap.size:=by omega
 have HB0:Hid (Below w.heap.size w W):=hB0
 by_cases hf:(d.mem i).formula.size=0
 ·have hf':(d.mem i).formula.toList.isEmpty=true:=by rw [empty_same];simpa using hf
  have hme:mErr d i=0:=by unfold mErr;rw [if_pos hf]
  rw [hme,lst_ok rfl,errV_zero]
  have hpa:=parts_own d (some ⟨b,o,none⟩) cap i W hd hi ⟨hcap,Or.inr ⟨b,o,rfl,hMW⟩⟩
  unfold dimV at hpa
  have HNd:Hid ((partsOf d.mem d.n i).filter (sgB d)=mNd d i):=parts_need hf
  have HPl:Hid ((partsOf d.mem d.n i).length≤12):=Nat.le_trans (selTo_len _ _) hd2
  have HPm:Hid (∀ x∈partsOf d.mem d.n i,∃ k:Nat,x=(k:Int)∧k<d.n):=fun x hx=>by
   obtain ⟨m,h1,h2,-⟩:=selTo_mem x hx
   exact ⟨m,h1,h2⟩
  have HMW:Hid (MemsAt W b o d.n d.mem):=hMW
  have HO2:Hid (W.cell? ⟨w.heap.size,2,none⟩=some (.slice (some ⟨b,o,none⟩) d.n cap)):=o2
  generalize (d.mem i).formula=fm at c3 hf'
  clear hMs hall hf hme
  go_enter Tryz.func66,Tryz.ntmps66
  go_wp2_with fail
  refine hpa.mono ?_
  rintro e w1 ⟨⟨v1,rfl,hO1⟩,hb1⟩
  have HB1:Hid (Below W.heap.size W w1):=hb1
  have hq1:w.heap.size<w1.heap.size:=by have:=hb1.size;omega
  have hdel:=delf_any 100 #[.pointer (some ⟨w.heap.size,0,none⟩)] (noSg d) ent_sign W.heap.size v1 (partsOf d.mem d.n i) w1 (by have:=HPl.out;omega) hO1 fun x w' hx hG=>by
   obtain ⟨k,rfl,hk⟩:=HPm.out x hx
   have hown:∀ j,v1.ownBlock=some j→W.heap.size≤j:=fun j hj=>(hO1.lt j hj).1
   have hbw:b<W.heap.size:=HMW.out.1
   have hne:∀ j,j<W.heap.size→some j≠v1.ownBlock:=fun j hj e=>by have:=hown j e.symm;omega
   refine rsign_any d b o cap w.heap.size k w' hk hd2 ((HMW.out.later hb1).grown hG (hne b hbw)) ?_
   have h1:w1.cell? ⟨w.heap.size,2,none⟩=some (.slice (some ⟨b,o,none⟩) d.n cap):=(hb1.cell (p:=⟨w.heap.size,2,none⟩) hq).trans HO2.out
   rw [World.cell?_of_block (a:=⟨w.heap.size,2,none⟩) (hG.block w.heap.size hq1 (hne _ hq))]
   exact h1
  rw [noSg_sg,HNd.out] at hdel
  have HBd:Hid (∀ w',w1.grownBy w' v1.ownBlock→Below w.heap.size w w'):=fun w' hG=>(onB HB0.out hb1).grown hG (by have:=HB0.out.size;have:=hb1.size;omega) fun j hj=>by have:=(hO1.lt j hj).1;omega
  clear hO1 hb1 hpa
  go_wp2_with fail
  refine hdel.mono ?_
  rintro e w2 ⟨⟨A2,c2,rfl,hT⟩,hG⟩
  have HT:Hid (IntT w2 A2 c2 (mNd d i)):=hT
  have HB2:Hid (Below w.heap.size w w2):=HBd.out w2 hG
  clear hT hG hdel
  go_wp2_with fail
  go_ret2
  exact ⟨⟨A2,c2,rfl,HT.out⟩,HB2.out⟩
 ·have hf':(d.mem i).formula.toList.isEmpty=false:=by rw [empty_same];simpa using hf
  obtain ⟨e1,e2⟩:=rf_mem hd hf
  have hIs:IsF d w.heap.size W:=fun s w' hB=>is_any d b o cap w.heap.size s w' hd2 (hMW.later hB) (Nat.lt_of_lt_of_le hq hB.size) ((hB.cell (p:=⟨w.heap.size,2,none⟩) hq).trans o2)
  have hrf:=refs_any d w.heap.size (d.mem i).formula W (memErr_form (hall i hi)) hIs
  rw [←e2,←e1]
  unfold isV at hrf
  obtain ⟨fm,hfm⟩:∃ fm,(d.mem i).formula=fm:=⟨_,rfl⟩
  rw [hfm] at c3 hf' hrf ⊢
  generalize rfL d fm=L at hrf ⊢
  generalize errV (rfE d fm)=ev at hrf ⊢
  clear hMs hall hf hIs hMW e1 e2 hfm
  go_enter Tryz.func66,Tryz.ntmps66
  go_wp2_with fail
  refine hrf.mono ?_
  rintro e w1 ⟨⟨A1,c1,rfl,hT⟩,hb1⟩
  have HT:Hid (IntT w1 A1 c1 L):=hT
  clear hT hrf
  go_wp2_with fail
  go_ret2
  exact ⟨⟨A1,c1,rfl,HT.out⟩,onB HB0.out hb1⟩
end Go.Proofs.YtpoklbfffgpbiaaGreatDoor
namespace Go.Proofs.YtpoklbfffgpbiaaGreatDoor
open Go Go.ChangeShapes Go.WideShapes Go.ChangeAt Go.RowKit
set_option maxRecDepth 1000000
set_option maxHeartbeats 64000000
def sgT (x:Int):List UInt8:=if x = -1 then [45] else if x=0 then [126] else [43]
def paB (x:Int):List UInt8:=if 0≤x then Lib.itoa x else [45]
def foB (s:ByteArray):List UInt8:=if s.toList.isEmpty=true then [] else 61 :: s.data.toList
def memT (m:Mem):List UInt8:=[109,101,109,32] ++ m.name.data.toList ++ [32] ++ paB m.parent ++ [32] ++ sgT m.sign ++ foB m.formula ++ [10]
def memsT (M:Nat→Mem) (k:Nat):List UInt8:=(List.range k).flatMap fun j=>memT (M j)
def hdT (d:Dm):List UInt8:=[100,105,109,32] ++ d.name.data.toList ++ [32] ++ Lib.itoa d.solve ++ [10]
def dimsT (D:Nat→Dm) (k:Nat):List UInt8:=(List.range k).flatMap fun i=>hdT (D i) ++ memsT (D i).mem (D i).n
def celT (D:Nat→Dm) (n:Nat) (e:En):List UInt8:=[99,101,108,108,32] ++ textTo D e.pl n ++ [32] ++ Lib.itoa e.n ++ [10]
def celsT (D:Nat→Dm) (n:Nat) (l:List En):List UInt8:=l.flatMap (celT D n)
def shT (D:Nat→Dm) (n:Nat) (l:List En):List UInt8:=dimsT D n ++ celsT D n l
theorem memsT_succ (M:Nat→Mem) (k:Nat):memsT M (k+1)=memsT M k ++ memT (M k):=by simp [memsT,List.range_succ]
theorem dimsT_succ (D:Nat→Dm) (k:Nat):dimsT D (k+1)=dimsT D k ++ (hdT (D k) ++ memsT (D k).mem (D k).n):=by simp [dimsT,List.range_succ]
theorem celsT_take (D:Nat→Dm) (n:Nat) (l:List En) {k:Nat} (h:k<l.length):celsT D n (l.take (k+1))=celsT D n (l.take k) ++ celT D n (l.getD k noEn):=by
 unfold celsT
 rw [List.take_add_one,List.flatMap_append]
 congr 1
 simp [List.getElem?_eq_getElem h,List.getD]
theorem mem_right {M:Nat→Mem} {i:Nat} (h:memErr M i=0) (hi:i≤12):(M i).name.size≤30∧-1≤(M i).parent∧(M i).parent≤12∧-1≤(M i).sign∧(M i).sign≤1∧(M i).formula.size≤100:=by
 unfold memErr at h
 split at h
 ·cases h
 ·rename_i h1
  have h2:nameErr (M i).name=0:=by simpa using h1
  have h3:(M i).name.size≤30:=by
   unfold nameErr at h2
   split at h2
   ·cases h2
   ·omega
  split at h
  ·cases h
  ·split at h
   ·cases h
   ·split at h
    ·cases h
    ·split at h
     ·cases h
     ·split at h
      ·cases h
      ·refine ⟨h3,?_⟩
       omega
theorem dim_right {d:Dm} (h:(dimErr d).2=0):d.name.size≤30∧0≤d.solve∧d.solve≤9:=by
 unfold dimErr at h
 split at h
 ·simp at h
 ·rename_i h1
  have h2:nameErr d.name=0:=by simpa using h1
  have h3:d.name.size≤30:=by
   unfold nameErr at h2
   split at h2
   ·cases h2
   ·omega
  split at h
  ·simp at h
  ·exact ⟨h3,by omega,by omega⟩
theorem sgT_len (x:Int):(sgT x).length≤1:=by unfold sgT;split;simp;split <;> simp
theorem bsz (s:ByteArray):s.data.toList.length=s.size:=by simp
theorem memT_len {m:Mem} (h1:m.name.size≤30) (h2 : -1≤m.parent) (h3:m.parent≤12) (h4:m.formula.size≤100):(memT m).length≤1000:=by
 have a1:=bsz m.name
 have a2:=bsz m.formula
 have a3:=Lib.itoa_length_le m.parent (by omega) (by omega)
 have a4:=sgT_len m.sign
 have a5:(paB m.parent).length≤40:=by unfold paB;split;omega;simp
 have a6:(foB m.formula).length≤101:=by unfold foB;split;simp;simp only [List.length_cons];omega
 unfold memT
 simp only [List.length_append,List.length_cons,List.length_nil]
 omega
theorem hdT_len {d:Dm} (h1:d.name.size≤30) (h2:0≤d.solve) (h3:d.solve≤9):(hdT d).length≤1000:=by
 have a1:=bsz d.name
 have a3:=Lib.itoa_length_le d.solve (by omega) (by omega)
 unfold hdT
 simp only [List.length_append,List.length_cons,List.length_nil]
 omega
theorem memsT_len {M:Nat→Mem}:∀ k,k≤12→(∀ j,j<k→memErr M j=0)→(memsT M k).length≤k*1000
 | 0,_,_=>by simp [memsT]
 | k+1,hk,h=>by
  have h1:=memsT_len k (by omega) (fun j hj=>h j (by omega))
  obtain ⟨b1,b2,b3,-,-,b4⟩:=mem_right (h k (by omega)) (by omega)
  have h2:=memT_len b1 b2 b3 b4
  rw [memsT_succ,List.length_append]
  omega
theorem dimsT_len {D:Nat→Dm} {n:Nat} (h:∀ i,i<n→(dimErr (D i)).2=0):∀ k,k≤n→(dimsT D k).length≤k*13000
 | 0,_=>by simp [dimsT]
 | k+1,hk=>by
  have h1:=dimsT_len h k (by omega)
  obtain ⟨-,-,c1,c2⟩:=dimErr_right (h k (by omega))
  obtain ⟨b1,b2,b3⟩:=dim_right (h k (by omega))
  have h2:=hdT_len b1 b2 b3
  have h3:=memsT_len (D k).n c1 c2
  rw [dimsT_succ,List.length_append,List.length_append]
  omega
theorem celT_len {D:Nat→Dm} {n:Nat} {e:En} (hI:InO D n e.pl) (hn:numOk e.n=true):(celT D n e).length≤1000:=by
 have h1:=textTo_len hI n (Nat.le_refl _)
 have h2:n≤4:=(allErr_some hI.right).2.1
 unfold numOk at hn
 simp only [Bool.and_eq_true,decide_eq_true_eq] at hn
 have a3:=Lib.itoa_length_le e.n (by omega) (by omega)
 unfold celT
 simp only [List.length_append,List.length_cons,List.length_nil]
 omega
theorem celsT_len {D:Nat→Dm} {n:Nat}:∀ l:List En,(∀ e∈l,InO D n e.pl∧numOk e.n=true)→(celsT D n l).length≤l.length*1000
 | [],_=>by simp [celsT]
 | e :: r,h=>by
  have h1:=celsT_len r fun x hx=>h x (List.mem_cons_of_mem _ hx)
  have h2:=h e (List.mem_cons_self ..)
  have h3:=celT_len h2.1 h2.2
  unfold celsT at h1 ⊢
  rw [List.flatMap_cons,List.length_append,List.length_cons]
  omega
end Go.Proofs.YtpoklbfffgpbiaaGreatDoor
namespace Go.Proofs.YtpoklbfffgpbiaaGreatDoor
open Go Go.ChangeShapes Go.WideShapes Go.ChangeAt Go.RowKit
set_option maxRecDepth 20000
set_option maxHeartbeats 4000000
theorem Tryz.extraJ:Builder.Extra Tryz.prog Tryz.lays156_ren:={
 sizeBuilder:=by kernel_rfl
 liesBuilder:=by kernel_rfl
 t5:=Tryz.underlying5
 a5:=Tryz.isAgg5
 z5:=Tryz.sizeOf5
 v5:=Tryz.zeroValue5
 infoByte:=by kernel_rfl
 cellsByte:=by kernel_rfl
 sizeByte:=by kernel_rfl
 neB5:=by decide }
def liB (l:List ByteArray):ByteArray:=⟨((Lib.join (l.map fun x:ByteArray=>x.data.toList) [32]:List UInt8) ++ [10]).toArray⟩
theorem liB_three (a b c:ByteArray):(liB [a,b,c]).data.toList=a.data.toList ++ [32] ++ b.data.toList ++ [32] ++ c.data.toList ++ [10]:=by
 simp [liB,Lib.join]
theorem liB_four (a b c d:ByteArray):(liB [a,b,c,d]).data.toList=a.data.toList ++ [32] ++ b.data.toList ++ [32] ++ c.data.toList ++ [32] ++ d.data.toList ++ [10]:=by
 simp [liB,Lib.join]
theorem joinW_len (m:Nat):∀ L:List ByteArray,(∀ x∈L,x.size≤m)→(Lib.join (L.map (·.data.toList)) [32]).length≤L.length*(m+1)
 | [],_=>by simp [Lib.join]
 | x :: r,h=>by
  have h2:=h x (List.mem_cons_self ..)
  have h3:x.data.toList.length=x.size:=by simp
  have h1:∀ L:List ByteArray,(∀ x∈L,x.size≤m)→(Lib.joinTail [32] (L.map (·.data.toList))).length≤L.length*(m+1):=by
   intro L
   induction L with
   | nil=>intro _;simp [Lib.joinTail]
   | cons x r ih =>
    intro h
    have h1:=ih fun y hy=>h y (List.mem_cons_of_mem _ hy)
    have h2:=h x (List.mem_cons_self ..)
    have h3:x.data.toList.length=x.size:=by simp
    simp only [Lib.joinTail,List.map_cons,List.flatten_cons,List.length_append,List.length_cons,List.length_nil,Nat.add_mul] at h1 ⊢
    omega
  have h4:=h1 r fun y hy=>h y (List.mem_cons_of_mem _ hy)
  rw [List.map_cons,Lib.join_cons,List.length_append,List.length_cons,Nat.add_mul]
  omega
theorem sline_any (g c m:Nat) (l:List ByteArray) (w:World) (h1:∀ (j:Nat) x,l[j]?=some x→w.cell? ⟨g,0+j,none⟩=some (.string x)) (hg:g<w.heap.size) (hl:l.length=m) (hm:m≤4) (hc:m≤c) (hx:∀ x∈l,x.size≤1048576) :
  Calls Tryz.prog 14 #[.slice (some ⟨g,0,none⟩) m c] w fun e w'=>e=.returned (.string (liB l))∧Below w.heap.size w w':=by
 have hj:=joinW_len 1048576 l hx
 have hjl:(Lib.join (l.map (·.data.toList)) (ByteArray.mk #[32]).data.toList).length≤140737488355328:=by
  refine Nat.le_trans hj ?_
  rw [hl]
  omega
 have h:=Any.strings_Join Tryz.lays156 Tryz.extraJ g 0 c l ⟨#[32]⟩ w h1 hg (by omega) (by omega) hjl
 rw [hl] at h
 obtain ⟨t,ht⟩:∃ t:ByteArray,⟨(Lib.join (l.map (·.data.toList)) (ByteArray.mk #[32]).data.toList).toArray⟩=t:=⟨_,rfl⟩
 have hts:t.size≤140737488355328:=by rw [←ht];show (List.toArray _).size≤_;rw [List.size_toArray];exact hjl
 have HE:Hid (t ++ ⟨#[10]⟩=liB l):=by
  show _=_
  rw [←ht]
  apply ByteArray.ext
  simp [liB,ByteArray.data_append]
 rw [ht] at h
 have hts':(t.size:Int)≤140737488355328:=by omega
 have hadd : ¬ 9223372036854775807<t.size+1:=by omega
 clear h1 hg hl hm hc hx hj hjl ht
 go_enter Tryz.func14,Tryz.ntmps14
 go_wp2_with fail
 refine h.mono ?_
 rintro e w1 ⟨rfl,hb⟩
 go_wp2_with fail
 go_ret
 rw [HE.out]
 exact ⟨rfl,hb⟩
theorem parent_any (p:Int) (w:World) (h0 : -1≤p) (h1:p≤9223372036854775807) (hE:TabE w):Calls Tryz.prog 16 #[.int .i64 p] w fun e w'=>e=.returned (.string ⟨(paB p).toArray⟩)∧Below w.heap.size w w':=by
 by_cases hp:p = -1
 ·subst hp
  have HP:Hid ((⟨#[45]⟩:ByteArray)=⟨(paB (-1)).toArray⟩):=by show _=_;unfold paB;rw [if_neg (by omega)]
  clear hE
  go_enter Tryz.func16,Tryz.ntmps16
  go_wp2_with fail
  go_ret
  exact ⟨by rw [←HP.out];rfl,Below.refl _ _⟩
 ·have HP:Hid (Lib.itoa p=paB p):=by show _=_;unfold paB;rw [if_pos (by omega)]
  have h:=itoaF p w (by omega) h1 hE
  have hp':(p == -1)=false:=by simpa using hp
  clear hE h0 h1
  go_enter Tryz.func16,Tryz.ntmps16
  go_wp2_with fail
  refine h.mono ?_
  rintro e w1 ⟨rfl,hb⟩
  go_wp2_with fail
  go_ret
  exact ⟨by rw [←HP.out];rfl,hb⟩
theorem sgt_any (x:Int) (w:World) (h0 : -1≤x) (h1:x≤1):Calls Tryz.prog 17 #[.int .i64 x] w fun e w'=>e=.returned (.string ⟨(sgT x).toArray⟩)∧Below w.heap.size w w':=by
 have h:x = -1∨x=0∨x=1:=by omega
 rcases h with rfl | rfl | rfl
 all_goals
  go_enter Tryz.func17,Tryz.ntmps17
  go_wp2_with fail
  go_ret
  exact ⟨rfl,Below.refl _ _⟩
theorem formt_any (s:ByteArray) (w:World) (hs:s.size≤1048576):Calls Tryz.prog 18 #[.string s] w fun e w'=>e=.returned (.string ⟨(foB s).toArray⟩)∧Below w.heap.size w w':=by
 cases hb:s.toList.isEmpty
 ·have HP:Hid ((⟨#[61]⟩ ++ s:ByteArray)=⟨(foB s).toArray⟩):=by
   show _=_
   unfold foB
   rw [hb,if_neg (by decide)]
   apply ByteArray.ext
   simp [ByteArray.data_append]
  have hadd : ¬ 9223372036854775807<1+s.size:=by omega
  go_enter Tryz.func18,Tryz.ntmps18
  go_wp2_with fail
  go_ret
  exact ⟨by rw [←HP.out];rfl,Below.refl _ _⟩
 ·have HP:Hid ((⟨#[]⟩:ByteArray)=⟨(foB s).toArray⟩):=by
   show _=_
   unfold foB
   rw [hb,if_pos rfl]
  have hb2:s.toList=[]:=List.isEmpty_iff.1 hb
  go_enter Tryz.func18,Tryz.ntmps18
  go_wp2_with fail
  go_ret
  exact ⟨by rw [←HP.out];rfl,Below.refl _ _⟩
end Go.Proofs.YtpoklbfffgpbiaaGreatDoor
