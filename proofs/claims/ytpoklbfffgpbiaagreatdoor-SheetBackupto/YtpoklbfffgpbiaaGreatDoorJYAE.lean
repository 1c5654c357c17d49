/-
  What package tree tells, as plain functions on plain data: the path of a member, its parts, its leafs, how a leaf counts in a member, how long paths are; and small facts on them.
-/
import Derived.OwnWalk
import Derived.WalkSpells
import Derived.WalkLawsBesides
import Derived.Shelf.Strings.Builder1
import Derived.Test.YtpoklbfffgpbiaaGreatDoorJYAB
import Derived.Test.YtpoklbfffgpbiaaGreatDoorJYAD
namespace Go.Proofs.YtpoklbfffgpbiaaGreatDoor
def Tr (M:Nat→Mem) (n:Nat):Prop := ∀ k,k<n→-1≤(M k).parent∧(M k).parent<(k:Int)
theorem memErr_tree {M:Nat→Mem} {i:Nat} (h:memErr M i=0):(-1≤(M i).parent∧(M i).parent<(i:Int))∧(-1≤(M i).sign∧(M i).sign≤1)∧(0≤(M i).parent→(M (M i).parent.toNat).formula.size=0):=by
 unfold memErr at h
 split at h
 ·simp at h
 ·split at h
  ·simp at h
  ·split at h
   ·simp at h
   ·split at h
    ·simp at h
    ·split at h
     ·simp at h
     ·rename_i h1 h2 h3 h4 h5
      refine ⟨by omega,by omega,fun h6=>?_⟩
      exact Decidable.byContradiction fun h7=>h4 ⟨h6,h7⟩
theorem Tr.of {d:Dm} (h:(dimErr d).2=0):Tr d.mem d.n:=fun k hk=>(memErr_tree ((dimErr_right h).2.2.2 k hk)).1
def selTo (p:Nat→Bool):Nat→List Int
 | 0=>[]
 | k+1=>selTo p k ++ (if p k=true then [(k:Int)] else [])
theorem selTo_hit {p:Nat→Bool} {k:Nat} (h:p k=true):selTo p (k+1)=selTo p k ++ [(k:Int)]:=by simp [selTo,h]
theorem selTo_miss {p:Nat→Bool} {k:Nat} (h:p k=false):selTo p (k+1)=selTo p k:=by simp [selTo,h]
theorem selTo_len (p:Nat→Bool) (k:Nat):(selTo p k).length≤k:=by
 induction k with
 | zero=>exact Nat.le_refl _
 | succ k ih=>rw [selTo,List.length_append];split <;> simp <;> omega
theorem selTo_mem {p:Nat→Bool} {k:Nat}:∀ j∈selTo p k,∃ m:Nat,j=m∧m<k∧p m=true:=by
 induction k with
 | zero=>intro j hj;cases hj
 | succ k ih =>
  intro j hj
  rw [selTo,List.mem_append] at hj
  rcases hj with hj | hj
  ·obtain ⟨m,h1,h2,h3⟩:=ih j hj;exact ⟨m,h1,by omega,h3⟩
  ·split at hj
   ·rename_i hp;simp at hj;exact ⟨k,hj,by omega,hp⟩
   ·cases hj
def partB (M:Nat→Mem) (i:Int) (k:Nat):Bool:=(M k).parent == i
def leafB (M:Nat→Mem) (n k:Nat):Bool:=decide ((M k).formula.size=0) && !decide (0≤findFrom (partB M k) n 0)
def inB (L:List Int) (i:Int):Bool:=decide (i∈L)
def partsOf (M:Nat→Mem) (n:Nat) (i:Int):List Int:=selTo (partB M i) n
theorem find_in (L:List Int) (i:Int):decide (0≤findFrom (fun j=>L.getD j 0 == i) L.length 0)=inB L i:=by
 unfold inB
 rw [decide_eq_decide]
 rcases findFrom_cases (fun j=>L.getD j 0 == i) L.length 0 with ⟨h1,h2⟩ | ⟨k,h1,_,h3,h4,_⟩
 ·rw [h1]
  constructor
  ·intro h;omega
  ·intro h
   obtain ⟨j,hj,e⟩:=List.getElem_of_mem h
   have:=h2 j (Nat.zero_le _) (by omega)
   simp [List.getD,List.getElem?_eq_getElem hj,e] at this
 ·rw [h1]
  constructor
  ·intro _
   have hk:k<L.length:=by omega
   simp [List.getD,List.getElem?_eq_getElem hk] at h4
   rw [←h4];exact List.getElem_mem hk
  ·intro _;omega
def rangeErr (n:Nat) (L:List Int):Int:=if 0≤findFrom (fun j=>decide (L.getD j 0<0) || decide ((n:Int)≤L.getD j 0)) L.length 0 then 1 else 0
def treeErr (d:Dm) (L:List Int):Int:=if (dimErr d).2≠0 then (dimErr d).2 else rangeErr d.n L
theorem treeErr_dim {d:Dm} {L:List Int} (h:(dimErr d).2≠0):treeErr d L=(dimErr d).2:=by unfold treeErr;rw [if_pos h]
theorem treeErr_one {d:Dm} {i:Int} (h:(dimErr d).2=0):treeErr d [i]=if i<0∨(d.n:Int)≤i then 1 else 0:=by
 unfold treeErr rangeErr;rw [if_neg (by simpa using h)]
 by_cases h1:i<0∨(d.n:Int)≤i
 ·rw [if_pos h1];simp [findFrom,h1]
 ·rw [if_neg h1];simp [findFrom,h1]
end Go.Proofs.YtpoklbfffgpbiaaGreatDoor
namespace Go.Proofs.YtpoklbfffgpbiaaGreatDoor
open Go.ChangeShapes Go.WideShapes Go.ChangeAt Go.RowKit
set_option maxRecDepth 20000
theorem isleaf1_in:EntersO 130:=fun args w=>by simp [callFunc,Tryz.func130];rfl
theorem isleaf1_any (m:Mem) (i:Int) (q:Nat) (w:World) (hq:q<w.heap.size) (h:w.cell? ⟨q,0,none⟩=some (.int .i64 i)):Calls Tryz.prog 130 #[memV m,.pointer (some ⟨q,0,none⟩)] w fun e w'=>e=.returned (.bool (m.parent == i))∧Below w.heap.size w w':=by
 unfold memV
 go_enter Tryz.func130,Tryz.ntmps130
 go_wp2_with fail
 go_ret
 exact ⟨by simp,by go_grown⟩
def ownInt (w:World) (i:Int) (T:Nat):World:=w.alloc (.cells #[.int .i64 i] T)
theorem ownInt_at (w:World) (i:Int) (T:Nat):(ownInt w i T).cell? ⟨w.heap.size,0,none⟩=some (.int .i64 i):=by unfold ownInt;simp
theorem ownInt_size (w:World) (i:Int) (T:Nat):(ownInt w i T).heap.size=w.heap.size+1:=by unfold ownInt;simp
theorem ownInt_below (w:World) (i:Int) (T:Nat):Below w.heap.size w (ownInt w i T):=by unfold ownInt;go_grown
theorem leafB_told {M:Nat→Mem} {n k:Nat} (h:(M k).formula.size≠0):leafB M n k=false:=by simp [leafB,h]
theorem leafB_parts {M:Nat→Mem} {n k:Nat} (h:(M k).formula.size=0):leafB M n k = !decide (0≤findFrom (partB M k) n 0):=by simp [leafB,h]
set_option maxHeartbeats 2000000 in
theorem isleaf_any (b o n cap i:Nat) (M:Nat→Mem) (w:World) (hn:n≤12) (hi:i<n) (hM:MemsAt w b o n M):Calls Tryz.prog 104 #[.slice (some ⟨b,o,none⟩) n cap,.int .i64 i] w fun e w'=>e=.returned (.bool (leafB M n i))∧Below w.heap.size w w':=by
 have hS:=ownInt_size w i 3
 have hB0:=ownInt_below w i 3
 have hA:=ownInt_at w i 3
 have hM0:=hM.later hB0
 have hcl:=contains_mems 130 w.heap.size isleaf1_in b o n cap M (partB M i) (ownInt w i 3) hn hM0 (fun j w' _ hw'=>isleaf1_any (M j) i w.heap.size w' (by have:=hw'.size;omega) ((hw'.cell (p:=⟨w.heap.size,0,none⟩) (by show w.heap.size<_;omega)).trans hA))
 have HB0:Hid (Below w.heap.size w (ownInt w i 3)):=hB0
 obtain ⟨-,-,-,h3⟩:=hM.2 i hi
 have hbw:=hM.1
 have hii:(i:Int)<(n:Int):=by omega
 have hn':(n:Int)≤12:=by omega
 clear hM hS hB0 hA hM0
 by_cases hf:(M i).formula.size=0
 ·have hf':(M i).formula.toList.isEmpty=true:=by rw [empty_same];simpa using hf
  have HR:Hid (leafB M n i = !decide (0≤findFrom (partB M i) n 0)):=leafB_parts hf
  clear hf
  generalize decide (0≤findFrom (partB M i) n 0)=f at hcl HR
  go_enter Tryz.func104,Tryz.ntmps104
  go_wp2_with fail
  refine hcl.mono ?_
  rintro e w1 ⟨rfl,hb1⟩
  go_wp2_with fail
  go_ret
  exact ⟨by rw [HR.out];rfl,onB HB0.out hb1⟩
 ·have hf':(M i).formula.toList.isEmpty=false:=by rw [empty_same];simpa using hf
  have HR:Hid (leafB M n i=false):=leafB_told hf
  clear hf hcl
  go_enter Tryz.func104,Tryz.ntmps104
  go_wp2_with fail
  go_ret
  exact ⟨by rw [HR.out];rfl,by go_grown⟩
def IntsAt (w:World) (A:Option Addr) (cap:Nat) (L:List Int):Prop:=L.length≤cap∧(L=[]∨∃ b,A=some ⟨b,0,none⟩∧b<w.heap.size∧∀ j,j<L.length→w.cell? ⟨b,j,none⟩=some (.int .i64 (L.getD j 0)))
theorem IntsAt.later {w w':World} {A:Option Addr} {cap:Nat} {L:List Int} (h:IntsAt w A cap L) (hB:Below w.heap.size w w'):IntsAt w' A cap L:=by
 obtain ⟨h1,h2 | ⟨b,h2,h3,h4⟩⟩:=h
 ·exact ⟨h1,Or.inl h2⟩
 ·exact ⟨h1,Or.inr ⟨b,h2,Nat.lt_of_lt_of_le h3 hB.size,fun j hj=>(hB.cell (p:=⟨b,j,none⟩) h3).trans (h4 j hj)⟩⟩
def mapI (L:List Int):List Value:=L.map (Value.int .i64)
theorem mapI_snoc (L:List Int) (x:Int):mapI (L ++ [x])=mapI L ++ [Value.int .i64 x]:=by simp [mapI]
theorem ints_of {w:World} {base e:Nat} {v:Value} {L:List Int} (h:w.ownsRow base e 1 v L.length (mapI L)):∃ A cap,v=.slice A L.length cap∧IntsAt w A cap L:=by
 rcases h.2 with ⟨rfl,h0⟩ | ⟨g,cap,cur,rfl,hb,hg,hc,_,_,_⟩
 ·exact ⟨none,0,by rw [h0],by omega,Or.inl (List.eq_nil_of_length_eq_zero h0)⟩
 ·refine ⟨_,cap,rfl,hc,Or.inr ⟨g,rfl,(Array.getElem?_eq_some_iff.1 hg).1,fun j hj=>?_⟩⟩
  have hx:=h.cells (g:=g) rfl j (.int .i64 (L.getD j 0)) (by simp [mapI,List.getD,List.getElem?_eq_getElem hj])
  have hadd:(⟨g,0,none⟩:Addr).add j=⟨g,j,none⟩:=by unfold Addr.add;split <;> simp_all
  rw [hadd] at hx
  exact hx
theorem own_later {w w':World} {base e size:Nat} {v:Value} {n:Nat} {xs:List Value} (h:w.ownsRow base e size v n xs) (hB:Below w.heap.size w w'):w'.ownsRow base e size v n xs:=by
 refine ⟨h.1,?_⟩
 rcases h.2 with h0 | ⟨g,cap,cur,rfl,hb,hg,h1⟩
 ·exact Or.inl h0
 ·exact Or.inr ⟨g,cap,cur,rfl,hb,(hB.block g (Array.getElem?_eq_some_iff.1 hg).1).trans hg,h1⟩
theorem grown_own {w wr w1:World} {e size n:Nat} {v:Value} {xs:List Value} {o:Obj} (hB:Below w.heap.size w wr) (hown:wr.ownsRow w.heap.size e size v n xs) (hgrow:(wr.alloc o).grownBy w1 v.ownBlock):Below w.heap.size w w1 :=
 (hB.alloc hB.size o).grown hgrow (by have:=hB.size;simp;omega) (fun j hj=>(hown.lt j hj).1)
theorem one_cell {wr:World} {x:Value} {T:Nat}:∀ j u,[x][j]?=some u→(wr.alloc (.cells #[x] T)).cell? ((⟨wr.heap.size,0,none⟩:Addr).add j)=some u:=by
 intro j u hj
 match j,hj with
 | 0,hj=>simp at hj;subst hj;simp [Addr.add]
theorem one_one {x:Int}:∀ u∈[Value.int .i64 x],u.oneCell'=true:=by intro u hu;simp at hu;subst hu;rfl
theorem Tryz.infoInt:(Tryz.prog.info? 3).map (fun i=>(i.zero,i.size,i.bytes))=some (some (.int .i64 0),1,8):=by kernel_rfl
end Go.Proofs.YtpoklbfffgpbiaaGreatDoor
namespace Go.Proofs.YtpoklbfffgpbiaaGreatDoor
open Go.Lib
theorem numP_if (l:List UInt8) (h:(trimPrefix l [45]).length≤15) (v:Int) (h1:atoi l=some v) (h2:itoa v=l):numP l=some v:=by
 unfold numP;rw [if_pos h,h1];simp [h2]
theorem numP_noatoi (l:List UInt8) (h:atoi l=none):numP l=none:=by
 unfold numP;split
 ·rw [h]
 ·rfl
end Go.Proofs.YtpoklbfffgpbiaaGreatDoor
namespace Go.Proofs.YtpoklbfffgpbiaaGreatDoor
open Go.ChangeShapes Go.WideShapes Go.ChangeAt Go.RowKit
set_option linter.unusedVariables false
def numK (M:Nat) (l:List UInt8):Option Int:=if (Lib.trimPrefix l [45]).length≤M then numP l else none
theorem numK_in {M:Nat} {l:List UInt8} (h:(Lib.trimPrefix l [45]).length≤M):numK M l=numP l:=if_pos h
theorem numK_out {M:Nat} {l:List UInt8} (h:M<(Lib.trimPrefix l [45]).length):numK M l=none:=if_neg (by omega)
theorem ne_empty7 {s:ByteArray} (h:1≤s.size):s.toList.isEmpty=false:=by
 rw [ByteArray.toList_eq]
 have e:=Lib.size_eq s
 cases hl:s.data.toList with
 | nil=>rw [hl,List.length_nil] at e;omega
 | cons a b=>rfl
end Go.Proofs.YtpoklbfffgpbiaaGreatDoor
namespace Go.Proofs.YtpoklbfffgpbiaaGreatDoor
def rowN (N:List (List Int)) (i:Int):List Int:=N.getD i.toNat []
def Inn (N:List (List Int)):Prop := ∀ (i:Nat),i<N.length→∀ x∈N.getD i [],0≤x∧x<(N.length:Int)
theorem Inn.at {N:List (List Int)} (h:Inn N) {a:Int} (h0:0≤a) (h1:a<(N.length:Int)) {x:Int} (hx:x∈rowN N a):0≤x∧x<(N.length:Int):=h a.toNat (by omega) x hx
inductive Rch (N:List (List Int)):Int→Int→Prop
 | one {a b:Int}:b∈rowN N a→Rch N a b
 | more {a b c:Int}:b∈rowN N a→Rch N b c→Rch N a c
theorem Rch.trans {N:List (List Int)} {a b c:Int} (h:Rch N a b) (k:Rch N b c):Rch N a c:=by
 induction h with
 | one h=>exact .more h k
 | more h _ ih=>exact .more h (ih k)
theorem Rch.snoc {N:List (List Int)} {a b c:Int} (h:Rch N a b) (k:c∈rowN N b):Rch N a c:=h.trans (.one k)
theorem Rch.inn {N:List (List Int)} (hN:Inn N) {a b:Int} (h:Rch N a b):0≤a→a<(N.length:Int)→0≤b∧b<(N.length:Int):=by
 induction h with
 | one h=>exact fun h0 h1=>hN.at h0 h1 h
 | more h _ ih=>exact fun h0 h1=>let ⟨x,y⟩:=hN.at h0 h1 h;ih x y
theorem Rch.closed {N:List (List Int)} {S:Int→Prop} {a b:Int} (h:Rch N a b):(∀ x∈rowN N a,S x)→(∀ x,S x→∀ y∈rowN N x,S y)→S b:=by
 induction h with
 | one h=>exact fun h1 _=>h1 _ h
 | more h _ ih=>exact fun h1 h2=>ih (fun x hx=>h2 _ (h1 _ h) x hx) h2
noncomputable def cycB (N:List (List Int)) (i:Nat):Bool := @decide (Rch N i i) (Classical.propDecidable _)
theorem cyc_iff {N:List (List Int)} {i:Nat}:cycB N i=true↔Rch N i i:=by
 unfold cycB
 exact @decide_eq_true_iff _ (Classical.propDecidable _)
theorem cyc_not {N:List (List Int)} {i:Nat}:cycB N i=false↔¬ Rch N i i:=by
 rw [←cyc_iff]
 cases cycB N i <;> simp
theorem few (n:Nat):∀ (L:List Int),L.Nodup→(∀ x∈L,0≤x∧x<(n:Int))→L.length≤n:=by
 induction n with
 | zero =>
  intro L _ h
  cases L with
  | nil=>exact Nat.le_refl _
  | cons x r=>have:=h x (by simp);omega
 | succ n ih =>
  intro L hL h
  have h1:=ih (L.erase (n:Int)) (hL.erase _) fun x hx=>by
   have h2:=(hL.mem_erase_iff.1 hx)
   have:=h x h2.2
   have:=h2.1
   omega
  have h3:L.length≤(L.erase (n:Int)).length+1:=by
   by_cases hm:(n:Int)∈L
   ·rw [List.length_erase_of_mem hm];omega
   ·rw [List.erase_of_not_mem hm];omega
  omega
theorem rise_eq:∀ (L K:List Int),L.Pairwise (· < ·)→K.Pairwise (· < ·)→(∀ x,x∈L↔x∈K)→L=K
 | [],[],_,_,_=>rfl
 | [],y :: K,_,_,h=>by have:=(h y).2 (by simp);cases this
 | x :: L,[],_,_,h=>by have:=(h x).1 (by simp);cases this
 | x :: L,y :: K,hL,hK,h=>by
  have hL1:=List.pairwise_cons.1 hL
  have hK1:=List.pairwise_cons.1 hK
  have e:x=y:=by
   rcases List.mem_cons.1 ((h x).1 (by simp)) with e | e
   ·exact e
   ·rcases List.mem_cons.1 ((h y).2 (by simp)) with e2 | e2
    ·exact e2.symm
    ·have:=hL1.1 _ e2
     have:=hK1.1 _ e
     omega
  subst e
  congr 1
  refine rise_eq L K hL1.2 hK1.2 fun z=>⟨fun hz=>?_,fun hz=>?_⟩
  ·rcases List.mem_cons.1 ((h z).1 (List.mem_cons_of_mem _ hz)) with e | e
   ·have:=hL1.1 z hz;omega
   ·exact e
  ·rcases List.mem_cons.1 ((h z).2 (List.mem_cons_of_mem _ hz)) with e | e
   ·have:=hK1.1 z hz;omega
   ·exact e
theorem sel_rise (p:Nat→Bool) (k:Nat):(selTo p k).Pairwise (· < ·):=by
 induction k with
 | zero=>exact List.Pairwise.nil
 | succ k ih =>
  rw [selTo,List.pairwise_append]
  refine ⟨ih,?_,fun a ha b hb=>?_⟩
  ·split <;> simp
  ·obtain ⟨m,h1,h2,-⟩:=selTo_mem a ha
   split at hb
   ·rw [List.mem_singleton.1 hb];omega
   ·cases hb
theorem sel_has {p:Nat→Bool} {k m:Nat} (h:m<k) (hp:p m=true):(m:Int)∈selTo p k:=by
 induction k with
 | zero=>omega
 | succ k ih =>
  rw [selTo,List.mem_append]
  by_cases e:m=k
  ·subst e;exact Or.inr (by rw [if_pos hp];simp)
  ·exact Or.inl (ih (by omega))
theorem selru_filter (p q:Nat→Bool) (f:Int→Bool) (k:Nat) (h:∀ j,j<k→(q j=true↔p j=true∧f (j:Int)=true)):(selTo p k).filter f=selTo q k:=by
 induction k with
 | zero=>rfl
 | succ k ih =>
  rw [selTo,selTo,List.filter_append,ih fun j hj=>h j (by omega)]
  congr 1
  have hk:=h k (by omega)
  by_cases h1:p k=true
  ·by_cases h2:f (k:Int)=true
   ·rw [if_pos h1,if_pos (hk.2 ⟨h1,h2⟩)];simp [h2]
   ·rw [if_pos h1,if_neg fun e=>h2 (hk.1 e).2];simp [h2]
  ·rw [if_neg h1,if_neg fun e=>h1 (hk.1 e).1];rfl
theorem rise_nodup {L:List Int} (h:L.Pairwise (· < ·)):L.Nodup:=h.imp fun h e=>by omega
end Go.Proofs.YtpoklbfffgpbiaaGreatDoor
namespace Go.Proofs.YtpoklbfffgpbiaaGreatDoor
open Go.ChangeShapes Go.WideShapes Go.ChangeAt Go.RowKit
def good (k n:Int):Bool:=decide ((k=1∧-1000000000000≤n∧n≤1000000000000)∨((k=0∨k=2)∧n=0))
end Go.Proofs.YtpoklbfffgpbiaaGreatDoor
namespace Go.Proofs
open Go.Shelf
def Tryz.lays166_ren:Go.Shelf.Ren:=⟨fun | 166=>13 | 240=>29 | 276=>49 | n=>n,fun | 0=>0 | 3=>3 | 4=>4 | 9=>9 | 20=>20 | 37=>56 | 70=>55 | 72=>58 | 75=>27 | 164=>100 | 5=>5 | 80=>65 | n=>n,fun | n=>n⟩
theorem Tryz.lays166:Go.Proofs.Lays.n166 Tryz.prog Tryz.lays166_ren:={
 mixed:=by kernel_rfl
 f166:=Tryz.func13.trans (congrArg some (by kernel_rfl))
 f240:=Tryz.func29.trans (congrArg some (by kernel_rfl))
 f276:=Tryz.func49.trans (congrArg some (by kernel_rfl))
 t0:=Tryz.underlying0
 a0:=Tryz.isAgg0
 z0:=Tryz.sizeOf0
 v0:=Tryz.zeroValue0
 t3:=Tryz.underlying3
 a3:=Tryz.isAgg3
 z3:=Tryz.sizeOf3
 v3:=Tryz.zeroValue3
 t4:=Tryz.underlying4
 a4:=Tryz.isAgg4
 z4:=Tryz.sizeOf4
 v4:=Tryz.zeroValue4
 t9:=Tryz.underlying9
 a9:=Tryz.isAgg9
 z9:=Tryz.sizeOf9
 v9:=Tryz.zeroValue9
 t20:=Tryz.underlying20
 a20:=Tryz.isAgg20
 z20:=Tryz.sizeOf20
 v20:=Tryz.zeroValue20
 t37:=Tryz.underlying56
 a37:=Tryz.isAgg56
 z37:=Tryz.sizeOf56
 v37:=Tryz.zeroValue56
 t70:=Tryz.underlying55
 a70:=Tryz.isAgg55
 z70:=Tryz.sizeOf55
 v70:=Tryz.zeroValue55
 t72:=Tryz.underlying58
 a72:=Tryz.isAgg58
 z72:=Tryz.sizeOf58
 v72:=Tryz.zeroValue58
 t75:=Tryz.underlying27
 a75:=Tryz.isAgg27
 z75:=Tryz.sizeOf27
 v75:=Tryz.zeroValue27
 t164:=Tryz.underlying100
 a164:=Tryz.isAgg100
 z164:=Tryz.sizeOf100
 v164:=Tryz.zeroValue100 }
theorem Tryz.extra166:Builder.Extra Tryz.prog Tryz.lays166_ren:={
 sizeBuilder:=by kernel_rfl
 liesBuilder:=by kernel_rfl
 t5:=Tryz.underlying5
 a5:=Tryz.isAgg5
 z5:=Tryz.sizeOf5
 v5:=Tryz.zeroValue5
 infoByte:=by kernel_rfl
 cellsByte:=by kernel_rfl
 sizeByte:=by kernel_rfl
 neB5:=by decide }
def Tryz.lays169_ren:Go.Shelf.Ren:=⟨fun | 169=>20 | n=>n,fun | 0=>0 | 3=>3 | 9=>9 | 37=>56 | 70=>55 | 72=>58 | 127=>81 | 5=>5 | n=>n,fun | n=>n⟩
theorem Tryz.lays169:Go.Proofs.Lays.n169 Tryz.prog Tryz.lays169_ren:={
 mixed:=by kernel_rfl
 f169:=Tryz.func20.trans (congrArg some (by kernel_rfl))
 t0:=Tryz.underlying0
 a0:=Tryz.isAgg0
 z0:=Tryz.sizeOf0
 v0:=Tryz.zeroValue0
 t3:=Tryz.underlying3
 a3:=Tryz.isAgg3
 z3:=Tryz.sizeOf3
 v3:=Tryz.zeroValue3
 t9:=Tryz.underlying9
 a9:=Tryz.isAgg9
 z9:=Tryz.sizeOf9
 v9:=Tryz.zeroValue9
 t37:=Tryz.underlying56
 a37:=Tryz.isAgg56
 z37:=Tryz.sizeOf56
 v37:=Tryz.zeroValue56
 t70:=Tryz.underlying55
 a70:=Tryz.isAgg55
 z70:=Tryz.sizeOf55
 v70:=Tryz.zeroValue55
 t72:=Tryz.underlying58
 a72:=Tryz.isAgg58
 z72:=Tryz.sizeOf58
 v72:=Tryz.zeroValue58
 t127:=Tryz.underlying81
 a127:=Tryz.isAgg81
 z127:=Tryz.sizeOf81
 v127:=Tryz.zeroValue81 }
theorem Tryz.extra169:Builder.Extra Tryz.prog Tryz.lays169_ren:={
 sizeBuilder:=by kernel_rfl
 liesBuilder:=by kernel_rfl
 t5:=Tryz.underlying5
 a5:=Tryz.isAgg5
 z5:=Tryz.sizeOf5
 v5:=Tryz.zeroValue5
 infoByte:=by kernel_rfl
 cellsByte:=by kernel_rfl
 sizeByte:=by kernel_rfl
 neB5:=by decide }
end Go.Proofs
