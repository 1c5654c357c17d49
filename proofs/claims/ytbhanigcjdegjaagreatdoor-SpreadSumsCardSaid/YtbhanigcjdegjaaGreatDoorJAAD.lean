/-
  What Check and Find of package outline answer: which member of a dim is the first that is wrong, and how; where a member of a name is.
-/
import Derived.Test.YtbhanigcjdegjaaGreatDoorJAAC
namespace Go.Proofs.YtbhanigcjdegjaaGreatDoor
open Go.ChangeShapes Go.WideShapes Go.ChangeAt Go.RowKit
set_option maxRecDepth 20000
def MemsV (w:World) (A:Option Addr) (cap n:Nat) (M:Nat→Mem):Prop:=n≤cap∧(n=0∨∃ b o,A=some ⟨b,o,none⟩∧MemsAt w b o n M)
theorem MemsV.later {w w':World} {A:Option Addr} {cap n:Nat} {M:Nat→Mem} (h:MemsV w A cap n M) (hB:Below w.heap.size w w'):MemsV w' A cap n M:=by
 obtain ⟨h1,h2 | ⟨b,o,h2,h3⟩⟩:=h
 ·exact ⟨h1,Or.inl h2⟩
 ·exact ⟨h1,Or.inr ⟨b,o,h2,h3.later hB⟩⟩
theorem dimErr_frame {d:Dm} (h:frameErr d≠0):dimErr d=(-1,frameErr d):=by
 unfold frameErr at h ⊢
 unfold dimErr
 split
 ·rfl
 ·split
  ·rfl
  ·split
   ·rfl
   ·split
    ·rfl
    ·rename_i h1 h2 h3 h4
     rw [if_neg h1,if_neg h2,if_neg h3,if_neg h4] at h
     exact absurd rfl h
theorem dimErr_scan {d:Dm} (h:frameErr d=0):dimErr d=scan d.mem d.n 0∧1≤d.n∧d.n≤12:=by
 unfold frameErr at h
 unfold dimErr
 split at h
 ·simp at h
 ·split at h
  ·simp at h
  ·split at h
   ·simp at h
   ·split at h
    ·simp at h
    ·rename_i h1 h2 h3 h4
     rw [if_neg h1,if_neg h2,if_neg h3,if_neg h4]
     exact ⟨rfl,by omega,by omega⟩
def ownDim (w:World) (d:Dm) (A:Option Addr) (cap T:Nat):World:=w.alloc (.cells #[.string d.name,.int .i64 d.solve,.slice A d.n cap] T)
theorem ownDim_at (w:World) (d:Dm) (A:Option Addr) (cap T:Nat):(ownDim w d A cap T).cell? ⟨w.heap.size,0,none⟩=some (.string d.name)∧(ownDim w d A cap T).cell? ⟨w.heap.size,1,none⟩=some (.int .i64 d.solve)∧(ownDim w d A cap T).cell? ⟨w.heap.size,2,none⟩=some (.slice A d.n cap):=by unfold ownDim;exact ⟨by simp,by simp,by simp⟩
theorem ownDim_size (w:World) (d:Dm) (A:Option Addr) (cap T:Nat):(ownDim w d A cap T).heap.size=w.heap.size+1:=by unfold ownDim;simp
theorem ownDim_below (w:World) (d:Dm) (A:Option Addr) (cap T:Nat):Below w.heap.size w (ownDim w d A cap T):=by unfold ownDim;go_grown
set_option maxHeartbeats 2000000 in
theorem dcheck_any (d:Dm) (A:Option Addr) (cap:Nat) (w:World) (hM:MemsV w A cap d.n d.mem):Calls Tryz.prog 48 #[dimV d A cap] w fun e w'=>e=.returned (.tuple #[.int .i64 (dimErr d).1,errV (dimErr d).2])∧Below w.heap.size w w':=by
 have hfr:=frame_any d A cap
 unfold dimV at hfr ⊢
 have HM:Hid (MemsV w A cap d.n d.mem):=hM
 clear hM
 by_cases hf:frameErr d=0
 ·rw [hf,errV_zero] at hfr
  obtain ⟨hds,hd1,hd2⟩:=dimErr_scan hf
  have HD:Hid (dimErr d=scan d.mem d.n 0):=hds
  clear hds hf
  go_enter Tryz.func48,Tryz.ntmps48
  go_wp2_with fail
  refine (hfr _).mono ?_
  rintro e w1 ⟨rfl,hb1⟩
  have hS:=ownDim_size w d A cap 76
  have hB:Below w.heap.size w w1:=onB (ownDim_below w d A cap 76) hb1
  have hz:w.heap.size<w1.heap.size:=by
   have:=hb1.size
   change (ownDim w d A cap 76).heap.size≤_ at this
   omega
  have h2:w1.cell? ⟨w.heap.size,2,none⟩=some (.slice A d.n cap):=(hb1.cell (p:=⟨w.heap.size,2,none⟩) (by show w.heap.size<(ownDim w d A cap 76).heap.size;rw [hS];omega)).trans (ownDim_at w d A cap 76).2.2
  obtain ⟨hcap,h0 | ⟨b,o,rfl,hMs⟩⟩:=HM.out.later hB
  ·omega
  have HMs:Hid (MemsAt w1 b o d.n d.mem):=hMs
  have hd2':(d.n:Int)≤12:=by omega
  clear hb1 hS hMs hfr
  go_wp2_with fail
  go_loopg [15] d.n (fun g s15 wr => ∃ (k:Nat),k≤d.n∧g=d.n-k∧s15=.int .i64 k∧scan d.mem (d.n-k) k=scan d.mem d.n 0∧Below w1.heap.size w1 wr)
  case atStart=>exact ⟨0,Nat.zero_le _,rfl,rfl,rfl,Below.refl _ _⟩
  case round =>
   obtain ⟨k,hk,rfl,rfl,hsc,hBw⟩:=hrel
   by_cases hlt:k<d.n
   ·have hmem:=member_any b o d.n cap k d.mem wr hd2 hcap hlt (HMs.out.later hBw)
    have hki:(k:Int)<(d.n:Int):=by omega
    have HF:Hid (scan d.mem (d.n-k) k=scan d.mem d.n 0):=hsc
    have HW:Hid (Below w1.heap.size w1 wr):=hBw
    have hsk:d.n-k=(d.n-(k+1))+1:=by omega
    have c2:wr.cell? ⟨w.heap.size,2,none⟩=some (.slice (some ⟨b,o,none⟩) d.n cap):=(hBw.cell (p:=⟨w.heap.size,2,none⟩) hz).trans h2
    clear hsc hBw
    by_cases hm:memErr d.mem k=0
    ·rw [hm,errV_zero] at hmem
     have HK:Hid (memErr d.mem k=0):=hm
     clear hm
     go_wp2_with fail
     refine hmem.mono ?_
     rintro e w2 ⟨rfl,hb2⟩
     go_wp2_with fail
     go_roundg (d.n-(k+1))
     case measure=>omega
     case rel=>exact ⟨k+1,by omega,rfl,by go_num,by rw [←HF.out,hsk,scan_ok _ HK.out],onB HW.out hb2⟩
    ·rw [errV_some hm] at hmem
     have HK:Hid (memErr d.mem k≠0):=hm
     clear hm
     go_wp2_with fail
     refine hmem.mono ?_
     rintro e w2 ⟨rfl,hb2⟩
     go_wp2_with fail
     go_ret2
     refine ⟨?_,onB hB (onB HW.out hb2)⟩
     rw [HD.out,←HF.out,hsk,scan_bad _ HK.out]
     simp [errV,HK.out]
   ·have hke:k=d.n:=by omega
    have HF:Hid (scan d.mem (d.n-k) k=scan d.mem d.n 0):=hsc
    clear hsc
    subst hke
    go_wp2_with fail
    go_ret2
    refine ⟨?_,onB hB hBw⟩
    rw [HD.out,←HF.out,Nat.sub_self]
    rfl
 ·rw [errV_some hf] at hfr
  have HD:Hid (dimErr d=(-1,frameErr d)):=dimErr_frame hf
  have HE:Hid (frameErr d≠0):=hf
  clear hf
  go_enter Tryz.func48,Tryz.ntmps48
  go_wp2_with fail
  refine (hfr _).mono ?_
  rintro e w1 ⟨rfl,hb1⟩
  have hB:Below w.heap.size w w1:=onB (ownDim_below w d A cap 76) hb1
  clear hb1
  go_wp2_with fail
  go_ret2
  refine ⟨?_,hB⟩
  rw [HD.out]
  simp [errV,HE.out]
end Go.Proofs.YtbhanigcjdegjaaGreatDoor
namespace Go.Proofs.YtbhanigcjdegjaaGreatDoor
def Tr (M:Nat→Mem) (n:Nat):Prop := ∀ k,k<n→-1≤(M k).parent∧(M k).parent<(k:Int)
def Sg (M:Nat→Mem) (n:Nat):Prop := ∀ k,k<n→-1≤(M k).sign∧(M k).sign≤1
theorem memErr_tree {M:Nat→Mem} {i:Nat} (h:memErr M i=0):(-1≤(M i).parent∧(M i).parent<(i:Int))∧(-1≤(M i).sign∧(M i).sign≤1)∧(0≤(M i).parent→(M (M i).parent.toNat).formula.size=0):=by
 unfold memErr at h
 split at h
 ·simp at h
 ·split at h
  ·simp at h
  ·split at h
   ·simp at h
   ·split at h
    ·simp at h
    ·split at h
     ·simp at h
     ·rename_i h1 h2 h3 h4 h5
      refine ⟨by omega,by omega,fun h6=>?_⟩
      exact Decidable.byContradiction fun h7=>h4 ⟨h6,h7⟩
theorem Tr.of {d:Dm} (h:(dimErr d).2=0):Tr d.mem d.n:=fun k hk=>(memErr_tree ((dimErr_right h).2.2.2 k hk)).1
theorem Sg.of {d:Dm} (h:(dimErr d).2=0):Sg d.mem d.n:=fun k hk=>(memErr_tree ((dimErr_right h).2.2.2 k hk)).2.1
def pth (M:Nat→Mem):Nat→Int→List Int
 | 0,_=>[]
 | f+1,i=>if i<0 then [] else i :: pth M f (M i.toNat).parent
def pathOf (M:Nat→Mem) (i:Int):List Int:=pth M (i.toNat+1) i
theorem pth_same {M:Nat→Mem} {n:Nat} (ht:Tr M n) (f:Nat):∀ (g:Nat) (i:Int),i<n→i<f→i<g→pth M f i=pth M g i:=by
 induction f with
 | zero =>
  intro g i _ h2 _
  have:i<0:=by omega
  cases g with
  | zero=>rfl
  | succ g=>simp [pth,this]
 | succ f ih =>
  intro g i h1 h2 h3
  cases g with
  | zero =>
   have:i<0:=by omega
   simp [pth,this]
  | succ g =>
   by_cases h0:i<0
   ·simp [pth,h0]
   ·simp only [pth,if_neg h0]
    have:=ht i.toNat (by omega)
    rw [ih g _ (by omega) (by omega) (by omega)]
theorem pathOf_neg {M:Nat→Mem} {i:Int} (h:i<0):pathOf M i=[]:=by simp [pathOf,pth,h]
theorem pathOf_cons {M:Nat→Mem} {n:Nat} (ht:Tr M n) {i:Nat} (h:i<n):pathOf M i=(i:Int) :: pathOf M (M i).parent:=by
 have:=ht i h
 unfold pathOf
 rw [show ((i:Int)).toNat=i by omega,pth,if_neg (by omega),show ((i:Int)).toNat=i by omega,pth_same ht i ((M i).parent.toNat+1) _ (by omega) (by omega) (by omega)]
theorem pathOf_len {M:Nat→Mem} {n:Nat} (ht:Tr M n) (k:Nat):∀ i:Int,i<n→i<k→(pathOf M i).length≤k:=by
 induction k with
 | zero=>intro i _ h;rw [pathOf_neg (by omega)];exact Nat.le_refl _
 | succ k ih =>
  intro i h1 h2
  by_cases h0:i<0
  ·rw [pathOf_neg h0];exact Nat.zero_le _
  ·obtain ⟨j,rfl⟩:∃ j:Nat,i=j:=⟨i.toNat,by omega⟩
   have:=ht j (by omega)
   rw [pathOf_cons ht (by omega),List.length_cons]
   have:=ih (M j).parent (by omega) (by omega)
   omega
theorem pathOf_mem {M:Nat→Mem} {n:Nat} (ht:Tr M n) (k:Nat):∀ i:Int,i<n→i<k→∀ j∈pathOf M i,0≤j∧j≤i:=by
 induction k with
 | zero=>intro i _ h j hj;rw [pathOf_neg (by omega)] at hj;cases hj
 | succ k ih =>
  intro i h1 h2 j hj
  by_cases h0:i<0
  ·rw [pathOf_neg h0] at hj;cases hj
  ·obtain ⟨q,rfl⟩:∃ q:Nat,i=q:=⟨i.toNat,by omega⟩
   have:=ht q (by omega)
   rw [pathOf_cons ht (by omega),List.mem_cons] at hj
   rcases hj with rfl | hj
   ·omega
   ·have:=ih (M q).parent (by omega) (by omega) j hj
    omega
def selTo (p:Nat→Bool):Nat→List Int
 | 0=>[]
 | k+1=>selTo p k ++ (if p k=true then [(k:Int)] else [])
theorem selTo_hit {p:Nat→Bool} {k:Nat} (h:p k=true):selTo p (k+1)=selTo p k ++ [(k:Int)]:=by simp [selTo,h]
theorem selTo_miss {p:Nat→Bool} {k:Nat} (h:p k=false):selTo p (k+1)=selTo p k:=by simp [selTo,h]
theorem selTo_len (p:Nat→Bool) (k:Nat):(selTo p k).length≤k:=by
 induction k with
 | zero=>exact Nat.le_refl _
 | succ k ih=>rw [selTo,List.length_append];split <;> simp <;> omega
theorem selTo_mem {p:Nat→Bool} {k:Nat}:∀ j∈selTo p k,∃ m:Nat,j=m∧m<k∧p m=true:=by
 induction k with
 | zero=>intro j hj;cases hj
 | succ k ih =>
  intro j hj
  rw [selTo,List.mem_append] at hj
  rcases hj with hj | hj
  ·obtain ⟨m,h1,h2,h3⟩:=ih j hj;exact ⟨m,h1,by omega,h3⟩
  ·split at hj
   ·rename_i hp;simp at hj;exact ⟨k,hj,by omega,hp⟩
   ·cases hj
def partB (M:Nat→Mem) (i:Int) (k:Nat):Bool:=(M k).parent == i
def leafB (M:Nat→Mem) (n k:Nat):Bool:=decide ((M k).formula.size=0) && !decide (0≤findFrom (partB M k) n 0)
def inB (L:List Int) (i:Int):Bool:=decide (i∈L)
def leafIn (M:Nat→Mem) (n:Nat) (i:Int) (k:Nat):Bool:=leafB M n k && inB (pathOf M k) i
def partsOf (M:Nat→Mem) (n:Nat) (i:Int):List Int:=selTo (partB M i) n
def leafsOf (M:Nat→Mem) (n:Nat) (i:Int):List Int:=selTo (leafIn M n i) n
theorem find_in (L:List Int) (i:Int):decide (0≤findFrom (fun j=>L.getD j 0 == i) L.length 0)=inB L i:=by
 unfold inB
 rw [decide_eq_decide]
 rcases findFrom_cases (fun j=>L.getD j 0 == i) L.length 0 with ⟨h1,h2⟩ | ⟨k,h1,_,h3,h4,_⟩
 ·rw [h1]
  constructor
  ·intro h;omega
  ·intro h
   obtain ⟨j,hj,e⟩:=List.getElem_of_mem h
   have:=h2 j (Nat.zero_le _) (by omega)
   simp [List.getD,List.getElem?_eq_getElem hj,e] at this
 ·rw [h1]
  constructor
  ·intro _
   have hk:k<L.length:=by omega
   simp [List.getD,List.getElem?_eq_getElem hk] at h4
   rw [←h4];exact List.getElem_mem hk
  ·intro _;omega
def wgt (M:Nat→Mem) (i:Int):List Int→Int→Int
 | [],_=>0
 | k :: t,a=>if k=i then a else wgt M i t (a*(M k.toNat).sign)
def weightOf (M:Nat→Mem) (i j:Int):Int:=wgt M i (pathOf M j) 1
theorem wgt_hit {M:Nat→Mem} {i:Int} (t:List Int) (a:Int):wgt M i (i :: t) a=a:=by simp [wgt]
theorem wgt_miss {M:Nat→Mem} {i k:Int} (h:k≠i) (t:List Int) (a:Int):wgt M i (k :: t) a=wgt M i t (a*(M k.toNat).sign):=by simp [wgt,h]
theorem wgt_out {M:Nat→Mem} {i:Int} (L:List Int) (h:i∉L):∀ a,wgt M i L a=0:=by
 induction L with
 | nil=>intro a;rfl
 | cons k t ih =>
  intro a
  simp only [List.mem_cons,not_or] at h
  rw [wgt_miss (fun e=>h.1 e.symm)]
  exact ih h.2 _
theorem small_mul {a b:Int} (ha : -1≤a∧a≤1) (hb : -1≤b∧b≤1) : -1≤a*b∧a*b≤1:=by
 rcases (show a = -1∨a=0∨a=1 by omega) with rfl | rfl | rfl <;> simp <;> omega
theorem wgt_small {M:Nat→Mem} {n:Nat} (hs:Sg M n) (i:Int) (L:List Int) (hL:∀ j∈L,0≤j∧j<n):∀ a,(-1≤a∧a≤1)→-1≤wgt M i L a∧wgt M i L a≤1:=by
 induction L with
 | nil=>intro a _;simp [wgt]
 | cons k t ih =>
  intro a ha
  by_cases hk:k=i
  ·subst hk;rw [wgt_hit];exact ha
  ·rw [wgt_miss hk]
   have:=hL k (List.mem_cons_self ..)
   exact ih (fun j hj=>hL j (List.mem_cons_of_mem _ hj)) _ (small_mul ha (hs k.toNat (by omega)))
def rangeErr (n:Nat) (L:List Int):Int:=if 0≤findFrom (fun j=>decide (L.getD j 0<0) || decide ((n:Int)≤L.getD j 0)) L.length 0 then 1 else 0
def treeErr (d:Dm) (L:List Int):Int:=if (dimErr d).2≠0 then (dimErr d).2 else rangeErr d.n L
theorem treeErr_dim {d:Dm} {L:List Int} (h:(dimErr d).2≠0):treeErr d L=(dimErr d).2:=by unfold treeErr;rw [if_pos h]
theorem treeErr_one {d:Dm} {i:Int} (h:(dimErr d).2=0):treeErr d [i]=if i<0∨(d.n:Int)≤i then 1 else 0:=by
 unfold treeErr rangeErr;rw [if_neg (by simpa using h)]
 by_cases h1:i<0∨(d.n:Int)≤i
 ·rw [if_pos h1];simp [findFrom,h1]
 ·rw [if_neg h1];simp [findFrom,h1]
theorem treeErr_two {d:Dm} {i j:Int} (h:(dimErr d).2=0):treeErr d [i,j]=if i<0∨(d.n:Int)≤i∨j<0∨(d.n:Int)≤j then 1 else 0:=by
 unfold treeErr rangeErr;rw [if_neg (by simpa using h)]
 by_cases h1:i<0∨(d.n:Int)≤i
 ·have e:i<0∨(d.n:Int)≤i∨j<0∨(d.n:Int)≤j:=by omega
  rw [if_pos e];simp [findFrom,h1]
 ·by_cases h2:j<0∨(d.n:Int)≤j
  ·have e:i<0∨(d.n:Int)≤i∨j<0∨(d.n:Int)≤j:=by omega
   rw [if_pos e];simp [findFrom,h1,h2]
  ·have e : ¬ (i<0∨(d.n:Int)≤i∨j<0∨(d.n:Int)≤j):=by omega
   rw [if_neg e];simp [findFrom,h1,h2]
structure Nd where
 op:Int
 n:Int
 name:ByteArray
 left:Int
 right:Int
def noN:Nd:=⟨0,0,⟨#[]⟩,0,0⟩
def ndErr (x:Nd) (i:Nat):Int :=
 if x.op<1∨6<x.op then 1
 else if x.op=1 then (if x.n<0∨1000000<x.n then 1 else if x.name.size≠0∨x.left≠0∨x.right≠0 then 3 else 0)
 else if x.op=2 then (if nameErr x.name≠0 then 2 else if x.n≠0∨x.left≠0∨x.right≠0 then 3 else 0)
 else if x.left<0∨(i:Int)≤x.left∨x.right<0∨(i:Int)≤x.right then 1
 else if x.n≠0∨x.name.size≠0 then 3 else 0
def uses (x:Nd) (k:Nat):Nat:=if 2<x.op then (if x.left=(k:Int) then 1 else 0)+(if x.right=(k:Int) then 1 else 0) else 0
def usedTo (l:List Nd):Nat→Nat→Nat
 | 0,_=>0
 | i+1,k=>usedTo l i k+uses (l.getD i noN) k
def badN (l:List Nd) (i:Nat):Bool:=decide (ndErr (l.getD i noN) i≠0)
def oddN (l:List Nd) (i:Nat):Bool:=decide (usedTo l l.length i≠1)
def formErr (l:List Nd):Int :=
 if l.length=0 then 5
 else if 30<l.length then 4
 else if 0≤findFrom (badN l) l.length 0 then ndErr (l.getD (findFrom (badN l) l.length 0).toNat noN) (findFrom (badN l) l.length 0).toNat
 else if 0≤findFrom (oddN l) (l.length-1) 0 then 3 else 0
section
variable {l:List Nd} {i:Nat}
theorem form_none (h:l.length=0):formErr l=5:=by simp [formErr,h]
theorem form_full (h:30<l.length):formErr l=4:=by
 have h1:l.length≠0:=by omega
 rw [formErr,if_neg h1,if_pos h]
theorem form_bad (h:l.length≤30) (hi:i<l.length) (hb:badN l i=true) (ha:∀ j,j<i→badN l j=false):formErr l=ndErr (l.getD i noN) i:=by
 have h1 : ¬ l.length=0:=by omega
 have h2 : ¬ 30<l.length:=by omega
 have h3:findFrom (badN l) l.length 0=(i:Int):=findFrom_at (Nat.zero_le _) (by omega) hb (fun j _ hj=>ha j hj)
 rw [formErr,if_neg h1,if_neg h2,h3,if_pos (by omega)]
 simp
theorem form_odd (h0:l.length≠0) (h:l.length≤30) (hb:∀ j,j<l.length→badN l j=false) (hi:i<l.length-1) (ho:oddN l i=true):formErr l=3:=by
 have h2 : ¬ 30<l.length:=by omega
 have h3:findFrom (badN l) l.length 0 = -1:=findFrom_none (fun j _ hj=>hb j (by omega))
 rw [formErr,if_neg h0,if_neg h2,h3,if_neg (by omega)]
 rcases findFrom_cases (oddN l) (l.length-1) 0 with ⟨_,h5⟩ | ⟨m,e,_⟩
 ·rw [h5 i (Nat.zero_le _) (by omega)] at ho;cases ho
 ·rw [e,if_pos (by omega)]
theorem form_good (h0:l.length≠0) (h:l.length≤30) (hb:∀ j,j<l.length→badN l j=false) (ho:∀ j,j<l.length-1→oddN l j=false):formErr l=0:=by
 have h2 : ¬ 30<l.length:=by omega
 have h3:findFrom (badN l) l.length 0 = -1:=findFrom_none (fun j _ hj=>hb j (by omega))
 have h4:findFrom (oddN l) (l.length-1) 0 = -1:=findFrom_none (fun j _ hj=>ho j (by omega))
 rw [formErr,if_neg h0,if_neg h2,h3,if_neg (by omega),h4,if_neg (by omega)]
theorem form_right (h:formErr l=0):0<l.length∧l.length≤30∧(∀ j,j<l.length→ndErr (l.getD j noN) j=0)∧∀ j,j<l.length-1→usedTo l l.length j=1:=by
 by_cases h0:l.length=0
 ·rw [form_none h0] at h;cases h
 by_cases h1:30<l.length
 ·rw [form_full h1] at h;cases h
 refine ⟨by omega,by omega,?_⟩
 rcases findFrom_cases (badN l) l.length 0 with ⟨_,h5⟩ | ⟨m,_,_,h6,h7,h8⟩
 ·have hb:∀ j,j<l.length→badN l j=false:=fun j hj=>h5 j (Nat.zero_le _) (by omega)
  refine ⟨fun j hj=>by simpa [badN] using hb j hj,fun j hj=>?_⟩
  rcases Bool.eq_false_or_eq_true (oddN l j) with ho | ho
  ·rw [form_odd h0 (by omega) hb hj ho] at h;cases h
  ·simpa [oddN] using ho
 ·rw [form_bad (by omega) (by omega) h7 (fun j hj=>h8 j (Nat.zero_le _) hj)] at h
  exact absurd h (of_decide_eq_true h7)
end
end Go.Proofs.YtbhanigcjdegjaaGreatDoor
