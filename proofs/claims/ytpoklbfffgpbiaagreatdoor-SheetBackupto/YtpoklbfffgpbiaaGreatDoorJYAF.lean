/-
  Places by number, on plain data: how many stand ahead of a place, and the place of a number; dims of a whole and so many parts, and outlines of such dims.
-/
import Derived.Deep.OwnRows
import Derived.Lib.Builder
import Derived.Lib.SplitLaws
import Derived.Lib.IndexLaws
import Derived.Deep.Slices
import Derived.Deep.Strs
import Derived.Deep.Fields
import Derived.BigQuiet
import Derived.Shelf.Small.Strs
import Derived.Lib.SliceRun
import Derived.Test.YtpoklbfffgpbiaaGreatDoorJYAC
import Derived.Test.YtpoklbfffgpbiaaGreatDoorJYAE
namespace Go.Proofs.YtpoklbfffgpbiaaGreatDoor
def numTo (D:Nat→Dm) (P:Nat→Nat):Nat→Nat
 | 0=>0
 | k+1=>numTo D P k*(D k).n+P k
theorem numTo_lt {D:Nat→Dm} {P:Nat→Nat} (k:Nat) (h:∀ j,j<k→P j<(D j).n):numTo D P k<prodN D k:=by
 induction k with
 | zero=>exact Nat.one_pos
 | succ k ih =>
  have h1:=ih fun j hj=>h j (by omega)
  have h2:=h k (by omega)
  rw [numTo,prodN]
  have h3:(numTo D P k+1)*(D k).n≤prodN D k*(D k).n:=Nat.mul_le_mul_right _ h1
  rw [Nat.add_mul] at h3
  omega
def cutB (c:UInt8):List UInt8→List (List UInt8)
 | []=>[[]]
 | x :: t=>if x=c then [] :: cutB c t else match cutB c t with
  | []=>[[x]]
  | a :: r=>(x :: a) :: r
def joinB (c:UInt8):List (List UInt8)→List UInt8
 | []=>[]
 | [a]=>a
 | a :: b :: r=>a ++ c :: joinB c (b :: r)
theorem cutB_ne (c:UInt8) (s:List UInt8):cutB c s≠[]:=by
 cases s with
 | nil=>simp [cutB]
 | cons x t =>
  rw [cutB]
  split
  ·simp
  ·split <;> simp
theorem joinB_cons (c:UInt8) (a:List UInt8) {r:List (List UInt8)} (h:r≠[]):joinB c (a :: r)=a ++ c :: joinB c r:=by
 cases r with
 | nil=>exact absurd rfl h
 | cons b r=>rfl
theorem join_cut (c:UInt8) (s:List UInt8):joinB c (cutB c s)=s:=by
 induction s with
 | nil=>rfl
 | cons x t ih =>
  rw [cutB]
  split
  ·rename_i h;rw [joinB_cons c [] (cutB_ne c t),ih,h];rfl
  ·cases h:cutB c t with
   | nil=>exact absurd h (cutB_ne c t)
   | cons a r =>
    rw [h] at ih
    cases r with
    | nil=>simp only [joinB] at ih ⊢;rw [ih]
    | cons b r=>simp only [joinB,List.cons_append] at ih ⊢;rw [ih]
theorem cut_none {c:UInt8} {a:List UInt8} (h:c∉a):cutB c a=[a]:=by
 induction a with
 | nil=>rfl
 | cons x t ih =>
  simp only [List.mem_cons,not_or] at h
  rw [cutB,if_neg (fun e=>h.1 e.symm),ih h.2]
theorem cut_ahead {c:UInt8} {a:List UInt8} (h:c∉a) (s:List UInt8):cutB c (a ++ c :: s)=a :: cutB c s:=by
 induction a with
 | nil=>simp [cutB]
 | cons x t ih =>
  simp only [List.mem_cons,not_or] at h
  rw [List.cons_append,cutB,if_neg (fun e=>h.1 e.symm),ih h.2]
theorem cut_join {c:UInt8} {l:List (List UInt8)} (hl:l≠[]) (h:∀ a∈l,c∉a):cutB c (joinB c l)=l:=by
 induction l with
 | nil=>exact absurd rfl hl
 | cons a r ih =>
  cases r with
  | nil=>exact cut_none (h a (List.mem_cons_self ..))
  | cons b r=>rw [joinB,cut_ahead (h a (List.mem_cons_self ..)),ih (by simp) fun x hx=>h x (List.mem_cons_of_mem _ hx)]
def outP (D:Nat→Dm) (L:List Int) (i:Nat):Bool:=decide (L.getD i 0<0) || decide (((D i).n:Int)≤L.getD i 0)
def shapeErr (D:Nat→Dm) (n:Nat) (L:List Int):Int:=if L.length≠n then 3 else if 0≤findFrom (outP D L) n 0 then 1 else 0
def placeErr (D:Nat→Dm) (n:Nat) (L:List Int):Int:=if (allErr D n).2.2≠0 then (allErr D n).2.2 else shapeErr D n L
theorem sh0 {D:Nat→Dm} {n:Nat} {L:List Int} (h:L.length≠n):shapeErr D n L=3:=by unfold shapeErr;rw [if_pos h]
theorem sh1 {D:Nat→Dm} {n:Nat} {L:List Int} (h:L.length=n) (h1:0≤findFrom (outP D L) n 0):shapeErr D n L=1:=by unfold shapeErr;rw [if_neg (by simpa using h),if_pos h1]
theorem sh2 {D:Nat→Dm} {n:Nat} {L:List Int} (h:L.length=n) (h1 : ¬ 0≤findFrom (outP D L) n 0):shapeErr D n L=0:=by unfold shapeErr;rw [if_neg (by simpa using h),if_neg h1]
theorem pe0 {D:Nat→Dm} {n:Nat} {L:List Int} (h:(allErr D n).2.2≠0):placeErr D n L=(allErr D n).2.2:=by unfold placeErr;rw [if_pos h]
theorem pe1 {D:Nat→Dm} {n:Nat} {L:List Int} (h:(allErr D n).2.2=0):placeErr D n L=shapeErr D n L:=by unfold placeErr;rw [if_neg (by simpa using h)]
structure InO (D:Nat→Dm) (n:Nat) (L:List Int):Prop where
 right:(allErr D n).2.2=0
 len:L.length=n
 lo:∀ i,i<n→0≤L.getD i 0
 hi:∀ i,i<n→L.getD i 0<((D i).n:Int)
theorem allErr_some {D:Nat→Dm} {n:Nat} (h:(allErr D n).2.2=0):1≤n∧n≤4∧prodN D n≤3000∧∀ i,i<n→1≤(D i).n∧(D i).n≤12:=by
 have h4:=allErr_right h
 unfold allErr at h
 split at h
 ·simp at h
 ·split at h
  ·simp at h
  ·split at h
   ·rename_i h3;exact absurd h h3
   ·split at h
    ·simp at h
    ·rename_i a b c d
     exact ⟨by omega,by omega,by omega,fun i hi=>⟨(dimErr_right (h4.2 i hi)).2.1,(dimErr_right (h4.2 i hi)).2.2.1⟩⟩
theorem inO_of {D:Nat→Dm} {n:Nat} {L:List Int} (h:placeErr D n L=0):InO D n L:=by
 unfold placeErr at h
 split at h
 ·rename_i h1;exact absurd h h1
 ·rename_i h1
  unfold shapeErr at h
  split at h
  ·cases h
  ·split at h
   ·cases h
   ·rename_i h2 h3
    have hn:∀ i,i<n→outP D L i=false:=fun i hi=>by
     rcases findFrom_cases (outP D L) n 0 with ⟨_,h4⟩ | ⟨k,h4,_⟩
     ·exact h4 i (Nat.zero_le _) (by omega)
     ·rw [h4] at h3;omega
    exact ⟨by simpa using h1,by simpa using h2,fun i hi=>by have:=hn i hi;simp [outP,-List.getD_eq_getElem?_getD] at this;omega,fun i hi=>by have:=hn i hi;simp [outP,-List.getD_eq_getElem?_getD] at this;omega⟩
theorem InO.ok {D:Nat→Dm} {n:Nat} {L:List Int} (h:InO D n L):placeErr D n L=0:=by
 rw [pe1 h.right,sh2 h.len]
 rw [findFrom_none]
 ·decide
 ·intro j _ hj
  have h1:=h.lo j (by omega)
  have h2:=h.hi j (by omega)
  simp [outP,-List.getD_eq_getElem?_getD]
  omega
def numI (D:Nat→Dm) (L:List Int):Nat→Int
 | 0=>0
 | k+1=>numI D L k*((D k).n:Int)+L.getD k 0
theorem numI_nat {D:Nat→Dm} {L:List Int} (k:Nat) (h:∀ i,i<k→0≤L.getD i 0):numI D L k=(numTo D (fun i=>(L.getD i 0).toNat) k:Int):=by
 induction k with
 | zero=>rfl
 | succ k ih =>
  have:=h k (by omega)
  rw [numI,numTo,ih fun i hi=>h i (by omega),Int.natCast_add,Int.natCast_mul,Int.toNat_of_nonneg this]
theorem prodN_small {D:Nat→Dm} {k:Nat} (h:∀ j,j<k→(D j).n≤12) (hk:k≤4):prodN D k≤20736:=by
 have h1:=prodN_le h
 have h2:12 ^ k≤12 ^ 4:=Nat.pow_le_pow_right (by decide) hk
 have h3:(12:Nat) ^ 4=20736:=by decide
 omega
theorem numI_bound {D:Nat→Dm} {n:Nat} {L:List Int} (h:InO D n L) {k:Nat} (hk:k≤n):0≤numI D L k∧numI D L k<(prodN D k:Int)∧prodN D k≤20736:=by
 obtain ⟨_,h4,_,hd⟩:=allErr_some h.right
 rw [numI_nat k fun i hi=>h.lo i (by omega)]
 have h1:=numTo_lt (D:=D) (P:=fun i=>(L.getD i 0).toNat) k fun j hj=>by
  have:=h.lo j (by omega)
  have:=h.hi j (by omega)
  omega
 refine ⟨by omega,by omega,prodN_small (fun j hj=>(hd j (by omega)).2) (by omega)⟩
def nameB (D:Nat→Dm) (L:List Int) (i:Nat):ByteArray:=((D i).mem (L.getD i 0).toNat).name
def textTo (D:Nat→Dm) (L:List Int):Nat→List UInt8
 | 0=>[]
 | k+1=>textTo D L k ++ ((if k=0 then [] else [46]) ++ (nameB D L k).data.toList)
def nameL (D:Nat→Dm) (L:List Int) (k:Nat):List (List UInt8):=(List.range k).map fun i=>(nameB D L i).data.toList
def textV (D:Nat→Dm) (n:Nat) (L:List Int):ByteArray:=if placeErr D n L=0 then ⟨(textTo D L n).toArray⟩ else ⟨#[]⟩
theorem joinB_snoc (c:UInt8) (l:List (List UInt8)) (x:List UInt8):joinB c (l ++ [x])=joinB c l ++ ((if l.length=0 then [] else [c]) ++ x):=by
 induction l with
 | nil=>simp [joinB]
 | cons a r ih =>
  rw [List.cons_append,joinB_cons c a (by simp),ih]
  cases r with
  | nil=>simp [joinB]
  | cons b r=>rw [joinB_cons c a (by simp)];simp
theorem text_join (D:Nat→Dm) (L:List Int) (k:Nat):textTo D L k=joinB 46 (nameL D L k):=by
 induction k with
 | zero=>rfl
 | succ k ih=>rw [textTo,nameL,List.range_succ,List.map_append,List.map_singleton,joinB_snoc,ih];simp [nameL]
theorem name_good {s:ByteArray} (h:nameErr s=0):(46:UInt8)∉s.data.toList∧s.size≤8:=by
 unfold nameErr at h
 split at h
 ·cases h
 ·split at h
  ·cases h
  ·rename_i h1 h2
   refine ⟨fun hm=>?_,by omega⟩
   obtain ⟨i,hi,he⟩:=List.getElem_of_mem hm
   have hsz:s.data.toList.length=s.size:=by simp
   rcases findFrom_cases (badByte s) s.size 0 with ⟨_,h4⟩ | ⟨k,h4,_⟩
   ·have h5:=h4 i (Nat.zero_le _) (by omega)
    have h6:byteN s i=46:=by
     unfold byteN
     rw [List.getD,List.getElem?_eq_getElem hi,Option.getD_some,he]
     decide
    rw [badByte,h6] at h5
    exact absurd h5 (by decide)
   ·rw [h4] at h2;omega
theorem mem_name {M:Nat→Mem} {i:Nat} (h:memErr M i=0):nameErr (M i).name=0:=by
 unfold memErr at h
 split at h
 ·simp at h
 ·rename_i h1;simpa using h1
theorem InO.name {D:Nat→Dm} {n:Nat} {L:List Int} (h:InO D n L) {i:Nat} (hi:i<n):(46:UInt8)∉(nameB D L i).data.toList∧(nameB D L i).size≤8:=by
 have h1:=(allErr_right h.right).2 i hi
 have h2:=h.lo i hi
 have h3:=h.hi i hi
 exact name_good (mem_name ((dimErr_right h1).2.2.2 _ (by omega)))
theorem InO.cut {D:Nat→Dm} {n:Nat} {L:List Int} (h:InO D n L):cutB 46 (textTo D L n)=nameL D L n:=by
 have h1:=(allErr_some h.right).1
 rw [text_join]
 refine cut_join (fun e=>?_) fun a ha=>?_
 ·have:=congrArg List.length e
  simp [nameL] at this
  omega
 ·simp [nameL] at ha
  obtain ⟨i,hi,rfl⟩:=ha
  exact (h.name hi).1
theorem InO.short {D:Nat→Dm} {n:Nat} {L:List Int} (h:InO D n L) {k:Nat} (hk:k≤n):(textTo D L k).length≤9*k:=by
 induction k with
 | zero=>exact Nat.le_refl _
 | succ k ih =>
  have h1:=ih (by omega)
  have h2:=(h.name (i:=k) (by omega)).2
  have h3:(nameB D L k).data.toList.length=(nameB D L k).size:=by simp
  rw [textTo,List.length_append,List.length_append]
  split <;> simp_all <;> omega
def pieces (s:ByteArray):List ByteArray:=(cutB 46 s.data.toList).map fun l=>⟨l.toArray⟩
def pieceB (s:ByteArray) (i:Nat):ByteArray:=(pieces s).getD i ⟨#[]⟩
def pk (D:Nat→Dm) (s:ByteArray) (i:Nat):Int:=findFrom (fun j=>same ((D i).mem j).name (pieceB s i)) (D i).n 0
def noneB (D:Nat→Dm) (s:ByteArray) (i:Nat):Bool:=decide (pk D s i<0)
def readErr (D:Nat→Dm) (n:Nat) (s:ByteArray):Int:=if (pieces s).length≠n then 2 else if 0≤findFrom (noneB D s) n 0 then 5 else 0
def parseErr (D:Nat→Dm) (n:Nat) (s:ByteArray):Int:=if (allErr D n).2.2≠0 then (allErr D n).2.2 else readErr D n s
def readL (D:Nat→Dm) (s:ByteArray) (k:Nat):List Int:=(List.range k).map (pk D s)
def parseL (D:Nat→Dm) (n:Nat) (s:ByteArray):List Int:=if parseErr D n s=0 then readL D s n else []
theorem rd0 {D:Nat→Dm} {n:Nat} {s:ByteArray} (h:(pieces s).length≠n):readErr D n s=2:=by unfold readErr;rw [if_pos h]
theorem rd1 {D:Nat→Dm} {n:Nat} {s:ByteArray} (h:(pieces s).length=n) (h1:0≤findFrom (noneB D s) n 0):readErr D n s=5:=by unfold readErr;rw [if_neg (by simpa using h),if_pos h1]
theorem rd2 {D:Nat→Dm} {n:Nat} {s:ByteArray} (h:(pieces s).length=n) (h1 : ¬ 0≤findFrom (noneB D s) n 0):readErr D n s=0:=by unfold readErr;rw [if_neg (by simpa using h),if_neg h1]
theorem pa0 {D:Nat→Dm} {n:Nat} {s:ByteArray} (h:(allErr D n).2.2≠0):parseErr D n s=(allErr D n).2.2:=by unfold parseErr;rw [if_pos h]
theorem pa1 {D:Nat→Dm} {n:Nat} {s:ByteArray} (h:(allErr D n).2.2=0):parseErr D n s=readErr D n s:=by unfold parseErr;rw [if_neg (by simpa using h)]
theorem readL_len (D:Nat→Dm) (s:ByteArray) (k:Nat):(readL D s k).length=k:=by simp [readL]
theorem readL_at {D:Nat→Dm} {s:ByteArray} {k i:Nat} (h:i<k):(readL D s k).getD i 0=pk D s i:=by simp [readL,List.getD,h]
theorem parse_in {D:Nat→Dm} {n:Nat} {s:ByteArray} (h:parseErr D n s=0):(allErr D n).2.2=0∧(pieces s).length=n∧∀ i,i<n→0≤pk D s i:=by
 unfold parseErr at h
 split at h
 ·rename_i h1;exact absurd h h1
 ·rename_i h1
  unfold readErr at h
  split at h
  ·cases h
  ·split at h
   ·cases h
   ·rename_i h2 h3
    refine ⟨by simpa using h1,by simpa using h2,fun i hi=>?_⟩
    rcases findFrom_cases (noneB D s) n 0 with ⟨_,h4⟩ | ⟨k,h4,_⟩
    ·have:=h4 i (Nat.zero_le _) (by omega)
     simp [noneB] at this
     exact this
    ·rw [h4] at h3;omega
theorem pk_some {D:Nat→Dm} {s:ByteArray} {i:Nat} (h:0≤pk D s i):pk D s i<((D i).n:Int)∧same ((D i).mem (pk D s i).toNat).name (pieceB s i)=true:=by
 unfold pk at h ⊢
 rcases findFrom_cases (fun j=>same ((D i).mem j).name (pieceB s i)) (D i).n 0 with ⟨h1,_⟩ | ⟨k,h1,_,h3,h4,_⟩
 ·rw [h1] at h;omega
 ·rw [h1]
  exact ⟨by omega,by simpa using h4⟩
theorem same_data {s t:ByteArray} (h:same s t=true):s.data.toList=t.data.toList:=by
 have h1:s.toList=t.toList:=by simpa [same] using h
 rwa [Lib.toList_data,Lib.toList_data] at h1
theorem pieceB_at {s:ByteArray} {i:Nat} (h:i<(pieces s).length):(pieceB s i).data.toList=(cutB 46 s.data.toList).getD i []:=by
 have h2:i<(cutB 46 s.data.toList).length:=by simpa [pieces] using h
 simp [pieceB,pieces,List.getD,h2]
theorem read_text {D:Nat→Dm} {n:Nat} {s:ByteArray} (h:parseErr D n s=0):textTo D (readL D s n) n=s.data.toList:=by
 obtain ⟨_,h2,h3⟩:=parse_in h
 rw [text_join]
 have e:nameL D (readL D s n) n=cutB 46 s.data.toList:=by
  apply List.ext_getElem
  ·simp [nameL];simpa [pieces] using h2.symm
  ·intro i h4 h5
   simp [nameL] at h4
   have h6:=same_data (pk_some (h3 i h4)).2
   rw [pieceB_at (by omega)] at h6
   simp only [nameL,List.getElem_map,List.getElem_range]
   unfold nameB
   rw [readL_at h4,h6]
   simp [List.getD,h5]
 rw [e,join_cut]
theorem text_read {D:Nat→Dm} {n:Nat} {L:List Int} (h:InO D n L):parseErr D n ⟨(textTo D L n).toArray⟩=0∧readL D ⟨(textTo D L n).toArray⟩ n=L:=by
 have hc:=h.cut
 have hl:(pieces ⟨(textTo D L n).toArray⟩).length=n:=by simp [pieces,hc,nameL]
 have hp:∀ i,i<n→pk D ⟨(textTo D L n).toArray⟩ i=L.getD i 0:=fun i hi=>by
  have h1:=(allErr_right h.right).2 i hi
  have h2:=h.lo i hi
  have h3:=h.hi i hi
  have h4:=find_own h1 (m:=(L.getD i 0).toNat) (by omega)
  have h5:pieceB ⟨(textTo D L n).toArray⟩ i=nameB D L i:=by
   simp [pieceB,pieces,hc,nameL,List.getD,hi]
  unfold pk
  rw [h5]
  unfold findErr at h4
  rw [if_neg (by simpa using h1)] at h4
  split at h4
  ·exact absurd (congrArg Prod.snd h4) (by show ¬ (5:Int)=0;decide)
  ·have:=congrArg Prod.fst h4
   simp only at this
   unfold nameB
   rw [this]
   omega
 refine ⟨?_,?_⟩
 ·rw [pa1 h.right,rd2 hl]
  rw [findFrom_none]
  ·decide
  ·intro j _ hj
   have:=h.lo j (by omega)
   simp [noneB,hp j (by omega),-List.getD_eq_getElem?_getD]
   omega
 ·apply List.ext_getElem
  ·rw [readL_len,h.len]
  ·intro i h1 h2
   rw [readL_len] at h1
   have:=hp i h1
   simp [List.getD,h2] at this
   simp [readL,this]
end Go.Proofs.YtpoklbfffgpbiaaGreatDoor
namespace Go.Proofs.YtpoklbfffgpbiaaGreatDoor
open Go.ChangeShapes Go.WideShapes Go.ChangeAt Go.RowKit
set_option maxRecDepth 20000
def PlAt (w:World) (A:Option Addr) (cap:Nat) (L:List Int):Prop:=L.length≤cap∧(L=[]∨∃ b o,A=some ⟨b,o,none⟩∧b<w.heap.size∧∀ j,j<L.length→w.cell? ⟨b,o+j,none⟩=some (.int .i64 (L.getD j 0)))
theorem PlAt.later {w w':World} {A:Option Addr} {cap:Nat} {L:List Int} (h:PlAt w A cap L) (hB:Below w.heap.size w w'):PlAt w' A cap L:=by
 obtain ⟨h1,h2 | ⟨b,o,h2,h3,h4⟩⟩:=h
 ·exact ⟨h1,Or.inl h2⟩
 ·exact ⟨h1,Or.inr ⟨b,o,h2,Nat.lt_of_lt_of_le h3 hB.size,fun j hj=>(hB.cell (p:=⟨b,o+j,none⟩) h3).trans (h4 j hj)⟩⟩
theorem PlAt.nil (w:World) (A:Option Addr) (cap:Nat):PlAt w A cap []:=⟨Nat.zero_le _,Or.inl rfl⟩
def IntB (w:World) (g:Nat) (L:List Int):Prop:=w.heap[g]?=some (.cells (L.map (Value.int .i64)).toArray 3 (0,0))
theorem IntB.lt {w:World} {g:Nat} {L:List Int} (h:IntB w g L):g<w.heap.size:=(Array.getElem?_eq_some_iff.1 h).1
theorem IntB.cell {w:World} {g:Nat} {L:List Int} (h:IntB w g L) {j:Nat} (hj:j<L.length):w.cell? ⟨g,j,none⟩=some (.int .i64 (L.getD j 0)):=by
 rw [Lib.cell_of_heap h]
 simp [List.getD,hj]
theorem IntB.frozen {w:World} {g:Nat} {L:List Int} (h:IntB w g L) (j:Nat):w.frozen? ⟨g,j,none⟩=false:=Lib.frozen_of_heap h j
theorem IntB.later {w w':World} {g:Nat} {L:List Int} (h:IntB w g L) (hB:Below w.heap.size w w'):IntB w' g L:=(hB.block g h.lt).trans h
theorem IntB.set {w:World} {g:Nat} {L:List Int} (h:IntB w g L) (j:Nat) (x:Int):IntB (w.setCell ⟨g,j,none⟩ (.int .i64 x)) g (L.set j x):=by
 unfold IntB at *
 have e:(L.set j x).map (Value.int .i64)=(L.map (Value.int .i64)).set j (.int .i64 x):=by rw [List.map_set]
 simp [World.setCell,Array.getElem?_modify,h,e]
theorem made_ints (n:Nat):madeCells #[.int .i64 0] n=((List.replicate n (0:Int)).map (Value.int .i64)).toArray:=by
 apply Array.ext
 ·simp [madeCells]
 ·intro i h1 h2
  simp [madeCells,Nat.mod_one]
theorem IntB.made (w:World) (n:Nat):IntB (w.alloc (.cells (madeCells #[.int .i64 0] n) 3)) w.heap.size (List.replicate n 0):=by
 unfold IntB
 rw [made_ints]
 exact heap_alloc_new w _
theorem Tryz.infoIntP:(Tryz.prog.info? 3).map (fun i=>(i.zero,i.size,i.bytes))=some (some (.int .i64 0),1,8):=by kernel_rfl
theorem checko_any (A0:Option Addr) (cap n:Nat) (D:Nat→Dm) (A:Nat→Option Addr) (C:Nat→Nat) (w:World) (hM:DimsV w A0 cap n D A C):Calls Tryz.prog 43 #[.agg #[.slice A0 n cap]] w fun e w'=>e=.returned (errV (allErr D n).2.2)∧Below w.heap.size w w':=by
 have hB0:=ownOut_below w A0 n cap 24
 have h:=all_any A0 cap n D A C (ownOut w A0 n cap 24) (hM.later hB0)
 have HB0:Hid (Below w.heap.size w (ownOut w A0 n cap 24)):=hB0
 clear hM hB0
 generalize errV (allErr D n).2.2=v at h
 generalize (allErr D n).1=x at h
 generalize (allErr D n).2.1=y at h
 go_enter Tryz.func43,Tryz.ntmps43
 go_wp2_with fail
 refine h.mono ?_
 rintro e w1 ⟨rfl,hb1⟩
 go_wp2_with fail
 go_ret
 exact ⟨rfl,onB HB0.out hb1⟩
theorem pl_ints {w:World} {A:Option Addr} {cap:Nat} {L:List Int} (h:IntsAt w A cap L):PlAt w A cap L:=by
 obtain ⟨h1,h2 | ⟨b,h2,h3,h4⟩⟩:=h
 ·exact ⟨h1,Or.inl h2⟩
 ·exact ⟨h1,Or.inr ⟨b,0,h2,h3,fun j hj=>by rw [Nat.zero_add];exact h4 j hj⟩⟩
set_option maxHeartbeats 1000000 in
theorem indexm_pl (F:Nat) (cap:Array Value) (p:Int→Bool) (hent:∀ (args:Array Value) (w:World),(callFunc F args).run Tryz.prog w=.ok (.enter F args) w) (A:Option Addr) (c:Nat) (L:List Int) (w:World) (hn:L.length≤1048576) (hL:PlAt w A c L)
  (hF:∀ (x:Int) (w':World),x∈L→Below w.heap.size w w'→Calls Tryz.prog F (#[.int .i64 x] ++ cap) w' fun e w''=>e=.returned (.bool (p x))∧Below w'.heap.size w' w'') :
  Calls Tryz.prog 127 #[.slice A L.length c,.func (.func F) #[] cap] w fun e w'=>e=.returned (.int .i64 (findFrom (fun j=>p (L.getD j 0)) L.length 0))∧Below w.heap.size w w':=by
 obtain ⟨hc,h0 | ⟨b,o,rfl,hbw,hcell⟩⟩:=hL
 ·subst h0
  simp only [List.length_nil]
  go_enter Tryz.func127,Tryz.ntmps127
  go_wp2_with fail
  refine wp_loop_rounds 1 ?_
  rw [rounds_succ]
  go_wp2_with fail
  go_ret
  exact ⟨rfl,Below.refl _ _⟩
 ·have HC:Hid (∀ j,j<L.length→w.cell? ⟨b,o+j,none⟩=some (.int .i64 (L.getD j 0))):=hcell
  have HF:Hid (∀ (x:Int) (w':World),x∈L→Below w.heap.size w w'→Calls Tryz.prog F (#[.int .i64 x] ++ cap) w' fun e w''=>e=.returned (.bool (p x))∧Below w'.heap.size w' w''):=hF
  obtain ⟨pj,hpj⟩:∃ pj:Nat→Bool,pj=fun j=>p (L.getD j 0):=⟨_,rfl⟩
  have HP:Hid (∀ j,pj j=p (L.getD j 0)):=fun j=>by rw [hpj]
  rw [←hpj]
  obtain ⟨n,hnn⟩:∃ n,L.length=n:=⟨_,rfl⟩
  have HNn:Hid (L.length=n):=hnn
  rw [hnn] at hn hc HC ⊢
  clear hcell hpj hnn hF
  go_enter Tryz.func127,Tryz.ntmps127
  go_wp2_with fail
  go_loopg [8] n (fun g s8 wr => ∃ (k:Nat),k≤n∧g=n-k∧s8=.int .i64 k∧findFrom pj (n-k) k=findFrom pj n 0∧Below w.heap.size w wr)
  case atStart=>exact ⟨0,Nat.zero_le _,rfl,rfl,rfl,Below.refl _ _⟩
  case round =>
   obtain ⟨k,hk,rfl,rfl,hf,hBw⟩:=hrel
   have HQ:Hid (findFrom pj (n-k) k=findFrom pj n 0):=hf
   have HW:Hid (Below w.heap.size w wr):=hBw
   clear hf
   by_cases hlt:k<n
   ·have hki:(k:Int)<(n:Int):=by omega
    have hcx:=(hBw.cell (p:=⟨b,o+k,none⟩) hbw).trans (HC.out k hlt)
    have hn':(n:Int)≤1048576:=by omega
    have hpk:=HP.out k
    have HSK:Hid (n-k=(n-(k+1))+1):=by show _=_;omega
    have hbd:=HF.out (L.getD k 0) wr (by rw [List.getD_eq_getElem?_getD,List.getElem?_eq_getElem (by rw [HNn.out];exact hlt)];exact List.getElem_mem _) hBw
    rw [←hpk] at hbd
    generalize L.getD k 0=x at hcx hpk hbd
    clear hBw hpk
    cases hb:pj k
    ·rw [hb] at hbd
     have HK:Hid (pj k=false):=hb
     clear hb
     go_wp2_with fail
     refine hbd.mono ?_
     rintro e w1 ⟨rfl,hb1⟩
     go_wp2_with fail
     go_roundg (n-(k+1))
     case measure=>omega
     case rel=>exact ⟨k+1,by omega,rfl,by go_num,by rw [←HQ.out,HSK.out,findFrom_miss _ HK.out],onB HW.out hb1⟩
    ·rw [hb] at hbd
     have HK:Hid (pj k=true):=hb
     clear hb
     go_wp2_with fail
     refine hbd.mono ?_
     rintro e w1 ⟨rfl,hb1⟩
     go_wp2_with fail
     go_ret
     exact ⟨by rw [←HQ.out,HSK.out,findFrom_hit _ HK.out];rfl,onB HW.out hb1⟩
   ·have hke:k=n:=by omega
    subst hke
    go_wp2_with fail
    go_ret
    exact ⟨by rw [←HQ.out,Nat.sub_self];rfl,HW.out⟩
theorem contm_pl (F:Nat) (cap:Array Value) (p:Int→Bool) (hent:∀ (args:Array Value) (w:World),(callFunc F args).run Tryz.prog w=.ok (.enter F args) w) (A:Option Addr) (c:Nat) (L:List Int) (w:World) (hn:L.length≤1048576) (hL:PlAt w A c L)
  (hF:∀ (x:Int) (w':World),x∈L→Below w.heap.size w w'→Calls Tryz.prog F (#[.int .i64 x] ++ cap) w' fun e w''=>e=.returned (.bool (p x))∧Below w'.heap.size w' w'') :
  Calls Tryz.prog 128 #[.slice A L.length c,.func (.func F) #[] cap] w fun e w'=>e=.returned (.bool (decide (0≤findFrom (fun j=>p (L.getD j 0)) L.length 0)))∧Below w.heap.size w w':=by
 have h:=indexm_pl F cap p hent A c L w hn hL hF
 generalize findFrom (fun j=>p (L.getD j 0)) L.length 0=r at *
 clear hF hL
 go_enter Tryz.func128,Tryz.ntmps128
 go_wp2_with fail
 refine h.mono ?_
 rintro e w1 ⟨rfl,hb1⟩
 go_wp2_with fail
 go_ret
 exact ⟨rfl,hb1⟩
theorem cut_count (c:UInt8) (l:List UInt8):(cutB c l).length=Lib.countByte l c+1:=by
 unfold Lib.countByte
 induction l with
 | nil=>rfl
 | cons x t ih =>
  rw [cutB]
  by_cases h:x=c
  ·rw [if_pos h,List.length_cons,ih,h,List.count_cons_self]
  ·rw [if_neg h,List.count_cons_of_ne (by simpa using h)]
   cases hs:cutB c t with
   | nil=>exact absurd hs (cutB_ne c t)
   | cons a r=>rw [hs] at ih;simpa using ih
theorem cut_miss {c:UInt8} {l:List UInt8} (h:Lib.indexByte l c = -1):cutB c l=[l]:=by
 refine cut_none fun hm=>?_
 obtain ⟨i,hi,he⟩:=List.getElem_of_mem hm
 exact Lib.indexByte_none h i (by rw [List.getElem?_eq_getElem hi,he])
theorem cut_hit {c:UInt8} {l:List UInt8} {o:Nat} (h:Lib.indexByte l c=o):o<l.length∧cutB c l=l.take o :: cutB c (l.drop (o+1)):=by
 obtain ⟨h1,h2⟩:=Lib.indexByte_some h
 obtain ⟨ho,he⟩:=List.getElem?_eq_some_iff.1 h1
 refine ⟨ho,?_⟩
 have e:l=l.take o ++ c :: l.drop (o+1):=by
  rw [←he,←List.drop_eq_getElem_cons ho,List.take_append_drop]
 have hn:c∉l.take o:=fun hm=>by
  obtain ⟨i,hi,hv⟩:=List.getElem_of_mem hm
  have hio:i<o:=by simp at hi;omega
  exact h2 i hio (by rw [List.getElem?_eq_getElem (by omega)];simpa using hv)
 conv=>lhs;rw [e]
 exact cut_ahead hn _
theorem byte_ext {x:ByteArray} {l:List UInt8} (h:x.data.toList=l):(⟨l.toArray⟩:ByteArray)=x:=by
 subst h
 cases x
 simp
theorem pieces_one {x:ByteArray} (h:Lib.indexByte x.data.toList 46 = -1):pieces x=[x]:=by
 unfold pieces
 rw [cut_miss h,List.map_singleton,byte_ext rfl]
theorem pieces_more {x:ByteArray} {i:Nat} (h:Lib.indexByte x.data.toList 46=i):i+1≤x.size∧pieces x=x.extract 0 i :: pieces (x.extract (i+1) x.size):=by
 obtain ⟨h1,h2⟩:=cut_hit h
 have hsz:x.data.toList.length=x.size:=by simp
 refine ⟨by omega,?_⟩
 unfold pieces
 rw [h2,List.map_cons,byte_ext (Lib.extract_from_zero x i),Lib.extract_to_end]
theorem pieces_pos (x:ByteArray):1≤(pieces x).length:=by
 unfold pieces
 rw [List.length_map,cut_count]
 omega
theorem pieces_count (x:ByteArray):(pieces x).length=Lib.countByte x.data.toList 46+1:=by
 unfold pieces
 rw [List.length_map,cut_count]
theorem pieces_le (x:ByteArray):(pieces x).length≤x.size+1:=by
 rw [pieces_count]
 unfold Lib.countByte
 have:=List.count_le_length (a:=(46:UInt8)) (l:=x.data.toList)
 have hsz:x.data.toList.length=x.size:=by simp
 omega
theorem pieces_last {x:ByteArray} (h:(pieces x).length=1):pieces x=[x]:=by
 have h1:=Lib.indexByte_ge x.data.toList 46
 by_cases h2:Lib.indexByte x.data.toList 46 = -1
 ·exact pieces_one h2
 ·obtain ⟨i,hi⟩:∃ i:Nat,Lib.indexByte x.data.toList 46=i:=⟨(Lib.indexByte x.data.toList 46).toNat,by omega⟩
  have h3:=(pieces_more hi).2
  have h4:=pieces_pos (x.extract (i+1) x.size)
  rw [h3,List.length_cons] at h
  omega
theorem pieces_dot {x:ByteArray} (h:2≤(pieces x).length):∃ i:Nat,Lib.indexByte x.data.toList 46=i∧i+1≤x.size∧pieces x=x.extract 0 i :: pieces (x.extract (i+1) x.size):=by
 have h1:=Lib.indexByte_ge x.data.toList 46
 by_cases h2:Lib.indexByte x.data.toList 46 = -1
 ·rw [pieces_one h2] at h;simp at h
 ·obtain ⟨i,hi⟩:∃ i:Nat,Lib.indexByte x.data.toList 46=i:=⟨(Lib.indexByte x.data.toList 46).toNat,by omega⟩
  exact ⟨i,hi,pieces_more hi⟩
def piecesC (c:UInt8) (s:ByteArray):List ByteArray:=(cutB c s.data.toList).map fun l=>⟨l.toArray⟩
theorem piecesC_pos (c:UInt8) (x:ByteArray):1≤(piecesC c x).length:=by
 unfold piecesC
 rw [List.length_map,cut_count]
 omega
theorem piecesC_le (c:UInt8) (x:ByteArray):(piecesC c x).length≤x.size+1:=by
 unfold piecesC
 rw [List.length_map,cut_count]
 unfold Lib.countByte
 have:=List.count_le_length (a:=c) (l:=x.data.toList)
 have hsz:x.data.toList.length=x.size:=by simp
 omega
theorem Tryz.infoStr:(Tryz.prog.info? 9).map (fun i=>(i.zero,i.size,i.bytes))=some (some (.string ByteArray.empty),1,16):=by kernel_rfl
end Go.Proofs.YtpoklbfffgpbiaaGreatDoor
namespace Go.Proofs.YtpoklbfffgpbiaaGreatDoor
open Go Go.ChangeShapes Go.WideShapes Go.ChangeAt Go.RowKit Go.Deep
set_option maxRecDepth 100000
section
variable {H:Type} {enc:TypeId×Value→H} {w:World} {held:Bool}
theorem trod_one {P:Program} {base:Nat} {sp:Nat→Bool} {t:TypeId} {fs:Array Field} {fuel:Nat} {cs:List Value} {x:DataW H×List MemPlace} (ht:P.underlying t=some (.struct fs)) (hone:oneCellFields P fs=true) (h:DataW.trod enc P w base sp held fuel t cs=some x) :
  cs.length=P.cellsOf t∧∃ n,∀ (i:Nat) (f:Field) (v:Value),fs[i]?=some f→cs[i]?=some v→∃ y,DataW.trod enc P w base sp held n f.type [v]=some y:=by
 obtain ⟨xs,n,_,_,hl,hxs,hf⟩:=DataW.trod_struct ht h
 refine ⟨hl,n,fun i f v hi hv=>?_⟩
 obtain ⟨ho,hc⟩:=hone_of hone i f hi
 have hlt:i<fs.size:=(Array.getElem?_eq_some_iff.1 hi).1
 have e:=hf i f hi
 rw [ho,hc] at e
 obtain ⟨hi',hv'⟩:=List.getElem?_eq_some_iff.1 hv
 have ed:(cs.drop i).take 1=[v]:=by rw [List.drop_eq_getElem_cons hi',hv'];rfl
 rw [ed,List.getElem?_eq_getElem (by omega)] at e
 exact ⟨_,e⟩
theorem cellsM:Tryz.prog.cellsOf 43=4:=by kernel_rfl
theorem cellsD:Tryz.prog.cellsOf 32=3:=by kernel_rfl
theorem cellsO:Tryz.prog.cellsOf 24=1:=by kernel_rfl
theorem open_member {base:Nat} {sp:Nat→Bool} {fuel:Nat} {cs:List Value} {x:DataW H×List MemPlace} (h:DataW.trod enc Tryz.prog w base sp held fuel 43 cs=some x) :
  ∃ m:Mem,cs=[.string m.name,.int .i64 m.parent,.int .i64 m.sign,.string m.formula]:=by
 obtain ⟨hl,n,hf⟩:=trod_one Tryz.underlying43 (by kernel_rfl) h
 rw [cellsM] at hl
 match cs,hl with
 | [v0,v1,v2,v3],_ =>
  obtain ⟨y0,h0⟩:=hf 0 _ v0 rfl rfl
  obtain ⟨y1,h1⟩:=hf 1 _ v1 rfl rfl
  obtain ⟨y2,h2⟩:=hf 2 _ v2 rfl rfl
  obtain ⟨y3,h3⟩:=hf 3 _ v3 rfl rfl
  obtain ⟨s0,e0,-,-⟩:=DataW.trod_string Tryz.underlying9 h0
  obtain ⟨n1,e1,-,-⟩:=DataW.trod_int Tryz.underlying3 h1
  obtain ⟨n2,e2,-,-⟩:=DataW.trod_int Tryz.underlying3 h2
  obtain ⟨s3,e3,-,-⟩:=DataW.trod_string Tryz.underlying9 h3
  simp at e0 e1 e2 e3
  exact ⟨⟨s0,n1,n2,s3⟩,by rw [e0,e1,e2,e3]⟩
theorem addr_plain {a:Addr} {k:Nat} {v:Value} (h:w.cell? (a.add k)=some v) (hk:k=0):a=⟨a.block,a.off,none⟩:=by
 subst hk
 have e:(a.add 0)=a:=by simp [Addr.add]
 rw [e] at h
 have:=World.cell?_spot h
 cases a
 simp_all
theorem plain_add (b o k:Nat):(⟨b,o,none⟩:Addr).add k=⟨b,o+k,none⟩:=by
 unfold Addr.add
 by_cases hk:k=0
 ·subst hk;simp
 ·rw [if_neg hk]
theorem open_members {fuel:Nat} {cs:List Value} {x:DataW H×List MemPlace} (h:DataW.trod enc Tryz.prog w 0 (fun _=>true) held fuel 30 cs=some x) :
  ∃ (A:Option Addr) (cap n:Nat) (M:Nat→Mem),cs=[.slice A n cap]∧MemsV w A cap n M:=by
 rcases open_slice Tryz.underlying30 h with ⟨rfl,-⟩ | ⟨a,len,cap,m,n,D,Pl,rfl,-,hl,-,hm,-,hx⟩
 ·exact ⟨none,0,0,fun _=>⟨default,0,0,default⟩,rfl,Nat.le_refl _,Or.inl rfl⟩
 rw [cellsM] at hx
 simp at hm
 subst hm
 haveI:Inhabited Mem:=⟨⟨default,0,0,default⟩⟩
 have each:∀ i,i<len→∃ y:Mem,w.cells? 0 (a.add (i*4)) 4=some [.string y.name,.int .i64 y.parent,.int .i64 y.sign,.string y.formula]:=fun i hi=>by
  obtain ⟨cs',h1,h2⟩:=hx i (by omega)
  obtain ⟨y,rfl⟩:=open_member h2
  exact ⟨y,h1⟩
 obtain ⟨M,hM⟩:=choose_lt each
 refine ⟨some a,_,len,M,rfl,hl,?_⟩
 rcases Nat.eq_zero_or_pos len with h0 | h0
 ·exact Or.inl h0
 right
 have c0:=(World.cells?_some (hM 0 h0)).2.2 0 (by omega)
 rw [add_add] at c0
 have hp:=addr_plain c0 (by omega)
 have hb:=World.block_lt_of_cell? _ _ c0
 refine ⟨a.block,a.off,by rw [←hp],by simpa [Addr.add] using hb,fun i hi=>?_⟩
 have hc:=(World.cells?_some (hM i hi)).2.2
 rw [hp] at hc
 simp only [plain_add,Nat.add_assoc] at hc
 refine ⟨?_,?_,?_,?_⟩
 ·have:=hc 0 (by omega);simpa using this
 ·have:=hc 1 (by omega);simpa [Nat.add_assoc] using this
 ·have:=hc 2 (by omega);simpa [Nat.add_assoc] using this
 ·have:=hc 3 (by omega);simpa [Nat.add_assoc] using this
theorem open_dim {fuel:Nat} {cs:List Value} {x:DataW H×List MemPlace} (h:DataW.trod enc Tryz.prog w 0 (fun _=>true) held fuel 32 cs=some x) :
  ∃ (d:Dm) (A:Option Addr) (c:Nat),cs=[.string d.name,.int .i64 d.solve,.slice A d.n c]∧MemsV w A c d.n d.mem:=by
 obtain ⟨hl,n,hf⟩:=trod_one Tryz.underlying32 (by kernel_rfl) h
 rw [cellsD] at hl
 match cs,hl with
 | [v0,v1,v2],_ =>
  obtain ⟨y0,h0⟩:=hf 0 _ v0 rfl rfl
  obtain ⟨y1,h1⟩:=hf 1 _ v1 rfl rfl
  obtain ⟨y2,h2⟩:=hf 2 _ v2 rfl rfl
  obtain ⟨s0,e0,-,-⟩:=DataW.trod_string Tryz.underlying9 h0
  obtain ⟨n1,e1,-,-⟩:=DataW.trod_int Tryz.underlying3 h1
  obtain ⟨A,cap,k,M,e2,hM⟩:=open_members h2
  simp at e0 e1 e2
  exact ⟨⟨s0,n1,k,M⟩,A,cap,by rw [e0,e1,e2],hM⟩
theorem open_dims {fuel:Nat} {cs:List Value} {x:DataW H×List MemPlace} (h:DataW.trod enc Tryz.prog w 0 (fun _=>true) held fuel 22 cs=some x) :
  ∃ (A0:Option Addr) (cap n:Nat) (D:Nat→Dm) (A:Nat→Option Addr) (C:Nat→Nat),cs=[.slice A0 n cap]∧DimsV w A0 cap n D A C:=by
 rcases open_slice Tryz.underlying22 h with ⟨rfl,-⟩ | ⟨a,len,cap,m,n,D,Pl,rfl,-,hl,-,hm,-,hx⟩
 ·exact ⟨none,0,0,fun _=>⟨default,0,0,fun _=>⟨default,0,0,default⟩⟩,fun _=>none,fun _=>0,rfl,Nat.le_refl _,Or.inl rfl⟩
 rw [cellsD] at hx
 simp at hm
 subst hm
 haveI:Inhabited Dm:=⟨⟨default,0,0,fun _=>⟨default,0,0,default⟩⟩⟩
 have each:∀ i,i<len→∃ y:Dm×Option Addr×Nat,w.cells? 0 (a.add (i*3)) 3=some [.string y.1.name,.int .i64 y.1.solve,.slice y.2.1 y.1.n y.2.2]∧MemsV w y.2.1 y.2.2 y.1.n y.1.mem:=fun i hi=>by
  obtain ⟨cs',h1,h2⟩:=hx i (by omega)
  obtain ⟨d,A,c,rfl,hm⟩:=open_dim h2
  exact ⟨(d,A,c),h1,hm⟩
 obtain ⟨Y,hY⟩:=choose_lt each
 refine ⟨some a,_,len,fun i=>(Y i).1,fun i=>(Y i).2.1,fun i=>(Y i).2.2,rfl,hl,?_⟩
 rcases Nat.eq_zero_or_pos len with h0 | h0
 ·exact Or.inl h0
 right
 have c0:=(World.cells?_some (hY 0 h0).1).2.2 0 (by omega)
 rw [add_add] at c0
 have hp:=addr_plain c0 (by omega)
 have hb:=World.block_lt_of_cell? _ _ c0
 refine ⟨a.block,a.off,by rw [←hp],by simpa [Addr.add] using hb,fun i hi=>?_⟩
 have hc:=(World.cells?_some (hY i hi).1).2.2
 rw [hp] at hc
 simp only [plain_add,Nat.add_assoc] at hc
 refine ⟨?_,?_,?_,(hY i hi).2⟩
 ·have:=hc 0 (by omega);simpa using this
 ·have:=hc 1 (by omega);simpa [Nat.add_assoc] using this
 ·have:=hc 2 (by omega);simpa [Nat.add_assoc] using this
theorem arr1 {α:Type} {a:Array α} (h:a.size=1):∃ x,a=#[x]:=by
 rcases a with ⟨l⟩
 match l,h with
 | [x],_=>exact ⟨x,rfl⟩
theorem open_outline {r:Reach} {b0:Nat} {v:Value} {d:DataW H} {p:List MemPlace} (hv:Value.okWide Tryz.prog w r b0 24 v) (h:DataW.Trod enc Tryz.prog w 0 (fun _=>true) held 24 v d p) :
  ∃ (A0:Option Addr) (cap n:Nat) (D:Nat→Dm) (A:Nat→Option Addr) (C:Nat→Nat),v=.agg #[.slice A0 n cap]∧DimsV w A0 cap n D A C:=by
 obtain ⟨cs,rfl,hsz⟩:=okWide_struct Tryz.underlying24 hv
 obtain ⟨c0,rfl⟩:=arr1 (hsz.trans cellsO)
 obtain ⟨fuel,hf⟩:=h
 obtain ⟨-,n,hy⟩:=trod_one Tryz.underlying24 (by kernel_rfl) hf
 obtain ⟨y0,h0⟩:=hy 0 _ c0 rfl rfl
 obtain ⟨A0,cap,k,D,A,C,e,hD⟩:=open_dims h0
 simp at e
 exact ⟨A0,cap,k,D,A,C,by rw [e],hD⟩
end
def NdsAt (w:World) (b o:Nat) (l:List Nd):Prop:=b<w.heap.size∧∀ k,k<l.length→w.cell? ⟨b,o+k*5,none⟩=some (.int .i64 (l.getD k noN).op)∧w.cell? ⟨b,o+k*5+1,none⟩=some (.int .i64 (l.getD k noN).n)∧w.cell? ⟨b,o+k*5+2,none⟩=some (.string (l.getD k noN).name)∧w.cell? ⟨b,o+k*5+3,none⟩=some (.int .i64 (l.getD k noN).left)∧w.cell? ⟨b,o+k*5+4,none⟩=some (.int .i64 (l.getD k noN).right)
theorem NdsAt.later {w w':World} {b o:Nat} {l:List Nd} (h:NdsAt w b o l) (hB:Below w.heap.size w w'):NdsAt w' b o l:=by
 refine ⟨Nat.lt_of_lt_of_le h.1 hB.size,fun k hk=>?_⟩
 obtain ⟨h1,h2,h3,h4,h5⟩:=h.2 k hk
 exact ⟨(hB.cell (p:=⟨b,o+k*5,none⟩) h.1).trans h1,(hB.cell (p:=⟨b,o+k*5+1,none⟩) h.1).trans h2,(hB.cell (p:=⟨b,o+k*5+2,none⟩) h.1).trans h3,(hB.cell (p:=⟨b,o+k*5+3,none⟩) h.1).trans h4,(hB.cell (p:=⟨b,o+k*5+4,none⟩) h.1).trans h5⟩
def NdsV (w:World) (A:Option Addr) (cap:Nat) (l:List Nd):Prop:=l.length≤cap∧cap≤9223372036854775807∧(l=[]∨∃ b o,A=some ⟨b,o,none⟩∧NdsAt w b o l)
theorem NdsV.nil (w:World) (A:Option Addr) (cap:Nat) (h:cap≤9223372036854775807):NdsV w A cap []:=⟨Nat.zero_le _,h,Or.inl rfl⟩
end Go.Proofs.YtpoklbfffgpbiaaGreatDoor
namespace Go.Proofs.YtpoklbfffgpbiaaGreatDoor
open Go.ChangeShapes Go.WideShapes Go.ChangeAt Go.RowKit
set_option maxRecDepth 20000
theorem isdig_any (c:Int) (w:World):Calls Tryz.prog 204 #[.int .u8 c] w fun e w'=>e=.returned (.bool (digB c))∧Below w.heap.size w w':=by
 unfold digB
 by_cases h1:48≤c
 ·go_enter Tryz.func204,Tryz.ntmps204
  go_wp2
  go_ret
  exact ⟨by simp <;> omega,by go_grown⟩
 ·go_enter Tryz.func204,Tryz.ntmps204
  go_wp2
  go_ret
  exact ⟨by simp <;> omega,by go_grown⟩
theorem islet_any (c:Int) (w:World):Calls Tryz.prog 182 #[.int .u8 c] w fun e w'=>e=.returned (.bool (letB c))∧Below w.heap.size w w':=by
 unfold letB
 by_cases h1:97≤c
 ·go_enter Tryz.func182,Tryz.ntmps182
  go_wp2
  go_ret
  exact ⟨by simp <;> omega,by go_grown⟩
 ·go_enter Tryz.func182,Tryz.ntmps182
  go_wp2
  go_ret
  exact ⟨by simp <;> omega,by go_grown⟩
theorem binds_any (op:Int) (w:World):Calls Tryz.prog 159 #[.int .i64 op] w fun e w'=>e=.returned (.int .i64 (bindN op))∧Below w.heap.size w w':=by
 unfold bindN
 by_cases h3:op=3
 ·subst h3
  go_enter Tryz.func159,Tryz.ntmps159
  go_wp2
  go_ret
  exact ⟨by simp,by go_grown⟩
 by_cases h4:op=4
 ·subst h4
  go_enter Tryz.func159,Tryz.ntmps159
  go_wp2
  go_ret
  exact ⟨by simp,by go_grown⟩
 by_cases h5:op=5
 ·subst h5
  go_enter Tryz.func159,Tryz.ntmps159
  go_wp2
  go_ret
  exact ⟨by simp,by go_grown⟩
 by_cases h6:op=6
 ·subst h6
  go_enter Tryz.func159,Tryz.ntmps159
  go_wp2
  go_ret
  exact ⟨by simp,by go_grown⟩
 rw [if_neg (by omega),if_neg (by omega)]
 go_enter Tryz.func159,Tryz.ntmps159
 go_wp2
 go_ret
 exact ⟨rfl,by go_grown⟩
theorem joins_any (op:Int) (w:World):Calls Tryz.prog 187 #[.int .i64 op] w fun e w'=>e=.returned (.bool (decide (op≠1∧op≠2)))∧Below w.heap.size w w':=by
 by_cases h1:op=1
 ·subst h1
  go_enter Tryz.func187,Tryz.ntmps187
  go_wp2
  go_ret
  exact ⟨by simp,by go_grown⟩
 by_cases h2:op=2
 ·subst h2
  go_enter Tryz.func187,Tryz.ntmps187
  go_wp2
  go_ret
  exact ⟨by simp,by go_grown⟩
 go_enter Tryz.func187,Tryz.ntmps187
 go_wp2
 go_ret
 exact ⟨by simp [h1,h2],by go_grown⟩
theorem byteN_get (s:ByteArray) (k:Nat) (h:k<s.size):((s[k]'h).toNat:Int)=byteN s k:=by
 unfold byteN
 rw [List.getD,List.getElem?_eq_getElem (by simpa using h)]
 rfl
theorem lead_miss {p:Int→Bool} {t:ByteArray} {f i:Nat} (h:p (byteN t i)=false):leadTo p t (f+1) i=i:=by simp [leadTo,h]
theorem lead_hit {p:Int→Bool} {t:ByteArray} {f i:Nat} (h:p (byteN t i)=true):leadTo p t (f+1) i=leadTo p t f (i+1):=by simp [leadTo,h]
set_option maxHeartbeats 1000000 in
theorem lead_any (p:Int→Bool) (F:Nat) (hent:∀ (args:Array Value) (w:World),(callFunc F args).run Tryz.prog w=.ok (.enter F args) w) (hF:∀ (c:Int) (w:World),Calls Tryz.prog F #[.int .u8 c] w fun e w'=>e=.returned (.bool (p c))∧Below w.heap.size w w') (t:ByteArray) (w:World) (hs:t.size≤4611686018427387904):Calls Tryz.prog 206 #[.string t,.func (.func F) #[] #[]] w fun e w'=>e=.returned (.int .i64 (leadN p t))∧Below w.heap.size w w':=by
 have HF:Hid (∀ (c:Int) (w:World),Calls Tryz.prog F #[.int .u8 c] w fun e w'=>e=.returned (.bool (p c))∧Below w.heap.size w w'):=hF
 unfold leadN
 clear hF
 go_enter Tryz.func206,Tryz.ntmps206
 go_wp2_with fail
 go_loopg [8] t.size (fun g s8 wr => ∃ (k:Nat),k≤t.size∧g=t.size-k∧s8=.int .i64 k∧leadTo p t (t.size-k) k=leadTo p t t.size 0∧Below w.heap.size w wr)
 case atStart=>exact ⟨0,Nat.zero_le _,rfl,rfl,rfl,Below.refl _ _⟩
 case round =>
  obtain ⟨k,hk,rfl,rfl,hf,hBw⟩:=hrel
  have HQ:Hid (leadTo p t (t.size-k) k=leadTo p t t.size 0):=hf
  have HW:Hid (Below w.heap.size w wr):=hBw
  clear hf hBw
  by_cases hlt:k<t.size
  ·have hki:(k:Int)<(t.size:Int):=by omega
   have hs':(t.size:Int)≤4611686018427387904:=by omega
   have HSK:Hid (t.size-k=(t.size-(k+1))+1):=by show _=_;omega
   have hbd:=HF.out (byteN t k)
   have hby:=byteN_get t k hlt
   cases hb:p (byteN t k)
   ·rw [hb] at hbd
    have HK:Hid (p (byteN t k)=false):=hb
    clear hb
    generalize byteN t k=c at hbd hby
    go_wp2_with fail
    refine (hbd _).mono ?_
    rintro e w1 ⟨rfl,hb1⟩
    go_wp2_with fail
    go_ret
    exact ⟨by rw [←HQ.out,HSK.out,lead_miss HK.out];rfl,onB HW.out hb1⟩
   ·rw [hb] at hbd
    have HK:Hid (p (byteN t k)=true):=hb
    clear hb
    generalize byteN t k=c at hbd hby
    go_wp2_with fail
    refine (hbd _).mono ?_
    rintro e w1 ⟨rfl,hb1⟩
    go_wp2_with fail
    go_roundg (t.size-(k+1))
    case measure=>omega
    case rel=>exact ⟨k+1,by omega,rfl,by go_num,by rw [←HQ.out,HSK.out,lead_hit HK.out],onB HW.out hb1⟩
  ·have hke:k=t.size:=by omega
   subst hke
   go_wp2_with fail
   go_ret
   exact ⟨by rw [←HQ.out,Nat.sub_self];rfl,HW.out⟩
theorem ent_dig (args:Array Value) (w:World):(callFunc 204 args).run Tryz.prog w=.ok (.enter 204 args) w:=by simp [go_sem]
theorem ent_let (args:Array Value) (w:World):(callFunc 182 args).run Tryz.prog w=.ok (.enter 182 args) w:=by simp [go_sem]
theorem leadd_any (t:ByteArray) (w:World) (hs:t.size≤4611686018427387904):Calls Tryz.prog 206 #[.string t,.func (.func 204) #[] #[]] w fun e w'=>e=.returned (.int .i64 (leadN digB t))∧Below w.heap.size w w':=lead_any digB 204 ent_dig isdig_any t w hs
theorem leadl_any (t:ByteArray) (w:World) (hs:t.size≤4611686018427387904):Calls Tryz.prog 206 #[.string t,.func (.func 182) #[] #[]] w fun e w'=>e=.returned (.int .i64 (leadN letB t))∧Below w.heap.size w w':=lead_any letB 182 ent_let islet_any t w hs
end Go.Proofs.YtpoklbfffgpbiaaGreatDoor
namespace Go.Proofs
open Go.Shelf
def Tryz.lays137_ren:Go.Shelf.Ren:=⟨fun | 137=>154 | 217=>82 | 266=>112 | n=>n,fun | 9=>9 | 5=>5 | 3=>3 | n=>n,fun | n=>n⟩
theorem Tryz.lays137:Go.Proofs.Lays.n137 Tryz.prog Tryz.lays137_ren:={
 mixed:=by kernel_rfl
 f137:=Tryz.func154.trans (congrArg some (by kernel_rfl))
 f217:=Tryz.func82.trans (congrArg some (by kernel_rfl))
 f266:=Tryz.func112.trans (congrArg some (by kernel_rfl))
 t3:=Tryz.underlying3
 a3:=Tryz.isAgg3
 z3:=Tryz.sizeOf3
 v3:=Tryz.zeroValue3
 t5:=Tryz.underlying5
 a5:=Tryz.isAgg5
 z5:=Tryz.sizeOf5
 v5:=Tryz.zeroValue5
 t9:=Tryz.underlying9
 a9:=Tryz.isAgg9
 z9:=Tryz.sizeOf9
 v9:=Tryz.zeroValue9 }
namespace YtpoklbfffgpbiaaGreatDoor
open Go.ChangeShapes Go.WideShapes Go.ChangeAt Go.RowKit
theorem signI_fin:∀ c:Fin 256,Lib.indexByte [43,45,42,47] c.val.toUInt8=signI (c.val:Int):=by decide +kernel
theorem signI_eq (c:Int) (h0:0≤c) (h1:c<256):Lib.indexByte [43,45,42,47] c.toNat.toUInt8=signI c:=by
 have h:=signI_fin ⟨c.toNat,by omega⟩
 simp only at h
 rw [h,show ((c.toNat:Nat):Int)=c by omega]
theorem signix_any (c:Int) (h0:0≤c) (h1:c<256) (w:World):Calls Tryz.prog 154 #[.string ⟨#[43,45,42,47]⟩,.int .u8 c] w fun e w'=>e=.returned (.int .i64 (signI c))∧Below w.heap.size w w' :=
 (Any.strings_IndexByte Tryz.lays137 ⟨#[43,45,42,47]⟩ c w).mono fun e w' ⟨he,hw⟩=>⟨by rw [he,signI_eq c h0 h1],by rw [hw];exact Below.refl _ _⟩
theorem byteN_range (s:ByteArray) (i:Nat):0≤byteN s i∧byteN s i<256:=by
 unfold byteN
 have:=(s.data.toList.getD i 0).toNat_lt
 omega
theorem nextB_range (s:ByteArray) (i:Nat):0≤nextB s i∧nextB s i<256:=by
 unfold nextB
 split
 ·omega
 ·exact byteN_range s i
end YtpoklbfffgpbiaaGreatDoor
end Go.Proofs
namespace Go.Proofs.YtpoklbfffgpbiaaGreatDoor
open Go.ChangeShapes Go.WideShapes Go.ChangeAt Go.RowKit
set_option maxRecDepth 20000
set_option maxHeartbeats 2000000 in
theorem iclone_pl (A:Option Addr) (c:Nat) (L:List Int) (w:World) (hL:L.length≤1048576) (hP:PlAt w A c L):Calls Tryz.prog 102 #[.slice A L.length c] w fun e w'=>(∃ v,e=.returned v∧w'.ownsRow w.heap.size 3 1 v L.length (mapI L))∧Below w.heap.size w w':=by
 have hq:∀ (w:World) (a:Option Addr) (n c n' c':Nat),(binOp .eql 33 (.slice a n c) (.slice none n' c')).run Tryz.prog w=.ok (.bool a.isNone) w:=fun w a n c n' c'=>Lib.run_eql_slice_nil w _ _ a n c n' c' Tryz.underlying33
 cases A with
 | none =>
  obtain ⟨-,h0 | ⟨b,o,h0,-⟩⟩:=hP
  ·subst h0
   simp only [List.length_nil]
   go_enter Tryz.func102,Tryz.ntmps102
   go_wp2_with fail
   go_ret
   exact ⟨⟨_,rfl,World.ownsRow_nil _ _ _ _⟩,Below.refl _ _⟩
  ·cases h0
 | some a =>
  obtain ⟨i0,hi0,hz0,hz1,hz2⟩:=info_parts Tryz.infoInt
  have HC:Hid (∀ j u,(mapI L)[j]?=some u→w.cell? (a.add j)=some u):=by
   intro j u hj
   obtain ⟨-,h0 | ⟨b,o,h0,-,hcell⟩⟩:=hP
   ·subst h0;simp [mapI] at hj
   ·cases h0
    have hlt:j<L.length:=by have:=(List.getElem?_eq_some_iff.1 hj).1;simpa [mapI] using this
    rw [plain_add,hcell j hlt]
    simp only [mapI,List.getElem?_map,List.getElem?_eq_getElem hlt,Option.map_some,Option.some.injEq] at hj
    rw [←hj,List.getD_eq_getElem?_getD,List.getElem?_eq_getElem hlt]
    rfl
  have hl:(mapI L).length=L.length*1:=by simp [mapI]
  have h1:∀ u∈mapI L,u.oneCell'=true:=by intro u hu;simp [mapI] at hu;obtain ⟨x,-,rfl⟩:=hu;rfl
  clear hP
  go_enter Tryz.func102,Tryz.ntmps102
  go_wp2_with (at_builtin;refine wpList_append_own _ rfl _ _ 33 rfl w.heap.size 3 i0 (.int .i64 0) 1 8 Tryz.underlying33 hi0 hz0 hz1 hz2 rfl (by decide) _ _ _ rfl (World.ownsRow_made w #[] 0 (Nat.le_refl _) (Nat.zero_le _) (by simp)) a L.length c (mapI L) rfl ?qc1 ?qc2 ?qc3 ?qc4 ?qc5 ?qc6 ?_)
  case qc1=>exact hl
  case qc2=>exact fun j u hj=>Lib.cell?_alloc_some _ (HC.out j u hj)
  case qc3=>exact h1
  case qc4=>simp only [maxLen];omega
  case qc5=>omega
  case qc6=>simp
  intro v' w1 hown hgrow hnil
  have HO:Hid (w1.ownsRow w.heap.size 3 1 v' L.length (mapI L)):=hown
  have HB:Hid (Below w.heap.size w w1):=((Below.refl _ w).alloc (Nat.le_refl _) _).grown hgrow (by simp) (by intro k hk;simp [Value.ownBlock] at hk;omega)
  clear hown hgrow hnil
  go_wp2_with fail
  go_ret
  exact ⟨⟨_,rfl,HO.out⟩,HB.out⟩
end Go.Proofs.YtpoklbfffgpbiaaGreatDoor
