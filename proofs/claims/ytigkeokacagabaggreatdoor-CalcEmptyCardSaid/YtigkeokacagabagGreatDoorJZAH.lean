/-
  The table of numbers of internal/stringslite.Clone at this program; what strings.Clone answers: the same bytes.
-/
import Derived.Shelf.Pu.Clone
import Derived.Lib.Strings
import Derived.Deep.OwnRows
import Derived.Lib.Builder
import Derived.Deep.RegionHeld3
import Derived.Test.YtigkeokacagabagGreatDoorJZAE
namespace Go.Proofs
open Go.Shelf
def Tryz.laysK_ren:Go.Shelf.Ren:=⟨fun | 25=>227 | n=>n,fun | 0=>0 | 3=>3 | 4=>4 | 5=>5 | 9=>9 | 37=>280 | 47=>297 | n=>n,fun | n=>n⟩
theorem Tryz.laysK:Go.Proofs.LaysPu.n25 Tryz.prog Tryz.laysK_ren:={
 mixed:=by kernel_rfl
 f25:=Tryz.func227.trans (congrArg some (by kernel_rfl))
 t0:=Tryz.underlying0
 a0:=Tryz.isAgg0
 z0:=Tryz.sizeOf0
 v0:=Tryz.zeroValue0
 i0:=by kernel_rfl
 t3:=Tryz.underlying3
 a3:=Tryz.isAgg3
 z3:=Tryz.sizeOf3
 v3:=Tryz.zeroValue3
 i3:=by kernel_rfl
 t4:=Tryz.underlying4
 a4:=Tryz.isAgg4
 z4:=Tryz.sizeOf4
 v4:=Tryz.zeroValue4
 i4:=by kernel_rfl
 t5:=Tryz.underlying5
 a5:=Tryz.isAgg5
 z5:=Tryz.sizeOf5
 v5:=Tryz.zeroValue5
 i5:=by kernel_rfl
 t9:=Tryz.underlying9
 a9:=Tryz.isAgg9
 z9:=Tryz.sizeOf9
 v9:=Tryz.zeroValue9
 i9:=by kernel_rfl
 t37:=Tryz.underlying280
 a37:=Tryz.isAgg280
 z37:=Tryz.sizeOf280
 v37:=Tryz.zeroValue280
 i37:=by kernel_rfl
 t47:=Tryz.underlying297
 a47:=Tryz.isAgg297
 z47:=Tryz.sizeOf297
 v47:=Tryz.zeroValue297
 i47:=by kernel_rfl }
namespace YtigkeokacagabagGreatDoor
open Go.ChangeShapes Go.WideShapes Go.ChangeAt Go.RowKit
theorem sclone_any (s:ByteArray) (w:World) (hs:s.size≤281474976710656):Calls Tryz.prog 199 #[.string s] w fun e w'=>e=.returned (.string s)∧Below w.heap.size w w':=by
 have h:=AnyPu.stringslite_Clone Tryz.laysK s w hs
 go_enter Tryz.func199,Tryz.ntmps199
 go_wp2_with fail
 refine Calls.mono h ?_
 rintro e w1 ⟨rfl,hb1⟩
 go_wp2_with fail
 go_ret
 exact ⟨rfl,hb1⟩
end YtigkeokacagabagGreatDoor
end Go.Proofs
namespace Go.Proofs.YtigkeokacagabagGreatDoor
def numTo (D:Nat→Dm) (P:Nat→Nat):Nat→Nat
 | 0=>0
 | k+1=>numTo D P k*(D k).n+P k
theorem numTo_lt {D:Nat→Dm} {P:Nat→Nat} (k:Nat) (h:∀ j,j<k→P j<(D j).n):numTo D P k<prodN D k:=by
 induction k with
 | zero=>exact Nat.one_pos
 | succ k ih =>
  have h1:=ih fun j hj=>h j (by omega)
  have h2:=h k (by omega)
  rw [numTo,prodN]
  have h3:(numTo D P k+1)*(D k).n≤prodN D k*(D k).n:=Nat.mul_le_mul_right _ h1
  rw [Nat.add_mul] at h3
  omega
def restAt (D:Nat→Dm) (m n:Nat):Nat→Nat
 | 0=>n
 | r+1=>restAt D m n r / (D (m-1-r)).n
def digitAt (D:Nat→Dm) (m n k:Nat):Nat:=restAt D m n (m-1-k) % (D k).n
theorem restAt_num {D:Nat→Dm} {P:Nat→Nat} {m:Nat} (h:∀ j,j<m→P j<(D j).n) (r:Nat):r≤m→restAt D m (numTo D P m) r=numTo D P (m-r):=by
 induction r with
 | zero=>intro _;rfl
 | succ r ih =>
  intro hr
  rw [restAt,ih (by omega)]
  have e:m-r=(m-1-r)+1:=by omega
  rw [e,numTo,show m-(r+1)=m-1-r by omega]
  have hp:=h (m-1-r) (by omega)
  rw [Nat.mul_comm,Nat.mul_add_div (by omega),Nat.div_eq_of_lt hp,Nat.add_zero]
theorem digit_num {D:Nat→Dm} {P:Nat→Nat} {m:Nat} (h:∀ j,j<m→P j<(D j).n) {k:Nat} (hk:k<m):digitAt D m (numTo D P m) k=P k:=by
 unfold digitAt
 rw [restAt_num h _ (by omega),show m-(m-1-k)=k+1 by omega,numTo]
 have hp:=h k hk
 rw [Nat.mul_comm,Nat.mul_add_mod,Nat.mod_eq_of_lt hp]
theorem num_digit {D:Nat→Dm} {m n:Nat} (hn:n<prodN D m) (k:Nat):k≤m→numTo D (digitAt D m n) k=restAt D m n (m-k):=by
 have hlt:∀ r,r≤m→restAt D m n r<prodN D (m-r):=by
  intro r
  induction r with
  | zero=>intro _;exact hn
  | succ r ih =>
   intro hr
   have h1:=ih (by omega)
   have e:m-r=(m-1-r)+1:=by omega
   rw [e,prodN] at h1
   rw [restAt,show m-(r+1)=m-1-r by omega]
   exact Nat.div_lt_of_lt_mul (by rw [Nat.mul_comm];exact h1)
 induction k with
 | zero =>
  intro _
  have h1:=hlt m (Nat.le_refl _)
  rw [Nat.sub_self] at h1
  have h2:prodN D 0=1:=rfl
  rw [numTo,Nat.sub_zero]
  omega
 | succ k ih =>
  intro hk
  rw [numTo,ih (by omega)]
  have e:m-k=(m-1-k)+1:=by omega
  rw [e,restAt,show m-1-(m-1-k)=k by omega,show m-(k+1)=m-1-k by omega]
  unfold digitAt
  have:=Nat.div_add_mod (restAt D m n (m-1-k)) (D k).n
  rw [Nat.mul_comm] at this
  exact this
theorem num_back {D:Nat→Dm} {m n:Nat} (hn:n<prodN D m):numTo D (digitAt D m n) m=n:=by
 rw [num_digit hn m (Nat.le_refl _),Nat.sub_self];rfl
theorem digit_lt {D:Nat→Dm} {m n k:Nat} (h:1≤(D k).n):digitAt D m n k<(D k).n:=Nat.mod_lt _ h
def outP (D:Nat→Dm) (L:List Int) (i:Nat):Bool:=decide (L.getD i 0<0) || decide (((D i).n:Int)≤L.getD i 0)
def shapeErr (D:Nat→Dm) (n:Nat) (L:List Int):Int:=if L.length≠n then 3 else if 0≤findFrom (outP D L) n 0 then 1 else 0
def placeErr (D:Nat→Dm) (n:Nat) (L:List Int):Int:=if (allErr D n).2.2≠0 then (allErr D n).2.2 else shapeErr D n L
theorem sh0 {D:Nat→Dm} {n:Nat} {L:List Int} (h:L.length≠n):shapeErr D n L=3:=by unfold shapeErr;rw [if_pos h]
theorem sh1 {D:Nat→Dm} {n:Nat} {L:List Int} (h:L.length=n) (h1:0≤findFrom (outP D L) n 0):shapeErr D n L=1:=by unfold shapeErr;rw [if_neg (by simpa using h),if_pos h1]
theorem sh2 {D:Nat→Dm} {n:Nat} {L:List Int} (h:L.length=n) (h1 : ¬ 0≤findFrom (outP D L) n 0):shapeErr D n L=0:=by unfold shapeErr;rw [if_neg (by simpa using h),if_neg h1]
theorem pe0 {D:Nat→Dm} {n:Nat} {L:List Int} (h:(allErr D n).2.2≠0):placeErr D n L=(allErr D n).2.2:=by unfold placeErr;rw [if_pos h]
theorem pe1 {D:Nat→Dm} {n:Nat} {L:List Int} (h:(allErr D n).2.2=0):placeErr D n L=shapeErr D n L:=by unfold placeErr;rw [if_neg (by simpa using h)]
structure InO (D:Nat→Dm) (n:Nat) (L:List Int):Prop where
 right:(allErr D n).2.2=0
 len:L.length=n
 lo:∀ i,i<n→0≤L.getD i 0
 hi:∀ i,i<n→L.getD i 0<((D i).n:Int)
theorem allErr_some {D:Nat→Dm} {n:Nat} (h:(allErr D n).2.2=0):1≤n∧n≤4∧prodN D n≤3000∧∀ i,i<n→1≤(D i).n∧(D i).n≤12:=by
 have h4:=allErr_right h
 unfold allErr at h
 split at h
 ·simp at h
 ·split at h
  ·simp at h
  ·split at h
   ·rename_i h3;exact absurd h h3
   ·split at h
    ·simp at h
    ·rename_i a b c d
     exact ⟨by omega,by omega,by omega,fun i hi=>⟨(dimErr_right (h4.2 i hi)).2.1,(dimErr_right (h4.2 i hi)).2.2.1⟩⟩
theorem inO_of {D:Nat→Dm} {n:Nat} {L:List Int} (h:placeErr D n L=0):InO D n L:=by
 unfold placeErr at h
 split at h
 ·rename_i h1;exact absurd h h1
 ·rename_i h1
  unfold shapeErr at h
  split at h
  ·cases h
  ·split at h
   ·cases h
   ·rename_i h2 h3
    have hn:∀ i,i<n→outP D L i=false:=fun i hi=>by
     rcases findFrom_cases (outP D L) n 0 with ⟨_,h4⟩ | ⟨k,h4,_⟩
     ·exact h4 i (Nat.zero_le _) (by omega)
     ·rw [h4] at h3;omega
    exact ⟨by simpa using h1,by simpa using h2,fun i hi=>by have:=hn i hi;simp [outP,-List.getD_eq_getElem?_getD] at this;omega,fun i hi=>by have:=hn i hi;simp [outP,-List.getD_eq_getElem?_getD] at this;omega⟩
theorem InO.ok {D:Nat→Dm} {n:Nat} {L:List Int} (h:InO D n L):placeErr D n L=0:=by
 rw [pe1 h.right,sh2 h.len]
 rw [findFrom_none]
 ·decide
 ·intro j _ hj
  have h1:=h.lo j (by omega)
  have h2:=h.hi j (by omega)
  simp [outP,-List.getD_eq_getElem?_getD]
  omega
def numI (D:Nat→Dm) (L:List Int):Nat→Int
 | 0=>0
 | k+1=>numI D L k*((D k).n:Int)+L.getD k 0
theorem numI_nat {D:Nat→Dm} {L:List Int} (k:Nat) (h:∀ i,i<k→0≤L.getD i 0):numI D L k=(numTo D (fun i=>(L.getD i 0).toNat) k:Int):=by
 induction k with
 | zero=>rfl
 | succ k ih =>
  have:=h k (by omega)
  rw [numI,numTo,ih fun i hi=>h i (by omega),Int.natCast_add,Int.natCast_mul,Int.toNat_of_nonneg this]
theorem prodN_small {D:Nat→Dm} {k:Nat} (h:∀ j,j<k→(D j).n≤12) (hk:k≤4):prodN D k≤20736:=by
 have h1:=prodN_le h
 have h2:12 ^ k≤12 ^ 4:=Nat.pow_le_pow_right (by decide) hk
 have h3:(12:Nat) ^ 4=20736:=by decide
 omega
theorem numI_bound {D:Nat→Dm} {n:Nat} {L:List Int} (h:InO D n L) {k:Nat} (hk:k≤n):0≤numI D L k∧numI D L k<(prodN D k:Int)∧prodN D k≤20736:=by
 obtain ⟨_,h4,_,hd⟩:=allErr_some h.right
 rw [numI_nat k fun i hi=>h.lo i (by omega)]
 have h1:=numTo_lt (D:=D) (P:=fun i=>(L.getD i 0).toNat) k fun j hj=>by
  have:=h.lo j (by omega)
  have:=h.hi j (by omega)
  omega
 refine ⟨by omega,by omega,prodN_small (fun j hj=>(hd j (by omega)).2) (by omega)⟩
def numV (D:Nat→Dm) (n:Nat) (L:List Int):Int:=if placeErr D n L=0 then numI D L n else 0
def placeL (D:Nat→Dm) (n x:Nat):List Int:=(List.range n).map fun j=>(digitAt D n x j:Int)
theorem placeL_len (D:Nat→Dm) (n x:Nat):(placeL D n x).length=n:=by simp [placeL]
theorem placeL_at {D:Nat→Dm} {n x i:Nat} (h:i<n):(placeL D n x).getD i 0=(digitAt D n x i:Int):=by
 simp [placeL,List.getD,h]
theorem placeL_in {D:Nat→Dm} {n x:Nat} (h:(allErr D n).2.2=0):InO D n (placeL D n x):=by
 obtain ⟨_,_,_,hd⟩:=allErr_some h
 exact ⟨h,placeL_len ..,fun i hi=>by rw [placeL_at hi];omega,fun i hi=>by rw [placeL_at hi];have:=digit_lt (D:=D) (m:=n) (n:=x) (k:=i) (hd i hi).1;omega⟩
theorem numTo_same {D:Nat→Dm} {P Q:Nat→Nat} (k:Nat) (h:∀ i,i<k→P i=Q i):numTo D P k=numTo D Q k:=by
 induction k with
 | zero=>rfl
 | succ k ih=>rw [numTo,numTo,ih fun i hi=>h i (by omega),h k (by omega)]
theorem num_place {D:Nat→Dm} {n x:Nat} (h:(allErr D n).2.2=0) (hx:x<prodN D n):numI D (placeL D n x) n=(x:Int):=by
 rw [numI_nat n (placeL_in h).lo,numTo_same (Q:=digitAt D n x) n fun i hi=>by rw [placeL_at hi];omega,num_back hx]
theorem place_num {D:Nat→Dm} {n:Nat} {L:List Int} (h:InO D n L):placeL D n (numI D L n).toNat=L:=by
 have h1:∀ j,j<n→(L.getD j 0).toNat<(D j).n:=fun j hj=>by have:=h.lo j hj;have:=h.hi j hj;omega
 rw [numI_nat n h.lo,Int.toNat_natCast]
 apply List.ext_getElem
 ·rw [placeL_len,h.len]
 ·intro i h2 h3
  rw [placeL_len] at h2
  have h4:=digit_num h1 h2
  have h5:=h.lo i h2
  have h6:L.getD i 0=L[i]:=by simp [List.getD,h3]
  simp only [placeL,List.getElem_map,List.getElem_range]
  rw [h4,←h6]
  omega
end Go.Proofs.YtigkeokacagabagGreatDoor
namespace Go.Proofs.YtigkeokacagabagGreatDoor
open Go.ChangeShapes Go.WideShapes Go.ChangeAt Go.RowKit
set_option maxRecDepth 20000
def PlAt (w:World) (A:Option Addr) (cap:Nat) (L:List Int):Prop:=L.length≤cap∧(L=[]∨∃ b o,A=some ⟨b,o,none⟩∧b<w.heap.size∧∀ j,j<L.length→w.cell? ⟨b,o+j,none⟩=some (.int .i64 (L.getD j 0)))
theorem PlAt.later {w w':World} {A:Option Addr} {cap:Nat} {L:List Int} (h:PlAt w A cap L) (hB:Below w.heap.size w w'):PlAt w' A cap L:=by
 obtain ⟨h1,h2 | ⟨b,o,h2,h3,h4⟩⟩:=h
 ·exact ⟨h1,Or.inl h2⟩
 ·exact ⟨h1,Or.inr ⟨b,o,h2,Nat.lt_of_lt_of_le h3 hB.size,fun j hj=>(hB.cell (p:=⟨b,o+j,none⟩) h3).trans (h4 j hj)⟩⟩
def IntB (w:World) (g:Nat) (L:List Int):Prop:=w.heap[g]?=some (.cells (L.map (Value.int .i64)).toArray 3 (0,0))
theorem IntB.lt {w:World} {g:Nat} {L:List Int} (h:IntB w g L):g<w.heap.size:=(Array.getElem?_eq_some_iff.1 h).1
theorem IntB.cell {w:World} {g:Nat} {L:List Int} (h:IntB w g L) {j:Nat} (hj:j<L.length):w.cell? ⟨g,j,none⟩=some (.int .i64 (L.getD j 0)):=by
 rw [Lib.cell_of_heap h]
 simp [List.getD,hj]
theorem IntB.frozen {w:World} {g:Nat} {L:List Int} (h:IntB w g L) (j:Nat):w.frozen? ⟨g,j,none⟩=false:=Lib.frozen_of_heap h j
theorem IntB.later {w w':World} {g:Nat} {L:List Int} (h:IntB w g L) (hB:Below w.heap.size w w'):IntB w' g L:=(hB.block g h.lt).trans h
theorem IntB.set {w:World} {g:Nat} {L:List Int} (h:IntB w g L) (j:Nat) (x:Int):IntB (w.setCell ⟨g,j,none⟩ (.int .i64 x)) g (L.set j x):=by
 unfold IntB at *
 have e:(L.set j x).map (Value.int .i64)=(L.map (Value.int .i64)).set j (.int .i64 x):=by rw [List.map_set]
 simp [World.setCell,Array.getElem?_modify,h,e]
theorem made_ints (n:Nat):madeCells #[.int .i64 0] n=((List.replicate n (0:Int)).map (Value.int .i64)).toArray:=by
 apply Array.ext
 ·simp [madeCells]
 ·intro i h1 h2
  simp [madeCells,Nat.mod_one]
theorem IntB.made (w:World) (n:Nat):IntB (w.alloc (.cells (madeCells #[.int .i64 0] n) 3)) w.heap.size (List.replicate n 0):=by
 unfold IntB
 rw [made_ints]
 exact heap_alloc_new w _
theorem Tryz.infoIntP:(Tryz.prog.info? 3).map (fun i=>(i.zero,i.size,i.bytes))=some (some (.int .i64 0),1,8):=by kernel_rfl
theorem checko_any (A0:Option Addr) (cap n:Nat) (D:Nat→Dm) (A:Nat→Option Addr) (C:Nat→Nat) (w:World) (hM:DimsV w A0 cap n D A C):Calls Tryz.prog 73 #[.agg #[.slice A0 n cap]] w fun e w'=>e=.returned (errV (allErr D n).2.2)∧Below w.heap.size w w':=by
 have hB0:=ownOut_below w A0 n cap 29
 have h:=all_any A0 cap n D A C (ownOut w A0 n cap 29) (hM.later hB0)
 have HB0:Hid (Below w.heap.size w (ownOut w A0 n cap 29)):=hB0
 clear hM hB0
 generalize errV (allErr D n).2.2=v at h
 generalize (allErr D n).1=x at h
 generalize (allErr D n).2.1=y at h
 go_enter Tryz.func73,Tryz.ntmps73
 go_wp2_with fail
 refine h.mono ?_
 rintro e w1 ⟨rfl,hb1⟩
 go_wp2_with fail
 go_ret
 exact ⟨rfl,onB HB0.out hb1⟩
def cellsV (D:Nat→Dm) (n:Nat):Int:=if (allErr D n).2.2=0 then (prodN D n:Int) else 0
set_option maxHeartbeats 2000000 in
theorem pcells_any (A0:Option Addr) (cap n:Nat) (D:Nat→Dm) (A:Nat→Option Addr) (C:Nat→Nat) (w:World) (hM:DimsV w A0 cap n D A C):Calls Tryz.prog 37 #[.agg #[.slice A0 n cap]] w fun e w'=>e=.returned (.tuple #[.int .i64 (cellsV D n),errV (allErr D n).2.2])∧Below w.heap.size w w':=by
 have hB0:=ownOut_below w A0 n cap 29
 have h:=checko_any A0 cap n D A C (ownOut w A0 n cap 29) (hM.later hB0)
 have HB0:Hid (Below w.heap.size w (ownOut w A0 n cap 29)):=hB0
 have HM:Hid (DimsV w A0 cap n D A C):=hM
 clear hM hB0
 by_cases he:(allErr D n).2.2=0
 ·obtain ⟨hn1,hn4,-,hd⟩:=allErr_some he
  have HV:Hid (cellsV D n=(prodN D n:Int)):=by show _=_;unfold cellsV;rw [if_pos he]
  have HE:Hid (errV (allErr D n).2.2=.nilIface):=by show _=_;rw [he];rfl
  rw [he,errV_zero] at h
  have HD:Hid (∀ i,i<n→1≤(D i).n∧(D i).n≤12):=hd
  have hn':(n:Int)≤4:=by omega
  clear he hd
  go_enter Tryz.func37,Tryz.ntmps37
  go_wp2_with fail
  refine h.mono ?_
  rintro e w1 ⟨rfl,hb1⟩
  have hB:Below w.heap.size w w1:=onB HB0.out hb1
  have h2:w1.cell? ⟨w.heap.size,0,none⟩=some (.slice A0 n cap):=(hb1.cell (p:=⟨w.heap.size,0,none⟩) (by show w.heap.size<_;rw [ownOut_size];omega)).trans (ownOut_at ..)
  obtain ⟨hcap,h0 | ⟨b,o,rfl,hMs⟩⟩:=HM.out.later hB
  ·omega
  have HMs:Hid (DimsAt w1 b o n D A C):=hMs
  have HB:Hid (Below w.heap.size w w1):=hB
  clear hb1 h hMs hB
  go_wp2_with fail
  go_loopg [5,16] n (fun g s5 s16 wr => ∃ (k:Nat),k≤n∧g=n-k∧s16=.int .i64 k∧s5=.int .i64 (prodN D k)∧Below w1.heap.size w1 wr)
  case atStart=>exact ⟨0,Nat.zero_le _,rfl,rfl,rfl,Below.refl _ _⟩
  case round =>
   obtain ⟨k,hk,rfl,rfl,rfl,hBw⟩:=hrel
   by_cases hlt:k<n
   ·obtain ⟨h0,h1,h3,-⟩:=(HMs.out.later hBw).2 k hlt
    have hki:(k:Int)<(n:Int):=by omega
    have hp1:prodN D (k+1)≤20736:=prod_small (fun j hj=>(HD.out j (by omega)).2) (by omega)
    have hp2:(prodN D (k+1):Int)=(prodN D k:Int)*((D k).n:Int):=by rw [prodN];exact Int.natCast_mul _ _
    have hp3:0≤(prodN D k:Int)*((D k).n:Int):=by omega
    have hp4:(prodN D k:Int)*((D k).n:Int)≤20736:=by omega
    have HW:Hid (Below w1.heap.size w1 wr):=hBw
    have HP:Hid ((prodN D (k+1):Int)=(prodN D k:Int)*((D k).n:Int)):=hp2
    clear hBw hp1 hp2
    go_wp2_with fail
    go_roundg (n-(k+1))
    case measure=>omega
    case rel=>exact ⟨k+1,by omega,rfl,by go_num,by rw [HP.out],onB HW.out (by go_grown)⟩
   ·have hke:k=n:=by omega
    subst hke
    go_wp2_with fail
    go_ret2
    rw [HV.out,HE.out]
    exact ⟨rfl,onB HB.out hBw⟩
 ·have HV:Hid (cellsV D n=0):=by show _=_;unfold cellsV;rw [if_neg he]
  have HE:Hid (errV (allErr D n).2.2=.iface 83 (.int .i64 (allErr D n).2.2)):=errV_some he
  rw [errV_some he] at h
  clear he
  generalize (allErr D n).2.2=c at h HE
  go_enter Tryz.func37,Tryz.ntmps37
  go_wp2_with fail
  refine h.mono ?_
  rintro e w1 ⟨rfl,hb1⟩
  go_wp2_with fail
  go_ret2
  rw [HV.out,HE.out]
  exact ⟨rfl,onB HB0.out hb1⟩
end Go.Proofs.YtigkeokacagabagGreatDoor
namespace Go.Proofs.YtigkeokacagabagGreatDoor
def stepTo (D:Nat→Dm) (dim:Nat):Nat→Nat
 | 0=>1
 | t+1=>stepTo D dim t*(D (dim+1+t)).n
def stepD (D:Nat→Dm) (n dim:Nat):Nat:=stepTo D dim (n-1-dim)
theorem stepTo_front (D:Nat→Dm) (dim:Nat):∀ t,stepTo D dim (t+1)=(D (dim+1)).n*stepTo D (dim+1) t
 | 0=>by simp [stepTo]
 | t+1=>by
  rw [stepTo,stepTo_front D dim t,stepTo,Nat.mul_assoc,show dim+1+(t+1)=dim+1+1+t by omega]
theorem rest_step (D:Nat→Dm) (m x:Nat):∀ r,r<m→restAt D m x r=x / stepTo D (m-1-r) r
 | 0,_=>by simp [restAt,stepTo]
 | r+1,h=>by
  rw [restAt,rest_step D m x r (by omega),Nat.div_div_eq_div_mul,stepTo_front,show m-1-(r+1)+1=m-1-r by omega,Nat.mul_comm]
theorem digit_step {D:Nat→Dm} {n x k:Nat} (hk:k<n):digitAt D n x k=x / stepD D n k % (D k).n:=by
 unfold digitAt stepD
 rw [rest_step D n x _ (by omega),show n-1-(n-1-k)=k by omega]
theorem stepTo_pos {D:Nat→Dm} {dim:Nat}:∀ t,(∀ j,j<dim+1+t→1≤(D j).n)→1≤stepTo D dim t
 | 0,_=>Nat.le_refl _
 | t+1,h=>by
  rw [stepTo]
  exact Nat.mul_le_mul (stepTo_pos t fun j hj=>h j (by omega)) (h (dim+1+t) (by omega))
theorem stepD_pos {D:Nat→Dm} {n dim:Nat} (h:∀ j,j<n→1≤(D j).n) (hd:dim<n):1≤stepD D n dim:=stepTo_pos _ fun j hj=>h j (by omega)
theorem part_place {D:Nat→Dm} {n dim m x j:Nat} (hp:∀ i,i<n→1≤(D i).n) (hd:dim<n) (hx:x<prodN D n) (hm:x / stepD D n dim % (D dim).n=m) (hj:j<(D dim).n) :
  ∃ y:Nat,(x:Int)+((j:Int)-(m:Int))*(stepD D n dim:Int)=y∧y<prodN D n∧y / stepD D n dim % (D dim).n=j∧∀ i,i<n→i≠dim→digitAt D n y i=digitAt D n x i:=by
 have hS:=stepD_pos hp hd
 have hdn:=hp dim hd
 have hlt:∀ i,i<n→digitAt D n x i<(D i).n:=fun i hi=>digit_lt (hp i hi)
 obtain ⟨P,hP⟩:∃ P:Nat→Nat,P=fun i=>if i=dim then j else digitAt D n x i:=⟨_,rfl⟩
 have hPlt:∀ i,i<n→P i<(D i).n:=fun i hi=>by
  rw [hP]
  simp only
  split
  ·rename_i h;rw [h];exact hj
  ·exact hlt i hi
 have hy:=numTo_lt n hPlt
 have hdig:∀ i,i<n→digitAt D n (numTo D P n) i=P i:=fun i hi=>digit_num hPlt hi
 refine ⟨numTo D P n,?_,hy,?_,fun i hi hne=>?_⟩
 ·have h1:∀ k,k≤n→(numTo D P k:Int)=(numTo D (digitAt D n x) k:Int)+(if dim<k then ((j:Int)-(m:Int))*(stepTo D dim (k-1-dim):Int) else 0):=by
   intro k
   induction k with
   | zero=>intro _;simp [numTo]
   | succ k ih =>
    intro hk
    rw [numTo,numTo]
    have ih':=ih (by omega)
    rcases Nat.lt_trichotomy dim k with h | h | h
    ·rw [if_pos h] at ih'
     rw [if_pos (by omega)]
     have e:P k=digitAt D n x k:=by rw [hP];simp only;rw [if_neg (by omega)]
     rw [e,show k+1-1-dim=(k-1-dim)+1 by omega,stepTo,show dim+1+(k-1-dim)=k by omega]
     push_cast
     rw [ih',Int.add_mul,Int.mul_assoc]
     omega
    ·subst h
     rw [if_neg (by omega),Int.add_zero] at ih'
     rw [if_pos (by omega)]
     have e:P dim=j:=by rw [hP];simp
     have e2:digitAt D n x dim=m:=by rw [digit_step hd,hm]
     rw [e,e2,show dim+1-1-dim=0 by omega,stepTo]
     push_cast
     rw [ih']
     omega
    ·rw [if_neg (by omega),Int.add_zero] at ih'
     rw [if_neg (by omega)]
     have e:P k=digitAt D n x k:=by rw [hP];simp only;rw [if_neg (by omega)]
     rw [e]
     push_cast
     rw [ih']
     omega
  have h2:=h1 n (Nat.le_refl _)
  rw [if_pos hd,num_back hx] at h2
  rw [h2]
  rfl
 ·have h3:=hdig dim hd
  rw [digit_step hd] at h3
  rw [h3,hP]
  simp
 ·rw [hdig i hi,hP]
  simp [hne]
end Go.Proofs.YtigkeokacagabagGreatDoor
namespace Go.Proofs.YtigkeokacagabagGreatDoor
open Go.ChangeShapes Go.WideShapes Go.ChangeAt Go.RowKit
set_option maxRecDepth 20000
set_option maxHeartbeats 2000000 in
theorem anydim_any (fn q r:Nat) (he:EntersO fn) (A0:Option Addr) (n cap:Nat) (p:Nat→Bool) (w:World) (hn:n≤4) (hp:AskP fn q r w n p):Calls Tryz.prog 74 #[.agg #[.slice A0 n cap],.func (.func fn) #[] #[.pointer (some ⟨q,0,none⟩),.pointer (some ⟨r,0,none⟩)]] w fun e w'=>e=.returned (.bool (decide (0≤findFrom p n 0)))∧Below w.heap.size w w':=by
 have HP:Hid (AskP fn q r w n p):=hp
 have hn':(n:Int)≤4:=by omega
 clear hp
 unfold EntersO at he
 go_enter Tryz.func74,Tryz.ntmps74
 go_wp2_with fail
 go_loopg [5,9] n (fun g s5 s9 wr => ∃ (k:Nat),k≤n∧g=n-k∧s9=.int .i64 k∧findFrom p (n-k) k=findFrom p n 0∧Below w.heap.size w wr)
 case atStart=>exact ⟨0,Nat.zero_le _,rfl,rfl,rfl,by go_grown⟩
 case round =>
  obtain ⟨k,hk,rfl,rfl,hf,hBw⟩:=hrel
  have HF:Hid (findFrom p (n-k) k=findFrom p n 0):=hf
  have HW:Hid (Below w.heap.size w wr):=hBw
  by_cases hlt:k<n
  ·have hki:(k:Int)<(n:Int):=by omega
   have HSK:Hid (n-k=(n-(k+1))+1):=by show _=_;omega
   have hbd:=HP.out k wr hlt hBw
   clear hf hBw
   cases hb:p k
   ·rw [hb] at hbd
    have HK:Hid (p k=false):=hb
    clear hb
    go_wp2_with fail
    refine hbd.mono ?_
    rintro e w1 ⟨rfl,hb1⟩
    go_wp2_with fail
    go_roundg (n-(k+1))
    case measure=>omega
    case rel=>exact ⟨k+1,by omega,rfl,by go_num,by rw [←HF.out,HSK.out,findFrom_miss _ HK.out],onB HW.out hb1⟩
   ·rw [hb] at hbd
    have HK:Hid (p k=true):=hb
    clear hb
    go_wp2_with fail
    refine hbd.mono ?_
    rintro e w1 ⟨rfl,hb1⟩
    go_wp2_with fail
    go_ret
    exact ⟨by rw [←HF.out,HSK.out,findFrom_hit _ HK.out,decide_eq_true (by omega)];rfl,onB HW.out hb1⟩
  ·have hke:k=n:=by omega
   subst hke
   clear hf hBw
   go_wp2_with fail
   go_ret
   exact ⟨by rw [←HF.out,Nat.sub_self];rfl,HW.out⟩
def ownOP (w:World) (A0:Option Addr) (n cap:Nat) (Ap:Option Addr) (m cp T T':Nat):World:=(ownOut w A0 n cap T).alloc (.cells #[.slice Ap m cp] T')
theorem ownOP_size (w:World) (A0:Option Addr) (n cap:Nat) (Ap:Option Addr) (m cp T T':Nat):(ownOP w A0 n cap Ap m cp T T').heap.size=w.heap.size+2:=by unfold ownOP;simp [ownOut_size]
theorem ownOP_below (w:World) (A0:Option Addr) (n cap:Nat) (Ap:Option Addr) (m cp T T':Nat):Below w.heap.size w (ownOP w A0 n cap Ap m cp T T'):=by unfold ownOP ownOut;go_grown
theorem ownOP_o (w:World) (A0:Option Addr) (n cap:Nat) (Ap:Option Addr) (m cp T T':Nat):(ownOP w A0 n cap Ap m cp T T').cell? ⟨w.heap.size,0,none⟩=some (.slice A0 n cap):=by
 unfold ownOP
 rw [World.cell?_alloc_lt _ _ ⟨w.heap.size,0,none⟩ (by rw [ownOut_size];exact Nat.lt_succ_self _)]
 exact ownOut_at ..
theorem ownOP_p (w:World) (A0:Option Addr) (n cap:Nat) (Ap:Option Addr) (m cp T T':Nat):(ownOP w A0 n cap Ap m cp T T').cell? ⟨w.heap.size+1,0,none⟩=some (.slice Ap m cp):=by
 unfold ownOP
 rw [←ownOut_size w A0 n cap T]
 simp
theorem pcheck1_in:EntersO 75:=fun args w=>by simp [callFunc,Tryz.func75];rfl
set_option maxHeartbeats 2000000 in
theorem pcheck1_any (b o n cap k q r bp op cp:Nat) (D:Nat→Dm) (A:Nat→Option Addr) (C:Nat→Nat) (x:Int) (w:World) (hk:k<n) (hn:n≤4) (hd:(D k).n≤12) (hM:DimsAt w b o n D A C) (hx:w.cell? ⟨bp,op+k,none⟩=some (.int .i64 x)) (hq:w.cell? ⟨q,0,none⟩=some (.slice (some ⟨bp,op,none⟩) n cp)) (hr:w.cell? ⟨r,0,none⟩=some (.slice (some ⟨b,o,none⟩) n cap)) :
  Calls Tryz.prog 75 #[.int .i64 k,.pointer (some ⟨q,0,none⟩),.pointer (some ⟨r,0,none⟩)] w fun e w'=>e=.returned (.bool (decide (x<0) || decide (((D k).n:Int)≤x)))∧Below w.heap.size w w':=by
 obtain ⟨-,-,h3,-⟩:=hM.2 k hk
 have hki:(k:Int)<(n:Int):=by omega
 have hn':(n:Int)≤4:=by omega
 generalize (D k).n=m at h3 hd
 have hm:(m:Int)≤12:=by omega
 clear hM
 by_cases hx0:x<0
 ·rw [decide_eq_true hx0]
  go_enter Tryz.func75,Tryz.ntmps75
  go_wp2_with fail
  go_quiet (fail)
  go_wp2_with fail
  go_ret
  exact ⟨by simp,below_drewN (Below.refl _ _) _⟩
 ·rw [decide_eq_false hx0]
  have hx1:0≤x:=by omega
  have hxd:decide (x<0)=false:=decide_eq_false hx0
  go_enter Tryz.func75,Tryz.ntmps75
  go_wp2_with fail
  go_quiet (fail)
  go_wp2_with fail
  go_ret
  exact ⟨by simp,below_drewN (Below.refl _ _) _⟩
set_option maxHeartbeats 4000000 in
theorem pcheck_any (A0:Option Addr) (cap n:Nat) (D:Nat→Dm) (A:Nat→Option Addr) (C:Nat→Nat) (Ap:Option Addr) (cp:Nat) (L:List Int) (w:World) (hM:DimsV w A0 cap n D A C) (hP:PlAt w Ap cp L):Calls Tryz.prog 39 #[.agg #[.slice A0 n cap],.slice Ap L.length cp] w fun e w'=>e=.returned (errV (placeErr D n L))∧Below w.heap.size w w':=by
 have hB0:=ownOP_below w A0 n cap Ap L.length cp 29 44
 have h:=checko_any A0 cap n D A C (ownOP w A0 n cap Ap L.length cp 29 44) (hM.later hB0)
 have HB0:Hid (Below w.heap.size w (ownOP w A0 n cap Ap L.length cp 29 44)):=hB0
 have HM:Hid (DimsV w A0 cap n D A C):=hM
 have HP:Hid (PlAt w Ap cp L):=hP
 clear hM hB0 hP
 by_cases he:(allErr D n).2.2=0
 ·obtain ⟨hn1,hn4,-,hd⟩:=allErr_some he
  have HE:Hid (placeErr D n L=shapeErr D n L):=pe1 he
  rw [he,errV_zero] at h
  have HD:Hid (∀ i,i<n→1≤(D i).n∧(D i).n≤12):=hd
  have hn':(n:Int)≤4:=by omega
  clear he hd
  by_cases hl:L.length=n
  ·have hle:((L.length:Int) == (n:Int))=true:=by simp [hl]
   have HL:Hid (L.length=n):=hl
   obtain ⟨hcp,h0 | ⟨bp,op,rfl,hbp,hcell⟩⟩:=HP.out
   ·rw [h0] at hl;simp at hl;omega
   rw [hl] at h HB0 hcp hle
   rw [hl]
   have HC:Hid (∀ j,j<n→w.cell? ⟨bp,op+j,none⟩=some (.int .i64 (L.getD j 0))):=fun j hj=>hcell j (by omega)
   clear hl hcell
   go_enter Tryz.func39,Tryz.ntmps39
   go_wp2_with fail
   refine h.mono ?_
   rintro e w1 ⟨rfl,hb1⟩
   have hB:Below w.heap.size w w1:=onB HB0.out hb1
   have hz:w.heap.size+1<w1.heap.size:=by have:=hb1.size;rw [ownOP_size] at this;omega
   have ho:w1.cell? ⟨w.heap.size,0,none⟩=some (.slice A0 n cap):=(hb1.cell (p:=⟨w.heap.size,0,none⟩) (by show w.heap.size<_;rw [ownOP_size];omega)).trans (ownOP_o ..)
   have hp:w1.cell? ⟨w.heap.size+1,0,none⟩=some (.slice (some ⟨bp,op,none⟩) n cp):=(hb1.cell (p:=⟨w.heap.size+1,0,none⟩) (by show w.heap.size+1<_;rw [ownOP_size];omega)).trans (ownOP_p ..)
   obtain ⟨hcap,h0 | ⟨b,o,rfl,hMs⟩⟩:=HM.out.later hB
   ·omega
   have hany:=anydim_any 75 (w.heap.size+1) w.heap.size pcheck1_in (some ⟨b,o,none⟩) n cap (outP D L) w1 hn4 (fun j w' hj hw'=>pcheck1_any b o n cap j (w.heap.size+1) w.heap.size bp op cp D A C (L.getD j 0) w' hj hn4 (HD.out j hj).2 (hMs.later hw') (((onB hB hw').cell (p:=⟨bp,op+j,none⟩) hbp).trans (HC.out j hj)) ((hw'.cell (p:=⟨w.heap.size+1,0,none⟩) hz).trans hp) ((hw'.cell (p:=⟨w.heap.size,0,none⟩) (by show w.heap.size<_;omega)).trans ho))
   have HB:Hid (Below w.heap.size w w1):=hB
   clear hb1 h hMs hB
   by_cases hf:0≤findFrom (outP D L) n 0
   ·rw [decide_eq_true hf] at hany
    have HR:Hid (placeErr D n L=1):=by show _=_;rw [HE.out,sh1 HL.out hf]
    clear hf
    go_wp2_with fail
    refine hany.mono ?_
    rintro e w2 ⟨rfl,hb2⟩
    go_wp2_with fail
    go_ret
    exact ⟨by rw [HR.out];rfl,onB HB.out hb2⟩
   ·rw [decide_eq_false hf] at hany
    have HR:Hid (placeErr D n L=0):=by show _=_;rw [HE.out,sh2 HL.out hf]
    clear hf
    go_wp2_with fail
    refine hany.mono ?_
    rintro e w2 ⟨rfl,hb2⟩
    go_wp2_with fail
    go_ret
    exact ⟨by rw [HR.out];rfl,onB HB.out hb2⟩
  ·have hle:((L.length:Int) == (n:Int))=false:=by simp;omega
   have HR:Hid (placeErr D n L=3):=by show _=_;rw [HE.out,sh0 hl]
   generalize L.length=m at h hle HB0
   clear hl
   go_enter Tryz.func39,Tryz.ntmps39
   go_wp2_with fail
   refine h.mono ?_
   rintro e w1 ⟨rfl,hb1⟩
   have ho:w1.cell? ⟨w.heap.size,0,none⟩=some (.slice A0 n cap):=(hb1.cell (p:=⟨w.heap.size,0,none⟩) (by show w.heap.size<_;rw [ownOP_size];omega)).trans (ownOP_o ..)
   have hp:w1.cell? ⟨w.heap.size+1,0,none⟩=some (.slice Ap m cp):=(hb1.cell (p:=⟨w.heap.size+1,0,none⟩) (by show w.heap.size+1<_;rw [ownOP_size];omega)).trans (ownOP_p ..)
   have HB:Hid (Below w.heap.size w w1):=onB HB0.out hb1
   clear hb1 h
   go_wp2_with fail
   go_ret
   exact ⟨by rw [HR.out];rfl,HB.out⟩
 ·have HR:Hid (placeErr D n L=(allErr D n).2.2):=pe0 he
  have HE:Hid (errV (allErr D n).2.2=.iface 83 (.int .i64 (allErr D n).2.2)):=errV_some he
  rw [errV_some he] at h
  clear he
  generalize (allErr D n).2.2=c at h HE HR
  generalize L.length=m at h HB0
  go_enter Tryz.func39,Tryz.ntmps39
  go_wp2_with fail
  refine h.mono ?_
  rintro e w1 ⟨rfl,hb1⟩
  go_wp2_with fail
  go_ret
  exact ⟨by rw [HR.out,HE.out];rfl,onB HB0.out hb1⟩
set_option maxHeartbeats 4000000 in
theorem pnumber_any (A0:Option Addr) (cap n:Nat) (D:Nat→Dm) (A:Nat→Option Addr) (C:Nat→Nat) (Ap:Option Addr) (cp:Nat) (L:List Int) (w:World) (hM:DimsV w A0 cap n D A C) (hP:PlAt w Ap cp L):Calls Tryz.prog 14 #[.agg #[.slice A0 n cap],.slice Ap L.length cp] w fun e w'=>e=.returned (.tuple #[.int .i64 (numV D n L),errV (placeErr D n L)])∧Below w.heap.size w w':=by
 have hB0:=ownOut_below w A0 n cap 29
 have h:=pcheck_any A0 cap n D A C Ap cp L (ownOut w A0 n cap 29) (hM.later hB0) (hP.later hB0)
 have HB0:Hid (Below w.heap.size w (ownOut w A0 n cap 29)):=hB0
 have HM:Hid (DimsV w A0 cap n D A C):=hM
 have HP:Hid (PlAt w Ap cp L):=hP
 clear hM hB0 hP
 by_cases he:placeErr D n L=0
 ·have HI:Hid (InO D n L):=inO_of he
  have HV:Hid (numV D n L=numI D L n):=by show _=_;unfold numV;rw [if_pos he]
  have HE:Hid (errV (placeErr D n L)=.nilIface):=by show _=_;rw [he];rfl
  rw [he,errV_zero] at h
  obtain ⟨hn1,hn4,-,hd⟩:=allErr_some HI.out.right
  have HD:Hid (∀ i,i<n→1≤(D i).n∧(D i).n≤12):=hd
  have hn':(n:Int)≤4:=by omega
  have hl:=HI.out.len
  obtain ⟨hcp,h0 | ⟨bp,op,rfl,hbp,hcell⟩⟩:=HP.out
  ·rw [h0] at hl;simp at hl;omega
  rw [hl] at h hcp
  rw [hl]
  have HC:Hid (∀ j,j<n→w.cell? ⟨bp,op+j,none⟩=some (.int .i64 (L.getD j 0))):=fun j hj=>hcell j (by omega)
  clear he hd hl hcell
  go_enter Tryz.func14,Tryz.ntmps14
  go_wp2_with fail
  refine h.mono ?_
  rintro e w1 ⟨rfl,hb1⟩
  have hB:Below w.heap.size w w1:=onB HB0.out hb1
  have h2:w1.cell? ⟨w.heap.size,0,none⟩=some (.slice A0 n cap):=(hb1.cell (p:=⟨w.heap.size,0,none⟩) (by show w.heap.size<_;rw [ownOut_size];omega)).trans (ownOut_at ..)
  obtain ⟨hcap,h0 | ⟨b,o,rfl,hMs⟩⟩:=HM.out.later hB
  ·omega
  have HMs:Hid (DimsAt w1 b o n D A C):=hMs
  have HB:Hid (Below w.heap.size w w1):=hB
  clear hb1 h hMs hB
  go_wp2_with fail
  go_loopg [7,19] n (fun g s7 s19 wr => ∃ (k:Nat),k≤n∧g=n-k∧s19=.int .i64 k∧s7=.int .i64 (numI D L k)∧Below w1.heap.size w1 wr)
  case atStart=>exact ⟨0,Nat.zero_le _,rfl,rfl,rfl,Below.refl _ _⟩
  case round =>
   obtain ⟨k,hk,rfl,rfl,rfl,hBw⟩:=hrel
   have HW:Hid (Below w1.heap.size w1 wr):=hBw
   by_cases hlt:k<n
   ·obtain ⟨h0,h1,h3,-⟩:=(HMs.out.later hBw).2 k hlt
    have hki:(k:Int)<(n:Int):=by omega
    have hcx:wr.cell? ⟨bp,op+k,none⟩=some (.int .i64 (L.getD k 0)):=((onB HB.out hBw).cell (p:=⟨bp,op+k,none⟩) hbp).trans (HC.out k hlt)
    have hcx':∀ o1,(wr.alloc o1).cell? ⟨bp,op+k,none⟩=some (.int .i64 (L.getD k 0)):=fun o1=>(World.cell?_alloc_lt _ _ ⟨bp,op+k,none⟩ (World.block_lt_of_cell? _ _ hcx)).trans hcx
    obtain ⟨hb1,hb2,hb3⟩:=numI_bound HI.out (k:=k+1) (by omega)
    obtain ⟨hb4,hb5,hb6⟩:=numI_bound HI.out (k:=k) (by omega)
    have hx0:=HI.out.lo k hlt
    have hx1:=HI.out.hi k hlt
    obtain ⟨hd1,hd2⟩:=HD.out k hlt
    have HN:Hid (numI D L (k+1)=numI D L k*((D k).n:Int)+L.getD k 0):=rfl
    rw [HN.out] at hb1 hb2
    generalize L.getD k 0=x at hcx hcx' hb1 hb2 hx0 hx1 HN
    generalize (D k).n=m at h3 hb1 hb2 hd1 hd2 hx1 HN
    generalize numI D L k=y at hb1 hb2 hb4 hb5 HN
    have hm0:0≤y*(m:Int):=Int.mul_nonneg hb4 (by omega)
    have hm1:y*(m:Int)≤20736:=by omega
    have hm2:y*(m:Int)+x≤20736:=by omega
    clear hBw hb2 hb5
    go_wp2_with fail
    go_quiet (fail)
    go_wp2_with fail
    go_roundg (n-(k+1))
    case measure=>omega
    case rel=>exact ⟨k+1,by omega,rfl,by go_num,by rw [HN.out],below_drewN (HW.out.alloc (by have:=HW.out.size;omega) _) _⟩
   ·have hke:k=n:=by omega
    subst hke
    go_wp2_with fail
    go_ret2
    rw [HV.out,HE.out]
    exact ⟨rfl,onB HB.out HW.out⟩
 ·have HV:Hid (numV D n L=0):=by show _=_;unfold numV;rw [if_neg he]
  have HE:Hid (errV (placeErr D n L)=.iface 83 (.int .i64 (placeErr D n L))):=errV_some he
  rw [errV_some he] at h
  clear he
  generalize placeErr D n L=c at h HE
  generalize L.length=m at h
  go_enter Tryz.func14,Tryz.ntmps14
  go_wp2_with fail
  refine h.mono ?_
  rintro e w1 ⟨rfl,hb1⟩
  go_wp2_with fail
  go_ret2
  rw [HV.out,HE.out]
  exact ⟨rfl,onB HB0.out hb1⟩
theorem own_low {w:World} {b b' e size n:Nat} {v:Value} {xs:List Value} (h:w.ownsRow b e size v n xs) (hb:b'≤b):w.ownsRow b' e size v n xs:=by
 refine ⟨h.1,?_⟩
 rcases h.2 with h0 | ⟨g,cap,cur,h1,h2,h3⟩
 ·exact Or.inl h0
 ·exact Or.inr ⟨g,cap,cur,h1,Nat.le_trans hb h2,h3⟩
set_option maxHeartbeats 2000000 in
theorem places_own (fn q r:Nat) (he:EntersO fn) (A:Option Addr) (n cap:Nat) (p:Nat→Bool) (w:World) (hn:n≤12) (hp:AskP fn q r w n p):Calls Tryz.prog 218 #[.slice A n cap,.func (.func fn) #[] #[.pointer (some ⟨q,0,none⟩),.pointer (some ⟨r,0,none⟩)]] w fun e w'=>(∃ v,e=.returned v∧w'.ownsRow w.heap.size 3 1 v (selTo p n).length (mapI (selTo p n)))∧Below w.heap.size w w':=by
 obtain ⟨i0,hi0,hz0,hz1,hz2⟩:=info_parts Tryz.infoInt
 have HP:Hid (AskP fn q r w n p):=hp
 have hn':(n:Int)≤12:=by omega
 clear hp
 unfold EntersO at he
 go_enter Tryz.func218,Tryz.ntmps218
 go_wp2_with fail
 go_loopg [5,9] n (fun g s5 s9 wr => ∃ (k:Nat),k≤n∧g=n-k∧s9=.int .i64 k∧wr.ownsRow w.heap.size 3 1 s5 (selTo p k).length (mapI (selTo p k))∧Below w.heap.size w wr)
 case atStart=>exact ⟨0,Nat.zero_le _,rfl,rfl,World.ownsRow_nil _ _ _ _,Below.refl _ _⟩
 case round =>
  obtain ⟨k,hk,rfl,rfl,hown,hBw⟩:=hrel
  have HW:Hid (Below w.heap.size w wr):=hBw
  have HO:Hid (wr.ownsRow w.heap.size 3 1 _ (selTo p k).length (mapI (selTo p k))):=hown
  by_cases hlt:k<n
  ·have hki:(k:Int)<(n:Int):=by omega
   have hbd:=HP.out k wr hlt hBw
   clear hBw hown
   cases hb:p k
   ·rw [hb] at hbd
    have HK:Hid (p k=false):=hb
    clear hb
    go_wp2_with fail
    refine hbd.mono ?_
    rintro e w1 ⟨rfl,hb1⟩
    go_wp2_with fail
    go_roundg (n-(k+1))
    case measure=>omega
    case rel=>exact ⟨k+1,by omega,rfl,by go_num,by rw [selTo_miss HK.out];exact own_later HO.out hb1,onB HW.out hb1⟩
   ·rw [hb] at hbd
    have HK:Hid (p k=true):=hb
    have hlen:=selTo_len p k
    clear hb
    go_wp2_with fail
    refine hbd.mono ?_
    rintro e w1 ⟨rfl,hb1⟩
    have hown:=own_later HO.out hb1
    have hB1:=onB HW.out hb1
    have hsz:=hB1.size
    have HB1:Hid (Below w.heap.size w w1):=hB1
    clear hb1 hB1
    go_wp2_with (at_builtin;refine wpList_append_own _ rfl _ _ 38 rfl w.heap.size 3 i0 (.int .i64 0) 1 8 Tryz.underlying38 hi0 hz0 hz1 hz2 rfl (by decide) _ _ _ rfl (hown.alloc _) ⟨w1.heap.size,0,none⟩ 1 1 [.int .i64 k] rfl rfl one_cell one_one (by unfold maxLen;omega) (by omega) (by simp;omega) ?_)
    intro v' w2 hown' hgrow _
    have HB2:Hid (Below w.heap.size w w2):=grown_own HB1.out hown hgrow
    have HO2:Hid (w2.ownsRow w.heap.size 3 1 v' (selTo p (k+1)).length (mapI (selTo p (k+1)))):=by
     show World.ownsRow ..
     rw [selTo_hit HK.out,mapI_snoc,List.length_append];exact hown'
    clear hown' hgrow hown
    go_wp2_with fail
    go_roundg (n-(k+1))
    case measure=>omega
    case rel=>exact ⟨k+1,by omega,rfl,by go_num,HO2.out,HB2.out⟩
  ·have hke:k=n:=by omega
   subst hke
   clear hBw hown
   go_wp2_with fail
   go_ret
   exact ⟨⟨_,rfl,HO.out⟩,HW.out⟩
set_option maxHeartbeats 2000000 in
theorem parts_own (d:Dm) (A:Option Addr) (cap:Nat) (k:Nat) (w:World) (hd:(dimErr d).2=0) (hk:k<d.n) (hM:MemsV w A cap d.n d.mem):Calls Tryz.prog 191 #[dimV d A cap,.int .i64 k] w fun e w'=>(∃ v,e=.returned (.tuple #[v,.nilIface])∧w'.ownsRow w.heap.size 3 1 v (partsOf d.mem d.n k).length (mapI (partsOf d.mem d.n k)))∧Below w.heap.size w w':=by
 have hB0:=ownQ_below w d A cap k 43 3
 have hck:=tcheck_any d A cap _ 1 [(k:Int)] (ownQ w d A cap k 43 3) (hM.later hB0) (by simp) (ownQ_ints ..)
 have HB0:Hid (Below w.heap.size w (ownQ w d A cap k 43 3)):=hB0
 have HM:Hid (MemsV w A cap d.n d.mem):=hM
 unfold dimV at hck ⊢
 simp only [List.length_singleton] at hck
 clear hM hB0
 have he:treeErr d [(k:Int)]=0:=by rw [treeErr_one hd,if_neg (by omega)]
 ·rw [he,errV_zero] at hck
  obtain ⟨-,-,hd2,-⟩:=dimErr_right hd
  clear he hd
  go_enter Tryz.func191,Tryz.ntmps191
  go_wp2_with fail
  refine hck.mono ?_
  rintro e w1 ⟨rfl,hb1⟩
  have hB:Below w.heap.size w w1:=onB HB0.out hb1
  have hz:w.heap.size+1<w1.heap.size:=by have:=hb1.size;rw [ownQ_size] at this;omega
  have h2:w1.cell? ⟨w.heap.size,2,none⟩=some (.slice A d.n cap):=(hb1.cell (p:=⟨w.heap.size,2,none⟩) (by show w.heap.size<_;rw [ownQ_size];omega)).trans (ownQ_dim ..)
  have h3:w1.cell? ⟨w.heap.size+1,0,none⟩=some (.int .i64 k):=(hb1.cell (p:=⟨w.heap.size+1,0,none⟩) (by show w.heap.size+1<_;rw [ownQ_size];omega)).trans (ownQ_int ..)
  obtain ⟨hcap,h0 | ⟨b,o,rfl,hMs⟩⟩:=HM.out.later hB
  ·omega
  have hpl:=places_own 219 w.heap.size (w.heap.size+1) parts1_in (some ⟨b,o,none⟩) d.n cap (partB d.mem k) w1 hd2 (fun j w' hj hw'=>parts1_any b o d.n cap j w.heap.size (w.heap.size+1) d.mem k w' hj hd2 (hMs.later hw') ((hw'.cell (p:=⟨w.heap.size,2,none⟩) (by show w.heap.size<_;omega)).trans h2) ((hw'.cell (p:=⟨w.heap.size+1,0,none⟩) hz).trans h3))
  have HB:Hid (Below w.heap.size w w1):=hB
  clear hb1 hck hMs h3 hB
  go_wp2_with fail
  refine hpl.mono ?_
  rintro e w2 ⟨⟨v2,rfl,hO2⟩,hb2⟩
  have HO2:Hid (w2.ownsRow w1.heap.size 3 1 v2 (selTo (partB d.mem k) d.n).length (mapI (selTo (partB d.mem k) d.n))):=hO2
  have HB2:Hid (Below w.heap.size w w2):=onB HB.out hb2
  clear hO2 hb2 hpl
  go_wp2_with fail
  go_ret2
  exact ⟨⟨v2,rfl,own_low HO2.out HB.out.size⟩,HB2.out⟩
end Go.Proofs.YtigkeokacagabagGreatDoor
