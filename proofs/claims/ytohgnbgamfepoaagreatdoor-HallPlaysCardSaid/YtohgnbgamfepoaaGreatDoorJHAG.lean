/-
  The table of numbers of strings.IndexByte at this program; the place of a sign among the four.
-/
import Derived.Shelf.Small.Strs
import Derived.Shelf.Pu.Clone
import Derived.Lib.Strings
import Derived.Deep.OwnRows
import Derived.Lib.Builder
import Derived.Test.YtohgnbgamfepoaaGreatDoorJHAE
set_option maxHeartbeats 64000000
namespace Go.Proofs
open Go.Shelf
def Tryz.lays137_ren:Go.Shelf.Ren:=⟨fun | 137=>238 | 217=>253 | 266=>270 | n=>n,fun | 9=>9 | 5=>5 | 3=>3 | n=>n,fun | n=>n⟩
theorem Tryz.lays137:Go.Proofs.Lays.n137 Tryz.prog Tryz.lays137_ren:={
 mixed:=by kernel_rfl
 f137:=Tryz.func238.trans (congrArg some (by kernel_rfl))
 f217:=Tryz.func253.trans (congrArg some (by kernel_rfl))
 f266:=Tryz.func270.trans (congrArg some (by kernel_rfl))
 t3:=Tryz.underlying3
 a3:=Tryz.isAgg3
 z3:=Tryz.sizeOf3
 v3:=Tryz.zeroValue3
 t5:=Tryz.underlying5
 a5:=Tryz.isAgg5
 z5:=Tryz.sizeOf5
 v5:=Tryz.zeroValue5
 t9:=Tryz.underlying9
 a9:=Tryz.isAgg9
 z9:=Tryz.sizeOf9
 v9:=Tryz.zeroValue9 }
namespace YtohgnbgamfepoaaGreatDoor
open Go.ChangeShapes Go.WideShapes Go.ChangeAt Go.RowKit
theorem DG:∀ c:Fin 256,Lib.indexByte [43,45,42,47] c.val.toUInt8=signI (c.val:Int):=by decide +kernel
theorem Gt (c:Int) (a:0≤c) (b:c<256):Lib.indexByte [43,45,42,47] c.toNat.toUInt8=signI c:=by
 have h:=DG ⟨c.toNat,by omega⟩
 simp only at h;rw [h,show ((c.toNat:Nat):Int)=c by omega]
theorem pZ (c:Int) (a:0≤c) (b:c<256) (w:World):Rt 238 #[.string ⟨#[43,45,42,47]⟩,.int .u8 c] w (.int .i64 (signI c)) :=
 (Any.strings_IndexByte Tryz.lays137 ⟨#[43,45,42,47]⟩ c w).mono fun e w' ⟨d,f⟩=>⟨by rw [d,Gt c a b],by rw [f];exact zS⟩
theorem tQ (s:ByteArray) (i:Nat):0≤byteN s i∧byteN s i<256:=by
 unfold byteN;have:=(s.data.toList.getD i 0).toNat_lt
 omega
theorem m4 (s:ByteArray) (i:Nat):0≤nextB s i∧nextB s i<256:=by
 unfold nextB
 split
 ·omega
 exact tQ s i
end YtohgnbgamfepoaaGreatDoor
end Go.Proofs
namespace Go.Proofs
open Go.Shelf
def Tryz.laysK_ren:Go.Shelf.Ren:=⟨fun | 25=>82 | n=>n,fun | 0=>0 | 3=>3 | 4=>4 | 5=>5 | 9=>9 | 37=>198 | 47=>199 | n=>n,fun | n=>n⟩
theorem Tryz.laysK:Go.Proofs.LaysPu.n25 Tryz.prog Tryz.laysK_ren:={
 mixed:=by kernel_rfl
 f25:=Tryz.func82.trans (congrArg some (by kernel_rfl))
 t0:=Tryz.underlying0
 a0:=Tryz.isAgg0
 z0:=Tryz.sizeOf0
 v0:=Tryz.zeroValue0
 i0:=by kernel_rfl
 t3:=Tryz.underlying3
 a3:=Tryz.isAgg3
 z3:=Tryz.sizeOf3
 v3:=Tryz.zeroValue3
 i3:=by kernel_rfl
 t4:=Tryz.underlying4
 a4:=Tryz.isAgg4
 z4:=Tryz.sizeOf4
 v4:=Tryz.zeroValue4
 i4:=by kernel_rfl
 t5:=Tryz.underlying5
 a5:=Tryz.isAgg5
 z5:=Tryz.sizeOf5
 v5:=Tryz.zeroValue5
 i5:=by kernel_rfl
 t9:=Tryz.underlying9
 a9:=Tryz.isAgg9
 z9:=Tryz.sizeOf9
 v9:=Tryz.zeroValue9
 i9:=by kernel_rfl
 t37:=Tryz.underlying198
 a37:=Tryz.isAgg198
 z37:=Tryz.sizeOf198
 v37:=Tryz.zeroValue198
 i37:=by kernel_rfl
 t47:=Tryz.underlying199
 a47:=Tryz.isAgg199
 z47:=Tryz.sizeOf199
 v47:=Tryz.zeroValue199
 i47:=by kernel_rfl }
namespace YtohgnbgamfepoaaGreatDoor
open Go.ChangeShapes Go.WideShapes Go.ChangeAt Go.RowKit
theorem kM (s:ByteArray) (w:World) (b:s.size≤281474976710656):Rt 41 #[.string s] w (.string s):=by
 have h:=AnyPu.stringslite_Clone Tryz.laysK s w b
 go_enter Tryz.func41,Tryz.ntmps41
 go_wp2_with fail;refine Calls.mono h ?_;rintro e w1 ⟨rfl,a⟩;go_wp2_with fail;go_ret;exact ⟨rfl,a⟩
end YtohgnbgamfepoaaGreatDoor
end Go.Proofs
namespace Go.Proofs.YtohgnbgamfepoaaGreatDoor
def numTo (D:Nat→Dm) (P:Nat→Nat):Nat→Nat
 | 0=>0
 | k+1=>numTo D P k*(D k).n+P k
theorem uR {D:Nat→Dm} {P:Nat→Nat} (k:Nat) (h:∀ j,j<k→P j<(D j).n):numTo D P k<prodN D k:=by
 induction k with
 | zero=>exact Nat.one_pos
 | succ k ih =>
  have a:=ih fun j d=>h j (by omega)
  have c:=h k (by omega)
  rw [numTo,prodN];have b:(numTo D P k+1)*(D k).n≤prodN D k*(D k).n:=Nat.mul_le_mul_right _ a;rw [Nat.add_mul] at b
  omega
def restAt (D:Nat→Dm) (m n:Nat):Nat→Nat
 | 0=>n
 | r+1=>restAt D m n r / (D (m-1-r)).n
def bC (D:Nat→Dm) (m n k:Nat):Nat:=restAt D m n (m-1-k) % (D k).n
theorem yC {D:Nat→Dm} {P:Nat→Nat} {m:Nat} (h:∀ j,j<m→P j<(D j).n) (r:Nat):r≤m→restAt D m (numTo D P m) r=numTo D P (m-r):=by
 induction r with
 | zero=>intro _;rfl
 | succ r ih =>
  intro b;rw [restAt,ih (by omega)]
  have e:m-r=(m-1-r)+1:=by omega
  rw [e,numTo,show m-(r+1)=m-1-r by omega]
  have a:=h (m-1-r) (by omega)
  rw [Nat.mul_comm,Nat.mul_add_div (by omega),Nat.div_eq_of_lt a,Nat.add_zero]
theorem qU {D:Nat→Dm} {P:Nat→Nat} {m:Nat} (h:∀ j,j<m→P j<(D j).n) {k:Nat} (a:k<m):bC D m (numTo D P m) k=P k:=by
 unfold bC;rw [yC h _ (by omega),show m-(m-1-k)=k+1 by omega,numTo]
 have b:=h k a;rw [Nat.mul_comm,Nat.mul_add_mod,Nat.mod_eq_of_lt b]
theorem CH {D:Nat→Dm} {m n:Nat} (c:n<prodN D m) (k:Nat):k≤m→numTo D (bC D m n) k=restAt D m n (m-k):=by
 have b:∀ r,r≤m→restAt D m n r<prodN D (m-r):=by
  intro r
  induction r with
  | zero=>intro _;exact c
  | succ r ih =>
   intro g;have a:=ih (by omega)
   have e:m-r=(m-1-r)+1:=by omega
   rw [e,prodN] at a;rw [restAt,show m-(r+1)=m-1-r by omega]
   exact Nat.div_lt_of_lt_mul (by rw [Nat.mul_comm];exact a)
 induction k with
 | zero =>
  intro _;have a:=b m (zT);rw [Nat.sub_self] at a;have d:prodN D 0=1:=rfl;rw [numTo,Nat.sub_zero]
  omega
 | succ k ih =>
  intro f;rw [numTo,ih (by omega)]
  have e:m-k=(m-1-k)+1:=by omega
  rw [e,restAt,show m-1-(m-1-k)=k by omega,show m-(k+1)=m-1-k by omega]
  unfold bC;have:=Nat.div_add_mod (restAt D m n (m-1-k)) (D k).n;rw [Nat.mul_comm] at this;exact this
theorem uS {D:Nat→Dm} {m n:Nat} (a:n<prodN D m):numTo D (bC D m n) m=n:=by
 rw [CH a m (zT),Nat.sub_self];rfl
theorem t7 {D:Nat→Dm} {m n k:Nat} (h:1≤(D k).n):bC D m n k<(D k).n:=Nat.mod_lt _ h
def j9 (D:Nat→Dm) (L:List Int) (i:Nat):Bool:=decide (L.getD i 0<0) || decide (((D i).n:Int)≤L.getD i 0)
def shapeErr (D:Nat→Dm) (n:Nat) (L:List Int):Int:=if L.length≠n then 3 else if 0≤findFrom (j9 D L) n 0 then 1 else 0
def placeErr (D:Nat→Dm) (n:Nat) (L:List Int):Int:=if (am D n).2.2≠0 then (am D n).2.2 else shapeErr D n L
theorem KP {D:Nat→Dm} {n:Nat} {L:List Int} (h:L.length≠n):shapeErr D n L=3:=by unfold shapeErr;rw [if_pos h]
theorem KC {D:Nat→Dm} {n:Nat} {L:List Int} (h:L.length=n) (a:0≤findFrom (j9 D L) n 0):shapeErr D n L=1:=by unfold shapeErr;rw [if_neg (by simpa using h),if_pos a]
theorem KD {D:Nat→Dm} {n:Nat} {L:List Int} (h:L.length=n) (a : ¬ 0≤findFrom (j9 D L) n 0):shapeErr D n L=0:=by unfold shapeErr;rw [if_neg (by simpa using h),if_neg a]
theorem KX {D:Nat→Dm} {n:Nat} {L:List Int} (h:(am D n).2.2≠0):placeErr D n L=(am D n).2.2:=by unfold placeErr;rw [if_pos h]
theorem D6 {D:Nat→Dm} {n:Nat} {L:List Int} (h:(am D n).2.2=0):placeErr D n L=shapeErr D n L:=by unfold placeErr;rw [if_neg (by simpa using h)]
structure InO (D:Nat→Dm) (n:Nat) (L:List Int):Prop where
 right:(am D n).2.2=0
 len:L.length=n
 lo:∀ i,i<n→0≤L.getD i 0
 hi:∀ i,i<n→L.getD i 0<((D i).n:Int)
theorem au {D:Nat→Dm} {n:Nat} (h:(am D n).2.2=0):1≤n∧n≤4∧prodN D n≤3000∧∀ i,i<n→1≤(D i).n∧(D i).n≤12:=by
 have e:=eY h;unfold am at h
 split at h
 ·simp at h
 split at h
 ·simp at h
 split at h
 ·rename_i h3;exact absurd h h3
 split at h
 ·simp at h
 rename_i a b c d
 exact ⟨by omega,by omega,by omega,fun i f=>⟨(aI (e.2 i f)).2.1,(aI (e.2 i f)).2.2.1⟩⟩
theorem fY {D:Nat→Dm} {n:Nat} {L:List Int} (h:placeErr D n L=0):InO D n L:=by
 unfold placeErr at h
 split at h
 ·rename_i h1;exact absurd h h1
 rename_i h1
 unfold shapeErr at h
 split at h
 ·cases h
 split at h
 ·cases h
 rename_i h2 h3
 have c:∀ i,i<n→j9 D L i=false:=fun i a=>by
  rcases findFrom_cases (j9 D L) n 0 with ⟨_,b⟩ | ⟨k,b,_⟩
  ·exact b i (zU) (by omega)
  rw [b] at h3;omega
 exact ⟨by simpa using h1,by simpa using h2,fun i a=>by have:=c i a;simp [j9,-List.getD_eq_getElem?_getD] at this;omega,fun i a=>by have:=c i a;simp [j9,-List.getD_eq_getElem?_getD] at this;omega⟩
theorem InO.ok {D:Nat→Dm} {n:Nat} {L:List Int} (h:InO D n L):placeErr D n L=0:=by
 rw [D6 h.right,KD h.len];rw [bR]
 ·decide
 intro j _ c;have a:=h.lo j (by omega)
 have b:=h.hi j (by omega)
 simp [j9,-List.getD_eq_getElem?_getD]
 omega
def numI (D:Nat→Dm) (L:List Int):Nat→Int
 | 0=>0
 | k+1=>numI D L k*((D k).n:Int)+L.getD k 0
theorem ps {D:Nat→Dm} {L:List Int} (k:Nat) (h:∀ i,i<k→0≤L.getD i 0):numI D L k=(numTo D (fun i=>(L.getD i 0).toNat) k:Int):=by
 induction k with
 | zero=>rfl
 | succ k ih =>
  have:=h k (by omega)
  rw [numI,numTo,ih fun i a=>h i (by omega),Int.natCast_add,Int.natCast_mul,Int.toNat_of_nonneg this]
theorem vr {D:Nat→Dm} {k:Nat} (h:∀ j,j<k→(D j).n≤12) (a:k≤4):prodN D k≤20736:=by
 have b:=vp h;have c:12 ^ k≤12 ^ 4:=Nat.pow_le_pow_right (by decide) a
 have d:(12:Nat) ^ 4=20736:=by decide
 omega
theorem a8 {D:Nat→Dm} {n:Nat} {L:List Int} (h:InO D n L) {k:Nat} (e:k≤n):0≤numI D L k∧numI D L k<(prodN D k:Int)∧prodN D k≤20736:=by
 obtain ⟨_,d,_,a⟩:=au h.right;rw [ps k fun i hi=>h.lo i (by omega)]
 have c:=uR (D:=D) (P:=fun i=>(L.getD i 0).toNat) k fun j b=>by
  have:=h.lo j (by omega)
  have:=h.hi j (by omega)
  omega
 refine ⟨by omega,by omega,vr (fun j b=>(a j (by omega)).2) (by omega)⟩
def numV (D:Nat→Dm) (n:Nat) (L:List Int):Int:=if placeErr D n L=0 then numI D L n else 0
def jp (D:Nat→Dm) (n x r:Nat):List Int:=(List.range n).map fun j=>if n-r≤j then (bC D n x j:Int) else 0
def aj (D:Nat→Dm) (n x:Nat):List Int:=(List.range n).map fun j=>(bC D n x j:Int)
theorem EM (D:Nat→Dm) (n x r:Nat):(jp D n x r).length=n:=by simp [jp]
theorem placeL_len (D:Nat→Dm) (n x:Nat):(aj D n x).length=n:=by simp [aj]
theorem BW (D:Nat→Dm) (n x:Nat):jp D n x 0=List.replicate n 0:=by
 apply List.ext_getElem
 ·simp [jp]
 intro i a b
 simp [jp] at a ⊢
 omega
theorem EL (D:Nat→Dm) (n x:Nat):jp D n x n=aj D n x:=by simp [jp,aj]
theorem EN (D:Nat→Dm) (n x r:Nat) (e:r<n):(jp D n x r).set (n-1-r) (bC D n x (n-1-r):Int)=jp D n x (r+1):=by
 apply List.ext_getElem
 ·simp [jp]
 intro i c d;simp only [jp,List.length_set,List.length_map,List.length_range] at c;rw [List.getElem_set];simp only [jp,List.getElem_map,List.getElem_range]
 by_cases a:n-1-r=i
 ·subst a
  rw [if_pos rfl,if_pos (by omega)]
 rw [if_neg a]
 by_cases b:n-r≤i
 ·rw [if_pos b,if_pos (by omega)]
 rw [if_neg b,if_neg (by omega)]
theorem jN {D:Nat→Dm} {n x i:Nat} (h:i<n):(aj D n x).getD i 0=(bC D n x i:Int):=by
 simp [aj,List.getD,h]
theorem bZ {D:Nat→Dm} {n x:Nat} (h:(am D n).2.2=0):InO D n (aj D n x):=by
 obtain ⟨_,_,_,b⟩:=au h;exact ⟨h,placeL_len ..,fun i a=>by rw [jN a];omega,fun i a=>by rw [jN a];have:=t7 (D:=D) (m:=n) (n:=x) (k:=i) (b i a).1;omega⟩
theorem xT {D:Nat→Dm} {P Q:Nat→Nat} (k:Nat) (h:∀ i,i<k→P i=Q i):numTo D P k=numTo D Q k:=by
 induction k with
 | zero=>rfl
 | succ k ih=>rw [numTo,numTo,ih fun i a=>h i (by omega),h k (by omega)]
theorem mB {D:Nat→Dm} {n x:Nat} (h:(am D n).2.2=0) (b:x<prodN D n):numI D (aj D n x) n=(x:Int):=by
 rw [ps n (bZ h).lo,xT (Q:=bC D n x) n fun i a=>by rw [jN a];omega,uS b]
theorem gn {D:Nat→Dm} {n:Nat} {L:List Int} (h:InO D n L):aj D n (numI D L n).toNat=L:=by
 have c:∀ j,j<n→(L.getD j 0).toNat<(D j).n:=fun j b=>by have:=h.lo j b;have:=h.hi j b;omega
 rw [ps n h.lo,Int.toNat_natCast];apply List.ext_getElem
 ·rw [placeL_len,h.len]
 intro i a d;rw [placeL_len] at a;have e:=qU c a;have g:=h.lo i a;have f:L.getD i 0=L[i]:=by simp [List.getD,d]
 simp only [aj,List.getElem_map,List.getElem_range];rw [e,←f]
 omega
end Go.Proofs.YtohgnbgamfepoaaGreatDoor
namespace Go.Proofs.YtohgnbgamfepoaaGreatDoor
open Go.ChangeShapes Go.WideShapes Go.ChangeAt Go.RowKit
set_option maxRecDepth 20000
def aZ (w:World) (A:Option Addr) (cap:Nat) (L:List Int):Prop:=L.length≤cap∧(L=[]∨∃ b o,A=some ⟨b,o,none⟩∧b<w.heap.size∧∀ j,j<L.length→w.cell? ⟨b,o+j,none⟩=some (.int .i64 (L.getD j 0)))
theorem aZ.later {w w':World} {A:Option Addr} {cap:Nat} {L:List Int} (h:aZ w A cap L) (e:Bl w w'):aZ w' A cap L:=by
 obtain ⟨c,a | ⟨b,o,a,d,f⟩⟩:=h
 ·exact ⟨c,Or.inl a⟩
 exact ⟨c,Or.inr ⟨b,o,a,zW d e.size,fun j g=>aC e d (f j g)⟩⟩
theorem aZ.nil (w:World) (A:Option Addr) (cap:Nat):aZ w A cap []:=⟨zU,Or.inl rfl⟩
def eX (N:Nat) (A:Option Addr):Prop := ∀ b o,A=some ⟨b,o,none⟩→N≤b
theorem eX.none (N:Nat):eX N none:=fun _ _ h=>by cases h
theorem eX.le {N M:Nat} {A:Option Addr} (h:eX N A) (a:M≤N):eX M A:=fun b o e=>zV a (h b o e)
def et (w:World) (g:Nat) (L:List Int):Prop:=w.heap[g]?=some (.cells (L.map (Value.int .i64)).toArray 3 (0,0))
theorem et.lt {w:World} {g:Nat} {L:List Int} (h:et w g L):g<w.heap.size:=(zY h).1
theorem et.cell {w:World} {g:Nat} {L:List Int} (h:et w g L) {j:Nat} (a:j<L.length):w.cell? ⟨g,j,none⟩=some (.int .i64 (L.getD j 0)):=by
 rw [Lib.cell_of_heap h]
 simp [List.getD,a]
theorem et.frozen {w:World} {g:Nat} {L:List Int} (h:et w g L) (j:Nat):w.frozen? ⟨g,j,none⟩=false:=Lib.frozen_of_heap h j
theorem et.later {w w':World} {g:Nat} {L:List Int} (h:et w g L) (a:Bl w w'):et w' g L:=(a.block g h.lt).trans h
theorem et.set {w:World} {g:Nat} {L:List Int} (h:et w g L) (j:Nat) (x:Int):et (w.setCell ⟨g,j,none⟩ (.int .i64 x)) g (L.set j x):=by
 unfold et at *;have e:(L.set j x).map (Value.int .i64)=(L.map (Value.int .i64)).set j (.int .i64 x):=by rw [List.map_set]
 simp [World.setCell,Array.getElem?_modify,h,e]
theorem et.pl {w:World} {g:Nat} {L:List Int} (h:et w g L):aZ w (some ⟨g,0,none⟩) L.length L :=
 ⟨zT,Or.inr ⟨g,0,rfl,h.lt,fun j a=>by rw [Nat.zero_add];exact h.cell a⟩⟩
theorem rv (n:Nat):madeCells #[.int .i64 0] n=((List.replicate n (0:Int)).map (Value.int .i64)).toArray:=by
 apply Array.ext
 ·simp [madeCells]
 intro i a b
 simp [madeCells,Nat.mod_one]
theorem et.made (w:World) (n:Nat):et (w.alloc (.cells (madeCells #[.int .i64 0] n) 3)) w.heap.size (List.replicate n 0):=by
 unfold et;rw [rv];exact heap_alloc_new w _
theorem Tryz.infoIntP:(Tryz.prog.info? 3).map (fun i=>(i.zero,i.size,i.bytes))=some (some (.int .i64 0),1,8):=by kernel_rfl
theorem oC (A0:Option Addr) (cap n:Nat) (D:Nat→Dm) (A:Nat→Option Addr) (C:Nat→Nat) (w:World) (d:aW w A0 cap n D A C):Rt 109 #[.agg #[.slice A0 n cap]] w (errV (am D n).2.2):=by
 have a:=ao w A0 n cap 24;have h:=sh A0 cap n D A C (ax w A0 n cap 24) (d.later a);have b:=aa a;clear d a;generalize errV (am D n).2.2=v at h;generalize (am D n).1=x at h;generalize (am D n).2.1=y at h
 go_enter Tryz.func109,Tryz.ntmps109
 go_wp2_with fail;refine h.mono ?_;rintro e w1 ⟨rfl,c⟩;go_wp2_with fail;go_ret;exact ⟨rfl,ae b.out c⟩
def iU (D:Nat→Dm) (n:Nat):Int:=if (am D n).2.2=0 then (prodN D n:Int) else 0
theorem pE (A0:Option Addr) (cap n:Nat) (D:Nat→Dm) (A:Nat→Option Addr) (C:Nat→Nat) (w:World) (t:aW w A0 cap n D A C):Rt 73 #[.agg #[.slice A0 n cap]] w (.tuple #[.int .i64 (iU D n),errV (am D n).2.2]):=by
 have i:=ao w A0 n cap 24;have h:=oC A0 cap n D A C (ax w A0 n cap 24) (t.later i);have l:=aa i;have F:=aa t;clear t i
 by_cases f:(am D n).2.2=0
 ·obtain ⟨L,M,-,z⟩:=au f
  have HV:Hid (iU D n=(prodN D n:Int)):=by show _=_;unfold iU;rw [if_pos f]
  have q:Hid (errV (am D n).2.2=.nilIface):=by show _=_;rw [f];rfl
  rw [f,errV_zero] at h;have E:=aa z;have K:(n:Int)≤4:=by omega
  clear f z
  go_enter Tryz.func73,Tryz.ntmps73
  go_wp2_with fail;refine h.mono ?_;rintro e w1 ⟨rfl,a⟩;have s:Bl w w1:=ae l.out a;have Q:w1.cell? ⟨w.heap.size,0,none⟩=some (.slice A0 n cap):=aC a (by show w.heap.size<_;rw [av];omega) (aH ..)
  obtain ⟨y,I | ⟨b,o,rfl,m⟩⟩:=F.out.later s
  ·omega
  have r:=aa m;have B:=aa s;clear a h m s;go_wp2_with fail
  go_loopg [5,16] n (fun g s5 s16 wr => ∃ (k:Nat),k≤n∧g=n-k∧s16=.int .i64 k∧s5=.int .i64 (prodN D k)∧Bl w1 wr)
  case atStart=>exact ⟨0,zU,rfl,rfl,rfl,zS⟩
  case round =>
   obtain ⟨k,T,rfl,rfl,rfl,d⟩:=hrel
   by_cases v:k<n
   ·obtain ⟨I,P,R,-⟩:=(r.out.later d).2 k v
    have J:(k:Int)<(n:Int):=by omega
    have x:prodN D (k+1)≤20736:=kK (fun j S=>(E.out j (by omega)).2) (by omega)
    have p:(prodN D (k+1):Int)=(prodN D k:Int)*((D k).n:Int):=by rw [prodN];exact Int.natCast_mul _ _
    have N:0≤(prodN D k:Int)*((D k).n:Int):=by omega
    have O:(prodN D k:Int)*((D k).n:Int)≤20736:=by omega
    have H:=aa d;have G:=aa p;clear d x p;go_wp2_with fail
    go_roundg (n-(k+1))
    case measure=>omega
    case rel=>exact ⟨k+1,by omega,rfl,by go_num,by rw [G.out],ae H.out (by go_grown)⟩
   have u:k=n:=by omega
   subst u;go_wp2_with fail
   go_ret2
   rw [HV.out,q.out];exact ⟨rfl,ae B.out d⟩
 have HV:Hid (iU D n=0):=by show _=_;unfold iU;rw [if_neg f]
 have q:Hid (errV (am D n).2.2=.iface 63 (.int .i64 (am D n).2.2)):=ak f;rw [ak f] at h;clear f;generalize (am D n).2.2=c at h q
 go_enter Tryz.func73,Tryz.ntmps73
 go_wp2_with fail;refine h.mono ?_;rintro e w1 ⟨rfl,a⟩;go_wp2_with fail
 go_ret2
 rw [HV.out,q.out];exact ⟨rfl,ae l.out a⟩
theorem zw {q:Nat} (h:q≤3000):wrap64 (q:Int)=q:=by unfold wrap64;omega
theorem Dq (D:Nat→Dm) (m n r:Nat):restAt D m n r≤n:=by
 induction r with
 | zero=>exact zT
 | succ r ih=>rw [restAt];exact zV (Nat.div_le_self _ _) ih
theorem ly {w:World} {A:Option Addr} {cap:Nat} {L:List Int} (h:bX w A cap L):aZ w A cap L:=by
 obtain ⟨c,a | ⟨b,a,d,e⟩⟩:=h
 ·exact ⟨c,Or.inl a⟩
 exact ⟨c,Or.inr ⟨b,0,a,d,fun j f=>by rw [Nat.zero_add];exact e j f⟩⟩
theorem rj (F:Nat) (cap:Array Value) (p:Int→Bool) (E:∀ (args:Array Value) (w:World),(callFunc F args).run Tryz.prog w=.ok (.enter F args) w) (A:Option Addr) (c:Nat) (L:List Int) (w:World) (O:L.length≤1048576) (K:aZ w A c L)
  (D:∀ (x:Int) (w':World),x∈L→Bl w w'→Calls Tryz.prog F (#[.int .i64 x] ++ cap) w' fun e w''=>e=.returned (.bool (p x))∧Bl w' w'') :
  Rt 132 #[.slice A L.length c,.func (.func F) #[] cap] w (.int .i64 (findFrom (fun j=>p (L.getD j 0)) L.length 0)):=by
 obtain ⟨M,J | ⟨b,o,rfl,y,d⟩⟩:=K
 ·subst J
  simp only [List.length_nil]
  go_enter Tryz.func132,Tryz.ntmps132
  go_wp2_with fail;refine wp_loop_rounds 1 ?_;rw [rounds_succ];go_wp2_with fail;go_ret;exact ⟨rfl,zS⟩
 have C:=aa d;have H:=aa D;obtain ⟨pj,l⟩:∃ pj:Nat→Bool,pj=fun j=>p (L.getD j 0):=⟨_,rfl⟩
 have I:Hid (∀ j,pj j=p (L.getD j 0)):=fun j=>by rw [l]
 rw [←l];obtain ⟨n,i⟩:=az L.length;have t:=aa i;rw [i] at O M C ⊢;clear d l i D
 go_enter Tryz.func132,Tryz.ntmps132
 go_wp2_with fail
 go_loopg [8] n (fun g s8 wr => ∃ (k:Nat),k≤n∧g=n-k∧s8=.int .i64 k∧findFrom pj (n-k) k=findFrom pj n 0∧Bl w wr)
 case atStart=>exact ⟨0,zU,rfl,rfl,rfl,zS⟩
 case round =>
  obtain ⟨k,Q,rfl,rfl,G,f⟩:=hrel;have u:=aa G;have v:=aa f;clear G
  by_cases r:k<n
  ·have N:(k:Int)<(n:Int):=by omega
   have z:=aC f y (C.out k r);have P:(n:Int)≤1048576:=by omega
   have m:=I.out k;have q:Hid (n-k=(n-(k+1))+1):=by show _=_;omega
   have a:=H.out (L.getD k 0) wr (by rw [zZ,zX (by rw [t.out];exact r)];exact List.getElem_mem _) f
   rw [←m] at a;generalize L.getD k 0=x at z m a;clear f m;cases hb:pj k
   ·rw [hb] at a
    have s:=aa hb;clear hb;go_wp2_with fail;refine a.mono ?_;rintro e w1 ⟨rfl,h⟩;go_wp2_with fail
    go_roundg (n-(k+1))
    case measure=>omega
    case rel=>exact ⟨k+1,by omega,rfl,by go_num,by rw [←u.out,q.out,be _ s.out],ae v.out h⟩
   rw [hb] at a;have s:=aa hb;clear hb;go_wp2_with fail;refine a.mono ?_;rintro e w1 ⟨rfl,h⟩;go_wp2_with fail;go_ret;exact ⟨by rw [←u.out,q.out,bu _ s.out];rfl,ae v.out h⟩
  have B:k=n:=by omega
  subst B;go_wp2_with fail;go_ret;exact ⟨by rw [←u.out,Nat.sub_self];rfl,v.out⟩
theorem oH (F:Nat) (cap:Array Value) (p:Int→Bool) (a:∀ (args:Array Value) (w:World),(callFunc F args).run Tryz.prog w=.ok (.enter F args) w) (A:Option Addr) (c:Nat) (L:List Int) (w:World) (g:L.length≤1048576) (f:aZ w A c L)
  (d:∀ (x:Int) (w':World),x∈L→Bl w w'→Calls Tryz.prog F (#[.int .i64 x] ++ cap) w' fun e w''=>e=.returned (.bool (p x))∧Bl w' w'') :
  Rt 95 #[.slice A L.length c,.func (.func F) #[] cap] w (.bool (decide (0≤findFrom (fun j=>p (L.getD j 0)) L.length 0))):=by
 have h:=rj F cap p a A c L w g f d;generalize findFrom (fun j=>p (L.getD j 0)) L.length 0=r at *
 clear d f
 go_enter Tryz.func95,Tryz.ntmps95
 go_wp2_with fail;refine h.mono ?_;rintro e w1 ⟨rfl,b⟩;go_wp2_with fail;go_ret;exact ⟨rfl,b⟩
end Go.Proofs.YtohgnbgamfepoaaGreatDoor
namespace Go.Proofs.YtohgnbgamfepoaaGreatDoor
open Go.ChangeShapes Go.WideShapes Go.ChangeAt Go.RowKit
def gE (blank:Bool) (ka kb:Int) (r:Int×Int):Int×Int:=if ka=2∨kb=2 then (2,0) else if blank=true then (0,0) else r
def gb (fb fo:Nat) (ka na kb nb k n:Int) (er:Value):Prop := ∀ (w:World),Calls Tryz.prog 180 #[.agg #[.int .i64 ka,.int .i64 na],.agg #[.int .i64 kb,.int .i64 nb],.func (.func fb) #[] #[],.func (.func fo) #[] #[]] w fun e w'=>e=.returned (.tuple #[.agg #[.int .i64 k,.int .i64 n],er])∧Bl w w'
def l8 (f:Nat) (ka na kb nb k n:Int) (er:Value):Prop := ∀ (w:World),Calls Tryz.prog f #[.agg #[.int .i64 ka,.int .i64 na],.agg #[.int .i64 kb,.int .i64 nb]] w fun e w'=>e=.returned (.tuple #[.agg #[.int .i64 k,.int .i64 n],er])∧Bl w w'
theorem jK (a c:Nat) (p:Int→Int→Bool) (h:dC a) (i:tx a p) (f:dC c) (ka na kb nb:Int) (d:good ka na=true) (e:good kb nb=true) (r:Int×Int) (j:nZ c na nb r) :
  gb a c ka na kb nb (gE (p ka kb) ka kb r).1 (gE (p ka kb) ka kb r).2 .nilIface:=by
 intro w;unfold gE
 by_cases g:ka=2∨kb=2
 ·rw [if_pos g]
  exact xF _ _ ka na kb nb w d e (by simp;exact g)
 rw [if_neg g];have b:((fun k:Int=>k == 2) ka || (fun k:Int=>k == 2) kb)=false:=by simp;omega
 cases hpp:p ka kb
 ·rw [if_neg (by simp)]
  exact Co a c p h i f ka na kb nb w d e r j b hpp
 rw [if_pos rfl];exact xE a p h i _ ka na kb nb w d e b hpp
theorem cD {k n:Int} (h:good k n=true) : -1000000000000≤n∧n≤1000000000000:=by simp [good] at h;omega
def nj (ka na kb nb:Int):Int×Int:=gE (!(ka != 0 || kb != 0)) ka kb (eG (na+nb))
def jt (ka na kb nb:Int):Int×Int:=gE (!(ka != 0 || kb != 0)) ka kb (eG (na-nb))
def qh (ka na kb nb:Int):Int×Int:=gE (ka == 0 || kb == 0) ka kb (eG (na*nb))
def vi (ka na kb nb:Int):Int×Int:=gE (ka == 0 || kb == 0) ka kb (C9 na nb)
theorem I6 (ka na kb nb k n:Int) (a:Value) (h:gb 181 183 ka na kb nb k n a):l8 150 ka na kb nb k n a:=by
 intro w;unfold gb at h
 go_enter Tryz.func150,Tryz.ntmps150
 go_wp2_with fail;refine (h _).mono ?_;rintro e w1 ⟨rfl,b⟩;have f:Bl w w1:=Below.trans (by go_grown) (b.mono (by simp;omega))
 obtain ⟨c,g⟩:=dk b;have d:=dp b
 simp at d
 go_wp2_with fail;refine bodyPost_ret (v:=.tuple #[.agg #[.int .i64 k,.int .i64 n],a]) (by simp [results,Tryz.results150,go_sem,c]) rfl ⟨rfl,?_⟩
 go_grown
theorem zF (ka na kb nb:Int) (a:good ka na=true) (b:good kb nb=true):l8 150 ka na kb nb (nj ka na kb nb).1 (nj ka na kb nb).2 .nilIface:=by
 obtain ⟨c,d⟩:=cD a;obtain ⟨e,f⟩:=cD b;exact I6 _ _ _ _ _ _ _ (jK _ _ _ zI tN Ir ka na kb nb a b _ (F6 na nb c d e f))
theorem JE (ka na kb nb k n:Int) (a:Value) (h:gb 181 182 ka na kb nb k n a):l8 149 ka na kb nb k n a:=by
 intro w;unfold gb at h
 go_enter Tryz.func149,Tryz.ntmps149
 go_wp2_with fail;refine (h _).mono ?_;rintro e w1 ⟨rfl,b⟩;have f:Bl w w1:=Below.trans (by go_grown) (b.mono (by simp;omega))
 obtain ⟨c,g⟩:=dk b;have d:=dp b
 simp at d
 go_wp2_with fail;refine bodyPost_ret (v:=.tuple #[.agg #[.int .i64 k,.int .i64 n],a]) (by simp [results,Tryz.results149,go_sem,c]) rfl ⟨rfl,?_⟩
 go_grown
theorem Bs (ka na kb nb:Int) (a:good ka na=true) (b:good kb nb=true):l8 149 ka na kb nb (jt ka na kb nb).1 (jt ka na kb nb).2 .nilIface:=by
 obtain ⟨c,d⟩:=cD a;obtain ⟨e,f⟩:=cD b;exact JE _ _ _ _ _ _ _ (jK _ _ _ zI tN Fu ka na kb nb a b _ (Cz na nb c d e f))
theorem Jr (ka na kb nb k n:Int) (a:Value) (h:gb 245 246 ka na kb nb k n a):l8 217 ka na kb nb k n a:=by
 intro w;unfold gb at h
 go_enter Tryz.func217,Tryz.ntmps217
 go_wp2_with fail;refine (h _).mono ?_;rintro e w1 ⟨rfl,b⟩;have f:Bl w w1:=Below.trans (by go_grown) (b.mono (by simp;omega))
 obtain ⟨c,g⟩:=dk b;have d:=dp b
 simp at d
 go_wp2_with fail;refine bodyPost_ret (v:=.tuple #[.agg #[.int .i64 k,.int .i64 n],a]) (by simp [results,Tryz.results217,go_sem,c]) rfl ⟨rfl,?_⟩
 go_grown
theorem Hz (ka na kb nb:Int) (a:good ka na=true) (b:good kb nb=true):l8 217 ka na kb nb (qh ka na kb nb).1 (qh ka na kb nb).2 .nilIface:=by
 obtain ⟨c,d⟩:=cD a;obtain ⟨e,f⟩:=cD b;exact Jr _ _ _ _ _ _ _ (jK _ _ _ FN AV yx ka na kb nb a b _ (vt na nb c d e f))
theorem Jb (ka na kb nb k n:Int) (a:Value) (h:gb 245 247 ka na kb nb k n a):l8 218 ka na kb nb k n a:=by
 intro w;unfold gb at h
 go_enter Tryz.func218,Tryz.ntmps218
 go_wp2_with fail;refine (h _).mono ?_;rintro e w1 ⟨rfl,b⟩;have f:Bl w w1:=Below.trans (by go_grown) (b.mono (by simp;omega))
 obtain ⟨c,g⟩:=dk b;have d:=dp b
 simp at d
 go_wp2_with fail;refine bodyPost_ret (v:=.tuple #[.agg #[.int .i64 k,.int .i64 n],a]) (by simp [results,Tryz.results218,go_sem,c]) rfl ⟨rfl,?_⟩
 go_grown
theorem Hh (ka na kb nb:Int) (a:good ka na=true) (b:good kb nb=true):l8 218 ka na kb nb (vi ka na kb nb).1 (vi ka na kb nb).2 .nilIface:=by
 obtain ⟨c,d⟩:=cD a;obtain ⟨e,f⟩:=cD b;exact Jb _ _ _ _ _ _ _ (jK _ _ _ FN AV vw ka na kb nb a b _ (sX na nb c d))
end Go.Proofs.YtohgnbgamfepoaaGreatDoor
namespace Go.Proofs.YtohgnbgamfepoaaGreatDoor
def stepTo (D:Nat→Dm) (dim:Nat):Nat→Nat
 | 0=>1
 | t+1=>stepTo D dim t*(D (dim+1+t)).n
def cA (D:Nat→Dm) (n dim:Nat):Nat:=stepTo D dim (n-1-dim)
theorem stepTo_front (D:Nat→Dm) (dim:Nat):∀ t,stepTo D dim (t+1)=(D (dim+1)).n*stepTo D (dim+1) t
 | 0=>by simp [stepTo]
 | t+1=>by
  rw [stepTo,stepTo_front D dim t,stepTo,Nat.mul_assoc,show dim+1+(t+1)=dim+1+1+t by omega]
theorem rI (D:Nat→Dm) (m x:Nat):∀ r,r<m→restAt D m x r=x / stepTo D (m-1-r) r
 | 0,_=>by simp [restAt,stepTo]
 | r+1,h=>by
  rw [restAt,rI D m x r (by omega),Nat.div_div_eq_div_mul,stepTo_front,show m-1-(r+1)+1=m-1-r by omega,Nat.mul_comm]
theorem iW {D:Nat→Dm} {n x k:Nat} (a:k<n):bC D n x k=x / cA D n k % (D k).n:=by
 unfold bC cA;rw [rI D n x _ (by omega),show n-1-(n-1-k)=k by omega]
theorem mE {D:Nat→Dm} {n:Nat} (h:∀ j,j<n→1≤(D j).n):1≤prodN D n:=by
 induction n with
 | zero=>exact zT
 | succ n ih =>
  have a:=ih fun j c=>h j (by omega)
  have b:=h n (by omega)
  rw [prodN];exact Nat.mul_le_mul a b
theorem qb {D:Nat→Dm} {dim:Nat}:∀ t,(∀ j,j<dim+1+t→1≤(D j).n)→1≤stepTo D dim t
 | 0,_=>zT
 | t+1,h=>by
  rw [stepTo];exact Nat.mul_le_mul (qb t fun j a=>h j (by omega)) (h (dim+1+t) (by omega))
theorem iN {D:Nat→Dm} {n dim:Nat} (h:∀ j,j<n→1≤(D j).n) (a:dim<n):1≤cA D n dim:=qb _ fun j b=>h j (by omega)
def ba (M:Nat→Mem) (at':Int→Int×Int) (c:Int×Int) (k:Int):Int×Int:=if (M k.toNat).sign=1 then nj c.1 c.2 (at' k).1 (at' k).2 else if (M k.toNat).sign = -1 then jt c.1 c.2 (at' k).1 (at' k).2 else c
def partsV (M:Nat→Mem) (at':Int→Int×Int) (L:List Int):Int×Int:=L.foldl (ba M at') (0,0)
def b6 (c:Int×Int):Prop:=good c.1 c.2=true
theorem oX (x:Int):b6 (eG x):=by
 unfold b6 eG good
 split
 ·rename_i h;exact decide_eq_true (Or.inl ⟨rfl,h⟩)
 exact decide_eq_true (Or.inr ⟨Or.inr rfl,rfl⟩)
theorem rg (b:Bool) (ka kb:Int) {r:Int×Int} (h:b6 r):b6 (gE b ka kb r):=by
 unfold gE
 split
 ·exact decide_eq_true (Or.inr ⟨Or.inr rfl,rfl⟩)
 split
 ·exact decide_eq_true (Or.inr ⟨Or.inl rfl,rfl⟩)
 exact h
theorem fx:b6 (0,0):=decide_eq_true (Or.inr ⟨Or.inl rfl,rfl⟩)
theorem Cg (M:Nat→Mem) (at':Int→Int×Int) {c:Int×Int} (h:b6 c) (k:Int):b6 (ba M at' c k):=by
 unfold ba
 split
 ·exact rg _ _ _ (oX _)
 split
 ·exact rg _ _ _ (oX _)
 exact h
theorem jI (M:Nat→Mem) (at':Int→Int×Int):∀ (L:List Int) (c:Int×Int),b6 c→b6 (L.foldl (ba M at') c)
 | [],_,h=>h
 | k :: r,_,h=>jI M at' r _ (Cg M at' h k)
theorem xm (M:Nat→Mem) (at':Int→Int×Int) (L:List Int):b6 (partsV M at' L):=jI M at' L _ fx
def KJ (L:List (Int×Int)) (x:Int):Int×Int:=L.getD x.toNat (0,0)
def oW (L:List (Int×Int)):Prop := ∀ c∈L,b6 c
theorem Cf {L:List (Int×Int)} (h:oW L) (x:Nat) {c:Int×Int} (a:b6 c):oW (L.set x c):=fun y b=>by
 rcases List.mem_or_eq_of_mem_set b with h1 | h1
 ·exact h y h1
 rw [h1];exact a
theorem AA {L:List (Int×Int)} (h:oW L) (x:Int):b6 (KJ L x):=by
 unfold KJ;rw [zZ];cases he:L[x.toNat]? with
 | none=>exact fx
 | some c=>exact h c (List.mem_of_getElem? he)
theorem yo {D:Nat→Dm} {n dim m x j:Nat} (p:∀ i,i<n→1≤(D i).n) (g:dim<n) (z:x<prodN D n) (w:x / cA D n dim % (D dim).n=m) (v:j<(D dim).n) :
  ∃ y:Nat,(x:Int)+((j:Int)-(m:Int))*(cA D n dim:Int)=y∧y<prodN D n∧y / cA D n dim % (D dim).n=j∧∀ i,i<n→i≠dim→bC D n y i=bC D n x i:=by
 have B:=iN p g;have u:=p dim g;have l:∀ i,i<n→bC D n x i<(D i).n:=fun i d=>t7 (p i d)
 obtain ⟨P,f⟩:∃ P:Nat→Nat,P=fun i=>if i=dim then j else bC D n x i:=⟨_,rfl⟩
 have b:∀ i,i<n→P i<(D i).n:=fun i d=>by
  rw [f];simp only
  split
  ·rename_i h;rw [h];exact v
  exact l i d
 have A:=uR n b;have c:∀ i,i<n→bC D n (numTo D P n) i=P i:=fun i d=>qU b d
 refine ⟨numTo D P n,?_,A,?_,fun i d o=>?_⟩
 ·have t:∀ k,k≤n→(numTo D P k:Int)=(numTo D (bC D n x) k:Int)+(if dim<k then ((j:Int)-(m:Int))*(stepTo D dim (k-1-dim):Int) else 0):=by
   intro k
   induction k with
   | zero=>intro _;simp [numTo]
   | succ k ih =>
    intro C;rw [numTo,numTo];have a:=ih (by omega)
    rcases Nat.lt_trichotomy dim k with h | h | h
    ·rw [if_pos h] at a
     rw [if_pos (by omega)]
     have e:P k=bC D n x k:=by rw [f];simp only;rw [if_neg (by omega)]
     rw [e,show k+1-1-dim=(k-1-dim)+1 by omega,stepTo,show dim+1+(k-1-dim)=k by omega]
     push_cast
     rw [a,Int.add_mul,Int.mul_assoc]
     omega
    ·subst h
     rw [if_neg (by omega),Int.add_zero] at a
     rw [if_pos (by omega)]
     have e:P dim=j:=by rw [f];simp
     have s:bC D n x dim=m:=by rw [iW g,w]
     rw [e,s,show dim+1-1-dim=0 by omega,stepTo]
     push_cast
     rw [a]
     omega
    rw [if_neg (by omega),Int.add_zero] at a
    rw [if_neg (by omega)]
    have e:P k=bC D n x k:=by rw [f];simp only;rw [if_neg (by omega)]
    rw [e]
    push_cast
    rw [a]
    omega
  have q:=t n (zT);rw [if_pos g,uS z] at q;rw [q]
  rfl
 ·have r:=c dim g
  rw [iW g] at r;rw [r,f]
  simp
 rw [c i d,f]
 simp [o]
end Go.Proofs.YtohgnbgamfepoaaGreatDoor
namespace Go.Proofs.YtohgnbgamfepoaaGreatDoor
open Go.ChangeShapes Go.WideShapes Go.ChangeAt Go.RowKit
set_option maxRecDepth 20000
def JW (fn q r:Nat) (w:World) (n:Nat) (p:Nat→Bool):Prop := ∀ (i:Nat) (w':World),i<n→Bl w w'→Calls Tryz.prog fn #[.int .i64 i,.pointer (some ⟨q,0,none⟩),.pointer (some ⟨r,0,none⟩)] w' fun e w''=>e=.returned (.bool (p i))∧Bl w' w''
theorem xw (A:Option Addr) (cap:Nat) (L:List Int) (i:Int) (w:World) (E:L.length≤12) (z:bX w A cap L):Rt 206 #[.slice A L.length cap,.int .i64 i] w (.int .i64 (findFrom (fun j=>L.getD j 0 == i) L.length 0)):=by
 obtain ⟨C,y | ⟨b,rfl,B,c⟩⟩:=z
 ·subst y
  simp only [List.length_nil]
  go_enter Tryz.func206,Tryz.ntmps206
  go_wp2_with fail;refine wp_loop_rounds 1 ?_;rw [rounds_succ];go_wp2_with fail;go_ret;exact ⟨rfl,zS⟩
 have t:=aa c;obtain ⟨p,s⟩:∃ p:Nat→Bool,p=fun j=>L.getD j 0 == i:=⟨_,rfl⟩
 have v:Hid (∀ j,p j=(L.getD j 0 == i)):=fun j=>by rw [s]
 rw [←s];generalize hnn:L.length=n at E C t;clear c s hnn
 go_enter Tryz.func206,Tryz.ntmps206
 go_wp2_with fail
 go_loopg [8] n (fun g s8 wr => ∃ (k:Nat),k≤n∧g=n-k∧s8=.int .i64 k∧findFrom p (n-k) k=findFrom p n 0∧wr=w)
 case atStart=>exact ⟨0,zU,rfl,rfl,rfl,rfl⟩
 case round =>
  obtain ⟨k,H,rfl,rfl,u,rfl⟩:=hrel;have f:=aa u;clear u
  by_cases r:k<n
  ·have D:(k:Int)<(n:Int):=by omega
   have o:=t.out k r;have e:n-k=(n-(k+1))+1:=by omega
   have F:(n:Int)≤12:=by omega
   have a:=v.out k;have d:=aa e;generalize L.getD k 0=x at o a;clear e;cases hb:p k
   ·have l:=aa hb
    rw [hb] at a;have G:(i == x)=false:=by
     have m:x≠i:=by simpa using a.symm
     simpa using fun h:i=x=>m h.symm
    clear hb a;go_wp2_with fail
    go_roundg (n-(k+1))
    case measure=>omega
    case rel=>exact ⟨k+1,by omega,rfl,by go_num,by rw [←f.out,d.out,be _ l.out],rfl⟩
   have l:=aa hb;rw [hb] at a;have G:(i == x)=true:=by
    have m:x=i:=by simpa using a.symm
    simpa using m.symm
   clear hb a;go_wp2_with fail;go_ret;exact ⟨by rw [←f.out,d.out,bu _ l.out];rfl,zS⟩
  have q:k=n:=by omega
  subst q;go_wp2_with fail;go_ret;exact ⟨by rw [←f.out,Nat.sub_self];rfl,zS⟩
theorem kg (A:Option Addr) (cap:Nat) (L:List Int) (i:Int) (w:World) (d:L.length≤12) (c:bX w A cap L):Rt 164 #[.slice A L.length cap,.int .i64 i] w (.bool (nH L i)):=by
 have h:=xw A cap L i w d c;have b:Hid (decide (0≤findFrom (fun j=>L.getD j 0 == i) L.length 0)=nH L i):=Hk L i
 generalize findFrom (fun j=>L.getD j 0 == i) L.length 0=f at h b
 generalize L.length=n at h;clear c d
 go_enter Tryz.func164,Tryz.ntmps164
 go_wp2_with fail;refine h.mono ?_;rintro e w1 ⟨rfl,a⟩;go_wp2_with fail;go_ret;exact ⟨by rw [←b.out];rfl,a⟩
def yh (n:Nat) (i:Int):Bool:=decide (i<0) || decide ((n:Int)≤i)
theorem wG (i:Int) (A:Option Addr) (n cap q:Nat) (w:World) (h:w.cell? ⟨q,2,none⟩=some (.slice A n cap)):Rt 225 #[.int .i64 i,.pointer (some ⟨q,0,none⟩)] w (.bool (yh n i)):=by
 unfold yh
 by_cases a:i<0
 ·go_enter Tryz.func225,Tryz.ntmps225
  go_wp2;go_ret;exact ⟨by simp <;> omega,by go_grown⟩
 go_enter Tryz.func225,Tryz.ntmps225
 go_wp2;go_ret;exact ⟨by simp <;> omega,by go_grown⟩
theorem oG (A:Option Addr) (cap:Nat) (L:List Int) (Am:Option Addr) (nm cm q:Nat) (w:World) (e:L.length≤2) (c:bX w A cap L) (d:q<w.heap.size) (a:w.cell? ⟨q,2,none⟩=some (.slice Am nm cm)) :
  Rt 95 #[.slice A L.length cap,.func (.func 225) #[] #[.pointer (some ⟨q,0,none⟩)]] w (.bool (decide (0≤findFrom (fun j=>yh nm (L.getD j 0)) L.length 0))) :=
 oH 225 #[.pointer (some ⟨q,0,none⟩)] (yh nm) (fun args w=>by simp [callFunc,Tryz.func225];rfl) A cap L w (by omega) (ly c) fun x w' _ b=>wG x Am nm cm q w' (aC b d a)
theorem qE {d:Dm} {L:List Int} (h:(ay d).2=0):treeErr d L=if 0≤findFrom (fun j=>yh d.n (L.getD j 0)) L.length 0 then 1 else 0:=by
 unfold treeErr pM;rw [if_neg (by simpa using h)];rfl
theorem qg (d:Dm) (A:Option Addr) (cap:Nat) (Ai:Option Addr) (q:Nat) (L:List Int) (w:World) (B:eh w A cap d.n d.mem) (I:L.length≤2) (z:bX w Ai q L):Rt 187 #[cQ d A cap,.slice Ai L.length q] w (errV (treeErr d L)):=by
 have C:=bg w d A cap 70;have k:=aT w d A cap 70;have y:=(dO w d A cap 70).2.2;have a:=kx d A cap (aL w d A cap 70) (B.later k);unfold cQ at a ⊢;have o:=aa k;have u:=aa C;have D:=aa y;have F:=aa z;clear B C k y z
 by_cases h:(ay d).2=0
 ·obtain ⟨v,G,H,-⟩:=aI h
  rw [h,v,errV_zero] at a;have E:=aa h;clear h v
  go_enter Tryz.func187,Tryz.ntmps187
  go_wp2_with fail;refine a.mono ?_;rintro e w1 ⟨rfl,b⟩;have r:Bl w w1:=ae o.out b;have J:w.heap.size<w1.heap.size:=by
   have:=b.size;rw [u.out] at this
   omega
  have x:w1.cell? ⟨w.heap.size,2,none⟩=some (.slice A d.n cap):=aC b (by show w.heap.size<_;rw [u.out];omega) D.out
  have g:=oG Ai q L A d.n cap w.heap.size w1 I (F.out.later r) J x;have p:Hid (treeErr d L=if 0≤findFrom (fun j=>yh d.n (L.getD j 0)) L.length 0 then 1 else 0):=qE E.out
  have s:=aa r;generalize findFrom (fun j=>yh d.n (L.getD j 0)) L.length 0=f at g p
  generalize L.length=n at g;clear b a x r
  by_cases m:0≤f
  ·rw [decide_eq_true m] at g
   have i:Hid (treeErr d L=1):=by show _=_;rw [p.out,if_pos m]
   clear m p;go_wp2_with fail;refine g.mono ?_;rintro e w2 ⟨rfl,l⟩;go_wp2_with fail;go_ret;exact ⟨by rw [i.out];rfl,ae s.out l⟩
  rw [decide_eq_false m] at g;have i:Hid (treeErr d L=0):=by show _=_;rw [p.out,if_neg m]
  clear m p;go_wp2_with fail;refine g.mono ?_;rintro e w2 ⟨rfl,l⟩;go_wp2_with fail;go_ret;exact ⟨by rw [i.out];rfl,ae s.out l⟩
 have t:Hid (errV (treeErr d L)=.iface 63 (.int .i64 (ay d).2)):=by show _=_;rw [vY h,ak h]
 rw [ak h] at a;clear h;generalize (ay d).2=c at a t
 go_enter Tryz.func187,Tryz.ntmps187
 go_wp2_with fail;refine a.mono ?_;rintro e w1 ⟨rfl,b⟩;go_wp2_with fail;go_ret;exact ⟨by rw [t.out];rfl,ae o.out b⟩
end Go.Proofs.YtohgnbgamfepoaaGreatDoor
