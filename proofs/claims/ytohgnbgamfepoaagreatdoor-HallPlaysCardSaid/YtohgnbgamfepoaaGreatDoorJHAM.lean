/- Cells in a row, in mem -/
import Derived.Lib.SliceRun
import Derived.Sort.Walk0
import Derived.Deep.QuietTactic
import Derived.Deep.RegionHeld3
import Derived.Test.YtohgnbgamfepoaaGreatDoorJHAF
import Derived.Test.YtohgnbgamfepoaaGreatDoorJHAG
import Derived.Test.YtohgnbgamfepoaaGreatDoorJHAL
namespace Go.Proofs.YtohgnbgamfepoaaGreatDoor
open ChangeShapes WideShapes ChangeAt RowKit
set_option maxRecDepth 99999
set_option maxHeartbeats 0
def noC:Int×Int:=(0,0)
def bL:List (Int×Int)→List Value
 | []=>[]
 | c :: r=>.int .i64 c.1 :: .int .i64 c.2 :: bL r
theorem oz (L:List (Int×Int)):(bL L).length=L.length*2:=by
 induction L with
 | nil=>rfl
 | cons x r ih=>simp [bL,ih];omega
theorem cellsC_append (a b:List (Int×Int)):bL (a ++ b)=bL a ++ bL b:=by
 induction a with
 | nil=>rfl
 | cons x r ih=>simp [bL,ih]
theorem oA (L:List (Int×Int)):∀ v∈bL L,v.oneCell'=true:=by
 induction L with
 | nil=>intro v a;cases a
 | cons x r ih =>
  intro v a;simp only [bL,List.mem_cons] at a
  rcases a with rfl | rfl | a
  ·rfl
  ·rfl
  exact ih v a
theorem qO (L:List (Int×Int)):∀ k,k<L.length→(bL L)[k*2]?=some (.int .i64 (L.getD k noC).1)∧(bL L)[k*2+1]?=some (.int .i64 (L.getD k noC).2):=by
 induction L with
 | nil=>intro k a;cases a
 | cons x r ih =>
  intro k a;cases k with
  | zero=>simp [bL]
  | succ k =>
   rw [show (k+1)*2=k*2+1+1 by omega]
   simp only [bL,List.getElem?_cons_succ,List.getD_cons_succ];exact ih k (by simpa using a)
def ir (w:World) (b o:Nat) (L:List (Int×Int)):Prop:=b<w.heap.size∧∀ k,k<L.length→w.cell? ⟨b,o+k*2,none⟩=some (.int .i64 (L.getD k noC).1)∧w.cell? ⟨b,o+k*2+1,none⟩=some (.int .i64 (L.getD k noC).2)
theorem ir.later {w w':World} {b o:Nat} {L:List (Int×Int)} (h:ir w b o L) (a:Bl w w'):ir w' b o L :=
 ⟨zW h.1 a.size,fun k c=>⟨(a.cell (p:=⟨b,o+k*2,none⟩) h.1).trans (h.2 k c).1,(a.cell (p:=⟨b,o+k*2+1,none⟩) h.1).trans (h.2 k c).2⟩⟩
theorem ir.cells {w:World} {b o:Nat} {L:List (Int×Int)} (h:ir w b o L):∀ j u,(bL L)[j]?=some u→w.cell? ⟨b,o+j,none⟩=some u:=by
 intro j u a;have c:j<(bL L).length:=(List.getElem?_eq_some_iff.1 a).1;rw [oz] at c;have d:j / 2<L.length:=by omega
 obtain ⟨f,g⟩:=qO L _ d;obtain ⟨c1,c2⟩:=h.2 _ d
 rcases Nat.mod_two_eq_zero_or_one j with hm | hm
 ·have e:j=j / 2*2:=by omega
  rw [e] at a ⊢;rw [f] at a;rw [c1];exact a
 have e:j=j / 2*2+1:=by omega
 rw [e] at a ⊢;rw [g] at a;rw [←Nat.add_assoc,c2];exact a
def dx (w:World) (A:Option Addr) (cap:Nat) (L:List (Int×Int)):Prop:=L.length≤cap∧cap≤9223372036854775807∧(L=[]∨∃ b o,A=some ⟨b,o,none⟩∧ir w b o L)
theorem dx.later {w w':World} {A:Option Addr} {cap:Nat} {L:List (Int×Int)} (h:dx w A cap L) (f:Bl w w'):dx w' A cap L:=by
 obtain ⟨d,c,a | ⟨b,o,a,e⟩⟩:=h
 ·exact ⟨d,c,Or.inl a⟩
 exact ⟨d,c,Or.inr ⟨b,o,a,e.later f⟩⟩
theorem dx.nil (w:World) (A:Option Addr) (cap:Nat) (h:cap≤9223372036854775807):dx w A cap []:=⟨zU,h,Or.inl rfl⟩
def bU (w:World) (g:Nat) (L:List (Int×Int)):Prop := ∃ cur:Array Value,w.heap[g]?=some (.cells cur 52 (0,0))∧∀ k,k<L.length→cur[k*2]?=some (.int .i64 (L.getD k noC).1)∧cur[k*2+1]?=some (.int .i64 (L.getD k noC).2)
section
variable {w w':World} {g:Nat} {L:List (Int×Int)}
theorem bU.lt (h:bU w g L):g<w.heap.size:=by
 obtain ⟨a,b,_⟩:=h;exact (zY b).1
theorem bU.same (h:bU w g L) (d:w'.heap[g]?=w.heap[g]?):bU w' g L:=by
 obtain ⟨a,b,c⟩:=h;exact ⟨a,d.trans b,c⟩
theorem bU.later (h:bU w g L) (a:Bl w w'):bU w' g L:=h.same (a.block g h.lt)
theorem bU.at (h:bU w g L) {k:Nat} (f:k<L.length):w.cell? ⟨g,k*2,none⟩=some (.int .i64 (L.getD k noC).1)∧w.cell? ⟨g,k*2+1,none⟩=some (.int .i64 (L.getD k noC).2):=by
 obtain ⟨b,a,c⟩:=h;obtain ⟨d,e⟩:=c k f;exact ⟨by simp [World.cell?,a,d],by simp [World.cell?,a,e]⟩
theorem bU.frozen (h:bU w g L) (j:Nat):w.frozen? ⟨g,j,none⟩=false:=by
 obtain ⟨a,b,_⟩:=h;exact Lib.frozen_of_heap b j
theorem bU.celAt (h:bU w g L):ir w g 0 L:=⟨h.lt,fun k a=>by rw [Nat.zero_add];exact h.at a⟩
theorem bU.set (h:bU w g L) {x:Nat} (p:x<L.length) (a b:Int):bU ((w.setCell ⟨g,x*2,none⟩ (.int .i64 a)).setCell ⟨g,x*2+1,none⟩ (.int .i64 b)) g (L.set x (a,b)):=by
 obtain ⟨d,j,f⟩:=h;refine ⟨(d.setIfInBounds (x*2) (.int .i64 a)).setIfInBounds (x*2+1) (.int .i64 b),by simp [World.setCell,Array.getElem?_modify,j],fun k c=>?_⟩
 rw [List.length_set] at c;obtain ⟨l,m⟩:=f k c;obtain ⟨n,o⟩:=f x p;have q:=(zY n).1;have r:=(zY o).1
 by_cases e:k=x
 ·subst e
  constructor
  ·rw [Array.getElem?_setIfInBounds_ne (by omega),Array.getElem?_setIfInBounds_self_of_lt q]
   simp [List.getD,c]
  rw [Array.getElem?_setIfInBounds_self_of_lt (by simpa using r)]
  simp [List.getD,c]
 have i:(L.set x (a,b)).getD k noC=L.getD k noC:=by simp [List.getD,List.getElem?_set_ne (fun h=>e h.symm)]
 rw [i]
 constructor
 ·rw [Array.getElem?_setIfInBounds_ne (by omega),Array.getElem?_setIfInBounds_ne (by omega)];exact l
 rw [Array.getElem?_setIfInBounds_ne (by omega),Array.getElem?_setIfInBounds_ne (by omega)];exact m
theorem ou {base:Nat} {v:Value} (h:w.ownsRow base 52 2 v L.length (bL L)) (p:0<L.length):∃ g c,v=.slice (some ⟨g,0,none⟩) L.length c∧base≤g∧L.length≤c∧c≤9223372036854775807∧bU w g L:=by
 rcases h.2 with ⟨_,n⟩ | ⟨g,cap,a,rfl,j,l,e,f,o,i⟩
 ·omega
 refine ⟨g,cap,rfl,j,e,by unfold maxLen at f;omega,a,l,fun k m=>?_⟩
 obtain ⟨b,d⟩:=qO L k m;rw [←i,List.getElem?_take,if_pos (by omega),Array.getElem?_toList] at b d
 exact ⟨b,d⟩
end
theorem Tryz.infoCe:(Tryz.prog.info? 52).map (fun i=>(i.zero,i.size,i.bytes))=some (some (.agg #[.int .i64 0,.int .i64 0]),2,16):=by kernel_rfl
def gB (L:List (Int×Int)) (k:Nat):Bool := !(good (L.getD k noC).1 (L.getD k noC).2)
def jj:ByteArray:=⟨#[]⟩
def pu (c:Int×Int):Prop:=good c.1 c.2=true
theorem FK:pu noC:=rfl
theorem ls (n:Int):pu (eG n):=by
 unfold pu eG good
 split
 ·rename_i h;simp [h.1,h.2]
 simp
theorem If (x y:Int):pu (C9 x y):=by
 unfold C9
 split
 ·rfl
 exact ls _
theorem lr (b:Bool) (ka kb:Int) {r:Int×Int} (h:pu r):pu (gE b ka kb r):=by
 unfold gE
 split
 ·rfl
 split
 ·rfl
 exact h
def qz (o:Int) (a b:Int×Int):Int×Int:=if o=3 then nj a.1 a.2 b.1 b.2 else if o=4 then jt a.1 a.2 b.1 b.2 else if o=5 then qh a.1 a.2 b.1 b.2 else vi a.1 a.2 b.1 b.2
theorem FW (o:Int) (a b:Int×Int):pu (qz o a b):=by
 unfold qz
 split
 ·exact lr _ _ _ (ls _)
 split
 ·exact lr _ _ _ (ls _)
 split
 ·exact lr _ _ _ (ls _)
 exact lr _ _ _ (If _ _)
def Ht (N:List ByteArray) (s:ByteArray) (i:Nat):Bool:=decide (N.getD i jj=s)
def b5 (N:List ByteArray) (s:ByteArray):Int:=findFrom (Ht N s) N.length 0
theorem where_cases (N:List ByteArray) (s:ByteArray):(b5 N s = -1∧∀ j,j<N.length→N.getD j jj≠s)∨∃ i:Nat,b5 N s=(i:Int)∧i<N.length∧N.getD i jj=s:=by
 unfold b5
 rcases findFrom_cases (Ht N s) N.length 0 with ⟨a,b⟩ | ⟨m,a,b,d,c,e⟩
 ·left
  refine ⟨a,fun j f=>?_⟩
  have:=b j (zU) (by omega)
  simpa [Ht] using this
 right
 exact ⟨m,a,by omega,of_decide_eq_true c⟩
def fN (N:List ByteArray) (i:Nat):Bool:=Op.bytesLess (N.getD i jj).toList (N.getD (i-1) jj).toList || (N.getD i jj).toList == (N.getD (i-1) jj).toList
def dP (N:List ByteArray) (C:List (Int×Int)):Int:=if C.length≠N.length then 3 else if 0≤findFrom (gB C) C.length 0 then 1 else if 0≤findFrom (fN N) (N.length-1) 1 then 7 else 0
theorem tV {N:List ByteArray} {C:List (Int×Int)} (h:C.length≠N.length):dP N C=3:=by unfold dP;rw [if_pos h]
theorem zL {N:List ByteArray} {C:List (Int×Int)} (h:C.length=N.length) {i:Nat} (c:i<C.length) (a:gB C i=true):dP N C=1:=by
 unfold dP;rw [if_neg (by simpa using h)]
 rcases findFrom_cases (gB C) C.length 0 with ⟨_,b⟩ | ⟨m,e,_⟩
 ·rw [b i (zU) (by omega)] at a;cases a
 rw [e,if_pos (by omega)]
theorem zM {N:List ByteArray} {C:List (Int×Int)} (h:C.length=N.length) (d:∀ j,j<C.length→gB C j=false) {i:Nat} (b:1≤i) (f:i<N.length) (a:fN N i=true):dP N C=7:=by
 unfold dP;rw [if_neg (by simpa using h),bR (fun j _ g=>d j (by omega)),if_neg (by omega)]
 rcases findFrom_cases (fN N) (N.length-1) 1 with ⟨_,c⟩ | ⟨m,e,_⟩
 ·rw [c i b (by omega)] at a;cases a
 rw [e,if_pos (by omega)]
theorem sn {N:List ByteArray} {C:List (Int×Int)} (h:C.length=N.length) (c:∀ j,j<C.length→gB C j=false) (b:∀ j,1≤j→j<N.length→fN N j=false):dP N C=0:=by
 unfold dP;rw [if_neg (by simpa using h),bR (fun j _ d=>c j (by omega)),if_neg (by omega),bR (fun j a d=>b j a (by omega)),if_neg (by omega)]
theorem tU {N:List ByteArray} {C:List (Int×Int)} (h:dP N C=0):C.length=N.length∧(∀ j,j<C.length→gB C j=false)∧∀ j,1≤j→j<N.length→fN N j=false:=by
 by_cases a:C.length=N.length
 ·refine ⟨a,?_⟩
  by_cases b:∀ j,j<C.length→gB C j=false
  ·refine ⟨b,fun j d c=>?_⟩
   cases hd:fN N j
   ·rfl
   rw [zM a b d c hd] at h;cases h
  exfalso
  apply b;intro j c;cases hd:gB C j
  ·rfl
  rw [zL a c hd] at h;cases h
 rw [tV a] at h;cases h
theorem J0 {N:List ByteArray} {C:List (Int×Int)} (h:dP N C=0):∀ c∈C,pu c:=by
 intro c b;obtain ⟨j,a,rfl⟩:=List.getElem_of_mem b;have:=(tU h).2.1 j a;unfold gB at this;rw [zZ,zX a] at this
 simpa [pu] using this
/-! names that rise -/
theorem ET {N:List ByteArray} {i:Nat} (h:fN N i=false):(N.getD (i-1) jj).toList<(N.getD i jj).toList:=by
 unfold fN at h;rw [Bool.or_eq_false_iff,bytesLess_eq] at h;have a:=of_decide_eq_false h.1;have b:(N.getD i jj).toList≠(N.getD (i-1) jj).toList:=by simpa using h.2
 rcases Std.lt_trichotomy (N.getD i jj).toList (N.getD (i-1) jj).toList with h3 | h3 | h3
 ·exact absurd h3 a
 ·exact absurd h3 b
 exact h3
theorem Gn {N:List ByteArray} (h:∀ j,1≤j→j<N.length→fN N j=false):∀ i j,i<j→j<N.length→(N.getD i jj).toList<(N.getD j jj).toList:=by
 intro i j b
 induction j with
 | zero=>omega
 | succ j ih =>
  intro c;have a:=ET (h (j+1) (by omega) c)
  by_cases e:i=j
  ·subst e;exact a
  exact List.lt_trans (ih (by omega) (by omega)) a
theorem CS:du 236:=fun args w=>by simp [callFunc,Tryz.func236];rfl
theorem yp (b o n cap k q r:Nat) (M:Nat→Mem) (i:Int) (w:World) (c:k<n) (g:n≤12) (a:b8 w b o n M) (h:w.cell? ⟨q,2,none⟩=some (.slice (some ⟨b,o,none⟩) n cap)) (j:w.cell? ⟨r,0,none⟩=some (.int .i64 i)) :
  Rt 236 #[.int .i64 k,.pointer (some ⟨q,0,none⟩),.pointer (some ⟨r,0,none⟩)] w (.bool (iJ M i k)):=by
 obtain ⟨-,f,-,-⟩:=a.2 k c;have d:(k:Int)<(n:Int):=by omega
 have e:(n:Int)≤12:=by omega
 unfold iJ;clear a
 go_enter Tryz.func236,Tryz.ntmps236
 go_wp2_with fail
 go_quiet (fail)
 go_wp2_with fail;go_ret;exact ⟨by simp,ac (zS) _⟩
def IY (c:Int) (L:List Int):List Int:=if c=0 then L else []
theorem Fp {c:Int} (h:c=0) (L:List Int):IY c L=L:=by simp [IY,h]
theorem Hv {c:Int} (h:c≠0) (L:List Int):IY c L=[]:=by simp [IY,h]
theorem qF {d:Dm} {L:List Int} (h:treeErr d L=0):(ay d).2=0:=by
 unfold treeErr at h
 split at h
 ·rename_i h1;exact absurd h h1
 rename_i h1;simpa using h1
theorem zm {d:Dm} {i:Int} (h:treeErr d [i]=0):(ay d).2=0∧∃ k:Nat,i=k∧k<d.n:=by
 have a:=qF h;rw [g9 a] at h
 by_cases b:i<0∨(d.n:Int)≤i
 ·rw [if_pos b] at h;cases h
 exact ⟨a,i.toNat,by omega,by omega⟩
theorem uu {w:World} {i:Int} {T:Nat}:bX (ii w i T) (some ⟨w.heap.size,0,none⟩) 1 [i]:=by
 refine ⟨zT,Or.inr ⟨_,rfl,by rw [gV];omega,fun j b=>?_⟩⟩
 have a:j=0:=by simp at b;omega
 subst a;exact mC w i T
def nw (w:World) (d:Dm) (A:Option Addr) (cap:Nat) (i:Int) (T T':Nat):World:=ii (aL w d A cap T) i T'
theorem iH (w:World) (d:Dm) (A:Option Addr) (cap:Nat) (i:Int) (T T':Nat):(nw w d A cap i T T').heap.size=w.heap.size+2:=by unfold nw;rw [gV,bg]
theorem pD (w:World) (d:Dm) (A:Option Addr) (cap:Nat) (i:Int) (T T':Nat):Bl w (nw w d A cap i T T'):=ae (aT w d A cap T) (eg _ i T')
theorem vj (w:World) (d:Dm) (A:Option Addr) (cap:Nat) (i:Int) (T T':Nat):(nw w d A cap i T T').cell? ⟨w.heap.size,2,none⟩=some (.slice A d.n cap) :=
 ((eg (aL w d A cap T) i T').cell (p:=⟨w.heap.size,2,none⟩) (by show w.heap.size<_;rw [bg];omega)).trans (dO w d A cap T).2.2
theorem F0 (w:World) (d:Dm) (A:Option Addr) (cap:Nat) (i:Int) (T T':Nat):(nw w d A cap i T T').cell? ⟨w.heap.size+1,0,none⟩=some (.int .i64 i):=by
 unfold nw;rw [←bg w d A cap T];exact mC _ i T'
theorem CP (w:World) (d:Dm) (A:Option Addr) (cap:Nat) (i:Int) (T T':Nat):bX (nw w d A cap i T T') (some ⟨w.heap.size+1,0,none⟩) 1 [i]:=by
 unfold nw;rw [←bg w d A cap T];exact uu
def vk (w:World) (d:Dm) (A:Option Addr) (cap:Nat) (i:Int) (T T':Nat):World:=ii (nw w d A cap i T T') i T'
theorem mD (w:World) (d:Dm) (A:Option Addr) (cap:Nat) (i:Int) (T T':Nat):(vk w d A cap i T T').heap.size=w.heap.size+3:=by unfold vk;rw [gV,iH]
theorem yk (w:World) (d:Dm) (A:Option Addr) (cap:Nat) (i:Int) (T T':Nat):Bl w (vk w d A cap i T T'):=ae (pD w d A cap i T T') (eg _ i T')
theorem F1 (w:World) (d:Dm) (A:Option Addr) (cap:Nat) (i:Int) (T T':Nat):(vk w d A cap i T T').cell? ⟨w.heap.size,2,none⟩=some (.slice A d.n cap) :=
 ((eg (nw w d A cap i T T') i T').cell (p:=⟨w.heap.size,2,none⟩) (by show w.heap.size<_;rw [iH];omega)).trans (vj ..)
theorem F2 (w:World) (d:Dm) (A:Option Addr) (cap:Nat) (i:Int) (T T':Nat):(vk w d A cap i T T').cell? ⟨w.heap.size+1,0,none⟩=some (.int .i64 i) :=
 ((eg (nw w d A cap i T T') i T').cell (p:=⟨w.heap.size+1,0,none⟩) (by show w.heap.size+1<_;rw [iH];omega)).trans (F0 ..)
theorem CQ (w:World) (d:Dm) (A:Option Addr) (cap:Nat) (i:Int) (T T':Nat):bX (vk w d A cap i T T') (some ⟨w.heap.size+2,0,none⟩) 1 [i]:=by
 unfold vk;rw [←iH w d A cap i T T'];exact uu
def sA (d:Dm) (i:Int):Bool:=decide (treeErr d [i]=0) && leafB d.mem d.n i.toNat
theorem rQ (d:Dm) (A:Option Addr) (cap:Nat) (i:Int) (w:World) (r:eh w A cap d.n d.mem):Rt 155 #[cQ d A cap,.int .i64 i] w (.tuple #[.bool (sA d i),errV (treeErr d [i])]):=by
 have h:=pD w d A cap i 70 3;have a:=qg d A cap _ 1 [i] (nw w d A cap i 70 3) (r.later h) (by simp) (CP ..)
 have j:=aa h;have z:=aa r;unfold cQ at a ⊢;simp only [List.length_singleton] at a;clear r h
 by_cases g:treeErr d [i]=0
 ·obtain ⟨x,k,rfl,B⟩:=zm g
  rw [g,errV_zero] at a;obtain ⟨-,-,t,-⟩:=aI x;have p:Hid (sA d (k:Int)=leafB d.mem d.n k):=by show _=_;simp [sA,g]
  have m:Hid (errV (treeErr d [(k:Int)])=.nilIface):=by show _=_;rw [g];rfl
  clear g x
  go_enter Tryz.func155,Tryz.ntmps155
  go_wp2_with fail;refine a.mono ?_;rintro e w1 ⟨rfl,f⟩;have q:Bl w w1:=ae j.out f;have D:w1.cell? ⟨w.heap.size,2,none⟩=some (.slice A d.n cap):=aC f (by show w.heap.size<_;rw [iH];omega) (vj ..)
  obtain ⟨v,C | ⟨b,o,rfl,l⟩⟩:=z.out.later q
  ·omega
  have u:=xD b o d.n cap k d.mem w1 t B l;have y:=aa q;clear f a l q;go_wp2_with fail;refine u.mono ?_;rintro e w2 ⟨rfl,s⟩;go_wp2_with fail
  go_ret2
  rw [p.out,m.out];exact ⟨rfl,ae y.out s⟩
 have p:Hid (sA d i=false):=by show _=_;simp [sA,g]
 have m:Hid (errV (treeErr d [i])=.iface 63 (.int .i64 (treeErr d [i]))):=ak g;rw [ak g] at a;clear g;generalize treeErr d [i]=c at a m
 go_enter Tryz.func155,Tryz.ntmps155
 go_wp2_with fail;refine a.mono ?_;rintro e w1 ⟨rfl,f⟩;go_wp2_with fail
 go_ret2
 rw [p.out,m.out];exact ⟨rfl,ae j.out f⟩
theorem pS (d:Dm) (b o cap:Nat) (i:Int) (w:World) (X:d.n≤12) (K:b8 w b o d.n d.mem):Calls Tryz.prog 65 #[.agg #[.string d.name,.int .i64 d.solve,.slice (some ⟨b,o,none⟩) d.n cap],.int .i64 i] w fun e w'=>(∃ A c,e=.returned (.slice A (bA d.mem d.n i).length c)∧bX w' A c (bA d.mem d.n i))∧Bl w w':=by
 obtain ⟨i0,y,F,G,H⟩:=info_parts Tryz.infoInt;have L:=bg w d (some ⟨b,o,none⟩) cap 70;have m:=aT w d (some ⟨b,o,none⟩) cap 70;have v:=(dO w d (some ⟨b,o,none⟩) cap 70).2.2;obtain ⟨W,x⟩:∃ W,W=aL w d (some ⟨b,o,none⟩) cap 70:=⟨_,rfl⟩;rw [←x] at L m v;have R:=aa x;have r:=aa m;have P:=aa (K.later m);have O:=aa v;have E:w.heap.size<W.heap.size:=by omega
 have U:(d.n:Int)≤12:=by omega
 obtain ⟨p,C⟩:∃ p:Nat→Bool,p=iJ d.mem i:=⟨_,rfl⟩;have Q:=aa C;unfold bA;rw [←C];clear K x m v L C
 go_enter Tryz.func65,Tryz.ntmps65
 go_wp2_with fail
 go_loopg [5,6] d.n (fun g s5 s6 wr => ∃ (k:Nat),k≤d.n∧g=d.n-k∧s6=.int .i64 k∧wr.ownsRow W.heap.size 3 1 s5 (selTo p k).length (aE (selTo p k))∧Bl W wr)
 case atStart=>exact ⟨0,zU,rfl,rfl,World.ownsRow_nil _ _ _ _,by rw [R.out];exact zS⟩
 case round =>
  obtain ⟨k,V,rfl,rfl,a,f⟩:=hrel;have q:=aa f;have I:=aa a;have c2:wr.cell? ⟨w.heap.size,2,none⟩=some (.slice (some ⟨b,o,none⟩) d.n cap):=aC f E O.out;have N:=f.size
  by_cases B:k<d.n
  ·have T:(k:Int)<(d.n:Int):=by omega
   obtain ⟨-,J,-,-⟩:=(P.out.later f).2 k B;have M:=cG p k;have h:p k=((d.mem k).parent == i):=by rw [Q.out];rfl
   clear f;cases hb:p k
   ·have t:=aa hb
    rw [hb] at h;have D:((d.mem k).parent == i)=false:=h.symm;clear hb h a;go_wp2_with fail
    go_roundg (d.n-(k+1))
    case measure=>omega
    case rel=>exact ⟨k+1,by omega,rfl,by go_num,by rw [gI t.out];exact I.out,q.out⟩
   have t:=aa hb;rw [hb] at h;have D:((d.mem k).parent == i)=true:=h.symm;clear hb h
   go_wp2_with (at_builtin;refine wpList_append_own _ rfl _ _ 26 rfl W.heap.size 3 i0 (.int .i64 0) 1 8 Tryz.underlying26 y F G H rfl (by decide) _ _ _ rfl (a.alloc _) ⟨wr.heap.size,0,none⟩ 1 1 [.int .i64 k] rfl rfl bz dG (by unfold maxLen;omega) (by omega) (by simp;omega) ?_)
   intro v' w2 l j _;have s:Hid (Bl W w2):=bD q.out a j;have u:Hid (w2.ownsRow W.heap.size 3 1 v' (selTo p (k+1)).length (aE (selTo p (k+1)))):=by
    show World.ownsRow ..
    rw [jT t.out,mapI_snoc,List.length_append];exact l
   clear l j a c2;go_wp2_with fail
   go_roundg (d.n-(k+1))
   case measure=>omega
   case rel=>exact ⟨k+1,by omega,rfl,by go_num,u.out,s.out⟩
  have z:k=d.n:=by omega
  subst z;clear f a;go_wp2_with fail;go_ret;obtain ⟨A,c,J,S⟩:=sy I.out;exact ⟨⟨A,c,by rw [←J];rfl,S⟩,ae r.out q.out⟩
theorem DD {p:Nat→Bool} {n:Nat}:((selTo p n).length=0)↔¬ 0≤findFrom p n 0:=by
 rcases findFrom_cases p n 0 with ⟨a,b⟩ | ⟨k,a,_,f,c,_⟩
 ·rw [a,yU (fun j g=>b j (zU) (by omega))]
  simp
 rw [a]
 constructor
 ·intro h
  have d:∀ m,k<m→0<(selTo p m).length:=fun m i=>by
   induction m with
   | zero=>omega
   | succ m ih =>
    rw [selTo,List.length_append]
    by_cases e:k=m
    ·subst e;rw [if_pos c];simp
    have:=ih (by omega);omega
  have:=d n (by omega)
  omega
 intro h;omega
theorem rL (d:Dm) (b o cap i:Nat) (w:World) (u:d.n≤12) (s:i<d.n) (j:b8 w b o d.n d.mem):Rt 87 #[.agg #[.string d.name,.int .i64 d.solve,.slice (some ⟨b,o,none⟩) d.n cap],.int .i64 i] w (.bool (leafB d.mem d.n i)):=by
 have q:=bg w d (some ⟨b,o,none⟩) cap 70;have a:=aT w d (some ⟨b,o,none⟩) cap 70;have g:=j.later a;have c:=pS d b o cap i (aL w d (some ⟨b,o,none⟩) cap 70) u g;have k:=aa a;obtain ⟨-,-,-,y⟩:=j.2 i s;have r:=j.1;have t:(i:Int)<(d.n:Int):=by omega
 have v:(d.n:Int)≤12:=by omega
 clear j g a q
 by_cases f:(d.mem i).formula.size=0
 ·have m:(d.mem i).formula.toList.isEmpty=true:=by rw [aU];simpa using f
  have h:Hid (leafB d.mem d.n i=(((bA d.mem d.n i).length:Int) == 0)):=by
   show _=_
   rw [mX f,Bool.eq_iff_iff];have:=DD (p:=iJ d.mem i) (n:=d.n);simp only [Bool.not_eq_true',decide_eq_false_iff_not,beq_iff_eq];rw [←this]
   show _↔((bA d.mem d.n i).length:Int)=0
   unfold bA
   omega
  clear f;generalize (bA d.mem d.n i).length=np at c h
  go_enter Tryz.func87,Tryz.ntmps87
  go_wp2_with fail;refine c.mono ?_;rintro e w1 ⟨⟨A',x,rfl,z⟩,l⟩;go_wp2_with fail;go_ret;exact ⟨by rw [h.out];rfl,ae k.out l⟩
 have m:(d.mem i).formula.toList.isEmpty=false:=by rw [aU];simpa using f
 have h:Hid (leafB d.mem d.n i=false):=o8 f;clear f c
 go_enter Tryz.func87,Tryz.ntmps87
 go_wp2_with fail;go_ret;exact ⟨by rw [h.out];rfl,by go_grown⟩
theorem oh (j q r:Nat) (u:du j) (A0:Option Addr) (n cap:Nat) (p:Nat→Bool) (w:World) (z:n≤4) (s:JW j q r w n p):Rt 110 #[.agg #[.slice A0 n cap],.func (.func j) #[] #[.pointer (some ⟨q,0,none⟩),.pointer (some ⟨r,0,none⟩)]] w (.bool (decide (0≤findFrom p n 0))):=by
 have t:=aa s;have x:(n:Int)≤4:=by omega
 clear s;unfold du at u
 go_enter Tryz.func110,Tryz.ntmps110
 go_wp2_with fail
 go_loopg [5,9] n (fun g s5 s9 wr => ∃ (k:Nat),k≤n∧g=n-k∧s9=.int .i64 k∧findFrom p (n-k) k=findFrom p n 0∧Bl w wr)
 case atStart=>exact ⟨0,zU,rfl,rfl,rfl,by go_grown⟩
 case round =>
  obtain ⟨k,y,rfl,rfl,l,a⟩:=hrel;have f:=aa l;have i:=aa a
  by_cases o:k<n
  ·have v:(k:Int)<(n:Int):=by omega
   have d:Hid (n-k=(n-(k+1))+1):=by show _=_;omega
   have b:=t.out k wr o a;clear l a;cases hb:p k
   ·rw [hb] at b
    have h:=aa hb;clear hb;go_wp2_with fail;refine b.mono ?_;rintro e w1 ⟨rfl,c⟩;go_wp2_with fail
    go_roundg (n-(k+1))
    case measure=>omega
    case rel=>exact ⟨k+1,by omega,rfl,by go_num,by rw [←f.out,d.out,be _ h.out],ae i.out c⟩
   rw [hb] at b;have h:=aa hb;clear hb;go_wp2_with fail;refine b.mono ?_;rintro e w1 ⟨rfl,c⟩;go_wp2_with fail;go_ret;exact ⟨by rw [←f.out,d.out,bu _ h.out,decide_eq_true (by omega)];rfl,ae i.out c⟩
  have m:k=n:=by omega
  subst m;clear l a;go_wp2_with fail;go_ret;exact ⟨by rw [←f.out,Nat.sub_self];rfl,i.out⟩
def ko (w:World) (A0:Option Addr) (n cap:Nat) (Ap:Option Addr) (m cp T T':Nat):World:=(ax w A0 n cap T).alloc (.cells #[.slice Ap m cp] T')
theorem dX (w:World) (A0:Option Addr) (n cap:Nat) (Ap:Option Addr) (m a T T':Nat):(ko w A0 n cap Ap m a T T').heap.size=w.heap.size+2:=by unfold ko;simp [av]
theorem nf (w:World) (A0:Option Addr) (n cap:Nat) (Ap:Option Addr) (m a T T':Nat):Bl w (ko w A0 n cap Ap m a T T'):=by unfold ko ax;go_grown
theorem sR (w:World) (A0:Option Addr) (n cap:Nat) (Ap:Option Addr) (m a T T':Nat):(ko w A0 n cap Ap m a T T').cell? ⟨w.heap.size,0,none⟩=some (.slice A0 n cap):=by
 unfold ko;rw [World.cell?_alloc_lt _ _ ⟨w.heap.size,0,none⟩ (by rw [av];exact Nat.lt_succ_self _)]
 exact aH ..
theorem sS (w:World) (A0:Option Addr) (n cap:Nat) (Ap:Option Addr) (m a T T':Nat):(ko w A0 n cap Ap m a T T').cell? ⟨w.heap.size+1,0,none⟩=some (.slice Ap m a):=by
 unfold ko;rw [←av w A0 n cap T]
 simp
theorem yq:du 111:=fun args w=>by simp [callFunc,Tryz.func111];rfl
theorem vn (b o n cap k q r bp op d:Nat) (D:Nat→Dm) (A:Nat→Option Addr) (C:Nat→Nat) (x:Int) (w:World) (g:k<n) (s:n≤4) (f:(D k).n≤12) (c:dV w b o n D A C) (v:w.cell? ⟨bp,op+k,none⟩=some (.int .i64 x)) (t:w.cell? ⟨q,0,none⟩=some (.slice (some ⟨bp,op,none⟩) n d)) (u:w.cell? ⟨r,0,none⟩=some (.slice (some ⟨b,o,none⟩) n cap)) :
  Rt 111 #[.int .i64 k,.pointer (some ⟨q,0,none⟩),.pointer (some ⟨r,0,none⟩)] w (.bool (decide (x<0) || decide (((D k).n:Int)≤x))):=by
 obtain ⟨-,-,e,-⟩:=c.2 k g;have h:(k:Int)<(n:Int):=by omega
 have i:(n:Int)≤4:=by omega
 generalize (D k).n=m at e f;have p:(m:Int)≤12:=by omega
 clear c
 by_cases a:x<0
 ·rw [decide_eq_true a]
  go_enter Tryz.func111,Tryz.ntmps111
  go_wp2_with fail
  go_quiet (fail)
  go_wp2_with fail;go_ret;exact ⟨by simp,ac (zS) _⟩
 rw [decide_eq_false a];have j:0≤x:=by omega
 have l:decide (x<0)=false:=decide_eq_false a
 go_enter Tryz.func111,Tryz.ntmps111
 go_wp2_with fail
 go_quiet (fail)
 go_wp2_with fail;go_ret;exact ⟨by simp,ac (zS) _⟩
theorem kJ (A0:Option Addr) (cap n:Nat) (D:Nat→Dm) (A:Nat→Option Addr) (C:Nat→Nat) (Ap:Option Addr) (r:Nat) (L:List Int) (w:World) (G:aW w A0 cap n D A C) (M:aZ w Ap r L):Rt 68 #[.agg #[.slice A0 n cap],.slice Ap L.length r] w (errV (placeErr D n L)):=by
 have s:=nf w A0 n cap Ap L.length r 24 27;have h:=oC A0 cap n D A C (ko w A0 n cap Ap L.length r 24 27) (G.later s);have f:=aa s;have T:=aa G;have U:=aa M;clear G s M
 by_cases q:(am D n).2.2=0
 ·obtain ⟨W,z,-,O⟩:=au q
  have v:Hid (placeErr D n L=shapeErr D n L):=D6 q;rw [q,errV_zero] at h;have S:=aa O;have V:(n:Int)≤4:=by omega
  clear q O
  by_cases i:L.length=n
  ·have u:((L.length:Int) == (n:Int))=true:=by simp [i]
   have J:=aa i;obtain ⟨I,K | ⟨bp,op,rfl,H,g⟩⟩:=U.out
   ·rw [K] at i;simp at i;omega
   rw [i] at h f I u;rw [i];have R:Hid (∀ j,j<n→w.cell? ⟨bp,op+j,none⟩=some (.int .i64 (L.getD j 0))):=fun j F=>g j (by omega)
   clear i g
   go_enter Tryz.func68,Tryz.ntmps68
   go_wp2_with fail;refine h.mono ?_;rintro e w1 ⟨rfl,a⟩;have E:Bl w w1:=ae f.out a;have X:w.heap.size+1<w1.heap.size:=by have:=a.size;rw [dX] at this;omega
   have P:w1.cell? ⟨w.heap.size,0,none⟩=some (.slice A0 n cap):=aC a (by show w.heap.size<_;rw [dX];omega) (sR ..)
   have Q:w1.cell? ⟨w.heap.size+1,0,none⟩=some (.slice (some ⟨bp,op,none⟩) n r):=aC a (by show w.heap.size+1<_;rw [dX];omega) (sS ..)
   obtain ⟨N,K | ⟨b,o,rfl,y⟩⟩:=T.out.later E
   ·omega
   have d:=oh 111 (w.heap.size+1) w.heap.size yq (some ⟨b,o,none⟩) n cap (j9 D L) w1 z (fun j w' F k=>vn b o n cap j (w.heap.size+1) w.heap.size bp op r D A C (L.getD j 0) w' F z (S.out j F).2 (y.later k) (((ae E k).cell (p:=⟨bp,op+j,none⟩) H).trans (R.out j F)) (aC k X Q) (aC k (by show w.heap.size<_;omega) P))
   have B:=aa E;clear a h y E
   by_cases x:0≤findFrom (j9 D L) n 0
   ·rw [decide_eq_true x] at d
    have l:Hid (placeErr D n L=1):=by show _=_;rw [v.out,KC J.out x]
    clear x;go_wp2_with fail;refine d.mono ?_;rintro e w2 ⟨rfl,t⟩;go_wp2_with fail;go_ret;exact ⟨by rw [l.out];rfl,ae B.out t⟩
   rw [decide_eq_false x] at d;have l:Hid (placeErr D n L=0):=by show _=_;rw [v.out,KD J.out x]
   clear x;go_wp2_with fail;refine d.mono ?_;rintro e w2 ⟨rfl,t⟩;go_wp2_with fail;go_ret;exact ⟨by rw [l.out];rfl,ae B.out t⟩
  have u:((L.length:Int) == (n:Int))=false:=by simp;omega
  have l:Hid (placeErr D n L=3):=by show _=_;rw [v.out,KP i]
  generalize L.length=m at h u f;clear i
  go_enter Tryz.func68,Tryz.ntmps68
  go_wp2_with fail;refine h.mono ?_;rintro e w1 ⟨rfl,a⟩;have P:w1.cell? ⟨w.heap.size,0,none⟩=some (.slice A0 n cap):=aC a (by show w.heap.size<_;rw [dX];omega) (sR ..)
  have Q:w1.cell? ⟨w.heap.size+1,0,none⟩=some (.slice Ap m r):=aC a (by show w.heap.size+1<_;rw [dX];omega) (sS ..)
  have B:=aa (ae f.out a);clear a h;go_wp2_with fail;go_ret;exact ⟨by rw [l.out];rfl,B.out⟩
 have l:Hid (placeErr D n L=(am D n).2.2):=KX q;have v:Hid (errV (am D n).2.2=.iface 63 (.int .i64 (am D n).2.2)):=ak q;rw [ak q] at h;clear q;generalize (am D n).2.2=c at h v l;generalize L.length=m at h f
 go_enter Tryz.func68,Tryz.ntmps68
 go_wp2_with fail;refine h.mono ?_;rintro e w1 ⟨rfl,a⟩;go_wp2_with fail;go_ret;exact ⟨by rw [l.out,v.out];rfl,ae f.out a⟩
theorem gX (A0:Option Addr) (cap n:Nat) (D:Nat→Dm) (A:Nat→Option Addr) (C:Nat→Nat) (Ap:Option Addr) (M:Nat) (L:List Int) (w:World) (P:aW w A0 cap n D A C) (Q:aZ w Ap M L):Rt 33 #[.agg #[.slice A0 n cap],.slice Ap L.length M] w (.tuple #[.int .i64 (numV D n L),errV (placeErr D n L)]):=by
 have l:=ao w A0 n cap 24;have h:=kJ A0 cap n D A C Ap M L (ax w A0 n cap 24) (P.later l) (Q.later l);have u:=aa l;have HM:=aa P;have HP:=aa Q;clear P l Q
 by_cases r:placeErr D n L=0
 ·have t:Hid (InO D n L):=fY r
  have HV:Hid (numV D n L=numI D L n):=by show _=_;unfold numV;rw [if_pos r]
  have I:Hid (errV (placeErr D n L)=.nilIface):=by show _=_;rw [r];rfl
  rw [r,errV_zero] at h;obtain ⟨hn1,hn4,-,Z⟩:=au t.out.right;have HD:=aa Z;have hn':(n:Int)≤4:=by omega
  have G:=t.out.len;obtain ⟨S,N | ⟨bp,op,rfl,R,f⟩⟩:=HP.out
  ·rw [N] at G;simp at G;omega
  rw [G] at h S;rw [G];have HC:Hid (∀ j,j<n→w.cell? ⟨bp,op+j,none⟩=some (.int .i64 (L.getD j 0))):=fun j hj=>f j (by omega)
  clear r Z G f
  go_enter Tryz.func33,Tryz.ntmps33
  go_wp2_with fail;refine h.mono ?_;rintro e w1 ⟨rfl,a⟩;have O:Bl w w1:=ae u.out a;have h2:w1.cell? ⟨w.heap.size,0,none⟩=some (.slice A0 n cap):=aC a (by show w.heap.size<_;rw [av];omega) (aH ..)
  obtain ⟨Y,N | ⟨b,o,rfl,z⟩⟩:=HM.out.later O
  ·omega
  have J:=aa z;have X:=aa O;clear a h z O;go_wp2_with fail
  go_loopg [7,19] n (fun g s7 s19 wr => ∃ (k:Nat),k≤n∧g=n-k∧s19=.int .i64 k∧s7=.int .i64 (numI D L k)∧Bl w1 wr)
  case atStart=>exact ⟨0,zU,rfl,rfl,rfl,zS⟩
  case round =>
   obtain ⟨k,hk,rfl,rfl,rfl,q⟩:=hrel;have K:=aa q
   by_cases i:k<n
   ·obtain ⟨N,h1,h3,-⟩:=(J.out.later q).2 k i
    have hki:(k:Int)<(n:Int):=by omega
    have s:wr.cell? ⟨bp,op+k,none⟩=some (.int .i64 (L.getD k 0)):=((ae X.out q).cell (p:=⟨bp,op+k,none⟩) R).trans (HC.out k i);have F:∀ o1,(wr.alloc o1).cell? ⟨bp,op+k,none⟩=some (.int .i64 (L.getD k 0)):=fun o1=>(World.cell?_alloc_lt _ _ ⟨bp,op+k,none⟩ (World.block_lt_of_cell? _ _ s)).trans s
    obtain ⟨a,d,hb3⟩:=a8 t.out (k:=k+1) (by omega)
    obtain ⟨B,E,hb6⟩:=a8 t.out (k:=k) (by omega)
    have W:=t.out.lo k i;have H:=t.out.hi k i;obtain ⟨T,U⟩:=HD.out k i;have v:Hid (numI D L (k+1)=numI D L k*((D k).n:Int)+L.getD k 0):=rfl;rw [v.out] at a d;generalize L.getD k 0=x at s F a d W H v;generalize (D k).n=m at h3 a d T U H v;generalize numI D L k=y at a d B E v;have hm0:0≤y*(m:Int):=Int.mul_nonneg B (by omega)
    have hm1:y*(m:Int)≤20736:=by omega
    have hm2:y*(m:Int)+x≤20736:=by omega
    clear q d E;go_wp2_with fail
    go_quiet (fail)
    go_wp2_with fail
    go_roundg (n-(k+1))
    case measure=>omega
    case rel=>exact ⟨k+1,by omega,rfl,by go_num,by rw [v.out],ac (K.out.alloc (by have:=K.out.size;omega) _) _⟩
   have V:k=n:=by omega
   subst V;go_wp2_with fail
   go_ret2
   rw [HV.out,I.out];exact ⟨rfl,ae X.out K.out⟩
 have HV:Hid (numV D n L=0):=by show _=_;unfold numV;rw [if_neg r]
 have I:Hid (errV (placeErr D n L)=.iface 63 (.int .i64 (placeErr D n L))):=ak r;rw [ak r] at h;clear r;generalize placeErr D n L=c at h I;generalize L.length=m at h
 go_enter Tryz.func33,Tryz.ntmps33
 go_wp2_with fail;refine h.mono ?_;rintro e w1 ⟨rfl,a⟩;go_wp2_with fail
 go_ret2
 rw [HV.out,I.out];exact ⟨rfl,ae u.out a⟩
theorem rC (b o n cap:Nat) (D:Nat→Dm) (A:Nat→Option Addr) (C:Nat→Nat) (w:World) (J:n≤4) (q:∀ j,j<n→(D j).n≤12) (m:dV w b o n D A C):Rt 49 #[.agg #[.slice (some ⟨b,o,none⟩) n cap]] w (.int .i64 (prodN D n)):=by
 have s:=aa m;have t:=aa q;clear m q;have p:=av w (some ⟨b,o,none⟩) n cap 24;have c:=ao w (some ⟨b,o,none⟩) n cap 24;have a:=aH w (some ⟨b,o,none⟩) n cap 24;obtain ⟨W,f⟩:∃ W,W=ax w (some ⟨b,o,none⟩) n cap 24:=⟨_,rfl⟩;rw [←f] at c p a;have v:=aa f;have r:=aa a;have d:=aa c;have B:(n:Int)≤4:=by omega
 clear f a c p
 go_enter Tryz.func49,Tryz.ntmps49
 go_wp2_with fail
 go_loopg [3,4] n (fun g s3 s4 wr => ∃ (k:Nat),k≤n∧g=n-k∧s4=.int .i64 k∧s3=.int .i64 (prodN D k)∧wr=W)
 case atStart=>exact ⟨0,zU,rfl,rfl,rfl,by rw [v.out];rfl⟩
 case round =>
  obtain ⟨k,I,rfl,rfl,rfl,rfl⟩:=hrel;have c0:=r.out
  by_cases i:k<n
  ·obtain ⟨E,F,G,-⟩:=(s.out.later d.out).2 k i
   have x:(k:Int)<(n:Int):=by omega
   have l:prodN D (k+1)≤20736:=kK (fun j H=>t.out j (by omega)) (by omega)
   have e:(prodN D (k+1):Int)=(prodN D k:Int)*((D k).n:Int):=by rw [prodN];exact Int.natCast_mul _ _
   have y:0≤(prodN D k:Int)*((D k).n:Int):=by omega
   have z:(prodN D k:Int)*((D k).n:Int)≤20736:=by omega
   have u:=aa e;clear l e;go_wp2_with fail
   go_roundg (n-(k+1))
   case measure=>omega
   case rel=>exact ⟨k+1,by omega,rfl,by go_num,by rw [u.out],rfl⟩
  have h:k=n:=by omega
  subst h;go_wp2_with fail;go_ret;exact ⟨rfl,d.out⟩
theorem wH {D:Nat→Dm} {k j:Nat} (a:j<k) (h:same (D j).name (D k).name=true):fW D k=true:=by
 unfold fW;exact decide_eq_true (fX (q:=fun j=>same (D j).name (D k).name) a h)
theorem tW {D:Nat→Dm} {k:Nat} (h:findFrom (fun j=>same (D j).name (D k).name) k 0 = -1):fW D k=false:=by
 unfold fW;rw [h]
 rfl
theorem lH (A0:Option Addr) (cap n:Nat) (D:Nat→Dm) (A:Nat→Option Addr) (C:Nat→Nat) (w:World) (hM:aW w A0 cap n D A C):Rt 34 #[.agg #[.slice A0 n cap]] w (.tuple #[.int .i64 (am D n).1,.int .i64 (am D n).2.1,.int .i64 (am D n).2.2]):=by
 by_cases H:4<n
 ·have hn':4<(n:Int):=by omega
  have d:Hid (am D n=(-1,-1,4)):=KF H;clear H hM
  go_enter Tryz.func34,Tryz.ntmps34
  go_wp2_with fail;refine bodyPost_ret (v:=.tuple #[.int .i64 (-1),.int .i64 (-1),.int .i64 4]) (by simp [results,Tryz.results34,go_sem]) rfl ⟨by rw [d.out],?_⟩
  go_grown
 have hn':(n:Int)≤4:=by omega
 by_cases G:n=0
 ·have d:Hid (am D n=(-1,-1,5)):=KG G
  have hz:((n:Int) == 0)=true:=by simp [G]
  clear G hM H
  go_enter Tryz.func34,Tryz.ntmps34
  go_wp2_with fail;refine bodyPost_ret (v:=.tuple #[.int .i64 (-1),.int .i64 (-1),.int .i64 5]) (by simp [results,Tryz.results34,go_sem]) rfl ⟨by rw [d.out],?_⟩
  go_grown
 have hz:((n:Int) == 0)=false:=by simp;omega
 obtain ⟨hcap,h0 | ⟨b,o,rfl,L⟩⟩:=hM
 ·omega
 have hcap':(n:Int)≤(cap:Int):=by omega
 have x:=ao w (some ⟨b,o,none⟩) n cap 24;have hS:=av w (some ⟨b,o,none⟩) n cap 24;have Z:=aH w (some ⟨b,o,none⟩) n cap 24;obtain ⟨W,hW⟩:∃ W,W=ax w (some ⟨b,o,none⟩) n cap 24:=⟨_,rfl⟩;rw [←hW] at x hS Z;have X:=aa (L.later x);have R:w.heap.size<W.heap.size:=by omega
 clear L;have HW:=aa hW;have HA:=aa Z;have h:=aa x;clear hW Z x hS
 go_enter Tryz.func34,Tryz.ntmps34
 go_wp2_with fail
 go_loopg [5] n (fun g s5 wr => ∃ (k:Nat),k≤n∧g=n-k∧s5=.int .i64 k∧dQ D (n-k) k=dQ D n 0∧Bl W wr)
 case atStart=>exact ⟨0,zU,rfl,rfl,rfl,by rw [HW.out];exact zS⟩
 case round =>
  obtain ⟨k,hk,rfl,rfl,Q,m⟩:=hrel;obtain ⟨wo,rfl⟩:∃ wo:World,wo=wr:=⟨_,rfl⟩;have u:=aa m;have T:=aa Q;have c0:wo.cell? ⟨w.heap.size,0,none⟩=some (.slice (some ⟨b,o,none⟩) n cap):=aC m R HA.out;have q:=X.out.later m;have E:w.heap.size<wo.heap.size:=zW R m.size;clear Q m
  by_cases P:k<n
  ·obtain ⟨h0,h1,h2,h3⟩:=q.2 k P
   have hki:(k:Int)<(n:Int):=by omega
   have I:n-k=(n-(k+1))+1:=by omega
   have c:=vy (D k) (A k) (C k) wo h3;unfold cQ at c;have K:=aa q;clear h3 q
   by_cases t:(ay (D k)).2=0
   ·obtain ⟨e1,hd1,hd2,-⟩:=aI t
    rw [t,e1] at c;have S:=aa t;clear t e1;go_wp2_with fail;refine c.mono ?_;rintro e w1 ⟨rfl,a⟩;have hz1:w.heap.size<w1.heap.size:=zW E a.size;have c1:w1.cell? ⟨w.heap.size,0,none⟩=some (.slice (some ⟨b,o,none⟩) n cap):=aC a E c0;have V:=aa (K.out.later a);have i:=aa (ae u.out a);clear a c c0 h0 h1 h2 K hd1 hd2;go_wp2_with fail
    go_loopg [7,8] k (fun g s7 s8 wr => ∃ (j:Nat),j≤k∧g=k-j∧s8=.int .i64 j∧((s7=.int .i64 0∧findFrom (fun j=>same (D j).name (D k).name) (k-j) j=findFrom (fun j=>same (D j).name (D k).name) k 0)∨(s7=.int .i64 7∧fW D k=true))∧Bl w1 wr)
    case atStart=>exact ⟨0,zU,rfl,rfl,Or.inl ⟨rfl,rfl⟩,zS⟩
    case round =>
     obtain ⟨j,hj,rfl,rfl,hs,y⟩:=hrel;have l:=aa y;have c2:wr.cell? ⟨w.heap.size,0,none⟩=some (.slice (some ⟨b,o,none⟩) n cap):=aC y hz1 c1;have p:=V.out.later y;clear y
     rcases hs with ⟨rfl,N⟩ | ⟨rfl,r⟩
     ·have J:=aa N
      clear N
      by_cases O:j<k
      ·obtain ⟨a0,-,-,-⟩:=p.2 j (by omega)
       obtain ⟨b0,-,-,-⟩:=p.2 k P;have hji:(j:Int)<(k:Int):=by omega
       have hjn:(j:Int)<(n:Int):=by omega
       have hsj:k-j=(k-(j+1))+1:=by omega
       clear p;cases hq:((D j).name.toList == (D k).name.toList)
       ·have Y:=aa hq
        go_wp2_with fail
        go_quiet (fail)
        go_wp2_with fail
        go_roundg (k-(j+1))
        case measure=>omega
        case rel=>exact ⟨j+1,by omega,rfl,by go_num,Or.inl ⟨rfl,by rw [←J.out,hsj,be _ Y.out]⟩,ae l.out (ac (zS) _)⟩
       have Y:Hid (fW D k=true):=wH O hq;go_wp2_with fail
       go_quiet (fail)
       go_wp2_with fail
       go_roundg (k-(j+1))
       case measure=>omega
       case rel=>exact ⟨j+1,by omega,rfl,by go_num,Or.inr ⟨rfl,Y.out⟩,ae l.out (ac (zS) _)⟩
      have hje:j=k:=by omega
      have hji:(k:Int)≤(j:Int):=by omega
      have r:fW D k=false:=tW (by rw [←J.out,hje,Nat.sub_self];rfl)
      have z:Hid (gF D k=(-1,0)):=Kc S.out r;clear p r;go_wp2_with fail
      go_roundg (n-(k+1))
      case measure=>omega
      case rel=>exact ⟨k+1,by omega,rfl,by go_num,by rw [←T.out,I,pU _ (by rw [z.out])],ae i.out l.out⟩
     have z:Hid (gF D k=(-1,7)):=Kb S.out r;clear p r;have f:dQ D n 0=((k:Int),-1,7):=by rw [←T.out,I,iL _ (by rw [z.out];decide),z.out]
     have d:Hid (am D n=((k:Int),-1,7)):=by show _=_;rw [Kk (by omega) (by omega) (by rw [f];show (7:Int)≠0;decide),f]
     clear f
     by_cases O:(j:Int)<(k:Int)
     ·go_wp2_with fail
      refine bodyPost_ret (v:=.tuple #[.int .i64 k,.int .i64 (-1),.int .i64 7]) (by simp [results,Tryz.results34,go_sem]) rfl ⟨by rw [d.out],?_⟩
      exact ae h.out (ae i.out l.out)
     go_wp2_with fail;refine bodyPost_ret (v:=.tuple #[.int .i64 k,.int .i64 (-1),.int .i64 7]) (by simp [results,Tryz.results34,go_sem]) rfl ⟨by rw [d.out],?_⟩
     exact ae h.out (ae i.out l.out)
   have z:Hid (gF D k=ay (D k)):=Ka t;have S:=aa t;have f:dQ D n 0=((k:Int),(ay (D k)).1,(ay (D k)).2):=by rw [←T.out,I,iL _ (by rw [z.out];exact t),z.out]
   have d:Hid (am D n=((k:Int),(ay (D k)).1,(ay (D k)).2)):=by show _=_;rw [Kk (by omega) (by omega) (by rw [f];exact t),f]
   have he2:((ay (D k)).2 == 0)=false:=by simpa using t
   clear t f z S;generalize (ay (D k)).2=ec at c d he2;generalize (ay (D k)).1=kc at c d;go_wp2_with fail;refine c.mono ?_;rintro e w1 ⟨rfl,a⟩;have i:=aa (ae u.out a);clear a c;go_wp2_with fail
   by_cases hk0:(0:Int)<(k:Int)
   ·refine wp_loop_rounds 1 ?_
    rw [rounds_succ];go_wp2_with fail;refine bodyPost_ret (v:=.tuple #[.int .i64 k,.int .i64 kc,.int .i64 ec]) (by simp [results,Tryz.results34,go_sem]) rfl ⟨by rw [d.out],?_⟩
    exact ae h.out i.out
   have hk0':(k:Int)≤0:=by omega
   refine wp_loop_rounds 1 ?_;rw [rounds_succ];go_wp2_with fail;refine bodyPost_ret (v:=.tuple #[.int .i64 k,.int .i64 kc,.int .i64 ec]) (by simp [results,Tryz.results34,go_sem]) rfl ⟨by rw [d.out],?_⟩
   exact ae h.out i.out
  have hke:k=n:=by omega
  subst hke;have s:(dQ D k 0).2.2=0:=by rw [←T.out,Nat.sub_self];rfl
  have B:=(jD k 0 s).2;have M:=rC b o k cap D A C wo (by omega) (fun j hj=>(aI (kH (B j (zU) (by omega)))).2.2.1) q
  clear B q
  by_cases U:3000<prodN D k
  ·have hp':3000<(prodN D k:Int):=by omega
   have d:Hid (am D k=(-1,-1,4)):=KH (by omega) (by omega) s U
   clear s U;go_wp2_with fail;refine M.mono ?_;rintro e w2 ⟨rfl,F⟩;go_wp2_with fail;refine bodyPost_ret (v:=.tuple #[.int .i64 (-1),.int .i64 (-1),.int .i64 4]) (by simp [results,Tryz.results34,go_sem]) rfl ⟨by rw [d.out],?_⟩
   exact ae h.out (ae u.out F)
  have hp':(prodN D k:Int)≤3000:=by omega
  have d:Hid (am D k=(-1,-1,0)):=KI (by omega) (by omega) s U
  clear s U;go_wp2_with fail;refine M.mono ?_;rintro e w2 ⟨rfl,F⟩;go_wp2_with fail;refine bodyPost_ret (v:=.tuple #[.int .i64 (-1),.int .i64 (-1),.int .i64 0]) (by simp [results,Tryz.results34,go_sem]) rfl ⟨by rw [d.out],?_⟩
  exact ae h.out (ae u.out F)
def bj (M:Nat→Mem):Nat→List Value
 | 0=>[]
 | k+1=>bj M k ++ [.string (M k).name,.int .i64 (M k).parent,.int .i64 (M k).sign,.string (M k).formula]
theorem jn (M:Nat→Mem):∀ k,(bj M k).length=k*4
 | 0=>rfl
 | k+1=>by rw [bj,List.length_append,jn M k];simp;omega
theorem oB (M:Nat→Mem) (n:Nat):∀ k,k<n→(bj M n)[k*4]?=some (.string (M k).name)∧(bj M n)[k*4+1]?=some (.int .i64 (M k).parent)∧(bj M n)[k*4+2]?=some (.int .i64 (M k).sign)∧(bj M n)[k*4+3]?=some (.string (M k).formula):=by
 induction n with
 | zero=>intro k h;omega
 | succ n ih =>
  intro k b;rw [bj];have a:=jn M n
  by_cases h:k=n
  ·subst h
   refine ⟨?_,?_,?_,?_⟩ <;> rw [List.getElem?_append_right (by omega),a]
   ·rw [Nat.sub_self];rfl
   ·rw [show k*4+1-k*4=1 by omega];rfl
   ·rw [show k*4+2-k*4=2 by omega];rfl
   rw [show k*4+3-k*4=3 by omega];rfl
  have:=ih k (by omega)
  refine ⟨?_,?_,?_,?_⟩ <;> rw [List.getElem?_append_left (by omega)]
  ·exact this.1
  ·exact this.2.1
  ·exact this.2.2.1
  exact this.2.2.2
def cellsDo (D:Nat→Dm) (A:Nat→Option Addr) (C:Nat→Nat):Nat→List Value
 | 0=>[]
 | k+1=>cellsDo D A C k ++ [.string (D k).name,.int .i64 (D k).solve,.slice (A k) (D k).n (C k)]
theorem eN (D:Nat→Dm) (A:Nat→Option Addr) (C:Nat→Nat):∀ k,(cellsDo D A C k).length=k*3
 | 0=>rfl
 | k+1=>by rw [cellsDo,List.length_append,eN D A C k];simp;omega
theorem iT {D:Nat→Dm} {A A':Nat→Option Addr} {C C':Nat→Nat}:∀ k,(∀ i,i<k→A i=A' i∧C i=C' i)→cellsDo D A C k=cellsDo D A' C' k
 | 0,_=>rfl
 | k+1,h=>by rw [cellsDo,cellsDo,iT k fun i a=>h i (by omega),(h k (by omega)).1,(h k (by omega)).2]
theorem gv (D:Nat→Dm) (A:Nat→Option Addr) (C:Nat→Nat) (n:Nat):∀ k,k<n→(cellsDo D A C n)[k*3]?=some (.string (D k).name)∧(cellsDo D A C n)[k*3+1]?=some (.int .i64 (D k).solve)∧(cellsDo D A C n)[k*3+2]?=some (.slice (A k) (D k).n (C k)):=by
 induction n with
 | zero=>intro k h;omega
 | succ n ih =>
  intro k b;rw [cellsDo];have a:=eN D A C n
  by_cases h:k=n
  ·subst h
   refine ⟨?_,?_,?_⟩ <;> rw [List.getElem?_append_right (by omega),a]
   ·rw [Nat.sub_self];rfl
   ·rw [show k*3+1-k*3=1 by omega];rfl
   rw [show k*3+2-k*3=2 by omega];rfl
  have:=ih k (by omega)
  refine ⟨?_,?_,?_⟩ <;> rw [List.getElem?_append_left (by omega)]
  ·exact this.1
  ·exact this.2.1
  exact this.2.2
end Go.Proofs.YtohgnbgamfepoaaGreatDoor
