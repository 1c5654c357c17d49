/- The parts of a member, -/
import Derived.Sort.Walk0
import Derived.Maps.AppendAt
import Derived.Deep.RegionWith
import Derived.Test.YthlhjjabkgpenaaGreatDoorJTAM
import Derived.Test.YthlhjjabkgpenaaGreatDoorJTAP
namespace Go.Proofs.YthlhjjabkgpenaaGreatDoor
open ChangeShapes WideShapes ChangeAt RowKit Go
set_option maxRecDepth 99999
set_option maxHeartbeats 0
theorem DJ {w:World} {base e:Nat} {v:Value} {L:List Int} (h:w.ownsRow base e 1 v L.length (aE L)):∃ A cap,v=.slice A L.length cap∧bU w A cap L∧∀ b o,A=some ⟨b,o,none⟩→base≤b:=by
 obtain ⟨A,cap,a,c⟩:=rA h;refine ⟨A,cap,a,c,fun b o e=>?_⟩
 subst a;exact (h.lt b (by simp [Value.ownBlock,e])).1
theorem gV {w:World} {q:Nat} {x y a b:Value} {T:Nat} (h:w.heap[q]?=some (.cells #[x,y] T)):((w.setCell ⟨q,0,none⟩ a).setCell ⟨q,1,none⟩ b).heap[q]?=some (.cells #[a,b] T):=by
 simp [World.setCell,Array.getElem?_modify,h]
theorem iE {w w':World} {q:Nat} {a b:Value} (h:w.grownBy w' (some q)):w.grownBy ((w'.setCell ⟨q,0,none⟩ a).setCell ⟨q,1,none⟩ b) (some q) :=
 ⟨h.os,h.tape,h.output,by simpa [World.setCell] using h.size,fun i d c=>(Below.heap_setCell _ ⟨q,1,none⟩ b i fun e=>c (by rw [e])).trans ((Below.heap_setCell w' ⟨q,0,none⟩ a i fun e=>c (by rw [e])).trans (h.block i d c))⟩
theorem eW {w w1 w2:World} {r:Option Nat} (h:w.grownBy w1 r) (k:Bl w1 w2):w.grownBy w2 r :=
 ⟨k.os.trans h.os,k.tape.trans h.tape,k.output.trans h.output,zV h.size k.size,fun i a b=>(k.block i (zW a h.size)).trans (h.block i a b)⟩
theorem bP {w:World} {q:Nat} {x y:Value} {T:Nat} (h:w.heap[q]?=some (.cells #[x,y] T)):w.cell? ⟨q,0,none⟩=some x∧w.cell? ⟨q,1,none⟩=some y∧w.frozen? ⟨q,0,none⟩=false∧w.frozen? ⟨q,1,none⟩=false :=
 ⟨by rw [Lib.cell_of_heap h];rfl,by rw [Lib.cell_of_heap h];rfl,Lib.frozen_of_heap h 0,Lib.frozen_of_heap h 1⟩
theorem qV {M:Nat→Mem} {at':Int→Int×Int} {P:List Int} {k:Nat} (h:k<P.length):(P.take (k+1)).foldl (aX M at') (0,0)=aX M at' ((P.take k).foldl (aX M at') (0,0)) (P.getD k 0):=by
 rw [List.take_succ_eq_append_getElem h,List.foldl_append,zZ,zX h]
 rfl
def q7 (w:World) (q:Nat) (d:Dm) (A:Option Addr) (c:Nat):Prop:=q<w.heap.size∧w.cell? ⟨q,0,none⟩=some (.string d.name)∧w.cell? ⟨q,1,none⟩=some (.int .i64 d.solve)∧w.cell? ⟨q,2,none⟩=some (.slice A d.n c)
def mT (w:World) (q:Nat) (v:Value):Prop:=q<w.heap.size∧w.cell? ⟨q,0,none⟩=some v
theorem q7.same {w w':World} {q:Nat} {d:Dm} {A:Option Addr} {c:Nat} (h:q7 w q d A c) (e:w.heap.size≤w'.heap.size) (b:w'.heap[q]?=w.heap[q]?):q7 w' q d A c :=
 ⟨zW h.1 e,(World.cell?_of_block (a:=⟨q,0,none⟩) b).trans h.2.1,(World.cell?_of_block (a:=⟨q,1,none⟩) b).trans h.2.2.1,(World.cell?_of_block (a:=⟨q,2,none⟩) b).trans h.2.2.2⟩
theorem mT.same {w w':World} {q:Nat} {v:Value} (h:mT w q v) (c:w.heap.size≤w'.heap.size) (b:w'.heap[q]?=w.heap[q]?):mT w' q v :=
 ⟨zW h.1 c,(World.cell?_of_block (a:=⟨q,0,none⟩) b).trans h.2⟩
theorem q7.later {w w':World} {q:Nat} {d:Dm} {A:Option Addr} {c:Nat} (h:q7 w q d A c) (a:Bl w w'):q7 w' q d A c:=h.same a.size (a.block q h.1)
theorem mT.later {w w':World} {q:Nat} {v:Value} (h:mT w q v) (a:Bl w w'):mT w' q v:=h.same a.size (a.block q h.1)
theorem zA {w w':World} {g i j:Nat} {a b:Value} (h:w.grownBy w' (some g)):w.grownBy ((w'.setCell ⟨g,i,none⟩ a).setCell ⟨g,j,none⟩ b) (some g) :=
 ⟨h.os,h.tape,h.output,by simpa [World.setCell] using h.size,fun k d c=>(Below.heap_setCell _ ⟨g,j,none⟩ b k fun e=>c (by rw [e])).trans ((Below.heap_setCell w' ⟨g,i,none⟩ a k fun e=>c (by rw [e])).trans (h.block k d c))⟩
theorem wb {w w':World} {b g c:Nat} {X:List Int} (h:bU w (some ⟨b,0,none⟩) c X) (f:b≠g) (l:w.grownBy w' (some g)):bU w' (some ⟨b,0,none⟩) c X:=by
 obtain ⟨i,d | ⟨b',d,k,m⟩⟩:=h
 ·exact ⟨i,Or.inl d⟩
 cases d;exact ⟨i,Or.inr ⟨b,rfl,zW k l.size,fun j n=>(World.cell?_of_block (a:=⟨b,j,none⟩) (l.block b k fun e=>f (by simpa using e))).trans (m j n)⟩⟩
theorem nf {w w':World} {q g:Nat} {v:Value} (h:mT w q v) (a:q≠g) (b:w.grownBy w' (some g)):mT w' q v:=h.same b.size (b.block q h.1 fun e=>a (by simpa using e))
theorem vf {w w':World} {q g:Nat} {d:Dm} {A:Option Addr} {c:Nat} (h:q7 w q d A c) (a:q≠g) (b:w.grownBy w' (some g)):q7 w' q d A c:=h.same b.size (b.block q h.1 fun e=>a (by simpa using e))
def dy (D:Nat→Dm) (n:Nat) (L:List (Int×Int)) (e:En):List (Int×Int):=L.set (numI D e.pl n).toNat (1,e.n)
def wrV (D:Nat→Dm) (n:Nat) (l:List En):List (Int×Int):=l.foldl (dy D n) (List.replicate (prodN D n) (0,0))
theorem sq (D:Nat→Dm) (n:Nat):∀ (l:List En) (L:List (Int×Int)),(l.foldl (dy D n) L).length=L.length
 | [],_=>rfl
 | e :: r,L=>by rw [List.foldl_cons,sq D n r];unfold dy;rw [List.length_set]
theorem mS (D:Nat→Dm) (n:Nat) (l:List En):(wrV D n l).length=prodN D n:=by unfold wrV;rw [sq];simp
theorem GT (D:Nat→Dm) (n:Nat) (L:List (Int×Int)) (a:List EnL) {k:Nat} (h:k<a.length):((lE a).take (k+1)).foldl (dy D n) L=dy D n (((lE a).take k).foldl (dy D n) L) (a.getD k noL).e:=by
 have b:k<(lE a).length:=by rw [dF];exact h
 rw [List.take_succ_eq_append_getElem b,List.foldl_append];have e:(lE a)[k]=(a.getD k noL).e:=by rw [←lE_at,zZ,zX b];rfl
 rw [e]
 rfl
theorem AA {x:Int} (h:fk x=true):b7 (1,x):=by
 have hn : -1000000≤x∧x≤1000000:=by simpa [fk] using h
 exact decide_eq_true (Or.inl ⟨rfl,by omega,by omega⟩)
theorem ja (n:Nat) (f:n≤3000) (w:World):(Instr.makeSlice 33 (.int .i64 (n:Int)) (.int .i64 (n:Int))).run Tryz.prog w=.ok (.slice (some ⟨w.heap.size,0,none⟩) n n) (w.alloc (.cells (madeCells #[.int .i64 0,.int .i64 0] (n*2)) 40)):=by
 obtain ⟨i0,a,b,c,d⟩:=info_parts Tryz.infoCe;have e:=run_make (P:=Tryz.prog) w 33 40 i0 _ Tryz.underlying33 a b .i64 .i64 n n (by omega) (Int.le_refl _) (by rw [d];omega) (by omega)
 simp only [Int.toNat_natCast,c] at e;exact e
theorem lc (w:World) (n:Nat):da (w.alloc (.cells (madeCells #[.int .i64 0,.int .i64 0] (n*2)) 40)) w.heap.size (List.replicate n (0,0)):=by
 refine ⟨_,heap_alloc_new w _,fun k c=>?_⟩
 have a:k<n:=by simpa using c
 have b:(List.replicate n ((0:Int),(0:Int))).getD k noC=(0,0):=by simp [List.getD,a]
 rw [b]
 constructor
 ·simp [madeCells,show k*2<n*2 by omega]
 simp [madeCells,show k*2+1<n*2 by omega,show (k*2+1) % 2=1 by omega]
theorem vG (A0:Option Addr) (cap n:Nat) (D:Nat→Dm) (A:Nat→Option Addr) (C:Nat→Nat) (AE:Option Addr) (f:Nat) (b:List EnL) (w:World) (i:bd w A0 cap n D A C) (g:ii w AE f b) (j:entsErr D n (lE b)≠0) :
  Calls Tryz.prog 62 #[.agg #[.slice A0 n cap],.slice AE b.length f] w fun e w'=>(∃ A' c',e=.returned (.tuple #[.slice A' 0 c',.iface 68 (.int .i64 (entsErr D n (lE b)))]))∧Bl w w':=by
 have a:=aA w A0 n cap 24;have h:=nM A0 cap n D A C AE f b (aD w A0 n cap 24) (i.later a) (g.later a);have d:=aa a;rw [aj j] at h;clear j i g a;generalize entsErr D n (lE b)=ee at h;generalize b.length=N at h
 go_enter Tryz.func62,Tryz.ntmps62
 go_wp2_with fail;refine h.mono ?_;rintro e w1 ⟨rfl,c⟩;have k:=aa (ae d.out c);clear c h;go_wp2_with fail
 go_ret2
 exact ⟨⟨none,0,rfl⟩,k.out⟩
def iC:ByteArray:=⟨#[]⟩
def oq (c:Int×Int):Prop:=good c.1 c.2=true
theorem Eq:oq noC:=rfl
theorem kJ (n:Int):oq (eO n):=by
 unfold oq eO good
 split
 ·rename_i h;simp [h.1,h.2]
 simp
theorem Gp (x y:Int):oq (BK x y):=by
 unfold BK
 split
 ·rfl
 exact kJ _
theorem kI (b:Bool) (ka kb:Int) {r:Int×Int} (h:oq r):oq (fX b ka kb r):=by
 unfold fX
 split
 ·rfl
 split
 ·rfl
 exact h
def pF (o:Int) (a b:Int×Int):Int×Int:=if o=3 then mi a.1 a.2 b.1 b.2 else if o=4 then iW a.1 a.2 b.1 b.2 else if o=5 then pg a.1 a.2 b.1 b.2 else un a.1 a.2 b.1 b.2
theorem EC (o:Int) (a b:Int×Int):oq (pF o a b):=by
 unfold pF
 split
 ·exact kI _ _ _ (kJ _)
 split
 ·exact kI _ _ _ (kJ _)
 split
 ·exact kI _ _ _ (kJ _)
 exact kI _ _ _ (Gp _ _)
def F7 (N:List ByteArray) (s:ByteArray) (i:Nat):Bool:=decide (N.getD i iC=s)
def bT (N:List ByteArray) (s:ByteArray):Int:=findFrom (F7 N s) N.length 0
theorem where_cases (N:List ByteArray) (s:ByteArray):(bT N s = -1∧∀ j,j<N.length→N.getD j iC≠s)∨∃ i:Nat,bT N s=(i:Int)∧i<N.length∧N.getD i iC=s:=by
 unfold bT
 rcases findFrom_cases (F7 N s) N.length 0 with ⟨a,b⟩ | ⟨m,a,b,d,c,e⟩
 ·left
  refine ⟨a,fun j f=>?_⟩
  have:=b j (zU) (by omega)
  simpa [F7] using this
 right
 exact ⟨m,a,by omega,of_decide_eq_true c⟩
def fj (N:List ByteArray) (i:Nat):Bool:=Op.bytesLess (N.getD i iC).toList (N.getD (i-1) iC).toList || (N.getD i iC).toList == (N.getD (i-1) iC).toList
def dH (N:List ByteArray) (C:List (Int×Int)):Int:=if C.length≠N.length then 3 else if 0≤findFrom (fV C) C.length 0 then 1 else if 0≤findFrom (fj N) (N.length-1) 1 then 7 else 0
theorem sR {N:List ByteArray} {C:List (Int×Int)} (h:C.length≠N.length):dH N C=3:=by unfold dH;rw [if_pos h]
theorem yq {N:List ByteArray} {C:List (Int×Int)} (h:C.length=N.length) {i:Nat} (c:i<C.length) (a:fV C i=true):dH N C=1:=by
 unfold dH;rw [if_neg (by simpa using h)]
 rcases findFrom_cases (fV C) C.length 0 with ⟨_,b⟩ | ⟨m,e,_⟩
 ·rw [b i (zU) (by omega)] at a;cases a
 rw [e,if_pos (by omega)]
theorem yt {N:List ByteArray} {C:List (Int×Int)} (h:C.length=N.length) (d:∀ j,j<C.length→fV C j=false) {i:Nat} (b:1≤i) (f:i<N.length) (a:fj N i=true):dH N C=7:=by
 unfold dH;rw [if_neg (by simpa using h),bN (fun j _ g=>d j (by omega)),if_neg (by omega)]
 rcases findFrom_cases (fj N) (N.length-1) 1 with ⟨_,c⟩ | ⟨m,e,_⟩
 ·rw [c i b (by omega)] at a;cases a
 rw [e,if_pos (by omega)]
theorem rr {N:List ByteArray} {C:List (Int×Int)} (h:C.length=N.length) (c:∀ j,j<C.length→fV C j=false) (b:∀ j,1≤j→j<N.length→fj N j=false):dH N C=0:=by
 unfold dH;rw [if_neg (by simpa using h),bN (fun j _ d=>c j (by omega)),if_neg (by omega),bN (fun j a d=>b j a (by omega)),if_neg (by omega)]
theorem sQ {N:List ByteArray} {C:List (Int×Int)} (h:dH N C=0):C.length=N.length∧(∀ j,j<C.length→fV C j=false)∧∀ j,1≤j→j<N.length→fj N j=false:=by
 by_cases a:C.length=N.length
 ·refine ⟨a,?_⟩
  by_cases b:∀ j,j<C.length→fV C j=false
  ·refine ⟨b,fun j d c=>?_⟩
   cases hd:fj N j
   ·rfl
   rw [yt a b d c hd] at h;cases h
  exfalso
  apply b;intro j c;cases hd:fV C j
  ·rfl
  rw [yq a c hd] at h;cases h
 rw [sR a] at h;cases h
theorem IZ {N:List ByteArray} {C:List (Int×Int)} (h:dH N C=0):∀ c∈C,oq c:=by
 intro c b;obtain ⟨j,a,rfl⟩:=List.getElem_of_mem b;have:=(sQ h).2.1 j a;unfold fV at this;rw [zZ,zX a] at this
 simpa [oq] using this
/-! names that rise -/
theorem Ds {N:List ByteArray} {i:Nat} (h:fj N i=false):(N.getD (i-1) iC).toList<(N.getD i iC).toList:=by
 unfold fj at h;rw [Bool.or_eq_false_iff,bytesLess_eq] at h;have a:=of_decide_eq_false h.1;have b:(N.getD i iC).toList≠(N.getD (i-1) iC).toList:=by simpa using h.2
 rcases Std.lt_trichotomy (N.getD i iC).toList (N.getD (i-1) iC).toList with h3 | h3 | h3
 ·exact absurd h3 a
 ·exact absurd h3 b
 exact h3
theorem E8 {N:List ByteArray} (h:∀ j,1≤j→j<N.length→fj N j=false):∀ i j,i<j→j<N.length→(N.getD i iC).toList<(N.getD j iC).toList:=by
 intro i j b
 induction j with
 | zero=>omega
 | succ j ih =>
  intro c;have a:=Ds (h (j+1) (by omega) c)
  by_cases e:i=j
  ·subst e;exact a
  exact List.lt_trans (ih (by omega) (by omega)) a
theorem iA {q:Int→Bool} {t:ByteArray} {m:Nat} (b:∀ i,i<m→q (byteN t i)=true) (a:m=t.size∨q (byteN t m)=false):∀ (f i:Nat),i≤m→i+f=t.size→leadTo q t f i=m
 | 0,i,hi,hf=>by
  rcases a with a | a
  ·show i=m;omega
  by_cases e:i=m
  ·exact e
  have:=b i (by omega)
  show i=m
  exfalso
  have g:byteN t i=0:=by
   unfold byteN;have d:t.size=t.data.toList.length:=Array.length_toList.symm;rw [List.getD,List.getElem?_eq_none (by omega)]
   rfl
  have c:byteN t m=0:=by
   unfold byteN;have d:t.size=t.data.toList.length:=Array.length_toList.symm;rw [List.getD,List.getElem?_eq_none (by omega)]
   rfl
  rw [g] at this;rw [c,this] at a;cases a
 | f+1,i,hi,hf=>by
  by_cases e:i=m
  ·rcases a with a | a
   ·omega
   rw [leadTo,e,if_neg (by rw [a];decide)]
  rw [leadTo,if_pos (b i (by omega))]
  exact iA b a f (i+1) (by omega) (by omega)
def FL (l:List Nd):Nat→Nat→Tre
 | 0,_=>.num 0
 | f+1,i=>if (l.getD i bH).op=1 then .num (l.getD i bH).n else if (l.getD i bH).op=2 then .ref (l.getD i bH).name else .bin (l.getD i bH).op (FL l f (l.getD i bH).left.toNat) (FL l f (l.getD i bH).right.toNat)
def aB (l:List Nd) (i:Nat):Tre:=FL l (i+1) i
def m4 (l:List Nd):Prop := ∀ j,j<l.length→ndErr (l.getD j bH) j=0
theorem kK {x:Nd} {i:Nat} (h:ndErr x i=0):1≤x.op∧x.op≤6:=by
 unfold ndErr at h
 split at h
 ·cases h
 omega
theorem kX {l:List Nd} (c:m4 l):∀ (f g i:Nat),i<l.length→i<f→i<g→FL l f i=FL l g i
 | 0,_,_,_,h,_=>by omega
 | _+1,0,_,_,_,h=>by omega
 | f+1,g+1,i,hi,hf,hg=>by
  rw [FL,FL]
  by_cases a:(l.getD i bH).op=1
  ·rw [if_pos a,if_pos a]
  rw [if_neg a,if_neg a]
  by_cases b:(l.getD i bH).op=2
  ·rw [if_pos b,if_pos b]
  rw [if_neg b,if_neg b];have d:=kK (c i hi);obtain ⟨a1,a2,a3,a4⟩:=eI (c i hi) (by omega)
  rw [kX c f g _ (by omega) (by omega) (by omega),kX c f g (l.getD i bH).right.toNat (by omega) (by omega) (by omega)]
section
variable {l:List Nd} {i:Nat}
theorem pm (h:(l.getD i bH).op=1):aB l i=.num (l.getD i bH).n:=by unfold aB;rw [FL,if_pos h]
theorem kZ (h:(l.getD i bH).op=2):aB l i=.ref (l.getD i bH).name:=by unfold aB;rw [FL,if_neg (by omega),if_pos h]
theorem kY (a:m4 l) (b:i<l.length) (h:2<(l.getD i bH).op):aB l i=.bin (l.getD i bH).op (aB l (l.getD i bH).left.toNat) (aB l (l.getD i bH).right.toNat):=by
 obtain ⟨a1,a2,a3,a4⟩:=eI (a i b) h;unfold aB;rw [FL,if_neg (by omega),if_neg (by omega),kX a i _ _ (by omega) (by omega) (Nat.lt_succ_self _),kX a i _ (l.getD i bH).right.toNat (by omega) (by omega) (Nat.lt_succ_self _)]
end
section
variable (N:List ByteArray) (C:List (Int×Int))
def refC (s:ByteArray):Int×Int:=C.getD (bT N s).toNat noC
def dX:Tre→Int×Int
 | .num n=>eO n
 | .ref s=>refC N C s
 | .bin o a b=>pF o (dX a) (dX b)
end
def refsT:Tre→List ByteArray
 | .num _=>[]
 | .ref s=>[s]
 | .bin _ a b=>refsT a ++ refsT b
def missT (N:List ByteArray) (t:Tre):Bool:=(refsT t).any fun s=>decide (bT N s<0)
theorem xR (N:List ByteArray) {C:List (Int×Int)} (d:∀ c∈C,oq c):∀ t:Tre,oq (dX N C t)
 | .num n=>kJ n
 | .ref s=>by
  rw [dX,refC,zZ];cases h:C[(bT N s).toNat]? with
  | none=>exact Eq
  | some c=>exact d c (List.mem_of_getElem? h)
 | .bin o a b=>EC o _ _
/-! the names of a tree are those of the nodes -/
theorem BR {l:List Nd} (c:m4 l) (s:ByteArray):∀ i,i<l.length→s∈refsT (aB l i)→∃ j,j<l.length∧(l.getD j bH).op=2∧(l.getD j bH).name=s:=by
 intro i
 induction i using Nat.strongRecOn with
 | _ i ih =>
  intro b a;have f:=kK (c i b)
  by_cases e:(l.getD i bH).op=1
  ·rw [pm e] at a;cases a
  by_cases d:(l.getD i bH).op=2
  ·rw [kZ d,refsT,List.mem_singleton] at a
   exact ⟨i,b,d,a.symm⟩
  obtain ⟨a1,a2,a3,a4⟩:=eI (c i b) (by omega)
  rw [kY c b (by omega),refsT,List.mem_append] at a
  rcases a with a | a
  ·exact ih _ (by omega) (by omega) a
  exact ih _ (by omega) (by omega) a
theorem uZ {l:List Nd} (j:Nat):∀ k,1≤usedTo l k j→∃ i,i<k∧1≤uses (l.getD i bH) j
 | 0,h=>by cases h
 | k+1,h=>by
  by_cases a:1≤uses (l.getD k bH) j
  ·exact ⟨k,Nat.lt_succ_self _,a⟩
  have c:1≤usedTo l k j+uses (l.getD k bH) j:=h;obtain ⟨i,d,b⟩:=uZ (l:=l) j k (by omega)
  exact ⟨i,by omega,b⟩
theorem GK {l:List Nd} (h:av l=0) (s:ByteArray):∀ n j,l.length-j=n→j<l.length→s∈refsT (aB l j)→s∈refsT (aB l (l.length-1)):=by
 obtain ⟨p,q,k,m⟩:=dw h;intro n
 induction n using Nat.strongRecOn with
 | _ n ih =>
  intro j t r f
  by_cases e:j=l.length-1
  ·rw [←e];exact f
  obtain ⟨i,d,c⟩:=uZ (l:=l) j l.length (by rw [m j (by omega)];exact zT)
  unfold uses at c
  split at c
  ·rename_i hop
   obtain ⟨a1,a2,a3,a4⟩:=eI (k i d) hop;have g:s∈refsT (aB l i):=by
    rw [kY k d hop,refsT,List.mem_append]
    by_cases a:(l.getD i bH).left=(j:Int)
    ·left;rw [a];exact f
    by_cases b:(l.getD i bH).right=(j:Int)
    ·right;rw [b];exact f
    rw [if_neg a,if_neg b] at c;omega
   have o:j<i:=by
    by_cases a:(l.getD i bH).left=(j:Int)
    ·omega
    by_cases b:(l.getD i bH).right=(j:Int)
    ·omega
    rw [if_neg a,if_neg b] at c;omega
   exact ih (l.length-i) (by omega) i rfl d g
  omega
theorem i7 {l:List Nd} (h:av l=0) (s:ByteArray):s∈refsT (aB l (l.length-1))↔∃ j,j<l.length∧(l.getD j bH).op=2∧(l.getD j bH).name=s:=by
 obtain ⟨e,a,d,f⟩:=dw h;refine ⟨BR d s _ (by omega),fun ⟨j,c,a,b⟩=>?_⟩
 refine GK h s _ j rfl c ?_;rw [kZ a,b,refsT];exact List.mem_singleton.2 rfl
def iM (N:List ByteArray) (l:List Nd) (i:Nat):Bool:=decide ((l.getD i bH).op=2) && decide (bT N (l.getD i bH).name<0)
theorem tV {N:List ByteArray} {l:List Nd} (h:av l=0) {i:Nat} (b:i<l.length) (a:iM N l i=true):missT N (aB l (l.length-1))=true:=by
 simp only [iM,Bool.and_eq_true,decide_eq_true_eq] at a;unfold missT;rw [List.any_eq_true];exact ⟨_,(i7 h _).2 ⟨i,b,a.1,rfl⟩,decide_eq_true a.2⟩
theorem Ga {N:List ByteArray} {l:List Nd} (h:av l=0) (g:∀ i,i<l.length→iM N l i=false):missT N (aB l (l.length-1))=false:=by
 rw [Bool.eq_false_iff];intro e;unfold missT at e;rw [List.any_eq_true] at e;obtain ⟨s,a,b⟩:=e;obtain ⟨j,f,c,d⟩:=(i7 h s).1 a;have:=g j f;unfold iM at this;rw [d,c] at this
 simp at this b
 omega
def lK (l:List Nd) (N:List ByteArray) (C:List (Int×Int)):Int:=if av l≠0 then av l else if dH N C≠0 then dH N C else if missT N (aB l (l.length-1))=true then 5 else 0
def pN (l:List Nd) (N:List ByteArray) (C:List (Int×Int)):Int×Int:=if lK l N C=0 then dX N C (aB l (l.length-1)) else noC
theorem Hb {w:World} {x:Nd} {n:Nat} (a:w.heap.size=n):∀ j u,(cY x)[j]?=some u→(w.alloc (.cells #[.int .i64 x.op,.int .i64 x.n,.string x.name,.int .i64 x.left,.int .i64 x.right] 142)).cell? ((⟨n,0,none⟩:Addr).add j)=some u:=by
 subst a;exact World.news_of_block (cs := #[.int .i64 x.op,.int .i64 x.n,.string x.name,.int .i64 x.left,.int .i64 x.right]) (t:=142) (fr:=(0,0)) (heap_alloc_new _ _)
theorem Ey {x:Nd}:∀ u∈cY x,u.oneCell'=true:=by intro u a;simp [cY] at a;rcases a with rfl | rfl | rfl | rfl | rfl <;> rfl
theorem wy {s:ByteArray} (h:s.size=0):s=noT:=by
 obtain ⟨d⟩:=s;have:d=#[]:=Array.eq_empty_of_size_eq_zero h;subst this
 rfl
theorem gZ (Ap:Option Addr) (B:Nat) (p:List Int) (dim:Nat) (x:Int) (w:World) (A:dim<p.length) (W:p.length≤4) (Z:aO w Ap B p) :
  Calls Tryz.prog 7 #[.slice Ap p.length B,.int .i64 dim,.int .i64 x] w fun e w'=>(∃ A' c',e=.returned (.slice A' p.length c')∧aO w' A' c' (p.set dim x))∧Bl w w':=by
 obtain ⟨i0,F,H,I,J⟩:=info_parts Tryz.infoIntP;obtain ⟨D,U | ⟨b,o,rfl,hb,d⟩⟩:=Z
 ·rw [U] at A;simp at A
 have R:Hid (∀ j u,(p.map (Value.int .i64))[j]?=some u→w.cell? ((⟨b,o,none⟩:Addr).add j)=some u):=by
  intro j u m;have q:j<p.length:=by have:=(List.getElem?_eq_some_iff.1 m).1;simpa using this
  rw [bS,d j q];simp only [List.getElem?_map,zX q,Option.map_some,Option.some.injEq] at m;rw [←m,zZ,zX q]
  rfl
 obtain ⟨N,C⟩:=ax p.length;have r:=aa C;rw [C] at A W D ⊢;have hdi:(dim:Int)<(N:Int):=by omega
 have X:(N:Int)≤4:=by omega
 clear d C
 go_enter Tryz.func7,Tryz.ntmps7
 go_wp2_with (at_builtin;refine wpList_append_own _ rfl _ _ 27 rfl w.heap.size 3 i0 (.int .i64 0) 1 8 Tryz.underlying27 F H I J rfl (by decide) _ _ _ rfl (World.ownsRow_nil w w.heap.size 3 1) ⟨b,o,none⟩ N B (p.map (Value.int .i64)) rfl ?qc1 ?qc2 ?qc3 ?qc4 ?qc5 ?qc6 ?_)
 case qc1=>simp [r.out]
 case qc2=>exact R.out
 case qc3=>intro u P;simp at P;obtain ⟨y,-,rfl⟩:=P;rfl
 case qc4=>simp only [maxLen];omega
 case qc5=>omega
 case qc6=>exact zT
 intro v' w1 n f z;have a:w1.ownsRow w.heap.size 3 1 v' N (p.map (Value.int .i64)):=by simpa using n
 have Q:Hid (Bl w w1):=(Below.refl _ w).grown f (zT) (by intro k G;cases G)
 rcases a.2 with ⟨K,V⟩ | ⟨g,cap,c,rfl,s,E,hc,hm,M,O⟩
 ·omega
 have S:Hid (c.toList.take (N*1)=p.map (Value.int .i64)∧c.size=cap*1∧w1.heap[g]?=some (.cells c 3 (0,0))∧w.heap.size≤g):=⟨O,M,E,s⟩;have T:w1.cell? ⟨g,dim,none⟩=some (.int .i64 (p.getD dim 0)):=by
  have:=a.cells (g:=g) rfl dim (.int .i64 (p.getD dim 0)) (by simp [List.getD,r.out,A])
  rw [bS,Nat.zero_add] at this;exact this
 have fg:w1.frozen? ⟨g,dim,none⟩=false:=Lib.frozen_of_heap E dim;have t:N≤cap:=hc;generalize p.getD dim 0=old at T;clear n a f z E s M O;go_wp2_with fail;go_ret;obtain ⟨K,V,L,Y⟩:=S.out;refine ⟨⟨_,cap,rfl,by rw [List.length_set,r.out];exact t,Or.inr ⟨g,0,rfl,by simp [World.setCell];exact (zY L).1,fun j m=>?_⟩⟩,Q.out.setCell (by show w.heap.size≤g;exact Y) _⟩
 rw [List.length_set,r.out] at m;have G:(w1.setCell ⟨g,dim,none⟩ (.int .i64 x)).heap[g]?=some (.cells (c.setIfInBounds dim (.int .i64 x)) 3 (0,0)):=by simp [World.setCell,Array.getElem?_modify,L]
 rw [Nat.zero_add,Lib.cell_of_heap G];have v:∀ i,i<N→c[i]?=some (.int .i64 (p.getD i 0)):=fun i hi=>by
  have:=congrArg (fun l=>l[i]?) K
  simp only [List.getElem?_take,show i<N*1 by omega,if_true,Array.getElem?_toList] at this
  rw [this]
  simp [List.getD,r.out,hi]
 by_cases e:j=dim
 ·subst e
  have hz:=(zY (v j m)).1;rw [Array.getElem?_setIfInBounds_self_of_lt hz]
  simp [List.getD,r.out,m]
 rw [Array.getElem?_setIfInBounds_ne (fun h=>e h.symm),v j m]
 simp [List.getD,List.getElem?_set_ne (fun h=>e h.symm)]
def Ks (D:Nat→Dm) (n:Nat) (l:List En) (m:Nat):List (Int×Int):=(List.range m).map fun x=>getE l (ak D n x)
theorem GM (D:Nat→Dm) (n:Nat) (l:List En) (m:Nat):(Ks D n l m).length=m:=by simp [Ks]
theorem sn {D:Nat→Dm} {n x:Nat}:∀ (l:List En) (L:List (Int×Int)),(∀ e∈l,InO D n e.pl)→L.length=prodN D n→(∀ e∈l,(numI D e.pl n).toNat≠x)→(l.foldl (dy D n) L).getD x (0,0)=L.getD x (0,0)
 | [],_,_,_,_=>rfl
 | e :: r,L,hi,hL,h=>by
  obtain ⟨b,c,-⟩:=bJ (hi e (List.mem_cons_self ..)) (Nat.le_refl n);rw [List.foldl_cons,sn r _ (fun y a=>hi y (List.mem_cons_of_mem _ a)) (by unfold dy;rw [List.length_set];exact hL) fun y a=>h y (List.mem_cons_of_mem _ a)]
  unfold dy;have:=h e (List.mem_cons_self ..)
  simp [List.getD,List.getElem?_set_ne this]
theorem zo {D:Nat→Dm} {n:Nat} {e:En}:∀ (l:List En) (L:List (Int×Int)),(∀ y∈l,InO D n y.pl)→(l.Pairwise fun a b=>lessL a.pl b.pl=true)→L.length=prodN D n→e∈l→(l.foldl (dy D n) L).getD (numI D e.pl n).toNat (0,0)=(1,e.n)
 | [],_,_,_,_,h=>by cases h
 | y :: r,L,hi,hr,hL,h=>by
  have g:=List.pairwise_cons.1 hr;have f:=hi y (List.mem_cons_self ..);have c:=fun z i=>hi z (List.mem_cons_of_mem y i)
  obtain ⟨j,k,-⟩:=bJ f (Nat.le_refl n);rw [List.foldl_cons];have d:(dy D n L y).length=prodN D n:=by unfold dy;rw [List.length_set];exact hL
  rcases List.mem_cons.1 h with rfl | h
  ·rw [sn r _ c d fun z i=>by
    have m:=tH f (c z i) (g.1 z i);obtain ⟨o,-,-⟩:=bJ (c z i) (Nat.le_refl n)
    omega]
   unfold dy;have:(numI D e.pl n).toNat<L.length:=by omega
   simp [List.getD,this]
  exact zo r _ c g.2 d h
theorem IG {D:Nat→Dm} {n:Nat} {l:List En} (h:Ens D n l):wrV D n l=Ks D n l (prodN D n):=by
 apply List.ext_getElem (by rw [mS,GM])
 intro x b k;rw [mS] at b;have f:(wrV D n l).getD x (0,0)=getE l (ak D n x):=by
  unfold wrV
  by_cases g:∃ e,e∈l∧(numI D e.pl n).toNat=x
  ·obtain ⟨e,a,d⟩:=g
   have c:=zo l (List.replicate (prodN D n) (0,0)) (fun y i=>(h.each y i).1) h.rise (by simp) a
   rw [d] at c;rw [c,←d,lC (h.each e a).1,F3 h.rise a]
  rw [sn l _ (fun y i=>(h.each y i).1) (by simp) fun e a d=>g ⟨e,a,d⟩]
  rw [(DB h.rise fun e a j=>g ⟨e,a,by rw [j,qD h.right b];omega⟩).1]
  simp [List.getD,b]
 have c:x<(wrV D n l).length:=by rw [mS];exact b
 rw [zZ,zX c] at f;simp only [Option.getD_some] at f;rw [f]
 simp [Ks]
theorem jv (n:Int) (w:World):Rt 86 #[.int .i64 n] w (.agg #[.int .i64 (eO n).1,.int .i64 (eO n).2]):=by
 by_cases a:n < -1000000000000
 ·rw [jn (by omega)]
  go_enter Tryz.func86,Tryz.ntmps86
  go_wp2;go_returns;exact ⟨rfl,by go_grown⟩
 by_cases b:1000000000000<n
 ·rw [jn (by omega)]
  go_enter Tryz.func86,Tryz.ntmps86
  go_wp2;go_returns;exact ⟨rfl,by go_grown⟩
 rw [oj (by omega) (by omega)]
 go_enter Tryz.func86,Tryz.ntmps86
 go_wp2;go_returns;exact ⟨rfl,by go_grown⟩
theorem EX (k n:Int) (w:World) (h:good k n=false):Rt 35 #[.agg #[.int .i64 k,.int .i64 n]] w (.int .i64 1):=by
 have h' : ¬ ((k=1∧-1000000000000≤n∧n≤1000000000000)∨((k=0∨k=2)∧n=0)):=by simpa [good] using h
 by_cases a:k<0
 ·clear h'
  go_enter Tryz.func35,Tryz.ntmps35
  go_wp2;go_ret;exact ⟨rfl,by go_grown⟩
 by_cases b:2<k
 ·clear h'
  go_enter Tryz.func35,Tryz.ntmps35
  go_wp2;go_ret;exact ⟨rfl,by go_grown⟩
 by_cases c:n < -1000000000000
 ·clear h'
  go_enter Tryz.func35,Tryz.ntmps35
  go_wp2;go_ret;exact ⟨rfl,by go_grown⟩
 by_cases d:1000000000000<n
 ·clear h'
  go_enter Tryz.func35,Tryz.ntmps35
  go_wp2;go_ret;exact ⟨rfl,by go_grown⟩
 have e:(k != 1)=true:=by simp;omega
 have f:(n != 0)=true:=by simp;omega
 clear h' h
 go_enter Tryz.func35,Tryz.ntmps35
 go_wp2;go_ret;exact ⟨rfl,by go_grown⟩
theorem BL (k n:Int) (w:World) (h:good k n=true):Rt 35 #[.agg #[.int .i64 k,.int .i64 n]] w (.int .i64 0):=by
 have a:(k=1∧-1000000000000≤n∧n≤1000000000000)∨((k=0∨k=2)∧n=0):=by simpa [good] using h
 clear h
 rcases a with ⟨rfl,b,c⟩ | ⟨rfl | rfl,rfl⟩
 all_goals
  go_enter Tryz.func35,Tryz.ntmps35
  go_wp2;go_ret;exact ⟨rfl,by go_grown⟩
theorem jz (n:Int) (w:World) (a : -1000000000000≤n) (b:n≤1000000000000):Calls Tryz.prog 118 #[.int .i64 n] w fun e w'=>e=.returned (.int .i64 (ab n))∧w'=w:=by
 unfold ab
 by_cases h:n<0
 ·rw [if_pos h]
  go_enter Tryz.func118,Tryz.ntmps118
  go_wp2;go_ret;exact ⟨rfl,rfl⟩
 rw [if_neg h]
 go_enter Tryz.func118,Tryz.ntmps118
 go_wp2;go_ret;exact ⟨rfl,rfl⟩
end Go.Proofs.YthlhjjabkgpenaaGreatDoor
