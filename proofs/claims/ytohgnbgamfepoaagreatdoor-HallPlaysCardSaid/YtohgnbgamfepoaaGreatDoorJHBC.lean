/- What Value of package -/
import Derived.Test.YtohgnbgamfepoaaGreatDoorJHAX
import Derived.Test.YtohgnbgamfepoaaGreatDoorJHBA
namespace Go.Proofs.YtohgnbgamfepoaaGreatDoor
open ChangeShapes WideShapes ChangeAt RowKit
set_option maxRecDepth 99999
set_option maxHeartbeats 0
theorem xe (args:Array Value) (w:World):(callFunc 147 args).run Tryz.prog w=.ok (.enter 147 args) w:=by simp [go_sem]
theorem GQ {l:List Nd} {N:List ByteArray} {C:List (Int×Int)} (h:aA l≠0):mN l N C=aA l∧qG l N C=noC:=by
 have e:mN l N C=aA l:=by unfold mN;rw [if_pos h]
 exact ⟨e,by unfold qG;rw [e,if_neg h]⟩
theorem JO {l:List Nd} {N:List ByteArray} {C:List (Int×Int)} (h:aA l=0) (a:dP N C≠0):mN l N C=dP N C∧qG l N C=noC:=by
 have e:mN l N C=dP N C:=by unfold mN;rw [if_neg (by simpa using h),if_pos a]
 exact ⟨e,by unfold qG;rw [e,if_neg a]⟩
theorem Bv {l:List Nd} {N:List ByteArray} {C:List (Int×Int)} (h:aA l=0) (a:dP N C=0):mN l N C=(if missT N (aF l (l.length-1))=true then 5 else 0)∧qG l N C=(if missT N (aF l (l.length-1))=true then noC else eB N C (aF l (l.length-1))):=by
 have e:mN l N C=(if missT N (aF l (l.length-1))=true then 5 else 0):=by unfold mN;rw [if_neg (by simpa using h),if_neg (by simpa using a)]
 refine ⟨e,?_⟩;unfold qG;rw [e];cases missT N (aF l (l.length-1))
 ·rfl
 rfl
theorem DW (A:Option Addr) (cap:Nat) (l:List Nd) (An:Option Addr) (u:Nat) (N:List ByteArray) (Ac:Option Addr) (t:Nat) (C:List (Int×Int)) (w:World) (M:gt w A cap l) (O:D1 w An u N) (L:dx w Ac t C) :
  Calls Tryz.prog 118 #[.slice A l.length cap,.slice An N.length u,.slice Ac C.length t] w fun e w'=>e=.returned (.tuple #[.agg #[.int .i64 (qG l N C).1,.int .i64 (qG l N C).2],errV (mN l N C)])∧Bl w w':=by
 have b:=fun w' (F:Bl w w')=>oQ A cap l w' (M.later F)
 by_cases o:aA l=0
 case neg =>
  obtain ⟨y,z⟩:=GQ (N:=N) (C:=C) o;rw [y,z];rw [ak o] at b ⊢;unfold noC;clear o y z M O L
  go_enter Tryz.func118,Tryz.ntmps118
  go_wp2_with fail;refine (b _ (by go_grown)).mono ?_
  rintro e w1 ⟨rfl,a⟩;have c:Hid (Bl w w1):=ae (by go_grown) a
  obtain ⟨S,hbf⟩:=dk a;have hz:=dp a
  simp at hz
  clear a b;go_wp2_with fail;refine bodyPost_ret (v:=.tuple #[.agg #[.int .i64 0,.int .i64 0],.iface 63 (.int .i64 (aA l))]) (by simp [results,Tryz.results118,go_sem,S]) rfl ⟨rfl,?_⟩
  exact (c.out.setCell (by simp;omega) _).setCell (by simp;omega) _
 rw [o,errV_zero] at b;have j:=fun w' (F:Bl w w')=>vC An u N Ac t C w' (O.later F) (L.later F)
 obtain ⟨W,D⟩:∃ W,((w.alloc (.cells #[.slice An N.length u] 120)).alloc (.cells #[.slice Ac C.length t] 45)).alloc (.cells #[.int .i64 0,.int .i64 0] 52)=W:=⟨_,rfl⟩;have g:Bl w W:=by rw [←D];go_grown
 have Y:W.heap[w.heap.size]?=some (.cells #[.slice An N.length u] 120 (0,0)):=by rw [←D,heap_alloc_old _ _ (by simp;omega),qi]
 have w1:W.heap[w.heap.size+1]?=some (.cells #[.slice Ac C.length t] 45 (0,0)):=by rw [←D,heap_alloc_old _ _ (by simp),kr]
 have P:W.cell? ⟨w.heap.size,0,none⟩=some (.slice An N.length u):=by simp [World.cell?,Y]
 have Q:W.cell? ⟨w.heap.size+1,0,none⟩=some (.slice Ac C.length t):=by simp [World.cell?,w1]
 have G:W.heap.size=w.heap.size+3:=by rw [←D];simp
 have d:Hid (Bl w W):=g;have f:Hid (W.heap.size=w.heap.size+3):=G;have n:W.heap[w.heap.size+1+1]?=some (.cells #[.int .i64 0,.int .i64 0] 52 (0,0)):=by
  have h:=heap_alloc_new ((w.alloc (.cells #[.slice An N.length u] 120)).alloc (.cells #[.slice Ac C.length t] 45)) (.cells #[.int .i64 0,.int .i64 0] 52);rw [D] at h
  simpa using h
 have s:Hid (W.heap[w.heap.size+1+1]?=some (.cells #[.int .i64 0,.int .i64 0] 52 (0,0))):=n;have J:=aa P;have K:=aa Q
 by_cases B:dP N C=0
 case neg =>
  obtain ⟨y,z⟩:=JO o B;rw [y,z];rw [ak B] at j ⊢;unfold noC;clear o B y z M O L g P Q G n Y w1
  go_enter Tryz.func118,Tryz.ntmps118
  go_wp2_with fail;refine (b _ d.out).mono ?_;rintro e w1 ⟨rfl,a⟩;have c:Hid (Bl W w1):=a;have T:=(a.cell (p:=⟨w.heap.size,0,none⟩) (by have:=f.out;simp;omega)).trans J.out
  have U:=(a.cell (p:=⟨w.heap.size+1,0,none⟩) (by have:=f.out;simp;omega)).trans K.out
  clear a b D;go_wp2_with fail;refine (j _ (ae d.out c.out)).mono ?_;rintro e w3 ⟨rfl,m⟩;have k:Hid (Bl W w3):=ae c.out m;have i:=(k.out.block (w.heap.size+1+1) (by have:=f.out;omega)).trans s.out
  have r1:w.heap.size+1+1<w3.heap.size:=(Array.getElem?_eq_some_iff.1 i).1;have V:w3.cell? ⟨w.heap.size+1+1,0,none⟩=some (.int .i64 0):=by simp [World.cell?,i]
  have X:w3.cell? ⟨w.heap.size+1+1,1,none⟩=some (.int .i64 0):=by simp [World.cell?,i]
  have rf0:w3.frozen? ⟨w.heap.size+1+1,0,none⟩=false:=by simp [World.frozen?,i]
  have rf1:w3.frozen? ⟨w.heap.size+1+1,1,none⟩=false:=by simp [World.frozen?,i]
  clear m i j T U;go_wp2_with fail;refine bodyPost_ret (v:=.tuple #[.agg #[.int .i64 0,.int .i64 0],.iface 63 (.int .i64 (dP N C))]) (by simp [results,Tryz.results118,go_sem,V,X]) rfl ⟨rfl,?_⟩
  exact ((ae d.out k.out).setCell (by simp;omega) _).setCell (by simp;omega) _
 obtain ⟨y,z⟩:=Bv o B;rw [y,z];rw [B,errV_zero] at j;have I:Hid (∀ w',Bl W w'→Calls Tryz.prog 146 #[.slice A l.length cap,.func (.func 147) #[] #[.pointer (some ⟨w.heap.size,0,none⟩),.pointer (some ⟨w.heap.size+1,0,none⟩)]] w' fun e w''=>e=.returned (.tuple #[.agg #[.int .i64 (if missT N (aF l (l.length-1))=true then noC else eB N C (aF l (l.length-1))).1,.int .i64 (if missT N (aF l (l.length-1))=true then noC else eB N C (aF l (l.length-1))).2],errV (if missT N (aF l (l.length-1))=true then 5 else 0)])∧Bl w' w''):=by
  intro w' F;refine BT 147 w.heap.size (w.heap.size+1) xe N C A cap l w' (M.later (ae g F)) o (J0 B) ?_;intro x w'' q;have r:=ae F q;exact zq w.heap.size (w.heap.size+1) An u N Ac t C x w'' ((r.cell (p:=⟨w.heap.size,0,none⟩) (by simp;omega)).trans P) ((r.cell (p:=⟨w.heap.size+1,0,none⟩) (by simp;omega)).trans Q) (O.later (ae g r)) (L.later (ae g r)) B
 obtain ⟨R,hR⟩:∃ R,(if missT N (aF l (l.length-1))=true then noC else eB N C (aF l (l.length-1)))=R:=⟨_,rfl⟩
 obtain ⟨E,Z⟩:∃ E,errV (if missT N (aF l (l.length-1))=true then 5 else 0)=E:=⟨_,rfl⟩
 rw [hR,Z] at I ⊢;clear o B y z M O L hR Z g P Q G n Y w1
 go_enter Tryz.func118,Tryz.ntmps118
 go_wp2_with fail;refine (b _ d.out).mono ?_;rintro e w1 ⟨rfl,a⟩;have c:Hid (Bl W w1):=a;have T:=(a.cell (p:=⟨w.heap.size,0,none⟩) (by have:=f.out;simp;omega)).trans J.out
 have U:=(a.cell (p:=⟨w.heap.size+1,0,none⟩) (by have:=f.out;simp;omega)).trans K.out
 clear a b D;go_wp2_with fail;refine (j _ (ae d.out c.out)).mono ?_;rintro e w2 ⟨rfl,q⟩;have H:Hid (Bl W w2):=ae c.out q;clear q j T U;go_wp2_with fail;refine (I.out _ H.out).mono ?_;rintro e w3 ⟨rfl,m⟩;have k:Hid (Bl W w3):=ae H.out m;have i:=(k.out.block (w.heap.size+1+1) (by have:=f.out;omega)).trans s.out
 have r1:w.heap.size+1+1<w3.heap.size:=(Array.getElem?_eq_some_iff.1 i).1;have V:w3.cell? ⟨w.heap.size+1+1,0,none⟩=some (.int .i64 0):=by simp [World.cell?,i]
 have X:w3.cell? ⟨w.heap.size+1+1,1,none⟩=some (.int .i64 0):=by simp [World.cell?,i]
 have rf0:w3.frozen? ⟨w.heap.size+1+1,0,none⟩=false:=by simp [World.frozen?,i]
 have rf1:w3.frozen? ⟨w.heap.size+1+1,1,none⟩=false:=by simp [World.frozen?,i]
 clear m i;go_wp2_with fail;refine bodyPost_ret (v:=.tuple #[.agg #[.int .i64 R.1,.int .i64 R.2],E]) (by simp [results,Tryz.results118,go_sem,V,X]) rfl ⟨rfl,?_⟩
 exact ((ae d.out k.out).setCell (by simp;omega) _).setCell (by simp;omega) _
theorem Tryz.infoMemH:(Tryz.prog.info? 98).map (fun i=>(i.zero,i.size,i.bytes))=some (some (.agg #[.string ⟨#[]⟩,.int .i64 0,.int .i64 0,.string ⟨#[]⟩]),4,48):=by kernel_rfl
theorem Tryz.infoDimH:(Tryz.prog.info? 70).map (fun i=>(i.zero,i.size,i.bytes))=some (some (.agg #[.string ⟨#[]⟩,.int .i64 0,.slice none 0 0]),3,48):=by kernel_rfl
def we (D:Nat→Dm) (A:Nat→Option Addr) (C:Nat→Nat) (j:Nat):Value:=if j % 3=0 then .string (D (j / 3)).name else if j % 3=1 then .int .i64 (D (j / 3)).solve else .slice (A (j / 3)) (D (j / 3)).n (C (j / 3))
def uH (M:Nat→Mem) (j:Nat):Value:=if j % 4=0 then .string (M (j / 4)).name else if j % 4=1 then .int .i64 (M (j / 4)).parent else if j % 4=2 then .int .i64 (M (j / 4)).sign else .string (M (j / 4)).formula
def rowF (f:Nat→Value) (n:Nat):List Value:=(List.range n).map f
theorem jB (f:Nat→Value) (n:Nat):(rowF f n).length=n:=by simp [rowF]
theorem Bm {f:Nat→Value} {n j:Nat} {u:Value} (h:(rowF f n)[j]?=some u):j<n∧u=f j:=by
 have a:j<n:=by have:=(List.getElem?_eq_some_iff.1 h).1;rwa [jB] at this
 simp [rowF,List.getElem?_range a] at h
 exact ⟨a,h.symm⟩
theorem lI (f:Nat→Value) {n j:Nat} (h:j<n):(rowF f n)[j]?=some (f j):=by simp [rowF,List.getElem?_range h]
theorem Hf (D:Nat→Dm) (A:Nat→Option Addr) (C:Nat→Nat) (n:Nat):∀ u∈rowF (we D A C) n,u.oneCell'=true:=fun u a=>by
 unfold rowF at a;obtain ⟨j,-,rfl⟩:=List.mem_map.1 a;unfold we
 split
 ·rfl
 split <;> rfl
theorem Hx (M:Nat→Mem) (n:Nat):∀ u∈rowF (uH M) n,u.oneCell'=true:=fun u a=>by
 unfold rowF at a;obtain ⟨j,-,rfl⟩:=List.mem_map.1 a;unfold uH
 split
 ·rfl
 split
 ·rfl
 split <;> rfl
theorem dV.dc {w:World} {b o n:Nat} {D:Nat→Dm} {A:Nat→Option Addr} {C:Nat→Nat} (h:dV w b o n D A C) {j:Nat} (f:j<n*3):w.cell? ⟨b,o+j,none⟩=some (we D A C j):=by
 obtain ⟨a,c,d,-⟩:=h.2 (j / 3) (by omega)
 unfold we
 split
 ·rename_i e;rw [show o+j=o+j / 3*3 by omega];exact a
 split
 ·rename_i e;rw [show o+j=o+j / 3*3+1 by omega];exact c
 rw [show o+j=o+j / 3*3+2 by omega];exact d
theorem b8.mc {w:World} {b o n:Nat} {M:Nat→Mem} (h:b8 w b o n M) {j:Nat} (f:j<n*4):w.cell? ⟨b,o+j,none⟩=some (uH M j):=by
 obtain ⟨a,c,d,e⟩:=h.2 (j / 4) (by omega)
 unfold uH
 split
 ·rw [show o+j=o+j / 4*4 by omega];exact a
 split
 ·rw [show o+j=o+j / 4*4+1 by omega];exact c
 split
 ·rw [show o+j=o+j / 4*4+2 by omega];exact d
 rw [show o+j=o+j / 4*4+3 by omega];exact e
def tD (w:World) (g n:Nat) (M:Nat→Mem):Prop := ∃ cur fr,w.heap[g]?=some (.cells cur 98 fr)∧∀ j,j<n*4→cur[j]?=some (uH M j)
theorem tD.lt {w:World} {g n:Nat} {M:Nat→Mem} (h:tD w g n M):g<w.heap.size:=by
 obtain ⟨a,fr,b,-⟩:=h;exact (zY b).1
theorem tD.same {w w':World} {g n:Nat} {M:Nat→Mem} (h:tD w g n M) (d:w'.heap[g]?=w.heap[g]?):tD w' g n M:=by
 obtain ⟨a,fr,b,c⟩:=h;exact ⟨a,fr,d.trans b,c⟩
theorem tD.mems {w:World} {g n:Nat} {M:Nat→Mem} (h:tD w g n M):b8 w g 0 n M:=by
 refine ⟨h.lt,fun i d=>?_⟩
 obtain ⟨a,fr,b,c⟩:=h;have e:∀ k,k<4→w.cell? ⟨g,0+i*4+k,none⟩=some (uH M (i*4+k)):=fun k f=>by
  rw [Lib.cell_of_heap b,Nat.zero_add];exact c _ (by omega)
 refine ⟨(e 0 (by omega)).trans ?_,(e 1 (by omega)).trans ?_,(e 2 (by omega)).trans ?_,(e 3 (by omega)).trans ?_⟩
 ·unfold uH;rw [if_pos (by omega),show (i*4+0) / 4=i by omega]
 ·unfold uH;rw [if_neg (by omega),if_pos (by omega),show (i*4+1) / 4=i by omega]
 ·unfold uH;rw [if_neg (by omega),if_neg (by omega),if_pos (by omega),show (i*4+2) / 4=i by omega]
 unfold uH;rw [if_neg (by omega),if_neg (by omega),if_neg (by omega),show (i*4+3) / 4=i by omega]
theorem II {w:World} {g k T:Nat} {cs:Array Value} {fr:Nat×Nat} {v:Value} (h:w.heap[g]?=some (.cells cs T fr)):(w.setCell ⟨g,k,none⟩ v).heap[g]?=some (.cells (cs.setIfInBounds k v) T fr):=by
 rw [Sort.setCell_eq];unfold Sort.mapBlock;simp only [Array.getElem?_modify,if_true,h,Option.map_some]
 rfl
def jX (w:World) (g n:Nat) (f:Nat→Value):Prop := ∃ cur,w.heap[g]?=some (.cells cur 70 (0,0))∧∀ j,j<n*3→cur[j]?=some (f j)
theorem jX.lt {w:World} {g n:Nat} {f:Nat→Value} (h:jX w g n f):g<w.heap.size:=by
 obtain ⟨a,b,-⟩:=h;exact (zY b).1
theorem jX.same {w w':World} {g n:Nat} {f:Nat→Value} (h:jX w g n f) (d:w'.heap[g]?=w.heap[g]?):jX w' g n f:=by
 obtain ⟨a,b,c⟩:=h;exact ⟨a,d.trans b,c⟩
theorem jX.later {w w':World} {g n:Nat} {f:Nat→Value} (h:jX w g n f) (a:Bl w w'):jX w' g n f:=h.same (a.block g h.lt)
theorem jX.cell {w:World} {g n:Nat} {f:Nat→Value} (h:jX w g n f) {j:Nat} (d:j<n*3):w.cell? ⟨g,j,none⟩=some (f j):=by
 obtain ⟨a,b,c⟩:=h;rw [Lib.cell_of_heap b];exact c j d
theorem jX.frozen {w:World} {g n:Nat} {f:Nat→Value} (h:jX w g n f) (j:Nat):w.frozen? ⟨g,j,none⟩=false:=by
 obtain ⟨a,b,-⟩:=h;exact Lib.frozen_of_heap b j
theorem jX.set {w:World} {g n:Nat} {f:Nat→Value} (h:jX w g n f) {x:Nat} (k:x<n*3) (v:Value):jX (w.setCell ⟨g,x,none⟩ v) g n (fun j=>if j=x then v else f j):=by
 obtain ⟨a,c,b⟩:=h;refine ⟨a.setIfInBounds x v,II c,fun j i=>?_⟩
 have d:=b x k
 dsimp only
 by_cases e:j=x
 ·subst e
  rw [if_pos rfl,Array.getElem?_setIfInBounds_self,if_pos (zY d).1]
 rw [if_neg e,Array.getElem?_setIfInBounds_ne (fun h=>e h.symm)]
 exact b j i
def kP (w:World) (N g n:Nat) (D:Nat→Dm) (G C:Nat→Nat):Prop:=N≤g∧jX w g n (we D (fun i=>some ⟨G i,0,none⟩) C)∧∀ i,i<n→N≤G i∧(D i).n≤C i∧tD w (G i) (D i).n (D i).mem
theorem kP.dims {w:World} {N g n:Nat} {D:Nat→Dm} {G C:Nat→Nat} (h:kP w N g n D G C):dV w g 0 n D (fun i=>some ⟨G i,0,none⟩) C:=by
 refine ⟨h.2.1.lt,fun i c=>?_⟩
 have e:∀ k,k<3→w.cell? ⟨g,0+i*3+k,none⟩=some (we D (fun i=>some ⟨G i,0,none⟩) C (i*3+k)):=fun k d=>by
  rw [Nat.zero_add];exact h.2.1.cell (by omega)
 obtain ⟨-,a,b⟩:=h.2.2 i c;refine ⟨(e 0 (by omega)).trans ?_,(e 1 (by omega)).trans ?_,(e 2 (by omega)).trans ?_,a,Or.inr ⟨G i,0,rfl,b.mems⟩⟩
 ·unfold we;rw [if_pos (by omega),show (i*3+0) / 3=i by omega]
 ·unfold we;rw [if_neg (by omega),if_pos (by omega),show (i*3+1) / 3=i by omega]
 unfold we;rw [if_neg (by omega),if_neg (by omega),show (i*3+2) / 3=i by omega]
theorem Bo (M:Nat→Mem) (n:Nat):rowF (uH M) (n*4)=bj M n:=by
 refine List.ext_getElem? fun j=>?_
 by_cases a:j<n*4
 ·rw [lI _ a]
  obtain ⟨b,c,d,e⟩:=oB M n (j / 4) (by omega)
  unfold uH
  split
  ·rw [show (bj M n)[j]?=(bj M n)[j / 4*4]? from congrArg (fun t=>(bj M n)[t]?) (by omega)];exact b.symm
  split
  ·rw [show (bj M n)[j]?=(bj M n)[j / 4*4+1]? from congrArg (fun t=>(bj M n)[t]?) (by omega)];exact c.symm
  split
  ·rw [show (bj M n)[j]?=(bj M n)[j / 4*4+2]? from congrArg (fun t=>(bj M n)[t]?) (by omega)];exact d.symm
  rw [show (bj M n)[j]?=(bj M n)[j / 4*4+3]? from congrArg (fun t=>(bj M n)[t]?) (by omega)];exact e.symm
 rw [List.getElem?_eq_none (by rw [jB];omega),List.getElem?_eq_none (by rw [jn];omega)]
theorem Bn (D:Nat→Dm) (A:Nat→Option Addr) (C:Nat→Nat) (n:Nat):rowF (we D A C) (n*3)=cellsDo D A C n:=by
 refine List.ext_getElem? fun j=>?_
 by_cases a:j<n*3
 ·rw [lI _ a]
  obtain ⟨b,c,d⟩:=gv D A C n (j / 3) (by omega)
  unfold we
  split
  ·rw [show (cellsDo D A C n)[j]?=(cellsDo D A C n)[j / 3*3]? from congrArg (fun t=>(cellsDo D A C n)[t]?) (by omega)];exact b.symm
  split
  ·rw [show (cellsDo D A C n)[j]?=(cellsDo D A C n)[j / 3*3+1]? from congrArg (fun t=>(cellsDo D A C n)[t]?) (by omega)];exact c.symm
  rw [show (cellsDo D A C n)[j]?=(cellsDo D A C n)[j / 3*3+2]? from congrArg (fun t=>(cellsDo D A C n)[t]?) (by omega)];exact d.symm
 rw [List.getElem?_eq_none (by rw [jB];omega),List.getElem?_eq_none (by rw [eN];omega)]
theorem xH (b o c n:Nat) (M:Nat→Mem) (w:World) (G:0<n) (I:n≤12) (z:b8 w b o n M):Calls Tryz.prog 42 #[.slice (some ⟨b,o,none⟩) n c] w fun e w'=>(∃ g d,e=.returned (.slice (some ⟨g,0,none⟩) n d)∧w'.ownsRow w.heap.size 98 4 (.slice (some ⟨g,0,none⟩) n d) n (bj M n))∧Bl w w':=by
 have J:∀ (w:World) (a:Option Addr) (n c n' d:Nat),(binOp .eql 68 (.slice a n c) (.slice none n' d)).run Tryz.prog w=.ok (.bool a.isNone) w:=fun w a n c n' d=>Lib.run_eql_slice_nil w _ _ a n c n' d Tryz.underlying68
 obtain ⟨i0,p,r,s,t⟩:=info_parts Tryz.infoMemH;have x:Hid (∀ j u,(rowF (uH M) (n*4))[j]?=some u→w.cell? ((⟨b,o,none⟩:Addr).add j)=some u):=fun j u q=>by
  obtain ⟨m,rfl⟩:=Bm q;rw [aK];exact z.mc m
 have y:Hid (∀ (w':World) (v:Value),w'.ownsRow w.heap.size 98 4 v n (rowF (uH M) (n*4))→∃ g d,v=.slice (some ⟨g,0,none⟩) n d∧w'.ownsRow w.heap.size 98 4 (.slice (some ⟨g,0,none⟩) n d) n (bj M n)):=fun w' v h=>by
  rw [Bo] at h
  rcases h.2 with ⟨rfl,H⟩ | ⟨g,cap,E,rfl,_⟩
  ·omega
  exact ⟨g,cap,rfl,h⟩
 have B:(rowF (uH M) (n*4)).length=n*4:=jB _ _;have m:=Hx M (n*4);generalize rowF (uH M) (n*4)=R at x y B m;clear z
 go_enter Tryz.func42,Tryz.ntmps42
 go_wp2_with (at_builtin;refine wpList_append_own _ rfl _ _ 68 rfl w.heap.size 98 i0 (.agg #[.string ⟨#[]⟩,.int .i64 0,.int .i64 0,.string ⟨#[]⟩]) 4 48 Tryz.underlying68 p r s t rfl (by decide) _ _ _ rfl (World.ownsRow_made w #[] 0 (zT) (zU) (by simp)) ⟨b,o,none⟩ n c R rfl ?qc1 ?qc2 ?qc3 ?qc4 ?qc5 ?qc6 ?_)
 case qc1=>exact B
 case qc2=>exact fun j u q=>Lib.cell?_alloc_some _ (x.out j u q)
 case qc3=>exact m
 case qc4=>simp only [maxLen];omega
 case qc5=>omega
 case qc6=>simp
 intro v' w1 i f l;obtain ⟨g,d,rfl,A⟩:=y.out _ _ (by simpa using i)
 have D:=aa A;have C:Hid (Bl w w1):=((Below.refl _ w).alloc (zT) _).grown f (by simp) (by intro k F;simp [Value.ownBlock] at F;omega)
 clear i f l A;go_wp2_with fail;go_ret;exact ⟨⟨g,d,rfl,D.out⟩,C.out⟩
theorem wM (b o c n:Nat) (D:Nat→Dm) (A:Nat→Option Addr) (C:Nat→Nat) (w:World) (J:0<n) (L:n≤4) (z:dV w b o n D A C):Calls Tryz.prog 40 #[.slice (some ⟨b,o,none⟩) n c] w fun e w'=>(∃ g d,e=.returned (.slice (some ⟨g,0,none⟩) n d)∧w'.ownsRow w.heap.size 70 3 (.slice (some ⟨g,0,none⟩) n d) n (cellsDo D A C n))∧Bl w w':=by
 have M:∀ (w:World) (a:Option Addr) (n c n' d:Nat),(binOp .eql 22 (.slice a n c) (.slice none n' d)).run Tryz.prog w=.ok (.bool a.isNone) w:=fun w a n c n' d=>Lib.run_eql_slice_nil w _ _ a n c n' d Tryz.underlying22
 obtain ⟨i0,p,r,s,t⟩:=info_parts Tryz.infoDimH;have x:Hid (∀ j u,(rowF (we D A C) (n*3))[j]?=some u→w.cell? ((⟨b,o,none⟩:Addr).add j)=some u):=fun j u q=>by
  obtain ⟨m,rfl⟩:=Bm q;rw [aK];exact z.dc m
 have y:Hid (∀ (w':World) (v:Value),w'.ownsRow w.heap.size 70 3 v n (rowF (we D A C) (n*3))→∃ g d,v=.slice (some ⟨g,0,none⟩) n d∧w'.ownsRow w.heap.size 70 3 (.slice (some ⟨g,0,none⟩) n d) n (cellsDo D A C n)):=fun w' v h=>by
  rw [Bn] at h
  rcases h.2 with ⟨rfl,K⟩ | ⟨g,cap,H,rfl,_⟩
  ·omega
  exact ⟨g,cap,rfl,h⟩
 have E:(rowF (we D A C) (n*3)).length=n*3:=jB _ _;have m:=Hf D A C (n*3);generalize rowF (we D A C) (n*3)=R at x y E m;clear z
 go_enter Tryz.func40,Tryz.ntmps40
 go_wp2_with (at_builtin;refine wpList_append_own _ rfl _ _ 22 rfl w.heap.size 70 i0 (.agg #[.string ⟨#[]⟩,.int .i64 0,.slice none 0 0]) 3 48 Tryz.underlying22 p r s t rfl (by decide) _ _ _ rfl (World.ownsRow_made w #[] 0 (zT) (zU) (by simp)) ⟨b,o,none⟩ n c R rfl ?qc1 ?qc2 ?qc3 ?qc4 ?qc5 ?qc6 ?_)
 case qc1=>exact E
 case qc2=>exact fun j u q=>Lib.cell?_alloc_some _ (x.out j u q)
 case qc3=>exact m
 case qc4=>simp only [maxLen];omega
 case qc5=>omega
 case qc6=>simp
 intro v' w1 i f l;obtain ⟨g,d,rfl,B⟩:=y.out _ _ (by simpa using i)
 have G:=aa B;have F:Hid (Bl w w1):=((Below.refl _ w).alloc (zT) _).grown f (by simp) (by intro k I;simp [Value.ownBlock] at I;omega)
 clear i f l B;go_wp2_with fail;go_ret;exact ⟨⟨g,d,rfl,G.out⟩,F.out⟩
/-! rows of a call's own: what stays, what is stored -/
theorem Bc {w w':World} {B e size n:Nat} {v:Value} {xs:List Value} (h:w.ownsRow B e size v n xs) (a:∀ b cs,B≤b→w.heap[b]?=some (.cells cs e (0,0))→w'.heap[b]?=w.heap[b]?):w'.ownsRow B e size v n xs:=by
 refine ⟨h.1,?_⟩
 rcases h.2 with h4 | ⟨g,cap,cur,h4,hb,hg,h5⟩
 ·exact Or.inl h4
 exact Or.inr ⟨g,cap,cur,h4,hb,(a g cur hb hg).trans hg,h5⟩
theorem Bb {w:World} {B B' e size n:Nat} {v:Value} {xs:List Value} (h:w.ownsRow B e size v n xs) (a:B'≤B):w.ownsRow B' e size v n xs:=by
 refine ⟨h.1,?_⟩
 rcases h.2 with h4 | ⟨g,cap,cur,h4,hb,hg,h5⟩
 ·exact Or.inl h4
 exact Or.inr ⟨g,cap,cur,h4,zV a hb,hg,h5⟩
theorem sP {w:World} {B e size n g cap j:Nat} {xs:List Value} {u:Value} (h:w.ownsRow B e size (.slice (some ⟨g,0,none⟩) n cap) n xs) (a:xs[j]?=some u):(w.setCell ⟨g,j,none⟩ u).ownsRow B e size (.slice (some ⟨g,0,none⟩) n cap) n xs:=by
 have b:=(h.stored j u).1
 rwa [show xs.set j u=xs from by
  refine List.ext_getElem? fun k=>?_
  rw [List.getElem?_set]
  split
  ·rename_i e;subst e;rw [a];simp [(List.getElem?_eq_some_iff.1 a).1]
  rfl] at b
theorem yi {w:World} {B e size n g j:Nat} {v u:Value} {xs:List Value} (h:w.ownsRow B e size v n xs) (a:v.ownBlock≠some g):(w.setCell ⟨g,j,none⟩ u).ownsRow B e size v n xs:=by
 refine ⟨h.1,?_⟩
 rcases h.2 with h4 | ⟨g',cap,cur,rfl,hb,hg,h5⟩
 ·exact Or.inl h4
 exact Or.inr ⟨g',cap,cur,rfl,hb,(ar _ _ _ _ _ fun e=>a (by rw [e];rfl)).trans hg,h5⟩
theorem ig {w:World} {B e size n g cap:Nat} {xs:List Value} (h:w.ownsRow B e size (.slice (some ⟨g,0,none⟩) n cap) n xs):B≤g∧g<w.heap.size∧n≤cap∧cap≤maxLen∧∃ a,w.heap[g]?=some (.cells a e (0,0)):=by
 rcases h.2 with ⟨b,_⟩ | ⟨g',f,a,b,j,i,d,c,_⟩
 ·cases b
 cases b;exact ⟨j,(zY i).1,d,c,a,i⟩
structure OwD (w:World) (B g cd n:Nat) (D:Nat→Dm) (G C:Nat→Nat):Prop where
 dims:w.ownsRow B 70 3 (.slice (some ⟨g,0,none⟩) n cd) n (cellsDo D (fun i=>some ⟨G i,0,none⟩) C n)
 mems:∀ i,i<n→w.ownsRow B 98 4 (.slice (some ⟨G i,0,none⟩) (D i).n (C i)) (D i).n (bj (D i).mem (D i).n)
 apart:∀ i j,i<n→j<n→i≠j→G i≠G j
theorem OwD.keep {w w':World} {B g d n:Nat} {D:Nat→Dm} {G C:Nat→Nat} (h:OwD w B g d n D G C) (f:∀ b cs e,B≤b→w.heap[b]?=some (.cells cs e (0,0))→e=70∨e=98→w'.heap[b]?=w.heap[b]?):OwD w' B g d n D G C :=
 ⟨Bc h.dims fun b cs a c=>f b cs _ a c (Or.inl rfl),fun i j=>Bc (h.mems i j) fun b cs a c=>f b cs _ a c (Or.inr rfl),h.apart⟩
theorem OwD.later {w w':World} {B g a n:Nat} {D:Nat→Dm} {G C:Nat→Nat} (h:OwD w B g a n D G C) (c:Bl w w'):OwD w' B g a n D G C :=
 h.keep fun b _ _ _ d _=>c.block b (zY d).1
def zB (w wr:World) (g cg k n:Nat) (D:Nat→Dm) (A:Nat→Option Addr) (C:Nat→Nat):Prop := ∃ G C':Nat→Nat,wr.ownsRow w.heap.size 70 3 (.slice (some ⟨g,0,none⟩) n cg) n (cellsDo D (fun i=>if i<k then some ⟨G i,0,none⟩ else A i) (fun i=>if i<k then C' i else C i) n)∧(∀ i,i<k→wr.ownsRow w.heap.size 98 4 (.slice (some ⟨G i,0,none⟩) (D i).n (C' i)) (D i).n (bj (D i).mem (D i).n))∧∀ i j,i<k→j<k→i≠j→G i≠G j
theorem zB.later {w wr w':World} {g a k n:Nat} {D:Nat→Dm} {A:Nat→Option Addr} {C:Nat→Nat} (h:zB w wr g a k n D A C) (b:Bl wr w'):zB w w' g a k n D A C:=by
 obtain ⟨G,C',c,d,e⟩:=h;exact ⟨G,C',an c b,fun i f=>an (d i f) b,e⟩
theorem zB.row {w wr:World} {g b k n:Nat} {D:Nat→Dm} {A:Nat→Option Addr} {C:Nat→Nat} (h:zB w wr g b k n D A C) (d:k<n):w.heap.size≤g∧g<wr.heap.size∧n≤b∧wr.cell? ⟨g,k*3,none⟩=some (.string (D k).name)∧wr.cell? ⟨g,k*3+1,none⟩=some (.int .i64 (D k).solve)∧wr.cell? ⟨g,k*3+2,none⟩=some (.slice (A k) (D k).n (C k))∧∀ j,wr.frozen? ⟨g,j,none⟩=false:=by
 obtain ⟨G,C',a,-,-⟩:=h;obtain ⟨b1,b2,b3,-,-⟩:=ig a;obtain ⟨e,f,c⟩:=gv D (fun i=>if i<k then some ⟨G i,0,none⟩ else A i) (fun i=>if i<k then C' i else C i) n k d
 simp only [Nat.lt_irrefl,if_false] at c;exact ⟨b1,b2,b3,by rw [a.cellAt _ (by omega)];exact e,by rw [a.cellAt _ (by omega)];exact f,by rw [a.cellAt _ (by omega)];exact c,fun j=>a.frozenAt j⟩
theorem zB.name {w wr:World} {g a k n:Nat} {D:Nat→Dm} {A:Nat→Option Addr} {C:Nat→Nat} (h:zB w wr g a k n D A C) (l:k<n):zB w (wr.setCell ⟨g,k*3,none⟩ (.string (D k).name)) g a k n D A C:=by
 obtain ⟨G,C',b,c,f⟩:=h;obtain ⟨-,-,-,-,e,j⟩:=ig b;exact ⟨G,C',sP b (gv D _ _ n k l).1,fun i d=>yi (c i d) (ym (c i d) j (by decide)),f⟩
theorem zB.put {w wy wr:World} {g o k n gm cm:Nat} {D:Nat→Dm} {A:Nat→Option Addr} {C:Nat→Nat} (h:zB w wy g o k n D A C) (M:k<n) (t:Bl wy wr) (m:w.heap.size≤wy.heap.size) (f:wr.ownsRow wy.heap.size 98 4 (.slice (some ⟨gm,0,none⟩) (D k).n cm) (D k).n (bj (D k).mem (D k).n)):zB w (wr.setCell ⟨g,k*3+2,none⟩ (.slice (some ⟨gm,0,none⟩) (D k).n cm)) g o (k+1) n D A C:=by
 obtain ⟨G,C',x,r,y⟩:=h;have q:=an x t;obtain ⟨-,-,-,-,v,u⟩:=ig q;have B:=(ig f).1;have b:∀ i,i<k→G i<wy.heap.size:=fun i d=>(ig (r i d)).2.1
 refine ⟨fun i=>if i=k then gm else G i,fun i=>if i=k then cm else C' i,?_,fun i d=>?_,fun i j d E l=>?_⟩
 ·have z:=(q.stored (k*3+2) (.slice (some ⟨gm,0,none⟩) (D k).n cm)).1
  rwa [show (cellsDo D (fun i=>if i<k then some ⟨G i,0,none⟩ else A i) (fun i=>if i<k then C' i else C i) n).set (k*3+2) (.slice (some ⟨gm,0,none⟩) (D k).n cm)=cellsDo D (fun i=>if i<k+1 then some ⟨if i=k then gm else G i,0,none⟩ else A i) (fun i=>if i<k+1 then (if i=k then cm else C' i) else C i) n from by
   refine List.ext_getElem? fun j=>?_
   rw [List.getElem?_set]
   by_cases E:j<n*3
   ·obtain ⟨F,H,I⟩:=gv D (fun i=>if i<k then some ⟨G i,0,none⟩ else A i) (fun i=>if i<k then C' i else C i) n (j / 3) (by omega)
    obtain ⟨J,K,L⟩:=gv D (fun i=>if i<k+1 then some ⟨if i=k then gm else G i,0,none⟩ else A i) (fun i=>if i<k+1 then (if i=k then cm else C' i) else C i) n (j / 3) (by omega)
    rcases (by omega:j % 3=0∨j % 3=1∨j % 3=2) with e | e | e
    ·rw [if_neg (by omega),show j=j / 3*3 by omega,F,J]
    ·rw [if_neg (by omega),show j=j / 3*3+1 by omega,H,K]
    rw [show j=j / 3*3+2 by omega,I,L]
    by_cases a:j / 3=k
    ·rw [if_pos (by omega),if_pos (by rw [eN];omega),if_pos (by omega),if_pos a,if_pos (by omega),if_pos a,a]
    rw [if_neg (by omega),if_neg a,if_neg a]
    by_cases c:j / 3<k
    ·rw [if_pos c,if_pos c,if_pos (by omega),if_pos (by omega)]
    rw [if_neg c,if_neg c,if_neg (by omega),if_neg (by omega)]
   rw [if_neg (by omega),List.getElem?_eq_none (by rw [eN];omega),List.getElem?_eq_none (by rw [eN];omega)]] at z
 ·dsimp only
  by_cases e:i=k
  ·subst e
   rw [if_pos rfl,if_pos rfl];exact Bb (yi f (ym f u (by decide))) m
  rw [if_neg e,if_neg e];have s:=an (r i (by omega)) t
  exact yi s (ym s u (by decide))
 dsimp only
 by_cases p:i=k
 ·rw [if_pos p,if_neg (by omega)]
  have:=b j (by omega)
  omega
 rw [if_neg p]
 by_cases a:j=k
 ·rw [if_pos a]
  have:=b i (by omega)
  omega
 rw [if_neg a];exact y i j (by omega) (by omega) l
theorem zB.all {w wr:World} {g a n:Nat} {D:Nat→Dm} {A:Nat→Option Addr} {C:Nat→Nat} (h:zB w wr g a n n D A C):∃ G C',OwD wr w.heap.size g a n D G C':=by
 obtain ⟨G,C',c,d,e⟩:=h;refine ⟨G,C',?_,d,e⟩
 rwa [iT (A':=fun i=>some ⟨G i,0,none⟩) (C':=C') n fun i b=>⟨if_pos b,if_pos b⟩] at c
end Go.Proofs.YtohgnbgamfepoaaGreatDoor
