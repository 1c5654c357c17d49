/- A list of numbers of a -/
import Derived.Test.YtohgnbgamfepoaaGreatDoorShelfH
import Derived.Test.YtohgnbgamfepoaaGreatDoorJHAW
import Derived.Test.YtohgnbgamfepoaaGreatDoorJHBC
namespace Go.Proofs.YtohgnbgamfepoaaGreatDoor
open ChangeShapes WideShapes ChangeAt RowKit
set_option maxRecDepth 99999
set_option maxHeartbeats 0
theorem eT {g T:Nat} {fr:Nat×Nat}:∀ (vs:List Value) (o:Nat) (a:Array Value) (w:World),w.heap[g]?=some (.cells a T fr)→∃ cur',(w.setCells g o vs).heap[g]?=some (.cells cur' T fr)∧cur'.size=a.size
 | [],_,a,_,h=>⟨a,h,rfl⟩
 | v :: r,o,a,w,h=>by
  obtain ⟨c2,b,c⟩:=eT r (o+1) _ (w.setCell ⟨g,o,none⟩ v) (cI h);exact ⟨c2,b,by rw [c];simp⟩
theorem im (g:Nat):∀ (vs:List Value) (o:Nat) (w:World),(w.setCells g o vs).heap.size=w.heap.size
 | [],_,_=>rfl
 | v :: r,o,w=>by
  show ((w.setCell ⟨g,o,none⟩ v).setCells g (o+1) r).heap.size=_
  rw [im g r];simp
theorem jd (g:Nat) {b:Nat} (a:b≠g):∀ (vs:List Value) (o:Nat) (w:World),(w.setCells g o vs).heap[b]?=w.heap[b]?
 | [],_,_=>rfl
 | v :: r,o,w=>by
  show ((w.setCell ⟨g,o,none⟩ v).setCells g (o+1) r).heap[b]?=_
  rw [jd g a r,ar _ _ _ _ _ a]
theorem jE (g:Nat):∀ (vs:List Value) (o:Nat) (w:World),(w.setCells g o vs).os=w.os∧(w.setCells g o vs).tape=w.tape∧(w.setCells g o vs).output=w.output
 | [],_,_=>⟨rfl,rfl,rfl⟩
 | v :: r,o,w=>jE g r (o+1) (w.setCell ⟨g,o,none⟩ v)
theorem gD {w w':World} {g:Nat} (h:w.grownBy w' (some g)) (vs:List Value) (o:Nat):w.grownBy (w'.setCells g o vs) (some g):=by
 obtain ⟨b,c,d⟩:=jE g vs o w';refine ⟨b.trans h.os,c.trans h.tape,d.trans h.output,by rw [im];exact h.size,fun k f a=>?_⟩
 rw [jd g (fun e=>a (by rw [e]))]
 exact h.block k f a
def ia (w:World) (g:Nat) (A:Option Addr) (cap:Nat) (L:List Int):Prop:=L.length≤cap∧cap≤9223372036854775807∧∃ o,A=some ⟨g,o,none⟩∧(∃ cur,w.heap[g]?=some (.cells cur 3 (0,0))∧o+cap≤cur.size)∧∀ j,j<L.length→w.cell? ⟨g,o+j,none⟩=some (.int .i64 (L.getD j 0))
theorem ia.lt {w:World} {g cap:Nat} {A:Option Addr} {L:List Int} (h:ia w g A cap L):g<w.heap.size:=by
 obtain ⟨-,-,o,-,⟨a,b,-⟩,-⟩:=h;exact (zY b).1
theorem ia.same {w w':World} {g cap:Nat} {A:Option Addr} {L:List Int} (h:ia w g A cap L) (c:w'.heap[g]?=w.heap[g]?):ia w' g A cap L:=by
 obtain ⟨d,e,o,f,⟨b,l,i⟩,k⟩:=h;exact ⟨d,e,o,f,⟨b,c.trans l,i⟩,fun j m=>(World.cell?_of_block (a:=⟨g,o+j,none⟩) c).trans (k j m)⟩
theorem ia.later {w w':World} {g cap:Nat} {A:Option Addr} {L:List Int} (h:ia w g A cap L) (a:Bl w w'):ia w' g A cap L:=h.same (a.block g h.lt)
theorem ia.own {w:World} {base:Nat} {v:Value} {L:List Int} (h:w.ownsRow base 3 1 v L.length (aE L)) (n:0<L.length):∃ g c,v=.slice (some ⟨g,0,none⟩) L.length c∧base≤g∧ia w g (some ⟨g,0,none⟩) c L:=by
 rcases h.2 with ⟨rfl,m⟩ | ⟨g,cap,b,rfl,e,i,f,l,o,_⟩
 ·omega
 refine ⟨g,cap,rfl,e,f,by unfold maxLen at l;omega,0,rfl,⟨b,i,by omega⟩,fun j k=>?_⟩
 have d:=h.cells (g:=g) rfl j (.int .i64 (L.getD j 0)) (by simp [aE,List.getD,zX k])
 have a:(⟨g,0,none⟩:Addr).add j=⟨g,j,none⟩:=by unfold Addr.add;split <;> simp_all
 rw [a] at d;rw [Nat.zero_add];exact d
theorem Hw {L:List Int} {j:Nat} {v:Value} (h:(aE L)[j]?=some v):j<L.length∧v=.int .i64 (L.getD j 0):=by
 unfold aE at h;rw [List.getElem?_map] at h;have a:j<L.length:=by
  refine Classical.byContradiction fun b=>?_
  rw [List.getElem?_eq_none (by omega)] at h
  cases h
 rw [zX a] at h;refine ⟨a,?_⟩;rw [zZ,zX a]
 simp at h ⊢
 exact h.symm
theorem uG (L:List Int):∀ v∈aE L,v.oneCell'=true:=by intro u a;simp [aE] at a;obtain ⟨x,-,rfl⟩:=a;rfl
theorem mapI_len (L:List Int):(aE L).length=L.length:=by simp [aE]
theorem ia.cells {w:World} {g cap o:Nat} {L:List Int} (h:ia w g (some ⟨g,o,none⟩) cap L):∀ j v,(aE L)[j]?=some v→w.cell? ⟨g,o+j,none⟩=some v:=fun j v d=>by
 obtain ⟨a,rfl⟩:=Hw d;obtain ⟨-,-,o',b,-,c⟩:=h;cases b;exact c j a
theorem Fe {L:List Int} {x:Int} {i:Nat} (b:i≤L.length) (j:Nat):(j<i→(L.take i ++ x :: L.drop i).getD j 0=L.getD j 0)∧(j=i→(L.take i ++ x :: L.drop i).getD j 0=x)∧(i<j→(L.take i ++ x :: L.drop i).getD j 0=L.getD (j-1) 0):=by
 have a:(L.take i).length=i:=by rw [List.length_take];omega
 refine ⟨fun h=>?_,fun h=>?_,fun h=>?_⟩
 ·rw [zZ,List.getElem?_append_left (by omega),List.getElem?_take_of_lt h,zZ]
 ·subst h
  rw [zZ,List.getElem?_append_right (by omega),a,Nat.sub_self]
  rfl
 rw [zZ,List.getElem?_append_right (by omega),a,show j-i=(j-i-1)+1 by omega,List.getElem?_cons_succ,List.getElem?_drop,zZ,show i+(j-i-1)=j-1 by omega]
theorem li {L:List Int} {x:Int} {i:Nat} (a:i≤L.length):(L.take i ++ x :: L.drop i).length=L.length+1:=by
 rw [List.length_append,List.length_cons,List.length_take,List.length_drop]
 omega
theorem B8 (A:Option Addr) (cap g:Nat) (L:List Int) (x:Int) (w:World) (f:L.length≤3000) (c:ia w g A cap L) (d:L.Pairwise (· < ·)):Calls Tryz.prog 57 #[.slice A L.length cap,.int .i64 x] w fun e w'=>(∃ b,e=.returned (.tuple #[.int .i64 (L.countP (· < x):Nat),.bool b]))∧Bl w w':=by
 obtain ⟨-,-,o,rfl,-,a⟩:=c;refine Calls.mono (Any.slices_BinarySearch_int Tryz.lays25 g o L.length cap L x w (zT) (by omega) a (by rw [List.take_length];exact d.imp fun h=>by omega)) ?_
 rintro e w' ⟨rfl,q,rfl⟩;rw [List.take_length];exact ⟨⟨_,rfl⟩,ac (zS) _⟩
def BA (w:World) (g i:Nat) (L:List Int) (x:Int) (e:Ending) (w':World):Prop := ∃ g' A' c',e=.returned (.slice A' (L.length+1) c')∧ia w' g' A' c' (L.take i ++ x :: L.drop i)∧(g'=g∨w.heap.size≤g')∧w.grownBy w' (some g)
theorem Fd (A:Option Addr) (cap g i vb:Nat) (L:List Int) (x:Int) (w:World) (hl:L.length≤3000) (Q:i≤L.length) (hR:ia w g A cap L) (P:w.heap[vb]?=some (.cells #[.int .i64 x] 3 (0,0))) (hvb:vb≠g):Calls Tryz.prog 116 #[.slice A L.length cap,.int .i64 i,.slice (some ⟨vb,0,none⟩) 1 1] w fun e w'=>BA w g i L x e w':=by
 obtain ⟨h1,h2,o,rfl,⟨r,W,h4⟩,h5⟩:=id hR;have hgl:=hR.lt;have J:=hR.cells;have D:∀ j v,([Value.int .i64 x]:List Value)[j]?=some v→w.cell? ⟨vb,0+j,none⟩=some v:=fun j v f=>by
  rw [Nat.zero_add,Lib.cell_of_heap P]
  simpa using f
 have n:∀ v∈([Value.int .i64 x]:List Value),v.oneCell'=true:=fun v P=>by simp at P;subst P;rfl
 have z:∀ j,j<cap→(w.cell? ⟨g,o+j,none⟩).isSome=true:=fun j f=>by
  rw [Lib.cell_of_heap W]
  simp [show o+j<r.size by omega]
 have X:∀ j,w.frozen? ⟨g,j,none⟩=false:=fun j=>Lib.frozen_of_heap W j
 have E:∀ w',w.grownBy w' (some g)→(∃ c,w'.heap[g]?=some (.cells c 3 (0,0))∧c.size=r.size)→L.length+1≤cap→(∀ j,j<i→w'.cell? ⟨g,o+j,none⟩=some (.int .i64 (L.getD j 0)))→w'.cell? ⟨g,o+i,none⟩=some (.int .i64 x)→(∀ j,i<j→j<L.length+1→w'.cell? ⟨g,o+j,none⟩=some (.int .i64 (L.getD (j-1) 0)))→BA w g i L x (.returned (.slice (some ⟨g,o,none⟩) (L.length+1) cap)) w':=fun w' hG O d a1 a2 a3=>by
  obtain ⟨c,H,hsz⟩:=O;refine ⟨g,_,_,rfl,⟨by rw [li Q];exact d,h2,o,rfl,⟨c,H,by omega⟩,fun j f=>?_⟩,Or.inl rfl,hG⟩
  rw [li Q] at f;obtain ⟨b1,b2,b3⟩:=Fe (x:=x) Q j
  by_cases p:j<i
  ·rw [b1 p];exact a1 j p
  by_cases q:j=i
  ·rw [b2 q,q];exact a2
  rw [b3 (by omega)];exact a3 j (by omega) f
 by_cases d:L.length+1≤cap
 ·by_cases M:i<L.length
  ·refine Calls.mono (Any2.slices_Insert_int_shift Tryz.lays21 g o L.length cap i vb 0 1 1 (aE L) [.int .i64 x] w M (by omega) d h2 hvb (mapI_len L) rfl J (fun j f=>z j (by omega)) (fun j _=>X _) D (uG L) n 3 3 1 r.size (by simp [World.shape?,P]) (by simp [World.shape?,W]) (by omega) (Lib.frozen_of_heap P 0) (Lib.frozen_of_heap P 1)) ?_
   rintro e w' ⟨rfl,rfl⟩;have t:((aE L).drop i).length=L.length-i:=by rw [List.length_drop,mapI_len]
   obtain ⟨c1,I,hs1⟩:=eT ((aE L).drop i) (o+(i+1)) r w.drew W;obtain ⟨c2,s,N⟩:=eT [.int .i64 x] (o+i) c1 _ I;have Y:∀ j,i<j→j<L.length+1→(w.drew.setCells g (o+(i+1)) ((aE L).drop i)).cell? ⟨g,o+j,none⟩=some (.int .i64 (L.getD (j-1) 0)):=fun j p q=>by
    have h:=World.cell?_setCells_in g ((aE L).drop i) (o+(i+1)) w.drew (fun k B=>by rw [t] at B;have:=z (i+1+k) (by omega);rw [show o+(i+1)+k=o+(i+1+k) by omega];exact this) (j-(i+1)) (by rw [t];omega)
    rw [show o+(i+1)+(j-(i+1))=o+j by omega] at h
    rw [h,List.getElem_drop];simp only [aE,List.getElem_map,Option.some.injEq,Value.int.injEq,true_and];rw [zZ,zX (by omega)]
    simp only [Option.getD_some]
    congr 1
    omega
   refine E _ (gD (gD (eD (cV _ _)) _ _) _ _) ⟨c2,s,by omega⟩ d (fun j f=>?_) ?_ fun j p q=>?_
   ·rw [World.cell?_setCells_out g _ _ _ _ (fun _ _=>Or.inl (by show o+j<o+i;omega)),World.cell?_setCells_out g _ _ _ _ (fun _ _=>Or.inl (by show o+j<o+(i+1);omega))]
    exact h5 j (by omega)
   ·have h:=World.cell?_setCells_in g [.int .i64 x] (o+i) (w.drew.setCells g (o+(i+1)) ((aE L).drop i)) (fun k B=>by
     have u:k=0:=by simpa using B
     subst u;rw [World.cell?_setCells_out g _ _ _ _ (fun _ _=>Or.inl (by show o+i+0<o+(i+1);omega))]
     exact z i (by omega)) 0 (by simp)
    simpa using h
   rw [World.cell?_setCells_out g _ _ _ _ (fun _ _=>Or.inr (by show o+i+1≤o+j;omega))]
   exact Y j p q
  have K:i=L.length:=by omega
  subst K;refine Calls.mono (Any2.slices_Insert_int_end_room Tryz.lays21 g o L.length cap vb 0 1 1 [.int .i64 x] w (by omega) d h2 rfl (fun j f=>by have:=z (L.length+j) (by omega);rw [show o+L.length+j=o+(L.length+j) by omega];exact this) (fun j _=>X _) D n) ?_
  rintro e w' ⟨rfl,rfl⟩;obtain ⟨c2,s,N⟩:=eT [.int .i64 x] (o+L.length) r w W;refine E _ (gD (cV _ _) _ _) ⟨c2,s,N⟩ d (fun j f=>?_) ?_ fun j p q=>by omega
  ·rw [World.cell?_setCells_out g _ _ _ _ (fun _ _=>Or.inl (by show o+j<o+L.length;omega))]
   exact h5 j f
  have h:=World.cell?_setCells_in g [.int .i64 x] (o+L.length) w (fun k B=>by
   have u:k=0:=by simpa using B
   subst u;exact z L.length (by omega)) 0 (by simp)
  simpa using h
 have F:∀ (G:Nat) (w':World),L.length+1≤G→G≤maxLen→Bl w w'→(∃ c,w'.heap[w.heap.size]?=some (.cells c 3 (0,0))∧c.size=G)→(∀ j,j<i→w'.cell? ⟨w.heap.size,j,none⟩=some (.int .i64 (L.getD j 0)))→w'.cell? ⟨w.heap.size,i,none⟩=some (.int .i64 x)→(∀ j,i<j→j<L.length+1→w'.cell? ⟨w.heap.size,j,none⟩=some (.int .i64 (L.getD (j-1) 0)))→BA w g i L x (.returned (.slice (some ⟨w.heap.size,0,none⟩) (L.length+1) G)) w':=fun G w' hG C hB O a1 a2 a3=>by
  obtain ⟨c,H,hsz⟩:=O;refine ⟨w.heap.size,_,_,rfl,⟨by rw [li Q];exact hG,by unfold maxLen at C;omega,0,rfl,⟨c,H,by omega⟩,fun j f=>?_⟩,Or.inr (zT),bB hB⟩
  rw [li Q] at f;obtain ⟨b1,b2,b3⟩:=Fe (x:=x) Q j;rw [Nat.zero_add]
  by_cases p:j<i
  ·rw [b1 p];exact a1 j p
  by_cases q:j=i
  ·rw [b2 q,q];exact a2
  rw [b3 (by omega)];exact a3 j (by omega) f
 have S:=grownCap_ge w (L.length+1) cap 3;have C:=grownCap_le_maxLen w (L.length+1) cap 3 (by unfold maxLen;omega)
 by_cases M:i<L.length
 ·refine Calls.mono (Any2.slices_Insert_int_grow Tryz.lays21 g o L.length cap i vb 0 1 1 (aE L) [.int .i64 x] w M (by omega) h1 (by omega) (by omega) (mapI_len L) rfl J D (uG L) n) ?_
  rintro e w' ⟨rfl,rfl⟩;have t:((aE L).drop i).length=L.length-i:=by rw [List.length_drop,mapI_len]
  have Z:((aE L).take i).length=i:=by rw [List.length_take,mapI_len];omega
  obtain ⟨ROW,l⟩:∃ ROW:Array Value,((aE L).take i).toArray ++ Builtin.zeroCells (Value.int .i64 0).cells (L.length+1-i) ++ Builtin.zeroCells (Value.int .i64 0).cells (grownCap w (L.length+1) cap 3-(L.length+1))=ROW:=⟨_,rfl⟩;have T:ROW.size=grownCap w (L.length+1) cap 3:=by
   rw [←l,Array.size_append,Array.size_append,size_zeroCells,size_zeroCells,List.size_toArray,Z];simp only [Value.cells,List.size_toArray,List.length_cons,List.length_nil]
   omega
  have hRt:∀ j,j<i→ROW[j]?=some (.int .i64 (L.getD j 0)):=fun j f=>by
   rw [←l,Array.append_assoc,Array.getElem?_append_left (by rw [List.size_toArray,Z];exact f),List.getElem?_toArray,List.getElem?_take_of_lt f]
   unfold aE;rw [List.getElem?_map,zX (by omega),zZ,zX (by omega)]
   rfl
  show BA w g i L x (.returned (.slice (some ⟨w.heap.size,0,none⟩) (L.length+1) (grownCap w (L.length+1) cap 3))) ((((w.alloc (.cells (((aE L).take i).toArray ++ Builtin.zeroCells (Value.int .i64 0).cells (L.length+1-i) ++ Builtin.zeroCells (Value.int .i64 0).cells (grownCap w (L.length+1) cap 3-(L.length+1))) 3)).drew.setCells w.heap.size i [.int .i64 x]).drew).setCells w.heap.size (i+1) ((aE L).drop i))
  rw [l];have m:((w.alloc (.cells ROW 3)).drew).heap[w.heap.size]?=some (.cells ROW 3 (0,0)):=heap_alloc_new w _;obtain ⟨c1,I,hs1⟩:=eT [.int .i64 x] i ROW _ m;obtain ⟨c2,s,N⟩:=eT ((aE L).drop i) (i+1) c1 ((w.alloc (.cells ROW 3)).drew.setCells w.heap.size i [.int .i64 x]).drew I;have hB0:Bl w (w.alloc (.cells ROW 3)).drew:=by go_grown
  have R:∀ (w1:World) (vs:List Value) (k:Nat),Bl w w1→Bl w (w1.setCells w.heap.size k vs):=fun w1 vs k h=>by
   obtain ⟨p,q,e3⟩:=jE w.heap.size vs k w1;exact ⟨p.trans h.os,q.trans h.tape,e3.trans h.output,by rw [im];exact h.size,fun b hb=>by rw [jd _ (Nat.ne_of_lt hb)];exact h.block b hb⟩
  have hB1:=R _ [.int .i64 x] i hB0;have y:∀ (k:Nat),k<grownCap w (L.length+1) cap 3→((w.alloc (.cells ROW 3)).drew.cell? ⟨w.heap.size,k,none⟩).isSome=true:=fun k B=>by
   rw [Lib.cell_of_heap m]
   simp [show k<ROW.size by omega]
  refine F _ _ S C (R _ _ _ (by exact ac hB1 1)) ⟨c2,s,by omega⟩ (fun j f=>?_) ?_ fun j p q=>?_
  ·rw [World.cell?_setCells_out _ _ _ _ _ (fun _ _=>Or.inl (by show j<i+1;omega))]
   show ((w.alloc (.cells ROW 3)).drew.setCells w.heap.size i [.int .i64 x]).cell? _=_
   rw [World.cell?_setCells_out _ _ _ _ _ (fun _ _=>Or.inl (by show j<i;omega)),Lib.cell_of_heap m]
   exact hRt j f
  ·rw [World.cell?_setCells_out _ _ _ _ _ (fun _ _=>Or.inl (by show i<i+1;omega))]
   show ((w.alloc (.cells ROW 3)).drew.setCells w.heap.size i [.int .i64 x]).cell? _=_
   have h:=World.cell?_setCells_in w.heap.size [.int .i64 x] i (w.alloc (.cells ROW 3)).drew (fun k B=>by
    have u:k=0:=by simpa using B
    subst u;exact y _ (by omega)) 0 (by simp)
   simpa using h
  have h:=World.cell?_setCells_in w.heap.size ((aE L).drop i) (i+1) ((w.alloc (.cells ROW 3)).drew.setCells w.heap.size i [.int .i64 x]).drew (fun k B=>by
   rw [t] at B
   show (((w.alloc (.cells ROW 3)).drew.setCells w.heap.size i [.int .i64 x]).cell? _).isSome=true
   rw [World.cell?_setCells_out _ _ _ _ _ (fun _ _=>Or.inr (by show i+1≤i+1+k;omega))]
   exact y _ (by omega)) (j-(i+1)) (by rw [t];omega)
  rw [show i+1+(j-(i+1))=j by omega] at h
  rw [h,List.getElem_drop];simp only [aE,List.getElem_map,Option.some.injEq,Value.int.injEq,true_and];rw [zZ,zX (by omega)]
  simp only [Option.getD_some]
  congr 1
  omega
 have K:i=L.length:=by omega
 subst K;have U:∀ j,(⟨g,o,none⟩:Addr).add j=⟨g,o+j,none⟩:=fun j=>by unfold Addr.add;split <;> simp_all
 refine Calls.mono (Any2.slices_Insert_int_end_grow Tryz.lays21 (some ⟨g,o,none⟩) L.length cap vb 0 1 1 (aE L) [.int .i64 x] w (by omega) h1 (by omega) (by omega) (mapI_len L) rfl (fun h=>by cases h) (fun a ha j v f=>by
  cases ha;rw [U];exact J j v f) D n) ?_
 rintro e w' ⟨rfl,rfl⟩;obtain ⟨ROW,l⟩:∃ ROW:Array Value,(aE L ++ [Value.int .i64 x]).toArray ++ Builtin.zeroCells (Value.int .i64 0).cells (grownCap w (L.length+1) cap 3-(L.length+1))=ROW:=⟨_,rfl⟩;have T:ROW.size=grownCap w (L.length+1) cap 3:=by
  rw [←l,Array.size_append,size_zeroCells,List.size_toArray,List.length_append,mapI_len];simp only [Value.cells,List.size_toArray,List.length_cons,List.length_nil]
  omega
 show BA w g L.length L x (.returned (.slice (some ⟨w.heap.size,0,none⟩) (L.length+1) (grownCap w (L.length+1) cap 3))) (w.drew.alloc (.cells ((aE L ++ [Value.int .i64 x]).toArray ++ Builtin.zeroCells (Value.int .i64 0).cells (grownCap w (L.length+1) cap 3-(L.length+1))) 3))
 rw [l];have m:(w.drew.alloc (.cells ROW 3)).heap[w.heap.size]?=some (.cells ROW 3 (0,0)):=heap_alloc_new w.drew _;have V:∀ j,j<L.length+1→ROW[j]?=(aE L ++ [Value.int .i64 x])[j]?:=fun j f=>by
  rw [←l,Array.getElem?_append_left (by rw [List.size_toArray,List.length_append,mapI_len];simpa using f),List.getElem?_toArray]
 refine F _ _ S C (by go_grown) ⟨ROW,m,T⟩ (fun j f=>?_) ?_ fun j p q=>by omega
 ·rw [Lib.cell_of_heap m,V j (by omega),List.getElem?_append_left (by rw [mapI_len];exact f)]
  unfold aE;rw [List.getElem?_map,zX f,zZ,zX f]
  rfl
 rw [Lib.cell_of_heap m,V _ (by omega),List.getElem?_append_right (by rw [mapI_len];exact zT),mapI_len,Nat.sub_self]
 rfl
theorem vR {D:Nat→Dm} {n:Nat} (d:(am D n).2.2=0) {i:Nat} (e:i<n):(D i).name.size≤8∧∀ j,j<(D i).n→((D i).mem j).name.size≤8∧((D i).mem j).formula.size≤100:=by
 have b:=(eY d).2 i e;have c:∀ s,aP s=0→s.size≤8:=fun s h=>by
  unfold aP at h
  split at h
  ·cases h
  omega
 refine ⟨c _ ?_,fun j f=>?_⟩
 ·unfold ay at b
  split at b
  ·cases b
  rename_i h;simpa using h
 have a:=(aI b).2.2.2 j f;unfold aY at a
 split at a
 ·cases a
 rename_i h0
 refine ⟨c _ (by simpa using h0),?_⟩
 split at a
 ·cases a
 split at a
 ·cases a
 split at a
 ·cases a
 split at a
 ·cases a
 split at a
 ·cases a
 omega
theorem Jk {W w':World} {q r s:Nat} {g n c:Nat} {v:Value} (h:q<W.heap.size∧q≠g∧r<W.heap.size∧r≠g∧W.cell? ⟨q,0,none⟩=some (.slice (some ⟨g,0,none⟩) n c)∧W.cell? ⟨r,s,none⟩=some v) (b:W.grownBy w' (some g)):W.grownBy w' (some g)∧w'.cell? ⟨q,0,none⟩=some (.slice (some ⟨g,0,none⟩) n c)∧w'.cell? ⟨r,s,none⟩=some v:=by
 have d:w'.heap[q]?=W.heap[q]?:=b.block q h.1 fun e=>h.2.1 (by simpa using e)
 have f:w'.heap[r]?=W.heap[r]?:=b.block r h.2.2.1 fun e=>h.2.2.2.1 (by simpa using e)
 exact ⟨b,(World.cell?_of_block (a:=⟨q,0,none⟩) d).trans h.2.2.2.2.1,(World.cell?_of_block (a:=⟨r,s,none⟩) f).trans h.2.2.2.2.2⟩
theorem Jl {W w':World} {q g:Nat} {u v:Value} (h:q<W.heap.size∧q≠g∧W.cell? ⟨q,0,none⟩=some u∧W.cell? ⟨q,3,none⟩=some v) (b:W.grownBy w' (some g)):W.grownBy w' (some g)∧w'.cell? ⟨q,0,none⟩=some u∧w'.cell? ⟨q,3,none⟩=some v:=by
 have c:w'.heap[q]?=W.heap[q]?:=b.block q h.1 fun e=>h.2.1 (by simpa using e)
 exact ⟨b,(World.cell?_of_block (a:=⟨q,0,none⟩) c).trans h.2.2.1,(World.cell?_of_block (a:=⟨q,3,none⟩) c).trans h.2.2.2⟩
structure FrR (w wr:World) (ob g cg k n:Nat) (D:Nat→Dm) (A:Nat→Option Addr) (C:Nat→Nat):Prop where
 fr:zB w wr g cg k n D A C
 out:wr.heap[ob]?=some (.cells #[.slice (some ⟨g,0,none⟩) n cg] 24 (0,0))
 res:wr.heap[w.heap.size+1]?=some (.cells #[.slice none 0 0] 24 (0,0))
 low:Bl w wr
theorem FrR.later {w wr w':World} {ob g b k n:Nat} {D:Nat→Dm} {A:Nat→Option Addr} {C:Nat→Nat} (h:FrR w wr ob g b k n D A C) (a:Bl wr w'):FrR w w' ob g b k n D A C :=
 ⟨h.fr.later a,(a.block _ (zY h.out).1).trans h.out,(a.block _ (zY h.res).1).trans h.res,ae h.low a⟩
theorem FrR.off {w wr:World} {ob g c k n:Nat} {D:Nat→Dm} {A:Nat→Option Addr} {C:Nat→Nat} (h:FrR w wr ob g c k n D A C):ob≠g∧w.heap.size+1≠g∧w.heap.size≤g:=by
 obtain ⟨G,C',f,-⟩:=h.fr;obtain ⟨b1,-,-,-,d,b⟩:=ig f;refine ⟨fun e=>?_,fun e=>?_,b1⟩
 ·have a:=h.out
  rw [e,b] at a;simp only [Option.some.injEq,Obj.cells.injEq] at a;exact absurd a.2.1 (by decide)
 have a:=h.res;rw [e,b] at a;simp only [Option.some.injEq,Obj.cells.injEq] at a;exact absurd a.2.1 (by decide)
theorem FrR.name {w wr:World} {ob g a k n:Nat} {D:Nat→Dm} {A:Nat→Option Addr} {C:Nat→Nat} (h:FrR w wr ob g a k n D A C) (b:k<n):FrR w (wr.setCell ⟨g,k*3,none⟩ (.string (D k).name)) ob g a k n D A C :=
 ⟨h.fr.name b,(ar _ _ _ _ _ h.off.1).trans h.out,(ar _ _ _ _ _ h.off.2.1).trans h.res,h.low.setCell h.off.2.2 _⟩
theorem FrR.put {w wy wr:World} {ob g b k n gm cm:Nat} {D:Nat→Dm} {A:Nat→Option Addr} {C:Nat→Nat} (h:FrR w wy ob g b k n D A C) (d:k<n) (c:Bl wy wr) (e:wr.ownsRow wy.heap.size 98 4 (.slice (some ⟨gm,0,none⟩) (D k).n cm) (D k).n (bj (D k).mem (D k).n)):FrR w (wr.setCell ⟨g,k*3+2,none⟩ (.slice (some ⟨gm,0,none⟩) (D k).n cm)) ob g b (k+1) n D A C:=by
 have a:=h.later c;exact ⟨h.fr.put d c h.low.size e,(ar _ _ _ _ _ a.off.1).trans a.out,(ar _ _ _ _ _ a.off.2.1).trans a.res,a.low.setCell a.off.2.2 _⟩
theorem xX (A0:Option Addr) (cap n:Nat) (D:Nat→Dm) (A:Nat→Option Addr) (C:Nat→Nat) (w:World) (hE:(am D n).2.2=0) (hM:aW w A0 cap n D A C) :
  Calls Tryz.prog 20 #[.agg #[.slice A0 n cap]] w fun e w'=>(∃ g c G C',e=.returned (.agg #[.slice (some ⟨g,0,none⟩) n c])∧OwD w' w.heap.size g c n D G C')∧Bl w w':=by
 obtain ⟨hn1,hn4,-,hd⟩:=au hE;have hsm:=fun i (hi:i<n)=>vR hE hi
 obtain ⟨hncap,h0 | ⟨b,o,rfl,K3⟩⟩:=hM
 ·omega
 have HCl:Hid (∀ w',Bl w w'→Calls Tryz.prog 40 #[.slice (some ⟨b,o,none⟩) n cap] w' fun e w''=>(∃ g c',e=.returned (.slice (some ⟨g,0,none⟩) n c')∧w''.ownsRow w'.heap.size 70 3 (.slice (some ⟨g,0,none⟩) n c') n (cellsDo D A C n))∧Bl w' w''):=fun w' hB=>wM b o cap n D A C w' (by omega) hn4 (K3.later hB)
 have O:Hid (∀ k w',k<n→Bl w w'→∃ bm om,A k=some ⟨bm,om,none⟩∧Calls Tryz.prog 42 #[.slice (some ⟨bm,om,none⟩) (D k).n (C k)] w' fun e w''=>(∃ g c',e=.returned (.slice (some ⟨g,0,none⟩) (D k).n c')∧w''.ownsRow w'.heap.size 98 4 (.slice (some ⟨g,0,none⟩) (D k).n c') (D k).n (bj (D k).mem (D k).n))∧Bl w' w''):=fun k w' hk hB=>by
  obtain ⟨-,-,-,-,h0 | ⟨bm,om,hA,hMm⟩⟩:=(K3.later hB).2 k hk
  ·have:=(hd k hk).1;omega
  exact ⟨bm,om,hA,xH bm om (C k) (D k).n (D k).mem w' (hd k hk).1 (hd k hk).2 hMm⟩
 have HSc:Hid (∀ s:ByteArray,s.size≤100→∀ w',Rt 41 #[.string s] w' (.string s)):=fun s hs w'=>kM s w' (by omega)
 have HSm:=aa hsm;have hnI:(n:Int)≤4:=by omega
 have HDn:Hid (∀ k,k<n→(D k).n≤12):=fun k hk=>(hd k hk).2
 obtain ⟨W,hW⟩:=az ((w.alloc (.cells #[.slice (some ⟨b,o,none⟩) n cap] 24)).alloc (.cells #[.slice none 0 0] 24));have hBW:Bl w W:=by rw [←hW];go_grown
 have hWs:W.heap.size=w.heap.size+2:=by rw [←hW];simp
 have k1:W.heap[w.heap.size]?=some (.cells #[.slice (some ⟨b,o,none⟩) n cap] 24 (0,0)):=by rw [←hW,Below.heap_alloc _ _ _ (by simp)];exact heap_alloc_new ..
 have k2:W.heap[w.heap.size+1]?=some (.cells #[.slice none 0 0] 24 (0,0)):=by
  have:=heap_alloc_new (w.alloc (.cells #[.slice (some ⟨b,o,none⟩) n cap] 24)) (.cells #[.slice none 0 0] 24);rw [show (w.alloc (.cells #[.slice (some ⟨b,o,none⟩) n cap] 24)).heap.size=w.heap.size+1 by simp] at this
  rw [←hW];exact this
 have c1:W.cell? ⟨w.heap.size,0,none⟩=some (.slice (some ⟨b,o,none⟩) n cap):=(Lib.cell_of_heap k1 0).trans rfl;have M:=aa hBW;have HK2:=aa k2;clear K3 hd hE k1 k2 hBW hsm
 go_enter Tryz.func20,Tryz.ntmps20
 go_wp2_with fail;refine (HCl.out W M.out).mono ?_;rintro e w1 ⟨⟨g,t,rfl,hDO⟩,R⟩;have hb1s:=R.size;have HB1:=aa (ae M.out R);have K1:w1.heap[w.heap.size+1]?=some (.cells #[.slice none 0 0] 24 (0,0)):=(R.block _ (by omega)).trans HK2.out
 obtain ⟨w2,hw2⟩:=az (w1.alloc (.cells #[.slice (some ⟨g,0,none⟩) n t] 24));have S:Bl w1 w2:=by rw [←hw2];go_grown
 have hs2:w2.heap.size=w1.heap.size+1:=by rw [←hw2];simp
 have hk2:w2.heap[w1.heap.size]?=some (.cells #[.slice (some ⟨g,0,none⟩) n t] 24 (0,0)):=by rw [←hw2];exact heap_alloc_new ..
 have Y:Hid (FrR w w2 w1.heap.size g t 0 n D A C):=by
  refine ⟨⟨fun _=>0,fun _=>0,?_,fun i hi=>by omega,fun i j hi=>by omega⟩,hk2,(S.block _ (by omega)).trans K1,ae HB1.out S⟩
  have h5:=Bb (an hDO S) M.out.size
  rwa [iT (A':=fun i=>if i<0 then some ⟨0,0,none⟩ else A i) (C':=fun i=>if i<0 then 0 else C i) n fun i hi=>⟨by simp,by simp⟩] at h5
 have c2:w2.cell? ⟨w1.heap.size,0,none⟩=some (.slice (some ⟨g,0,none⟩) n t):=(Lib.cell_of_heap hk2 0).trans rfl;clear R hDO S K1 hk2 HCl M HK2 c1 hW;go_wp2_with fail;clear c2;generalize hob:w1.heap.size=ob at Y
 go_loopg [16] n (fun gg s16 wr => ∃ k:Nat,k≤n∧gg=n-k∧s16=.int .i64 k∧Hid (FrR w wr ob g t k n D A C))
 case atStart=>exact ⟨0,zU,rfl,rfl,Y⟩
 case round =>
  obtain ⟨k,hk,rfl,rfl,x⟩:=hrel;have hobl:ob<wr.heap.size:=(zY x.out.out).1
  by_cases p:k<n
  ·have hki:(k:Int)<(n:Int):=by omega
   obtain ⟨hgw,hgl,hcgn,e0,e1,K,hfz⟩:=x.out.fr.row p;have hcgI:(n:Int)≤(t:Int):=by omega
   obtain ⟨bm,om,K0,-⟩:=O.out k wr p x.out.low;have J:Hid (∀ w',Bl w w'→Calls Tryz.prog 42 #[.slice (some ⟨bm,om,none⟩) (D k).n (C k)] w' fun e w''=>(∃ g c',e=.returned (.slice (some ⟨g,0,none⟩) (D k).n c')∧w''.ownsRow w'.heap.size 98 4 (.slice (some ⟨g,0,none⟩) (D k).n c') (D k).n (bj (D k).mem (D k).n))∧Bl w' w''):=fun w' hB=>by
    obtain ⟨bm',om',T,h⟩:=O.out k w' p hB;rw [K0] at T;cases T;exact h
   rw [K0] at K;obtain ⟨y,hy⟩:=az (wr.alloc (.cells #[.string (D k).name,.int .i64 (D k).solve,.slice (some ⟨bm,om,none⟩) (D k).n (C k)] 70));have Q:Bl wr y:=by rw [←hy];go_grown
   have E:y.heap[wr.heap.size]?=some (.cells #[.string (D k).name,.int .i64 (D k).solve,.slice (some ⟨bm,om,none⟩) (D k).n (C k)] 70 (0,0)):=by rw [←hy];exact heap_alloc_new ..
   have hys:y.heap.size=wr.heap.size+1:=by rw [←hy];simp
   have q:Hid (ob<y.heap.size∧ob≠g∧wr.heap.size<y.heap.size∧wr.heap.size≠g∧y.cell? ⟨ob,0,none⟩=some (.slice (some ⟨g,0,none⟩) n t)∧y.cell? ⟨wr.heap.size,0,none⟩=some (.string (D k).name)):=⟨by omega,x.out.off.1,by omega,by omega,(Lib.cell_of_heap (x.out.later Q).out 0).trans rfl,(Lib.cell_of_heap E 0).trans rfl⟩
   have H:Hid (∀ w3,Bl y w3→w3.cell? ⟨g,k*3,none⟩=some (.string (D k).name)∧w3.frozen? ⟨g,k*3,none⟩=false):=fun w3 a=>by
    obtain ⟨-,-,-,x0,-,-,xf⟩:=(x.out.later (ae Q a)).fr.row p;exact ⟨x0,xf _⟩
   have f:Hid (∀ w3,Bl y w3→FrR w (w3.setCell ⟨g,k*3,none⟩ (.string (D k).name)) ob g t k n D A C∧(w3.setCell ⟨g,k*3,none⟩ (.string (D k).name)).heap[wr.heap.size]?=some (.cells #[.string (D k).name,.int .i64 (D k).solve,.slice (some ⟨bm,om,none⟩) (D k).n (C k)] 70 (0,0))):=fun w3 a=>⟨(x.out.later (ae Q a)).name p,(ar _ _ _ _ _ (by omega)).trans ((a.block _ (by omega)).trans E)⟩
   have hds:=(HSm.out k p).1;have q0:=aa (HSm.out k p).2;have B:Hid (∀ w',Rt 41 #[.string (D k).name] w' (.string (D k).name)):=HSc.out _ (by omega)
   have hdn:=HDn.out k p;have HDe:=aa p;obtain ⟨d,K5⟩:=az (D k);have HDd:=aa K5;rw [K5] at e0 e1 K hy E J q H f q0 B hdn;obtain ⟨s1,s2,u,l⟩:=d;simp only at e0 e1 K hy E J q H f q0 B hdn;generalize C k=ck at K hy E J q H f;have hyG:wr.heap.size<y.heap.size:=by omega
   clear Q E K0 K5 O hfz hds;go_wp2_with fail;clear e0 e1 K;generalize wr.heap.size=bd at q f hyG
   go_region_held3 (fun w'=>y.grownBy w' (some g)∧w'.cell? ⟨ob,0,none⟩=some (.slice (some ⟨g,0,none⟩) n t)∧w'.cell? ⟨bd,0,none⟩=some (.string s1))
    ((refine Jk q.out ?_;(repeat (first | exact cV _ _ | assumption | refine eD ?_ | refine jJ ?_ _ _));done))
    (first | (go_at_call 41;refine (B.out _).mono ?_;rintro e w3 ⟨rfl,a⟩;have m:=ae (W0:=y) (by go_grown) a;have K4:y.grownBy w3 (some g):=bB m;obtain ⟨d0,f0⟩:=H.out w3 m;have L:=aa m;have hs3:=m.size;clear a m))
   clear d0 f0 K4;have hN:=f.out w3 L.out;obtain ⟨y2,hy2⟩:=az (w3.setCell ⟨g,k*3,none⟩ (.string s1));rw [hy2] at hN;have P:=aa hN.1;have c2:y2.cell? ⟨bd,2,none⟩=some (.slice (some ⟨bm,om,none⟩) u ck):=(Lib.cell_of_heap hN.2 2).trans rfl;clear hN f H q B hy hys hyG hs3 L;go_wp2_with fail;clear hy2;refine (J.out y2 P.out.low).mono ?_;rintro e wc ⟨⟨gm,cm,rfl,hMO⟩,hbc⟩;have HI0:=aa (And.intro hbc hMO);have hdnI:(u:Int)≤12:=by omega
   clear hbc hMO J c2;go_wp2_with fail
   go_loopg [34] u (fun gg s34 wq => ∃ j:Nat,j≤u∧gg=u-j∧s34=.int .i64 j∧Hid (Bl y2 wq∧wq.ownsRow y2.heap.size 98 4 (.slice (some ⟨gm,0,none⟩) u cm) u (bj l u)))
   case atStart=>exact ⟨0,zU,rfl,rfl,HI0⟩
   case round =>
    obtain ⟨j,hj,rfl,rfl,F⟩:=hrel
    by_cases hjl:j<u
    ·have hji:(j:Int)<(u:Int):=by omega
     obtain ⟨V,hgml,hdc,-,-⟩:=ig F.out.2;have hdcI:(u:Int)≤(cm:Int):=by omega
     obtain ⟨x0,x1,x2,x3⟩:=oB l u j hjl;have e0:=(F.out.2.cellAt (j*4) (by omega)).trans x0
     have e1:=(F.out.2.cellAt (j*4+1) (by omega)).trans x1
     have K:=(F.out.2.cellAt (j*4+2) (by omega)).trans x2
     have e3:=(F.out.2.cellAt (j*4+3) (by omega)).trans x3
     obtain ⟨z,hz⟩:=az (wr.alloc (.cells #[.string (l j).name,.int .i64 (l j).parent,.int .i64 (l j).sign,.string (l j).formula] 98));have K2:Bl wr z:=by rw [←hz];go_grown
     have hzb:z.heap[wr.heap.size]?=some (.cells #[.string (l j).name,.int .i64 (l j).parent,.int .i64 (l j).sign,.string (l j).formula] 98 (0,0)):=by rw [←hz];exact heap_alloc_new ..
     have hzs:z.heap.size=wr.heap.size+1:=by rw [←hz];simp
     have hzG:wr.heap.size<z.heap.size:=by omega
     have N:Hid (wr.heap.size<z.heap.size∧wr.heap.size≠gm∧z.cell? ⟨wr.heap.size,0,none⟩=some (.string (l j).name)∧z.cell? ⟨wr.heap.size,3,none⟩=some (.string (l j).formula)):=⟨hzG,by omega,(Lib.cell_of_heap hzb 0).trans rfl,(Lib.cell_of_heap hzb 3).trans rfl⟩
     have X:Hid (∀ w3,Bl z w3→w3.cell? ⟨gm,j*4,none⟩=some (.string (l j).name)∧w3.cell? ⟨gm,j*4+3,none⟩=some (.string (l j).formula)∧w3.frozen? ⟨gm,j*4,none⟩=false∧w3.frozen? ⟨gm,j*4+3,none⟩=false):=fun w3 a=>by
      have h:=an F.out.2 (ae K2 a);exact ⟨(h.cellAt (j*4) (by omega)).trans x0,(h.cellAt (j*4+3) (by omega)).trans x3,h.frozenAt _,h.frozenAt _⟩
     have I:Hid (∀ w3,Bl z w3→Bl y2 ((w3.setCell ⟨gm,j*4,none⟩ (.string (l j).name)).setCell ⟨gm,j*4+3,none⟩ (.string (l j).formula))∧((w3.setCell ⟨gm,j*4,none⟩ (.string (l j).name)).setCell ⟨gm,j*4+3,none⟩ (.string (l j).formula)).ownsRow y2.heap.size 98 4 (.slice (some ⟨gm,0,none⟩) u cm) u (bj l u)):=fun w3 a=>by
      have hb:=ae K2 a;exact ⟨((ae F.out.1 hb).setCell V _).setCell V _,sP (sP (an F.out.2 hb) x0) x3⟩
     have hs:=q0.out j hjl;have Z:Hid (∀ s:ByteArray,s=(l j).name∨s=(l j).formula→∀ w',Rt 41 #[.string s] w' (.string s)):=fun s hs'=>HSc.out s (by rcases hs' with rfl | rfl <;> omega)
     have hjl12:(j:Int)≤12:=by omega
     generalize (l j).name=t1 at e0 hz N X I Z;generalize (l j).parent=t2 at e1 hz;generalize (l j).sign=t3 at K hz;generalize (l j).formula=t4 at e3 hz N X I Z;clear K2 hzb x0 x1 x2 x3 hs;go_wp2_with fail;clear e0 e1 K e3;generalize wr.heap.size=bx at N hzG
     go_region_held3 (fun w'=>z.grownBy w' (some gm)∧w'.cell? ⟨bx,0,none⟩=some (.string t1)∧w'.cell? ⟨bx,3,none⟩=some (.string t4))
      ((refine Jl N.out ?_;(repeat (first | exact cV _ _ | assumption | refine eD ?_ | refine jJ ?_ _ _));done))
      (first | (go_at_call 41;refine (Z.out _ (by first | exact Or.inl rfl | exact Or.inr rfl) _).mono ?_;rintro e w3 ⟨rfl,a⟩;have m:=ae (W0:=z) (by go_grown) a;have K4:z.grownBy w3 (some gm):=bB m;obtain ⟨d0,d1,f0,f1⟩:=X.out w3 m;have L:=aa m;have hs3:=m.size;clear a))
     all_goals (have r:=aa (I.out w3 L.out))
     all_goals clear d0 d1 f0 f1 K4 m
     all_goals go_wp2_with fail
     all_goals go_roundg (u-(j+1))
     all_goals first | (exact ⟨j+1,by omega,rfl,by go_num,r⟩) | omega
    have hje:j=u:=by omega
    subst hje;obtain ⟨x0,x1,x2,x3,x4,x5,xf⟩:=(P.out.later F.out.1).fr.row p;have c3:wr.cell? ⟨ob,0,none⟩=some (.slice (some ⟨g,0,none⟩) n t):=(Lib.cell_of_heap (P.out.later F.out.1).out 0).trans rfl;have f3:=xf (k*3+2);have hcgI2:(n:Int)≤(t:Int):=by omega
    have r:Hid (FrR w (wr.setCell ⟨g,k*3+2,none⟩ (.slice (some ⟨gm,0,none⟩) j cm)) ob g t (k+1) n D A C):=by
     have h:=P.out.put p F.out.1 (gm:=gm) (cm:=cm) (by rw [HDd.out];exact F.out.2)
     rw [HDd.out] at h;exact h
    clear x3 x4 xf;go_wp2_with fail
    go_roundg (n-(k+1))
    case measure=>omega
    case rel=>exact ⟨k+1,by omega,rfl,by go_num,r⟩
  have hke:k=n:=by omega
  subst hke;obtain ⟨G,C',U⟩:=x.out.fr.all;have c3:wr.cell? ⟨ob,0,none⟩=some (.slice (some ⟨g,0,none⟩) k t):=(Lib.cell_of_heap x.out.out 0).trans rfl;have c4:wr.cell? ⟨w.heap.size+1,0,none⟩=some (.slice none 0 0):=(Lib.cell_of_heap x.out.res 0).trans rfl;have f4:=Lib.frozen_of_heap x.out.res 0;have hs4:w.heap.size+1<wr.heap.size:=(zY x.out.res).1;have r:Hid (OwD (wr.setCell ⟨w.heap.size+1,0,none⟩ (.slice (some ⟨g,0,none⟩) k t)) w.heap.size g t k D G C'∧Bl w (wr.setCell ⟨w.heap.size+1,0,none⟩ (.slice (some ⟨g,0,none⟩) k t))):=by
   refine ⟨U.keep fun b cs e hb hg he=>ar _ _ _ _ _ fun K=>?_,x.out.low.setCell (by show _≤w.heap.size+1;omega) _⟩
   rw [K,x.out.res] at hg;simp only [Option.some.injEq,Obj.cells.injEq] at hg
   rcases he with rfl | rfl
   ·exact absurd hg.2.1 (by decide)
   exact absurd hg.2.1 (by decide)
  clear U O Y;go_wp2_with fail;have hq:=World.cell?_setCell_same wr ⟨w.heap.size+1,0,none⟩ (.slice (some ⟨g,0,none⟩) k t) c4;refine bodyPost_ret (v:=.agg #[.slice (some ⟨g,0,none⟩) k t]) (by simp [results,Tryz.results20,go_sem,hq]) rfl ⟨⟨g,t,G,C',rfl,r.out.1⟩,r.out.2⟩
end Go.Proofs.YtohgnbgamfepoaaGreatDoor
