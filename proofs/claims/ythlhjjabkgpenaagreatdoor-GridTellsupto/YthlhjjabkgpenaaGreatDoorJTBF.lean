/- What a member comes to -/
import Derived.Test.YthlhjjabkgpenaaGreatDoorShelfH
import Derived.Test.YthlhjjabkgpenaaGreatDoorRows
import Derived.Test.YthlhjjabkgpenaaGreatDoorJTBA
import Derived.Test.YthlhjjabkgpenaaGreatDoorJTBC
namespace Go.Proofs.YthlhjjabkgpenaaGreatDoor
open ChangeShapes WideShapes ChangeAt RowKit Go Deep
set_option maxRecDepth 99999
set_option maxHeartbeats 0
def sr (l:List UInt8):ByteArray:=⟨l.toArray⟩
theorem nmB_list (l:List UInt8):(sr l).data.toList=l:=by simp [sr]
theorem Eg (s:ByteArray):sr s.data.toList=s:=by unfold sr;simp
theorem zL (zs:List (List UInt8)) (r:zs.Pairwise (fun a b=>a≤b)):(Lib.compact zs).Pairwise (fun a b=>a≤b):=by
 unfold Lib.compact;have g:∀ i j,i≤j→j<zs.length→zs.toArray[i]!≤zs.toArray[j]! := fun i j q l=>by
  rw [getElem!_pos _ i (by simp;omega),getElem!_pos _ j (by simpa using l)]
  by_cases e:i=j
  ·subst e;exact List.le_refl _
  have:=List.pairwise_iff_getElem.1 r i j (by omega) l (by omega)
  simpa using this
 have h:∀ m,m≤zs.length→(Lib.compactUpTo zs.toArray m).Pairwise (fun a b=>a≤b)∧∀ x∈Lib.compactUpTo zs.toArray m,∃ j,j<m∧zs.toArray[j]! = x:=by
  intro m
  induction m with
  | zero=>intro _;exact ⟨by simp [Lib.compactUpTo],fun x c=>by simp [Lib.compactUpTo] at c⟩
  | succ m ih =>
   intro s;obtain ⟨n,k⟩:=ih (by omega)
   rw [Lib.compactUpTo_succ];refine ⟨?_,fun x c=>?_⟩
   ·rw [List.pairwise_append]
    refine ⟨n,by split <;> simp,fun a p b f=>?_⟩
    split at f
    ·rw [List.mem_singleton.1 f]
     obtain ⟨j,o,d⟩:=k a p;rw [←d];exact g j m (by omega) (by omega)
    cases f
   rcases List.mem_append.1 c with c | c
   ·obtain ⟨j,o,d⟩:=k x c
    exact ⟨j,by omega,d⟩
   split at c
   ·exact ⟨m,by omega,(List.mem_singleton.1 c).symm⟩
   cases c
 exact (h _ (zT)).1
theorem BS {l:List Nd} (h:av l=0):∀ i j,i<j→j<(aQ l).length→(aQ l).getD i []<(aQ l).getD j []:=by
 intro i j c d;have f:=(jt h).1;have e:(aQ l).Pairwise (fun a b=>a≤b):=by
  unfold aQ;rw [if_pos h];exact zL _ (Fj _)
 rw [zZ,zZ,zX (by omega:i<_),zX d]
 have k:=List.pairwise_iff_getElem.1 e i j (by omega) d c
 have g:=List.pairwise_iff_getElem.1 f i j (by omega) d c
 simp only [Option.getD_some]
 rcases Std.lt_trichotomy (aQ l)[i] (aQ l)[j] with h3 | h3 | h3
 ·exact h3
 ·exact absurd h3 g
 exact absurd (List.le_antisymm k (List.le_of_lt h3)) g
theorem wD {l:List Nd} (h:av l=0):∀ j,1≤j→j<((aQ l).map sr).length→fj ((aQ l).map sr) j=false:=by
 intro j f b;rw [List.length_map] at b;have c:=BS h (j-1) j (by omega) b
 have e:∀ k,k<(aQ l).length→(((aQ l).map sr).getD k iC).toList=(aQ l).getD k []:=fun k d=>by
  rw [zZ,List.getElem?_map,zX d,zZ,zX d];simp only [Option.map_some,Option.getD_some];rw [ByteArray.toList_eq,nmB_list]
 unfold fj;rw [e j b,e (j-1) (by omega),bytesLess_eq,Bool.or_eq_false_iff]
 refine ⟨decide_eq_false fun a=>?_,?_⟩
 ·exact absurd (List.lt_trans c a) (List.lt_irrefl _)
 rw [beq_eq_false_iff_ne];intro a;rw [a] at c;exact absurd c (List.lt_irrefl _)
theorem vK {d:Dm} (F:(au d).2=0) {i:Nat} (w:(d.mem i).formula.size≠0) (E:mErr d i=0) (f:Int→Int×Int) (A:∀ z∈dQ d i,b7 (f z)) :
  lK (bE (d.mem i).formula) ((aQ (bE (d.mem i).formula)).map sr) (((aQ (bE (d.mem i).formula)).map (whL d)).map f)=0∧pN (bE (d.mem i).formula) ((aQ (bE (d.mem i).formula)).map sr) (((aQ (bE (d.mem i).formula)).map (whL d)).map f)=dT d f i:=by
 have o:=eX w E;have b:=dC o;obtain ⟨l,u⟩:=ax (bE (d.mem i).formula);have c:∀ x,x∈aQ l↔x∈jN d i:=fun x=>by
  rw [(jt (by rw [←u];exact b)).2 x]
  unfold jN;rw [u]
 have g:xM d i=aB l (l.length-1):=by unfold xM;rw [u]
 have p:∀ s∈refsT (aB l (l.length-1)),s.data.toList∈aQ l:=fun s m=>(c _).2 (lJ o (by rw [g];exact m))
 rw [u] at b ⊢;have v:dH ((aQ l).map sr) (((aQ l).map (whL d)).map f)=0:=by
  refine rr (by simp) (fun j t=>?_) (wD b)
  simp only [List.length_map] at t;unfold fV;have G:((aQ l).map (whL d))[j]'(by simpa using t)∈dQ d i:=(eY F w E _).2 ⟨_,(c _).1 (List.getElem_mem t),by simp⟩
  have y:=A _ G;unfold b7 at y;rw [zZ,zX (by simpa using t)]
  simp only [Option.getD_some,List.getElem_map] at y ⊢;rw [y]
  rfl
 have q:∀ s,s.data.toList∈aQ l→∃ k:Nat,bT ((aQ l).map sr) s=(k:Int)∧k<(aQ l).length∧sr ((aQ l).getD k [])=s:=fun s m=>by
  rcases where_cases ((aQ l).map sr) s with ⟨-,a⟩ | ⟨k,n,a,r⟩
  ·obtain ⟨k,D,e⟩:=List.getElem_of_mem m
   refine absurd ?_ (a k (by simpa using D))
   rw [zZ,List.getElem?_map,zX D];simp only [Option.map_some,Option.getD_some];rw [e,Eg]
  rw [List.length_map] at a;refine ⟨k,n,a,?_⟩;rw [zZ,List.getElem?_map,zX a] at r;rw [zZ,zX a];exact r
 have h:missT ((aQ l).map sr) (aB l (l.length-1))=false:=by
  unfold missT;rw [List.any_eq_false];intro s m;obtain ⟨k,n,-,-⟩:=q s (p s m);rw [n]
  simp
 obtain ⟨B,C⟩:=zn b v;rw [h] at B C;refine ⟨B,C.trans ?_⟩;simp only [Bool.false_eq_true,if_false];unfold dT;rw [if_neg w,g];refine iJ _ _ _ _ fun s m=>?_
 obtain ⟨k,n,a,r⟩:=q s (p s m);unfold refC;rw [n,Int.toNat_natCast,zZ,List.getElem?_map,List.getElem?_map,zX a];simp only [Option.map_some,Option.getD_some];rw [←r,nmB_list,zZ,zX a]
 rfl
theorem me {d:Dm} {i:Nat} (g:(d.mem i).formula.size=0) (f:Int→Int×Int):partsV d.mem f (dQ d i)=dT d f i:=by
 unfold partsV dT;rw [if_pos g,←f6 g];have a:∀ (P:List Int) (c:Int×Int),(P.filter (u6 d)).foldl (aX d.mem f) c=P.foldl (aX d.mem f) c:=by
  intro P
  induction P with
  | nil=>intro c;rfl
  | cons x r ih =>
   intro c;rw [List.filter_cons,List.foldl_cons]
   by_cases b:u6 d x=true
   ·rw [if_pos b,List.foldl_cons,ih]
   rw [if_neg b,ih];have h:(d.mem x.toNat).sign=0:=by unfold u6 at b;simpa using b
   have e:aX d.mem f c x=c:=by unfold aX;rw [if_neg (by omega),if_neg (by omega)]
   rw [e]
 exact a _ _
theorem DE {d:Dm} (l:(au d).2=0) {i:Nat} (k:mErr d i=0) (f:Int→Int×Int) (g:∀ z∈dQ d i,b7 (f z)):b7 (dT d f i):=by
 by_cases e:(d.mem i).formula.size=0
 ·rw [←me e]
  exact vO _ _ _
 have j:=eX e k;unfold dT;rw [if_neg e];have c:∀ t:Tre,(∀ s∈refsT t,b7 (f (whL d s.data.toList)))→b7 (valG (fun s=>f (whL d s.data.toList)) t):=by
  intro t
  induction t with
  | num n=>intro _;exact nJ n
  | ref s=>intro h;exact h s (by simp [refsT])
  | bin o a b _ _=>intro _;exact EC o _ _
 exact c _ fun s m=>g _ ((eY l e k _).2 ⟨_,lJ j m,rfl⟩)
theorem tm {D:Nat→Dm} {n:Nat} (e:dS D n) {inp:List Int→Int×Int} (l:∀ p,b7 (inp p)):∀ (m:Nat) (p:List Int),InO D n p→msrTo D p n<m→b7 (fD D n inp p):=by
 intro m
 induction m with
 | zero=>intro p _ h;omega
 | succ m ih =>
  intro p a r
  rcases by_in D p n with h | ⟨b,h1,h2⟩
  ·rw [o5 inp (by omega)]
   exact l p
  rw [xB e inp a h1];obtain ⟨k,f,-,-⟩:=bK (e b h2);have g:=a.lo b h2;have q:=a.hi b h2;refine DE k (f _ (by omega)) _ fun z j=>?_
  have d:=ef j;have c:=mH (e b h2) (i:=(p.getD b 0).toNat) (by omega) j
  rw [Int.toNat_of_nonneg g] at c;have o:=(kG (by rw [a.len];exact h2) c n).2 h2
  exact ih _ (fI a h2 d.1 d.2) (by omega)
theorem et {g T:Nat} {fr:Nat×Nat}:∀ (vs:List Value) (o:Nat) (a:Array Value) (w:World),w.heap[g]?=some (.cells a T fr)→∃ cur',(w.setCells g o vs).heap[g]?=some (.cells cur' T fr)∧cur'.size=a.size
 | [],_,a,_,h=>⟨a,h,rfl⟩
 | v :: r,o,a,w,h=>by
  obtain ⟨c2,b,c⟩:=et r (o+1) _ (w.setCell ⟨g,o,none⟩ v) (cI h);exact ⟨c2,b,by rw [c];simp⟩
theorem gE (g:Nat):∀ (vs:List Value) (o:Nat) (w:World),(w.setCells g o vs).heap.size=w.heap.size
 | [],_,_=>rfl
 | v :: r,o,w=>by
  show ((w.setCell ⟨g,o,none⟩ v).setCells g (o+1) r).heap.size=_
  rw [gE g r];simp
theorem iI (g:Nat) {b:Nat} (a:b≠g):∀ (vs:List Value) (o:Nat) (w:World),(w.setCells g o vs).heap[b]?=w.heap[b]?
 | [],_,_=>rfl
 | v :: r,o,w=>by
  show ((w.setCell ⟨g,o,none⟩ v).setCells g (o+1) r).heap[b]?=_
  rw [iI g a r,ao _ _ _ _ _ a]
theorem jc (g:Nat):∀ (vs:List Value) (o:Nat) (w:World),(w.setCells g o vs).os=w.os∧(w.setCells g o vs).tape=w.tape∧(w.setCells g o vs).output=w.output
 | [],_,_=>⟨rfl,rfl,rfl⟩
 | v :: r,o,w=>jc g r (o+1) (w.setCell ⟨g,o,none⟩ v)
theorem fW {w w':World} {g:Nat} (h:w.grownBy w' (some g)) (vs:List Value) (o:Nat):w.grownBy (w'.setCells g o vs) (some g):=by
 obtain ⟨b,c,d⟩:=jc g vs o w';refine ⟨b.trans h.os,c.trans h.tape,d.trans h.output,by rw [gE];exact h.size,fun k f a=>?_⟩
 rw [iI g (fun e=>a (by rw [e]))]
 exact h.block k f a
def gv (w:World) (g:Nat) (A:Option Addr) (cap:Nat) (L:List Int):Prop:=L.length≤cap∧cap≤9223372036854775807∧∃ o,A=some ⟨g,o,none⟩∧(∃ cur,w.heap[g]?=some (.cells cur 3 (0,0))∧o+cap≤cur.size)∧∀ j,j<L.length→w.cell? ⟨g,o+j,none⟩=some (.int .i64 (L.getD j 0))
theorem gv.lt {w:World} {g cap:Nat} {A:Option Addr} {L:List Int} (h:gv w g A cap L):g<w.heap.size:=by
 obtain ⟨-,-,o,-,⟨a,b,-⟩,-⟩:=h;exact (zY b).1
theorem gv.same {w w':World} {g cap:Nat} {A:Option Addr} {L:List Int} (h:gv w g A cap L) (c:w'.heap[g]?=w.heap[g]?):gv w' g A cap L:=by
 obtain ⟨d,e,o,f,⟨b,l,i⟩,k⟩:=h;exact ⟨d,e,o,f,⟨b,c.trans l,i⟩,fun j m=>(World.cell?_of_block (a:=⟨g,o+j,none⟩) c).trans (k j m)⟩
theorem gv.later {w w':World} {g cap:Nat} {A:Option Addr} {L:List Int} (h:gv w g A cap L) (a:Bl w w'):gv w' g A cap L:=h.same (a.block g h.lt)
theorem gv.own {w:World} {base:Nat} {v:Value} {L:List Int} (h:w.ownsRow base 3 1 v L.length (aE L)) (n:0<L.length):∃ g c,v=.slice (some ⟨g,0,none⟩) L.length c∧base≤g∧gv w g (some ⟨g,0,none⟩) c L:=by
 rcases h.2 with ⟨rfl,m⟩ | ⟨g,cap,b,rfl,e,i,f,l,o,_⟩
 ·omega
 refine ⟨g,cap,rfl,e,f,by unfold maxLen at l;omega,0,rfl,⟨b,i,by omega⟩,fun j k=>?_⟩
 have d:=h.cells (g:=g) rfl j (.int .i64 (L.getD j 0)) (by simp [aE,List.getD,zX k])
 have a:(⟨g,0,none⟩:Addr).add j=⟨g,j,none⟩:=by unfold Addr.add;split <;> simp_all
 rw [a] at d;rw [Nat.zero_add];exact d
theorem F9 {L:List Int} {j:Nat} {v:Value} (h:(aE L)[j]?=some v):j<L.length∧v=.int .i64 (L.getD j 0):=by
 unfold aE at h;rw [List.getElem?_map] at h;have a:j<L.length:=by
  refine Classical.byContradiction fun b=>?_
  rw [List.getElem?_eq_none (by omega)] at h
  cases h
 rw [zX a] at h;refine ⟨a,?_⟩;rw [zZ,zX a]
 simp at h ⊢
 exact h.symm
theorem tQ (L:List Int):∀ v∈aE L,v.oneCell'=true:=by intro u a;simp [aE] at a;obtain ⟨x,-,rfl⟩:=a;rfl
theorem mapI_len (L:List Int):(aE L).length=L.length:=by simp [aE]
theorem gv.cells {w:World} {g cap o:Nat} {L:List Int} (h:gv w g (some ⟨g,o,none⟩) cap L):∀ j v,(aE L)[j]?=some v→w.cell? ⟨g,o+j,none⟩=some v:=fun j v d=>by
 obtain ⟨a,rfl⟩:=F9 d;obtain ⟨-,-,o',b,-,c⟩:=h;cases b;exact c j a
theorem DH {L:List Int} {x:Int} {i:Nat} (b:i≤L.length) (j:Nat):(j<i→(L.take i ++ x :: L.drop i).getD j 0=L.getD j 0)∧(j=i→(L.take i ++ x :: L.drop i).getD j 0=x)∧(i<j→(L.take i ++ x :: L.drop i).getD j 0=L.getD (j-1) 0):=by
 have a:(L.take i).length=i:=by rw [List.length_take];omega
 refine ⟨fun h=>?_,fun h=>?_,fun h=>?_⟩
 ·rw [zZ,List.getElem?_append_left (by omega),List.getElem?_take_of_lt h,zZ]
 ·subst h
  rw [zZ,List.getElem?_append_right (by omega),a,Nat.sub_self]
  rfl
 rw [zZ,List.getElem?_append_right (by omega),a,show j-i=(j-i-1)+1 by omega,List.getElem?_cons_succ,List.getElem?_drop,zZ,show i+(j-i-1)=j-1 by omega]
theorem kz {L:List Int} {x:Int} {i:Nat} (a:i≤L.length):(L.take i ++ x :: L.drop i).length=L.length+1:=by
 rw [List.length_append,List.length_cons,List.length_take,List.length_drop]
 omega
theorem Ab (A:Option Addr) (cap g:Nat) (L:List Int) (x:Int) (w:World) (f:L.length≤3000) (c:gv w g A cap L) (d:L.Pairwise (· < ·)):Calls Tryz.prog 125 #[.slice A L.length cap,.int .i64 x] w fun e w'=>(∃ b,e=.returned (.tuple #[.int .i64 (L.countP (· < x):Nat),.bool b]))∧Bl w w':=by
 obtain ⟨-,-,o,rfl,-,a⟩:=c;refine Calls.mono (Any.slices_BinarySearch_int Tryz.lays25 g o L.length cap L x w (zT) (by omega) a (by rw [List.take_length];exact d.imp fun h=>by omega)) ?_
 rintro e w' ⟨rfl,q,rfl⟩;rw [List.take_length];exact ⟨⟨_,rfl⟩,ac (zS) _⟩
def zq (w:World) (g i:Nat) (L:List Int) (x:Int) (e:Ending) (w':World):Prop := ∃ g' A' c',e=.returned (.slice A' (L.length+1) c')∧gv w' g' A' c' (L.take i ++ x :: L.drop i)∧(g'=g∨w.heap.size≤g')∧w.grownBy w' (some g)
theorem DG (A:Option Addr) (cap g i vb:Nat) (L:List Int) (x:Int) (w:World) (hl:L.length≤3000) (Q:i≤L.length) (hR:gv w g A cap L) (P:w.heap[vb]?=some (.cells #[.int .i64 x] 3 (0,0))) (hvb:vb≠g):Calls Tryz.prog 126 #[.slice A L.length cap,.int .i64 i,.slice (some ⟨vb,0,none⟩) 1 1] w fun e w'=>zq w g i L x e w':=by
 obtain ⟨h1,h2,o,rfl,⟨r,W,h4⟩,h5⟩:=id hR;have hgl:=hR.lt;have J:=hR.cells;have D:∀ j v,([Value.int .i64 x]:List Value)[j]?=some v→w.cell? ⟨vb,0+j,none⟩=some v:=fun j v f=>by
  rw [Nat.zero_add,Lib.cell_of_heap P]
  simpa using f
 have n:∀ v∈([Value.int .i64 x]:List Value),v.oneCell'=true:=fun v P=>by simp at P;subst P;rfl
 have z:∀ j,j<cap→(w.cell? ⟨g,o+j,none⟩).isSome=true:=fun j f=>by
  rw [Lib.cell_of_heap W]
  simp [show o+j<r.size by omega]
 have X:∀ j,w.frozen? ⟨g,j,none⟩=false:=fun j=>Lib.frozen_of_heap W j
 have E:∀ w',w.grownBy w' (some g)→(∃ c,w'.heap[g]?=some (.cells c 3 (0,0))∧c.size=r.size)→L.length+1≤cap→(∀ j,j<i→w'.cell? ⟨g,o+j,none⟩=some (.int .i64 (L.getD j 0)))→w'.cell? ⟨g,o+i,none⟩=some (.int .i64 x)→(∀ j,i<j→j<L.length+1→w'.cell? ⟨g,o+j,none⟩=some (.int .i64 (L.getD (j-1) 0)))→zq w g i L x (.returned (.slice (some ⟨g,o,none⟩) (L.length+1) cap)) w':=fun w' hG O d a1 a2 a3=>by
  obtain ⟨c,H,hsz⟩:=O;refine ⟨g,_,_,rfl,⟨by rw [kz Q];exact d,h2,o,rfl,⟨c,H,by omega⟩,fun j f=>?_⟩,Or.inl rfl,hG⟩
  rw [kz Q] at f;obtain ⟨b1,b2,b3⟩:=DH (x:=x) Q j
  by_cases p:j<i
  ·rw [b1 p];exact a1 j p
  by_cases q:j=i
  ·rw [b2 q,q];exact a2
  rw [b3 (by omega)];exact a3 j (by omega) f
 by_cases d:L.length+1≤cap
 ·by_cases M:i<L.length
  ·refine Calls.mono (Any2.slices_Insert_int_shift Tryz.lays21 g o L.length cap i vb 0 1 1 (aE L) [.int .i64 x] w M (by omega) d h2 hvb (mapI_len L) rfl J (fun j f=>z j (by omega)) (fun j _=>X _) D (tQ L) n 3 3 1 r.size (by simp [World.shape?,P]) (by simp [World.shape?,W]) (by omega) (Lib.frozen_of_heap P 0) (Lib.frozen_of_heap P 1)) ?_
   rintro e w' ⟨rfl,rfl⟩;have t:((aE L).drop i).length=L.length-i:=by rw [List.length_drop,mapI_len]
   obtain ⟨c1,I,hs1⟩:=et ((aE L).drop i) (o+(i+1)) r w.drew W;obtain ⟨c2,s,N⟩:=et [.int .i64 x] (o+i) c1 _ I;have Y:∀ j,i<j→j<L.length+1→(w.drew.setCells g (o+(i+1)) ((aE L).drop i)).cell? ⟨g,o+j,none⟩=some (.int .i64 (L.getD (j-1) 0)):=fun j p q=>by
    have h:=World.cell?_setCells_in g ((aE L).drop i) (o+(i+1)) w.drew (fun k B=>by rw [t] at B;have:=z (i+1+k) (by omega);rw [show o+(i+1)+k=o+(i+1+k) by omega];exact this) (j-(i+1)) (by rw [t];omega)
    rw [show o+(i+1)+(j-(i+1))=o+j by omega] at h
    rw [h,List.getElem_drop];simp only [aE,List.getElem_map,Option.some.injEq,Value.int.injEq,true_and];rw [zZ,zX (by omega)]
    simp only [Option.getD_some]
    congr 1
    omega
   refine E _ (fW (fW (nK (eV _ _)) _ _) _ _) ⟨c2,s,by omega⟩ d (fun j f=>?_) ?_ fun j p q=>?_
   ·rw [World.cell?_setCells_out g _ _ _ _ (fun _ _=>Or.inl (by show o+j<o+i;omega)),World.cell?_setCells_out g _ _ _ _ (fun _ _=>Or.inl (by show o+j<o+(i+1);omega))]
    exact h5 j (by omega)
   ·have h:=World.cell?_setCells_in g [.int .i64 x] (o+i) (w.drew.setCells g (o+(i+1)) ((aE L).drop i)) (fun k B=>by
     have u:k=0:=by simpa using B
     subst u;rw [World.cell?_setCells_out g _ _ _ _ (fun _ _=>Or.inl (by show o+i+0<o+(i+1);omega))]
     exact z i (by omega)) 0 (by simp)
    simpa using h
   rw [World.cell?_setCells_out g _ _ _ _ (fun _ _=>Or.inr (by show o+i+1≤o+j;omega))]
   exact Y j p q
  have K:i=L.length:=by omega
  subst K;refine Calls.mono (Any2.slices_Insert_int_end_room Tryz.lays21 g o L.length cap vb 0 1 1 [.int .i64 x] w (by omega) d h2 rfl (fun j f=>by have:=z (L.length+j) (by omega);rw [show o+L.length+j=o+(L.length+j) by omega];exact this) (fun j _=>X _) D n) ?_
  rintro e w' ⟨rfl,rfl⟩;obtain ⟨c2,s,N⟩:=et [.int .i64 x] (o+L.length) r w W;refine E _ (fW (eV _ _) _ _) ⟨c2,s,N⟩ d (fun j f=>?_) ?_ fun j p q=>by omega
  ·rw [World.cell?_setCells_out g _ _ _ _ (fun _ _=>Or.inl (by show o+j<o+L.length;omega))]
   exact h5 j f
  have h:=World.cell?_setCells_in g [.int .i64 x] (o+L.length) w (fun k B=>by
   have u:k=0:=by simpa using B
   subst u;exact z L.length (by omega)) 0 (by simp)
  simpa using h
 have F:∀ (G:Nat) (w':World),L.length+1≤G→G≤maxLen→Bl w w'→(∃ c,w'.heap[w.heap.size]?=some (.cells c 3 (0,0))∧c.size=G)→(∀ j,j<i→w'.cell? ⟨w.heap.size,j,none⟩=some (.int .i64 (L.getD j 0)))→w'.cell? ⟨w.heap.size,i,none⟩=some (.int .i64 x)→(∀ j,i<j→j<L.length+1→w'.cell? ⟨w.heap.size,j,none⟩=some (.int .i64 (L.getD (j-1) 0)))→zq w g i L x (.returned (.slice (some ⟨w.heap.size,0,none⟩) (L.length+1) G)) w':=fun G w' hG C hB O a1 a2 a3=>by
  obtain ⟨c,H,hsz⟩:=O;refine ⟨w.heap.size,_,_,rfl,⟨by rw [kz Q];exact hG,by unfold maxLen at C;omega,0,rfl,⟨c,H,by omega⟩,fun j f=>?_⟩,Or.inr (zT),tq hB⟩
  rw [kz Q] at f;obtain ⟨b1,b2,b3⟩:=DH (x:=x) Q j;rw [Nat.zero_add]
  by_cases p:j<i
  ·rw [b1 p];exact a1 j p
  by_cases q:j=i
  ·rw [b2 q,q];exact a2
  rw [b3 (by omega)];exact a3 j (by omega) f
 have S:=grownCap_ge w (L.length+1) cap 3;have C:=grownCap_le_maxLen w (L.length+1) cap 3 (by unfold maxLen;omega)
 by_cases M:i<L.length
 ·refine Calls.mono (Any2.slices_Insert_int_grow Tryz.lays21 g o L.length cap i vb 0 1 1 (aE L) [.int .i64 x] w M (by omega) h1 (by omega) (by omega) (mapI_len L) rfl J D (tQ L) n) ?_
  rintro e w' ⟨rfl,rfl⟩;have t:((aE L).drop i).length=L.length-i:=by rw [List.length_drop,mapI_len]
  have Z:((aE L).take i).length=i:=by rw [List.length_take,mapI_len];omega
  obtain ⟨ROW,l⟩:∃ ROW:Array Value,((aE L).take i).toArray ++ Builtin.zeroCells (Value.int .i64 0).cells (L.length+1-i) ++ Builtin.zeroCells (Value.int .i64 0).cells (grownCap w (L.length+1) cap 3-(L.length+1))=ROW:=⟨_,rfl⟩;have T:ROW.size=grownCap w (L.length+1) cap 3:=by
   rw [←l,Array.size_append,Array.size_append,size_zeroCells,size_zeroCells,List.size_toArray,Z];simp only [Value.cells,List.size_toArray,List.length_cons,List.length_nil]
   omega
  have hRt:∀ j,j<i→ROW[j]?=some (.int .i64 (L.getD j 0)):=fun j f=>by
   rw [←l,Array.append_assoc,Array.getElem?_append_left (by rw [List.size_toArray,Z];exact f),List.getElem?_toArray,List.getElem?_take_of_lt f]
   unfold aE;rw [List.getElem?_map,zX (by omega),zZ,zX (by omega)]
   rfl
  show zq w g i L x (.returned (.slice (some ⟨w.heap.size,0,none⟩) (L.length+1) (grownCap w (L.length+1) cap 3))) ((((w.alloc (.cells (((aE L).take i).toArray ++ Builtin.zeroCells (Value.int .i64 0).cells (L.length+1-i) ++ Builtin.zeroCells (Value.int .i64 0).cells (grownCap w (L.length+1) cap 3-(L.length+1))) 3)).drew.setCells w.heap.size i [.int .i64 x]).drew).setCells w.heap.size (i+1) ((aE L).drop i))
  rw [l];have m:((w.alloc (.cells ROW 3)).drew).heap[w.heap.size]?=some (.cells ROW 3 (0,0)):=heap_alloc_new w _;obtain ⟨c1,I,hs1⟩:=et [.int .i64 x] i ROW _ m;obtain ⟨c2,s,N⟩:=et ((aE L).drop i) (i+1) c1 ((w.alloc (.cells ROW 3)).drew.setCells w.heap.size i [.int .i64 x]).drew I;have hB0:Bl w (w.alloc (.cells ROW 3)).drew:=by go_grown
  have R:∀ (w1:World) (vs:List Value) (k:Nat),Bl w w1→Bl w (w1.setCells w.heap.size k vs):=fun w1 vs k h=>by
   obtain ⟨p,q,e3⟩:=jc w.heap.size vs k w1;exact ⟨p.trans h.os,q.trans h.tape,e3.trans h.output,by rw [gE];exact h.size,fun b hb=>by rw [iI _ (Nat.ne_of_lt hb)];exact h.block b hb⟩
  have hB1:=R _ [.int .i64 x] i hB0;have y:∀ (k:Nat),k<grownCap w (L.length+1) cap 3→((w.alloc (.cells ROW 3)).drew.cell? ⟨w.heap.size,k,none⟩).isSome=true:=fun k B=>by
   rw [Lib.cell_of_heap m]
   simp [show k<ROW.size by omega]
  refine F _ _ S C (R _ _ _ (by exact ac hB1 1)) ⟨c2,s,by omega⟩ (fun j f=>?_) ?_ fun j p q=>?_
  ·rw [World.cell?_setCells_out _ _ _ _ _ (fun _ _=>Or.inl (by show j<i+1;omega))]
   show ((w.alloc (.cells ROW 3)).drew.setCells w.heap.size i [.int .i64 x]).cell? _=_
   rw [World.cell?_setCells_out _ _ _ _ _ (fun _ _=>Or.inl (by show j<i;omega)),Lib.cell_of_heap m]
   exact hRt j f
  ·rw [World.cell?_setCells_out _ _ _ _ _ (fun _ _=>Or.inl (by show i<i+1;omega))]
   show ((w.alloc (.cells ROW 3)).drew.setCells w.heap.size i [.int .i64 x]).cell? _=_
   have h:=World.cell?_setCells_in w.heap.size [.int .i64 x] i (w.alloc (.cells ROW 3)).drew (fun k B=>by
    have u:k=0:=by simpa using B
    subst u;exact y _ (by omega)) 0 (by simp)
   simpa using h
  have h:=World.cell?_setCells_in w.heap.size ((aE L).drop i) (i+1) ((w.alloc (.cells ROW 3)).drew.setCells w.heap.size i [.int .i64 x]).drew (fun k B=>by
   rw [t] at B
   show (((w.alloc (.cells ROW 3)).drew.setCells w.heap.size i [.int .i64 x]).cell? _).isSome=true
   rw [World.cell?_setCells_out _ _ _ _ _ (fun _ _=>Or.inr (by show i+1≤i+1+k;omega))]
   exact y _ (by omega)) (j-(i+1)) (by rw [t];omega)
  rw [show i+1+(j-(i+1))=j by omega] at h
  rw [h,List.getElem_drop];simp only [aE,List.getElem_map,Option.some.injEq,Value.int.injEq,true_and];rw [zZ,zX (by omega)]
  simp only [Option.getD_some]
  congr 1
  omega
 have K:i=L.length:=by omega
 subst K;have U:∀ j,(⟨g,o,none⟩:Addr).add j=⟨g,o+j,none⟩:=fun j=>by unfold Addr.add;split <;> simp_all
 refine Calls.mono (Any2.slices_Insert_int_end_grow Tryz.lays21 (some ⟨g,o,none⟩) L.length cap vb 0 1 1 (aE L) [.int .i64 x] w (by omega) h1 (by omega) (by omega) (mapI_len L) rfl (fun h=>by cases h) (fun a ha j v f=>by
  cases ha;rw [U];exact J j v f) D n) ?_
 rintro e w' ⟨rfl,rfl⟩;obtain ⟨ROW,l⟩:∃ ROW:Array Value,(aE L ++ [Value.int .i64 x]).toArray ++ Builtin.zeroCells (Value.int .i64 0).cells (grownCap w (L.length+1) cap 3-(L.length+1))=ROW:=⟨_,rfl⟩;have T:ROW.size=grownCap w (L.length+1) cap 3:=by
  rw [←l,Array.size_append,size_zeroCells,List.size_toArray,List.length_append,mapI_len];simp only [Value.cells,List.size_toArray,List.length_cons,List.length_nil]
  omega
 show zq w g L.length L x (.returned (.slice (some ⟨w.heap.size,0,none⟩) (L.length+1) (grownCap w (L.length+1) cap 3))) (w.drew.alloc (.cells ((aE L ++ [Value.int .i64 x]).toArray ++ Builtin.zeroCells (Value.int .i64 0).cells (grownCap w (L.length+1) cap 3-(L.length+1))) 3))
 rw [l];have m:(w.drew.alloc (.cells ROW 3)).heap[w.heap.size]?=some (.cells ROW 3 (0,0)):=heap_alloc_new w.drew _;have V:∀ j,j<L.length+1→ROW[j]?=(aE L ++ [Value.int .i64 x])[j]?:=fun j f=>by
  rw [←l,Array.getElem?_append_left (by rw [List.size_toArray,List.length_append,mapI_len];simpa using f),List.getElem?_toArray]
 refine F _ _ S C (by go_grown) ⟨ROW,m,T⟩ (fun j f=>?_) ?_ fun j p q=>by omega
 ·rw [Lib.cell_of_heap m,V j (by omega),List.getElem?_append_left (by rw [mapI_len];exact f)]
  unfold aE;rw [List.getElem?_map,zX f,zZ,zX f]
  rfl
 rw [Lib.cell_of_heap m,V _ (by omega),List.getElem?_append_right (by rw [mapI_len];exact zT),mapI_len,Nat.sub_self]
 rfl
theorem CZ {H:Type} (d:DataW H):1≤Rows.uptoBulk d:=by
 cases d with
 | lit l=>cases l <;> simp [Rows.uptoBulk]
 | nil=>simp [Rows.uptoBulk]
 | ptr d=>simp [Rows.uptoBulk]
 | slice elems spare=>simp [Rows.uptoBulk]
 | agg parts=>simp [Rows.uptoBulk]
 | iface t d=>simp [Rows.uptoBulk]
 | map entries=>simp [Rows.uptoBulk]
 | held h=>simp [Rows.uptoBulk]
theorem pT {H:Type} {d:DataW H} {l:List (DataW H)} (h:d∈l):Rows.uptoBulk d≤Rows.uptoBulkAll l:=by
 induction l with
 | nil=>cases h
 | cons x r ih =>
  simp only [Rows.uptoBulkAll];cases List.mem_cons.1 h with
  | inl e=>subst e;omega
  | inr e=>have:=ih e;omega
theorem CY {H:Type} (l:List (DataW H)):l.length≤Rows.uptoBulkAll l:=by
 induction l with
 | nil=>simp [Rows.uptoBulkAll]
 | cons x r ih=>have:=CZ x;simp only [Rows.uptoBulkAll,List.length_cons];omega
theorem rm {H:Type} (a spare:List (DataW H)):a.length≤Rows.uptoBulk (.slice a spare)∧∀ d∈a,Rows.uptoBulk d≤Rows.uptoBulk (.slice a spare):=by
 have c:=CY a;simp only [Rows.uptoBulk];exact ⟨by omega,fun d b=>by have:=pT b;omega⟩
section
variable {H:Type} {enc:TypeId×Value→H} {w:World} {held:Bool}
theorem qE {fuel:Nat} {cs:List Value} {x:DataW H×List MemPlace} (h:DataW.trod enc Tryz.prog w 0 (fun _=>true) held fuel 26 cs=some x) :
  ∃ (A:Option Addr) (c:Nat) (L:List Int),cs=[.slice A L.length c]∧aO w A c L∧L.length≤Rows.uptoBulk x.1:=by
 rcases open_ints Tryz.underlying26 Tryz.underlying3 (by kernel_rfl) h with ⟨e,_⟩ | ⟨a',len,cap,zs,e,_,m,_,f,d,g,_⟩
 ·exact ⟨none,0,[],e,aO.nil _ _ _,zU⟩
 simp at f
 have a:(zs.take len).length=len:=by simp;omega
 have b:(zs.take len).length≤Rows.uptoBulk x.1:=by
  rw [d];have:=(rm (H:=H) (lits .i64 (zs.take len)) (lits .i64 (zs.drop len))).1
  simpa [lits] using this
 refine ⟨some a',cap,zs.take len,by rw [a];exact e,⟨by rw [a];exact m,?_⟩,b⟩
 rcases Nat.eq_zero_or_pos len with h0 | h0
 ·left
  subst h0
  simp
 right
 have c0:=g 0 (by omega)
 have k:=dJ c0 rfl;have l:=World.block_lt_of_cell? _ _ c0;refine ⟨a'.block,a'.off,by rw [←k],by simpa [Addr.add] using l,fun j i=>?_⟩
 rw [a] at i;have:=g j (by omega)
 rw [k,bS] at this;rw [this]
 simp [List.getD,i]
theorem ED {fuel:Nat} {cs:List Value} {x:DataW H×List MemPlace} (h:DataW.trod enc Tryz.prog w 0 (fun _=>true) held fuel 33 cs=some x) :
  ∃ (A:Option Addr) (cap:Nat) (L:List (Int×Int)),cs=[.slice A L.length cap]∧dt w A cap L∧L.length≤Rows.uptoBulk x.1:=by
 rcases open_slice Tryz.underlying33 h with ⟨rfl,-⟩ | ⟨a,len0,o,m,n,D,Pl,rfl,-,C,k,q,l,s⟩
 ·exact ⟨none,0,[],rfl,⟨zT,zU,Or.inl rfl⟩,zU⟩
 rw [yo] at s
 simp at q
 subst q;have d:∀ i,i<len0→∃ y:Int×Int,w.cells? 0 (a.add (i*2)) 2=some [.int .i64 y.1,.int .i64 y.2]:=fun i c=>by
  obtain ⟨t,u,v⟩:=s i (by omega)
  obtain ⟨e,rfl⟩:=Gv v;exact ⟨e,u⟩
 obtain ⟨Y,p⟩:=choose_lt d;have b:((List.range len0).map Y).length=len0:=by simp
 have B:∀ i,i<len0→((List.range len0).map Y).getD i noC=Y i:=fun i c=>by simp [List.getD,c]
 have g:((List.range len0).map Y).length≤Rows.uptoBulk x.1:=by
  rw [l,b];have:=(rm ((List.range len0).map D) ((List.range (m-len0)).map fun j=>D (len0+j))).1
  simpa using this
 refine ⟨some a,_,(List.range len0).map Y,by rw [b],⟨by rw [b];exact C,k,?_⟩,g⟩
 rcases Nat.eq_zero_or_pos len0 with h0 | h0
 ·left;subst h0;rfl
 right
 have c0:=(World.cells?_some (p 0 h0)).2.2 0 (by omega)
 rw [add_add] at c0;have r:=dJ c0 (by omega)
 have z:=World.block_lt_of_cell? _ _ c0;refine ⟨a.block,a.off,by rw [←r],by simpa [Addr.add] using z,fun i c=>?_⟩
 rw [b] at c;have f:=(World.cells?_some (p i c)).2.2;rw [r] at f;simp only [bS,Nat.add_assoc] at f;rw [B i c];refine ⟨?_,?_⟩
 ·have:=f 0 (by omega);simpa using this
 have:=f 1 (by omega);simpa [Nat.add_assoc] using this
theorem FS:Tryz.prog.cellsOf 33=1:=by kernel_rfl
theorem EE {fuel:Nat} {cs:List Value} {x:DataW H×List MemPlace} (h:DataW.trod enc Tryz.prog w 0 (fun _=>true) held fuel 28 cs=some x) :
  ∃ (A:Option Addr) (cap:Nat) (l:List CsL),cs=[.slice A l.length cap]∧eQ w A cap l∧l.length≤Rows.uptoBulk x.1∧∀ y∈l,y.L.length≤Rows.uptoBulk x.1:=by
 rcases open_slice Tryz.underlying28 h with ⟨rfl,-⟩ | ⟨a,len0,t,m,n,D,Pl,rfl,-,G,q,u,f,v⟩
 ·exact ⟨none,0,[],rfl,⟨zT,zU,Or.inl rfl⟩,zU,fun y s=>by cases s⟩
 rw [FS] at v
 simp at u
 subst u
 haveI:Inhabited CsL:=⟨noCs⟩
 have e:∀ i,i<len0→∃ y:CsL,w.cells? 0 (a.add (i*1)) 1=some [.slice y.A y.L.length y.c]∧dt w y.A y.c y.L∧y.L.length≤Rows.uptoBulk (D i):=fun i d=>by
  obtain ⟨z,B,C⟩:=v i (by omega)
  obtain ⟨A,c,L,rfl,k,I⟩:=ED C;exact ⟨⟨L,A,c⟩,B,k,I⟩
 obtain ⟨Y,g⟩:=choose_lt e;have b:((List.range len0).map Y).length=len0:=by simp
 have F:∀ i,i<len0→((List.range len0).map Y).getD i noCs=Y i:=fun i d=>by simp [List.getD,d]
 obtain ⟨J,K⟩:=rm ((List.range len0).map D) ((List.range (m-len0)).map fun j=>D (len0+j))
 have o:((List.range len0).map Y).length≤Rows.uptoBulk x.1:=by
  rw [f,b]
  simpa using J
 refine ⟨some a,_,(List.range len0).map Y,by rw [b],⟨by rw [b];exact G,q,?_⟩,o,fun y s=>?_⟩
 rotate_left
 ·obtain ⟨i,d,rfl⟩:=List.mem_map.1 s
  have r:=List.mem_range.1 d;refine zV (g i r).2.2 ?_;rw [f];exact K (D i) (List.mem_map.2 ⟨i,d,rfl⟩)
 rcases Nat.eq_zero_or_pos len0 with h0 | h0
 ·left;subst h0;rfl
 right
 have c0:=(World.cells?_some (g 0 h0).1).2.2 0 (by omega)
 rw [add_add] at c0;have k:=dJ c0 (by omega)
 have E:=World.block_lt_of_cell? _ _ c0;refine ⟨a.block,a.off,by rw [←k],by simpa [Addr.add] using E,fun i d=>?_⟩
 rw [b] at d;have p:=(World.cells?_some (g i d).1).2.2;rw [k] at p;simp only [bS,Nat.add_assoc,Nat.mul_one] at p;rw [F i d];refine ⟨?_,(g i d).2.1⟩;have:=p 0 (by omega)
 simpa using this
theorem FT:Tryz.prog.cellsOf 30=3:=by kernel_rfl
theorem xO {P:Program} {base:Nat} {sp:Nat→Bool} {t:TypeId} {c:Array Field} {fuel:Nat} {cs:List Value} {x:DataW H×List MemPlace} (r:P.underlying t=some (.struct c)) (a:oneCellFields P c=true) (h:DataW.trod enc P w base sp held fuel t cs=some x) :
  ∃ n parts,x.1=.agg parts∧∀ (i:Nat) (f:Field) (v:Value),c[i]?=some f→cs[i]?=some v→∃ y,DataW.trod enc P w base sp held n f.type [v]=some y∧y.1∈parts:=by
 obtain ⟨k,n,_,u,A,z,o⟩:=DataW.trod_struct r h;refine ⟨n,k.map (·.1),by rw [u],fun i f v d s=>?_⟩
 obtain ⟨q,m⟩:=hone_of a i f d;have p:i<c.size:=(zY d).1;have e:=o i f d;rw [q,m] at e;obtain ⟨g,j⟩:=List.getElem?_eq_some_iff.1 s;have l:(cs.drop i).take 1=[v]:=by rw [List.drop_eq_getElem_cons g,j];rfl
 have b:i<k.length:=by omega
 rw [l,zX b] at e;exact ⟨_,e,List.mem_map.2 ⟨_,List.getElem_mem b,rfl⟩⟩
theorem Bq {r:Reach} {b0:Nat} {v:Value} {d:DataW H} {p:List MemPlace} (A:Value.okWide Tryz.prog w r b0 30 v) (h:DataW.Trod enc Tryz.prog w 0 (fun _=>true) held 30 v d p) :
  ∃ (Ar:Option Addr) (f:Nat) (R:List Int) (Ac:Option Addr) (c:Nat) (K:List Int) (Ag:Option Addr) (e:Nat) (b:List CsL),v=.agg #[.slice Ar R.length f,.slice Ac K.length c,.slice Ag b.length e]∧aO w Ar f R∧aO w Ac c K∧eQ w Ag e b∧R.length≤Rows.uptoBulk d∧K.length≤Rows.uptoBulk d∧b.length≤Rows.uptoBulk d∧∀ y∈b,y.L.length≤Rows.uptoBulk d:=by
 obtain ⟨cs,rfl,k⟩:=okWide_struct Tryz.underlying30 A;obtain ⟨c0,c1,c2,rfl⟩:=KF (k.trans FT);obtain ⟨fuel,z⟩:=h;have i:DataW.trod enc Tryz.prog w 0 (fun _=>true) held fuel 30 [c0,c1,c2]=some (d,p):=z
 obtain ⟨n,parts,x,j⟩:=xO Tryz.underlying30 (by kernel_rfl) i
 obtain ⟨E,s,m0⟩:=j 0 _ c0 rfl rfl;obtain ⟨F,t,m1⟩:=j 1 _ c1 rfl rfl;obtain ⟨G,u,m2⟩:=j 2 _ c2 rfl rfl;have g:d=.agg parts:=x;have a:∀ {y:DataW H},y∈parts→Rows.uptoBulk y≤Rows.uptoBulk d:=fun l=>by
  rw [g];simp only [Rows.uptoBulk];have:=pT l
  omega
 obtain ⟨Ar,f,R,m,B,b0⟩:=qE s;obtain ⟨Ac,c,K,o,C,b1⟩:=qE t;obtain ⟨Ag,e,b,q,D,b2,b3⟩:=EE u
 simp at m o q
 exact ⟨Ar,f,R,Ac,c,K,Ag,e,b,by rw [m,o,q],B,C,D,zV b0 (a m0),zV b1 (a m1),zV b2 (a m2),fun y l=>zV (b3 y l) (a m2)⟩
end
end Go.Proofs.YthlhjjabkgpenaaGreatDoor
