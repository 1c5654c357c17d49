/- A place with another m -/
import Derived.Test.YtohgnbgamfepoaaGreatDoorJHAW
import Derived.Test.YtohgnbgamfepoaaGreatDoorJHBB
import Derived.Test.YtohgnbgamfepoaaGreatDoorJHBC
namespace Go.Proofs.YtohgnbgamfepoaaGreatDoor
open Go ChangeShapes WideShapes ChangeAt RowKit
set_option maxRecDepth 99999
set_option maxHeartbeats 0
theorem mJ (Ap:Option Addr) (B:Nat) (p:List Int) (dim:Nat) (x:Int) (w:World) (A:dim<p.length) (W:p.length≤4) (Z:aZ w Ap B p) :
  Calls Tryz.prog 62 #[.slice Ap p.length B,.int .i64 dim,.int .i64 x] w fun e w'=>(∃ A' c',e=.returned (.slice A' p.length c')∧aZ w' A' c' (p.set dim x))∧Bl w w':=by
 obtain ⟨i0,F,H,I,J⟩:=info_parts Tryz.infoIntP;obtain ⟨D,U | ⟨b,o,rfl,hb,d⟩⟩:=Z
 ·rw [U] at A;simp at A
 have R:Hid (∀ j u,(p.map (Value.int .i64))[j]?=some u→w.cell? ((⟨b,o,none⟩:Addr).add j)=some u):=by
  intro j u m;have q:j<p.length:=by have:=(List.getElem?_eq_some_iff.1 m).1;simpa using this
  rw [aK,d j q];simp only [List.getElem?_map,zX q,Option.map_some,Option.some.injEq] at m;rw [←m,zZ,zX q]
  rfl
 obtain ⟨N,C⟩:=az p.length;have r:=aa C;rw [C] at A W D ⊢;have hdi:(dim:Int)<(N:Int):=by omega
 have X:(N:Int)≤4:=by omega
 clear d C
 go_enter Tryz.func62,Tryz.ntmps62
 go_wp2_with (at_builtin;refine wpList_append_own _ rfl _ _ 27 rfl w.heap.size 3 i0 (.int .i64 0) 1 8 Tryz.underlying27 F H I J rfl (by decide) _ _ _ rfl (World.ownsRow_nil w w.heap.size 3 1) ⟨b,o,none⟩ N B (p.map (Value.int .i64)) rfl ?qc1 ?qc2 ?qc3 ?qc4 ?qc5 ?qc6 ?_)
 case qc1=>simp [r.out]
 case qc2=>exact R.out
 case qc3=>intro u P;simp at P;obtain ⟨y,-,rfl⟩:=P;rfl
 case qc4=>simp only [maxLen];omega
 case qc5=>omega
 case qc6=>exact zT
 intro v' w1 n f z;have a:w1.ownsRow w.heap.size 3 1 v' N (p.map (Value.int .i64)):=by simpa using n
 have Q:Hid (Bl w w1):=(Below.refl _ w).grown f (zT) (by intro k G;cases G)
 rcases a.2 with ⟨K,V⟩ | ⟨g,cap,c,rfl,s,E,hc,hm,M,O⟩
 ·omega
 have S:Hid (c.toList.take (N*1)=p.map (Value.int .i64)∧c.size=cap*1∧w1.heap[g]?=some (.cells c 3 (0,0))∧w.heap.size≤g):=⟨O,M,E,s⟩;have T:w1.cell? ⟨g,dim,none⟩=some (.int .i64 (p.getD dim 0)):=by
  have:=a.cells (g:=g) rfl dim (.int .i64 (p.getD dim 0)) (by simp [List.getD,r.out,A])
  rw [aK,Nat.zero_add] at this;exact this
 have fg:w1.frozen? ⟨g,dim,none⟩=false:=Lib.frozen_of_heap E dim;have t:N≤cap:=hc;generalize p.getD dim 0=old at T;clear n a f z E s M O;go_wp2_with fail;go_ret;obtain ⟨K,V,L,Y⟩:=S.out;refine ⟨⟨_,cap,rfl,by rw [List.length_set,r.out];exact t,Or.inr ⟨g,0,rfl,by simp [World.setCell];exact (zY L).1,fun j m=>?_⟩⟩,Q.out.setCell (by show w.heap.size≤g;exact Y) _⟩
 rw [List.length_set,r.out] at m;have G:(w1.setCell ⟨g,dim,none⟩ (.int .i64 x)).heap[g]?=some (.cells (c.setIfInBounds dim (.int .i64 x)) 3 (0,0)):=by simp [World.setCell,Array.getElem?_modify,L]
 rw [Nat.zero_add,Lib.cell_of_heap G];have v:∀ i,i<N→c[i]?=some (.int .i64 (p.getD i 0)):=fun i hi=>by
  have:=congrArg (fun l=>l[i]?) K
  simp only [List.getElem?_take,show i<N*1 by omega,if_true,Array.getElem?_toList] at this
  rw [this]
  simp [List.getD,r.out,hi]
 by_cases e:j=dim
 ·subst e
  have hz:=(zY (v j m)).1;rw [Array.getElem?_setIfInBounds_self_of_lt hz]
  simp [List.getD,r.out,m]
 rw [Array.getElem?_setIfInBounds_ne (fun h=>e h.symm),v j m]
 simp [List.getD,List.getElem?_set_ne (fun h=>e h.symm)]
def Kf (D:Nat→Dm) (n:Nat) (l:List En) (m:Nat):List (Int×Int):=(List.range m).map fun x=>getE l (aj D n x)
theorem IC (D:Nat→Dm) (n:Nat) (l:List En) (m:Nat):(Kf D n l m).length=m:=by simp [Kf]
theorem tr {D:Nat→Dm} {n x:Nat}:∀ (l:List En) (L:List (Int×Int)),(∀ e∈l,InO D n e.pl)→L.length=prodN D n→(∀ e∈l,(numI D e.pl n).toNat≠x)→(l.foldl (dH D n) L).getD x (0,0)=L.getD x (0,0)
 | [],_,_,_,_=>rfl
 | e :: r,L,hi,hL,h=>by
  obtain ⟨b,c,-⟩:=a8 (hi e (List.mem_cons_self ..)) (Nat.le_refl n);rw [List.foldl_cons,tr r _ (fun y a=>hi y (List.mem_cons_of_mem _ a)) (by unfold dH;rw [List.length_set];exact hL) fun y a=>h y (List.mem_cons_of_mem _ a)]
  unfold dH;have:=h e (List.mem_cons_self ..)
  simp [List.getD,List.getElem?_set_ne this]
theorem Bw {D:Nat→Dm} {n:Nat} {e:En}:∀ (l:List En) (L:List (Int×Int)),(∀ y∈l,InO D n y.pl)→(l.Pairwise fun a b=>lessL a.pl b.pl=true)→L.length=prodN D n→e∈l→(l.foldl (dH D n) L).getD (numI D e.pl n).toNat (0,0)=(1,e.n)
 | [],_,_,_,_,h=>by cases h
 | y :: r,L,hi,hr,hL,h=>by
  have g:=List.pairwise_cons.1 hr;have f:=hi y (List.mem_cons_self ..);have c:=fun z i=>hi z (List.mem_cons_of_mem y i)
  obtain ⟨j,k,-⟩:=a8 f (Nat.le_refl n);rw [List.foldl_cons];have d:(dH D n L y).length=prodN D n:=by unfold dH;rw [List.length_set];exact hL
  rcases List.mem_cons.1 h with rfl | h
  ·rw [tr r _ c d fun z i=>by
    have m:=uA f (c z i) (g.1 z i);obtain ⟨o,-,-⟩:=a8 (c z i) (Nat.le_refl n)
    omega]
   unfold dH;have:(numI D e.pl n).toNat<L.length:=by omega
   simp [List.getD,this]
  exact Bw r _ c g.2 d h
theorem JR {D:Nat→Dm} {n:Nat} {l:List En} (h:Ens D n l):wrV D n l=Kf D n l (prodN D n):=by
 apply List.ext_getElem (by rw [nT,IC])
 intro x b k;rw [nT] at b;have f:(wrV D n l).getD x (0,0)=getE l (aj D n x):=by
  unfold wrV
  by_cases g:∃ e,e∈l∧(numI D e.pl n).toNat=x
  ·obtain ⟨e,a,d⟩:=g
   have c:=Bw l (List.replicate (prodN D n) (0,0)) (fun y i=>(h.each y i).1) h.rise (by simp) a
   rw [d] at c;rw [c,←d,gn (h.each e a).1,nE h.rise a]
  rw [tr l _ (fun y i=>(h.each y i).1) (by simp) fun e a d=>g ⟨e,a,d⟩]
  rw [(lg h.rise fun e a j=>g ⟨e,a,by rw [j,mB h.right b];omega⟩).1]
  simp [List.getD,b]
 have c:x<(wrV D n l).length:=by rw [nT];exact b
 rw [zZ,zX c] at f;simp only [Option.getD_some] at f;rw [f]
 simp [Kf]
def tt (l:List UInt8):ByteArray:=⟨l.toArray⟩
theorem nmB_list (l:List UInt8):(tt l).data.toList=l:=by simp [tt]
theorem FC (s:ByteArray):tt s.data.toList=s:=by unfold tt;simp
theorem BU (zs:List (List UInt8)) (r:zs.Pairwise (fun a b=>a≤b)):(Lib.compact zs).Pairwise (fun a b=>a≤b):=by
 unfold Lib.compact;have g:∀ i j,i≤j→j<zs.length→zs.toArray[i]!≤zs.toArray[j]! := fun i j q l=>by
  rw [getElem!_pos _ i (by simp;omega),getElem!_pos _ j (by simpa using l)]
  by_cases e:i=j
  ·subst e;exact List.le_refl _
  have:=List.pairwise_iff_getElem.1 r i j (by omega) l (by omega)
  simpa using this
 have h:∀ m,m≤zs.length→(Lib.compactUpTo zs.toArray m).Pairwise (fun a b=>a≤b)∧∀ x∈Lib.compactUpTo zs.toArray m,∃ j,j<m∧zs.toArray[j]! = x:=by
  intro m
  induction m with
  | zero=>intro _;exact ⟨by simp [Lib.compactUpTo],fun x c=>by simp [Lib.compactUpTo] at c⟩
  | succ m ih =>
   intro s;obtain ⟨n,k⟩:=ih (by omega)
   rw [Lib.compactUpTo_succ];refine ⟨?_,fun x c=>?_⟩
   ·rw [List.pairwise_append]
    refine ⟨n,by split <;> simp,fun a p b f=>?_⟩
    split at f
    ·rw [List.mem_singleton.1 f]
     obtain ⟨j,o,d⟩:=k a p;rw [←d];exact g j m (by omega) (by omega)
    cases f
   rcases List.mem_append.1 c with c | c
   ·obtain ⟨j,o,d⟩:=k x c
    exact ⟨j,by omega,d⟩
   split at c
   ·exact ⟨m,by omega,(List.mem_singleton.1 c).symm⟩
   cases c
 exact (h _ (zT)).1
theorem Dn {l:List Nd} (h:aA l=0):∀ i j,i<j→j<(aX l).length→(aX l).getD i []<(aX l).getD j []:=by
 intro i j c d;have f:=(jP h).1;have e:(aX l).Pairwise (fun a b=>a≤b):=by
  unfold aX;rw [if_pos h];exact BU _ (Gy _)
 rw [zZ,zZ,zX (by omega:i<_),zX d]
 have k:=List.pairwise_iff_getElem.1 e i j (by omega) d c
 have g:=List.pairwise_iff_getElem.1 f i j (by omega) d c
 simp only [Option.getD_some]
 rcases Std.lt_trichotomy (aX l)[i] (aX l)[j] with h3 | h3 | h3
 ·exact h3
 ·exact absurd h3 g
 exact absurd (List.le_antisymm k (List.le_of_lt h3)) g
theorem xN {l:List Nd} (h:aA l=0):∀ j,1≤j→j<((aX l).map tt).length→fN ((aX l).map tt) j=false:=by
 intro j f b;rw [List.length_map] at b;have c:=Dn h (j-1) j (by omega) b
 have e:∀ k,k<(aX l).length→(((aX l).map tt).getD k jj).toList=(aX l).getD k []:=fun k d=>by
  rw [zZ,List.getElem?_map,zX d,zZ,zX d];simp only [Option.map_some,Option.getD_some];rw [ByteArray.toList_eq,nmB_list]
 unfold fN;rw [e j b,e (j-1) (by omega),bytesLess_eq,Bool.or_eq_false_iff]
 refine ⟨decide_eq_false fun a=>?_,?_⟩
 ·exact absurd (List.lt_trans c a) (List.lt_irrefl _)
 rw [beq_eq_false_iff_ne];intro a;rw [a] at c;exact absurd c (List.lt_irrefl _)
theorem xk {d:Dm} (F:(ay d).2=0) {i:Nat} (w:(d.mem i).formula.size≠0) (E:mErr d i=0) (f:Int→Int×Int) (A:∀ z∈ep d i,b6 (f z)) :
  mN (bI (d.mem i).formula) ((aX (bI (d.mem i).formula)).map tt) (((aX (bI (d.mem i).formula)).map (whL d)).map f)=0∧qG (bI (d.mem i).formula) ((aX (bI (d.mem i).formula)).map tt) (((aX (bI (d.mem i).formula)).map (whL d)).map f)=ew d f i:=by
 have o:=fA w E;have b:=dN o;obtain ⟨l,u⟩:=az (bI (d.mem i).formula);have c:∀ x,x∈aX l↔x∈kn d i:=fun x=>by
  rw [(jP (by rw [←u];exact b)).2 x]
  unfold kn;rw [u]
 have g:zk d i=aF l (l.length-1):=by unfold zk;rw [u]
 have p:∀ s∈refsT (aF l (l.length-1)),s.data.toList∈aX l:=fun s m=>(c _).2 (mM o (by rw [g];exact m))
 rw [u] at b ⊢;have v:dP ((aX l).map tt) (((aX l).map (whL d)).map f)=0:=by
  refine sn (by simp) (fun j t=>?_) (xN b)
  simp only [List.length_map] at t;unfold gB;have G:((aX l).map (whL d))[j]'(by simpa using t)∈ep d i:=(fB F w E _).2 ⟨_,(c _).1 (List.getElem_mem t),by simp⟩
  have y:=A _ G;unfold b6 at y;rw [zZ,zX (by simpa using t)]
  simp only [Option.getD_some,List.getElem_map] at y ⊢;rw [y]
  rfl
 have q:∀ s,s.data.toList∈aX l→∃ k:Nat,b5 ((aX l).map tt) s=(k:Int)∧k<(aX l).length∧tt ((aX l).getD k [])=s:=fun s m=>by
  rcases where_cases ((aX l).map tt) s with ⟨-,a⟩ | ⟨k,n,a,r⟩
  ·obtain ⟨k,D,e⟩:=List.getElem_of_mem m
   refine absurd ?_ (a k (by simpa using D))
   rw [zZ,List.getElem?_map,zX D];simp only [Option.map_some,Option.getD_some];rw [e,FC]
  rw [List.length_map] at a;refine ⟨k,n,a,?_⟩;rw [zZ,List.getElem?_map,zX a] at r;rw [zZ,zX a];exact r
 have h:missT ((aX l).map tt) (aF l (l.length-1))=false:=by
  unfold missT;rw [List.any_eq_false];intro s m;obtain ⟨k,n,-,-⟩:=q s (p s m);rw [n]
  simp
 obtain ⟨B,C⟩:=Bv b v;rw [h] at B C;refine ⟨B,C.trans ?_⟩;simp only [Bool.false_eq_true,if_false];unfold ew;rw [if_neg w,g];refine jf _ _ _ _ fun s m=>?_
 obtain ⟨k,n,a,r⟩:=q s (p s m);unfold refC;rw [n,Int.toNat_natCast,zZ,List.getElem?_map,List.getElem?_map,zX a];simp only [Option.map_some,Option.getD_some];rw [←r,nmB_list,zZ,zX a]
 rfl
theorem nh {d:Dm} {i:Nat} (g:(d.mem i).formula.size=0) (f:Int→Int×Int):partsV d.mem f (ep d i)=ew d f i:=by
 unfold partsV ew;rw [if_pos g,←gH g];have a:∀ (P:List Int) (c:Int×Int),(P.filter (wg d)).foldl (ba d.mem f) c=P.foldl (ba d.mem f) c:=by
  intro P
  induction P with
  | nil=>intro c;rfl
  | cons x r ih =>
   intro c;rw [List.filter_cons,List.foldl_cons]
   by_cases b:wg d x=true
   ·rw [if_pos b,List.foldl_cons,ih]
   rw [if_neg b,ih];have h:(d.mem x.toNat).sign=0:=by unfold wg at b;simpa using b
   have e:ba d.mem f c x=c:=by unfold ba;rw [if_neg (by omega),if_neg (by omega)]
   rw [e]
 exact a _ _
theorem E8 {d:Dm} (l:(ay d).2=0) {i:Nat} (k:mErr d i=0) (f:Int→Int×Int) (g:∀ z∈ep d i,b6 (f z)):b6 (ew d f i):=by
 by_cases e:(d.mem i).formula.size=0
 ·rw [←nh e]
  exact xm _ _ _
 have j:=fA e k;unfold ew;rw [if_neg e];have c:∀ t:Tre,(∀ s∈refsT t,b6 (f (whL d s.data.toList)))→b6 (valG (fun s=>f (whL d s.data.toList)) t):=by
  intro t
  induction t with
  | num n=>intro _;exact oX n
  | ref s=>intro h;exact h s (by simp [refsT])
  | bin o a b _ _=>intro _;exact FW o _ _
 exact c _ fun s m=>g _ ((fB l e k _).2 ⟨_,mM j m,rfl⟩)
theorem oY {D:Nat→Dm} {n:Nat} (e:dI D n) {inp:List Int→Int×Int} (l:∀ p,b6 (inp p)):∀ (m:Nat) (p:List Int),InO D n p→msrTo D p n<m→b6 (ez D n inp p):=by
 intro m
 induction m with
 | zero=>intro p _ h;omega
 | succ m ih =>
  intro p a r
  rcases by_in D p n with h | ⟨b,h1,h2⟩
  ·rw [fR inp (by omega)]
   exact l p
  rw [p9 e inp a h1];obtain ⟨k,f,-,-⟩:=bJ (e b h2);have g:=a.lo b h2;have q:=a.hi b h2;refine E8 k (f _ (by omega)) _ fun z j=>?_
  have d:=eo j;have c:=lG (e b h2) (i:=(p.getD b 0).toNat) (by omega) j
  rw [Int.toNat_of_nonneg g] at c;have o:=(ju (by rw [a.len];exact h2) c n).2 h2
  exact ih _ (gQ a h2 d.1 d.2) (by omega)
end Go.Proofs.YtohgnbgamfepoaaGreatDoor
