/- A place with another m -/
import Derived.Test.YtompdcaikmekkaaGreatDoorJHAW
import Derived.Test.YtompdcaikmekkaaGreatDoorJHAY
import Derived.Test.YtompdcaikmekkaaGreatDoorJHAZ
namespace Go.Proofs.YtompdcaikmekkaaGreatDoor
open Go ChangeShapes WideShapes ChangeAt RowKit
set_option maxRecDepth 99999
set_option maxHeartbeats 0
theorem mB (Ap:Option Addr) (B:Nat) (p:List Int) (dim:Nat) (x:Int) (w:World) (A:dim<p.length) (W:p.length≤4) (Z:a7 w Ap B p) :
  Calls Tryz.prog 61 #[.slice Ap p.length B,.int .i64 dim,.int .i64 x] w fun e w'=>(∃ A' c',e=.returned (.slice A' p.length c')∧a7 w' A' c' (p.set dim x))∧Bl w w':=by
 obtain ⟨i0,F,H,I,J⟩:=info_parts Tryz.infoIntP;obtain ⟨D,U | ⟨b,o,rfl,hb,d⟩⟩:=Z
 ·rw [U] at A;simp at A
 have R:Hid (∀ j u,(p.map (Value.int .i64))[j]?=some u→w.cell? ((⟨b,o,none⟩:Addr).add j)=some u):=by
  intro j u m;have q:j<p.length:=by have:=(List.getElem?_eq_some_iff.1 m).1;simpa using this
  rw [aK,d j q];simp only [List.getElem?_map,zX q,Option.map_some,Option.some.injEq] at m;rw [←m,zZ,zX q]
  rfl
 obtain ⟨N,C⟩:=aA p.length;have r:=aa C;rw [C] at A W D ⊢;have hdi:(dim:Int)<(N:Int):=by omega
 have X:(N:Int)≤4:=by omega
 clear d C
 go_enter Tryz.func61,Tryz.ntmps61
 go_wp2_with (at_builtin;refine wpList_append_own _ rfl _ _ 27 rfl w.heap.size 3 i0 (.int .i64 0) 1 8 Tryz.underlying27 F H I J rfl (by decide) _ _ _ rfl (World.ownsRow_nil w w.heap.size 3 1) ⟨b,o,none⟩ N B (p.map (Value.int .i64)) rfl ?qc1 ?qc2 ?qc3 ?qc4 ?qc5 ?qc6 ?_)
 case qc1=>simp [r.out]
 case qc2=>exact R.out
 case qc3=>intro u P;simp at P;obtain ⟨y,-,rfl⟩:=P;rfl
 case qc4=>simp only [maxLen];omega
 case qc5=>omega
 case qc6=>exact zT
 intro v' w1 n f z;have a:w1.ownsRow w.heap.size 3 1 v' N (p.map (Value.int .i64)):=by simpa using n
 have Q:Hid (Bl w w1):=(Below.refl _ w).grown f (zT) (by intro k G;cases G)
 rcases a.2 with ⟨K,V⟩ | ⟨g,cap,c,rfl,s,E,hc,hm,M,O⟩
 ·omega
 have S:Hid (c.toList.take (N*1)=p.map (Value.int .i64)∧c.size=cap*1∧w1.heap[g]?=some (.cells c 3 (0,0))∧w.heap.size≤g):=⟨O,M,E,s⟩;have T:w1.cell? ⟨g,dim,none⟩=some (.int .i64 (p.getD dim 0)):=by
  have:=a.cells (g:=g) rfl dim (.int .i64 (p.getD dim 0)) (by simp [List.getD,r.out,A])
  rw [aK,Nat.zero_add] at this;exact this
 have fg:w1.frozen? ⟨g,dim,none⟩=false:=Lib.frozen_of_heap E dim;have t:N≤cap:=hc;generalize p.getD dim 0=old at T;clear n a f z E s M O;go_wp2_with fail;go_ret;obtain ⟨K,V,L,Y⟩:=S.out;refine ⟨⟨_,cap,rfl,by rw [List.length_set,r.out];exact t,Or.inr ⟨g,0,rfl,by simp [World.setCell];exact (zY L).1,fun j m=>?_⟩⟩,Q.out.setCell (by show w.heap.size≤g;exact Y) _⟩
 rw [List.length_set,r.out] at m;have G:(w1.setCell ⟨g,dim,none⟩ (.int .i64 x)).heap[g]?=some (.cells (c.setIfInBounds dim (.int .i64 x)) 3 (0,0)):=by simp [World.setCell,Array.getElem?_modify,L]
 rw [Nat.zero_add,Lib.cell_of_heap G];have v:∀ i,i<N→c[i]?=some (.int .i64 (p.getD i 0)):=fun i hi=>by
  have:=congrArg (fun l=>l[i]?) K
  simp only [List.getElem?_take,show i<N*1 by omega,if_true,Array.getElem?_toList] at this
  rw [this]
  simp [List.getD,r.out,hi]
 by_cases e:j=dim
 ·subst e
  have hz:=(zY (v j m)).1;rw [Array.getElem?_setIfInBounds_self_of_lt hz]
  simp [List.getD,r.out,m]
 rw [Array.getElem?_setIfInBounds_ne (fun h=>e h.symm),v j m]
 simp [List.getD,List.getElem?_set_ne (fun h=>e h.symm)]
def JW (D:Nat→Dm) (n:Nat) (l:List En) (m:Nat):List (Int×Int):=(List.range m).map fun x=>getE l (aj D n x)
theorem Ij (D:Nat→Dm) (n:Nat) (l:List En) (m:Nat):(JW D n l m).length=m:=by simp [JW]
theorem ti {D:Nat→Dm} {n x:Nat}:∀ (l:List En) (L:List (Int×Int)),(∀ e∈l,InO D n e.pl)→L.length=prodN D n→(∀ e∈l,(numI D e.pl n).toNat≠x)→(l.foldl (dG D n) L).getD x (0,0)=L.getD x (0,0)
 | [],_,_,_,_=>rfl
 | e :: r,L,hi,hL,h=>by
  obtain ⟨b,c,-⟩:=ba (hi e (List.mem_cons_self ..)) (Nat.le_refl n);rw [List.foldl_cons,ti r _ (fun y a=>hi y (List.mem_cons_of_mem _ a)) (by unfold dG;rw [List.length_set];exact hL) fun y a=>h y (List.mem_cons_of_mem _ a)]
  unfold dG;have:=h e (List.mem_cons_self ..)
  simp [List.getD,List.getElem?_set_ne this]
theorem Bd {D:Nat→Dm} {n:Nat} {e:En}:∀ (l:List En) (L:List (Int×Int)),(∀ y∈l,InO D n y.pl)→(l.Pairwise fun a b=>lessL a.pl b.pl=true)→L.length=prodN D n→e∈l→(l.foldl (dG D n) L).getD (numI D e.pl n).toNat (0,0)=(1,e.n)
 | [],_,_,_,_,h=>by cases h
 | y :: r,L,hi,hr,hL,h=>by
  have g:=List.pairwise_cons.1 hr;have f:=hi y (List.mem_cons_self ..);have c:=fun z i=>hi z (List.mem_cons_of_mem y i)
  obtain ⟨j,k,-⟩:=ba f (Nat.le_refl n);rw [List.foldl_cons];have d:(dG D n L y).length=prodN D n:=by unfold dG;rw [List.length_set];exact hL
  rcases List.mem_cons.1 h with rfl | h
  ·rw [ti r _ c d fun z i=>by
    have m:=ut f (c z i) (g.1 z i);obtain ⟨o,-,-⟩:=ba (c z i) (Nat.le_refl n)
    omega]
   unfold dG;have:(numI D e.pl n).toNat<L.length:=by omega
   simp [List.getD,this]
  exact Bd r _ c g.2 d h
theorem Jy {D:Nat→Dm} {n:Nat} {l:List En} (h:Ens D n l):wrV D n l=JW D n l (prodN D n):=by
 apply List.ext_getElem (by rw [nN,Ij])
 intro x b k;rw [nN] at b;have f:(wrV D n l).getD x (0,0)=getE l (aj D n x):=by
  unfold wrV
  by_cases g:∃ e,e∈l∧(numI D e.pl n).toNat=x
  ·obtain ⟨e,a,d⟩:=g
   have c:=Bd l (List.replicate (prodN D n) (0,0)) (fun y i=>(h.each y i).1) h.rise (by simp) a
   rw [d] at c;rw [c,←d,gj (h.each e a).1,nt h.rise a]
  rw [ti l _ (fun y i=>(h.each y i).1) (by simp) fun e a d=>g ⟨e,a,d⟩]
  rw [(kZ h.rise fun e a j=>g ⟨e,a,by rw [j,mt h.right b];omega⟩).1]
  simp [List.getD,b]
 have c:x<(wrV D n l).length:=by rw [nN];exact b
 rw [zZ,zX c] at f;simp only [Option.getD_some] at f;rw [f]
 simp [JW]
theorem Tryz.infoMemH:(Tryz.prog.info? 97).map (fun i=>(i.zero,i.size,i.bytes))=some (some (.agg #[.string ⟨#[]⟩,.int .i64 0,.int .i64 0,.string ⟨#[]⟩]),4,48):=by kernel_rfl
theorem Tryz.infoDimH:(Tryz.prog.info? 70).map (fun i=>(i.zero,i.size,i.bytes))=some (some (.agg #[.string ⟨#[]⟩,.int .i64 0,.slice none 0 0]),3,48):=by kernel_rfl
def lY (D:Nat→Dm) (A:Nat→Option Addr) (C:Nat→Nat) (j:Nat):Value:=if j % 3=0 then .string (D (j / 3)).name else if j % 3=1 then .int .i64 (D (j / 3)).solve else .slice (A (j / 3)) (D (j / 3)).n (C (j / 3))
def xw (M:Nat→Mem) (j:Nat):Value:=if j % 4=0 then .string (M (j / 4)).name else if j % 4=1 then .int .i64 (M (j / 4)).parent else if j % 4=2 then .int .i64 (M (j / 4)).sign else .string (M (j / 4)).formula
def rowF (f:Nat→Value) (n:Nat):List Value:=(List.range n).map f
theorem pJ (f:Nat→Value) (n:Nat):(rowF f n).length=n:=by simp [rowF]
theorem AS {f:Nat→Value} {n j:Nat} {u:Value} (h:(rowF f n)[j]?=some u):j<n∧u=f j:=by
 have a:j<n:=by have:=(List.getElem?_eq_some_iff.1 h).1;rwa [pJ] at this
 simp [rowF,List.getElem?_range a] at h
 exact ⟨a,h.symm⟩
theorem vz (f:Nat→Value) {n j:Nat} (h:j<n):(rowF f n)[j]?=some (f j):=by simp [rowF,List.getElem?_range h]
theorem GW (D:Nat→Dm) (A:Nat→Option Addr) (C:Nat→Nat) (n:Nat):∀ u∈rowF (lY D A C) n,u.oneCell'=true:=fun u a=>by
 unfold rowF at a;obtain ⟨j,-,rfl⟩:=List.mem_map.1 a;unfold lY
 split
 ·rfl
 split <;> rfl
theorem Hd (M:Nat→Mem) (n:Nat):∀ u∈rowF (xw M) n,u.oneCell'=true:=fun u a=>by
 unfold rowF at a;obtain ⟨j,-,rfl⟩:=List.mem_map.1 a;unfold xw
 split
 ·rfl
 split
 ·rfl
 split <;> rfl
theorem dS.dc {w:World} {b o n:Nat} {D:Nat→Dm} {A:Nat→Option Addr} {C:Nat→Nat} (h:dS w b o n D A C) {j:Nat} (f:j<n*3):w.cell? ⟨b,o+j,none⟩=some (lY D A C j):=by
 obtain ⟨a,c,d,-⟩:=h.2 (j / 3) (by omega)
 unfold lY
 split
 ·rename_i e;rw [show o+j=o+j / 3*3 by omega];exact a
 split
 ·rename_i e;rw [show o+j=o+j / 3*3+1 by omega];exact c
 rw [show o+j=o+j / 3*3+2 by omega];exact d
theorem b7.mc {w:World} {b o n:Nat} {M:Nat→Mem} (h:b7 w b o n M) {j:Nat} (f:j<n*4):w.cell? ⟨b,o+j,none⟩=some (xw M j):=by
 obtain ⟨a,c,d,e⟩:=h.2 (j / 4) (by omega)
 unfold xw
 split
 ·rw [show o+j=o+j / 4*4 by omega];exact a
 split
 ·rw [show o+j=o+j / 4*4+1 by omega];exact c
 split
 ·rw [show o+j=o+j / 4*4+2 by omega];exact d
 rw [show o+j=o+j / 4*4+3 by omega];exact e
def jh (w:World) (g n:Nat) (M:Nat→Mem):Prop := ∃ cur fr,w.heap[g]?=some (.cells cur 97 fr)∧∀ j,j<n*4→cur[j]?=some (xw M j)
theorem jh.lt {w:World} {g n:Nat} {M:Nat→Mem} (h:jh w g n M):g<w.heap.size:=by
 obtain ⟨a,fr,b,-⟩:=h;exact (zY b).1
theorem jh.same {w w':World} {g n:Nat} {M:Nat→Mem} (h:jh w g n M) (d:w'.heap[g]?=w.heap[g]?):jh w' g n M:=by
 obtain ⟨a,fr,b,c⟩:=h;exact ⟨a,fr,d.trans b,c⟩
theorem jh.mems {w:World} {g n:Nat} {M:Nat→Mem} (h:jh w g n M):b7 w g 0 n M:=by
 refine ⟨h.lt,fun i d=>?_⟩
 obtain ⟨a,fr,b,c⟩:=h;have e:∀ k,k<4→w.cell? ⟨g,0+i*4+k,none⟩=some (xw M (i*4+k)):=fun k f=>by
  rw [Lib.cell_of_heap b,Nat.zero_add];exact c _ (by omega)
 refine ⟨(e 0 (by omega)).trans ?_,(e 1 (by omega)).trans ?_,(e 2 (by omega)).trans ?_,(e 3 (by omega)).trans ?_⟩
 ·unfold xw;rw [if_pos (by omega),show (i*4+0) / 4=i by omega]
 ·unfold xw;rw [if_neg (by omega),if_pos (by omega),show (i*4+1) / 4=i by omega]
 ·unfold xw;rw [if_neg (by omega),if_neg (by omega),if_pos (by omega),show (i*4+2) / 4=i by omega]
 unfold xw;rw [if_neg (by omega),if_neg (by omega),if_neg (by omega),show (i*4+3) / 4=i by omega]
theorem xx (b o c n:Nat) (M:Nat→Mem) (w:World) (J:0<n) (O:n≤12) (B:b7 w b o n M):Calls Tryz.prog 41 #[.slice (some ⟨b,o,none⟩) n c] w fun e w'=>(∃ g d,e=.returned (.slice (some ⟨g,0,none⟩) n d)∧w.heap.size≤g∧n≤d∧jh w' g n M)∧Bl w w':=by
 have P:∀ (w:World) (a:Option Addr) (n c n' d:Nat),(binOp .eql 68 (.slice a n c) (.slice none n' d)).run Tryz.prog w=.ok (.bool a.isNone) w:=fun w a n c n' d=>Lib.run_eql_slice_nil w _ _ a n c n' d Tryz.underlying68
 obtain ⟨i0,s,t,x,y⟩:=info_parts Tryz.infoMemH;have z:Hid (∀ j u,(rowF (xw M) (n*4))[j]?=some u→w.cell? ((⟨b,o,none⟩:Addr).add j)=some u):=fun j u l=>by
  obtain ⟨p,rfl⟩:=AS l;rw [aK];exact B.mc p
 have A:Hid (∀ (w':World) (v:Value),w'.ownsRow w.heap.size 97 4 v n (rowF (xw M) (n*4))→∃ g d,v=.slice (some ⟨g,0,none⟩) n d∧w.heap.size≤g∧n≤d∧jh w' g n M):=fun w' v h=>by
  rcases h.2 with ⟨rfl,K⟩ | ⟨g,cap,r,rfl,H,q,F,L,N,G⟩
  ·omega
  refine ⟨g,cap,rfl,H,F,r,_,q,fun j l=>?_⟩
  have:=vz (xw M) l;rw [←G,List.getElem?_take,if_pos (by omega),Array.getElem?_toList] at this
  exact this
 have C:(rowF (xw M) (n*4)).length=n*4:=pJ _ _;have p:=Hd M (n*4);generalize rowF (xw M) (n*4)=R at z A C p;clear B
 go_enter Tryz.func41,Tryz.ntmps41
 go_wp2_with (at_builtin;refine wpList_append_own _ rfl _ _ 68 rfl w.heap.size 97 i0 (.agg #[.string ⟨#[]⟩,.int .i64 0,.int .i64 0,.string ⟨#[]⟩]) 4 48 Tryz.underlying68 s t x y rfl (by decide) _ _ _ rfl (World.ownsRow_made w #[] 0 (zT) (zU) (by simp)) ⟨b,o,none⟩ n c R rfl ?qc1 ?qc2 ?qc3 ?qc4 ?qc5 ?qc6 ?_)
 case qc1=>exact C
 case qc2=>exact fun j u l=>Lib.cell?_alloc_some _ (z.out j u l)
 case qc3=>exact p
 case qc4=>simp only [maxLen];omega
 case qc5=>omega
 case qc6=>simp
 intro v' w1 i f m;obtain ⟨g,d,rfl,q⟩:=A.out _ _ (by simpa using i)
 have E:=aa q;have D:Hid (Bl w w1):=((Below.refl _ w).alloc (zT) _).grown f (by simp) (by intro k I;simp [Value.ownBlock] at I;omega)
 clear i f m q;go_wp2_with fail;go_ret;exact ⟨⟨g,d,rfl,E.out⟩,D.out⟩
theorem Iq {w:World} {g k T:Nat} {cs:Array Value} {fr:Nat×Nat} {v:Value} (h:w.heap[g]?=some (.cells cs T fr)):(w.setCell ⟨g,k,none⟩ v).heap[g]?=some (.cells (cs.setIfInBounds k v) T fr):=by
 rw [Sort.setCell_eq];unfold Sort.mapBlock;simp only [Array.getElem?_modify,if_true,h,Option.map_some]
 rfl
def io (w:World) (g n:Nat) (f:Nat→Value):Prop := ∃ cur,w.heap[g]?=some (.cells cur 70 (0,0))∧∀ j,j<n*3→cur[j]?=some (f j)
theorem io.lt {w:World} {g n:Nat} {f:Nat→Value} (h:io w g n f):g<w.heap.size:=by
 obtain ⟨a,b,-⟩:=h;exact (zY b).1
theorem io.same {w w':World} {g n:Nat} {f:Nat→Value} (h:io w g n f) (d:w'.heap[g]?=w.heap[g]?):io w' g n f:=by
 obtain ⟨a,b,c⟩:=h;exact ⟨a,d.trans b,c⟩
theorem io.later {w w':World} {g n:Nat} {f:Nat→Value} (h:io w g n f) (a:Bl w w'):io w' g n f:=h.same (a.block g h.lt)
theorem io.cell {w:World} {g n:Nat} {f:Nat→Value} (h:io w g n f) {j:Nat} (d:j<n*3):w.cell? ⟨g,j,none⟩=some (f j):=by
 obtain ⟨a,b,c⟩:=h;rw [Lib.cell_of_heap b];exact c j d
theorem io.frozen {w:World} {g n:Nat} {f:Nat→Value} (h:io w g n f) (j:Nat):w.frozen? ⟨g,j,none⟩=false:=by
 obtain ⟨a,b,-⟩:=h;exact Lib.frozen_of_heap b j
theorem io.set {w:World} {g n:Nat} {f:Nat→Value} (h:io w g n f) {x:Nat} (k:x<n*3) (v:Value):io (w.setCell ⟨g,x,none⟩ v) g n (fun j=>if j=x then v else f j):=by
 obtain ⟨a,c,b⟩:=h;refine ⟨a.setIfInBounds x v,Iq c,fun j i=>?_⟩
 have d:=b x k
 dsimp only
 by_cases e:j=x
 ·subst e
  rw [if_pos rfl,Array.getElem?_setIfInBounds_self,if_pos (zY d).1]
 rw [if_neg e,Array.getElem?_setIfInBounds_ne (fun h=>e h.symm)]
 exact b j i
theorem ww (b o c n:Nat) (D:Nat→Dm) (A:Nat→Option Addr) (C:Nat→Nat) (w:World) (M:0<n) (Q:n≤4) (E:dS w b o n D A C):Calls Tryz.prog 40 #[.slice (some ⟨b,o,none⟩) n c] w fun e w'=>(∃ g d,e=.returned (.slice (some ⟨g,0,none⟩) n d)∧w.heap.size≤g∧n≤d∧io w' g n (lY D A C))∧Bl w w':=by
 have S:∀ (w:World) (a:Option Addr) (n c n' d:Nat),(binOp .eql 22 (.slice a n c) (.slice none n' d)).run Tryz.prog w=.ok (.bool a.isNone) w:=fun w a n c n' d=>Lib.run_eql_slice_nil w _ _ a n c n' d Tryz.underlying22
 obtain ⟨i0,s,t,x,y⟩:=info_parts Tryz.infoDimH;have z:Hid (∀ j u,(rowF (lY D A C) (n*3))[j]?=some u→w.cell? ((⟨b,o,none⟩:Addr).add j)=some u):=fun j u l=>by
  obtain ⟨p,rfl⟩:=AS l;rw [aK];exact E.dc p
 have B:Hid (∀ (w':World) (v:Value),w'.ownsRow w.heap.size 70 3 v n (rowF (lY D A C) (n*3))→∃ g d,v=.slice (some ⟨g,0,none⟩) n d∧w.heap.size≤g∧n≤d∧io w' g n (lY D A C)):=fun w' v h=>by
  rcases h.2 with ⟨rfl,N⟩ | ⟨g,cap,r,rfl,K,q,I,O,P,J⟩
  ·omega
  refine ⟨g,cap,rfl,K,I,r,q,fun j l=>?_⟩
  have:=vz (lY D A C) l;rw [←J,List.getElem?_take,if_pos (by omega),Array.getElem?_toList] at this
  exact this
 have F:(rowF (lY D A C) (n*3)).length=n*3:=pJ _ _;have p:=GW D A C (n*3);generalize rowF (lY D A C) (n*3)=R at z B F p;clear E
 go_enter Tryz.func40,Tryz.ntmps40
 go_wp2_with (at_builtin;refine wpList_append_own _ rfl _ _ 22 rfl w.heap.size 70 i0 (.agg #[.string ⟨#[]⟩,.int .i64 0,.slice none 0 0]) 3 48 Tryz.underlying22 s t x y rfl (by decide) _ _ _ rfl (World.ownsRow_made w #[] 0 (zT) (zU) (by simp)) ⟨b,o,none⟩ n c R rfl ?qc1 ?qc2 ?qc3 ?qc4 ?qc5 ?qc6 ?_)
 case qc1=>exact F
 case qc2=>exact fun j u l=>Lib.cell?_alloc_some _ (z.out j u l)
 case qc3=>exact p
 case qc4=>simp only [maxLen];omega
 case qc5=>omega
 case qc6=>simp
 intro v' w1 i f m;obtain ⟨g,d,rfl,q⟩:=B.out _ _ (by simpa using i)
 have H:=aa q;have G:Hid (Bl w w1):=((Below.refl _ w).alloc (zT) _).grown f (by simp) (by intro k L;simp [Value.ownBlock] at L;omega)
 clear i f m q;go_wp2_with fail;go_ret;exact ⟨⟨g,d,rfl,H.out⟩,G.out⟩
def jW (w:World) (N g n:Nat) (D:Nat→Dm) (G C:Nat→Nat):Prop:=N≤g∧io w g n (lY D (fun i=>some ⟨G i,0,none⟩) C)∧∀ i,i<n→N≤G i∧(D i).n≤C i∧jh w (G i) (D i).n (D i).mem
theorem jW.dims {w:World} {N g n:Nat} {D:Nat→Dm} {G C:Nat→Nat} (h:jW w N g n D G C):dS w g 0 n D (fun i=>some ⟨G i,0,none⟩) C:=by
 refine ⟨h.2.1.lt,fun i c=>?_⟩
 have e:∀ k,k<3→w.cell? ⟨g,0+i*3+k,none⟩=some (lY D (fun i=>some ⟨G i,0,none⟩) C (i*3+k)):=fun k d=>by
  rw [Nat.zero_add];exact h.2.1.cell (by omega)
 obtain ⟨-,a,b⟩:=h.2.2 i c;refine ⟨(e 0 (by omega)).trans ?_,(e 1 (by omega)).trans ?_,(e 2 (by omega)).trans ?_,a,Or.inr ⟨G i,0,rfl,b.mems⟩⟩
 ·unfold lY;rw [if_pos (by omega),show (i*3+0) / 3=i by omega]
 ·unfold lY;rw [if_neg (by omega),if_pos (by omega),show (i*3+1) / 3=i by omega]
 unfold lY;rw [if_neg (by omega),if_neg (by omega),show (i*3+2) / 3=i by omega]
def Bg (w wr:World) (g k n:Nat) (D:Nat→Dm) (A:Nat→Option Addr) (C:Nat→Nat):Prop := ∃ G C':Nat→Nat,w.heap.size≤g∧io wr g n (lY D (fun i=>if i<k then some ⟨G i,0,none⟩ else A i) (fun i=>if i<k then C' i else C i))∧∀ i,i<k→w.heap.size≤G i∧(D i).n≤C' i∧jh wr (G i) (D i).n (D i).mem
theorem Bg.later {w wr w':World} {g k n:Nat} {D:Nat→Dm} {A:Nat→Option Addr} {C:Nat→Nat} (h:Bg w wr g k n D A C) (c:Bl wr w'):Bg w w' g k n D A C:=by
 obtain ⟨G,C',d,e,a⟩:=h;exact ⟨G,C',d,e.later c,fun i b=>⟨(a i b).1,(a i b).2.1,(a i b).2.2.same (c.block _ (a i b).2.2.lt)⟩⟩
theorem Bg.put {w wr:World} {g k n gm f:Nat} {D:Nat→Dm} {A:Nat→Option Addr} {C:Nat→Nat} (h:Bg w wr g k n D A C) (I:k<n) (v:w.heap.size≤gm) (u:(D k).n≤f) (z:jh wr gm (D k).n (D k).mem):Bg w (wr.setCell ⟨g,k*3+2,none⟩ (.slice (some ⟨gm,0,none⟩) (D k).n f)) g (k+1) n D A C:=by
 obtain ⟨G,C',s,p,t⟩:=h;have c:∀ x (M:Nat→Mem) m,jh wr x m M→jh (wr.setCell ⟨g,k*3+2,none⟩ (.slice (some ⟨gm,0,none⟩) (D k).n f)) x m M:=fun x M m q=>q.same (av _ _ _ _ _ fun e=>by
  obtain ⟨c1,F,b,-⟩:=q;obtain ⟨c2,r,-⟩:=p;rw [e,r] at b;simp only [Option.some.injEq,Obj.cells.injEq] at b;exact absurd b.2.1 (by decide))
 refine ⟨fun i=>if i=k then gm else G i,fun i=>if i=k then f else C' i,s,?_,fun i H=>?_⟩
 ·have:=p.set (x:=k*3+2) (by omega) (.slice (some ⟨gm,0,none⟩) (D k).n f)
  obtain ⟨o,B,E⟩:=this;refine ⟨o,B,fun j y=>(E j y).trans ?_⟩
  congr 1
  dsimp only
  by_cases e:j=k*3+2
  ·subst e
   rw [if_pos rfl];unfold lY
   dsimp only
   rw [if_neg (by omega),if_neg (by omega),show (k*3+2) / 3=k by omega]
   simp
  rw [if_neg e];unfold lY
  dsimp only
  by_cases d:j % 3=0
  ·rw [if_pos d,if_pos d]
  by_cases b:j % 3=1
  ·rw [if_neg d,if_neg d,if_pos b,if_pos b]
  have l:j / 3≠k:=by omega
  rw [if_neg d,if_neg d,if_neg b,if_neg b,if_neg l,if_neg l]
  by_cases a:j / 3<k
  ·rw [if_pos a,if_pos a,if_pos (by omega),if_pos (by omega)]
  rw [if_neg a,if_neg a,if_neg (by omega),if_neg (by omega)]
 dsimp only
 by_cases e:i=k
 ·subst e
  rw [if_pos rfl,if_pos rfl];exact ⟨v,u,c _ _ _ z⟩
 rw [if_neg e,if_neg e];obtain ⟨a1,a2,a3⟩:=t i (by omega)
 exact ⟨a1,a2,c _ _ _ a3⟩
theorem Bg.all {w wr:World} {g n:Nat} {D:Nat→Dm} {A:Nat→Option Addr} {C:Nat→Nat} (h:Bg w wr g n n D A C):∃ G C',jW wr w.heap.size g n D G C':=by
 obtain ⟨G,C',b,⟨a,e,f⟩,c⟩:=h;refine ⟨G,C',b,⟨a,e,fun j d=>(f j d).trans ?_⟩,c⟩
 congr 1
 unfold lY
 dsimp only
 rw [if_pos (by omega:j / 3<n),if_pos (by omega:j / 3<n)]
theorem Iw (x y:Int):x.tdiv y=if (decide (x<0) != decide (y<0))=true then -(ab x / ab y) else ab x / ab y:=by
 unfold ab
 by_cases a:x<0 <;> by_cases h:y<0
 ·rw [if_neg (by simp [a,h]),if_pos a,if_pos h]
  rw [←Int.tdiv_eq_ediv_of_nonneg (by omega),Int.neg_tdiv,Int.tdiv_neg,Int.neg_neg]
 ·rw [if_pos (by simp [a,h]),if_pos a,if_neg h]
  rw [←Int.tdiv_eq_ediv_of_nonneg (by omega),Int.neg_tdiv,Int.neg_neg]
 ·rw [if_pos (by simp [a,h]),if_neg a,if_pos h]
  rw [←Int.tdiv_eq_ediv_of_nonneg (by omega),Int.tdiv_neg,Int.neg_neg]
 rw [if_neg (by simp [a,h]),if_neg a,if_neg h]
 rw [←Int.tdiv_eq_ediv_of_nonneg (by omega)]
theorem yv (ka na kb:Int) (w:World) (a:(ka == 2)=false) (b:(kb == 2)=false) (c:(ka == 0)=false) (d:(kb == 0)=false) :
  Rt 106 #[.agg #[.int .i64 ka,.int .i64 na],.agg #[.int .i64 kb,.int .i64 0]] w (.agg #[.int .i64 2,.int .i64 0]):=by
 go_enter Tryz.func106,Tryz.ntmps106
 go_wp2;go_returns;exact ⟨rfl,by go_grown⟩
theorem yu (ka na kb nb:Int) (w:World) (q:(ka == 2)=false) (r:(kb == 2)=false) (s:(ka == 0)=false) (t:(kb == 0)=false) (a1 : -1000000000000≤na) (a2:na≤1000000000000) (b1 : -1000000000000≤nb) (b2:nb≤1000000000000) (p:(nb == 0)=false) (o : ¬ nb=0) :
  Rt 106 #[.agg #[.int .i64 ka,.int .i64 na],.agg #[.int .i64 kb,.int .i64 nb]] w (.agg #[.int .i64 (eE (na.tdiv nb)).1,.int .i64 (eE (na.tdiv nb)).2]):=by
 obtain ⟨ax0,ax1⟩:=nX a1 a2;obtain ⟨_,ay1⟩:=nX b1 b2;have j:=vY o;have c:=jM na;have d:=jM nb;have m:0≤ab na / ab nb:=Int.ediv_nonneg ax0 (by omega)
 have n:ab na / ab nb≤1000000000000:=Int.le_trans (Int.ediv_le_self _ ax0) ax1;rw [Iw]
 by_cases a:(decide (na<0) != decide (nb<0))=true
 ·rw [if_pos a]
  have h:(decide (na<0) == decide (nb<0))=false:=by simpa using a
  clear a;have g:=jK (-(ab na / ab nb))
  go_enter Tryz.func106,Tryz.ntmps106
  go_wp2_with fail
  go_quiet (first | (go_at_call_of 136 na;exact Calls.quiet_of_same (c _ a1 a2)) | (go_at_call_of 136 nb;exact Calls.quiet_of_same (d _ b1 b2)))
  go_wp2_with fail;refine (g _).mono ?_;rintro e w1 ⟨rfl,b⟩;have k:Bl w w1:=Below.trans (ac (by go_grown) _) (b.mono (by show _≤(World.alloc _ _).heap.size;simp;omega))
  obtain ⟨f,l⟩:=dj b;have i:=dk b
  simp at i
  go_wp2_with fail;refine bodyPost_ret (v:=.agg #[.int .i64 (eE (-(ab na / ab nb))).1,.int .i64 (eE (-(ab na / ab nb))).2]) (by simp [results,Tryz.results106,go_sem,f]) rfl ⟨rfl,?_⟩
  go_grown
 rw [if_neg a];have h:(decide (na<0) == decide (nb<0))=true:=by simpa using a
 clear a;have g:=jK (ab na / ab nb)
 go_enter Tryz.func106,Tryz.ntmps106
 go_wp2_with fail
 go_quiet (first | (go_at_call_of 136 na;exact Calls.quiet_of_same (c _ a1 a2)) | (go_at_call_of 136 nb;exact Calls.quiet_of_same (d _ b1 b2)))
 go_wp2_with fail;refine (g _).mono ?_;rintro e w1 ⟨rfl,b⟩;have k:Bl w w1:=Below.trans (ac (by go_grown) _) (b.mono (by show _≤(World.alloc _ _).heap.size;simp;omega))
 obtain ⟨f,l⟩:=dj b;have i:=dk b
 simp at i
 go_wp2_with fail;refine bodyPost_ret (v:=.agg #[.int .i64 (eE (ab na / ab nb)).1,.int .i64 (eE (ab na / ab nb)).2]) (by simp [results,Tryz.results106,go_sem,f]) rfl ⟨rfl,?_⟩
 go_grown
theorem Db (ka na kb nb:Int) (d:good ka na=true) (e:good kb nb=true):jc 106 #[.agg #[.int .i64 ka,.int .i64 na],.agg #[.int .i64 kb,.int .i64 nb]] (uX ka na kb nb):=by
 obtain ⟨a1,a2⟩:=cB d;obtain ⟨b1,b2⟩:=cB e;intro w;unfold uX gA
 by_cases b:ka=2∨kb=2
 ·rw [if_pos b]
  exact vw ka na kb nb w b
 rw [if_neg b]
 by_cases c:ka=0∨kb=0
 ·rw [if_pos (by simp;omega)]
  exact vv ka na kb nb w (gr (by omega)) (gr (by omega)) c
 rw [if_neg (by simp;omega)]
 unfold CM
 by_cases a:nb=0
 ·subst a
  rw [if_pos rfl];exact yv ka na kb w (gr (by omega)) (gr (by omega)) (kM (by omega)) (kM (by omega))
 rw [if_neg a];exact yu ka na kb nb w (gr (by omega)) (gr (by omega)) (kM (by omega)) (kM (by omega)) a1 a2 b1 b2 (kM a) a
theorem yx (d:Dm) (b o cap:Nat) (i:Int) (w:World) (Y:d.n≤12) (K:b7 w b o d.n d.mem):Calls Tryz.prog 64 #[.agg #[.string d.name,.int .i64 d.solve,.slice (some ⟨b,o,none⟩) d.n cap],.int .i64 i] w fun e w'=>(∃ A c,e=.returned (.slice A (bz d.mem d.n i).length c)∧bW w' A c (bz d.mem d.n i)∧∀ b o,A=some ⟨b,o,none⟩→w.heap.size≤b)∧Bl w w':=by
 obtain ⟨i0,y,F,G,H⟩:=info_parts Tryz.infoInt;have L:=bg w d (some ⟨b,o,none⟩) cap 70;have m:=aU w d (some ⟨b,o,none⟩) cap 70;have v:=(dN w d (some ⟨b,o,none⟩) cap 70).2.2;obtain ⟨W,x⟩:∃ W,W=aM w d (some ⟨b,o,none⟩) cap 70:=⟨_,rfl⟩;rw [←x] at L m v;have R:=aa x;have r:=aa m;have P:=aa (K.later m);have O:=aa v;have E:w.heap.size<W.heap.size:=by omega
 have V:(d.n:Int)≤12:=by omega
 obtain ⟨p,C⟩:∃ p:Nat→Bool,p=iG d.mem i:=⟨_,rfl⟩;have Q:=aa C;unfold bz;rw [←C];clear K x m v L C
 go_enter Tryz.func64,Tryz.ntmps64
 go_wp2_with fail
 go_loopg [5,6] d.n (fun g s5 s6 wr => ∃ (k:Nat),k≤d.n∧g=d.n-k∧s6=.int .i64 k∧wr.ownsRow W.heap.size 3 1 s5 (selTo p k).length (aF (selTo p k))∧Bl W wr)
 case atStart=>exact ⟨0,zU,rfl,rfl,World.ownsRow_nil _ _ _ _,by rw [R.out];exact zS⟩
 case round =>
  obtain ⟨k,X,rfl,rfl,a,f⟩:=hrel;have q:=aa f;have I:=aa a;have c2:wr.cell? ⟨w.heap.size,2,none⟩=some (.slice (some ⟨b,o,none⟩) d.n cap):=aD f E O.out;have N:=f.size
  by_cases B:k<d.n
  ·have U:(k:Int)<(d.n:Int):=by omega
   obtain ⟨-,J,-,-⟩:=(P.out.later f).2 k B;have M:=cF p k;have h:p k=((d.mem k).parent == i):=by rw [Q.out];rfl
   clear f;cases hb:p k
   ·have t:=aa hb
    rw [hb] at h;have D:((d.mem k).parent == i)=false:=h.symm;clear hb h a;go_wp2_with fail
    go_roundg (d.n-(k+1))
    case measure=>omega
    case rel=>exact ⟨k+1,by omega,rfl,by go_num,by rw [gF t.out];exact I.out,q.out⟩
   have t:=aa hb;rw [hb] at h;have D:((d.mem k).parent == i)=true:=h.symm;clear hb h
   go_wp2_with (at_builtin;refine wpList_append_own _ rfl _ _ 26 rfl W.heap.size 3 i0 (.int .i64 0) 1 8 Tryz.underlying26 y F G H rfl (by decide) _ _ _ rfl (a.alloc _) ⟨wr.heap.size,0,none⟩ 1 1 [.int .i64 k] rfl rfl bw dF (by unfold maxLen;omega) (by omega) (by simp;omega) ?_)
   intro v' w2 l j _;have s:Hid (Bl W w2):=bB q.out a j;have u:Hid (w2.ownsRow W.heap.size 3 1 v' (selTo p (k+1)).length (aF (selTo p (k+1)))):=by
    show World.ownsRow ..
    rw [jN t.out,mapI_snoc,List.length_append];exact l
   clear l j a c2;go_wp2_with fail
   go_roundg (d.n-(k+1))
   case measure=>omega
   case rel=>exact ⟨k+1,by omega,rfl,by go_num,u.out,s.out⟩
  have z:k=d.n:=by omega
  subst z;clear f a;go_wp2_with fail;go_ret;obtain ⟨A,c,J,S,T⟩:=EW I.out;exact ⟨⟨A,c,by rw [←J];rfl,S,fun b o e=>zV r.out.size (T b o e)⟩,ae r.out q.out⟩
end Go.Proofs.YtompdcaikmekkaaGreatDoor
