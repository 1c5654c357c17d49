/- A block of so many val -/
import Derived.OneCell
import Derived.LaidEql
import Derived.Stop.Asserts
import Derived.RowKitTokens
import Derived.Deep.RegionWith
import Derived.Test.YtjfampgnhccodaaGreatDoorJTAO
import Derived.Test.YtjfampgnhccodaaGreatDoorJTAP
namespace Go.Proofs.YtjfampgnhccodaaGreatDoor
open Tryz ChangeShapes WideShapes ChangeAt RowKit Lib
set_option maxRecDepth 99999
set_option maxHeartbeats 0
def eQ(w:World)(g n T:Nat)(f:Nat->Value):Prop:=w.heap[g]?=some (.cells ((List.range n).map f).toArray T (0,0))
theorem eQ.lt{w:World}{g n T:Nat}{f:Nat->Value}(h:eQ w g n T f):g<w.heap.size:=(zY h).1
theorem eQ.cell{w:World}{g n T:Nat}{f:Nat->Value}(h:eQ w g n T f){j:Nat}(a:j<n):w.cell? ⟨g,j,none⟩=some (f j):=by
 rw[Lib.cell_of_heap h]
 simp[a]
theorem eQ.frozen{w:World}{g n T:Nat}{f:Nat->Value}(h:eQ w g n T f)(j:Nat):w.frozen? ⟨g,j,none⟩=false:=Lib.frozen_of_heap h j
theorem eQ.same{w w':World}{g n T:Nat}{f:Nat->Value}(h:eQ w g n T f)(a:w'.heap[g]?=w.heap[g]?):eQ w' g n T f:=a.trans h
theorem eQ.set{w:World}{g n T:Nat}{f f':Nat->Value}{v:Value}(h:eQ w g n T f){m:Nat}(b:∀j,j<n->f' j=if j=m then v else f j):eQ (w.setCell ⟨g,m,none⟩ v) g n T f':=by
 unfold eQ at *;simp only[World.setCell,Array.getElem?_modify,if_true,h,Option.map_some,Option.some.injEq,Obj.cells.injEq,and_true,Option.isSome_none,Bool.false_eq_true,if_false];apply Array.ext_getElem?;intro j;rw[Array.getElem?_setIfInBounds]
 by_cases a:j<n
 ·by_cases e:m=j
  ·rw[if_pos e,if_pos (by simp;omega)]
   simp[a,b j a,e]
  have c:j≠m:=fun x=>e x.symm
  rw[if_neg e];simp only[List.getElem?_toArray,List.getElem?_map,List.getElem?_range a,Option.map_some,b j a,if_neg c]
 by_cases e:m=j
 ·rw[if_pos e,if_neg (by simp;omega),Array.getElem?_eq_none (by simp;omega)]
 rw[if_neg e,Array.getElem?_eq_none (by simp;omega),Array.getElem?_eq_none (by simp;omega)]
theorem eQ.made(w:World)(n T:Nat)(z:Value):eQ (w.alloc (.cells (madeCells #[z] n) T)) w.heap.size n T fun _=>z:=by
 unfold eQ;have e:madeCells #[z] n=((List.range n).map fun _=>z).toArray:=by
  apply Array.ext
  ·simp[madeCells]
  intro i a b
  simp[madeCells,Nat.mod_one]
 rw[e];exact heap_alloc_new w _
theorem eQ.off{w:World}{g n T b:Nat}{f:Nat->Value}{cs:Array Value}{t:Nat}{fr:Nat×Nat}(h:eQ w g n T f)(a:w.heap[b]?=some (.cells cs t fr))(c:t≠T):b≠g:=fun e=>by
 rw[e,h]at a;simp only[Option.some.injEq,Obj.cells.injEq]at a;exact c a.2.1.symm
theorem g9:(3:Nat)≠42:=by decide
theorem iN{w w':World}{base e aa n:Nat}{v:Value}{xs:List Value}{r:Option Nat}(h:w.ownsRow base e aa v n xs)(a:w.grownBy w' r)(c:∀b,v.ownBlock=some b->r≠some b):w'.ownsRow base e aa v n xs:=by
 refine⟨h.1,?_⟩
 rcases h.2 with h0|⟨g,cap,ab,rfl,h2,h3,h4⟩
 ·exact Or.inl h0
 exact Or.inr ⟨g,cap,ab,rfl,h2,(a.block g (zY h3).1 (fun e=>c g rfl e.symm)).trans h3,h4⟩
theorem aO{w:World}{base e size n b:Nat}{v:Value}{xs:List Value}(h:w.ownsRow base e size v n xs)(d:v.ownBlock=some b):base<=b/\b<w.heap.size/\∃a,w.heap[b]?=some (.cells a e (0,0)):=by
 rcases h.2 with⟨rfl,-⟩|⟨g,cap,a,rfl,f,c,i⟩
 ·cases d
 cases d;exact⟨f,(zY c).1,a,c⟩
theorem dx{w:World}{base e aa n g j:Nat}{v x:Value}{xs:List Value}(h:w.ownsRow base e aa v n xs)(a:v.ownBlock≠some g):(w.setCell ⟨g,j,none⟩ x).ownsRow base e aa v n xs:=by
 refine⟨h.1,?_⟩
 rcases h.2 with h0|⟨g',cap,ab,rfl,h2,h3,h4⟩
 ·exact Or.inl h0
 exact Or.inr ⟨g',cap,ab,rfl,h2,by rw[ae _ _ _ _ _ (fun e=>a (by rw[←e];rfl))];exact h3,h4⟩
theorem aJ.one{w w':World}{A:Option Addr}{c:Nat}{L:List Int}(h:aJ w A c L)(l:∀a,A=some a->w'.heap[a.block]?=w.heap[a.block]?):aJ w' A c L:=by
 obtain⟨f,d,g|⟨b,cs,fr,rfl,i,k⟩⟩:=h
 ·exact⟨f,d,Or.inl g⟩
 have e:=l _ rfl;exact⟨f,d,Or.inr ⟨b,cs,fr,rfl,e.trans i,fun j m=>(World.cell?_of_block (a:=⟨b,j,none⟩) e).trans (k j m)⟩⟩
theorem eC{w:World}{B e T aa:Nat}{v:Value}{n:Nat}{xs:List Value}{b:Nat}{cs:Array Value}{fr:Nat×Nat}(a:w.ownsRow B e aa v n xs)(d:w.heap[b]?=some (.cells cs T fr))(c:T≠e):v.ownBlock≠some b:=by
 rcases a.2 with⟨rfl,_⟩|⟨g,cap,f,rfl,_,i,_⟩
 ·simp[Value.ownBlock]
 intro h;simp only[Value.ownBlock,Option.some.injEq]at h;subst h;rw[i]at d;simp only[Option.some.injEq,Obj.cells.injEq]at d;exact c d.2.1.symm
theorem nw{w w':World}{base e aa:Nat}{v:Value}{n:Nat}{xs:List Value}(h:w.ownsRow base e aa v n xs)(a:Bl w w'):w'.ownsRow base e aa v n xs:=by
 refine⟨h.1,?_⟩
 rcases h.2 with h0|⟨g,cap,ab,rfl,hb,hg,h1⟩
 ·exact Or.inl h0
 exact Or.inr ⟨g,cap,ab,rfl,hb,(a.block g (zY hg).1).trans hg,h1⟩
theorem mx(M:Nat->Mem)(n:Nat):rowF (qA M) (n*4)=cellsMb M n:=by
 refine List.ext_getElem? fun j=>?_
 by_cases a:j<n*4
 ·rw[iS _ a]
  obtain⟨b,c,d,e⟩:=cF M n (j / 4) ω
  unfold qA
  split
  ·rw[show(cellsMb M n)[j]?=(cellsMb M n)[j / 4*4]? from congrArg (fun t=>(cellsMb M n)[t]?) ω];exact b.symm
  split
  ·rw[show(cellsMb M n)[j]?=(cellsMb M n)[j / 4*4+1]? from congrArg (fun t=>(cellsMb M n)[t]?) ω];exact c.symm
  split
  ·rw[show(cellsMb M n)[j]?=(cellsMb M n)[j / 4*4+2]? from congrArg (fun t=>(cellsMb M n)[t]?) ω];exact d.symm
  rw[show(cellsMb M n)[j]?=(cellsMb M n)[j / 4*4+3]? from congrArg (fun t=>(cellsMb M n)[t]?) ω];exact e.symm
 rw[List.getElem?_eq_none (by rw[fR];omega),List.getElem?_eq_none (by rw[cQ];omega)]
theorem DI(D:Nat->Dm)(A:Nat->Option Addr)(C:Nat->Nat)(n:Nat):rowF (yZ D A C) (n*3)=cellsDo D A C n:=by
 refine List.ext_getElem? fun j=>?_
 by_cases a:j<n*3
 ·rw[iS _ a]
  obtain⟨b,c,d⟩:=du D A C n (j / 3) ω
  unfold yZ
  split
  ·rw[show(cellsDo D A C n)[j]?=(cellsDo D A C n)[j / 3*3]? from congrArg (fun t=>(cellsDo D A C n)[t]?) ω];exact b.symm
  split
  ·rw[show(cellsDo D A C n)[j]?=(cellsDo D A C n)[j / 3*3+1]? from congrArg (fun t=>(cellsDo D A C n)[t]?) ω];exact c.symm
  rw[show(cellsDo D A C n)[j]?=(cellsDo D A C n)[j / 3*3+2]? from congrArg (fun t=>(cellsDo D A C n)[t]?) ω];exact d.symm
 rw[List.getElem?_eq_none (by rw[fR];omega),List.getElem?_eq_none (by rw[cellsDo_len];omega)]
theorem Bc(b o c n:Nat)(M:Nat->Mem)(w:World)(G:0<n)(I:n<=12)(z:cI w b o n M):Calls prog 49 #[.slice (some ⟨b,o,none⟩) n c] w fun e w'=>(∃g d,e=.returned (.slice (some ⟨g,0,none⟩) n d)/\w'.ownsRow w.heap.size 64 4 (.slice (some ⟨g,0,none⟩) n d) n (cellsMb M n))/\Bl w w':=by
 have J:∀(w:World) (a:Option Addr) (n c n' d:Nat),(binOp .eql 65 (.slice a n c) (.slice none n' d)).run prog w=.ok (.bool a.isNone) w:=fun w a n c n' d=>Lib.run_eql_slice_nil w _ _ a n c n' d underlying65
 obtain⟨i0,p,r,s,t⟩:=info_parts infoMemH;have x:Hid (∀j u,(rowF (qA M) (n*4))[j]?=some u->w.cell? ((⟨b,o,none⟩:Addr).add j)=some u):=fun j u q=>by
  obtain⟨m,rfl⟩:=DH q;rw[aW];exact z.mc m
 have y:Hid (∀(w':World) (v:Value),w'.ownsRow w.heap.size 64 4 v n (rowF (qA M) (n*4))->∃g d,v=.slice (some ⟨g,0,none⟩) n d/\w'.ownsRow w.heap.size 64 4 (.slice (some ⟨g,0,none⟩) n d) n (cellsMb M n)):=fun w' v h=>by
  rw[mx]at h
  rcases h.2 with⟨rfl,H⟩|⟨g,cap,E,rfl,_⟩
  ·omega
  exact⟨g,cap,rfl,h⟩
 have B:(rowF (qA M) (n*4)).length=n*4:=fR _ _;have m:=Dq M (n*4);generalize rowF (qA M) (n*4)=R at x y B m;clear z
 go_enter func49,ntmps49
 go_wp2_with (at_builtin;refine wpList_append_own _ rfl _ _ 65 rfl w.heap.size 64 i0 (.agg #[.string ⟨#[]⟩,.int .i64 0,.int .i64 0,.string ⟨#[]⟩]) 4 48 underlying65 p r s t rfl (by decide) _ _ _ rfl (World.ownsRow_made w #[] 0 zT zU σ) ⟨b,o,none⟩ n c R rfl ?qc1 ?qc2 ?qc3 ?qc4 ?qc5 ?qc6 ?_)
 case qc1=>exact B
 case qc2=>exact fun j u q=>Lib.cell?_alloc_some _ (x.o j u q)
 case qc3=>exact m
 case qc4=>simp only[maxLen];omega
 case qc5=>omega
 case qc6=>simp
 intro v' w1 i f l;obtain⟨g,d,rfl,A⟩:=y.out _ _ (by simpa using i)
 have D:=aa A;have C:Hid (Bl w w1):=((Below.refl _ w).alloc zT _).grown f σ (by intro k F;simp[Value.ownBlock]at F;omega)
 clear i f l A;go_wp2_with fail;go_ret;exact⟨⟨g,d,rfl,D.o⟩,C.o⟩
theorem zq(b o c n:Nat)(D:Nat->Dm)(A:Nat->Option Addr)(C:Nat->Nat)(w:World)(J:0<n)(L:n<=4)(z:eh w b o n D A C):Calls prog 47 #[.slice (some ⟨b,o,none⟩) n c] w fun e w'=>(∃g d,e=.returned (.slice (some ⟨g,0,none⟩) n d)/\w'.ownsRow w.heap.size 67 3 (.slice (some ⟨g,0,none⟩) n d) n (cellsDo D A C n))/\Bl w w':=by
 have M:∀(w:World) (a:Option Addr) (n c n' d:Nat),(binOp .eql 22 (.slice a n c) (.slice none n' d)).run prog w=.ok (.bool a.isNone) w:=fun w a n c n' d=>Lib.run_eql_slice_nil w _ _ a n c n' d underlying22
 obtain⟨i0,p,r,s,t⟩:=info_parts infoDimH;have x:Hid (∀j u,(rowF (yZ D A C) (n*3))[j]?=some u->w.cell? ((⟨b,o,none⟩:Addr).add j)=some u):=fun j u q=>by
  obtain⟨m,rfl⟩:=DH q;rw[aW];exact z.dc m
 have y:Hid (∀(w':World) (v:Value),w'.ownsRow w.heap.size 67 3 v n (rowF (yZ D A C) (n*3))->∃g d,v=.slice (some ⟨g,0,none⟩) n d/\w'.ownsRow w.heap.size 67 3 (.slice (some ⟨g,0,none⟩) n d) n (cellsDo D A C n)):=fun w' v h=>by
  rw[DI]at h
  rcases h.2 with⟨rfl,K⟩|⟨g,cap,H,rfl,_⟩
  ·omega
  exact⟨g,cap,rfl,h⟩
 have E:(rowF (yZ D A C) (n*3)).length=n*3:=fR _ _;have m:=La D A C (n*3);generalize rowF (yZ D A C) (n*3)=R at x y E m;clear z
 go_enter func47,ntmps47
 go_wp2_with (at_builtin;refine wpList_append_own _ rfl _ _ 22 rfl w.heap.size 67 i0 (.agg #[.string ⟨#[]⟩,.int .i64 0,.slice none 0 0]) 3 48 underlying22 p r s t rfl (by decide) _ _ _ rfl (World.ownsRow_made w #[] 0 zT zU σ) ⟨b,o,none⟩ n c R rfl ?qc1 ?qc2 ?qc3 ?qc4 ?qc5 ?qc6 ?_)
 case qc1=>exact E
 case qc2=>exact fun j u q=>Lib.cell?_alloc_some _ (x.o j u q)
 case qc3=>exact m
 case qc4=>simp only[maxLen];omega
 case qc5=>omega
 case qc6=>simp
 intro v' w1 i f l;obtain⟨g,d,rfl,B⟩:=y.out _ _ (by simpa using i)
 have G:=aa B;have F:Hid (Bl w w1):=((Below.refl _ w).alloc zT _).grown f σ (by intro k I;simp[Value.ownBlock]at I;omega)
 clear i f l B;go_wp2_with fail;go_ret;exact⟨⟨g,d,rfl,G.o⟩,F.o⟩
/-! rows of a call's own: what stays, what is stored -/
theorem px{w w':World}{B e aa n:Nat}{v:Value}{xs:List Value}(h:w.ownsRow B e aa v n xs)(a:∀b cs,B<=b->w.heap[b]?=some (.cells cs e (0,0))->w'.heap[b]?=w.heap[b]?):w'.ownsRow B e aa v n xs:=by
 refine⟨h.1,?_⟩
 rcases h.2 with h4|⟨g,cap,ab,h4,hb,hg,h5⟩
 ·exact Or.inl h4
 exact Or.inr ⟨g,cap,ab,h4,hb,(a g ab hb hg).trans hg,h5⟩
theorem ko{w:World}{B B' e aa n:Nat}{v:Value}{xs:List Value}(h:w.ownsRow B e aa v n xs)(a:B'<=B):w.ownsRow B' e aa v n xs:=by
 refine⟨h.1,?_⟩
 rcases h.2 with h4|⟨g,cap,ab,h4,hb,hg,h5⟩
 ·exact Or.inl h4
 exact Or.inr ⟨g,cap,ab,h4,zV a hb,hg,h5⟩
theorem uQ{w:World}{B e aa n g cap j:Nat}{xs:List Value}{u:Value}(h:w.ownsRow B e aa (.slice (some ⟨g,0,none⟩) n cap) n xs)(a:xs[j]?=some u):(w.setCell ⟨g,j,none⟩ u).ownsRow B e aa (.slice (some ⟨g,0,none⟩) n cap) n xs:=by
 have b:=(h.stored j u).1
 rwa [show xs.set j u=xs from by
  refine List.ext_getElem? fun k=>?_
  rw[List.getElem?_set]
  split
  ·rename_i e;subst e;rw[a];simp[(List.getElem?_eq_some_iff.1 a).1]
  rfl]at b
theorem jW{w:World}{B e aa n g j:Nat}{v u:Value}{xs:List Value}(h:w.ownsRow B e aa v n xs)(a:v.ownBlock≠some g):(w.setCell ⟨g,j,none⟩ u).ownsRow B e aa v n xs:=by
 refine⟨h.1,?_⟩
 rcases h.2 with h4|⟨g',cap,ab,rfl,hb,hg,h5⟩
 ·exact Or.inl h4
 exact Or.inr ⟨g',cap,ab,rfl,hb,(ae _ _ _ _ _ fun e=>a (by rw[e];rfl)).trans hg,h5⟩
theorem aG{w:World}{B e size n g cap:Nat}{xs:List Value}(h:w.ownsRow B e size (.slice (some ⟨g,0,none⟩) n cap) n xs):B<=g/\g<w.heap.size/\n<=cap/\cap<=maxLen/\∃a,w.heap[g]?=some (.cells a e (0,0)):=by
 rcases h.2 with⟨b,_⟩|⟨g',f,a,b,j,i,d,c,_⟩
 ·cases b
 cases b;exact⟨j,(zY i).1,d,c,a,i⟩
theorem Mb{w:World}{B n g cap:Nat}{M:Nat->Mem}(h:w.ownsRow B 64 4 (.slice (some ⟨g,0,none⟩) n cap) n (cellsMb M n)):cI w g 0 n M:=by
 refine⟨(aG h).2.1,fun i a=>?_⟩
 obtain⟨b,c,d,e⟩:=cF M n i a;refine⟨?_,?_,?_,?_⟩
 ·rw[Nat.zero_add,h.cellAt _ ω];exact b
 ·rw[Nat.zero_add,h.cellAt _ ω];exact c
 ·rw[Nat.zero_add,h.cellAt _ ω];exact d
 rw[Nat.zero_add,h.cellAt _ ω];exact e
structure OwD(w:World)(B g cd n:Nat)(D:Nat->Dm)(G C:Nat->Nat):Prop where
 dims:w.ownsRow B 67 3 (.slice (some ⟨g,0,none⟩) n cd) n (cellsDo D (fun i=>some ⟨G i,0,none⟩) C n)
 mems:∀i,i<n->w.ownsRow B 64 4 (.slice (some ⟨G i,0,none⟩) (D i).n (C i)) (D i).n (cellsMb (D i).mem (D i).n)
 apart:∀i j,i<n->j<n->i≠j->G i≠G j
theorem OwD.keep{w w':World}{B g cd n:Nat}{D:Nat->Dm}{G C:Nat->Nat}(h:OwD w B g cd n D G C)(d:∀b cs e,B<=b->w.heap[b]?=some (.cells cs e (0,0))->e=67\/e=64->w'.heap[b]?=w.heap[b]?):OwD w' B g cd n D G C :=
 ⟨px h.dims fun b cs a c=>d b cs _ a c (Or.inl rfl),fun i f=>px (h.mems i f) fun b cs a c=>d b cs _ a c (Or.inr rfl),h.apart⟩
theorem OwD.later{w w':World}{B g cd n:Nat}{D:Nat->Dm}{G C:Nat->Nat}(h:OwD w B g cd n D G C)(a:Bl w w'):OwD w' B g cd n D G C :=
 h.keep fun b _ _ _ c _=>a.block b (zY c).1
theorem OwD.toV{w:World}{B g cd n:Nat}{D:Nat->Dm}{G C:Nat->Nat}(h:OwD w B g cd n D G C):aL w (some ⟨g,0,none⟩) cd n D (fun i=>some ⟨G i,0,none⟩) C:=by
 obtain⟨A0,cap,e,c⟩:=wF h.dims fun j d=>by
  obtain⟨A1,c1,a,b⟩:=qB (h.mems j d);cases a;exact b
 cases e;exact c
def CQ(w wr:World)(g cg k n:Nat)(D:Nat->Dm)(A:Nat->Option Addr)(C:Nat->Nat):Prop := ∃G C':Nat->Nat,wr.ownsRow w.heap.size 67 3 (.slice (some ⟨g,0,none⟩) n cg) n (cellsDo D (fun i=>if i<k then some ⟨G i,0,none⟩else A i) (fun i=>if i<k then C' i else C i) n)/\(∀i,i<k->wr.ownsRow w.heap.size 64 4 (.slice (some ⟨G i,0,none⟩) (D i).n (C' i)) (D i).n (cellsMb (D i).mem (D i).n))/\∀i j,i<k->j<k->i≠j->G i≠G j
theorem CQ.later{w wr w':World}{g a k n:Nat}{D:Nat->Dm}{A:Nat->Option Addr}{C:Nat->Nat}(h:CQ w wr g a k n D A C)(b:Bl wr w'):CQ w w' g a k n D A C:=by
 obtain⟨G,C',c,d,e⟩:=h;exact⟨G,C',ak c b,fun i f=>ak (d i f) b,e⟩
theorem CQ.row{w wr:World}{g b k n:Nat}{D:Nat->Dm}{A:Nat->Option Addr}{C:Nat->Nat}(h:CQ w wr g b k n D A C)(d:k<n):w.heap.size<=g/\g<wr.heap.size/\n<=b/\wr.cell? ⟨g,k*3,none⟩=some (.string (D k).name)/\wr.cell? ⟨g,k*3+1,none⟩=some (.int .i64 (D k).solve)/\wr.cell? ⟨g,k*3+2,none⟩=some (.slice (A k) (D k).n (C k))/\∀j,wr.frozen? ⟨g,j,none⟩=false:=by
 obtain⟨G,C',a,-,-⟩:=h;obtain⟨b1,b2,b3,-,-⟩:=aG a;obtain⟨e,f,c⟩:=du D (fun i=>if i<k then some ⟨G i,0,none⟩else A i) (fun i=>if i<k then C' i else C i) n k d
 simp only[Nat.lt_irrefl,if_false]at c;exact⟨b1,b2,b3,by rw[a.cellAt _ ω];exact e,by rw[a.cellAt _ ω];exact f,by rw[a.cellAt _ ω];exact c,fun j=>a.frozenAt j⟩
theorem CQ.name{w wr:World}{g a k n:Nat}{D:Nat->Dm}{A:Nat->Option Addr}{C:Nat->Nat}(h:CQ w wr g a k n D A C)(l:k<n):CQ w (wr.setCell ⟨g,k*3,none⟩ (.string (D k).name)) g a k n D A C:=by
 obtain⟨G,C',b,c,f⟩:=h;obtain⟨-,-,-,-,e,j⟩:=aG b;exact⟨G,C',uQ b (du D _ _ n k l).1,fun i d=>jW (c i d) (eC (c i d) j (by decide)),f⟩
theorem CQ.put{w wy wr:World}{g o k n gm cm:Nat}{D:Nat->Dm}{A:Nat->Option Addr}{C:Nat->Nat}(h:CQ w wy g o k n D A C)(M:k<n)(t:Bl wy wr)(m:w.heap.size<=wy.heap.size)(f:wr.ownsRow wy.heap.size 64 4 (.slice (some ⟨gm,0,none⟩) (D k).n cm) (D k).n (cellsMb (D k).mem (D k).n)):CQ w (wr.setCell ⟨g,k*3+2,none⟩ (.slice (some ⟨gm,0,none⟩) (D k).n cm)) g o (k+1) n D A C:=by
 obtain⟨G,C',x,r,y⟩:=h;have q:=ak x t;obtain⟨-,-,-,-,v,u⟩:=aG q;have B:=(aG f).1;have b:∀i,i<k->G i<wy.heap.size:=fun i d=>(aG (r i d)).2.1
 refine⟨fun i=>if i=k then gm else G i,fun i=>if i=k then cm else C' i,?_,fun i d=>?_,fun i j d E l=>?_⟩
 ·have z:=(q.stored (k*3+2) (.slice (some ⟨gm,0,none⟩) (D k).n cm)).1
  rwa [show(cellsDo D (fun i=>if i<k then some ⟨G i,0,none⟩else A i) (fun i=>if i<k then C' i else C i) n).set (k*3+2) (.slice (some ⟨gm,0,none⟩) (D k).n cm)=cellsDo D (fun i=>if i<k+1 then some ⟨if i=k then gm else G i,0,none⟩else A i) (fun i=>if i<k+1 then(if i=k then cm else C' i)else C i) n from by
   refine List.ext_getElem? fun j=>?_
   rw[List.getElem?_set]
   by_cases E:j<n*3
   ·obtain⟨F,H,I⟩:=du D (fun i=>if i<k then some ⟨G i,0,none⟩else A i) (fun i=>if i<k then C' i else C i) n (j / 3) ω
    obtain⟨J,K,L⟩:=du D (fun i=>if i<k+1 then some ⟨if i=k then gm else G i,0,none⟩else A i) (fun i=>if i<k+1 then(if i=k then cm else C' i)else C i) n (j / 3) ω
    rcases(by omega:j % 3=0\/j % 3=1\/j % 3=2)with e|e|e
    ·rw[if_neg ω,show j=j / 3*3 by omega,F,J]
    ·rw[if_neg ω,show j=j / 3*3+1 by omega,H,K]
    rw[show j=j / 3*3+2 by omega,I,L]
    by_cases a:j / 3=k
    ·rw[if_pos ω,if_pos (by rw[cellsDo_len];omega),if_pos ω,if_pos a,if_pos ω,if_pos a,a]
    rw[if_neg ω,if_neg a,if_neg a]
    by_cases c:j / 3<k
    ·rw[if_pos c,if_pos c,if_pos ω,if_pos ω]
    rw[if_neg c,if_neg c,if_neg ω,if_neg ω]
   rw[if_neg ω,List.getElem?_eq_none (by rw[cellsDo_len];omega),List.getElem?_eq_none (by rw[cellsDo_len];omega)]]at z
 ·dsimp only
  by_cases e:i=k
  ·subst e
   rw[if_pos rfl,if_pos rfl];exact ko (jW f (eC f u (by decide))) m
  rw[if_neg e,if_neg e];have s:=ak (r i ω) t
  exact jW s (eC s u (by decide))
 dsimp only
 by_cases p:i=k
 ·rw[if_pos p,if_neg ω]
  have:=b j ω
  omega
 rw[if_neg p]
 by_cases a:j=k
 ·rw[if_pos a]
  have:=b i ω
  omega
 rw[if_neg a];exact y i j ω ω l
theorem CQ.all{w wr:World}{g a n:Nat}{D:Nat->Dm}{A:Nat->Option Addr}{C:Nat->Nat}(h:CQ w wr g a n n D A C):∃G C',OwD wr w.heap.size g a n D G C':=by
 obtain⟨G,C',c,d,e⟩:=h;refine⟨G,C',?_,d,e⟩
 rwa [i7 (A':=fun i=>some ⟨G i,0,none⟩) (C':=C') n fun i b=>⟨if_pos b,if_pos b⟩]at c
def rT(w:World)(N:Nat)(A:Option Addr)(c:Nat)(L:List Int):Prop := ∃g,A=some ⟨g,0,none⟩/\w.ownsRow N 3 1 (.slice (some ⟨g,0,none⟩) L.length c) L.length (aA L)
theorem NJ{w:World}{N:Nat}{v:Value}{L:List Int}(i:0<L.length)(h:w.ownsRow N 3 1 v L.length (L.map (Value.int .i64))):∃A c,v=.slice A L.length c/\bX w A c L/\rT w N A c L:=by
 obtain⟨A',d,e,b,-⟩:=rh h
 rcases h.2 with⟨rfl,f⟩|⟨g,cap,a,rfl,j⟩
 ·omega
 cases e;exact⟨_,_,rfl,b,g,rfl,h⟩
theorem rT.later{w w':World}{N:Nat}{A:Option Addr}{c:Nat}{L:List Int}(h:rT w N A c L)(d:Bl w w'):rT w' N A c L:=by
 obtain⟨g,a,b⟩:=h;exact⟨g,a,ak b d⟩
theorem rT.base{w:World}{N M:Nat}{A:Option Addr}{c:Nat}{L:List Int}(h:rT w N A c L)(d:M<=N):rT w M A c L:=by
 obtain⟨g,a,b⟩:=h;exact⟨g,a,ko b d⟩
theorem rT.off{w:World}{N g j:Nat}{A:Option Addr}{c:Nat}{L:List Int}{u:Value}(h:rT w N A c L)(a:∀b,A=some ⟨b,0,none⟩->b≠g):rT (w.setCell ⟨g,j,none⟩ u) N A c L:=by
 obtain⟨b,rfl,d⟩:=h;exact⟨b,rfl,jW d fun e=>a b rfl (Option.some.inj e)⟩
theorem rT.ty{w:World}{N:Nat}{A:Option Addr}{c:Nat}{L:List Int}(h:rT w N A c L):bX w A c L:=by
 obtain⟨g,rfl,a⟩:=h;obtain⟨A',d,e,b,-⟩:=rh a;cases e;exact b
def GH(w:World)(N:Nat)(ys:List EnL):Prop:=(∀y∈ys,rT w N y.A y.c y.e.pl)/\ys.Pairwise fun a b=>a.A≠b.A
theorem GH.push{w w':World}{N:Nat}{ys:List EnL}{y:EnL}(h:GH w N ys)(k:Bl w w')(l:N<=w.heap.size)(f:rT w' w.heap.size y.A y.c y.e.pl):GH w' N (ys++[y]):=by
 refine⟨fun z d=>?_,?_⟩
 ·rcases List.mem_append.1 d with d|d
  ·exact(h.1 z d).later k
  rw[List.mem_singleton.1 d];exact f.base l
 refine List.pairwise_append.2 ⟨h.2,List.pairwise_singleton _ _,fun a m b n=>?_⟩
 rw[List.mem_singleton.1 n];obtain⟨g1,g,o1⟩:=h.1 a m;obtain⟨g2,i,o2⟩:=f;have o:=(aG o1).2.1;have p:=(aG o2).1;rw[g,i];intro e;have j:=congrArg (fun a:Option Addr=>a.map Addr.block) e
 simp only[Option.map_some,Option.some.injEq]at j
 omega
theorem GH.off{w:World}{N g j:Nat}{ys:List EnL}{u:Value}{n:Nat}{zs:List EnL}(h:GH w N ys)(m:a7 w g n zs):GH (w.setCell ⟨g,j,none⟩ u) N ys:=by
 refine⟨fun y i=>(h.1 y i).off fun b a e=>?_,h.2⟩
 obtain⟨g1,l,o1⟩:=h.1 y i;obtain⟨-,-,-,-,k,c⟩:=aG o1;obtain⟨⟨f,d,-⟩,-⟩:=m;rw[l]at a
 simp at a
 rw[a,e,d]at c;simp only[Option.some.injEq,Obj.cells.injEq]at c;exact absurd c.2.1 (by decide)
theorem O0{w:World}{N g i j:Nat}{ys:List EnL}{u v:Value}{n:Nat}{zs:List EnL}(h:GH w N ys)(o:a7 w g n zs):GH ((w.setCell ⟨g,i,none⟩ u).setCell ⟨g,j,none⟩ v) N ys:=by
 have m:=h.off (j:=i) (u:=u) o;obtain⟨⟨l,d,-⟩,-⟩:=o;have f:=mz (k:=i) (v:=u) d;refine⟨fun y p=>(m.1 y p).off fun b a e=>?_,h.2⟩
 obtain⟨g1,r,o1⟩:=m.1 y p;obtain⟨-,-,-,-,q,c⟩:=aG o1;rw[r]at a
 simp at a
 rw[a,e,f]at c;simp only[Option.some.injEq,Obj.cells.injEq]at c;exact absurd c.2.1 (by decide)
structure OwE(w:World)(B g cap:Nat)(ys:List EnL):Prop where
 row:a7 w g cap ys
 low:B<=g
 each:∀y∈ys,rT w B y.A y.c y.e.pl
 apart:ys.Pairwise fun a b=>a.A≠b.A
theorem ES(AE:Option Addr)(ce:Nat)(xs:List EnL)(w:World)(hn:xs.length<=3000)(hS:∀k,k<xs.length->0<(xs.getD k noL).e.pl.length/\(xs.getD k noL).e.pl.length<=4)(hE:bU w AE ce xs):
  Calls prog 21 #[.slice AE xs.length ce] w fun e w'=>(∃ys,e=.returned (.slice (some ⟨w.heap.size,0,none⟩) xs.length xs.length)/\OwE w' w.heap.size w.heap.size xs.length ys/\lE ys=lE xs)/\Bl w w':=by
 obtain⟨i0,PX,P0,P1,M⟩:=info_parts infoEnt;have HE:=aa hE;have HS:=aa hS;obtain⟨n,L⟩:=ar xs.length;have Z:=aa L;rw[L]at hn|-;have PZ:∀w',(Instr.makeSlice 25 (.int .i64 n) (.int .i64 n)).run prog w'=.ok (.slice (some ⟨w'.heap.size,0,none⟩) n n) (w'.alloc (.cells (madeCells (Value.agg #[.slice none 0 0,.int .i64 0]).cells (n*2)) 45)):=fun w'=>by
  have h:=run_make (P:=prog) w' 25 45 i0 _ underlying25 PX P0 .i64 .i64 n n ω (Int.le_refl _) (by rw[M];omega) ω
  rw[P1]at h
  simpa using h
 have PV:Hid (a7 (w.alloc (.cells (madeCells (Value.agg #[.slice none 0 0,.int .i64 0]).cells (n*2)) 45)) w.heap.size n []):=⟨⟨_,heap_alloc_new w _,size_madeCells _ _,by simp[cellsE]⟩,zU,by unfold maxLen;omega,fun x hx=>by cases hx⟩
 have ag:(n:Int)<=3000:=ω;clear hE hS L
 go_enter func21,ntmps21
 go_wp2_with fail;clear PZ
 go_loopg [11] n (fun g ae wr =>∃(k:Nat) (zs:List EnL),k<=n/\g=n-k/\ae=.int .i64 k/\zs.length=k/\Hid (lE zs=(lE xs).take k/\GH wr w.heap.size zs)/\a7 wr w.heap.size n zs/\Bl w wr)
 case atStart=>exact⟨0,[],zU,rfl,rfl,rfl,aa (⟨by simp[lE],fun _ h=>(by cases h),List.Pairwise.nil⟩),PV.o,by go_grown⟩
 case round =>
  obtain⟨k,zs,hk,rfl,rfl,O,Y,i,E⟩:=hrel;have F:=aa i;have D:=aa E;have J:=aa O
  by_cases W:k<n
  ·have q:k<xs.length:=by rw[Z.o];exact W
   have af:(k:Int)<(n:Int):=ω;obtain⟨-,-,h0|⟨b,o,rfl,K⟩⟩:=HE.o.later E
   ·have:=Z.o;rw[h0]at this;simp at this;omega
   obtain⟨c1,c2⟩:=K.at q;have G:Hid (∀w',Bl wr w'->Calls prog 50 #[.slice (xs.getD k noL).A (xs.getD k noL).e.pl.length (xs.getD k noL).c] w' fun e ab=>(∃A' d,e=.returned (.slice A' (xs.getD k noL).e.pl.length d)/\bX ab A' d (xs.getD k noL).e.pl/\rT ab wr.heap.size A' d (xs.getD k noL).e.pl)/\Bl w' ab):=fun w' X=>(sU _ _ _ w' (HS.o k q).2 ((K.pl q).later X)).mono fun _ _ ⟨⟨v,R,S⟩,h4⟩=>by
    obtain⟨A',d,rfl,h5,h6⟩:=NJ (HS.o k q).1 (ko S X.size);exact⟨⟨A',d,R,h5,h6⟩,h4⟩
   have l:=eK wr (xs.getD k noL).A (xs.getD k noL).e.pl.length (xs.getD k noL).c (xs.getD k noL).e.n 45;have s:=aa l;have B:=jl wr (xs.getD k noL).A (xs.getD k noL).e.pl.length (xs.getD k noL).c (xs.getD k noL).e.n 45;have y:=pz wr (xs.getD k noL).A (xs.getD k noL).e.pl.length (xs.getD k noL).c (xs.getD k noL).e.n 45;have z:=uR wr (xs.getD k noL).A (xs.getD k noL).e.pl.length (xs.getD k noL).c (xs.getD k noL).e.n 45;have H:Hid ((lE xs).take (k+1)=(lE xs).take k++[(xs.getD k noL).e]):=by
    show _=_
    rw[List.take_succ_eq_append_getElem (by rw[aR];exact q),←lE_at,zZ,zX (by rw[aR];exact q)]
    rfl
   have ah:w.heap.size<wr.heap.size:=i.lt;generalize xs.getD k noL=x at c1 c2 G s B y z H;clear K l i E O;have u:Hid (∀(w3:World) (A':Option Addr) (d:Nat),a7 w3 w.heap.size n zs->bX w3 A' d x.e.pl->a7 ((w3.setCell ⟨w.heap.size,k*2,none⟩ (.slice A' x.e.pl.length d)).setCell ⟨w.heap.size,k*2+1,none⟩ (.int .i64 x.e.n)) w.heap.size n (zs++[⟨x.e,A',d⟩])/\w3.grownBy ((w3.setCell ⟨w.heap.size,k*2,none⟩ (.slice A' x.e.pl.length d)).setCell ⟨w.heap.size,k*2+1,none⟩ (.int .i64 x.e.n)) (some w.heap.size)):=fun w3 A' d R S=>by
    have h3:=R.put (by rw[J.o];exact W) (x:=⟨x.e,A',d⟩) S
    rw[J.o]at h3;exact h3
   have I:Hid (∀(w3:World) A' d,Bl wr w3->a7 w3 w.heap.size n zs->rT w3 wr.heap.size A' d x.e.pl->lE (zs++[⟨x.e,A',d⟩])=(lE xs).take (k+1)/\GH ((w3.setCell ⟨w.heap.size,k*2,none⟩ (.slice A' x.e.pl.length d)).setCell ⟨w.heap.size,k*2+1,none⟩ (.int .i64 x.e.n)) w.heap.size (zs++[⟨x.e,A',d⟩])):=fun w3 A' d hb hr hp=>⟨by rw[m7,Y.o.1,H.o];rfl,O0 (Y.o.2.push hb D.o.size hp) hr⟩
   generalize ac:x.e.pl.length=m at c1 G s B y z u I;generalize x.e.n=N at c2 s B y z u I;clear ac H;go_wp2_with fail;obtain⟨W2,p⟩:=ar (wr.alloc (.cells #[.slice x.A m x.c,.int .i64 N] 45));have l:Bl wr W2:=by rw[←p];exact s.o
   have M:wr.heap.size<W2.heap.size:=by rw[←p];show _<(fP wr x.A m x.c N 45).heap.size;rw[B];omega
   have Q:Hid (wr.heap.size<W2.heap.size/\wr.heap.size≠w.heap.size/\W2.cell? ⟨wr.heap.size,0,none⟩=some (.slice x.A m x.c)/\W2.cell? ⟨wr.heap.size,1,none⟩=some (.int .i64 N)):=by rw[←p];exact⟨by rw[p];exact M,ω,y,z⟩
   have C:=aa l;have a:=aa (F.o.later l);rw[p];clear p l B y z s c1 c2
   go_region_held3 (fun w'=>W2.grownBy w' (some w.heap.size)/\w'.cell? ⟨wr.heap.size,0,none⟩=some (.slice x.A m x.c)/\w'.cell? ⟨wr.heap.size,1,none⟩=some (.int .i64 N))
    ((refine IE Q.o ?_;(repeat (first|exact bP _ _|assumption|refine cX ?_|refine eI ?_ _ _));done))
    (first|(go_at_call 50;refine(G.o _ (ad C.o γ)).mono ?_;rintro e w3⟨⟨A',d,rfl,U,T⟩,V⟩;have f:=ad (W0:=W2) γ V;have PT:=aa T;clear T;have PW:W2.grownBy w3 (some w.heap.size):=aC f;have r:=aa f;have PU:=aa U;obtain⟨u0,d0⟩:=Option.isSome_iff_exists.1 ((a.o.later f).full (j:=k*2) ω);obtain⟨u1,d1⟩:=Option.isSome_iff_exists.1 ((a.o.later f).full (j:=k*2+1) ω);have f0:=(a.o.later f).frozen (k*2);have f1:=(a.o.later f).frozen (k*2+1);clear V f U))
   clear d0 d1 f0 f1 PW;go_wp2_with fail
   go_roundg (n-(k+1))
   case measure=>omega
   case rel =>
    obtain⟨R,S⟩:=u.o w3 A' d (a.o.later r.o) PU.o;refine⟨k+1,_,ω,rfl,by go_num,?_,aa (I.o w3 A' d (ad C.o r.o) (a.o.later r.o) PT.o),R,?_⟩
    ·rw[List.length_append,J.o];rfl
    exact gP (ad D.o (ad C.o r.o)) S (ad D.o (ad C.o r.o)).size zT
  have PY:k=n:=ω;subst PY;have t:Hid (lE zs=lE xs/\GH wr w.heap.size zs):=⟨by rw[Y.o.1,List.take_of_length_le (by rw[aR,Z.o];exact zT)],Y.o.2⟩
  clear i E O;go_wp2_with fail;go_ret;exact⟨⟨zs,rfl,⟨F.o,zT,t.o.2.1,t.o.2.2⟩,t.o.1⟩,D.o⟩
def valG(E:ByteArray->Int×Int):Tre->Int×Int
 | .num n=>iI n
 | .ref s=>E s
 | .bin o a b=>Br o (valG E a) (valG E b)
theorem ls(N:List ByteArray)(C:List (Int×Int))(E:ByteArray->Int×Int):∀t:Tre,(∀s∈refsT t,refC N C s=E s)->iX N C t=valG E t
 | .num _,_=>rfl
 | .ref s,h=>h s (by simp[refsT])
 | .bin o a b,h=>by
  rw[iX,valG,ls N C E a fun s c=>h s (by simp[refsT,c]),ls N C E b fun s c=>h s (by simp[refsT,c])]
theorem nQ(E F:ByteArray->Int×Int):∀t:Tre,(∀s∈refsT t,E s=F s)->valG E t=valG F t
 | .num _,_=>rfl
 | .ref s,h=>h s (by simp[refsT])
 | .bin o a b,h=>by
  rw[valG,valG,nQ E F a fun s c=>h s (by simp[refsT,c]),nQ E F b fun s c=>h s (by simp[refsT,c])]
def Ks(d:Dm)(i:Nat):Tre:=aI (bK (d.mem i).formula) ((bK (d.mem i).formula).length-1)
def iK(d:Dm)(at':Int->Int×Int)(i:Nat):Int×Int:=if(d.mem i).formula.size=0 then(gb d.mem d.n i).foldl (bE d.mem at') (0,0)else valG (fun s=>at' (whL d s.data.toList)) (Ks d i)
theorem nO{d:Dm}{i:Nat}(f:prsE (d.mem i).formula=0){s:ByteArray}(b:s∈refsT (Ks d i)):s.data.toList∈ox d i:=by
 unfold Ks at b;obtain⟨j,a,c,e⟩:=(rz (eH f) s).1 b;rw[←e];refine LT ?_ c;rw[zZ,zX a];exact List.getElem_mem a
theorem gt{d:Dm}{i:Nat}(a:(d.mem i).formula.size≠0)(h:mErr d i=0):prsE (d.mem i).formula=0:=by
 unfold mErr at h;rw[if_neg a]at h
 split at h
 ·rename_i h1;exact absurd h h1
 rename_i h1;simpa using h1
theorem km{d:Dm}(o:(am d).2=0){i:Nat}(m:mErr d i=0){a b:Int->Int×Int}(h:∀x∈f9 d i,a x=b x):iK d a i=iK d b i:=by
 unfold iK
 by_cases f:(d.mem i).formula.size=0
 ·rw[if_pos f,if_pos f]
  have g:∀(P:List Int) (c:Int×Int),(∀x∈P,x∈gb d.mem d.n i)->P.foldl (bE d.mem a) c=P.foldl (bE d.mem b) c:=by
   intro P
   induction P with
   |nil=>intro c _;rfl
   |cons x r ih =>
    intro c l;have k:=l x σ
    rw[List.foldl_cons,List.foldl_cons];have e:bE d.mem a c x=bE d.mem b c x:=by
     unfold bE
     by_cases j:(d.mem x.toNat).sign=0
     ·rw[if_neg ω,if_neg ω,if_neg ω,if_neg ω]
     have p:x∈f9 d i:=by
      rw[←jn f,List.mem_filter];exact⟨k,by unfold KO;exact decide_eq_true j⟩
     rw[h x p]
    rw[e];exact ih _ fun y q=>l y (List.mem_cons_of_mem _ q)
  exact g _ _ fun x k=>k
 rw[if_neg f,if_neg f];refine nQ _ _ _ fun s j=>h _ ?_
 exact(jj o f m _).2 ⟨_,nO (gt f m) j,rfl⟩
def byTo(D:Nat->Dm)(p:List Int):Nat->Int
 | 0 => -1
 |k+1=>if leafB (D k).mem (D k).n (p.getD k 0).toNat=false/\(byTo D p k<0\/(D (byTo D p k).toNat).solve<(D k).solve)then(k:Int)else byTo D p k
theorem by_in(D:Nat->Dm)(p:List Int)(k:Nat):byTo D p k = -1\/∃b:Nat,byTo D p k=(b:Int)/\b<k:=by
 induction k with
 |zero=>exact Or.inl rfl
 |succ k ih =>
  unfold byTo
  split
  ·exact Or.inr ⟨k,rfl,ω⟩
  rcases ih with h|⟨b,h1,h2⟩
  ·exact Or.inl h
  exact Or.inr ⟨b,h1,ω⟩
def Od(d:Dm)(i:Int):Nat:=(av (jz d) d.n).idxOf i
theorem Ma{d:Dm}(h:(bB d).2=0){i:Nat}(f:i<d.n):(i:Int)∈av (jz d) d.n:=by
 refine Classical.byContradiction fun e=>?_
 obtain⟨c,b⟩:=qV (jz d) d.n;rw[gX]at b;have:=few d.n ((i:Int):: av (jz d) d.n) (List.nodup_cons.2 ⟨e,c⟩) fun x a=>by
  rcases List.mem_cons.1 a with rfl|a
  ·omega
  exact b x a
 rw[List.length_cons,d8 (pd d) (nB h) d.n (by rw[gX];exact zT)]at this
 omega
theorem mw{d:Dm}(h:(bB d).2=0){i:Nat}(l:i<d.n){x:Int}(r:x∈f9 d i):Od d x<Od d i:=by
 obtain⟨k,o,e⟩:=List.getElem_of_mem (Ma h l);have v:=d8 (pd d) (nB h) d.n (by rw[gX];exact zT)
 have g:k<(jz d).length:=by rw[gX];omega
 obtain⟨m,c,u,j,f,-⟩:=Bt (pd d) (nB h) g;rw[gX]at c j f;have q:m=i:=by
  rw[zZ,zX o,e]at c;have:(i:Int)=(m:Int):=by simpa using c
  omega
 subst q;rw[Bj l]at f;have b:=f x r;unfold Od;have a:av (jz d) d.n=(av (jz d) d.n).take k++(av (jz d) d.n).drop k:=(List.take_append_drop _ _).symm;have p:((av (jz d) d.n).take k).length=k:=by rw[List.length_take];omega
 have s:(av (jz d) d.n).idxOf x<k:=by
  rw[a,List.idxOf_append,if_pos b];have:=List.idxOf_lt_length_of_mem b
  omega
 have t:k<=(av (jz d) d.n).idxOf (m:Int):=by
  rw[a,List.idxOf_append,if_neg j]
  omega
 omega
def msrTo(D:Nat->Dm)(p:List Int):Nat->Nat
 | 0=>0
 |k+1=>msrTo D p k+Od (D k) (p.getD k 0)
theorem jP{p:List Int}{b:Nat}{x:Int}(h:b<p.length):(p.set b x).getD b 0=x:=by
 simp[List.getD,h]
theorem f7{p:List Int}{b k:Nat}{x:Int}(h:k≠b):(p.set b x).getD k 0=p.getD k 0:=by
 simp[List.getD,List.getElem?_set_ne (fun e=>h e.symm)]
theorem jU{D:Nat->Dm}{p:List Int}{b:Nat}{x:Int}(a:b<p.length)(c:Od (D b) x<Od (D b) (p.getD b 0))(k:Nat):(k<=b->msrTo D (p.set b x) k=msrTo D p k)/\(b<k->msrTo D (p.set b x) k<msrTo D p k):=by
 induction k with
 |zero=>exact⟨fun _=>rfl,fun h=>ω⟩
 |succ k ih =>
  refine⟨fun h=>?_,fun h=>?_⟩
  ·rw[msrTo,msrTo,ih.1 ω,f7 ω]
  rw[msrTo,msrTo]
  by_cases e:k=b
  ·subst e
   rw[ih.1 zT,jP a]
   omega
  have:=ih.2 ω
  rw[f7 e]
  omega
def yN(D:Nat->Dm)(n:Nat)(inp:List Int->Int×Int):Nat->List Int->Int×Int
 | 0,_=>(0,0)
 |f+1,p=>if byTo D p n<0 then inp p else iK (D (byTo D p n).toNat) (fun x=>yN D n inp f (p.set (byTo D p n).toNat x)) (p.getD (byTo D p n).toNat 0).toNat
def eT(D:Nat->Dm)(n:Nat):Prop := ∀i,i<n->(bB (D i)).2=0
theorem lX{D:Nat->Dm}{n:Nat}{p:List Int}(h:InO D n p){b:Nat}(a:b<n){x:Int}(c:0<=x)(d:x<((D b).n:Int)):InO D n (p.set b x):=by
 refine⟨h.right,by rw[List.length_set];exact h.len,fun i hi=>?_,fun i hi=>?_⟩
 ·by_cases e:i=b
  ·subst e
   rw[jP (by rw[h.len];exact a)]
   exact c
  rw[f7 e];exact h.lo i hi
 by_cases e:i=b
 ·subst e
  rw[jP (by rw[h.len];exact a)]
  exact d
 rw[f7 e];exact h.hi i hi
theorem J8{D:Nat->Dm}{n:Nat}(j:eT D n)(aa:List Int->Int×Int):∀(f g:Nat) (p:List Int),InO D n p->msrTo D p n<f->msrTo D p n<g->yN D n aa f p=yN D n aa g p:=by
 intro f
 induction f with
 |zero=>intro g p _ h;omega
 |succ f ih =>
  intro g p d r s;obtain⟨g,rfl⟩:∃g',g=g'+1:=⟨g-1,ω⟩
  unfold yN
  rcases by_in D p n with h|⟨b,h1,h2⟩
  ·rw[h,if_pos ω,if_pos ω]
  rw[h1,if_neg ω,if_neg ω,Int.toNat_natCast]
  obtain⟨l,m,-,-⟩:=bw (j b h2);obtain⟨i,q⟩:0<=p.getD b 0/\p.getD b 0<((D b).n:Int):=⟨d.lo b h2,d.hi b h2⟩;refine km l (m _ ω) fun x k=>?_
  have c:=fA k;have e:(p.getD b 0).toNat<(D b).n:=ω;have a:=mw (j b h2) e k;rw[Int.toNat_of_nonneg i]at a;have o:=(jU (by rw[d.len];exact h2) a n).2 h2
  exact ih g _ (lX d h2 c.1 c.2) ω ω
def gN(D:Nat->Dm)(n:Nat)(inp:List Int->Int×Int)(p:List Int):Int×Int:=yN D n inp (msrTo D p n+1) p
theorem gL{D:Nat->Dm}{n:Nat}(aa:List Int->Int×Int){p:List Int}(h:byTo D p n<0):gN D n aa p=aa p:=by
 unfold gN yN;rw[if_pos h]
theorem vi{D:Nat->Dm}{n:Nat}(f:eT D n)(aa:List Int->Int×Int){p:List Int}(e:InO D n p){b:Nat}(k:byTo D p n=(b:Int)):gN D n aa p=iK (D b) (fun x=>gN D n aa (p.set b x)) (p.getD b 0).toNat:=by
 have a:b<n:=by
  rcases by_in D p n with h|⟨b',h1,a⟩
  ·omega
  omega
 show yN D n aa (msrTo D p n+1) p=_
 unfold yN;rw[k,if_neg ω,Int.toNat_natCast]
 obtain⟨l,m,-,-⟩:=bw (f b a);obtain⟨i,q⟩:0<=p.getD b 0/\p.getD b 0<((D b).n:Int):=⟨e.lo b a,e.hi b a⟩;refine km l (m _ ω) fun x j=>?_
 have d:=fA j;have g:(p.getD b 0).toNat<(D b).n:=ω;have c:=mw (f b a) g j;rw[Int.toNat_of_nonneg i]at c;have o:=(jU (by rw[e.len];exact a) c n).2 a
 exact J8 f aa _ _ _ (lX e a d.1 d.2) ω ω
def At(s:Nat)(k n:Int)(w:World):Prop:=s<w.heap.size/\w.cell? ⟨s,0,none⟩=some (.int .i64 k)/\w.cell? ⟨s,1,none⟩=some (.int .i64 n)
def fi(N:List (List Int))(out:List Int)(j:Nat):Nat:=((N.getD j []).filter fun x => !(out.contains x)).length
def bv(N:List (List Int))(m n:Nat):List Int:=selTo (fun j=>(N.getD j []).contains (m:Int)) n
theorem ic{N:List (List Int)}{m n:Nat}{x:Int}:x∈bv N m n↔∃j:Nat,x=j/\j<n/\(m:Int)∈N.getD j []:=by
 unfold bv
 constructor
 ·intro h
  obtain⟨j,c,a,b⟩:=dy x h;exact⟨j,c,a,List.contains_iff_mem.1 b⟩
 rintro⟨j,rfl,a,b⟩;exact ks a (List.contains_iff_mem.2 b)
theorem Kw(N:List (List Int))(m n:Nat):(bv N m n).Pairwise (· < ·):=gK _ _
theorem xz{N:List (List Int)}{aa:List Int}{j:Nat}:fi N aa j=0↔∀x∈N.getD j [],x∈aa:=by
 unfold fi;rw[List.length_eq_zero_iff,List.filter_eq_nil_iff];refine forall_congr' fun x=>forall_congr' fun _=>?_
 simp
theorem Fg(N:List (List Int))(j:Nat):fi N [] j=(N.getD j []).length:=by
 unfold fi;rw[List.filter_eq_self.2 fun x _=>by simp]
theorem NB(N:List (List Int))(aa:List Int)(j:Nat):fi N aa j<=(N.getD j []).length:=List.length_filter_le _ _
theorem wN:∀(L aa:List Int) (m:Int),L.Pairwise (· < ·)->m∉aa->(L.filter fun x => !(aa.contains x)).length=(L.filter fun x => !((aa++[m]).contains x)).length+(if m∈L then 1 else 0)
 | [],_,_,_,_=>rfl
 |a :: L,aa,m,hL,hm=>by
  obtain⟨i,j⟩:=List.pairwise_cons.1 hL;have f:=wN L aa m j hm;have d:∀x,(aa++[m]).contains x=(aa.contains x||x ==m):=fun x=>by
   rw[Bool.eq_iff_iff,Bool.or_eq_true,List.contains_iff_mem,List.contains_iff_mem,List.mem_append,List.mem_singleton,beq_iff_eq]
  rw[List.filter_cons,List.filter_cons]
  by_cases b:a=m
  ·subst b
   have l:a∉L:=fun h=>by have:=i a h;omega
   have g:aa.contains a=false:=by rw[←Bool.not_eq_true,List.contains_iff_mem];exact hm
   rw[d a,g];rw[if_neg l]at f;simp only[Bool.not_false,if_true,beq_self_eq_true,Bool.or_true,Bool.not_true,Bool.false_eq_true,if_false,List.length_cons,List.mem_cons,true_or]
   omega
  have k:(a ==m)=false:=by simpa using b
  have c:(m∈a :: L)↔m∈L:=by
   rw[List.mem_cons];exact⟨fun h=>h.resolve_left (fun e=>b e.symm),Or.inr⟩
  rw[d a,k,Bool.or_false];cases aa.contains a
  ·simp only[Bool.not_false,if_true,List.length_cons,c]
   omega
  simp only[Bool.not_true,Bool.false_eq_true,if_false,c];exact f
theorem l7{N:List (List Int)}{aa:List Int}{m j:Nat}(b:(N.getD j []).Pairwise (· < ·))(a:(m:Int)∉aa):fi N aa j=fi N (aa++[(m:Int)]) j+(if(m:Int)∈N.getD j []then 1 else 0):=wN _ _ _ b a
theorem Bu(N:List (List Int))(k:Nat):∀j:Nat,(j:Int)∈av N k->∀x∈N.getD j [],x∈av N k:=by
 induction k with
 |zero=>intro j a;cases a
 |succ k ih =>
  intro j a x b;rw[av,List.mem_append]at a|-
  rcases a with a|a
  ·exact Or.inl (ih j a x b)
  split at a
  ·rename_i h
   obtain⟨m,c,-,d,-⟩:=nh h;rw[List.mem_singleton,c]at a;have:j=m:=ω;subst this;exact Or.inl ((fV d).2 x b)
  cases a
def t8(N:List (List Int))(out R:List Int):Prop:=R.Pairwise (· < ·)/\∀x,x∈R↔∃j:Nat,x=j/\j<N.length/\uJ N out j=true
def lx(N:List (List Int))(out:List Int)(m i:Nat)(R:List Int):Prop:=R.Pairwise (· < ·)/\∀x,x∈R↔∃j:Nat,x=j/\j<N.length/\((uJ N out j=true/\j≠m)\/((j:Int)∈(bv N m N.length).take i/\fi N out j=1))
def ik(N:List (List Int))(out:List Int)(m i j:Nat):Nat:=fi N out j-(if(j:Int)∈(bv N m N.length).take i then 1 else 0)
theorem FO{N:List (List Int)}{R:List Int}(f:R=selTo (fun j=>(N.getD j []).isEmpty) N.length):t8 N [] R:=by
 subst f;refine⟨gK _ _,fun x=>?_⟩
 constructor
 ·intro h
  obtain⟨j,e,c,b⟩:=dy x h;refine⟨j,e,c,xM σ fun y d=>?_⟩
  rw[List.isEmpty_iff]at b;rw[b]at d;cases d
 rintro⟨j,rfl,c,b⟩;refine ks c ?_;rw[List.isEmpty_iff];have:=(fV b).2;cases h:N.getD j []with
 |nil=>rfl
 |cons a r=>exact absurd (this a (by rw[h];simp)) σ
theorem rx{N:List (List Int)}(t:rZ N)(v:∀i:Nat,i<N.length->cycB N i=false){k:Nat}(w:k<N.length){R:List Int}(u:t8 N (av N k) R):∃(m:Nat) (R':List Int),R=(m:Int):: R'/\m<N.length/\uJ N (av N k) m=true/\av N (k+1)=av N k++[(m:Int)]/\lx N (av N k) m 0 R':=by
 obtain⟨m,-,n,o,r,s⟩:=qW t v w;obtain⟨y,f⟩:=u;have c:=(f m).2 ⟨m,rfl,n,o⟩;cases R with
 |nil=>cases c
 |cons a R' =>
  obtain⟨q,z⟩:=List.pairwise_cons.1 y;have g:a=(m:Int):=by
   obtain⟨j,l,d,b⟩:=(f a).1 σ
   rcases List.mem_cons.1 c with h|h
   ·exact h.symm
   have B:=q _ h;rw[r j ω]at b
   cases b
  subst g;refine⟨m,R',rfl,n,o,s,z,fun x=>?_⟩
  constructor
  ·intro p
   obtain⟨j,l,d,b⟩:=(f x).1 (List.mem_cons_of_mem _ p);refine⟨j,l,d,Or.inl ⟨b,fun e=>?_⟩⟩
   have:=q x p
   omega
  rintro⟨j,rfl,d,(⟨b,A⟩|⟨b,-⟩)⟩
  ·rcases List.mem_cons.1 ((f j).2 ⟨j,rfl,d,b⟩)with h|h
   ·omega
   exact h
  simp at b
theorem Mi{N:List (List Int)}(e:rZ N)(g:∀i:Nat,i<N.length->cycB N i=false){R:List Int}(f:t8 N (av N N.length) R):R=[]:=by
 refine List.eq_nil_iff_forall_not_mem.2 fun x k=>?_
 obtain⟨j,rfl,l,c⟩:=(f.2 x).1 k;have h:=(fV c).1;obtain⟨b,d⟩:=qV N N.length;have:=few N.length ((j:Int):: av N N.length) (List.nodup_cons.2 ⟨h,b⟩) fun y a=>by
  rcases List.mem_cons.1 a with rfl|a
  ·omega
  exact d y a
 rw[List.length_cons,d8 e g N.length zT]at this
 omega
def ur(R:List Int)(k:Int):List Int:=R.take (R.countP (· < k))++k :: R.drop (R.countP (· < k))
theorem tn:∀(R:List Int) (k:Int),R.Pairwise (· < ·)->k∉R->(∀a∈R.take (R.countP (· < k)),a<k)/\∀b∈R.drop (R.countP (· < k)),k<b
 | [],k,_,_=>⟨fun a h=>by simp at h,fun b h=>by simp at h⟩
 |a :: R,k,hR,hk=>by
  obtain⟨e,g⟩:=List.pairwise_cons.1 hR;have d:k≠a/\k∉R:=by simpa using hk
  by_cases h:a<k
  ·obtain⟨i1,i2⟩:=tn R k g d.2
   rw[List.countP_cons_of_pos (by simpa using h),List.take_succ_cons,List.drop_succ_cons]
   refine⟨fun x c=>?_,i2⟩
   rcases List.mem_cons.1 c with rfl|c
   ·exact h
   exact i1 x c
  have f:(a :: R).countP (· < k)=0:=by
   rw[List.countP_eq_zero];intro x c
   rcases List.mem_cons.1 c with rfl|c
   ·simpa using h
   have:=e x c
   simp;omega
  rw[f];refine⟨fun x c=>by simp at c,fun x c=>?_⟩
  rcases List.mem_cons.1 (show x∈a :: R from c)with rfl|c
  ·omega
  have:=e x c;omega
theorem Iz{R:List Int}{k:Int}(c:R.Pairwise (· < ·))(j:k∉R):(ur R k).Pairwise (· < ·)/\∀x,x∈ur R k↔x=k\/x∈R:=by
 obtain⟨f,g⟩:=tn R k c j;have e:R.take (R.countP (· < k))++R.drop (R.countP (· < k))=R:=List.take_append_drop _ _;refine⟨?_,fun x=>?_⟩
 ·unfold ur
  rw[List.pairwise_append];refine⟨c.sublist (List.take_sublist _ _),List.pairwise_cons.2 ⟨g,c.sublist (List.drop_sublist _ _)⟩,fun a i b d=>?_⟩
  rcases List.mem_cons.1 d with rfl|d
  ·exact f a i
  have:=f a i;have:=g b d
  omega
 unfold ur;rw[List.mem_append,List.mem_cons];have:x∈R↔x∈R.take (R.countP (· < k))\/x∈R.drop (R.countP (· < k)):=by rw[←List.mem_append,e]
 rw[this]
 constructor
 ·rintro(h|h|h)
  ·exact Or.inr (Or.inl h)
  ·exact Or.inl h
  exact Or.inr (Or.inr h)
 rintro(h|h|h)
 ·exact Or.inr (Or.inl h)
 ·exact Or.inl h
 exact Or.inr (Or.inr h)
theorem Kz{N:List (List Int)}{m i:Nat}(a:i<(bv N m N.length).length)(x:Int):x∈(bv N m N.length).take (i+1)↔x∈(bv N m N.length).take i\/x=(bv N m N.length).getD i 0:=by
 rw[List.take_succ_eq_append_getElem a,List.mem_append,List.mem_singleton,zZ,zX a]
 rfl
theorem MO{N:List (List Int)}{m i:Nat}(b:i<(bv N m N.length).length):(bv N m N.length).getD i 0∉(bv N m N.length).take i:=by
 intro h;rw[zZ,zX b,Option.getD_some]at h;obtain⟨j,c,e⟩:=List.getElem_of_mem h;have a:j<i:=by have:=c;rw[List.length_take]at this;omega
 rw[List.getElem_take]at e;have:=List.pairwise_iff_getElem.1 (Kw N m N.length) j i ω b a
 omega
theorem Kx{N:List (List Int)}(w:∀j,j<N.length->(N.getD j []).Pairwise (· < ·)){aa:List Int}{m i:Nat}(v:uJ N aa m=true)(o:i<(bv N m N.length).length):∃u:Nat,(bv N m N.length).getD i 0=(u:Int)/\u<N.length/\ik N aa m i u=fi N aa u/\1<=fi N aa u/\ik N aa m (i+1) u+1=fi N aa u/\(∀j,j≠u->ik N aa m (i+1) j=ik N aa m i j)/\∀R,lx N aa m i R->(u:Int)∉R/\(fi N aa u=1->lx N aa m (i+1) (ur R u))/\(fi N aa u≠1->lx N aa m (i+1) R):=by
 have l:=(fV v).1;have k:(bv N m N.length).getD i 0∈bv N m N.length:=by
  rw[zZ,zX o];exact List.getElem_mem o
 obtain⟨u,p,q,s⟩:=ic.1 k;have c:=MO o;rw[p]at c;have t:1<=fi N aa u:=by
  have:=l7 (w u q) l;rw[if_pos s]at this
  omega
 have r:uJ N aa u=false:=by
  rw[←Bool.not_eq_true];intro h;exact l ((fV h).2 _ s)
 have f:=fun x=>Kz (N:=N) (m:=m) o x
 rw[p]at f;refine⟨u,p,q,by unfold ik;rw[if_neg c];omega,t,?_,fun j y=>?_,fun R g=>?_⟩
 ·unfold ik
  rw[if_pos ((f u).2 (Or.inr rfl))]
  omega
 ·unfold ik
  have:((j:Int)∈(bv N m N.length).take (i+1))↔(j:Int)∈(bv N m N.length).take i:=by
   rw[f];exact⟨fun h=>h.resolve_right ω,Or.inl⟩
  simp only[this]
 have n:(u:Int)∉R:=fun h=>by
  obtain⟨j,b,d,(⟨a,-⟩|⟨a,-⟩)⟩:=(g.2 u).1 h
  ·have:j=u:=ω;subst this;rw[r]at a;cases a
  have:j=u:=ω;subst this;exact c a
 refine⟨n,fun h=>?_,fun h=>⟨g.1,fun x=>?_⟩⟩
 ·obtain⟨i1,i2⟩:=Iz g.1 n
  refine⟨i1,fun x=>?_⟩
  rw[i2,g.2]
  constructor
  ·rintro(rfl|⟨j,b,d,a⟩)
   ·exact⟨u,rfl,q,Or.inr ⟨(f u).2 (Or.inr rfl),h⟩⟩
   refine⟨j,b,d,?_⟩
   rcases a with a|⟨a,e⟩
   ·exact Or.inl a
   exact Or.inr ⟨(f j).2 (Or.inl a),e⟩
  rintro⟨j,b,d,(a|⟨a,e⟩)⟩
  ·exact Or.inr ⟨j,b,d,Or.inl a⟩
  rcases(f j).1 a with f5|f5
  ·exact Or.inr ⟨j,b,d,Or.inr ⟨f5,e⟩⟩
  exact Or.inl (b.trans f5)
 rw[g.2]
 constructor
 ·rintro⟨j,b,d,a⟩
  refine⟨j,b,d,?_⟩
  rcases a with a|⟨a,e⟩
  ·exact Or.inl a
  exact Or.inr ⟨(f j).2 (Or.inl a),e⟩
 rintro⟨j,b,d,(a|⟨a,e⟩)⟩
 ·exact⟨j,b,d,Or.inl a⟩
 rcases(f j).1 a with f5|f5
 ·exact⟨j,b,d,Or.inr ⟨f5,e⟩⟩
 have:j=u:=ω;subst this;exact absurd e h
theorem MN{N:List (List Int)}(q:∀j,j<N.length->(N.getD j []).Pairwise (· < ·)){k m:Nat}(u:uJ N (av N k) m=true):(∀j,j<N.length->ik N (av N k) m (bv N m N.length).length j=fi N (av N k++[(m:Int)]) j)/\∀R,lx N (av N k) m (bv N m N.length).length R->t8 N (av N k++[(m:Int)]) R:=by
 have a:=(fV u).1;have o:=(fV u).2;refine⟨fun j t=>?_,fun R s=>⟨s.1,fun x=>?_⟩⟩
 ·unfold ik
  rw[List.take_length];have d:=l7 (q j t) a
  by_cases h:(m:Int)∈N.getD j []
  ·rw[if_pos (ic.2 ⟨j,rfl,t,h⟩)]
   rw[if_pos h]at d
   omega
  have p:(j:Int)∉bv N m N.length:=fun e=>by
   obtain⟨i,v,-,c⟩:=ic.1 e;have l:i=j:=ω;rw[l]at c;exact h c
  rw[if_neg p];rw[if_neg h]at d
  omega
 rw[s.2,List.take_length]
 constructor
 ·rintro⟨j,n,f,b⟩
  refine⟨j,n,f,?_⟩
  rcases b with⟨b,r⟩|⟨b,r⟩
  ·obtain⟨g1,g2⟩:=fV b
   refine xM ?_ fun y g=>List.mem_append.2 (Or.inl (g2 y g))
   rw[List.mem_append,List.mem_singleton];rintro(h|h)
   ·exact g1 h
   omega
  obtain⟨i,v,l,c⟩:=ic.1 b;have:i=j:=ω;subst this;have d:=l7 (q i l) a;rw[if_pos c,r]at d;refine xM ?_ (xz.1 ω)
  rw[List.mem_append,List.mem_singleton];rintro(h|h)
  ·exact a (Bu N k i h _ c)
  have:i=m:=ω;subst this;exact a (o _ c)
 rintro⟨j,n,f,b⟩;obtain⟨g1,g2⟩:=fV b;rw[List.mem_append,List.mem_singleton]at g1;refine⟨j,n,f,?_⟩
 by_cases h:(m:Int)∈N.getD j []
 ·refine Or.inr ⟨ic.2 ⟨j,rfl,f,h⟩,?_⟩
  have d:=l7 (q j f) a;rw[if_pos h,xz.2 g2]at d
  omega
 refine Or.inl ⟨xM (fun e=>g1 (Or.inl e)) fun y g=>?_,fun e=>g1 (Or.inr ω)⟩
 rcases List.mem_append.1 (g2 y g)with h2|h2
 ·exact h2
 rw[List.mem_singleton]at h2;rw[h2]at g;exact absurd g h
theorem infoEd:(prog.info? 47).map (fun i=>(i.zero,i.size,i.bytes))=some (some (.agg #[.slice none 0 0,.int .i64 0,.bool false]),3,40):=by kernel_rfl
def dS:List EdL->List Value
 | []=>[]
 |y :: r=>.slice y.A y.x.pl.length y.c :: .int .i64 y.x.n :: .bool y.x.clear :: dS r
theorem cellsX_append(a b:List EdL):dS (a++b)=dS a++dS b:=by
 induction a with
 |nil=>rfl
 |cons x r ih=>simp[dS,ih]
theorem Eh(ys:List EdL):∀k,k<ys.length->(dS ys)[k*3]?=some (.slice (ys.getD k di).A (ys.getD k di).x.pl.length (ys.getD k di).c)/\(dS ys)[k*3+1]?=some (.int .i64 (ys.getD k di).x.n)/\(dS ys)[k*3+2]?=some (.bool (ys.getD k di).x.clear):=by
 induction ys with
 |nil=>intro k a;cases a
 |cons x r ih =>
  intro k a;cases k with
  |zero=>simp[dS]
  |succ k =>
   rw[show(k+1)*3=k*3+1+1+1 by omega]
   simp only[dS,List.getElem?_cons_succ,List.getD_cons_succ];exact ih k (by simpa using a)
theorem FK(k n:Int)(w:World)(h:good k n=true):Rt 17 #[.agg #[.int .i64 k,.int .i64 n]] w (.int .i64 0):=by
 have a:(k=1/\-1000000000000<=n/\n<=1000000000000)\/((k=0\/k=2)/\n=0):=by simpa [good]using h
 clear h
 rcases a with⟨rfl,b,c⟩|⟨rfl|rfl,rfl⟩
 all_goals
  go_enter func17,ntmps17
  go_wp2;go_ret;exact⟨rfl,by go_grown⟩
end Go.Proofs.YtjfampgnhccodaaGreatDoor
