/- What Users and Leaf of -/
import Derived.Test.YtjfampgnhccodaaGreatDoorJTBD
namespace Go.Proofs.YtjfampgnhccodaaGreatDoor
open Tryz ChangeShapes WideShapes ChangeAt RowKit
set_option maxRecDepth 99999
set_option maxHeartbeats 0
section
variable {D:Nat->Dm} {n:Nat}
theorem fH(b:eT D n)(a:(ag D n).2.2=0){i:Nat}(c:i<prodN D n):nT D n (ah D n i) ((rowsL D n).getD i []):=by
 have h:=iG b a c;rw[my c,←mC b a h];exact h
theorem fg(b:eT D n)(a:(ag D n).2.2=0):rZ (rowsL D n):=Kq b a bG fun _ c=>fH b a c
theorem fG(c:eT D n)(b:(ag D n).2.2=0)(i:Nat)(a:i<(rowsL D n).length):cycB (rowsL D n) i=false:=Gr c b bG (fun _ a=>fH c b a) i a
theorem F1(c:eT D n)(b:(ag D n).2.2=0)(j:Nat)(a:j<(rowsL D n).length):((rowsL D n).getD j []).Pairwise (· < ·):=(fH c b (by rw[bG]at a;exact a)).1
theorem IY(d:eT D n)(c:(ag D n).2.2=0){i:Nat}(f:i<prodN D n):(∀z,z∈ndsX D n i↔z∈(rowsL D n).getD i [])/\(ndsX D n i).Nodup:=by
 have h:=iG d c f;have e:((ndsX D n i).mergeSort fun a b=>decide (a<=b))=(rowsL D n).getD i []:=by rw[my f,mC d c h]
 refine⟨fun z=>by rw[←e];exact(List.mergeSort_perm _ _).mem_iff.symm,?_⟩
 have g:((ndsX D n i).mergeSort fun a b=>decide (a<=b)).Nodup:=h.1.imp fun h=>ω
 exact(List.mergeSort_perm _ _).nodup_iff.1 g
theorem Dk{p:List Int}(m:placeErr D n p=0):leafV D n p=decide (byTo D p n = -1):=by
 have d:∀k,k<=n->(byTo D p k = -1↔∀i,i<k->bz D p i=false):=by
  intro k
  induction k with
  |zero=>intro _;exact⟨fun _ i g=>absurd g (Nat.not_lt_zero _),fun _=>rfl⟩
  |succ k ih =>
   intro q;have c:=ih ω
   constructor
   ·intro h i g
    have f :¬(leafB (D k).mem (D k).n (p.getD k 0).toNat=false/\(byTo D p k<0\/(D (byTo D p k).toNat).solve<(D k).solve)):=fun f=>by
     unfold byTo at h;rw[if_pos f]at h
     omega
    have l:byTo D p k = -1:=by
     unfold byTo at h;rw[if_neg f]at h;exact h
    by_cases e:i=k
    ·subst e
     unfold bz;cases hl:leafB (D i).mem (D i).n (p.getD i 0).toNat with
     |true=>rfl
     |false=>exact absurd ⟨hl,Or.inl (by rw[l];omega)⟩ f
    exact c.1 l i ω
   intro h;have b:=h k ω
   unfold byTo;rw[if_neg fun a=>by
    unfold bz at b;rw[a.1]at b;exact absurd b (by decide)]
   exact c.2 fun i g=>h i ω
 unfold leafV;rw[if_pos m]
 rcases findFrom_cases (bz D p) n 0 with⟨a,b⟩|⟨k,a,-,o,j,-⟩
 ·rw[a,decide_eq_true ((d n zT).2 fun i g=>b i zU ω)]
  decide
 have hne :¬byTo D p n = -1:=fun e=>by
  have:=(d n zT).1 e k ω
  rw[this]at j;cases j
 rw[a,decide_eq_false hne,decide_eq_true ω]
 rfl
end
theorem Ky(Nn:List (List Int))(m k:Nat):bv Nn m (k+1)=bv Nn m k++(if(m:Int)∈Nn.getD k []then[(k:Int)]else[]):=by
 unfold bv;rw[selTo];simp only[List.contains_iff_mem]
theorem vo(Nn:List (List Int))(m k:Nat):(bv Nn m k).length<=k:=by unfold bv;exact ea _ _
theorem Mv(p:Nat->Bool)(k:Nat):(selTo p k).length<=k:=ea _ _
structure UM(w:World)(B gU N:Nat)(UV:Nat->Value)(UL:Nat->List Int):Prop where
 hU:eQ w gU N 42 UV
 own:∀j,j<N->w.ownsRow B 3 1 (UV j) (UL j).length (aA (UL j))
 dU:∀i j,i<N->j<N->i≠j->∀b,(UV i).ownBlock=some b->(UV j).ownBlock≠some b
 lU:B<=gU
section
variable {w w':World} {B gU N:Nat} {UV:Nat->Value} {UL:Nat->List Int}
theorem UM.later(h:UM w B gU N UV UL)(a:Bl w w'):UM w' B gU N UV UL :=
 ⟨h.hU.same (a.block _ h.hU.lt),fun j b=>ak (h.own j b) a,h.dU,h.lU⟩
theorem UM.off(h:UM w B gU N UV UL){b:Nat}{a:Array Value}(c:w.heap[b]?=some (.cells a 3 (0,0))):b≠gU:=h.hU.off c g9
theorem UM.made(w:World)(N:Nat):UM (w.alloc (.cells (madeCells #[.slice none 0 0] N) 42)) w.heap.size w.heap.size N (fun _=>.slice none 0 0) (fun _=>[]):=
 ⟨eQ.made w N 42 (.slice none 0 0),fun _ _=>World.ownsRow_nil _ _ _ _,fun _ _ _ _ _ _ h=>(by cases h),zT⟩
theorem UM.pushU(h:UM w B gU N UV UL){w4 w6:World}{k:Nat}{L:List Int}{v:Value}{H:Nat}(A:k<N)(t:Bl w w4)(z:w4.grownBy w6 (UV k).ownBlock)(D:w6.ownsRow B 3 1 v L.length (aA L))(o:v.ownBlock=(UV k).ownBlock\/v.ownBlock=some H)(G:w.heap.size<=H):
  UM (w6.setCell ⟨gU,k,none⟩ v) B gU N (fun j=>if j=k then v else UV j) (fun j=>if j=k then L else UL j):=by
 have E:=fun b (e:(UV k).ownBlock=some b)=>aO (h.own k A) e
 have l:∀b,b<w.heap.size->(UV k).ownBlock≠some b->w6.heap[b]?=w.heap[b]?:=fun b a c=>(z.block b (zW a t.size) (fun e=>c e.symm)).trans (t.block b a)
 have C:(UV k).ownBlock≠some gU:=fun e=>by obtain⟨-,-,q,u⟩:=E gU e;exact(h.off u) rfl
 have F:v.ownBlock≠some gU:=fun e=>by
  rcases o with g|g
  ·exact C (g.symm.trans e)
  rw[g]at e;have:=h.hU.lt;simp at e;omega
 have y:∀(v1:Value) (L1:List Int),w.ownsRow B 3 1 v1 L1.length (aA L1)->(∀b,v1.ownBlock=some b->(UV k).ownBlock≠some b)->w6.ownsRow B 3 1 v1 L1.length (aA L1):=fun v1 L1 g s=>iN (ak g t) z s
 have n:∀(v1:Value) (L1:List Int),w.ownsRow B 3 1 v1 L1.length (aA L1)->(∀b,v1.ownBlock=some b->(UV k).ownBlock≠some b)->∀b,v1.ownBlock=some b->v.ownBlock≠some b:=fun v1 L1 g s b a e=>by
  rcases o with h3|h3
  ·exact s b a (h3.symm.trans e)
  rw[h3]at e;have:=(aO g a).2.1
  simp at e
  omega
 have d:∀j,j<N->j≠k->∀b,(UV j).ownBlock=some b->(UV k).ownBlock≠some b:=fun j f c b a=>h.dU j k f A c b a
 refine⟨?_,fun j f=>?_,fun i j x f c b a=>?_,h.lU⟩
 ·exact(h.hU.same (l _ h.hU.lt C)).set fun j _=>rfl
 ·by_cases e:j=k
  ·simp only[if_pos e]
   exact dx D F
  simp only[if_neg e];refine dx (y _ _ (h.own j f) (d j f e)) fun r=>?_
  obtain⟨-,-,q,u⟩:=aO (h.own j f) r;exact(h.off u) rfl
 by_cases p:i=k
 ·simp only[if_pos p]at a
  have m:j≠k:=fun e=>c (p.trans e.symm)
  simp only[if_neg m];intro r;exact n _ _ (h.own j f) (d j f m) b r a
 simp only[if_neg p]at a
 by_cases m:j=k
 ·simp only[if_pos m]
  exact n _ _ (h.own i x) (d i x p) b a
 simp only[if_neg m];exact h.dU i j x f c b a
end
def Gz(w:World)(gU N k:Nat)(Nn:List (List Int))(w1:World):Prop := ∃UV,UM w w1.heap.size gU N UV (fun j=>bv Nn j k)/\Bl w1 w
def M3(w:World)(gU N k i:Nat)(Nn:List (List Int))(T:List Int)(A2:Option Addr)(c2:Nat)(w1:World):Prop := ∃UV,UM w w1.heap.size gU N UV (fun j=>bv Nn j k++(if(j:Int)∈T.take i then[(k:Int)]else[]))/\(∀j,j<N->∀a,A2=some a->(UV j).ownBlock≠some a.block)/\aJ w A2 c2 T/\Bl w1 w
section
variable {w w2 w1:World} {gU N k i:Nat} {Nn:List (List Int)} {T:List Int} {A2:Option Addr} {c2:Nat}
theorem Gz.next(h:Gz w gU N k Nn w1)(c:Bl w w2)(g:aJ w2 A2 c2 T)(d:∀a,A2=some a->w.heap.size<=a.block):M3 w2 gU N k 0 Nn T A2 c2 w1:=by
 obtain⟨UV,b,f⟩:=h;refine⟨UV,?_,fun j l a i e=>?_,g,ad f c⟩
 ·have e:(fun j:Nat=>bv Nn j k++(if(j:Int)∈T.take 0 then[(k:Int)]else[]))=fun j=>bv Nn j k:=by
   funext j
   simp
  rw[e];exact b.later c
 have m:=(aO (b.own j l) e).2.1;have n:=d a i
 omega
theorem M3.push(h:M3 w gU N k i Nn T A2 c2 w1)(Z:T.Nodup)(n:i<T.length){y:Nat}(U:T.getD i 0=(y:Int))(l:y<N):
  ∃AO ln m Ly,w.cell? ⟨gU,y,none⟩=some (.slice AO ln m)/\gU<w.heap.size/\ln<=k/\w.ownsRow w1.heap.size 3 1 (.slice AO ln m) ln (aA Ly)/\(∀(w5 w6:World),Bl w w5->w5.grownBy w6 (Value.slice AO ln m).ownBlock->w6.cell? ⟨gU,y,none⟩=some (.slice AO ln m)/\w6.frozen? ⟨gU,y,none⟩=false/\gU<w6.heap.size) /\
  ∀(w5 w6:World) (v:Value),Bl w w5->w6.ownsRow w1.heap.size 3 1 v (ln+1) (aA Ly++[.int .i64 (k:Int)])->w5.grownBy w6 (Value.slice AO ln m).ownBlock->(v.ownBlock=(Value.slice AO ln m).ownBlock\/v.ownBlock=some w5.heap.size)->M3 (w6.setCell ⟨gU,y,none⟩ v) gU N k (i+1) Nn T A2 c2 w1:=by
 obtain⟨UV,o,K,C,x⟩:=h;have B:(y:Int)∉T.take i:=by
  intro h;obtain⟨j,M,e⟩:=List.getElem_of_mem h;have O:j<i:=by have:=M;rw[List.length_take]at this;omega
  rw[List.getElem_take]at e;have:=List.pairwise_iff_getElem.1 Z j i ω n O
  rw[zZ,zX n,Option.getD_some]at U
  omega
 have D:w.ownsRow w1.heap.size 3 1 (UV y) (bv Nn y k).length (aA (bv Nn y k)):=by
  have h:=o.own y l;simp only[if_neg B,List.append_nil]at h;exact h
 obtain⟨AO,m,E⟩:∃AO m,UV y=.slice AO (bv Nn y k).length m:=by
  rcases D.2 with⟨G,c⟩|⟨g,cap,F,G,-⟩
  ·exact⟨none,0,by rw[G,c]⟩
  exact⟨_,_,G⟩
 have R:∀b,(UV y).ownBlock=some b->b≠gU:=fun b t=>by
  obtain⟨-,-,F,Y⟩:=aO D t;exact o.off Y
 have A:∀(w5 w6:World) (b:Nat),Bl w w5->w5.grownBy w6 (UV y).ownBlock->b<w.heap.size->(UV y).ownBlock≠some b->w6.heap[b]?=w.heap[b]?:=fun w5 w6 b d f t Q=>(f.block b (zW t d.size) (fun e=>Q e.symm)).trans (d.block b t)
 refine⟨AO,(bv Nn y k).length,m,bv Nn y k,by rw[←E];exact o.hU.cell l,o.hU.lt,vo _ _ _,by rw[←E];exact D,fun w5 w6 d f=>?_,fun w5 w6 v d W f s=>?_⟩
 ·rw[←E]at f|-
  have u:=A w5 w6 gU d f o.hU.lt (fun e=>(R gU e) rfl)
  have r:=o.hU.same u;exact⟨r.cell l,r.frozen y,r.lt⟩
 rw[←E]at f s;have P:((bv Nn y k++[(k:Int)]).length)=(bv Nn y k).length+1:=by rw[List.length_append];rfl
 have X:=o.pushU (L:=bv Nn y k++[(k:Int)]) (v:=v) (H:=w5.heap.size) l d f (by rw[P,mapI_snoc];exact W) s d.size
 have I:Bl w1 w6:=⟨f.os.trans (ad x d).os,f.tape.trans (ad x d).tape,f.output.trans (ad x d).output,zV (ad x d).size f.size,fun b t=>(f.block b (zW t (ad x d).size) (fun e=>by have:=(aO D e.symm).1;omega)).trans ((ad x d).block b t)⟩
 refine⟨fun j=>if j=y then v else UV j,?_,fun j M a q=>?_,?_,I.setCell o.lU _⟩
 ·have e:(fun j:Nat=>bv Nn j k++(if(j:Int)∈T.take (i+1)then[(k:Int)]else[]))=fun j:Nat=>if j=y then bv Nn y k++[(k:Int)]else bv Nn j k++(if(j:Int)∈T.take i then[(k:Int)]else[]):=by
   funext j
   have S:(j:Int)∈T.take (i+1)↔(j:Int)∈T.take i\/j=y:=by
    rw[List.take_succ_eq_append_getElem n,List.mem_append,List.mem_singleton];rw[zZ,zX n,Option.getD_some]at U;rw[U];exact⟨fun h=>h.imp id ω,fun h=>h.imp id ω⟩
   by_cases p:j=y
   ·rw[if_pos p,if_pos (S.2 (Or.inr p)),p]
   rw[if_neg p]
   congr 1
   by_cases u:(j:Int)∈T.take i
   ·rw[if_pos u,if_pos (S.2 (Or.inl u))]
   rw[if_neg u,if_neg (fun h=>(S.1 h).elim u p)]
  rw[e];exact X
 ·by_cases p:j=y
  ·simp only[if_pos p]
   intro e
   rcases s with h|h
   ·exact K y l a q (h.symm.trans e)
   obtain⟨-,-,c|⟨b,cs,fr,c,z,-⟩⟩:=C
   ·rw[c]at n;simp at n
   rw[q]at c;cases c;have:=(zY z).1;have V:=d.size;rw[h]at e
   simp at e
   omega
  simp only[if_neg p];exact K j M a q
 have J:aJ w6 A2 c2 T:=by
  refine C.one fun a q=>?_
  obtain⟨-,-,c|⟨b,cs,fr,c,z,-⟩⟩:=id C
  ·rw[c]at n;simp at n
  rw[q]at c;cases c;exact A w5 w6 b d f (zY z).1 (K y l _ q)
 refine J.one fun a q=>ae _ _ _ _ _ fun e=>?_
 obtain⟨-,-,c|⟨b,cs,fr,c,z,-⟩⟩:=id C
 ·rw[c]at n;simp at n
 rw[q]at c;cases c;exact o.hU.off z g9 e
theorem M3.done(h:M3 w gU N k T.length Nn T A2 c2 w1)(a:∀z,z∈T↔z∈Nn.getD k []):Gz w gU N (k+1) Nn w1:=by
 obtain⟨UV,d,-,-,c⟩:=h;refine⟨UV,?_,c⟩;have e:(fun j=>bv Nn j (k+1))=fun j:Nat=>bv Nn j k++(if(j:Int)∈T.take T.length then[(k:Int)]else[]):=by
  funext j
  rw[Ky,List.take_length]
  congr 1
  by_cases h:(j:Int)∈T
  ·rw[if_pos h,if_pos ((a _).1 h)]
  rw[if_neg h,if_neg fun b=>h ((a _).2 b)]
 rw[e];exact d
end
theorem tW(Y g n:Nat)(D:Nat->Dm)(X:Nat->AL)(w:World)(K:eT D n)(u:(ag D n).2.2=0)(hA:cM w Y g n D X):
  Calls prog 106 #[.pointer (some ⟨Y,0,none⟩)] w fun e w' =>∃gU,e=.returned (.slice (some ⟨gU,0,none⟩) (prodN D n) (prodN D n))/\Gz w' gU (prodN D n) (prodN D n) (rowsL D n) w:=by
 obtain⟨i0,ak,au,av,aw⟩:=info_parts infoInt;obtain⟨aH,aI,ap,hd⟩:=ao u;have o:Hid (∀k w',k<prodN D n->Bl w w'->Calls prog 69 #[.pointer (some ⟨Y,0,none⟩),.int .i64 k] w' fun e ab=>(∃A' l,e=.returned (.slice A' (ndsX D n k).length l)/\aJ ab A' l (ndsX D n k)/\∀a,A'=some a->w'.heap.size<=a.block)/\Bl w' ab):=fun k w' x hB=>by
  refine(ng Y g n D X k w' K u x (hA.later hB)).mono ?_;rintro e ab⟨⟨v,rfl,J⟩,hb⟩;obtain⟨A',l,rfl,hI⟩:=cY J;exact⟨⟨A',l,rfl,hI,fun a ha=>(aO J (by rw[ha];rfl)).1⟩,hb⟩
 have f:Hid (∀k,k<prodN D n->(ndsX D n k).length<=12/\(∀z∈ndsX D n k,∃y:Nat,z=(y:Int)/\y<prodN D n)/\(ndsX D n k).Nodup/\∀z,z∈ndsX D n k↔z∈(rowsL D n).getD k []):=fun k x=>by
  obtain⟨h1,h2⟩:=IY K u x;refine⟨po K u x,fun z hz=>?_,h2,h1⟩
  have:=fg K u k (by rw[bG];exact x) z ((h1 z).1 hz)
  rw[bG]at this;exact⟨z.toNat,ω,ω⟩
 obtain⟨hq,-,q1⟩:=hA.cells;obtain⟨Nn,I⟩:=ar (rowsL D n);rw[I]at f|-;obtain⟨N,hN⟩:=ar (prodN D n);rw[hN]at o f ap q1|-;have aB:(N:Int)<=3000:=ω;have an:=run_make_row' (P:=prog) 141 42 (.slice none 0 0) 24 underlying141 infoRow rfl .i64 .i64 N ω ω
 have ac:Hid (Gz (w.alloc (.cells (madeCells #[.slice none 0 0] N) 42)) w.heap.size N 0 Nn w):=⟨_,UM.made w N,by go_grown⟩
 generalize ndsX D n=nx at o f;clear hA u K hd I hN
 go_enter func106,ntmps106
 go_wp2_with fail
 go_loopg [16] N (fun gg ax wr =>∃(k:Nat),k<=N/\gg=N-k/\ax=.int .i64 k/\Hid (Gz wr w.heap.size N k Nn w))
 case atStart=>exact⟨0,zU,rfl,rfl,ac⟩
 case round =>
  obtain⟨k,x,rfl,rfl,HK⟩:=hrel
  by_cases V:k<N
  ·have aF:(k:Int)<(N:Int):=ω;have Z:Hid (Bl w wr):=by obtain⟨-,-,h⟩:=HK.o;exact h
   have j:=o.o k wr V Z.o;obtain⟨E,q,s,r⟩:=f.o k V;obtain⟨T,hT⟩:=ar (nx k);rw[hT]at j E q s r;have PT:=aa q;have ae:Hid T.Nodup:=s;have ad:=aa r;obtain⟨tl,t⟩:=ar T.length;have p:=aa t;rw[t]at j E;have aK:(tl:Int)<=12:=ω;clear q s r hT t;go_wp2_with fail;refine j.mono ?_;rintro e w3⟨⟨A2,c2,rfl,H,F⟩,O⟩;have B:=aa (HK.o.next O H F);clear j H F O;go_wp2_with fail
   go_loopg [23] tl (fun gg ay wi =>∃(i:Nat),i<=tl/\gg=tl-i/\ay=.int .i64 i/\Hid (M3 wi w.heap.size N k i Nn T A2 c2 w))
   case atStart=>exact⟨0,zU,rfl,rfl,B⟩
   case round =>
    obtain⟨i,hi,rfl,rfl,W⟩:=hrel
    by_cases U:i<tl
    ·have aE:(i:Int)<(tl:Int):=ω;have d:i<T.length:=by rw[p.o];exact U
     obtain⟨y,hy,aq⟩:=PT.o _ (gn d);have aL:(y:Int)<(N:Int):=ω;obtain⟨AO,ln,cO,Ly,cU,aD,aG,J,L,G⟩:=W.o.push ae.o d hy aq;have HO:=aa J;have C:=aa L;have A:=aa G;obtain⟨aj,aA⟩:aJ wr A2 c2 T/\w.heap.size<=wr.heap.size:=by
      obtain⟨UV,-,-,hI,hB⟩:=W.o;exact⟨hI,hB.size⟩
     obtain⟨ah,-,af|⟨bs,cs,fr,rfl,Q,R⟩⟩:=aj
     ·rw[af]at d;simp at d
     have cx:=R i d;have aC:bs<wr.heap.size:=(zY Q).1;rw[p.o]at ah;rw[hy]at cx;have ai:(tl:Int)<=(c2:Int):=ω;have am:ln<=3000:=ω;clear R Q J L G hy
     go_wp2_with (at_builtin;refine wpList_append_own_at _ rfl _ _ 42 rfl w.heap.size 3 i0 (.int .i64 0) 1 8 underlying42 ak au av aw rfl (by decide) _ _ _ rfl (HO.o.alloc _) ⟨wr.heap.size,0,none⟩ 1 1 [.int .i64 k] rfl rfl da ew (by unfold maxLen;omega) ω (by simp;omega) ?_)
     intro v' w6 c b _ M;obtain⟨y1,y2,y3⟩:=C.o _ _ γ b
     obtain⟨A',l,rfl⟩:∃A' l,v'=.slice A' (ln+1) l:=by
      rcases c.2 with⟨-,h⟩|⟨g',l,az,h,-⟩
      ·omega
      exact⟨_,_,h⟩
     have m:=aa (A.o _ _ _ γ c b (M.imp id fun h=>by rw[h];simp))
     clear c b M;go_wp2_with fail
     go_roundg (tl-(i+1))
     case measure=>omega
     case rel=>exact⟨i+1,ω,rfl,by go_num,m⟩
    have S:i=tl:=ω;have m:Hid (Gz wr w.heap.size N (k+1) Nn w):=by
     have h:=W.o;rw[S,←p.o]at h;exact h.done ad.o
    subst S;clear W B;go_wp2_with fail
    go_roundg (N-(k+1))
    case measure=>omega
    case rel=>exact⟨k+1,ω,rfl,by go_num,m⟩
  have al:k=N:=ω;subst al;go_wp2_with fail;go_ret;exact⟨_,rfl,HK.o⟩
theorem BH(q g n:Nat)(D:Nat->Dm)(X:Nat->AL)(x:Nat)(w:World)(c:(ag D n).2.2=0)(m:x<prodN D n)(f:cM w q g n D X):
  Rt 117 #[.pointer (some ⟨q,0,none⟩),.int .i64 x] w (.bool (leafV D n (ah D n x))):=by
 obtain⟨z,-,y⟩:=f.cells;have a:=ud q g n D X x w c m f;obtain⟨p,s,i,o⟩:=ao c;have k:=dp (D:=D) (n:=n) (x:=x) c;rw[Dk k.ok];obtain⟨r,l⟩:=ar (byTo D (ah D n x) n);rw[l]at a|-;have HV:Hid ((r == -1)=decide (r = -1)):=by
  show _=_
  by_cases h:r = -1
  ·rw[h];rfl
  rw[decide_eq_false h];simpa using h
 obtain⟨N,j⟩:=ar (prodN D n);rw[j]at y m i;have v:(x:Int)<(N:Int):=ω;obtain⟨t,u⟩:=ar ((r == -1));rw[←HV.o,u];clear f c o k l j HV
 go_enter func117,ntmps117
 go_wp2_with fail;refine a.mono ?_;rintro e w1⟨rfl,b⟩;have d:=aa b;clear b a;go_wp2_with fail;go_ret;exact⟨rfl,d.o⟩
end Go.Proofs.YtjfampgnhccodaaGreatDoor
