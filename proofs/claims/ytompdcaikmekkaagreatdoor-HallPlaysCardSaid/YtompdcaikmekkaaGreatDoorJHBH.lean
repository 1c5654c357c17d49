/- What Users and Leaf of -/
import Derived.Maps.OwnSet
import Derived.Test.YtompdcaikmekkaaGreatDoorJHBD
import Derived.Test.YtompdcaikmekkaaGreatDoorJHBG
namespace Go.Proofs.YtompdcaikmekkaaGreatDoor
open ChangeShapes WideShapes ChangeAt RowKit
set_option maxRecDepth 99999
set_option maxHeartbeats 0
section
variable {D:Nat→Dm} {n:Nat}
theorem fB (b:dH D n) (a:(am D n).2.2=0) {i:Nat} (c:i<prodN D n):eK D n (aj D n i) ((rowsL D n).getD i []):=by
 have h:=iA b a c;rw [lx c,←lC b a h];exact h
theorem ff (b:dH D n) (a:(am D n).2.2=0):ni (rowsL D n):=Gp b a bL fun _ c=>fB b a c
theorem fA (c:dH D n) (b:(am D n).2.2=0) (i:Nat) (a:i<(rowsL D n).length):cycB (rowsL D n) i=false:=Dz c b bL (fun _ a=>fB c b a) i a
theorem De (c:dH D n) (b:(am D n).2.2=0) (j:Nat) (a:j<(rowsL D n).length):((rowsL D n).getD j []).Pairwise (· < ·):=(fB c b (by rw [bL] at a;exact a)).1
theorem Fg (d:dH D n) (c:(am D n).2.2=0) {i:Nat} (f:i<prodN D n):(∀ z,z∈ndsX D n i↔z∈(rowsL D n).getD i [])∧(ndsX D n i).Nodup:=by
 have h:=iA d c f;have e:((ndsX D n i).mergeSort fun a b=>decide (a≤b))=(rowsL D n).getD i []:=by rw [lx f,lC d c h]
 refine ⟨fun z=>by rw [←e];exact (List.mergeSort_perm _ _).mem_iff.symm,?_⟩
 have g:((ndsX D n i).mergeSort fun a b=>decide (a≤b)).Nodup:=h.1.imp fun h=>by omega
 exact (List.mergeSort_perm _ _).nodup_iff.1 g
theorem zQ {p:List Int} (m:placeErr D n p=0):leafV D n p=decide (byTo D p n = -1):=by
 have d:∀ k,k≤n→(byTo D p k = -1↔∀ i,i<k→dZ D p i=false):=by
  intro k
  induction k with
  | zero=>intro _;exact ⟨fun _ i g=>absurd g (Nat.not_lt_zero _),fun _=>rfl⟩
  | succ k ih =>
   intro q;have c:=ih (by omega)
   constructor
   ·intro h i g
    have f : ¬ (leafB (D k).mem (D k).n (p.getD k 0).toNat=false∧(byTo D p k<0∨(D (byTo D p k).toNat).solve<(D k).solve)):=fun f=>by
     unfold byTo at h;rw [if_pos f] at h
     omega
    have l:byTo D p k = -1:=by
     unfold byTo at h;rw [if_neg f] at h;exact h
    by_cases e:i=k
    ·subst e
     unfold dZ;cases hl:leafB (D i).mem (D i).n (p.getD i 0).toNat with
     | true=>rfl
     | false=>exact absurd ⟨hl,Or.inl (by rw [l];omega)⟩ f
    exact c.1 l i (by omega)
   intro h;have b:=h k (by omega)
   unfold byTo;rw [if_neg fun a=>by
    unfold dZ at b;rw [a.1] at b;exact absurd b (by decide)]
   exact c.2 fun i g=>h i (by omega)
 unfold leafV;rw [if_pos m]
 rcases findFrom_cases (dZ D p) n 0 with ⟨a,b⟩ | ⟨k,a,-,o,j,-⟩
 ·rw [a,decide_eq_true ((d n (zT)).2 fun i g=>b i (zU) (by omega))]
  decide
 have hne : ¬ byTo D p n = -1:=fun e=>by
  have:=(d n (zT)).1 e k (by omega)
  rw [this] at j;cases j
 rw [a,decide_eq_false hne,decide_eq_true (by omega)]
 rfl
end
theorem Gw (Nn:List (List Int)) (m k:Nat):bC Nn m (k+1)=bC Nn m k ++ (if (m:Int)∈Nn.getD k [] then [(k:Int)] else []):=by
 unfold bC;rw [selTo];simp only [List.contains_iff_mem]
theorem tg (Nn:List (List Int)) (m k:Nat):(bC Nn m k).length≤k:=by unfold bC;exact cF _ _
theorem Il (p:Nat→Bool) (k:Nat):(selTo p k).length≤k:=cF _ _
structure UM (w:World) (B gU N:Nat) (UV:Nat→Value) (UL:Nat→List Int):Prop where
 hU:eR w gU N 26 UV
 own:∀ j,j<N→w.ownsRow B 3 1 (UV j) (UL j).length (aF (UL j))
 dU:∀ i j,i<N→j<N→i≠j→∀ b,(UV i).ownBlock=some b→(UV j).ownBlock≠some b
 lU:B≤gU
section
variable {w w':World} {B gU N:Nat} {UV:Nat→Value} {UL:Nat→List Int}
theorem UM.later (h:UM w B gU N UV UL) (a:Bl w w'):UM w' B gU N UV UL :=
 ⟨h.hU.same (a.block _ h.hU.lt),fun j b=>ao (h.own j b) a,h.dU,h.lU⟩
theorem UM.off (h:UM w B gU N UV UL) {b:Nat} {a:Array Value} (c:w.heap[b]?=some (.cells a 3 (0,0))):b≠gU:=h.hU.off c gX
theorem UM.made (w:World) (N:Nat):UM (w.alloc (.cells (madeCells #[.slice none 0 0] N) 26)) w.heap.size w.heap.size N (fun _=>.slice none 0 0) (fun _=>[]) :=
 ⟨eR.made w N 26 (.slice none 0 0),fun _ _=>World.ownsRow_nil _ _ _ _,fun _ _ _ _ _ _ h=>(by cases h),zT⟩
theorem UM.pushU (h:UM w B gU N UV UL) {w4 w6:World} {k:Nat} {L:List Int} {v:Value} {H:Nat} (A:k<N) (t:Bl w w4) (z:w4.grownBy w6 (UV k).ownBlock) (D:w6.ownsRow B 3 1 v L.length (aF L)) (o:v.ownBlock=(UV k).ownBlock∨v.ownBlock=some H) (G:w.heap.size≤H) :
  UM (w6.setCell ⟨gU,k,none⟩ v) B gU N (fun j=>if j=k then v else UV j) (fun j=>if j=k then L else UL j):=by
 have E:=fun b (e:(UV k).ownBlock=some b)=>bO (h.own k A) e
 have l:∀ b,b<w.heap.size→(UV k).ownBlock≠some b→w6.heap[b]?=w.heap[b]?:=fun b a c=>(z.block b (zW a t.size) (fun e=>c e.symm)).trans (t.block b a)
 have C:(UV k).ownBlock≠some gU:=fun e=>by obtain ⟨-,-,q,u⟩:=E gU e;exact (h.off u) rfl
 have F:v.ownBlock≠some gU:=fun e=>by
  rcases o with g | g
  ·exact C (g.symm.trans e)
  rw [g] at e;have:=h.hU.lt;simp at e;omega
 have y:∀ (v1:Value) (L1:List Int),w.ownsRow B 3 1 v1 L1.length (aF L1)→(∀ b,v1.ownBlock=some b→(UV k).ownBlock≠some b)→w6.ownsRow B 3 1 v1 L1.length (aF L1):=fun v1 L1 g s=>iF (ao g t) z s
 have n:∀ (v1:Value) (L1:List Int),w.ownsRow B 3 1 v1 L1.length (aF L1)→(∀ b,v1.ownBlock=some b→(UV k).ownBlock≠some b)→∀ b,v1.ownBlock=some b→v.ownBlock≠some b:=fun v1 L1 g s b a e=>by
  rcases o with h3 | h3
  ·exact s b a (h3.symm.trans e)
  rw [h3] at e;have:=(bO g a).2.1
  simp at e
  omega
 have d:∀ j,j<N→j≠k→∀ b,(UV j).ownBlock=some b→(UV k).ownBlock≠some b:=fun j f c b a=>h.dU j k f A c b a
 refine ⟨?_,fun j f=>?_,fun i j x f c b a=>?_,h.lU⟩
 ·exact (h.hU.same (l _ h.hU.lt C)).set fun j _=>rfl
 ·by_cases e:j=k
  ·simp only [if_pos e]
   exact fd D F
  simp only [if_neg e];refine fd (y _ _ (h.own j f) (d j f e)) fun r=>?_
  obtain ⟨-,-,q,u⟩:=bO (h.own j f) r;exact (h.off u) rfl
 by_cases p:i=k
 ·simp only [if_pos p] at a
  have m:j≠k:=fun e=>c (p.trans e.symm)
  simp only [if_neg m];intro r;exact n _ _ (h.own j f) (d j f m) b r a
 simp only [if_neg p] at a
 by_cases m:j=k
 ·simp only [if_pos m]
  exact n _ _ (h.own i x) (d i x p) b a
 simp only [if_neg m];exact h.dU i j x f c b a
end
def DH (w:World) (gU N k:Nat) (Nn:List (List Int)) (w1:World):Prop := ∃ UV,UM w w1.heap.size gU N UV (fun j=>bC Nn j k)∧Bl w1 w
def IM (w:World) (gU N k i:Nat) (Nn:List (List Int)) (T:List Int) (A2:Option Addr) (c2:Nat) (w1:World):Prop := ∃ UV,UM w w1.heap.size gU N UV (fun j=>bC Nn j k ++ (if (j:Int)∈T.take i then [(k:Int)] else []))∧(∀ j,j<N→∀ a,A2=some a→(UV j).ownBlock≠some a.block)∧aR w A2 c2 T∧Bl w1 w
section
variable {w w2 w1:World} {gU N k i:Nat} {Nn:List (List Int)} {T:List Int} {A2:Option Addr} {c2:Nat}
theorem DH.next (h:DH w gU N k Nn w1) (c:Bl w w2) (g:aR w2 A2 c2 T) (d:∀ a,A2=some a→w.heap.size≤a.block):IM w2 gU N k 0 Nn T A2 c2 w1:=by
 obtain ⟨UV,b,f⟩:=h;refine ⟨UV,?_,fun j l a i e=>?_,g,ae f c⟩
 ·have e:(fun j:Nat=>bC Nn j k ++ (if (j:Int)∈T.take 0 then [(k:Int)] else []))=fun j=>bC Nn j k:=by
   funext j
   simp
  rw [e];exact b.later c
 have m:=(bO (b.own j l) e).2.1;have n:=d a i
 omega
theorem IM.push (h:IM w gU N k i Nn T A2 c2 w1) (Z:T.Nodup) (n:i<T.length) {y:Nat} (U:T.getD i 0=(y:Int)) (l:y<N) :
  ∃ AO ln m Ly,w.cell? ⟨gU,y,none⟩=some (.slice AO ln m)∧gU<w.heap.size∧ln≤k∧w.ownsRow w1.heap.size 3 1 (.slice AO ln m) ln (aF Ly)∧(∀ (w5 w6:World),Bl w w5→w5.grownBy w6 (Value.slice AO ln m).ownBlock→w6.cell? ⟨gU,y,none⟩=some (.slice AO ln m)∧w6.frozen? ⟨gU,y,none⟩=false∧gU<w6.heap.size) ∧
  ∀ (w5 w6:World) (v:Value),Bl w w5→w6.ownsRow w1.heap.size 3 1 v (ln+1) (aF Ly ++ [.int .i64 (k:Int)])→w5.grownBy w6 (Value.slice AO ln m).ownBlock→(v.ownBlock=(Value.slice AO ln m).ownBlock∨v.ownBlock=some w5.heap.size)→IM (w6.setCell ⟨gU,y,none⟩ v) gU N k (i+1) Nn T A2 c2 w1:=by
 obtain ⟨UV,o,K,C,x⟩:=h;have B:(y:Int)∉T.take i:=by
  intro h;obtain ⟨j,M,e⟩:=List.getElem_of_mem h;have O:j<i:=by have:=M;rw [List.length_take] at this;omega
  rw [List.getElem_take] at e;have:=List.pairwise_iff_getElem.1 Z j i (by omega) n O
  rw [zZ,zX n,Option.getD_some] at U
  omega
 have D:w.ownsRow w1.heap.size 3 1 (UV y) (bC Nn y k).length (aF (bC Nn y k)):=by
  have h:=o.own y l;simp only [if_neg B,List.append_nil] at h;exact h
 obtain ⟨AO,m,E⟩:∃ AO m,UV y=.slice AO (bC Nn y k).length m:=by
  rcases D.2 with ⟨G,c⟩ | ⟨g,cap,F,G,-⟩
  ·exact ⟨none,0,by rw [G,c]⟩
  exact ⟨_,_,G⟩
 have R:∀ b,(UV y).ownBlock=some b→b≠gU:=fun b t=>by
  obtain ⟨-,-,F,Y⟩:=bO D t;exact o.off Y
 have A:∀ (w5 w6:World) (b:Nat),Bl w w5→w5.grownBy w6 (UV y).ownBlock→b<w.heap.size→(UV y).ownBlock≠some b→w6.heap[b]?=w.heap[b]?:=fun w5 w6 b d f t Q=>(f.block b (zW t d.size) (fun e=>Q e.symm)).trans (d.block b t)
 refine ⟨AO,(bC Nn y k).length,m,bC Nn y k,by rw [←E];exact o.hU.cell l,o.hU.lt,tg _ _ _,by rw [←E];exact D,fun w5 w6 d f=>?_,fun w5 w6 v d W f s=>?_⟩
 ·rw [←E] at f ⊢
  have u:=A w5 w6 gU d f o.hU.lt (fun e=>(R gU e) rfl)
  have r:=o.hU.same u;exact ⟨r.cell l,r.frozen y,r.lt⟩
 rw [←E] at f s;have P:((bC Nn y k ++ [(k:Int)]).length)=(bC Nn y k).length+1:=by rw [List.length_append];rfl
 have X:=o.pushU (L:=bC Nn y k ++ [(k:Int)]) (v:=v) (H:=w5.heap.size) l d f (by rw [P,mapI_snoc];exact W) s d.size
 have I:Bl w1 w6:=⟨f.os.trans (ae x d).os,f.tape.trans (ae x d).tape,f.output.trans (ae x d).output,zV (ae x d).size f.size,fun b t=>(f.block b (zW t (ae x d).size) (fun e=>by have:=(bO D e.symm).1;omega)).trans ((ae x d).block b t)⟩
 refine ⟨fun j=>if j=y then v else UV j,?_,fun j M a q=>?_,?_,I.setCell o.lU _⟩
 ·have e:(fun j:Nat=>bC Nn j k ++ (if (j:Int)∈T.take (i+1) then [(k:Int)] else []))=fun j:Nat=>if j=y then bC Nn y k ++ [(k:Int)] else bC Nn j k ++ (if (j:Int)∈T.take i then [(k:Int)] else []):=by
   funext j
   have S:(j:Int)∈T.take (i+1)↔(j:Int)∈T.take i∨j=y:=by
    rw [List.take_succ_eq_append_getElem n,List.mem_append,List.mem_singleton];rw [zZ,zX n,Option.getD_some] at U;rw [U];exact ⟨fun h=>h.imp id (by omega),fun h=>h.imp id (by omega)⟩
   by_cases p:j=y
   ·rw [if_pos p,if_pos (S.2 (Or.inr p)),p]
   rw [if_neg p]
   congr 1
   by_cases u:(j:Int)∈T.take i
   ·rw [if_pos u,if_pos (S.2 (Or.inl u))]
   rw [if_neg u,if_neg (fun h=>(S.1 h).elim u p)]
  rw [e];exact X
 ·by_cases p:j=y
  ·simp only [if_pos p]
   intro e
   rcases s with h | h
   ·exact K y l a q (h.symm.trans e)
   obtain ⟨-,-,c | ⟨b,cs,fr,c,z,-⟩⟩:=C
   ·rw [c] at n;simp at n
   rw [q] at c;cases c;have:=(zY z).1;have V:=d.size;rw [h] at e
   simp at e
   omega
  simp only [if_neg p];exact K j M a q
 have J:aR w6 A2 c2 T:=by
  refine C.one fun a q=>?_
  obtain ⟨-,-,c | ⟨b,cs,fr,c,z,-⟩⟩:=id C
  ·rw [c] at n;simp at n
  rw [q] at c;cases c;exact A w5 w6 b d f (zY z).1 (K y l _ q)
 refine J.one fun a q=>av _ _ _ _ _ fun e=>?_
 obtain ⟨-,-,c | ⟨b,cs,fr,c,z,-⟩⟩:=id C
 ·rw [c] at n;simp at n
 rw [q] at c;cases c;exact o.hU.off z gX e
theorem IM.done (h:IM w gU N k T.length Nn T A2 c2 w1) (a:∀ z,z∈T↔z∈Nn.getD k []):DH w gU N (k+1) Nn w1:=by
 obtain ⟨UV,d,-,-,c⟩:=h;refine ⟨UV,?_,c⟩;have e:(fun j=>bC Nn j (k+1))=fun j:Nat=>bC Nn j k ++ (if (j:Int)∈T.take T.length then [(k:Int)] else []):=by
  funext j
  rw [Gw,List.take_length]
  congr 1
  by_cases h:(j:Int)∈T
  ·rw [if_pos h,if_pos ((a _).1 h)]
  rw [if_neg h,if_neg fun b=>h ((a _).2 b)]
 rw [e];exact d
end
theorem rN (Y g n:Nat) (D:Nat→Dm) (X:Nat→AL) (w:World) (K:dH D n) (u:(am D n).2.2=0) (hA:cI w Y g n D X) :
  Calls Tryz.prog 96 #[.pointer (some ⟨Y,0,none⟩)] w fun e w' => ∃ gU,e=.returned (.slice (some ⟨gU,0,none⟩) (prodN D n) (prodN D n))∧DH w' gU (prodN D n) (prodN D n) (rowsL D n) w:=by
 obtain ⟨i0,hi0,hz0,hz1,hz2⟩:=info_parts Tryz.infoInt;obtain ⟨hn1,hn4,hp3,hd⟩:=au u;have o:Hid (∀ k w',k<prodN D n→Bl w w'→Calls Tryz.prog 78 #[.pointer (some ⟨Y,0,none⟩),.int .i64 k] w' fun e w''=>(∃ A' l,e=.returned (.slice A' (ndsX D n k).length l)∧aR w'' A' l (ndsX D n k)∧∀ a,A'=some a→w'.heap.size≤a.block)∧Bl w' w''):=fun k w' x hB=>by
  refine (mn Y g n D X k w' K u x (hA.later hB)).mono ?_;rintro e w'' ⟨⟨v,rfl,J⟩,hb⟩;obtain ⟨A',l,rfl,hI⟩:=bP J;exact ⟨⟨A',l,rfl,hI,fun a ha=>(bO J (by rw [ha];rfl)).1⟩,hb⟩
 have f:Hid (∀ k,k<prodN D n→(ndsX D n k).length≤12∧(∀ z∈ndsX D n k,∃ y:Nat,z=(y:Int)∧y<prodN D n)∧(ndsX D n k).Nodup∧∀ z,z∈ndsX D n k↔z∈(rowsL D n).getD k []):=fun k x=>by
  obtain ⟨h1,h2⟩:=Fg K u x;refine ⟨nB K u x,fun z hz=>?_,h2,h1⟩
  have:=ff K u k (by rw [bL];exact x) z ((h1 z).1 hz)
  rw [bL] at this;exact ⟨z.toNat,by omega,by omega⟩
 obtain ⟨hq,-,q1⟩:=hA.cells;obtain ⟨Nn,I⟩:=aA (rowsL D n);rw [I] at f ⊢;obtain ⟨N,hN⟩:=aA (prodN D n);rw [hN] at o f hp3 q1 ⊢;have hNI:(N:Int)≤3000:=by omega
 have hmkR:=run_make_row' (P:=Tryz.prog) 71 26 (.slice none 0 0) 24 Tryz.underlying71 Tryz.infoRow rfl .i64 .i64 N (by omega) (by omega)
 have HK1:Hid (DH (w.alloc (.cells (madeCells #[.slice none 0 0] N) 26)) w.heap.size N 0 Nn w):=⟨_,UM.made w N,by go_grown⟩
 generalize ndsX D n=nx at o f;clear hA u K hd I hN
 go_enter Tryz.func96,Tryz.ntmps96
 go_wp2_with fail
 go_loopg [16] N (fun gg s16 wr => ∃ (k:Nat),k≤N∧gg=N-k∧s16=.int .i64 k∧Hid (DH wr w.heap.size N k Nn w))
 case atStart=>exact ⟨0,zU,rfl,rfl,HK1⟩
 case round =>
  obtain ⟨k,x,rfl,rfl,HK⟩:=hrel
  by_cases V:k<N
  ·have hki:(k:Int)<(N:Int):=by omega
   have Z:Hid (Bl w wr):=by obtain ⟨-,-,h⟩:=HK.out;exact h
   have j:=o.out k wr V Z.out;obtain ⟨E,q,s,r⟩:=f.out k V;obtain ⟨T,hT⟩:=aA (nx k);rw [hT] at j E q s r;have KG:=aa q;have HRi:Hid T.Nodup:=s;have HMe:=aa r;obtain ⟨tl,t⟩:=aA T.length;have p:=aa t;rw [t] at j E;have htI:(tl:Int)≤12:=by omega
   clear q s r hT t;go_wp2_with fail;refine j.mono ?_;rintro e w3 ⟨⟨A2,c2,rfl,H,F⟩,O⟩;have B:=aa (HK.out.next O H F);clear j H F O;go_wp2_with fail
   go_loopg [23] tl (fun gg s23 wi => ∃ (i:Nat),i≤tl∧gg=tl-i∧s23=.int .i64 i∧Hid (IM wi w.heap.size N k i Nn T A2 c2 w))
   case atStart=>exact ⟨0,zU,rfl,rfl,B⟩
   case round =>
    obtain ⟨i,hi,rfl,rfl,W⟩:=hrel
    by_cases U:i<tl
    ·have hii:(i:Int)<(tl:Int):=by omega
     have d:i<T.length:=by rw [p.out];exact U
     obtain ⟨y,hy,hyN⟩:=KG.out _ (gi d);have hyI:(y:Int)<(N:Int):=by omega
     obtain ⟨AO,ln,cO,Ly,cU,hgl,hln,J,L,G⟩:=W.out.push HRi.out d hy hyN;have HO:=aa J;have C:=aa L;have A:=aa G;obtain ⟨hcT,hBs⟩:aR wr A2 c2 T∧w.heap.size≤wr.heap.size:=by
      obtain ⟨UV,-,-,hI,hB⟩:=W.out;exact ⟨hI,hB.size⟩
     obtain ⟨hcS,-,hS0 | ⟨bs,cs,fr,rfl,Q,R⟩⟩:=hcT
     ·rw [hS0] at d;simp at d
     have cx:=R i d;have hbs:bs<wr.heap.size:=(zY Q).1;rw [p.out] at hcS;rw [hy] at cx;have hcSI:(tl:Int)≤(c2:Int):=by omega
     have hlnI:ln≤3000:=by omega
     clear R Q J L G hy
     go_wp2_with (at_builtin;refine wpList_append_own_at _ rfl _ _ 26 rfl w.heap.size 3 i0 (.int .i64 0) 1 8 Tryz.underlying26 hi0 hz0 hz1 hz2 rfl (by decide) _ _ _ rfl (HO.out.alloc _) ⟨wr.heap.size,0,none⟩ 1 1 [.int .i64 k] rfl rfl bw dF (by unfold maxLen;omega) (by omega) (by simp;omega) ?_)
     intro v' w6 c b _ M;obtain ⟨y1,y2,y3⟩:=C.out _ _ (by go_grown) b
     obtain ⟨A',l,rfl⟩:∃ A' l,v'=.slice A' (ln+1) l:=by
      rcases c.2 with ⟨-,h⟩ | ⟨g',l,cur,h,-⟩
      ·omega
      exact ⟨_,_,h⟩
     have m:=aa (A.out _ _ _ (by go_grown) c b (M.imp id fun h=>by rw [h];simp))
     clear c b M;go_wp2_with fail
     go_roundg (tl-(i+1))
     case measure=>omega
     case rel=>exact ⟨i+1,by omega,rfl,by go_num,m⟩
    have S:i=tl:=by omega
    have m:Hid (DH wr w.heap.size N (k+1) Nn w):=by
     have h:=W.out;rw [S,←p.out] at h;exact h.done HMe.out
    subst S;clear W B;go_wp2_with fail
    go_roundg (N-(k+1))
    case measure=>omega
    case rel=>exact ⟨k+1,by omega,rfl,by go_num,m⟩
  have hke:k=N:=by omega
  subst hke;go_wp2_with fail;go_ret;exact ⟨_,rfl,HK.out⟩
theorem ye (q g n:Nat) (D:Nat→Dm) (X:Nat→AL) (x:Nat) (w:World) (c:(am D n).2.2=0) (m:x<prodN D n) (f:cI w q g n D X) :
  Rt 95 #[.pointer (some ⟨q,0,none⟩),.int .i64 x] w (.bool (leafV D n (aj D n x))):=by
 obtain ⟨z,-,y⟩:=f.cells;have a:=r9 q g n D X x w c m f;obtain ⟨p,s,i,o⟩:=au c;have k:=bY (D:=D) (n:=n) (x:=x) c;rw [zQ k.ok];obtain ⟨r,l⟩:=aA (byTo D (aj D n x) n);rw [l] at a ⊢;have HV:Hid ((r == -1)=decide (r = -1)):=by
  show _=_
  by_cases h:r = -1
  ·rw [h];rfl
  rw [decide_eq_false h];simpa using h
 obtain ⟨N,j⟩:=aA (prodN D n);rw [j] at y m i;have v:(x:Int)<(N:Int):=by omega
 obtain ⟨t,u⟩:=aA ((r == -1));rw [←HV.out,u];clear f c o k l j HV
 go_enter Tryz.func95,Tryz.ntmps95
 go_wp2_with fail;refine a.mono ?_;rintro e w1 ⟨rfl,b⟩;have d:=aa b;clear b a;go_wp2_with fail;go_ret;exact ⟨rfl,d.out⟩
inductive Rea (nx:Nat→List Int) (S:List Int):Int→Prop
 | base {x:Int}:x∈S→Rea nx S x
 | step {y:Nat} {x:Int}:Rea nx S (y:Int)→x∈nx y→Rea nx S x
def zk (N:Nat) (L:List Int):Prop := ∀ z∈L,∃ y:Nat,z=(y:Int)∧y<N
theorem zN {N:Nat} {L:List Int} (h:zk N L) (a:L.Nodup):L.length≤N:=few N L a fun x b=>by
 obtain ⟨y,rfl,c⟩:=h x b
 omega
structure ReI (nx:Nat→List Int) (S L:List Int) (k:Nat):Prop where
 nd:L.Nodup
 got:∀ z∈L,Rea nx S z
 beg:∀ z∈S,z∈L
 clo:∀ j,j<k→∀ z∈nx (L.getD j 0).toNat,z∈L
theorem ReI.all {nx:Nat→List Int} {S L:List Int} (h:ReI nx S L L.length):∀ z,z∈L↔Rea nx S z:=by
 intro z;refine ⟨h.got z,fun b=>?_⟩
 induction b with
 | base hx=>exact h.beg _ hx
 | @step y x _ hx ih =>
  obtain ⟨j,a,e⟩:=List.getElem_of_mem ih;have:=h.clo j a;rw [zZ,zX a,Option.getD_some,e,Int.toNat_natCast] at this;exact this _ hx
theorem ReI.next {nx:Nat→List Int} {S L L':List Int} {k y:Nat} (h:ReI nx S L k) (i:k<L.length) (g:L.getD k 0=(y:Int)) (m:L <+: L') (l:L'.Nodup) (c:∀ z,z∈L'↔z∈L∨z∈nx y):ReI nx S L' (k+1):=by
 obtain ⟨M,rfl⟩:=m;have b:∀ j,j<L.length→(L ++ M).getD j 0=L.getD j 0:=fun j f=>by
  rw [zZ,zZ,List.getElem?_append_left f]
 refine ⟨l,fun z a=>?_,fun z a=>(c z).2 (Or.inl (h.beg z a)),fun j f z a=>?_⟩
 ·rcases (c z).1 a with h1 | h1
  ·exact h.got z h1
  have d:=h.got _ (gi i);rw [g] at d;exact .step d h1
 rw [b j (by omega)] at a
 refine (c z).2 ?_
 by_cases e:j=k
 ·subst e
  rw [g,Int.toNat_natCast] at a;exact Or.inr a
 exact Or.inl (h.clo j (by omega) z a)
theorem ReI.first {nx:Nat→List Int} {S L:List Int} (d:L.Nodup) (b:∀ z,z∈L↔z∈([]:List Int)∨z∈S):ReI nx S L 0 :=
 ⟨d,fun z a=>.base (by simpa using (b z).1 a),fun z a=>(b z).2 (Or.inr a),fun j c=>absurd c (Nat.not_lt_zero _)⟩
theorem Je {nx:Nat→List Int} {S:List Int} {N:Nat} (a:zk N S) (b:∀ y,y<N→zk N (nx y)) {z:Int} (h:Rea nx S z):∃ y:Nat,z=(y:Int)∧y<N:=by
 induction h with
 | base h=>exact a _ h
 | @step y x _ h ih =>
  obtain ⟨d,e,c⟩:=ih;have:y=d:=by omega
  subst this;exact b y c _ h
def GG (L:List Int):DataW Unit:=Maps.setOf (.agg []) (L.map (Lit.int .i64))
theorem zp (x:Int):∀ l:List Int,l.any ((fun y:Lit=>y.sameKey (.int .i64 x)) ∘ Lit.int .i64)=l.contains x
 | []=>rfl
 | a :: r=>by
  rw [List.any_cons,List.contains_cons,zp x r]
  congr 1
  show decide (IntKind.i64=IntKind.i64∧a=x)=(x == a)
  by_cases e:a=x
  ·subst e
   simp
  have e' : ¬ x=a:=fun h=>e h.symm
  simp [e,e']
theorem G6 (L:List Int) (x:Int):Maps.has (GG L) (.int .i64 x)=L.contains x:=by
 unfold GG;rw [Maps.has_setOf _ _ _ (fun y a=>by obtain ⟨_,_,rfl⟩:=List.mem_map.1 a;trivial),List.any_map]
 exact zp x _
theorem DT (L:List Int) (x:Int):GG (L ++ [x])=(GG L).put (.int .i64 x) (.agg []):=by
 unfold GG;rw [List.map_append,List.map_singleton,Maps.setOf_snoc]
theorem oU:Maps.Keyed Tryz.prog 3:=Maps.int_keyed Tryz.underlying3
theorem rP (w:World):(zeroValue 220).run Tryz.prog w=.ok (.agg #[]) w:=by kernel_rfl
structure RS (w:World) (B bS bF bM:Nat) (v:Value) (L:List Int):Prop where
 hS:w.heap[bS]?=some (.cells #[.map (some bM)] 219 (0,0))
 hF:w.heap[bF]?=some (.cells #[v] 26 (0,0))
 hM:w.ownsMap Tryz.prog 3 (unitElem (H:=Unit)) bM L.length (GG L)
 own:w.ownsRow B 3 1 v L.length (aF L)
 lS:B≤bS
 lF:B≤bF
 lM:B≤bM
section
variable {w w':World} {B bS bF bM:Nat} {v:Value} {L:List Int}
theorem RS.later (h:RS w B bS bF bM v L) (a:Bl w w'):RS w' B bS bF bM v L :=
 ⟨(a.block _ (zY h.hS).1).trans h.hS,(a.block _ (zY h.hF).1).trans h.hF,h.hM.kept (dE (r:=none) a) (by simp),ao h.own a,h.lS,h.lF,h.lM⟩
theorem RS.cells (h:RS w B bS bF bM v L):w.cell? ⟨bS,0,none⟩=some (.map (some bM))∧w.cell? ⟨bF,0,none⟩=some v∧w.frozen? ⟨bF,0,none⟩=false∧bS<w.heap.size∧bF<w.heap.size :=
 ⟨by simp [World.cell?,h.hS],by simp [World.cell?,h.hF],by simp [World.frozen?,h.hF],(zY h.hS).1,(zY h.hF).1⟩
theorem RS.map (h:RS w B bS bF bM v L):∃ b a,w.heap[bM]?=some (.map b a):=by
 obtain ⟨b,a,c,-⟩:=h.hM;exact ⟨b,a,c⟩
theorem RS.ne (h:RS w B bS bF bM v L):bS≠bM∧bF≠bM∧bS≠bF∧(∀ b,v.ownBlock=some b→b≠bS∧b≠bF∧b≠bM):=by
 obtain ⟨j,i,d⟩:=h.map;refine ⟨fun e=>?_,fun e=>?_,fun e=>?_,fun b g=>?_⟩
 ·have a:=h.hS;rw [e,d] at a;simp at a
 ·have a:=h.hF;rw [e,d] at a;simp at a
 ·have a:=h.hS;rw [e,h.hF] at a;simp at a
 obtain ⟨-,-,f,c⟩:=bO h.own g;refine ⟨fun e=>?_,fun e=>?_,fun e=>?_⟩
 ·rw [e,h.hS] at c;simp at c
 ·rw [e,h.hF] at c;simp at c
 rw [e,d] at c;simp at c
theorem RS.made (w:World):RS (((w.alloc (.cells #[.slice none 0 0] 26)).alloc (.map #[] 0)).alloc (.cells #[.map (some (w.heap.size+1))] 219)) w.heap.size (w.heap.size+2) w.heap.size (w.heap.size+1) (.slice none 0 0) []:=by
 have a:(w.alloc (.cells #[.slice none 0 0] 26)).heap.size=w.heap.size+1:=by simp
 have b:((w.alloc (.cells #[.slice none 0 0] 26)).alloc (.map #[] 0)).heap.size=w.heap.size+2:=by simp
 refine ⟨?_,?_,?_,World.ownsRow_nil _ _ _ _,by omega,zT,by omega⟩
 ·have h:=heap_alloc_new ((w.alloc (.cells #[.slice none 0 0] 26)).alloc (.map #[] 0)) (.cells #[.map (some (w.heap.size+1))] 219)
  rw [b] at h;exact h
 ·rw [heap_alloc_old _ _ (by omega),heap_alloc_old _ _ (by omega)]
  exact heap_alloc_new w _
 have h:=World.ownsMap_made (w.alloc (.cells #[.slice none 0 0] 26)) Tryz.prog 3 (unitElem (H:=Unit));rw [a] at h;exact h.alloc _
theorem RS.mid (h:RS w B bS bF bM v L) {wa w1:World} (a:Bl w wa) (c:wa.grownBy w1 (some bM)):w1.heap[bS]?=w.heap[bS]?∧w1.heap[bF]?=w.heap[bF]?∧w1.ownsRow B 3 1 v L.length (aF L):=by
 obtain ⟨n1,n2,n3,n4⟩:=h.ne;have d:=(zY h.hS).1;have f:=(zY h.hF).1;have i:=a.size;refine ⟨(c.block _ (by omega) (by simpa using n1)).trans (a.block _ d),(c.block _ (by omega) (by simpa using n2)).trans (a.block _ f),iF (ao h.own a) c fun b g e=>?_⟩
 cases e;exact (n4 _ g).2.2 rfl
theorem RS.push (h:RS w B bS bF bM v L) {wa w1 wb w2:World} {x:Int} {v':Value} (i:Bl w wa) (g:w1.ownsMap Tryz.prog 3 (unitElem (H:=Unit)) bM (L.length+1) ((GG L).put (.int .i64 x) (.agg []))) (f:wa.grownBy w1 (some bM)) (b:Bl w1 wb)
  (c:w2.ownsRow B 3 1 v' (L.length+1) (aF L ++ [.int .i64 x])) (a:wb.grownBy w2 v.ownBlock):w2.cell? ⟨bF,0,none⟩=some v∧w2.frozen? ⟨bF,0,none⟩=false∧bF<w2.heap.size∧RS (w2.setCell ⟨bF,0,none⟩ v') B bS bF bM v' (L ++ [x]):=by
 obtain ⟨n1,n2,n3,n4⟩:=h.ne;obtain ⟨m1,m2,m3⟩:=h.mid i f;have j:=(zY (m1.trans h.hS)).1;have k:=(zY (m2.trans h.hF)).1;have p:=b.size;have n:=a.size;have o:w2.heap[bS]?=some (.cells #[.map (some bM)] 219 (0,0)):=((a.block _ (by omega) fun e=>(n4 _ e.symm).1 rfl).trans (b.block _ j)).trans (m1.trans h.hS)
 have d:w2.heap[bF]?=some (.cells #[v] 26 (0,0)):=((a.block _ (by omega) fun e=>(n4 _ e.symm).2.1 rfl).trans (b.block _ k)).trans (m2.trans h.hF)
 refine ⟨by simp [World.cell?,d],by simp [World.frozen?,d],(zY d).1,?_,?_,?_,?_,h.lS,h.lF,h.lM⟩
 ·rw [av _ _ _ _ _ n3]
  exact o
 ·simp [World.setCell,Array.getElem?_modify,d]
 ·rw [DT,List.length_append,List.length_singleton]
  exact (((g.kept (dE (r:=none) b) (by simp)).kept a fun e=>(n4 _ e.symm).2.2 rfl)).setCell (Ne.symm n2) _
 rw [List.length_append,List.length_singleton,mapI_snoc];refine fd c fun e=>?_
 obtain ⟨-,-,m,l⟩:=bO c e;rw [d] at l
 simp at l
theorem kL {W0 w w':World} {r:Option Nat} (h:Bl W0 w) (a:w.grownBy w' r) (d:∀ b,r=some b→W0.heap.size≤b):Bl W0 w' :=
 ⟨a.os.trans h.os,a.tape.trans h.tape,a.output.trans h.output,zV h.size a.size,fun b c=>(a.block b (zW c h.size) (fun e=>by have:=d b e.symm;omega)).trans (h.block b c)⟩
end
def RM (w:World) (W0:World) (bS bF bM N:Nat) (L:List Int) (A:Option Addr) (c:Nat) (T:List Int) (k:Nat) (v:Value) (L':List Int):Prop:=RS w W0.heap.size bS bF bM v L'∧L <+: L'∧L'.Nodup∧zk N L'∧(∀ z,z∈L'↔z∈L∨z∈T.take k)∧aR w A c T∧(∀ a,A=some a→v.ownBlock≠some a.block)∧Bl W0 w
section
variable {w W0:World} {bS bF bM N:Nat} {L:List Int} {A:Option Addr} {c:Nat} {T:List Int} {k:Nat} {v:Value} {L':List Int}
theorem RM.old (h:RM w W0 bS bF bM N L A c T k v L') (d:k<T.length) (e:T.getD k 0∈L') {wa:World} (a:Bl w wa):RM wa W0 bS bF bM N L A c T (k+1) v L':=by
 obtain ⟨f,g,i,j,b,l,m,n⟩:=h;refine ⟨f.later a,g,i,j,fun z=>?_,l.later a,m,ae n a⟩
 rw [b z,List.take_succ_eq_append_getElem d,List.mem_append,List.mem_singleton]
 constructor
 ·intro h
  exact h.imp id Or.inl
 rintro (h | h | h)
 ·exact Or.inl h
 ·exact Or.inr h
 rw [zZ,zX d,Option.getD_some,←h] at e;exact (b z).1 e
theorem RM.new (h:RM w W0 bS bF bM N L A c T k v L') (p:k<T.length) {y:Nat} (F:T.getD k 0=(y:Int)) (C:y<N) (O:(y:Int)∉L') {wa w1 wb w2:World} {v':Value} (f:Bl w wa) (B:w1.ownsMap Tryz.prog 3 (unitElem (H:=Unit)) bM (L'.length+1) ((GG L').put (.int .i64 (y:Int)) (.agg []))) (d:wa.grownBy w1 (some bM)) (g:Bl w1 wb)
  (s:w2.ownsRow W0.heap.size 3 1 v' (L'.length+1) (aF L' ++ [.int .i64 (y:Int)])) (m:wb.grownBy w2 v.ownBlock) (t:v'.ownBlock=v.ownBlock∨v'.ownBlock=some wb.heap.size):w2.cell? ⟨bF,0,none⟩=some v∧w2.frozen? ⟨bF,0,none⟩=false∧bF<w2.heap.size∧RM (w2.setCell ⟨bF,0,none⟩ v') W0 bS bF bM N L A c T (k+1) v' (L' ++ [(y:Int)]):=by
 obtain ⟨l,⟨M,rfl⟩,i,G,I,r,D,J⟩:=h;obtain ⟨p1,p2,p3,p4⟩:=l.push f B d g s m;obtain ⟨n1,n2,n3,n4⟩:=l.ne;have u:Bl W0 w1:=kL (ae J f) d fun b e=>by cases e;exact l.lM
 have x:Bl W0 w2:=kL (ae u g) m fun b e=>(bO l.own e).1
 have keep:∀ a,A=some a→T≠[]→(w2.setCell ⟨bF,0,none⟩ v').heap[a.block]?=w.heap[a.block]?:=fun a j o=>by
  obtain ⟨-,-,q | ⟨b,cs,fr,n,i,-⟩⟩:=r
  ·exact absurd q o
  rw [j] at n;cases n;have lt:=(zY i).1;have S:=f.size;have U:=d.size;have V:=g.size;have Q:b≠bF:=fun e=>by rw [e,l.hF] at i;simp at i
  have R:b≠bM:=fun e=>by obtain ⟨X,W,K⟩:=l.map;rw [e,K] at i;simp at i
  show (w2.setCell ⟨bF,0,none⟩ v').heap[b]?=w.heap[b]?
  rw [av _ _ _ _ _ Q];exact (((m.block b (by omega) fun e=>D _ j e.symm).trans (g.block b (by omega))).trans (d.block b (by omega) (by simpa using R))).trans (f.block b lt)
 have o:T≠[]:=fun e=>by rw [e] at p;simp at p
 refine ⟨p1,p2,p3,p4,⟨M ++ [(y:Int)],by rw [List.append_assoc]⟩,?_,?_,fun z=>?_,r.one fun a j=>keep a j o,fun a j e=>?_,x.setCell l.lF _⟩
 ·rw [List.nodup_append]
  exact ⟨i,by simp,fun a j b E e=>by simp at E;subst E;subst e;exact O j⟩
 ·intro z P
  rcases List.mem_append.1 P with h | h
  ·exact G z h
  exact ⟨y,by simpa using h,C⟩
 ·rw [List.mem_append,I z,List.take_succ_eq_append_getElem p,List.mem_append,List.mem_singleton,List.mem_singleton]
  rw [zZ,zX p,Option.getD_some] at F;rw [F];exact or_assoc
 rcases t with h | h
 ·exact D a j (h.symm.trans e)
 obtain ⟨-,-,q | ⟨b,cs,fr,n,i,-⟩⟩:=r
 ·exact o q
 rw [j] at n;cases n;have lt:=(zY i).1;have S:=f.size;have U:=d.size;have V:=g.size;rw [h] at e
 simp at e
 omega
end
theorem EE (args:Array Value) (w:World):(callFunc 131 args).run Tryz.prog w=.ok (.enter 131 args) w:=by simp [go_sem]
theorem uA (W0:World) (bS bF bM N:Nat) (v:Value) (L:List Int) (A:Option Addr) (c:Nat) (T:List Int) (w:World) (hN:N≤3000) (KG:T.length≤3000) (G:zk N T) (h0:RM w W0 bS bF bM N L A c T 0 v L) :
  Calls Tryz.prog 131 #[.slice A T.length c,.pointer (some ⟨bS,0,none⟩),.pointer (some ⟨bF,0,none⟩)] w fun e w'=>e=.returned (.tuple #[])∧∃ v' L',RM w' W0 bS bF bM N L A c T T.length v' L':=by
 obtain ⟨i0,KJ,KO,KP,KQ⟩:=info_parts Tryz.infoInt;have V:=aa G;have U:=aa h0;obtain ⟨tl,z⟩:=aA T.length;have D:=aa z;rw [z] at KG ⊢;have htI:(tl:Int)≤3000:=by omega
 clear h0 G z
 go_enter Tryz.func131,Tryz.ntmps131
 go_wp2_with fail
 go_loopg [10] tl (fun gg s10 wr => ∃ (k:Nat),k≤tl∧gg=tl-k∧s10=.int .i64 k∧Hid (∃ v' L',RM wr W0 bS bF bM N L A c T k v' L'))
 case atStart=>exact ⟨0,zU,rfl,rfl,⟨v,L,U.out⟩⟩
 case round =>
  obtain ⟨k,hk,rfl,rfl,HK⟩:=hrel
  by_cases KM:k<tl
  ·have hki:(k:Int)<(tl:Int):=by omega
   have l:k<T.length:=by rw [D.out];exact KM
   obtain ⟨v1,L1,hR⟩:=HK.out;have B:=aa hR;obtain ⟨y,O,KN⟩:=V.out _ (gi l);obtain ⟨F,-,x,u,-,KI,-,r⟩:=hR;obtain ⟨c0,c1,f1,hbs,hbf⟩:=F.cells;obtain ⟨KH,-,Z | ⟨bt,cs,fr,rfl,s,t⟩⟩:=KI
   ·rw [Z] at l;simp at l
   have cx:=t k l;have hbt:bt<wr.heap.size:=(zY s).1;rw [D.out] at KH;rw [O] at cx;have hcSI:(tl:Int)≤(c:Int):=by omega
   have hyI:(y:Int)<3000:=by omega
   have KL:=zN u x;have b:=F.hM;have n:keyOf Tryz.prog 3 (.int .i64 (y:Int))=some (.int .i64 (y:Int)):=Maps.keyOf_int_mk Tryz.underlying3 (WalkArith.wf_i64 (by omega))
   have i:=G6 L1 (y:Int);obtain ⟨AO,M,hv⟩:∃ AO M,v1=.slice AO L1.length M:=by
    rcases F.own.2 with ⟨Y,h2⟩ | ⟨g,cap,X,Y,-⟩
    ·exact ⟨none,0,by rw [Y,h2]⟩
    exact ⟨_,_,Y⟩
   have hBs:W0.heap.size≤wr.heap.size:=r.size;have HY:=aa O
   by_cases C:(y:Int)∈L1
   ·have hh:Maps.has (GG L1) (.int .i64 (y:Int))=true:=by rw [i];exact List.contains_iff_mem.2 C
    have P:Hid (∀ wa,Bl wr wa→RM wa W0 bS bF bM N L (some ⟨bt,0,none⟩) c T (k+1) v1 L1):=fun wa o=>B.out.old l (by rw [HY.out];exact C) o
    clear F x u t s i O r hv C
    go_wp2_with (at_lookup;refine wpList_lookup_own_unit _ rfl _ _ 219 rfl 3 220 oU Tryz.underlying219 (rP _) bM _ _ rfl b _ _ rfl n ?_)
    go_roundg (tl-(k+1))
    case measure=>omega
    case rel=>exact ⟨k+1,by omega,rfl,by go_num,⟨v1,L1,P.out _ (by go_grown)⟩⟩
   have hh:Maps.has (GG L1) (.int .i64 (y:Int))=false:=by rw [i];exact Bool.eq_false_iff.2 fun h=>C (List.contains_iff_mem.1 h)
   subst hv;have p:Hid (∀ wa w1,Bl wr wa→wa.grownBy w1 (some bM)→w1.cell? ⟨bF,0,none⟩=some (.slice AO L1.length M)∧w1.ownsRow W0.heap.size 3 1 (.slice AO L1.length M) L1.length (aF L1)∧bF<w1.heap.size∧W0.heap.size≤w1.heap.size):=fun wa w1 o j=>by
    obtain ⟨-,m2,m3⟩:=B.out.1.mid o j;have s1:=o.size;have s2:=j.size;have s3:=B.out.2.2.2.2.2.2.2.size;have s4:=B.out.1.cells.2.2.2.2;exact ⟨(World.cell?_of_block (a:=⟨bF,0,none⟩) m2).trans B.out.1.cells.2.1,m3,by omega,by omega⟩
   have q:=aa (fun wa w1 wb w2 v'=>B.out.new l HY.out KN C (wa:=wa) (w1:=w1) (wb:=wb) (w2:=w2) (v':=v'))
   have f:=b.alloc (.cells #[] 220);obtain ⟨ln,J⟩:=aA L1.length;rw [J] at b f c1 p q KL;have hlnI:ln≤3000:=by omega
   clear F x u t s i O r C J
   go_wp2_with (first
    | (at_lookup;refine wpList_lookup_own_unit _ rfl _ _ 219 rfl 3 220 oU Tryz.underlying219 (rP _) bM _ _ rfl b _ _ rfl n ?_)
    | (at_mapUpdate;refine wpList_mapUpdate_own _ rfl _ _ _ 219 rfl 3 220 oU Tryz.underlying219 (unitElem (H:=Unit)) bM ln _ rfl f (by unfold maxLen;omega) _ _ _ rfl rfl n _ [] unitElem_mk ?_))
   intro w1 K j;obtain ⟨x1,x2,x3,x4⟩:=p.out _ _ (by go_grown) j
   have S:=aa x2;have Q:=aa j;have R:=aa K;clear x2 j K b f c0 c1 f1
   go_wp2_with (at_builtin;refine wpList_append_own_at _ rfl _ _ 26 rfl W0.heap.size 3 i0 (.int .i64 0) 1 8 Tryz.underlying26 KJ KO KP KQ rfl (by decide) _ _ _ rfl (S.out.alloc _) ⟨w1.heap.size,0,none⟩ 1 1 [.int .i64 y] rfl rfl bw dF (by unfold maxLen;omega) (by omega) (by simp;omega) ?_)
   intro v' w2 d m _ I;obtain ⟨A',W,rfl⟩:∃ A' W,v'=.slice A' (ln+1) W:=by
    rcases d.2 with ⟨-,h⟩ | ⟨g',W,X,h,-⟩
    ·omega
    exact ⟨_,_,h⟩
   obtain ⟨y1,y2,y3,E⟩:=q.out _ _ _ _ _ (by go_grown) R.out Q.out (by go_grown) d m (I.imp id fun h=>by rw [h];simp)
   have P:=aa E;clear d m I E x1 x3 x4;go_wp2_with fail
   go_roundg (tl-(k+1))
   case measure=>omega
   case rel=>exact ⟨k+1,by omega,rfl,by go_num,⟨_,_,P.out⟩⟩
  have KK:k=tl:=by omega
  subst KK;go_wp2_with fail
  first | go_end0 | refine bodyPost_ret (results_none rfl _ _ _) rfl ?_
  exact ⟨rfl,HK.out⟩
end Go.Proofs.YtompdcaikmekkaaGreatDoor
