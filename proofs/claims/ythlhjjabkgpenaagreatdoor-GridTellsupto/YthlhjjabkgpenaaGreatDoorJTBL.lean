/- A queue of places in m -/
import Derived.BigRegion
import Derived.Test.YthlhjjabkgpenaaGreatDoorJTBH
import Derived.Test.YthlhjjabkgpenaaGreatDoorJTBJ
namespace Go.Proofs.YthlhjjabkgpenaaGreatDoor
open ChangeShapes WideShapes ChangeAt RowKit
set_option maxRecDepth 99999
set_option maxHeartbeats 0
structure QM (w:World) (B q gM gU N:Nat) (M:Nat→Int) (UV:Nat→Value) (UL:Nat→List Int) (R:Value) (RL:List Int):Prop where
 hq:w.heap[q]?=some (.cells #[.slice (some ⟨gM,0,none⟩) N N,.slice (some ⟨gU,0,none⟩) N N,R] 161 (0,0))
 hM:dN w gM N 3 fun j=>.int .i64 (M j)
 hU:dN w gU N 26 UV
 own:∀ j,j<N→w.ownsRow B 3 1 (UV j) (UL j).length (aE (UL j))
 ready:w.ownsRow B 3 1 R RL.length (aE RL)
 dM:∀ j,j<N→(UV j).ownBlock≠some gM
 dU:∀ i j,i<N→j<N→i≠j→∀ b,(UV i).ownBlock=some b→(UV j).ownBlock≠some b
 dR:R.ownBlock≠some gM
 dRU:∀ j,j<N→∀ b,R.ownBlock=some b→(UV j).ownBlock≠some b
 lq:B≤q
 lM:B≤gM
 lU:B≤gU
section
variable {w w':World} {B q gM gU N:Nat} {M:Nat→Int} {UV:Nat→Value} {UL:Nat→List Int} {R:Value} {RL:List Int}
theorem QM.ql (h:QM w B q gM gU N M UV UL R RL):q<w.heap.size:=(zY h.hq).1
theorem QM.later (h:QM w B q gM gU N M UV UL R RL) (a:Bl w w'):QM w' B q gM gU N M UV UL R RL :=
 ⟨(a.block q h.ql).trans h.hq,h.hM.same (a.block _ h.hM.lt),h.hU.same (a.block _ h.hU.lt),fun j b=>ar (h.own j b) a,ar h.ready a,h.dM,h.dU,h.dR,h.dRU,h.lq,h.lM,h.lU⟩
theorem QM.cells (h:QM w B q gM gU N M UV UL R RL):w.cell? ⟨q,0,none⟩=some (.slice (some ⟨gM,0,none⟩) N N)∧w.cell? ⟨q,1,none⟩=some (.slice (some ⟨gU,0,none⟩) N N)∧w.cell? ⟨q,2,none⟩=some R∧w.frozen? ⟨q,2,none⟩=false :=
 ⟨by simp [World.cell?,h.hq],by simp [World.cell?,h.hq],by simp [World.cell?,h.hq],by simp [World.frozen?,h.hq]⟩
theorem QM.ne (h:QM w B q gM gU N M UV UL R RL):q≠gM∧q≠gU∧gM≠gU:=by
 refine ⟨fun e=>?_,fun e=>?_,fun e=>?_⟩
 ·have a:=h.hq;rw [e,h.hM] at a;simp at a
 ·have a:=h.hq;rw [e,h.hU] at a;simp at a
 have a:=h.hM;unfold dN at a;rw [e,h.hU] at a;simp at a
theorem QM.off (h:QM w B q gM gU N M UV UL R RL) {b:Nat} {a:Array Value} (c:w.heap[b]?=some (.cells a 3 (0,0))):b≠q∧b≠gU:=by
 refine ⟨fun e=>?_,h.hU.off c gn⟩
 rw [e,h.hq] at c
 simp at c
theorem QM.setM (h:QM w B q gM gU N M UV UL R RL) (m:Nat) (x:Int):QM (w.setCell ⟨gM,m,none⟩ (.int .i64 x)) B q gM gU N (fun j=>if j=m then x else M j) UV UL R RL:=by
 obtain ⟨n1,n2,n3⟩:=h.ne;refine ⟨by rw [ao _ _ _ _ _ n1];exact h.hq,?_,h.hU.same (ao _ _ _ _ _ n3.symm),fun j a=>fp (h.own j a) (h.dM j a),fp h.ready h.dR,h.dM,h.dU,h.dR,h.dRU,h.lq,h.lM,h.lU⟩
 refine h.hM.set (f':=fun j=>.int .i64 (if j=m then x else M j)) fun j _=>?_
 by_cases e:j=m
 ·simp only [if_pos e]
 simp only [if_neg e]
theorem QM.pushR (h:QM w B q gM gU N M UV UL R RL) {w4 w6:World} {L:List Int} {v:Value} {H:Nat} (l:Bl w w4) (n:w4.grownBy w6 R.ownBlock) (s:w6.ownsRow B 3 1 v L.length (aE L)) (d:v.ownBlock=R.ownBlock∨v.ownBlock=some H) (x:w.heap.size≤H) :
  QM (w6.setCell ⟨q,2,none⟩ v) B q gM gU N M UV UL v L:=by
 obtain ⟨n1,n2,n3⟩:=h.ne;have o:=fun b (e:R.ownBlock=some b)=>bZ h.ready e
 have a:∀ b,b<w.heap.size→R.ownBlock≠some b→w6.heap[b]?=w.heap[b]?:=fun b c m=>(n.block b (zW c l.size) (fun e=>m e.symm)).trans (l.block b c)
 have p:R.ownBlock≠some q:=fun e=>by obtain ⟨-,-,g,i⟩:=o q e;exact (h.off i).1 rfl
 have t:R.ownBlock≠some gU:=fun e=>by obtain ⟨-,-,g,i⟩:=o gU e;exact (h.off i).2 rfl
 have u:v.ownBlock≠some q:=fun e=>by
  rcases d with h1 | h1
  ·exact p (h1.symm.trans e)
  rw [h1] at e;have:=h.ql;simp at e;omega
 refine ⟨?_,(h.hM.same (a _ h.hM.lt h.dR)).same (ao _ _ _ _ _ n1.symm),(h.hU.same (a _ h.hU.lt t)).same (ao _ _ _ _ _ n2.symm),fun j f=>?_,fp s u,h.dM,h.dU,fun e=>?_,fun j f b c e=>?_,h.lq,h.lM,h.lU⟩
 ·have:=cI (k:=2) (v:=v) ((a q h.ql p).trans h.hq)
  simpa using this
 ·refine fp (jq (ar (h.own j f) l) n fun b c e=>h.dRU j f b e c) fun r=>?_
  obtain ⟨-,-,g,i⟩:=bZ (h.own j f) r;exact (h.off i).1 rfl
 ·rcases d with h1 | h1
  ·exact h.dR (h1.symm.trans e)
  rw [h1] at e;have:=h.hM.lt;simp at e;omega
 rcases d with h1 | h1
 ·exact h.dRU j f b (h1.symm.trans c) e
 rw [h1] at c;have:=(bZ (h.own j f) e).2.1
 simp at c
 omega
end
section
variable {D:Nat→Dm} {n:Nat}
theorem gY (b:dS D n) (a:(ah D n).2.2=0) {i:Nat} (c:i<prodN D n):ey D n (ak D n i) ((cH D n).getD i []):=by
 have h:=iX b a c;rw [mJ c,←mO b a h];exact h
theorem i8 (b:dS D n) (a:(ah D n).2.2=0):mw (cH D n):=Fs b a dl fun _ c=>gY b a c
theorem jw (c:dS D n) (b:(ah D n).2.2=0) (i:Nat) (a:i<(cH D n).length):cycB (cH D n) i=false:=Cw c b dl (fun _ a=>gY c b a) i a
theorem Cb (c:dS D n) (b:(ah D n).2.2=0) (j:Nat) (a:j<(cH D n).length):((cH D n).getD j []).Pairwise (· < ·):=(gY c b (by rw [dl] at a;exact a)).1
theorem Ed (d:dS D n) (c:(ah D n).2.2=0) {i:Nat} (f:i<prodN D n):(∀ z,z∈ndsX D n i↔z∈(cH D n).getD i [])∧(ndsX D n i).Nodup:=by
 have h:=iX d c f;have e:((ndsX D n i).mergeSort fun a b=>decide (a≤b))=(cH D n).getD i []:=by rw [mJ f,mO d c h]
 refine ⟨fun z=>by rw [←e];exact (List.mergeSort_perm _ _).mem_iff.symm,?_⟩
 have g:((ndsX D n i).mergeSort fun a b=>decide (a≤b)).Nodup:=h.1.imp fun h=>by omega
 exact (List.mergeSort_perm _ _).nodup_iff.1 g
end
theorem FA (Nn:List (List Int)) (m k:Nat):bL Nn m (k+1)=bL Nn m k ++ (if (m:Int)∈Nn.getD k [] then [(k:Int)] else []):=by
 unfold bL;rw [selTo];simp only [List.contains_iff_mem]
theorem zm (Nn:List (List Int)) (m k:Nat):(bL Nn m k).length≤k:=by unfold bL;exact cS _ _
theorem GN (p:Nat→Bool) (k:Nat):(selTo p k).length≤k:=cS _ _
structure UM (w:World) (B gU N:Nat) (UV:Nat→Value) (UL:Nat→List Int):Prop where
 hU:dN w gU N 26 UV
 own:∀ j,j<N→w.ownsRow B 3 1 (UV j) (UL j).length (aE (UL j))
 dU:∀ i j,i<N→j<N→i≠j→∀ b,(UV i).ownBlock=some b→(UV j).ownBlock≠some b
 lU:B≤gU
section
variable {w w':World} {B gU N:Nat} {UV:Nat→Value} {UL:Nat→List Int}
theorem UM.later (h:UM w B gU N UV UL) (a:Bl w w'):UM w' B gU N UV UL :=
 ⟨h.hU.same (a.block _ h.hU.lt),fun j b=>ar (h.own j b) a,h.dU,h.lU⟩
theorem UM.off (h:UM w B gU N UV UL) {b:Nat} {a:Array Value} (c:w.heap[b]?=some (.cells a 3 (0,0))):b≠gU:=h.hU.off c gn
theorem UM.made (w:World) (N:Nat):UM (w.alloc (.cells (madeCells #[.slice none 0 0] N) 26)) w.heap.size w.heap.size N (fun _=>.slice none 0 0) (fun _=>[]) :=
 ⟨dN.made w N 26 (.slice none 0 0),fun _ _=>World.ownsRow_nil _ _ _ _,fun _ _ _ _ _ _ h=>(by cases h),zT⟩
theorem UM.pushU (h:UM w B gU N UV UL) {w4 w6:World} {k:Nat} {L:List Int} {v:Value} {H:Nat} (A:k<N) (t:Bl w w4) (z:w4.grownBy w6 (UV k).ownBlock) (D:w6.ownsRow B 3 1 v L.length (aE L)) (o:v.ownBlock=(UV k).ownBlock∨v.ownBlock=some H) (G:w.heap.size≤H) :
  UM (w6.setCell ⟨gU,k,none⟩ v) B gU N (fun j=>if j=k then v else UV j) (fun j=>if j=k then L else UL j):=by
 have E:=fun b (e:(UV k).ownBlock=some b)=>bZ (h.own k A) e
 have l:∀ b,b<w.heap.size→(UV k).ownBlock≠some b→w6.heap[b]?=w.heap[b]?:=fun b a c=>(z.block b (zW a t.size) (fun e=>c e.symm)).trans (t.block b a)
 have C:(UV k).ownBlock≠some gU:=fun e=>by obtain ⟨-,-,q,u⟩:=E gU e;exact (h.off u) rfl
 have F:v.ownBlock≠some gU:=fun e=>by
  rcases o with g | g
  ·exact C (g.symm.trans e)
  rw [g] at e;have:=h.hU.lt;simp at e;omega
 have y:∀ (v1:Value) (L1:List Int),w.ownsRow B 3 1 v1 L1.length (aE L1)→(∀ b,v1.ownBlock=some b→(UV k).ownBlock≠some b)→w6.ownsRow B 3 1 v1 L1.length (aE L1):=fun v1 L1 g s=>jq (ar g t) z s
 have n:∀ (v1:Value) (L1:List Int),w.ownsRow B 3 1 v1 L1.length (aE L1)→(∀ b,v1.ownBlock=some b→(UV k).ownBlock≠some b)→∀ b,v1.ownBlock=some b→v.ownBlock≠some b:=fun v1 L1 g s b a e=>by
  rcases o with h3 | h3
  ·exact s b a (h3.symm.trans e)
  rw [h3] at e;have:=(bZ g a).2.1
  simp at e
  omega
 have d:∀ j,j<N→j≠k→∀ b,(UV j).ownBlock=some b→(UV k).ownBlock≠some b:=fun j f c b a=>h.dU j k f A c b a
 refine ⟨?_,fun j f=>?_,fun i j x f c b a=>?_,h.lU⟩
 ·exact (h.hU.same (l _ h.hU.lt C)).set fun j _=>rfl
 ·by_cases e:j=k
  ·simp only [if_pos e]
   exact fp D F
  simp only [if_neg e];refine fp (y _ _ (h.own j f) (d j f e)) fun r=>?_
  obtain ⟨-,-,q,u⟩:=bZ (h.own j f) r;exact (h.off u) rfl
 by_cases p:i=k
 ·simp only [if_pos p] at a
  have m:j≠k:=fun e=>c (p.trans e.symm)
  simp only [if_neg m];intro r;exact n _ _ (h.own j f) (d j f m) b r a
 simp only [if_neg p] at a
 by_cases m:j=k
 ·simp only [if_pos m]
  exact n _ _ (h.own i x) (d i x p) b a
 simp only [if_neg m];exact h.dU i j x f c b a
end
def FI (w:World) (gU N k:Nat) (Nn:List (List Int)) (w1:World):Prop := ∃ UV,UM w w1.heap.size gU N UV (fun j=>bL Nn j k)∧Bl w1 w
def Hh (w:World) (gU N k i:Nat) (Nn:List (List Int)) (T:List Int) (A2:Option Addr) (c2:Nat) (w1:World):Prop := ∃ UV,UM w w1.heap.size gU N UV (fun j=>bL Nn j k ++ (if (j:Int)∈T.take i then [(k:Int)] else []))∧(∀ j,j<N→∀ a,A2=some a→(UV j).ownBlock≠some a.block)∧aY w A2 c2 T∧Bl w1 w
section
variable {w w2 w1:World} {gU N k i:Nat} {Nn:List (List Int)} {T:List Int} {A2:Option Addr} {c2:Nat}
theorem FI.next (h:FI w gU N k Nn w1) (c:Bl w w2) (g:aY w2 A2 c2 T) (d:∀ a,A2=some a→w.heap.size≤a.block):Hh w2 gU N k 0 Nn T A2 c2 w1:=by
 obtain ⟨UV,b,f⟩:=h;refine ⟨UV,?_,fun j l a i e=>?_,g,ae f c⟩
 ·have e:(fun j:Nat=>bL Nn j k ++ (if (j:Int)∈T.take 0 then [(k:Int)] else []))=fun j=>bL Nn j k:=by
   funext j
   simp
  rw [e];exact b.later c
 have m:=(bZ (b.own j l) e).2.1;have n:=d a i
 omega
theorem Hh.push (h:Hh w gU N k i Nn T A2 c2 w1) (Z:T.Nodup) (n:i<T.length) {y:Nat} (U:T.getD i 0=(y:Int)) (l:y<N) :
  ∃ AO ln m Ly,w.cell? ⟨gU,y,none⟩=some (.slice AO ln m)∧gU<w.heap.size∧ln≤k∧w.ownsRow w1.heap.size 3 1 (.slice AO ln m) ln (aE Ly)∧(∀ (w5 w6:World),Bl w w5→w5.grownBy w6 (Value.slice AO ln m).ownBlock→w6.cell? ⟨gU,y,none⟩=some (.slice AO ln m)∧w6.frozen? ⟨gU,y,none⟩=false∧gU<w6.heap.size) ∧
  ∀ (w5 w6:World) (v:Value),Bl w w5→w6.ownsRow w1.heap.size 3 1 v (ln+1) (aE Ly ++ [.int .i64 (k:Int)])→w5.grownBy w6 (Value.slice AO ln m).ownBlock→(v.ownBlock=(Value.slice AO ln m).ownBlock∨v.ownBlock=some w5.heap.size)→Hh (w6.setCell ⟨gU,y,none⟩ v) gU N k (i+1) Nn T A2 c2 w1:=by
 obtain ⟨UV,o,K,C,x⟩:=h;have B:(y:Int)∉T.take i:=by
  intro h;obtain ⟨j,M,e⟩:=List.getElem_of_mem h;have O:j<i:=by have:=M;rw [List.length_take] at this;omega
  rw [List.getElem_take] at e;have:=List.pairwise_iff_getElem.1 Z j i (by omega) n O
  rw [zZ,zX n,Option.getD_some] at U
  omega
 have D:w.ownsRow w1.heap.size 3 1 (UV y) (bL Nn y k).length (aE (bL Nn y k)):=by
  have h:=o.own y l;simp only [if_neg B,List.append_nil] at h;exact h
 obtain ⟨AO,m,E⟩:∃ AO m,UV y=.slice AO (bL Nn y k).length m:=by
  rcases D.2 with ⟨G,c⟩ | ⟨g,cap,F,G,-⟩
  ·exact ⟨none,0,by rw [G,c]⟩
  exact ⟨_,_,G⟩
 have R:∀ b,(UV y).ownBlock=some b→b≠gU:=fun b t=>by
  obtain ⟨-,-,F,Y⟩:=bZ D t;exact o.off Y
 have A:∀ (w5 w6:World) (b:Nat),Bl w w5→w5.grownBy w6 (UV y).ownBlock→b<w.heap.size→(UV y).ownBlock≠some b→w6.heap[b]?=w.heap[b]?:=fun w5 w6 b d f t Q=>(f.block b (zW t d.size) (fun e=>Q e.symm)).trans (d.block b t)
 refine ⟨AO,(bL Nn y k).length,m,bL Nn y k,by rw [←E];exact o.hU.cell l,o.hU.lt,zm _ _ _,by rw [←E];exact D,fun w5 w6 d f=>?_,fun w5 w6 v d W f s=>?_⟩
 ·rw [←E] at f ⊢
  have u:=A w5 w6 gU d f o.hU.lt (fun e=>(R gU e) rfl)
  have r:=o.hU.same u;exact ⟨r.cell l,r.frozen y,r.lt⟩
 rw [←E] at f s;have P:((bL Nn y k ++ [(k:Int)]).length)=(bL Nn y k).length+1:=by rw [List.length_append];rfl
 have X:=o.pushU (L:=bL Nn y k ++ [(k:Int)]) (v:=v) (H:=w5.heap.size) l d f (by rw [P,mapI_snoc];exact W) s d.size
 have I:Bl w1 w6:=⟨f.os.trans (ae x d).os,f.tape.trans (ae x d).tape,f.output.trans (ae x d).output,zV (ae x d).size f.size,fun b t=>(f.block b (zW t (ae x d).size) (fun e=>by have:=(bZ D e.symm).1;omega)).trans ((ae x d).block b t)⟩
 refine ⟨fun j=>if j=y then v else UV j,?_,fun j M a q=>?_,?_,I.setCell o.lU _⟩
 ·have e:(fun j:Nat=>bL Nn j k ++ (if (j:Int)∈T.take (i+1) then [(k:Int)] else []))=fun j:Nat=>if j=y then bL Nn y k ++ [(k:Int)] else bL Nn j k ++ (if (j:Int)∈T.take i then [(k:Int)] else []):=by
   funext j
   have S:(j:Int)∈T.take (i+1)↔(j:Int)∈T.take i∨j=y:=by
    rw [List.take_succ_eq_append_getElem n,List.mem_append,List.mem_singleton];rw [zZ,zX n,Option.getD_some] at U;rw [U];exact ⟨fun h=>h.imp id (by omega),fun h=>h.imp id (by omega)⟩
   by_cases p:j=y
   ·rw [if_pos p,if_pos (S.2 (Or.inr p)),p]
   rw [if_neg p]
   congr 1
   by_cases u:(j:Int)∈T.take i
   ·rw [if_pos u,if_pos (S.2 (Or.inl u))]
   rw [if_neg u,if_neg (fun h=>(S.1 h).elim u p)]
  rw [e];exact X
 ·by_cases p:j=y
  ·simp only [if_pos p]
   intro e
   rcases s with h | h
   ·exact K y l a q (h.symm.trans e)
   obtain ⟨-,-,c | ⟨b,cs,fr,c,z,-⟩⟩:=C
   ·rw [c] at n;simp at n
   rw [q] at c;cases c;have:=(zY z).1;have V:=d.size;rw [h] at e
   simp at e
   omega
  simp only [if_neg p];exact K j M a q
 have J:aY w6 A2 c2 T:=by
  refine C.one fun a q=>?_
  obtain ⟨-,-,c | ⟨b,cs,fr,c,z,-⟩⟩:=id C
  ·rw [c] at n;simp at n
  rw [q] at c;cases c;exact A w5 w6 b d f (zY z).1 (K y l _ q)
 refine J.one fun a q=>ao _ _ _ _ _ fun e=>?_
 obtain ⟨-,-,c | ⟨b,cs,fr,c,z,-⟩⟩:=id C
 ·rw [c] at n;simp at n
 rw [q] at c;cases c;exact o.hU.off z gn e
theorem Hh.done (h:Hh w gU N k T.length Nn T A2 c2 w1) (a:∀ z,z∈T↔z∈Nn.getD k []):FI w gU N (k+1) Nn w1:=by
 obtain ⟨UV,d,-,-,c⟩:=h;refine ⟨UV,?_,c⟩;have e:(fun j=>bL Nn j (k+1))=fun j:Nat=>bL Nn j k ++ (if (j:Int)∈T.take T.length then [(k:Int)] else []):=by
  funext j
  rw [FA,List.take_length]
  congr 1
  by_cases h:(j:Int)∈T
  ·rw [if_pos h,if_pos ((a _).1 h)]
  rw [if_neg h,if_neg fun b=>h ((a _).2 b)]
 rw [e];exact d
end
theorem CC (Y g n:Nat) (D:Nat→Dm) (X:Nat→AL) (w:World) (K:dS D n) (u:(ah D n).2.2=0) (hA:ff w Y g n D X) :
  Calls Tryz.prog 123 #[.pointer (some ⟨Y,0,none⟩)] w fun e w' => ∃ gU,e=.returned (.slice (some ⟨gU,0,none⟩) (prodN D n) (prodN D n))∧FI w' gU (prodN D n) (prodN D n) (cH D n) w:=by
 obtain ⟨i0,hi0,hz0,hz1,hz2⟩:=info_parts Tryz.infoInt;obtain ⟨hn1,hn4,hp3,hd⟩:=aw u;have o:Hid (∀ k w',k<prodN D n→Bl w w'→Calls Tryz.prog 99 #[.pointer (some ⟨Y,0,none⟩),.int .i64 k] w' fun e w''=>(∃ A' l,e=.returned (.slice A' (ndsX D n k).length l)∧aY w'' A' l (ndsX D n k)∧∀ a,A'=some a→w'.heap.size≤a.block)∧Bl w' w''):=fun k w' x hB=>by
  refine (lw Y g n D X k w' K u x (hA.later hB)).mono ?_;rintro e w'' ⟨⟨v,rfl,J⟩,hb⟩;obtain ⟨A',l,rfl,hI⟩:=cE J;exact ⟨⟨A',l,rfl,hI,fun a ha=>(bZ J (by rw [ha];rfl)).1⟩,hb⟩
 have f:Hid (∀ k,k<prodN D n→(ndsX D n k).length≤12∧(∀ z∈ndsX D n k,∃ y:Nat,z=(y:Int)∧y<prodN D n)∧(ndsX D n k).Nodup∧∀ z,z∈ndsX D n k↔z∈(cH D n).getD k []):=fun k x=>by
  obtain ⟨h1,h2⟩:=Ed K u x;refine ⟨mB K u x,fun z hz=>?_,h2,h1⟩
  have:=i8 K u k (by rw [dl];exact x) z ((h1 z).1 hz)
  rw [dl] at this;exact ⟨z.toNat,by omega,by omega⟩
 obtain ⟨hq,-,q1⟩:=hA.cells;obtain ⟨Nn,I⟩:=ax (cH D n);rw [I] at f ⊢;obtain ⟨N,hN⟩:=ax (prodN D n);rw [hN] at o f hp3 q1 ⊢;have hNI:(N:Int)≤3000:=by omega
 have hmkR:=run_make_row' (P:=Tryz.prog) 59 26 (.slice none 0 0) 24 Tryz.underlying59 Tryz.infoRow rfl .i64 .i64 N (by omega) (by omega)
 have HK1:Hid (FI (w.alloc (.cells (madeCells #[.slice none 0 0] N) 26)) w.heap.size N 0 Nn w):=⟨_,UM.made w N,by go_grown⟩
 generalize ndsX D n=nx at o f;clear hA u K hd I hN
 go_enter Tryz.func123,Tryz.ntmps123
 go_wp2_with fail
 go_loopg [16] N (fun gg s16 wr => ∃ (k:Nat),k≤N∧gg=N-k∧s16=.int .i64 k∧Hid (FI wr w.heap.size N k Nn w))
 case atStart=>exact ⟨0,zU,rfl,rfl,HK1⟩
 case round =>
  obtain ⟨k,x,rfl,rfl,HK⟩:=hrel
  by_cases V:k<N
  ·have hki:(k:Int)<(N:Int):=by omega
   have Z:Hid (Bl w wr):=by obtain ⟨-,-,h⟩:=HK.out;exact h
   have j:=o.out k wr V Z.out;obtain ⟨E,q,s,r⟩:=f.out k V;obtain ⟨T,hT⟩:=ax (nx k);rw [hT] at j E q s r;have Lt:=aa q;have HRi:Hid T.Nodup:=s;have HMe:=aa r;obtain ⟨tl,t⟩:=ax T.length;have p:=aa t;rw [t] at j E;have htI:(tl:Int)≤12:=by omega
   clear q s r hT t;go_wp2_with fail;refine j.mono ?_;rintro e w3 ⟨⟨A2,c2,rfl,H,F⟩,O⟩;have B:=aa (HK.out.next O H F);clear j H F O;go_wp2_with fail
   go_loopg [23] tl (fun gg s23 wi => ∃ (i:Nat),i≤tl∧gg=tl-i∧s23=.int .i64 i∧Hid (Hh wi w.heap.size N k i Nn T A2 c2 w))
   case atStart=>exact ⟨0,zU,rfl,rfl,B⟩
   case round =>
    obtain ⟨i,hi,rfl,rfl,W⟩:=hrel
    by_cases U:i<tl
    ·have hii:(i:Int)<(tl:Int):=by omega
     have d:i<T.length:=by rw [p.out];exact U
     obtain ⟨y,hy,hyN⟩:=Lt.out _ (gK d);have hyI:(y:Int)<(N:Int):=by omega
     obtain ⟨AO,ln,cO,Ly,cU,hgl,hln,J,L,G⟩:=W.out.push HRi.out d hy hyN;have HO:=aa J;have C:=aa L;have A:=aa G;obtain ⟨hcT,hBs⟩:aY wr A2 c2 T∧w.heap.size≤wr.heap.size:=by
      obtain ⟨UV,-,-,hI,hB⟩:=W.out;exact ⟨hI,hB.size⟩
     obtain ⟨hcS,-,hS0 | ⟨bs,cs,fr,rfl,Q,R⟩⟩:=hcT
     ·rw [hS0] at d;simp at d
     have cx:=R i d;have hbs:bs<wr.heap.size:=(zY Q).1;rw [p.out] at hcS;rw [hy] at cx;have hcSI:(tl:Int)≤(c2:Int):=by omega
     have hlnI:ln≤3000:=by omega
     clear R Q J L G hy
     go_wp2_with (at_builtin;refine wpList_append_own_at _ rfl _ _ 26 rfl w.heap.size 3 i0 (.int .i64 0) 1 8 Tryz.underlying26 hi0 hz0 hz1 hz2 rfl (by decide) _ _ _ rfl (HO.out.alloc _) ⟨wr.heap.size,0,none⟩ 1 1 [.int .i64 k] rfl rfl bu dY (by unfold maxLen;omega) (by omega) (by simp;omega) ?_)
     intro v' w6 c b _ M;obtain ⟨y1,y2,y3⟩:=C.out _ _ (by go_grown) b
     obtain ⟨A',l,rfl⟩:∃ A' l,v'=.slice A' (ln+1) l:=by
      rcases c.2 with ⟨-,h⟩ | ⟨g',l,cur,h,-⟩
      ·omega
      exact ⟨_,_,h⟩
     have m:=aa (A.out _ _ _ (by go_grown) c b (M.imp id fun h=>by rw [h];simp))
     clear c b M;go_wp2_with fail
     go_roundg (tl-(i+1))
     case measure=>omega
     case rel=>exact ⟨i+1,by omega,rfl,by go_num,m⟩
    have S:i=tl:=by omega
    have m:Hid (FI wr w.heap.size N (k+1) Nn w):=by
     have h:=W.out;rw [S,←p.out] at h;exact h.done HMe.out
    subst S;clear W B;go_wp2_with fail
    go_roundg (N-(k+1))
    case measure=>omega
    case rel=>exact ⟨k+1,by omega,rfl,by go_num,m⟩
  have hke:k=N:=by omega
  subst hke;go_wp2_with fail;go_ret;exact ⟨_,rfl,HK.out⟩
theorem BE (q g n:Nat) (D:Nat→Dm) (X:Nat→AL) (x:Nat) (AC:Option Addr) (cC:Nat) (L:List (Int×Int)) (w:World) (hR:dS D n) (hE:(ah D n).2.2=0) (hx:x<prodN D n) (Y:ff w q g n D X) (hL:L.length=prodN D n) (hC:dt w AC cC L) (hok:∀ z∈ndsX D n x,b7 (L.getD z.toNat noC)) :
  Rt 64 #[.pointer (some ⟨q,0,none⟩),.slice AC (prodN D n) cC,.int .i64 x] w (.tuple #[.agg #[.int .i64 (xK D n L x).1,.int .i64 (xK D n L x).2],.nilIface]):=by
 obtain ⟨i0,hi0,hz0,hz1,hz2⟩:=info_parts Tryz.infoCe;obtain ⟨hn1,hn4,hp3,hd⟩:=aw hE;obtain ⟨W,hW⟩:=ax (w.alloc (.cells #[.int .i64 0,.int .i64 0] 40));have E:Bl w W:=by rw [←hW];go_grown
 have H:W.heap[w.heap.size]?=some (.cells #[.int .i64 0,.int .i64 0] 40 (0,0)):=by rw [←hW];exact heap_alloc_new ..
 have a:=aa E;have HWb:=aa H;have hl0:w.heap.size<W.heap.size:=(zY H).1;obtain ⟨hcL,-,h0 | ⟨bc,oc,rfl,Lt⟩⟩:=id hC
 ·rw [h0] at hL;simp at hL;omega
 have B:=ym q g n D X x W hE hx (Y.later E);have T:Hid (∀ w',Bl w w'→bc<w'.heap.size∧∀ j,j<prodN D n→w'.cell? ⟨bc,oc+j*2,none⟩=some (.int .i64 (L.getD j noC).1)∧w'.cell? ⟨bc,oc+j*2+1,none⟩=some (.int .i64 (L.getD j noC).2)):=fun w' p=>by
  obtain ⟨-,-,h0 | ⟨bc',oc',h1,G⟩⟩:=hC.later p
  ·rw [h0] at hL;simp at hL;omega
  cases h1;exact ⟨G.1,fun j hj=>G.2 j (by omega)⟩
 have U:Hid (∀ w',Bl w w'→q<w'.heap.size∧w'.cell? ⟨q,0,none⟩=some (.slice (some ⟨g,0,none⟩) n n)∧w'.cell? ⟨q,1,none⟩=some (.int .i64 (prodN D n:Nat))):=fun w' p=>(Y.later p).cells
 have HA:=aa Y;have HRs:Hid (∀ w',Bl W w'→w.heap.size<w'.heap.size∧w'.cell? ⟨w.heap.size,0,none⟩=some (.int .i64 0)∧w'.cell? ⟨w.heap.size,1,none⟩=some (.int .i64 0)∧w'.frozen? ⟨w.heap.size,0,none⟩=false∧w'.frozen? ⟨w.heap.size,1,none⟩=false):=fun w' p=>⟨zW hl0 p.size,bP ((p.block _ hl0).trans H)⟩
 obtain ⟨hq,q0,q1⟩:=U.out W E;have hnI:(n:Int)≤4:=by omega
 have hP:=cQ (D:=D) (n:=n) (x:=x) hE;obtain ⟨N,hN⟩:=ax (prodN D n);have HN:=aa hN
 rcases by_in D (ak D n x) n with h | ⟨b,h,hb⟩
 ·have HV:Hid (xK D n L x=L.getD x noC):=zk (by omega)
  rw [h] at B;rw [hN] at q1 hx hp3 T U hL ⊢;have hxI:(x:Int)<(N:Int):=by omega
  have hNI:(N:Int)≤3000:=by omega
  have hcI:(N:Int)≤(cC:Int):=by omega
  clear Y hE hR hP h hd hC Lt hok E H hN
  go_enter Tryz.func64,Tryz.ntmps64
  go_wp2_with fail;refine B.mono ?_;rintro e w1 ⟨rfl,f⟩;have HB1:=aa f;obtain ⟨hbc,I⟩:=T.out w1 (ae a.out f);obtain ⟨y0,y1⟩:=I x hx;obtain ⟨hr,r0,r1,r2,r3⟩:=HRs.out w1 f;obtain ⟨⟨ra,rb⟩,s⟩:∃ R,L.getD x noC=R:=⟨_,rfl⟩;have HRe:=aa s;rw [s] at y0 y1;simp only at y0 y1;clear f B q0 q1 hW I s;go_wp2_with fail;refine bodyPost_ret (v:=.tuple #[.agg #[.int .i64 ra,.int .i64 rb],.nilIface]) (by simp [results,Tryz.results64,go_sem,r0,r1]) rfl ⟨by rw [HV.out,HRe.out],?_⟩
  exact ((ae a.out HB1.out).setCell (by simp) _).setCell (by simp) _
 obtain ⟨hd1,hd12⟩:=hd b hb;have hp0:=hP.lo b hb;have hp1:=hP.hi b hb;obtain ⟨m,hm⟩:=ax (x / bW D n b % (D b).n);have hpm:((ak D n x).getD b 0).toNat=m:=by rw [nu hb,hm]
 have K:m<(D b).n:=by rw [←hm];exact Nat.mod_lt _ hd1
 have HV:Hid (xK D n L x=dT (D b) (fun k=>L.getD (iP D n x b k).toNat noC) m):=by show _=_;rw [He h,hpm]
 have V:Hid (ndsX D n x=(tW (D b) m).map (iP D n x b)):=by show _=_;rw [nX h,hpm]
 have hSp:=ib (D:=D) (n:=n) (fun i hi=>(hd i hi).1) hb
 obtain ⟨S,Z⟩:=ax (bW D n b);have HWy:Hid (∀ w',Bl w w'→Rt 100 #[.agg #[.int .i64 (D b).solve,.int .i64 S,.slice (X b).A (D b).n (X b).c],.int .i64 x] w' (wayV ((X b).xs.getD m ex))):=fun w' p=>sm (D b) S (X b) x m w' (by rw [←Z];exact hSp) hd1 hd12 (by omega) (by rw [←Z];exact hm) ((Y.later p).2.one hb).2.2
 have l:Hid (∀ w' A' o,Bl w w'→dt w' A' o ((ndsX D n x).map fun z=>L.getD z.toNat noC)→Rt 101 #[wayV ((X b).xs.getD m ex),.slice A' (ndsX D n x).length o] w' (.tuple #[.agg #[.int .i64 (xK D n L x).1,.int .i64 (xK D n L x).2],.nilIface])):=fun w' A' o p hCv=>by
  obtain ⟨-,-,hOne⟩:=(Y.later p).2.one hb;obtain ⟨-,-,-,-,-,hWt⟩:=hOne.way K;have hwo:=hOne.2.2 m K;have hne:=xU hwo;have h2:=Fq (D b) m ((X b).xs.getD m ex) A' o (fun k=>L.getD (iP D n x b k).toNat noC) w' (hR b hb) K hwo hWt (fun k hk=>hok _ (by rw [V.out,List.mem_map];exact ⟨k,(mC (hR b hb) K k).2 hk,rfl⟩)) (by
   rw [V.out,List.map_map] at hCv;rw [hne];exact hCv)
  rw [hne,←HV.out] at h2;have hl2:(ndsX D n x).length=(tW (D b) m).length:=by rw [V.out,List.length_map]
  rw [hl2];exact h2
 have C:Hid (∀ w',Bl w w'→Calls Tryz.prog 99 #[.pointer (some ⟨q,0,none⟩),.int .i64 x] w' fun e w''=>(∃ v,e=.returned v∧w''.ownsRow w'.heap.size 3 1 v (ndsX D n x).length (aE (ndsX D n x)))∧Bl w' w''):=fun w' p=>lw q g n D X x w' hR hE hx (Y.later p)
 have HIn:Hid (∀ z∈ndsX D n x,∃ y:Nat,z=(y:Int)∧y<N):=fun z hz=>by
  obtain ⟨y,e1,e2⟩:=Eb hR hE hx z hz;exact ⟨y,e1,by omega⟩
 have hln:=mB hR hE hx;have HCx:Hid (∀ w',Bl w w'→g<w'.heap.size∧w'.cell? ⟨g,b*3,none⟩=some (.int .i64 (D b).solve)∧w'.cell? ⟨g,b*3+1,none⟩=some (.int .i64 S)∧w'.cell? ⟨g,b*3+2,none⟩=some (.slice (X b).A (D b).n (X b).c)):=fun w' p=>by
  obtain ⟨hg,⟨c0,c1,c2⟩,-⟩:=(Y.later p).2.one hb;rw [Z] at c1;exact ⟨hg,c0,c1,c2⟩
 obtain ⟨P,hPn⟩:=ax (ndsX D n x);rw [hPn] at l C HIn hln;obtain ⟨F,hF⟩:=ax ((fun z:Int=>L.getD z.toNat noC))
 have HFe:Hid (∀ z:Int,F z=L.getD z.toNat noC):=fun z=>by rw [←hF]
 rw [hF] at l;obtain ⟨⟨ra,rb⟩,s⟩:∃ R,xK D n L x=R:=⟨_,rfl⟩;rw [s] at l ⊢;simp only at l ⊢;obtain ⟨M,hMl⟩:=ax P.length;have HM:=aa hMl;rw [hMl] at l C hln;have hMI:(M:Int)≤12:=by omega
 rw [h] at B;rw [hN] at q1 hx hp3 T U hL ⊢;have hxI:(x:Int)<(N:Int):=by omega
 have hNI:(N:Int)≤3000:=by omega
 have hcI:(N:Int)≤(cC:Int):=by omega
 have hbI:(b:Int)<(n:Int):=by omega
 have hb0:((b:Int) == -1)=false:=by simp
 generalize wayV ((X b).xs.getD m ex)=wv at HWy l;clear Y hE hR hP h hd hC Lt hok E H hp0 hp1 hm hpm K hSp Z hPn hMl V HV s hN hF
 go_enter Tryz.func64,Tryz.ntmps64
 go_wp2_with fail;refine B.mono ?_;rintro e w1 ⟨rfl,f⟩;have HB1:=aa f;have hnd:=C.out w1 (ae a.out f);clear f B q0 q1 hW;go_wp2_with fail;refine hnd.mono ?_;rintro e w2 ⟨⟨v,rfl,hO2⟩,hb2⟩;have HB2:=aa (ae HB1.out hb2);have HIt:Hid (∃ A' o,v=.slice A' M o∧aY w2 A' o P):=by
  have h2:=hO2;rw [←HM.out] at h2;obtain ⟨A',o,e,hv⟩:=cE h2;rw [HM.out] at e;exact ⟨A',o,e,hv⟩
 obtain ⟨A2,c2,rfl,hI2⟩:=HIt.out;have HI2:=aa hI2;clear hb2 hnd hO2 hI2 HIt;go_wp2_with fail
 go_loopg [9,46] M (fun gg s9 s46 wr => ∃ (k:Nat) (u:Value),k≤M∧gg=M-k∧s46=.int .i64 k∧u=s9∧Hid (wr.ownsRow w2.heap.size 40 2 u k (bw ((P.take k).map F)))∧Hid (Bl w2 wr))
 case atStart=>exact ⟨0,_,zU,rfl,rfl,rfl,World.ownsRow_nil _ _ _ _,zS⟩
 case round =>
  obtain ⟨k,u,hk,rfl,rfl,rfl,HO,Q⟩:=hrel;have d:=aa (ae HB2.out Q.out)
  by_cases hlt:k<M
  ·have hki:(k:Int)<(M:Int):=by omega
   have hkP:k<P.length:=by rw [HM.out];exact hlt
   obtain ⟨y,hy,hyN⟩:=HIn.out _ (gK hkP);obtain ⟨hcS,-,hS0 | ⟨bs,cs,fr,rfl,hbS,hcl⟩⟩:=HI2.out.later Q.out
   ·have:=HM.out;rw [hS0] at this;simp at this;omega
   have cx:=hcl k hkP;have hbs:bs<wr.heap.size:=(zY hbS).1;rw [HM.out] at hcS;rw [hy] at cx;have hcSI:(M:Int)≤(c2:Int):=by omega
   have HSn:Hid ((P.take (k+1)).map F=(P.take k).map F ++ [L.getD y noC]):=by
    show _=_
    rw [DW F P hkP,HFe.out,hy,Int.toNat_natCast]
   obtain ⟨hbc,I⟩:=T.out wr (ae a.out d.out);obtain ⟨y0,y1⟩:=I y hyN;have hyI:(y:Int)<(N:Int):=by omega
   generalize L.getD y noC=r at y0 y1 HSn;obtain ⟨sa,sb⟩:=r;simp only at y0 y1;have hsz2:=Q.out.size;clear hcl hbS hy I
   go_wp2_with (at_builtin;refine wpList_append_own _ rfl _ _ 33 rfl w2.heap.size 40 i0 (.agg #[.int .i64 0,.int .i64 0]) 2 16 Tryz.underlying33 hi0 hz0 hz1 hz2 rfl (by decide) _ _ _ rfl (HO.out.alloc _) ⟨wr.heap.size,0,none⟩ 1 1 [.int .i64 sa,.int .i64 sb] rfl rfl ?qe2 ?qe3 ?qe4 ?qe5 ?qe6 ?_)
   case qe2 =>
    intro j t hj;rw [dd,Lib.cell_of_heap (heap_alloc_new wr (.cells #[.int .i64 sa,.int .i64 sb] 40))]
    simpa using hj
   case qe3=>intro t ht;simp at ht;rcases ht with rfl | rfl <;> rfl
   case qe4=>simp only [maxLen];omega
   case qe5=>omega
   case qe6=>simp;omega
   intro v' w4 O J hnil;have HB4:Hid (Bl w2 w4):=bA Q.out HO.out J;have HO4:Hid (w4.ownsRow w2.heap.size 40 2 v' (k+1) (bw ((P.take (k+1)).map F))):=by
    show World.ownsRow ..
    rw [HSn.out,cellsC_append,List.map_take];exact O
   clear O J hnil;go_wp2_with fail
   go_roundg (M-(k+1))
   case measure=>omega
   case rel=>exact ⟨k+1,_,by omega,rfl,by go_num,rfl,HO4,HB4⟩
  have hke:k=M:=by omega
  subst hke;have HCv:Hid (∃ A' o,u=.slice A' k o∧dt wr A' o (P.map F)):=by
   have h:=HO.out;rw [List.take_of_length_le (by rw [HM.out];exact zT)] at h
   have hlen:(P.map F).length=k:=by rw [List.length_map];exact HM.out
   rw [←hlen] at h;obtain ⟨A',o,e,hv⟩:=rq h;rw [hlen] at e;exact ⟨A',o,e,hv⟩
  obtain ⟨A3,c3,rfl,hC3⟩:=HCv.out;have HC3:=aa hC3;obtain ⟨hq1,p0,p1⟩:=U.out wr (ae a.out d.out);obtain ⟨hg1,a1,a2,a3⟩:=HCx.out wr (ae a.out d.out);have hwy:=HWy.out wr (ae a.out d.out);clear hC3 HCv;go_wp2_with fail;refine hwy.mono ?_;rintro e w5 ⟨rfl,hb5⟩;have HB5:=aa (ae d.out hb5);have htl:=l.out w5 A3 c3 (ae a.out HB5.out) (HC3.out.later hb5);clear hb5 hwy p0 p1 a1 a2 a3;go_wp2_with fail;refine htl.mono ?_;rintro e w6 ⟨rfl,hb6⟩;have HB6:=aa (ae HB5.out hb6);obtain ⟨hr,r0,r1,r2,r3⟩:=HRs.out w6 HB6.out;clear hb6 htl;go_wp2_with fail;refine bodyPost_ret (v:=.tuple #[.agg #[.int .i64 ra,.int .i64 rb],.nilIface]) (by simp [results,Tryz.results64,go_sem,r0,r1]) rfl ⟨rfl,?_⟩
  exact ((ae a.out HB6.out).setCell (by simp) _).setCell (by simp) _
def gu (w:World) (g n:Nat) (f:Nat→Bool):Prop:=w.heap[g]?=some (.cells ((List.range n).map fun j=>Value.bool (f j)).toArray 4 (0,0))
theorem gu.lt {w:World} {g n:Nat} {f:Nat→Bool} (h:gu w g n f):g<w.heap.size:=(zY h).1
theorem gu.cell {w:World} {g n:Nat} {f:Nat→Bool} (h:gu w g n f) {j:Nat} (a:j<n):w.cell? ⟨g,j,none⟩=some (.bool (f j)):=by
 rw [Lib.cell_of_heap h]
 simp [a]
theorem gu.frozen {w:World} {g n:Nat} {f:Nat→Bool} (h:gu w g n f) (j:Nat):w.frozen? ⟨g,j,none⟩=false:=Lib.frozen_of_heap h j
theorem gu.later {w w':World} {g n:Nat} {f:Nat→Bool} (h:gu w g n f) (a:Bl w w'):gu w' g n f:=(a.block g h.lt).trans h
theorem gu.set {w:World} {g n:Nat} {f f':Nat→Bool} (h:gu w g n f) {m:Nat} (b:∀ j,j<n→f' j=if j=m then true else f j):gu (w.setCell ⟨g,m,none⟩ (.bool true)) g n f':=by
 unfold gu at *;simp only [World.setCell,Array.getElem?_modify,if_true,h,Option.map_some,Option.some.injEq,Obj.cells.injEq,and_true,Option.isSome_none,Bool.false_eq_true,if_false];apply Array.ext_getElem?;intro j;rw [Array.getElem?_setIfInBounds]
 by_cases a:j<n
 ·by_cases e:m=j
  ·rw [if_pos e,if_pos (by simp;omega)]
   simp [a,b j a,e]
  have c:j≠m:=fun x=>e x.symm
  rw [if_neg e];simp only [List.getElem?_toArray,List.getElem?_map,List.getElem?_range a,Option.map_some,b j a,if_neg c]
 by_cases e:m=j
 ·rw [if_pos e,if_neg (by simp;omega),Array.getElem?_eq_none (by simp;omega)]
 rw [if_neg e,Array.getElem?_eq_none (by simp;omega),Array.getElem?_eq_none (by simp;omega)]
theorem gu.made (w:World) (n:Nat):gu (w.alloc (.cells (madeCells #[.bool false] n) 4)) w.heap.size n fun _=>false:=by
 unfold gu;have e:madeCells #[.bool false] n=((List.range n).map fun _=>Value.bool false).toArray:=by
  apply Array.ext
  ·simp [madeCells]
  intro i a b
  simp [madeCells,Nat.mod_one]
 rw [e];exact heap_alloc_new w _
theorem lb {B:Nat} {w0 w:World} {g j:Nat} {v:Value} (h:Below B w0 w) (b:B≤g):Below B w0 (w.setCell ⟨g,j,none⟩ v):=by
 refine ⟨h.os,h.tape,h.output,by simpa [World.setCell] using h.size,fun k a=>?_⟩
 rw [←h.block k a];simp only [World.setCell,Array.getElem?_modify];rw [if_neg (by omega)]
theorem Tryz.infoBol:(Tryz.prog.info? 4).map (fun i=>(i.zero,i.size,i.bytes))=some (some (.bool false),1,1):=by kernel_rfl
def cntF (f:Nat→Bool):Nat→Nat
 | 0=>0
 | k+1=>cntF f k+(if f k=true then 0 else 1)
def mu (f:Nat→Bool) (x j:Nat):Bool:=if j=x then true else f j
theorem yv {f:Nat→Bool} {x:Nat} (c:f x=false):∀ N,(x<N→cntF (mu f x) N+1=cntF f N)∧(N≤x→cntF (mu f x) N=cntF f N)
 | 0=>⟨fun h=>by omega,fun _=>rfl⟩
 | k+1=>by
  obtain ⟨d,b⟩:=yv c k;refine ⟨fun h=>?_,fun h=>?_⟩
  ·rw [cntF,cntF]
   by_cases e:k=x
   ·rw [b (by omega)]
    subst e
    simp [mu,c]
   have g:=d (by omega)
   have a:mu f x k=f k:=by simp [mu,e]
   rw [a]
   omega
  rw [cntF,cntF,b (by omega)]
  have a:mu f x k=f k:=by simp [mu,show k≠x by omega]
  rw [a]
def sy (N:Nat) (f0 f:Nat→Bool) (ag:Bool):Prop:=(ag=true→cntF f N<cntF f0 N)∧(ag=false→f=f0)
theorem EM {N i:Nat} {a f:Nat→Bool} {ag:Bool} (h:sy N a f ag) (d:i<N) (c:f i=false):sy N a (mu f i) true:=by
 refine ⟨fun _=>?_,fun e=>by cases e⟩
 have b:=(yv c N).1 d;cases ag with
 | true=>have:=h.1 rfl;omega
 | false=>rw [h.2 rfl] at b ⊢;omega
def IM (f:Nat→Bool) (ag:Bool) (N:Nat):Nat:=cntF f N+(if ag=true then 1 else 0)
theorem pH (n:Nat) (f:n≤3000) (w:World):(Instr.makeSlice 61 (.int .i64 (n:Int)) (.int .i64 (n:Int))).run Tryz.prog w=.ok (.slice (some ⟨w.heap.size,0,none⟩) n n) (w.alloc (.cells (madeCells #[.bool false] n) 4)):=by
 obtain ⟨i0,a,b,c,d⟩:=info_parts Tryz.infoBol;have e:=run_make (P:=Tryz.prog) w 61 4 i0 _ Tryz.underlying61 a b .i64 .i64 n n (by omega) (Int.le_refl _) (by rw [d];omega) (by omega)
 simp only [Int.toNat_natCast,c,Nat.mul_one] at e;exact e
theorem kT {D:Nat→Dm} {n:Nat} (h:(bM D n).2.2=0):(ah D n).2.2=0∧dS D n:=by
 by_cases d:(ah D n).2.2=0
 ·refine ⟨d,Classical.byContradiction fun r=>?_⟩
  have f:∃ i,i<n∧(a8 (D i)).2≠0:=Classical.byContradiction fun p=>r fun i g=>Classical.byContradiction fun b=>p ⟨i,g,b⟩
  have a:∀ m,(∃ i,i<m∧i<n∧(a8 (D i)).2≠0)→∃ i,i<n∧(a8 (D i)).2≠0∧∀ j,j<i→(a8 (D j)).2=0:=by
   intro m
   induction m with
   | zero=>rintro ⟨i,h,-⟩;omega
   | succ m ih =>
    rintro ⟨i,s,l,o⟩
    by_cases k:∃ i,i<m∧i<n∧(a8 (D i)).2≠0
    ·exact ih k
    exact ⟨i,l,o,fun j t=>Classical.byContradiction fun b=>k ⟨j,by omega,by omega,b⟩⟩
  obtain ⟨i0,c,e⟩:=f;obtain ⟨i,g,b,q⟩:=a n ⟨i0,c,c,e⟩;rw [KZ d g b q] at h;exact b h
 rw [KY d] at h;exact absurd h d
theorem qi {D:Nat→Dm} {n:Nat} {l:List En} (h:Ens D n l) (p:List Int):b7 (getE l p):=by
 unfold getE
 split
 ·exact eU
 rename_i e r he
 split
 ·exact eU
 have a:e∈l:=List.mem_of_mem_drop (i:=cntE l p) (by rw [he];exact List.mem_cons_self ..)
 exact AA (h.each e a).2.2
theorem Kv {D:Nat→Dm} {n:Nat} {l:List En} (h:Ens D n l) {j:Nat} (a:j<prodN D n):(wrV D n l).getD j noC=getE l (ak D n j):=by
 rw [IG h]
 simp [Ks,List.getD,a]
end Go.Proofs.YthlhjjabkgpenaaGreatDoor
