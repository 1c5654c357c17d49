/- Whoever waits needs on -/
import Derived.Test.YtohgnbgamfepoaaGreatDoorJHBG
import Derived.Test.YtohgnbgamfepoaaGreatDoorJHBH
namespace Go.Proofs.YtohgnbgamfepoaaGreatDoor
open ChangeShapes WideShapes ChangeAt RowKit Go
set_option maxRecDepth 99999
set_option maxHeartbeats 0
section
variable {D:Nat→Dm} {n:Nat}
theorem fG (q:dI D n) (p:(am D n).2.2=0) {i:Nat} {T:List Int} (r:eM D n (aj D n i) T) {z:Int} (t:z∈T):∃ j:Nat,z=(j:Int)∧j<prodN D n∧msrTo D (aj D n j) n<msrTo D (aj D n i) n:=by
 obtain ⟨b,u,x,o,rfl⟩:=(r.2.2 z).1 t;have g:InO D n (aj D n i):=bZ p;have a:b<n:=by
  rcases by_in D (aj D n i) n with h | ⟨b',h1,h2⟩
  ·omega
  omega
 have f:=eo o;have c:=gQ g a f.1 f.2;have l:=g.lo b a;have s:=g.hi b a;have e:=lG (q b a) (i:=((aj D n i).getD b 0).toNat) (by omega) o
 rw [Int.toNat_of_nonneg l] at e;have k:=(ju (by rw [g.len];exact a) e n).2 a
 obtain ⟨j,m⟩:∃ j:Nat,numI D ((aj D n i).set b x) n=(j:Int):=⟨(numI D ((aj D n i).set b x) n).toNat,by have:=(a8 c (Nat.le_refl n)).1;omega⟩
 refine ⟨j,m,by have:=(a8 c (Nat.le_refl n)).2.1;omega,?_⟩
 have d:=gn c;rw [m,Int.toNat_natCast] at d;rw [d];exact k
theorem xR (e:dI D n) (d:(am D n).2.2=0) (T:Nat→List Int) (f:∀ i,i<prodN D n→eM D n (aj D n i) (T i)) (done:Nat→Bool) (h:∀ i,i<prodN D n→done i=false→∃ z∈T i,done z.toNat=false):∀ i,i<prodN D n→done i=true:=by
 have a:∀ (m i:Nat),i<prodN D n→msrTo D (aj D n i) n<m→done i=true:=by
  intro m
  induction m with
  | zero=>intro i _ k;omega
  | succ m ih =>
   intro i b k;cases hd:done i with
   | true=>rfl
   | false =>
    obtain ⟨z,l,c⟩:=h i b hd;obtain ⟨j,rfl,g,o⟩:=fG e d (f i b) l;rw [Int.toNat_natCast,ih j g (by omega)] at c
    cases c
 exact fun i b=>a _ i b (Nat.lt_succ_self _)
theorem JB (g:dI D n) (l:(am D n).2.2=0) (inp:List Int→Int×Int) (c:Nat→Int×Int) {i:Nat} {T:List Int} (m:eM D n (aj D n i) T) (o:∀ z∈T,c z.toNat=ez D n inp (aj D n z.toNat)) {b:Nat} (j:byTo D (aj D n i) n=(b:Int)):ez D n inp (aj D n i)=ew (D b) (fun x=>c (numI D ((aj D n i).set b x) n).toNat) ((aj D n i).getD b 0).toNat:=by
 have e:InO D n (aj D n i):=bZ l;have a:b<n:=by
  rcases by_in D (aj D n i) n with h | ⟨b',f,h2⟩
  ·omega
  omega
 rw [p9 g inp e j];obtain ⟨p,q,-,-⟩:=bJ (g b a);have r:=e.lo b a;have s:=e.hi b a;refine iF p (q _ (by omega)) fun x k=>?_
 have d:=eo k;have f:=o _ ((m.2.2 _).2 ⟨b,j,x,k,rfl⟩);rw [gn (gQ e a d.1 d.2)] at f;exact f.symm
end
section
variable {D:Nat→Dm} {n:Nat}
theorem GH (b:dI D n) (a:(am D n).2.2=0) {N:List (List Int)} (h:N.length=prodN D n) (c:∀ i,i<prodN D n→eM D n (aj D n i) (N.getD i [])):nA N:=fun i g x d=>by
 obtain ⟨j,e,f,-⟩:=fG b a (c i (by omega)) d
 omega
theorem DT (j:dI D n) (h:(am D n).2.2=0) {N:List (List Int)} (t:N.length=prodN D n) (k:∀ i,i<prodN D n→eM D n (aj D n i) (N.getD i [])) (i:Nat) (s:i<N.length):cycB N i=false:=by
 rw [zP];intro q;have f:∀ {a b:Int},Rch N a b→∀ x:Nat,a=(x:Int)→x<prodN D n→∃ y:Nat,b=(y:Int)∧y<prodN D n∧msrTo D (aj D n y) n<msrTo D (aj D n x) n:=by
  intro a b e
  induction e with
  | one hx =>
   intro x c d;subst c;unfold fC at hx;rw [Int.toNat_natCast] at hx;exact fG j h (k x d) hx
  | more hx _ ih =>
   intro x c d;subst c;unfold fC at hx;rw [Int.toNat_natCast] at hx;obtain ⟨y,g,l,m⟩:=fG j h (k x d) hx;obtain ⟨z,o,p,r⟩:=ih y g l;exact ⟨z,o,p,by omega⟩
 obtain ⟨y,g,-,m⟩:=f q i rfl (by omega)
 have:y=i:=by omega
 subst this
 omega
end
section
variable {D:Nat→Dm} {n:Nat}
def BB (D:Nat→Dm) (n i j:Nat):Prop := ∃ b:Nat,byTo D (aj D n i) n=(b:Int)∧∃ x∈ep (D b) ((aj D n i).getD b 0).toNat,(j:Int)=numI D ((aj D n i).set b x) n
theorem jW {i j:Nat} {T:List Int} (a:eM D n (aj D n i) T):BB D n i j↔(j:Int)∈T:=(a.2.2 _).symm
inductive Ndd (D:Nat→Dm) (n:Nat):Nat→Nat→Prop
 | refl (i:Nat):Ndd D n i i
 | step {i j k:Nat}:BB D n i j→Ndd D n j k→Ndd D n i k
theorem BZ {N:Nat} {at':List Int} {T:Nat→List Int} {f:Nat→Bool} (t:∀ i,i<N→eM D n (aj D n i) (T i)) (e:∀ i,i<N→∀ z∈T i,∃ j:Nat,z=(j:Int)∧j<N) (p:∀ a:Nat,(a:Int)∈at'→f a=true) (q:∀ j,j<N→f j=true→∃ a:Nat,(a:Int)∈at'∧Ndd D n j a) (r:∀ i,i<N→f i=false→∀ z∈T i,f z.toNat=false):∀ j,j<N→(f j=true↔∃ a:Nat,(a:Int)∈at'∧Ndd D n j a):=by
 intro j m;refine ⟨q j m,fun ⟨a,u,h⟩=>?_⟩
 have l:∀ {x b:Nat},Ndd D n x b→x<N→f b=true→f x=true:=by
  intro x b c
  induction c with
  | refl=>intro _ h;exact h
  | @step x' y' z' hst _ ih =>
   intro g d;have o:=(jW (t _ g)).1 hst;obtain ⟨k,w,v⟩:=e _ g _ o;have s:=ih (by omega) d
   cases hfx:f x' with
   | true=>rfl
   | false =>
    have:=r _ g hfx _ o;rw [Int.toNat_natCast,s] at this;cases this
 exact l h m (p a u)
noncomputable def Hg (D:Nat→Dm) (n:Nat) (at':List Int) (i:Nat):Bool := @decide (∃ a:Nat,(a:Int)∈at'∧Ndd D n i a) (Classical.propDecidable _)
theorem k6 {at':List Int} {i:Nat}:Hg D n at' i=true↔∃ a:Nat,(a:Int)∈at'∧Ndd D n i a:=by unfold Hg;exact @decide_eq_true_iff _ (Classical.propDecidable _)
noncomputable def drtL (D:Nat→Dm) (n:Nat) (at':List Int):List Int:=selTo (Hg D n at') (prodN D n)
end
section
variable {D:Nat→Dm} {n:Nat}
noncomputable def JD (D:Nat→Dm) (n i j:Nat):Bool := @decide (BB D n i j) (Classical.propDecidable _)
theorem vV {i j:Nat}:JD D n i j=true↔BB D n i j:=by unfold JD;exact @decide_eq_true_iff _ (Classical.propDecidable _)
noncomputable def JF (D:Nat→Dm) (n i:Nat):List Int:=selTo (JD D n i) (prodN D n)
theorem lT (d:dI D n) (c:(am D n).2.2=0) {i:Nat} {T:List Int} (a:eM D n (aj D n i) T):T=JF D n i :=
 jb _ _ a.1 (fl _ _) fun x=>⟨fun b=>by
  obtain ⟨j,rfl,e,-⟩:=fG d c a b;exact jU e (vV.2 ((jW a).2 b)),fun b=>by
  obtain ⟨m,rfl,-,f⟩:=cS _ b;exact (jW a).1 (vV.1 f)⟩
noncomputable def rowsL (D:Nat→Dm) (n:Nat):List (List Int):=(List.range (prodN D n)).map (JF D n)
theorem bN:(rowsL D n).length=prodN D n:=by simp [rowsL]
theorem lJ {i:Nat} (a:i<prodN D n):(rowsL D n).getD i []=JF D n i:=by
 unfold rowsL;rw [zZ,List.getElem?_map,List.getElem?_range a]
 rfl
noncomputable def caL (D:Nat→Dm) (n:Nat) (l:List En):List (Int×Int):=if fq D n l=0 then (List.range (prodN D n)).map (fun j=>ez D n (getE l) (aj D n j)) else []
theorem sm {l:List En} (h:fq D n l≠0):caL D n l=[]:=by unfold caL;rw [if_neg h]
theorem gO {l:List En} (h:fq D n l=0):(caL D n l).length=prodN D n:=by unfold caL;rw [if_pos h];simp
theorem wD {l:List En} (h:fq D n l=0) {j:Nat} (a:j<prodN D n):(caL D n l).getD j noC=ez D n (getE l) (aj D n j):=by
 unfold caL;rw [if_pos h,zZ,List.getElem?_map,List.getElem?_range a]
 rfl
theorem Es {l:List En} (h:fq D n l=0) {L:List (Int×Int)} (d:L.length=prodN D n) (f:∀ j,j<prodN D n→L.getD j noC=ez D n (getE l) (aj D n j)):L=caL D n l:=by
 refine List.ext_getElem (by rw [d,gO h]) fun i b c=>?_
 have a:i<prodN D n:=by omega
 have e:=(f i a).trans (wD h a).symm;rw [zZ,zX b,zZ,zX c] at e;exact e
noncomputable def coL (D:Nat→Dm) (n:Nat):List Int:=if (aO D n).2.2=0 then aB (rowsL D n) (prodN D n) else []
end
section
variable {D:Nat→Dm} {n:Nat}
theorem fE (b:dI D n) (a:(am D n).2.2=0) {i:Nat} (c:i<prodN D n):eM D n (aj D n i) ((rowsL D n).getD i []):=by
 have h:=iD b a c;rw [lJ c,←lT b a h];exact h
theorem fk (b:dI D n) (a:(am D n).2.2=0):nA (rowsL D n):=GH b a bN fun _ c=>fE b a c
theorem fD (c:dI D n) (b:(am D n).2.2=0) (i:Nat) (a:i<(rowsL D n).length):cycB (rowsL D n) i=false:=DT c b bN (fun _ a=>fE c b a) i a
theorem Dy (c:dI D n) (b:(am D n).2.2=0) (j:Nat) (a:j<(rowsL D n).length):((rowsL D n).getD j []).Pairwise (· < ·):=(fE c b (by rw [bN] at a;exact a)).1
theorem Fz (d:dI D n) (c:(am D n).2.2=0) {i:Nat} (f:i<prodN D n):(∀ z,z∈ndsX D n i↔z∈(rowsL D n).getD i [])∧(ndsX D n i).Nodup:=by
 have h:=iD d c f;have e:((ndsX D n i).mergeSort fun a b=>decide (a≤b))=(rowsL D n).getD i []:=by rw [lJ f,lT d c h]
 refine ⟨fun z=>by rw [←e];exact (List.mergeSort_perm _ _).mem_iff.symm,?_⟩
 have g:((ndsX D n i).mergeSort fun a b=>decide (a≤b)).Nodup:=h.1.imp fun h=>by omega
 exact (List.mergeSort_perm _ _).nodup_iff.1 g
theorem AJ {p:List Int} (m:placeErr D n p=0):leafV D n p=decide (byTo D p n = -1):=by
 have d:∀ k,k≤n→(byTo D p k = -1↔∀ i,i<k→eb D p i=false):=by
  intro k
  induction k with
  | zero=>intro _;exact ⟨fun _ i g=>absurd g (Nat.not_lt_zero _),fun _=>rfl⟩
  | succ k ih =>
   intro q;have c:=ih (by omega)
   constructor
   ·intro h i g
    have f : ¬ (leafB (D k).mem (D k).n (p.getD k 0).toNat=false∧(byTo D p k<0∨(D (byTo D p k).toNat).solve<(D k).solve)):=fun f=>by
     unfold byTo at h;rw [if_pos f] at h
     omega
    have l:byTo D p k = -1:=by
     unfold byTo at h;rw [if_neg f] at h;exact h
    by_cases e:i=k
    ·subst e
     unfold eb;cases hl:leafB (D i).mem (D i).n (p.getD i 0).toNat with
     | true=>rfl
     | false=>exact absurd ⟨hl,Or.inl (by rw [l];omega)⟩ f
    exact c.1 l i (by omega)
   intro h;have b:=h k (by omega)
   unfold byTo;rw [if_neg fun a=>by
    unfold eb at b;rw [a.1] at b;exact absurd b (by decide)]
   exact c.2 fun i g=>h i (by omega)
 unfold leafV;rw [if_pos m]
 rcases findFrom_cases (eb D p) n 0 with ⟨a,b⟩ | ⟨k,a,-,o,j,-⟩
 ·rw [a,decide_eq_true ((d n (zT)).2 fun i g=>b i (zU) (by omega))]
  decide
 have hne : ¬ byTo D p n = -1:=fun e=>by
  have:=(d n (zT)).1 e k (by omega)
  rw [this] at j;cases j
 rw [a,decide_eq_false hne,decide_eq_true (by omega)]
 rfl
end
theorem GO (Nn:List (List Int)) (m k:Nat):bE Nn m (k+1)=bE Nn m k ++ (if (m:Int)∈Nn.getD k [] then [(k:Int)] else []):=by
 unfold bE;rw [selTo];simp only [List.contains_iff_mem]
theorem tp (Nn:List (List Int)) (m k:Nat):(bE Nn m k).length≤k:=by unfold bE;exact cG _ _
theorem IE (p:Nat→Bool) (k:Nat):(selTo p k).length≤k:=cG _ _
structure UM (w:World) (B gU N:Nat) (UV:Nat→Value) (UL:Nat→List Int):Prop where
 hU:eU w gU N 26 UV
 own:∀ j,j<N→w.ownsRow B 3 1 (UV j) (UL j).length (aE (UL j))
 dU:∀ i j,i<N→j<N→i≠j→∀ b,(UV i).ownBlock=some b→(UV j).ownBlock≠some b
 lU:B≤gU
section
variable {w w':World} {B gU N:Nat} {UV:Nat→Value} {UL:Nat→List Int}
theorem UM.later (h:UM w B gU N UV UL) (a:Bl w w'):UM w' B gU N UV UL :=
 ⟨h.hU.same (a.block _ h.hU.lt),fun j b=>an (h.own j b) a,h.dU,h.lU⟩
theorem UM.off (h:UM w B gU N UV UL) {b:Nat} {a:Array Value} (c:w.heap[b]?=some (.cells a 3 (0,0))):b≠gU:=h.hU.off c g7
theorem UM.made (w:World) (N:Nat):UM (w.alloc (.cells (madeCells #[.slice none 0 0] N) 26)) w.heap.size w.heap.size N (fun _=>.slice none 0 0) (fun _=>[]) :=
 ⟨eU.made w N 26 (.slice none 0 0),fun _ _=>World.ownsRow_nil _ _ _ _,fun _ _ _ _ _ _ h=>(by cases h),zT⟩
theorem UM.pushU (h:UM w B gU N UV UL) {w4 w6:World} {k:Nat} {L:List Int} {v:Value} {H:Nat} (A:k<N) (t:Bl w w4) (z:w4.grownBy w6 (UV k).ownBlock) (D:w6.ownsRow B 3 1 v L.length (aE L)) (o:v.ownBlock=(UV k).ownBlock∨v.ownBlock=some H) (G:w.heap.size≤H) :
  UM (w6.setCell ⟨gU,k,none⟩ v) B gU N (fun j=>if j=k then v else UV j) (fun j=>if j=k then L else UL j):=by
 have E:=fun b (e:(UV k).ownBlock=some b)=>bP (h.own k A) e
 have l:∀ b,b<w.heap.size→(UV k).ownBlock≠some b→w6.heap[b]?=w.heap[b]?:=fun b a c=>(z.block b (zW a t.size) (fun e=>c e.symm)).trans (t.block b a)
 have C:(UV k).ownBlock≠some gU:=fun e=>by obtain ⟨-,-,q,u⟩:=E gU e;exact (h.off u) rfl
 have F:v.ownBlock≠some gU:=fun e=>by
  rcases o with g | g
  ·exact C (g.symm.trans e)
  rw [g] at e;have:=h.hU.lt;simp at e;omega
 have y:∀ (v1:Value) (L1:List Int),w.ownsRow B 3 1 v1 L1.length (aE L1)→(∀ b,v1.ownBlock=some b→(UV k).ownBlock≠some b)→w6.ownsRow B 3 1 v1 L1.length (aE L1):=fun v1 L1 g s=>iI (an g t) z s
 have n:∀ (v1:Value) (L1:List Int),w.ownsRow B 3 1 v1 L1.length (aE L1)→(∀ b,v1.ownBlock=some b→(UV k).ownBlock≠some b)→∀ b,v1.ownBlock=some b→v.ownBlock≠some b:=fun v1 L1 g s b a e=>by
  rcases o with h3 | h3
  ·exact s b a (h3.symm.trans e)
  rw [h3] at e;have:=(bP g a).2.1
  simp at e
  omega
 have d:∀ j,j<N→j≠k→∀ b,(UV j).ownBlock=some b→(UV k).ownBlock≠some b:=fun j f c b a=>h.dU j k f A c b a
 refine ⟨?_,fun j f=>?_,fun i j x f c b a=>?_,h.lU⟩
 ·exact (h.hU.same (l _ h.hU.lt C)).set fun j _=>rfl
 ·by_cases e:j=k
  ·simp only [if_pos e]
   exact fj D F
  simp only [if_neg e];refine fj (y _ _ (h.own j f) (d j f e)) fun r=>?_
  obtain ⟨-,-,q,u⟩:=bP (h.own j f) r;exact (h.off u) rfl
 by_cases p:i=k
 ·simp only [if_pos p] at a
  have m:j≠k:=fun e=>c (p.trans e.symm)
  simp only [if_neg m];intro r;exact n _ _ (h.own j f) (d j f m) b r a
 simp only [if_neg p] at a
 by_cases m:j=k
 ·simp only [if_pos m]
  exact n _ _ (h.own i x) (d i x p) b a
 simp only [if_neg m];exact h.dU i j x f c b a
end
def D2 (w:World) (gU N k:Nat) (Nn:List (List Int)) (w1:World):Prop := ∃ UV,UM w w1.heap.size gU N UV (fun j=>bE Nn j k)∧Bl w1 w
def I4 (w:World) (gU N k i:Nat) (Nn:List (List Int)) (T:List Int) (A2:Option Addr) (c2:Nat) (w1:World):Prop := ∃ UV,UM w w1.heap.size gU N UV (fun j=>bE Nn j k ++ (if (j:Int)∈T.take i then [(k:Int)] else []))∧(∀ j,j<N→∀ a,A2=some a→(UV j).ownBlock≠some a.block)∧aR w A2 c2 T∧Bl w1 w
section
variable {w w2 w1:World} {gU N k i:Nat} {Nn:List (List Int)} {T:List Int} {A2:Option Addr} {c2:Nat}
theorem D2.next (h:D2 w gU N k Nn w1) (c:Bl w w2) (g:aR w2 A2 c2 T) (d:∀ a,A2=some a→w.heap.size≤a.block):I4 w2 gU N k 0 Nn T A2 c2 w1:=by
 obtain ⟨UV,b,f⟩:=h;refine ⟨UV,?_,fun j l a i e=>?_,g,ae f c⟩
 ·have e:(fun j:Nat=>bE Nn j k ++ (if (j:Int)∈T.take 0 then [(k:Int)] else []))=fun j=>bE Nn j k:=by
   funext j
   simp
  rw [e];exact b.later c
 have m:=(bP (b.own j l) e).2.1;have n:=d a i
 omega
theorem I4.push (h:I4 w gU N k i Nn T A2 c2 w1) (Z:T.Nodup) (n:i<T.length) {y:Nat} (U:T.getD i 0=(y:Int)) (l:y<N) :
  ∃ AO ln m Ly,w.cell? ⟨gU,y,none⟩=some (.slice AO ln m)∧gU<w.heap.size∧ln≤k∧w.ownsRow w1.heap.size 3 1 (.slice AO ln m) ln (aE Ly)∧(∀ (w5 w6:World),Bl w w5→w5.grownBy w6 (Value.slice AO ln m).ownBlock→w6.cell? ⟨gU,y,none⟩=some (.slice AO ln m)∧w6.frozen? ⟨gU,y,none⟩=false∧gU<w6.heap.size) ∧
  ∀ (w5 w6:World) (v:Value),Bl w w5→w6.ownsRow w1.heap.size 3 1 v (ln+1) (aE Ly ++ [.int .i64 (k:Int)])→w5.grownBy w6 (Value.slice AO ln m).ownBlock→(v.ownBlock=(Value.slice AO ln m).ownBlock∨v.ownBlock=some w5.heap.size)→I4 (w6.setCell ⟨gU,y,none⟩ v) gU N k (i+1) Nn T A2 c2 w1:=by
 obtain ⟨UV,o,K,C,x⟩:=h;have B:(y:Int)∉T.take i:=by
  intro h;obtain ⟨j,M,e⟩:=List.getElem_of_mem h;have O:j<i:=by have:=M;rw [List.length_take] at this;omega
  rw [List.getElem_take] at e;have:=List.pairwise_iff_getElem.1 Z j i (by omega) n O
  rw [zZ,zX n,Option.getD_some] at U
  omega
 have D:w.ownsRow w1.heap.size 3 1 (UV y) (bE Nn y k).length (aE (bE Nn y k)):=by
  have h:=o.own y l;simp only [if_neg B,List.append_nil] at h;exact h
 obtain ⟨AO,m,E⟩:∃ AO m,UV y=.slice AO (bE Nn y k).length m:=by
  rcases D.2 with ⟨G,c⟩ | ⟨g,cap,F,G,-⟩
  ·exact ⟨none,0,by rw [G,c]⟩
  exact ⟨_,_,G⟩
 have R:∀ b,(UV y).ownBlock=some b→b≠gU:=fun b t=>by
  obtain ⟨-,-,F,Y⟩:=bP D t;exact o.off Y
 have A:∀ (w5 w6:World) (b:Nat),Bl w w5→w5.grownBy w6 (UV y).ownBlock→b<w.heap.size→(UV y).ownBlock≠some b→w6.heap[b]?=w.heap[b]?:=fun w5 w6 b d f t Q=>(f.block b (zW t d.size) (fun e=>Q e.symm)).trans (d.block b t)
 refine ⟨AO,(bE Nn y k).length,m,bE Nn y k,by rw [←E];exact o.hU.cell l,o.hU.lt,tp _ _ _,by rw [←E];exact D,fun w5 w6 d f=>?_,fun w5 w6 v d W f s=>?_⟩
 ·rw [←E] at f ⊢
  have u:=A w5 w6 gU d f o.hU.lt (fun e=>(R gU e) rfl)
  have r:=o.hU.same u;exact ⟨r.cell l,r.frozen y,r.lt⟩
 rw [←E] at f s;have P:((bE Nn y k ++ [(k:Int)]).length)=(bE Nn y k).length+1:=by rw [List.length_append];rfl
 have X:=o.pushU (L:=bE Nn y k ++ [(k:Int)]) (v:=v) (H:=w5.heap.size) l d f (by rw [P,mapI_snoc];exact W) s d.size
 have I:Bl w1 w6:=⟨f.os.trans (ae x d).os,f.tape.trans (ae x d).tape,f.output.trans (ae x d).output,zV (ae x d).size f.size,fun b t=>(f.block b (zW t (ae x d).size) (fun e=>by have:=(bP D e.symm).1;omega)).trans ((ae x d).block b t)⟩
 refine ⟨fun j=>if j=y then v else UV j,?_,fun j M a q=>?_,?_,I.setCell o.lU _⟩
 ·have e:(fun j:Nat=>bE Nn j k ++ (if (j:Int)∈T.take (i+1) then [(k:Int)] else []))=fun j:Nat=>if j=y then bE Nn y k ++ [(k:Int)] else bE Nn j k ++ (if (j:Int)∈T.take i then [(k:Int)] else []):=by
   funext j
   have S:(j:Int)∈T.take (i+1)↔(j:Int)∈T.take i∨j=y:=by
    rw [List.take_succ_eq_append_getElem n,List.mem_append,List.mem_singleton];rw [zZ,zX n,Option.getD_some] at U;rw [U];exact ⟨fun h=>h.imp id (by omega),fun h=>h.imp id (by omega)⟩
   by_cases p:j=y
   ·rw [if_pos p,if_pos (S.2 (Or.inr p)),p]
   rw [if_neg p]
   congr 1
   by_cases u:(j:Int)∈T.take i
   ·rw [if_pos u,if_pos (S.2 (Or.inl u))]
   rw [if_neg u,if_neg (fun h=>(S.1 h).elim u p)]
  rw [e];exact X
 ·by_cases p:j=y
  ·simp only [if_pos p]
   intro e
   rcases s with h | h
   ·exact K y l a q (h.symm.trans e)
   obtain ⟨-,-,c | ⟨b,cs,fr,c,z,-⟩⟩:=C
   ·rw [c] at n;simp at n
   rw [q] at c;cases c;have:=(zY z).1;have V:=d.size;rw [h] at e
   simp at e
   omega
  simp only [if_neg p];exact K j M a q
 have J:aR w6 A2 c2 T:=by
  refine C.one fun a q=>?_
  obtain ⟨-,-,c | ⟨b,cs,fr,c,z,-⟩⟩:=id C
  ·rw [c] at n;simp at n
  rw [q] at c;cases c;exact A w5 w6 b d f (zY z).1 (K y l _ q)
 refine J.one fun a q=>ar _ _ _ _ _ fun e=>?_
 obtain ⟨-,-,c | ⟨b,cs,fr,c,z,-⟩⟩:=id C
 ·rw [c] at n;simp at n
 rw [q] at c;cases c;exact o.hU.off z g7 e
theorem I4.done (h:I4 w gU N k T.length Nn T A2 c2 w1) (a:∀ z,z∈T↔z∈Nn.getD k []):D2 w gU N (k+1) Nn w1:=by
 obtain ⟨UV,d,-,-,c⟩:=h;refine ⟨UV,?_,c⟩;have e:(fun j=>bE Nn j (k+1))=fun j:Nat=>bE Nn j k ++ (if (j:Int)∈T.take T.length then [(k:Int)] else []):=by
  funext j
  rw [GO,List.take_length]
  congr 1
  by_cases h:(j:Int)∈T
  ·rw [if_pos h,if_pos ((a _).1 h)]
  rw [if_neg h,if_neg fun b=>h ((a _).2 b)]
 rw [e];exact d
end
theorem rT (Y g n:Nat) (D:Nat→Dm) (X:Nat→AL) (w:World) (K:dI D n) (u:(am D n).2.2=0) (hA:cJ w Y g n D X) :
  Calls Tryz.prog 98 #[.pointer (some ⟨Y,0,none⟩)] w fun e w' => ∃ gU,e=.returned (.slice (some ⟨gU,0,none⟩) (prodN D n) (prodN D n))∧D2 w' gU (prodN D n) (prodN D n) (rowsL D n) w:=by
 obtain ⟨i0,hi0,hz0,hz1,hz2⟩:=info_parts Tryz.infoInt;obtain ⟨hn1,hn4,hp3,hd⟩:=au u;have o:Hid (∀ k w',k<prodN D n→Bl w w'→Calls Tryz.prog 79 #[.pointer (some ⟨Y,0,none⟩),.int .i64 k] w' fun e w''=>(∃ A' l,e=.returned (.slice A' (ndsX D n k).length l)∧aR w'' A' l (ndsX D n k)∧∀ a,A'=some a→w'.heap.size≤a.block)∧Bl w' w''):=fun k w' x hB=>by
  refine (mx Y g n D X k w' K u x (hA.later hB)).mono ?_;rintro e w'' ⟨⟨v,rfl,J⟩,hb⟩;obtain ⟨A',l,rfl,hI⟩:=bQ J;exact ⟨⟨A',l,rfl,hI,fun a ha=>(bP J (by rw [ha];rfl)).1⟩,hb⟩
 have f:Hid (∀ k,k<prodN D n→(ndsX D n k).length≤12∧(∀ z∈ndsX D n k,∃ y:Nat,z=(y:Int)∧y<prodN D n)∧(ndsX D n k).Nodup∧∀ z,z∈ndsX D n k↔z∈(rowsL D n).getD k []):=fun k x=>by
  obtain ⟨h1,h2⟩:=Fz K u x;refine ⟨nJ K u x,fun z hz=>?_,h2,h1⟩
  have:=fk K u k (by rw [bN];exact x) z ((h1 z).1 hz)
  rw [bN] at this;exact ⟨z.toNat,by omega,by omega⟩
 obtain ⟨hq,-,q1⟩:=hA.cells;obtain ⟨Nn,I⟩:=az (rowsL D n);rw [I] at f ⊢;obtain ⟨N,hN⟩:=az (prodN D n);rw [hN] at o f hp3 q1 ⊢;have hNI:(N:Int)≤3000:=by omega
 have hmkR:=run_make_row' (P:=Tryz.prog) 71 26 (.slice none 0 0) 24 Tryz.underlying71 Tryz.infoRow rfl .i64 .i64 N (by omega) (by omega)
 have HK1:Hid (D2 (w.alloc (.cells (madeCells #[.slice none 0 0] N) 26)) w.heap.size N 0 Nn w):=⟨_,UM.made w N,by go_grown⟩
 generalize ndsX D n=nx at o f;clear hA u K hd I hN
 go_enter Tryz.func98,Tryz.ntmps98
 go_wp2_with fail
 go_loopg [16] N (fun gg s16 wr => ∃ (k:Nat),k≤N∧gg=N-k∧s16=.int .i64 k∧Hid (D2 wr w.heap.size N k Nn w))
 case atStart=>exact ⟨0,zU,rfl,rfl,HK1⟩
 case round =>
  obtain ⟨k,x,rfl,rfl,HK⟩:=hrel
  by_cases V:k<N
  ·have hki:(k:Int)<(N:Int):=by omega
   have Z:Hid (Bl w wr):=by obtain ⟨-,-,h⟩:=HK.out;exact h
   have j:=o.out k wr V Z.out;obtain ⟨E,q,s,r⟩:=f.out k V;obtain ⟨T,hT⟩:=az (nx k);rw [hT] at j E q s r;have q0:=aa q;have HRi:Hid T.Nodup:=s;have HMe:=aa r;obtain ⟨tl,t⟩:=az T.length;have p:=aa t;rw [t] at j E;have htI:(tl:Int)≤12:=by omega
   clear q s r hT t;go_wp2_with fail;refine j.mono ?_;rintro e w3 ⟨⟨A2,c2,rfl,H,F⟩,O⟩;have B:=aa (HK.out.next O H F);clear j H F O;go_wp2_with fail
   go_loopg [23] tl (fun gg s23 wi => ∃ (i:Nat),i≤tl∧gg=tl-i∧s23=.int .i64 i∧Hid (I4 wi w.heap.size N k i Nn T A2 c2 w))
   case atStart=>exact ⟨0,zU,rfl,rfl,B⟩
   case round =>
    obtain ⟨i,hi,rfl,rfl,W⟩:=hrel
    by_cases U:i<tl
    ·have hii:(i:Int)<(tl:Int):=by omega
     have d:i<T.length:=by rw [p.out];exact U
     obtain ⟨y,hy,hyN⟩:=q0.out _ (gl d);have hyI:(y:Int)<(N:Int):=by omega
     obtain ⟨AO,ln,cO,Ly,cU,hgl,hln,J,L,G⟩:=W.out.push HRi.out d hy hyN;have HO:=aa J;have C:=aa L;have A:=aa G;obtain ⟨hcT,hBs⟩:aR wr A2 c2 T∧w.heap.size≤wr.heap.size:=by
      obtain ⟨UV,-,-,hI,hB⟩:=W.out;exact ⟨hI,hB.size⟩
     obtain ⟨hcS,-,hS0 | ⟨bs,cs,fr,rfl,Q,R⟩⟩:=hcT
     ·rw [hS0] at d;simp at d
     have cx:=R i d;have hbs:bs<wr.heap.size:=(zY Q).1;rw [p.out] at hcS;rw [hy] at cx;have hcSI:(tl:Int)≤(c2:Int):=by omega
     have hlnI:ln≤3000:=by omega
     clear R Q J L G hy
     go_wp2_with (at_builtin;refine wpList_append_own_at _ rfl _ _ 26 rfl w.heap.size 3 i0 (.int .i64 0) 1 8 Tryz.underlying26 hi0 hz0 hz1 hz2 rfl (by decide) _ _ _ rfl (HO.out.alloc _) ⟨wr.heap.size,0,none⟩ 1 1 [.int .i64 k] rfl rfl bz dG (by unfold maxLen;omega) (by omega) (by simp;omega) ?_)
     intro v' w6 c b _ M;obtain ⟨y1,y2,y3⟩:=C.out _ _ (by go_grown) b
     obtain ⟨A',l,rfl⟩:∃ A' l,v'=.slice A' (ln+1) l:=by
      rcases c.2 with ⟨-,h⟩ | ⟨g',l,cur,h,-⟩
      ·omega
      exact ⟨_,_,h⟩
     have m:=aa (A.out _ _ _ (by go_grown) c b (M.imp id fun h=>by rw [h];simp))
     clear c b M;go_wp2_with fail
     go_roundg (tl-(i+1))
     case measure=>omega
     case rel=>exact ⟨i+1,by omega,rfl,by go_num,m⟩
    have S:i=tl:=by omega
    have m:Hid (D2 wr w.heap.size N (k+1) Nn w):=by
     have h:=W.out;rw [S,←p.out] at h;exact h.done HMe.out
    subst S;clear W B;go_wp2_with fail
    go_roundg (N-(k+1))
    case measure=>omega
    case rel=>exact ⟨k+1,by omega,rfl,by go_num,m⟩
  have hke:k=N:=by omega
  subst hke;go_wp2_with fail;go_ret;exact ⟨_,rfl,HK.out⟩
theorem yu (q g n:Nat) (D:Nat→Dm) (X:Nat→AL) (x:Nat) (w:World) (c:(am D n).2.2=0) (m:x<prodN D n) (f:cJ w q g n D X) :
  Rt 97 #[.pointer (some ⟨q,0,none⟩),.int .i64 x] w (.bool (leafV D n (aj D n x))):=by
 obtain ⟨z,-,y⟩:=f.cells;have a:=sj q g n D X x w c m f;obtain ⟨p,s,i,o⟩:=au c;have k:=bZ (D:=D) (n:=n) (x:=x) c;rw [AJ k.ok];obtain ⟨r,l⟩:=az (byTo D (aj D n x) n);rw [l] at a ⊢;have HV:Hid ((r == -1)=decide (r = -1)):=by
  show _=_
  by_cases h:r = -1
  ·rw [h];rfl
  rw [decide_eq_false h];simpa using h
 obtain ⟨N,j⟩:=az (prodN D n);rw [j] at y m i;have v:(x:Int)<(N:Int):=by omega
 obtain ⟨t,u⟩:=az ((r == -1));rw [←HV.out,u];clear f c o k l j HV
 go_enter Tryz.func97,Tryz.ntmps97
 go_wp2_with fail;refine a.mono ?_;rintro e w1 ⟨rfl,b⟩;have d:=aa b;clear b a;go_wp2_with fail;go_ret;exact ⟨rfl,d.out⟩
section
variable {D:Nat→Dm} {n:Nat}
theorem DH (p:dI D n) (w:(am D n).2.2=0) {inp inp':List Int→Int×Int} {m:Nat} (q:∀ i:Nat,i<prodN D n→i≠m→inp (aj D n i)=inp' (aj D n i)):∀ (k i:Nat),i<prodN D n→msrTo D (aj D n i) n<k→¬ Ndd D n i m→ez D n inp (aj D n i)=ez D n inp' (aj D n i):=by
 intro k
 induction k with
 | zero=>intro i _ h;omega
 | succ k ih =>
  intro i hi B v;have a:InO D n (aj D n i):=bZ w
  rcases by_in D (aj D n i) n with h | ⟨b,hb,hbn⟩
  ·rw [fR _ (by omega),fR _ (by omega)]
   exact q i hi fun e=>v (e ▸ .refl _)
  rw [p9 p inp a hb,p9 p inp' a hb];have s:=a.lo b hbn;have A:=a.hi b hbn;have g:=p b hbn;obtain ⟨y,z,-,-⟩:=bJ g;refine iF y (z _ (by omega)) fun x t=>?_
  have o:=eo t;have c:=gQ a hbn o.1 o.2;have d:=a8 c (Nat.le_refl n);obtain ⟨j,u⟩:∃ j:Nat,numI D ((aj D n i).set b x) n=(j:Int):=⟨(numI D ((aj D n i).set b x) n).toNat,by have:=d.1;omega⟩
  have f:=gn c;rw [u,Int.toNat_natCast] at f;have l:=lG g (i:=((aj D n i).getD b 0).toNat) (by omega) t
  rw [Int.toNat_of_nonneg s] at l;have r:=(ju (by rw [a.len];exact hbn) l n).2 hbn
  rw [←f] at r ⊢;exact ih j (by have:=d.2.1;omega) (by omega) fun h=>v (.step ⟨b,hb,x,t,u.symm⟩ h)
end
theorem OwD.dimsO {w:World} {B g q n:Nat} {D:Nat→Dm} {G C:Nat→Nat} (h:OwD w B g q n D G C):kP w B g n D G C:=by
 have f:=h.dims;obtain ⟨b1,-,-,-,-⟩:=ig f;rw [←Bn] at f;refine ⟨b1,?_,fun i s=>?_⟩
 ·rcases f.2 with ⟨b,_⟩ | ⟨g',c,a,b,r,k,o,d,e,p⟩
  ·cases b
  cases b;refine ⟨a,k,fun j l=>?_⟩
  have:=lI (we D (fun i=>some ⟨G i,0,none⟩) C) l
  rw [←p,List.getElem?_take,if_pos (by omega),Array.getElem?_toList] at this
  exact this
 have m:=h.mems i s;obtain ⟨m1,-,m3,-,-⟩:=ig m;rw [←Bo] at m
 rcases m.2 with ⟨b,_⟩ | ⟨g',c,a,b,r,k,o,d,e,p⟩
 ·cases b
 cases b;refine ⟨m1,m3,a,_,k,fun j l=>?_⟩
 have:=lI (uH (D i).mem) l;rw [←p,List.getElem?_take,if_pos (by omega),Array.getElem?_toList] at this
 exact this
theorem xW (A0:Option Addr) (cap n:Nat) (D:Nat→Dm) (A:Nat→Option Addr) (C:Nat→Nat) (w:World) (f:(am D n).2.2=0) (h:aW w A0 cap n D A C) :
  Calls Tryz.prog 20 #[.agg #[.slice A0 n cap]] w fun e w'=>(∃ g c G C',e=.returned (.agg #[.slice (some ⟨g,0,none⟩) n c])∧n≤c∧kP w' w.heap.size g n D G C')∧Bl w w' :=
 (xX A0 cap n D A C w f h).mono fun _ _ ⟨⟨g,c,G,C',b,a⟩,d⟩=>⟨⟨g,c,G,C',b,(ig a.dims).2.2.1,a.dimsO⟩,d⟩
theorem yK (d:Dm) (b o cap:Nat) (i:Int) (w:World) (Y:d.n≤12) (K:b8 w b o d.n d.mem):Calls Tryz.prog 65 #[.agg #[.string d.name,.int .i64 d.solve,.slice (some ⟨b,o,none⟩) d.n cap],.int .i64 i] w fun e w'=>(∃ A c,e=.returned (.slice A (bA d.mem d.n i).length c)∧bX w' A c (bA d.mem d.n i)∧∀ b o,A=some ⟨b,o,none⟩→w.heap.size≤b)∧Bl w w':=by
 obtain ⟨i0,y,F,G,H⟩:=info_parts Tryz.infoInt;have L:=bg w d (some ⟨b,o,none⟩) cap 70;have m:=aT w d (some ⟨b,o,none⟩) cap 70;have v:=(dO w d (some ⟨b,o,none⟩) cap 70).2.2;obtain ⟨W,x⟩:∃ W,W=aL w d (some ⟨b,o,none⟩) cap 70:=⟨_,rfl⟩;rw [←x] at L m v;have R:=aa x;have r:=aa m;have P:=aa (K.later m);have O:=aa v;have E:w.heap.size<W.heap.size:=by omega
 have V:(d.n:Int)≤12:=by omega
 obtain ⟨p,C⟩:∃ p:Nat→Bool,p=iJ d.mem i:=⟨_,rfl⟩;have Q:=aa C;unfold bA;rw [←C];clear K x m v L C
 go_enter Tryz.func65,Tryz.ntmps65
 go_wp2_with fail
 go_loopg [5,6] d.n (fun g s5 s6 wr => ∃ (k:Nat),k≤d.n∧g=d.n-k∧s6=.int .i64 k∧wr.ownsRow W.heap.size 3 1 s5 (selTo p k).length (aE (selTo p k))∧Bl W wr)
 case atStart=>exact ⟨0,zU,rfl,rfl,World.ownsRow_nil _ _ _ _,by rw [R.out];exact zS⟩
 case round =>
  obtain ⟨k,X,rfl,rfl,a,f⟩:=hrel;have q:=aa f;have I:=aa a;have c2:wr.cell? ⟨w.heap.size,2,none⟩=some (.slice (some ⟨b,o,none⟩) d.n cap):=aC f E O.out;have N:=f.size
  by_cases B:k<d.n
  ·have U:(k:Int)<(d.n:Int):=by omega
   obtain ⟨-,J,-,-⟩:=(P.out.later f).2 k B;have M:=cG p k;have h:p k=((d.mem k).parent == i):=by rw [Q.out];rfl
   clear f;cases hb:p k
   ·have t:=aa hb
    rw [hb] at h;have D:((d.mem k).parent == i)=false:=h.symm;clear hb h a;go_wp2_with fail
    go_roundg (d.n-(k+1))
    case measure=>omega
    case rel=>exact ⟨k+1,by omega,rfl,by go_num,by rw [gI t.out];exact I.out,q.out⟩
   have t:=aa hb;rw [hb] at h;have D:((d.mem k).parent == i)=true:=h.symm;clear hb h
   go_wp2_with (at_builtin;refine wpList_append_own _ rfl _ _ 26 rfl W.heap.size 3 i0 (.int .i64 0) 1 8 Tryz.underlying26 y F G H rfl (by decide) _ _ _ rfl (a.alloc _) ⟨wr.heap.size,0,none⟩ 1 1 [.int .i64 k] rfl rfl bz dG (by unfold maxLen;omega) (by omega) (by simp;omega) ?_)
   intro v' w2 l j _;have s:Hid (Bl W w2):=bD q.out a j;have u:Hid (w2.ownsRow W.heap.size 3 1 v' (selTo p (k+1)).length (aE (selTo p (k+1)))):=by
    show World.ownsRow ..
    rw [jT t.out,mapI_snoc,List.length_append];exact l
   clear l j a c2;go_wp2_with fail
   go_roundg (d.n-(k+1))
   case measure=>omega
   case rel=>exact ⟨k+1,by omega,rfl,by go_num,u.out,s.out⟩
  have z:k=d.n:=by omega
  subst z;clear f a;go_wp2_with fail;go_ret;obtain ⟨A,c,J,S,T⟩:=Fg I.out;exact ⟨⟨A,c,by rw [←J];rfl,S,fun b o e=>zV r.out.size (T b o e)⟩,ae r.out q.out⟩
end Go.Proofs.YtohgnbgamfepoaaGreatDoor
