/- What a hall is asked t -/
import Derived.Test.YtompdcaikmekkaaGreatDoorJHBJ
namespace Go.Proofs.YtompdcaikmekkaaGreatDoor
open ChangeShapes WideShapes ChangeAt RowKit
set_option maxRecDepth 99999
set_option maxHeartbeats 0
def doE (D:Nat→Dm) (n:Nat) (l:List En) (Y:List Ed):Int:=(editsV D n l Y).2.2
def doL (D:Nat→Dm) (n:Nat) (l:List En) (Y:List Ed):List En:=if doE D n l Y=0 then (editsV D n l Y).1 else l
noncomputable def doN (D:Nat→Dm) (n:Nat) (l:List En) (Y:List Ed):Nat:=if doE D n l Y=0 then (drtL D n (Y.map fun x=>numI D x.pl n)).length else 0
def kT (l:List En) (Y:List Ed) (k:Nat):List En:=(Y.take k).foldl editV l
def o9:Ed:=⟨[],0,false⟩
theorem lZ (l:List En) (Y:List Ed) {k:Nat} (a:k<Y.length):kT l Y (k+1)=editV (kT l Y k) (Y.getD k o9):=by
 unfold kT;rw [List.take_succ_eq_append_getElem a,List.foldl_append,zZ,zX a]
 rfl
section
variable {D:Nat→Dm} {n:Nat}
theorem wJ {l:List En} (c:Ens D n l):∀ (Y:List Ed) (i:Nat),(aO D n l i Y).2.2=0→(aO D n l i Y).1=kT l Y Y.length∧∀ k,k<Y.length→editErr D n (kT l Y k) (Y.getD k o9)=0∧Ens D n (kT l Y k):=by
 intro Y
 induction Y generalizing l with
 | nil=>intro i _;exact ⟨rfl,fun k b=>absurd b (Nat.not_lt_zero _)⟩
 | cons x r ih =>
  intro i h
  by_cases a:editErr D n l x=0
  ·rw [kV r a] at h ⊢
   obtain ⟨e,f⟩:=ih (c.edit a).2 (i+1) h;have d:∀ k,kT l (x :: r) (k+1)=kT (editV l x) r k:=fun k=>by unfold kT;rw [List.take_succ_cons,List.foldl_cons]
   refine ⟨by rw [e,List.length_cons,d],fun k b=>?_⟩
   cases k with
   | zero=>exact ⟨a,c⟩
   | succ k =>
    rw [d];exact f k (by simpa using b)
  rw [j9 r a] at h;exact absurd h a
theorem jm {l:List En} (b:Ens D n l) {Y:List Ed} (h:doE D n l Y=0):Y.length≤60∧doL D n l Y=kT l Y Y.length∧∀ k,k<Y.length→editErr D n (kT l Y k) (Y.getD k o9)=0∧Ens D n (kT l Y k):=by
 have e:=h;unfold doE editsV at e
 by_cases a:60<Y.length
 ·rw [if_pos a] at e
  simp at e
 rw [if_neg a,if_neg (by simpa using b.ok)] at e
 obtain ⟨c,d⟩:=wJ b Y 0 e;refine ⟨by omega,?_,d⟩
 unfold doL;rw [if_pos h];unfold editsV;rw [if_neg a,if_neg (by simpa using b.ok)]
 exact c
theorem wH {l:List En} (a:Ens D n l) (Y:List Ed):Ens D n (doL D n l Y):=by
 by_cases h:doE D n l Y=0
 ·obtain ⟨-,b,c⟩:=jm a h
  rw [b];cases hY:Y.length with
  | zero=>exact a
  | succ k =>
   have:=c k (by omega)
   rw [lZ l Y (by omega)]
   exact (this.2.edit this.1).2
 unfold doL;rw [if_neg h];exact a
theorem gw {l:List En} (b:(aP D n).2.2=0) (a:Ens D n l):fj D n l=0:=by unfold fj;rw [if_neg (by simpa using b)];exact a.ok
end
noncomputable def hcV (D:Nat→Dm) (n:Nat) (l:List En) (p:List Int):Int×Int:=if placeErr D n p=0 then (caL D n l).getD (numI D p n).toNat noC else (0,0)
structure HallC (HV:World→Nat→(Nat→Prop)→(Nat→Dm)→Nat→List En→Prop):Prop where
 keep:∀ {w w' h S D n l},HV w h S D n l→w.heap.size≤w'.heap.size→(∀ b,S b→w'.heap[b]?=w.heap[b]?)→HV w' h S D n l
 inS:∀ {w h S D n l},HV w h S D n l→∀ b,S b→b<w.heap.size
 right:∀ {w h S D n l},HV w h S D n l→(aP D n).2.2=0∧Ens D n l
 bad:∀ A0 cap n D A C w,(aP D n).2.2≠0→aY w A0 cap n D A C→Calls Tryz.prog 5 #[.agg #[.slice A0 n cap]] w fun e w'=>e=.returned (.tuple #[.pointer none,errV (aP D n).2.2])∧Bl w w'
 new:∀ A0 cap n D A C w,(aP D n).2.2=0→aY w A0 cap n D A C→Calls Tryz.prog 5 #[.agg #[.slice A0 n cap]] w fun e w'=>(∃ h S,e=.returned (.tuple #[.pointer (some ⟨h,0,none⟩),.nilIface])∧HV w' h S D n []∧∀ b,S b→w.heap.size≤b)∧Bl w w'
 edit:∀ h S D n l Ax cx ys w,HV w h S D n l→km w Ax cx ys→Calls Tryz.prog 10 #[.pointer (some ⟨h,0,none⟩),.slice Ax ys.length cx] w fun e w'=>(∃ S',e=.returned (.tuple #[.int .i64 (doN D n l (lD ys):Nat),errV (doE D n l (lD ys))])∧HV w' h S' D n (doL D n l (lD ys))∧∀ b,S' b→S b∨w.heap.size≤b)∧Kept w.heap.size S w w'
 cells:∀ h S D n l w,HV w h S D n l→Calls Tryz.prog 13 #[.pointer (some ⟨h,0,none⟩)] w fun e w'=>(∃ A' c',e=.returned (.slice A' (caL D n l).length c')∧dw w' A' c' (caL D n l))∧Bl w w'
 entries:∀ h S D n l w,HV w h S D n l→Calls Tryz.prog 15 #[.pointer (some ⟨h,0,none⟩)] w fun e w'=>(∃ A' c' zs,e=.returned (.slice A' zs.length c')∧b6 w' A' c' zs∧lE zs=l)∧Bl w w'
theorem HallC.later {HV:World→Nat→(Nat→Prop)→(Nat→Dm)→Nat→List En→Prop} (C:HallC HV) {w w':World} {h:Nat} {S:Nat→Prop} {D:Nat→Dm} {n:Nat} {l:List En} (c:HV w h S D n l) (a:Bl w w'):HV w' h S D n l:=C.keep c a.size fun b d=>a.block b (C.inS c b d)
theorem v6 {W0 w w':World} {S:Nat→Prop} (h:Bl W0 w) (a:Kept w.heap.size S w w') (d:∀ b,S b→W0.heap.size≤b):Bl W0 w' :=
 ⟨a.os.trans h.os,a.tape.trans h.tape,a.output.trans h.output,zV h.size a.size,fun b c=>(a.block b (zW c h.size) fun e=>by have:=d b e;omega).trans (h.block b c)⟩
section
variable {D:Nat→Dm} {n:Nat}
def Cm (D:Nat→Dm) (n:Nat) (Q:List (List Int)):List Int:=if shTo D n Q=0 then kR D n Q else []
theorem Jh {Q:List (List Int)} (h:shTo D n Q=0):∀ q∈Q,shapeErr D n q=0:=by
 induction Q with
 | nil=>intro q c;cases c
 | cons a r ih =>
  unfold shTo at h
  by_cases b:shapeErr D n a=0
  ·rw [if_neg (by simpa using b)] at h
   intro q c
   rcases List.mem_cons.1 c with rfl | h2
   ·exact b
   exact ih h q h2
  rw [if_pos b] at h;exact absurd h b
theorem Is (Q:List (List Int)) {k:Nat} (a:k<Q.length):shTo D n (Q.drop k)=if shapeErr D n (Q.getD k [])≠0 then shapeErr D n (Q.getD k []) else shTo D n (Q.drop (k+1)):=by
 rw [List.drop_eq_getElem_cons a,shTo,zZ,zX a]
 rfl
theorem IU (g:(am D n).2.2=0) {Q:List (List Int)} (h:shTo D n Q=0):zk (prodN D n) (kR D n Q)∧((kR D n Q).any fun z => !leafV D n (aj D n z.toNat))=Q.any fun q => !leafV D n q:=by
 have a:∀ q∈Q,∃ x:Nat,numI D q n=(x:Int)∧x<prodN D n∧aj D n x=q:=fun q b=>xK (fV (by rw [gf g];exact Jh h q b))
 constructor
 ·intro z f
  unfold kR at f;obtain ⟨q,b,rfl⟩:=List.mem_map.1 f;obtain ⟨x,c,d,-⟩:=a q b;exact ⟨x,c,d⟩
 unfold kR;rw [List.any_map];rw [Bool.eq_iff_iff,List.any_eq_true,List.any_eq_true]
 constructor
 ·rintro ⟨q,b,c⟩
  refine ⟨q,b,?_⟩;obtain ⟨x,d,-,e⟩:=a q b;rw [Function.comp_apply,d,Int.toNat_natCast,e] at c;exact c
 rintro ⟨q,b,c⟩;refine ⟨q,b,?_⟩;obtain ⟨x,d,-,e⟩:=a q b;rw [Function.comp_apply,d,Int.toNat_natCast,e];exact c
theorem Gt (y:Nat):zk (prodN D n) (bC (rowsL D n) y (prodN D n)):=fun z b=>by
 obtain ⟨j,rfl,a,-⟩:=g7.1 b;exact ⟨j,rfl,a⟩
theorem vo (g:dH D n) (f:(am D n).2.2=0) {S:List Int} {j:Nat} (s:j<prodN D n):Rea (fun y=>bC (rowsL D n) y (prodN D n)) S (j:Int)↔∃ a:Nat,(a:Int)∈S∧Ndd D n j a:=by
 constructor
 ·intro h
  have c:∀ z,Rea (fun y=>bC (rowsL D n) y (prodN D n)) S z→∀ j:Nat,z=(j:Int)→∃ a:Nat,(a:Int)∈S∧Ndd D n j a:=by
   intro z u
   induction u with
   | base h =>
    intro j e;subst e;exact ⟨j,h,.refl _⟩
   | @step y x' hy d ih =>
    intro j e;subst e;obtain ⟨a,i,t⟩:=ih y rfl;obtain ⟨j',v,m,p⟩:=g7.1 d;have:j=j':=by omega
    subst this;exact ⟨a,i,.step ((jQ (fB g f m)).2 p) t⟩
  exact c _ h j rfl
 rintro ⟨a,i,h⟩;have c:∀ {x b:Nat},Ndd D n x b→x<prodN D n→(b:Int)∈S→Rea (fun y=>bC (rowsL D n) y (prodN D n)) S (x:Int):=by
  intro x b l
  induction l with
  | refl=>intro _ h;exact .base h
  | @step x' y' z' hst _ ih =>
   intro q r;have d:=(jQ (fB g f q)).1 hst;obtain ⟨k,w,o⟩:=Ii g f x' q _ d;have:y'=k:=by omega
   subst this;exact .step (ih o r) (g7.2 ⟨x',rfl,q,d⟩)
 exact c h s i
theorem EA (d:dH D n) (c:(am D n).2.2=0) {S L:List Int} (g:zk (prodN D n) S) (f:L.Pairwise (· < ·)) (i:∀ z,z∈L↔Rea (fun y=>bC (rowsL D n) y (prodN D n)) S z):L=drtL D n S:=by
 refine i6 _ _ f (fh _ _) fun z=>?_
 rw [i z];unfold drtL
 constructor
 ·intro b
  obtain ⟨j,rfl,a⟩:=Je g (fun y _=>Gt y) b
  exact jO a (kQ.2 ((vo d c a).1 b))
 intro h;obtain ⟨j,rfl,a,e⟩:=cQ _ h;exact (vo d c a).2 (kQ.1 e)
end
theorem xh (F:Nat) (cap:Array Value) (p:Int→Bool) (a:∀ (args:Array Value) (w:World),(callFunc F args).run Tryz.prog w=.ok (.enter F args) w) (A:Option Addr) (c:Nat) (L:List Int) (w:World) (f:L.length≤3000) (d:bW w A c L)
  (b:∀ (x:Int) (w':World),x∈L→Bl w w'→Calls Tryz.prog F (#[.int .i64 x] ++ cap) w' fun e w''=>e=.returned (.bool (p x))∧Bl w' w'') :
  Rt 93 #[.slice A L.length c,.func (.func F) #[] cap] w (.bool (lN p L)):=by
 rw [←tx];exact oz F cap p a A c L w (by omega) (lm d) b
theorem wM (args:Array Value) (w:World):(callFunc 94 args).run Tryz.prog w=.ok (.enter 94 args) w:=by simp [go_sem]
theorem wF (q g n b:Nat) (D:Nat→Dm) (X:Nat→AL) (x:Nat) (w:World) (d:(am D n).2.2=0) (f:x<prodN D n) (c:cI w q g n D X) (i:w.cell? ⟨b,0,none⟩=some (.pointer (some ⟨q,0,none⟩))) :
  Rt 94 #[.int .i64 x,.pointer (some ⟨b,0,none⟩)] w (.bool (!leafV D n (aj D n x))):=by
 have h:=ye q g n D X x w d f c;generalize leafV D n (aj D n x)=r at h;clear c d f
 go_enter Tryz.func94,Tryz.ntmps94
 go_wp2_with fail;refine h.mono ?_;rintro e w1 ⟨rfl,a⟩;go_wp2_with fail;go_ret;exact ⟨rfl,a⟩
theorem wN (args:Array Value) (w:World):(callFunc 98 args).run Tryz.prog w=.ok (.enter 98 args) w:=by simp [go_sem]
theorem wG (b gU N y:Nat) (v:Value) (w:World) (d:N≤3000) (g:y<N) (e:w.cell? ⟨b,0,none⟩=some (.slice (some ⟨gU,0,none⟩) N N)) (f:w.cell? ⟨gU,y,none⟩=some v) :
  Rt 98 #[.int .i64 y,.pointer (some ⟨b,0,none⟩)] w (.tuple #[v,.nilIface]):=by
 have c:(y:Int)<(N:Int):=by omega
 have a:(N:Int)≤3000:=by omega
 go_enter Tryz.func98,Tryz.ntmps98
 go_wp2_with fail;go_returns;exact ⟨rfl,by go_grown⟩
theorem uL (A0:Option Addr) (cap n:Nat) (D:Nat→Dm) (A:Nat→Option Addr) (C:Nat→Nat) (Aq:Option Addr) (V:Nat) (xs:List PL) (w:World) (Y:(am D n).2.2=0) (hM:aY w A0 cap n D A C) (Z:rT w Aq V xs) (hl:xs.length≤200) :
  Calls Tryz.prog 92 #[.agg #[.slice A0 n cap],.slice Aq xs.length V] w fun e w'=>(∃ v,e=.returned (.tuple #[v,errV (shTo D n (lP xs))])∧w'.ownsRow w.heap.size 3 1 v (Cm D n (lP xs)).length (aF (Cm D n (lP xs))))∧Bl w w':=by
 obtain ⟨i0,hi0,hz0,hz1,hz2⟩:=info_parts Tryz.infoInt;have j:=aq w A0 n cap 24;have hS:=aw w A0 n cap 24;have hA:=aI w A0 n cap 24;obtain ⟨W,hW⟩:=aA (ay w A0 n cap 24);rw [hW] at j hS hA;unfold ay at hW;have F:=aa j;have KJ:Hid (∀ w',Bl W w'→w'.cell? ⟨w.heap.size,0,none⟩=some (.slice A0 n cap)∧w.heap.size<w'.heap.size):=fun w' I=>⟨aD I (show w.heap.size<W.heap.size by omega) hA,by have:=I.size;omega⟩
 have HX:Hid (∀ w' k,Bl W w'→k<xs.length→∃ b o,Aq=some ⟨b,o,none⟩∧b<w'.heap.size∧w'.cell? ⟨b,o+k,none⟩=some (.slice (xs.getD k ms).A (xs.getD k ms).p.length (xs.getD k ms).c)):=fun w' k I i=>by
  obtain ⟨-,r | ⟨b,o,X,h2,h3⟩,-⟩:=(Z.later j).later I
  ·rw [r] at i;simp at i
  exact ⟨b,o,X,h2,h3 k i⟩
 have B:Hid (∀ w' k,Bl W w'→k<xs.length→Rt 33 #[.agg #[.slice A0 n cap],.slice (xs.getD k ms).A (xs.getD k ms).p.length (xs.getD k ms).c] w' (.tuple #[.int .i64 (numV D n (xs.getD k ms).p),errV (shapeErr D n (xs.getD k ms).p)])):=fun w' k I i=>by
  have h:=gS A0 cap n D A C (xs.getD k ms).A (xs.getD k ms).c (xs.getD k ms).p w' ((hM.later j).later I) (((Z.later j).later I).2.2 _ (by rw [zZ,zX i];exact List.getElem_mem i))
  rw [gf Y] at h;exact h
 have R:Hid (∀ k,k<xs.length→shTo D n ((lP xs).drop k)=if shapeErr D n (xs.getD k ms).p≠0 then shapeErr D n (xs.getD k ms).p else shTo D n ((lP xs).drop (k+1))):=fun k i=>by
  have h:=Is (D:=D) (n:=n) (lP xs) (k:=k) (by unfold lP;rw [List.length_map];exact i)
  have e:(lP xs).getD k []=(xs.getD k ms).p:=by
   unfold lP;rw [zZ,zZ,List.getElem?_map,zX i]
   rfl
  rw [e] at h;exact h
 have S:Hid (∀ k,k<xs.length→kR D n ((lP xs).take (k+1))=kR D n ((lP xs).take k) ++ [numI D (xs.getD k ms).p n]):=fun k i=>by
  have hk':k<(lP xs).length:=by unfold lP;rw [List.length_map];exact i
  rw [List.take_succ_eq_append_getElem hk'];unfold kR;rw [List.map_append,List.map_singleton];have e:(lP xs)[k]=(xs.getD k ms).p:=by
   rw [zZ,zX i]
   simp [lP]
  rw [e]
 have Q:Hid (∀ k,k<xs.length→shapeErr D n (xs.getD k ms).p=0→∃ y:Nat,numV D n (xs.getD k ms).p=(y:Int)∧numI D (xs.getD k ms).p n=(y:Int)∧y≤3000):=fun k i h=>by
  have hp:placeErr D n (xs.getD k ms).p=0:=by rw [gf Y];exact h
  obtain ⟨y,X,h2,-⟩:=xK (fV hp);have:=(au Y).2.2.1;exact ⟨y,by unfold numV;rw [if_pos hp,X],X,by omega⟩
 have q:Hid (shTo D n ((lP xs).drop xs.length)=0∧(lP xs).take xs.length=lP xs):=by
  have e:(lP xs).length=xs.length:=by unfold lP;rw [List.length_map]
  exact ⟨by rw [List.drop_of_length_le (by omega)];rfl,List.take_of_length_le (by omega)⟩
 have hcq:xs.length≤V:=Z.1;obtain ⟨m,hm⟩:=aA xs.length;rw [hm] at HX B R S Q q hcq hl ⊢;have hmI:(m:Int)≤200:=by omega
 have hcI:(m:Int)≤(V:Int):=by omega
 clear hM Z Y j hS hA hm
 go_enter Tryz.func92,Tryz.ntmps92
 go_wp2_with fail
 go_loopg [6,13] m (fun gg s6 s13 wr => ∃ (k:Nat) (AO:Option Addr) (N:Nat),k≤m∧gg=m-k∧s13=.int .i64 k∧s6=.slice AO k N∧Hid (wr.ownsRow W.heap.size 3 1 (.slice AO k N) k (aF (kR D n ((lP xs).take k))))∧Hid (shTo D n (lP xs)=shTo D n ((lP xs).drop k))∧Hid (Bl W wr))
 case atStart=>exact ⟨0,none,0,zU,rfl,rfl,rfl,World.ownsRow_nil _ _ _ _,rfl,zS⟩
 case round =>
  obtain ⟨k,AO,N,i,rfl,rfl,rfl,HO,H,f⟩:=hrel
  by_cases t:k<m
  ·have hki:(k:Int)<(m:Int):=by omega
   obtain ⟨bq,oq,hAq,hbq,T⟩:=HX.out wr k f.out t;obtain ⟨c0,hs0⟩:=KJ.out wr f.out;have a:=B.out wr k f.out t;have l:=R.out k t;have x:=S.out k t;have u:=Q.out k t;obtain ⟨z,hz⟩:=aA (xs.getD k ms);rw [hz] at T a l x u;obtain ⟨E,J⟩:=aA (shapeErr D n z.p);rw [J] at a l u;subst hAq;obtain ⟨zl,M⟩:=aA z.p.length;rw [M] at T a;obtain ⟨zA,K⟩:=aA z.A;obtain ⟨zc,L⟩:=aA z.c;rw [K,L] at T a
   by_cases r:E=0
   ·obtain ⟨y,e1,e2,hy3⟩:=u r
    rw [r,e1,errV_zero] at a;have HS1:Hid (shTo D n (lP xs)=shTo D n ((lP xs).drop (k+1))):=by
     show _=_
     rw [H.out,l,if_neg (by simpa using r)]
    have KK:Hid (kR D n ((lP xs).take (k+1))=kR D n ((lP xs).take k) ++ [(y:Int)]):=by
     show _=_
     rw [x,e2]
    have KI:Hid (∀ w1:World,Bl wr w1→w1.ownsRow W.heap.size 3 1 (.slice AO k N) k (aF (kR D n ((lP xs).take k)))∧W.heap.size≤w1.heap.size):=fun w1 d=>⟨ao HO.out d,zV f.out.size d.size⟩
    have P:Hid (∀ (w4 w6:World) (o':Obj) (A6:Option Addr) (c6:Nat),Bl wr w4→w6.ownsRow W.heap.size 3 1 (.slice A6 (k+1) c6) (k+1) (aF (kR D n ((lP xs).take k)) ++ [.int .i64 (y:Int)])→(w4.alloc o').grownBy w6 (Value.slice AO k N).ownBlock→Hid (w6.ownsRow W.heap.size 3 1 (.slice A6 (k+1) c6) (k+1) (aF (kR D n ((lP xs).take (k+1)))))∧Hid (Bl W w6)):=fun w4 w6 o' A6 c6 h4 h6 hg=>by
     refine ⟨?_,bB (ae f.out h4) (ao HO.out h4) hg⟩
     show World.ownsRow ..
     rw [KK.out,mapI_snoc];exact h6
    have hyI:(y:Int)≤3000:=by omega
    clear l x u hz J r e1 e2 M K L;go_wp2_with fail;refine a.mono ?_;rintro e w1 ⟨rfl,d⟩;obtain ⟨U,hs1⟩:=KI.out w1 d;have HO1:=aa U;have G:=aa d;clear d a T c0 U
    go_wp2_with (at_builtin;refine wpList_append_own _ rfl _ _ 26 rfl W.heap.size 3 i0 (.int .i64 0) 1 8 Tryz.underlying26 hi0 hz0 hz1 hz2 rfl (by decide) _ _ _ rfl (HO1.out.alloc _) ⟨w1.heap.size,0,none⟩ 1 1 [.int .i64 y] rfl rfl bw dF (by unfold maxLen;omega) (by omega) (by simp;omega) ?_)
    intro v' w6 g s _;obtain ⟨A',c',rfl⟩:∃ A' c',v'=.slice A' (k+1) c':=by
     rcases g.2 with ⟨-,h⟩ | ⟨g',c',cur,h,-⟩
     ·omega
     exact ⟨_,_,h⟩
    obtain ⟨HO6,KH⟩:=P.out _ _ _ _ _ G.out g s;clear g s;go_wp2_with fail
    go_roundg (m-(k+1))
    case measure=>omega
    case rel=>exact ⟨k+1,_,_,by omega,rfl,by go_num,rfl,HO6,HS1,KH⟩
   have O:Hid (errV (shTo D n (lP xs))=.iface 63 (.int .i64 E)∧Cm D n (lP xs)=[]):=by
    have e:shTo D n (lP xs)=E:=by rw [H.out,l,if_pos r]
    refine ⟨by rw [e,ak r],?_⟩
    unfold Cm;rw [if_neg (by rw [e];exact r)]
   rw [ak r] at a;generalize numV D n z.p=nv at a;clear l x u hz J r M K L;go_wp2_with fail;refine a.mono ?_;rintro e w1 ⟨rfl,d⟩;have G:=aa (ae F.out (ae f.out d));clear d a T c0;go_wp2_with fail;go_returns;exact ⟨⟨.slice none 0 0,by rw [O.out.1];rfl,by rw [O.out.2];exact World.ownsRow_nil _ _ _ _⟩,G.out⟩
  have hke:k=m:=by omega
  subst hke;have HF:Hid (shTo D n (lP xs)=0∧wr.ownsRow w.heap.size 3 1 (.slice AO k N) (Cm D n (lP xs)).length (aF (Cm D n (lP xs)))):=by
   have e:shTo D n (lP xs)=0:=by rw [H.out];exact q.out.1
   refine ⟨e,?_⟩;unfold Cm;rw [if_pos e];have h:=HO.out;rw [q.out.2] at h;have hl:(kR D n (lP xs)).length=k:=by have:=h.1;unfold aF at this;rw [List.length_map] at this;omega
   rw [hl];exact nJ h F.out.size
  have KG:=aa (ae F.out f.out);go_wp2_with fail;go_returns;exact ⟨⟨_,by rw [HF.out.1];rfl,HF.out.2⟩,KG.out⟩
theorem Fe (A0:Option Addr) (cap n:Nat) (D:Nat→Dm) (A:Nat→Option Addr) (C:Nat→Nat) (Aq:Option Addr) (cq:Nat) (xs:List PL) (w:World) (hM:aY w A0 cap n D A C) (hX:rT w Aq cq xs) (hl:xs.length≤200) :
  Calls Tryz.prog 53 #[.agg #[.slice A0 n cap],.slice Aq xs.length cq] w fun e w'=>(∃ A' t,e=.returned (.tuple #[.slice A' (DI D n (lP xs)).length t,errV (vT D n (lP xs))])∧aR w' A' t (DI D n (lP xs)))∧Bl w w':=by
 have p:=aq w A0 n cap 24;have hS:=aw w A0 n cap 24;have hA:=aI w A0 n cap 24;obtain ⟨W,hW⟩:=aA (ay w A0 n cap 24);rw [hW] at p hS hA;unfold ay at hW;have HB0:=aa p;have hsz:w.heap.size<W.heap.size:=by omega
 have HA:=aa hA
 by_cases Y:(aP D n).2.2=0
 case neg =>
  have V:=sB A0 cap n D A C W Y (hM.later p);have r:vT D n (lP xs)=(aP D n).2.2:=by unfold vT;rw [if_pos Y]
  have H:Hid (DI D n (lP xs)=[]):=by show _=_;unfold DI;rw [if_neg (by rw [r];exact Y)]
  have k:Hid (errV (vT D n (lP xs))=.iface 63 (.int .i64 (aP D n).2.2)):=by show _=_;rw [r,ak Y]
  rw [ak Y] at V;generalize (aP D n).2.2=z at V k;generalize xs.length=xl;clear hM hX p Y hS r hl
  go_enter Tryz.func53,Tryz.ntmps53
  go_wp2_with fail;refine V.mono ?_;rintro e w1 ⟨rfl,d⟩;have HB1:=aa (ae HB0.out d);clear d V;go_wp2_with fail;go_returns;exact ⟨⟨none,0,by rw [H.out,k.out];rfl,by rw [H.out];exact aR.nil _ _ _ (by omega)⟩,ae HB1.out (by go_grown)⟩
 obtain ⟨hE,hR⟩:=ew Y;have V:=nD A0 cap n D A C W hE hR (hM.later p);have B:vT D n (lP xs)=wI D n (lP xs):=by unfold vT;rw [if_neg (by simpa using Y)]
 have i:Hid (∀ w',Bl w w'→Calls Tryz.prog 92 #[.agg #[.slice A0 n cap],.slice Aq xs.length cq] w' fun e w''=>(∃ v,e=.returned (.tuple #[v,errV (shTo D n (lP xs))])∧w''.ownsRow w'.heap.size 3 1 v (Cm D n (lP xs)).length (aF (Cm D n (lP xs))))∧Bl w' w''):=fun w' hB=>uL A0 cap n D A C Aq cq xs w' hE (hM.later hB) (hX.later hB) hl
 have J:Hid (∀ w1,Bl W w1→∀ (v:Value) (T:Nat),(w1.alloc (.cells #[v] T)).cell? ⟨w.heap.size,0,none⟩=some (.slice A0 n cap)∧w.heap.size<(w1.alloc (.cells #[v] T)).heap.size∧Bl w (w1.alloc (.cells #[v] T))):=fun w1 d v T=>by
  have l:Bl w1 (w1.alloc (.cells #[v] T)):=by go_grown
  have hb:=ae d l;exact ⟨aD hb hsz HA.out,zW hsz hb.size,ae HB0.out hb⟩
 by_cases G:shTo D n (lP xs)=0
 case neg =>
  have r:vT D n (lP xs)=shTo D n (lP xs):=by rw [B];unfold wI;rw [if_pos G]
  have H:Hid (DI D n (lP xs)=[]):=by show _=_;unfold DI;rw [if_neg (by rw [r];exact G)]
  have k:Hid (errV (vT D n (lP xs))=.iface 63 (.int .i64 (shTo D n (lP xs)))):=by show _=_;rw [r,ak G]
  have F:Cm D n (lP xs)=[]:=by unfold Cm;rw [if_neg G]
  rw [ak G,F] at i;generalize shTo D n (lP xs)=z at i k;generalize xs.length=xl at i ⊢;clear hM hX p Y hS r hl hE hR B G F
  go_enter Tryz.func53,Tryz.ntmps53
  go_wp2_with fail;refine V.mono ?_;rintro e w1 ⟨⟨u,g,X,rfl,-,-,-⟩,d⟩;obtain ⟨x1,x2,x3⟩:=J.out w1 d (.pointer (some ⟨u,0,none⟩)) 88;obtain ⟨w2,f⟩:=aA (w1.alloc (.cells #[.pointer (some ⟨u,0,none⟩)] 88));rw [f] at x1 x2 x3;have o:=aa x3;clear d V hA hW x3;go_wp2_with fail;refine (i.out w2 o.out).mono ?_;rintro e w3 ⟨⟨v,rfl,hO⟩,c⟩;have I:=aa (ae o.out c);obtain ⟨AO,lO,cO,hv⟩:∃ AO lO cO,v=.slice AO lO cO:=by
   rcases hO.2 with ⟨h1,h2⟩ | ⟨g,cap,cur,h1,-⟩
   ·exact ⟨none,0,0,h1⟩
   exact ⟨_,_,_,h1⟩
  subst hv;clear c hO;go_wp2_with fail;go_returns;exact ⟨⟨none,0,by rw [H.out,k.out];rfl,by rw [H.out];exact aR.nil _ _ _ (by omega)⟩,I.out⟩
 obtain ⟨U,Q⟩:=IU hE G;have F:Cm D n (lP xs)=kR D n (lP xs):=by unfold Cm;rw [if_pos G]
 have S:(kR D n (lP xs)).length=xs.length:=by unfold kR lP;rw [List.length_map,List.length_map]
 rw [G,F,errV_zero] at i;have hp3:=(au hE).2.2.1;have K:Hid (∀ q g X b w' A' t,cI w' q g n D X→w'.cell? ⟨b,0,none⟩=some (.pointer (some ⟨q,0,none⟩))→b<w'.heap.size→aR w' A' t (kR D n (lP xs))→Rt 93 #[.slice A' (kR D n (lP xs)).length t,.func (.func 94) #[] #[.pointer (some ⟨b,0,none⟩)]] w' (.bool ((lP xs).any fun q => !leafV D n q))):=fun q g X b w' A' t hA hc hb hI=>by
  rw [←Q];refine xh 94 #[.pointer (some ⟨b,0,none⟩)] (fun z => !leafV D n (aj D n z.toNat)) wM A' t (kR D n (lP xs)) w' (by omega) hI.at fun z w2 r M=>?_
  obtain ⟨j,rfl,hj⟩:=U z r;rw [Int.toNat_natCast];exact wF q g n b D X j w2 hE hj (hA.later M) (aD M hb hc)
 have HUs:Hid (∀ q g X w',cI w' q g n D X→Calls Tryz.prog 96 #[.pointer (some ⟨q,0,none⟩)] w' fun e w''=>(∃ gU,e=.returned (.slice (some ⟨gU,0,none⟩) (prodN D n) (prodN D n))∧DH w'' gU (prodN D n) (prodN D n) (rowsL D n) w')∧Bl w' w''):=fun q g X w' hA=>by
  refine (rN q g n D X w' hR hE hA).mono ?_;rintro e w'' ⟨gU,rfl,hU⟩;exact ⟨⟨gU,rfl,hU⟩,hU.choose_spec.2⟩
 have s:Hid (∀ gU w0 w1 b w' A' t,DH w1 gU (prodN D n) (prodN D n) (rowsL D n) w0→Bl w1 w'→w'.cell? ⟨b,0,none⟩=some (.slice (some ⟨gU,0,none⟩) (prodN D n) (prodN D n))→b<w'.heap.size→aR w' A' t (kR D n (lP xs))→Calls Tryz.prog 97 #[.slice A' (kR D n (lP xs)).length t,.func (.func 98) #[] #[.pointer (some ⟨b,0,none⟩)]] w' fun e w''=>(∃ A' t,e=.returned (.tuple #[.slice A' (drtL D n (kR D n (lP xs))).length t,.nilIface])∧aR w'' A' t (drtL D n (kR D n (lP xs))))∧Bl w' w''):=fun gU w0 w1 b w' A' t hU hB1 hc hb hI=>by
  obtain ⟨UV,hU,-⟩:=hU;have h:=xI 98 #[] #[.pointer (some ⟨b,0,none⟩)] (fun y=>bC (rowsL D n) y (prodN D n)) (prodN D n) wN A' t (kR D n (lP xs)) w' hp3 (by omega) hI U (fun y _=>Gt y) (fun y hy=>by have:=tg (rowsL D n) y (prodN D n);omega) fun y w2 hy M=>by
   have hU2:=(hU.later hB1).later M;refine (wG b gU (prodN D n) y (UV y) w2 hp3 hy (aD M hb hc) (hU2.hU.cell hy)).mono ?_;rintro e w3 ⟨rfl,c⟩;obtain ⟨A2,c2,hv,hI2⟩:=bP (hU2.own y hy);refine ⟨⟨A2,c2,by rw [hv],hI2.later c,fun a ha=>Or.inl ?_⟩,c⟩
   exact (bO ((hU.later hB1).own y hy) (by rw [hv,ha];rfl)).2.1
  refine Calls.mono h ?_;rintro e w'' ⟨⟨v,L,rfl,hO,hLt,hLm⟩,l⟩;obtain ⟨A2,c2,rfl,hI2⟩:=bP hO;rw [←EA hR hE U hLt hLm];exact ⟨⟨A2,c2,rfl,hI2⟩,l⟩
 obtain ⟨LN,O⟩:=aA (kR D n (lP xs));have HLN:=aa O;rw [O] at i K s S;obtain ⟨N,hN⟩:=aA (prodN D n);rw [hN] at HUs s hp3;have hNI:(N:Int)≤3000:=by omega
 by_cases E:((lP xs).any fun q => !leafV D n q)=true
 case pos =>
  have r:vT D n (lP xs)=6:=by rw [B];unfold wI;rw [if_neg (by simpa using G),if_pos E]
  have H:Hid (DI D n (lP xs)=[]):=by show _=_;unfold DI;rw [if_neg (by rw [r];decide)]
  have k:Hid (errV (vT D n (lP xs))=.iface 63 (.int .i64 6)):=by show _=_;rw [r,ak (by decide)]
  rw [E] at K;generalize rowsL D n=Nn at HUs s;generalize xs.length=xl at i hl S ⊢;have hxl:LN.length≤3000:=by omega
  clear hM hX p Y hS r hE hR B G F Q U E O hN s S
  go_enter Tryz.func53,Tryz.ntmps53
  go_wp2_with fail;refine V.mono ?_;rintro e w1 ⟨⟨u,g,X,rfl,-,-,P⟩,d⟩;obtain ⟨x1,x2,x3⟩:=J.out w1 d (.pointer (some ⟨u,0,none⟩)) 88;obtain ⟨w2,f⟩:=aA (w1.alloc (.cells #[.pointer (some ⟨u,0,none⟩)] 88));have l:Bl w1 w2:=by rw [←f];go_grown
  have c2:w2.cell? ⟨w1.heap.size,0,none⟩=some (.pointer (some ⟨u,0,none⟩)):=by rw [←f];exact (Lib.cell_of_heap (heap_alloc_new w1 _) 0).trans rfl
  have Z:w1.heap.size<w2.heap.size:=by rw [←f];simp
  rw [f] at x1 x2 x3;have o:=aa x3;have HP2:=aa (P.later l);have HC2:=aa c2;clear d V hA hW x3 P l;go_wp2_with fail;refine (i.out w2 o.out).mono ?_;rintro e w3 ⟨⟨v,rfl,hO⟩,c⟩;obtain ⟨A3,c3,hv,x⟩:=bP hO;have I:=aa (ae o.out c);have R:=K.out u g X w1.heap.size w3 A3 c3 (HP2.out.later c) (aD c Z HC2.out) (zW Z c.size) x;subst hv;clear c hO x f c2;go_wp2_with fail;refine R.mono ?_;rintro e w4 ⟨rfl,m⟩;have HB4:=aa (ae I.out m);clear m R;go_wp2_with fail;go_returns;exact ⟨⟨none,0,by rw [H.out,k.out];rfl,by rw [H.out];exact aR.nil _ _ _ (by omega)⟩,HB4.out⟩
 have hlf':((lP xs).any fun q => !leafV D n q)=false:=by simpa using E
 have r:vT D n (lP xs)=0:=by rw [B];unfold wI;rw [if_neg (by simpa using G),if_neg E]
 have H:Hid (DI D n (lP xs)=drtL D n LN):=by show _=_;unfold DI;rw [if_pos r,O]
 have k:Hid (errV (vT D n (lP xs))=.nilIface):=by show _=_;rw [r,errV_zero]
 rw [hlf'] at K;generalize rowsL D n=Nn at HUs s;generalize xs.length=xl at i hl S ⊢;have hxl:LN.length≤3000:=by omega
 generalize drtL D n LN=DL at H s;clear hM hX p Y hS r hE hR B G F Q U E hlf' O hN S
 go_enter Tryz.func53,Tryz.ntmps53
 go_wp2_with fail;refine V.mono ?_;rintro e w1 ⟨⟨u,g,X,rfl,-,-,P⟩,d⟩;obtain ⟨x1,x2,x3⟩:=J.out w1 d (.pointer (some ⟨u,0,none⟩)) 88;obtain ⟨w2,f⟩:=aA (w1.alloc (.cells #[.pointer (some ⟨u,0,none⟩)] 88));have l:Bl w1 w2:=by rw [←f];go_grown
 have c2:w2.cell? ⟨w1.heap.size,0,none⟩=some (.pointer (some ⟨u,0,none⟩)):=by rw [←f];exact (Lib.cell_of_heap (heap_alloc_new w1 _) 0).trans rfl
 have Z:w1.heap.size<w2.heap.size:=by rw [←f];simp
 rw [f] at x1 x2 x3;have o:=aa x3;have HP2:=aa (P.later l);have HC2:=aa c2;clear d V hA hW x3 P l;go_wp2_with fail;refine (i.out w2 o.out).mono ?_;rintro e w3 ⟨⟨v,rfl,hO⟩,c⟩;obtain ⟨A3,c3,hv,x⟩:=bP hO;have I:=aa (ae o.out c);have HP3:=aa (HP2.out.later c);have HC3:Hid (w3.cell? ⟨w1.heap.size,0,none⟩=some (.pointer (some ⟨u,0,none⟩))):=aD c Z HC2.out;have hs3:w1.heap.size<w3.heap.size:=zW Z c.size;have R:=K.out u g X w1.heap.size w3 A3 c3 HP3.out HC3.out hs3 x;have HI3:=aa x;subst hv;clear c hO x f c2;go_wp2_with fail;refine R.mono ?_;rintro e w4 ⟨rfl,m⟩;have HB4:=aa (ae I.out m);have c4:w4.cell? ⟨w1.heap.size,0,none⟩=some (.pointer (some ⟨u,0,none⟩)):=aD m hs3 HC3.out;have hs4:w1.heap.size<w4.heap.size:=zW hs3 m.size;have hus:=HUs.out u g X w4 (HP3.out.later m);have HI4:=aa (HI3.out.later m);clear m R;go_wp2_with fail;refine hus.mono ?_;rintro e w5 ⟨⟨gU,rfl,hU5⟩,hb5⟩;obtain ⟨w6,hw6⟩:=aA (w5.alloc (.cells #[.slice (some ⟨gU,0,none⟩) N N] 71));have hb6:Bl w5 w6:=by rw [←hw6];go_grown
 have c6:w6.cell? ⟨w5.heap.size,0,none⟩=some (.slice (some ⟨gU,0,none⟩) N N):=by rw [←hw6];exact (Lib.cell_of_heap (heap_alloc_new w5 _) 0).trans rfl
 have hs6:w5.heap.size<w6.heap.size:=by rw [←hw6];simp
 have HB6:=aa (ae HB4.out (ae hb5 hb6));have hre:=s.out gU w4 w5 w5.heap.size w6 A3 c3 hU5 hb6 c6 hs6 (HI4.out.later (ae hb5 hb6));clear hU5 hb5 hb6 hus c4 c6;go_wp2_with fail;refine hre.mono ?_;rintro e w7 ⟨⟨A7,c7,rfl,hI7⟩,hb7⟩;have HI7:=aa hI7;have HB7:=aa (ae HB6.out hb7);clear hI7 hb7 hre;go_wp2_with fail;go_returns;exact ⟨⟨A7,c7,by rw [H.out,k.out];rfl,by rw [H.out];exact HI7.out⟩,HB7.out⟩
theorem JK {W w':World} {b o b' o':Nat} {u v:Value} (h:b<W.heap.size∧b'<W.heap.size∧W.cell? ⟨b,o,none⟩=some u∧W.cell? ⟨b',o',none⟩=some v) (a:Bl W w'):Bl W w'∧w'.cell? ⟨b,o,none⟩=some u∧w'.cell? ⟨b',o',none⟩=some v :=
 ⟨a,aD a h.1 h.2.2.1,aD a h.2.1 h.2.2.2⟩
theorem sX (A B:Option Addr) (M N:Nat) (xs ys:List EnL) (w:World) (K:lE xs=lE ys) (V:xs.length≤3000) (Q:∀ k,k<xs.length→(xs.getD k aJ).e.pl.length≤4) (O:b6 w A M xs) (P:b6 w B N ys) :
  Rt 14 #[.slice A xs.length M,.slice B ys.length N] w (.bool true):=by
 have q:ys.length=xs.length:=by rw [←a8,←K,a8]
 have R:=aa O;have S:=aa P;have G:Hid (∀ k,(ys.getD k aJ).e=(xs.getD k aJ).e):=fun k=>by rw [←lE_at,←lE_at,K]
 have T:=aa Q;obtain ⟨n,l⟩:=aA xs.length;have z:=aa l;have p:=aa (q.trans l);rw [q];rw [l] at V ⊢;have W:(n:Int)≤3000:=by omega
 clear O P K Q q l
 go_enter Tryz.func14,Tryz.ntmps14
 go_wp2_with fail
 go_loopg [5] n (fun g s5 wr => ∃ (k:Nat),k≤n∧g=n-k∧s5=.int .i64 k∧Bl w wr)
 case atStart=>exact ⟨0,zU,rfl,rfl,zS⟩
 case round =>
  obtain ⟨k,hk,rfl,rfl,d⟩:=hrel;have F:=aa d
  by_cases f:k<n
  ·have U:(k:Int)<(n:Int):=by omega
   obtain ⟨-,-,H | ⟨b,o,rfl,i⟩⟩:=R.out.later d
   ·have:=z.out;rw [H] at this;simp at this;omega
   obtain ⟨-,-,H | ⟨b',o',rfl,j⟩⟩:=S.out.later d
   ·have:=p.out;rw [H] at this;simp at this;omega
   obtain ⟨c1,c2⟩:=i.at (k:=k) (by rw [z.out];exact f)
   obtain ⟨s,C⟩:=j.at (k:=k) (by rw [p.out];exact f)
   have x:=i.pl (k:=k) (by rw [z.out];exact f)
   have r:=j.pl (k:=k) (by rw [p.out];exact f)
   rw [G.out k] at s C r;have a:Hid (∀ w',Bl wr w'→Rt 31 #[.slice (xs.getD k aJ).A (xs.getD k aJ).e.pl.length (xs.getD k aJ).c,.slice (ys.getD k aJ).A (xs.getD k aJ).e.pl.length (ys.getD k aJ).c] w' (.bool true)):=fun w' y=>by
    have h:=yC _ _ _ _ _ _ w' (T.out k (by rw [z.out];exact f)) (x.later y) (r.later y)
    rw [decide_eq_true rfl] at h;exact h
   have t:=i.1;have u:=j.1;generalize (xs.getD k aJ).A=A1 at c1 a;generalize (xs.getD k aJ).c=k1 at c1 a;generalize (ys.getD k aJ).A=A2 at s a;generalize (ys.getD k aJ).c=k2 at s a;generalize (xs.getD k aJ).e.n=n1 at c2 C;generalize (xs.getD k aJ).e.pl.length=m1 at c1 s a;have L:Hid (b<wr.heap.size∧b'<wr.heap.size∧wr.cell? ⟨b,o+k*2,none⟩=some (.slice A1 m1 k1)∧wr.cell? ⟨b',o'+k*2,none⟩=some (.slice A2 m1 k2)):=⟨t,u,c1,s⟩;have m:Hid (wr.cell? ⟨b,o+k*2+1,none⟩=some (.int .i64 n1)∧wr.cell? ⟨b',o'+k*2+1,none⟩=some (.int .i64 n1)):=⟨c2,C⟩;clear i j x r c1 c2 s C d;go_wp2_with fail
   go_cut [6] (fun s6 wx=>s6=.bool true∧Bl wr wx)
   case first=>as_aux_lemma =>
    go_region_held3 (fun w'=>Bl wr w'∧w'.cell? ⟨b,o+k*2,none⟩=some (.slice A1 m1 k1)∧w'.cell? ⟨b',o'+k*2,none⟩=some (.slice A2 m1 k2))
     ((refine JK L.out ?_;go_grown;done))
     (first | (go_at_call 31;refine (a.out _ (by go_grown)).mono ?_;rintro e w3 ⟨rfl,v⟩;have I:=ae (W0:=wr) (by go_grown) v;have X:=I.size;clear v))
    all_goals go_wp2_with fail
    all_goals go_meet
    all_goals exact ⟨rfl,by go_grown⟩
   case rest=>as_aux_lemma =>
   obtain ⟨rfl,D⟩:=hcut;obtain ⟨w2,rfl⟩:∃ w2:World,w2=wc:=⟨_,rfl⟩;have E:=aa D;have Y:w2.cell? ⟨b,o+k*2+1,none⟩=some (.int .i64 n1):=aD D t m.out.1;have Z:w2.cell? ⟨b',o'+k*2+1,none⟩=some (.int .i64 n1):=aD D u m.out.2;clear D L m a;go_wp2_with fail
   go_quiet (fail)
   go_wp2_with fail
   go_roundg (n-(k+1))
   case measure=>omega
   case rel=>exact ⟨k+1,by omega,rfl,by go_num,ac (ae F.out E.out) _⟩
  have J:k=n:=by omega
  subst J;go_wp2_with fail;go_ret;exact ⟨rfl,d⟩
end Go.Proofs.YtompdcaikmekkaaGreatDoor
