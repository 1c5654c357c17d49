/- What is told of who ha -/
import Derived.BigRegion
import Derived.Test.YtohgnbgamfepoaaGreatDoorJHBI
import Derived.Test.YtohgnbgamfepoaaGreatDoorJHBJ
import Derived.Test.YtohgnbgamfepoaaGreatDoorJHBK
namespace Go.Proofs.YtohgnbgamfepoaaGreatDoor
open ChangeShapes WideShapes ChangeAt RowKit Go
set_option maxRecDepth 99999
set_option maxHeartbeats 0
def shTo (D:Nat→Dm) (n:Nat):List (List Int)→Int
 | []=>0
 | q :: r=>if shapeErr D n q≠0 then shapeErr D n q else shTo D n r
def wT (D:Nat→Dm) (n:Nat) (Q:List (List Int)):Int:=if shTo D n Q≠0 then shTo D n Q else if Q.any (fun q => !leafV D n q)=true then 6 else 0
noncomputable def wf (D:Nat→Dm) (n:Nat) (Q:List (List Int)):Int:=if (aO D n).2.2≠0 then (aO D n).2.2 else wT D n Q
def k7 (D:Nat→Dm) (n:Nat) (Q:List (List Int)):List Int:=Q.map fun q=>numI D q n
noncomputable def D3 (D:Nat→Dm) (n:Nat) (Q:List (List Int)):List Int:=if wf D n Q=0 then drtL D n (k7 D n Q) else []
theorem gi {D:Nat→Dm} {n:Nat} {p:List Int} (h:(am D n).2.2=0):placeErr D n p=shapeErr D n p:=by unfold placeErr;rw [if_neg (by simpa using h)]
theorem pV {D:Nat→Dm} {n:Nat} (h:(am D n).2.2=0) (f:Nat→Bool):(selTo f (prodN D n)).length≤3000:=by
 obtain ⟨-,-,a,-⟩:=au h;exact zV (cG _ _) a
def rZ (w:World) (A:Option Addr) (cap:Nat) (xs:List PL):Prop:=xs.length≤cap∧(xs=[]∨∃ b o,A=some ⟨b,o,none⟩∧b<w.heap.size∧∀ k,k<xs.length→w.cell? ⟨b,o+k,none⟩=some (.slice (xs.getD k mA).A (xs.getD k mA).p.length (xs.getD k mA).c))∧∀ x∈xs,aZ w x.A x.c x.p
theorem rZ.later {w w':World} {A:Option Addr} {cap:Nat} {xs:List PL} (h:rZ w A cap xs) (c:Bl w w'):rZ w' A cap xs:=by
 obtain ⟨d,a,e⟩:=h;refine ⟨d,?_,fun x g=>(e x g).later c⟩
 rcases a with a | ⟨b,o,a,h4,h5⟩
 ·exact Or.inl a
 exact Or.inr ⟨b,o,a,zW h4 c.size,fun k f=>aC c h4 (h5 k f)⟩
def doE (D:Nat→Dm) (n:Nat) (l:List En) (Y:List Ed):Int:=(editsV D n l Y).2.2
def doL (D:Nat→Dm) (n:Nat) (l:List En) (Y:List Ed):List En:=if doE D n l Y=0 then (editsV D n l Y).1 else l
noncomputable def doN (D:Nat→Dm) (n:Nat) (l:List En) (Y:List Ed):Nat:=if doE D n l Y=0 then (drtL D n (Y.map fun x=>numI D x.pl n)).length else 0
def k8 (l:List En) (Y:List Ed) (k:Nat):List En:=(Y.take k).foldl editV l
def pp:Ed:=⟨[],0,false⟩
theorem mi (l:List En) (Y:List Ed) {k:Nat} (a:k<Y.length):k8 l Y (k+1)=editV (k8 l Y k) (Y.getD k pp):=by
 unfold k8;rw [List.take_succ_eq_append_getElem a,List.foldl_append,zZ,zX a]
 rfl
section
variable {D:Nat→Dm} {n:Nat}
theorem wU {l:List En} (c:Ens D n l):∀ (Y:List Ed) (i:Nat),(aN D n l i Y).2.2=0→(aN D n l i Y).1=k8 l Y Y.length∧∀ k,k<Y.length→editErr D n (k8 l Y k) (Y.getD k pp)=0∧Ens D n (k8 l Y k):=by
 intro Y
 induction Y generalizing l with
 | nil=>intro i _;exact ⟨rfl,fun k b=>absurd b (Nat.not_lt_zero _)⟩
 | cons x r ih =>
  intro i h
  by_cases a:editErr D n l x=0
  ·rw [k9 r a] at h ⊢
   obtain ⟨e,f⟩:=ih (c.edit a).2 (i+1) h;have d:∀ k,k8 l (x :: r) (k+1)=k8 (editV l x) r k:=fun k=>by unfold k8;rw [List.take_succ_cons,List.foldl_cons]
   refine ⟨by rw [e,List.length_cons,d],fun k b=>?_⟩
   cases k with
   | zero=>exact ⟨a,c⟩
   | succ k =>
    rw [d];exact f k (by simpa using b)
  rw [ki r a] at h;exact absurd h a
theorem jq {l:List En} (b:Ens D n l) {Y:List Ed} (h:doE D n l Y=0):Y.length≤60∧doL D n l Y=k8 l Y Y.length∧∀ k,k<Y.length→editErr D n (k8 l Y k) (Y.getD k pp)=0∧Ens D n (k8 l Y k):=by
 have e:=h;unfold doE editsV at e
 by_cases a:60<Y.length
 ·rw [if_pos a] at e
  simp at e
 rw [if_neg a,if_neg (by simpa using b.ok)] at e
 obtain ⟨c,d⟩:=wU b Y 0 e;refine ⟨by omega,?_,d⟩
 unfold doL;rw [if_pos h];unfold editsV;rw [if_neg a,if_neg (by simpa using b.ok)]
 exact c
theorem wS {l:List En} (a:Ens D n l) (Y:List Ed):Ens D n (doL D n l Y):=by
 by_cases h:doE D n l Y=0
 ·obtain ⟨-,b,c⟩:=jq a h
  rw [b];cases hY:Y.length with
  | zero=>exact a
  | succ k =>
   have:=c k (by omega)
   rw [mi l Y (by omega)]
   exact (this.2.edit this.1).2
 unfold doL;rw [if_neg h];exact a
theorem gz {l:List En} (b:(aO D n).2.2=0) (a:Ens D n l):fq D n l=0:=by unfold fq;rw [if_neg (by simpa using b)];exact a.ok
end
noncomputable def hcV (D:Nat→Dm) (n:Nat) (l:List En) (p:List Int):Int×Int:=if placeErr D n p=0 then (caL D n l).getD (numI D p n).toNat noC else (0,0)
structure HallC (HV:World→Nat→(Nat→Prop)→(Nat→Dm)→Nat→List En→Prop):Prop where
 keep:∀ {w w' h S D n l},HV w h S D n l→w.heap.size≤w'.heap.size→(∀ b,S b→w'.heap[b]?=w.heap[b]?)→HV w' h S D n l
 inS:∀ {w h S D n l},HV w h S D n l→∀ b,S b→b<w.heap.size
 right:∀ {w h S D n l},HV w h S D n l→(aO D n).2.2=0∧Ens D n l
 bad:∀ A0 cap n D A C w,(aO D n).2.2≠0→aW w A0 cap n D A C→Calls Tryz.prog 5 #[.agg #[.slice A0 n cap]] w fun e w'=>e=.returned (.tuple #[.pointer none,errV (aO D n).2.2])∧Bl w w'
 new:∀ A0 cap n D A C w,(aO D n).2.2=0→aW w A0 cap n D A C→Calls Tryz.prog 5 #[.agg #[.slice A0 n cap]] w fun e w'=>(∃ h S,e=.returned (.tuple #[.pointer (some ⟨h,0,none⟩),.nilIface])∧HV w' h S D n []∧∀ b,S b→w.heap.size≤b)∧Bl w w'
 edit:∀ h S D n l Ax cx ys w,HV w h S D n l→ks w Ax cx ys→Calls Tryz.prog 10 #[.pointer (some ⟨h,0,none⟩),.slice Ax ys.length cx] w fun e w'=>(∃ S',e=.returned (.tuple #[.int .i64 (doN D n l (lD ys):Nat),errV (doE D n l (lD ys))])∧HV w' h S' D n (doL D n l (lD ys))∧∀ b,S' b→S b∨w.heap.size≤b)∧Kept w.heap.size S w w'
 cells:∀ h S D n l w,HV w h S D n l→Calls Tryz.prog 13 #[.pointer (some ⟨h,0,none⟩)] w fun e w'=>(∃ A' c',e=.returned (.slice A' (caL D n l).length c')∧dx w' A' c' (caL D n l))∧Bl w w'
 entries:∀ h S D n l w,HV w h S D n l→Calls Tryz.prog 15 #[.pointer (some ⟨h,0,none⟩)] w fun e w'=>(∃ A' c' zs,e=.returned (.slice A' zs.length c')∧b7 w' A' c' zs∧lE zs=l)∧Bl w w'
theorem HallC.later {HV:World→Nat→(Nat→Prop)→(Nat→Dm)→Nat→List En→Prop} (C:HallC HV) {w w':World} {h:Nat} {S:Nat→Prop} {D:Nat→Dm} {n:Nat} {l:List En} (c:HV w h S D n l) (a:Bl w w'):HV w' h S D n l:=C.keep c a.size fun b d=>a.block b (C.inS c b d)
theorem wu {W0 w w':World} {S:Nat→Prop} (h:Bl W0 w) (a:Kept w.heap.size S w w') (d:∀ b,S b→W0.heap.size≤b):Bl W0 w' :=
 ⟨a.os.trans h.os,a.tape.trans h.tape,a.output.trans h.output,zV h.size a.size,fun b c=>(a.block b (zW c h.size) fun e=>by have:=d b e;omega).trans (h.block b c)⟩
def cntF (f:Nat→Bool):Nat→Nat
 | 0=>0
 | k+1=>cntF f k+(if f k=true then 0 else 1)
def ik (f:Nat→Bool) (x j:Nat):Bool:=if j=x then true else f j
theorem zO {f:Nat→Bool} {x:Nat} (c:f x=false):∀ N,(x<N→cntF (ik f x) N+1=cntF f N)∧(N≤x→cntF (ik f x) N=cntF f N)
 | 0=>⟨fun h=>by omega,fun _=>rfl⟩
 | k+1=>by
  obtain ⟨d,b⟩:=zO c k;refine ⟨fun h=>?_,fun h=>?_⟩
  ·rw [cntF,cntF]
   by_cases e:k=x
   ·rw [b (by omega)]
    subst e
    simp [ik,c]
   have g:=d (by omega)
   have a:ik f x k=f k:=by simp [ik,e]
   rw [a]
   omega
  rw [cntF,cntF,b (by omega)]
  have a:ik f x k=f k:=by simp [ik,show k≠x by omega]
  rw [a]
def kQ (N:Nat) (f0 f:Nat→Bool) (ag:Bool):Prop:=(ag=true→cntF f N<cntF f0 N)∧(ag=false→f=f0)
theorem vm {N i:Nat} {a f:Nat→Bool} {ag:Bool} (h:kQ N a f ag) (d:i<N) (c:f i=false):kQ N a (ik f i) true:=by
 refine ⟨fun _=>?_,fun e=>by cases e⟩
 have b:=(zO c N).1 d;cases ag with
 | true=>have:=h.1 rfl;omega
 | false=>rw [h.2 rfl] at b ⊢;omega
def D5 (f:Nat→Bool) (ag:Bool) (N:Nat):Nat:=cntF f N+(if ag=true then 1 else 0)
theorem kp (n:Nat) (f:n≤3000) (w:World):(Instr.makeSlice 73 (.int .i64 (n:Int)) (.int .i64 (n:Int))).run Tryz.prog w=.ok (.slice (some ⟨w.heap.size,0,none⟩) n n) (w.alloc (.cells (madeCells #[.bool false] n) 4)):=by
 obtain ⟨i0,a,b,c,d⟩:=info_parts Tryz.infoBol;have e:=run_make (P:=Tryz.prog) w 73 4 i0 _ Tryz.underlying73 a b .i64 .i64 n n (by omega) (Int.le_refl _) (by rw [d];omega) (by omega)
 simp only [Int.toNat_natCast,c,Nat.mul_one] at e;exact e
theorem ex {D:Nat→Dm} {n:Nat} (h:(aO D n).2.2=0):(am D n).2.2=0∧dI D n:=by
 by_cases d:(am D n).2.2=0
 ·refine ⟨d,Classical.byContradiction fun r=>?_⟩
  have f:∃ i,i<n∧(bv (D i)).2≠0:=Classical.byContradiction fun p=>r fun i g=>Classical.byContradiction fun b=>p ⟨i,g,b⟩
  have a:∀ m,(∃ i,i<m∧i<n∧(bv (D i)).2≠0)→∃ i,i<n∧(bv (D i)).2≠0∧∀ j,j<i→(bv (D j)).2=0:=by
   intro m
   induction m with
   | zero=>rintro ⟨i,h,-⟩;omega
   | succ m ih =>
    rintro ⟨i,s,l,o⟩
    by_cases k:∃ i,i<m∧i<n∧(bv (D i)).2≠0
    ·exact ih k
    exact ⟨i,l,o,fun j t=>Classical.byContradiction fun b=>k ⟨j,by omega,by omega,b⟩⟩
  obtain ⟨i0,c,e⟩:=f;obtain ⟨i,g,b,q⟩:=a n ⟨i0,c,c,e⟩;rw [KA d g b q] at h;exact b h
 rw [Kz d] at h;exact absurd h d
theorem xU {D:Nat→Dm} {n:Nat} {p:List Int} (h:InO D n p):∃ x:Nat,numI D p n=(x:Int)∧x<prodN D n∧aj D n x=p:=by
 obtain ⟨b,c,-⟩:=a8 h (Nat.le_refl n);have a:=gn h;exact ⟨(numI D p n).toNat,by omega,by omega,a⟩
theorem mn {D:Nat→Dm} {n:Nat} {l:List En} (h:Ens D n l) (p:List Int):b6 (getE l p):=by
 unfold getE
 split
 ·exact fx
 rename_i e r he
 split
 ·exact fx
 have a:e∈l:=List.mem_of_mem_drop (i:=cntE l p) (by rw [he];exact List.mem_cons_self ..)
 exact Ce (h.each e a).2.2
theorem Ki {D:Nat→Dm} {n:Nat} {l:List En} (h:Ens D n l) {j:Nat} (a:j<prodN D n):(wrV D n l).getD j noC=getE l (aj D n j):=by
 rw [JR h]
 simp [Kf,List.getD,a]
theorem ID {p:Nat→Bool} {N m:Nat} (a:m<N):(m:Int)∈selTo p N↔p m=true :=
 ⟨fun h=>by obtain ⟨j,c,-,b⟩:=cS _ h;have e:m=j:=(by omega);rw [e];exact b,fun h=>jU a h⟩
section
variable {D:Nat→Dm} {n:Nat}
theorem IB (b:dI D n) (a:(am D n).2.2=0) (y:Nat) (c:y<prodN D n):zC (prodN D n) ((rowsL D n).getD y []):=fun z d=>by
 have:=fk b a y (by rw [bN];exact c) z d
 rw [bN] at this;exact ⟨z.toNat,by omega,by omega⟩
end
section
variable {D:Nat→Dm} {n:Nat}
def CF (D:Nat→Dm) (n:Nat) (Q:List (List Int)):List Int:=if shTo D n Q=0 then k7 D n Q else []
theorem JA {Q:List (List Int)} (h:shTo D n Q=0):∀ q∈Q,shapeErr D n q=0:=by
 induction Q with
 | nil=>intro q c;cases c
 | cons a r ih =>
  unfold shTo at h
  by_cases b:shapeErr D n a=0
  ·rw [if_neg (by simpa using b)] at h
   intro q c
   rcases List.mem_cons.1 c with rfl | h2
   ·exact b
   exact ih h q h2
  rw [if_pos b] at h;exact absurd h b
theorem IK (Q:List (List Int)) {k:Nat} (a:k<Q.length):shTo D n (Q.drop k)=if shapeErr D n (Q.getD k [])≠0 then shapeErr D n (Q.getD k []) else shTo D n (Q.drop (k+1)):=by
 rw [List.drop_eq_getElem_cons a,shTo,zZ,zX a]
 rfl
theorem Jc (g:(am D n).2.2=0) {Q:List (List Int)} (h:shTo D n Q=0):zC (prodN D n) (k7 D n Q)∧((k7 D n Q).any fun z => !leafV D n (aj D n z.toNat))=Q.any fun q => !leafV D n q:=by
 have a:∀ q∈Q,∃ x:Nat,numI D q n=(x:Int)∧x<prodN D n∧aj D n x=q:=fun q b=>xU (fY (by rw [gi g];exact JA h q b))
 constructor
 ·intro z f
  unfold k7 at f;obtain ⟨q,b,rfl⟩:=List.mem_map.1 f;obtain ⟨x,c,d,-⟩:=a q b;exact ⟨x,c,d⟩
 unfold k7;rw [List.any_map];rw [Bool.eq_iff_iff,List.any_eq_true,List.any_eq_true]
 constructor
 ·rintro ⟨q,b,c⟩
  refine ⟨q,b,?_⟩;obtain ⟨x,d,-,e⟩:=a q b;rw [Function.comp_apply,d,Int.toNat_natCast,e] at c;exact c
 rintro ⟨q,b,c⟩;refine ⟨q,b,?_⟩;obtain ⟨x,d,-,e⟩:=a q b;rw [Function.comp_apply,d,Int.toNat_natCast,e];exact c
theorem GL (y:Nat):zC (prodN D n) (bE (rowsL D n) y (prodN D n)):=fun z b=>by
 obtain ⟨j,rfl,a,-⟩:=hJ.1 b;exact ⟨j,rfl,a⟩
theorem vz (g:dI D n) (f:(am D n).2.2=0) {S:List Int} {j:Nat} (s:j<prodN D n):Rea (fun y=>bE (rowsL D n) y (prodN D n)) S (j:Int)↔∃ a:Nat,(a:Int)∈S∧Ndd D n j a:=by
 constructor
 ·intro h
  have c:∀ z,Rea (fun y=>bE (rowsL D n) y (prodN D n)) S z→∀ j:Nat,z=(j:Int)→∃ a:Nat,(a:Int)∈S∧Ndd D n j a:=by
   intro z u
   induction u with
   | base h =>
    intro j e;subst e;exact ⟨j,h,.refl _⟩
   | @step y x' hy d ih =>
    intro j e;subst e;obtain ⟨a,i,t⟩:=ih y rfl;obtain ⟨j',v,m,p⟩:=hJ.1 d;have:j=j':=by omega
    subst this;exact ⟨a,i,.step ((jW (fE g f m)).2 p) t⟩
  exact c _ h j rfl
 rintro ⟨a,i,h⟩;have c:∀ {x b:Nat},Ndd D n x b→x<prodN D n→(b:Int)∈S→Rea (fun y=>bE (rowsL D n) y (prodN D n)) S (x:Int):=by
  intro x b l
  induction l with
  | refl=>intro _ h;exact .base h
  | @step x' y' z' hst _ ih =>
   intro q r;have d:=(jW (fE g f q)).1 hst;obtain ⟨k,w,o⟩:=IB g f x' q _ d;have:y'=k:=by omega
   subst this;exact .step (ih o r) (hJ.2 ⟨x',rfl,q,d⟩)
 exact c h s i
theorem ES (d:dI D n) (c:(am D n).2.2=0) {S L:List Int} (g:zC (prodN D n) S) (f:L.Pairwise (· < ·)) (i:∀ z,z∈L↔Rea (fun y=>bE (rowsL D n) y (prodN D n)) S z):L=drtL D n S:=by
 refine jb _ _ f (fl _ _) fun z=>?_
 rw [i z];unfold drtL
 constructor
 ·intro b
  obtain ⟨j,rfl,a⟩:=Jx g (fun y _=>GL y) b
  exact jU a (k6.2 ((vz d c a).1 b))
 intro h;obtain ⟨j,rfl,a,e⟩:=cS _ h;exact (vz d c a).2 (k6.1 e)
end
theorem xu (F:Nat) (cap:Array Value) (p:Int→Bool) (a:∀ (args:Array Value) (w:World),(callFunc F args).run Tryz.prog w=.ok (.enter F args) w) (A:Option Addr) (c:Nat) (L:List Int) (w:World) (f:L.length≤3000) (d:bX w A c L)
  (b:∀ (x:Int) (w':World),x∈L→Bl w w'→Calls Tryz.prog F (#[.int .i64 x] ++ cap) w' fun e w''=>e=.returned (.bool (p x))∧Bl w' w'') :
  Rt 95 #[.slice A L.length c,.func (.func F) #[] cap] w (.bool (l9 p L)):=by
 rw [←tH];exact oH F cap p a A c L w (by omega) (ly d) b
theorem wX (args:Array Value) (w:World):(callFunc 96 args).run Tryz.prog w=.ok (.enter 96 args) w:=by simp [go_sem]
theorem wQ (q g n b:Nat) (D:Nat→Dm) (X:Nat→AL) (x:Nat) (w:World) (d:(am D n).2.2=0) (f:x<prodN D n) (c:cJ w q g n D X) (i:w.cell? ⟨b,0,none⟩=some (.pointer (some ⟨q,0,none⟩))) :
  Rt 96 #[.int .i64 x,.pointer (some ⟨b,0,none⟩)] w (.bool (!leafV D n (aj D n x))):=by
 have h:=yu q g n D X x w d f c;generalize leafV D n (aj D n x)=r at h;clear c d f
 go_enter Tryz.func96,Tryz.ntmps96
 go_wp2_with fail;refine h.mono ?_;rintro e w1 ⟨rfl,a⟩;go_wp2_with fail;go_ret;exact ⟨rfl,a⟩
theorem wY (args:Array Value) (w:World):(callFunc 100 args).run Tryz.prog w=.ok (.enter 100 args) w:=by simp [go_sem]
theorem wR (b gU N y:Nat) (v:Value) (w:World) (d:N≤3000) (g:y<N) (e:w.cell? ⟨b,0,none⟩=some (.slice (some ⟨gU,0,none⟩) N N)) (f:w.cell? ⟨gU,y,none⟩=some v) :
  Rt 100 #[.int .i64 y,.pointer (some ⟨b,0,none⟩)] w (.tuple #[v,.nilIface]):=by
 have c:(y:Int)<(N:Int):=by omega
 have a:(N:Int)≤3000:=by omega
 go_enter Tryz.func100,Tryz.ntmps100
 go_wp2_with fail;go_returns;exact ⟨rfl,by go_grown⟩
theorem uT (A0:Option Addr) (cap n:Nat) (D:Nat→Dm) (A:Nat→Option Addr) (C:Nat→Nat) (Aq:Option Addr) (V:Nat) (xs:List PL) (w:World) (Y:(am D n).2.2=0) (hM:aW w A0 cap n D A C) (Z:rZ w Aq V xs) (hl:xs.length≤200) :
  Calls Tryz.prog 94 #[.agg #[.slice A0 n cap],.slice Aq xs.length V] w fun e w'=>(∃ v,e=.returned (.tuple #[v,errV (shTo D n (lP xs))])∧w'.ownsRow w.heap.size 3 1 v (CF D n (lP xs)).length (aE (CF D n (lP xs))))∧Bl w w':=by
 obtain ⟨i0,hi0,hz0,hz1,hz2⟩:=info_parts Tryz.infoInt;have j:=ao w A0 n cap 24;have hS:=av w A0 n cap 24;have hA:=aH w A0 n cap 24;obtain ⟨W,hW⟩:=az (ax w A0 n cap 24);rw [hW] at j hS hA;unfold ax at hW;have F:=aa j;have K3:Hid (∀ w',Bl W w'→w'.cell? ⟨w.heap.size,0,none⟩=some (.slice A0 n cap)∧w.heap.size<w'.heap.size):=fun w' I=>⟨aC I (show w.heap.size<W.heap.size by omega) hA,by have:=I.size;omega⟩
 have HX:Hid (∀ w' k,Bl W w'→k<xs.length→∃ b o,Aq=some ⟨b,o,none⟩∧b<w'.heap.size∧w'.cell? ⟨b,o+k,none⟩=some (.slice (xs.getD k mA).A (xs.getD k mA).p.length (xs.getD k mA).c)):=fun w' k I i=>by
  obtain ⟨-,r | ⟨b,o,X,h2,h3⟩,-⟩:=(Z.later j).later I
  ·rw [r] at i;simp at i
  exact ⟨b,o,X,h2,h3 k i⟩
 have B:Hid (∀ w' k,Bl W w'→k<xs.length→Rt 33 #[.agg #[.slice A0 n cap],.slice (xs.getD k mA).A (xs.getD k mA).p.length (xs.getD k mA).c] w' (.tuple #[.int .i64 (numV D n (xs.getD k mA).p),errV (shapeErr D n (xs.getD k mA).p)])):=fun w' k I i=>by
  have h:=gX A0 cap n D A C (xs.getD k mA).A (xs.getD k mA).c (xs.getD k mA).p w' ((hM.later j).later I) (((Z.later j).later I).2.2 _ (by rw [zZ,zX i];exact List.getElem_mem i))
  rw [gi Y] at h;exact h
 have R:Hid (∀ k,k<xs.length→shTo D n ((lP xs).drop k)=if shapeErr D n (xs.getD k mA).p≠0 then shapeErr D n (xs.getD k mA).p else shTo D n ((lP xs).drop (k+1))):=fun k i=>by
  have h:=IK (D:=D) (n:=n) (lP xs) (k:=k) (by unfold lP;rw [List.length_map];exact i)
  have e:(lP xs).getD k []=(xs.getD k mA).p:=by
   unfold lP;rw [zZ,zZ,List.getElem?_map,zX i]
   rfl
  rw [e] at h;exact h
 have S:Hid (∀ k,k<xs.length→k7 D n ((lP xs).take (k+1))=k7 D n ((lP xs).take k) ++ [numI D (xs.getD k mA).p n]):=fun k i=>by
  have hk':k<(lP xs).length:=by unfold lP;rw [List.length_map];exact i
  rw [List.take_succ_eq_append_getElem hk'];unfold k7;rw [List.map_append,List.map_singleton];have e:(lP xs)[k]=(xs.getD k mA).p:=by
   rw [zZ,zX i]
   simp [lP]
  rw [e]
 have Q:Hid (∀ k,k<xs.length→shapeErr D n (xs.getD k mA).p=0→∃ y:Nat,numV D n (xs.getD k mA).p=(y:Int)∧numI D (xs.getD k mA).p n=(y:Int)∧y≤3000):=fun k i h=>by
  have hp:placeErr D n (xs.getD k mA).p=0:=by rw [gi Y];exact h
  obtain ⟨y,X,h2,-⟩:=xU (fY hp);have:=(au Y).2.2.1;exact ⟨y,by unfold numV;rw [if_pos hp,X],X,by omega⟩
 have q:Hid (shTo D n ((lP xs).drop xs.length)=0∧(lP xs).take xs.length=lP xs):=by
  have e:(lP xs).length=xs.length:=by unfold lP;rw [List.length_map]
  exact ⟨by rw [List.drop_of_length_le (by omega)];rfl,List.take_of_length_le (by omega)⟩
 have hcq:xs.length≤V:=Z.1;obtain ⟨m,hm⟩:=az xs.length;rw [hm] at HX B R S Q q hcq hl ⊢;have hmI:(m:Int)≤200:=by omega
 have hcI:(m:Int)≤(V:Int):=by omega
 clear hM Z Y j hS hA hm
 go_enter Tryz.func94,Tryz.ntmps94
 go_wp2_with fail
 go_loopg [6,13] m (fun gg s6 s13 wr => ∃ (k:Nat) (AO:Option Addr) (N:Nat),k≤m∧gg=m-k∧s13=.int .i64 k∧s6=.slice AO k N∧Hid (wr.ownsRow W.heap.size 3 1 (.slice AO k N) k (aE (k7 D n ((lP xs).take k))))∧Hid (shTo D n (lP xs)=shTo D n ((lP xs).drop k))∧Hid (Bl W wr))
 case atStart=>exact ⟨0,none,0,zU,rfl,rfl,rfl,World.ownsRow_nil _ _ _ _,rfl,zS⟩
 case round =>
  obtain ⟨k,AO,N,i,rfl,rfl,rfl,HO,H,f⟩:=hrel
  by_cases t:k<m
  ·have hki:(k:Int)<(m:Int):=by omega
   obtain ⟨bq,oq,hAq,hbq,T⟩:=HX.out wr k f.out t;obtain ⟨c0,hs0⟩:=K3.out wr f.out;have a:=B.out wr k f.out t;have l:=R.out k t;have x:=S.out k t;have u:=Q.out k t;obtain ⟨z,hz⟩:=az (xs.getD k mA);rw [hz] at T a l x u;obtain ⟨E,J⟩:=az (shapeErr D n z.p);rw [J] at a l u;subst hAq;obtain ⟨zl,M⟩:=az z.p.length;rw [M] at T a;obtain ⟨zA,K⟩:=az z.A;obtain ⟨zc,L⟩:=az z.c;rw [K,L] at T a
   by_cases r:E=0
   ·obtain ⟨y,e1,e2,hy3⟩:=u r
    rw [r,e1,errV_zero] at a;have HS1:Hid (shTo D n (lP xs)=shTo D n ((lP xs).drop (k+1))):=by
     show _=_
     rw [H.out,l,if_neg (by simpa using r)]
    have K4:Hid (k7 D n ((lP xs).take (k+1))=k7 D n ((lP xs).take k) ++ [(y:Int)]):=by
     show _=_
     rw [x,e2]
    have K2:Hid (∀ w1:World,Bl wr w1→w1.ownsRow W.heap.size 3 1 (.slice AO k N) k (aE (k7 D n ((lP xs).take k)))∧W.heap.size≤w1.heap.size):=fun w1 d=>⟨an HO.out d,zV f.out.size d.size⟩
    have P:Hid (∀ (w4 w6:World) (o':Obj) (A6:Option Addr) (c6:Nat),Bl wr w4→w6.ownsRow W.heap.size 3 1 (.slice A6 (k+1) c6) (k+1) (aE (k7 D n ((lP xs).take k)) ++ [.int .i64 (y:Int)])→(w4.alloc o').grownBy w6 (Value.slice AO k N).ownBlock→Hid (w6.ownsRow W.heap.size 3 1 (.slice A6 (k+1) c6) (k+1) (aE (k7 D n ((lP xs).take (k+1)))))∧Hid (Bl W w6)):=fun w4 w6 o' A6 c6 h4 h6 hg=>by
     refine ⟨?_,bD (ae f.out h4) (an HO.out h4) hg⟩
     show World.ownsRow ..
     rw [K4.out,mapI_snoc];exact h6
    have hyI:(y:Int)≤3000:=by omega
    clear l x u hz J r e1 e2 M K L;go_wp2_with fail;refine a.mono ?_;rintro e w1 ⟨rfl,d⟩;obtain ⟨U,hs1⟩:=K2.out w1 d;have HO1:=aa U;have G:=aa d;clear d a T c0 U
    go_wp2_with (at_builtin;refine wpList_append_own _ rfl _ _ 26 rfl W.heap.size 3 i0 (.int .i64 0) 1 8 Tryz.underlying26 hi0 hz0 hz1 hz2 rfl (by decide) _ _ _ rfl (HO1.out.alloc _) ⟨w1.heap.size,0,none⟩ 1 1 [.int .i64 y] rfl rfl bz dG (by unfold maxLen;omega) (by omega) (by simp;omega) ?_)
    intro v' w6 g s _;obtain ⟨A',c',rfl⟩:∃ A' c',v'=.slice A' (k+1) c':=by
     rcases g.2 with ⟨-,h⟩ | ⟨g',c',cur,h,-⟩
     ·omega
     exact ⟨_,_,h⟩
    obtain ⟨HO6,K0⟩:=P.out _ _ _ _ _ G.out g s;clear g s;go_wp2_with fail
    go_roundg (m-(k+1))
    case measure=>omega
    case rel=>exact ⟨k+1,_,_,by omega,rfl,by go_num,rfl,HO6,HS1,K0⟩
   have O:Hid (errV (shTo D n (lP xs))=.iface 63 (.int .i64 E)∧CF D n (lP xs)=[]):=by
    have e:shTo D n (lP xs)=E:=by rw [H.out,l,if_pos r]
    refine ⟨by rw [e,ak r],?_⟩
    unfold CF;rw [if_neg (by rw [e];exact r)]
   rw [ak r] at a;generalize numV D n z.p=nv at a;clear l x u hz J r M K L;go_wp2_with fail;refine a.mono ?_;rintro e w1 ⟨rfl,d⟩;have G:=aa (ae F.out (ae f.out d));clear d a T c0;go_wp2_with fail;go_returns;exact ⟨⟨.slice none 0 0,by rw [O.out.1];rfl,by rw [O.out.2];exact World.ownsRow_nil _ _ _ _⟩,G.out⟩
  have hke:k=m:=by omega
  subst hke;have HF:Hid (shTo D n (lP xs)=0∧wr.ownsRow w.heap.size 3 1 (.slice AO k N) (CF D n (lP xs)).length (aE (CF D n (lP xs)))):=by
   have e:shTo D n (lP xs)=0:=by rw [H.out];exact q.out.1
   refine ⟨e,?_⟩;unfold CF;rw [if_pos e];have h:=HO.out;rw [q.out.2] at h;have hl:(k7 D n (lP xs)).length=k:=by have:=h.1;unfold aE at this;rw [List.length_map] at this;omega
   rw [hl];exact nQ h F.out.size
  have q0:=aa (ae F.out f.out);go_wp2_with fail;go_returns;exact ⟨⟨_,by rw [HF.out.1];rfl,HF.out.2⟩,q0.out⟩
theorem CO {w w1:World} {A0:Option Addr} {n cap:Nat} (a:Below (ax w A0 n cap 24).heap.size (ax w A0 n cap 24) w1):w1.cell? ⟨w.heap.size,0,none⟩=some (.slice A0 n cap)∧w.heap.size<w1.heap.size:=by
 have b:=av w A0 n cap 24;exact ⟨aC a (by show w.heap.size<_;omega) (aH ..),by have:=a.size;omega⟩
theorem zg (A0:Option Addr) (cap n:Nat) (D:Nat→Dm) (A:Nat→Option Addr) (C:Nat→Nat) (Ae:Option Addr) (m:Nat) (xs:List EnL) (Ap:Option Addr) (k:Nat) (L:List Int) (vc:Value) (w:World) (u:InO D n L) (x:aW w A0 cap n D A C) (r:aZ w Ap k L) (z:xs.length≤3000) (t:b7 w Ae m xs) (y:mR xs L) (F:byTo D L n<0) :
  Rt 29 #[.agg #[.slice A0 n cap],.slice Ae xs.length m,.slice Ap L.length k,vc] w (.agg #[.int .i64 (getE (lE xs) L).1,.int .i64 (getE (lE xs) L).2]):=by
 have a:byTo D L n = -1:=by
  rcases by_in D L n with h | ⟨b,h1,_⟩
  ·exact h
  omega
 obtain ⟨W,o⟩:=az ((w.alloc (.cells #[.slice A0 n cap] 24)).alloc (.cells #[.int .i64 0,.int .i64 0] 52));have d:Hid (Bl w W):=by show Bl w W;rw [←o];go_grown
 have B:Hid (W.heap[w.heap.size+1]?=some (.cells #[.int .i64 0,.int .i64 0] 52 (0,0))):=by show _=_;rw [←o];exact kr _ _ _
 have q:W.heap[w.heap.size]?=some (.cells #[.slice A0 n cap] 24 (0,0)):=by rw [←o];exact qi _ _ _
 have E:W.cell? ⟨w.heap.size,0,none⟩=some (.slice A0 n cap):=by simp [World.cell?,q]
 have G:w.heap.size<W.heap.size:=(zY q).1;have g:=nR A0 cap n D A C Ap k L W u (x.later d.out) (r.later d.out);have j:Hid (∀ w',Bl w w'→Rt 59 #[.slice Ae xs.length m,.slice Ap L.length k] w' (.agg #[.int .i64 (getE (lE xs) L).1,.int .i64 (getE (lE xs) L).2])):=fun w' s=>yE Ae m xs Ap k L w' z (t.later s) y (r.later s)
 rw [a] at g;generalize getE (lE xs) L=c at j ⊢;clear u x r t y F a z q
 go_enter Tryz.func29,Tryz.ntmps29
 go_wp2_with fail;refine g.mono ?_;rintro e w1 ⟨rfl,a⟩;have i:=aa a;have l:=j.out w1 (ae d.out a);clear a g E o;go_wp2_with fail;refine l.mono ?_;rintro e w2 ⟨rfl,f⟩;obtain ⟨J,H,I,rf0,rf1⟩:=kw B.out (ae i.out f);have p:=aa (ae d.out (ae i.out f));clear f l;go_wp2_with fail;refine bodyPost_ret (v:=.agg #[.int .i64 c.1,.int .i64 c.2]) (by simp [results,Tryz.results29,go_sem,H,I]) rfl ⟨rfl,?_⟩
 exact (p.out.setCell (Nat.le_succ _) _).setCell (Nat.le_succ _) _
theorem F7 {ka na kb nb:Int} (a:good ka na=true) (b:good kb nb=true):∀ w,Rt 66 #[.agg #[.int .i64 ka,.int .i64 na],.agg #[.int .i64 kb,.int .i64 nb],.int .i64 1] w (.agg #[.int .i64 (nj ka na kb nb).1,.int .i64 (nj ka na kb nb).2]):=by
 obtain ⟨c,d⟩:=cD a;obtain ⟨e,f⟩:=cD b;have h:=jR ka na kb nb 1 (na+nb) (by unfold wrap64;omega)
 unfold jg at h;exact h
theorem CY {ka na kb nb:Int} (a:good ka na=true) (b:good kb nb=true):∀ w,Rt 66 #[.agg #[.int .i64 ka,.int .i64 na],.agg #[.int .i64 kb,.int .i64 nb],.int .i64 (-1)] w (.agg #[.int .i64 (jt ka na kb nb).1,.int .i64 (jt ka na kb nb).2]):=by
 obtain ⟨c,d⟩:=cD a;obtain ⟨e,f⟩:=cD b;have h:=jR ka na kb nb (-1) (na-nb) (by unfold wrap64;omega)
 unfold jg at h;exact h
def se (w:World) (A0:Option Addr) (cap n qd:Nat) (d:Dm) (Am:Option Addr) (cm:Nat) (w1:World):Prop:=Bl w w1∧nU w1 w.heap.size (.slice A0 n cap)∧w1.heap[w.heap.size+1]?=some (.cells #[.int .i64 0,.int .i64 0] 52 (0,0))∧rW w1 qd d Am cm
theorem se.later {w w1 w2:World} {A0 Am:Option Addr} {cap n b cm:Nat} {d:Dm} (h:se w A0 cap n b d Am cm w1) (a:Bl w1 w2):se w A0 cap n b d Am cm w2:=⟨ae h.1 a,h.2.1.later a,(a.block _ (zY h.2.2.1).1).trans h.2.2.1,h.2.2.2.later a⟩
theorem se.grown {w w1 w2:World} {A0 Am:Option Addr} {cap n b cm g:Nat} {d:Dm} (h:se w A0 cap n b d Am cm w1) (a:w1.grownBy w2 (some g)) (i:w.heap.size+1<g) (c:b≠g):se w A0 cap n b d Am cm w2 :=
 ⟨h.1.grown a h.1.size (fun j f=>by cases f;omega),oj h.2.1 (by omega) a,(a.block _ (zY h.2.2.1).1 (fun e=>by simp at e;omega)).trans h.2.2.1,ww h.2.2.2 c a⟩
theorem AU {D:Nat→Dm} {n b:Nat} {L:List Int} (h:InO D n L) (c:b<n) {j:Nat} (f:j<(D b).n):∃ y:Nat,numI D (L.set b j) n=(y:Int)∧y<prodN D n∧InO D n (L.set b j):=by
 have a:=gQ h c (x:=(j:Int)) (by omega) (by omega)
 obtain ⟨d,e,-⟩:=a8 a (Nat.le_refl n);exact ⟨(numI D (L.set b j) n).toNat,by omega,by omega,a⟩
end Go.Proofs.YtohgnbgamfepoaaGreatDoor
