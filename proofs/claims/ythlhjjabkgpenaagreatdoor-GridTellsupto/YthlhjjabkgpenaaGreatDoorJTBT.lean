/- tallylaw3.GridTells, t -/
import Derived.Test.YthlhjjabkgpenaaGreatDoorJTBO
import Derived.Test.YthlhjjabkgpenaaGreatDoorJTBQ
import Derived.Test.YthlhjjabkgpenaaGreatDoorJTBR
import Derived.Test.YthlhjjabkgpenaaGreatDoorJTBS
namespace Go.Proofs.YthlhjjabkgpenaaGreatDoor
open Go ChangeShapes WideShapes ChangeAt RowKit
set_option maxRecDepth 99999
set_option maxHeartbeats 0
set_option maxHeartbeats 16000000
def GW (w:World) (q:Nat) (R K:List Int) (Z:List (List (Int×Int))):Prop := ∃ Ar cr Ac cc Ag cg zz,w.heap[q]?=some (.cells #[.slice Ar R.length cr,.slice Ac K.length cc,.slice Ag (zz:List CsL).length cg] 30 (0,0))∧aO w Ar cr R∧aO w Ac cc K∧eQ w Ag cg zz∧lZ zz=Z
theorem GW.nil {w:World} {q:Nat} (h:w.heap[q]?=some (.cells #[.slice none 0 0,.slice none 0 0,.slice none 0 0] 30 (0,0))):GW w q [] [] [] :=
 ⟨none,0,none,0,none,0,[],h,aO.nil _ _ _,aO.nil _ _ _,eQ.nil _ _ _ (by omega),rfl⟩
theorem eG {w0 w1 w':World} {N:Nat} {X:Nat→Prop} (a:Bl w0 w1) (c:Kept N X w1 w') (f:w0.heap.size≤N) (d:∀ b,X b→w0.heap.size≤b):Bl w0 w' :=
 ⟨c.os.trans a.os,c.tape.trans a.tape,c.output.trans a.output,zV a.size c.size,fun k e=>(c.block k (by omega) (fun h=>by have:=d k h;omega)).trans (a.block k e)⟩
theorem EN {w:World} {base:Nat} {v:Value} {L:List Int} {m:Nat} (b:L.length=m) (h:w.ownsRow base 3 1 v m (aE L)):∃ A c,v=.slice A L.length c∧aO w A c L:=by
 subst b;obtain ⟨A,c,e,a⟩:=cE h;exact ⟨A,c,e,iF a.at⟩
theorem uV (f:Nat→Nat→Int×Int) (i C:Nat):ss f (i+1) C=ss f i C ++ [(List.range C).map (f i)]:=by simp [ss,List.range_succ]
theorem jk {w1 w w':World} {N q:Nat} {v:Value} (a:Kept N (fun b=>b=q) w1 w) (f:N≤w.heap.size) (c:∀ g,v.ownBlock=some g→N≤g) (h:Kept w.heap.size (fun b=>b=q∨v.ownBlock=some b) w w'):Kept N (fun b=>b=q) w1 w' :=
 a.trans ⟨h.os,h.tape,h.output,h.size,fun i j d=>h.block i (by omega) fun e=>e.elim d fun e=>by have:=c i e;omega⟩
section
variable {D:Nat→Dm} {n:Nat} {A:Nat→Option Addr} {C:Nat→Nat} {cap d od b q i kc:Nat} {w0:World}
structure Ctx6 (D:Nat→Dm) (n:Nat) (A:Nat→Option Addr) (C:Nat→Nat) (cap d od b q i kc:Nat) (Ap:Option Addr) (cp:Nat) (p:List Int) (w0:World):Prop where
 hM:bd w0 (some ⟨d,od,none⟩) cap n D A C
 hP:aO w0 Ap cp p
 hc:∀ w',Bl w0 w'→w'.cell? ⟨b,0,none⟩=some (.slice (some ⟨d,od,none⟩) n cap)
 hq:w0.heap.size≤q
 hi:i<n
 hk:kc<n
 hp:placeErr D n p=0
theorem Ctx6.dim {Ap:Option Addr} {a:Nat} {p:List Int} (h:Ctx6 D n A C cap d od b q i kc Ap a p w0) {w:World} (c:Bl w0 w) {j:Nat} (g:j<n):w.cell? ⟨d,od+j*3+2,none⟩=some (.slice (A j) (D j).n (C j)):=by
 obtain ⟨-,k | ⟨b1,o1,e,f⟩⟩:=h.hM.later c
 ·omega
 cases e;exact (f.2 j g).2.2.1
theorem J3 {Ap:Option Addr} {M:Nat} {p:List Int} (H:Ctx6 D n A C cap d od b q i kc Ap M p w0) (T:Array Value) (s:Nat→Value) (w1:World) (l:aP T s) (N:s 4=.int .i64 (kc:Nat)) (O:s 6=.pointer (some ⟨b,0,none⟩)) (u:s 14=.pointer (some ⟨q,0,none⟩)) (U:(D kc).n≤12) (L:Bl w0 w1) (t:w1.heap[q]?=some (.cells #[.slice none 0 0,.slice none 0 0,.slice none 0 0] 30 (0,0))) (J:Act→World→Prop) (Q:Exit→Act→World→Prop)
  (P:∀ T' s' w' v,aP T' s'→Ag [16] s s'→w'.heap[q]?=some (.cells #[.slice none 0 0,v,.slice none 0 0] 30 (0,0))→w'.ownsRow w1.heap.size 3 1 v (D kc).n (aE (eP (D kc).n))→Kept w1.heap.size (fun b=>b=q) w1 w'→J ⟨T',[]⟩ w'):Code.wp Tryz.prog (bC 6 [1,2,1,0]) (Exit.then J Q) ⟨T,[]⟩ w1:=by
 have G:=(zY t).1;have I:=L.size;rw [show bC 6 [1,2,1,0]=.seq (bC 6 [1,2,1,0,0]) (.block 0 (.loop (.seq (.seq (bC 6 [1,2,1,0,1,3,4,0,0]) (.cond (.tmp 95) .skip (.exit 0))) (.seq (.block 1 (bC 6 [1,2,1,0,1,3,4,1,0,3])) (bC 6 [1,2,1,0,1,3,4,1,1]))))) from rfl]
 refine wp_seq (I3 T s w1 l _ _ fun T2 w=>?_)
 have r:∀ {w':World},Kept w1.heap.size (fun b=>b=q) w1 w'→Bl w0 w':=fun h=>eG L h I fun b R=>by rw [R];exact H.hq
 refine gz (D kc).n (fun k=>decide (k<(D kc).n)) (by simp)
  (fun k s' w'=>Ag [16] s s'∧s' 16=.int .i64 (k:Nat)∧∃ v,w'.heap[q]?=some (.cells #[.slice none 0 0,v,.slice none 0 0] 30 (0,0))∧w'.ownsRow w1.heap.size 3 1 v k (aE (eP k))∧Kept w1.heap.size (fun b=>b=q) w1 w')
  (fun k s' w'=>Ag [16] s s'∧s' 16=.int .i64 (k:Nat)∧∃ v,w'.heap[q]?=some (.cells #[.slice none 0 0,v,.slice none 0 0] 30 (0,0))∧w'.ownsRow w1.heap.size 3 1 v (k+1) (aE (eP (k+1)))∧Kept w1.heap.size (fun b=>b=q) w1 w')
  ?_ ?_ ?_ w ⟨(Ag.refl _ _).up (by decide),aT _ _ _,_,t,⟨rfl,Or.inl ⟨rfl,rfl⟩⟩,Kept.refl _ _ _⟩ ?_
 ·rintro k T s' w' hk l ⟨j,a,v,c,o,f⟩ K Q e
  exact I4 T s' b d od n cap kc k (D kc).n (C kc) (A kc) w' l ((j 4 (by decide)).trans N) ((j 6 (by decide)).trans O) a (H.hc _ (r f)) (H.dim (r f) H.hk) H.hk _ _ e
 ·rintro k T s' w' hk-l ⟨j,a,v,c,o,f⟩ K Q e
  exact I6 T s' q w1.heap.size k _ _ _ _ w' l ((j 14 (by decide)).trans u) a c o f.size G (by omega) _ _ fun T' w2 v' m F z y=>e T' s' w2 m ⟨j,a,v',F,by rw [tR];exact z,jk f f.size (fun g S=>(o.lt g S).1) y⟩
 ·rintro k T s' w' hk l ⟨j,a,v,c,o,f⟩ K Q e
  exact I5 T s' k w' l a (by omega) _ _ fun T' m=>e T' _ w' m ⟨j.up (by decide),aT _ _ _,v,c,o,f⟩
 rintro k T3 s3 w3 hk E x ⟨j,-,v,c,o,f⟩;have B:k=(D kc).n:=by simp at E;omega
 subst B;exact P T3 s3 w3 v x j c o f
theorem J5 {Ap:Option Addr} {M:Nat} {p:List Int} (H:Ctx6 D n A C cap d od b q i kc Ap M p w0) (T:Array Value) (s:Nat→Value) (w3:World) (r gc cc:Nat) (L:List (Int×Int)) (f:Nat→Int×Int) (x:aP T s) (h2:s 2=.slice Ap p.length M) (h3:s 3=.int .i64 (i:Nat)) (h4:s 4=.int .i64 (kc:Nat)) (h6:s 6=.pointer (some ⟨b,0,none⟩)) (N:s 15=.slice (some ⟨gc,0,none⟩) L.length cc) (O:s 17=.int .i64 (r:Nat)) (P:s 18=.slice none 0 0) (hr:r<(D i).n) (hm:(D kc).n≤12) (hB:Bl w0 w3) (hC:da w3 gc L)
  (hf:∀ c:Nat,c<(D kc).n→∃ z:Nat,numI D ((p.set i (r:Int)).set kc (c:Int)) n=z∧z<L.length∧L.getD z noC=f c) (J:Act→World→Prop) (Q:Exit→Act→World→Prop)
  (hJ:∀ T' s' w' v,aP T' s'→Ag [18,19,20] s s'→s' 18=v→w'.ownsRow w3.heap.size 40 2 v ((List.range (D kc).n).map f).length (bw ((List.range (D kc).n).map f))→Bl w3 w'→J ⟨T',[]⟩ w'):Code.wp Tryz.prog (bC 6 [1,2,1,1,1,3,4,1,0,3,1,1,0]) (Exit.then J Q) ⟨T,[]⟩ w3:=by
 rw [show bC 6 [1,2,1,1,1,3,4,1,0,3,1,1,0]=.seq (bC 6 [1,2,1,1,1,3,4,1,0,3,1,1,0,0]) (.block 4 (.loop (.seq (.seq (bC 6 [1,2,1,1,1,3,4,1,0,3,1,1,0,1,3,4,0,0]) (.cond (.tmp 129) .skip (.exit 4))) (.seq (.block 5 (.seq (bC 6 [1,2,1,1,1,3,4,1,0,3,1,1,0,1,3,4,1,0,3,0]) (bC 6 [1,2,1,1,1,3,4,1,0,3,1,1,0,1,3,4,1,0,3,1]))) (bC 6 [1,2,1,1,1,3,4,1,0,3,1,1,0,1,3,4,1,1]))))) from rfl]
 have hI:=iw H.hp;have G:p.length=n:=hI.len;have hn4:n≤4:=(aw hI.right).2.1;refine wp_seq (Jc T s w3 x _ _ fun T2 U=>?_)
 refine gz (D kc).n (fun k=>decide (k<(D kc).n)) (by simp)
  (fun k s' w'=>Ag [18,19,20] s s'∧s' 19=.int .i64 (k:Nat)∧w'.ownsRow w3.heap.size 40 2 (s' 18) k (bw ((List.range k).map f))∧Bl w3 w')
  (fun k s' w'=>Ag [18,19,20] s s'∧s' 19=.int .i64 (k:Nat)∧w'.ownsRow w3.heap.size 40 2 (s' 18) (k+1) (bw ((List.range (k+1)).map f))∧Bl w3 w')
  ?_ ?_ ?_ U ⟨(Ag.refl _ _).up (by decide),aT _ _ _,by rw [mR _ _ (by decide),P];exact ⟨rfl,Or.inl ⟨rfl,rfl⟩⟩,zS⟩ ?_
 ·rintro k T s' w' hk x ⟨h,l,B,a⟩ K Q t
  have m:=ae hB a;exact Jd T s' b d od n cap kc k (D kc).n (C kc) (A kc) w' x ((h 4 (by decide)).trans h4) ((h 6 (by decide)).trans h6) l (H.hc _ m) (H.dim m H.hk) H.hk _ _ t
 ·rintro k T s' w' hk-x ⟨h,l,B,a⟩ K Q t
  have m:=ae hB a;refine wp_seq (Jf T s' (.slice Ap p.length M) (.int .i64 (i:Nat)) (.int .i64 (r:Nat)) (.int .i64 (kc:Nat)) (.int .i64 (k:Nat))
   (fun u w1 => ∃ A' o,u=.slice A' (p.set i (r:Int)).length o∧aO w1 A' o (p.set i (r:Int))∧Bl w' w1)
   (fun u w1 => ∃ A' o,u=.slice A' ((p.set i (r:Int)).set kc (k:Int)).length o∧aO w1 A' o ((p.set i (r:Int)).set kc (k:Int))∧Bl w' w1)
   w' x ((h 2 (by decide)).trans h2) ((h 3 (by decide)).trans h3) ((h 4 (by decide)).trans h4) ((h 17 (by decide)).trans O) l ?_ ?_ _ _ fun T1 u w1 S hY=>?_)
  ·refine (gZ Ap M p i (r:Int) w' (by rw [G];exact H.hi) (by omega) (H.hP.later m)).mono ?_
   rintro e w1 ⟨⟨A',o,rfl,hP⟩,w⟩;exact ⟨_,rfl,A',o,by rw [List.length_set],hP,w⟩
  ·rintro u w1 ⟨A',o,rfl,hP,w⟩
   refine (gZ A' o (p.set i (r:Int)) kc (k:Int) w1 (by rw [List.length_set,G];exact H.hk) (by rw [List.length_set];omega) hP).mono ?_
   rintro e w2 ⟨⟨A2,c2,rfl,X⟩,Y⟩;exact ⟨_,rfl,A2,c2,by simp,X,ae w Y⟩
  obtain ⟨A',o,rfl,hP,w⟩:=hY;obtain ⟨z,hz,I,Lu⟩:=hf k hk;have j:=ae a w;have E:=hC.later j;obtain ⟨x1,x2⟩:=E.at I;rw [Lu] at x1 x2;have F:=ar B w;refine Jg T1 _ b gc L.length cc z w3.heap.size k (.slice (some ⟨d,od,none⟩) n cap) (.slice A' ((p.set i (r:Int)).set kc (k:Int)).length o) (s' 18) (f k).1 (f k).2 _ w1 S ((h 6 (by decide)).trans h6) ((h 15 (by decide)).trans N) rfl rfl (H.hc _ (ae m w)) ?_ I E.lt x1 x2 F j.size (by omega) _ _ fun T3 v' w4 y W V=>?_
  ·have:=gm (some ⟨d,od,none⟩) cap n D A C A' o _ w1 (D6 H.hp H.hi H.hk hr hk) (H.hM.later (ae m w)) hP
   rw [hz] at this;exact this
  refine t T3 _ w4 y ⟨(h.up (by decide)).up (by decide),l,?_,eG j V j.size fun g hg=>(F.lt g hg).1⟩
  rw [aT,List.range_succ,List.map_append,cellsC_append];exact W
 ·rintro k T s' w' hk x ⟨h,l,B,a⟩ K Q t
  exact Je T s' k w' x l (by omega) _ _ fun T' R=>t T' _ w' R ⟨h.up (by decide),aT _ _ _,by rw [mR _ _ (by decide)];exact B,a⟩
 rintro k T3 s3 w4 hk Lt y ⟨h,-,B,a⟩;have Z:k=(D kc).n:=by simp at Lt;omega
 subst Z;exact hJ T3 s3 w4 _ y h rfl (by simpa using B) a
theorem J4 {Ap:Option Addr} {cp:Nat} {p:List Int} (H:Ctx6 D n A C cap d od b q i kc Ap cp p w0) (T:Array Value) (s:Nat→Value) (w2:World) (gc cc:Nat) (L:List (Int×Int)) (f:Nat→Nat→Int×Int) (vC:Value) (B:aP T s) (h2:s 2=.slice Ap p.length cp) (h3:s 3=.int .i64 (i:Nat)) (h4:s 4=.int .i64 (kc:Nat)) (h6:s 6=.pointer (some ⟨b,0,none⟩)) (R:s 14=.pointer (some ⟨q,0,none⟩)) (h15:s 15=.slice (some ⟨gc,0,none⟩) L.length cc) (hm1:(D i).n≤12) (hm:(D kc).n≤12) (hB:Bl w0 w2) (hC:da w2 gc L) (N:w2.heap[q]?=some (.cells #[.slice none 0 0,vC,.slice none 0 0] 30 (0,0)))
  (hf:∀ r:Nat,r<(D i).n→∀ c:Nat,c<(D kc).n→∃ z:Nat,numI D ((p.set i (r:Int)).set kc (c:Int)) n=z∧z<L.length∧L.getD z noC=f r c) (J:Act→World→Prop) (Q:Exit→Act→World→Prop)
  (hJ:∀ T' s' w' vR vZ zz,aP T' s'→Ag [17,18,19,20] s s'→w'.heap[q]?=some (.cells #[vR,vC,vZ] 30 (0,0))→w'.ownsRow w2.heap.size 3 1 vR (D i).n (aE (eP (D i).n))→fP w' w2.heap.size vZ zz→lZ zz=ss f (D i).n (D kc).n→Kept w2.heap.size (fun b=>b=q) w2 w'→J ⟨T',[]⟩ w'):Code.wp Tryz.prog (bC 6 [1,2,1,1]) (Exit.then J Q) ⟨T,[]⟩ w2:=by
 have Z:=(zY N).1;have hs1:=hB.size;have hgq:gc≠q:=by
  obtain ⟨cur,a,-⟩:=hC;exact jS a N (fun e=>gb e.symm)
 have hgl:=hC.lt;rw [show bC 6 [1,2,1,1]=.seq (bC 6 [1,2,1,1,0]) (.block 2 (.loop (.seq (.seq (bC 6 [1,2,1,1,1,3,4,0,0]) (.cond (.tmp 112) .skip (.exit 2))) (.seq (.block 3 (.seq (bC 6 [1,2,1,1,1,3,4,1,0,3,0]) (.seq (bC 6 [1,2,1,1,1,3,4,1,0,3,1,0]) (.seq (bC 6 [1,2,1,1,1,3,4,1,0,3,1,1,0]) (bC 6 [1,2,1,1,1,3,4,1,0,3,1,1,1]))))) (bC 6 [1,2,1,1,1,3,4,1,1]))))) from rfl]
 refine wp_seq (I7 T s w2 B _ _ fun T2 E=>?_)
 have I:∀ {w':World},Kept w2.heap.size (fun b=>b=q) w2 w'→Bl w0 w':=fun h=>eG hB h hs1 fun b hb=>by rw [hb];exact H.hq
 refine gz (D i).n (fun k=>decide (k<(D i).n)) (by simp)
  (fun r s' w'=>Ag [17,18,19,20] s s'∧s' 17=.int .i64 (r:Nat)∧∃ vR vZ zz,w'.heap[q]?=some (.cells #[vR,vC,vZ] 30 (0,0))∧w'.ownsRow w2.heap.size 3 1 vR r (aE (eP r))∧fP w' w2.heap.size vZ zz∧lZ zz=ss f r (D kc).n∧Kept w2.heap.size (fun b=>b=q) w2 w')
  (fun r s' w'=>Ag [17,18,19,20] s s'∧s' 17=.int .i64 (r:Nat)∧∃ vR vZ zz,w'.heap[q]?=some (.cells #[vR,vC,vZ] 30 (0,0))∧w'.ownsRow w2.heap.size 3 1 vR (r+1) (aE (eP (r+1)))∧fP w' w2.heap.size vZ zz∧lZ zz=ss f (r+1) (D kc).n∧Kept w2.heap.size (fun b=>b=q) w2 w')
  ?_ ?_ ?_ E ⟨(Ag.refl _ _).up (by decide),aT _ _ _,_,_,[],N,⟨rfl,Or.inl ⟨rfl,rfl⟩⟩,fP.nil _ _,rfl,Kept.refl _ _ _⟩ ?_
 ·rintro k T s' w' hk B ⟨l,j,vR,vZ,zz,v,P,hZ,hz,y⟩ K Q u
  exact I8 T s' b d od n cap i k (D i).n (C i) (A i) w' B ((l 3 (by decide)).trans h3) ((l 6 (by decide)).trans h6) j (H.hc _ (I y)) (H.dim (I y) H.hi) H.hi _ _ u
 ·rintro r T s' w' hr-B ⟨l,j,vR,vZ,zz,v,P,hZ,hz,y⟩ K Q u
  have hzl:zz.length=r:=by rw [←eb,hz,mN]
  refine wp_seq (Ja T s' q w2.heap.size r _ _ _ _ w' B ((l 14 (by decide)).trans R) j v P y.size Z (by omega) _ _ fun T1 w3 vR' hF1 hq3 hO3 V=>?_)
  refine wp_seq (Jb T1 s' w3 hF1 _ _ fun T2 E=>?_)
  have m:=jk y y.size (fun g Y=>(P.lt g Y).1) V
  have hC3:da w3 gc L:=(hC.same (m.block gc hgl hgq));refine wp_seq (J5 H T2 _ w3 r gc cc L (f r) E ((l 2 (by decide)).trans h2) ((l 3 (by decide)).trans h3) ((l 4 (by decide)).trans h4) ((l 6 (by decide)).trans h6) ((l 15 (by decide)).trans h15) j (aT _ _ _) hr hm (I m) hC3 (hf r hr) _ _ fun T3 s3 w4 vL F U h18 X t=>?_)
  have x:Ag [17,18,19,20] s s3:=(l.up (by decide)).trans (U.wide (by decide))
  have S:s3 17=.int .i64 (r:Nat):=(U 17 (by decide)).trans j
  have o:=m.size;have hZ3:=hZ.other v P V;have w:=hZ3.later t;have O:=(t.block q (by omega)).trans hq3
  have W:=ar hO3 t;obtain ⟨Al,cl,rfl⟩:=bG X;refine Jh T3 s3 q w2.heap.size zz.length _ _ _ (jX zz) Al _ cl w4 F ((x 14 (by decide)).trans R) h18 O w.1 (zV o t.size) Z (by omega) _ _ fun T4 w5 vZ' hF4 hq5 hO5 G=>?_
  refine u T4 s3 w5 hF4 ⟨x,S,vR',vZ',zz ++ [⟨(List.range (D kc).n).map (f r),Al,cl⟩],hq5,?_,w.push O (kM X o) hO5 G,by rw [yL,hz,uV],jk (m.trans (aq t o)) (zV o t.size) (fun g Y=>(w.1.lt g Y).1) G⟩
  rw [tR];refine be W fun g Y=>?_
  obtain ⟨cur,a⟩:=ki W Y;refine G.block g (zY a).1 fun hx=>?_
  rcases hx with rfl | hx
  ·exact jS a O tw rfl
  obtain ⟨cur',M⟩:=ki w.1 hx;exact jS a M nN rfl
 ·rintro k T s' w' hk B ⟨l,j,rest⟩ K Q u
  exact I9 T s' k w' B j (by omega) _ _ fun T' hF'=>u T' _ w' hF' ⟨l.up (by decide),aT _ _ _,rest⟩
 rintro k T3 s3 w3 hk hkf F ⟨l,-,vR,vZ,zz,v,P,hZ,hz,y⟩;have hke:k=(D i).n:=by simp at hkf;omega
 subst hke;exact hJ T3 s3 w3 vR vZ zz F l v P hZ hz y
end
theorem KP (A0:Option Addr) (cap n:Nat) (D:Nat→Dm) (A:Nat→Option Addr) (C:Nat→Nat) (AE:Option Addr) (P:Nat) (h:List EnL) (Ap:Option Addr) (V:Nat) (p:List Int) (row f:Int) (b q:Nat) (w0:World) (hM:bd w0 A0 cap n D A C) (Lt:ii w0 AE P h) (hP:aO w0 Ap V p) (R:∀ w',Bl w0 w'→w'.cell? ⟨b,0,none⟩=some (.slice A0 n cap)) (hq:w0.heap.size≤q)
  (T:Array Value) (s:Nat→Value) (w:World) (hF:aP T s) (h1:s 1=.slice AE h.length P) (h2:s 2=.slice Ap p.length V) (h3:s 3=.int .i64 row) (h4:s 4=.int .i64 f) (X:s 6=.pointer (some ⟨b,0,none⟩)) (W:s 13=.int .i64 (kF D n (lE h) p row f)) (y:s 14=.pointer (some ⟨q,0,none⟩)) (B:Bl w0 w) (t:w.heap[q]?=some (.cells #[.slice none 0 0,.slice none 0 0,.slice none 0 0] 30 (0,0))) (J:Act→World→Prop) (Q:Exit→Act→World→Prop)
  (hJ:∀ T' s' w',aP T' s'→Ag [15,16,17,18,19,20] s s'→Bl w0 w'→GW w' q (Bf D n (lE h) p row f) (Be D n (lE h) p row f) (yQ D n (lE h) p row f)→J ⟨T',[]⟩ w'):Code.wp Tryz.prog (lp 6) (Exit.then J Q) ⟨T,[]⟩ w:=by
 rw [show lp 6=.seq (bC 6 [0]) (.cond (.tmp 83) (.seq (bC 6 [1,2,0]) (.seq (bC 6 [1,2,1,0]) (bC 6 [1,2,1,1]))) .skip) from rfl]
 refine wp_seq (KO T s _ w hF W _ _ fun T1 F S=>?_)
 by_cases x:kF D n (lE h) p row f=0
 ·rw [decide_eq_true x] at S
  refine wp_cond_true S ?_;obtain ⟨N,hp,i,kc,hri,hck,hi,U,hne⟩:=qy x;subst hri hck;have hM0:=hM;obtain ⟨hcap,h0 | ⟨d,od,rfl,hD⟩⟩:=hM0
  ·omega
  have H:Ctx6 D n A C cap d od b q i kc Ap V p w0:=⟨hM,hP,R,hq,hi,U,hp⟩;obtain ⟨g1,g3⟩:=Di N;obtain ⟨hE,hR⟩:=kT g1;obtain ⟨-,-,-,hd⟩:=aw hE;have hql:=(zY t).1;refine wp_seq (I2 T1 s b (.slice (some ⟨d,od,none⟩) n cap) (.slice AE h.length P) (fun v w' => ∃ g L,v=.slice (some ⟨g,0,none⟩) (prodN D n) (prodN D n)∧L.length=prodN D n∧da w' g L∧(∀ j,j<prodN D n→L.getD j noC=fD D n (getE (lE h)) (ak D n j))∧Bl w w') w F h1 X (R _ B) ?_ _ _ fun T2 v w1 Lu hX=>?_)
  ·refine (xE _ cap n D A C AE P h w hE hR (vB g3) (hM.later B) (Lt.later B)).mono ?_
   rintro e w1 ⟨⟨g,L,rfl,hl,E,hv⟩,l⟩;exact ⟨_,rfl,g,L,rfl,hl,E,hv,l⟩
  obtain ⟨g,L,rfl,hl,E,hv,l⟩:=hX;have m:=ae B l;have u:=(l.block q hql).trans t;refine wp_seq (J3 H T2 _ w1 Lu h4 X y (hd kc U).2 m u _ _ fun T3 s3 w2 vC Lv a hq3 K G=>?_)
  have o:Bl w0 w2:=eG m G m.size fun b l=>by rw [l];exact hq
  have Z:da w2 g L:=E.same (G.block g E.lt (by
   obtain ⟨cur,O,-⟩:=E;exact jS O u (fun e=>gb e.symm)))
  have hf:∀ r:Nat,r<(D i).n→∀ c:Nat,c<(D kc).n→∃ z:Nat,numI D ((p.set i (r:Int)).set kc (c:Int)) n=z∧z<L.length∧L.getD z noC=Gc D n (lE h) p i kc r c:=fun r hr c R=>by
   have hI:=D6 hp hi U hr R;have l:=bJ hI (Nat.le_refl n);refine ⟨(numI D ((p.set i (r:Int)).set kc (c:Int)) n).toNat,by omega,by omega,?_⟩
   rw [hv _ (by omega)]
   unfold Gc;simp only [Int.toNat_natCast];rw [C5 N (by omega)]
  refine J4 H T3 s3 w2 g (prodN D n) L (Gc D n (lE h) p i kc) vC Lv ((a 2 (by decide)).trans h2) ((a 3 (by decide)).trans h3) ((a 4 (by decide)).trans h4) ((a 6 (by decide)).trans X) ((a 14 (by decide)).trans y) ((a 15 (by decide)).trans (by rw [hl];exact aT _ _ _)) (hd i hi).2 (hd kc U).2 o Z hq3 hf _ _ fun T4 s4 w4 vR vZ zz Lw Y hq4 hO4 hZ4 hz4 I=>?_
  have M:w4.ownsRow w1.heap.size 3 1 vC (D kc).n (aE (eP (D kc).n)):=be K fun g hg=>by
   have:=K.lt g hg;exact I.block g this.2 (by have:=(zY u).1;omega)
  obtain ⟨Ar,cr,rfl,hPr⟩:=EN (risL_len _) hO4;obtain ⟨Ac,cc,rfl,hPc⟩:=EN (risL_len _) M;obtain ⟨Ag',cg,rfl,hV⟩:=hZ4.css;obtain ⟨e1,e2,e3⟩:=D5 x;refine hJ T4 s4 w4 Lw (((Ag.refl _ s).up (k:=15) (by decide)).trans ((a.wide (by decide)).trans (Y.wide (by decide)))) (eG o I o.size fun b l=>by rw [l];exact hq) ?_
  rw [e1,e2,e3];exact ⟨Ar,cr,Ac,cc,Ag',cg,zz,hq4,hPr,hPc,hV,hz4⟩
 rw [decide_eq_false x] at S;refine wp_cond_false S (wp_skip ?_);refine hJ T1 s w F (Ag.refl _ _) B ?_;unfold Bf Be yQ;rw [if_neg x,if_neg x,if_neg x];exact GW.nil t
theorem zp {w:World} {Ag:Option Addr} {cg:Nat} {zz:List CsL} (h:eQ w Ag cg zz) {i k:Nat} (d:i<zz.length) (a:k<(zz.getD i noCs).L.length):∃ bz oz bl ol,Ag=some ⟨bz,oz,none⟩∧w.cell? ⟨bz,oz+i,none⟩=some (.slice (some ⟨bl,ol,none⟩) (zz.getD i noCs).L.length (zz.getD i noCs).c)∧w.cell? ⟨bl,ol+k*2,none⟩=some (.int .i64 ((zz.getD i noCs).L.getD k noC).1)∧w.cell? ⟨bl,ol+k*2+1,none⟩=some (.int .i64 ((zz.getD i noCs).L.getD k noC).2):=by
 obtain ⟨-,-,b | ⟨bz,oz,e,m,l⟩⟩:=h
 ·rw [b] at d;simp at d
 obtain ⟨f,-,-,b | ⟨bl,ol,j,g⟩⟩:=l i d
 ·rw [b] at a;simp at a
 rw [j] at f;exact ⟨bz,oz,bl,ol,e,f,(g.2 k a).1,(g.2 k a).2⟩
structure Ctx13 (Ar:Option Addr) (cr:Nat) (R:List Int) (Ac:Option Addr) (cc:Nat) (K:List Int) (Ag:Option Addr) (cg:Nat) (zz:List CsL) (g:Nat) (w0:World):Prop where
 hR:R.length≤1048576
 hK:K.length≤1048576
 hn:zz.length≤1048576
 hx:∀ x∈zz,x.L.length≤1048576
 hPr:aO w0 Ar cr R
 hPk:aO w0 Ac cc K
 hZ:eQ w0 Ag cg zz
 hg:∀ w',Bl w0 w'→w'.heap[g]?=some (.cells #[.slice Ar R.length cr,.slice Ac K.length cc,.slice Ag zz.length cg] 30 (0,0))
theorem Ctx13.c0 {Ar:Option Addr} {cr:Nat} {R:List Int} {Ac:Option Addr} {cc:Nat} {K:List Int} {Ag:Option Addr} {cg:Nat} {zz:List CsL} {g:Nat} {w0:World} (H:Ctx13 Ar cr R Ac cc K Ag cg zz g w0) {w:World} (a:Bl w0 w):w.cell? ⟨g,0,none⟩=some (.slice Ar R.length cr):=(de (H.hg w a)).1
theorem Ctx13.c1 {Ar:Option Addr} {cr:Nat} {R:List Int} {Ac:Option Addr} {cc:Nat} {K:List Int} {Ag:Option Addr} {cg:Nat} {zz:List CsL} {g:Nat} {w0:World} (H:Ctx13 Ar cr R Ac cc K Ag cg zz g w0) {w:World} (a:Bl w0 w):w.cell? ⟨g,1,none⟩=some (.slice Ac K.length cc):=(de (H.hg w a)).2.1
theorem Ctx13.c2 {Ar:Option Addr} {cr:Nat} {R:List Int} {Ac:Option Addr} {cc:Nat} {K:List Int} {Ag:Option Addr} {cg:Nat} {zz:List CsL} {g:Nat} {w0:World} (H:Ctx13 Ar cr R Ac cc K Ag cg zz g w0) {w:World} (a:Bl w0 w):w.cell? ⟨g,2,none⟩=some (.slice Ag zz.length cg):=(de (H.hg w a)).2.2.1
section
variable {Ar:Option Addr} {cr:Nat} {R:List Int} {Ac:Option Addr} {cc:Nat} {K:List Int} {Ag':Option Addr} {cg:Nat} {zz:List CsL} {g:Nat} {w0:World}
theorem Hu (H:Ctx13 Ar cr R Ac cc K Ag' cg zz g w0) (T:Array Value) (s:Nat→Value) (w3:World) (k:Nat) (h:aP T s) (m:s 11=.pointer (some ⟨g,0,none⟩)) (o:s 28=.int .i64 (k:Nat)) (p:s 29=.slice none 0 0) (G:zz.length=R.length) (D:∀ i,i<zz.length→k<(zz.getD i noCs).L.length) (A:Bl w0 w3) (J:Act→World→Prop) (Q:Exit→Act→World→Prop)
  (B:∀ T' s' w' v,aP T' s'→Ag [29,30] s s'→s' 29=v→w'.ownsRow w3.heap.size 40 2 v ((List.range R.length).map fun i=>(zz.getD i noCs).L.getD k noC).length (bw ((List.range R.length).map fun i=>(zz.getD i noCs).L.getD k noC))→Bl w3 w'→J ⟨T',[]⟩ w'):Code.wp Tryz.prog (bC 13 [1,2,1,1,1,3,4,1,0,3,1,0]) (Exit.then J Q) ⟨T,[]⟩ w3:=by
 rw [show bC 13 [1,2,1,1,1,3,4,1,0,3,1,0]=.seq (bC 13 [1,2,1,1,1,3,4,1,0,3,1,0,0]) (.block 8 (.loop (.seq (.seq (bC 13 [1,2,1,1,1,3,4,1,0,3,1,0,1,3,4,0,0]) (.cond (.tmp 194) .skip (.exit 8))) (.seq (.block 9 (bC 13 [1,2,1,1,1,3,4,1,0,3,1,0,1,3,4,1,0,3])) (bC 13 [1,2,1,1,1,3,4,1,0,3,1,0,1,3,4,1,1]))))) from rfl]
 obtain ⟨f,C⟩:∃ f:Nat→Int×Int,(fun i=>(zz.getD i noCs).L.getD k noC)=f:=⟨_,rfl⟩
 rw [C] at B;have E:=H.hR;refine wp_seq (Jr T s w3 h _ _ fun T2 r=>?_)
 refine gz R.length (fun k=>decide (k<R.length)) (by simp)
  (fun i s' w'=>Ag [29,30] s s'∧s' 30=.int .i64 (i:Nat)∧w'.ownsRow w3.heap.size 40 2 (s' 29) i (bw ((List.range i).map f))∧Bl w3 w')
  (fun i s' w'=>Ag [29,30] s s'∧s' 30=.int .i64 (i:Nat)∧w'.ownsRow w3.heap.size 40 2 (s' 29) (i+1) (bw ((List.range (i+1)).map f))∧Bl w3 w')
  ?_ ?_ ?_ r ⟨(Ag.refl _ _).up (by decide),aT _ _ _,by rw [mR _ _ (by decide),p];exact ⟨rfl,Or.inl ⟨rfl,rfl⟩⟩,zS⟩ ?_
 ·rintro i T s' w' x h ⟨d,b,l,a⟩ K' Q c
  exact Js T s' g i R.length cr Ar w' h ((d 11 (by decide)).trans m) b (H.c0 (ae A a)) _ _ c
 ·rintro i T s' w' x-h ⟨d,b,l,a⟩ K' Q c
  have n:=ae A a;obtain ⟨bz,oz,bl,ol,e,c1,c2,c3⟩:=zp (H.hZ.later n) (by omega:i<zz.length) (D i (by omega))
  have w:(zz.getD i noCs).L.getD k noC=f i:=by rw [←C]
  rw [w] at c2 c3;exact Ju T s' g bz oz zz.length cg bl ol _ _ i k w3.heap.size i (s' 29) (f i).1 (f i).2 _ w' h ((d 11 (by decide)).trans m) ((d 28 (by decide)).trans o) rfl b (by rw [←e];exact H.c2 n) c1 c2 c3 (by omega) (D i (by omega)) l a.size (by omega) _ _ fun T3 v' w4 j u t=>c T3 _ w4 j ⟨d.up (by decide),b,by rw [aT,List.range_succ,List.map_append,cellsC_append];exact u,eG a t a.size fun g F=>(l.lt g F).1⟩
 ·rintro i T s' w' x h ⟨d,b,l,a⟩ K' Q c
  exact Jt T s' i w' h b (by omega) _ _ fun T' q=>c T' _ w' q ⟨d.up (by decide),aT _ _ _,by rw [mR _ _ (by decide)];exact l,a⟩
 rintro i T3 s3 w4 x z j ⟨d,-,l,a⟩;have y:i=R.length:=by simp at z;omega
 subst y;exact B T3 s3 w4 _ j d rfl (by simpa using l) a
theorem JZ (H:Ctx13 Ar cr R Ac cc K Ag' cg zz g w0) (q:Nat) (hq:w0.heap.size≤q) (T:Array Value) (s:Nat→Value) (w:World) (y:aP T s) (n:s 11=.pointer (some ⟨g,0,none⟩)) (Lt:s 25=.int .i64 (bI R.length K.length (lZ zz))) (v:s 27=.pointer (some ⟨q,0,none⟩)) (W:Bl w0 w) (B:w.heap[q]?=some (.cells #[.slice none 0 0,.slice none 0 0,.slice none 0 0] 30 (0,0))) (J:Act→World→Prop) (Q:Exit→Act→World→Prop)
  (hJ:∀ T' s' w',aP T' s'→Ag [28,29,30] s s'→Bl w0 w'→GW w' q (uY (bI R.length K.length (lZ zz)) K) (uY (bI R.length K.length (lZ zz)) R) (CI (bI R.length K.length (lZ zz)) (lZ zz) R.length K.length)→J ⟨T',[]⟩ w'):Code.wp Tryz.prog (lp 13) (Exit.then J Q) ⟨T,[]⟩ w:=by
 rw [show lp 13=.seq (bC 13 [0]) (.cond (.tmp 176) (.seq (bC 13 [1,2,0]) (.seq (bC 13 [1,2,1,0]) (.seq (bC 13 [1,2,1,1,0]) (.block 6 (.loop (.seq (.seq (bC 13 [1,2,1,1,1,3,4,0,0]) (.cond (.tmp 187) .skip (.exit 6))) (.seq (.block 7 (.seq (bC 13 [1,2,1,1,1,3,4,1,0,3,0]) (.seq (bC 13 [1,2,1,1,1,3,4,1,0,3,1,0]) (bC 13 [1,2,1,1,1,3,4,1,0,3,1,1])))) (bC 13 [1,2,1,1,1,3,4,1,1])))))))) .skip) from rfl]
 refine wp_seq (Jk T s _ w y Lt _ _ fun T1 o Y=>?_)
 by_cases r:bI R.length K.length (lZ zz)=0
 ·rw [decide_eq_true r] at Y
  refine wp_cond_true Y ?_;obtain ⟨U,LB,-⟩:=ir r;rw [eb] at U;have M:∀ i,i<zz.length→(zz.getD i noCs).L.length=K.length:=fun i hi=>by
   rw [←kA];exact LB _ (kS (by rw [eb];exact hi))
  have hKl:=H.hK;have hql:=(zY B).1;have hs0:=W.size;have LC:∀ w',Bl w0 w'→g<w'.heap.size:=fun w' h=>(zY (H.hg w' h)).1
  have hg0:=LC w0 (zS);refine wp_seq (Jl T1 s q g _ _ _ _ _ _ _ _ _ _ w o n v B (H.hg w W) _ _ fun T2 w1 Lw hq2 Lx=>?_)
  have x:Bl w0 w1:=eG W Lx hs0 fun b I=>by rw [I];exact hq
  refine wp_seq (Jm T2 s q g _ _ _ _ _ _ _ _ _ _ w1 Lw n v hq2 (H.hg w1 x) _ _ fun T3 w2 j N Lz=>?_)
  have E:Bl w0 w2:=eG x Lz x.size fun b I=>by rw [I];exact hq
  have P:=(zY N).1;have hs2:=E.size;refine wp_seq (Jn T3 s w2 j _ _ fun T4 z=>?_)
  have m:∀ {w':World},Kept w2.heap.size (fun b=>b=q) w2 w'→Bl w0 w':=fun h=>eG E h hs2 fun b I=>by rw [I];exact hq
  refine gz K.length (fun k=>decide (k<K.length)) (by simp)
   (fun k s' w'=>Ag [28,29,30] s s'∧s' 28=.int .i64 (k:Nat)∧∃ vZ e,w'.heap[q]?=some (.cells #[.slice Ac K.length cc,.slice Ar R.length cr,vZ] 30 (0,0))∧fP w' w2.heap.size vZ e∧lZ e=ss (fun k i=>(zz.getD i noCs).L.getD k noC) k R.length∧Kept w2.heap.size (fun b=>b=q) w2 w')
   (fun k s' w'=>Ag [28,29,30] s s'∧s' 28=.int .i64 (k:Nat)∧∃ vZ e,w'.heap[q]?=some (.cells #[.slice Ac K.length cc,.slice Ar R.length cr,vZ] 30 (0,0))∧fP w' w2.heap.size vZ e∧lZ e=ss (fun k i=>(zz.getD i noCs).L.getD k noC) (k+1) R.length∧Kept w2.heap.size (fun b=>b=q) w2 w')
   ?_ ?_ ?_ z ⟨(Ag.refl _ _).up (by decide),aT _ _ _,_,[],N,fP.nil _ _,rfl,Kept.refl _ _ _⟩ ?_
  ·rintro k T s' w' Z y ⟨t,d,vZ,e,p,X,S,hK⟩ K' Q l
   exact Jo T s' g k K.length cc Ac w' y ((t 11 (by decide)).trans n) d (H.c1 (m hK)) _ _ l
  ·rintro k T s' w' Z-y ⟨t,d,vZ,e,p,X,S,hK⟩ K' Q l
   have hyl:e.length=k:=by rw [←eb,S,mN]
   refine wp_seq (Jq T s' w' y _ _ fun T1 o=>?_)
   refine wp_seq (Hu H T1 _ w' k o ((t 11 (by decide)).trans n) d (aT _ _ _) U (fun i hi=>by rw [M i hi];exact Z) (m hK) _ _ fun T3 s3 w4 vL j D Lu G f=>?_)
   have u:Ag [28,29,30] s s3:=(t.up (by decide)).trans (D.wide (by decide))
   have C:s3 28=.int .i64 (k:Nat):=(D 28 (by decide)).trans d
   have c:=hK.size;have A:=X.later f;have O:=(f.block q (by omega)).trans p
   obtain ⟨Al,cl,rfl⟩:=bG G;exact Jv T3 s3 q w2.heap.size e.length _ _ _ (jX e) Al _ cl w4 j ((u 27 (by decide)).trans v) Lu O A.1 (zV c f.size) P (by omega) _ _ fun T4 w5 vZ' z hq5 LA F=>l T4 s3 w5 z ⟨u,C,vZ',e ++ [⟨(List.range R.length).map fun i=>(zz.getD i noCs).L.getD k noC,Al,cl⟩],hq5,A.push O (kM G c) LA F,by rw [yL,S,uV],jk (hK.trans (aq f c)) (zV c f.size) (fun g hg=>(A.1.lt g hg).1) F⟩
  ·rintro k T s' w' Z y ⟨t,d,V⟩ K' Q l
   exact Jp T s' k w' y d (by omega) _ _ fun T' Lv=>l T' _ w' Lv ⟨t.up (by decide),aT _ _ _,V⟩
  rintro k T3 s3 w3 Z hkf j ⟨t,-,vZ,e,p,X,S,hK⟩;have hke:k=K.length:=by simp at hkf;omega
  subst hke;obtain ⟨Ay,cy,rfl,hV⟩:=X.css;refine hJ T3 s3 w3 j t (m hK) ?_;unfold uY CI;rw [if_pos r,if_pos r,if_pos r];refine ⟨Ac,cc,Ar,cr,Ay,cy,e,p,H.hPk.later (m hK),H.hPr.later (m hK),hV,?_⟩;rw [S];unfold K4
  congr 1
  funext a b
  rw [kA]
 rw [decide_eq_false r] at Y;refine wp_cond_false Y (wp_skip ?_);refine hJ T1 s w o (Ag.refl _ _) W ?_;unfold uY CI;rw [if_neg r,if_neg r,if_neg r];exact GW.nil B
end
def fB (E:Int) (R:List Int) (m k:Nat):Int:=if E=0 then (if (R.take k).any (aH m)=true then 1 else 0) else E
theorem qJ (E:Int) (R:List Int) (m:Nat):fB E R m 0=E:=by
 unfold fB
 split
 ·rename_i h;simp [h]
 rfl
theorem qI {E:Int} {R:List Int} {m k:Nat} (c:k<R.length) (h:fB E R m k=0):(if aH m (R.getD k 0)=true then 1 else fB E R m k)=fB E R m (k+1):=by
 unfold fB at h ⊢
 by_cases a:E=0
 ·rw [if_pos a] at h ⊢
  rw [if_pos a];have d:(R.take (k+1)).any (aH m)=((R.take k).any (aH m) || aH m (R.getD k 0)):=by
   rw [List.take_add_one,List.any_append]
   congr 1
   simp [zX c,List.getD]
  have b:(R.take k).any (aH m)=false:=by
   cases hx:(R.take k).any (aH m)
   ·rfl
   rw [hx] at h;simp at h
  rw [d,b]
  simp
 rw [if_neg a] at h;exact absurd h a
theorem qH {E:Int} {R:List Int} {m k:Nat} (g:k≤R.length) (h:(decide (k<R.length) && decide (fB E R m k=0))=false):fB E R m k=if E=0 then (if R.any (aH m)=true then 1 else 0) else E:=by
 by_cases f:k<R.length
 ·have a:fB E R m k≠0:=by simpa [f] using h
  unfold fB at a ⊢
  by_cases b:E=0
  ·rw [if_pos b] at a ⊢
   rw [if_pos b];have c:(R.take k).any (aH m)=true:=by
    cases hx:(R.take k).any (aH m)
    ·rw [hx] at a;simp at a
    rfl
   have:R.any (aH m)=true:=by
    obtain ⟨x,d,e⟩:=List.any_eq_true.1 c;exact List.any_eq_true.2 ⟨x,List.mem_of_mem_take d,e⟩
   rw [c,this]
  rw [if_neg b,if_neg b]
 have:k=R.length:=by omega
 rw [this];unfold fB;rw [List.take_length]
section
variable {Ar:Option Addr} {cr:Nat} {R:List Int} {Ac:Option Addr} {cc:Nat} {K:List Int} {Ag':Option Addr} {cg:Nat} {zz:List CsL} {g:Nat} {w0:World}
theorem J0 (H:Ctx13 Ar cr R Ac cc K Ag' cg zz g w0) (A0:Option Addr) (cap n:Nat) (D:Nat→Dm) (A:Nat→Option Addr) (C:Nat→Nat) (b:Nat) (x E:Int) (Z:bd w0 A0 cap n D A C) (hc:∀ w',Bl w0 w'→w'.cell? ⟨b,0,none⟩=some (.slice A0 n cap)) (M:E=0→aH n x=false) (T:Array Value) (s:Nat→Value) (w:World) (j:aP T s) (hd:s 3=.int .i64 x) (W:s 6=.pointer (some ⟨b,0,none⟩)) (p:s 11=.pointer (some ⟨g,0,none⟩)) (a:s 13=.int .i64 E) (P:Bl w0 w) (J:Act→World→Prop) (Q:Exit→Act→World→Prop)
  (Y:∀ T' s' w',aP T' s'→Ag [13,34] s s'→s' 13=.int .i64 (if E=0 then (if R.any (aH (D x.toNat).n)=true then 1 else 0) else E)→Bl w w'→J ⟨T',[]⟩ w'):Code.wp Tryz.prog (lp 20) (Exit.then J Q) ⟨T,[]⟩ w:=by
 rw [show lp 20=.seq (bC 20 [0]) (.block 10 (.loop (.seq (.seq (bC 20 [1,3,4,0,0]) (.cond (.tmp 262) .skip (.exit 10))) (.seq (.block 11 (bC 20 [1,3,4,1,0,3])) (bC 20 [1,3,4,1,1]))))) from rfl]
 have Lt:=H.hR;refine wp_seq (Jx T s w j _ _ fun T2 G=>?_)
 refine gz R.length (fun k=>decide (k<R.length) && decide (fB E R (D x.toNat).n k=0)) (by simp)
  (fun k s' w'=>Ag [13,34] s s'∧s' 13=.int .i64 (fB E R (D x.toNat).n k)∧s' 34=.int .i64 (k:Nat)∧Bl w w')
  (fun k s' w'=>Ag [13,34] s s'∧s' 13=.int .i64 (fB E R (D x.toNat).n (k+1))∧s' 34=.int .i64 (k:Nat)∧Bl w w')
  ?_ ?_ ?_ G ⟨(Ag.refl _ _).up (by decide),by rw [qJ];exact a,aT _ _ _,zS⟩ ?_
 ·rintro k T s' w' i j ⟨f,a,o,c⟩ K' Q e
  exact Jy T s' g k R.length cr Ar _ w' j ((f 11 (by decide)).trans p) a o (H.c0 (ae P c)) _ _ e
 ·rintro k T s' w' i y j ⟨f,a,o,c⟩ K' Q e
  have h:=ae P c;have z:fB E R (D x.toNat).n k=0:=by
   simp only [Bool.and_eq_true,decide_eq_true_eq] at y;exact y.2
  have B:E=0:=by
   unfold fB at z
   by_cases B:E=0
   ·exact B
   rw [if_neg B] at z;exact z
  obtain ⟨kc,u,v⟩:=eL (M B);obtain ⟨-,V | ⟨d,od,S,X⟩⟩:=Z.later h
  ·omega
  obtain ⟨-,F | ⟨br,ob,U,-,m⟩⟩:=H.hPr.later h
  ·rw [F] at i;simp at i
  have O:x.toNat=kc:=by rw [u];simp
  have t:=(X.2 kc v).2.2.1;have q:=hc w' h;rw [S] at q;have r:=H.c0 h;rw [U] at r;exact JA T s' g b d od n cap kc (D kc).n (C kc) br ob R.length cr k (A kc) (R.getD k 0) (fB E R (D x.toNat).n k) (fB E R (D x.toNat).n (k+1)) w' j ((f 3 (by decide)).trans (by rw [hd,u])) ((f 6 (by decide)).trans W) ((f 11 (by decide)).trans p) a o q t v r (m k i) i (by rw [←qI i z,O]) _ _ fun T' w2 l L=>e T' _ w2 l ⟨f.up (by decide),aT _ _ _,o,ae c L⟩
 ·rintro k T s' w' i j ⟨f,a,o,c⟩ K' Q e
  exact Jz T s' k w' j o (by omega) _ _ fun T' l=>e T' _ w' l ⟨f.up (by decide),a,aT _ _ _,c⟩
 rintro k T3 s3 w3 i N I ⟨f,a,-,c⟩;exact Y T3 s3 w3 I f (by rw [a,qH i N]) c
theorem J1 (H:Ctx13 Ar cr R Ac cc K Ag' cg zz g w0) (A0:Option Addr) (cap n:Nat) (D:Nat→Dm) (A:Nat→Option Addr) (C:Nat→Nat) (b:Nat) (x E:Int) (Z:bd w0 A0 cap n D A C) (hc:∀ w',Bl w0 w'→w'.cell? ⟨b,0,none⟩=some (.slice A0 n cap)) (M:E=0→aH n x=false) (T:Array Value) (s:Nat→Value) (w:World) (j:aP T s) (hd:s 4=.int .i64 x) (W:s 6=.pointer (some ⟨b,0,none⟩)) (p:s 11=.pointer (some ⟨g,0,none⟩)) (a:s 13=.int .i64 E) (P:Bl w0 w) (J:Act→World→Prop) (Q:Exit→Act→World→Prop)
  (Y:∀ T' s' w',aP T' s'→Ag [13,35] s s'→s' 13=.int .i64 (if E=0 then (if K.any (aH (D x.toNat).n)=true then 1 else 0) else E)→Bl w w'→J ⟨T',[]⟩ w'):Code.wp Tryz.prog (lp 21) (Exit.then J Q) ⟨T,[]⟩ w:=by
 rw [show lp 21=.seq (bC 21 [0]) (.block 12 (.loop (.seq (.seq (bC 21 [1,3,4,0,0]) (.cond (.tmp 294) .skip (.exit 12))) (.seq (.block 13 (bC 21 [1,3,4,1,0,3])) (bC 21 [1,3,4,1,1]))))) from rfl]
 have Lt:=H.hK;refine wp_seq (JB T s w j _ _ fun T2 G=>?_)
 refine gz K.length (fun k=>decide (k<K.length) && decide (fB E K (D x.toNat).n k=0)) (by simp)
  (fun k s' w'=>Ag [13,35] s s'∧s' 13=.int .i64 (fB E K (D x.toNat).n k)∧s' 35=.int .i64 (k:Nat)∧Bl w w')
  (fun k s' w'=>Ag [13,35] s s'∧s' 13=.int .i64 (fB E K (D x.toNat).n (k+1))∧s' 35=.int .i64 (k:Nat)∧Bl w w')
  ?_ ?_ ?_ G ⟨(Ag.refl _ _).up (by decide),by rw [qJ];exact a,aT _ _ _,zS⟩ ?_
 ·rintro k T s' w' i j ⟨f,a,o,c⟩ K' Q e
  exact JC T s' g k K.length cc Ac _ w' j ((f 11 (by decide)).trans p) a o (H.c1 (ae P c)) _ _ e
 ·rintro k T s' w' i y j ⟨f,a,o,c⟩ K' Q e
  have h:=ae P c;have z:fB E K (D x.toNat).n k=0:=by
   simp only [Bool.and_eq_true,decide_eq_true_eq] at y;exact y.2
  have B:E=0:=by
   unfold fB at z
   by_cases B:E=0
   ·exact B
   rw [if_neg B] at z;exact z
  obtain ⟨kc,u,v⟩:=eL (M B);obtain ⟨-,V | ⟨d,od,S,X⟩⟩:=Z.later h
  ·omega
  obtain ⟨-,F | ⟨br,ob,U,-,m⟩⟩:=H.hPk.later h
  ·rw [F] at i;simp at i
  have O:x.toNat=kc:=by rw [u];simp
  have t:=(X.2 kc v).2.2.1;have q:=hc w' h;rw [S] at q;have r:=H.c1 h;rw [U] at r;exact JE T s' g b d od n cap kc (D kc).n (C kc) br ob K.length cc k (A kc) (K.getD k 0) (fB E K (D x.toNat).n k) (fB E K (D x.toNat).n (k+1)) w' j ((f 4 (by decide)).trans (by rw [hd,u])) ((f 6 (by decide)).trans W) ((f 11 (by decide)).trans p) a o q t v r (m k i) i (by rw [←qI i z,O]) _ _ fun T' w2 l L=>e T' _ w2 l ⟨f.up (by decide),aT _ _ _,o,ae c L⟩
 ·rintro k T s' w' i j ⟨f,a,o,c⟩ K' Q e
  exact JD T s' k w' j o (by omega) _ _ fun T' l=>e T' _ w' l ⟨f.up (by decide),a,aT _ _ _,c⟩
 rintro k T3 s3 w3 i N I ⟨f,a,-,c⟩;exact Y T3 s3 w3 I f (by rw [a,qH i N]) c
end
end Go.Proofs.YthlhjjabkgpenaaGreatDoor
