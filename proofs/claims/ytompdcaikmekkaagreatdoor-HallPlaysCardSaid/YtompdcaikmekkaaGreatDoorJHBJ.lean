/-
  What is told of who hangs on whom (plain): what is wrong, and the lists, none where something is wrong. Lists of places as an argument brings them.
-/
import Derived.Test.YtompdcaikmekkaaGreatDoorJHBH
import Derived.Test.YtompdcaikmekkaaGreatDoorJHBI
namespace Go.Proofs.YtompdcaikmekkaaGreatDoor
open Go.ChangeShapes Go.WideShapes Go.ChangeAt Go.RowKit
def shTo (D:Nat→Dm) (n:Nat):List (List Int)→Int
 | []=>0
 | q :: r=>if shapeErr D n q≠0 then shapeErr D n q else shTo D n r
def wI (D:Nat→Dm) (n:Nat) (Q:List (List Int)):Int:=if shTo D n Q≠0 then shTo D n Q else if Q.any (fun q => !leafV D n q)=true then 6 else 0
noncomputable def vT (D:Nat→Dm) (n:Nat) (Q:List (List Int)):Int:=if (aP D n).2.2≠0 then (aP D n).2.2 else wI D n Q
def kR (D:Nat→Dm) (n:Nat) (Q:List (List Int)):List Int:=Q.map fun q=>numI D q n
noncomputable def DI (D:Nat→Dm) (n:Nat) (Q:List (List Int)):List Int:=if vT D n Q=0 then drtL D n (kR D n Q) else []
theorem gf {D:Nat→Dm} {n:Nat} {p:List Int} (h:(am D n).2.2=0):placeErr D n p=shapeErr D n p:=by unfold placeErr;rw [if_neg (by simpa using h)]
theorem pP {D:Nat→Dm} {n:Nat} (h:(am D n).2.2=0) (f:Nat→Bool):(selTo f (prodN D n)).length≤3000:=by
 obtain ⟨-,-,a,-⟩:=au h;exact zV (cF _ _) a
def rT (w:World) (A:Option Addr) (cap:Nat) (xs:List PL):Prop:=xs.length≤cap∧(xs=[]∨∃ b o,A=some ⟨b,o,none⟩∧b<w.heap.size∧∀ k,k<xs.length→w.cell? ⟨b,o+k,none⟩=some (.slice (xs.getD k ms).A (xs.getD k ms).p.length (xs.getD k ms).c))∧∀ x∈xs,a7 w x.A x.c x.p
theorem rT.later {w w':World} {A:Option Addr} {cap:Nat} {xs:List PL} (h:rT w A cap xs) (c:Bl w w'):rT w' A cap xs:=by
 obtain ⟨d,a,e⟩:=h;refine ⟨d,?_,fun x g=>(e x g).later c⟩
 rcases a with a | ⟨b,o,a,h4,h5⟩
 ·exact Or.inl a
 exact Or.inr ⟨b,o,a,zW h4 c.size,fun k f=>aD c h4 (h5 k f)⟩
section
variable {D:Nat→Dm} {n:Nat}
theorem Dp (p:dH D n) (w:(am D n).2.2=0) {inp inp':List Int→Int×Int} {m:Nat} (q:∀ i:Nat,i<prodN D n→i≠m→inp (aj D n i)=inp' (aj D n i)):∀ (k i:Nat),i<prodN D n→msrTo D (aj D n i) n<k→¬ Ndd D n i m→ey D n inp (aj D n i)=ey D n inp' (aj D n i):=by
 intro k
 induction k with
 | zero=>intro i _ h;omega
 | succ k ih =>
  intro i hi B v;have a:InO D n (aj D n i):=bY w
  rcases by_in D (aj D n i) n with h | ⟨b,hb,hbn⟩
  ·rw [fO _ (by omega),fO _ (by omega)]
   exact q i hi fun e=>v (e ▸ .refl _)
  rw [pV p inp a hb,pV p inp' a hb];have s:=a.lo b hbn;have A:=a.hi b hbn;have g:=p b hbn;obtain ⟨y,z,-,-⟩:=bH g;refine iC y (z _ (by omega)) fun x t=>?_
  have o:=em t;have c:=gN a hbn o.1 o.2;have d:=ba c (Nat.le_refl n);obtain ⟨j,u⟩:∃ j:Nat,numI D ((aj D n i).set b x) n=(j:Int):=⟨(numI D ((aj D n i).set b x) n).toNat,by have:=d.1;omega⟩
  have f:=gj c;rw [u,Int.toNat_natCast] at f;have l:=lv g (i:=((aj D n i).getD b 0).toNat) (by omega) t
  rw [Int.toNat_of_nonneg s] at l;have r:=(jq (by rw [a.len];exact hbn) l n).2 hbn
  rw [←f] at r ⊢;exact ih j (by have:=d.2.1;omega) (by omega) fun h=>v (.step ⟨b,hb,x,t,u.symm⟩ h)
end
end Go.Proofs.YtompdcaikmekkaaGreatDoor
namespace Go.Proofs.YtompdcaikmekkaaGreatDoor
open Go.ChangeShapes Go.WideShapes Go.ChangeAt Go.RowKit
set_option maxRecDepth 20000
theorem Ik {p:Nat→Bool} {N m:Nat} (a:m<N):(m:Int)∈selTo p N↔p m=true :=
 ⟨fun h=>by obtain ⟨j,c,-,b⟩:=cQ _ h;have e:m=j:=(by omega);rw [e];exact b,fun h=>jO a h⟩
end Go.Proofs.YtompdcaikmekkaaGreatDoor
namespace Go.Proofs.YtompdcaikmekkaaGreatDoor
open Go.ChangeShapes Go.WideShapes Go.ChangeAt Go.RowKit
open Go.Sort (putRow Holds grow holds_putRow)
set_option maxRecDepth 20000
theorem wY (w:World) (os:Array Obj):Bl w (grow w os):=⟨rfl,rfl,rfl,by simp,fun k a=>Sort.heap_grow_old _ _ a⟩
theorem yL {w:World} {base g n cap q:Nat} {zs ys:List Int} {os:Array Obj} (h:w.ownsRow base 3 1 (.slice (some ⟨g,0,none⟩) n cap) n (aF zs)) (b:ys.length=n):(grow (putRow (Value.int .i64) (Sort.ahead w q) g 0 ys.toArray) os).ownsRow base 3 1 (.slice (some ⟨g,0,none⟩) n cap) n (aF ys):=by
 have a:=Lib.ownsRow_putRow (enc:=Value.int .i64) (q:=q) (zs:=zs) (ys:=ys) (k:=n) h b (zT);rw [List.take_of_length_le (by omega)] at a
 exact ao a (wY _ _)
theorem pW {w:World} {g n b:Nat} {d:Array Int} {os:Array Obj} (a:b<w.heap.size) (c:b≠g):(grow (putRow (Value.int .i64) (Sort.ahead w n) g 0 d) os).heap[b]?=w.heap[b]?:=by
 rw [Sort.heap_grow_old _ _ (by simpa using a),vj c]
 rfl
theorem Jj {L:List Int} (h:L.Nodup):(L.mergeSort fun a b=>decide (a≤b)).Pairwise (· < ·):=by
 have c:List.Pairwise (fun a b=>a≠b) (L.mergeSort fun a b=>decide (a≤b)):=(List.mergeSort_perm _ _).symm.pairwise h fun {a b} h e=>h e.symm
 exact ((lA _).and c).imp fun h=>by omega
def RK (w:World) (W0:World) (bS bF bM N:Nat) (nx:Nat→List Int) (S:List Int) (k:Nat) (v:Value) (L:List Int):Prop:=RS w W0.heap.size bS bF bM v L∧ReI nx S L k∧k≤L.length∧zk N L∧Bl W0 w
theorem xI (F:Nat) (fa cp:Array Value) (nx:Nat→List Int) (N:Nat) (hent:∀ (args:Array Value) (w:World),(callFunc F args).run Tryz.prog w=.ok (.enter F args) w) (A:Option Addr) (c:Nat) (S:List Int) (w:World) (hN:N≤3000) (KL:S.length≤3000) (hS:aR w A c S) (KK:zk N S) (KR:∀ y,y<N→zk N (nx y)) (KS:∀ y,y<N→(nx y).length≤3000)
  (hF:∀ (y:Nat) (w':World),y<N→Bl w w'→Calls Tryz.prog F (fa ++ #[.int .i64 y] ++ cp) w' fun e w''=>(∃ A' i,e=.returned (.tuple #[.slice A' (nx y).length i,.nilIface])∧aR w'' A' i (nx y)∧∀ a,A'=some a→a.block<w.heap.size∨w'.heap.size≤a.block)∧Bl w' w'') :
  Calls Tryz.prog 97 #[.slice A S.length c,.func (.func F) fa cp] w fun e w'=>(∃ v L,e=.returned (.tuple #[v,.nilIface])∧w'.ownsRow w.heap.size 3 1 v L.length (aF L)∧L.Pairwise (· < ·)∧∀ z,z∈L↔Rea nx S z)∧Bl w w':=by
 have hmm := @run_makeMap Tryz.prog;have G:=RS.made w;obtain ⟨W,hW⟩:=aA (((w.alloc (.cells #[.slice none 0 0] 26)).alloc (.map #[] 0)).alloc (.cells #[.map (some (w.heap.size+1))] 219));have P:Bl w W:=by rw [←hW];go_grown
 rw [hW] at G;rw [show w.heap.size+2=w.heap.size+1+1 from rfl] at G
 have Q:=uA w (w.heap.size+1+1) w.heap.size (w.heap.size+1) N (.slice none 0 0) [] A c S W hN KL KK ⟨G,List.prefix_refl _,List.nodup_nil,fun z hz=>(by cases hz),fun z=>(by simp),hS.later P,fun a ha e=>(by cases e),P⟩
 have HMt:Hid (∀ v L A' i T w',T.length≤3000→zk N T→RM w' w (w.heap.size+1+1) w.heap.size (w.heap.size+1) N L A' i T 0 v L→Calls Tryz.prog 131 #[.slice A' T.length i,.pointer (some ⟨w.heap.size+1+1,0,none⟩),.pointer (some ⟨w.heap.size,0,none⟩)] w' fun e w''=>e=.returned (.tuple #[])∧∃ v' L',RM w'' w (w.heap.size+1+1) w.heap.size (w.heap.size+1) N L A' i T T.length v' L'):=fun v L A' i T w' Z h2 h3=>uA w _ _ _ N v L A' i T w' hN Z h2 h3
 have HXi:=aa KR;have HXl:=aa KS;have HF:=aa hF;have HN3:=aa hN;obtain ⟨sl,U⟩:=aA S.length;have HSl:=aa U;rw [U] at Q ⊢;have hem:=EE;clear G P hF KR KS hS KK U KL
 go_enter Tryz.func97,Tryz.ntmps97
 go_wp2_with fail;refine Q.mono ?_;rintro e w1 ⟨rfl,v1,L1,KH⟩;have HK1:Hid (∃ v L,RK w1 w (w.heap.size+1+1) w.heap.size (w.heap.size+1) N nx S 0 v L):=by
  obtain ⟨r1,r2,r3,r4,r5,r6,r7,r8⟩:=KH;refine ⟨v1,L1,r1,ReI.first r3 fun z=>?_,zU,r4,r8⟩
  rw [r5 z,←HSl.out,List.take_length]
 clear KH Q hW;go_wp2_with fail
 go_loopg [9] N (fun gg s9 wr => ∃ (k:Nat),k≤N∧gg=N-k∧s9=.int .i64 k∧Hid (∃ v L,RK wr w (w.heap.size+1+1) w.heap.size (w.heap.size+1) N nx S k v L))
 case atStart=>exact ⟨0,zU,rfl,rfl,HK1⟩
 case round =>
  obtain ⟨k,hk,rfl,rfl,HK⟩:=hrel;obtain ⟨v,L,KJ⟩:=HK.out;have HR:=aa KJ;obtain ⟨f,o,hkL,r,m⟩:=KJ;obtain ⟨c0,c1,f1,hbs,KN⟩:=f.cells;have hLN:=zN r o.nd;obtain ⟨AO,u,hv⟩:∃ AO u,v=.slice AO L.length u:=by
   rcases f.own.2 with ⟨Z,h2⟩ | ⟨g,cap,cur,Z,-⟩
   ·exact ⟨none,0,by rw [Z,h2]⟩
   exact ⟨_,_,Z⟩
  subst hv;obtain ⟨ln,KP⟩:=aA L.length;have j:=aa KP;rw [KP] at c1 hkL hLN;have hlnI:(ln:Int)≤3000:=by omega
  by_cases hlt:k<ln
  ·have hki:(k:Int)<(ln:Int):=by omega
   have s:k<L.length:=by rw [j.out];exact hlt
   obtain ⟨y,hy,Y⟩:=r _ (gi s);obtain ⟨A1,c1',e1,hI1⟩:=bP f.own;cases e1;obtain ⟨hcS,-,hS0 | ⟨bt,cs,fr,rfl,KM,KO⟩⟩:=hI1
   ·rw [hS0] at s;simp at s
   have cx:=KO k s;have hbt:bt<wr.heap.size:=(zY KM).1;rw [j.out] at hcS;rw [hy] at cx;have hcSI:(ln:Int)≤(u:Int):=by omega
   have hf:=HF.out y wr Y m;have X:=HXl.out y Y;obtain ⟨T,hT⟩:=aA (nx y);rw [hT] at hf X;have HT:=aa hT;have M:Hid (∀ A' i w3,Bl wr w3→aR w3 A' i T→(∀ a,A'=some a→a.block<w.heap.size∨wr.heap.size≤a.block)→RM w3 w (w.heap.size+1+1) w.heap.size (w.heap.size+1) N L A' i T 0 (.slice (some ⟨bt,0,none⟩) L.length u) L):=fun A' i w3 q E C=>by
    obtain ⟨g1,g2,g3,g4,g5⟩:=HR.out;refine ⟨g1.later q,List.prefix_refl _,g2.nd,g4,fun z=>by simp,E,fun a ha e=>?_,ae g5 q⟩
    have Z:=bO g1.own e
    rcases C a ha with h | h
    ·omega
    omega
   have I:Hid (∀ A' i w4 v' L',RM w4 w (w.heap.size+1+1) w.heap.size (w.heap.size+1) N L A' i T T.length v' L'→∃ v L,RK w4 w (w.heap.size+1+1) w.heap.size (w.heap.size+1) N nx S (k+1) v L):=fun A' i w4 v' L' h=>by
    obtain ⟨r1,r2,r3,r4,r5,r6,r7,r8⟩:=h;obtain ⟨g1,g2,g3,g4,g5⟩:=HR.out;refine ⟨v',L',r1,g2.next s hy r2 r3 fun z=>?_,?_,r4,r8⟩
    ·rw [r5 z,List.take_length,HT.out]
    have:=r2.length_le
    omega
   have HTi:Hid (zk N T):=by rw [←hT];exact HXi.out y Y
   obtain ⟨tl,V⟩:=aA T.length;have O:=aa V;rw [V] at hf X;have hty:(y:Int)<3000:=by have:=HN3.out;omega
   clear f o r m KO KM hy hT V f1;go_wp2_with fail;refine hf.mono ?_;rintro e w3 ⟨⟨A',i,rfl,E,C⟩,q⟩;have R:=HMt.out _ L A' i T w3 (by rw [O.out];exact X) HTi.out (M.out A' i w3 q E C)
   rw [O.out] at R;clear hf E C q;go_wp2_with fail;refine R.mono ?_;rintro e w4 ⟨rfl,v',L',KI⟩;have HK4:=aa (I.out A' i w4 v' L' (by rw [O.out];exact KI))
   clear R KI;go_wp2_with fail
   go_roundg (N-(k+1))
   case measure=>omega
   case rel=>exact ⟨k+1,by omega,rfl,by go_num,HK4⟩
  have hke:k=ln:=by omega
  subst hke;have H:Hid (∀ z,z∈L↔Rea nx S z):=by
   have h:=o;rw [←j.out] at h;exact h.all
  have J:Hid ((L.mergeSort fun a b=>decide (a≤b)).Pairwise (· < ·)):=Jj o.nd
  have K:Hid (∀ z,z∈(L.mergeSort fun a b=>decide (a≤b))↔z∈L):=fun z=>(List.mergeSort_perm _ _).mem_iff
  have B:Hid ((L.mergeSort fun a b=>decide (a≤b)).length=k):=by show _=_;rw [List.length_mergeSort];exact j.out
  by_cases hz:Value.slice AO k u=.slice none 0 0
  ·cases hz
   have p:=Any.slices_Sort_int_none Tryz.lays189 none 0 wr;have HZ0:Hid ((L.mergeSort fun a b=>decide (a≤b))=[]):=List.eq_nil_of_length_eq_zero B.out
   have HBw:=aa m;clear f o r m f1;go_wp2_with fail;refine Calls.mono p ?_;rintro e w4 ⟨rfl,rfl⟩;go_wp2_with fail;go_returns;refine ⟨⟨_,L.mergeSort fun a b=>decide (a≤b),rfl,by rw [HZ0.out];exact World.ownsRow_nil _ _ _ _,J.out,fun z=>(K.out z).trans (H.out z)⟩,HBw.out⟩
  have hO:=f.own;rw [j.out] at hO;obtain ⟨gg,cc,hv2,hgb,hgl,hnc,hcm,-,hH⟩:=Lib.holds_of_ownsRow (enc:=Value.int .i64) (zs:=L) hO hz;cases hv2;have p:=Any.slices_Sort_int Tryz.lays189 gg 0 u L wr hH hgl (by have:=j.out;omega)
  rw [j.out] at p;obtain ⟨ys,KU⟩:=aA ((L.mergeSort fun x y=>decide (x≤y)))
  rw [KU] at p J K B;have KQ:w.heap.size≠gg:=fun e=>(f.ne.2.2.2 gg rfl).2.1 e.symm
  have HOs:Hid (∀ l os,(grow (putRow (Value.int .i64) (Sort.ahead wr l) gg 0 ys.toArray) os).ownsRow w.heap.size 3 1 (.slice (some ⟨gg,0,none⟩) k u) k (aF ys)):=fun l os=>yL hO B.out
  have KG:Hid (∀ l os,(grow (putRow (Value.int .i64) (Sort.ahead wr l) gg 0 ys.toArray) os).cell? ⟨w.heap.size,0,none⟩=some (.slice (some ⟨gg,0,none⟩) k u)∧w.heap.size<(grow (putRow (Value.int .i64) (Sort.ahead wr l) gg 0 ys.toArray) os).heap.size):=fun l os=>by
   have h:=(World.cell?_of_block (a:=⟨w.heap.size,0,none⟩) (pW (w:=wr) (n:=l) (d:=ys.toArray) (os:=os) KN KQ)).trans f.cells.2.1;rw [j.out] at h;exact ⟨h,(zY ((pW (w:=wr) (n:=l) (d:=ys.toArray) (os:=os) KN KQ).trans f.hF)).1⟩
  have HBs:Hid (∀ l os,Bl w (grow (putRow (Value.int .i64) (Sort.ahead wr l) gg 0 ys.toArray) os)):=fun l os=>ik m hgb
  clear f o r m hO hH KU f1;go_wp2_with fail;refine Calls.mono p ?_;rintro e w4 ⟨rfl,l,os,t⟩;have HO4:Hid (w4.ownsRow w.heap.size 3 1 (.slice (some ⟨gg,0,none⟩) k u) k (aF ys)):=by rw [t];exact HOs.out l os
  have HB4:Hid (Bl w w4):=by rw [t];exact HBs.out l os
  have c4:w4.cell? ⟨w.heap.size,0,none⟩=some (.slice (some ⟨gg,0,none⟩) k u):=by rw [t];exact (KG.out l os).1
  have hs4:w.heap.size<w4.heap.size:=by rw [t];exact (KG.out l os).2
  clear t p c0 c1;go_wp2_with fail;go_returns;exact ⟨⟨_,ys,rfl,by rw [B.out];exact HO4.out,J.out,fun z=>(K.out z).trans (H.out z)⟩,HB4.out⟩
end Go.Proofs.YtompdcaikmekkaaGreatDoor
namespace Go.Proofs.YtompdcaikmekkaaGreatDoor
open Go.ChangeShapes Go.WideShapes Go.ChangeAt Go.RowKit
set_option maxRecDepth 20000
section
variable {D:Nat→Dm} {n:Nat}
theorem Ii (b:dH D n) (a:(am D n).2.2=0) (y:Nat) (c:y<prodN D n):zk (prodN D n) ((rowsL D n).getD y []):=fun z d=>by
 have:=ff b a y (by rw [bL];exact c) z d
 rw [bL] at this;exact ⟨z.toNat,by omega,by omega⟩
end
theorem yD {a b:List Int} (e:a.length=b.length) {k:Nat} (f:a.length≤k) (h:∀ j,j<k→a.getD j 0=b.getD j 0):a=b:=by
 apply List.ext_getElem e;intro i c d;have:=h i (by omega)
 simpa [List.getD,c,d] using this
theorem yC (A B:Option Addr) (M N:Nat) (a b:List Int) (w:World) (R:a.length≤4) (O:a7 w A M a) (P:a7 w B N b):Rt 31 #[.slice A a.length M,.slice B b.length N] w (.bool (decide (a=b))):=by
 by_cases p:a.length=b.length
 ·obtain ⟨U,F | ⟨g,o,rfl,G,i⟩⟩:=O
  ·subst F
   have s:b=[]:=List.eq_nil_of_length_eq_zero p.symm;subst s;simp only [List.length_nil]
   go_enter Tryz.func31,Tryz.ntmps31
   go_wp2_with fail;refine wp_loop_rounds 1 ?_;rw [rounds_succ];go_wp2_with fail;go_ret;exact ⟨rfl,zS⟩
  obtain ⟨u,F | ⟨g',o',rfl,t,c⟩⟩:=P
  ·subst F
   have s:a=[]:=List.eq_nil_of_length_eq_zero p;subst s;simp only [List.length_nil]
   go_enter Tryz.func31,Tryz.ntmps31
   go_wp2_with fail;refine wp_loop_rounds 1 ?_;rw [rounds_succ];go_wp2_with fail;go_ret;exact ⟨rfl,zS⟩
  have J:=aa i;have r:Hid (∀ j,j<a.length→w.cell? ⟨g',o'+j,none⟩=some (.int .i64 (b.getD j 0))):=fun j z=>c j (by omega)
  have C:Hid (∀ k,a.length≤k→(∀ j,j<k→a.getD j 0=b.getD j 0)→decide (a=b)=true):=fun k Q h=>decide_eq_true (yD p Q h)
  have K:Hid (∀ k,a.getD k 0≠b.getD k 0→decide (a=b)=false):=fun k h=>decide_eq_false fun e=>h (by rw [e])
  rw [←p];rw [←p] at u;generalize hnn:a.length=n at R U u J r C;generalize decide (a=b)=res at C K;clear i c hnn p;have W:(n:Int)≤4:=by omega
  go_enter Tryz.func31,Tryz.ntmps31
  go_wp2_with fail
  go_loopg [5] n (fun gg s5 wr => ∃ (k:Nat),k≤n∧gg=n-k∧s5=.int .i64 k∧(∀ j,j<k→a.getD j 0=b.getD j 0)∧Bl w wr)
  case atStart=>exact ⟨0,zU,rfl,rfl,fun j z=>absurd z (Nat.not_lt_zero _),zS⟩
  case round =>
   obtain ⟨k,Q,rfl,rfl,l,d⟩:=hrel;have q:=aa d;have L:=aa l;clear l
   by_cases v:k<n
   ·have V:(k:Int)<(n:Int):=by omega
    have T:=aD d G (J.out k v);have I:=aD d t (r.out k v)
    by_cases f:a.getD k 0=b.getD k 0
    ·have E:=aa f
     rw [←f] at I;generalize a.getD k 0=x at T I;clear d f;go_wp2_with fail
     go_quiet (fail)
     go_wp2_with fail
     go_roundg (n-(k+1))
     case measure=>omega
     case rel =>
      refine ⟨k+1,by omega,rfl,by go_num,fun j z=>?_,ac q.out _⟩
      rcases Nat.lt_succ_iff_lt_or_eq.1 z with s | rfl
      ·exact L.out j s
      exact E.out
    have D:=aa (K.out k f);generalize a.getD k 0=x at T f;generalize b.getD k 0=y at I f;clear d;go_wp2_with fail
    go_quiet (fail)
    go_wp2_with fail;go_ret;rw [D.out];exact ⟨rfl,ac q.out _⟩
   have H:k=n:=by omega
   subst H;have D:Hid (res=true):=C.out k (zT) L.out;go_wp2_with fail;go_ret;rw [D.out];exact ⟨rfl,d⟩
 have S:decide (a=b)=false:=decide_eq_false fun e=>p (by rw [e])
 rw [S];have hl' : ¬ ((a.length:Int)=(b.length:Int)):=by omega
 clear O P S;generalize a.length=n at p hl' R;generalize b.length=m at p hl'
 go_enter Tryz.func31,Tryz.ntmps31
 go_wp2_with fail;go_ret;exact ⟨rfl,zS⟩
theorem Cu {w w1:World} {A0:Option Addr} {n cap:Nat} (a:Below (ay w A0 n cap 24).heap.size (ay w A0 n cap 24) w1):w1.cell? ⟨w.heap.size,0,none⟩=some (.slice A0 n cap)∧w.heap.size<w1.heap.size:=by
 have b:=aw w A0 n cap 24;exact ⟨aD a (by show w.heap.size<_;omega) (aI ..),by have:=a.size;omega⟩
theorem yQ (A0:Option Addr) (cap n:Nat) (D:Nat→Dm) (A:Nat→Option Addr) (C:Nat→Nat) (Ae:Option Addr) (m:Nat) (xs:List EnL) (Ap:Option Addr) (k:Nat) (L:List Int) (vc:Value) (w:World) (u:InO D n L) (x:aY w A0 cap n D A C) (r:a7 w Ap k L) (z:xs.length≤3000) (t:b6 w Ae m xs) (y:mK xs L) (F:byTo D L n<0) :
  Rt 29 #[.agg #[.slice A0 n cap],.slice Ae xs.length m,.slice Ap L.length k,vc] w (.agg #[.int .i64 (getE (lE xs) L).1,.int .i64 (getE (lE xs) L).2]):=by
 have a:byTo D L n = -1:=by
  rcases by_in D L n with h | ⟨b,h1,_⟩
  ·exact h
  omega
 obtain ⟨W,o⟩:=aA ((w.alloc (.cells #[.slice A0 n cap] 24)).alloc (.cells #[.int .i64 0,.int .i64 0] 52));have d:Hid (Bl w W):=by show Bl w W;rw [←o];go_grown
 have B:Hid (W.heap[w.heap.size+1]?=some (.cells #[.int .i64 0,.int .i64 0] 52 (0,0))):=by show _=_;rw [←o];exact kj _ _ _
 have q:W.heap[w.heap.size]?=some (.cells #[.slice A0 n cap] 24 (0,0)):=by rw [←o];exact qa _ _ _
 have E:W.cell? ⟨w.heap.size,0,none⟩=some (.slice A0 n cap):=by simp [World.cell?,q]
 have G:w.heap.size<W.heap.size:=(zY q).1;have g:=nK A0 cap n D A C Ap k L W u (x.later d.out) (r.later d.out);have j:Hid (∀ w',Bl w w'→Rt 58 #[.slice Ae xs.length m,.slice Ap L.length k] w' (.agg #[.int .i64 (getE (lE xs) L).1,.int .i64 (getE (lE xs) L).2])):=fun w' s=>yq Ae m xs Ap k L w' z (t.later s) y (r.later s)
 rw [a] at g;generalize getE (lE xs) L=c at j ⊢;clear u x r t y F a z q
 go_enter Tryz.func29,Tryz.ntmps29
 go_wp2_with fail;refine g.mono ?_;rintro e w1 ⟨rfl,a⟩;have i:=aa a;have l:=j.out w1 (ae d.out a);clear a g E o;go_wp2_with fail;refine l.mono ?_;rintro e w2 ⟨rfl,f⟩;obtain ⟨J,H,I,rf0,rf1⟩:=kq B.out (ae i.out f);have p:=aa (ae d.out (ae i.out f));clear f l;go_wp2_with fail;refine bodyPost_ret (v:=.agg #[.int .i64 c.1,.int .i64 c.2]) (by simp [results,Tryz.results29,go_sem,H,I]) rfl ⟨rfl,?_⟩
 exact (p.out.setCell (Nat.le_succ _) _).setCell (Nat.le_succ _) _
def rW (w:World) (A0:Option Addr) (cap n qd:Nat) (d:Dm) (Am:Option Addr) (cm:Nat) (w1:World):Prop:=Bl w w1∧nO w1 w.heap.size (.slice A0 n cap)∧w1.heap[w.heap.size+1]?=some (.cells #[.int .i64 0,.int .i64 0] 52 (0,0))∧rQ w1 qd d Am cm
theorem rW.later {w w1 w2:World} {A0 Am:Option Addr} {cap n c b:Nat} {d:Dm} (h:rW w A0 cap n c d Am b w1) (a:Bl w1 w2):rW w A0 cap n c d Am b w2:=⟨ae h.1 a,h.2.1.later a,(a.block _ (zY h.2.2.1).1).trans h.2.2.1,h.2.2.2.later a⟩
theorem rW.grown {w w1 w2:World} {A0 Am:Option Addr} {cap n b c g:Nat} {d:Dm} (h:rW w A0 cap n b d Am c w1) (a:w1.grownBy w2 (some g)) (k:w.heap.size+1<g) (f:b≠g):rW w A0 cap n b d Am c w2 :=
 ⟨h.1.grown a h.1.size (fun j i=>by cases i;omega),n9 h.2.1 (by omega) a,(a.block _ (zY h.2.2.1).1 (fun e=>by simp at e;omega)).trans h.2.2.1,v7 h.2.2.2 f a⟩
theorem Aw {D:Nat→Dm} {n b:Nat} {L:List Int} (h:InO D n L) (c:b<n) {j:Nat} (f:j<(D b).n):∃ y:Nat,numI D (L.set b j) n=(y:Int)∧y<prodN D n∧InO D n (L.set b j):=by
 have a:=gN h c (x:=(j:Int)) (by omega) (by omega)
 obtain ⟨d,e,-⟩:=ba a (Nat.le_refl n);exact ⟨(numI D (L.set b j) n).toNat,by omega,by omega,a⟩
end Go.Proofs.YtompdcaikmekkaaGreatDoor
