/- Which member a number -/
import Derived.Test.YtohgnbgamfepoaaGreatDoorJHAZ
import Derived.Test.YtohgnbgamfepoaaGreatDoorJHBD
namespace Go.Proofs.YtohgnbgamfepoaaGreatDoor
open ChangeShapes WideShapes ChangeAt RowKit
set_option maxRecDepth 99999
set_option maxHeartbeats 0
def JY (d:Dm) (ap:Nat) (x:AL):Value:=.agg #[.int .i64 d.solve,.int .i64 ap,.slice x.A d.n x.c]
theorem mZ (d:Dm) (S:Nat) (al:AL) (x m:Nat) (w:World) (u:1≤S) (v:1≤d.n) (l:d.n≤12) (z:x≤20736) (f:x / S % d.n=m):Rt 117 #[JY d S al,.int .i64 x] w (.int .i64 m):=by
 unfold JY;obtain ⟨Q,e⟩:∃ Q:Nat,x / S=Q:=⟨_,rfl⟩;rw [e] at f;have p:(x:Int) / (S:Int)=(Q:Int):=by rw [←e];exact (Int.natCast_ediv _ _).symm
 have q:(x:Int).tdiv (S:Int)=(Q:Int):=by rw [←e];rfl
 have r:(Q:Int).tmod (d.n:Int)=(m:Int):=by rw [←f];rfl
 have i:Q≤20736:=by rw [←e];exact zV (Nat.div_le_self _ _) (by omega)
 have j:m<d.n:=by rw [←f];exact Nat.mod_lt _ (by omega)
 have s:IntKind.i64.wrap (Q:Int)=(Q:Int):=IntWalk.i64_in _ (by omega)
 have t:IntKind.i64.wrap (m:Int)=(m:Int):=IntWalk.i64_in _ (by omega)
 have k:((S:Int) == 0)=false:=by simp;omega
 have hS0' : ¬ S=0:=by omega
 have g:((d.n:Int) == 0)=false:=by simp;omega
 have hdn0' : ¬ d.n=0:=by omega
 have o:(d.n:Int)≤12:=by omega
 obtain ⟨y,h⟩:=az (w.alloc (.cells #[.int .i64 d.solve,.int .i64 S,.slice al.A d.n al.c] 143));have a:y.heap[w.heap.size]?=some (.cells #[.int .i64 d.solve,.int .i64 S,.slice al.A d.n al.c] 143 (0,0)):=by rw [←h];exact heap_alloc_new ..
 have B:y.cell? ⟨w.heap.size,1,none⟩=some (.int .i64 S):=by simp [World.cell?,a]
 have C:y.cell? ⟨w.heap.size,2,none⟩=some (.slice al.A d.n al.c):=by simp [World.cell?,a]
 have b:Hid (Bl w y):=by show Below ..;rw [←h];go_grown
 clear a e f
 go_enter Tryz.func117,Tryz.ntmps117
 go_wp2_with fail
 first | (go_quiet (fail);go_wp2_with fail) | skip
 go_ret;exact ⟨rfl,by first | exact b.out | exact ac b.out _⟩
theorem GT {d:Dm} {i:Nat} {x:WL} (h:fK d i x):x.lf=leafB d.mem d.n i:=by
 by_cases a:(d.mem i).formula.size=0
 ·exact (h.1 a).1
 rw [(h.2 a).1];unfold leafB;rw [decide_eq_false a]
 rfl
theorem nY.one {w:World} {g n:Nat} {D:Nat→Dm} {X:Nat→AL} (h:nY w g n n D X) {i:Nat} (f:i<n):g<w.heap.size∧(w.cell? ⟨g,i*3,none⟩=some (.int .i64 (D i).solve)∧w.cell? ⟨g,i*3+1,none⟩=some (.int .i64 (cA D n i))∧w.cell? ⟨g,i*3+2,none⟩=some (.slice (X i).A (D i).n (X i).c))∧iq w (D i) (X i):=by
 obtain ⟨b,a,-,d⟩:=h;obtain ⟨⟨c0,c1,c2⟩,e⟩:=d i (by omega) f
 exact ⟨(zY a).1,⟨by simp [World.cell?,a,c0],by simp [World.cell?,a,c1],by simp [World.cell?,a,c2]⟩,e⟩
theorem iq.way {w:World} {d:Dm} {x:AL} (h:iq w d x) {m:Nat} (i:m<d.n):∃ b,x.A=some ⟨b,0,none⟩∧d.n≤x.c∧b<w.heap.size∧(w.cell? ⟨b,m*5,none⟩=some (.bool (x.xs.getD m eW).lf)∧w.cell? ⟨b,m*5+1,none⟩=some (.slice (x.xs.getD m eW).An (x.xs.getD m eW).nd.length (x.xs.getD m eW).cn)∧w.cell? ⟨b,m*5+2,none⟩=some (.slice (x.xs.getD m eW).As (x.xs.getD m eW).nm.length (x.xs.getD m eW).cs)∧w.cell? ⟨b,m*5+3,none⟩=some (.slice (x.xs.getD m eW).Ai (x.xs.getD m eW).ne.length (x.xs.getD m eW).ci)∧w.cell? ⟨b,m*5+4,none⟩=some (.slice (x.xs.getD m eW).Ag (x.xs.getD m eW).sg.length (x.xs.getD m eW).cg))∧eC w (x.xs.getD m eW):=by
 obtain ⟨e,⟨g,a,f⟩,-⟩:=h
 rcases a with a | ⟨b,cs,fr,a,h4,h5⟩
 ·rw [a] at e;simp at e;omega
 obtain ⟨a0,a1,a2,a3,a4⟩:=h5 m (by omega)
 refine ⟨b,a,by omega,(zY h4).1,⟨by simp [World.cell?,h4,a0],by simp [World.cell?,h4,a1],by simp [World.cell?,h4,a2],by simp [World.cell?,h4,a3],by simp [World.cell?,h4,a4]⟩,f _ ?_⟩
 rw [zZ,zX (by omega)]
 exact List.getElem_mem _
theorem oI {D:Nat→Dm} {n x k:Nat} (a:k<n):((aj D n x).getD k 0).toNat=x / cA D n k % (D k).n:=by
 rw [jN a,Int.toNat_natCast,iW a]
def qH (w:World) (d:Dm) (S:Nat) (al:AL):World:=(w.alloc (.cells #[.int .i64 d.solve,.int .i64 S,.slice al.A d.n al.c] 143)).alloc (.cells #[.bool false,.slice none 0 0,.slice none 0 0,.slice none 0 0,.slice none 0 0] 155)
theorem DX (w:World) (d:Dm) (S:Nat) (al:AL):(qH w d S al).heap.size=w.heap.size+2:=by unfold qH;simp
theorem zr (w:World) (d:Dm) (S:Nat) (al:AL):Bl w (qH w d S al):=by unfold qH;go_grown
theorem JP (w:World) (d:Dm) (S:Nat) (al:AL):(qH w d S al).heap[w.heap.size]?=some (.cells #[.int .i64 d.solve,.int .i64 S,.slice al.A d.n al.c] 143 (0,0)):=by
 unfold qH;rw [heap_alloc_old _ _ (by simp)]
 exact heap_alloc_new ..
theorem JQ (w:World) (d:Dm) (S:Nat) (al:AL):(qH w d S al).heap[w.heap.size+1]?=some (.cells #[.bool false,.slice none 0 0,.slice none 0 0,.slice none 0 0,.slice none 0 0] 155 (0,0)):=by
 unfold qH;exact kr ..
theorem tq (d:Dm) (S:Nat) (al:AL) (x m:Nat) (w:World) (O:1≤S) (Q:1≤d.n) (A:d.n≤12) (T:x≤20736) (D:x / S % d.n=m) (N:iq w d al):Rt 80 #[JY d S al,.int .i64 x] w (wayV (al.xs.getD m eW)):=by
 have E:m<d.n:=by rw [←D];exact Nat.mod_lt _ Q
 obtain ⟨b,j,V,a,⟨H,I,J,K,L⟩,-⟩:=N.way E;obtain ⟨z,U⟩:=az (al.xs.getD m eW);rw [U] at H I J K L ⊢;have u:Hid (∀ w',Rt 117 #[.agg #[.int .i64 d.solve,.int .i64 S,.slice (some ⟨b,0,none⟩) d.n al.c],.int .i64 x] w' (.int .i64 m)):=fun w'=>by
  have h:=mZ d S al x m w' O Q A T D;unfold JY at h;rw [j] at h;exact h
 have g:=zr w d S al;have q:=DX w d S al;have i:=JP w d S al;have l:=JQ w d S al;obtain ⟨W,y⟩:=az (qH w d S al);rw [y] at g q i l;unfold qH at y;unfold JY;rw [j] at y i ⊢;have P:b<W.heap.size:=zW a g.size;have B:w.heap.size<W.heap.size:=by omega
 have C:w.heap.size+1<W.heap.size:=by omega
 have M:Hid (∀ w',Bl W w'→(w'.cell? ⟨w.heap.size,0,none⟩=some (.int .i64 d.solve)∧w'.cell? ⟨w.heap.size,1,none⟩=some (.int .i64 S)∧w'.cell? ⟨w.heap.size,2,none⟩=some (.slice (some ⟨b,0,none⟩) d.n al.c))∧(w'.cell? ⟨b,m*5,none⟩=some (.bool z.lf)∧w'.cell? ⟨b,m*5+1,none⟩=some (.slice z.An z.nd.length z.cn)∧w'.cell? ⟨b,m*5+2,none⟩=some (.slice z.As z.nm.length z.cs)∧w'.cell? ⟨b,m*5+3,none⟩=some (.slice z.Ai z.ne.length z.ci)∧w'.cell? ⟨b,m*5+4,none⟩=some (.slice z.Ag z.sg.length z.cg))∧w'.heap[w.heap.size+1]?=some (.cells #[.bool false,.slice none 0 0,.slice none 0 0,.slice none 0 0,.slice none 0 0] 155 (0,0))∧W.heap.size≤w'.heap.size):=fun w' t=>by
  have G:=(t.block w.heap.size B).trans i;have s:=ae g t;exact ⟨⟨by simp [World.cell?,G],by simp [World.cell?,G],by simp [World.cell?,G]⟩,⟨aC s a H,aC s a I,aC s a J,aC s a K,aC s a L⟩,(t.block _ C).trans l,t.size⟩
 obtain ⟨⟨a0,a1,a2⟩,-,F,-⟩:=M.out W (zS);have o:=aa g;have Y:(m:Int)<(d.n:Int):=by omega
 have X:(d.n:Int)≤12:=by omega
 clear g q i l N U j D T O H I J K L F
 go_enter Tryz.func80,Tryz.ntmps80
 go_wp2_with fail
 go_region_law ((go_simp;refine (u.out _).mono ?_;rintro e w3 ⟨rfl,r⟩;have k:=ae (W0:=W) (by go_grown) r;obtain ⟨⟨n0,n1,n2⟩,⟨u0,u1,u2,u3,u4⟩,R,Z⟩:=M.out _ k;obtain ⟨hg,⟨r0,r1,r2,r3,r4⟩,f⟩:=iP R;have f0:=f 0;have f1:=f 1;have f2:=f 2;have f3:=f 3;have f4:=f 4;have p:=aa k;clear r f R))
 all_goals clear k
 all_goals go_wp2_with fail
 all_goals refine bodyPost_ret (v:=wayV z) (by simp [results,Tryz.results80,go_sem,r0,r1,r2,r3,r4,wayV]) rfl ⟨rfl,?_⟩
 all_goals first
  | exact (((((ae o.out p.out).setCell (by simp) _).setCell (by simp) _).setCell (by simp) _).setCell (by simp) _).setCell (by simp) _
  | exact ac ((((((ae o.out p.out).setCell (by simp) _).setCell (by simp) _).setCell (by simp) _).setCell (by simp) _).setCell (by simp) _) 1
theorem xi (z:WL) (w:World):(Instr.field 155 (wayV z) 0).run Tryz.prog w=.ok (.bool z.lf) w:=by kernel_rfl
theorem xj (z:WL) (w:World):(Instr.field 155 (wayV z) 3).run Tryz.prog w=.ok (.slice z.Ai z.ne.length z.ci) w:=by kernel_rfl
theorem sj (q g n:Nat) (D:Nat→Dm) (X:Nat→AL) (x:Nat) (w:World) (hE:(am D n).2.2=0) (hx:x<prodN D n) (V:cJ w q g n D X):Rt 78 #[.pointer (some ⟨q,0,none⟩),.int .i64 x] w (.int .i64 (byTo D (aj D n x) n)):=by
 obtain ⟨hn1,hn4,hp3,hd⟩:=au hE;have hn':(n:Int)≤4:=by omega
 have S:=aa hd;have HA:=aa V;obtain ⟨hq,q0,q1⟩:=V.cells;obtain ⟨L,W⟩:=az (aj D n x);have T:Hid (∀ k,k<n→(L.getD k 0).toNat=x / cA D n k % (D k).n):=fun k hk=>by rw [←W];exact oI hk
 rw [W];have hxs:x≤20736:=by omega
 clear W V hd
 go_enter Tryz.func78,Tryz.ntmps78
 go_wp2_with fail;clear q0 q1
 go_loopg [5,13] n (fun gg s5 s13 wr => ∃ (k:Nat),k≤n∧gg=n-k∧s5=.int .i64 (byTo D L k)∧s13=.int .i64 k∧Bl w wr)
 case atStart=>exact ⟨0,zU,rfl,rfl,rfl,zS⟩
 case round =>
  obtain ⟨k,hk,rfl,rfl,rfl,t⟩:=hrel;have I:=aa t
  by_cases p:k<n
  ·have hki:(k:Int)<(n:Int):=by omega
   have f:=HA.out.later t;obtain ⟨hg,⟨c0,c1,c2⟩,l⟩:=f.2.one p;obtain ⟨m,Q⟩:=az (x / cA D n k % (D k).n);have K:=(S.out k p).1;have N:m<(D k).n:=by rw [←Q];exact Nat.mod_lt _ K
   have M:=GT (l.2.2 m N);have y:(L.getD k 0).toNat=m:=by rw [T.out k p,Q]
   have J:Hid (∀ w',Bl wr w'→Rt 80 #[.agg #[.int .i64 (D k).solve,.int .i64 (cA D n k:Nat),.slice (X k).A (D k).n (X k).c],.int .i64 x] w' (wayV ((X k).xs.getD m eW))):=fun w' G=>tq (D k) (cA D n k) (X k) x m w' (iN (fun i hi=>(S.out i hi).1) p) K (S.out k p).2 hxs Q (l.later G)
   have HB:Hid (∀ h,leafB (D k).mem (D k).n m=h→(h=true→byTo D L (k+1)=byTo D L k)∧(h=false→(byTo D L k<0→byTo D L (k+1)=(k:Int))∧∀ j:Nat,byTo D L k=(j:Int)→byTo D L (k+1)=if (D j).solve<(D k).solve then (k:Int) else (j:Int))):=fun h e=>by
    refine ⟨fun P=>?_,fun P=>⟨fun e3=>?_,fun j z=>?_⟩⟩
    ·refine nB fun ⟨h1,_⟩=>?_
     rw [y,e,P] at h1;cases h1
    ·exact sk (by rw [y,e,P]) (Or.inl e3)
    by_cases B:(D j).solve<(D k).solve
    ·rw [if_pos B]
     exact sk (by rw [y,e,P]) (Or.inr (by rw [z,Int.toNat_natCast];exact B))
    rw [if_neg B,←z];refine nB fun ⟨_,h2⟩=>?_
    rw [z,Int.toNat_natCast] at h2
    omega
   obtain ⟨lf,o⟩:=az (leafB (D k).mem (D k).n m);have C:=aa (HB.out lf o);have Y:∀ w',(Instr.field 155 (wayV ((X k).xs.getD m eW)) 0).run Tryz.prog w'=.ok (.bool lf) w':=fun w'=>by rw [xi,M,o]
   have U:Hid (∀ w',Bl wr w'→w'.cell? ⟨q,0,none⟩=some (.slice (some ⟨g,0,none⟩) n n)∧q<w'.heap.size∧g<w'.heap.size∧∀ j,j<n→w'.cell? ⟨g,j*3,none⟩=some (.int .i64 (D j).solve)):=fun w' G=>⟨(f.later G).cells.2.1,(f.later G).cells.1,zW hg G.size,fun j z=>((f.later G).2.one z).2.1.1⟩
   have R:=aa (by_in D L k);obtain ⟨v,hv⟩:=az (wr.alloc (.cells #[.int .i64 (D k).solve,.int .i64 (cA D n k:Nat),.slice (X k).A (D k).n (X k).c] 143));have r:v.heap[wr.heap.size]?=some (.cells #[.int .i64 (D k).solve,.int .i64 (cA D n k:Nat),.slice (X k).A (D k).n (X k).c] 143 (0,0)):=by rw [←hv];exact heap_alloc_new ..
   have E:Bl wr v:=by rw [←hv];go_grown
   have H:=aa E;have v0:v.cell? ⟨wr.heap.size,0,none⟩=some (.int .i64 (D k).solve):=by simp [World.cell?,r]
   have v1:v.cell? ⟨wr.heap.size,1,none⟩=some (.int .i64 (cA D n k:Nat)):=by simp [World.cell?,r]
   have v2:v.cell? ⟨wr.heap.size,2,none⟩=some (.slice (X k).A (D k).n (X k).c):=by simp [World.cell?,r]
   have O:wr.heap.size<v.heap.size:=(zY r).1;have F:=J.out v E;generalize wayV ((X k).xs.getD m eW)=wv at F Y;clear f l Q N M y o r E t J HB;go_wp2_with fail;refine F.mono ?_;rintro e w3 ⟨rfl,b⟩;have s:=aa (ae I.out (ae H.out b));have d:=ae H.out b;obtain ⟨p0,hq3,hg3,u⟩:=U.out w3 d;have t1:w3.cell? ⟨wr.heap.size,0,none⟩=some (.int .i64 (D k).solve):=aC b O v0;have ht3:wr.heap.size<w3.heap.size:=zW O b.size;clear F v0 v1 v2 hv c0 c1 c2;cases lf
   ·rcases R.out with hneg | ⟨j,z,hjk⟩
    ·have a:Hid (byTo D L (k+1)=(k:Int)):=(C.out.2 rfl).1 (by omega)
     rw [hneg];clear hneg b d u;go_wp2_with fail
     go_quiet (fail)
     go_wp2_with fail
     go_roundg (n-(k+1))
     case measure=>omega
     case rel=>exact ⟨k+1,by omega,rfl,by rw [a.out],by go_num,ac s.out _⟩
    have a:Hid (byTo D L (k+1)=if (D j).solve<(D k).solve then (k:Int) else (j:Int)):=(C.out.2 rfl).2 j z
    have cj3:=u j (by omega)
    have hjn:(j:Int)<(n:Int):=by omega
    have hj0:((j:Int) == -1)=false:=by simp
    rw [z];clear z b d u
    by_cases B:(D j).solve<(D k).solve
    ·rw [if_pos B] at a
     have q2:decide ((D j).solve<(D k).solve)=true:=decide_eq_true B;go_wp2_with fail
     go_quiet (fail)
     go_wp2_with fail
     go_roundg (n-(k+1))
     case measure=>omega
     case rel=>exact ⟨k+1,by omega,rfl,by rw [a.out],by go_num,ac s.out _⟩
    rw [if_neg B] at a;have q2:decide ((D j).solve<(D k).solve)=false:=decide_eq_false B;go_wp2_with fail
    go_quiet (fail)
    go_wp2_with fail
    go_roundg (n-(k+1))
    case measure=>omega
    case rel=>exact ⟨k+1,by omega,rfl,by rw [a.out],by go_num,ac s.out _⟩
   have a:Hid (byTo D L (k+1)=byTo D L k):=C.out.1 rfl;generalize byTo D L k=bk at a;clear b d u;go_wp2_with fail
   go_roundg (n-(k+1))
   case measure=>omega
   case rel=>exact ⟨k+1,by omega,rfl,by rw [a.out],by go_num,s.out⟩
  have Z:k=n:=by omega
  subst Z;clear t;go_wp2_with fail;go_ret;exact ⟨rfl,I.out⟩
def lQ (w:World):World:=(w.alloc (.cells #[.int .i64 0,.int .i64 0] 52)).alloc (.cells #[.int .i64 0,.int .i64 0] 52)
theorem DS (w:World):(lQ w).heap.size=w.heap.size+2:=by unfold lQ;simp
theorem zj (w:World):Bl w (lQ w):=by unfold lQ;go_grown
theorem JK (w:World):(lQ w).heap[w.heap.size]?=some (.cells #[.int .i64 0,.int .i64 0] 52):=by
 unfold lQ;rw [heap_alloc_old _ _ (by simp)]
 exact heap_alloc_new ..
theorem JL (w:World):(lQ w).heap[w.heap.size+1]?=some (.cells #[.int .i64 0,.int .i64 0] 52):=by
 unfold lQ;exact kr ..
theorem tm (d:Dm) (AP:Option Addr) (cP:Nat) (P:List Int) (AC:Option Addr) (cC:Nat) (L:List (Int×Int)) (at':Int→Int×Int) (w:World) (X:P.length≤12) (U:∀ k∈P,∃ j:Nat,k=j∧j<d.n∧(d.mem j).sign≠0) (Y:Sg d.mem d.n) (hL:L=P.map at') (hG:∀ k∈P,b6 (at' k)) (hP:bX w AP cP (P.map (io d))) (hC:dx w AC cC L) :
  Rt 119 #[.slice AP P.length cP,.slice AC P.length cC] w (.tuple #[.agg #[.int .i64 (partsV d.mem at' P).1,.int .i64 (partsV d.mem at' P).2],.nilIface]):=by
 have HIn:=aa U;have HSg:=aa Y;have HG:=aa hG;have HP:=aa hP;have HC:=aa hC;have HL:=aa hL;have HB0:Hid (Bl w (lQ w)):=zj ..;have F:Hid ((lQ w).heap[w.heap.size]?=some (.cells #[.int .i64 0,.int .i64 0] 52)∧(lQ w).heap.size=w.heap.size+2):=⟨JK ..,DS ..⟩;have q:Hid ((P.take P.length).foldl (ba d.mem at') (0,0)=partsV d.mem at' P):=by show _=_;rw [List.take_length];rfl
 obtain ⟨N,hN⟩:=az P.length;have HN:=aa hN;rw [hN] at q X ⊢;generalize partsV d.mem at' P=V at q;have hN':(N:Int)≤12:=by omega
 clear U Y hG hP hC hN hL
 go_enter Tryz.func119,Tryz.ntmps119
 go_wp2_with fail
 go_loopg [7,13] N (fun g s7 s13 wr => ∃ (k:Nat) (a b:Int),k≤N∧g=N-k∧s13=.int .i64 k∧s7=.nilIface∧Hid ((P.take k).foldl (ba d.mem at') (0,0)=(a,b))∧Hid (wr.heap[w.heap.size+1]?=some (.cells #[.int .i64 a,.int .i64 b] 52))∧Hid ((lQ w).grownBy wr (some (w.heap.size+1))))
 case atStart=>exact ⟨0,0,0,zU,rfl,rfl,rfl,(rfl:(P.take 0).foldl (ba d.mem at') (0,0)=(0,0)),JL w,(cV _ _:(lQ w).grownBy (lQ w) (some (w.heap.size+1)))⟩
 case round =>
  obtain ⟨k,a,b,hk,rfl,rfl,rfl,HF,m,s⟩:=hrel;have T:Bl w wr:=HB0.out.grown s.out (by rw [F.out.2];omega) (fun j hj=>by cases hj;omega)
  have HBw:=aa T;have p:w.heap.size+1<wr.heap.size:=by have:=s.out.size;rw [F.out.2] at this;omega
  by_cases hlt:k<N
  ·have o:k<P.length:=by rw [HN.out];exact hlt
   have hki:(k:Int)<(N:Int):=by omega
   have D:P.getD k 0∈P:=by rw [zZ,zX o];exact List.getElem_mem o
   obtain ⟨hcP,h0 | ⟨bp,rfl,hbp,B⟩⟩:=HP.out.later T
   ·have h1:(P.map (io d)).length=N:=by rw [List.length_map];exact HN.out
    rw [h0] at h1;simp at h1;omega
   rw [List.length_map,HN.out] at hcP;have K:=B k (by rw [List.length_map];exact o)
   have H:L.length=N:=by rw [HL.out,List.length_map];exact HN.out
   obtain ⟨hcL,-,h0 | ⟨bc,oc,rfl,z⟩⟩:=HC.out.later T
   ·rw [h0] at H;simp at H;omega
   obtain ⟨x0,x1⟩:=z.2 k (by omega)
   have hbcl:bc<wr.heap.size:=z.1;have W:L.getD k noC=at' (P.getD k 0):=by
    rw [HL.out,zZ,List.getElem?_map,zZ,zX o]
    rfl
   have Z:(P.map (io d)).getD k 0=io d (P.getD k 0):=by
    rw [zZ,List.getElem?_map,zZ,zX o]
    rfl
   rw [H] at hcL;rw [W] at x0 x1;obtain ⟨j,hj,hjn,O⟩:=HIn.out _ D;have I:=HG.out _ D;have c:=rP (M:=d.mem) (at':=at') o;rw [HF.out] at c;rw [Z,hj,show io d (j:Int)=(d.mem j).sign by unfold io;rw [Int.toNat_natCast]] at K
   rw [hj] at c I x0 x1;have C:b6 (a,b):=by rw [←HF.out];exact jI _ _ _ _ fx
   unfold ba at c;rw [show ((j:Int)).toNat=j by omega] at c
   simp only at c;have Q:=HSg.out j hjn;obtain ⟨s0,s1,f0,f1⟩:=cF m.out;have f:=fun w'=>zF a b (at' (j:Int)).1 (at' (j:Int)).2 C I w'
   have h:=fun w'=>Bs a b (at' (j:Int)).1 (at' (j:Int)).2 C I w'
   generalize (at' (j:Int)).1=x at x0 c f h;generalize (at' (j:Int)).2=y at x1 c f h;generalize (d.mem j).sign=sg at K c Q O;obtain ⟨v,hv⟩:=az (wr.alloc (.cells #[.int .i64 x,.int .i64 y] 52));have G:Bl wr v:=by rw [←hv];go_grown
   have R:=aa G;obtain ⟨v0,v1,-,-⟩:=cF (show v.heap[wr.heap.size]?=some (.cells #[.int .i64 x,.int .i64 y] 52 (0,0)) from by rw [←hv];exact heap_alloc_new ..)
   have hvs:wr.heap.size<v.heap.size:=by rw [←hv];simp
   obtain ⟨t0,t1,-,-⟩:=cF ((G.block _ p).trans m.out);have S:=aC G hbp K;have t:Hid (∀ w',Bl wr w'→w'.cell? ⟨w.heap.size+1,0,none⟩=some (.int .i64 a)∧w'.cell? ⟨w.heap.size+1,1,none⟩=some (.int .i64 b)∧w'.frozen? ⟨w.heap.size+1,0,none⟩=false∧w'.frozen? ⟨w.heap.size+1,1,none⟩=false):=fun w' hw'=>cF ((hw'.block _ p).trans m.out)
   clear T hj I C D B z W H G Z
   by_cases hs1:sg=1
   ·subst hs1
    rw [if_pos rfl] at c;obtain ⟨r1,E⟩:∃ r,nj a b x y=r:=⟨_,rfl⟩;obtain ⟨rk,rn⟩:=r1;rw [E] at c f;simp only at f;have J:=aa c;have l:=f v;clear f h c E Q O;go_wp2_with fail;refine l.mono ?_;rintro e w4 ⟨rfl,A⟩;have i:=ae R.out A;obtain ⟨n0,n1,n2,n3⟩:=t.out _ i;have u:=aa i;have hz4:w.heap.size+1<w4.heap.size:=zW p i.size;clear A i l hv v0 v1 t0 t1 S;go_wp2_with fail
    go_roundg (N-(k+1))
    case measure=>omega
    case rel=>exact ⟨k+1,rk,rn,by omega,rfl,by go_num,rfl,J,lx ((u.out.block _ p).trans m.out),ja (fy s.out u.out)⟩
   have hs2:sg = -1:=by omega
   subst hs2;rw [if_neg (by decide),if_pos rfl] at c
   obtain ⟨r1,E⟩:∃ r,jt a b x y=r:=⟨_,rfl⟩;obtain ⟨rk,rn⟩:=r1;rw [E] at c h;simp only at h;have J:=aa c;have l:=h v;clear f h c E Q hs1 O;go_wp2_with fail;refine l.mono ?_;rintro e w4 ⟨rfl,A⟩;have i:=ae R.out A;obtain ⟨n0,n1,n2,n3⟩:=t.out _ i;have u:=aa i;have hz4:w.heap.size+1<w4.heap.size:=zW p i.size;clear A i l hv v0 v1 t0 t1 S;go_wp2_with fail
   go_roundg (N-(k+1))
   case measure=>omega
   case rel=>exact ⟨k+1,rk,rn,by omega,rfl,by go_num,rfl,J,lx ((u.out.block _ p).trans m.out),ja (fy s.out u.out)⟩
  have hke:k=N:=by omega
  subst hke;have HV:Hid (V=(a,b)):=by show _=_;rw [←q.out];exact HF.out
  obtain ⟨s0,s1,f0,f1⟩:=cF m.out;have k1:wr.heap[w.heap.size]?=some (.cells #[.int .i64 0,.int .i64 0] 52):=(s.out.block w.heap.size (by rw [F.out.2];omega) (fun e=>by simp at e)).trans F.out.1
  obtain ⟨e0,e1,g0,g1⟩:=cF k1;have hzz:w.heap.size<wr.heap.size:=by omega
  clear T k1;go_wp2_with fail;refine bodyPost_ret (v:=.tuple #[.agg #[.int .i64 a,.int .i64 b],.nilIface]) (by simp [results,Tryz.results119,go_sem,e0,e1]) rfl ⟨by rw [HV.out],?_⟩
  exact (HBw.out.setCell (by simp) _).setCell (by simp) _
theorem J8 {w:World} {A:Option Addr} {c:Nat} {L:List (List UInt8)} (h:gN w A c L) (g:L.length≤30):D1 w A c (L.map tt):=by
 obtain ⟨e,f,a⟩:=h;refine ⟨by rw [List.length_map];exact e,by rw [List.length_map];omega,f,?_⟩
 rcases a with a | ⟨b,o,a,h4,h5⟩
 ·exact Or.inl (by rw [a];rfl)
 refine Or.inr ⟨b,o,a,h4,fun j d=>?_⟩
 rw [List.length_map] at d;rw [h5 j d,zZ,zZ,List.getElem?_map,zX d]
 rfl
theorem CR {d:Dm} {m:Nat} (e:(d.mem m).formula.size=0):∀ k∈ep d m,∃ j:Nat,k=j∧j<d.n∧(d.mem j).sign≠0:=fun k a=>by
 rw [←gH e,List.mem_filter] at a;obtain ⟨j,b,c,-⟩:=cS k a.1;refine ⟨j,b,c,?_⟩;have:=a.2;rw [b] at this;unfold wg at this
 simpa using this
def qD (w:World) (x:WL):World:=(w.alloc (.cells #[.bool x.lf,.slice x.An x.nd.length x.cn,.slice x.As x.nm.length x.cs,.slice x.Ai x.ne.length x.ci,.slice x.Ag x.sg.length x.cg] 155)).alloc (.cells #[.int .i64 0,.int .i64 0] 52)
theorem DP (w:World) (x:WL):(qD w x).heap.size=w.heap.size+2:=by unfold qD;simp
theorem zi (w:World) (x:WL):Bl w (qD w x):=by unfold qD;go_grown
theorem JG (w:World) (x:WL):(qD w x).heap[w.heap.size]?=some (.cells #[.bool x.lf,.slice x.An x.nd.length x.cn,.slice x.As x.nm.length x.cs,.slice x.Ai x.ne.length x.ci,.slice x.Ag x.sg.length x.cg] 155 (0,0)):=by
 unfold qD;rw [heap_alloc_old _ _ (by simp)]
 exact heap_alloc_new ..
theorem JH (w:World) (x:WL):(qD w x).heap[w.heap.size+1]?=some (.cells #[.int .i64 0,.int .i64 0] 52):=by
 unfold qD;exact kr ..
theorem GE (d:Dm) (m:Nat) (x:WL) (AC:Option Addr) (O:Nat) (f:Int→Int×Int) (w:World) (U:(bv d).2=0) (hm:m<d.n) (u:fK d m x) (V:eC w x) (t:∀ z∈ep d m,b6 (f z)) (T:dx w AC O (x.ne.map f)) :
  Rt 81 #[wayV x,.slice AC x.ne.length O] w (.tuple #[.agg #[.int .i64 (ew d f m).1,.int .i64 (ew d f m).2],.nilIface]):=by
 obtain ⟨K,s,-,-⟩:=bJ U;obtain ⟨-,-,X,-⟩:=aI K;have g:=zi w x;have C:=DP w x;have h:=JG w x;have q:=JH w x;obtain ⟨W,c⟩:=az (qD w x);rw [c] at g C h q;unfold qD at c;unfold wayV;have H:=aa g;have I:=aa q;have hl0:w.heap.size<W.heap.size:=by omega
 have r:w.heap.size+1<W.heap.size:=by omega
 have Q:W.cell? ⟨w.heap.size,1,none⟩=some (.slice x.An x.nd.length x.cn):=by simp [World.cell?,h]
 have x2:W.cell? ⟨w.heap.size,2,none⟩=some (.slice x.As x.nm.length x.cs):=by simp [World.cell?,h]
 have x4:W.cell? ⟨w.heap.size,4,none⟩=some (.slice x.Ag x.sg.length x.cg):=by simp [World.cell?,h]
 have k:=V.later g;have p:=T.later g
 by_cases y:(d.mem m).formula.size=0
 ·obtain ⟨-,i,-,j,J⟩:=u.1 y
  have l:=tm d x.Ag x.cg x.ne AC O (x.ne.map f) f W (by rw [j];exact zV (cG _ _) X) (by rw [j];exact CR y) (Sg.of K) rfl (by rw [j];exact t) (by rw [j,←J];exact k.2.2.2.at) p
  have D:x.sg.length=x.ne.length:=by rw [J,j,List.length_map]
  rw [D] at x4 c;have N:partsV d.mem f x.ne=ew d f m:=by rw [j,nh y]
  rw [N] at l;rw [i] at Q c ⊢;rw [D];simp only [List.length_nil] at Q c ⊢;obtain ⟨⟨Z,rb⟩,b⟩:∃ R,ew d f m=R:=⟨_,rfl⟩;have B:=aa b;rw [b] at l;simp only at l;generalize x.ne.length=nl at *;generalize x.nm.length=ml at *;clear b y i j J D N V u k p T t U K s g C h q
  go_enter Tryz.func81,Tryz.ntmps81
  go_wp2_with fail;refine l.mono ?_;rintro e w4 ⟨rfl,a⟩;have A:=aa a;obtain ⟨S,i,g0,g1⟩:=cF ((a.block (w.heap.size+1) r).trans I.out);have Y:w.heap.size+1<w4.heap.size:=zW r a.size;clear a l Q x2 x4 c;go_wp2_with fail;refine bodyPost_ret (v:=.tuple #[.agg #[.int .i64 Z,.int .i64 rb],.nilIface]) (by simp [results,Tryz.results81,go_sem,S,i]) rfl ⟨by rw [B.out],?_⟩
  exact ((ae H.out A.out).setCell (by simp) _).setCell (by simp) _
 obtain ⟨-,i,P,j,J⟩:=u.2 y;have L:=fA y (s m hm);have E:=dN L;have G:=pO E;obtain ⟨v1,v2⟩:=xk K y (s m hm) f t;have M:=(dD E).1;rw [←P] at G;have o:=DW x.An x.cn x.nd x.As x.cs (x.nm.map tt) AC O (x.ne.map f) W k.1.1 (J8 k.2.1.1 G) p;have q1:mN x.nd (x.nm.map tt) (x.ne.map f)=0:=by rw [i,P,j];exact v1
 have q2:qG x.nd (x.nm.map tt) (x.ne.map f)=ew d f m:=by rw [i,P,j];exact v2
 rw [q1,q2,errV_zero,List.length_map,List.length_map] at o;have F:0<(x.nd.length:Int):=by rw [i];omega
 obtain ⟨⟨Z,rb⟩,b⟩:∃ R,ew d f m=R:=⟨_,rfl⟩;have B:=aa b;rw [b] at o;simp only at o;generalize x.ne.length=xl at *;generalize x.sg.length=sl at *;generalize x.nd.length=nl at *;generalize x.nm.length=ml at *;clear b y i P j J L E G v1 v2 M q1 q2 V u k p T t U K s g C h q;obtain ⟨nk,rfl⟩:∃ nk,nl=nk+1:=⟨nl-1,by omega⟩
 clear F
 go_enter Tryz.func81,Tryz.ntmps81
 go_wp2_with fail;refine o.mono ?_;rintro e w4 ⟨rfl,a⟩;have A:=aa a;obtain ⟨S,i,g0,g1⟩:=cF ((a.block (w.heap.size+1) r).trans I.out);have Y:w.heap.size+1<w4.heap.size:=zW r a.size;clear a o Q x2 x4 c;go_wp2_with fail;refine bodyPost_ret (v:=.tuple #[.agg #[.int .i64 Z,.int .i64 rb],.nilIface]) (by simp [results,Tryz.results81,go_sem,S,i]) rfl ⟨by rw [B.out],?_⟩
 exact ((ae H.out A.out).setCell (by simp) _).setCell (by simp) _
end Go.Proofs.YtohgnbgamfepoaaGreatDoor
