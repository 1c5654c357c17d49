/- What New of package so -/
import Derived.Test.YthlhjjabkgpenaaGreatDoorJTBE
namespace Go.Proofs.YthlhjjabkgpenaaGreatDoor
open ChangeShapes WideShapes ChangeAt RowKit
set_option maxRecDepth 99999
set_option maxHeartbeats 0
def sF (D:Nat→Dm) (n:Nat):Nat→Nat
 | 0=>1
 | k+1=>sF D n k*(D (n-1-k)).n
theorem sG {D:Nat→Dm} {n:Nat}:∀ k,k<n→sF D n k=bW D n (n-1-k)
 | 0,h=>by unfold bW;rw [show n-1-(n-1-0)=0 by omega];rfl
 | k+1,h=>by
  rw [sF,sG k (by omega)]
  unfold bW;rw [show n-1-(n-1-(k+1))=k+1 by omega,stepTo_front,show n-1-(k+1)+1=n-1-k by omega,show n-1-(n-1-k)=k by omega]
  exact Nat.mul_comm _ _
theorem CS {D:Nat→Dm} {n:Nat} (h:∀ j,j<n→(D j).n≤12):∀ k,k≤n→sF D n k≤12 ^ k
 | 0,_=>zT
 | k+1,hk=>by
  rw [sF,Nat.pow_succ];exact Nat.mul_le_mul (CS h k (by omega)) (h _ (by omega))
theorem pQ {D:Nat→Dm} {n:Nat} (b:n≤4) (h:∀ j,j<n→(D j).n≤12) {k:Nat} (a:k≤n):sF D n k≤20736 :=
 zV (CS h k a) (zV (Nat.pow_le_pow_right (by omega) (show k≤4 by omega)) (by decide))
structure AL where
 xs:List WL
 A:Option Addr
 c:Nat
def Lh (cur:Array Value) (o:Nat) (d:Dm) (ap:Nat) (x:AL):Prop:=cur[o]?=some (.int .i64 d.solve)∧cur[o+1]?=some (.int .i64 ap)∧cur[o+2]?=some (.slice x.A d.n x.c)
def gG (w:World) (d:Dm) (x:AL):Prop:=x.xs.length=d.n∧jH w x.A x.c x.xs∧∀ k,k<d.n→fh d k (x.xs.getD k ex)
theorem gG.later {w w':World} {d:Dm} {x:AL} (h:gG w d x) (a:Bl w w'):gG w' d x:=⟨h.1,h.2.1.later a,h.2.2⟩
theorem gG.keepA {w w':World} {d:Dm} {x:AL} (h:gG w d x) (a:mZ 152 w w'):gG w' d x:=⟨h.1,h.2.1.keepA a,h.2.2⟩
def mW (w:World) (g n k:Nat) (D:Nat→Dm) (X:Nat→AL):Prop := ∃ cur,w.heap[g]?=some (.cells cur 152 (0,0))∧cur.size=n*3∧∀ i,n-k≤i→i<n→Lh cur (i*3) (D i) (bW D n i) (X i)∧gG w (D i) (X i)
theorem mW.later {w w':World} {g n k:Nat} {D:Nat→Dm} {X:Nat→AL} (h:mW w g n k D X) (f:Bl w w'):mW w' g n k D X:=by
 obtain ⟨c,d,j,e⟩:=h;exact ⟨c,(f.block g (zY d).1).trans d,j,fun i a b=>⟨(e i a b).1,(e i a b).2.later f⟩⟩
def ff (w:World) (q g n:Nat) (D:Nat→Dm) (X:Nat→AL):Prop:=w.heap[q]?=some (.cells #[.slice (some ⟨g,0,none⟩) n n,.int .i64 (prodN D n:Nat)] 154 (0,0))∧mW w g n n D X
theorem ff.later {w w':World} {q g n:Nat} {D:Nat→Dm} {X:Nat→AL} (h:ff w q g n D X) (a:Bl w w'):ff w' q g n D X:=⟨(a.block q (zY h.1).1).trans h.1,h.2.later a⟩
theorem ff.cells {w:World} {q g n:Nat} {D:Nat→Dm} {X:Nat→AL} (h:ff w q g n D X):q<w.heap.size∧w.cell? ⟨q,0,none⟩=some (.slice (some ⟨g,0,none⟩) n n)∧w.cell? ⟨q,1,none⟩=some (.int .i64 (prodN D n:Nat)) :=
 ⟨(zY h.1).1,by simp [World.cell?,h.1],by simp [World.cell?,h.1]⟩
theorem Kq {w:World} {g o T:Nat} {d:Array Value} {fr:Nat×Nat} {a b c:Value} (h:w.heap[g]?=some (.cells d T fr)):mZ T w (((w.setCell ⟨g,o,none⟩ a).setCell ⟨g,o+1,none⟩ b).setCell ⟨g,o+2,none⟩ c)∧(((w.setCell ⟨g,o,none⟩ a).setCell ⟨g,o+1,none⟩ b).setCell ⟨g,o+2,none⟩ c).heap[g]?=some (.cells (((d.setIfInBounds o a).setIfInBounds (o+1) b).setIfInBounds (o+2) c) T fr) :=
 ⟨eZ (eZ (fl h) (fl (cI h))) (fl (cI (cI h))),cI (cI (cI h))⟩
theorem oF {d:Array Value} {o j:Nat} {a b c:Value} (h:j<o∨o+3≤j):(((d.setIfInBounds o a).setIfInBounds (o+1) b).setIfInBounds (o+2) c)[j]?=d[j]?:=by
 rw [Array.getElem?_setIfInBounds_ne (by omega),Array.getElem?_setIfInBounds_ne (by omega),Array.getElem?_setIfInBounds_ne (by omega)]
theorem GE {d:Array Value} {o:Nat} {a b c:Value} (h:o+3≤d.size):(((d.setIfInBounds o a).setIfInBounds (o+1) b).setIfInBounds (o+2) c)[o]?=some a∧(((d.setIfInBounds o a).setIfInBounds (o+1) b).setIfInBounds (o+2) c)[o+1]?=some b∧(((d.setIfInBounds o a).setIfInBounds (o+1) b).setIfInBounds (o+2) c)[o+2]?=some c:=by
 refine ⟨?_,?_,?_⟩
 ·rw [Array.getElem?_setIfInBounds_ne (by omega),Array.getElem?_setIfInBounds_ne (by omega),Array.getElem?_setIfInBounds_self,if_pos (by omega)]
 ·rw [Array.getElem?_setIfInBounds_ne (by omega),Array.getElem?_setIfInBounds_self,if_pos (by simp;omega)]
 rw [Array.getElem?_setIfInBounds_self,if_pos (by simp;omega)]
theorem mW.put {w:World} {g n k i:Nat} {D:Nat→Dm} {X:Nat→AL} {x:AL} (h:mW w g n k D X) (r:n=k+1+i) (q:gG w (D i) x) :
  mW (((w.setCell ⟨g,i*3,none⟩ (.int .i64 (D i).solve)).setCell ⟨g,i*3+1,none⟩ (.int .i64 (bW D n i))).setCell ⟨g,i*3+2,none⟩ (.slice x.A (D i).n x.c)) g n (k+1) D (fun j=>if j=i then x else X j):=by
 obtain ⟨d,f,l,m⟩:=h;obtain ⟨o1,o2⟩:=Kq (o:=i*3) (a:=.int .i64 (D i).solve) (b:=.int .i64 (bW D n i)) (c:=.slice x.A (D i).n x.c) f;refine ⟨_,o2,by simp [l],fun j a b=>?_⟩
 by_cases e:j=i
 ·subst e
  simp only [if_true];exact ⟨GE (by omega),q.keepA o1⟩
 simp only [if_neg e];obtain ⟨⟨c0,c1,c2⟩,p⟩:=m j (by omega) b
 have s:i<j:=by omega
 refine ⟨⟨?_,?_,?_⟩,p.keepA o1⟩
 ·rw [oF (by omega)];exact c0
 ·rw [oF (by omega)];exact c1
 rw [oF (by omega)];exact c2
theorem Tryz.infoAx:(Tryz.prog.info? 152).map (fun i=>(i.zero,i.size,i.bytes))=some (some (.agg #[.int .i64 0,.int .i64 0,.slice none 0 0]),3,40):=by kernel_rfl
theorem pG (n:Nat) (f:n≤3000) (w:World):(Instr.makeSlice 147 (.int .i64 (n:Int)) (.int .i64 (n:Int))).run Tryz.prog w=.ok (.slice (some ⟨w.heap.size,0,none⟩) n n) (w.alloc (.cells (madeCells #[.int .i64 0,.int .i64 0,.slice none 0 0] (n*3)) 152)):=by
 obtain ⟨i0,a,b,c,d⟩:=info_parts Tryz.infoAx;have e:=run_make (P:=Tryz.prog) w 147 152 i0 _ Tryz.underlying147 a b .i64 .i64 n n (by omega) (Int.le_refl _) (by rw [d];omega) (by omega)
 simp only [Int.toNat_natCast,c] at e;exact e
theorem Gj (A0:Option Addr) (cap n:Nat) (D:Nat→Dm) (A:Nat→Option Addr) (C:Nat→Nat) (w:World) (h:(bM D n).2.2≠0) (f:bd w A0 cap n D A C) :
  Rt 61 #[.agg #[.slice A0 n cap]] w (.tuple #[.pointer none,errV (bM D n).2.2]):=by
 have b:=aA w A0 n cap 24;have i:=aR w A0 n cap 24;have a:=oT A0 cap n D A C (aD w A0 n cap 24) (f.later b);rw [aj h] at a ⊢;obtain ⟨W,g⟩:=ax (aD w A0 n cap 24);rw [g] at b i a;unfold aD at g;have c:=aa b;generalize (bM D n).1=x at a;generalize (bM D n).2.1=y at a;generalize (bM D n).2.2=z at a ⊢;clear f b h
 go_enter Tryz.func61,Tryz.ntmps61
 go_wp2_with fail;refine a.mono ?_;rintro e w1 ⟨rfl,d⟩;go_wp2_with fail;go_returns;exact ⟨rfl,ae c.out d⟩
theorem Gi (A0:Option Addr) (cap n:Nat) (D:Nat→Dm) (A:Nat→Option Addr) (C:Nat→Nat) (w:World) (U:(ah D n).2.2=0) (hR:dS D n) (hM:bd w A0 cap n D A C) :
  Calls Tryz.prog 61 #[.agg #[.slice A0 n cap]] w fun e w'=>(∃ q g X,e=.returned (.tuple #[.pointer (some ⟨q,0,none⟩),.nilIface])∧w.heap.size≤q∧w.heap.size≤g∧ff w' q g n D X)∧Bl w w':=by
 obtain ⟨hn1,V,hp3,hd⟩:=aw U;have s:=aA w A0 n cap 24;have hS:=aF w A0 n cap 24;have hA:=aR w A0 n cap 24;have z:=oT A0 cap n D A C (aD w A0 n cap 24) (hM.later s);rw [K0 U hR,errV_zero] at z;obtain ⟨W,hW⟩:=ax (aD w A0 n cap 24);rw [hW] at s hS hA z;unfold aD at hW;have HB0:=aa s;have HM:=aa hM;have HR:=aa hR;have HD:=aa hd;have HA:=aa hA;have R:Hid (∀ w',Bl w w'→Rt 91 #[.agg #[.slice A0 n cap]] w' (.tuple #[.int .i64 (prodN D n:Nat),.nilIface])):=fun w' hB=>by
  have h:=oE A0 cap n D A C w' (hM.later hB);rw [U,errV_zero,show io D n=(prodN D n:Nat) by unfold io;rw [if_pos U]] at h
  exact h
 have Y:w.heap.size<W.heap.size:=by omega
 have hnI:(n:Int)≤4:=by omega
 have hnI1:1≤(n:Int):=by omega
 have hmk:=pG n (by omega)
 obtain ⟨N,hN⟩:=ax (prodN D n);have HN:=aa hN;rw [hN] at R;clear hM s hR hd U hN hp3
 go_enter Tryz.func61,Tryz.ntmps61
 go_wp2_with fail;refine z.mono ?_;rintro e w0 ⟨rfl,B⟩;have O:=aa (ae HB0.out B);have c0:=aL B Y HA.out;have I:w.heap.size<w0.heap.size:=zW Y B.size;clear B z hA hW;go_wp2_with fail;refine (R.out w0 O.out).mono ?_;rintro e w1 ⟨rfl,E⟩;have M:=aa (ae O.out E);have c1:=aL E I c0;have c:w.heap.size<w1.heap.size:=zW I E.size;obtain ⟨v,hv⟩:=ax (w1.alloc (.cells (madeCells #[.int .i64 0,.int .i64 0,.slice none 0 0] (n*3)) 152));have t:Bl w1 v:=by rw [←hv];go_grown
 have P:=aa t;have HLv:Hid (∀ X,mW v w1.heap.size n 0 D X):=by
  intro X;refine ⟨_,by rw [←hv];exact heap_alloc_new ..,by simp [madeCells],fun i a b=>by omega⟩
 have cv:=aL t c c1;have HCv:=aa cv;have hszv:w.heap.size<v.heap.size:=zW c t.size;clear E t c0;go_wp2_with fail;clear hmk hv cv c1
 go_loopg [10,11] n (fun gg s10 s11 wr => ∃ (k:Nat) (X:Nat→AL),k≤n∧gg=n-k∧s10=.int .i64 (sF D n k:Nat)∧s11=.int .i64 ((n:Int)-1-(k:Int))∧Hid (mW wr w1.heap.size n k D X)∧Hid (Bl w1 wr))
 case atStart=>exact ⟨0,fun _=>⟨[],none,0⟩,zU,rfl,rfl,by go_num,HLv.out _,P⟩
 case round =>
  obtain ⟨k,X,hk,rfl,rfl,rfl,HL,m⟩:=hrel;have cw:wr.cell? ⟨w.heap.size,0,none⟩=some (.slice A0 n cap):=aL m.out c (by have:=(P.out.cell (p:=⟨w.heap.size,0,none⟩) c);rw [←this];exact HCv.out)
  have r:w.heap.size<wr.heap.size:=zW c m.out.size
  by_cases hlt:k<n
  ·obtain ⟨i,hi⟩:∃ i,n=k+1+i:=⟨n-k-1,by omega⟩
   have K:i<n:=by omega
   have e9:(n:Int)-1-(k:Int)=(i:Int):=by omega
   rw [e9];have HI:=aa hi;have hii:(i:Int)<(n:Int):=by omega
   obtain ⟨hcap,h0 | ⟨b,o,rfl,x⟩⟩:=HM.out.later (ae M.out m.out)
   ·omega
   have hcapI:(n:Int)≤(cap:Int):=by omega
   have hbr:b<wr.heap.size:=x.1;obtain ⟨d0,d1,d2,d3⟩:=x.2 i K;have L:=xW (D i) (A i) (C i) wr (HR.out i K) d3;unfold cA at L;have HAp:Hid (sF D n k=bW D n i):=by show _=_;rw [sG k hlt,show n-1-k=i by omega]
   have HAn:Hid (sF D n (k+1)=sF D n k*(D i).n):=by show _=_;rw [sF,show n-1-k=i by omega]
   have hap1:(sF D n k:Int)≤20736:=by have:=pQ (D:=D) V (fun j hj=>(HD.out j hj).2) (k:=k) (by omega);omega
   have H:(sF D n (k+1):Int)≤20736:=by have:=pQ (D:=D) V (fun j hj=>(HD.out j hj).2) (k:=k+1) (by omega);omega
   have f:(sF D n (k+1):Int)=(sF D n k:Int)*((D i).n:Int):=by rw [HAn.out];exact Int.natCast_mul _ _
   have hap4:0≤(sF D n k:Int)*((D i).n:Int):=by rw [←f];omega
   have hap5:(sF D n k:Int)*((D i).n:Int)≤20736:=by rw [←f];exact H
   have HA3:=aa f;have HMs:=aa x;clear d3 x H f e9 hi;go_wp2_with fail;refine L.mono ?_;rintro e w2 ⟨⟨A2,c2,xs,rfl,Z,Lu,Lt⟩,d⟩;have HX2:Hid (gG w2 (D i) ⟨xs,A2,c2⟩):=(⟨Z,Lu,Lt⟩:_∧_∧_);have HB2:=aa (ae m.out d);have Q:=aa (HL.out.later d);have cw2:=aL d r cw;have hsz2:w.heap.size<w2.heap.size:=zW r d.size;obtain ⟨q0,q1,q2,-⟩:=(HMs.out.later d).2 i K;have hbr2:b<w2.heap.size:=zW hbr d.size;obtain ⟨T,l,hcs,-⟩:=Q.out;have hg2:w1.heap.size<w2.heap.size:=(zY l).1;have F:∀ j,j<n*3→∃ u,w2.cell? ⟨w1.heap.size,j,none⟩=some u:=fun j hj=>⟨T[j]'(by omega),by simp [World.cell?,l,show j<T.size by omega]⟩
   have G:∀ j,w2.frozen? ⟨w1.heap.size,j,none⟩=false:=fun j=>by simp [World.frozen?,l]
   obtain ⟨u0,k0⟩:=F (i*3) (by omega)
   obtain ⟨u1,k1⟩:=F (i*3+1) (by omega)
   obtain ⟨u2,k2⟩:=F (i*3+2) (by omega)
   have z0:=G (i*3);have z1:=G (i*3+1);have z2:=G (i*3+2);have HP:=aa (Q.out.put (i:=i) HI.out HX2.out);rw [←HAp.out] at HP;simp only at HP;clear d Z Lu Lt L cw l hcs F G d0 d1 d2;go_wp2_with fail
   go_roundg (n-(k+1))
   case measure=>omega
   case rel=>exact ⟨k+1,fun j=>if j=i then ⟨xs,A2,c2⟩ else X j,by omega,rfl,by rw [HA3.out],by congr 1;have:=HI.out;omega,HP,(((HB2.out.setCell (by simp) _).setCell (by simp) _).setCell (by simp) _:Below ..)⟩
  have hke:k=n:=by omega
  subst hke;have e9:(k:Int)-1-(k:Int) = -1:=by omega
  rw [e9];obtain ⟨y,hy⟩:=ax (wr.alloc (.cells #[.slice (some ⟨w1.heap.size,0,none⟩) k k,.int .i64 N] 154));have J:Bl wr y:=by rw [←hy];go_grown
  have HPl:Hid (ff y wr.heap.size w1.heap.size k D X):=⟨by rw [HN.out,←hy];exact heap_alloc_new ..,HL.out.later J⟩
  have HBy:=aa (ae m.out J);have S:Hid (w.heap.size≤wr.heap.size∧w.heap.size≤w1.heap.size):=⟨Nat.le_of_lt r,Nat.le_of_lt c⟩;clear J cw;go_wp2_with fail;go_returns;exact ⟨⟨wr.heap.size,w1.heap.size,X,rfl,S.out.1,S.out.2,HPl.out⟩,ae M.out HBy.out⟩
def IW (d:Dm) (ap:Nat) (x:AL):Value:=.agg #[.int .i64 d.solve,.int .i64 ap,.slice x.A d.n x.c]
theorem lW (d:Dm) (S:Nat) (al:AL) (x m:Nat) (w:World) (u:1≤S) (v:1≤d.n) (l:d.n≤12) (z:x≤20736) (f:x / S % d.n=m):Rt 127 #[IW d S al,.int .i64 x] w (.int .i64 m):=by
 unfold IW;obtain ⟨Q,e⟩:∃ Q:Nat,x / S=Q:=⟨_,rfl⟩;rw [e] at f;have p:(x:Int) / (S:Int)=(Q:Int):=by rw [←e];exact (Int.natCast_ediv _ _).symm
 have q:(x:Int).tdiv (S:Int)=(Q:Int):=by rw [←e];rfl
 have r:(Q:Int).tmod (d.n:Int)=(m:Int):=by rw [←f];rfl
 have i:Q≤20736:=by rw [←e];exact zV (Nat.div_le_self _ _) (by omega)
 have j:m<d.n:=by rw [←f];exact Nat.mod_lt _ (by omega)
 have s:IntKind.i64.wrap (Q:Int)=(Q:Int):=IntWalk.i64_in _ (by omega)
 have t:IntKind.i64.wrap (m:Int)=(m:Int):=IntWalk.i64_in _ (by omega)
 have k:((S:Int) == 0)=false:=by simp;omega
 have hS0' : ¬ S=0:=by omega
 have g:((d.n:Int) == 0)=false:=by simp;omega
 have hdn0' : ¬ d.n=0:=by omega
 have o:(d.n:Int)≤12:=by omega
 obtain ⟨y,h⟩:=ax (w.alloc (.cells #[.int .i64 d.solve,.int .i64 S,.slice al.A d.n al.c] 152));have a:y.heap[w.heap.size]?=some (.cells #[.int .i64 d.solve,.int .i64 S,.slice al.A d.n al.c] 152 (0,0)):=by rw [←h];exact heap_alloc_new ..
 have B:y.cell? ⟨w.heap.size,1,none⟩=some (.int .i64 S):=by simp [World.cell?,a]
 have C:y.cell? ⟨w.heap.size,2,none⟩=some (.slice al.A d.n al.c):=by simp [World.cell?,a]
 have b:Hid (Bl w y):=by show Below ..;rw [←h];go_grown
 clear a e f
 go_enter Tryz.func127,Tryz.ntmps127
 go_wp2_with fail
 first | (go_quiet (fail);go_wp2_with fail) | skip
 go_ret;exact ⟨rfl,by first | exact b.out | exact ac b.out _⟩
theorem FF {d:Dm} {i:Nat} {x:WL} (h:fh d i x):x.lf=leafB d.mem d.n i:=by
 by_cases a:(d.mem i).formula.size=0
 ·exact (h.1 a).1
 rw [(h.2 a).1];unfold leafB;rw [decide_eq_false a]
 rfl
theorem mW.one {w:World} {g n:Nat} {D:Nat→Dm} {X:Nat→AL} (h:mW w g n n D X) {i:Nat} (f:i<n):g<w.heap.size∧(w.cell? ⟨g,i*3,none⟩=some (.int .i64 (D i).solve)∧w.cell? ⟨g,i*3+1,none⟩=some (.int .i64 (bW D n i))∧w.cell? ⟨g,i*3+2,none⟩=some (.slice (X i).A (D i).n (X i).c))∧gG w (D i) (X i):=by
 obtain ⟨b,a,-,d⟩:=h;obtain ⟨⟨c0,c1,c2⟩,e⟩:=d i (by omega) f
 exact ⟨(zY a).1,⟨by simp [World.cell?,a,c0],by simp [World.cell?,a,c1],by simp [World.cell?,a,c2]⟩,e⟩
theorem gG.way {w:World} {d:Dm} {x:AL} (h:gG w d x) {m:Nat} (i:m<d.n):∃ b,x.A=some ⟨b,0,none⟩∧d.n≤x.c∧b<w.heap.size∧(w.cell? ⟨b,m*5,none⟩=some (.bool (x.xs.getD m ex).lf)∧w.cell? ⟨b,m*5+1,none⟩=some (.slice (x.xs.getD m ex).An (x.xs.getD m ex).nd.length (x.xs.getD m ex).cn)∧w.cell? ⟨b,m*5+2,none⟩=some (.slice (x.xs.getD m ex).As (x.xs.getD m ex).nm.length (x.xs.getD m ex).cs)∧w.cell? ⟨b,m*5+3,none⟩=some (.slice (x.xs.getD m ex).Ai (x.xs.getD m ex).ne.length (x.xs.getD m ex).ci)∧w.cell? ⟨b,m*5+4,none⟩=some (.slice (x.xs.getD m ex).Ag (x.xs.getD m ex).sg.length (x.xs.getD m ex).cg))∧eM w (x.xs.getD m ex):=by
 obtain ⟨e,⟨g,a,f⟩,-⟩:=h
 rcases a with a | ⟨b,cs,fr,a,h4,h5⟩
 ·rw [a] at e;simp at e;omega
 obtain ⟨a0,a1,a2,a3,a4⟩:=h5 m (by omega)
 refine ⟨b,a,by omega,(zY h4).1,⟨by simp [World.cell?,h4,a0],by simp [World.cell?,h4,a1],by simp [World.cell?,h4,a2],by simp [World.cell?,h4,a3],by simp [World.cell?,h4,a4]⟩,f _ ?_⟩
 rw [zZ,zX (by omega)]
 exact List.getElem_mem _
theorem nu {D:Nat→Dm} {n x k:Nat} (a:k<n):((ak D n x).getD k 0).toNat=x / bW D n k % (D k).n:=by
 rw [jr a,Int.toNat_natCast,iq a]
def pO (w:World) (d:Dm) (S:Nat) (al:AL):World:=(w.alloc (.cells #[.int .i64 d.solve,.int .i64 S,.slice al.A d.n al.c] 152)).alloc (.cells #[.bool false,.slice none 0 0,.slice none 0 0,.slice none 0 0,.slice none 0 0] 164)
theorem CE (w:World) (d:Dm) (S:Nat) (al:AL):(pO w d S al).heap.size=w.heap.size+2:=by unfold pO;simp
theorem xT (w:World) (d:Dm) (S:Nat) (al:AL):Bl w (pO w d S al):=by unfold pO;go_grown
theorem IE (w:World) (d:Dm) (S:Nat) (al:AL):(pO w d S al).heap[w.heap.size]?=some (.cells #[.int .i64 d.solve,.int .i64 S,.slice al.A d.n al.c] 152 (0,0)):=by
 unfold pO;rw [heap_alloc_old _ _ (by simp)]
 exact heap_alloc_new ..
theorem IF (w:World) (d:Dm) (S:Nat) (al:AL):(pO w d S al).heap[w.heap.size+1]?=some (.cells #[.bool false,.slice none 0 0,.slice none 0 0,.slice none 0 0,.slice none 0 0] 164 (0,0)):=by
 unfold pO;exact jR ..
theorem sm (d:Dm) (S:Nat) (al:AL) (x m:Nat) (w:World) (O:1≤S) (Q:1≤d.n) (A:d.n≤12) (T:x≤20736) (D:x / S % d.n=m) (N:gG w d al):Rt 100 #[IW d S al,.int .i64 x] w (wayV (al.xs.getD m ex)):=by
 have E:m<d.n:=by rw [←D];exact Nat.mod_lt _ Q
 obtain ⟨b,j,V,a,⟨H,I,J,K,L⟩,-⟩:=N.way E;obtain ⟨z,U⟩:=ax (al.xs.getD m ex);rw [U] at H I J K L ⊢;have u:Hid (∀ w',Rt 127 #[.agg #[.int .i64 d.solve,.int .i64 S,.slice (some ⟨b,0,none⟩) d.n al.c],.int .i64 x] w' (.int .i64 m)):=fun w'=>by
  have h:=lW d S al x m w' O Q A T D;unfold IW at h;rw [j] at h;exact h
 have g:=xT w d S al;have q:=CE w d S al;have i:=IE w d S al;have l:=IF w d S al;obtain ⟨W,y⟩:=ax (pO w d S al);rw [y] at g q i l;unfold pO at y;unfold IW;rw [j] at y i ⊢;have P:b<W.heap.size:=zW a g.size;have B:w.heap.size<W.heap.size:=by omega
 have C:w.heap.size+1<W.heap.size:=by omega
 have M:Hid (∀ w',Bl W w'→(w'.cell? ⟨w.heap.size,0,none⟩=some (.int .i64 d.solve)∧w'.cell? ⟨w.heap.size,1,none⟩=some (.int .i64 S)∧w'.cell? ⟨w.heap.size,2,none⟩=some (.slice (some ⟨b,0,none⟩) d.n al.c))∧(w'.cell? ⟨b,m*5,none⟩=some (.bool z.lf)∧w'.cell? ⟨b,m*5+1,none⟩=some (.slice z.An z.nd.length z.cn)∧w'.cell? ⟨b,m*5+2,none⟩=some (.slice z.As z.nm.length z.cs)∧w'.cell? ⟨b,m*5+3,none⟩=some (.slice z.Ai z.ne.length z.ci)∧w'.cell? ⟨b,m*5+4,none⟩=some (.slice z.Ag z.sg.length z.cg))∧w'.heap[w.heap.size+1]?=some (.cells #[.bool false,.slice none 0 0,.slice none 0 0,.slice none 0 0,.slice none 0 0] 164 (0,0))∧W.heap.size≤w'.heap.size):=fun w' t=>by
  have G:=(t.block w.heap.size B).trans i;have s:=ae g t;exact ⟨⟨by simp [World.cell?,G],by simp [World.cell?,G],by simp [World.cell?,G]⟩,⟨aL s a H,aL s a I,aL s a J,aL s a K,aL s a L⟩,(t.block _ C).trans l,t.size⟩
 obtain ⟨⟨a0,a1,a2⟩,-,F,-⟩:=M.out W (zS);have o:=aa g;have Y:(m:Int)<(d.n:Int):=by omega
 have X:(d.n:Int)≤12:=by omega
 clear g q i l N U j D T O H I J K L F
 go_enter Tryz.func100,Tryz.ntmps100
 go_wp2_with fail
 go_region_law ((go_simp;refine (u.out _).mono ?_;rintro e w3 ⟨rfl,r⟩;have k:=ae (W0:=W) (by go_grown) r;obtain ⟨⟨n0,n1,n2⟩,⟨u0,u1,u2,u3,u4⟩,R,Z⟩:=M.out _ k;obtain ⟨hg,⟨r0,r1,r2,r3,r4⟩,f⟩:=ie R;have f0:=f 0;have f1:=f 1;have f2:=f 2;have f3:=f 3;have f4:=f 4;have p:=aa k;clear r f R))
 all_goals clear k
 all_goals go_wp2_with fail
 all_goals refine bodyPost_ret (v:=wayV z) (by simp [results,Tryz.results100,go_sem,r0,r1,r2,r3,r4,wayV]) rfl ⟨rfl,?_⟩
 all_goals first
  | exact (((((ae o.out p.out).setCell (by simp) _).setCell (by simp) _).setCell (by simp) _).setCell (by simp) _).setCell (by simp) _
  | exact ac ((((((ae o.out p.out).setCell (by simp) _).setCell (by simp) _).setCell (by simp) _).setCell (by simp) _).setCell (by simp) _) 1
theorem vI (z:WL) (w:World):(Instr.field 164 (wayV z) 0).run Tryz.prog w=.ok (.bool z.lf) w:=by kernel_rfl
theorem vJ (z:WL) (w:World):(Instr.field 164 (wayV z) 3).run Tryz.prog w=.ok (.slice z.Ai z.ne.length z.ci) w:=by kernel_rfl
theorem ym (q g n:Nat) (D:Nat→Dm) (X:Nat→AL) (x:Nat) (w:World) (hE:(ah D n).2.2=0) (hx:x<prodN D n) (V:ff w q g n D X):Rt 98 #[.pointer (some ⟨q,0,none⟩),.int .i64 x] w (.int .i64 (byTo D (ak D n x) n)):=by
 obtain ⟨hn1,hn4,hp3,hd⟩:=aw hE;have hn':(n:Int)≤4:=by omega
 have S:=aa hd;have HA:=aa V;obtain ⟨hq,q0,q1⟩:=V.cells;obtain ⟨L,W⟩:=ax (ak D n x);have T:Hid (∀ k,k<n→(L.getD k 0).toNat=x / bW D n k % (D k).n):=fun k hk=>by rw [←W];exact nu hk
 rw [W];have hxs:x≤20736:=by omega
 clear W V hd
 go_enter Tryz.func98,Tryz.ntmps98
 go_wp2_with fail;clear q0 q1
 go_loopg [5,13] n (fun gg s5 s13 wr => ∃ (k:Nat),k≤n∧gg=n-k∧s5=.int .i64 (byTo D L k)∧s13=.int .i64 k∧Bl w wr)
 case atStart=>exact ⟨0,zU,rfl,rfl,rfl,zS⟩
 case round =>
  obtain ⟨k,hk,rfl,rfl,rfl,t⟩:=hrel;have I:=aa t
  by_cases p:k<n
  ·have hki:(k:Int)<(n:Int):=by omega
   have f:=HA.out.later t;obtain ⟨hg,⟨c0,c1,c2⟩,l⟩:=f.2.one p;obtain ⟨m,Q⟩:=ax (x / bW D n k % (D k).n);have K:=(S.out k p).1;have N:m<(D k).n:=by rw [←Q];exact Nat.mod_lt _ K
   have M:=FF (l.2.2 m N);have y:(L.getD k 0).toNat=m:=by rw [T.out k p,Q]
   have J:Hid (∀ w',Bl wr w'→Rt 100 #[.agg #[.int .i64 (D k).solve,.int .i64 (bW D n k:Nat),.slice (X k).A (D k).n (X k).c],.int .i64 x] w' (wayV ((X k).xs.getD m ex))):=fun w' G=>sm (D k) (bW D n k) (X k) x m w' (ib (fun i hi=>(S.out i hi).1) p) K (S.out k p).2 hxs Q (l.later G)
   have HB:Hid (∀ h,leafB (D k).mem (D k).n m=h→(h=true→byTo D L (k+1)=byTo D L k)∧(h=false→(byTo D L k<0→byTo D L (k+1)=(k:Int))∧∀ j:Nat,byTo D L k=(j:Int)→byTo D L (k+1)=if (D j).solve<(D k).solve then (k:Int) else (j:Int))):=fun h e=>by
    refine ⟨fun P=>?_,fun P=>⟨fun e3=>?_,fun j z=>?_⟩⟩
    ·refine my fun ⟨h1,_⟩=>?_
     rw [y,e,P] at h1;cases h1
    ·exact ro (by rw [y,e,P]) (Or.inl e3)
    by_cases B:(D j).solve<(D k).solve
    ·rw [if_pos B]
     exact ro (by rw [y,e,P]) (Or.inr (by rw [z,Int.toNat_natCast];exact B))
    rw [if_neg B,←z];refine my fun ⟨_,h2⟩=>?_
    rw [z,Int.toNat_natCast] at h2
    omega
   obtain ⟨lf,o⟩:=ax (leafB (D k).mem (D k).n m);have C:=aa (HB.out lf o);have Y:∀ w',(Instr.field 164 (wayV ((X k).xs.getD m ex)) 0).run Tryz.prog w'=.ok (.bool lf) w':=fun w'=>by rw [vI,M,o]
   have U:Hid (∀ w',Bl wr w'→w'.cell? ⟨q,0,none⟩=some (.slice (some ⟨g,0,none⟩) n n)∧q<w'.heap.size∧g<w'.heap.size∧∀ j,j<n→w'.cell? ⟨g,j*3,none⟩=some (.int .i64 (D j).solve)):=fun w' G=>⟨(f.later G).cells.2.1,(f.later G).cells.1,zW hg G.size,fun j z=>((f.later G).2.one z).2.1.1⟩
   have R:=aa (by_in D L k);obtain ⟨v,hv⟩:=ax (wr.alloc (.cells #[.int .i64 (D k).solve,.int .i64 (bW D n k:Nat),.slice (X k).A (D k).n (X k).c] 152));have r:v.heap[wr.heap.size]?=some (.cells #[.int .i64 (D k).solve,.int .i64 (bW D n k:Nat),.slice (X k).A (D k).n (X k).c] 152 (0,0)):=by rw [←hv];exact heap_alloc_new ..
   have E:Bl wr v:=by rw [←hv];go_grown
   have H:=aa E;have v0:v.cell? ⟨wr.heap.size,0,none⟩=some (.int .i64 (D k).solve):=by simp [World.cell?,r]
   have v1:v.cell? ⟨wr.heap.size,1,none⟩=some (.int .i64 (bW D n k:Nat)):=by simp [World.cell?,r]
   have v2:v.cell? ⟨wr.heap.size,2,none⟩=some (.slice (X k).A (D k).n (X k).c):=by simp [World.cell?,r]
   have O:wr.heap.size<v.heap.size:=(zY r).1;have F:=J.out v E;generalize wayV ((X k).xs.getD m ex)=wv at F Y;clear f l Q N M y o r E t J HB;go_wp2_with fail;refine F.mono ?_;rintro e w3 ⟨rfl,b⟩;have s:=aa (ae I.out (ae H.out b));have d:=ae H.out b;obtain ⟨p0,hq3,hg3,u⟩:=U.out w3 d;have t1:w3.cell? ⟨wr.heap.size,0,none⟩=some (.int .i64 (D k).solve):=aL b O v0;have ht3:wr.heap.size<w3.heap.size:=zW O b.size;clear F v0 v1 v2 hv c0 c1 c2;cases lf
   ·rcases R.out with hneg | ⟨j,z,hjk⟩
    ·have a:Hid (byTo D L (k+1)=(k:Int)):=(C.out.2 rfl).1 (by omega)
     rw [hneg];clear hneg b d u;go_wp2_with fail
     go_quiet (fail)
     go_wp2_with fail
     go_roundg (n-(k+1))
     case measure=>omega
     case rel=>exact ⟨k+1,by omega,rfl,by rw [a.out],by go_num,ac s.out _⟩
    have a:Hid (byTo D L (k+1)=if (D j).solve<(D k).solve then (k:Int) else (j:Int)):=(C.out.2 rfl).2 j z
    have cj3:=u j (by omega)
    have hjn:(j:Int)<(n:Int):=by omega
    have hj0:((j:Int) == -1)=false:=by simp
    rw [z];clear z b d u
    by_cases B:(D j).solve<(D k).solve
    ·rw [if_pos B] at a
     have Lt:decide ((D j).solve<(D k).solve)=true:=decide_eq_true B;go_wp2_with fail
     go_quiet (fail)
     go_wp2_with fail
     go_roundg (n-(k+1))
     case measure=>omega
     case rel=>exact ⟨k+1,by omega,rfl,by rw [a.out],by go_num,ac s.out _⟩
    rw [if_neg B] at a;have Lt:decide ((D j).solve<(D k).solve)=false:=decide_eq_false B;go_wp2_with fail
    go_quiet (fail)
    go_wp2_with fail
    go_roundg (n-(k+1))
    case measure=>omega
    case rel=>exact ⟨k+1,by omega,rfl,by rw [a.out],by go_num,ac s.out _⟩
   have a:Hid (byTo D L (k+1)=byTo D L k):=C.out.1 rfl;generalize byTo D L k=bk at a;clear b d u;go_wp2_with fail
   go_roundg (n-(k+1))
   case measure=>omega
   case rel=>exact ⟨k+1,by omega,rfl,by rw [a.out],by go_num,s.out⟩
  have Z:k=n:=by omega
  subst Z;clear t;go_wp2_with fail;go_ret;exact ⟨rfl,I.out⟩
end Go.Proofs.YthlhjjabkgpenaaGreatDoor
