/- What All of package ru -/
import Derived.Test.YtohgnbgamfepoaaGreatDoorJHAW
import Derived.Test.YtohgnbgamfepoaaGreatDoorJHAY
namespace Go.Proofs.YtohgnbgamfepoaaGreatDoor
open ChangeShapes WideShapes ChangeAt RowKit
set_option maxRecDepth 99999
set_option maxHeartbeats 0
noncomputable def Em (D:Nat→Dm) (i:Nat):Bool:=decide ((bv (D i)).2≠0)
noncomputable def aO (D:Nat→Dm) (n:Nat):Int×Int×Int :=
 if (am D n).2.2≠0 then am D n
 else if 0≤findFrom (Em D) n 0 then (findFrom (Em D) n 0,bv (D (findFrom (Em D) n 0).toNat))
 else (-1,-1,0)
theorem Kz {D:Nat→Dm} {n:Nat} (h:(am D n).2.2≠0):aO D n=am D n:=by unfold aO;rw [if_pos h]
theorem KA {D:Nat→Dm} {n i:Nat} (h:(am D n).2.2=0) (d:i<n) (a:(bv (D i)).2≠0) (b:∀ j,j<i→(bv (D j)).2=0):aO D n=((i:Int),(bv (D i)).1,(bv (D i)).2):=by
 have e:findFrom (Em D) n 0=(i:Int):=eP (zU) (by omega) (decide_eq_true a) fun j _ c=>decide_eq_false (by simpa using b j c)
 unfold aO;rw [if_neg (by simpa using h),e,if_pos (by omega),Int.toNat_natCast]
theorem KB {D:Nat→Dm} {n:Nat} (h:(am D n).2.2=0) (a:∀ j,j<n→(bv (D j)).2=0):aO D n=(-1,-1,0):=by
 unfold aO;rw [if_neg (by simpa using h),bR (p:=Em D) fun j _ b=>decide_eq_false (by simpa using a j (by omega)),if_neg (by omega)]
theorem pT (A0:Option Addr) (cap n:Nat) (D:Nat→Dm) (A:Nat→Option Addr) (C:Nat→Nat) (w:World) (M:aW w A0 cap n D A C):Rt 72 #[.agg #[.slice A0 n cap]] w (.tuple #[.int .i64 (aO D n).1,.int .i64 (aO D n).2.1,errV (aO D n).2.2]):=by
 have q:=ao w A0 n cap 24;have hS:=av w A0 n cap 24;have I:=aH w A0 n cap 24;have a:=sh A0 cap n D A C (ax w A0 n cap 24) (M.later q);obtain ⟨W,N⟩:=az (ax w A0 n cap 24);rw [N] at q hS I a;unfold ax at N;have p:=aa q;have X:=aa M;have H:w.heap.size<W.heap.size:=by omega
 clear M q
 by_cases h:(am D n).2.2=0
 case neg =>
  rw [Kz h];rw [ak h] at a ⊢;generalize (am D n).1=x at a ⊢;generalize (am D n).2.1=y at a ⊢;generalize (am D n).2.2=c at a ⊢;clear h
  go_enter Tryz.func72,Tryz.ntmps72
  go_wp2_with fail;refine a.mono ?_;rintro e w1 ⟨rfl,i⟩;go_wp2_with fail;go_returns;exact ⟨rfl,ae p.out i⟩
 obtain ⟨hn1,hn4,-,-⟩:=au h;have R:=aa h;rw [h,errV_zero] at a;generalize (am D n).1=x at a;generalize (am D n).2.1=y at a;have hnI:(n:Int)≤4:=by omega
 have HA:=aa I;clear h
 go_enter Tryz.func72,Tryz.ntmps72
 go_wp2_with fail;refine a.mono ?_;rintro e w1 ⟨rfl,i⟩;have J:=aa i;have c1:w1.cell? ⟨w.heap.size,0,none⟩=some (.slice A0 n cap):=aC i H I;have V:w.heap.size<w1.heap.size:=zW H i.size;clear i a I N;go_wp2_with fail
 go_loopg [26] n (fun g s26 wr => ∃ (k:Nat),k≤n∧g=n-k∧s26=.int .i64 k∧Hid (∀ j,j<k→(bv (D j)).2=0)∧Bl W wr)
 case atStart=>exact ⟨0,zU,rfl,rfl,(fun j U=>absurd U (Nat.not_lt_zero _):∀ j,j<0→_),J.out⟩
 case round =>
  obtain ⟨k,hk,rfl,rfl,K,r⟩:=hrel;have u:=aa r
  by_cases G:k<n
  ·have hki:(k:Int)<(n:Int):=by omega
   obtain ⟨T,h0 | ⟨b,o,rfl,B⟩⟩:=X.out.later (ae p.out r)
   ·omega
   have O:(n:Int)≤(cap:Int):=by omega
   obtain ⟨h0,h1,h2,S⟩:=B.2 k G;have hbl:b<wr.heap.size:=B.1;have v:=aT wr (D k) (A k) (C k) 70;have f:=yz (D k) (A k) (C k) (aL wr (D k) (A k) (C k) 70) (S.later v);obtain ⟨Y,Z,d2,Q⟩:=fw (w:=wr) (d:=D k) (A:=A k) (cap:=C k) (zS);have t:=aa v;unfold cQ at f;obtain ⟨W2,F⟩:=az (aL wr (D k) (A k) (C k) 70);rw [F] at Y Z d2 Q t f;unfold aL at F;clear S B v r
   by_cases h:(bv (D k)).2=0
   ·rw [h,errV_zero] at f
    have L:Hid (∀ j,j<k+1→(bv (D j)).2=0):=fun j U=>by
     by_cases e:j=k
     ·rw [e];exact h
     exact K.out j (by omega)
    generalize (bv (D k)).1=z at f;clear h;go_wp2_with fail;refine f.mono ?_;rintro e w2 ⟨rfl,m⟩;have s:=aa (ae u.out (ae t.out m));clear m f;go_wp2_with fail
    go_roundg (n-(k+1))
    case measure=>omega
    case rel=>exact ⟨k+1,by omega,rfl,by go_num,L,s.out⟩
   have l:Hid (aO D n=((k:Int),(bv (D k)).1,(bv (D k)).2)):=KA R.out G h K.out;have E:=aa h;rw [ak h] at f;generalize (bv (D k)).1=z at f l;generalize (bv (D k)).2=c at f l E;clear h;go_wp2_with fail;refine f.mono ?_;rintro e w2 ⟨rfl,m⟩;have s:=aa (ae u.out (ae t.out m));clear m f;go_wp2_with fail;go_returns;rw [l.out];exact ⟨by rw [ak E.out];rfl,ae p.out s.out⟩
  have P:k=n:=by omega
  subst P;have l:Hid (aO D k=(-1,-1,0)):=KB R.out K.out;clear r;go_wp2_with fail;go_returns;rw [l.out];exact ⟨rfl,ae p.out u.out⟩
theorem za (A0:Option Addr) (cap n:Nat) (D:Nat→Dm) (A:Nat→Option Addr) (C:Nat→Nat) (w:World) (I:aW w A0 cap n D A C):Rt 18 #[.agg #[.slice A0 n cap]] w (.tuple #[.int .i64 (aO D n).1,.int .i64 (aO D n).2.1,.int .i64 (aO D n).2.2]):=by
 have p:=ao w A0 n cap 24;have U:=av w A0 n cap 24;have H:=aH w A0 n cap 24;have a:=lH A0 cap n D A C (ax w A0 n cap 24) (I.later p);obtain ⟨W,J⟩:=az (ax w A0 n cap 24);rw [J] at p U H a;unfold ax at J;have m:=aa p;have S:=aa I;have B:w.heap.size<W.heap.size:=by omega
 clear I p
 by_cases f:(am D n).2.2=0
 case neg =>
  rw [Kz f];have u:((am D n).2.2 != 0)=true:=by simpa using f
  generalize (am D n).1=x at a ⊢;generalize (am D n).2.1=y at a ⊢;generalize (am D n).2.2=c at a u ⊢;clear f
  go_enter Tryz.func18,Tryz.ntmps18
  go_wp2_with fail;refine a.mono ?_;rintro e w1 ⟨rfl,q⟩;go_wp2_with fail;go_returns;exact ⟨rfl,ae m.out q⟩
 obtain ⟨Y,Z,-,-⟩:=au f;have M:=aa f;rw [f] at a;generalize (am D n).1=x at a;generalize (am D n).2.1=y at a;have q0:(n:Int)≤4:=by omega
 have R:=aa H;clear f
 go_enter Tryz.func18,Tryz.ntmps18
 go_wp2_with fail;refine a.mono ?_;rintro e w1 ⟨rfl,q⟩;have E:=aa q;clear q a H J;go_wp2_with fail
 go_loopg [8] n (fun g s8 wr => ∃ (k:Nat),k≤n∧g=n-k∧s8=.int .i64 k∧Hid (∀ j,j<k→(bv (D j)).2=0)∧Bl W wr)
 case atStart=>exact ⟨0,zU,rfl,rfl,(fun j P=>absurd P (Nat.not_lt_zero _):∀ j,j<0→_),E.out⟩
 case round =>
  obtain ⟨k,hk,rfl,rfl,F,h⟩:=hrel;have s:=aa h;have cw:wr.cell? ⟨w.heap.size,0,none⟩=some (.slice A0 n cap):=aC h B R.out;have Q:w.heap.size<wr.heap.size:=zW B h.size
  by_cases v:k<n
  ·have X:(k:Int)<(n:Int):=by omega
   obtain ⟨O,T | ⟨b,o,rfl,t⟩⟩:=S.out.later (ae m.out h)
   ·omega
   have K:(n:Int)≤(cap:Int):=by omega
   obtain ⟨T,h1,h2,N⟩:=t.2 k v;have V:b<wr.heap.size:=t.1;have d:=p8 (D k) (A k) (C k) wr N;unfold cQ at d;clear N t h
   by_cases f:(bv (D k)).2=0
   ·have G:Hid (∀ j,j<k+1→(bv (D j)).2=0):=fun j P=>by
     by_cases e:j=k
     ·rw [e];exact f
     exact F.out j (by omega)
    rw [f] at d;generalize (bv (D k)).1=z at d;clear f;go_wp2_with fail;refine d.mono ?_;rintro e w2 ⟨⟨A2,c2,xs,rfl,-⟩,l⟩;have r:=aa (ae s.out l);clear l d;go_wp2_with fail
    go_roundg (n-(k+1))
    case measure=>omega
    case rel=>exact ⟨k+1,by omega,rfl,by go_num,G,r.out⟩
   have i:Hid (aO D n=((k:Int),(bv (D k)).1,(bv (D k)).2)):=KA M.out v f F.out;have u:((bv (D k)).2 != 0)=true:=by simpa using f
   generalize (bv (D k)).1=z at d i;generalize (bv (D k)).2=c at d i u;clear f;go_wp2_with fail;refine d.mono ?_;rintro e w2 ⟨⟨A2,c2,xs,rfl,-⟩,l⟩;have r:=aa (ae s.out l);clear l d;go_wp2_with fail;go_returns;rw [i.out];exact ⟨rfl,ae m.out r.out⟩
  have L:k=n:=by omega
  subst L;have i:Hid (aO D k=(-1,-1,0)):=KB M.out F.out;clear h;go_wp2_with fail;go_returns;rw [i.out];exact ⟨rfl,ae m.out s.out⟩
def tJ (D:Nat→Dm) (n:Nat):Nat→Nat
 | 0=>1
 | k+1=>tJ D n k*(D (n-1-k)).n
theorem tK {D:Nat→Dm} {n:Nat}:∀ k,k<n→tJ D n k=cA D n (n-1-k)
 | 0,h=>by unfold cA;rw [show n-1-(n-1-0)=0 by omega];rfl
 | k+1,h=>by
  rw [tJ,tK k (by omega)]
  unfold cA;rw [show n-1-(n-1-(k+1))=k+1 by omega,stepTo_front,show n-1-(k+1)+1=n-1-k by omega,show n-1-(n-1-k)=k by omega]
  exact Nat.mul_comm _ _
theorem Ej {D:Nat→Dm} {n:Nat} (h:∀ j,j<n→(D j).n≤12):∀ k,k≤n→tJ D n k≤12 ^ k
 | 0,_=>zT
 | k+1,hk=>by
  rw [tJ,Nat.pow_succ];exact Nat.mul_le_mul (Ej h k (by omega)) (h _ (by omega))
theorem qJ {D:Nat→Dm} {n:Nat} (b:n≤4) (h:∀ j,j<n→(D j).n≤12) {k:Nat} (a:k≤n):tJ D n k≤20736 :=
 zV (Ej h k a) (zV (Nat.pow_le_pow_right (by omega) (show k≤4 by omega)) (by decide))
structure AL where
 xs:List WL
 A:Option Addr
 c:Nat
def KQ (cur:Array Value) (o:Nat) (d:Dm) (ap:Nat) (x:AL):Prop:=cur[o]?=some (.int .i64 d.solve)∧cur[o+1]?=some (.int .i64 ap)∧cur[o+2]?=some (.slice x.A d.n x.c)
def iq (w:World) (d:Dm) (x:AL):Prop:=x.xs.length=d.n∧iu w x.A x.c x.xs∧∀ k,k<d.n→fK d k (x.xs.getD k eW)
theorem iq.later {w w':World} {d:Dm} {x:AL} (h:iq w d x) (a:Bl w w'):iq w' d x:=⟨h.1,h.2.1.later a,h.2.2⟩
theorem iq.keepA {w w':World} {d:Dm} {x:AL} (h:iq w d x) (a:kt 143 w w'):iq w' d x:=⟨h.1,h.2.1.keepA a,h.2.2⟩
def nY (w:World) (g n k:Nat) (D:Nat→Dm) (X:Nat→AL):Prop := ∃ cur,w.heap[g]?=some (.cells cur 143 (0,0))∧cur.size=n*3∧∀ i,n-k≤i→i<n→KQ cur (i*3) (D i) (cA D n i) (X i)∧iq w (D i) (X i)
theorem nY.later {w w':World} {g n k:Nat} {D:Nat→Dm} {X:Nat→AL} (h:nY w g n k D X) (f:Bl w w'):nY w' g n k D X:=by
 obtain ⟨c,d,j,e⟩:=h;exact ⟨c,(f.block g (zY d).1).trans d,j,fun i a b=>⟨(e i a b).1,(e i a b).2.later f⟩⟩
def cJ (w:World) (q g n:Nat) (D:Nat→Dm) (X:Nat→AL):Prop:=w.heap[q]?=some (.cells #[.slice (some ⟨g,0,none⟩) n n,.int .i64 (prodN D n:Nat)] 145 (0,0))∧nY w g n n D X
theorem cJ.later {w w':World} {q g n:Nat} {D:Nat→Dm} {X:Nat→AL} (h:cJ w q g n D X) (a:Bl w w'):cJ w' q g n D X:=⟨(a.block q (zY h.1).1).trans h.1,h.2.later a⟩
theorem cJ.cells {w:World} {q g n:Nat} {D:Nat→Dm} {X:Nat→AL} (h:cJ w q g n D X):q<w.heap.size∧w.cell? ⟨q,0,none⟩=some (.slice (some ⟨g,0,none⟩) n n)∧w.cell? ⟨q,1,none⟩=some (.int .i64 (prodN D n:Nat)) :=
 ⟨(zY h.1).1,by simp [World.cell?,h.1],by simp [World.cell?,h.1]⟩
theorem Kd {w:World} {g o T:Nat} {d:Array Value} {fr:Nat×Nat} {a b c:Value} (h:w.heap[g]?=some (.cells d T fr)):kt T w (((w.setCell ⟨g,o,none⟩ a).setCell ⟨g,o+1,none⟩ b).setCell ⟨g,o+2,none⟩ c)∧(((w.setCell ⟨g,o,none⟩ a).setCell ⟨g,o+1,none⟩ b).setCell ⟨g,o+2,none⟩ c).heap[g]?=some (.cells (((d.setIfInBounds o a).setIfInBounds (o+1) b).setIfInBounds (o+2) c) T fr) :=
 ⟨eH (eH (eu h) (eu (cI h))) (eu (cI (cI h))),cI (cI (cI h))⟩
theorem pI {d:Array Value} {o j:Nat} {a b c:Value} (h:j<o∨o+3≤j):(((d.setIfInBounds o a).setIfInBounds (o+1) b).setIfInBounds (o+2) c)[j]?=d[j]?:=by
 rw [Array.getElem?_setIfInBounds_ne (by omega),Array.getElem?_setIfInBounds_ne (by omega),Array.getElem?_setIfInBounds_ne (by omega)]
theorem Is {d:Array Value} {o:Nat} {a b c:Value} (h:o+3≤d.size):(((d.setIfInBounds o a).setIfInBounds (o+1) b).setIfInBounds (o+2) c)[o]?=some a∧(((d.setIfInBounds o a).setIfInBounds (o+1) b).setIfInBounds (o+2) c)[o+1]?=some b∧(((d.setIfInBounds o a).setIfInBounds (o+1) b).setIfInBounds (o+2) c)[o+2]?=some c:=by
 refine ⟨?_,?_,?_⟩
 ·rw [Array.getElem?_setIfInBounds_ne (by omega),Array.getElem?_setIfInBounds_ne (by omega),Array.getElem?_setIfInBounds_self,if_pos (by omega)]
 ·rw [Array.getElem?_setIfInBounds_ne (by omega),Array.getElem?_setIfInBounds_self,if_pos (by simp;omega)]
 rw [Array.getElem?_setIfInBounds_self,if_pos (by simp;omega)]
theorem nY.put {w:World} {g n k i:Nat} {D:Nat→Dm} {X:Nat→AL} {x:AL} (h:nY w g n k D X) (r:n=k+1+i) (q:iq w (D i) x) :
  nY (((w.setCell ⟨g,i*3,none⟩ (.int .i64 (D i).solve)).setCell ⟨g,i*3+1,none⟩ (.int .i64 (cA D n i))).setCell ⟨g,i*3+2,none⟩ (.slice x.A (D i).n x.c)) g n (k+1) D (fun j=>if j=i then x else X j):=by
 obtain ⟨d,f,l,m⟩:=h;obtain ⟨o1,o2⟩:=Kd (o:=i*3) (a:=.int .i64 (D i).solve) (b:=.int .i64 (cA D n i)) (c:=.slice x.A (D i).n x.c) f;refine ⟨_,o2,by simp [l],fun j a b=>?_⟩
 by_cases e:j=i
 ·subst e
  simp only [if_true];exact ⟨Is (by omega),q.keepA o1⟩
 simp only [if_neg e];obtain ⟨⟨c0,c1,c2⟩,p⟩:=m j (by omega) b
 have s:i<j:=by omega
 refine ⟨⟨?_,?_,?_⟩,p.keepA o1⟩
 ·rw [pI (by omega)];exact c0
 ·rw [pI (by omega)];exact c1
 rw [pI (by omega)];exact c2
theorem Tryz.infoAx:(Tryz.prog.info? 143).map (fun i=>(i.zero,i.size,i.bytes))=some (some (.agg #[.int .i64 0,.int .i64 0,.slice none 0 0]),3,40):=by kernel_rfl
theorem qB (n:Nat) (f:n≤3000) (w:World):(Instr.makeSlice 138 (.int .i64 (n:Int)) (.int .i64 (n:Int))).run Tryz.prog w=.ok (.slice (some ⟨w.heap.size,0,none⟩) n n) (w.alloc (.cells (madeCells #[.int .i64 0,.int .i64 0,.slice none 0 0] (n*3)) 143)):=by
 obtain ⟨i0,a,b,c,d⟩:=info_parts Tryz.infoAx;have e:=run_make (P:=Tryz.prog) w 138 143 i0 _ Tryz.underlying138 a b .i64 .i64 n n (by omega) (Int.le_refl _) (by rw [d];omega) (by omega)
 simp only [Int.toNat_natCast,c] at e;exact e
theorem sG (A0:Option Addr) (cap n:Nat) (D:Nat→Dm) (A:Nat→Option Addr) (C:Nat→Nat) (w:World) (h:(aO D n).2.2≠0) (f:aW w A0 cap n D A C) :
  Rt 36 #[.agg #[.slice A0 n cap]] w (.tuple #[.pointer none,errV (aO D n).2.2]):=by
 have b:=ao w A0 n cap 24;have i:=aH w A0 n cap 24;have a:=pT A0 cap n D A C (ax w A0 n cap 24) (f.later b);rw [ak h] at a ⊢;obtain ⟨W,g⟩:=az (ax w A0 n cap 24);rw [g] at b i a;unfold ax at g;have c:=aa b;generalize (aO D n).1=x at a;generalize (aO D n).2.1=y at a;generalize (aO D n).2.2=z at a ⊢;clear f b h
 go_enter Tryz.func36,Tryz.ntmps36
 go_wp2_with fail;refine a.mono ?_;rintro e w1 ⟨rfl,d⟩;go_wp2_with fail;go_returns;exact ⟨rfl,ae c.out d⟩
theorem nL (A0:Option Addr) (cap n:Nat) (D:Nat→Dm) (A:Nat→Option Addr) (C:Nat→Nat) (w:World) (U:(am D n).2.2=0) (hR:dI D n) (hM:aW w A0 cap n D A C) :
  Calls Tryz.prog 36 #[.agg #[.slice A0 n cap]] w fun e w'=>(∃ q g X,e=.returned (.tuple #[.pointer (some ⟨q,0,none⟩),.nilIface])∧w.heap.size≤q∧w.heap.size≤g∧cJ w' q g n D X)∧Bl w w':=by
 obtain ⟨hn1,V,hp3,hd⟩:=au U;have s:=ao w A0 n cap 24;have hS:=av w A0 n cap 24;have hA:=aH w A0 n cap 24;have z:=pT A0 cap n D A C (ax w A0 n cap 24) (hM.later s);rw [KB U hR,errV_zero] at z;obtain ⟨W,hW⟩:=az (ax w A0 n cap 24);rw [hW] at s hS hA z;unfold ax at hW;have HB0:=aa s;have HM:=aa hM;have HR:=aa hR;have HD:=aa hd;have HA:=aa hA;have R:Hid (∀ w',Bl w w'→Rt 73 #[.agg #[.slice A0 n cap]] w' (.tuple #[.int .i64 (prodN D n:Nat),.nilIface])):=fun w' hB=>by
  have h:=pE A0 cap n D A C w' (hM.later hB);rw [U,errV_zero,show iU D n=(prodN D n:Nat) by unfold iU;rw [if_pos U]] at h
  exact h
 have Y:w.heap.size<W.heap.size:=by omega
 have hnI:(n:Int)≤4:=by omega
 have hnI1:1≤(n:Int):=by omega
 have hmk:=qB n (by omega)
 obtain ⟨N,hN⟩:=az (prodN D n);have HN:=aa hN;rw [hN] at R;clear hM s hR hd U hN hp3
 go_enter Tryz.func36,Tryz.ntmps36
 go_wp2_with fail;refine z.mono ?_;rintro e w0 ⟨rfl,B⟩;have O:=aa (ae HB0.out B);have c0:=aC B Y HA.out;have I:w.heap.size<w0.heap.size:=zW Y B.size;clear B z hA hW;go_wp2_with fail;refine (R.out w0 O.out).mono ?_;rintro e w1 ⟨rfl,E⟩;have M:=aa (ae O.out E);have c1:=aC E I c0;have c:w.heap.size<w1.heap.size:=zW I E.size;obtain ⟨v,hv⟩:=az (w1.alloc (.cells (madeCells #[.int .i64 0,.int .i64 0,.slice none 0 0] (n*3)) 143));have t:Bl w1 v:=by rw [←hv];go_grown
 have P:=aa t;have HLv:Hid (∀ X,nY v w1.heap.size n 0 D X):=by
  intro X;refine ⟨_,by rw [←hv];exact heap_alloc_new ..,by simp [madeCells],fun i a b=>by omega⟩
 have cv:=aC t c c1;have HCv:=aa cv;have hszv:w.heap.size<v.heap.size:=zW c t.size;clear E t c0;go_wp2_with fail;clear hmk hv cv c1
 go_loopg [10,11] n (fun gg s10 s11 wr => ∃ (k:Nat) (X:Nat→AL),k≤n∧gg=n-k∧s10=.int .i64 (tJ D n k:Nat)∧s11=.int .i64 ((n:Int)-1-(k:Int))∧Hid (nY wr w1.heap.size n k D X)∧Hid (Bl w1 wr))
 case atStart=>exact ⟨0,fun _=>⟨[],none,0⟩,zU,rfl,rfl,by go_num,HLv.out _,P⟩
 case round =>
  obtain ⟨k,X,hk,rfl,rfl,rfl,HL,m⟩:=hrel;have cw:wr.cell? ⟨w.heap.size,0,none⟩=some (.slice A0 n cap):=aC m.out c (by have:=(P.out.cell (p:=⟨w.heap.size,0,none⟩) c);rw [←this];exact HCv.out)
  have r:w.heap.size<wr.heap.size:=zW c m.out.size
  by_cases hlt:k<n
  ·obtain ⟨i,hi⟩:∃ i,n=k+1+i:=⟨n-k-1,by omega⟩
   have K:i<n:=by omega
   have e9:(n:Int)-1-(k:Int)=(i:Int):=by omega
   rw [e9];have HI:=aa hi;have hii:(i:Int)<(n:Int):=by omega
   obtain ⟨hcap,h0 | ⟨b,o,rfl,x⟩⟩:=HM.out.later (ae M.out m.out)
   ·omega
   have hcapI:(n:Int)≤(cap:Int):=by omega
   have hbr:b<wr.heap.size:=x.1;obtain ⟨d0,d1,d2,d3⟩:=x.2 i K;have L:=zv (D i) (A i) (C i) wr (HR.out i K) d3;unfold cQ at L;have HAp:Hid (tJ D n k=cA D n i):=by show _=_;rw [tK k hlt,show n-1-k=i by omega]
   have HAn:Hid (tJ D n (k+1)=tJ D n k*(D i).n):=by show _=_;rw [tJ,show n-1-k=i by omega]
   have hap1:(tJ D n k:Int)≤20736:=by have:=qJ (D:=D) V (fun j hj=>(HD.out j hj).2) (k:=k) (by omega);omega
   have H:(tJ D n (k+1):Int)≤20736:=by have:=qJ (D:=D) V (fun j hj=>(HD.out j hj).2) (k:=k+1) (by omega);omega
   have f:(tJ D n (k+1):Int)=(tJ D n k:Int)*((D i).n:Int):=by rw [HAn.out];exact Int.natCast_mul _ _
   have hap4:0≤(tJ D n k:Int)*((D i).n:Int):=by rw [←f];omega
   have hap5:(tJ D n k:Int)*((D i).n:Int)≤20736:=by rw [←f];exact H
   have HA3:=aa f;have HMs:=aa x;clear d3 x H f e9 hi;go_wp2_with fail;refine L.mono ?_;rintro e w2 ⟨⟨A2,c2,xs,rfl,Z,K0,u9⟩,d⟩;have HX2:Hid (iq w2 (D i) ⟨xs,A2,c2⟩):=(⟨Z,K0,u9⟩:_∧_∧_);have HB2:=aa (ae m.out d);have Q:=aa (HL.out.later d);have cw2:=aC d r cw;have hsz2:w.heap.size<w2.heap.size:=zW r d.size;obtain ⟨q0,q1,q2,-⟩:=(HMs.out.later d).2 i K;have hbr2:b<w2.heap.size:=zW hbr d.size;obtain ⟨T,l,hcs,-⟩:=Q.out;have hg2:w1.heap.size<w2.heap.size:=(zY l).1;have F:∀ j,j<n*3→∃ u,w2.cell? ⟨w1.heap.size,j,none⟩=some u:=fun j hj=>⟨T[j]'(by omega),by simp [World.cell?,l,show j<T.size by omega]⟩
   have G:∀ j,w2.frozen? ⟨w1.heap.size,j,none⟩=false:=fun j=>by simp [World.frozen?,l]
   obtain ⟨u0,k0⟩:=F (i*3) (by omega)
   obtain ⟨u1,k1⟩:=F (i*3+1) (by omega)
   obtain ⟨u2,k2⟩:=F (i*3+2) (by omega)
   have z0:=G (i*3);have z1:=G (i*3+1);have z2:=G (i*3+2);have HP:=aa (Q.out.put (i:=i) HI.out HX2.out);rw [←HAp.out] at HP;simp only at HP;clear d Z K0 u9 L cw l hcs F G d0 d1 d2;go_wp2_with fail
   go_roundg (n-(k+1))
   case measure=>omega
   case rel=>exact ⟨k+1,fun j=>if j=i then ⟨xs,A2,c2⟩ else X j,by omega,rfl,by rw [HA3.out],by congr 1;have:=HI.out;omega,HP,(((HB2.out.setCell (by simp) _).setCell (by simp) _).setCell (by simp) _:Below ..)⟩
  have hke:k=n:=by omega
  subst hke;have e9:(k:Int)-1-(k:Int) = -1:=by omega
  rw [e9];obtain ⟨y,hy⟩:=az (wr.alloc (.cells #[.slice (some ⟨w1.heap.size,0,none⟩) k k,.int .i64 N] 145));have J:Bl wr y:=by rw [←hy];go_grown
  have HPl:Hid (cJ y wr.heap.size w1.heap.size k D X):=⟨by rw [HN.out,←hy];exact heap_alloc_new ..,HL.out.later J⟩
  have HBy:=aa (ae m.out J);have S:Hid (w.heap.size≤wr.heap.size∧w.heap.size≤w1.heap.size):=⟨Nat.le_of_lt r,Nat.le_of_lt c⟩;clear J cw;go_wp2_with fail;go_returns;exact ⟨⟨wr.heap.size,w1.heap.size,X,rfl,S.out.1,S.out.2,HPl.out⟩,ae M.out HBy.out⟩
end Go.Proofs.YtohgnbgamfepoaaGreatDoor
