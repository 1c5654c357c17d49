/- slices.IndexFunc and s -/
import Derived.Sort.Walk0
import Derived.Deep.QuietTactic
import Derived.Test.YtompdcaikmekkaaGreatDoorJHAJ
import Derived.Test.YtompdcaikmekkaaGreatDoorJHAK
namespace Go.Proofs.YtompdcaikmekkaaGreatDoor
open ChangeShapes WideShapes ChangeAt RowKit
set_option maxRecDepth 99999
set_option maxHeartbeats 0
theorem lm {w:World} {A:Option Addr} {cap:Nat} {L:List Int} (h:bW w A cap L):a7 w A cap L:=by
 obtain ⟨c,a | ⟨b,a,d,e⟩⟩:=h
 ·exact ⟨c,Or.inl a⟩
 exact ⟨c,Or.inr ⟨b,0,a,d,fun j f=>by rw [Nat.zero_add];exact e j f⟩⟩
theorem q9 (F:Nat) (cap:Array Value) (p:Int→Bool) (E:∀ (args:Array Value) (w:World),(callFunc F args).run Tryz.prog w=.ok (.enter F args) w) (A:Option Addr) (c:Nat) (L:List Int) (w:World) (O:L.length≤1048576) (K:a7 w A c L)
  (D:∀ (x:Int) (w':World),x∈L→Bl w w'→Calls Tryz.prog F (#[.int .i64 x] ++ cap) w' fun e w''=>e=.returned (.bool (p x))∧Bl w' w'') :
  Rt 130 #[.slice A L.length c,.func (.func F) #[] cap] w (.int .i64 (findFrom (fun j=>p (L.getD j 0)) L.length 0)):=by
 obtain ⟨M,J | ⟨b,o,rfl,y,d⟩⟩:=K
 ·subst J
  simp only [List.length_nil]
  go_enter Tryz.func130,Tryz.ntmps130
  go_wp2_with fail;refine wp_loop_rounds 1 ?_;rw [rounds_succ];go_wp2_with fail;go_ret;exact ⟨rfl,zS⟩
 have C:=aa d;have H:=aa D;obtain ⟨pj,l⟩:∃ pj:Nat→Bool,pj=fun j=>p (L.getD j 0):=⟨_,rfl⟩
 have I:Hid (∀ j,pj j=p (L.getD j 0)):=fun j=>by rw [l]
 rw [←l];obtain ⟨n,i⟩:=aA L.length;have t:=aa i;rw [i] at O M C ⊢;clear d l i D
 go_enter Tryz.func130,Tryz.ntmps130
 go_wp2_with fail
 go_loopg [8] n (fun g s8 wr => ∃ (k:Nat),k≤n∧g=n-k∧s8=.int .i64 k∧findFrom pj (n-k) k=findFrom pj n 0∧Bl w wr)
 case atStart=>exact ⟨0,zU,rfl,rfl,rfl,zS⟩
 case round =>
  obtain ⟨k,Q,rfl,rfl,G,f⟩:=hrel;have u:=aa G;have v:=aa f;clear G
  by_cases r:k<n
  ·have N:(k:Int)<(n:Int):=by omega
   have z:=aD f y (C.out k r);have P:(n:Int)≤1048576:=by omega
   have m:=I.out k;have q:Hid (n-k=(n-(k+1))+1):=by show _=_;omega
   have a:=H.out (L.getD k 0) wr (by rw [zZ,zX (by rw [t.out];exact r)];exact List.getElem_mem _) f
   rw [←m] at a;generalize L.getD k 0=x at z m a;clear f m;cases hb:pj k
   ·rw [hb] at a
    have s:=aa hb;clear hb;go_wp2_with fail;refine a.mono ?_;rintro e w1 ⟨rfl,h⟩;go_wp2_with fail
    go_roundg (n-(k+1))
    case measure=>omega
    case rel=>exact ⟨k+1,by omega,rfl,by go_num,by rw [←u.out,q.out,be _ s.out],ae v.out h⟩
   rw [hb] at a;have s:=aa hb;clear hb;go_wp2_with fail;refine a.mono ?_;rintro e w1 ⟨rfl,h⟩;go_wp2_with fail;go_ret;exact ⟨by rw [←u.out,q.out,bj _ s.out];rfl,ae v.out h⟩
  have B:k=n:=by omega
  subst B;go_wp2_with fail;go_ret;exact ⟨by rw [←u.out,Nat.sub_self];rfl,v.out⟩
theorem oz (F:Nat) (cap:Array Value) (p:Int→Bool) (a:∀ (args:Array Value) (w:World),(callFunc F args).run Tryz.prog w=.ok (.enter F args) w) (A:Option Addr) (c:Nat) (L:List Int) (w:World) (g:L.length≤1048576) (f:a7 w A c L)
  (d:∀ (x:Int) (w':World),x∈L→Bl w w'→Calls Tryz.prog F (#[.int .i64 x] ++ cap) w' fun e w''=>e=.returned (.bool (p x))∧Bl w' w'') :
  Rt 93 #[.slice A L.length c,.func (.func F) #[] cap] w (.bool (decide (0≤findFrom (fun j=>p (L.getD j 0)) L.length 0))):=by
 have h:=q9 F cap p a A c L w g f d;generalize findFrom (fun j=>p (L.getD j 0)) L.length 0=r at *
 clear d f
 go_enter Tryz.func93,Tryz.ntmps93
 go_wp2_with fail;refine h.mono ?_;rintro e w1 ⟨rfl,b⟩;go_wp2_with fail;go_ret;exact ⟨rfl,b⟩
def jf:ByteArray:=⟨#[]⟩
def pm (c:Int×Int):Prop:=good c.1 c.2=true
theorem Fs:pm noC:=rfl
theorem lg (n:Int):pm (eE n):=by
 unfold pm eE good
 split
 ·rename_i h;simp [h.1,h.2]
 simp
theorem Hr (x y:Int):pm (CM x y):=by
 unfold CM
 split
 ·rfl
 exact lg _
theorem ld (b:Bool) (ka kb:Int) {r:Int×Int} (h:pm r):pm (gA b ka kb r):=by
 unfold gA
 split
 ·rfl
 split
 ·rfl
 exact h
def qt (o:Int) (a b:Int×Int):Int×Int:=if o=3 then m8 a.1 a.2 b.1 b.2 else if o=4 then jp a.1 a.2 b.1 b.2 else if o=5 then p9 a.1 a.2 b.1 b.2 else uX a.1 a.2 b.1 b.2
theorem FE (o:Int) (a b:Int×Int):pm (qt o a b):=by
 unfold qt
 split
 ·exact ld _ _ _ (lg _)
 split
 ·exact ld _ _ _ (lg _)
 split
 ·exact ld _ _ _ (lg _)
 exact ld _ _ _ (Hr _ _)
def G9 (N:List ByteArray) (s:ByteArray) (i:Nat):Bool:=decide (N.getD i jf=s)
def bZ (N:List ByteArray) (s:ByteArray):Int:=findFrom (G9 N s) N.length 0
theorem where_cases (N:List ByteArray) (s:ByteArray):(bZ N s = -1∧∀ j,j<N.length→N.getD j jf≠s)∨∃ i:Nat,bZ N s=(i:Int)∧i<N.length∧N.getD i jf=s:=by
 unfold bZ
 rcases findFrom_cases (G9 N s) N.length 0 with ⟨a,b⟩ | ⟨m,a,b,d,c,e⟩
 ·left
  refine ⟨a,fun j f=>?_⟩
  have:=b j (zU) (by omega)
  simpa [G9] using this
 right
 exact ⟨m,a,by omega,of_decide_eq_true c⟩
def fK (N:List ByteArray) (i:Nat):Bool:=Op.bytesLess (N.getD i jf).toList (N.getD (i-1) jf).toList || (N.getD i jf).toList == (N.getD (i-1) jf).toList
def dO (N:List ByteArray) (C:List (Int×Int)):Int:=if C.length≠N.length then 3 else if 0≤findFrom (gy C) C.length 0 then 1 else if 0≤findFrom (fK N) (N.length-1) 1 then 7 else 0
theorem tO {N:List ByteArray} {C:List (Int×Int)} (h:C.length≠N.length):dO N C=3:=by unfold dO;rw [if_pos h]
theorem zv {N:List ByteArray} {C:List (Int×Int)} (h:C.length=N.length) {i:Nat} (c:i<C.length) (a:gy C i=true):dO N C=1:=by
 unfold dO;rw [if_neg (by simpa using h)]
 rcases findFrom_cases (gy C) C.length 0 with ⟨_,b⟩ | ⟨m,e,_⟩
 ·rw [b i (zU) (by omega)] at a;cases a
 rw [e,if_pos (by omega)]
theorem zw {N:List ByteArray} {C:List (Int×Int)} (h:C.length=N.length) (d:∀ j,j<C.length→gy C j=false) {i:Nat} (b:1≤i) (f:i<N.length) (a:fK N i=true):dO N C=7:=by
 unfold dO;rw [if_neg (by simpa using h),bQ (fun j _ g=>d j (by omega)),if_neg (by omega)]
 rcases findFrom_cases (fK N) (N.length-1) 1 with ⟨_,c⟩ | ⟨m,e,_⟩
 ·rw [c i b (by omega)] at a;cases a
 rw [e,if_pos (by omega)]
theorem sf {N:List ByteArray} {C:List (Int×Int)} (h:C.length=N.length) (c:∀ j,j<C.length→gy C j=false) (b:∀ j,1≤j→j<N.length→fK N j=false):dO N C=0:=by
 unfold dO;rw [if_neg (by simpa using h),bQ (fun j _ d=>c j (by omega)),if_neg (by omega),bQ (fun j a d=>b j a (by omega)),if_neg (by omega)]
theorem tN {N:List ByteArray} {C:List (Int×Int)} (h:dO N C=0):C.length=N.length∧(∀ j,j<C.length→gy C j=false)∧∀ j,1≤j→j<N.length→fK N j=false:=by
 by_cases a:C.length=N.length
 ·refine ⟨a,?_⟩
  by_cases b:∀ j,j<C.length→gy C j=false
  ·refine ⟨b,fun j d c=>?_⟩
   cases hd:fK N j
   ·rfl
   rw [zw a b d c hd] at h;cases h
  exfalso
  apply b;intro j c;cases hd:gy C j
  ·rfl
  rw [zv a c hd] at h;cases h
 rw [tO a] at h;cases h
theorem JH {N:List ByteArray} {C:List (Int×Int)} (h:dO N C=0):∀ c∈C,pm c:=by
 intro c b;obtain ⟨j,a,rfl⟩:=List.getElem_of_mem b;have:=(tN h).2.1 j a;unfold gy at this;rw [zZ,zX a] at this
 simpa [pm] using this
/-! names that rise -/
theorem EB {N:List ByteArray} {i:Nat} (h:fK N i=false):(N.getD (i-1) jf).toList<(N.getD i jf).toList:=by
 unfold fK at h;rw [Bool.or_eq_false_iff,bytesLess_eq] at h;have a:=of_decide_eq_false h.1;have b:(N.getD i jf).toList≠(N.getD (i-1) jf).toList:=by simpa using h.2
 rcases Std.lt_trichotomy (N.getD i jf).toList (N.getD (i-1) jf).toList with h3 | h3 | h3
 ·exact absurd h3 a
 ·exact absurd h3 b
 exact h3
theorem F5 {N:List ByteArray} (h:∀ j,1≤j→j<N.length→fK N j=false):∀ i j,i<j→j<N.length→(N.getD i jf).toList<(N.getD j jf).toList:=by
 intro i j b
 induction j with
 | zero=>omega
 | succ j ih =>
  intro c;have a:=EB (h (j+1) (by omega) c)
  by_cases e:i=j
  ·subst e;exact a
  exact List.lt_trans (ih (by omega) (by omega)) a
def xR (n:Nat) (i:Int):Bool:=decide (i<0) || decide ((n:Int)≤i)
theorem wg (i:Int) (A:Option Addr) (n cap q:Nat) (w:World) (h:w.cell? ⟨q,2,none⟩=some (.slice A n cap)):Rt 224 #[.int .i64 i,.pointer (some ⟨q,0,none⟩)] w (.bool (xR n i)):=by
 unfold xR
 by_cases a:i<0
 ·go_enter Tryz.func224,Tryz.ntmps224
  go_wp2;go_ret;exact ⟨by simp <;> omega,by go_grown⟩
 go_enter Tryz.func224,Tryz.ntmps224
 go_wp2;go_ret;exact ⟨by simp <;> omega,by go_grown⟩
theorem ou (A:Option Addr) (cap:Nat) (L:List Int) (Am:Option Addr) (nm b q:Nat) (w:World) (f:L.length≤2) (d:bW w A cap L) (e:q<w.heap.size) (a:w.cell? ⟨q,2,none⟩=some (.slice Am nm b)) :
  Rt 93 #[.slice A L.length cap,.func (.func 224) #[] #[.pointer (some ⟨q,0,none⟩)]] w (.bool (decide (0≤findFrom (fun j=>xR nm (L.getD j 0)) L.length 0))) :=
 oz 224 #[.pointer (some ⟨q,0,none⟩)] (xR nm) (fun args w=>by simp [callFunc,Tryz.func224];rfl) A cap L w (by omega) (lm d) fun x w' _ c=>wg x Am nm b q w' (aD c e a)
theorem qy {d:Dm} {L:List Int} (h:(az d).2=0):treeErr d L=if 0≤findFrom (fun j=>xR d.n (L.getD j 0)) L.length 0 then 1 else 0:=by
 unfold treeErr pE;rw [if_neg (by simpa using h)];rfl
theorem p8 (d:Dm) (A:Option Addr) (cap:Nat) (Ai:Option Addr) (q:Nat) (L:List Int) (w:World) (B:eg w A cap d.n d.mem) (I:L.length≤2) (z:bW w Ai q L):Rt 185 #[cM d A cap,.slice Ai L.length q] w (errV (treeErr d L)):=by
 have C:=bg w d A cap 70;have k:=aU w d A cap 70;have y:=(dN w d A cap 70).2.2;have a:=kr d A cap (aM w d A cap 70) (B.later k);unfold cM at a ⊢;have o:=aa k;have u:=aa C;have D:=aa y;have F:=aa z;clear B C k y z
 by_cases h:(az d).2=0
 ·obtain ⟨v,G,H,-⟩:=aL h
  rw [h,v,errV_zero] at a;have E:=aa h;clear h v
  go_enter Tryz.func185,Tryz.ntmps185
  go_wp2_with fail;refine a.mono ?_;rintro e w1 ⟨rfl,b⟩;have r:Bl w w1:=ae o.out b;have J:w.heap.size<w1.heap.size:=by
   have:=b.size;rw [u.out] at this
   omega
  have x:w1.cell? ⟨w.heap.size,2,none⟩=some (.slice A d.n cap):=aD b (by show w.heap.size<_;rw [u.out];omega) D.out
  have g:=ou Ai q L A d.n cap w.heap.size w1 I (F.out.later r) J x;have p:Hid (treeErr d L=if 0≤findFrom (fun j=>xR d.n (L.getD j 0)) L.length 0 then 1 else 0):=qy E.out
  have s:=aa r;generalize findFrom (fun j=>xR d.n (L.getD j 0)) L.length 0=f at g p
  generalize L.length=n at g;clear b a x r
  by_cases m:0≤f
  ·rw [decide_eq_true m] at g
   have i:Hid (treeErr d L=1):=by show _=_;rw [p.out,if_pos m]
   clear m p;go_wp2_with fail;refine g.mono ?_;rintro e w2 ⟨rfl,l⟩;go_wp2_with fail;go_ret;exact ⟨by rw [i.out];rfl,ae s.out l⟩
  rw [decide_eq_false m] at g;have i:Hid (treeErr d L=0):=by show _=_;rw [p.out,if_neg m]
  clear m p;go_wp2_with fail;refine g.mono ?_;rintro e w2 ⟨rfl,l⟩;go_wp2_with fail;go_ret;exact ⟨by rw [i.out];rfl,ae s.out l⟩
 have t:Hid (errV (treeErr d L)=.iface 63 (.int .i64 (az d).2)):=by show _=_;rw [vO h,ak h]
 rw [ak h] at a;clear h;generalize (az d).2=c at a t
 go_enter Tryz.func185,Tryz.ntmps185
 go_wp2_with fail;refine a.mono ?_;rintro e w1 ⟨rfl,b⟩;go_wp2_with fail;go_ret;exact ⟨by rw [t.out];rfl,ae o.out b⟩
theorem wh {D:Nat→Dm} {k j:Nat} (a:j<k) (h:same (D j).name (D k).name=true):fT D k=true:=by
 unfold fT;exact decide_eq_true (fU (q:=fun j=>same (D j).name (D k).name) a h)
theorem tP {D:Nat→Dm} {k:Nat} (h:findFrom (fun j=>same (D j).name (D k).name) k 0 = -1):fT D k=false:=by
 unfold fT;rw [h]
 rfl
theorem lw (A0:Option Addr) (cap n:Nat) (D:Nat→Dm) (A:Nat→Option Addr) (C:Nat→Nat) (w:World) (hM:aY w A0 cap n D A C):Rt 34 #[.agg #[.slice A0 n cap]] w (.tuple #[.int .i64 (am D n).1,.int .i64 (am D n).2.1,.int .i64 (am D n).2.2]):=by
 by_cases H:4<n
 ·have hn':4<(n:Int):=by omega
  have d:Hid (am D n=(-1,-1,4)):=Km H;clear H hM
  go_enter Tryz.func34,Tryz.ntmps34
  go_wp2_with fail;refine bodyPost_ret (v:=.tuple #[.int .i64 (-1),.int .i64 (-1),.int .i64 4]) (by simp [results,Tryz.results34,go_sem]) rfl ⟨by rw [d.out],?_⟩
  go_grown
 have hn':(n:Int)≤4:=by omega
 by_cases G:n=0
 ·have d:Hid (am D n=(-1,-1,5)):=Kn G
  have hz:((n:Int) == 0)=true:=by simp [G]
  clear G hM H
  go_enter Tryz.func34,Tryz.ntmps34
  go_wp2_with fail;refine bodyPost_ret (v:=.tuple #[.int .i64 (-1),.int .i64 (-1),.int .i64 5]) (by simp [results,Tryz.results34,go_sem]) rfl ⟨by rw [d.out],?_⟩
  go_grown
 have hz:((n:Int) == 0)=false:=by simp;omega
 obtain ⟨hcap,h0 | ⟨b,o,rfl,L⟩⟩:=hM
 ·omega
 have hcap':(n:Int)≤(cap:Int):=by omega
 have x:=aq w (some ⟨b,o,none⟩) n cap 24;have hS:=aw w (some ⟨b,o,none⟩) n cap 24;have Z:=aI w (some ⟨b,o,none⟩) n cap 24;obtain ⟨W,hW⟩:∃ W,W=ay w (some ⟨b,o,none⟩) n cap 24:=⟨_,rfl⟩;rw [←hW] at x hS Z;have X:=aa (L.later x);have R:w.heap.size<W.heap.size:=by omega
 clear L;have HW:=aa hW;have HA:=aa Z;have h:=aa x;clear hW Z x hS
 go_enter Tryz.func34,Tryz.ntmps34
 go_wp2_with fail
 go_loopg [5] n (fun g s5 wr => ∃ (k:Nat),k≤n∧g=n-k∧s5=.int .i64 k∧dP D (n-k) k=dP D n 0∧Bl W wr)
 case atStart=>exact ⟨0,zU,rfl,rfl,rfl,by rw [HW.out];exact zS⟩
 case round =>
  obtain ⟨k,hk,rfl,rfl,Q,m⟩:=hrel;obtain ⟨wo,rfl⟩:∃ wo:World,wo=wr:=⟨_,rfl⟩;have u:=aa m;have T:=aa Q;have c0:wo.cell? ⟨w.heap.size,0,none⟩=some (.slice (some ⟨b,o,none⟩) n cap):=aD m R HA.out;have q:=X.out.later m;have E:w.heap.size<wo.heap.size:=zW R m.size;clear Q m
  by_cases P:k<n
  ·obtain ⟨h0,h1,h2,h3⟩:=q.2 k P
   have hki:(k:Int)<(n:Int):=by omega
   have I:n-k=(n-(k+1))+1:=by omega
   have c:=vn (D k) (A k) (C k) wo h3;unfold cM at c;have K:=aa q;clear h3 q
   by_cases t:(az (D k)).2=0
   ·obtain ⟨e1,hd1,hd2,-⟩:=aL t
    rw [t,e1] at c;have S:=aa t;clear t e1;go_wp2_with fail;refine c.mono ?_;rintro e w1 ⟨rfl,a⟩;have hz1:w.heap.size<w1.heap.size:=zW E a.size;have c1:w1.cell? ⟨w.heap.size,0,none⟩=some (.slice (some ⟨b,o,none⟩) n cap):=aD a E c0;have V:=aa (K.out.later a);have i:=aa (ae u.out a);clear a c c0 h0 h1 h2 K hd1 hd2;go_wp2_with fail
    go_loopg [7,8] k (fun g s7 s8 wr => ∃ (j:Nat),j≤k∧g=k-j∧s8=.int .i64 j∧((s7=.int .i64 0∧findFrom (fun j=>same (D j).name (D k).name) (k-j) j=findFrom (fun j=>same (D j).name (D k).name) k 0)∨(s7=.int .i64 7∧fT D k=true))∧Bl w1 wr)
    case atStart=>exact ⟨0,zU,rfl,rfl,Or.inl ⟨rfl,rfl⟩,zS⟩
    case round =>
     obtain ⟨j,hj,rfl,rfl,hs,y⟩:=hrel;have l:=aa y;have c2:wr.cell? ⟨w.heap.size,0,none⟩=some (.slice (some ⟨b,o,none⟩) n cap):=aD y hz1 c1;have p:=V.out.later y;clear y
     rcases hs with ⟨rfl,N⟩ | ⟨rfl,r⟩
     ·have J:=aa N
      clear N
      by_cases O:j<k
      ·obtain ⟨a0,-,-,-⟩:=p.2 j (by omega)
       obtain ⟨b0,-,-,-⟩:=p.2 k P;have hji:(j:Int)<(k:Int):=by omega
       have hjn:(j:Int)<(n:Int):=by omega
       have hsj:k-j=(k-(j+1))+1:=by omega
       clear p;cases hq:((D j).name.toList == (D k).name.toList)
       ·have Y:=aa hq
        go_wp2_with fail
        go_quiet (fail)
        go_wp2_with fail
        go_roundg (k-(j+1))
        case measure=>omega
        case rel=>exact ⟨j+1,by omega,rfl,by go_num,Or.inl ⟨rfl,by rw [←J.out,hsj,be _ Y.out]⟩,ae l.out (ac (zS) _)⟩
       have Y:Hid (fT D k=true):=wh O hq;go_wp2_with fail
       go_quiet (fail)
       go_wp2_with fail
       go_roundg (k-(j+1))
       case measure=>omega
       case rel=>exact ⟨j+1,by omega,rfl,by go_num,Or.inr ⟨rfl,Y.out⟩,ae l.out (ac (zS) _)⟩
      have hje:j=k:=by omega
      have hji:(k:Int)≤(j:Int):=by omega
      have r:fT D k=false:=tP (by rw [←J.out,hje,Nat.sub_self];rfl)
      have z:Hid (gB D k=(-1,0)):=JT S.out r;clear p r;go_wp2_with fail
      go_roundg (n-(k+1))
      case measure=>omega
      case rel=>exact ⟨k+1,by omega,rfl,by go_num,by rw [←T.out,I,pN _ (by rw [z.out])],ae i.out l.out⟩
     have z:Hid (gB D k=(-1,7)):=JS S.out r;clear p r;have f:dP D n 0=((k:Int),-1,7):=by rw [←T.out,I,iI _ (by rw [z.out];decide),z.out]
     have d:Hid (am D n=((k:Int),-1,7)):=by show _=_;rw [J1 (by omega) (by omega) (by rw [f];show (7:Int)≠0;decide),f]
     clear f
     by_cases O:(j:Int)<(k:Int)
     ·go_wp2_with fail
      refine bodyPost_ret (v:=.tuple #[.int .i64 k,.int .i64 (-1),.int .i64 7]) (by simp [results,Tryz.results34,go_sem]) rfl ⟨by rw [d.out],?_⟩
      exact ae h.out (ae i.out l.out)
     go_wp2_with fail;refine bodyPost_ret (v:=.tuple #[.int .i64 k,.int .i64 (-1),.int .i64 7]) (by simp [results,Tryz.results34,go_sem]) rfl ⟨by rw [d.out],?_⟩
     exact ae h.out (ae i.out l.out)
   have z:Hid (gB D k=az (D k)):=JR t;have S:=aa t;have f:dP D n 0=((k:Int),(az (D k)).1,(az (D k)).2):=by rw [←T.out,I,iI _ (by rw [z.out];exact t),z.out]
   have d:Hid (am D n=((k:Int),(az (D k)).1,(az (D k)).2)):=by show _=_;rw [J1 (by omega) (by omega) (by rw [f];exact t),f]
   have he2:((az (D k)).2 == 0)=false:=by simpa using t
   clear t f z S;generalize (az (D k)).2=ec at c d he2;generalize (az (D k)).1=kc at c d;go_wp2_with fail;refine c.mono ?_;rintro e w1 ⟨rfl,a⟩;have i:=aa (ae u.out a);clear a c;go_wp2_with fail
   by_cases hk0:(0:Int)<(k:Int)
   ·refine wp_loop_rounds 1 ?_
    rw [rounds_succ];go_wp2_with fail;refine bodyPost_ret (v:=.tuple #[.int .i64 k,.int .i64 kc,.int .i64 ec]) (by simp [results,Tryz.results34,go_sem]) rfl ⟨by rw [d.out],?_⟩
    exact ae h.out i.out
   have hk0':(k:Int)≤0:=by omega
   refine wp_loop_rounds 1 ?_;rw [rounds_succ];go_wp2_with fail;refine bodyPost_ret (v:=.tuple #[.int .i64 k,.int .i64 kc,.int .i64 ec]) (by simp [results,Tryz.results34,go_sem]) rfl ⟨by rw [d.out],?_⟩
   exact ae h.out i.out
  have hke:k=n:=by omega
  subst hke;have s:(dP D k 0).2.2=0:=by rw [←T.out,Nat.sub_self];rfl
  have B:=(jx k 0 s).2;have M:=rv b o k cap D A C wo (by omega) (fun j hj=>(aL (kz (B j (zU) (by omega)))).2.2.1) q
  clear B q
  by_cases U:3000<prodN D k
  ·have hp':3000<(prodN D k:Int):=by omega
   have d:Hid (am D k=(-1,-1,4)):=Ko (by omega) (by omega) s U
   clear s U;go_wp2_with fail;refine M.mono ?_;rintro e w2 ⟨rfl,F⟩;go_wp2_with fail;refine bodyPost_ret (v:=.tuple #[.int .i64 (-1),.int .i64 (-1),.int .i64 4]) (by simp [results,Tryz.results34,go_sem]) rfl ⟨by rw [d.out],?_⟩
   exact ae h.out (ae u.out F)
  have hp':(prodN D k:Int)≤3000:=by omega
  have d:Hid (am D k=(-1,-1,0)):=Kp (by omega) (by omega) s U
  clear s U;go_wp2_with fail;refine M.mono ?_;rintro e w2 ⟨rfl,F⟩;go_wp2_with fail;refine bodyPost_ret (v:=.tuple #[.int .i64 (-1),.int .i64 (-1),.int .i64 0]) (by simp [results,Tryz.results34,go_sem]) rfl ⟨by rw [d.out],?_⟩
  exact ae h.out (ae u.out F)
end Go.Proofs.YtompdcaikmekkaaGreatDoor
