/- What Parts, Path and L -/
import Derived.Deep.RegionHeld3
import Derived.LaidEql
import Derived.Stop.Asserts
import Derived.RowKitTokens
import Derived.Test.YtompdcaikmekkaaGreatDoorJHAL
namespace Go.Proofs.YtompdcaikmekkaaGreatDoor
open ChangeShapes WideShapes ChangeAt RowKit Extern.Stop Stop Extern
set_option maxRecDepth 99999
set_option maxHeartbeats 0
theorem Cy:dt 235:=fun args w=>by simp [callFunc,Tryz.func235];rfl
theorem xW (b o n cap k q r:Nat) (M:Nat→Mem) (i:Int) (w:World) (c:k<n) (g:n≤12) (a:b7 w b o n M) (h:w.cell? ⟨q,2,none⟩=some (.slice (some ⟨b,o,none⟩) n cap)) (j:w.cell? ⟨r,0,none⟩=some (.int .i64 i)) :
  Rt 235 #[.int .i64 k,.pointer (some ⟨q,0,none⟩),.pointer (some ⟨r,0,none⟩)] w (.bool (iG M i k)):=by
 obtain ⟨-,f,-,-⟩:=a.2 k c;have d:(k:Int)<(n:Int):=by omega
 have e:(n:Int)≤12:=by omega
 unfold iG;clear a
 go_enter Tryz.func235,Tryz.ntmps235
 go_wp2_with fail
 go_quiet (fail)
 go_wp2_with fail;go_ret;exact ⟨by simp,ac (zS) _⟩
def IG (c:Int) (L:List Int):List Int:=if c=0 then L else []
theorem E6 {c:Int} (h:c=0) (L:List Int):IG c L=L:=by simp [IG,h]
theorem Hb {c:Int} (h:c≠0) (L:List Int):IG c L=[]:=by simp [IG,h]
theorem qz {d:Dm} {L:List Int} (h:treeErr d L=0):(az d).2=0:=by
 unfold treeErr at h
 split at h
 ·rename_i h1;exact absurd h h1
 rename_i h1;simpa using h1
theorem yV {d:Dm} {i:Int} (h:treeErr d [i]=0):(az d).2=0∧∃ k:Nat,i=k∧k<d.n:=by
 have a:=qz h;rw [gZ a] at h
 by_cases b:i<0∨(d.n:Int)≤i
 ·rw [if_pos b] at h;cases h
 exact ⟨a,i.toNat,by omega,by omega⟩
theorem uk {w:World} {i:Int} {T:Nat}:bW (ib w i T) (some ⟨w.heap.size,0,none⟩) 1 [i]:=by
 refine ⟨zT,Or.inr ⟨_,rfl,by rw [gP];omega,fun j b=>?_⟩⟩
 have a:j=0:=by simp at b;omega
 subst a;exact mu w i T
def nh (w:World) (d:Dm) (A:Option Addr) (cap:Nat) (i:Int) (T T':Nat):World:=ib (aM w d A cap T) i T'
theorem iE (w:World) (d:Dm) (A:Option Addr) (cap:Nat) (i:Int) (T T':Nat):(nh w d A cap i T T').heap.size=w.heap.size+2:=by unfold nh;rw [gP,bg]
theorem pt (w:World) (d:Dm) (A:Option Addr) (cap:Nat) (i:Int) (T T':Nat):Bl w (nh w d A cap i T T'):=ae (aU w d A cap T) (ef _ i T')
theorem uY (w:World) (d:Dm) (A:Option Addr) (cap:Nat) (i:Int) (T T':Nat):(nh w d A cap i T T').cell? ⟨w.heap.size,2,none⟩=some (.slice A d.n cap) :=
 ((ef (aM w d A cap T) i T').cell (p:=⟨w.heap.size,2,none⟩) (by show w.heap.size<_;rw [bg];omega)).trans (dN w d A cap T).2.2
theorem FI (w:World) (d:Dm) (A:Option Addr) (cap:Nat) (i:Int) (T T':Nat):(nh w d A cap i T T').cell? ⟨w.heap.size+1,0,none⟩=some (.int .i64 i):=by
 unfold nh;rw [←bg w d A cap T];exact mu _ i T'
theorem Cv (w:World) (d:Dm) (A:Option Addr) (cap:Nat) (i:Int) (T T':Nat):bW (nh w d A cap i T T') (some ⟨w.heap.size+1,0,none⟩) 1 [i]:=by
 unfold nh;rw [←bg w d A cap T];exact uk
def uZ (w:World) (d:Dm) (A:Option Addr) (cap:Nat) (i:Int) (T T':Nat):World:=ib (nh w d A cap i T T') i T'
theorem mw (w:World) (d:Dm) (A:Option Addr) (cap:Nat) (i:Int) (T T':Nat):(uZ w d A cap i T T').heap.size=w.heap.size+3:=by unfold uZ;rw [gP,iE]
theorem xT (w:World) (d:Dm) (A:Option Addr) (cap:Nat) (i:Int) (T T':Nat):Bl w (uZ w d A cap i T T'):=ae (pt w d A cap i T T') (ef _ i T')
theorem FJ (w:World) (d:Dm) (A:Option Addr) (cap:Nat) (i:Int) (T T':Nat):(uZ w d A cap i T T').cell? ⟨w.heap.size,2,none⟩=some (.slice A d.n cap) :=
 ((ef (nh w d A cap i T T') i T').cell (p:=⟨w.heap.size,2,none⟩) (by show w.heap.size<_;rw [iE];omega)).trans (uY ..)
theorem FK (w:World) (d:Dm) (A:Option Addr) (cap:Nat) (i:Int) (T T':Nat):(uZ w d A cap i T T').cell? ⟨w.heap.size+1,0,none⟩=some (.int .i64 i) :=
 ((ef (nh w d A cap i T T') i T').cell (p:=⟨w.heap.size+1,0,none⟩) (by show w.heap.size+1<_;rw [iE];omega)).trans (FI ..)
theorem Cw (w:World) (d:Dm) (A:Option Addr) (cap:Nat) (i:Int) (T T':Nat):bW (uZ w d A cap i T T') (some ⟨w.heap.size+2,0,none⟩) 1 [i]:=by
 unfold uZ;rw [←iE w d A cap i T T'];exact uk
def sv (d:Dm) (i:Int):Bool:=decide (treeErr d [i]=0) && leafB d.mem d.n i.toNat
theorem rK (d:Dm) (A:Option Addr) (cap:Nat) (i:Int) (w:World) (r:eg w A cap d.n d.mem):Rt 153 #[cM d A cap,.int .i64 i] w (.tuple #[.bool (sv d i),errV (treeErr d [i])]):=by
 have h:=pt w d A cap i 70 3;have a:=p8 d A cap _ 1 [i] (nh w d A cap i 70 3) (r.later h) (by simp) (Cv ..)
 have j:=aa h;have z:=aa r;unfold cM at a ⊢;simp only [List.length_singleton] at a;clear r h
 by_cases g:treeErr d [i]=0
 ·obtain ⟨x,k,rfl,B⟩:=yV g
  rw [g,errV_zero] at a;obtain ⟨-,-,t,-⟩:=aL x;have p:Hid (sv d (k:Int)=leafB d.mem d.n k):=by show _=_;simp [sv,g]
  have m:Hid (errV (treeErr d [(k:Int)])=.nilIface):=by show _=_;rw [g];rfl
  clear g x
  go_enter Tryz.func153,Tryz.ntmps153
  go_wp2_with fail;refine a.mono ?_;rintro e w1 ⟨rfl,f⟩;have q:Bl w w1:=ae j.out f;have D:w1.cell? ⟨w.heap.size,2,none⟩=some (.slice A d.n cap):=aD f (by show w.heap.size<_;rw [iE];omega) (uY ..)
  obtain ⟨v,C | ⟨b,o,rfl,l⟩⟩:=z.out.later q
  ·omega
  have u:=xr b o d.n cap k d.mem w1 t B l;have y:=aa q;clear f a l q;go_wp2_with fail;refine u.mono ?_;rintro e w2 ⟨rfl,s⟩;go_wp2_with fail
  go_ret2
  rw [p.out,m.out];exact ⟨rfl,ae y.out s⟩
 have p:Hid (sv d i=false):=by show _=_;simp [sv,g]
 have m:Hid (errV (treeErr d [i])=.iface 63 (.int .i64 (treeErr d [i]))):=ak g;rw [ak g] at a;clear g;generalize treeErr d [i]=c at a m
 go_enter Tryz.func153,Tryz.ntmps153
 go_wp2_with fail;refine a.mono ?_;rintro e w1 ⟨rfl,f⟩;go_wp2_with fail
 go_ret2
 rw [p.out,m.out];exact ⟨rfl,ae j.out f⟩
theorem pL (d:Dm) (b o cap:Nat) (i:Int) (w:World) (X:d.n≤12) (K:b7 w b o d.n d.mem):Calls Tryz.prog 64 #[.agg #[.string d.name,.int .i64 d.solve,.slice (some ⟨b,o,none⟩) d.n cap],.int .i64 i] w fun e w'=>(∃ A c,e=.returned (.slice A (bz d.mem d.n i).length c)∧bW w' A c (bz d.mem d.n i))∧Bl w w':=by
 obtain ⟨i0,y,F,G,H⟩:=info_parts Tryz.infoInt;have L:=bg w d (some ⟨b,o,none⟩) cap 70;have m:=aU w d (some ⟨b,o,none⟩) cap 70;have v:=(dN w d (some ⟨b,o,none⟩) cap 70).2.2;obtain ⟨W,x⟩:∃ W,W=aM w d (some ⟨b,o,none⟩) cap 70:=⟨_,rfl⟩;rw [←x] at L m v;have R:=aa x;have r:=aa m;have P:=aa (K.later m);have O:=aa v;have E:w.heap.size<W.heap.size:=by omega
 have U:(d.n:Int)≤12:=by omega
 obtain ⟨p,C⟩:∃ p:Nat→Bool,p=iG d.mem i:=⟨_,rfl⟩;have Q:=aa C;unfold bz;rw [←C];clear K x m v L C
 go_enter Tryz.func64,Tryz.ntmps64
 go_wp2_with fail
 go_loopg [5,6] d.n (fun g s5 s6 wr => ∃ (k:Nat),k≤d.n∧g=d.n-k∧s6=.int .i64 k∧wr.ownsRow W.heap.size 3 1 s5 (selTo p k).length (aF (selTo p k))∧Bl W wr)
 case atStart=>exact ⟨0,zU,rfl,rfl,World.ownsRow_nil _ _ _ _,by rw [R.out];exact zS⟩
 case round =>
  obtain ⟨k,V,rfl,rfl,a,f⟩:=hrel;have q:=aa f;have I:=aa a;have c2:wr.cell? ⟨w.heap.size,2,none⟩=some (.slice (some ⟨b,o,none⟩) d.n cap):=aD f E O.out;have N:=f.size
  by_cases B:k<d.n
  ·have T:(k:Int)<(d.n:Int):=by omega
   obtain ⟨-,J,-,-⟩:=(P.out.later f).2 k B;have M:=cF p k;have h:p k=((d.mem k).parent == i):=by rw [Q.out];rfl
   clear f;cases hb:p k
   ·have t:=aa hb
    rw [hb] at h;have D:((d.mem k).parent == i)=false:=h.symm;clear hb h a;go_wp2_with fail
    go_roundg (d.n-(k+1))
    case measure=>omega
    case rel=>exact ⟨k+1,by omega,rfl,by go_num,by rw [gF t.out];exact I.out,q.out⟩
   have t:=aa hb;rw [hb] at h;have D:((d.mem k).parent == i)=true:=h.symm;clear hb h
   go_wp2_with (at_builtin;refine wpList_append_own _ rfl _ _ 26 rfl W.heap.size 3 i0 (.int .i64 0) 1 8 Tryz.underlying26 y F G H rfl (by decide) _ _ _ rfl (a.alloc _) ⟨wr.heap.size,0,none⟩ 1 1 [.int .i64 k] rfl rfl bw dF (by unfold maxLen;omega) (by omega) (by simp;omega) ?_)
   intro v' w2 l j _;have s:Hid (Bl W w2):=bB q.out a j;have u:Hid (w2.ownsRow W.heap.size 3 1 v' (selTo p (k+1)).length (aF (selTo p (k+1)))):=by
    show World.ownsRow ..
    rw [jN t.out,mapI_snoc,List.length_append];exact l
   clear l j a c2;go_wp2_with fail
   go_roundg (d.n-(k+1))
   case measure=>omega
   case rel=>exact ⟨k+1,by omega,rfl,by go_num,u.out,s.out⟩
  have z:k=d.n:=by omega
  subst z;clear f a;go_wp2_with fail;go_ret;obtain ⟨A,c,J,S⟩:=ss I.out;exact ⟨⟨A,c,by rw [←J];rfl,S⟩,ae r.out q.out⟩
theorem Dj {p:Nat→Bool} {n:Nat}:((selTo p n).length=0)↔¬ 0≤findFrom p n 0:=by
 rcases findFrom_cases p n 0 with ⟨a,b⟩ | ⟨k,a,_,f,c,_⟩
 ·rw [a,yH (fun j g=>b j (zU) (by omega))]
  simp
 rw [a]
 constructor
 ·intro h
  have d:∀ m,k<m→0<(selTo p m).length:=fun m i=>by
   induction m with
   | zero=>omega
   | succ m ih =>
    rw [selTo,List.length_append]
    by_cases e:k=m
    ·subst e;rw [if_pos c];simp
    have:=ih (by omega);omega
  have:=d n (by omega)
  omega
 intro h;omega
theorem rF (d:Dm) (b o cap i:Nat) (w:World) (u:d.n≤12) (s:i<d.n) (j:b7 w b o d.n d.mem):Rt 85 #[.agg #[.string d.name,.int .i64 d.solve,.slice (some ⟨b,o,none⟩) d.n cap],.int .i64 i] w (.bool (leafB d.mem d.n i)):=by
 have q:=bg w d (some ⟨b,o,none⟩) cap 70;have a:=aU w d (some ⟨b,o,none⟩) cap 70;have g:=j.later a;have c:=pL d b o cap i (aM w d (some ⟨b,o,none⟩) cap 70) u g;have k:=aa a;obtain ⟨-,-,-,y⟩:=j.2 i s;have r:=j.1;have t:(i:Int)<(d.n:Int):=by omega
 have v:(d.n:Int)≤12:=by omega
 clear j g a q
 by_cases f:(d.mem i).formula.size=0
 ·have m:(d.mem i).formula.toList.isEmpty=true:=by rw [aV];simpa using f
  have h:Hid (leafB d.mem d.n i=(((bz d.mem d.n i).length:Int) == 0)):=by
   show _=_
   rw [mQ f,Bool.eq_iff_iff];have:=Dj (p:=iG d.mem i) (n:=d.n);simp only [Bool.not_eq_true',decide_eq_false_iff_not,beq_iff_eq];rw [←this]
   show _↔((bz d.mem d.n i).length:Int)=0
   unfold bz
   omega
  clear f;generalize (bz d.mem d.n i).length=np at c h
  go_enter Tryz.func85,Tryz.ntmps85
  go_wp2_with fail;refine c.mono ?_;rintro e w1 ⟨⟨A',x,rfl,z⟩,l⟩;go_wp2_with fail;go_ret;exact ⟨by rw [h.out];rfl,ae k.out l⟩
 have m:(d.mem i).formula.toList.isEmpty=false:=by rw [aV];simpa using f
 have h:Hid (leafB d.mem d.n i=false):=oW f;clear f c
 go_enter Tryz.func85,Tryz.ntmps85
 go_wp2_with fail;go_ret;exact ⟨by rw [h.out];rfl,by go_grown⟩
theorem nY (j q r:Nat) (u:dt j) (A0:Option Addr) (n cap:Nat) (p:Nat→Bool) (w:World) (z:n≤4) (s:JD j q r w n p):Rt 108 #[.agg #[.slice A0 n cap],.func (.func j) #[] #[.pointer (some ⟨q,0,none⟩),.pointer (some ⟨r,0,none⟩)]] w (.bool (decide (0≤findFrom p n 0))):=by
 have t:=aa s;have x:(n:Int)≤4:=by omega
 clear s;unfold dt at u
 go_enter Tryz.func108,Tryz.ntmps108
 go_wp2_with fail
 go_loopg [5,9] n (fun g s5 s9 wr => ∃ (k:Nat),k≤n∧g=n-k∧s9=.int .i64 k∧findFrom p (n-k) k=findFrom p n 0∧Bl w wr)
 case atStart=>exact ⟨0,zU,rfl,rfl,rfl,by go_grown⟩
 case round =>
  obtain ⟨k,y,rfl,rfl,l,a⟩:=hrel;have f:=aa l;have i:=aa a
  by_cases o:k<n
  ·have v:(k:Int)<(n:Int):=by omega
   have d:Hid (n-k=(n-(k+1))+1):=by show _=_;omega
   have b:=t.out k wr o a;clear l a;cases hb:p k
   ·rw [hb] at b
    have h:=aa hb;clear hb;go_wp2_with fail;refine b.mono ?_;rintro e w1 ⟨rfl,c⟩;go_wp2_with fail
    go_roundg (n-(k+1))
    case measure=>omega
    case rel=>exact ⟨k+1,by omega,rfl,by go_num,by rw [←f.out,d.out,be _ h.out],ae i.out c⟩
   rw [hb] at b;have h:=aa hb;clear hb;go_wp2_with fail;refine b.mono ?_;rintro e w1 ⟨rfl,c⟩;go_wp2_with fail;go_ret;exact ⟨by rw [←f.out,d.out,bj _ h.out,decide_eq_true (by omega)];rfl,ae i.out c⟩
  have m:k=n:=by omega
  subst m;clear l a;go_wp2_with fail;go_ret;exact ⟨by rw [←f.out,Nat.sub_self];rfl,i.out⟩
def kg (w:World) (A0:Option Addr) (n cap:Nat) (Ap:Option Addr) (m cp T T':Nat):World:=(ay w A0 n cap T).alloc (.cells #[.slice Ap m cp] T')
theorem dW (w:World) (A0:Option Addr) (n cap:Nat) (Ap:Option Addr) (m a T T':Nat):(kg w A0 n cap Ap m a T T').heap.size=w.heap.size+2:=by unfold kg;simp [aw]
theorem m4 (w:World) (A0:Option Addr) (n cap:Nat) (Ap:Option Addr) (m a T T':Nat):Bl w (kg w A0 n cap Ap m a T T'):=by unfold kg ay;go_grown
theorem sL (w:World) (A0:Option Addr) (n cap:Nat) (Ap:Option Addr) (m a T T':Nat):(kg w A0 n cap Ap m a T T').cell? ⟨w.heap.size,0,none⟩=some (.slice A0 n cap):=by
 unfold kg;rw [World.cell?_alloc_lt _ _ ⟨w.heap.size,0,none⟩ (by rw [aw];exact Nat.lt_succ_self _)]
 exact aI ..
theorem sM (w:World) (A0:Option Addr) (n cap:Nat) (Ap:Option Addr) (m a T T':Nat):(kg w A0 n cap Ap m a T T').cell? ⟨w.heap.size+1,0,none⟩=some (.slice Ap m a):=by
 unfold kg;rw [←aw w A0 n cap T]
 simp
theorem xX:dt 109:=fun args w=>by simp [callFunc,Tryz.func109];rfl
theorem vd (b o n cap k q r bp op d:Nat) (D:Nat→Dm) (A:Nat→Option Addr) (C:Nat→Nat) (x:Int) (w:World) (g:k<n) (s:n≤4) (f:(D k).n≤12) (c:dS w b o n D A C) (v:w.cell? ⟨bp,op+k,none⟩=some (.int .i64 x)) (t:w.cell? ⟨q,0,none⟩=some (.slice (some ⟨bp,op,none⟩) n d)) (u:w.cell? ⟨r,0,none⟩=some (.slice (some ⟨b,o,none⟩) n cap)) :
  Rt 109 #[.int .i64 k,.pointer (some ⟨q,0,none⟩),.pointer (some ⟨r,0,none⟩)] w (.bool (decide (x<0) || decide (((D k).n:Int)≤x))):=by
 obtain ⟨-,-,e,-⟩:=c.2 k g;have h:(k:Int)<(n:Int):=by omega
 have i:(n:Int)≤4:=by omega
 generalize (D k).n=m at e f;have p:(m:Int)≤12:=by omega
 clear c
 by_cases a:x<0
 ·rw [decide_eq_true a]
  go_enter Tryz.func109,Tryz.ntmps109
  go_wp2_with fail
  go_quiet (fail)
  go_wp2_with fail;go_ret;exact ⟨by simp,ac (zS) _⟩
 rw [decide_eq_false a];have j:0≤x:=by omega
 have l:decide (x<0)=false:=decide_eq_false a
 go_enter Tryz.func109,Tryz.ntmps109
 go_wp2_with fail
 go_quiet (fail)
 go_wp2_with fail;go_ret;exact ⟨by simp,ac (zS) _⟩
theorem kC (A0:Option Addr) (cap n:Nat) (D:Nat→Dm) (A:Nat→Option Addr) (C:Nat→Nat) (Ap:Option Addr) (r:Nat) (L:List Int) (w:World) (G:aY w A0 cap n D A C) (M:a7 w Ap r L):Rt 67 #[.agg #[.slice A0 n cap],.slice Ap L.length r] w (errV (placeErr D n L)):=by
 have s:=m4 w A0 n cap Ap L.length r 24 27;have h:=oh A0 cap n D A C (kg w A0 n cap Ap L.length r 24 27) (G.later s);have f:=aa s;have T:=aa G;have U:=aa M;clear G s M
 by_cases q:(am D n).2.2=0
 ·obtain ⟨W,z,-,O⟩:=au q
  have v:Hid (placeErr D n L=shapeErr D n L):=DM q;rw [q,errV_zero] at h;have S:=aa O;have V:(n:Int)≤4:=by omega
  clear q O
  by_cases i:L.length=n
  ·have u:((L.length:Int) == (n:Int))=true:=by simp [i]
   have J:=aa i;obtain ⟨I,K | ⟨bp,op,rfl,H,g⟩⟩:=U.out
   ·rw [K] at i;simp at i;omega
   rw [i] at h f I u;rw [i];have R:Hid (∀ j,j<n→w.cell? ⟨bp,op+j,none⟩=some (.int .i64 (L.getD j 0))):=fun j F=>g j (by omega)
   clear i g
   go_enter Tryz.func67,Tryz.ntmps67
   go_wp2_with fail;refine h.mono ?_;rintro e w1 ⟨rfl,a⟩;have E:Bl w w1:=ae f.out a;have X:w.heap.size+1<w1.heap.size:=by have:=a.size;rw [dW] at this;omega
   have P:w1.cell? ⟨w.heap.size,0,none⟩=some (.slice A0 n cap):=aD a (by show w.heap.size<_;rw [dW];omega) (sL ..)
   have Q:w1.cell? ⟨w.heap.size+1,0,none⟩=some (.slice (some ⟨bp,op,none⟩) n r):=aD a (by show w.heap.size+1<_;rw [dW];omega) (sM ..)
   obtain ⟨N,K | ⟨b,o,rfl,y⟩⟩:=T.out.later E
   ·omega
   have d:=nY 109 (w.heap.size+1) w.heap.size xX (some ⟨b,o,none⟩) n cap (jU D L) w1 z (fun j w' F k=>vd b o n cap j (w.heap.size+1) w.heap.size bp op r D A C (L.getD j 0) w' F z (S.out j F).2 (y.later k) (((ae E k).cell (p:=⟨bp,op+j,none⟩) H).trans (R.out j F)) (aD k X Q) (aD k (by show w.heap.size<_;omega) P))
   have B:=aa E;clear a h y E
   by_cases x:0≤findFrom (jU D L) n 0
   ·rw [decide_eq_true x] at d
    have l:Hid (placeErr D n L=1):=by show _=_;rw [v.out,Kj J.out x]
    clear x;go_wp2_with fail;refine d.mono ?_;rintro e w2 ⟨rfl,t⟩;go_wp2_with fail;go_ret;exact ⟨by rw [l.out];rfl,ae B.out t⟩
   rw [decide_eq_false x] at d;have l:Hid (placeErr D n L=0):=by show _=_;rw [v.out,Kk J.out x]
   clear x;go_wp2_with fail;refine d.mono ?_;rintro e w2 ⟨rfl,t⟩;go_wp2_with fail;go_ret;exact ⟨by rw [l.out];rfl,ae B.out t⟩
  have u:((L.length:Int) == (n:Int))=false:=by simp;omega
  have l:Hid (placeErr D n L=3):=by show _=_;rw [v.out,Kw i]
  generalize L.length=m at h u f;clear i
  go_enter Tryz.func67,Tryz.ntmps67
  go_wp2_with fail;refine h.mono ?_;rintro e w1 ⟨rfl,a⟩;have P:w1.cell? ⟨w.heap.size,0,none⟩=some (.slice A0 n cap):=aD a (by show w.heap.size<_;rw [dW];omega) (sL ..)
  have Q:w1.cell? ⟨w.heap.size+1,0,none⟩=some (.slice Ap m r):=aD a (by show w.heap.size+1<_;rw [dW];omega) (sM ..)
  have B:=aa (ae f.out a);clear a h;go_wp2_with fail;go_ret;exact ⟨by rw [l.out];rfl,B.out⟩
 have l:Hid (placeErr D n L=(am D n).2.2):=KD q;have v:Hid (errV (am D n).2.2=.iface 63 (.int .i64 (am D n).2.2)):=ak q;rw [ak q] at h;clear q;generalize (am D n).2.2=c at h v l;generalize L.length=m at h f
 go_enter Tryz.func67,Tryz.ntmps67
 go_wp2_with fail;refine h.mono ?_;rintro e w1 ⟨rfl,a⟩;go_wp2_with fail;go_ret;exact ⟨by rw [l.out,v.out];rfl,ae f.out a⟩
theorem gS (A0:Option Addr) (cap n:Nat) (D:Nat→Dm) (A:Nat→Option Addr) (C:Nat→Nat) (Ap:Option Addr) (M:Nat) (L:List Int) (w:World) (P:aY w A0 cap n D A C) (Q:a7 w Ap M L):Rt 33 #[.agg #[.slice A0 n cap],.slice Ap L.length M] w (.tuple #[.int .i64 (numV D n L),errV (placeErr D n L)]):=by
 have l:=aq w A0 n cap 24;have h:=kC A0 cap n D A C Ap M L (ay w A0 n cap 24) (P.later l) (Q.later l);have u:=aa l;have HM:=aa P;have HP:=aa Q;clear P l Q
 by_cases r:placeErr D n L=0
 ·have t:Hid (InO D n L):=fV r
  have HV:Hid (numV D n L=numI D L n):=by show _=_;unfold numV;rw [if_pos r]
  have I:Hid (errV (placeErr D n L)=.nilIface):=by show _=_;rw [r];rfl
  rw [r,errV_zero] at h;obtain ⟨hn1,hn4,-,Z⟩:=au t.out.right;have HD:=aa Z;have hn':(n:Int)≤4:=by omega
  have G:=t.out.len;obtain ⟨S,N | ⟨bp,op,rfl,R,f⟩⟩:=HP.out
  ·rw [N] at G;simp at G;omega
  rw [G] at h S;rw [G];have HC:Hid (∀ j,j<n→w.cell? ⟨bp,op+j,none⟩=some (.int .i64 (L.getD j 0))):=fun j hj=>f j (by omega)
  clear r Z G f
  go_enter Tryz.func33,Tryz.ntmps33
  go_wp2_with fail;refine h.mono ?_;rintro e w1 ⟨rfl,a⟩;have O:Bl w w1:=ae u.out a;have h2:w1.cell? ⟨w.heap.size,0,none⟩=some (.slice A0 n cap):=aD a (by show w.heap.size<_;rw [aw];omega) (aI ..)
  obtain ⟨Y,N | ⟨b,o,rfl,z⟩⟩:=HM.out.later O
  ·omega
  have J:=aa z;have X:=aa O;clear a h z O;go_wp2_with fail
  go_loopg [7,19] n (fun g s7 s19 wr => ∃ (k:Nat),k≤n∧g=n-k∧s19=.int .i64 k∧s7=.int .i64 (numI D L k)∧Bl w1 wr)
  case atStart=>exact ⟨0,zU,rfl,rfl,rfl,zS⟩
  case round =>
   obtain ⟨k,hk,rfl,rfl,rfl,q⟩:=hrel;have K:=aa q
   by_cases i:k<n
   ·obtain ⟨N,h1,h3,-⟩:=(J.out.later q).2 k i
    have hki:(k:Int)<(n:Int):=by omega
    have s:wr.cell? ⟨bp,op+k,none⟩=some (.int .i64 (L.getD k 0)):=((ae X.out q).cell (p:=⟨bp,op+k,none⟩) R).trans (HC.out k i);have F:∀ o1,(wr.alloc o1).cell? ⟨bp,op+k,none⟩=some (.int .i64 (L.getD k 0)):=fun o1=>(World.cell?_alloc_lt _ _ ⟨bp,op+k,none⟩ (World.block_lt_of_cell? _ _ s)).trans s
    obtain ⟨a,d,hb3⟩:=ba t.out (k:=k+1) (by omega)
    obtain ⟨B,E,hb6⟩:=ba t.out (k:=k) (by omega)
    have W:=t.out.lo k i;have H:=t.out.hi k i;obtain ⟨T,U⟩:=HD.out k i;have v:Hid (numI D L (k+1)=numI D L k*((D k).n:Int)+L.getD k 0):=rfl;rw [v.out] at a d;generalize L.getD k 0=x at s F a d W H v;generalize (D k).n=m at h3 a d T U H v;generalize numI D L k=y at a d B E v;have hm0:0≤y*(m:Int):=Int.mul_nonneg B (by omega)
    have hm1:y*(m:Int)≤20736:=by omega
    have hm2:y*(m:Int)+x≤20736:=by omega
    clear q d E;go_wp2_with fail
    go_quiet (fail)
    go_wp2_with fail
    go_roundg (n-(k+1))
    case measure=>omega
    case rel=>exact ⟨k+1,by omega,rfl,by go_num,by rw [v.out],ac (K.out.alloc (by have:=K.out.size;omega) _) _⟩
   have V:k=n:=by omega
   subst V;go_wp2_with fail
   go_ret2
   rw [HV.out,I.out];exact ⟨rfl,ae X.out K.out⟩
 have HV:Hid (numV D n L=0):=by show _=_;unfold numV;rw [if_neg r]
 have I:Hid (errV (placeErr D n L)=.iface 63 (.int .i64 (placeErr D n L))):=ak r;rw [ak r] at h;clear r;generalize placeErr D n L=c at h I;generalize L.length=m at h
 go_enter Tryz.func33,Tryz.ntmps33
 go_wp2_with fail;refine h.mono ?_;rintro e w1 ⟨rfl,a⟩;go_wp2_with fail
 go_ret2
 rw [HV.out,I.out];exact ⟨rfl,ae u.out a⟩
def dZ (D:Nat→Dm) (L:List Int) (i:Nat):Bool := !leafB (D i).mem (D i).n (L.getD i 0).toNat
def leafV (D:Nat→Dm) (n:Nat) (L:List Int):Bool:=if placeErr D n L=0 then !decide (0≤findFrom (dZ D L) n 0) else false
theorem CC:dt 152:=fun args w=>by simp [callFunc,Tryz.func152];rfl
theorem xZ (b o n cap k q r bp op p X:Nat) (D:Nat→Dm) (A:Nat→Option Addr) (C:Nat→Nat) (w:World) (s:k<n) (E:n≤4) (m:(az (D k)).2=0) (B:X<(D k).n) (l:dS w b o n D A C) (H:w.cell? ⟨bp,op+k,none⟩=some (.int .i64 X)) (F:w.cell? ⟨q,0,none⟩=some (.slice (some ⟨b,o,none⟩) n cap)) (G:w.cell? ⟨r,0,none⟩=some (.slice (some ⟨bp,op,none⟩) n p)) :
  Rt 152 #[.int .i64 k,.pointer (some ⟨q,0,none⟩),.pointer (some ⟨r,0,none⟩)] w (.bool (!leafB (D k).mem (D k).n X)):=by
 obtain ⟨v,x,z,j⟩:=l.2 k s;have t:(k:Int)<(n:Int):=by omega
 have u:(n:Int)≤4:=by omega
 have a:treeErr (D k) [(X:Int)]=0:=by rw [gZ m,if_neg (by omega)]
 have f:sv (D k) (X:Int)=leafB (D k).mem (D k).n X:=by simp [sv,a]
 have c:Hid (∀ w',Bl w w'→Rt 153 #[.agg #[.string (D k).name,.int .i64 (D k).solve,.slice (A k) (D k).n (C k)],.int .i64 X] w' (.tuple #[.bool (leafB (D k).mem (D k).n X),.nilIface])):=fun w' i=>by
  have h:=rK (D k) (A k) (C k) X w' (j.later i);rw [a,f,errV_zero] at h;exact h
 generalize leafB (D k).mem (D k).n X=y at c;clear l j a f m
 go_enter Tryz.func152,Tryz.ntmps152
 go_wp2_with fail
 go_region_law ((go_simp;refine (c.out _ (by go_grown)).mono ?_;rintro e w2 ⟨rfl,d⟩;have g:=ae (W0:=w) (by go_grown) d;clear d))
 all_goals go_wp2_with fail
 all_goals go_ret
 all_goals exact ⟨rfl,g⟩
theorem CD (A0:Option Addr) (cap n:Nat) (D:Nat→Dm) (A:Nat→Option Addr) (C:Nat→Nat) (Ap:Option Addr) (q:Nat) (L:List Int) (w:World) (E:aY w A0 cap n D A C) (F:a7 w Ap q L):Rt 125 #[.agg #[.slice A0 n cap],.slice Ap L.length q] w (.tuple #[.bool (leafV D n L),errV (placeErr D n L)]):=by
 have g:=m4 w A0 n cap Ap L.length q 24 27;have h:=kC A0 cap n D A C Ap q L (kg w A0 n cap Ap L.length q 24 27) (E.later g) (F.later g);have f:=aa g;have O:=aa E;have P:=aa F;clear E g F
 by_cases i:placeErr D n L=0
 ·have s:Hid (InO D n L):=fV i
  have HV:Hid (leafV D n L = !decide (0≤findFrom (dZ D L) n 0)):=by show _=_;unfold leafV;rw [if_pos i]
  have z:Hid (errV (placeErr D n L)=.nilIface):=by show _=_;rw [i];rfl
  rw [i,errV_zero] at h;obtain ⟨U,x,-,-⟩:=au s.out.right;have T:(n:Int)≤4:=by omega
  have v:=s.out.len;obtain ⟨I,J | ⟨bp,op,rfl,H,d⟩⟩:=P.out
  ·rw [J] at v;simp at v;omega
  rw [v] at h f;rw [v];have N:Hid (∀ j,j<n→w.cell? ⟨bp,op+j,none⟩=some (.int .i64 (L.getD j 0))):=fun j r=>d j (by omega)
  clear i v d I
  go_enter Tryz.func125,Tryz.ntmps125
  go_wp2_with fail;refine h.mono ?_;rintro e w1 ⟨rfl,a⟩;have B:Bl w w1:=ae f.out a;have X:w.heap.size+1<w1.heap.size:=by have:=a.size;rw [dW] at this;omega
  have V:w1.cell? ⟨w.heap.size,0,none⟩=some (.slice A0 n cap):=aD a (by show w.heap.size<_;rw [dW];omega) (sL ..)
  have W:w1.cell? ⟨w.heap.size+1,0,none⟩=some (.slice (some ⟨bp,op,none⟩) n q):=aD a (by show w.heap.size+1<_;rw [dW];omega) (sM ..)
  obtain ⟨K,J | ⟨b,o,rfl,t⟩⟩:=O.out.later B
  ·omega
  have l:=nY 152 w.heap.size (w.heap.size+1) CC (some ⟨b,o,none⟩) n cap (dZ D L) w1 x (fun j w' r k=>by
   have S:=s.out.lo j r;have R:=s.out.hi j r;have Q:L.getD j 0=((L.getD j 0).toNat:Int):=by omega
   have u:=((ae B k).cell (p:=⟨bp,op+j,none⟩) H).trans (N.out j r);rw [Q] at u;exact xZ b o n cap j w.heap.size (w.heap.size+1) bp op q (L.getD j 0).toNat D A C w' r x ((f9 s.out.right).2 j r) (by omega) (t.later k) u (aD k (by show w.heap.size<_;omega) V) (aD k X W))
  have M:=aa B;generalize decide (0≤findFrom (dZ D L) n 0)=y at l HV;clear a h t B;go_wp2_with fail;refine l.mono ?_;rintro e w2 ⟨rfl,G⟩;go_wp2_with fail
  go_ret2
  rw [HV.out,z.out];exact ⟨rfl,ae M.out G⟩
 have HV:Hid (leafV D n L=false):=by show _=_;unfold leafV;rw [if_neg i]
 have z:Hid (errV (placeErr D n L)=.iface 63 (.int .i64 (placeErr D n L))):=ak i;rw [ak i] at h;clear i;generalize placeErr D n L=c at h z;generalize L.length=m at h f
 go_enter Tryz.func125,Tryz.ntmps125
 go_wp2_with fail;refine h.mono ?_;rintro e w1 ⟨rfl,a⟩;go_wp2_with fail
 go_ret2
 rw [HV.out,z.out];exact ⟨rfl,ae f.out a⟩
theorem GA (t:Addr) (w:World):(ReflectliteValue.unpack (.iface 99 (.pointer (some t)))).run Tryz.prog w
  = .ok (.agg #[.pointer (some ⟨7,99,none⟩),.pointer (some ⟨w.heap.size,0,none⟩),.int .u64 150]) (w.alloc (.cells #[.pointer (some t)] 99)):=by kernel_rfl
theorem JX (a : Addr) (w : World) : (ReflectliteValue.methodAny (ReflectliteValue.valueError "reflectlite.Value.Type" 0) (fun t _ _ _ => ReflectliteType.toType t) #[.agg #[.pointer (some ⟨7, 99, none⟩), .pointer (some a), .int .u64 150]]).run Tryz.prog w
  = .ok (.iface 198 (.agg #[.pointer (some ⟨7,99,none⟩)])) w:=by kernel_rfl
theorem xB (h : Value) (w : World) : (Go.method 482 198 (.agg #[h]) "Kind").run Tryz.prog w = .ok (318, h) w := by kernel_rfl
theorem JO (w:World):((ReflectliteType.abiMethod fun t=>Functor.map (fun a:Nat=>Value.int IntKind.u8 (a:Int)) (Rtype.kind t)) #[.pointer (some ⟨7,99,none⟩)]).run Tryz.prog w=.ok (.int .u8 22) w:=by kernel_rfl
theorem JN (w:World):((ReflectliteType.abiMethod fun t=>Functor.map (fun a:Nat=>Value.int IntKind.u8 (a:Int)) (Rtype.kind t)) #[.pointer (some ⟨7,63,none⟩)]).run Tryz.prog w=.ok (.int .u8 2) w:=by kernel_rfl
theorem Cg (a : Addr) (W : World) : (ReflectliteValue.method (ReflectliteValue.valueError "reflectlite.Value.IsNil" 0) ReflectliteValue.isNil #[.agg #[.pointer (some ⟨7, 99, none⟩), .pointer (some a), .int .u64 150]]).run Tryz.prog W = (ReflectliteValue.isNil 99 a 150 22).run Tryz.prog W := by kernel_rfl
theorem uC (a : Addr) (W : World) : (ReflectliteValue.method (ReflectliteValue.valueError "reflectlite.Value.Elem" 0) ReflectliteValue.elem #[.agg #[.pointer (some ⟨7, 99, none⟩), .pointer (some a), .int .u64 150]]).run Tryz.prog W = (ReflectliteValue.elem 99 a 150 22).run Tryz.prog W := by kernel_rfl
theorem Jg (ta b:Addr) (W:World):(ReflectliteValue.set #[.agg #[.pointer (some ⟨7,63,none⟩),.pointer (some ta),.int .u64 386],.agg #[.pointer (some ⟨7,63,none⟩),.pointer (some b),.int .u64 130]]).run Tryz.prog W=(do let v ←loadVar 63 b;storeVar 63 ta v;pure (Value.tuple #[]):Sem Value).run Tryz.prog W:=by kernel_rfl
theorem IZ (a p:Addr) (W:World) (b:W.cell? a=some (.pointer (some p))) :
  (ReflectliteValue.method (ReflectliteValue.valueError "reflectlite.Value.IsNil" 0) ReflectliteValue.isNil #[.agg #[.pointer (some ⟨7, 99, none⟩), .pointer (some a), .int .u64 150]]).run Tryz.prog W = .ok (.bool false) W := by
 rw [Cg]
 simp [ReflectliteValue.isNil,loadVar,isAgg,underlying,Tryz.underlying99,b,Result.andThen]
theorem xA (h : Value) (w : World) : (Go.method 482 198 (.agg #[h]) "Elem").run Tryz.prog w = .ok (328, .agg #[h]) w := by kernel_rfl
theorem mi (h : Value) (w : World) : (Go.method 482 198 (.agg #[h]) "Implements").run Tryz.prog w = .ok (329, .agg #[h]) w := by kernel_rfl
theorem kx (h : Value) (w : World) : (Go.method 482 198 (.agg #[h]) "AssignableTo").run Tryz.prog w = .ok (326, .agg #[h]) w := by kernel_rfl
theorem JI (w:World):(ReflectliteType.method ReflectliteType.elem #[.agg #[.pointer (some ⟨7,99,none⟩)]]).run Tryz.prog w=.ok (.iface 198 (.agg #[.pointer (some ⟨7,63,none⟩)])) w:=by kernel_rfl
theorem uh (w : World) : (ReflectliteType.relation "Implements" ReflectliteType.implements_ #[.agg #[.pointer (some ⟨7, 63, none⟩)], .iface 198 (.agg #[.pointer (some ⟨7, 31, none⟩)])]).run Tryz.prog w = .ok (.bool true) w := by kernel_rfl
theorem IA (v:Value) (w:World):(ReflectliteType.typeOf #[.iface 63 v]).run Tryz.prog w=.ok (.iface 198 (.agg #[.pointer (some ⟨7,63,none⟩)])) w:=by kernel_rfl
theorem tE (w : World) : (ReflectliteType.relation "AssignableTo" ReflectliteType.assignableTo #[.agg #[.pointer (some ⟨7, 63, none⟩)], .iface 198 (.agg #[.pointer (some ⟨7, 63, none⟩)])]).run Tryz.prog w = .ok (.bool true) w := by kernel_rfl
theorem Gz (c:Int) (w:World):(ReflectliteValue.unpack (.iface 63 (.int .i64 c))).run Tryz.prog w
  = .ok (.agg #[.pointer (some ⟨7,63,none⟩),.pointer (some ⟨w.heap.size,0,none⟩),.int .u64 130]) (w.alloc (.cells #[.int .i64 c] 63)):=by kernel_rfl
theorem elemOfP (w:World):(Rtype.elem? 99).run Tryz.prog w=.ok (some 63) w:=by kernel_rfl
theorem Ky (p:Addr) (w:World):(ReflectliteValue.mk 63 p ReflectliteValue.flagAddr).run Tryz.prog w=.ok (.agg #[.pointer (some ⟨7,63,none⟩),.pointer (some p),.int .u64 386]) w:=by kernel_rfl
theorem IV (a p:Addr) (W:World) (b:W.cell? a=some (.pointer (some p))) :
  (ReflectliteValue.method (ReflectliteValue.valueError "reflectlite.Value.Elem" 0) ReflectliteValue.elem #[.agg #[.pointer (some ⟨7, 99, none⟩), .pointer (some a), .int .u64 150]]).run Tryz.prog W
   = .ok (.agg #[.pointer (some ⟨7,63,none⟩),.pointer (some p),.int .u64 386]) W:=by
 rw [uC]
 simp [ReflectliteValue.elem,loadVar,isAgg,underlying,Tryz.underlying99,b,Result.andThen,elemOfP,Ky]
theorem setN (ta b:Addr) (c:Int) (old:Value) (W:World) (a:W.cell? b=some (.int .i64 c)) (e:W.cell? ta=some old) (d:W.frozen? ta=false) :
  (ReflectliteValue.set #[.agg #[.pointer (some ⟨7,63,none⟩),.pointer (some ta),.int .u64 386],.agg #[.pointer (some ⟨7,63,none⟩),.pointer (some b),.int .u64 130]]).run Tryz.prog W
   = .ok (.tuple #[]) (W.setCell ta (.int .i64 c)):=by
 rw [Jg]
 simp [loadVar,isAgg,underlying,Tryz.underlying63,a,Result.andThen,storeVar,Value.cells,storeCells,Addr.add]
 rw [run_store Tryz.prog W ta _ _ (by rfl)]
 simp [e,d]
def gI (w:World):Prop:=w.cell? ⟨0,0,none⟩=some (.iface 198 (.agg #[.pointer (some ⟨7,31,none⟩)]))
theorem gI.lt {w:World} (h:gI w):0<w.heap.size:=by
 rcases Nat.lt_or_ge 0 w.heap.size with h' | h'
 ·exact h'
 unfold gI at h
 simp [World.cell?,Array.getElem?_eq_none h'] at h
theorem gI.later {w w':World} (h:gI w) (a:Bl w w'):gI w':=aD a h.lt h
theorem IQ (c:Int) (b:Nat) (w:World) (e:gI w) (a:b<w.heap.size) (g:w.cell? ⟨b,0,none⟩=some (.int .i64 0)) (d:w.frozen? ⟨b,0,none⟩=false) :
  Calls Tryz.prog 42 #[.iface 63 (.int .i64 c),.iface 99 (.pointer (some ⟨b,0,none⟩))] w fun h w'=>h=.returned (.bool true)∧w'=((((w.alloc (.cells #[.pointer (some ⟨b,0,none⟩)] 99)).alloc (.cells #[.pointer (some ⟨7,99,none⟩),.pointer (some ⟨w.heap.size,0,none⟩),.int .u64 150] 160)).alloc (.cells #[.pointer (some ⟨7,99,none⟩),.pointer (some ⟨w.heap.size,0,none⟩),.int .u64 150] 160)).alloc (.cells #[.int .i64 c] 63)).setCell ⟨b,0,none⟩ (.int .i64 c):=by
 have x1 := @run_callFunc_extern Tryz.prog 81 _ (fun args=>ReflectliteValue.unpack (args.getD 0 (.tuple #[]))) Tryz.func81 (by kernel_rfl) (by kernel_rfl) (by kernel_rfl) (by kernel_rfl)
 have x2 := @run_callFunc_extern Tryz.prog 82 _ (ReflectliteValue.methodAny (ReflectliteValue.valueError "reflectlite.Value.Type" 0) (fun t _ _ _ => ReflectliteType.toType t)) Tryz.func82 (by kernel_rfl) (by kernel_rfl) (by kernel_rfl) (by kernel_rfl)
 have x3 := @run_callFunc_extern Tryz.prog 83 _ (ReflectliteValue.method (ReflectliteValue.valueError "reflectlite.Value.IsNil" 0) ReflectliteValue.isNil) Tryz.func83 (by kernel_rfl) (by kernel_rfl) (by kernel_rfl) (by kernel_rfl)
 have x4 := @run_callFunc_extern Tryz.prog 318 _ (ReflectliteType.abiMethod fun t=>do pure (.int .u8 (←Rtype.kind t))) Tryz.func318 (by kernel_rfl) (by kernel_rfl) (by kernel_rfl) (by kernel_rfl)
 have x5 := @run_callFunc_extern Tryz.prog 328 _ (ReflectliteType.method ReflectliteType.elem) Tryz.func328 (by kernel_rfl) (by kernel_rfl) (by kernel_rfl) (by kernel_rfl)
 have x6 := @run_callFunc_extern Tryz.prog 329 _ (ReflectliteType.relation "Implements" ReflectliteType.implements_) Tryz.func329 (by kernel_rfl) (by kernel_rfl) (by kernel_rfl) (by kernel_rfl)
 have x7 := @run_callFunc_extern Tryz.prog 118 _ ReflectliteType.typeOf Tryz.func118 (by kernel_rfl) (by kernel_rfl) (by kernel_rfl) (by kernel_rfl)
 have x8 := @run_callFunc_extern Tryz.prog 326 _ (ReflectliteType.relation "AssignableTo" ReflectliteType.assignableTo) Tryz.func326 (by kernel_rfl) (by kernel_rfl) (by kernel_rfl) (by kernel_rfl)
 have x9 := @run_callFunc_extern Tryz.prog 119 _ (ReflectliteValue.method (ReflectliteValue.valueError "reflectlite.Value.Elem" 0) ReflectliteValue.elem) Tryz.func119 (by kernel_rfl) (by kernel_rfl) (by kernel_rfl) (by kernel_rfl)
 have xa := @run_callFunc_extern Tryz.prog 120 _ ReflectliteValue.set Tryz.func120 (by kernel_rfl) (by kernel_rfl) (by kernel_rfl) (by kernel_rfl)
 have m:=IA;have n:=kx;have o:=tE;have p:=Gz;have q:=GA;have r:=JX;have s:=xB;have u:=xA;have v:=mi;have x:=JO;have y:=JN;have z:=JI;have A:=uh;have k:=IZ ⟨w.heap.size,0,none⟩ ⟨b,0,none⟩ ((w.alloc (.cells #[.pointer (some ⟨b,0,none⟩)] 99)).alloc (.cells #[.pointer (some ⟨7,99,none⟩),.pointer (some ⟨w.heap.size,0,none⟩),.int .u64 150] 160)) (by simp)
 have f:=e.lt;have i:((w.alloc (.cells #[.pointer (some ⟨b,0,none⟩)] 99)).alloc (.cells #[.pointer (some ⟨7,99,none⟩),.pointer (some ⟨w.heap.size,0,none⟩),.int .u64 150] 160)).cell? ⟨0,0,none⟩=some (.iface 198 (.agg #[.pointer (some ⟨7,31,none⟩)])):=by
  rw [World.cell?_alloc_lt _ _ ⟨0,0,none⟩ (by simp),World.cell?_alloc_lt _ _ ⟨0,0,none⟩ f];exact e
 have j:=IV ⟨w.heap.size,0,none⟩ ⟨b,0,none⟩ (((w.alloc (.cells #[.pointer (some ⟨b,0,none⟩)] 99)).alloc (.cells #[.pointer (some ⟨7,99,none⟩),.pointer (some ⟨w.heap.size,0,none⟩),.int .u64 150] 160)).alloc (.cells #[.pointer (some ⟨7,99,none⟩),.pointer (some ⟨w.heap.size,0,none⟩),.int .u64 150] 160)) (by rw [World.cell?_alloc_lt _ _ ⟨w.heap.size,0,none⟩ (by simp;omega)];simp)
 have l:=setN ⟨b,0,none⟩ ⟨w.heap.size+1+1+1,0,none⟩ c (.int .i64 0) ((((w.alloc (.cells #[.pointer (some ⟨b,0,none⟩)] 99)).alloc (.cells #[.pointer (some ⟨7,99,none⟩),.pointer (some ⟨w.heap.size,0,none⟩),.int .u64 150] 160)).alloc (.cells #[.pointer (some ⟨7,99,none⟩),.pointer (some ⟨w.heap.size,0,none⟩),.int .u64 150] 160)).alloc (.cells #[.int .i64 c] 63))
  (by rw [World.cell?_alloc_at _ _ _ _ (by simp)];rfl)
  (by rw [World.cell?_alloc_lt _ _ ⟨b,0,none⟩ (by simp;omega),World.cell?_alloc_lt _ _ ⟨b,0,none⟩ (by simp;omega),World.cell?_alloc_lt _ _ ⟨b,0,none⟩ (by simp;omega),World.cell?_alloc_lt _ _ ⟨b,0,none⟩ a];exact g)
  (by rw [World.frozen?_alloc_old _ _ ⟨b,0,none⟩ (by simp;omega),World.frozen?_alloc_old _ _ ⟨b,0,none⟩ (by simp;omega),World.frozen?_alloc_old _ _ ⟨b,0,none⟩ (by simp;omega),World.frozen?_alloc_old _ _ ⟨b,0,none⟩ (Nat.ne_of_lt a)];exact d)
 clear e
 go_enter Tryz.func42,Tryz.ntmps42
 go_wp2;refine wp_loop_rounds 1 ?_;rw [rounds_succ];go_wp2;go_ret;exact ⟨rfl,rfl⟩
end Go.Proofs.YtompdcaikmekkaaGreatDoor
