/- Numbers put into a lis -/
import Derived.Test.YtohgnbgamfepoaaGreatDoorJHAS
import Derived.Test.YtohgnbgamfepoaaGreatDoorJHAU
namespace Go.Proofs.YtohgnbgamfepoaaGreatDoor
open ChangeShapes WideShapes ChangeAt RowKit
set_option maxRecDepth 99999
set_option maxHeartbeats 0
theorem jO (L:List Int) (n x:Int):x∈cY L n↔x∈L∨x=n:=by
 induction L with
 | nil=>simp [cY]
 | cons y r ih =>
  unfold cY
  split
  ·rw [List.mem_cons,ih,List.mem_cons,or_assoc]
  split
  ·rename_i _ h
   constructor
   ·exact Or.inl
   rintro (a | a)
   ·exact a
   rw [a,←h];simp
  rw [List.mem_cons];exact or_comm
theorem lB (L:List Int) (n:Int) (h:L.Pairwise (· < ·)):(cY L n).Pairwise (· < ·):=by
 induction L with
 | nil=>simp [cY]
 | cons y r ih =>
  have a:=List.pairwise_cons.1 h;unfold cY
  split
  ·refine List.pairwise_cons.2 ⟨fun z b=>?_,ih a.2⟩
   rcases (jO r n z).1 b with e | e
   ·exact a.1 z e
   omega
  split
  ·exact h
  refine List.pairwise_cons.2 ⟨fun z b=>?_,h⟩
  rcases List.mem_cons.1 b with e | e
  ·omega
  have:=a.1 z e;omega
def gY (d:Dm):List Nd→List Int→List Int
 | [],L=>L
 | x :: r,L=>gY d r (if x.op=2 then cY L (whL d x.name.data.toList) else L)
theorem rG (d:Dm):∀ (l:List Nd) (L:List Int),L.Pairwise (· < ·)→(gY d l L).Pairwise (· < ·)
 | [],_,h=>h
 | x :: r,L,h=>by
  unfold gY;refine rG d r _ ?_
  split
  ·exact lB _ _ h
  exact h
theorem vv (d:Dm):∀ (l:List Nd) (L:List Int) (z:Int),z∈gY d l L↔z∈L∨∃ x∈l,x.op=2∧z=whL d x.name.data.toList
 | [],L,z=>by simp [gY]
 | x :: r,L,z=>by
  unfold gY;rw [vv d r]
  by_cases h:x.op=2
  ·rw [if_pos h,jO]
   constructor
   ·rintro ((a | a) | ⟨y,b,a⟩)
    ·exact Or.inl a
    ·exact Or.inr ⟨x,by simp,h,a⟩
    exact Or.inr ⟨y,List.mem_cons_of_mem _ b,a⟩
   rintro (a | ⟨y,b,a,c⟩)
   ·exact Or.inl (Or.inl a)
   rcases List.mem_cons.1 b with rfl | b
   ·exact Or.inl (Or.inr c)
   exact Or.inr ⟨y,b,a,c⟩
  rw [if_neg h]
  constructor
  ·rintro (a | ⟨y,b,a⟩)
   ·exact Or.inl a
   exact Or.inr ⟨y,List.mem_cons_of_mem _ b,a⟩
  rintro (a | ⟨y,b,a,c⟩)
  ·exact Or.inl a
  rcases List.mem_cons.1 b with rfl | b
  ·exact absurd a h
  exact Or.inr ⟨y,b,a,c⟩
theorem C6 {d:Dm} (f:(ay d).2=0) {i:Nat} (j:(d.mem i).formula.size≠0) (g:mErr d i=0):gY d (bI (d.mem i).formula) []=ep d i:=by
 refine jb _ _ (rG d _ _ List.Pairwise.nil) (fl _ _) fun z=>?_
 rw [vv,fB f j g]
 constructor
 ·rintro (h | ⟨x,c,a,b⟩)
  ·cases h
  exact ⟨x.name.data.toList,nO c a,b⟩
 rintro ⟨nm,a,b⟩;obtain ⟨x,c,e,rfl⟩:=AD a;exact Or.inr ⟨x,c,e,b⟩
def gZ (f:Int→Bool):List Int→List Int→List Int
 | [],L=>L
 | x :: r,L=>gZ f r (if f x=true then cY L x else L)
theorem pK (f:Int→Bool):∀ (l:List Int) (L:List Int),L.Pairwise (· < ·)→(gZ f l L).Pairwise (· < ·)
 | [],_,h=>h
 | x :: r,L,h=>by
  unfold gZ;refine pK f r _ ?_
  split
  ·exact lB _ _ h
  exact h
theorem rF (f:Int→Bool):∀ (l:List Int) (L:List Int) (z:Int),z∈gZ f l L↔z∈L∨z∈l∧f z=true
 | [],L,z=>by simp [gZ]
 | x :: r,L,z=>by
  unfold gZ;rw [rF f r,List.mem_cons]
  by_cases h:f x=true
  ·rw [if_pos h,jO]
   constructor
   ·rintro ((a | a) | ⟨a,b⟩)
    ·exact Or.inl a
    ·exact Or.inr ⟨Or.inl a,by rw [a];exact h⟩
    exact Or.inr ⟨Or.inr a,b⟩
   rintro (a | ⟨a | a,b⟩)
   ·exact Or.inl (Or.inl a)
   ·exact Or.inl (Or.inr a)
   exact Or.inr ⟨a,b⟩
  rw [if_neg h]
  constructor
  ·rintro (a | ⟨a,b⟩)
   ·exact Or.inl a
   exact Or.inr ⟨Or.inr a,b⟩
  rintro (a | ⟨a | a,b⟩)
  ·exact Or.inl a
  ·rw [a] at b;exact absurd b h
  exact Or.inr ⟨a,b⟩
theorem yy {d:Dm} {i:Nat} (a:(d.mem i).formula.size=0):gZ (wg d) (bA d.mem d.n i) []=ep d i:=by
 rw [←gH a];refine jb _ _ (pK _ _ _ List.Pairwise.nil) ((fl _ _).filter _) fun z=>?_
 rw [rF,List.mem_filter]
 simp
theorem rH (d:Dm) (x:Nd):∀ (l:List Nd) (L:List Int),gY d (l ++ [x]) L=if x.op=2 then cY (gY d l L) (whL d x.name.data.toList) else gY d l L
 | [],L=>by simp [gY]
 | y :: r,L=>by
  show gY d (r ++ [x]) _=_
  rw [rH d x r]
  rfl
theorem pL (f:Int→Bool) (x:Int):∀ (l:List Int) (L:List Int),gZ f (l ++ [x]) L=if f x=true then cY (gZ f l L) x else gZ f l L
 | [],L=>by simp [gZ]
 | y :: r,L=>by
  show gZ f (r ++ [x]) _=_
  rw [pL f x r]
  rfl
theorem sW (L:List Int) (n:Int):(cY L n).length≤L.length+1:=by
 induction L with
 | nil=>simp [cY]
 | cons y r ih =>
  unfold cY
  split
  ·simp only [List.length_cons];omega
  split <;> simp
theorem F8 {L:List Int} {n:Int} (h:n∉L):(cY L n).length=L.length+1:=by
 induction L with
 | nil=>simp [cY]
 | cons y r ih =>
  have a:n∉r:=fun e=>h (List.mem_cons_of_mem _ e)
  unfold cY
  split
  ·simp only [List.length_cons,ih a]
  split
  ·rename_i e
   exact absurd (by rw [e];simp) h
  simp
def f9 (d:Dm) (l:List Nd) (k:Nat):List Int:=gY d (l.take k) []
theorem pJ {d:Dm} {l:List Nd} {k:Nat} {x:Nd} (a:k<l.length) (b:l.getD k bO=x):f9 d l (k+1)=if x.op=2 then cY (f9 d l k) (whL d x.name.data.toList) else f9 d l k:=by
 unfold f9;rw [mL l a,b,rH]
theorem C5 (d:Dm) (l:List Nd) (k:Nat) (a:k≤l.length):(f9 d l k).length≤k:=by
 induction k with
 | zero=>simp [f9,gY]
 | succ k ih =>
  rw [pJ (by omega) rfl]
  have:=ih (by omega)
  split
  ·exact zV (sW _ _) (by omega)
  omega
def eJ (d:Dm) (l:List Int) (k:Nat):List Int:=gZ (wg d) (l.take k) []
theorem ng {d:Dm} {l:List Int} {k:Nat} {x:Int} (a:k<l.length) (b:l.getD k 0=x):eJ d l (k+1)=if wg d x=true then cY (eJ d l k) x else eJ d l k:=by
 unfold eJ;have e:l.take (k+1)=l.take k ++ [x]:=by
  rw [List.take_succ_eq_append_getElem a,←b,zZ,zX a]
  rfl
 rw [e,pL]
theorem yn (d:Dm) (l:List Int) (k:Nat) (a:k≤l.length):(eJ d l k).length≤k:=by
 induction k with
 | zero=>simp [eJ,gZ]
 | succ k ih =>
  rw [ng (by omega) rfl]
  have:=ih (by omega)
  split
  ·exact zV (sW _ _) (by omega)
  omega
theorem Fs {d:Dm} {i:Nat} (b:(d.mem i).formula.size≠0) (c:prsE (d.mem i).formula=0) {x:Nd} (f:x∈bI (d.mem i).formula) (a:x.op=2) (e:whL d x.name.data.toList<0):mErr d i=5:=by
 unfold mErr;rw [if_neg b,if_neg (by simpa using c),if_pos]
 rw [List.any_eq_true];exact ⟨_,nO f a,decide_eq_true e⟩
theorem Fq {d:Dm} {i:Nat} (c:(d.mem i).formula.size≠0) (e:prsE (d.mem i).formula=0) (h:∀ x∈bI (d.mem i).formula,x.op=2→0≤whL d x.name.data.toList):mErr d i=0:=by
 unfold mErr;rw [if_neg c,if_neg (by simpa using e),if_neg]
 rw [List.any_eq_true];rintro ⟨nm,a,f⟩;obtain ⟨x,g,b,rfl⟩:=AD a;have:=h x g b;have:=of_decide_eq_true f
 omega
theorem Fr {d:Dm} {i:Nat} (a:(d.mem i).formula.size≠0) (b:prsE (d.mem i).formula≠0):mErr d i=prsE (d.mem i).formula:=by
 unfold mErr;rw [if_neg a,if_pos b]
theorem FZ:du 90:=fun args w=>by simp [callFunc,Tryz.func90];rfl
def mR (xs:List EnL) (p:List Int):Prop:=(∀ k,k<xs.length→(xs.getD k aJ).e.pl.length≤4)∧p.length≤4
theorem G9 (b o cap:Nat) (xs:List EnL) (Ap:Option Addr) (O:Nat) (p:List Int) (w:World) (hn:xs.length≤3000) (P:ke w b o xs) (hr:(lE xs).Pairwise fun a b=>lessL a.pl b.pl=true) (Q:mR xs p) (Z:aZ w Ap O p) :
  Rt 157 #[.slice (some ⟨b,o,none⟩) xs.length cap,.slice Ap p.length O,.func (.func 90) #[] #[]] w (.tuple #[.int .i64 (cntE (lE xs) p:Nat),.bool (hasE (lE xs) p)]):=by
 have he:=FZ;unfold du at he;have J:Hid (∀ k wr,k<xs.length→Bl w wr→Rt 90 #[.agg #[.slice (xs.getD k aJ).A (xs.getD k aJ).e.pl.length (xs.getD k aJ).c,.int .i64 (xs.getD k aJ).e.n],.slice Ap p.length O] wr (.int .i64 (cmpL (xs.getD k aJ).e.pl p))):=fun k wr L Y=>rB _ _ _ _ _ _ _ wr (Q.1 k L) Q.2 ((P.pl L).later Y) (Z.later Y)
 have T:=aa P;have N:Hid (∀ j k,j≤k→k<xs.length→cmpL (xs.getD k aJ).e.pl p<0→cmpL (xs.getD j aJ).e.pl p<0):=fun j k R L h=>by
  have q:lessL ((lE xs).getD k noEn).pl p=true:=by rw [lE_at,←kX];exact decide_eq_true h
  have m:=Cu hr R (by rw [a7];exact L) q
  rw [lE_at,←kX] at m;exact of_decide_eq_true m
 have M:Hid (∀ i,i≤xs.length→(∀ t,t<i→cmpL (xs.getD t aJ).e.pl p<0)→(i<xs.length→¬ cmpL (xs.getD i aJ).e.pl p<0)→cntE (lE xs) p=i):=fun i d q m=>wJ _ _ i (by rw [a7];exact d) (fun t C=>by rw [lE_at,←kX];exact decide_eq_true (q t C)) (fun K=>by rw [a7] at K;rw [lE_at,←kX];exact decide_eq_false (m K))
 have I:Hid (∀ i,cntE (lE xs) p=i→i<xs.length→hasE (lE xs) p=decide (cmpL (xs.getD i aJ).e.pl p=0)):=fun i q m=>by rw [←lE_at];exact (AB q (by rw [a7];exact m)).symm
 have u:Hid (∀ i,cntE (lE xs) p=i→xs.length≤i→hasE (lE xs) p=false):=fun i q m=>(nG q (by rw [a7];exact m)).1
 obtain ⟨n,B⟩:=az xs.length;obtain ⟨np,H⟩:=az p.length;have V:=aa B;rw [B] at hn J N M I u ⊢;rw [H] at J ⊢;generalize cntE (lE xs) p=cnt at M I u;generalize hasE (lE xs) p=has at I u;have hn':(n:Int)≤3000:=by omega
 clear P hr Q Z B H
 go_enter Tryz.func157,Tryz.ntmps157
 go_wp2_with fail
 go_loopg [9,10] n (fun g s9 s10 wr => ∃ (lo d:Nat),lo≤d∧d≤n∧g=d-lo∧s9=.int .i64 lo∧s10=.int .i64 d∧Hid (∀ t,t<lo→cmpL (xs.getD t aJ).e.pl p<0)∧Hid (∀ t,d≤t→t<n→¬ cmpL (xs.getD t aJ).e.pl p<0)∧Bl w wr)
 case atStart=>exact ⟨0,n,zU,zT,rfl,rfl,rfl,fun t C=>absurd C (Nat.not_lt_zero _),fun t q m=>absurd m (Nat.not_lt.2 q),zS⟩
 case round =>
  obtain ⟨lo,d,hlh,E,rfl,rfl,rfl,U,W,f⟩:=hrel;have x:=aa f;have u9:(d:Int)≤(n:Int):=by omega
  by_cases hlt:lo<d
  ·obtain ⟨c1,c2⟩:=(T.out.later f).at (k:=(lo+d) / 2) (by rw [V.out];omega)
   have l:=J.out ((lo+d) / 2) wr (by omega) f
   have K0:(lo:Int)<(d:Int):=by omega
   obtain ⟨c,y⟩:=az (cmpL (xs.getD ((lo+d) / 2) aJ).e.pl p);have D:=aa y;rw [y] at l;generalize (xs.getD ((lo+d) / 2) aJ).A=A1 at c1 l;generalize (xs.getD ((lo+d) / 2) aJ).c=k1 at c1 l;generalize (xs.getD ((lo+d) / 2) aJ).e.pl.length=m1 at c1 l;generalize (xs.getD ((lo+d) / 2) aJ).e.n=n1 at c2 l;clear y f
   by_cases G:c<0
   ·go_wp2_with fail
    refine l.mono ?_;rintro e w1 ⟨rfl,r⟩;go_wp2_with fail
    go_roundg (d-((lo+d) / 2+1))
    case measure=>omega
    case rel=>exact ⟨(lo+d) / 2+1,d,by omega,E,rfl,by congr 1,rfl,fun t C=>N.out t ((lo+d) / 2) (by omega) (by omega) (by rw [D.out];exact G),W,ae x.out r⟩
   go_wp2_with fail;refine l.mono ?_;rintro e w1 ⟨rfl,r⟩;go_wp2_with fail
   go_roundg ((lo+d) / 2-lo)
   case measure=>omega
   case rel=>exact ⟨lo,(lo+d) / 2,by omega,by omega,rfl,rfl,by congr 1,U,fun t q m=>Int.not_lt.1 fun K=>by have X:=N.out ((lo+d) / 2) t q m K;rw [D.out] at X;omega,ae x.out r⟩
  have S:d=lo:=by omega
  subst S;have s:Hid (cnt=d):=M.out d E (fun t C=>U.out t C) (fun h=>by have X:=W.out d (zT) h;omega)
  by_cases z:d<n
  ·obtain ⟨c1,c2⟩:=(T.out.later f).at (k:=d) (by rw [V.out];exact z)
   have l:=J.out d wr z f;have v:=aa (I.out d s.out z);generalize cmpL (xs.getD d aJ).e.pl p=c at l v;generalize (xs.getD d aJ).A=A1 at c1 l;generalize (xs.getD d aJ).c=k1 at c1 l;generalize (xs.getD d aJ).e.pl.length=m1 at c1 l;generalize (xs.getD d aJ).e.n=n1 at c2 l;have F:(d:Int)<(n:Int):=by omega
   clear f;go_wp2_with fail;refine l.mono ?_;rintro e w1 ⟨rfl,r⟩;go_wp2_with fail
   go_ret2
   rw [s.out,v.out];exact ⟨rfl,ae x.out r⟩
  have v:Hid (has=false):=u.out d s.out (by omega)
  have F:(n:Int)≤(d:Int):=by omega
  go_wp2_with fail
  go_ret2
  rw [s.out,v.out];exact ⟨rfl,f⟩
theorem Eq (A:Option Addr) (cap:Nat) (Ap:Option Addr) (a np:Nat) (w:World):Rt 157 #[.slice A 0 cap,.slice Ap np a,.func (.func 90) #[] #[]] w (.tuple #[.int .i64 0,.bool false]):=by
 go_enter Tryz.func157,Tryz.ntmps157
 go_wp2_with fail;refine wp_loop_rounds 1 ?_;rw [rounds_succ];go_wp2_with fail
 go_ret2
 exact ⟨rfl,zS⟩
theorem rh (A:Option Addr) (cap:Nat) (xs:List EnL) (Ap:Option Addr) (c:Nat) (p:List Int) (w:World) (j:xs.length≤3000) (f:b7 w A cap xs) (k:(lE xs).Pairwise fun a b=>lessL a.pl b.pl=true) (i:mR xs p) (g:aZ w Ap c p) :
  Rt 129 #[.slice A xs.length cap,.slice Ap p.length c] w (.tuple #[.int .i64 (cntE (lE xs) p:Nat),.bool (hasE (lE xs) p)]):=by
 have h:Rt 157 #[.slice A xs.length cap,.slice Ap p.length c,.func (.func 90) #[] #[]] w (.tuple #[.int .i64 (cntE (lE xs) p:Nat),.bool (hasE (lE xs) p)]):=by
  obtain ⟨-,-,rfl | ⟨b,o,rfl,l⟩⟩:=f
  ·exact Eq A cap Ap c p.length w
  exact G9 b o cap xs Ap c p w j l k i g
 generalize cntE (lE xs) p=cnt at h;generalize hasE (lE xs) p=has at h;generalize xs.length=n at h;generalize p.length=np at h;clear f k i g j
 go_enter Tryz.func129,Tryz.ntmps129
 go_wp2_with fail;refine h.mono ?_;rintro e w1 ⟨rfl,d⟩;go_wp2_with fail
 go_ret2
 exact ⟨rfl,d⟩
def dt (w:World) (A:Option Addr) (m c:Nat) (N:Int) (T:Nat):World:=w.alloc (.cells #[.slice A m c,.int .i64 N] T)
theorem kI (w:World) (A:Option Addr) (m c:Nat) (N:Int) (T:Nat):(dt w A m c N T).heap.size=w.heap.size+1:=by unfold dt;simp
theorem dh (w:World) (A:Option Addr) (m c:Nat) (N:Int) (T:Nat):Bl w (dt w A m c N T):=by unfold dt;go_grown
theorem sQ (w:World) (A:Option Addr) (m c:Nat) (N:Int) (T:Nat):(dt w A m c N T).cell? ⟨w.heap.size,0,none⟩=some (.slice A m c):=by unfold dt;simp
theorem Bd (w:World) (A:Option Addr) (m c:Nat) (N:Int) (T:Nat):(dt w A m c N T).cell? ⟨w.heap.size,1,none⟩=some (.int .i64 N):=by unfold dt;simp
def lw (w:World) (A0:Option Addr) (n cap:Nat) (A:Option Addr) (m c:Nat) (N:Int):World:=dt (ax w A0 n cap 24) A m c N 83
theorem pC (w:World) (A0:Option Addr) (n cap:Nat) (A:Option Addr) (m c:Nat) (N:Int):(lw w A0 n cap A m c N).heap.size=w.heap.size+2:=by unfold lw;rw [kI,av]
theorem nc (w:World) (A0:Option Addr) (n cap:Nat) (A:Option Addr) (m c:Nat) (N:Int):Bl w (lw w A0 n cap A m c N):=ae (ao ..) (dh ..)
theorem Ip (w:World) (A0:Option Addr) (n cap:Nat) (A:Option Addr) (m c:Nat) (N:Int):(lw w A0 n cap A m c N).cell? ⟨w.heap.size+1,0,none⟩=some (.slice A m c):=by
 have h:=sQ (ax w A0 n cap 24) A m c N 83;rw [av] at h;exact h
theorem Be (w:World) (A0:Option Addr) (n cap:Nat) (A:Option Addr) (m c:Nat) (N:Int):(lw w A0 n cap A m c N).cell? ⟨w.heap.size+1,1,none⟩=some (.int .i64 N):=by
 have h:=Bd (ax w A0 n cap 24) A m c N 83;rw [av] at h;exact h
theorem mW (A0:Option Addr) (cap n:Nat) (D:Nat→Dm) (A:Nat→Option Addr) (C:Nat→Nat) (Ae:Option Addr) (j:Nat) (e:En) (w:World) (s:(am D n).2.2=0) (t:aW w A0 cap n D A C) (u:aZ w Ae j e.pl) :
  Rt 89 #[.agg #[.slice A0 n cap],.agg #[.slice Ae e.pl.length j,.int .i64 e.n]] w (errV (entOne D n e)):=by
 have i:=nc w A0 n cap Ae e.pl.length j e.n;have h:=CW A0 cap n D A C Ae j e.pl (lw w A0 n cap Ae e.pl.length j e.n) (t.later i) (u.later i);have b:=aa i;have f:Hid (w.heap.size+1<(lw w A0 n cap Ae e.pl.length j e.n).heap.size):=by show _<_;rw [pC];omega
 have d:Hid ((lw w A0 n cap Ae e.pl.length j e.n).cell? ⟨w.heap.size+1,1,none⟩=some (.int .i64 e.n)):=Be ..;clear t u i
 by_cases g:placeErr D n e.pl=0
 ·by_cases p:leafV D n e.pl=true
  ·have o:=Ij s g p
   rw [g,p,errV_zero] at h;clear g p
   by_cases l:e.n < -1000000
   ·have HV:Hid (errV (entOne D n e)=.iface 63 (.int .i64 1)):=by
     show _=_
     rw [o,if_pos (by simp [cX];omega)];rfl
    generalize e.pl.length=m at h b f d;generalize e.n=N at h b f d l;clear o
    go_enter Tryz.func89,Tryz.ntmps89
    go_wp2_with fail;refine h.mono ?_;rintro r w1 ⟨rfl,a⟩;have c1:=aC a f.out d.out;have c:=aa (ae b.out a);clear a;go_wp2_with fail;go_ret;rw [HV.out];exact ⟨rfl,c.out⟩
   by_cases q:1000000<e.n
   ·have HV:Hid (errV (entOne D n e)=.iface 63 (.int .i64 1)):=by
     show _=_
     rw [o,if_pos (by simp [cX];omega)];rfl
    generalize e.pl.length=m at h b f d;generalize e.n=N at h b f d l q;clear o
    go_enter Tryz.func89,Tryz.ntmps89
    go_wp2_with fail;refine h.mono ?_;rintro r w1 ⟨rfl,a⟩;have c1:=aC a f.out d.out;have c:=aa (ae b.out a);clear a;go_wp2_with fail;go_ret;rw [HV.out];exact ⟨rfl,c.out⟩
   have HV:Hid (errV (entOne D n e)=.nilIface):=by
    show _=_
    rw [o,if_neg (by simp [cX];omega)];rfl
   generalize e.pl.length=m at h b f d;generalize e.n=N at h b f d l q;clear o
   go_enter Tryz.func89,Tryz.ntmps89
   go_wp2_with fail;refine h.mono ?_;rintro r w1 ⟨rfl,a⟩;have c1:=aC a f.out d.out;have c:=aa (ae b.out a);clear a;go_wp2_with fail;go_ret;rw [HV.out];exact ⟨rfl,c.out⟩
  have k:leafV D n e.pl=false:=by simpa using p
  have HV:Hid (errV (entOne D n e)=.iface 63 (.int .i64 6)):=by show _=_;rw [FO s g k];rfl
  rw [g,k,errV_zero] at h;generalize e.pl.length=m at h b;generalize e.n=N at h b;clear g p k f d
  go_enter Tryz.func89,Tryz.ntmps89
  go_wp2_with fail;refine h.mono ?_;rintro r w1 ⟨rfl,a⟩;have c:=aa (ae b.out a);clear a;go_wp2_with fail;go_ret;rw [HV.out];exact ⟨rfl,c.out⟩
 have HV:Hid (errV (entOne D n e)=.iface 63 (.int .i64 (placeErr D n e.pl))):=by show _=_;rw [CJ s g,ak g]
 rw [ak g] at h;generalize placeErr D n e.pl=E at h HV;generalize leafV D n e.pl=lf at h;generalize e.pl.length=m at h b;generalize e.n=N at h b;clear g f d
 go_enter Tryz.func89,Tryz.ntmps89
 go_wp2_with fail;refine h.mono ?_;rintro r w1 ⟨rfl,a⟩;have c:=aa (ae b.out a);clear a;go_wp2_with fail;go_ret;rw [HV.out];exact ⟨rfl,c.out⟩
theorem eQ {D:Nat→Dm} {n:Nat} {L:List Int} (h:InO D n L):L.length≤4:=by rw [h.len];exact (au h.right).2.1
theorem J2 {W w':World} {b b' o1 o2 o3:Nat} {u v z:Value} (h:b<W.heap.size∧b'<W.heap.size∧W.cell? ⟨b,o1,none⟩=some u∧W.cell? ⟨b,o2,none⟩=some v∧W.cell? ⟨b',o3,none⟩=some z) (a:Bl W w'):Bl W w'∧w'.cell? ⟨b,o1,none⟩=some u∧w'.cell? ⟨b,o2,none⟩=some v∧w'.cell? ⟨b',o3,none⟩=some z :=
 ⟨a,aC a h.1 h.2.2.1,aC a h.1 h.2.2.2.1,aC a h.2.1 h.2.2.2.2⟩
theorem kC (A0:Option Addr) (cap n:Nat) (D:Nat→Dm) (A:Nat→Option Addr) (C:Nat→Nat) (AE:Option Addr) (ce:Nat) (xs:List EnL) (w:World) (hM:aW w A0 cap n D A C) (hE:b7 w AE ce xs) :
  Rt 51 #[.agg #[.slice A0 n cap],.slice AE xs.length ce] w (errV (entsErr D n (lE xs))):=by
 have R:=ao w A0 n cap 24;have h:=sh A0 cap n D A C (ax w A0 n cap 24) (hM.later R);have M:=aa R;have HM:=aa hM;have HE:=aa hE;generalize (am D n).1=x1 at h;generalize (am D n).2.1=x2 at h;clear hM R
 by_cases K:(am D n).2.2=0
 ·have HR:=aa K
  have HV:Hid (entsErr D n (lE xs)=aV D n (qOf (lE xs) 0) ((lE xs).drop 0)):=Aw _ K;rw [K,errV_zero] at h;obtain ⟨N,hN⟩:=az xs.length;have HN:=aa hN;have hNb:(N:Int)≤9223372036854775807:=by have h1:=hE.1;have h2:=hE.2.1;omega
  rw [hN];clear K hN hE
  go_enter Tryz.func51,Tryz.ntmps51
  go_wp2_with fail;refine h.mono ?_;rintro e w1 ⟨rfl,s⟩;have hB:Bl w w1:=ae M.out s;have hz:w.heap.size<w1.heap.size:=by have:=s.size;rw [av] at this;omega
  have h2:w1.cell? ⟨w.heap.size,0,none⟩=some (.slice A0 n cap):=aC s (by show w.heap.size<_;rw [av];omega) (aH ..)
  have HM1:=aa (HM.out.later hB);have HE1:=aa (HE.out.later hB);have HB:=aa hB;clear s h hB HM HE M;go_wp2_with fail
  go_loopg [22] N (fun g s22 wr => ∃ (k:Nat),k≤N∧g=N-k∧s22=.int .i64 k∧Hid (aV D n (qOf (lE xs) k) ((lE xs).drop k)=aV D n (qOf (lE xs) 0) ((lE xs).drop 0))∧Hid (∀ j,j<k→entOne D n ((lE xs).getD j noEn)=0)∧Bl w1 wr)
  case atStart=>exact ⟨0,zU,rfl,rfl,(rfl:aV D n (qOf (lE xs) 0) ((lE xs).drop 0)=aV D n (qOf (lE xs) 0) ((lE xs).drop 0)),fun j V=>absurd V (Nat.not_lt_zero _),zS⟩
  case round =>
   obtain ⟨k,hk,rfl,rfl,HF,HO,m⟩:=hrel;have v:=aa m
   by_cases hlt:k<N
   ·have u:k<xs.length:=by rw [HN.out];exact hlt
    have hki:(k:Int)<(N:Int):=by omega
    have hk1:(k:Int)+1≤9223372036854775807:=by omega
    obtain ⟨-,-,h0 | ⟨b,o,rfl,I⟩⟩:=HE1.out.later m
    ·have:=HN.out;rw [h0] at this;simp at this;omega
    obtain ⟨c1,c2⟩:=I.at u;have T:=I.pl u;have c0:wr.cell? ⟨w.heap.size,0,none⟩=some (.slice A0 n cap):=aC m hz h2;have hzr:w.heap.size<wr.heap.size:=zW hz m.size;have H:=dh wr (xs.getD k aJ).A (xs.getD k aJ).e.pl.length (xs.getD k aJ).c (xs.getD k aJ).e.n 83;have a:=mW A0 cap n D A C (xs.getD k aJ).A (xs.getD k aJ).c (xs.getD k aJ).e (dt wr (xs.getD k aJ).A (xs.getD k aJ).e.pl.length (xs.getD k aJ).c (xs.getD k aJ).e.n 83) HR.out ((HM1.out.later m).later H) (T.later H);have d:=aa H;have P:=aa I;have F:=aa T;have r:Hid ((dt wr (xs.getD k aJ).A (xs.getD k aJ).e.pl.length (xs.getD k aJ).c (xs.getD k aJ).e.n 83).cell? ⟨wr.heap.size,0,none⟩=some (.slice (xs.getD k aJ).A (xs.getD k aJ).e.pl.length (xs.getD k aJ).c)):=sQ ..;have q:Hid (wr.heap.size<(dt wr (xs.getD k aJ).A (xs.getD k aJ).e.pl.length (xs.getD k aJ).c (xs.getD k aJ).e.n 83).heap.size):=by show _<_;rw [kI];omega
    clear m I T H
    by_cases L:entOne D n (xs.getD k aJ).e=0
    ·have hKO:=dZ HR.out L
     have x:Hid (entOne D n ((lE xs).getD k noEn)=0):=by show _=_;rw [lE_at];exact L
     have Q:Hid ((xs.getD k aJ).e.pl.length≤4):=eQ hKO.1;rw [L,errV_zero] at a;clear L hKO
     rcases Nat.eq_zero_or_pos k with hk0 | hk0
     ·subst hk0
      have HQ:Hid (aheadOk (qOf (lE xs) 0) ((lE xs).getD 0 noEn).pl=true):=rfl;have y:Hid (aV D n (qOf (lE xs) 0) ((lE xs).drop 0)=aV D n (qOf (lE xs) (0+1)) ((lE xs).drop (0+1))):=xb (by rw [a7];exact u) x.out HQ.out
      generalize (xs.getD 0 aJ).A=A1 at c1 a d r q;generalize (xs.getD 0 aJ).c=k1 at c1 a d r q;generalize (xs.getD 0 aJ).e.n=n1 at c2 a d r q;generalize (xs.getD 0 aJ).e.pl.length=m1 at c1 a d r q;simp only [Nat.zero_mul,Nat.add_zero] at c1 c2;clear F Q;go_wp2_with fail;refine a.mono ?_;rintro e w2 ⟨rfl,f⟩;have l:=aa (ae d.out f);clear f;go_wp2_with fail
      go_quiet (fail)
      go_wp2_with fail
      go_roundg (N-(0+1))
      case measure=>omega
      case rel =>
       refine ⟨0+1,by omega,rfl,by go_num,y.out.symm,fun j V=>?_,ac (ae v.out l.out) _⟩
       have:j=0:=by omega
       subst this;exact x.out
     obtain ⟨j,V⟩:∃ j,k=j+1:=⟨k-1,by omega⟩
     have hjx:j<xs.length:=by omega
     obtain ⟨Z,d2⟩:=P.out.at hjx;have S:=dZ HR.out (HO.out j (by omega))
     rw [lE_at] at S;have B:Hid (∀ w',Bl wr w'→Rt 90 #[.agg #[.slice (xs.getD j aJ).A (xs.getD j aJ).e.pl.length (xs.getD j aJ).c,.int .i64 (xs.getD j aJ).e.n],.slice (xs.getD k aJ).A (xs.getD k aJ).e.pl.length (xs.getD k aJ).c] w' (.int .i64 (cmpL (xs.getD j aJ).e.pl (xs.getD k aJ).e.pl))):=fun w' hw'=>rB _ _ _ _ _ _ _ w' (eQ S.1) Q.out ((P.out.pl hjx).later hw') (F.out.later hw')
     have O:Hid (decide (0≤cmpL (xs.getD j aJ).e.pl (xs.getD k aJ).e.pl) = !lessL (xs.getD j aJ).e.pl (xs.getD k aJ).e.pl):=tY (xs.getD j aJ).e.pl (xs.getD k aJ).e.pl;have HQ:Hid (aheadOk (qOf (lE xs) k) ((lE xs).getD k noEn).pl=lessL (xs.getD j aJ).e.pl (xs.getD k aJ).e.pl):=by show _=_;rw [←lE_at,←lE_at,V];rfl
     have hwr:IntKind.i64.wrap ((k:Int)-1)=(j:Int):=by rw [IntKind.wrap_i64];omega
     have hj0:(0:Int)<(k:Int):=by omega
     have HKJ:=aa V;have hjN:(j:Int)<(N:Int):=by omega
     generalize (xs.getD k aJ).A=A1 at c1 a d r q B;generalize (xs.getD k aJ).c=k1 at c1 a d r q B;generalize (xs.getD k aJ).e.n=n1 at c2 a d r q;generalize (xs.getD k aJ).e.pl.length=m1 at c1 a d r q B;generalize (xs.getD j aJ).A=A2 at Z B;generalize (xs.getD j aJ).c=k2 at Z B;generalize (xs.getD j aJ).e.n=n2 at d2 B;generalize (xs.getD j aJ).e.pl.length=m2 at Z B;generalize cmpL (xs.getD j aJ).e.pl (xs.getD k aJ).e.pl=cc at B O;have J:=P.out.1;clear F Q S V;go_wp2_with fail;refine a.mono ?_;rintro e w2 ⟨rfl,f⟩;have G:Bl wr w2:=ae d.out f;have l:=aa G;have e1:w2.cell? ⟨b,o+j*2,none⟩=some (.slice A2 m2 k2):=aC G J Z;have e2:w2.cell? ⟨b,o+j*2+1,none⟩=some (.int .i64 n2):=aC G J d2;have e3:w2.cell? ⟨wr.heap.size,0,none⟩=some (.slice A1 m1 k1):=aC f q.out r.out;have hz2:wr.heap.size<w2.heap.size:=zW q.out f.size;clear f G c1 c2 Z d2;have X:Hid (b<w2.heap.size∧wr.heap.size<w2.heap.size∧w2.cell? ⟨b,o+j*2,none⟩=some (.slice A2 m2 k2)∧w2.cell? ⟨b,o+j*2+1,none⟩=some (.int .i64 n2)∧w2.cell? ⟨wr.heap.size,0,none⟩=some (.slice A1 m1 k1)):=⟨zW J l.out.size,hz2,e1,e2,e3⟩;go_wp2_with fail
     go_cut [45] (fun s45 wx=>s45=.bool (decide (0≤cc))∧Bl w2 wx)
     case first =>
      go_region_held3 (fun w'=>Bl w2 w'∧w'.cell? ⟨b,o+j*2,none⟩=some (.slice A2 m2 k2)∧w'.cell? ⟨b,o+j*2+1,none⟩=some (.int .i64 n2)∧w'.cell? ⟨wr.heap.size,0,none⟩=some (.slice A1 m1 k1))
       ((refine J2 X.out ?_;go_grown;done))
       (first | (go_at_call 90;refine (B.out _ (ae l.out (by go_grown))).mono ?_;rintro e w3 ⟨rfl,z⟩;have hN3:=ae (W0:=w2) (by go_grown) z;have hy3:=hN3.size;clear z))
      all_goals go_wp2_with fail
      all_goals go_meet
      all_goals exact ⟨rfl,by go_grown⟩
     case rest =>
      obtain ⟨rfl,z⟩:=hcut;have W:=aa z;clear z e1 e2 e3 X B hz2 hwr hjN;obtain ⟨tC,U⟩:∃ t,decide (0≤cc)=t:=⟨_,rfl⟩;rw [U];have Y:=aa U;clear U hk0 hj0 J hzr c0;cases tC
      case true =>
       have y:Hid (errV (entsErr D n (lE xs))=.iface 63 (.int .i64 7)):=by
        show _=_
        have h3:=O.out;rw [Y.out] at h3;rw [HV.out,←HF.out,q9 (by rw [a7];exact u) x.out (by rw [HQ.out];simpa using h3)];rfl
       go_wp2_with fail;go_ret;rw [y.out];exact ⟨rfl,ae HB.out (ae v.out (ae l.out W.out))⟩
      case false =>
       have y:Hid (aV D n (qOf (lE xs) k) ((lE xs).drop k)=aV D n (qOf (lE xs) (k+1)) ((lE xs).drop (k+1))):=by
        show _=_
        have h3:=O.out;rw [Y.out] at h3;exact xb (by rw [a7];exact u) x.out (by rw [HQ.out];simpa using h3)
       go_wp2_with fail
       go_roundg (N-(k+1))
       case measure=>omega
       case rel =>
        refine ⟨k+1,by omega,rfl,by go_num,y.out.symm.trans HF.out,fun i hi=>?_,ae v.out (ae l.out W.out)⟩
        rcases Nat.lt_succ_iff_lt_or_eq.1 hi with h1 | rfl
        ·exact HO.out i h1
        exact x.out
    have p:Hid (errV (entsErr D n (lE xs))=.iface 63 (.int .i64 (entOne D n (xs.getD k aJ).e))):=by
     show _=_
     rw [HV.out,←HF.out,Ah (by rw [a7];exact u) (by rw [lE_at];exact L),lE_at,ak L]
    rw [ak L] at a;generalize entOne D n (xs.getD k aJ).e=E at a p;generalize (xs.getD k aJ).A=A1 at c1 a d r q;generalize (xs.getD k aJ).c=k1 at c1 a d r q;generalize (xs.getD k aJ).e.n=n1 at c2 a d r q;generalize (xs.getD k aJ).e.pl.length=m1 at c1 a d r q;clear F L;go_wp2_with fail;refine a.mono ?_;rintro e w2 ⟨rfl,f⟩;have l:=aa (ae d.out f);clear f;go_wp2_with fail;go_ret;rw [p.out];exact ⟨rfl,ae HB.out (ae v.out l.out)⟩
   have hke:k=N:=by omega
   subst hke;have p:Hid (errV (entsErr D n (lE xs))=.nilIface):=by show _=_;rw [HV.out,←HF.out,Av (by rw [a7,HN.out];exact zT)];rfl
   clear m;go_wp2_with fail;go_ret;rw [p.out];exact ⟨rfl,ae HB.out v.out⟩
 have HV:Hid (errV (entsErr D n (lE xs))=.iface 63 (.int .i64 (am D n).2.2)):=by show _=_;rw [ue _ K,ak K]
 rw [ak K] at h;generalize (am D n).2.2=E at h HV;generalize xs.length=N;clear K hE HM HE
 go_enter Tryz.func51,Tryz.ntmps51
 go_wp2_with fail;refine h.mono ?_;rintro e w1 ⟨rfl,s⟩;go_wp2_with fail;go_ret;rw [HV.out];exact ⟨rfl,ae M.out s⟩
def jg (f:Nat) (args:Array Value) (r:Int×Int):Prop := ∀ (w:World),Calls Tryz.prog f args w fun e w'=>e=.returned (.agg #[.int .i64 r.1,.int .i64 r.2])∧Bl w w'
theorem gu {k:Int} (h : ¬ k=2):(k == 2)=false:=by simpa using h
theorem kW {k:Int} (h : ¬ k=0):(k == 0)=false:=by simpa using h
theorem yL (ka na kb nb sg r:Int) (w:World) (j:(ka == 2)=false) (k:(kb == 2)=false) (b:((ka == 0) && (kb == 0))=false) (f:wrap64 (na+wrap64 (sg*nb))=r) :
  Rt 66 #[.agg #[.int .i64 ka,.int .i64 na],.agg #[.int .i64 kb,.int .i64 nb],.int .i64 sg] w (.agg #[.int .i64 (eG r).1,.int .i64 (eG r).2]):=by
 subst f;have c:=jQ (wrap64 (na+wrap64 (sg*nb)));cases q4:(ka == 0)
 all_goals
  rw [q4] at b
  try simp only [Bool.true_and,Bool.false_and] at b
  go_enter Tryz.func66,Tryz.ntmps66
  go_wp2_with fail;refine (c _).mono ?_;rintro e w1 ⟨rfl,a⟩;have h:Bl w w1:=Below.trans (by go_grown) (a.mono (by simp;omega))
  obtain ⟨d,i⟩:=dk a;have g:=dp a
  simp at g
  go_wp2_with fail;refine bodyPost_ret (v:=.agg #[.int .i64 (eG (wrap64 (na+wrap64 (sg*nb)))).1,.int .i64 (eG (wrap64 (na+wrap64 (sg*nb)))).2]) (by simp [results,Tryz.results66,go_sem,d]) rfl ⟨rfl,?_⟩
  go_grown
theorem vK (ka na kb nb sg:Int) (w:World) (h:ka=2∨kb=2):Rt 66 #[.agg #[.int .i64 ka,.int .i64 na],.agg #[.int .i64 kb,.int .i64 nb],.int .i64 sg] w (.agg #[.int .i64 2,.int .i64 0]):=by
 by_cases a:ka=2
 ·subst a
  clear h
  go_enter Tryz.func66,Tryz.ntmps66
  go_wp2;go_returns;exact ⟨rfl,by go_grown⟩
 have c:=gu a;have b:kb=2:=by omega
 subst b;clear h a
 go_enter Tryz.func66,Tryz.ntmps66
 go_wp2;go_returns;exact ⟨rfl,by go_grown⟩
theorem vJ (na nb sg:Int) (w:World):Rt 66 #[.agg #[.int .i64 0,.int .i64 na],.agg #[.int .i64 0,.int .i64 nb],.int .i64 sg] w (.agg #[.int .i64 0,.int .i64 0]):=by
 go_enter Tryz.func66,Tryz.ntmps66
 go_wp2;go_returns;exact ⟨rfl,by go_grown⟩
theorem jR (ka na kb nb sg r:Int) (c:wrap64 (na+wrap64 (sg*nb))=r):jg 66 #[.agg #[.int .i64 ka,.int .i64 na],.agg #[.int .i64 kb,.int .i64 nb],.int .i64 sg] (gE (!(ka != 0 || kb != 0)) ka kb (eG r)):=by
 intro w;unfold gE
 by_cases a:ka=2∨kb=2
 ·rw [if_pos a]
  exact vK ka na kb nb sg w a
 rw [if_neg a]
 by_cases b:ka=0∧kb=0
 ·obtain ⟨rfl,rfl⟩:=b
  exact vJ na nb sg w
 rw [if_neg (by simp;omega)]
 exact yL ka na kb nb sg r w (gu (by omega)) (gu (by omega)) (by simp;omega) c
theorem yM (ka na kb nb:Int) (a:good ka na=true) (b:good kb nb=true):jg 66 #[.agg #[.int .i64 ka,.int .i64 na],.agg #[.int .i64 kb,.int .i64 nb],.int .i64 1] (nj ka na kb nb):=by
 obtain ⟨a1,a2⟩:=cD a;obtain ⟨b1,b2⟩:=cD b;exact jR ka na kb nb 1 (na+nb) (by unfold wrap64;omega)
theorem vL (ka na kb nb:Int) (a:good ka na=true) (b:good kb nb=true):jg 66 #[.agg #[.int .i64 ka,.int .i64 na],.agg #[.int .i64 kb,.int .i64 nb],.int .i64 (-1)] (jt ka na kb nb):=by
 obtain ⟨a1,a2⟩:=cD a;obtain ⟨b1,b2⟩:=cD b;exact jR ka na kb nb (-1) (na-nb) (by unfold wrap64;omega)
theorem td (ka na kb nb:Int) (w:World) (h:ka=2∨kb=2):Rt 107 #[.agg #[.int .i64 ka,.int .i64 na],.agg #[.int .i64 kb,.int .i64 nb]] w (.agg #[.int .i64 2,.int .i64 0]):=by
 by_cases a:ka=2
 ·subst a
  clear h
  go_enter Tryz.func107,Tryz.ntmps107
  go_wp2;go_returns;exact ⟨rfl,by go_grown⟩
 have c:=gu a;have b:kb=2:=by omega
 subst b;clear h a
 go_enter Tryz.func107,Tryz.ntmps107
 go_wp2;go_returns;exact ⟨rfl,by go_grown⟩
theorem vF (ka na kb nb:Int) (w:World) (h:ka=2∨kb=2):Rt 108 #[.agg #[.int .i64 ka,.int .i64 na],.agg #[.int .i64 kb,.int .i64 nb]] w (.agg #[.int .i64 2,.int .i64 0]):=by
 by_cases a:ka=2
 ·subst a
  clear h
  go_enter Tryz.func108,Tryz.ntmps108
  go_wp2;go_returns;exact ⟨rfl,by go_grown⟩
 have c:=gu a;have b:kb=2:=by omega
 subst b;clear h a
 go_enter Tryz.func108,Tryz.ntmps108
 go_wp2;go_returns;exact ⟨rfl,by go_grown⟩
theorem tc (ka na kb nb:Int) (w:World) (c:(ka == 2)=false) (d:(kb == 2)=false) (h:ka=0∨kb=0):Rt 107 #[.agg #[.int .i64 ka,.int .i64 na],.agg #[.int .i64 kb,.int .i64 nb]] w (.agg #[.int .i64 0,.int .i64 0]):=by
 by_cases a:ka=0
 ·subst a
  clear h c
  go_enter Tryz.func107,Tryz.ntmps107
  go_wp2;go_returns;exact ⟨rfl,by go_grown⟩
 have e:=kW a;have b:kb=0:=by omega
 subst b;clear h a d
 go_enter Tryz.func107,Tryz.ntmps107
 go_wp2;go_returns;exact ⟨rfl,by go_grown⟩
theorem vE (ka na kb nb:Int) (w:World) (c:(ka == 2)=false) (d:(kb == 2)=false) (h:ka=0∨kb=0):Rt 108 #[.agg #[.int .i64 ka,.int .i64 na],.agg #[.int .i64 kb,.int .i64 nb]] w (.agg #[.int .i64 0,.int .i64 0]):=by
 by_cases a:ka=0
 ·subst a
  clear h c
  go_enter Tryz.func108,Tryz.ntmps108
  go_wp2;go_returns;exact ⟨rfl,by go_grown⟩
 have e:=kW a;have b:kb=0:=by omega
 subst b;clear h a d
 go_enter Tryz.func108,Tryz.ntmps108
 go_wp2;go_returns;exact ⟨rfl,by go_grown⟩
theorem vN (ka na kb nb:Int) (w:World) (t:(ka == 2)=false) (u:(kb == 2)=false) (x:(ka == 0)=false) (y:(kb == 0)=false) (a1 : -1000000000000≤na) (a2:na≤1000000000000) (b1 : -1000000000000≤nb) (b2:nb≤1000000000000) :
  Rt 107 #[.agg #[.int .i64 ka,.int .i64 na],.agg #[.int .i64 kb,.int .i64 nb]] w (.agg #[.int .i64 (eG (na*nb)).1,.int .i64 (eG (na*nb)).2]):=by
 obtain ⟨ax0,ax1⟩:=oe a1 a2;obtain ⟨ay0,ay1⟩:=oe b1 b2;have a:=jS na;have c:=jS nb
 by_cases i:na=0
 ·subst i
  have g:ab 0=0:=rfl;rw [g] at a;have j:=jQ (0*nb);rw [Int.zero_mul] at j ⊢;clear g ax0 ax1
  go_enter Tryz.func107,Tryz.ntmps107
  go_wp2_with fail;refine (a _ a1 a2).mono ?_;rintro e w1 ⟨rfl,rfl⟩;go_wp2_with fail;refine (c _ b1 b2).mono ?_;rintro e w1 ⟨rfl,rfl⟩;go_wp2_with fail;refine (j _).mono ?_;rintro e w1 ⟨rfl,b⟩;have o:Bl w w1:=Below.trans (by go_grown) (b.mono (by simp;omega))
  obtain ⟨k,p⟩:=dk b;have l:=dp b
  simp at l
  go_wp2_with fail;refine bodyPost_ret (v:=.agg #[.int .i64 (eG 0).1,.int .i64 (eG 0).2]) (by simp [results,Tryz.results107,go_sem,k]) rfl ⟨rfl,?_⟩
  go_grown
 have s:=wm i
 by_cases n:1000000000000 / ab na<ab nb
 ·have f:eG (na*nb)=(2,0):=by
   refine jL (Ef (m:=1000000000000) ?_);rw [sf,Int.mul_comm];exact (Int.ediv_lt_iff_lt_mul (by omega)).mp n
  rw [f]
  go_enter Tryz.func107,Tryz.ntmps107
  go_wp2_with fail;refine (a _ a1 a2).mono ?_;rintro e w1 ⟨rfl,rfl⟩;go_wp2_with fail;refine (c _ b1 b2).mono ?_;rintro e w1 ⟨rfl,rfl⟩;go_wp2;go_returns;exact ⟨rfl,by go_grown⟩
 have d:ab (na*nb)≤1000000000000:=by
  rw [sf,Int.mul_comm];exact Int.not_lt.mp (fun h=>n ((Int.ediv_lt_iff_lt_mul (by omega)).mpr h))
 obtain ⟨q,r⟩:=Ee d;have j:=jQ (na*nb);clear d
 go_enter Tryz.func107,Tryz.ntmps107
 go_wp2_with fail;refine (a _ a1 a2).mono ?_;rintro e w1 ⟨rfl,rfl⟩;go_wp2_with fail;refine (c _ b1 b2).mono ?_;rintro e w1 ⟨rfl,rfl⟩;go_wp2_with fail;refine (j _).mono ?_;rintro e w1 ⟨rfl,b⟩;have o:Bl w w1:=Below.trans (by go_grown) (b.mono (by simp;omega))
 obtain ⟨k,p⟩:=dk b;have l:=dp b
 simp at l
 go_wp2_with fail;refine bodyPost_ret (v:=.agg #[.int .i64 (eG (na*nb)).1,.int .i64 (eG (na*nb)).2]) (by simp [results,Tryz.results107,go_sem,k]) rfl ⟨rfl,?_⟩
 go_grown
theorem yO (ka na kb nb:Int) (c:good ka na=true) (d:good kb nb=true):jg 107 #[.agg #[.int .i64 ka,.int .i64 na],.agg #[.int .i64 kb,.int .i64 nb]] (qh ka na kb nb):=by
 obtain ⟨a1,a2⟩:=cD c;obtain ⟨b1,b2⟩:=cD d;intro w;unfold qh gE
 by_cases a:ka=2∨kb=2
 ·rw [if_pos a]
  exact td ka na kb nb w a
 rw [if_neg a]
 by_cases b:ka=0∨kb=0
 ·rw [if_pos (by simp;omega)]
  exact tc ka na kb nb w (gu (by omega)) (gu (by omega)) b
 rw [if_neg (by simp;omega)]
 exact vN ka na kb nb w (gu (by omega)) (gu (by omega)) (kW (by omega)) (kW (by omega)) a1 a2 b1 b2
theorem IO (x y:Int):x.tdiv y=if (decide (x<0) != decide (y<0))=true then -(ab x / ab y) else ab x / ab y:=by
 unfold ab
 by_cases a:x<0 <;> by_cases h:y<0
 ·rw [if_neg (by simp [a,h]),if_pos a,if_pos h]
  rw [←Int.tdiv_eq_ediv_of_nonneg (by omega),Int.neg_tdiv,Int.tdiv_neg,Int.neg_neg]
 ·rw [if_pos (by simp [a,h]),if_pos a,if_neg h]
  rw [←Int.tdiv_eq_ediv_of_nonneg (by omega),Int.neg_tdiv,Int.neg_neg]
 ·rw [if_pos (by simp [a,h]),if_neg a,if_pos h]
  rw [←Int.tdiv_eq_ediv_of_nonneg (by omega),Int.tdiv_neg,Int.neg_neg]
 rw [if_neg (by simp [a,h]),if_neg a,if_neg h]
 rw [←Int.tdiv_eq_ediv_of_nonneg (by omega)]
theorem yI (ka na kb:Int) (w:World) (a:(ka == 2)=false) (b:(kb == 2)=false) (c:(ka == 0)=false) (d:(kb == 0)=false) :
  Rt 108 #[.agg #[.int .i64 ka,.int .i64 na],.agg #[.int .i64 kb,.int .i64 0]] w (.agg #[.int .i64 2,.int .i64 0]):=by
 go_enter Tryz.func108,Tryz.ntmps108
 go_wp2;go_returns;exact ⟨rfl,by go_grown⟩
theorem yH (ka na kb nb:Int) (w:World) (q:(ka == 2)=false) (r:(kb == 2)=false) (s:(ka == 0)=false) (t:(kb == 0)=false) (a1 : -1000000000000≤na) (a2:na≤1000000000000) (b1 : -1000000000000≤nb) (b2:nb≤1000000000000) (p:(nb == 0)=false) (o : ¬ nb=0) :
  Rt 108 #[.agg #[.int .i64 ka,.int .i64 na],.agg #[.int .i64 kb,.int .i64 nb]] w (.agg #[.int .i64 (eG (na.tdiv nb)).1,.int .i64 (eG (na.tdiv nb)).2]):=by
 obtain ⟨ax0,ax1⟩:=oe a1 a2;obtain ⟨_,ay1⟩:=oe b1 b2;have j:=wm o;have c:=jS na;have d:=jS nb;have m:0≤ab na / ab nb:=Int.ediv_nonneg ax0 (by omega)
 have n:ab na / ab nb≤1000000000000:=Int.le_trans (Int.ediv_le_self _ ax0) ax1;rw [IO]
 by_cases a:(decide (na<0) != decide (nb<0))=true
 ·rw [if_pos a]
  have h:(decide (na<0) == decide (nb<0))=false:=by simpa using a
  clear a;have g:=jQ (-(ab na / ab nb))
  go_enter Tryz.func108,Tryz.ntmps108
  go_wp2_with fail
  go_quiet (first | (go_at_call_of 138 na;exact Calls.quiet_of_same (c _ a1 a2)) | (go_at_call_of 138 nb;exact Calls.quiet_of_same (d _ b1 b2)))
  go_wp2_with fail;refine (g _).mono ?_;rintro e w1 ⟨rfl,b⟩;have k:Bl w w1:=Below.trans (ac (by go_grown) _) (b.mono (by show _≤(World.alloc _ _).heap.size;simp;omega))
  obtain ⟨f,l⟩:=dk b;have i:=dp b
  simp at i
  go_wp2_with fail;refine bodyPost_ret (v:=.agg #[.int .i64 (eG (-(ab na / ab nb))).1,.int .i64 (eG (-(ab na / ab nb))).2]) (by simp [results,Tryz.results108,go_sem,f]) rfl ⟨rfl,?_⟩
  go_grown
 rw [if_neg a];have h:(decide (na<0) == decide (nb<0))=true:=by simpa using a
 clear a;have g:=jQ (ab na / ab nb)
 go_enter Tryz.func108,Tryz.ntmps108
 go_wp2_with fail
 go_quiet (first | (go_at_call_of 138 na;exact Calls.quiet_of_same (c _ a1 a2)) | (go_at_call_of 138 nb;exact Calls.quiet_of_same (d _ b1 b2)))
 go_wp2_with fail;refine (g _).mono ?_;rintro e w1 ⟨rfl,b⟩;have k:Bl w w1:=Below.trans (ac (by go_grown) _) (b.mono (by show _≤(World.alloc _ _).heap.size;simp;omega))
 obtain ⟨f,l⟩:=dk b;have i:=dp b
 simp at i
 go_wp2_with fail;refine bodyPost_ret (v:=.agg #[.int .i64 (eG (ab na / ab nb)).1,.int .i64 (eG (ab na / ab nb)).2]) (by simp [results,Tryz.results108,go_sem,f]) rfl ⟨rfl,?_⟩
 go_grown
theorem Dv (ka na kb nb:Int) (d:good ka na=true) (e:good kb nb=true):jg 108 #[.agg #[.int .i64 ka,.int .i64 na],.agg #[.int .i64 kb,.int .i64 nb]] (vi ka na kb nb):=by
 obtain ⟨a1,a2⟩:=cD d;obtain ⟨b1,b2⟩:=cD e;intro w;unfold vi gE
 by_cases b:ka=2∨kb=2
 ·rw [if_pos b]
  exact vF ka na kb nb w b
 rw [if_neg b]
 by_cases c:ka=0∨kb=0
 ·rw [if_pos (by simp;omega)]
  exact vE ka na kb nb w (gu (by omega)) (gu (by omega)) c
 rw [if_neg (by simp;omega)]
 unfold C9
 by_cases a:nb=0
 ·subst a
  rw [if_pos rfl];exact yI ka na kb w (gu (by omega)) (gu (by omega)) (kW (by omega)) (kW (by omega))
 rw [if_neg a];exact yH ka na kb nb w (gu (by omega)) (gu (by omega)) (kW (by omega)) (kW (by omega)) a1 a2 b1 b2 (kW a) a
end Go.Proofs.YtohgnbgamfepoaaGreatDoor
