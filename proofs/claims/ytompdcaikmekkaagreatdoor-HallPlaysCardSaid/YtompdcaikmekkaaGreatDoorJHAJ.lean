/- What checkOutline, Cel -/
import Derived.Deep.OwnRows
import Derived.Lib.Builder
import Derived.Lib.SliceRun
import Derived.Test.YtompdcaikmekkaaGreatDoorJHAG
namespace Go.Proofs.YtompdcaikmekkaaGreatDoor
open ChangeShapes WideShapes ChangeAt RowKit
set_option maxRecDepth 99999
set_option maxHeartbeats 0
def a7 (w:World) (A:Option Addr) (cap:Nat) (L:List Int):Prop:=L.length≤cap∧(L=[]∨∃ b o,A=some ⟨b,o,none⟩∧b<w.heap.size∧∀ j,j<L.length→w.cell? ⟨b,o+j,none⟩=some (.int .i64 (L.getD j 0)))
theorem a7.later {w w':World} {A:Option Addr} {cap:Nat} {L:List Int} (h:a7 w A cap L) (e:Bl w w'):a7 w' A cap L:=by
 obtain ⟨c,a | ⟨b,o,a,d,f⟩⟩:=h
 ·exact ⟨c,Or.inl a⟩
 exact ⟨c,Or.inr ⟨b,o,a,zW d e.size,fun j g=>aD e d (f j g)⟩⟩
theorem a7.nil (w:World) (A:Option Addr) (cap:Nat):a7 w A cap []:=⟨zU,Or.inl rfl⟩
def eU (N:Nat) (A:Option Addr):Prop := ∀ b o,A=some ⟨b,o,none⟩→N≤b
theorem eU.none (N:Nat):eU N none:=fun _ _ h=>by cases h
theorem eU.le {N M:Nat} {A:Option Addr} (h:eU N A) (a:M≤N):eU M A:=fun b o e=>zV a (h b o e)
def eq (w:World) (g:Nat) (L:List Int):Prop:=w.heap[g]?=some (.cells (L.map (Value.int .i64)).toArray 3 (0,0))
theorem eq.lt {w:World} {g:Nat} {L:List Int} (h:eq w g L):g<w.heap.size:=(zY h).1
theorem eq.cell {w:World} {g:Nat} {L:List Int} (h:eq w g L) {j:Nat} (a:j<L.length):w.cell? ⟨g,j,none⟩=some (.int .i64 (L.getD j 0)):=by
 rw [Lib.cell_of_heap h]
 simp [List.getD,a]
theorem eq.frozen {w:World} {g:Nat} {L:List Int} (h:eq w g L) (j:Nat):w.frozen? ⟨g,j,none⟩=false:=Lib.frozen_of_heap h j
theorem eq.later {w w':World} {g:Nat} {L:List Int} (h:eq w g L) (a:Bl w w'):eq w' g L:=(a.block g h.lt).trans h
theorem eq.set {w:World} {g:Nat} {L:List Int} (h:eq w g L) (j:Nat) (x:Int):eq (w.setCell ⟨g,j,none⟩ (.int .i64 x)) g (L.set j x):=by
 unfold eq at *;have e:(L.set j x).map (Value.int .i64)=(L.map (Value.int .i64)).set j (.int .i64 x):=by rw [List.map_set]
 simp [World.setCell,Array.getElem?_modify,h,e]
theorem eq.pl {w:World} {g:Nat} {L:List Int} (h:eq w g L):a7 w (some ⟨g,0,none⟩) L.length L :=
 ⟨zT,Or.inr ⟨g,0,rfl,h.lt,fun j a=>by rw [Nat.zero_add];exact h.cell a⟩⟩
theorem ro (n:Nat):madeCells #[.int .i64 0] n=((List.replicate n (0:Int)).map (Value.int .i64)).toArray:=by
 apply Array.ext
 ·simp [madeCells]
 intro i a b
 simp [madeCells,Nat.mod_one]
theorem eq.made (w:World) (n:Nat):eq (w.alloc (.cells (madeCells #[.int .i64 0] n) 3)) w.heap.size (List.replicate n 0):=by
 unfold eq;rw [ro];exact heap_alloc_new w _
theorem Tryz.infoIntP:(Tryz.prog.info? 3).map (fun i=>(i.zero,i.size,i.bytes))=some (some (.int .i64 0),1,8):=by kernel_rfl
theorem oh (A0:Option Addr) (cap n:Nat) (D:Nat→Dm) (A:Nat→Option Addr) (C:Nat→Nat) (w:World) (d:aY w A0 cap n D A C):Rt 107 #[.agg #[.slice A0 n cap]] w (errV (am D n).2.2):=by
 have a:=aq w A0 n cap 24;have h:=rY A0 cap n D A C (ay w A0 n cap 24) (d.later a);have b:=aa a;clear d a;generalize errV (am D n).2.2=v at h;generalize (am D n).1=x at h;generalize (am D n).2.1=y at h
 go_enter Tryz.func107,Tryz.ntmps107
 go_wp2_with fail;refine h.mono ?_;rintro e w1 ⟨rfl,c⟩;go_wp2_with fail;go_ret;exact ⟨rfl,ae b.out c⟩
def iQ (D:Nat→Dm) (n:Nat):Int:=if (am D n).2.2=0 then (prodN D n:Int) else 0
theorem pu (A0:Option Addr) (cap n:Nat) (D:Nat→Dm) (A:Nat→Option Addr) (C:Nat→Nat) (w:World) (t:aY w A0 cap n D A C):Rt 72 #[.agg #[.slice A0 n cap]] w (.tuple #[.int .i64 (iQ D n),errV (am D n).2.2]):=by
 have i:=aq w A0 n cap 24;have h:=oh A0 cap n D A C (ay w A0 n cap 24) (t.later i);have l:=aa i;have F:=aa t;clear t i
 by_cases f:(am D n).2.2=0
 ·obtain ⟨L,M,-,z⟩:=au f
  have HV:Hid (iQ D n=(prodN D n:Int)):=by show _=_;unfold iQ;rw [if_pos f]
  have q:Hid (errV (am D n).2.2=.nilIface):=by show _=_;rw [f];rfl
  rw [f,errV_zero] at h;have E:=aa z;have K:(n:Int)≤4:=by omega
  clear f z
  go_enter Tryz.func72,Tryz.ntmps72
  go_wp2_with fail;refine h.mono ?_;rintro e w1 ⟨rfl,a⟩;have s:Bl w w1:=ae l.out a;have Q:w1.cell? ⟨w.heap.size,0,none⟩=some (.slice A0 n cap):=aD a (by show w.heap.size<_;rw [aw];omega) (aI ..)
  obtain ⟨y,I | ⟨b,o,rfl,m⟩⟩:=F.out.later s
  ·omega
  have r:=aa m;have B:=aa s;clear a h m s;go_wp2_with fail
  go_loopg [5,16] n (fun g s5 s16 wr => ∃ (k:Nat),k≤n∧g=n-k∧s16=.int .i64 k∧s5=.int .i64 (prodN D k)∧Bl w1 wr)
  case atStart=>exact ⟨0,zU,rfl,rfl,rfl,zS⟩
  case round =>
   obtain ⟨k,T,rfl,rfl,rfl,d⟩:=hrel
   by_cases v:k<n
   ·obtain ⟨I,P,R,-⟩:=(r.out.later d).2 k v
    have J:(k:Int)<(n:Int):=by omega
    have x:prodN D (k+1)≤20736:=kD (fun j S=>(E.out j (by omega)).2) (by omega)
    have p:(prodN D (k+1):Int)=(prodN D k:Int)*((D k).n:Int):=by rw [prodN];exact Int.natCast_mul _ _
    have N:0≤(prodN D k:Int)*((D k).n:Int):=by omega
    have O:(prodN D k:Int)*((D k).n:Int)≤20736:=by omega
    have H:=aa d;have G:=aa p;clear d x p;go_wp2_with fail
    go_roundg (n-(k+1))
    case measure=>omega
    case rel=>exact ⟨k+1,by omega,rfl,by go_num,by rw [G.out],ae H.out (by go_grown)⟩
   have u:k=n:=by omega
   subst u;go_wp2_with fail
   go_ret2
   rw [HV.out,q.out];exact ⟨rfl,ae B.out d⟩
 have HV:Hid (iQ D n=0):=by show _=_;unfold iQ;rw [if_neg f]
 have q:Hid (errV (am D n).2.2=.iface 63 (.int .i64 (am D n).2.2)):=ak f;rw [ak f] at h;clear f;generalize (am D n).2.2=c at h q
 go_enter Tryz.func72,Tryz.ntmps72
 go_wp2_with fail;refine h.mono ?_;rintro e w1 ⟨rfl,a⟩;go_wp2_with fail
 go_ret2
 rw [HV.out,q.out];exact ⟨rfl,ae l.out a⟩
theorem zh {q:Nat} (h:q≤3000):wrap64 (q:Int)=q:=by unfold wrap64;omega
theorem C6 (D:Nat→Dm) (m n r:Nat):restAt D m n r≤n:=by
 induction r with
 | zero=>exact zT
 | succ r ih=>rw [restAt];exact zV (Nat.div_le_self _ _) ih
def noC:Int×Int:=(0,0)
def bK:List (Int×Int)→List Value
 | []=>[]
 | c :: r=>.int .i64 c.1 :: .int .i64 c.2 :: bK r
theorem od (L:List (Int×Int)):(bK L).length=L.length*2:=by
 induction L with
 | nil=>rfl
 | cons x r ih=>simp [bK,ih];omega
theorem cellsC_append (a b:List (Int×Int)):bK (a ++ b)=bK a ++ bK b:=by
 induction a with
 | nil=>rfl
 | cons x r ih=>simp [bK,ih]
theorem oe (L:List (Int×Int)):∀ v∈bK L,v.oneCell'=true:=by
 induction L with
 | nil=>intro v a;cases a
 | cons x r ih =>
  intro v a;simp only [bK,List.mem_cons] at a
  rcases a with rfl | rfl | a
  ·rfl
  ·rfl
  exact ih v a
theorem qI (L:List (Int×Int)):∀ k,k<L.length→(bK L)[k*2]?=some (.int .i64 (L.getD k noC).1)∧(bK L)[k*2+1]?=some (.int .i64 (L.getD k noC).2):=by
 induction L with
 | nil=>intro k a;cases a
 | cons x r ih =>
  intro k a;cases k with
  | zero=>simp [bK]
  | succ k =>
   rw [show (k+1)*2=k*2+1+1 by omega]
   simp only [bK,List.getElem?_cons_succ,List.getD_cons_succ];exact ih k (by simpa using a)
def im (w:World) (b o:Nat) (L:List (Int×Int)):Prop:=b<w.heap.size∧∀ k,k<L.length→w.cell? ⟨b,o+k*2,none⟩=some (.int .i64 (L.getD k noC).1)∧w.cell? ⟨b,o+k*2+1,none⟩=some (.int .i64 (L.getD k noC).2)
theorem im.later {w w':World} {b o:Nat} {L:List (Int×Int)} (h:im w b o L) (a:Bl w w'):im w' b o L :=
 ⟨zW h.1 a.size,fun k c=>⟨(a.cell (p:=⟨b,o+k*2,none⟩) h.1).trans (h.2 k c).1,(a.cell (p:=⟨b,o+k*2+1,none⟩) h.1).trans (h.2 k c).2⟩⟩
theorem im.cells {w:World} {b o:Nat} {L:List (Int×Int)} (h:im w b o L):∀ j u,(bK L)[j]?=some u→w.cell? ⟨b,o+j,none⟩=some u:=by
 intro j u a;have c:j<(bK L).length:=(List.getElem?_eq_some_iff.1 a).1;rw [od] at c;have d:j / 2<L.length:=by omega
 obtain ⟨f,g⟩:=qI L _ d;obtain ⟨c1,c2⟩:=h.2 _ d
 rcases Nat.mod_two_eq_zero_or_one j with hm | hm
 ·have e:j=j / 2*2:=by omega
  rw [e] at a ⊢;rw [f] at a;rw [c1];exact a
 have e:j=j / 2*2+1:=by omega
 rw [e] at a ⊢;rw [g] at a;rw [←Nat.add_assoc,c2];exact a
def dw (w:World) (A:Option Addr) (cap:Nat) (L:List (Int×Int)):Prop:=L.length≤cap∧cap≤9223372036854775807∧(L=[]∨∃ b o,A=some ⟨b,o,none⟩∧im w b o L)
theorem dw.later {w w':World} {A:Option Addr} {cap:Nat} {L:List (Int×Int)} (h:dw w A cap L) (f:Bl w w'):dw w' A cap L:=by
 obtain ⟨d,c,a | ⟨b,o,a,e⟩⟩:=h
 ·exact ⟨d,c,Or.inl a⟩
 exact ⟨d,c,Or.inr ⟨b,o,a,e.later f⟩⟩
theorem dw.nil (w:World) (A:Option Addr) (cap:Nat) (h:cap≤9223372036854775807):dw w A cap []:=⟨zU,h,Or.inl rfl⟩
def bT (w:World) (g:Nat) (L:List (Int×Int)):Prop := ∃ cur:Array Value,w.heap[g]?=some (.cells cur 52 (0,0))∧∀ k,k<L.length→cur[k*2]?=some (.int .i64 (L.getD k noC).1)∧cur[k*2+1]?=some (.int .i64 (L.getD k noC).2)
section
variable {w w':World} {g:Nat} {L:List (Int×Int)}
theorem bT.lt (h:bT w g L):g<w.heap.size:=by
 obtain ⟨a,b,_⟩:=h;exact (zY b).1
theorem bT.same (h:bT w g L) (d:w'.heap[g]?=w.heap[g]?):bT w' g L:=by
 obtain ⟨a,b,c⟩:=h;exact ⟨a,d.trans b,c⟩
theorem bT.later (h:bT w g L) (a:Bl w w'):bT w' g L:=h.same (a.block g h.lt)
theorem bT.at (h:bT w g L) {k:Nat} (f:k<L.length):w.cell? ⟨g,k*2,none⟩=some (.int .i64 (L.getD k noC).1)∧w.cell? ⟨g,k*2+1,none⟩=some (.int .i64 (L.getD k noC).2):=by
 obtain ⟨b,a,c⟩:=h;obtain ⟨d,e⟩:=c k f;exact ⟨by simp [World.cell?,a,d],by simp [World.cell?,a,e]⟩
theorem bT.frozen (h:bT w g L) (j:Nat):w.frozen? ⟨g,j,none⟩=false:=by
 obtain ⟨a,b,_⟩:=h;exact Lib.frozen_of_heap b j
theorem bT.celAt (h:bT w g L):im w g 0 L:=⟨h.lt,fun k a=>by rw [Nat.zero_add];exact h.at a⟩
theorem bT.set (h:bT w g L) {x:Nat} (p:x<L.length) (a b:Int):bT ((w.setCell ⟨g,x*2,none⟩ (.int .i64 a)).setCell ⟨g,x*2+1,none⟩ (.int .i64 b)) g (L.set x (a,b)):=by
 obtain ⟨d,j,f⟩:=h;refine ⟨(d.setIfInBounds (x*2) (.int .i64 a)).setIfInBounds (x*2+1) (.int .i64 b),by simp [World.setCell,Array.getElem?_modify,j],fun k c=>?_⟩
 rw [List.length_set] at c;obtain ⟨l,m⟩:=f k c;obtain ⟨n,o⟩:=f x p;have q:=(zY n).1;have r:=(zY o).1
 by_cases e:k=x
 ·subst e
  constructor
  ·rw [Array.getElem?_setIfInBounds_ne (by omega),Array.getElem?_setIfInBounds_self_of_lt q]
   simp [List.getD,c]
  rw [Array.getElem?_setIfInBounds_self_of_lt (by simpa using r)]
  simp [List.getD,c]
 have i:(L.set x (a,b)).getD k noC=L.getD k noC:=by simp [List.getD,List.getElem?_set_ne (fun h=>e h.symm)]
 rw [i]
 constructor
 ·rw [Array.getElem?_setIfInBounds_ne (by omega),Array.getElem?_setIfInBounds_ne (by omega)];exact l
 rw [Array.getElem?_setIfInBounds_ne (by omega),Array.getElem?_setIfInBounds_ne (by omega)];exact m
theorem ob {base:Nat} {v:Value} (h:w.ownsRow base 52 2 v L.length (bK L)) (p:0<L.length):∃ g c,v=.slice (some ⟨g,0,none⟩) L.length c∧base≤g∧L.length≤c∧c≤9223372036854775807∧bT w g L:=by
 rcases h.2 with ⟨_,n⟩ | ⟨g,cap,a,rfl,j,l,e,f,o,i⟩
 ·omega
 refine ⟨g,cap,rfl,j,e,by unfold maxLen at f;omega,a,l,fun k m=>?_⟩
 obtain ⟨b,d⟩:=qI L k m;rw [←i,List.getElem?_take,if_pos (by omega),Array.getElem?_toList] at b d
 exact ⟨b,d⟩
end
theorem Tryz.infoCe:(Tryz.prog.info? 52).map (fun i=>(i.zero,i.size,i.bytes))=some (some (.agg #[.int .i64 0,.int .i64 0]),2,16):=by kernel_rfl
def gy (L:List (Int×Int)) (k:Nat):Bool := !(good (L.getD k noC).1 (L.getD k noC).2)
def JD (fn q r:Nat) (w:World) (n:Nat) (p:Nat→Bool):Prop := ∀ (i:Nat) (w':World),i<n→Bl w w'→Calls Tryz.prog fn #[.int .i64 i,.pointer (some ⟨q,0,none⟩),.pointer (some ⟨r,0,none⟩)] w' fun e w''=>e=.returned (.bool (p i))∧Bl w' w''
theorem xj (A:Option Addr) (cap:Nat) (L:List Int) (i:Int) (w:World) (E:L.length≤12) (z:bW w A cap L):Rt 204 #[.slice A L.length cap,.int .i64 i] w (.int .i64 (findFrom (fun j=>L.getD j 0 == i) L.length 0)):=by
 obtain ⟨C,y | ⟨b,rfl,B,c⟩⟩:=z
 ·subst y
  simp only [List.length_nil]
  go_enter Tryz.func204,Tryz.ntmps204
  go_wp2_with fail;refine wp_loop_rounds 1 ?_;rw [rounds_succ];go_wp2_with fail;go_ret;exact ⟨rfl,zS⟩
 have t:=aa c;obtain ⟨p,s⟩:∃ p:Nat→Bool,p=fun j=>L.getD j 0 == i:=⟨_,rfl⟩
 have v:Hid (∀ j,p j=(L.getD j 0 == i)):=fun j=>by rw [s]
 rw [←s];generalize hnn:L.length=n at E C t;clear c s hnn
 go_enter Tryz.func204,Tryz.ntmps204
 go_wp2_with fail
 go_loopg [8] n (fun g s8 wr => ∃ (k:Nat),k≤n∧g=n-k∧s8=.int .i64 k∧findFrom p (n-k) k=findFrom p n 0∧wr=w)
 case atStart=>exact ⟨0,zU,rfl,rfl,rfl,rfl⟩
 case round =>
  obtain ⟨k,H,rfl,rfl,u,rfl⟩:=hrel;have f:=aa u;clear u
  by_cases r:k<n
  ·have D:(k:Int)<(n:Int):=by omega
   have o:=t.out k r;have e:n-k=(n-(k+1))+1:=by omega
   have F:(n:Int)≤12:=by omega
   have a:=v.out k;have d:=aa e;generalize L.getD k 0=x at o a;clear e;cases hb:p k
   ·have l:=aa hb
    rw [hb] at a;have G:(i == x)=false:=by
     have m:x≠i:=by simpa using a.symm
     simpa using fun h:i=x=>m h.symm
    clear hb a;go_wp2_with fail
    go_roundg (n-(k+1))
    case measure=>omega
    case rel=>exact ⟨k+1,by omega,rfl,by go_num,by rw [←f.out,d.out,be _ l.out],rfl⟩
   have l:=aa hb;rw [hb] at a;have G:(i == x)=true:=by
    have m:x=i:=by simpa using a.symm
    simpa using m.symm
   clear hb a;go_wp2_with fail;go_ret;exact ⟨by rw [←f.out,d.out,bj _ l.out];rfl,zS⟩
  have q:k=n:=by omega
  subst q;go_wp2_with fail;go_ret;exact ⟨by rw [←f.out,Nat.sub_self];rfl,zS⟩
theorem jZ (A:Option Addr) (cap:Nat) (L:List Int) (i:Int) (w:World) (d:L.length≤12) (c:bW w A cap L):Rt 162 #[.slice A L.length cap,.int .i64 i] w (.bool (nA L i)):=by
 have h:=xj A cap L i w d c;have b:Hid (decide (0≤findFrom (fun j=>L.getD j 0 == i) L.length 0)=nA L i):=G2 L i
 generalize findFrom (fun j=>L.getD j 0 == i) L.length 0=f at h b
 generalize L.length=n at h;clear c d
 go_enter Tryz.func162,Tryz.ntmps162
 go_wp2_with fail;refine h.mono ?_;rintro e w1 ⟨rfl,a⟩;go_wp2_with fail;go_ret;exact ⟨by rw [←b.out];rfl,a⟩
theorem rv (b o n cap:Nat) (D:Nat→Dm) (A:Nat→Option Addr) (C:Nat→Nat) (w:World) (J:n≤4) (q:∀ j,j<n→(D j).n≤12) (m:dS w b o n D A C):Rt 48 #[.agg #[.slice (some ⟨b,o,none⟩) n cap]] w (.int .i64 (prodN D n)):=by
 have s:=aa m;have t:=aa q;clear m q;have p:=aw w (some ⟨b,o,none⟩) n cap 24;have c:=aq w (some ⟨b,o,none⟩) n cap 24;have a:=aI w (some ⟨b,o,none⟩) n cap 24;obtain ⟨W,f⟩:∃ W,W=ay w (some ⟨b,o,none⟩) n cap 24:=⟨_,rfl⟩;rw [←f] at c p a;have v:=aa f;have r:=aa a;have d:=aa c;have B:(n:Int)≤4:=by omega
 clear f a c p
 go_enter Tryz.func48,Tryz.ntmps48
 go_wp2_with fail
 go_loopg [3,4] n (fun g s3 s4 wr => ∃ (k:Nat),k≤n∧g=n-k∧s4=.int .i64 k∧s3=.int .i64 (prodN D k)∧wr=W)
 case atStart=>exact ⟨0,zU,rfl,rfl,rfl,by rw [v.out];rfl⟩
 case round =>
  obtain ⟨k,I,rfl,rfl,rfl,rfl⟩:=hrel;have c0:=r.out
  by_cases i:k<n
  ·obtain ⟨E,F,G,-⟩:=(s.out.later d.out).2 k i
   have x:(k:Int)<(n:Int):=by omega
   have l:prodN D (k+1)≤20736:=kD (fun j H=>t.out j (by omega)) (by omega)
   have e:(prodN D (k+1):Int)=(prodN D k:Int)*((D k).n:Int):=by rw [prodN];exact Int.natCast_mul _ _
   have y:0≤(prodN D k:Int)*((D k).n:Int):=by omega
   have z:(prodN D k:Int)*((D k).n:Int)≤20736:=by omega
   have u:=aa e;clear l e;go_wp2_with fail
   go_roundg (n-(k+1))
   case measure=>omega
   case rel=>exact ⟨k+1,by omega,rfl,by go_num,by rw [u.out],rfl⟩
  have h:k=n:=by omega
  subst h;go_wp2_with fail;go_ret;exact ⟨rfl,d.out⟩
def fi (N:List (List Int)) (out:List Int) (j:Nat):Nat:=((N.getD j []).filter fun x => !(out.contains x)).length
def bC (N:List (List Int)) (m n:Nat):List Int:=selTo (fun j=>(N.getD j []).contains (m:Int)) n
theorem g7 {N:List (List Int)} {m n:Nat} {x:Int}:x∈bC N m n↔∃ j:Nat,x=j∧j<n∧(m:Int)∈N.getD j []:=by
 unfold bC
 constructor
 ·intro h
  obtain ⟨j,c,a,b⟩:=cQ x h;exact ⟨j,c,a,List.contains_iff_mem.1 b⟩
 rintro ⟨j,rfl,a,b⟩;exact jO a (List.contains_iff_mem.2 b)
theorem Gu (N:List (List Int)) (m n:Nat):(bC N m n).Pairwise (· < ·):=fh _ _
theorem uD {N:List (List Int)} {out:List Int} {j:Nat}:fi N out j=0↔∀ x∈N.getD j [],x∈out:=by
 unfold fi;rw [List.length_eq_zero_iff,List.filter_eq_nil_iff];refine forall_congr' fun x=>forall_congr' fun _=>?_
 simp
theorem Ci (N:List (List Int)) (j:Nat):fi N [] j=(N.getD j []).length:=by
 unfold fi;rw [List.filter_eq_self.2 fun x _=>by simp]
theorem I7 (N:List (List Int)) (out:List Int) (j:Nat):fi N out j≤(N.getD j []).length:=List.length_filter_le _ _
theorem t6:∀ (L out:List Int) (m:Int),L.Pairwise (· < ·)→m∉out→(L.filter fun x => !(out.contains x)).length=(L.filter fun x => !((out ++ [m]).contains x)).length+(if m∈L then 1 else 0)
 | [],_,_,_,_=>rfl
 | a :: L,out,m,hL,hm=>by
  obtain ⟨i,j⟩:=List.pairwise_cons.1 hL;have f:=t6 L out m j hm;have d:∀ x,(out ++ [m]).contains x=(out.contains x || x == m):=fun x=>by
   rw [Bool.eq_iff_iff,Bool.or_eq_true,List.contains_iff_mem,List.contains_iff_mem,List.mem_append,List.mem_singleton,beq_iff_eq]
  rw [List.filter_cons,List.filter_cons]
  by_cases b:a=m
  ·subst b
   have l:a∉L:=fun h=>by have:=i a h;omega
   have g:out.contains a=false:=by rw [←Bool.not_eq_true,List.contains_iff_mem];exact hm
   rw [d a,g];rw [if_neg l] at f;simp only [Bool.not_false,if_true,beq_self_eq_true,Bool.or_true,Bool.not_true,Bool.false_eq_true,if_false,List.length_cons,List.mem_cons,true_or]
   omega
  have k:(a == m)=false:=by simpa using b
  have c:(m∈a :: L)↔m∈L:=by
   rw [List.mem_cons];exact ⟨fun h=>h.resolve_left (fun e=>b e.symm),Or.inr⟩
  rw [d a,k,Bool.or_false];cases out.contains a
  ·simp only [Bool.not_false,if_true,List.length_cons,c]
   omega
  simp only [Bool.not_true,Bool.false_eq_true,if_false,c];exact f
theorem la {N:List (List Int)} {out:List Int} {m j:Nat} (b:(N.getD j []).Pairwise (· < ·)) (a:(m:Int)∉out):fi N out j=fi N (out ++ [(m:Int)]) j+(if (m:Int)∈N.getD j [] then 1 else 0):=t6 _ _ _ b a
theorem xQ (N:List (List Int)) (k:Nat):∀ j:Nat,(j:Int)∈aC N k→∀ x∈N.getD j [],x∈aC N k:=by
 induction k with
 | zero=>intro j a;cases a
 | succ k ih =>
  intro j a x b;rw [aC,List.mem_append] at a ⊢
  rcases a with a | a
  ·exact Or.inl (ih j a x b)
  split at a
  ·rename_i h
   obtain ⟨m,c,-,d,-⟩:=mr h;rw [List.mem_singleton,c] at a;have:j=m:=by omega
   subst this;exact Or.inl ((fY d).2 x b)
  cases a
def rV (N:List (List Int)) (out R:List Int):Prop:=R.Pairwise (· < ·)∧∀ x,x∈R↔∃ j:Nat,x=j∧j<N.length∧sD N out j=true
def kK (N:List (List Int)) (out:List Int) (m i:Nat) (R:List Int):Prop:=R.Pairwise (· < ·)∧∀ x,x∈R↔∃ j:Nat,x=j∧j<N.length∧((sD N out j=true∧j≠m)∨((j:Int)∈(bC N m N.length).take i∧fi N out j=1))
def ia (N:List (List Int)) (out:List Int) (m i j:Nat):Nat:=fi N out j-(if (j:Int)∈(bC N m N.length).take i then 1 else 0)
theorem CO {N:List (List Int)} {R:List Int} (f:R=selTo (fun j=>(N.getD j []).isEmpty) N.length):rV N [] R:=by
 subst f;refine ⟨fh _ _,fun x=>?_⟩
 constructor
 ·intro h
  obtain ⟨j,e,c,b⟩:=cQ x h;refine ⟨j,e,c,uN (by simp) fun y d=>?_⟩
  rw [List.isEmpty_iff] at b;rw [b] at d;cases d
 rintro ⟨j,rfl,c,b⟩;refine jO c ?_;rw [List.isEmpty_iff];have:=(fY b).2;cases h:N.getD j [] with
 | nil=>rfl
 | cons a r=>exact absurd (this a (by rw [h];simp)) (by simp)
theorem pF {N:List (List Int)} (t:ni N) (v:∀ i:Nat,i<N.length→cycB N i=false) {k:Nat} (w:k<N.length) {R:List Int} (u:rV N (aC N k) R):∃ (m:Nat) (R':List Int),R=(m:Int) :: R'∧m<N.length∧sD N (aC N k) m=true∧aC N (k+1)=aC N k ++ [(m:Int)]∧kK N (aC N k) m 0 R':=by
 obtain ⟨m,-,n,o,r,s⟩:=pr t v w;obtain ⟨y,f⟩:=u;have c:=(f m).2 ⟨m,rfl,n,o⟩;cases R with
 | nil=>cases c
 | cons a R' =>
  obtain ⟨q,z⟩:=List.pairwise_cons.1 y;have g:a=(m:Int):=by
   obtain ⟨j,l,d,b⟩:=(f a).1 (by simp)
   rcases List.mem_cons.1 c with h | h
   ·exact h.symm
   have B:=q _ h;rw [r j (by omega)] at b
   cases b
  subst g;refine ⟨m,R',rfl,n,o,s,z,fun x=>?_⟩
  constructor
  ·intro p
   obtain ⟨j,l,d,b⟩:=(f x).1 (List.mem_cons_of_mem _ p);refine ⟨j,l,d,Or.inl ⟨b,fun e=>?_⟩⟩
   have:=q x p
   omega
  rintro ⟨j,rfl,d,(⟨b,A⟩ | ⟨b,-⟩)⟩
  ·rcases List.mem_cons.1 ((f j).2 ⟨j,rfl,d,b⟩) with h | h
   ·omega
   exact h
  simp at b
theorem Ie {N:List (List Int)} (e:ni N) (g:∀ i:Nat,i<N.length→cycB N i=false) {R:List Int} (f:rV N (aC N N.length) R):R=[]:=by
 refine List.eq_nil_iff_forall_not_mem.2 fun x k=>?_
 obtain ⟨j,rfl,l,c⟩:=(f.2 x).1 k;have h:=(fY c).1;obtain ⟨b,d⟩:=pq N N.length;have:=few N.length ((j:Int) :: aC N N.length) (List.nodup_cons.2 ⟨h,b⟩) fun y a=>by
  rcases List.mem_cons.1 a with rfl | a
  ·omega
  exact d y a
 rw [List.length_cons,eb e g N.length (zT)] at this
 omega
def sq (R:List Int) (k:Int):List Int:=R.take (R.countP (· < k)) ++ k :: R.drop (R.countP (· < k))
theorem rc:∀ (R:List Int) (k:Int),R.Pairwise (· < ·)→k∉R→(∀ a∈R.take (R.countP (· < k)),a<k)∧∀ b∈R.drop (R.countP (· < k)),k<b
 | [],k,_,_=>⟨fun a h=>by simp at h,fun b h=>by simp at h⟩
 | a :: R,k,hR,hk=>by
  obtain ⟨e,g⟩:=List.pairwise_cons.1 hR;have d:k≠a∧k∉R:=by simpa using hk
  by_cases h:a<k
  ·obtain ⟨i1,i2⟩:=rc R k g d.2
   rw [List.countP_cons_of_pos (by simpa using h),List.take_succ_cons,List.drop_succ_cons]
   refine ⟨fun x c=>?_,i2⟩
   rcases List.mem_cons.1 c with rfl | c
   ·exact h
   exact i1 x c
  have f:(a :: R).countP (· < k)=0:=by
   rw [List.countP_eq_zero];intro x c
   rcases List.mem_cons.1 c with rfl | c
   ·simpa using h
   have:=e x c
   simp;omega
  rw [f];refine ⟨fun x c=>by simp at c,fun x c=>?_⟩
  rcases List.mem_cons.1 (show x∈a :: R from c) with rfl | c
  ·omega
  have:=e x c;omega
theorem EV {R:List Int} {k:Int} (c:R.Pairwise (· < ·)) (j:k∉R):(sq R k).Pairwise (· < ·)∧∀ x,x∈sq R k↔x=k∨x∈R:=by
 obtain ⟨f,g⟩:=rc R k c j;have e:R.take (R.countP (· < k)) ++ R.drop (R.countP (· < k))=R:=List.take_append_drop _ _;refine ⟨?_,fun x=>?_⟩
 ·unfold sq
  rw [List.pairwise_append];refine ⟨c.sublist (List.take_sublist _ _),List.pairwise_cons.2 ⟨g,c.sublist (List.drop_sublist _ _)⟩,fun a i b d=>?_⟩
  rcases List.mem_cons.1 d with rfl | d
  ·exact f a i
  have:=f a i;have:=g b d
  omega
 unfold sq;rw [List.mem_append,List.mem_cons];have:x∈R↔x∈R.take (R.countP (· < k))∨x∈R.drop (R.countP (· < k)):=by rw [←List.mem_append,e]
 rw [this]
 constructor
 ·rintro (h | h | h)
  ·exact Or.inr (Or.inl h)
  ·exact Or.inl h
  exact Or.inr (Or.inr h)
 rintro (h | h | h)
 ·exact Or.inr (Or.inl h)
 ·exact Or.inl h
 exact Or.inr (Or.inr h)
theorem Gx {N:List (List Int)} {m i:Nat} (a:i<(bC N m N.length).length) (x:Int):x∈(bC N m N.length).take (i+1)↔x∈(bC N m N.length).take i∨x=(bC N m N.length).getD i 0:=by
 rw [List.take_succ_eq_append_getElem a,List.mem_append,List.mem_singleton,zZ,zX a]
 rfl
theorem IC {N:List (List Int)} {m i:Nat} (b:i<(bC N m N.length).length):(bC N m N.length).getD i 0∉(bC N m N.length).take i:=by
 intro h;rw [zZ,zX b,Option.getD_some] at h;obtain ⟨j,c,e⟩:=List.getElem_of_mem h;have a:j<i:=by have:=c;rw [List.length_take] at this;omega
 rw [List.getElem_take] at e;have:=List.pairwise_iff_getElem.1 (Gu N m N.length) j i (by omega) b a
 omega
theorem Gv {N:List (List Int)} (w:∀ j,j<N.length→(N.getD j []).Pairwise (· < ·)) {out:List Int} {m i:Nat} (v:sD N out m=true) (o:i<(bC N m N.length).length):∃ u:Nat,(bC N m N.length).getD i 0=(u:Int)∧u<N.length∧ia N out m i u=fi N out u∧1≤fi N out u∧ia N out m (i+1) u+1=fi N out u∧(∀ j,j≠u→ia N out m (i+1) j=ia N out m i j)∧∀ R,kK N out m i R→(u:Int)∉R∧(fi N out u=1→kK N out m (i+1) (sq R u))∧(fi N out u≠1→kK N out m (i+1) R):=by
 have l:=(fY v).1;have k:(bC N m N.length).getD i 0∈bC N m N.length:=by
  rw [zZ,zX o];exact List.getElem_mem o
 obtain ⟨u,p,q,s⟩:=g7.1 k;have c:=IC o;rw [p] at c;have t:1≤fi N out u:=by
  have:=la (w u q) l;rw [if_pos s] at this
  omega
 have r:sD N out u=false:=by
  rw [←Bool.not_eq_true];intro h;exact l ((fY h).2 _ s)
 have f:=fun x=>Gx (N:=N) (m:=m) o x
 rw [p] at f;refine ⟨u,p,q,by unfold ia;rw [if_neg c];omega,t,?_,fun j y=>?_,fun R g=>?_⟩
 ·unfold ia
  rw [if_pos ((f u).2 (Or.inr rfl))]
  omega
 ·unfold ia
  have:((j:Int)∈(bC N m N.length).take (i+1))↔(j:Int)∈(bC N m N.length).take i:=by
   rw [f];exact ⟨fun h=>h.resolve_right (by omega),Or.inl⟩
  simp only [this]
 have n:(u:Int)∉R:=fun h=>by
  obtain ⟨j,b,d,(⟨a,-⟩ | ⟨a,-⟩)⟩:=(g.2 u).1 h
  ·have:j=u:=by omega
   subst this;rw [r] at a;cases a
  have:j=u:=by omega
  subst this;exact c a
 refine ⟨n,fun h=>?_,fun h=>⟨g.1,fun x=>?_⟩⟩
 ·obtain ⟨i1,i2⟩:=EV g.1 n
  refine ⟨i1,fun x=>?_⟩
  rw [i2,g.2]
  constructor
  ·rintro (rfl | ⟨j,b,d,a⟩)
   ·exact ⟨u,rfl,q,Or.inr ⟨(f u).2 (Or.inr rfl),h⟩⟩
   refine ⟨j,b,d,?_⟩
   rcases a with a | ⟨a,e⟩
   ·exact Or.inl a
   exact Or.inr ⟨(f j).2 (Or.inl a),e⟩
  rintro ⟨j,b,d,(a | ⟨a,e⟩)⟩
  ·exact Or.inr ⟨j,b,d,Or.inl a⟩
  rcases (f j).1 a with f5 | f5
  ·exact Or.inr ⟨j,b,d,Or.inr ⟨f5,e⟩⟩
  exact Or.inl (b.trans f5)
 rw [g.2]
 constructor
 ·rintro ⟨j,b,d,a⟩
  refine ⟨j,b,d,?_⟩
  rcases a with a | ⟨a,e⟩
  ·exact Or.inl a
  exact Or.inr ⟨(f j).2 (Or.inl a),e⟩
 rintro ⟨j,b,d,(a | ⟨a,e⟩)⟩
 ·exact ⟨j,b,d,Or.inl a⟩
 rcases (f j).1 a with f5 | f5
 ·exact ⟨j,b,d,Or.inr ⟨f5,e⟩⟩
 have:j=u:=by omega
 subst this;exact absurd e h
theorem IB {N:List (List Int)} (q:∀ j,j<N.length→(N.getD j []).Pairwise (· < ·)) {k m:Nat} (u:sD N (aC N k) m=true):(∀ j,j<N.length→ia N (aC N k) m (bC N m N.length).length j=fi N (aC N k ++ [(m:Int)]) j)∧∀ R,kK N (aC N k) m (bC N m N.length).length R→rV N (aC N k ++ [(m:Int)]) R:=by
 have a:=(fY u).1;have o:=(fY u).2;refine ⟨fun j t=>?_,fun R s=>⟨s.1,fun x=>?_⟩⟩
 ·unfold ia
  rw [List.take_length];have d:=la (q j t) a
  by_cases h:(m:Int)∈N.getD j []
  ·rw [if_pos (g7.2 ⟨j,rfl,t,h⟩)]
   rw [if_pos h] at d
   omega
  have p:(j:Int)∉bC N m N.length:=fun e=>by
   obtain ⟨i,v,-,c⟩:=g7.1 e;have l:i=j:=by omega
   rw [l] at c;exact h c
  rw [if_neg p];rw [if_neg h] at d
  omega
 rw [s.2,List.take_length]
 constructor
 ·rintro ⟨j,n,f,b⟩
  refine ⟨j,n,f,?_⟩
  rcases b with ⟨b,r⟩ | ⟨b,r⟩
  ·obtain ⟨g1,g2⟩:=fY b
   refine uN ?_ fun y g=>List.mem_append.2 (Or.inl (g2 y g))
   rw [List.mem_append,List.mem_singleton];rintro (h | h)
   ·exact g1 h
   omega
  obtain ⟨i,v,l,c⟩:=g7.1 b;have:i=j:=by omega
  subst this;have d:=la (q i l) a;rw [if_pos c,r] at d;refine uN ?_ (uD.1 (by omega))
  rw [List.mem_append,List.mem_singleton];rintro (h | h)
  ·exact a (xQ N k i h _ c)
  have:i=m:=by omega
  subst this;exact a (o _ c)
 rintro ⟨j,n,f,b⟩;obtain ⟨g1,g2⟩:=fY b;rw [List.mem_append,List.mem_singleton] at g1;refine ⟨j,n,f,?_⟩
 by_cases h:(m:Int)∈N.getD j []
 ·refine Or.inr ⟨g7.2 ⟨j,rfl,f,h⟩,?_⟩
  have d:=la (q j f) a;rw [if_pos h,uD.2 g2] at d
  omega
 refine Or.inl ⟨uN (fun e=>g1 (Or.inl e)) fun y g=>?_,fun e=>g1 (Or.inr (by omega))⟩
 rcases List.mem_append.1 (g2 y g) with h2 | h2
 ·exact h2
 rw [List.mem_singleton] at h2;rw [h2] at g;exact absurd g h
end Go.Proofs.YtompdcaikmekkaaGreatDoor
