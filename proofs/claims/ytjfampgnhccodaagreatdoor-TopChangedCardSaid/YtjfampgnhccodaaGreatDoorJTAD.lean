/- What Check and Find of -/
import Derived.Test.YtjfampgnhccodaaGreatDoorJTAB
import Derived.Test.YtjfampgnhccodaaGreatDoorJTAC
namespace Go.Proofs.YtjfampgnhccodaaGreatDoor
open Tryz ChangeShapes WideShapes ChangeAt RowKit
set_option maxRecDepth 99999
set_option maxHeartbeats 0
def dC(w:World)(A:Option Addr)(cap n:Nat)(M:Nat->Mem):Prop:=n<=cap/\(n=0\/∃b o,A=some ⟨b,o,none⟩/\cI w b o n M)
theorem dC.later{w w':World}{A:Option Addr}{cap n:Nat}{M:Nat->Mem}(h:dC w A cap n M)(e:Bl w w'):dC w' A cap n M:=by
 obtain⟨c,a|⟨b,o,a,d⟩⟩:=h
 ·exact⟨c,Or.inl a⟩
 exact⟨c,Or.inr ⟨b,o,a,d.later e⟩⟩
theorem uj{d:Dm}(h:bY d≠0):am d=(-1,bY d):=by
 unfold bY at h|-;unfold am
 split
 ·rfl
 split
 ·rfl
 split
 ·rfl
 split
 ·rfl
 rename_i h1 h2 h3 h4
 rw[if_neg h1,if_neg h2,if_neg h3,if_neg h4]at h;exact absurd rfl h
theorem wD{d:Dm}(h:bY d=0):am d=oZ d.mem d.n 0/\1<=d.n/\d.n<=12:=by
 unfold bY at h;unfold am
 split at h
 ·simp at h
 split at h
 ·simp at h
 split at h
 ·simp at h
 split at h
 ·simp at h
 rename_i h1 h2 h3 h4
 rw[if_neg h1,if_neg h2,if_neg h3,if_neg h4];exact⟨rfl,ω,ω⟩
def aH(w:World)(d:Dm)(A:Option Addr)(cap T:Nat):World:=w.alloc (.cells #[.string d.name,.int .i64 d.solve,.slice A d.n cap] T)
theorem fE(w:World)(d:Dm)(A:Option Addr)(cap T:Nat):(aH w d A cap T).cell? ⟨w.heap.size,0,none⟩=some (.string d.name)/\(aH w d A cap T).cell? ⟨w.heap.size,1,none⟩=some (.int .i64 d.solve)/\(aH w d A cap T).cell? ⟨w.heap.size,2,none⟩=some (.slice A d.n cap):=by unfold aH;exact⟨by simp,by simp,by simp⟩
theorem bg(w:World)(d:Dm)(A:Option Addr)(cap T:Nat):(aH w d A cap T).heap.size=w.heap.size+1:=by unfold aH;simp
theorem bu(w:World)(d:Dm)(A:Option Addr)(cap T:Nat):Bl w (aH w d A cap T):=by unfold aH;go_grown
theorem gD(d:Dm)(A:Option Addr)(cap:Nat)(w:World)(F:dC w A cap d.n d.mem):Rt 56 #[dw d A cap] w (.tuple #[.int .i64 (am d).1,errV (am d).2]):=by
 have f:=EQ d A cap;unfold dw at f|-;have J:=aa F;clear F
 by_cases l:bY d=0
 ·rw[l,errV_zero]at f
  obtain⟨t,L,B⟩:=wD l;have v:=aa t;clear t l
  go_enter func56,ntmps56
  go_wp2_with fail;refine(f _).mono ?_;rintro e w1⟨rfl,a⟩;have G:=bg w d A cap 67;have q:Bl w w1:=ad (bu w d A cap 67) a;have N:w.heap.size<w1.heap.size:=by
   have:=a.size
   change (aH w d A cap 67).heap.size<=_ at this
   omega
  have K:w1.cell? ⟨w.heap.size,2,none⟩=some (.slice A d.n cap):=(a.cell (p:=⟨w.heap.size,2,none⟩) (by show w.heap.size<(aH w d A cap 67).heap.size;rw[G];omega)).trans (fE w d A cap 67).2.2
  obtain⟨s,O|⟨b,o,rfl,r⟩⟩:=J.o.later q
  ·omega
  have z:=aa r;have H:(d.n:Int)<=12:=ω;clear a G r f;go_wp2_with fail
  go_loopg [15] d.n (fun g ab wr =>∃(k:Nat),k<=d.n/\g=d.n-k/\ab=.int .i64 k/\oZ d.mem (d.n-k) k=oZ d.mem d.n 0/\Bl w1 wr)
  case atStart=>exact⟨0,zU,rfl,rfl,rfl,zS⟩
  case round =>
   obtain⟨k,P,rfl,rfl,i,h⟩:=hrel
   by_cases D:k<d.n
   ·have c:=Bg b o d.n cap k d.mem wr B s D (z.o.later h)
    have M:(k:Int)<(d.n:Int):=ω;have x:=aa i;have E:=aa h;have u:d.n-k=(d.n-(k+1))+1:=ω;have c2:wr.cell? ⟨w.heap.size,2,none⟩=some (.slice (some ⟨b,o,none⟩) d.n cap):=aM h N K;clear i h
    by_cases m:aQ d.mem k=0
    ·rw[m,errV_zero]at c
     have y:=aa m;clear m;go_wp2_with fail;refine c.mono ?_;rintro e w2⟨rfl,j⟩;go_wp2_with fail
     go_roundg (d.n-(k+1))
     case measure=>omega
     case rel=>exact⟨k+1,ω,rfl,by go_num,by rw[←x.o,u,DJ _ y.o],ad E.o j⟩
    rw[ac m]at c;have y:=aa m;clear m;go_wp2_with fail;refine c.mono ?_;rintro e w2⟨rfl,j⟩;go_wp2_with fail
    go_ret2
    refine⟨?_,ad q (ad E.o j)⟩;rw[v.o,←x.o,u,yD _ y.o]
    simp[errV,y.o]
   have C:k=d.n:=ω;have x:=aa i;clear i;subst C;go_wp2_with fail
   go_ret2
   refine⟨?_,ad q h⟩;rw[v.o,←x.o,Nat.sub_self]
   rfl
 rw[ac l]at f;have v:Hid (am d=(-1,bY d)):=uj l;have I:=aa l;clear l
 go_enter func56,ntmps56
 go_wp2_with fail;refine(f _).mono ?_;rintro e w1⟨rfl,a⟩;have q:Bl w w1:=ad (bu w d A cap 67) a;clear a;go_wp2_with fail
 go_ret2
 refine⟨?_,q⟩;rw[v.o]
 simp[errV,I.o]
def vy(w:World)(b o:Nat)(d:Dm)(A:Option Addr)(c:Nat):Prop:=w.cell? ⟨b,o,none⟩=some (.string d.name)/\w.cell? ⟨b,o+1,none⟩=some (.int .i64 d.solve)/\w.cell? ⟨b,o+2,none⟩=some (.slice A d.n c)/\dC w A c d.n d.mem
def eh(w:World)(b o n:Nat)(D:Nat->Dm)(A:Nat->Option Addr)(C:Nat->Nat):Prop:=b<w.heap.size/\∀i,i<n->vy w b (o+i*3) (D i) (A i) (C i)
theorem vy.later{w w':World}{b o:Nat}{d:Dm}{A:Option Addr}{c:Nat}(h:vy w b o d A c)(e:b<w.heap.size)(a:Bl w w'):vy w' b o d A c :=
 ⟨aM a e h.1,aM a e h.2.1,aM a e h.2.2.1,h.2.2.2.later a⟩
theorem eh.later{w w':World}{b o n:Nat}{D:Nat->Dm}{A:Nat->Option Addr}{C:Nat->Nat}(h:eh w b o n D A C)(a:Bl w w'):eh w' b o n D A C :=
 ⟨zW h.1 a.size,fun i c=>(h.2 i c).later h.1 a⟩
theorem eh.less{w:World}{b o n m:Nat}{D:Nat->Dm}{A:Nat->Option Addr}{C:Nat->Nat}(h:eh w b o n D A C)(c:m<=n):eh w b o m D A C:=⟨h.1,fun i a=>h.2 i ω⟩
def Of(q:Nat)(w:World)(n:Nat)(D:Nat->Dm)(A:Nat->Option Addr)(C:Nat->Nat)(p:Nat->Bool):Prop := ∀(i:Nat) (w':World),i<n->Bl w w'->Calls prog 58 #[dw (D i) (A i) (C i),.pointer (some ⟨q,0,none⟩)] w' fun e w''=>e=.returned (.bool (p i))/\Bl w' w''
theorem AH(q b o n cap:Nat)(D:Nat->Dm)(A:Nat->Option Addr)(C:Nat->Nat)(p:Nat->Bool)(w:World)(G:n<=4)(s:eh w b o n D A C)(t:Of q w n D A C p):
  Rt 99 #[.slice (some ⟨b,o,none⟩) n cap,.func (.func 58) #[] #[.pointer (some ⟨q,0,none⟩)]] w (.int .i64 (findFrom p n 0)):=by
 have u:=aa s;have v:=aa t;clear s t
 go_enter func99,ntmps99
 go_wp2_with fail
 go_loopg [8] n (fun g s8 wr =>∃(k:Nat),k<=n/\g=n-k/\s8=.int .i64 k/\findFrom p (n-k) k=findFrom p n 0/\Bl w wr)
 case atStart=>exact⟨0,zU,rfl,rfl,rfl,zS⟩
 case round =>
  obtain⟨k,F,rfl,rfl,j,a⟩:=hrel
  by_cases f:k<n
  ·obtain⟨z,B,E,-⟩:=(u.o.later a).2 k f
   have x:(k:Int)<(n:Int):=ω;have m:=aa j;have r:=aa a;have h:n-k=(n-(k+1))+1:=ω;have c:=v.o k wr f a;unfold dw at c;have y:(n:Int)<=4:=ω;clear j a;cases hb:p k
   ·rw[hb]at c
    have i:=aa hb;clear hb;go_wp2_with fail;refine c.mono ?_;rintro e w1⟨rfl,d⟩;go_wp2_with fail
    go_roundg (n-(k+1))
    case measure=>omega
    case rel=>exact⟨k+1,ω,rfl,by go_num,by rw[←m.o,h,bj _ i.o],ad r.o d⟩
   rw[hb]at c;have i:=aa hb;clear hb;go_wp2_with fail;refine c.mono ?_;rintro e w1⟨rfl,d⟩;go_wp2_with fail;go_ret;exact⟨by rw[←m.o,h,bI _ i.o];rfl,ad r.o d⟩
  have l:k=n:=ω;subst l;go_wp2_with fail;go_ret;exact⟨by rw[←j,Nat.sub_self];rfl,a⟩
theorem sh(q b o n cap:Nat)(D:Nat->Dm)(A:Nat->Option Addr)(C:Nat->Nat)(p:Nat->Bool)(w:World)(f:n<=4)(c:eh w b o n D A C)(d:Of q w n D A C p):
  Rt 57 #[.slice (some ⟨b,o,none⟩) n cap,.func (.func 58) #[] #[.pointer (some ⟨q,0,none⟩)]] w (.bool (decide (0<=findFrom p n 0))):=by
 have h:=AH q b o n cap D A C p w f c d;clear c d
 go_enter func57,ntmps57
 go_wp2_with fail;refine h.mono ?_;rintro e w1⟨rfl,a⟩;go_wp2_with fail;go_ret;exact⟨rfl,a⟩
theorem GO(d:Dm)(A:Option Addr)(c:Nat)(s:ByteArray)(q:Nat)(w:World)(a:q<w.heap.size)(h:w.cell? ⟨q,0,none⟩=some (.string s)):Rt 58 #[dw d A c,.pointer (some ⟨q,0,none⟩)] w (.bool (same d.name s)):=by
 unfold dw
 go_enter func58,ntmps58
 go_wp2_with fail;go_ret;exact⟨by simp[same],by go_grown⟩
theorem ri{D:Nat->Dm}{k:Nat}(h:∀j,j<k->(D j).n<=12)(a:k<=4):prodN D k<=20736:=by
 refine zV (ye h) ?_;exact zV (Nat.pow_le_pow_right ω a) (by decide)
theorem Ei(b o n cap:Nat)(D:Nat->Dm)(A:Nat->Option Addr)(C:Nat->Nat)(w:World)(E:n<=4)(i:∀j,j<n->(D j).n<=12)(h:eh w b o n D A C):Rt 59 #[.agg #[.slice (some ⟨b,o,none⟩) n cap]] w (.int .i64 (prodN D n)):=by
 have l:=aa h;have m:=aa i;clear h i
 go_enter func59,ntmps59
 go_wp2_with fail
 go_loopg [3,9] n (fun g s3 s9 wr =>∃(k:Nat),k<=n/\g=n-k/\s9=.int .i64 k/\s3=.int .i64 (prodN D k)/\Bl w wr)
 case atStart=>exact⟨0,zU,rfl,rfl,rfl,by go_grown⟩
 case round =>
  obtain⟨k,B,rfl,rfl,rfl,a⟩:=hrel
  by_cases e:k<n
  ·obtain⟨v,x,y,-⟩:=(l.o.later a).2 k e
   have r:(k:Int)<(n:Int):=ω;have u:(n:Int)<=4:=ω;have f:prodN D (k+1)<=20736:=ri (fun j z=>m.o j ω) ω
   have c:(prodN D (k+1):Int)=(prodN D k:Int)*((D k).n:Int):=by rw[prodN];exact Int.natCast_mul _ _
   have s:0<=(prodN D k:Int)*((D k).n:Int):=ω;have t:(prodN D k:Int)*((D k).n:Int)<=20736:=ω;have q:=aa a;have p:=aa c;clear a f c;go_wp2_with fail
   go_roundg (n-(k+1))
   case measure=>omega
   case rel=>exact⟨k+1,ω,rfl,by go_num,by rw[p.o],ad q.o γ⟩
  have d:k=n:=ω;subst d;go_wp2_with fail;go_ret;exact⟨rfl,a⟩
def Tr(M:Nat->Mem)(n:Nat):Prop := ∀k,k<n->-1<=(M k).parent/\(M k).parent<(k:Int)
def Sg(M:Nat->Mem)(n:Nat):Prop := ∀k,k<n->-1<=(M k).sign/\(M k).sign<=1
theorem oj{M:Nat->Mem}{i:Nat}(h:aQ M i=0):(-1<=(M i).parent/\(M i).parent<(i:Int))/\(-1<=(M i).sign/\(M i).sign<=1)/\(0<=(M i).parent->(M (M i).parent.toNat).formula.size=0):=by
 unfold aQ at h
 split at h
 ·simp at h
 split at h
 ·simp at h
 split at h
 ·simp at h
 split at h
 ·simp at h
 split at h
 ·simp at h
 rename_i h1 h2 h3 h4 h5
 refine⟨ω,ω,fun a=>?_⟩
 exact Decidable.byContradiction fun b=>h4 ⟨a,b⟩
theorem Tr.of{d:Dm}(h:(am d).2=0):Tr d.mem d.n:=fun k a=>(oj ((aq h).2.2.2 k a)).1
theorem Sg.of{d:Dm}(h:(am d).2=0):Sg d.mem d.n:=fun k a=>(oj ((aq h).2.2.2 k a)).2.1
def selTo(p:Nat->Bool):Nat->List Int
 | 0=>[]
 |k+1=>selTo p k++(if p k=true then[(k:Int)]else[])
theorem F5{p:Nat->Bool}{k:Nat}(h:p k=true):selTo p (k+1)=selTo p k++[(k:Int)]:=by simp[selTo,h]
theorem Cc{p:Nat->Bool}{k:Nat}(h:p k=false):selTo p (k+1)=selTo p k:=by simp[selTo,h]
theorem ea(p:Nat->Bool)(k:Nat):(selTo p k).length<=k:=by
 induction k with
 |zero=>exact zT
 |succ k ih=>rw[selTo,List.length_append];split<;>simp<;>omega
theorem dy{p:Nat->Bool}{k:Nat}:∀j∈selTo p k,∃m:Nat,j=m/\m<k/\p m=true:=by
 induction k with
 |zero=>intro j a;cases a
 |succ k ih =>
  intro j a;rw[selTo,List.mem_append]at a
  rcases a with a|a
  ·obtain⟨m,b,d,c⟩:=ih j a;exact⟨m,b,ω,c⟩
  split at a
  ·rename_i hp;simp at a;exact⟨k,a,ω,hp⟩
  cases a
def bD(M:Nat->Mem)(i:Int)(k:Nat):Bool:=(M k).parent ==i
def leafB(M:Nat->Mem)(n k:Nat):Bool:=decide ((M k).formula.size=0)&& !decide (0<=findFrom (bD M k) n 0)
def o9(L:List Int)(i:Int):Bool:=decide (i∈L)
def gb(M:Nat->Mem)(n:Nat)(i:Int):List Int:=selTo (bD M i) n
theorem Lq(L:List Int)(i:Int):decide (0<=findFrom (fun j=>L.getD j 0 ==i) L.length 0)=o9 L i:=by
 unfold o9;rw[decide_eq_decide]
 rcases findFrom_cases (fun j=>L.getD j 0 ==i) L.length 0 with⟨a,d⟩|⟨k,a,_,g,b,_⟩
 ·rw[a]
  constructor
  ·intro h;omega
  intro h;obtain⟨j,f,e⟩:=List.getElem_of_mem h;have:=d j zU ω
  simp[List.getD,zX f,e]at this
 rw[a]
 constructor
 ·intro _
  have c:k<L.length:=ω;simp[List.getD,zX c]at b
  rw[←b];exact List.getElem_mem c
 intro _;omega
def ro(n:Nat)(L:List Int):Int:=if 0<=findFrom (fun j=>decide (L.getD j 0<0)||decide ((n:Int)<=L.getD j 0)) L.length 0 then 1 else 0
def treeErr(d:Dm)(L:List Int):Int:=if(am d).2≠0 then(am d).2 else ro d.n L
theorem yS{d:Dm}{L:List Int}(h:(am d).2≠0):treeErr d L=(am d).2:=by unfold treeErr;rw[if_pos h]
theorem ib{d:Dm}{i:Int}(h:(am d).2=0):treeErr d [i]=if i<0\/(d.n:Int)<=i then 1 else 0:=by
 unfold treeErr ro;rw[if_neg (by simpa using h)]
 by_cases a:i<0\/(d.n:Int)<=i
 ·rw[if_pos a];simp[findFrom,a]
 rw[if_neg a];simp[findFrom,a]
structure Nd where
 op:Int
 n:Int
 name:ByteArray
 left:Int
 right:Int
def bT:Nd:=⟨0,0,⟨#[]⟩,0,0⟩
def ndErr(x:Nd)(i:Nat):Int :=
 if x.op<1\/6<x.op then 1
 else if x.op=1 then(if x.n<0\/1000000<x.n then 1 else if x.name.size≠0\/x.left≠0\/x.right≠0 then 3 else 0)
 else if x.op=2 then(if nameErr x.name≠0 then 2 else if x.n≠0\/x.left≠0\/x.right≠0 then 3 else 0)
 else if x.left<0\/(i:Int)<=x.left\/x.right<0\/(i:Int)<=x.right then 1
 else if x.n≠0\/x.name.size≠0 then 3 else 0
def uses(x:Nd)(k:Nat):Nat:=if 2<x.op then(if x.left=(k:Int)then 1 else 0)+(if x.right=(k:Int)then 1 else 0)else 0
def usedTo(l:List Nd):Nat->Nat->Nat
 | 0,_=>0
 |i+1,k=>usedTo l i k+uses (l.getD i bT) k
def ig(l:List Nd)(i:Nat):Bool:=decide (ndErr (l.getD i bT) i≠0)
def ma(l:List Nd)(i:Nat):Bool:=decide (usedTo l l.length i≠1)
def ax(l:List Nd):Int :=
 if l.length=0 then 5
 else if 30<l.length then 4
 else if 0<=findFrom (ig l) l.length 0 then ndErr (l.getD (findFrom (ig l) l.length 0).toNat bT) (findFrom (ig l) l.length 0).toNat
 else if 0<=findFrom (ma l) (l.length-1) 0 then 3 else 0
section
variable {l:List Nd} {i:Nat}
theorem mX(h:l.length=0):ax l=5:=by simp[ax,h]
theorem tb(h:30<l.length):ax l=4:=by
 have a:l.length≠0:=ω;rw[ax,if_neg a,if_pos h]
theorem wQ(h:l.length<=30)(e:i<l.length)(c:ig l i=true)(b:∀j,j<i->ig l j=false):ax l=ndErr (l.getD i bT) i:=by
 have h1 :¬l.length=0:=ω;have h2 :¬ 30<l.length:=ω;have a:findFrom (ig l) l.length 0=(i:Int):=fN zU ω c (fun j _ d=>b j d)
 rw[ax,if_neg h1,if_neg h2,a,if_pos ω]
 simp
theorem wR(b:l.length≠0)(h:l.length<=30)(f:∀j,j<l.length->ig l j=false)(g:i<l.length-1)(a:ma l i=true):ax l=3:=by
 have h2 :¬ 30<l.length:=ω;have c:findFrom (ig l) l.length 0 = -1:=aN (fun j _ k=>f j ω)
 rw[ax,if_neg b,if_neg h2,c,if_neg ω]
 rcases findFrom_cases (ma l) (l.length-1) 0 with⟨_,d⟩|⟨m,e,_⟩
 ·rw[d i zU ω]at a;cases a
 rw[e,if_pos ω]
theorem td(a:l.length≠0)(h:l.length<=30)(d:∀j,j<l.length->ig l j=false)(f:∀j,j<l.length-1->ma l j=false):ax l=0:=by
 have h2 :¬ 30<l.length:=ω;have b:findFrom (ig l) l.length 0 = -1:=aN (fun j _ e=>d j ω)
 have c:findFrom (ma l) (l.length-1) 0 = -1:=aN (fun j _ e=>f j ω)
 rw[ax,if_neg a,if_neg h2,b,if_neg ω,c,if_neg ω]
theorem dH(h:ax l=0):0<l.length/\l.length<=30/\(∀j,j<l.length->ndErr (l.getD j bT) j=0)/\∀j,j<l.length-1->usedTo l l.length j=1:=by
 by_cases b:l.length=0
 ·rw[mX b]at h;cases h
 by_cases e:30<l.length
 ·rw[tb e]at h;cases h
 refine⟨ω,ω,?_⟩
 rcases findFrom_cases (ig l) l.length 0 with⟨_,f⟩|⟨m,_,_,i,c,g⟩
 ·have d:∀j,j<l.length->ig l j=false:=fun j a=>f j zU ω
  refine⟨fun j a=>by simpa [ig]using d j a,fun j a=>?_⟩
  rcases Bool.eq_false_or_eq_true (ma l j)with ho|ho
  ·rw[wR b ω d a ho]at h;cases h
  simpa [ma]using ho
 rw[wQ ω ω c (fun j a=>g j zU a)]at h
 exact absurd h (of_decide_eq_true c)
end
def jD(N:List (List Int))(i:Int):List Int:=N.getD i.toNat []
def rZ(N:List (List Int)):Prop := ∀(i:Nat),i<N.length->∀x∈N.getD i [],0<=x/\x<(N.length:Int)
theorem rZ.at{N:List (List Int)}(h:rZ N){a:Int}(c:0<=a)(d:a<(N.length:Int)){x:Int}(b:x∈jD N a):0<=x/\x<(N.length:Int):=h a.toNat ω x b
inductive Rch(N:List (List Int)):Int->Int->Prop
 |one {a b:Int}:b∈jD N a->Rch N a b
 |more {a b c:Int}:b∈jD N a->Rch N b c->Rch N a c
theorem Rch.trans{N:List (List Int)}{a b c:Int}(h:Rch N a b)(k:Rch N b c):Rch N a c:=by
 induction h with
 |one h=>exact .more h k
 |more h _ ih=>exact .more h (ih k)
theorem Rch.snoc{N:List (List Int)}{a b c:Int}(h:Rch N a b)(k:c∈jD N b):Rch N a c:=h.trans (.one k)
theorem Rch.inn{N:List (List Int)}(e:rZ N){a b:Int}(h:Rch N a b):0<=a->a<(N.length:Int)->0<=b/\b<(N.length:Int):=by
 induction h with
 |one h=>exact fun c d=>e.at c d h
 |more h _ ih=>exact fun c d=>let⟨x,y⟩:=e.at c d h;ih x y
theorem Rch.closed{N:List (List Int)}{S:Int->Prop}{a b:Int}(h:Rch N a b):(∀x∈jD N a,S x)->(∀x,S x->∀y∈jD N x,S y)->S b:=by
 induction h with
 |one h=>exact fun c _=>c _ h
 |more h _ ih=>exact fun c d=>ih (fun x e=>d _ (c _ h) x e) d
noncomputable def cycB(N:List (List Int))(i:Nat):Bool := @decide (Rch N i i) (Classical.propDecidable _)
theorem cyc_iff{N:List (List Int)}{i:Nat}:cycB N i=true↔Rch N i i:=by
 unfold cycB;exact @decide_eq_true_iff _ (Classical.propDecidable _)
theorem ui{N:List (List Int)}{i:Nat}:cycB N i=false↔¬Rch N i i:=by
 rw[←cyc_iff];cases cycB N i<;>simp
theorem few(n:Nat):∀(L:List Int),L.Nodup->(∀x∈L,0<=x/\x<(n:Int))->L.length<=n:=by
 induction n with
 |zero =>
  intro L _ h;cases L with
  |nil=>exact zT
  |cons x r=>have:=h x σ;omega
 |succ n ih =>
  intro L b h;have e:=ih (L.erase (n:Int)) (b.erase _) fun x d=>by
   have a:=(b.mem_erase_iff.1 d);have:=h x a.2;have:=a.1
   omega
  have f:L.length<=(L.erase (n:Int)).length+1:=by
   by_cases c:(n:Int)∈L
   ·rw[List.length_erase_of_mem c];omega
   rw[List.erase_of_not_mem c];omega
  omega
def uJ(N:List (List Int))(out:List Int)(i:Nat):Bool := !(out.contains (i:Int))&&(N.getD i []).all fun x=>out.contains x
def ow(N:List (List Int))(out:List Int):Int:=findFrom (uJ N out) N.length 0
def av(N:List (List Int)):Nat->List Int
 | 0=>[]
 |k+1=>av N k++(if 0<=ow N (av N k)then[ow N (av N k)]else[])
theorem nh{N:List (List Int)}{aa:List Int}(h:0<=ow N aa):∃k:Nat,ow N aa=(k:Int)/\k<N.length/\uJ N aa k=true/\∀j,j<k->uJ N aa j=false:=by
 unfold ow at *
 rcases findFrom_cases (uJ N aa) N.length 0 with⟨a,_⟩|⟨k,a,_,e,b,c⟩
 ·omega
 exact⟨k,a,ω,b,fun j d=>c j zU d⟩
theorem fV{N:List (List Int)}{aa:List Int}{k:Nat}(h:uJ N aa k=true):(k:Int)∉aa/\∀x∈N.getD k [],x∈aa:=by
 unfold uJ at h;simp only[Bool.and_eq_true,Bool.not_eq_true',List.all_eq_true]at h;refine⟨fun a=>?_,fun x b=>?_⟩
 ·have:=h.1
  rw[←Bool.not_eq_true,List.contains_iff_mem]at this;exact this a
 exact List.contains_iff_mem.1 (h.2 x b)
theorem xM{N:List (List Int)}{aa:List Int}{k:Nat}(a:(k:Int)∉aa)(b:∀x∈N.getD k [],x∈aa):uJ N aa k=true:=by
 unfold uJ;simp only[Bool.and_eq_true,Bool.not_eq_true',List.all_eq_true];refine⟨?_,fun x c=>List.contains_iff_mem.2 (b x c)⟩
 rw[←Bool.not_eq_true,List.contains_iff_mem];exact a
theorem qV(N:List (List Int))(k:Nat):(av N k).Nodup/\(∀x∈av N k,0<=x/\x<(N.length:Int)):=by
 induction k with
 |zero=>exact⟨List.nodup_nil,fun x c=>by cases c⟩
 |succ k ih =>
  rw[av]
  split
  ·rename_i h
   obtain⟨m,d,j,f,-⟩:=nh h;rw[d];refine⟨?_,fun x c=>?_⟩
   ·rw[List.nodup_append]
    refine⟨ih.1,by simp,fun a g b i=>?_⟩
    rw[List.mem_singleton.1 i];intro e;exact(fV f).1 (e ▸ g)
   rcases List.mem_append.1 c with c|c
   ·exact ih.2 x c
   rw[List.mem_singleton.1 c];omega
  rw[List.append_nil];exact ih
theorem way{N:List (List Int)}{aa:List Int}(s:rZ N)(n:∀i:Nat,i<N.length->uJ N aa i=false){a:Nat}(v:a<N.length)(l:(a:Int)∉aa)(k:Nat):
  (∃i:Nat,i<N.length/\Rch N i i)\/∃(P:List Int) (x:Int),x∈P/\P.length=k+1/\P.Nodup/\(∀y∈P,0<=y/\y<(N.length:Int)/\y∉aa)/\∀y∈P,y=x\/Rch N y x:=by
 induction k with
 |zero=>exact Or.inr ⟨[(a:Int)],a,by simp,rfl,by simp,fun y f=>by rw[List.mem_singleton.1 f];exact⟨ω,ω,l⟩,fun y f=>Or.inl (List.mem_singleton.1 f)⟩
 |succ k ih =>
  rcases ih with h|⟨P,x,af,ab,ae,ac,ad⟩
  ·exact Or.inl h
  obtain⟨o,p,q⟩:=ac x af;obtain⟨m,rfl⟩:∃m:Nat,x=m:=⟨x.toNat,ω⟩
  have c:=n m ω
  obtain⟨y,f,r⟩:∃y∈N.getD m [],y∉aa:=by
   refine Classical.byContradiction fun t=>?_
   rw[xM q fun x u=>Classical.byContradiction fun h=>t ⟨x,u,h⟩]at c
   cases c
  have d:y∈jD N (m:Int):=by unfold jD;simpa using f
  have j:=s.at o p d
  by_cases g:y∈P
  ·refine Or.inl ⟨m,ω,?_⟩
   rcases ad y g with e|e
   ·exact .one (e ▸ d)
   exact .more d e
  refine Or.inr ⟨y :: P,y,by simp,by simp[ab],List.nodup_cons.2 ⟨g,ae⟩,fun z b=>?_,fun z b=>?_⟩
  ·rcases List.mem_cons.1 b with rfl|b
   ·exact⟨j.1,j.2,r⟩
   exact ac z b
  rcases List.mem_cons.1 b with rfl|b
  ·exact Or.inl rfl
  rcases ad z b with e|e
  ·exact Or.inr (.one (e ▸ d))
  exact Or.inr (e.snoc d)
theorem qJ{N:List (List Int)}(B:rZ N)(D:∀i:Nat,i<N.length->cycB N i=false){k:Nat}(I:k<N.length)(J:(av N k).length=k):0<=ow N (av N k):=by
 unfold ow
 rcases findFrom_cases (uJ N (av N k)) N.length 0 with⟨_,A⟩|⟨m,G,_⟩
 ·exfalso
  have q:∀i:Nat,i<N.length->uJ N (av N k) i=false:=fun i t=>A i zU ω
  obtain⟨a,c,o⟩:∃a:Nat,a<N.length/\(a:Int)∉av N k:=by
   refine Classical.byContradiction fun E=>?_
   have d:∀a:Nat,a<N.length->(a:Int)∈av N k:=fun a c=>Classical.byContradiction fun h=>E ⟨a,c,h⟩
   have j:(List.range N.length).map (fun a:Nat=>(a:Int)) ⊆ av N k:=fun x n=>by
    obtain⟨a,c,rfl⟩:=List.mem_map.1 n;exact d a (List.mem_range.1 c)
   have g:∀(X Y:List Int),X.Nodup->X ⊆ Y->X.length<=Y.length:=by
    intro X
    induction X with
    |nil=>intro Y _ _;exact zU
    |cons x r ih =>
     intro Y C u;have n:=List.nodup_cons.1 C;have l:x∈Y:=u σ
     have:=ih (Y.erase x) n.2 fun z w=>(List.mem_erase_of_ne (fun e:z=x=>n.1 (by rw[←e];exact w))).2 (u (List.mem_cons_of_mem _ w))
     rw[List.length_erase_of_mem l]at this;have:=List.length_pos_of_mem l;simp only[List.length_cons]
     omega
   have s:(List.range N.length).Pairwise (fun a b=>a≠b):=List.nodup_range
   have:=g _ _ (show List.Pairwise (fun a b=>a≠b) _ from List.pairwise_map.2 (s.imp fun{a b:Nat} (h:a≠b) (e:(a:Int)=(b:Int))=>h ω)) j
   rw[List.length_map,List.length_range]at this
   omega
  rcases way B q c o N.length with⟨i,t,F⟩|⟨P,x,_,H,p,f,_⟩
  ·exact(ui.1 (D i t)) F
  have:=few N.length P p fun y v=>⟨(f y v).1,(f y v).2.1⟩
  omega
 omega
theorem d8{N:List (List Int)}(a:rZ N)(b:∀i:Nat,i<N.length->cycB N i=false)(k:Nat)(c:k<=N.length):(av N k).length=k:=by
 induction k with
 |zero=>rfl
 |succ k ih =>
  have h:=ih ω
  rw[av,if_pos (qJ a b ω h),List.length_append,h]
  rfl
theorem qW{N:List (List Int)}(b:rZ N)(c:∀i:Nat,i<N.length->cycB N i=false){k:Nat}(g:k<N.length):∃m:Nat,ow N (av N k)=(m:Int)/\m<N.length/\uJ N (av N k) m=true/\(∀j,j<m->uJ N (av N k) j=false)/\av N (k+1)=av N k++[(m:Int)]:=by
 have h:=qJ b c g (d8 b c k ω)
 obtain⟨m,a,d,e,f⟩:=nh h;exact⟨m,a,d,e,f,by rw[av,if_pos h,a]⟩
theorem xU{N:List (List Int)}(a:rZ N)(b:∀i:Nat,i<N.length->cycB N i=false){k:Nat}(n:Nat)(f:k<=n)(d:n<=N.length):(av N n).take k=av N k:=by
 induction n with
 |zero =>
  have:k=0:=ω;subst this
  rfl
 |succ n ih =>
  by_cases e:k=n+1
  ·subst e
   exact List.take_of_length_le (by rw[d8 a b _ d];exact zT)
  obtain⟨m,_,_,_,_,c⟩:=qW a b (k:=n) ω
  rw[c,List.take_append_of_le_length (by rw[d8 a b n ω];omega)]
  exact ih ω ω
theorem Bt{N:List (List Int)}(a:rZ N)(b:∀i:Nat,i<N.length->cycB N i=false){k:Nat}(h:k<N.length):∃m:Nat,(av N N.length).getD k 0=(m:Int)/\m<N.length/\(m:Int)∉(av N N.length).take k/\(∀x∈N.getD m [],x∈(av N N.length).take k)/\(av N N.length).take (k+1)=(av N N.length).take k++[(m:Int)]:=by
 obtain⟨m,_,g,e,_,f⟩:=qW a b h;have c:=xU a b (k:=k) N.length ω zT
 have d:=xU a b (k:=k+1) N.length ω zT
 refine⟨m,?_,g,by rw[c];exact(fV e).1,by rw[c];exact(fV e).2,by rw[c,d,f]⟩
 have j:=d8 a b N.length zT;have:((av N N.length).take (k+1)).getD k 0=(m:Int):=by
  rw[d,f,zZ,List.getElem?_append_right (by rw[d8 a b k ω];exact zT),d8 a b k ω]
  simp
 rw[zZ,List.getElem?_take_of_lt ω]at this
 rw[zZ];exact this
theorem mu:∀(L K:List Int),L.Pairwise (· < ·)->K.Pairwise (· < ·)->(∀x,x∈L↔x∈K)->L=K
 | [],[],_,_,_=>rfl
 | [],y :: K,_,_,h=>by have:=(h y).2 σ;cases this
 |x :: L,[],_,_,h=>by have:=(h x).1 σ;cases this
 |x :: L,y :: K,hL,hK,h=>by
  have b:=List.pairwise_cons.1 hL;have a:=List.pairwise_cons.1 hK;have e:x=y:=by
   rcases List.mem_cons.1 ((h x).1 σ)with e|e
   ·exact e
   rcases List.mem_cons.1 ((h y).2 σ)with e2|e2
   ·exact e2.symm
   have:=b.1 _ e2;have:=a.1 _ e
   omega
  subst e
  congr 1
  refine mu L K b.2 a.2 fun z=>⟨fun c=>?_,fun c=>?_⟩
  ·rcases List.mem_cons.1 ((h z).1 (List.mem_cons_of_mem _ c))with e|e
   ·have:=b.1 z c;omega
   exact e
  rcases List.mem_cons.1 ((h z).2 (List.mem_cons_of_mem _ c))with e|e
  ·have:=a.1 z c;omega
  exact e
theorem gK(p:Nat->Bool)(k:Nat):(selTo p k).Pairwise (· < ·):=by
 induction k with
 |zero=>exact List.Pairwise.nil
 |succ k ih =>
  rw[selTo,List.pairwise_append];refine⟨ih,?_,fun a d b c=>?_⟩
  ·split<;>simp
  obtain⟨m,e,f,-⟩:=dy a d
  split at c
  ·rw[List.mem_singleton.1 c];omega
  cases c
theorem ks{p:Nat->Bool}{k m:Nat}(h:m<k)(a:p m=true):(m:Int)∈selTo p k:=by
 induction k with
 |zero=>omega
 |succ k ih =>
  rw[selTo,List.mem_append]
  by_cases e:m=k
  ·subst e;exact Or.inr (by rw[if_pos a];simp)
  exact Or.inl (ih ω)
theorem ve(p q:Nat->Bool)(f:Int->Bool)(k:Nat)(h:∀j,j<k->(q j=true↔p j=true/\f (j:Int)=true)):(selTo p k).filter f=selTo q k:=by
 induction k with
 |zero=>rfl
 |succ k ih =>
  rw[selTo,selTo,List.filter_append,ih fun j d=>h j ω]
  congr 1
  have c:=h k ω
  by_cases a:p k=true
  ·by_cases b:f (k:Int)=true
   ·rw[if_pos a,if_pos (c.2 ⟨a,b⟩)];simp[b]
   rw[if_pos a,if_neg fun e=>b (c.1 e).2];simp[b]
  rw[if_neg a,if_neg fun e=>a (c.1 e).1];rfl
theorem B6{L:List Int}(h:L.Pairwise (· < ·)):L.Nodup:=h.imp fun h e=>ω
def pI(fn:Nat)(x y:Int)(r:Int×Int):Prop := ∀(w:World),Calls prog fn #[.int .i64 x,.int .i64 y] w fun e w'=>e=.returned (.agg #[.int .i64 r.1,.int .i64 r.2])/\Bl w w'
theorem fl{W w1:World}{n:Nat}(a:Below n W w1):W.heap.size<=w1.heap.size:=a.size
theorem Jz(x y:Int)(c : -1000000000000<=x)(d:x<=1000000000000)(f : -1000000000000<=y)(g:y<=1000000000000):pI 218 x y (iI (x+y)):=by
 intro w
 go_enter func218,ntmps218
 go_wp2_with (go_at_call 18;refine(jk _ _).mono ?_;rintro e w1⟨rfl,a⟩;obtain⟨b,i⟩:=fk a;have h:=fl a;simp at h)
 refine bodyPost_ret (v:=.agg #[.int .i64 (iI (x+y)).1,.int .i64 (iI (x+y)).2]) (by simp[results,results218,go_sem,b]) rfl ⟨rfl,?_⟩
 exact(((((zS).alloc zT _).trans (a.mono σ)).setCell σ _).setCell σ _)
theorem Ff(x y:Int)(c : -1000000000000<=x)(d:x<=1000000000000)(f : -1000000000000<=y)(g:y<=1000000000000):pI 217 x y (iI (x-y)):=by
 intro w
 go_enter func217,ntmps217
 go_wp2_with (go_at_call 18;refine(jk _ _).mono ?_;rintro e w1⟨rfl,a⟩;obtain⟨b,i⟩:=fk a;have h:=fl a;simp at h)
 refine bodyPost_ret (v:=.agg #[.int .i64 (iI (x-y)).1,.int .i64 (iI (x-y)).2]) (by simp[results,results217,go_sem,b]) rfl ⟨rfl,?_⟩
 exact(((((zS).alloc zT _).trans (a.mono σ)).setCell σ _).setCell σ _)
def ab(n:Int):Int:=if n<0 then -n else n
theorem GM(x y:Int):ab (x*y)=ab x*ab y:=by
 unfold ab
 by_cases a:x<0 <;>by_cases b:y<0
 ·rw[if_neg (Int.not_lt.mpr (Int.le_of_lt (Int.mul_pos_of_neg_of_neg a b))),if_pos a,if_pos b,Int.neg_mul_neg]
 ·by_cases c:y=0
  ·subst c;simp
  rw[if_pos (Int.mul_neg_of_neg_of_pos a ω),if_pos a,if_neg b,Int.neg_mul]
 ·by_cases c:x=0
  ·subst c;simp
  rw[if_pos (Int.mul_neg_of_pos_of_neg ω b),if_neg a,if_pos b,Int.mul_neg]
 rw[if_neg (Int.not_lt.mpr (Int.mul_nonneg ω ω)),if_neg a,if_neg b]
theorem MU{n m:Int}(h:ab n<=m): -m<=n/\n<=m:=by unfold ab at h;split at h<;>omega
theorem M5{n m:Int}(h:m<ab n):n < -m\/m<n:=by unfold ab at h;split at h<;>omega
theorem GL{n m:Int}(a : -m<=n)(b:n<=m):0<=ab n/\ab n<=m:=by unfold ab;split<;>omega
theorem M6{n:Int}(h :¬n=0):1<=ab n:=by unfold ab;split<;>omega
theorem yJ(n:Int)(w:World)(a : -1000000000000<=n)(b:n<=1000000000000):Calls prog 318 #[.int .i64 n] w fun e w'=>e=.returned (.int .i64 (ab n))/\w'=w:=by
 unfold ab
 by_cases h:n<0
 ·rw[if_pos h]
  go_enter func318,ntmps318
  go_wp2;go_ret;exact⟨by first|rfl|(show Ending.returned (Value.int .i64 (max n (-n)))=_;congr 2;omega)|(congr 2;omega),rfl⟩
 rw[if_neg h]
 go_enter func318,ntmps318
 go_wp2;go_ret;exact⟨by first|rfl|(show Ending.returned (Value.int .i64 (max n (-n)))=_;congr 2;omega)|(congr 2;omega),rfl⟩
def JE(x y:Int):Int×Int:=if y=0 then(2,0)else iI (x.tdiv y)
theorem MF(x y:Int):ab (x.tdiv y)<=ab x:=by
 have h:=Int.natAbs_tdiv_le_natAbs x y;unfold ab
 split<;>split<;>omega
theorem JF(x y:Int)(g :¬y=0):pI 290 x y (iI (wrap64 (x.tdiv y))):=by
 intro w;have c:(y == 0)=false:=by simp;omega
 go_enter func290,ntmps290
 go_wp2_with (go_at_call 18;refine(jk _ _).mono ?_;rintro e w1⟨rfl,a⟩;obtain⟨b,f⟩:=fk a;have d:=fl a;simp at d)
 refine bodyPost_ret (v:=.agg #[.int .i64 (iI (wrap64 (x.tdiv y))).1,.int .i64 (iI (wrap64 (x.tdiv y))).2]) (by simp[results,results290,go_sem,b]) rfl ⟨rfl,?_⟩
 exact(((((zS).alloc zT _).trans (a.mono σ)).setCell σ _).setCell σ _)
theorem uZ(x y:Int)(a : -1000000000000<=x)(b:x<=1000000000000):pI 290 x y (JE x y):=by
 unfold JE
 by_cases c:y=0
 ·subst c
  rw[if_pos rfl];intro w
  go_enter func290,ntmps290
  go_wp2;go_returns;exact⟨rfl,by go_grown⟩
 rw[if_neg c];have d:=JF x y c;have f:=MU (Int.le_trans (MF x y) (GL a b).2);have e:wrap64 (x.tdiv y)=x.tdiv y:=by unfold wrap64;omega
 rw[e]at d;exact d
theorem yh(x y:Int)(b : -1000000000000<=x)(c:x<=1000000000000)(d : -1000000000000<=y)(f:y<=1000000000000):pI 289 x y (iI (x*y)):=by
 intro w
 by_cases r:y=0
 ·subst r
  have n:iI (x*0)=(1,0):=by rw[Int.mul_zero];exact uG ω ω
  rw[n];have l:=jk 0;rw[uG ω ω]at l
  go_enter func289,ntmps289
  go_wp2_with (go_at_call 18;refine(l _).mono ?_;rintro e w1⟨rfl,a⟩;obtain⟨o,t⟩:=fk a;have p:=fl a;simp at p)
  refine bodyPost_ret (v:=.agg #[.int .i64 1,.int .i64 0]) (by simp[results,results289,go_sem,o]) rfl ⟨rfl,?_⟩
  exact(((((zS).alloc zT _).trans (a.mono σ)).setCell σ _).setCell σ _)
 have A:(y != 0)=true:=by simp;omega
 obtain⟨aa,ac⟩:=GL b c;obtain⟨_,ad⟩:=GL d f;have s:=M6 r;have j:=yJ x;have k:=yJ y
 by_cases q:1000000000000 / ab y<ab x
 ·have i:iI (x*y)=(2,0):=by
   refine uH (M5 (m:=1000000000000) ?_);rw[GM];exact(Int.ediv_lt_iff_lt_mul ω).mp q
  rw[i]
  go_enter func289,ntmps289
  go_wp2_with fail;refine(j _ b c).mono ?_;rintro e w1⟨rfl,rfl⟩;go_wp2_with fail;refine(k _ d f).mono ?_;rintro e w1⟨rfl,rfl⟩;go_wp2;go_returns;exact⟨rfl,by go_grown⟩
 have g:ab (x*y)<=1000000000000:=by
  rw[GM];exact Int.not_lt.mp (fun h=>q ((Int.ediv_lt_iff_lt_mul ω).mpr h))
 obtain⟨u,z⟩:=MU g;have l:=jk (x*y);clear g
 go_enter func289,ntmps289
 go_wp2_with fail;refine(j _ b c).mono ?_;rintro e w1⟨rfl,rfl⟩;go_wp2_with fail;refine(k _ d f).mono ?_;rintro e w1⟨rfl,rfl⟩;go_wp2_with fail;refine(l _).mono ?_;rintro e w1⟨rfl,a⟩;obtain⟨o,t⟩:=fk a;have p:=fl a
 simp at p
 go_wp2_with fail;refine bodyPost_ret (v:=.agg #[.int .i64 (iI (x*y)).1,.int .i64 (iI (x*y)).2]) (by simp[results,results289,go_sem,o]) rfl ⟨rfl,?_⟩
 exact(((((zS).alloc zT _).trans (a.mono σ)).setCell σ _).setCell σ _)
def one(b:Bool):Nat:=if b=true then 1 else 0
end Go.Proofs.YtjfampgnhccodaaGreatDoor
