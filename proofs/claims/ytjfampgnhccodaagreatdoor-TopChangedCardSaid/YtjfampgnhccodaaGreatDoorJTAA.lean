/- What package outline t -/
import Derived.Test.YtjfampgnhccodaaGreatDoorProg
import Derived.WalkKit
import Derived.ProofKit
import Derived.OpenShut
import Derived.Handy
import Derived.Outline
import Derived.Laws.IdiomStrings
import Derived.Deep.LoopGhost
namespace Go.Proofs.YtjfampgnhccodaaGreatDoor
open Tryz ChangeShapes WideShapes ChangeAt RowKit
set_option maxRecDepth 99999
set_option maxHeartbeats 0
theorem ω{p:Prop}(h:p:=by omega):p:=h
theorem σ{p:Prop}(h:p:=by simp):p:=h
theorem γ{p:Prop}(h:p:=by go_grown):p:=h
theorem κ{p:Prop}(h:p:=by kernel_rfl):p:=h
theorem _root_.Go.RowKit.Hid.o{p:Prop}(h:Hid p):p:=h
abbrev Bl(w w':World):Prop:=Below w.heap.size w w'
theorem aa{p:Prop}(h:p):Hid p:=h
theorem ar{α:Sort _}(a:α):∃b,a=b:=⟨a,rfl⟩
theorem aM{N:Nat}{w w':World}{b o:Nat}{v:Option Value}(h:Below N w w')(a:b<N)(c:w.cell? ⟨b,o,none⟩=v):w'.cell? ⟨b,o,none⟩=v:=(h.cell (p:=⟨b,o,none⟩) a).trans c
theorem zZ{α:Type _}{l:List α}{i:Nat}{a:α}:l.getD i a=(l[i]?).getD a:=List.getD_eq_getElem?_getD
theorem zY{α:Type _}{l:Array α}{i:Nat}{a:α}(h:l[i]?=some a):∃h:i<l.size,l[i]=a:=Array.getElem?_eq_some_iff.1 h
theorem zX{α:Type _}{l:List α}{i:Nat}(h:i<l.length):l[i]?=some l[i]:=List.getElem?_eq_getElem h
theorem zW{n m k:Nat}(h:n<m)(g:m<=k):n<k:=Nat.lt_of_lt_of_le h g
theorem zV{n m k:Nat}(h:n<=m)(g:m<=k):n<=k:=Nat.le_trans h g
theorem zU{n:Nat}:0<=n:=Nat.zero_le n
theorem zT{n:Nat}:n<=n:=Nat.le_refl n
theorem zS{n:Nat}{w:World}:Below n w w:=Below.refl _ _
abbrev Rt(F:Nat)(a:Array Value)(w:World)(v:Value):Prop:=Calls prog F a w fun e w'=>e=.returned v/\Bl w w'
structure Mem where
 name:ByteArray
 parent:Int
 sign:Int
 formula:ByteArray
structure Dm where
 name:ByteArray
 solve:Int
 n:Nat
 mem:Nat->Mem
def findFrom(p:Nat->Bool):Nat->Nat->Int
 | 0,_ => -1
 |r+1,i=>if p i then(i:Int)else findFrom p r (i+1)
theorem bI{p:Nat->Bool}{i:Nat}(r:Nat)(h:p i=true):findFrom p (r+1) i=(i:Int):=by simp[findFrom,h]
theorem bj{p:Nat->Bool}{i:Nat}(r:Nat)(h:p i=false):findFrom p (r+1) i=findFrom p r (i+1):=by simp[findFrom,h]
theorem findFrom_cases(p:Nat->Bool)(r:Nat):∀i,(findFrom p r i = -1/\∀j,i<=j->j<i+r->p j=false)\/∃k:Nat,findFrom p r i=(k:Int)/\i<=k/\k<i+r/\p k=true/\∀j,i<=j->j<k->p j=false:=by
 induction r with
 |zero=>exact fun i=>Or.inl ⟨rfl,fun j a b=>ω⟩
 |succ r ih =>
  intro i;cases hp:p i with
  |true=>exact Or.inr ⟨i,bI r hp,zT,ω,hp,fun j a b=>ω⟩
  |false =>
   rw[bj r hp]
   rcases ih (i+1)with⟨a,b⟩|⟨k,a,b,d,c,e⟩
   ·refine Or.inl ⟨a,fun j d c=>?_⟩
    rcases Nat.lt_or_ge i j with h|h
    ·exact b j h ω
    rw[show j=i by omega];exact hp
   refine Or.inr ⟨k,a,ω,ω,c,fun j g f=>?_⟩
   rcases Nat.lt_or_ge i j with h|h
   ·exact e j h f
   rw[show j=i by omega];exact hp
theorem aN{p:Nat->Bool}{r i:Nat}(h:∀j,i<=j->j<i+r->p j=false):findFrom p r i = -1:=by
 rcases findFrom_cases p r i with⟨b,_⟩|⟨k,_,c,d,a,_⟩
 ·exact b
 rw[h k c d]at a;cases a
theorem fN{p:Nat->Bool}{r i k:Nat}(c:i<=k)(f:k<i+r)(a:p k=true)(g:∀j,i<=j->j<k->p j=false):findFrom p r i=(k:Int):=by
 rcases findFrom_cases p r i with⟨_,b⟩|⟨m,e,b,n,d,l⟩
 ·rw[b k c f]at a;cases a
 rcases Nat.lt_trichotomy k m with h|h|h
 ·rw[l k c h]at a;cases a
 ·rw[e,h]
 rw[g m b h]at d;cases d
theorem bJ{q:Nat->Bool}{n i:Nat}(d:i<n)(a:q i=true):0<=findFrom q n 0:=by
 rcases findFrom_cases q n 0 with⟨_,c⟩|⟨k,b,_⟩
 ·rw[c i zU ω]at a;cases a
 rw[b];omega
def same(s t:ByteArray):Bool:=s.toList ==t.toList
theorem F3(s:ByteArray):same s s=true:=by simp[same]
def byteN(s:ByteArray)(i:Nat):Int:=((s.data.toList.getD i 0).toNat:Int)
def GV(c:Int):Bool:=decide (c<97)||decide (122<c)
def eV(s:ByteArray)(i:Nat):Bool:=GV (byteN s i)
def nameErr(s:ByteArray):Int:=if s.size<1\/8<s.size then 2 else if 0<=findFrom (eV s) s.size 0 then 2 else 0
def kI(M:Nat->Mem)(i:Nat):Bool:=decide (0<=findFrom (fun j=>same (M j).name (M i).name) i 0)
def aQ(M:Nat->Mem)(i:Nat):Int :=
 if nameErr (M i).name≠0 then 2
 else if kI M i=true then 7
 else if(M i).parent < -1\/(i:Int)<=(M i).parent then 1
 else if 0<=(M i).parent/\(M (M i).parent.toNat).formula.size≠0 then 6
 else if(M i).sign < -1\/1<(M i).sign then 1
 else if 100<(M i).formula.size then 4
 else 0
def oZ(M:Nat->Mem):Nat->Nat->Int×Int
 | 0,_=>(-1,0)
 |r+1,i=>if aQ M i=0 then oZ M r (i+1)else((i:Int),aQ M i)
theorem DJ{M:Nat->Mem}{i:Nat}(r:Nat)(h:aQ M i=0):oZ M (r+1) i=oZ M r (i+1):=by simp[oZ,h]
theorem yD{M:Nat->Mem}{i:Nat}(r:Nat)(h:aQ M i≠0):oZ M (r+1) i=((i:Int),aQ M i):=by simp[oZ,h]
theorem Ca{M:Nat->Mem}(r:Nat):∀i,(oZ M r i).2=0->(oZ M r i).1 = -1/\∀j,i<=j->j<i+r->aQ M j=0:=by
 induction r with
 |zero=>exact fun i _=>⟨rfl,fun j b c=>ω⟩
 |succ r ih =>
  intro i h
  by_cases a:aQ M i=0
  ·rw[DJ r a]at h|-
   obtain⟨b,c⟩:=ih (i+1) h;refine⟨b,fun j d e=>?_⟩
   rcases Nat.lt_or_ge i j with h5|h5
   ·exact c j h5 ω
   rw[show j=i by omega];exact a
  rw[yD r a]at h;exact absurd h a
def am(d:Dm):Int×Int :=
 if nameErr d.name≠0 then(-1,2)
 else if d.solve<0\/9<d.solve then(-1,1)
 else if 12<d.n then(-1,4)
 else if d.n=0 then(-1,5)
 else oZ d.mem d.n 0
theorem aq{d:Dm}(h:(am d).2=0):(am d).1 = -1/\1<=d.n/\d.n<=12/\∀j,j<d.n->aQ d.mem j=0:=by
 unfold am at h|-
 split at h
 ·simp at h
 split at h
 ·simp at h
 split at h
 ·simp at h
 split at h
 ·simp at h
 rename_i h1 h2 h3 h4
 obtain⟨a,b⟩:=Ca d.n 0 h;rw[if_neg h1,if_neg h2,if_neg h3,if_neg h4];exact⟨a,ω,ω,fun j c=>b j zU ω⟩
def dP(d:Dm)(s:ByteArray):Int×Int :=
 if(am d).2≠0 then(0,(am d).2)
 else if findFrom (fun j=>same (d.mem j).name s) d.n 0<0 then(0,5)
 else(findFrom (fun j=>same (d.mem j).name s) d.n 0,0)
theorem gH{M:Nat->Mem}{i:Nat}(h:aQ M i=0):findFrom (fun j=>same (M j).name (M i).name) i 0<0:=by
 unfold aQ at h
 split at h
 ·simp at h
 split at h
 ·simp at h
 rename_i h2
 simp[kI]at h2
 exact h2
theorem Ii{d:Dm}(h:(am d).2=0){m:Nat}(g:m<d.n):dP d (d.mem m).name=((m:Int),0):=by
 obtain⟨_,_,_,a⟩:=aq h;have e:=gH (a m g);have f:findFrom (fun j=>same (d.mem j).name (d.mem m).name) d.n 0=(m:Int):=by
  refine fN zU ω (F3 _) (fun j _ i=>?_)
  rcases findFrom_cases (fun j=>same (d.mem j).name (d.mem m).name) m 0 with⟨_,c⟩|⟨k,b,_⟩
  ·exact c j zU ω
  rw[b]at e;omega
 unfold dP;rw[if_neg (by simpa using h),f,if_neg ω]
def pT(D:Nat->Dm)(i:Nat):Bool:=decide (0<=findFrom (fun j=>same (D j).name (D i).name) i 0)
def iJ(D:Nat->Dm)(i:Nat):Int×Int:=if(am (D i)).2≠0 then am (D i)else if pT D i=true then(-1,7)else(-1,0)
def fh(D:Nat->Dm):Nat->Nat->Int×Int×Int
 | 0,_=>(-1,-1,0)
 |r+1,i=>if(iJ D i).2=0 then fh D r (i+1)else((i:Int),(iJ D i).1,(iJ D i).2)
theorem yC{D:Nat->Dm}{i:Nat}(r:Nat)(h:(iJ D i).2=0):fh D (r+1) i=fh D r (i+1):=by simp[fh,h]
theorem nH{D:Nat->Dm}{i:Nat}(r:Nat)(h:(iJ D i).2≠0):fh D (r+1) i=((i:Int),(iJ D i).1,(iJ D i).2):=by simp[fh,h]
theorem qQ{D:Nat->Dm}{i:Nat}(h:(iJ D i).2=0):(am (D i)).2=0:=by
 unfold iJ at h
 split at h
 ·rename_i h1;exact absurd h h1
 rename_i h1;simpa using h1
theorem oM{D:Nat->Dm}(r:Nat):∀i,(fh D r i).2.2=0->(fh D r i)=(-1,-1,0)/\∀j,i<=j->j<i+r->(iJ D j).2=0:=by
 induction r with
 |zero=>exact fun i _=>⟨rfl,fun j b c=>ω⟩
 |succ r ih =>
  intro i h
  by_cases a:(iJ D i).2=0
  ·rw[yC r a]at h|-
   obtain⟨b,c⟩:=ih (i+1) h;refine⟨b,fun j d e=>?_⟩
   rcases Nat.lt_or_ge i j with h5|h5
   ·exact c j h5 ω
   rw[show j=i by omega];exact a
  rw[nH r a]at h;exact absurd h a
def prodN(D:Nat->Dm):Nat->Nat
 | 0=>1
 |k+1=>prodN D k*(D k).n
theorem ye{D:Nat->Dm}{k:Nat}(h:∀j,j<k->(D j).n<=12):prodN D k<=12 ^ k:=by
 induction k with
 |zero=>exact zT
 |succ k ih =>
  rw[prodN,Nat.pow_succ];exact Nat.mul_le_mul (ih fun j a=>h j ω) (h k ω)
def ag(D:Nat->Dm)(n:Nat):Int×Int×Int :=
 if 4<n then(-1,-1,4)
 else if n=0 then(-1,-1,5)
 else if(fh D n 0).2.2≠0 then fh D n 0
 else if 3000<prodN D n then(-1,-1,4)
 else(-1,-1,0)
theorem aZ{D:Nat->Dm}{n:Nat}(h:(ag D n).2.2=0):n<=4/\∀i,i<n->(am (D i)).2=0:=by
 unfold ag at h
 split at h
 ·simp at h
 split at h
 ·simp at h
 split at h
 ·rename_i h3;exact absurd h h3
 rename_i h1 h2 h3
 have a:=oM n 0 (by simpa using h3)
 exact⟨ω,fun i b=>qQ (a.2 i zU ω)⟩
def errV(c:Int):Value:=if c=0 then .nilIface else .iface 71 (.int .i64 c)
theorem errV_zero:errV 0=.nilIface:=rfl
theorem ac{c:Int}(h:c≠0):errV c=.iface 71 (.int .i64 c):=by simp[errV,h]
theorem KZ(c:Int)(w:World):Rt 142 #[.int .u8 c] w (.bool (GV c)):=by
 unfold GV
 by_cases a:c<97
 ·go_enter func142,ntmps142
  go_wp2;go_ret;exact⟨by simp<;>omega,by go_grown⟩
 go_enter func142,ntmps142
 go_wp2;go_ret;exact⟨by simp<;>omega,by go_grown⟩
def j9(w:World)(b:Nat)(s:ByteArray):Prop:=b<w.heap.size/\∀i,i<s.size->w.cell? ⟨b,i,none⟩=some (.int .u8 (byteN s i))
theorem j9.later{w w':World}{b:Nat}{s:ByteArray}(h:j9 w b s)(a:Bl w w'):j9 w' b s :=
 ⟨zW h.1 a.size,fun i c=>aM a h.1 (h.2 i c)⟩
theorem ad{W0 W w4:World}(h:Bl W0 W)(a:Bl W w4):Bl W0 w4:=h.trans (a.mono h.size)
theorem wW(s:ByteArray)(b cap:Nat)(w:World)(v:s.size<=8)(o:j9 w b s):Rt 192 #[.slice (some ⟨b,0,none⟩) s.size cap,.func (.func 142) #[] #[]] w (.int .i64 (findFrom (eV s) s.size 0)):=by
 have p:=aa o;clear o
 go_enter func192,ntmps192
 go_wp2_with fail
 go_loopg [8] s.size (fun g s8 wr =>∃(k:Nat),k<=s.size/\g=s.size-k/\s8=.int .i64 k/\findFrom (eV s) (s.size-k) k=findFrom (eV s) s.size 0/\Bl w wr)
 case atStart=>exact⟨0,zU,rfl,rfl,rfl,zS⟩
 case round =>
  obtain⟨k,u,rfl,rfl,i,a⟩:=hrel
  by_cases l:k<s.size
  ·have t:wr.cell? ⟨b,k,none⟩=some (.int .u8 (byteN s k)):=(p.o.later a).2 k l
   have q:(k:Int)<(s.size:Int):=ω;have m:=aa i;have n:=aa a;have f:s.size-k=(s.size-(k+1))+1:=ω;have c:=KZ (byteN s k);have r:(s.size:Int)<=8:=ω;clear i a;cases hb:GV (byteN s k)
   ·rw[hb]at c
    have h:=aa hb;clear hb;go_wp2_with fail;refine(c _).mono ?_;rintro e w1⟨rfl,d⟩;go_wp2_with fail
    go_roundg (s.size-(k+1))
    case measure=>omega
    case rel=>exact⟨k+1,ω,rfl,by go_num,by rw[←m.o,f,bj _ h.o],ad n.o d⟩
   rw[hb]at c;have h:=aa hb;clear hb;go_wp2_with fail;refine(c _).mono ?_;rintro e w1⟨rfl,d⟩;go_wp2_with fail;go_ret;exact⟨by rw[←m.o,f,bI _ h.o];rfl,ad n.o d⟩
  have j:k=s.size:=ω;subst j;go_wp2_with fail;go_ret;exact⟨by rw[←i,Nat.sub_self];rfl,a⟩
theorem pW(s:ByteArray)(b cap:Nat)(w:World)(d:s.size<=8)(c:j9 w b s):Rt 141 #[.slice (some ⟨b,0,none⟩) s.size cap,.func (.func 142) #[] #[]] w (.bool (decide (0<=findFrom (eV s) s.size 0))):=by
 have h:=wW s b cap w d c;clear c
 go_enter func141,ntmps141
 go_wp2_with fail;refine h.mono ?_;rintro e w1⟨rfl,a⟩;go_wp2_with fail;go_ret;exact⟨rfl,a⟩
theorem zp(s:ByteArray)(w:World):∃cap w1,(convert 9 95 (.string s)).run prog w=.ok (.slice (some ⟨w.heap.size,0,none⟩) s.size cap) w1/\Bl w w1/\j9 w1 w.heap.size s:=by
 refine⟨_,_,run_bytes_of_string w 9 95 5 s underlying9 underlying95 underlying5,by go_grown,by simp[go_sem],fun i a=>?_⟩
 have h:=World.cell?_alloc_mark w.drew (bytesRow s (grownCap w s.size 0 5)) 5 ((bytesRow s (grownCap w s.size 0 5)).size,(bytesRow s (grownCap w s.size 0 5)).size+1) i;rw[bytesRow_at s _ i a]at h;rw[show w.drew.heap.size=w.heap.size from rfl]at h
 rw[h];unfold byteN;rw[List.getD,zX (by simpa using a)]
 rfl
theorem kO{s:ByteArray}(h:s.size<1\/8<s.size):nameErr s=2:=by unfold nameErr;rw[if_pos h]
theorem sn{s:ByteArray}(h:1<=s.size)(a:s.size<=8):nameErr s=if 0<=findFrom (eV s) s.size 0 then 2 else 0:=by
 unfold nameErr;rw[if_neg ω]
theorem l9(s:ByteArray)(w:World):Rt 93 #[.string s] w (errV (nameErr s)):=by
 by_cases j:s.size<1
 ·rw[kO (Or.inl j),ac (by decide)]
  have c:(s.size:Int)<1:=ω;go_enter func93,ntmps93
  go_wp2;go_ret;exact⟨rfl,by go_grown⟩
 by_cases k:8<s.size
 ·rw[kO (Or.inr k),ac (by decide)]
  have c:1<=(s.size:Int):=ω;have g:8<(s.size:Int):=ω;go_enter func93,ntmps93
  go_wp2;go_ret;exact⟨rfl,by go_grown⟩
 rw[sn ω ω]
 have c:1<=(s.size:Int):=ω;have g:(s.size:Int)<=8:=ω;obtain⟨cap,w1,h,d,i⟩:=zp s w;have f:=pW s w.heap.size cap w1 ω i
 clear i
 by_cases b:0<=findFrom (eV s) s.size 0
 ·rw[decide_eq_true b]at f
  rw[if_pos b,ac (by decide)]
  clear b
  go_enter func93,ntmps93
  go_wp2_with fail;refine f.mono ?_;rintro e w2⟨rfl,a⟩;go_wp2_with fail;go_ret;exact⟨rfl,ad d a⟩
 rw[decide_eq_false b]at f;rw[if_neg b,errV_zero];clear b
 go_enter func93,ntmps93
 go_wp2_with fail;refine f.mono ?_;rintro e w2⟨rfl,a⟩;go_wp2_with fail;go_ret;exact⟨rfl,ad d a⟩
def jh(m:Mem):Value:=.agg #[.string m.name,.int .i64 m.parent,.int .i64 m.sign,.string m.formula]
def sE(w:World)(b o:Nat)(m:Mem):Prop:=w.cell? ⟨b,o,none⟩=some (.string m.name)/\w.cell? ⟨b,o+1,none⟩=some (.int .i64 m.parent)/\w.cell? ⟨b,o+2,none⟩=some (.int .i64 m.sign)/\w.cell? ⟨b,o+3,none⟩=some (.string m.formula)
def cI(w:World)(b o n:Nat)(M:Nat->Mem):Prop:=b<w.heap.size/\∀i,i<n->sE w b (o+i*4) (M i)
theorem sE.later{w w':World}{b o:Nat}{m:Mem}(h:sE w b o m)(c:b<w.heap.size)(a:Bl w w'):sE w' b o m :=
 ⟨aM a c h.1,aM a c h.2.1,aM a c h.2.2.1,aM a c h.2.2.2⟩
theorem cI.later{w w':World}{b o n:Nat}{M:Nat->Mem}(h:cI w b o n M)(a:Bl w w'):cI w' b o n M :=
 ⟨zW h.1 a.size,fun i c=>(h.2 i c).later h.1 a⟩
theorem cI.less{w:World}{b o n m:Nat}{M:Nat->Mem}(h:cI w b o n M)(c:m<=n):cI w b o m M:=⟨h.1,fun i a=>h.2 i ω⟩
def bo(fn:Nat):Prop := ∀(args:Array Value) (w:World),(callFunc fn args).run prog w=.ok (.enter fn args) w
theorem Bf:bo 145:=fun args w=>by simp[callFunc,func145];rfl
def M2(fn q:Nat)(w:World)(n:Nat)(M:Nat->Mem)(p:Nat->Bool):Prop := ∀(i:Nat) (w':World),i<n->Bl w w'->Calls prog fn #[jh (M i),.pointer (some ⟨q,0,none⟩)] w' fun e w''=>e=.returned (.bool (p i))/\Bl w' w''
theorem jg(j q:Nat)(y:bo j)(b o n cap:Nat)(M:Nat->Mem)(p:Nat->Bool)(w:World)(G:n<=12)(t:cI w b o n M)(u:M2 j q w n M p):
  Rt 182 #[.slice (some ⟨b,o,none⟩) n cap,.func (.func j) #[] #[.pointer (some ⟨q,0,none⟩)]] w (.int .i64 (findFrom p n 0)):=by
 have v:=aa t;have x:=aa u;clear t u;unfold bo at y
 go_enter func182,ntmps182
 go_wp2_with fail
 go_loopg [8] n (fun g s8 wr =>∃(k:Nat),k<=n/\g=n-k/\s8=.int .i64 k/\findFrom p (n-k) k=findFrom p n 0/\Bl w wr)
 case atStart=>exact⟨0,zU,rfl,rfl,rfl,zS⟩
 case round =>
  obtain⟨k,F,rfl,rfl,l,a⟩:=hrel
  by_cases f:k<n
  ·obtain⟨B,C,D,E⟩:=(v.o.later a).2 k f
   have z:(k:Int)<(n:Int):=ω;have r:=aa l;have s:=aa a;have h:n-k=(n-(k+1))+1:=ω;have c:=x.o k wr f a;unfold jh at c;have A:(n:Int)<=12:=ω;clear l a;cases hb:p k
   ·rw[hb]at c
    have i:=aa hb;clear hb;go_wp2_with fail;refine c.mono ?_;rintro e w1⟨rfl,d⟩;go_wp2_with fail
    go_roundg (n-(k+1))
    case measure=>omega
    case rel=>exact⟨k+1,ω,rfl,by go_num,by rw[←r.o,h,bj _ i.o],ad s.o d⟩
   rw[hb]at c;have i:=aa hb;clear hb;go_wp2_with fail;refine c.mono ?_;rintro e w1⟨rfl,d⟩;go_wp2_with fail;go_ret;exact⟨by rw[←r.o,h,bI _ i.o];rfl,ad s.o d⟩
  have m:k=n:=ω;subst m;go_wp2_with fail;go_ret;exact⟨by rw[←l,Nat.sub_self];rfl,a⟩
theorem ii(a q:Nat)(f:bo a)(b o n cap:Nat)(M:Nat->Mem)(p:Nat->Bool)(w:World)(i:n<=12)(d:cI w b o n M)(g:M2 a q w n M p):
  Rt 139 #[.slice (some ⟨b,o,none⟩) n cap,.func (.func a) #[] #[.pointer (some ⟨q,0,none⟩)]] w (.bool (decide (0<=findFrom p n 0))):=by
 have h:=jg a q f b o n cap M p w i d g;clear d g f
 go_enter func139,ntmps139
 go_wp2_with fail;refine h.mono ?_;rintro e w1⟨rfl,c⟩;go_wp2_with fail;go_ret;exact⟨rfl,c⟩
theorem xy(m x:Mem)(q:Nat)(w:World)(a:q<w.heap.size)(h:w.cell? ⟨q,0,none⟩=some (.string x.name)):Rt 145 #[jh m,.pointer (some ⟨q,0,none⟩)] w (.bool (same m.name x.name)):=by
 unfold jh
 go_enter func145,ntmps145
 go_wp2_with fail;go_ret;exact⟨by simp[same],by go_grown⟩
def dw(d:Dm)(A:Option Addr)(cap:Nat):Value:=.agg #[.string d.name,.int .i64 d.solve,.slice A d.n cap]
def bY(d:Dm):Int:=if nameErr d.name≠0 then 2 else if d.solve<0\/9<d.solve then 1 else if 12<d.n then 4 else if d.n=0 then 5 else 0
theorem jV{s:ByteArray}(h:nameErr s≠0):nameErr s=2:=by
 unfold nameErr at h|-
 split
 ·rfl
 split
 ·rfl
 rename_i h1 h2;rw[if_neg h1,if_neg h2]at h;exact absurd rfl h
theorem fr0{d:Dm}(h:nameErr d.name≠0):bY d=2:=by unfold bY;rw[if_pos h]
theorem Pc{d:Dm}(h:nameErr d.name=0)(a:d.solve<0\/9<d.solve):bY d=1:=by unfold bY;rw[if_neg (by simpa using h),if_pos a]
theorem Px{d:Dm}(h:nameErr d.name=0)(a :¬(d.solve<0\/9<d.solve))(b:12<d.n):bY d=4:=by unfold bY;rw[if_neg (by simpa using h),if_neg a,if_pos b]
theorem Py{d:Dm}(h:nameErr d.name=0)(a :¬(d.solve<0\/9<d.solve))(b :¬ 12<d.n)(c:d.n=0):bY d=5:=by unfold bY;rw[if_neg (by simpa using h),if_neg a,if_neg b,if_pos c]
theorem Pz{d:Dm}(h:nameErr d.name=0)(a :¬(d.solve<0\/9<d.solve))(b :¬ 12<d.n)(c :¬d.n=0):bY d=0:=by unfold bY;rw[if_neg (by simpa using h),if_neg a,if_neg b,if_neg c]
theorem EQ(d:Dm)(A:Option Addr)(cap:Nat)(w:World):Rt 97 #[dw d A cap] w (errV (bY d)):=by
 have b:=l9 d.name;unfold dw
 by_cases g:nameErr d.name=0
 ·rw[g,errV_zero]at b
  have c:=aa g;clear g
  go_enter func97,ntmps97
  go_wp2_with fail;refine(b _).mono ?_;rintro e w1⟨rfl,a⟩;have f:Bl w w1:=ad γ a
  have l:w1.cell? ⟨w.heap.size,1,none⟩=some (.int .i64 d.solve):=by rw[a.cell (p:=⟨w.heap.size,1,none⟩) σ];simp[go_sem]
  have m:w1.cell? ⟨w.heap.size,2,none⟩=some (.slice A d.n cap):=by rw[a.cell (p:=⟨w.heap.size,2,none⟩) σ];simp[go_sem]
  clear a b
  by_cases c1:d.solve<0
  ·go_wp2_with fail
   go_ret;exact⟨by rw[Pc c.o (Or.inl c1)];rfl,f⟩
  by_cases c2:9<d.solve
  ·go_wp2_with fail
   go_ret;exact⟨by rw[Pc c.o (Or.inr c2)];rfl,f⟩
  by_cases c3:12<d.n
  ·have j:12<(d.n:Int):=ω;go_wp2_with fail;go_ret;exact⟨by rw[Px c.o ω c3];rfl,f⟩
  have j:(d.n:Int)<=12:=ω;by_cases h:d.n=0
  ·have k:((d.n:Int) == 0)=true:=by simp[h]
   have i:=aa h;clear h;go_wp2_with fail;go_ret;exact⟨by rw[Py c.o ω ω i.o];rfl,f⟩
  have k:((d.n:Int) == 0)=false:=by simp;omega
  have i:=aa h;clear h;go_wp2_with fail;go_ret;exact⟨by rw[Pz c.o ω ω i.o];rfl,f⟩
 rw[jV g,ac (by decide)]at b
 have c:=aa g;clear g
 go_enter func97,ntmps97
 go_wp2_with fail;refine(b _).mono ?_;rintro e w1⟨rfl,a⟩;have f:Bl w w1:=ad γ a
 clear a;go_wp2_with fail;go_ret;exact⟨by rw[fr0 c.o];rfl,f⟩
def iI(n:Int):Int×Int:=if -1000000000000<=n/\n<=1000000000000 then(1,n)else(2,0)
theorem uG{n:Int}(a : -1000000000000<=n)(b:n<=1000000000000):iI n=(1,n):=by unfold iI;rw[if_pos ⟨a,b⟩]
theorem uH{n:Int}(h:n < -1000000000000\/1000000000000<n):iI n=(2,0):=by unfold iI;rw[if_neg ω]
theorem jk(n:Int)(w:World):Rt 18 #[.int .i64 n] w (.agg #[.int .i64 (iI n).1,.int .i64 (iI n).2]):=by
 by_cases h1 : -1000000000000<=n
 ·by_cases a:n<=1000000000000
  ·rw[uG h1 a]
   go_enter func18,ntmps18
   go_wp2;go_returns;exact⟨rfl,by go_grown⟩
  rw[uH ω]
  go_enter func18,ntmps18
  go_wp2;go_returns;exact⟨rfl,by go_grown⟩
 rw[uH ω]
 go_enter func18,ntmps18
 go_wp2;go_returns;exact⟨rfl,by go_grown⟩
def good(k n:Int):Bool:=decide ((k=1/\-1000000000000<=n/\n<=1000000000000)\/((k=0\/k=2)/\n=0))
theorem sQ(k n:Int)(w:World):Rt 211 #[.agg #[.int .i64 k,.int .i64 n]] w (if good k n=true then .nilIface else .iface 71 (.int .i64 1)):=by
 by_cases a:k=1
 ·subst a
  by_cases h1 : -1000000000000<=n
  ·by_cases g:n<=1000000000000
   ·rw[if_pos (by simp[good];omega)]
    go_enter func211,ntmps211
    go_wp2;go_returns;exact⟨rfl,by go_grown⟩
   rw[if_neg (by simp[good];omega)]
   go_enter func211,ntmps211
   go_wp2;go_returns;exact⟨rfl,by go_grown⟩
  rw[if_neg (by simp[good];omega)]
  go_enter func211,ntmps211
  go_wp2;go_returns;exact⟨rfl,by go_grown⟩
 by_cases b:k=0\/k=2
 ·by_cases f:n=0
  ·rw[if_pos (by simp[good];omega)]
   subst f
   rcases b with rfl|rfl
   all_goals
    go_enter func211,ntmps211
    go_wp2;go_returns;exact⟨rfl,by go_grown⟩
  rw[if_neg (by simp[good];omega)]
  rcases b with rfl|rfl
  all_goals
   go_enter func211,ntmps211
   go_wp2;go_returns;exact⟨rfl,by go_grown⟩
 have c:(k == 0)=false:=by simp;omega
 have d:(k == 2)=false:=by simp;omega
 have e:(k == 1)=false:=by simp;omega
 rw[if_neg (by simp[good];omega)]
 clear b a
 go_enter func211,ntmps211
 go_wp2;go_returns;exact⟨rfl,by go_grown⟩
end Go.Proofs.YtjfampgnhccodaaGreatDoor
