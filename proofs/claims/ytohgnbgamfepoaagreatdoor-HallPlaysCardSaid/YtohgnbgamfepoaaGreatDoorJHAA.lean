/- What package outline t -/
import Derived.Test.YtohgnbgamfepoaaGreatDoorProg
import Derived.WalkKit
import Derived.ProofKit
import Derived.OpenShut
import Derived.Handy
import Derived.Outline
import Derived.Laws.IdiomStrings
import Derived.Deep.LoopGhost
namespace Go.Proofs.YtohgnbgamfepoaaGreatDoor
open ChangeShapes WideShapes ChangeAt RowKit
set_option maxRecDepth 99999
set_option maxHeartbeats 0
abbrev Bl (w w':World):Prop:=Below w.heap.size w w'
theorem aa {p:Prop} (h:p):Hid p:=h
theorem az {α:Sort _} (a:α):∃ b,a=b:=⟨a,rfl⟩
theorem aC {N:Nat} {w w':World} {b o:Nat} {v:Option Value} (h:Below N w w') (a:b<N) (c:w.cell? ⟨b,o,none⟩=v):w'.cell? ⟨b,o,none⟩=v:=(h.cell (p:=⟨b,o,none⟩) a).trans c
theorem zZ {α:Type _} {l:List α} {i:Nat} {a:α}:l.getD i a=(l[i]?).getD a:=List.getD_eq_getElem?_getD
theorem zY {α:Type _} {l:Array α} {i:Nat} {a:α} (h:l[i]?=some a):∃ h:i<l.size,l[i]=a:=Array.getElem?_eq_some_iff.1 h
theorem zX {α:Type _} {l:List α} {i:Nat} (h:i<l.length):l[i]?=some l[i]:=List.getElem?_eq_getElem h
theorem zW {n m k:Nat} (h:n<m) (g:m≤k):n<k:=Nat.lt_of_lt_of_le h g
theorem zV {n m k:Nat} (h:n≤m) (g:m≤k):n≤k:=Nat.le_trans h g
theorem zU {n:Nat}:0≤n:=Nat.zero_le n
theorem zT {n:Nat}:n≤n:=Nat.le_refl n
theorem zS {n:Nat} {w:World}:Below n w w:=Below.refl _ _
abbrev Rt (F:Nat) (a:Array Value) (w:World) (v:Value):Prop:=Calls Tryz.prog F a w fun e w'=>e=.returned v∧Bl w w'
structure Mem where
 name:ByteArray
 parent:Int
 sign:Int
 formula:ByteArray
structure Dm where
 name:ByteArray
 solve:Int
 n:Nat
 mem:Nat→Mem
def findFrom (p:Nat→Bool):Nat→Nat→Int
 | 0,_ => -1
 | r+1,i=>if p i then (i:Int) else findFrom p r (i+1)
theorem bu {p:Nat→Bool} {i:Nat} (r:Nat) (h:p i=true):findFrom p (r+1) i=(i:Int):=by simp [findFrom,h]
theorem be {p:Nat→Bool} {i:Nat} (r:Nat) (h:p i=false):findFrom p (r+1) i=findFrom p r (i+1):=by simp [findFrom,h]
theorem findFrom_cases (p:Nat→Bool) (r:Nat):∀ i,(findFrom p r i = -1∧∀ j,i≤j→j<i+r→p j=false)∨∃ k:Nat,findFrom p r i=(k:Int)∧i≤k∧k<i+r∧p k=true∧∀ j,i≤j→j<k→p j=false:=by
 induction r with
 | zero=>exact fun i=>Or.inl ⟨rfl,fun j a b=>by omega⟩
 | succ r ih =>
  intro i;cases hp:p i with
  | true=>exact Or.inr ⟨i,bu r hp,zT,by omega,hp,fun j a b=>by omega⟩
  | false =>
   rw [be r hp]
   rcases ih (i+1) with ⟨a,b⟩ | ⟨k,a,b,d,c,e⟩
   ·refine Or.inl ⟨a,fun j d c=>?_⟩
    rcases Nat.lt_or_ge i j with h | h
    ·exact b j h (by omega)
    rw [show j=i by omega];exact hp
   refine Or.inr ⟨k,a,by omega,by omega,c,fun j g f=>?_⟩
   rcases Nat.lt_or_ge i j with h | h
   ·exact e j h f
   rw [show j=i by omega];exact hp
theorem bR {p:Nat→Bool} {r i:Nat} (h:∀ j,i≤j→j<i+r→p j=false):findFrom p r i = -1:=by
 rcases findFrom_cases p r i with ⟨b,_⟩ | ⟨k,_,c,d,a,_⟩
 ·exact b
 rw [h k c d] at a;cases a
theorem eP {p:Nat→Bool} {r i k:Nat} (c:i≤k) (f:k<i+r) (a:p k=true) (g:∀ j,i≤j→j<k→p j=false):findFrom p r i=(k:Int):=by
 rcases findFrom_cases p r i with ⟨_,b⟩ | ⟨m,e,b,n,d,l⟩
 ·rw [b k c f] at a;cases a
 rcases Nat.lt_trichotomy k m with h | h | h
 ·rw [l k c h] at a;cases a
 ·rw [e,h]
 rw [g m b h] at d;cases d
theorem oR {q:Nat→Bool} {n i:Nat} (m:i<n) (g:q i=true):findFrom q n 0<(i:Int)↔0≤findFrom q i 0:=by
 rcases findFrom_cases q i 0 with ⟨c,d⟩ | ⟨k,c,d,l,e,f⟩
 ·rw [c,eP (p:=q) (k:=i) (zU) (by omega) g (fun j a b=>d j a (by omega))]
  constructor <;> intro h <;> omega
 rw [c,eP (p:=q) (k:=k) (zU) (by omega) e f]
 constructor <;> intro h <;> omega
theorem fX {q:Nat→Bool} {n i:Nat} (d:i<n) (a:q i=true):0≤findFrom q n 0:=by
 rcases findFrom_cases q n 0 with ⟨_,c⟩ | ⟨k,b,_⟩
 ·rw [c i (zU) (by omega)] at a;cases a
 rw [b];omega
def same (s t:ByteArray):Bool:=s.toList == t.toList
theorem DC (s:ByteArray):same s s=true:=by simp [same]
def byteN (s:ByteArray) (i:Nat):Int:=((s.data.toList.getD i 0).toNat:Int)
def wn (c:Int):Bool:=decide (c<97) || decide (122<c)
def dd (s:ByteArray) (i:Nat):Bool:=wn (byteN s i)
def aP (s:ByteArray):Int:=if s.size<1∨8<s.size then 2 else if 0≤findFrom (dd s) s.size 0 then 2 else 0
def gx (M:Nat→Mem) (i:Nat):Bool:=decide (0≤findFrom (fun j=>same (M j).name (M i).name) i 0)
def aY (M:Nat→Mem) (i:Nat):Int :=
 if aP (M i).name≠0 then 2
 else if gx M i=true then 7
 else if (M i).parent < -1∨(i:Int)≤(M i).parent then 1
 else if 0≤(M i).parent∧(M (M i).parent.toNat).formula.size≠0 then 6
 else if (M i).sign < -1∨1<(M i).sign then 1
 else if 100<(M i).formula.size then 4
 else 0
def kd (M:Nat→Mem):Nat→Nat→Int×Int
 | 0,_=>(-1,0)
 | r+1,i=>if aY M i=0 then kd M r (i+1) else ((i:Int),aY M i)
theorem nS {M:Nat→Mem} {i:Nat} (r:Nat) (h:aY M i=0):kd M (r+1) i=kd M r (i+1):=by simp [kd,h]
theorem dv {M:Nat→Mem} {i:Nat} (r:Nat) (h:aY M i≠0):kd M (r+1) i=((i:Int),aY M i):=by simp [kd,h]
theorem yR {M:Nat→Mem} (r:Nat):∀ i,(kd M r i).2=0→(kd M r i).1 = -1∧∀ j,i≤j→j<i+r→aY M j=0:=by
 induction r with
 | zero=>exact fun i _=>⟨rfl,fun j b c=>by omega⟩
 | succ r ih =>
  intro i h
  by_cases a:aY M i=0
  ·rw [nS r a] at h ⊢
   obtain ⟨b,c⟩:=ih (i+1) h;refine ⟨b,fun j d e=>?_⟩
   rcases Nat.lt_or_ge i j with h5 | h5
   ·exact c j h5 (by omega)
   rw [show j=i by omega];exact a
  rw [dv r a] at h;exact absurd h a
def ay (d:Dm):Int×Int :=
 if aP d.name≠0 then (-1,2)
 else if d.solve<0∨9<d.solve then (-1,1)
 else if 12<d.n then (-1,4)
 else if d.n=0 then (-1,5)
 else kd d.mem d.n 0
theorem aI {d:Dm} (h:(ay d).2=0):(ay d).1 = -1∧1≤d.n∧d.n≤12∧∀ j,j<d.n→aY d.mem j=0:=by
 unfold ay at h ⊢
 split at h
 ·simp at h
 split at h
 ·simp at h
 split at h
 ·simp at h
 split at h
 ·simp at h
 rename_i h1 h2 h3 h4
 obtain ⟨a,b⟩:=yR d.n 0 h;rw [if_neg h1,if_neg h2,if_neg h3,if_neg h4];exact ⟨a,by omega,by omega,fun j c=>b j (zU) (by omega)⟩
theorem js {M:Nat→Mem} {i:Nat} (h:aY M i=0):findFrom (fun j=>same (M j).name (M i).name) i 0<0:=by
 unfold aY at h
 split at h
 ·simp at h
 split at h
 ·simp at h
 rename_i h2
 simp [gx] at h2
 exact h2
def fW (D:Nat→Dm) (i:Nat):Bool:=decide (0≤findFrom (fun j=>same (D j).name (D i).name) i 0)
def gF (D:Nat→Dm) (i:Nat):Int×Int:=if (ay (D i)).2≠0 then ay (D i) else if fW D i=true then (-1,7) else (-1,0)
def dQ (D:Nat→Dm):Nat→Nat→Int×Int×Int
 | 0,_=>(-1,-1,0)
 | r+1,i=>if (gF D i).2=0 then dQ D r (i+1) else ((i:Int),(gF D i).1,(gF D i).2)
theorem pU {D:Nat→Dm} {i:Nat} (r:Nat) (h:(gF D i).2=0):dQ D (r+1) i=dQ D r (i+1):=by simp [dQ,h]
theorem iL {D:Nat→Dm} {i:Nat} (r:Nat) (h:(gF D i).2≠0):dQ D (r+1) i=((i:Int),(gF D i).1,(gF D i).2):=by simp [dQ,h]
theorem kH {D:Nat→Dm} {i:Nat} (h:(gF D i).2=0):(ay (D i)).2=0:=by
 unfold gF at h
 split at h
 ·rename_i h1;exact absurd h h1
 rename_i h1;simpa using h1
theorem jD {D:Nat→Dm} (r:Nat):∀ i,(dQ D r i).2.2=0→(dQ D r i)=(-1,-1,0)∧∀ j,i≤j→j<i+r→(gF D j).2=0:=by
 induction r with
 | zero=>exact fun i _=>⟨rfl,fun j b c=>by omega⟩
 | succ r ih =>
  intro i h
  by_cases a:(gF D i).2=0
  ·rw [pU r a] at h ⊢
   obtain ⟨b,c⟩:=ih (i+1) h;refine ⟨b,fun j d e=>?_⟩
   rcases Nat.lt_or_ge i j with h5 | h5
   ·exact c j h5 (by omega)
   rw [show j=i by omega];exact a
  rw [iL r a] at h;exact absurd h a
def prodN (D:Nat→Dm):Nat→Nat
 | 0=>1
 | k+1=>prodN D k*(D k).n
theorem vp {D:Nat→Dm} {k:Nat} (h:∀ j,j<k→(D j).n≤12):prodN D k≤12 ^ k:=by
 induction k with
 | zero=>exact zT
 | succ k ih =>
  rw [prodN,Nat.pow_succ];exact Nat.mul_le_mul (ih fun j a=>h j (by omega)) (h k (by omega))
def am (D:Nat→Dm) (n:Nat):Int×Int×Int :=
 if 4<n then (-1,-1,4)
 else if n=0 then (-1,-1,5)
 else if (dQ D n 0).2.2≠0 then dQ D n 0
 else if 3000<prodN D n then (-1,-1,4)
 else (-1,-1,0)
theorem eY {D:Nat→Dm} {n:Nat} (h:(am D n).2.2=0):n≤4∧∀ i,i<n→(ay (D i)).2=0:=by
 unfold am at h
 split at h
 ·simp at h
 split at h
 ·simp at h
 split at h
 ·rename_i h3;exact absurd h h3
 rename_i h1 h2 h3
 have a:=jD n 0 (by simpa using h3)
 exact ⟨by omega,fun i b=>kH (a.2 i (zU) (by omega))⟩
def errV (c:Int):Value:=if c=0 then .nilIface else .iface 63 (.int .i64 c)
theorem errV_zero:errV 0=.nilIface:=rfl
theorem ak {c:Int} (h:c≠0):errV c=.iface 63 (.int .i64 c):=by simp [errV,h]
theorem G7 (c:Int) (w:World):Rt 224 #[.int .u8 c] w (.bool (wn c)):=by
 unfold wn
 by_cases a:c<97
 ·go_enter Tryz.func224,Tryz.ntmps224
  go_wp2;go_ret;exact ⟨by simp <;> omega,by go_grown⟩
 go_enter Tryz.func224,Tryz.ntmps224
 go_wp2;go_ret;exact ⟨by simp <;> omega,by go_grown⟩
def jF (w:World) (b:Nat) (s:ByteArray):Prop:=b<w.heap.size∧∀ i,i<s.size→w.cell? ⟨b,i,none⟩=some (.int .u8 (byteN s i))
theorem jF.later {w w':World} {b:Nat} {s:ByteArray} (h:jF w b s) (a:Bl w w'):jF w' b s :=
 ⟨zW h.1 a.size,fun i c=>aC a h.1 (h.2 i c)⟩
theorem ae {W0 W w4:World} (h:Bl W0 W) (a:Bl W w4):Bl W0 w4:=h.trans (a.mono h.size)
theorem ur (s:ByteArray) (b cap:Nat) (w:World) (v:s.size≤8) (o:jF w b s):Rt 249 #[.slice (some ⟨b,0,none⟩) s.size cap,.func (.func 224) #[] #[]] w (.int .i64 (findFrom (dd s) s.size 0)):=by
 have p:=aa o;clear o
 go_enter Tryz.func249,Tryz.ntmps249
 go_wp2_with fail
 go_loopg [8] s.size (fun g s8 wr => ∃ (k:Nat),k≤s.size∧g=s.size-k∧s8=.int .i64 k∧findFrom (dd s) (s.size-k) k=findFrom (dd s) s.size 0∧Bl w wr)
 case atStart=>exact ⟨0,zU,rfl,rfl,rfl,zS⟩
 case round =>
  obtain ⟨k,u,rfl,rfl,i,a⟩:=hrel
  by_cases l:k<s.size
  ·have t:wr.cell? ⟨b,k,none⟩=some (.int .u8 (byteN s k)):=(p.out.later a).2 k l
   have q:(k:Int)<(s.size:Int):=by omega
   have m:=aa i;have n:=aa a;have f:s.size-k=(s.size-(k+1))+1:=by omega
   have c:=G7 (byteN s k);have r:(s.size:Int)≤8:=by omega
   clear i a;cases hb:wn (byteN s k)
   ·rw [hb] at c
    have h:=aa hb;clear hb;go_wp2_with fail;refine (c _).mono ?_;rintro e w1 ⟨rfl,d⟩;go_wp2_with fail
    go_roundg (s.size-(k+1))
    case measure=>omega
    case rel=>exact ⟨k+1,by omega,rfl,by go_num,by rw [←m.out,f,be _ h.out],ae n.out d⟩
   rw [hb] at c;have h:=aa hb;clear hb;go_wp2_with fail;refine (c _).mono ?_;rintro e w1 ⟨rfl,d⟩;go_wp2_with fail;go_ret;exact ⟨by rw [←m.out,f,bu _ h.out];rfl,ae n.out d⟩
  have j:k=s.size:=by omega
  subst j;go_wp2_with fail;go_ret;exact ⟨by rw [←i,Nat.sub_self];rfl,a⟩
theorem oF (s:ByteArray) (b cap:Nat) (w:World) (d:s.size≤8) (c:jF w b s):Rt 223 #[.slice (some ⟨b,0,none⟩) s.size cap,.func (.func 224) #[] #[]] w (.bool (decide (0≤findFrom (dd s) s.size 0))):=by
 have h:=ur s b cap w d c;clear c
 go_enter Tryz.func223,Tryz.ntmps223
 go_wp2_with fail;refine h.mono ?_;rintro e w1 ⟨rfl,a⟩;go_wp2_with fail;go_ret;exact ⟨rfl,a⟩
theorem wL (s:ByteArray) (w:World):∃ cap w1,(convert 9 198 (.string s)).run Tryz.prog w=.ok (.slice (some ⟨w.heap.size,0,none⟩) s.size cap) w1∧Bl w w1∧jF w1 w.heap.size s:=by
 refine ⟨_,_,run_bytes_of_string w 9 198 5 s Tryz.underlying9 Tryz.underlying198 Tryz.underlying5,by go_grown,by simp [go_sem],fun i a=>?_⟩
 have h:=World.cell?_alloc_mark w.drew (bytesRow s (grownCap w s.size 0 5)) 5 ((bytesRow s (grownCap w s.size 0 5)).size,(bytesRow s (grownCap w s.size 0 5)).size+1) i;rw [bytesRow_at s _ i a] at h;rw [show w.drew.heap.size=w.heap.size from rfl] at h
 rw [h];unfold byteN;rw [List.getD,zX (by simpa using a)]
 rfl
theorem fH {s:ByteArray} (h:s.size<1∨8<s.size):aP s=2:=by unfold aP;rw [if_pos h]
theorem km {s:ByteArray} (h:1≤s.size) (a:s.size≤8):aP s=if 0≤findFrom (dd s) s.size 0 then 2 else 0:=by
 unfold aP;rw [if_neg (by omega)]
theorem pk (s:ByteArray) (w:World):Rt 184 #[.string s] w (errV (aP s)):=by
 by_cases j:s.size<1
 ·rw [fH (Or.inl j),ak (by decide)]
  have c:(s.size:Int)<1:=by omega
  go_enter Tryz.func184,Tryz.ntmps184
  go_wp2;go_ret;exact ⟨rfl,by go_grown⟩
 by_cases k:8<s.size
 ·rw [fH (Or.inr k),ak (by decide)]
  have c:1≤(s.size:Int):=by omega
  have g:8<(s.size:Int):=by omega
  go_enter Tryz.func184,Tryz.ntmps184
  go_wp2;go_ret;exact ⟨rfl,by go_grown⟩
 rw [km (by omega) (by omega)]
 have c:1≤(s.size:Int):=by omega
 have g:(s.size:Int)≤8:=by omega
 obtain ⟨cap,w1,h,d,i⟩:=wL s w;have f:=oF s w.heap.size cap w1 (by omega) i
 clear i
 by_cases b:0≤findFrom (dd s) s.size 0
 ·rw [decide_eq_true b] at f
  rw [if_pos b,ak (by decide)]
  clear b
  go_enter Tryz.func184,Tryz.ntmps184
  go_wp2_with fail;refine f.mono ?_;rintro e w2 ⟨rfl,a⟩;go_wp2_with fail;go_ret;exact ⟨rfl,ae d a⟩
 rw [decide_eq_false b] at f;rw [if_neg b,errV_zero];clear b
 go_enter Tryz.func184,Tryz.ntmps184
 go_wp2_with fail;refine f.mono ?_;rintro e w2 ⟨rfl,a⟩;go_wp2_with fail;go_ret;exact ⟨rfl,ae d a⟩
def qw (m:Mem):Value:=.agg #[.string m.name,.int .i64 m.parent,.int .i64 m.sign,.string m.formula]
def n9 (w:World) (b o:Nat) (m:Mem):Prop:=w.cell? ⟨b,o,none⟩=some (.string m.name)∧w.cell? ⟨b,o+1,none⟩=some (.int .i64 m.parent)∧w.cell? ⟨b,o+2,none⟩=some (.int .i64 m.sign)∧w.cell? ⟨b,o+3,none⟩=some (.string m.formula)
def b8 (w:World) (b o n:Nat) (M:Nat→Mem):Prop:=b<w.heap.size∧∀ i,i<n→n9 w b (o+i*4) (M i)
theorem n9.later {w w':World} {b o:Nat} {m:Mem} (h:n9 w b o m) (c:b<w.heap.size) (a:Bl w w'):n9 w' b o m :=
 ⟨aC a c h.1,aC a c h.2.1,aC a c h.2.2.1,aC a c h.2.2.2⟩
theorem b8.later {w w':World} {b o n:Nat} {M:Nat→Mem} (h:b8 w b o n M) (a:Bl w w'):b8 w' b o n M :=
 ⟨zW h.1 a.size,fun i c=>(h.2 i c).later h.1 a⟩
theorem b8.less {w:World} {b o n m:Nat} {M:Nat→Mem} (h:b8 w b o n M) (c:m≤n):b8 w b o m M:=⟨h.1,fun i a=>h.2 i (by omega)⟩
def du (fn:Nat):Prop := ∀ (args:Array Value) (w:World),(callFunc fn args).run Tryz.prog w=.ok (.enter fn args) w
theorem xI:du 186:=fun args w=>by simp [callFunc,Tryz.func186];rfl
def JV (fn q:Nat) (w:World) (n:Nat) (M:Nat→Mem) (p:Nat→Bool):Prop := ∀ (i:Nat) (w':World),i<n→Bl w w'→Calls Tryz.prog fn #[qw (M i),.pointer (some ⟨q,0,none⟩)] w' fun e w''=>e=.returned (.bool (p i))∧Bl w' w''
theorem kD (j q:Nat) (y:du j) (b o n cap:Nat) (M:Nat→Mem) (p:Nat→Bool) (w:World) (G:n≤12) (t:b8 w b o n M) (u:JV j q w n M p) :
  Rt 168 #[.slice (some ⟨b,o,none⟩) n cap,.func (.func j) #[] #[.pointer (some ⟨q,0,none⟩)]] w (.int .i64 (findFrom p n 0)):=by
 have v:=aa t;have x:=aa u;clear t u;unfold du at y
 go_enter Tryz.func168,Tryz.ntmps168
 go_wp2_with fail
 go_loopg [8] n (fun g s8 wr => ∃ (k:Nat),k≤n∧g=n-k∧s8=.int .i64 k∧findFrom p (n-k) k=findFrom p n 0∧Bl w wr)
 case atStart=>exact ⟨0,zU,rfl,rfl,rfl,zS⟩
 case round =>
  obtain ⟨k,F,rfl,rfl,l,a⟩:=hrel
  by_cases f:k<n
  ·obtain ⟨B,C,D,E⟩:=(v.out.later a).2 k f
   have z:(k:Int)<(n:Int):=by omega
   have r:=aa l;have s:=aa a;have h:n-k=(n-(k+1))+1:=by omega
   have c:=x.out k wr f a;unfold qw at c;have A:(n:Int)≤12:=by omega
   clear l a;cases hb:p k
   ·rw [hb] at c
    have i:=aa hb;clear hb;go_wp2_with fail;refine c.mono ?_;rintro e w1 ⟨rfl,d⟩;go_wp2_with fail
    go_roundg (n-(k+1))
    case measure=>omega
    case rel=>exact ⟨k+1,by omega,rfl,by go_num,by rw [←r.out,h,be _ i.out],ae s.out d⟩
   rw [hb] at c;have i:=aa hb;clear hb;go_wp2_with fail;refine c.mono ?_;rintro e w1 ⟨rfl,d⟩;go_wp2_with fail;go_ret;exact ⟨by rw [←r.out,h,bu _ i.out];rfl,ae s.out d⟩
  have m:k=n:=by omega
  subst m;go_wp2_with fail;go_ret;exact ⟨by rw [←l,Nat.sub_self];rfl,a⟩
theorem kh (a q:Nat) (f:du a) (b o n cap:Nat) (M:Nat→Mem) (p:Nat→Bool) (w:World) (i:n≤12) (d:b8 w b o n M) (g:JV a q w n M p) :
  Rt 185 #[.slice (some ⟨b,o,none⟩) n cap,.func (.func a) #[] #[.pointer (some ⟨q,0,none⟩)]] w (.bool (decide (0≤findFrom p n 0))):=by
 have h:=kD a q f b o n cap M p w i d g;clear d g f
 go_enter Tryz.func185,Tryz.ntmps185
 go_wp2_with fail;refine h.mono ?_;rintro e w1 ⟨rfl,c⟩;go_wp2_with fail;go_ret;exact ⟨rfl,c⟩
theorem uJ (m x:Mem) (q:Nat) (w:World) (a:q<w.heap.size) (h:w.cell? ⟨q,0,none⟩=some (.string x.name)):Rt 186 #[qw m,.pointer (some ⟨q,0,none⟩)] w (.bool (same m.name x.name)):=by
 unfold qw
 go_enter Tryz.func186,Tryz.ntmps186
 go_wp2_with fail;go_ret;exact ⟨by simp [same],by go_grown⟩
def cQ (d:Dm) (A:Option Addr) (cap:Nat):Value:=.agg #[.string d.name,.int .i64 d.solve,.slice A d.n cap]
def bW (d:Dm):Int:=if aP d.name≠0 then 2 else if d.solve<0∨9<d.solve then 1 else if 12<d.n then 4 else if d.n=0 then 5 else 0
theorem eS {s:ByteArray} (h:aP s≠0):aP s=2:=by
 unfold aP at h ⊢
 split
 ·rfl
 split
 ·rfl
 rename_i h1 h2;rw [if_neg h1,if_neg h2] at h;exact absurd rfl h
theorem fr0 {d:Dm} (h:aP d.name≠0):bW d=2:=by unfold bW;rw [if_pos h]
theorem Kl {d:Dm} (h:aP d.name=0) (a:d.solve<0∨9<d.solve):bW d=1:=by unfold bW;rw [if_neg (by simpa using h),if_pos a]
theorem Ks {d:Dm} (h:aP d.name=0) (a : ¬ (d.solve<0∨9<d.solve)) (b:12<d.n):bW d=4:=by unfold bW;rw [if_neg (by simpa using h),if_neg a,if_pos b]
theorem Kt {d:Dm} (h:aP d.name=0) (a : ¬ (d.solve<0∨9<d.solve)) (b : ¬ 12<d.n) (c:d.n=0):bW d=5:=by unfold bW;rw [if_neg (by simpa using h),if_neg a,if_neg b,if_pos c]
theorem KK {d:Dm} (h:aP d.name=0) (a : ¬ (d.solve<0∨9<d.solve)) (b : ¬ 12<d.n) (c : ¬ d.n=0):bW d=0:=by unfold bW;rw [if_neg (by simpa using h),if_neg a,if_neg b,if_neg c]
theorem Cb (d:Dm) (A:Option Addr) (cap:Nat) (w:World):Rt 151 #[cQ d A cap] w (errV (bW d)):=by
 have b:=pk d.name;unfold cQ
 by_cases g:aP d.name=0
 ·rw [g,errV_zero] at b
  have c:=aa g;clear g
  go_enter Tryz.func151,Tryz.ntmps151
  go_wp2_with fail;refine (b _).mono ?_;rintro e w1 ⟨rfl,a⟩;have f:Bl w w1:=ae (by go_grown) a
  have l:w1.cell? ⟨w.heap.size,1,none⟩=some (.int .i64 d.solve):=by rw [a.cell (p:=⟨w.heap.size,1,none⟩) (by simp)];simp [go_sem]
  have m:w1.cell? ⟨w.heap.size,2,none⟩=some (.slice A d.n cap):=by rw [a.cell (p:=⟨w.heap.size,2,none⟩) (by simp)];simp [go_sem]
  clear a b
  by_cases c1:d.solve<0
  ·go_wp2_with fail
   go_ret;exact ⟨by rw [Kl c.out (Or.inl c1)];rfl,f⟩
  by_cases c2:9<d.solve
  ·go_wp2_with fail
   go_ret;exact ⟨by rw [Kl c.out (Or.inr c2)];rfl,f⟩
  by_cases c3:12<d.n
  ·have j:12<(d.n:Int):=by omega
   go_wp2_with fail;go_ret;exact ⟨by rw [Ks c.out (by omega) c3];rfl,f⟩
  have j:(d.n:Int)≤12:=by omega
  by_cases h:d.n=0
  ·have k:((d.n:Int) == 0)=true:=by simp [h]
   have i:=aa h;clear h;go_wp2_with fail;go_ret;exact ⟨by rw [Kt c.out (by omega) (by omega) i.out];rfl,f⟩
  have k:((d.n:Int) == 0)=false:=by simp;omega
  have i:=aa h;clear h;go_wp2_with fail;go_ret;exact ⟨by rw [KK c.out (by omega) (by omega) i.out];rfl,f⟩
 rw [eS g,ak (by decide)] at b
 have c:=aa g;clear g
 go_enter Tryz.func151,Tryz.ntmps151
 go_wp2_with fail;refine (b _).mono ?_;rintro e w1 ⟨rfl,a⟩;have f:Bl w w1:=ae (by go_grown) a
 clear a;go_wp2_with fail;go_ret;exact ⟨by rw [fr0 c.out];rfl,f⟩
def eG (n:Int):Int×Int:=if -1000000000000≤n∧n≤1000000000000 then (1,n) else (2,0)
theorem pt {n:Int} (a : -1000000000000≤n) (b:n≤1000000000000):eG n=(1,n):=by unfold eG;rw [if_pos ⟨a,b⟩]
theorem jL {n:Int} (h:n < -1000000000000∨1000000000000<n):eG n=(2,0):=by unfold eG;rw [if_neg (by omega)]
theorem jv (n:Int) (w:World):Rt 53 #[.int .i64 n] w (.agg #[.int .i64 (eG n).1,.int .i64 (eG n).2]):=by
 by_cases h1 : -1000000000000≤n
 ·by_cases a:n≤1000000000000
  ·rw [pt h1 a]
   go_enter Tryz.func53,Tryz.ntmps53
   go_wp2;go_returns;exact ⟨rfl,by go_grown⟩
  rw [jL (by omega)]
  go_enter Tryz.func53,Tryz.ntmps53
  go_wp2;go_returns;exact ⟨rfl,by go_grown⟩
 rw [jL (by omega)]
 go_enter Tryz.func53,Tryz.ntmps53
 go_wp2;go_returns;exact ⟨rfl,by go_grown⟩
def good (k n:Int):Bool:=decide ((k=1∧-1000000000000≤n∧n≤1000000000000)∨((k=0∨k=2)∧n=0))
theorem qR (k n:Int) (w:World):Rt 176 #[.agg #[.int .i64 k,.int .i64 n]] w (if good k n=true then .nilIface else .iface 63 (.int .i64 1)):=by
 by_cases a:k=1
 ·subst a
  by_cases h1 : -1000000000000≤n
  ·by_cases g:n≤1000000000000
   ·rw [if_pos (by simp [good];omega)]
    go_enter Tryz.func176,Tryz.ntmps176
    go_wp2;go_returns;exact ⟨rfl,by go_grown⟩
   rw [if_neg (by simp [good];omega)]
   go_enter Tryz.func176,Tryz.ntmps176
   go_wp2;go_returns;exact ⟨rfl,by go_grown⟩
  rw [if_neg (by simp [good];omega)]
  go_enter Tryz.func176,Tryz.ntmps176
  go_wp2;go_returns;exact ⟨rfl,by go_grown⟩
 by_cases b:k=0∨k=2
 ·by_cases f:n=0
  ·rw [if_pos (by simp [good];omega)]
   subst f
   rcases b with rfl | rfl
   all_goals
    go_enter Tryz.func176,Tryz.ntmps176
    go_wp2;go_returns;exact ⟨rfl,by go_grown⟩
  rw [if_neg (by simp [good];omega)]
  rcases b with rfl | rfl
  all_goals
   go_enter Tryz.func176,Tryz.ntmps176
   go_wp2;go_returns;exact ⟨rfl,by go_grown⟩
 have c:(k == 0)=false:=by simp;omega
 have d:(k == 2)=false:=by simp;omega
 have e:(k == 1)=false:=by simp;omega
 rw [if_neg (by simp [good];omega)]
 clear b a
 go_enter Tryz.func176,Tryz.ntmps176
 go_wp2;go_returns;exact ⟨rfl,by go_grown⟩
end Go.Proofs.YtohgnbgamfepoaaGreatDoor
