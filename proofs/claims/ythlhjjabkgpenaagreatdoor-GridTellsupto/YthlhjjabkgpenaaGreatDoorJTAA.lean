/- What package outline t -/
import Derived.Test.YthlhjjabkgpenaaGreatDoorProg
import Derived.WalkKit
import Derived.ProofKit
import Derived.OpenShut
import Derived.Handy
import Derived.Outline
import Derived.Laws.IdiomStrings
import Derived.Deep.LoopGhost
namespace Go.Proofs.YthlhjjabkgpenaaGreatDoor
open ChangeShapes WideShapes ChangeAt RowKit
set_option maxRecDepth 99999
set_option maxHeartbeats 0
abbrev Bl (w w':World):Prop:=Below w.heap.size w w'
theorem aa {p:Prop} (h:p):Hid p:=h
theorem ax {α:Sort _} (a:α):∃ b,a=b:=⟨a,rfl⟩
theorem aL {N:Nat} {w w':World} {b o:Nat} {v:Option Value} (h:Below N w w') (a:b<N) (c:w.cell? ⟨b,o,none⟩=v):w'.cell? ⟨b,o,none⟩=v:=(h.cell (p:=⟨b,o,none⟩) a).trans c
theorem zZ {α:Type _} {l:List α} {i:Nat} {a:α}:l.getD i a=(l[i]?).getD a:=List.getD_eq_getElem?_getD
theorem zY {α:Type _} {l:Array α} {i:Nat} {a:α} (h:l[i]?=some a):∃ h:i<l.size,l[i]=a:=Array.getElem?_eq_some_iff.1 h
theorem zX {α:Type _} {l:List α} {i:Nat} (h:i<l.length):l[i]?=some l[i]:=List.getElem?_eq_getElem h
theorem zW {n m k:Nat} (h:n<m) (g:m≤k):n<k:=Nat.lt_of_lt_of_le h g
theorem zV {n m k:Nat} (h:n≤m) (g:m≤k):n≤k:=Nat.le_trans h g
theorem zU {n:Nat}:0≤n:=Nat.zero_le n
theorem zT {n:Nat}:n≤n:=Nat.le_refl n
theorem zS {n:Nat} {w:World}:Below n w w:=Below.refl _ _
abbrev Rt (F:Nat) (a:Array Value) (w:World) (v:Value):Prop:=Calls Tryz.prog F a w fun e w'=>e=.returned v∧Bl w w'
structure Mem where
 name:ByteArray
 parent:Int
 sign:Int
 formula:ByteArray
structure Dm where
 name:ByteArray
 solve:Int
 n:Nat
 mem:Nat→Mem
def findFrom (p:Nat→Bool):Nat→Nat→Int
 | 0,_ => -1
 | r+1,i=>if p i then (i:Int) else findFrom p r (i+1)
theorem aW {p:Nat→Bool} {i:Nat} (r:Nat) (h:p i=true):findFrom p (r+1) i=(i:Int):=by simp [findFrom,h]
theorem aU {p:Nat→Bool} {i:Nat} (r:Nat) (h:p i=false):findFrom p (r+1) i=findFrom p r (i+1):=by simp [findFrom,h]
theorem findFrom_cases (p:Nat→Bool) (r:Nat):∀ i,(findFrom p r i = -1∧∀ j,i≤j→j<i+r→p j=false)∨∃ k:Nat,findFrom p r i=(k:Int)∧i≤k∧k<i+r∧p k=true∧∀ j,i≤j→j<k→p j=false:=by
 induction r with
 | zero=>exact fun i=>Or.inl ⟨rfl,fun j a b=>by omega⟩
 | succ r ih =>
  intro i;cases hp:p i with
  | true=>exact Or.inr ⟨i,aW r hp,zT,by omega,hp,fun j a b=>by omega⟩
  | false =>
   rw [aU r hp]
   rcases ih (i+1) with ⟨a,b⟩ | ⟨k,a,b,d,c,e⟩
   ·refine Or.inl ⟨a,fun j d c=>?_⟩
    rcases Nat.lt_or_ge i j with h | h
    ·exact b j h (by omega)
    rw [show j=i by omega];exact hp
   refine Or.inr ⟨k,a,by omega,by omega,c,fun j g f=>?_⟩
   rcases Nat.lt_or_ge i j with h | h
   ·exact e j h f
   rw [show j=i by omega];exact hp
theorem bN {p:Nat→Bool} {r i:Nat} (h:∀ j,i≤j→j<i+r→p j=false):findFrom p r i = -1:=by
 rcases findFrom_cases p r i with ⟨b,_⟩ | ⟨k,_,c,d,a,_⟩
 ·exact b
 rw [h k c d] at a;cases a
theorem eq {p:Nat→Bool} {r i k:Nat} (c:i≤k) (f:k<i+r) (a:p k=true) (g:∀ j,i≤j→j<k→p j=false):findFrom p r i=(k:Int):=by
 rcases findFrom_cases p r i with ⟨_,b⟩ | ⟨m,e,b,n,d,l⟩
 ·rw [b k c f] at a;cases a
 rcases Nat.lt_trichotomy k m with h | h | h
 ·rw [l k c h] at a;cases a
 ·rw [e,h]
 rw [g m b h] at d;cases d
theorem nC {q:Nat→Bool} {n i:Nat} (m:i<n) (g:q i=true):findFrom q n 0<(i:Int)↔0≤findFrom q i 0:=by
 rcases findFrom_cases q i 0 with ⟨c,d⟩ | ⟨k,c,d,l,e,f⟩
 ·rw [c,eq (p:=q) (k:=i) (zU) (by omega) g (fun j a b=>d j a (by omega))]
  constructor <;> intro h <;> omega
 rw [c,eq (p:=q) (k:=k) (zU) (by omega) e f]
 constructor <;> intro h <;> omega
theorem fy {q:Nat→Bool} {n i:Nat} (d:i<n) (a:q i=true):0≤findFrom q n 0:=by
 rcases findFrom_cases q n 0 with ⟨_,c⟩ | ⟨k,b,_⟩
 ·rw [c i (zU) (by omega)] at a;cases a
 rw [b];omega
def same (s t:ByteArray):Bool:=s.toList == t.toList
theorem Cg (s:ByteArray):same s s=true:=by simp [same]
def byteN (s:ByteArray) (i:Nat):Int:=((s.data.toList.getD i 0).toNat:Int)
def vd (c:Int):Bool:=decide (c<97) || decide (122<c)
def cX (s:ByteArray) (i:Nat):Bool:=vd (byteN s i)
def aJ (s:ByteArray):Int:=if s.size<1∨8<s.size then 2 else if 0≤findFrom (cX s) s.size 0 then 2 else 0
def fS (M:Nat→Mem) (i:Nat):Bool:=decide (0≤findFrom (fun j=>same (M j).name (M i).name) i 0)
def aS (M:Nat→Mem) (i:Nat):Int :=
 if aJ (M i).name≠0 then 2
 else if fS M i=true then 7
 else if (M i).parent < -1∨(i:Int)≤(M i).parent then 1
 else if 0≤(M i).parent∧(M (M i).parent.toNat).formula.size≠0 then 6
 else if (M i).sign < -1∨1<(M i).sign then 1
 else if 100<(M i).formula.size then 4
 else 0
def jF (M:Nat→Mem):Nat→Nat→Int×Int
 | 0,_=>(-1,0)
 | r+1,i=>if aS M i=0 then jF M r (i+1) else ((i:Int),aS M i)
theorem mL {M:Nat→Mem} {i:Nat} (r:Nat) (h:aS M i=0):jF M (r+1) i=jF M r (i+1):=by simp [jF,h]
theorem dp {M:Nat→Mem} {i:Nat} (r:Nat) (h:aS M i≠0):jF M (r+1) i=((i:Int),aS M i):=by simp [jF,h]
theorem xv {M:Nat→Mem} (r:Nat):∀ i,(jF M r i).2=0→(jF M r i).1 = -1∧∀ j,i≤j→j<i+r→aS M j=0:=by
 induction r with
 | zero=>exact fun i _=>⟨rfl,fun j b c=>by omega⟩
 | succ r ih =>
  intro i h
  by_cases a:aS M i=0
  ·rw [mL r a] at h ⊢
   obtain ⟨b,c⟩:=ih (i+1) h;refine ⟨b,fun j d e=>?_⟩
   rcases Nat.lt_or_ge i j with h5 | h5
   ·exact c j h5 (by omega)
   rw [show j=i by omega];exact a
  rw [dp r a] at h;exact absurd h a
def au (d:Dm):Int×Int :=
 if aJ d.name≠0 then (-1,2)
 else if d.solve<0∨9<d.solve then (-1,1)
 else if 12<d.n then (-1,4)
 else if d.n=0 then (-1,5)
 else jF d.mem d.n 0
theorem aG {d:Dm} (h:(au d).2=0):(au d).1 = -1∧1≤d.n∧d.n≤12∧∀ j,j<d.n→aS d.mem j=0:=by
 unfold au at h ⊢
 split at h
 ·simp at h
 split at h
 ·simp at h
 split at h
 ·simp at h
 split at h
 ·simp at h
 rename_i h1 h2 h3 h4
 obtain ⟨a,b⟩:=xv d.n 0 h;rw [if_neg h1,if_neg h2,if_neg h3,if_neg h4];exact ⟨a,by omega,by omega,fun j c=>b j (zU) (by omega)⟩
theorem iV {M:Nat→Mem} {i:Nat} (h:aS M i=0):findFrom (fun j=>same (M j).name (M i).name) i 0<0:=by
 unfold aS at h
 split at h
 ·simp at h
 split at h
 ·simp at h
 rename_i h2
 simp [fS] at h2
 exact h2
def fx (D:Nat→Dm) (i:Nat):Bool:=decide (0≤findFrom (fun j=>same (D j).name (D i).name) i 0)
def fZ (D:Nat→Dm) (i:Nat):Int×Int:=if (au (D i)).2≠0 then au (D i) else if fx D i=true then (-1,7) else (-1,0)
def dI (D:Nat→Dm):Nat→Nat→Int×Int×Int
 | 0,_=>(-1,-1,0)
 | r+1,i=>if (fZ D i).2=0 then dI D r (i+1) else ((i:Int),(fZ D i).1,(fZ D i).2)
theorem oU {D:Nat→Dm} {i:Nat} (r:Nat) (h:(fZ D i).2=0):dI D (r+1) i=dI D r (i+1):=by simp [dI,h]
theorem g8 {D:Nat→Dm} {i:Nat} (r:Nat) (h:(fZ D i).2≠0):dI D (r+1) i=((i:Int),(fZ D i).1,(fZ D i).2):=by simp [dI,h]
theorem kh {D:Nat→Dm} {i:Nat} (h:(fZ D i).2=0):(au (D i)).2=0:=by
 unfold fZ at h
 split at h
 ·rename_i h1;exact absurd h h1
 rename_i h1;simpa using h1
theorem jb {D:Nat→Dm} (r:Nat):∀ i,(dI D r i).2.2=0→(dI D r i)=(-1,-1,0)∧∀ j,i≤j→j<i+r→(fZ D j).2=0:=by
 induction r with
 | zero=>exact fun i _=>⟨rfl,fun j b c=>by omega⟩
 | succ r ih =>
  intro i h
  by_cases a:(fZ D i).2=0
  ·rw [oU r a] at h ⊢
   obtain ⟨b,c⟩:=ih (i+1) h;refine ⟨b,fun j d e=>?_⟩
   rcases Nat.lt_or_ge i j with h5 | h5
   ·exact c j h5 (by omega)
   rw [show j=i by omega];exact a
  rw [g8 r a] at h;exact absurd h a
def prodN (D:Nat→Dm):Nat→Nat
 | 0=>1
 | k+1=>prodN D k*(D k).n
theorem uu {D:Nat→Dm} {k:Nat} (h:∀ j,j<k→(D j).n≤12):prodN D k≤12 ^ k:=by
 induction k with
 | zero=>exact zT
 | succ k ih =>
  rw [prodN,Nat.pow_succ];exact Nat.mul_le_mul (ih fun j a=>h j (by omega)) (h k (by omega))
def ah (D:Nat→Dm) (n:Nat):Int×Int×Int :=
 if 4<n then (-1,-1,4)
 else if n=0 then (-1,-1,5)
 else if (dI D n 0).2.2≠0 then dI D n 0
 else if 3000<prodN D n then (-1,-1,4)
 else (-1,-1,0)
theorem eA {D:Nat→Dm} {n:Nat} (h:(ah D n).2.2=0):n≤4∧∀ i,i<n→(au (D i)).2=0:=by
 unfold ah at h
 split at h
 ·simp at h
 split at h
 ·simp at h
 split at h
 ·rename_i h3;exact absurd h h3
 rename_i h1 h2 h3
 have a:=jb n 0 (by simpa using h3)
 exact ⟨by omega,fun i b=>kh (a.2 i (zU) (by omega))⟩
def errV (c:Int):Value:=if c=0 then .nilIface else .iface 68 (.int .i64 c)
theorem errV_zero:errV 0=.nilIface:=rfl
theorem aj {c:Int} (h:c≠0):errV c=.iface 68 (.int .i64 c):=by simp [errV,h]
theorem FQ (c:Int) (w:World):Rt 158 #[.int .u8 c] w (.bool (vd c)):=by
 unfold vd
 by_cases a:c<97
 ·go_enter Tryz.func158,Tryz.ntmps158
  go_wp2;go_ret;exact ⟨by simp <;> omega,by go_grown⟩
 go_enter Tryz.func158,Tryz.ntmps158
 go_wp2;go_ret;exact ⟨by simp <;> omega,by go_grown⟩
def je (w:World) (b:Nat) (s:ByteArray):Prop:=b<w.heap.size∧∀ i,i<s.size→w.cell? ⟨b,i,none⟩=some (.int .u8 (byteN s i))
theorem je.later {w w':World} {b:Nat} {s:ByteArray} (h:je w b s) (a:Bl w w'):je w' b s :=
 ⟨zW h.1 a.size,fun i c=>aL a h.1 (h.2 i c)⟩
theorem ae {W0 W w4:World} (h:Bl W0 W) (a:Bl W w4):Bl W0 w4:=h.trans (a.mono h.size)
theorem tu (s:ByteArray) (b cap:Nat) (w:World) (v:s.size≤8) (o:je w b s):Rt 188 #[.slice (some ⟨b,0,none⟩) s.size cap,.func (.func 158) #[] #[]] w (.int .i64 (findFrom (cX s) s.size 0)):=by
 have p:=aa o;clear o
 go_enter Tryz.func188,Tryz.ntmps188
 go_wp2_with fail
 go_loopg [8] s.size (fun g s8 wr => ∃ (k:Nat),k≤s.size∧g=s.size-k∧s8=.int .i64 k∧findFrom (cX s) (s.size-k) k=findFrom (cX s) s.size 0∧Bl w wr)
 case atStart=>exact ⟨0,zU,rfl,rfl,rfl,zS⟩
 case round =>
  obtain ⟨k,u,rfl,rfl,i,a⟩:=hrel
  by_cases l:k<s.size
  ·have t:wr.cell? ⟨b,k,none⟩=some (.int .u8 (byteN s k)):=(p.out.later a).2 k l
   have q:(k:Int)<(s.size:Int):=by omega
   have m:=aa i;have n:=aa a;have f:s.size-k=(s.size-(k+1))+1:=by omega
   have c:=FQ (byteN s k);have r:(s.size:Int)≤8:=by omega
   clear i a;cases hb:vd (byteN s k)
   ·rw [hb] at c
    have h:=aa hb;clear hb;go_wp2_with fail;refine (c _).mono ?_;rintro e w1 ⟨rfl,d⟩;go_wp2_with fail
    go_roundg (s.size-(k+1))
    case measure=>omega
    case rel=>exact ⟨k+1,by omega,rfl,by go_num,by rw [←m.out,f,aU _ h.out],ae n.out d⟩
   rw [hb] at c;have h:=aa hb;clear hb;go_wp2_with fail;refine (c _).mono ?_;rintro e w1 ⟨rfl,d⟩;go_wp2_with fail;go_ret;exact ⟨by rw [←m.out,f,aW _ h.out];rfl,ae n.out d⟩
  have j:k=s.size:=by omega
  subst j;go_wp2_with fail;go_ret;exact ⟨by rw [←i,Nat.sub_self];rfl,a⟩
theorem nj (s:ByteArray) (b cap:Nat) (w:World) (d:s.size≤8) (c:je w b s):Rt 157 #[.slice (some ⟨b,0,none⟩) s.size cap,.func (.func 158) #[] #[]] w (.bool (decide (0≤findFrom (cX s) s.size 0))):=by
 have h:=tu s b cap w d c;clear c
 go_enter Tryz.func157,Tryz.ntmps157
 go_wp2_with fail;refine h.mono ?_;rintro e w1 ⟨rfl,a⟩;go_wp2_with fail;go_ret;exact ⟨rfl,a⟩
theorem vu (s:ByteArray) (w:World):∃ cap w1,(convert 9 186 (.string s)).run Tryz.prog w=.ok (.slice (some ⟨w.heap.size,0,none⟩) s.size cap) w1∧Bl w w1∧je w1 w.heap.size s:=by
 refine ⟨_,_,run_bytes_of_string w 9 186 5 s Tryz.underlying9 Tryz.underlying186 Tryz.underlying5,by go_grown,by simp [go_sem],fun i a=>?_⟩
 have h:=World.cell?_alloc_mark w.drew (bytesRow s (grownCap w s.size 0 5)) 5 ((bytesRow s (grownCap w s.size 0 5)).size,(bytesRow s (grownCap w s.size 0 5)).size+1) i;rw [bytesRow_at s _ i a] at h;rw [show w.drew.heap.size=w.heap.size from rfl] at h
 rw [h];unfold byteN;rw [List.getD,zX (by simpa using a)]
 rfl
theorem fa {s:ByteArray} (h:s.size<1∨8<s.size):aJ s=2:=by unfold aJ;rw [if_pos h]
theorem jM {s:ByteArray} (h:1≤s.size) (a:s.size≤8):aJ s=if 0≤findFrom (cX s) s.size 0 then 2 else 0:=by
 unfold aJ;rw [if_neg (by omega)]
theorem nW (s:ByteArray) (w:World):Rt 133 #[.string s] w (errV (aJ s)):=by
 by_cases j:s.size<1
 ·rw [fa (Or.inl j),aj (by decide)]
  have c:(s.size:Int)<1:=by omega
  go_enter Tryz.func133,Tryz.ntmps133
  go_wp2;go_ret;exact ⟨rfl,by go_grown⟩
 by_cases k:8<s.size
 ·rw [fa (Or.inr k),aj (by decide)]
  have c:1≤(s.size:Int):=by omega
  have g:8<(s.size:Int):=by omega
  go_enter Tryz.func133,Tryz.ntmps133
  go_wp2;go_ret;exact ⟨rfl,by go_grown⟩
 rw [jM (by omega) (by omega)]
 have c:1≤(s.size:Int):=by omega
 have g:(s.size:Int)≤8:=by omega
 obtain ⟨cap,w1,h,d,i⟩:=vu s w;have f:=nj s w.heap.size cap w1 (by omega) i
 clear i
 by_cases b:0≤findFrom (cX s) s.size 0
 ·rw [decide_eq_true b] at f
  rw [if_pos b,aj (by decide)]
  clear b
  go_enter Tryz.func133,Tryz.ntmps133
  go_wp2_with fail;refine f.mono ?_;rintro e w2 ⟨rfl,a⟩;go_wp2_with fail;go_ret;exact ⟨rfl,ae d a⟩
 rw [decide_eq_false b] at f;rw [if_neg b,errV_zero];clear b
 go_enter Tryz.func133,Tryz.ntmps133
 go_wp2_with fail;refine f.mono ?_;rintro e w2 ⟨rfl,a⟩;go_wp2_with fail;go_ret;exact ⟨rfl,ae d a⟩
def pC (m:Mem):Value:=.agg #[.string m.name,.int .i64 m.parent,.int .i64 m.sign,.string m.formula]
def mY (w:World) (b o:Nat) (m:Mem):Prop:=w.cell? ⟨b,o,none⟩=some (.string m.name)∧w.cell? ⟨b,o+1,none⟩=some (.int .i64 m.parent)∧w.cell? ⟨b,o+2,none⟩=some (.int .i64 m.sign)∧w.cell? ⟨b,o+3,none⟩=some (.string m.formula)
def b8 (w:World) (b o n:Nat) (M:Nat→Mem):Prop:=b<w.heap.size∧∀ i,i<n→mY w b (o+i*4) (M i)
theorem mY.later {w w':World} {b o:Nat} {m:Mem} (h:mY w b o m) (c:b<w.heap.size) (a:Bl w w'):mY w' b o m :=
 ⟨aL a c h.1,aL a c h.2.1,aL a c h.2.2.1,aL a c h.2.2.2⟩
theorem b8.later {w w':World} {b o n:Nat} {M:Nat→Mem} (h:b8 w b o n M) (a:Bl w w'):b8 w' b o n M :=
 ⟨zW h.1 a.size,fun i c=>(h.2 i c).later h.1 a⟩
theorem b8.less {w:World} {b o n m:Nat} {M:Nat→Mem} (h:b8 w b o n M) (c:m≤n):b8 w b o m M:=⟨h.1,fun i a=>h.2 i (by omega)⟩
def dG (fn:Nat):Prop := ∀ (args:Array Value) (w:World),(callFunc fn args).run Tryz.prog w=.ok (.enter fn args) w
theorem wm:dG 135:=fun args w=>by simp [callFunc,Tryz.func135];rfl
def IR (fn q:Nat) (w:World) (n:Nat) (M:Nat→Mem) (p:Nat→Bool):Prop := ∀ (i:Nat) (w':World),i<n→Bl w w'→Calls Tryz.prog fn #[pC (M i),.pointer (some ⟨q,0,none⟩)] w' fun e w''=>e=.returned (.bool (p i))∧Bl w' w''
theorem kd (j q:Nat) (y:dG j) (b o n cap:Nat) (M:Nat→Mem) (p:Nat→Bool) (w:World) (G:n≤12) (t:b8 w b o n M) (u:IR j q w n M p) :
  Rt 159 #[.slice (some ⟨b,o,none⟩) n cap,.func (.func j) #[] #[.pointer (some ⟨q,0,none⟩)]] w (.int .i64 (findFrom p n 0)):=by
 have v:=aa t;have x:=aa u;clear t u;unfold dG at y
 go_enter Tryz.func159,Tryz.ntmps159
 go_wp2_with fail
 go_loopg [8] n (fun g s8 wr => ∃ (k:Nat),k≤n∧g=n-k∧s8=.int .i64 k∧findFrom p (n-k) k=findFrom p n 0∧Bl w wr)
 case atStart=>exact ⟨0,zU,rfl,rfl,rfl,zS⟩
 case round =>
  obtain ⟨k,F,rfl,rfl,l,a⟩:=hrel
  by_cases f:k<n
  ·obtain ⟨B,C,D,E⟩:=(v.out.later a).2 k f
   have z:(k:Int)<(n:Int):=by omega
   have r:=aa l;have s:=aa a;have h:n-k=(n-(k+1))+1:=by omega
   have c:=x.out k wr f a;unfold pC at c;have A:(n:Int)≤12:=by omega
   clear l a;cases hb:p k
   ·rw [hb] at c
    have i:=aa hb;clear hb;go_wp2_with fail;refine c.mono ?_;rintro e w1 ⟨rfl,d⟩;go_wp2_with fail
    go_roundg (n-(k+1))
    case measure=>omega
    case rel=>exact ⟨k+1,by omega,rfl,by go_num,by rw [←r.out,h,aU _ i.out],ae s.out d⟩
   rw [hb] at c;have i:=aa hb;clear hb;go_wp2_with fail;refine c.mono ?_;rintro e w1 ⟨rfl,d⟩;go_wp2_with fail;go_ret;exact ⟨by rw [←r.out,h,aW _ i.out];rfl,ae s.out d⟩
  have m:k=n:=by omega
  subst m;go_wp2_with fail;go_ret;exact ⟨by rw [←l,Nat.sub_self];rfl,a⟩
theorem jJ (a q:Nat) (f:dG a) (b o n cap:Nat) (M:Nat→Mem) (p:Nat→Bool) (w:World) (i:n≤12) (d:b8 w b o n M) (g:IR a q w n M p) :
  Rt 134 #[.slice (some ⟨b,o,none⟩) n cap,.func (.func a) #[] #[.pointer (some ⟨q,0,none⟩)]] w (.bool (decide (0≤findFrom p n 0))):=by
 have h:=kd a q f b o n cap M p w i d g;clear d g f
 go_enter Tryz.func134,Tryz.ntmps134
 go_wp2_with fail;refine h.mono ?_;rintro e w1 ⟨rfl,c⟩;go_wp2_with fail;go_ret;exact ⟨rfl,c⟩
theorem tS (m x:Mem) (q:Nat) (w:World) (a:q<w.heap.size) (h:w.cell? ⟨q,0,none⟩=some (.string x.name)):Rt 135 #[pC m,.pointer (some ⟨q,0,none⟩)] w (.bool (same m.name x.name)):=by
 unfold pC
 go_enter Tryz.func135,Tryz.ntmps135
 go_wp2_with fail;go_ret;exact ⟨by simp [same],by go_grown⟩
def cA (d:Dm) (A:Option Addr) (cap:Nat):Value:=.agg #[.string d.name,.int .i64 d.solve,.slice A d.n cap]
def bR (d:Dm):Int:=if aJ d.name≠0 then 2 else if d.solve<0∨9<d.solve then 1 else if 12<d.n then 4 else if d.n=0 then 5 else 0
theorem es {s:ByteArray} (h:aJ s≠0):aJ s=2:=by
 unfold aJ at h ⊢
 split
 ·rfl
 split
 ·rfl
 rename_i h1 h2;rw [if_neg h1,if_neg h2] at h;exact absurd rfl h
theorem fr0 {d:Dm} (h:aJ d.name≠0):bR d=2:=by unfold bR;rw [if_pos h]
theorem Ky {d:Dm} (h:aJ d.name=0) (a:d.solve<0∨9<d.solve):bR d=1:=by unfold bR;rw [if_neg (by simpa using h),if_pos a]
theorem KG {d:Dm} (h:aJ d.name=0) (a : ¬ (d.solve<0∨9<d.solve)) (b:12<d.n):bR d=4:=by unfold bR;rw [if_neg (by simpa using h),if_neg a,if_pos b]
theorem KH {d:Dm} (h:aJ d.name=0) (a : ¬ (d.solve<0∨9<d.solve)) (b : ¬ 12<d.n) (c:d.n=0):bR d=5:=by unfold bR;rw [if_neg (by simpa using h),if_neg a,if_neg b,if_pos c]
theorem Lb {d:Dm} (h:aJ d.name=0) (a : ¬ (d.solve<0∨9<d.solve)) (b : ¬ 12<d.n) (c : ¬ d.n=0):bR d=0:=by unfold bR;rw [if_neg (by simpa using h),if_neg a,if_neg b,if_neg c]
theorem Ao (d:Dm) (A:Option Addr) (cap:Nat) (w:World):Rt 108 #[cA d A cap] w (errV (bR d)):=by
 have b:=nW d.name;unfold cA
 by_cases g:aJ d.name=0
 ·rw [g,errV_zero] at b
  have c:=aa g;clear g
  go_enter Tryz.func108,Tryz.ntmps108
  go_wp2_with fail;refine (b _).mono ?_;rintro e w1 ⟨rfl,a⟩;have f:Bl w w1:=ae (by go_grown) a
  have l:w1.cell? ⟨w.heap.size,1,none⟩=some (.int .i64 d.solve):=by rw [a.cell (p:=⟨w.heap.size,1,none⟩) (by simp)];simp [go_sem]
  have m:w1.cell? ⟨w.heap.size,2,none⟩=some (.slice A d.n cap):=by rw [a.cell (p:=⟨w.heap.size,2,none⟩) (by simp)];simp [go_sem]
  clear a b
  by_cases c1:d.solve<0
  ·go_wp2_with fail
   go_ret;exact ⟨by rw [Ky c.out (Or.inl c1)];rfl,f⟩
  by_cases c2:9<d.solve
  ·go_wp2_with fail
   go_ret;exact ⟨by rw [Ky c.out (Or.inr c2)];rfl,f⟩
  by_cases c3:12<d.n
  ·have j:12<(d.n:Int):=by omega
   go_wp2_with fail;go_ret;exact ⟨by rw [KG c.out (by omega) c3];rfl,f⟩
  have j:(d.n:Int)≤12:=by omega
  by_cases h:d.n=0
  ·have k:((d.n:Int) == 0)=true:=by simp [h]
   have i:=aa h;clear h;go_wp2_with fail;go_ret;exact ⟨by rw [KH c.out (by omega) (by omega) i.out];rfl,f⟩
  have k:((d.n:Int) == 0)=false:=by simp;omega
  have i:=aa h;clear h;go_wp2_with fail;go_ret;exact ⟨by rw [Lb c.out (by omega) (by omega) i.out];rfl,f⟩
 rw [es g,aj (by decide)] at b
 have c:=aa g;clear g
 go_enter Tryz.func108,Tryz.ntmps108
 go_wp2_with fail;refine (b _).mono ?_;rintro e w1 ⟨rfl,a⟩;have f:Bl w w1:=ae (by go_grown) a
 clear a;go_wp2_with fail;go_ret;exact ⟨by rw [fr0 c.out];rfl,f⟩
def fC (w:World) (m:Mem) (T:Nat):World:=w.alloc (.cells #[.string m.name,.int .i64 m.parent,.int .i64 m.sign,.string m.formula] T)
theorem qK (w:World) (m:Mem) (T:Nat):mY (fC w m T) w.heap.size 0 m:=by unfold fC;exact ⟨by simp,by simp,by simp,by simp⟩
theorem mb (w:World) (m:Mem) (T:Nat):(fC w m T).heap.size=w.heap.size+1:=by unfold fC;simp
theorem kL (w:World) (m:Mem) (T:Nat):Bl w (fC w m T):=by unfold fC;go_grown
theorem aN {s:ByteArray}:s.toList.isEmpty=decide (s.size=0):=by
 rw [ByteArray.toList_eq];have e:s.size=s.data.toList.length:=Array.length_toList.symm;rw [e];cases s.data.toList <;> simp
theorem Lc {M:Nat→Mem} {i:Nat} (h:aJ (M i).name≠0):aS M i=2:=by unfold aS;rw [if_pos h]
theorem Ld {M:Nat→Mem} {i:Nat} (h:aJ (M i).name=0) (a:fS M i=true):aS M i=7:=by unfold aS;rw [if_neg (by simpa using h),if_pos a]
theorem Kz {M:Nat→Mem} {i:Nat} (h:aJ (M i).name=0) (a:fS M i=false) (b:(M i).parent < -1∨(i:Int)≤(M i).parent):aS M i=1:=by unfold aS;rw [if_neg (by simpa using h),if_neg (by simp [a]),if_pos b]
theorem Le {M:Nat→Mem} {i:Nat} (h:aJ (M i).name=0) (a:fS M i=false) (b : ¬ ((M i).parent < -1∨(i:Int)≤(M i).parent)) (c:0≤(M i).parent∧(M (M i).parent.toNat).formula.size≠0):aS M i=6:=by unfold aS;rw [if_neg (by simpa using h),if_neg (by simp [a]),if_neg b,if_pos c]
theorem Ha {M:Nat→Mem} {i:Nat} (h:aJ (M i).name=0) (a:fS M i=false) (b : ¬ ((M i).parent < -1∨(i:Int)≤(M i).parent)) (c : ¬ (0≤(M i).parent∧(M (M i).parent.toNat).formula.size≠0)) (d:(M i).sign < -1∨1<(M i).sign):aS M i=1:=by unfold aS;rw [if_neg (by simpa using h),if_neg (by simp [a]),if_neg b,if_neg c,if_pos d]
theorem KA {M:Nat→Mem} {i:Nat} (h:aJ (M i).name=0) (a:fS M i=false) (b : ¬ ((M i).parent < -1∨(i:Int)≤(M i).parent)) (c : ¬ (0≤(M i).parent∧(M (M i).parent.toNat).formula.size≠0)) (d : ¬ ((M i).sign < -1∨1<(M i).sign)) (e:100<(M i).formula.size):aS M i=4:=by unfold aS;rw [if_neg (by simpa using h),if_neg (by simp [a]),if_neg b,if_neg c,if_neg d,if_pos e]
theorem KB {M:Nat→Mem} {i:Nat} (h:aJ (M i).name=0) (a:fS M i=false) (b : ¬ ((M i).parent < -1∨(i:Int)≤(M i).parent)) (c : ¬ (0≤(M i).parent∧(M (M i).parent.toNat).formula.size≠0)) (d : ¬ ((M i).sign < -1∨1<(M i).sign)) (e : ¬ 100<(M i).formula.size):aS M i=0:=by unfold aS;rw [if_neg (by simpa using h),if_neg (by simp [a]),if_neg b,if_neg c,if_neg d,if_neg e]
theorem wn (b o n cap i:Nat) (M:Nat→Mem) (w:World) (t:n≤12) (Z:n≤cap) (S:i<n) (C:b8 w b o n M):Rt 109 #[.slice (some ⟨b,o,none⟩) n cap,.int .i64 i] w (errV (aS M i)):=by
 have m:=nW (M i).name;obtain ⟨L,N,O,P⟩:=C.2 i S;have T:(i:Int)<(n:Int):=by omega
 have U:(n:Int)≤12:=by omega
 have R:(n:Int)≤(cap:Int):=by omega
 have Q:=C.1;have J:=aa C;clear C
 by_cases t:aJ (M i).name=0
 ·rw [t,errV_zero] at m
  have f:=aa t;clear t
  go_enter Tryz.func109,Tryz.ntmps109
  go_wp2_with fail;refine (m _).mono ?_;rintro e w1 ⟨rfl,d⟩;have H:=mb w (M i) 53;have u:Bl w w1:=ae (kL w (M i) 53) d;have A:mY w1 w.heap.size 0 (M i):=(qK w (M i) 53).later (by rw [H];omega) d
  have v:w.heap.size<w1.heap.size:=by
   have:=d.size
   change (fC w (M i) 53).heap.size≤_ at this
   omega
  have r:=J.out.later u;clear d L N O P H;have h:=jJ 135 w.heap.size wm b o i cap M (fun j=>same (M j).name (M i).name) w1 (by omega) (r.less (by omega)) (fun j w' hj B=>tS (M j) (M i) w.heap.size w' (zW v B.size) (A.later v B).1)
  obtain ⟨a0,a1,a2,a3⟩:=A;have x:=aa r;clear r
  change Calls _ _ _ _ (fun e w'=>e=.returned (.bool (fS M i))∧_) at h
  cases hk:fS M i
  ·rw [hk] at h
   have g:=aa hk;clear hk;go_wp2_with fail;refine h.mono ?_;rintro e w2 ⟨rfl,c⟩;have K:w2.cell? ⟨w.heap.size,1,none⟩=some (.int .i64 (M i).parent):=aL c v a1;have W:w2.cell? ⟨w.heap.size,2,none⟩=some (.int .i64 (M i).sign):=aL c v a2;have X:w2.cell? ⟨w.heap.size,3,none⟩=some (.string (M i).formula):=aL c v a3;have a:Bl w w2:=ae u c;have s:=x.out.later c;clear a0 a1 a2 a3 h c x u v
   by_cases c1:(M i).parent < -1
   ·go_wp2_with fail
    go_ret;exact ⟨by rw [Kz f.out g.out (Or.inl c1)];rfl,a⟩
   by_cases c2:(i:Int)≤(M i).parent
   ·go_wp2_with fail
    go_ret;exact ⟨by rw [Kz f.out g.out (Or.inr c2)];rfl,a⟩
   have l:Hid (¬ ((M i).parent < -1∨(i:Int)≤(M i).parent)):=by show ¬ _;omega
   by_cases c3:0≤(M i).parent
   ·obtain ⟨p,I⟩:∃ p:Nat,(M i).parent=(p:Int):=⟨(M i).parent.toNat,by omega⟩
    obtain ⟨-,-,-,Y⟩:=s.2 p (by omega)
    rw [I] at K c1 c2 c3;have D:Hid ((M i).parent.toNat=p∧0≤(M i).parent):=⟨by omega,by omega⟩
    have V:(p:Int)<(n:Int):=by omega
    clear I s
    by_cases y:(M p).formula.size=0
    ·have E:(M p).formula.toList.isEmpty=true:=by rw [aN];simpa using y
     have k:Hid (¬ (0≤(M i).parent∧(M (M i).parent.toNat).formula.size≠0)):=by show ¬ _;rw [D.out.1];omega
     clear y
     by_cases F:(M i).sign < -1
     ·go_wp2_with fail
      go_ret;exact ⟨by rw [Ha f.out g.out l.out k.out (Or.inl F)];rfl,a⟩
     by_cases G:1<(M i).sign
     ·go_wp2_with fail
      go_ret;exact ⟨by rw [Ha f.out g.out l.out k.out (Or.inr G)];rfl,a⟩
     by_cases z:100<(M i).formula.size
     ·have q:100<((M i).formula.size:Int):=by omega
      go_wp2_with fail;go_ret;exact ⟨by rw [KA f.out g.out l.out k.out (by omega) z];rfl,a⟩
     have q:((M i).formula.size:Int)≤100:=by omega
     go_wp2_with fail;go_ret;exact ⟨by rw [KB f.out g.out l.out k.out (by omega) z];rfl,a⟩
    have E:(M p).formula.toList.isEmpty=false:=by rw [aN];simpa using y
    have k:Hid (0≤(M i).parent∧(M (M i).parent.toNat).formula.size≠0):=by refine ⟨D.out.2,?_⟩;rw [D.out.1];exact y
    clear y;go_wp2_with fail;go_ret;exact ⟨by rw [Le f.out g.out l.out k.out];rfl,a⟩
   have k:Hid (¬ (0≤(M i).parent∧(M (M i).parent.toNat).formula.size≠0)):=by show ¬ _;omega
   clear s
   by_cases F:(M i).sign < -1
   ·go_wp2_with fail
    go_ret;exact ⟨by rw [Ha f.out g.out l.out k.out (Or.inl F)];rfl,a⟩
   by_cases G:1<(M i).sign
   ·go_wp2_with fail
    go_ret;exact ⟨by rw [Ha f.out g.out l.out k.out (Or.inr G)];rfl,a⟩
   by_cases z:100<(M i).formula.size
   ·have q:100<((M i).formula.size:Int):=by omega
    go_wp2_with fail;go_ret;exact ⟨by rw [KA f.out g.out l.out k.out (by omega) z];rfl,a⟩
   have q:((M i).formula.size:Int)≤100:=by omega
   go_wp2_with fail;go_ret;exact ⟨by rw [KB f.out g.out l.out k.out (by omega) z];rfl,a⟩
  rw [hk] at h;have g:=aa hk;clear hk;go_wp2_with fail;refine h.mono ?_;rintro e w2 ⟨rfl,c⟩;go_wp2_with fail;go_ret;exact ⟨by rw [Ld f.out g.out];rfl,ae u c⟩
 rw [es t,aj (by decide)] at m
 have f:=aa t;clear t
 go_enter Tryz.func109,Tryz.ntmps109
 go_wp2_with fail;refine (m _).mono ?_;rintro e w1 ⟨rfl,d⟩;have u:Bl w w1:=ae (by go_grown) d
 clear d;go_wp2_with fail;go_ret;exact ⟨by rw [Lc f.out];rfl,u⟩
def dP (w:World) (A:Option Addr) (cap n:Nat) (M:Nat→Mem):Prop:=n≤cap∧(n=0∨∃ b o,A=some ⟨b,o,none⟩∧b8 w b o n M)
theorem dP.later {w w':World} {A:Option Addr} {cap n:Nat} {M:Nat→Mem} (h:dP w A cap n M) (e:Bl w w'):dP w' A cap n M:=by
 obtain ⟨c,a | ⟨b,o,a,d⟩⟩:=h
 ·exact ⟨c,Or.inl a⟩
 exact ⟨c,Or.inr ⟨b,o,a,d.later e⟩⟩
theorem eD {d:Dm} (h:bR d≠0):au d=(-1,bR d):=by
 unfold bR at h ⊢;unfold au
 split
 ·rfl
 split
 ·rfl
 split
 ·rfl
 split
 ·rfl
 rename_i h1 h2 h3 h4
 rw [if_neg h1,if_neg h2,if_neg h3,if_neg h4] at h;exact absurd rfl h
theorem lS {d:Dm} (h:bR d=0):au d=jF d.mem d.n 0∧1≤d.n∧d.n≤12:=by
 unfold bR at h;unfold au
 split at h
 ·simp at h
 split at h
 ·simp at h
 split at h
 ·simp at h
 split at h
 ·simp at h
 rename_i h1 h2 h3 h4
 rw [if_neg h1,if_neg h2,if_neg h3,if_neg h4];exact ⟨rfl,by omega,by omega⟩
def aI (w:World) (d:Dm) (A:Option Addr) (cap T:Nat):World:=w.alloc (.cells #[.string d.name,.int .i64 d.solve,.slice A d.n cap] T)
theorem dD (w:World) (d:Dm) (A:Option Addr) (cap T:Nat):(aI w d A cap T).cell? ⟨w.heap.size,0,none⟩=some (.string d.name)∧(aI w d A cap T).cell? ⟨w.heap.size,1,none⟩=some (.int .i64 d.solve)∧(aI w d A cap T).cell? ⟨w.heap.size,2,none⟩=some (.slice A d.n cap):=by unfold aI;exact ⟨by simp,by simp,by simp⟩
theorem aZ (w:World) (d:Dm) (A:Option Addr) (cap T:Nat):(aI w d A cap T).heap.size=w.heap.size+1:=by unfold aI;simp
theorem aM (w:World) (d:Dm) (A:Option Addr) (cap T:Nat):Bl w (aI w d A cap T):=by unfold aI;go_grown
theorem jY (d:Dm) (A:Option Addr) (cap:Nat) (w:World) (F:dP w A cap d.n d.mem):Rt 74 #[cA d A cap] w (.tuple #[.int .i64 (au d).1,errV (au d).2]):=by
 have f:=Ao d A cap;unfold cA at f ⊢;have J:=aa F;clear F
 by_cases l:bR d=0
 ·rw [l,errV_zero] at f
  obtain ⟨t,L,B⟩:=lS l;have v:=aa t;clear t l
  go_enter Tryz.func74,Tryz.ntmps74
  go_wp2_with fail;refine (f _).mono ?_;rintro e w1 ⟨rfl,a⟩;have G:=aZ w d A cap 37;have q:Bl w w1:=ae (aM w d A cap 37) a;have N:w.heap.size<w1.heap.size:=by
   have:=a.size
   change (aI w d A cap 37).heap.size≤_ at this
   omega
  have K:w1.cell? ⟨w.heap.size,2,none⟩=some (.slice A d.n cap):=(a.cell (p:=⟨w.heap.size,2,none⟩) (by show w.heap.size<(aI w d A cap 37).heap.size;rw [G];omega)).trans (dD w d A cap 37).2.2
  obtain ⟨s,O | ⟨b,o,rfl,r⟩⟩:=J.out.later q
  ·omega
  have z:=aa r;have H:(d.n:Int)≤12:=by omega
  clear a G r f;go_wp2_with fail
  go_loopg [15] d.n (fun g s15 wr => ∃ (k:Nat),k≤d.n∧g=d.n-k∧s15=.int .i64 k∧jF d.mem (d.n-k) k=jF d.mem d.n 0∧Bl w1 wr)
  case atStart=>exact ⟨0,zU,rfl,rfl,rfl,zS⟩
  case round =>
   obtain ⟨k,P,rfl,rfl,i,h⟩:=hrel
   by_cases D:k<d.n
   ·have c:=wn b o d.n cap k d.mem wr B s D (z.out.later h)
    have M:(k:Int)<(d.n:Int):=by omega
    have x:=aa i;have E:=aa h;have u:d.n-k=(d.n-(k+1))+1:=by omega
    have c2:wr.cell? ⟨w.heap.size,2,none⟩=some (.slice (some ⟨b,o,none⟩) d.n cap):=aL h N K;clear i h
    by_cases m:aS d.mem k=0
    ·rw [m,errV_zero] at c
     have y:=aa m;clear m;go_wp2_with fail;refine c.mono ?_;rintro e w2 ⟨rfl,j⟩;go_wp2_with fail
     go_roundg (d.n-(k+1))
     case measure=>omega
     case rel=>exact ⟨k+1,by omega,rfl,by go_num,by rw [←x.out,u,mL _ y.out],ae E.out j⟩
    rw [aj m] at c;have y:=aa m;clear m;go_wp2_with fail;refine c.mono ?_;rintro e w2 ⟨rfl,j⟩;go_wp2_with fail
    go_ret2
    refine ⟨?_,ae q (ae E.out j)⟩;rw [v.out,←x.out,u,dp _ y.out]
    simp [errV,y.out]
   have C:k=d.n:=by omega
   have x:=aa i;clear i;subst C;go_wp2_with fail
   go_ret2
   refine ⟨?_,ae q h⟩;rw [v.out,←x.out,Nat.sub_self]
   rfl
 rw [aj l] at f;have v:Hid (au d=(-1,bR d)):=eD l;have I:=aa l;clear l
 go_enter Tryz.func74,Tryz.ntmps74
 go_wp2_with fail;refine (f _).mono ?_;rintro e w1 ⟨rfl,a⟩;have q:Bl w w1:=ae (aM w d A cap 37) a;clear a;go_wp2_with fail
 go_ret2
 refine ⟨?_,q⟩;rw [v.out]
 simp [errV,I.out]
end Go.Proofs.YthlhjjabkgpenaaGreatDoor
