/-
  What is read of an argument of the types api.Outline and api.Dim: where its dims and members lie, and what they hold.
-/
import Derived.Deep.Slices
import Derived.Deep.Strs
import Derived.Deep.Fields
import Derived.BigQuiet
import Derived.WalkSmall
import Derived.Deep.AppendLies
import Derived.Deep.RegionLaw
import Derived.Deep.DeepCutAuto
import Derived.Deep.OwnRows
import Derived.Lib.Builder
import Derived.Shelf.Small.Strs
import Derived.Deep.RegionHeld3
import Derived.Test.YthlhjjabkgpenaaGreatDoorJTAC
import Derived.Test.YthlhjjabkgpenaaGreatDoorJTAD
set_option maxHeartbeats 64000000
namespace Go.Proofs.YthlhjjabkgpenaaGreatDoor
open Go Go.ChangeShapes Go.WideShapes Go.ChangeAt Go.RowKit Go.Deep
set_option maxRecDepth 100000
section
variable {H:Type} {enc:TypeId×Value→H} {w:World} {held:Bool}
theorem jd {P:Program} {base:Nat} {sp:Nat→Bool} {t:TypeId} {b:Array Field} {fuel:Nat} {cs:List Value} {x:DataW H×List MemPlace} (q:P.underlying t=some (.struct b)) (a:oneCellFields P b=true) (h:DataW.trod enc P w base sp held fuel t cs=some x) :
  cs.length=P.cellsOf t∧∃ n,∀ (i:Nat) (f:Field) (v:Value),b[i]?=some f→cs[i]?=some v→∃ y,DataW.trod enc P w base sp held n f.type [v]=some y:=by
 obtain ⟨u,n,_,_,m,s,l⟩:=DataW.trod_struct q h;refine ⟨m,n,fun i f v c r=>?_⟩
 obtain ⟨p,k⟩:=hone_of a i f c;have o:i<b.size:=(zY c).1;have e:=l i f c;rw [p,k] at e;obtain ⟨d,g⟩:=List.getElem?_eq_some_iff.1 r;have j:(cs.drop i).take 1=[v]:=by rw [List.drop_eq_getElem_cons d,g];rfl
 rw [j,zX (by omega)] at e
 exact ⟨_,e⟩
theorem Da:Tryz.prog.cellsOf 53=4:=by kernel_rfl
theorem C9:Tryz.prog.cellsOf 37=3:=by kernel_rfl
theorem Hm:Tryz.prog.cellsOf 24=1:=by kernel_rfl
theorem ue {base:Nat} {sp:Nat→Bool} {fuel:Nat} {cs:List Value} {x:DataW H×List MemPlace} (h:DataW.trod enc Tryz.prog w base sp held fuel 53 cs=some x) :
  ∃ m:Mem,cs=[.string m.name,.int .i64 m.parent,.int .i64 m.sign,.string m.formula]:=by
 obtain ⟨f,n,a⟩:=jd Tryz.underlying53 (by kernel_rfl) h
 rw [Da] at f
 match cs,f with
 | [v0,v1,v2,v3],_ =>
  obtain ⟨l,g⟩:=a 0 _ v0 rfl rfl;obtain ⟨o,i⟩:=a 1 _ v1 rfl rfl;obtain ⟨p,j⟩:=a 2 _ v2 rfl rfl;obtain ⟨q,k⟩:=a 3 _ v3 rfl rfl;obtain ⟨s0,b,-,-⟩:=DataW.trod_string Tryz.underlying9 g;obtain ⟨n1,c,-,-⟩:=DataW.trod_int Tryz.underlying3 i;obtain ⟨n2,d,-,-⟩:=DataW.trod_int Tryz.underlying3 j;obtain ⟨s3,e,-,-⟩:=DataW.trod_string Tryz.underlying9 k
  simp at b c d e
  exact ⟨⟨s0,n1,n2,s3⟩,by rw [b,c,d,e]⟩
theorem dJ {a:Addr} {k:Nat} {v:Value} (h:w.cell? (a.add k)=some v) (b:k=0):a=⟨a.block,a.off,none⟩:=by
 subst b;have e:(a.add 0)=a:=by simp [Addr.add]
 rw [e] at h;have:=World.cell?_spot h;cases a
 simp_all
theorem bS (b o k:Nat):(⟨b,o,none⟩:Addr).add k=⟨b,o+k,none⟩:=by
 unfold Addr.add
 by_cases a:k=0
 ·subst a;simp
 rw [if_neg a]
theorem rO {fuel:Nat} {cs:List Value} {x:DataW H×List MemPlace} (h:DataW.trod enc Tryz.prog w 0 (fun _=>true) held fuel 35 cs=some x) :
  ∃ (A:Option Addr) (cap n:Nat) (M:Nat→Mem),cs=[.slice A n cap]∧dP w A cap n M:=by
 rcases open_slice Tryz.underlying35 h with ⟨rfl,-⟩ | ⟨a,len,cap,m,n,D,Pl,rfl,-,q,-,f,-,j⟩
 ·exact ⟨none,0,0,fun _=>⟨default,0,0,default⟩,rfl,zT,Or.inl rfl⟩
 rw [Da] at j
 simp at f
 subst f
 haveI:Inhabited Mem:=⟨⟨default,0,0,default⟩⟩
 have c:∀ i,i<len→∃ y:Mem,w.cells? 0 (a.add (i*4)) 4=some [.string y.name,.int .i64 y.parent,.int .i64 y.sign,.string y.formula]:=fun i e=>by
  obtain ⟨k,l,o⟩:=j i (by omega)
  obtain ⟨y,rfl⟩:=ue o;exact ⟨y,l⟩
 obtain ⟨M,d⟩:=choose_lt c;refine ⟨some a,_,len,M,rfl,q,?_⟩
 rcases Nat.eq_zero_or_pos len with h0 | h0
 ·exact Or.inl h0
 right
 have c0:=(World.cells?_some (d 0 h0)).2.2 0 (by omega)
 rw [add_add] at c0;have g:=dJ c0 (by omega)
 have p:=World.block_lt_of_cell? _ _ c0;refine ⟨a.block,a.off,by rw [←g],by simpa [Addr.add] using p,fun i e=>?_⟩
 have b:=(World.cells?_some (d i e)).2.2;rw [g] at b;simp only [bS,Nat.add_assoc] at b;refine ⟨?_,?_,?_,?_⟩
 ·have:=b 0 (by omega);simpa using this
 ·have:=b 1 (by omega);simpa [Nat.add_assoc] using this
 ·have:=b 2 (by omega);simpa [Nat.add_assoc] using this
 have:=b 3 (by omega);simpa [Nat.add_assoc] using this
theorem EF {fuel:Nat} {cs:List Value} {x:DataW H×List MemPlace} (h:DataW.trod enc Tryz.prog w 0 (fun _=>true) held fuel 37 cs=some x) :
  ∃ (d:Dm) (A:Option Addr) (c:Nat),cs=[.string d.name,.int .i64 d.solve,.slice A d.n c]∧dP w A c d.n d.mem:=by
 obtain ⟨g,n,a⟩:=jd Tryz.underlying37 (by kernel_rfl) h
 rw [C9] at g
 match cs,g with
 | [v0,v1,v2],_ =>
  obtain ⟨o,i⟩:=a 0 _ v0 rfl rfl;obtain ⟨p,j⟩:=a 1 _ v1 rfl rfl;obtain ⟨q,l⟩:=a 2 _ v2 rfl rfl;obtain ⟨s0,b,-,-⟩:=DataW.trod_string Tryz.underlying9 i;obtain ⟨n1,e,-,-⟩:=DataW.trod_int Tryz.underlying3 j;obtain ⟨A,cap,k,M,f,m⟩:=rO l
  simp at b e f
  exact ⟨⟨s0,n1,k,M⟩,A,cap,by rw [b,e,f],m⟩
theorem Bp {fuel:Nat} {cs:List Value} {x:DataW H×List MemPlace} (h:DataW.trod enc Tryz.prog w 0 (fun _=>true) held fuel 22 cs=some x) :
  ∃ (A0:Option Addr) (cap n:Nat) (D:Nat→Dm) (A:Nat→Option Addr) (C:Nat→Nat),cs=[.slice A0 n cap]∧bd w A0 cap n D A C:=by
 rcases open_slice Tryz.underlying22 h with ⟨rfl,-⟩ | ⟨a,len,cap,m,n,D,Pl,rfl,-,s,-,f,-,l⟩
 ·exact ⟨none,0,0,fun _=>⟨default,0,0,fun _=>⟨default,0,0,default⟩⟩,fun _=>none,fun _=>0,rfl,zT,Or.inl rfl⟩
 rw [C9] at l
 simp at f
 subst f
 haveI:Inhabited Dm:=⟨⟨default,0,0,fun _=>⟨default,0,0,default⟩⟩⟩
 have b:∀ i,i<len→∃ y:Dm×Option Addr×Nat,w.cells? 0 (a.add (i*3)) 3=some [.string y.1.name,.int .i64 y.1.solve,.slice y.2.1 y.1.n y.2.2]∧dP w y.2.1 y.2.2 y.1.n y.1.mem:=fun i j=>by
  obtain ⟨o,p,q⟩:=l i (by omega)
  obtain ⟨d,A,c,rfl,f⟩:=EF q;exact ⟨(d,A,c),p,f⟩
 obtain ⟨Y,g⟩:=choose_lt b;refine ⟨some a,_,len,fun i=>(Y i).1,fun i=>(Y i).2.1,fun i=>(Y i).2.2,rfl,s,?_⟩
 rcases Nat.eq_zero_or_pos len with h0 | h0
 ·exact Or.inl h0
 right
 have c0:=(World.cells?_some (g 0 h0).1).2.2 0 (by omega)
 rw [add_add] at c0;have k:=dJ c0 (by omega)
 have r:=World.block_lt_of_cell? _ _ c0;refine ⟨a.block,a.off,by rw [←k],by simpa [Addr.add] using r,fun i j=>?_⟩
 have e:=(World.cells?_some (g i j).1).2.2;rw [k] at e;simp only [bS,Nat.add_assoc] at e;refine ⟨?_,?_,?_,(g i j).2⟩
 ·have:=e 0 (by omega);simpa using this
 ·have:=e 1 (by omega);simpa [Nat.add_assoc] using this
 have:=e 2 (by omega);simpa [Nat.add_assoc] using this
theorem KE {α:Type} {a:Array α} (h:a.size=1):∃ x,a=#[x]:=by
 rcases a with ⟨l⟩
 match l,h with
 | [x],_=>exact ⟨x,rfl⟩
theorem KF {α:Type} {a:Array α} (h:a.size=3):∃ x y z,a=#[x,y,z]:=by
 rcases a with ⟨l⟩
 match l,h with
 | [x,y,z],_=>exact ⟨x,y,z,rfl⟩
theorem rP {r:Reach} {b0:Nat} {v:Value} {d:DataW H} {p:List MemPlace} (g:Value.okWide Tryz.prog w r b0 24 v) (h:DataW.Trod enc Tryz.prog w 0 (fun _=>true) held 24 v d p) :
  ∃ (A0:Option Addr) (cap n:Nat) (D:Nat→Dm) (A:Nat→Option Addr) (C:Nat→Nat),v=.agg #[.slice A0 n cap]∧bd w A0 cap n D A C:=by
 obtain ⟨cs,rfl,a⟩:=okWide_struct Tryz.underlying24 g;obtain ⟨c0,rfl⟩:=KE (a.trans Hm);obtain ⟨fuel,f⟩:=h;obtain ⟨-,n,i⟩:=jd Tryz.underlying24 (by kernel_rfl) f
 obtain ⟨j,b⟩:=i 0 _ c0 rfl rfl;obtain ⟨A0,cap,k,D,A,C,e,c⟩:=Bp b
 simp at e
 exact ⟨A0,cap,k,D,A,C,by rw [e],c⟩
end
def jG (w:World) (b o:Nat) (l:List Nd):Prop:=b<w.heap.size∧∀ k,k<l.length→w.cell? ⟨b,o+k*5,none⟩=some (.int .i64 (l.getD k bH).op)∧w.cell? ⟨b,o+k*5+1,none⟩=some (.int .i64 (l.getD k bH).n)∧w.cell? ⟨b,o+k*5+2,none⟩=some (.string (l.getD k bH).name)∧w.cell? ⟨b,o+k*5+3,none⟩=some (.int .i64 (l.getD k bH).left)∧w.cell? ⟨b,o+k*5+4,none⟩=some (.int .i64 (l.getD k bH).right)
theorem jG.later {w w':World} {b o:Nat} {l:List Nd} (h:jG w b o l) (a:Bl w w'):jG w' b o l:=by
 refine ⟨zW h.1 a.size,fun k i=>?_⟩
 obtain ⟨c,d,e,f,g⟩:=h.2 k i;exact ⟨aL a h.1 c,aL a h.1 d,aL a h.1 e,aL a h.1 f,aL a h.1 g⟩
def fQ (w:World) (A:Option Addr) (cap:Nat) (l:List Nd):Prop:=l.length≤cap∧cap≤9223372036854775807∧(l=[]∨∃ b o,A=some ⟨b,o,none⟩∧jG w b o l)
theorem fQ.later {w w':World} {A:Option Addr} {cap:Nat} {l:List Nd} (h:fQ w A cap l) (f:Bl w w'):fQ w' A cap l:=by
 obtain ⟨d,c,a | ⟨b,o,a,e⟩⟩:=h
 ·exact ⟨d,c,Or.inl a⟩
 exact ⟨d,c,Or.inr ⟨b,o,a,e.later f⟩⟩
theorem fQ.nil (w:World) (A:Option Addr) (cap:Nat) (h:cap≤9223372036854775807):fQ w A cap []:=⟨zU,h,Or.inl rfl⟩
end Go.Proofs.YthlhjjabkgpenaaGreatDoor
namespace Go.Proofs.YthlhjjabkgpenaaGreatDoor
open Go.ChangeShapes Go.WideShapes Go.ChangeAt Go.RowKit
set_option maxRecDepth 20000
theorem qo (c:Int) (w:World):Rt 283 #[.int .u8 c] w (.bool (bV c)):=by
 unfold bV
 by_cases a:48≤c
 ·go_enter Tryz.func283,Tryz.ntmps283
  go_wp2;go_ret;exact ⟨by simp <;> omega,by go_grown⟩
 go_enter Tryz.func283,Tryz.ntmps283
 go_wp2;go_ret;exact ⟨by simp <;> omega,by go_grown⟩
theorem islet_any (c:Int) (w:World):Rt 261 #[.int .u8 c] w (.bool (bD c)):=by
 unfold bD
 by_cases a:97≤c
 ·go_enter Tryz.func261,Tryz.ntmps261
  go_wp2;go_ret;exact ⟨by simp <;> omega,by go_grown⟩
 go_enter Tryz.func261,Tryz.ntmps261
 go_wp2;go_ret;exact ⟨by simp <;> omega,by go_grown⟩
theorem pS (op:Int) (w:World):Rt 238 #[.int .i64 op] w (.int .i64 (bindN op)):=by
 unfold bindN
 by_cases a:op=3
 ·subst a
  go_enter Tryz.func238,Tryz.ntmps238
  go_wp2;go_ret;exact ⟨by simp,by go_grown⟩
 by_cases b:op=4
 ·subst b
  go_enter Tryz.func238,Tryz.ntmps238
  go_wp2;go_ret;exact ⟨by simp,by go_grown⟩
 by_cases c:op=5
 ·subst c
  go_enter Tryz.func238,Tryz.ntmps238
  go_wp2;go_ret;exact ⟨by simp,by go_grown⟩
 by_cases d:op=6
 ·subst d
  go_enter Tryz.func238,Tryz.ntmps238
  go_wp2;go_ret;exact ⟨by simp,by go_grown⟩
 rw [if_neg (by omega),if_neg (by omega)]
 go_enter Tryz.func238,Tryz.ntmps238
 go_wp2;go_ret;exact ⟨rfl,by go_grown⟩
theorem AM (op:Int) (w:World):Rt 221 #[.int .i64 op] w (.bool (decide (op≠1∧op≠2))):=by
 by_cases a:op=1
 ·subst a
  go_enter Tryz.func221,Tryz.ntmps221
  go_wp2;go_ret;exact ⟨by simp,by go_grown⟩
 by_cases b:op=2
 ·subst b
  go_enter Tryz.func221,Tryz.ntmps221
  go_wp2;go_ret;exact ⟨by simp,by go_grown⟩
 go_enter Tryz.func221,Tryz.ntmps221
 go_wp2;go_ret;exact ⟨by simp [a,b],by go_grown⟩
def brk (t:ByteArray) (b:Bool):ByteArray:=if b then ⟨#[40]⟩ ++ t ++ ⟨#[41]⟩ else t
theorem cM (s:ByteArray) (k:Nat) (h:k<s.size):((s[k]'h).toNat:Int)=byteN s k:=by
 unfold byteN;rw [List.getD,zX (by simpa using h)]
 rfl
theorem AQ {p:Int→Bool} {t:ByteArray} {f i:Nat} (h:p (byteN t i)=false):leadTo p t (f+1) i=i:=by simp [leadTo,h]
theorem tF {p:Int→Bool} {t:ByteArray} {f i:Nat} (h:p (byteN t i)=true):leadTo p t (f+1) i=leadTo p t f (i+1):=by simp [leadTo,h]
theorem tE (p:Int→Bool) (F:Nat) (q:∀ (args:Array Value) (w:World),(callFunc F args).run Tryz.prog w=.ok (.enter F args) w) (o:∀ (c:Int) (w:World),Rt F #[.int .u8 c] w (.bool (p c))) (t:ByteArray) (w:World) (y:t.size≤4611686018427387904):Rt 285 #[.string t,.func (.func F) #[] #[]] w (.int .i64 (leadN p t)):=by
 have s:=aa o;unfold leadN;clear o
 go_enter Tryz.func285,Tryz.ntmps285
 go_wp2_with fail
 go_loopg [8] t.size (fun g s8 wr => ∃ (k:Nat),k≤t.size∧g=t.size-k∧s8=.int .i64 k∧leadTo p t (t.size-k) k=leadTo p t t.size 0∧Bl w wr)
 case atStart=>exact ⟨0,zU,rfl,rfl,rfl,zS⟩
 case round =>
  obtain ⟨k,x,rfl,rfl,r,f⟩:=hrel;have j:=aa r;have l:=aa f;clear r f
  by_cases n:k<t.size
  ·have u:(k:Int)<(t.size:Int):=by omega
   have v:(t.size:Int)≤4611686018427387904:=by omega
   have d:Hid (t.size-k=(t.size-(k+1))+1):=by show _=_;omega
   have a:=s.out (byteN t k);have h:=cM t k n;cases hb:p (byteN t k)
   ·rw [hb] at a
    have i:=aa hb;clear hb;generalize byteN t k=c at a h;go_wp2_with fail;refine (a _).mono ?_;rintro e w1 ⟨rfl,b⟩;go_wp2_with fail;go_ret;exact ⟨by rw [←j.out,d.out,AQ i.out];rfl,ae l.out b⟩
   rw [hb] at a;have i:=aa hb;clear hb;generalize byteN t k=c at a h;go_wp2_with fail;refine (a _).mono ?_;rintro e w1 ⟨rfl,b⟩;go_wp2_with fail
   go_roundg (t.size-(k+1))
   case measure=>omega
   case rel=>exact ⟨k+1,by omega,rfl,by go_num,by rw [←j.out,d.out,tF i.out],ae l.out b⟩
  have m:k=t.size:=by omega
  subst m;go_wp2_with fail;go_ret;exact ⟨by rw [←j.out,Nat.sub_self];rfl,l.out⟩
theorem FY (args:Array Value) (w:World):(callFunc 283 args).run Tryz.prog w=.ok (.enter 283 args) w:=by simp [go_sem]
theorem FZ (args:Array Value) (w:World):(callFunc 261 args).run Tryz.prog w=.ok (.enter 261 args) w:=by simp [go_sem]
theorem AS (t:ByteArray) (w:World) (a:t.size≤4611686018427387904):Rt 285 #[.string t,.func (.func 283) #[] #[]] w (.int .i64 (leadN bV t)):=tE bV 283 FY qo t w a
theorem AT (t:ByteArray) (w:World) (a:t.size≤4611686018427387904):Rt 285 #[.string t,.func (.func 261) #[] #[]] w (.int .i64 (leadN bD t)):=tE bD 261 FZ islet_any t w a
theorem ac {B:Nat} {a w:World} (h:Below B a w) (n:Nat):Below B a (w.drewN n):=h.trans ⟨rfl,rfl,rfl,zT,fun _ _=>rfl⟩
def cG (w:World) (q:Nat) (s:ByteArray) (a o:Nat) (tv:Value):Prop:=w.heap[q]?=some (.cells #[.string s,.int .i64 a,.int .i64 o,tv] 301 (0,0))
section
variable {w w':World} {q a o:Nat} {s:ByteArray} {tv:Value}
theorem cG.lt (h:cG w q s a o tv):q<w.heap.size:=(zY h).1
theorem cG.c0 (h:cG w q s a o tv):w.cell? ⟨q,0,none⟩=some (.string s):=by unfold cG at h;simp [World.cell?,h]
theorem cG.c1 (h:cG w q s a o tv):w.cell? ⟨q,1,none⟩=some (.int .i64 a):=by unfold cG at h;simp [World.cell?,h]
theorem cG.c2 (h:cG w q s a o tv):w.cell? ⟨q,2,none⟩=some (.int .i64 o):=by unfold cG at h;simp [World.cell?,h]
theorem cG.c3 (h:cG w q s a o tv):w.cell? ⟨q,3,none⟩=some tv:=by unfold cG at h;simp [World.cell?,h]
theorem cG.fr (h:cG w q s a o tv) (j:Nat):w.frozen? ⟨q,j,none⟩=false:=by unfold cG at h;simp [World.frozen?,h]
theorem cG.later (h:cG w q s a o tv) (b:Bl w w'):cG w' q s a o tv:=(b.block q h.lt).trans h
theorem cG.same (h:cG w q s a o tv) (b:w'.heap[q]?=w.heap[q]?):cG w' q s a o tv:=b.trans h
theorem cG.set1 (h:cG w q s a o tv) (n:Nat):cG (w.setCell ⟨q,1,none⟩ (.int .i64 n)) q s n o tv:=by
 unfold cG at *;rw [setCell_eq_setRow w q 1 _ _ (0,0) _ h,setRow_heap w q _ _ _ _ h]
 rfl
theorem cG.set2 (h:cG w q s a o tv) (n:Nat):cG (w.setCell ⟨q,2,none⟩ (.int .i64 n)) q s a n tv:=by
 unfold cG at *;rw [setCell_eq_setRow w q 2 _ _ (0,0) _ h,setRow_heap w q _ _ _ _ h]
 rfl
end
theorem gO (q a o:Nat) (s:ByteArray) (tv:Value) (w:World) (g:a≤s.size) (b:cG w q s a o tv):Rt 281 #[.pointer (some ⟨q,0,none⟩)] w (.int .u8 (nextB s a)):=by
 have c0:=b.c0;have c1:=b.c1;have h:=b.lt;clear b
 by_cases e:a=s.size
 ·subst e
  have c:nextB s s.size=0:=by simp [nextB]
  rw [c]
  go_enter Tryz.func281,Tryz.ntmps281
  go_wp2_with fail
  go_quiet (fail)
  go_wp2_with fail;go_ret;exact ⟨rfl,ac (zS) _⟩
 have d:a<s.size:=by omega
 have c:nextB s a=byteN s a:=by simp [nextB,e]
 have hne : ¬ (a:Int)=(s.size:Int):=by omega
 have f:=cM s a d;rw [c]
 go_enter Tryz.func281,Tryz.ntmps281
 go_wp2_with fail
 go_quiet (fail)
 go_wp2_with fail
 go_quiet (fail)
 go_wp2_with fail;go_ret;exact ⟨rfl,ac (ac (zS) _) _⟩
theorem o8 (q a o:Nat) (s:ByteArray) (tv:Value) (w:World) (b:cG w q s a o tv):Calls Tryz.prog 265 #[.pointer (some ⟨q,0,none⟩)] w fun e w'=>e=.panicked [{ v:=.iface 299 (.int .i64 a),recovered:=false }]∧Bl w w':=by
 have c1:=b.c1;clear b
 go_enter Tryz.func265,Tryz.ntmps265
 go_wp2;exact ⟨rfl,rfl,zS⟩
structure Kept (N:Nat) (X:Nat→Prop) (w w':World):Prop where
 os:w'.os=w.os
 tape:w'.tape=w.tape
 output:w'.output=w.output
 size:w.heap.size≤w'.heap.size
 block:∀ k,k<N→¬ X k→w'.heap[k]?=w.heap[k]?
section
variable {N:Nat} {X Y:Nat→Prop} {w w' w'':World}
theorem Kept.refl (N:Nat) (X:Nat→Prop) (w:World):Kept N X w w:=⟨rfl,rfl,rfl,zT,fun _ _ _=>rfl⟩
theorem Kept.trans (h:Kept N X w w') (k:Kept N X w' w''):Kept N X w w'':=⟨k.os.trans h.os,k.tape.trans h.tape,k.output.trans h.output,zV h.size k.size,fun i a b=>(k.block i a b).trans (h.block i a b)⟩
theorem Kept.wide (h:Kept N X w w') (b:∀ k,X k→Y k):Kept N Y w w':=⟨h.os,h.tape,h.output,h.size,fun i a c=>h.block i a fun e=>c (b i e)⟩
theorem aq (h:Bl w w') (a:N≤w.heap.size):Kept N X w w':=⟨h.os,h.tape,h.output,h.size,fun i b _=>h.block i (zW b a)⟩
theorem dZ {q:Nat} (h:w.grownBy w' (some q)) (a:N≤w.heap.size) (b:X q):Kept N X w w':=⟨h.os,h.tape,h.output,h.size,fun i c d=>h.block i (zW c a) fun e=>d (by cases e;exact b)⟩
end
theorem ao (w:World) (q j k:Nat) (v:Value) (h:k≠q):(w.setCell ⟨q,j,none⟩ v).heap[k]?=w.heap[k]?:=by
 simp only [World.setCell];rw [Array.getElem?_modify,if_neg (fun e=>h e.symm)]
theorem cZ (w:World) (r:Option Nat):w.grownBy w r:=⟨rfl,rfl,rfl,zT,fun _ _ _=>rfl⟩
theorem iu {w w':World} {r:Option Nat} (h:Bl w w'):w.grownBy w' r:=⟨h.os,h.tape,h.output,h.size,fun i a _=>h.block i a⟩
theorem dx {w w':World} {q j:Nat} {v:Value} (h:w.grownBy w' (some q)):w.grownBy (w'.setCell ⟨q,j,none⟩ v) (some q) :=
 ⟨h.os,h.tape,h.output,by simpa using h.size,fun k c b=>by
  have a:k≠q:=fun e=>b (by rw [e])
  exact (ao w' q j k v a).trans (h.block k c b)⟩
inductive Stp:Nat→Bool→ByteArray→Nat→Bool→Prop
 | opn (o:Nat) (t:ByteArray):t.size=1→byteN t 0=40→Stp o false t (o+1) false
 | cls (o:Nat) (t:ByteArray):t.size=1→byteN t 0=41→Stp (o+1) true t o true
 | num (o:Nat) (t:ByteArray):1≤t.size→t.size≤7→(∀ i,i<t.size→bV (byteN t i)=true)→Stp o false t o true
 | nam (o:Nat) (t:ByteArray):1≤t.size→(∀ i,i<t.size→bD (byteN t i)=true)→Stp o false t o true
 | sgn (o:Nat) (t:ByteArray):t.size=1→0≤signI (byteN t 0)→Stp o true t o false
structure Tkr (S:Type) where
 N:Nat
 p:Nat
 M:Nat
 F:Nat
 first:Array Value
 tk:S→ByteArray→S
 I:S→World→Prop
 G:Nat→Nat→Bool→S→Prop
def Tkr.fv {S:Type} (T:Tkr S):Value:=.func (.func T.F) T.first #[]
structure Tkr.Ok {S:Type} (T:Tkr S):Prop where
 small:T.M≤4611686018427387904
 ent:∀ (args:Array Value) (w:World),(callFunc T.F args).run Tryz.prog w=.ok (.enter T.F args) w
 stay:∀ (q:Nat) (st:S) (w w':World),q<T.N→q≠T.p→T.I st w→w.grownBy w' (some q)→T.I st w'
 step:∀ (a o:Nat) (ph:Bool) (st:S) (t:ByteArray) (o':Nat) (ph':Bool),Stp o ph t o' ph'→T.G a o ph st→a+t.size≤T.M→T.G (a+t.size) o' ph' (T.tk st t)
 call:∀ (a o:Nat) (ph:Bool) (st:S) (t:ByteArray) (o':Nat) (ph':Bool) (w:World),Stp o ph t o' ph'→T.G a o ph st→a+t.size≤T.M→T.N≤w.heap.size→T.I st w→Calls Tryz.prog T.F (T.first ++ #[.string t]) w fun e w'=>e=.returned (.tuple #[])∧T.I (T.tk st t) w'∧Kept T.N (fun k=>k=T.p) w w'
theorem dB {s:ByteArray} {a n:Nat} (h:a+n≤s.size):(s.extract a (a+n)).size=n:=by rw [ByteArray.size_extract];omega
theorem ig {S:Type} (T:Tkr S) (d:T.Ok) (q a o oc n o':Nat) (ph ph':Bool) (s:ByteArray) (st:S) (w:World) (hs:s.size≤T.M) (E:a+n≤s.size) (v:q<T.N) (f:q≠T.p) (r:T.N≤w.heap.size)
  (g:cG w q s a oc T.fv) (C:T.I st w) (B:T.G a o ph st) (t:Stp o ph (s.extract a (a+n)) o' ph') :
  Calls Tryz.prog 282 #[.pointer (some ⟨q,0,none⟩),.int .i64 n] w fun e w'=>e=.returned (.tuple #[])∧cG w' q s (a+n) oc T.fv∧T.I (T.tk st (s.extract a (a+n))) w'∧Kept T.N (fun k=>k=T.p∨k=q) w w':=by
 have U:=d.small;have x:=dB E;obtain ⟨m,O⟩:=ax (a+n);rw [O] at E t x ⊢;have c0:=g.c0;have c1:=g.c1;have K:=g.fr 1;have H:=g.lt;have j:(a:Int)+(n:Int)=(m:Int):=by omega
 obtain ⟨W,u⟩:=ax (w.setCell ⟨q,1,none⟩ (.int .i64 (m:Int)));have b:cG W q s m oc T.fv:=by rw [←u];exact g.set1 m
 have c:w.grownBy W (some q):=by rw [←u];exact dx (cZ w _)
 have h:=d.stay q st w W v f C c;have J:Hid (∀ w',Bl W w'→Calls Tryz.prog T.F (T.first ++ #[.string (s.extract a m)]) w' fun e w''=>e=.returned (.tuple #[])∧cG w'' q s m oc T.fv∧T.I (T.tk st (s.extract a m)) w''∧Kept T.N (fun k=>k=T.p∨k=q) w w''):=by
  intro w' l;have i:T.I st w':=d.stay q st W w' v f h (iu l);refine (d.call a o ph st _ o' ph' w' t B (by omega) (zV r (zV c.size l.size)) i).mono ?_
  rintro e w'' ⟨rfl,L,A⟩;refine ⟨rfl,?_,L,?_⟩
  ·exact (b.later l).same (A.block q v f)
  have y:Kept T.N (fun k=>k=T.p∨k=q) w W:=dZ c r (Or.inr rfl)
  have z:Kept T.N (fun k=>k=T.p∨k=q) W w':=aq l (zV r c.size)
  exact (y.trans z).trans (A.wide fun k e=>Or.inl e)
 have Y:=b.c0;have Z:=b.c1;have d3:=b.c3;have D:=d.ent;have P:(a:Int)≤(m:Int):=by omega
 have Q:(m:Int)≤(s.size:Int):=by omega
 have R:(m:Int)≤4611686018427387904:=by omega
 have X:Hid T.Ok:=d;clear h c b C B t g d;unfold Tkr.fv at *
 go_enter Tryz.func282,Tryz.ntmps282
 go_wp2_with fail;clear c0 c1 K u j
 go_region_law ((go_simp;refine (J.out _ (by go_grown)).mono ?_;rintro e w2 ⟨rfl,y,z,V⟩))
 all_goals (go_end0;exact ⟨rfl,y,z,V⟩)
end Go.Proofs.YthlhjjabkgpenaaGreatDoor
namespace Go.Proofs.YthlhjjabkgpenaaGreatDoor
open Go.ChangeShapes Go.WideShapes Go.ChangeAt Go.RowKit
def fX (blank:Bool) (ka kb:Int) (r:Int×Int):Int×Int:=if ka=2∨kb=2 then (2,0) else if blank=true then (0,0) else r
def fG (fb fo:Nat) (ka na kb nb k n:Int) (er:Value):Prop := ∀ (w:World),Calls Tryz.prog 184 #[.agg #[.int .i64 ka,.int .i64 na],.agg #[.int .i64 kb,.int .i64 nb],.func (.func fb) #[] #[],.func (.func fo) #[] #[]] w fun e w'=>e=.returned (.tuple #[.agg #[.int .i64 k,.int .i64 n],er])∧Bl w w'
def la (f:Nat) (ka na kb nb k n:Int) (er:Value):Prop := ∀ (w:World),Calls Tryz.prog f #[.agg #[.int .i64 ka,.int .i64 na],.agg #[.int .i64 kb,.int .i64 nb]] w fun e w'=>e=.returned (.tuple #[.agg #[.int .i64 k,.int .i64 n],er])∧Bl w w'
theorem jj (a c:Nat) (p:Int→Int→Bool) (h:dv a) (i:su a p) (f:dv c) (ka na kb nb:Int) (d:good ka na=true) (e:good kb nb=true) (r:Int×Int) (j:mX c na nb r) :
  fG a c ka na kb nb (fX (p ka kb) ka kb r).1 (fX (p ka kb) ka kb r).2 .nilIface:=by
 intro w;unfold fX
 by_cases g:ka=2∨kb=2
 ·rw [if_pos g]
  exact wh _ _ ka na kb nb w d e (by simp;exact g)
 rw [if_neg g];have b:((fun k:Int=>k == 2) ka || (fun k:Int=>k == 2) kb)=false:=by simp;omega
 cases hpp:p ka kb
 ·rw [if_neg (by simp)]
  exact AI a c p h i f ka na kb nb w d e r j b hpp
 rw [if_pos rfl];exact wg a p h i _ ka na kb nb w d e b hpp
theorem bO {k n:Int} (h:good k n=true) : -1000000000000≤n∧n≤1000000000000:=by simp [good] at h;omega
def mi (ka na kb nb:Int):Int×Int:=fX (!(ka != 0 || kb != 0)) ka kb (eO (na+nb))
def iW (ka na kb nb:Int):Int×Int:=fX (!(ka != 0 || kb != 0)) ka kb (eO (na-nb))
def pg (ka na kb nb:Int):Int×Int:=fX (ka == 0 || kb == 0) ka kb (eO (na*nb))
def un (ka na kb nb:Int):Int×Int:=fX (ka == 0 || kb == 0) ka kb (BK na nb)
theorem Hi (ka na kb nb k n:Int) (a:Value) (h:fG 185 187 ka na kb nb k n a):la 156 ka na kb nb k n a:=by
 intro w;unfold fG at h
 go_enter Tryz.func156,Tryz.ntmps156
 go_wp2_with fail;refine (h _).mono ?_;rintro e w1 ⟨rfl,b⟩;have f:Bl w w1:=Below.trans (by go_grown) (b.mono (by simp;omega))
 obtain ⟨c,g⟩:=cB b;have d:=di b
 simp at d
 go_wp2_with fail;refine bodyPost_ret (v:=.tuple #[.agg #[.int .i64 k,.int .i64 n],a]) (by simp [results,Tryz.results156,go_sem,c]) rfl ⟨rfl,?_⟩
 go_grown
theorem yh (ka na kb nb:Int) (a:good ka na=true) (b:good kb nb=true):la 156 ka na kb nb (mi ka na kb nb).1 (mi ka na kb nb).2 .nilIface:=by
 obtain ⟨c,d⟩:=bO a;obtain ⟨e,f⟩:=bO b;exact Hi _ _ _ _ _ _ _ (jj _ _ _ yk sJ GD ka na kb nb a b _ (EO na nb c d e f))
theorem Ir (ka na kb nb k n:Int) (a:Value) (h:fG 185 186 ka na kb nb k n a):la 155 ka na kb nb k n a:=by
 intro w;unfold fG at h
 go_enter Tryz.func155,Tryz.ntmps155
 go_wp2_with fail;refine (h _).mono ?_;rintro e w1 ⟨rfl,b⟩;have f:Bl w w1:=Below.trans (by go_grown) (b.mono (by simp;omega))
 obtain ⟨c,g⟩:=cB b;have d:=di b
 simp at d
 go_wp2_with fail;refine bodyPost_ret (v:=.tuple #[.agg #[.int .i64 k,.int .i64 n],a]) (by simp [results,Tryz.results155,go_sem,c]) rfl ⟨rfl,?_⟩
 go_grown
theorem zi (ka na kb nb:Int) (a:good ka na=true) (b:good kb nb=true):la 155 ka na kb nb (iW ka na kb nb).1 (iW ka na kb nb).2 .nilIface:=by
 obtain ⟨c,d⟩:=bO a;obtain ⟨e,f⟩:=bO b;exact Ir _ _ _ _ _ _ _ (jj _ _ _ yk sJ DX ka na kb nb a b _ (Bb na nb c d e f))
theorem If (ka na kb nb k n:Int) (a:Value) (h:fG 252 253 ka na kb nb k n a):la 222 ka na kb nb k n a:=by
 intro w;unfold fG at h
 go_enter Tryz.func222,Tryz.ntmps222
 go_wp2_with fail;refine (h _).mono ?_;rintro e w1 ⟨rfl,b⟩;have f:Bl w w1:=Below.trans (by go_grown) (b.mono (by simp;omega))
 obtain ⟨c,g⟩:=cB b;have d:=di b
 simp at d
 go_wp2_with fail;refine bodyPost_ret (v:=.tuple #[.agg #[.int .i64 k,.int .i64 n],a]) (by simp [results,Tryz.results222,go_sem,c]) rfl ⟨rfl,?_⟩
 go_grown
theorem Gd (ka na kb nb:Int) (a:good ka na=true) (b:good kb nb=true):la 222 ka na kb nb (pg ka na kb nb).1 (pg ka na kb nb).2 .nilIface:=by
 obtain ⟨c,d⟩:=bO a;obtain ⟨e,f⟩:=bO b;exact If _ _ _ _ _ _ _ (jj _ _ _ Et yU wX ka na kb nb a b _ (uw na nb c d e f))
theorem Hp (ka na kb nb k n:Int) (a:Value) (h:fG 252 254 ka na kb nb k n a):la 223 ka na kb nb k n a:=by
 intro w;unfold fG at h
 go_enter Tryz.func223,Tryz.ntmps223
 go_wp2_with fail;refine (h _).mono ?_;rintro e w1 ⟨rfl,b⟩;have f:Bl w w1:=Below.trans (by go_grown) (b.mono (by simp;omega))
 obtain ⟨c,g⟩:=cB b;have d:=di b
 simp at d
 go_wp2_with fail;refine bodyPost_ret (v:=.tuple #[.agg #[.int .i64 k,.int .i64 n],a]) (by simp [results,Tryz.results223,go_sem,c]) rfl ⟨rfl,?_⟩
 go_grown
theorem FX (ka na kb nb:Int) (a:good ka na=true) (b:good kb nb=true):la 223 ka na kb nb (un ka na kb nb).1 (un ka na kb nb).2 .nilIface:=by
 obtain ⟨c,d⟩:=bO a;obtain ⟨e,f⟩:=bO b;exact Hp _ _ _ _ _ _ _ (jj _ _ _ Et yU uy ka na kb nb a b _ (rU na nb c d))
end Go.Proofs.YthlhjjabkgpenaaGreatDoor
namespace Go.Proofs.YthlhjjabkgpenaaGreatDoor
def numTo (D:Nat→Dm) (P:Nat→Nat):Nat→Nat
 | 0=>0
 | k+1=>numTo D P k*(D k).n+P k
theorem t6 {D:Nat→Dm} {P:Nat→Nat} (k:Nat) (h:∀ j,j<k→P j<(D j).n):numTo D P k<prodN D k:=by
 induction k with
 | zero=>exact Nat.one_pos
 | succ k ih =>
  have a:=ih fun j d=>h j (by omega)
  have c:=h k (by omega)
  rw [numTo,prodN];have b:(numTo D P k+1)*(D k).n≤prodN D k*(D k).n:=Nat.mul_le_mul_right _ a;rw [Nat.add_mul] at b
  omega
def restAt (D:Nat→Dm) (m n:Nat):Nat→Nat
 | 0=>n
 | r+1=>restAt D m n r / (D (m-1-r)).n
def bx (D:Nat→Dm) (m n k:Nat):Nat:=restAt D m n (m-1-k) % (D k).n
theorem xe {D:Nat→Dm} {P:Nat→Nat} {m:Nat} (h:∀ j,j<m→P j<(D j).n) (r:Nat):r≤m→restAt D m (numTo D P m) r=numTo D P (m-r):=by
 induction r with
 | zero=>intro _;rfl
 | succ r ih =>
  intro b;rw [restAt,ih (by omega)]
  have e:m-r=(m-1-r)+1:=by omega
  rw [e,numTo,show m-(r+1)=m-1-r by omega]
  have a:=h (m-1-r) (by omega)
  rw [Nat.mul_comm,Nat.mul_add_div (by omega),Nat.div_eq_of_lt a,Nat.add_zero]
theorem pY {D:Nat→Dm} {P:Nat→Nat} {m:Nat} (h:∀ j,j<m→P j<(D j).n) {k:Nat} (a:k<m):bx D m (numTo D P m) k=P k:=by
 unfold bx;rw [xe h _ (by omega),show m-(m-1-k)=k+1 by omega,numTo]
 have b:=h k a;rw [Nat.mul_comm,Nat.mul_add_mod,Nat.mod_eq_of_lt b]
theorem Bn {D:Nat→Dm} {m n:Nat} (c:n<prodN D m) (k:Nat):k≤m→numTo D (bx D m n) k=restAt D m n (m-k):=by
 have b:∀ r,r≤m→restAt D m n r<prodN D (m-r):=by
  intro r
  induction r with
  | zero=>intro _;exact c
  | succ r ih =>
   intro g;have a:=ih (by omega)
   have e:m-r=(m-1-r)+1:=by omega
   rw [e,prodN] at a;rw [restAt,show m-(r+1)=m-1-r by omega]
   exact Nat.div_lt_of_lt_mul (by rw [Nat.mul_comm];exact a)
 induction k with
 | zero =>
  intro _;have a:=b m (zT);rw [Nat.sub_self] at a;have d:prodN D 0=1:=rfl;rw [numTo,Nat.sub_zero]
  omega
 | succ k ih =>
  intro f;rw [numTo,ih (by omega)]
  have e:m-k=(m-1-k)+1:=by omega
  rw [e,restAt,show m-1-(m-1-k)=k by omega,show m-(k+1)=m-1-k by omega]
  unfold bx;have:=Nat.div_add_mod (restAt D m n (m-1-k)) (D k).n;rw [Nat.mul_comm] at this;exact this
theorem t7 {D:Nat→Dm} {m n:Nat} (a:n<prodN D m):numTo D (bx D m n) m=n:=by
 rw [Bn a m (zT),Nat.sub_self];rfl
theorem sY {D:Nat→Dm} {m n k:Nat} (h:1≤(D k).n):bx D m n k<(D k).n:=Nat.mod_lt _ h
def jE (D:Nat→Dm) (L:List Int) (i:Nat):Bool:=decide (L.getD i 0<0) || decide (((D i).n:Int)≤L.getD i 0)
def shapeErr (D:Nat→Dm) (n:Nat) (L:List Int):Int:=if L.length≠n then 3 else if 0≤findFrom (jE D L) n 0 then 1 else 0
def placeErr (D:Nat→Dm) (n:Nat) (L:List Int):Int:=if (ah D n).2.2≠0 then (ah D n).2.2 else shapeErr D n L
theorem Lg {D:Nat→Dm} {n:Nat} {L:List Int} (h:L.length≠n):shapeErr D n L=3:=by unfold shapeErr;rw [if_pos h]
theorem K2 {D:Nat→Dm} {n:Nat} {L:List Int} (h:L.length=n) (a:0≤findFrom (jE D L) n 0):shapeErr D n L=1:=by unfold shapeErr;rw [if_neg (by simpa using h),if_pos a]
theorem K3 {D:Nat→Dm} {n:Nat} {L:List Int} (h:L.length=n) (a : ¬ 0≤findFrom (jE D L) n 0):shapeErr D n L=0:=by unfold shapeErr;rw [if_neg (by simpa using h),if_neg a]
theorem Lq {D:Nat→Dm} {n:Nat} {L:List Int} (h:(ah D n).2.2≠0):placeErr D n L=(ah D n).2.2:=by unfold placeErr;rw [if_pos h]
theorem Hd {D:Nat→Dm} {n:Nat} {L:List Int} (h:(ah D n).2.2=0):placeErr D n L=shapeErr D n L:=by unfold placeErr;rw [if_neg (by simpa using h)]
structure InO (D:Nat→Dm) (n:Nat) (L:List Int):Prop where
 right:(ah D n).2.2=0
 len:L.length=n
 lo:∀ i,i<n→0≤L.getD i 0
 hi:∀ i,i<n→L.getD i 0<((D i).n:Int)
theorem aw {D:Nat→Dm} {n:Nat} (h:(ah D n).2.2=0):1≤n∧n≤4∧prodN D n≤3000∧∀ i,i<n→1≤(D i).n∧(D i).n≤12:=by
 have e:=eA h;unfold ah at h
 split at h
 ·simp at h
 split at h
 ·simp at h
 split at h
 ·rename_i h3;exact absurd h h3
 split at h
 ·simp at h
 rename_i a b c d
 exact ⟨by omega,by omega,by omega,fun i f=>⟨(aG (e.2 i f)).2.1,(aG (e.2 i f)).2.2.1⟩⟩
theorem iw {D:Nat→Dm} {n:Nat} {L:List Int} (h:placeErr D n L=0):InO D n L:=by
 unfold placeErr at h
 split at h
 ·rename_i h1;exact absurd h h1
 rename_i h1
 unfold shapeErr at h
 split at h
 ·cases h
 split at h
 ·cases h
 rename_i h2 h3
 have c:∀ i,i<n→jE D L i=false:=fun i a=>by
  rcases findFrom_cases (jE D L) n 0 with ⟨_,b⟩ | ⟨k,b,_⟩
  ·exact b i (zU) (by omega)
  rw [b] at h3;omega
 exact ⟨by simpa using h1,by simpa using h2,fun i a=>by have:=c i a;simp [jE,-List.getD_eq_getElem?_getD] at this;omega,fun i a=>by have:=c i a;simp [jE,-List.getD_eq_getElem?_getD] at this;omega⟩
theorem InO.ok {D:Nat→Dm} {n:Nat} {L:List Int} (h:InO D n L):placeErr D n L=0:=by
 rw [Hd h.right,K3 h.len];rw [bN]
 ·decide
 intro j _ c;have a:=h.lo j (by omega)
 have b:=h.hi j (by omega)
 simp [jE,-List.getD_eq_getElem?_getD]
 omega
def numI (D:Nat→Dm) (L:List Int):Nat→Int
 | 0=>0
 | k+1=>numI D L k*((D k).n:Int)+L.getD k 0
theorem oh {D:Nat→Dm} {L:List Int} (k:Nat) (h:∀ i,i<k→0≤L.getD i 0):numI D L k=(numTo D (fun i=>(L.getD i 0).toNat) k:Int):=by
 induction k with
 | zero=>rfl
 | succ k ih =>
  have:=h k (by omega)
  rw [numI,numTo,ih fun i a=>h i (by omega),Int.natCast_add,Int.natCast_mul,Int.toNat_of_nonneg this]
theorem uv {D:Nat→Dm} {k:Nat} (h:∀ j,j<k→(D j).n≤12) (a:k≤4):prodN D k≤20736:=by
 have b:=uu h;have c:12 ^ k≤12 ^ 4:=Nat.pow_le_pow_right (by decide) a
 have d:(12:Nat) ^ 4=20736:=by decide
 omega
theorem bJ {D:Nat→Dm} {n:Nat} {L:List Int} (h:InO D n L) {k:Nat} (e:k≤n):0≤numI D L k∧numI D L k<(prodN D k:Int)∧prodN D k≤20736:=by
 obtain ⟨_,d,_,a⟩:=aw h.right;rw [oh k fun i hi=>h.lo i (by omega)]
 have c:=t6 (D:=D) (P:=fun i=>(L.getD i 0).toNat) k fun j b=>by
  have:=h.lo j (by omega)
  have:=h.hi j (by omega)
  omega
 refine ⟨by omega,by omega,uv (fun j b=>(a j (by omega)).2) (by omega)⟩
def rJ (D:Nat→Dm) (n:Nat) (L:List Int):Int:=if placeErr D n L=0 then numI D L n else 0
def iS (D:Nat→Dm) (n x r:Nat):List Int:=(List.range n).map fun j=>if n-r≤j then (bx D n x j:Int) else 0
def ak (D:Nat→Dm) (n x:Nat):List Int:=(List.range n).map fun j=>(bx D n x j:Int)
theorem Dl (D:Nat→Dm) (n x r:Nat):(iS D n x r).length=n:=by simp [iS]
theorem placeL_len (D:Nat→Dm) (n x:Nat):(ak D n x).length=n:=by simp [ak]
theorem zN (D:Nat→Dm) (n x:Nat):iS D n x 0=List.replicate n 0:=by
 apply List.ext_getElem
 ·simp [iS]
 intro i a b
 simp [iS] at a ⊢
 omega
theorem Dk (D:Nat→Dm) (n x:Nat):iS D n x n=ak D n x:=by simp [iS,ak]
theorem Dn (D:Nat→Dm) (n x r:Nat) (e:r<n):(iS D n x r).set (n-1-r) (bx D n x (n-1-r):Int)=iS D n x (r+1):=by
 apply List.ext_getElem
 ·simp [iS]
 intro i c d;simp only [iS,List.length_set,List.length_map,List.length_range] at c;rw [List.getElem_set];simp only [iS,List.getElem_map,List.getElem_range]
 by_cases a:n-1-r=i
 ·subst a
  rw [if_pos rfl,if_pos (by omega)]
 rw [if_neg a]
 by_cases b:n-r≤i
 ·rw [if_pos b,if_pos (by omega)]
 rw [if_neg b,if_neg (by omega)]
theorem jr {D:Nat→Dm} {n x i:Nat} (h:i<n):(ak D n x).getD i 0=(bx D n x i:Int):=by
 simp [ak,List.getD,h]
theorem cQ {D:Nat→Dm} {n x:Nat} (h:(ah D n).2.2=0):InO D n (ak D n x):=by
 obtain ⟨_,_,_,b⟩:=aw h;exact ⟨h,placeL_len ..,fun i a=>by rw [jr a];omega,fun i a=>by rw [jr a];have:=sY (D:=D) (m:=n) (n:=x) (k:=i) (b i a).1;omega⟩
theorem wH {D:Nat→Dm} {P Q:Nat→Nat} (k:Nat) (h:∀ i,i<k→P i=Q i):numTo D P k=numTo D Q k:=by
 induction k with
 | zero=>rfl
 | succ k ih=>rw [numTo,numTo,ih fun i a=>h i (by omega),h k (by omega)]
theorem qD {D:Nat→Dm} {n x:Nat} (h:(ah D n).2.2=0) (b:x<prodN D n):numI D (ak D n x) n=(x:Int):=by
 rw [oh n (cQ h).lo,wH (Q:=bx D n x) n fun i a=>by rw [jr a];omega,t7 b]
theorem lC {D:Nat→Dm} {n:Nat} {L:List Int} (h:InO D n L):ak D n (numI D L n).toNat=L:=by
 have c:∀ j,j<n→(L.getD j 0).toNat<(D j).n:=fun j b=>by have:=h.lo j b;have:=h.hi j b;omega
 rw [oh n h.lo,Int.toNat_natCast];apply List.ext_getElem
 ·rw [placeL_len,h.len]
 intro i a d;rw [placeL_len] at a;have e:=pY c a;have g:=h.lo i a;have f:L.getD i 0=L[i]:=by simp [List.getD,d]
 simp only [ak,List.getElem_map,List.getElem_range];rw [e,←f]
 omega
end Go.Proofs.YthlhjjabkgpenaaGreatDoor
namespace Go.Proofs.YthlhjjabkgpenaaGreatDoor
open Go.ChangeShapes Go.WideShapes Go.ChangeAt Go.RowKit
set_option maxRecDepth 20000
def aO (w:World) (A:Option Addr) (cap:Nat) (L:List Int):Prop:=L.length≤cap∧(L=[]∨∃ b o,A=some ⟨b,o,none⟩∧b<w.heap.size∧∀ j,j<L.length→w.cell? ⟨b,o+j,none⟩=some (.int .i64 (L.getD j 0)))
theorem aO.later {w w':World} {A:Option Addr} {cap:Nat} {L:List Int} (h:aO w A cap L) (e:Bl w w'):aO w' A cap L:=by
 obtain ⟨c,a | ⟨b,o,a,d,f⟩⟩:=h
 ·exact ⟨c,Or.inl a⟩
 exact ⟨c,Or.inr ⟨b,o,a,zW d e.size,fun j g=>aL e d (f j g)⟩⟩
theorem aO.nil (w:World) (A:Option Addr) (cap:Nat):aO w A cap []:=⟨zU,Or.inl rfl⟩
def zr (N:Nat) (A:Option Addr):Prop := ∀ b o,A=some ⟨b,o,none⟩→N≤b
theorem zr.none (N:Nat):zr N none:=fun _ _ h=>by cases h
def cd (w:World) (g:Nat) (L:List Int):Prop:=w.heap[g]?=some (.cells (L.map (Value.int .i64)).toArray 3 (0,0))
theorem cd.lt {w:World} {g:Nat} {L:List Int} (h:cd w g L):g<w.heap.size:=(zY h).1
theorem cd.cell {w:World} {g:Nat} {L:List Int} (h:cd w g L) {j:Nat} (a:j<L.length):w.cell? ⟨g,j,none⟩=some (.int .i64 (L.getD j 0)):=by
 rw [Lib.cell_of_heap h]
 simp [List.getD,a]
theorem cd.frozen {w:World} {g:Nat} {L:List Int} (h:cd w g L) (j:Nat):w.frozen? ⟨g,j,none⟩=false:=Lib.frozen_of_heap h j
theorem cd.later {w w':World} {g:Nat} {L:List Int} (h:cd w g L) (a:Bl w w'):cd w' g L:=(a.block g h.lt).trans h
theorem cd.set {w:World} {g:Nat} {L:List Int} (h:cd w g L) (j:Nat) (x:Int):cd (w.setCell ⟨g,j,none⟩ (.int .i64 x)) g (L.set j x):=by
 unfold cd at *;have e:(L.set j x).map (Value.int .i64)=(L.map (Value.int .i64)).set j (.int .i64 x):=by rw [List.map_set]
 simp [World.setCell,Array.getElem?_modify,h,e]
theorem cd.pl {w:World} {g:Nat} {L:List Int} (h:cd w g L):aO w (some ⟨g,0,none⟩) L.length L :=
 ⟨zT,Or.inr ⟨g,0,rfl,h.lt,fun j a=>by rw [Nat.zero_add];exact h.cell a⟩⟩
theorem qw (n:Nat):madeCells #[.int .i64 0] n=((List.replicate n (0:Int)).map (Value.int .i64)).toArray:=by
 apply Array.ext
 ·simp [madeCells]
 intro i a b
 simp [madeCells,Nat.mod_one]
theorem cd.made (w:World) (n:Nat):cd (w.alloc (.cells (madeCells #[.int .i64 0] n) 3)) w.heap.size (List.replicate n 0):=by
 unfold cd;rw [qw];exact heap_alloc_new w _
theorem Tryz.infoIntP:(Tryz.prog.info? 3).map (fun i=>(i.zero,i.size,i.bytes))=some (some (.int .i64 0),1,8):=by kernel_rfl
theorem nh (A0:Option Addr) (cap n:Nat) (D:Nat→Dm) (A:Nat→Option Addr) (C:Nat→Nat) (w:World) (d:bd w A0 cap n D A C):Rt 65 #[.agg #[.slice A0 n cap]] w (errV (ah D n).2.2):=by
 have a:=aA w A0 n cap 24;have h:=mx A0 cap n D A C (aD w A0 n cap 24) (d.later a);have b:=aa a;clear d a;generalize errV (ah D n).2.2=v at h;generalize (ah D n).1=x at h;generalize (ah D n).2.1=y at h
 go_enter Tryz.func65,Tryz.ntmps65
 go_wp2_with fail;refine h.mono ?_;rintro e w1 ⟨rfl,c⟩;go_wp2_with fail;go_ret;exact ⟨rfl,ae b.out c⟩
def io (D:Nat→Dm) (n:Nat):Int:=if (ah D n).2.2=0 then (prodN D n:Int) else 0
theorem oE (A0:Option Addr) (cap n:Nat) (D:Nat→Dm) (A:Nat→Option Addr) (C:Nat→Nat) (w:World) (u:bd w A0 cap n D A C):Rt 91 #[.agg #[.slice A0 n cap]] w (.tuple #[.int .i64 (io D n),errV (ah D n).2.2]):=by
 have i:=aA w A0 n cap 24;have h:=nh A0 cap n D A C (aD w A0 n cap 24) (u.later i);have l:=aa i;have G:=aa u;clear u i
 by_cases f:(ah D n).2.2=0
 ·obtain ⟨M,N,-,B⟩:=aw f
  have s:Hid (io D n=(prodN D n:Int)):=by show _=_;unfold io;rw [if_pos f]
  have q:Hid (errV (ah D n).2.2=.nilIface):=by show _=_;rw [f];rfl
  rw [f,errV_zero] at h;have F:=aa B;have L:(n:Int)≤4:=by omega
  clear f B
  go_enter Tryz.func91,Tryz.ntmps91
  go_wp2_with fail;refine h.mono ?_;rintro e w1 ⟨rfl,a⟩;have t:Bl w w1:=ae l.out a;have R:w1.cell? ⟨w.heap.size,0,none⟩=some (.slice A0 n cap):=aL a (by show w.heap.size<_;rw [aF];omega) (aR ..)
  obtain ⟨z,J | ⟨b,o,rfl,m⟩⟩:=G.out.later t
  ·omega
  have r:=aa m;have E:=aa t;clear a h m t;go_wp2_with fail
  go_loopg [5,16] n (fun g s5 s16 wr => ∃ (k:Nat),k≤n∧g=n-k∧s16=.int .i64 k∧s5=.int .i64 (prodN D k)∧Bl w1 wr)
  case atStart=>exact ⟨0,zU,rfl,rfl,rfl,zS⟩
  case round =>
   obtain ⟨k,U,rfl,rfl,rfl,d⟩:=hrel
   by_cases x:k<n
   ·obtain ⟨J,Q,S,-⟩:=(r.out.later d).2 k x
    have K:(k:Int)<(n:Int):=by omega
    have y:prodN D (k+1)≤20736:=km (fun j T=>(F.out j (by omega)).2) (by omega)
    have p:(prodN D (k+1):Int)=(prodN D k:Int)*((D k).n:Int):=by rw [prodN];exact Int.natCast_mul _ _
    have O:0≤(prodN D k:Int)*((D k).n:Int):=by omega
    have P:(prodN D k:Int)*((D k).n:Int)≤20736:=by omega
    have I:=aa d;have H:=aa p;clear d y p;go_wp2_with fail
    go_roundg (n-(k+1))
    case measure=>omega
    case rel=>exact ⟨k+1,by omega,rfl,by go_num,by rw [H.out],ae I.out (by go_grown)⟩
   have v:k=n:=by omega
   subst v;go_wp2_with fail
   go_ret2
   rw [s.out,q.out];exact ⟨rfl,ae E.out d⟩
 have s:Hid (io D n=0):=by show _=_;unfold io;rw [if_neg f]
 have q:Hid (errV (ah D n).2.2=.iface 68 (.int .i64 (ah D n).2.2)):=aj f;rw [aj f] at h;clear f;generalize (ah D n).2.2=c at h q
 go_enter Tryz.func91,Tryz.ntmps91
 go_wp2_with fail;refine h.mono ?_;rintro e w1 ⟨rfl,a⟩;go_wp2_with fail
 go_ret2
 rw [s.out,q.out];exact ⟨rfl,ae l.out a⟩
theorem xY {q:Nat} (h:q≤3000):wrap64 (q:Int)=q:=by unfold wrap64;omega
theorem BU (D:Nat→Dm) (m n r:Nat):restAt D m n r≤n:=by
 induction r with
 | zero=>exact zT
 | succ r ih=>rw [restAt];exact zV (Nat.div_le_self _ _) ih
end Go.Proofs.YthlhjjabkgpenaaGreatDoor
namespace Go.Proofs.YthlhjjabkgpenaaGreatDoor
def stepTo (D:Nat→Dm) (dim:Nat):Nat→Nat
 | 0=>1
 | t+1=>stepTo D dim t*(D (dim+1+t)).n
def bW (D:Nat→Dm) (n dim:Nat):Nat:=stepTo D dim (n-1-dim)
theorem stepTo_front (D:Nat→Dm) (dim:Nat):∀ t,stepTo D dim (t+1)=(D (dim+1)).n*stepTo D (dim+1) t
 | 0=>by simp [stepTo]
 | t+1=>by
  rw [stepTo,stepTo_front D dim t,stepTo,Nat.mul_assoc,show dim+1+(t+1)=dim+1+1+t by omega]
theorem qO (D:Nat→Dm) (m x:Nat):∀ r,r<m→restAt D m x r=x / stepTo D (m-1-r) r
 | 0,_=>by simp [restAt,stepTo]
 | r+1,h=>by
  rw [restAt,qO D m x r (by omega),Nat.div_div_eq_div_mul,stepTo_front,show m-1-(r+1)+1=m-1-r by omega,Nat.mul_comm]
theorem iq {D:Nat→Dm} {n x k:Nat} (a:k<n):bx D n x k=x / bW D n k % (D k).n:=by
 unfold bx bW;rw [qO D n x _ (by omega),show n-1-(n-1-k)=k by omega]
theorem BD {D:Nat→Dm} {n:Nat} (h:∀ j,j<n→1≤(D j).n):1≤prodN D n:=by
 induction n with
 | zero=>exact zT
 | succ n ih =>
  have a:=ih fun j c=>h j (by omega)
  have b:=h n (by omega)
  rw [prodN];exact Nat.mul_le_mul a b
theorem o7 {D:Nat→Dm} {dim:Nat}:∀ t,(∀ j,j<dim+1+t→1≤(D j).n)→1≤stepTo D dim t
 | 0,_=>zT
 | t+1,h=>by
  rw [stepTo];exact Nat.mul_le_mul (o7 t fun j a=>h j (by omega)) (h (dim+1+t) (by omega))
theorem ib {D:Nat→Dm} {n dim:Nat} (h:∀ j,j<n→1≤(D j).n) (a:dim<n):1≤bW D n dim:=o7 _ fun j b=>h j (by omega)
def aX (M:Nat→Mem) (at':Int→Int×Int) (c:Int×Int) (k:Int):Int×Int:=if (M k.toNat).sign=1 then mi c.1 c.2 (at' k).1 (at' k).2 else if (M k.toNat).sign = -1 then iW c.1 c.2 (at' k).1 (at' k).2 else c
def partsV (M:Nat→Mem) (at':Int→Int×Int) (L:List Int):Int×Int:=L.foldl (aX M at') (0,0)
def b7 (c:Int×Int):Prop:=good c.1 c.2=true
theorem nJ (x:Int):b7 (eO x):=by
 unfold b7 eO good
 split
 ·rename_i h;exact decide_eq_true (Or.inl ⟨rfl,h⟩)
 exact decide_eq_true (Or.inr ⟨Or.inr rfl,rfl⟩)
theorem qj (b:Bool) (ka kb:Int) {r:Int×Int} (h:b7 r):b7 (fX b ka kb r):=by
 unfold fX
 split
 ·exact decide_eq_true (Or.inr ⟨Or.inr rfl,rfl⟩)
 split
 ·exact decide_eq_true (Or.inr ⟨Or.inl rfl,rfl⟩)
 exact h
theorem eU:b7 (0,0):=decide_eq_true (Or.inr ⟨Or.inl rfl,rfl⟩)
theorem AD (M:Nat→Mem) (at':Int→Int×Int) {c:Int×Int} (h:b7 c) (k:Int):b7 (aX M at' c k):=by
 unfold aX
 split
 ·exact qj _ _ _ (nJ _)
 split
 ·exact qj _ _ _ (nJ _)
 exact h
theorem jh (M:Nat→Mem) (at':Int→Int×Int):∀ (L:List Int) (c:Int×Int),b7 c→b7 (L.foldl (aX M at') c)
 | [],_,h=>h
 | k :: r,_,h=>jh M at' r _ (AD M at' h k)
theorem vO (M:Nat→Mem) (at':Int→Int×Int) (L:List Int):b7 (partsV M at' L):=jh M at' L _ eU
def La (L:List (Int×Int)) (x:Int):Int×Int:=L.getD x.toNat (0,0)
def jL (L:List (Int×Int)):Prop := ∀ c∈L,b7 c
theorem AB {L:List (Int×Int)} (h:jL L) (x:Nat) {c:Int×Int} (a:b7 c):jL (L.set x c):=fun y b=>by
 rcases List.mem_or_eq_of_mem_set b with h1 | h1
 ·exact h y h1
 rw [h1];exact a
theorem yH {L:List (Int×Int)} (h:jL L) (x:Int):b7 (La L x):=by
 unfold La;rw [zZ];cases he:L[x.toNat]? with
 | none=>exact eU
 | some c=>exact h c (List.mem_of_getElem? he)
theorem wQ {D:Nat→Dm} {n dim m x j:Nat} (p:∀ i,i<n→1≤(D i).n) (g:dim<n) (z:x<prodN D n) (w:x / bW D n dim % (D dim).n=m) (v:j<(D dim).n) :
  ∃ y:Nat,(x:Int)+((j:Int)-(m:Int))*(bW D n dim:Int)=y∧y<prodN D n∧y / bW D n dim % (D dim).n=j∧∀ i,i<n→i≠dim→bx D n y i=bx D n x i:=by
 have B:=ib p g;have u:=p dim g;have l:∀ i,i<n→bx D n x i<(D i).n:=fun i d=>sY (p i d)
 obtain ⟨P,f⟩:∃ P:Nat→Nat,P=fun i=>if i=dim then j else bx D n x i:=⟨_,rfl⟩
 have b:∀ i,i<n→P i<(D i).n:=fun i d=>by
  rw [f];simp only
  split
  ·rename_i h;rw [h];exact v
  exact l i d
 have A:=t6 n b;have c:∀ i,i<n→bx D n (numTo D P n) i=P i:=fun i d=>pY b d
 refine ⟨numTo D P n,?_,A,?_,fun i d o=>?_⟩
 ·have t:∀ k,k≤n→(numTo D P k:Int)=(numTo D (bx D n x) k:Int)+(if dim<k then ((j:Int)-(m:Int))*(stepTo D dim (k-1-dim):Int) else 0):=by
   intro k
   induction k with
   | zero=>intro _;simp [numTo]
   | succ k ih =>
    intro C;rw [numTo,numTo];have a:=ih (by omega)
    rcases Nat.lt_trichotomy dim k with h | h | h
    ·rw [if_pos h] at a
     rw [if_pos (by omega)]
     have e:P k=bx D n x k:=by rw [f];simp only;rw [if_neg (by omega)]
     rw [e,show k+1-1-dim=(k-1-dim)+1 by omega,stepTo,show dim+1+(k-1-dim)=k by omega]
     push_cast
     rw [a,Int.add_mul,Int.mul_assoc]
     omega
    ·subst h
     rw [if_neg (by omega),Int.add_zero] at a
     rw [if_pos (by omega)]
     have e:P dim=j:=by rw [f];simp
     have s:bx D n x dim=m:=by rw [iq g,w]
     rw [e,s,show dim+1-1-dim=0 by omega,stepTo]
     push_cast
     rw [a]
     omega
    rw [if_neg (by omega),Int.add_zero] at a
    rw [if_neg (by omega)]
    have e:P k=bx D n x k:=by rw [f];simp only;rw [if_neg (by omega)]
    rw [e]
    push_cast
    rw [a]
    omega
  have q:=t n (zT);rw [if_pos g,t7 z] at q;rw [q]
  rfl
 ·have r:=c dim g
  rw [iq g] at r;rw [r,f]
  simp
 rw [c i d,f]
 simp [o]
end Go.Proofs.YthlhjjabkgpenaaGreatDoor
namespace Go.Proofs.YthlhjjabkgpenaaGreatDoor
open Go Go.ChangeShapes Go.WideShapes Go.ChangeAt Go.RowKit Go.Deep
set_option maxRecDepth 100000
theorem wI {H:Type} {enc:TypeId×Value→H} {w:World} {c:Bool} {r:Reach} {b0:Nat} {v:Value} {d:DataW H} {p:List MemPlace} (t:Value.okWide Tryz.prog w r b0 27 v) (h:DataW.Trod enc Tryz.prog w 0 (fun _=>true) c 27 v d p) :
  ∃ (Ap:Option Addr) (k:Nat) (L:List Int),v=.slice Ap L.length k∧aO w Ap k L:=by
 obtain ⟨a,len,cap,rfl⟩:=okWide_slice Tryz.underlying27 t;obtain ⟨fuel,q⟩:=h;have f:DataW.trod enc Tryz.prog w 0 (fun _=>true) c fuel 27 [.slice a len cap]=some (d,p):=q
 rcases open_ints Tryz.underlying27 Tryz.underlying3 (by kernel_rfl) f with ⟨e,_⟩ | ⟨a',len',i,zs,e,_,s,_,g,_,l,_⟩
 ·simp at e
  obtain ⟨rfl,rfl,rfl⟩:=e;exact ⟨none,0,[],rfl,aO.nil _ _ _⟩
 simp at e g
 obtain ⟨rfl,rfl,rfl⟩:=e;have b:(zs.take len).length=len:=by simp;omega
 refine ⟨some a',cap,zs.take len,by rw [b],by rw [b];exact s,?_⟩
 rcases Nat.eq_zero_or_pos len with h0 | h0
 ·left
  subst h0
  simp
 right
 have c0:=l 0 (by omega)
 have n:=dJ c0 rfl;have o:=World.block_lt_of_cell? _ _ c0;refine ⟨a'.block,a'.off,by rw [←n],by simpa [Addr.add] using o,fun j m=>?_⟩
 rw [b] at m;have:=l j (by omega)
 rw [n,bS] at this;rw [this]
 simp [List.getD,m]
end Go.Proofs.YthlhjjabkgpenaaGreatDoor
namespace Go.Proofs
open Go.Shelf
def Tryz.lays137_ren:Go.Shelf.Ren:=⟨fun | 137=>237 | 217=>260 | 266=>278 | n=>n,fun | 9=>9 | 5=>5 | 3=>3 | n=>n,fun | n=>n⟩
theorem Tryz.lays137:Go.Proofs.Lays.n137 Tryz.prog Tryz.lays137_ren:={
 mixed:=by kernel_rfl
 f137:=Tryz.func237.trans (congrArg some (by kernel_rfl))
 f217:=Tryz.func260.trans (congrArg some (by kernel_rfl))
 f266:=Tryz.func278.trans (congrArg some (by kernel_rfl))
 t3:=Tryz.underlying3
 a3:=Tryz.isAgg3
 z3:=Tryz.sizeOf3
 v3:=Tryz.zeroValue3
 t5:=Tryz.underlying5
 a5:=Tryz.isAgg5
 z5:=Tryz.sizeOf5
 v5:=Tryz.zeroValue5
 t9:=Tryz.underlying9
 a9:=Tryz.isAgg9
 z9:=Tryz.sizeOf9
 v9:=Tryz.zeroValue9 }
namespace YthlhjjabkgpenaaGreatDoor
open Go.ChangeShapes Go.WideShapes Go.ChangeAt Go.RowKit
theorem Cm:∀ c:Fin 256,Lib.indexByte [43,45,42,47] c.val.toUInt8=signI (c.val:Int):=by decide +kernel
theorem Fe (c:Int) (a:0≤c) (b:c<256):Lib.indexByte [43,45,42,47] c.toNat.toUInt8=signI c:=by
 have h:=Cm ⟨c.toNat,by omega⟩
 simp only at h;rw [h,show ((c.toNat:Nat):Int)=c by omega]
theorem oY (c:Int) (a:0≤c) (b:c<256) (w:World):Rt 237 #[.string ⟨#[43,45,42,47]⟩,.int .u8 c] w (.int .i64 (signI c)) :=
 (Any.strings_IndexByte Tryz.lays137 ⟨#[43,45,42,47]⟩ c w).mono fun e w' ⟨d,f⟩=>⟨by rw [d,Fe c a b],by rw [f];exact zS⟩
theorem sM (s:ByteArray) (i:Nat):0≤byteN s i∧byteN s i<256:=by
 unfold byteN;have:=(s.data.toList.getD i 0).toNat_lt
 omega
theorem lX (s:ByteArray) (i:Nat):0≤nextB s i∧nextB s i<256:=by
 unfold nextB
 split
 ·omega
 exact sM s i
end YthlhjjabkgpenaaGreatDoor
end Go.Proofs
namespace Go.Proofs.YthlhjjabkgpenaaGreatDoor
open Go.ChangeShapes Go.WideShapes Go.ChangeAt Go.RowKit
set_option maxRecDepth 20000
theorem bY {s:ByteArray} {a:Nat} (h:nextB s a≠0) (b:a≤s.size):a<s.size:=by
 by_cases e:a=s.size
 ·subst e;simp [nextB] at h
 omega
theorem ic (s:ByteArray) (a:Nat):(s.extract a s.size).size=s.size-a:=by rw [ByteArray.size_extract];omega
theorem uz (q a o:Nat) (s:ByteArray) (tv:Value) (w:World) (v:s.size≤4611686018427387904) (r:a≤s.size) (j:cG w q s a o tv):Rt 284 #[.pointer (some ⟨q,0,none⟩)] w (.int .i64 (digitsN s a)):=by
 have g:=gO q a o s tv w r j;unfold digitsN
 by_cases b:nextB s a=48
 ·rw [b] at g
  rw [if_pos b];clear b
  go_enter Tryz.func284,Tryz.ntmps284
  go_wp2_with fail;refine g.mono ?_;rintro e w1 ⟨rfl,d⟩;go_wp2_with fail;go_ret;exact ⟨rfl,d⟩
 have m:(nextB s a == 48)=false:=by simpa using b
 rw [if_neg b];generalize nextB s a=c at *;have l:Hid (∀ w',Bl w w'→Rt 285 #[.string (s.extract a s.size),.func (.func 283) #[] #[]] w' (.int .i64 (leadN bV (s.extract a s.size)))):=fun w' _=>AS _ w' (by rw [ic];omega)
 generalize leadN bV (s.extract a s.size)=n at l ⊢;have p:Hid (((min n 7:Nat):Int)=min (n:Int) 7):=by show _=_;omega
 have t:(a:Int)≤(s.size:Int):=by omega
 have u:(s.size:Int)≤4611686018427387904:=by omega
 go_enter Tryz.func284,Tryz.ntmps284
 go_wp2_with fail;refine g.mono ?_;rintro e w1 ⟨rfl,d⟩;have f:=j.later d;have c0:=f.c0;have c1:=f.c1;have k:=aa d;clear f d j;go_wp2_with fail
 go_region_law ((go_simp;refine (l.out _ (ae k.out (by go_grown))).mono ?_;rintro e w2 ⟨rfl,h⟩;have i:=ae (ae (W0:=w) k.out (by go_grown)) h;clear h))
 all_goals (go_wp2_with fail;all_goals (go_ret;refine ⟨?_,i⟩;first | (rw [p.out];rfl) | (rw [show min n 7=7 by omega];rfl) | (rw [show min n 7=n by omega];rfl)))
structure RdS {S:Type} (T:Tkr S) (w:World) (q:Nat) (s:ByteArray) (ph:Bool) (r:Rd S):Prop where
 rd:cG w q s r.at' r.opn T.fv
 mem:T.I r.st w
 good:T.G r.at' r.opn ph r.st
 inn:r.at'≤s.size
 few:r.opn≤r.at'
 room:T.N≤w.heap.size
section
variable {S:Type} {T:Tkr S} {w w':World} {q:Nat} {s:ByteArray} {ph:Bool} {r:Rd S}
theorem RdS.later (h:RdS T w q s ph r) (c:T.Ok) (d:q<T.N) (b:q≠T.p) (a:Bl w w'):RdS T w' q s ph r :=
 ⟨h.rd.later a,c.stay q _ _ _ d b h.mem (iu a),h.good,h.inn,h.few,zV h.room a.size⟩
end
def KC (a:Nat):List PanicEntry:=[{ v:=.iface 299 (.int .i64 a),recovered:=false }]
def il {S:Type} (T:Tkr S) (q:Nat) (s:ByteArray) (ph:Bool) (w:World) (x:Rd S×Bool) (e:Ending) (w':World):Prop:=Kept T.N (fun k=>k=T.p∨k=q) w w'∧((x.2=true∧e=.returned (.tuple #[])∧RdS T w' q s ph x.1)∨(x.2=false∧e=.panicked (KC x.1.at')))
section
variable {S:Type} {T:Tkr S} {w w':World} {q:Nat} {s:ByteArray} {ph:Bool} {x:Rd S×Bool} {r:Rd S}
theorem il.ok (h:x=(r,true)) (a:Kept T.N (fun k=>k=T.p∨k=q) w w') (b:RdS T w' q s ph r):il T q s ph w x (.returned (.tuple #[])) w':=⟨a,Or.inl ⟨by rw [h],rfl,by rw [h];exact b⟩⟩
theorem il.no (h:x=(r,false)) (a:Kept T.N (fun k=>k=T.p∨k=q) w w'):il T q s ph w x (.panicked (KC r.at')) w':=⟨a,Or.inr ⟨by rw [h],by rw [h]⟩⟩
end
theorem eS {s:ByteArray} {a b i:Nat} (h:i<b-a):byteN (s.extract a b) i=byteN s (a+i):=by
 unfold byteN;rw [Lib.extract_data];simp only [List.getD,List.getElem?_take,List.getElem?_drop];rw [if_pos h]
theorem mD {s:ByteArray} {a:Nat} (h:a<s.size):nextB s a=byteN s a:=by rw [nextB,if_neg (by omega)]
theorem zg {s:ByteArray} {a o:Nat} (c:a≤s.size) (h : ¬ signI (nextB s a)<0):a+1≤s.size∧Stp o true (s.extract a (a+1)) o false:=by
 have b:a<s.size:=bY (fun e=>h (by rw [e];decide)) c
 refine ⟨b,Stp.sgn o _ (dB b) ?_⟩;rw [eS (by omega),Nat.add_zero,←mD b]
 omega
theorem RdS.word {S:Type} {T:Tkr S} {w w':World} {q n o o':Nat} {s:ByteArray} {ph ph':Bool} {r:Rd S} (i:T.Ok) (l:s.size≤T.M) (a:r.at'+n≤s.size) (e:T.G r.at' o ph r.st) (g:Stp o ph (s.extract r.at' (r.at'+n)) o' ph') (j:o'≤r.at'+n) (f:T.N≤w.heap.size)
  (b:cG w' q s (r.at'+n) o' T.fv) (c:T.I (T.tk r.st (s.extract r.at' (r.at'+n))) w') (d:Kept T.N (fun k=>k=T.p∨k=q) w w'):RdS T w' q s ph' (wordR s T.tk n ⟨r.at',o',r.st⟩):=by
 refine ⟨b,c,?_,a,j,zV f d.size⟩;have h:=i.step r.at' o ph r.st _ o' ph' g e (by rw [dB a];omega)
 rw [dB a] at h;exact h
theorem Ff {S:Type} (T:Tkr S) (y:T.Ok) (q:Nat) (s:ByteArray) (r:Rd S) (w:World) (C:s.size≤T.M) (A:q<T.N) (i:q≠T.p) (j:RdS T w q s true r) :
  Calls Tryz.prog 264 #[.pointer (some ⟨q,0,none⟩)] w fun e w'=>il T q s false w (b9 s T.tk r) e w':=by
 have n:=gO q r.at' r.opn s T.fv w j.inn j.rd;have g:=oY (nextB s r.at') (lX s r.at').1 (lX s r.at').2;have t:=aa j;have u:Hid T.Ok:=y
 by_cases h:signI (nextB s r.at')<0
 ·have m:b9 s T.tk r=(r,false):=by rw [b9,if_pos h]
  have v:=aa m;clear m;generalize signI (nextB s r.at')=c at *;generalize nextB s r.at'=b at *;clear j y
  go_enter Tryz.func264,Tryz.ntmps264
  go_wp2_with fail;refine n.mono ?_;rintro e w1 ⟨rfl,d⟩;go_wp2_with fail;refine (g _).mono ?_;rintro e w2 ⟨rfl,f⟩;have l:=aa (ae d f);have a:=aa (t.out.later u.out A i l.out);clear d f;go_wp2_with fail;refine (o8 q r.at' r.opn s T.fv w2 a.out.rd).mono ?_;rintro e w3 ⟨rfl,z⟩;go_wp2_with fail;exact ⟨rfl,il.no v.out (aq (ae l.out z) t.out.room)⟩
 obtain ⟨D,E⟩:=zg (o:=r.opn) j.inn h;have B:=aa E;have m:b9 s T.tk r=(wordR s T.tk 1 r,true):=by rw [b9,if_neg h]
 have v:=aa m;clear m;have G:0≤signI (nextB s r.at'):=by omega
 generalize signI (nextB s r.at')=c at *;generalize nextB s r.at'=b at *;clear j y E h
 go_enter Tryz.func264,Tryz.ntmps264
 go_wp2_with fail;refine n.mono ?_;rintro e w1 ⟨rfl,d⟩;go_wp2_with fail;refine (g _).mono ?_;rintro e w2 ⟨rfl,f⟩;have l:=aa (ae d f);have a:=aa (t.out.later u.out A i l.out);clear d f;go_wp2_with fail;refine (ig T u.out q r.at' r.opn r.opn 1 r.opn true false s r.st w2 C D A i a.out.room a.out.rd a.out.mem a.out.good B.out).mono ?_;rintro e w3 ⟨rfl,g1,g2,g3⟩;have F:Hid (Kept T.N (fun k=>k=T.p∨k=q) w w3):=(aq l.out t.out.room).trans g3
 have x:Hid (RdS T w3 q s false (wordR s T.tk 1 r)):=RdS.word (r:=r) (o':=r.opn) u.out C D a.out.good B.out (by have:=a.out.few;omega) a.out.room g1 g2 g3
 clear g1 g2 g3;go_wp2_with fail
 first | go_end0 | skip
 exact il.ok v.out F.out x.out
end Go.Proofs.YthlhjjabkgpenaaGreatDoor
namespace Go.Proofs.YthlhjjabkgpenaaGreatDoor
open Go.ChangeShapes Go.WideShapes Go.ChangeAt Go.RowKit
def At (s:Nat) (k n:Int) (w:World):Prop:=s<w.heap.size∧w.cell? ⟨s,0,none⟩=some (.int .i64 k)∧w.cell? ⟨s,1,none⟩=some (.int .i64 n)
theorem At.new (k n:Int) (w:World) (T:Nat):At w.heap.size k n (w.alloc (.cells #[.int .i64 k,.int .i64 n] T)):=⟨by simp,by simp,by simp⟩
theorem At.set {s:Nat} {k n:Int} {w:World} {u v:Value} (c:s<w.heap.size) (a:w.cell? ⟨s,0,none⟩=some u) (b:w.cell? ⟨s,1,none⟩=some v):At s k n ((w.setCell ⟨s,0,none⟩ (.int .i64 k)).setCell ⟨s,1,none⟩ (.int .i64 n)):=by
 refine ⟨by simpa using c,?_,?_⟩ <;> simp [go_sem,a,b]
theorem Below.next {W0 W w4:World} (h:Bl W0 W) (a:Bl W w4):Bl W0 w4:=h.trans (a.mono h.size)
end Go.Proofs.YthlhjjabkgpenaaGreatDoor
