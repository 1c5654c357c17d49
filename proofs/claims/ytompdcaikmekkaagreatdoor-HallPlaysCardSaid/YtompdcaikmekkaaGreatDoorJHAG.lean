/-
  What is read of an argument of the types api.Outline and api.Dim: where its dims and members lie, and what they hold.
-/
import Derived.Deep.Slices
import Derived.Deep.Strs
import Derived.Deep.Fields
import Derived.BigQuiet
import Derived.WalkSmall
import Derived.Deep.AppendLies
import Derived.Deep.RegionLaw
import Derived.Deep.DeepCutAuto
import Derived.Shelf.Small.Strs
import Derived.Lib.Strings
import Derived.Shelf.Pu.Clone
import Derived.Test.YtompdcaikmekkaaGreatDoorJHAE
import Derived.Test.YtompdcaikmekkaaGreatDoorJHAF
set_option maxHeartbeats 64000000
namespace Go.Proofs.YtompdcaikmekkaaGreatDoor
open Go Go.ChangeShapes Go.WideShapes Go.ChangeAt Go.RowKit Go.Deep
set_option maxRecDepth 100000
section
variable {H:Type} {enc:TypeId×Value→H} {w:World} {held:Bool}
theorem lJ {P:Program} {base:Nat} {sp:Nat→Bool} {t:TypeId} {b:Array Field} {fuel:Nat} {cs:List Value} {x:DataW H×List MemPlace} (q:P.underlying t=some (.struct b)) (a:oneCellFields P b=true) (h:DataW.trod enc P w base sp held fuel t cs=some x) :
  cs.length=P.cellsOf t∧∃ n,∀ (i:Nat) (f:Field) (v:Value),b[i]?=some f→cs[i]?=some v→∃ y,DataW.trod enc P w base sp held n f.type [v]=some y:=by
 obtain ⟨xs,n,_,_,m,s,l⟩:=DataW.trod_struct q h;refine ⟨m,n,fun i f v c r=>?_⟩
 obtain ⟨p,k⟩:=hone_of a i f c;have o:i<b.size:=(zY c).1;have e:=l i f c;rw [p,k] at e;obtain ⟨d,g⟩:=List.getElem?_eq_some_iff.1 r;have j:(cs.drop i).take 1=[v]:=by rw [List.drop_eq_getElem_cons d,g];rfl
 rw [j,zX (by omega)] at e
 exact ⟨_,e⟩
theorem Eh:Tryz.prog.cellsOf 97=4:=by kernel_rfl
theorem Ef:Tryz.prog.cellsOf 70=3:=by kernel_rfl
theorem IS:Tryz.prog.cellsOf 24=1:=by kernel_rfl
theorem uP {base:Nat} {sp:Nat→Bool} {fuel:Nat} {cs:List Value} {x:DataW H×List MemPlace} (h:DataW.trod enc Tryz.prog w base sp held fuel 97 cs=some x) :
  ∃ m:Mem,cs=[.string m.name,.int .i64 m.parent,.int .i64 m.sign,.string m.formula]:=by
 obtain ⟨f,n,a⟩:=lJ Tryz.underlying97 (by kernel_rfl) h
 rw [Eh] at f
 match cs,f with
 | [v0,v1,v2,v3],_ =>
  obtain ⟨l,g⟩:=a 0 _ v0 rfl rfl;obtain ⟨o,i⟩:=a 1 _ v1 rfl rfl;obtain ⟨p,j⟩:=a 2 _ v2 rfl rfl;obtain ⟨q,k⟩:=a 3 _ v3 rfl rfl;obtain ⟨s0,b,-,-⟩:=DataW.trod_string Tryz.underlying9 g;obtain ⟨n1,c,-,-⟩:=DataW.trod_int Tryz.underlying3 i;obtain ⟨n2,d,-,-⟩:=DataW.trod_int Tryz.underlying3 j;obtain ⟨s3,e,-,-⟩:=DataW.trod_string Tryz.underlying9 k
  simp at b c d e
  exact ⟨⟨s0,n1,n2,s3⟩,by rw [b,c,d,e]⟩
theorem fk {a:Addr} {k:Nat} {v:Value} (h:w.cell? (a.add k)=some v) (b:k=0):a=⟨a.block,a.off,none⟩:=by
 subst b;have e:(a.add 0)=a:=by simp [Addr.add]
 rw [e] at h;have:=World.cell?_spot h;cases a
 simp_all
theorem aK (b o k:Nat):(⟨b,o,none⟩:Addr).add k=⟨b,o+k,none⟩:=by
 unfold Addr.add
 by_cases a:k=0
 ·subst a;simp
 rw [if_neg a]
theorem sH {fuel:Nat} {cs:List Value} {x:DataW H×List MemPlace} (h:DataW.trod enc Tryz.prog w 0 (fun _=>true) held fuel 68 cs=some x) :
  ∃ (A:Option Addr) (cap n:Nat) (M:Nat→Mem),cs=[.slice A n cap]∧eg w A cap n M:=by
 rcases open_slice Tryz.underlying68 h with ⟨rfl,-⟩ | ⟨a,len,cap,m,n,D,Pl,rfl,-,q,-,f,-,j⟩
 ·exact ⟨none,0,0,fun _=>⟨default,0,0,default⟩,rfl,zT,Or.inl rfl⟩
 rw [Eh] at j
 simp at f
 subst f
 haveI:Inhabited Mem:=⟨⟨default,0,0,default⟩⟩
 have c:∀ i,i<len→∃ y:Mem,w.cells? 0 (a.add (i*4)) 4=some [.string y.name,.int .i64 y.parent,.int .i64 y.sign,.string y.formula]:=fun i e=>by
  obtain ⟨k,l,o⟩:=j i (by omega)
  obtain ⟨y,rfl⟩:=uP o;exact ⟨y,l⟩
 obtain ⟨M,d⟩:=choose_lt c;refine ⟨some a,_,len,M,rfl,q,?_⟩
 rcases Nat.eq_zero_or_pos len with h0 | h0
 ·exact Or.inl h0
 right
 have c0:=(World.cells?_some (d 0 h0)).2.2 0 (by omega)
 rw [add_add] at c0;have g:=fk c0 (by omega)
 have p:=World.block_lt_of_cell? _ _ c0;refine ⟨a.block,a.off,by rw [←g],by simpa [Addr.add] using p,fun i e=>?_⟩
 have b:=(World.cells?_some (d i e)).2.2;rw [g] at b;simp only [aK,Nat.add_assoc] at b;refine ⟨?_,?_,?_,?_⟩
 ·have:=b 0 (by omega);simpa using this
 ·have:=b 1 (by omega);simpa [Nat.add_assoc] using this
 ·have:=b 2 (by omega);simpa [Nat.add_assoc] using this
 have:=b 3 (by omega);simpa [Nat.add_assoc] using this
theorem FF {fuel:Nat} {cs:List Value} {x:DataW H×List MemPlace} (h:DataW.trod enc Tryz.prog w 0 (fun _=>true) held fuel 70 cs=some x) :
  ∃ (d:Dm) (A:Option Addr) (c:Nat),cs=[.string d.name,.int .i64 d.solve,.slice A d.n c]∧eg w A c d.n d.mem:=by
 obtain ⟨g,n,a⟩:=lJ Tryz.underlying70 (by kernel_rfl) h
 rw [Ef] at g
 match cs,g with
 | [v0,v1,v2],_ =>
  obtain ⟨o,i⟩:=a 0 _ v0 rfl rfl;obtain ⟨p,j⟩:=a 1 _ v1 rfl rfl;obtain ⟨q,l⟩:=a 2 _ v2 rfl rfl;obtain ⟨s0,b,-,-⟩:=DataW.trod_string Tryz.underlying9 i;obtain ⟨n1,e,-,-⟩:=DataW.trod_int Tryz.underlying3 j;obtain ⟨A,cap,k,M,f,m⟩:=sH l
  simp at b e f
  exact ⟨⟨s0,n1,k,M⟩,A,cap,by rw [b,e,f],m⟩
theorem Cr {fuel:Nat} {cs:List Value} {x:DataW H×List MemPlace} (h:DataW.trod enc Tryz.prog w 0 (fun _=>true) held fuel 22 cs=some x) :
  ∃ (A0:Option Addr) (cap n:Nat) (D:Nat→Dm) (A:Nat→Option Addr) (C:Nat→Nat),cs=[.slice A0 n cap]∧aY w A0 cap n D A C:=by
 rcases open_slice Tryz.underlying22 h with ⟨rfl,-⟩ | ⟨a,len,cap,m,n,D,Pl,rfl,-,s,-,f,-,l⟩
 ·exact ⟨none,0,0,fun _=>⟨default,0,0,fun _=>⟨default,0,0,default⟩⟩,fun _=>none,fun _=>0,rfl,zT,Or.inl rfl⟩
 rw [Ef] at l
 simp at f
 subst f
 haveI:Inhabited Dm:=⟨⟨default,0,0,fun _=>⟨default,0,0,default⟩⟩⟩
 have b:∀ i,i<len→∃ y:Dm×Option Addr×Nat,w.cells? 0 (a.add (i*3)) 3=some [.string y.1.name,.int .i64 y.1.solve,.slice y.2.1 y.1.n y.2.2]∧eg w y.2.1 y.2.2 y.1.n y.1.mem:=fun i j=>by
  obtain ⟨o,p,q⟩:=l i (by omega)
  obtain ⟨d,A,c,rfl,f⟩:=FF q;exact ⟨(d,A,c),p,f⟩
 obtain ⟨Y,g⟩:=choose_lt b;refine ⟨some a,_,len,fun i=>(Y i).1,fun i=>(Y i).2.1,fun i=>(Y i).2.2,rfl,s,?_⟩
 rcases Nat.eq_zero_or_pos len with h0 | h0
 ·exact Or.inl h0
 right
 have c0:=(World.cells?_some (g 0 h0).1).2.2 0 (by omega)
 rw [add_add] at c0;have k:=fk c0 (by omega)
 have r:=World.block_lt_of_cell? _ _ c0;refine ⟨a.block,a.off,by rw [←k],by simpa [Addr.add] using r,fun i j=>?_⟩
 have e:=(World.cells?_some (g i j).1).2.2;rw [k] at e;simp only [aK,Nat.add_assoc] at e;refine ⟨?_,?_,?_,(g i j).2⟩
 ·have:=e 0 (by omega);simpa using this
 ·have:=e 1 (by omega);simpa [Nat.add_assoc] using this
 have:=e 2 (by omega);simpa [Nat.add_assoc] using this
theorem J8 {α:Type} {a:Array α} (h:a.size=1):∃ x,a=#[x]:=by
 rcases a with ⟨l⟩
 match l,h with
 | [x],_=>exact ⟨x,rfl⟩
theorem sI {r:Reach} {b0:Nat} {v:Value} {d:DataW H} {p:List MemPlace} (g:Value.okWide Tryz.prog w r b0 24 v) (h:DataW.Trod enc Tryz.prog w 0 (fun _=>true) held 24 v d p) :
  ∃ (A0:Option Addr) (cap n:Nat) (D:Nat→Dm) (A:Nat→Option Addr) (C:Nat→Nat),v=.agg #[.slice A0 n cap]∧aY w A0 cap n D A C:=by
 obtain ⟨cs,rfl,a⟩:=okWide_struct Tryz.underlying24 g;obtain ⟨c0,rfl⟩:=J8 (a.trans IS);obtain ⟨fuel,f⟩:=h;obtain ⟨-,n,i⟩:=lJ Tryz.underlying24 (by kernel_rfl) f
 obtain ⟨j,b⟩:=i 0 _ c0 rfl rfl;obtain ⟨A0,cap,k,D,A,C,e,c⟩:=Cr b
 simp at e
 exact ⟨A0,cap,k,D,A,C,by rw [e],c⟩
end
def jY (w:World) (b o:Nat) (l:List Nd):Prop:=b<w.heap.size∧∀ k,k<l.length→w.cell? ⟨b,o+k*5,none⟩=some (.int .i64 (l.getD k bN).op)∧w.cell? ⟨b,o+k*5+1,none⟩=some (.int .i64 (l.getD k bN).n)∧w.cell? ⟨b,o+k*5+2,none⟩=some (.string (l.getD k bN).name)∧w.cell? ⟨b,o+k*5+3,none⟩=some (.int .i64 (l.getD k bN).left)∧w.cell? ⟨b,o+k*5+4,none⟩=some (.int .i64 (l.getD k bN).right)
theorem jY.later {w w':World} {b o:Nat} {l:List Nd} (h:jY w b o l) (a:Bl w w'):jY w' b o l:=by
 refine ⟨zW h.1 a.size,fun k i=>?_⟩
 obtain ⟨c,d,e,f,g⟩:=h.2 k i;exact ⟨aD a h.1 c,aD a h.1 d,aD a h.1 e,aD a h.1 f,aD a h.1 g⟩
def gp (w:World) (A:Option Addr) (cap:Nat) (l:List Nd):Prop:=l.length≤cap∧cap≤9223372036854775807∧(l=[]∨∃ b o,A=some ⟨b,o,none⟩∧jY w b o l)
theorem gp.later {w w':World} {A:Option Addr} {cap:Nat} {l:List Nd} (h:gp w A cap l) (f:Bl w w'):gp w' A cap l:=by
 obtain ⟨d,c,a | ⟨b,o,a,e⟩⟩:=h
 ·exact ⟨d,c,Or.inl a⟩
 exact ⟨d,c,Or.inr ⟨b,o,a,e.later f⟩⟩
theorem gp.nil (w:World) (A:Option Addr) (cap:Nat) (h:cap≤9223372036854775807):gp w A cap []:=⟨zU,h,Or.inl rfl⟩
end Go.Proofs.YtompdcaikmekkaaGreatDoor
namespace Go.Proofs.YtompdcaikmekkaaGreatDoor
open Go.ChangeShapes Go.WideShapes Go.ChangeAt Go.RowKit
set_option maxRecDepth 20000
theorem re (c:Int) (w:World):Rt 275 #[.int .u8 c] w (.bool (b8 c)):=by
 unfold b8
 by_cases a:48≤c
 ·go_enter Tryz.func275,Tryz.ntmps275
  go_wp2;go_ret;exact ⟨by simp <;> omega,by go_grown⟩
 go_enter Tryz.func275,Tryz.ntmps275
 go_wp2;go_ret;exact ⟨by simp <;> omega,by go_grown⟩
theorem islet_any (c:Int) (w:World):Rt 254 #[.int .u8 c] w (.bool (bD c)):=by
 unfold bD
 by_cases a:97≤c
 ·go_enter Tryz.func254,Tryz.ntmps254
  go_wp2;go_ret;exact ⟨by simp <;> omega,by go_grown⟩
 go_enter Tryz.func254,Tryz.ntmps254
 go_wp2;go_ret;exact ⟨by simp <;> omega,by go_grown⟩
theorem qF (op:Int) (w:World):Rt 238 #[.int .i64 op] w (.int .i64 (bindN op)):=by
 unfold bindN
 by_cases a:op=3
 ·subst a
  go_enter Tryz.func238,Tryz.ntmps238
  go_wp2;go_ret;exact ⟨by simp,by go_grown⟩
 by_cases b:op=4
 ·subst b
  go_enter Tryz.func238,Tryz.ntmps238
  go_wp2;go_ret;exact ⟨by simp,by go_grown⟩
 by_cases c:op=5
 ·subst c
  go_enter Tryz.func238,Tryz.ntmps238
  go_wp2;go_ret;exact ⟨by simp,by go_grown⟩
 by_cases d:op=6
 ·subst d
  go_enter Tryz.func238,Tryz.ntmps238
  go_wp2;go_ret;exact ⟨by simp,by go_grown⟩
 rw [if_neg (by omega),if_neg (by omega)]
 go_enter Tryz.func238,Tryz.ntmps238
 go_wp2;go_ret;exact ⟨rfl,by go_grown⟩
theorem B8 (op:Int) (w:World):Rt 215 #[.int .i64 op] w (.bool (decide (op≠1∧op≠2))):=by
 by_cases a:op=1
 ·subst a
  go_enter Tryz.func215,Tryz.ntmps215
  go_wp2;go_ret;exact ⟨by simp,by go_grown⟩
 by_cases b:op=2
 ·subst b
  go_enter Tryz.func215,Tryz.ntmps215
  go_wp2;go_ret;exact ⟨by simp,by go_grown⟩
 go_enter Tryz.func215,Tryz.ntmps215
 go_wp2;go_ret;exact ⟨by simp [a,b],by go_grown⟩
def brk (t:ByteArray) (b:Bool):ByteArray:=if b then ⟨#[40]⟩ ++ t ++ ⟨#[41]⟩ else t
theorem cY (s:ByteArray) (k:Nat) (h:k<s.size):((s[k]'h).toNat:Int)=byteN s k:=by
 unfold byteN;rw [List.getD,zX (by simpa using h)]
 rfl
theorem B9 {p:Int→Bool} {t:ByteArray} {f i:Nat} (h:p (byteN t i)=false):leadTo p t (f+1) i=i:=by simp [leadTo,h]
theorem uq {p:Int→Bool} {t:ByteArray} {f i:Nat} (h:p (byteN t i)=true):leadTo p t (f+1) i=leadTo p t f (i+1):=by simp [leadTo,h]
theorem uo (p:Int→Bool) (F:Nat) (q:∀ (args:Array Value) (w:World),(callFunc F args).run Tryz.prog w=.ok (.enter F args) w) (o:∀ (c:Int) (w:World),Rt F #[.int .u8 c] w (.bool (p c))) (t:ByteArray) (w:World) (y:t.size≤4611686018427387904):Rt 277 #[.string t,.func (.func F) #[] #[]] w (.int .i64 (leadN p t)):=by
 have s:=aa o;unfold leadN;clear o
 go_enter Tryz.func277,Tryz.ntmps277
 go_wp2_with fail
 go_loopg [8] t.size (fun g s8 wr => ∃ (k:Nat),k≤t.size∧g=t.size-k∧s8=.int .i64 k∧leadTo p t (t.size-k) k=leadTo p t t.size 0∧Bl w wr)
 case atStart=>exact ⟨0,zU,rfl,rfl,rfl,zS⟩
 case round =>
  obtain ⟨k,x,rfl,rfl,r,f⟩:=hrel;have j:=aa r;have l:=aa f;clear r f
  by_cases n:k<t.size
  ·have u:(k:Int)<(t.size:Int):=by omega
   have v:(t.size:Int)≤4611686018427387904:=by omega
   have d:Hid (t.size-k=(t.size-(k+1))+1):=by show _=_;omega
   have a:=s.out (byteN t k);have h:=cY t k n;cases hb:p (byteN t k)
   ·rw [hb] at a
    have i:=aa hb;clear hb;generalize byteN t k=c at a h;go_wp2_with fail;refine (a _).mono ?_;rintro e w1 ⟨rfl,b⟩;go_wp2_with fail;go_ret;exact ⟨by rw [←j.out,d.out,B9 i.out];rfl,ae l.out b⟩
   rw [hb] at a;have i:=aa hb;clear hb;generalize byteN t k=c at a h;go_wp2_with fail;refine (a _).mono ?_;rintro e w1 ⟨rfl,b⟩;go_wp2_with fail
   go_roundg (t.size-(k+1))
   case measure=>omega
   case rel=>exact ⟨k+1,by omega,rfl,by go_num,by rw [←j.out,d.out,uq i.out],ae l.out b⟩
  have m:k=t.size:=by omega
  subst m;go_wp2_with fail;go_ret;exact ⟨by rw [←j.out,Nat.sub_self];rfl,l.out⟩
theorem GZ (args:Array Value) (w:World):(callFunc 275 args).run Tryz.prog w=.ok (.enter 275 args) w:=by simp [go_sem]
theorem G0 (args:Array Value) (w:World):(callFunc 254 args).run Tryz.prog w=.ok (.enter 254 args) w:=by simp [go_sem]
theorem Ca (t:ByteArray) (w:World) (a:t.size≤4611686018427387904):Rt 277 #[.string t,.func (.func 275) #[] #[]] w (.int .i64 (leadN b8 t)):=uo b8 275 GZ re t w a
theorem Cb (t:ByteArray) (w:World) (a:t.size≤4611686018427387904):Rt 277 #[.string t,.func (.func 254) #[] #[]] w (.int .i64 (leadN bD t)):=uo bD 254 G0 islet_any t w a
theorem ac {B:Nat} {a w:World} (h:Below B a w) (n:Nat):Below B a (w.drewN n):=h.trans ⟨rfl,rfl,rfl,zT,fun _ _=>rfl⟩
def cX (w:World) (q:Nat) (s:ByteArray) (a o:Nat) (tv:Value):Prop:=w.heap[q]?=some (.cells #[.string s,.int .i64 a,.int .i64 o,tv] 309 (0,0))
section
variable {w w':World} {q a o:Nat} {s:ByteArray} {tv:Value}
theorem cX.lt (h:cX w q s a o tv):q<w.heap.size:=(zY h).1
theorem cX.c0 (h:cX w q s a o tv):w.cell? ⟨q,0,none⟩=some (.string s):=by unfold cX at h;simp [World.cell?,h]
theorem cX.c1 (h:cX w q s a o tv):w.cell? ⟨q,1,none⟩=some (.int .i64 a):=by unfold cX at h;simp [World.cell?,h]
theorem cX.c2 (h:cX w q s a o tv):w.cell? ⟨q,2,none⟩=some (.int .i64 o):=by unfold cX at h;simp [World.cell?,h]
theorem cX.c3 (h:cX w q s a o tv):w.cell? ⟨q,3,none⟩=some tv:=by unfold cX at h;simp [World.cell?,h]
theorem cX.fr (h:cX w q s a o tv) (j:Nat):w.frozen? ⟨q,j,none⟩=false:=by unfold cX at h;simp [World.frozen?,h]
theorem cX.later (h:cX w q s a o tv) (b:Bl w w'):cX w' q s a o tv:=(b.block q h.lt).trans h
theorem cX.same (h:cX w q s a o tv) (b:w'.heap[q]?=w.heap[q]?):cX w' q s a o tv:=b.trans h
theorem cX.set1 (h:cX w q s a o tv) (n:Nat):cX (w.setCell ⟨q,1,none⟩ (.int .i64 n)) q s n o tv:=by
 unfold cX at *;rw [setCell_eq_setRow w q 1 _ _ (0,0) _ h,setRow_heap w q _ _ _ _ h]
 rfl
theorem cX.set2 (h:cX w q s a o tv) (n:Nat):cX (w.setCell ⟨q,2,none⟩ (.int .i64 n)) q s a n tv:=by
 unfold cX at *;rw [setCell_eq_setRow w q 2 _ _ (0,0) _ h,setRow_heap w q _ _ _ _ h]
 rfl
end
theorem iB (q a o:Nat) (s:ByteArray) (tv:Value) (w:World) (g:a≤s.size) (b:cX w q s a o tv):Rt 273 #[.pointer (some ⟨q,0,none⟩)] w (.int .u8 (nextB s a)):=by
 have c0:=b.c0;have c1:=b.c1;have h:=b.lt;clear b
 by_cases e:a=s.size
 ·subst e
  have c:nextB s s.size=0:=by simp [nextB]
  rw [c]
  go_enter Tryz.func273,Tryz.ntmps273
  go_wp2_with fail
  go_quiet (fail)
  go_wp2_with fail;go_ret;exact ⟨rfl,ac (zS) _⟩
 have d:a<s.size:=by omega
 have c:nextB s a=byteN s a:=by simp [nextB,e]
 have hne : ¬ (a:Int)=(s.size:Int):=by omega
 have f:=cY s a d;rw [c]
 go_enter Tryz.func273,Tryz.ntmps273
 go_wp2_with fail
 go_quiet (fail)
 go_wp2_with fail
 go_quiet (fail)
 go_wp2_with fail;go_ret;exact ⟨rfl,ac (ac (zS) _) _⟩
theorem pY (q a o:Nat) (s:ByteArray) (tv:Value) (w:World) (b:cX w q s a o tv):Calls Tryz.prog 258 #[.pointer (some ⟨q,0,none⟩)] w fun e w'=>e=.panicked [{ v:=.iface 307 (.int .i64 a),recovered:=false }]∧Bl w w':=by
 have c1:=b.c1;clear b
 go_enter Tryz.func258,Tryz.ntmps258
 go_wp2;exact ⟨rfl,rfl,zS⟩
structure Kept (N:Nat) (X:Nat→Prop) (w w':World):Prop where
 os:w'.os=w.os
 tape:w'.tape=w.tape
 output:w'.output=w.output
 size:w.heap.size≤w'.heap.size
 block:∀ k,k<N→¬ X k→w'.heap[k]?=w.heap[k]?
section
variable {N:Nat} {X Y:Nat→Prop} {w w' w'':World}
theorem Kept.refl (N:Nat) (X:Nat→Prop) (w:World):Kept N X w w:=⟨rfl,rfl,rfl,zT,fun _ _ _=>rfl⟩
theorem Kept.trans (h:Kept N X w w') (k:Kept N X w' w''):Kept N X w w'':=⟨k.os.trans h.os,k.tape.trans h.tape,k.output.trans h.output,zV h.size k.size,fun i a b=>(k.block i a b).trans (h.block i a b)⟩
theorem Kept.wide (h:Kept N X w w') (b:∀ k,X k→Y k):Kept N Y w w':=⟨h.os,h.tape,h.output,h.size,fun i a c=>h.block i a fun e=>c (b i e)⟩
theorem ax (h:Bl w w') (a:N≤w.heap.size):Kept N X w w':=⟨h.os,h.tape,h.output,h.size,fun i b _=>h.block i (zW b a)⟩
theorem eC {q:Nat} (h:w.grownBy w' (some q)) (a:N≤w.heap.size) (b:X q):Kept N X w w':=⟨h.os,h.tape,h.output,h.size,fun i c d=>h.block i (zW c a) fun e=>d (by cases e;exact b)⟩
end
theorem av (w:World) (q j k:Nat) (v:Value) (h:k≠q):(w.setCell ⟨q,j,none⟩ v).heap[k]?=w.heap[k]?:=by
 simp only [World.setCell];rw [Array.getElem?_modify,if_neg (fun e=>h e.symm)]
theorem dd (w:World) (r:Option Nat):w.grownBy w r:=⟨rfl,rfl,rfl,zT,fun _ _ _=>rfl⟩
theorem iU {w w':World} {r:Option Nat} (h:Bl w w'):w.grownBy w' r:=⟨h.os,h.tape,h.output,h.size,fun i a _=>h.block i a⟩
theorem dD {w w':World} {q j:Nat} {v:Value} (h:w.grownBy w' (some q)):w.grownBy (w'.setCell ⟨q,j,none⟩ v) (some q) :=
 ⟨h.os,h.tape,h.output,by simpa using h.size,fun k c b=>by
  have a:k≠q:=fun e=>b (by rw [e])
  exact (av w' q j k v a).trans (h.block k c b)⟩
inductive Stp:Nat→Bool→ByteArray→Nat→Bool→Prop
 | opn (o:Nat) (t:ByteArray):t.size=1→byteN t 0=40→Stp o false t (o+1) false
 | cls (o:Nat) (t:ByteArray):t.size=1→byteN t 0=41→Stp (o+1) true t o true
 | num (o:Nat) (t:ByteArray):1≤t.size→t.size≤7→(∀ i,i<t.size→b8 (byteN t i)=true)→Stp o false t o true
 | nam (o:Nat) (t:ByteArray):1≤t.size→(∀ i,i<t.size→bD (byteN t i)=true)→Stp o false t o true
 | sgn (o:Nat) (t:ByteArray):t.size=1→0≤signI (byteN t 0)→Stp o true t o false
structure Tkr (S:Type) where
 N:Nat
 p:Nat
 M:Nat
 F:Nat
 first:Array Value
 tk:S→ByteArray→S
 I:S→World→Prop
 G:Nat→Nat→Bool→S→Prop
def Tkr.fv {S:Type} (T:Tkr S):Value:=.func (.func T.F) T.first #[]
structure Tkr.Ok {S:Type} (T:Tkr S):Prop where
 small:T.M≤4611686018427387904
 ent:∀ (args:Array Value) (w:World),(callFunc T.F args).run Tryz.prog w=.ok (.enter T.F args) w
 stay:∀ (q:Nat) (st:S) (w w':World),q<T.N→q≠T.p→T.I st w→w.grownBy w' (some q)→T.I st w'
 step:∀ (a o:Nat) (ph:Bool) (st:S) (t:ByteArray) (o':Nat) (ph':Bool),Stp o ph t o' ph'→T.G a o ph st→a+t.size≤T.M→T.G (a+t.size) o' ph' (T.tk st t)
 call:∀ (a o:Nat) (ph:Bool) (st:S) (t:ByteArray) (o':Nat) (ph':Bool) (w:World),Stp o ph t o' ph'→T.G a o ph st→a+t.size≤T.M→T.N≤w.heap.size→T.I st w→Calls Tryz.prog T.F (T.first ++ #[.string t]) w fun e w'=>e=.returned (.tuple #[])∧T.I (T.tk st t) w'∧Kept T.N (fun k=>k=T.p) w w'
theorem dK {s:ByteArray} {a n:Nat} (h:a+n≤s.size):(s.extract a (a+n)).size=n:=by rw [ByteArray.size_extract];omega
theorem iN {S:Type} (T:Tkr S) (d:T.Ok) (q a o oc n o':Nat) (ph ph':Bool) (s:ByteArray) (st:S) (w:World) (hs:s.size≤T.M) (E:a+n≤s.size) (v:q<T.N) (f:q≠T.p) (r:T.N≤w.heap.size)
  (g:cX w q s a oc T.fv) (C:T.I st w) (B:T.G a o ph st) (t:Stp o ph (s.extract a (a+n)) o' ph') :
  Calls Tryz.prog 274 #[.pointer (some ⟨q,0,none⟩),.int .i64 n] w fun e w'=>e=.returned (.tuple #[])∧cX w' q s (a+n) oc T.fv∧T.I (T.tk st (s.extract a (a+n))) w'∧Kept T.N (fun k=>k=T.p∨k=q) w w':=by
 have U:=d.small;have x:=dK E;obtain ⟨m,O⟩:=aA (a+n);rw [O] at E t x ⊢;have c0:=g.c0;have c1:=g.c1;have K:=g.fr 1;have H:=g.lt;have j:(a:Int)+(n:Int)=(m:Int):=by omega
 obtain ⟨W,u⟩:=aA (w.setCell ⟨q,1,none⟩ (.int .i64 (m:Int)));have b:cX W q s m oc T.fv:=by rw [←u];exact g.set1 m
 have c:w.grownBy W (some q):=by rw [←u];exact dD (dd w _)
 have h:=d.stay q st w W v f C c;have J:Hid (∀ w',Bl W w'→Calls Tryz.prog T.F (T.first ++ #[.string (s.extract a m)]) w' fun e w''=>e=.returned (.tuple #[])∧cX w'' q s m oc T.fv∧T.I (T.tk st (s.extract a m)) w''∧Kept T.N (fun k=>k=T.p∨k=q) w w''):=by
  intro w' l;have i:T.I st w':=d.stay q st W w' v f h (iU l);refine (d.call a o ph st _ o' ph' w' t B (by omega) (zV r (zV c.size l.size)) i).mono ?_
  rintro e w'' ⟨rfl,L,A⟩;refine ⟨rfl,?_,L,?_⟩
  ·exact (b.later l).same (A.block q v f)
  have y:Kept T.N (fun k=>k=T.p∨k=q) w W:=eC c r (Or.inr rfl)
  have z:Kept T.N (fun k=>k=T.p∨k=q) W w':=ax l (zV r c.size)
  exact (y.trans z).trans (A.wide fun k e=>Or.inl e)
 have Y:=b.c0;have Z:=b.c1;have d3:=b.c3;have D:=d.ent;have P:(a:Int)≤(m:Int):=by omega
 have Q:(m:Int)≤(s.size:Int):=by omega
 have R:(m:Int)≤4611686018427387904:=by omega
 have X:Hid T.Ok:=d;clear h c b C B t g d;unfold Tkr.fv at *
 go_enter Tryz.func274,Tryz.ntmps274
 go_wp2_with fail;clear c0 c1 K u j
 go_region_law ((go_simp;refine (J.out _ (by go_grown)).mono ?_;rintro e w2 ⟨rfl,y,z,V⟩))
 all_goals (go_end0;exact ⟨rfl,y,z,V⟩)
end Go.Proofs.YtompdcaikmekkaaGreatDoor
namespace Go.Proofs
open Go.Shelf
def Tryz.lays137_ren:Go.Shelf.Ren:=⟨fun | 137=>237 | 217=>253 | 266=>270 | n=>n,fun | 9=>9 | 5=>5 | 3=>3 | n=>n,fun | n=>n⟩
theorem Tryz.lays137:Go.Proofs.Lays.n137 Tryz.prog Tryz.lays137_ren:={
 mixed:=by kernel_rfl
 f137:=Tryz.func237.trans (congrArg some (by kernel_rfl))
 f217:=Tryz.func253.trans (congrArg some (by kernel_rfl))
 f266:=Tryz.func270.trans (congrArg some (by kernel_rfl))
 t3:=Tryz.underlying3
 a3:=Tryz.isAgg3
 z3:=Tryz.sizeOf3
 v3:=Tryz.zeroValue3
 t5:=Tryz.underlying5
 a5:=Tryz.isAgg5
 z5:=Tryz.sizeOf5
 v5:=Tryz.zeroValue5
 t9:=Tryz.underlying9
 a9:=Tryz.isAgg9
 z9:=Tryz.sizeOf9
 v9:=Tryz.zeroValue9 }
namespace YtompdcaikmekkaaGreatDoor
open Go.ChangeShapes Go.WideShapes Go.ChangeAt Go.RowKit
theorem Dn:∀ c:Fin 256,Lib.indexByte [43,45,42,47] c.val.toUInt8=signI (c.val:Int):=by decide +kernel
theorem Ga (c:Int) (a:0≤c) (b:c<256):Lib.indexByte [43,45,42,47] c.toNat.toUInt8=signI c:=by
 have h:=Dn ⟨c.toNat,by omega⟩
 simp only at h;rw [h,show ((c.toNat:Nat):Int)=c by omega]
theorem pT (c:Int) (a:0≤c) (b:c<256) (w:World):Rt 237 #[.string ⟨#[43,45,42,47]⟩,.int .u8 c] w (.int .i64 (signI c)) :=
 (Any.strings_IndexByte Tryz.lays137 ⟨#[43,45,42,47]⟩ c w).mono fun e w' ⟨d,f⟩=>⟨by rw [d,Ga c a b],by rw [f];exact zS⟩
theorem tJ (s:ByteArray) (i:Nat):0≤byteN s i∧byteN s i<256:=by
 unfold byteN;have:=(s.data.toList.getD i 0).toNat_lt
 omega
theorem mT (s:ByteArray) (i:Nat):0≤nextB s i∧nextB s i<256:=by
 unfold nextB
 split
 ·omega
 exact tJ s i
end YtompdcaikmekkaaGreatDoor
end Go.Proofs
namespace Go.Proofs.YtompdcaikmekkaaGreatDoor
open Go.ChangeShapes Go.WideShapes Go.ChangeAt Go.RowKit
set_option maxRecDepth 20000
theorem cD {s:ByteArray} {a:Nat} (h:nextB s a≠0) (b:a≤s.size):a<s.size:=by
 by_cases e:a=s.size
 ·subst e;simp [nextB] at h
 omega
theorem iL (s:ByteArray) (a:Nat):(s.extract a s.size).size=s.size-a:=by rw [ByteArray.size_extract];omega
theorem vm (q a o:Nat) (s:ByteArray) (tv:Value) (w:World) (v:s.size≤4611686018427387904) (r:a≤s.size) (j:cX w q s a o tv):Rt 276 #[.pointer (some ⟨q,0,none⟩)] w (.int .i64 (digitsN s a)):=by
 have g:=iB q a o s tv w r j;unfold digitsN
 by_cases b:nextB s a=48
 ·rw [b] at g
  rw [if_pos b];clear b
  go_enter Tryz.func276,Tryz.ntmps276
  go_wp2_with fail;refine g.mono ?_;rintro e w1 ⟨rfl,d⟩;go_wp2_with fail;go_ret;exact ⟨rfl,d⟩
 have m:(nextB s a == 48)=false:=by simpa using b
 rw [if_neg b];generalize nextB s a=c at *;have l:Hid (∀ w',Bl w w'→Rt 277 #[.string (s.extract a s.size),.func (.func 275) #[] #[]] w' (.int .i64 (leadN b8 (s.extract a s.size)))):=fun w' _=>Ca _ w' (by rw [iL];omega)
 generalize leadN b8 (s.extract a s.size)=n at l ⊢;have p:Hid (((min n 7:Nat):Int)=min (n:Int) 7):=by show _=_;omega
 have t:(a:Int)≤(s.size:Int):=by omega
 have u:(s.size:Int)≤4611686018427387904:=by omega
 go_enter Tryz.func276,Tryz.ntmps276
 go_wp2_with fail;refine g.mono ?_;rintro e w1 ⟨rfl,d⟩;have f:=j.later d;have c0:=f.c0;have c1:=f.c1;have k:=aa d;clear f d j;go_wp2_with fail
 go_region_law ((go_simp;refine (l.out _ (ae k.out (by go_grown))).mono ?_;rintro e w2 ⟨rfl,h⟩;have i:=ae (ae (W0:=w) k.out (by go_grown)) h;clear h))
 all_goals (go_wp2_with fail;all_goals (go_ret;refine ⟨?_,i⟩;first | (rw [p.out];rfl) | (rw [show min n 7=7 by omega];rfl) | (rw [show min n 7=n by omega];rfl)))
structure RdS {S:Type} (T:Tkr S) (w:World) (q:Nat) (s:ByteArray) (ph:Bool) (r:Rd S):Prop where
 rd:cX w q s r.at' r.opn T.fv
 mem:T.I r.st w
 good:T.G r.at' r.opn ph r.st
 inn:r.at'≤s.size
 few:r.opn≤r.at'
 room:T.N≤w.heap.size
section
variable {S:Type} {T:Tkr S} {w w':World} {q:Nat} {s:ByteArray} {ph:Bool} {r:Rd S}
theorem RdS.later (h:RdS T w q s ph r) (c:T.Ok) (d:q<T.N) (b:q≠T.p) (a:Bl w w'):RdS T w' q s ph r :=
 ⟨h.rd.later a,c.stay q _ _ _ d b h.mem (iU a),h.good,h.inn,h.few,zV h.room a.size⟩
end
def J6 (a:Nat):List PanicEntry:=[{ v:=.iface 307 (.int .i64 a),recovered:=false }]
def iP {S:Type} (T:Tkr S) (q:Nat) (s:ByteArray) (ph:Bool) (w:World) (x:Rd S×Bool) (e:Ending) (w':World):Prop:=Kept T.N (fun k=>k=T.p∨k=q) w w'∧((x.2=true∧e=.returned (.tuple #[])∧RdS T w' q s ph x.1)∨(x.2=false∧e=.panicked (J6 x.1.at')))
section
variable {S:Type} {T:Tkr S} {w w':World} {q:Nat} {s:ByteArray} {ph:Bool} {x:Rd S×Bool} {r:Rd S}
theorem iP.ok (h:x=(r,true)) (a:Kept T.N (fun k=>k=T.p∨k=q) w w') (b:RdS T w' q s ph r):iP T q s ph w x (.returned (.tuple #[])) w':=⟨a,Or.inl ⟨by rw [h],rfl,by rw [h];exact b⟩⟩
theorem iP.no (h:x=(r,false)) (a:Kept T.N (fun k=>k=T.p∨k=q) w w'):iP T q s ph w x (.panicked (J6 r.at')) w':=⟨a,Or.inr ⟨by rw [h],by rw [h]⟩⟩
end
theorem fl {s:ByteArray} {a b i:Nat} (h:i<b-a):byteN (s.extract a b) i=byteN s (a+i):=by
 unfold byteN;rw [Lib.extract_data];simp only [List.getD,List.getElem?_take,List.getElem?_drop];rw [if_pos h]
theorem nE {s:ByteArray} {a:Nat} (h:a<s.size):nextB s a=byteN s a:=by rw [nextB,if_neg (by omega)]
theorem AU {s:ByteArray} {a o:Nat} (c:a≤s.size) (h : ¬ signI (nextB s a)<0):a+1≤s.size∧Stp o true (s.extract a (a+1)) o false:=by
 have b:a<s.size:=cD (fun e=>h (by rw [e];decide)) c
 refine ⟨b,Stp.sgn o _ (dK b) ?_⟩;rw [fl (by omega),Nat.add_zero,←nE b]
 omega
theorem RdS.word {S:Type} {T:Tkr S} {w w':World} {q n o o':Nat} {s:ByteArray} {ph ph':Bool} {r:Rd S} (i:T.Ok) (l:s.size≤T.M) (a:r.at'+n≤s.size) (e:T.G r.at' o ph r.st) (g:Stp o ph (s.extract r.at' (r.at'+n)) o' ph') (j:o'≤r.at'+n) (f:T.N≤w.heap.size)
  (b:cX w' q s (r.at'+n) o' T.fv) (c:T.I (T.tk r.st (s.extract r.at' (r.at'+n))) w') (d:Kept T.N (fun k=>k=T.p∨k=q) w w'):RdS T w' q s ph' (wordR s T.tk n ⟨r.at',o',r.st⟩):=by
 refine ⟨b,c,?_,a,j,zV f d.size⟩;have h:=i.step r.at' o ph r.st _ o' ph' g e (by rw [dK a];omega)
 rw [dK a] at h;exact h
theorem Gb {S:Type} (T:Tkr S) (y:T.Ok) (q:Nat) (s:ByteArray) (r:Rd S) (w:World) (C:s.size≤T.M) (A:q<T.N) (i:q≠T.p) (j:RdS T w q s true r) :
  Calls Tryz.prog 257 #[.pointer (some ⟨q,0,none⟩)] w fun e w'=>iP T q s false w (cJ s T.tk r) e w':=by
 have n:=iB q r.at' r.opn s T.fv w j.inn j.rd;have g:=pT (nextB s r.at') (mT s r.at').1 (mT s r.at').2;have t:=aa j;have u:Hid T.Ok:=y
 by_cases h:signI (nextB s r.at')<0
 ·have m:cJ s T.tk r=(r,false):=by rw [cJ,if_pos h]
  have v:=aa m;clear m;generalize signI (nextB s r.at')=c at *;generalize nextB s r.at'=b at *;clear j y
  go_enter Tryz.func257,Tryz.ntmps257
  go_wp2_with fail;refine n.mono ?_;rintro e w1 ⟨rfl,d⟩;go_wp2_with fail;refine (g _).mono ?_;rintro e w2 ⟨rfl,f⟩;have l:=aa (ae d f);have a:=aa (t.out.later u.out A i l.out);clear d f;go_wp2_with fail;refine (pY q r.at' r.opn s T.fv w2 a.out.rd).mono ?_;rintro e w3 ⟨rfl,z⟩;go_wp2_with fail;exact ⟨rfl,iP.no v.out (ax (ae l.out z) t.out.room)⟩
 obtain ⟨D,E⟩:=AU (o:=r.opn) j.inn h;have B:=aa E;have m:cJ s T.tk r=(wordR s T.tk 1 r,true):=by rw [cJ,if_neg h]
 have v:=aa m;clear m;have G:0≤signI (nextB s r.at'):=by omega
 generalize signI (nextB s r.at')=c at *;generalize nextB s r.at'=b at *;clear j y E h
 go_enter Tryz.func257,Tryz.ntmps257
 go_wp2_with fail;refine n.mono ?_;rintro e w1 ⟨rfl,d⟩;go_wp2_with fail;refine (g _).mono ?_;rintro e w2 ⟨rfl,f⟩;have l:=aa (ae d f);have a:=aa (t.out.later u.out A i l.out);clear d f;go_wp2_with fail;refine (iN T u.out q r.at' r.opn r.opn 1 r.opn true false s r.st w2 C D A i a.out.room a.out.rd a.out.mem a.out.good B.out).mono ?_;rintro e w3 ⟨rfl,g1,g2,g3⟩;have F:Hid (Kept T.N (fun k=>k=T.p∨k=q) w w3):=(ax l.out t.out.room).trans g3
 have x:Hid (RdS T w3 q s false (wordR s T.tk 1 r)):=RdS.word (r:=r) (o':=r.opn) u.out C D a.out.good B.out (by have:=a.out.few;omega) a.out.room g1 g2 g3
 clear g1 g2 g3;go_wp2_with fail
 first | go_end0 | skip
 exact iP.ok v.out F.out x.out
section
variable {S:Type} {s:ByteArray} {tk:S→ByteArray→S} {r:Rd S}
theorem Ct (a:r.at'<s.size) (h:nextB s r.at'=40):opensR s tk (s.size-r.at') r=opensR s tk (s.size-(r.at'+1)) (wordR s tk 1 ⟨r.at',r.opn+1,r.st⟩):=by
 rw [show s.size-r.at'=(s.size-(r.at'+1))+1 by omega,opensR,if_pos h]
theorem xO (h:nextB s r.at'≠40):opensR s tk (s.size-r.at') r=r:=by
 cases e:s.size-r.at' with
 | zero=>rfl
 | succ k=>rw [opensR,if_neg h]
theorem oi {f:Nat} (a:0<r.opn) (h:nextB s r.at'=41):bv s tk (f+1) r=bv s tk f (wordR s tk 1 ⟨r.at',r.opn-1,r.st⟩):=by rw [bv,if_pos ⟨a,h⟩]
theorem gL {f:Nat} (h : ¬ (0<r.opn∧nextB s r.at'=41)):bv s tk f r=r:=by
 cases f with
 | zero=>rfl
 | succ k=>rw [bv,if_neg h]
theorem uS (h:b8 (nextB s (bJ s tk r).at')=true):aE s tk r=(bv s tk s.size (wordR s tk (digitsN s (bJ s tk r).at') (bJ s tk r)),true):=by rw [aE,if_pos h]
theorem uT (a:b8 (nextB s (bJ s tk r).at')=false) (h:bD (nextB s (bJ s tk r).at')=true):aE s tk r=(bv s tk s.size (wordR s tk (leadN bD (s.extract (bJ s tk r).at' s.size)) (bJ s tk r)),true):=by
 rw [aE,if_neg (by rw [a];decide),if_pos h]
theorem AB (a:b8 (nextB s (bJ s tk r).at')=false) (h:bD (nextB s (bJ s tk r).at')=false):aE s tk r=(bJ s tk r,false):=by
 rw [aE,if_neg (by rw [a];decide),if_neg (by rw [h];decide)]
end
theorem iW (p:Int→Bool) (t:ByteArray):∀ f i,i≤leadTo p t f i∧leadTo p t f i≤i+f∧∀ j,i≤j→j<leadTo p t f i→p (byteN t j)=true
 | 0,i=>⟨zT,zT,fun j c a=>by simp only [leadTo] at a;omega⟩
 | f+1,i=>by
  by_cases h:p (byteN t i)=true
  ·obtain ⟨c,a,d⟩:=iW p t f (i+1)
   rw [leadTo,if_pos h];refine ⟨by omega,by omega,fun j g b=>?_⟩
   by_cases e:i=j
   ·rw [←e];exact h
   exact d j (by omega) b
  rw [leadTo,if_neg h];exact ⟨zT,by omega,fun j c a=>by omega⟩
theorem E3 {p:Int→Bool} {t:ByteArray} (b:0<t.size) (h:p (byteN t 0)=true):1≤leadN p t:=by
 unfold leadN;obtain ⟨k,a⟩:∃ k,t.size=k+1:=⟨t.size-1,by omega⟩
 rw [a,leadTo,if_pos h];exact (iW p t k 1).1
theorem iv {p:Int→Bool} {s:ByteArray} {a n:Nat} (d:a<s.size) (h:p (nextB s a)=true) (j:n≤leadN p (s.extract a s.size)):1≤leadN p (s.extract a s.size)∧a+n≤s.size∧∀ i,i<n→p (byteN (s.extract a (a+n)) i)=true:=by
 obtain ⟨_,f,c⟩:=iW p (s.extract a s.size) (s.extract a s.size).size 0;have e:=iL s a;unfold leadN at *;have b:byteN (s.extract a s.size) 0=nextB s a:=by rw [fl (by omega),nE d];rfl
 refine ⟨E3 (by omega) (by rw [b];exact h),by omega,fun i g=>?_⟩
 have:=c i (zU) (by omega)
 rw [fl (by omega)] at this ⊢
 exact this
theorem kP {s:ByteArray} {a o:Nat} (j:a≤s.size) (h:b8 (nextB s a)=true):a+digitsN s a≤s.size∧Stp o false (s.extract a (a+digitsN s a)) o true:=by
 have c:a<s.size:=cD (fun e=>by rw [e] at h;revert h;decide) j
 have b:1≤digitsN s a∧digitsN s a≤7∧digitsN s a≤leadN b8 (s.extract a s.size):=by
  have:=(iv (n:=0) c h (zU)).1;unfold digitsN
  split <;> omega
 obtain ⟨-,d,g⟩:=iv c h b.2.2;refine ⟨d,Stp.num o _ ?_ ?_ fun i f=>g i ?_⟩
 ·rw [dK d];exact b.1
 ·rw [dK d];exact b.2.1
 rw [dK d] at f;exact f
theorem oY {s:ByteArray} {a o:Nat} (j:a≤s.size) (h:bD (nextB s a)=true):a+leadN bD (s.extract a s.size)≤s.size∧Stp o false (s.extract a (a+leadN bD (s.extract a s.size))) o true:=by
 have c:a<s.size:=cD (fun e=>by rw [e] at h;revert h;decide) j
 obtain ⟨f,b,g⟩:=iv c h (zT);refine ⟨b,Stp.nam o _ ?_ fun i d=>g i ?_⟩
 ·rw [dK b];exact f
 rw [dK b] at d;exact d
theorem iD {s:ByteArray} {a o:Nat} (c:a≤s.size) (h:nextB s a=40):a+1≤s.size∧Stp o false (s.extract a (a+1)) (o+1) false:=by
 have b:a<s.size:=cD (by rw [h];decide) c
 refine ⟨b,Stp.opn o _ (dK b) ?_⟩;rw [fl (by omega),Nat.add_zero,←nE b]
 exact h
theorem gv {s:ByteArray} {a o:Nat} (c:a≤s.size) (h:nextB s a=41):a+1≤s.size∧Stp (o+1) true (s.extract a (a+1)) o true:=by
 have b:a<s.size:=cD (by rw [h];decide) c
 refine ⟨b,Stp.cls o _ (dK b) ?_⟩;rw [fl (by omega),Nat.add_zero,←nE b]
 exact h
theorem RdS.open {S:Type} {T:Tkr S} {w:World} {q:Nat} {s:ByteArray} {ph:Bool} {r:Rd S} (c:T.Ok) (d:q<T.N) (b:q≠T.p) (h:RdS T w q s ph r) (o:Nat) :
  cX (w.setCell ⟨q,2,none⟩ (.int .i64 o)) q s r.at' o T.fv∧T.I r.st (w.setCell ⟨q,2,none⟩ (.int .i64 o))∧T.N≤(w.setCell ⟨q,2,none⟩ (.int .i64 o)).heap.size∧Kept T.N (fun k=>k=T.p∨k=q) w (w.setCell ⟨q,2,none⟩ (.int .i64 o)):=by
 have a:w.grownBy (w.setCell ⟨q,2,none⟩ (.int .i64 o)) (some q):=dD (dd w _);exact ⟨h.rd.set2 o,c.stay q _ _ _ d b h.mem a,zV h.room a.size,eC a h.room (Or.inr rfl)⟩
theorem mW {S:Type} (T:Tkr S) (hT:T.Ok) (q:Nat) (s:ByteArray) (r:Rd S) (w:World) (hs:s.size≤T.M) (B:q<T.N) (d:q≠T.p) (hR:RdS T w q s false r) :
  Calls Tryz.prog 256 #[.pointer (some ⟨q,0,none⟩)] w fun e w'=>iP T q s true w (aE s T.tk r) e w':=by
 have HR:=aa hR;have t:Hid T.Ok:=hT;have hsm:=hT.small;clear hR hT
 go_enter Tryz.func256,Tryz.ntmps256
 go_wp2_with fail
 go_loopg [] (s.size-r.at') (fun g wr => ∃ (a:Rd S),g=s.size-a.at'∧opensR s T.tk (s.size-a.at') a=bJ s T.tk r∧RdS T wr q s false a∧Kept T.N (fun k=>k=T.p∨k=q) w wr)
 case atStart=>exact ⟨r,rfl,rfl,HR.out,Kept.refl _ _ _⟩
 case round =>
  obtain ⟨a,rfl,ho,V,hk⟩:=hrel;have HO:=aa ho;have C:=aa V;have HK1:=aa hk;have X:=iB q a.at' a.opn s T.fv wr V.inn V.rd;have hfew:=V.few;have H:=V.inn;clear ho hk V
  by_cases O:nextB s a.at'=40
  ·obtain ⟨k1,k2⟩:=iD (o:=a.opn) H O
   have HS:=aa k2;have HN:Hid (opensR s T.tk (s.size-a.at') a=opensR s T.tk (s.size-(a.at'+1)) (wordR s T.tk 1 ⟨a.at',a.opn+1,a.st⟩)):=Ct k1 O;rw [O] at X;clear O k2;go_wp2_with fail;refine X.mono ?_;rintro e w1 ⟨rfl,P⟩;have L:=aa (C.out.later t.out B d P);have HK2:=aa (HK1.out.trans (ax P C.out.room));have c2:=L.out.rd.c2;have f2:=L.out.rd.fr 2;obtain ⟨o1,U⟩:=aA (a.opn+1);have hsum:(a.opn:Int)+1=(o1:Int):=by omega
   have hbig:(o1:Int)≤4611686018427387904:=by omega
   obtain ⟨W,hW⟩:=aA (w1.setCell ⟨q,2,none⟩ (.int .i64 (o1:Int)));obtain ⟨g1,g2,g3,g4⟩:=RdS.open t.out B d L.out o1;rw [hW] at g1 g2 g3 g4;have i:Hid (cX W q s a.at' o1 T.fv∧T.I a.st W∧T.N≤W.heap.size∧Kept T.N (fun k=>k=T.p∨k=q) w1 W):=⟨g1,g2,g3,g4⟩
   rw [U] at HS HN;clear P X g1 g2 g3 g4;go_wp2_with fail;refine (iN T t.out q a.at' a.opn o1 1 o1 false false s a.st W hs k1 B d i.out.2.2.1 i.out.1 i.out.2.1 C.out.good HS.out).mono ?_;rintro e w3 ⟨rfl,g1,g2,g3⟩;have Y:=aa ((HK2.out.trans i.out.2.2.2).trans g3);have F:Hid (RdS T w3 q s false (wordR s T.tk 1 ⟨a.at',o1,a.st⟩)):=RdS.word t.out hs k1 C.out.good HS.out (by omega) i.out.2.2.1 g1 g2 g3
   clear g1 g2 g3;go_wp2_with fail
   go_roundg (s.size-(a.at'+1))
   case measure=>omega
   case rel=>exact ⟨wordR s T.tk 1 ⟨a.at',o1,a.st⟩,rfl,by rw [←HO.out,HN.out];rfl,F.out,Y.out⟩
  have E:Hid (bJ s T.tk r=a):=by show _=_;rw [←HO.out];exact xO O
  have h40':(nextB s a.at' == 40)=false:=by simpa using O
  obtain ⟨c,hc⟩:=aA (nextB s a.at');have HC:=aa hc;rw [hc] at X h40';clear O hc;go_wp2_with fail;refine X.mono ?_;rintro e w1 ⟨rfl,P⟩;have L:=aa (C.out.later t.out B d P);have HK2:=aa (HK1.out.trans (ax P C.out.room));have KL:=iB q a.at' a.opn s T.fv w1 H L.out.rd;rw [HC.out] at KL;clear P X;go_wp2_with fail;refine KL.mono ?_;rintro e w2 ⟨rfl,hb2⟩;have F:=aa (L.out.later t.out B d hb2);have Y:=aa (HK2.out.trans (ax hb2 L.out.room));clear hb2 KL;have G:=re c;have R:=islet_any c;cases hd:b8 c
  ·rw [hd] at G
   cases hl:bD c
   ·rw [hl] at R
    have HD:Hid (aE s T.tk r=(a,false)):=by
     have h:=AB (s:=s) (tk:=T.tk) (r:=r) (by rw [E.out,HC.out];exact hd) (by rw [E.out,HC.out];exact hl)
     rw [E.out] at h;exact h
    clear hd hl;go_wp2_with fail;refine (G _).mono ?_;rintro e w3 ⟨rfl,z⟩;have D:=aa (F.out.later t.out B d z);have Z:=aa (Y.out.trans (ax z F.out.room));clear z G;go_wp2_with fail;refine (R _).mono ?_;rintro e w4 ⟨rfl,A⟩;have x:=aa (D.out.later t.out B d A);have KG:=aa (Z.out.trans (ax A D.out.room));clear A R;go_wp2_with fail;refine (pY q a.at' a.opn s T.fv w4 x.out.rd).mono ?_;rintro e w5 ⟨rfl,hb5⟩;go_wp2_with fail;exact ⟨rfl,iP.no HD.out (KG.out.trans (ax hb5 x.out.room))⟩
   rw [hl] at R;have HD:Hid (aE s T.tk r=(bv s T.tk s.size (wordR s T.tk (leadN bD (s.extract a.at' s.size)) a),true)):=by
    have h:=uT (s:=s) (tk:=T.tk) (r:=r) (by rw [E.out,HC.out];exact hd) (by rw [E.out,HC.out];exact hl)
    rw [E.out] at h;exact h
   obtain ⟨k1,k2⟩:=oY (o:=a.opn) H (by rw [HC.out];exact hl)
   have HS:=aa k2;have HL:Hid (∀ w',Rt 277 #[.string (s.extract a.at' s.size),.func (.func 254) #[] #[]] w' (.int .i64 (leadN bD (s.extract a.at' s.size)))):=fun w'=>Cb _ w' (by rw [iL];omega)
   have ha':(a.at':Int)≤(s.size:Int):=by omega
   have hs':(s.size:Int)≤4611686018427387904:=by omega
   clear k2 hd hl;go_wp2_with fail;refine (G _).mono ?_;rintro e w3 ⟨rfl,z⟩;have D:=aa (F.out.later t.out B d z);have Z:=aa (Y.out.trans (ax z F.out.room));clear z G;go_wp2_with fail;refine (R _).mono ?_;rintro e w4 ⟨rfl,A⟩;have x:=aa (D.out.later t.out B d A);have KG:=aa (Z.out.trans (ax A D.out.room));have c0:=x.out.rd.c0;have c1:=x.out.rd.c1;clear A R;generalize leadN bD (s.extract a.at' s.size)=n at *;have HWd:Hid (∀ w',Bl w4 w'→Calls Tryz.prog 274 #[.pointer (some ⟨q,0,none⟩),.int .i64 n] w' fun e w5=>e=.returned (.tuple #[])∧Kept T.N (fun k=>k=T.p∨k=q) w w5∧RdS T w5 q s true (wordR s T.tk n a)):=by
    intro w' hb;have h5:=x.out.later t.out B d hb;refine (iN T t.out q a.at' a.opn a.opn n a.opn false true s a.st w' hs k1 B d h5.room h5.rd h5.mem C.out.good HS.out).mono ?_;rintro e w5 ⟨rfl,g1,g2,g3⟩;exact ⟨rfl,(KG.out.trans (ax hb x.out.room)).trans g3,RdS.word (r:=a) (o':=a.opn) t.out hs k1 C.out.good HS.out (by omega) h5.room g1 g2 g3⟩
   go_wp2_with fail
   go_region_law ((first
    | (go_simp;refine (HL.out _).mono ?_;rintro e x5 ⟨rfl,hb5⟩;have hN5:=ae (W0:=w4) (by go_grown) hb5;clear hb5)
    | (go_simp;refine (HWd.out _ (ae hN5 (by go_grown))).mono ?_;rintro e x6 ⟨rfl,hK6,hR6⟩)))
   all_goals
    have HK6:=aa hK6;have HR6:=aa hR6;clear hK6 hR6 HWd HL;generalize wordR s T.tk n a=r4 at *;go_wp2_with fail
    go_loopg [] s.size (fun g wj => ∃ (b:Rd S),bv s T.tk g b=bv s T.tk s.size r4∧s.size-b.at'≤g∧RdS T wj q s true b∧Kept T.N (fun k=>k=T.p∨k=q) w wj)
    case atStart=>exact ⟨r4,rfl,by omega,HR6.out,HK6.out⟩
    case round =>
     obtain ⟨b,KI,hg5,l,KK⟩:=hrel;have HQ:=aa KI;have y:=aa l;have J:=aa KK;have c2:=l.rd.c2;have hfew5:=l.few;have Q:=l.inn;have m:=iB q b.at' b.opn s T.fv wr l.inn l.rd;clear KI l KK
     by_cases ho0:b.opn=0
     ·have HE:Hid (aE s T.tk r=(b,true)):=by show _=_;rw [HD.out,←HQ.out,gL (by omega)]
      have KM:(b.opn:Int)=0:=by omega
      rw [KM] at c2;go_wp2_with fail
      first | go_end0 | skip
      exact iP.ok HE.out J.out y.out
     have KM:0<(b.opn:Int):=by omega
     by_cases u:nextB s b.at'=41
     ·obtain ⟨o1,U⟩:∃ o1,b.opn=o1+1:=⟨b.opn-1,by omega⟩
      obtain ⟨m1,m2⟩:=gv (o:=o1) Q u;have KH:=aa m2;obtain ⟨g',KJ⟩:∃ g',gk=g'+1:=⟨gk-1,by omega⟩
      have HN5:Hid (bv s T.tk (g'+1) b=bv s T.tk g' (wordR s T.tk 1 ⟨b.at',o1,b.st⟩)):=by
       have h:=oi (tk:=T.tk) (f:=g') (r:=b) (s:=s) (by omega) u
       rw [show b.opn-1=o1 by omega] at h
       exact h
      have HG:=aa KJ;rw [u] at m;clear u m2 KJ;go_wp2_with fail;refine m.mono ?_;rintro e x1 ⟨rfl,v⟩;have j:=aa (y.out.later t.out B d v);have K:=aa (J.out.trans (ax v y.out.room));have d2:=j.out.rd.c2;have f2:=j.out.rd.fr 2;have hsum:(b.opn:Int)-1=(o1:Int):=by omega
      have hbig:(o1:Int)≤4611686018427387904:=by omega
      obtain ⟨W,hW⟩:=aA (x1.setCell ⟨q,2,none⟩ (.int .i64 (o1:Int)));obtain ⟨g1,g2,g3,g4⟩:=RdS.open t.out B d j.out o1;rw [hW] at g1 g2 g3 g4;have i:Hid (cX W q s b.at' o1 T.fv∧T.I b.st W∧T.N≤W.heap.size∧Kept T.N (fun k=>k=T.p∨k=q) x1 W):=⟨g1,g2,g3,g4⟩
      clear v m g1 g2 g3 g4 c2;go_wp2_with fail;refine (iN T t.out q b.at' (o1+1) o1 1 o1 true true s b.st W hs m1 B d i.out.2.2.1 i.out.1 i.out.2.1 (by rw [←U];exact j.out.good) KH.out).mono ?_
      rintro e x3 ⟨rfl,g1,g2,g3⟩;have HKc:=aa ((K.out.trans i.out.2.2.2).trans g3);have HRc:Hid (RdS T x3 q s true (wordR s T.tk 1 ⟨b.at',o1,b.st⟩)):=RdS.word t.out hs m1 (by rw [←U];exact j.out.good) KH.out (by omega) i.out.2.2.1 g1 g2 g3
      clear g1 g2 g3;go_wp2_with fail
      go_roundg g'
      case measure=>have:=HG.out;omega
      case rel=>exact ⟨wordR s T.tk 1 ⟨b.at',o1,b.st⟩,by rw [←HN5.out,←HG.out,HQ.out],by have:=HG.out;show s.size-(b.at'+1)≤g';omega,HRc.out,HKc.out⟩
     have HE:Hid (aE s T.tk r=(b,true)):=by show _=_;rw [HD.out,←HQ.out,gL (fun h=>u h.2)]
     have h41':(nextB s b.at' == 41)=false:=by simpa using u
     generalize nextB s b.at'=c5 at *;go_wp2_with fail;refine m.mono ?_;rintro e x1 ⟨rfl,v⟩;have j:=aa (y.out.later t.out B d v);have K:=aa (J.out.trans (ax v y.out.room));go_wp2_with fail
     first | go_end0 | skip
     exact iP.ok HE.out K.out j.out
  rw [hd] at G;have HD:Hid (aE s T.tk r=(bv s T.tk s.size (wordR s T.tk (digitsN s a.at') a),true)):=by
   have h:=uS (s:=s) (tk:=T.tk) (r:=r) (by rw [E.out,HC.out];exact hd)
   rw [E.out] at h;exact h
  obtain ⟨k1,k2⟩:=kP (o:=a.opn) H (by rw [HC.out];exact hd)
  have HS:=aa k2;clear k2 R hd;go_wp2_with fail;refine (G _).mono ?_;rintro e w3 ⟨rfl,z⟩;have D:=aa (F.out.later t.out B d z);have Z:=aa (Y.out.trans (ax z F.out.room));have hdn:=vm q a.at' a.opn s T.fv w3 (by omega) H D.out.rd
  clear z G;generalize digitsN s a.at'=n at *;go_wp2_with fail;refine hdn.mono ?_;rintro e w4 ⟨rfl,A⟩;have x:=aa (D.out.later t.out B d A);have KG:=aa (Z.out.trans (ax A D.out.room));clear A hdn;go_wp2_with fail;refine (iN T t.out q a.at' a.opn a.opn n a.opn false true s a.st w4 hs k1 B d x.out.room x.out.rd x.out.mem C.out.good HS.out).mono ?_;rintro e w5 ⟨rfl,g1,g2,g3⟩;have HK6:=aa (KG.out.trans g3);have HR6:Hid (RdS T w5 q s true (wordR s T.tk n a)):=RdS.word (r:=a) (o':=a.opn) t.out hs k1 C.out.good HS.out (by omega) x.out.room g1 g2 g3
  clear g1 g2 g3;generalize wordR s T.tk n a=r4 at *;go_wp2_with fail
  go_loopg [] s.size (fun g wj => ∃ (b:Rd S),bv s T.tk g b=bv s T.tk s.size r4∧s.size-b.at'≤g∧RdS T wj q s true b∧Kept T.N (fun k=>k=T.p∨k=q) w wj)
  case atStart=>exact ⟨r4,rfl,by omega,HR6.out,HK6.out⟩
  case round =>
   obtain ⟨b,KI,hg5,l,KK⟩:=hrel;have HQ:=aa KI;have y:=aa l;have J:=aa KK;have c2:=l.rd.c2;have hfew5:=l.few;have Q:=l.inn;have m:=iB q b.at' b.opn s T.fv wr l.inn l.rd;clear KI l KK
   by_cases ho0:b.opn=0
   ·have HE:Hid (aE s T.tk r=(b,true)):=by show _=_;rw [HD.out,←HQ.out,gL (by omega)]
    have KM:(b.opn:Int)=0:=by omega
    rw [KM] at c2;go_wp2_with fail
    first | go_end0 | skip
    exact iP.ok HE.out J.out y.out
   have KM:0<(b.opn:Int):=by omega
   by_cases u:nextB s b.at'=41
   ·obtain ⟨o1,U⟩:∃ o1,b.opn=o1+1:=⟨b.opn-1,by omega⟩
    obtain ⟨m1,m2⟩:=gv (o:=o1) Q u;have KH:=aa m2;obtain ⟨g',KJ⟩:∃ g',gk=g'+1:=⟨gk-1,by omega⟩
    have HN5:Hid (bv s T.tk (g'+1) b=bv s T.tk g' (wordR s T.tk 1 ⟨b.at',o1,b.st⟩)):=by
     have h:=oi (tk:=T.tk) (f:=g') (r:=b) (s:=s) (by omega) u
     rw [show b.opn-1=o1 by omega] at h
     exact h
    have HG:=aa KJ;rw [u] at m;clear u m2 KJ;go_wp2_with fail;refine m.mono ?_;rintro e x1 ⟨rfl,v⟩;have j:=aa (y.out.later t.out B d v);have K:=aa (J.out.trans (ax v y.out.room));have d2:=j.out.rd.c2;have f2:=j.out.rd.fr 2;have hsum:(b.opn:Int)-1=(o1:Int):=by omega
    have hbig:(o1:Int)≤4611686018427387904:=by omega
    obtain ⟨W,hW⟩:=aA (x1.setCell ⟨q,2,none⟩ (.int .i64 (o1:Int)));obtain ⟨g1,g2,g3,g4⟩:=RdS.open t.out B d j.out o1;rw [hW] at g1 g2 g3 g4;have i:Hid (cX W q s b.at' o1 T.fv∧T.I b.st W∧T.N≤W.heap.size∧Kept T.N (fun k=>k=T.p∨k=q) x1 W):=⟨g1,g2,g3,g4⟩
    clear v m g1 g2 g3 g4 c2;go_wp2_with fail;refine (iN T t.out q b.at' (o1+1) o1 1 o1 true true s b.st W hs m1 B d i.out.2.2.1 i.out.1 i.out.2.1 (by rw [←U];exact j.out.good) KH.out).mono ?_
    rintro e x3 ⟨rfl,g1,g2,g3⟩;have HKc:=aa ((K.out.trans i.out.2.2.2).trans g3);have HRc:Hid (RdS T x3 q s true (wordR s T.tk 1 ⟨b.at',o1,b.st⟩)):=RdS.word t.out hs m1 (by rw [←U];exact j.out.good) KH.out (by omega) i.out.2.2.1 g1 g2 g3
    clear g1 g2 g3;go_wp2_with fail
    go_roundg g'
    case measure=>have:=HG.out;omega
    case rel=>exact ⟨wordR s T.tk 1 ⟨b.at',o1,b.st⟩,by rw [←HN5.out,←HG.out,HQ.out],by have:=HG.out;show s.size-(b.at'+1)≤g';omega,HRc.out,HKc.out⟩
   have HE:Hid (aE s T.tk r=(b,true)):=by show _=_;rw [HD.out,←HQ.out,gL (fun h=>u h.2)]
   have h41':(nextB s b.at' == 41)=false:=by simpa using u
   generalize nextB s b.at'=c5 at *;go_wp2_with fail;refine m.mono ?_;rintro e x1 ⟨rfl,v⟩;have j:=aa (y.out.later t.out B d v);have K:=aa (J.out.trans (ax v y.out.room));go_wp2_with fail
   first | go_end0 | skip
   exact iP.ok HE.out K.out j.out
end Go.Proofs.YtompdcaikmekkaaGreatDoor
namespace Go.Proofs
open Go.Shelf
def Tryz.laysK_ren:Go.Shelf.Ren:=⟨fun | 25=>243 | n=>n,fun | 0=>0 | 3=>3 | 4=>4 | 5=>5 | 9=>9 | 37=>291 | 47=>317 | n=>n,fun | n=>n⟩
theorem Tryz.laysK:Go.Proofs.LaysPu.n25 Tryz.prog Tryz.laysK_ren:={
 mixed:=by kernel_rfl
 f25:=Tryz.func243.trans (congrArg some (by kernel_rfl))
 t0:=Tryz.underlying0
 a0:=Tryz.isAgg0
 z0:=Tryz.sizeOf0
 v0:=Tryz.zeroValue0
 i0:=by kernel_rfl
 t3:=Tryz.underlying3
 a3:=Tryz.isAgg3
 z3:=Tryz.sizeOf3
 v3:=Tryz.zeroValue3
 i3:=by kernel_rfl
 t4:=Tryz.underlying4
 a4:=Tryz.isAgg4
 z4:=Tryz.sizeOf4
 v4:=Tryz.zeroValue4
 i4:=by kernel_rfl
 t5:=Tryz.underlying5
 a5:=Tryz.isAgg5
 z5:=Tryz.sizeOf5
 v5:=Tryz.zeroValue5
 i5:=by kernel_rfl
 t9:=Tryz.underlying9
 a9:=Tryz.isAgg9
 z9:=Tryz.sizeOf9
 v9:=Tryz.zeroValue9
 i9:=by kernel_rfl
 t37:=Tryz.underlying291
 a37:=Tryz.isAgg291
 z37:=Tryz.sizeOf291
 v37:=Tryz.zeroValue291
 i37:=by kernel_rfl
 t47:=Tryz.underlying317
 a47:=Tryz.isAgg317
 z47:=Tryz.sizeOf317
 v47:=Tryz.zeroValue317
 i47:=by kernel_rfl }
namespace YtompdcaikmekkaaGreatDoor
open Go.ChangeShapes Go.WideShapes Go.ChangeAt Go.RowKit
theorem pO (s:ByteArray) (w:World) (b:s.size≤281474976710656):Rt 210 #[.string s] w (.string s):=by
 have h:=AnyPu.stringslite_Clone Tryz.laysK s w b
 go_enter Tryz.func210,Tryz.ntmps210
 go_wp2_with fail;refine Calls.mono h ?_;rintro e w1 ⟨rfl,a⟩;go_wp2_with fail;go_ret;exact ⟨rfl,a⟩
end YtompdcaikmekkaaGreatDoor
end Go.Proofs
namespace Go.Proofs.YtompdcaikmekkaaGreatDoor
def numTo (D:Nat→Dm) (P:Nat→Nat):Nat→Nat
 | 0=>0
 | k+1=>numTo D P k*(D k).n+P k
theorem uJ {D:Nat→Dm} {P:Nat→Nat} (k:Nat) (h:∀ j,j<k→P j<(D j).n):numTo D P k<prodN D k:=by
 induction k with
 | zero=>exact Nat.one_pos
 | succ k ih =>
  have a:=ih fun j d=>h j (by omega)
  have c:=h k (by omega)
  rw [numTo,prodN];have b:(numTo D P k+1)*(D k).n≤prodN D k*(D k).n:=Nat.mul_le_mul_right _ a;rw [Nat.add_mul] at b
  omega
def restAt (D:Nat→Dm) (m n:Nat):Nat→Nat
 | 0=>n
 | r+1=>restAt D m n r / (D (m-1-r)).n
def bA (D:Nat→Dm) (m n k:Nat):Nat:=restAt D m n (m-1-k) % (D k).n
theorem yo {D:Nat→Dm} {P:Nat→Nat} {m:Nat} (h:∀ j,j<m→P j<(D j).n) (r:Nat):r≤m→restAt D m (numTo D P m) r=numTo D P (m-r):=by
 induction r with
 | zero=>intro _;rfl
 | succ r ih =>
  intro b;rw [restAt,ih (by omega)]
  have e:m-r=(m-1-r)+1:=by omega
  rw [e,numTo,show m-(r+1)=m-1-r by omega]
  have a:=h (m-1-r) (by omega)
  rw [Nat.mul_comm,Nat.mul_add_div (by omega),Nat.div_eq_of_lt a,Nat.add_zero]
theorem qO {D:Nat→Dm} {P:Nat→Nat} {m:Nat} (h:∀ j,j<m→P j<(D j).n) {k:Nat} (a:k<m):bA D m (numTo D P m) k=P k:=by
 unfold bA;rw [yo h _ (by omega),show m-(m-1-k)=k+1 by omega,numTo]
 have b:=h k a;rw [Nat.mul_comm,Nat.mul_add_mod,Nat.mod_eq_of_lt b]
theorem Co {D:Nat→Dm} {m n:Nat} (c:n<prodN D m) (k:Nat):k≤m→numTo D (bA D m n) k=restAt D m n (m-k):=by
 have b:∀ r,r≤m→restAt D m n r<prodN D (m-r):=by
  intro r
  induction r with
  | zero=>intro _;exact c
  | succ r ih =>
   intro g;have a:=ih (by omega)
   have e:m-r=(m-1-r)+1:=by omega
   rw [e,prodN] at a;rw [restAt,show m-(r+1)=m-1-r by omega]
   exact Nat.div_lt_of_lt_mul (by rw [Nat.mul_comm];exact a)
 induction k with
 | zero =>
  intro _;have a:=b m (zT);rw [Nat.sub_self] at a;have d:prodN D 0=1:=rfl;rw [numTo,Nat.sub_zero]
  omega
 | succ k ih =>
  intro f;rw [numTo,ih (by omega)]
  have e:m-k=(m-1-k)+1:=by omega
  rw [e,restAt,show m-1-(m-1-k)=k by omega,show m-(k+1)=m-1-k by omega]
  unfold bA;have:=Nat.div_add_mod (restAt D m n (m-1-k)) (D k).n;rw [Nat.mul_comm] at this;exact this
theorem uK {D:Nat→Dm} {m n:Nat} (a:n<prodN D m):numTo D (bA D m n) m=n:=by
 rw [Co a m (zT),Nat.sub_self];rfl
theorem tU {D:Nat→Dm} {m n k:Nat} (h:1≤(D k).n):bA D m n k<(D k).n:=Nat.mod_lt _ h
def jU (D:Nat→Dm) (L:List Int) (i:Nat):Bool:=decide (L.getD i 0<0) || decide (((D i).n:Int)≤L.getD i 0)
def shapeErr (D:Nat→Dm) (n:Nat) (L:List Int):Int:=if L.length≠n then 3 else if 0≤findFrom (jU D L) n 0 then 1 else 0
def placeErr (D:Nat→Dm) (n:Nat) (L:List Int):Int:=if (am D n).2.2≠0 then (am D n).2.2 else shapeErr D n L
theorem Kw {D:Nat→Dm} {n:Nat} {L:List Int} (h:L.length≠n):shapeErr D n L=3:=by unfold shapeErr;rw [if_pos h]
theorem Kj {D:Nat→Dm} {n:Nat} {L:List Int} (h:L.length=n) (a:0≤findFrom (jU D L) n 0):shapeErr D n L=1:=by unfold shapeErr;rw [if_neg (by simpa using h),if_pos a]
theorem Kk {D:Nat→Dm} {n:Nat} {L:List Int} (h:L.length=n) (a : ¬ 0≤findFrom (jU D L) n 0):shapeErr D n L=0:=by unfold shapeErr;rw [if_neg (by simpa using h),if_neg a]
theorem KD {D:Nat→Dm} {n:Nat} {L:List Int} (h:(am D n).2.2≠0):placeErr D n L=(am D n).2.2:=by unfold placeErr;rw [if_pos h]
theorem DM {D:Nat→Dm} {n:Nat} {L:List Int} (h:(am D n).2.2=0):placeErr D n L=shapeErr D n L:=by unfold placeErr;rw [if_neg (by simpa using h)]
structure InO (D:Nat→Dm) (n:Nat) (L:List Int):Prop where
 right:(am D n).2.2=0
 len:L.length=n
 lo:∀ i,i<n→0≤L.getD i 0
 hi:∀ i,i<n→L.getD i 0<((D i).n:Int)
theorem au {D:Nat→Dm} {n:Nat} (h:(am D n).2.2=0):1≤n∧n≤4∧prodN D n≤3000∧∀ i,i<n→1≤(D i).n∧(D i).n≤12:=by
 have e:=f9 h;unfold am at h
 split at h
 ·simp at h
 split at h
 ·simp at h
 split at h
 ·rename_i h3;exact absurd h h3
 split at h
 ·simp at h
 rename_i a b c d
 exact ⟨by omega,by omega,by omega,fun i f=>⟨(aL (e.2 i f)).2.1,(aL (e.2 i f)).2.2.1⟩⟩
theorem fV {D:Nat→Dm} {n:Nat} {L:List Int} (h:placeErr D n L=0):InO D n L:=by
 unfold placeErr at h
 split at h
 ·rename_i h1;exact absurd h h1
 rename_i h1
 unfold shapeErr at h
 split at h
 ·cases h
 split at h
 ·cases h
 rename_i h2 h3
 have c:∀ i,i<n→jU D L i=false:=fun i a=>by
  rcases findFrom_cases (jU D L) n 0 with ⟨_,b⟩ | ⟨k,b,_⟩
  ·exact b i (zU) (by omega)
  rw [b] at h3;omega
 exact ⟨by simpa using h1,by simpa using h2,fun i a=>by have:=c i a;simp [jU,-List.getD_eq_getElem?_getD] at this;omega,fun i a=>by have:=c i a;simp [jU,-List.getD_eq_getElem?_getD] at this;omega⟩
theorem InO.ok {D:Nat→Dm} {n:Nat} {L:List Int} (h:InO D n L):placeErr D n L=0:=by
 rw [DM h.right,Kk h.len];rw [bQ]
 ·decide
 intro j _ c;have a:=h.lo j (by omega)
 have b:=h.hi j (by omega)
 simp [jU,-List.getD_eq_getElem?_getD]
 omega
def numI (D:Nat→Dm) (L:List Int):Nat→Int
 | 0=>0
 | k+1=>numI D L k*((D k).n:Int)+L.getD k 0
theorem pg {D:Nat→Dm} {L:List Int} (k:Nat) (h:∀ i,i<k→0≤L.getD i 0):numI D L k=(numTo D (fun i=>(L.getD i 0).toNat) k:Int):=by
 induction k with
 | zero=>rfl
 | succ k ih =>
  have:=h k (by omega)
  rw [numI,numTo,ih fun i a=>h i (by omega),Int.natCast_add,Int.natCast_mul,Int.toNat_of_nonneg this]
theorem vh {D:Nat→Dm} {k:Nat} (h:∀ j,j<k→(D j).n≤12) (a:k≤4):prodN D k≤20736:=by
 have b:=vg h;have c:12 ^ k≤12 ^ 4:=Nat.pow_le_pow_right (by decide) a
 have d:(12:Nat) ^ 4=20736:=by decide
 omega
theorem ba {D:Nat→Dm} {n:Nat} {L:List Int} (h:InO D n L) {k:Nat} (e:k≤n):0≤numI D L k∧numI D L k<(prodN D k:Int)∧prodN D k≤20736:=by
 obtain ⟨_,d,_,a⟩:=au h.right;rw [pg k fun i hi=>h.lo i (by omega)]
 have c:=uJ (D:=D) (P:=fun i=>(L.getD i 0).toNat) k fun j b=>by
  have:=h.lo j (by omega)
  have:=h.hi j (by omega)
  omega
 refine ⟨by omega,by omega,vh (fun j b=>(a j (by omega)).2) (by omega)⟩
def numV (D:Nat→Dm) (n:Nat) (L:List Int):Int:=if placeErr D n L=0 then numI D L n else 0
def jl (D:Nat→Dm) (n x r:Nat):List Int:=(List.range n).map fun j=>if n-r≤j then (bA D n x j:Int) else 0
def aj (D:Nat→Dm) (n x:Nat):List Int:=(List.range n).map fun j=>(bA D n x j:Int)
theorem Eu (D:Nat→Dm) (n x r:Nat):(jl D n x r).length=n:=by simp [jl]
theorem placeL_len (D:Nat→Dm) (n x:Nat):(aj D n x).length=n:=by simp [aj]
theorem BE (D:Nat→Dm) (n x:Nat):jl D n x 0=List.replicate n 0:=by
 apply List.ext_getElem
 ·simp [jl]
 intro i a b
 simp [jl] at a ⊢
 omega
theorem Et (D:Nat→Dm) (n x:Nat):jl D n x n=aj D n x:=by simp [jl,aj]
theorem Ev (D:Nat→Dm) (n x r:Nat) (e:r<n):(jl D n x r).set (n-1-r) (bA D n x (n-1-r):Int)=jl D n x (r+1):=by
 apply List.ext_getElem
 ·simp [jl]
 intro i c d;simp only [jl,List.length_set,List.length_map,List.length_range] at c;rw [List.getElem_set];simp only [jl,List.getElem_map,List.getElem_range]
 by_cases a:n-1-r=i
 ·subst a
  rw [if_pos rfl,if_pos (by omega)]
 rw [if_neg a]
 by_cases b:n-r≤i
 ·rw [if_pos b,if_pos (by omega)]
 rw [if_neg b,if_neg (by omega)]
theorem jH {D:Nat→Dm} {n x i:Nat} (h:i<n):(aj D n x).getD i 0=(bA D n x i:Int):=by
 simp [aj,List.getD,h]
theorem bY {D:Nat→Dm} {n x:Nat} (h:(am D n).2.2=0):InO D n (aj D n x):=by
 obtain ⟨_,_,_,b⟩:=au h;exact ⟨h,placeL_len ..,fun i a=>by rw [jH a];omega,fun i a=>by rw [jH a];have:=tU (D:=D) (m:=n) (n:=x) (k:=i) (b i a).1;omega⟩
theorem xJ {D:Nat→Dm} {P Q:Nat→Nat} (k:Nat) (h:∀ i,i<k→P i=Q i):numTo D P k=numTo D Q k:=by
 induction k with
 | zero=>rfl
 | succ k ih=>rw [numTo,numTo,ih fun i a=>h i (by omega),h k (by omega)]
theorem mt {D:Nat→Dm} {n x:Nat} (h:(am D n).2.2=0) (b:x<prodN D n):numI D (aj D n x) n=(x:Int):=by
 rw [pg n (bY h).lo,xJ (Q:=bA D n x) n fun i a=>by rw [jH a];omega,uK b]
theorem gj {D:Nat→Dm} {n:Nat} {L:List Int} (h:InO D n L):aj D n (numI D L n).toNat=L:=by
 have c:∀ j,j<n→(L.getD j 0).toNat<(D j).n:=fun j b=>by have:=h.lo j b;have:=h.hi j b;omega
 rw [pg n h.lo,Int.toNat_natCast];apply List.ext_getElem
 ·rw [placeL_len,h.len]
 intro i a d;rw [placeL_len] at a;have e:=qO c a;have g:=h.lo i a;have f:L.getD i 0=L[i]:=by simp [List.getD,d]
 simp only [aj,List.getElem_map,List.getElem_range];rw [e,←f]
 omega
end Go.Proofs.YtompdcaikmekkaaGreatDoor
namespace Go.Proofs.YtompdcaikmekkaaGreatDoor
open Go.ChangeShapes Go.WideShapes Go.ChangeAt Go.RowKit
def gA (blank:Bool) (ka kb:Int) (r:Int×Int):Int×Int:=if ka=2∨kb=2 then (2,0) else if blank=true then (0,0) else r
def f8 (fb fo:Nat) (ka na kb nb k n:Int) (er:Value):Prop := ∀ (w:World),Calls Tryz.prog 178 #[.agg #[.int .i64 ka,.int .i64 na],.agg #[.int .i64 kb,.int .i64 nb],.func (.func fb) #[] #[],.func (.func fo) #[] #[]] w fun e w'=>e=.returned (.tuple #[.agg #[.int .i64 k,.int .i64 n],er])∧Bl w w'
def lL (f:Nat) (ka na kb nb k n:Int) (er:Value):Prop := ∀ (w:World),Calls Tryz.prog f #[.agg #[.int .i64 ka,.int .i64 na],.agg #[.int .i64 kb,.int .i64 nb]] w fun e w'=>e=.returned (.tuple #[.agg #[.int .i64 k,.int .i64 n],er])∧Bl w w'
theorem jE (a c:Nat) (p:Int→Int→Bool) (h:dB a) (i:tq a p) (f:dB c) (ka na kb nb:Int) (d:good ka na=true) (e:good kb nb=true) (r:Int×Int) (j:nT c na nb r) :
  f8 a c ka na kb nb (gA (p ka kb) ka kb r).1 (gA (p ka kb) ka kb r).2 .nilIface:=by
 intro w;unfold gA
 by_cases g:ka=2∨kb=2
 ·rw [if_pos g]
  exact xu _ _ ka na kb nb w d e (by simp;exact g)
 rw [if_neg g];have b:((fun k:Int=>k == 2) ka || (fun k:Int=>k == 2) kb)=false:=by simp;omega
 cases hpp:p ka kb
 ·rw [if_neg (by simp)]
  exact B6 a c p h i f ka na kb nb w d e r j b hpp
 rw [if_pos rfl];exact xt a p h i _ ka na kb nb w d e b hpp
theorem cB {k n:Int} (h:good k n=true) : -1000000000000≤n∧n≤1000000000000:=by simp [good] at h;omega
def m8 (ka na kb nb:Int):Int×Int:=gA (!(ka != 0 || kb != 0)) ka kb (eE (na+nb))
def jp (ka na kb nb:Int):Int×Int:=gA (!(ka != 0 || kb != 0)) ka kb (eE (na-nb))
def p9 (ka na kb nb:Int):Int×Int:=gA (ka == 0 || kb == 0) ka kb (eE (na*nb))
def uX (ka na kb nb:Int):Int×Int:=gA (ka == 0 || kb == 0) ka kb (CM na nb)
theorem IO (ka na kb nb k n:Int) (a:Value) (h:f8 179 181 ka na kb nb k n a):lL 148 ka na kb nb k n a:=by
 intro w;unfold f8 at h
 go_enter Tryz.func148,Tryz.ntmps148
 go_wp2_with fail;refine (h _).mono ?_;rintro e w1 ⟨rfl,b⟩;have f:Bl w w1:=Below.trans (by go_grown) (b.mono (by simp;omega))
 obtain ⟨c,g⟩:=dj b;have d:=dk b
 simp at d
 go_wp2_with fail;refine bodyPost_ret (v:=.tuple #[.agg #[.int .i64 k,.int .i64 n],a]) (by simp [results,Tryz.results148,go_sem,c]) rfl ⟨rfl,?_⟩
 go_grown
theorem zo (ka na kb nb:Int) (a:good ka na=true) (b:good kb nb=true):lL 148 ka na kb nb (m8 ka na kb nb).1 (m8 ka na kb nb).2 .nilIface:=by
 obtain ⟨c,d⟩:=cB a;obtain ⟨e,f⟩:=cB b;exact IO _ _ _ _ _ _ _ (jE _ _ _ zr tG H8 ka na kb nb a b _ (FO na nb c d e f))
theorem Jl (ka na kb nb k n:Int) (a:Value) (h:f8 179 180 ka na kb nb k n a):lL 147 ka na kb nb k n a:=by
 intro w;unfold f8 at h
 go_enter Tryz.func147,Tryz.ntmps147
 go_wp2_with fail;refine (h _).mono ?_;rintro e w1 ⟨rfl,b⟩;have f:Bl w w1:=Below.trans (by go_grown) (b.mono (by simp;omega))
 obtain ⟨c,g⟩:=dj b;have d:=dk b
 simp at d
 go_wp2_with fail;refine bodyPost_ret (v:=.tuple #[.agg #[.int .i64 k,.int .i64 n],a]) (by simp [results,Tryz.results147,go_sem,c]) rfl ⟨rfl,?_⟩
 go_grown
theorem AY (ka na kb nb:Int) (a:good ka na=true) (b:good kb nb=true):lL 147 ka na kb nb (jp ka na kb nb).1 (jp ka na kb nb).2 .nilIface:=by
 obtain ⟨c,d⟩:=cB a;obtain ⟨e,f⟩:=cB b;exact Jl _ _ _ _ _ _ _ (jE _ _ _ zr tG Fb ka na kb nb a b _ (Ch na nb c d e f))
theorem I8 (ka na kb nb k n:Int) (a:Value) (h:f8 245 246 ka na kb nb k n a):lL 216 ka na kb nb k n a:=by
 intro w;unfold f8 at h
 go_enter Tryz.func216,Tryz.ntmps216
 go_wp2_with fail;refine (h _).mono ?_;rintro e w1 ⟨rfl,b⟩;have f:Bl w w1:=Below.trans (by go_grown) (b.mono (by simp;omega))
 obtain ⟨c,g⟩:=dj b;have d:=dk b
 simp at d
 go_wp2_with fail;refine bodyPost_ret (v:=.tuple #[.agg #[.int .i64 k,.int .i64 n],a]) (by simp [results,Tryz.results216,go_sem,c]) rfl ⟨rfl,?_⟩
 go_grown
theorem Hf (ka na kb nb:Int) (a:good ka na=true) (b:good kb nb=true):lL 216 ka na kb nb (p9 ka na kb nb).1 (p9 ka na kb nb).2 .nilIface:=by
 obtain ⟨c,d⟩:=cB a;obtain ⟨e,f⟩:=cB b;exact I8 _ _ _ _ _ _ _ (jE _ _ _ Fv Az yi ka na kb nb a b _ (vi na nb c d e f))
theorem IT (ka na kb nb k n:Int) (a:Value) (h:f8 245 247 ka na kb nb k n a):lL 217 ka na kb nb k n a:=by
 intro w;unfold f8 at h
 go_enter Tryz.func217,Tryz.ntmps217
 go_wp2_with fail;refine (h _).mono ?_;rintro e w1 ⟨rfl,b⟩;have f:Bl w w1:=Below.trans (by go_grown) (b.mono (by simp;omega))
 obtain ⟨c,g⟩:=dj b;have d:=dk b
 simp at d
 go_wp2_with fail;refine bodyPost_ret (v:=.tuple #[.agg #[.int .i64 k,.int .i64 n],a]) (by simp [results,Tryz.results217,go_sem,c]) rfl ⟨rfl,?_⟩
 go_grown
theorem GY (ka na kb nb:Int) (a:good ka na=true) (b:good kb nb=true):lL 217 ka na kb nb (uX ka na kb nb).1 (uX ka na kb nb).2 .nilIface:=by
 obtain ⟨c,d⟩:=cB a;obtain ⟨e,f⟩:=cB b;exact IT _ _ _ _ _ _ _ (jE _ _ _ Fv Az vl ka na kb nb a b _ (sQ na nb c d))
end Go.Proofs.YtompdcaikmekkaaGreatDoor
namespace Go.Proofs.YtompdcaikmekkaaGreatDoor
def stepTo (D:Nat→Dm) (dim:Nat):Nat→Nat
 | 0=>1
 | t+1=>stepTo D dim t*(D (dim+1+t)).n
def b9 (D:Nat→Dm) (n dim:Nat):Nat:=stepTo D dim (n-1-dim)
theorem stepTo_front (D:Nat→Dm) (dim:Nat):∀ t,stepTo D dim (t+1)=(D (dim+1)).n*stepTo D (dim+1) t
 | 0=>by simp [stepTo]
 | t+1=>by
  rw [stepTo,stepTo_front D dim t,stepTo,Nat.mul_assoc,show dim+1+(t+1)=dim+1+1+t by omega]
theorem rC (D:Nat→Dm) (m x:Nat):∀ r,r<m→restAt D m x r=x / stepTo D (m-1-r) r
 | 0,_=>by simp [restAt,stepTo]
 | r+1,h=>by
  rw [restAt,rC D m x r (by omega),Nat.div_div_eq_div_mul,stepTo_front,show m-1-(r+1)+1=m-1-r by omega,Nat.mul_comm]
theorem iS {D:Nat→Dm} {n x k:Nat} (a:k<n):bA D n x k=x / b9 D n k % (D k).n:=by
 unfold bA b9;rw [rC D n x _ (by omega),show n-1-(n-1-k)=k by omega]
theorem mx {D:Nat→Dm} {n:Nat} (h:∀ j,j<n→1≤(D j).n):1≤prodN D n:=by
 induction n with
 | zero=>exact zT
 | succ n ih =>
  have a:=ih fun j c=>h j (by omega)
  have b:=h n (by omega)
  rw [prodN];exact Nat.mul_le_mul a b
theorem pX {D:Nat→Dm} {dim:Nat}:∀ t,(∀ j,j<dim+1+t→1≤(D j).n)→1≤stepTo D dim t
 | 0,_=>zT
 | t+1,h=>by
  rw [stepTo];exact Nat.mul_le_mul (pX t fun j a=>h j (by omega)) (h (dim+1+t) (by omega))
theorem iK {D:Nat→Dm} {n dim:Nat} (h:∀ j,j<n→1≤(D j).n) (a:dim<n):1≤b9 D n dim:=pX _ fun j b=>h j (by omega)
def bd (M:Nat→Mem) (at':Int→Int×Int) (c:Int×Int) (k:Int):Int×Int:=if (M k.toNat).sign=1 then m8 c.1 c.2 (at' k).1 (at' k).2 else if (M k.toNat).sign = -1 then jp c.1 c.2 (at' k).1 (at' k).2 else c
def partsV (M:Nat→Mem) (at':Int→Int×Int) (L:List Int):Int×Int:=L.foldl (bd M at') (0,0)
def b5 (c:Int×Int):Prop:=good c.1 c.2=true
theorem oP (x:Int):b5 (eE x):=by
 unfold b5 eE good
 split
 ·rename_i h;exact decide_eq_true (Or.inl ⟨rfl,h⟩)
 exact decide_eq_true (Or.inr ⟨Or.inr rfl,rfl⟩)
theorem q7 (b:Bool) (ka kb:Int) {r:Int×Int} (h:b5 r):b5 (gA b ka kb r):=by
 unfold gA
 split
 ·exact decide_eq_true (Or.inr ⟨Or.inr rfl,rfl⟩)
 split
 ·exact decide_eq_true (Or.inr ⟨Or.inl rfl,rfl⟩)
 exact h
theorem fq:b5 (0,0):=decide_eq_true (Or.inr ⟨Or.inl rfl,rfl⟩)
theorem BW (M:Nat→Mem) (at':Int→Int×Int) {c:Int×Int} (h:b5 c) (k:Int):b5 (bd M at' c k):=by
 unfold bd
 split
 ·exact q7 _ _ _ (oP _)
 split
 ·exact q7 _ _ _ (oP _)
 exact h
theorem jD (M:Nat→Mem) (at':Int→Int×Int):∀ (L:List Int) (c:Int×Int),b5 c→b5 (L.foldl (bd M at') c)
 | [],_,h=>h
 | k :: r,_,h=>jD M at' r _ (BW M at' h k)
theorem wW (M:Nat→Mem) (at':Int→Int×Int) (L:List Int):b5 (partsV M at' L):=jD M at' L _ fq
def Kq (L:List (Int×Int)) (x:Int):Int×Int:=L.getD x.toNat (0,0)
def oO (L:List (Int×Int)):Prop := ∀ c∈L,b5 c
theorem BV {L:List (Int×Int)} (h:oO L) (x:Nat) {c:Int×Int} (a:b5 c):oO (L.set x c):=fun y b=>by
 rcases List.mem_or_eq_of_mem_set b with h1 | h1
 ·exact h y h1
 rw [h1];exact a
theorem zJ {L:List (Int×Int)} (h:oO L) (x:Int):b5 (Kq L x):=by
 unfold Kq;rw [zZ];cases he:L[x.toNat]? with
 | none=>exact fq
 | some c=>exact h c (List.mem_of_getElem? he)
theorem xV {D:Nat→Dm} {n dim m x j:Nat} (p:∀ i,i<n→1≤(D i).n) (g:dim<n) (z:x<prodN D n) (w:x / b9 D n dim % (D dim).n=m) (v:j<(D dim).n) :
  ∃ y:Nat,(x:Int)+((j:Int)-(m:Int))*(b9 D n dim:Int)=y∧y<prodN D n∧y / b9 D n dim % (D dim).n=j∧∀ i,i<n→i≠dim→bA D n y i=bA D n x i:=by
 have B:=iK p g;have u:=p dim g;have l:∀ i,i<n→bA D n x i<(D i).n:=fun i d=>tU (p i d)
 obtain ⟨P,f⟩:∃ P:Nat→Nat,P=fun i=>if i=dim then j else bA D n x i:=⟨_,rfl⟩
 have b:∀ i,i<n→P i<(D i).n:=fun i d=>by
  rw [f];simp only
  split
  ·rename_i h;rw [h];exact v
  exact l i d
 have A:=uJ n b;have c:∀ i,i<n→bA D n (numTo D P n) i=P i:=fun i d=>qO b d
 refine ⟨numTo D P n,?_,A,?_,fun i d o=>?_⟩
 ·have t:∀ k,k≤n→(numTo D P k:Int)=(numTo D (bA D n x) k:Int)+(if dim<k then ((j:Int)-(m:Int))*(stepTo D dim (k-1-dim):Int) else 0):=by
   intro k
   induction k with
   | zero=>intro _;simp [numTo]
   | succ k ih =>
    intro C;rw [numTo,numTo];have a:=ih (by omega)
    rcases Nat.lt_trichotomy dim k with h | h | h
    ·rw [if_pos h] at a
     rw [if_pos (by omega)]
     have e:P k=bA D n x k:=by rw [f];simp only;rw [if_neg (by omega)]
     rw [e,show k+1-1-dim=(k-1-dim)+1 by omega,stepTo,show dim+1+(k-1-dim)=k by omega]
     push_cast
     rw [a,Int.add_mul,Int.mul_assoc]
     omega
    ·subst h
     rw [if_neg (by omega),Int.add_zero] at a
     rw [if_pos (by omega)]
     have e:P dim=j:=by rw [f];simp
     have s:bA D n x dim=m:=by rw [iS g,w]
     rw [e,s,show dim+1-1-dim=0 by omega,stepTo]
     push_cast
     rw [a]
     omega
    rw [if_neg (by omega),Int.add_zero] at a
    rw [if_neg (by omega)]
    have e:P k=bA D n x k:=by rw [f];simp only;rw [if_neg (by omega)]
    rw [e]
    push_cast
    rw [a]
    omega
  have q:=t n (zT);rw [if_pos g,uK z] at q;rw [q]
  rfl
 ·have r:=c dim g
  rw [iS g] at r;rw [r,f]
  simp
 rw [c i d,f]
 simp [o]
end Go.Proofs.YtompdcaikmekkaaGreatDoor
