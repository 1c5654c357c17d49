/-
  What the reader of package formula does,in whatever memory: the byte that is next,how many digits; a word that is handed on; where it stops.
-/
import Derived.WalkSmall
import Derived.Deep.AppendLies
import Derived.Deep.RegionLaw
import Derived.Deep.DeepCutAuto
import Derived.Shelf.Small.Strs
import Derived.Lib.Strings
import Derived.Shelf.Pu.Clone
import Derived.Test.YtjfampgnhccodaaGreatDoorJTAE
import Derived.Test.YtjfampgnhccodaaGreatDoorJTAF
set_option maxHeartbeats 64000000
namespace Go.Proofs.YtjfampgnhccodaaGreatDoor
open Go.ChangeShapes Go.WideShapes Go.ChangeAt Go.RowKit
set_option maxRecDepth 20000
theorem aj{B:Nat}{a w:World}(h:Below B a w)(n:Nat):Below B a (w.drewN n):=h.trans ⟨rfl,rfl,rfl,zT,fun _ _=>rfl⟩
def dg(w:World)(q:Nat)(s:ByteArray)(a o:Nat)(tv:Value):Prop:=w.heap[q]?=some (.cells #[.string s,.int .i64 a,.int .i64 o,tv] 296 (0,0))
section
variable {w w':World} {q a o:Nat} {s:ByteArray} {tv:Value}
theorem dg.lt(h:dg w q s a o tv):q<w.heap.size:=(zY h).1
theorem dg.c0(h:dg w q s a o tv):w.cell? ⟨q,0,none⟩=some (.string s):=by unfold dg at h;simp[World.cell?,h]
theorem dg.c1(h:dg w q s a o tv):w.cell? ⟨q,1,none⟩=some (.int .i64 a):=by unfold dg at h;simp[World.cell?,h]
theorem dg.c2(h:dg w q s a o tv):w.cell? ⟨q,2,none⟩=some (.int .i64 o):=by unfold dg at h;simp[World.cell?,h]
theorem dg.c3(h:dg w q s a o tv):w.cell? ⟨q,3,none⟩=some tv:=by unfold dg at h;simp[World.cell?,h]
theorem dg.fr(h:dg w q s a o tv)(j:Nat):w.frozen? ⟨q,j,none⟩=false:=by unfold dg at h;simp[World.frozen?,h]
theorem dg.later(h:dg w q s a o tv)(b:Bl w w'):dg w' q s a o tv:=(b.block q h.lt).trans h
theorem dg.same(h:dg w q s a o tv)(b:w'.heap[q]?=w.heap[q]?):dg w' q s a o tv:=b.trans h
theorem dg.set1(h:dg w q s a o tv)(n:Nat):dg (w.setCell ⟨q,1,none⟩ (.int .i64 n)) q s n o tv:=by
 unfold dg at *;rw[setCell_eq_setRow w q 1 _ _ (0,0) _ h,setRow_heap w q _ _ _ _ h]
 rfl
theorem dg.set2(h:dg w q s a o tv)(n:Nat):dg (w.setCell ⟨q,2,none⟩ (.int .i64 n)) q s a n tv:=by
 unfold dg at *;rw[setCell_eq_setRow w q 2 _ _ (0,0) _ h,setRow_heap w q _ _ _ _ h]
 rfl
end
theorem iH(q a o:Nat)(s:ByteArray)(tv:Value)(w:World)(g:a<=s.size)(b:dg w q s a o tv):Rt 303 #[.pointer (some ⟨q,0,none⟩)] w (.int .u8 (nextB s a)):=by
 have c0:=b.c0;have c1:=b.c1;have h:=b.lt;clear b
 by_cases e:a=s.size
 ·subst e
  have c:nextB s s.size=0:=by simp[nextB]
  rw[c]
  go_enter Tryz.func303,Tryz.ntmps303
  go_wp2_with fail
  go_quiet (fail)
  go_wp2_with fail;go_ret;exact⟨rfl,aj zS _⟩
 have d:a<s.size:=ω;have c:nextB s a=byteN s a:=by simp[nextB,e]
 have hne :¬(a:Int)=(s.size:Int):=ω;have f:=fu s a d;rw[c]
 go_enter Tryz.func303,Tryz.ntmps303
 go_wp2_with fail
 go_quiet (fail)
 go_wp2_with fail
 go_quiet (fail)
 go_wp2_with fail;go_ret;exact⟨rfl,aj (aj zS _) _⟩
theorem rL(q a o:Nat)(s:ByteArray)(tv:Value)(w:World)(b:dg w q s a o tv):Calls Tryz.prog 281 #[.pointer (some ⟨q,0,none⟩)] w fun e w'=>e=.panicked [{ v:=.iface 294 (.int .i64 a),recovered:=false }]/\Bl w w':=by
 have c1:=b.c1;clear b
 go_enter Tryz.func281,Tryz.ntmps281
 go_wp2;exact⟨rfl,rfl,zS⟩
structure Kept(N:Nat)(X:Nat->Prop)(w w':World):Prop where
 os:w'.os=w.os
 tape:w'.tape=w.tape
 output:w'.output=w.output
 size:w.heap.size<=w'.heap.size
 block:∀k,k<N->¬X k->w'.heap[k]?=w.heap[k]?
section
variable {N:Nat} {X Y:Nat->Prop} {w w' w'':World}
theorem Kept.refl(N:Nat)(X:Nat->Prop)(w:World):Kept N X w w:=⟨rfl,rfl,rfl,zT,fun _ _ _=>rfl⟩
theorem Kept.trans(h:Kept N X w w')(k:Kept N X w' w''):Kept N X w w'':=⟨k.os.trans h.os,k.tape.trans h.tape,k.output.trans h.output,zV h.size k.size,fun i a b=>(k.block i a b).trans (h.block i a b)⟩
theorem Kept.wide(h:Kept N X w w')(b:∀k,X k->Y k):Kept N Y w w':=⟨h.os,h.tape,h.output,h.size,fun i a c=>h.block i a fun e=>c (b i e)⟩
theorem aF(h:Bl w w')(a:N<=w.heap.size):Kept N X w w':=⟨h.os,h.tape,h.output,h.size,fun i b _=>h.block i (zW b a)⟩
theorem ez{q:Nat}(h:w.grownBy w' (some q))(a:N<=w.heap.size)(b:X q):Kept N X w w':=⟨h.os,h.tape,h.output,h.size,fun i c d=>h.block i (zW c a) fun e=>d (by cases e;exact b)⟩
end
theorem ae(w:World)(q j k:Nat)(v:Value)(h:k≠q):(w.setCell ⟨q,j,none⟩ v).heap[k]?=w.heap[k]?:=by
 simp only[World.setCell];rw[Array.getElem?_modify,if_neg (fun e=>h e.symm)]
theorem dt(w:World)(r:Option Nat):w.grownBy w r:=⟨rfl,rfl,rfl,zT,fun _ _ _=>rfl⟩
theorem je{w w':World}{r:Option Nat}(h:Bl w w'):w.grownBy w' r:=⟨h.os,h.tape,h.output,h.size,fun i a _=>h.block i a⟩
theorem dI{w w':World}{q j:Nat}{v:Value}(h:w.grownBy w' (some q)):w.grownBy (w'.setCell ⟨q,j,none⟩ v) (some q):=
 ⟨h.os,h.tape,h.output,by simpa using h.size,fun k c b=>by
  have a:k≠q:=fun e=>b (by rw[e])
  exact(ae w' q j k v a).trans (h.block k c b)⟩
inductive Stp:Nat->Bool->ByteArray->Nat->Bool->Prop
 |opn (o:Nat) (t:ByteArray):t.size=1->byteN t 0=40->Stp o false t (o+1) false
 |cls (o:Nat) (t:ByteArray):t.size=1->byteN t 0=41->Stp (o+1) true t o true
 |num (o:Nat) (t:ByteArray):1<=t.size->t.size<=7->(∀i,i<t.size->dV (byteN t i)=true)->Stp o false t o true
 |nam (o:Nat) (t:ByteArray):1<=t.size->(∀i,i<t.size->cZ (byteN t i)=true)->Stp o false t o true
 |sgn (o:Nat) (t:ByteArray):t.size=1->0<=signI (byteN t 0)->Stp o true t o false
structure Tkr(S:Type) where
 N:Nat
 p:Nat
 M:Nat
 F:Nat
 first:Array Value
 tk:S->ByteArray->S
 I:S->World->Prop
 G:Nat->Nat->Bool->S->Prop
def Tkr.fv{S:Type}(T:Tkr S):Value:=.func (.func T.F) T.first #[]
structure Tkr.Ok{S:Type}(T:Tkr S):Prop where
 small:T.M<=4611686018427387904
 ent:∀(args:Array Value) (w:World),(callFunc T.F args).run Tryz.prog w=.ok (.enter T.F args) w
 stay:∀(q:Nat) (st:S) (w w':World),q<T.N->q≠T.p->T.I st w->w.grownBy w' (some q)->T.I st w'
 step:∀(a o:Nat) (ph:Bool) (st:S) (t:ByteArray) (o':Nat) (ph':Bool),Stp o ph t o' ph'->T.G a o ph st->a+t.size<=T.M->T.G (a+t.size) o' ph' (T.tk st t)
 call:∀(a o:Nat) (ph:Bool) (st:S) (t:ByteArray) (o':Nat) (ph':Bool) (w:World),Stp o ph t o' ph'->T.G a o ph st->a+t.size<=T.M->T.N<=w.heap.size->T.I st w->Calls Tryz.prog T.F (T.first++ #[.string t]) w fun e w'=>e=.returned (.tuple #[])/\T.I (T.tk st t) w'/\Kept T.N (fun k=>k=T.p) w w'
theorem d6{s:ByteArray}{a n:Nat}(h:a+n<=s.size):(s.extract a (a+n)).size=n:=by rw[ByteArray.size_extract];omega
theorem iZ{S:Type}(T:Tkr S)(d:T.Ok)(q a o oc n o':Nat)(ph aa:Bool)(s:ByteArray)(st:S)(w:World)(hs:s.size<=T.M)(E:a+n<=s.size)(v:q<T.N)(f:q≠T.p)(r:T.N<=w.heap.size)
  (g:dg w q s a oc T.fv) (C:T.I st w) (B:T.G a o ph st) (t:Stp o ph (s.extract a (a+n)) o' aa):
  Calls Tryz.prog 304 #[.pointer (some ⟨q,0,none⟩),.int .i64 n] w fun e w'=>e=.returned (.tuple #[])/\dg w' q s (a+n) oc T.fv/\T.I (T.tk st (s.extract a (a+n))) w'/\Kept T.N (fun k=>k=T.p\/k=q) w w':=by
 have U:=d.small;have x:=d6 E;obtain⟨m,O⟩:=ar (a+n);rw[O]at E t x|-;have c0:=g.c0;have c1:=g.c1;have K:=g.fr 1;have H:=g.lt;have j:(a:Int)+(n:Int)=(m:Int):=ω;obtain⟨W,u⟩:=ar (w.setCell ⟨q,1,none⟩ (.int .i64 (m:Int)));have b:dg W q s m oc T.fv:=by rw[←u];exact g.set1 m
 have c:w.grownBy W (some q):=by rw[←u];exact dI (dt w _)
 have h:=d.stay q st w W v f C c;have J:Hid (∀w',Bl W w'->Calls Tryz.prog T.F (T.first++ #[.string (s.extract a m)]) w' fun e w''=>e=.returned (.tuple #[])/\dg w'' q s m oc T.fv/\T.I (T.tk st (s.extract a m)) w''/\Kept T.N (fun k=>k=T.p\/k=q) w w''):=by
  intro w' l;have i:T.I st w':=d.stay q st W w' v f h (je l);refine(d.call a o ph st _ o' aa w' t B ω (zV r (zV c.size l.size)) i).mono ?_
  rintro e w''⟨rfl,L,A⟩;refine⟨rfl,?_,L,?_⟩
  ·exact(b.later l).same (A.block q v f)
  have y:Kept T.N (fun k=>k=T.p\/k=q) w W:=ez c r (Or.inr rfl)
  have z:Kept T.N (fun k=>k=T.p\/k=q) W w':=aF l (zV r c.size)
  exact(y.trans z).trans (A.wide fun k e=>Or.inl e)
 have Y:=b.c0;have Z:=b.c1;have d3:=b.c3;have D:=d.ent;have P:(a:Int)<=(m:Int):=ω;have Q:(m:Int)<=(s.size:Int):=ω;have R:(m:Int)<=4611686018427387904:=ω;have X:Hid T.Ok:=d;clear h c b C B t g d;unfold Tkr.fv at *
 go_enter Tryz.func304,Tryz.ntmps304
 go_wp2_with fail;clear c0 c1 K u j
 go_region_law ((go_simp;refine(J.o _ γ).mono ?_;rintro e w2⟨rfl,y,z,V⟩))
 all_goals (go_end0;exact⟨rfl,y,z,V⟩)
end Go.Proofs.YtjfampgnhccodaaGreatDoor
namespace Go.Proofs
open Go.Shelf
def Tryz.lays137_ren:Go.Shelf.Ren:=⟨fun| 137=>242| 217=>228| 266=>270|n=>n,fun| 9=>9| 5=>5| 3=>3|n=>n,fun|n=>n⟩
theorem Tryz.lays137:Go.Proofs.Lays.n137 Tryz.prog Tryz.lays137_ren:={
 mixed:=by kernel_rfl
 f137:=Tryz.func242.trans (congrArg some (by kernel_rfl))
 f217:=Tryz.func228.trans (congrArg some (by kernel_rfl))
 f266:=Tryz.func270.trans (congrArg some (by kernel_rfl))
 t3:=Tryz.underlying3
 a3:=Tryz.isAgg3
 z3:=Tryz.sizeOf3
 v3:=Tryz.zeroValue3
 t5:=Tryz.underlying5
 a5:=Tryz.isAgg5
 z5:=Tryz.sizeOf5
 v5:=Tryz.zeroValue5
 t9:=Tryz.underlying9
 a9:=Tryz.isAgg9
 z9:=Tryz.sizeOf9
 v9:=Tryz.zeroValue9 }
namespace YtjfampgnhccodaaGreatDoor
open Go.ChangeShapes Go.WideShapes Go.ChangeAt Go.RowKit
theorem Ga:∀c:Fin 256,Lib.indexByte [43,45,42,47] c.val.toUInt8=signI (c.val:Int):=by decide+kernel
theorem J6(c:Int)(a:0<=c)(b:c<256):Lib.indexByte [43,45,42,47] c.toNat.toUInt8=signI c:=by
 have h:=Ga ⟨c.toNat,ω⟩
 simp only at h;rw[h,show((c.toNat:Nat):Int)=c by omega]
theorem rI(c:Int)(a:0<=c)(b:c<256)(w:World):Rt 242 #[.string ⟨#[43,45,42,47]⟩,.int .u8 c] w (.int .i64 (signI c)):=
 (Any.strings_IndexByte Tryz.lays137 ⟨#[43,45,42,47]⟩ c w).mono fun e w' ⟨d,f⟩=>⟨by rw[d,J6 c a b],by rw[f];exact zS⟩
theorem vO(s:ByteArray)(i:Nat):0<=byteN s i/\byteN s i<256:=by
 unfold byteN;have:=(s.data.toList.getD i 0).toNat_lt
 omega
theorem ot(s:ByteArray)(i:Nat):0<=nextB s i/\nextB s i<256:=by
 unfold nextB
 split
 ·omega
 exact vO s i
end YtjfampgnhccodaaGreatDoor
end Go.Proofs
namespace Go.Proofs.YtjfampgnhccodaaGreatDoor
open Go.ChangeShapes Go.WideShapes Go.ChangeAt Go.RowKit
set_option maxRecDepth 20000
theorem fC{s:ByteArray}{a:Nat}(h:nextB s a≠0)(b:a<=s.size):a<s.size:=by
 by_cases e:a=s.size
 ·subst e;simp[nextB]at h
 omega
theorem nN(s:ByteArray)(a:Nat):(s.extract a s.size).size=s.size-a:=by rw[ByteArray.size_extract];omega
theorem yn(q a o:Nat)(s:ByteArray)(tv:Value)(w:World)(v:s.size<=4611686018427387904)(r:a<=s.size)(j:dg w q s a o tv):Rt 306 #[.pointer (some ⟨q,0,none⟩)] w (.int .i64 (digitsN s a)):=by
 have g:=iH q a o s tv w r j;unfold digitsN
 by_cases b:nextB s a=48
 ·rw[b]at g
  rw[if_pos b];clear b
  go_enter Tryz.func306,Tryz.ntmps306
  go_wp2_with fail;refine g.mono ?_;rintro e w1⟨rfl,d⟩;go_wp2_with fail;go_ret;exact⟨rfl,d⟩
 have m:(nextB s a == 48)=false:=by simpa using b
 rw[if_neg b];generalize nextB s a=c at *;have l:Hid (∀w',Bl w w'->Rt 307 #[.string (s.extract a s.size),.func (.func 305) #[] #[]] w' (.int .i64 (leadN dV (s.extract a s.size)))):=fun w' _=>E9 _ w' (by rw[nN];omega)
 generalize leadN dV (s.extract a s.size)=n at l|-;have p:Hid (((min n 7:Nat):Int)=min (n:Int) 7):=by show _=_;omega
 have t:(a:Int)<=(s.size:Int):=ω;have u:(s.size:Int)<=4611686018427387904:=ω;go_enter Tryz.func306,Tryz.ntmps306
 go_wp2_with fail;refine g.mono ?_;rintro e w1⟨rfl,d⟩;have f:=j.later d;have c0:=f.c0;have c1:=f.c1;have k:=aa d;clear f d j;go_wp2_with fail
 go_region_law ((go_simp;refine(l.o _ (ad k.o γ)).mono ?_;rintro e w2⟨rfl,h⟩;have i:=ad (ad (W0:=w) k.o γ) h;clear h))
 all_goals (go_wp2_with fail;all_goals (go_ret;refine⟨?_,i⟩;first|(rw[p.o];rfl)|(rw[show min n 7=7 by omega];rfl)|(rw[show min n 7=n by omega];rfl)))
structure RdS{S:Type}(T:Tkr S)(w:World)(q:Nat)(s:ByteArray)(ph:Bool)(r:Rd S):Prop where
 rd:dg w q s r.at' r.opn T.fv
 mem:T.I r.st w
 good:T.G r.at' r.opn ph r.st
 inn:r.at'<=s.size
 few:r.opn<=r.at'
 room:T.N<=w.heap.size
section
variable {S:Type} {T:Tkr S} {w w':World} {q:Nat} {s:ByteArray} {ph:Bool} {r:Rd S}
theorem RdS.later(h:RdS T w q s ph r)(c:T.Ok)(d:q<T.N)(b:q≠T.p)(a:Bl w w'):RdS T w' q s ph r :=
 ⟨h.rd.later a,c.stay q _ _ _ d b h.mem (je a),h.good,h.inn,h.few,zV h.room a.size⟩
end
def OS(a:Nat):List PanicEntry:=[{ v:=.iface 294 (.int .i64 a),recovered:=false }]
def i6{S:Type}(T:Tkr S)(q:Nat)(s:ByteArray)(ph:Bool)(w:World)(x:Rd S×Bool)(e:Ending)(w':World):Prop:=Kept T.N (fun k=>k=T.p\/k=q) w w'/\((x.2=true/\e=.returned (.tuple #[])/\RdS T w' q s ph x.1)\/(x.2=false/\e=.panicked (OS x.1.at')))
section
variable {S:Type} {T:Tkr S} {w w':World} {q:Nat} {s:ByteArray} {ph:Bool} {x:Rd S×Bool} {r:Rd S}
theorem i6.ok(h:x=(r,true))(a:Kept T.N (fun k=>k=T.p\/k=q) w w')(b:RdS T w' q s ph r):i6 T q s ph w x (.returned (.tuple #[])) w':=⟨a,Or.inl ⟨by rw[h],rfl,by rw[h];exact b⟩⟩
theorem i6.no(h:x=(r,false))(a:Kept T.N (fun k=>k=T.p\/k=q) w w'):i6 T q s ph w x (.panicked (OS r.at')) w':=⟨a,Or.inr ⟨by rw[h],by rw[h]⟩⟩
end
theorem iA{s:ByteArray}{a b i:Nat}(h:i<b-a):byteN (s.extract a b) i=byteN s (a+i):=by
 unfold byteN;rw[Lib.extract_data];simp only[List.getD,List.getElem?_take,List.getElem?_drop];rw[if_pos h]
theorem pu{s:ByteArray}{a:Nat}(h:a<s.size):nextB s a=byteN s a:=by rw[nextB,if_neg ω]
theorem DM{s:ByteArray}{a o:Nat}(c:a<=s.size)(h :¬signI (nextB s a)<0):a+1<=s.size/\Stp o true (s.extract a (a+1)) o false:=by
 have b:a<s.size:=fC (fun e=>h (by rw[e];decide)) c
 refine⟨b,Stp.sgn o _ (d6 b) ?_⟩;rw[iA ω,Nat.add_zero,←pu b]
 omega
theorem RdS.word{S:Type}{T:Tkr S}{w w':World}{q n o o':Nat}{s:ByteArray}{ph aa:Bool}{r:Rd S}(i:T.Ok)(l:s.size<=T.M)(a:r.at'+n<=s.size)(e:T.G r.at' o ph r.st)(g:Stp o ph (s.extract r.at' (r.at'+n)) o' aa)(j:o'<=r.at'+n)(f:T.N<=w.heap.size)
  (b:dg w' q s (r.at'+n) o' T.fv) (c:T.I (T.tk r.st (s.extract r.at' (r.at'+n))) w') (d:Kept T.N (fun k=>k=T.p\/k=q) w w'):RdS T w' q s aa (wordR s T.tk n ⟨r.at',o',r.st⟩):=by
 refine⟨b,c,?_,a,j,zV f d.size⟩;have h:=i.step r.at' o ph r.st _ o' aa g e (by rw[d6 a];omega)
 rw[d6 a]at h;exact h
theorem J7{S:Type}(T:Tkr S)(y:T.Ok)(q:Nat)(s:ByteArray)(r:Rd S)(w:World)(C:s.size<=T.M)(A:q<T.N)(i:q≠T.p)(j:RdS T w q s true r):
  Calls Tryz.prog 280 #[.pointer (some ⟨q,0,none⟩)] w fun e w'=>i6 T q s false w (cS s T.tk r) e w':=by
 have n:=iH q r.at' r.opn s T.fv w j.inn j.rd;have g:=rI (nextB s r.at') (ot s r.at').1 (ot s r.at').2;have t:=aa j;have u:Hid T.Ok:=y
 by_cases h:signI (nextB s r.at')<0
 ·have m:cS s T.tk r=(r,false):=by rw[cS,if_pos h]
  have v:=aa m;clear m;generalize signI (nextB s r.at')=c at *;generalize nextB s r.at'=b at *;clear j y
  go_enter Tryz.func280,Tryz.ntmps280
  go_wp2_with fail;refine n.mono ?_;rintro e w1⟨rfl,d⟩;go_wp2_with fail;refine(g _).mono ?_;rintro e w2⟨rfl,f⟩;have l:=aa (ad d f);have a:=aa (t.o.later u.o A i l.o);clear d f;go_wp2_with fail;refine(rL q r.at' r.opn s T.fv w2 a.o.rd).mono ?_;rintro e w3⟨rfl,z⟩;go_wp2_with fail;exact⟨rfl,i6.no v.o (aF (ad l.o z) t.o.room)⟩
 obtain⟨D,E⟩:=DM (o:=r.opn) j.inn h;have B:=aa E;have m:cS s T.tk r=(wordR s T.tk 1 r,true):=by rw[cS,if_neg h]
 have v:=aa m;clear m;have G:0<=signI (nextB s r.at'):=ω;generalize signI (nextB s r.at')=c at *;generalize nextB s r.at'=b at *;clear j y E h
 go_enter Tryz.func280,Tryz.ntmps280
 go_wp2_with fail;refine n.mono ?_;rintro e w1⟨rfl,d⟩;go_wp2_with fail;refine(g _).mono ?_;rintro e w2⟨rfl,f⟩;have l:=aa (ad d f);have a:=aa (t.o.later u.o A i l.o);clear d f;go_wp2_with fail;refine(iZ T u.o q r.at' r.opn r.opn 1 r.opn true false s r.st w2 C D A i a.o.room a.o.rd a.o.mem a.o.good B.o).mono ?_;rintro e w3⟨rfl,g1,g2,g3⟩;have F:Hid (Kept T.N (fun k=>k=T.p\/k=q) w w3):=(aF l.o t.o.room).trans g3
 have x:Hid (RdS T w3 q s false (wordR s T.tk 1 r)):=RdS.word (r:=r) (o':=r.opn) u.o C D a.o.good B.o (by have:=a.o.few;omega) a.o.room g1 g2 g3
 clear g1 g2 g3;go_wp2_with fail
 first|go_end0|skip
 exact i6.ok v.o F.o x.o
section
variable {S:Type} {s:ByteArray} {tk:S->ByteArray->S} {r:Rd S}
theorem Fv(a:r.at'<s.size)(h:nextB s r.at'=40):opensR s tk (s.size-r.at') r=opensR s tk (s.size-(r.at'+1)) (wordR s tk 1 ⟨r.at',r.opn+1,r.st⟩):=by
 rw[show s.size-r.at'=(s.size-(r.at'+1))+1 by omega,opensR,if_pos h]
theorem Bs(h:nextB s r.at'≠40):opensR s tk (s.size-r.at') r=r:=by
 cases e:s.size-r.at' with
 |zero=>rfl
 |succ k=>rw[opensR,if_neg h]
theorem pU{f:Nat}(a:0<r.opn)(h:nextB s r.at'=41):aX s tk (f+1) r=aX s tk f (wordR s tk 1 ⟨r.at',r.opn-1,r.st⟩):=by rw[aX,if_pos ⟨a,h⟩]
theorem gS{f:Nat}(h :¬(0<r.opn/\nextB s r.at'=41)):aX s tk f r=r:=by
 cases f with
 |zero=>rfl
 |succ k=>rw[aX,if_neg h]
theorem xR(h:dV (nextB s (bA s tk r).at')=true):aw s tk r=(aX s tk s.size (wordR s tk (digitsN s (bA s tk r).at') (bA s tk r)),true):=by rw[aw,if_pos h]
theorem xS(a:dV (nextB s (bA s tk r).at')=false)(h:cZ (nextB s (bA s tk r).at')=true):aw s tk r=(aX s tk s.size (wordR s tk (leadN cZ (s.extract (bA s tk r).at' s.size)) (bA s tk r)),true):=by
 rw[aw,if_neg (by rw[a];decide),if_pos h]
theorem Dy(a:dV (nextB s (bA s tk r).at')=false)(h:cZ (nextB s (bA s tk r).at')=false):aw s tk r=(bA s tk r,false):=by
 rw[aw,if_neg (by rw[a];decide),if_neg (by rw[h];decide)]
end
theorem la(p:Int->Bool)(t:ByteArray):∀f i,i<=leadTo p t f i/\leadTo p t f i<=i+f/\∀j,i<=j->j<leadTo p t f i->p (byteN t j)=true
 | 0,i=>⟨zT,zT,fun j c a=>by simp only[leadTo]at a;omega⟩
 |f+1,i=>by
  by_cases h:p (byteN t i)=true
  ·obtain⟨c,a,d⟩:=la p t f (i+1)
   rw[leadTo,if_pos h];refine⟨ω,ω,fun j g b=>?_⟩
   by_cases e:i=j
   ·rw[←e];exact h
   exact d j ω b
  rw[leadTo,if_neg h];exact⟨zT,ω,fun j c a=>ω⟩
theorem IM{p:Int->Bool}{t:ByteArray}(b:0<t.size)(h:p (byteN t 0)=true):1<=leadN p t:=by
 unfold leadN;obtain⟨k,a⟩:∃k,t.size=k+1:=⟨t.size-1,ω⟩
 rw[a,leadTo,if_pos h];exact(la p t k 1).1
theorem fy{p:Int->Bool}{s:ByteArray}{a n:Nat}(d:a<s.size)(h:p (nextB s a)=true)(j:n<=leadN p (s.extract a s.size)):1<=leadN p (s.extract a s.size)/\a+n<=s.size/\∀i,i<n->p (byteN (s.extract a (a+n)) i)=true:=by
 obtain⟨_,f,c⟩:=la p (s.extract a s.size) (s.extract a s.size).size 0;have e:=nN s a;unfold leadN at *;have b:byteN (s.extract a s.size) 0=nextB s a:=by rw[iA ω,pu d];rfl
 refine⟨IM ω (by rw[b];exact h),ω,fun i g=>?_⟩
 have:=c i zU ω
 rw[iA ω]at this|-
 exact this
theorem pZ{s:ByteArray}{a o:Nat}(j:a<=s.size)(h:dV (nextB s a)=true):a+digitsN s a<=s.size/\Stp o false (s.extract a (a+digitsN s a)) o true:=by
 have c:a<s.size:=fC (fun e=>by rw[e]at h;revert h;decide) j
 have b:1<=digitsN s a/\digitsN s a<=7/\digitsN s a<=leadN dV (s.extract a s.size):=by
  have:=(fy (n:=0) c h zU).1;unfold digitsN
  split<;>omega
 obtain⟨-,d,g⟩:=fy c h b.2.2;refine⟨d,Stp.num o _ ?_ ?_ fun i f=>g i ?_⟩
 ·rw[d6 d];exact b.1
 ·rw[d6 d];exact b.2.1
 rw[d6 d]at f;exact f
theorem qz{s:ByteArray}{a o:Nat}(j:a<=s.size)(h:cZ (nextB s a)=true):a+leadN cZ (s.extract a s.size)<=s.size/\Stp o false (s.extract a (a+leadN cZ (s.extract a s.size))) o true:=by
 have c:a<s.size:=fC (fun e=>by rw[e]at h;revert h;decide) j
 obtain⟨f,b,g⟩:=fy c h zT;refine⟨b,Stp.nam o _ ?_ fun i d=>g i ?_⟩
 ·rw[d6 b];exact f
 rw[d6 b]at d;exact d
theorem iL{s:ByteArray}{a o:Nat}(c:a<=s.size)(h:nextB s a=40):a+1<=s.size/\Stp o false (s.extract a (a+1)) (o+1) false:=by
 have b:a<s.size:=fC (by rw[h];decide) c
 refine⟨b,Stp.opn o _ (d6 b) ?_⟩;rw[iA ω,Nat.add_zero,←pu b]
 exact h
theorem gB{s:ByteArray}{a o:Nat}(c:a<=s.size)(h:nextB s a=41):a+1<=s.size/\Stp (o+1) true (s.extract a (a+1)) o true:=by
 have b:a<s.size:=fC (by rw[h];decide) c
 refine⟨b,Stp.cls o _ (d6 b) ?_⟩;rw[iA ω,Nat.add_zero,←pu b]
 exact h
theorem RdS.open{S:Type}{T:Tkr S}{w:World}{q:Nat}{s:ByteArray}{ph:Bool}{r:Rd S}(c:T.Ok)(d:q<T.N)(b:q≠T.p)(h:RdS T w q s ph r)(o:Nat):
  dg (w.setCell ⟨q,2,none⟩ (.int .i64 o)) q s r.at' o T.fv/\T.I r.st (w.setCell ⟨q,2,none⟩ (.int .i64 o))/\T.N<=(w.setCell ⟨q,2,none⟩ (.int .i64 o)).heap.size/\Kept T.N (fun k=>k=T.p\/k=q) w (w.setCell ⟨q,2,none⟩ (.int .i64 o)):=by
 have a:w.grownBy (w.setCell ⟨q,2,none⟩ (.int .i64 o)) (some q):=dI (dt w _);exact⟨h.rd.set2 o,c.stay q _ _ _ d b h.mem a,zV h.room a.size,ez a h.room (Or.inr rfl)⟩
theorem oz{S:Type}(T:Tkr S)(hT:T.Ok)(q:Nat)(s:ByteArray)(r:Rd S)(w:World)(hs:s.size<=T.M)(B:q<T.N)(d:q≠T.p)(hR:RdS T w q s false r):
  Calls Tryz.prog 279 #[.pointer (some ⟨q,0,none⟩)] w fun e w'=>i6 T q s true w (aw s T.tk r) e w':=by
 have HR:=aa hR;have t:Hid T.Ok:=hT;have aE:=hT.small;clear hR hT
 go_enter Tryz.func279,Tryz.ntmps279
 go_wp2_with fail
 go_loopg [] (s.size-r.at') (fun g wr =>∃(a:Rd S),g=s.size-a.at'/\opensR s T.tk (s.size-a.at') a=bA s T.tk r/\RdS T wr q s false a/\Kept T.N (fun k=>k=T.p\/k=q) w wr)
 case atStart=>exact⟨r,rfl,rfl,HR.o,Kept.refl _ _ _⟩
 case round =>
  obtain⟨a,rfl,ho,V,hk⟩:=hrel;have HO:=aa ho;have C:=aa V;have ap:=aa hk;have X:=iH q a.at' a.opn s T.fv wr V.inn V.rd;have az:=V.few;have H:=V.inn;clear ho hk V
  by_cases O:nextB s a.at'=40
  ·obtain⟨k1,k2⟩:=iL (o:=a.opn) H O
   have HS:=aa k2;have HN:Hid (opensR s T.tk (s.size-a.at') a=opensR s T.tk (s.size-(a.at'+1)) (wordR s T.tk 1 ⟨a.at',a.opn+1,a.st⟩)):=Fv k1 O;rw[O]at X;clear O k2;go_wp2_with fail;refine X.mono ?_;rintro e w1⟨rfl,P⟩;have L:=aa (C.o.later t.o B d P);have ag:=aa (ap.o.trans (aF P C.o.room));have c2:=L.o.rd.c2;have f2:=L.o.rd.fr 2;obtain⟨o1,U⟩:=ar (a.opn+1);have ae:(a.opn:Int)+1=(o1:Int):=ω;have ab:(o1:Int)<=4611686018427387904:=ω;obtain⟨W,hW⟩:=ar (w1.setCell ⟨q,2,none⟩ (.int .i64 (o1:Int)));obtain⟨g1,g2,g3,g4⟩:=RdS.open t.o B d L.o o1;rw[hW]at g1 g2 g3 g4;have i:Hid (dg W q s a.at' o1 T.fv/\T.I a.st W/\T.N<=W.heap.size/\Kept T.N (fun k=>k=T.p\/k=q) w1 W):=⟨g1,g2,g3,g4⟩
   rw[U]at HS HN;clear P X g1 g2 g3 g4;go_wp2_with fail;refine(iZ T t.o q a.at' a.opn o1 1 o1 false false s a.st W hs k1 B d i.o.2.2.1 i.o.1 i.o.2.1 C.o.good HS.o).mono ?_;rintro e w3⟨rfl,g1,g2,g3⟩;have Y:=aa ((ag.o.trans i.o.2.2.2).trans g3);have F:Hid (RdS T w3 q s false (wordR s T.tk 1 ⟨a.at',o1,a.st⟩)):=RdS.word t.o hs k1 C.o.good HS.o ω i.o.2.2.1 g1 g2 g3
   clear g1 g2 g3;go_wp2_with fail
   go_roundg (s.size-(a.at'+1))
   case measure=>omega
   case rel=>exact⟨wordR s T.tk 1 ⟨a.at',o1,a.st⟩,rfl,by rw[←HO.o,HN.o];rfl,F.o,Y.o⟩
  have E:Hid (bA s T.tk r=a):=by show _=_;rw[←HO.o];exact Bs O
  have am:(nextB s a.at' == 40)=false:=by simpa using O
  obtain⟨c,hc⟩:=ar (nextB s a.at');have HC:=aa hc;rw[hc]at X am;clear O hc;go_wp2_with fail;refine X.mono ?_;rintro e w1⟨rfl,P⟩;have L:=aa (C.o.later t.o B d P);have ag:=aa (ap.o.trans (aF P C.o.room));have PY:=iH q a.at' a.opn s T.fv w1 H L.o.rd;rw[HC.o]at PY;clear P X;go_wp2_with fail;refine PY.mono ?_;rintro e w2⟨rfl,ao⟩;have F:=aa (L.o.later t.o B d ao);have Y:=aa (ag.o.trans (aF ao L.o.room));clear ao PY;have G:=tq c;have R:=islet_any c;cases hd:dV c
  ·rw[hd]at G
   cases hl:cZ c
   ·rw[hl]at R
    have HD:Hid (aw s T.tk r=(a,false)):=by
     have h:=Dy (s:=s) (tk:=T.tk) (r:=r) (by rw[E.o,HC.o];exact hd) (by rw[E.o,HC.o];exact hl)
     rw[E.o]at h;exact h
    clear hd hl;go_wp2_with fail;refine(G _).mono ?_;rintro e w3⟨rfl,z⟩;have D:=aa (F.o.later t.o B d z);have Z:=aa (Y.o.trans (aF z F.o.room));clear z G;go_wp2_with fail;refine(R _).mono ?_;rintro e w4⟨rfl,A⟩;have x:=aa (D.o.later t.o B d A);have PT:=aa (Z.o.trans (aF A D.o.room));clear A R;go_wp2_with fail;refine(rL q a.at' a.opn s T.fv w4 x.o.rd).mono ?_;rintro e w5⟨rfl,af⟩;go_wp2_with fail;exact⟨rfl,i6.no HD.o (PT.o.trans (aF af x.o.room))⟩
   rw[hl]at R;have HD:Hid (aw s T.tk r=(aX s T.tk s.size (wordR s T.tk (leadN cZ (s.extract a.at' s.size)) a),true)):=by
    have h:=xS (s:=s) (tk:=T.tk) (r:=r) (by rw[E.o,HC.o];exact hd) (by rw[E.o,HC.o];exact hl)
    rw[E.o]at h;exact h
   obtain⟨k1,k2⟩:=qz (o:=a.opn) H (by rw[HC.o];exact hl)
   have HS:=aa k2;have HL:Hid (∀w',Rt 307 #[.string (s.extract a.at' s.size),.func (.func 278) #[] #[]] w' (.int .i64 (leadN cZ (s.extract a.at' s.size)))):=fun w'=>Fa _ w' (by rw[nN];omega)
   have aC:(a.at':Int)<=(s.size:Int):=ω;have aD:(s.size:Int)<=4611686018427387904:=ω;clear k2 hd hl;go_wp2_with fail;refine(G _).mono ?_;rintro e w3⟨rfl,z⟩;have D:=aa (F.o.later t.o B d z);have Z:=aa (Y.o.trans (aF z F.o.room));clear z G;go_wp2_with fail;refine(R _).mono ?_;rintro e w4⟨rfl,A⟩;have x:=aa (D.o.later t.o B d A);have PT:=aa (Z.o.trans (aF A D.o.room));have c0:=x.o.rd.c0;have c1:=x.o.rd.c1;clear A R;generalize leadN cZ (s.extract a.at' s.size)=n at *;have aq:Hid (∀w',Bl w4 w'->Calls Tryz.prog 304 #[.pointer (some ⟨q,0,none⟩),.int .i64 n] w' fun e w5=>e=.returned (.tuple #[])/\Kept T.N (fun k=>k=T.p\/k=q) w w5/\RdS T w5 q s true (wordR s T.tk n a)):=by
    intro w' hb;have h5:=x.o.later t.o B d hb;refine(iZ T t.o q a.at' a.opn a.opn n a.opn false true s a.st w' hs k1 B d h5.room h5.rd h5.mem C.o.good HS.o).mono ?_;rintro e w5⟨rfl,g1,g2,g3⟩;exact⟨rfl,(PT.o.trans (aF hb x.o.room)).trans g3,RdS.word (r:=a) (o':=a.opn) t.o hs k1 C.o.good HS.o ω h5.room g1 g2 g3⟩
   go_wp2_with fail
   go_region_law ((first
    |(go_simp;refine(HL.o _).mono ?_;rintro e x5⟨rfl,af⟩;have ay:=ad (W0:=w4) γ af;clear af)
    |(go_simp;refine(aq.o _ (ad ay γ)).mono ?_;rintro e x6⟨rfl,au,av⟩)))
   all_goals
    have ah:=aa au;have ak:=aa av;clear au av aq HL;generalize wordR s T.tk n a=r4 at *;go_wp2_with fail
    go_loopg [] s.size (fun g wj =>∃(b:Rd S),aX s T.tk g b=aX s T.tk s.size r4/\s.size-b.at'<=g/\RdS T wj q s true b/\Kept T.N (fun k=>k=T.p\/k=q) w wj)
    case atStart=>exact⟨r4,rfl,ω,ak.o,ah.o⟩
    case round =>
     obtain⟨b,PV,aA,l,PX⟩:=hrel;have HQ:=aa PV;have y:=aa l;have J:=aa PX;have c2:=l.rd.c2;have ac:=l.few;have Q:=l.inn;have m:=iH q b.at' b.opn s T.fv wr l.inn l.rd;clear PV l PX
     by_cases aB:b.opn=0
     ·have HE:Hid (aw s T.tk r=(b,true)):=by show _=_;rw[HD.o,←HQ.o,gS ω]
      have PZ:(b.opn:Int)=0:=ω;rw[PZ]at c2;go_wp2_with fail
      first|go_end0|skip
      exact i6.ok HE.o J.o y.o
     have PZ:0<(b.opn:Int):=ω;by_cases u:nextB s b.at'=41
     ·obtain⟨o1,U⟩:∃o1,b.opn=o1+1:=⟨b.opn-1,ω⟩
      obtain⟨m1,m2⟩:=gB (o:=o1) Q u;have PU:=aa m2;obtain⟨g',PW⟩:∃g',gk=g'+1:=⟨gk-1,ω⟩
      have aj:Hid (aX s T.tk (g'+1) b=aX s T.tk g' (wordR s T.tk 1 ⟨b.at',o1,b.st⟩)):=by
       have h:=pU (tk:=T.tk) (f:=g') (r:=b) (s:=s) ω u
       rw[show b.opn-1=o1 by omega]at h
       exact h
      have HG:=aa PW;rw[u]at m;clear u m2 PW;go_wp2_with fail;refine m.mono ?_;rintro e x1⟨rfl,v⟩;have j:=aa (y.o.later t.o B d v);have K:=aa (J.o.trans (aF v y.o.room));have d2:=j.o.rd.c2;have f2:=j.o.rd.fr 2;have ae:(b.opn:Int)-1=(o1:Int):=ω;have ab:(o1:Int)<=4611686018427387904:=ω;obtain⟨W,hW⟩:=ar (x1.setCell ⟨q,2,none⟩ (.int .i64 (o1:Int)));obtain⟨g1,g2,g3,g4⟩:=RdS.open t.o B d j.o o1;rw[hW]at g1 g2 g3 g4;have i:Hid (dg W q s b.at' o1 T.fv/\T.I b.st W/\T.N<=W.heap.size/\Kept T.N (fun k=>k=T.p\/k=q) x1 W):=⟨g1,g2,g3,g4⟩
      clear v m g1 g2 g3 g4 c2;go_wp2_with fail;refine(iZ T t.o q b.at' (o1+1) o1 1 o1 true true s b.st W hs m1 B d i.o.2.2.1 i.o.1 i.o.2.1 (by rw[←U];exact j.o.good) PU.o).mono ?_
      rintro e x3⟨rfl,g1,g2,g3⟩;have ai:=aa ((K.o.trans i.o.2.2.2).trans g3);have al:Hid (RdS T x3 q s true (wordR s T.tk 1 ⟨b.at',o1,b.st⟩)):=RdS.word t.o hs m1 (by rw[←U];exact j.o.good) PU.o ω i.o.2.2.1 g1 g2 g3
      clear g1 g2 g3;go_wp2_with fail
      go_roundg g'
      case measure=>have:=HG.o;omega
      case rel=>exact⟨wordR s T.tk 1 ⟨b.at',o1,b.st⟩,by rw[←aj.o,←HG.o,HQ.o],by have:=HG.o;show s.size-(b.at'+1)<=g';omega,al.o,ai.o⟩
     have HE:Hid (aw s T.tk r=(b,true)):=by show _=_;rw[HD.o,←HQ.o,gS (fun h=>u h.2)]
     have an:(nextB s b.at' == 41)=false:=by simpa using u
     generalize nextB s b.at'=c5 at *;go_wp2_with fail;refine m.mono ?_;rintro e x1⟨rfl,v⟩;have j:=aa (y.o.later t.o B d v);have K:=aa (J.o.trans (aF v y.o.room));go_wp2_with fail
     first|go_end0|skip
     exact i6.ok HE.o K.o j.o
  rw[hd]at G;have HD:Hid (aw s T.tk r=(aX s T.tk s.size (wordR s T.tk (digitsN s a.at') a),true)):=by
   have h:=xR (s:=s) (tk:=T.tk) (r:=r) (by rw[E.o,HC.o];exact hd)
   rw[E.o]at h;exact h
  obtain⟨k1,k2⟩:=pZ (o:=a.opn) H (by rw[HC.o];exact hd)
  have HS:=aa k2;clear k2 R hd;go_wp2_with fail;refine(G _).mono ?_;rintro e w3⟨rfl,z⟩;have D:=aa (F.o.later t.o B d z);have Z:=aa (Y.o.trans (aF z F.o.room));have ax:=yn q a.at' a.opn s T.fv w3 ω H D.o.rd
  clear z G;generalize digitsN s a.at'=n at *;go_wp2_with fail;refine ax.mono ?_;rintro e w4⟨rfl,A⟩;have x:=aa (D.o.later t.o B d A);have PT:=aa (Z.o.trans (aF A D.o.room));clear A ax;go_wp2_with fail;refine(iZ T t.o q a.at' a.opn a.opn n a.opn false true s a.st w4 hs k1 B d x.o.room x.o.rd x.o.mem C.o.good HS.o).mono ?_;rintro e w5⟨rfl,g1,g2,g3⟩;have ah:=aa (PT.o.trans g3);have ak:Hid (RdS T w5 q s true (wordR s T.tk n a)):=RdS.word (r:=a) (o':=a.opn) t.o hs k1 C.o.good HS.o ω x.o.room g1 g2 g3
  clear g1 g2 g3;generalize wordR s T.tk n a=r4 at *;go_wp2_with fail
  go_loopg [] s.size (fun g wj =>∃(b:Rd S),aX s T.tk g b=aX s T.tk s.size r4/\s.size-b.at'<=g/\RdS T wj q s true b/\Kept T.N (fun k=>k=T.p\/k=q) w wj)
  case atStart=>exact⟨r4,rfl,ω,ak.o,ah.o⟩
  case round =>
   obtain⟨b,PV,aA,l,PX⟩:=hrel;have HQ:=aa PV;have y:=aa l;have J:=aa PX;have c2:=l.rd.c2;have ac:=l.few;have Q:=l.inn;have m:=iH q b.at' b.opn s T.fv wr l.inn l.rd;clear PV l PX
   by_cases aB:b.opn=0
   ·have HE:Hid (aw s T.tk r=(b,true)):=by show _=_;rw[HD.o,←HQ.o,gS ω]
    have PZ:(b.opn:Int)=0:=ω;rw[PZ]at c2;go_wp2_with fail
    first|go_end0|skip
    exact i6.ok HE.o J.o y.o
   have PZ:0<(b.opn:Int):=ω;by_cases u:nextB s b.at'=41
   ·obtain⟨o1,U⟩:∃o1,b.opn=o1+1:=⟨b.opn-1,ω⟩
    obtain⟨m1,m2⟩:=gB (o:=o1) Q u;have PU:=aa m2;obtain⟨g',PW⟩:∃g',gk=g'+1:=⟨gk-1,ω⟩
    have aj:Hid (aX s T.tk (g'+1) b=aX s T.tk g' (wordR s T.tk 1 ⟨b.at',o1,b.st⟩)):=by
     have h:=pU (tk:=T.tk) (f:=g') (r:=b) (s:=s) ω u
     rw[show b.opn-1=o1 by omega]at h
     exact h
    have HG:=aa PW;rw[u]at m;clear u m2 PW;go_wp2_with fail;refine m.mono ?_;rintro e x1⟨rfl,v⟩;have j:=aa (y.o.later t.o B d v);have K:=aa (J.o.trans (aF v y.o.room));have d2:=j.o.rd.c2;have f2:=j.o.rd.fr 2;have ae:(b.opn:Int)-1=(o1:Int):=ω;have ab:(o1:Int)<=4611686018427387904:=ω;obtain⟨W,hW⟩:=ar (x1.setCell ⟨q,2,none⟩ (.int .i64 (o1:Int)));obtain⟨g1,g2,g3,g4⟩:=RdS.open t.o B d j.o o1;rw[hW]at g1 g2 g3 g4;have i:Hid (dg W q s b.at' o1 T.fv/\T.I b.st W/\T.N<=W.heap.size/\Kept T.N (fun k=>k=T.p\/k=q) x1 W):=⟨g1,g2,g3,g4⟩
    clear v m g1 g2 g3 g4 c2;go_wp2_with fail;refine(iZ T t.o q b.at' (o1+1) o1 1 o1 true true s b.st W hs m1 B d i.o.2.2.1 i.o.1 i.o.2.1 (by rw[←U];exact j.o.good) PU.o).mono ?_
    rintro e x3⟨rfl,g1,g2,g3⟩;have ai:=aa ((K.o.trans i.o.2.2.2).trans g3);have al:Hid (RdS T x3 q s true (wordR s T.tk 1 ⟨b.at',o1,b.st⟩)):=RdS.word t.o hs m1 (by rw[←U];exact j.o.good) PU.o ω i.o.2.2.1 g1 g2 g3
    clear g1 g2 g3;go_wp2_with fail
    go_roundg g'
    case measure=>have:=HG.o;omega
    case rel=>exact⟨wordR s T.tk 1 ⟨b.at',o1,b.st⟩,by rw[←aj.o,←HG.o,HQ.o],by have:=HG.o;show s.size-(b.at'+1)<=g';omega,al.o,ai.o⟩
   have HE:Hid (aw s T.tk r=(b,true)):=by show _=_;rw[HD.o,←HQ.o,gS (fun h=>u h.2)]
   have an:(nextB s b.at' == 41)=false:=by simpa using u
   generalize nextB s b.at'=c5 at *;go_wp2_with fail;refine m.mono ?_;rintro e x1⟨rfl,v⟩;have j:=aa (y.o.later t.o B d v);have K:=aa (J.o.trans (aF v y.o.room));go_wp2_with fail
   first|go_end0|skip
   exact i6.ok HE.o K.o j.o
end Go.Proofs.YtjfampgnhccodaaGreatDoor
namespace Go.Proofs
open Go.Shelf
def Tryz.laysK_ren:Go.Shelf.Ren:=⟨fun| 25=>85|n=>n,fun| 0=>0| 3=>3| 4=>4| 5=>5| 9=>9| 37=>95| 47=>162|n=>n,fun|n=>n⟩
theorem Tryz.laysK:Go.Proofs.LaysPu.n25 Tryz.prog Tryz.laysK_ren:={
 mixed:=by kernel_rfl
 f25:=Tryz.func85.trans (congrArg some (by kernel_rfl))
 t0:=Tryz.underlying0
 a0:=Tryz.isAgg0
 z0:=Tryz.sizeOf0
 v0:=Tryz.zeroValue0
 i0:=by kernel_rfl
 t3:=Tryz.underlying3
 a3:=Tryz.isAgg3
 z3:=Tryz.sizeOf3
 v3:=Tryz.zeroValue3
 i3:=by kernel_rfl
 t4:=Tryz.underlying4
 a4:=Tryz.isAgg4
 z4:=Tryz.sizeOf4
 v4:=Tryz.zeroValue4
 i4:=by kernel_rfl
 t5:=Tryz.underlying5
 a5:=Tryz.isAgg5
 z5:=Tryz.sizeOf5
 v5:=Tryz.zeroValue5
 i5:=by kernel_rfl
 t9:=Tryz.underlying9
 a9:=Tryz.isAgg9
 z9:=Tryz.sizeOf9
 v9:=Tryz.zeroValue9
 i9:=by kernel_rfl
 t37:=Tryz.underlying95
 a37:=Tryz.isAgg95
 z37:=Tryz.sizeOf95
 v37:=Tryz.zeroValue95
 i37:=by kernel_rfl
 t47:=Tryz.underlying162
 a47:=Tryz.isAgg162
 z47:=Tryz.sizeOf162
 v47:=Tryz.zeroValue162
 i47:=by kernel_rfl }
namespace YtjfampgnhccodaaGreatDoor
open Go.ChangeShapes Go.WideShapes Go.ChangeAt Go.RowKit
theorem d5(s:ByteArray)(w:World)(b:s.size<=281474976710656):Rt 48 #[.string s] w (.string s):=by
 have h:=AnyPu.stringslite_Clone Tryz.laysK s w b
 go_enter Tryz.func48,Tryz.ntmps48
 go_wp2_with fail;refine Calls.mono h ?_;rintro e w1⟨rfl,a⟩;go_wp2_with fail;go_ret;exact⟨rfl,a⟩
end YtjfampgnhccodaaGreatDoor
end Go.Proofs
namespace Go.Proofs.YtjfampgnhccodaaGreatDoor
open Go.ChangeShapes Go.WideShapes Go.ChangeAt Go.RowKit
def jS(blank:Bool)(ka kb:Int)(r:Int×Int):Int×Int:=if ka=2\/kb=2 then(2,0)else if blank=true then(0,0)else r
def fY(fb fo:Nat)(ka na kb nb k n:Int)(er:Value):Prop := ∀(w:World),Calls Tryz.prog 215 #[.agg #[.int .i64 ka,.int .i64 na],.agg #[.int .i64 kb,.int .i64 nb],.func (.func fb) #[] #[],.func (.func fo) #[] #[]] w fun e w'=>e=.returned (.tuple #[.agg #[.int .i64 k,.int .i64 n],er])/\Bl w w'
def mH(f:Nat)(ka na kb nb k n:Int)(er:Value):Prop := ∀(w:World),Calls Tryz.prog f #[.agg #[.int .i64 ka,.int .i64 na],.agg #[.int .i64 kb,.int .i64 nb]] w fun e w'=>e=.returned (.tuple #[.agg #[.int .i64 k,.int .i64 n],er])/\Bl w w'
theorem kj(c e:Nat)(p:Int->Int->Bool)(j:dF c)(l:vx c p)(h:dF e)(a na b nb:Int)(f:good a na=true)(g:good b nb=true)(r:Int×Int)(m:pI e na nb r):
  fY c e a na b nb (jS (p a b) a b r).1 (jS (p a b) a b r).2 .nilIface:=by
 intro w;unfold jS
 by_cases i:a=2\/b=2
 ·rw[if_pos i]
  exact AY _ _ a na b nb w f g (by simp;exact i)
 rw[if_neg i];have d:((fun k:Int=>k == 2) a||(fun k:Int=>k == 2) b)=false:=by simp;omega
 cases hpp:p a b
 ·rw[if_neg σ]
  exact E5 c e p j l h a na b nb w f g r m d hpp
 rw[if_pos rfl];exact AV c p j l _ a na b nb w f g d hpp
theorem gT{k n:Int}(h:good k n=true): -1000000000000<=n/\n<=1000000000000:=by simp[good]at h;omega
def yd(ka na kb nb:Int):Int×Int:=jS (!(ka != 0||kb != 0)) ka kb (iI (na+nb))
def qD(ka na kb nb:Int):Int×Int:=jS (!(ka != 0||kb != 0)) ka kb (iI (na-nb))
def CC(ka na kb nb:Int):Int×Int:=jS (ka == 0||kb == 0) ka kb (iI (na*nb))
def Jp(ka na kb nb:Int):Int×Int:=jS (ka == 0||kb == 0) ka kb (JE na nb)
theorem M7(c na d nb k n:Int)(a:Value)(h:fY 216 218 c na d nb k n a):mH 160 c na d nb k n a:=by
 intro w;unfold fY at h
 go_enter Tryz.func160,Tryz.ntmps160
 go_wp2_with fail;refine(h _).mono ?_;rintro e w1⟨rfl,b⟩;have i:Bl w w1:=Below.trans γ (b.mono (by simp;omega))
 obtain⟨f,j⟩:=fk b;have g:=fl b
 simp at g
 go_wp2_with fail;refine bodyPost_ret (v:=.tuple #[.agg #[.int .i64 k,.int .i64 n],a]) (by simp[results,Tryz.results160,go_sem,f]) rfl ⟨rfl,?_⟩
 go_grown
theorem CT(a na b nb:Int)(c:good a na=true)(d:good b nb=true):mH 160 a na b nb (yd a na b nb).1 (yd a na b nb).2 .nilIface:=by
 obtain⟨e,f⟩:=gT c;obtain⟨g,h⟩:=gT d;exact M7 _ _ _ _ _ _ _ (kj _ _ _ CV vL Mf a na b nb c d _ (Jz na nb e f g h))
theorem NV(c na d nb k n:Int)(a:Value)(h:fY 216 217 c na d nb k n a):mH 159 c na d nb k n a:=by
 intro w;unfold fY at h
 go_enter Tryz.func159,Tryz.ntmps159
 go_wp2_with fail;refine(h _).mono ?_;rintro e w1⟨rfl,b⟩;have i:Bl w w1:=Below.trans γ (b.mono (by simp;omega))
 obtain⟨f,j⟩:=fk b;have g:=fl b
 simp at g
 go_wp2_with fail;refine bodyPost_ret (v:=.tuple #[.agg #[.int .i64 k,.int .i64 n],a]) (by simp[results,Tryz.results159,go_sem,f]) rfl ⟨rfl,?_⟩
 go_grown
theorem DP(a na b nb:Int)(c:good a na=true)(d:good b nb=true):mH 159 a na b nb (qD a na b nb).1 (qD a na b nb).2 .nilIface:=by
 obtain⟨e,f⟩:=gT c;obtain⟨g,h⟩:=gT d;exact NV _ _ _ _ _ _ _ (kj _ _ _ CV vL IU a na b nb c d _ (Ff na nb e f g h))
theorem NC(c na d nb k n:Int)(a:Value)(h:fY 288 289 c na d nb k n a):mH 261 c na d nb k n a:=by
 intro w;unfold fY at h
 go_enter Tryz.func261,Tryz.ntmps261
 go_wp2_with fail;refine(h _).mono ?_;rintro e w1⟨rfl,b⟩;have i:Bl w w1:=Below.trans γ (b.mono (by simp;omega))
 obtain⟨f,j⟩:=fk b;have g:=fl b
 simp at g
 go_wp2_with fail;refine bodyPost_ret (v:=.tuple #[.agg #[.int .i64 k,.int .i64 n],a]) (by simp[results,Tryz.results261,go_sem,f]) rfl ⟨rfl,?_⟩
 go_grown
theorem LK(a na b nb:Int)(c:good a na=true)(d:good b nb=true):mH 261 a na b nb (CC a na b nb).1 (CC a na b nb).2 .nilIface:=by
 obtain⟨e,f⟩:=gT c;obtain⟨g,h⟩:=gT d;exact NC _ _ _ _ _ _ _ (kj _ _ _ Jd Dw BM a na b nb c d _ (yh na nb e f g h))
theorem Nh(c na d nb k n:Int)(a:Value)(h:fY 288 290 c na d nb k n a):mH 262 c na d nb k n a:=by
 intro w;unfold fY at h
 go_enter Tryz.func262,Tryz.ntmps262
 go_wp2_with fail;refine(h _).mono ?_;rintro e w1⟨rfl,b⟩;have i:Bl w w1:=Below.trans γ (b.mono (by simp;omega))
 obtain⟨f,j⟩:=fk b;have g:=fl b
 simp at g
 go_wp2_with fail;refine bodyPost_ret (v:=.tuple #[.agg #[.int .i64 k,.int .i64 n],a]) (by simp[results,Tryz.results262,go_sem,f]) rfl ⟨rfl,?_⟩
 go_grown
theorem Lc(a na b nb:Int)(c:good a na=true)(d:good b nb=true):mH 262 a na b nb (Jp a na b nb).1 (Jp a na b nb).2 .nilIface:=by
 obtain⟨e,f⟩:=gT c;obtain⟨g,h⟩:=gT d;exact Nh _ _ _ _ _ _ _ (kj _ _ _ Jd Dw yj a na b nb c d _ (uZ na nb e f))
end Go.Proofs.YtjfampgnhccodaaGreatDoor
