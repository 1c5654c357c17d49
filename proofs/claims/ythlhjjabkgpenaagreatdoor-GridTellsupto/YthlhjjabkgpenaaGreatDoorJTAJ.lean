/- What the reader of pac -/
import Derived.Defers
import Derived.Recover
import Derived.Laws.EntriesVeiled
import Derived.Test.YthlhjjabkgpenaaGreatDoorJTAI
namespace Go.Proofs.YthlhjjabkgpenaaGreatDoor
open ChangeShapes WideShapes ChangeAt RowKit
set_option maxRecDepth 99999
set_option maxHeartbeats 0
section
variable {S:Type} {s:ByteArray} {tk:S→ByteArray→S} {r r1 r2:Rd S} {f:Nat}
theorem tL (h : ¬ r.at'<s.size):dj s tk f r=(r,true):=by
 cases f with
 | zero=>rfl
 | succ k=>rw [dj,if_neg h]
theorem tN (h:r.at'<s.size) (a:(b9 s tk r).2=false):dj s tk (f+1) r=((b9 s tk r).1,false):=by rw [dj,if_pos h,if_neg (by rw [a];decide)]
theorem tM (h:r.at'<s.size) (a:(b9 s tk r).2=true) (b:(az s tk (b9 s tk r).1).2=false):dj s tk (f+1) r=((az s tk (b9 s tk r).1).1,false):=by rw [dj,if_pos h,if_pos a,if_neg (by rw [b];decide)]
theorem yO (h:r.at'<s.size) (a:(b9 s tk r).2=true) (b:(az s tk (b9 s tk r).1).2=true):dj s tk (f+1) r=dj s tk f (az s tk (b9 s tk r).1).1:=by rw [dj,if_pos h,if_pos a,if_pos b]
theorem CR (h:(az s tk r).2=false):gI s tk r=((az s tk r).1,false):=by rw [gI,if_neg (by rw [h];decide)]
theorem sC (h:(az s tk r).2=true) (a:dj s tk s.size (az s tk r).1=(r1,false)):gI s tk r=(r1,false):=by rw [gI,if_pos h,a,if_neg (fun e=>Bool.noConfusion e)]
theorem FO (h:(az s tk r).2=true) (a:dj s tk s.size (az s tk r).1=(r1,true)):gI s tk r=(r1,decide (r1.opn=0)):=by rw [gI,if_pos h,a,if_pos rfl]
theorem GR (a:(b9 s tk r).2=true):(b9 s tk r).1.at'=r.at'+1:=by
 unfold b9 at *
 split
 ·rename_i h;rw [if_pos h] at a;cases a
 rfl
theorem uf:∀ (f:Nat) (r:Rd S),r.at'≤(opensR s tk f r).at'
 | 0,r=>zT
 | f+1,r=>by
  rw [opensR]
  split
  ·exact zV (by simp [wordR]) (uf f _)
  exact zT
theorem lh:∀ (f:Nat) (r:Rd S),r.at'≤(bh s tk f r).at'
 | 0,r=>zT
 | f+1,r=>by
  rw [bh]
  split
  ·exact zV (by simp [wordR]) (lh f _)
  exact zT
theorem ou (r:Rd S):r.at'≤(az s tk r).1.at':=by
 have a:r.at'≤(bF s tk r).at':=uf _ r;unfold az
 split
 ·exact zV (zV a (by simp [wordR])) (lh _ _)
 split
 ·exact zV (zV a (by simp [wordR])) (lh _ _)
 exact a
end
theorem EV {S:Type} (T:Tkr S) (U:T.Ok) (q:Nat) (s:ByteArray) (r:Rd S) (w:World) (hs:s.size≤T.M) (P:q<T.N) (h:q≠T.p) (hR:RdS T w q s false r) :
  Calls Tryz.prog 242 #[.pointer (some ⟨q,0,none⟩)] w fun e w'=>il T q s true w (gI s T.tk r) e w':=by
 have HR:=aa hR;have R:Hid T.Ok:=U;have hsm:=U.small;have h0:=l9 T U q s r w hs P h hR;clear hR U
 go_enter Tryz.func242,Tryz.ntmps242
 go_wp2_with fail;refine h0.mono ?_;rintro e w1 ⟨x,⟨E,rfl,H⟩ | ⟨E,rfl⟩⟩
 case inr =>
  have o:Hid (gI s T.tk r=((az s T.tk r).1,false)):=CR E;clear E h0;go_wp2_with fail;exact ⟨rfl,il.no o.out x⟩
 case inl =>
  have V:=aa E;have D:=aa H;have Y:=aa x;clear E H x h0;obtain ⟨r1,z⟩:=ax ((az s T.tk r).1);have X:=aa z;rw [z] at D;clear z;go_wp2_with fail
  go_loopg [] s.size (fun g wj => ∃ (a:Rd S),dj s T.tk g a=dj s T.tk s.size r1∧s.size-a.at'≤g∧RdS T wj q s true a∧Kept T.N (fun k=>k=T.p∨k=q) w wj)
  case atStart=>exact ⟨r1,rfl,by omega,D.out,Y.out⟩
  case round =>
   obtain ⟨a,J,hg5,f,L⟩:=hrel;have Q:=aa J;have j:=aa f;have C:=aa L;have c0:=f.rd.c0;have c1:=f.rd.c1;have hinn5:=f.inn;clear J f L
   by_cases n:a.at'<s.size
   ·have hli:(a.at':Int)<(s.size:Int):=by omega
    obtain ⟨g',K⟩:∃ g',gk=g'+1:=⟨gk-1,by omega⟩
    have B:=aa K;clear K;go_wp2_with fail
    go_quiet (fail)
    rename_i nq
    have b:Bl wr (wr.drewN nq):=ac (zS) nq;have c:=aa (j.out.later R.out P h b);have d:=aa (C.out.trans (aq b j.out.room));have A:=Ff T R.out q s a (wr.drewN nq) hs P h c.out;clear b;go_wp2_with fail;refine A.mono ?_;rintro e w2 ⟨l,⟨F,rfl,v⟩ | ⟨F,rfl⟩⟩
    case inr =>
     have o:Hid (gI s T.tk r=((b9 s T.tk a).1,false)):=by
      refine sC V.out ?_;rw [X.out,←Q.out,B.out,tN n F]
     have i:=d.out.trans l;clear F A l;go_wp2_with fail;exact ⟨rfl,il.no o.out i⟩
    case inl =>
     have W:=aa F;have i:=aa (d.out.trans l);have HR2:=aa v;have y:=l9 T R.out q s (b9 s T.tk a).1 w2 hs P h v;clear F A l v;go_wp2_with fail;refine y.mono ?_;rintro e w3 ⟨m,⟨G,rfl,I⟩ | ⟨G,rfl⟩⟩
     case inr =>
      have o:Hid (gI s T.tk r=((az s T.tk (b9 s T.tk a).1).1,false)):=by
       refine sC V.out ?_;rw [X.out,←Q.out,B.out,tM n W.out G]
      have u:=i.out.trans m;clear G y m;go_wp2_with fail;exact ⟨rfl,il.no o.out u⟩
     case inl =>
      have HN:Hid (dj s T.tk (g'+1) a=dj s T.tk g' (az s T.tk (b9 s T.tk a).1).1):=yO n W.out G;have u:=aa (i.out.trans m);have Z:=aa I;have hat:=ou (s:=s) (tk:=T.tk) (b9 s T.tk a).1;rw [GR W.out] at hat;clear G y m I;go_wp2_with fail
      go_roundg g'
      case measure=>have:=B.out;omega
      case rel=>exact ⟨_,by rw [←HN.out,←B.out,Q.out],by have:=B.out;omega,Z.out,u.out⟩
   have hli:(s.size:Int)≤(a.at':Int):=by omega
   have HL:Hid (dj s T.tk s.size (az s T.tk r).1=(a,true)):=by show _=_;rw [X.out,←Q.out,tL n]
   have o:Hid (gI s T.tk r=(a,decide (a.opn=0))):=FO V.out HL.out;go_wp2_with fail
   go_quiet (fail)
   rename_i nq
   have b:Bl wr (wr.drewN nq):=ac (zS) nq;have c:=aa (j.out.later R.out P h b);have d:=aa (C.out.trans (aq b j.out.room));have d2:=c.out.rd.c2;clear b
   by_cases ho:a.opn=0
   ·have O:(a.opn:Int)=0:=by omega
    have t:Hid (gI s T.tk r=(a,true)):=by show _=_;rw [o.out,decide_eq_true ho]
    rw [O] at d2;go_wp2_with fail
    first | go_end0 | skip
    exact il.ok t.out d.out c.out
   have O:0<(a.opn:Int):=by omega
   have t:Hid (gI s T.tk r=(a,false)):=by show _=_;rw [o.out,decide_eq_false ho]
   go_wp2_with fail;refine (o8 q a.at' a.opn s T.fv _ c.out.rd).mono ?_;rintro e w5 ⟨rfl,hb5⟩;go_wp2_with fail;exact ⟨rfl,il.no t.out (d.out.trans (aq hb5 c.out.room))⟩
theorem Ia (a:Nat) (w:World):(Instr.typeAssert (.iface 299 (.int .i64 a)) 20 299 true).run Tryz.prog w=.ok (.tuple #[.int .i64 a,.bool true]) w:=by
 simp [Instr.typeAssert,run_underlying Tryz.underlying299]
theorem ms (pa pe:Addr) (a:Nat) (x y:Value) (w:World) (h:w.cell? pa=some x) (j:w.frozen? pa=false) (b:w.cell? pe=some y) (f:w.frozen? pe=false) (c:pa≠pe) :
  CallsD Tryz.prog 241 #[.pointer (some pa),.pointer (some pe)] (.panicking (KC a)) w fun e u' w' =>
   e=.returned (.tuple #[])∧u'=.panicking [{ v:=.iface 299 (.int .i64 a),recovered:=true }]∧w'=(w.setCell pa (.int .i64 a)).setCell pe (.iface 68 (.int .i64 2)):=by
 unfold KC;refine callsD_of_wpS Tryz.func241 rfl fun c₀ cs d=>?_
 apply wpS_seq;apply wpS_region
 simp [wpOpsS,go_sem,recoverD,d,Tryz.ntmps241,Exit.thenS]
 refine wpS_of_wp ?_
 change Code.wp _ _ _ { tmps := #[.pointer (some pa),.pointer (some pe),undef,undef,undef,.iface 299 (.int .i64 a),undef,undef,undef,undef,undef,undef,undef],defers:=[] } w
 have i:=Ia a;have g:(w.setCell pa (.int .i64 a)).cell? pe=some y:=(World.cell?_setCell_other _ _ _ _ c).trans b;go_wp2
 simp [bodyPostS,results,Tryz.results241]
theorem vg (pa pe:Addr) (w:World) :
  CallsD Tryz.prog 241 #[.pointer (some pa),.pointer (some pe)] .returning w fun e u' w'=>e=.returned (.tuple #[])∧u'=.returning∧w'=w:=by
 refine callsD_of_wpS Tryz.func241 rfl fun c₀ cs a=>?_
 apply wpS_seq;apply wpS_region
 simp [wpOpsS,go_sem,recoverD,a,Tryz.ntmps241,Exit.thenS]
 refine wpS_of_wp ?_
 change Code.wp _ _ _ { tmps := #[.pointer (some pa),.pointer (some pe),undef,undef,undef,.nilIface,undef,undef,undef,undef,undef,undef,undef],defers:=[] } w
 go_wp2;cases c₀
 simp_all [bodyPostS,results,Tryz.results241]
def fF (w:World) (s:ByteArray) (fv:Value):World:=((w.alloc (.cells #[.int .i64 0] 3)).alloc (.cells #[.nilIface] 42)).alloc (.cells #[.string s,.int .i64 0,.int .i64 0,fv] 301)
theorem xb (w:World) (s:ByteArray) (fv:Value):(fF w s fv).heap.size=w.heap.size+3:=by unfold fF;simp
theorem uB (w:World) (s:ByteArray) (fv:Value):Bl w (fF w s fv):=by unfold fF;go_grown
theorem EZ (w:World) (s:ByteArray) (fv:Value):cG (fF w s fv) (w.heap.size+1+1) s 0 0 fv:=by
 unfold cG fF;have h:=heap_alloc_new ((w.alloc (.cells #[.int .i64 0] 3)).alloc (.cells #[.nilIface] 42)) (.cells #[.string s,.int .i64 0,.int .i64 0,fv] 301)
 simpa using h
theorem EY (w:World) (s:ByteArray) (fv:Value):(fF w s fv).heap[w.heap.size]?=some (.cells #[.int .i64 0] 3 (0,0)):=by
 unfold fF;rw [heap_alloc_old _ _ (by simp;omega),heap_alloc_old _ _ (by simp)]
 exact heap_alloc_new _ _
theorem BO (w:World) (s:ByteArray) (fv:Value):(fF w s fv).heap[w.heap.size+1]?=some (.cells #[.nilIface] 42 (0,0)):=by
 unfold fF;rw [heap_alloc_old _ _ (by simp)]
 have h:=heap_alloc_new (w.alloc (.cells #[.int .i64 0] 3)) (.cells #[.nilIface] 42)
 simpa using h
theorem rM {w:World} {q T:Nat} {v:Value} (h:w.heap[q]?=some (.cells #[v] T (0,0))):w.cell? ⟨q,0,none⟩=some v∧w.frozen? ⟨q,0,none⟩=false:=⟨by simp [World.cell?,h],by simp [World.frozen?,h]⟩
theorem Av {S:Type} (T:Tkr S) (J:T.Ok) (s:ByteArray) (st:S) (w:World) (hs:s.size≤T.M) (hN:T.N=w.heap.size+3) (hp:T.p<w.heap.size) (hI:T.I st w) (hG:T.G 0 0 false st) (x:Rd S×Bool) (hx:gI s T.tk ⟨0,0,st⟩=x) :
  Calls Tryz.prog 202 #[.string s,T.fv] w fun e w'=>(Kept w.heap.size (fun k=>k=T.p) w w'∧T.N≤w'.heap.size)∧((x.2=true∧e=.returned (.tuple #[.int .i64 0,.nilIface])∧T.I x.1.st w'∧T.G x.1.at' x.1.opn true x.1.st)∨(x.2=false∧e=.returned (.tuple #[.int .i64 (x.1.at':Int),errV 2]))):=by
 have hmf:∀ (fn:Fn) (first cap:Array Value) (w:World),(Instr.makeFunc fn first cap).run Tryz.prog w=.ok (.func fn first cap) w:=fun _ _ _ _=>rfl
 have m:=uB w s T.fv;have hz:=xb w s T.fv;have hq:w.heap.size+1+1<T.N:=by omega
 have H:w.heap.size+1+1≠T.p:=by omega
 have C:RdS T (fF w s T.fv) (w.heap.size+1+1) s false ⟨0,0,st⟩:=⟨EZ w s T.fv,J.stay _ _ _ _ hq H hI (iu m),hG,zU,zT,by omega⟩
 have a:=EV T J (w.heap.size+1+1) s ⟨0,0,st⟩ (fF w s T.fv) hs hq H C;rw [hx] at a;have o:=aa m;have L:Hid ((fF w s T.fv).heap[w.heap.size]?=some (.cells #[.int .i64 0] 3 (0,0))):=EY w s T.fv;have O:Hid ((fF w s T.fv).heap[w.heap.size+1]?=some (.cells #[.nilIface] 42 (0,0))):=BO w s T.fv;have HZ:=aa hz;have HT:Hid T.Ok:=J;clear m hz C hI hG J;obtain ⟨W,hW⟩:=ax (fF w s T.fv);rw [hW] at a o L O HZ;have R:w.heap.size<T.N:=by omega
 have U:w.heap.size+1<T.N:=by omega
 have D:w.heap.size≠T.p:=by omega
 have E:w.heap.size+1≠T.p:=by omega
 have Z:Hid (∀ (w1:World) (u v:Value),w1.cell? ⟨w.heap.size,0,none⟩=some (.int .i64 0)→w1.cell? ⟨w.heap.size+1,0,none⟩=some .nilIface→Kept T.N (fun k=>k=T.p∨k=w.heap.size+1+1) W w1→((w1.setCell ⟨w.heap.size,0,none⟩ u).setCell ⟨w.heap.size+1,0,none⟩ v).cell? ⟨w.heap.size,0,none⟩=some u∧((w1.setCell ⟨w.heap.size,0,none⟩ u).setCell ⟨w.heap.size+1,0,none⟩ v).cell? ⟨w.heap.size+1,0,none⟩=some v∧Kept w.heap.size (fun k=>k=T.p) w ((w1.setCell ⟨w.heap.size,0,none⟩ u).setCell ⟨w.heap.size+1,0,none⟩ v)∧T.N≤((w1.setCell ⟨w.heap.size,0,none⟩ u).setCell ⟨w.heap.size+1,0,none⟩ v).heap.size):=by
  intro w1 u v z A d;refine ⟨?_,?_,⟨?_,?_,?_,?_,?_⟩,?_⟩
  ·rw [World.cell?_setCell_other _ _ _ _ (by simp)]
   exact World.cell?_setCell_same _ _ _ z
  ·refine World.cell?_setCell_same _ _ _ (u:=.nilIface) ?_
   rw [World.cell?_setCell_other _ _ _ _ (by simp)]
   exact A
  ·exact (show _ from d.os).trans o.out.os
  ·exact (show _ from d.tape).trans o.out.tape
  ·exact (show _ from d.output).trans o.out.output
  ·have:=d.size;have:=o.out.size;simp;omega
  ·intro k b hk2
   rw [ao _ _ _ _ _ (by omega),ao _ _ _ _ _ (by omega),d.block k (by omega) (by omega)]
   exact o.out.block k b
  have:=d.size;have:=HZ.out;simp;omega
 unfold fF Tkr.fv at hW;unfold Tkr.fv
 go_enter_defers Tryz.func202,Tryz.ntmps202
 go_wp2_with fail;refine a.mono ?_;rintro e w1 ⟨b,⟨y,rfl,B⟩ | ⟨y,rfl⟩⟩
 case inl =>
  have n:∀ k,k<T.N→k≠T.p→k≠w.heap.size+1+1→w1.heap[k]?=W.heap[k]?:=fun k z A d=>b.block k z (fun h=>h.elim A d)
  have P:=rM ((n w.heap.size (by omega) (by omega) (by omega)).trans L.out)
  have Q:=rM ((n (w.heap.size+1) (by omega) (by omega) (by omega)).trans O.out)
  obtain ⟨g,r⟩:=P;obtain ⟨i,t⟩:=Q;have K:=aa y;have q:=aa B;have l:=aa b;clear y B b a n;go_wp2_with fail;refine leaves_cons (f:=241) (args := #[.pointer (some ⟨w.heap.size,0,none⟩),.pointer (some ⟨w.heap.size+1,0,none⟩)]) (by simp) (by simp [go_sem]) ?_
  refine (vg ⟨w.heap.size,0,none⟩ ⟨w.heap.size+1,0,none⟩ _).mono ?_;rintro e u' w'' ⟨rfl,rfl,rfl⟩;obtain ⟨V,X,Y⟩:=Z.out w1 (.int .i64 0) .nilIface g i l.out;have r4:=HT.out.stay _ _ _ _ U E (HT.out.stay _ _ _ _ R D q.out.mem (dx (j:=0) (v:=.int .i64 0) (cZ w1 (some w.heap.size)))) (dx (j:=0) (v:=.nilIface) (cZ _ (some (w.heap.size+1))));have c:(results Tryz.f202 #[.string s,.func (.func T.F) T.first #[],undef,undef,.pointer (some ⟨w.heap.size,0,none⟩),.pointer (some ⟨w.heap.size+1,0,none⟩),.pointer (some ⟨w.heap.size+1+1,0,none⟩),.func (.func 241) #[] #[.pointer (some ⟨w.heap.size,0,none⟩),.pointer (some ⟨w.heap.size+1,0,none⟩)],.string s,.func (.func T.F) T.first #[],.agg #[.string s,.int .i64 0,.int .i64 0,.func (.func T.F) T.first #[]],.tuple #[]]).run Tryz.prog ((w1.setCell ⟨w.heap.size,0,none⟩ (.int .i64 0)).setCell ⟨w.heap.size+1,0,none⟩ .nilIface)=.ok (.tuple #[.int .i64 0,.nilIface]) ((w1.setCell ⟨w.heap.size,0,none⟩ (.int .i64 0)).setCell ⟨w.heap.size+1,0,none⟩ .nilIface):=by
   simp [results,Tryz.results202,go_sem,V,X]
  exact ⟨_,c,Y,Or.inl ⟨K.out,rfl,r4,q.out.good⟩⟩
 case inr =>
  have n:∀ k,k<T.N→k≠T.p→k≠w.heap.size+1+1→w1.heap[k]?=W.heap[k]?:=fun k z A d=>b.block k z (fun h=>h.elim A d)
  have P:=rM ((n w.heap.size (by omega) (by omega) (by omega)).trans L.out)
  have Q:=rM ((n (w.heap.size+1) (by omega) (by omega) (by omega)).trans O.out)
  obtain ⟨g,r⟩:=P;obtain ⟨i,t⟩:=Q;have K:=aa y;have l:=aa b;clear y b a n;go_wp2_with fail;refine leaves_cons (f:=241) (args := #[.pointer (some ⟨w.heap.size,0,none⟩),.pointer (some ⟨w.heap.size+1,0,none⟩)]) (by simp) (by simp [go_sem]) ?_
  refine (ms ⟨w.heap.size,0,none⟩ ⟨w.heap.size+1,0,none⟩ x.1.at' _ _ w1 g r i t (by simp)).mono ?_
  rintro e u' w'' ⟨rfl,rfl,rfl⟩;obtain ⟨V,X,Y⟩:=Z.out w1 (.int .i64 x.1.at') (.iface 68 (.int .i64 2)) g i l.out;have c:(results Tryz.f202 #[.string s,.func (.func T.F) T.first #[],undef,undef,.pointer (some ⟨w.heap.size,0,none⟩),.pointer (some ⟨w.heap.size+1,0,none⟩),.pointer (some ⟨w.heap.size+1+1,0,none⟩),.func (.func 241) #[] #[.pointer (some ⟨w.heap.size,0,none⟩),.pointer (some ⟨w.heap.size+1,0,none⟩)],.string s,.func (.func T.F) T.first #[],.agg #[.string s,.int .i64 0,.int .i64 0,.func (.func T.F) T.first #[]],undef]).run Tryz.prog ((w1.setCell ⟨w.heap.size,0,none⟩ (.int .i64 x.1.at')).setCell ⟨w.heap.size+1,0,none⟩ (.iface 68 (.int .i64 2)))=.ok (.tuple #[.int .i64 (x.1.at':Int),.iface 68 (.int .i64 2)]) ((w1.setCell ⟨w.heap.size,0,none⟩ (.int .i64 x.1.at')).setCell ⟨w.heap.size+1,0,none⟩ (.iface 68 (.int .i64 2))):=by
   simp [results,Tryz.results202,go_sem,V,X]
  exact ⟨_,c,Y,Or.inr ⟨K.out,rfl⟩⟩
def cY (x:Nd):List Value:=[.int .i64 x.op,.int .i64 x.n,.string x.name,.int .i64 x.left,.int .i64 x.right]
def aK (l:List Nd):List Value:=l.flatMap cY
theorem lP (l:List Nd) (x:Nd):aK (l ++ [x])=aK l ++ cY x:=by simp [aK]
theorem pV:∀ (l:List Nd) (k:Nat),k<l.length→(aK l)[k*5]?=some (.int .i64 (l.getD k bH).op)∧(aK l)[k*5+1]?=some (.int .i64 (l.getD k bH).n)∧(aK l)[k*5+2]?=some (.string (l.getD k bH).name)∧(aK l)[k*5+3]?=some (.int .i64 (l.getD k bH).left)∧(aK l)[k*5+4]?=some (.int .i64 (l.getD k bH).right)
 | x :: r,0,_=>⟨rfl,rfl,rfl,rfl,rfl⟩
 | x :: r,k+1,h=>by
  have a:=pV r k (by simpa using h)
  have e:∀ j,(aK (x :: r))[(k+1)*5+j]?=(aK r)[k*5+j]?:=fun j=>by
   rw [show aK (x :: r)=cY x ++ aK r from rfl,List.getElem?_append_right (by show 5≤_;omega)]
   congr 1
   show _-5=_
   omega
  exact ⟨(e 0).trans a.1,(e 1).trans a.2.1,(e 2).trans a.2.2.1,(e 3).trans a.2.2.2.1,(e 4).trans a.2.2.2.2⟩
section
variable {w w' w2 W:World} {base e size n:Nat} {v:Value} {xs:List Value}
theorem bG (h:w.ownsRow base e size v n xs):∃ A cap,v=.slice A n cap:=by
 rcases h.2 with ⟨rfl,b⟩ | ⟨g,cap,a,rfl,_⟩
 ·exact ⟨none,0,by rw [b]⟩
 exact ⟨_,_,rfl⟩
theorem be (h:w.ownsRow base e size v n xs) (a:∀ g,v.ownBlock=some g→w'.heap[g]?=w.heap[g]?):w'.ownsRow base e size v n xs:=by
 refine ⟨h.1,?_⟩
 rcases h.2 with h0 | ⟨g,cap,cur,rfl,hb,hg,h1⟩
 ·exact Or.inl h0
 exact Or.inr ⟨g,cap,cur,rfl,hb,(a g rfl).trans hg,h1⟩
theorem aC {g:Nat} (h:w.ownsRow base e size v n xs) (c:v.ownBlock=some g):base≤g∧g<w.heap.size∧∃ a,w.heap[g]?=some (.cells a e (0,0)):=by
 rcases h.2 with ⟨rfl,f⟩ | ⟨g',cap,a,rfl,d,b,i⟩
 ·cases c
 cases c;exact ⟨d,(zY b).1,a,b⟩
theorem yX {k:Nat} {A:Option Addr} {cap:Nat} (h:w.ownsRow base e size (.slice A n cap) n xs) (d:k≤n):w.ownsRow base e size (.slice A k cap) k (xs.take (k*size)):=by
 refine ⟨by rw [List.length_take,h.1];exact Nat.min_eq_left (Nat.mul_le_mul_right _ d),?_⟩
 rcases h.2 with ⟨b,f⟩ | ⟨g,c,a,b,m,o,f,i,j,l⟩
 ·left
  cases b;have:k=0:=by omega
  subst this;exact ⟨rfl,rfl⟩
 right
 cases b;refine ⟨g,cap,a,rfl,m,o,by omega,i,j,?_⟩
 rw [←l,List.take_take,Nat.min_eq_left (Nat.mul_le_mul_right _ d)]
theorem mG {A:Option Addr} {cap:Nat} {L:List Int} {k:Nat} (h:w.ownsRow base 3 1 (.slice A L.length cap) L.length (aE L)) (c:k<L.length):∃ g,A=some ⟨g,0,none⟩∧w.cell? ⟨g,k,none⟩=some (.int .i64 (L.getD k 0)):=by
 obtain ⟨A',a,e,f⟩:=rA h;cases e;obtain ⟨_,d | ⟨b,rfl,_,i⟩⟩:=f
 ·subst d;cases c
 exact ⟨b,rfl,i k c⟩
end
structure BldV (N p:Nat) (AN:Option Addr) (cN:Nat) (AR:Option Addr) (cR:Nat) (AW:Option Addr) (cW:Nat) (b:Bld) (w:World):Prop where
 low:p<N
 blk:w.heap[p]?=some (.cells #[.slice AN b.nodes.length cN,.slice AR b.ready.length cR,.slice AW b.waiting.length cW] 270 (0,0))
 nod:w.ownsRow N 142 5 (.slice AN b.nodes.length cN) b.nodes.length (aK b.nodes)
 rdy:w.ownsRow N 3 1 (.slice AR b.ready.length cR) b.ready.length (aE b.ready)
 wai:w.ownsRow N 3 1 (.slice AW b.waiting.length cW) b.waiting.length (aE b.waiting)
 two:∀ g,(Value.slice AR b.ready.length cR).ownBlock=some g→(Value.slice AW b.waiting.length cW).ownBlock≠some g
def dh (N p:Nat) (b:Bld) (w:World):Prop := ∃ AN cN AR cR AW cW,BldV N p AN cN AR cR AW cW b w
theorem lv:(142:Nat)≠3:=by decide
section
variable {N p cN cR cW:Nat} {AN AR AW:Option Addr} {b:Bld} {w w' w2 W:World}
theorem BldV.c0 (h:BldV N p AN cN AR cR AW cW b w):w.cell? ⟨p,0,none⟩=some (.slice AN b.nodes.length cN):=by simp [World.cell?,h.blk]
theorem BldV.c1 (h:BldV N p AN cN AR cR AW cW b w):w.cell? ⟨p,1,none⟩=some (.slice AR b.ready.length cR):=by simp [World.cell?,h.blk]
theorem BldV.c2 (h:BldV N p AN cN AR cR AW cW b w):w.cell? ⟨p,2,none⟩=some (.slice AW b.waiting.length cW):=by simp [World.cell?,h.blk]
theorem BldV.fr (h:BldV N p AN cN AR cR AW cW b w) (j:Nat):w.frozen? ⟨p,j,none⟩=false:=by simp [World.frozen?,h.blk]
theorem BldV.lt (h:BldV N p AN cN AR cR AW cW b w):p<w.heap.size:=(zY h.blk).1
theorem BldV.stay (h:BldV N p AN cN AR cR AW cW b w) (e:∀ k,k<w.heap.size→(k=p∨N≤k)→w'.heap[k]?=w.heap[k]?):BldV N p AN cN AR cR AW cW b w':=by
 refine ⟨h.low,(e p h.lt (Or.inl rfl)).trans h.blk,be h.nod ?_,be h.rdy ?_,be h.wai ?_,h.two⟩
 ·intro g d;obtain ⟨a,c,-⟩:=aC h.nod d;exact e g c (Or.inr a)
 ·intro g d;obtain ⟨a,c,-⟩:=aC h.rdy d;exact e g c (Or.inr a)
 intro g d;obtain ⟨a,c,-⟩:=aC h.wai d;exact e g c (Or.inr a)
theorem BldV.later (h:BldV N p AN cN AR cR AW cW b w) (a:Bl w w'):BldV N p AN cN AR cR AW cW b w':=h.stay fun k c _=>a.block k c
theorem ia {w:World} {p T:Nat} {x y z v:Value} (j:Nat) (h:w.heap[p]?=some (.cells #[x,y,z] T (0,0))):(w.setCell ⟨p,j,none⟩ v).heap[p]?=some (.cells (#[x,y,z].setIfInBounds j v) T (0,0)):=by
 rw [setCell_eq_setRow w p j _ _ (0,0) _ h,setRow_heap w p _ _ _ _ h]
theorem BldV.ready {L:List Int} {g c:Nat} (h:BldV N p AN cN AR cR AW cW b w) (B:N≤w.heap.size) (j:Bl w W) (l:W.grownBy w2 (Value.slice AR b.ready.length cR).ownBlock)
  (x:w2.ownsRow N 3 1 (.slice (some ⟨g,0,none⟩) L.length c) L.length (aE L)) (i:(Value.slice AR b.ready.length cR).ownBlock=some g∨g=W.heap.size) :
  BldV N p AN cN (some ⟨g,0,none⟩) c AW cW ⟨b.nodes,L,b.waiting⟩ (w2.setCell ⟨p,1,none⟩ (.slice (some ⟨g,0,none⟩) L.length c))∧Kept N (fun k=>k=p) w (w2.setCell ⟨p,1,none⟩ (.slice (some ⟨g,0,none⟩) L.length c)):=by
 have a:∀ k,k<w.heap.size→(Value.slice AR b.ready.length cR).ownBlock≠some k→w2.heap[k]?=w.heap[k]?:=fun k o C=>(l.block k (zW o j.size) (fun e=>C e.symm)).trans (j.block k o)
 have t:(Value.slice AR b.ready.length cR).ownBlock≠some p:=fun e=>by have:=(aC h.rdy e).1;have:=h.low;omega
 have n:w2.heap[p]?=_:=(a p h.lt t).trans h.blk;have v:=h.low;have f:∀ k,N≤k→(w2.setCell ⟨p,1,none⟩ (.slice (some ⟨g,0,none⟩) L.length c)).heap[k]?=w2.heap[k]?:=fun k o=>ao _ _ _ _ _ (by omega)
 refine ⟨⟨h.low,?_,be h.nod ?_,be x ?_,be h.wai ?_,?_⟩,?_⟩
 ·rw [ia 1 n];rfl
 ·intro g' d
  obtain ⟨q,r,z,A⟩:=aC h.nod d;rw [f g' q];refine a g' r fun e=>?_
  obtain ⟨-,-,u,s⟩:=aC h.rdy e;rw [A] at s;simp only [Option.some.injEq,Obj.cells.injEq] at s;exact lv s.2.1
 ·intro g' d
  exact f g' (aC x d).1
 ·intro g' d
  obtain ⟨q,r,-⟩:=aC h.wai d;rw [f g' q];exact a g' r fun e=>h.two g' e d
 ·intro g' d y
  have e:g=g':=by simpa [Value.ownBlock] using d
  subst e
  rcases i with i | i
  ·exact h.two g i y
  have:=(aC h.wai y).2.1;have:=j.size
  omega
 have m:Kept N (fun k=>k=p) w w2:=⟨l.os.trans j.os,l.tape.trans j.tape,l.output.trans j.output,zV j.size l.size,fun k o _=>a k (by omega) fun e=>by have:=(aC h.rdy e).1;omega⟩
 have D:p<w2.heap.size:=(zY n).1;exact m.trans (dZ (dx (cZ w2 _)) (zV B m.size) rfl)
theorem BldV.wait {L:List Int} {g c:Nat} (h:BldV N p AN cN AR cR AW cW b w) (A:N≤w.heap.size) (j:Bl w W) (l:W.grownBy w2 (Value.slice AW b.waiting.length cW).ownBlock)
  (x:w2.ownsRow N 3 1 (.slice (some ⟨g,0,none⟩) L.length c) L.length (aE L)) (i:(Value.slice AW b.waiting.length cW).ownBlock=some g∨g=W.heap.size) :
  BldV N p AN cN AR cR (some ⟨g,0,none⟩) c ⟨b.nodes,b.ready,L⟩ (w2.setCell ⟨p,2,none⟩ (.slice (some ⟨g,0,none⟩) L.length c))∧Kept N (fun k=>k=p) w (w2.setCell ⟨p,2,none⟩ (.slice (some ⟨g,0,none⟩) L.length c)):=by
 have d:∀ k,k<w.heap.size→(Value.slice AW b.waiting.length cW).ownBlock≠some k→w2.heap[k]?=w.heap[k]?:=fun k n B=>(l.block k (zW n j.size) (fun e=>B e.symm)).trans (j.block k n)
 have t:(Value.slice AW b.waiting.length cW).ownBlock≠some p:=fun e=>by have:=(aC h.wai e).1;have:=h.low;omega
 have s:w2.heap[p]?=_:=(d p h.lt t).trans h.blk;have v:=h.low;have f:∀ k,N≤k→(w2.setCell ⟨p,2,none⟩ (.slice (some ⟨g,0,none⟩) L.length c)).heap[k]?=w2.heap[k]?:=fun k n=>ao _ _ _ _ _ (by omega)
 refine ⟨⟨h.low,?_,be h.nod ?_,be h.rdy ?_,be x ?_,?_⟩,?_⟩
 ·rw [ia 2 s];rfl
 ·intro g' a
  obtain ⟨o,q,y,z⟩:=aC h.nod a;rw [f g' o];refine d g' q fun e=>?_
  obtain ⟨-,-,u,r⟩:=aC h.wai e;rw [z] at r;simp only [Option.some.injEq,Obj.cells.injEq] at r;exact lv r.2.1
 ·intro g' a
  obtain ⟨o,q,-⟩:=aC h.rdy a;rw [f g' o];exact d g' q fun e=>h.two g' a e
 ·intro g' a
  exact f g' (aC x a).1
 ·intro g' a C
  have e:g=g':=by simpa [Value.ownBlock] using C
  subst e
  rcases i with i | i
  ·exact h.two g a i
  have:=(aC h.rdy a).2.1;have:=j.size
  omega
 have m:Kept N (fun k=>k=p) w w2:=⟨l.os.trans j.os,l.tape.trans j.tape,l.output.trans j.output,zV j.size l.size,fun k n _=>d k (by omega) fun e=>by have:=(aC h.wai e).1;omega⟩
 exact m.trans (dZ (dx (cZ w2 _)) (zV A m.size) rfl)
theorem BldV.node {L:List Nd} {g c:Nat} (h:BldV N p AN cN AR cR AW cW b w) (A:N≤w.heap.size) (j:Bl w W) (m:W.grownBy w2 (Value.slice AN b.nodes.length cN).ownBlock)
  (z:w2.ownsRow N 142 5 (.slice (some ⟨g,0,none⟩) L.length c) L.length (aK L)) :
  BldV N p (some ⟨g,0,none⟩) c AR cR AW cW ⟨L,b.ready,b.waiting⟩ (w2.setCell ⟨p,0,none⟩ (.slice (some ⟨g,0,none⟩) L.length c))∧Kept N (fun k=>k=p) w (w2.setCell ⟨p,0,none⟩ (.slice (some ⟨g,0,none⟩) L.length c)):=by
 have a:∀ k,k<w.heap.size→(Value.slice AN b.nodes.length cN).ownBlock≠some k→w2.heap[k]?=w.heap[k]?:=fun k q B=>(m.block k (zW q j.size) (fun e=>B e.symm)).trans (j.block k q)
 have v:(Value.slice AN b.nodes.length cN).ownBlock≠some p:=fun e=>by have:=(aC h.nod e).1;have:=h.low;omega
 have u:w2.heap[p]?=_:=(a p h.lt v).trans h.blk;have y:=h.low;have i:∀ k,N≤k→(w2.setCell ⟨p,0,none⟩ (.slice (some ⟨g,0,none⟩) L.length c)).heap[k]?=w2.heap[k]?:=fun k q=>ao _ _ _ _ _ (by omega)
 have o:∀ g' d,w.heap[g']?=some (.cells d 3 (0,0))→(Value.slice AN b.nodes.length cN).ownBlock≠some g':=by
  intro g' d l e;obtain ⟨-,-,x,t⟩:=aC h.nod e;rw [l] at t;simp only [Option.some.injEq,Obj.cells.injEq] at t;exact lv t.2.1.symm
 refine ⟨⟨h.low,?_,be z ?_,be h.rdy ?_,be h.wai ?_,h.two⟩,?_⟩
 ·rw [ia 0 u];rfl
 ·intro g' f
  exact i g' (aC z f).1
 ·intro g' f
  obtain ⟨r,s,d,l⟩:=aC h.rdy f;rw [i g' r];exact a g' s (o g' d l)
 ·intro g' f
  obtain ⟨r,s,d,l⟩:=aC h.wai f;rw [i g' r];exact a g' s (o g' d l)
 have n:Kept N (fun k=>k=p) w w2:=⟨m.os.trans j.os,m.tape.trans j.tape,m.output.trans j.output,zV j.size m.size,fun k q _=>a k (by omega) fun e=>by have:=(aC h.nod e).1;omega⟩
 exact n.trans (dZ (dx (cZ w2 _)) (zV A n.size) rfl)
theorem BldV.readyCut {k:Nat} (h:BldV N p AN cN AR cR AW cW b w) (g:N≤w.heap.size) (i:k≤b.ready.length) :
  BldV N p AN cN AR cR AW cW ⟨b.nodes,b.ready.take k,b.waiting⟩ (w.setCell ⟨p,1,none⟩ (.slice AR k cR))∧Kept N (fun k=>k=p) w (w.setCell ⟨p,1,none⟩ (.slice AR k cR)):=by
 have e:(b.ready.take k).length=k:=by rw [List.length_take];omega
 have f:=h.low;have c:∀ j,N≤j→(w.setCell ⟨p,1,none⟩ (.slice AR k cR)).heap[j]?=w.heap[j]?:=fun j m=>ao _ _ _ _ _ (by omega)
 refine ⟨⟨h.low,?_,be h.nod ?_,?_,be h.wai ?_,?_⟩,dZ (dx (cZ w _)) g rfl⟩
 ·rw [ia 1 h.blk];simp [e]
 ·intro g' a;exact c g' (aC h.nod a).1
 ·have d:=yX h.rdy i
  rw [Nat.mul_one] at d;have l:(aE b.ready).take k=aE (b.ready.take k):=by simp [aE,List.map_take]
  rw [l] at d
  show World.ownsRow _ _ _ _ (.slice AR (b.ready.take k).length cR) (b.ready.take k).length _
  rw [e];exact be d fun g' a=>c g' (aC d a).1
 ·intro g' a;exact c g' (aC h.wai a).1
 intro g' a;refine h.two g' ?_;cases AR
 ·cases a
 exact a
theorem BldV.waitCut {k:Nat} (h:BldV N p AN cN AR cR AW cW b w) (i:N≤w.heap.size) (l:k≤b.waiting.length) :
  BldV N p AN cN AR cR AW cW ⟨b.nodes,b.ready,b.waiting.take k⟩ (w.setCell ⟨p,2,none⟩ (.slice AW k cW))∧Kept N (fun k=>k=p) w (w.setCell ⟨p,2,none⟩ (.slice AW k cW)):=by
 have e:(b.waiting.take k).length=k:=by rw [List.length_take];omega
 have f:=h.low;have c:∀ j,N≤j→(w.setCell ⟨p,2,none⟩ (.slice AW k cW)).heap[j]?=w.heap[j]?:=fun j n=>ao _ _ _ _ _ (by omega)
 refine ⟨⟨h.low,?_,be h.nod ?_,be h.rdy ?_,?_,?_⟩,dZ (dx (cZ w _)) i rfl⟩
 ·rw [ia 2 h.blk];simp [e]
 ·intro g' a;exact c g' (aC h.nod a).1
 ·intro g' a;exact c g' (aC h.rdy a).1
 ·have d:=yX h.wai l
  rw [Nat.mul_one] at d;have m:(aE b.waiting).take k=aE (b.waiting.take k):=by simp [aE,List.map_take]
  rw [m] at d
  show World.ownsRow _ _ _ _ (.slice AW (b.waiting.take k).length cW) (b.waiting.take k).length _
  rw [e];exact be d fun g' a=>c g' (aC d a).1
 intro g' a g;refine h.two g' a ?_;cases AW
 ·cases g
 exact g
end
end Go.Proofs.YthlhjjabkgpenaaGreatDoor
