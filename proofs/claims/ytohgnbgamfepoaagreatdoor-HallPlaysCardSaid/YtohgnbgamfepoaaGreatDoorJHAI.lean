/- What the reader of pac -/
import Derived.Defers
import Derived.Recover
import Derived.Laws.EntriesVeiled
import Derived.Test.YtohgnbgamfepoaaGreatDoorJHAH
namespace Go.Proofs.YtohgnbgamfepoaaGreatDoor
open ChangeShapes WideShapes ChangeAt RowKit
set_option maxRecDepth 99999
set_option maxHeartbeats 0
section
variable {S:Type} {s:ByteArray} {tk:S→ByteArray→S} {r r1 r2:Rd S} {f:Nat}
theorem uB (h : ¬ r.at'<s.size):dq s tk f r=(r,true):=by
 cases f with
 | zero=>rfl
 | succ k=>rw [dq,if_neg h]
theorem uD (h:r.at'<s.size) (a:(cM s tk r).2=false):dq s tk (f+1) r=((cM s tk r).1,false):=by rw [dq,if_pos h,if_neg (by rw [a];decide)]
theorem uC (h:r.at'<s.size) (a:(cM s tk r).2=true) (b:(aD s tk (cM s tk r).1).2=false):dq s tk (f+1) r=((aD s tk (cM s tk r).1).1,false):=by rw [dq,if_pos h,if_pos a,if_neg (by rw [b];decide)]
theorem AM (h:r.at'<s.size) (a:(cM s tk r).2=true) (b:(aD s tk (cM s tk r).1).2=true):dq s tk (f+1) r=dq s tk f (aD s tk (cM s tk r).1).1:=by rw [dq,if_pos h,if_pos a,if_pos b]
theorem Ei (h:(aD s tk r).2=false):iv s tk r=((aD s tk r).1,false):=by rw [iv,if_neg (by rw [h];decide)]
theorem tG (h:(aD s tk r).2=true) (a:dq s tk s.size (aD s tk r).1=(r1,false)):iv s tk r=(r1,false):=by rw [iv,if_pos h,a,if_neg (fun e=>Bool.noConfusion e)]
theorem G5 (h:(aD s tk r).2=true) (a:dq s tk s.size (aD s tk r).1=(r1,true)):iv s tk r=(r1,decide (r1.opn=0)):=by rw [iv,if_pos h,a,if_pos rfl]
theorem IL (a:(cM s tk r).2=true):(cM s tk r).1.at'=r.at'+1:=by
 unfold cM at *
 split
 ·rename_i h;rw [if_pos h] at a;cases a
 rfl
theorem uY:∀ (f:Nat) (r:Rd S),r.at'≤(opensR s tk f r).at'
 | 0,r=>zT
 | f+1,r=>by
  rw [opensR]
  split
  ·exact zV (by simp [wordR]) (uY f _)
  exact zT
theorem mb:∀ (f:Nat) (r:Rd S),r.at'≤(bw s tk f r).at'
 | 0,r=>zT
 | f+1,r=>by
  rw [bw]
  split
  ·exact zV (by simp [wordR]) (mb f _)
  exact zT
theorem px (r:Rd S):r.at'≤(aD s tk r).1.at':=by
 have a:r.at'≤(bK s tk r).at':=uY _ r;unfold aD
 split
 ·exact zV (zV a (by simp [wordR])) (mb _ _)
 split
 ·exact zV (zV a (by simp [wordR])) (mb _ _)
 exact a
end
theorem Gc {S:Type} (T:Tkr S) (U:T.Ok) (q:Nat) (s:ByteArray) (r:Rd S) (w:World) (hs:s.size≤T.M) (P:q<T.N) (h:q≠T.p) (hR:RdS T w q s false r) :
  Calls Tryz.prog 243 #[.pointer (some ⟨q,0,none⟩)] w fun e w'=>iS T q s true w (iv s T.tk r) e w':=by
 have HR:=aa hR;have R:Hid T.Ok:=U;have hsm:=U.small;have h0:=m7 T U q s r w hs P h hR;clear hR U
 go_enter Tryz.func243,Tryz.ntmps243
 go_wp2_with fail;refine h0.mono ?_;rintro e w1 ⟨x,⟨E,rfl,H⟩ | ⟨E,rfl⟩⟩
 case inr =>
  have o:Hid (iv s T.tk r=((aD s T.tk r).1,false)):=Ei E;clear E h0;go_wp2_with fail;exact ⟨rfl,iS.no o.out x⟩
 case inl =>
  have V:=aa E;have D:=aa H;have Y:=aa x;clear E H x h0;obtain ⟨r1,z⟩:=az ((aD s T.tk r).1);have X:=aa z;rw [z] at D;clear z;go_wp2_with fail
  go_loopg [] s.size (fun g wj => ∃ (a:Rd S),dq s T.tk g a=dq s T.tk s.size r1∧s.size-a.at'≤g∧RdS T wj q s true a∧Kept T.N (fun k=>k=T.p∨k=q) w wj)
  case atStart=>exact ⟨r1,rfl,by omega,D.out,Y.out⟩
  case round =>
   obtain ⟨a,J,hg5,f,L⟩:=hrel;have Q:=aa J;have j:=aa f;have C:=aa L;have c0:=f.rd.c0;have c1:=f.rd.c1;have hinn5:=f.inn;clear J f L
   by_cases n:a.at'<s.size
   ·have hli:(a.at':Int)<(s.size:Int):=by omega
    obtain ⟨g',K⟩:∃ g',gk=g'+1:=⟨gk-1,by omega⟩
    have B:=aa K;clear K;go_wp2_with fail
    go_quiet (fail)
    rename_i nq
    have b:Bl wr (wr.drewN nq):=ac (zS) nq;have c:=aa (j.out.later R.out P h b);have d:=aa (C.out.trans (aw b j.out.room));have A:=Gu T R.out q s a (wr.drewN nq) hs P h c.out;clear b;go_wp2_with fail;refine A.mono ?_;rintro e w2 ⟨l,⟨F,rfl,v⟩ | ⟨F,rfl⟩⟩
    case inr =>
     have o:Hid (iv s T.tk r=((cM s T.tk a).1,false)):=by
      refine tG V.out ?_;rw [X.out,←Q.out,B.out,uD n F]
     have i:=d.out.trans l;clear F A l;go_wp2_with fail;exact ⟨rfl,iS.no o.out i⟩
    case inl =>
     have W:=aa F;have i:=aa (d.out.trans l);have HR2:=aa v;have y:=m7 T R.out q s (cM s T.tk a).1 w2 hs P h v;clear F A l v;go_wp2_with fail;refine y.mono ?_;rintro e w3 ⟨m,⟨G,rfl,I⟩ | ⟨G,rfl⟩⟩
     case inr =>
      have o:Hid (iv s T.tk r=((aD s T.tk (cM s T.tk a).1).1,false)):=by
       refine tG V.out ?_;rw [X.out,←Q.out,B.out,uC n W.out G]
      have u:=i.out.trans m;clear G y m;go_wp2_with fail;exact ⟨rfl,iS.no o.out u⟩
     case inl =>
      have HN:Hid (dq s T.tk (g'+1) a=dq s T.tk g' (aD s T.tk (cM s T.tk a).1).1):=AM n W.out G;have u:=aa (i.out.trans m);have Z:=aa I;have hat:=px (s:=s) (tk:=T.tk) (cM s T.tk a).1;rw [IL W.out] at hat;clear G y m I;go_wp2_with fail
      go_roundg g'
      case measure=>have:=B.out;omega
      case rel=>exact ⟨_,by rw [←HN.out,←B.out,Q.out],by have:=B.out;omega,Z.out,u.out⟩
   have hli:(s.size:Int)≤(a.at':Int):=by omega
   have HL:Hid (dq s T.tk s.size (aD s T.tk r).1=(a,true)):=by show _=_;rw [X.out,←Q.out,uB n]
   have o:Hid (iv s T.tk r=(a,decide (a.opn=0))):=G5 V.out HL.out;go_wp2_with fail
   go_quiet (fail)
   rename_i nq
   have b:Bl wr (wr.drewN nq):=ac (zS) nq;have c:=aa (j.out.later R.out P h b);have d:=aa (C.out.trans (aw b j.out.room));have d2:=c.out.rd.c2;clear b
   by_cases ho:a.opn=0
   ·have O:(a.opn:Int)=0:=by omega
    have t:Hid (iv s T.tk r=(a,true)):=by show _=_;rw [o.out,decide_eq_true ho]
    rw [O] at d2;go_wp2_with fail
    first | go_end0 | skip
    exact iS.ok t.out d.out c.out
   have O:0<(a.opn:Int):=by omega
   have t:Hid (iv s T.tk r=(a,false)):=by show _=_;rw [o.out,decide_eq_false ho]
   go_wp2_with fail;refine (qc q a.at' a.opn s T.fv _ c.out.rd).mono ?_;rintro e w5 ⟨rfl,hb5⟩;go_wp2_with fail;exact ⟨rfl,iS.no t.out (d.out.trans (aw hb5 c.out.room))⟩
theorem Jj (a:Nat) (w:World):(Instr.typeAssert (.iface 308 (.int .i64 a)) 20 308 true).run Tryz.prog w=.ok (.tuple #[.int .i64 a,.bool true]) w:=by
 simp [Instr.typeAssert,run_underlying Tryz.underlying308]
theorem nu (pa pe:Addr) (a:Nat) (x y:Value) (w:World) (h:w.cell? pa=some x) (j:w.frozen? pa=false) (b:w.cell? pe=some y) (f:w.frozen? pe=false) (c:pa≠pe) :
  CallsD Tryz.prog 242 #[.pointer (some pa),.pointer (some pe)] (.panicking (Kp a)) w fun e u' w' =>
   e=.returned (.tuple #[])∧u'=.panicking [{ v:=.iface 308 (.int .i64 a),recovered:=true }]∧w'=(w.setCell pa (.int .i64 a)).setCell pe (.iface 63 (.int .i64 2)):=by
 unfold Kp;refine callsD_of_wpS Tryz.func242 rfl fun c₀ cs d=>?_
 apply wpS_seq;apply wpS_region
 simp [wpOpsS,go_sem,recoverD,d,Tryz.ntmps242,Exit.thenS]
 refine wpS_of_wp ?_
 change Code.wp _ _ _ { tmps := #[.pointer (some pa),.pointer (some pe),undef,undef,undef,.iface 308 (.int .i64 a),undef,undef,undef,undef,undef,undef,undef],defers:=[] } w
 have i:=Jj a;have g:(w.setCell pa (.int .i64 a)).cell? pe=some y:=(World.cell?_setCell_other _ _ _ _ c).trans b;go_wp2
 simp [bodyPostS,results,Tryz.results242]
theorem wE (pa pe:Addr) (w:World) :
  CallsD Tryz.prog 242 #[.pointer (some pa),.pointer (some pe)] .returning w fun e u' w'=>e=.returned (.tuple #[])∧u'=.returning∧w'=w:=by
 refine callsD_of_wpS Tryz.func242 rfl fun c₀ cs a=>?_
 apply wpS_seq;apply wpS_region
 simp [wpOpsS,go_sem,recoverD,a,Tryz.ntmps242,Exit.thenS]
 refine wpS_of_wp ?_
 change Code.wp _ _ _ { tmps := #[.pointer (some pa),.pointer (some pe),undef,undef,undef,.nilIface,undef,undef,undef,undef,undef,undef,undef],defers:=[] } w
 go_wp2;cases c₀
 simp_all [bodyPostS,results,Tryz.results242]
def ga (w:World) (s:ByteArray) (fv:Value):World:=((w.alloc (.cells #[.int .i64 0] 3)).alloc (.cells #[.nilIface] 31)).alloc (.cells #[.string s,.int .i64 0,.int .i64 0,fv] 310)
theorem yA (w:World) (s:ByteArray) (fv:Value):(ga w s fv).heap.size=w.heap.size+3:=by unfold ga;simp
theorem vA (w:World) (s:ByteArray) (fv:Value):Bl w (ga w s fv):=by unfold ga;go_grown
theorem Gf (w:World) (s:ByteArray) (fv:Value):cZ (ga w s fv) (w.heap.size+1+1) s 0 0 fv:=by
 unfold cZ ga;have h:=heap_alloc_new ((w.alloc (.cells #[.int .i64 0] 3)).alloc (.cells #[.nilIface] 31)) (.cells #[.string s,.int .i64 0,.int .i64 0,fv] 310)
 simpa using h
theorem Ge (w:World) (s:ByteArray) (fv:Value):(ga w s fv).heap[w.heap.size]?=some (.cells #[.int .i64 0] 3 (0,0)):=by
 unfold ga;rw [heap_alloc_old _ _ (by simp;omega),heap_alloc_old _ _ (by simp)]
 exact heap_alloc_new _ _
theorem Dc (w:World) (s:ByteArray) (fv:Value):(ga w s fv).heap[w.heap.size+1]?=some (.cells #[.nilIface] 31 (0,0)):=by
 unfold ga;rw [heap_alloc_old _ _ (by simp)]
 have h:=heap_alloc_new (w.alloc (.cells #[.int .i64 0] 3)) (.cells #[.nilIface] 31)
 simpa using h
theorem sK {w:World} {q T:Nat} {v:Value} (h:w.heap[q]?=some (.cells #[v] T (0,0))):w.cell? ⟨q,0,none⟩=some v∧w.frozen? ⟨q,0,none⟩=false:=⟨by simp [World.cell?,h],by simp [World.frozen?,h]⟩
theorem Cc {S:Type} (T:Tkr S) (J:T.Ok) (s:ByteArray) (st:S) (w:World) (hs:s.size≤T.M) (hN:T.N=w.heap.size+3) (hp:T.p<w.heap.size) (hI:T.I st w) (hG:T.G 0 0 false st) (x:Rd S×Bool) (hx:iv s T.tk ⟨0,0,st⟩=x) :
  Calls Tryz.prog 210 #[.string s,T.fv] w fun e w'=>(Kept w.heap.size (fun k=>k=T.p) w w'∧T.N≤w'.heap.size)∧((x.2=true∧e=.returned (.tuple #[.int .i64 0,.nilIface])∧T.I x.1.st w'∧T.G x.1.at' x.1.opn true x.1.st)∨(x.2=false∧e=.returned (.tuple #[.int .i64 (x.1.at':Int),errV 2]))):=by
 have hmf:∀ (fn:Fn) (first cap:Array Value) (w:World),(Instr.makeFunc fn first cap).run Tryz.prog w=.ok (.func fn first cap) w:=fun _ _ _ _=>rfl
 have m:=vA w s T.fv;have hz:=yA w s T.fv;have hq:w.heap.size+1+1<T.N:=by omega
 have H:w.heap.size+1+1≠T.p:=by omega
 have C:RdS T (ga w s T.fv) (w.heap.size+1+1) s false ⟨0,0,st⟩:=⟨Gf w s T.fv,J.stay _ _ _ _ hq H hI (iY m),hG,zU,zT,by omega⟩
 have a:=Gc T J (w.heap.size+1+1) s ⟨0,0,st⟩ (ga w s T.fv) hs hq H C;rw [hx] at a;have o:=aa m;have L:Hid ((ga w s T.fv).heap[w.heap.size]?=some (.cells #[.int .i64 0] 3 (0,0))):=Ge w s T.fv;have O:Hid ((ga w s T.fv).heap[w.heap.size+1]?=some (.cells #[.nilIface] 31 (0,0))):=Dc w s T.fv;have Z:=aa hz;have Y:Hid T.Ok:=J;clear m hz C hI hG J;obtain ⟨W,hW⟩:=az (ga w s T.fv);rw [hW] at a o L O Z;have R:w.heap.size<T.N:=by omega
 have U:w.heap.size+1<T.N:=by omega
 have D:w.heap.size≠T.p:=by omega
 have E:w.heap.size+1≠T.p:=by omega
 have X:Hid (∀ (w1:World) (u v:Value),w1.cell? ⟨w.heap.size,0,none⟩=some (.int .i64 0)→w1.cell? ⟨w.heap.size+1,0,none⟩=some .nilIface→Kept T.N (fun k=>k=T.p∨k=w.heap.size+1+1) W w1→((w1.setCell ⟨w.heap.size,0,none⟩ u).setCell ⟨w.heap.size+1,0,none⟩ v).cell? ⟨w.heap.size,0,none⟩=some u∧((w1.setCell ⟨w.heap.size,0,none⟩ u).setCell ⟨w.heap.size+1,0,none⟩ v).cell? ⟨w.heap.size+1,0,none⟩=some v∧Kept w.heap.size (fun k=>k=T.p) w ((w1.setCell ⟨w.heap.size,0,none⟩ u).setCell ⟨w.heap.size+1,0,none⟩ v)∧T.N≤((w1.setCell ⟨w.heap.size,0,none⟩ u).setCell ⟨w.heap.size+1,0,none⟩ v).heap.size):=by
  intro w1 u v z A d;refine ⟨?_,?_,⟨?_,?_,?_,?_,?_⟩,?_⟩
  ·rw [World.cell?_setCell_other _ _ _ _ (by simp)]
   exact World.cell?_setCell_same _ _ _ z
  ·refine World.cell?_setCell_same _ _ _ (u:=.nilIface) ?_
   rw [World.cell?_setCell_other _ _ _ _ (by simp)]
   exact A
  ·exact (show _ from d.os).trans o.out.os
  ·exact (show _ from d.tape).trans o.out.tape
  ·exact (show _ from d.output).trans o.out.output
  ·have:=d.size;have:=o.out.size;simp;omega
  ·intro k b hk2
   rw [ar _ _ _ _ _ (by omega),ar _ _ _ _ _ (by omega),d.block k (by omega) (by omega)]
   exact o.out.block k b
  have:=d.size;have:=Z.out;simp;omega
 unfold ga Tkr.fv at hW;unfold Tkr.fv
 go_enter_defers Tryz.func210,Tryz.ntmps210
 go_wp2_with fail;refine a.mono ?_;rintro e w1 ⟨b,⟨y,rfl,B⟩ | ⟨y,rfl⟩⟩
 case inl =>
  have n:∀ k,k<T.N→k≠T.p→k≠w.heap.size+1+1→w1.heap[k]?=W.heap[k]?:=fun k z A d=>b.block k z (fun h=>h.elim A d)
  have P:=sK ((n w.heap.size (by omega) (by omega) (by omega)).trans L.out)
  have Q:=sK ((n (w.heap.size+1) (by omega) (by omega) (by omega)).trans O.out)
  obtain ⟨g,r⟩:=P;obtain ⟨i,t⟩:=Q;have K:=aa y;have q:=aa B;have l:=aa b;clear y B b a n;go_wp2_with fail;refine leaves_cons (f:=242) (args := #[.pointer (some ⟨w.heap.size,0,none⟩),.pointer (some ⟨w.heap.size+1,0,none⟩)]) (by simp) (by simp [go_sem]) ?_
  refine (wE ⟨w.heap.size,0,none⟩ ⟨w.heap.size+1,0,none⟩ _).mono ?_;rintro e u' w'' ⟨rfl,rfl,rfl⟩;obtain ⟨r1,r2,V⟩:=X.out w1 (.int .i64 0) .nilIface g i l.out;have r4:=Y.out.stay _ _ _ _ U E (Y.out.stay _ _ _ _ R D q.out.mem (dE (j:=0) (v:=.int .i64 0) (dg w1 (some w.heap.size)))) (dE (j:=0) (v:=.nilIface) (dg _ (some (w.heap.size+1))));have c:(results Tryz.f210 #[.string s,.func (.func T.F) T.first #[],undef,undef,.pointer (some ⟨w.heap.size,0,none⟩),.pointer (some ⟨w.heap.size+1,0,none⟩),.pointer (some ⟨w.heap.size+1+1,0,none⟩),.func (.func 242) #[] #[.pointer (some ⟨w.heap.size,0,none⟩),.pointer (some ⟨w.heap.size+1,0,none⟩)],.string s,.func (.func T.F) T.first #[],.agg #[.string s,.int .i64 0,.int .i64 0,.func (.func T.F) T.first #[]],.tuple #[]]).run Tryz.prog ((w1.setCell ⟨w.heap.size,0,none⟩ (.int .i64 0)).setCell ⟨w.heap.size+1,0,none⟩ .nilIface)=.ok (.tuple #[.int .i64 0,.nilIface]) ((w1.setCell ⟨w.heap.size,0,none⟩ (.int .i64 0)).setCell ⟨w.heap.size+1,0,none⟩ .nilIface):=by
   simp [results,Tryz.results210,go_sem,r1,r2]
  exact ⟨_,c,V,Or.inl ⟨K.out,rfl,r4,q.out.good⟩⟩
 case inr =>
  have n:∀ k,k<T.N→k≠T.p→k≠w.heap.size+1+1→w1.heap[k]?=W.heap[k]?:=fun k z A d=>b.block k z (fun h=>h.elim A d)
  have P:=sK ((n w.heap.size (by omega) (by omega) (by omega)).trans L.out)
  have Q:=sK ((n (w.heap.size+1) (by omega) (by omega) (by omega)).trans O.out)
  obtain ⟨g,r⟩:=P;obtain ⟨i,t⟩:=Q;have K:=aa y;have l:=aa b;clear y b a n;go_wp2_with fail;refine leaves_cons (f:=242) (args := #[.pointer (some ⟨w.heap.size,0,none⟩),.pointer (some ⟨w.heap.size+1,0,none⟩)]) (by simp) (by simp [go_sem]) ?_
  refine (nu ⟨w.heap.size,0,none⟩ ⟨w.heap.size+1,0,none⟩ x.1.at' _ _ w1 g r i t (by simp)).mono ?_
  rintro e u' w'' ⟨rfl,rfl,rfl⟩;obtain ⟨r1,r2,V⟩:=X.out w1 (.int .i64 x.1.at') (.iface 63 (.int .i64 2)) g i l.out;have c:(results Tryz.f210 #[.string s,.func (.func T.F) T.first #[],undef,undef,.pointer (some ⟨w.heap.size,0,none⟩),.pointer (some ⟨w.heap.size+1,0,none⟩),.pointer (some ⟨w.heap.size+1+1,0,none⟩),.func (.func 242) #[] #[.pointer (some ⟨w.heap.size,0,none⟩),.pointer (some ⟨w.heap.size+1,0,none⟩)],.string s,.func (.func T.F) T.first #[],.agg #[.string s,.int .i64 0,.int .i64 0,.func (.func T.F) T.first #[]],undef]).run Tryz.prog ((w1.setCell ⟨w.heap.size,0,none⟩ (.int .i64 x.1.at')).setCell ⟨w.heap.size+1,0,none⟩ (.iface 63 (.int .i64 2)))=.ok (.tuple #[.int .i64 (x.1.at':Int),.iface 63 (.int .i64 2)]) ((w1.setCell ⟨w.heap.size,0,none⟩ (.int .i64 x.1.at')).setCell ⟨w.heap.size+1,0,none⟩ (.iface 63 (.int .i64 2))):=by
   simp [results,Tryz.results210,go_sem,r1,r2]
  exact ⟨_,c,V,Or.inr ⟨K.out,rfl⟩⟩
def de (x:Nd):List Value:=[.int .i64 x.op,.int .i64 x.n,.string x.name,.int .i64 x.left,.int .i64 x.right]
def aS (l:List Nd):List Value:=l.flatMap de
theorem mS (l:List Nd) (x:Nd):aS (l ++ [x])=aS l ++ de x:=by simp [aS]
theorem qP:∀ (l:List Nd) (k:Nat),k<l.length→(aS l)[k*5]?=some (.int .i64 (l.getD k bO).op)∧(aS l)[k*5+1]?=some (.int .i64 (l.getD k bO).n)∧(aS l)[k*5+2]?=some (.string (l.getD k bO).name)∧(aS l)[k*5+3]?=some (.int .i64 (l.getD k bO).left)∧(aS l)[k*5+4]?=some (.int .i64 (l.getD k bO).right)
 | x :: r,0,_=>⟨rfl,rfl,rfl,rfl,rfl⟩
 | x :: r,k+1,h=>by
  have a:=qP r k (by simpa using h)
  have e:∀ j,(aS (x :: r))[(k+1)*5+j]?=(aS r)[k*5+j]?:=fun j=>by
   rw [show aS (x :: r)=de x ++ aS r from rfl,List.getElem?_append_right (by show 5≤_;omega)]
   congr 1
   show _-5=_
   omega
  exact ⟨(e 0).trans a.1,(e 1).trans a.2.1,(e 2).trans a.2.2.1,(e 3).trans a.2.2.2.1,(e 4).trans a.2.2.2.2⟩
section
variable {w w' w2 W:World} {base e size n:Nat} {v:Value} {xs:List Value}
theorem fO (h:w.ownsRow base e size v n xs):∃ A cap,v=.slice A n cap:=by
 rcases h.2 with ⟨rfl,b⟩ | ⟨g,cap,a,rfl,_⟩
 ·exact ⟨none,0,by rw [b]⟩
 exact ⟨_,_,rfl⟩
theorem bT (h:w.ownsRow base e size v n xs) (a:∀ g,v.ownBlock=some g→w'.heap[g]?=w.heap[g]?):w'.ownsRow base e size v n xs:=by
 refine ⟨h.1,?_⟩
 rcases h.2 with h0 | ⟨g,cap,cur,rfl,hb,hg,h1⟩
 ·exact Or.inl h0
 exact Or.inr ⟨g,cap,cur,rfl,hb,(a g rfl).trans hg,h1⟩
theorem aG {g:Nat} (h:w.ownsRow base e size v n xs) (c:v.ownBlock=some g):base≤g∧g<w.heap.size∧∃ a,w.heap[g]?=some (.cells a e (0,0)):=by
 rcases h.2 with ⟨rfl,f⟩ | ⟨g',cap,a,rfl,d,b,i⟩
 ·cases c
 cases c;exact ⟨d,(zY b).1,a,b⟩
theorem Bf {k:Nat} {A:Option Addr} {cap:Nat} (h:w.ownsRow base e size (.slice A n cap) n xs) (d:k≤n):w.ownsRow base e size (.slice A k cap) k (xs.take (k*size)):=by
 refine ⟨by rw [List.length_take,h.1];exact Nat.min_eq_left (Nat.mul_le_mul_right _ d),?_⟩
 rcases h.2 with ⟨b,f⟩ | ⟨g,c,a,b,m,o,f,i,j,l⟩
 ·left
  cases b;have:k=0:=by omega
  subst this;exact ⟨rfl,rfl⟩
 right
 cases b;refine ⟨g,cap,a,rfl,m,o,by omega,i,j,?_⟩
 rw [←l,List.take_take,Nat.min_eq_left (Nat.mul_le_mul_right _ d)]
theorem nP {A:Option Addr} {cap:Nat} {L:List Int} {k:Nat} (h:w.ownsRow base 3 1 (.slice A L.length cap) L.length (aE L)) (c:k<L.length):∃ g,A=some ⟨g,0,none⟩∧w.cell? ⟨g,k,none⟩=some (.int .i64 (L.getD k 0)):=by
 obtain ⟨A',a,e,f⟩:=sy h;cases e;obtain ⟨_,d | ⟨b,rfl,_,i⟩⟩:=f
 ·subst d;cases c
 exact ⟨b,rfl,i k c⟩
end
structure BldV (N p:Nat) (AN:Option Addr) (cN:Nat) (AR:Option Addr) (cR:Nat) (AW:Option Addr) (cW:Nat) (b:Bld) (w:World):Prop where
 low:p<N
 blk:w.heap[p]?=some (.cells #[.slice AN b.nodes.length cN,.slice AR b.ready.length cR,.slice AW b.waiting.length cW] 284 (0,0))
 nod:w.ownsRow N 132 5 (.slice AN b.nodes.length cN) b.nodes.length (aS b.nodes)
 rdy:w.ownsRow N 3 1 (.slice AR b.ready.length cR) b.ready.length (aE b.ready)
 wai:w.ownsRow N 3 1 (.slice AW b.waiting.length cW) b.waiting.length (aE b.waiting)
 two:∀ g,(Value.slice AR b.ready.length cR).ownBlock=some g→(Value.slice AW b.waiting.length cW).ownBlock≠some g
def dj (N p:Nat) (b:Bld) (w:World):Prop := ∃ AN cN AR cR AW cW,BldV N p AN cN AR cR AW cW b w
theorem mw:(132:Nat)≠3:=by decide
section
variable {N p cN cR cW:Nat} {AN AR AW:Option Addr} {b:Bld} {w w' w2 W:World}
theorem BldV.c0 (h:BldV N p AN cN AR cR AW cW b w):w.cell? ⟨p,0,none⟩=some (.slice AN b.nodes.length cN):=by simp [World.cell?,h.blk]
theorem BldV.c1 (h:BldV N p AN cN AR cR AW cW b w):w.cell? ⟨p,1,none⟩=some (.slice AR b.ready.length cR):=by simp [World.cell?,h.blk]
theorem BldV.c2 (h:BldV N p AN cN AR cR AW cW b w):w.cell? ⟨p,2,none⟩=some (.slice AW b.waiting.length cW):=by simp [World.cell?,h.blk]
theorem BldV.fr (h:BldV N p AN cN AR cR AW cW b w) (j:Nat):w.frozen? ⟨p,j,none⟩=false:=by simp [World.frozen?,h.blk]
theorem BldV.lt (h:BldV N p AN cN AR cR AW cW b w):p<w.heap.size:=(zY h.blk).1
theorem BldV.stay (h:BldV N p AN cN AR cR AW cW b w) (e:∀ k,k<w.heap.size→(k=p∨N≤k)→w'.heap[k]?=w.heap[k]?):BldV N p AN cN AR cR AW cW b w':=by
 refine ⟨h.low,(e p h.lt (Or.inl rfl)).trans h.blk,bT h.nod ?_,bT h.rdy ?_,bT h.wai ?_,h.two⟩
 ·intro g d;obtain ⟨a,c,-⟩:=aG h.nod d;exact e g c (Or.inr a)
 ·intro g d;obtain ⟨a,c,-⟩:=aG h.rdy d;exact e g c (Or.inr a)
 intro g d;obtain ⟨a,c,-⟩:=aG h.wai d;exact e g c (Or.inr a)
theorem BldV.later (h:BldV N p AN cN AR cR AW cW b w) (a:Bl w w'):BldV N p AN cN AR cR AW cW b w':=h.stay fun k c _=>a.block k c
theorem iM {w:World} {p T:Nat} {x y z v:Value} (j:Nat) (h:w.heap[p]?=some (.cells #[x,y,z] T (0,0))):(w.setCell ⟨p,j,none⟩ v).heap[p]?=some (.cells (#[x,y,z].setIfInBounds j v) T (0,0)):=by
 rw [setCell_eq_setRow w p j _ _ (0,0) _ h,setRow_heap w p _ _ _ _ h]
theorem BldV.ready {L:List Int} {g c:Nat} (h:BldV N p AN cN AR cR AW cW b w) (B:N≤w.heap.size) (j:Bl w W) (l:W.grownBy w2 (Value.slice AR b.ready.length cR).ownBlock)
  (x:w2.ownsRow N 3 1 (.slice (some ⟨g,0,none⟩) L.length c) L.length (aE L)) (i:(Value.slice AR b.ready.length cR).ownBlock=some g∨g=W.heap.size) :
  BldV N p AN cN (some ⟨g,0,none⟩) c AW cW ⟨b.nodes,L,b.waiting⟩ (w2.setCell ⟨p,1,none⟩ (.slice (some ⟨g,0,none⟩) L.length c))∧Kept N (fun k=>k=p) w (w2.setCell ⟨p,1,none⟩ (.slice (some ⟨g,0,none⟩) L.length c)):=by
 have a:∀ k,k<w.heap.size→(Value.slice AR b.ready.length cR).ownBlock≠some k→w2.heap[k]?=w.heap[k]?:=fun k o C=>(l.block k (zW o j.size) (fun e=>C e.symm)).trans (j.block k o)
 have t:(Value.slice AR b.ready.length cR).ownBlock≠some p:=fun e=>by have:=(aG h.rdy e).1;have:=h.low;omega
 have n:w2.heap[p]?=_:=(a p h.lt t).trans h.blk;have v:=h.low;have f:∀ k,N≤k→(w2.setCell ⟨p,1,none⟩ (.slice (some ⟨g,0,none⟩) L.length c)).heap[k]?=w2.heap[k]?:=fun k o=>ar _ _ _ _ _ (by omega)
 refine ⟨⟨h.low,?_,bT h.nod ?_,bT x ?_,bT h.wai ?_,?_⟩,?_⟩
 ·rw [iM 1 n];rfl
 ·intro g' d
  obtain ⟨q,r,z,A⟩:=aG h.nod d;rw [f g' q];refine a g' r fun e=>?_
  obtain ⟨-,-,u,s⟩:=aG h.rdy e;rw [A] at s;simp only [Option.some.injEq,Obj.cells.injEq] at s;exact mw s.2.1
 ·intro g' d
  exact f g' (aG x d).1
 ·intro g' d
  obtain ⟨q,r,-⟩:=aG h.wai d;rw [f g' q];exact a g' r fun e=>h.two g' e d
 ·intro g' d y
  have e:g=g':=by simpa [Value.ownBlock] using d
  subst e
  rcases i with i | i
  ·exact h.two g i y
  have:=(aG h.wai y).2.1;have:=j.size
  omega
 have m:Kept N (fun k=>k=p) w w2:=⟨l.os.trans j.os,l.tape.trans j.tape,l.output.trans j.output,zV j.size l.size,fun k o _=>a k (by omega) fun e=>by have:=(aG h.rdy e).1;omega⟩
 have D:p<w2.heap.size:=(zY n).1;exact m.trans (eE (dE (dg w2 _)) (zV B m.size) rfl)
theorem BldV.wait {L:List Int} {g c:Nat} (h:BldV N p AN cN AR cR AW cW b w) (A:N≤w.heap.size) (j:Bl w W) (l:W.grownBy w2 (Value.slice AW b.waiting.length cW).ownBlock)
  (x:w2.ownsRow N 3 1 (.slice (some ⟨g,0,none⟩) L.length c) L.length (aE L)) (i:(Value.slice AW b.waiting.length cW).ownBlock=some g∨g=W.heap.size) :
  BldV N p AN cN AR cR (some ⟨g,0,none⟩) c ⟨b.nodes,b.ready,L⟩ (w2.setCell ⟨p,2,none⟩ (.slice (some ⟨g,0,none⟩) L.length c))∧Kept N (fun k=>k=p) w (w2.setCell ⟨p,2,none⟩ (.slice (some ⟨g,0,none⟩) L.length c)):=by
 have d:∀ k,k<w.heap.size→(Value.slice AW b.waiting.length cW).ownBlock≠some k→w2.heap[k]?=w.heap[k]?:=fun k n B=>(l.block k (zW n j.size) (fun e=>B e.symm)).trans (j.block k n)
 have t:(Value.slice AW b.waiting.length cW).ownBlock≠some p:=fun e=>by have:=(aG h.wai e).1;have:=h.low;omega
 have s:w2.heap[p]?=_:=(d p h.lt t).trans h.blk;have v:=h.low;have f:∀ k,N≤k→(w2.setCell ⟨p,2,none⟩ (.slice (some ⟨g,0,none⟩) L.length c)).heap[k]?=w2.heap[k]?:=fun k n=>ar _ _ _ _ _ (by omega)
 refine ⟨⟨h.low,?_,bT h.nod ?_,bT h.rdy ?_,bT x ?_,?_⟩,?_⟩
 ·rw [iM 2 s];rfl
 ·intro g' a
  obtain ⟨o,q,y,z⟩:=aG h.nod a;rw [f g' o];refine d g' q fun e=>?_
  obtain ⟨-,-,u,r⟩:=aG h.wai e;rw [z] at r;simp only [Option.some.injEq,Obj.cells.injEq] at r;exact mw r.2.1
 ·intro g' a
  obtain ⟨o,q,-⟩:=aG h.rdy a;rw [f g' o];exact d g' q fun e=>h.two g' a e
 ·intro g' a
  exact f g' (aG x a).1
 ·intro g' a C
  have e:g=g':=by simpa [Value.ownBlock] using C
  subst e
  rcases i with i | i
  ·exact h.two g a i
  have:=(aG h.rdy a).2.1;have:=j.size
  omega
 have m:Kept N (fun k=>k=p) w w2:=⟨l.os.trans j.os,l.tape.trans j.tape,l.output.trans j.output,zV j.size l.size,fun k n _=>d k (by omega) fun e=>by have:=(aG h.wai e).1;omega⟩
 exact m.trans (eE (dE (dg w2 _)) (zV A m.size) rfl)
theorem BldV.node {L:List Nd} {g c:Nat} (h:BldV N p AN cN AR cR AW cW b w) (A:N≤w.heap.size) (j:Bl w W) (m:W.grownBy w2 (Value.slice AN b.nodes.length cN).ownBlock)
  (z:w2.ownsRow N 132 5 (.slice (some ⟨g,0,none⟩) L.length c) L.length (aS L)) :
  BldV N p (some ⟨g,0,none⟩) c AR cR AW cW ⟨L,b.ready,b.waiting⟩ (w2.setCell ⟨p,0,none⟩ (.slice (some ⟨g,0,none⟩) L.length c))∧Kept N (fun k=>k=p) w (w2.setCell ⟨p,0,none⟩ (.slice (some ⟨g,0,none⟩) L.length c)):=by
 have a:∀ k,k<w.heap.size→(Value.slice AN b.nodes.length cN).ownBlock≠some k→w2.heap[k]?=w.heap[k]?:=fun k q B=>(m.block k (zW q j.size) (fun e=>B e.symm)).trans (j.block k q)
 have v:(Value.slice AN b.nodes.length cN).ownBlock≠some p:=fun e=>by have:=(aG h.nod e).1;have:=h.low;omega
 have u:w2.heap[p]?=_:=(a p h.lt v).trans h.blk;have y:=h.low;have i:∀ k,N≤k→(w2.setCell ⟨p,0,none⟩ (.slice (some ⟨g,0,none⟩) L.length c)).heap[k]?=w2.heap[k]?:=fun k q=>ar _ _ _ _ _ (by omega)
 have o:∀ g' d,w.heap[g']?=some (.cells d 3 (0,0))→(Value.slice AN b.nodes.length cN).ownBlock≠some g':=by
  intro g' d l e;obtain ⟨-,-,x,t⟩:=aG h.nod e;rw [l] at t;simp only [Option.some.injEq,Obj.cells.injEq] at t;exact mw t.2.1.symm
 refine ⟨⟨h.low,?_,bT z ?_,bT h.rdy ?_,bT h.wai ?_,h.two⟩,?_⟩
 ·rw [iM 0 u];rfl
 ·intro g' f
  exact i g' (aG z f).1
 ·intro g' f
  obtain ⟨r,s,d,l⟩:=aG h.rdy f;rw [i g' r];exact a g' s (o g' d l)
 ·intro g' f
  obtain ⟨r,s,d,l⟩:=aG h.wai f;rw [i g' r];exact a g' s (o g' d l)
 have n:Kept N (fun k=>k=p) w w2:=⟨m.os.trans j.os,m.tape.trans j.tape,m.output.trans j.output,zV j.size m.size,fun k q _=>a k (by omega) fun e=>by have:=(aG h.nod e).1;omega⟩
 exact n.trans (eE (dE (dg w2 _)) (zV A n.size) rfl)
theorem BldV.readyCut {k:Nat} (h:BldV N p AN cN AR cR AW cW b w) (g:N≤w.heap.size) (i:k≤b.ready.length) :
  BldV N p AN cN AR cR AW cW ⟨b.nodes,b.ready.take k,b.waiting⟩ (w.setCell ⟨p,1,none⟩ (.slice AR k cR))∧Kept N (fun k=>k=p) w (w.setCell ⟨p,1,none⟩ (.slice AR k cR)):=by
 have e:(b.ready.take k).length=k:=by rw [List.length_take];omega
 have f:=h.low;have c:∀ j,N≤j→(w.setCell ⟨p,1,none⟩ (.slice AR k cR)).heap[j]?=w.heap[j]?:=fun j m=>ar _ _ _ _ _ (by omega)
 refine ⟨⟨h.low,?_,bT h.nod ?_,?_,bT h.wai ?_,?_⟩,eE (dE (dg w _)) g rfl⟩
 ·rw [iM 1 h.blk];simp [e]
 ·intro g' a;exact c g' (aG h.nod a).1
 ·have d:=Bf h.rdy i
  rw [Nat.mul_one] at d;have l:(aE b.ready).take k=aE (b.ready.take k):=by simp [aE,List.map_take]
  rw [l] at d
  show World.ownsRow _ _ _ _ (.slice AR (b.ready.take k).length cR) (b.ready.take k).length _
  rw [e];exact bT d fun g' a=>c g' (aG d a).1
 ·intro g' a;exact c g' (aG h.wai a).1
 intro g' a;refine h.two g' ?_;cases AR
 ·cases a
 exact a
theorem BldV.waitCut {k:Nat} (h:BldV N p AN cN AR cR AW cW b w) (i:N≤w.heap.size) (l:k≤b.waiting.length) :
  BldV N p AN cN AR cR AW cW ⟨b.nodes,b.ready,b.waiting.take k⟩ (w.setCell ⟨p,2,none⟩ (.slice AW k cW))∧Kept N (fun k=>k=p) w (w.setCell ⟨p,2,none⟩ (.slice AW k cW)):=by
 have e:(b.waiting.take k).length=k:=by rw [List.length_take];omega
 have f:=h.low;have c:∀ j,N≤j→(w.setCell ⟨p,2,none⟩ (.slice AW k cW)).heap[j]?=w.heap[j]?:=fun j n=>ar _ _ _ _ _ (by omega)
 refine ⟨⟨h.low,?_,bT h.nod ?_,bT h.rdy ?_,?_,?_⟩,eE (dE (dg w _)) i rfl⟩
 ·rw [iM 2 h.blk];simp [e]
 ·intro g' a;exact c g' (aG h.nod a).1
 ·intro g' a;exact c g' (aG h.rdy a).1
 ·have d:=Bf h.wai l
  rw [Nat.mul_one] at d;have m:(aE b.waiting).take k=aE (b.waiting.take k):=by simp [aE,List.map_take]
  rw [m] at d
  show World.ownsRow _ _ _ _ (.slice AW (b.waiting.take k).length cW) (b.waiting.take k).length _
  rw [e];exact bT d fun g' a=>c g' (aG d a).1
 intro g' a g;refine h.two g' a ?_;cases AW
 ·cases g
 exact g
end
end Go.Proofs.YtohgnbgamfepoaaGreatDoor
