/-
  What the reader of package formula does with all of a text, in whatever memory: it goes well, or ends by a panic at the byte that cannot stand there; what read answers, which recovers that panic.
-/
import Derived.Defers
import Derived.Recover
import Derived.Laws.EntriesVeiled
import Derived.Test.YtfgegmpoejilnaaGreatDoorJGAI
namespace Go.Proofs.YtfgegmpoejilnaaGreatDoor
open Go.ChangeShapes Go.WideShapes Go.ChangeAt Go.RowKit
set_option maxRecDepth 20000
section
variable {S:Type} {s:ByteArray} {tk:S→ByteArray→S} {r r1 r2:Rd S} {f:Nat}
theorem loop_end (h : ¬ r.at'<s.size):loopR s tk f r=(r,true):=by
 cases f with
 | zero=>rfl
 | succ k=>rw [loopR,if_neg h]
theorem loop_sgn (h:r.at'<s.size) (h1:(signR s tk r).2=false):loopR s tk (f+1) r=((signR s tk r).1,false):=by rw [loopR,if_pos h,if_neg (by rw [h1];decide)]
theorem loop_opd (h:r.at'<s.size) (h1:(signR s tk r).2=true) (h2:(operandR s tk (signR s tk r).1).2=false):loopR s tk (f+1) r=((operandR s tk (signR s tk r).1).1,false):=by rw [loopR,if_pos h,if_pos h1,if_neg (by rw [h2];decide)]
theorem loop_on (h:r.at'<s.size) (h1:(signR s tk r).2=true) (h2:(operandR s tk (signR s tk r).1).2=true):loopR s tk (f+1) r=loopR s tk f (operandR s tk (signR s tk r).1).1:=by rw [loopR,if_pos h,if_pos h1,if_pos h2]
theorem all_no (h:(operandR s tk r).2=false):allR s tk r=((operandR s tk r).1,false):=by rw [allR,if_neg (by rw [h];decide)]
theorem all_loop (h:(operandR s tk r).2=true) (h1:loopR s tk s.size (operandR s tk r).1=(r1,false)):allR s tk r=(r1,false):=by rw [allR,if_pos h,h1,if_neg (fun e=>Bool.noConfusion e)]
theorem all_end (h:(operandR s tk r).2=true) (h1:loopR s tk s.size (operandR s tk r).1=(r1,true)):allR s tk r=(r1,decide (r1.opn=0)):=by rw [allR,if_pos h,h1,if_pos rfl]
theorem sign_at (h1:(signR s tk r).2=true):(signR s tk r).1.at'=r.at'+1:=by
 unfold signR at *
 split
 ·rename_i h;rw [if_pos h] at h1;cases h1
 ·rfl
theorem opens_at:∀ (f:Nat) (r:Rd S),r.at'≤(opensR s tk f r).at'
 | 0,r=>Nat.le_refl _
 | f+1,r=>by
  rw [opensR]
  split
  ·exact Nat.le_trans (by simp [wordR]) (opens_at f _)
  ·exact Nat.le_refl _
theorem closes_at:∀ (f:Nat) (r:Rd S),r.at'≤(closesR s tk f r).at'
 | 0,r=>Nat.le_refl _
 | f+1,r=>by
  rw [closesR]
  split
  ·exact Nat.le_trans (by simp [wordR]) (closes_at f _)
  ·exact Nat.le_refl _
theorem operand_at (r:Rd S):r.at'≤(operandR s tk r).1.at':=by
 have h1:r.at'≤(openedR s tk r).at':=opens_at _ r
 unfold operandR
 split
 ·exact Nat.le_trans (Nat.le_trans h1 (by simp [wordR])) (closes_at _ _)
 ·split
  ·exact Nat.le_trans (Nat.le_trans h1 (by simp [wordR])) (closes_at _ _)
  ·exact h1
end
set_option maxHeartbeats 4000000 in
theorem rall_any {S:Type} (T:Tkr S) (hT:T.Ok) (q:Nat) (s:ByteArray) (r:Rd S) (w:World) (hs:s.size≤T.M) (hq:q<T.N) (hqp:q≠T.p) (hR:RdS T w q s false r) :
  Calls Tryz.prog 213 #[.pointer (some ⟨q,0,none⟩)] w fun e w'=>Went T q s true w (allR s T.tk r) e w':=by
 have HR:Hid (RdS T w q s false r):=hR
 have HT:Hid T.Ok:=hT
 have hsm:=hT.small
 have h0:=operand_any T hT q s r w hs hq hqp hR
 clear hR hT
 go_enter Tryz.func213,Tryz.ntmps213
 go_wp2_with fail
 refine h0.mono ?_
 rintro e w1 ⟨hk1,⟨e1,rfl,hR1⟩ | ⟨e1,rfl⟩⟩
 case inr =>
  have HA:Hid (allR s T.tk r=((operandR s T.tk r).1,false)):=all_no e1
  clear e1 h0
  go_wp2_with fail
  exact ⟨rfl,Went.no HA.out hk1⟩
 case inl =>
  have H1:Hid ((operandR s T.tk r).2=true):=e1
  have HR1:Hid (RdS T w1 q s true (operandR s T.tk r).1):=hR1
  have HK1:Hid (Kept T.N (fun k=>k=T.p∨k=q) w w1):=hk1
  clear e1 hR1 hk1 h0
  obtain ⟨r1,hr1⟩:∃ r1,(operandR s T.tk r).1=r1:=⟨_,rfl⟩
  have HE:Hid ((operandR s T.tk r).1=r1):=hr1
  rw [hr1] at HR1
  clear hr1
  go_wp2_with fail
  go_loopg [] s.size (fun g wj => ∃ (r5:Rd S),loopR s T.tk g r5=loopR s T.tk s.size r1∧s.size-r5.at'≤g∧RdS T wj q s true r5∧Kept T.N (fun k=>k=T.p∨k=q) w wj)
  case atStart=>exact ⟨r1,rfl,by omega,HR1.out,HK1.out⟩
  case round =>
   obtain ⟨r5,hcl,hg5,hR5,hk5⟩:=hrel
   have HQ:Hid (loopR s T.tk gk r5=loopR s T.tk s.size r1):=hcl
   have HRa:Hid (RdS T wr q s true r5):=hR5
   have HKa:Hid (Kept T.N (fun k=>k=T.p∨k=q) w wr):=hk5
   have c0:=hR5.rd.c0
   have c1:=hR5.rd.c1
   have hinn5:=hR5.inn
   clear hcl hR5 hk5
   by_cases hlt:r5.at'<s.size
   ·have hli:(r5.at':Int)<(s.size:Int):=by omega
    obtain ⟨g',hg'⟩:∃ g',gk=g'+1:=⟨gk-1,by omega⟩
    have HG:Hid (gk=g'+1):=hg'
    clear hg'
    go_wp2_with fail
    go_quiet (fail)
    rename_i nq
    have hbq:Below wr.heap.size wr (wr.drewN nq):=below_drewN (Below.refl _ _) nq
    have HRb:Hid (RdS T (wr.drewN nq) q s true r5):=HRa.out.later HT.out hq hqp hbq
    have HKb:Hid (Kept T.N (fun k=>k=T.p∨k=q) w (wr.drewN nq)):=HKa.out.trans (kept_below hbq HRa.out.room)
    have hsg:=sign_any T HT.out q s r5 (wr.drewN nq) hs hq hqp HRb.out
    clear hbq
    go_wp2_with fail
    refine hsg.mono ?_
    rintro e w2 ⟨hk2,⟨e2,rfl,hR2⟩ | ⟨e2,rfl⟩⟩
    case inr =>
     have HA:Hid (allR s T.tk r=((signR s T.tk r5).1,false)):=by
      refine all_loop H1.out ?_
      rw [HE.out,←HQ.out,HG.out,loop_sgn hlt e2]
     have HK2:=HKb.out.trans hk2
     clear e2 hsg hk2
     go_wp2_with fail
     exact ⟨rfl,Went.no HA.out HK2⟩
    case inl =>
     have H2:Hid ((signR s T.tk r5).2=true):=e2
     have HK2:Hid (Kept T.N (fun k=>k=T.p∨k=q) w w2):=HKb.out.trans hk2
     have HR2:Hid (RdS T w2 q s false (signR s T.tk r5).1):=hR2
     have hop:=operand_any T HT.out q s (signR s T.tk r5).1 w2 hs hq hqp hR2
     clear e2 hsg hk2 hR2
     go_wp2_with fail
     refine hop.mono ?_
     rintro e w3 ⟨hk3,⟨e3,rfl,hR3⟩ | ⟨e3,rfl⟩⟩
     case inr =>
      have HA:Hid (allR s T.tk r=((operandR s T.tk (signR s T.tk r5).1).1,false)):=by
       refine all_loop H1.out ?_
       rw [HE.out,←HQ.out,HG.out,loop_opd hlt H2.out e3]
      have HK3:=HK2.out.trans hk3
      clear e3 hop hk3
      go_wp2_with fail
      exact ⟨rfl,Went.no HA.out HK3⟩
     case inl =>
      have HN:Hid (loopR s T.tk (g'+1) r5=loopR s T.tk g' (operandR s T.tk (signR s T.tk r5).1).1):=loop_on hlt H2.out e3
      have HK3:Hid (Kept T.N (fun k=>k=T.p∨k=q) w w3):=HK2.out.trans hk3
      have HR3:Hid (RdS T w3 q s true (operandR s T.tk (signR s T.tk r5).1).1):=hR3
      have hat:=operand_at (s:=s) (tk:=T.tk) (signR s T.tk r5).1
      rw [sign_at H2.out] at hat
      clear e3 hop hk3 hR3
      go_wp2_with fail
      go_roundg g'
      case measure=>have:=HG.out;omega
      case rel=>exact ⟨_,by rw [←HN.out,←HG.out,HQ.out],by have:=HG.out;omega,HR3.out,HK3.out⟩
   ·have hli:(s.size:Int)≤(r5.at':Int):=by omega
    have HL:Hid (loopR s T.tk s.size (operandR s T.tk r).1=(r5,true)):=by show _=_;rw [HE.out,←HQ.out,loop_end hlt]
    have HA:Hid (allR s T.tk r=(r5,decide (r5.opn=0))):=all_end H1.out HL.out
    go_wp2_with fail
    go_quiet (fail)
    rename_i nq
    have hbq:Below wr.heap.size wr (wr.drewN nq):=below_drewN (Below.refl _ _) nq
    have HRb:Hid (RdS T (wr.drewN nq) q s true r5):=HRa.out.later HT.out hq hqp hbq
    have HKb:Hid (Kept T.N (fun k=>k=T.p∨k=q) w (wr.drewN nq)):=HKa.out.trans (kept_below hbq HRa.out.room)
    have d2:=HRb.out.rd.c2
    clear hbq
    by_cases ho:r5.opn=0
    ·have hoi:(r5.opn:Int)=0:=by omega
     have HA2:Hid (allR s T.tk r=(r5,true)):=by show _=_;rw [HA.out,decide_eq_true ho]
     rw [hoi] at d2
     go_wp2_with fail
     first | go_end0 | skip
     exact Went.ok HA2.out HKb.out HRb.out
    ·have hoi:0<(r5.opn:Int):=by omega
     have HA2:Hid (allR s T.tk r=(r5,false)):=by show _=_;rw [HA.out,decide_eq_false ho]
     go_wp2_with fail
     refine (stop_any q r5.at' r5.opn s T.fv _ HRb.out.rd).mono ?_
     rintro e w5 ⟨rfl,hb5⟩
     go_wp2_with fail
     exact ⟨rfl,Went.no HA2.out (HKb.out.trans (kept_below hb5 HRb.out.room))⟩
theorem is_mis (a:Nat) (w:World):(Instr.typeAssert (.iface 261 (.int .i64 a)) 20 261 true).run Tryz.prog w=.ok (.tuple #[.int .i64 a,.bool true]) w:=by
 simp [Instr.typeAssert,run_underlying Tryz.underlying261]
theorem catch_panicking (pa pe:Addr) (a:Nat) (x y:Value) (w:World) (hc:w.cell? pa=some x) (hz:w.frozen? pa=false) (hc':w.cell? pe=some y) (hz':w.frozen? pe=false) (hne:pa≠pe) :
  CallsD Tryz.prog 212 #[.pointer (some pa),.pointer (some pe)] (.panicking (mis a)) w fun e u' w' =>
   e=.returned (.tuple #[])∧u'=.panicking [{ v:=.iface 261 (.int .i64 a),recovered:=true }]∧w'=(w.setCell pa (.int .i64 a)).setCell pe (.iface 95 (.int .i64 2)):=by
 unfold mis
 refine callsD_of_wpS Tryz.func212 rfl fun c₀ cs hu=>?_
 apply wpS_seq
 apply wpS_region
 simp [wpOpsS,go_sem,recoverD,hu,Tryz.ntmps212,Exit.thenS]
 refine wpS_of_wp ?_
 change Code.wp _ _ _ { tmps := #[.pointer (some pa),.pointer (some pe),undef,undef,undef,.iface 261 (.int .i64 a),undef,undef,undef,undef,undef,undef,undef],defers:=[] } w
 have hm:=is_mis a
 have hz2:(w.setCell pa (.int .i64 a)).cell? pe=some y:=(World.cell?_setCell_other _ _ _ _ hne).trans hc'
 go_wp2
 simp [bodyPostS,results,Tryz.results212]
theorem catch_idle (pa pe:Addr) (w:World) :
  CallsD Tryz.prog 212 #[.pointer (some pa),.pointer (some pe)] .returning w fun e u' w'=>e=.returned (.tuple #[])∧u'=.returning∧w'=w:=by
 refine callsD_of_wpS Tryz.func212 rfl fun c₀ cs hu=>?_
 apply wpS_seq
 apply wpS_region
 simp [wpOpsS,go_sem,recoverD,hu,Tryz.ntmps212,Exit.thenS]
 refine wpS_of_wp ?_
 change Code.wp _ _ _ { tmps := #[.pointer (some pa),.pointer (some pe),undef,undef,undef,.nilIface,undef,undef,undef,undef,undef,undef,undef],defers:=[] } w
 go_wp2
 cases c₀
 simp_all [bodyPostS,results,Tryz.results212]
def readW (w:World) (s:ByteArray) (fv:Value):World:=((w.alloc (.cells #[.int .i64 0] 3)).alloc (.cells #[.nilIface] 33)).alloc (.cells #[.string s,.int .i64 0,.int .i64 0,fv] 263)
theorem readW_size (w:World) (s:ByteArray) (fv:Value):(readW w s fv).heap.size=w.heap.size+3:=by unfold readW;simp
theorem readW_below (w:World) (s:ByteArray) (fv:Value):Below w.heap.size w (readW w s fv):=by unfold readW;go_grown
theorem readW_rd (w:World) (s:ByteArray) (fv:Value):RdAt (readW w s fv) (w.heap.size+1+1) s 0 0 fv:=by
 unfold RdAt readW
 have h:=heap_alloc_new ((w.alloc (.cells #[.int .i64 0] 3)).alloc (.cells #[.nilIface] 33)) (.cells #[.string s,.int .i64 0,.int .i64 0,fv] 263)
 simpa using h
theorem readW_at (w:World) (s:ByteArray) (fv:Value):(readW w s fv).heap[w.heap.size]?=some (.cells #[.int .i64 0] 3 (0,0)):=by
 unfold readW
 rw [heap_alloc_old _ _ (by simp;omega),heap_alloc_old _ _ (by simp)]
 exact heap_alloc_new _ _
theorem readW_err (w:World) (s:ByteArray) (fv:Value):(readW w s fv).heap[w.heap.size+1]?=some (.cells #[.nilIface] 33 (0,0)):=by
 unfold readW
 rw [heap_alloc_old _ _ (by simp)]
 have h:=heap_alloc_new (w.alloc (.cells #[.int .i64 0] 3)) (.cells #[.nilIface] 33)
 simpa using h
theorem one_of {w:World} {q T:Nat} {v:Value} (h:w.heap[q]?=some (.cells #[v] T (0,0))):w.cell? ⟨q,0,none⟩=some v∧w.frozen? ⟨q,0,none⟩=false:=⟨by simp [World.cell?,h],by simp [World.frozen?,h]⟩
set_option maxHeartbeats 2000000 in
theorem fread_any {S:Type} (T:Tkr S) (hT:T.Ok) (s:ByteArray) (st:S) (w:World) (hs:s.size≤T.M) (hN:T.N=w.heap.size+3) (hp:T.p<w.heap.size) (hI:T.I st w) (hG:T.G 0 0 false st) (x:Rd S×Bool) (hx:allR s T.tk ⟨0,0,st⟩=x) :
  Calls Tryz.prog 184 #[.string s,T.fv] w fun e w'=>(Kept w.heap.size (fun k=>k=T.p) w w'∧T.N≤w'.heap.size)∧((x.2=true∧e=.returned (.tuple #[.int .i64 0,.nilIface])∧T.I x.1.st w'∧T.G x.1.at' x.1.opn true x.1.st)∨(x.2=false∧e=.returned (.tuple #[.int .i64 (x.1.at':Int),errV 2]))):=by
 have hmf:∀ (fn:Fn) (first cap:Array Value) (w:World),(Instr.makeFunc fn first cap).run Tryz.prog w=.ok (.func fn first cap) w:=fun _ _ _ _=>rfl
 have hbW:=readW_below w s T.fv
 have hz:=readW_size w s T.fv
 have hq:w.heap.size+1+1<T.N:=by omega
 have hqp:w.heap.size+1+1≠T.p:=by omega
 have hRS:RdS T (readW w s T.fv) (w.heap.size+1+1) s false ⟨0,0,st⟩:=⟨readW_rd w s T.fv,hT.stay _ _ _ _ hq hqp hI (grownF_below hbW),hG,Nat.zero_le _,Nat.le_refl _,by omega⟩
 have hall:=rall_any T hT (w.heap.size+1+1) s ⟨0,0,st⟩ (readW w s T.fv) hs hq hqp hRS
 rw [hx] at hall
 have HB:Hid (Below w.heap.size w (readW w s T.fv)):=hbW
 have HA:Hid ((readW w s T.fv).heap[w.heap.size]?=some (.cells #[.int .i64 0] 3 (0,0))):=readW_at w s T.fv
 have HE:Hid ((readW w s T.fv).heap[w.heap.size+1]?=some (.cells #[.nilIface] 33 (0,0))):=readW_err w s T.fv
 have HZ:Hid ((readW w s T.fv).heap.size=w.heap.size+3):=hz
 have HT:Hid T.Ok:=hT
 clear hbW hz hRS hI hG hT
 obtain ⟨W,hW⟩:∃ W,readW w s T.fv=W:=⟨_,rfl⟩
 rw [hW] at hall HB HA HE HZ
 have hq0:w.heap.size<T.N:=by omega
 have hq1:w.heap.size+1<T.N:=by omega
 have hq0p:w.heap.size≠T.p:=by omega
 have hq1p:w.heap.size+1≠T.p:=by omega
 have HF:Hid (∀ (w1:World) (u v:Value),w1.cell? ⟨w.heap.size,0,none⟩=some (.int .i64 0)→w1.cell? ⟨w.heap.size+1,0,none⟩=some .nilIface→Kept T.N (fun k=>k=T.p∨k=w.heap.size+1+1) W w1→((w1.setCell ⟨w.heap.size,0,none⟩ u).setCell ⟨w.heap.size+1,0,none⟩ v).cell? ⟨w.heap.size,0,none⟩=some u∧((w1.setCell ⟨w.heap.size,0,none⟩ u).setCell ⟨w.heap.size+1,0,none⟩ v).cell? ⟨w.heap.size+1,0,none⟩=some v∧Kept w.heap.size (fun k=>k=T.p) w ((w1.setCell ⟨w.heap.size,0,none⟩ u).setCell ⟨w.heap.size+1,0,none⟩ v)∧T.N≤((w1.setCell ⟨w.heap.size,0,none⟩ u).setCell ⟨w.heap.size+1,0,none⟩ v).heap.size):=by
  intro w1 u v h1 h2 h3
  refine ⟨?_,?_,⟨?_,?_,?_,?_,?_⟩,?_⟩
  ·rw [World.cell?_setCell_other _ _ _ _ (by simp)]
   exact World.cell?_setCell_same _ _ _ h1
  ·refine World.cell?_setCell_same _ _ _ (u:=.nilIface) ?_
   rw [World.cell?_setCell_other _ _ _ _ (by simp)]
   exact h2
  ·exact (show _ from h3.os).trans HB.out.os
  ·exact (show _ from h3.tape).trans HB.out.tape
  ·exact (show _ from h3.output).trans HB.out.output
  ·have:=h3.size;have:=HB.out.size;simp;omega
  ·intro k hk1 hk2
   rw [setCell_off _ _ _ _ _ (by omega),setCell_off _ _ _ _ _ (by omega),h3.block k (by omega) (by omega)]
   exact HB.out.block k hk1
  ·have:=h3.size;have:=HZ.out;simp;omega
 unfold readW Tkr.fv at hW
 unfold Tkr.fv
 go_enter_defers Tryz.func184,Tryz.ntmps184
 go_wp2_with fail
 refine hall.mono ?_
 rintro e w1 ⟨hk1,⟨e1,rfl,hR1⟩ | ⟨e1,rfl⟩⟩
 case inl =>
  have hk:∀ k,k<T.N→k≠T.p→k≠w.heap.size+1+1→w1.heap[k]?=W.heap[k]?:=fun k h1 h2 h3=>hk1.block k h1 (fun h=>h.elim h2 h3)
  have ca:=one_of ((hk w.heap.size (by omega) (by omega) (by omega)).trans HA.out)
  have ce:=one_of ((hk (w.heap.size+1) (by omega) (by omega) (by omega)).trans HE.out)
  obtain ⟨ca1,ca2⟩:=ca
  obtain ⟨ce1,ce2⟩:=ce
  have H1:Hid (x.2=true):=e1
  have HR1:Hid (RdS T w1 (w.heap.size+1+1) s true x.1):=hR1
  have HK1:Hid (Kept T.N (fun k=>k=T.p∨k=w.heap.size+1+1) W w1):=hk1
  clear e1 hR1 hk1 hall hk
  go_wp2_with fail
  refine leaves_cons (f:=212) (args := #[.pointer (some ⟨w.heap.size,0,none⟩),.pointer (some ⟨w.heap.size+1,0,none⟩)]) (by simp) (by simp [go_sem]) ?_
  refine (catch_idle ⟨w.heap.size,0,none⟩ ⟨w.heap.size+1,0,none⟩ _).mono ?_
  rintro e u' w'' ⟨rfl,rfl,rfl⟩
  obtain ⟨r1,r2,r3⟩:=HF.out w1 (.int .i64 0) .nilIface ca1 ce1 HK1.out
  have r4:=HT.out.stay _ _ _ _ hq1 hq1p (HT.out.stay _ _ _ _ hq0 hq0p HR1.out.mem (grownF_set (j:=0) (v:=.int .i64 0) (grownF_refl w1 (some w.heap.size)))) (grownF_set (j:=0) (v:=.nilIface) (grownF_refl _ (some (w.heap.size+1))))
  have hres:(results Tryz.f184 #[.string s,.func (.func T.F) T.first #[],undef,undef,.pointer (some ⟨w.heap.size,0,none⟩),.pointer (some ⟨w.heap.size+1,0,none⟩),.pointer (some ⟨w.heap.size+1+1,0,none⟩),.func (.func 212) #[] #[.pointer (some ⟨w.heap.size,0,none⟩),.pointer (some ⟨w.heap.size+1,0,none⟩)],.string s,.func (.func T.F) T.first #[],.agg #[.string s,.int .i64 0,.int .i64 0,.func (.func T.F) T.first #[]],.tuple #[]]).run Tryz.prog ((w1.setCell ⟨w.heap.size,0,none⟩ (.int .i64 0)).setCell ⟨w.heap.size+1,0,none⟩ .nilIface)=.ok (.tuple #[.int .i64 0,.nilIface]) ((w1.setCell ⟨w.heap.size,0,none⟩ (.int .i64 0)).setCell ⟨w.heap.size+1,0,none⟩ .nilIface):=by
   simp [results,Tryz.results184,go_sem,r1,r2]
  exact ⟨_,hres,r3,Or.inl ⟨H1.out,rfl,r4,HR1.out.good⟩⟩
 case inr =>
  have hk:∀ k,k<T.N→k≠T.p→k≠w.heap.size+1+1→w1.heap[k]?=W.heap[k]?:=fun k h1 h2 h3=>hk1.block k h1 (fun h=>h.elim h2 h3)
  have ca:=one_of ((hk w.heap.size (by omega) (by omega) (by omega)).trans HA.out)
  have ce:=one_of ((hk (w.heap.size+1) (by omega) (by omega) (by omega)).trans HE.out)
  obtain ⟨ca1,ca2⟩:=ca
  obtain ⟨ce1,ce2⟩:=ce
  have H1:Hid (x.2=false):=e1
  have HK1:Hid (Kept T.N (fun k=>k=T.p∨k=w.heap.size+1+1) W w1):=hk1
  clear e1 hk1 hall hk
  go_wp2_with fail
  refine leaves_cons (f:=212) (args := #[.pointer (some ⟨w.heap.size,0,none⟩),.pointer (some ⟨w.heap.size+1,0,none⟩)]) (by simp) (by simp [go_sem]) ?_
  refine (catch_panicking ⟨w.heap.size,0,none⟩ ⟨w.heap.size+1,0,none⟩ x.1.at' _ _ w1 ca1 ca2 ce1 ce2 (by simp)).mono ?_
  rintro e u' w'' ⟨rfl,rfl,rfl⟩
  obtain ⟨r1,r2,r3⟩:=HF.out w1 (.int .i64 x.1.at') (.iface 95 (.int .i64 2)) ca1 ce1 HK1.out
  have hres:(results Tryz.f184 #[.string s,.func (.func T.F) T.first #[],undef,undef,.pointer (some ⟨w.heap.size,0,none⟩),.pointer (some ⟨w.heap.size+1,0,none⟩),.pointer (some ⟨w.heap.size+1+1,0,none⟩),.func (.func 212) #[] #[.pointer (some ⟨w.heap.size,0,none⟩),.pointer (some ⟨w.heap.size+1,0,none⟩)],.string s,.func (.func T.F) T.first #[],.agg #[.string s,.int .i64 0,.int .i64 0,.func (.func T.F) T.first #[]],undef]).run Tryz.prog ((w1.setCell ⟨w.heap.size,0,none⟩ (.int .i64 x.1.at')).setCell ⟨w.heap.size+1,0,none⟩ (.iface 95 (.int .i64 2)))=.ok (.tuple #[.int .i64 (x.1.at':Int),.iface 95 (.int .i64 2)]) ((w1.setCell ⟨w.heap.size,0,none⟩ (.int .i64 x.1.at')).setCell ⟨w.heap.size+1,0,none⟩ (.iface 95 (.int .i64 2))):=by
   simp [results,Tryz.results184,go_sem,r1,r2]
  exact ⟨_,hres,r3,Or.inr ⟨H1.out,rfl⟩⟩
def cellsNd1 (x:Nd):List Value:=[.int .i64 x.op,.int .i64 x.n,.string x.name,.int .i64 x.left,.int .i64 x.right]
def cellsN (l:List Nd):List Value:=l.flatMap cellsNd1
theorem cellsN_snoc (l:List Nd) (x:Nd):cellsN (l ++ [x])=cellsN l ++ cellsNd1 x:=by simp [cellsN]
theorem cellsN_at:∀ (l:List Nd) (k:Nat),k<l.length→(cellsN l)[k*5]?=some (.int .i64 (l.getD k noN).op)∧(cellsN l)[k*5+1]?=some (.int .i64 (l.getD k noN).n)∧(cellsN l)[k*5+2]?=some (.string (l.getD k noN).name)∧(cellsN l)[k*5+3]?=some (.int .i64 (l.getD k noN).left)∧(cellsN l)[k*5+4]?=some (.int .i64 (l.getD k noN).right)
 | x :: r,0,_=>⟨rfl,rfl,rfl,rfl,rfl⟩
 | x :: r,k+1,h=>by
  have h':=cellsN_at r k (by simpa using h)
  have e:∀ j,(cellsN (x :: r))[(k+1)*5+j]?=(cellsN r)[k*5+j]?:=fun j=>by
   rw [show cellsN (x :: r)=cellsNd1 x ++ cellsN r from rfl,List.getElem?_append_right (by show 5≤_;omega)]
   congr 1
   show _-5=_
   omega
  exact ⟨(e 0).trans h'.1,(e 1).trans h'.2.1,(e 2).trans h'.2.2.1,(e 3).trans h'.2.2.2.1,(e 4).trans h'.2.2.2.2⟩
section
variable {w w' w2 W:World} {base e size n:Nat} {v:Value} {xs:List Value}
theorem own_keep (h:w.ownsRow base e size v n xs) (hk:∀ g,v.ownBlock=some g→w'.heap[g]?=w.heap[g]?):w'.ownsRow base e size v n xs:=by
 refine ⟨h.1,?_⟩
 rcases h.2 with h0 | ⟨g,cap,cur,rfl,hb,hg,h1⟩
 ·exact Or.inl h0
 ·exact Or.inr ⟨g,cap,cur,rfl,hb,(hk g rfl).trans hg,h1⟩
theorem own_block {g:Nat} (h:w.ownsRow base e size v n xs) (hv:v.ownBlock=some g):base≤g∧g<w.heap.size∧∃ cur,w.heap[g]?=some (.cells cur e (0,0)):=by
 rcases h.2 with ⟨rfl,h0⟩ | ⟨g',cap,cur,rfl,hb,hg,h1⟩
 ·cases hv
 ·cases hv
  exact ⟨hb,(Array.getElem?_eq_some_iff.1 hg).1,cur,hg⟩
theorem own_cut {k:Nat} {A:Option Addr} {cap:Nat} (h:w.ownsRow base e size (.slice A n cap) n xs) (hk:k≤n):w.ownsRow base e size (.slice A k cap) k (xs.take (k*size)):=by
 refine ⟨by rw [List.length_take,h.1];exact Nat.min_eq_left (Nat.mul_le_mul_right _ hk),?_⟩
 rcases h.2 with ⟨h0,h1⟩ | ⟨g,cap',cur,h0,hb,hg,h1,h2,h3,h4⟩
 ·left
  cases h0
  have:k=0:=by omega
  subst this
  exact ⟨rfl,rfl⟩
 ·right
  cases h0
  refine ⟨g,cap,cur,rfl,hb,hg,by omega,h2,h3,?_⟩
  rw [←h4,List.take_take,Nat.min_eq_left (Nat.mul_le_mul_right _ hk)]
theorem own_int {A:Option Addr} {cap:Nat} {L:List Int} {k:Nat} (h:w.ownsRow base 3 1 (.slice A L.length cap) L.length (mapI L)) (hk:k<L.length):∃ g,A=some ⟨g,0,none⟩∧w.cell? ⟨g,k,none⟩=some (.int .i64 (L.getD k 0)):=by
 obtain ⟨A',cap',h1,h2⟩:=ints_of h
 cases h1
 obtain ⟨_,h0 | ⟨b,rfl,_,h3⟩⟩:=h2
 ·subst h0;cases hk
 ·exact ⟨b,rfl,h3 k hk⟩
end
structure BldV (N p:Nat) (AN:Option Addr) (cN:Nat) (AR:Option Addr) (cR:Nat) (AW:Option Addr) (cW:Nat) (b:Bld) (w:World):Prop where
 low:p<N
 blk:w.heap[p]?=some (.cells #[.slice AN b.nodes.length cN,.slice AR b.ready.length cR,.slice AW b.waiting.length cW] 238 (0,0))
 nod:w.ownsRow N 212 5 (.slice AN b.nodes.length cN) b.nodes.length (cellsN b.nodes)
 rdy:w.ownsRow N 3 1 (.slice AR b.ready.length cR) b.ready.length (mapI b.ready)
 wai:w.ownsRow N 3 1 (.slice AW b.waiting.length cW) b.waiting.length (mapI b.waiting)
 two:∀ g,(Value.slice AR b.ready.length cR).ownBlock=some g→(Value.slice AW b.waiting.length cW).ownBlock≠some g
def BldAt (N p:Nat) (b:Bld) (w:World):Prop := ∃ AN cN AR cR AW cW,BldV N p AN cN AR cR AW cW b w
theorem nd_ne_int:(212:Nat)≠3:=by decide
section
variable {N p cN cR cW:Nat} {AN AR AW:Option Addr} {b:Bld} {w w' w2 W:World}
theorem BldV.c0 (h:BldV N p AN cN AR cR AW cW b w):w.cell? ⟨p,0,none⟩=some (.slice AN b.nodes.length cN):=by simp [World.cell?,h.blk]
theorem BldV.c1 (h:BldV N p AN cN AR cR AW cW b w):w.cell? ⟨p,1,none⟩=some (.slice AR b.ready.length cR):=by simp [World.cell?,h.blk]
theorem BldV.c2 (h:BldV N p AN cN AR cR AW cW b w):w.cell? ⟨p,2,none⟩=some (.slice AW b.waiting.length cW):=by simp [World.cell?,h.blk]
theorem BldV.fr (h:BldV N p AN cN AR cR AW cW b w) (j:Nat):w.frozen? ⟨p,j,none⟩=false:=by simp [World.frozen?,h.blk]
theorem BldV.lt (h:BldV N p AN cN AR cR AW cW b w):p<w.heap.size:=(Array.getElem?_eq_some_iff.1 h.blk).1
theorem BldV.stay (h:BldV N p AN cN AR cR AW cW b w) (hb:∀ k,k<w.heap.size→(k=p∨N≤k)→w'.heap[k]?=w.heap[k]?):BldV N p AN cN AR cR AW cW b w':=by
 refine ⟨h.low,(hb p h.lt (Or.inl rfl)).trans h.blk,own_keep h.nod ?_,own_keep h.rdy ?_,own_keep h.wai ?_,h.two⟩
 ·intro g hg;obtain ⟨h1,h2,-⟩:=own_block h.nod hg;exact hb g h2 (Or.inr h1)
 ·intro g hg;obtain ⟨h1,h2,-⟩:=own_block h.rdy hg;exact hb g h2 (Or.inr h1)
 ·intro g hg;obtain ⟨h1,h2,-⟩:=own_block h.wai hg;exact hb g h2 (Or.inr h1)
theorem BldV.later (h:BldV N p AN cN AR cR AW cW b w) (hB:Below w.heap.size w w'):BldV N p AN cN AR cR AW cW b w':=h.stay fun k hk _=>hB.block k hk
theorem set3_heap {w:World} {p T:Nat} {x y z v:Value} (j:Nat) (h:w.heap[p]?=some (.cells #[x,y,z] T (0,0))):(w.setCell ⟨p,j,none⟩ v).heap[p]?=some (.cells (#[x,y,z].setIfInBounds j v) T (0,0)):=by
 rw [setCell_eq_setRow w p j _ _ (0,0) _ h,setRow_heap w p _ _ _ _ h]
theorem BldV.ready {L:List Int} {g c:Nat} (h:BldV N p AN cN AR cR AW cW b w) (hN:N≤w.heap.size) (hb:Below w.heap.size w W) (hg:W.grownBy w2 (Value.slice AR b.ready.length cR).ownBlock)
  (ho:w2.ownsRow N 3 1 (.slice (some ⟨g,0,none⟩) L.length c) L.length (mapI L)) (hat:(Value.slice AR b.ready.length cR).ownBlock=some g∨g=W.heap.size) :
  BldV N p AN cN (some ⟨g,0,none⟩) c AW cW ⟨b.nodes,L,b.waiting⟩ (w2.setCell ⟨p,1,none⟩ (.slice (some ⟨g,0,none⟩) L.length c))∧Kept N (fun k=>k=p) w (w2.setCell ⟨p,1,none⟩ (.slice (some ⟨g,0,none⟩) L.length c)):=by
 have hkeep:∀ k,k<w.heap.size→(Value.slice AR b.ready.length cR).ownBlock≠some k→w2.heap[k]?=w.heap[k]?:=fun k hk hr=>(hg.block k (Nat.lt_of_lt_of_le hk hb.size) (fun e=>hr e.symm)).trans (hb.block k hk)
 have hpn:(Value.slice AR b.ready.length cR).ownBlock≠some p:=fun e=>by have:=(own_block h.rdy e).1;have:=h.low;omega
 have hp2:w2.heap[p]?=_:=(hkeep p h.lt hpn).trans h.blk
 have hlow:=h.low
 have hofs:∀ k,N≤k→(w2.setCell ⟨p,1,none⟩ (.slice (some ⟨g,0,none⟩) L.length c)).heap[k]?=w2.heap[k]?:=fun k hk=>setCell_off _ _ _ _ _ (by omega)
 refine ⟨⟨h.low,?_,own_keep h.nod ?_,own_keep ho ?_,own_keep h.wai ?_,?_⟩,?_⟩
 ·rw [set3_heap 1 hp2];rfl
 ·intro g' hg'
  obtain ⟨h1,h2,cur,h3⟩:=own_block h.nod hg'
  rw [hofs g' h1]
  refine hkeep g' h2 fun e=>?_
  obtain ⟨-,-,cur',h4⟩:=own_block h.rdy e
  rw [h3] at h4
  simp only [Option.some.injEq,Obj.cells.injEq] at h4
  exact nd_ne_int h4.2.1
 ·intro g' hg'
  exact hofs g' (own_block ho hg').1
 ·intro g' hg'
  obtain ⟨h1,h2,-⟩:=own_block h.wai hg'
  rw [hofs g' h1]
  exact hkeep g' h2 fun e=>h.two g' e hg'
 ·intro g' hg' hw
  have e:g=g':=by simpa [Value.ownBlock] using hg'
  subst e
  rcases hat with hat | hat
  ·exact h.two g hat hw
  ·have:=(own_block h.wai hw).2.1
   have:=hb.size
   omega
 ·have hk1:Kept N (fun k=>k=p) w w2:=⟨hg.os.trans hb.os,hg.tape.trans hb.tape,hg.output.trans hb.output,Nat.le_trans hb.size hg.size,fun k hk _=>hkeep k (by omega) fun e=>by have:=(own_block h.rdy e).1;omega⟩
  have hs2:p<w2.heap.size:=(Array.getElem?_eq_some_iff.1 hp2).1
  exact hk1.trans (kept_grown (grownF_set (grownF_refl w2 _)) (Nat.le_trans hN hk1.size) rfl)
theorem BldV.wait {L:List Int} {g c:Nat} (h:BldV N p AN cN AR cR AW cW b w) (hN:N≤w.heap.size) (hb:Below w.heap.size w W) (hg:W.grownBy w2 (Value.slice AW b.waiting.length cW).ownBlock)
  (ho:w2.ownsRow N 3 1 (.slice (some ⟨g,0,none⟩) L.length c) L.length (mapI L)) (hat:(Value.slice AW b.waiting.length cW).ownBlock=some g∨g=W.heap.size) :
  BldV N p AN cN AR cR (some ⟨g,0,none⟩) c ⟨b.nodes,b.ready,L⟩ (w2.setCell ⟨p,2,none⟩ (.slice (some ⟨g,0,none⟩) L.length c))∧Kept N (fun k=>k=p) w (w2.setCell ⟨p,2,none⟩ (.slice (some ⟨g,0,none⟩) L.length c)):=by
 have hkeep:∀ k,k<w.heap.size→(Value.slice AW b.waiting.length cW).ownBlock≠some k→w2.heap[k]?=w.heap[k]?:=fun k hk hr=>(hg.block k (Nat.lt_of_lt_of_le hk hb.size) (fun e=>hr e.symm)).trans (hb.block k hk)
 have hpn:(Value.slice AW b.waiting.length cW).ownBlock≠some p:=fun e=>by have:=(own_block h.wai e).1;have:=h.low;omega
 have hp2:w2.heap[p]?=_:=(hkeep p h.lt hpn).trans h.blk
 have hlow:=h.low
 have hofs:∀ k,N≤k→(w2.setCell ⟨p,2,none⟩ (.slice (some ⟨g,0,none⟩) L.length c)).heap[k]?=w2.heap[k]?:=fun k hk=>setCell_off _ _ _ _ _ (by omega)
 refine ⟨⟨h.low,?_,own_keep h.nod ?_,own_keep h.rdy ?_,own_keep ho ?_,?_⟩,?_⟩
 ·rw [set3_heap 2 hp2];rfl
 ·intro g' hg'
  obtain ⟨h1,h2,cur,h3⟩:=own_block h.nod hg'
  rw [hofs g' h1]
  refine hkeep g' h2 fun e=>?_
  obtain ⟨-,-,cur',h4⟩:=own_block h.wai e
  rw [h3] at h4
  simp only [Option.some.injEq,Obj.cells.injEq] at h4
  exact nd_ne_int h4.2.1
 ·intro g' hg'
  obtain ⟨h1,h2,-⟩:=own_block h.rdy hg'
  rw [hofs g' h1]
  exact hkeep g' h2 fun e=>h.two g' hg' e
 ·intro g' hg'
  exact hofs g' (own_block ho hg').1
 ·intro g' hg' hw
  have e:g=g':=by simpa [Value.ownBlock] using hw
  subst e
  rcases hat with hat | hat
  ·exact h.two g hg' hat
  ·have:=(own_block h.rdy hg').2.1
   have:=hb.size
   omega
 ·have hk1:Kept N (fun k=>k=p) w w2:=⟨hg.os.trans hb.os,hg.tape.trans hb.tape,hg.output.trans hb.output,Nat.le_trans hb.size hg.size,fun k hk _=>hkeep k (by omega) fun e=>by have:=(own_block h.wai e).1;omega⟩
  exact hk1.trans (kept_grown (grownF_set (grownF_refl w2 _)) (Nat.le_trans hN hk1.size) rfl)
theorem BldV.node {L:List Nd} {g c:Nat} (h:BldV N p AN cN AR cR AW cW b w) (hN:N≤w.heap.size) (hb:Below w.heap.size w W) (hg:W.grownBy w2 (Value.slice AN b.nodes.length cN).ownBlock)
  (ho:w2.ownsRow N 212 5 (.slice (some ⟨g,0,none⟩) L.length c) L.length (cellsN L)) :
  BldV N p (some ⟨g,0,none⟩) c AR cR AW cW ⟨L,b.ready,b.waiting⟩ (w2.setCell ⟨p,0,none⟩ (.slice (some ⟨g,0,none⟩) L.length c))∧Kept N (fun k=>k=p) w (w2.setCell ⟨p,0,none⟩ (.slice (some ⟨g,0,none⟩) L.length c)):=by
 have hkeep:∀ k,k<w.heap.size→(Value.slice AN b.nodes.length cN).ownBlock≠some k→w2.heap[k]?=w.heap[k]?:=fun k hk hr=>(hg.block k (Nat.lt_of_lt_of_le hk hb.size) (fun e=>hr e.symm)).trans (hb.block k hk)
 have hpn:(Value.slice AN b.nodes.length cN).ownBlock≠some p:=fun e=>by have:=(own_block h.nod e).1;have:=h.low;omega
 have hp2:w2.heap[p]?=_:=(hkeep p h.lt hpn).trans h.blk
 have hlow:=h.low
 have hofs:∀ k,N≤k→(w2.setCell ⟨p,0,none⟩ (.slice (some ⟨g,0,none⟩) L.length c)).heap[k]?=w2.heap[k]?:=fun k hk=>setCell_off _ _ _ _ _ (by omega)
 have hty:∀ g' cur,w.heap[g']?=some (.cells cur 3 (0,0))→(Value.slice AN b.nodes.length cN).ownBlock≠some g':=by
  intro g' cur h3 e
  obtain ⟨-,-,cur',h4⟩:=own_block h.nod e
  rw [h3] at h4
  simp only [Option.some.injEq,Obj.cells.injEq] at h4
  exact nd_ne_int h4.2.1.symm
 refine ⟨⟨h.low,?_,own_keep ho ?_,own_keep h.rdy ?_,own_keep h.wai ?_,h.two⟩,?_⟩
 ·rw [set3_heap 0 hp2];rfl
 ·intro g' hg'
  exact hofs g' (own_block ho hg').1
 ·intro g' hg'
  obtain ⟨h1,h2,cur,h3⟩:=own_block h.rdy hg'
  rw [hofs g' h1]
  exact hkeep g' h2 (hty g' cur h3)
 ·intro g' hg'
  obtain ⟨h1,h2,cur,h3⟩:=own_block h.wai hg'
  rw [hofs g' h1]
  exact hkeep g' h2 (hty g' cur h3)
 ·have hk1:Kept N (fun k=>k=p) w w2:=⟨hg.os.trans hb.os,hg.tape.trans hb.tape,hg.output.trans hb.output,Nat.le_trans hb.size hg.size,fun k hk _=>hkeep k (by omega) fun e=>by have:=(own_block h.nod e).1;omega⟩
  exact hk1.trans (kept_grown (grownF_set (grownF_refl w2 _)) (Nat.le_trans hN hk1.size) rfl)
theorem BldV.readyCut {k:Nat} (h:BldV N p AN cN AR cR AW cW b w) (hN:N≤w.heap.size) (hk:k≤b.ready.length) :
  BldV N p AN cN AR cR AW cW ⟨b.nodes,b.ready.take k,b.waiting⟩ (w.setCell ⟨p,1,none⟩ (.slice AR k cR))∧Kept N (fun k=>k=p) w (w.setCell ⟨p,1,none⟩ (.slice AR k cR)):=by
 have hl:(b.ready.take k).length=k:=by rw [List.length_take];omega
 have hlow:=h.low
 have hofs:∀ j,N≤j→(w.setCell ⟨p,1,none⟩ (.slice AR k cR)).heap[j]?=w.heap[j]?:=fun j hj=>setCell_off _ _ _ _ _ (by omega)
 refine ⟨⟨h.low,?_,own_keep h.nod ?_,?_,own_keep h.wai ?_,?_⟩,kept_grown (grownF_set (grownF_refl w _)) hN rfl⟩
 ·rw [set3_heap 1 h.blk];simp [hl]
 ·intro g' hg';exact hofs g' (own_block h.nod hg').1
 ·have hc:=own_cut h.rdy hk
  rw [Nat.mul_one] at hc
  have hm:(mapI b.ready).take k=mapI (b.ready.take k):=by simp [mapI,List.map_take]
  rw [hm] at hc
  show World.ownsRow _ _ _ _ (.slice AR (b.ready.take k).length cR) (b.ready.take k).length _
  rw [hl]
  exact own_keep hc fun g' hg'=>hofs g' (own_block hc hg').1
 ·intro g' hg';exact hofs g' (own_block h.wai hg').1
 ·intro g' hg'
  refine h.two g' ?_
  cases AR
  ·cases hg'
  ·exact hg'
theorem BldV.waitCut {k:Nat} (h:BldV N p AN cN AR cR AW cW b w) (hN:N≤w.heap.size) (hk:k≤b.waiting.length) :
  BldV N p AN cN AR cR AW cW ⟨b.nodes,b.ready,b.waiting.take k⟩ (w.setCell ⟨p,2,none⟩ (.slice AW k cW))∧Kept N (fun k=>k=p) w (w.setCell ⟨p,2,none⟩ (.slice AW k cW)):=by
 have hl:(b.waiting.take k).length=k:=by rw [List.length_take];omega
 have hlow:=h.low
 have hofs:∀ j,N≤j→(w.setCell ⟨p,2,none⟩ (.slice AW k cW)).heap[j]?=w.heap[j]?:=fun j hj=>setCell_off _ _ _ _ _ (by omega)
 refine ⟨⟨h.low,?_,own_keep h.nod ?_,own_keep h.rdy ?_,?_,?_⟩,kept_grown (grownF_set (grownF_refl w _)) hN rfl⟩
 ·rw [set3_heap 2 h.blk];simp [hl]
 ·intro g' hg';exact hofs g' (own_block h.nod hg').1
 ·intro g' hg';exact hofs g' (own_block h.rdy hg').1
 ·have hc:=own_cut h.wai hk
  rw [Nat.mul_one] at hc
  have hm:(mapI b.waiting).take k=mapI (b.waiting.take k):=by simp [mapI,List.map_take]
  rw [hm] at hc
  show World.ownsRow _ _ _ _ (.slice AW (b.waiting.take k).length cW) (b.waiting.take k).length _
  rw [hl]
  exact own_keep hc fun g' hg'=>hofs g' (own_block hc hg').1
 ·intro g' hg' hw
  refine h.two g' hg' ?_
  cases AW
  ·cases hw
  ·exact hw
end
end Go.Proofs.YtfgegmpoejilnaaGreatDoor
