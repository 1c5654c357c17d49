/-
  What read of package formula answers, in whatever memory: a reading that goes well, or the byte at which a panic ended it.
-/
import Derived.Laws.EntriesVeiled
import Derived.Test.YtpoklbfffgpbiaaGreatDoorJXAS
namespace Go.Proofs.YtpoklbfffgpbiaaGreatDoor
open Go.ChangeShapes Go.WideShapes Go.ChangeAt Go.RowKit
set_option maxRecDepth 20000
theorem is_mis (a:Nat) (w:World):(Instr.typeAssert (.iface 206 (.int .i64 a)) 20 206 true).run Tryz.prog w=.ok (.tuple #[.int .i64 a,.bool true]) w:=by
 simp [Instr.typeAssert,run_underlying Tryz.underlying206]
theorem catch_panicking (pa pe:Addr) (a:Nat) (x y:Value) (w:World) (hc:w.cell? pa=some x) (hz:w.frozen? pa=false) (hc':w.cell? pe=some y) (hz':w.frozen? pe=false) (hne:pa≠pe) :
  CallsD Tryz.prog 162 #[.pointer (some pa),.pointer (some pe)] (.panicking (mis a)) w fun e u' w' =>
   e=.returned (.tuple #[])∧u'=.panicking [{ v:=.iface 206 (.int .i64 a),recovered:=true }]∧w'=(w.setCell pa (.int .i64 a)).setCell pe (.iface 70 (.int .i64 2)):=by
 unfold mis
 refine callsD_of_wpS Tryz.func162 rfl fun c₀ cs hu=>?_
 apply wpS_seq
 apply wpS_region
 simp [wpOpsS,go_sem,recoverD,hu,Tryz.ntmps162,Exit.thenS]
 refine wpS_of_wp ?_
 change Code.wp _ _ _ { tmps := #[.pointer (some pa),.pointer (some pe),undef,undef,undef,.iface 206 (.int .i64 a),undef,undef,undef,undef,undef,undef,undef],defers:=[] } w
 have hm:=is_mis a
 have hz2:(w.setCell pa (.int .i64 a)).cell? pe=some y:=(World.cell?_setCell_other _ _ _ _ hne).trans hc'
 go_wp2
 simp [bodyPostS,results,Tryz.results162]
theorem catch_idle (pa pe:Addr) (w:World) :
  CallsD Tryz.prog 162 #[.pointer (some pa),.pointer (some pe)] .returning w fun e u' w'=>e=.returned (.tuple #[])∧u'=.returning∧w'=w:=by
 refine callsD_of_wpS Tryz.func162 rfl fun c₀ cs hu=>?_
 apply wpS_seq
 apply wpS_region
 simp [wpOpsS,go_sem,recoverD,hu,Tryz.ntmps162,Exit.thenS]
 refine wpS_of_wp ?_
 change Code.wp _ _ _ { tmps := #[.pointer (some pa),.pointer (some pe),undef,undef,undef,.nilIface,undef,undef,undef,undef,undef,undef,undef],defers:=[] } w
 go_wp2
 cases c₀
 simp_all [bodyPostS,results,Tryz.results162]
def readW (w:World) (s:ByteArray) (fv:Value):World:=((w.alloc (.cells #[.int .i64 0] 3)).alloc (.cells #[.nilIface] 27)).alloc (.cells #[.string s,.int .i64 0,.int .i64 0,fv] 208)
theorem readW_size (w:World) (s:ByteArray) (fv:Value):(readW w s fv).heap.size=w.heap.size+3:=by unfold readW;simp
theorem readW_below (w:World) (s:ByteArray) (fv:Value):Below w.heap.size w (readW w s fv):=by unfold readW;go_grown
theorem readW_rd (w:World) (s:ByteArray) (fv:Value):RdAt (readW w s fv) (w.heap.size+1+1) s 0 0 fv:=by
 unfold RdAt readW
 have h:=heap_alloc_new ((w.alloc (.cells #[.int .i64 0] 3)).alloc (.cells #[.nilIface] 27)) (.cells #[.string s,.int .i64 0,.int .i64 0,fv] 208)
 simpa using h
theorem readW_at (w:World) (s:ByteArray) (fv:Value):(readW w s fv).heap[w.heap.size]?=some (.cells #[.int .i64 0] 3 (0,0)):=by
 unfold readW
 rw [heap_alloc_old _ _ (by simp;omega),heap_alloc_old _ _ (by simp)]
 exact heap_alloc_new _ _
theorem readW_err (w:World) (s:ByteArray) (fv:Value):(readW w s fv).heap[w.heap.size+1]?=some (.cells #[.nilIface] 27 (0,0)):=by
 unfold readW
 rw [heap_alloc_old _ _ (by simp)]
 have h:=heap_alloc_new (w.alloc (.cells #[.int .i64 0] 3)) (.cells #[.nilIface] 27)
 simpa using h
theorem one_of {w:World} {q T:Nat} {v:Value} (h:w.heap[q]?=some (.cells #[v] T (0,0))):w.cell? ⟨q,0,none⟩=some v∧w.frozen? ⟨q,0,none⟩=false:=⟨by simp [World.cell?,h],by simp [World.frozen?,h]⟩
set_option maxHeartbeats 2000000 in
theorem fread_any {S:Type} (T:Tkr S) (hT:T.Ok) (s:ByteArray) (st:S) (w:World) (hs:s.size≤T.M) (hN:T.N=w.heap.size+3) (hp:T.p<w.heap.size) (hI:T.I st w) (hG:T.G 0 0 false st) (x:Rd S×Bool) (hx:allR s T.tk ⟨0,0,st⟩=x) :
  Calls Tryz.prog 146 #[.string s,T.fv] w fun e w'=>(Kept w.heap.size (fun k=>k=T.p) w w'∧T.N≤w'.heap.size)∧((x.2=true∧e=.returned (.tuple #[.int .i64 0,.nilIface])∧T.I x.1.st w'∧T.G x.1.at' x.1.opn true x.1.st)∨(x.2=false∧e=.returned (.tuple #[.int .i64 (x.1.at':Int),errV 2]))):=by
 have hmf:∀ (fn:Fn) (first cap:Array Value) (w:World),(Instr.makeFunc fn first cap).run Tryz.prog w=.ok (.func fn first cap) w:=fun _ _ _ _=>rfl
 have hbW:=readW_below w s T.fv
 have hz:=readW_size w s T.fv
 have hq:w.heap.size+1+1<T.N:=by omega
 have hqp:w.heap.size+1+1≠T.p:=by omega
 have hRS:RdS T (readW w s T.fv) (w.heap.size+1+1) s false ⟨0,0,st⟩:=⟨readW_rd w s T.fv,hT.stay _ _ _ _ hq hqp hI (grownF_below hbW),hG,Nat.zero_le _,Nat.le_refl _,by omega⟩
 have hall:=rall_any T hT (w.heap.size+1+1) s ⟨0,0,st⟩ (readW w s T.fv) hs hq hqp hRS
 rw [hx] at hall
 have HB:Hid (Below w.heap.size w (readW w s T.fv)):=hbW
 have HA:Hid ((readW w s T.fv).heap[w.heap.size]?=some (.cells #[.int .i64 0] 3 (0,0))):=readW_at w s T.fv
 have HE:Hid ((readW w s T.fv).heap[w.heap.size+1]?=some (.cells #[.nilIface] 27 (0,0))):=readW_err w s T.fv
 have HZ:Hid ((readW w s T.fv).heap.size=w.heap.size+3):=hz
 have HT:Hid T.Ok:=hT
 clear hbW hz hRS hI hG hT
 obtain ⟨W,hW⟩:∃ W,readW w s T.fv=W:=⟨_,rfl⟩
 rw [hW] at hall HB HA HE HZ
 have hq0:w.heap.size<T.N:=by omega
 have hq1:w.heap.size+1<T.N:=by omega
 have hq0p:w.heap.size≠T.p:=by omega
 have hq1p:w.heap.size+1≠T.p:=by omega
 have HF:Hid (∀ (w1:World) (u v:Value),w1.cell? ⟨w.heap.size,0,none⟩=some (.int .i64 0)→w1.cell? ⟨w.heap.size+1,0,none⟩=some .nilIface→Kept T.N (fun k=>k=T.p∨k=w.heap.size+1+1) W w1→((w1.setCell ⟨w.heap.size,0,none⟩ u).setCell ⟨w.heap.size+1,0,none⟩ v).cell? ⟨w.heap.size,0,none⟩=some u∧((w1.setCell ⟨w.heap.size,0,none⟩ u).setCell ⟨w.heap.size+1,0,none⟩ v).cell? ⟨w.heap.size+1,0,none⟩=some v∧Kept w.heap.size (fun k=>k=T.p) w ((w1.setCell ⟨w.heap.size,0,none⟩ u).setCell ⟨w.heap.size+1,0,none⟩ v)∧T.N≤((w1.setCell ⟨w.heap.size,0,none⟩ u).setCell ⟨w.heap.size+1,0,none⟩ v).heap.size):=by
  intro w1 u v h1 h2 h3
  refine ⟨?_,?_,⟨?_,?_,?_,?_,?_⟩,?_⟩
  ·rw [World.cell?_setCell_other _ _ _ _ (by simp)]
   exact World.cell?_setCell_same _ _ _ h1
  ·refine World.cell?_setCell_same _ _ _ (u:=.nilIface) ?_
   rw [World.cell?_setCell_other _ _ _ _ (by simp)]
   exact h2
  ·exact (show _ from h3.os).trans HB.out.os
  ·exact (show _ from h3.tape).trans HB.out.tape
  ·exact (show _ from h3.output).trans HB.out.output
  ·have:=h3.size;have:=HB.out.size;simp;omega
  ·intro k hk1 hk2
   rw [setCell_off _ _ _ _ _ (by omega),setCell_off _ _ _ _ _ (by omega),h3.block k (by omega) (by omega)]
   exact HB.out.block k hk1
  ·have:=h3.size;have:=HZ.out;simp;omega
 unfold readW Tkr.fv at hW
 unfold Tkr.fv
 go_enter_defers Tryz.func146,Tryz.ntmps146
 go_wp2_with fail
 refine hall.mono ?_
 rintro e w1 ⟨hk1,⟨e1,rfl,hR1⟩ | ⟨e1,rfl⟩⟩
 case inl =>
  have hk:∀ k,k<T.N→k≠T.p→k≠w.heap.size+1+1→w1.heap[k]?=W.heap[k]?:=fun k h1 h2 h3=>hk1.block k h1 (fun h=>h.elim h2 h3)
  have ca:=one_of ((hk w.heap.size (by omega) (by omega) (by omega)).trans HA.out)
  have ce:=one_of ((hk (w.heap.size+1) (by omega) (by omega) (by omega)).trans HE.out)
  obtain ⟨ca1,ca2⟩:=ca
  obtain ⟨ce1,ce2⟩:=ce
  have H1:Hid (x.2=true):=e1
  have HR1:Hid (RdS T w1 (w.heap.size+1+1) s true x.1):=hR1
  have HK1:Hid (Kept T.N (fun k=>k=T.p∨k=w.heap.size+1+1) W w1):=hk1
  clear e1 hR1 hk1 hall hk
  go_wp2_with fail
  refine leaves_cons (f:=162) (args := #[.pointer (some ⟨w.heap.size,0,none⟩),.pointer (some ⟨w.heap.size+1,0,none⟩)]) (by simp) (by simp [go_sem]) ?_
  refine (catch_idle ⟨w.heap.size,0,none⟩ ⟨w.heap.size+1,0,none⟩ _).mono ?_
  rintro e u' w'' ⟨rfl,rfl,rfl⟩
  obtain ⟨r1,r2,r3⟩:=HF.out w1 (.int .i64 0) .nilIface ca1 ce1 HK1.out
  have r4:=HT.out.stay _ _ _ _ hq1 hq1p (HT.out.stay _ _ _ _ hq0 hq0p HR1.out.mem (grownF_set (j:=0) (v:=.int .i64 0) (grownF_refl w1 (some w.heap.size)))) (grownF_set (j:=0) (v:=.nilIface) (grownF_refl _ (some (w.heap.size+1))))
  have hres:(results Tryz.f146 #[.string s,.func (.func T.F) T.first #[],undef,undef,.pointer (some ⟨w.heap.size,0,none⟩),.pointer (some ⟨w.heap.size+1,0,none⟩),.pointer (some ⟨w.heap.size+1+1,0,none⟩),.func (.func 162) #[] #[.pointer (some ⟨w.heap.size,0,none⟩),.pointer (some ⟨w.heap.size+1,0,none⟩)],.string s,.func (.func T.F) T.first #[],.agg #[.string s,.int .i64 0,.int .i64 0,.func (.func T.F) T.first #[]],.tuple #[]]).run Tryz.prog ((w1.setCell ⟨w.heap.size,0,none⟩ (.int .i64 0)).setCell ⟨w.heap.size+1,0,none⟩ .nilIface)=.ok (.tuple #[.int .i64 0,.nilIface]) ((w1.setCell ⟨w.heap.size,0,none⟩ (.int .i64 0)).setCell ⟨w.heap.size+1,0,none⟩ .nilIface):=by
   simp [results,Tryz.results146,go_sem,r1,r2]
  exact ⟨_,hres,r3,Or.inl ⟨H1.out,rfl,r4,HR1.out.good⟩⟩
 case inr =>
  have hk:∀ k,k<T.N→k≠T.p→k≠w.heap.size+1+1→w1.heap[k]?=W.heap[k]?:=fun k h1 h2 h3=>hk1.block k h1 (fun h=>h.elim h2 h3)
  have ca:=one_of ((hk w.heap.size (by omega) (by omega) (by omega)).trans HA.out)
  have ce:=one_of ((hk (w.heap.size+1) (by omega) (by omega) (by omega)).trans HE.out)
  obtain ⟨ca1,ca2⟩:=ca
  obtain ⟨ce1,ce2⟩:=ce
  have H1:Hid (x.2=false):=e1
  have HK1:Hid (Kept T.N (fun k=>k=T.p∨k=w.heap.size+1+1) W w1):=hk1
  clear e1 hk1 hall hk
  go_wp2_with fail
  refine leaves_cons (f:=162) (args := #[.pointer (some ⟨w.heap.size,0,none⟩),.pointer (some ⟨w.heap.size+1,0,none⟩)]) (by simp) (by simp [go_sem]) ?_
  refine (catch_panicking ⟨w.heap.size,0,none⟩ ⟨w.heap.size+1,0,none⟩ x.1.at' _ _ w1 ca1 ca2 ce1 ce2 (by simp)).mono ?_
  rintro e u' w'' ⟨rfl,rfl,rfl⟩
  obtain ⟨r1,r2,r3⟩:=HF.out w1 (.int .i64 x.1.at') (.iface 70 (.int .i64 2)) ca1 ce1 HK1.out
  have hres:(results Tryz.f146 #[.string s,.func (.func T.F) T.first #[],undef,undef,.pointer (some ⟨w.heap.size,0,none⟩),.pointer (some ⟨w.heap.size+1,0,none⟩),.pointer (some ⟨w.heap.size+1+1,0,none⟩),.func (.func 162) #[] #[.pointer (some ⟨w.heap.size,0,none⟩),.pointer (some ⟨w.heap.size+1,0,none⟩)],.string s,.func (.func T.F) T.first #[],.agg #[.string s,.int .i64 0,.int .i64 0,.func (.func T.F) T.first #[]],undef]).run Tryz.prog ((w1.setCell ⟨w.heap.size,0,none⟩ (.int .i64 x.1.at')).setCell ⟨w.heap.size+1,0,none⟩ (.iface 70 (.int .i64 2)))=.ok (.tuple #[.int .i64 (x.1.at':Int),.iface 70 (.int .i64 2)]) ((w1.setCell ⟨w.heap.size,0,none⟩ (.int .i64 x.1.at')).setCell ⟨w.heap.size+1,0,none⟩ (.iface 70 (.int .i64 2))):=by
   simp [results,Tryz.results146,go_sem,r1,r2]
  exact ⟨_,hres,r3,Or.inr ⟨H1.out,rfl⟩⟩
end Go.Proofs.YtpoklbfffgpbiaaGreatDoor
