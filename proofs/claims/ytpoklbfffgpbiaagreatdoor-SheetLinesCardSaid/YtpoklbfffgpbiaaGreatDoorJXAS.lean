/-
  What the reader of package formula does with all of a text, in whatever memory: it goes well, or ends by a panic at the byte that cannot stand there; what read answers, which recovers that panic.
-/
import Derived.Defers
import Derived.Recover
import Derived.Test.YtpoklbfffgpbiaaGreatDoorJXAR
namespace Go.Proofs.YtpoklbfffgpbiaaGreatDoor
open Go.ChangeShapes Go.WideShapes Go.ChangeAt Go.RowKit
set_option maxRecDepth 20000
section
variable {S:Type} {s:ByteArray} {tk:S→ByteArray→S} {r r1 r2:Rd S} {f:Nat}
theorem loop_end (h : ¬ r.at'<s.size):loopR s tk f r=(r,true):=by
 cases f with
 | zero=>rfl
 | succ k=>rw [loopR,if_neg h]
theorem loop_sgn (h:r.at'<s.size) (h1:(signR s tk r).2=false):loopR s tk (f+1) r=((signR s tk r).1,false):=by rw [loopR,if_pos h,if_neg (by rw [h1];decide)]
theorem loop_opd (h:r.at'<s.size) (h1:(signR s tk r).2=true) (h2:(operandR s tk (signR s tk r).1).2=false):loopR s tk (f+1) r=((operandR s tk (signR s tk r).1).1,false):=by rw [loopR,if_pos h,if_pos h1,if_neg (by rw [h2];decide)]
theorem loop_on (h:r.at'<s.size) (h1:(signR s tk r).2=true) (h2:(operandR s tk (signR s tk r).1).2=true):loopR s tk (f+1) r=loopR s tk f (operandR s tk (signR s tk r).1).1:=by rw [loopR,if_pos h,if_pos h1,if_pos h2]
theorem all_no (h:(operandR s tk r).2=false):allR s tk r=((operandR s tk r).1,false):=by rw [allR,if_neg (by rw [h];decide)]
theorem all_loop (h:(operandR s tk r).2=true) (h1:loopR s tk s.size (operandR s tk r).1=(r1,false)):allR s tk r=(r1,false):=by rw [allR,if_pos h,h1,if_neg (fun e=>Bool.noConfusion e)]
theorem all_end (h:(operandR s tk r).2=true) (h1:loopR s tk s.size (operandR s tk r).1=(r1,true)):allR s tk r=(r1,decide (r1.opn=0)):=by rw [allR,if_pos h,h1,if_pos rfl]
theorem sign_at (h1:(signR s tk r).2=true):(signR s tk r).1.at'=r.at'+1:=by
 unfold signR at *
 split
 ·rename_i h;rw [if_pos h] at h1;cases h1
 ·rfl
theorem opens_at:∀ (f:Nat) (r:Rd S),r.at'≤(opensR s tk f r).at'
 | 0,r=>Nat.le_refl _
 | f+1,r=>by
  rw [opensR]
  split
  ·exact Nat.le_trans (by simp [wordR]) (opens_at f _)
  ·exact Nat.le_refl _
theorem closes_at:∀ (f:Nat) (r:Rd S),r.at'≤(closesR s tk f r).at'
 | 0,r=>Nat.le_refl _
 | f+1,r=>by
  rw [closesR]
  split
  ·exact Nat.le_trans (by simp [wordR]) (closes_at f _)
  ·exact Nat.le_refl _
theorem operand_at (r:Rd S):r.at'≤(operandR s tk r).1.at':=by
 have h1:r.at'≤(openedR s tk r).at':=opens_at _ r
 unfold operandR
 split
 ·exact Nat.le_trans (Nat.le_trans h1 (by simp [wordR])) (closes_at _ _)
 ·split
  ·exact Nat.le_trans (Nat.le_trans h1 (by simp [wordR])) (closes_at _ _)
  ·exact h1
end
set_option maxHeartbeats 4000000 in
theorem rall_any {S:Type} (T:Tkr S) (hT:T.Ok) (q:Nat) (s:ByteArray) (r:Rd S) (w:World) (hs:s.size≤T.M) (hq:q<T.N) (hqp:q≠T.p) (hR:RdS T w q s false r) :
  Calls Tryz.prog 163 #[.pointer (some ⟨q,0,none⟩)] w fun e w'=>Went T q s true w (allR s T.tk r) e w':=by
 have HR:Hid (RdS T w q s false r):=hR
 have HT:Hid T.Ok:=hT
 have hsm:=hT.small
 have h0:=operand_any T hT q s r w hs hq hqp hR
 clear hR hT
 go_enter Tryz.func163,Tryz.ntmps163
 go_wp2_with fail
 refine h0.mono ?_
 rintro e w1 ⟨hk1,⟨e1,rfl,hR1⟩ | ⟨e1,rfl⟩⟩
 case inr =>
  have HA:Hid (allR s T.tk r=((operandR s T.tk r).1,false)):=all_no e1
  clear e1 h0
  go_wp2_with fail
  exact ⟨rfl,Went.no HA.out hk1⟩
 case inl =>
  have H1:Hid ((operandR s T.tk r).2=true):=e1
  have HR1:Hid (RdS T w1 q s true (operandR s T.tk r).1):=hR1
  have HK1:Hid (Kept T.N (fun k=>k=T.p∨k=q) w w1):=hk1
  clear e1 hR1 hk1 h0
  obtain ⟨r1,hr1⟩:∃ r1,(operandR s T.tk r).1=r1:=⟨_,rfl⟩
  have HE:Hid ((operandR s T.tk r).1=r1):=hr1
  rw [hr1] at HR1
  clear hr1
  go_wp2_with fail
  go_loopg [] s.size (fun g wj => ∃ (r5:Rd S),loopR s T.tk g r5=loopR s T.tk s.size r1∧s.size-r5.at'≤g∧RdS T wj q s true r5∧Kept T.N (fun k=>k=T.p∨k=q) w wj)
  case atStart=>exact ⟨r1,rfl,by omega,HR1.out,HK1.out⟩
  case round =>
   obtain ⟨r5,hcl,hg5,hR5,hk5⟩:=hrel
   have HQ:Hid (loopR s T.tk gk r5=loopR s T.tk s.size r1):=hcl
   have HRa:Hid (RdS T wr q s true r5):=hR5
   have HKa:Hid (Kept T.N (fun k=>k=T.p∨k=q) w wr):=hk5
   have c0:=hR5.rd.c0
   have c1:=hR5.rd.c1
   have hinn5:=hR5.inn
   clear hcl hR5 hk5
   by_cases hlt:r5.at'<s.size
   ·have hli:(r5.at':Int)<(s.size:Int):=by omega
    obtain ⟨g',hg'⟩:∃ g',gk=g'+1:=⟨gk-1,by omega⟩
    have HG:Hid (gk=g'+1):=hg'
    clear hg'
    go_wp2_with fail
    go_quiet (fail)
    rename_i nq
    have hbq:Below wr.heap.size wr (wr.drewN nq):=below_drewN (Below.refl _ _) nq
    have HRb:Hid (RdS T (wr.drewN nq) q s true r5):=HRa.out.later HT.out hq hqp hbq
    have HKb:Hid (Kept T.N (fun k=>k=T.p∨k=q) w (wr.drewN nq)):=HKa.out.trans (kept_below hbq HRa.out.room)
    have hsg:=sign_any T HT.out q s r5 (wr.drewN nq) hs hq hqp HRb.out
    clear hbq
    go_wp2_with fail
    refine hsg.mono ?_
    rintro e w2 ⟨hk2,⟨e2,rfl,hR2⟩ | ⟨e2,rfl⟩⟩
    case inr =>
     have HA:Hid (allR s T.tk r=((signR s T.tk r5).1,false)):=by
      refine all_loop H1.out ?_
      rw [HE.out,←HQ.out,HG.out,loop_sgn hlt e2]
     have HK2:=HKb.out.trans hk2
     clear e2 hsg hk2
     go_wp2_with fail
     exact ⟨rfl,Went.no HA.out HK2⟩
    case inl =>
     have H2:Hid ((signR s T.tk r5).2=true):=e2
     have HK2:Hid (Kept T.N (fun k=>k=T.p∨k=q) w w2):=HKb.out.trans hk2
     have HR2:Hid (RdS T w2 q s false (signR s T.tk r5).1):=hR2
     have hop:=operand_any T HT.out q s (signR s T.tk r5).1 w2 hs hq hqp hR2
     clear e2 hsg hk2 hR2
     go_wp2_with fail
     refine hop.mono ?_
     rintro e w3 ⟨hk3,⟨e3,rfl,hR3⟩ | ⟨e3,rfl⟩⟩
     case inr =>
      have HA:Hid (allR s T.tk r=((operandR s T.tk (signR s T.tk r5).1).1,false)):=by
       refine all_loop H1.out ?_
       rw [HE.out,←HQ.out,HG.out,loop_opd hlt H2.out e3]
      have HK3:=HK2.out.trans hk3
      clear e3 hop hk3
      go_wp2_with fail
      exact ⟨rfl,Went.no HA.out HK3⟩
     case inl =>
      have HN:Hid (loopR s T.tk (g'+1) r5=loopR s T.tk g' (operandR s T.tk (signR s T.tk r5).1).1):=loop_on hlt H2.out e3
      have HK3:Hid (Kept T.N (fun k=>k=T.p∨k=q) w w3):=HK2.out.trans hk3
      have HR3:Hid (RdS T w3 q s true (operandR s T.tk (signR s T.tk r5).1).1):=hR3
      have hat:=operand_at (s:=s) (tk:=T.tk) (signR s T.tk r5).1
      rw [sign_at H2.out] at hat
      clear e3 hop hk3 hR3
      go_wp2_with fail
      go_roundg g'
      case measure=>have:=HG.out;omega
      case rel=>exact ⟨_,by rw [←HN.out,←HG.out,HQ.out],by have:=HG.out;omega,HR3.out,HK3.out⟩
   ·have hli:(s.size:Int)≤(r5.at':Int):=by omega
    have HL:Hid (loopR s T.tk s.size (operandR s T.tk r).1=(r5,true)):=by show _=_;rw [HE.out,←HQ.out,loop_end hlt]
    have HA:Hid (allR s T.tk r=(r5,decide (r5.opn=0))):=all_end H1.out HL.out
    go_wp2_with fail
    go_quiet (fail)
    rename_i nq
    have hbq:Below wr.heap.size wr (wr.drewN nq):=below_drewN (Below.refl _ _) nq
    have HRb:Hid (RdS T (wr.drewN nq) q s true r5):=HRa.out.later HT.out hq hqp hbq
    have HKb:Hid (Kept T.N (fun k=>k=T.p∨k=q) w (wr.drewN nq)):=HKa.out.trans (kept_below hbq HRa.out.room)
    have d2:=HRb.out.rd.c2
    clear hbq
    by_cases ho:r5.opn=0
    ·have hoi:(r5.opn:Int)=0:=by omega
     have HA2:Hid (allR s T.tk r=(r5,true)):=by show _=_;rw [HA.out,decide_eq_true ho]
     rw [hoi] at d2
     go_wp2_with fail
     first | go_end0 | skip
     exact Went.ok HA2.out HKb.out HRb.out
    ·have hoi:0<(r5.opn:Int):=by omega
     have HA2:Hid (allR s T.tk r=(r5,false)):=by show _=_;rw [HA.out,decide_eq_false ho]
     go_wp2_with fail
     refine (stop_any q r5.at' r5.opn s T.fv _ HRb.out.rd).mono ?_
     rintro e w5 ⟨rfl,hb5⟩
     go_wp2_with fail
     exact ⟨rfl,Went.no HA2.out (HKb.out.trans (kept_below hb5 HRb.out.room))⟩
end Go.Proofs.YtpoklbfffgpbiaaGreatDoor
