/-
  What the reader of package formula does with an operand and the brackets about it, in whatever memory.
-/
import Derived.Test.YtnlfpaopfloklaaGreatDoorJEAJ
namespace Go.Proofs.YtnlfpaopfloklaaGreatDoor
open Go.ChangeShapes Go.WideShapes Go.ChangeAt Go.RowKit
set_option maxRecDepth 20000
section
variable {S:Type} {s:ByteArray} {tk:S→ByteArray→S} {r:Rd S}
theorem opens_hit (hr:r.at'<s.size) (h:nextB s r.at'=40):opensR s tk (s.size-r.at') r=opensR s tk (s.size-(r.at'+1)) (wordR s tk 1 ⟨r.at',r.opn+1,r.st⟩):=by
 rw [show s.size-r.at'=(s.size-(r.at'+1))+1 by omega,opensR,if_pos h]
theorem opens_miss (h:nextB s r.at'≠40):opensR s tk (s.size-r.at') r=r:=by
 cases e:s.size-r.at' with
 | zero=>rfl
 | succ k=>rw [opensR,if_neg h]
theorem closes_hit {f:Nat} (h1:0<r.opn) (h:nextB s r.at'=41):closesR s tk (f+1) r=closesR s tk f (wordR s tk 1 ⟨r.at',r.opn-1,r.st⟩):=by rw [closesR,if_pos ⟨h1,h⟩]
theorem closes_miss {f:Nat} (h : ¬ (0<r.opn∧nextB s r.at'=41)):closesR s tk f r=r:=by
 cases f with
 | zero=>rfl
 | succ k=>rw [closesR,if_neg h]
theorem opnd_dig (h:digB (nextB s (openedR s tk r).at')=true):operandR s tk r=(closesR s tk s.size (wordR s tk (digitsN s (openedR s tk r).at') (openedR s tk r)),true):=by rw [operandR,if_pos h]
theorem opnd_let (h0:digB (nextB s (openedR s tk r).at')=false) (h:letB (nextB s (openedR s tk r).at')=true):operandR s tk r=(closesR s tk s.size (wordR s tk (leadN letB (s.extract (openedR s tk r).at' s.size)) (openedR s tk r)),true):=by
 rw [operandR,if_neg (by rw [h0];decide),if_pos h]
theorem opnd_no (h0:digB (nextB s (openedR s tk r).at')=false) (h:letB (nextB s (openedR s tk r).at')=false):operandR s tk r=(openedR s tk r,false):=by
 rw [operandR,if_neg (by rw [h0];decide),if_neg (by rw [h];decide)]
end
theorem leadTo_all (p:Int→Bool) (t:ByteArray):∀ f i,i≤leadTo p t f i∧leadTo p t f i≤i+f∧∀ j,i≤j→j<leadTo p t f i→p (byteN t j)=true
 | 0,i=>⟨Nat.le_refl _,Nat.le_refl _,fun j h1 h2=>by simp only [leadTo] at h2;omega⟩
 | f+1,i=>by
  by_cases h:p (byteN t i)=true
  ·obtain ⟨h1,h2,h3⟩:=leadTo_all p t f (i+1)
   rw [leadTo,if_pos h]
   refine ⟨by omega,by omega,fun j hj hj'=>?_⟩
   by_cases e:i=j
   ·rw [←e];exact h
   ·exact h3 j (by omega) hj'
  ·rw [leadTo,if_neg h]
   exact ⟨Nat.le_refl _,by omega,fun j h1 h2=>by omega⟩
theorem lead_pos {p:Int→Bool} {t:ByteArray} (h0:0<t.size) (h:p (byteN t 0)=true):1≤leadN p t:=by
 unfold leadN
 obtain ⟨k,hk⟩:∃ k,t.size=k+1:=⟨t.size-1,by omega⟩
 rw [hk,leadTo,if_pos h]
 exact (leadTo_all p t k 1).1
theorem lead_word {p:Int→Bool} {s:ByteArray} {a n:Nat} (ha:a<s.size) (h:p (nextB s a)=true) (hn:n≤leadN p (s.extract a s.size)):1≤leadN p (s.extract a s.size)∧a+n≤s.size∧∀ i,i<n→p (byteN (s.extract a (a+n)) i)=true:=by
 obtain ⟨_,h2,h3⟩:=leadTo_all p (s.extract a s.size) (s.extract a s.size).size 0
 have hsz:=tail_size s a
 unfold leadN at *
 have h0:byteN (s.extract a s.size) 0=nextB s a:=by rw [byteN_ext (by omega),next_at ha];rfl
 refine ⟨lead_pos (by omega) (by rw [h0];exact h),by omega,fun i hi=>?_⟩
 have:=h3 i (Nat.zero_le _) (by omega)
 rw [byteN_ext (by omega)] at this ⊢
 exact this
theorem dig_word {s:ByteArray} {a o:Nat} (ha:a≤s.size) (h:digB (nextB s a)=true):a+digitsN s a≤s.size∧Stp o false (s.extract a (a+digitsN s a)) o true:=by
 have hlt:a<s.size:=next_zero (fun e=>by rw [e] at h;revert h;decide) ha
 have hle:1≤digitsN s a∧digitsN s a≤7∧digitsN s a≤leadN digB (s.extract a s.size):=by
  have:=(lead_word (n:=0) hlt h (Nat.zero_le _)).1
  unfold digitsN
  split <;> omega
 obtain ⟨-,h2,h3⟩:=lead_word hlt h hle.2.2
 refine ⟨h2,Stp.num o _ ?_ ?_ fun i hi=>h3 i ?_⟩
 ·rw [slice_ok h2];exact hle.1
 ·rw [slice_ok h2];exact hle.2.1
 ·rw [slice_ok h2] at hi;exact hi
theorem let_word {s:ByteArray} {a o:Nat} (ha:a≤s.size) (h:letB (nextB s a)=true):a+leadN letB (s.extract a s.size)≤s.size∧Stp o false (s.extract a (a+leadN letB (s.extract a s.size))) o true:=by
 have hlt:a<s.size:=next_zero (fun e=>by rw [e] at h;revert h;decide) ha
 obtain ⟨h1,h2,h3⟩:=lead_word hlt h (Nat.le_refl _)
 refine ⟨h2,Stp.nam o _ ?_ fun i hi=>h3 i ?_⟩
 ·rw [slice_ok h2];exact h1
 ·rw [slice_ok h2] at hi;exact hi
theorem opn_word {s:ByteArray} {a o:Nat} (ha:a≤s.size) (h:nextB s a=40):a+1≤s.size∧Stp o false (s.extract a (a+1)) (o+1) false:=by
 have hlt:a<s.size:=next_zero (by rw [h];decide) ha
 refine ⟨hlt,Stp.opn o _ (slice_ok hlt) ?_⟩
 rw [byteN_ext (by omega),Nat.add_zero,←next_at hlt]
 exact h
theorem cls_word {s:ByteArray} {a o:Nat} (ha:a≤s.size) (h:nextB s a=41):a+1≤s.size∧Stp (o+1) true (s.extract a (a+1)) o true:=by
 have hlt:a<s.size:=next_zero (by rw [h];decide) ha
 refine ⟨hlt,Stp.cls o _ (slice_ok hlt) ?_⟩
 rw [byteN_ext (by omega),Nat.add_zero,←next_at hlt]
 exact h
theorem RdS.open {S:Type} {T:Tkr S} {w:World} {q:Nat} {s:ByteArray} {ph:Bool} {r:Rd S} (hT:T.Ok) (hq:q<T.N) (hqp:q≠T.p) (h:RdS T w q s ph r) (o:Nat) :
  RdAt (w.setCell ⟨q,2,none⟩ (.int .i64 o)) q s r.at' o T.fv∧T.I r.st (w.setCell ⟨q,2,none⟩ (.int .i64 o))∧T.N≤(w.setCell ⟨q,2,none⟩ (.int .i64 o)).heap.size∧Kept T.N (fun k=>k=T.p∨k=q) w (w.setCell ⟨q,2,none⟩ (.int .i64 o)):=by
 have hg:w.grownBy (w.setCell ⟨q,2,none⟩ (.int .i64 o)) (some q):=grownF_set (grownF_refl w _)
 exact ⟨h.rd.set2 o,hT.stay q _ _ _ hq hqp h.mem hg,Nat.le_trans h.room hg.size,kept_grown hg h.room (Or.inr rfl)⟩
set_option maxHeartbeats 4000000 in
theorem operand_any {S:Type} (T:Tkr S) (hT:T.Ok) (q:Nat) (s:ByteArray) (r:Rd S) (w:World) (hs:s.size≤T.M) (hq:q<T.N) (hqp:q≠T.p) (hR:RdS T w q s false r) :
  Calls Tryz.prog 200 #[.pointer (some ⟨q,0,none⟩)] w fun e w'=>Went T q s true w (operandR s T.tk r) e w':=by
 have HR:Hid (RdS T w q s false r):=hR
 have HT:Hid T.Ok:=hT
 have hsm:=hT.small
 clear hR hT
 go_enter Tryz.func200,Tryz.ntmps200
 go_wp2_with fail
 go_loopg [] (s.size-r.at') (fun g wr => ∃ (r1:Rd S),g=s.size-r1.at'∧opensR s T.tk (s.size-r1.at') r1=openedR s T.tk r∧RdS T wr q s false r1∧Kept T.N (fun k=>k=T.p∨k=q) w wr)
 case atStart=>exact ⟨r,rfl,rfl,HR.out,Kept.refl _ _ _⟩
 case round =>
  obtain ⟨r1,rfl,ho,hR1,hk⟩:=hrel
  have HO:Hid (opensR s T.tk (s.size-r1.at') r1=openedR s T.tk r):=ho
  have HR1:Hid (RdS T wr q s false r1):=hR1
  have HK1:Hid (Kept T.N (fun k=>k=T.p∨k=q) w wr):=hk
  have hnx:=next_any q r1.at' r1.opn s T.fv wr hR1.inn hR1.rd
  have hfew:=hR1.few
  have hinn:=hR1.inn
  clear ho hk hR1
  by_cases h40:nextB s r1.at'=40
  ·obtain ⟨k1,k2⟩:=opn_word (o:=r1.opn) hinn h40
   have HS:Hid (Stp r1.opn false (s.extract r1.at' (r1.at'+1)) (r1.opn+1) false):=k2
   have HN:Hid (opensR s T.tk (s.size-r1.at') r1=opensR s T.tk (s.size-(r1.at'+1)) (wordR s T.tk 1 ⟨r1.at',r1.opn+1,r1.st⟩)):=opens_hit k1 h40
   rw [h40] at hnx
   clear h40 k2
   go_wp2_with fail
   refine hnx.mono ?_
   rintro e w1 ⟨rfl,hb1⟩
   have HR2:Hid (RdS T w1 q s false r1):=HR1.out.later HT.out hq hqp hb1
   have HK2:Hid (Kept T.N (fun k=>k=T.p∨k=q) w w1):=HK1.out.trans (kept_below hb1 HR1.out.room)
   have c2:=HR2.out.rd.c2
   have f2:=HR2.out.rd.fr 2
   obtain ⟨o1,hoe⟩:∃ o1,r1.opn+1=o1:=⟨_,rfl⟩
   have hsum:(r1.opn:Int)+1=(o1:Int):=by omega
   have hbig:(o1:Int)≤4611686018427387904:=by omega
   obtain ⟨W,hW⟩:∃ W,w1.setCell ⟨q,2,none⟩ (.int .i64 (o1:Int))=W:=⟨_,rfl⟩
   obtain ⟨g1,g2,g3,g4⟩:=RdS.open HT.out hq hqp HR2.out o1
   rw [hW] at g1 g2 g3 g4
   have HRW:Hid (RdAt W q s r1.at' o1 T.fv∧T.I r1.st W∧T.N≤W.heap.size∧Kept T.N (fun k=>k=T.p∨k=q) w1 W):=⟨g1,g2,g3,g4⟩
   rw [hoe] at HS HN
   clear hb1 hnx g1 g2 g3 g4
   go_wp2_with fail
   refine (word_any T HT.out q r1.at' r1.opn o1 1 o1 false false s r1.st W hs k1 hq hqp HRW.out.2.2.1 HRW.out.1 HRW.out.2.1 HR1.out.good HS.out).mono ?_
   rintro e w3 ⟨rfl,g1,g2,g3⟩
   have HK3:Hid (Kept T.N (fun k=>k=T.p∨k=q) w w3):=(HK2.out.trans HRW.out.2.2.2).trans g3
   have HR3:Hid (RdS T w3 q s false (wordR s T.tk 1 ⟨r1.at',o1,r1.st⟩)):=RdS.word HT.out hs k1 HR1.out.good HS.out (by omega) HRW.out.2.2.1 g1 g2 g3
   clear g1 g2 g3
   go_wp2_with fail
   go_roundg (s.size-(r1.at'+1))
   case measure=>omega
   case rel=>exact ⟨wordR s T.tk 1 ⟨r1.at',o1,r1.st⟩,rfl,by rw [←HO.out,HN.out];rfl,HR3.out,HK3.out⟩
  ·have HO2:Hid (openedR s T.tk r=r1):=by show _=_;rw [←HO.out];exact opens_miss h40
   have h40':(nextB s r1.at' == 40)=false:=by simpa using h40
   obtain ⟨c,hc⟩:∃ c,nextB s r1.at'=c:=⟨_,rfl⟩
   have HC:Hid (nextB s r1.at'=c):=hc
   rw [hc] at hnx h40'
   clear h40 hc
   go_wp2_with fail
   refine hnx.mono ?_
   rintro e w1 ⟨rfl,hb1⟩
   have HR2:Hid (RdS T w1 q s false r1):=HR1.out.later HT.out hq hqp hb1
   have HK2:Hid (Kept T.N (fun k=>k=T.p∨k=q) w w1):=HK1.out.trans (kept_below hb1 HR1.out.room)
   have hnx2:=next_any q r1.at' r1.opn s T.fv w1 hinn HR2.out.rd
   rw [HC.out] at hnx2
   clear hb1 hnx
   go_wp2_with fail
   refine hnx2.mono ?_
   rintro e w2 ⟨rfl,hb2⟩
   have HR3:Hid (RdS T w2 q s false r1):=HR2.out.later HT.out hq hqp hb2
   have HK3:Hid (Kept T.N (fun k=>k=T.p∨k=q) w w2):=HK2.out.trans (kept_below hb2 HR2.out.room)
   clear hb2 hnx2
   have hdg:=isdig_any c
   have hlt:=islet_any c
   cases hd:digB c
   ·rw [hd] at hdg
    cases hl:letB c
    ·rw [hl] at hlt
     have HD:Hid (operandR s T.tk r=(r1,false)):=by
      have h:=opnd_no (s:=s) (tk:=T.tk) (r:=r) (by rw [HO2.out,HC.out];exact hd) (by rw [HO2.out,HC.out];exact hl)
      rw [HO2.out] at h
      exact h
     clear hd hl
     go_wp2_with fail
     refine (hdg _).mono ?_
     rintro e w3 ⟨rfl,hb3⟩
     have HR4:Hid (RdS T w3 q s false r1):=HR3.out.later HT.out hq hqp hb3
     have HK4:Hid (Kept T.N (fun k=>k=T.p∨k=q) w w3):=HK3.out.trans (kept_below hb3 HR3.out.room)
     clear hb3 hdg
     go_wp2_with fail
     refine (hlt _).mono ?_
     rintro e w4 ⟨rfl,hb4⟩
     have HR5:Hid (RdS T w4 q s false r1):=HR4.out.later HT.out hq hqp hb4
     have HK5:Hid (Kept T.N (fun k=>k=T.p∨k=q) w w4):=HK4.out.trans (kept_below hb4 HR4.out.room)
     clear hb4 hlt
     go_wp2_with fail
     refine (stop_any q r1.at' r1.opn s T.fv w4 HR5.out.rd).mono ?_
     rintro e w5 ⟨rfl,hb5⟩
     go_wp2_with fail
     exact ⟨rfl,Went.no HD.out (HK5.out.trans (kept_below hb5 HR5.out.room))⟩
    ·rw [hl] at hlt
     have HD:Hid (operandR s T.tk r=(closesR s T.tk s.size (wordR s T.tk (leadN letB (s.extract r1.at' s.size)) r1),true)):=by
      have h:=opnd_let (s:=s) (tk:=T.tk) (r:=r) (by rw [HO2.out,HC.out];exact hd) (by rw [HO2.out,HC.out];exact hl)
      rw [HO2.out] at h
      exact h
     obtain ⟨k1,k2⟩:=let_word (o:=r1.opn) hinn (by rw [HC.out];exact hl)
     have HS:Hid (Stp r1.opn false (s.extract r1.at' (r1.at'+leadN letB (s.extract r1.at' s.size))) r1.opn true):=k2
     have HL:Hid (∀ w',Calls Tryz.prog 221 #[.string (s.extract r1.at' s.size),.func (.func 198) #[] #[]] w' fun e w''=>e=.returned (.int .i64 (leadN letB (s.extract r1.at' s.size)))∧Below w'.heap.size w' w''):=fun w'=>leadl_any _ w' (by rw [tail_size];omega)
     have ha':(r1.at':Int)≤(s.size:Int):=by omega
     have hs':(s.size:Int)≤4611686018427387904:=by omega
     clear k2 hd hl
     go_wp2_with fail
     refine (hdg _).mono ?_
     rintro e w3 ⟨rfl,hb3⟩
     have HR4:Hid (RdS T w3 q s false r1):=HR3.out.later HT.out hq hqp hb3
     have HK4:Hid (Kept T.N (fun k=>k=T.p∨k=q) w w3):=HK3.out.trans (kept_below hb3 HR3.out.room)
     clear hb3 hdg
     go_wp2_with fail
     refine (hlt _).mono ?_
     rintro e w4 ⟨rfl,hb4⟩
     have HR5:Hid (RdS T w4 q s false r1):=HR4.out.later HT.out hq hqp hb4
     have HK5:Hid (Kept T.N (fun k=>k=T.p∨k=q) w w4):=HK4.out.trans (kept_below hb4 HR4.out.room)
     have c0:=HR5.out.rd.c0
     have c1:=HR5.out.rd.c1
     clear hb4 hlt
     generalize leadN letB (s.extract r1.at' s.size)=n at *
     have HWd:Hid (∀ w',Below w4.heap.size w4 w'→Calls Tryz.prog 218 #[.pointer (some ⟨q,0,none⟩),.int .i64 n] w' fun e w5=>e=.returned (.tuple #[])∧Kept T.N (fun k=>k=T.p∨k=q) w w5∧RdS T w5 q s true (wordR s T.tk n r1)):=by
      intro w' hb
      have h5:=HR5.out.later HT.out hq hqp hb
      refine (word_any T HT.out q r1.at' r1.opn r1.opn n r1.opn false true s r1.st w' hs k1 hq hqp h5.room h5.rd h5.mem HR1.out.good HS.out).mono ?_
      rintro e w5 ⟨rfl,g1,g2,g3⟩
      exact ⟨rfl,(HK5.out.trans (kept_below hb HR5.out.room)).trans g3,RdS.word (r:=r1) (o':=r1.opn) HT.out hs k1 HR1.out.good HS.out (by omega) h5.room g1 g2 g3⟩
     go_wp2_with fail
     go_region_law ((first
      | (go_simp;refine (HL.out _).mono ?_;rintro e x5 ⟨rfl,hb5⟩;have hN5:=onB (W0:=w4) (by go_grown) hb5;clear hb5)
      | (go_simp;refine (HWd.out _ (onB hN5 (by go_grown))).mono ?_;rintro e x6 ⟨rfl,hK6,hR6⟩)))
     all_goals
      have HK6:Hid (Kept T.N (fun k=>k=T.p∨k=q) w x6):=hK6
      have HR6:Hid (RdS T x6 q s true (wordR s T.tk n r1)):=hR6
      clear hK6 hR6 HWd HL
      generalize wordR s T.tk n r1=r4 at *
      go_wp2_with fail
      go_loopg [] s.size (fun g wj => ∃ (r5:Rd S),closesR s T.tk g r5=closesR s T.tk s.size r4∧s.size-r5.at'≤g∧RdS T wj q s true r5∧Kept T.N (fun k=>k=T.p∨k=q) w wj)
      case atStart=>exact ⟨r4,rfl,by omega,HR6.out,HK6.out⟩
      case round =>
       obtain ⟨r5,hcl,hg5,hR5,hk5⟩:=hrel
       have HQ:Hid (closesR s T.tk gk r5=closesR s T.tk s.size r4):=hcl
       have HRa:Hid (RdS T wr q s true r5):=hR5
       have HKa:Hid (Kept T.N (fun k=>k=T.p∨k=q) w wr):=hk5
       have c2:=hR5.rd.c2
       have hfew5:=hR5.few
       have hinn5:=hR5.inn
       have hnx5:=next_any q r5.at' r5.opn s T.fv wr hR5.inn hR5.rd
       clear hcl hR5 hk5
       by_cases ho0:r5.opn=0
       ·have HE:Hid (operandR s T.tk r=(r5,true)):=by show _=_;rw [HD.out,←HQ.out,closes_miss (by omega)]
        have hoi:(r5.opn:Int)=0:=by omega
        rw [hoi] at c2
        go_wp2_with fail
        first | go_end0 | skip
        exact Went.ok HE.out HKa.out HRa.out
       ·have hoi:0<(r5.opn:Int):=by omega
        by_cases h41:nextB s r5.at'=41
        ·obtain ⟨o1,hoe⟩:∃ o1,r5.opn=o1+1:=⟨r5.opn-1,by omega⟩
         obtain ⟨m1,m2⟩:=cls_word (o:=o1) hinn5 h41
         have HS5:Hid (Stp (o1+1) true (s.extract r5.at' (r5.at'+1)) o1 true):=m2
         obtain ⟨g',hg'⟩:∃ g',gk=g'+1:=⟨gk-1,by omega⟩
         have HN5:Hid (closesR s T.tk (g'+1) r5=closesR s T.tk g' (wordR s T.tk 1 ⟨r5.at',o1,r5.st⟩)):=by
          have h:=closes_hit (tk:=T.tk) (f:=g') (r:=r5) (s:=s) (by omega) h41
          rw [show r5.opn-1=o1 by omega] at h
          exact h
         have HG:Hid (gk=g'+1):=hg'
         rw [h41] at hnx5
         clear h41 m2 hg'
         go_wp2_with fail
         refine hnx5.mono ?_
         rintro e x1 ⟨rfl,hb6⟩
         have HRb:Hid (RdS T x1 q s true r5):=HRa.out.later HT.out hq hqp hb6
         have HKb:Hid (Kept T.N (fun k=>k=T.p∨k=q) w x1):=HKa.out.trans (kept_below hb6 HRa.out.room)
         have d2:=HRb.out.rd.c2
         have f2:=HRb.out.rd.fr 2
         have hsum:(r5.opn:Int)-1=(o1:Int):=by omega
         have hbig:(o1:Int)≤4611686018427387904:=by omega
         obtain ⟨W,hW⟩:∃ W,x1.setCell ⟨q,2,none⟩ (.int .i64 (o1:Int))=W:=⟨_,rfl⟩
         obtain ⟨g1,g2,g3,g4⟩:=RdS.open HT.out hq hqp HRb.out o1
         rw [hW] at g1 g2 g3 g4
         have HRW:Hid (RdAt W q s r5.at' o1 T.fv∧T.I r5.st W∧T.N≤W.heap.size∧Kept T.N (fun k=>k=T.p∨k=q) x1 W):=⟨g1,g2,g3,g4⟩
         clear hb6 hnx5 g1 g2 g3 g4 c2
         go_wp2_with fail
         refine (word_any T HT.out q r5.at' (o1+1) o1 1 o1 true true s r5.st W hs m1 hq hqp HRW.out.2.2.1 HRW.out.1 HRW.out.2.1 (by rw [←hoe];exact HRb.out.good) HS5.out).mono ?_
         rintro e x3 ⟨rfl,g1,g2,g3⟩
         have HKc:Hid (Kept T.N (fun k=>k=T.p∨k=q) w x3):=(HKb.out.trans HRW.out.2.2.2).trans g3
         have HRc:Hid (RdS T x3 q s true (wordR s T.tk 1 ⟨r5.at',o1,r5.st⟩)):=RdS.word HT.out hs m1 (by rw [←hoe];exact HRb.out.good) HS5.out (by omega) HRW.out.2.2.1 g1 g2 g3
         clear g1 g2 g3
         go_wp2_with fail
         go_roundg g'
         case measure=>have:=HG.out;omega
         case rel=>exact ⟨wordR s T.tk 1 ⟨r5.at',o1,r5.st⟩,by rw [←HN5.out,←HG.out,HQ.out],by have:=HG.out;show s.size-(r5.at'+1)≤g';omega,HRc.out,HKc.out⟩
        ·have HE:Hid (operandR s T.tk r=(r5,true)):=by show _=_;rw [HD.out,←HQ.out,closes_miss (fun h=>h41 h.2)]
         have h41':(nextB s r5.at' == 41)=false:=by simpa using h41
         generalize nextB s r5.at'=c5 at *
         go_wp2_with fail
         refine hnx5.mono ?_
         rintro e x1 ⟨rfl,hb6⟩
         have HRb:Hid (RdS T x1 q s true r5):=HRa.out.later HT.out hq hqp hb6
         have HKb:Hid (Kept T.N (fun k=>k=T.p∨k=q) w x1):=HKa.out.trans (kept_below hb6 HRa.out.room)
         go_wp2_with fail
         first | go_end0 | skip
         exact Went.ok HE.out HKb.out HRb.out
   ·rw [hd] at hdg
    have HD:Hid (operandR s T.tk r=(closesR s T.tk s.size (wordR s T.tk (digitsN s r1.at') r1),true)):=by
     have h:=opnd_dig (s:=s) (tk:=T.tk) (r:=r) (by rw [HO2.out,HC.out];exact hd)
     rw [HO2.out] at h
     exact h
    obtain ⟨k1,k2⟩:=dig_word (o:=r1.opn) hinn (by rw [HC.out];exact hd)
    have HS:Hid (Stp r1.opn false (s.extract r1.at' (r1.at'+digitsN s r1.at')) r1.opn true):=k2
    clear k2 hlt hd
    go_wp2_with fail
    refine (hdg _).mono ?_
    rintro e w3 ⟨rfl,hb3⟩
    have HR4:Hid (RdS T w3 q s false r1):=HR3.out.later HT.out hq hqp hb3
    have HK4:Hid (Kept T.N (fun k=>k=T.p∨k=q) w w3):=HK3.out.trans (kept_below hb3 HR3.out.room)
    have hdn:=rdigits_any q r1.at' r1.opn s T.fv w3 (by omega) hinn HR4.out.rd
    clear hb3 hdg
    generalize digitsN s r1.at'=n at *
    go_wp2_with fail
    refine hdn.mono ?_
    rintro e w4 ⟨rfl,hb4⟩
    have HR5:Hid (RdS T w4 q s false r1):=HR4.out.later HT.out hq hqp hb4
    have HK5:Hid (Kept T.N (fun k=>k=T.p∨k=q) w w4):=HK4.out.trans (kept_below hb4 HR4.out.room)
    clear hb4 hdn
    go_wp2_with fail
    refine (word_any T HT.out q r1.at' r1.opn r1.opn n r1.opn false true s r1.st w4 hs k1 hq hqp HR5.out.room HR5.out.rd HR5.out.mem HR1.out.good HS.out).mono ?_
    rintro e w5 ⟨rfl,g1,g2,g3⟩
    have HK6:Hid (Kept T.N (fun k=>k=T.p∨k=q) w w5):=HK5.out.trans g3
    have HR6:Hid (RdS T w5 q s true (wordR s T.tk n r1)):=RdS.word (r:=r1) (o':=r1.opn) HT.out hs k1 HR1.out.good HS.out (by omega) HR5.out.room g1 g2 g3
    clear g1 g2 g3
    generalize wordR s T.tk n r1=r4 at *
    go_wp2_with fail
    go_loopg [] s.size (fun g wj => ∃ (r5:Rd S),closesR s T.tk g r5=closesR s T.tk s.size r4∧s.size-r5.at'≤g∧RdS T wj q s true r5∧Kept T.N (fun k=>k=T.p∨k=q) w wj)
    case atStart=>exact ⟨r4,rfl,by omega,HR6.out,HK6.out⟩
    case round =>
     obtain ⟨r5,hcl,hg5,hR5,hk5⟩:=hrel
     have HQ:Hid (closesR s T.tk gk r5=closesR s T.tk s.size r4):=hcl
     have HRa:Hid (RdS T wr q s true r5):=hR5
     have HKa:Hid (Kept T.N (fun k=>k=T.p∨k=q) w wr):=hk5
     have c2:=hR5.rd.c2
     have hfew5:=hR5.few
     have hinn5:=hR5.inn
     have hnx5:=next_any q r5.at' r5.opn s T.fv wr hR5.inn hR5.rd
     clear hcl hR5 hk5
     by_cases ho0:r5.opn=0
     ·have HE:Hid (operandR s T.tk r=(r5,true)):=by show _=_;rw [HD.out,←HQ.out,closes_miss (by omega)]
      have hoi:(r5.opn:Int)=0:=by omega
      rw [hoi] at c2
      go_wp2_with fail
      first | go_end0 | skip
      exact Went.ok HE.out HKa.out HRa.out
     ·have hoi:0<(r5.opn:Int):=by omega
      by_cases h41:nextB s r5.at'=41
      ·obtain ⟨o1,hoe⟩:∃ o1,r5.opn=o1+1:=⟨r5.opn-1,by omega⟩
       obtain ⟨m1,m2⟩:=cls_word (o:=o1) hinn5 h41
       have HS5:Hid (Stp (o1+1) true (s.extract r5.at' (r5.at'+1)) o1 true):=m2
       obtain ⟨g',hg'⟩:∃ g',gk=g'+1:=⟨gk-1,by omega⟩
       have HN5:Hid (closesR s T.tk (g'+1) r5=closesR s T.tk g' (wordR s T.tk 1 ⟨r5.at',o1,r5.st⟩)):=by
        have h:=closes_hit (tk:=T.tk) (f:=g') (r:=r5) (s:=s) (by omega) h41
        rw [show r5.opn-1=o1 by omega] at h
        exact h
       have HG:Hid (gk=g'+1):=hg'
       rw [h41] at hnx5
       clear h41 m2 hg'
       go_wp2_with fail
       refine hnx5.mono ?_
       rintro e x1 ⟨rfl,hb6⟩
       have HRb:Hid (RdS T x1 q s true r5):=HRa.out.later HT.out hq hqp hb6
       have HKb:Hid (Kept T.N (fun k=>k=T.p∨k=q) w x1):=HKa.out.trans (kept_below hb6 HRa.out.room)
       have d2:=HRb.out.rd.c2
       have f2:=HRb.out.rd.fr 2
       have hsum:(r5.opn:Int)-1=(o1:Int):=by omega
       have hbig:(o1:Int)≤4611686018427387904:=by omega
       obtain ⟨W,hW⟩:∃ W,x1.setCell ⟨q,2,none⟩ (.int .i64 (o1:Int))=W:=⟨_,rfl⟩
       obtain ⟨g1,g2,g3,g4⟩:=RdS.open HT.out hq hqp HRb.out o1
       rw [hW] at g1 g2 g3 g4
       have HRW:Hid (RdAt W q s r5.at' o1 T.fv∧T.I r5.st W∧T.N≤W.heap.size∧Kept T.N (fun k=>k=T.p∨k=q) x1 W):=⟨g1,g2,g3,g4⟩
       clear hb6 hnx5 g1 g2 g3 g4 c2
       go_wp2_with fail
       refine (word_any T HT.out q r5.at' (o1+1) o1 1 o1 true true s r5.st W hs m1 hq hqp HRW.out.2.2.1 HRW.out.1 HRW.out.2.1 (by rw [←hoe];exact HRb.out.good) HS5.out).mono ?_
       rintro e x3 ⟨rfl,g1,g2,g3⟩
       have HKc:Hid (Kept T.N (fun k=>k=T.p∨k=q) w x3):=(HKb.out.trans HRW.out.2.2.2).trans g3
       have HRc:Hid (RdS T x3 q s true (wordR s T.tk 1 ⟨r5.at',o1,r5.st⟩)):=RdS.word HT.out hs m1 (by rw [←hoe];exact HRb.out.good) HS5.out (by omega) HRW.out.2.2.1 g1 g2 g3
       clear g1 g2 g3
       go_wp2_with fail
       go_roundg g'
       case measure=>have:=HG.out;omega
       case rel=>exact ⟨wordR s T.tk 1 ⟨r5.at',o1,r5.st⟩,by rw [←HN5.out,←HG.out,HQ.out],by have:=HG.out;show s.size-(r5.at'+1)≤g';omega,HRc.out,HKc.out⟩
      ·have HE:Hid (operandR s T.tk r=(r5,true)):=by show _=_;rw [HD.out,←HQ.out,closes_miss (fun h=>h41 h.2)]
       have h41':(nextB s r5.at' == 41)=false:=by simpa using h41
       generalize nextB s r5.at'=c5 at *
       go_wp2_with fail
       refine hnx5.mono ?_
       rintro e x1 ⟨rfl,hb6⟩
       have HRb:Hid (RdS T x1 q s true r5):=HRa.out.later HT.out hq hqp hb6
       have HKb:Hid (Kept T.N (fun k=>k=T.p∨k=q) w x1):=HKa.out.trans (kept_below hb6 HRa.out.room)
       go_wp2_with fail
       first | go_end0 | skip
       exact Went.ok HE.out HKb.out HRb.out
end Go.Proofs.YtnlfpaopfloklaaGreatDoor
