/-
  The document's own reader of formulas: an operand that is a name, in whatever memory.
-/
import Derived.Deep.CutRange
import Derived.Test.YtigkeokacagabafGreatDoorJYAX
namespace Go.Proofs.YtigkeokacagabafGreatDoor
open Go.ChangeShapes Go.WideShapes Go.ChangeAt Go.RowKit
set_option maxRecDepth 20000
set_option maxHeartbeats 4000000 in
theorem one_let (s:ByteArray) (q base a:Nat) (hs:s.size≤100) (ha:a≤s.size) (hle:letB (nextB s a)=true):OneC s q base a:=by
 intro v L w hI hqb hbw hown hLa
 have HI:Hid (InV w q s a false v):=hI
 have HOw:=hid_of hown
 have c0:=hI.c0
 have c1:=hI.c1
 have c2:=hI.c2
 have hq:=hI.lt
 have i1:=fun w' (hb:Below w.heap.size w w')=>in_any q a s v 48 57 w' (by omega) ha (hI.later hb)
 have i2:=fun w' (hb:Below w.heap.size w w')=>in_any q a s v 97 122 w' (by omega) ha (hI.later hb)
 have i3:=fun w' (hb:Below w.heap.size w w')=>in_any q a s v 40 40 w' (by omega) ha (hI.later hb)
 have e1:(decide (48≤nextB s a) && decide (nextB s a≤57))=digB (nextB s a):=rfl
 have e2:(decide (97≤nextB s a) && decide (nextB s a≤122))=letB (nextB s a):=rfl
 rw [e1] at i1
 rw [e2] at i2
 have hsi:(s.size:Int)≤100:=by omega
 have hai:(a:Int)≤(s.size:Int):=by omega
 clear hI hown e1 e2
 have hd:digB (nextB s a)=false:=by unfold letB at hle;unfold digB;simp at hle ⊢;omega
 have h40:nextB s a≠40:=by intro e;rw [e] at hle;revert hle;decide
 have e3:(decide (40≤nextB s a) && decide (nextB s a≤40))=false:=by simp;omega
 have hlt:a<s.size:=next_zero (fun e=>by rw [e] at hle;revert hle;decide) ha
 rw [hd] at i1
 rw [hle] at i2
 rw [e3] at i3
 have HD:=hid_of hle
 clear hd hle h40 e3
 go_enter Tryz.func150,Tryz.ntmps150
 go_wp2_with fail
 refine (i1 _ (Below.refl _ _)).mono ?_
 rintro e w1 ⟨rfl,hb1⟩
 have HB1:=hid_of hb1
 clear hb1
 go_wp2_with fail
 refine (i2 _ HB1.out).mono ?_
 rintro e w2 ⟨rfl,hb2⟩
 have HB2:=hid_of (onB HB1.out hb2)
 clear hb2
 go_wp2_with fail
 refine (i3 _ HB2.out).mono ?_
 rintro e w3 ⟨rfl,hb3⟩
 have HB3:=hid_of (onB HB2.out hb3)
 have HI3:=hid_of (HI.out.later HB3.out)
 have HO3:=hid_of (own_later HOw.out HB3.out)
 have HS3:=hid_of (Nat.le_trans hbw HB3.out.size)
 clear hb3 i1 i2 i3 c0 c1 c2
 obtain ⟨AL,cL,hv⟩:=own_form HO3.out
 subst hv
 have HKW:Hid (Kept base (fun j=>j=q) w w3):=kept_below HB3.out hbw
 go_upto_block 2 with fail
 go_cut [] from 12 (fun wx=>InV wx q s (a+leadN letB (s.extract a s.size)) false (.slice AL L.length cL)∧wx.ownsRow base 181 5 (.slice AL L.length cL) L.length (cellsN L)∧Kept base (fun j=>j=q) w wx)
 case first=>as_aux_lemma =>
  go_wp2_with fail
  go_loopg [] s.size (fun g wr => ∃ (k:Nat),g=s.size-k∧a+k≤s.size∧(∀ i,i<k→letB (nextB s (a+i))=true)∧InV wr q s (a+k) false (.slice AL L.length cL)∧wr.ownsRow base 181 5 (.slice AL L.length cL) L.length (cellsN L)∧Kept base (fun j=>j=q) w wr)
  case atStart=>exact ⟨0,rfl,by omega,fun i hi=>absurd hi (Nat.not_lt_zero i),HI3.out,HO3.out,HKW.out⟩
  case round =>
   obtain ⟨k,rfl,hak,hall,hIr,hOr,hKr⟩:=hrel
   have HAl:=hid_of hall
   have HIr:=hid_of hIr
   have HOr:=hid_of hOr
   have HKr:=hid_of hKr
   have hbr:base≤wr.heap.size:=Nat.le_trans hbw hKr.size
   have i5:=in_any q (a+k) s (.slice AL L.length cL) 97 122 wr (by omega) hak hIr
   have e5:(decide (97≤nextB s (a+k)) && decide (nextB s (a+k)≤122))=letB (nextB s (a+k)):=rfl
   rw [e5] at i5
   clear hall hIr hOr hKr e5
   cases hdk:letB (nextB s (a+k))
   ·have HEnd:Hid (leadN letB (s.extract a s.size)=k):=lets_stop hak HAl.out hdk
    rw [hdk] at i5
    clear hdk
    go_wp2_with fail
    refine i5.mono ?_
    rintro e w4 ⟨rfl,hb4⟩
    have HB4:=hid_of hb4
    clear hb4 i5
    go_wp2_with fail
    go_meet
    rw [HEnd.out]
    exact ⟨HIr.out.later HB4.out,own_later HOr.out HB4.out,HKr.out.trans (kept_below HB4.out hbr)⟩
   ·have HDk:=hid_of hdk
    have hlk:a+k<s.size:=next_zero (fun e=>by rw [e] at hdk;revert hdk;decide) hak
    rw [hdk] at i5
    clear hdk
    obtain ⟨p,hp⟩:∃ p,a+k=p:=⟨_,rfl⟩
    have HP:=hid_of hp
    have hlpi:(p:Int)<(s.size:Int):=by omega
    have HIp:Hid (InV wr q s p false (.slice AL L.length cL)):=by show InV _ _ _ _ _ _;rw [←hp];exact HIr.out
    have fin:∀ (w5:World),Below wr.heap.size wr w5→InV (w5.setCell ⟨q,1,none⟩ (.int .i64 ((p:Int)+1))) q s (a+(k+1)) false (.slice AL L.length cL)∧(w5.setCell ⟨q,1,none⟩ (.int .i64 ((p:Int)+1))).ownsRow base 181 5 (.slice AL L.length cL) L.length (cellsN L)∧Kept base (fun j=>j=q) w (w5.setCell ⟨q,1,none⟩ (.int .i64 ((p:Int)+1))):=fun w5 hb5=>by
     refine ⟨?_,own_off (own_later HOr.out hb5) hqb,(HKr.out.trans (kept_below hb5 hbr)).trans kept_set⟩
     rw [show a+(k+1)=p+1 by omega]
     exact (HIp.out.later hb5).set1 (p+1)
    have HFin:=hid_of fin
    have HAll:Hid (∀ i,i<k+1→letB (nextB s (a+i))=true):=fun i hi=>by
     by_cases e:i=k
     ·rw [e];exact HDk.out
     ·exact HAl.out i (by omega)
    clear fin
    go_wp2_with fail
    refine i5.mono ?_
    rintro e w4 ⟨rfl,hb4⟩
    have HB4:=hid_of hb4
    have d3:=(HIp.out.later hb4).c1
    have d4:=(HIp.out.later hb4).fr 1
    have d5:=(HIp.out.later hb4).lt
    clear hb4 i5
    go_wp2_with fail
    go_roundg (s.size-(k+1))
    case measure=>omega
    case rel =>
     obtain ⟨x1,x2,x3⟩:=HFin.out _ HB4.out
     exact ⟨k+1,rfl,by omega,HAll.out,x1,x2,x3⟩
 case rest =>
  obtain ⟨hIc,hOc,hKc⟩:=hcut
  obtain ⟨w4,rfl⟩:∃ wx:World,wx=wc:=⟨_,rfl⟩
  obtain ⟨i1,hj0,hj1,hj2,hj3⟩:=info_parts Tryz.infoNdF
  have HR:=hid_of (rds_let ha HD.out)
  obtain ⟨hn1,hn2⟩:=let_pos ha HD.out
  have hnd:opndN (s.extract a (a+leadN letB (s.extract a s.size)))=⟨2,0,s.extract a (a+leadN letB (s.extract a s.size)),0,0⟩:=by
   have h1:=word_first hlt hn1
   have h2:=HD.out
   unfold letB at h2
   unfold opndN
   rw [h1,if_pos (by simpa using h2)]
  obtain ⟨m,hm⟩:∃ m,L.length=m:=⟨_,rfl⟩
  obtain ⟨p,hp⟩:∃ p,a+leadN letB (s.extract a s.size)=p:=⟨_,rfl⟩
  have HM:=hid_of hm
  have hm1:(m:Int)≤100:=by omega
  rw [hm] at hIc hOc
  rw [hp] at hIc hnd
  have hpi:(p:Int)≤(s.size:Int):=by omega
  have hapi:(a:Int)≤(p:Int):=by omega
  have HRp:Hid (Rds s 3 a p (leafT (s.extract a p))):=by show Rds _ _ _ _ _;rw [←hp];exact HR.out
  have hb4:base≤w4.heap.size:=Nat.le_trans hbw hKc.size
  have HSt:Hid (∀ (W w6:World) (v':Value),Below w4.heap.size w4 W→W.grownBy w6 (Value.slice AL m cL).ownBlock→w6.ownsRow base 181 5 v' (m+1) (cellsN L ++ cellsNd1 ⟨2,0,s.extract a p,0,0⟩)→OutS s q base 3 a L w (.returned (.int .i64 (m:Int))) (w6.setCell ⟨q,3,none⟩ v')∧(w6.cell? ⟨q,3,none⟩=some (.slice AL m cL)∧w6.frozen? ⟨q,3,none⟩=false)∧q<w6.heap.size):=by
   intro W w6 v' hb hg ho
   have h:=app_at hIc hOc hqb hb hg
   exact ⟨out_leaf HM.out HRp.out hKc hIc hOc hqb hb4 hb hg (by rw [hnd];exact ho),⟨h.c3,h.fr 3⟩,h.lt⟩
  have HO1:Hid (∀ w',Below w4.heap.size w4 w'→w'.ownsRow base 181 5 (.slice AL m cL) m (cellsN L)):=fun w' hb=>own_later hOc hb
  have d0:=hIc.c0
  have d1:=hIc.c1
  have d3:=hIc.c3
  have d4:=hIc.fr 3
  have d5:=hIc.lt
  clear hIc hOc hKc hnd hm hp hn1 hn2 HR
  go_wp2_with fail
  go_region_law (refine step_append_lies _ (by rfl) _ _ _ (by rfl) base 181 i1 _ 5 48 Tryz.underlying110 hj0 hj1 hj2 hj3 rfl (by omega) (.slice AL m cL) m (cellsN L) (by rfl) (HO1.out _ (by go_grown)) ⟨w4.heap.size,0,none⟩ 1 1 (cellsNd1 ⟨2,0,s.extract a p,0,0⟩) (by rfl) (by rfl) (World.news_of_block (cs := #[.int .i64 2,.int .i64 0,.string (s.extract a p),.int .i64 0,.int .i64 0]) (t:=181) (fr:=(0,0)) (topFd w4 _)) ones5 (by omega) (by unfold maxLen;omega) (by omega) (by simp;omega) (w4.heap.size+1) (by simp) ?_;intro gg cg w6 hown6 hgrow hat hlt6;obtain ⟨HS,⟨y1,y2⟩,y3⟩:=HSt.out _ _ _ (by go_grown) hgrow hown6;have HSo:=hid_of HS;clear HS hown6 hgrow hat)
  all_goals (go_wp2_with fail;go_ret;exact HSo.out)
set_option maxHeartbeats 4000000 in
theorem one_step (s:ByteArray) (q base a:Nat) (hs:s.size≤100) (ha:a≤s.size) (ih:∀ a1,a<a1→a1≤s.size→SumC s q base 1 a1):OneC s q base a:=by
 intro v L w hI hqb hbw hown hLa
 have HI:Hid (InV w q s a false v):=hI
 have HOw:=hid_of hown
 have HIH:=hid_of ih
 have c0:=hI.c0
 have c1:=hI.c1
 have c2:=hI.c2
 have hq:=hI.lt
 have i1:=fun w' (hb:Below w.heap.size w w')=>in_any q a s v 48 57 w' (by omega) ha (hI.later hb)
 have i2:=fun w' (hb:Below w.heap.size w w')=>in_any q a s v 97 122 w' (by omega) ha (hI.later hb)
 have i3:=fun w' (hb:Below w.heap.size w w')=>in_any q a s v 40 40 w' (by omega) ha (hI.later hb)
 have e1:(decide (48≤nextB s a) && decide (nextB s a≤57))=digB (nextB s a):=rfl
 have e2:(decide (97≤nextB s a) && decide (nextB s a≤122))=letB (nextB s a):=rfl
 rw [e1] at i1
 rw [e2] at i2
 have hsi:(s.size:Int)≤100:=by omega
 have hai:(a:Int)≤(s.size:Int):=by omega
 clear hI hown ih e1 e2
 cases hd:digB (nextB s a)
 case true=>exact one_dig s q base a hs ha hd v L w HI.out hqb hbw HOw.out hLa
 cases hle:letB (nextB s a)
 case true=>exact one_let s q base a hs ha hle v L w HI.out hqb hbw HOw.out hLa
 rw [hd] at i1
 rw [hle] at i2
 by_cases h40:nextB s a=40
 ·have e3:(decide (40≤nextB s a) && decide (nextB s a≤40))=true:=by rw [h40];rfl
  rw [e3] at i3
  have hlt:a<s.size:=next_zero (by rw [h40];decide) ha
  have H40:=hid_of h40
  clear hd hle h40 e3
  go_enter Tryz.func150,Tryz.ntmps150
  go_wp2_with fail
  refine (i1 _ (Below.refl _ _)).mono ?_
  rintro e w1 ⟨rfl,hb1⟩
  have HB1:=hid_of hb1
  clear hb1
  go_wp2_with fail
  refine (i2 _ HB1.out).mono ?_
  rintro e w2 ⟨rfl,hb2⟩
  have HB2:=hid_of (onB HB1.out hb2)
  clear hb2
  go_wp2_with fail
  refine (i3 _ HB2.out).mono ?_
  rintro e w3 ⟨rfl,hb3⟩
  have HB3:=hid_of (onB HB2.out hb3)
  have HI3:=hid_of (HI.out.later HB3.out)
  have HO3:=hid_of (own_later HOw.out HB3.out)
  have HS3:=hid_of (Nat.le_trans hbw HB3.out.size)
  have d1:=HI3.out.c1
  have g1:=HI3.out.fr 1
  have hq3:=HI3.out.lt
  obtain ⟨V3,hV3⟩:∃ V3,w3.setCell ⟨q,1,none⟩ (.int .i64 ((a:Int)+1))=V3:=⟨_,rfl⟩
  have hIV:InV V3 q s (a+1) false v:=by rw [←hV3];exact HI3.out.set1 (a+1)
  have hOV:V3.ownsRow base 181 5 v L.length (cellsN L):=by rw [←hV3];exact own_off HO3.out hqb
  have hKV:Kept base (fun j=>j=q) w V3:=by rw [←hV3];exact (kept_below HB3.out hbw).trans kept_set
  have hsm:=HIH.out (a+1) (by omega) (by omega) v L V3 hIV hqb (by rw [←hV3];simpa using HS3.out) hOV (by omega)
  have HKV:=hid_of hKV
  clear hb3 i1 i2 i3 c0 c1 c2 hIV hOV hKV
  go_wp2_with fail
  refine hsm.mono ?_
  rintro e w4 ⟨hK4,⟨a1,t,v1,rfl,hR,hN,hI4,hO4,hL4⟩ | ⟨i,a1,v1,L1,rfl,hF,hI4,hO4⟩⟩
  ·have HK4:=hid_of (HKV.out.trans hK4)
   have HR:=hid_of hR
   have HNs:=hid_of hN
   have HI4:=hid_of hI4
   have HO4:=hid_of hO4
   have HL4:=hid_of hL4
   have hbs4:base≤w4.heap.size:=Nat.le_trans hbw (Nat.le_trans HKV.out.size hK4.size)
   have i4:=in_any q a1 s v1 41 41 w4 (by omega) hR.2.1 hI4
   have hp:=siz_pos t
   obtain ⟨ix,hix⟩:∃ ix,L.length+sizT t-1=ix:=⟨_,rfl⟩
   have HIx:=hid_of hix
   rw [hix]
   have ha1:(a1:Int)≤100:=by have:=hR.2.1;omega
   clear hK4 hR hN hI4 hO4 hL4 hix hV3 hsm d1 g1
   by_cases h41:nextB s a1=41
   ·have e4:(decide (41≤nextB s a1) && decide (nextB s a1≤41))=true:=by rw [h41];rfl
    rw [e4] at i4
    have H41:=hid_of h41
    clear h41 e4
    go_wp2_with fail
    refine i4.mono ?_
    rintro e w5 ⟨rfl,hb5⟩
    have HB5:=hid_of hb5
    have HI5:=hid_of (HI4.out.later hb5)
    have f1:=HI5.out.c1
    have k1:=HI5.out.fr 1
    clear hb5 i4
    go_wp2_with fail
    go_ret
    refine ⟨(HK4.out.trans (kept_below HB5.out hbs4)).trans kept_set,Or.inl ⟨a1+1,t,v1,by rw [HIx.out];rfl,rds_brk ha H40.out HR.out H41.out,nosg3 _ _,?_,own_off (own_later HO4.out HB5.out) hqb,by have:=HL4.out;omega⟩⟩
    exact HI5.out.set1 (a1+1)
   ·have e4:(decide (41≤nextB s a1) && decide (nextB s a1≤41))=false:=by simp;omega
    rw [e4] at i4
    have H41:=hid_of h41
    clear h41 e4
    go_wp2_with fail
    refine i4.mono ?_
    rintro e w5 ⟨rfl,hb5⟩
    have HB5:=hid_of hb5
    have HI5:=hid_of (HI4.out.later hb5)
    have f1:=HI5.out.c2
    have k1:=HI5.out.fr 2
    clear hb5 i4
    go_wp2_with fail
    go_ret
    exact ⟨(HK4.out.trans (kept_below HB5.out hbs4)).trans kept_set,Or.inr ⟨0,a1,v1,_,rfl,fls_shut ha H40.out HR.out HNs.out H41.out,HI5.out.set2 true,own_off (own_later HO4.out HB5.out) hqb⟩⟩
  ·have HK4:=hid_of (HKV.out.trans hK4)
   have HF:=hid_of hF
   have HI4:=hid_of hI4
   have HO4:=hid_of hO4
   have hbs4:base≤w4.heap.size:=Nat.le_trans hbw (Nat.le_trans HKV.out.size hK4.size)
   have i4:=in_bad q a1 s v1 41 41 w4 hI4
   clear hK4 hF hI4 hO4 hV3 hsm d1 g1
   go_wp2_with fail
   refine i4.mono ?_
   rintro e w5 ⟨rfl,hb5⟩
   have HB5:=hid_of hb5
   have HI5:=hid_of (HI4.out.later hb5)
   have f1:=HI5.out.c2
   have k1:=HI5.out.fr 2
   clear hb5 i4
   go_wp2_with fail
   go_ret
   exact ⟨(HK4.out.trans (kept_below HB5.out hbs4)).trans kept_set,Or.inr ⟨0,a1,v1,L1,rfl,fls_open ha H40.out HF.out,HI5.out.set2 true,own_off (own_later HO4.out HB5.out) hqb⟩⟩
 ·have e3:(decide (40≤nextB s a) && decide (nextB s a≤40))=false:=by simp;omega
  rw [e3] at i3
  have HF:Hid (Fls s a a):=fls_none ha h40 hd hle
  clear hd hle h40 e3
  go_enter Tryz.func150,Tryz.ntmps150
  go_wp2_with fail
  refine (i1 _ (Below.refl _ _)).mono ?_
  rintro e w1 ⟨rfl,hb1⟩
  have HB1:=hid_of hb1
  clear hb1
  go_wp2_with fail
  refine (i2 _ HB1.out).mono ?_
  rintro e w2 ⟨rfl,hb2⟩
  have HB2:=hid_of (onB HB1.out hb2)
  clear hb2
  go_wp2_with fail
  refine (i3 _ HB2.out).mono ?_
  rintro e w3 ⟨rfl,hb3⟩
  have HB3:=hid_of (onB HB2.out hb3)
  have HI3:=hid_of (HI.out.later HB3.out)
  have d2:=HI3.out.c2
  have g2:=HI3.out.fr 2
  clear hb3 i1 i2 i3 c0 c1 c2
  go_wp2_with fail
  go_ret
  refine ⟨(kept_below HB3.out hbw).trans kept_set,Or.inr ⟨0,a,v,L,rfl,HF.out,HI3.out.set2 true,own_off (own_later HOw.out HB3.out) hqb⟩⟩
set_option maxHeartbeats 2000000 in
theorem sum_three (s:ByteArray) (q base a:Nat) (h:OneC s q base a):SumC s q base 3 a:=by
 intro v L w hI hqb hbw hown hLa
 have hc:=h v L w hI hqb hbw hown hLa
 show Calls Tryz.prog 110 #[.pointer (some ⟨q,0,none⟩),.int .i64 3] w _
 clear hI hown h
 go_enter Tryz.func110,Tryz.ntmps110
 go_wp2_with fail
 refine hc.mono ?_
 rintro e w1 ⟨hK,⟨a1,t,v1,rfl,h1⟩ | ⟨i,a1,v1,L1,rfl,h1⟩⟩
 ·have HH:=hid_of h1
  have HK:=hid_of hK
  clear h1 hK hc
  go_wp2_with fail
  go_ret
  exact ⟨HK.out,Or.inl ⟨a1,t,v1,rfl,HH.out⟩⟩
 ·have HH:=hid_of h1
  have HK:=hid_of hK
  clear h1 hK hc
  go_wp2_with fail
  go_ret
  exact ⟨HK.out,Or.inr ⟨i,a1,v1,L1,rfl,HH.out⟩⟩
def opI (c:Int):Int:=if signI c<0 then 0 else 3+signI c
theorem opI_none {c:Int} (h1:c≠43) (h2:c≠45) (h3:c≠42) (h4:c≠47):opI c=0:=by
 unfold opI signI
 rw [if_neg h1,if_neg h2,if_neg h3,if_neg h4]
 rfl
theorem opI_some {c:Int} (h:opI c≠0) : ¬ signI c<0∧opI c=3+signI c:=by
 unfold opI at *
 by_cases e:signI c<0
 ·rw [if_pos e] at h;exact absurd rfl h
 ·rw [if_neg e];exact ⟨e,rfl⟩
theorem opI_zero {c:Int} (h:opI c=0):signI c<0:=by
 by_cases e:signI c<0
 ·exact e
 ·unfold opI at h
  rw [if_neg e] at h
  rcases sgn_four e with ⟨-,h1⟩ | ⟨-,h1⟩ | ⟨-,h1⟩ | ⟨-,h1⟩ <;> rw [h1] at h <;> omega
theorem nosg_end (s:ByteArray) (k:Nat):NoSg s k s.size:=fun h=>absurd h (Nat.lt_irrefl _)
theorem nosg_down {s:ByteArray} {k a:Nat} (h:NoSg s (k+1) a) (hk:bindN (3+signI (nextB s a))≠(k:Int)):NoSg s k a:=fun hlt=>by
 rcases h hlt with h | h
 ·exact Or.inl h
 ·right;omega
set_option maxHeartbeats 4000000 in
theorem sum_step (s:ByteArray) (q base a k:Nat) (hs:s.size≤100) (hk1:1≤k) (hk2:k≤2) (h0:SumC s q base (k+1) a) (ih:∀ a1,a<a1→a1≤s.size→SumC s q base (k+1) a1):SumC s q base k a:=by
 intro v L w hI hqb hbw hown hLa
 have HIH:=hid_of ih
 have hc:Calls Tryz.prog 110 #[.pointer (some ⟨q,0,none⟩),.int .i64 ((k:Int)+1)] w fun e w'=>OutS s q base (k+1) a L w e w':=h0 v L w hI hqb hbw hown hLa
 have hki:1≤(k:Int):=by omega
 have hki2:(k:Int)≤2:=by omega
 have hk3:((k:Int) == 3)=false:=by simp;omega
 have hsi:(s.size:Int)≤100:=by omega
 clear hI hown h0 ih
 go_enter Tryz.func110,Tryz.ntmps110
 go_wp2_with fail
 refine hc.mono ?_
 rintro e w1 ho
 obtain ⟨ix,he⟩:∃ ix:Int,e=.returned (.int .i64 ix):=by
  rcases ho with ⟨-,⟨a1,t,v1,rfl,-⟩ | ⟨i,a1,v1,L1,rfl,-⟩⟩
  ·exact ⟨_,rfl⟩
  ·exact ⟨_,rfl⟩
 subst he
 have HO:=hid_of ho
 clear ho hc
 go_wp2_with fail
 go_loopg [5] s.size (fun g s5 wr=>Kept base (fun j=>j=q) w wr∧((∃ (a1:Nat) (t:Tre) (v1:Value),s.size-a1≤g∧s5=.int .i64 ((L.length+sizT t-1:Nat):Int)∧Rds s k a a1 t∧NoSg s (k+1) a1∧InV wr q s a1 false v1∧wr.ownsRow base 181 5 v1 (L ++ post t L.length).length (cellsN (L ++ post t L.length))∧a+sizT t≤a1)∨(∃ (i:Int) (a1:Nat) (v1:Value) (L1:List Nd),s5=.int .i64 i∧Fls s a a1∧InV wr q s a1 true v1∧wr.ownsRow base 181 5 v1 L1.length (cellsN L1))))
 case atStart =>
  obtain ⟨hK,⟨a1,t,v1,he,hR,hN,hI1,hO1,hL1⟩ | ⟨i,a1,v1,L1,he,hF,hI1,hO1⟩⟩:=HO.out
  ·simp only [Ending.returned.injEq] at he
   exact ⟨hK,Or.inl ⟨a1,t,v1,by omega,he,rds_up hk1 hk2 hR,hN,hI1,hO1,hL1⟩⟩
  ·simp only [Ending.returned.injEq] at he
   exact ⟨hK,Or.inr ⟨i,a1,v1,L1,he,hF,hI1,hO1⟩⟩
 case round =>
  obtain ⟨hKr,⟨a1,t,v1,hgm,rfl,hR,hN,hIr,hOr,hLr⟩ | ⟨i,a1,v1,L1,rfl,hF,hIr,hOr⟩⟩:=hrel
  ·have HKr:=hid_of hKr
   have HR:=hid_of hR
   have HN:=hid_of hN
   have HIr:=hid_of hIr
   have HOr:=hid_of hOr
   have HLr:=hid_of hLr
   have hbr:base≤wr.heap.size:=Nat.le_trans hbw hKr.size
   have d0:=hIr.c0
   have d1:=hIr.c1
   have d2:=hIr.c2
   have d5:=hIr.lt
   have ha1:a<a1:=hR.1
   have ha2:a1≤s.size:=hR.2.1
   have hp:=siz_pos t
   obtain ⟨iy,hiy⟩:∃ iy,L.length+sizT t-1=iy:=⟨_,rfl⟩
   have HIy:=hid_of hiy
   rw [hiy]
   clear hKr hR hN hIr hOr hLr hiy HO
   by_cases hend:a1=s.size
   ·have hei:(a1:Int)=(s.size:Int):=by omega
    have hdl:decide ((a1:Int)<(s.size:Int))=false:=decide_eq_false (by omega)
    go_wp2_with fail
    go_quiet (fail)
    go_wp2_with fail
    go_ret
    exact ⟨HKr.out.trans (kept_below (below_drewN (Below.refl _ _) _) hbr),Or.inl ⟨a1,t,v1,by rw [HIy.out];rfl,HR.out,by rw [hend];exact nosg_end s k,HIr.out.later (below_drewN (Below.refl _ _) _),own_later HOr.out (below_drewN (Below.refl _ _) _),HLr.out⟩⟩
   ·have hlt:a1<s.size:=by omega
    have hlti:(a1:Int)<(s.size:Int):=by omega
    have hby:=byteN_get s a1 hlt
    have HNx:Hid (nextB s a1=byteN s a1):=by show _=_;rw [nextB,if_neg (by omega)]
    obtain ⟨ch,hch⟩:∃ ch,byteN s a1=ch:=⟨_,rfl⟩
    have HCh:=hid_of hch
    rw [hch] at hby
    clear hch hend
    go_wp2_with fail
    go_quiet (fail)
    obtain ⟨W1,hW1⟩:∃ W1,wr.drewN nq=W1:=⟨_,rfl⟩
    have HB1:Hid (Below wr.heap.size wr W1):=by show Below _ _ _;rw [←hW1];exact below_drewN (Below.refl _ _) _
    rw [hW1]
    have f0:=(HIr.out.later HB1.out).c0
    have f1:=(HIr.out.later HB1.out).c1
    have f5:=(HIr.out.later HB1.out).lt
    clear hW1 d0 d1 d2
    go_wp2_with fail
    go_quiet (fail)
    obtain ⟨W2,hW2⟩:∃ W2,W1.drewN nq=W2:=⟨_,rfl⟩
    have HB2:Hid (Below wr.heap.size wr W2):=by show Below _ _ _;rw [←hW2];exact below_drewN HB1.out _
    rw [hW2]
    have hbs:base≤W2.heap.size:=Nat.le_trans hbr HB2.out.size
    have g1:=(HIr.out.later HB2.out).c1
    have g3:=(HIr.out.later HB2.out).fr 1
    have g5:=(HIr.out.later HB2.out).lt
    clear hW2 f0 f1 f5
    go_upto_block 2 with fail
    go_cut [6] from 33 to 91 (fun s6 wx=>s6=.int .i64 (opI ch)∧wx=W2)
    case first =>
     by_cases e1:ch=43
     ·subst e1
      go_wp2_with fail
      go_meet
      exact ⟨rfl,rfl⟩
     by_cases e2:ch=45
     ·subst e2
      go_wp2_with fail
      go_meet
      exact ⟨rfl,rfl⟩
     by_cases e3:ch=42
     ·subst e3
      go_wp2_with fail
      go_meet
      exact ⟨rfl,rfl⟩
     by_cases e4:ch=47
     ·subst e4
      go_wp2_with fail
      go_meet
      exact ⟨rfl,rfl⟩
     have HE:=hid_of (opI_none e1 e2 e3 e4)
     have b1:(ch == 43)=false:=by simpa using e1
     have b2:(ch == 45)=false:=by simpa using e2
     have b3:(ch == 42)=false:=by simpa using e3
     have b4:(ch == 47)=false:=by simpa using e4
     clear e1 e2 e3 e4
     go_wp2_with fail
     go_meet
     exact ⟨by rw [HE.out],rfl⟩
    case rest =>
     obtain ⟨rfl,hwc⟩:=hcut
     rw [hwc]
     obtain ⟨o,ho⟩:∃ o,opI ch=o:=⟨_,rfl⟩
     have HOp:=hid_of ho
     rw [ho]
     clear ho
     by_cases ho0:o=0
     ·subst ho0
      have HNs:Hid (NoSg s k a1):=fun _=>Or.inl (by rw [HNx.out,HCh.out];exact opI_zero HOp.out)
      go_wp2_with fail
      go_ret
      exact ⟨HKr.out.trans (kept_below HB2.out hbr),Or.inl ⟨a1,t,v1,by rw [HIy.out];rfl,HR.out,HNs.out,HIr.out.later HB2.out,own_later HOr.out HB2.out,HLr.out⟩⟩
     ·have ho0b:(o == 0)=false:=by simpa using ho0
      have HSg:Hid (0≤signI (nextB s a1)∧o=3+signI (nextB s a1)):=by
       have h:=opI_some (c:=ch) (by rw [HOp.out];exact ho0)
       rw [HOp.out] at h
       show _∧_
       rw [HNx.out,HCh.out]
       exact ⟨Int.not_lt.1 h.1,h.2⟩
      have hrk:=rank_any o W2
      clear ho0
      by_cases hbk:bindN o=(k:Int)
      ·have hbkb:(bindN o != (k:Int))=false:=by simp [hbk]
       have HBk:=hid_of hbk
       obtain ⟨L1,hL1⟩:∃ L1,L ++ post t L.length=L1:=⟨_,rfl⟩
       have hl1:L1.length=L.length+sizT t:=by rw [←hL1,List.length_append,post_len]
       have HL1:=hid_of hL1
       have HLl:=hid_of hl1
       have hO1':wr.ownsRow base 181 5 v1 L1.length (cellsN L1):=by rw [←hL1];exact HOr.out
       have HO1:=hid_of hO1'
       have hsz:L1.length≤a1:=by have:=HLr.out;omega
       clear hbk hL1 hl1 hO1'
       go_wp2_with fail
       refine hrk.mono ?_
       rintro e w4 ⟨rfl,hb4⟩
       have HB4:=hid_of (onB HB2.out hb4)
       have HI4:=hid_of (HIr.out.later HB4.out)
       have j1:=HI4.out.c1
       have j3:=HI4.out.fr 1
       have j5:=HI4.out.lt
       obtain ⟨V4,hV4⟩:∃ V4,w4.setCell ⟨q,1,none⟩ (.int .i64 ((a1:Int)+1))=V4:=⟨_,rfl⟩
       have hIV:InV V4 q s (a1+1) false v1:=by rw [←hV4];exact HI4.out.set1 (a1+1)
       have hOV:V4.ownsRow base 181 5 v1 L1.length (cellsN L1):=by rw [←hV4];exact own_off (own_later HO1.out HB4.out) hqb
       have hKV:Kept base (fun j=>j=q) w V4:=by rw [←hV4];exact (HKr.out.trans (kept_below HB4.out hbr)).trans kept_set
       have HKV:=hid_of hKV
       have hsm:Calls Tryz.prog 110 #[.pointer (some ⟨q,0,none⟩),.int .i64 ((k:Int)+1)] V4 fun e w'=>OutS s q base (k+1) (a1+1) L1 V4 e w':=HIH.out (a1+1) (by omega) (by omega) v1 L1 V4 hIV hqb (Nat.le_trans hbw hKV.size) hOV (by omega)
       clear hb4 hrk hIV hOV hKV g1 g3 g5
       go_wp2_with fail
       refine hsm.mono ?_
       rintro e w5 ⟨hK5,⟨a2,u,v2,rfl,hR2,hN2,hI5,hO5,hL5⟩ | ⟨i,a2,v2,L2,rfl,hF2,hI5,hO5⟩⟩
       ·have HK5:=hid_of (HKV.out.trans hK5)
        have hb5:base≤w5.heap.size:=Nat.le_trans hbw HK5.out.size
        obtain ⟨L2,hL2⟩:∃ L2,L1 ++ post u L1.length=L2:=⟨_,rfl⟩
        have hl2:L2.length=L1.length+sizT u:=by rw [←hL2,List.length_append,post_len]
        rw [hL2] at hO5
        obtain ⟨m,hm⟩:∃ m,L2.length=m:=⟨_,rfl⟩
        rw [hm] at hO5
        obtain ⟨A2,c2,hv2⟩:=own_form hO5
        subst hv2
        obtain ⟨jy,hjy⟩:∃ jy,L1.length+sizT u-1=jy:=⟨_,rfl⟩
        have hpu:=siz_pos u
        have hR3:Rds s k a a2 (.bin o t u):=by
         have hsg:=HSg.out
         rw [hsg.2]
         exact rds_bin HR.out hlt (Int.not_lt.2 hsg.1) (by rw [←hsg.2];exact HBk.out) hR2
        have hpo:L2 ++ [⟨o,0,⟨#[]⟩,(iy:Int),(jy:Int)⟩]=L ++ post (.bin o t u) L.length:=by
         rw [←hL2,←hjy,HLl.out,←HL1.out,post,←HIy.out]
         simp only [List.append_assoc]
         rfl
        have hsb:L.length+sizT (.bin o t u)-1=m:=by
         have:=HLl.out
         show L.length+(sizT t+sizT u+1)-1=m
         omega
        have hle2:a+sizT (.bin o t u)≤a2:=by
         have:=HLr.out
         show a+(sizT t+sizT u+1)≤a2
         omega
        have HR3:=hid_of hR3
        have HN2:=hid_of hN2
        have HLe2:=hid_of hle2
        have HSb:=hid_of hsb
        rw [hjy]
        have ha2s:=hR2.2.1
        have HSt:Hid (∀ (W w6:World) (v':Value),Below w5.heap.size w5 W→W.grownBy w6 (Value.slice A2 m c2).ownBlock→w6.ownsRow base 181 5 v' (m+1) (cellsN L2 ++ cellsNd1 ⟨o,0,⟨#[]⟩,(iy:Int),(jy:Int)⟩)→(InV (w6.setCell ⟨q,3,none⟩ v') q s a2 false v'∧(w6.setCell ⟨q,3,none⟩ v').ownsRow base 181 5 v' (L ++ post (.bin o t u) L.length).length (cellsN (L ++ post (.bin o t u) L.length))∧Kept base (fun j=>j=q) w (w6.setCell ⟨q,3,none⟩ v'))∧(w6.cell? ⟨q,3,none⟩=some (.slice A2 m c2)∧w6.frozen? ⟨q,3,none⟩=false)∧q<w6.heap.size):=by
         intro W w6 v' hb hg hown
         have h:=app_at hI5 hO5 hqb hb hg
         obtain ⟨h1,h2,h3⟩:=app_out hI5 hO5 hqb hb5 hb hg hown
         refine ⟨⟨h1,?_,HK5.out.trans h3⟩,⟨h.c3,h.fr 3⟩,h.lt⟩
         rw [←hpo,List.length_append,hm]
         exact h2
        have HO5:Hid (∀ w',Below w5.heap.size w5 w'→w'.ownsRow base 181 5 (.slice A2 m c2) m (cellsN L2)):=fun w' hb=>own_later hO5 hb
        have p2:=hI5.c2
        have p3:=hI5.c3
        have p4:=hI5.fr 3
        have p5:=hI5.lt
        have hm1:m≤100:=by omega
        have hgn:s.size-a2≤gk-1:=by omega
        have hgp:gk-1<gk:=by omega
        obtain ⟨i1,hj0,hj1,hj2,hj3⟩:=info_parts Tryz.infoNdF
        clear hK5 hR2 hN2 hI5 hO5 hL5 hV4 hsm j1 j3 j5 hL2 hl2 hm hjy hR3 hpo hsb hle2
        go_wp2_with (at_builtin;refine wpList_append_own_at _ rfl _ _ 110 rfl base 181 i1 _ 5 48 Tryz.underlying110 hj0 hj1 hj2 hj3 rfl (by decide) _ m (cellsN L2) rfl (HO5.out _ ?qc0) ⟨w5.heap.size,0,none⟩ 1 1 (cellsNd1 ⟨o,0,⟨#[]⟩,(iy:Int),(jy:Int)⟩) rfl rfl ?qc1 ones5 ?qc2 ?qc3 ?qc4 ?_)
        case qc0=>exact (Below.refl _ _).alloc (Nat.le_refl _) _
        case qc1=>exact news5 (w:=w5) (x:=⟨o,0,⟨#[]⟩,(iy:Int),(jy:Int)⟩) (by simp)
        case qc2=>unfold maxLen;omega
        case qc3=>omega
        case qc4=>simp;omega
        intro v' w6 hown' hgrow _ _
        obtain ⟨HS,⟨y1,y2⟩,y3⟩:=HSt.out _ _ _ ((Below.refl _ _).alloc (Nat.le_refl _) _) hgrow hown'
        obtain ⟨A6,c6,hv'⟩:=own_form hown'
        subst hv'
        have HSo:=hid_of HS
        clear hown' hgrow HS p2 p3 p4 p5
        go_wp2_with fail
        go_roundg (gk-1)
        case measure=>exact hgp
        case rel =>
         obtain ⟨x1,x2,x3⟩:=HSo.out
         exact ⟨x3,Or.inl ⟨a2,.bin o t u,_,hgn,by rw [HSb.out],HR3.out,HN2.out,x1,x2,HLe2.out⟩⟩
       ·have HK5:=hid_of (HKV.out.trans hK5)
        have HF2:Hid (Fls s a a2):=fls_sign HR.out hlt (Int.not_lt.2 HSg.out.1) hF2
        have HI5:=hid_of hI5
        have HO5:=hid_of hO5
        have p2:=hI5.c2
        have p5:=hI5.lt
        clear hK5 hF2 hI5 hO5 hV4 hsm j1 j3 j5
        go_wp2_with fail
        go_ret
        exact ⟨HK5.out,Or.inr ⟨_,a2,v2,L2,rfl,HF2.out,HI5.out,HO5.out⟩⟩
      ·have HNs:Hid (NoSg s k a1):=nosg_down HN.out (by rw [←HSg.out.2];exact hbk)
       have hbkb:(bindN o != (k:Int))=true:=by simpa using hbk
       clear hbk
       go_wp2_with fail
       refine hrk.mono ?_
       rintro e w4 ⟨rfl,hb4⟩
       have HB4:=hid_of (onB HB2.out hb4)
       clear hb4 hrk
       go_wp2_with fail
       go_ret
       exact ⟨HKr.out.trans (kept_below HB4.out hbr),Or.inl ⟨a1,t,v1,by rw [HIy.out];rfl,HR.out,HNs.out,HIr.out.later HB4.out,own_later HOr.out HB4.out,HLr.out⟩⟩
  ·have HKr:=hid_of hKr
   have HF:=hid_of hF
   have HIr:=hid_of hIr
   have HOr:=hid_of hOr
   have hbr:base≤wr.heap.size:=Nat.le_trans hbw hKr.size
   have d0:=hIr.c0
   have d1:=hIr.c1
   have d2:=hIr.c2
   have d5:=hIr.lt
   clear hKr hF hIr hOr HO
   go_wp2_with fail
   go_quiet (fail)
   go_wp2_with fail
   go_ret
   exact ⟨HKr.out.trans (kept_below (below_drewN (Below.refl _ _) _) hbr),Or.inr ⟨i,a1,v1,L1,rfl,HF.out,HIr.out.later (below_drewN (Below.refl _ _) _),own_later HOr.out (below_drewN (Below.refl _ _) _)⟩⟩
end Go.Proofs.YtigkeokacagabafGreatDoor
