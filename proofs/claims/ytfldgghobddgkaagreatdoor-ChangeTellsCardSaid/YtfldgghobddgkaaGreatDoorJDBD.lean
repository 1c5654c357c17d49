/-
  The document's own reader of formulas: an operand that is a number, in whatever memory.
-/
import Derived.Test.YtfldgghobddgkaaGreatDoorJDBC
namespace Go.Proofs.YtfldgghobddgkaaGreatDoor
open Go.ChangeShapes Go.WideShapes Go.ChangeAt Go.RowKit
set_option maxRecDepth 20000
set_option maxHeartbeats 4000000 in
theorem one_dig (s:ByteArray) (q base a:Nat) (hs:s.size≤100) (ha:a≤s.size) (hd:digB (nextB s a)=true):OneC s q base a:=by
 intro v L w hI hqb hbw hown hLa
 have HI:Hid (InV w q s a false v):=hI
 have HOw:=hid_of hown
 have c0:=hI.c0
 have c1:=hI.c1
 have c2:=hI.c2
 have hq:=hI.lt
 have i1:=fun w' (hb:Below w.heap.size w w')=>in_any q a s v 48 57 w' (by omega) ha (hI.later hb)
 have i2:=fun w' (hb:Below w.heap.size w w')=>in_any q a s v 97 122 w' (by omega) ha (hI.later hb)
 have i3:=fun w' (hb:Below w.heap.size w w')=>in_any q a s v 40 40 w' (by omega) ha (hI.later hb)
 have e1:(decide (48≤nextB s a) && decide (nextB s a≤57))=digB (nextB s a):=rfl
 have e2:(decide (97≤nextB s a) && decide (nextB s a≤122))=letB (nextB s a):=rfl
 rw [e1] at i1
 rw [e2] at i2
 have hsi:(s.size:Int)≤100:=by omega
 have hai:(a:Int)≤(s.size:Int):=by omega
 clear hI hown e1 e2
 have hle:letB (nextB s a)=false:=by unfold digB at hd;unfold letB;simp at hd ⊢;omega
 have h40:nextB s a≠40:=by intro e;rw [e] at hd;revert hd;decide
 have e3:(decide (40≤nextB s a) && decide (nextB s a≤40))=false:=by simp;omega
 have hlt:a<s.size:=next_zero (fun e=>by rw [e] at hd;revert hd;decide) ha
 rw [hd] at i1
 rw [hle] at i2
 rw [e3] at i3
 have HD:=hid_of hd
 clear hd hle h40 e3
 go_enter Tryz.func54,Tryz.ntmps54
 go_wp2_with fail
 refine (i1 _ (Below.refl _ _)).mono ?_
 rintro e w1 ⟨rfl,hb1⟩
 have HB1:=hid_of hb1
 clear hb1
 go_wp2_with fail
 refine (i2 _ HB1.out).mono ?_
 rintro e w2 ⟨rfl,hb2⟩
 have HB2:=hid_of (onB HB1.out hb2)
 clear hb2
 go_wp2_with fail
 refine (i3 _ HB2.out).mono ?_
 rintro e w3 ⟨rfl,hb3⟩
 have HB3:=hid_of (onB HB2.out hb3)
 have HI3:=hid_of (HI.out.later HB3.out)
 have HO3:=hid_of (own_later HOw.out HB3.out)
 have HS3:=hid_of (Nat.le_trans hbw HB3.out.size)
 clear hb3 i1 i2 i3 c0 c1 c2
 have d0:=HI3.out.c0
 have d1:=HI3.out.c1
 have hby:=byteN_get s a hlt
 have hnx:nextB s a=byteN s a:=by rw [nextB,if_neg (by omega)]
 obtain ⟨AL,cL,hv⟩:=own_form HO3.out
 subst hv
 go_wp2_with fail
 go_quiet (fail)
 obtain ⟨W3,hW3⟩:∃ W3,w3.drewN nq=W3:=⟨_,rfl⟩
 have hbW:Below w3.heap.size w3 W3:=by rw [←hW3];exact below_drewN (Below.refl _ _) _
 have HIW:=hid_of (HI3.out.later hbW)
 have HOW:=hid_of (own_later HO3.out hbW)
 have HKW:Hid (Kept base (fun j=>j=q) w W3):=kept_below (onB HB3.out hbW) hbw
 rw [hW3]
 obtain ⟨z,hz⟩:∃ z,(byteN s a == 48)=z:=⟨_,rfl⟩
 have HZ:Hid ((nextB s a == 48)=z):=by show _=_;rw [hnx];exact hz
 have HZ0:=hid_of hz
 clear hW3 hbW d0 d1 hz
 go_upto_block 0 with fail
 rw [HZ0.out]
 go_cut [8,9] from 12 (fun s8 s9 wx=>s8=.int .i64 (numW (s.extract a (a+digitsN s a)))∧InV wx q s (a+digitsN s a) false (.slice AL L.length cL)∧wx.ownsRow base 62 5 (.slice AL L.length cL) L.length (cellsN L)∧Kept base (fun j=>j=q) w wx)
 case first=>as_aux_lemma =>
  go_wp2_with fail
  go_loopg [8,9] 7 (fun g s8 s9 wr => ∃ (k:Nat),k≤7∧g=7-k∧a+k≤s.size∧s8=.int .i64 (numW (s.extract a (a+k)))∧s9=.int .i64 k∧(0≤numW (s.extract a (a+k))∧numW (s.extract a (a+k))+1≤10 ^ k)∧(z=true→k≤1)∧(∀ i,i<k→digB (nextB s (a+i))=true)∧InV wr q s (a+k) false (.slice AL L.length cL)∧wr.ownsRow base 62 5 (.slice AL L.length cL) L.length (cellsN L)∧Kept base (fun j=>j=q) w wr)
  case atStart=>exact ⟨0,by omega,rfl,by omega,by rw [numW_none],rfl,by rw [numW_none];decide,fun _=>by omega,fun i hi=>absurd hi (Nat.not_lt_zero i),HIW.out,HOW.out,HKW.out⟩
  case round =>
   obtain ⟨k,hk7,rfl,hak,rfl,rfl,hnb,hzk,hall,hIr,hOr,hKr⟩:=hrel
   have HNb:=hid_of hnb
   have HZk:=hid_of hzk
   have HAl:=hid_of hall
   have HIr:=hid_of hIr
   have HOr:=hid_of hOr
   have HKr:=hid_of hKr
   have hbr:base≤wr.heap.size:=Nat.le_trans hbw hKr.size
   obtain ⟨nk,hnk⟩:∃ nk,numW (s.extract a (a+k))=nk:=⟨_,rfl⟩
   have HNk:=hid_of hnk
   rw [hnk]
   have i5:=in_any q (a+k) s (.slice AL L.length cL) 48 57 wr (by omega) hak hIr
   have e5:(decide (48≤nextB s (a+k)) && decide (nextB s (a+k)≤57))=digB (nextB s (a+k)):=rfl
   rw [e5] at i5
   clear hnb hzk hall hIr hOr hKr hnk e5
   by_cases hk:k<7
   ·have hki:(k:Int)<7:=by omega
    cases hdk:digB (nextB s (a+k))
    ·have HDk:=hid_of hdk
     have HEnd:Hid (digitsN s a=k):=by
      show _=_
      have hk1:1≤k:=by
       apply Nat.pos_of_ne_zero
       intro e
       subst e
       rw [Nat.add_zero] at hdk
       rw [HD.out] at hdk
       cases hdk
      by_cases hz1:nextB s a=48
      ·have hzt:z=true:=by rw [←HZ.out];simpa using hz1
       have:=HZk.out hzt
       rw [digs_zero hz1];omega
      ·exact digs_stop hk1 hak HAl.out hz1 (Or.inr hdk) hk7
     rw [hdk] at i5
     clear hdk
     go_wp2_with fail
     refine i5.mono ?_
     rintro e w4 ⟨rfl,hb4⟩
     have HB4:=hid_of hb4
     clear hb4 i5
     go_wp2_with fail
     go_meet
     rw [HEnd.out]
     exact ⟨by rw [HNk.out],HIr.out.later HB4.out,own_later HOr.out HB4.out,HKr.out.trans (kept_below HB4.out hbr)⟩
    ·have HDk:=hid_of hdk
     have hlk:a+k<s.size:=next_zero (fun e=>by rw [e] at hdk;revert hdk;decide) hak
     rw [hdk] at i5
     clear hdk
     by_cases hzb:z=true∧0<k
     ·obtain ⟨hz1,hk0⟩:=hzb
      have hki0:0<(k:Int):=by omega
      have HEnd:Hid (digitsN s a=k):=by
       show _=_
       have:=HZk.out hz1
       have h48:nextB s a=48:=by have:=HZ.out;rw [hz1] at this;simpa using this
       rw [digs_zero h48];omega
      subst hz1
      go_wp2_with fail
      refine i5.mono ?_
      rintro e w4 ⟨rfl,hb4⟩
      have HB4:=hid_of hb4
      clear hb4 i5
      go_wp2_with fail
      go_meet
      rw [HEnd.out]
      exact ⟨by rw [HNk.out],HIr.out.later HB4.out,own_later HOr.out HB4.out,HKr.out.trans (kept_below HB4.out hbr)⟩
     ·have HZ1:Hid (z=true→k+1≤1):=fun e=>by
       have : ¬ 0<k:=fun h=>hzb ⟨e,h⟩
       omega
      obtain ⟨p,hp⟩:∃ p,a+k=p:=⟨_,rfl⟩
      have HP:=hid_of hp
      have hlp:p<s.size:=by omega
      have hlpi:(p:Int)<(s.size:Int):=by omega
      have hby2:=byteN_get s p hlp
      have HNx:Hid (nextB s (a+k)=byteN s p):=by show _=_;rw [nextB,if_neg (by omega),hp]
      have hdr:48≤byteN s p∧byteN s p≤57:=by have h:=HDk.out;rw [HNx.out] at h;unfold digB at h;simpa using h
      obtain ⟨ch,hch⟩:∃ ch,byteN s p=ch:=⟨_,rfl⟩
      have HCh:=hid_of hch
      rw [hch] at hby2 hdr
      obtain ⟨d1,d2⟩:=hdr
      have h10:(10:Int) ^ k≤1000000:=ten_small k hk
      have n0:0≤nk:=by have:=HNb.out.1;rw [HNk.out] at this;exact this
      have n1:nk+1≤1000000:=by have:=HNb.out.2;rw [HNk.out] at this;omega
      have HStep:Hid (numW (s.extract a (a+(k+1)))=nk*10+ch-48):=by show _=_;rw [numW_more hlk,HNk.out,HNx.out,HCh.out];omega
      have HIp:Hid (InV wr q s p false (.slice AL L.length cL)):=by show InV _ _ _ _ _ _;rw [←hp];exact HIr.out
      have hzf:z=true→(k:Int)=0:=fun e=>by have:=HZ1.out e;omega
      clear hch
      have hqr:=HIr.out.lt
      have HIn:Hid (numW (s.extract a (a+(k+1)))+1≤10 ^ (k+1)∧0≤numW (s.extract a (a+(k+1)))):=by
       have h1:=HStep.out
       have h2:=HNb.out.2
       rw [HNk.out] at h2
       have h3:(10:Int) ^ (k+1)=10 ^ k*10:=Int.pow_succ ..
       show _∧_
       rw [h1,h3]
       omega
      have fin:∀ (w5:World),Below wr.heap.size wr w5→InV (w5.setCell ⟨q,1,none⟩ (.int .i64 ((p:Int)+1))) q s (a+(k+1)) false (.slice AL L.length cL)∧(w5.setCell ⟨q,1,none⟩ (.int .i64 ((p:Int)+1))).ownsRow base 62 5 (.slice AL L.length cL) L.length (cellsN L)∧Kept base (fun j=>j=q) w (w5.setCell ⟨q,1,none⟩ (.int .i64 ((p:Int)+1))):=fun w5 hb5=>by
       refine ⟨?_,own_off (own_later HOr.out hb5) hqb,(HKr.out.trans (kept_below hb5 hbr)).trans kept_set⟩
       rw [show a+(k+1)=p+1 by omega]
       exact (HIp.out.later hb5).set1 (p+1)
      have HFin:=hid_of fin
      have HAll:Hid (∀ i,i<k+1→digB (nextB s (a+i))=true):=fun i hi=>by
       by_cases e:i=k
       ·rw [e];exact HDk.out
       ·exact HAl.out i (by omega)
      clear fin
      cases hzc:z
      ·have HZc:=hid_of hzc
       subst hzc
       go_wp2_with fail
       refine i5.mono ?_
       rintro e w4 ⟨rfl,hb4⟩
       have HB4:=hid_of hb4
       have d0:=(HIp.out.later hb4).c0
       have d1':=(HIp.out.later hb4).c1
       clear hb4 i5
       go_wp2_with fail
       go_quiet (fail)
       obtain ⟨W5,hW5⟩:∃ W5,w4.drewN nq=W5:=⟨_,rfl⟩
       have HB5:Hid (Below wr.heap.size wr W5):=by show Below _ _ _;rw [←hW5];exact below_drewN HB4.out _
       rw [hW5]
       have d3:=(HIp.out.later HB5.out).c1
       have d4:=(HIp.out.later HB5.out).fr 1
       have d5:=(HIp.out.later HB5.out).lt
       clear hW5 d0 d1'
       go_wp2_with fail
       go_roundg (7-(k+1))
       case measure=>omega
       case rel =>
        obtain ⟨x1,x2,x3⟩:=HFin.out _ HB5.out
        exact ⟨k+1,by omega,rfl,by omega,by rw [HStep.out],by go_num,HIn.out.symm,HZ1.out,HAll.out,x1,x2,x3⟩
      ·have hk0:k=0:=by have:=HZ1.out hzc;omega
       have hk0i:decide (0<(k:Int))=false:=by rw [hk0];rfl
       subst hzc
       go_wp2_with fail
       refine i5.mono ?_
       rintro e w4 ⟨rfl,hb4⟩
       have HB4:=hid_of hb4
       have d0:=(HIp.out.later hb4).c0
       have d1':=(HIp.out.later hb4).c1
       clear hb4 i5
       go_wp2_with fail
       go_quiet (fail)
       obtain ⟨W5,hW5⟩:∃ W5,w4.drewN nq=W5:=⟨_,rfl⟩
       have HB5:Hid (Below wr.heap.size wr W5):=by show Below _ _ _;rw [←hW5];exact below_drewN HB4.out _
       rw [hW5]
       have d3:=(HIp.out.later HB5.out).c1
       have d4:=(HIp.out.later HB5.out).fr 1
       have d5:=(HIp.out.later HB5.out).lt
       clear hW5 d0 d1'
       go_wp2_with fail
       go_roundg (7-(k+1))
       case measure=>omega
       case rel =>
        obtain ⟨x1,x2,x3⟩:=HFin.out _ HB5.out
        exact ⟨k+1,by omega,rfl,by omega,by rw [HStep.out],by go_num,HIn.out.symm,HZ1.out,HAll.out,x1,x2,x3⟩
   ·have hk7':k=7:=by omega
    subst hk7'
    have HEnd:Hid (digitsN s a=7):=by
     show _=_
     by_cases hz1:nextB s a=48
     ·have hzt:z=true:=by rw [←HZ.out];simpa using hz1
      have:=HZk.out hzt
      omega
     ·exact digs_stop (by omega) hak HAl.out hz1 (Or.inl rfl) hk7
    clear i5
    go_wp2_with fail
    go_meet
    rw [HEnd.out]
    exact ⟨by rw [HNk.out],HIr.out,HOr.out,HKr.out⟩
 case rest =>
  obtain ⟨rfl,hIc,hOc,hKc⟩:=hcut
  obtain ⟨w4,rfl⟩:∃ wx:World,wx=wc:=⟨_,rfl⟩
  obtain ⟨i1,hj0,hj1,hj2,hj3⟩:=info_parts Tryz.infoNdF
  have HR:=hid_of (rds_dig ha HD.out)
  have hnd:opndN (s.extract a (a+digitsN s a))=⟨1,numW (s.extract a (a+digitsN s a)),⟨#[]⟩,0,0⟩:=by
   have h1:=word_first hlt (dig_pos ha HD.out).1
   have h2:=HD.out
   unfold digB at h2
   unfold opndN
   rw [h1,if_neg (by simp at h2;omega)]
  obtain ⟨m,hm⟩:∃ m,L.length=m:=⟨_,rfl⟩
  obtain ⟨nn,hnn⟩:∃ nn,numW (s.extract a (a+digitsN s a))=nn:=⟨_,rfl⟩
  have HM:=hid_of hm
  have hm1:(m:Int)≤100:=by omega
  rw [hm] at hIc hOc
  rw [hnn] at hnd ⊢
  have hb4:base≤w4.heap.size:=Nat.le_trans hbw hKc.size
  have HSt:Hid (∀ (W w6:World) (v':Value),Below w4.heap.size w4 W→W.grownBy w6 (Value.slice AL m cL).ownBlock→w6.ownsRow base 62 5 v' (m+1) (cellsN L ++ cellsNd1 ⟨1,nn,⟨#[]⟩,0,0⟩)→OutS s q base 3 a L w (.returned (.int .i64 (m:Int))) (w6.setCell ⟨q,3,none⟩ v')∧(w6.cell? ⟨q,3,none⟩=some (.slice AL m cL)∧w6.frozen? ⟨q,3,none⟩=false)∧q<w6.heap.size):=by
   intro W w6 v' hb hg ho
   have h:=app_at hIc hOc hqb hb hg
   exact ⟨out_leaf HM.out HR.out hKc hIc hOc hqb hb4 hb hg (by rw [hnd];exact ho),⟨h.c3,h.fr 3⟩,h.lt⟩
  have HO1:Hid (∀ w',Below w4.heap.size w4 w'→w'.ownsRow base 62 5 (.slice AL m cL) m (cellsN L)):=fun w' hb=>own_later hOc hb
  have d3:=hIc.c3
  have d4:=hIc.fr 3
  have d5:=hIc.lt
  clear hIc hOc hKc hnd hnn hm
  go_wp2_with (at_builtin;refine wpList_append_own_at _ rfl _ _ 58 rfl base 62 i1 _ 5 48 Tryz.underlying58 hj0 hj1 hj2 hj3 rfl (by decide) _ m (cellsN L) rfl (HO1.out _ ?qc0) ⟨w4.heap.size,0,none⟩ 1 1 (cellsNd1 ⟨1,nn,⟨#[]⟩,0,0⟩) rfl rfl ?qc1 ones5 ?qc2 ?qc3 ?qc4 ?_)
  case qc0=>exact (Below.refl _ _).alloc (Nat.le_refl _) _
  case qc1=>exact news5 (w:=w4) (x:=⟨1,nn,⟨#[]⟩,0,0⟩) (by simp)
  case qc2=>unfold maxLen;omega
  case qc3=>omega
  case qc4=>simp;omega
  intro v' w6 hown' hgrow _ _
  obtain ⟨HS,⟨y1,y2⟩,y3⟩:=HSt.out _ _ _ ((Below.refl _ _).alloc (Nat.le_refl _) _) hgrow hown'
  obtain ⟨A6,c6,hv'⟩:=own_form hown'
  subst hv'
  have HSo:=hid_of HS
  clear hown' hgrow HS
  go_wp2_with fail
  go_ret
  exact HSo.out
set_option maxHeartbeats 4000000 in
theorem one_let (s:ByteArray) (q base a:Nat) (hs:s.size≤100) (ha:a≤s.size) (hle:letB (nextB s a)=true):OneC s q base a:=by
 intro v L w hI hqb hbw hown hLa
 have HI:Hid (InV w q s a false v):=hI
 have HOw:=hid_of hown
 have c0:=hI.c0
 have c1:=hI.c1
 have c2:=hI.c2
 have hq:=hI.lt
 have i1:=fun w' (hb:Below w.heap.size w w')=>in_any q a s v 48 57 w' (by omega) ha (hI.later hb)
 have i2:=fun w' (hb:Below w.heap.size w w')=>in_any q a s v 97 122 w' (by omega) ha (hI.later hb)
 have i3:=fun w' (hb:Below w.heap.size w w')=>in_any q a s v 40 40 w' (by omega) ha (hI.later hb)
 have e1:(decide (48≤nextB s a) && decide (nextB s a≤57))=digB (nextB s a):=rfl
 have e2:(decide (97≤nextB s a) && decide (nextB s a≤122))=letB (nextB s a):=rfl
 rw [e1] at i1
 rw [e2] at i2
 have hsi:(s.size:Int)≤100:=by omega
 have hai:(a:Int)≤(s.size:Int):=by omega
 clear hI hown e1 e2
 have hd:digB (nextB s a)=false:=by unfold letB at hle;unfold digB;simp at hle ⊢;omega
 have h40:nextB s a≠40:=by intro e;rw [e] at hle;revert hle;decide
 have e3:(decide (40≤nextB s a) && decide (nextB s a≤40))=false:=by simp;omega
 have hlt:a<s.size:=next_zero (fun e=>by rw [e] at hle;revert hle;decide) ha
 rw [hd] at i1
 rw [hle] at i2
 rw [e3] at i3
 have HD:=hid_of hle
 clear hd hle h40 e3
 go_enter Tryz.func54,Tryz.ntmps54
 go_wp2_with fail
 refine (i1 _ (Below.refl _ _)).mono ?_
 rintro e w1 ⟨rfl,hb1⟩
 have HB1:=hid_of hb1
 clear hb1
 go_wp2_with fail
 refine (i2 _ HB1.out).mono ?_
 rintro e w2 ⟨rfl,hb2⟩
 have HB2:=hid_of (onB HB1.out hb2)
 clear hb2
 go_wp2_with fail
 refine (i3 _ HB2.out).mono ?_
 rintro e w3 ⟨rfl,hb3⟩
 have HB3:=hid_of (onB HB2.out hb3)
 have HI3:=hid_of (HI.out.later HB3.out)
 have HO3:=hid_of (own_later HOw.out HB3.out)
 have HS3:=hid_of (Nat.le_trans hbw HB3.out.size)
 clear hb3 i1 i2 i3 c0 c1 c2
 obtain ⟨AL,cL,hv⟩:=own_form HO3.out
 subst hv
 have HKW:Hid (Kept base (fun j=>j=q) w w3):=kept_below HB3.out hbw
 go_upto_block 2 with fail
 go_cut [] from 12 (fun wx=>InV wx q s (a+leadN letB (s.extract a s.size)) false (.slice AL L.length cL)∧wx.ownsRow base 62 5 (.slice AL L.length cL) L.length (cellsN L)∧Kept base (fun j=>j=q) w wx)
 case first=>as_aux_lemma =>
  go_wp2_with fail
  go_loopg [] s.size (fun g wr => ∃ (k:Nat),g=s.size-k∧a+k≤s.size∧(∀ i,i<k→letB (nextB s (a+i))=true)∧InV wr q s (a+k) false (.slice AL L.length cL)∧wr.ownsRow base 62 5 (.slice AL L.length cL) L.length (cellsN L)∧Kept base (fun j=>j=q) w wr)
  case atStart=>exact ⟨0,rfl,by omega,fun i hi=>absurd hi (Nat.not_lt_zero i),HI3.out,HO3.out,HKW.out⟩
  case round =>
   obtain ⟨k,rfl,hak,hall,hIr,hOr,hKr⟩:=hrel
   have HAl:=hid_of hall
   have HIr:=hid_of hIr
   have HOr:=hid_of hOr
   have HKr:=hid_of hKr
   have hbr:base≤wr.heap.size:=Nat.le_trans hbw hKr.size
   have i5:=in_any q (a+k) s (.slice AL L.length cL) 97 122 wr (by omega) hak hIr
   have e5:(decide (97≤nextB s (a+k)) && decide (nextB s (a+k)≤122))=letB (nextB s (a+k)):=rfl
   rw [e5] at i5
   clear hall hIr hOr hKr e5
   cases hdk:letB (nextB s (a+k))
   ·have HEnd:Hid (leadN letB (s.extract a s.size)=k):=lets_stop hak HAl.out hdk
    rw [hdk] at i5
    clear hdk
    go_wp2_with fail
    refine i5.mono ?_
    rintro e w4 ⟨rfl,hb4⟩
    have HB4:=hid_of hb4
    clear hb4 i5
    go_wp2_with fail
    go_meet
    rw [HEnd.out]
    exact ⟨HIr.out.later HB4.out,own_later HOr.out HB4.out,HKr.out.trans (kept_below HB4.out hbr)⟩
   ·have HDk:=hid_of hdk
    have hlk:a+k<s.size:=next_zero (fun e=>by rw [e] at hdk;revert hdk;decide) hak
    rw [hdk] at i5
    clear hdk
    obtain ⟨p,hp⟩:∃ p,a+k=p:=⟨_,rfl⟩
    have HP:=hid_of hp
    have hlpi:(p:Int)<(s.size:Int):=by omega
    have HIp:Hid (InV wr q s p false (.slice AL L.length cL)):=by show InV _ _ _ _ _ _;rw [←hp];exact HIr.out
    have fin:∀ (w5:World),Below wr.heap.size wr w5→InV (w5.setCell ⟨q,1,none⟩ (.int .i64 ((p:Int)+1))) q s (a+(k+1)) false (.slice AL L.length cL)∧(w5.setCell ⟨q,1,none⟩ (.int .i64 ((p:Int)+1))).ownsRow base 62 5 (.slice AL L.length cL) L.length (cellsN L)∧Kept base (fun j=>j=q) w (w5.setCell ⟨q,1,none⟩ (.int .i64 ((p:Int)+1))):=fun w5 hb5=>by
     refine ⟨?_,own_off (own_later HOr.out hb5) hqb,(HKr.out.trans (kept_below hb5 hbr)).trans kept_set⟩
     rw [show a+(k+1)=p+1 by omega]
     exact (HIp.out.later hb5).set1 (p+1)
    have HFin:=hid_of fin
    have HAll:Hid (∀ i,i<k+1→letB (nextB s (a+i))=true):=fun i hi=>by
     by_cases e:i=k
     ·rw [e];exact HDk.out
     ·exact HAl.out i (by omega)
    clear fin
    go_wp2_with fail
    refine i5.mono ?_
    rintro e w4 ⟨rfl,hb4⟩
    have HB4:=hid_of hb4
    have d3:=(HIp.out.later hb4).c1
    have d4:=(HIp.out.later hb4).fr 1
    have d5:=(HIp.out.later hb4).lt
    clear hb4 i5
    go_wp2_with fail
    go_roundg (s.size-(k+1))
    case measure=>omega
    case rel =>
     obtain ⟨x1,x2,x3⟩:=HFin.out _ HB4.out
     exact ⟨k+1,rfl,by omega,HAll.out,x1,x2,x3⟩
 case rest =>
  obtain ⟨hIc,hOc,hKc⟩:=hcut
  obtain ⟨w4,rfl⟩:∃ wx:World,wx=wc:=⟨_,rfl⟩
  obtain ⟨i1,hj0,hj1,hj2,hj3⟩:=info_parts Tryz.infoNdF
  have HR:=hid_of (rds_let ha HD.out)
  obtain ⟨hn1,hn2⟩:=let_pos ha HD.out
  have hnd:opndN (s.extract a (a+leadN letB (s.extract a s.size)))=⟨2,0,s.extract a (a+leadN letB (s.extract a s.size)),0,0⟩:=by
   have h1:=word_first hlt hn1
   have h2:=HD.out
   unfold letB at h2
   unfold opndN
   rw [h1,if_pos (by simpa using h2)]
  obtain ⟨m,hm⟩:∃ m,L.length=m:=⟨_,rfl⟩
  obtain ⟨p,hp⟩:∃ p,a+leadN letB (s.extract a s.size)=p:=⟨_,rfl⟩
  have HM:=hid_of hm
  have hm1:(m:Int)≤100:=by omega
  rw [hm] at hIc hOc
  rw [hp] at hIc hnd
  have hpi:(p:Int)≤(s.size:Int):=by omega
  have hapi:(a:Int)≤(p:Int):=by omega
  have HRp:Hid (Rds s 3 a p (leafT (s.extract a p))):=by show Rds _ _ _ _ _;rw [←hp];exact HR.out
  have hb4:base≤w4.heap.size:=Nat.le_trans hbw hKc.size
  have HSt:Hid (∀ (W w6:World) (v':Value),Below w4.heap.size w4 W→W.grownBy w6 (Value.slice AL m cL).ownBlock→w6.ownsRow base 62 5 v' (m+1) (cellsN L ++ cellsNd1 ⟨2,0,s.extract a p,0,0⟩)→OutS s q base 3 a L w (.returned (.int .i64 (m:Int))) (w6.setCell ⟨q,3,none⟩ v')∧(w6.cell? ⟨q,3,none⟩=some (.slice AL m cL)∧w6.frozen? ⟨q,3,none⟩=false)∧q<w6.heap.size):=by
   intro W w6 v' hb hg ho
   have h:=app_at hIc hOc hqb hb hg
   exact ⟨out_leaf HM.out HRp.out hKc hIc hOc hqb hb4 hb hg (by rw [hnd];exact ho),⟨h.c3,h.fr 3⟩,h.lt⟩
  have HO1:Hid (∀ w',Below w4.heap.size w4 w'→w'.ownsRow base 62 5 (.slice AL m cL) m (cellsN L)):=fun w' hb=>own_later hOc hb
  have d0:=hIc.c0
  have d1:=hIc.c1
  have d3:=hIc.c3
  have d4:=hIc.fr 3
  have d5:=hIc.lt
  clear hIc hOc hKc hnd hm hp hn1 hn2 HR
  go_wp2_with fail
  go_region_law (refine step_append_lies _ (by rfl) _ _ _ (by rfl) base 62 i1 _ 5 48 Tryz.underlying58 hj0 hj1 hj2 hj3 rfl (by omega) (.slice AL m cL) m (cellsN L) (by rfl) (HO1.out _ (by go_grown)) ⟨w4.heap.size,0,none⟩ 1 1 (cellsNd1 ⟨2,0,s.extract a p,0,0⟩) (by rfl) (by rfl) (World.news_of_block (cs := #[.int .i64 2,.int .i64 0,.string (s.extract a p),.int .i64 0,.int .i64 0]) (t:=62) (fr:=(0,0)) (topFd w4 _)) ones5 (by omega) (by unfold maxLen;omega) (by omega) (by simp;omega) (w4.heap.size+1) (by simp) ?_;intro gg cg w6 hown6 hgrow hat hlt6;obtain ⟨HS,⟨y1,y2⟩,y3⟩:=HSt.out _ _ _ (by go_grown) hgrow hown6;have HSo:=hid_of HS;clear HS hown6 hgrow hat)
  all_goals (go_wp2_with fail;go_ret;exact HSo.out)
set_option maxHeartbeats 4000000 in
theorem one_step (s:ByteArray) (q base a:Nat) (hs:s.size≤100) (ha:a≤s.size) (ih:∀ a1,a<a1→a1≤s.size→SumC s q base 1 a1):OneC s q base a:=by
 intro v L w hI hqb hbw hown hLa
 have HI:Hid (InV w q s a false v):=hI
 have HOw:=hid_of hown
 have HIH:=hid_of ih
 have c0:=hI.c0
 have c1:=hI.c1
 have c2:=hI.c2
 have hq:=hI.lt
 have i1:=fun w' (hb:Below w.heap.size w w')=>in_any q a s v 48 57 w' (by omega) ha (hI.later hb)
 have i2:=fun w' (hb:Below w.heap.size w w')=>in_any q a s v 97 122 w' (by omega) ha (hI.later hb)
 have i3:=fun w' (hb:Below w.heap.size w w')=>in_any q a s v 40 40 w' (by omega) ha (hI.later hb)
 have e1:(decide (48≤nextB s a) && decide (nextB s a≤57))=digB (nextB s a):=rfl
 have e2:(decide (97≤nextB s a) && decide (nextB s a≤122))=letB (nextB s a):=rfl
 rw [e1] at i1
 rw [e2] at i2
 have hsi:(s.size:Int)≤100:=by omega
 have hai:(a:Int)≤(s.size:Int):=by omega
 clear hI hown ih e1 e2
 cases hd:digB (nextB s a)
 case true=>exact one_dig s q base a hs ha hd v L w HI.out hqb hbw HOw.out hLa
 cases hle:letB (nextB s a)
 case true=>exact one_let s q base a hs ha hle v L w HI.out hqb hbw HOw.out hLa
 rw [hd] at i1
 rw [hle] at i2
 by_cases h40:nextB s a=40
 ·have e3:(decide (40≤nextB s a) && decide (nextB s a≤40))=true:=by rw [h40];rfl
  rw [e3] at i3
  have hlt:a<s.size:=next_zero (by rw [h40];decide) ha
  have H40:=hid_of h40
  clear hd hle h40 e3
  go_enter Tryz.func54,Tryz.ntmps54
  go_wp2_with fail
  refine (i1 _ (Below.refl _ _)).mono ?_
  rintro e w1 ⟨rfl,hb1⟩
  have HB1:=hid_of hb1
  clear hb1
  go_wp2_with fail
  refine (i2 _ HB1.out).mono ?_
  rintro e w2 ⟨rfl,hb2⟩
  have HB2:=hid_of (onB HB1.out hb2)
  clear hb2
  go_wp2_with fail
  refine (i3 _ HB2.out).mono ?_
  rintro e w3 ⟨rfl,hb3⟩
  have HB3:=hid_of (onB HB2.out hb3)
  have HI3:=hid_of (HI.out.later HB3.out)
  have HO3:=hid_of (own_later HOw.out HB3.out)
  have HS3:=hid_of (Nat.le_trans hbw HB3.out.size)
  have d1:=HI3.out.c1
  have g1:=HI3.out.fr 1
  have hq3:=HI3.out.lt
  obtain ⟨V3,hV3⟩:∃ V3,w3.setCell ⟨q,1,none⟩ (.int .i64 ((a:Int)+1))=V3:=⟨_,rfl⟩
  have hIV:InV V3 q s (a+1) false v:=by rw [←hV3];exact HI3.out.set1 (a+1)
  have hOV:V3.ownsRow base 62 5 v L.length (cellsN L):=by rw [←hV3];exact own_off HO3.out hqb
  have hKV:Kept base (fun j=>j=q) w V3:=by rw [←hV3];exact (kept_below HB3.out hbw).trans kept_set
  have hsm:=HIH.out (a+1) (by omega) (by omega) v L V3 hIV hqb (by rw [←hV3];simpa using HS3.out) hOV (by omega)
  have HKV:=hid_of hKV
  clear hb3 i1 i2 i3 c0 c1 c2 hIV hOV hKV
  go_wp2_with fail
  refine hsm.mono ?_
  rintro e w4 ⟨hK4,⟨a1,t,v1,rfl,hR,hN,hI4,hO4,hL4⟩ | ⟨i,a1,v1,L1,rfl,hF,hI4,hO4⟩⟩
  ·have HK4:=hid_of (HKV.out.trans hK4)
   have HR:=hid_of hR
   have HNs:=hid_of hN
   have HI4:=hid_of hI4
   have HO4:=hid_of hO4
   have HL4:=hid_of hL4
   have hbs4:base≤w4.heap.size:=Nat.le_trans hbw (Nat.le_trans HKV.out.size hK4.size)
   have i4:=in_any q a1 s v1 41 41 w4 (by omega) hR.2.1 hI4
   have hp:=siz_pos t
   obtain ⟨ix,hix⟩:∃ ix,L.length+sizT t-1=ix:=⟨_,rfl⟩
   have HIx:=hid_of hix
   rw [hix]
   have ha1:(a1:Int)≤100:=by have:=hR.2.1;omega
   clear hK4 hR hN hI4 hO4 hL4 hix hV3 hsm d1 g1
   by_cases h41:nextB s a1=41
   ·have e4:(decide (41≤nextB s a1) && decide (nextB s a1≤41))=true:=by rw [h41];rfl
    rw [e4] at i4
    have H41:=hid_of h41
    clear h41 e4
    go_wp2_with fail
    refine i4.mono ?_
    rintro e w5 ⟨rfl,hb5⟩
    have HB5:=hid_of hb5
    have HI5:=hid_of (HI4.out.later hb5)
    have f1:=HI5.out.c1
    have k1:=HI5.out.fr 1
    clear hb5 i4
    go_wp2_with fail
    go_ret
    refine ⟨(HK4.out.trans (kept_below HB5.out hbs4)).trans kept_set,Or.inl ⟨a1+1,t,v1,by rw [HIx.out];rfl,rds_brk ha H40.out HR.out H41.out,nosg3 _ _,?_,own_off (own_later HO4.out HB5.out) hqb,by have:=HL4.out;omega⟩⟩
    exact HI5.out.set1 (a1+1)
   ·have e4:(decide (41≤nextB s a1) && decide (nextB s a1≤41))=false:=by simp;omega
    rw [e4] at i4
    have H41:=hid_of h41
    clear h41 e4
    go_wp2_with fail
    refine i4.mono ?_
    rintro e w5 ⟨rfl,hb5⟩
    have HB5:=hid_of hb5
    have HI5:=hid_of (HI4.out.later hb5)
    have f1:=HI5.out.c2
    have k1:=HI5.out.fr 2
    clear hb5 i4
    go_wp2_with fail
    go_ret
    exact ⟨(HK4.out.trans (kept_below HB5.out hbs4)).trans kept_set,Or.inr ⟨0,a1,v1,_,rfl,fls_shut ha H40.out HR.out HNs.out H41.out,HI5.out.set2 true,own_off (own_later HO4.out HB5.out) hqb⟩⟩
  ·have HK4:=hid_of (HKV.out.trans hK4)
   have HF:=hid_of hF
   have HI4:=hid_of hI4
   have HO4:=hid_of hO4
   have hbs4:base≤w4.heap.size:=Nat.le_trans hbw (Nat.le_trans HKV.out.size hK4.size)
   have i4:=in_bad q a1 s v1 41 41 w4 hI4
   clear hK4 hF hI4 hO4 hV3 hsm d1 g1
   go_wp2_with fail
   refine i4.mono ?_
   rintro e w5 ⟨rfl,hb5⟩
   have HB5:=hid_of hb5
   have HI5:=hid_of (HI4.out.later hb5)
   have f1:=HI5.out.c2
   have k1:=HI5.out.fr 2
   clear hb5 i4
   go_wp2_with fail
   go_ret
   exact ⟨(HK4.out.trans (kept_below HB5.out hbs4)).trans kept_set,Or.inr ⟨0,a1,v1,L1,rfl,fls_open ha H40.out HF.out,HI5.out.set2 true,own_off (own_later HO4.out HB5.out) hqb⟩⟩
 ·have e3:(decide (40≤nextB s a) && decide (nextB s a≤40))=false:=by simp;omega
  rw [e3] at i3
  have HF:Hid (Fls s a a):=fls_none ha h40 hd hle
  clear hd hle h40 e3
  go_enter Tryz.func54,Tryz.ntmps54
  go_wp2_with fail
  refine (i1 _ (Below.refl _ _)).mono ?_
  rintro e w1 ⟨rfl,hb1⟩
  have HB1:=hid_of hb1
  clear hb1
  go_wp2_with fail
  refine (i2 _ HB1.out).mono ?_
  rintro e w2 ⟨rfl,hb2⟩
  have HB2:=hid_of (onB HB1.out hb2)
  clear hb2
  go_wp2_with fail
  refine (i3 _ HB2.out).mono ?_
  rintro e w3 ⟨rfl,hb3⟩
  have HB3:=hid_of (onB HB2.out hb3)
  have HI3:=hid_of (HI.out.later HB3.out)
  have d2:=HI3.out.c2
  have g2:=HI3.out.fr 2
  clear hb3 i1 i2 i3 c0 c1 c2
  go_wp2_with fail
  go_ret
  refine ⟨(kept_below HB3.out hbw).trans kept_set,Or.inr ⟨0,a,v,L,rfl,HF.out,HI3.out.set2 true,own_off (own_later HOw.out HB3.out) hqb⟩⟩
end Go.Proofs.YtfldgghobddgkaaGreatDoor
