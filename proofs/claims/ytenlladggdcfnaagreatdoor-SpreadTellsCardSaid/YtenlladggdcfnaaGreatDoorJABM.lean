/-
  The document's own reader of formulas: sums and products, in whatever memory.
-/
import Derived.Test.YtenlladggdcfnaaGreatDoorJABL
namespace Go.Proofs.YtenlladggdcfnaaGreatDoor
open Go.ChangeShapes Go.WideShapes Go.ChangeAt Go.RowKit
set_option maxRecDepth 20000
set_option maxHeartbeats 2000000 in
theorem sum_three (s:ByteArray) (q base a:Nat) (h:OneC s q base a):SumC s q base 3 a:=by
 intro v L w hI hqb hbw hown hLa
 have hc:=h v L w hI hqb hbw hown hLa
 show Calls Tryz.prog 130 #[.pointer (some ⟨q,0,none⟩),.int .i64 3] w _
 clear hI hown h
 go_enter Tryz.func130,Tryz.ntmps130
 go_wp2_with fail
 refine hc.mono ?_
 rintro e w1 ⟨hK,⟨a1,t,v1,rfl,h1⟩ | ⟨i,a1,v1,L1,rfl,h1⟩⟩
 ·have HH:=hid_of h1
  have HK:=hid_of hK
  clear h1 hK hc
  go_wp2_with fail
  go_ret
  exact ⟨HK.out,Or.inl ⟨a1,t,v1,rfl,HH.out⟩⟩
 ·have HH:=hid_of h1
  have HK:=hid_of hK
  clear h1 hK hc
  go_wp2_with fail
  go_ret
  exact ⟨HK.out,Or.inr ⟨i,a1,v1,L1,rfl,HH.out⟩⟩
def opI (c:Int):Int:=if signI c<0 then 0 else 3+signI c
theorem opI_none {c:Int} (h1:c≠43) (h2:c≠45) (h3:c≠42) (h4:c≠47):opI c=0:=by
 unfold opI signI
 rw [if_neg h1,if_neg h2,if_neg h3,if_neg h4]
 rfl
theorem opI_some {c:Int} (h:opI c≠0) : ¬ signI c<0∧opI c=3+signI c:=by
 unfold opI at *
 by_cases e:signI c<0
 ·rw [if_pos e] at h;exact absurd rfl h
 ·rw [if_neg e];exact ⟨e,rfl⟩
theorem opI_zero {c:Int} (h:opI c=0):signI c<0:=by
 by_cases e:signI c<0
 ·exact e
 ·unfold opI at h
  rw [if_neg e] at h
  rcases sgn_four e with ⟨-,h1⟩ | ⟨-,h1⟩ | ⟨-,h1⟩ | ⟨-,h1⟩ <;> rw [h1] at h <;> omega
theorem nosg_end (s:ByteArray) (k:Nat):NoSg s k s.size:=fun h=>absurd h (Nat.lt_irrefl _)
theorem nosg_down {s:ByteArray} {k a:Nat} (h:NoSg s (k+1) a) (hk:bindN (3+signI (nextB s a))≠(k:Int)):NoSg s k a:=fun hlt=>by
 rcases h hlt with h | h
 ·exact Or.inl h
 ·right;omega
set_option maxHeartbeats 4000000 in
theorem sum_step (s:ByteArray) (q base a k:Nat) (hs:s.size≤100) (hk1:1≤k) (hk2:k≤2) (h0:SumC s q base (k+1) a) (ih:∀ a1,a<a1→a1≤s.size→SumC s q base (k+1) a1):SumC s q base k a:=by
 intro v L w hI hqb hbw hown hLa
 have HIH:=hid_of ih
 have hc:Calls Tryz.prog 130 #[.pointer (some ⟨q,0,none⟩),.int .i64 ((k:Int)+1)] w fun e w'=>OutS s q base (k+1) a L w e w':=h0 v L w hI hqb hbw hown hLa
 have hki:1≤(k:Int):=by omega
 have hki2:(k:Int)≤2:=by omega
 have hk3:((k:Int) == 3)=false:=by simp;omega
 have hsi:(s.size:Int)≤100:=by omega
 clear hI hown h0 ih
 go_enter Tryz.func130,Tryz.ntmps130
 go_wp2_with fail
 refine hc.mono ?_
 rintro e w1 ho
 obtain ⟨ix,he⟩:∃ ix:Int,e=.returned (.int .i64 ix):=by
  rcases ho with ⟨-,⟨a1,t,v1,rfl,-⟩ | ⟨i,a1,v1,L1,rfl,-⟩⟩
  ·exact ⟨_,rfl⟩
  ·exact ⟨_,rfl⟩
 subst he
 have HO:=hid_of ho
 clear ho hc
 go_wp2_with fail
 go_loopg [5] s.size (fun g s5 wr=>Kept base (fun j=>j=q) w wr∧((∃ (a1:Nat) (t:Tre) (v1:Value),s.size-a1≤g∧s5=.int .i64 ((L.length+sizT t-1:Nat):Int)∧Rds s k a a1 t∧NoSg s (k+1) a1∧InV wr q s a1 false v1∧wr.ownsRow base 172 5 v1 (L ++ post t L.length).length (cellsN (L ++ post t L.length))∧a+sizT t≤a1)∨(∃ (i:Int) (a1:Nat) (v1:Value) (L1:List Nd),s5=.int .i64 i∧Fls s a a1∧InV wr q s a1 true v1∧wr.ownsRow base 172 5 v1 L1.length (cellsN L1))))
 case atStart =>
  obtain ⟨hK,⟨a1,t,v1,he,hR,hN,hI1,hO1,hL1⟩ | ⟨i,a1,v1,L1,he,hF,hI1,hO1⟩⟩:=HO.out
  ·simp only [Ending.returned.injEq] at he
   exact ⟨hK,Or.inl ⟨a1,t,v1,by omega,he,rds_up hk1 hk2 hR,hN,hI1,hO1,hL1⟩⟩
  ·simp only [Ending.returned.injEq] at he
   exact ⟨hK,Or.inr ⟨i,a1,v1,L1,he,hF,hI1,hO1⟩⟩
 case round =>
  obtain ⟨hKr,⟨a1,t,v1,hgm,rfl,hR,hN,hIr,hOr,hLr⟩ | ⟨i,a1,v1,L1,rfl,hF,hIr,hOr⟩⟩:=hrel
  ·have HKr:=hid_of hKr
   have HR:=hid_of hR
   have HN:=hid_of hN
   have HIr:=hid_of hIr
   have HOr:=hid_of hOr
   have HLr:=hid_of hLr
   have hbr:base≤wr.heap.size:=Nat.le_trans hbw hKr.size
   have d0:=hIr.c0
   have d1:=hIr.c1
   have d2:=hIr.c2
   have d5:=hIr.lt
   have ha1:a<a1:=hR.1
   have ha2:a1≤s.size:=hR.2.1
   have hp:=siz_pos t
   obtain ⟨iy,hiy⟩:∃ iy,L.length+sizT t-1=iy:=⟨_,rfl⟩
   have HIy:=hid_of hiy
   rw [hiy]
   clear hKr hR hN hIr hOr hLr hiy HO
   by_cases hend:a1=s.size
   ·have hei:(a1:Int)=(s.size:Int):=by omega
    have hdl:decide ((a1:Int)<(s.size:Int))=false:=decide_eq_false (by omega)
    go_wp2_with fail
    go_quiet (fail)
    go_wp2_with fail
    go_ret
    exact ⟨HKr.out.trans (kept_below (below_drewN (Below.refl _ _) _) hbr),Or.inl ⟨a1,t,v1,by rw [HIy.out];rfl,HR.out,by rw [hend];exact nosg_end s k,HIr.out.later (below_drewN (Below.refl _ _) _),own_later HOr.out (below_drewN (Below.refl _ _) _),HLr.out⟩⟩
   ·have hlt:a1<s.size:=by omega
    have hlti:(a1:Int)<(s.size:Int):=by omega
    have hby:=byteN_get s a1 hlt
    have HNx:Hid (nextB s a1=byteN s a1):=by show _=_;rw [nextB,if_neg (by omega)]
    obtain ⟨ch,hch⟩:∃ ch,byteN s a1=ch:=⟨_,rfl⟩
    have HCh:=hid_of hch
    rw [hch] at hby
    clear hch hend
    go_wp2_with fail
    go_quiet (fail)
    obtain ⟨W1,hW1⟩:∃ W1,wr.drewN nq=W1:=⟨_,rfl⟩
    have HB1:Hid (Below wr.heap.size wr W1):=by show Below _ _ _;rw [←hW1];exact below_drewN (Below.refl _ _) _
    rw [hW1]
    have f0:=(HIr.out.later HB1.out).c0
    have f1:=(HIr.out.later HB1.out).c1
    have f5:=(HIr.out.later HB1.out).lt
    clear hW1 d0 d1 d2
    go_wp2_with fail
    go_quiet (fail)
    obtain ⟨W2,hW2⟩:∃ W2,W1.drewN nq=W2:=⟨_,rfl⟩
    have HB2:Hid (Below wr.heap.size wr W2):=by show Below _ _ _;rw [←hW2];exact below_drewN HB1.out _
    rw [hW2]
    have hbs:base≤W2.heap.size:=Nat.le_trans hbr HB2.out.size
    have g1:=(HIr.out.later HB2.out).c1
    have g3:=(HIr.out.later HB2.out).fr 1
    have g5:=(HIr.out.later HB2.out).lt
    clear hW2 f0 f1 f5
    go_upto_block 2 with fail
    go_cut [6] from 33 to 91 (fun s6 wx=>s6=.int .i64 (opI ch)∧wx=W2)
    case first =>
     by_cases e1:ch=43
     ·subst e1
      go_wp2_with fail
      go_meet
      exact ⟨rfl,rfl⟩
     by_cases e2:ch=45
     ·subst e2
      go_wp2_with fail
      go_meet
      exact ⟨rfl,rfl⟩
     by_cases e3:ch=42
     ·subst e3
      go_wp2_with fail
      go_meet
      exact ⟨rfl,rfl⟩
     by_cases e4:ch=47
     ·subst e4
      go_wp2_with fail
      go_meet
      exact ⟨rfl,rfl⟩
     have HE:=hid_of (opI_none e1 e2 e3 e4)
     have b1:(ch == 43)=false:=by simpa using e1
     have b2:(ch == 45)=false:=by simpa using e2
     have b3:(ch == 42)=false:=by simpa using e3
     have b4:(ch == 47)=false:=by simpa using e4
     clear e1 e2 e3 e4
     go_wp2_with fail
     go_meet
     exact ⟨by rw [HE.out],rfl⟩
    case rest =>
     obtain ⟨rfl,hwc⟩:=hcut
     rw [hwc]
     obtain ⟨o,ho⟩:∃ o,opI ch=o:=⟨_,rfl⟩
     have HOp:=hid_of ho
     rw [ho]
     clear ho
     by_cases ho0:o=0
     ·subst ho0
      have HNs:Hid (NoSg s k a1):=fun _=>Or.inl (by rw [HNx.out,HCh.out];exact opI_zero HOp.out)
      go_wp2_with fail
      go_ret
      exact ⟨HKr.out.trans (kept_below HB2.out hbr),Or.inl ⟨a1,t,v1,by rw [HIy.out];rfl,HR.out,HNs.out,HIr.out.later HB2.out,own_later HOr.out HB2.out,HLr.out⟩⟩
     ·have ho0b:(o == 0)=false:=by simpa using ho0
      have HSg:Hid (0≤signI (nextB s a1)∧o=3+signI (nextB s a1)):=by
       have h:=opI_some (c:=ch) (by rw [HOp.out];exact ho0)
       rw [HOp.out] at h
       show _∧_
       rw [HNx.out,HCh.out]
       exact ⟨Int.not_lt.1 h.1,h.2⟩
      have hrk:=rank_any o W2
      clear ho0
      by_cases hbk:bindN o=(k:Int)
      ·have hbkb:(bindN o != (k:Int))=false:=by simp [hbk]
       have HBk:=hid_of hbk
       obtain ⟨L1,hL1⟩:∃ L1,L ++ post t L.length=L1:=⟨_,rfl⟩
       have hl1:L1.length=L.length+sizT t:=by rw [←hL1,List.length_append,post_len]
       have HL1:=hid_of hL1
       have HLl:=hid_of hl1
       have hO1':wr.ownsRow base 172 5 v1 L1.length (cellsN L1):=by rw [←hL1];exact HOr.out
       have HO1:=hid_of hO1'
       have hsz:L1.length≤a1:=by have:=HLr.out;omega
       clear hbk hL1 hl1 hO1'
       go_wp2_with fail
       refine hrk.mono ?_
       rintro e w4 ⟨rfl,hb4⟩
       have HB4:=hid_of (onB HB2.out hb4)
       have HI4:=hid_of (HIr.out.later HB4.out)
       have j1:=HI4.out.c1
       have j3:=HI4.out.fr 1
       have j5:=HI4.out.lt
       obtain ⟨V4,hV4⟩:∃ V4,w4.setCell ⟨q,1,none⟩ (.int .i64 ((a1:Int)+1))=V4:=⟨_,rfl⟩
       have hIV:InV V4 q s (a1+1) false v1:=by rw [←hV4];exact HI4.out.set1 (a1+1)
       have hOV:V4.ownsRow base 172 5 v1 L1.length (cellsN L1):=by rw [←hV4];exact own_off (own_later HO1.out HB4.out) hqb
       have hKV:Kept base (fun j=>j=q) w V4:=by rw [←hV4];exact (HKr.out.trans (kept_below HB4.out hbr)).trans kept_set
       have HKV:=hid_of hKV
       have hsm:Calls Tryz.prog 130 #[.pointer (some ⟨q,0,none⟩),.int .i64 ((k:Int)+1)] V4 fun e w'=>OutS s q base (k+1) (a1+1) L1 V4 e w':=HIH.out (a1+1) (by omega) (by omega) v1 L1 V4 hIV hqb (Nat.le_trans hbw hKV.size) hOV (by omega)
       clear hb4 hrk hIV hOV hKV g1 g3 g5
       go_wp2_with fail
       refine hsm.mono ?_
       rintro e w5 ⟨hK5,⟨a2,u,v2,rfl,hR2,hN2,hI5,hO5,hL5⟩ | ⟨i,a2,v2,L2,rfl,hF2,hI5,hO5⟩⟩
       ·have HK5:=hid_of (HKV.out.trans hK5)
        have hb5:base≤w5.heap.size:=Nat.le_trans hbw HK5.out.size
        obtain ⟨L2,hL2⟩:∃ L2,L1 ++ post u L1.length=L2:=⟨_,rfl⟩
        have hl2:L2.length=L1.length+sizT u:=by rw [←hL2,List.length_append,post_len]
        rw [hL2] at hO5
        obtain ⟨m,hm⟩:∃ m,L2.length=m:=⟨_,rfl⟩
        rw [hm] at hO5
        obtain ⟨A2,c2,hv2⟩:=own_form hO5
        subst hv2
        obtain ⟨jy,hjy⟩:∃ jy,L1.length+sizT u-1=jy:=⟨_,rfl⟩
        have hpu:=siz_pos u
        have hR3:Rds s k a a2 (.bin o t u):=by
         have hsg:=HSg.out
         rw [hsg.2]
         exact rds_bin HR.out hlt (Int.not_lt.2 hsg.1) (by rw [←hsg.2];exact HBk.out) hR2
        have hpo:L2 ++ [⟨o,0,⟨#[]⟩,(iy:Int),(jy:Int)⟩]=L ++ post (.bin o t u) L.length:=by
         rw [←hL2,←hjy,HLl.out,←HL1.out,post,←HIy.out]
         simp only [List.append_assoc]
         rfl
        have hsb:L.length+sizT (.bin o t u)-1=m:=by
         have:=HLl.out
         show L.length+(sizT t+sizT u+1)-1=m
         omega
        have hle2:a+sizT (.bin o t u)≤a2:=by
         have:=HLr.out
         show a+(sizT t+sizT u+1)≤a2
         omega
        have HR3:=hid_of hR3
        have HN2:=hid_of hN2
        have HLe2:=hid_of hle2
        have HSb:=hid_of hsb
        rw [hjy]
        have ha2s:=hR2.2.1
        have HSt:Hid (∀ (W w6:World) (v':Value),Below w5.heap.size w5 W→W.grownBy w6 (Value.slice A2 m c2).ownBlock→w6.ownsRow base 172 5 v' (m+1) (cellsN L2 ++ cellsNd1 ⟨o,0,⟨#[]⟩,(iy:Int),(jy:Int)⟩)→(InV (w6.setCell ⟨q,3,none⟩ v') q s a2 false v'∧(w6.setCell ⟨q,3,none⟩ v').ownsRow base 172 5 v' (L ++ post (.bin o t u) L.length).length (cellsN (L ++ post (.bin o t u) L.length))∧Kept base (fun j=>j=q) w (w6.setCell ⟨q,3,none⟩ v'))∧(w6.cell? ⟨q,3,none⟩=some (.slice A2 m c2)∧w6.frozen? ⟨q,3,none⟩=false)∧q<w6.heap.size):=by
         intro W w6 v' hb hg hown
         have h:=app_at hI5 hO5 hqb hb hg
         obtain ⟨h1,h2,h3⟩:=app_out hI5 hO5 hqb hb5 hb hg hown
         refine ⟨⟨h1,?_,HK5.out.trans h3⟩,⟨h.c3,h.fr 3⟩,h.lt⟩
         rw [←hpo,List.length_append,hm]
         exact h2
        have HO5:Hid (∀ w',Below w5.heap.size w5 w'→w'.ownsRow base 172 5 (.slice A2 m c2) m (cellsN L2)):=fun w' hb=>own_later hO5 hb
        have p2:=hI5.c2
        have p3:=hI5.c3
        have p4:=hI5.fr 3
        have p5:=hI5.lt
        have hm1:m≤100:=by omega
        have hgn:s.size-a2≤gk-1:=by omega
        have hgp:gk-1<gk:=by omega
        obtain ⟨i1,hj0,hj1,hj2,hj3⟩:=info_parts Tryz.infoNdF
        clear hK5 hR2 hN2 hI5 hO5 hL5 hV4 hsm j1 j3 j5 hL2 hl2 hm hjy hR3 hpo hsb hle2
        go_wp2_with (at_builtin;refine wpList_append_own_at _ rfl _ _ 168 rfl base 172 i1 _ 5 48 Tryz.underlying168 hj0 hj1 hj2 hj3 rfl (by decide) _ m (cellsN L2) rfl (HO5.out _ ?qc0) ⟨w5.heap.size,0,none⟩ 1 1 (cellsNd1 ⟨o,0,⟨#[]⟩,(iy:Int),(jy:Int)⟩) rfl rfl ?qc1 ones5 ?qc2 ?qc3 ?qc4 ?_)
        case qc0=>exact (Below.refl _ _).alloc (Nat.le_refl _) _
        case qc1=>exact news5 (w:=w5) (x:=⟨o,0,⟨#[]⟩,(iy:Int),(jy:Int)⟩) (by simp)
        case qc2=>unfold maxLen;omega
        case qc3=>omega
        case qc4=>simp;omega
        intro v' w6 hown' hgrow _ _
        obtain ⟨HS,⟨y1,y2⟩,y3⟩:=HSt.out _ _ _ ((Below.refl _ _).alloc (Nat.le_refl _) _) hgrow hown'
        obtain ⟨A6,c6,hv'⟩:=own_form hown'
        subst hv'
        have HSo:=hid_of HS
        clear hown' hgrow HS p2 p3 p4 p5
        go_wp2_with fail
        go_roundg (gk-1)
        case measure=>exact hgp
        case rel =>
         obtain ⟨x1,x2,x3⟩:=HSo.out
         exact ⟨x3,Or.inl ⟨a2,.bin o t u,_,hgn,by rw [HSb.out],HR3.out,HN2.out,x1,x2,HLe2.out⟩⟩
       ·have HK5:=hid_of (HKV.out.trans hK5)
        have HF2:Hid (Fls s a a2):=fls_sign HR.out hlt (Int.not_lt.2 HSg.out.1) hF2
        have HI5:=hid_of hI5
        have HO5:=hid_of hO5
        have p2:=hI5.c2
        have p5:=hI5.lt
        clear hK5 hF2 hI5 hO5 hV4 hsm j1 j3 j5
        go_wp2_with fail
        go_ret
        exact ⟨HK5.out,Or.inr ⟨_,a2,v2,L2,rfl,HF2.out,HI5.out,HO5.out⟩⟩
      ·have HNs:Hid (NoSg s k a1):=nosg_down HN.out (by rw [←HSg.out.2];exact hbk)
       have hbkb:(bindN o != (k:Int))=true:=by simpa using hbk
       clear hbk
       go_wp2_with fail
       refine hrk.mono ?_
       rintro e w4 ⟨rfl,hb4⟩
       have HB4:=hid_of (onB HB2.out hb4)
       clear hb4 hrk
       go_wp2_with fail
       go_ret
       exact ⟨HKr.out.trans (kept_below HB4.out hbr),Or.inl ⟨a1,t,v1,by rw [HIy.out];rfl,HR.out,HNs.out,HIr.out.later HB4.out,own_later HOr.out HB4.out,HLr.out⟩⟩
  ·have HKr:=hid_of hKr
   have HF:=hid_of hF
   have HIr:=hid_of hIr
   have HOr:=hid_of hOr
   have hbr:base≤wr.heap.size:=Nat.le_trans hbw hKr.size
   have d0:=hIr.c0
   have d1:=hIr.c1
   have d2:=hIr.c2
   have d5:=hIr.lt
   clear hKr hF hIr hOr HO
   go_wp2_with fail
   go_quiet (fail)
   go_wp2_with fail
   go_ret
   exact ⟨HKr.out.trans (kept_below (below_drewN (Below.refl _ _) _) hbr),Or.inr ⟨i,a1,v1,L1,rfl,HF.out,HIr.out.later (below_drewN (Below.refl _ _) _),own_later HOr.out (below_drewN (Below.refl _ _) _)⟩⟩
end Go.Proofs.YtenlladggdcfnaaGreatDoor
