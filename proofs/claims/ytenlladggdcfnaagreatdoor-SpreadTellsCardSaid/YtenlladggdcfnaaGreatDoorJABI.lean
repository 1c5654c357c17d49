/-
  The document's own reader of formulas: sums and products, in whatever memory.
-/
import Derived.Deep.CutRange
import Derived.Test.YtenlladggdcfnaaGreatDoorJAAV
import Derived.Test.YtenlladggdcfnaaGreatDoorJABG
import Derived.Test.YtenlladggdcfnaaGreatDoorJABH
namespace Go.Proofs.YtenlladggdcfnaaGreatDoor
open Go.ChangeShapes Go.WideShapes Go.ChangeAt Go.RowKit
set_option maxRecDepth 20000
set_option maxHeartbeats 2000000 in
theorem sum_three (s:ByteArray) (q base a:Nat) (h:OneC s q base a):SumC s q base 3 a:=by
 intro v L w hI hqb hbw hown hLa
 have hc:=h v L w hI hqb hbw hown hLa
 show Calls Tryz.prog 130 #[.pointer (some ⟨q,0,none⟩),.int .i64 3] w _
 clear hI hown h
 go_enter Tryz.func130,Tryz.ntmps130
 go_wp2_with fail
 refine hc.mono ?_
 rintro e w1 ⟨hK,⟨a1,t,v1,rfl,h1⟩ | ⟨i,a1,v1,L1,rfl,h1⟩⟩
 ·have HH:=hid_of h1
  have HK:=hid_of hK
  clear h1 hK hc
  go_wp2_with fail
  go_ret
  exact ⟨HK.out,Or.inl ⟨a1,t,v1,rfl,HH.out⟩⟩
 ·have HH:=hid_of h1
  have HK:=hid_of hK
  clear h1 hK hc
  go_wp2_with fail
  go_ret
  exact ⟨HK.out,Or.inr ⟨i,a1,v1,L1,rfl,HH.out⟩⟩
def opI (c:Int):Int:=if signI c<0 then 0 else 3+signI c
theorem opI_none {c:Int} (h1:c≠43) (h2:c≠45) (h3:c≠42) (h4:c≠47):opI c=0:=by
 unfold opI signI
 rw [if_neg h1,if_neg h2,if_neg h3,if_neg h4]
 rfl
theorem opI_some {c:Int} (h:opI c≠0) : ¬ signI c<0∧opI c=3+signI c:=by
 unfold opI at *
 by_cases e:signI c<0
 ·rw [if_pos e] at h;exact absurd rfl h
 ·rw [if_neg e];exact ⟨e,rfl⟩
theorem opI_zero {c:Int} (h:opI c=0):signI c<0:=by
 by_cases e:signI c<0
 ·exact e
 ·unfold opI at h
  rw [if_neg e] at h
  rcases sgn_four e with ⟨-,h1⟩ | ⟨-,h1⟩ | ⟨-,h1⟩ | ⟨-,h1⟩ <;> rw [h1] at h <;> omega
theorem nosg_end (s:ByteArray) (k:Nat):NoSg s k s.size:=fun h=>absurd h (Nat.lt_irrefl _)
theorem nosg_down {s:ByteArray} {k a:Nat} (h:NoSg s (k+1) a) (hk:bindN (3+signI (nextB s a))≠(k:Int)):NoSg s k a:=fun hlt=>by
 rcases h hlt with h | h
 ·exact Or.inl h
 ·right;omega
set_option maxHeartbeats 4000000 in
theorem sum_step (s:ByteArray) (q base a k:Nat) (hs:s.size≤100) (hk1:1≤k) (hk2:k≤2) (h0:SumC s q base (k+1) a) (ih:∀ a1,a<a1→a1≤s.size→SumC s q base (k+1) a1):SumC s q base k a:=by
 intro v L w hI hqb hbw hown hLa
 have HIH:=hid_of ih
 have hc:Calls Tryz.prog 130 #[.pointer (some ⟨q,0,none⟩),.int .i64 ((k:Int)+1)] w fun e w'=>OutS s q base (k+1) a L w e w':=h0 v L w hI hqb hbw hown hLa
 have hki:1≤(k:Int):=by omega
 have hki2:(k:Int)≤2:=by omega
 have hk3:((k:Int) == 3)=false:=by simp;omega
 have hsi:(s.size:Int)≤100:=by omega
 clear hI hown h0 ih
 go_enter Tryz.func130,Tryz.ntmps130
 go_wp2_with fail
 refine hc.mono ?_
 rintro e w1 ho
 obtain ⟨ix,he⟩:∃ ix:Int,e=.returned (.int .i64 ix):=by
  rcases ho with ⟨-,⟨a1,t,v1,rfl,-⟩ | ⟨i,a1,v1,L1,rfl,-⟩⟩
  ·exact ⟨_,rfl⟩
  ·exact ⟨_,rfl⟩
 subst he
 have HO:=hid_of ho
 clear ho hc
 go_wp2_with fail
 go_loopg [5] s.size (fun g s5 wr=>Kept base (fun j=>j=q) w wr∧((∃ (a1:Nat) (t:Tre) (v1:Value),s.size-a1≤g∧s5=.int .i64 ((L.length+sizT t-1:Nat):Int)∧Rds s k a a1 t∧NoSg s (k+1) a1∧InV wr q s a1 false v1∧wr.ownsRow base 172 5 v1 (L ++ post t L.length).length (cellsN (L ++ post t L.length))∧a+sizT t≤a1)∨(∃ (i:Int) (a1:Nat) (v1:Value) (L1:List Nd),s5=.int .i64 i∧Fls s a a1∧InV wr q s a1 true v1∧wr.ownsRow base 172 5 v1 L1.length (cellsN L1))))
 case atStart =>
  obtain ⟨hK,⟨a1,t,v1,he,hR,hN,hI1,hO1,hL1⟩ | ⟨i,a1,v1,L1,he,hF,hI1,hO1⟩⟩:=HO.out
  ·simp only [Ending.returned.injEq] at he
   exact ⟨hK,Or.inl ⟨a1,t,v1,by omega,he,rds_up hk1 hk2 hR,hN,hI1,hO1,hL1⟩⟩
  ·simp only [Ending.returned.injEq] at he
   exact ⟨hK,Or.inr ⟨i,a1,v1,L1,he,hF,hI1,hO1⟩⟩
 case round =>
  obtain ⟨hKr,⟨a1,t,v1,hgm,rfl,hR,hN,hIr,hOr,hLr⟩ | ⟨i,a1,v1,L1,rfl,hF,hIr,hOr⟩⟩:=hrel
  ·have HKr:=hid_of hKr
   have HR:=hid_of hR
   have HN:=hid_of hN
   have HIr:=hid_of hIr
   have HOr:=hid_of hOr
   have HLr:=hid_of hLr
   have hbr:base≤wr.heap.size:=Nat.le_trans hbw hKr.size
   have d0:=hIr.c0
   have d1:=hIr.c1
   have d2:=hIr.c2
   have d5:=hIr.lt
   have ha1:a<a1:=hR.1
   have ha2:a1≤s.size:=hR.2.1
   have hp:=siz_pos t
   obtain ⟨iy,hiy⟩:∃ iy,L.length+sizT t-1=iy:=⟨_,rfl⟩
   have HIy:=hid_of hiy
   rw [hiy]
   clear hKr hR hN hIr hOr hLr hiy HO
   by_cases hend:a1=s.size
   ·have hei:(a1:Int)=(s.size:Int):=by omega
    have hdl:decide ((a1:Int)<(s.size:Int))=false:=decide_eq_false (by omega)
    go_wp2_with fail
    go_quiet (fail)
    go_wp2_with fail
    go_ret
    exact ⟨HKr.out.trans (kept_below (below_drewN (Below.refl _ _) _) hbr),Or.inl ⟨a1,t,v1,by rw [HIy.out];rfl,HR.out,by rw [hend];exact nosg_end s k,HIr.out.later (below_drewN (Below.refl _ _) _),own_later HOr.out (below_drewN (Below.refl _ _) _),HLr.out⟩⟩
   ·have hlt:a1<s.size:=by omega
    have hlti:(a1:Int)<(s.size:Int):=by omega
    have hby:=byteN_get s a1 hlt
    have HNx:Hid (nextB s a1=byteN s a1):=by show _=_;rw [nextB,if_neg (by omega)]
    obtain ⟨ch,hch⟩:∃ ch,byteN s a1=ch:=⟨_,rfl⟩
    have HCh:=hid_of hch
    rw [hch] at hby
    clear hch hend
    go_wp2_with fail
    go_quiet (fail)
    obtain ⟨W1,hW1⟩:∃ W1,wr.drewN nq=W1:=⟨_,rfl⟩
    have HB1:Hid (Below wr.heap.size wr W1):=by show Below _ _ _;rw [←hW1];exact below_drewN (Below.refl _ _) _
    rw [hW1]
    have f0:=(HIr.out.later HB1.out).c0
    have f1:=(HIr.out.later HB1.out).c1
    have f5:=(HIr.out.later HB1.out).lt
    clear hW1 d0 d1 d2
    go_wp2_with fail
    go_quiet (fail)
    obtain ⟨W2,hW2⟩:∃ W2,W1.drewN nq=W2:=⟨_,rfl⟩
    have HB2:Hid (Below wr.heap.size wr W2):=by show Below _ _ _;rw [←hW2];exact below_drewN HB1.out _
    rw [hW2]
    have hbs:base≤W2.heap.size:=Nat.le_trans hbr HB2.out.size
    have g1:=(HIr.out.later HB2.out).c1
    have g3:=(HIr.out.later HB2.out).fr 1
    have g5:=(HIr.out.later HB2.out).lt
    clear hW2 f0 f1 f5
    go_upto_block 2 with fail
    go_cut [6] from 33 to 91 (fun s6 wx=>s6=.int .i64 (opI ch)∧wx=W2)
    case first =>
     by_cases e1:ch=43
     ·subst e1
      go_wp2_with fail
      go_meet
      exact ⟨rfl,rfl⟩
     by_cases e2:ch=45
     ·subst e2
      go_wp2_with fail
      go_meet
      exact ⟨rfl,rfl⟩
     by_cases e3:ch=42
     ·subst e3
      go_wp2_with fail
      go_meet
      exact ⟨rfl,rfl⟩
     by_cases e4:ch=47
     ·subst e4
      go_wp2_with fail
      go_meet
      exact ⟨rfl,rfl⟩
     have HE:=hid_of (opI_none e1 e2 e3 e4)
     have b1:(ch == 43)=false:=by simpa using e1
     have b2:(ch == 45)=false:=by simpa using e2
     have b3:(ch == 42)=false:=by simpa using e3
     have b4:(ch == 47)=false:=by simpa using e4
     clear e1 e2 e3 e4
     go_wp2_with fail
     go_meet
     exact ⟨by rw [HE.out],rfl⟩
    case rest =>
     obtain ⟨rfl,hwc⟩:=hcut
     rw [hwc]
     obtain ⟨o,ho⟩:∃ o,opI ch=o:=⟨_,rfl⟩
     have HOp:=hid_of ho
     rw [ho]
     clear ho
     by_cases ho0:o=0
     ·subst ho0
      have HNs:Hid (NoSg s k a1):=fun _=>Or.inl (by rw [HNx.out,HCh.out];exact opI_zero HOp.out)
      go_wp2_with fail
      go_ret
      exact ⟨HKr.out.trans (kept_below HB2.out hbr),Or.inl ⟨a1,t,v1,by rw [HIy.out];rfl,HR.out,HNs.out,HIr.out.later HB2.out,own_later HOr.out HB2.out,HLr.out⟩⟩
     ·have ho0b:(o == 0)=false:=by simpa using ho0
      have HSg:Hid (0≤signI (nextB s a1)∧o=3+signI (nextB s a1)):=by
       have h:=opI_some (c:=ch) (by rw [HOp.out];exact ho0)
       rw [HOp.out] at h
       show _∧_
       rw [HNx.out,HCh.out]
       exact ⟨Int.not_lt.1 h.1,h.2⟩
      have hrk:=rank_any o W2
      clear ho0
      by_cases hbk:bindN o=(k:Int)
      ·have hbkb:(bindN o != (k:Int))=false:=by simp [hbk]
       have HBk:=hid_of hbk
       obtain ⟨L1,hL1⟩:∃ L1,L ++ post t L.length=L1:=⟨_,rfl⟩
       have hl1:L1.length=L.length+sizT t:=by rw [←hL1,List.length_append,post_len]
       have HL1:=hid_of hL1
       have HLl:=hid_of hl1
       have hO1':wr.ownsRow base 172 5 v1 L1.length (cellsN L1):=by rw [←hL1];exact HOr.out
       have HO1:=hid_of hO1'
       have hsz:L1.length≤a1:=by have:=HLr.out;omega
       clear hbk hL1 hl1 hO1'
       go_wp2_with fail
       refine hrk.mono ?_
       rintro e w4 ⟨rfl,hb4⟩
       have HB4:=hid_of (onB HB2.out hb4)
       have HI4:=hid_of (HIr.out.later HB4.out)
       have j1:=HI4.out.c1
       have j3:=HI4.out.fr 1
       have j5:=HI4.out.lt
       obtain ⟨V4,hV4⟩:∃ V4,w4.setCell ⟨q,1,none⟩ (.int .i64 ((a1:Int)+1))=V4:=⟨_,rfl⟩
       have hIV:InV V4 q s (a1+1) false v1:=by rw [←hV4];exact HI4.out.set1 (a1+1)
       have hOV:V4.ownsRow base 172 5 v1 L1.length (cellsN L1):=by rw [←hV4];exact own_off (own_later HO1.out HB4.out) hqb
       have hKV:Kept base (fun j=>j=q) w V4:=by rw [←hV4];exact (HKr.out.trans (kept_below HB4.out hbr)).trans kept_set
       have HKV:=hid_of hKV
       have hsm:Calls Tryz.prog 130 #[.pointer (some ⟨q,0,none⟩),.int .i64 ((k:Int)+1)] V4 fun e w'=>OutS s q base (k+1) (a1+1) L1 V4 e w':=HIH.out (a1+1) (by omega) (by omega) v1 L1 V4 hIV hqb (Nat.le_trans hbw hKV.size) hOV (by omega)
       clear hb4 hrk hIV hOV hKV g1 g3 g5
       go_wp2_with fail
       refine hsm.mono ?_
       rintro e w5 ⟨hK5,⟨a2,u,v2,rfl,hR2,hN2,hI5,hO5,hL5⟩ | ⟨i,a2,v2,L2,rfl,hF2,hI5,hO5⟩⟩
       ·have HK5:=hid_of (HKV.out.trans hK5)
        have hb5:base≤w5.heap.size:=Nat.le_trans hbw HK5.out.size
        obtain ⟨L2,hL2⟩:∃ L2,L1 ++ post u L1.length=L2:=⟨_,rfl⟩
        have hl2:L2.length=L1.length+sizT u:=by rw [←hL2,List.length_append,post_len]
        rw [hL2] at hO5
        obtain ⟨m,hm⟩:∃ m,L2.length=m:=⟨_,rfl⟩
        rw [hm] at hO5
        obtain ⟨A2,c2,hv2⟩:=own_form hO5
        subst hv2
        obtain ⟨jy,hjy⟩:∃ jy,L1.length+sizT u-1=jy:=⟨_,rfl⟩
        have hpu:=siz_pos u
        have hR3:Rds s k a a2 (.bin o t u):=by
         have hsg:=HSg.out
         rw [hsg.2]
         exact rds_bin HR.out hlt (Int.not_lt.2 hsg.1) (by rw [←hsg.2];exact HBk.out) hR2
        have hpo:L2 ++ [⟨o,0,⟨#[]⟩,(iy:Int),(jy:Int)⟩]=L ++ post (.bin o t u) L.length:=by
         rw [←hL2,←hjy,HLl.out,←HL1.out,post,←HIy.out]
         simp only [List.append_assoc]
         rfl
        have hsb:L.length+sizT (.bin o t u)-1=m:=by
         have:=HLl.out
         show L.length+(sizT t+sizT u+1)-1=m
         omega
        have hle2:a+sizT (.bin o t u)≤a2:=by
         have:=HLr.out
         show a+(sizT t+sizT u+1)≤a2
         omega
        have HR3:=hid_of hR3
        have HN2:=hid_of hN2
        have HLe2:=hid_of hle2
        have HSb:=hid_of hsb
        rw [hjy]
        have ha2s:=hR2.2.1
        have HSt:Hid (∀ (W w6:World) (v':Value),Below w5.heap.size w5 W→W.grownBy w6 (Value.slice A2 m c2).ownBlock→w6.ownsRow base 172 5 v' (m+1) (cellsN L2 ++ cellsNd1 ⟨o,0,⟨#[]⟩,(iy:Int),(jy:Int)⟩)→(InV (w6.setCell ⟨q,3,none⟩ v') q s a2 false v'∧(w6.setCell ⟨q,3,none⟩ v').ownsRow base 172 5 v' (L ++ post (.bin o t u) L.length).length (cellsN (L ++ post (.bin o t u) L.length))∧Kept base (fun j=>j=q) w (w6.setCell ⟨q,3,none⟩ v'))∧(w6.cell? ⟨q,3,none⟩=some (.slice A2 m c2)∧w6.frozen? ⟨q,3,none⟩=false)∧q<w6.heap.size):=by
         intro W w6 v' hb hg hown
         have h:=app_at hI5 hO5 hqb hb hg
         obtain ⟨h1,h2,h3⟩:=app_out hI5 hO5 hqb hb5 hb hg hown
         refine ⟨⟨h1,?_,HK5.out.trans h3⟩,⟨h.c3,h.fr 3⟩,h.lt⟩
         rw [←hpo,List.length_append,hm]
         exact h2
        have HO5:Hid (∀ w',Below w5.heap.size w5 w'→w'.ownsRow base 172 5 (.slice A2 m c2) m (cellsN L2)):=fun w' hb=>own_later hO5 hb
        have p2:=hI5.c2
        have p3:=hI5.c3
        have p4:=hI5.fr 3
        have p5:=hI5.lt
        have hm1:m≤100:=by omega
        have hgn:s.size-a2≤gk-1:=by omega
        have hgp:gk-1<gk:=by omega
        obtain ⟨i1,hj0,hj1,hj2,hj3⟩:=info_parts Tryz.infoNdF
        clear hK5 hR2 hN2 hI5 hO5 hL5 hV4 hsm j1 j3 j5 hL2 hl2 hm hjy hR3 hpo hsb hle2
        go_wp2_with (at_builtin;refine wpList_append_own_at _ rfl _ _ 168 rfl base 172 i1 _ 5 48 Tryz.underlying168 hj0 hj1 hj2 hj3 rfl (by decide) _ m (cellsN L2) rfl (HO5.out _ ?qc0) ⟨w5.heap.size,0,none⟩ 1 1 (cellsNd1 ⟨o,0,⟨#[]⟩,(iy:Int),(jy:Int)⟩) rfl rfl ?qc1 ones5 ?qc2 ?qc3 ?qc4 ?_)
        case qc0=>exact (Below.refl _ _).alloc (Nat.le_refl _) _
        case qc1=>exact news5 (w:=w5) (x:=⟨o,0,⟨#[]⟩,(iy:Int),(jy:Int)⟩) (by simp)
        case qc2=>unfold maxLen;omega
        case qc3=>omega
        case qc4=>simp;omega
        intro v' w6 hown' hgrow _ _
        obtain ⟨HS,⟨y1,y2⟩,y3⟩:=HSt.out _ _ _ ((Below.refl _ _).alloc (Nat.le_refl _) _) hgrow hown'
        obtain ⟨A6,c6,hv'⟩:=own_form hown'
        subst hv'
        have HSo:=hid_of HS
        clear hown' hgrow HS p2 p3 p4 p5
        go_wp2_with fail
        go_roundg (gk-1)
        case measure=>exact hgp
        case rel =>
         obtain ⟨x1,x2,x3⟩:=HSo.out
         exact ⟨x3,Or.inl ⟨a2,.bin o t u,_,hgn,by rw [HSb.out],HR3.out,HN2.out,x1,x2,HLe2.out⟩⟩
       ·have HK5:=hid_of (HKV.out.trans hK5)
        have HF2:Hid (Fls s a a2):=fls_sign HR.out hlt (Int.not_lt.2 HSg.out.1) hF2
        have HI5:=hid_of hI5
        have HO5:=hid_of hO5
        have p2:=hI5.c2
        have p5:=hI5.lt
        clear hK5 hF2 hI5 hO5 hV4 hsm j1 j3 j5
        go_wp2_with fail
        go_ret
        exact ⟨HK5.out,Or.inr ⟨_,a2,v2,L2,rfl,HF2.out,HI5.out,HO5.out⟩⟩
      ·have HNs:Hid (NoSg s k a1):=nosg_down HN.out (by rw [←HSg.out.2];exact hbk)
       have hbkb:(bindN o != (k:Int))=true:=by simpa using hbk
       clear hbk
       go_wp2_with fail
       refine hrk.mono ?_
       rintro e w4 ⟨rfl,hb4⟩
       have HB4:=hid_of (onB HB2.out hb4)
       clear hb4 hrk
       go_wp2_with fail
       go_ret
       exact ⟨HKr.out.trans (kept_below HB4.out hbr),Or.inl ⟨a1,t,v1,by rw [HIy.out];rfl,HR.out,HNs.out,HIr.out.later HB4.out,own_later HOr.out HB4.out,HLr.out⟩⟩
  ·have HKr:=hid_of hKr
   have HF:=hid_of hF
   have HIr:=hid_of hIr
   have HOr:=hid_of hOr
   have hbr:base≤wr.heap.size:=Nat.le_trans hbw hKr.size
   have d0:=hIr.c0
   have d1:=hIr.c1
   have d2:=hIr.c2
   have d5:=hIr.lt
   clear hKr hF hIr hOr HO
   go_wp2_with fail
   go_quiet (fail)
   go_wp2_with fail
   go_ret
   exact ⟨HKr.out.trans (kept_below (below_drewN (Below.refl _ _) _) hbr),Or.inr ⟨i,a1,v1,L1,rfl,HF.out,HIr.out.later (below_drewN (Below.refl _ _) _),own_later HOr.out (below_drewN (Below.refl _ _) _)⟩⟩
theorem sum_all (s:ByteArray) (q base:Nat) (hs:s.size≤100):∀ (d a:Nat),s.size-a=d→a≤s.size→SumC s q base 1 a∧SumC s q base 2 a∧SumC s q base 3 a:=by
 intro d
 induction d using Nat.strongRecOn with
 | _ d ih =>
  intro a hd ha
  have ih':∀ a1,a<a1→a1≤s.size→SumC s q base 1 a1∧SumC s q base 2 a1∧SumC s q base 3 a1:=fun a1 h1 h2=>ih (s.size-a1) (by omega) a1 rfl h2
  have h3:=sum_three s q base a (one_step s q base a hs ha fun a1 h1 h2=>(ih' a1 h1 h2).1)
  have h2:=sum_step s q base a 2 hs (by omega) (by omega) h3 fun a1 x y=>(ih' a1 x y).2.2
  exact ⟨sum_step s q base a 1 hs (by omega) (by omega) h2 fun a1 x y=>(ih' a1 x y).2.1,h2,h3⟩
def newI (s:ByteArray) (w:World):World:=w.alloc (.cells #[.string s,.int .i64 0,.bool false,.slice none 0 0] 187)
theorem newI_size (s:ByteArray) (w:World):(newI s w).heap.size=w.heap.size+1:=by simp [newI]
theorem newI_at (s:ByteArray) (w:World):InV (newI s w) w.heap.size s 0 false (.slice none 0 0):=heap_alloc_new _ _
theorem newI_below (s:ByteArray) (w:World):Below w.heap.size w (newI s w):=(Below.refl _ _).alloc (Nat.le_refl _) _
theorem own_nds {w:World} {N:Nat} {v:Value} {l:List Nd} (h:w.ownsRow N 172 5 v l.length (cellsN l)):∃ A c,v=.slice A l.length c∧NdsV w A c l:=by
 obtain ⟨A,c,hv⟩:=own_form h
 subst hv
 exact ⟨A,c,rfl,nds_of h⟩
set_option maxHeartbeats 4000000 in
theorem rread_any (s:ByteArray) (w:World) (h100:s.size≤100):Calls Tryz.prog 108 #[.string s] w fun e w'=>(∃ A c,e=.returned (.tuple #[.slice A (prsL s).length c,.int .i64 (prsA s:Int),.int .i64 (prsE s)])∧NdsV w' A c (prsL s))∧Below w.heap.size w w':=by
 have h100':(s.size:Int)≤100:=by omega
 have hc:Calls Tryz.prog 130 #[.pointer (some ⟨w.heap.size,0,none⟩),.int .i64 1] (newI s w) fun e w'=>OutS s w.heap.size (w.heap.size+1) 1 0 [] (newI s w) e w' :=
  (sum_all s w.heap.size (w.heap.size+1) h100 s.size 0 rfl (Nat.zero_le _)).1 (.slice none 0 0) [] (newI s w) (newI_at s w) (Nat.lt_succ_self _) (by rw [newI_size];exact Nat.le_refl _) (World.ownsRow_nil _ _ _ _) (Nat.zero_le _)
 obtain ⟨W,hW⟩:∃ W,newI s w=W:=⟨_,rfl⟩
 have HB0:Hid (∀ w1,Kept (w.heap.size+1) (fun j=>j=w.heap.size) W w1→Below w.heap.size w w1):=fun w1 hk=>by
  rw [←newI_size s w,hW] at hk
  exact below_of_kept (by rw [←hW];exact newI_below s w) hk (Nat.le_refl _)
 rw [hW] at hc
 unfold newI at hW
 have hEn:(goneB s).2=false→prsE s=2∧prsA s=(goneB s).1.at'∧prsL s=[]:=fun hx=>by
  have hE:prsE s=2:=by unfold prsE;rw [if_neg (by omega),if_neg (by rw [hx];decide)]
  exact ⟨hE,by unfold prsA;rw [if_neg (by omega),if_neg (by rw [hx];decide)],by unfold prsL;rw [if_neg (by rw [hE];decide)]⟩
 have hEy:(goneB s).2=true→prsE s=formErr (nodesP s)∧prsA s=0:=fun hx =>
  ⟨by unfold prsE;rw [if_neg (by omega),if_pos hx],by unfold prsA;rw [if_neg (by omega),if_pos hx]⟩
 have HEn:=hid_of hEn
 have HEy:=hid_of hEy
 have HLd:Hid (prsL s=if prsE s=0 then nodesP s else []):=rfl
 clear hEn hEy
 go_enter Tryz.func108,Tryz.ntmps108
 go_wp2_with fail
 refine hc.mono ?_
 rintro e w1 ⟨hK,⟨a1,t,v1,rfl,hR,hN,hI1,hO1,-⟩ | ⟨i,a1,v1,L1,rfl,hF,hI1,hO1⟩⟩
 ·have HB1:=hid_of (HB0.out w1 hK)
  have d1:=hI1.c1
  have d2:=hI1.c2
  have d3:=hI1.c3
  have d5:=hI1.lt
  have ha1:a1≤s.size:=hR.2.1
  by_cases hlt:a1<s.size
  ·obtain ⟨hx,hat⟩:=read_part hR hN hlt
   obtain ⟨hE,hA,hL⟩:=HEn.out hx
   rw [hat] at hA
   have HE:=hid_of hE
   have HA:=hid_of hA
   have HL:=hid_of hL
   have HI1:=hid_of hI1
   have hlti:(a1:Int)<(s.size:Int):=by omega
   clear hK hR hN hI1 hO1 hW hc hx hat hE hA hL d3
   go_wp2_with fail
   go_quiet (fail)
   have HBq:Hid (Below w.heap.size w (w1.drewN nq)):=below_drewN HB1.out _
   have f1:=(HI1.out.later (below_drewN (Below.refl _ _) nq)).c1
   have f5:=(HI1.out.later (below_drewN (Below.refl _ _) nq)).lt
   clear d1 d2
   go_wp2_with fail
   go_returns
   rw [HE.out,HA.out,HL.out]
   exact ⟨⟨none,0,rfl,NdsV.nil _ _ _ (by omega)⟩,HBq.out⟩
  ·have he:a1=s.size:=by omega
   subst he
   obtain ⟨hx,hnd⟩:=read_all hR
   obtain ⟨hE,hA⟩:=HEy.out hx
   have hll:([] ++ post t ([]:List Nd).length)=nodesP s:=by rw [hnd];rfl
   rw [hll] at hO1
   obtain ⟨A,c,hv,hNd⟩:=own_nds hO1
   subst hv
   obtain ⟨fe,hfe⟩:∃ fe,formErr (nodesP s)=fe:=⟨_,rfl⟩
   have HE:Hid (prsE s=fe):=hE.trans hfe
   have HA:=hid_of hA
   have hfm:=fun w' hN'=>rform_any A c (nodesP s) w' hN'
   rw [hfe] at hfm
   obtain ⟨l,hl⟩:∃ l,nodesP s=l:=⟨_,rfl⟩
   have HLn:=hid_of hl
   rw [hl] at hfm hNd d3 hI1
   have HI1:=hid_of hI1
   have HNd:=hid_of hNd
   clear hK hR hN hI1 hO1 hW hc hx hE hA hnd hll hlt hNd hl hfe
   go_wp2_with fail
   refine (hfm _ HNd.out).mono ?_
   rintro e w2 ⟨rfl,hb2⟩
   have HB2:=hid_of (onB HB1.out hb2)
   have HN2:=hid_of (HNd.out.later hb2)
   have HI2:=hid_of (HI1.out.later hb2)
   have f3:=HI2.out.c3
   have f5:=HI2.out.lt
   clear hb2 hfm d1 d2 d3 d5
   by_cases h0:fe=0
   ·subst h0
    have HL:Hid (prsL s=l):=by show _=_;rw [HLd.out,HE.out,if_pos rfl];exact HLn.out
    go_wp2_with fail
    go_returns
    rw [HE.out,HA.out,HL.out]
    exact ⟨⟨A,c,rfl,HN2.out⟩,HB2.out⟩
   ·have HL:Hid (prsL s=[]):=by show _=_;rw [HLd.out,HE.out,if_neg h0]
    have h0b:(fe == 0)=false:=by simpa using h0
    have h0c:(fe != 0)=true:=by simpa using h0
    clear h0
    go_wp2_with fail
    go_returns
    rw [HE.out,HA.out,HL.out]
    exact ⟨⟨none,0,rfl,NdsV.nil _ _ _ (by omega)⟩,HB2.out⟩
 ·have HB1:=hid_of (HB0.out w1 hK)
  have d1:=hI1.c1
  have d2:=hI1.c2
  have d5:=hI1.lt
  obtain ⟨hx,hat⟩:=read_not hF
  obtain ⟨hE,hA,hL⟩:=HEn.out hx
  rw [hat] at hA
  have HE:=hid_of hE
  have HA:=hid_of hA
  have HL:=hid_of hL
  have HI1:=hid_of hI1
  clear hK hF hI1 hO1 hW hc hx hat hE hA hL
  go_wp2_with fail
  go_quiet (fail)
  have HBq:Hid (Below w.heap.size w (w1.drewN nq)):=below_drewN HB1.out _
  have f1:=(HI1.out.later (below_drewN (Below.refl _ _) nq)).c1
  have f5:=(HI1.out.later (below_drewN (Below.refl _ _) nq)).lt
  clear d1 d2
  go_wp2_with fail
  go_returns
  rw [HE.out,HA.out,HL.out]
  exact ⟨⟨none,0,rfl,NdsV.nil _ _ _ (by omega)⟩,HBq.out⟩
def putL:List Int→Int→List Int
 | [],n=>[n]
 | x :: r,n=>if x<n then x :: putL r n else if x=n then x :: r else n :: x :: r
theorem putL_at:∀ (L:List Int) (n:Int) (k:Nat),k≤L.length→(∀ i,i<k→L.getD i 0<n)→(k=L.length∨n≤L.getD k 0)→putL L n=if k<L.length∧L.getD k 0=n then L else L.take k ++ [n] ++ L.drop k
 | [],n,k,hk,_,_=>by
  have:k=0:=by simpa using hk
  subst this
  rfl
 | x :: r,n,0,_,_,h=>by
  have hx:n≤x:=by simpa using h
  unfold putL
  rw [if_neg (by omega)]
  by_cases e:x=n
  ·rw [if_pos e,if_pos (by simp [e])]
  ·rw [if_neg e,if_neg (by simp [e])]
   rfl
 | x :: r,n,k+1,hk,h1,h2=>by
  have hx:x<n:=by simpa using h1 0 (by omega)
  have ih:=putL_at r n k (by simpa using hk) (fun i hi=>by simpa using h1 (i+1) (by omega)) (by simpa using h2)
  unfold putL
  rw [if_pos hx,ih]
  by_cases e:k<r.length∧r.getD k 0=n
  ·rw [if_pos e,if_pos (by simpa using e)]
  ·rw [if_neg e,if_neg (by simpa using e)]
   rfl
theorem has_at {L:List Int} {n:Int} {k:Nat} (hk:k<L.length) (h:L.getD k 0=n):L.contains n=true:=by
 rw [List.contains_iff_mem,←h,List.getD_eq_getElem?_getD,List.getElem?_eq_getElem hk]
 exact List.getElem_mem hk
theorem has_not {L:List Int} {n:Int} (h:∀ i,i<L.length→L.getD i 0≠n):L.contains n=false:=by
 rw [Bool.eq_false_iff]
 intro hc
 rw [List.contains_iff_mem] at hc
 obtain ⟨i,hi,e⟩:=List.getElem_of_mem hc
 refine h i hi ?_
 rw [List.getD_eq_getElem?_getD,List.getElem?_eq_getElem hi]
 exact e
set_option maxHeartbeats 2000000 in
theorem in2_any (A:Option Addr) (cap:Nat) (L:List Int) (n:Int) (w:World) (h63:L.length≤1000000) (hL:PlAt w A cap L):Calls Tryz.prog 111 #[.slice A L.length cap,.int .i64 n] w fun e w'=>e=.returned (.bool (L.contains n))∧Below w.heap.size w w':=by
 obtain ⟨hc,h0 | ⟨b,o,rfl,hb,hcell⟩⟩:=hL
 ·subst h0
  show Calls Tryz.prog 111 #[.slice A 0 cap,.int .i64 n] w _
  go_enter Tryz.func111,Tryz.ntmps111
  go_wp2_with fail
  refine wp_loop_rounds 1 ?_
  rw [rounds_succ]
  go_wp2_with fail
  go_ret
  exact ⟨rfl,Below.refl _ _⟩
 ·obtain ⟨m,hm⟩:∃ m,L.length=m:=⟨_,rfl⟩
  have HM:=hid_of hm
  have HC:=hid_of hcell
  rw [hm]
  have hmi:(m:Int)≤1000000:=by omega
  clear hcell
  go_enter Tryz.func111,Tryz.ntmps111
  go_wp2_with fail
  go_loopg [5] m (fun g s5 wr => ∃ (k:Nat),k≤m∧g=m-k∧s5=.int .i64 k∧(∀ i,i<k→L.getD i 0≠n)∧wr=w)
  case atStart=>exact ⟨0,Nat.zero_le _,rfl,rfl,fun i hi=>absurd hi (Nat.not_lt_zero i),rfl⟩
  case round =>
   obtain ⟨k,hk,rfl,rfl,hf,rfl⟩:=hrel
   have HF:=hid_of hf
   clear hf
   by_cases hlt:k<m
   ·have hki:(k:Int)<(m:Int):=by omega
    have hcx:=HC.out k (by omega)
    have HX:Hid (L.getD k 0=L.getD k 0):=rfl
    obtain ⟨x,hx⟩:∃ x,L.getD k 0=x:=⟨_,rfl⟩
    have HXx:=hid_of hx
    rw [hx] at hcx
    clear hx HX
    by_cases hxn:x=n
    ·have HR:=hid_of (has_at (L:=L) (n:=n) (k:=k) (by omega) (HXx.out.trans hxn))
     have hb1:(x == n)=true:=by simpa using hxn
     clear hxn
     go_wp2_with fail
     go_ret
     exact ⟨by rw [HR.out];rfl,Below.refl _ _⟩
    ·have hb1:(x == n)=false:=by simpa using hxn
     have HAll:Hid (∀ i,i<k+1→L.getD i 0≠n):=fun i hi=>by
      by_cases e:i=k
      ·rw [e,HXx.out];exact hxn
      ·exact HF.out i (by omega)
     clear hxn
     go_wp2_with fail
     go_roundg (m-(k+1))
     case measure=>omega
     case rel=>exact ⟨k+1,by omega,rfl,by go_num,HAll.out,rfl⟩
   ·have hke:k=m:=by omega
    subst hke
    have HR:=hid_of (has_not (L:=L) (n:=n) fun i hi=>HF.out i (by omega))
    go_wp2_with fail
    go_ret
    exact ⟨by rw [HR.out];rfl,Below.refl _ _⟩
theorem mapI_cells {w:World} {b o:Nat} {L:List Int} (h:∀ j,j<L.length→w.cell? ⟨b,o+j,none⟩=some (.int .i64 (L.getD j 0))) (k m:Nat) (hk:k+m≤L.length):∀ j u,(((L.drop k).take m).map (Value.int .i64))[j]?=some u→w.cell? ((⟨b,o+k,none⟩:Addr).add j)=some u:=by
 intro j u hj
 have hlt:j<m:=by
  have:=(List.getElem?_eq_some_iff.1 hj).1
  simp at this
  omega
 rw [plain_add]
 show w.cell? ⟨b,o+k+j,none⟩=_
 rw [Nat.add_assoc,h (k+j) (by omega)]
 rw [List.getElem?_map,List.getElem?_take_of_lt hlt,List.getElem?_drop,List.getElem?_eq_getElem (by omega)] at hj
 rw [List.getD_eq_getElem?_getD,List.getElem?_eq_getElem (by omega)]
 exact hj
end Go.Proofs.YtenlladggdcfnaaGreatDoor
namespace Go.Proofs.YtenlladggdcfnaaGreatDoor
theorem put_mem (L:List Int) (n x:Int):x∈putL L n↔x∈L∨x=n:=by
 induction L with
 | nil=>simp [putL]
 | cons y r ih =>
  unfold putL
  split
  ·rw [List.mem_cons,ih,List.mem_cons,or_assoc]
  ·split
   ·rename_i _ h
    constructor
    ·exact Or.inl
    ·rintro (h' | h')
     ·exact h'
     ·rw [h',←h];simp
   ·rw [List.mem_cons]
    exact or_comm
theorem put_rise (L:List Int) (n:Int) (h:L.Pairwise (· < ·)):(putL L n).Pairwise (· < ·):=by
 induction L with
 | nil=>simp [putL]
 | cons y r ih =>
  have h1:=List.pairwise_cons.1 h
  unfold putL
  split
  ·refine List.pairwise_cons.2 ⟨fun z hz=>?_,ih h1.2⟩
   rcases (put_mem r n z).1 hz with e | e
   ·exact h1.1 z e
   ·omega
  ·split
   ·exact h
   ·refine List.pairwise_cons.2 ⟨fun z hz=>?_,h⟩
    rcases List.mem_cons.1 hz with e | e
    ·omega
    ·have:=h1.1 z e;omega
def putsL (d:Dm):List Nd→List Int→List Int
 | [],L=>L
 | x :: r,L=>putsL d r (if x.op=2 then putL L (whL d x.name.data.toList) else L)
theorem puts_rise (d:Dm):∀ (l:List Nd) (L:List Int),L.Pairwise (· < ·)→(putsL d l L).Pairwise (· < ·)
 | [],_,h=>h
 | x :: r,L,h=>by
  unfold putsL
  refine puts_rise d r _ ?_
  split
  ·exact put_rise _ _ h
  ·exact h
theorem puts_mem (d:Dm):∀ (l:List Nd) (L:List Int) (z:Int),z∈putsL d l L↔z∈L∨∃ x∈l,x.op=2∧z=whL d x.name.data.toList
 | [],L,z=>by simp [putsL]
 | x :: r,L,z=>by
  unfold putsL
  rw [puts_mem d r]
  by_cases h:x.op=2
  ·rw [if_pos h,put_mem]
   constructor
   ·rintro ((h1 | h1) | ⟨y,hy,h1⟩)
    ·exact Or.inl h1
    ·exact Or.inr ⟨x,by simp,h,h1⟩
    ·exact Or.inr ⟨y,List.mem_cons_of_mem _ hy,h1⟩
   ·rintro (h1 | ⟨y,hy,h1,h2⟩)
    ·exact Or.inl (Or.inl h1)
    ·rcases List.mem_cons.1 hy with rfl | hy
     ·exact Or.inl (Or.inr h2)
     ·exact Or.inr ⟨y,hy,h1,h2⟩
  ·rw [if_neg h]
   constructor
   ·rintro (h1 | ⟨y,hy,h1⟩)
    ·exact Or.inl h1
    ·exact Or.inr ⟨y,List.mem_cons_of_mem _ hy,h1⟩
   ·rintro (h1 | ⟨y,hy,h1,h2⟩)
    ·exact Or.inl h1
    ·rcases List.mem_cons.1 hy with rfl | hy
     ·exact absurd h1 h
     ·exact Or.inr ⟨y,hy,h1,h2⟩
theorem puts_need {d:Dm} (hd:(dimErr d).2=0) {i:Nat} (hf:(d.mem i).formula.size≠0) (he:mErr d i=0):putsL d (prsL (d.mem i).formula) []=mNd d i:=by
 refine rise_eq _ _ (puts_rise d _ _ List.Pairwise.nil) (sel_rise _ _) fun z=>?_
 rw [puts_mem,need_names hd hf he]
 constructor
 ·rintro (h | ⟨x,hx,h1,h2⟩)
  ·cases h
  ·exact ⟨x.name.data.toList,nms_has hx h1,h2⟩
 ·rintro ⟨nm,h1,h2⟩
  obtain ⟨x,hx,h3,rfl⟩:=has_nms h1
  exact Or.inr ⟨x,hx,h3,h2⟩
def putsP (f:Int→Bool):List Int→List Int→List Int
 | [],L=>L
 | x :: r,L=>putsP f r (if f x=true then putL L x else L)
theorem putsP_rise (f:Int→Bool):∀ (l:List Int) (L:List Int),L.Pairwise (· < ·)→(putsP f l L).Pairwise (· < ·)
 | [],_,h=>h
 | x :: r,L,h=>by
  unfold putsP
  refine putsP_rise f r _ ?_
  split
  ·exact put_rise _ _ h
  ·exact h
theorem putsP_mem (f:Int→Bool):∀ (l:List Int) (L:List Int) (z:Int),z∈putsP f l L↔z∈L∨z∈l∧f z=true
 | [],L,z=>by simp [putsP]
 | x :: r,L,z=>by
  unfold putsP
  rw [putsP_mem f r,List.mem_cons]
  by_cases h:f x=true
  ·rw [if_pos h,put_mem]
   constructor
   ·rintro ((h1 | h1) | ⟨h1,h2⟩)
    ·exact Or.inl h1
    ·exact Or.inr ⟨Or.inl h1,by rw [h1];exact h⟩
    ·exact Or.inr ⟨Or.inr h1,h2⟩
   ·rintro (h1 | ⟨h1 | h1,h2⟩)
    ·exact Or.inl (Or.inl h1)
    ·exact Or.inl (Or.inr h1)
    ·exact Or.inr ⟨h1,h2⟩
  ·rw [if_neg h]
   constructor
   ·rintro (h1 | ⟨h1,h2⟩)
    ·exact Or.inl h1
    ·exact Or.inr ⟨Or.inr h1,h2⟩
   ·rintro (h1 | ⟨h1 | h1,h2⟩)
    ·exact Or.inl h1
    ·rw [h1] at h2;exact absurd h2 h
    ·exact Or.inr ⟨h1,h2⟩
theorem putsP_need {d:Dm} {i:Nat} (hf:(d.mem i).formula.size=0):putsP (sgB d) (partsOf d.mem d.n i) []=mNd d i:=by
 rw [←parts_need hf]
 refine rise_eq _ _ (putsP_rise _ _ _ List.Pairwise.nil) ((sel_rise _ _).filter _) fun z=>?_
 rw [putsP_mem,List.mem_filter]
 simp
theorem puts_snoc (d:Dm) (x:Nd):∀ (l:List Nd) (L:List Int),putsL d (l ++ [x]) L=if x.op=2 then putL (putsL d l L) (whL d x.name.data.toList) else putsL d l L
 | [],L=>by simp [putsL]
 | y :: r,L=>by
  show putsL d (r ++ [x]) _=_
  rw [puts_snoc d x r]
  rfl
theorem putsP_snoc (f:Int→Bool) (x:Int):∀ (l:List Int) (L:List Int),putsP f (l ++ [x]) L=if f x=true then putL (putsP f l L) x else putsP f l L
 | [],L=>by simp [putsP]
 | y :: r,L=>by
  show putsP f (r ++ [x]) _=_
  rw [putsP_snoc f x r]
  rfl
theorem put_len (L:List Int) (n:Int):(putL L n).length≤L.length+1:=by
 induction L with
 | nil=>simp [putL]
 | cons y r ih =>
  unfold putL
  split
  ·simp only [List.length_cons];omega
  ·split <;> simp
theorem put_more {L:List Int} {n:Int} (h:n∉L):(putL L n).length=L.length+1:=by
 induction L with
 | nil=>simp [putL]
 | cons y r ih =>
  have h1:n∉r:=fun e=>h (List.mem_cons_of_mem _ e)
  unfold putL
  split
  ·simp only [List.length_cons,ih h1]
  ·split
   ·rename_i e
    exact absurd (by rw [e];simp) h
   ·simp
def putTo (d:Dm) (l:List Nd) (k:Nat):List Int:=putsL d (l.take k) []
theorem putTo_next {d:Dm} {l:List Nd} {k:Nat} {x:Nd} (hk:k<l.length) (hx:l.getD k noN=x):putTo d l (k+1)=if x.op=2 then putL (putTo d l k) (whL d x.name.data.toList) else putTo d l k:=by
 unfold putTo
 rw [take_snoc l hk,hx,puts_snoc]
theorem putTo_len (d:Dm) (l:List Nd) (k:Nat) (hk:k≤l.length):(putTo d l k).length≤k:=by
 induction k with
 | zero=>simp [putTo,putsL]
 | succ k ih =>
  rw [putTo_next (by omega) rfl]
  have:=ih (by omega)
  split
  ·exact Nat.le_trans (put_len _ _) (by omega)
  ·omega
def partTo (d:Dm) (l:List Int) (k:Nat):List Int:=putsP (sgB d) (l.take k) []
theorem partTo_next {d:Dm} {l:List Int} {k:Nat} {x:Int} (hk:k<l.length) (hx:l.getD k 0=x):partTo d l (k+1)=if sgB d x=true then putL (partTo d l k) x else partTo d l k:=by
 unfold partTo
 have e:l.take (k+1)=l.take k ++ [x]:=by
  rw [List.take_succ_eq_append_getElem hk,←hx,List.getD_eq_getElem?_getD,List.getElem?_eq_getElem hk]
  rfl
 rw [e,putsP_snoc]
theorem partTo_len (d:Dm) (l:List Int) (k:Nat) (hk:k≤l.length):(partTo d l k).length≤k:=by
 induction k with
 | zero=>simp [partTo,putsP]
 | succ k ih =>
  rw [partTo_next (by omega) rfl]
  have:=ih (by omega)
  split
  ·exact Nat.le_trans (put_len _ _) (by omega)
  ·omega
theorem mErr_ref {d:Dm} {i:Nat} (hf:(d.mem i).formula.size≠0) (hp:prsE (d.mem i).formula=0) {x:Nd} (hx:x∈prsL (d.mem i).formula) (h2:x.op=2) (hw:whL d x.name.data.toList<0):mErr d i=5:=by
 unfold mErr
 rw [if_neg hf,if_neg (by simpa using hp),if_pos]
 rw [List.any_eq_true]
 exact ⟨_,nms_has hx h2,decide_eq_true hw⟩
theorem mErr_all {d:Dm} {i:Nat} (hf:(d.mem i).formula.size≠0) (hp:prsE (d.mem i).formula=0) (h:∀ x∈prsL (d.mem i).formula,x.op=2→0≤whL d x.name.data.toList):mErr d i=0:=by
 unfold mErr
 rw [if_neg hf,if_neg (by simpa using hp),if_neg]
 rw [List.any_eq_true]
 rintro ⟨nm,hnm,hw⟩
 obtain ⟨x,hx,h2,rfl⟩:=has_nms hnm
 have:=h x hx h2
 have:=of_decide_eq_true hw
 omega
theorem mErr_prs {d:Dm} {i:Nat} (hf:(d.mem i).formula.size≠0) (hp:prsE (d.mem i).formula≠0):mErr d i=prsE (d.mem i).formula:=by
 unfold mErr
 rw [if_neg hf,if_pos hp]
end Go.Proofs.YtenlladggdcfnaaGreatDoor
