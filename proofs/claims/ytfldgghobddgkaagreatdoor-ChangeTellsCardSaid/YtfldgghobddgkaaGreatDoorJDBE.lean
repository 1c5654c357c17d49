/-
  The document's own reader of formulas: sums and products, in whatever memory.
-/
import Derived.Deep.CutRange
import Derived.Deep.RegionHeld
import Derived.Test.YtfldgghobddgkaaGreatDoorJDBD
namespace Go.Proofs.YtfldgghobddgkaaGreatDoor
open Go.ChangeShapes Go.WideShapes Go.ChangeAt Go.RowKit
set_option maxRecDepth 20000
set_option maxHeartbeats 2000000 in
theorem sum_three (s:ByteArray) (q base a:Nat) (h:OneC s q base a):SumC s q base 3 a:=by
 intro v L w hI hqb hbw hown hLa
 have hc:=h v L w hI hqb hbw hown hLa
 show Calls Tryz.prog 31 #[.pointer (some ⟨q,0,none⟩),.int .i64 3] w _
 clear hI hown h
 go_enter Tryz.func31,Tryz.ntmps31
 go_wp2_with fail
 refine hc.mono ?_
 rintro e w1 ⟨hK,⟨a1,t,v1,rfl,h1⟩ | ⟨i,a1,v1,L1,rfl,h1⟩⟩
 ·have HH:=hid_of h1
  have HK:=hid_of hK
  clear h1 hK hc
  go_wp2_with fail
  go_ret
  exact ⟨HK.out,Or.inl ⟨a1,t,v1,rfl,HH.out⟩⟩
 ·have HH:=hid_of h1
  have HK:=hid_of hK
  clear h1 hK hc
  go_wp2_with fail
  go_ret
  exact ⟨HK.out,Or.inr ⟨i,a1,v1,L1,rfl,HH.out⟩⟩
def opI (c:Int):Int:=if signI c<0 then 0 else 3+signI c
theorem opI_none {c:Int} (h1:c≠43) (h2:c≠45) (h3:c≠42) (h4:c≠47):opI c=0:=by
 unfold opI signI
 rw [if_neg h1,if_neg h2,if_neg h3,if_neg h4]
 rfl
theorem opI_some {c:Int} (h:opI c≠0) : ¬ signI c<0∧opI c=3+signI c:=by
 unfold opI at *
 by_cases e:signI c<0
 ·rw [if_pos e] at h;exact absurd rfl h
 ·rw [if_neg e];exact ⟨e,rfl⟩
theorem opI_zero {c:Int} (h:opI c=0):signI c<0:=by
 by_cases e:signI c<0
 ·exact e
 ·unfold opI at h
  rw [if_neg e] at h
  rcases sgn_four e with ⟨-,h1⟩ | ⟨-,h1⟩ | ⟨-,h1⟩ | ⟨-,h1⟩ <;> rw [h1] at h <;> omega
theorem nosg_end (s:ByteArray) (k:Nat):NoSg s k s.size:=fun h=>absurd h (Nat.lt_irrefl _)
theorem nosg_down {s:ByteArray} {k a:Nat} (h:NoSg s (k+1) a) (hk:bindN (3+signI (nextB s a))≠(k:Int)):NoSg s k a:=fun hlt=>by
 rcases h hlt with h | h
 ·exact Or.inl h
 ·right;omega
set_option maxHeartbeats 4000000 in
theorem sum_step (s:ByteArray) (q base a k:Nat) (hs:s.size≤100) (hk1:1≤k) (hk2:k≤2) (h0:SumC s q base (k+1) a) (ih:∀ a1,a<a1→a1≤s.size→SumC s q base (k+1) a1):SumC s q base k a:=by
 intro v L w hI hqb hbw hown hLa
 have HIH:=hid_of ih
 have hc:Calls Tryz.prog 31 #[.pointer (some ⟨q,0,none⟩),.int .i64 ((k:Int)+1)] w fun e w'=>OutS s q base (k+1) a L w e w':=h0 v L w hI hqb hbw hown hLa
 have hki:1≤(k:Int):=by omega
 have hki2:(k:Int)≤2:=by omega
 have hk3:((k:Int) == 3)=false:=by simp;omega
 have hsi:(s.size:Int)≤100:=by omega
 clear hI hown h0 ih
 go_enter Tryz.func31,Tryz.ntmps31
 go_wp2_with fail
 refine hc.mono ?_
 rintro e w1 ho
 obtain ⟨ix,he⟩:∃ ix:Int,e=.returned (.int .i64 ix):=by
  rcases ho with ⟨-,⟨a1,t,v1,rfl,-⟩ | ⟨i,a1,v1,L1,rfl,-⟩⟩
  ·exact ⟨_,rfl⟩
  ·exact ⟨_,rfl⟩
 subst he
 have HO:=hid_of ho
 clear ho hc
 go_wp2_with fail
 go_loopg [5] s.size (fun g s5 wr=>Kept base (fun j=>j=q) w wr∧((∃ (a1:Nat) (t:Tre) (v1:Value),s.size-a1≤g∧s5=.int .i64 ((L.length+sizT t-1:Nat):Int)∧Rds s k a a1 t∧NoSg s (k+1) a1∧InV wr q s a1 false v1∧wr.ownsRow base 62 5 v1 (L ++ post t L.length).length (cellsN (L ++ post t L.length))∧a+sizT t≤a1)∨(∃ (i:Int) (a1:Nat) (v1:Value) (L1:List Nd),s5=.int .i64 i∧Fls s a a1∧InV wr q s a1 true v1∧wr.ownsRow base 62 5 v1 L1.length (cellsN L1))))
 case atStart =>
  obtain ⟨hK,⟨a1,t,v1,he,hR,hN,hI1,hO1,hL1⟩ | ⟨i,a1,v1,L1,he,hF,hI1,hO1⟩⟩:=HO.out
  ·simp only [Ending.returned.injEq] at he
   exact ⟨hK,Or.inl ⟨a1,t,v1,by omega,he,rds_up hk1 hk2 hR,hN,hI1,hO1,hL1⟩⟩
  ·simp only [Ending.returned.injEq] at he
   exact ⟨hK,Or.inr ⟨i,a1,v1,L1,he,hF,hI1,hO1⟩⟩
 case round =>
  obtain ⟨hKr,⟨a1,t,v1,hgm,rfl,hR,hN,hIr,hOr,hLr⟩ | ⟨i,a1,v1,L1,rfl,hF,hIr,hOr⟩⟩:=hrel
  ·have HKr:=hid_of hKr
   have HR:=hid_of hR
   have HN:=hid_of hN
   have HIr:=hid_of hIr
   have HOr:=hid_of hOr
   have HLr:=hid_of hLr
   have hbr:base≤wr.heap.size:=Nat.le_trans hbw hKr.size
   have d0:=hIr.c0
   have d1:=hIr.c1
   have d2:=hIr.c2
   have d5:=hIr.lt
   have ha1:a<a1:=hR.1
   have ha2:a1≤s.size:=hR.2.1
   have hp:=siz_pos t
   obtain ⟨iy,hiy⟩:∃ iy,L.length+sizT t-1=iy:=⟨_,rfl⟩
   have HIy:=hid_of hiy
   rw [hiy]
   clear hKr hR hN hIr hOr hLr hiy HO
   by_cases hend:a1=s.size
   ·have hei:(a1:Int)=(s.size:Int):=by omega
    have hdl:decide ((a1:Int)<(s.size:Int))=false:=decide_eq_false (by omega)
    go_wp2_with fail
    go_quiet (fail)
    go_wp2_with fail
    go_ret
    exact ⟨HKr.out.trans (kept_below (below_drewN (Below.refl _ _) _) hbr),Or.inl ⟨a1,t,v1,by rw [HIy.out];rfl,HR.out,by rw [hend];exact nosg_end s k,HIr.out.later (below_drewN (Below.refl _ _) _),own_later HOr.out (below_drewN (Below.refl _ _) _),HLr.out⟩⟩
   ·have hlt:a1<s.size:=by omega
    have hlti:(a1:Int)<(s.size:Int):=by omega
    have hby:=byteN_get s a1 hlt
    have HNx:Hid (nextB s a1=byteN s a1):=by show _=_;rw [nextB,if_neg (by omega)]
    obtain ⟨ch,hch⟩:∃ ch,byteN s a1=ch:=⟨_,rfl⟩
    have HCh:=hid_of hch
    rw [hch] at hby
    clear hch hend
    go_wp2_with fail
    go_quiet (fail)
    obtain ⟨W1,hW1⟩:∃ W1,wr.drewN nq=W1:=⟨_,rfl⟩
    have HB1:Hid (Below wr.heap.size wr W1):=by show Below _ _ _;rw [←hW1];exact below_drewN (Below.refl _ _) _
    rw [hW1]
    have f0:=(HIr.out.later HB1.out).c0
    have f1:=(HIr.out.later HB1.out).c1
    have f5:=(HIr.out.later HB1.out).lt
    clear hW1 d0 d1 d2
    go_wp2_with fail
    go_quiet (fail)
    obtain ⟨W2,hW2⟩:∃ W2,W1.drewN nq=W2:=⟨_,rfl⟩
    have HB2:Hid (Below wr.heap.size wr W2):=by show Below _ _ _;rw [←hW2];exact below_drewN HB1.out _
    rw [hW2]
    have hbs:base≤W2.heap.size:=Nat.le_trans hbr HB2.out.size
    have g1:=(HIr.out.later HB2.out).c1
    have g3:=(HIr.out.later HB2.out).fr 1
    have g5:=(HIr.out.later HB2.out).lt
    clear hW2 f0 f1 f5
    go_upto_block 2 with fail
    go_cut [6] from 33 to 91 (fun s6 wx=>s6=.int .i64 (opI ch)∧wx=W2)
    case first =>
     by_cases e1:ch=43
     ·subst e1
      go_wp2_with fail
      go_meet
      exact ⟨rfl,rfl⟩
     by_cases e2:ch=45
     ·subst e2
      go_wp2_with fail
      go_meet
      exact ⟨rfl,rfl⟩
     by_cases e3:ch=42
     ·subst e3
      go_wp2_with fail
      go_meet
      exact ⟨rfl,rfl⟩
     by_cases e4:ch=47
     ·subst e4
      go_wp2_with fail
      go_meet
      exact ⟨rfl,rfl⟩
     have HE:=hid_of (opI_none e1 e2 e3 e4)
     have b1:(ch == 43)=false:=by simpa using e1
     have b2:(ch == 45)=false:=by simpa using e2
     have b3:(ch == 42)=false:=by simpa using e3
     have b4:(ch == 47)=false:=by simpa using e4
     clear e1 e2 e3 e4
     go_wp2_with fail
     go_meet
     exact ⟨by rw [HE.out],rfl⟩
    case rest =>
     obtain ⟨rfl,hwc⟩:=hcut
     rw [hwc]
     obtain ⟨o,ho⟩:∃ o,opI ch=o:=⟨_,rfl⟩
     have HOp:=hid_of ho
     rw [ho]
     clear ho
     by_cases ho0:o=0
     ·subst ho0
      have HNs:Hid (NoSg s k a1):=fun _=>Or.inl (by rw [HNx.out,HCh.out];exact opI_zero HOp.out)
      go_wp2_with fail
      go_ret
      exact ⟨HKr.out.trans (kept_below HB2.out hbr),Or.inl ⟨a1,t,v1,by rw [HIy.out];rfl,HR.out,HNs.out,HIr.out.later HB2.out,own_later HOr.out HB2.out,HLr.out⟩⟩
     ·have ho0b:(o == 0)=false:=by simpa using ho0
      have HSg:Hid (0≤signI (nextB s a1)∧o=3+signI (nextB s a1)):=by
       have h:=opI_some (c:=ch) (by rw [HOp.out];exact ho0)
       rw [HOp.out] at h
       show _∧_
       rw [HNx.out,HCh.out]
       exact ⟨Int.not_lt.1 h.1,h.2⟩
      have hrk:=rank_any o W2
      clear ho0
      by_cases hbk:bindN o=(k:Int)
      ·have hbkb:(bindN o != (k:Int))=false:=by simp [hbk]
       have HBk:=hid_of hbk
       obtain ⟨L1,hL1⟩:∃ L1,L ++ post t L.length=L1:=⟨_,rfl⟩
       have hl1:L1.length=L.length+sizT t:=by rw [←hL1,List.length_append,post_len]
       have HL1:=hid_of hL1
       have HLl:=hid_of hl1
       have hO1':wr.ownsRow base 62 5 v1 L1.length (cellsN L1):=by rw [←hL1];exact HOr.out
       have HO1:=hid_of hO1'
       have hsz:L1.length≤a1:=by have:=HLr.out;omega
       clear hbk hL1 hl1 hO1'
       go_wp2_with fail
       refine hrk.mono ?_
       rintro e w4 ⟨rfl,hb4⟩
       have HB4:=hid_of (onB HB2.out hb4)
       have HI4:=hid_of (HIr.out.later HB4.out)
       have j1:=HI4.out.c1
       have j3:=HI4.out.fr 1
       have j5:=HI4.out.lt
       obtain ⟨V4,hV4⟩:∃ V4,w4.setCell ⟨q,1,none⟩ (.int .i64 ((a1:Int)+1))=V4:=⟨_,rfl⟩
       have hIV:InV V4 q s (a1+1) false v1:=by rw [←hV4];exact HI4.out.set1 (a1+1)
       have hOV:V4.ownsRow base 62 5 v1 L1.length (cellsN L1):=by rw [←hV4];exact own_off (own_later HO1.out HB4.out) hqb
       have hKV:Kept base (fun j=>j=q) w V4:=by rw [←hV4];exact (HKr.out.trans (kept_below HB4.out hbr)).trans kept_set
       have HKV:=hid_of hKV
       have hsm:Calls Tryz.prog 31 #[.pointer (some ⟨q,0,none⟩),.int .i64 ((k:Int)+1)] V4 fun e w'=>OutS s q base (k+1) (a1+1) L1 V4 e w':=HIH.out (a1+1) (by omega) (by omega) v1 L1 V4 hIV hqb (Nat.le_trans hbw hKV.size) hOV (by omega)
       clear hb4 hrk hIV hOV hKV g1 g3 g5
       go_wp2_with fail
       refine hsm.mono ?_
       rintro e w5 ⟨hK5,⟨a2,u,v2,rfl,hR2,hN2,hI5,hO5,hL5⟩ | ⟨i,a2,v2,L2,rfl,hF2,hI5,hO5⟩⟩
       ·have HK5:=hid_of (HKV.out.trans hK5)
        have hb5:base≤w5.heap.size:=Nat.le_trans hbw HK5.out.size
        obtain ⟨L2,hL2⟩:∃ L2,L1 ++ post u L1.length=L2:=⟨_,rfl⟩
        have hl2:L2.length=L1.length+sizT u:=by rw [←hL2,List.length_append,post_len]
        rw [hL2] at hO5
        obtain ⟨m,hm⟩:∃ m,L2.length=m:=⟨_,rfl⟩
        rw [hm] at hO5
        obtain ⟨A2,c2,hv2⟩:=own_form hO5
        subst hv2
        obtain ⟨jy,hjy⟩:∃ jy,L1.length+sizT u-1=jy:=⟨_,rfl⟩
        have hpu:=siz_pos u
        have hR3:Rds s k a a2 (.bin o t u):=by
         have hsg:=HSg.out
         rw [hsg.2]
         exact rds_bin HR.out hlt (Int.not_lt.2 hsg.1) (by rw [←hsg.2];exact HBk.out) hR2
        have hpo:L2 ++ [⟨o,0,⟨#[]⟩,(iy:Int),(jy:Int)⟩]=L ++ post (.bin o t u) L.length:=by
         rw [←hL2,←hjy,HLl.out,←HL1.out,post,←HIy.out]
         simp only [List.append_assoc]
         rfl
        have hsb:L.length+sizT (.bin o t u)-1=m:=by
         have:=HLl.out
         show L.length+(sizT t+sizT u+1)-1=m
         omega
        have hle2:a+sizT (.bin o t u)≤a2:=by
         have:=HLr.out
         show a+(sizT t+sizT u+1)≤a2
         omega
        have HR3:=hid_of hR3
        have HN2:=hid_of hN2
        have HLe2:=hid_of hle2
        have HSb:=hid_of hsb
        rw [hjy]
        have ha2s:=hR2.2.1
        have HSt:Hid (∀ (W w6:World) (v':Value),Below w5.heap.size w5 W→W.grownBy w6 (Value.slice A2 m c2).ownBlock→w6.ownsRow base 62 5 v' (m+1) (cellsN L2 ++ cellsNd1 ⟨o,0,⟨#[]⟩,(iy:Int),(jy:Int)⟩)→(InV (w6.setCell ⟨q,3,none⟩ v') q s a2 false v'∧(w6.setCell ⟨q,3,none⟩ v').ownsRow base 62 5 v' (L ++ post (.bin o t u) L.length).length (cellsN (L ++ post (.bin o t u) L.length))∧Kept base (fun j=>j=q) w (w6.setCell ⟨q,3,none⟩ v'))∧(w6.cell? ⟨q,3,none⟩=some (.slice A2 m c2)∧w6.frozen? ⟨q,3,none⟩=false)∧q<w6.heap.size):=by
         intro W w6 v' hb hg hown
         have h:=app_at hI5 hO5 hqb hb hg
         obtain ⟨h1,h2,h3⟩:=app_out hI5 hO5 hqb hb5 hb hg hown
         refine ⟨⟨h1,?_,HK5.out.trans h3⟩,⟨h.c3,h.fr 3⟩,h.lt⟩
         rw [←hpo,List.length_append,hm]
         exact h2
        have HO5:Hid (∀ w',Below w5.heap.size w5 w'→w'.ownsRow base 62 5 (.slice A2 m c2) m (cellsN L2)):=fun w' hb=>own_later hO5 hb
        have p2:=hI5.c2
        have p3:=hI5.c3
        have p4:=hI5.fr 3
        have p5:=hI5.lt
        have hm1:m≤100:=by omega
        have hgn:s.size-a2≤gk-1:=by omega
        have hgp:gk-1<gk:=by omega
        obtain ⟨i1,hj0,hj1,hj2,hj3⟩:=info_parts Tryz.infoNdF
        clear hK5 hR2 hN2 hI5 hO5 hL5 hV4 hsm j1 j3 j5 hL2 hl2 hm hjy hR3 hpo hsb hle2
        go_wp2_with (at_builtin;refine wpList_append_own_at _ rfl _ _ 58 rfl base 62 i1 _ 5 48 Tryz.underlying58 hj0 hj1 hj2 hj3 rfl (by decide) _ m (cellsN L2) rfl (HO5.out _ ?qc0) ⟨w5.heap.size,0,none⟩ 1 1 (cellsNd1 ⟨o,0,⟨#[]⟩,(iy:Int),(jy:Int)⟩) rfl rfl ?qc1 ones5 ?qc2 ?qc3 ?qc4 ?_)
        case qc0=>exact (Below.refl _ _).alloc (Nat.le_refl _) _
        case qc1=>exact news5 (w:=w5) (x:=⟨o,0,⟨#[]⟩,(iy:Int),(jy:Int)⟩) (by simp)
        case qc2=>unfold maxLen;omega
        case qc3=>omega
        case qc4=>simp;omega
        intro v' w6 hown' hgrow _ _
        obtain ⟨HS,⟨y1,y2⟩,y3⟩:=HSt.out _ _ _ ((Below.refl _ _).alloc (Nat.le_refl _) _) hgrow hown'
        obtain ⟨A6,c6,hv'⟩:=own_form hown'
        subst hv'
        have HSo:=hid_of HS
        clear hown' hgrow HS p2 p3 p4 p5
        go_wp2_with fail
        go_roundg (gk-1)
        case measure=>exact hgp
        case rel =>
         obtain ⟨x1,x2,x3⟩:=HSo.out
         exact ⟨x3,Or.inl ⟨a2,.bin o t u,_,hgn,by rw [HSb.out],HR3.out,HN2.out,x1,x2,HLe2.out⟩⟩
       ·have HK5:=hid_of (HKV.out.trans hK5)
        have HF2:Hid (Fls s a a2):=fls_sign HR.out hlt (Int.not_lt.2 HSg.out.1) hF2
        have HI5:=hid_of hI5
        have HO5:=hid_of hO5
        have p2:=hI5.c2
        have p5:=hI5.lt
        clear hK5 hF2 hI5 hO5 hV4 hsm j1 j3 j5
        go_wp2_with fail
        go_ret
        exact ⟨HK5.out,Or.inr ⟨_,a2,v2,L2,rfl,HF2.out,HI5.out,HO5.out⟩⟩
      ·have HNs:Hid (NoSg s k a1):=nosg_down HN.out (by rw [←HSg.out.2];exact hbk)
       have hbkb:(bindN o != (k:Int))=true:=by simpa using hbk
       clear hbk
       go_wp2_with fail
       refine hrk.mono ?_
       rintro e w4 ⟨rfl,hb4⟩
       have HB4:=hid_of (onB HB2.out hb4)
       clear hb4 hrk
       go_wp2_with fail
       go_ret
       exact ⟨HKr.out.trans (kept_below HB4.out hbr),Or.inl ⟨a1,t,v1,by rw [HIy.out];rfl,HR.out,HNs.out,HIr.out.later HB4.out,own_later HOr.out HB4.out,HLr.out⟩⟩
  ·have HKr:=hid_of hKr
   have HF:=hid_of hF
   have HIr:=hid_of hIr
   have HOr:=hid_of hOr
   have hbr:base≤wr.heap.size:=Nat.le_trans hbw hKr.size
   have d0:=hIr.c0
   have d1:=hIr.c1
   have d2:=hIr.c2
   have d5:=hIr.lt
   clear hKr hF hIr hOr HO
   go_wp2_with fail
   go_quiet (fail)
   go_wp2_with fail
   go_ret
   exact ⟨HKr.out.trans (kept_below (below_drewN (Below.refl _ _) _) hbr),Or.inr ⟨i,a1,v1,L1,rfl,HF.out,HIr.out.later (below_drewN (Below.refl _ _) _),own_later HOr.out (below_drewN (Below.refl _ _) _)⟩⟩
end Go.Proofs.YtfldgghobddgkaaGreatDoor
namespace Go.Proofs.YtfldgghobddgkaaGreatDoor
open Go Go.ChangeShapes Go.WideShapes Go.ChangeAt Go.RowKit
set_option maxRecDepth 20000
def usedL (l:List Nd) (k:Nat):List Int:=(List.range l.length).map fun j=>(usedTo l k j:Int)
section
variable {l:List Nd} {k j a b:Nat}
theorem usedL_len:(usedL l k).length=l.length:=by simp [usedL]
theorem usedL_at (h:j<l.length):(usedL l k).getD j 0=(usedTo l k j:Int):=by simp [usedL,List.getD,h]
theorem usedTo_le (l:List Nd) (k j:Nat):usedTo l k j≤2*k:=by
 induction k with
 | zero=>simp [usedTo]
 | succ k ih =>
  have h:uses (l.getD k noN) j≤2:=by
   unfold uses
   split
   ·split <;> split <;> omega
   ·omega
  unfold usedTo
  omega
theorem usedL_zero:usedL l 0=List.replicate l.length 0:=by
 apply List.ext_getElem (by simp [usedL])
 intro j h1 h2
 simp [usedL,usedTo]
theorem usedL_same (h:(l.getD k noN).op≤2):usedL l (k+1)=usedL l k:=by
 have e:∀ j,usedTo l (k+1) j=usedTo l k j:=fun j=>by
  show usedTo l k j+uses (l.getD k noN) j=_
  rw [uses,if_neg (by omega)]
  rfl
 unfold usedL
 simp only [e]
theorem getD_set_ints {L:List Int} {a b:Nat} {x:Int} (h:a<L.length):(L.set a x).getD b 0=if a=b then x else L.getD b 0:=by
 rw [List.getD_eq_getElem?_getD,List.getD_eq_getElem?_getD,List.getElem?_set]
 by_cases e:a=b
 ·subst e;simp [h]
 ·simp [e]
theorem usedL_two (h:2<(l.getD k noN).op) (ha:(l.getD k noN).left=(a:Int)) (hb:(l.getD k noN).right=(b:Int)) (_hal:a<l.length) (hbl:b<l.length) :
  ((usedL l k).set a ((usedTo l k a:Int)+1)).set b ((if a=b then (usedTo l k a:Int)+1 else (usedTo l k b:Int))+1)=usedL l (k+1):=by
 apply List.ext_getElem (by simp [usedL])
 intro j h1 h2
 have e:(usedL l (k+1))[j]=((usedTo l k j+uses (l.getD k noN) j:Nat):Int):=by simp only [usedL,usedTo,List.getElem_map,List.getElem_range]
 have e2:∀ h,(usedL l k)[j]'h=(usedTo l k j:Int):=fun h=>by simp only [usedL,List.getElem_map,List.getElem_range]
 rw [e,uses,if_pos h,ha,hb,List.getElem_set,List.getElem_set,e2]
 by_cases hbj:b=j
 ·subst hbj
  by_cases hab:a=b
  ·subst hab
   simp
   omega
  ·have : ¬ (a:Int)=(b:Int):=by omega
   simp [hab,this]
 ·have h3 : ¬ (b:Int)=(j:Int):=by omega
  by_cases haj:a=j
  ·subst haj
   simp [hbj,h3]
  ·have h4 : ¬ (a:Int)=(j:Int):=by omega
   simp [hbj,haj,h3,h4]
end
set_option maxHeartbeats 8000000 in
theorem rform_any (A:Option Addr) (cap:Nat) (l:List Nd) (w:World) (hN:NdsV w A cap l) :
  Calls Tryz.prog 32 #[.slice A l.length cap] w fun e w'=>e=.returned (.int .i64 (formErr l))∧Below w.heap.size w w':=by
 by_cases c0:l.length=0
 ·have HR:Hid (formErr l=5):=form_none c0
  rw [c0]
  clear c0
  go_enter Tryz.func32,Tryz.ntmps32
  go_wp2_with fail
  go_ret
  exact ⟨by rw [HR.out];rfl,Below.refl _ _⟩
 obtain ⟨-,-,h0 | ⟨b,o,rfl,hAt⟩⟩:=hN
 ·rw [h0] at c0;exact absurd rfl c0
 have HAt:Hid (NdsAt w b o l):=hAt
 by_cases c1:30<l.length
 ·have HR:Hid (formErr l=4):=form_full c1
  have c1':(30:Int)<(l.length:Int):=by omega
  have c0':((l.length:Int) == 0)=false:=by rw [beq_eq_false_iff_ne];omega
  generalize l.length=N at c1' c0'
  clear hAt c0 c1
  go_enter Tryz.func32,Tryz.ntmps32
  go_wp2_with fail
  go_ret
  exact ⟨by rw [HR.out];rfl,Below.refl _ _⟩
 obtain ⟨N,hNe⟩:∃ N,l.length=N:=⟨_,rfl⟩
 have HN:Hid (l.length=N):=hNe
 rw [hNe] at c0 c1 ⊢
 have c0':((N:Int) == 0)=false:=by simp;omega
 have c1':(N:Int)≤30:=by omega
 have hN1:1≤N:=by omega
 have hmk:=run_make_row' (P:=Tryz.prog) 47 3 (.int .i64 0) 8 Tryz.underlying47 Tryz.infoIntP rfl .i64 .i64 N (by omega) (by omega)
 clear hAt hNe c0 c1
 go_enter Tryz.func32,Tryz.ntmps32
 go_wp2_with fail
 clear hmk
 go_loopg [4,5] N (fun g s4 s5 wr => ∃ (k:Nat),k≤N∧g=N-k∧s4=.int .i64 k∧IntB wr w.heap.size (usedL l k)∧(∀ j,j<k→badN l j=false)∧Below w.heap.size w wr)
 case atStart=>exact ⟨0,Nat.zero_le _,rfl,rfl,by rw [usedL_zero,HN.out];exact IntB.made w N,fun j hj=>absurd hj (Nat.not_lt_zero _),by go_grown⟩
 case round =>
  obtain ⟨k,hk,rfl,rfl,hI,hG,hBw⟩:=hrel
  have HI:Hid (IntB wr w.heap.size (usedL l k)):=hI
  have HG:Hid (∀ j,j<k→badN l j=false):=hG
  have HBw:Hid (Below w.heap.size w wr):=hBw
  by_cases hlt:k<N
  ·have hlt':(k:Int)<(N:Int):=by omega
   obtain ⟨x1,x2,x3,x4,x5⟩:=(HAt.out.later hBw).2 k (by rw [HN.out];exact hlt)
   have HF:Hid (∀ c:Int,ndErr (l.getD k noN) k=c→c≠0→formErr l=c):=fun c h1 h2=>by
    rw [form_bad (by rw [HN.out];omega) (by rw [HN.out];exact hlt) (decide_eq_true (by rw [h1];exact h2)) HG.out,h1]
   have HK:Hid (ndErr (l.getD k noN) k=0→∀ j,j<k+1→badN l j=false):=fun h j hj=>by
    rcases Nat.lt_or_ge j k with h1 | h1
    ·exact HG.out j h1
    ·rw [show j=k by omega];exact decide_eq_false (by rw [h];simp)
   have HU1:Hid ((l.getD k noN).op≤2→usedL l (k+1)=usedL l k):=usedL_same
   have HU2:Hid (∀ a b:Nat,2<(l.getD k noN).op→(l.getD k noN).left=(a:Int)→(l.getD k noN).right=(b:Int)→a<l.length→b<l.length→((usedL l k).set a ((usedTo l k a:Int)+1)).set b ((if a=b then (usedTo l k a:Int)+1 else (usedTo l k b:Int))+1)=usedL l (k+1)):=fun a b=>usedL_two
   generalize l.getD k noN=x at x1 x2 x3 x4 x5 HF HK HU1 HU2
   obtain ⟨op,n,nm,le,ri⟩:=x
   simp only at x1 x2 x3 x4 x5 HU1 HU2
   obtain ⟨W,hW⟩:∃ W,wr.alloc (.cells #[.int .i64 op,.int .i64 n,.string nm,.int .i64 le,.int .i64 ri] 62)=W:=⟨_,rfl⟩
   have y1:W.cell? ⟨wr.heap.size,0,none⟩=some (.int .i64 op):=by rw [←hW];simp
   have y2:W.cell? ⟨wr.heap.size,1,none⟩=some (.int .i64 n):=by rw [←hW];simp
   have y3:W.cell? ⟨wr.heap.size,2,none⟩=some (.string nm):=by rw [←hW];simp
   have y4:W.cell? ⟨wr.heap.size,3,none⟩=some (.int .i64 le):=by rw [←hW];simp
   have y5:W.cell? ⟨wr.heap.size,4,none⟩=some (.int .i64 ri):=by rw [←hW];simp
   have hbW:Below wr.heap.size wr W:=by rw [←hW];go_grown
   have HBW:Hid (Below w.heap.size w W):=onB hBw hbW
   have HIW:Hid (IntB W w.heap.size (usedL l k)):=hI.later hbW
   clear hI hG hBw hbW
   by_cases d1:op<1
   ·have HR:Hid (formErr l=1):=HF.out 1 (by unfold ndErr;dsimp only;(repeat' split) <;> omega) (by decide)
    go_wp2_with fail
    go_ret
    exact ⟨by rw [HR.out];rfl,HBW.out⟩
   by_cases d2:6<op
   ·have HR:Hid (formErr l=1):=HF.out 1 (by unfold ndErr;dsimp only;(repeat' split) <;> omega) (by decide)
    go_wp2_with fail
    go_ret
    exact ⟨by rw [HR.out];rfl,HBW.out⟩
   by_cases d3:op=1
   ·subst d3
    by_cases d4:n<0
    ·have HR:Hid (formErr l=1):=HF.out 1 (by unfold ndErr;dsimp only;(repeat' split) <;> omega) (by decide)
     go_wp2_with fail
     go_ret
     exact ⟨by rw [HR.out];rfl,HBW.out⟩
    by_cases d5:1000000<n
    ·have HR:Hid (formErr l=1):=HF.out 1 (by unfold ndErr;dsimp only;(repeat' split) <;> omega) (by decide)
     go_wp2_with fail
     go_ret
     exact ⟨by rw [HR.out];rfl,HBW.out⟩
    by_cases dm:nm.size≠0
    ·have HR:Hid (formErr l=3):=HF.out 3 (by unfold ndErr;dsimp only;(repeat' split) <;> omega) (by decide)
     have bm:nm.toList.isEmpty=false:=by rw [empty_same];simpa using dm
     clear dm
     go_wp2_with fail
     go_ret
     exact ⟨by rw [HR.out];rfl,HBW.out⟩
    have bm:nm.toList.isEmpty=true:=by rw [empty_same];simpa using dm
    have HM:Hid (nm.size=0):=by show _=_;omega
    clear dm
    by_cases dle:le≠0
    ·have HR:Hid (formErr l=3):=HF.out 3 (by have:=HM.out;unfold ndErr;dsimp only;(repeat' split) <;> omega) (by decide)
     have ble:(le != 0)=true:=by simpa using dle
     clear dle
     go_wp2_with fail
     go_ret
     exact ⟨by rw [HR.out];rfl,HBW.out⟩
    have Hle:Hid (le=0):=by show _=_;omega
    have ble:(le != 0)=false:=by have:=Hle.out;simpa using this
    clear dle
    by_cases dri:ri≠0
    ·have HR:Hid (formErr l=3):=HF.out 3 (by have:=Hle.out;have:=HM.out;unfold ndErr;dsimp only;(repeat' split) <;> omega) (by decide)
     have bri:(ri != 0)=true:=by simpa using dri
     clear dri
     go_wp2_with fail
     go_ret
     exact ⟨by rw [HR.out];rfl,HBW.out⟩
    have Hri:Hid (ri=0):=by show _=_;omega
    have bri:(ri != 0)=false:=by have:=Hri.out;simpa using this
    clear dri
    have HG1:Hid (∀ j,j<k+1→badN l j=false):=HK.out (by have:=Hle.out;have:=Hri.out;have:=HM.out;unfold ndErr;dsimp only;(repeat' split) <;> omega)
    have HU:Hid (usedL l (k+1)=usedL l k):=HU1.out (by decide)
    go_wp2_with fail
    go_roundg (N-(k+1))
    case measure=>omega
    case rel=>exact ⟨k+1,by omega,rfl,by go_num,by rw [HU.out];exact HIW.out,HG1.out,HBW.out⟩
   by_cases d6:op=2
   ·subst d6
    have hnm:=rname_any nm W
    by_cases d7:nameErr nm=0
    ·have HZ:Hid (nameErr nm=0):=d7
     rw [d7] at hnm
     clear d7
     by_cases dn:n≠0
     ·have HR:Hid (formErr l=3):=HF.out 3 (by have:=HZ.out;unfold ndErr;dsimp only;(repeat' split) <;> omega) (by decide)
      have bn:(n != 0)=true:=by simpa using dn
      clear dn
      go_wp2_with fail
      refine hnm.mono ?_
      rintro e w1 ⟨rfl,rfl⟩
      go_wp2_with fail
      go_ret
      exact ⟨by rw [HR.out];rfl,HBW.out⟩
     have Hn:Hid (n=0):=by show _=_;omega
     have bn:(n != 0)=false:=by have:=Hn.out;simpa using this
     clear dn
     by_cases dle:le≠0
     ·have HR:Hid (formErr l=3):=HF.out 3 (by have:=Hn.out;have:=HZ.out;unfold ndErr;dsimp only;(repeat' split) <;> omega) (by decide)
      have ble:(le != 0)=true:=by simpa using dle
      clear dle
      go_wp2_with fail
      refine hnm.mono ?_
      rintro e w1 ⟨rfl,rfl⟩
      go_wp2_with fail
      go_ret
      exact ⟨by rw [HR.out];rfl,HBW.out⟩
     have Hle:Hid (le=0):=by show _=_;omega
     have ble:(le != 0)=false:=by have:=Hle.out;simpa using this
     clear dle
     by_cases dri:ri≠0
     ·have HR:Hid (formErr l=3):=HF.out 3 (by have:=Hn.out;have:=Hle.out;have:=HZ.out;unfold ndErr;dsimp only;(repeat' split) <;> omega) (by decide)
      have bri:(ri != 0)=true:=by simpa using dri
      clear dri
      go_wp2_with fail
      refine hnm.mono ?_
      rintro e w1 ⟨rfl,rfl⟩
      go_wp2_with fail
      go_ret
      exact ⟨by rw [HR.out];rfl,HBW.out⟩
     have Hri:Hid (ri=0):=by show _=_;omega
     have bri:(ri != 0)=false:=by have:=Hri.out;simpa using this
     clear dri
     have HG1:Hid (∀ j,j<k+1→badN l j=false):=HK.out (by have:=Hn.out;have:=Hle.out;have:=Hri.out;have:=HZ.out;unfold ndErr;dsimp only;(repeat' split) <;> omega)
     have HU:Hid (usedL l (k+1)=usedL l k):=HU1.out (by decide)
     go_wp2_with fail
     refine hnm.mono ?_
     rintro e w1 ⟨rfl,rfl⟩
     go_wp2_with fail
     go_roundg (N-(k+1))
     case measure=>omega
     case rel=>exact ⟨k+1,by omega,rfl,by go_num,by rw [HU.out];exact HIW.out,HG1.out,HBW.out⟩
    ·have HR:Hid (formErr l=2):=HF.out 2 (by unfold ndErr;dsimp only;(repeat' split) <;> omega) (by decide)
     rw [nameErr_two d7] at hnm
     clear d7
     go_wp2_with fail
     refine hnm.mono ?_
     rintro e w1 ⟨rfl,rfl⟩
     go_wp2_with fail
     go_ret
     exact ⟨by rw [HR.out];rfl,HBW.out⟩
   have o1:(op == 1)=false:=by simpa using d3
   have o2:(op == 2)=false:=by simpa using d6
   have HO:Hid (¬ op=1∧¬ op=2):=⟨d3,d6⟩
   clear d3 d6
   by_cases d8:le<0
   ·have HR:Hid (formErr l=1):=HF.out 1 (by have:=HO.out;unfold ndErr;dsimp only;(repeat' split) <;> omega) (by decide)
    go_wp2_with fail
    go_ret
    exact ⟨by rw [HR.out];rfl,HBW.out⟩
   by_cases d9:(k:Int)≤le
   ·have HR:Hid (formErr l=1):=HF.out 1 (by have:=HO.out;unfold ndErr;dsimp only;(repeat' split) <;> omega) (by decide)
    go_wp2_with fail
    go_ret
    exact ⟨by rw [HR.out];rfl,HBW.out⟩
   by_cases d10:ri<0
   ·have HR:Hid (formErr l=1):=HF.out 1 (by have:=HO.out;unfold ndErr;dsimp only;(repeat' split) <;> omega) (by decide)
    go_wp2_with fail
    go_ret
    exact ⟨by rw [HR.out];rfl,HBW.out⟩
   by_cases d11:(k:Int)≤ri
   ·have HR:Hid (formErr l=1):=HF.out 1 (by have:=HO.out;unfold ndErr;dsimp only;(repeat' split) <;> omega) (by decide)
    go_wp2_with fail
    go_ret
    exact ⟨by rw [HR.out];rfl,HBW.out⟩
   by_cases dn:n≠0
   ·have HR:Hid (formErr l=3):=HF.out 3 (by have:=HO.out;unfold ndErr;dsimp only;(repeat' split) <;> omega) (by decide)
    have bn:(n != 0)=true:=by simpa using dn
    clear dn
    go_wp2_with fail
    go_ret
    exact ⟨by rw [HR.out];rfl,HBW.out⟩
   have Hn:Hid (n=0):=by show _=_;omega
   have bn:(n != 0)=false:=by have:=Hn.out;simpa using this
   clear dn
   by_cases dm:nm.size≠0
   ·have HR:Hid (formErr l=3):=HF.out 3 (by have:=Hn.out;have:=HO.out;unfold ndErr;dsimp only;(repeat' split) <;> omega) (by decide)
    have bm:nm.toList.isEmpty=false:=by rw [empty_same];simpa using dm
    clear dm
    go_wp2_with fail
    go_ret
    exact ⟨by rw [HR.out];rfl,HBW.out⟩
   have bm:nm.toList.isEmpty=true:=by rw [empty_same];simpa using dm
   have HM:Hid (nm.size=0):=by show _=_;omega
   clear dm
   have HG1:Hid (∀ j,j<k+1→badN l j=false):=HK.out (by have:=HO.out;have:=HM.out;have:=Hn.out;unfold ndErr;dsimp only;(repeat' split) <;> omega)
   obtain ⟨a,rfl⟩:∃ a:Nat,le=(a:Int):=⟨le.toNat,by omega⟩
   obtain ⟨b',rfl⟩:∃ b':Nat,ri=(b':Int):=⟨ri.toNat,by omega⟩
   have ha:a<N:=by omega
   have hb:b'<N:=by omega
   have HU:=HU2.out a b' (by have:=HO.out;omega) rfl rfl (by rw [HN.out];exact ha) (by rw [HN.out];exact hb)
   have HUh:Hid (((usedL l k).set a ((usedTo l k a:Int)+1)).set b' ((if a=b' then (usedTo l k a:Int)+1 else (usedTo l k b':Int))+1)=usedL l (k+1)):=HU
   have e1:=HIW.out.cell (j:=a) (by rw [usedL_len,HN.out];exact ha)
   rw [usedL_at (by rw [HN.out];exact ha)] at e1
   have f1:=HIW.out.frozen a
   have HI2:=HIW.out.set a ((usedTo l k a:Int)+1)
   have e2:=HI2.cell (j:=b') (by rw [List.length_set,usedL_len,HN.out];exact hb)
   rw [getD_set_ints (by rw [usedL_len,HN.out];exact ha),usedL_at (by rw [HN.out];exact hb)] at e2
   have f2:=HI2.frozen b'
   have HI3:Hid (IntB ((W.setCell ⟨w.heap.size,a,none⟩ (.int .i64 ((usedTo l k a:Int)+1))).setCell ⟨w.heap.size,b',none⟩ (.int .i64 ((if a=b' then (usedTo l k a:Int)+1 else (usedTo l k b':Int))+1))) w.heap.size (usedL l (k+1))):=by
    have h:=HI2.set b' ((if a=b' then (usedTo l k a:Int)+1 else (usedTo l k b':Int))+1)
    rw [HU] at h
    exact h
   have ua:=usedTo_le l k a
   have ub:=usedTo_le l k b'
   generalize usedTo l k a=ua' at *
   generalize usedTo l k b'=ub' at *
   obtain ⟨v,hv⟩:∃ v:Nat,(if a=b' then (ua':Int)+1 else (ub':Int))=(v:Int):=⟨if a=b' then ua'+1 else ub',by split <;> simp⟩
   have hv1:(v:Int)≤100:=by rw [←hv];split <;> omega
   have hu1:(ua':Int)≤100:=by omega
   rw [hv] at e2 HI3
   have hak:(a:Int)<(N:Int):=by omega
   have hbk:(b':Int)<(N:Int):=by omega
   have hak':(a:Int)<(k:Int):=by omega
   have hbk':(b':Int)<(k:Int):=by omega
   have hne:w.heap.size<wr.heap.size:=HI.out.lt
   have HBV:Hid (Below w.heap.size w (W.setCell ⟨w.heap.size,a,none⟩ (.int .i64 ((ua':Int)+1)))):=HBW.out.setCell (by show w.heap.size≤w.heap.size;omega) _
   have y6:(W.setCell ⟨w.heap.size,a,none⟩ (.int .i64 ((ua':Int)+1))).cell? ⟨wr.heap.size,4,none⟩=some (.int .i64 (b':Int)):=by
    rw [World.cell?_setCell_far _ _ _ _ (by show w.heap.size≠wr.heap.size;omega)]
    exact y5
   obtain ⟨V,hV⟩:∃ V,W.setCell ⟨w.heap.size,a,none⟩ (.int .i64 ((ua':Int)+1))=V:=⟨_,rfl⟩
   rw [hV] at e2 f2 HI3 HBV y6
   clear HU HUh HI2 hv ua ub d9 d11 ha hb hne
   go_wp2_with fail
   go_roundg (N-(k+1))
   case measure=>omega
   case rel=>exact ⟨k+1,by omega,rfl,by go_num,HI3.out,HG1.out,HBV.out.setCell (by show w.heap.size≤w.heap.size;omega) _⟩
  ·obtain rfl:k=N:=by omega
   have hlt' : ¬ (k:Int)<(k:Int):=by omega
   clear hI hG hBw
   go_wp2_with fail
   go_loopg [6] k (fun g s6 wt => ∃ (j:Nat),j≤k-1∧g=k-j∧s6=.int .i64 j∧wt=wr∧(∀ i,i<j→oddN l i=false))
   case atStart=>exact ⟨0,Nat.zero_le _,rfl,rfl,rfl,fun i hi=>absurd hi (Nat.not_lt_zero _)⟩
   case round =>
    obtain ⟨j,hj,rfl,rfl,rfl,hO⟩:=hrel
    have HO:Hid (∀ i,i<j→oddN l i=false):=hO
    clear hO
    by_cases hjl:j<k-1
    ·have hj1:(j:Int)<(k:Int)-1:=by omega
     have hj2:(j:Int)<(k:Int):=by omega
     have e1:=HI.out.cell (j:=j) (by rw [usedL_len,HN.out];omega)
     rw [usedL_at (by rw [HN.out];omega)] at e1
     by_cases hu:usedTo l k j=1
     ·have HO1:Hid (∀ i,i<j+1→oddN l i=false):=fun i hi=>by
       rcases Nat.lt_or_ge i j with h1 | h1
       ·exact HO.out i h1
       ·rw [show i=j by omega];exact decide_eq_false (by rw [HN.out,hu];simp)
      rw [hu] at e1
      clear hu
      go_wp2_with fail
      go_roundg (k-(j+1))
      case measure=>omega
      case rel=>exact ⟨j+1,by omega,rfl,by go_num,rfl,HO1.out⟩
     ·have HR:Hid (formErr l=3):=form_odd (by rw [HN.out];omega) (by rw [HN.out];omega) (by rw [HN.out];exact HG.out) (i:=j) (by rw [HN.out];exact hjl) (decide_eq_true (by rw [HN.out];exact hu))
      have hu':(((usedTo l k j:Nat):Int) == 1)=false:=by simp;omega
      generalize usedTo l k j=u at e1 hu'
      clear hu
      go_wp2_with fail
      go_ret
      exact ⟨by rw [HR.out];rfl,HBw.out⟩
    ·have HR:Hid (formErr l=0):=form_good (by rw [HN.out];omega) (by rw [HN.out];omega) (by rw [HN.out];exact HG.out) (fun i hi=>HO.out i (by rw [HN.out] at hi;omega))
     have hj1 : ¬ (j:Int)<(k:Int)-1:=by omega
     go_wp2_with fail
     go_ret
     exact ⟨by rw [HR.out];rfl,HBw.out⟩
end Go.Proofs.YtfldgghobddgkaaGreatDoor
