/-
  The document's own names of a formula (tallyref2.Refs): each name of the nodes is among them, and no other.
-/
import Derived.Laws.AppendOwnNone
import Derived.Test.YtigkeokacagabafGreatDoorJYAP
namespace Go.Proofs.YtigkeokacagabafGreatDoor
open Go.ChangeShapes Go.WideShapes Go.ChangeAt Go.RowKit
set_option maxRecDepth 20000
def rowS (R:List ByteArray):List Value:=R.map Value.string
def RefsTo (l:List Nd) (i:Nat) (R:List ByteArray):Prop:=R.length≤i∧∀ s,s∈R↔∃ j,j<i∧(l.getD j noN).op=2∧(l.getD j noN).name=s
section
variable {l:List Nd} {i:Nat} {R:List ByteArray}
theorem refs_zero:RefsTo l 0 []:=⟨Nat.le_refl _,fun _=>⟨fun h=>absurd h List.not_mem_nil,fun ⟨j,h,_⟩=>absurd h (Nat.not_lt_zero j)⟩⟩
theorem refs_skip (h:RefsTo l i R) (ho:(l.getD i noN).op≠2):RefsTo l (i+1) R:=by
 refine ⟨by have:=h.1;omega,fun s=>(h.2 s).trans ⟨fun ⟨j,h1,h2⟩=>⟨j,by omega,h2⟩,fun ⟨j,h1,h2⟩=>⟨j,?_,h2⟩⟩⟩
 by_cases e:j=i
 ·subst e;exact absurd h2.1 ho
 ·omega
theorem refs_old (h:RefsTo l i R) (ho:(l.getD i noN).op=2) (hm:(l.getD i noN).name∈R):RefsTo l (i+1) R:=by
 refine ⟨by have:=h.1;omega,fun s=>⟨fun hs=>?_,fun ⟨j,h1,h2⟩=>?_⟩⟩
 ·obtain ⟨j,h1,h2⟩:=(h.2 s).1 hs
  exact ⟨j,by omega,h2⟩
 ·by_cases e:j=i
  ·subst e;rw [←h2.2];exact hm
  ·exact (h.2 s).2 ⟨j,by omega,h2⟩
theorem refs_new (h:RefsTo l i R) (ho:(l.getD i noN).op=2) (k:Nat):RefsTo l (i+1) (R.take k ++ [(l.getD i noN).name] ++ R.drop k):=by
 refine ⟨?_,fun s=>?_⟩
 ·have:=h.1
  simp only [List.length_append,List.length_take,List.length_drop,List.length_singleton]
  omega
 ·have hmem:s∈R.take k ++ [(l.getD i noN).name] ++ R.drop k↔s∈R∨s=(l.getD i noN).name:=by
   rw [List.mem_append,List.mem_append,List.mem_singleton]
   have hR:s∈R↔s∈R.take k∨s∈R.drop k:=by rw [←List.mem_append,List.take_append_drop]
   rw [hR]
   constructor
   ·rintro ((h | h) | h)
    ·exact Or.inl (Or.inl h)
    ·exact Or.inr h
    ·exact Or.inl (Or.inr h)
   ·rintro ((h | h) | h)
    ·exact Or.inl (Or.inl h)
    ·exact Or.inr h
    ·exact Or.inl (Or.inr h)
  rw [hmem,h.2 s]
  constructor
  ·rintro (⟨j,h1,h2⟩ | rfl)
   ·exact ⟨j,by omega,h2⟩
   ·exact ⟨i,by omega,ho,rfl⟩
  ·rintro ⟨j,h1,h2⟩
   by_cases e:j=i
   ·subst e;exact Or.inr h2.2.symm
   ·exact Or.inl ⟨j,by omega,h2⟩
end
theorem Tryz.infoStR:(Tryz.prog.info? 9).map (fun i=>(i.zero,i.size,i.bytes))=some (some (.string ⟨#[]⟩),1,16):=by kernel_rfl
theorem row_str {w:World} {base:Nat} {v:Value} {R:List ByteArray} (h:w.ownsRow base 9 1 v R.length (rowS R)):(R=[]∧v=.slice none 0 0)∨∃ g cap,v=.slice (some ⟨g,0,none⟩) R.length cap∧base≤g∧g<w.heap.size∧R.length≤cap∧cap≤9223372036854775807∧∀ k,k<R.length→w.cell? ⟨g,k,none⟩=some (.string (R.getD k noS)):=by
 rcases h.2 with ⟨rfl,h0⟩ | ⟨g,cap,cur,rfl,hb,hg,h4,h5,h6,h7⟩
 ·exact Or.inl ⟨List.eq_nil_of_length_eq_zero h0,rfl⟩
 ·refine Or.inr ⟨g,cap,rfl,hb,(Array.getElem?_eq_some_iff.1 hg).1,h4,by unfold maxLen at h5;omega,fun k hk=>?_⟩
  have x0:(rowS R)[k]?=some (.string (R.getD k noS)):=by simp [rowS,List.getD,hk]
  rw [←h7,List.getElem?_take,if_pos (by omega),Array.getElem?_toList] at x0
  simp [World.cell?,hg,x0]
theorem toLs_ne {x y:ByteArray} (h : ¬ y=x):(y.toList == x.toList)=false:=by
 rw [beq_eq_false_iff_ne]
 intro e
 apply h
 rw [Lib.toList_data,Lib.toList_data] at e
 obtain ⟨yd⟩:=y
 obtain ⟨xd⟩:=x
 exact congrArg ByteArray.mk (Array.toList_inj.1 e)
theorem row_one (L:List ByteArray):∀ u∈rowS L,u.oneCell'=true:=by
 intro u hu
 obtain ⟨x,-,rfl⟩:=List.mem_map.1 hu
 rfl
theorem row_take {w:World} {g:Nat} {R:List ByteArray} (h:∀ j,j<R.length→w.cell? ⟨g,j,none⟩=some (.string (R.getD j noS))) (k:Nat):∀ j u,(rowS (R.take k))[j]?=some u→w.cell? ((⟨g,0,none⟩:Addr).add j)=some u:=by
 intro j u hj
 have hlt:j<(R.take k).length:=by have:=(List.getElem?_eq_some_iff.1 hj).1;simpa [rowS] using this
 rw [List.length_take] at hlt
 rw [rowS,List.getElem?_map,List.getElem?_take,if_pos (by omega),List.getElem?_eq_getElem (by omega)] at hj
 have e:=h j (by omega)
 rw [List.getD_eq_getElem?_getD,List.getElem?_eq_getElem (by omega)] at e
 have ea:((⟨g,0,none⟩:Addr).add j)=⟨g,j,none⟩:=by rw [Addr.add_lit,Nat.zero_add]
 rw [ea,e]
 exact hj
theorem row_drop {w:World} {g:Nat} {R:List ByteArray} (h:∀ j,j<R.length→w.cell? ⟨g,j,none⟩=some (.string (R.getD j noS))) (k:Nat):∀ j u,(rowS (R.drop k))[j]?=some u→w.cell? ((⟨g,k,none⟩:Addr).add j)=some u:=by
 intro j u hj
 have hlt:j<(R.drop k).length:=by have:=(List.getElem?_eq_some_iff.1 hj).1;simpa [rowS] using this
 rw [List.length_drop] at hlt
 rw [rowS,List.getElem?_map,List.getElem?_drop,List.getElem?_eq_getElem (by omega)] at hj
 have e:=h (k+j) (by omega)
 rw [List.getD_eq_getElem?_getD,List.getElem?_eq_getElem (by omega)] at e
 have ea:((⟨g,k,none⟩:Addr).add j)=⟨g,k+j,none⟩:=by rw [Addr.add_lit]
 rw [ea,e]
 exact hj
set_option maxHeartbeats 4000000 in
theorem rrefs_any (b o cap:Nat) (l:List Nd) (w:World) (h30:l.length≤30) (hN:NdsAt w b o l) :
  Calls Tryz.prog 68 #[.slice (some ⟨b,o,none⟩) l.length cap] w fun e w'=>(∃ v R,e=.returned v∧w'.ownsRow w.heap.size 9 1 v R.length (rowS R)∧RefsTo l l.length R)∧Below w.heap.size w w':=by
 obtain ⟨i0,hi0,hz0,hz1,hz2⟩:=info_parts Tryz.infoStR
 have HN:Hid (NdsAt w b o l):=hN
 obtain ⟨n,hn⟩:∃ n,l.length=n:=⟨_,rfl⟩
 have HL:Hid (l.length=n):=hn
 rw [hn] at h30 ⊢
 have hni:(n:Int)≤30:=by omega
 clear hN hn
 go_enter Tryz.func68,Tryz.ntmps68
 go_wp2_with fail
 go_loopg [3,4] n (fun g s3 s4 wr => ∃ (i:Nat) (R:List ByteArray),i≤n∧g=n-i∧s4=.int .i64 i∧wr.ownsRow w.heap.size 9 1 s3 R.length (rowS R)∧RefsTo l i R∧Below w.heap.size w wr)
 case atStart=>exact ⟨0,[],Nat.zero_le _,rfl,rfl,World.ownsRow_nil _ _ _ _,refs_zero,Below.refl _ _⟩
 case round =>
  obtain ⟨i,R,hi,rfl,rfl,hown,hRef,hBw⟩:=hrel
  have HO:=hid_of hown
  have HRf:Hid (RefsTo l i R):=hRef
  have HW:Hid (Below w.heap.size w wr):=hBw
  have hRl:R.length≤30:=by have:=hRef.1;omega
  clear hRef hBw
  by_cases hlt:i<n
  ·have hii:(i:Int)<(n:Int):=by omega
   obtain ⟨x0,x1,x2,x3,x4⟩:=(HN.out.later HW.out).nd (k:=i) (by rw [HL.out];exact hlt)
   have hbl:b<wr.heap.size:=(HN.out.later HW.out).1
   obtain ⟨x,hx⟩:∃ x,l.getD i noN=x:=⟨_,rfl⟩
   have HX:Hid (l.getD i noN=x):=hx
   rw [hx] at x0 x2
   clear hx x1 x3 x4
   by_cases hop:x.op=2
   ·rw [hop] at x0
    have HOp:Hid ((l.getD i noN).op=2):=by show _=_;rw [HX.out];exact hop
    obtain ⟨nm,hnm⟩:∃ nm,x.name=nm:=⟨_,rfl⟩
    have HNm:Hid ((l.getD i noN).name=nm):=by show _=_;rw [HX.out];exact hnm
    rw [hnm] at x2
    clear hop hnm
    rcases row_str hown with ⟨hR0,rfl⟩ | ⟨g,cp,rfl,hgb,hgl,hcp,hcm,hcell⟩
    ·subst hR0
     clear hown
     go_wp2_with fail
     refine wp_loop_rounds 1 ?_
     rw [rounds_succ]
     go_wp2_with fail
     go_quiet (fail)
     obtain ⟨W1,hW1⟩:∃ W1,wr.drewN nq=W1:=⟨_,rfl⟩
     have hb1:Below wr.heap.size wr W1:=by rw [←hW1];exact below_drewN (Below.refl _ _) _
     have HB1:=hid_of (onB HW.out hb1)
     have y0:=(hb1.cell (p:=⟨b,o+i*5,none⟩) hbl).trans x0
     have y2:=(hb1.cell (p:=⟨b,o+i*5+2,none⟩) hbl).trans x2
     have hbl1:=Nat.lt_of_lt_of_le hbl hb1.size
     rw [hW1]
     clear hW1 hb1 x0 x2 hbl
     go_wp2_with fail
     go_quiet (fail)
     obtain ⟨W2,hW2⟩:∃ W2,W1.drewN nq=W2:=⟨_,rfl⟩
     have hb2:Below W1.heap.size W1 W2:=by rw [←hW2];exact below_drewN (Below.refl _ _) _
     have HB2:=hid_of (onB HB1.out hb2)
     have x0:=(hb2.cell (p:=⟨b,o+i*5,none⟩) hbl1).trans y0
     have x2:=(hb2.cell (p:=⟨b,o+i*5+2,none⟩) hbl1).trans y2
     have hbl:=Nat.lt_of_lt_of_le hbl1 hb2.size
     rw [hW2]
     clear hW2 hb2 y0 y2 hbl1
     go_wp2_with (at_builtin;first | (refine wpList_append_own_none rfl _ _ 113 rfl w.heap.size 9 i0 1 Tryz.underlying113 hi0 _ 0 [] rfl (World.ownsRow_nil _ _ _ _) rfl ?_) | (refine wpList_append_own_at _ rfl _ _ 113 rfl w.heap.size 9 i0 _ 1 16 Tryz.underlying113 hi0 hz0 hz1 hz2 rfl (by decide) _ 0 [] rfl (World.ownsRow_nil _ _ _ _) ⟨W2.heap.size,0,none⟩ 1 1 [.string nm] rfl rfl one_cell ?qc1 ?qc2 ?qc3 ?qc4 ?_))
     case qc1=>intro u hu;simp at hu;subst hu;rfl
     case qc2=>unfold maxLen;omega
     case qc3=>omega
     case qc4=>have:=HB2.out.size;simp;omega
     intro v3 w3 hown3 hgrow3 _ hat3
     have HB3:Hid (Below w.heap.size w w3):=(HB2.out.alloc HB2.out.size _).grown hgrow3 (by have:=HB2.out.size;simp;omega) (fun j hj=>by cases hj)
     have HO3:Hid (w3.ownsRow w.heap.size 9 1 v3 1 [.string nm]):=hown3
     clear hown3 hgrow3 hat3
     go_wp2_with (at_builtin;refine wpList_append_own_none rfl _ _ 113 rfl w.heap.size 9 i0 1 Tryz.underlying113 hi0 _ 1 _ rfl HO3.out rfl ?_)
     have HRn:=hid_of (refs_new HRf.out HOp.out 0)
     rw [HNm.out] at HRn
     go_wp2_with fail
     go_roundg (n-(i+1))
     case measure=>omega
     case rel=>exact ⟨i+1,[nm],by omega,rfl,by go_num,HO3.out,HRn.out,HB3.out⟩
    ·have hlen:=hRl
     obtain ⟨m,hm⟩:∃ m,R.length=m:=⟨_,rfl⟩
     have HM:Hid (R.length=m):=hm
     have hmi:(m:Int)≤30:=by omega
     rw [hm] at hcp hcell ⊢
     have hcpi:(m:Int)≤(cp:Int):=by omega
     have hcmi:(cp:Int)≤9223372036854775807:=by omega
     have HCell:=hid_of hcell
     clear hown hcell hm hlen
     go_wp2_with fail
     have X2:=hid_of x2
     clear x2
     obtain ⟨wo,rfl⟩:∃ wo:World,wo=wr:=⟨_,rfl⟩
     go_loopg [5] m (fun g' s5 ws => ∃ (k:Nat),k≤m∧g'=m-k∧s5=.int .i64 k∧Below wo.heap.size wo ws)
     case atStart=>exact ⟨0,Nat.zero_le _,rfl,rfl,Below.refl _ _⟩
     case round =>
      obtain ⟨k,hk,rfl,rfl,hBs⟩:=hrel
      have HBs:Hid (Below wo.heap.size wo wr):=hBs
      have x2':=(hBs.cell (p:=⟨b,o+i*5+2,none⟩) hbl).trans X2.out
      have hblr:=Nat.lt_of_lt_of_le hbl hBs.size
      have hglr:=Nat.lt_of_lt_of_le hgl hBs.size
      by_cases hkm:k<m
      ·have hki:(k:Int)<(m:Int):=by omega
       have c0:=(hBs.cell (p:=⟨g,k,none⟩) hgl).trans (HCell.out k hkm)
       obtain ⟨y,hy⟩:∃ y,R.getD k noS=y:=⟨_,rfl⟩
       have HY:=hid_of hy
       rw [hy] at c0
       clear hy hBs
       cases hls:Op.bytesLess y.toList nm.toList
       ·go_wp2_with fail
        go_quiet (fail)
        obtain ⟨W1,hW1⟩:∃ W1,wr.drewN nq=W1:=⟨_,rfl⟩
        have hbW1:Below wr.heap.size wr W1:=by rw [←hW1];exact below_drewN (Below.refl _ _) _
        have HS1:=hid_of hbW1
        have c1:=(hbW1.cell (p:=⟨g,k,none⟩) hglr).trans c0
        have x3:=(hbW1.cell (p:=⟨b,o+i*5+2,none⟩) hblr).trans x2'
        rw [hW1]
        clear hW1 hbW1 c0 x2' hls
        by_cases hyx:y=nm
        ·have HMem:Hid ((l.getD i noN).name∈R):=by
          show _∈R
          rw [HNm.out,←hyx,←HY.out,List.getD_eq_getElem?_getD,List.getElem?_eq_getElem (by rw [HM.out];exact hkm)]
          exact List.getElem_mem _
         subst hyx
         go_wp2_with fail
         go_quiet (fail)
         have HBq:Hid (Below w.heap.size w (W1.drewN nq)):=below_drewN (onB HW.out (onB HBs.out HS1.out)) _
         have HOq:=hid_of (own_later HO.out (below_drewN (onB HBs.out HS1.out) nq))
         rw [HM.out] at HOq
         go_wp2_with fail
         go_roundg (n-(i+1))
         case measure=>omega
         case rel=>exact ⟨i+1,R,by omega,rfl,by go_num,by rw [HM.out];exact HOq.out,refs_old HRf.out HOp.out HMem.out,HBq.out⟩
        ·have hne:=toLs_ne hyx
         clear hyx
         go_wp2_with fail
         go_quiet (fail)
         obtain ⟨W2,hW2⟩:∃ W2,W1.drewN nq=W2:=⟨_,rfl⟩
         have hbW2:Below W1.heap.size W1 W2:=by rw [←hW2];exact below_drewN (Below.refl _ _) _
         have HS2:Hid (Below wr.heap.size wr W2):=onB HS1.out hbW2
         rw [hW2]
         clear hW2 hbW2 c1 x3 hne
         have hck : ¬ cp=k:=by omega
         have KT:Hid (k≤m):=hk
         have H0:Hid (g<W2.heap.size):=Nat.lt_of_lt_of_le hgl (onB HBs.out HS2.out).size
         have HS2':=hid_of (onB HBs.out HS2.out)
         have hcelW:∀ j,j<R.length→W2.cell? ⟨g,j,none⟩=some (.string (R.getD j noS)):=fun j hj=>(HS2'.out.cell (p:=⟨g,j,none⟩) hgl).trans (HCell.out j (by rw [←HM.out];exact hj))
         have HCW:=hid_of hcelW
         have z2:=(HS2'.out.cell (p:=⟨b,o+i*5+2,none⟩) hbl).trans X2.out
         have HBW2:=hid_of (onB HW.out HS2'.out)
         have hblW:=Nat.lt_of_lt_of_le hbl HS2'.out.size
         clear hcelW
         go_wp2_with (at_builtin;refine wpList_append_own_at _ rfl _ _ 113 rfl w.heap.size 9 i0 _ 1 16 Tryz.underlying113 hi0 hz0 hz1 hz2 rfl (by decide) _ 0 [] rfl (World.ownsRow_nil _ _ _ _) ⟨g,0,none⟩ k cp (rowS (R.take k)) rfl ?qa0 ?qa1 ?qa2 ?qa3 ?qa4 ?qa5 ?_)
         case qa0=>rw [rowS,List.length_map,List.length_take,HM.out,Nat.mul_one];exact Nat.min_eq_left KT.out
         case qa1=>exact row_take HCW.out k
         case qa2=>exact row_one _
         case qa3=>unfold maxLen;omega
         case qa4=>omega
         case qa5=>exact HBW2.out.size
         intro v1 w1 hown1 hgrow1 _ hat1
         have Hat1:=hid_of hat1
         have hbG1:Below W2.heap.size W2 w1:=⟨hgrow1.os,hgrow1.tape,hgrow1.output,hgrow1.size,fun q hq=>hgrow1.block q hq (by simp [Value.ownBlock])⟩
         have HG1:=hid_of hbG1
         have HB1:=hid_of (onB HBW2.out hbG1)
         have HO1:Hid (w1.ownsRow w.heap.size 9 1 v1 k (rowS (R.take k))):=hown1
         have z3:=(hbG1.cell (p:=⟨b,o+i*5+2,none⟩) hblW).trans z2
         have hbl3:=Nat.lt_of_lt_of_le hblW hbG1.size
         clear hown1 hgrow1 hat1 hbG1 z2
         go_wp2_with (at_builtin;refine wpList_append_own_at _ rfl _ _ 113 rfl w.heap.size 9 i0 _ 1 16 Tryz.underlying113 hi0 hz0 hz1 hz2 rfl (by decide) _ k _ rfl (own_later HO1.out ?qb0) ⟨w1.heap.size,0,none⟩ 1 1 [.string nm] rfl rfl one_cell ?qb1 ?qb2 ?qb3 ?qb4 ?_)
         case qb0=>exact (Below.refl _ _).alloc (Nat.le_refl _) _
         case qb1=>intro u hu;simp at hu;subst hu;rfl
         case qb2=>unfold maxLen;omega
         case qb3=>omega
         case qb4=>have:=HB1.out.size;simp;omega
         intro v2 w2 hown2 hgrow2 _ hat2
         have hv1:∀ j,v1.ownBlock=some j→W2.heap.size≤j:=fun j hj=>by
          rcases Hat1.out with e | e
          ·rw [e] at hj;cases hj
          ·rw [e] at hj;cases hj;exact Nat.le_refl _
         have HB2:Hid (Below w.heap.size w w2):=(HB1.out.alloc HB1.out.size _).grown hgrow2 (by have:=HB1.out.size;simp;omega) (fun j hj=>by have:=hv1 j hj;have:=HBW2.out.size;omega)
         have HG2:Hid (Below W2.heap.size W2 w2):=(HG1.out.alloc HG1.out.size _).grown hgrow2 (by have:=HG1.out.size;simp;omega) (fun j hj=>hv1 j hj)
         have HO2:Hid (w2.ownsRow w.heap.size 9 1 v2 (k+1) (rowS (R.take k) ++ [.string nm])):=hown2
         have hv2:∀ j,v2.ownBlock=some j→W2.heap.size≤j:=fun j hj=>by
          rcases hat2 with e | e
          ·exact hv1 j (by rw [←e];exact hj)
          ·rw [e] at hj
           cases hj
           have:=HG1.out.size
           first | omega | (simp;omega)
         have Hv2:=hid_of hv2
         have hcel3:∀ j,j<R.length→w2.cell? ⟨g,j,none⟩=some (.string (R.getD j noS)):=fun j hj=>(HG2.out.cell (p:=⟨g,j,none⟩) H0.out).trans (HCW.out j hj)
         have HC3:=hid_of hcel3
         clear hown2 hgrow2 hat2 hv1 hv2 hcel3 z3
         go_wp2_with (at_builtin;refine wpList_append_own_at _ rfl _ _ 113 rfl w.heap.size 9 i0 _ 1 16 Tryz.underlying113 hi0 hz0 hz1 hz2 rfl (by decide) _ (k+1) _ rfl HO2.out ⟨g,k,none⟩ (m-k) (cp-k) (rowS (R.drop k)) rfl ?qd0 ?qd1 ?qd2 ?qd3 ?qd4 ?qd5 ?_)
         case qd0=>rw [rowS,List.length_map,List.length_drop,HM.out,Nat.mul_one]
         case qd1=>exact row_drop HC3.out k
         case qd2=>exact row_one _
         case qd3=>unfold maxLen;omega
         case qd4=>omega
         case qd5=>exact HB2.out.size
         intro v4 w4 hown4 hgrow4 _ hat4
         have HB4:Hid (Below w.heap.size w w4):=HB2.out.grown hgrow4 HB2.out.size (fun j hj=>by have:=Hv2.out j hj;have:=HBW2.out.size;omega)
         have HO4:Hid (w4.ownsRow w.heap.size 9 1 v4 (R.take k ++ [nm] ++ R.drop k).length (rowS (R.take k ++ [nm] ++ R.drop k))):=by
          have e1:(R.take k ++ [nm] ++ R.drop k).length=k+1+(m-k):=by
           rw [List.length_append,List.length_append,List.length_take,List.length_drop,HM.out,Nat.min_eq_left KT.out];rfl
          have e2:rowS (R.take k ++ [nm] ++ R.drop k)=rowS (R.take k) ++ .string nm :: rowS (R.drop k):=by simp [rowS]
          show World.ownsRow ..
          rw [e1,e2]
          exact hown4
         have HRn:=hid_of (refs_new HRf.out HOp.out k)
         rw [HNm.out] at HRn
         clear hown4 hgrow4 hat4
         go_wp2_with fail
         go_roundg (n-(i+1))
         case measure=>omega
         case rel=>exact ⟨i+1,_,by omega,rfl,by go_num,HO4.out,HRn.out,HB4.out⟩
       ·go_wp2_with fail
        go_quiet (fail)
        have HBq:Hid (Below wo.heap.size wo (wr.drewN nq)):=below_drewN HBs.out _
        go_wp2_with fail
        go_roundg (m-(k+1))
        case measure=>omega
        case rel=>exact ⟨k+1,by omega,rfl,by go_num,HBq.out⟩
      ·have hke:k=m:=by omega
       subst hke
       clear hBs
       go_wp2_with fail
       go_quiet (fail)
       obtain ⟨W1,hW1⟩:∃ W1,wr.drewN nq=W1:=⟨_,rfl⟩
       have hbW1:Below wr.heap.size wr W1:=by rw [←hW1];exact below_drewN (Below.refl _ _) _
       have HS1:=hid_of hbW1
       have x3:=(hbW1.cell (p:=⟨b,o+i*5+2,none⟩) hblr).trans x2'
       rw [hW1]
       clear hW1 hbW1 x2'
       go_wp2_with fail
       go_quiet (fail)
       obtain ⟨W2,hW2⟩:∃ W2,W1.drewN nq=W2:=⟨_,rfl⟩
       have hbW2:Below W1.heap.size W1 W2:=by rw [←hW2];exact below_drewN (Below.refl _ _) _
       have HS2:Hid (Below wr.heap.size wr W2):=onB HS1.out hbW2
       rw [hW2]
       clear hW2 hbW2 x3
       have KT:Hid (k≤k):=Nat.le_refl _
       have H0:Hid (g<W2.heap.size):=Nat.lt_of_lt_of_le hgl (onB HBs.out HS2.out).size
       have HS2':=hid_of (onB HBs.out HS2.out)
       have hcelW:∀ j,j<R.length→W2.cell? ⟨g,j,none⟩=some (.string (R.getD j noS)):=fun j hj=>(HS2'.out.cell (p:=⟨g,j,none⟩) hgl).trans (HCell.out j (by rw [←HM.out];exact hj))
       have HCW:=hid_of hcelW
       have z2:=(HS2'.out.cell (p:=⟨b,o+i*5+2,none⟩) hbl).trans X2.out
       have HBW2:=hid_of (onB HW.out HS2'.out)
       have hblW:=Nat.lt_of_lt_of_le hbl HS2'.out.size
       clear hcelW
       go_wp2_with (at_builtin;refine wpList_append_own_at _ rfl _ _ 113 rfl w.heap.size 9 i0 _ 1 16 Tryz.underlying113 hi0 hz0 hz1 hz2 rfl (by decide) _ 0 [] rfl (World.ownsRow_nil _ _ _ _) ⟨g,0,none⟩ k cp (rowS (R.take k)) rfl ?qa0 ?qa1 ?qa2 ?qa3 ?qa4 ?qa5 ?_)
       case qa0=>rw [rowS,List.length_map,List.length_take,HM.out,Nat.mul_one];exact Nat.min_eq_left KT.out
       case qa1=>exact row_take HCW.out k
       case qa2=>exact row_one _
       case qa3=>unfold maxLen;omega
       case qa4=>omega
       case qa5=>exact HBW2.out.size
       intro v1 w1 hown1 hgrow1 _ hat1
       have Hat1:=hid_of hat1
       have hbG1:Below W2.heap.size W2 w1:=⟨hgrow1.os,hgrow1.tape,hgrow1.output,hgrow1.size,fun q hq=>hgrow1.block q hq (by simp [Value.ownBlock])⟩
       have HG1:=hid_of hbG1
       have HB1:=hid_of (onB HBW2.out hbG1)
       have HO1:Hid (w1.ownsRow w.heap.size 9 1 v1 k (rowS (R.take k))):=hown1
       have z3:=(hbG1.cell (p:=⟨b,o+i*5+2,none⟩) hblW).trans z2
       have hbl3:=Nat.lt_of_lt_of_le hblW hbG1.size
       clear hown1 hgrow1 hat1 hbG1 z2
       go_wp2_with (at_builtin;refine wpList_append_own_at _ rfl _ _ 113 rfl w.heap.size 9 i0 _ 1 16 Tryz.underlying113 hi0 hz0 hz1 hz2 rfl (by decide) _ k _ rfl (own_later HO1.out ?qb0) ⟨w1.heap.size,0,none⟩ 1 1 [.string nm] rfl rfl one_cell ?qb1 ?qb2 ?qb3 ?qb4 ?_)
       case qb0=>exact (Below.refl _ _).alloc (Nat.le_refl _) _
       case qb1=>intro u hu;simp at hu;subst hu;rfl
       case qb2=>unfold maxLen;omega
       case qb3=>omega
       case qb4=>have:=HB1.out.size;simp;omega
       intro v2 w2 hown2 hgrow2 _ hat2
       have hv1:∀ j,v1.ownBlock=some j→W2.heap.size≤j:=fun j hj=>by
        rcases Hat1.out with e | e
        ·rw [e] at hj;cases hj
        ·rw [e] at hj;cases hj;exact Nat.le_refl _
       have HB2:Hid (Below w.heap.size w w2):=(HB1.out.alloc HB1.out.size _).grown hgrow2 (by have:=HB1.out.size;simp;omega) (fun j hj=>by have:=hv1 j hj;have:=HBW2.out.size;omega)
       have HG2:Hid (Below W2.heap.size W2 w2):=(HG1.out.alloc HG1.out.size _).grown hgrow2 (by have:=HG1.out.size;simp;omega) (fun j hj=>hv1 j hj)
       have HO2:Hid (w2.ownsRow w.heap.size 9 1 v2 (k+1) (rowS (R.take k) ++ [.string nm])):=hown2
       have hv2:∀ j,v2.ownBlock=some j→W2.heap.size≤j:=fun j hj=>by
        rcases hat2 with e | e
        ·exact hv1 j (by rw [←e];exact hj)
        ·rw [e] at hj
         cases hj
         have:=HG1.out.size
         first | omega | (simp;omega)
       have Hv2:=hid_of hv2
       have hcel3:∀ j,j<R.length→w2.cell? ⟨g,j,none⟩=some (.string (R.getD j noS)):=fun j hj=>(HG2.out.cell (p:=⟨g,j,none⟩) H0.out).trans (HCW.out j hj)
       have HC3:=hid_of hcel3
       clear hown2 hgrow2 hat2 hv1 hv2 hcel3 z3
       by_cases hcc:cp=k
       ·obtain ⟨A2,c2,hv2e⟩:=own_form HO2.out
        subst hv2e
        go_wp2_with (at_builtin;(refine wpList_append_own_at _ rfl _ _ 113 rfl w.heap.size 9 i0 _ 1 16 Tryz.underlying113 hi0 hz0 hz1 hz2 rfl (by decide) _ (k+1) _ rfl HO2.out ⟨g,0,none⟩ 0 0 [] rfl rfl ?qd1 ?qd2 ?qd3 ?qd4 ?qd5 ?_))
        case qd1=>intro j u hj;simp at hj
        case qd2=>intro u hu;simp at hu
        case qd3=>unfold maxLen;omega
        case qd4=>omega
        case qd5=>exact HB2.out.size
        intro v4 w4 hown4 hgrow4 _ hat4
        have HB4:Hid (Below w.heap.size w w4):=HB2.out.grown hgrow4 HB2.out.size (fun j hj=>by have:=Hv2.out j hj;have:=HBW2.out.size;omega)
        have HO4:Hid (w4.ownsRow w.heap.size 9 1 v4 (R.take k ++ [nm] ++ R.drop k).length (rowS (R.take k ++ [nm] ++ R.drop k))):=by
         have e0:R.drop k=[]:=List.drop_eq_nil_of_le (by rw [HM.out];exact Nat.le_refl _)
         have e1:(R.take k ++ [nm] ++ R.drop k).length=k+1:=by
          rw [e0,List.append_nil,List.length_append,List.length_take,HM.out,Nat.min_self];rfl
         have e2:rowS (R.take k ++ [nm] ++ R.drop k)=rowS (R.take k) ++ [.string nm]:=by rw [e0];simp [rowS]
         show World.ownsRow ..
         rw [e1,e2]
         exact hown4
        have HRn:=hid_of (refs_new HRf.out HOp.out k)
        rw [HNm.out] at HRn
        clear hown4 hgrow4 hat4
        go_wp2_with fail
        go_roundg (n-(i+1))
        case measure=>omega
        case rel=>exact ⟨i+1,_,by omega,rfl,by go_num,HO4.out,HRn.out,HB4.out⟩
       ·go_wp2_with (at_builtin;(refine wpList_append_own_at _ rfl _ _ 113 rfl w.heap.size 9 i0 _ 1 16 Tryz.underlying113 hi0 hz0 hz1 hz2 rfl (by decide) _ (k+1) _ rfl HO2.out ⟨g,k,none⟩ 0 (cp-k) [] rfl rfl ?qd1 ?qd2 ?qd3 ?qd4 ?qd5 ?_))
        case qd1=>intro j u hj;simp at hj
        case qd2=>intro u hu;simp at hu
        case qd3=>unfold maxLen;omega
        case qd4=>omega
        case qd5=>exact HB2.out.size
        intro v4 w4 hown4 hgrow4 _ hat4
        have HB4:Hid (Below w.heap.size w w4):=HB2.out.grown hgrow4 HB2.out.size (fun j hj=>by have:=Hv2.out j hj;have:=HBW2.out.size;omega)
        have HO4:Hid (w4.ownsRow w.heap.size 9 1 v4 (R.take k ++ [nm] ++ R.drop k).length (rowS (R.take k ++ [nm] ++ R.drop k))):=by
         have e0:R.drop k=[]:=List.drop_eq_nil_of_le (by rw [HM.out];exact Nat.le_refl _)
         have e1:(R.take k ++ [nm] ++ R.drop k).length=k+1:=by
          rw [e0,List.append_nil,List.length_append,List.length_take,HM.out,Nat.min_self];rfl
         have e2:rowS (R.take k ++ [nm] ++ R.drop k)=rowS (R.take k) ++ [.string nm]:=by rw [e0];simp [rowS]
         show World.ownsRow ..
         rw [e1,e2]
         exact hown4
        have HRn:=hid_of (refs_new HRf.out HOp.out k)
        rw [HNm.out] at HRn
        clear hown4 hgrow4 hat4
        go_wp2_with fail
        go_roundg (n-(i+1))
        case measure=>omega
        case rel=>exact ⟨i+1,_,by omega,rfl,by go_num,HO4.out,HRn.out,HB4.out⟩
   ·have hne:(x.op != 2)=true:=by simpa using hop
    have HOp:Hid ((l.getD i noN).op≠2):=by show _≠_;rw [HX.out];exact hop
    clear hop hown
    go_wp2_with fail
    go_roundg (n-(i+1))
    case measure=>omega
    case rel=>exact ⟨i+1,R,by omega,rfl,by go_num,HO.out,refs_skip HRf.out HOp.out,HW.out⟩
  ·have hie:i=n:=by omega
   subst hie
   clear hown
   go_wp2_with fail
   go_ret
   exact ⟨⟨_,R,rfl,HO.out,HRf.out⟩,HW.out⟩
end Go.Proofs.YtigkeokacagabafGreatDoor
