/-
  The document's own lists of numbers that rise: put, in whatever memory.
-/
import Derived.Laws.AppendOwnNone
import Derived.Test.YtinebmjpdkjooaaGreatDoorJZBG
namespace Go.Proofs.YtinebmjpdkjooaaGreatDoor
open Go.ChangeShapes Go.WideShapes Go.ChangeAt Go.RowKit
set_option maxRecDepth 20000
def RiseV (w:World) (A:Option Addr) (c:Nat) (L:List Int):Prop:=(L=[]∧A=none∧c=0)∨(L≠[]∧IntT w A c L)
theorem RiseV.later {w w':World} {A:Option Addr} {c:Nat} {L:List Int} (h:RiseV w A c L) (hB:Below w.heap.size w w'):RiseV w' A c L:=by
 rcases h with h | ⟨h1,h⟩
 ·exact Or.inl h
 ·exact Or.inr ⟨h1,h.later hB⟩
theorem RiseV.nil (w:World):RiseV w none 0 []:=Or.inl ⟨rfl,rfl,rfl⟩
theorem RiseV.intT {w:World} {A:Option Addr} {c:Nat} {L:List Int} (h:RiseV w A c L):IntT w A c L:=by
 rcases h with ⟨rfl,-,rfl⟩ | ⟨-,h⟩
 ·exact IntT.nil _ _ _ (by omega)
 ·exact h
theorem IntT.pl {w:World} {A:Option Addr} {c:Nat} {L:List Int} (h:IntT w A c L):PlAt w A c L:=by
 obtain ⟨h1,-,h2 | ⟨b,cs,fr,h2,h3,h4⟩⟩:=h
 ·exact ⟨h1,Or.inl h2⟩
 ·exact ⟨h1,Or.inr ⟨b,0,h2,(Array.getElem?_eq_some_iff.1 h3).1,fun j hj=>by rw [Nat.zero_add];exact h4 j hj⟩⟩
theorem ints_ones {L:List Int}:∀ u∈L.map (Value.int .i64),u.oneCell'=true:=by
 intro u hu
 simp at hu
 obtain ⟨x,-,rfl⟩:=hu
 rfl
set_option maxHeartbeats 4000000 in
theorem put_any (A:Option Addr) (cap:Nat) (L:List Int) (n:Int) (w:World) (h63:L.length≤1000000) (hL:RiseV w A cap L):Calls Tryz.prog 83 #[.slice A L.length cap,.int .i64 n] w fun e w'=>(∃ A' c',e=.returned (.slice A' (putL L n).length c')∧RiseV w' A' c' (putL L n))∧Below w.heap.size w w':=by
 obtain ⟨i0,hi0,hz0,hz1,hz2⟩:=info_parts Tryz.infoIntF
 have hPl:=hL.intT.pl
 have hc63:cap≤9223372036854775807:=hL.intT.2.1
 have HRs:Hid (RiseV w A cap L):=hL
 rcases hL with ⟨rfl,rfl,rfl⟩ | ⟨hne,-⟩
 ·show Calls Tryz.prog 83 #[.slice none 0 0,.int .i64 n] w _
  go_enter Tryz.func83,Tryz.ntmps83
  go_wp2_with fail
  refine wp_loop_rounds 1 ?_
  rw [rounds_succ]
  go_wp2_with (first
   | (at_builtin;refine wpList_append_own_none rfl _ _ 48 rfl w.heap.size 3 i0 1 Tryz.underlying48 hi0 _ 0 _ rfl (World.ownsRow_nil w w.heap.size 3 1) rfl ?_)
   | (at_builtin;refine wpList_append_own_at _ rfl _ _ 48 rfl w.heap.size 3 i0 _ 1 8 Tryz.underlying48 hi0 hz0 hz1 hz2 rfl (by decide) _ 0 [] rfl (World.ownsRow_nil _ w.heap.size 3 1) ⟨w.heap.size,0,none⟩ 1 1 [.int .i64 n] rfl rfl ?qc1 ?qc2 ?qc3 ?qc4 ?qc5 ?_))
  case qc1=>exact cell_one_new _ _ _
  case qc2=>intro u hu;simp at hu;subst hu;rfl
  case qc3=>unfold maxLen;omega
  case qc4=>omega
  case qc5=>simp
  intro v1 w1 hown hgrow _ _
  have HB1:Hid (Below w.heap.size w w1):=((Below.refl _ _).alloc (Nat.le_refl _) _).grown hgrow (by simp) (fun j hj=>by cases hj)
  have hown1:w1.ownsRow w.heap.size 3 1 v1 1 [.int .i64 n]:=hown
  have HP1:=hid_of (intT_own (L:=[n]) hown1)
  clear hown hgrow
  go_wp2_with (at_builtin;refine wpList_append_own_none rfl _ _ 48 rfl w.heap.size 3 i0 1 Tryz.underlying48 hi0 _ 1 _ rfl hown1 rfl ?_)
  go_ret
  obtain ⟨A1,c1,rfl,hP⟩:=HP1.out
  exact ⟨⟨A1,c1,rfl,Or.inr ⟨by simp [putL],hP⟩⟩,HB1.out⟩
 ·obtain ⟨hc,h0 | ⟨b,o,rfl,hb,hcell⟩⟩:=hPl
  ·exact absurd h0 hne
  obtain ⟨m,hm⟩:∃ m,L.length=m:=⟨_,rfl⟩
  have HM:=hid_of hm
  have HC:=hid_of hcell
  rw [hm]
  have hmi:(m:Int)≤1000000:=by omega
  have hci:(cap:Int)≤9223372036854775807:=by omega
  have hmc:(m:Int)≤(cap:Int):=by omega
  clear hcell
  go_enter Tryz.func83,Tryz.ntmps83
  go_upto_block 0 with fail
  go_cut [5] from 7 (fun s5 wx=>(∃ k:Nat,k≤m∧s5=.int .i64 k∧(∀ i,i<k→L.getD i 0<n)∧(k=m∨n≤L.getD k 0))∧wx=w)
  case first =>
   go_wp2_with fail
   go_loopg [5] m (fun g s5 wr => ∃ (k:Nat),k≤m∧g=m-k∧s5=.int .i64 k∧(∀ i,i<k→L.getD i 0<n)∧wr=w)
   case atStart=>exact ⟨0,Nat.zero_le _,rfl,rfl,fun i hi=>absurd hi (Nat.not_lt_zero i),rfl⟩
   case round =>
    obtain ⟨k,hk,rfl,rfl,hf,rfl⟩:=hrel
    have HF:=hid_of hf
    clear hf
    by_cases hlt:k<m
    ·have hki:(k:Int)<(m:Int):=by omega
     have hcx:=HC.out k (by omega)
     obtain ⟨x,hx⟩:∃ x,L.getD k 0=x:=⟨_,rfl⟩
     have HXx:=hid_of hx
     rw [hx] at hcx
     clear hx
     by_cases hxn:x<n
     ·have HAll:Hid (∀ i,i<k+1→L.getD i 0<n):=fun i hi=>by
       by_cases e:i=k
       ·rw [e,HXx.out];exact hxn
       ·exact HF.out i (by omega)
      go_wp2_with fail
      go_roundg (m-(k+1))
      case measure=>omega
      case rel=>exact ⟨k+1,by omega,rfl,by go_num,HAll.out,rfl⟩
     ·have hd1:decide (x<n)=false:=decide_eq_false hxn
      have HGe:Hid (n≤L.getD k 0):=by show _≤_;rw [HXx.out];omega
      clear hxn
      go_wp2_with fail
      go_meet
      exact ⟨⟨k,hk,rfl,HF.out,Or.inr HGe.out⟩,rfl⟩
    ·have hke:k=m:=by omega
     subst hke
     go_wp2_with fail
     go_meet
     exact ⟨⟨k,Nat.le_refl _,rfl,HF.out,Or.inl rfl⟩,rfl⟩
  case rest =>
   obtain ⟨⟨k,hk,rfl,hf,hge⟩,hwc⟩:=hcut
   subst hwc
   have hki:(k:Int)≤(m:Int):=by omega
   have HPut:=hid_of (putL_at L n k (by omega) hf (by rw [hm];exact hge))
   have HMc:=hid_of hc
   clear hf
   by_cases heq:k<m∧L.getD k 0=n
   ·obtain ⟨hlt,hxe⟩:=heq
    have HE:Hid (putL L n=L):=by show _=_;rw [HPut.out,if_pos ⟨by omega,hxe⟩]
    have hki2:(k:Int)<(m:Int):=by omega
    have hcx:=HC.out k (by omega)
    rw [hxe] at hcx
    clear hxe hge
    go_wp2_with fail
    go_ret
    rw [HE.out]
    exact ⟨⟨some ⟨b,o,none⟩,cap,by rw [HM.out];rfl,HRs.out⟩,Below.refl _ _⟩
   ·have HE:Hid (putL L n=L.take k ++ [n] ++ L.drop k):=by show _=_;rw [HPut.out,if_neg (by rw [hm];exact heq)]
    obtain ⟨w0,rfl⟩:∃ wx:World,wx=wc:=⟨_,rfl⟩
    have hkn:k≤L.length:=by omega
    have hk63:k≤1000000:=by omega
    have hkc:(k:Int)≤(cap:Int):=by omega
    have HTk:Hid (∀ w',Below w0.heap.size w0 w'→∀ j u,((L.take k).map (Value.int .i64))[j]?=some u→w'.cell? ((⟨b,o,none⟩:Addr).add j)=some u):=fun w' hB=>by
     have h:=mapI_cells (w:=w') (b:=b) (o:=o) (L:=L) (fun j hj=>(hB.cell (p:=⟨b,o+j,none⟩) hb).trans (HC.out j hj)) 0 k (by omega)
     exact h
    have HDk:Hid (∀ w',Below w0.heap.size w0 w'→∀ j u,((L.drop k).map (Value.int .i64))[j]?=some u→w'.cell? ((⟨b,o+k,none⟩:Addr).add j)=some u):=fun w' hB=>by
     have h:=mapI_cells (w:=w') (b:=b) (o:=o) (L:=L) (fun j hj=>(hB.cell (p:=⟨b,o+j,none⟩) hb).trans (HC.out j hj)) k (L.length-k) (by omega)
     rw [List.take_of_length_le (by simp)] at h
     exact h
    rcases Nat.lt_or_ge k m with hlt | hgek
    ·have hki2:(k:Int)<(m:Int):=by omega
     have hcx:=HC.out k (by omega)
     obtain ⟨x,hx⟩:∃ x,L.getD k 0=x:=⟨_,rfl⟩
     have hxn:(x == n)=false:=by
      have:x≠n:=fun e=>heq ⟨hlt,hx.trans e⟩
      simpa using this
     rw [hx] at hcx
     clear hx heq hge
     go_upto_region 7 with fail
     go_wp2_with (at_builtin;refine wpList_append_own_at _ rfl _ _ 48 rfl w0.heap.size 3 i0 _ 1 8 Tryz.underlying48 hi0 hz0 hz1 hz2 rfl (by decide) _ 0 [] rfl (World.ownsRow_nil _ w0.heap.size 3 1) ⟨b,o,none⟩ k cap ((L.take k).map (Value.int .i64)) rfl ?qc0 ?qc1 ?qc2 ?qc3 ?qc4 ?qc5 ?_)
     case qc0=>simp;omega
     case qc1=>exact HTk.out _ (Below.refl _ _)
     case qc2=>exact ints_ones
     case qc3=>unfold maxLen;omega
     case qc4=>omega
     case qc5=>exact Nat.le_refl _
     intro v1 w1 hown hgrow _ _
     have hb1:Below w0.heap.size w0 w1:=(Below.refl _ _).grown hgrow (Nat.le_refl _) (fun j hj=>by cases hj)
     have hown1:w1.ownsRow w0.heap.size 3 1 v1 k ((L.take k).map (Value.int .i64)):=by simpa using hown
     have HB1:=hid_of hb1
     have HO1:=hid_of hown1
     have hs1:=hb1.size
     clear hown hgrow hb1 hown1 hcx
     go_wp2_with (at_builtin;refine wpList_append_own_at _ rfl _ _ 48 rfl w0.heap.size 3 i0 _ 1 8 Tryz.underlying48 hi0 hz0 hz1 hz2 rfl (by decide) _ k ((L.take k).map (Value.int .i64)) rfl (own_later HO1.out ((Below.refl _ _).alloc (Nat.le_refl _) _)) ⟨w1.heap.size,0,none⟩ 1 1 [.int .i64 n] rfl rfl ?qd1 ?qd2 ?qd3 ?qd4 ?qd5 ?_)
     case qd1=>exact cell_one_new _ _ _
     case qd2=>intro u hu;simp at hu;subst hu;rfl
     case qd3=>unfold maxLen;omega
     case qd4=>omega
     case qd5=>simp;omega
     intro v2 w2 hown hgrow _ _
     have hb2:Below w0.heap.size w0 w2:=(HB1.out.alloc hs1 _).grown hgrow (by simp;omega) (fun j hj=>(HO1.out.lt j hj).1)
     have HB2:=hid_of hb2
     have hown2:w2.ownsRow w0.heap.size 3 1 v2 (k+1) ((L.take k ++ [n]).map (Value.int .i64)):=by simpa [List.map_append] using hown
     have HO2:=hid_of hown2
     have hs2:=hb2.size
     clear hown hgrow hb2 hown2
     go_wp2_with (at_builtin;refine wpList_append_own_at _ rfl _ _ 48 rfl w0.heap.size 3 i0 _ 1 8 Tryz.underlying48 hi0 hz0 hz1 hz2 rfl (by decide) _ (k+1) ((L.take k ++ [n]).map (Value.int .i64)) rfl HO2.out ⟨b,o+k,none⟩ (m-k) (cap-k) ((L.drop k).map (Value.int .i64)) rfl ?qe0 ?qe1 ?qe2 ?qe3 ?qe4 ?qe5 ?_)
     case qe0=>simp;omega
     case qe1=>exact HDk.out _ HB2.out
     case qe2=>exact ints_ones
     case qe3=>unfold maxLen;omega
     case qe4=>omega
     case qe5=>exact hs2
     intro v3 w3 hown hgrow _ _
     have HB3:Hid (Below w0.heap.size w0 w3):=HB2.out.grown hgrow hs2 (fun j hj=>(HO2.out.lt j hj).1)
     have hlen:(L.take k ++ [n] ++ L.drop k).length=k+1+(m-k):=by simp;omega
     have hown3:w3.ownsRow w0.heap.size 3 1 v3 (L.take k ++ [n] ++ L.drop k).length ((L.take k ++ [n] ++ L.drop k).map (Value.int .i64)):=by
      rw [hlen]
      simpa [List.map_append] using hown
     have HP3:=hid_of (intT_own (L:=L.take k ++ [n] ++ L.drop k) hown3)
     clear hown hgrow hown3 hlen
     go_wp2_with fail
     go_ret
     obtain ⟨A3,c3,rfl,hP⟩:=HP3.out
     rw [HE.out]
     exact ⟨⟨A3,c3,rfl,Or.inr ⟨by simp,hP⟩⟩,HB3.out⟩
    ·have hke:k=m:=by omega
     subst hke
     clear heq hge
     obtain ⟨ad,had⟩:∃ ad:Addr,(if cap=k then some (⟨b,o,none⟩:Addr) else some ⟨b,o+k,none⟩)=some ad:=by split <;> exact ⟨_,rfl⟩
     have HAd:=hid_of had
     clear had
     go_upto_region 7 with fail
     go_wp2_with (at_builtin;refine wpList_append_own_at _ rfl _ _ 48 rfl w0.heap.size 3 i0 _ 1 8 Tryz.underlying48 hi0 hz0 hz1 hz2 rfl (by decide) _ 0 [] rfl (World.ownsRow_nil _ w0.heap.size 3 1) ⟨b,o,none⟩ k cap ((L.take k).map (Value.int .i64)) rfl ?qc0 ?qc1 ?qc2 ?qc3 ?qc4 ?qc5 ?_)
     case qc0=>simp;omega
     case qc1=>exact HTk.out _ (Below.refl _ _)
     case qc2=>exact ints_ones
     case qc3=>unfold maxLen;omega
     case qc4=>omega
     case qc5=>exact Nat.le_refl _
     intro v1 w1 hown hgrow _ _
     have hb1:Below w0.heap.size w0 w1:=(Below.refl _ _).grown hgrow (Nat.le_refl _) (fun j hj=>by cases hj)
     have hown1:w1.ownsRow w0.heap.size 3 1 v1 k ((L.take k).map (Value.int .i64)):=by simpa using hown
     have HB1:=hid_of hb1
     have HO1:=hid_of hown1
     have hs1:=hb1.size
     clear hown hgrow hb1 hown1
     go_wp2_with (at_builtin;refine wpList_append_own_at _ rfl _ _ 48 rfl w0.heap.size 3 i0 _ 1 8 Tryz.underlying48 hi0 hz0 hz1 hz2 rfl (by decide) _ k ((L.take k).map (Value.int .i64)) rfl (own_later HO1.out ((Below.refl _ _).alloc (Nat.le_refl _) _)) ⟨w1.heap.size,0,none⟩ 1 1 [.int .i64 n] rfl rfl ?qd1 ?qd2 ?qd3 ?qd4 ?qd5 ?_)
     case qd1=>exact cell_one_new _ _ _
     case qd2=>intro u hu;simp at hu;subst hu;rfl
     case qd3=>unfold maxLen;omega
     case qd4=>omega
     case qd5=>simp;omega
     intro v2 w2 hown hgrow _ _
     have hb2:Below w0.heap.size w0 w2:=(HB1.out.alloc hs1 _).grown hgrow (by simp;omega) (fun j hj=>(HO1.out.lt j hj).1)
     have HB2:=hid_of hb2
     have hown2:w2.ownsRow w0.heap.size 3 1 v2 (k+1) ((L.take k ++ [n]).map (Value.int .i64)):=by simpa [List.map_append] using hown
     have HO2:=hid_of hown2
     have hs2:=hb2.size
     clear hown hgrow hb2 hown2
     go_wp2_with (at_builtin;refine wpList_append_own_at _ rfl _ _ 48 rfl w0.heap.size 3 i0 _ 1 8 Tryz.underlying48 hi0 hz0 hz1 hz2 rfl (by decide) _ (k+1) ((L.take k ++ [n]).map (Value.int .i64)) rfl HO2.out ad 0 (cap-k) [] (by rw [←HAd.out];rfl) ?qe0 ?qe1 ?qe2 ?qe3 ?qe4 ?qe5 ?_)
     case qe0=>rfl
     case qe1=>intro j u hj;simp at hj
     case qe2=>intro u hu;simp at hu
     case qe3=>unfold maxLen;omega
     case qe4=>omega
     case qe5=>exact hs2
     all_goals
      intro v3 w3 hown hgrow _ _
      have HB3:Hid (Below w0.heap.size w0 w3):=HB2.out.grown hgrow hs2 (fun j hj=>(HO2.out.lt j hj).1)
      have hdr:L.drop k=[]:=List.drop_of_length_le (by omega)
      have hlen:(L.take k ++ [n] ++ L.drop k).length=k+1:=by rw [hdr];simp;omega
      have hown3:w3.ownsRow w0.heap.size 3 1 v3 (L.take k ++ [n] ++ L.drop k).length ((L.take k ++ [n] ++ L.drop k).map (Value.int .i64)):=by
       rw [hlen,hdr]
       simpa [List.map_append] using hown
      have HP3:=hid_of (intT_own (L:=L.take k ++ [n] ++ L.drop k) hown3)
      clear hown hgrow hown3 hlen
      go_wp2_with fail
      go_ret
      obtain ⟨A3,c3,rfl,hP⟩:=HP3.out
      rw [HE.out]
      exact ⟨⟨A3,c3,rfl,Or.inr ⟨by simp,hP⟩⟩,HB3.out⟩
end Go.Proofs.YtinebmjpdkjooaaGreatDoor
