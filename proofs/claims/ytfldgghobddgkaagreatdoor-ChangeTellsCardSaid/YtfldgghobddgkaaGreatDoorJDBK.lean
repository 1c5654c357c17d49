/-
  The document's own text of a formula's node (tallyref2.Text): the text of its tree.
-/
import Derived.Test.YtfldgghobddgkaaGreatDoorShelfG
import Derived.Laws.Cover1
import Derived.BigRegion
import Derived.Deep.RegionWith
import Derived.Lib.AppendZerosOnto
import Derived.Test.YtfldgghobddgkaaGreatDoorJDBI
namespace Go.Proofs.YtfldgghobddgkaaGreatDoor
open Go.ChangeShapes Go.WideShapes Go.ChangeAt Go.RowKit
set_option maxRecDepth 20000
theorem tre_size {l:List Nd} (hl:RightL l) (h30:l.length≤30) {i:Nat} (hi:i<l.length):(treT (treeOf l i)).size≤107374182400:=by
 have h:=texts_size hl l.length (Nat.le_refl _) i
 rw [texts_tree hl l.length (Nat.le_refl _) i hi] at h
 have h2:2 ^ l.length≤2 ^ 30:=Nat.pow_le_pow_right (by omega) h30
 have h3:(2:Nat) ^ 30=1073741824:=by decide
 omega
theorem later_cell {w w':World} {b o:Nat} {x:Value} (h:w.cell? ⟨b,o,none⟩=some x) (hB:Below w.heap.size w w'):w'.cell? ⟨b,o,none⟩=some x:=(hB.cell (p:=⟨b,o,none⟩) (World.block_lt_of_cell? _ _ h)).trans h
set_option maxHeartbeats 8000000 in
theorem rtext_len (b o cap:Nat) (l:List Nd) (hl:RightL l) (h30:l.length≤30):∀ i,i<l.length→∀ (w:World),NdsAt w b o l →
  Calls Tryz.prog 18 #[.slice (some ⟨b,o,none⟩) l.length cap,.int .i64 i] w fun e w'=>e=.returned (.string (treT (treeOf l i)))∧Below w.heap.size w w':=by
 intro i
 induction i using Nat.strongRecOn with
 | _ i ih =>
  intro hi w hN
  have HI:Hid (∀ m,m<i→m<l.length→∀ (w:World),NdsAt w b o l →
   Calls Tryz.prog 18 #[.slice (some ⟨b,o,none⟩) l.length cap,.int .i64 m] w fun e w'=>e=.returned (.string (treT (treeOf l m)))∧Below w.heap.size w w'):=ih
  clear ih
  have hg:=hl i hi
  have ho:=op_range hg
  obtain ⟨x0,x1,x2,x3,x4⟩:=hN.nd (k:=i) hi
  obtain ⟨x,hx⟩:∃ x,l.getD i noN=x:=⟨_,rfl⟩
  rw [hx] at x0 x1 x2 x3 x4 hg ho
  have hii:(i:Int)<(l.length:Int):=by omega
  have hli:(l.length:Int)≤30:=by omega
  have hbl:b<w.heap.size:=hN.1
  obtain ⟨op,nn,name,left,right⟩:=x
  simp only at x0 x1 x2 x3 x4 ho
  have HNd:Hid (NdsAt w b o l):=hN
  obtain ⟨W,hW⟩:∃ W,w.alloc (.cells #[.int .i64 op,.int .i64 nn,.string name,.int .i64 left,.int .i64 right] 62)=W:=⟨_,rfl⟩
  have hX:W.heap[w.heap.size]?=some (.cells #[.int .i64 op,.int .i64 nn,.string name,.int .i64 left,.int .i64 right] 62 (0,0)):=by rw [←hW];exact heap_alloc_new _ _
  have HX:=hid_of hX
  have d0:W.cell? ⟨w.heap.size,0,none⟩=some (.int .i64 op):=by simp [World.cell?,hX]
  have d1:W.cell? ⟨w.heap.size,1,none⟩=some (.int .i64 nn):=by simp [World.cell?,hX]
  have d2:W.cell? ⟨w.heap.size,2,none⟩=some (.string name):=by simp [World.cell?,hX]
  have d3:W.cell? ⟨w.heap.size,3,none⟩=some (.int .i64 left):=by simp [World.cell?,hX]
  have HBW:Hid (Below w.heap.size w W):=by show Below w.heap.size w W;rw [←hW];go_grown
  clear hX
  by_cases h1:op=1
  ·subst h1
   have hP:treT (treeOf l i)=⟨(Lib.itoa nn).toArray⟩:=by rw [tree_num (by rw [hx]),hx,tre_num];rfl
   rw [hP]
   have hnr:0≤nn∧nn≤1000000:=by
    unfold ndErr at hg
    rw [if_neg (by simp),if_pos rfl] at hg
    split at hg
    ·cases hg
    ·simp only at *;omega
   have hof:=digits_any nn (by omega) (by omega)
   clear hx hP hg ho hN hnr
   go_enter Tryz.func18,Tryz.ntmps18
   go_wp2_with fail
   refine (hof _).mono ?_
   rintro e w1 ⟨rfl,rfl⟩
   clear hof d0 d1 d2 d3
   go_wp2_with fail
   go_ret
   exact ⟨rfl,HBW.out⟩
  by_cases h2:op=2
  ·subst h2
   have hT:treT (treeOf l i)=name:=by rw [tree_ref (by rw [hx]),hx,tre_ref]
   rw [hT]
   clear hx hT hg ho hN
   go_enter Tryz.func18,Tryz.ntmps18
   go_wp2_with fail
   go_ret
   exact ⟨rfl,HBW.out⟩
  obtain ⟨a1,a2,a3,a4⟩:=nd_sides hg (show 2<op by omega)
  simp only at a1 a2 a3 a4
  obtain ⟨a,ha⟩:∃ a:Nat,left=a:=⟨left.toNat,by omega⟩
  obtain ⟨c,hc⟩:∃ c:Nat,right=c:=⟨right.toNat,by omega⟩
  subst ha hc
  have hT:treT (treeOf l i)=brk (treT (treeOf l a)) (decide (bindN (l.getD a noN).op<bindN op)) ++ sgnT op ++ brk (treT (treeOf l c)) (decide (bindN (l.getD c noN).op≤bindN op)):=by
   have:=tree_bin hl hi (by rw [hx];show 2<op;omega)
   rw [hx] at this
   simp only [Int.toNat_natCast] at this
   rw [this,tre_bin,bind_tree hl (by omega),bind_tree hl (by omega)]
  rw [hT]
  have hai:a<l.length:=by omega
  have hci:c<l.length:=by omega
  have hRa:=HI.out a (by omega) hai W (hN.later HBW.out)
  have HRc:=hid_of (fun w' (hb:Below w.heap.size w w')=>HI.out c (by omega) hci w' (hN.later hb))
  have hsa:=tre_size hl h30 hai
  have hsc:=tre_size hl h30 hci
  have hXa:Hid (∀ w',Below w.heap.size w w'→w'.cell? ⟨b,o+a*5,none⟩=some (.int .i64 (l.getD a noN).op)):=fun w' hb=>((hN.later hb).nd (k:=a) hai).1
  have hXc:Hid (∀ w',Below w.heap.size w w'→w'.cell? ⟨b,o+c*5,none⟩=some (.int .i64 (l.getD c noN).op)):=fun w' hb=>((hN.later hb).nd (k:=c) hci).1
  have HXs:Hid (∀ w',Below W.heap.size W w'→w'.cell? ⟨w.heap.size,0,none⟩=some (.int .i64 op)∧w'.cell? ⟨w.heap.size,3,none⟩=some (.int .i64 (a:Int))∧w'.cell? ⟨w.heap.size,4,none⟩=some (.int .i64 (c:Int))):=fun w' hb=>by
   have h:=(hb.block w.heap.size (Array.getElem?_eq_some_iff.1 HX.out).1).trans HX.out
   exact ⟨by simp [World.cell?,h],by simp [World.cell?,h],by simp [World.cell?,h]⟩
  generalize (l.getD a noN).op=opa at hXa ⊢
  generalize (l.getD c noN).op=opc at hXc ⊢
  obtain ⟨ta,hta⟩:∃ t,treT (treeOf l a)=t:=⟨_,rfl⟩
  obtain ⟨tc,htc⟩:∃ t,treT (treeOf l c)=t:=⟨_,rfl⟩
  rw [hta] at hRa hsa ⊢
  rw [htc] at HRc hsc ⊢
  have haI:(a:Int)<(l.length:Int):=by omega
  have hcI:(c:Int)<(l.length:Int):=by omega
  have hovc:op=3∨op=4∨op=5∨op=6:=by omega
  have HOv:=hid_of hovc
  have h1b:(op == 1)=false:=by simpa using h1
  have h2b:(op == 2)=false:=by simpa using h2
  have HSa:=hid_of hsa
  have HSc:=hid_of hsc
  generalize l.length=n at *
  clear hx hT hg ho h1 h2 hN hta htc HI a1 a2 a3 a4 hai hci hovc hl h30 hsa hsc hi
  go_enter Tryz.func18,Tryz.ntmps18
  go_wp2_with fail
  refine hRa.mono ?_
  rintro e w1 ⟨rfl,hb1⟩
  have HB1:=hid_of hb1
  have HC1:=hid_of (onB HBW.out hb1)
  have hrc:=HRc.out w1 HC1.out
  obtain ⟨e0,e3,e4⟩:=HXs.out w1 HB1.out
  clear hRa hb1 d0 d1 d2 d3 hW
  go_wp2_with fail
  refine hrc.mono ?_
  rintro e w2 ⟨rfl,hb2⟩
  have HB2:=hid_of (onB HB1.out hb2)
  have HC2:=hid_of (onB HC1.out hb2)
  clear hrc hb2 e0 e3 e4
  have hS0:=And.intro (HXs.out w2 HB2.out) (hXa.out w2 HC2.out)
  obtain ⟨⟨e0,e3,e4⟩,ea⟩:=hS0
  have HS8:Hid (∀ w',Below w2.heap.size w2 w'→w'.cell? ⟨w.heap.size,0,none⟩=some (.int .i64 op)∧w'.cell? ⟨w.heap.size,3,none⟩=some (.int .i64 (a:Int))∧w'.cell? ⟨b,o+a*5,none⟩=some (.int .i64 opa)):=fun w' hb=>⟨later_cell e0 hb,later_cell e3 hb,later_cell ea hb⟩
  go_upto_region 8 with fail
  go_cut [41] from 31 (fun s41 wx=>s41=.bool (decide (bindN opa<bindN op))∧Below w2.heap.size w2 wx)
  case first =>
   go_region_held3 (fun w'=>Below w2.heap.size w2 w'∧w'.cell? ⟨w.heap.size,0,none⟩=some (.int .i64 op)∧w'.cell? ⟨w.heap.size,3,none⟩=some (.int .i64 (a:Int))∧w'.cell? ⟨b,o+a*5,none⟩=some (.int .i64 opa))
    ((refine (fun hB=>⟨hB,HS8.out _ hB⟩) ?_;go_grown;done))
    ((go_at_call 34;refine (rank_any _ _).mono ?_;rintro e wa ⟨rfl,hba⟩;have hNa:=onB (W0:=w2) (by go_grown) hba;have hsa:=hNa.size;clear hba))
   all_goals go_wp2_with fail
   all_goals go_meet
   all_goals exact ⟨rfl,by go_grown⟩
  case rest =>
  obtain ⟨rfl,hbc⟩:=hcut
  obtain ⟨x8,rfl⟩:∃ x:World,x=wc:=⟨_,rfl⟩
  go_upto_if 41 with fail
  go_cut [6] from 41 (fun s6 wx=>s6=.string (brk ta (decide (bindN opa<bindN op)))∧wx=x8)
  case first =>
   have hs1 : ¬ 9223372036854775807<1+ta.size:=by have:=HSa.out;omega
   have hs2 : ¬ 9223372036854775807<1+ta.size+1:=by have:=HSa.out;omega
   by_cases hlt:bindN opa<bindN op
   ·rw [decide_eq_true hlt]
    go_wp2_with fail
    go_meet
    exact ⟨by first | rfl | (rw [decide_eq_true (by omega)];rfl),rfl⟩
   ·rw [decide_eq_false hlt]
    go_wp2_with fail
    go_meet
    exact ⟨by first | rfl | (rw [decide_eq_false (by omega)];rfl),rfl⟩
  case rest =>
  obtain ⟨rfl,rfl⟩:=hcut
  obtain ⟨w3,rfl⟩:∃ x:World,x=wc:=⟨_,rfl⟩
  have HB3:=hid_of (onB HB2.out hbc)
  have HC3:=hid_of (onB HC2.out hbc)
  have hza:=brk_size ta (decide (bindN opa<bindN op))
  obtain ⟨ua,hua⟩:∃ t,brk ta (decide (bindN opa<bindN op))=t:=⟨_,rfl⟩
  rw [hua] at hza ⊢
  have HUa:=hid_of hua
  have HZa:Hid (ua.size≤107374182402):=by show _≤_;have:=HSa.out;omega
  clear hbc e0 e3 e4 ea HS8 hza hua
  obtain ⟨⟨e0,e3,e4⟩,ea⟩:=And.intro (HXs.out w3 HB3.out) (hXc.out w3 HC3.out)
  have HS8:Hid (∀ w',Below w3.heap.size w3 w'→w'.cell? ⟨w.heap.size,0,none⟩=some (.int .i64 op)∧w'.cell? ⟨w.heap.size,4,none⟩=some (.int .i64 (c:Int))∧w'.cell? ⟨b,o+c*5,none⟩=some (.int .i64 opc)):=fun w' hb=>⟨later_cell e0 hb,later_cell e4 hb,later_cell ea hb⟩
  go_upto_region 10 with fail
  go_cut [55] from 45 (fun s55 wx=>s55=.bool (decide (bindN opc≤bindN op))∧Below w3.heap.size w3 wx)
  case first =>
   go_region_held3 (fun w'=>Below w3.heap.size w3 w'∧w'.cell? ⟨w.heap.size,0,none⟩=some (.int .i64 op)∧w'.cell? ⟨w.heap.size,4,none⟩=some (.int .i64 (c:Int))∧w'.cell? ⟨b,o+c*5,none⟩=some (.int .i64 opc))
    ((refine (fun hB=>⟨hB,HS8.out _ hB⟩) ?_;go_grown;done))
    ((go_at_call 34;refine (rank_any _ _).mono ?_;rintro e wa ⟨rfl,hba⟩;have hNa:=onB (W0:=w3) (by go_grown) hba;have hsa:=hNa.size;clear hba))
   all_goals go_wp2_with fail
   all_goals go_meet
   all_goals exact ⟨rfl,by go_grown⟩
  case rest =>
  obtain ⟨rfl,hbc⟩:=hcut
  obtain ⟨x10,rfl⟩:∃ x:World,x=wc:=⟨_,rfl⟩
  go_upto_if 55 with fail
  go_cut [7] from 55 (fun s7 wx=>s7=.string (brk tc (decide (bindN opc≤bindN op)))∧wx=x10)
  case first =>
   have hs1 : ¬ 9223372036854775807<1+tc.size:=by have:=HSc.out;omega
   have hs2 : ¬ 9223372036854775807<1+tc.size+1:=by have:=HSc.out;omega
   by_cases hlt:bindN opc≤bindN op
   ·rw [decide_eq_true hlt]
    go_wp2_with fail
    go_meet
    exact ⟨by first | rfl | (rw [decide_eq_true (by omega)];rfl),rfl⟩
   ·rw [decide_eq_false hlt]
    go_wp2_with fail
    go_meet
    exact ⟨by first | rfl | (rw [decide_eq_false (by omega)];rfl),rfl⟩
  case rest =>
  obtain ⟨rfl,rfl⟩:=hcut
  obtain ⟨w4,rfl⟩:∃ x:World,x=wc:=⟨_,rfl⟩
  have HB4:=hid_of (onB HB3.out hbc)
  have HC4:=hid_of (onB HC3.out hbc)
  have hza:=brk_size tc (decide (bindN opc≤bindN op))
  obtain ⟨uc,huc⟩:∃ t,brk tc (decide (bindN opc≤bindN op))=t:=⟨_,rfl⟩
  rw [huc] at hza ⊢
  have HUc:=hid_of huc
  have hzc:uc.size≤107374182402:=by have:=HSc.out;omega
  have hza2:=HZa.out
  have hs1 : ¬ 9223372036854775807<ua.size+1:=by omega
  have hs2 : ¬ 9223372036854775807<ua.size+1+uc.size:=by omega
  have hw0:IntKind.i64.wrap 0=0:=by rfl
  have hw1:IntKind.i64.wrap 1=1:=by rfl
  have hw2:IntKind.i64.wrap 2=2:=by rfl
  have hw3:IntKind.i64.wrap 3=3:=by rfl
  have hw4:IntKind.i64.wrap 4=4:=by rfl
  have hz:(⟨#[43,45,42,47]⟩:ByteArray).size=4:=rfl
  have hx0:(⟨#[43,45,42,47]⟩:ByteArray).extract 0 1=⟨#[43]⟩:=by rfl
  have hx1:(⟨#[43,45,42,47]⟩:ByteArray).extract 1 2=⟨#[45]⟩:=by rfl
  have hx2:(⟨#[43,45,42,47]⟩:ByteArray).extract 2 3=⟨#[42]⟩:=by rfl
  have hx3:(⟨#[43,45,42,47]⟩:ByteArray).extract 3 4=⟨#[47]⟩:=by rfl
  clear hbc e0 e3 e4 ea HS8 hza huc
  obtain ⟨e0,e3,e4⟩:=HXs.out w4 HB4.out
  have hov:=HOv.out
  rcases hov with rfl | rfl | rfl | rfl
  all_goals clear h1b h2b
  all_goals go_wp2_with fail
  all_goals go_ret
  all_goals refine ⟨?_,HC4.out⟩
  all_goals rw [HUa.out,HUc.out]
  all_goals rfl
theorem keepE {W w':World} {b o b' o':Nat} {u v:Value} (h:b<W.heap.size∧b'<W.heap.size∧W.cell? ⟨b,o,none⟩=some u∧W.cell? ⟨b',o',none⟩=some v) (hB:Below W.heap.size W w'):Below W.heap.size W w'∧w'.cell? ⟨b,o,none⟩=some u∧w'.cell? ⟨b',o',none⟩=some v :=
 ⟨hB,(hB.cell (p:=⟨b,o,none⟩) h.1).trans h.2.2.1,(hB.cell (p:=⟨b',o',none⟩) h.2.1).trans h.2.2.2⟩
set_option maxHeartbeats 8000000 in
theorem sameents_any (A B:Option Addr) (ca cb:Nat) (xs ys:List EnL) (w:World) (hl:lE xs=lE ys) (hn:xs.length≤3000) (hS:∀ k,k<xs.length→(xs.getD k noL).e.pl.length≤4) (hA:EnsV w A ca xs) (hB:EnsV w B cb ys) :
  Calls Tryz.prog 8 #[.slice A xs.length ca,.slice B ys.length cb] w fun e w'=>e=.returned (.bool true)∧Below w.heap.size w w':=by
 have hll:ys.length=xs.length:=by rw [←lE_len,←hl,lE_len]
 have HA:Hid (EnsV w A ca xs):=hA
 have HB:Hid (EnsV w B cb ys):=hB
 have HEq:Hid (∀ k,(ys.getD k noL).e=(xs.getD k noL).e):=fun k=>by rw [←lE_at,←lE_at,hl]
 have HS:Hid (∀ k,k<xs.length→(xs.getD k noL).e.pl.length≤4):=hS
 obtain ⟨n,hnn⟩:∃ n,xs.length=n:=⟨_,rfl⟩
 have HN:Hid (xs.length=n):=hnn
 have HN2:Hid (ys.length=n):=hll.trans hnn
 rw [hll]
 rw [hnn] at hn ⊢
 have hn':(n:Int)≤3000:=by omega
 clear hA hB hl hS hll hnn
 go_enter Tryz.func8,Tryz.ntmps8
 go_wp2_with fail
 go_loopg [5] n (fun g s5 wr => ∃ (k:Nat),k≤n∧g=n-k∧s5=.int .i64 k∧Below w.heap.size w wr)
 case atStart=>exact ⟨0,Nat.zero_le _,rfl,rfl,Below.refl _ _⟩
 case round =>
  obtain ⟨k,hk,rfl,rfl,hBw⟩:=hrel
  have HBw:Hid (Below w.heap.size w wr):=hBw
  by_cases hlt:k<n
  ·have hki:(k:Int)<(n:Int):=by omega
   obtain ⟨-,-,h0 | ⟨b,o,rfl,hXs⟩⟩:=HA.out.later hBw
   ·have:=HN.out;rw [h0] at this;simp at this;omega
   obtain ⟨-,-,h0 | ⟨b',o',rfl,hYs⟩⟩:=HB.out.later hBw
   ·have:=HN2.out;rw [h0] at this;simp at this;omega
   obtain ⟨c1,c2⟩:=hXs.at (k:=k) (by rw [HN.out];exact hlt)
   obtain ⟨d1,d2⟩:=hYs.at (k:=k) (by rw [HN2.out];exact hlt)
   have hp1:=hXs.pl (k:=k) (by rw [HN.out];exact hlt)
   have hp2:=hYs.pl (k:=k) (by rw [HN2.out];exact hlt)
   rw [HEq.out k] at d1 d2 hp2
   have HSm:Hid (∀ w',Below wr.heap.size wr w'→Calls Tryz.prog 27 #[.slice (xs.getD k noL).A (xs.getD k noL).e.pl.length (xs.getD k noL).c,.slice (ys.getD k noL).A (xs.getD k noL).e.pl.length (ys.getD k noL).c] w' fun e w''=>e=.returned (.bool true)∧Below w'.heap.size w' w''):=fun w' hw'=>by
    have h:=samepl_any _ _ _ _ _ _ w' (HS.out k (by rw [HN.out];exact hlt)) (hp1.later hw') (hp2.later hw')
    rw [decide_eq_true rfl] at h
    exact h
   have hb1:=hXs.1
   have hb2:=hYs.1
   generalize (xs.getD k noL).A=A1 at c1 HSm
   generalize (xs.getD k noL).c=k1 at c1 HSm
   generalize (ys.getD k noL).A=A2 at d1 HSm
   generalize (ys.getD k noL).c=k2 at d1 HSm
   generalize (xs.getD k noL).e.n=n1 at c2 d2
   generalize (xs.getD k noL).e.pl.length=m1 at c1 d1 HSm
   have HC:Hid (b<wr.heap.size∧b'<wr.heap.size∧wr.cell? ⟨b,o+k*2,none⟩=some (.slice A1 m1 k1)∧wr.cell? ⟨b',o'+k*2,none⟩=some (.slice A2 m1 k2)):=⟨hb1,hb2,c1,d1⟩
   have HC2:Hid (wr.cell? ⟨b,o+k*2+1,none⟩=some (.int .i64 n1)∧wr.cell? ⟨b',o'+k*2+1,none⟩=some (.int .i64 n1)):=⟨c2,d2⟩
   clear hXs hYs hp1 hp2 c1 c2 d1 d2 hBw
   go_wp2_with fail
   go_cut [6] (fun s6 wx=>s6=.bool true∧Below wr.heap.size wr wx)
   case first=>as_aux_lemma =>
    go_region_held3 (fun w'=>Below wr.heap.size wr w'∧w'.cell? ⟨b,o+k*2,none⟩=some (.slice A1 m1 k1)∧w'.cell? ⟨b',o'+k*2,none⟩=some (.slice A2 m1 k2))
     ((refine keepE HC.out ?_;go_grown;done))
     (first | (go_at_call 27;refine (HSm.out _ (by go_grown)).mono ?_;rintro e w3 ⟨rfl,hb3⟩;have hN3:=onB (W0:=wr) (by go_grown) hb3;have hy3:=hN3.size;clear hb3))
    all_goals go_wp2_with fail
    all_goals go_meet
    all_goals exact ⟨rfl,by go_grown⟩
   case rest=>as_aux_lemma =>
   obtain ⟨rfl,hb⟩:=hcut
   obtain ⟨w2,rfl⟩:∃ w2:World,w2=wc:=⟨_,rfl⟩
   have HB2:Hid (Below wr.heap.size wr w2):=hb
   have f1:w2.cell? ⟨b,o+k*2+1,none⟩=some (.int .i64 n1):=(hb.cell (p:=⟨b,o+k*2+1,none⟩) hb1).trans HC2.out.1
   have f2:w2.cell? ⟨b',o'+k*2+1,none⟩=some (.int .i64 n1):=(hb.cell (p:=⟨b',o'+k*2+1,none⟩) hb2).trans HC2.out.2
   clear hb HC HC2 HSm
   go_wp2_with fail
   go_quiet (fail)
   go_wp2_with fail
   go_roundg (n-(k+1))
   case measure=>omega
   case rel=>exact ⟨k+1,by omega,rfl,by go_num,below_drewN (onB HBw.out HB2.out) _⟩
  ·have hke:k=n:=by omega
   subst hke
   go_wp2_with fail
   go_ret
   exact ⟨rfl,hBw⟩
end Go.Proofs.YtfldgghobddgkaaGreatDoor
namespace Go.Proofs.YtfldgghobddgkaaGreatDoor
open Go.ChangeShapes Go.WideShapes Go.ChangeAt Go.RowKit
theorem told_nil (w:World):Calls Tryz.prog 26 #[.nilIface] w fun e w'=>e=.returned (.int .i64 0)∧w'=w:=by
 go_enter Tryz.func26,Tryz.ntmps26
 go_wp2
 go_ret
 exact ⟨rfl,rfl⟩
theorem told_hit (c:Int) (w:World) (hk:Kind0 w):Calls Tryz.prog 26 #[.iface 69 (.int .i64 c)] w fun e w'=>e=.returned (.int .i64 c)∧Below w.heap.size w w':=by
 have h:=as_hit c w.heap.size (w.alloc (.cells #[.int .i64 0] 69)) (hk.later ((Below.refl _ _).alloc (Nat.le_refl _) _)) (by simp) (by simp) (by simp)
 go_enter Tryz.func26,Tryz.ntmps26
 go_wp2_with fail
 refine h.mono ?_
 rintro e w1 ⟨rfl,hw1⟩
 have hB:Below w.heap.size w w1:=by rw [hw1];go_grown
 have hc:w1.cell? ⟨w.heap.size,0,none⟩=some (.int .i64 c):=by
  rw [hw1]
  refine World.cell?_setCell_same _ _ _ (u:=.int .i64 0) ?_
  rw [World.cell?_alloc_lt _ _ ⟨w.heap.size,0,none⟩ (by first | (simp;done) | (simp;omega)),World.cell?_alloc_lt _ _ ⟨w.heap.size,0,none⟩ (by first | (simp;done) | (simp;omega)),World.cell?_alloc_lt _ _ ⟨w.heap.size,0,none⟩ (by first | (simp;done) | (simp;omega)),World.cell?_alloc_lt _ _ ⟨w.heap.size,0,none⟩ (by first | (simp;done) | (simp;omega))]
  simp
 clear hw1 h hk
 go_wp2_with fail
 go_ret
 exact ⟨rfl,hB⟩
theorem same_nil (n:Int) (w:World):Calls Tryz.prog 6 #[.nilIface,.int .i64 n] w fun e w'=>e=.returned (.bool (0 == n))∧Below w.heap.size w w':=by
 go_enter Tryz.func6,Tryz.ntmps6
 go_wp2_with (go_at_call 26;refine (told_nil _).mono ?_;rintro e w1 ⟨rfl,rfl⟩)
 go_ret
 exact ⟨rfl,Below.refl _ _⟩
theorem same_hit (c n:Int) (w:World) (hk:Kind0 w):Calls Tryz.prog 6 #[.iface 69 (.int .i64 c),.int .i64 n] w fun e w'=>e=.returned (.bool (c == n))∧Below w.heap.size w w':=by
 go_enter Tryz.func6,Tryz.ntmps6
 go_wp2_with fail
 refine (told_hit c _ hk).mono ?_
 rintro e w1 ⟨rfl,hb⟩
 go_wp2_with fail
 go_ret
 exact ⟨rfl,hb⟩
end Go.Proofs.YtfldgghobddgkaaGreatDoor
namespace Go.Proofs.YtfldgghobddgkaaGreatDoor
open Go.ChangeShapes Go.WideShapes Go.ChangeAt Go.RowKit Go.Lib
set_option maxRecDepth 100000
theorem cell_laterQ {w w':World} {b o:Nat} {x:Value} (h:w.cell? ⟨b,o,none⟩=some x) (hB:Below w.heap.size w w'):w'.cell? ⟨b,o,none⟩=some x:=(hB.cell (p:=⟨b,o,none⟩) (World.block_lt_of_cell? _ _ h)).trans h
end Go.Proofs.YtfldgghobddgkaaGreatDoor
namespace Go.Proofs.YtfldgghobddgkaaGreatDoor
theorem wr_neg {D:Nat→Dm} {n k:Nat} {l:List En} {t:Int} (h:Ens D n l) (hk:k<n) (ht:t<0):wrAt l k t=false:=by
 unfold wrAt
 rw [List.any_eq_false]
 intro e he
 have hp:=(h.each e he).1
 have h0:=hp.lo k hk
 simp only [decide_eq_true_eq]
 omega
end Go.Proofs.YtfldgghobddgkaaGreatDoor
namespace Go.Proofs.YtfldgghobddgkaaGreatDoor
open Go.ChangeShapes Go.WideShapes Go.ChangeAt Go.RowKit
set_option maxRecDepth 20000
theorem same_errC (c:Int) (w:World) (hk:Kind0 w):Calls Tryz.prog 6 #[errV c,.int .i64 c] w fun e w'=>e=.returned (.bool true)∧Below w.heap.size w w':=by
 by_cases h:c=0
 ·subst h
  have:=same_nil 0 w
  rw [errV_zero]
  exact this
 ·have:=same_hit c c w hk
  rw [errV_some h]
  simpa using this
end Go.Proofs.YtfldgghobddgkaaGreatDoor
namespace Go.Proofs.YtfldgghobddgkaaGreatDoor
open Go Go.ChangeShapes Go.WideShapes Go.ChangeAt Go.RowKit Go.Deep
set_option maxRecDepth 100000
section
variable {H:Type} {enc:TypeId×Value→H} {w:World} {held:Bool}
theorem cellsCh:Tryz.prog.cellsOf 27=6:=by kernel_rfl
theorem arr6 {α:Type} {a:Array α} (h:a.size=6):∃ u v x y z t,a=#[u,v,x,y,z,t]:=by
 rcases a with ⟨l⟩
 match l,h with
 | [u,v,x,y,z,t],_=>exact ⟨u,v,x,y,z,t,rfl⟩
theorem open_chg {r:Reach} {b0:Nat} {v:Value} {d:DataW H} {p:List MemPlace} (hv:Value.okWide Tryz.prog w r b0 27 v) (h:DataW.Trod enc Tryz.prog w 0 (fun _=>true) held 27 v d p) :
  ∃ c:Chg,v=chgV c:=by
 obtain ⟨cs,rfl,hsz⟩:=okWide_struct Tryz.underlying27 hv
 obtain ⟨c0,c1,c2,c3,c4,c5,rfl⟩:=arr6 (hsz.trans cellsCh)
 obtain ⟨fuel,hf⟩:=h
 obtain ⟨-,n,hy⟩:=trod_one Tryz.underlying27 (by kernel_rfl) hf
 obtain ⟨y0,h0⟩:=hy 0 _ c0 rfl rfl
 obtain ⟨y1,h1⟩:=hy 1 _ c1 rfl rfl
 obtain ⟨y2,h2⟩:=hy 2 _ c2 rfl rfl
 obtain ⟨y3,h3⟩:=hy 3 _ c3 rfl rfl
 obtain ⟨y4,h4⟩:=hy 4 _ c4 rfl rfl
 obtain ⟨y5,h5⟩:=hy 5 _ c5 rfl rfl
 obtain ⟨n0,e0,-,-⟩:=DataW.trod_int Tryz.underlying3 h0
 obtain ⟨n1,e1,-,-⟩:=DataW.trod_int Tryz.underlying3 h1
 obtain ⟨n2,e2,-,-⟩:=DataW.trod_int Tryz.underlying3 h2
 obtain ⟨s3,e3,-,-⟩:=DataW.trod_string Tryz.underlying9 h3
 obtain ⟨n4,e4,-,-⟩:=DataW.trod_int Tryz.underlying3 h4
 obtain ⟨n5,e5,-,-⟩:=DataW.trod_int Tryz.underlying3 h5
 simp at e0 e1 e2 e3 e4 e5
 exact ⟨⟨n0,n1,n2,s3,n4,n5⟩,by rw [e0,e1,e2,e3,e4,e5];rfl⟩
end
end Go.Proofs.YtfldgghobddgkaaGreatDoor
