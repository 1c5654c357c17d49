/-
  What Fresh of package input answers: the same entries, in a row of the call's own, each place in a row of its own, apart from all others.
-/
import Derived.Test.YtglekooldbeklaaGreatDoorJGAV
namespace Go.Proofs.YtglekooldbeklaaGreatDoor
open Go.ChangeShapes Go.WideShapes Go.ChangeAt Go.RowKit Go.Lib
set_option maxRecDepth 100000
def PlO (w:World) (N:Nat) (A:Option Addr) (c:Nat) (L:List Int):Prop := ∃ g,A=some ⟨g,0,none⟩∧w.ownsRow N 3 1 (.slice (some ⟨g,0,none⟩) L.length c) L.length (mapI L)
theorem plo_of {w:World} {N:Nat} {v:Value} {L:List Int} (hL:0<L.length) (h:w.ownsRow N 3 1 v L.length (L.map (Value.int .i64))):∃ A c,v=.slice A L.length c∧PlTy w A c L∧PlO w N A c L:=by
 obtain ⟨A',c',e,h4,-⟩:=plty_new h
 rcases h.2 with ⟨rfl,h0⟩ | ⟨g,cap,cur,rfl,hr⟩
 ·omega
 ·cases e
  exact ⟨_,_,rfl,h4,g,rfl,h⟩
theorem PlO.later {w w':World} {N:Nat} {A:Option Addr} {c:Nat} {L:List Int} (h:PlO w N A c L) (hB:Below w.heap.size w w'):PlO w' N A c L:=by
 obtain ⟨g,h1,h2⟩:=h
 exact ⟨g,h1,own_later h2 hB⟩
theorem PlO.base {w:World} {N M:Nat} {A:Option Addr} {c:Nat} {L:List Int} (h:PlO w N A c L) (hM:M≤N):PlO w M A c L:=by
 obtain ⟨g,h1,h2⟩:=h
 exact ⟨g,h1,ow_base h2 hM⟩
theorem PlO.off {w:World} {N g j:Nat} {A:Option Addr} {c:Nat} {L:List Int} {u:Value} (h:PlO w N A c L) (hne:∀ b,A=some ⟨b,0,none⟩→b≠g):PlO (w.setCell ⟨g,j,none⟩ u) N A c L:=by
 obtain ⟨b,rfl,h2⟩:=h
 exact ⟨b,rfl,ow_off h2 fun e=>hne b rfl (Option.some.inj e)⟩
theorem PlO.ty {w:World} {N:Nat} {A:Option Addr} {c:Nat} {L:List Int} (h:PlO w N A c L):PlTy w A c L:=by
 obtain ⟨g,rfl,h2⟩:=h
 obtain ⟨A',c',e,h4,-⟩:=plty_new h2
 cases e
 exact h4
def OwP (w:World) (N:Nat) (ys:List EnL):Prop:=(∀ y∈ys,PlO w N y.A y.c y.e.pl)∧ys.Pairwise fun a b=>a.A≠b.A
theorem OwP.push {w w':World} {N:Nat} {ys:List EnL} {y:EnL} (h:OwP w N ys) (hB:Below w.heap.size w w') (hN:N≤w.heap.size) (hy:PlO w' w.heap.size y.A y.c y.e.pl):OwP w' N (ys ++ [y]):=by
 refine ⟨fun z hz=>?_,?_⟩
 ·rcases List.mem_append.1 hz with hz | hz
  ·exact (h.1 z hz).later hB
  ·rw [List.mem_singleton.1 hz];exact hy.base hN
 ·refine List.pairwise_append.2 ⟨h.2,List.pairwise_singleton _ _,fun a ha b hb=>?_⟩
  rw [List.mem_singleton.1 hb]
  obtain ⟨g1,e1,o1⟩:=h.1 a ha
  obtain ⟨g2,e2,o2⟩:=hy
  have h1:=(ow_blk o1).2.1
  have h2:=(ow_blk o2).1
  rw [e1,e2]
  intro e
  have e3:=congrArg (fun a:Option Addr=>a.map Addr.block) e
  simp only [Option.map_some,Option.some.injEq] at e3
  omega
theorem OwP.off {w:World} {N g j:Nat} {ys:List EnL} {u:Value} {n:Nat} {zs:List EnL} (h:OwP w N ys) (hr:RowE w g n zs):OwP (w.setCell ⟨g,j,none⟩ u) N ys:=by
 refine ⟨fun y hy=>(h.1 y hy).off fun b hb e=>?_,h.2⟩
 obtain ⟨g1,e1,o1⟩:=h.1 y hy
 obtain ⟨-,-,-,-,cur,hc⟩:=ow_blk o1
 obtain ⟨⟨cur2,hc2,-⟩,-⟩:=hr
 rw [e1] at hb
 simp at hb
 rw [hb,e,hc2] at hc
 simp only [Option.some.injEq,Obj.cells.injEq] at hc
 exact absurd hc.2.1 (by decide)
theorem off2 {w:World} {N g i j:Nat} {ys:List EnL} {u v:Value} {n:Nat} {zs:List EnL} (h:OwP w N ys) (hr:RowE w g n zs):OwP ((w.setCell ⟨g,i,none⟩ u).setCell ⟨g,j,none⟩ v) N ys:=by
 have h1:=h.off (j:=i) (u:=u) hr
 obtain ⟨⟨cur2,hc2,-⟩,-⟩:=hr
 have hc3:=set_tyD (k:=i) (v:=u) hc2
 refine ⟨fun y hy=>(h1.1 y hy).off fun b hb e=>?_,h.2⟩
 obtain ⟨g1,e1,o1⟩:=h1.1 y hy
 obtain ⟨-,-,-,-,cur,hc⟩:=ow_blk o1
 rw [e1] at hb
 simp at hb
 rw [hb,e,hc3] at hc
 simp only [Option.some.injEq,Obj.cells.injEq] at hc
 exact absurd hc.2.1 (by decide)
structure OwE (w:World) (B g cap:Nat) (ys:List EnL):Prop where
 row:RowE w g cap ys
 low:B≤g
 each:∀ y∈ys,PlO w B y.A y.c y.e.pl
 apart:ys.Pairwise fun a b=>a.A≠b.A
set_option maxHeartbeats 8000000 in
theorem fresh_own (AE:Option Addr) (ce:Nat) (xs:List EnL) (w:World) (hn:xs.length≤3000) (hS:∀ k,k<xs.length→0<(xs.getD k noL).e.pl.length∧(xs.getD k noL).e.pl.length≤4) (hE:EnsV w AE ce xs) :
  Calls Tryz.prog 17 #[.slice AE xs.length ce] w fun e w'=>(∃ ys,e=.returned (.slice (some ⟨w.heap.size,0,none⟩) xs.length xs.length)∧OwE w' w.heap.size w.heap.size xs.length ys∧lE ys=lE xs)∧Below w.heap.size w w':=by
 obtain ⟨i0,hi0,hz0,hz1,hz2⟩:=info_parts Tryz.infoEnt
 have HE:Hid (EnsV w AE ce xs):=hE
 have HS:Hid (∀ k,k<xs.length→0<(xs.getD k noL).e.pl.length∧(xs.getD k noL).e.pl.length≤4):=hS
 obtain ⟨n,hnn⟩:∃ n,xs.length=n:=⟨_,rfl⟩
 have HN:Hid (xs.length=n):=hnn
 rw [hnn] at hn ⊢
 have hmk:∀ w',(Instr.makeSlice 25 (.int .i64 n) (.int .i64 n)).run Tryz.prog w'=.ok (.slice (some ⟨w'.heap.size,0,none⟩) n n) (w'.alloc (.cells (madeCells (Value.agg #[.slice none 0 0,.int .i64 0]).cells (n*2)) 77)):=fun w'=>by
  have h:=run_make (P:=Tryz.prog) w' 25 77 i0 _ Tryz.underlying25 hi0 hz0 .i64 .i64 n n (by omega) (Int.le_refl _) (by rw [hz2];omega) (by omega)
  rw [hz1] at h
  simpa using h
 have HR0:Hid (RowE (w.alloc (.cells (madeCells (Value.agg #[.slice none 0 0,.int .i64 0]).cells (n*2)) 77)) w.heap.size n []):=⟨⟨_,heap_alloc_new w _,size_madeCells _ _,by simp [cellsE]⟩,Nat.zero_le _,by unfold maxLen;omega,fun x hx=>by cases hx⟩
 have hn':(n:Int)≤3000:=by omega
 clear hE hS hnn
 go_enter Tryz.func17,Tryz.ntmps17
 go_wp2_with fail
 clear hmk
 go_loopg [11] n (fun g s11 wr => ∃ (k:Nat) (zs:List EnL),k≤n∧g=n-k∧s11=.int .i64 k∧zs.length=k∧Hid (lE zs=(lE xs).take k∧OwP wr w.heap.size zs)∧RowE wr w.heap.size n zs∧Below w.heap.size w wr)
 case atStart=>exact ⟨0,[],Nat.zero_le _,rfl,rfl,rfl,hid_of (⟨by simp [lE],fun _ h=>(by cases h),List.Pairwise.nil⟩),HR0.out,by go_grown⟩
 case round =>
  obtain ⟨k,zs,hk,rfl,rfl,hzl,HZ,hRow,hBw⟩:=hrel
  have HRow:Hid (RowE wr w.heap.size n zs):=hRow
  have HBw:Hid (Below w.heap.size w wr):=hBw
  have HZL:Hid (zs.length=k):=hzl
  by_cases hlt:k<n
  ·have hkx:k<xs.length:=by rw [HN.out];exact hlt
   have hki:(k:Int)<(n:Int):=by omega
   obtain ⟨-,-,h0 | ⟨b,o,rfl,hEs⟩⟩:=HE.out.later hBw
   ·have:=HN.out;rw [h0] at this;simp at this;omega
   obtain ⟨c1,c2⟩:=hEs.at hkx
   have HCl:Hid (∀ w',Below wr.heap.size wr w'→Calls Tryz.prog 35 #[.slice (xs.getD k noL).A (xs.getD k noL).e.pl.length (xs.getD k noL).c] w' fun e w''=>(∃ A' c',e=.returned (.slice A' (xs.getD k noL).e.pl.length c')∧PlTy w'' A' c' (xs.getD k noL).e.pl∧PlO w'' wr.heap.size A' c' (xs.getD k noL).e.pl)∧Below w'.heap.size w' w''):=fun w' hw'=>(clone_own _ _ _ w' (HS.out k hkx).2 ((hEs.pl hkx).later hw')).mono fun _ _ ⟨⟨v,h1,h2⟩,h4⟩=>by
    obtain ⟨A',c',rfl,h5,h6⟩:=plo_of (HS.out k hkx).1 (ow_base h2 hw'.size)
    exact ⟨⟨A',c',h1,h5,h6⟩,h4⟩
   have hBo:=ownEn_below wr (xs.getD k noL).A (xs.getD k noL).e.pl.length (xs.getD k noL).c (xs.getD k noL).e.n 77
   have HBo:Hid (Below wr.heap.size wr (ownEn wr (xs.getD k noL).A (xs.getD k noL).e.pl.length (xs.getD k noL).c (xs.getD k noL).e.n 77)):=hBo
   have hzo:=ownEn_size wr (xs.getD k noL).A (xs.getD k noL).e.pl.length (xs.getD k noL).c (xs.getD k noL).e.n 77
   have ho0:=ownEn_0 wr (xs.getD k noL).A (xs.getD k noL).e.pl.length (xs.getD k noL).c (xs.getD k noL).e.n 77
   have ho1:=ownEn_1 wr (xs.getD k noL).A (xs.getD k noL).e.pl.length (xs.getD k noL).c (xs.getD k noL).e.n 77
   have HLE:Hid ((lE xs).take (k+1)=(lE xs).take k ++ [(xs.getD k noL).e]):=by
    show _=_
    rw [List.take_succ_eq_append_getElem (by rw [lE_len];exact hkx),←lE_at,List.getD_eq_getElem?_getD,List.getElem?_eq_getElem (by rw [lE_len];exact hkx)]
    rfl
   have hwg:w.heap.size<wr.heap.size:=hRow.lt
   generalize xs.getD k noL=x at c1 c2 HCl HBo hzo ho0 ho1 HLE
   clear hEs hBo hRow hBw hzl
   have HPut:Hid (∀ (w3:World) (A':Option Addr) (c':Nat),RowE w3 w.heap.size n zs→PlTy w3 A' c' x.e.pl→RowE ((w3.setCell ⟨w.heap.size,k*2,none⟩ (.slice A' x.e.pl.length c')).setCell ⟨w.heap.size,k*2+1,none⟩ (.int .i64 x.e.n)) w.heap.size n (zs ++ [⟨x.e,A',c'⟩])∧w3.grownBy ((w3.setCell ⟨w.heap.size,k*2,none⟩ (.slice A' x.e.pl.length c')).setCell ⟨w.heap.size,k*2+1,none⟩ (.int .i64 x.e.n)) (some w.heap.size)):=fun w3 A' c' h1 h2=>by
    have h3:=h1.put (by rw [HZL.out];exact hlt) (x:=⟨x.e,A',c'⟩) h2
    rw [HZL.out] at h3
    exact h3
   have HLN:Hid (∀ (w3:World) A' c',Below wr.heap.size wr w3→RowE w3 w.heap.size n zs→PlO w3 wr.heap.size A' c' x.e.pl→lE (zs ++ [⟨x.e,A',c'⟩])=(lE xs).take (k+1)∧OwP ((w3.setCell ⟨w.heap.size,k*2,none⟩ (.slice A' x.e.pl.length c')).setCell ⟨w.heap.size,k*2+1,none⟩ (.int .i64 x.e.n)) w.heap.size (zs ++ [⟨x.e,A',c'⟩])):=fun w3 A' c' hb hr hp=>⟨by rw [lE_append,HZ.out.1,HLE.out];rfl,off2 (HZ.out.2.push hb HBw.out.size hp) hr⟩
   generalize hxl:x.e.pl.length=m at c1 HCl HBo hzo ho0 ho1 HPut HLN
   generalize x.e.n=N at c2 HBo hzo ho0 ho1 HPut HLN
   clear hxl HLE
   go_wp2_with fail
   obtain ⟨W2,hW2⟩:∃ W2,wr.alloc (.cells #[.slice x.A m x.c,.int .i64 N] 77)=W2:=⟨_,rfl⟩
   have hBo:Below wr.heap.size wr W2:=by rw [←hW2];exact HBo.out
   have hz2:wr.heap.size<W2.heap.size:=by rw [←hW2];show _<(ownEn wr x.A m x.c N 77).heap.size;rw [hzo];omega
   have HBox:Hid (wr.heap.size<W2.heap.size∧wr.heap.size≠w.heap.size∧W2.cell? ⟨wr.heap.size,0,none⟩=some (.slice x.A m x.c)∧W2.cell? ⟨wr.heap.size,1,none⟩=some (.int .i64 N)):=by rw [←hW2];exact ⟨by rw [hW2];exact hz2,by omega,ho0,ho1⟩
   have HB2:Hid (Below wr.heap.size wr W2):=hBo
   have HRow2:Hid (RowE W2 w.heap.size n zs):=HRow.out.later hBo
   rw [hW2]
   clear hW2 hBo hzo ho0 ho1 HBo c1 c2
   go_region_held3 (fun w'=>W2.grownBy w' (some w.heap.size)∧w'.cell? ⟨wr.heap.size,0,none⟩=some (.slice x.A m x.c)∧w'.cell? ⟨wr.heap.size,1,none⟩=some (.int .i64 N))
    ((refine keepG HBox.out ?_;(repeat (first | exact grown_refl _ _ | assumption | refine grown_drew ?_ | refine grown_set ?_ _ _));done))
    (first | (go_at_call 35;refine (HCl.out _ (onB HB2.out (by go_grown))).mono ?_;rintro e w3 ⟨⟨A',c',rfl,hPT,hNw⟩,hb3⟩;have hN3:=onB (W0:=W2) (by go_grown) hb3;have HNw:=hid_of hNw;clear hNw;have hG3:W2.grownBy w3 (some w.heap.size):=grown_below hN3;have HB3:Hid (Below W2.heap.size W2 w3):=hN3;have HPT:Hid (PlTy w3 A' c' x.e.pl):=hPT;obtain ⟨u0,d0⟩:=Option.isSome_iff_exists.1 ((HRow2.out.later hN3).full (j:=k*2) (by omega));obtain ⟨u1,d1⟩:=Option.isSome_iff_exists.1 ((HRow2.out.later hN3).full (j:=k*2+1) (by omega));have f0:=(HRow2.out.later hN3).frozen (k*2);have f1:=(HRow2.out.later hN3).frozen (k*2+1);clear hb3 hN3 hPT))
   clear d0 d1 f0 f1 hG3
   go_wp2_with fail
   go_roundg (n-(k+1))
   case measure=>omega
   case rel =>
    obtain ⟨h1,h2⟩:=HPut.out w3 A' c' (HRow2.out.later HB3.out) HPT.out
    refine ⟨k+1,_,by omega,rfl,by go_num,?_,hid_of (HLN.out w3 A' c' (onB HB2.out HB3.out) (HRow2.out.later HB3.out) HNw.out),h1,?_⟩
    ·rw [List.length_append,HZL.out];rfl
    ·exact below_grown (onB HBw.out (onB HB2.out HB3.out)) h2 (onB HBw.out (onB HB2.out HB3.out)).size (Nat.le_refl _)
  ·have hke:k=n:=by omega
   subst hke
   have HFin:Hid (lE zs=lE xs∧OwP wr w.heap.size zs):=⟨by rw [HZ.out.1,List.take_of_length_le (by rw [lE_len,HN.out];exact Nat.le_refl _)],HZ.out.2⟩
   clear hRow hBw hzl
   go_wp2_with fail
   go_ret
   exact ⟨⟨zs,rfl,⟨HRow.out,Nat.le_refl _,HFin.out.2.1,HFin.out.2.2⟩,HFin.out.1⟩,HBw.out⟩
end Go.Proofs.YtglekooldbeklaaGreatDoor
