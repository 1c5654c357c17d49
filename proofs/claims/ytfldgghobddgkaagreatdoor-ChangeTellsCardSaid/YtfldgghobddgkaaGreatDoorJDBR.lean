/-
  tallyref2.Change: what a way of the switch is given and what it leaves; Move, Resign.
-/
import Derived.Test.YtfldgghobddgkaaGreatDoorJDBP
import Derived.Test.YtfldgghobddgkaaGreatDoorJDBQ
namespace Go.Proofs.YtfldgghobddgkaaGreatDoor
open Go Go.ChangeShapes Go.WideShapes Go.ChangeAt Go.RowKit
set_option maxRecDepth 1000000
set_option maxHeartbeats 64000000
structure CtH (w0 w:World) (s:Nat→Value) (q:Nat) (A0:Option Addr) (n cap:Nat) (AE:Option Addr) (xl ce:Nat) (wh dm mb tg sg:Int) (nm:ByteArray) (A:Option Addr) (C:Nat) (d:Dm):Prop where
 b:CtB w w0.heap.size A0 n cap wh dm mb tg sg nm
 d:CtD w (q+1) q A C d
 low:w0.heap.size+2<q
 bel:Below w0.heap.size w0 w
 s1:s 1=.slice AE xl ce
 s3:s 3=.pointer (some ⟨w0.heap.size,0,none⟩)
 s5:s 5=.pointer (some ⟨w0.heap.size+1,0,none⟩)
 s6:s 6=.pointer (some ⟨w0.heap.size+2,0,none⟩)
 s9:s 9=.int .i64 0
 s10:s 10=.pointer (some ⟨q,0,none⟩)
 s11:s 11=.slice AE xl ce
 s12:s 12=.int .i64 mb
structure CtO (w0 w':World) (s s':Nat→Value) (q:Nat) (A0:Option Addr) (n cap:Nat) (wh dm mb tg sg:Int) (nm:ByteArray) (E:Int) (d':Dm) (l':List En):Prop where
 b:CtB w' w0.heap.size A0 n cap wh dm mb tg sg nm
 bel:Below w0.heap.size w0 w'
 ag:Ag [9,11,13,14,15,16,17,18,19,20,21,22,23,24,25,26] s s'
 s9:s' 9=.int .i64 E
 d:E=0→∃ A' C',CtD w' (q+1) q A' C' d'
 l:E=0→∃ Av Cv ys,s' 11=.slice Av (ys:List EnL).length Cv∧EnsV w' Av Cv ys∧lE ys=l'
def CtRet (w0:World) (E:Int) (a:Act) (w':World):Prop := ∃ T' s',a=⟨T',[]⟩∧ctF T' s'∧s' 6=.pointer (some ⟨w0.heap.size+2,0,none⟩)∧s' 7=.slice none 0 0∧s' 8=.int .i64 E∧w'.heap[w0.heap.size+2]?=some (.cells #[.slice none 0 0] 24 (0,0))∧Below w0.heap.size w0 w'
section
variable {w0 w:World} {s:Nat→Value} {q:Nat} {A0:Option Addr} {n cap:Nat} {AE:Option Addr} {xl ce:Nat} {wh dm mb tg sg:Int} {nm:ByteArray} {A:Option Addr} {C:Nat} {d:Dm}
theorem CtH.ret (h:CtH w0 w s q A0 n cap AE xl ce wh dm mb tg sg nm A C d) {w1:World} (hB:Below w.heap.size w w1) {T':Array Value} {E:Int} (hF:ctF T' (upG (upG s 7 (.slice none 0 0)) 8 (.int .i64 E))):CtRet w0 E ⟨T',[]⟩ (w1.setCell ⟨w0.heap.size+2,0,none⟩ (.slice none 0 0)):=by
 have hr:=(h.b.later hB).r
 refine ⟨T',_,rfl,hF,by rw [upG_off _ _ (by decide),upG_off _ _ (by decide)];exact h.s6,by rw [upG_off _ _ (by decide),upG_at],upG_at _ _ _,by simp [World.setCell,Array.getElem?_modify,hr],(onB h.bel hB).setCell (by show w0.heap.size≤w0.heap.size+2;omega) _⟩
theorem CtH.kb (h:CtH w0 w s q A0 n cap AE xl ce wh dm mb tg sg nm A C d) {w':World} (hk:Kb (q+1) q w w'):CtB w' w0.heap.size A0 n cap wh dm mb tg sg nm∧Below w0.heap.size w0 w' :=
 ⟨h.b.kb hk h.low (by omega),below_kb h.bel hk (by have:=h.low;omega) (by omega)⟩
end
theorem ctRes (T:Array Value) (s:Nat→Value) (w0 w:World) (q:Nat) (A0:Option Addr) (n cap:Nat) (AE:Option Addr) (ce:Nat) (xs:List EnL) (wh dm tg sg:Int) (i:Nat) (nm:ByteArray) (g C:Nat) (d:Dm) (hF:ctF T s) (h:CtH w0 w s q A0 n cap AE xs.length ce wh dm (i:Nat) tg sg nm (some ⟨g,0,none⟩) C d) (hi:i<d.n) (hE:EnsV w0 AE ce xs) (J Rt:Act→World→Prop)
  (hR:resE sg≠0→∀ a w',CtRet w0 (resE sg) a w'→Rt a w')
  (hJ:∀ T' s' w',resE sg=0→ctF T' s'→CtO w0 w' s s' q A0 n cap wh dm (i:Nat) tg sg nm 0 (resD d i sg) (lE xs)→J ⟨T',[]⟩ w'):Code.wp Tryz.prog (ctC [1,1,1,1,1,1,1,1,1,0,1,3,1,5,1,5,1,5,1,5,1,2]) (Exit.then J (QR Rt)) ⟨T,[]⟩ w:=by
 rw [show (ctC [1,1,1,1,1,1,1,1,1,0,1,3,1,5,1,5,1,5,1,5,1,2])=(.seq (.seq (ctC [1,1,1,1,1,1,1,1,1,0,1,3,1,5,1,5,1,5,1,5,1,2,0,0]) (.cond (.tmp 397) (ctC [1,1,1,1,1,1,1,1,1,0,1,3,1,5,1,5,1,5,1,5,1,2,0,1,2]) .skip)) (ctC [1,1,1,1,1,1,1,1,1,0,1,3,1,5,1,5,1,5,1,5,1,2,1])) from rfl]
 refine wp_seq (wp_seq (ctL72 T s w0.heap.size sg w hF h.s5 h.b.xs _ _ fun T1 hF1 he=>?_))
 by_cases h1:sg < -1∨1<sg
 ·rw [decide_eq_true h1] at he
  have hz:resE sg=1:=by unfold resE;rw [if_pos h1]
  exact wp_cond_true he (wp_qr (ctR73 T1 s _ _ w hF1 h.s6 h.b.r _ _ fun T2 hF2=>hR (by rw [hz];decide) _ _ (by rw [hz];exact h.ret (Below.refl _ _) hF2)) fun _ _ h=>h)
 ·rw [decide_eq_false h1] at he
  have hz:resE sg=0:=by unfold resE;rw [if_neg h1]
  have hM:=cellsMb_set (M:=d.mem) (n:=d.n) (i:=i) (f:=2) (v:=.int .i64 sg) (m:=⟨(d.mem i).name,(d.mem i).parent,sg,(d.mem i).formula⟩) hi (by omega) rfl fun f' hf hne=>by
   have:f'=0∨f'=1∨f'=3:=by omega
   rcases this with rfl | rfl | rfl <;> rfl
  refine wp_cond_false he (wp_skip (ctL74 T1 s w0.heap.size q (q+1) g C i d _ sg w hF1 h.s5 h.s10 h.s12 h.b.xs h.d hi hM _ _ fun T2 w2 hF2 hD2 hK=>?_))
  obtain ⟨hb,hB⟩:=h.kb hK
  exact hJ T2 s w2 hz hF2 ⟨hb,hB,Ag.refl _ _,h.s9,fun _=>⟨_,_,hD2⟩,fun _=>⟨_,_,xs,h.s11,hE.later hB,rfl⟩⟩
theorem ctMov (T:Array Value) (s:Nat→Value) (w0 w:World) (q:Nat) (A0:Option Addr) (n cap:Nat) (AE:Option Addr) (ce:Nat) (xs:List EnL) (wh tg sg:Int) (k i:Nat) (nm:ByteArray) (g C:Nat) (d:Dm) (hF:ctF T s) (h:CtH w0 w s q A0 n cap AE xs.length ce wh (k:Nat) (i:Nat) tg sg nm (some ⟨g,0,none⟩) C d) (hi:i<d.n) (hE:EnsV w0 AE ce xs) (hp:∀ j,j<xs.length→k<(xs.getD j noL).e.pl.length) (hneg:wrAt (lE xs) k (-1)=false) (J Rt:Act→World→Prop)
  (hR:moveE d (lE xs) k i tg≠0→∀ a w',CtRet w0 (moveE d (lE xs) k i tg) a w'→Rt a w')
  (hJ:∀ T' s' w',moveE d (lE xs) k i tg=0→ctF T' s'→CtO w0 w' s s' q A0 n cap wh (k:Nat) (i:Nat) tg sg nm 0 (movD d i tg) (lE xs)→J ⟨T',[]⟩ w'):Code.wp Tryz.prog (ctC [1,1,1,1,1,1,1,1,1,0,1,3,1,5,1,5,1,5,1,2]) (Exit.then J (QR Rt)) ⟨T,[]⟩ w:=by
 rw [show (ctC [1,1,1,1,1,1,1,1,1,0,1,3,1,5,1,5,1,5,1,2])=(.seq (.seq (ctC [1,1,1,1,1,1,1,1,1,0,1,3,1,5,1,5,1,5,1,2,0,0]) (.cond (.tmp 346) (ctC [1,1,1,1,1,1,1,1,1,0,1,3,1,5,1,5,1,5,1,2,0,1,2]) .skip)) (.seq (.seq (ctC [1,1,1,1,1,1,1,1,1,0,1,3,1,5,1,5,1,5,1,2,1,0,0]) (.cond (.tmp 379) (ctC [1,1,1,1,1,1,1,1,1,0,1,3,1,5,1,5,1,5,1,2,1,0,1,2]) .skip)) (ctC [1,1,1,1,1,1,1,1,1,0,1,3,1,5,1,5,1,5,1,2,1,1]))) from rfl]
 obtain ⟨-,-,hcc,-,-⟩:=ow_blk h.d.row
 refine wp_seq (wp_seq (ctL66 T s w0.heap.size i tg w hF h.s5 h.s12 h.b.xt _ _ fun T1 hF1 he=>?_))
 by_cases h1:tg < -1∨(i:Int)≤tg
 ·rw [decide_eq_true h1] at he
  have hz:moveE d (lE xs) k i tg=1:=by unfold moveE;rw [if_pos h1]
  exact wp_cond_true he (wp_qr (ctR67 T1 s _ _ w hF1 h.s6 h.b.r _ _ fun T2 hF2=>hR (by rw [hz];decide) _ _ (by rw [hz];exact h.ret (Below.refl _ _) hF2)) fun _ _ h=>h)
 ·rw [decide_eq_false h1] at he
  obtain ⟨-,x1,-,-⟩:=cellsMb_at d.mem d.n i hi
  have y1:=(h.d.row.cellAt (i*4+1) (by omega)).trans x1
  refine wp_cond_false he (wp_skip (wp_seq (wp_seq (ctL68 T1 s w0.heap.size q g d.n C i xs.length ce AE (k:Nat) tg (d.mem i).parent (d.mem tg.toNat).formula (wrAt (lE xs) k tg) w hF1 h.s1 h.s5 h.s10 h.s12 h.b.xd h.b.xt h.d.c2 y1 hi hcc (by omega) (fun t ht=>?_) (fun w1 hb1=>rwritten2_any AE ce xs k tg w1 (hE.later (onB h.bel hb1)) hp) _ _ fun T2 w2 hF2 he2 hb2=>?_))))
  ·have htn:t<d.n:=by omega
   obtain ⟨-,-,-,x3⟩:=cellsMb_at d.mem d.n t htn
   rw [show tg.toNat=t by omega]
   exact (h.d.row.cellAt (t*4+3) (by omega)).trans x3
  have hiff:moveE d (lE xs) k i tg=if (tg=(d.mem i).parent∨0≤tg∧((d.mem tg.toNat).formula.toList.isEmpty=false∨wrAt (lE xs) k tg=true)) then 6 else 0:=by
   unfold moveE
   rw [if_neg h1]
   have hem:(d.mem tg.toNat).formula.toList.isEmpty=false↔(d.mem tg.toNat).formula.size≠0:=by rw [empty_same];simp
   have hP:(tg=(d.mem i).parent∨wrAt (lE xs) k tg=true∨tg≠-1∧(d.mem tg.toNat).formula.size≠0)↔(tg=(d.mem i).parent∨0≤tg∧((d.mem tg.toNat).formula.toList.isEmpty=false∨wrAt (lE xs) k tg=true)):=by
    rw [hem]
    by_cases hm1:tg = -1
    ·subst hm1
     rw [hneg]
     constructor
     ·rintro (h | h | h)
      ·exact Or.inl h
      ·cases h
      ·exact absurd rfl h.1
     ·rintro (h | h)
      ·exact Or.inl h
      ·omega
    ·have h0:0≤tg:=by omega
     constructor
     ·rintro (h | h | h)
      ·exact Or.inl h
      ·exact Or.inr ⟨h0,Or.inr h⟩
      ·exact Or.inr ⟨h0,Or.inl h.2⟩
     ·rintro (h | ⟨-,h | h⟩)
      ·exact Or.inl h
      ·exact Or.inr (Or.inr ⟨hm1,h⟩)
      ·exact Or.inr (Or.inl h)
   by_cases hB:tg=(d.mem i).parent∨0≤tg∧((d.mem tg.toNat).formula.toList.isEmpty=false∨wrAt (lE xs) k tg=true)
   ·rw [if_pos hB,if_pos (hP.2 hB)]
   ·rw [if_neg hB,if_neg fun h=>hB (hP.1 h)]
  by_cases h2:tg=(d.mem i).parent∨0≤tg∧((d.mem tg.toNat).formula.toList.isEmpty=false∨wrAt (lE xs) k tg=true)
  ·rw [decide_eq_true h2] at he2
   have hz:moveE d (lE xs) k i tg=6:=by rw [hiff,if_pos h2]
   exact wp_cond_true he2 (wp_qr (ctR69 T2 s _ _ w2 hF2 h.s6 (h.b.later hb2).r _ _ fun T3 hF3=>hR (by rw [hz];decide) _ _ (by rw [hz];exact h.ret hb2 hF3)) fun _ _ h=>h)
  ·rw [decide_eq_false h2] at he2
   have hz:moveE d (lE xs) k i tg=0:=by rw [hiff,if_neg h2]
   have hM:=cellsMb_set (M:=d.mem) (n:=d.n) (i:=i) (f:=1) (v:=.int .i64 tg) (m:=⟨(d.mem i).name,tg,(d.mem i).sign,(d.mem i).formula⟩) hi (by omega) rfl fun f' hf hne=>by
    have:f'=0∨f'=2∨f'=3:=by omega
    rcases this with rfl | rfl | rfl <;> rfl
   refine wp_cond_false he2 (wp_skip (ctL70 T2 s w0.heap.size q (q+1) g C i d _ tg w2 hF2 h.s5 h.s10 h.s12 (h.b.later hb2).xt (h.d.later hb2) hi hM _ _ fun T3 w3 hF3 hD3 hK=>?_))
   have hb3:=(h.b.later hb2).kb hK h.low (by omega)
   have hB3:=below_kb (onB h.bel hb2) hK (by have:=h.low;omega) (by omega)
   exact hJ T3 s w3 hz hF3 ⟨hb3,hB3,Ag.refl _ _,h.s9,fun _=>⟨_,_,hD3⟩,fun _=>⟨_,_,xs,h.s11,hE.later hB3,rfl⟩⟩
theorem ctAdd (T:Array Value) (s:Nat→Value) (w0 w:World) (q:Nat) (A0:Option Addr) (n cap:Nat) (AE:Option Addr) (ce:Nat) (xs:List EnL) (wh mb tg sg:Int) (k:Nat) (nm:ByteArray) (A:Option Addr) (C:Nat) (d:Dm) (hF:ctF T s) (h:CtH w0 w s q A0 n cap AE xs.length ce wh (k:Nat) mb tg sg nm A C d) (hn:d.n≤12) (hE:EnsV w0 AE ce xs) (hp:∀ j,j<xs.length→k<(xs.getD j noL).e.pl.length) (hneg:∀ t:Int,t<0→wrAt (lE xs) k t=false) (J Rt:Act→World→Prop)
  (hJ:∀ T' s' w',ctF T' s'→CtO w0 w' s s' q A0 n cap wh (k:Nat) mb tg sg nm (addE d (lE xs) k ⟨nm,tg,sg,⟨#[]⟩⟩) (addD d ⟨nm,tg,sg,⟨#[]⟩⟩) (lE xs)→J ⟨T',[]⟩ w'):Code.wp Tryz.prog (ctC [1,1,1,1,1,1,1,1,1,0,1,3,1,2]) (Exit.then J (QR Rt)) ⟨T,[]⟩ w:=by
 rw [show (ctC [1,1,1,1,1,1,1,1,1,0,1,3,1,2])=(.seq (ctC [1,1,1,1,1,1,1,1,1,0,1,3,1,2,0]) (.seq (ctC [1,1,1,1,1,1,1,1,1,0,1,3,1,2,1,0]) (.seq (ctC [1,1,1,1,1,1,1,1,1,0,1,3,1,2,1,1,0]) (.cond (.tmp 141) (ctC [1,1,1,1,1,1,1,1,1,0,1,3,1,2,1,1,1,2]) .skip)))) from rfl]
 refine wp_seq (ctL14 T s w0.heap.size q (q+1) C A d nm tg sg w hF h.s5 h.s10 h.b.xn h.b.xt h.b.xs h.d hn h.d.lt _ _ fun T1 w1 A1 C1 hF1 hD1 hK1=>?_)
 obtain ⟨hb1,hB1⟩:=h.kb hK1
 obtain ⟨d',hd'⟩:∃ d',addD d ⟨nm,tg,sg,⟨#[]⟩⟩=d':=⟨_,rfl⟩
 have hae:addE d (lE xs) k ⟨nm,tg,sg,⟨#[]⟩⟩=if (dimErr d').2≠0 then (dimErr d').2 else if wrAt (lE xs) k tg=true then 6 else 0:=by unfold addE;rw [hd']
 rw [hae,hd'] at hJ
 rw [hd'] at hD1
 have hrd:=rdim_any d' A1 C1 w1 hD1.mems
 refine wp_seq (ctL15 T1 s q d'.n C1 A1 d'.name d'.solve (dimErr d').2 w1 hF1 h.s10 ((Lib.cell_of_heap hD1.box 0).trans rfl) ((Lib.cell_of_heap hD1.box 1).trans rfl) hD1.c2 (hrd.mono fun e w' ⟨he,hb⟩=>⟨⟨_,he⟩,hb⟩) _ _ fun T2 w2 hF2 hb2=>?_)
 have hB2:=onB hB1 hb2
 have hA2:Ag [9,11,13,14,15,16,17,18,19,20,21,22,23,24,25,26] s (upG s 9 (.int .i64 (dimErr d').2)):=(Ag.refl _ _).up (by decide)
 have hB2b:=hb1.later hb2
 refine wp_seq (ctL16 T2 _ w0.heap.size xs.length ce AE (dimErr d').2 (k:Nat) tg (wrAt (lE xs) k tg) w2 hF2 ((hA2 1 (by decide)).trans h.s1) ((hA2 5 (by decide)).trans h.s5) (upG_at _ _ _) hB2b.xd hB2b.xt (fun _ _=>rwritten2_any AE ce xs k tg w2 (hE.later hB2) hp) _ _ fun T3 w3 hF3 he hb3=>?_)
 have hB3:=onB hB2 hb3
 have hout:∀ (E:Int) (s3:Nat→Value),Ag [9,11,13,14,15,16,17,18,19,20,21,22,23,24,25,26] s s3→s3 9=.int .i64 E→s3 11=s 11→CtO w0 w3 s s3 q A0 n cap wh (k:Nat) mb tg sg nm E d' (lE xs):=fun E s3 ha h9 h11 =>
  ⟨hB2b.later hb3,hB3,ha,h9,fun _=>⟨_,_,(hD1.later hb2).later hb3⟩,fun _=>⟨_,_,xs,h11.trans h.s11,hE.later hB3,rfl⟩⟩
 by_cases h1:(dimErr d').2=0∧0≤tg∧wrAt (lE xs) k tg=true
 ·rw [decide_eq_true h1] at he
  refine wp_cond_true he (ctL17 T3 _ w3 hF3 _ _ fun T4 hF4=>hJ T4 _ w3 hF4 ?_)
  rw [if_neg (by simpa using h1.1),if_pos h1.2.2]
  exact hout 6 _ (hA2.up (by decide)) (upG_at _ _ _) (by rw [upG_off _ _ (by decide),upG_off _ _ (by decide)])
 ·rw [decide_eq_false h1] at he
  refine wp_cond_false he (wp_skip (hJ T3 _ w3 hF3 ?_))
  have e:(if (dimErr d').2≠0 then (dimErr d').2 else if wrAt (lE xs) k tg=true then 6 else 0)=(dimErr d').2:=by
   by_cases h2:(dimErr d').2≠0
   ·rw [if_pos h2]
   ·rw [if_neg h2]
    have h20:(dimErr d').2=0:=by simpa using h2
    rw [h20,if_neg]
    intro hw
    by_cases h3:0≤tg
    ·exact h1 ⟨h20,h3,hw⟩
    ·rw [hneg tg (by omega)] at hw;cases hw
  rw [e]
  exact hout _ _ hA2 (upG_at _ _ _) (by rw [upG_off _ _ (by decide)])
theorem parts_some {M:Nat→Mem} {n i:Nat}:(0<(partsOf M n (i:Int)).length)↔0≤findFrom (fun j=>decide ((M j).parent=(i:Int))) n 0:=by
 have key:∀ k:Nat,(0<(selTo (partB M (i:Int)) k).length)↔∃ j,j<k∧(M j).parent=(i:Int):=by
  intro k
  induction k with
  | zero=>exact ⟨fun h=>by simp [selTo] at h,fun ⟨j,h,_⟩=>absurd h (Nat.not_lt_zero _)⟩
  | succ k ih =>
   cases hb:partB M (i:Int) k with
   | true =>
    rw [selTo_hit hb]
    exact ⟨fun _=>⟨k,Nat.lt_succ_self _,by unfold partB at hb;simpa using hb⟩,fun _=>by rw [List.length_append];simp⟩
   | false =>
    rw [selTo_miss hb,ih]
    constructor
    ·rintro ⟨j,h1,h2⟩;exact ⟨j,by omega,h2⟩
    ·rintro ⟨j,h1,h2⟩
     by_cases e:j=k
     ·subst e
      unfold partB at hb
      rw [h2] at hb;simp at hb
     ·exact ⟨j,by omega,h2⟩
 unfold partsOf
 rw [key]
 rcases findFrom_cases (fun j=>decide ((M j).parent=(i:Int))) n 0 with ⟨e,h⟩ | ⟨k,e,-,h2,h3,-⟩
 ·rw [e]
  exact ⟨fun ⟨j,h1,h2⟩=>(by have:=h j (Nat.zero_le _) (by omega);simp [h2] at this),fun h=>absurd h (by decide)⟩
 ·rw [e]
  exact ⟨fun _=>by omega,fun _=>⟨k,by omega,by simpa using h3⟩⟩
theorem ctRem (T:Array Value) (s:Nat→Value) (w0 w:World) (q:Nat) (A0:Option Addr) (n cap:Nat) (AE:Option Addr) (ce:Nat) (xs:List EnL) (wh tg sg:Int) (k i:Nat) (nm:ByteArray) (g C:Nat) (d:Dm) (hF:ctF T s) (h:CtH w0 w s q A0 n cap AE xs.length ce wh (k:Nat) (i:Nat) tg sg nm (some ⟨g,0,none⟩) C d) (hn:d.n≤12) (hi:i<d.n) (hE:EnsV w0 AE ce xs) (hx:xs.length≤3000)
  (hsh:∀ e∈lE xs,k<e.pl.length∧e.pl.length≤4∧-1≤e.pl.getD k 0∧e.pl.getD k 0≤1000) (hpar:∀ j,j<d.n→-1≤(d.mem j).parent∧(d.mem j).parent≤1000) (J Rt:Act→World→Prop)
  (hR:remE d i≠0→∀ a w',CtRet w0 (remE d i) a w'→Rt a w')
  (hJ:∀ T' s' w',remE d i=0→ctF T' s'→CtO w0 w' s s' q A0 n cap wh (k:Nat) (i:Nat) tg sg nm (rErr (remD d i)).2 (remD d i) (remL (lE xs) k (i:Nat))→J ⟨T',[]⟩ w'):Code.wp Tryz.prog (ctC [1,1,1,1,1,1,1,1,1,0,1,3,1,5,1,2]) (Exit.then J (QR Rt)) ⟨T,[]⟩ w:=by
 rw [show (ctC [1,1,1,1,1,1,1,1,1,0,1,3,1,5,1,2])=(.seq (.seq (ctC [1,1,1,1,1,1,1,1,1,0,1,3,1,5,1,2,0,0]) (.cond (.tmp 154) (ctC [1,1,1,1,1,1,1,1,1,0,1,3,1,5,1,2,0,1,2]) .skip)) (.seq (ctC [1,1,1,1,1,1,1,1,1,0,1,3,1,5,1,2,1,0]) (.seq (ctC [1,1,1,1,1,1,1,1,1,0,1,3,1,5,1,2,1,1,0]) (.seq (ctC [1,1,1,1,1,1,1,1,1,0,1,3,1,5,1,2,1,1,1,0]) (.seq (ctC [1,1,1,1,1,1,1,1,1,0,1,3,1,5,1,2,1,1,1,1,0]) (.seq (ctC [1,1,1,1,1,1,1,1,1,0,1,3,1,5,1,2,1,1,1,1,1,0]) (ctC [1,1,1,1,1,1,1,1,1,0,1,3,1,5,1,2,1,1,1,1,1,1]))))))) from rfl]
 have hpt:=rparts_any d g 0 C (i:Nat) w hn (ow_mems h.d.row)
 refine wp_seq (wp_seq (ctL19 T s q d.n C (some ⟨g,0,none⟩) d.name d.solve i (partsOf d.mem d.n (i:Nat)).length w hF h.s10 h.s12 ((Lib.cell_of_heap h.d.box 0).trans rfl) ((Lib.cell_of_heap h.d.box 1).trans rfl) h.d.c2 (hpt.mono fun e w' ⟨⟨A',c',he,_⟩,hb⟩=>⟨⟨A',c',he⟩,hb⟩) _ _ fun T1 w1 hF1 he hb1=>?_))
 have hB1:=onB h.bel hb1
 have hb1b:=h.b.later hb1
 have hiff:remE d i=if 0<(partsOf d.mem d.n (i:Nat)).length∨d.n=1 then 6 else 0:=by
  unfold remE
  by_cases h1:0<(partsOf d.mem d.n (i:Nat)).length∨d.n=1
  ·rw [if_pos h1,if_pos (h1.elim (fun h=>Or.inr (parts_some.1 h)) Or.inl)]
  ·rw [if_neg h1,if_neg fun h=>h1 (h.elim Or.inr fun h=>Or.inl (parts_some.2 h))]
 by_cases h1:0<(partsOf d.mem d.n (i:Nat)).length∨d.n=1
 ·rw [decide_eq_true h1] at he
  have hz:remE d i=6:=by rw [hiff,if_pos h1]
  exact wp_cond_true he (wp_qr (ctR20 T1 s _ _ w1 hF1 h.s6 hb1b.r _ _ fun T2 hF2=>hR (by rw [hz];decide) _ _ (by rw [hz];exact h.ret hb1 hF2)) fun _ _ h=>h)
 ·rw [decide_eq_false h1] at he
  have hz:remE d i=0:=by rw [hiff,if_neg h1]
  have hD1:=h.d.later hb1
  refine wp_cond_false he (wp_skip (wp_seq (ctL21 T1 s w1 hF1 _ _ fun T2 hF2=>?_)))
  have hA2:Ag [9,11,13,14,15,16,17,18,19,20,21,22,23,24,25,26] s (upG s 13 (.slice none 0 0)):=(Ag.refl _ _).up (by decide)
  refine wp_seq (ctMs T2 _ w1 q (q+1) g C i d hF2 ((hA2 10 (by decide)).trans h.s10) ((hA2 12 (by decide)).trans h.s12) (upG_at _ _ _) hD1 hn hi hpar _ _ fun T3 s3 w3 Av Cv hF3 hA3 h313 ho3 hb3=>?_)
  have hA3':=hA2.trans (hA3.wide (by decide))
  have hbx3:w3.heap[q]?=_:=(hb3.block _ hD1.lt).trans hD1.box
  refine wp_seq (ctL30 T3 s3 q (d.n-1) Cv Av _ _ _ w3 hF3 ((hA3' 10 (by decide)).trans h.s10) h313 hbx3 _ _ fun T4 hF4=>?_)
  obtain ⟨hD4,hK4⟩:=CtD.put (wa:=w3) (w1:=w3) hbx3 (Below.refl _ _) (ow_base ho3 hD1.lt) (grown_refl _ _)
  have hl:=h.low
  have hb4:CtB (w3.setCell ⟨q,2,none⟩ (.slice Av (d.n-1) Cv)) w0.heap.size A0 n cap wh (k:Nat) (i:Nat) tg sg nm:=(hb1b.later hb3).keep (setCell_off _ _ _ _ _ (by omega)) (setCell_off _ _ _ _ _ (by omega)) (setCell_off _ _ _ _ _ (by omega))
  have hB4:Below w0.heap.size w0 (w3.setCell ⟨q,2,none⟩ (.slice Av (d.n-1) Cv)):=(onB hB1 hb3).setCell (by show w0.heap.size≤q;omega) _
  generalize w3.setCell ⟨q,2,none⟩ (.slice Av (d.n-1) Cv)=w4 at hD4 hb4 hB4 ⊢
  refine wp_seq (ctL31 T4 s3 w4 hF4 _ _ fun T5 hF5=>?_)
  have hA5:Ag [9,11,13,14,15,16,17,18,19,20,21,22,23,24,25,26] s (upG s3 11 (.slice none 0 0)):=hA3'.up (by decide)
  refine wp_seq (ctEs T5 _ w4 w0.heap.size k i ce AE xs wh (i:Nat) tg sg nm hF5 ((hA5 1 (by decide)).trans h.s1) ((hA5 5 (by decide)).trans h.s5) (upG_at _ _ _) ((hA5 12 (by decide)).trans h.s12) (hE.later hB4) hx hsh hb4.c _ _ fun T6 s6 w6 Ao Co ys hF6 hA6 h611 hys hV6 hb6=>?_)
  have hA6':=hA5.trans (hA6.wide (by decide))
  have hD6:=hD4.later hb6
  have hnd:=sneeds_any (remD d i) Av Cv w6 hD6.mems
  refine ctL40 T6 s6 q (d.n-1) Cv Av d.name d.solve (rErr (remD d i)).2 w6 hF6 ((hA6' 10 (by decide)).trans h.s10) ((Lib.cell_of_heap hD6.box 0).trans rfl) ((Lib.cell_of_heap hD6.box 1).trans rfl) hD6.c2 (hnd.mono fun e w' ⟨⟨A',c',zs,he,_⟩,hb⟩=>⟨⟨_,_,he⟩,hb⟩) _ _ fun T7 w7 hF7 hb7=>?_
  refine hJ T7 _ w7 hz hF7 ⟨(hb4.later hb6).later hb7,onB hB4 (onB hb6 hb7),hA6'.up (by decide),upG_at _ _ _,fun _=>⟨_,_,hD6.later hb7⟩,fun _=>⟨Ao,Co,ys,by rw [upG_off _ _ (by decide)];exact h611,hV6.later hb7,hys⟩⟩
theorem ctFos0 (T:Array Value) (s:Nat→Value) (w:World) (q B C:Nat) (A:Option Addr) (d:Dm) (E:Int) (hE0:E≠0) (hF:ctF T s) (h9:s 9=.int .i64 E) (h10:s 10=.pointer (some ⟨q,0,none⟩)) (h:CtD w B q A C d) (J:Act→World→Prop) (Q:Exit→Act→World→Prop)
  (hJ:∀ T',ctF T' (upG s 20 (.int .i64 (0:Nat)))→J ⟨T',[]⟩ w):Code.wp Tryz.prog (ctC [1,1,1,1,1,1,1,1,1,0,1,3,1,5,1,5,1,2,1,1,1,1,0]) (Exit.then J Q) ⟨T,[]⟩ w:=by
 rw [show (ctC [1,1,1,1,1,1,1,1,1,0,1,3,1,5,1,5,1,2,1,1,1,1,0])=(.seq (ctC [1,1,1,1,1,1,1,1,1,0,1,3,1,5,1,5,1,2,1,1,1,1,0,0]) (.block 5 (.loop (.seq (.seq (ctC [1,1,1,1,1,1,1,1,1,0,1,3,1,5,1,5,1,2,1,1,1,1,0,1,3,4,0,0]) (.cond (.tmp 266) .skip (.exit 5))) (.seq (.block 6 (ctC [1,1,1,1,1,1,1,1,1,0,1,3,1,5,1,5,1,2,1,1,1,1,0,1,3,4,1,0,3])) (ctC [1,1,1,1,1,1,1,1,1,0,1,3,1,5,1,5,1,2,1,1,1,1,0,1,3,4,1,1])))))) from rfl]
 refine wp_seq (ctL47 T s w hF _ _ fun T2 hF2=>?_)
 refine for_wpc 0 (fun _=>false) rfl
  (fun k s' w'=>k=0∧s'=upG s 20 (.int .i64 (0:Nat))∧w'=w)
  (fun _ _ _=>False)
  ?_ ?_ ?_ hF2 ⟨rfl,rfl,rfl⟩ ?_
 ·rintro k T s' w' hk hF ⟨rfl,rfl,rfl⟩ K Q hKK
  refine ctL48 T _ q 0 d.n C A E _ hF (by rw [upG_off _ _ (by decide)];exact h9) (by rw [upG_off _ _ (by decide)];exact h10) (upG_at _ _ _) h.c2 _ _ fun T' hF' he=>hKK T' hF' ?_
  rw [he,decide_eq_false fun h=>hE0 h.2]
 ·rintro k T s' w' hk htb;cases htb
 ·rintro k T s' w' hk hF h;exact h.elim
 ·rintro k T3 s3 w3 hk hkf hF3 ⟨-,rfl,rfl⟩
  exact hJ T3 hF3
theorem cellsMb_only {M M':Nat→Mem} {n:Nat} (h:∀ j,j<n→M j=M' j):cellsMb M n=cellsMb M' n:=by
 induction n with
 | zero=>rfl
 | succ n ih=>rw [cellsMb,cellsMb,ih fun j hj=>h j (by omega),h n (Nat.lt_succ_self n)]
theorem CtD.only {w:World} {B q C n:Nat} {A:Option Addr} {nm:ByteArray} {sv:Int} {M M':Nat→Mem} (h:CtD w B q A C ⟨nm,sv,n,M⟩) (hM:∀ j,j<n→M j=M' j):CtD w B q A C ⟨nm,sv,n,M'⟩ :=
 ⟨h.box,by have:=h.row;rwa [show cellsMb (Dm.mem ⟨nm,sv,n,M⟩) (Dm.n ⟨nm,sv,n,M⟩)=cellsMb M' n from cellsMb_only hM] at this⟩
theorem same_iffL {s t:ByteArray}:same s t=true↔s.toList=t.toList:=by unfold same;simp
theorem same_sym (s t:ByteArray):same s t=same t s:=by
 refine Bool.eq_iff_iff.2 ?_
 rw [same_iffL,same_iffL]
 exact eq_comm
def rnE (d:Dm) (i:Nat) (nm:ByteArray):Int:=if renE d i nm≠0 then renE d i nm else foE d.mem (d.mem i).name nm d.n
theorem foE_le {M:Nat→Mem} {old nm:ByteArray} {k n:Nat} (hk:k≤n) (h:foE M old nm k≠0):foE M old nm k=4∧foE M old nm n=4:=by
 unfold foE at h ⊢
 by_cases h1:(List.range k).any (fun j=>decide (100<(refT old nm (M j).formula).size))=true
 ·refine ⟨if_pos h1,if_pos ?_⟩
  obtain ⟨j,hj,hx⟩:=List.any_eq_true.1 h1
  exact List.any_eq_true.2 ⟨j,List.mem_range.2 (by have:=List.mem_range.1 hj;omega),hx⟩
 ·rw [if_neg h1] at h;exact absurd rfl h
theorem ctRen (T:Array Value) (s:Nat→Value) (w0 w:World) (q:Nat) (A0:Option Addr) (n cap:Nat) (AE:Option Addr) (ce:Nat) (xs:List EnL) (wh dm tg sg:Int) (i:Nat) (nm:ByteArray) (g C:Nat) (d:Dm) (hF:ctF T s) (h:CtH w0 w s q A0 n cap AE xs.length ce wh dm (i:Nat) tg sg nm (some ⟨g,0,none⟩) C d) (hn:d.n≤12) (hi:i<d.n) (hE:EnsV w0 AE ce xs)
  (hfo:∀ j,j<d.n→(d.mem j).formula.size=0∨((d.mem j).formula.size≤100∧prsE (d.mem j).formula=0)) (hdis:∀ a b,a<d.n→b<d.n→same (d.mem a).name (d.mem b).name=true→a=b) (J Rt:Act→World→Prop)
  (hJ:∀ T' s' w',ctF T' s'→CtO w0 w' s s' q A0 n cap wh dm (i:Nat) tg sg nm (rnE d i nm) (renD d i nm) (lE xs)→J ⟨T',[]⟩ w'):Code.wp Tryz.prog (ctC [1,1,1,1,1,1,1,1,1,0,1,3,1,5,1,5,1,2]) (Exit.then J (QR Rt)) ⟨T,[]⟩ w:=by
 rw [show (ctC [1,1,1,1,1,1,1,1,1,0,1,3,1,5,1,5,1,2])=(.seq (ctC [1,1,1,1,1,1,1,1,1,0,1,3,1,5,1,5,1,2,0]) (.seq (ctC [1,1,1,1,1,1,1,1,1,0,1,3,1,5,1,5,1,2,1,0]) (.seq (.seq (ctC [1,1,1,1,1,1,1,1,1,0,1,3,1,5,1,5,1,2,1,1,0,0]) (.cond (.tmp 251) (ctC [1,1,1,1,1,1,1,1,1,0,1,3,1,5,1,5,1,2,1,1,0,1,2]) .skip)) (.seq (ctC [1,1,1,1,1,1,1,1,1,0,1,3,1,5,1,5,1,2,1,1,1,0]) (.seq (ctC [1,1,1,1,1,1,1,1,1,0,1,3,1,5,1,5,1,2,1,1,1,1,0]) (ctC [1,1,1,1,1,1,1,1,1,0,1,3,1,5,1,5,1,2,1,1,1,1,1])))))) from rfl]
 obtain ⟨-,-,hcc,-,-⟩:=ow_blk h.d.row
 have hl:=h.low
 refine wp_seq (ctL42 T s w0.heap.size nm (nameErr nm) w hF h.s5 h.b.xn ((rname_any nm w).mono fun e w' ⟨he,hw⟩=>⟨he,by rw [hw];exact Below.refl _ _⟩) _ _ fun T1 w1 hF1 hb1=>?_)
 have hA1:Ag [9,11,13,14,15,16,17,18,19,20,21,22,23,24,25,26] s (upG s 9 (.int .i64 (nameErr nm))):=(Ag.refl _ _).up (by decide)
 have hD1:=h.d.later hb1
 have hbx1:=h.b.later hb1
 have hwh:=where_any d (some ⟨g,0,none⟩) C nm w1 hn hD1.mems
 refine wp_seq (ctL43 T1 _ w0.heap.size q d.n C (some ⟨g,0,none⟩) d.name nm d.solve (findFrom (fun j=>same (d.mem j).name nm) d.n 0) w1 hF1 ((hA1 5 (by decide)).trans h.s5) ((hA1 10 (by decide)).trans h.s10) hbx1.xn ((Lib.cell_of_heap hD1.box 0).trans rfl) ((Lib.cell_of_heap hD1.box 1).trans rfl) hD1.c2 hwh _ _ fun T2 w2 hF2 hb2=>?_)
 have hA2:=hA1.up (k:=18) (v:=.int .i64 (findFrom (fun j=>same (d.mem j).name nm) d.n 0)) (by decide)
 have hD2:=hD1.later hb2
 have hbx2:=hbx1.later hb2
 have hB2:=onB h.bel (onB hb1 hb2)
 have hdup:(nameErr nm=0∧0≤findFrom (fun j=>same (d.mem j).name nm) d.n 0∧findFrom (fun j=>same (d.mem j).name nm) d.n 0≠(i:Int))↔(nameErr nm=0∧same nm (d.mem i).name=false∧0≤findFrom (fun j=>same (d.mem j).name nm) d.n 0):=by
  rcases findFrom_cases (fun j=>same (d.mem j).name nm) d.n 0 with ⟨e,-⟩ | ⟨k,e,-,h2,h3,-⟩
  ·rw [e];constructor
   ·rintro ⟨_,h,_⟩;omega
   ·rintro ⟨_,_,h⟩;omega
  ·rw [e]
   have h3':same (d.mem k).name nm=true:=h3
   constructor
   ·rintro ⟨a1,a2,a3⟩
    refine ⟨a1,?_,a2⟩
    cases hs:same nm (d.mem i).name with
    | false=>rfl
    | true=>exact absurd (hdis k i (by omega) hi (same_iffL.2 ((same_iffL.1 h3').trans (same_iffL.1 hs)))) (by omega)
   ·rintro ⟨a1,a2,a3⟩
    refine ⟨a1,a3,fun hki=>?_⟩
    have:k=i:=by omega
    subst this
    rw [same_sym] at h3'
    rw [h3'] at a2;cases a2
 refine wp_seq (wp_seq (ctL44 T2 _ i (nameErr nm) _ w2 hF2 (by rw [upG_off _ _ (by decide),upG_at]) ((hA2 12 (by decide)).trans h.s12) (upG_at _ _ _) _ _ fun T3 hF3 he=>?_))
 obtain ⟨-,-,-,-⟩:=cellsMb_at d.mem d.n i hi
 have rest:∀ T4 s4,ctF T4 s4→Ag [9,11,13,14,15,16,17,18,19,20,21,22,23,24,25,26] s s4→s4 9=.int .i64 (renE d i nm)→s4 11=s 11→Code.wp Tryz.prog (.seq (ctC [1,1,1,1,1,1,1,1,1,0,1,3,1,5,1,5,1,2,1,1,1,0]) (.seq (ctC [1,1,1,1,1,1,1,1,1,0,1,3,1,5,1,5,1,2,1,1,1,1,0]) (ctC [1,1,1,1,1,1,1,1,1,0,1,3,1,5,1,5,1,2,1,1,1,1,1]))) (Exit.then J (QR Rt)) ⟨T4,[]⟩ w2:=fun T4 s4 hF4 hA4 h49 h411=>by
  obtain ⟨x0,-,-,-⟩:=cellsMb_at d.mem d.n i hi
  have y0:=(hD2.row.cellAt (i*4) (by omega)).trans x0
  refine wp_seq (ctL46 T4 s4 q g d.n C i (d.mem i).name w2 hF4 ((hA4 10 (by decide)).trans h.s10) ((hA4 12 (by decide)).trans h.s12) hD2.c2 hi hcc y0 _ _ fun T5 hF5=>?_)
  have hA5:=hA4.up (k:=19) (v:=.string (d.mem i).name) (by decide)
  have fin:∀ T6 s6 w6 (M:Nat→Mem) (E:Int),ctF T6 s6→Ag [9,20,21,22,23,24,25,26] (upG s4 19 (.string (d.mem i).name)) s6→s6 9=.int .i64 E→CtD w6 (q+1) q (some ⟨g,0,none⟩) C ⟨d.name,d.solve,d.n,M⟩→Kb (q+1) q w2 w6→(E=rnE d i nm)→(E=0→∀ j,j<d.n→putM M i ⟨nm,(M i).parent,(M i).sign,(M i).formula⟩ j=(renD d i nm).mem j)→Code.wp Tryz.prog (ctC [1,1,1,1,1,1,1,1,1,0,1,3,1,5,1,5,1,2,1,1,1,1,1]) (Exit.then J (QR Rt)) ⟨T6,[]⟩ w6:=fun T6 s6 w6 M E hF6 hA6 h69 hD6 hK6 hEe hMe=>by
   have hA6':=hA5.trans (hA6.wide (by decide))
   have hb6:=hbx2.kb hK6 hl (by omega)
   have hB6:=below_kb hB2 hK6 (by omega) (by omega)
   have hM:=cellsMb_set (M:=M) (n:=d.n) (i:=i) (f:=0) (v:=.string nm) (m:=⟨nm,(M i).parent,(M i).sign,(M i).formula⟩) hi (by omega) rfl fun f' hf hne=>by
    have:f'=1∨f'=2∨f'=3:=by omega
    rcases this with rfl | rfl | rfl <;> rfl
   refine ctL64 T6 s6 w0.heap.size q (q+1) g C i ⟨d.name,d.solve,d.n,M⟩ _ nm w6 hF6 ((hA6' 5 (by decide)).trans h.s5) ((hA6' 10 (by decide)).trans h.s10) ((hA6' 12 (by decide)).trans h.s12) hb6.xn hD6 hi hM _ _ fun T7 w7 hF7 hD7 hK7=>?_
   have hb7:=hb6.kb hK7 hl (by omega)
   have hB7:=below_kb hB6 hK7 (by omega) (by omega)
   refine hJ T7 s6 w7 hF7 ⟨hb7,hB7,hA6',by rw [←hEe];exact h69,fun h0=>⟨_,_,hD7.only (hMe (by rw [hEe];exact h0))⟩,fun _=>⟨_,_,xs,?_,hE.later hB7,rfl⟩⟩
   rw [hA6 11 (by decide),upG_off _ _ (by decide),h411];exact h.s11
  by_cases h0:renE d i nm≠0
  ·refine wp_seq (ctFos0 T5 _ w2 q (q+1) C (some ⟨g,0,none⟩) d (renE d i nm) h0 hF5 (by rw [upG_off _ _ (by decide)];exact h49) ((hA5 10 (by decide)).trans h.s10) hD2 _ _ fun T6 hF6=>?_)
   exact fin T6 _ w2 d.mem (renE d i nm) hF6 ((Ag.refl _ _).up (by decide)) (by rw [upG_off _ _ (by decide),upG_off _ _ (by decide)];exact h49) hD2 (Kept.refl _ _ _) (by unfold rnE;rw [if_pos h0]) (fun e=>absurd e h0)
  ·have h00:renE d i nm=0:=by simpa using h0
   have hnm:nameErr nm=0:=by
    unfold renE at h00
    by_cases h1:nameErr nm≠0
    ·rw [if_pos h1] at h00;exact absurd h00 h1
    ·simpa using h1
   rw [h00] at h49
   refine wp_seq (ctFos T5 _ w2 w0.heap.size q (q+1) g C d.n d.name d.solve d.mem (d.mem i).name nm wh dm (i:Nat) tg sg hF5 ((hA5 5 (by decide)).trans h.s5) (by rw [upG_off _ _ (by decide)];exact h49) ((hA5 10 (by decide)).trans h.s10) (upG_at _ _ _) hD2 hn hD2.lt (by omega) (by omega) hbx2.c hnm hfo _ _ fun k T6 s6 w6 hk hno hF6 hA6 h69 hD6 hK6=>?_)
   refine fin T6 s6 w6 _ (foE d.mem (d.mem i).name nm k) hF6 hA6 h69 hD6 hK6 ?_ ?_
   ·unfold rnE
    rw [if_neg h0]
    by_cases hz:foE d.mem (d.mem i).name nm k=0
    ·have:k=d.n:=by omega
     rw [this]
    ·rw [(foE_le hk hz).1,(foE_le hk hz).2]
   ·intro hz j hj
    have hkn:k=d.n:=by omega
    subst hkn
    show putM (foTo d.mem (d.mem i).name nm d.n) i _ j=_
    unfold putM renD foTo
    by_cases e:j=i
    ·subst e;simp [hj]
    ·simp [e,hj]
 by_cases h1:nameErr nm=0∧0≤findFrom (fun j=>same (d.mem j).name nm) d.n 0∧findFrom (fun j=>same (d.mem j).name nm) d.n 0≠(i:Int)
 ·rw [decide_eq_true h1] at he
  have h2:=hdup.1 h1
  have hz:renE d i nm=7:=by unfold renE;rw [if_neg (by simpa using h2.1),if_pos h2.2]
  refine wp_cond_true he (ctL45 T3 _ w2 hF3 _ _ fun T4 hF4=>rest T4 _ hF4 (hA2.up (by decide)) (by rw [upG_at,hz]) (by rw [upG_off _ _ (by decide),upG_off _ _ (by decide),upG_off _ _ (by decide)]))
 ·rw [decide_eq_false h1] at he
  have hz:renE d i nm=nameErr nm:=by
   unfold renE
   by_cases h2:nameErr nm≠0
   ·rw [if_pos h2]
   ·rw [if_neg h2,if_neg fun h3=>h1 (hdup.2 ⟨by simpa using h2,h3⟩)]
    simpa using (Eq.symm (by simpa using h2:nameErr nm=0))
  exact wp_cond_false he (wp_skip (rest T3 _ hF3 hA2 (by rw [upG_off _ _ (by decide),upG_at,hz]) (by rw [upG_off _ _ (by decide),upG_off _ _ (by decide)])))
end Go.Proofs.YtfldgghobddgkaaGreatDoor
