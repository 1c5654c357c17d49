/-
  A line taken, whichever it is (package sheet's take), in whatever memory.
-/
import Derived.Test.YtinebmjpdkjooaaGreatDoorJZBD
namespace Go.Proofs.YtinebmjpdkjooaaGreatDoor
open Go Go.ChangeShapes Go.WideShapes Go.ChangeAt Go.RowKit
set_option maxRecDepth 20000
def DrE (q:Nat) (S:RdQ) (w:World):Prop := ∃ A C vd vc,DrV q S A C vd vc w
theorem cut_sizes (c:UInt8):∀ l:List UInt8,∀ p∈cutB c l,p.length≤l.length
 | [],p,hp=>by rw [cutB,List.mem_singleton] at hp;subst hp;exact Nat.le_refl _
 | x :: t,p,hp=>by
  rw [cutB] at hp
  split at hp
  ·rcases List.mem_cons.1 hp with rfl | hp
   ·exact Nat.zero_le _
   ·have:=cut_sizes c t p hp
    simp;omega
  ·cases hs:cutB c t with
   | nil=>exact absurd hs (cutB_ne c t)
   | cons a r =>
    rw [hs] at hp
    rcases List.mem_cons.1 hp with rfl | hp
    ·have:=cut_sizes c t a (by rw [hs];exact List.mem_cons_self ..)
     simp;omega
    ·have:=cut_sizes c t p (by rw [hs];exact List.mem_cons_of_mem _ hp)
     simp;omega
theorem wdB_size (c:UInt8) (s:ByteArray) (k:Nat):(wdB (piecesC c s) k).size≤s.size:=by
 unfold wdB
 by_cases hk:k<(piecesC c s).length
 ·rw [List.getD_eq_getElem?_getD,List.getElem?_eq_getElem hk,Option.getD_some]
  have hm:=List.getElem_mem hk
  generalize (piecesC c s)[k]=p at hm
  unfold piecesC at hm
  obtain ⟨l,hl,rfl⟩:=List.mem_map.1 hm
  have:=cut_sizes c _ l hl
  rw [Lib.size_eq s]
  exact this
 ·rw [List.getD_eq_getElem?_getD,List.getElem?_eq_none (by omega)]
  exact Nat.zero_le _
theorem few_kind {P W:List ByteArray} (h:FewW P W) (hk:kindB W≠0):W=P:=by
 obtain ⟨h1,h2,h3,h4⟩:=h
 by_cases h5:P.length≤4
 ·exact h3 h5
 ·have h6:=h4 (by omega)
  exfalso
  apply hk
  unfold kindB
  rw [if_neg (by omega),if_neg (by omega),if_neg (by omega)]
def TakeC (q:Nat) (R:RdQ×Bool) (f:Nat) (args:Array Value) (w:World):Prop := ∀ w',Below w.heap.size w w'→Calls Tryz.prog f args w' fun e w''=>e=.returned (.bool R.2)∧Below q w' w''∧(R.2=true→DrE q R.1 w'')
theorem take_dim {q:Nat} {S:RdQ} {A:Nat→Option Addr} {C:Nat→Nat} {vd vc:Value} {line:ByteArray} {i:Nat} {w:World} {W:List ByteArray} (h:DrV q S A C vd vc w) (hE:EnvS w) (hn:S.dims.length≤1048577) (hl:line.size≤1048576) (hF:FewW (wdsB line) W) (hk:kindB W=1) :
  TakeC q (rdLine S i (wdsB line)) 74 #[.pointer (some ⟨q,0,none⟩),.string (wdB W 1),.string (wdB W 2)] w:=fun w' hb=>by
 have e:=few_kind hF (by omega)
 subst e
 obtain ⟨r1,r2⟩:=rd_dim (S:=S) (i:=i) hk
 have hz:=fun k=>wdB_size 32 line k
 refine (stdim_any q S A C vd vc (wdB (wdsB line) 1) (wdB (wdsB line) 2) w' (h.later hb) (hE.later hb) hn (Nat.le_trans (hz 1) hl) (Nat.le_trans (hz 2) hl)).mono fun e w'' ⟨he,hB,hD⟩=>⟨by rw [r1];exact he,hB,fun ht=>?_⟩
 rw [r1] at ht
 simp only [Bool.and_eq_true,decide_eq_true_eq] at ht
 rw [r2 ht.2]
 exact hD ⟨ht.1.1,ht.1.2,ht.2⟩
theorem take_mem {q:Nat} {S:RdQ} {A:Nat→Option Addr} {C:Nat→Nat} {vd vc:Value} {line:ByteArray} {i:Nat} {w:World} {W:List ByteArray} (h:DrV q S A C vd vc w) (hE:EnvS w) (hn:S.dims.length≤1048577) (hm:(dmL S.dims (S.dims.length-1)).n≤1048577) (hl:line.size≤1048576) (hF:FewW (wdsB line) W) (hk:kindB W=2) :
  TakeC q (rdLine S i (wdsB line)) 75 #[.pointer (some ⟨q,0,none⟩),.string (wdB W 1),.string (wdB W 2),.string (wdB W 3)] w:=fun w' hb=>by
 have e:=few_kind hF (by omega)
 subst e
 obtain ⟨r1,r2⟩:=rd_mem (S:=S) (i:=i) hk
 have hz:=fun k=>wdB_size 32 line k
 refine (stmem_any q S A C vd vc (wdB (wdsB line) 1) (wdB (wdsB line) 2) (wdB (wdsB line) 3) w' (h.later hb) (hE.later hb) hn hm (Nat.le_trans (hz 1) hl) (Nat.le_trans (hz 2) hl) (Nat.le_trans (hz 3) hl)).mono fun e w'' ⟨he,hB,hD⟩=>⟨by rw [r1];exact he,hB,fun ht=>?_⟩
 rw [r1] at ht
 rw [r2 ht]
 exact hD ht
theorem take_cel {q:Nat} {S:RdQ} {A:Nat→Option Addr} {C:Nat→Nat} {vd vc:Value} {line:ByteArray} {i:Nat} {w:World} {W:List ByteArray} (h:DrV q S A C vd vc w) (hE:EnvS w) (hi:S.pl.length=0∨S.first+S.pl.length=i) (hn:S.pl.length≤1048577) (hl:line.size≤1048576) (hF:FewW (wdsB line) W) (hk:kindB W=3) :
  TakeC q (rdLine S i (wdsB line)) 76 #[.pointer (some ⟨q,0,none⟩),.string (wdB W 1),.string (wdB W 2),.int .i64 i] w:=fun w' hb=>by
 have e:=few_kind hF (by omega)
 subst e
 have r1:=rd_cel (S:=S) (i:=i) hk
 have hz:=fun k=>wdB_size 32 line k
 refine (stcell_any q S A C vd vc (wdB (wdsB line) 1) (wdB (wdsB line) 2) i w' (h.later hb) (hE.later hb) hi hn (Nat.le_trans (hz 1) hl) (Nat.le_trans (hz 2) hl)).mono fun e w'' ⟨he,hB,hD⟩=>⟨by rw [r1];exact he,hB,fun ht=>?_⟩
 rw [r1] at ht ⊢
 simp only [Bool.and_eq_true] at ht
 exact hD ht
theorem isB_eq {x:ByteArray} {l:List UInt8} (h:isB x l=true):x.toList=l:=by simpa [isB] using h
set_option maxHeartbeats 16000000 in
theorem stake_any (q:Nat) (S:RdQ) (A:Nat→Option Addr) (C:Nat→Nat) (vd vc:Value) (line:ByteArray) (i:Nat) (w:World) (h:DrV q S A C vd vc w) (hE:EnvS w) (hi:S.pl.length=0∨S.first+S.pl.length=i) (hn:S.dims.length≤1048577) (hp:S.pl.length≤1048577) (hm:(dmL S.dims (S.dims.length-1)).n≤1048577) (hl:line.size≤1048576) :
  Calls Tryz.prog 50 #[.pointer (some ⟨q,0,none⟩),.string line,.int .i64 i] w fun e w'=>e=.returned (.bool (rdLine S i (wdsB line)).2)∧Below q w w'∧((rdLine S i (wdsB line)).2=true→DrE q (rdLine S i (wdsB line)).1 w'):=by
 have hqs:=h.lt
 have HQ:Hid (∀ w',Below w.heap.size w w'→Below q w w'):=fun w' hb=>hb.mono (by omega)
 have HD:Hid (∀ W,FewW (wdsB line) W→kindB W=1→TakeC q (rdLine S i (wdsB line)) 74 #[.pointer (some ⟨q,0,none⟩),.string (wdB W 1),.string (wdB W 2)] w):=fun W hF hk=>take_dim h hE hn hl hF hk
 have HM:Hid (∀ W,FewW (wdsB line) W→kindB W=2→TakeC q (rdLine S i (wdsB line)) 75 #[.pointer (some ⟨q,0,none⟩),.string (wdB W 1),.string (wdB W 2),.string (wdB W 3)] w):=fun W hF hk=>take_mem h hE hn hm hl hF hk
 have HC:Hid (∀ W,FewW (wdsB line) W→kindB W=3→TakeC q (rdLine S i (wdsB line)) 76 #[.pointer (some ⟨q,0,none⟩),.string (wdB W 1),.string (wdB W 2),.int .i64 i] w):=fun W hF hk=>take_cel h hE hi hp hl hF hk
 have HN:Hid (∀ W,FewW (wdsB line) W→kindB W=0→rdLine S i (wdsB line)=(S,false)):=fun W hF hk=>rd_none (by rw [kind_few hF];exact hk)
 have hsp:=ssplit_any line w (by omega)
 have e0:piecesC 32 line=wdsB line:=rfl
 rw [e0] at hsp
 generalize wdsB line=P at hsp HD HM HC HN
 generalize rdLine S i P=R at HD HM HC HN
 obtain ⟨ok,hok⟩:∃ ok,R.2=ok:=⟨_,rfl⟩
 have HOK:=hid_of hok
 rw [hok]
 clear h hE hi hn hp hm hl e0 hok
 go_enter Tryz.func50,Tryz.ntmps50
 go_wp2_with fail
 refine hsp.mono ?_
 rintro e w1 ⟨W,N,rfl,hw1,hWN,hF⟩
 have hB1:Below w.heap.size w w1:=by rw [hw1];exact (Below.refl _ _).alloc (Nat.le_refl _) _
 have hcl:∀ k,k<W.length→w1.cell? ⟨w.heap.size,k,none⟩=some (.string (wdB W k)):=fun k hk=>by rw [hw1];exact (Lib.cell_of_heap (heap_alloc_new w _) k).trans (cellsOf_get hk)
 have hH:w.heap.size<w1.heap.size:=by rw [hw1];simp
 have HF:=hid_of hF
 have HB1:=hid_of hB1
 have h0:=hF.1
 have h5:=hF.2.1
 obtain ⟨H,hHe⟩:∃ H,w.heap.size=H:=⟨_,rfl⟩
 rw [hHe] at hcl hH ⊢
 clear hw1 hB1 hF hsp
 obtain ⟨kd,hkd⟩:∃ kd,kindB W=kd:=⟨_,rfl⟩
 have hk4:kd=0∨kd=1∨kd=2∨kd=3:=by
  rw [←hkd]
  unfold kindB
  split
  ·omega
  ·split
   ·omega
   ·split <;> omega
 have HR:Hid (∀ (f:Nat) (args:Array Value),TakeC q R f args w→∀ w',Below w1.heap.size w1 w'→Calls Tryz.prog f args w' fun e w''=>e=.returned (.bool ok)∧Below q w' w''∧(ok=true→DrE q R.1 w'')):=fun f args hT w' hb=>by
  have:=hT w' (onB HB1.out hb)
  rw [HOK.out] at this
  exact this
 rcases hk4 with rfl | rfl | rfl | rfl
 ·have hr:=HN.out W HF.out hkd
  have ho:ok=false:=by rw [←HOK.out,hr]
  subst ho
  have x0:=hcl 0 (by omega)
  have k1 : ¬ (isB (wdB W 0) [100,105,109]=true∧W.length=3):=fun h=>by unfold kindB at hkd;rw [if_pos h] at hkd;cases hkd
  have k2 : ¬ (isB (wdB W 0) [109,101,109]=true∧W.length=4):=fun h=>by unfold kindB at hkd;rw [if_neg k1,if_pos h] at hkd;cases hkd
  have k3 : ¬ (isB (wdB W 0) [99,101,108,108]=true∧W.length=3):=fun h=>by unfold kindB at hkd;rw [if_neg k1,if_neg k2,if_pos h] at hkd;cases hkd
  obtain ⟨L,hL⟩:∃ L,W.length=L:=⟨_,rfl⟩
  rw [hL] at hWN h0 h5 k1 k2 k3 ⊢
  generalize wdB W 0=a0 at x0 k1 k2 k3
  have hL1:(0:Int)<(L:Int):=by omega
  clear hcl hkd HR HD HM HC HN hL hr
  by_cases b1:isB a0 [100,105,109]=true
  ·have g0:=isB_eq b1
   have l3:((L:Int) == 3)=false:=beq_eq_false_iff_ne.2 fun e=>k1 ⟨b1,by omega⟩
   clear k1 k2 k3 b1
   go_wp2_with fail
   go_ret
   exact ⟨rfl,HQ.out _ HB1.out,fun h=>by cases h⟩
  ·by_cases b2:isB a0 [109,101,109]=true
   ·have g0:=isB_eq b2
    have l3:((L:Int) == 4)=false:=beq_eq_false_iff_ne.2 fun e=>k2 ⟨b2,by omega⟩
    clear k1 k2 k3 b1 b2
    go_wp2_with fail
    go_ret
    exact ⟨rfl,HQ.out _ HB1.out,fun h=>by cases h⟩
   ·by_cases b3:isB a0 [99,101,108,108]=true
    ·have g0:=isB_eq b3
     have l3:((L:Int) == 3)=false:=beq_eq_false_iff_ne.2 fun e=>k3 ⟨b3,by omega⟩
     clear k1 k2 k3 b1 b2 b3
     go_wp2_with fail
     go_ret
     exact ⟨rfl,HQ.out _ HB1.out,fun h=>by cases h⟩
    ·have g1:(a0.toList == [100,105,109])=false:=by simpa [isB] using b1
     have g2:(a0.toList == [109,101,109])=false:=by simpa [isB] using b2
     have g3:(a0.toList == [99,101,108,108])=false:=by simpa [isB] using b3
     clear k1 k2 k3 b1 b2 b3
     go_wp2_with fail
     go_ret
     exact ⟨rfl,HQ.out _ HB1.out,fun h=>by cases h⟩
 ·obtain ⟨k1,k2⟩:=kind_dim hkd
  have hT:=hid_of (HR.out _ _ (HD.out W HF.out hkd))
  have x0:=hcl 0 (by omega)
  have x1:=hcl 1 (by omega)
  have x2:=hcl 2 (by omega)
  have g0:=isB_eq k1
  rw [k2] at hWN ⊢
  generalize wdB W 0=a0 at x0 g0
  generalize wdB W 1=a1 at x1 hT
  generalize wdB W 2=a2 at x2 hT
  clear hcl hkd k1 k2 h0 h5 HR HD HM HC HN
  go_wp2_with fail
  go_region_law ((go_simp;refine (hT.out _ (by go_grown)).mono ?_;rintro e w4 ⟨rfl,hb4,hd4⟩;have HB4:=hid_of ((HQ.out _ HB1.out).trans (Below.trans (by go_grown) hb4));have HD4:=hid_of hd4;clear hb4 hd4))
  all_goals go_wp2_with fail
  all_goals go_ret
  all_goals exact ⟨rfl,HB4.out,HD4.out⟩
 ·obtain ⟨k1,k2⟩:=kind_mem hkd
  have hT:=hid_of (HR.out _ _ (HM.out W HF.out hkd))
  have x0:=hcl 0 (by omega)
  have x1:=hcl 1 (by omega)
  have x2:=hcl 2 (by omega)
  have x3:=hcl 3 (by omega)
  have g0:=isB_eq k1
  rw [k2] at hWN ⊢
  generalize wdB W 0=a0 at x0 g0
  generalize wdB W 1=a1 at x1 hT
  generalize wdB W 2=a2 at x2 hT
  generalize wdB W 3=a3 at x3 hT
  clear hcl hkd k1 k2 h0 h5 HR HD HM HC HN
  go_wp2_with fail
  go_region_law ((go_simp;refine (hT.out _ (by go_grown)).mono ?_;rintro e w4 ⟨rfl,hb4,hd4⟩;have HB4:=hid_of ((HQ.out _ HB1.out).trans (Below.trans (by go_grown) hb4));have HD4:=hid_of hd4;clear hb4 hd4))
  all_goals go_wp2_with fail
  all_goals go_ret
  all_goals exact ⟨rfl,HB4.out,HD4.out⟩
 ·obtain ⟨k1,k2⟩:=kind_cel hkd
  have hT:=hid_of (HR.out _ _ (HC.out W HF.out hkd))
  have x0:=hcl 0 (by omega)
  have x1:=hcl 1 (by omega)
  have x2:=hcl 2 (by omega)
  have g0:=isB_eq k1
  rw [k2] at hWN ⊢
  generalize wdB W 0=a0 at x0 g0
  generalize wdB W 1=a1 at x1 hT
  generalize wdB W 2=a2 at x2 hT
  clear hcl hkd k1 k2 h0 h5 HR HD HM HC HN
  go_wp2_with fail
  go_region_law ((go_simp;refine (hT.out _ (by go_grown)).mono ?_;rintro e w4 ⟨rfl,hb4,hd4⟩;have HB4:=hid_of ((HQ.out _ HB1.out).trans (Below.trans (by go_grown) hb4));have HD4:=hid_of hd4;clear hb4 hd4))
  all_goals go_wp2_with fail
  all_goals go_ret
  all_goals exact ⟨rfl,HB4.out,HD4.out⟩
def rdEnd (L:List ByteArray):Nat→Nat→Option Nat
 | 0,k=>if (wdB L k).size=0 then none else some k
 | f+1,k=>if rdOk L k=true then rdEnd L f (k+1) else some k
def rdBad (L:List ByteArray):Option Nat:=rdEnd L (L.length-1) 0
theorem rdTo_mem (L:List ByteArray):∀ k,∀ d∈(rdTo L k).dims,d.mem.length≤k
 | 0,d,hd=>by simp [rdTo,rd0S] at hd
 | k+1,d,hd=>by
  have ih:=rdTo_mem L k
  rw [rdTo_succ] at hd
  unfold rdLine at hd
  split at hd
  ·simp only [List.mem_append,List.mem_singleton] at hd
   rcases hd with hd | rfl
   ·exact Nat.le_succ_of_le (ih d hd)
   ·exact Nat.zero_le _
  ·split at hd
   ·rename_i hm
    have hpos:0<(rdTo L k).dims.length:=by
     unfold memB at hm
     simp only [Bool.and_eq_true,decide_eq_true_eq] at hm
     exact hm.2
    simp only [addM] at hd
    obtain ⟨j,hj,he⟩:=List.getElem_of_mem hd
    rw [List.getElem_set] at he
    split at he
    ·subst he
     have hx:(rdTo L k).dims.getD ((rdTo L k).dims.length-1) noRD∈(rdTo L k).dims:=by
      rw [List.getD_eq_getElem?_getD,List.getElem?_eq_getElem (by omega),Option.getD_some]
      exact List.getElem_mem _
     have:=ih _ hx
     simp only [List.length_append,List.length_singleton]
     omega
    ·subst he
     exact Nat.le_succ_of_le (ih _ (List.getElem_mem _))
   ·split at hd
    ·exact Nat.le_succ_of_le (ih d hd)
    ·exact Nat.le_succ_of_le (ih d hd)
theorem rdTo_last (L:List ByteArray) (k:Nat):(dmL (rdTo L k).dims ((rdTo L k).dims.length-1)).n≤k:=by
 unfold dmL toDm
 show ((rdTo L k).dims.getD _ noRD).mem.length≤k
 by_cases h:0<(rdTo L k).dims.length
 ·refine rdTo_mem L k _ ?_
  rw [List.getD_eq_getElem?_getD,List.getElem?_eq_getElem (by omega),Option.getD_some]
  exact List.getElem_mem _
 ·have h0:(rdTo L k).dims=[]:=List.length_eq_zero_iff.1 (by omega)
  rw [h0]
  exact Nat.zero_le _
theorem kind_le (P:List ByteArray):kindB P≤3:=by
 unfold kindB
 split
 ·omega
 ·split
  ·omega
  ·split <;> omega
theorem rdTo_first {L:List ByteArray}:∀ k,(∀ j,j<k→rdOk L j=true)→(rdTo L k).pl.length=0∨(rdTo L k).first+(rdTo L k).pl.length=k
 | 0,_=>Or.inl rfl
 | k+1,h=>by
  have ih:=rdTo_first k fun j hj=>h j (by omega)
  have hk:=h k (by omega)
  unfold rdOk at hk
  rw [rdTo_succ]
  by_cases hz:kindB (wdsB (L.getD k noWd))=0
  ·rw [rd_none hz] at hk;cases hk
  ·by_cases h1:kindB (wdsB (L.getD k noWd))=1
   ·obtain ⟨r1,r2⟩:=rd_dim (S:=rdTo L k) (i:=k) h1
    rw [r1] at hk
    simp only [Bool.and_eq_true,decide_eq_true_eq] at hk
    rw [r2 hk.2]
    exact Or.inl hk.2
   ·by_cases h2:kindB (wdsB (L.getD k noWd))=2
    ·obtain ⟨r1,r2⟩:=rd_mem (S:=rdTo L k) (i:=k) h2
     rw [r1] at hk
     rw [r2 hk]
     have hk':=hk
     unfold memOk at hk'
     simp only [Bool.and_eq_true,decide_eq_true_eq] at hk'
     exact Or.inl hk'.2
    ·have h3:kindB (wdsB (L.getD k noWd))=3:=by
      have:kindB (wdsB (L.getD k noWd))≤3:=kind_le _
      omega
     rw [rd_cel h3]
     refine Or.inr ?_
     show (if (rdTo L k).pl.length=0 then k else (rdTo L k).first)+((rdTo L k).pl ++ [_]).length=k+1
     rw [List.length_append,List.length_singleton]
     split
     ·omega
     ·omega
theorem pcs_drop {c:UInt8} {t rest:ByteArray} {k i:Nat} (h:piecesC c rest=(piecesC c t).drop k) (hi:Lib.indexByte rest.data.toList c=i):wdB (piecesC c t) k=rest.extract 0 i∧piecesC c (rest.extract (i+1) rest.size)=(piecesC c t).drop (k+1)∧k+1<(piecesC c t).length:=by
 have h1:=(pcs_more hi).2
 rw [h] at h1
 have hp:=piecesC_pos c (rest.extract (i+1) rest.size)
 have hl:((piecesC c t).drop k).length=1+(piecesC c (rest.extract (i+1) rest.size)).length:=by rw [h1,List.length_cons];omega
 rw [List.length_drop] at hl
 have hk:k<(piecesC c t).length:=by omega
 rw [List.drop_eq_getElem_cons hk] at h1
 obtain ⟨e1,e2⟩:=List.cons.inj h1
 refine ⟨?_,e2.symm,by omega⟩
 unfold wdB
 rw [List.getD_eq_getElem?_getD,List.getElem?_eq_getElem hk]
 exact e1
theorem pcs_end {c:UInt8} {t rest:ByteArray} {k:Nat} (h:piecesC c rest=(piecesC c t).drop k) (hi:Lib.indexByte rest.data.toList c = -1):wdB (piecesC c t) k=rest∧k+1=(piecesC c t).length:=by
 rw [pcs_one hi] at h
 have hl:=congrArg List.length h
 rw [List.length_drop,List.length_singleton] at hl
 have hk:k<(piecesC c t).length:=by omega
 rw [List.drop_eq_getElem_cons hk] at h
 refine ⟨?_,by omega⟩
 unfold wdB
 rw [List.getD_eq_getElem?_getD,List.getElem?_eq_getElem hk]
 exact (List.cons.inj h).1.symm
theorem DrV.up {q:Nat} {S:RdQ} {A:Nat→Option Addr} {C:Nat→Nat} {vd vc:Value} {w w':World} (h:DrV q S A C vd vc w) (hk:∀ b,q≤b→w'.heap[b]?=w.heap[b]?):DrV q S A C vd vc w' :=
 ⟨(hk q (Nat.le_refl _)).trans h.box,h.dm.keep fun b _ _ _ hB _ _=>hk b (by omega),own_kept h.cells fun b hb=>by obtain ⟨h1,-⟩:=own_blk h.cells hb;exact hk b (by omega),h.num⟩
theorem two_set {w:World} {H T:Nat} {a b v0 v1:Value} (h:w.heap[H]?=some (.cells #[a,b] T (0,0))):((w.setCell ⟨H,0,none⟩ v0).setCell ⟨H,1,none⟩ v1).cell? ⟨H,0,none⟩=some v0∧((w.setCell ⟨H,0,none⟩ v0).setCell ⟨H,1,none⟩ v1).cell? ⟨H,1,none⟩=some v1:=by
 have h2:=box2_1 (v:=v1) (box2_0 (v:=v0) h)
 exact ⟨(Lib.cell_of_heap h2 0).trans rfl,(Lib.cell_of_heap h2 1).trans rfl⟩
def RdA (t:ByteArray) (w:World) (e:Ending) (w':World):Prop :=
 (∀ k,rdBad (piecesC 10 t)=some k→e=.returned (.tuple #[.agg #[.slice none 0 0,.slice none 0 0],.int .i64 k,.iface 65 (.int .i64 2)]))∧(rdBad (piecesC 10 t)=none→∃ q A C vd vc,e=.returned (.tuple #[.agg #[vd,vc],.int .i64 0,.nilIface])∧w.heap.size≤q∧DrV q (rdTo (piecesC 10 t) ((piecesC 10 t).length-1)) A C vd vc w')∧Below w.heap.size w w'
def rdW (w:World):World:=(w.alloc (.cells #[.slice none 0 0,.slice none 0 0] 76)).alloc (.cells #[.slice none 0 0,.slice none 0 0] 76)
theorem rdW_size (w:World):(rdW w).heap.size=w.heap.size+2:=by unfold rdW;simp
theorem rdW_below (w:World):Below w.heap.size w (rdW w):=by unfold rdW;go_grown
theorem rdW_res (w:World):(rdW w).heap[w.heap.size]?=some (.cells #[.slice none 0 0,.slice none 0 0] 76 (0,0)):=by unfold rdW;rw [heap_alloc_old _ _ (by simp)];exact heap_alloc_new ..
theorem rdW_dr (w:World):DrV (w.heap.size+1) rd0S (fun _=>none) (fun _=>0) (.slice none 0 0) (.slice none 0 0) (rdW w):=by
 refine ⟨?_,DmV.nil _ _ _ _,World.ownsRow_nil _ _ _ 3,rfl⟩
 unfold rdW
 have:=heap_alloc_new (w.alloc (.cells #[.slice none 0 0,.slice none 0 0] 76)) (.cells #[.slice none 0 0,.slice none 0 0] 76)
 simpa using this
set_option maxHeartbeats 16000000 in
theorem sread_any (t:ByteArray) (w:World) (hE:EnvS w) (ht:t.size≤1048576):Calls Tryz.prog 31 #[.string t] w fun e w'=>RdA t w e w':=by
 have HE:=hid_of hE
 have hpl:=piecesC_le 10 t
 obtain ⟨L,hL⟩:∃ L,piecesC 10 t=L:=⟨_,rfl⟩
 have HL:=hid_of hL
 obtain ⟨n,hn⟩:∃ n,L.length-1=n:=⟨_,rfl⟩
 have hLn:L.length=n+1:=by have:=piecesC_pos 10 t;rw [hL] at this;omega
 have hn5:n≤1048576:=by rw [hL] at hpl;omega
 have HLn:=hid_of hLn
 have HD0:=hid_of (rdW_dr w)
 have HB0:=hid_of (rdW_below w)
 have HR0:=hid_of (rdW_res w)
 have hS0:=rdW_size w
 obtain ⟨W,hW⟩:∃ W,rdW w=W:=⟨_,rfl⟩
 rw [hW] at HD0 HB0 HR0 hS0
 unfold rdW at hW
 clear hE hpl hL hLn hn
 go_enter Tryz.func31,Tryz.ntmps31
 go_wp2_with fail
 go_loopg [0,6] n (fun g s0 s6 wr => ∃ (k:Nat) (rest:ByteArray),k≤n∧g=n-k∧s0=.string rest∧s6=.int .i64 k∧rest.size≤t.size∧Hid (piecesC 10 rest=L.drop k)∧Hid (∀ j,j<k→rdOk L j=true)∧Hid (rdEnd L (n-k) k=rdBad L)∧Hid (DrE (w.heap.size+1) (rdTo L k) wr)∧Hid (Below (w.heap.size+1) W wr))
 case atStart=>exact ⟨0,t,Nat.zero_le _,rfl,rfl,rfl,Nat.le_refl _,hid_of (by rw [HL.out];rfl),hid_of fun j hj=>absurd hj (Nat.not_lt_zero _),hid_of (by unfold rdBad;rw [HLn.out];rfl),hid_of ⟨_,_,_,_,HD0.out⟩,hid_of (Below.refl _ _)⟩
 case round =>
  obtain ⟨k,rest,hk,rfl,rfl,rfl,hrs,HP,HA,HEnd,HDr,HBr⟩:=hrel
  have hHW:w.heap.size<W.heap.size:=by omega
  have hbox:=(HBr.out.block w.heap.size (by omega)).trans HR0.out
  have y0:wr.cell? ⟨w.heap.size,0,none⟩=some (.slice none 0 0):=(Lib.cell_of_heap hbox 0).trans rfl
  have y1:wr.cell? ⟨w.heap.size,1,none⟩=some (.slice none 0 0):=(Lib.cell_of_heap hbox 1).trans rfl
  have z0:wr.frozen? ⟨w.heap.size,0,none⟩=false:=Lib.frozen_of_heap hbox 0
  have z1:wr.frozen? ⟨w.heap.size,1,none⟩=false:=Lib.frozen_of_heap hbox 1
  have HYb:=hid_of hbox
  have hsr:w.heap.size+1<wr.heap.size:=Nat.lt_of_lt_of_le (by omega) HBr.out.size
  clear hbox
  by_cases he:rest.size=0
  ·have hg:rest.toList=[]:=by rw [ByteArray.toList_eq];exact List.length_eq_zero_iff.1 (by rw [←Lib.size_eq];exact he)
   have hix:Lib.indexByte rest.data.toList 10 = -1:=by rw [←ByteArray.toList_eq,hg];rfl
   obtain ⟨e1,e2⟩:=pcs_end (t:=t) (k:=k) (by rw [HL.out];exact HP.out) hix
   rw [HL.out] at e1 e2
   have hkn:k=n:=by have:=HLn.out;omega
   have hnone:rdBad L=none:=by
    rw [←HEnd.out,hkn,Nat.sub_self,rdEnd,if_pos]
    rw [←hkn,e1];exact he
   have HNo:=hid_of hnone
   subst hkn
   obtain ⟨A,C,vd,vc,hV⟩:=HDr.out
   obtain ⟨Ad,cd,hvd⟩:=own_formK hV.dm.dims
   obtain ⟨Ac,cc,hvc⟩:=own_formK hV.cells
   subst hvd hvc
   have HV:=hid_of hV
   have x0:wr.cell? ⟨w.heap.size+1,0,none⟩=some (.slice Ad (rdTo L k).dims.length cd):=(Lib.cell_of_heap hV.box 0).trans rfl
   have x1:wr.cell? ⟨w.heap.size+1,1,none⟩=some (.slice Ac (rdTo L k).pl.length cc):=(Lib.cell_of_heap hV.box 1).trans rfl
   have HFin:Hid (∀ v0 v1:Value,DrV (w.heap.size+1) (rdTo L k) A C (.slice Ad (rdTo L k).dims.length cd) (.slice Ac (rdTo L k).pl.length cc) ((wr.setCell ⟨w.heap.size,0,none⟩ v0).setCell ⟨w.heap.size,1,none⟩ v1)):=fun v0 v1=>HV.out.up fun b hb=>by rw [setCell_off _ _ _ _ _ (by omega),setCell_off _ _ _ _ _ (by omega)]
   generalize (rdTo L k).dims.length=dn at x0 HFin
   generalize (rdTo L k).pl.length=pn at x1 HFin
   have HB9:Hid (∀ v0 v1:Value,Below w.heap.size w ((wr.setCell ⟨w.heap.size,0,none⟩ v0).setCell ⟨w.heap.size,1,none⟩ v1)):=fun v0 v1=>((HB0.out.trans (HBr.out.mono (by omega))).setCell (Nat.le_refl _) _).setCell (Nat.le_refl _) _
   clear hV hix e1 e2 hnone HV hW
   go_wp2_with fail
   obtain ⟨p0,p1⟩:=two_set (v0:=.slice Ad dn cd) (v1:=.slice Ac pn cc) HYb.out
   refine bodyPost_ret (v:=.tuple #[.agg #[.slice Ad dn cd,.slice Ac pn cc],.int .i64 0,.nilIface]) (by simp [results,Tryz.results31,go_sem,p0,p1]) rfl ?_
   refine ⟨fun j hj=>?_,fun _=>⟨w.heap.size+1,A,C,_,_,rfl,Nat.le_succ _,?_⟩,HB9.out _ _⟩
   ·rw [HL.out,HNo.out] at hj;cases hj
   ·rw [HL.out,HLn.out]
    exact HFin.out _ _
  ·have hg:rest.toList.isEmpty=false:=ne_empty7 (by omega)
   have hcu:=fun w=>scut_any rest 10 w (by omega)
   have hge:=Lib.indexByte_ge rest.data.toList 10
   by_cases hi:Lib.indexByte rest.data.toList 10 = -1
   ·obtain ⟨e1,e2⟩:=pcs_end (t:=t) (k:=k) (by rw [HL.out];exact HP.out) hi
    rw [HL.out] at e1 e2
    have hkn:k=n:=by have:=HLn.out;omega
    have hsome:rdBad L=some k:=by
     rw [←HEnd.out,hkn,Nat.sub_self,rdEnd,if_neg]
     rw [←hkn,e1];exact he
    have HSo:=hid_of hsome
    simp only [cutV_none hi] at hcu
    clear hi hge e1 e2 hsome hkn
    go_wp2_with fail
    refine (hcu _).mono ?_
    rintro e w1 ⟨rfl,hb1⟩
    have t0:=(hb1.cell (p:=⟨w.heap.size,0,none⟩) (by show w.heap.size<_;omega)).trans y0
    have t1:=(hb1.cell (p:=⟨w.heap.size,1,none⟩) (by show w.heap.size<_;omega)).trans y1
    have t2:=(hb1.frozen (p:=⟨w.heap.size,0,none⟩) (by show w.heap.size<_;omega)).trans z0
    have t3:=(hb1.frozen (p:=⟨w.heap.size,1,none⟩) (by show w.heap.size<_;omega)).trans z1
    have HB8:=hid_of ((HB0.out.trans (HBr.out.mono (by omega))).trans (hb1.mono (by omega)))
    have HY1:=hid_of ((hb1.block w.heap.size (by omega)).trans HYb.out)
    have HB9:Hid (∀ v0 v1:Value,Below w.heap.size w ((w1.setCell ⟨w.heap.size,0,none⟩ v0).setCell ⟨w.heap.size,1,none⟩ v1)):=fun v0 v1=>(HB8.out.setCell (Nat.le_refl _) _).setCell (Nat.le_refl _) _
    clear hb1 y0 y1 z0 z1 hW
    go_wp2_with fail
    obtain ⟨p0,p1⟩:=two_set (v0:=.slice none 0 0) (v1:=.slice none 0 0) HY1.out
    refine bodyPost_ret (v:=.tuple #[.agg #[.slice none 0 0,.slice none 0 0],.int .i64 k,.iface 65 (.int .i64 2)]) (by simp [results,Tryz.results31,go_sem,p0,p1]) rfl ?_
    refine ⟨fun j hj=>?_,fun hj=>?_,HB9.out _ _⟩
    ·rw [HL.out,HSo.out] at hj;cases hj;rfl
    ·rw [HL.out,HSo.out] at hj;cases hj
   ·obtain ⟨i,hI⟩:∃ i:Nat,Lib.indexByte rest.data.toList 10=i:=⟨(Lib.indexByte rest.data.toList 10).toNat,by omega⟩
    obtain ⟨e1,e2,e3⟩:=pcs_drop (t:=t) (k:=k) (by rw [HL.out];exact HP.out) hI
    simp only [cutV_some hI] at hcu
    rw [HL.out] at e1 e2 e3
    have hlt:k<n:=by have:=HLn.out;omega
    have hli:=index_lt hI
    obtain ⟨line,hline⟩:∃ line,rest.extract 0 i=line:=⟨_,rfl⟩
    obtain ⟨rest2,hrest2⟩:∃ rest2,rest.extract (i+1) rest.size=rest2:=⟨_,rfl⟩
    have hz1:line.size≤t.size:=by rw [←hline,ByteArray.size_extract];omega
    have hz2:rest2.size≤t.size:=by rw [←hrest2,ByteArray.size_extract];omega
    rw [hline] at e1
    simp only [hline] at hcu
    simp only [hrest2] at hcu
    rw [hrest2] at e2
    have HE2:=hid_of e2
    have hrk:rdLine (rdTo L k) k (wdsB line)=rdLine (rdTo L k) k (wdsB (L.getD k noWd)):=by rw [←e1];rfl
    have hdims:=rdTo_dims L k
    have hfi:=rdTo_first k HA.out
    have hla:=rdTo_last L k
    obtain ⟨A,C,vd,vc,hV⟩:=HDr.out
    have HT:Hid (∀ w',Below wr.heap.size wr w'→Calls Tryz.prog 50 #[.pointer (some ⟨w.heap.size+1,0,none⟩),.string line,.int .i64 k] w' fun e w''=>e=.returned (.bool (rdOk L k))∧Below (w.heap.size+1) w' w''∧(rdOk L k=true→DrE (w.heap.size+1) (rdTo L (k+1)) w'')):=fun w' hb=>by
     have h1:=stake_any (w.heap.size+1) (rdTo L k) A C vd vc line k w' (hV.later hb) (HE.out.later (onB ((HB0.out.trans (HBr.out.mono (by omega)))) hb)) hfi (by omega) (by omega) (by omega) (by omega)
     rw [hrk] at h1
     exact h1
    clear hV hrk hdims hfi hla hI hi hge hline hrest2 e1 e2 e3 hli hW
    cases hok:rdOk L k with
    | false =>
     have hsome:rdBad L=some k:=by
      rw [←HEnd.out]
      obtain ⟨f,hf⟩:∃ f,n-k=f+1:=⟨n-k-1,by omega⟩
      rw [hf,rdEnd,if_neg (by rw [hok];decide)]
     have HSo:=hid_of hsome
     rw [hok] at HT
     clear hsome hok
     go_wp2_with fail
     refine (hcu _).mono ?_
     rintro e w1 ⟨rfl,hb1⟩
     have h1:=HT.out _ hb1
     have HB1:=hid_of hb1
     clear hb1
     go_wp2_with fail
     refine h1.mono ?_
     rintro e w2 ⟨rfl,hb2,-⟩
     have hBq:Below (w.heap.size+1) wr w2:=(HB1.out.mono (by omega)).trans hb2
     have t0:=(hBq.cell (p:=⟨w.heap.size,0,none⟩) (by show w.heap.size<_;omega)).trans y0
     have t1:=(hBq.cell (p:=⟨w.heap.size,1,none⟩) (by show w.heap.size<_;omega)).trans y1
     have t2:=(hBq.frozen (p:=⟨w.heap.size,0,none⟩) (by show w.heap.size<_;omega)).trans z0
     have t3:=(hBq.frozen (p:=⟨w.heap.size,1,none⟩) (by show w.heap.size<_;omega)).trans z1
     have HB8:=hid_of ((HB0.out.trans (HBr.out.mono (by omega))).trans (hBq.mono (by omega)))
     have HY1:=hid_of ((hBq.block w.heap.size (by omega)).trans HYb.out)
     have HB9:Hid (∀ v0 v1:Value,Below w.heap.size w ((w2.setCell ⟨w.heap.size,0,none⟩ v0).setCell ⟨w.heap.size,1,none⟩ v1)):=fun v0 v1=>(HB8.out.setCell (Nat.le_refl _) _).setCell (Nat.le_refl _) _
     clear hb2 hBq y0 y1 z0 z1 h1
     go_wp2_with fail
     obtain ⟨p0,p1⟩:=two_set (v0:=.slice none 0 0) (v1:=.slice none 0 0) HY1.out
     refine bodyPost_ret (v:=.tuple #[.agg #[.slice none 0 0,.slice none 0 0],.int .i64 k,.iface 65 (.int .i64 2)]) (by simp [results,Tryz.results31,go_sem,p0,p1]) rfl ?_
     refine ⟨fun j hj=>?_,fun hj=>?_,HB9.out _ _⟩
     ·rw [HL.out,HSo.out] at hj;cases hj;rfl
     ·rw [HL.out,HSo.out] at hj;cases hj
    | true =>
     have HA2:Hid (∀ j,j<k+1→rdOk L j=true):=fun j hj=>by
      by_cases hjk:j<k
      ·exact HA.out j hjk
      ·obtain rfl:j=k:=by omega
       exact hok
     have HEnd2:Hid (rdEnd L (n-(k+1)) (k+1)=rdBad L):=by
      show _=_
      rw [←HEnd.out]
      obtain ⟨f,hf⟩:∃ f,n-k=f+1:=⟨n-k-1,by omega⟩
      rw [hf,rdEnd,if_pos hok,show n-(k+1)=f by omega]
     rw [hok] at HT
     clear hok
     go_wp2_with fail
     refine (hcu _).mono ?_
     rintro e w1 ⟨rfl,hb1⟩
     have h1:=HT.out _ hb1
     have HB1:=hid_of hb1
     clear hb1
     go_wp2_with fail
     refine h1.mono ?_
     rintro e w2 ⟨rfl,hb2,hd2⟩
     have HBr2:=hid_of (HBr.out.trans ((HB1.out.mono (by omega)).trans hb2))
     have HDr2:=hid_of (hd2 trivial)
     clear hb2 hd2 h1
     go_wp2_with fail
     go_roundg (n-(k+1))
     case measure=>omega
     case rel=>exact ⟨k+1,rest2,by omega,rfl,rfl,by go_num,hz2,HE2,HA2,HEnd2,HDr2,HBr2⟩
end Go.Proofs.YtinebmjpdkjooaaGreatDoor
