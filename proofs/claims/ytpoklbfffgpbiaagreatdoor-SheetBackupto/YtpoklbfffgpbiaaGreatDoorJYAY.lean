/-
  A line taken, whichever it is (package sheet's take), in whatever memory.
-/
import Derived.Test.YtpoklbfffgpbiaaGreatDoorJYAX
namespace Go.Proofs.YtpoklbfffgpbiaaGreatDoor
open Go Go.ChangeShapes Go.WideShapes Go.ChangeAt Go.RowKit
set_option maxRecDepth 20000
def DrE (q:Nat) (S:RdQ) (w:World):Prop := ∃ A C vd vc,DrV q S A C vd vc w
theorem cut_sizes (c:UInt8):∀ l:List UInt8,∀ p∈cutB c l,p.length≤l.length
 | [],p,hp=>by rw [cutB,List.mem_singleton] at hp;subst hp;exact Nat.le_refl _
 | x :: t,p,hp=>by
  rw [cutB] at hp
  split at hp
  ·rcases List.mem_cons.1 hp with rfl | hp
   ·exact Nat.zero_le _
   ·have:=cut_sizes c t p hp
    simp;omega
  ·cases hs:cutB c t with
   | nil=>exact absurd hs (cutB_ne c t)
   | cons a r =>
    rw [hs] at hp
    rcases List.mem_cons.1 hp with rfl | hp
    ·have:=cut_sizes c t a (by rw [hs];exact List.mem_cons_self ..)
     simp;omega
    ·have:=cut_sizes c t p (by rw [hs];exact List.mem_cons_of_mem _ hp)
     simp;omega
theorem wdB_size (c:UInt8) (s:ByteArray) (k:Nat):(wdB (piecesC c s) k).size≤s.size:=by
 unfold wdB
 by_cases hk:k<(piecesC c s).length
 ·rw [List.getD_eq_getElem?_getD,List.getElem?_eq_getElem hk,Option.getD_some]
  have hm:=List.getElem_mem hk
  generalize (piecesC c s)[k]=p at hm
  unfold piecesC at hm
  obtain ⟨l,hl,rfl⟩:=List.mem_map.1 hm
  have:=cut_sizes c _ l hl
  rw [Lib.size_eq s]
  exact this
 ·rw [List.getD_eq_getElem?_getD,List.getElem?_eq_none (by omega)]
  exact Nat.zero_le _
theorem few_kind {P W:List ByteArray} (h:FewW P W) (hk:kindB W≠0):W=P:=by
 obtain ⟨h1,h2,h3,h4⟩:=h
 by_cases h5:P.length≤4
 ·exact h3 h5
 ·have h6:=h4 (by omega)
  exfalso
  apply hk
  unfold kindB
  rw [if_neg (by omega),if_neg (by omega),if_neg (by omega)]
def TakeC (q:Nat) (R:RdQ×Bool) (f:Nat) (args:Array Value) (w:World):Prop := ∀ w',Below w.heap.size w w'→Calls Tryz.prog f args w' fun e w''=>e=.returned (.bool R.2)∧Below q w' w''∧(R.2=true→DrE q R.1 w'')
theorem take_dim {q:Nat} {S:RdQ} {A:Nat→Option Addr} {C:Nat→Nat} {vd vc:Value} {line:ByteArray} {i:Nat} {w:World} {W:List ByteArray} (h:DrV q S A C vd vc w) (hE:EnvS w) (hn:S.dims.length≤1048577) (hl:line.size≤1048576) (hF:FewW (wdsB line) W) (hk:kindB W=1) :
  TakeC q (rdLine S i (wdsB line)) 35 #[.pointer (some ⟨q,0,none⟩),.string (wdB W 1),.string (wdB W 2)] w:=fun w' hb=>by
 have e:=few_kind hF (by omega)
 subst e
 obtain ⟨r1,r2⟩:=rd_dim (S:=S) (i:=i) hk
 have hz:=fun k=>wdB_size 32 line k
 refine (stdim_any q S A C vd vc (wdB (wdsB line) 1) (wdB (wdsB line) 2) w' (h.later hb) (hE.later hb) hn (Nat.le_trans (hz 1) hl) (Nat.le_trans (hz 2) hl)).mono fun e w'' ⟨he,hB,hD⟩=>⟨by rw [r1];exact he,hB,fun ht=>?_⟩
 rw [r1] at ht
 simp only [Bool.and_eq_true,decide_eq_true_eq] at ht
 rw [r2 ht.2]
 exact hD ⟨ht.1.1,ht.1.2,ht.2⟩
theorem take_mem {q:Nat} {S:RdQ} {A:Nat→Option Addr} {C:Nat→Nat} {vd vc:Value} {line:ByteArray} {i:Nat} {w:World} {W:List ByteArray} (h:DrV q S A C vd vc w) (hE:EnvS w) (hn:S.dims.length≤1048577) (hm:(dmL S.dims (S.dims.length-1)).n≤1048577) (hl:line.size≤1048576) (hF:FewW (wdsB line) W) (hk:kindB W=2) :
  TakeC q (rdLine S i (wdsB line)) 36 #[.pointer (some ⟨q,0,none⟩),.string (wdB W 1),.string (wdB W 2),.string (wdB W 3)] w:=fun w' hb=>by
 have e:=few_kind hF (by omega)
 subst e
 obtain ⟨r1,r2⟩:=rd_mem (S:=S) (i:=i) hk
 have hz:=fun k=>wdB_size 32 line k
 refine (stmem_any q S A C vd vc (wdB (wdsB line) 1) (wdB (wdsB line) 2) (wdB (wdsB line) 3) w' (h.later hb) (hE.later hb) hn hm (Nat.le_trans (hz 1) hl) (Nat.le_trans (hz 2) hl) (Nat.le_trans (hz 3) hl)).mono fun e w'' ⟨he,hB,hD⟩=>⟨by rw [r1];exact he,hB,fun ht=>?_⟩
 rw [r1] at ht
 rw [r2 ht]
 exact hD ht
theorem take_cel {q:Nat} {S:RdQ} {A:Nat→Option Addr} {C:Nat→Nat} {vd vc:Value} {line:ByteArray} {i:Nat} {w:World} {W:List ByteArray} (h:DrV q S A C vd vc w) (hE:EnvS w) (hi:S.pl.length=0∨S.first+S.pl.length=i) (hn:S.pl.length≤1048577) (hl:line.size≤1048576) (hF:FewW (wdsB line) W) (hk:kindB W=3) :
  TakeC q (rdLine S i (wdsB line)) 37 #[.pointer (some ⟨q,0,none⟩),.string (wdB W 1),.string (wdB W 2),.int .i64 i] w:=fun w' hb=>by
 have e:=few_kind hF (by omega)
 subst e
 have r1:=rd_cel (S:=S) (i:=i) hk
 have hz:=fun k=>wdB_size 32 line k
 refine (stcell_any q S A C vd vc (wdB (wdsB line) 1) (wdB (wdsB line) 2) i w' (h.later hb) (hE.later hb) hi hn (Nat.le_trans (hz 1) hl) (Nat.le_trans (hz 2) hl)).mono fun e w'' ⟨he,hB,hD⟩=>⟨by rw [r1];exact he,hB,fun ht=>?_⟩
 rw [r1] at ht ⊢
 simp only [Bool.and_eq_true] at ht
 exact hD ht
theorem isB_eq {x:ByteArray} {l:List UInt8} (h:isB x l=true):x.toList=l:=by simpa [isB] using h
set_option maxHeartbeats 16000000 in
theorem stake_any (q:Nat) (S:RdQ) (A:Nat→Option Addr) (C:Nat→Nat) (vd vc:Value) (line:ByteArray) (i:Nat) (w:World) (h:DrV q S A C vd vc w) (hE:EnvS w) (hi:S.pl.length=0∨S.first+S.pl.length=i) (hn:S.dims.length≤1048577) (hp:S.pl.length≤1048577) (hm:(dmL S.dims (S.dims.length-1)).n≤1048577) (hl:line.size≤1048576) :
  Calls Tryz.prog 23 #[.pointer (some ⟨q,0,none⟩),.string line,.int .i64 i] w fun e w'=>e=.returned (.bool (rdLine S i (wdsB line)).2)∧Below q w w'∧((rdLine S i (wdsB line)).2=true→DrE q (rdLine S i (wdsB line)).1 w'):=by
 have hqs:=h.lt
 have HQ:Hid (∀ w',Below w.heap.size w w'→Below q w w'):=fun w' hb=>hb.mono (by omega)
 have HD:Hid (∀ W,FewW (wdsB line) W→kindB W=1→TakeC q (rdLine S i (wdsB line)) 35 #[.pointer (some ⟨q,0,none⟩),.string (wdB W 1),.string (wdB W 2)] w):=fun W hF hk=>take_dim h hE hn hl hF hk
 have HM:Hid (∀ W,FewW (wdsB line) W→kindB W=2→TakeC q (rdLine S i (wdsB line)) 36 #[.pointer (some ⟨q,0,none⟩),.string (wdB W 1),.string (wdB W 2),.string (wdB W 3)] w):=fun W hF hk=>take_mem h hE hn hm hl hF hk
 have HC:Hid (∀ W,FewW (wdsB line) W→kindB W=3→TakeC q (rdLine S i (wdsB line)) 37 #[.pointer (some ⟨q,0,none⟩),.string (wdB W 1),.string (wdB W 2),.int .i64 i] w):=fun W hF hk=>take_cel h hE hi hp hl hF hk
 have HN:Hid (∀ W,FewW (wdsB line) W→kindB W=0→rdLine S i (wdsB line)=(S,false)):=fun W hF hk=>rd_none (by rw [kind_few hF];exact hk)
 have hsp:=ssplit_any line w (by omega)
 have e0:piecesC 32 line=wdsB line:=rfl
 rw [e0] at hsp
 generalize wdsB line=P at hsp HD HM HC HN
 generalize rdLine S i P=R at HD HM HC HN
 obtain ⟨ok,hok⟩:∃ ok,R.2=ok:=⟨_,rfl⟩
 have HOK:=hid_of hok
 rw [hok]
 clear h hE hi hn hp hm hl e0 hok
 go_enter Tryz.func23,Tryz.ntmps23
 go_wp2_with fail
 refine hsp.mono ?_
 rintro e w1 ⟨W,N,rfl,hw1,hWN,hF⟩
 have hB1:Below w.heap.size w w1:=by rw [hw1];exact (Below.refl _ _).alloc (Nat.le_refl _) _
 have hcl:∀ k,k<W.length→w1.cell? ⟨w.heap.size,k,none⟩=some (.string (wdB W k)):=fun k hk=>by rw [hw1];exact (Lib.cell_of_heap (heap_alloc_new w _) k).trans (cellsOf_get hk)
 have hH:w.heap.size<w1.heap.size:=by rw [hw1];simp
 have HF:=hid_of hF
 have HB1:=hid_of hB1
 have h0:=hF.1
 have h5:=hF.2.1
 obtain ⟨H,hHe⟩:∃ H,w.heap.size=H:=⟨_,rfl⟩
 rw [hHe] at hcl hH ⊢
 clear hw1 hB1 hF hsp
 obtain ⟨kd,hkd⟩:∃ kd,kindB W=kd:=⟨_,rfl⟩
 have hk4:kd=0∨kd=1∨kd=2∨kd=3:=by
  rw [←hkd]
  unfold kindB
  split
  ·omega
  ·split
   ·omega
   ·split <;> omega
 have HR:Hid (∀ (f:Nat) (args:Array Value),TakeC q R f args w→∀ w',Below w1.heap.size w1 w'→Calls Tryz.prog f args w' fun e w''=>e=.returned (.bool ok)∧Below q w' w''∧(ok=true→DrE q R.1 w'')):=fun f args hT w' hb=>by
  have:=hT w' (onB HB1.out hb)
  rw [HOK.out] at this
  exact this
 rcases hk4 with rfl | rfl | rfl | rfl
 ·have hr:=HN.out W HF.out hkd
  have ho:ok=false:=by rw [←HOK.out,hr]
  subst ho
  have x0:=hcl 0 (by omega)
  have k1 : ¬ (isB (wdB W 0) [100,105,109]=true∧W.length=3):=fun h=>by unfold kindB at hkd;rw [if_pos h] at hkd;cases hkd
  have k2 : ¬ (isB (wdB W 0) [109,101,109]=true∧W.length=4):=fun h=>by unfold kindB at hkd;rw [if_neg k1,if_pos h] at hkd;cases hkd
  have k3 : ¬ (isB (wdB W 0) [99,101,108,108]=true∧W.length=3):=fun h=>by unfold kindB at hkd;rw [if_neg k1,if_neg k2,if_pos h] at hkd;cases hkd
  obtain ⟨L,hL⟩:∃ L,W.length=L:=⟨_,rfl⟩
  rw [hL] at hWN h0 h5 k1 k2 k3 ⊢
  generalize wdB W 0=a0 at x0 k1 k2 k3
  have hL1:(0:Int)<(L:Int):=by omega
  clear hcl hkd HR HD HM HC HN hL hr
  by_cases b1:isB a0 [100,105,109]=true
  ·have g0:=isB_eq b1
   have l3:((L:Int) == 3)=false:=beq_eq_false_iff_ne.2 fun e=>k1 ⟨b1,by omega⟩
   clear k1 k2 k3 b1
   go_wp2_with fail
   go_ret
   exact ⟨rfl,HQ.out _ HB1.out,fun h=>by cases h⟩
  ·by_cases b2:isB a0 [109,101,109]=true
   ·have g0:=isB_eq b2
    have l3:((L:Int) == 4)=false:=beq_eq_false_iff_ne.2 fun e=>k2 ⟨b2,by omega⟩
    clear k1 k2 k3 b1 b2
    go_wp2_with fail
    go_ret
    exact ⟨rfl,HQ.out _ HB1.out,fun h=>by cases h⟩
   ·by_cases b3:isB a0 [99,101,108,108]=true
    ·have g0:=isB_eq b3
     have l3:((L:Int) == 3)=false:=beq_eq_false_iff_ne.2 fun e=>k3 ⟨b3,by omega⟩
     clear k1 k2 k3 b1 b2 b3
     go_wp2_with fail
     go_ret
     exact ⟨rfl,HQ.out _ HB1.out,fun h=>by cases h⟩
    ·have g1:(a0.toList == [100,105,109])=false:=by simpa [isB] using b1
     have g2:(a0.toList == [109,101,109])=false:=by simpa [isB] using b2
     have g3:(a0.toList == [99,101,108,108])=false:=by simpa [isB] using b3
     clear k1 k2 k3 b1 b2 b3
     go_wp2_with fail
     go_ret
     exact ⟨rfl,HQ.out _ HB1.out,fun h=>by cases h⟩
 ·obtain ⟨k1,k2⟩:=kind_dim hkd
  have hT:=hid_of (HR.out _ _ (HD.out W HF.out hkd))
  have x0:=hcl 0 (by omega)
  have x1:=hcl 1 (by omega)
  have x2:=hcl 2 (by omega)
  have g0:=isB_eq k1
  rw [k2] at hWN ⊢
  generalize wdB W 0=a0 at x0 g0
  generalize wdB W 1=a1 at x1 hT
  generalize wdB W 2=a2 at x2 hT
  clear hcl hkd k1 k2 h0 h5 HR HD HM HC HN
  go_wp2_with fail
  go_region_law ((go_simp;refine (hT.out _ (by go_grown)).mono ?_;rintro e w4 ⟨rfl,hb4,hd4⟩;have HB4:=hid_of ((HQ.out _ HB1.out).trans (Below.trans (by go_grown) hb4));have HD4:=hid_of hd4;clear hb4 hd4))
  all_goals go_wp2_with fail
  all_goals go_ret
  all_goals exact ⟨rfl,HB4.out,HD4.out⟩
 ·obtain ⟨k1,k2⟩:=kind_mem hkd
  have hT:=hid_of (HR.out _ _ (HM.out W HF.out hkd))
  have x0:=hcl 0 (by omega)
  have x1:=hcl 1 (by omega)
  have x2:=hcl 2 (by omega)
  have x3:=hcl 3 (by omega)
  have g0:=isB_eq k1
  rw [k2] at hWN ⊢
  generalize wdB W 0=a0 at x0 g0
  generalize wdB W 1=a1 at x1 hT
  generalize wdB W 2=a2 at x2 hT
  generalize wdB W 3=a3 at x3 hT
  clear hcl hkd k1 k2 h0 h5 HR HD HM HC HN
  go_wp2_with fail
  go_region_law ((go_simp;refine (hT.out _ (by go_grown)).mono ?_;rintro e w4 ⟨rfl,hb4,hd4⟩;have HB4:=hid_of ((HQ.out _ HB1.out).trans (Below.trans (by go_grown) hb4));have HD4:=hid_of hd4;clear hb4 hd4))
  all_goals go_wp2_with fail
  all_goals go_ret
  all_goals exact ⟨rfl,HB4.out,HD4.out⟩
 ·obtain ⟨k1,k2⟩:=kind_cel hkd
  have hT:=hid_of (HR.out _ _ (HC.out W HF.out hkd))
  have x0:=hcl 0 (by omega)
  have x1:=hcl 1 (by omega)
  have x2:=hcl 2 (by omega)
  have g0:=isB_eq k1
  rw [k2] at hWN ⊢
  generalize wdB W 0=a0 at x0 g0
  generalize wdB W 1=a1 at x1 hT
  generalize wdB W 2=a2 at x2 hT
  clear hcl hkd k1 k2 h0 h5 HR HD HM HC HN
  go_wp2_with fail
  go_region_law ((go_simp;refine (hT.out _ (by go_grown)).mono ?_;rintro e w4 ⟨rfl,hb4,hd4⟩;have HB4:=hid_of ((HQ.out _ HB1.out).trans (Below.trans (by go_grown) hb4));have HD4:=hid_of hd4;clear hb4 hd4))
  all_goals go_wp2_with fail
  all_goals go_ret
  all_goals exact ⟨rfl,HB4.out,HD4.out⟩
end Go.Proofs.YtpoklbfffgpbiaaGreatDoor
