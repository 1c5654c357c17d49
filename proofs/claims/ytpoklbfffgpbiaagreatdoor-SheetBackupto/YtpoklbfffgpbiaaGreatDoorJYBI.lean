/-
  What Parse of package place answers, called in whatever memory: the place that a text names, in new memory, or what is wrong with it.
-/
import Derived.Test.YtpoklbfffgpbiaaGreatDoorJYBH
namespace Go.Proofs.YtpoklbfffgpbiaaGreatDoor
open Go.ChangeShapes Go.WideShapes Go.ChangeAt Go.RowKit
set_option maxRecDepth 20000
def readTo (D:Nat→Dm) (s:ByteArray) (n k:Nat):List Int:=readL D s k ++ List.replicate (n-k) 0
theorem readTo_len (D:Nat→Dm) (s:ByteArray) {n k:Nat} (h:k≤n):(readTo D s n k).length=n:=by simp [readTo,readL];omega
theorem readTo_set (D:Nat→Dm) (s:ByteArray) {n k:Nat} (h:k<n):(readTo D s n k).set k (pk D s k)=readTo D s n (k+1):=by
 unfold readTo readL
 rw [List.range_succ,List.map_append,List.map_singleton,List.append_assoc,List.set_append_right _ _ (by simp),List.length_map,List.length_range,Nat.sub_self,show n-k=(n-(k+1))+1 by omega,List.replicate_succ]
 rfl
theorem readTo_all (D:Nat→Dm) (s:ByteArray) (n:Nat):readTo D s n n=readL D s n:=by simp [readTo]
theorem pieceB_cell {s:ByteArray} {w:World} {g k:Nat} {T:Nat} (h:w.heap[g]?=some (.cells ((pieces s).map Value.string).toArray T (0,0))) (hk:k<(pieces s).length):w.cell? ⟨g,k,none⟩=some (.string (pieceB s k)):=by
 rw [Lib.cell_of_heap h]
 simp [pieceB,List.getD,hk]
theorem IntB.ty {w:World} {g:Nat} {L:List Int} (h:IntB w g L):PlTy w (some ⟨g,0,none⟩) L.length L :=
 ⟨Nat.le_refl _,Or.inr ⟨g,0,_,_,rfl,h,fun j hj=>by rw [Nat.zero_add];exact h.cell hj⟩⟩
set_option maxHeartbeats 4000000 in
theorem pparse_ty (A0:Option Addr) (cap n:Nat) (D:Nat→Dm) (A:Nat→Option Addr) (C:Nat→Nat) (s:ByteArray) (w:World) (hs:s.size≤4611686018427387904) (hM:DimsV w A0 cap n D A C):Calls Tryz.prog 26 #[.agg #[.slice A0 n cap],.string s] w fun e w'=>(∃ A' c',e=.returned (.tuple #[.slice A' (parseL D n s).length c',errV (parseErr D n s)])∧PlTy w' A' c' (parseL D n s))∧Below w.heap.size w w':=by
 have hB0:=ownOut_below w A0 n cap 24
 have h:=checko_any A0 cap n D A C (ownOut w A0 n cap 24) (hM.later hB0)
 have HB0:Hid (Below w.heap.size w (ownOut w A0 n cap 24)):=hB0
 have HM:Hid (DimsV w A0 cap n D A C):=hM
 clear hM hB0
 by_cases he:(allErr D n).2.2=0
 ·obtain ⟨hn1,hn4,-,hd⟩:=allErr_some he
  have HA:Hid ((allErr D n).2.2=0):=he
  have HPE:Hid (parseErr D n s=readErr D n s):=pa1 he
  rw [he,errV_zero] at h
  have hn':(n:Int)≤4:=by omega
  have hpz:=pieces_pos s
  have hple:=pieces_le s
  have HCT:Hid (∀ w,Calls Tryz.prog 44 #[.string s,.string ⟨#[46]⟩] w fun e w'=>e=.returned (.int .i64 (((pieces s).length:Int)-1))∧w'=w):=count_dot s
  have HSP:Hid ((pieces s).length=n→∀ w,Calls Tryz.prog 45 #[.string s,.string ⟨#[46]⟩] w fun e w'=>e=.returned (.slice (some ⟨w.heap.size,0,none⟩) (pieces s).length (pieces s).length)∧w'=w.alloc (.cells ((pieces s).map Value.string).toArray 9)):=fun hp w=>split_any s w (by omega) hs
  obtain ⟨m,hm⟩:∃ m,(pieces s).length=m:=⟨_,rfl⟩
  have Hm:Hid ((pieces s).length=m):=hm
  rw [hm] at hpz hple HCT HSP
  have hmb:(m:Int)≤4611686018427387905:=by omega
  have hmp:(1:Int)≤(m:Int):=by omega
  have hwm:IntKind.i64.wrap (m:Int)=(m:Int):=IntWalk.i64_in _ (by omega)
  clear he hd hm hple
  go_enter Tryz.func26,Tryz.ntmps26
  go_wp2_with fail
  refine h.mono ?_
  rintro e w1 ⟨rfl,hb1⟩
  have hB:Below w.heap.size w w1:=onB HB0.out hb1
  have hz:w.heap.size<w1.heap.size:=by have:=hb1.size;rw [ownOut_size] at this;omega
  have h2:w1.cell? ⟨w.heap.size,0,none⟩=some (.slice A0 n cap):=(hb1.cell (p:=⟨w.heap.size,0,none⟩) (by show w.heap.size<_;rw [ownOut_size];omega)).trans (ownOut_at ..)
  obtain ⟨hcap,h0 | ⟨b,o,rfl,hMs⟩⟩:=HM.out.later hB
  ·omega
  have HMs:Hid (DimsAt w1 b o n D A C):=hMs
  have HB:Hid (Below w.heap.size w w1):=hB
  have HC:Hid (∀ w',Below w1.heap.size w1 w'→w'.cell? ⟨w.heap.size,0,none⟩=some (.slice (some ⟨b,o,none⟩) n cap)):=fun w' hw'=>(hw'.cell (p:=⟨w.heap.size,0,none⟩) hz).trans h2
  clear hb1 h hMs hB
  go_wp2_with fail
  go_quiet ((go_at_call 44;exact Calls.quiet_of_same (HCT.out _)))
  have HBq:Hid (Below w1.heap.size w1 (w1.drewN nq)):=below_drewN (Below.refl _ _) nq
  have hcq:=HC.out _ HBq.out
  generalize w1.drewN nq=w2 at HBq hcq ⊢
  have hz2:w.heap.size<w2.heap.size:=Nat.lt_of_lt_of_le hz HBq.out.size
  have HB2:Hid (Below w.heap.size w w2):=onB HB.out HBq.out
  have HM2:Hid (DimsAt w2 b o n D A C):=HMs.out.later HBq.out
  have HC2:Hid (∀ w',Below w2.heap.size w2 w'→w'.cell? ⟨w.heap.size,0,none⟩=some (.slice (some ⟨b,o,none⟩) n cap)):=fun w' hw'=>HC.out w' (onB HBq.out hw')
  clear HBq HC HB HMs h2 hz HCT
  by_cases hmn:m=n
  ·have HS0:Hid (∀ w,Calls Tryz.prog 45 #[.string s,.string ⟨#[46]⟩] w fun e w'=>e=.returned (.slice (some ⟨w.heap.size,0,none⟩) m m)∧w'=w.alloc (.cells ((pieces s).map Value.string).toArray 9)):=HSP.out hmn
   have hmb':((m:Int) != (n:Int))=false:=by simp;omega
   subst hmn
   have hmk:=run_make_row' (P:=Tryz.prog) 34 3 (.int .i64 0) 8 Tryz.underlying34 Tryz.infoIntP rfl .i64 .i64 m (by omega) (by omega)
   have hsp:=HS0.out
   have HFD:Hid (∀ i,i<m→(dimErr (D i)).2=0):=(allErr_right HA.out).2
   generalize hps:((pieces s).map Value.string).toArray=ps at hsp
   have HPS:Hid (ps=((pieces s).map Value.string).toArray):=hps.symm
   clear HSP HS0 hps
   go_wp2_with fail
   refine (hsp _).mono ?_
   rintro e w3 ⟨rfl,hw3⟩
   have hg3:w3.heap[w2.heap.size]?=some (.cells ((List.replicate m (0:Int)).map (Value.int .i64)).toArray 3 (0,0)):=by
    rw [hw3,Below.heap_alloc _ _ _ (by simp)]
    exact IntB.made w2 m
   have hs3:w3.heap[w2.heap.size+1]?=some (.cells ps 9 (0,0)):=by
    rw [hw3]
    have:=heap_alloc_new (w2.alloc (.cells (madeCells #[.int .i64 0] m) 3)) (.cells ps 9)
    simpa using this
   have hB3:Below w2.heap.size w2 w3:=by rw [hw3];go_grown
   have HI3:Hid (IntB w3 w2.heap.size (readTo D s m 0)):=by
    show IntB _ _ _
    have e0:readTo D s m 0=List.replicate m 0:=by simp [readTo,readL]
    rw [e0]
    exact hg3
   have HS3:Hid (w3.heap[w2.heap.size+1]?=some (.cells ((pieces s).map Value.string).toArray 9 (0,0))):=by rw [HPS.out] at hs3;exact hs3
   have HB3:Hid (Below w2.heap.size w2 w3):=hB3
   clear hmk hsp hw3 hg3 hs3 hB3
   go_wp2_with fail
   go_loopg [32] m (fun g s32 wr => ∃ (k:Nat),k≤m∧g=m-k∧s32=.int .i64 k∧findFrom (noneB D s) (m-k) k=findFrom (noneB D s) m 0∧IntB wr w2.heap.size (readTo D s m k)∧wr.heap[w2.heap.size+1]?=some (.cells ((pieces s).map Value.string).toArray 9 (0,0))∧Below w2.heap.size w2 wr)
   case atStart=>exact ⟨0,Nat.zero_le _,rfl,rfl,rfl,HI3.out,HS3.out,HB3.out⟩
   case round =>
    obtain ⟨k,hk,rfl,rfl,hf,hI,hS,hBw⟩:=hrel
    have HF:Hid (findFrom (noneB D s) (m-k) k=findFrom (noneB D s) m 0):=hf
    have HI:Hid (IntB wr w2.heap.size (readTo D s m k)):=hI
    have HS:Hid (wr.heap[w2.heap.size+1]?=some (.cells ((pieces s).map Value.string).toArray 9 (0,0))):=hS
    have HW:Hid (Below w2.heap.size w2 wr):=hBw
    by_cases hlt:k<m
    ·obtain ⟨h0,h1,h3,h4⟩:=(HM2.out.later hBw).2 k hlt
     have hki:(k:Int)<(m:Int):=by omega
     have c0:=HC2.out wr hBw
     have cs:=pieceB_cell hS (k:=k) (by rw [Hm.out];exact hlt)
     have HSK:Hid (m-k=(m-(k+1))+1):=by show _=_;omega
     have hfd:=find_any (D k) (A k) (C k) (pieceB s k) wr h4
     unfold dimV at hfd
     have hIz:=hI.lt
     clear hf hI hS hBw h4
     by_cases hpk:pk D s k<0
     ·have HN:Hid (noneB D s k=true):=by show _=_;simp [noneB,hpk]
      rw [findErr_none (HFD.out k hlt) hpk,errV_some (by decide)] at hfd
      have HR:Hid (parseErr D m s=5):=by
       show _=_
       rw [HPE.out,rd1 Hm.out]
       rw [←HF.out,HSK.out,findFrom_hit _ HN.out]
       omega
      have HL:Hid (parseL D m s=[]):=by show _=_;unfold parseL;rw [HR.out];rfl
      clear hpk
      go_wp2_with fail
      refine hfd.mono ?_
      rintro e w4 ⟨rfl,hb4⟩
      go_wp2_with fail
      go_ret2
      rw [HL.out,HR.out]
      exact ⟨⟨none,0,rfl,PlTy.nil _ _ _⟩,onB HB2.out (HW.out.trans (hb4.mono HW.out.size))⟩
     ·have HN:Hid (noneB D s k=false):=by show _=_;simp [noneB];omega
      rw [findErr_some (HFD.out k hlt) hpk,errV_zero] at hfd
      change Calls _ _ _ _ (fun e w'=>e=.returned (.tuple #[.int .i64 (pk D s k),.nilIface])∧_) at hfd
      have HT:Hid ((readTo D s m k).set k (pk D s k)=readTo D s m (k+1)):=readTo_set D s hlt
      have HLn:Hid ((readTo D s m k).length=m):=readTo_len D s hk
      generalize pk D s k=x at hfd hpk HT
      clear hpk
      go_wp2_with fail
      refine hfd.mono ?_
      rintro e w4 ⟨rfl,hb4⟩
      have hI4:=HI.out.later hb4
      have c4:=hI4.cell (j:=k) (by rw [HLn.out];exact hlt)
      have c5:=hI4.frozen k
      have HI4:Hid (IntB w4 w2.heap.size (readTo D s m k)):=hI4
      have HS4:Hid (w4.heap[w2.heap.size+1]?=some (.cells ((pieces s).map Value.string).toArray 9 (0,0))):=(hb4.block _ (Array.getElem?_eq_some_iff.1 HS.out).1).trans HS.out
      have HW4:Hid (Below w2.heap.size w2 w4):=HW.out.trans (hb4.mono HW.out.size)
      generalize (readTo D s m k).getD k 0=old at c4
      clear hfd hb4 hI4 c0 cs h0 h1 h3
      go_wp2_with fail
      go_roundg (m-(k+1))
      case measure=>omega
      case rel =>
       refine ⟨k+1,by omega,rfl,by go_num,by rw [←HF.out,HSK.out,findFrom_miss _ HN.out],?_,?_,HW4.out.setCell (Nat.le_refl _) _⟩
       ·rw [←HT.out];exact HI4.out.set k x
       ·rw [Below.heap_setCell _ _ _ _ (by show w2.heap.size+1≠w2.heap.size;omega)];exact HS4.out
    ·have hke:k=m:=by omega
     subst hke
     have HR:Hid (parseErr D k s=0):=by
      show _=_
      rw [HPE.out,rd2 Hm.out]
      rw [←HF.out,Nat.sub_self]
      show ¬ (0:Int)≤-1
      decide
     have HL:Hid (parseL D k s=readL D s k):=by show _=_;unfold parseL;rw [if_pos HR.out]
     clear hf hI hS hBw
     go_wp2_with fail
     go_ret2
     rw [HL.out,HR.out]
     have hp:=HI.out.ty
     rw [readTo_all] at hp
     rw [readL_len] at hp ⊢
     exact ⟨⟨_,_,rfl,hp⟩,onB HB2.out HW.out⟩
  ·have hmb':((m:Int) != (n:Int))=true:=by simp;omega
   have HR:Hid (parseErr D n s=2):=by show _=_;rw [HPE.out,rd0 (by rw [Hm.out];exact hmn)]
   have HL:Hid (parseL D n s=[]):=by show _=_;unfold parseL;rw [HR.out];rfl
   go_wp2_with fail
   go_ret2
   rw [HL.out,HR.out]
   exact ⟨⟨none,0,rfl,PlTy.nil _ _ _⟩,HB2.out⟩
 ·have HE:Hid (parseErr D n s=(allErr D n).2.2):=pa0 he
  have HL:Hid (parseL D n s=[]):=by show _=_;unfold parseL;rw [HE.out,if_neg he]
  have HV:Hid (errV (allErr D n).2.2=.iface 70 (.int .i64 (allErr D n).2.2)):=errV_some he
  rw [errV_some he] at h
  clear he
  generalize (allErr D n).2.2=c at h HE HV
  go_enter Tryz.func26,Tryz.ntmps26
  go_wp2_with fail
  refine h.mono ?_
  rintro e w1 ⟨rfl,hb1⟩
  go_wp2_with fail
  go_ret2
  rw [HL.out,HE.out,HV.out]
  exact ⟨⟨none,0,rfl,PlTy.nil _ _ _⟩,onB HB0.out hb1⟩
end Go.Proofs.YtpoklbfffgpbiaaGreatDoor
