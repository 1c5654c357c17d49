/-
  What member of package outline answers: what is wrong with the member at a place, those ahead of it being told before.
-/
import Derived.Test.YtfgegmpoejilnaaGreatDoorJGAA
namespace Go.Proofs.YtfgegmpoejilnaaGreatDoor
open Go.ChangeShapes Go.WideShapes Go.ChangeAt Go.RowKit
set_option maxRecDepth 20000
def ownMem (w:World) (m:Mem) (T:Nat):World:=w.alloc (.cells #[.string m.name,.int .i64 m.parent,.int .i64 m.sign,.string m.formula] T)
theorem ownMem_at (w:World) (m:Mem) (T:Nat):MemAt (ownMem w m T) w.heap.size 0 m:=by unfold ownMem;exact ⟨by simp,by simp,by simp,by simp⟩
theorem ownMem_size (w:World) (m:Mem) (T:Nat):(ownMem w m T).heap.size=w.heap.size+1:=by unfold ownMem;simp
theorem ownMem_below (w:World) (m:Mem) (T:Nat):Below w.heap.size w (ownMem w m T):=by unfold ownMem;go_grown
theorem empty_same {s:ByteArray}:s.toList.isEmpty=decide (s.size=0):=by
 rw [ByteArray.toList_eq]
 have e:s.size=s.data.toList.length:=Array.length_toList.symm
 rw [e]
 cases s.data.toList <;> simp
theorem me0 {M:Nat→Mem} {i:Nat} (h:nameErr (M i).name≠0):memErr M i=2:=by unfold memErr;rw [if_pos h]
theorem me1 {M:Nat→Mem} {i:Nat} (h:nameErr (M i).name=0) (h1:clash M i=true):memErr M i=7:=by unfold memErr;rw [if_neg (by simpa using h),if_pos h1]
theorem me2 {M:Nat→Mem} {i:Nat} (h:nameErr (M i).name=0) (h1:clash M i=false) (h2:(M i).parent < -1∨(i:Int)≤(M i).parent):memErr M i=1:=by unfold memErr;rw [if_neg (by simpa using h),if_neg (by simp [h1]),if_pos h2]
theorem me3 {M:Nat→Mem} {i:Nat} (h:nameErr (M i).name=0) (h1:clash M i=false) (h2 : ¬ ((M i).parent < -1∨(i:Int)≤(M i).parent)) (h3:0≤(M i).parent∧(M (M i).parent.toNat).formula.size≠0):memErr M i=6:=by unfold memErr;rw [if_neg (by simpa using h),if_neg (by simp [h1]),if_neg h2,if_pos h3]
theorem me4 {M:Nat→Mem} {i:Nat} (h:nameErr (M i).name=0) (h1:clash M i=false) (h2 : ¬ ((M i).parent < -1∨(i:Int)≤(M i).parent)) (h3 : ¬ (0≤(M i).parent∧(M (M i).parent.toNat).formula.size≠0)) (h4:(M i).sign < -1∨1<(M i).sign):memErr M i=1:=by unfold memErr;rw [if_neg (by simpa using h),if_neg (by simp [h1]),if_neg h2,if_neg h3,if_pos h4]
theorem me5 {M:Nat→Mem} {i:Nat} (h:nameErr (M i).name=0) (h1:clash M i=false) (h2 : ¬ ((M i).parent < -1∨(i:Int)≤(M i).parent)) (h3 : ¬ (0≤(M i).parent∧(M (M i).parent.toNat).formula.size≠0)) (h4 : ¬ ((M i).sign < -1∨1<(M i).sign)) (h5:100<(M i).formula.size):memErr M i=4:=by unfold memErr;rw [if_neg (by simpa using h),if_neg (by simp [h1]),if_neg h2,if_neg h3,if_neg h4,if_pos h5]
theorem me6 {M:Nat→Mem} {i:Nat} (h:nameErr (M i).name=0) (h1:clash M i=false) (h2 : ¬ ((M i).parent < -1∨(i:Int)≤(M i).parent)) (h3 : ¬ (0≤(M i).parent∧(M (M i).parent.toNat).formula.size≠0)) (h4 : ¬ ((M i).sign < -1∨1<(M i).sign)) (h5 : ¬ 100<(M i).formula.size):memErr M i=0:=by unfold memErr;rw [if_neg (by simpa using h),if_neg (by simp [h1]),if_neg h2,if_neg h3,if_neg h4,if_neg h5]
set_option maxHeartbeats 2000000 in
theorem member_any (b o n cap i:Nat) (M:Nat→Mem) (w:World) (hn:n≤12) (hc:n≤cap) (hi:i<n) (hM:MemsAt w b o n M):Calls Tryz.prog 127 #[.slice (some ⟨b,o,none⟩) n cap,.int .i64 i] w fun e w'=>e=.returned (errV (memErr M i))∧Below w.heap.size w w':=by
 have hnm:=name_any (M i).name
 obtain ⟨h0,h1,h2,h3⟩:=hM.2 i hi
 have hii:(i:Int)<(n:Int):=by omega
 have hn':(n:Int)≤12:=by omega
 have hc':(n:Int)≤(cap:Int):=by omega
 have hbw:=hM.1
 have HM:Hid (MemsAt w b o n M):=hM
 clear hM
 by_cases hn:nameErr (M i).name=0
 ·rw [hn,errV_zero] at hnm
  have HN:Hid (nameErr (M i).name=0):=hn
  clear hn
  go_enter Tryz.func127,Tryz.ntmps127
  go_wp2_with fail
  refine (hnm _).mono ?_
  rintro e w1 ⟨rfl,hb1⟩
  have hS:=ownMem_size w (M i) 27
  have hB:Below w.heap.size w w1:=onB (ownMem_below w (M i) 27) hb1
  have hA1:MemAt w1 w.heap.size 0 (M i):=(ownMem_at w (M i) 27).later (by rw [hS];omega) hb1
  have hz:w.heap.size<w1.heap.size:=by
   have:=hb1.size
   change (ownMem w (M i) 27).heap.size≤_ at this
   omega
  have hM1:=HM.out.later hB
  clear hb1 h0 h1 h2 h3 hS
  have hcl:=contains_mems 164 w.heap.size member1_in b o i cap M (fun j=>same (M j).name (M i).name) w1 (by omega) (hM1.less (by omega)) (fun j w' hj hw'=>member1_any (M j) (M i) w.heap.size w' (Nat.lt_of_lt_of_le hz hw'.size) (hA1.later hz hw').1)
  obtain ⟨a0,a1,a2,a3⟩:=hA1
  have HM1:Hid (MemsAt w1 b o n M):=hM1
  clear hM1
  change Calls _ _ _ _ (fun e w'=>e=.returned (.bool (clash M i))∧_) at hcl
  cases hk:clash M i
  ·rw [hk] at hcl
   have HK:Hid (clash M i=false):=hk
   clear hk
   go_wp2_with fail
   refine hcl.mono ?_
   rintro e w2 ⟨rfl,hb2⟩
   have b1:w2.cell? ⟨w.heap.size,1,none⟩=some (.int .i64 (M i).parent):=(hb2.cell (p:=⟨w.heap.size,1,none⟩) hz).trans a1
   have b2:w2.cell? ⟨w.heap.size,2,none⟩=some (.int .i64 (M i).sign):=(hb2.cell (p:=⟨w.heap.size,2,none⟩) hz).trans a2
   have b3:w2.cell? ⟨w.heap.size,3,none⟩=some (.string (M i).formula):=(hb2.cell (p:=⟨w.heap.size,3,none⟩) hz).trans a3
   have hB2:Below w.heap.size w w2:=onB hB hb2
   have hM2:=HM1.out.later hb2
   clear a0 a1 a2 a3 hcl hb2 HM1 hB hz
   by_cases c1:(M i).parent < -1
   ·go_wp2_with fail
    go_ret
    exact ⟨by rw [me2 HN.out HK.out (Or.inl c1)];rfl,hB2⟩
   ·by_cases c2:(i:Int)≤(M i).parent
    ·go_wp2_with fail
     go_ret
     exact ⟨by rw [me2 HN.out HK.out (Or.inr c2)];rfl,hB2⟩
    ·have HC:Hid (¬ ((M i).parent < -1∨(i:Int)≤(M i).parent)):=by show ¬ _;omega
     by_cases c3:0≤(M i).parent
     ·obtain ⟨p,hp⟩:∃ p:Nat,(M i).parent=(p:Int):=⟨(M i).parent.toNat,by omega⟩
      obtain ⟨-,-,-,d3⟩:=hM2.2 p (by omega)
      rw [hp] at b1 c1 c2 c3
      have HP:Hid ((M i).parent.toNat=p∧0≤(M i).parent):=⟨by omega,by omega⟩
      have hpi:(p:Int)<(n:Int):=by omega
      clear hp hM2
      by_cases c4:(M p).formula.size=0
      ·have c4':(M p).formula.toList.isEmpty=true:=by rw [empty_same];simpa using c4
       have HF:Hid (¬ (0≤(M i).parent∧(M (M i).parent.toNat).formula.size≠0)):=by show ¬ _;rw [HP.out.1];omega
       clear c4
       by_cases c5:(M i).sign < -1
       ·go_wp2_with fail
        go_ret
        exact ⟨by rw [me4 HN.out HK.out HC.out HF.out (Or.inl c5)];rfl,hB2⟩
       ·by_cases c6:1<(M i).sign
        ·go_wp2_with fail
         go_ret
         exact ⟨by rw [me4 HN.out HK.out HC.out HF.out (Or.inr c6)];rfl,hB2⟩
        ·by_cases c7:100<(M i).formula.size
         ·have c7':100<((M i).formula.size:Int):=by omega
          go_wp2_with fail
          go_ret
          exact ⟨by rw [me5 HN.out HK.out HC.out HF.out (by omega) c7];rfl,hB2⟩
         ·have c7':((M i).formula.size:Int)≤100:=by omega
          go_wp2_with fail
          go_ret
          exact ⟨by rw [me6 HN.out HK.out HC.out HF.out (by omega) c7];rfl,hB2⟩
      ·have c4':(M p).formula.toList.isEmpty=false:=by rw [empty_same];simpa using c4
       have HF:Hid (0≤(M i).parent∧(M (M i).parent.toNat).formula.size≠0):=by refine ⟨HP.out.2,?_⟩;rw [HP.out.1];exact c4
       clear c4
       go_wp2_with fail
       go_ret
       exact ⟨by rw [me3 HN.out HK.out HC.out HF.out];rfl,hB2⟩
     ·have HF:Hid (¬ (0≤(M i).parent∧(M (M i).parent.toNat).formula.size≠0)):=by show ¬ _;omega
      clear hM2
      by_cases c5:(M i).sign < -1
      ·go_wp2_with fail
       go_ret
       exact ⟨by rw [me4 HN.out HK.out HC.out HF.out (Or.inl c5)];rfl,hB2⟩
      ·by_cases c6:1<(M i).sign
       ·go_wp2_with fail
        go_ret
        exact ⟨by rw [me4 HN.out HK.out HC.out HF.out (Or.inr c6)];rfl,hB2⟩
       ·by_cases c7:100<(M i).formula.size
        ·have c7':100<((M i).formula.size:Int):=by omega
         go_wp2_with fail
         go_ret
         exact ⟨by rw [me5 HN.out HK.out HC.out HF.out (by omega) c7];rfl,hB2⟩
        ·have c7':((M i).formula.size:Int)≤100:=by omega
         go_wp2_with fail
         go_ret
         exact ⟨by rw [me6 HN.out HK.out HC.out HF.out (by omega) c7];rfl,hB2⟩
  ·rw [hk] at hcl
   have HK:Hid (clash M i=true):=hk
   clear hk
   go_wp2_with fail
   refine hcl.mono ?_
   rintro e w2 ⟨rfl,hb2⟩
   go_wp2_with fail
   go_ret
   exact ⟨by rw [me1 HN.out HK.out];rfl,onB hB hb2⟩
 ·rw [nameErr_two hn,errV_some (by decide)] at hnm
  have HN:Hid (nameErr (M i).name≠0):=hn
  clear hn
  go_enter Tryz.func127,Tryz.ntmps127
  go_wp2_with fail
  refine (hnm _).mono ?_
  rintro e w1 ⟨rfl,hb1⟩
  have hB:Below w.heap.size w w1:=onB (by go_grown) hb1
  clear hb1
  go_wp2_with fail
  go_ret
  exact ⟨by rw [me0 HN.out];rfl,hB⟩
end Go.Proofs.YtfgegmpoejilnaaGreatDoor
