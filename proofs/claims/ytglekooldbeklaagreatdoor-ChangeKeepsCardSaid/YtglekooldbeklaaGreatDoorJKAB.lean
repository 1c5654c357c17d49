/-
  slices.IndexFunc and slices.ContainsFunc over the members of a dim, at any question that is told by a contract; the question of package outline: whether a member's name is the one of a member.
-/
import Derived.Test.YtglekooldbeklaaGreatDoorJKAA
namespace Go.Proofs.YtglekooldbeklaaGreatDoor
open Go.ChangeShapes Go.WideShapes Go.ChangeAt Go.RowKit
set_option maxRecDepth 20000
def memV (m:Mem):Value:=.agg #[.string m.name,.int .i64 m.parent,.int .i64 m.sign,.string m.formula]
def MemAt (w:World) (b o:Nat) (m:Mem):Prop:=w.cell? ⟨b,o,none⟩=some (.string m.name)∧w.cell? ⟨b,o+1,none⟩=some (.int .i64 m.parent)∧w.cell? ⟨b,o+2,none⟩=some (.int .i64 m.sign)∧w.cell? ⟨b,o+3,none⟩=some (.string m.formula)
def MemsAt (w:World) (b o n:Nat) (M:Nat→Mem):Prop:=b<w.heap.size∧∀ i,i<n→MemAt w b (o+i*4) (M i)
theorem MemAt.later {w w':World} {b o:Nat} {m:Mem} (h:MemAt w b o m) (hb:b<w.heap.size) (hB:Below w.heap.size w w'):MemAt w' b o m :=
 ⟨(hB.cell (p:=⟨b,o,none⟩) hb).trans h.1,(hB.cell (p:=⟨b,o+1,none⟩) hb).trans h.2.1,(hB.cell (p:=⟨b,o+2,none⟩) hb).trans h.2.2.1,(hB.cell (p:=⟨b,o+3,none⟩) hb).trans h.2.2.2⟩
theorem MemsAt.later {w w':World} {b o n:Nat} {M:Nat→Mem} (h:MemsAt w b o n M) (hB:Below w.heap.size w w'):MemsAt w' b o n M :=
 ⟨Nat.lt_of_lt_of_le h.1 hB.size,fun i hi=>(h.2 i hi).later h.1 hB⟩
theorem MemsAt.less {w:World} {b o n m:Nat} {M:Nat→Mem} (h:MemsAt w b o n M) (hm:m≤n):MemsAt w b o m M:=⟨h.1,fun i hi=>h.2 i (by omega)⟩
def EntersO (fn:Nat):Prop := ∀ (args:Array Value) (w:World),(callFunc fn args).run Tryz.prog w=.ok (.enter fn args) w
theorem member1_in:EntersO 121:=fun args w=>by simp [callFunc,Tryz.func121];rfl
def AskM (fn q:Nat) (w:World) (n:Nat) (M:Nat→Mem) (p:Nat→Bool):Prop := ∀ (i:Nat) (w':World),i<n→Below w.heap.size w w'→Calls Tryz.prog fn #[memV (M i),.pointer (some ⟨q,0,none⟩)] w' fun e w''=>e=.returned (.bool (p i))∧Below w'.heap.size w' w''
set_option maxHeartbeats 1000000 in
theorem index_mems (fn q:Nat) (he:EntersO fn) (b o n cap:Nat) (M:Nat→Mem) (p:Nat→Bool) (w:World) (hn:n≤12) (hM:MemsAt w b o n M) (hp:AskM fn q w n M p) :
  Calls Tryz.prog 124 #[.slice (some ⟨b,o,none⟩) n cap,.func (.func fn) #[] #[.pointer (some ⟨q,0,none⟩)]] w fun e w'=>e=.returned (.int .i64 (findFrom p n 0))∧Below w.heap.size w w':=by
 have HB:Hid (MemsAt w b o n M):=hM
 have HP:Hid (AskM fn q w n M p):=hp
 clear hM hp
 unfold EntersO at he
 go_enter Tryz.func124,Tryz.ntmps124
 go_wp2_with fail
 go_loopg [8] n (fun g s8 wr => ∃ (k:Nat),k≤n∧g=n-k∧s8=.int .i64 k∧findFrom p (n-k) k=findFrom p n 0∧Below w.heap.size w wr)
 case atStart=>exact ⟨0,Nat.zero_le _,rfl,rfl,rfl,Below.refl _ _⟩
 case round =>
  obtain ⟨k,hk,rfl,rfl,hf,hBw⟩:=hrel
  by_cases hlt:k<n
  ·obtain ⟨h0,h1,h2,h3⟩:=(HB.out.later hBw).2 k hlt
   have hki:(k:Int)<(n:Int):=by omega
   have HF:Hid (findFrom p (n-k) k=findFrom p n 0):=hf
   have HW:Hid (Below w.heap.size w wr):=hBw
   have hsk:n-k=(n-(k+1))+1:=by omega
   have hbd:=HP.out k wr hlt hBw
   unfold memV at hbd
   have hs8:(n:Int)≤12:=by omega
   clear hf hBw
   cases hb:p k
   ·rw [hb] at hbd
    have HK:Hid (p k=false):=hb
    clear hb
    go_wp2_with fail
    refine hbd.mono ?_
    rintro e w1 ⟨rfl,hb1⟩
    go_wp2_with fail
    go_roundg (n-(k+1))
    case measure=>omega
    case rel=>exact ⟨k+1,by omega,rfl,by go_num,by rw [←HF.out,hsk,findFrom_miss _ HK.out],onB HW.out hb1⟩
   ·rw [hb] at hbd
    have HK:Hid (p k=true):=hb
    clear hb
    go_wp2_with fail
    refine hbd.mono ?_
    rintro e w1 ⟨rfl,hb1⟩
    go_wp2_with fail
    go_ret
    exact ⟨by rw [←HF.out,hsk,findFrom_hit _ HK.out];rfl,onB HW.out hb1⟩
  ·have hke:k=n:=by omega
   subst hke
   go_wp2_with fail
   go_ret
   exact ⟨by rw [←hf,Nat.sub_self];rfl,hBw⟩
theorem contains_mems (fn q:Nat) (he:EntersO fn) (b o n cap:Nat) (M:Nat→Mem) (p:Nat→Bool) (w:World) (hn:n≤12) (hM:MemsAt w b o n M) (hp:AskM fn q w n M p) :
  Calls Tryz.prog 98 #[.slice (some ⟨b,o,none⟩) n cap,.func (.func fn) #[] #[.pointer (some ⟨q,0,none⟩)]] w fun e w'=>e=.returned (.bool (decide (0≤findFrom p n 0)))∧Below w.heap.size w w':=by
 have h:=index_mems fn q he b o n cap M p w hn hM hp
 clear hM hp he
 go_enter Tryz.func98,Tryz.ntmps98
 go_wp2_with fail
 refine h.mono ?_
 rintro e w1 ⟨rfl,hb1⟩
 go_wp2_with fail
 go_ret
 exact ⟨rfl,hb1⟩
theorem member1_any (m x:Mem) (q:Nat) (w:World) (hq:q<w.heap.size) (h:w.cell? ⟨q,0,none⟩=some (.string x.name)):Calls Tryz.prog 121 #[memV m,.pointer (some ⟨q,0,none⟩)] w fun e w'=>e=.returned (.bool (same m.name x.name))∧Below w.heap.size w w':=by
 unfold memV
 go_enter Tryz.func121,Tryz.ntmps121
 go_wp2_with fail
 go_ret
 exact ⟨by simp [same],by go_grown⟩
def dimV (d:Dm) (A:Option Addr) (cap:Nat):Value:=.agg #[.string d.name,.int .i64 d.solve,.slice A d.n cap]
def frameErr (d:Dm):Int:=if nameErr d.name≠0 then 2 else if d.solve<0∨9<d.solve then 1 else if 12<d.n then 4 else if d.n=0 then 5 else 0
theorem nameErr_two {s:ByteArray} (h:nameErr s≠0):nameErr s=2:=by
 unfold nameErr at h ⊢
 split
 ·rfl
 ·split
  ·rfl
  ·rename_i h1 h2;rw [if_neg h1,if_neg h2] at h;exact absurd rfl h
theorem fr0 {d:Dm} (h:nameErr d.name≠0):frameErr d=2:=by unfold frameErr;rw [if_pos h]
theorem fr1 {d:Dm} (h:nameErr d.name=0) (h1:d.solve<0∨9<d.solve):frameErr d=1:=by unfold frameErr;rw [if_neg (by simpa using h),if_pos h1]
theorem fr2 {d:Dm} (h:nameErr d.name=0) (h1 : ¬ (d.solve<0∨9<d.solve)) (h2:12<d.n):frameErr d=4:=by unfold frameErr;rw [if_neg (by simpa using h),if_neg h1,if_pos h2]
theorem fr3 {d:Dm} (h:nameErr d.name=0) (h1 : ¬ (d.solve<0∨9<d.solve)) (h2 : ¬ 12<d.n) (h3:d.n=0):frameErr d=5:=by unfold frameErr;rw [if_neg (by simpa using h),if_neg h1,if_neg h2,if_pos h3]
theorem fr4 {d:Dm} (h:nameErr d.name=0) (h1 : ¬ (d.solve<0∨9<d.solve)) (h2 : ¬ 12<d.n) (h3 : ¬ d.n=0):frameErr d=0:=by unfold frameErr;rw [if_neg (by simpa using h),if_neg h1,if_neg h2,if_neg h3]
set_option maxHeartbeats 1000000 in
theorem frame_any (d:Dm) (A:Option Addr) (cap:Nat) (w:World):Calls Tryz.prog 87 #[dimV d A cap] w fun e w'=>e=.returned (errV (frameErr d))∧Below w.heap.size w w':=by
 have hnm:=name_any d.name
 unfold dimV
 by_cases hn:nameErr d.name=0
 ·rw [hn,errV_zero] at hnm
  have HN:Hid (nameErr d.name=0):=hn
  clear hn
  go_enter Tryz.func87,Tryz.ntmps87
  go_wp2_with fail
  refine (hnm _).mono ?_
  rintro e w1 ⟨rfl,hb1⟩
  have hB:Below w.heap.size w w1:=onB (by go_grown) hb1
  have h1:w1.cell? ⟨w.heap.size,1,none⟩=some (.int .i64 d.solve):=by rw [hb1.cell (p:=⟨w.heap.size,1,none⟩) (by simp)];simp [go_sem]
  have h2:w1.cell? ⟨w.heap.size,2,none⟩=some (.slice A d.n cap):=by rw [hb1.cell (p:=⟨w.heap.size,2,none⟩) (by simp)];simp [go_sem]
  clear hb1 hnm
  by_cases c1:d.solve<0
  ·go_wp2_with fail
   go_ret
   exact ⟨by rw [fr1 HN.out (Or.inl c1)];rfl,hB⟩
  ·by_cases c2:9<d.solve
   ·go_wp2_with fail
    go_ret
    exact ⟨by rw [fr1 HN.out (Or.inr c2)];rfl,hB⟩
   ·by_cases c3:12<d.n
    ·have c3':12<(d.n:Int):=by omega
     go_wp2_with fail
     go_ret
     exact ⟨by rw [fr2 HN.out (by omega) c3];rfl,hB⟩
    ·have c3':(d.n:Int)≤12:=by omega
     by_cases c4:d.n=0
     ·have c4':((d.n:Int) == 0)=true:=by simp [c4]
      have C4:Hid (d.n=0):=c4
      clear c4
      go_wp2_with fail
      go_ret
      exact ⟨by rw [fr3 HN.out (by omega) (by omega) C4.out];rfl,hB⟩
     ·have c4':((d.n:Int) == 0)=false:=by simp;omega
      have C4:Hid (¬ d.n=0):=c4
      clear c4
      go_wp2_with fail
      go_ret
      exact ⟨by rw [fr4 HN.out (by omega) (by omega) C4.out];rfl,hB⟩
 ·rw [nameErr_two hn,errV_some (by decide)] at hnm
  have HN:Hid (nameErr d.name≠0):=hn
  clear hn
  go_enter Tryz.func87,Tryz.ntmps87
  go_wp2_with fail
  refine (hnm _).mono ?_
  rintro e w1 ⟨rfl,hb1⟩
  have hB:Below w.heap.size w w1:=onB (by go_grown) hb1
  clear hb1
  go_wp2_with fail
  go_ret
  exact ⟨by rw [fr0 HN.out];rfl,hB⟩
def ownMem (w:World) (m:Mem) (T:Nat):World:=w.alloc (.cells #[.string m.name,.int .i64 m.parent,.int .i64 m.sign,.string m.formula] T)
theorem ownMem_at (w:World) (m:Mem) (T:Nat):MemAt (ownMem w m T) w.heap.size 0 m:=by unfold ownMem;exact ⟨by simp,by simp,by simp,by simp⟩
theorem ownMem_size (w:World) (m:Mem) (T:Nat):(ownMem w m T).heap.size=w.heap.size+1:=by unfold ownMem;simp
theorem ownMem_below (w:World) (m:Mem) (T:Nat):Below w.heap.size w (ownMem w m T):=by unfold ownMem;go_grown
theorem empty_same {s:ByteArray}:s.toList.isEmpty=decide (s.size=0):=by
 rw [ByteArray.toList_eq]
 have e:s.size=s.data.toList.length:=Array.length_toList.symm
 rw [e]
 cases s.data.toList <;> simp
theorem me0 {M:Nat→Mem} {i:Nat} (h:nameErr (M i).name≠0):memErr M i=2:=by unfold memErr;rw [if_pos h]
theorem me1 {M:Nat→Mem} {i:Nat} (h:nameErr (M i).name=0) (h1:clash M i=true):memErr M i=7:=by unfold memErr;rw [if_neg (by simpa using h),if_pos h1]
theorem me2 {M:Nat→Mem} {i:Nat} (h:nameErr (M i).name=0) (h1:clash M i=false) (h2:(M i).parent < -1∨(i:Int)≤(M i).parent):memErr M i=1:=by unfold memErr;rw [if_neg (by simpa using h),if_neg (by simp [h1]),if_pos h2]
theorem me3 {M:Nat→Mem} {i:Nat} (h:nameErr (M i).name=0) (h1:clash M i=false) (h2 : ¬ ((M i).parent < -1∨(i:Int)≤(M i).parent)) (h3:0≤(M i).parent∧(M (M i).parent.toNat).formula.size≠0):memErr M i=6:=by unfold memErr;rw [if_neg (by simpa using h),if_neg (by simp [h1]),if_neg h2,if_pos h3]
theorem me4 {M:Nat→Mem} {i:Nat} (h:nameErr (M i).name=0) (h1:clash M i=false) (h2 : ¬ ((M i).parent < -1∨(i:Int)≤(M i).parent)) (h3 : ¬ (0≤(M i).parent∧(M (M i).parent.toNat).formula.size≠0)) (h4:(M i).sign < -1∨1<(M i).sign):memErr M i=1:=by unfold memErr;rw [if_neg (by simpa using h),if_neg (by simp [h1]),if_neg h2,if_neg h3,if_pos h4]
theorem me5 {M:Nat→Mem} {i:Nat} (h:nameErr (M i).name=0) (h1:clash M i=false) (h2 : ¬ ((M i).parent < -1∨(i:Int)≤(M i).parent)) (h3 : ¬ (0≤(M i).parent∧(M (M i).parent.toNat).formula.size≠0)) (h4 : ¬ ((M i).sign < -1∨1<(M i).sign)) (h5:100<(M i).formula.size):memErr M i=4:=by unfold memErr;rw [if_neg (by simpa using h),if_neg (by simp [h1]),if_neg h2,if_neg h3,if_neg h4,if_pos h5]
theorem me6 {M:Nat→Mem} {i:Nat} (h:nameErr (M i).name=0) (h1:clash M i=false) (h2 : ¬ ((M i).parent < -1∨(i:Int)≤(M i).parent)) (h3 : ¬ (0≤(M i).parent∧(M (M i).parent.toNat).formula.size≠0)) (h4 : ¬ ((M i).sign < -1∨1<(M i).sign)) (h5 : ¬ 100<(M i).formula.size):memErr M i=0:=by unfold memErr;rw [if_neg (by simpa using h),if_neg (by simp [h1]),if_neg h2,if_neg h3,if_neg h4,if_neg h5]
set_option maxHeartbeats 2000000 in
theorem member_any (b o n cap i:Nat) (M:Nat→Mem) (w:World) (hn:n≤12) (hc:n≤cap) (hi:i<n) (hM:MemsAt w b o n M):Calls Tryz.prog 88 #[.slice (some ⟨b,o,none⟩) n cap,.int .i64 i] w fun e w'=>e=.returned (errV (memErr M i))∧Below w.heap.size w w':=by
 have hnm:=name_any (M i).name
 obtain ⟨h0,h1,h2,h3⟩:=hM.2 i hi
 have hii:(i:Int)<(n:Int):=by omega
 have hn':(n:Int)≤12:=by omega
 have hc':(n:Int)≤(cap:Int):=by omega
 have hbw:=hM.1
 have HM:Hid (MemsAt w b o n M):=hM
 clear hM
 by_cases hn:nameErr (M i).name=0
 ·rw [hn,errV_zero] at hnm
  have HN:Hid (nameErr (M i).name=0):=hn
  clear hn
  go_enter Tryz.func88,Tryz.ntmps88
  go_wp2_with fail
  refine (hnm _).mono ?_
  rintro e w1 ⟨rfl,hb1⟩
  have hS:=ownMem_size w (M i) 29
  have hB:Below w.heap.size w w1:=onB (ownMem_below w (M i) 29) hb1
  have hA1:MemAt w1 w.heap.size 0 (M i):=(ownMem_at w (M i) 29).later (by rw [hS];omega) hb1
  have hz:w.heap.size<w1.heap.size:=by
   have:=hb1.size
   change (ownMem w (M i) 29).heap.size≤_ at this
   omega
  have hM1:=HM.out.later hB
  clear hb1 h0 h1 h2 h3 hS
  have hcl:=contains_mems 121 w.heap.size member1_in b o i cap M (fun j=>same (M j).name (M i).name) w1 (by omega) (hM1.less (by omega)) (fun j w' hj hw'=>member1_any (M j) (M i) w.heap.size w' (Nat.lt_of_lt_of_le hz hw'.size) (hA1.later hz hw').1)
  obtain ⟨a0,a1,a2,a3⟩:=hA1
  have HM1:Hid (MemsAt w1 b o n M):=hM1
  clear hM1
  change Calls _ _ _ _ (fun e w'=>e=.returned (.bool (clash M i))∧_) at hcl
  cases hk:clash M i
  ·rw [hk] at hcl
   have HK:Hid (clash M i=false):=hk
   clear hk
   go_wp2_with fail
   refine hcl.mono ?_
   rintro e w2 ⟨rfl,hb2⟩
   have b1:w2.cell? ⟨w.heap.size,1,none⟩=some (.int .i64 (M i).parent):=(hb2.cell (p:=⟨w.heap.size,1,none⟩) hz).trans a1
   have b2:w2.cell? ⟨w.heap.size,2,none⟩=some (.int .i64 (M i).sign):=(hb2.cell (p:=⟨w.heap.size,2,none⟩) hz).trans a2
   have b3:w2.cell? ⟨w.heap.size,3,none⟩=some (.string (M i).formula):=(hb2.cell (p:=⟨w.heap.size,3,none⟩) hz).trans a3
   have hB2:Below w.heap.size w w2:=onB hB hb2
   have hM2:=HM1.out.later hb2
   clear a0 a1 a2 a3 hcl hb2 HM1 hB hz
   by_cases c1:(M i).parent < -1
   ·go_wp2_with fail
    go_ret
    exact ⟨by rw [me2 HN.out HK.out (Or.inl c1)];rfl,hB2⟩
   ·by_cases c2:(i:Int)≤(M i).parent
    ·go_wp2_with fail
     go_ret
     exact ⟨by rw [me2 HN.out HK.out (Or.inr c2)];rfl,hB2⟩
    ·have HC:Hid (¬ ((M i).parent < -1∨(i:Int)≤(M i).parent)):=by show ¬ _;omega
     by_cases c3:0≤(M i).parent
     ·obtain ⟨p,hp⟩:∃ p:Nat,(M i).parent=(p:Int):=⟨(M i).parent.toNat,by omega⟩
      obtain ⟨-,-,-,d3⟩:=hM2.2 p (by omega)
      rw [hp] at b1 c1 c2 c3
      have HP:Hid ((M i).parent.toNat=p∧0≤(M i).parent):=⟨by omega,by omega⟩
      have hpi:(p:Int)<(n:Int):=by omega
      clear hp hM2
      by_cases c4:(M p).formula.size=0
      ·have c4':(M p).formula.toList.isEmpty=true:=by rw [empty_same];simpa using c4
       have HF:Hid (¬ (0≤(M i).parent∧(M (M i).parent.toNat).formula.size≠0)):=by show ¬ _;rw [HP.out.1];omega
       clear c4
       by_cases c5:(M i).sign < -1
       ·go_wp2_with fail
        go_ret
        exact ⟨by rw [me4 HN.out HK.out HC.out HF.out (Or.inl c5)];rfl,hB2⟩
       ·by_cases c6:1<(M i).sign
        ·go_wp2_with fail
         go_ret
         exact ⟨by rw [me4 HN.out HK.out HC.out HF.out (Or.inr c6)];rfl,hB2⟩
        ·by_cases c7:100<(M i).formula.size
         ·have c7':100<((M i).formula.size:Int):=by omega
          go_wp2_with fail
          go_ret
          exact ⟨by rw [me5 HN.out HK.out HC.out HF.out (by omega) c7];rfl,hB2⟩
         ·have c7':((M i).formula.size:Int)≤100:=by omega
          go_wp2_with fail
          go_ret
          exact ⟨by rw [me6 HN.out HK.out HC.out HF.out (by omega) c7];rfl,hB2⟩
      ·have c4':(M p).formula.toList.isEmpty=false:=by rw [empty_same];simpa using c4
       have HF:Hid (0≤(M i).parent∧(M (M i).parent.toNat).formula.size≠0):=by refine ⟨HP.out.2,?_⟩;rw [HP.out.1];exact c4
       clear c4
       go_wp2_with fail
       go_ret
       exact ⟨by rw [me3 HN.out HK.out HC.out HF.out];rfl,hB2⟩
     ·have HF:Hid (¬ (0≤(M i).parent∧(M (M i).parent.toNat).formula.size≠0)):=by show ¬ _;omega
      clear hM2
      by_cases c5:(M i).sign < -1
      ·go_wp2_with fail
       go_ret
       exact ⟨by rw [me4 HN.out HK.out HC.out HF.out (Or.inl c5)];rfl,hB2⟩
      ·by_cases c6:1<(M i).sign
       ·go_wp2_with fail
        go_ret
        exact ⟨by rw [me4 HN.out HK.out HC.out HF.out (Or.inr c6)];rfl,hB2⟩
       ·by_cases c7:100<(M i).formula.size
        ·have c7':100<((M i).formula.size:Int):=by omega
         go_wp2_with fail
         go_ret
         exact ⟨by rw [me5 HN.out HK.out HC.out HF.out (by omega) c7];rfl,hB2⟩
        ·have c7':((M i).formula.size:Int)≤100:=by omega
         go_wp2_with fail
         go_ret
         exact ⟨by rw [me6 HN.out HK.out HC.out HF.out (by omega) c7];rfl,hB2⟩
  ·rw [hk] at hcl
   have HK:Hid (clash M i=true):=hk
   clear hk
   go_wp2_with fail
   refine hcl.mono ?_
   rintro e w2 ⟨rfl,hb2⟩
   go_wp2_with fail
   go_ret
   exact ⟨by rw [me1 HN.out HK.out];rfl,onB hB hb2⟩
 ·rw [nameErr_two hn,errV_some (by decide)] at hnm
  have HN:Hid (nameErr (M i).name≠0):=hn
  clear hn
  go_enter Tryz.func88,Tryz.ntmps88
  go_wp2_with fail
  refine (hnm _).mono ?_
  rintro e w1 ⟨rfl,hb1⟩
  have hB:Below w.heap.size w w1:=onB (by go_grown) hb1
  clear hb1
  go_wp2_with fail
  go_ret
  exact ⟨by rw [me0 HN.out];rfl,hB⟩
end Go.Proofs.YtglekooldbeklaaGreatDoor
