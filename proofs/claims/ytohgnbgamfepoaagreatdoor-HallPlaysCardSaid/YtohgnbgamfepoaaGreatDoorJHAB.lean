/- What member of package -/
import Derived.Test.YtohgnbgamfepoaaGreatDoorJHAA
namespace Go.Proofs.YtohgnbgamfepoaaGreatDoor
open ChangeShapes WideShapes ChangeAt RowKit
set_option maxRecDepth 99999
set_option maxHeartbeats 0
def f8 (w:World) (m:Mem) (T:Nat):World:=w.alloc (.cells #[.string m.name,.int .i64 m.parent,.int .i64 m.sign,.string m.formula] T)
theorem rD (w:World) (m:Mem) (T:Nat):n9 (f8 w m T) w.heap.size 0 m:=by unfold f8;exact ⟨by simp,by simp,by simp,by simp⟩
theorem m9 (w:World) (m:Mem) (T:Nat):(f8 w m T).heap.size=w.heap.size+1:=by unfold f8;simp
theorem lv (w:World) (m:Mem) (T:Nat):Bl w (f8 w m T):=by unfold f8;go_grown
theorem aU {s:ByteArray}:s.toList.isEmpty=decide (s.size=0):=by
 rw [ByteArray.toList_eq];have e:s.size=s.data.toList.length:=Array.length_toList.symm;rw [e];cases s.data.toList <;> simp
theorem KL {M:Nat→Mem} {i:Nat} (h:aP (M i).name≠0):aY M i=2:=by unfold aY;rw [if_pos h]
theorem KM {M:Nat→Mem} {i:Nat} (h:aP (M i).name=0) (a:gx M i=true):aY M i=7:=by unfold aY;rw [if_neg (by simpa using h),if_pos a]
theorem Km {M:Nat→Mem} {i:Nat} (h:aP (M i).name=0) (a:gx M i=false) (b:(M i).parent < -1∨(i:Int)≤(M i).parent):aY M i=1:=by unfold aY;rw [if_neg (by simpa using h),if_neg (by simp [a]),if_pos b]
theorem KN {M:Nat→Mem} {i:Nat} (h:aP (M i).name=0) (a:gx M i=false) (b : ¬ ((M i).parent < -1∨(i:Int)≤(M i).parent)) (c:0≤(M i).parent∧(M (M i).parent.toNat).formula.size≠0):aY M i=6:=by unfold aY;rw [if_neg (by simpa using h),if_neg (by simp [a]),if_neg b,if_pos c]
theorem IZ {M:Nat→Mem} {i:Nat} (h:aP (M i).name=0) (a:gx M i=false) (b : ¬ ((M i).parent < -1∨(i:Int)≤(M i).parent)) (c : ¬ (0≤(M i).parent∧(M (M i).parent.toNat).formula.size≠0)) (d:(M i).sign < -1∨1<(M i).sign):aY M i=1:=by unfold aY;rw [if_neg (by simpa using h),if_neg (by simp [a]),if_neg b,if_neg c,if_pos d]
theorem Kn {M:Nat→Mem} {i:Nat} (h:aP (M i).name=0) (a:gx M i=false) (b : ¬ ((M i).parent < -1∨(i:Int)≤(M i).parent)) (c : ¬ (0≤(M i).parent∧(M (M i).parent.toNat).formula.size≠0)) (d : ¬ ((M i).sign < -1∨1<(M i).sign)) (e:100<(M i).formula.size):aY M i=4:=by unfold aY;rw [if_neg (by simpa using h),if_neg (by simp [a]),if_neg b,if_neg c,if_neg d,if_pos e]
theorem Ko {M:Nat→Mem} {i:Nat} (h:aP (M i).name=0) (a:gx M i=false) (b : ¬ ((M i).parent < -1∨(i:Int)≤(M i).parent)) (c : ¬ (0≤(M i).parent∧(M (M i).parent.toNat).formula.size≠0)) (d : ¬ ((M i).sign < -1∨1<(M i).sign)) (e : ¬ 100<(M i).formula.size):aY M i=0:=by unfold aY;rw [if_neg (by simpa using h),if_neg (by simp [a]),if_neg b,if_neg c,if_neg d,if_neg e]
theorem xJ (b o n cap i:Nat) (M:Nat→Mem) (w:World) (t:n≤12) (Z:n≤cap) (S:i<n) (C:b8 w b o n M):Rt 152 #[.slice (some ⟨b,o,none⟩) n cap,.int .i64 i] w (errV (aY M i)):=by
 have m:=pk (M i).name;obtain ⟨L,N,O,P⟩:=C.2 i S;have T:(i:Int)<(n:Int):=by omega
 have U:(n:Int)≤12:=by omega
 have R:(n:Int)≤(cap:Int):=by omega
 have Q:=C.1;have J:=aa C;clear C
 by_cases t:aP (M i).name=0
 ·rw [t,errV_zero] at m
  have f:=aa t;clear t
  go_enter Tryz.func152,Tryz.ntmps152
  go_wp2_with fail;refine (m _).mono ?_;rintro e w1 ⟨rfl,d⟩;have H:=m9 w (M i) 98;have u:Bl w w1:=ae (lv w (M i) 98) d;have A:n9 w1 w.heap.size 0 (M i):=(rD w (M i) 98).later (by rw [H];omega) d
  have v:w.heap.size<w1.heap.size:=by
   have:=d.size
   change (f8 w (M i) 98).heap.size≤_ at this
   omega
  have r:=J.out.later u;clear d L N O P H;have h:=kh 186 w.heap.size xI b o i cap M (fun j=>same (M j).name (M i).name) w1 (by omega) (r.less (by omega)) (fun j w' hj B=>uJ (M j) (M i) w.heap.size w' (zW v B.size) (A.later v B).1)
  obtain ⟨a0,a1,a2,a3⟩:=A;have x:=aa r;clear r
  change Calls _ _ _ _ (fun e w'=>e=.returned (.bool (gx M i))∧_) at h
  cases hk:gx M i
  ·rw [hk] at h
   have g:=aa hk;clear hk;go_wp2_with fail;refine h.mono ?_;rintro e w2 ⟨rfl,c⟩;have K:w2.cell? ⟨w.heap.size,1,none⟩=some (.int .i64 (M i).parent):=aC c v a1;have W:w2.cell? ⟨w.heap.size,2,none⟩=some (.int .i64 (M i).sign):=aC c v a2;have X:w2.cell? ⟨w.heap.size,3,none⟩=some (.string (M i).formula):=aC c v a3;have a:Bl w w2:=ae u c;have s:=x.out.later c;clear a0 a1 a2 a3 h c x u v
   by_cases c1:(M i).parent < -1
   ·go_wp2_with fail
    go_ret;exact ⟨by rw [Km f.out g.out (Or.inl c1)];rfl,a⟩
   by_cases c2:(i:Int)≤(M i).parent
   ·go_wp2_with fail
    go_ret;exact ⟨by rw [Km f.out g.out (Or.inr c2)];rfl,a⟩
   have l:Hid (¬ ((M i).parent < -1∨(i:Int)≤(M i).parent)):=by show ¬ _;omega
   by_cases c3:0≤(M i).parent
   ·obtain ⟨p,I⟩:∃ p:Nat,(M i).parent=(p:Int):=⟨(M i).parent.toNat,by omega⟩
    obtain ⟨-,-,-,Y⟩:=s.2 p (by omega)
    rw [I] at K c1 c2 c3;have D:Hid ((M i).parent.toNat=p∧0≤(M i).parent):=⟨by omega,by omega⟩
    have V:(p:Int)<(n:Int):=by omega
    clear I s
    by_cases y:(M p).formula.size=0
    ·have E:(M p).formula.toList.isEmpty=true:=by rw [aU];simpa using y
     have k:Hid (¬ (0≤(M i).parent∧(M (M i).parent.toNat).formula.size≠0)):=by show ¬ _;rw [D.out.1];omega
     clear y
     by_cases F:(M i).sign < -1
     ·go_wp2_with fail
      go_ret;exact ⟨by rw [IZ f.out g.out l.out k.out (Or.inl F)];rfl,a⟩
     by_cases G:1<(M i).sign
     ·go_wp2_with fail
      go_ret;exact ⟨by rw [IZ f.out g.out l.out k.out (Or.inr G)];rfl,a⟩
     by_cases z:100<(M i).formula.size
     ·have q:100<((M i).formula.size:Int):=by omega
      go_wp2_with fail;go_ret;exact ⟨by rw [Kn f.out g.out l.out k.out (by omega) z];rfl,a⟩
     have q:((M i).formula.size:Int)≤100:=by omega
     go_wp2_with fail;go_ret;exact ⟨by rw [Ko f.out g.out l.out k.out (by omega) z];rfl,a⟩
    have E:(M p).formula.toList.isEmpty=false:=by rw [aU];simpa using y
    have k:Hid (0≤(M i).parent∧(M (M i).parent.toNat).formula.size≠0):=by refine ⟨D.out.2,?_⟩;rw [D.out.1];exact y
    clear y;go_wp2_with fail;go_ret;exact ⟨by rw [KN f.out g.out l.out k.out];rfl,a⟩
   have k:Hid (¬ (0≤(M i).parent∧(M (M i).parent.toNat).formula.size≠0)):=by show ¬ _;omega
   clear s
   by_cases F:(M i).sign < -1
   ·go_wp2_with fail
    go_ret;exact ⟨by rw [IZ f.out g.out l.out k.out (Or.inl F)];rfl,a⟩
   by_cases G:1<(M i).sign
   ·go_wp2_with fail
    go_ret;exact ⟨by rw [IZ f.out g.out l.out k.out (Or.inr G)];rfl,a⟩
   by_cases z:100<(M i).formula.size
   ·have q:100<((M i).formula.size:Int):=by omega
    go_wp2_with fail;go_ret;exact ⟨by rw [Kn f.out g.out l.out k.out (by omega) z];rfl,a⟩
   have q:((M i).formula.size:Int)≤100:=by omega
   go_wp2_with fail;go_ret;exact ⟨by rw [Ko f.out g.out l.out k.out (by omega) z];rfl,a⟩
  rw [hk] at h;have g:=aa hk;clear hk;go_wp2_with fail;refine h.mono ?_;rintro e w2 ⟨rfl,c⟩;go_wp2_with fail;go_ret;exact ⟨by rw [KM f.out g.out];rfl,ae u c⟩
 rw [eS t,ak (by decide)] at m
 have f:=aa t;clear t
 go_enter Tryz.func152,Tryz.ntmps152
 go_wp2_with fail;refine (m _).mono ?_;rintro e w1 ⟨rfl,d⟩;have u:Bl w w1:=ae (by go_grown) d
 clear d;go_wp2_with fail;go_ret;exact ⟨by rw [KL f.out];rfl,u⟩
end Go.Proofs.YtohgnbgamfepoaaGreatDoor
