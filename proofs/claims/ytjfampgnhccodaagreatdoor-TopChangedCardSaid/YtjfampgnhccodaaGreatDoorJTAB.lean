/- What member of package -/
import Derived.Test.YtjfampgnhccodaaGreatDoorJTAA
namespace Go.Proofs.YtjfampgnhccodaaGreatDoor
open Tryz ChangeShapes WideShapes ChangeAt RowKit
set_option maxRecDepth 99999
set_option maxHeartbeats 0
def lg(w:World)(m:Mem)(T:Nat):World:=w.alloc (.cells #[.string m.name,.int .i64 m.parent,.int .i64 m.sign,.string m.formula] T)
theorem Fw(w:World)(m:Mem)(T:Nat):sE (lg w m T) w.heap.size 0 m:=by unfold lg;exact⟨by simp,by simp,by simp,by simp⟩
theorem xV(w:World)(m:Mem)(T:Nat):(lg w m T).heap.size=w.heap.size+1:=by unfold lg;simp
theorem uT(w:World)(m:Mem)(T:Nat):Bl w (lg w m T):=by unfold lg;go_grown
theorem b9{s:ByteArray}:s.toList.isEmpty=decide (s.size=0):=by
 rw[ByteArray.toList_eq];have e:s.size=s.data.toList.length:=Array.length_toList.symm;rw[e];cases s.data.toList<;>simp
theorem PA{M:Nat->Mem}{i:Nat}(h:nameErr (M i).name≠0):aQ M i=2:=by unfold aQ;rw[if_pos h]
theorem PB{M:Nat->Mem}{i:Nat}(h:nameErr (M i).name=0)(a:kI M i=true):aQ M i=7:=by unfold aQ;rw[if_neg (by simpa using h),if_pos a]
theorem Pd{M:Nat->Mem}{i:Nat}(h:nameErr (M i).name=0)(a:kI M i=false)(b:(M i).parent < -1\/(i:Int)<=(M i).parent):aQ M i=1:=by unfold aQ;rw[if_neg (by simpa using h),if_neg (by simp[a]),if_pos b]
theorem PC{M:Nat->Mem}{i:Nat}(h:nameErr (M i).name=0)(a:kI M i=false)(b :¬((M i).parent < -1\/(i:Int)<=(M i).parent))(c:0<=(M i).parent/\(M (M i).parent.toNat).formula.size≠0):aQ M i=6:=by unfold aQ;rw[if_neg (by simpa using h),if_neg (by simp[a]),if_neg b,if_pos c]
theorem OR{M:Nat->Mem}{i:Nat}(h:nameErr (M i).name=0)(a:kI M i=false)(b :¬((M i).parent < -1\/(i:Int)<=(M i).parent))(c :¬(0<=(M i).parent/\(M (M i).parent.toNat).formula.size≠0))(d:(M i).sign < -1\/1<(M i).sign):aQ M i=1:=by unfold aQ;rw[if_neg (by simpa using h),if_neg (by simp[a]),if_neg b,if_neg c,if_pos d]
theorem Pe{M:Nat->Mem}{i:Nat}(h:nameErr (M i).name=0)(a:kI M i=false)(b :¬((M i).parent < -1\/(i:Int)<=(M i).parent))(c :¬(0<=(M i).parent/\(M (M i).parent.toNat).formula.size≠0))(d :¬((M i).sign < -1\/1<(M i).sign))(e:100<(M i).formula.size):aQ M i=4:=by unfold aQ;rw[if_neg (by simpa using h),if_neg (by simp[a]),if_neg b,if_neg c,if_neg d,if_pos e]
theorem Pf{M:Nat->Mem}{i:Nat}(h:nameErr (M i).name=0)(a:kI M i=false)(b :¬((M i).parent < -1\/(i:Int)<=(M i).parent))(c :¬(0<=(M i).parent/\(M (M i).parent.toNat).formula.size≠0))(d :¬((M i).sign < -1\/1<(M i).sign))(e :¬ 100<(M i).formula.size):aQ M i=0:=by unfold aQ;rw[if_neg (by simpa using h),if_neg (by simp[a]),if_neg b,if_neg c,if_neg d,if_neg e]
theorem Bg(b o n cap i:Nat)(M:Nat->Mem)(w:World)(t:n<=12)(Z:n<=cap)(S:i<n)(C:cI w b o n M):Rt 98 #[.slice (some ⟨b,o,none⟩) n cap,.int .i64 i] w (errV (aQ M i)):=by
 have m:=l9 (M i).name;obtain⟨L,N,O,P⟩:=C.2 i S;have T:(i:Int)<(n:Int):=ω;have U:(n:Int)<=12:=ω;have R:(n:Int)<=(cap:Int):=ω;have Q:=C.1;have J:=aa C;clear C
 by_cases t:nameErr (M i).name=0
 ·rw[t,errV_zero]at m
  have f:=aa t;clear t
  go_enter func98,ntmps98
  go_wp2_with fail;refine(m _).mono ?_;rintro e w1⟨rfl,d⟩;have H:=xV w (M i) 64;have u:Bl w w1:=ad (uT w (M i) 64) d;have A:sE w1 w.heap.size 0 (M i):=(Fw w (M i) 64).later (by rw[H];omega) d
  have v:w.heap.size<w1.heap.size:=by
   have:=d.size
   change (lg w (M i) 64).heap.size<=_ at this
   omega
  have r:=J.o.later u;clear d L N O P H;have h:=ii 145 w.heap.size Bf b o i cap M (fun j=>same (M j).name (M i).name) w1 ω (r.less ω) (fun j w' hj B=>xy (M j) (M i) w.heap.size w' (zW v B.size) (A.later v B).1)
  obtain⟨a0,a1,a2,a3⟩:=A;have x:=aa r;clear r
  change Calls _ _ _ _ (fun e w'=>e=.returned (.bool (kI M i))/\_)at h
  cases hk:kI M i
  ·rw[hk]at h
   have g:=aa hk;clear hk;go_wp2_with fail;refine h.mono ?_;rintro e w2⟨rfl,c⟩;have K:w2.cell? ⟨w.heap.size,1,none⟩=some (.int .i64 (M i).parent):=aM c v a1;have W:w2.cell? ⟨w.heap.size,2,none⟩=some (.int .i64 (M i).sign):=aM c v a2;have X:w2.cell? ⟨w.heap.size,3,none⟩=some (.string (M i).formula):=aM c v a3;have a:Bl w w2:=ad u c;have s:=x.o.later c;clear a0 a1 a2 a3 h c x u v
   by_cases c1:(M i).parent < -1
   ·go_wp2_with fail
    go_ret;exact⟨by rw[Pd f.o g.o (Or.inl c1)];rfl,a⟩
   by_cases c2:(i:Int)<=(M i).parent
   ·go_wp2_with fail
    go_ret;exact⟨by rw[Pd f.o g.o (Or.inr c2)];rfl,a⟩
   have l:Hid (¬((M i).parent < -1\/(i:Int)<=(M i).parent)):=by show ¬_;omega
   by_cases c3:0<=(M i).parent
   ·obtain⟨p,I⟩:∃p:Nat,(M i).parent=(p:Int):=⟨(M i).parent.toNat,ω⟩
    obtain⟨-,-,-,Y⟩:=s.2 p ω
    rw[I]at K c1 c2 c3;have D:Hid ((M i).parent.toNat=p/\0<=(M i).parent):=⟨ω,ω⟩
    have V:(p:Int)<(n:Int):=ω;clear I s
    by_cases y:(M p).formula.size=0
    ·have E:(M p).formula.toList.isEmpty=true:=by rw[b9];simpa using y
     have k:Hid (¬(0<=(M i).parent/\(M (M i).parent.toNat).formula.size≠0)):=by show ¬_;rw[D.o.1];omega
     clear y
     by_cases F:(M i).sign < -1
     ·go_wp2_with fail
      go_ret;exact⟨by rw[OR f.o g.o l.o k.o (Or.inl F)];rfl,a⟩
     by_cases G:1<(M i).sign
     ·go_wp2_with fail
      go_ret;exact⟨by rw[OR f.o g.o l.o k.o (Or.inr G)];rfl,a⟩
     by_cases z:100<(M i).formula.size
     ·have q:100<((M i).formula.size:Int):=ω;go_wp2_with fail;go_ret;exact⟨by rw[Pe f.o g.o l.o k.o ω z];rfl,a⟩
     have q:((M i).formula.size:Int)<=100:=ω;go_wp2_with fail;go_ret;exact⟨by rw[Pf f.o g.o l.o k.o ω z];rfl,a⟩
    have E:(M p).formula.toList.isEmpty=false:=by rw[b9];simpa using y
    have k:Hid (0<=(M i).parent/\(M (M i).parent.toNat).formula.size≠0):=by refine⟨D.o.2,?_⟩;rw[D.o.1];exact y
    clear y;go_wp2_with fail;go_ret;exact⟨by rw[PC f.o g.o l.o k.o];rfl,a⟩
   have k:Hid (¬(0<=(M i).parent/\(M (M i).parent.toNat).formula.size≠0)):=by show ¬_;omega
   clear s
   by_cases F:(M i).sign < -1
   ·go_wp2_with fail
    go_ret;exact⟨by rw[OR f.o g.o l.o k.o (Or.inl F)];rfl,a⟩
   by_cases G:1<(M i).sign
   ·go_wp2_with fail
    go_ret;exact⟨by rw[OR f.o g.o l.o k.o (Or.inr G)];rfl,a⟩
   by_cases z:100<(M i).formula.size
   ·have q:100<((M i).formula.size:Int):=ω;go_wp2_with fail;go_ret;exact⟨by rw[Pe f.o g.o l.o k.o ω z];rfl,a⟩
   have q:((M i).formula.size:Int)<=100:=ω;go_wp2_with fail;go_ret;exact⟨by rw[Pf f.o g.o l.o k.o ω z];rfl,a⟩
  rw[hk]at h;have g:=aa hk;clear hk;go_wp2_with fail;refine h.mono ?_;rintro e w2⟨rfl,c⟩;go_wp2_with fail;go_ret;exact⟨by rw[PB f.o g.o];rfl,ad u c⟩
 rw[jV t,ac (by decide)]at m
 have f:=aa t;clear t
 go_enter func98,ntmps98
 go_wp2_with fail;refine(m _).mono ?_;rintro e w1⟨rfl,d⟩;have u:Bl w w1:=ad γ d
 clear d;go_wp2_with fail;go_ret;exact⟨by rw[PA f.o];rfl,u⟩
end Go.Proofs.YtjfampgnhccodaaGreatDoor
