/- The document's own rea -/
import Derived.Test.YtohgnbgamfepoaaGreatDoorJHAD
namespace Go.Proofs.YtohgnbgamfepoaaGreatDoor
open ChangeShapes WideShapes ChangeAt RowKit
set_option maxRecDepth 99999
set_option maxHeartbeats 0
theorem tX {M:Nat→Mem} {n i:Nat} (a:i<n):decide (findFrom (fun j=>same (M j).name (M i).name) n 0<(i:Int))=gx M i:=by
 unfold gx;rw [decide_eq_decide];exact oR (q:=fun j=>same (M j).name (M i).name) a (DC _)
theorem EP {d:Dm} (h:aP d.name≠0):ay d=(-1,2):=by rw [fc (by rw [fr0 h];decide),fr0 h]
theorem qX {d:Dm} (h:aP d.name=0) (a:d.solve<0∨9<d.solve):ay d=(-1,1):=by rw [fc (by rw [Kl h a];decide),Kl h a]
theorem EO {d:Dm} (h:aP d.name=0) (a : ¬ (d.solve<0∨9<d.solve)) (b:12<d.n):ay d=(-1,4):=by rw [fc (by rw [Ks h a b];decide),Ks h a b]
theorem EQ {d:Dm} (h:aP d.name=0) (a : ¬ (d.solve<0∨9<d.solve)) (b : ¬ 12<d.n) (c:d.n=0):ay d=(-1,5):=by rw [fc (by rw [Kt h a b c];decide),Kt h a b c]
theorem ER {d:Dm} (h:aP d.name=0) (a : ¬ (d.solve<0∨9<d.solve)) (b : ¬ 12<d.n) (c : ¬ d.n=0):ay d=kd d.mem d.n 0:=(mU (KK h a b c)).1
theorem vy (d:Dm) (A:Option Addr) (cap:Nat) (w:World) (hM:eh w A cap d.n d.mem):Rt 69 #[cQ d A cap] w (.tuple #[.int .i64 (ay d).1,.int .i64 (ay d).2]):=by
 have HM:=aa hM;have l:=mH d.name;clear hM;unfold cQ
 by_cases L:aP d.name=0
 ·rw [L] at l
  have P:=aa L;clear L
  by_cases c1:d.solve<0
  ·have F:Hid (ay d=(-1,1)):=qX P.out (Or.inl c1)
   go_enter Tryz.func69,Tryz.ntmps69
   go_wp2_with fail;refine (l _).mono ?_;rintro e w1 ⟨rfl,rfl⟩;go_wp2_with fail
   go_ret2
   exact ⟨by rw [F.out];rfl,by go_grown⟩
  by_cases c2:9<d.solve
  ·have F:Hid (ay d=(-1,1)):=qX P.out (Or.inr c2)
   go_enter Tryz.func69,Tryz.ntmps69
   go_wp2_with fail;refine (l _).mono ?_;rintro e w1 ⟨rfl,rfl⟩;go_wp2_with fail
   go_ret2
   exact ⟨by rw [F.out];rfl,by go_grown⟩
  have HC:Hid (¬ (d.solve<0∨9<d.solve)):=by show ¬ _;omega
  by_cases c3:12<d.n
  ·have F:Hid (ay d=(-1,4)):=EO P.out HC.out c3
   have c3':12<(d.n:Int):=by omega
   go_enter Tryz.func69,Tryz.ntmps69
   go_wp2_with fail;refine (l _).mono ?_;rintro e w1 ⟨rfl,rfl⟩;go_wp2_with fail
   go_ret2
   exact ⟨by rw [F.out];rfl,by go_grown⟩
  have c3':(d.n:Int)≤12:=by omega
  by_cases c4:d.n=0
  ·have F:Hid (ay d=(-1,5)):=EQ P.out HC.out c3 c4
   have c4':((d.n:Int) == 0)=true:=by simp [c4]
   clear c4
   go_enter Tryz.func69,Tryz.ntmps69
   go_wp2_with fail;refine (l _).mono ?_;rintro e w1 ⟨rfl,rfl⟩;go_wp2_with fail
   go_ret2
   exact ⟨by rw [F.out];rfl,by go_grown⟩
  have u:Hid (ay d=kd d.mem d.n 0):=ER P.out HC.out c3 c4;have c4':((d.n:Int) == 0)=false:=by simp;omega
  have hS:=bg w d A cap 70;have G:=aT w d A cap 70;have hA:=dO w d A cap 70;obtain ⟨W,hW⟩:∃ W,W=aL w d A cap 70:=⟨_,rfl⟩;rw [←hW] at G hS hA;have HW:=aa hW;have HB0:=aa G;have H:w.heap.size<W.heap.size:=by omega
  obtain ⟨T,h0 | ⟨b,o,rfl,S⟩⟩:=HM.out.later G
  ·omega
  have HMs:=aa S;have HA:=aa hA;clear hW G hS hA S HM
  go_enter Tryz.func69,Tryz.ntmps69
  go_wp2_with fail;refine (l _).mono ?_;rintro e w1 ⟨rfl,rfl⟩;clear l;go_wp2_with fail
  go_loopg [4] d.n (fun g s4 wr => ∃ (k:Nat),k≤d.n∧g=d.n-k∧s4=.int .i64 k∧kd d.mem (d.n-k) k=kd d.mem d.n 0∧Bl W wr)
  case atStart=>exact ⟨0,zU,rfl,rfl,rfl,by rw [HW.out];exact zS⟩
  case round =>
   obtain ⟨k,hk,rfl,rfl,X,m⟩:=hrel;have q:=aa X;have s:=HMs.out.later m;have q0:wr.cell? ⟨w.heap.size,0,none⟩=some (.string d.name):=aC m H HA.out.1;have q1:wr.cell? ⟨w.heap.size,1,none⟩=some (.int .i64 d.solve):=aC m H HA.out.2.1;have q2:wr.cell? ⟨w.heap.size,2,none⟩=some (.slice (some ⟨b,o,none⟩) d.n cap):=aC m H HA.out.2.2;have Y:w.heap.size<wr.heap.size:=zW H m.size;have I:=aa (ae HB0.out m);have HBw:=aa m;clear X m
   by_cases V:k<d.n
   ·obtain ⟨h0,h1,h2,h3⟩:=s.2 k V
    have hki:(k:Int)<(d.n:Int):=by omega
    have c:d.n-k=(d.n-(k+1))+1:=by omega
    have t:=mH (d.mem k).name;have hbr:=s.1;have C:Hid (Bl wr (f8 wr (d.mem k) 98)):=lv wr (d.mem k) 98;have Q:Hid ((f8 wr (d.mem k) 98).heap.size=wr.heap.size+1):=m9 wr (d.mem k) 98;have M:Hid (n9 (f8 wr (d.mem k) 98) wr.heap.size 0 (d.mem k)):=rD wr (d.mem k) 98;have B:=mP d (some ⟨b,o,none⟩) cap (d.mem k).name (f8 wr (d.mem k) 98) (by omega) ⟨T,Or.inr ⟨b,o,rfl,s.later C.out⟩⟩
    unfold cQ at B;have D:Hid (decide (findFrom (fun j=>same (d.mem j).name (d.mem k).name) d.n 0<(k:Int))=gx d.mem k):=tX V
    have O:=aa s;generalize findFrom (fun j=>same (d.mem j).name (d.mem k).name) d.n 0=f at B D
    clear s
    by_cases i:aP (d.mem k).name=0
    ·rw [i] at t
     have v:=aa i;clear i;go_wp2_with fail;refine (t _).mono ?_;rintro e w1 ⟨rfl,rfl⟩;clear t;go_wp2_with fail;refine B.mono ?_;rintro e w2 ⟨rfl,J⟩;have z:Bl wr w2:=ae C.out J;have Z:wr.heap.size<(f8 wr (d.mem k) 98).heap.size:=by rw [Q.out];omega
     have R:=M.out.later Z J;obtain ⟨-,m1,m2,m3⟩:=R;have v2:w2.cell? ⟨w.heap.size,2,none⟩=some (.slice (some ⟨b,o,none⟩) d.n cap):=aC z Y q2;have r:=O.out.later z;have N:=aa (ae HBw.out z);have h:=aa (ae I.out z);clear J B h0 h1 h2 h3 q0 q1 q2 Z M Q C O z
     by_cases hf:f<(k:Int)
     ·have U:gx d.mem k=true:=by rw [←D.out];simpa using hf
      have a:Hid (aY d.mem k=7):=KM v.out U;clear r U;go_wp2_with fail
      go_ret2
      exact ⟨by rw [u.out,←q.out,c,dv _ (by rw [a.out];decide),a.out];rfl,h.out⟩
     have y:Hid (gx d.mem k=false):=by show _=_;rw [←D.out];simpa using hf
     clear D
     by_cases p1:(d.mem k).parent < -1
     ·have a:Hid (aY d.mem k=1):=Km v.out y.out (Or.inl p1)
      clear r;go_wp2_with fail
      go_ret2
      exact ⟨by rw [u.out,←q.out,c,dv _ (by rw [a.out];decide),a.out];rfl,h.out⟩
     by_cases p2:(k:Int)≤(d.mem k).parent
     ·have a:Hid (aY d.mem k=1):=Km v.out y.out (Or.inr p2)
      clear r;go_wp2_with fail
      go_ret2
      exact ⟨by rw [u.out,←q.out,c,dv _ (by rw [a.out];decide),a.out];rfl,h.out⟩
     have E:Hid (¬ ((d.mem k).parent < -1∨(k:Int)≤(d.mem k).parent)):=by show ¬ _;omega
     by_cases p3:0≤(d.mem k).parent
     ·obtain ⟨p,hp⟩:∃ p:Nat,(d.mem k).parent=(p:Int):=⟨(d.mem k).parent.toNat,by omega⟩
      obtain ⟨-,-,-,d3⟩:=r.2 p (by omega)
      rw [hp] at m1 p1 p2 p3;have HQ:Hid ((d.mem k).parent.toNat=p∧0≤(d.mem k).parent):=⟨by omega,by omega⟩
      have hpi:(p:Int)<(d.n:Int):=by omega
      clear hp r
      by_cases p4:(d.mem p).formula.size=0
      ·have p4':(d.mem p).formula.toList.isEmpty=true:=by rw [aU];simpa using p4
       have x:Hid (¬ (0≤(d.mem k).parent∧(d.mem (d.mem k).parent.toNat).formula.size≠0)):=by show ¬ _;rw [HQ.out.1];omega
       clear p4
       by_cases p5:(d.mem k).sign < -1
       ·have a:Hid (aY d.mem k=1):=IZ v.out y.out E.out x.out (Or.inl p5)
        go_wp2_with fail
        go_ret2
        exact ⟨by rw [u.out,←q.out,c,dv _ (by rw [a.out];decide),a.out];rfl,h.out⟩
       by_cases p6:1<(d.mem k).sign
       ·have a:Hid (aY d.mem k=1):=IZ v.out y.out E.out x.out (Or.inr p6)
        go_wp2_with fail
        go_ret2
        exact ⟨by rw [u.out,←q.out,c,dv _ (by rw [a.out];decide),a.out];rfl,h.out⟩
       by_cases p7:100<(d.mem k).formula.size
       ·have a:Hid (aY d.mem k=4):=Kn v.out y.out E.out x.out (by omega) p7
        have K:100<((d.mem k).formula.size:Int):=by omega
        go_wp2_with fail
        go_ret2
        exact ⟨by rw [u.out,←q.out,c,dv _ (by rw [a.out];decide),a.out];rfl,h.out⟩
       have a:Hid (aY d.mem k=0):=Ko v.out y.out E.out x.out (by omega) p7
       have K:((d.mem k).formula.size:Int)≤100:=by omega
       go_wp2_with fail
       go_roundg (d.n-(k+1))
       case measure=>omega
       case rel=>exact ⟨k+1,by omega,rfl,by go_num,by rw [←q.out,c,nS _ a.out],N.out⟩
      have p4':(d.mem p).formula.toList.isEmpty=false:=by rw [aU];simpa using p4
      have x:Hid (0≤(d.mem k).parent∧(d.mem (d.mem k).parent.toNat).formula.size≠0):=by refine ⟨HQ.out.2,?_⟩;rw [HQ.out.1];exact p4
      have a:Hid (aY d.mem k=6):=KN v.out y.out E.out x.out;clear p4;go_wp2_with fail
      go_ret2
      exact ⟨by rw [u.out,←q.out,c,dv _ (by rw [a.out];decide),a.out];rfl,h.out⟩
     have x:Hid (¬ (0≤(d.mem k).parent∧(d.mem (d.mem k).parent.toNat).formula.size≠0)):=by show ¬ _;omega
     clear r
     by_cases p5:(d.mem k).sign < -1
     ·have a:Hid (aY d.mem k=1):=IZ v.out y.out E.out x.out (Or.inl p5)
      go_wp2_with fail
      go_ret2
      exact ⟨by rw [u.out,←q.out,c,dv _ (by rw [a.out];decide),a.out];rfl,h.out⟩
     by_cases p6:1<(d.mem k).sign
     ·have a:Hid (aY d.mem k=1):=IZ v.out y.out E.out x.out (Or.inr p6)
      go_wp2_with fail
      go_ret2
      exact ⟨by rw [u.out,←q.out,c,dv _ (by rw [a.out];decide),a.out];rfl,h.out⟩
     by_cases p7:100<(d.mem k).formula.size
     ·have a:Hid (aY d.mem k=4):=Kn v.out y.out E.out x.out (by omega) p7
      have K:100<((d.mem k).formula.size:Int):=by omega
      go_wp2_with fail
      go_ret2
      exact ⟨by rw [u.out,←q.out,c,dv _ (by rw [a.out];decide),a.out];rfl,h.out⟩
     have a:Hid (aY d.mem k=0):=Ko v.out y.out E.out x.out (by omega) p7
     have K:((d.mem k).formula.size:Int)≤100:=by omega
     go_wp2_with fail
     go_roundg (d.n-(k+1))
     case measure=>omega
     case rel=>exact ⟨k+1,by omega,rfl,by go_num,by rw [←q.out,c,nS _ a.out],N.out⟩
    rw [eS i] at t;have a:Hid (aY d.mem k=2):=KL i;clear i B;go_wp2_with fail;refine (t _).mono ?_;rintro e w1 ⟨rfl,rfl⟩;clear t;go_wp2_with fail
    go_ret2
    exact ⟨by rw [u.out,←q.out,c,dv _ (by rw [a.out];decide),a.out];rfl,ae I.out C.out⟩
   have hke:k=d.n:=by omega
   have hki:(d.n:Int)≤(k:Int):=by omega
   clear s;go_wp2_with fail
   go_ret2
   exact ⟨by rw [u.out,←q.out,hke,Nat.sub_self];rfl,I.out⟩
 rw [eS L] at l;have F:Hid (ay d=(-1,2)):=EP L;clear L
 go_enter Tryz.func69,Tryz.ntmps69
 go_wp2_with fail;refine (l _).mono ?_;rintro e w1 ⟨rfl,rfl⟩;go_wp2_with fail
 go_ret2
 exact ⟨by rw [F.out];rfl,by go_grown⟩
end Go.Proofs.YtohgnbgamfepoaaGreatDoor
