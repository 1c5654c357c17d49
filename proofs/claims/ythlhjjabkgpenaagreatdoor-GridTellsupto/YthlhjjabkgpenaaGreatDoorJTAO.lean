/- The document's own rea -/
import Derived.Test.YthlhjjabkgpenaaGreatDoorJTAH
import Derived.Test.YthlhjjabkgpenaaGreatDoorJTAN
namespace Go.Proofs.YthlhjjabkgpenaaGreatDoor
open ChangeShapes WideShapes ChangeAt RowKit
set_option maxRecDepth 99999
set_option maxHeartbeats 0
theorem vn {D:Nat→Dm} {k j:Nat} (a:j<k) (h:same (D j).name (D k).name=true):fx D k=true:=by
 unfold fx;exact decide_eq_true (fy (q:=fun j=>same (D j).name (D k).name) a h)
theorem sS {D:Nat→Dm} {k:Nat} (h:findFrom (fun j=>same (D j).name (D k).name) k 0 = -1):fx D k=false:=by
 unfold fx;rw [h]
 rfl
theorem kR (A0:Option Addr) (cap n:Nat) (D:Nat→Dm) (A:Nat→Option Addr) (C:Nat→Nat) (w:World) (hM:bd w A0 cap n D A C):Rt 41 #[.agg #[.slice A0 n cap]] w (.tuple #[.int .i64 (ah D n).1,.int .i64 (ah D n).2.1,.int .i64 (ah D n).2.2]):=by
 by_cases H:4<n
 ·have hn':4<(n:Int):=by omega
  have d:Hid (ah D n=(-1,-1,4)):=K6 H;clear H hM
  go_enter Tryz.func41,Tryz.ntmps41
  go_wp2_with fail;refine bodyPost_ret (v:=.tuple #[.int .i64 (-1),.int .i64 (-1),.int .i64 4]) (by simp [results,Tryz.results41,go_sem]) rfl ⟨by rw [d.out],?_⟩
  go_grown
 have hn':(n:Int)≤4:=by omega
 by_cases G:n=0
 ·have d:Hid (ah D n=(-1,-1,5)):=K7 G
  have hz:((n:Int) == 0)=true:=by simp [G]
  clear G hM H
  go_enter Tryz.func41,Tryz.ntmps41
  go_wp2_with fail;refine bodyPost_ret (v:=.tuple #[.int .i64 (-1),.int .i64 (-1),.int .i64 5]) (by simp [results,Tryz.results41,go_sem]) rfl ⟨by rw [d.out],?_⟩
  go_grown
 have hz:((n:Int) == 0)=false:=by simp;omega
 obtain ⟨hcap,h0 | ⟨b,o,rfl,L⟩⟩:=hM
 ·omega
 have hcap':(n:Int)≤(cap:Int):=by omega
 have x:=aA w (some ⟨b,o,none⟩) n cap 24;have hS:=aF w (some ⟨b,o,none⟩) n cap 24;have Z:=aR w (some ⟨b,o,none⟩) n cap 24;obtain ⟨W,hW⟩:∃ W,W=aD w (some ⟨b,o,none⟩) n cap 24:=⟨_,rfl⟩;rw [←hW] at x hS Z;have X:=aa (L.later x);have R:w.heap.size<W.heap.size:=by omega
 clear L;have HW:=aa hW;have HA:=aa Z;have h:=aa x;clear hW Z x hS
 go_enter Tryz.func41,Tryz.ntmps41
 go_wp2_with fail
 go_loopg [5] n (fun g s5 wr => ∃ (k:Nat),k≤n∧g=n-k∧s5=.int .i64 k∧dI D (n-k) k=dI D n 0∧Bl W wr)
 case atStart=>exact ⟨0,zU,rfl,rfl,rfl,by rw [HW.out];exact zS⟩
 case round =>
  obtain ⟨k,hk,rfl,rfl,Q,m⟩:=hrel;obtain ⟨wo,rfl⟩:∃ wo:World,wo=wr:=⟨_,rfl⟩;have u:=aa m;have T:=aa Q;have c0:wo.cell? ⟨w.heap.size,0,none⟩=some (.slice (some ⟨b,o,none⟩) n cap):=aL m R HA.out;have q:=X.out.later m;have E:w.heap.size<wo.heap.size:=zW R m.size;clear Q m
  by_cases P:k<n
  ·obtain ⟨h0,h1,h2,h3⟩:=q.2 k P
   have hki:(k:Int)<(n:Int):=by omega
   have I:n-k=(n-(k+1))+1:=by omega
   have c:=uA (D k) (A k) (C k) wo h3;unfold cA at c;have K:=aa q;clear h3 q
   by_cases t:(au (D k)).2=0
   ·obtain ⟨e1,hd1,hd2,-⟩:=aG t
    rw [t,e1] at c;have S:=aa t;clear t e1;go_wp2_with fail;refine c.mono ?_;rintro e w1 ⟨rfl,a⟩;have hz1:w.heap.size<w1.heap.size:=zW E a.size;have c1:w1.cell? ⟨w.heap.size,0,none⟩=some (.slice (some ⟨b,o,none⟩) n cap):=aL a E c0;have V:=aa (K.out.later a);have i:=aa (ae u.out a);clear a c c0 h0 h1 h2 K hd1 hd2;go_wp2_with fail
    go_loopg [7,8] k (fun g s7 s8 wr => ∃ (j:Nat),j≤k∧g=k-j∧s8=.int .i64 j∧((s7=.int .i64 0∧findFrom (fun j=>same (D j).name (D k).name) (k-j) j=findFrom (fun j=>same (D j).name (D k).name) k 0)∨(s7=.int .i64 7∧fx D k=true))∧Bl w1 wr)
    case atStart=>exact ⟨0,zU,rfl,rfl,Or.inl ⟨rfl,rfl⟩,zS⟩
    case round =>
     obtain ⟨j,hj,rfl,rfl,hs,y⟩:=hrel;have l:=aa y;have c2:wr.cell? ⟨w.heap.size,0,none⟩=some (.slice (some ⟨b,o,none⟩) n cap):=aL y hz1 c1;have p:=V.out.later y;clear y
     rcases hs with ⟨rfl,N⟩ | ⟨rfl,r⟩
     ·have J:=aa N
      clear N
      by_cases O:j<k
      ·obtain ⟨a0,-,-,-⟩:=p.2 j (by omega)
       obtain ⟨b0,-,-,-⟩:=p.2 k P;have hji:(j:Int)<(k:Int):=by omega
       have hjn:(j:Int)<(n:Int):=by omega
       have hsj:k-j=(k-(j+1))+1:=by omega
       clear p;cases hq:((D j).name.toList == (D k).name.toList)
       ·have Y:=aa hq
        go_wp2_with fail
        go_quiet (fail)
        go_wp2_with fail
        go_roundg (k-(j+1))
        case measure=>omega
        case rel=>exact ⟨j+1,by omega,rfl,by go_num,Or.inl ⟨rfl,by rw [←J.out,hsj,aU _ Y.out]⟩,ae l.out (ac (zS) _)⟩
       have Y:Hid (fx D k=true):=vn O hq;go_wp2_with fail
       go_quiet (fail)
       go_wp2_with fail
       go_roundg (k-(j+1))
       case measure=>omega
       case rel=>exact ⟨j+1,by omega,rfl,by go_num,Or.inr ⟨rfl,Y.out⟩,ae l.out (ac (zS) _)⟩
      have hje:j=k:=by omega
      have hji:(k:Int)≤(j:Int):=by omega
      have r:fx D k=false:=sS (by rw [←J.out,hje,Nat.sub_self];rfl)
      have z:Hid (fZ D k=(-1,0)):=Kp S.out r;clear p r;go_wp2_with fail
      go_roundg (n-(k+1))
      case measure=>omega
      case rel=>exact ⟨k+1,by omega,rfl,by go_num,by rw [←T.out,I,oU _ (by rw [z.out])],ae i.out l.out⟩
     have z:Hid (fZ D k=(-1,7)):=Ko S.out r;clear p r;have f:dI D n 0=((k:Int),-1,7):=by rw [←T.out,I,g8 _ (by rw [z.out];decide),z.out]
     have d:Hid (ah D n=((k:Int),-1,7)):=by show _=_;rw [Kx (by omega) (by omega) (by rw [f];show (7:Int)≠0;decide),f]
     clear f
     by_cases O:(j:Int)<(k:Int)
     ·go_wp2_with fail
      refine bodyPost_ret (v:=.tuple #[.int .i64 k,.int .i64 (-1),.int .i64 7]) (by simp [results,Tryz.results41,go_sem]) rfl ⟨by rw [d.out],?_⟩
      exact ae h.out (ae i.out l.out)
     go_wp2_with fail;refine bodyPost_ret (v:=.tuple #[.int .i64 k,.int .i64 (-1),.int .i64 7]) (by simp [results,Tryz.results41,go_sem]) rfl ⟨by rw [d.out],?_⟩
     exact ae h.out (ae i.out l.out)
   have z:Hid (fZ D k=au (D k)):=Kn t;have S:=aa t;have f:dI D n 0=((k:Int),(au (D k)).1,(au (D k)).2):=by rw [←T.out,I,g8 _ (by rw [z.out];exact t),z.out]
   have d:Hid (ah D n=((k:Int),(au (D k)).1,(au (D k)).2)):=by show _=_;rw [Kx (by omega) (by omega) (by rw [f];exact t),f]
   have he2:((au (D k)).2 == 0)=false:=by simpa using t
   clear t f z S;generalize (au (D k)).2=ec at c d he2;generalize (au (D k)).1=kc at c d;go_wp2_with fail;refine c.mono ?_;rintro e w1 ⟨rfl,a⟩;have i:=aa (ae u.out a);clear a c;go_wp2_with fail
   by_cases hk0:(0:Int)<(k:Int)
   ·refine wp_loop_rounds 1 ?_
    rw [rounds_succ];go_wp2_with fail;refine bodyPost_ret (v:=.tuple #[.int .i64 k,.int .i64 kc,.int .i64 ec]) (by simp [results,Tryz.results41,go_sem]) rfl ⟨by rw [d.out],?_⟩
    exact ae h.out i.out
   have hk0':(k:Int)≤0:=by omega
   refine wp_loop_rounds 1 ?_;rw [rounds_succ];go_wp2_with fail;refine bodyPost_ret (v:=.tuple #[.int .i64 k,.int .i64 kc,.int .i64 ec]) (by simp [results,Tryz.results41,go_sem]) rfl ⟨by rw [d.out],?_⟩
   exact ae h.out i.out
  have hke:k=n:=by omega
  subst hke;have s:(dI D k 0).2.2=0:=by rw [←T.out,Nat.sub_self];rfl
  have B:=(jb k 0 s).2;have M:=qG b o k cap D A C wo (by omega) (fun j hj=>(aG (kh (B j (zU) (by omega)))).2.2.1) q
  clear B q
  by_cases U:3000<prodN D k
  ·have hp':3000<(prodN D k:Int):=by omega
   have d:Hid (ah D k=(-1,-1,4)):=K8 (by omega) (by omega) s U
   clear s U;go_wp2_with fail;refine M.mono ?_;rintro e w2 ⟨rfl,F⟩;go_wp2_with fail;refine bodyPost_ret (v:=.tuple #[.int .i64 (-1),.int .i64 (-1),.int .i64 4]) (by simp [results,Tryz.results41,go_sem]) rfl ⟨by rw [d.out],?_⟩
   exact ae h.out (ae u.out F)
  have hp':(prodN D k:Int)≤3000:=by omega
  have d:Hid (ah D k=(-1,-1,0)):=K9 (by omega) (by omega) s U
  clear s U;go_wp2_with fail;refine M.mono ?_;rintro e w2 ⟨rfl,F⟩;go_wp2_with fail;refine bodyPost_ret (v:=.tuple #[.int .i64 (-1),.int .i64 (-1),.int .i64 0]) (by simp [results,Tryz.results41,go_sem]) rfl ⟨by rw [d.out],?_⟩
  exact ae h.out (ae u.out F)
theorem oS (A0:Option Addr) (cap n:Nat) (D:Nat→Dm) (A:Nat→Option Addr) (C:Nat→Nat) (w:World) (d:bd w A0 cap n D A C):Rt 15 #[.agg #[.slice A0 n cap]] w (.int .i64 (ah D n).2.2):=by
 have a:=aA w A0 n cap 24;have h:=kR A0 cap n D A C (aD w A0 n cap 24) (d.later a);have b:=aa a;clear d a;generalize (ah D n).2.2=v at h;generalize (ah D n).1=x at h;generalize (ah D n).2.1=y at h
 go_enter Tryz.func15,Tryz.ntmps15
 go_wp2_with fail;refine h.mono ?_;rintro e w1 ⟨rfl,c⟩;go_wp2_with fail;go_ret;exact ⟨rfl,ae b.out c⟩
theorem oR (A0:Option Addr) (cap n:Nat) (D:Nat→Dm) (A:Nat→Option Addr) (C:Nat→Nat) (Ap:Option Addr) (K:Nat) (L:List Int) (w:World) (P:(ah D n).2.2=0) (N:bd w A0 cap n D A C) (O:aO w Ap K L):Rt 5 #[.agg #[.slice A0 n cap],.slice Ap L.length K] w (.int .i64 (shapeErr D n L)):=by
 obtain ⟨hn1,hn4,-,R⟩:=aw P;have hn':(n:Int)≤4:=by omega
 have V:=aa R;clear R P
 by_cases f:L.length=n
 ·have l:((L.length:Int) == (n:Int))=true:=by simp [f]
  have y:=aa f;obtain ⟨E,M | ⟨bp,op,rfl,B,e⟩⟩:=O
  ·rw [M] at f;simp at f;omega
  obtain ⟨Q,M | ⟨b,o,rfl,r⟩⟩:=N
  ·omega
  rw [f] at l E;rw [f];have U:Hid (∀ j,j<n→w.cell? ⟨bp,op+j,none⟩=some (.int .i64 (L.getD j 0))):=fun j hj=>e j (by omega)
  have z:=aa r;have v:Hid (Bl w (aD w (some ⟨b,o,none⟩) n cap 24)):=aA ..;have W:Hid (∀ w',Below (w.heap.size+1) (aD w (some ⟨b,o,none⟩) n cap 24) w'→w'.cell? ⟨w.heap.size,0,none⟩=some (.slice (some ⟨b,o,none⟩) n cap)):=fun w' I=>aL I (by show w.heap.size<_;omega) (aR ..)
  clear f e r
  go_enter Tryz.func5,Tryz.ntmps5
  go_wp2_with fail
  go_loopg [5] n (fun g s5 wr => ∃ (k:Nat),k≤n∧g=n-k∧s5=.int .i64 k∧findFrom (jE D L) (n-k) k=findFrom (jE D L) n 0∧Below (w.heap.size+1) (aD w (some ⟨b,o,none⟩) n cap 24) wr)
  case atStart=>exact ⟨0,zU,rfl,rfl,rfl,zS⟩
  case round =>
   obtain ⟨k,hk,rfl,rfl,G,d⟩:=hrel;have u:=aa G;have Y:=aa d;have c:Bl w wr:=v.out.trans (d.mono (by omega))
   have h:=aa c
   by_cases p:k<n
   ·have Lt:(k:Int)<(n:Int):=by omega
    have i:Hid (n-k=(n-(k+1))+1):=by show _=_;omega
    obtain ⟨-,-,Z,-⟩:=(z.out.later c).2 k p;have F:wr.cell? ⟨bp,op+k,none⟩=some (.int .i64 (L.getD k 0)):=aL c B (U.out k p);have c0:=W.out wr d;have hm:=(V.out k p).2;have a:Hid (jE D L k=(decide (L.getD k 0<0) || decide (((D k).n:Int)≤L.getD k 0))):=rfl;generalize L.getD k 0=x at F a;generalize (D k).n=m at Z hm a;have hm':(m:Int)≤12:=by omega
    clear G d c
    by_cases s:x<0
    ·have q:Hid (jE D L k=true):=by show _=_;rw [a.out,decide_eq_true s];rfl
     go_wp2_with fail
     go_quiet (fail)
     go_wp2_with fail;go_ret;refine ⟨?_,ac h.out _⟩;rw [K2 y.out]
     ·rfl
     rw [←u.out,i.out,aW _ q.out];omega
    have S:0≤x:=by omega
    have J:decide (x<0)=false:=decide_eq_false s
    by_cases t:(m:Int)≤x
    ·have q:Hid (jE D L k=true):=by show _=_;rw [a.out,decide_eq_true t];simp
     go_wp2_with fail
     go_quiet (fail)
     go_wp2_with fail;go_ret;refine ⟨?_,ac h.out _⟩;rw [K2 y.out]
     ·rfl
     rw [←u.out,i.out,aW _ q.out];omega
    have T:x<(m:Int):=by omega
    have q:Hid (jE D L k=false):=by show _=_;rw [a.out,J,decide_eq_false t];rfl
    go_wp2_with fail
    go_quiet (fail)
    go_wp2_with fail
    go_roundg (n-(k+1))
    case measure=>omega
    case rel=>exact ⟨k+1,by omega,rfl,by go_num,by rw [←u.out,i.out,aU _ q.out],ac Y.out _⟩
   have H:k=n:=by omega
   subst H;clear G d c;go_wp2_with fail;go_ret;refine ⟨?_,h.out⟩;rw [K3 y.out]
   ·rfl
   rw [←u.out,Nat.sub_self];show ¬ (0:Int)≤-1;decide
 have l:((L.length:Int) == (n:Int))=false:=by simp;omega
 have X:Hid (shapeErr D n L=3):=Lg f;generalize L.length=m at l;clear f N O
 go_enter Tryz.func5,Tryz.ntmps5
 go_wp2_with fail;go_ret;exact ⟨by rw [X.out];rfl,by go_grown⟩
theorem gm (A0:Option Addr) (cap n:Nat) (D:Nat→Dm) (A:Nat→Option Addr) (C:Nat→Nat) (Ap:Option Addr) (M:Nat) (L:List Int) (w:World) (t:InO D n L) (V:bd w A0 cap n D A C) (W:aO w Ap M L):Rt 8 #[.agg #[.slice A0 n cap],.slice Ap L.length M] w (.int .i64 (numI D L n)):=by
 obtain ⟨Lz,LA,-,P⟩:=aw t.right;have Lx:(n:Int)≤4:=by omega
 have R:=aa P;have s:=aa t;have u:=t.len;obtain ⟨Z,N | ⟨bp,op,rfl,E,e⟩⟩:=W
 ·rw [N] at u;simp at u;omega
 obtain ⟨O,N | ⟨b,o,rfl,l⟩⟩:=V
 ·omega
 rw [u];have Q:Hid (∀ j,j<n→w.cell? ⟨bp,op+j,none⟩=some (.int .i64 (L.getD j 0))):=fun j hj=>e j (by omega)
 have B:=aa l;have v:Hid (Bl w (aD w (some ⟨b,o,none⟩) n cap 24)):=aA ..;have S:Hid (∀ w',Below (w.heap.size+1) (aD w (some ⟨b,o,none⟩) n cap 24) w'→w'.cell? ⟨w.heap.size,0,none⟩=some (.slice (some ⟨b,o,none⟩) n cap)):=fun w' J=>aL J (by show w.heap.size<_;omega) (aR ..)
 clear u e l P t
 go_enter Tryz.func8,Tryz.ntmps8
 go_wp2_with fail
 go_loopg [5,6] n (fun g s5 s6 wr => ∃ (k:Nat),k≤n∧g=n-k∧s6=.int .i64 k∧s5=.int .i64 (numI D L k)∧Below (w.heap.size+1) (aD w (some ⟨b,o,none⟩) n cap 24) wr)
 case atStart=>exact ⟨0,zU,rfl,rfl,rfl,zS⟩
 case round =>
  obtain ⟨k,hk,rfl,rfl,rfl,c⟩:=hrel;have T:=aa c;have a:Bl w wr:=v.out.trans (c.mono (by omega))
  have z:=aa a
  by_cases f:k<n
  ·have Lt:(k:Int)<(n:Int):=by omega
   obtain ⟨-,-,U,-⟩:=(B.out.later a).2 k f;have F:wr.cell? ⟨bp,op+k,none⟩=some (.int .i64 (L.getD k 0)):=aL a E (Q.out k f);have c0:=S.out wr c;obtain ⟨h,d,X⟩:=bJ s.out (k:=k+1) (by omega)
   obtain ⟨p,q,Y⟩:=bJ s.out (k:=k) (by omega)
   have K:=s.out.lo k f;have r:=s.out.hi k f;obtain ⟨G,H⟩:=R.out k f;have i:Hid (numI D L (k+1)=numI D L k*((D k).n:Int)+L.getD k 0):=rfl;rw [i.out] at h d;generalize L.getD k 0=x at F h d K r i;generalize (D k).n=m at U h d G H r i;generalize numI D L k=y at h d p q i;have Lu:0≤y*(m:Int):=Int.mul_nonneg p (by omega)
   have Lv:y*(m:Int)≤20736:=by omega
   have Lw:y*(m:Int)+x≤20736:=by omega
   clear c a d q;go_wp2_with fail
   go_quiet (fail)
   go_wp2_with fail
   go_roundg (n-(k+1))
   case measure=>omega
   case rel=>exact ⟨k+1,by omega,rfl,by go_num,by rw [i.out],ac T.out _⟩
  have I:k=n:=by omega
  subst I;clear c a;go_wp2_with fail;go_ret;exact ⟨rfl,z.out⟩
theorem oN (A0:Option Addr) (cap n:Nat) (D:Nat→Dm) (A:Nat→Option Addr) (C:Nat→Nat) (Ap:Option Addr) (R:Nat) (L:List Int) (w:World) (s:InO D n L) (hM:bd w A0 cap n D A C) (hP:aO w Ap R L):Rt 48 #[.agg #[.slice A0 n cap],.slice Ap L.length R] w (.bool (leafV D n L)):=by
 obtain ⟨hn1,hn4,-,U⟩:=aw s.right;have hn':(n:Int)≤4:=by omega
 have W:=aa U;have P:=aa s;have Q:Hid (leafV D n L = !decide (0≤findFrom (fK D L) n 0)):=by show _=_;unfold leafV;rw [if_pos s.ok]
 have v:=s.len;obtain ⟨hcp,E | ⟨bp,op,rfl,G,f⟩⟩:=hP
 ·rw [E] at v;simp at v;omega
 obtain ⟨T,E | ⟨b,o,rfl,u⟩⟩:=hM
 ·omega
 rw [v];have V:Hid (∀ j,j<n→w.cell? ⟨bp,op+j,none⟩=some (.int .i64 (L.getD j 0))):=fun j hj=>f j (by omega)
 have z:=aa u;have x:Hid (Bl w (aD w (some ⟨b,o,none⟩) n cap 24)):=aA ..;have Y:Hid (∀ w',Below (w.heap.size+1) (aD w (some ⟨b,o,none⟩) n cap 24) w'→w'.cell? ⟨w.heap.size,0,none⟩=some (.slice (some ⟨b,o,none⟩) n cap)):=fun w' p=>aL p (by show w.heap.size<_;omega) (aR ..)
 have hS0:=aF w (some ⟨b,o,none⟩) n cap 24;clear v f u U s
 go_enter Tryz.func48,Tryz.ntmps48
 go_wp2_with fail
 go_loopg [5,6] n (fun g s5 s6 wr => ∃ (k:Nat),k≤n∧g=n-k∧s5=.int .i64 k∧findFrom (fK D L) (n-k) k=findFrom (fK D L) n 0∧Below (w.heap.size+1) (aD w (some ⟨b,o,none⟩) n cap 24) wr)
 case atStart=>exact ⟨0,zU,rfl,rfl,rfl,zS⟩
 case round =>
  obtain ⟨k,hk,rfl,rfl,J,a⟩:=hrel;have y:=aa J;have Z:=aa a;have c:Bl w wr:=x.out.trans (a.mono (by omega))
  have q:=aa c
  by_cases h:k<n
  ·have hki:(k:Int)<(n:Int):=by omega
   have r:Hid (n-k=(n-(k+1))+1):=by show _=_;omega
   obtain ⟨E,h1,h3,h4⟩:=(z.out.later c).2 k h;have N:=P.out.lo k h;have K:=P.out.hi k h;obtain ⟨X,F⟩:∃ X:Nat,L.getD k 0=X:=⟨(L.getD k 0).toNat,by omega⟩
   have H:wr.cell? ⟨bp,op+k,none⟩=some (.int .i64 (L.getD k 0)):=aL c G (V.out k h);have l:Hid (fK D L k = !leafB (D k).mem (D k).n X):=by show _=_;unfold fK;rw [F];rfl
   rw [F] at H N K;have c0:=Y.out wr a;have O:w.heap.size+1≤wr.heap.size:=by have:=a.size;omega
   obtain ⟨hd1,I⟩:=W.out k h;obtain ⟨hcm,h5 | ⟨b',o',S,t⟩⟩:=h4
   ·omega
   rw [S] at h3;have i:Hid (∀ w',Bl wr w'→Rt 81 #[.agg #[.string (D k).name,.int .i64 (D k).solve,.slice (some ⟨b',o',none⟩) (D k).n (C k)],.int .i64 X] w' (.bool (leafB (D k).mem (D k).n X))):=fun w' p=>qP (D k) b' o' (C k) X w' I (by omega) (t.later p)
   clear J a c F t S;cases hb:leafB (D k).mem (D k).n X
   ·rw [hb] at i l
    have B:=aa l.out;clear hb;go_wp2_with fail
    go_region_law ((go_simp;refine (i.out _ (by go_grown)).mono ?_;rintro e w2 ⟨rfl,d⟩;have m:=ae (W0:=wr) (by go_grown) d;clear d))
    all_goals go_wp2_with fail
    all_goals go_ret
    all_goals refine ⟨?_,ae q.out m⟩
    all_goals rw [Q.out,←y.out,r.out,aW _ B.out,decide_eq_true (by omega)]
    all_goals rfl
   rw [hb] at i l;have B:=aa l.out;clear hb;go_wp2_with fail
   go_region_law ((go_simp;refine (i.out _ (by go_grown)).mono ?_;rintro e w2 ⟨rfl,d⟩;have m:=ae (W0:=wr) (by go_grown) d;clear d))
   all_goals go_wp2_with fail
   all_goals go_roundg (n-(k+1))
   all_goals first | omega | exact ⟨k+1,by omega,rfl,by go_num,by rw [←y.out,r.out,aU _ B.out],Z.out.trans (m.mono O)⟩
  have M:k=n:=by omega
  subst M;clear J a c;go_wp2_with fail;go_ret;refine ⟨?_,q.out⟩;rw [Q.out,←y.out,Nat.sub_self]
  rfl
theorem zc (A0:Option Addr) (cap n:Nat) (D:Nat→Dm) (A:Nat→Option Addr) (C:Nat→Nat) (X:Nat) (w:World) (U:(ah D n).2.2=0) (hX:X<prodN D n) (hM:bd w A0 cap n D A C):Calls Tryz.prog 23 #[.agg #[.slice A0 n cap],.int .i64 X] w fun e w'=>(∃ A' c',e=.returned (.slice A' (ak D n X).length c')∧aO w' A' c' (ak D n X))∧Bl w w':=by
 obtain ⟨hn1,hn4,N,W⟩:=aw U;have HD:=aa W;have hn':(n:Int)≤4:=by omega
 have Z:(1:Int)≤(n:Int):=by omega
 have hX3:X≤3000:=by omega
 have M:=run_make_row' (P:=Tryz.prog) 27 3 (.int .i64 0) 8 Tryz.underlying27 Tryz.infoIntP rfl .i64 .i64 n (by omega) (by omega)
 obtain ⟨V,h0 | ⟨b,o,rfl,x⟩⟩:=hM
 ·omega
 obtain ⟨w1,a⟩:∃ w1,w1=aD w (some ⟨b,o,none⟩) n cap 24:=⟨_,rfl⟩;have p:Bl w w1:=by rw [a];exact aA ..
 have T:w1.cell? ⟨w.heap.size,0,none⟩=some (.slice (some ⟨b,o,none⟩) n cap):=by rw [a];exact aR ..
 have z:w1.heap.size=w.heap.size+1:=by rw [a];exact aF ..
 have G:=aa (x.later p);have F:=aa p;have H2:=aa T;have c:=aa z;have u:=aa a;have h:Hid (cd (w1.alloc (.cells (madeCells #[.int .i64 0] n) 3)) w1.heap.size (iS D n X 0)):=by show cd _ _ _;rw [zN];exact cd.made w1 n
 have f:Hid (Bl w1 (w1.alloc (.cells (madeCells #[.int .i64 0] n) 3))):=by show Below _ _ _;go_grown
 rw [a] at h f;unfold aD at h f;clear W x p T z a hX N U
 go_enter Tryz.func23,Tryz.ntmps23
 go_wp2_with fail;clear M
 go_loopg [1,6,7] n (fun g s1 s6 s7 wr => ∃ (r:Nat),r≤n∧g=n-r∧s6=.int .i64 ((n:Int)-1-r)∧s1=.int .i64 (restAt D n X r)∧cd wr w1.heap.size (iS D n X r)∧Bl w1 wr)
 case atStart=>exact ⟨0,zU,rfl,by simp,rfl,by rw [u.out];exact h.out,by rw [u.out];exact f.out⟩
 case round =>
  obtain ⟨r,hr,rfl,rfl,rfl,v,d⟩:=hrel;have Q:=aa v;have t:=aa d
  by_cases L:r<n
  ·obtain ⟨k,B⟩:∃ k:Nat,k=n-1-r:=⟨_,rfl⟩
   have y:(n:Int)-1-(r:Int)=(k:Int):=by omega
   rw [y];have HK:=aa B;have q:k<n:=by omega
   obtain ⟨-,-,h3,-⟩:=(G.out.later d).2 k q;have c2:wr.cell? ⟨w.heap.size,0,none⟩=some (.slice (some ⟨b,o,none⟩) n cap):=aL d (by show w.heap.size<_;rw [c.out];omega) H2.out
   have Y:(k:Int)<(n:Int):=by omega
   have S:=v.cell (j:=k) (by rw [Dl];exact q)
   have c5:=v.frozen k;rw [c.out] at S c5;obtain ⟨H,I⟩:=HD.out k q;have s:=BU D n X r;have i:Hid (restAt D n X (r+1)=restAt D n X r / (D k).n):=by show _=_;rw [restAt,B]
   have l:Hid (bx D n X k=restAt D n X r % (D k).n):=by show _=_;rw [bx,show n-1-k=r by omega]
   have HS:Hid ((iS D n X r).set k (bx D n X k:Int)=iS D n X (r+1)):=by show _=_;rw [B];exact Dn D n X r L
   generalize (iS D n X r).getD k 0=old at S;generalize restAt D n X r=R at i l s;generalize hm:(D k).n=m at h3 H I i l;have hm1:(1:Int)≤(m:Int):=by omega
   have hm2:(m:Int)≤12:=by omega
   have hRR:(R:Int)≤3000:=by omega
   have hR0:(0:Int)≤(R:Int):=by omega
   have hm0:((m:Int) == 0)=false:=by simp;omega
   clear v d B y hm;go_wp2_with fail
   go_roundg (n-(r+1))
   case measure=>omega
   case rel =>
    have J:=Nat.div_le_self R m;have hw:wrap64 ((R:Int) / (m:Int))=((R / m:Nat):Int):=by
     rw [←Int.natCast_ediv];exact xY (zV J (by omega))
    refine ⟨r+1,by omega,rfl,?_,?_,?_,t.out.setCell (by show w1.heap.size≤w.heap.size+1;rw [c.out];exact zT) _⟩
    ·have:=HK.out
     congr 1
     omega
    ·rw [hw,i.out]
    have O:=Q.out.set k (bx D n X k:Int);rw [HS.out,l.out,Int.natCast_emod] at O;rw [c.out] at O ⊢;exact O
  have s:r=n:=by omega
  subst s;have K:(r:Int)-1-(r:Int) = -1:=by omega
  rw [K];clear v d;go_wp2_with fail;go_ret;have E:=Q.out.pl;rw [Dk] at E;rw [placeL_len] at E ⊢;rw [c.out] at E;exact ⟨⟨_,_,rfl,E⟩,ae F.out t.out⟩
end Go.Proofs.YthlhjjabkgpenaaGreatDoor
