/- The document's own ans -/
import Derived.Deep.CutBlock
import Derived.Test.YtohgnbgamfepoaaGreatDoorJHAO
namespace Go.Proofs.YtohgnbgamfepoaaGreatDoor
open ChangeShapes WideShapes ChangeAt RowKit
set_option maxRecDepth 99999
set_option maxHeartbeats 0
theorem yN (A0:Option Addr) (cap n:Nat) (D:Nat→Dm) (A:Nat→Option Addr) (C:Nat→Nat) (w:World) (d:aW w A0 cap n D A C):Rt 44 #[.agg #[.slice A0 n cap]] w (.int .i64 (am D n).2.2):=by
 have a:=ao w A0 n cap 24;have h:=lH A0 cap n D A C (ax w A0 n cap 24) (d.later a);have b:=aa a;clear d a;generalize (am D n).2.2=v at h;generalize (am D n).1=x at h;generalize (am D n).2.1=y at h
 go_enter Tryz.func44,Tryz.ntmps44
 go_wp2_with fail;refine h.mono ?_;rintro e w1 ⟨rfl,c⟩;go_wp2_with fail;go_ret;exact ⟨rfl,ae b.out c⟩
theorem kL (A0:Option Addr) (cap n:Nat) (D:Nat→Dm) (A:Nat→Option Addr) (C:Nat→Nat) (Ap:Option Addr) (K:Nat) (L:List Int) (w:World) (P:(am D n).2.2=0) (N:aW w A0 cap n D A C) (O:aZ w Ap K L):Rt 16 #[.agg #[.slice A0 n cap],.slice Ap L.length K] w (.int .i64 (shapeErr D n L)):=by
 obtain ⟨hn1,hn4,-,R⟩:=au P;have hn':(n:Int)≤4:=by omega
 have V:=aa R;clear R P
 by_cases f:L.length=n
 ·have l:((L.length:Int) == (n:Int))=true:=by simp [f]
  have y:=aa f;obtain ⟨E,M | ⟨bp,op,rfl,B,e⟩⟩:=O
  ·rw [M] at f;simp at f;omega
  obtain ⟨Q,M | ⟨b,o,rfl,r⟩⟩:=N
  ·omega
  rw [f] at l E;rw [f];have U:Hid (∀ j,j<n→w.cell? ⟨bp,op+j,none⟩=some (.int .i64 (L.getD j 0))):=fun j hj=>e j (by omega)
  have z:=aa r;have v:Hid (Bl w (ax w (some ⟨b,o,none⟩) n cap 24)):=ao ..;have W:Hid (∀ w',Below (w.heap.size+1) (ax w (some ⟨b,o,none⟩) n cap 24) w'→w'.cell? ⟨w.heap.size,0,none⟩=some (.slice (some ⟨b,o,none⟩) n cap)):=fun w' I=>aC I (by show w.heap.size<_;omega) (aH ..)
  clear f e r
  go_enter Tryz.func16,Tryz.ntmps16
  go_wp2_with fail
  go_loopg [5] n (fun g s5 wr => ∃ (k:Nat),k≤n∧g=n-k∧s5=.int .i64 k∧findFrom (j9 D L) (n-k) k=findFrom (j9 D L) n 0∧Below (w.heap.size+1) (ax w (some ⟨b,o,none⟩) n cap 24) wr)
  case atStart=>exact ⟨0,zU,rfl,rfl,rfl,zS⟩
  case round =>
   obtain ⟨k,hk,rfl,rfl,G,d⟩:=hrel;have u:=aa G;have Y:=aa d;have c:Bl w wr:=v.out.trans (d.mono (by omega))
   have h:=aa c
   by_cases p:k<n
   ·have u9:(k:Int)<(n:Int):=by omega
    have i:Hid (n-k=(n-(k+1))+1):=by show _=_;omega
    obtain ⟨-,-,Z,-⟩:=(z.out.later c).2 k p;have F:wr.cell? ⟨bp,op+k,none⟩=some (.int .i64 (L.getD k 0)):=aC c B (U.out k p);have c0:=W.out wr d;have hm:=(V.out k p).2;have a:Hid (j9 D L k=(decide (L.getD k 0<0) || decide (((D k).n:Int)≤L.getD k 0))):=rfl;generalize L.getD k 0=x at F a;generalize (D k).n=m at Z hm a;have hm':(m:Int)≤12:=by omega
    clear G d c
    by_cases s:x<0
    ·have q:Hid (j9 D L k=true):=by show _=_;rw [a.out,decide_eq_true s];rfl
     go_wp2_with fail
     go_quiet (fail)
     go_wp2_with fail;go_ret;refine ⟨?_,ac h.out _⟩;rw [KC y.out]
     ·rfl
     rw [←u.out,i.out,bu _ q.out];omega
    have S:0≤x:=by omega
    have J:decide (x<0)=false:=decide_eq_false s
    by_cases t:(m:Int)≤x
    ·have q:Hid (j9 D L k=true):=by show _=_;rw [a.out,decide_eq_true t];simp
     go_wp2_with fail
     go_quiet (fail)
     go_wp2_with fail;go_ret;refine ⟨?_,ac h.out _⟩;rw [KC y.out]
     ·rfl
     rw [←u.out,i.out,bu _ q.out];omega
    have T:x<(m:Int):=by omega
    have q:Hid (j9 D L k=false):=by show _=_;rw [a.out,J,decide_eq_false t];rfl
    go_wp2_with fail
    go_quiet (fail)
    go_wp2_with fail
    go_roundg (n-(k+1))
    case measure=>omega
    case rel=>exact ⟨k+1,by omega,rfl,by go_num,by rw [←u.out,i.out,be _ q.out],ac Y.out _⟩
   have H:k=n:=by omega
   subst H;clear G d c;go_wp2_with fail;go_ret;refine ⟨?_,h.out⟩;rw [KD y.out]
   ·rfl
   rw [←u.out,Nat.sub_self];show ¬ (0:Int)≤-1;decide
 have l:((L.length:Int) == (n:Int))=false:=by simp;omega
 have X:Hid (shapeErr D n L=3):=KP f;generalize L.length=m at l;clear f N O
 go_enter Tryz.func16,Tryz.ntmps16
 go_wp2_with fail;go_ret;exact ⟨by rw [X.out];rfl,by go_grown⟩
theorem fP (A0:Option Addr) (cap n:Nat) (D:Nat→Dm) (A:Nat→Option Addr) (C:Nat→Nat) (Ap:Option Addr) (M:Nat) (L:List Int) (w:World) (t:InO D n L) (V:aW w A0 cap n D A C) (W:aZ w Ap M L):Rt 8 #[.agg #[.slice A0 n cap],.slice Ap L.length M] w (.int .i64 (numI D L n)):=by
 obtain ⟨K5,K6,-,P⟩:=au t.right;have K4:(n:Int)≤4:=by omega
 have R:=aa P;have s:=aa t;have u:=t.len;obtain ⟨Z,N | ⟨bp,op,rfl,E,e⟩⟩:=W
 ·rw [N] at u;simp at u;omega
 obtain ⟨O,N | ⟨b,o,rfl,l⟩⟩:=V
 ·omega
 rw [u];have Q:Hid (∀ j,j<n→w.cell? ⟨bp,op+j,none⟩=some (.int .i64 (L.getD j 0))):=fun j hj=>e j (by omega)
 have B:=aa l;have v:Hid (Bl w (ax w (some ⟨b,o,none⟩) n cap 24)):=ao ..;have S:Hid (∀ w',Below (w.heap.size+1) (ax w (some ⟨b,o,none⟩) n cap 24) w'→w'.cell? ⟨w.heap.size,0,none⟩=some (.slice (some ⟨b,o,none⟩) n cap)):=fun w' J=>aC J (by show w.heap.size<_;omega) (aH ..)
 clear u e l P t
 go_enter Tryz.func8,Tryz.ntmps8
 go_wp2_with fail
 go_loopg [5,6] n (fun g s5 s6 wr => ∃ (k:Nat),k≤n∧g=n-k∧s6=.int .i64 k∧s5=.int .i64 (numI D L k)∧Below (w.heap.size+1) (ax w (some ⟨b,o,none⟩) n cap 24) wr)
 case atStart=>exact ⟨0,zU,rfl,rfl,rfl,zS⟩
 case round =>
  obtain ⟨k,hk,rfl,rfl,rfl,c⟩:=hrel;have T:=aa c;have a:Bl w wr:=v.out.trans (c.mono (by omega))
  have z:=aa a
  by_cases f:k<n
  ·have u9:(k:Int)<(n:Int):=by omega
   obtain ⟨-,-,U,-⟩:=(B.out.later a).2 k f;have F:wr.cell? ⟨bp,op+k,none⟩=some (.int .i64 (L.getD k 0)):=aC a E (Q.out k f);have c0:=S.out wr c;obtain ⟨h,d,X⟩:=a8 s.out (k:=k+1) (by omega)
   obtain ⟨p,q,Y⟩:=a8 s.out (k:=k) (by omega)
   have K:=s.out.lo k f;have r:=s.out.hi k f;obtain ⟨G,H⟩:=R.out k f;have i:Hid (numI D L (k+1)=numI D L k*((D k).n:Int)+L.getD k 0):=rfl;rw [i.out] at h d;generalize L.getD k 0=x at F h d K r i;generalize (D k).n=m at U h d G H r i;generalize numI D L k=y at h d p q i;have K0:0≤y*(m:Int):=Int.mul_nonneg p (by omega)
   have K2:y*(m:Int)≤20736:=by omega
   have K3:y*(m:Int)+x≤20736:=by omega
   clear c a d q;go_wp2_with fail
   go_quiet (fail)
   go_wp2_with fail
   go_roundg (n-(k+1))
   case measure=>omega
   case rel=>exact ⟨k+1,by omega,rfl,by go_num,by rw [i.out],ac T.out _⟩
  have I:k=n:=by omega
  subst I;clear c a;go_wp2_with fail;go_ret;exact ⟨rfl,z.out⟩
theorem jA (A0:Option Addr) (cap n:Nat) (D:Nat→Dm) (A:Nat→Option Addr) (C:Nat→Nat) (Ap:Option Addr) (Q:Nat) (L:List Int) (w:World) (s:InO D n L) (hM:aW w A0 cap n D A C) (hP:aZ w Ap Q L):Rt 45 #[.agg #[.slice A0 n cap],.slice Ap L.length Q] w (.bool (leafV D n L)):=by
 obtain ⟨hn1,hn4,-,T⟩:=au s.right;have hn':(n:Int)≤4:=by omega
 have V:=aa T;have P:=aa s;have HV:Hid (leafV D n L = !decide (0≤findFrom (eb D L) n 0)):=by show _=_;unfold leafV;rw [if_pos s.ok]
 have v:=s.len;obtain ⟨hcp,E | ⟨bp,op,rfl,G,f⟩⟩:=hP
 ·rw [E] at v;simp at v;omega
 obtain ⟨S,E | ⟨b,o,rfl,u⟩⟩:=hM
 ·omega
 rw [v];have U:Hid (∀ j,j<n→w.cell? ⟨bp,op+j,none⟩=some (.int .i64 (L.getD j 0))):=fun j hj=>f j (by omega)
 have z:=aa u;have x:Hid (Bl w (ax w (some ⟨b,o,none⟩) n cap 24)):=ao ..;have W:Hid (∀ w',Below (w.heap.size+1) (ax w (some ⟨b,o,none⟩) n cap 24) w'→w'.cell? ⟨w.heap.size,0,none⟩=some (.slice (some ⟨b,o,none⟩) n cap)):=fun w' p=>aC p (by show w.heap.size<_;omega) (aH ..)
 have hS0:=av w (some ⟨b,o,none⟩) n cap 24;clear v f u T s
 go_enter Tryz.func45,Tryz.ntmps45
 go_wp2_with fail
 go_loopg [5,6] n (fun g s5 s6 wr => ∃ (k:Nat),k≤n∧g=n-k∧s5=.int .i64 k∧findFrom (eb D L) (n-k) k=findFrom (eb D L) n 0∧Below (w.heap.size+1) (ax w (some ⟨b,o,none⟩) n cap 24) wr)
 case atStart=>exact ⟨0,zU,rfl,rfl,rfl,zS⟩
 case round =>
  obtain ⟨k,hk,rfl,rfl,J,a⟩:=hrel;have y:=aa J;have Y:=aa a;have c:Bl w wr:=x.out.trans (a.mono (by omega))
  have q:=aa c
  by_cases h:k<n
  ·have hki:(k:Int)<(n:Int):=by omega
   have r:Hid (n-k=(n-(k+1))+1):=by show _=_;omega
   obtain ⟨E,h1,Z,h4⟩:=(z.out.later c).2 k h;have N:=P.out.lo k h;have K:=P.out.hi k h;obtain ⟨X,F⟩:∃ X:Nat,L.getD k 0=X:=⟨(L.getD k 0).toNat,by omega⟩
   have H:wr.cell? ⟨bp,op+k,none⟩=some (.int .i64 (L.getD k 0)):=aC c G (U.out k h);have l:Hid (eb D L k = !leafB (D k).mem (D k).n X):=by show _=_;unfold eb;rw [F];rfl
   rw [F] at H N K;have c0:=W.out wr a;have O:w.heap.size+1≤wr.heap.size:=by have:=a.size;omega
   obtain ⟨hd1,I⟩:=V.out k h;obtain ⟨hcm,h5 | ⟨b',o',R,t⟩⟩:=h4
   ·omega
   rw [R] at Z;have i:Hid (∀ w',Bl wr w'→Rt 87 #[.agg #[.string (D k).name,.int .i64 (D k).solve,.slice (some ⟨b',o',none⟩) (D k).n (C k)],.int .i64 X] w' (.bool (leafB (D k).mem (D k).n X))):=fun w' p=>rL (D k) b' o' (C k) X w' I (by omega) (t.later p)
   clear J a c F t R;cases hb:leafB (D k).mem (D k).n X
   ·rw [hb] at i l
    have B:=aa l.out;clear hb;go_wp2_with fail
    go_region_law ((go_simp;refine (i.out _ (by go_grown)).mono ?_;rintro e w2 ⟨rfl,d⟩;have m:=ae (W0:=wr) (by go_grown) d;clear d))
    all_goals go_wp2_with fail
    all_goals go_ret
    all_goals refine ⟨?_,ae q.out m⟩
    all_goals rw [HV.out,←y.out,r.out,bu _ B.out,decide_eq_true (by omega)]
    all_goals rfl
   rw [hb] at i l;have B:=aa l.out;clear hb;go_wp2_with fail
   go_region_law ((go_simp;refine (i.out _ (by go_grown)).mono ?_;rintro e w2 ⟨rfl,d⟩;have m:=ae (W0:=wr) (by go_grown) d;clear d))
   all_goals go_wp2_with fail
   all_goals go_roundg (n-(k+1))
   all_goals first | omega | exact ⟨k+1,by omega,rfl,by go_num,by rw [←y.out,r.out,be _ B.out],Y.out.trans (m.mono O)⟩
  have M:k=n:=by omega
  subst M;clear J a c;go_wp2_with fail;go_ret;refine ⟨?_,q.out⟩;rw [HV.out,←y.out,Nat.sub_self]
  rfl
theorem Bj (A0:Option Addr) (cap n:Nat) (D:Nat→Dm) (A:Nat→Option Addr) (C:Nat→Nat) (X:Nat) (w:World) (U:(am D n).2.2=0) (hX:X<prodN D n) (hM:aW w A0 cap n D A C):Calls Tryz.prog 30 #[.agg #[.slice A0 n cap],.int .i64 X] w fun e w'=>(∃ A' c',e=.returned (.slice A' (aj D n X).length c')∧aZ w' A' c' (aj D n X))∧Bl w w':=by
 obtain ⟨hn1,hn4,N,W⟩:=au U;have HD:=aa W;have hn':(n:Int)≤4:=by omega
 have Z:(1:Int)≤(n:Int):=by omega
 have hX3:X≤3000:=by omega
 have M:=run_make_row' (P:=Tryz.prog) 27 3 (.int .i64 0) 8 Tryz.underlying27 Tryz.infoIntP rfl .i64 .i64 n (by omega) (by omega)
 obtain ⟨V,h0 | ⟨b,o,rfl,x⟩⟩:=hM
 ·omega
 obtain ⟨w1,a⟩:∃ w1,w1=ax w (some ⟨b,o,none⟩) n cap 24:=⟨_,rfl⟩;have p:Bl w w1:=by rw [a];exact ao ..
 have T:w1.cell? ⟨w.heap.size,0,none⟩=some (.slice (some ⟨b,o,none⟩) n cap):=by rw [a];exact aH ..
 have z:w1.heap.size=w.heap.size+1:=by rw [a];exact av ..
 have G:=aa (x.later p);have F:=aa p;have H2:=aa T;have c:=aa z;have u:=aa a;have h:Hid (et (w1.alloc (.cells (madeCells #[.int .i64 0] n) 3)) w1.heap.size (jp D n X 0)):=by show et _ _ _;rw [BW];exact et.made w1 n
 have f:Hid (Bl w1 (w1.alloc (.cells (madeCells #[.int .i64 0] n) 3))):=by show Below _ _ _;go_grown
 rw [a] at h f;unfold ax at h f;clear W x p T z a hX N U
 go_enter Tryz.func30,Tryz.ntmps30
 go_wp2_with fail;clear M
 go_loopg [1,6,7] n (fun g s1 s6 s7 wr => ∃ (r:Nat),r≤n∧g=n-r∧s6=.int .i64 ((n:Int)-1-r)∧s1=.int .i64 (restAt D n X r)∧et wr w1.heap.size (jp D n X r)∧Bl w1 wr)
 case atStart=>exact ⟨0,zU,rfl,by simp,rfl,by rw [u.out];exact h.out,by rw [u.out];exact f.out⟩
 case round =>
  obtain ⟨r,hr,rfl,rfl,rfl,v,d⟩:=hrel;have Q:=aa v;have t:=aa d
  by_cases L:r<n
  ·obtain ⟨k,B⟩:∃ k:Nat,k=n-1-r:=⟨_,rfl⟩
   have y:(n:Int)-1-(r:Int)=(k:Int):=by omega
   rw [y];have HK:=aa B;have q:k<n:=by omega
   obtain ⟨-,-,h3,-⟩:=(G.out.later d).2 k q;have c2:wr.cell? ⟨w.heap.size,0,none⟩=some (.slice (some ⟨b,o,none⟩) n cap):=aC d (by show w.heap.size<_;rw [c.out];omega) H2.out
   have Y:(k:Int)<(n:Int):=by omega
   have S:=v.cell (j:=k) (by rw [EM];exact q)
   have c5:=v.frozen k;rw [c.out] at S c5;obtain ⟨H,I⟩:=HD.out k q;have s:=Dq D n X r;have i:Hid (restAt D n X (r+1)=restAt D n X r / (D k).n):=by show _=_;rw [restAt,B]
   have l:Hid (bC D n X k=restAt D n X r % (D k).n):=by show _=_;rw [bC,show n-1-k=r by omega]
   have HS:Hid ((jp D n X r).set k (bC D n X k:Int)=jp D n X (r+1)):=by show _=_;rw [B];exact EN D n X r L
   generalize (jp D n X r).getD k 0=old at S;generalize restAt D n X r=R at i l s;generalize hm:(D k).n=m at h3 H I i l;have hm1:(1:Int)≤(m:Int):=by omega
   have hm2:(m:Int)≤12:=by omega
   have hRR:(R:Int)≤3000:=by omega
   have hR0:(0:Int)≤(R:Int):=by omega
   have hm0:((m:Int) == 0)=false:=by simp;omega
   clear v d B y hm;go_wp2_with fail
   go_roundg (n-(r+1))
   case measure=>omega
   case rel =>
    have J:=Nat.div_le_self R m;have hw:wrap64 ((R:Int) / (m:Int))=((R / m:Nat):Int):=by
     rw [←Int.natCast_ediv];exact zw (zV J (by omega))
    refine ⟨r+1,by omega,rfl,?_,?_,?_,t.out.setCell (by show w1.heap.size≤w.heap.size+1;rw [c.out];exact zT) _⟩
    ·have:=HK.out
     congr 1
     omega
    ·rw [hw,i.out]
    have O:=Q.out.set k (bC D n X k:Int);rw [HS.out,l.out,Int.natCast_emod] at O;rw [c.out] at O ⊢;exact O
  have s:r=n:=by omega
  subst s;have K:(r:Int)-1-(r:Int) = -1:=by omega
  rw [K];clear v d;go_wp2_with fail;go_ret;have E:=Q.out.pl;rw [EL] at E;rw [placeL_len] at E ⊢;rw [c.out] at E;exact ⟨⟨_,_,rfl,E⟩,ae F.out t.out⟩
def kR (N:List (List Int)) (i:Nat) (L:List Int) (k:Nat):Prop:=L.Nodup∧(∀ x∈L,Rch N i x)∧(∀ x∈N.getD i [],x∈L)∧∀ j,j<k→∀ y∈fC N (L.getD j 0),y∈L
theorem yF {N:List (List Int)} {i:Nat} (h:(N.getD i []).Nodup):kR N i (N.getD i []) 0 :=
 ⟨h,fun x b=>.one (by unfold fC;simpa using b),fun _ h=>h,fun j a=>absurd a (Nat.not_lt_zero _)⟩
theorem Bk {N:List (List Int)} {i:Nat} {L:List Int} {k:Nat} (h:kR N i L k) (a:nA N) (c:i<N.length):∀ x∈L,0≤x∧x<(N.length:Int):=fun x b=>(h.2.1 x b).inn a (by omega) (by omega)
theorem vB {N:List (List Int)} {i:Nat} {L:List Int} {k:Nat} (h:kR N i L k) (a:nA N) (b:i<N.length):L.length≤N.length:=few _ _ h.1 (Bk h a b)
theorem Gl {N:List (List Int)} {i:Nat} {L:List Int} (h:kR N i L L.length):∀ x,x∈L↔Rch N i x:=fun x=>by
 refine ⟨h.2.1 x,fun c=>c.closed (S:=fun y=>y∈L) (fun y a=>h.2.2.1 y (by unfold fC at a;simpa using a)) fun y a z d=>?_⟩
 obtain ⟨j,b,rfl⟩:=List.getElem_of_mem a;refine h.2.2.2 j b z ?_;rw [zZ,zX b];exact d
theorem ui {L T:List Int} {j:Nat} (h:j<L.length):(L ++ T).getD j 0=L.getD j 0:=by
 rw [zZ,zZ,List.getElem?_append_left h]
theorem Gm {N:List (List Int)} {i:Nat} {L:List Int} {k:Nat} {x:Int} (h:kR N i L k) (n:k≤L.length) (m:x∉L) (l:Rch N i x):kR N i (L ++ [x]) k:=by
 refine ⟨?_,fun y c=>?_,fun y c=>List.mem_append_left _ (h.2.2.1 y c),fun j g y c=>?_⟩
 ·rw [List.nodup_append]
  refine ⟨h.1,by simp,fun a d b f e=>?_⟩
  rw [List.mem_singleton.1 f] at e;exact m (e ▸ d)
 ·rcases List.mem_append.1 c with c | c
  ·exact h.2.1 y c
  rw [List.mem_singleton.1 c];exact l
 rw [ui (by omega)] at c
 exact List.mem_append_left _ (h.2.2.2 j g y c)
theorem Ds {N:List (List Int)} {i:Nat} {L:List Int} {k:Nat} (h:kR N i L k) (b:∀ y∈fC N (L.getD k 0),y∈L):kR N i L (k+1) :=
 ⟨h.1,h.2.1,h.2.2.1,fun j c y a=>by
  by_cases e:j=k
  ·rw [e] at a;exact b y a
  exact h.2.2.2 j (by omega) y a⟩
theorem f6 {L:List Int} {j:Nat} (h:j<L.length):L.getD j 0∈L:=by
 rw [zZ,zX h];exact List.getElem_mem h
theorem vO (A:Option Addr) (cap:Nat) (xs:List RL) (i:Nat) (w:World) (hn:xs.length≤12) (M:i<xs.length) (hN:nA (lR xs)) (hnd:∀ x∈xs,x.p.Nodup∧x.p.length≤12) (hR:db w A cap xs) :
  Calls Tryz.prog 165 #[.slice A xs.length cap,.int .i64 i] w fun e w'=>(∃ A' c' L,e=.returned (.slice A' L.length c')∧bX w' A' c' L∧L.length≤12∧∀ x,x∈L↔Rch (lR xs) i x)∧Bl w w':=by
 obtain ⟨i0,hi0,hz0,hz1,hz2⟩:=info_parts Tryz.infoInt;have HR:=aa hR;have HNd:=aa hnd;have U:=aa hN;have d:Hid ((lR xs).length=xs.length):=o7 xs;obtain ⟨hcap,h0 | ⟨b,rfl,hbw,o⟩,s⟩:=hR
 ·rw [h0] at M;simp at M
 have J:=o i M;have hri:=s _ (il M);have hni:=hnd _ (il M);have HC:=aa o;have HRw:=aa s;have HSt:Hid (kR (lR xs) i (xs.getD i eq).p 0):=by
  have h:=yF (N:=lR xs) (i:=i) (by rw [rs];exact hni.1)
  rw [rs] at h;exact h
 have f:=xt (xs.getD i eq).A (xs.getD i eq).c (xs.getD i eq).p w hni.2 hri;obtain ⟨n,hnn⟩:=az xs.length;have G:=aa hnn;rw [hnn] at hn M hcap ⊢;have hii:(i:Int)<(n:Int):=by omega
 have hnI:(n:Int)≤12:=by omega
 obtain ⟨pi,hpi⟩:=az ((xs.getD i eq).p);rw [hpi] at J f HSt;generalize (xs.getD i eq).A=Ai at J f;generalize (xs.getD i eq).c=ci at J f;clear o s hnd hN hri hni hpi hnn
 go_enter Tryz.func165,Tryz.ntmps165
 go_wp2_with fail;refine f.mono ?_;rintro e w1 ⟨⟨v1,rfl,hO1⟩,hb1⟩;have HO1:=aa hO1;have HB1:=aa hb1;clear hO1 hb1 f J;go_wp2_with fail
 go_loopg [5,6] n (fun g s5 s6 wr => ∃ (k:Nat) (L:List Int),k≤L.length∧g=n-k∧s6=.int .i64 k∧Hid (kR (lR xs) i L k)∧wr.ownsRow w.heap.size 3 1 s5 L.length (aE L)∧Bl w wr)
 case atStart=>exact ⟨0,pi,zU,rfl,rfl,HSt,HO1.out,HB1.out⟩
 case round =>
  obtain ⟨k,L,hk,rfl,rfl,HI,a,I⟩:=hrel;have HBw:=aa I;have HO:=aa a;have hLn:L.length≤n:=by rw [←G.out,←d.out];exact vB HI.out U.out (by rw [d.out,G.out];exact M)
  obtain ⟨AL,cL,rfl,u9⟩:=bQ a;obtain ⟨m,hm⟩:=az L.length;have P:=aa hm;have hmI:(m:Int)≤12:=by omega
  rw [hm] at hk hLn;rw [hm]
  by_cases hlt:k<m
  ·have hki:(k:Int)<(m:Int):=by omega
   obtain ⟨hcL,-,hL0 | ⟨bl,cs,fr,rfl,hbl,f⟩⟩:=u9
   ·rw [hL0] at hm;simp at hm;omega
   have cx:=f k (by omega)
   have hx:=Bk HI.out U.out (by rw [d.out,G.out];exact M) _ (f6 (L:=L) (j:=k) (by omega))
   rw [d.out,G.out] at hx;obtain ⟨y,hy⟩:∃ y:Nat,L.getD k 0=(y:Int):=⟨(L.getD k 0).toNat,by omega⟩
   have HY:=aa hy;rw [hy] at cx hx;have hyn:y<n:=by omega
   have hyi:(y:Int)<(n:Int):=by omega
   have cy:=aC I hbw (HC.out y (by rw [G.out];exact hyn))
   have F:Hid (aR w (xs.getD y eq).A (xs.getD y eq).c (xs.getD y eq).p):=HRw.out _ (il (by rw [G.out];exact hyn))
   have hry:=(HNd.out _ (il (k:=y) (by rw [G.out];exact hyn))).2
   have z:Hid (fC (lR xs) (L.getD k 0)=(xs.getD y eq).p):=by
    show _=_
    rw [hy];unfold fC;rw [Int.toNat_natCast,rs]
   have HRk:Hid (Rch (lR xs) i (L.getD k 0)):=HI.out.2.1 _ (f6 (by omega))
   obtain ⟨R,hRe⟩:=az ((xs.getD y eq).p);rw [hRe] at cy F hry z;generalize (xs.getD y eq).A=Ay at cy F;generalize (xs.getD y eq).c=cy' at cy F;obtain ⟨r,hr⟩:=az R.length;have v:=aa hr;rw [hr] at cy hry;have hrI:(r:Int)≤12:=by omega
   have hblt:bl<wr.heap.size:=(zY hbl).1;clear f hx a I hbl hy hRe hr hm;go_wp2_with fail
   go_loopg [5,28] r (fun gg s5 s28 wi => ∃ (j:Nat) (K:List Int),j≤r∧gg=r-j∧s28=.int .i64 j∧Hid (kR (lR xs) i K k∧(∃ T,K=L ++ T)∧∀ t,t<j→R.getD t 0∈K)∧wi.ownsRow w.heap.size 3 1 s5 K.length (aE K)∧Bl w wi)
   case atStart=>exact ⟨0,L,zU,rfl,rfl,(⟨HI.out,⟨[],by simp⟩,fun t ht=>absurd ht (Nat.not_lt_zero _)⟩:_∧_∧_),by have h:=HO.out;rw [P.out] at h;rw [P.out];exact h,HBw.out⟩
   case round =>
    obtain ⟨wj,rfl⟩:∃ wj:World,wj=wr:=⟨_,rfl⟩;obtain ⟨j,K,hj,rfl,rfl,HK,a,H⟩:=hrel;have S:=aa H;have W:=aa a;have hKn:K.length≤n:=by rw [←G.out,←d.out];exact vB HK.out.1 U.out (by rw [d.out,G.out];exact M)
    obtain ⟨AK,cK,rfl,Z⟩:=bQ a
    by_cases hjl:j<r
    ·have hji:(j:Int)<(r:Int):=by omega
     obtain ⟨hcR,-,hR0 | ⟨br,csr,frr,rfl,hbr,hcr⟩⟩:=F.out.later H
     ·have:=v.out;rw [hR0] at this;simp at this;omega
     have cz:=hcr j (by rw [v.out];exact hjl)
     have hbrl:br<wj.heap.size:=(zY hbr).1;rw [v.out] at hcR;have hcRi:(r:Int)≤(cy':Int):=by omega
     obtain ⟨x,hx⟩:=az (R.getD j 0);have X:=aa hx;rw [hx] at cz;have q:=kg AK cK K x wj (by omega) Z.at
     obtain ⟨mk,O⟩:=az K.length;have D:=aa O;have HKn:Hid (mk≤n):=by show _≤_;omega
     rw [O] at q hKn;rw [O];clear hcr hbr a H Z hx O
     by_cases u:x∈K
     ·have hb:nH K x=true:=by unfold nH;exact decide_eq_true u
      rw [hb] at q;have V:Hid (kR (lR xs) i K k∧(∃ T,K=L ++ T)∧∀ t,t<j+1→R.getD t 0∈K):=⟨HK.out.1,HK.out.2.1,fun t ht=>by
       by_cases e:t=j
       ·rw [e,X.out];exact u
       exact HK.out.2.2 t (by omega)⟩
      clear hb u;go_wp2_with fail;refine q.mono ?_;rintro e w2 ⟨rfl,l⟩;have Q:=aa (ae S.out l);have E:Hid (w2.ownsRow w.heap.size 3 1 (.slice AK mk cK) K.length (aE K)):=by have h:=an W.out l;rw [D.out] at h;show World.ownsRow ..;rw [D.out];exact h
      clear l q;go_wp2_with fail
      go_roundg (r-(j+1))
      case measure=>omega
      case rel=>exact ⟨j+1,K,by omega,rfl,by go_num,V,E.out,Q.out⟩
     have hb:nH K x=false:=by unfold nH;exact decide_eq_false u
     rw [hb] at q;have V:Hid (kR (lR xs) i (K ++ [x]) k∧(∃ T,K ++ [x]=L ++ T)∧∀ t,t<j+1→R.getD t 0∈K ++ [x]):=by
      obtain ⟨hI,⟨T,hT⟩,hA⟩:=HK.out;refine ⟨Gm hI ?_ u ?_,⟨T ++ [x],by rw [hT,List.append_assoc]⟩,fun t ht=>?_⟩
      ·rw [hT,List.length_append,P.out];omega
      ·refine HRk.out.snoc ?_
       rw [z.out,←X.out];exact f6 (by rw [v.out];exact hjl)
      by_cases e:t=j
      ·rw [e,X.out];simp
      exact List.mem_append_left _ (hA t (by omega))
     clear hb u;go_wp2_with fail;refine q.mono ?_;rintro e w2 ⟨rfl,l⟩;have Y:Bl w w2:=ae S.out l;have Q:=aa Y;have E:Hid (w2.ownsRow w.heap.size 3 1 (.slice AK mk cK) mk (aE K)):=by have h:=an W.out l;rw [D.out] at h;exact h
     have hsz:=Y.size;clear l q Y
     go_wp2_with (at_builtin;refine wpList_append_own _ rfl _ _ 26 rfl w.heap.size 3 i0 (.int .i64 0) 1 8 Tryz.underlying26 hi0 hz0 hz1 hz2 rfl (by decide) _ _ _ rfl (E.out.alloc _) ⟨w2.heap.size,0,none⟩ 1 1 [.int .i64 x] rfl rfl bz dG (by have:=HKn.out;unfold maxLen;omega) (by have:=HKn.out;omega) (by simp;omega) ?_)
     intro v' w3 C B _;have HB3:Hid (Bl w w3):=bD Q.out E.out B;have HO3:Hid (w3.ownsRow w.heap.size 3 1 v' (K ++ [x]).length (aE (K ++ [x]))):=by
      show World.ownsRow ..
      rw [mapI_snoc,List.length_append,D.out];exact C
     clear C B;go_wp2_with fail
     go_roundg (r-(j+1))
     case measure=>omega
     case rel=>exact ⟨j+1,K ++ [x],by omega,rfl,by go_num,V,HO3.out,HB3.out⟩
    have hje:j=r:=by omega
    subst hje;have HI2:Hid (k+1≤K.length∧kR (lR xs) i K (k+1)):=by
     obtain ⟨hI,⟨T,hT⟩,hA⟩:=HK.out;refine ⟨by rw [hT,List.length_append,P.out];omega,Ds hI fun y' hy'=>?_⟩
     rw [hT,ui (by rw [P.out];exact hlt),z.out] at hy'
     obtain ⟨t,ht,rfl⟩:=List.getElem_of_mem hy';have h:=hA t (by rw [←v.out];exact ht)
     rw [zZ,zX ht] at h;exact h
    clear a H Z hKn;go_wp2_with fail
    go_roundg (n-(k+1))
    case measure=>omega
    case rel=>exact ⟨k+1,K,HI2.out.1,rfl,by go_num,HI2.out.2,W.out,S.out⟩
  have hke:k=m:=by omega
  subst hke;have HEnd:Hid (∀ x,x∈L↔Rch (lR xs) i x):=Gl (by rw [P.out];exact HI.out)
  have HIL:=aa u9.at;clear a I u9 hm;go_wp2_with fail;go_ret;exact ⟨⟨AL,cL,L,by rw [P.out];rfl,HIL.out,by rw [P.out];omega,HEnd.out⟩,HBw.out⟩
def lj (w:ByteArray):Tre:=if 97≤byteN w 0∧byteN w 0≤122 then .ref w else .num (numW w)
theorem rt (w:ByteArray) (k:Nat):post (lj w) k=[opndN w]∧sizT (lj w)=1:=by
 unfold lj opndN
 split
 ·exact ⟨rfl,rfl⟩
 exact ⟨rfl,rfl⟩
inductive Spl:Nat→Tre→List ByteArray→Prop
 | word (w:ByteArray):48≤byteN w 0→Spl 3 (lj w) [w]
 | brk (t:Tre) (ws:List ByteArray):Spl 1 t ws→Spl 3 t ([⟨#[40]⟩] ++ ws ++ [⟨#[41]⟩])
 | up (k:Nat) (t:Tre) (ws:List ByteArray):1≤k→k≤2→Spl (k+1) t ws→Spl k t ws
 | bin (k:Nat) (o:Int) (a c:Tre) (wa wc:List ByteArray):3≤o→o≤6→bindN o=(k:Int)→Spl k a wa→Spl (k+1) c wc→Spl k (.bin o a c) (wa ++ [IJ o] ++ wc)
theorem Gx {k:Nat} {t:Tre} {ws:List ByteArray} (h:Spl k t ws):∀ (b:Bld),IW b (k:Int)→∀ least:Int,least≤k→settleB least (ws.foldl takeB b)=settleB least (dK t b):=by
 induction h with
 | word w hw =>
  intro b _ least _
  show settleB least (takeB b w)=_
  rw [fS hw];obtain ⟨f,g⟩:=rt w b.nodes.length;unfold dK jZ;rw [f,g]
  rfl
 | brk t ws _ ih =>
  intro b _ least _;have:=GA (l:=ws) (t:=t) (b:=b) (ih _ (uE _ _ _ _) 0 (by omega))
  rw [JZ,if_pos rfl] at this;rw [this]
 | up k t ws h1 h2 _ ih =>
  intro b e least d;exact ih b (e.up (by omega)) least (by omega)
 | bin k o a c wa wc h1 h2 h3 _ _ iha ihc =>
  intro b e least d;have f:settleB (bindN o) (wa.foldl takeB b)=dK a b:=by
   rw [h3,iha b e k (Int.le_refl _)];exact kO (uF a e)
  rw [List.foldl_append,List.foldl_append]
  show settleB least (wc.foldl takeB (takeB (wa.foldl takeB b) (IJ o)))=_
  rw [DO _ ⟨h1,h2⟩,f,ihc ⟨(dK a b).nodes,(dK a b).ready,(dK a b).waiting ++ [o]⟩ (Or.inr ⟨_,o,rfl,Or.inr (by rw [h3];omega)⟩) least (by omega)]
  show settleB least ⟨(dK c ⟨(dK a b).nodes,(dK a b).ready,b.waiting ++ [o]⟩).nodes,(dK c ⟨(dK a b).nodes,(dK a b).ready,b.waiting ++ [o]⟩).ready,b.waiting ++ [o]⟩=_
  rw [yX (by omega) (by rw [h3];exact d),Cp]
def r9 (s:ByteArray) (k a a':Nat) (t:Tre):Prop:=a<a'∧a'≤s.size∧∃ ws,Spl k t ws∧∀ r:Rd Bld,r.at'=a→cB s takeB false r=cB s takeB true ⟨a',r.opn,ws.foldl takeB r.st⟩
def Ea (s:ByteArray) (a a':Nat):Prop:=a≤a'∧a'≤s.size∧∀ r:Rd Bld,r.at'=a→∃ o st,cB s takeB false r=(⟨a',o,st⟩,false)
def qo (s:ByteArray) (k a:Nat):Prop:=a<s.size→signI (nextB s a)<0∨bindN (3+signI (nextB s a))<(k:Int)
section
variable {s:ByteArray} {k a a1 a2 a':Nat} {t u:Tre}
theorem gJ {n:Nat} (b:a<s.size) (c:1≤n):byteN (s.extract a (a+n)) 0=nextB s a:=by
 rw [fu (by omega),nextB,if_neg (by omega),Nat.add_zero]
theorem Iv (b:a≤s.size) (h:b9 (nextB s a)=true):r9 s 3 a (a+digitsN s a) (lj (s.extract a (a+digitsN s a))):=by
 obtain ⟨d,e⟩:=kY b h;obtain ⟨i,j⟩:=kZ (o:=0) b h;refine ⟨by omega,e,[s.extract a (a+digitsN s a)],Spl.word _ ?_,fun r c=>?_⟩
 ·have f:=gJ (by omega:a<s.size) d
  rw [f];unfold b9 at h
  simp at h
  omega
 have g:=zR (tk:=takeB) (r:=r) (by rw [c];exact b) (by rw [c];exact h)
 rw [g,wordR,c]
 rfl
theorem Iw (c:a≤s.size) (h:bG (nextB s a)=true):r9 s 3 a (a+leadN bG (s.extract a s.size)) (lj (s.extract a (a+leadN bG (s.extract a s.size)))):=by
 obtain ⟨d,e⟩:=lk c h;refine ⟨by omega,e,[s.extract a (a+leadN bG (s.extract a s.size))],Spl.word _ ?_,fun r b=>?_⟩
 ·have f:=gJ (by omega:a<s.size) d
  rw [f];unfold bG at h
  simp at h
  omega
 have g:=Af (tk:=takeB) (r:=r) (by rw [b];exact c) (by rw [b];exact h)
 rw [g,wordR,b]
 rfl
theorem iz (g:a<s.size) (c:UInt8) (h:nextB s a=(c.toNat:Int)):s.extract a (a+1)=⟨#[c]⟩:=by
 have k:=dL (s:=s) (a:=a) (n:=1) (by omega)
 have d:=gJ (n:=1) g (by omega)
 rw [h] at d;apply ByteArray.ext;apply Array.ext
 ·exact k
 intro i b f;have j:i=0:=by simp at f;omega
 subst j;have e:byteN (s.extract a (a+1)) 0=(((s.extract a (a+1)).data[0]'b).toNat:Int):=by
  unfold byteN;rw [List.getD,zX (by rw [Array.length_toList];exact b)]
  rfl
 rw [e] at d;have:((s.extract a (a+1)).data[0]'b).toNat=c.toNat:=by omega
 simpa using UInt8.toNat_inj.1 this
theorem Iu (i:a≤s.size) (b:nextB s a=40) (h:r9 s 1 (a+1) a1 t) (c:nextB s a1=41):r9 s 3 a (a1+1) t:=by
 obtain ⟨o,g,ws,m,n⟩:=h;have f:a<s.size:=cE (by rw [b];decide) i
 have d:a1<s.size:=cE (by rw [c];decide) g
 refine ⟨by omega,by omega,_,Spl.brk t ws m,fun r e=>?_⟩
 have j:=la (tk:=takeB) (r:=r) (by rw [e];exact i) (by rw [e];exact b)
 have k:=n (wordR s takeB 1 ⟨r.at',r.opn+1,r.st⟩) (by rw [wordR,e])
 have l:=q7 (tk:=takeB) (r:=⟨a1,(wordR s takeB 1 ⟨r.at',r.opn+1,r.st⟩).opn,ws.foldl takeB (wordR s takeB 1 ⟨r.at',r.opn+1,r.st⟩).st⟩) g ⟨by show 0<r.opn+1;omega,c⟩
 rw [j,k,l];unfold wordR;simp only;rw [e,iz f 40 (by rw [b];rfl),iz d 41 (by rw [c];rfl),List.foldl_append,List.foldl_append]
 rfl
theorem Jw (b:1≤k) (c:k≤2) (h:r9 s (k+1) a a' t):r9 s k a a' t:=by
 obtain ⟨g1,g2,ws,g3,g4⟩:=h;exact ⟨g1,g2,ws,Spl.up k t ws b c g3,g4⟩
theorem sgn_four {c:Int} (h : ¬ signI c<0):(c=43∧signI c=0)∨(c=45∧signI c=1)∨(c=42∧signI c=2)∨(c=47∧signI c=3):=by
 unfold signI at *
 by_cases a:c=43
 ·left;exact ⟨a,by rw [if_pos a]⟩
 by_cases b:c=45
 ·right;left;exact ⟨b,by rw [if_neg a,if_pos b]⟩
 by_cases d:c=42
 ·right;right;left;exact ⟨d,by rw [if_neg a,if_neg b,if_pos d]⟩
 by_cases e:c=47
 ·right;right;right;exact ⟨e,by rw [if_neg a,if_neg b,if_neg d,if_pos e]⟩
 rw [if_neg a,if_neg b,if_neg d,if_neg e] at h;omega
theorem rN (b:a<s.size) (h : ¬ signI (nextB s a)<0):s.extract a (a+1)=IJ (3+signI (nextB s a))∧3≤3+signI (nextB s a)∧3+signI (nextB s a)≤6∧nextB s a≠41:=by
 rcases sgn_four h with ⟨e,c⟩ | ⟨e,c⟩ | ⟨e,c⟩ | ⟨e,c⟩
 ·rw [c,iz b 43 (by rw [e];rfl),e];exact ⟨rfl,by omega,by omega,by omega⟩
 ·rw [c,iz b 45 (by rw [e];rfl),e];exact ⟨rfl,by omega,by omega,by omega⟩
 ·rw [c,iz b 42 (by rw [e];rfl),e];exact ⟨rfl,by omega,by omega,by omega⟩
 rw [c,iz b 47 (by rw [e];rfl),e];exact ⟨rfl,by omega,by omega,by omega⟩
theorem It (h:r9 s k a a1 t) (b:a1<s.size) (c : ¬ signI (nextB s a1)<0) (m:bindN (3+signI (nextB s a1))=(k:Int)) (l:r9 s (k+1) (a1+1) a2 u):r9 s k a a2 (.bin (3+signI (nextB s a1)) t u):=by
 obtain ⟨g1,g2,ws,g3,g4⟩:=h;obtain ⟨o,g,vs,i,j⟩:=l;obtain ⟨w1,w2,w3,w4⟩:=rN b c;refine ⟨by omega,g,_,Spl.bin k _ t u ws vs w2 w3 m g3 i,fun r n=>?_⟩
 have d:=oN (tk:=takeB) (r:=⟨a1,r.opn,ws.foldl takeB r.st⟩) (fun e=>w4 e.2) b c
 have f:=j (wordR s takeB 1 ⟨a1,r.opn,ws.foldl takeB r.st⟩) rfl;rw [g4 r n,d,f];unfold wordR;simp only;rw [w1,List.foldl_append,List.foldl_append]
 rfl
/-! where it goes wrong -/
theorem E2 (e:a≤s.size) (h:nextB s a≠40) (c:b9 (nextB s a)=false) (d:bG (nextB s a)=false):Ea s a a :=
 ⟨zT,e,fun r b=>⟨r.opn,r.st,by rw [ud (by rw [b];exact h) (by rw [b];exact c) (by rw [b];exact d),←b]⟩⟩
theorem E3 (f:a≤s.size) (b:nextB s a=40) (h:Ea s (a+1) a'):Ea s a a':=by
 obtain ⟨g,d,e⟩:=h;refine ⟨by omega,d,fun r c=>?_⟩
 rw [la (by rw [c];exact f) (by rw [c];exact b)]
 exact e _ (by rw [wordR,c])
theorem E4 (j:a≤s.size) (d:nextB s a=40) (h:r9 s 1 (a+1) a1 t) (k:qo s 1 a1) (c:nextB s a1≠41):Ea s a a1:=by
 obtain ⟨m,g,ws,n,i⟩:=h;refine ⟨by omega,g,fun r f=>?_⟩
 rw [la (tk:=takeB) (r:=r) (by rw [f];exact j) (by rw [f];exact d),i _ (by rw [wordR,f])]
 by_cases b:a1<s.size
 ·have l:signI (nextB s a1)<0:=by
   rcases k b with h | h
   ·exact h
   have:=oi (3+signI (nextB s a1));omega
  rw [sr (fun e=>c e.2) b l]
  exact ⟨_,_,rfl⟩
 rw [nD (fun e=>c e.2) b]
 refine ⟨(wordR s takeB 1 ⟨r.at',r.opn+1,r.st⟩).opn,ws.foldl takeB (wordR s takeB 1 ⟨r.at',r.opn+1,r.st⟩).st,?_⟩;rw [decide_eq_false (show ¬ (wordR s takeB 1 ⟨r.at',r.opn+1,r.st⟩).opn=0 by show ¬ r.opn+1=0;omega)]
theorem E5 (h:r9 s k a a1 t) (b:a1<s.size) (c : ¬ signI (nextB s a1)<0) (g:Ea s (a1+1) a2):Ea s a a2:=by
 obtain ⟨g1,g2,ws,g3,g4⟩:=h;obtain ⟨j,d,f⟩:=g;obtain ⟨w1,w2,w3,w4⟩:=rN b c;refine ⟨by omega,d,fun r i=>?_⟩
 rw [g4 r i,oN (tk:=takeB) (r:=⟨a1,r.opn,ws.foldl takeB r.st⟩) (fun e=>w4 e.2) b c]
 exact f _ rfl
end
/-! all of a text -/
section
variable {s:ByteArray} {a':Nat} {t:Tre}
theorem Gg (h:r9 s 1 0 s.size t):(dJ s).2=true∧eF s=post t 0:=by
 obtain ⟨d,f,ws,a,c⟩:=h;have e:dJ s=(⟨s.size,0,ws.foldl takeB noB⟩,true):=by
  unfold dJ;rw [kv (r:=⟨0,0,noB⟩) (zU),c ⟨0,0,noB⟩ rfl,nD (fun e=>absurd e.1 (Nat.lt_irrefl 0)) (Nat.lt_irrefl _)]
  rfl
 refine ⟨by rw [e],?_⟩
 unfold eF;rw [e]
 show (settleB 0 (ws.foldl takeB noB)).nodes=_
 rw [Gx a noB (Or.inl rfl) 0 (by omega)]
 rw [kO (b:=dK t noB) (Or.inl rfl)]
 show [] ++ post t 0=_
 rfl
theorem Dd (h:r9 s 1 0 a' t) (c:qo s 1 a') (a:a'<s.size):(dJ s).2=false∧(dJ s).1.at'=a':=by
 obtain ⟨f,g,ws,i,b⟩:=h;have d:signI (nextB s a')<0:=by
  rcases c a with h | h
  ·exact h
  have:=oi (3+signI (nextB s a'));omega
 have e:dJ s=(⟨a',0,ws.foldl takeB noB⟩,false):=by
  unfold dJ;rw [kv (r:=⟨0,0,noB⟩) (zU),b ⟨0,0,noB⟩ rfl,sr (fun e=>absurd e.1 (Nat.lt_irrefl 0)) a d]
 rw [e];exact ⟨rfl,rfl⟩
theorem Gh (h:Ea s 0 a'):(dJ s).2=false∧(dJ s).1.at'=a':=by
 obtain ⟨c,d,b⟩:=h;obtain ⟨o,st,e⟩:=b ⟨0,0,noB⟩ rfl;have a:dJ s=(⟨a',o,st⟩,false):=by
  unfold dJ;rw [kv (r:=⟨0,0,noB⟩) (zU),e]
 rw [a];exact ⟨rfl,rfl⟩
end
def eL (w:World) (q:Nat) (s:ByteArray) (a:Nat) (bad:Bool) (v:Value):Prop:=w.heap[q]?=some (.cells #[.string s,.int .i64 a,.bool bad,v] 185 (0,0))
section
variable {w w':World} {q a:Nat} {s:ByteArray} {bad:Bool} {v:Value}
theorem eL.lt (h:eL w q s a bad v):q<w.heap.size:=(zY h).1
theorem eL.c0 (h:eL w q s a bad v):w.cell? ⟨q,0,none⟩=some (.string s):=by unfold eL at h;simp [World.cell?,h]
theorem eL.c1 (h:eL w q s a bad v):w.cell? ⟨q,1,none⟩=some (.int .i64 a):=by unfold eL at h;simp [World.cell?,h]
theorem eL.c2 (h:eL w q s a bad v):w.cell? ⟨q,2,none⟩=some (.bool bad):=by unfold eL at h;simp [World.cell?,h]
theorem eL.c3 (h:eL w q s a bad v):w.cell? ⟨q,3,none⟩=some v:=by unfold eL at h;simp [World.cell?,h]
theorem eL.fr (h:eL w q s a bad v) (j:Nat):w.frozen? ⟨q,j,none⟩=false:=by unfold eL at h;simp [World.frozen?,h]
theorem eL.later (h:eL w q s a bad v) (b:Bl w w'):eL w' q s a bad v:=(b.block q h.lt).trans h
theorem eL.same (h:eL w q s a bad v) (b:w'.heap[q]?=w.heap[q]?):eL w' q s a bad v:=b.trans h
theorem eL.set1 (h:eL w q s a bad v) (n:Nat):eL (w.setCell ⟨q,1,none⟩ (.int .i64 n)) q s n bad v:=by
 unfold eL at *;rw [setCell_eq_setRow w q 1 _ _ (0,0) _ h,setRow_heap w q _ _ _ _ h]
 rfl
theorem eL.set2 (h:eL w q s a bad v) (b:Bool):eL (w.setCell ⟨q,2,none⟩ (.bool b)) q s a b v:=by
 unfold eL at *;rw [setCell_eq_setRow w q 2 _ _ (0,0) _ h,setRow_heap w q _ _ _ _ h]
 rfl
theorem eL.set3 (h:eL w q s a bad v) (u:Value):eL (w.setCell ⟨q,3,none⟩ u) q s a bad u:=by
 unfold eL at *;rw [setCell_eq_setRow w q 3 _ _ (0,0) _ h,setRow_heap w q _ _ _ _ h]
 rfl
end
theorem Jf (q a:Nat) (s:ByteArray) (v:Value) (lo c:Int) (w:World) (b:eL w q s a true v):Rt 162 #[.pointer (some ⟨q,0,none⟩),.int .u8 lo,.int .u8 c] w (.bool false):=by
 have c0:=b.c0;have c1:=b.c1;have c2:=b.c2;have d:=b.lt;clear b
 go_enter Tryz.func162,Tryz.ntmps162
 go_wp2_with fail
 go_quiet (fail)
 go_wp2_with fail;go_ret;exact ⟨rfl,ac (zS) _⟩
theorem fZ (q a:Nat) (s:ByteArray) (v:Value) (lo h:Int) (w:World) (n:0<lo) (m:a≤s.size) (b:eL w q s a false v):Rt 162 #[.pointer (some ⟨q,0,none⟩),.int .u8 lo,.int .u8 h] w (.bool (decide (lo≤nextB s a) && decide (nextB s a≤h))):=by
 have c0:=b.c0;have c1:=b.c1;have c2:=b.c2;have o:=b.lt;clear b
 by_cases g:a=s.size
 ·subst g
  have d:nextB s s.size=0:=by simp [nextB]
  rw [d,decide_eq_false (by omega),Bool.false_and]
  go_enter Tryz.func162,Tryz.ntmps162
  go_wp2_with fail
  go_quiet (fail)
  go_wp2_with fail;go_ret;exact ⟨rfl,ac (zS) _⟩
 have f:a<s.size:=by omega
 have i:(a:Int)<(s.size:Int):=by omega
 have d:nextB s a=byteN s a:=by simp [nextB,g]
 have j:=da s a f;rw [d]
 by_cases c:lo≤byteN s a
 ·rw [decide_eq_true c,Bool.true_and]
  go_enter Tryz.func162,Tryz.ntmps162
  go_wp2_with fail
  go_quiet (fail)
  go_wp2_with fail;go_ret;exact ⟨by first | rfl | simp,ac (zS) _⟩
 rw [decide_eq_false c,Bool.false_and];have e:byteN s a<lo:=by omega
 have k:decide (lo≤byteN s a)=false:=decide_eq_false c;have l:decide (byteN s a<lo)=true:=decide_eq_true e;clear c
 go_enter Tryz.func162,Tryz.ntmps162
 go_wp2_with fail
 go_quiet (fail)
 go_wp2_with fail;go_ret;exact ⟨rfl,ac (zS) _⟩
theorem Gd (op:Int) (w:World):Rt 137 #[.int .i64 op] w (.int .i64 (bindN op)):=by
 unfold bindN
 by_cases a:op=3
 ·subst a
  go_enter Tryz.func137,Tryz.ntmps137
  go_wp2;go_ret;exact ⟨by simp,by go_grown⟩
 by_cases b:op=4
 ·subst b
  go_enter Tryz.func137,Tryz.ntmps137
  go_wp2;go_ret;exact ⟨by simp,by go_grown⟩
 by_cases c:op=5
 ·subst c
  go_enter Tryz.func137,Tryz.ntmps137
  go_wp2;go_ret;exact ⟨by simp,by go_grown⟩
 by_cases d:op=6
 ·subst d
  go_enter Tryz.func137,Tryz.ntmps137
  go_wp2;go_ret;exact ⟨by simp,by go_grown⟩
 rw [if_neg (by omega),if_neg (by omega)]
 have e:(op == 3)=false:=by simpa using a
 have f:(op == 4)=false:=by simpa using b
 have g:(op == 5)=false:=by simpa using c
 have h:(op == 6)=false:=by simpa using d
 clear a b c d
 go_enter Tryz.func137,Tryz.ntmps137
 go_wp2;go_ret;exact ⟨rfl,by go_grown⟩
def tE (s:ByteArray) (q base k a:Nat) (L:List Nd) (w:World) (e:Ending) (w':World):Prop :=
 Kept base (fun j=>j=q) w w'∧((∃ (a':Nat) (t:Tre) (v':Value),e=.returned (.int .i64 ((L.length+sizT t-1:Nat):Int))∧r9 s k a a' t∧qo s k a'∧eL w' q s a' false v'∧w'.ownsRow base 132 5 v' (L ++ post t L.length).length (aS (L ++ post t L.length))∧a+sizT t≤a')
  ∨ (∃ (i:Int) (a':Nat) (v':Value) (L':List Nd),e=.returned (.int .i64 i)∧Ea s a a'∧eL w' q s a' true v'∧w'.ownsRow base 132 5 v' L'.length (aS L')))
def od (s:ByteArray) (q base k a:Nat):Prop := ∀ (v:Value) (L:List Nd) (w:World),eL w q s a false v→q<base→base≤w.heap.size→w.ownsRow base 132 5 v L.length (aS L)→L.length≤a→Calls Tryz.prog 103 #[.pointer (some ⟨q,0,none⟩),.int .i64 k] w fun e w'=>tE s q base k a L w e w'
def G2 (s:ByteArray) (q base a:Nat):Prop := ∀ (v:Value) (L:List Nd) (w:World),eL w q s a false v→q<base→base≤w.heap.size→w.ownsRow base 132 5 v L.length (aS L)→L.length≤a→Calls Tryz.prog 136 #[.pointer (some ⟨q,0,none⟩)] w fun e w'=>tE s q base 3 a L w e w'
theorem I1 (s:ByteArray) (a:Nat):qo s 3 a:=fun _=>by
 by_cases h:signI (nextB s a)<0
 ·exact Or.inl h
 right
 rcases sgn_four h with ⟨-,e⟩ | ⟨-,e⟩ | ⟨-,e⟩ | ⟨-,e⟩ <;> rw [e] <;> decide
theorem ff {N:Nat} {q j:Nat} {w:World} {v:Value}:Kept N (fun i=>i=q) w (w.setCell ⟨q,j,none⟩ v) :=
 ⟨rfl,rfl,rfl,by simp,fun k _ a=>ar w q j k v a⟩
theorem gh {w:World} {base q j:Nat} {v u:Value} {n:Nat} {xs:List Value} {e size:Nat} (h:w.ownsRow base e size v n xs) (b:q<base):(w.setCell ⟨q,j,none⟩ u).ownsRow base e size v n xs :=
 bT h fun g a=>ar _ _ _ _ _ (by have:=(aG h a).1;omega)
theorem AI {p:Int→Bool} {t:ByteArray} {m:Nat} (a:∀ i,i<m→p (byteN t i)=true) (b:m≤t.size):∀ (f i:Nat),i≤m→i+f=t.size→m≤leadTo p t f i
 | 0,i,hi,hf=>by rw [leadTo];omega
 | f+1,i,hi,hf=>by
  by_cases e:i=m
  ·subst e
   exact (i6 p t (f+1) i).1
  rw [uy (a i (by omega))]
  exact AI a b f (i+1) (by omega) (by omega)
section
variable {s:ByteArray} {a k:Nat}
theorem ld {i:Nat} (h:a+i<s.size):byteN (s.extract a s.size) i=nextB s (a+i):=by
 rw [fu (by omega),nextB,if_neg (by omega)]
theorem qV (l:1≤k) (h:a+k≤s.size) (b:∀ i,i<k→b9 (nextB s (a+i))=true) (n:nextB s a≠48) (f:k=7∨b9 (nextB s (a+k))=false) (m:k≤7):digitsN s a=k:=by
 have d:=iO s a;have g:∀ i,i<k→b9 (byteN (s.extract a s.size) i)=true:=fun i j=>by rw [ld (by omega)];exact b i j
 unfold digitsN;rw [if_neg n]
 by_cases e:k=7
 ·have:=AI g (by rw [d];omega) (s.extract a s.size).size 0 (zU) (Nat.zero_add _)
  unfold leadN
  omega
 have c:=f.resolve_left e;have:leadN b9 (s.extract a s.size)=k:=by
  refine i7 g ?_ _ 0 (zU) (Nat.zero_add _)
  by_cases o:a+k=s.size
  ·left;rw [d];omega
  right;rw [ld (by omega)];exact c
 omega
theorem qW (b:nextB s a=48):digitsN s a=1:=by unfold digitsN;rw [if_pos b]
theorem Cv (e:a+k≤s.size) (b:∀ i,i<k→bG (nextB s (a+i))=true) (c:bG (nextB s (a+k))=false):leadN bG (s.extract a s.size)=k:=by
 have d:=iO s a;refine i7 (fun i f=>by rw [ld (by omega)];exact b i f) ?_ _ 0 (zU) (Nat.zero_add _)
 by_cases g:a+k=s.size
 ·left;rw [d];omega
 right;rw [ld (by omega)];exact c
theorem DQ:∀ k,k<7→(10:Int) ^ k≤1000000:=by decide
theorem rz:numW (s.extract a (a+0))=0:=by
 have:(s.extract a (a+0)).size=0:=by rw [ByteArray.size_extract];omega
 rw [xM this]
 rfl
theorem CG (h:a+k<s.size):numW (s.extract a (a+(k+1)))=numW (s.extract a (a+k))*10+(nextB s (a+k)-48):=by
 have e:(s.extract a (a+(k+1))).data.toList=(s.extract a (a+k)).data.toList ++ [s[a+k]]:=by
  apply List.ext_getElem?;intro i;rw [List.getElem?_append];simp only [ByteArray.data_extract,Array.toList_extract,List.extract_eq_take_drop,List.getElem?_take,List.getElem?_drop,List.length_take,List.length_drop,Array.length_toList];have f:s.data.size=s.size:=rfl
  by_cases g:i<k
  ·rw [if_pos (by omega),if_pos (by omega),if_pos (by omega)]
  by_cases b:i=k
  ·subst b
   rw [if_pos (by omega),if_neg (by omega)]
   have c:i-min (a+i-a) (s.data.size-a)=0:=by omega
   rw [c]
   simp [zX (show a+i<s.data.toList.length by simpa using h)]
   rfl
  rw [if_neg (by omega),if_neg (by omega)]
  rw [List.getElem?_eq_none (by simp;omega)]
 unfold numW;rw [e,List.foldl_append];have d:=da s (a+k) h;rw [nextB,if_neg (by omega),←d]
 rfl
end
section
variable {w w4 W w6:World} {base q a a1 m:Nat} {v v':Value} {s wd:ByteArray} {L:List Nd} {x:Nd}
theorem si (a:eL w q s a1 false v) (c:w.ownsRow base 132 5 v m (aS L)) (f:q<base) (b:Bl w W) (d:W.grownBy w6 v.ownBlock):eL w6 q s a1 false v :=
 a.same ((d.block q (zW a.lt b.size) (fun e=>by have:=(aG c e.symm).1;omega)).trans (b.block q a.lt))
theorem zH (g:eL w q s a1 false v) (f:w.ownsRow base 132 5 v m (aS L)) (c:q<base) (h:base≤w.heap.size) (a:Bl w W) (b:W.grownBy w6 v.ownBlock) (i:w6.ownsRow base 132 5 v' (m+1) (aS L ++ de x)) :
  eL (w6.setCell ⟨q,3,none⟩ v') q s a1 false v'∧(w6.setCell ⟨q,3,none⟩ v').ownsRow base 132 5 v' (m+1) (aS (L ++ [x]))∧Kept base (fun j=>j=q) w (w6.setCell ⟨q,3,none⟩ v'):=by
 refine ⟨(si g f c a b).set3 _,gh (by rw [mS];exact i) c,?_⟩
 have d:Kept base (fun j=>j=q) w w6:=⟨b.os.trans a.os,b.tape.trans a.tape,b.output.trans a.output,zV a.size b.size,fun k l _=>(b.block k (by have:=a.size;omega) (fun e=>by have:=(aG f e.symm).1;omega)).trans (a.block k (by omega))⟩
 exact d.trans ff
theorem vh (d:L.length=m) (e:r9 s 3 a a1 (lj wd)) (k:Kept base (fun j=>j=q) w w4) (i:eL w4 q s a1 false v) (l:w4.ownsRow base 132 5 v m (aS L)) (c:q<base) (b:base≤w4.heap.size) (n:Bl w4 W) (o:W.grownBy w6 v.ownBlock) (p:w6.ownsRow base 132 5 v' (m+1) (aS L ++ de (opndN wd))) :
  tE s q base 3 a L w (.returned (.int .i64 (m:Int))) (w6.setCell ⟨q,3,none⟩ v'):=by
 obtain ⟨f,g,h⟩:=zH i l c b n o p;obtain ⟨p1,p2⟩:=rt wd L.length;refine ⟨k.trans h,Or.inl ⟨a1,lj wd,_,by rw [p2,Nat.add_sub_cancel,d],e,I1 _ _,f,?_,by rw [p2];have:=e.1;omega⟩⟩
 rw [p1,List.length_append,d];exact g
end
end Go.Proofs.YtohgnbgamfepoaaGreatDoor
