/- The document's own ans -/
import Derived.Deep.CutBlock
import Derived.Test.YtompdcaikmekkaaGreatDoorJHAO
namespace Go.Proofs.YtompdcaikmekkaaGreatDoor
open ChangeShapes WideShapes ChangeAt RowKit
set_option maxRecDepth 99999
set_option maxHeartbeats 0
theorem yA (A0:Option Addr) (cap n:Nat) (D:Nat→Dm) (A:Nat→Option Addr) (C:Nat→Nat) (w:World) (d:aY w A0 cap n D A C):Rt 43 #[.agg #[.slice A0 n cap]] w (.int .i64 (am D n).2.2):=by
 have a:=aq w A0 n cap 24;have h:=lw A0 cap n D A C (ay w A0 n cap 24) (d.later a);have b:=aa a;clear d a;generalize (am D n).2.2=v at h;generalize (am D n).1=x at h;generalize (am D n).2.1=y at h
 go_enter Tryz.func43,Tryz.ntmps43
 go_wp2_with fail;refine h.mono ?_;rintro e w1 ⟨rfl,c⟩;go_wp2_with fail;go_ret;exact ⟨rfl,ae b.out c⟩
theorem kE (A0:Option Addr) (cap n:Nat) (D:Nat→Dm) (A:Nat→Option Addr) (C:Nat→Nat) (Ap:Option Addr) (K:Nat) (L:List Int) (w:World) (P:(am D n).2.2=0) (N:aY w A0 cap n D A C) (O:a7 w Ap K L):Rt 16 #[.agg #[.slice A0 n cap],.slice Ap L.length K] w (.int .i64 (shapeErr D n L)):=by
 obtain ⟨hn1,hn4,-,R⟩:=au P;have hn':(n:Int)≤4:=by omega
 have V:=aa R;clear R P
 by_cases f:L.length=n
 ·have l:((L.length:Int) == (n:Int))=true:=by simp [f]
  have y:=aa f;obtain ⟨E,M | ⟨bp,op,rfl,B,e⟩⟩:=O
  ·rw [M] at f;simp at f;omega
  obtain ⟨Q,M | ⟨b,o,rfl,r⟩⟩:=N
  ·omega
  rw [f] at l E;rw [f];have U:Hid (∀ j,j<n→w.cell? ⟨bp,op+j,none⟩=some (.int .i64 (L.getD j 0))):=fun j hj=>e j (by omega)
  have z:=aa r;have v:Hid (Bl w (ay w (some ⟨b,o,none⟩) n cap 24)):=aq ..;have W:Hid (∀ w',Below (w.heap.size+1) (ay w (some ⟨b,o,none⟩) n cap 24) w'→w'.cell? ⟨w.heap.size,0,none⟩=some (.slice (some ⟨b,o,none⟩) n cap)):=fun w' I=>aD I (by show w.heap.size<_;omega) (aI ..)
  clear f e r
  go_enter Tryz.func16,Tryz.ntmps16
  go_wp2_with fail
  go_loopg [5] n (fun g s5 wr => ∃ (k:Nat),k≤n∧g=n-k∧s5=.int .i64 k∧findFrom (jU D L) (n-k) k=findFrom (jU D L) n 0∧Below (w.heap.size+1) (ay w (some ⟨b,o,none⟩) n cap 24) wr)
  case atStart=>exact ⟨0,zU,rfl,rfl,rfl,zS⟩
  case round =>
   obtain ⟨k,hk,rfl,rfl,G,d⟩:=hrel;have u:=aa G;have Y:=aa d;have c:Bl w wr:=v.out.trans (d.mono (by omega))
   have h:=aa c
   by_cases p:k<n
   ·have KG:(k:Int)<(n:Int):=by omega
    have i:Hid (n-k=(n-(k+1))+1):=by show _=_;omega
    obtain ⟨-,-,Z,-⟩:=(z.out.later c).2 k p;have F:wr.cell? ⟨bp,op+k,none⟩=some (.int .i64 (L.getD k 0)):=aD c B (U.out k p);have c0:=W.out wr d;have hm:=(V.out k p).2;have a:Hid (jU D L k=(decide (L.getD k 0<0) || decide (((D k).n:Int)≤L.getD k 0))):=rfl;generalize L.getD k 0=x at F a;generalize (D k).n=m at Z hm a;have hm':(m:Int)≤12:=by omega
    clear G d c
    by_cases s:x<0
    ·have q:Hid (jU D L k=true):=by show _=_;rw [a.out,decide_eq_true s];rfl
     go_wp2_with fail
     go_quiet (fail)
     go_wp2_with fail;go_ret;refine ⟨?_,ac h.out _⟩;rw [Kj y.out]
     ·rfl
     rw [←u.out,i.out,bj _ q.out];omega
    have S:0≤x:=by omega
    have J:decide (x<0)=false:=decide_eq_false s
    by_cases t:(m:Int)≤x
    ·have q:Hid (jU D L k=true):=by show _=_;rw [a.out,decide_eq_true t];simp
     go_wp2_with fail
     go_quiet (fail)
     go_wp2_with fail;go_ret;refine ⟨?_,ac h.out _⟩;rw [Kj y.out]
     ·rfl
     rw [←u.out,i.out,bj _ q.out];omega
    have T:x<(m:Int):=by omega
    have q:Hid (jU D L k=false):=by show _=_;rw [a.out,J,decide_eq_false t];rfl
    go_wp2_with fail
    go_quiet (fail)
    go_wp2_with fail
    go_roundg (n-(k+1))
    case measure=>omega
    case rel=>exact ⟨k+1,by omega,rfl,by go_num,by rw [←u.out,i.out,be _ q.out],ac Y.out _⟩
   have H:k=n:=by omega
   subst H;clear G d c;go_wp2_with fail;go_ret;refine ⟨?_,h.out⟩;rw [Kk y.out]
   ·rfl
   rw [←u.out,Nat.sub_self];show ¬ (0:Int)≤-1;decide
 have l:((L.length:Int) == (n:Int))=false:=by simp;omega
 have X:Hid (shapeErr D n L=3):=Kw f;generalize L.length=m at l;clear f N O
 go_enter Tryz.func16,Tryz.ntmps16
 go_wp2_with fail;go_ret;exact ⟨by rw [X.out];rfl,by go_grown⟩
theorem fM (A0:Option Addr) (cap n:Nat) (D:Nat→Dm) (A:Nat→Option Addr) (C:Nat→Nat) (Ap:Option Addr) (M:Nat) (L:List Int) (w:World) (t:InO D n L) (V:aY w A0 cap n D A C) (W:a7 w Ap M L):Rt 8 #[.agg #[.slice A0 n cap],.slice Ap L.length M] w (.int .i64 (numI D L n)):=by
 obtain ⟨KL,KM,-,P⟩:=au t.right;have KK:(n:Int)≤4:=by omega
 have R:=aa P;have s:=aa t;have u:=t.len;obtain ⟨Z,N | ⟨bp,op,rfl,E,e⟩⟩:=W
 ·rw [N] at u;simp at u;omega
 obtain ⟨O,N | ⟨b,o,rfl,l⟩⟩:=V
 ·omega
 rw [u];have Q:Hid (∀ j,j<n→w.cell? ⟨bp,op+j,none⟩=some (.int .i64 (L.getD j 0))):=fun j hj=>e j (by omega)
 have B:=aa l;have v:Hid (Bl w (ay w (some ⟨b,o,none⟩) n cap 24)):=aq ..;have S:Hid (∀ w',Below (w.heap.size+1) (ay w (some ⟨b,o,none⟩) n cap 24) w'→w'.cell? ⟨w.heap.size,0,none⟩=some (.slice (some ⟨b,o,none⟩) n cap)):=fun w' J=>aD J (by show w.heap.size<_;omega) (aI ..)
 clear u e l P t
 go_enter Tryz.func8,Tryz.ntmps8
 go_wp2_with fail
 go_loopg [5,6] n (fun g s5 s6 wr => ∃ (k:Nat),k≤n∧g=n-k∧s6=.int .i64 k∧s5=.int .i64 (numI D L k)∧Below (w.heap.size+1) (ay w (some ⟨b,o,none⟩) n cap 24) wr)
 case atStart=>exact ⟨0,zU,rfl,rfl,rfl,zS⟩
 case round =>
  obtain ⟨k,hk,rfl,rfl,rfl,c⟩:=hrel;have T:=aa c;have a:Bl w wr:=v.out.trans (c.mono (by omega))
  have z:=aa a
  by_cases f:k<n
  ·have KG:(k:Int)<(n:Int):=by omega
   obtain ⟨-,-,U,-⟩:=(B.out.later a).2 k f;have F:wr.cell? ⟨bp,op+k,none⟩=some (.int .i64 (L.getD k 0)):=aD a E (Q.out k f);have c0:=S.out wr c;obtain ⟨h,d,X⟩:=ba s.out (k:=k+1) (by omega)
   obtain ⟨p,q,Y⟩:=ba s.out (k:=k) (by omega)
   have K:=s.out.lo k f;have r:=s.out.hi k f;obtain ⟨G,H⟩:=R.out k f;have i:Hid (numI D L (k+1)=numI D L k*((D k).n:Int)+L.getD k 0):=rfl;rw [i.out] at h d;generalize L.getD k 0=x at F h d K r i;generalize (D k).n=m at U h d G H r i;generalize numI D L k=y at h d p q i;have KH:0≤y*(m:Int):=Int.mul_nonneg p (by omega)
   have KI:y*(m:Int)≤20736:=by omega
   have KJ:y*(m:Int)+x≤20736:=by omega
   clear c a d q;go_wp2_with fail
   go_quiet (fail)
   go_wp2_with fail
   go_roundg (n-(k+1))
   case measure=>omega
   case rel=>exact ⟨k+1,by omega,rfl,by go_num,by rw [i.out],ac T.out _⟩
  have I:k=n:=by omega
  subst I;clear c a;go_wp2_with fail;go_ret;exact ⟨rfl,z.out⟩
theorem jv (A0:Option Addr) (cap n:Nat) (D:Nat→Dm) (A:Nat→Option Addr) (C:Nat→Nat) (Ap:Option Addr) (Q:Nat) (L:List Int) (w:World) (s:InO D n L) (hM:aY w A0 cap n D A C) (hP:a7 w Ap Q L):Rt 44 #[.agg #[.slice A0 n cap],.slice Ap L.length Q] w (.bool (leafV D n L)):=by
 obtain ⟨hn1,hn4,-,T⟩:=au s.right;have hn':(n:Int)≤4:=by omega
 have V:=aa T;have P:=aa s;have HV:Hid (leafV D n L = !decide (0≤findFrom (dZ D L) n 0)):=by show _=_;unfold leafV;rw [if_pos s.ok]
 have v:=s.len;obtain ⟨hcp,E | ⟨bp,op,rfl,G,f⟩⟩:=hP
 ·rw [E] at v;simp at v;omega
 obtain ⟨S,E | ⟨b,o,rfl,u⟩⟩:=hM
 ·omega
 rw [v];have U:Hid (∀ j,j<n→w.cell? ⟨bp,op+j,none⟩=some (.int .i64 (L.getD j 0))):=fun j hj=>f j (by omega)
 have z:=aa u;have x:Hid (Bl w (ay w (some ⟨b,o,none⟩) n cap 24)):=aq ..;have W:Hid (∀ w',Below (w.heap.size+1) (ay w (some ⟨b,o,none⟩) n cap 24) w'→w'.cell? ⟨w.heap.size,0,none⟩=some (.slice (some ⟨b,o,none⟩) n cap)):=fun w' p=>aD p (by show w.heap.size<_;omega) (aI ..)
 have hS0:=aw w (some ⟨b,o,none⟩) n cap 24;clear v f u T s
 go_enter Tryz.func44,Tryz.ntmps44
 go_wp2_with fail
 go_loopg [5,6] n (fun g s5 s6 wr => ∃ (k:Nat),k≤n∧g=n-k∧s5=.int .i64 k∧findFrom (dZ D L) (n-k) k=findFrom (dZ D L) n 0∧Below (w.heap.size+1) (ay w (some ⟨b,o,none⟩) n cap 24) wr)
 case atStart=>exact ⟨0,zU,rfl,rfl,rfl,zS⟩
 case round =>
  obtain ⟨k,hk,rfl,rfl,J,a⟩:=hrel;have y:=aa J;have Y:=aa a;have c:Bl w wr:=x.out.trans (a.mono (by omega))
  have q:=aa c
  by_cases h:k<n
  ·have hki:(k:Int)<(n:Int):=by omega
   have r:Hid (n-k=(n-(k+1))+1):=by show _=_;omega
   obtain ⟨E,h1,Z,h4⟩:=(z.out.later c).2 k h;have N:=P.out.lo k h;have K:=P.out.hi k h;obtain ⟨X,F⟩:∃ X:Nat,L.getD k 0=X:=⟨(L.getD k 0).toNat,by omega⟩
   have H:wr.cell? ⟨bp,op+k,none⟩=some (.int .i64 (L.getD k 0)):=aD c G (U.out k h);have l:Hid (dZ D L k = !leafB (D k).mem (D k).n X):=by show _=_;unfold dZ;rw [F];rfl
   rw [F] at H N K;have c0:=W.out wr a;have O:w.heap.size+1≤wr.heap.size:=by have:=a.size;omega
   obtain ⟨hd1,I⟩:=V.out k h;obtain ⟨hcm,h5 | ⟨b',o',R,t⟩⟩:=h4
   ·omega
   rw [R] at Z;have i:Hid (∀ w',Bl wr w'→Rt 85 #[.agg #[.string (D k).name,.int .i64 (D k).solve,.slice (some ⟨b',o',none⟩) (D k).n (C k)],.int .i64 X] w' (.bool (leafB (D k).mem (D k).n X))):=fun w' p=>rF (D k) b' o' (C k) X w' I (by omega) (t.later p)
   clear J a c F t R;cases hb:leafB (D k).mem (D k).n X
   ·rw [hb] at i l
    have B:=aa l.out;clear hb;go_wp2_with fail
    go_region_law ((go_simp;refine (i.out _ (by go_grown)).mono ?_;rintro e w2 ⟨rfl,d⟩;have m:=ae (W0:=wr) (by go_grown) d;clear d))
    all_goals go_wp2_with fail
    all_goals go_ret
    all_goals refine ⟨?_,ae q.out m⟩
    all_goals rw [HV.out,←y.out,r.out,bj _ B.out,decide_eq_true (by omega)]
    all_goals rfl
   rw [hb] at i l;have B:=aa l.out;clear hb;go_wp2_with fail
   go_region_law ((go_simp;refine (i.out _ (by go_grown)).mono ?_;rintro e w2 ⟨rfl,d⟩;have m:=ae (W0:=wr) (by go_grown) d;clear d))
   all_goals go_wp2_with fail
   all_goals go_roundg (n-(k+1))
   all_goals first | omega | exact ⟨k+1,by omega,rfl,by go_num,by rw [←y.out,r.out,be _ B.out],Y.out.trans (m.mono O)⟩
  have M:k=n:=by omega
  subst M;clear J a c;go_wp2_with fail;go_ret;refine ⟨?_,q.out⟩;rw [HV.out,←y.out,Nat.sub_self]
  rfl
theorem AM (A0:Option Addr) (cap n:Nat) (D:Nat→Dm) (A:Nat→Option Addr) (C:Nat→Nat) (X:Nat) (w:World) (U:(am D n).2.2=0) (hX:X<prodN D n) (hM:aY w A0 cap n D A C):Calls Tryz.prog 30 #[.agg #[.slice A0 n cap],.int .i64 X] w fun e w'=>(∃ A' c',e=.returned (.slice A' (aj D n X).length c')∧a7 w' A' c' (aj D n X))∧Bl w w':=by
 obtain ⟨hn1,hn4,N,W⟩:=au U;have HD:=aa W;have hn':(n:Int)≤4:=by omega
 have Z:(1:Int)≤(n:Int):=by omega
 have hX3:X≤3000:=by omega
 have M:=run_make_row' (P:=Tryz.prog) 27 3 (.int .i64 0) 8 Tryz.underlying27 Tryz.infoIntP rfl .i64 .i64 n (by omega) (by omega)
 obtain ⟨V,h0 | ⟨b,o,rfl,x⟩⟩:=hM
 ·omega
 obtain ⟨w1,a⟩:∃ w1,w1=ay w (some ⟨b,o,none⟩) n cap 24:=⟨_,rfl⟩;have p:Bl w w1:=by rw [a];exact aq ..
 have T:w1.cell? ⟨w.heap.size,0,none⟩=some (.slice (some ⟨b,o,none⟩) n cap):=by rw [a];exact aI ..
 have z:w1.heap.size=w.heap.size+1:=by rw [a];exact aw ..
 have G:=aa (x.later p);have F:=aa p;have H2:=aa T;have c:=aa z;have u:=aa a;have h:Hid (eq (w1.alloc (.cells (madeCells #[.int .i64 0] n) 3)) w1.heap.size (jl D n X 0)):=by show eq _ _ _;rw [BE];exact eq.made w1 n
 have f:Hid (Bl w1 (w1.alloc (.cells (madeCells #[.int .i64 0] n) 3))):=by show Below _ _ _;go_grown
 rw [a] at h f;unfold ay at h f;clear W x p T z a hX N U
 go_enter Tryz.func30,Tryz.ntmps30
 go_wp2_with fail;clear M
 go_loopg [1,6,7] n (fun g s1 s6 s7 wr => ∃ (r:Nat),r≤n∧g=n-r∧s6=.int .i64 ((n:Int)-1-r)∧s1=.int .i64 (restAt D n X r)∧eq wr w1.heap.size (jl D n X r)∧Bl w1 wr)
 case atStart=>exact ⟨0,zU,rfl,by simp,rfl,by rw [u.out];exact h.out,by rw [u.out];exact f.out⟩
 case round =>
  obtain ⟨r,hr,rfl,rfl,rfl,v,d⟩:=hrel;have Q:=aa v;have t:=aa d
  by_cases L:r<n
  ·obtain ⟨k,B⟩:∃ k:Nat,k=n-1-r:=⟨_,rfl⟩
   have y:(n:Int)-1-(r:Int)=(k:Int):=by omega
   rw [y];have HK:=aa B;have q:k<n:=by omega
   obtain ⟨-,-,h3,-⟩:=(G.out.later d).2 k q;have c2:wr.cell? ⟨w.heap.size,0,none⟩=some (.slice (some ⟨b,o,none⟩) n cap):=aD d (by show w.heap.size<_;rw [c.out];omega) H2.out
   have Y:(k:Int)<(n:Int):=by omega
   have S:=v.cell (j:=k) (by rw [Eu];exact q)
   have c5:=v.frozen k;rw [c.out] at S c5;obtain ⟨H,I⟩:=HD.out k q;have s:=C6 D n X r;have i:Hid (restAt D n X (r+1)=restAt D n X r / (D k).n):=by show _=_;rw [restAt,B]
   have l:Hid (bA D n X k=restAt D n X r % (D k).n):=by show _=_;rw [bA,show n-1-k=r by omega]
   have HS:Hid ((jl D n X r).set k (bA D n X k:Int)=jl D n X (r+1)):=by show _=_;rw [B];exact Ev D n X r L
   generalize (jl D n X r).getD k 0=old at S;generalize restAt D n X r=R at i l s;generalize hm:(D k).n=m at h3 H I i l;have hm1:(1:Int)≤(m:Int):=by omega
   have hm2:(m:Int)≤12:=by omega
   have hRR:(R:Int)≤3000:=by omega
   have hR0:(0:Int)≤(R:Int):=by omega
   have hm0:((m:Int) == 0)=false:=by simp;omega
   clear v d B y hm;go_wp2_with fail
   go_roundg (n-(r+1))
   case measure=>omega
   case rel =>
    have J:=Nat.div_le_self R m;have hw:wrap64 ((R:Int) / (m:Int))=((R / m:Nat):Int):=by
     rw [←Int.natCast_ediv];exact zh (zV J (by omega))
    refine ⟨r+1,by omega,rfl,?_,?_,?_,t.out.setCell (by show w1.heap.size≤w.heap.size+1;rw [c.out];exact zT) _⟩
    ·have:=HK.out
     congr 1
     omega
    ·rw [hw,i.out]
    have O:=Q.out.set k (bA D n X k:Int);rw [HS.out,l.out,Int.natCast_emod] at O;rw [c.out] at O ⊢;exact O
  have s:r=n:=by omega
  subst s;have K:(r:Int)-1-(r:Int) = -1:=by omega
  rw [K];clear v d;go_wp2_with fail;go_ret;have E:=Q.out.pl;rw [Et] at E;rw [placeL_len] at E ⊢;rw [c.out] at E;exact ⟨⟨_,_,rfl,E⟩,ae F.out t.out⟩
def k8 (w:ByteArray):Tre:=if 97≤byteN w 0∧byteN w 0≤122 then .ref w else .num (numW w)
theorem rm (w:ByteArray) (k:Nat):post (k8 w) k=[opndN w]∧sizT (k8 w)=1:=by
 unfold k8 opndN
 split
 ·exact ⟨rfl,rfl⟩
 exact ⟨rfl,rfl⟩
inductive Spl:Nat→Tre→List ByteArray→Prop
 | word (w:ByteArray):48≤byteN w 0→Spl 3 (k8 w) [w]
 | brk (t:Tre) (ws:List ByteArray):Spl 1 t ws→Spl 3 t ([⟨#[40]⟩] ++ ws ++ [⟨#[41]⟩])
 | up (k:Nat) (t:Tre) (ws:List ByteArray):1≤k→k≤2→Spl (k+1) t ws→Spl k t ws
 | bin (k:Nat) (o:Int) (a c:Tre) (wa wc:List ByteArray):3≤o→o≤6→bindN o=(k:Int)→Spl k a wa→Spl (k+1) c wc→Spl k (.bin o a c) (wa ++ [Ir o] ++ wc)
theorem Ge {k:Nat} {t:Tre} {ws:List ByteArray} (h:Spl k t ws):∀ (b:Bld),IE b (k:Int)→∀ least:Int,least≤k→settleB least (ws.foldl takeB b)=settleB least (dJ t b):=by
 induction h with
 | word w hw =>
  intro b _ least _
  show settleB least (takeB b w)=_
  rw [fP hw];obtain ⟨f,g⟩:=rm w b.nodes.length;unfold dJ jS;rw [f,g]
  rfl
 | brk t ws _ ih =>
  intro b _ least _;have:=Gh (l:=ws) (t:=t) (b:=b) (ih _ (ux _ _ _ _) 0 (by omega))
  rw [JG,if_pos rfl] at this;rw [this]
 | up k t ws h1 h2 _ ih =>
  intro b e least d;exact ih b (e.up (by omega)) least (by omega)
 | bin k o a c wa wc h1 h2 h3 _ _ iha ihc =>
  intro b e least d;have f:settleB (bindN o) (wa.foldl takeB b)=dJ a b:=by
   rw [h3,iha b e k (Int.le_refl _)];exact kH (uy a e)
  rw [List.foldl_append,List.foldl_append]
  show settleB least (wc.foldl takeB (takeB (wa.foldl takeB b) (Ir o)))=_
  rw [Dv _ ⟨h1,h2⟩,f,ihc ⟨(dJ a b).nodes,(dJ a b).ready,(dJ a b).waiting ++ [o]⟩ (Or.inr ⟨_,o,rfl,Or.inr (by rw [h3];omega)⟩) least (by omega)]
  show settleB least ⟨(dJ c ⟨(dJ a b).nodes,(dJ a b).ready,b.waiting ++ [o]⟩).nodes,(dJ c ⟨(dJ a b).nodes,(dJ a b).ready,b.waiting ++ [o]⟩).ready,b.waiting ++ [o]⟩=_
  rw [yK (by omega) (by rw [h3];exact d),B7]
def rU (s:ByteArray) (k a a':Nat) (t:Tre):Prop:=a<a'∧a'≤s.size∧∃ ws,Spl k t ws∧∀ r:Rd Bld,r.at'=a→cA s takeB false r=cA s takeB true ⟨a',r.opn,ws.foldl takeB r.st⟩
def DQ (s:ByteArray) (a a':Nat):Prop:=a≤a'∧a'≤s.size∧∀ r:Rd Bld,r.at'=a→∃ o st,cA s takeB false r=(⟨a',o,st⟩,false)
def qh (s:ByteArray) (k a:Nat):Prop:=a<s.size→signI (nextB s a)<0∨bindN (3+signI (nextB s a))<(k:Int)
section
variable {s:ByteArray} {k a a1 a2 a':Nat} {t u:Tre}
theorem gG {n:Nat} (b:a<s.size) (c:1≤n):byteN (s.extract a (a+n)) 0=nextB s a:=by
 rw [fl (by omega),nextB,if_neg (by omega),Nat.add_zero]
theorem Ic (b:a≤s.size) (h:b8 (nextB s a)=true):rU s 3 a (a+digitsN s a) (k8 (s.extract a (a+digitsN s a))):=by
 obtain ⟨d,e⟩:=kO b h;obtain ⟨i,j⟩:=kP (o:=0) b h;refine ⟨by omega,e,[s.extract a (a+digitsN s a)],Spl.word _ ?_,fun r c=>?_⟩
 ·have f:=gG (by omega:a<s.size) d
  rw [f];unfold b8 at h
  simp at h
  omega
 have g:=zD (tk:=takeB) (r:=r) (by rw [c];exact b) (by rw [c];exact h)
 rw [g,wordR,c]
 rfl
theorem Id (c:a≤s.size) (h:bD (nextB s a)=true):rU s 3 a (a+leadN bD (s.extract a s.size)) (k8 (s.extract a (a+leadN bD (s.extract a s.size)))):=by
 obtain ⟨d,e⟩:=k9 c h;refine ⟨by omega,e,[s.extract a (a+leadN bD (s.extract a s.size))],Spl.word _ ?_,fun r b=>?_⟩
 ·have f:=gG (by omega:a<s.size) d
  rw [f];unfold bD at h
  simp at h
  omega
 have g:=zE (tk:=takeB) (r:=r) (by rw [b];exact c) (by rw [b];exact h)
 rw [g,wordR,b]
 rfl
theorem iu (g:a<s.size) (c:UInt8) (h:nextB s a=(c.toNat:Int)):s.extract a (a+1)=⟨#[c]⟩:=by
 have k:=dK (s:=s) (a:=a) (n:=1) (by omega)
 have d:=gG (n:=1) g (by omega)
 rw [h] at d;apply ByteArray.ext;apply Array.ext
 ·exact k
 intro i b f;have j:i=0:=by simp at f;omega
 subst j;have e:byteN (s.extract a (a+1)) 0=(((s.extract a (a+1)).data[0]'b).toNat:Int):=by
  unfold byteN;rw [List.getD,zX (by rw [Array.length_toList];exact b)]
  rfl
 rw [e] at d;have:((s.extract a (a+1)).data[0]'b).toNat=c.toNat:=by omega
 simpa using UInt8.toNat_inj.1 this
theorem Ib (i:a≤s.size) (b:nextB s a=40) (h:rU s 1 (a+1) a1 t) (c:nextB s a1=41):rU s 3 a (a1+1) t:=by
 obtain ⟨o,g,ws,m,n⟩:=h;have f:a<s.size:=cD (by rw [b];decide) i
 have d:a1<s.size:=cD (by rw [c];decide) g
 refine ⟨by omega,by omega,_,Spl.brk t ws m,fun r e=>?_⟩
 have j:=kW (tk:=takeB) (r:=r) (by rw [e];exact i) (by rw [e];exact b)
 have k:=n (wordR s takeB 1 ⟨r.at',r.opn+1,r.st⟩) (by rw [wordR,e])
 have l:=qV (tk:=takeB) (r:=⟨a1,(wordR s takeB 1 ⟨r.at',r.opn+1,r.st⟩).opn,ws.foldl takeB (wordR s takeB 1 ⟨r.at',r.opn+1,r.st⟩).st⟩) g ⟨by show 0<r.opn+1;omega,c⟩
 rw [j,k,l];unfold wordR;simp only;rw [e,iu f 40 (by rw [b];rfl),iu d 41 (by rw [c];rfl),List.foldl_append,List.foldl_append]
 rfl
theorem Jd (b:1≤k) (c:k≤2) (h:rU s (k+1) a a' t):rU s k a a' t:=by
 obtain ⟨g1,g2,ws,g3,g4⟩:=h;exact ⟨g1,g2,ws,Spl.up k t ws b c g3,g4⟩
theorem sgn_four {c:Int} (h : ¬ signI c<0):(c=43∧signI c=0)∨(c=45∧signI c=1)∨(c=42∧signI c=2)∨(c=47∧signI c=3):=by
 unfold signI at *
 by_cases a:c=43
 ·left;exact ⟨a,by rw [if_pos a]⟩
 by_cases b:c=45
 ·right;left;exact ⟨b,by rw [if_neg a,if_pos b]⟩
 by_cases d:c=42
 ·right;right;left;exact ⟨d,by rw [if_neg a,if_neg b,if_pos d]⟩
 by_cases e:c=47
 ·right;right;right;exact ⟨e,by rw [if_neg a,if_neg b,if_neg d,if_pos e]⟩
 rw [if_neg a,if_neg b,if_neg d,if_neg e] at h;omega
theorem rH (b:a<s.size) (h : ¬ signI (nextB s a)<0):s.extract a (a+1)=Ir (3+signI (nextB s a))∧3≤3+signI (nextB s a)∧3+signI (nextB s a)≤6∧nextB s a≠41:=by
 rcases sgn_four h with ⟨e,c⟩ | ⟨e,c⟩ | ⟨e,c⟩ | ⟨e,c⟩
 ·rw [c,iu b 43 (by rw [e];rfl),e];exact ⟨rfl,by omega,by omega,by omega⟩
 ·rw [c,iu b 45 (by rw [e];rfl),e];exact ⟨rfl,by omega,by omega,by omega⟩
 ·rw [c,iu b 42 (by rw [e];rfl),e];exact ⟨rfl,by omega,by omega,by omega⟩
 rw [c,iu b 47 (by rw [e];rfl),e];exact ⟨rfl,by omega,by omega,by omega⟩
theorem Ia (h:rU s k a a1 t) (b:a1<s.size) (c : ¬ signI (nextB s a1)<0) (m:bindN (3+signI (nextB s a1))=(k:Int)) (l:rU s (k+1) (a1+1) a2 u):rU s k a a2 (.bin (3+signI (nextB s a1)) t u):=by
 obtain ⟨g1,g2,ws,g3,g4⟩:=h;obtain ⟨o,g,vs,i,j⟩:=l;obtain ⟨w1,w2,w3,w4⟩:=rH b c;refine ⟨by omega,g,_,Spl.bin k _ t u ws vs w2 w3 m g3 i,fun r n=>?_⟩
 have d:=oF (tk:=takeB) (r:=⟨a1,r.opn,ws.foldl takeB r.st⟩) (fun e=>w4 e.2) b c
 have f:=j (wordR s takeB 1 ⟨a1,r.opn,ws.foldl takeB r.st⟩) rfl;rw [g4 r n,d,f];unfold wordR;simp only;rw [w1,List.foldl_append,List.foldl_append]
 rfl
/-! where it goes wrong -/
theorem EI (e:a≤s.size) (h:nextB s a≠40) (c:b8 (nextB s a)=false) (d:bD (nextB s a)=false):DQ s a a :=
 ⟨zT,e,fun r b=>⟨r.opn,r.st,by rw [tX (by rw [b];exact h) (by rw [b];exact c) (by rw [b];exact d),←b]⟩⟩
theorem EJ (f:a≤s.size) (b:nextB s a=40) (h:DQ s (a+1) a'):DQ s a a':=by
 obtain ⟨g,d,e⟩:=h;refine ⟨by omega,d,fun r c=>?_⟩
 rw [kW (by rw [c];exact f) (by rw [c];exact b)]
 exact e _ (by rw [wordR,c])
theorem EK (j:a≤s.size) (d:nextB s a=40) (h:rU s 1 (a+1) a1 t) (k:qh s 1 a1) (c:nextB s a1≠41):DQ s a a1:=by
 obtain ⟨m,g,ws,n,i⟩:=h;refine ⟨by omega,g,fun r f=>?_⟩
 rw [kW (tk:=takeB) (r:=r) (by rw [f];exact j) (by rw [f];exact d),i _ (by rw [wordR,f])]
 by_cases b:a1<s.size
 ·have l:signI (nextB s a1)<0:=by
   rcases k b with h | h
   ·exact h
   have:=nZ (3+signI (nextB s a1));omega
  rw [sj (fun e=>c e.2) b l]
  exact ⟨_,_,rfl⟩
 rw [ns (fun e=>c e.2) b]
 refine ⟨(wordR s takeB 1 ⟨r.at',r.opn+1,r.st⟩).opn,ws.foldl takeB (wordR s takeB 1 ⟨r.at',r.opn+1,r.st⟩).st,?_⟩;rw [decide_eq_false (show ¬ (wordR s takeB 1 ⟨r.at',r.opn+1,r.st⟩).opn=0 by show ¬ r.opn+1=0;omega)]
theorem EL (h:rU s k a a1 t) (b:a1<s.size) (c : ¬ signI (nextB s a1)<0) (g:DQ s (a1+1) a2):DQ s a a2:=by
 obtain ⟨g1,g2,ws,g3,g4⟩:=h;obtain ⟨j,d,f⟩:=g;obtain ⟨w1,w2,w3,w4⟩:=rH b c;refine ⟨by omega,d,fun r i=>?_⟩
 rw [g4 r i,oF (tk:=takeB) (r:=⟨a1,r.opn,ws.foldl takeB r.st⟩) (fun e=>w4 e.2) b c]
 exact f _ rfl
end
/-! all of a text -/
section
variable {s:ByteArray} {a':Nat} {t:Tre}
theorem FY (h:rU s 1 0 s.size t):(dI s).2=true∧eD s=post t 0:=by
 obtain ⟨d,f,ws,a,c⟩:=h;have e:dI s=(⟨s.size,0,ws.foldl takeB noB⟩,true):=by
  unfold dI;rw [kp (r:=⟨0,0,noB⟩) (zU),c ⟨0,0,noB⟩ rfl,ns (fun e=>absurd e.1 (Nat.lt_irrefl 0)) (Nat.lt_irrefl _)]
  rfl
 refine ⟨by rw [e],?_⟩
 unfold eD;rw [e]
 show (settleB 0 (ws.foldl takeB noB)).nodes=_
 rw [Ge a noB (Or.inl rfl) 0 (by omega)]
 rw [kH (b:=dJ t noB) (Or.inl rfl)]
 show [] ++ post t 0=_
 rfl
theorem CQ (h:rU s 1 0 a' t) (c:qh s 1 a') (a:a'<s.size):(dI s).2=false∧(dI s).1.at'=a':=by
 obtain ⟨f,g,ws,i,b⟩:=h;have d:signI (nextB s a')<0:=by
  rcases c a with h | h
  ·exact h
  have:=nZ (3+signI (nextB s a'));omega
 have e:dI s=(⟨a',0,ws.foldl takeB noB⟩,false):=by
  unfold dI;rw [kp (r:=⟨0,0,noB⟩) (zU),b ⟨0,0,noB⟩ rfl,sj (fun e=>absurd e.1 (Nat.lt_irrefl 0)) a d]
 rw [e];exact ⟨rfl,rfl⟩
theorem FZ (h:DQ s 0 a'):(dI s).2=false∧(dI s).1.at'=a':=by
 obtain ⟨c,d,b⟩:=h;obtain ⟨o,st,e⟩:=b ⟨0,0,noB⟩ rfl;have a:dI s=(⟨a',o,st⟩,false):=by
  unfold dI;rw [kp (r:=⟨0,0,noB⟩) (zU),e]
 rw [a];exact ⟨rfl,rfl⟩
end
def eJ (w:World) (q:Nat) (s:ByteArray) (a:Nat) (bad:Bool) (v:Value):Prop:=w.heap[q]?=some (.cells #[.string s,.int .i64 a,.bool bad,v] 184 (0,0))
section
variable {w w':World} {q a:Nat} {s:ByteArray} {bad:Bool} {v:Value}
theorem eJ.lt (h:eJ w q s a bad v):q<w.heap.size:=(zY h).1
theorem eJ.c0 (h:eJ w q s a bad v):w.cell? ⟨q,0,none⟩=some (.string s):=by unfold eJ at h;simp [World.cell?,h]
theorem eJ.c1 (h:eJ w q s a bad v):w.cell? ⟨q,1,none⟩=some (.int .i64 a):=by unfold eJ at h;simp [World.cell?,h]
theorem eJ.c2 (h:eJ w q s a bad v):w.cell? ⟨q,2,none⟩=some (.bool bad):=by unfold eJ at h;simp [World.cell?,h]
theorem eJ.c3 (h:eJ w q s a bad v):w.cell? ⟨q,3,none⟩=some v:=by unfold eJ at h;simp [World.cell?,h]
theorem eJ.fr (h:eJ w q s a bad v) (j:Nat):w.frozen? ⟨q,j,none⟩=false:=by unfold eJ at h;simp [World.frozen?,h]
theorem eJ.later (h:eJ w q s a bad v) (b:Bl w w'):eJ w' q s a bad v:=(b.block q h.lt).trans h
theorem eJ.same (h:eJ w q s a bad v) (b:w'.heap[q]?=w.heap[q]?):eJ w' q s a bad v:=b.trans h
theorem eJ.set1 (h:eJ w q s a bad v) (n:Nat):eJ (w.setCell ⟨q,1,none⟩ (.int .i64 n)) q s n bad v:=by
 unfold eJ at *;rw [setCell_eq_setRow w q 1 _ _ (0,0) _ h,setRow_heap w q _ _ _ _ h]
 rfl
theorem eJ.set2 (h:eJ w q s a bad v) (b:Bool):eJ (w.setCell ⟨q,2,none⟩ (.bool b)) q s a b v:=by
 unfold eJ at *;rw [setCell_eq_setRow w q 2 _ _ (0,0) _ h,setRow_heap w q _ _ _ _ h]
 rfl
theorem eJ.set3 (h:eJ w q s a bad v) (u:Value):eJ (w.setCell ⟨q,3,none⟩ u) q s a bad u:=by
 unfold eJ at *;rw [setCell_eq_setRow w q 3 _ _ (0,0) _ h,setRow_heap w q _ _ _ _ h]
 rfl
end
theorem IX (q a:Nat) (s:ByteArray) (v:Value) (lo c:Int) (w:World) (b:eJ w q s a true v):Rt 160 #[.pointer (some ⟨q,0,none⟩),.int .u8 lo,.int .u8 c] w (.bool false):=by
 have c0:=b.c0;have c1:=b.c1;have c2:=b.c2;have d:=b.lt;clear b
 go_enter Tryz.func160,Tryz.ntmps160
 go_wp2_with fail
 go_quiet (fail)
 go_wp2_with fail;go_ret;exact ⟨rfl,ac (zS) _⟩
theorem fW (q a:Nat) (s:ByteArray) (v:Value) (lo h:Int) (w:World) (n:0<lo) (m:a≤s.size) (b:eJ w q s a false v):Rt 160 #[.pointer (some ⟨q,0,none⟩),.int .u8 lo,.int .u8 h] w (.bool (decide (lo≤nextB s a) && decide (nextB s a≤h))):=by
 have c0:=b.c0;have c1:=b.c1;have c2:=b.c2;have o:=b.lt;clear b
 by_cases g:a=s.size
 ·subst g
  have d:nextB s s.size=0:=by simp [nextB]
  rw [d,decide_eq_false (by omega),Bool.false_and]
  go_enter Tryz.func160,Tryz.ntmps160
  go_wp2_with fail
  go_quiet (fail)
  go_wp2_with fail;go_ret;exact ⟨rfl,ac (zS) _⟩
 have f:a<s.size:=by omega
 have i:(a:Int)<(s.size:Int):=by omega
 have d:nextB s a=byteN s a:=by simp [nextB,g]
 have j:=cY s a f;rw [d]
 by_cases c:lo≤byteN s a
 ·rw [decide_eq_true c,Bool.true_and]
  go_enter Tryz.func160,Tryz.ntmps160
  go_wp2_with fail
  go_quiet (fail)
  go_wp2_with fail;go_ret;exact ⟨by first | rfl | simp,ac (zS) _⟩
 rw [decide_eq_false c,Bool.false_and];have e:byteN s a<lo:=by omega
 have k:decide (lo≤byteN s a)=false:=decide_eq_false c;have l:decide (byteN s a<lo)=true:=decide_eq_true e;clear c
 go_enter Tryz.func160,Tryz.ntmps160
 go_wp2_with fail
 go_quiet (fail)
 go_wp2_with fail;go_ret;exact ⟨rfl,ac (zS) _⟩
theorem FV (op:Int) (w:World):Rt 135 #[.int .i64 op] w (.int .i64 (bindN op)):=by
 unfold bindN
 by_cases a:op=3
 ·subst a
  go_enter Tryz.func135,Tryz.ntmps135
  go_wp2;go_ret;exact ⟨by simp,by go_grown⟩
 by_cases b:op=4
 ·subst b
  go_enter Tryz.func135,Tryz.ntmps135
  go_wp2;go_ret;exact ⟨by simp,by go_grown⟩
 by_cases c:op=5
 ·subst c
  go_enter Tryz.func135,Tryz.ntmps135
  go_wp2;go_ret;exact ⟨by simp,by go_grown⟩
 by_cases d:op=6
 ·subst d
  go_enter Tryz.func135,Tryz.ntmps135
  go_wp2;go_ret;exact ⟨by simp,by go_grown⟩
 rw [if_neg (by omega),if_neg (by omega)]
 have e:(op == 3)=false:=by simpa using a
 have f:(op == 4)=false:=by simpa using b
 have g:(op == 5)=false:=by simpa using c
 have h:(op == 6)=false:=by simpa using d
 clear a b c d
 go_enter Tryz.func135,Tryz.ntmps135
 go_wp2;go_ret;exact ⟨rfl,by go_grown⟩
def tt (s:ByteArray) (q base k a:Nat) (L:List Nd) (w:World) (e:Ending) (w':World):Prop :=
 Kept base (fun j=>j=q) w w'∧((∃ (a':Nat) (t:Tre) (v':Value),e=.returned (.int .i64 ((L.length+sizT t-1:Nat):Int))∧rU s k a a' t∧qh s k a'∧eJ w' q s a' false v'∧w'.ownsRow base 131 5 v' (L ++ post t L.length).length (aS (L ++ post t L.length))∧a+sizT t≤a')
  ∨ (∃ (i:Int) (a':Nat) (v':Value) (L':List Nd),e=.returned (.int .i64 i)∧DQ s a a'∧eJ w' q s a' true v'∧w'.ownsRow base 131 5 v' L'.length (aS L')))
def nW (s:ByteArray) (q base k a:Nat):Prop := ∀ (v:Value) (L:List Nd) (w:World),eJ w q s a false v→q<base→base≤w.heap.size→w.ownsRow base 131 5 v L.length (aS L)→L.length≤a→Calls Tryz.prog 101 #[.pointer (some ⟨q,0,none⟩),.int .i64 k] w fun e w'=>tt s q base k a L w e w'
def GJ (s:ByteArray) (q base a:Nat):Prop := ∀ (v:Value) (L:List Nd) (w:World),eJ w q s a false v→q<base→base≤w.heap.size→w.ownsRow base 131 5 v L.length (aS L)→L.length≤a→Calls Tryz.prog 134 #[.pointer (some ⟨q,0,none⟩)] w fun e w'=>tt s q base 3 a L w e w'
theorem IJ (s:ByteArray) (a:Nat):qh s 3 a:=fun _=>by
 by_cases h:signI (nextB s a)<0
 ·exact Or.inl h
 right
 rcases sgn_four h with ⟨-,e⟩ | ⟨-,e⟩ | ⟨-,e⟩ | ⟨-,e⟩ <;> rw [e] <;> decide
theorem eZ {N:Nat} {q j:Nat} {w:World} {v:Value}:Kept N (fun i=>i=q) w (w.setCell ⟨q,j,none⟩ v) :=
 ⟨rfl,rfl,rfl,by simp,fun k _ a=>av w q j k v a⟩
theorem ge {w:World} {base q j:Nat} {v u:Value} {n:Nat} {xs:List Value} {e size:Nat} (h:w.ownsRow base e size v n xs) (b:q<base):(w.setCell ⟨q,j,none⟩ u).ownsRow base e size v n xs :=
 bR h fun g a=>av _ _ _ _ _ (by have:=(aH h a).1;omega)
theorem zP {p:Int→Bool} {t:ByteArray} {m:Nat} (b:∀ i,i<m→p (byteN t i)=true) (c:m≤t.size):∀ (f i:Nat),i≤m→i+f=t.size→m≤leadTo p t f i
 | 0,i,hi,hf=>by rw [leadTo];omega
 | f+1,i,hi,hf=>by
  by_cases e:i=m
  ·subst e
   exact (iW p t (f+1) i).1
  rw [uq (b i (by omega))]
  exact zP b c f (i+1) (by omega) (by omega)
section
variable {s:ByteArray} {a k:Nat}
theorem kY {i:Nat} (h:a+i<s.size):byteN (s.extract a s.size) i=nextB s (a+i):=by
 rw [fl (by omega),nextB,if_neg (by omega)]
theorem qP (l:1≤k) (h:a+k≤s.size) (b:∀ i,i<k→b8 (nextB s (a+i))=true) (n:nextB s a≠48) (f:k=7∨b8 (nextB s (a+k))=false) (m:k≤7):digitsN s a=k:=by
 have d:=iL s a;have g:∀ i,i<k→b8 (byteN (s.extract a s.size) i)=true:=fun i j=>by rw [kY (by omega)];exact b i j
 unfold digitsN;rw [if_neg n]
 by_cases e:k=7
 ·have:=zP g (by rw [d];omega) (s.extract a s.size).size 0 (zU) (Nat.zero_add _)
  unfold leadN
  omega
 have c:=f.resolve_left e;have:leadN b8 (s.extract a s.size)=k:=by
  refine iX g ?_ _ 0 (zU) (Nat.zero_add _)
  by_cases o:a+k=s.size
  ·left;rw [d];omega
  right;rw [kY (by omega)];exact c
 omega
theorem qQ (b:nextB s a=48):digitsN s a=1:=by unfold digitsN;rw [if_pos b]
theorem Cd (e:a+k≤s.size) (b:∀ i,i<k→bD (nextB s (a+i))=true) (c:bD (nextB s (a+k))=false):leadN bD (s.extract a s.size)=k:=by
 have d:=iL s a;refine iX (fun i f=>by rw [kY (by omega)];exact b i f) ?_ _ 0 (zU) (Nat.zero_add _)
 by_cases g:a+k=s.size
 ·left;rw [d];omega
 right;rw [kY (by omega)];exact c
theorem Dx:∀ k,k<7→(10:Int) ^ k≤1000000:=by decide
theorem rr:numW (s.extract a (a+0))=0:=by
 have:(s.extract a (a+0)).size=0:=by rw [ByteArray.size_extract];omega
 rw [xC this]
 rfl
theorem Cn (h:a+k<s.size):numW (s.extract a (a+(k+1)))=numW (s.extract a (a+k))*10+(nextB s (a+k)-48):=by
 have e:(s.extract a (a+(k+1))).data.toList=(s.extract a (a+k)).data.toList ++ [s[a+k]]:=by
  apply List.ext_getElem?;intro i;rw [List.getElem?_append];simp only [ByteArray.data_extract,Array.toList_extract,List.extract_eq_take_drop,List.getElem?_take,List.getElem?_drop,List.length_take,List.length_drop,Array.length_toList];have f:s.data.size=s.size:=rfl
  by_cases g:i<k
  ·rw [if_pos (by omega),if_pos (by omega),if_pos (by omega)]
  by_cases b:i=k
  ·subst b
   rw [if_pos (by omega),if_neg (by omega)]
   have c:i-min (a+i-a) (s.data.size-a)=0:=by omega
   rw [c]
   simp [zX (show a+i<s.data.toList.length by simpa using h)]
   rfl
  rw [if_neg (by omega),if_neg (by omega)]
  rw [List.getElem?_eq_none (by simp;omega)]
 unfold numW;rw [e,List.foldl_append];have d:=cY s (a+k) h;rw [nextB,if_neg (by omega),←d]
 rfl
end
section
variable {w w4 W w6:World} {base q a a1 m:Nat} {v v':Value} {s wd:ByteArray} {L:List Nd} {x:Nd}
theorem rZ (a:eJ w q s a1 false v) (c:w.ownsRow base 131 5 v m (aS L)) (f:q<base) (b:Bl w W) (d:W.grownBy w6 v.ownBlock):eJ w6 q s a1 false v :=
 a.same ((d.block q (zW a.lt b.size) (fun e=>by have:=(aH c e.symm).1;omega)).trans (b.block q a.lt))
theorem zq (g:eJ w q s a1 false v) (f:w.ownsRow base 131 5 v m (aS L)) (c:q<base) (h:base≤w.heap.size) (a:Bl w W) (b:W.grownBy w6 v.ownBlock) (i:w6.ownsRow base 131 5 v' (m+1) (aS L ++ db x)) :
  eJ (w6.setCell ⟨q,3,none⟩ v') q s a1 false v'∧(w6.setCell ⟨q,3,none⟩ v').ownsRow base 131 5 v' (m+1) (aS (L ++ [x]))∧Kept base (fun j=>j=q) w (w6.setCell ⟨q,3,none⟩ v'):=by
 refine ⟨(rZ g f c a b).set3 _,ge (by rw [mL];exact i) c,?_⟩
 have d:Kept base (fun j=>j=q) w w6:=⟨b.os.trans a.os,b.tape.trans a.tape,b.output.trans a.output,zV a.size b.size,fun k l _=>(b.block k (by have:=a.size;omega) (fun e=>by have:=(aH f e.symm).1;omega)).trans (a.block k (by omega))⟩
 exact d.trans eZ
theorem uW (d:L.length=m) (e:rU s 3 a a1 (k8 wd)) (k:Kept base (fun j=>j=q) w w4) (i:eJ w4 q s a1 false v) (l:w4.ownsRow base 131 5 v m (aS L)) (c:q<base) (b:base≤w4.heap.size) (n:Bl w4 W) (o:W.grownBy w6 v.ownBlock) (p:w6.ownsRow base 131 5 v' (m+1) (aS L ++ db (opndN wd))) :
  tt s q base 3 a L w (.returned (.int .i64 (m:Int))) (w6.setCell ⟨q,3,none⟩ v'):=by
 obtain ⟨f,g,h⟩:=zq i l c b n o p;obtain ⟨p1,p2⟩:=rm wd L.length;refine ⟨k.trans h,Or.inl ⟨a1,k8 wd,_,by rw [p2,Nat.add_sub_cancel,d],e,IJ _ _,f,?_,by rw [p2];have:=e.1;omega⟩⟩
 rw [p1,List.length_append,d];exact g
end
theorem Ht (s:ByteArray) (q base a:Nat) (hs:s.size≤100) (ha:a≤s.size) (P:b8 (nextB s a)=true):GJ s q base a:=by
 intro v L w K KQ O T hLa;have HI:=aa K;have HOw:=aa T;have c0:=K.c0;have c1:=K.c1;have c2:=K.c2;have hq:=K.lt;have i1:=fun w' (F:Bl w w')=>fW q a s v 48 57 w' (by omega) ha (K.later F)
 have i2:=fun w' (F:Bl w w')=>fW q a s v 97 122 w' (by omega) ha (K.later F)
 have i3:=fun w' (F:Bl w w')=>fW q a s v 40 40 w' (by omega) ha (K.later F)
 have e1:(decide (48≤nextB s a) && decide (nextB s a≤57))=b8 (nextB s a):=rfl;have e2:(decide (97≤nextB s a) && decide (nextB s a≤122))=bD (nextB s a):=rfl;rw [e1] at i1;rw [e2] at i2;have hsi:(s.size:Int)≤100:=by omega
 have hai:(a:Int)≤(s.size:Int):=by omega
 clear K T e1 e2;have hle:bD (nextB s a)=false:=by unfold b8 at P;unfold bD;simp at P ⊢;omega
 have h40:nextB s a≠40:=by intro e;rw [e] at P;revert P;decide
 have e3:(decide (40≤nextB s a) && decide (nextB s a≤40))=false:=by simp;omega
 have hlt:a<s.size:=cD (fun e=>by rw [e] at P;revert P;decide) ha
 rw [P] at i1;rw [hle] at i2;rw [e3] at i3;have HD:=aa P;clear P hle h40 e3
 go_enter Tryz.func134,Tryz.ntmps134
 go_wp2_with fail;refine (i1 _ (zS)).mono ?_;rintro e w1 ⟨rfl,hb1⟩;have HB1:=aa hb1;clear hb1;go_wp2_with fail;refine (i2 _ HB1.out).mono ?_;rintro e w2 ⟨rfl,hb2⟩;have HB2:=aa (ae HB1.out hb2);clear hb2;go_wp2_with fail;refine (i3 _ HB2.out).mono ?_;rintro e w3 ⟨rfl,hb3⟩;have G:=aa (ae HB2.out hb3);have X:=aa (HI.out.later G.out);have HO3:=aa (ao HOw.out G.out);have HS3:=aa (zV O G.out.size);clear hb3 i1 i2 i3 c0 c1 c2;have d0:=X.out.c0;have d1:=X.out.c1;have hby:=cY s a hlt;have hnx:nextB s a=byteN s a:=by rw [nextB,if_neg (by omega)]
 obtain ⟨AL,C,hv⟩:=fL HO3.out;subst hv;go_wp2_with fail
 go_quiet (fail)
 obtain ⟨W3,KK⟩:=aA (w3.drewN nq);have N:Bl w3 W3:=by rw [←KK];exact ac (zS) _
 have HIW:=aa (X.out.later N);have HOW:=aa (ao HO3.out N);have HKW:Hid (Kept base (fun j=>j=q) w W3):=ax (ae G.out N) O
 rw [KK];obtain ⟨z,hz⟩:=aA ((byteN s a == 48));have HZ:Hid ((nextB s a == 48)=z):=by show _=_;rw [hnx];exact hz
 have HZ0:=aa hz;clear KK N d0 d1 hz
 go_upto_block 0 with fail
 rw [HZ0.out]
 go_cut [8,9] from 12 (fun s8 s9 wx=>s8=.int .i64 (numW (s.extract a (a+digitsN s a)))∧eJ wx q s (a+digitsN s a) false (.slice AL L.length C)∧wx.ownsRow base 131 5 (.slice AL L.length C) L.length (aS L)∧Kept base (fun j=>j=q) w wx)
 case first=>as_aux_lemma =>
  go_wp2_with fail
  go_loopg [8,9] 7 (fun g s8 s9 wr => ∃ (k:Nat),k≤7∧g=7-k∧a+k≤s.size∧s8=.int .i64 (numW (s.extract a (a+k)))∧s9=.int .i64 k∧(0≤numW (s.extract a (a+k))∧numW (s.extract a (a+k))+1≤10 ^ k)∧(z=true→k≤1)∧(∀ i,i<k→b8 (nextB s (a+i))=true)∧eJ wr q s (a+k) false (.slice AL L.length C)∧wr.ownsRow base 131 5 (.slice AL L.length C) L.length (aS L)∧Kept base (fun j=>j=q) w wr)
  case atStart=>exact ⟨0,by omega,rfl,by omega,by rw [rr],rfl,by rw [rr];decide,fun _=>by omega,fun i hi=>absurd hi (Nat.not_lt_zero i),HIW.out,HOW.out,HKW.out⟩
  case round =>
   obtain ⟨k,hk7,rfl,M,rfl,rfl,hnb,hzk,S,KH,hOr,KJ⟩:=hrel;have Y:=aa hnb;have Z:=aa hzk;have U:=aa S;have B:=aa KH;have I:=aa hOr;have H:=aa KJ;have KM:base≤wr.heap.size:=zV O KJ.size;obtain ⟨nk,KP⟩:=aA (numW (s.extract a (a+k)));have o:=aa KP;rw [KP];have A:=fW q (a+k) s (.slice AL L.length C) 48 57 wr (by omega) M KH
   have e5:(decide (48≤nextB s (a+k)) && decide (nextB s (a+k)≤57))=b8 (nextB s (a+k)):=rfl;rw [e5] at A;clear hnb hzk S KH hOr KJ KP e5
   by_cases hk:k<7
   ·have hki:(k:Int)<7:=by omega
    cases hdk:b8 (nextB s (a+k))
    ·have V:=aa hdk
     have n:Hid (digitsN s a=k):=by
      show _=_
      have hk1:1≤k:=by
       apply Nat.pos_of_ne_zero;intro e;subst e;rw [Nat.add_zero] at hdk;rw [HD.out] at hdk;cases hdk
      by_cases f:nextB s a=48
      ·have KR:z=true:=by rw [←HZ.out];simpa using f
       have:=Z.out KR;rw [qQ f];omega
      exact qP hk1 M U.out f (Or.inr hdk) hk7
     rw [hdk] at A;clear hdk;go_wp2_with fail;refine A.mono ?_;rintro e w4 ⟨rfl,b⟩;have c:=aa b;clear b A;go_wp2_with fail;go_meet;rw [n.out];exact ⟨by rw [o.out],B.out.later c.out,ao I.out c.out,H.out.trans (ax c.out KM)⟩
    have V:=aa hdk;have hlk:a+k<s.size:=cD (fun e=>by rw [e] at hdk;revert hdk;decide) M
    rw [hdk] at A;clear hdk
    by_cases hzb:z=true∧0<k
    ·obtain ⟨f,hk0⟩:=hzb
     have hki0:0<(k:Int):=by omega
     have n:Hid (digitsN s a=k):=by
      show _=_
      have:=Z.out f;have h48:nextB s a=48:=by have:=HZ.out;rw [f] at this;simpa using this
      rw [qQ h48];omega
     subst f;go_wp2_with fail;refine A.mono ?_;rintro e w4 ⟨rfl,b⟩;have c:=aa b;clear b A;go_wp2_with fail;go_meet;rw [n.out];exact ⟨by rw [o.out],B.out.later c.out,ao I.out c.out,H.out.trans (ax c.out KM)⟩
    have J:Hid (z=true→k+1≤1):=fun e=>by
     have : ¬ 0<k:=fun h=>hzb ⟨e,h⟩
     omega
    obtain ⟨p,hp⟩:=aA (a+k);have HP:=aa hp;have hlp:p<s.size:=by omega
    have hlpi:(p:Int)<(s.size:Int):=by omega
    have hby2:=cY s p hlp;have HNx:Hid (nextB s (a+k)=byteN s p):=by show _=_;rw [nextB,if_neg (by omega),hp]
    have hdr:48≤byteN s p∧byteN s p≤57:=by have h:=V.out;rw [HNx.out] at h;unfold b8 at h;simpa using h
    obtain ⟨ch,KN⟩:=aA (byteN s p);have HCh:=aa KN;rw [KN] at hby2 hdr;obtain ⟨d1,d2⟩:=hdr;have h10:(10:Int) ^ k≤1000000:=Dx k hk;have n0:0≤nk:=by have:=Y.out.1;rw [o.out] at this;exact this
    have n1:nk+1≤1000000:=by have:=Y.out.2;rw [o.out] at this;omega
    have r:Hid (numW (s.extract a (a+(k+1)))=nk*10+ch-48):=by show _=_;rw [Cn hlk,o.out,HNx.out,HCh.out];omega
    have d:Hid (eJ wr q s p false (.slice AL L.length C)):=by show eJ _ _ _ _ _ _;rw [←hp];exact B.out
    have hzf:z=true→(k:Int)=0:=fun e=>by have:=J.out e;omega
    clear KN;have hqr:=B.out.lt;have HIn:Hid (numW (s.extract a (a+(k+1)))+1≤10 ^ (k+1)∧0≤numW (s.extract a (a+(k+1)))):=by
     have h1:=r.out;have h2:=Y.out.2;rw [o.out] at h2;have h3:(10:Int) ^ (k+1)=10 ^ k*10:=Int.pow_succ ..
     show _∧_
     rw [h1,h3]
     omega
    have fin:∀ (w5:World),Bl wr w5→eJ (w5.setCell ⟨q,1,none⟩ (.int .i64 ((p:Int)+1))) q s (a+(k+1)) false (.slice AL L.length C)∧(w5.setCell ⟨q,1,none⟩ (.int .i64 ((p:Int)+1))).ownsRow base 131 5 (.slice AL L.length C) L.length (aS L)∧Kept base (fun j=>j=q) w (w5.setCell ⟨q,1,none⟩ (.int .i64 ((p:Int)+1))):=fun w5 KL=>by
     refine ⟨?_,ge (ao I.out KL) KQ,(H.out.trans (ax KL KM)).trans eZ⟩;rw [show a+(k+1)=p+1 by omega]
     exact (d.out.later KL).set1 (p+1)
    have R:=aa fin;have Q:Hid (∀ i,i<k+1→b8 (nextB s (a+i))=true):=fun i hi=>by
     by_cases e:i=k
     ·rw [e];exact V.out
     exact U.out i (by omega)
    clear fin;cases hzc:z
    ·have HZc:=aa hzc
     subst hzc;go_wp2_with fail;refine A.mono ?_;rintro e w4 ⟨rfl,b⟩;have c:=aa b;have d0:=(d.out.later b).c0;have KG:=(d.out.later b).c1;clear b A;go_wp2_with fail
     go_quiet (fail)
     obtain ⟨W5,u⟩:=aA (w4.drewN nq);have l:Hid (Bl wr W5):=by show Below _ _ _;rw [←u];exact ac c.out _
     rw [u];have d3:=(d.out.later l.out).c1;have d4:=(d.out.later l.out).fr 1;have d5:=(d.out.later l.out).lt;clear u d0 KG;go_wp2_with fail
     go_roundg (7-(k+1))
     case measure=>omega
     case rel =>
      obtain ⟨x1,x2,x3⟩:=R.out _ l.out;exact ⟨k+1,by omega,rfl,by omega,by rw [r.out],by go_num,HIn.out.symm,J.out,Q.out,x1,x2,x3⟩
    have hk0:k=0:=by have:=J.out hzc;omega
    have hk0i:decide (0<(k:Int))=false:=by rw [hk0];rfl
    subst hzc;go_wp2_with fail;refine A.mono ?_;rintro e w4 ⟨rfl,b⟩;have c:=aa b;have d0:=(d.out.later b).c0;have KG:=(d.out.later b).c1;clear b A;go_wp2_with fail
    go_quiet (fail)
    obtain ⟨W5,u⟩:=aA (w4.drewN nq);have l:Hid (Bl wr W5):=by show Below _ _ _;rw [←u];exact ac c.out _
    rw [u];have d3:=(d.out.later l.out).c1;have d4:=(d.out.later l.out).fr 1;have d5:=(d.out.later l.out).lt;clear u d0 KG;go_wp2_with fail
    go_roundg (7-(k+1))
    case measure=>omega
    case rel =>
     obtain ⟨x1,x2,x3⟩:=R.out _ l.out;exact ⟨k+1,by omega,rfl,by omega,by rw [r.out],by go_num,HIn.out.symm,J.out,Q.out,x1,x2,x3⟩
   have hk7':k=7:=by omega
   subst hk7';have n:Hid (digitsN s a=7):=by
    show _=_
    by_cases f:nextB s a=48
    ·have KR:z=true:=by rw [←HZ.out];simpa using f
     have:=Z.out KR
     omega
    exact qP (by omega) M U.out f (Or.inl rfl) hk7
   clear A;go_wp2_with fail;go_meet;rw [n.out];exact ⟨by rw [o.out],B.out,I.out,H.out⟩
 case rest =>
  obtain ⟨rfl,t,D,KI⟩:=hcut;obtain ⟨w4,rfl⟩:∃ wx:World,wx=wc:=⟨_,rfl⟩;obtain ⟨i1,hj0,hj1,hj2,hj3⟩:=info_parts Tryz.infoNdF;have HR:=aa (Ic ha HD.out);have KO:opndN (s.extract a (a+digitsN s a))=⟨1,numW (s.extract a (a+digitsN s a)),⟨#[]⟩,0,0⟩:=by
   have h1:=gG hlt (kO ha HD.out).1;have h2:=HD.out;unfold b8 at h2;unfold opndN;rw [h1,if_neg (by simp at h2;omega)]
  obtain ⟨m,hm⟩:=aA L.length;obtain ⟨nn,hnn⟩:=aA (numW (s.extract a (a+digitsN s a)));have HM:=aa hm;have hm1:(m:Int)≤100:=by omega
  rw [hm] at t D;rw [hnn] at KO ⊢;have b:base≤w4.heap.size:=zV O KI.size;have HSt:Hid (∀ (W w6:World) (v':Value),Bl w4 W→W.grownBy w6 (Value.slice AL m C).ownBlock→w6.ownsRow base 131 5 v' (m+1) (aS L ++ db ⟨1,nn,⟨#[]⟩,0,0⟩)→tt s q base 3 a L w (.returned (.int .i64 (m:Int))) (w6.setCell ⟨q,3,none⟩ v')∧(w6.cell? ⟨q,3,none⟩=some (.slice AL m C)∧w6.frozen? ⟨q,3,none⟩=false)∧q<w6.heap.size):=by
   intro W w6 v' F hg ho;have h:=rZ t D KQ F hg;exact ⟨uW HM.out HR.out KI t D KQ b F hg (by rw [KO];exact ho),⟨h.c3,h.fr 3⟩,h.lt⟩
  have HO1:Hid (∀ w',Bl w4 w'→w'.ownsRow base 131 5 (.slice AL m C) m (aS L)):=fun w' F=>ao D F
  have d3:=t.c3;have d4:=t.fr 3;have d5:=t.lt;clear t D KI KO hnn hm
  go_wp2_with (at_builtin;refine wpList_append_own_at _ rfl _ _ 116 rfl base 131 i1 _ 5 48 Tryz.underlying116 hj0 hj1 hj2 hj3 rfl (by decide) _ m (aS L) rfl (HO1.out _ ?qc0) ⟨w4.heap.size,0,none⟩ 1 1 (db ⟨1,nn,⟨#[]⟩,0,0⟩) rfl rfl ?qc1 FA ?qc2 ?qc3 ?qc4 ?_)
  case qc0=>exact (zS).alloc (zT) _
  case qc1=>exact II (w:=w4) (x:=⟨1,nn,⟨#[]⟩,0,0⟩) (by simp)
  case qc2=>unfold maxLen;omega
  case qc3=>omega
  case qc4=>simp;omega
  intro v' w6 y E _ _;obtain ⟨HS,⟨y1,y2⟩,y3⟩:=HSt.out _ _ _ ((zS).alloc (zT) _) E y;obtain ⟨A6,c6,hv'⟩:=fL y;subst hv';have HSo:=aa HS;clear y E HS;go_wp2_with fail;go_ret;exact HSo.out
end Go.Proofs.YtompdcaikmekkaaGreatDoor
