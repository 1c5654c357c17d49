/- Edits of entries, one -/
import Derived.Test.YtohgnbgamfepoaaGreatDoorJHBQ
namespace Go.Proofs.YtohgnbgamfepoaaGreatDoor
open ChangeShapes WideShapes ChangeAt RowKit
set_option maxRecDepth 99999
set_option maxHeartbeats 0
theorem De (A0:Option Addr) (cap n:Nat) (D:Nat→Dm) (A:Nat→Option Addr) (C:Nat→Nat) (AE:Option Addr) (v:Nat) (xs:List EnL) (Ax:Option Addr) (i:Nat) (x:Ed) (w:World) (S:aW w A0 cap n D A C) (z:fJ w AE v xs) (H:aZ w Ax i x.pl) (q:Ens D n (lE xs)) :
  Calls Tryz.prog 23 #[.agg #[.slice A0 n cap],.slice AE xs.length v,.agg #[.slice Ax x.pl.length i,.int .i64 x.n,.bool x.clear]] w fun e w'=>zD w (editErr D n (lE xs) x) (editV (lE xs) x) e w':=by
 obtain ⟨p,N,E⟩:=x;simp only at H ⊢;have m:=dB w A0 n cap Ax p.length i N E;have s:EditCalls (aM w A0 n cap Ax p.length i N E) A0 cap n AE xs.length v Ax p.length i (shapeErr D n p) (cntE (lE xs) p) (hasE (lE xs) p) (leafV D n p):=by
  refine ⟨fun w' f=>?_,fun L w' f=>?_,fun L w' f=>?_⟩
  ·exact kL A0 cap n D A C Ax i p w' q.right ((S.later m).later f) ((H.later m).later f)
  ·exact rJ AE v xs Ax i p w' (kA q) ((z.1.later m).later f) (pX q (fY (by rw [D6 q.right];exact L))) ((H.later m).later f)
  exact jA A0 cap n D A C Ax i p w' (fY (by rw [D6 q.right];exact L)) ((S.later m).later f) ((H.later m).later f)
 have d:editErr D n (lE xs) ⟨p,N,E⟩=if shapeErr D n p≠0 then shapeErr D n p else if E=true then (if hasE (lE xs) p=true then 0 else 5) else if leafV D n p=false then 6 else if cX N=false then 1 else 0:=rfl
 by_cases F:editErr D n (lE xs) ⟨p,N,E⟩=0
 ·have L:shapeErr D n p=0:=by
   rw [d] at F
   split at F
   ·rename_i g;exact absurd F g
   rename_i g;simpa using g
  rw [L] at s d;rw [if_neg (by simp)] at d
  rw [F] at d;unfold zD;rw [F,pG];have I:=EF (lE xs) p;rw [a7] at I;have good:∀ b o j,AE=some ⟨b,o,none⟩→j≤xs.length→cntE (lE xs) p≤j∧j≤cntE (lE xs) p+1→EditGood w b o v xs Ax i p (cntE (lE xs) p) j:=fun b o j r X R=>by
   refine ⟨fun w' f k u T=>?_,fun y V=>?_,H,kA q,z.1.1,z.1.2.1,I,X,R⟩
   ·obtain ⟨-,-,rfl | ⟨b',o',G,M⟩⟩:=z.1.later f
    ·cases T
    rw [r] at G;cases G;exact M.2.1 k u T
   obtain ⟨-,-,rfl | ⟨b',o',G,M⟩⟩:=z.1
   ·cases V
   exact M.2.2 y V
  cases E
  ·rw [if_neg (by simp)] at d
   have t:leafV D n p=true:=by
    cases g:leafV D n p
    ·rw [g,if_pos rfl] at d;cases d
    rfl
   rw [t,if_neg (by simp)] at d
   have K:cX N=true:=by
    cases g:cX N
    ·rw [g,if_pos rfl] at d;cases d
    rfl
   have hlh : -1000000≤N∧N≤1000000:=by simpa [cX] using K
   show Calls _ _ _ _ fun e w'=>(∃ B c zs,_∧_∧lE zs=setL (lE xs) p N)∧_
   unfold setL
   by_cases U:xs=[]
   ·subst U
    have O:cntE (lE []) p=0:=rfl;have Q:hasE (lE []) p=false:=rfl;rw [O,Q] at s;simp only [List.length_nil] at s ⊢
    show Calls _ _ _ _ fun e w'=>(∃ B c zs,_∧_∧lE zs=[⟨p,N⟩])∧_
    cases AE with
    | none =>
     have P:=z.2 rfl;subst P;exact Di A0 cap n Ax p.length i p N _ w rfl H s t (by omega) (by omega)
    | some a =>
     obtain ⟨b,o,sp⟩:=a;exact yB A0 cap n b o sp v Ax p.length i p N _ w rfl H s t (by omega) (by omega)
   obtain ⟨b,o,r⟩:∃ b o,AE=some ⟨b,o,none⟩:=by
    obtain ⟨-,-,g | ⟨b,o,g,-⟩⟩:=z.1
    ·exact absurd g U
    exact ⟨b,o,g⟩
   cases J:hasE (lE xs) p
   ·rw [J,r] at s
    rw [r,if_neg (by simp),Nat.add_zero]
    exact Dh A0 cap n b o v xs Ax p.length i p N _ _ w rfl s t (by omega) (by omega) (good b o _ r I ⟨zT,by omega⟩)
   have l:=so J;rw [a7] at l;rw [J,r] at s;rw [r,if_pos rfl];exact Dj A0 cap n b o v xs Ax p.length i p N _ _ w rfl s t (by omega) (by omega) (good b o _ r l ⟨by omega,zT⟩)
  rw [if_pos rfl] at d;have J:hasE (lE xs) p=true:=by
   cases g:hasE (lE xs) p
   ·rw [g,if_neg (by simp)] at d;cases d
   rfl
  have l:=so J;rw [a7] at l;obtain ⟨b,o,r⟩:∃ b o,AE=some ⟨b,o,none⟩:=by
   obtain ⟨-,-,g | ⟨b,o,g,-⟩⟩:=z.1
   ·rw [g] at l;simp at l
   exact ⟨b,o,g⟩
  rw [J,r] at s;rw [r]
  show Calls _ _ _ _ fun e w'=>(∃ B c zs,_∧_∧lE zs=clrL (lE xs) p)∧_
  unfold clrL;exact Dg A0 cap n b o v xs Ax p.length i p N _ _ w rfl s (good b o _ r l ⟨by omega,zT⟩)
 have h:=Df A0 cap n AE xs.length v Ax p.length i N E _ _ _ _ _ w s d F;refine h.mono ?_;rintro e w' ⟨rfl,W⟩;exact ⟨⟨none,0,[],rfl,⟨b7.nil _ _ _ (by decide),fun _=>rfl⟩,by rw [CU F];rfl⟩,W⟩
theorem J5 {W w':World} {q b o:Nat} {u v y z:Value} (h:q<W.heap.size∧b<W.heap.size∧W.cell? ⟨q,0,none⟩=some u∧W.cell? ⟨b,o,none⟩=some v∧W.cell? ⟨b,o+1,none⟩=some y∧W.cell? ⟨b,o+2,none⟩=some z) (a:Bl W w'):Bl W w'∧w'.cell? ⟨q,0,none⟩=some u∧w'.cell? ⟨b,o,none⟩=some v∧w'.cell? ⟨b,o+1,none⟩=some y∧w'.cell? ⟨b,o+2,none⟩=some z :=
 ⟨a,aC a h.1 h.2.2.1,aC a h.2.1 h.2.2.2.1,aC a h.2.1 h.2.2.2.2.1,aC a h.2.1 h.2.2.2.2.2⟩
def tu (w:World) (v:List En×Int×Int) (e:Ending) (w':World):Prop:=(∃ B c zs,e=.returned (.tuple #[.slice B zs.length c,.int .i64 v.2.1,.int .i64 v.2.2])∧fJ w' B c zs∧lE zs=v.1)∧Bl w w'
theorem Gi (A0:Option Addr) (cap n:Nat) (D:Nat→Dm) (A:Nat→Option Addr) (C:Nat→Nat) (AE:Option Addr) (Y:Nat) (xs:List EnL) (AX:Option Addr) (cx:Nat) (ys:List EdL) (w:World) (Q:aW w A0 cap n D A C) (O:fJ w AE Y xs) (Z:ks w AX cx ys) :
  Calls Tryz.prog 7 #[.agg #[.slice A0 n cap],.slice AE xs.length Y,.slice AX ys.length cx] w fun e w'=>tu w (editsV D n (lE xs) (lD ys)) e w':=by
 have q:=ao w A0 n cap 24;have u:=aa q;unfold tu
 by_cases i:60<ys.length
 ·have HV:Hid (editsV D n (lE xs) (lD ys)=([],0,4)):=mV _ i
  have m:60<(ys.length:Int):=by omega
  generalize editsV D n (lE xs) (lD ys)=V at HV;generalize xs.length=nx;generalize ys.length=ny at i m;clear Q O Z q
  go_enter Tryz.func7,Tryz.ntmps7
  go_wp2_with fail
  go_ret3
  rw [HV.out];exact ⟨⟨none,0,[],rfl,⟨b7.nil _ _ _ (by decide),fun _=>rfl⟩,rfl⟩,u.out⟩
 have h:=sZ A0 cap n D A C AE Y xs (ax w A0 n cap 24) (Q.later q) (O.1.later q);have m:(ys.length:Int)≤60:=by omega
 by_cases F:entsErr D n (lE xs)=0
 ·have P:=ss F
  have HV:Hid (editsV D n (lE xs) (lD ys)=aN D n (lE xs) 0 ((lD ys).drop 0)):=qY i F;have HM:=aa Q;have HX:=aa Z;have HE:=aa O;have K0:=aa P;rw [F] at h;generalize editsV D n (lE xs) (lD ys)=V at HV;obtain ⟨ny,J⟩:=az ys.length;have G:=aa J;rw [J] at m ⊢;clear F P Q O Z q i J
  go_enter Tryz.func7,Tryz.ntmps7
  go_wp2_with fail;refine h.mono ?_;rintro e w1 ⟨rfl,l⟩;have t:Bl w w1:=ae u.out l;have v:=aa t;have c1:w1.cell? ⟨w.heap.size,0,none⟩=some (.slice A0 n cap):=aC l (by show w.heap.size<_;rw [av];omega) (aH ..)
  have X:w.heap.size<w1.heap.size:=by have:=l.size;rw [av] at this;omega
  have HM1:=aa (HM.out.later t);have HX1:=aa (HX.out.later t);have q0:=aa (HE.out.later t);clear l h t HM HX HE u;go_wp2_with fail
  go_loopg [1,10] ny (fun gm s1 s10 wr => ∃ (k:Nat) (B:Option Addr) (c:Nat) (zs:List EnL),k≤ny∧gm=ny-k∧s10=.int .i64 k∧s1=.slice B zs.length c∧Hid (fJ wr B c zs∧Ens D n (lE zs))∧Hid (aN D n (lE zs) k ((lD ys).drop k)=aN D n (lE xs) 0 ((lD ys).drop 0))∧Bl w1 wr)
  case atStart=>exact ⟨0,AE,Y,xs,zU,rfl,rfl,rfl,⟨q0.out,K0.out⟩,(rfl:aN D n (lE xs) 0 ((lD ys).drop 0)=aN D n (lE xs) 0 ((lD ys).drop 0)),zS⟩
  case round =>
   obtain ⟨k,B,c,zs,hk,rfl,rfl,rfl,z,HF,j⟩:=hrel;have M:=aa j
   by_cases hlt:k<ny
   ·have I:k<ys.length:=by rw [G.out];exact hlt
    have hki:(k:Int)<(ny:Int):=by omega
    obtain ⟨-,-,g | ⟨b,o,rfl,H⟩⟩:=HX1.out.later j
    ·have:=G.out;rw [g] at this;simp at this;omega
    obtain ⟨N,d1,d2,W⟩:=H.2 k I;have c0:wr.cell? ⟨w.heap.size,0,none⟩=some (.slice A0 n cap):=aC j X c1;have hzr:w.heap.size<wr.heap.size:=zW X j.size;have HMr:=aa (HM1.out.later j);have d:Hid (∀ w',Bl wr w'→Calls Tryz.prog 23 #[.agg #[.slice A0 n cap],.slice B zs.length c,.agg #[.slice (ys.getD k noD).A (ys.getD k noD).x.pl.length (ys.getD k noD).c,.int .i64 (ys.getD k noD).x.n,.bool (ys.getD k noD).x.clear]] w' fun e w''=>(∃ B' s a,e=.returned (.tuple #[.slice B' a.length s,.int .i64 (editErr D n (lE zs) (ys.getD k noD).x)])∧fJ w'' B' s a∧lE a=pF (editErr D n (lE zs) (ys.getD k noD).x) (editV (lE zs) (ys.getD k noD).x))∧Bl w' w''):=fun w' K=>De A0 cap n D A C B c zs _ _ _ w' (HMr.out.later K) (z.out.1.later K) (W.later K) z.out.2
    have p:Hid (editErr D n (lE zs) (ys.getD k noD).x=0→aN D n (editV (lE zs) (ys.getD k noD).x) (k+1) ((lD ys).drop (k+1))=aN D n (lE xs) 0 ((lD ys).drop 0)∧Ens D n (editV (lE zs) (ys.getD k noD).x)):=fun g=>⟨by rw [←t8 I g];exact HF.out,(z.out.2.edit g).2⟩
    have y:Hid (editErr D n (lE zs) (ys.getD k noD).x≠0→V=([],(k:Int),editErr D n (lE zs) (ys.getD k noD).x)):=fun g=>by rw [HV.out,←HF.out,qZ I g]
    generalize editErr D n (lE zs) (ys.getD k noD).x=E at d p y;generalize editV (lE zs) (ys.getD k noD).x=l2 at d p;generalize (ys.getD k noD).A=A1 at N d;generalize (ys.getD k noD).c=k1 at N d;generalize (ys.getD k noD).x.n=n1 at d1 d;generalize (ys.getD k noD).x.clear=q1 at d2 d;generalize (ys.getD k noD).x.pl.length=m1 at N d;obtain ⟨nz,U⟩:=az zs.length;rw [U] at d ⊢;have hbb:=H.1;have HC:Hid (w.heap.size<wr.heap.size∧b<wr.heap.size∧wr.cell? ⟨w.heap.size,0,none⟩=some (.slice A0 n cap)∧wr.cell? ⟨b,o+k*3,none⟩=some (.slice A1 m1 k1)∧wr.cell? ⟨b,o+k*3+1,none⟩=some (.int .i64 n1)∧wr.cell? ⟨b,o+k*3+2,none⟩=some (.bool q1)):=⟨hzr,hbb,c0,N,d1,d2⟩;clear H W j U c0 N d1 d2;go_wp2_with fail
    go_cut [11,12] (fun s11 s12 wx => ∃ B' s a,s11=.slice B' a.length s∧s12=.int .i64 E∧Hid (fJ wx B' s a∧lE a=pF E l2)∧Bl wr wx)
    case first=>as_aux_lemma =>
     go_region_held3 (fun w'=>Bl wr w'∧w'.cell? ⟨w.heap.size,0,none⟩=some (.slice A0 n cap)∧w'.cell? ⟨b,o+k*3,none⟩=some (.slice A1 m1 k1)∧w'.cell? ⟨b,o+k*3+1,none⟩=some (.int .i64 n1)∧w'.cell? ⟨b,o+k*3+2,none⟩=some (.bool q1))
      ((refine J5 HC.out ?_;go_grown;done))
      (first | (go_at_call 23;refine (d.out _ (by go_grown)).mono ?_;rintro e w3 ⟨⟨B',s,a,rfl,R,T⟩,S⟩;have hN3:=ae (W0:=wr) (by go_grown) S;have hy3:=hN3.size;have f:Hid (fJ w3 B' s a∧lE a=pF E l2):=⟨R,T⟩;clear S R T))
     all_goals go_wp2_with fail
     all_goals go_meet
     all_goals exact ⟨B',s,a,rfl,rfl,f,by go_grown⟩
    case rest=>as_aux_lemma =>
    obtain ⟨B',s,a,rfl,rfl,f,hb⟩:=hcut;obtain ⟨w2,rfl⟩:∃ w2:World,w2=wc:=⟨_,rfl⟩;have L:=aa (ae M.out hb);clear hb HC d
    by_cases g:E=0
    ·have HN2:Hid (fJ w2 B' s a∧Ens D n (lE a)):=⟨f.out.1,by rw [f.out.2,g,pG];exact (p.out g).2⟩
     have HF2:Hid (aN D n (lE a) (k+1) ((lD ys).drop (k+1))=aN D n (lE xs) 0 ((lD ys).drop 0)):=by show _=_;rw [f.out.2,g,pG];exact (p.out g).1
     subst g;clear p y f;go_wp2_with fail
     go_roundg (ny-(k+1))
     case measure=>omega
     case rel=>exact ⟨k+1,B',s,a,by omega,rfl,by go_num,rfl,HN2,HF2,L.out⟩
    have r:=aa (y.out g);have h0':(E != 0)=true:=by simpa using g
    clear p y f g;go_wp2_with fail
    go_ret3
    rw [r.out];exact ⟨⟨none,0,[],rfl,⟨b7.nil _ _ _ (by decide),fun _=>rfl⟩,rfl⟩,ae v.out L.out⟩
   have hke:k=ny:=by omega
   subst hke;have r:Hid (V=(lE zs,0,0)):=by show _=_;rw [HV.out,←HF.out,q6 (by rw [G.out];exact zT)]
   clear j;go_wp2_with fail
   go_ret3
   rw [r.out];exact ⟨⟨_,_,zs,rfl,z.out.1,rfl⟩,ae v.out M.out⟩
 have HV:Hid (editsV D n (lE xs) (lD ys)=([],0,entsErr D n (lE xs))):=oM i F;have he':(entsErr D n (lE xs) != 0)=true:=by simpa using F
 generalize editsV D n (lE xs) (lD ys)=V at HV;generalize entsErr D n (lE xs)=E at h HV F he';generalize xs.length=nx at h;generalize ys.length=ny at i m;clear Q O Z q i F
 go_enter Tryz.func7,Tryz.ntmps7
 go_wp2_with fail;refine h.mono ?_;rintro e w1 ⟨rfl,l⟩;have v:=aa (ae u.out l);clear l;go_wp2_with fail
 go_ret3
 rw [HV.out];exact ⟨⟨none,0,[],rfl,⟨b7.nil _ _ _ (by decide),fun _=>rfl⟩,rfl⟩,v.out⟩
def Bz (w1:World) (g N:Nat) (f:Nat→Bool) (w:World):Prop:=fT w g N f∧Below g w1 w
theorem Bz.put {w1 w:World} {g N i:Nat} {f:Nat→Bool} (h:Bz w1 g N f w):Bz w1 g N (ik f i) (w.setCell ⟨g,i,none⟩ (.bool true)):=⟨h.1.set fun _ _=>rfl,iw h.2 (zT)⟩
def wh (D:Nat→Dm) (n N:Nat) (Q:List Int) (f:Nat→Bool):Prop:=(∀ a:Nat,(a:Int)∈Q→f a=true)∧∀ j,j<N→f j=true→∃ a:Nat,(a:Int)∈Q∧Ndd D n j a
theorem CZ {f:Nat→Bool} {i j:Nat} (h:f j=true):ik f i j=true:=by unfold ik;split <;> simp_all
theorem wh.put {D:Nat→Dm} {n N i z:Nat} {Q:List Int} {f:Nat→Bool} (h:wh D n N Q f) (m:z<N) (c:f z=true) (l:BB D n i z):wh D n N Q (ik f i):=by
 refine ⟨fun a b=>CZ (h.1 a b),fun j d k=>?_⟩
 by_cases e:j=i
 ·subst e
  obtain ⟨a,b,g⟩:=h.2 z m c;exact ⟨a,b,.step l g⟩
 exact h.2 j d (by simpa [ik,e] using k)
def tz (ys:List RL) (f:Nat→Bool) (ag:Bool) (i:Nat):Prop:=ag=false→∀ j,j<i→f j=false→∀ z∈(ys.getD j eq).p,f z.toNat=false
def Kj (R:List Int) (f:Nat→Bool) (ag:Bool) (i u:Nat):Prop:=ag=false→f i=false→∀ z∈R.take u,f z.toNat=false
theorem yT (A0:Option Addr) (cap n:Nat) (D:Nat→Dm) (A:Nat→Option Addr) (C:Nat→Nat) (Aq:Option Addr) (cq:Nat) (Q:List Int) (w:World) (hE:(am D n).2.2=0) (hR:dI D n) (hM:aW w A0 cap n D A C) (hQ:aZ w Aq cq Q) (hQz:Q.length≤4611686018427387904) (hQn:∀ z∈Q,∃ j:Nat,z=(j:Int)∧j<prodN D n) :
  Calls Tryz.prog 9 #[.agg #[.slice A0 n cap],.slice Aq Q.length cq] w fun e w'=>(∃ A' c',e=.returned (.slice A' (drtL D n Q).length c')∧aR w' A' c' (drtL D n Q))∧Bl w w':=by
 obtain ⟨i0,hi0,hz0,hz1,hz2⟩:=info_parts Tryz.infoInt;obtain ⟨hn1,hn4,hp3,hd⟩:=au hE;have O:=ao w A0 n cap 24;have hS:=av w A0 n cap 24;have hA:=aH w A0 n cap 24;obtain ⟨W,hW⟩:=az (ax w A0 n cap 24);rw [hW] at O hS hA;unfold ax at hW;have F:=lK A0 cap n D A C W hR hE (hM.later O);have HB0:=aa O;have HQ:=aa hQ;have HR:=aa hR;have HE:=aa hE;obtain ⟨N,hN⟩:=az (prodN D n);have HN:=aa hN;rw [hN] at F hp3 hQn;have HQn:=aa hQn;have hNI:(N:Int)≤3000:=by omega
 have hmb:=kp N hp3;obtain ⟨ql,S⟩:=az Q.length;have B:=aa S;have hqc:ql≤cq:=by rw [←S];exact hQ.1
 have hqcI:(ql:Int)≤(cq:Int):=by omega
 rw [S] at hQz ⊢;have hqzI:(ql:Int)≤4611686018427387904:=by omega
 clear hE hR hM O hS hd hQ hQn hN S
 go_enter Tryz.func9,Tryz.ntmps9
 go_wp2_with fail;refine F.mono ?_;rintro e w1 ⟨⟨A1,c1,ys,rfl,hyl,hY,hT⟩,hb1⟩;have HB1:=aa (ae HB0.out hb1);have HY:=aa hY;have HT:=aa hT;have M:=aa hyl;have HIn:Hid (∀ i,i<N→∀ z∈(ys.getD i eq).p,∃ j:Nat,z=(j:Int)∧j<N):=fun i hi z J=>by
  obtain ⟨j,h1,h2,-⟩:=fG HR.out HE.out (hT i hi) J;exact ⟨j,h1,by rw [←HN.out];exact h2⟩
 obtain ⟨y1,hy1⟩:∃ y,w1.alloc (.cells (madeCells #[.bool false] N) 4)=y:=⟨_,rfl⟩;have X:Bl w1 y1:=by rw [←hy1];go_grown
 have Z:fT y1 w1.heap.size N fun _=>false:=by rw [←hy1];exact fT.made w1 N
 have HI0:Hid (Bz w1 w1.heap.size N (Fb (Q.take 0)) y1):=⟨Z,X⟩;clear F hb1 hyl hY hT X Z hA hW;go_wp2_with fail;clear hmb hy1
 go_loopg [7] ql (fun gg s7 wr => ∃ (i:Nat),i≤ql∧gg=ql-i∧s7=.int .i64 i∧Hid (Bz w1 w1.heap.size N (Fb (Q.take i)) wr))
 case atStart=>exact ⟨0,zU,rfl,rfl,HI0⟩
 case round =>
  obtain ⟨i,hi,rfl,rfl,HI⟩:=hrel
  by_cases d:i<ql
  ·have hii:(i:Int)<(ql:Int):=by omega
   obtain ⟨hcs,h0 | ⟨bq,oq,rfl,hbq,G⟩⟩:=HQ.out.later (ae HB1.out HI.out.2)
   ·have:=B.out;rw [h0] at this;simp at this;omega
   have ci:=G i (by rw [B.out];exact d)
   have l:Q.getD i 0∈Q:=f6 (by rw [B.out];exact d)
   obtain ⟨z,J,U⟩:=HQn.out _ l;have HTk:Hid (Q.take (i+1)=Q.take i ++ [(z:Int)]):=by
    show _=_
    rw [←J,List.take_succ_eq_append_getElem (by rw [B.out];exact d),zZ,zX (by rw [B.out];exact d)]
    rfl
   rw [J] at ci;have hzI:(z:Int)<(N:Int):=by omega
   have cz:=HI.out.1.cell U;have fz:=HI.out.1.frozen z;have hgl:=HI.out.1.lt;have g:Hid (Bz w1 w1.heap.size N (Fb (Q.take (i+1))) (wr.setCell ⟨w1.heap.size,z,none⟩ (.bool true))):=by
    show Bz ..
    rw [HTk.out];exact ⟨HI.out.1.set fun j _=>Fc j,iw HI.out.2 (zT)⟩
   clear G l J;go_wp2_with fail
   go_roundg (ql-(i+1))
   case measure=>omega
   case rel=>exact ⟨i+1,by omega,rfl,by go_num,g⟩
  have H:i=ql:=by omega
  subst H;have HIq:Hid (Bz w1 w1.heap.size N (Fb Q) wr):=by
   have h:=HI.out;rw [List.take_of_length_le (by rw [B.out];exact zT)] at h
   exact h
  have HDq:Hid (wh D n N Q (Fb Q)):=⟨fun a ha=>by unfold Fb;rw [List.contains_iff_mem];exact ha,fun j _ h=>⟨j,by unfold Fb at h;rwa [List.contains_iff_mem] at h,.refl _⟩⟩
  obtain ⟨wq,rfl⟩:∃ wq:World,wq=wr:=⟨_,rfl⟩;obtain ⟨f0,hf0⟩:=az (Fb Q);rw [hf0] at HIq HDq;clear hf0;go_wp2_with fail
  go_loopg [8] (D5 f0 true N) (fun gg s8 wr => ∃ (ag:Bool) (f:Nat→Bool),gg=D5 f ag N∧s8=.bool ag∧Hid (Bz w1 w1.heap.size N f wr)∧Hid (wh D n N Q f)∧Hid (tz ys f ag N))
  case atStart=>exact ⟨true,f0,rfl,rfl,HIq,HDq,(fun h=>(by cases h):tz ys f0 true N)⟩
  case round =>
   obtain ⟨ag,f,rfl,rfl,HIf,K0,HCf⟩:=hrel;obtain ⟨wo,rfl⟩:∃ wo:World,wo=wr:=⟨_,rfl⟩;cases ag
   ·have HAll:Hid (∀ j,j<N→f j=Hg D n Q j):=fun j hj=>by
     have h:=BZ HT.out HIn.out K0.out.1 K0.out.2 (HCf.out rfl) j hj;rw [Bool.eq_iff_iff,h,k6]
    have V:Hid (selTo f N=drtL D n Q):=by
     show _=_
     unfold drtL;rw [HN.out];exact vP HAll.out
    go_wp2_with fail
    go_loopg [11,12] N (fun gg s11 s12 wi => ∃ (i:Nat) (AO:Option Addr) (cO:Nat),i≤N∧gg=N-i∧s11=.slice AO (selTo f i).length cO∧s12=.int .i64 i∧Hid (wi.ownsRow (w1.heap.size+1) 3 1 (.slice AO (selTo f i).length cO) (selTo f i).length (aE (selTo f i)))∧Hid (Bz w1 w1.heap.size N f wi))
    case atStart=>exact ⟨0,none,0,zU,rfl,rfl,rfl,World.ownsRow_nil _ _ _ _,HIf⟩
    case round =>
     obtain ⟨wi,rfl⟩:∃ wi:World,wi=wr:=⟨_,rfl⟩;obtain ⟨i,AO,cO,hi,rfl,rfl,rfl,HO,o⟩:=hrel;have hsl:=cG f i;obtain ⟨m,hm⟩:=az ((selTo f i).length);have Hm:=aa hm;rw [hm] at hsl HO ⊢
     by_cases d:i<N
     ·have hii:(i:Int)<(N:Int):=by omega
      have cg:=o.out.1.cell d;have hgl:=o.out.1.lt;cases hfi:f i with
      | false =>
       have E:Hid (selTo f (i+1)=selTo f i):=gI hfi;rw [hfi] at cg;clear hfi hm;go_wp2_with fail
       go_roundg (N-(i+1))
       case measure=>omega
       case rel=>exact ⟨i+1,AO,cO,by omega,rfl,by rw [E.out,Hm.out],by go_num,(by rw [E.out,Hm.out];exact HO.out:Hid _),o⟩
      | true =>
       have E:Hid (selTo f (i+1)=selTo f i ++ [(i:Int)]):=jT hfi;rw [hfi] at cg;clear hfi hm
       go_wp2_with (at_builtin;refine wpList_append_own _ rfl _ _ 26 rfl (w1.heap.size+1) 3 i0 (.int .i64 0) 1 8 Tryz.underlying26 hi0 hz0 hz1 hz2 rfl (by decide) _ _ _ rfl (HO.out.alloc _) ⟨wi.heap.size,0,none⟩ 1 1 [.int .i64 i] rfl rfl bz dG (by unfold maxLen;omega) (by omega) (by simp;omega) ?_)
       intro v' w6 v t _;obtain ⟨A6,c6,hv⟩:=fO v;subst hv;have HSl:Hid ((selTo f (i+1)).length=m+1):=by show _=_;rw [E.out,List.length_append,Hm.out];rfl
       have HO6:Hid (w6.ownsRow (w1.heap.size+1) 3 1 (.slice A6 (selTo f (i+1)).length c6) (selTo f (i+1)).length (aE (selTo f (i+1)))):=by
        show World.ownsRow ..
        rw [HSl.out,E.out,mapI_snoc];exact v
       have hne:some w1.heap.size≠(Value.slice AO m cO).ownBlock:=fun e=>by have:=(HO.out.lt _ e.symm).1;omega
       have HI6:Hid (Bz w1 w1.heap.size N f w6):=by
        refine ⟨?_,(o.out.2.alloc (by omega) _).grown t (by simp;omega) (fun i hi=>by have:=(HO.out.lt i hi).1;omega)⟩
        unfold fT;rw [t.block w1.heap.size (by simp;omega) hne,Below.heap_alloc _ _ _ (by omega)]
        exact o.out.1
       clear v t hne;go_wp2_with fail
       go_roundg (N-(i+1))
       case measure=>omega
       case rel=>exact ⟨i+1,A6,c6,by omega,rfl,by rw [HSl.out],by go_num,HO6,HI6⟩
     have H:i=N:=by omega
     subst H;clear hm;go_wp2_with fail;go_ret;have h':wi.ownsRow (w1.heap.size+1) 3 1 (.slice AO (selTo f i).length cO) (selTo f i).length (aE (selTo f i)):=by rw [Hm.out];exact HO.out
     obtain ⟨A',c',e',hI⟩:=bQ h';cases e';refine ⟨⟨AO,cO,?_,?_⟩,ae HB1.out o.out.2⟩
     ·rw [←V.out,Hm.out];rfl
     rw [←V.out];exact hI
   go_wp2_with fail
   go_loopg [8,9] N (fun gg s8 s9 wi => ∃ (i:Nat) (ag:Bool) (f':Nat→Bool),i≤N∧gg=N-i∧s8=.bool ag∧s9=.int .i64 i∧Hid (Bz w1 w1.heap.size N f' wi)∧Hid (wh D n N Q f')∧Hid (tz ys f' ag i)∧Hid (kQ N f f' ag))
   case atStart=>exact ⟨0,false,f,zU,rfl,rfl,rfl,HIf,K0,(fun _ j hj=>absurd hj (Nat.not_lt_zero _):tz ys f false 0),(⟨fun h=>(by cases h),fun _=>rfl⟩:kQ N f f false)⟩
   case round =>
    obtain ⟨wi,rfl⟩:∃ wi:World,wi=wr:=⟨_,rfl⟩;obtain ⟨i,ag,f',hi,rfl,rfl,rfl,o,HDi,HCi,HPs⟩:=hrel
    by_cases d:i<N
    ·have hii:(i:Int)<(N:Int):=by omega
     have Y:=(HT.out i d).2.1;obtain ⟨R,P⟩:=az ((ys.getD i eq).p);have HRe:=aa P;have HIz:Hid (∀ z∈R,∃ j:Nat,z=(j:Int)∧j<N):=by have:=HIn.out i d;rw [P] at this;exact this
     have HSt:Hid (∀ j:Nat,(j:Int)∈R→BB D n i j):=fun j hj=>(jW (HT.out i d)).2 (by rw [HRe.out];exact hj)
     rw [P] at Y;obtain ⟨r,hr⟩:=az R.length;have s:=aa hr;rw [hr] at Y;have hrI:(r:Int)≤12:=by omega
     have HK0:Hid (Kj R f' ag i 0):=fun _ _ z J=>by simp at J
     clear P hr;go_wp2_with fail
     go_loopg [8,10] r (fun gg s8 s10 wk => ∃ (u:Nat) (ag':Bool) (q:Nat→Bool),u≤r∧gg=r-u∧s8=.bool ag'∧s10=.int .i64 u∧Hid (Bz w1 w1.heap.size N q wk)∧Hid (wh D n N Q q)∧Hid (tz ys q ag' i)∧Hid (kQ N f q ag')∧Hid (Kj R q ag' i u))
     case atStart=>exact ⟨0,ag,f',zU,rfl,rfl,rfl,o,HDi,HCi,HPs,HK0⟩
     case round =>
      obtain ⟨wk,rfl⟩:∃ wk:World,wk=wr:=⟨_,rfl⟩;obtain ⟨u,ag',q,hu,rfl,rfl,rfl,g,K,HC2,L,HK2⟩:=hrel;have hBk:=g.out.2;obtain ⟨hcap,h0 | ⟨b,rfl,hbw,hcl⟩,hrw⟩:=HY.out.later hBk
      ·have:=M.out;rw [h0] at this;simp at this;omega
      have cj:=hcl i (by rw [M.out];exact d)
      have I:=hrw _ (il (k:=i) (by rw [M.out];exact d))
      rw [M.out] at hcap;have hcapI:(N:Int)≤(c1:Int):=by omega
      rw [HRe.out] at cj I;rw [s.out] at cj;generalize (ys.getD i eq).A=Aj at cj I;generalize (ys.getD i eq).c=cjj at cj I;have HTj:=aa I;have cg:=g.out.1.cell d;have hgl:=g.out.1.lt;have HNx:Hid ((u=r∨q i=true)→tz ys q ag' (i+1)):=fun hor ha j hj hf=>by
       by_cases e:j=i
       ·subst e
        rcases hor with h | h
        ·have h2:=HK2.out ha hf
         rw [h,List.take_of_length_le (by rw [s.out];exact zT)] at h2
         rw [HRe.out];exact h2
        rw [h] at hf;cases hf
       exact HC2.out ha j (by omega) hf
      clear hcl hrw I hBk
      by_cases T:u<r
      ·have hui:(u:Int)<(r:Int):=by omega
       cases hfi:q i with
       | true =>
        have q0:=aa (HNx.out (Or.inr hfi));rw [hfi] at cg;clear hfi;go_wp2_with fail
        go_roundg (N-(i+1))
        case measure=>omega
        case rel=>exact ⟨i+1,ag',q,by omega,rfl,rfl,by go_num,g,K,q0,L⟩
       | false =>
        have HFi:=aa hfi;rw [hfi] at cg;obtain ⟨hcR,-,hR0 | ⟨br,cs,fr,rfl,hbr,hcr⟩⟩:=HTj.out
        ·have:=s.out;rw [hR0] at this;simp at this;omega
        have cu:=hcr u (by rw [s.out];exact T)
        rw [s.out] at hcR;have hcRi:(r:Int)≤(cjj:Int):=by omega
        have hbrl:br<wk.heap.size:=(zY hbr).1;have l:R.getD u 0∈R:=f6 (by rw [s.out];exact T)
        obtain ⟨z,J,U⟩:=HIz.out _ l;rw [J] at cu l;have HTk:Hid (R.take (u+1)=R.take u ++ [(z:Int)]):=by
         show _=_
         rw [←J,List.take_succ_eq_append_getElem (by rw [s.out];exact T),zZ,zX (by rw [s.out];exact T)]
         rfl
        have HSz:=aa (HSt.out z l);have hzI:(z:Int)<(N:Int):=by omega
        have cz:=g.out.1.cell U;have fz:=g.out.1.frozen i;clear hcr hbr J l hfi;cases hfz:q z with
        | true =>
         have HD3:=aa (K.out.put U hfz HSz.out);have HP3:Hid (kQ N f (ik q i) true):=vm L.out d HFi.out;have HI3:Hid (Bz w1 w1.heap.size N (ik q i) (wk.setCell ⟨w1.heap.size,i,none⟩ (.bool true))):=g.out.put;rw [hfz] at cz;clear hfz;go_wp2_with fail
         go_roundg (r-(u+1))
         case measure=>omega
         case rel=>exact ⟨u+1,true,ik q i,by omega,rfl,rfl,by go_num,HI3,HD3,(fun h=>(by cases h):tz ys (ik q i) true i),HP3,(fun h=>(by cases h):Kj R (ik q i) true i (u+1))⟩
        | false =>
         have HK3:Hid (Kj R q ag' i (u+1)):=fun ha hf x hx=>by
          rw [HTk.out,List.mem_append,List.mem_singleton] at hx
          rcases hx with hx | hx
          ·exact HK2.out ha hf x hx
          rw [hx,Int.toNat_natCast];exact hfz
         rw [hfz] at cz;clear hfz;go_wp2_with fail
         go_roundg (r-(u+1))
         case measure=>omega
         case rel=>exact ⟨u+1,ag',q,by omega,rfl,rfl,by go_num,g,K,HC2,L,HK3⟩
      have hue:u=r:=by omega
      subst hue;have q0:Hid (tz ys q ag' (i+1)):=HNx.out (Or.inl rfl);go_wp2_with fail
      go_roundg (N-(i+1))
      case measure=>omega
      case rel=>exact ⟨i+1,ag',q,by omega,rfl,rfl,by go_num,g,K,q0,L⟩
    have H:i=N:=by omega
    subst H;have HMu:Hid (D5 f' ag i<D5 f true i):=by
     show _<_
     unfold D5;cases ag with
     | true=>have:=HPs.out.1 rfl;simp;omega
     | false=>rw [HPs.out.2 rfl];simp
    go_wp2_with fail
    go_roundg (D5 f' ag i)
    case measure=>exact HMu.out
    case rel=>exact ⟨ag,f',rfl,rfl,o,HDi,HCi⟩
end Go.Proofs.YtohgnbgamfepoaaGreatDoor
