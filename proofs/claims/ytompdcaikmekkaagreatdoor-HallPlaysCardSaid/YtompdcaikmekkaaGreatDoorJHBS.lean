/- An edit of no entries, -/
import Derived.Test.YtompdcaikmekkaaGreatDoorJHBR
namespace Go.Proofs.YtompdcaikmekkaaGreatDoor
open ChangeShapes WideShapes ChangeAt RowKit
set_option maxRecDepth 99999
set_option maxHeartbeats 0
theorem CV (A0:Option Addr) (cap n:Nat) (Ax:Option Addr) (m a:Nat) (p:List Int) (N:Int) (lf:Bool) (w:World) (hm:p.length=m) (hP:a7 w Ax a p) (S:EditCalls (aN w A0 n cap Ax m a N false) A0 cap n none 0 0 Ax m a 0 0 false lf) (T:lf=true) (hlo : ¬ N < -1000000) (hhi : ¬ 1000000<N) :
  Calls Tryz.prog 23 #[.agg #[.slice A0 n cap],.slice none 0 0,.agg #[.slice Ax m a,.int .i64 N,.bool false]] w fun e w'=>(∃ B c zs,e=.returned (.tuple #[.slice B zs.length c,.int .i64 0])∧fG w' B c zs∧lE zs=[⟨p,N⟩])∧Bl w w':=by
 obtain ⟨i0,F,W,J,K⟩:=info_parts Tryz.infoEnt;have X:=aa S;have M:Hid (Bl w (aN w A0 n cap Ax m a N false)):=dA ..;have Z:=S.place _ (zS);have HM:=aa hm;have HP:=aa hP;clear S hm hP;subst T
 go_enter Tryz.func23,Tryz.ntmps23
 go_wp2_with fail;refine Z.mono ?_;rintro e w1 ⟨rfl,b⟩;have O:=aa b;have c0:=aD b (by show w.heap.size<_;rw [ar];omega) (gd w A0 n cap Ax m a N false)
 have c1:=(b.cell (p:=⟨w.heap.size+1,0,none⟩) (by show w.heap.size+1<_;rw [ar];omega)).trans (aQ w A0 n cap Ax m a N false).1
 have t:Hid (w1.cell? ⟨w.heap.size+1,1,none⟩=some (.int .i64 N)):=(b.cell (p:=⟨w.heap.size+1,1,none⟩) (by show w.heap.size+1<_;rw [ar];omega)).trans (aQ w A0 n cap Ax m a N false).2.1
 have v:Hid (w1.cell? ⟨w.heap.size+1,2,none⟩=some (.bool false)):=(b.cell (p:=⟨w.heap.size+1,2,none⟩) (by show w.heap.size+1<_;rw [ar];omega)).trans (aQ w A0 n cap Ax m a N false).2.2
 have h:w.heap.size+1<w1.heap.size:=by have:=b.size;rw [ar] at this;omega
 have r:=aa c0;have s:=aa c1;have h2:=X.out.find rfl w1 b;clear b Z;go_wp2_with fail;refine h2.mono ?_;rintro e w2 ⟨rfl,b⟩;have o:=aa (ae O.out b);have d0:w2.cell? ⟨w.heap.size,0,none⟩=some (.slice A0 n cap):=aD b (by show w.heap.size<_;omega) r.out
 have Y:w2.cell? ⟨w.heap.size+1,0,none⟩=some (.slice Ax m a):=aD b h s.out;have x:=aa Y;have z:Hid (w2.cell? ⟨w.heap.size+1,1,none⟩=some (.int .i64 N)):=aD b h t.out;have A:Hid (w2.cell? ⟨w.heap.size+1,2,none⟩=some (.bool false)):=aD b h v.out;have i:w.heap.size+1<w2.heap.size:=zW h b.size;have h3:=X.out.leaf rfl w2 o.out;clear b h2 c0 c1 r s t v;go_wp2_with fail;refine h3.mono ?_;rintro e w3 ⟨rfl,b⟩;have P:=aa (ae o.out b);have f1:w3.cell? ⟨w.heap.size+1,0,none⟩=some (.slice Ax m a):=aD b i x.out;have f2:w3.cell? ⟨w.heap.size+1,1,none⟩=some (.int .i64 N):=aD b i z.out;have f3:w3.cell? ⟨w.heap.size+1,2,none⟩=some (.bool false):=aD b i A.out;have hz3:w.heap.size+1<w3.heap.size:=zW i b.size;clear b h3 d0 Y x z A;obtain ⟨w4,U⟩:∃ w4:World,w4=w3:=⟨_,rfl⟩;subst U;have f:=P.out;have l:w.heap.size+1<(aN w A0 n cap Ax m a N false).heap.size:=by rw [ar];omega
 have Q:=aa f;have g1:w4.cell? ⟨w.heap.size+1,0,none⟩=some (.slice Ax m a):=(f.cell (p:=⟨w.heap.size+1,0,none⟩) l).trans (aQ w A0 n cap Ax m a N false).1;have g2:w4.cell? ⟨w.heap.size+1,1,none⟩=some (.int .i64 N):=(f.cell (p:=⟨w.heap.size+1,1,none⟩) l).trans (aQ w A0 n cap Ax m a N false).2.1;have g3:w4.cell? ⟨w.heap.size+1,2,none⟩=some (.bool false):=(f.cell (p:=⟨w.heap.size+1,2,none⟩) l).trans (aQ w A0 n cap Ax m a N false).2.2;clear f f1 f2 f3;have E:=de w4 Ax m a N 83;have D:Hid ((dr w4 Ax m a N 83).ownsRow (aN w A0 n cap Ax m a N false).heap.size 83 2 (.slice none 0 0) 0 []):=World.ownsRow_nil _ _ _ _;have j:=aa (ae Q.out E);have L:Hid (∀ k u,(ah [⟨⟨p,N⟩,Ax,a⟩])[k]?=some u→(dr w4 Ax m a N 83).cell? ((⟨w4.heap.size,0,none⟩:Addr).add k)=some u):=fun k u hk=>by
  have hh:(dr w4 Ax m a N 83).heap[w4.heap.size]?=some (.cells #[.slice Ax m a,.int .i64 N] 83 (0,0)):=heap_alloc_new w4 _;rw [aK,Nat.zero_add,Lib.cell_of_heap hh]
  simpa [ah,HM.out] using hk
 clear E
 go_wp2_with (at_builtin;refine wpList_append_own _ rfl _ _ 35 rfl (aN w A0 n cap Ax m a N false).heap.size 83 i0 (.agg #[.slice none 0 0,.int .i64 0]) 2 32 Tryz.underlying35 F W J K rfl (by decide) _ _ _ rfl D.out ⟨w4.heap.size,0,none⟩ 1 1 (ah [⟨⟨p,N⟩,Ax,a⟩]) rfl rfl L.out (bE _) ?qd4 ?qd5 j.out.size ?_)
 case qd4=>simp only [maxLen];omega
 case qd5=>omega
 intro v2 w5 g d _;have G:w5.ownsRow (aN w A0 n cap Ax m a N false).heap.size 83 2 v2 1 (ah [⟨⟨p,N⟩,Ax,a⟩]):=by simpa using g
 have C:=aa G;have R:Hid (Below (aN w A0 n cap Ax m a N false).heap.size (aN w A0 n cap Ax m a N false) w5):=gD j.out j.out.size D.out d;clear g d G g1 g2 g3
 go_wp2_with (at_builtin;refine wpList_append_own_none rfl _ _ 35 rfl (aN w A0 n cap Ax m a N false).heap.size 83 i0 2 Tryz.underlying35 F _ 1 _ rfl C.out rfl ?_)
 obtain ⟨w6,V⟩:∃ w6:World,w6=w5:=⟨_,rfl⟩;subst V;have q:=aa (ae M.out R.out);have H:=C.out;obtain ⟨B,c,I,hV⟩:=kX (zs:=[⟨⟨p,N⟩,Ax,a⟩]) H (fun y hy=>by rw [List.mem_singleton.1 hy];exact HP.out.later q.out)
 have HV:=aa hV;rw [I];clear H hV I;go_wp2_with fail
 go_ret2
 exact ⟨⟨B,c,_,rfl,HV.out,rfl⟩,q.out⟩
theorem yn (A0:Option Addr) (cap n:Nat) (b o:Nat) (sp:Option Nat) (X:Nat) (Ax:Option Addr) (m a:Nat) (p:List Int) (N:Int) (lf:Bool) (w:World) (hm:p.length=m) (hP:a7 w Ax a p) (Y:EditCalls (aN w A0 n cap Ax m a N false) A0 cap n (some ⟨b,o,sp⟩) 0 X Ax m a 0 0 false lf) (KG:lf=true) (hlo : ¬ N < -1000000) (hhi : ¬ 1000000<N) :
  Calls Tryz.prog 23 #[.agg #[.slice A0 n cap],.slice (some ⟨b,o,sp⟩) 0 X,.agg #[.slice Ax m a,.int .i64 N,.bool false]] w fun e w'=>(∃ B c zs,e=.returned (.tuple #[.slice B zs.length c,.int .i64 0])∧fG w' B c zs∧lE zs=[⟨p,N⟩])∧Bl w w':=by
 obtain ⟨i0,M,R,r,s⟩:=info_parts Tryz.infoEnt;have HX:=aa Y;have T:Hid (Bl w (aN w A0 n cap Ax m a N false)):=dA ..;have h1:=Y.place _ (zS);have HM:=aa hm;have HP:=aa hP;clear Y hm hP;subst KG
 go_enter Tryz.func23,Tryz.ntmps23
 go_wp2_with fail;refine h1.mono ?_;rintro e w1 ⟨rfl,d⟩;have U:=aa d;have c0:=aD d (by show w.heap.size<_;rw [ar];omega) (gd w A0 n cap Ax m a N false)
 have c1:=(d.cell (p:=⟨w.heap.size+1,0,none⟩) (by show w.heap.size+1<_;rw [ar];omega)).trans (aQ w A0 n cap Ax m a N false).1
 have E:Hid (w1.cell? ⟨w.heap.size+1,1,none⟩=some (.int .i64 N)):=(d.cell (p:=⟨w.heap.size+1,1,none⟩) (by show w.heap.size+1<_;rw [ar];omega)).trans (aQ w A0 n cap Ax m a N false).2.1
 have F:Hid (w1.cell? ⟨w.heap.size+1,2,none⟩=some (.bool false)):=(d.cell (p:=⟨w.heap.size+1,2,none⟩) (by show w.heap.size+1<_;rw [ar];omega)).trans (aQ w A0 n cap Ax m a N false).2.2
 have l:w.heap.size+1<w1.heap.size:=by have:=d.size;rw [ar] at this;omega
 have C:=aa c0;have D:=aa c1;have h2:=HX.out.find rfl w1 d;clear d h1;go_wp2_with fail;refine h2.mono ?_;rintro e w2 ⟨rfl,d⟩;have z:=aa (ae U.out d);have d0:w2.cell? ⟨w.heap.size,0,none⟩=some (.slice A0 n cap):=aD d (by show w.heap.size<_;omega) C.out
 have d1:w2.cell? ⟨w.heap.size+1,0,none⟩=some (.slice Ax m a):=aD d l D.out;have G:=aa d1;have H:Hid (w2.cell? ⟨w.heap.size+1,1,none⟩=some (.int .i64 N)):=aD d l E.out;have I:Hid (w2.cell? ⟨w.heap.size+1,2,none⟩=some (.bool false)):=aD d l F.out;have q:w.heap.size+1<w2.heap.size:=zW l d.size;have h3:=HX.out.leaf rfl w2 z.out;clear d h2 c0 c1 C D E F;go_wp2_with fail;refine h3.mono ?_;rintro e w3 ⟨rfl,d⟩;have V:=aa (ae z.out d);have f1:w3.cell? ⟨w.heap.size+1,0,none⟩=some (.slice Ax m a):=aD d q G.out;have f2:w3.cell? ⟨w.heap.size+1,1,none⟩=some (.int .i64 N):=aD d q H.out;have f3:w3.cell? ⟨w.heap.size+1,2,none⟩=some (.bool false):=aD d q I.out;have hz3:w.heap.size+1<w3.heap.size:=zW q d.size;clear d h3 d0 d1 G H I;obtain ⟨w4,KH⟩:∃ w4:World,w4=w3:=⟨_,rfl⟩;subst KH;have h:=V.out;have x:w.heap.size+1<(aN w A0 n cap Ax m a N false).heap.size:=by rw [ar];omega
 have W:=aa h;have g1:w4.cell? ⟨w.heap.size+1,0,none⟩=some (.slice Ax m a):=(h.cell (p:=⟨w.heap.size+1,0,none⟩) x).trans (aQ w A0 n cap Ax m a N false).1;have g2:w4.cell? ⟨w.heap.size+1,1,none⟩=some (.int .i64 N):=(h.cell (p:=⟨w.heap.size+1,1,none⟩) x).trans (aQ w A0 n cap Ax m a N false).2.1;have g3:w4.cell? ⟨w.heap.size+1,2,none⟩=some (.bool false):=(h.cell (p:=⟨w.heap.size+1,2,none⟩) x).trans (aQ w A0 n cap Ax m a N false).2.2;clear h f1 f2 f3;have L:=de w4 Ax m a N 83;have K:Hid ((dr w4 Ax m a N 83).ownsRow (aN w A0 n cap Ax m a N false).heap.size 83 2 (.slice none 0 0) 0 []):=World.ownsRow_nil _ _ _ _;have v:=aa (ae W.out L);have S:Hid (∀ k u,(ah [⟨⟨p,N⟩,Ax,a⟩])[k]?=some u→(dr w4 Ax m a N 83).cell? ((⟨w4.heap.size,0,none⟩:Addr).add k)=some u):=fun k u Z=>by
  have hh:(dr w4 Ax m a N 83).heap[w4.heap.size]?=some (.cells #[.slice Ax m a,.int .i64 N] 83 (0,0)):=heap_alloc_new w4 _;rw [aK,Nat.zero_add,Lib.cell_of_heap hh]
  simpa [ah,HM.out] using Z
 clear L
 go_wp2_with (at_builtin;refine wpList_append_own _ rfl _ _ 35 rfl (aN w A0 n cap Ax m a N false).heap.size 83 i0 (.agg #[.slice none 0 0,.int .i64 0]) 2 32 Tryz.underlying35 M R r s rfl (by decide) _ _ _ rfl K.out ⟨w4.heap.size,0,none⟩ 1 1 (ah [⟨⟨p,N⟩,Ax,a⟩]) rfl rfl S.out (bE _) ?qd4 ?qd5 v.out.size ?_)
 case qd4=>simp only [maxLen];omega
 case qd5=>omega
 intro v2 w5 i f _;have O:w5.ownsRow (aN w A0 n cap Ax m a N false).heap.size 83 2 v2 1 (ah [⟨⟨p,N⟩,Ax,a⟩]):=by simpa using i
 have J:=aa O;have t:Hid (Below (aN w A0 n cap Ax m a N false).heap.size (aN w A0 n cap Ax m a N false) w5):=gD v.out v.out.size K.out f;clear i f O g1 g2 g3
 go_wp2_with (at_builtin;refine wpList_append_own _ rfl _ _ 35 rfl (aN w A0 n cap Ax m a N false).heap.size 83 i0 (.agg #[.slice none 0 0,.int .i64 0]) 2 32 Tryz.underlying35 M R r s rfl (by decide) _ _ _ rfl J.out ⟨b,o,sp⟩ 0 X [] rfl rfl (fun k u Z=>by simp at Z) (fun u hu=>by cases hu) ?qe4 ?qe5 t.out.size ?_)
 case qe4=>simp only [maxLen];omega
 case qe5=>omega
 intro v3 w6 j g _;have A:=aa (ae T.out (gD t.out t.out.size J.out g));have P:w6.ownsRow (aN w A0 n cap Ax m a N false).heap.size 83 2 v3 1 (ah [⟨⟨p,N⟩,Ax,a⟩]):=by simpa using j
 clear j g;obtain ⟨B,c,Q,hV⟩:=kX (zs:=[⟨⟨p,N⟩,Ax,a⟩]) P (fun y hy=>by rw [List.mem_singleton.1 hy];exact HP.out.later A.out)
 have HV:=aa hV;rw [Q];clear P hV Q;go_wp2_with fail
 go_ret2
 exact ⟨⟨B,c,_,rfl,HV.out,rfl⟩,A.out⟩
theorem CR (A0:Option Addr) (cap n:Nat) (D:Nat→Dm) (A:Nat→Option Addr) (C:Nat→Nat) (AE:Option Addr) (v:Nat) (xs:List EnL) (Ax:Option Addr) (i:Nat) (x:Ed) (w:World) (S:aY w A0 cap n D A C) (z:fG w AE v xs) (H:a7 w Ax i x.pl) (q:Ens D n (lE xs)) :
  Calls Tryz.prog 23 #[.agg #[.slice A0 n cap],.slice AE xs.length v,.agg #[.slice Ax x.pl.length i,.int .i64 x.n,.bool x.clear]] w fun e w'=>zm w (editErr D n (lE xs) x) (editV (lE xs) x) e w':=by
 obtain ⟨p,N,E⟩:=x;simp only at H ⊢;have m:=dA w A0 n cap Ax p.length i N E;have s:EditCalls (aN w A0 n cap Ax p.length i N E) A0 cap n AE xs.length v Ax p.length i (shapeErr D n p) (cntE (lE xs) p) (hasE (lE xs) p) (leafV D n p):=by
  refine ⟨fun w' f=>?_,fun L w' f=>?_,fun L w' f=>?_⟩
  ·exact kE A0 cap n D A C Ax i p w' q.right ((S.later m).later f) ((H.later m).later f)
  ·exact rD AE v xs Ax i p w' (ku q) ((z.1.later m).later f) (pR q (fV (by rw [DM q.right];exact L))) ((H.later m).later f)
  exact jv A0 cap n D A C Ax i p w' (fV (by rw [DM q.right];exact L)) ((S.later m).later f) ((H.later m).later f)
 have d:editErr D n (lE xs) ⟨p,N,E⟩=if shapeErr D n p≠0 then shapeErr D n p else if E=true then (if hasE (lE xs) p=true then 0 else 5) else if leafV D n p=false then 6 else if cT N=false then 1 else 0:=rfl
 by_cases F:editErr D n (lE xs) ⟨p,N,E⟩=0
 ·have L:shapeErr D n p=0:=by
   rw [d] at F
   split at F
   ·rename_i g;exact absurd F g
   rename_i g;simpa using g
  rw [L] at s d;rw [if_neg (by simp)] at d
  rw [F] at d;unfold zm;rw [F,px];have I:=Em (lE xs) p;rw [a8] at I;have good:∀ b o j,AE=some ⟨b,o,none⟩→j≤xs.length→cntE (lE xs) p≤j∧j≤cntE (lE xs) p+1→EditGood w b o v xs Ax i p (cntE (lE xs) p) j:=fun b o j r X R=>by
   refine ⟨fun w' f k u T=>?_,fun y V=>?_,H,ku q,z.1.1,z.1.2.1,I,X,R⟩
   ·obtain ⟨-,-,rfl | ⟨b',o',G,M⟩⟩:=z.1.later f
    ·cases T
    rw [r] at G;cases G;exact M.2.1 k u T
   obtain ⟨-,-,rfl | ⟨b',o',G,M⟩⟩:=z.1
   ·cases V
   exact M.2.2 y V
  cases E
  ·rw [if_neg (by simp)] at d
   have t:leafV D n p=true:=by
    cases g:leafV D n p
    ·rw [g,if_pos rfl] at d;cases d
    rfl
   rw [t,if_neg (by simp)] at d
   have K:cT N=true:=by
    cases g:cT N
    ·rw [g,if_pos rfl] at d;cases d
    rfl
   have hlh : -1000000≤N∧N≤1000000:=by simpa [cT] using K
   show Calls _ _ _ _ fun e w'=>(∃ B c zs,_∧_∧lE zs=setL (lE xs) p N)∧_
   unfold setL
   by_cases U:xs=[]
   ·subst U
    have O:cntE (lE []) p=0:=rfl;have Q:hasE (lE []) p=false:=rfl;rw [O,Q] at s;simp only [List.length_nil] at s ⊢
    show Calls _ _ _ _ fun e w'=>(∃ B c zs,_∧_∧lE zs=[⟨p,N⟩])∧_
    cases AE with
    | none =>
     have P:=z.2 rfl;subst P;exact CV A0 cap n Ax p.length i p N _ w rfl H s t (by omega) (by omega)
    | some a =>
     obtain ⟨b,o,sp⟩:=a;exact yn A0 cap n b o sp v Ax p.length i p N _ w rfl H s t (by omega) (by omega)
   obtain ⟨b,o,r⟩:∃ b o,AE=some ⟨b,o,none⟩:=by
    obtain ⟨-,-,g | ⟨b,o,g,-⟩⟩:=z.1
    ·exact absurd g U
    exact ⟨b,o,g⟩
   cases J:hasE (lE xs) p
   ·rw [J,r] at s
    rw [r,if_neg (by simp),Nat.add_zero]
    exact CU A0 cap n b o v xs Ax p.length i p N _ _ w rfl s t (by omega) (by omega) (good b o _ r I ⟨zT,by omega⟩)
   have l:=sh J;rw [a8] at l;rw [J,r] at s;rw [r,if_pos rfl];exact CW A0 cap n b o v xs Ax p.length i p N _ _ w rfl s t (by omega) (by omega) (good b o _ r l ⟨by omega,zT⟩)
  rw [if_pos rfl] at d;have J:hasE (lE xs) p=true:=by
   cases g:hasE (lE xs) p
   ·rw [g,if_neg (by simp)] at d;cases d
   rfl
  have l:=sh J;rw [a8] at l;obtain ⟨b,o,r⟩:∃ b o,AE=some ⟨b,o,none⟩:=by
   obtain ⟨-,-,g | ⟨b,o,g,-⟩⟩:=z.1
   ·rw [g] at l;simp at l
   exact ⟨b,o,g⟩
  rw [J,r] at s;rw [r]
  show Calls _ _ _ _ fun e w'=>(∃ B c zs,_∧_∧lE zs=clrL (lE xs) p)∧_
  unfold clrL;exact CT A0 cap n b o v xs Ax p.length i p N _ _ w rfl s (good b o _ r l ⟨by omega,zT⟩)
 have h:=CS A0 cap n AE xs.length v Ax p.length i N E _ _ _ _ _ w s d F;refine h.mono ?_;rintro e w' ⟨rfl,W⟩;exact ⟨⟨none,0,[],rfl,⟨b6.nil _ _ _ (by decide),fun _=>rfl⟩,by rw [CB F];rfl⟩,W⟩
theorem JM {W w':World} {q b o:Nat} {u v y z:Value} (h:q<W.heap.size∧b<W.heap.size∧W.cell? ⟨q,0,none⟩=some u∧W.cell? ⟨b,o,none⟩=some v∧W.cell? ⟨b,o+1,none⟩=some y∧W.cell? ⟨b,o+2,none⟩=some z) (a:Bl W w'):Bl W w'∧w'.cell? ⟨q,0,none⟩=some u∧w'.cell? ⟨b,o,none⟩=some v∧w'.cell? ⟨b,o+1,none⟩=some y∧w'.cell? ⟨b,o+2,none⟩=some z :=
 ⟨a,aD a h.1 h.2.2.1,aD a h.2.1 h.2.2.2.1,aD a h.2.1 h.2.2.2.2.1,aD a h.2.1 h.2.2.2.2.2⟩
def tn (w:World) (v:List En×Int×Int) (e:Ending) (w':World):Prop:=(∃ B c zs,e=.returned (.tuple #[.slice B zs.length c,.int .i64 v.2.1,.int .i64 v.2.2])∧fG w' B c zs∧lE zs=v.1)∧Bl w w'
theorem F0 (A0:Option Addr) (cap n:Nat) (D:Nat→Dm) (A:Nat→Option Addr) (C:Nat→Nat) (AE:Option Addr) (Y:Nat) (xs:List EnL) (AX:Option Addr) (cx:Nat) (ys:List EdL) (w:World) (Q:aY w A0 cap n D A C) (O:fG w AE Y xs) (Z:km w AX cx ys) :
  Calls Tryz.prog 7 #[.agg #[.slice A0 n cap],.slice AE xs.length Y,.slice AX ys.length cx] w fun e w'=>tn w (editsV D n (lE xs) (lD ys)) e w':=by
 have q:=aq w A0 n cap 24;have u:=aa q;unfold tn
 by_cases i:60<ys.length
 ·have HV:Hid (editsV D n (lE xs) (lD ys)=([],0,4)):=mO _ i
  have m:60<(ys.length:Int):=by omega
  generalize editsV D n (lE xs) (lD ys)=V at HV;generalize xs.length=nx;generalize ys.length=ny at i m;clear Q O Z q
  go_enter Tryz.func7,Tryz.ntmps7
  go_wp2_with fail
  go_ret3
  rw [HV.out];exact ⟨⟨none,0,[],rfl,⟨b6.nil _ _ _ (by decide),fun _=>rfl⟩,rfl⟩,u.out⟩
 have h:=sS A0 cap n D A C AE Y xs (ay w A0 n cap 24) (Q.later q) (O.1.later q);have m:(ys.length:Int)≤60:=by omega
 by_cases F:entsErr D n (lE xs)=0
 ·have P:=sk F
  have HV:Hid (editsV D n (lE xs) (lD ys)=aO D n (lE xs) 0 ((lD ys).drop 0)):=qS i F;have HM:=aa Q;have HX:=aa Z;have HE:=aa O;have KH:=aa P;rw [F] at h;generalize editsV D n (lE xs) (lD ys)=V at HV;obtain ⟨ny,J⟩:=aA ys.length;have G:=aa J;rw [J] at m ⊢;clear F P Q O Z q i J
  go_enter Tryz.func7,Tryz.ntmps7
  go_wp2_with fail;refine h.mono ?_;rintro e w1 ⟨rfl,l⟩;have t:Bl w w1:=ae u.out l;have v:=aa t;have c1:w1.cell? ⟨w.heap.size,0,none⟩=some (.slice A0 n cap):=aD l (by show w.heap.size<_;rw [aw];omega) (aI ..)
  have X:w.heap.size<w1.heap.size:=by have:=l.size;rw [aw] at this;omega
  have HM1:=aa (HM.out.later t);have HX1:=aa (HX.out.later t);have KG:=aa (HE.out.later t);clear l h t HM HX HE u;go_wp2_with fail
  go_loopg [1,10] ny (fun gm s1 s10 wr => ∃ (k:Nat) (B:Option Addr) (c:Nat) (zs:List EnL),k≤ny∧gm=ny-k∧s10=.int .i64 k∧s1=.slice B zs.length c∧Hid (fG wr B c zs∧Ens D n (lE zs))∧Hid (aO D n (lE zs) k ((lD ys).drop k)=aO D n (lE xs) 0 ((lD ys).drop 0))∧Bl w1 wr)
  case atStart=>exact ⟨0,AE,Y,xs,zU,rfl,rfl,rfl,⟨KG.out,KH.out⟩,(rfl:aO D n (lE xs) 0 ((lD ys).drop 0)=aO D n (lE xs) 0 ((lD ys).drop 0)),zS⟩
  case round =>
   obtain ⟨k,B,c,zs,hk,rfl,rfl,rfl,z,HF,j⟩:=hrel;have M:=aa j
   by_cases hlt:k<ny
   ·have I:k<ys.length:=by rw [G.out];exact hlt
    have hki:(k:Int)<(ny:Int):=by omega
    obtain ⟨-,-,g | ⟨b,o,rfl,H⟩⟩:=HX1.out.later j
    ·have:=G.out;rw [g] at this;simp at this;omega
    obtain ⟨N,d1,d2,W⟩:=H.2 k I;have c0:wr.cell? ⟨w.heap.size,0,none⟩=some (.slice A0 n cap):=aD j X c1;have hzr:w.heap.size<wr.heap.size:=zW X j.size;have HMr:=aa (HM1.out.later j);have d:Hid (∀ w',Bl wr w'→Calls Tryz.prog 23 #[.agg #[.slice A0 n cap],.slice B zs.length c,.agg #[.slice (ys.getD k noD).A (ys.getD k noD).x.pl.length (ys.getD k noD).c,.int .i64 (ys.getD k noD).x.n,.bool (ys.getD k noD).x.clear]] w' fun e w''=>(∃ B' s a,e=.returned (.tuple #[.slice B' a.length s,.int .i64 (editErr D n (lE zs) (ys.getD k noD).x)])∧fG w'' B' s a∧lE a=pw (editErr D n (lE zs) (ys.getD k noD).x) (editV (lE zs) (ys.getD k noD).x))∧Bl w' w''):=fun w' K=>CR A0 cap n D A C B c zs _ _ _ w' (HMr.out.later K) (z.out.1.later K) (W.later K) z.out.2
    have p:Hid (editErr D n (lE zs) (ys.getD k noD).x=0→aO D n (editV (lE zs) (ys.getD k noD).x) (k+1) ((lD ys).drop (k+1))=aO D n (lE xs) 0 ((lD ys).drop 0)∧Ens D n (editV (lE zs) (ys.getD k noD).x)):=fun g=>⟨by rw [←tV I g];exact HF.out,(z.out.2.edit g).2⟩
    have y:Hid (editErr D n (lE zs) (ys.getD k noD).x≠0→V=([],(k:Int),editErr D n (lE zs) (ys.getD k noD).x)):=fun g=>by rw [HV.out,←HF.out,qT I g]
    generalize editErr D n (lE zs) (ys.getD k noD).x=E at d p y;generalize editV (lE zs) (ys.getD k noD).x=l2 at d p;generalize (ys.getD k noD).A=A1 at N d;generalize (ys.getD k noD).c=k1 at N d;generalize (ys.getD k noD).x.n=n1 at d1 d;generalize (ys.getD k noD).x.clear=q1 at d2 d;generalize (ys.getD k noD).x.pl.length=m1 at N d;obtain ⟨nz,U⟩:=aA zs.length;rw [U] at d ⊢;have hbb:=H.1;have HC:Hid (w.heap.size<wr.heap.size∧b<wr.heap.size∧wr.cell? ⟨w.heap.size,0,none⟩=some (.slice A0 n cap)∧wr.cell? ⟨b,o+k*3,none⟩=some (.slice A1 m1 k1)∧wr.cell? ⟨b,o+k*3+1,none⟩=some (.int .i64 n1)∧wr.cell? ⟨b,o+k*3+2,none⟩=some (.bool q1)):=⟨hzr,hbb,c0,N,d1,d2⟩;clear H W j U c0 N d1 d2;go_wp2_with fail
    go_cut [11,12] (fun s11 s12 wx => ∃ B' s a,s11=.slice B' a.length s∧s12=.int .i64 E∧Hid (fG wx B' s a∧lE a=pw E l2)∧Bl wr wx)
    case first=>as_aux_lemma =>
     go_region_held3 (fun w'=>Bl wr w'∧w'.cell? ⟨w.heap.size,0,none⟩=some (.slice A0 n cap)∧w'.cell? ⟨b,o+k*3,none⟩=some (.slice A1 m1 k1)∧w'.cell? ⟨b,o+k*3+1,none⟩=some (.int .i64 n1)∧w'.cell? ⟨b,o+k*3+2,none⟩=some (.bool q1))
      ((refine JM HC.out ?_;go_grown;done))
      (first | (go_at_call 23;refine (d.out _ (by go_grown)).mono ?_;rintro e w3 ⟨⟨B',s,a,rfl,R,T⟩,S⟩;have hN3:=ae (W0:=wr) (by go_grown) S;have hy3:=hN3.size;have f:Hid (fG w3 B' s a∧lE a=pw E l2):=⟨R,T⟩;clear S R T))
     all_goals go_wp2_with fail
     all_goals go_meet
     all_goals exact ⟨B',s,a,rfl,rfl,f,by go_grown⟩
    case rest=>as_aux_lemma =>
    obtain ⟨B',s,a,rfl,rfl,f,hb⟩:=hcut;obtain ⟨w2,rfl⟩:∃ w2:World,w2=wc:=⟨_,rfl⟩;have L:=aa (ae M.out hb);clear hb HC d
    by_cases g:E=0
    ·have HN2:Hid (fG w2 B' s a∧Ens D n (lE a)):=⟨f.out.1,by rw [f.out.2,g,px];exact (p.out g).2⟩
     have HF2:Hid (aO D n (lE a) (k+1) ((lD ys).drop (k+1))=aO D n (lE xs) 0 ((lD ys).drop 0)):=by show _=_;rw [f.out.2,g,px];exact (p.out g).1
     subst g;clear p y f;go_wp2_with fail
     go_roundg (ny-(k+1))
     case measure=>omega
     case rel=>exact ⟨k+1,B',s,a,by omega,rfl,by go_num,rfl,HN2,HF2,L.out⟩
    have r:=aa (y.out g);have h0':(E != 0)=true:=by simpa using g
    clear p y f g;go_wp2_with fail
    go_ret3
    rw [r.out];exact ⟨⟨none,0,[],rfl,⟨b6.nil _ _ _ (by decide),fun _=>rfl⟩,rfl⟩,ae v.out L.out⟩
   have hke:k=ny:=by omega
   subst hke;have r:Hid (V=(lE zs,0,0)):=by show _=_;rw [HV.out,←HF.out,qU (by rw [G.out];exact zT)]
   clear j;go_wp2_with fail
   go_ret3
   rw [r.out];exact ⟨⟨_,_,zs,rfl,z.out.1,rfl⟩,ae v.out M.out⟩
 have HV:Hid (editsV D n (lE xs) (lD ys)=([],0,entsErr D n (lE xs))):=oE i F;have he':(entsErr D n (lE xs) != 0)=true:=by simpa using F
 generalize editsV D n (lE xs) (lD ys)=V at HV;generalize entsErr D n (lE xs)=E at h HV F he';generalize xs.length=nx at h;generalize ys.length=ny at i m;clear Q O Z q i F
 go_enter Tryz.func7,Tryz.ntmps7
 go_wp2_with fail;refine h.mono ?_;rintro e w1 ⟨rfl,l⟩;have v:=aa (ae u.out l);clear l;go_wp2_with fail
 go_ret3
 rw [HV.out];exact ⟨⟨none,0,[],rfl,⟨b6.nil _ _ _ (by decide),fun _=>rfl⟩,rfl⟩,v.out⟩
end Go.Proofs.YtompdcaikmekkaaGreatDoor
