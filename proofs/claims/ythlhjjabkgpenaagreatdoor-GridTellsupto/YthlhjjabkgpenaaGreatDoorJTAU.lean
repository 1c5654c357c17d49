/- The document's own rea -/
import Derived.Deep.CutRange
import Derived.Test.YthlhjjabkgpenaaGreatDoorJTAT
namespace Go.Proofs.YthlhjjabkgpenaaGreatDoor
open ChangeShapes WideShapes ChangeAt RowKit
set_option maxRecDepth 99999
set_option maxHeartbeats 0
theorem Cq (s:ByteArray) (q base a:Nat) (h:FM s q base a):m5 s q base 3 a:=by
 intro v L w n m k b j;have l:=h v L w n m k b j
 show Calls Tryz.prog 84 #[.pointer (some ⟨q,0,none⟩),.int .i64 3] w _
 clear n b h
 go_enter Tryz.func84,Tryz.ntmps84
 go_wp2_with fail;refine l.mono ?_;rintro e w1 ⟨d,⟨a1,t,v1,rfl,c⟩ | ⟨i,a1,v1,L1,rfl,c⟩⟩
 ·have f:=aa c
  have g:=aa d;clear c d l;go_wp2_with fail;go_ret;exact ⟨g.out,Or.inl ⟨a1,t,v1,rfl,f.out⟩⟩
 have f:=aa c;have g:=aa d;clear c d l;go_wp2_with fail;go_ret;exact ⟨g.out,Or.inr ⟨i,a1,v1,L1,rfl,f.out⟩⟩
def Gu (c:Int):Int:=if signI c<0 then 0 else 3+signI c
theorem Ez {c:Int} (a:c≠43) (b:c≠45) (d:c≠42) (e:c≠47):Gu c=0:=by
 unfold Gu signI;rw [if_neg a,if_neg b,if_neg d,if_neg e]
 rfl
theorem EA {c:Int} (h:Gu c≠0) : ¬ signI c<0∧Gu c=3+signI c:=by
 unfold Gu at *
 by_cases e:signI c<0
 ·rw [if_pos e] at h;exact absurd rfl h
 rw [if_neg e];exact ⟨e,rfl⟩
theorem EB {c:Int} (h:Gu c=0):signI c<0:=by
 by_cases e:signI c<0
 ·exact e
 unfold Gu at h;rw [if_neg e] at h
 rcases sgn_four e with ⟨-,a⟩ | ⟨-,a⟩ | ⟨-,a⟩ | ⟨-,a⟩ <;> rw [a] at h <;> omega
theorem Ep (s:ByteArray) (k:Nat):pq s k s.size:=fun h=>absurd h (Nat.lt_irrefl _)
theorem Bk {s:ByteArray} {k a:Nat} (h:pq s (k+1) a) (c:bindN (3+signI (nextB s a))≠(k:Int)):pq s k a:=fun b=>by
 rcases h b with h | h
 ·exact Or.inl h
 right;omega
theorem uU (s:ByteArray) (q base a k:Nat) (hs:s.size≤100) (hk1:1≤k) (hk2:k≤2) (h0:m5 s q base (k+1) a) (ih:∀ a1,a<a1→a1≤s.size→m5 s q base (k+1) a1):m5 s q base k a:=by
 intro v L w hI N K z hLa;have HIH:=aa ih;have hc:Calls Tryz.prog 84 #[.pointer (some ⟨q,0,none⟩),.int .i64 ((k:Int)+1)] w fun e w'=>sx s q base (k+1) a L w e w':=h0 v L w hI N K z hLa
 have hki:1≤(k:Int):=by omega
 have hki2:(k:Int)≤2:=by omega
 have hk3:((k:Int) == 3)=false:=by simp;omega
 have hsi:(s.size:Int)≤100:=by omega
 clear hI z h0 ih
 go_enter Tryz.func84,Tryz.ntmps84
 go_wp2_with fail;refine hc.mono ?_;rintro e w1 ho;obtain ⟨ix,he⟩:∃ ix:Int,e=.returned (.int .i64 ix):=by
  rcases ho with ⟨-,⟨a1,t,v1,rfl,-⟩ | ⟨i,a1,v1,L1,rfl,-⟩⟩
  ·exact ⟨_,rfl⟩
  exact ⟨_,rfl⟩
 subst he;have HO:=aa ho;clear ho hc;go_wp2_with fail
 go_loopg [5] s.size (fun g s5 wr=>Kept base (fun j=>j=q) w wr∧((∃ (a1:Nat) (t:Tre) (v1:Value),s.size-a1≤g∧s5=.int .i64 ((L.length+sizT t-1:Nat):Int)∧rc s k a a1 t∧pq s (k+1) a1∧eo wr q s a1 false v1∧wr.ownsRow base 142 5 v1 (L ++ post t L.length).length (aK (L ++ post t L.length))∧a+sizT t≤a1)∨(∃ (i:Int) (a1:Nat) (v1:Value) (L1:List Nd),s5=.int .i64 i∧CM s a a1∧eo wr q s a1 true v1∧wr.ownsRow base 142 5 v1 L1.length (aK L1))))
 case atStart =>
  obtain ⟨hK,⟨a1,t,v1,he,hR,hN,Lx,LA,D⟩ | ⟨i,a1,v1,L1,he,hF,Lx,LA⟩⟩:=HO.out
  ·simp only [Ending.returned.injEq] at he
   exact ⟨hK,Or.inl ⟨a1,t,v1,by omega,he,Ik hk1 hk2 hR,hN,Lx,LA,D⟩⟩
  simp only [Ending.returned.injEq] at he;exact ⟨hK,Or.inr ⟨i,a1,v1,L1,he,hF,Lx,LA⟩⟩
 case round =>
  obtain ⟨C,⟨a1,t,v1,hgm,rfl,hR,hN,b,H,hLr⟩ | ⟨i,a1,v1,L1,rfl,hF,b,H⟩⟩:=hrel
  ·have A:=aa C
   have HR:=aa hR;have HN:=aa hN;have d:=aa b;have B:=aa H;have F:=aa hLr;have r:base≤wr.heap.size:=zV K C.size;have d0:=b.c0;have d1:=b.c1;have d2:=b.c2;have d5:=b.lt;have ha1:a<a1:=hR.1;have ha2:a1≤s.size:=hR.2.1;have hp:=kV t;obtain ⟨iy,hiy⟩:=ax (L.length+sizT t-1);have Q:=aa hiy;rw [hiy];clear C hR hN b H hLr hiy HO
   by_cases Y:a1=s.size
   ·have hei:(a1:Int)=(s.size:Int):=by omega
    have hdl:decide ((a1:Int)<(s.size:Int))=false:=decide_eq_false (by omega)
    go_wp2_with fail
    go_quiet (fail)
    go_wp2_with fail;go_ret;exact ⟨A.out.trans (aq (ac (zS) _) r),Or.inl ⟨a1,t,v1,by rw [Q.out];rfl,HR.out,by rw [Y];exact Ep s k,d.out.later (ac (zS) _),ar B.out (ac (zS) _),F.out⟩⟩
   have hlt:a1<s.size:=by omega
   have hlti:(a1:Int)<(s.size:Int):=by omega
   have hby:=cM s a1 hlt;have HNx:Hid (nextB s a1=byteN s a1):=by show _=_;rw [nextB,if_neg (by omega)]
   obtain ⟨G,LE⟩:=ax (byteN s a1);have HCh:=aa LE;rw [LE] at hby;clear LE Y;go_wp2_with fail
   go_quiet (fail)
   obtain ⟨W1,LC⟩:=ax (wr.drewN nq);have O:Hid (Bl wr W1):=by show Below _ _ _;rw [←LC];exact ac (zS) _
   rw [LC];have f0:=(d.out.later O.out).c0;have f1:=(d.out.later O.out).c1;have f5:=(d.out.later O.out).lt;clear LC d0 d1 d2;go_wp2_with fail
   go_quiet (fail)
   obtain ⟨W2,LD⟩:=ax (W1.drewN nq);have n:Hid (Bl wr W2):=by show Below _ _ _;rw [←LD];exact ac O.out _
   rw [LD];have hbs:base≤W2.heap.size:=zV r n.out.size;have g1:=(d.out.later n.out).c1;have g3:=(d.out.later n.out).fr 1;have g5:=(d.out.later n.out).lt;clear LD f0 f1 f5
   go_upto_block 2 with fail
   go_cut [6] from 33 to 91 (fun s6 wx=>s6=.int .i64 (Gu G)∧wx=W2)
   case first =>
    by_cases e1:G=43
    ·subst e1
     go_wp2_with fail;go_meet;exact ⟨rfl,rfl⟩
    by_cases e2:G=45
    ·subst e2
     go_wp2_with fail;go_meet;exact ⟨rfl,rfl⟩
    by_cases e3:G=42
    ·subst e3
     go_wp2_with fail;go_meet;exact ⟨rfl,rfl⟩
    by_cases e4:G=47
    ·subst e4
     go_wp2_with fail;go_meet;exact ⟨rfl,rfl⟩
    have HE:=aa (Ez e1 e2 e3 e4);have b1:(G == 43)=false:=by simpa using e1
    have b2:(G == 45)=false:=by simpa using e2
    have b3:(G == 42)=false:=by simpa using e3
    have b4:(G == 47)=false:=by simpa using e4
    clear e1 e2 e3 e4;go_wp2_with fail;go_meet;exact ⟨by rw [HE.out],rfl⟩
   case rest =>
    obtain ⟨rfl,hwc⟩:=hcut;rw [hwc];obtain ⟨o,ho⟩:=ax (Gu G);have Lv:=aa ho;rw [ho];clear ho
    by_cases U:o=0
    ·subst U
     have Lt:Hid (pq s k a1):=fun _=>Or.inl (by rw [HNx.out,HCh.out];exact EB Lv.out)
     go_wp2_with fail;go_ret;exact ⟨A.out.trans (aq n.out r),Or.inl ⟨a1,t,v1,by rw [Q.out];rfl,HR.out,Lt.out,d.out.later n.out,ar B.out n.out,F.out⟩⟩
    have ho0b:(o == 0)=false:=by simpa using U
    have Lw:Hid (0≤signI (nextB s a1)∧o=3+signI (nextB s a1)):=by
     have h:=EA (c:=G) (by rw [Lv.out];exact U)
     rw [Lv.out] at h
     show _∧_
     rw [HNx.out,HCh.out];exact ⟨Int.not_lt.1 h.1,h.2⟩
    have V:=EW o W2;clear U
    by_cases E:bindN o=(k:Int)
    ·have hbkb:(bindN o != (k:Int))=false:=by simp [E]
     have HBk:=aa E;obtain ⟨L1,D⟩:=ax (L ++ post t L.length);have hl1:L1.length=L.length+sizT t:=by rw [←D,List.length_append,gX]
     have HL1:=aa D;have HLl:=aa hl1;have X:wr.ownsRow base 142 5 v1 L1.length (aK L1):=by rw [←D];exact B.out
     have HO1:=aa X;have hsz:L1.length≤a1:=by have:=F.out;omega
     clear E D hl1 X;go_wp2_with fail;refine V.mono ?_;rintro e w4 ⟨rfl,J⟩;have p:=aa (ae n.out J);have P:=aa (d.out.later p.out);have j1:=P.out.c1;have j3:=P.out.fr 1;have j5:=P.out.lt;obtain ⟨V4,I⟩:=ax (w4.setCell ⟨q,1,none⟩ (.int .i64 ((a1:Int)+1)));have hIV:eo V4 q s (a1+1) false v1:=by rw [←I];exact P.out.set1 (a1+1)
     have hOV:V4.ownsRow base 142 5 v1 L1.length (aK L1):=by rw [←I];exact fL (ar HO1.out p.out) N
     have Lz:Kept base (fun j=>j=q) w V4:=by rw [←I];exact (A.out.trans (aq p.out r)).trans eH
     have HKV:=aa Lz;have hsm:Calls Tryz.prog 84 #[.pointer (some ⟨q,0,none⟩),.int .i64 ((k:Int)+1)] V4 fun e w'=>sx s q base (k+1) (a1+1) L1 V4 e w':=HIH.out (a1+1) (by omega) (by omega) v1 L1 V4 hIV N (zV K Lz.size) hOV (by omega)
     clear J V hIV hOV Lz g1 g3 g5;go_wp2_with fail;refine hsm.mono ?_;rintro e w5 ⟨S,⟨a2,u,v2,rfl,LB,hN2,f,l,hL5⟩ | ⟨i,a2,v2,L2,rfl,hF2,f,l⟩⟩
     ·have R:=aa (HKV.out.trans S)
      have hb5:base≤w5.heap.size:=zV K R.out.size;obtain ⟨L2,T⟩:=ax (L1 ++ post u L1.length);have hl2:L2.length=L1.length+sizT u:=by rw [←T,List.length_append,gX]
      rw [T] at l;obtain ⟨m,hm⟩:=ax L2.length;rw [hm] at l;obtain ⟨A2,c2,hv2⟩:=bG l;subst hv2;obtain ⟨jy,hjy⟩:=ax (L1.length+sizT u-1);have hpu:=kV u;have hR3:rc s k a a2 (.bin o t u):=by
       have hsg:=Lw.out;rw [hsg.2];exact GF HR.out hlt (Int.not_lt.2 hsg.1) (by rw [←hsg.2];exact HBk.out) LB
      have hpo:L2 ++ [⟨o,0,⟨#[]⟩,(iy:Int),(jy:Int)⟩]=L ++ post (.bin o t u) L.length:=by
       rw [←T,←hjy,HLl.out,←HL1.out,post,←Q.out];simp only [List.append_assoc]
       rfl
      have hsb:L.length+sizT (.bin o t u)-1=m:=by
       have:=HLl.out
       show L.length+(sizT t+sizT u+1)-1=m
       omega
      have Z:a+sizT (.bin o t u)≤a2:=by
       have:=F.out
       show a+(sizT t+sizT u+1)≤a2
       omega
      have HR3:=aa hR3;have HN2:=aa hN2;have HLe2:=aa Z;have HSb:=aa hsb;rw [hjy];have ha2s:=LB.2.1;have HSt:Hid (∀ (W w6:World) (v':Value),Bl w5 W→W.grownBy w6 (Value.slice A2 m c2).ownBlock→w6.ownsRow base 142 5 v' (m+1) (aK L2 ++ cY ⟨o,0,⟨#[]⟩,(iy:Int),(jy:Int)⟩)→(eo (w6.setCell ⟨q,3,none⟩ v') q s a2 false v'∧(w6.setCell ⟨q,3,none⟩ v').ownsRow base 142 5 v' (L ++ post (.bin o t u) L.length).length (aK (L ++ post (.bin o t u) L.length))∧Kept base (fun j=>j=q) w (w6.setCell ⟨q,3,none⟩ v'))∧(w6.cell? ⟨q,3,none⟩=some (.slice A2 m c2)∧w6.frozen? ⟨q,3,none⟩=false)∧q<w6.heap.size):=by
       intro W w6 v' hb hg z;have h:=rj f l N hb hg;obtain ⟨h1,h2,h3⟩:=yj f l N hb5 hb hg z;refine ⟨⟨h1,?_,R.out.trans h3⟩,⟨h.c3,h.fr 3⟩,h.lt⟩;rw [←hpo,List.length_append,hm];exact h2
      have Lu:Hid (∀ w',Bl w5 w'→w'.ownsRow base 142 5 (.slice A2 m c2) m (aK L2)):=fun w' hb=>ar l hb
      have p2:=f.c2;have p3:=f.c3;have p4:=f.fr 3;have p5:=f.lt;have hm1:m≤100:=by omega
      have hgn:s.size-a2≤gk-1:=by omega
      have hgp:gk-1<gk:=by omega
      obtain ⟨i1,hj0,hj1,hj2,hj3⟩:=info_parts Tryz.infoNdF;clear S LB hN2 f l hL5 I hsm j1 j3 j5 T hl2 hm hjy hR3 hpo hsb Z
      go_wp2_with (at_builtin;refine wpList_append_own_at _ rfl _ _ 100 rfl base 142 i1 _ 5 48 Tryz.underlying100 hj0 hj1 hj2 hj3 rfl (by decide) _ m (aK L2) rfl (Lu.out _ ?qc0) ⟨w5.heap.size,0,none⟩ 1 1 (cY ⟨o,0,⟨#[]⟩,(iy:Int),(jy:Int)⟩) rfl rfl ?qc1 Ey ?qc2 ?qc3 ?qc4 ?_)
      case qc0=>exact (zS).alloc (zT) _
      case qc1=>exact Hb (w:=w5) (x:=⟨o,0,⟨#[]⟩,(iy:Int),(jy:Int)⟩) (by simp)
      case qc2=>unfold maxLen;omega
      case qc3=>omega
      case qc4=>simp;omega
      intro v' w6 y M _ _;obtain ⟨HS,⟨y1,y2⟩,y3⟩:=HSt.out _ _ _ ((zS).alloc (zT) _) M y;obtain ⟨A6,c6,hv'⟩:=bG y;subst hv';have HSo:=aa HS;clear y M HS p2 p3 p4 p5;go_wp2_with fail
      go_roundg (gk-1)
      case measure=>exact hgp
      case rel =>
       obtain ⟨x1,x2,x3⟩:=HSo.out;exact ⟨x3,Or.inl ⟨a2,.bin o t u,_,hgn,by rw [HSb.out],HR3.out,HN2.out,x1,x2,HLe2.out⟩⟩
     have R:=aa (HKV.out.trans S);have HF2:Hid (CM s a a2):=Dy HR.out hlt (Int.not_lt.2 Lw.out.1) hF2;have HI5:=aa f;have Lu:=aa l;have p2:=f.c2;have p5:=f.lt;clear S hF2 f l I hsm j1 j3 j5;go_wp2_with fail;go_ret;exact ⟨R.out,Or.inr ⟨_,a2,v2,L2,rfl,HF2.out,HI5.out,Lu.out⟩⟩
    have Lt:Hid (pq s k a1):=Bk HN.out (by rw [←Lw.out.2];exact E)
    have hbkb:(bindN o != (k:Int))=true:=by simpa using E
    clear E;go_wp2_with fail;refine V.mono ?_;rintro e w4 ⟨rfl,J⟩;have p:=aa (ae n.out J);clear J V;go_wp2_with fail;go_ret;exact ⟨A.out.trans (aq p.out r),Or.inl ⟨a1,t,v1,by rw [Q.out];rfl,HR.out,Lt.out,d.out.later p.out,ar B.out p.out,F.out⟩⟩
  have A:=aa C;have HF:=aa hF;have d:=aa b;have B:=aa H;have r:base≤wr.heap.size:=zV K C.size;have d0:=b.c0;have d1:=b.c1;have d2:=b.c2;have d5:=b.lt;clear C hF b H HO;go_wp2_with fail
  go_quiet (fail)
  go_wp2_with fail;go_ret;exact ⟨A.out.trans (aq (ac (zS) _) r),Or.inr ⟨i,a1,v1,L1,rfl,HF.out,d.out.later (ac (zS) _),ar B.out (ac (zS) _)⟩⟩
theorem GS (s:ByteArray) (q base:Nat) (e:s.size≤100):∀ (d a:Nat),s.size-a=d→a≤s.size→m5 s q base 1 a∧m5 s q base 2 a∧m5 s q base 3 a:=by
 intro d
 induction d using Nat.strongRecOn with
 | _ d ih =>
  intro a i h;have b:∀ a1,a<a1→a1≤s.size→m5 s q base 1 a1∧m5 s q base 2 a1∧m5 s q base 3 a1:=fun a1 f c=>ih (s.size-a1) (by omega) a1 rfl c
  have g:=Cq s q base a (Ex s q base a e h fun a1 f c=>(b a1 f c).1)
  have c:=uU s q base a 2 e (by omega) (by omega) g fun a1 x y=>(b a1 x y).2.2
  exact ⟨uU s q base a 1 e (by omega) (by omega) c fun a1 x y=>(b a1 x y).2.1,c,g⟩
def rI (s:ByteArray) (w:World):World:=w.alloc (.cells #[.string s,.int .i64 0,.bool false,.slice none 0 0] 138)
theorem qB (s:ByteArray) (w:World):(rI s w).heap.size=w.heap.size+1:=by simp [rI]
theorem Gh (s:ByteArray) (w:World):eo (rI s w) w.heap.size s 0 false (.slice none 0 0):=heap_alloc_new _ _
theorem wF (s:ByteArray) (w:World):Bl w (rI s w):=(zS).alloc (zT) _
theorem GC {w:World} {N:Nat} {v:Value} {l:List Nd} (h:w.ownsRow N 142 5 v l.length (aK l)):∃ A c,v=.slice A l.length c∧fQ w A c l:=by
 obtain ⟨A,c,a⟩:=bG h;subst a;exact ⟨A,c,rfl,Ec h⟩
theorem qR (s:ByteArray) (w:World) (H:s.size≤100):Calls Tryz.prog 55 #[.string s] w fun e w'=>(∃ A c,e=.returned (.tuple #[.slice A (bE s).length c,.int .i64 (i6 s:Int),.int .i64 (prsE s)])∧fQ w' A c (bE s))∧Bl w w':=by
 have Z:(s.size:Int)≤100:=by omega
 have N:Calls Tryz.prog 84 #[.pointer (some ⟨w.heap.size,0,none⟩),.int .i64 1] (rI s w) fun e w'=>sx s w.heap.size (w.heap.size+1) 1 0 [] (rI s w) e w' :=
  (GS s w.heap.size (w.heap.size+1) H s.size 0 rfl (zU)).1 (.slice none 0 0) [] (rI s w) (Gh s w) (Nat.lt_succ_self _) (by rw [qB];exact zT) (World.ownsRow_nil _ _ _ _) (zU)
 obtain ⟨W,v⟩:=ax (rI s w);have z:Hid (∀ w1,Kept (w.heap.size+1) (fun j=>j=w.heap.size) W w1→Bl w w1):=fun w1 hk=>by
  rw [←qB s w,v] at hk;exact gw (by rw [←v];exact wF s w) hk (zT)
 rw [v] at N;unfold rI at v;have I:(dz s).2=false→prsE s=2∧i6 s=(dz s).1.at'∧bE s=[]:=fun d=>by
  have g:prsE s=2:=by unfold prsE;rw [if_neg (by omega),if_neg (by rw [d];decide)]
  exact ⟨g,by unfold i6;rw [if_neg (by omega),if_neg (by rw [d];decide)],by unfold bE;rw [if_neg (by rw [g];decide)]⟩
 have J:(dz s).2=true→prsE s=av (eg s)∧i6 s=0:=fun d =>
  ⟨by unfold prsE;rw [if_neg (by omega),if_pos d],by unfold i6;rw [if_neg (by omega),if_pos d]⟩
 have C:=aa I;have T:=aa J;have E:Hid (bE s=if prsE s=0 then eg s else []):=rfl
 clear I J
 go_enter Tryz.func55,Tryz.ntmps55
 go_wp2_with fail;refine N.mono ?_;rintro e w1 ⟨K,⟨a1,t,v1,rfl,M,hN,a,f,-⟩ | ⟨i,a1,v1,L1,rfl,hF,a,f⟩⟩
 ·have m:=aa (z.out w1 K)
  have R:=a.c1;have S:=a.c2;have X:=a.c3;have d5:=a.lt;have ha1:a1≤s.size:=M.2.1
  by_cases P:a1<s.size
  ·obtain ⟨d,h⟩:=BP M hN P
   obtain ⟨g,k,L⟩:=C.out d;rw [h] at k;have p:=aa g;have y:=aa k;have r:=aa L;have b:=aa a;have hlti:(a1:Int)<(s.size:Int):=by omega
   clear K M hN a f v N d h g k L X;go_wp2_with fail
   go_quiet (fail)
   have q:Hid (Bl w (w1.drewN nq)):=ac m.out _;have f1:=(b.out.later (ac (zS) nq)).c1;have f5:=(b.out.later (ac (zS) nq)).lt;clear R S;go_wp2_with fail;go_returns;rw [p.out,y.out,r.out];exact ⟨⟨none,0,rfl,fQ.nil _ _ _ (by omega)⟩,q.out⟩
  have he:a1=s.size:=by omega
  subst he;obtain ⟨d,Q⟩:=E0 M;obtain ⟨g,k⟩:=T.out d;have O:([] ++ post t ([]:List Nd).length)=eg s:=by rw [Q];rfl
  rw [O] at f;obtain ⟨A,c,hv,u⟩:=GC f;subst hv;obtain ⟨Y,x⟩:=ax (av (eg s));have p:=aa (g.trans x);have y:=aa k;have o:=fun w' hN'=>BW A c (eg s) w' hN'
  rw [x] at o;obtain ⟨l,hl⟩:=ax (eg s);have U:=aa hl;rw [hl] at o u X a;have b:=aa a;have F:=aa u;clear K M hN a f v N d g k Q O P u hl x;go_wp2_with fail;refine (o _ F.out).mono ?_;rintro e w2 ⟨rfl,n⟩;have B:=aa (ae m.out n);have V:=aa (F.out.later n);have D:=aa (b.out.later n);have f3:=D.out.c3;have f5:=D.out.lt;clear n o R S X d5
  by_cases G:Y=0
  ·subst G
   have r:Hid (bE s=l):=by show _=_;rw [E.out,p.out,if_pos rfl];exact U.out
   go_wp2_with fail;go_returns;rw [p.out,y.out,r.out];exact ⟨⟨A,c,rfl,V.out⟩,B.out⟩
  have r:Hid (bE s=[]):=by show _=_;rw [E.out,p.out,if_neg G]
  have h0b:(Y == 0)=false:=by simpa using G
  have h0c:(Y != 0)=true:=by simpa using G
  clear G;go_wp2_with fail;go_returns;rw [p.out,y.out,r.out];exact ⟨⟨none,0,rfl,fQ.nil _ _ _ (by omega)⟩,B.out⟩
 have m:=aa (z.out w1 K);have R:=a.c1;have S:=a.c2;have d5:=a.lt;obtain ⟨d,h⟩:=E3 hF;obtain ⟨g,k,L⟩:=C.out d;rw [h] at k;have p:=aa g;have y:=aa k;have r:=aa L;have b:=aa a;clear K hF a f v N d h g k L;go_wp2_with fail
 go_quiet (fail)
 have q:Hid (Bl w (w1.drewN nq)):=ac m.out _;have f1:=(b.out.later (ac (zS) nq)).c1;have f5:=(b.out.later (ac (zS) nq)).lt;clear R S;go_wp2_with fail;go_returns;rw [p.out,y.out,r.out];exact ⟨⟨none,0,rfl,fQ.nil _ _ _ (by omega)⟩,q.out⟩
def cF:List Int→Int→List Int
 | [],n=>[n]
 | x :: r,n=>if x<n then x :: cF r n else if x=n then x :: r else n :: x :: r
theorem yY:∀ (L:List Int) (n:Int) (k:Nat),k≤L.length→(∀ i,i<k→L.getD i 0<n)→(k=L.length∨n≤L.getD k 0)→cF L n=if k<L.length∧L.getD k 0=n then L else L.take k ++ [n] ++ L.drop k
 | [],n,k,hk,_,_=>by
  have:k=0:=by simpa using hk
  subst this
  rfl
 | x :: r,n,0,_,_,h=>by
  have a:n≤x:=by simpa using h
  unfold cF;rw [if_neg (by omega)]
  by_cases e:x=n
  ·rw [if_pos e,if_pos (by simp [e])]
  rw [if_neg e,if_neg (by simp [e])]
  rfl
 | x :: r,n,k+1,hk,h1,h2=>by
  have a:x<n:=by simpa using h1 0 (by omega)
  have b:=yY r n k (by simpa using hk) (fun i c=>by simpa using h1 (i+1) (by omega)) (by simpa using h2)
  unfold cF;rw [if_pos a,b]
  by_cases e:k<r.length∧r.getD k 0=n
  ·rw [if_pos e,if_pos (by simpa using e)]
  rw [if_neg e,if_neg (by simpa using e)]
  rfl
theorem Hy {L:List Int} {n:Int} {k:Nat} (a:k<L.length) (h:L.getD k 0=n):L.contains n=true:=by
 rw [List.contains_iff_mem,←h,zZ,zX a];exact List.getElem_mem a
theorem F5 {L:List Int} {n:Int} (h:∀ i,i<L.length→L.getD i 0≠n):L.contains n=false:=by
 rw [Bool.eq_false_iff];intro a;rw [List.contains_iff_mem] at a;obtain ⟨i,b,e⟩:=List.getElem_of_mem a;refine h i b ?_;rw [zZ,zX b];exact e
theorem yJ (A:Option Addr) (cap:Nat) (L:List Int) (n:Int) (w:World) (B:L.length≤1000000) (C:aO w A cap L):Rt 115 #[.slice A L.length cap,.int .i64 n] w (.bool (L.contains n)):=by
 obtain ⟨I,z | ⟨b,o,rfl,H,c⟩⟩:=C
 ·subst z
  show Calls Tryz.prog 115 #[.slice A 0 cap,.int .i64 n] w _
  go_enter Tryz.func115,Tryz.ntmps115
  go_wp2_with fail;refine wp_loop_rounds 1 ?_;rw [rounds_succ];go_wp2_with fail;go_ret;exact ⟨rfl,zS⟩
 obtain ⟨m,u⟩:=ax L.length;have G:=aa u;have v:=aa c;rw [u];have F:(m:Int)≤1000000:=by omega
 clear c
 go_enter Tryz.func115,Tryz.ntmps115
 go_wp2_with fail
 go_loopg [5] m (fun g s5 wr => ∃ (k:Nat),k≤m∧g=m-k∧s5=.int .i64 k∧(∀ i,i<k→L.getD i 0≠n)∧wr=w)
 case atStart=>exact ⟨0,zU,rfl,rfl,fun i p=>absurd p (Nat.not_lt_zero i),rfl⟩
 case round =>
  obtain ⟨k,J,rfl,rfl,t,rfl⟩:=hrel;have s:=aa t;clear t
  by_cases E:k<m
  ·have D:(k:Int)<(m:Int):=by omega
   have l:=v.out k (by omega)
   have y:Hid (L.getD k 0=L.getD k 0):=rfl;obtain ⟨x,r⟩:=ax (L.getD k 0);have f:=aa r;rw [r] at l;clear r y
   by_cases a:x=n
   ·have h:=aa (Hy (L:=L) (n:=n) (k:=k) (by omega) (f.out.trans a))
    have j:(x == n)=true:=by simpa using a
    clear a;go_wp2_with fail;go_ret;exact ⟨by rw [h.out];rfl,zS⟩
   have j:(x == n)=false:=by simpa using a
   have d:Hid (∀ i,i<k+1→L.getD i 0≠n):=fun i p=>by
    by_cases e:i=k
    ·rw [e,f.out];exact a
    exact s.out i (by omega)
   clear a;go_wp2_with fail
   go_roundg (m-(k+1))
   case measure=>omega
   case rel=>exact ⟨k+1,by omega,rfl,by go_num,d.out,rfl⟩
  have q:k=m:=by omega
  subst q;have h:=aa (F5 (L:=L) (n:=n) fun i p=>s.out i (by omega))
  go_wp2_with fail;go_ret;exact ⟨by rw [h.out];rfl,zS⟩
theorem nT {w:World} {b o:Nat} {L:List Int} (h:∀ j,j<L.length→w.cell? ⟨b,o+j,none⟩=some (.int .i64 (L.getD j 0))) (k m:Nat) (d:k+m≤L.length):∀ j u,(((L.drop k).take m).map (Value.int .i64))[j]?=some u→w.cell? ((⟨b,o+k,none⟩:Addr).add j)=some u:=by
 intro j u a;have c:j<m:=by
  have:=(List.getElem?_eq_some_iff.1 a).1
  simp at this
  omega
 rw [bS]
 show w.cell? ⟨b,o+k+j,none⟩=_
 rw [Nat.add_assoc,h (k+j) (by omega)]
 rw [List.getElem?_map,List.getElem?_take_of_lt c,List.getElem?_drop,zX (by omega)] at a
 rw [zZ,zX (by omega)]
 exact a
end Go.Proofs.YthlhjjabkgpenaaGreatDoor
