/- What Turn of package g -/
import Derived.Test.YthlhjjabkgpenaaGreatDoorJTBK
import Derived.Test.YthlhjjabkgpenaaGreatDoorJTBN
namespace Go.Proofs.YthlhjjabkgpenaaGreatDoor
open ChangeShapes WideShapes ChangeAt RowKit
set_option maxRecDepth 99999
set_option maxHeartbeats 0
theorem Fv (args:Array Value) (w:World):(callFunc 39 args).run Tryz.prog w=.ok (.enter 39 args) w:=by simp [callFunc,Tryz.func39];rfl
theorem Cz (q:Nat) (Ag:Option Addr) (s:Nat) (e:List CsL) (r c:Nat) (w:World) (n:c<e.length) (p:r<(e.getD c noCs).L.length) (l:w.cell? ⟨q,2,none⟩=some (.slice Ag e.length s)) (K:eQ w Ag s e) :
  Rt 39 #[.int .i64 r,.int .i64 c,.pointer (some ⟨q,0,none⟩)] w (.tuple #[.agg #[.int .i64 (((e.getD c noCs).L.getD r noC).1),.int .i64 (((e.getD c noCs).L.getD r noC).2)],.nilIface]):=by
 obtain ⟨x,-,t | ⟨b,o,rfl,u,j⟩⟩:=K
 ·rw [t] at n;simp at n
 obtain ⟨h,k,B,t | ⟨b2,o2,F,g⟩⟩:=j c n
 ·rw [t] at p;simp at p
 obtain ⟨C,D⟩:=g.2 r p;have i:=g.1;rw [F] at h;have G:=World.block_lt_of_cell? _ _ l;simp only at G;have z:(c:Int)<(e.length:Int):=by omega
 have A:(r:Int)<((e.getD c noCs).L.length:Int):=by omega
 generalize ((e.getD c noCs).L.getD r noC).1=va at C;generalize ((e.getD c noCs).L.getD r noC).2=vb at D;generalize (e.getD c noCs).L.length=m at h A p k;generalize (e.getD c noCs).c=cm at h k B;generalize e.length=N at l z n x;obtain ⟨y,H⟩:=ax (w.alloc (.cells #[.int .i64 0,.int .i64 0] 40));have d:Bl w y:=by rw [←H];go_grown
 have f:y.heap[w.heap.size]?=some (.cells #[.int .i64 0,.int .i64 0] 40 (0,0)):=by rw [←H];exact heap_alloc_new ..
 have P:=aL d G l;have Q:=aL d u h;have R:=aL d i C;have S:=aL d i D;have O:w.heap.size<y.heap.size:=(zY f).1;obtain ⟨s0,s1,g0,g1⟩:=bP f;obtain ⟨t0,t1,-,-⟩:=bP (gV (a:=.int .i64 va) (b:=.int .i64 vb) f);have E:Hid (Bl w ((y.setCell ⟨w.heap.size,0,none⟩ (.int .i64 va)).setCell ⟨w.heap.size,1,none⟩ (.int .i64 vb))):=(d.setCell (zT) _).setCell (zT) _;obtain ⟨U,J⟩:=ax ((y.setCell ⟨w.heap.size,0,none⟩ (.int .i64 va)).setCell ⟨w.heap.size,1,none⟩ (.int .i64 vb));rw [J] at t0 t1 E;have I:(N:Int)≤(s:Int):=by omega
 have M:(m:Int)≤(cm:Int):=by omega
 clear d f g j F l h C D
 go_enter Tryz.func39,Tryz.ntmps39
 go_wp2_with fail;exact bodyPost_ret (v:=.tuple #[.agg #[.int .i64 va,.int .i64 vb],.nilIface]) (by simp [results,Tryz.results39,go_sem,t0,t1]) rfl ⟨rfl,E.out⟩
def uY (E:Int) (L:List Int):List Int:=if E=0 then L else []
def CI (E:Int) (Z:List (List (Int×Int))) (r c:Nat):List (List (Int×Int)):=if E=0 then K4 Z r c else []
def IP (w:World) (u v z:Value):World:=(iY w u v z).alloc (.cells #[.slice none 0 0,.slice none 0 0,.slice none 0 0] 30)
theorem IC (w:World) (u v z:Value):(IP w u v z).heap[w.heap.size]?=some (.cells #[u,v,z] 30 (0,0))∧(IP w u v z).heap[w.heap.size+1]?=some (.cells #[.slice none 0 0,.slice none 0 0,.slice none 0 0] 30 (0,0)):=by
 have a:=mF w u v z;have b:(iY w u v z).heap.size=w.heap.size+1:=by simp [iY]
 refine ⟨(Below.heap_alloc _ _ _ (by omega)).trans a,?_⟩
 rw [←b];exact heap_alloc_new ..
theorem Cy (w:World) (u v z:Value):Bl w (IP w u v z):=by unfold IP iY;go_grown
theorem AF (Ar:Option Addr) (R:List Int) (u:Nat) (Ac:Option Addr) (K:List Int) (s:Nat) (Ag:Option Addr) (t:Nat) (d:List CsL) (w:World) (hn:d.length≤1048576) (hx:∀ x∈d,x.L.length≤1048576) (hR:R.length≤1048576) (hK:K.length≤1048576) (Q:aO w Ar u R) (P:aO w Ac s K) (hZ:eQ w Ag t d) :
  Calls Tryz.prog 14 #[.agg #[.slice Ar R.length u,.slice Ac K.length s,.slice Ag d.length t]] w (iQ w (uY (bI R.length K.length (lZ d)) K) (uY (bI R.length K.length (lZ d)) R) (CI (bI R.length K.length (lZ d)) (lZ d) R.length K.length) (bI R.length K.length (lZ d))):=by
 have o:=Cy w (.slice Ar R.length u) (.slice Ac K.length s) (.slice Ag d.length t);obtain ⟨b1,b2⟩:=IC w (.slice Ar R.length u) (.slice Ac K.length s) (.slice Ag d.length t);obtain ⟨W,hW⟩:∃ W,IP w (.slice Ar R.length u) (.slice Ac K.length s) (.slice Ag d.length t)=W:=⟨_,rfl⟩;rw [hW] at o b1 b2;unfold IP iY at hW;have D:=j9 Ar R.length u Ac K.length s Ag t d W hn hx (hZ.later o);have hs:w.heap.size+1<W.heap.size:=(Array.getElem?_eq_some_iff.1 b2).1;have j:=aa o;have HK:Hid (∀ w',Bl W w'→w'.heap[w.heap.size]?=some (.cells #[.slice Ar R.length u,.slice Ac K.length s,.slice Ag d.length t] 30 (0,0))∧w'.heap[w.heap.size+1]?=some (.cells #[.slice none 0 0,.slice none 0 0,.slice none 0 0] 30 (0,0))∧w.heap.size+1<w'.heap.size):=fun w' h=>⟨(h.block _ (by omega)).trans b1,(h.block _ hs).trans b2,Nat.lt_of_lt_of_le hs h.size⟩
 obtain ⟨k0,k1,k2,-,-,-⟩:=de b1;have J:=aa Q;have H:=aa P;have HZ:=aa hZ;have hs0:w.heap.size<W.heap.size:=by omega
 clear o b1 b2 Q P hZ
 go_enter Tryz.func14,Tryz.ntmps14
 go_wp2_with fail;refine D.mono ?_;rintro e w1 ⟨he,g⟩;obtain ⟨E,y,d3⟩:=HK.out w1 g
 by_cases m:bI R.length K.length (lZ d)=0
 case neg =>
  rw [aj m] at he;subst he;obtain ⟨s0,s1,s2,g0,g1,g2⟩:=de y;obtain ⟨t0,t1,t2,-,-,-⟩:=de (mP (a:=.slice none 0 0) (b:=.slice none 0 0) (c:=.slice none 0 0) y);obtain ⟨U,hU⟩:∃ U,((w1.setCell ⟨w.heap.size+1,0,none⟩ (.slice none 0 0)).setCell ⟨w.heap.size+1,1,none⟩ (.slice none 0 0)).setCell ⟨w.heap.size+1,2,none⟩ (.slice none 0 0)=U:=⟨_,rfl⟩;have HF:Hid (iQ w (uY (bI R.length K.length (lZ d)) K) (uY (bI R.length K.length (lZ d)) R) (CI (bI R.length K.length (lZ d)) (lZ d) R.length K.length) (bI R.length K.length (lZ d)) (.returned (.tuple #[.agg #[.slice none 0 0,.slice none 0 0,.slice none 0 0],.iface 68 (.int .i64 (bI R.length K.length (lZ d)))])) U):=by
   show iQ ..
   unfold uY CI;rw [if_neg m,if_neg m,if_neg m,←hU];exact qz m (jf (ae j.out g) (by omega))
  rw [hU] at t0 t1 t2;clear g E y D m HK HZ J H k0 k1 k2;go_wp2_with fail;exact bodyPost_ret (v:=.tuple #[.agg #[.slice none 0 0,.slice none 0 0,.slice none 0 0],.iface 68 (.int .i64 (bI R.length K.length (lZ d)))]) (by simp [results,Tryz.results14,go_sem,t0,t1,t2]) rfl HF.out
 rw [m,errV_zero] at he;subst he;obtain ⟨Lu,Lv,-⟩:=ir m;rw [eb] at Lu;have HE:=aa m;have HW1:=aa g;have HZ1:=aa (HZ.out.later (ae j.out g));obtain ⟨r0,r1,r2,-,-,-⟩:=de E;have z:=qU 39 #[.pointer (some ⟨w.heap.size,0,none⟩)] (fun k i=>((lZ d).getD i []).getD k noC) (fun w'=>Bl w1 w') (fun _=>False) K.length R.length w1 hK hR Fv (fun b h=>h.elim) (Below.refl _ _) (fun w' w'' h V=>⟨V.os.trans h.os,V.tape.trans h.tape,V.output.trans h.output,Nat.le_trans h.size V.size,fun b f=>(V.block b f id).trans (h.block b f)⟩)
  (fun r c w' hr hc hI _=>by
   have T:c<d.length:=by omega
   have hm:=Lv _ (kS (Z:=lZ d) (i:=c) (by rw [eb];exact T))
   rw [kA] at hm;have h:=Cz w.heap.size Ag t d r c w' T (by omega) ((hI.cell (p:=⟨w.heap.size,2,none⟩) (by simp only;omega)).trans r2) (HZ1.out.later hI)
   rw [←kA] at h;exact h.mono fun e w'' ⟨h1,A⟩=>⟨h1,ae hI A,aq A (Nat.le_refl _)⟩)
 have HX:Hid (w.heap.size+1<w1.heap.size):=d3;clear g E y D m k0 k1 k2 Lu Lv r2;have d3':w.heap.size<w1.heap.size:=by omega
 go_wp2_with fail;refine z.mono ?_;rintro e w3 ⟨⟨tz,rfl,Lt,S,X⟩,N,-⟩;have n:=aa (ae HW1.out N);obtain ⟨E,y,d4⟩:=HK.out w3 n.out;have M:=aa (J.out.later (ae j.out n.out));have I:=aa (H.out.later (ae j.out n.out));have HTz:=aa S;have HLz:=aa X;have HTl:=aa Lt;have G:Hid (∀ w',Bl w3 w'→Bl w3 w'∧w'.cell? ⟨w.heap.size,0,none⟩=some (.slice Ar R.length u)∧w'.cell? ⟨w.heap.size,1,none⟩=some (.slice Ac K.length s)∧w'.cell? ⟨w.heap.size+1,0,none⟩=some (.slice none 0 0)∧w'.cell? ⟨w.heap.size+1,1,none⟩=some (.slice none 0 0)∧w'.cell? ⟨w.heap.size+1,2,none⟩=some (.slice none 0 0)∧w'.frozen? ⟨w.heap.size+1,0,none⟩=false∧w'.frozen? ⟨w.heap.size+1,1,none⟩=false∧w'.frozen? ⟨w.heap.size+1,2,none⟩=false):=fun w' h=>by
  obtain ⟨q0,q1,-,-,-,-⟩:=de ((h.block _ (by omega)).trans E)
  obtain ⟨v0,v1,v2,v3,v4,v5⟩:=de ((h.block _ d4).trans y);exact ⟨h,q0,q1,v0,v1,v2,v3,v4,v5⟩
 have F:Hid (∀ (w9:World) (A1:Option Addr) (c1:Nat) (A2:Option Addr) (c2:Nat),Bl w3 w9→aY w9 A1 c1 K→aY w9 A2 c2 R→∃ U,((w9.setCell ⟨w.heap.size+1,0,none⟩ (.slice A1 K.length c1)).setCell ⟨w.heap.size+1,1,none⟩ (.slice A2 R.length c2)).setCell ⟨w.heap.size+1,2,none⟩ (.slice (some ⟨w1.heap.size,0,none⟩) K.length K.length)=U∧U.cell? ⟨w.heap.size+1,0,none⟩=some (.slice A1 K.length c1)∧U.cell? ⟨w.heap.size+1,1,none⟩=some (.slice A2 R.length c2)∧U.cell? ⟨w.heap.size+1,2,none⟩=some (.slice (some ⟨w1.heap.size,0,none⟩) K.length K.length)∧Hid (iQ w (uY (bI R.length K.length (lZ d)) K) (uY (bI R.length K.length (lZ d)) R) (CI (bI R.length K.length (lZ d)) (lZ d) R.length K.length) (bI R.length K.length (lZ d)) (.returned (.tuple #[.agg #[.slice A1 K.length c1,.slice A2 R.length c2,.slice (some ⟨w1.heap.size,0,none⟩) K.length K.length],.nilIface])) U)):=fun w9 A1 c1 A2 c2 h9 hp1 hp2=>by
  have A:=(h9.block _ d4).trans y;obtain ⟨t0,t1,t2,-,-,-⟩:=de (mP (a:=.slice A1 K.length c1) (b:=.slice A2 R.length c2) (c:=.slice (some ⟨w1.heap.size,0,none⟩) K.length K.length) A);refine ⟨_,rfl,t0,t1,t2,?_⟩
  show iQ ..
  unfold uY CI;rw [HE.out,if_pos rfl,if_pos rfl,if_pos rfl];have l:∀ b,b≠w.heap.size+1→(((w9.setCell ⟨w.heap.size+1,0,none⟩ (.slice A1 K.length c1)).setCell ⟨w.heap.size+1,1,none⟩ (.slice A2 R.length c2)).setCell ⟨w.heap.size+1,2,none⟩ (.slice (some ⟨w1.heap.size,0,none⟩) K.length K.length)).heap[b]?=w9.heap[b]?:=fun b f=>((ao _ _ _ _ _ f).trans (ao _ _ _ _ _ f)).trans (ao _ _ _ _ _ f)
  have Y:∀ (b:Nat) (cs:Array Value) (fr:Nat×Nat),w9.heap[b]?=some (Obj.cells cs 3 fr)→b≠w.heap.size+1:=fun b cs fr f e=>by
   rw [e,A] at f
   simp at f
  refine ⟨⟨A1,c1,A2,c2,some ⟨w1.heap.size,0,none⟩,K.length,tz,by rw [HTl.out];rfl,?_,?_,HTz.out _ (Nat.le_trans h9.size (by simp)) fun b f hb2=>(l b (by omega)).trans (h9.block b hb2),HLz.out⟩,jf (ae (ae j.out n.out) h9) (by omega)⟩
  ·exact iF (hp1.keep fun b cs fr f=>l b (Y b cs fr f)).at
  ·exact iF (hp2.keep fun b cs fr f=>l b (Y b cs fr f)).at
 obtain ⟨-,q0,q1,v0,v1,v2,v3,v4,v5⟩:=G.out w3 (Below.refl _ _);clear N S X Lt E y z r0 r1;go_wp2_with fail
 go_region_law ((go_simp;refine (qk _ _ _ _ (by first | exact hR | exact hK) (by first | exact M.out.later (by go_grown) | exact I.out.later (by go_grown))).mono ?_;rintro e w4 ⟨⟨u4,rfl,O⟩,q⟩;obtain ⟨A4,c4,rfl,C⟩:=cE O;have B:=ae (W0:=w3) (by go_grown) q;have hy4:=B.size;obtain ⟨-,q0,q1,v0,v1,v2,v3,v4,v5⟩:=G.out w4 B;first | (have HI1:Hid (aY w4 A4 c4 R):=C;have HX1:=aa q) | (have HI2:Hid (aY w4 A4 c4 K):=C;have HX2:=aa q);clear O C q))
 all_goals (have h1:=HX1.out;have A:=HX2.out;have z1:aY w4 _ _ R:=HI1.out.later (by go_grown);have z2:aY w4 _ _ K:=HI2.out.later (by go_grown);obtain ⟨U,hU,t0,t1,t2,HF⟩:=F.out w4 _ _ _ _ B z2 z1;clear h1 A z1 z2)
 all_goals go_wp2_with fail
 all_goals rw [hU]
 all_goals exact bodyPost_ret (v:=_) (by simp [results,Tryz.results14,go_sem,t0,t1,t2]) rfl HF.out
theorem mn (A B:Option Addr) (r s:Nat) (L:List Int) (w:World) (z:L.length≤1048576) (t:aO w A r L) (u:aO w B s L):Rt 33 #[.slice A L.length r,.slice B L.length s] w (.bool true):=by
 obtain ⟨v,j | ⟨b,o,rfl,l,d⟩⟩:=t
 ·subst j
  simp only [List.length_nil]
  go_enter Tryz.func33,Tryz.ntmps33
  go_wp2_with fail;refine wp_loop_rounds 1 ?_;rw [rounds_succ];go_wp2_with fail;go_ret;exact ⟨rfl,zS⟩
 obtain ⟨m,j | ⟨b',o',rfl,h,a⟩⟩:=u
 ·subst j
  simp only [List.length_nil]
  go_enter Tryz.func33,Tryz.ntmps33
  go_wp2_with fail;refine wp_loop_rounds 1 ?_;rw [rounds_succ];go_wp2_with fail;go_ret;exact ⟨rfl,zS⟩
 have q:=aa d;have f:=aa a;generalize hnn:L.length=n at z v m q f;clear d a hnn;have C:(n:Int)≤1048576:=by omega
 go_enter Tryz.func33,Tryz.ntmps33
 go_wp2_with fail
 go_loopg [5] n (fun g s5 wr => ∃ (k:Nat),k≤n∧g=n-k∧s5=.int .i64 k∧Bl w wr)
 case atStart=>exact ⟨0,zU,rfl,rfl,zS⟩
 case round =>
  obtain ⟨k,F,rfl,rfl,c⟩:=hrel;have e:=aa c
  by_cases i:k<n
  ·have y:(k:Int)<(n:Int):=by omega
   have D:=aL c l (q.out k i);have E:=aL c h (f.out k i);generalize L.getD k 0=x at D E;clear c;go_wp2_with fail
   go_quiet (fail)
   go_wp2_with fail
   go_roundg (n-(k+1))
   case measure=>omega
   case rel=>exact ⟨k+1,by omega,rfl,by go_num,ae e.out (ac (zS) _)⟩
  have p:k=n:=by omega
  subst p;clear c;go_wp2_with fail;go_ret;exact ⟨rfl,e.out⟩
theorem pI (A B:Option Addr) (o p:Nat) (L:List (Int×Int)) (w:World) (t:L.length≤1048576) (c:dt w A o L) (d:dt w B p L):Rt 34 #[.slice A L.length o,.slice B L.length p] w (.bool true):=by
 have q:=aa c;have r:=aa d;obtain ⟨N,h⟩:=ax L.length;have n:=aa h;rw [h] at t ⊢;have u:(N:Int)≤1048576:=by omega
 have v:((N:Int) != (N:Int))=false:=by simp
 clear c d h
 go_enter Tryz.func34,Tryz.ntmps34
 go_wp2_with fail
 go_loopg [5] N (fun g s5 wr => ∃ (k:Nat),k≤N∧g=N-k∧s5=.int .i64 k∧Bl w wr)
 case atStart=>exact ⟨0,zU,rfl,rfl,zS⟩
 case round =>
  obtain ⟨k,z,rfl,rfl,b⟩:=hrel;have e:=aa b
  by_cases m:k<N
  ·have s:(k:Int)<(N:Int):=by omega
   have a:k<L.length:=by rw [n.out];exact m
   obtain ⟨i,-,f | ⟨b1,o1,rfl,c⟩⟩:=q.out.later b
   ·rw [f] at a;simp at a
   obtain ⟨j,-,f | ⟨b2,o2,rfl,d⟩⟩:=r.out.later b
   ·rw [f] at a;simp at a
   obtain ⟨a1,a2⟩:=c.2 k a;obtain ⟨b1',b2'⟩:=d.2 k a;rw [n.out] at i j;generalize (L.getD k noC).1=x at a1 b1';generalize (L.getD k noC).2=y at a2 b2';clear c d b;go_wp2_with fail
   first | (go_quiet (fail);go_wp2_with fail) | skip
   go_roundg (N-(k+1))
   case measure=>omega
   case rel=>first | exact ⟨k+1,by omega,rfl,by go_num,e.out⟩ | exact ⟨k+1,by omega,rfl,by go_num,ac e.out _⟩
  have l:k=N:=by omega
  subst l;clear b;go_wp2_with fail;go_ret;exact ⟨rfl,e.out⟩
def IO (w:World) (u v z u' v' z':Value):World:=(iY w u v z).alloc (.cells #[u',v',z'] 30)
theorem Im (w:World) (u v z u' v' a:Value):(IO w u v z u' v' a).heap[w.heap.size]?=some (.cells #[u,v,z] 30 (0,0))∧(IO w u v z u' v' a).heap[w.heap.size+1]?=some (.cells #[u',v',a] 30 (0,0)):=by
 have b:=mF w u v z;have c:(iY w u v z).heap.size=w.heap.size+1:=by simp [iY]
 refine ⟨(Below.heap_alloc _ _ _ (by omega)).trans b,?_⟩
 rw [←c];exact heap_alloc_new ..
theorem Ce (w:World) (u v z u' v' a:Value):Bl w (IO w u v z u' v' a):=by unfold IO iY;go_grown
theorem sd (Ar:Option Addr) (l:Nat) (Ac:Option Addr) (i:Nat) (Ag:Option Addr) (j:Nat) (b:List CsL) (Br:Option Addr) (p:Nat) (Bc:Option Addr) (n:Nat) (Bg:Option Addr) (o:Nat) (r:List CsL) (R K:List Int) (w:World) (hR:R.length≤1048576) (hK:K.length≤1048576) (hn:b.length≤1048576) (hx:∀ x∈b,x.L.length≤1048576) (a1:aO w Ar l R) (a2:aO w Ac i K) (a3:eQ w Ag j b) (b1:aO w Br p R) (b2:aO w Bc n K) (b3:eQ w Bg o r) (X:lZ b=lZ r) :
  Rt 11 #[.agg #[.slice Ar R.length l,.slice Ac K.length i,.slice Ag b.length j],.agg #[.slice Br R.length p,.slice Bc K.length n,.slice Bg r.length o]] w (.bool true):=by
 have Z:r.length=b.length:=by rw [←eb,←eb,X]
 rw [Z];have a:=Ce w (.slice Ar R.length l) (.slice Ac K.length i) (.slice Ag b.length j) (.slice Br R.length p) (.slice Bc K.length n) (.slice Bg b.length o);obtain ⟨x1,J⟩:=Im w (.slice Ar R.length l) (.slice Ac K.length i) (.slice Ag b.length j) (.slice Br R.length p) (.slice Bc K.length n) (.slice Bg b.length o);obtain ⟨W,V⟩:=ax (IO w (.slice Ar R.length l) (.slice Ac K.length i) (.slice Ag b.length j) (.slice Br R.length p) (.slice Bc K.length n) (.slice Bg b.length o));rw [V] at a x1 J;unfold IO iY at V;have hs:w.heap.size+1<W.heap.size:=(zY J).1;have y:Hid (∀ w',Bl W w'→(w'.cell? ⟨w.heap.size,0,none⟩=some (.slice Ar R.length l)∧w'.cell? ⟨w.heap.size,1,none⟩=some (.slice Ac K.length i)∧w'.cell? ⟨w.heap.size,2,none⟩=some (.slice Ag b.length j))∧(w'.cell? ⟨w.heap.size+1,0,none⟩=some (.slice Br R.length p)∧w'.cell? ⟨w.heap.size+1,1,none⟩=some (.slice Bc K.length n)∧w'.cell? ⟨w.heap.size+1,2,none⟩=some (.slice Bg b.length o))∧w.heap.size+1<w'.heap.size):=fun w' h=>by
  obtain ⟨p0,p1,p2,-,-,-⟩:=de ((h.block _ (by omega)).trans x1)
  obtain ⟨H,I,s,-,-,-⟩:=de ((h.block _ hs).trans J);exact ⟨⟨p0,p1,p2⟩,⟨H,I,s⟩,zW hs h.size⟩
 have O:=aa a;have HX:=aa hx;have HE:=aa X;have HL:=aa Z;have A2:=aa (a2.later a);have A3:=aa (a3.later a);have B2:=aa (b2.later a);have B3:=aa (b3.later a);have F:=mn Ar Br l p R W hR (a1.later a) (b1.later a);obtain ⟨⟨p0,p1,p2⟩,⟨H,I,s⟩,-⟩:=y.out W (zS);obtain ⟨N,U⟩:=ax b.length;have Q:=aa U;rw [U] at y V hn p2 s ⊢;have hNI:(N:Int)≤1048576:=by omega
 have hne:((N:Int) != (N:Int))=false:=by simp
 have hs0:w.heap.size<W.heap.size:=by omega
 clear a x1 J a1 a2 a3 b1 b2 b3 X Z U hx
 go_enter Tryz.func11,Tryz.ntmps11
 go_wp2_with fail;refine F.mono ?_;rintro e w1 ⟨rfl,c⟩;obtain ⟨⟨p0,p1,p2⟩,⟨H,I,s⟩,z1⟩:=y.out w1 c;have G:=mn Ac Bc i n K w1 hK (A2.out.later c) (B2.out.later c);have u:=aa c;have z0:w.heap.size<w1.heap.size:=by omega
 clear c F;go_wp2_with fail;refine G.mono ?_;rintro e w2 ⟨rfl,A⟩;have v:=aa (ae u.out A);obtain ⟨⟨p0,p1,p2⟩,⟨H,I,s⟩,z1⟩:=y.out w2 v.out;have z0:w.heap.size<w2.heap.size:=by omega
 clear A G u;go_wp2_with fail
 go_loopg [7] N (fun g s7 wr => ∃ (k:Nat),k≤N∧g=N-k∧s7=.int .i64 k∧Hid (Bl W wr))
 case atStart=>exact ⟨0,zU,rfl,rfl,v⟩
 case round =>
  obtain ⟨k,hk,rfl,rfl,t⟩:=hrel;obtain ⟨⟨p0,p1,p2⟩,⟨H,I,s⟩,z1⟩:=y.out wr t.out;have z0:w.heap.size<wr.heap.size:=by omega
  by_cases Lt:k<N
  ·have hki:(k:Int)<(N:Int):=by omega
   have d:k<b.length:=by rw [Q.out];exact Lt
   have q:k<r.length:=by rw [HL.out];exact d
   obtain ⟨hc1,-,T | ⟨ba,oa,rfl,hba,C⟩⟩:=A3.out.later t.out
   ·rw [T] at d;simp at d
   obtain ⟨hc2,-,T | ⟨bb,ob,rfl,hbb,D⟩⟩:=B3.out.later t.out
   ·rw [T] at q;simp at q
   obtain ⟨S,v1⟩:=C k d;obtain ⟨z,v2⟩:=D k q;have f:=HX.out _ (kp d);have E:(r.getD k noCs).L=(b.getD k noCs).L:=by rw [←kA,←kA,HE.out]
   rw [E] at z v2;generalize b.getD k noCs=xz at S v1 f z v2;generalize r.getD k noCs=yz at z v2;obtain ⟨M,xA,xc⟩:=xz;obtain ⟨yl,yA,yc⟩:=yz;simp only at S v1 f z v2;have HC:Hid (∀ w',Bl wr w'→Rt 34 #[.slice xA M.length xc,.slice yA M.length yc] w' (.bool true)):=fun w' h=>pI xA yA xc yc M w' f (v1.later h) (v2.later h)
   generalize M.length=m at S z HC;have hcI:(N:Int)≤(j:Int):=by have:=Q.out;omega
   have hdI:(N:Int)≤(o:Int):=by have:=Q.out;have:=HL.out;omega
   clear C D v1 v2 E f;go_wp2_with fail
   go_region_law ((go_simp;refine (HC.out _ (by go_grown)).mono ?_;rintro e w3 ⟨rfl,B⟩))
   all_goals (have P:Hid (Bl W w3):=ae t.out (ae (by go_grown) B);clear B)
   all_goals go_wp2_with fail
   all_goals go_roundg (N-(k+1))
   all_goals first | omega | exact ⟨k+1,by omega,rfl,by go_num,P⟩
  have Y:k=N:=by omega
  subst Y;go_wp2_with fail;go_ret;exact ⟨rfl,ae O.out t.out⟩
theorem pJ (A B:Option Addr) (n o:Nat) (L:List ByteArray) (w:World) (u:L.length≤1048577) (b:k9 w A n L) (c:k9 w B o L):Rt 18 #[.slice A L.length n,.slice B L.length o] w (.bool true):=by
 have p:=aa b;have q:=aa c;obtain ⟨N,f⟩:=ax L.length;have m:=aa f;rw [f] at u ⊢;have v:(N:Int)≤1048577:=by omega
 have y:((N:Int) != (N:Int))=false:=by simp
 clear b c f
 go_enter Tryz.func18,Tryz.ntmps18
 go_wp2_with fail
 go_loopg [5] N (fun g s5 wr => ∃ (k:Nat),k≤N∧g=N-k∧s5=.int .i64 k∧Hid (Bl w wr))
 case atStart=>exact ⟨0,zU,rfl,rfl,aa (zS)⟩
 case round =>
  obtain ⟨k,D,rfl,rfl,d⟩:=hrel
  by_cases l:k<N
  ·have t:(k:Int)<(N:Int):=by omega
   have a:k<L.length:=by rw [m.out];exact l
   obtain ⟨h,-,-,e | ⟨b1,o1,rfl,r,b⟩⟩:=p.out.later d.out
   ·rw [e] at a;simp at a
   obtain ⟨i,-,-,e | ⟨b2,o2,rfl,s,c⟩⟩:=q.out.later d.out
   ·rw [e] at a;simp at a
   have z:=b k a;have C:=c k a;rw [m.out] at h i;generalize L.getD k iC=x at z C;clear b c;go_wp2_with fail
   go_quiet (fail)
   go_wp2_with fail
   go_roundg (N-(k+1))
   case measure=>omega
   case rel=>exact ⟨k+1,by omega,rfl,by go_num,aa (ac d.out _)⟩
  have j:k=N:=by omega
  subst j;go_wp2_with fail;go_ret;exact ⟨rfl,d.out⟩
section
variable {D:Nat→Dm} {n:Nat} {l:List En} {p:List Int} {i k:Nat}
theorem D5 (h:kF D n l p (i:Int) (k:Int)=0):Bf D n l p i k=eP (D i).n∧Be D n l p i k=eP (D k).n∧yQ D n l p i k=ss (Gc D n l p i k) (D i).n (D k).n:=by
 unfold Bf Be yQ;rw [if_pos h,if_pos h,if_pos h]
 simp
end
end Go.Proofs.YthlhjjabkgpenaaGreatDoor
