/- Edits of entries, one -/
import Derived.Test.YtompdcaikmekkaaGreatDoorJHBA
namespace Go.Proofs.YtompdcaikmekkaaGreatDoor
open ChangeShapes WideShapes ChangeAt RowKit Lib
set_option maxRecDepth 99999
set_option maxHeartbeats 0
def ownEd (w:World) (A:Option Addr) (m c:Nat) (N:Int) (cl:Bool):World:=w.alloc (.cells #[.slice A m c,.int .i64 N,.bool cl] 41)
theorem xS (w:World) (A:Option Addr) (m c:Nat) (N:Int) (a:Bool):(ownEd w A m c N a).heap.size=w.heap.size+1:=by unfold ownEd;simp
theorem js (w:World) (A:Option Addr) (m c:Nat) (N:Int) (a:Bool):Bl w (ownEd w A m c N a):=by unfold ownEd;go_grown
def aN (w:World) (A0:Option Addr) (n cap:Nat) (A:Option Addr) (m c:Nat) (N:Int) (cl:Bool):World:=ownEd (ay w A0 n cap 24) A m c N cl
theorem dA (w:World) (A0:Option Addr) (n cap:Nat) (A:Option Addr) (m c:Nat) (N:Int) (a:Bool):Bl w (aN w A0 n cap A m c N a):=ae (aq ..) (js ..)
theorem B0 {M:Nat} (A0:Option Addr) (cap n:Nat) (D:Nat→Dm) (A:Nat→Option Addr) (C:Nat→Nat) (g q:Nat) (xs:List EnL) (Ax:Option Addr) (f:Nat) (x:Ed) (w:World) (r:aY w A0 cap n D A C) (s:a7 w Ax f x.pl) (t:bX w g q xs) (d:Ens D n (lE xs)) (i:dQ M xs) (y:M≤w.heap.size) :
  Calls Tryz.prog 51 #[.agg #[.slice A0 n cap],.slice (some ⟨g,0,none⟩) xs.length q,.agg #[.slice Ax x.pl.length f,.int .i64 x.n,.bool x.clear]] w fun e w'=>nQ M w g (editErr D n (lE xs) x) (editV (lE xs) x) e w':=by
 obtain ⟨p,N,z⟩:=x;have a:=dA w A0 n cap Ax p.length f N z;have b:=aa a;cases z
 ·have h:=B5 A0 cap n D A C g q xs Ax f p N (aN w A0 n cap Ax p.length f N false) (r.later a) (s.later a) (t.later a) d i (zV y a.size)
  have o:editV (lE xs) ⟨p,N,false⟩=setL (lE xs) p N:=rfl;rw [o];generalize editErr D n (lE xs) ⟨p,N,false⟩=E at h;generalize setL (lE xs) p N=l at h;simp only;generalize p.length=m at h b;generalize xs.length=nx at h;clear r s t d a o
  go_enter Tryz.func51,Tryz.ntmps51
  go_wp2_with fail;refine h.mono ?_;rintro e w1 ⟨⟨B,c,ys,rfl,j⟩,k⟩;have u:=aa j;have v:Hid (w.grownBy w1 (some g)):=dy (bI b.out) k;clear j k;go_wp2_with fail
  go_ret2
  exact ⟨⟨B,c,ys,rfl,u.out⟩,v.out⟩
 have h:=vQ A0 cap n D A C g q xs Ax f p N (aN w A0 n cap Ax p.length f N true) (r.later a) (s.later a) (t.later a) d i;have o:editV (lE xs) ⟨p,N,true⟩=clrL (lE xs) p:=rfl;rw [o];generalize editErr D n (lE xs) ⟨p,N,true⟩=E at h;generalize clrL (lE xs) p=l at h;simp only;generalize p.length=m at h b;generalize xs.length=nx at h;clear r s t d a o
 go_enter Tryz.func51,Tryz.ntmps51
 go_wp2_with fail;refine h.mono ?_;rintro e w1 ⟨⟨B,c,ys,rfl,j⟩,k⟩;have u:=aa j;have v:Hid (w.grownBy w1 (some g)):=dy (bI b.out) k;clear j k;go_wp2_with fail
 go_ret2
 exact ⟨⟨B,c,ys,rfl,u.out⟩,v.out⟩
theorem zC (ys:List EdL) {k:Nat} (h:k<ys.length):(lD ys).drop k=(ys.getD k noD).x :: (lD ys).drop (k+1):=by
 have a:k<(lD ys).length:=by rw [lD_len];exact h
 rw [List.drop_eq_getElem_cons a]
 congr 1
 simp [lD,List.getD,h]
theorem tV {D:Nat→Dm} {n:Nat} {l:List En} {ys:List EdL} {k:Nat} (h:k<ys.length) (a:editErr D n l (ys.getD k noD).x=0):aO D n l k ((lD ys).drop k)=aO D n (editV l (ys.getD k noD).x) (k+1) ((lD ys).drop (k+1)):=by rw [zC ys h,kV _ a]
theorem qT {D:Nat→Dm} {n:Nat} {l:List En} {ys:List EdL} {k:Nat} (h:k<ys.length) (a:editErr D n l (ys.getD k noD).x≠0):aO D n l k ((lD ys).drop k)=([],(k:Int),editErr D n l (ys.getD k noD).x):=by rw [zC ys h,j9 _ a]
theorem qU {D:Nat→Dm} {n:Nat} {l:List En} {ys:List EdL} {k:Nat} (h:ys.length≤k):aO D n l k ((lD ys).drop k)=(l,0,0):=by rw [List.drop_eq_nil_of_le (by rw [lD_len];exact h)];rfl
theorem mO {D:Nat→Dm} {n:Nat} (l:List En) {ys:List EdL} (h:60<ys.length):editsV D n l (lD ys)=([],0,4):=by unfold editsV;rw [if_pos (by rw [lD_len];exact h)]
theorem oE {D:Nat→Dm} {n:Nat} {l:List En} {ys:List EdL} (h : ¬ 60<ys.length) (a:entsErr D n l≠0):editsV D n l (lD ys)=([],0,entsErr D n l):=by unfold editsV;rw [if_neg (by rw [lD_len];exact h),if_pos a]
theorem qS {D:Nat→Dm} {n:Nat} {l:List En} {ys:List EdL} (h : ¬ 60<ys.length) (a:entsErr D n l=0):editsV D n l (lD ys)=aO D n l 0 ((lD ys).drop 0):=by unfold editsV;rw [if_neg (by rw [lD_len];exact h),if_neg (by simpa using a)];rfl
def tp (w:World) (v:List En×Int×Int) (e:Ending) (w':World):Prop:=(∃ B c zs,e=.returned (.tuple #[.slice B zs.length c,.int .i64 v.2.1,errV v.2.2])∧b6 w' B c zs∧lE zs=v.1∧eU w.heap.size B∧dQ w.heap.size zs)∧Bl w w'
theorem EQ (A0:Option Addr) (cap n:Nat) (D:Nat→Dm) (A:Nat→Option Addr) (C:Nat→Nat) (AE:Option Addr) (ce:Nat) (xs:List EnL) (AX:Option Addr) (cx:Nat) (ys:List EdL) (w:World) (hM:aY w A0 cap n D A C) (hE:b6 w AE ce xs) (hX:km w AX cx ys) :
  Calls Tryz.prog 25 #[.agg #[.slice A0 n cap],.slice AE xs.length ce,.slice AX ys.length cx] w fun e w'=>tp w (editsV D n (lE xs) (lD ys)) e w':=by
 have y:=aq w A0 n cap 24;have K:=aa y;unfold tp
 by_cases m:60<ys.length
 ·have HV:Hid (editsV D n (lE xs) (lD ys)=([],0,4)):=mO _ m
  have s:60<(ys.length:Int):=by omega
  generalize editsV D n (lE xs) (lD ys)=V at HV;generalize xs.length=nx;generalize ys.length=ny at m s;clear hM hE hX y
  go_enter Tryz.func25,Tryz.ntmps25
  go_wp2_with fail
  go_ret3
  rw [HV.out];exact ⟨⟨none,0,[],rfl,b6.nil _ _ _ (by decide),rfl,eU.none _,fun _ h=>(by cases h)⟩,K.out⟩
 have h:=kv A0 cap n D A C AE ce xs (ay w A0 n cap 24) (hM.later y) (hE.later y);have s:(ys.length:Int)≤60:=by omega
 by_cases a:entsErr D n (lE xs)=0
 ·have L:=sk a
  have HV:Hid (editsV D n (lE xs) (lD ys)=aO D n (lE xs) 0 ((lD ys).drop 0)):=qS m a;have Q:Hid (∀ w',Bl w w'→Calls Tryz.prog 32 #[.slice AE xs.length ce] w' fun e w'' => ∃ g zs,e=.returned (.slice (some ⟨g,0,none⟩) xs.length xs.length)∧w'.heap.size≤g∧bX w'' g xs.length zs∧zs.length=xs.length∧lE zs=lE xs∧dQ w'.heap.size zs∧Bl w' w''):=fun w' hw'=>by
   refine (q6 AE ce xs w' (ku L) (oN L) (hE.later hw')).mono ?_;rintro e w'' ⟨⟨zs,rfl,t,I,M⟩,hb⟩;exact ⟨w'.heap.size,zs,rfl,zT,t,I6 I,I,M,hb⟩
  have HM:=aa hM;have HX:=aa hX;have HEs:=aa L;rw [a,errV_zero] at h;generalize editsV D n (lE xs) (lD ys)=V at HV;obtain ⟨ny,X⟩:=aA ys.length;obtain ⟨nx,hnx⟩:=aA xs.length;have R:=aa X;rw [X] at s ⊢;rw [hnx] at h Q ⊢;clear a L hM hE hX y m X hnx
  go_enter Tryz.func25,Tryz.ntmps25
  go_wp2_with fail;refine h.mono ?_;rintro e w1 ⟨rfl,p⟩;have G:Bl w w1:=ae K.out p;have u:=aa G;have c1:w1.cell? ⟨w.heap.size,0,none⟩=some (.slice A0 n cap):=aD p (by show w.heap.size<_;rw [aw];omega) (aI ..)
  have hz1:w.heap.size<w1.heap.size:=by have:=p.size;rw [aw] at this;omega
  have h2:=Q.out w1 G;have HM1:=aa (HM.out.later G);have HX1:=aa (HX.out.later G);clear p h G HM HX K Q;go_wp2_with fail;refine h2.mono ?_;rintro e w2 ⟨g0,z,rfl,hgg,t,hzl,I,M,hb2⟩;have HR0:Hid (bX w2 g0 nx z∧w1.heap.size≤g0∧z.length=nx∧lE z=lE xs∧dQ w1.heap.size z∧Bl w1 w2):=⟨t,hgg,hzl,I,M,hb2⟩;clear hgg t hzl I M hb2 h2;go_wp2_with fail
  go_loopg [10,29] ny (fun gm s10 s29 wr => ∃ (k g cg:Nat) (zs:List EnL),k≤ny∧gm=ny-k∧s29=.int .i64 k∧s10=.slice (some ⟨g,0,none⟩) zs.length cg∧Hid (w1.heap.size≤g∧bX wr g cg zs∧Ens D n (lE zs)∧dQ w1.heap.size zs)∧Hid (aO D n (lE zs) k ((lD ys).drop k)=aO D n (lE xs) 0 ((lD ys).drop 0))∧Bl w1 wr)
  case atStart =>
   obtain ⟨r1,r2,r3,r4,r6,r5⟩:=HR0.out;exact ⟨0,g0,nx,z,zU,rfl,rfl,by rw [r3],⟨r2,r1,by rw [r4];exact HEs.out,r6⟩,(by rw [r4]:aO D n (lE z) 0 ((lD ys).drop 0)=_),r5⟩
  case round =>
   obtain ⟨k,g,cg,zs,hk,rfl,rfl,rfl,f,HF,i⟩:=hrel;have F:=aa i
   by_cases hlt:k<ny
   ·have U:k<ys.length:=by rw [R.out];exact hlt
    have hki:(k:Int)<(ny:Int):=by omega
    obtain ⟨-,-,h0 | ⟨b,o,rfl,T⟩⟩:=HX1.out.later i
    ·have:=R.out;rw [h0] at this;simp at this;omega
    obtain ⟨Z,d1,d2,Y⟩:=T.2 k U;have c0:wr.cell? ⟨w.heap.size,0,none⟩=some (.slice A0 n cap):=aD i hz1 c1;have hzr:w.heap.size<wr.heap.size:=zW hz1 i.size;have q:=js wr (ys.getD k noD).A (ys.getD k noD).x.pl.length (ys.getD k noD).c (ys.getD k noD).x.n (ys.getD k noD).x.clear;have d:=aa q;have a:=B0 A0 cap n D A C g cg zs (ys.getD k noD).A (ys.getD k noD).c (ys.getD k noD).x (ownEd wr (ys.getD k noD).A (ys.getD k noD).x.pl.length (ys.getD k noD).c (ys.getD k noD).x.n (ys.getD k noD).x.clear) ((HM1.out.later i).later q) (Y.later q) (f.out.2.1.later q) f.out.2.2.1 f.out.2.2.2 (zV i.size q.size)
    by_cases l:editErr D n (lE zs) (ys.getD k noD).x=0
    ·have S:Hid (aO D n (lE zs) k ((lD ys).drop k)=aO D n (editV (lE zs) (ys.getD k noD).x) (k+1) ((lD ys).drop (k+1))):=tV U l
     have P:=aa ((f.out.2.2.1.edit l).2);rw [l] at a;generalize editV (lE zs) (ys.getD k noD).x=l2 at a S P;generalize (ys.getD k noD).A=A1 at Z a d;generalize (ys.getD k noD).c=k1 at Z a d;generalize (ys.getD k noD).x.n=n1 at d1 a d;generalize (ys.getD k noD).x.clear=q1 at d2 a d;generalize (ys.getD k noD).x.pl.length=m1 at Z a d;obtain ⟨nz,J⟩:=aA zs.length;rw [J] at a ⊢;clear T Y q i l J;go_wp2_with fail;refine a.mono ?_;rintro e w3 ⟨⟨B,c,j,rfl,hc⟩,hg⟩;obtain ⟨g2,rfl,hg2,H,W,N⟩:∃ g',B=some ⟨g',0,none⟩∧g≤g'∧bX w3 g' c j∧lE j=l2∧dQ w1.heap.size j:=by
      rcases hc with ⟨h1,_⟩ | ⟨_,h1⟩
      ·exact absurd rfl h1
      exact h1
     have HN2:Hid (w1.heap.size≤g2∧bX w3 g2 c j∧Ens D n (lE j)∧dQ w1.heap.size j):=⟨zV f.out.1 hg2,H,by rw [W];exact P.out,N⟩
     have HF2:Hid (aO D n (lE j) (k+1) ((lD ys).drop (k+1))=aO D n (lE xs) 0 ((lD ys).drop 0)):=by show _=_;rw [W,←S.out];exact HF.out
     have O:Hid (Bl w1 w3):=jj (ae F.out d.out) hg (ae F.out d.out).size f.out.1;rw [errV_zero];clear hc hg H W hg2 N a S P;go_wp2_with fail
     go_roundg (ny-(k+1))
     case measure=>omega
     case rel=>exact ⟨k+1,g2,c,j,by omega,rfl,by go_num,rfl,HN2,HF2,O.out⟩
    have r:Hid (V=([],(k:Int),editErr D n (lE zs) (ys.getD k noD).x)):=by show _=_;rw [HV.out,←HF.out,qT U l]
    have v:Hid (errV (editErr D n (lE zs) (ys.getD k noD).x)=.iface 63 (.int .i64 (editErr D n (lE zs) (ys.getD k noD).x))):=ak l;have HNe:=aa l;generalize editErr D n (lE zs) (ys.getD k noD).x=E at a r v HNe;generalize editV (lE zs) (ys.getD k noD).x=l2 at a;generalize (ys.getD k noD).A=A1 at Z a d;generalize (ys.getD k noD).c=k1 at Z a d;generalize (ys.getD k noD).x.n=n1 at d1 a d;generalize (ys.getD k noD).x.clear=q1 at d2 a d;generalize (ys.getD k noD).x.pl.length=m1 at Z a d;obtain ⟨nz,J⟩:=aA zs.length;rw [J] at a ⊢;clear T Y q i l J;go_wp2_with fail;refine a.mono ?_;rintro e w3 ⟨⟨B,c,j,rfl,hc⟩,hg⟩;have O:Hid (Bl w1 w3):=jj (ae F.out d.out) hg (ae F.out d.out).size f.out.1;rw [v.out];clear hc hg a;go_wp2_with fail
    go_ret3
    rw [r.out];exact ⟨⟨none,0,[],by rw [v.out];rfl,b6.nil _ _ _ (by decide),rfl,eU.none _,fun _ h=>(by cases h)⟩,ae u.out O.out⟩
   have hke:k=ny:=by omega
   subst hke;have r:Hid (V=(lE zs,0,0)):=by show _=_;rw [HV.out,←HF.out,qU (by rw [R.out];exact zT)]
   clear i;go_wp2_with fail
   go_ret3
   rw [r.out];exact ⟨⟨_,_,zs,rfl,f.out.2.1.ensV,rfl,fun b o e=>by cases e;exact zV u.out.size f.out.1,f.out.2.2.2.le u.out.size⟩,ae u.out F.out⟩
 have HV:Hid (editsV D n (lE xs) (lD ys)=([],0,entsErr D n (lE xs))):=oE m a;have v:Hid (errV (entsErr D n (lE xs))=.iface 63 (.int .i64 (entsErr D n (lE xs)))):=ak a;rw [ak a] at h;generalize editsV D n (lE xs) (lD ys)=V at HV;generalize entsErr D n (lE xs)=E at h HV v a;generalize xs.length=nx at h;generalize ys.length=ny at m s;clear hM hE hX y m a
 go_enter Tryz.func25,Tryz.ntmps25
 go_wp2_with fail;refine h.mono ?_;rintro e w1 ⟨rfl,p⟩;have u:=aa (ae K.out p);clear p;go_wp2_with fail
 go_ret3
 rw [HV.out];exact ⟨⟨none,0,[],by rw [v.out];rfl,b6.nil _ _ _ (by decide),rfl,eU.none _,fun _ h=>(by cases h)⟩,u.out⟩
theorem wQ (args:Array Value) (w:World):(callFunc 145 args).run Tryz.prog w=.ok (.enter 145 args) w:=by simp [go_sem]
theorem Gy {l:List Nd} {N:List ByteArray} {C:List (Int×Int)} (h:aB l≠0):mF l N C=aB l∧qA l N C=noC:=by
 have e:mF l N C=aB l:=by unfold mF;rw [if_pos h]
 exact ⟨e,by unfold qA;rw [e,if_neg h]⟩
theorem Jv {l:List Nd} {N:List ByteArray} {C:List (Int×Int)} (h:aB l=0) (a:dO N C≠0):mF l N C=dO N C∧qA l N C=noC:=by
 have e:mF l N C=dO N C:=by unfold mF;rw [if_neg (by simpa using h),if_pos a]
 exact ⟨e,by unfold qA;rw [e,if_neg a]⟩
theorem Bc {l:List Nd} {N:List ByteArray} {C:List (Int×Int)} (h:aB l=0) (a:dO N C=0):mF l N C=(if missT N (aG l (l.length-1))=true then 5 else 0)∧qA l N C=(if missT N (aG l (l.length-1))=true then noC else eA N C (aG l (l.length-1))):=by
 have e:mF l N C=(if missT N (aG l (l.length-1))=true then 5 else 0):=by unfold mF;rw [if_neg (by simpa using h),if_neg (by simpa using a)]
 refine ⟨e,?_⟩;unfold qA;rw [e];cases missT N (aG l (l.length-1))
 ·rfl
 rfl
theorem DC (A:Option Addr) (cap:Nat) (l:List Nd) (An:Option Addr) (u:Nat) (N:List ByteArray) (Ac:Option Addr) (t:Nat) (C:List (Int×Int)) (w:World) (M:gp w A cap l) (O:DG w An u N) (L:dw w Ac t C) :
  Calls Tryz.prog 116 #[.slice A l.length cap,.slice An N.length u,.slice Ac C.length t] w fun e w'=>e=.returned (.tuple #[.agg #[.int .i64 (qA l N C).1,.int .i64 (qA l N C).2],errV (mF l N C)])∧Bl w w':=by
 have b:=fun w' (F:Bl w w')=>oI A cap l w' (M.later F)
 by_cases o:aB l=0
 case neg =>
  obtain ⟨y,z⟩:=Gy (N:=N) (C:=C) o;rw [y,z];rw [ak o] at b ⊢;unfold noC;clear o y z M O L
  go_enter Tryz.func116,Tryz.ntmps116
  go_wp2_with fail;refine (b _ (by go_grown)).mono ?_
  rintro e w1 ⟨rfl,a⟩;have c:Hid (Bl w w1):=ae (by go_grown) a
  obtain ⟨S,hbf⟩:=dj a;have hz:=dk a
  simp at hz
  clear a b;go_wp2_with fail;refine bodyPost_ret (v:=.tuple #[.agg #[.int .i64 0,.int .i64 0],.iface 63 (.int .i64 (aB l))]) (by simp [results,Tryz.results116,go_sem,S]) rfl ⟨rfl,?_⟩
  exact (c.out.setCell (by simp;omega) _).setCell (by simp;omega) _
 rw [o,errV_zero] at b;have j:=fun w' (F:Bl w w')=>vt An u N Ac t C w' (O.later F) (L.later F)
 obtain ⟨W,D⟩:∃ W,((w.alloc (.cells #[.slice An N.length u] 119)).alloc (.cells #[.slice Ac C.length t] 45)).alloc (.cells #[.int .i64 0,.int .i64 0] 52)=W:=⟨_,rfl⟩;have g:Bl w W:=by rw [←D];go_grown
 have Y:W.heap[w.heap.size]?=some (.cells #[.slice An N.length u] 119 (0,0)):=by rw [←D,heap_alloc_old _ _ (by simp;omega),qa]
 have w1:W.heap[w.heap.size+1]?=some (.cells #[.slice Ac C.length t] 45 (0,0)):=by rw [←D,heap_alloc_old _ _ (by simp),kj]
 have P:W.cell? ⟨w.heap.size,0,none⟩=some (.slice An N.length u):=by simp [World.cell?,Y]
 have Q:W.cell? ⟨w.heap.size+1,0,none⟩=some (.slice Ac C.length t):=by simp [World.cell?,w1]
 have G:W.heap.size=w.heap.size+3:=by rw [←D];simp
 have d:Hid (Bl w W):=g;have f:Hid (W.heap.size=w.heap.size+3):=G;have n:W.heap[w.heap.size+1+1]?=some (.cells #[.int .i64 0,.int .i64 0] 52 (0,0)):=by
  have h:=heap_alloc_new ((w.alloc (.cells #[.slice An N.length u] 119)).alloc (.cells #[.slice Ac C.length t] 45)) (.cells #[.int .i64 0,.int .i64 0] 52);rw [D] at h
  simpa using h
 have s:Hid (W.heap[w.heap.size+1+1]?=some (.cells #[.int .i64 0,.int .i64 0] 52 (0,0))):=n;have J:=aa P;have K:=aa Q
 by_cases B:dO N C=0
 case neg =>
  obtain ⟨y,z⟩:=Jv o B;rw [y,z];rw [ak B] at j ⊢;unfold noC;clear o B y z M O L g P Q G n Y w1
  go_enter Tryz.func116,Tryz.ntmps116
  go_wp2_with fail;refine (b _ d.out).mono ?_;rintro e w1 ⟨rfl,a⟩;have c:Hid (Bl W w1):=a;have T:=(a.cell (p:=⟨w.heap.size,0,none⟩) (by have:=f.out;simp;omega)).trans J.out
  have U:=(a.cell (p:=⟨w.heap.size+1,0,none⟩) (by have:=f.out;simp;omega)).trans K.out
  clear a b D;go_wp2_with fail;refine (j _ (ae d.out c.out)).mono ?_;rintro e w3 ⟨rfl,m⟩;have k:Hid (Bl W w3):=ae c.out m;have i:=(k.out.block (w.heap.size+1+1) (by have:=f.out;omega)).trans s.out
  have r1:w.heap.size+1+1<w3.heap.size:=(Array.getElem?_eq_some_iff.1 i).1;have V:w3.cell? ⟨w.heap.size+1+1,0,none⟩=some (.int .i64 0):=by simp [World.cell?,i]
  have X:w3.cell? ⟨w.heap.size+1+1,1,none⟩=some (.int .i64 0):=by simp [World.cell?,i]
  have rf0:w3.frozen? ⟨w.heap.size+1+1,0,none⟩=false:=by simp [World.frozen?,i]
  have rf1:w3.frozen? ⟨w.heap.size+1+1,1,none⟩=false:=by simp [World.frozen?,i]
  clear m i j T U;go_wp2_with fail;refine bodyPost_ret (v:=.tuple #[.agg #[.int .i64 0,.int .i64 0],.iface 63 (.int .i64 (dO N C))]) (by simp [results,Tryz.results116,go_sem,V,X]) rfl ⟨rfl,?_⟩
  exact ((ae d.out k.out).setCell (by simp;omega) _).setCell (by simp;omega) _
 obtain ⟨y,z⟩:=Bc o B;rw [y,z];rw [B,errV_zero] at j;have I:Hid (∀ w',Bl W w'→Calls Tryz.prog 144 #[.slice A l.length cap,.func (.func 145) #[] #[.pointer (some ⟨w.heap.size,0,none⟩),.pointer (some ⟨w.heap.size+1,0,none⟩)]] w' fun e w''=>e=.returned (.tuple #[.agg #[.int .i64 (if missT N (aG l (l.length-1))=true then noC else eA N C (aG l (l.length-1))).1,.int .i64 (if missT N (aG l (l.length-1))=true then noC else eA N C (aG l (l.length-1))).2],errV (if missT N (aG l (l.length-1))=true then 5 else 0)])∧Bl w' w''):=by
  intro w' F;refine BB 145 w.heap.size (w.heap.size+1) wQ N C A cap l w' (M.later (ae g F)) o (JH B) ?_;intro x w'' q;have r:=ae F q;exact yZ w.heap.size (w.heap.size+1) An u N Ac t C x w'' ((r.cell (p:=⟨w.heap.size,0,none⟩) (by simp;omega)).trans P) ((r.cell (p:=⟨w.heap.size+1,0,none⟩) (by simp;omega)).trans Q) (O.later (ae g r)) (L.later (ae g r)) B
 obtain ⟨R,hR⟩:∃ R,(if missT N (aG l (l.length-1))=true then noC else eA N C (aG l (l.length-1)))=R:=⟨_,rfl⟩
 obtain ⟨E,Z⟩:∃ E,errV (if missT N (aG l (l.length-1))=true then 5 else 0)=E:=⟨_,rfl⟩
 rw [hR,Z] at I ⊢;clear o B y z M O L hR Z g P Q G n Y w1
 go_enter Tryz.func116,Tryz.ntmps116
 go_wp2_with fail;refine (b _ d.out).mono ?_;rintro e w1 ⟨rfl,a⟩;have c:Hid (Bl W w1):=a;have T:=(a.cell (p:=⟨w.heap.size,0,none⟩) (by have:=f.out;simp;omega)).trans J.out
 have U:=(a.cell (p:=⟨w.heap.size+1,0,none⟩) (by have:=f.out;simp;omega)).trans K.out
 clear a b D;go_wp2_with fail;refine (j _ (ae d.out c.out)).mono ?_;rintro e w2 ⟨rfl,q⟩;have H:Hid (Bl W w2):=ae c.out q;clear q j T U;go_wp2_with fail;refine (I.out _ H.out).mono ?_;rintro e w3 ⟨rfl,m⟩;have k:Hid (Bl W w3):=ae H.out m;have i:=(k.out.block (w.heap.size+1+1) (by have:=f.out;omega)).trans s.out
 have r1:w.heap.size+1+1<w3.heap.size:=(Array.getElem?_eq_some_iff.1 i).1;have V:w3.cell? ⟨w.heap.size+1+1,0,none⟩=some (.int .i64 0):=by simp [World.cell?,i]
 have X:w3.cell? ⟨w.heap.size+1+1,1,none⟩=some (.int .i64 0):=by simp [World.cell?,i]
 have rf0:w3.frozen? ⟨w.heap.size+1+1,0,none⟩=false:=by simp [World.frozen?,i]
 have rf1:w3.frozen? ⟨w.heap.size+1+1,1,none⟩=false:=by simp [World.frozen?,i]
 clear m i;go_wp2_with fail;refine bodyPost_ret (v:=.tuple #[.agg #[.int .i64 R.1,.int .i64 R.2],E]) (by simp [results,Tryz.results116,go_sem,V,X]) rfl ⟨rfl,?_⟩
 exact ((ae d.out k.out).setCell (by simp;omega) _).setCell (by simp;omega) _
def tm (l:List UInt8):ByteArray:=⟨l.toArray⟩
theorem nmB_list (l:List UInt8):(tm l).data.toList=l:=by simp [tm]
theorem Fj (s:ByteArray):tm s.data.toList=s:=by unfold tm;simp
theorem BC (zs:List (List UInt8)) (r:zs.Pairwise (fun a b=>a≤b)):(Lib.compact zs).Pairwise (fun a b=>a≤b):=by
 unfold Lib.compact;have g:∀ i j,i≤j→j<zs.length→zs.toArray[i]!≤zs.toArray[j]! := fun i j q l=>by
  rw [getElem!_pos _ i (by simp;omega),getElem!_pos _ j (by simpa using l)]
  by_cases e:i=j
  ·subst e;exact List.le_refl _
  have:=List.pairwise_iff_getElem.1 r i j (by omega) l (by omega)
  simpa using this
 have h:∀ m,m≤zs.length→(Lib.compactUpTo zs.toArray m).Pairwise (fun a b=>a≤b)∧∀ x∈Lib.compactUpTo zs.toArray m,∃ j,j<m∧zs.toArray[j]! = x:=by
  intro m
  induction m with
  | zero=>intro _;exact ⟨by simp [Lib.compactUpTo],fun x c=>by simp [Lib.compactUpTo] at c⟩
  | succ m ih =>
   intro s;obtain ⟨n,k⟩:=ih (by omega)
   rw [Lib.compactUpTo_succ];refine ⟨?_,fun x c=>?_⟩
   ·rw [List.pairwise_append]
    refine ⟨n,by split <;> simp,fun a p b f=>?_⟩
    split at f
    ·rw [List.mem_singleton.1 f]
     obtain ⟨j,o,d⟩:=k a p;rw [←d];exact g j m (by omega) (by omega)
    cases f
   rcases List.mem_append.1 c with c | c
   ·obtain ⟨j,o,d⟩:=k x c
    exact ⟨j,by omega,d⟩
   split at c
   ·exact ⟨m,by omega,(List.mem_singleton.1 c).symm⟩
   cases c
 exact (h _ (zT)).1
theorem C3 {l:List Nd} (h:aB l=0):∀ i j,i<j→j<(aX l).length→(aX l).getD i []<(aX l).getD j []:=by
 intro i j c d;have f:=(jJ h).1;have e:(aX l).Pairwise (fun a b=>a≤b):=by
  unfold aX;rw [if_pos h];exact BC _ (Gf _)
 rw [zZ,zZ,zX (by omega:i<_),zX d]
 have k:=List.pairwise_iff_getElem.1 e i j (by omega) d c
 have g:=List.pairwise_iff_getElem.1 f i j (by omega) d c
 simp only [Option.getD_some]
 rcases Std.lt_trichotomy (aX l)[i] (aX l)[j] with h3 | h3 | h3
 ·exact h3
 ·exact absurd h3 g
 exact absurd (List.le_antisymm k (List.le_of_lt h3)) g
theorem xD {l:List Nd} (h:aB l=0):∀ j,1≤j→j<((aX l).map tm).length→fK ((aX l).map tm) j=false:=by
 intro j f b;rw [List.length_map] at b;have c:=C3 h (j-1) j (by omega) b
 have e:∀ k,k<(aX l).length→(((aX l).map tm).getD k jf).toList=(aX l).getD k []:=fun k d=>by
  rw [zZ,List.getElem?_map,zX d,zZ,zX d];simp only [Option.map_some,Option.getD_some];rw [ByteArray.toList_eq,nmB_list]
 unfold fK;rw [e j b,e (j-1) (by omega),bytesLess_eq,Bool.or_eq_false_iff]
 refine ⟨decide_eq_false fun a=>?_,?_⟩
 ·exact absurd (List.lt_trans c a) (List.lt_irrefl _)
 rw [beq_eq_false_iff_ne];intro a;rw [a] at c;exact absurd c (List.lt_irrefl _)
theorem wV {d:Dm} (F:(az d).2=0) {i:Nat} (w:(d.mem i).formula.size≠0) (E:mErr d i=0) (f:Int→Int×Int) (A:∀ z∈eo d i,b5 (f z)) :
  mF (bG (d.mem i).formula) ((aX (bG (d.mem i).formula)).map tm) (((aX (bG (d.mem i).formula)).map (whL d)).map f)=0∧qA (bG (d.mem i).formula) ((aX (bG (d.mem i).formula)).map tm) (((aX (bG (d.mem i).formula)).map (whL d)).map f)=eu d f i:=by
 have o:=fw w E;have b:=dL o;obtain ⟨l,u⟩:=aA (bG (d.mem i).formula);have c:∀ x,x∈aX l↔x∈kf d i:=fun x=>by
  rw [(jJ (by rw [←u];exact b)).2 x]
  unfold kf;rw [u]
 have g:yU d i=aG l (l.length-1):=by unfold yU;rw [u]
 have p:∀ s∈refsT (aG l (l.length-1)),s.data.toList∈aX l:=fun s m=>(c _).2 (mE o (by rw [g];exact m))
 rw [u] at b ⊢;have v:dO ((aX l).map tm) (((aX l).map (whL d)).map f)=0:=by
  refine sf (by simp) (fun j t=>?_) (xD b)
  simp only [List.length_map] at t;unfold gy;have G:((aX l).map (whL d))[j]'(by simpa using t)∈eo d i:=(fx F w E _).2 ⟨_,(c _).1 (List.getElem_mem t),by simp⟩
  have y:=A _ G;unfold b5 at y;rw [zZ,zX (by simpa using t)]
  simp only [Option.getD_some,List.getElem_map] at y ⊢;rw [y]
  rfl
 have q:∀ s,s.data.toList∈aX l→∃ k:Nat,bZ ((aX l).map tm) s=(k:Int)∧k<(aX l).length∧tm ((aX l).getD k [])=s:=fun s m=>by
  rcases where_cases ((aX l).map tm) s with ⟨-,a⟩ | ⟨k,n,a,r⟩
  ·obtain ⟨k,D,e⟩:=List.getElem_of_mem m
   refine absurd ?_ (a k (by simpa using D))
   rw [zZ,List.getElem?_map,zX D];simp only [Option.map_some,Option.getD_some];rw [e,Fj]
  rw [List.length_map] at a;refine ⟨k,n,a,?_⟩;rw [zZ,List.getElem?_map,zX a] at r;rw [zZ,zX a];exact r
 have h:missT ((aX l).map tm) (aG l (l.length-1))=false:=by
  unfold missT;rw [List.any_eq_false];intro s m;obtain ⟨k,n,-,-⟩:=q s (p s m);rw [n]
  simp
 obtain ⟨B,C⟩:=Bc b v;rw [h] at B C;refine ⟨B,C.trans ?_⟩;simp only [Bool.false_eq_true,if_false];unfold eu;rw [if_neg w,g];refine jb _ _ _ _ fun s m=>?_
 obtain ⟨k,n,a,r⟩:=q s (p s m);unfold refC;rw [n,Int.toNat_natCast,zZ,List.getElem?_map,List.getElem?_map,zX a];simp only [Option.map_some,Option.getD_some];rw [←r,nmB_list,zZ,zX a]
 rfl
theorem m6 {d:Dm} {i:Nat} (g:(d.mem i).formula.size=0) (f:Int→Int×Int):partsV d.mem f (eo d i)=eu d f i:=by
 unfold partsV eu;rw [if_pos g,←gE g];have a:∀ (P:List Int) (c:Int×Int),(P.filter (vV d)).foldl (bd d.mem f) c=P.foldl (bd d.mem f) c:=by
  intro P
  induction P with
  | nil=>intro c;rfl
  | cons x r ih =>
   intro c;rw [List.filter_cons,List.foldl_cons]
   by_cases b:vV d x=true
   ·rw [if_pos b,List.foldl_cons,ih]
   rw [if_neg b,ih];have h:(d.mem x.toNat).sign=0:=by unfold vV at b;simpa using b
   have e:bd d.mem f c x=c:=by unfold bd;rw [if_neg (by omega),if_neg (by omega)]
   rw [e]
 exact a _ _
theorem EO {d:Dm} (l:(az d).2=0) {i:Nat} (k:mErr d i=0) (f:Int→Int×Int) (g:∀ z∈eo d i,b5 (f z)):b5 (eu d f i):=by
 by_cases e:(d.mem i).formula.size=0
 ·rw [←m6 e]
  exact wW _ _ _
 have j:=fw e k;unfold eu;rw [if_neg e];have c:∀ t:Tre,(∀ s∈refsT t,b5 (f (whL d s.data.toList)))→b5 (valG (fun s=>f (whL d s.data.toList)) t):=by
  intro t
  induction t with
  | num n=>intro _;exact oP n
  | ref s=>intro h;exact h s (by simp [refsT])
  | bin o a b _ _=>intro _;exact FE o _ _
 exact c _ fun s m=>g _ ((fx l e k _).2 ⟨_,mE j m,rfl⟩)
theorem oQ {D:Nat→Dm} {n:Nat} (e:dH D n) {inp:List Int→Int×Int} (l:∀ p,b5 (inp p)):∀ (m:Nat) (p:List Int),InO D n p→msrTo D p n<m→b5 (ey D n inp p):=by
 intro m
 induction m with
 | zero=>intro p _ h;omega
 | succ m ih =>
  intro p a r
  rcases by_in D p n with h | ⟨b,h1,h2⟩
  ·rw [fO inp (by omega)]
   exact l p
  rw [pV e inp a h1];obtain ⟨k,f,-,-⟩:=bH (e b h2);have g:=a.lo b h2;have q:=a.hi b h2;refine EO k (f _ (by omega)) _ fun z j=>?_
  have d:=em j;have c:=lv (e b h2) (i:=(p.getD b 0).toNat) (by omega) j
  rw [Int.toNat_of_nonneg g] at c;have o:=(jq (by rw [a.len];exact h2) c n).2 h2
  exact ih _ (gN a h2 d.1 d.2) (by omega)
end Go.Proofs.YtompdcaikmekkaaGreatDoor
