/- Edits of entries, one -/
import Derived.Test.YtohgnbgamfepoaaGreatDoorJHBG
import Derived.Test.YtohgnbgamfepoaaGreatDoorJHBH
namespace Go.Proofs.YtohgnbgamfepoaaGreatDoor
open ChangeShapes WideShapes ChangeAt RowKit Lib
set_option maxRecDepth 99999
set_option maxHeartbeats 0
def ownEd (w:World) (A:Option Addr) (m c:Nat) (N:Int) (cl:Bool):World:=w.alloc (.cells #[.slice A m c,.int .i64 N,.bool cl] 41)
theorem yj (w:World) (A:Option Addr) (m c:Nat) (N:Int) (a:Bool):(ownEd w A m c N a).heap.size=w.heap.size+1:=by unfold ownEd;simp
theorem jw (w:World) (A:Option Addr) (m c:Nat) (N:Int) (a:Bool):Bl w (ownEd w A m c N a):=by unfold ownEd;go_grown
def aM (w:World) (A0:Option Addr) (n cap:Nat) (A:Option Addr) (m c:Nat) (N:Int) (cl:Bool):World:=ownEd (ax w A0 n cap 24) A m c N cl
theorem dB (w:World) (A0:Option Addr) (n cap:Nat) (A:Option Addr) (m c:Nat) (N:Int) (a:Bool):Bl w (aM w A0 n cap A m c N a):=ae (ao ..) (jw ..)
theorem Ck {M:Nat} (A0:Option Addr) (cap n:Nat) (D:Nat→Dm) (A:Nat→Option Addr) (C:Nat→Nat) (g q:Nat) (xs:List EnL) (Ax:Option Addr) (f:Nat) (x:Ed) (w:World) (r:aW w A0 cap n D A C) (s:aZ w Ax f x.pl) (t:bY w g q xs) (d:Ens D n (lE xs)) (i:dS M xs) (y:M≤w.heap.size) :
  Calls Tryz.prog 52 #[.agg #[.slice A0 n cap],.slice (some ⟨g,0,none⟩) xs.length q,.agg #[.slice Ax x.pl.length f,.int .i64 x.n,.bool x.clear]] w fun e w'=>nW M w g (editErr D n (lE xs) x) (editV (lE xs) x) e w':=by
 obtain ⟨p,N,z⟩:=x;have a:=dB w A0 n cap Ax p.length f N z;have b:=aa a;cases z
 ·have h:=Cn A0 cap n D A C g q xs Ax f p N (aM w A0 n cap Ax p.length f N false) (r.later a) (s.later a) (t.later a) d i (zV y a.size)
  have o:editV (lE xs) ⟨p,N,false⟩=setL (lE xs) p N:=rfl;rw [o];generalize editErr D n (lE xs) ⟨p,N,false⟩=E at h;generalize setL (lE xs) p N=l at h;simp only;generalize p.length=m at h b;generalize xs.length=nx at h;clear r s t d a o
  go_enter Tryz.func52,Tryz.ntmps52
  go_wp2_with fail;refine h.mono ?_;rintro e w1 ⟨⟨B,c,ys,rfl,j⟩,k⟩;have u:=aa j;have v:Hid (w.grownBy w1 (some g)):=dA (bB b.out) k;clear j k;go_wp2_with fail
  go_ret2
  exact ⟨⟨B,c,ys,rfl,u.out⟩,v.out⟩
 have h:=v6 A0 cap n D A C g q xs Ax f p N (aM w A0 n cap Ax p.length f N true) (r.later a) (s.later a) (t.later a) d i;have o:editV (lE xs) ⟨p,N,true⟩=clrL (lE xs) p:=rfl;rw [o];generalize editErr D n (lE xs) ⟨p,N,true⟩=E at h;generalize clrL (lE xs) p=l at h;simp only;generalize p.length=m at h b;generalize xs.length=nx at h;clear r s t d a o
 go_enter Tryz.func52,Tryz.ntmps52
 go_wp2_with fail;refine h.mono ?_;rintro e w1 ⟨⟨B,c,ys,rfl,j⟩,k⟩;have u:=aa j;have v:Hid (w.grownBy w1 (some g)):=dA (bB b.out) k;clear j k;go_wp2_with fail
 go_ret2
 exact ⟨⟨B,c,ys,rfl,u.out⟩,v.out⟩
theorem zQ (ys:List EdL) {k:Nat} (h:k<ys.length):(lD ys).drop k=(ys.getD k noD).x :: (lD ys).drop (k+1):=by
 have a:k<(lD ys).length:=by rw [lD_len];exact h
 rw [List.drop_eq_getElem_cons a]
 congr 1
 simp [lD,List.getD,h]
theorem t8 {D:Nat→Dm} {n:Nat} {l:List En} {ys:List EdL} {k:Nat} (h:k<ys.length) (a:editErr D n l (ys.getD k noD).x=0):aN D n l k ((lD ys).drop k)=aN D n (editV l (ys.getD k noD).x) (k+1) ((lD ys).drop (k+1)):=by rw [zQ ys h,k9 _ a]
theorem qZ {D:Nat→Dm} {n:Nat} {l:List En} {ys:List EdL} {k:Nat} (h:k<ys.length) (a:editErr D n l (ys.getD k noD).x≠0):aN D n l k ((lD ys).drop k)=([],(k:Int),editErr D n l (ys.getD k noD).x):=by rw [zQ ys h,ki _ a]
theorem q6 {D:Nat→Dm} {n:Nat} {l:List En} {ys:List EdL} {k:Nat} (h:ys.length≤k):aN D n l k ((lD ys).drop k)=(l,0,0):=by rw [List.drop_eq_nil_of_le (by rw [lD_len];exact h)];rfl
theorem mV {D:Nat→Dm} {n:Nat} (l:List En) {ys:List EdL} (h:60<ys.length):editsV D n l (lD ys)=([],0,4):=by unfold editsV;rw [if_pos (by rw [lD_len];exact h)]
theorem oM {D:Nat→Dm} {n:Nat} {l:List En} {ys:List EdL} (h : ¬ 60<ys.length) (a:entsErr D n l≠0):editsV D n l (lD ys)=([],0,entsErr D n l):=by unfold editsV;rw [if_neg (by rw [lD_len];exact h),if_pos a]
theorem qY {D:Nat→Dm} {n:Nat} {l:List En} {ys:List EdL} (h : ¬ 60<ys.length) (a:entsErr D n l=0):editsV D n l (lD ys)=aN D n l 0 ((lD ys).drop 0):=by unfold editsV;rw [if_neg (by rw [lD_len];exact h),if_neg (by simpa using a)];rfl
def tw (w:World) (v:List En×Int×Int) (e:Ending) (w':World):Prop:=(∃ B c zs,e=.returned (.tuple #[.slice B zs.length c,.int .i64 v.2.1,errV v.2.2])∧b7 w' B c zs∧lE zs=v.1∧eX w.heap.size B∧dS w.heap.size zs)∧Bl w w'
theorem Fa (A0:Option Addr) (cap n:Nat) (D:Nat→Dm) (A:Nat→Option Addr) (C:Nat→Nat) (AE:Option Addr) (ce:Nat) (xs:List EnL) (AX:Option Addr) (cx:Nat) (ys:List EdL) (w:World) (hM:aW w A0 cap n D A C) (hE:b7 w AE ce xs) (hX:ks w AX cx ys) :
  Calls Tryz.prog 25 #[.agg #[.slice A0 n cap],.slice AE xs.length ce,.slice AX ys.length cx] w fun e w'=>tw w (editsV D n (lE xs) (lD ys)) e w':=by
 have y:=ao w A0 n cap 24;have K:=aa y;unfold tw
 by_cases m:60<ys.length
 ·have HV:Hid (editsV D n (lE xs) (lD ys)=([],0,4)):=mV _ m
  have s:60<(ys.length:Int):=by omega
  generalize editsV D n (lE xs) (lD ys)=V at HV;generalize xs.length=nx;generalize ys.length=ny at m s;clear hM hE hX y
  go_enter Tryz.func25,Tryz.ntmps25
  go_wp2_with fail
  go_ret3
  rw [HV.out];exact ⟨⟨none,0,[],rfl,b7.nil _ _ _ (by decide),rfl,eX.none _,fun _ h=>(by cases h)⟩,K.out⟩
 have h:=kC A0 cap n D A C AE ce xs (ax w A0 n cap 24) (hM.later y) (hE.later y);have s:(ys.length:Int)≤60:=by omega
 by_cases a:entsErr D n (lE xs)=0
 ·have L:=ss a
  have HV:Hid (editsV D n (lE xs) (lD ys)=aN D n (lE xs) 0 ((lD ys).drop 0)):=qY m a;have Q:Hid (∀ w',Bl w w'→Calls Tryz.prog 32 #[.slice AE xs.length ce] w' fun e w'' => ∃ g zs,e=.returned (.slice (some ⟨g,0,none⟩) xs.length xs.length)∧w'.heap.size≤g∧bY w'' g xs.length zs∧zs.length=xs.length∧lE zs=lE xs∧dS w'.heap.size zs∧Bl w' w''):=fun w' hw'=>by
   refine (rf AE ce xs w' (kA L) (oV L) (hE.later hw')).mono ?_;rintro e w'' ⟨⟨zs,rfl,t,I,M⟩,hb⟩;exact ⟨w'.heap.size,zs,rfl,zT,t,Jp I,I,M,hb⟩
  have HM:=aa hM;have HX:=aa hX;have HEs:=aa L;rw [a,errV_zero] at h;generalize editsV D n (lE xs) (lD ys)=V at HV;obtain ⟨ny,X⟩:=az ys.length;obtain ⟨nx,hnx⟩:=az xs.length;have R:=aa X;rw [X] at s ⊢;rw [hnx] at h Q ⊢;clear a L hM hE hX y m X hnx
  go_enter Tryz.func25,Tryz.ntmps25
  go_wp2_with fail;refine h.mono ?_;rintro e w1 ⟨rfl,p⟩;have G:Bl w w1:=ae K.out p;have u:=aa G;have c1:w1.cell? ⟨w.heap.size,0,none⟩=some (.slice A0 n cap):=aC p (by show w.heap.size<_;rw [av];omega) (aH ..)
  have hz1:w.heap.size<w1.heap.size:=by have:=p.size;rw [av] at this;omega
  have h2:=Q.out w1 G;have HM1:=aa (HM.out.later G);have HX1:=aa (HX.out.later G);clear p h G HM HX K Q;go_wp2_with fail;refine h2.mono ?_;rintro e w2 ⟨g0,z,rfl,hgg,t,hzl,I,M,hb2⟩;have HR0:Hid (bY w2 g0 nx z∧w1.heap.size≤g0∧z.length=nx∧lE z=lE xs∧dS w1.heap.size z∧Bl w1 w2):=⟨t,hgg,hzl,I,M,hb2⟩;clear hgg t hzl I M hb2 h2;go_wp2_with fail
  go_loopg [10,29] ny (fun gm s10 s29 wr => ∃ (k g cg:Nat) (zs:List EnL),k≤ny∧gm=ny-k∧s29=.int .i64 k∧s10=.slice (some ⟨g,0,none⟩) zs.length cg∧Hid (w1.heap.size≤g∧bY wr g cg zs∧Ens D n (lE zs)∧dS w1.heap.size zs)∧Hid (aN D n (lE zs) k ((lD ys).drop k)=aN D n (lE xs) 0 ((lD ys).drop 0))∧Bl w1 wr)
  case atStart =>
   obtain ⟨r1,r2,r3,r4,r6,r5⟩:=HR0.out;exact ⟨0,g0,nx,z,zU,rfl,rfl,by rw [r3],⟨r2,r1,by rw [r4];exact HEs.out,r6⟩,(by rw [r4]:aN D n (lE z) 0 ((lD ys).drop 0)=_),r5⟩
  case round =>
   obtain ⟨k,g,cg,zs,hk,rfl,rfl,rfl,f,HF,i⟩:=hrel;have F:=aa i
   by_cases hlt:k<ny
   ·have U:k<ys.length:=by rw [R.out];exact hlt
    have hki:(k:Int)<(ny:Int):=by omega
    obtain ⟨-,-,h0 | ⟨b,o,rfl,T⟩⟩:=HX1.out.later i
    ·have:=R.out;rw [h0] at this;simp at this;omega
    obtain ⟨Z,d1,d2,Y⟩:=T.2 k U;have c0:wr.cell? ⟨w.heap.size,0,none⟩=some (.slice A0 n cap):=aC i hz1 c1;have hzr:w.heap.size<wr.heap.size:=zW hz1 i.size;have q:=jw wr (ys.getD k noD).A (ys.getD k noD).x.pl.length (ys.getD k noD).c (ys.getD k noD).x.n (ys.getD k noD).x.clear;have d:=aa q;have a:=Ck A0 cap n D A C g cg zs (ys.getD k noD).A (ys.getD k noD).c (ys.getD k noD).x (ownEd wr (ys.getD k noD).A (ys.getD k noD).x.pl.length (ys.getD k noD).c (ys.getD k noD).x.n (ys.getD k noD).x.clear) ((HM1.out.later i).later q) (Y.later q) (f.out.2.1.later q) f.out.2.2.1 f.out.2.2.2 (zV i.size q.size)
    by_cases l:editErr D n (lE zs) (ys.getD k noD).x=0
    ·have S:Hid (aN D n (lE zs) k ((lD ys).drop k)=aN D n (editV (lE zs) (ys.getD k noD).x) (k+1) ((lD ys).drop (k+1))):=t8 U l
     have P:=aa ((f.out.2.2.1.edit l).2);rw [l] at a;generalize editV (lE zs) (ys.getD k noD).x=l2 at a S P;generalize (ys.getD k noD).A=A1 at Z a d;generalize (ys.getD k noD).c=k1 at Z a d;generalize (ys.getD k noD).x.n=n1 at d1 a d;generalize (ys.getD k noD).x.clear=q1 at d2 a d;generalize (ys.getD k noD).x.pl.length=m1 at Z a d;obtain ⟨nz,J⟩:=az zs.length;rw [J] at a ⊢;clear T Y q i l J;go_wp2_with fail;refine a.mono ?_;rintro e w3 ⟨⟨B,c,j,rfl,hc⟩,hg⟩;obtain ⟨g2,rfl,hg2,H,W,N⟩:∃ g',B=some ⟨g',0,none⟩∧g≤g'∧bY w3 g' c j∧lE j=l2∧dS w1.heap.size j:=by
      rcases hc with ⟨h1,_⟩ | ⟨_,h1⟩
      ·exact absurd rfl h1
      exact h1
     have HN2:Hid (w1.heap.size≤g2∧bY w3 g2 c j∧Ens D n (lE j)∧dS w1.heap.size j):=⟨zV f.out.1 hg2,H,by rw [W];exact P.out,N⟩
     have HF2:Hid (aN D n (lE j) (k+1) ((lD ys).drop (k+1))=aN D n (lE xs) 0 ((lD ys).drop 0)):=by show _=_;rw [W,←S.out];exact HF.out
     have O:Hid (Bl w1 w3):=jm (ae F.out d.out) hg (ae F.out d.out).size f.out.1;rw [errV_zero];clear hc hg H W hg2 N a S P;go_wp2_with fail
     go_roundg (ny-(k+1))
     case measure=>omega
     case rel=>exact ⟨k+1,g2,c,j,by omega,rfl,by go_num,rfl,HN2,HF2,O.out⟩
    have r:Hid (V=([],(k:Int),editErr D n (lE zs) (ys.getD k noD).x)):=by show _=_;rw [HV.out,←HF.out,qZ U l]
    have v:Hid (errV (editErr D n (lE zs) (ys.getD k noD).x)=.iface 63 (.int .i64 (editErr D n (lE zs) (ys.getD k noD).x))):=ak l;have HNe:=aa l;generalize editErr D n (lE zs) (ys.getD k noD).x=E at a r v HNe;generalize editV (lE zs) (ys.getD k noD).x=l2 at a;generalize (ys.getD k noD).A=A1 at Z a d;generalize (ys.getD k noD).c=k1 at Z a d;generalize (ys.getD k noD).x.n=n1 at d1 a d;generalize (ys.getD k noD).x.clear=q1 at d2 a d;generalize (ys.getD k noD).x.pl.length=m1 at Z a d;obtain ⟨nz,J⟩:=az zs.length;rw [J] at a ⊢;clear T Y q i l J;go_wp2_with fail;refine a.mono ?_;rintro e w3 ⟨⟨B,c,j,rfl,hc⟩,hg⟩;have O:Hid (Bl w1 w3):=jm (ae F.out d.out) hg (ae F.out d.out).size f.out.1;rw [v.out];clear hc hg a;go_wp2_with fail
    go_ret3
    rw [r.out];exact ⟨⟨none,0,[],by rw [v.out];rfl,b7.nil _ _ _ (by decide),rfl,eX.none _,fun _ h=>(by cases h)⟩,ae u.out O.out⟩
   have hke:k=ny:=by omega
   subst hke;have r:Hid (V=(lE zs,0,0)):=by show _=_;rw [HV.out,←HF.out,q6 (by rw [R.out];exact zT)]
   clear i;go_wp2_with fail
   go_ret3
   rw [r.out];exact ⟨⟨_,_,zs,rfl,f.out.2.1.ensV,rfl,fun b o e=>by cases e;exact zV u.out.size f.out.1,f.out.2.2.2.le u.out.size⟩,ae u.out F.out⟩
 have HV:Hid (editsV D n (lE xs) (lD ys)=([],0,entsErr D n (lE xs))):=oM m a;have v:Hid (errV (entsErr D n (lE xs))=.iface 63 (.int .i64 (entsErr D n (lE xs)))):=ak a;rw [ak a] at h;generalize editsV D n (lE xs) (lD ys)=V at HV;generalize entsErr D n (lE xs)=E at h HV v a;generalize xs.length=nx at h;generalize ys.length=ny at m s;clear hM hE hX y m a
 go_enter Tryz.func25,Tryz.ntmps25
 go_wp2_with fail;refine h.mono ?_;rintro e w1 ⟨rfl,p⟩;have u:=aa (ae K.out p);clear p;go_wp2_with fail
 go_ret3
 rw [HV.out];exact ⟨⟨none,0,[],by rw [v.out];rfl,b7.nil _ _ _ (by decide),rfl,eX.none _,fun _ h=>(by cases h)⟩,u.out⟩
structure QM (w:World) (B q gM gU N:Nat) (M:Nat→Int) (UV:Nat→Value) (UL:Nat→List Int) (R:Value) (RL:List Int):Prop where
 hq:w.heap[q]?=some (.cells #[.slice (some ⟨gM,0,none⟩) N N,.slice (some ⟨gU,0,none⟩) N N,R] 151 (0,0))
 hM:eU w gM N 3 fun j=>.int .i64 (M j)
 hU:eU w gU N 26 UV
 own:∀ j,j<N→w.ownsRow B 3 1 (UV j) (UL j).length (aE (UL j))
 ready:w.ownsRow B 3 1 R RL.length (aE RL)
 dM:∀ j,j<N→(UV j).ownBlock≠some gM
 dU:∀ i j,i<N→j<N→i≠j→∀ b,(UV i).ownBlock=some b→(UV j).ownBlock≠some b
 dR:R.ownBlock≠some gM
 dRU:∀ j,j<N→∀ b,R.ownBlock=some b→(UV j).ownBlock≠some b
 lq:B≤q
 lM:B≤gM
 lU:B≤gU
section
variable {w w':World} {B q gM gU N:Nat} {M:Nat→Int} {UV:Nat→Value} {UL:Nat→List Int} {R:Value} {RL:List Int}
theorem QM.ql (h:QM w B q gM gU N M UV UL R RL):q<w.heap.size:=(zY h.hq).1
theorem QM.later (h:QM w B q gM gU N M UV UL R RL) (a:Bl w w'):QM w' B q gM gU N M UV UL R RL :=
 ⟨(a.block q h.ql).trans h.hq,h.hM.same (a.block _ h.hM.lt),h.hU.same (a.block _ h.hU.lt),fun j b=>an (h.own j b) a,an h.ready a,h.dM,h.dU,h.dR,h.dRU,h.lq,h.lM,h.lU⟩
theorem QM.cells (h:QM w B q gM gU N M UV UL R RL):w.cell? ⟨q,0,none⟩=some (.slice (some ⟨gM,0,none⟩) N N)∧w.cell? ⟨q,1,none⟩=some (.slice (some ⟨gU,0,none⟩) N N)∧w.cell? ⟨q,2,none⟩=some R∧w.frozen? ⟨q,2,none⟩=false :=
 ⟨by simp [World.cell?,h.hq],by simp [World.cell?,h.hq],by simp [World.cell?,h.hq],by simp [World.frozen?,h.hq]⟩
theorem QM.ne (h:QM w B q gM gU N M UV UL R RL):q≠gM∧q≠gU∧gM≠gU:=by
 refine ⟨fun e=>?_,fun e=>?_,fun e=>?_⟩
 ·have a:=h.hq;rw [e,h.hM] at a;simp at a
 ·have a:=h.hq;rw [e,h.hU] at a;simp at a
 have a:=h.hM;unfold eU at a;rw [e,h.hU] at a;simp at a
theorem QM.off (h:QM w B q gM gU N M UV UL R RL) {b:Nat} {a:Array Value} (c:w.heap[b]?=some (.cells a 3 (0,0))):b≠q∧b≠gU:=by
 refine ⟨fun e=>?_,h.hU.off c g7⟩
 rw [e,h.hq] at c
 simp at c
theorem QM.setM (h:QM w B q gM gU N M UV UL R RL) (m:Nat) (x:Int):QM (w.setCell ⟨gM,m,none⟩ (.int .i64 x)) B q gM gU N (fun j=>if j=m then x else M j) UV UL R RL:=by
 obtain ⟨n1,n2,n3⟩:=h.ne;refine ⟨by rw [ar _ _ _ _ _ n1];exact h.hq,?_,h.hU.same (ar _ _ _ _ _ n3.symm),fun j a=>fj (h.own j a) (h.dM j a),fj h.ready h.dR,h.dM,h.dU,h.dR,h.dRU,h.lq,h.lM,h.lU⟩
 refine h.hM.set (f':=fun j=>.int .i64 (if j=m then x else M j)) fun j _=>?_
 by_cases e:j=m
 ·simp only [if_pos e]
 simp only [if_neg e]
theorem QM.pushR (h:QM w B q gM gU N M UV UL R RL) {w4 w6:World} {L:List Int} {v:Value} {H:Nat} (l:Bl w w4) (n:w4.grownBy w6 R.ownBlock) (s:w6.ownsRow B 3 1 v L.length (aE L)) (d:v.ownBlock=R.ownBlock∨v.ownBlock=some H) (x:w.heap.size≤H) :
  QM (w6.setCell ⟨q,2,none⟩ v) B q gM gU N M UV UL v L:=by
 obtain ⟨n1,n2,n3⟩:=h.ne;have o:=fun b (e:R.ownBlock=some b)=>bP h.ready e
 have a:∀ b,b<w.heap.size→R.ownBlock≠some b→w6.heap[b]?=w.heap[b]?:=fun b c m=>(n.block b (zW c l.size) (fun e=>m e.symm)).trans (l.block b c)
 have p:R.ownBlock≠some q:=fun e=>by obtain ⟨-,-,g,i⟩:=o q e;exact (h.off i).1 rfl
 have t:R.ownBlock≠some gU:=fun e=>by obtain ⟨-,-,g,i⟩:=o gU e;exact (h.off i).2 rfl
 have u:v.ownBlock≠some q:=fun e=>by
  rcases d with h1 | h1
  ·exact p (h1.symm.trans e)
  rw [h1] at e;have:=h.ql;simp at e;omega
 refine ⟨?_,(h.hM.same (a _ h.hM.lt h.dR)).same (ar _ _ _ _ _ n1.symm),(h.hU.same (a _ h.hU.lt t)).same (ar _ _ _ _ _ n2.symm),fun j f=>?_,fj s u,h.dM,h.dU,fun e=>?_,fun j f b c e=>?_,h.lq,h.lM,h.lU⟩
 ·have:=cI (k:=2) (v:=v) ((a q h.ql p).trans h.hq)
  simpa using this
 ·refine fj (iI (an (h.own j f) l) n fun b c e=>h.dRU j f b e c) fun r=>?_
  obtain ⟨-,-,g,i⟩:=bP (h.own j f) r;exact (h.off i).1 rfl
 ·rcases d with h1 | h1
  ·exact h.dR (h1.symm.trans e)
  rw [h1] at e;have:=h.hM.lt;simp at e;omega
 rcases d with h1 | h1
 ·exact h.dRU j f b (h1.symm.trans c) e
 rw [h1] at c;have:=(bP (h.own j f) e).2.1
 simp at c
 omega
end
theorem yQ {a b:List Int} (e:a.length=b.length) {k:Nat} (f:a.length≤k) (h:∀ j,j<k→a.getD j 0=b.getD j 0):a=b:=by
 apply List.ext_getElem e;intro i c d;have:=h i (by omega)
 simpa [List.getD,c,d] using this
theorem yP (A B:Option Addr) (M N:Nat) (a b:List Int) (w:World) (R:a.length≤4) (O:aZ w A M a) (P:aZ w B N b):Rt 31 #[.slice A a.length M,.slice B b.length N] w (.bool (decide (a=b))):=by
 by_cases p:a.length=b.length
 ·obtain ⟨U,F | ⟨g,o,rfl,G,i⟩⟩:=O
  ·subst F
   have s:b=[]:=List.eq_nil_of_length_eq_zero p.symm;subst s;simp only [List.length_nil]
   go_enter Tryz.func31,Tryz.ntmps31
   go_wp2_with fail;refine wp_loop_rounds 1 ?_;rw [rounds_succ];go_wp2_with fail;go_ret;exact ⟨rfl,zS⟩
  obtain ⟨u,F | ⟨g',o',rfl,t,c⟩⟩:=P
  ·subst F
   have s:a=[]:=List.eq_nil_of_length_eq_zero p;subst s;simp only [List.length_nil]
   go_enter Tryz.func31,Tryz.ntmps31
   go_wp2_with fail;refine wp_loop_rounds 1 ?_;rw [rounds_succ];go_wp2_with fail;go_ret;exact ⟨rfl,zS⟩
  have J:=aa i;have r:Hid (∀ j,j<a.length→w.cell? ⟨g',o'+j,none⟩=some (.int .i64 (b.getD j 0))):=fun j z=>c j (by omega)
  have C:Hid (∀ k,a.length≤k→(∀ j,j<k→a.getD j 0=b.getD j 0)→decide (a=b)=true):=fun k Q h=>decide_eq_true (yQ p Q h)
  have K:Hid (∀ k,a.getD k 0≠b.getD k 0→decide (a=b)=false):=fun k h=>decide_eq_false fun e=>h (by rw [e])
  rw [←p];rw [←p] at u;generalize hnn:a.length=n at R U u J r C;generalize decide (a=b)=res at C K;clear i c hnn p;have W:(n:Int)≤4:=by omega
  go_enter Tryz.func31,Tryz.ntmps31
  go_wp2_with fail
  go_loopg [5] n (fun gg s5 wr => ∃ (k:Nat),k≤n∧gg=n-k∧s5=.int .i64 k∧(∀ j,j<k→a.getD j 0=b.getD j 0)∧Bl w wr)
  case atStart=>exact ⟨0,zU,rfl,rfl,fun j z=>absurd z (Nat.not_lt_zero _),zS⟩
  case round =>
   obtain ⟨k,Q,rfl,rfl,l,d⟩:=hrel;have q:=aa d;have L:=aa l;clear l
   by_cases v:k<n
   ·have V:(k:Int)<(n:Int):=by omega
    have T:=aC d G (J.out k v);have I:=aC d t (r.out k v)
    by_cases f:a.getD k 0=b.getD k 0
    ·have E:=aa f
     rw [←f] at I;generalize a.getD k 0=x at T I;clear d f;go_wp2_with fail
     go_quiet (fail)
     go_wp2_with fail
     go_roundg (n-(k+1))
     case measure=>omega
     case rel =>
      refine ⟨k+1,by omega,rfl,by go_num,fun j z=>?_,ac q.out _⟩
      rcases Nat.lt_succ_iff_lt_or_eq.1 z with s | rfl
      ·exact L.out j s
      exact E.out
    have D:=aa (K.out k f);generalize a.getD k 0=x at T f;generalize b.getD k 0=y at I f;clear d;go_wp2_with fail
    go_quiet (fail)
    go_wp2_with fail;go_ret;rw [D.out];exact ⟨rfl,ac q.out _⟩
   have H:k=n:=by omega
   subst H;have D:Hid (res=true):=C.out k (zT) L.out;go_wp2_with fail;go_ret;rw [D.out];exact ⟨rfl,d⟩
 have S:decide (a=b)=false:=decide_eq_false fun e=>p (by rw [e])
 rw [S];have hl' : ¬ ((a.length:Int)=(b.length:Int)):=by omega
 clear O P S;generalize a.length=n at p hl' R;generalize b.length=m at p hl'
 go_enter Tryz.func31,Tryz.ntmps31
 go_wp2_with fail;go_ret;exact ⟨rfl,zS⟩
theorem J3 {W w':World} {b o b' o':Nat} {u v:Value} (h:b<W.heap.size∧b'<W.heap.size∧W.cell? ⟨b,o,none⟩=some u∧W.cell? ⟨b',o',none⟩=some v) (a:Bl W w'):Bl W w'∧w'.cell? ⟨b,o,none⟩=some u∧w'.cell? ⟨b',o',none⟩=some v :=
 ⟨a,aC a h.1 h.2.2.1,aC a h.2.1 h.2.2.2⟩
theorem te (A B:Option Addr) (M N:Nat) (xs ys:List EnL) (w:World) (K:lE xs=lE ys) (V:xs.length≤3000) (Q:∀ k,k<xs.length→(xs.getD k aJ).e.pl.length≤4) (O:b7 w A M xs) (P:b7 w B N ys) :
  Rt 14 #[.slice A xs.length M,.slice B ys.length N] w (.bool true):=by
 have q:ys.length=xs.length:=by rw [←a7,←K,a7]
 have R:=aa O;have S:=aa P;have G:Hid (∀ k,(ys.getD k aJ).e=(xs.getD k aJ).e):=fun k=>by rw [←lE_at,←lE_at,K]
 have T:=aa Q;obtain ⟨n,l⟩:=az xs.length;have z:=aa l;have p:=aa (q.trans l);rw [q];rw [l] at V ⊢;have W:(n:Int)≤3000:=by omega
 clear O P K Q q l
 go_enter Tryz.func14,Tryz.ntmps14
 go_wp2_with fail
 go_loopg [5] n (fun g s5 wr => ∃ (k:Nat),k≤n∧g=n-k∧s5=.int .i64 k∧Bl w wr)
 case atStart=>exact ⟨0,zU,rfl,rfl,zS⟩
 case round =>
  obtain ⟨k,hk,rfl,rfl,d⟩:=hrel;have F:=aa d
  by_cases f:k<n
  ·have U:(k:Int)<(n:Int):=by omega
   obtain ⟨-,-,H | ⟨b,o,rfl,i⟩⟩:=R.out.later d
   ·have:=z.out;rw [H] at this;simp at this;omega
   obtain ⟨-,-,H | ⟨b',o',rfl,j⟩⟩:=S.out.later d
   ·have:=p.out;rw [H] at this;simp at this;omega
   obtain ⟨c1,c2⟩:=i.at (k:=k) (by rw [z.out];exact f)
   obtain ⟨s,C⟩:=j.at (k:=k) (by rw [p.out];exact f)
   have x:=i.pl (k:=k) (by rw [z.out];exact f)
   have r:=j.pl (k:=k) (by rw [p.out];exact f)
   rw [G.out k] at s C r;have a:Hid (∀ w',Bl wr w'→Rt 31 #[.slice (xs.getD k aJ).A (xs.getD k aJ).e.pl.length (xs.getD k aJ).c,.slice (ys.getD k aJ).A (xs.getD k aJ).e.pl.length (ys.getD k aJ).c] w' (.bool true)):=fun w' y=>by
    have h:=yP _ _ _ _ _ _ w' (T.out k (by rw [z.out];exact f)) (x.later y) (r.later y)
    rw [decide_eq_true rfl] at h;exact h
   have t:=i.1;have u:=j.1;generalize (xs.getD k aJ).A=A1 at c1 a;generalize (xs.getD k aJ).c=k1 at c1 a;generalize (ys.getD k aJ).A=A2 at s a;generalize (ys.getD k aJ).c=k2 at s a;generalize (xs.getD k aJ).e.n=n1 at c2 C;generalize (xs.getD k aJ).e.pl.length=m1 at c1 s a;have L:Hid (b<wr.heap.size∧b'<wr.heap.size∧wr.cell? ⟨b,o+k*2,none⟩=some (.slice A1 m1 k1)∧wr.cell? ⟨b',o'+k*2,none⟩=some (.slice A2 m1 k2)):=⟨t,u,c1,s⟩;have m:Hid (wr.cell? ⟨b,o+k*2+1,none⟩=some (.int .i64 n1)∧wr.cell? ⟨b',o'+k*2+1,none⟩=some (.int .i64 n1)):=⟨c2,C⟩;clear i j x r c1 c2 s C d;go_wp2_with fail
   go_cut [6] (fun s6 wx=>s6=.bool true∧Bl wr wx)
   case first=>as_aux_lemma =>
    go_region_held3 (fun w'=>Bl wr w'∧w'.cell? ⟨b,o+k*2,none⟩=some (.slice A1 m1 k1)∧w'.cell? ⟨b',o'+k*2,none⟩=some (.slice A2 m1 k2))
     ((refine J3 L.out ?_;go_grown;done))
     (first | (go_at_call 31;refine (a.out _ (by go_grown)).mono ?_;rintro e w3 ⟨rfl,v⟩;have I:=ae (W0:=wr) (by go_grown) v;have X:=I.size;clear v))
    all_goals go_wp2_with fail
    all_goals go_meet
    all_goals exact ⟨rfl,by go_grown⟩
   case rest=>as_aux_lemma =>
   obtain ⟨rfl,D⟩:=hcut;obtain ⟨w2,rfl⟩:∃ w2:World,w2=wc:=⟨_,rfl⟩;have E:=aa D;have Y:w2.cell? ⟨b,o+k*2+1,none⟩=some (.int .i64 n1):=aC D t m.out.1;have Z:w2.cell? ⟨b',o'+k*2+1,none⟩=some (.int .i64 n1):=aC D u m.out.2;clear D L m a;go_wp2_with fail
   go_quiet (fail)
   go_wp2_with fail
   go_roundg (n-(k+1))
   case measure=>omega
   case rel=>exact ⟨k+1,by omega,rfl,by go_num,ac (ae F.out E.out) _⟩
  have J:k=n:=by omega
  subst J;go_wp2_with fail;go_ret;exact ⟨rfl,d⟩
end Go.Proofs.YtohgnbgamfepoaaGreatDoor
