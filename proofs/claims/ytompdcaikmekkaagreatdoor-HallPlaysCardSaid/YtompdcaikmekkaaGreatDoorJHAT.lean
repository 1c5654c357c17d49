/- What member of package -/
import Derived.Shelf.Spec.SlicesInsertGrow
import Derived.Laws.OwnMore
import Derived.Lib.AppendZerosOnto
import Derived.Laws.AppendOwnNone
import Derived.Test.YtompdcaikmekkaaGreatDoorJHAR
import Derived.Test.YtompdcaikmekkaaGreatDoorJHAS
namespace Go.Proofs.YtompdcaikmekkaaGreatDoor
open ChangeShapes WideShapes ChangeAt RowKit Lib Go
set_option maxRecDepth 99999
set_option maxHeartbeats 0
theorem b7.grown {w w':World} {b o n:Nat} {M:Nat→Mem} {r:Option Nat} (h:b7 w b o n M) (d:w.grownBy w' r) (p:some b≠r):b7 w' b o n M:=by
 have l:w'.heap[b]?=w.heap[b]?:=d.block b h.1 p;have c:∀ k,w'.cell? ⟨b,k,none⟩=w.cell? ⟨b,k,none⟩:=fun k=>World.cell?_of_block (a:=⟨b,k,none⟩) l
 refine ⟨zW h.1 d.size,fun i m=>?_⟩
 obtain ⟨e,f,g,j⟩:=h.2 i m;exact ⟨(c _).trans e,(c _).trans f,(c _).trans g,(c _).trans j⟩
def Fl (d:Dm) (k:Int):Bool:=decide ((d.mem k.toNat).sign=0)
theorem Hl (d:Dm):(fun x => !Fl d x)=vV d:=by
 funext x
 unfold Fl vV
 by_cases h:(d.mem x.toNat).sign=0 <;> simp [h]
theorem EG (args:Array Value) (w:World):(callFunc 203 args).run Tryz.prog w=.ok (.enter 203 args) w:=by simp [go_sem]
theorem Dg (d:Dm) (b o cap q k:Nat) (w:World) (e:k<d.n) (j:d.n≤12) (a:b7 w b o d.n d.mem) (i:w.cell? ⟨q,2,none⟩=some (.slice (some ⟨b,o,none⟩) d.n cap)) :
  Rt 203 #[.int .i64 k,.pointer (some ⟨q,0,none⟩)] w (.bool (Fl d k)):=by
 obtain ⟨-,-,c,-⟩:=a.2 k e;have f:(k:Int)<(d.n:Int):=by omega
 have g:(d.n:Int)≤12:=by omega
 unfold Fl;rw [Int.toNat_natCast];generalize (d.mem k).sign=sg at c ⊢;generalize d.n=n at *;clear a
 go_enter Tryz.func203,Tryz.ntmps203
 go_wp2_with fail;go_ret;exact ⟨by by_cases h:sg=0 <;> simp [h],zS⟩
theorem gO {M:Nat→Mem} {i:Nat} (h:aZ M i=0):(M i).formula.size≤100:=by
 unfold aZ at h
 split at h
 ·simp at h
 split at h
 ·simp at h
 split at h
 ·simp at h
 split at h
 ·simp at h
 split at h
 ·simp at h
 split at h
 ·simp at h
 omega
theorem Jf {d:Dm} (b:(az d).2=0) {i:Nat} (a:(d.mem i).formula.size≠0):yp d (d.mem i).formula=mErr d i∧rfL d (d.mem i).formula=IG (mErr d i) (eo d i):=by
 have e:yp d (d.mem i).formula=mErr d i:=by
  unfold yp mErr kf;rw [if_neg a]
 refine ⟨e,?_⟩;unfold rfL IG;rw [e]
 by_cases h:mErr d i=0
 ·rw [if_pos h,if_pos h]
  refine rI b a h ?_;unfold mErr at h;rw [if_neg a] at h
  split at h
  ·rename_i h1;exact absurd h h1
  rename_i h1;simpa using h1
 rw [if_neg h,if_neg h]
theorem vu (d:Dm) (A:Option Addr) (cap i:Nat) (w:World) (Z:(az d).2=0) (hi:i<d.n) (hM:eg w A cap d.n d.mem) :
  Calls Tryz.prog 161 #[cM d A cap,.int .i64 i] w fun e w'=>(∃ A' c',e=.returned (.tuple #[.slice A' (IG (mErr d i) (eo d i)).length c',errV (mErr d i)])∧aR w' A' c' (IG (mErr d i) (eo d i)))∧Bl w w':=by
 obtain ⟨-,-,v,h⟩:=aL Z;obtain ⟨F,h0 | ⟨b,o,rfl,u⟩⟩:=hM
 ·omega
 have r:=aU w d (some ⟨b,o,none⟩) cap 70;have hS:=bg w d (some ⟨b,o,none⟩) cap 70;obtain ⟨o0,o1,o2⟩:=dN w d (some ⟨b,o,none⟩) cap 70;unfold cM;obtain ⟨W,hW⟩:=aA (aM w d (some ⟨b,o,none⟩) cap 70);rw [hW] at r hS o0 o1 o2;unfold aM at hW;have g:=u.later r;obtain ⟨-,-,-,c3⟩:=g.2 i hi;have hii:(i:Int)<(d.n:Int):=by omega
 have hni:(d.n:Int)≤12:=by omega
 have M:w.heap.size<W.heap.size:=by omega
 have q:=aa r
 by_cases y:(d.mem i).formula.size=0
 ·have z:(d.mem i).formula.toList.isEmpty=true:=by rw [aV];simpa using y
  have H:mErr d i=0:=by unfold mErr;rw [if_pos y]
  rw [H,E6 rfl,errV_zero];have B:=Cz d (some ⟨b,o,none⟩) cap i W Z hi ⟨F,Or.inr ⟨b,o,rfl,g⟩⟩;unfold cM at B;have P:Hid ((bz d.mem d.n i).filter (vV d)=eo d i):=gE y;have R:Hid ((bz d.mem d.n i).length≤12):=zV (cF _ _) v;have S:Hid (∀ x∈bz d.mem d.n i,∃ k:Nat,x=(k:Int)∧k<d.n):=fun x hx=>by
   obtain ⟨m,V,h2,-⟩:=cQ x hx;exact ⟨m,V,h2⟩
  have C:=aa g;have Q:=aa o2;generalize (d.mem i).formula=U at c3 z;clear u h y H
  go_enter Tryz.func161,Tryz.ntmps161
  go_wp2_with fail;refine B.mono ?_;rintro e w1 ⟨⟨v1,rfl,p⟩,c⟩;have HB1:=aa c;have hq1:w.heap.size<w1.heap.size:=by have:=c.size;omega
  have l:=Es 203 #[.pointer (some ⟨w.heap.size,0,none⟩)] (Fl d) EG W.heap.size v1 (bz d.mem d.n i) w1 (by have:=R.out;omega) p fun x w' hx t=>by
   obtain ⟨k,rfl,hk⟩:=S.out x hx;have J:∀ j,v1.ownBlock=some j→W.heap.size≤j:=fun j K=>(p.lt j K).1
   have Y:b<W.heap.size:=C.out.1;have I:∀ j,j<W.heap.size→some j≠v1.ownBlock:=fun j K e=>by have:=J j e.symm;omega
   refine Dg d b o cap w.heap.size k w' hk v ((C.out.later c).grown t (I b Y)) ?_;have V:w1.cell? ⟨w.heap.size,2,none⟩=some (.slice (some ⟨b,o,none⟩) d.n cap):=aD c M Q.out;rw [World.cell?_of_block (a:=⟨w.heap.size,2,none⟩) (t.block w.heap.size hq1 (I _ M))];exact V
  rw [Hl,P.out] at l;have O:Hid (∀ w',w1.grownBy w' v1.ownBlock→Bl w w'):=fun w' t=>(ae q.out c).grown t (by have:=q.out.size;have:=c.size;omega) fun j K=>by have:=(p.lt j K).1;omega
  clear p c B;go_wp2_with fail;refine l.mono ?_;rintro e w2 ⟨⟨A2,c2,rfl,E⟩,t⟩;have T:=aa E;have N:=aa (O.out w2 t);clear E t l;go_wp2_with fail
  go_ret2
  exact ⟨⟨A2,c2,rfl,T.out⟩,N.out⟩
 have z:(d.mem i).formula.toList.isEmpty=false:=by rw [aV];simpa using y
 obtain ⟨e1,e2⟩:=Jf Z y;have D:Jz d w.heap.size W:=fun s w' X=>I0 d b o cap w.heap.size s w' v (g.later X) (zW M X.size) (aD X M o2)
 have f:=F1 d w.heap.size (d.mem i).formula W (gO (h i hi)) D;rw [←e2,←e1];unfold GH at f;obtain ⟨U,G⟩:=aA ((d.mem i).formula);rw [G] at c3 z f ⊢;generalize rfL d U=L at f ⊢;generalize errV (yp d U)=ev at f ⊢;clear u h y D g e1 e2 G
 go_enter Tryz.func161,Tryz.ntmps161
 go_wp2_with fail;refine f.mono ?_;rintro e w1 ⟨⟨A1,c1,rfl,E⟩,c⟩;have T:=aa E;clear E f;go_wp2_with fail
 go_ret2
 exact ⟨⟨A1,c1,rfl,T.out⟩,ae q.out c⟩
def sz (d:Dm) (k:Nat):List (List Int):=(List.range k).map (eo d)
theorem rp (d:Dm) (k:Nat):sz d (k+1)=sz d k ++ [eo d k]:=by simp [sz,List.range_succ]
theorem Hg {d:Dm} {xs:List RL} (h:lR xs=eS d):∀ x∈xs,x.p.Nodup∧x.p.length≤d.n:=fun x b=>by
 have a:x.p∈eS d:=by rw [←h];exact List.mem_map.2 ⟨x,b,rfl⟩
 obtain ⟨i,-,e⟩:=List.mem_map.1 a;rw [←e];exact ⟨pH (iz d i),sx d i⟩
theorem fp {w w1:World} {d:Dm} {A:Option Addr} {cap:Nat} (a:Below (aM w d A cap 70).heap.size (aM w d A cap 70) w1):w1.cell? ⟨w.heap.size,0,none⟩=some (.string d.name)∧w1.cell? ⟨w.heap.size,1,none⟩=some (.int .i64 d.solve)∧w1.cell? ⟨w.heap.size,2,none⟩=some (.slice A d.n cap)∧w.heap.size<w1.heap.size:=by
 have c:=bg w d A cap 70;obtain ⟨o0,o1,o2⟩:=dN w d A cap 70;have b:w.heap.size<(aM w d A cap 70).heap.size:=by omega
 exact ⟨aD a b o0,aD a b o1,aD a b o2,by have:=a.size;omega⟩
theorem pI (d:Dm) (A:Option Addr) (cap:Nat) (w:World) (hM:eg w A cap d.n d.mem) :
  Calls Tryz.prog 137 #[cM d A cap] w fun e w'=>(∃ A' c' xs,e=.returned (.tuple #[.slice A' xs.length c',.int .i64 (bu d).1,errV (bu d).2])∧cZ w' A' c' xs∧((bu d).2=0→lR xs=eS d))∧Bl w w':=by
 have L:=aU w d A cap 70;have a:=kr d A cap (aM w d A cap 70) (hM.later L);have HM:=aa hM;have o:Hid (∀ w1,Below (aM w d A cap 70).heap.size (aM w d A cap 70) w1→w1.cell? ⟨w.heap.size,0,none⟩=some (.string d.name)∧w1.cell? ⟨w.heap.size,1,none⟩=some (.int .i64 d.solve)∧w1.cell? ⟨w.heap.size,2,none⟩=some (.slice A d.n cap)∧w.heap.size<w1.heap.size):=fun w1 h=>fp h
 unfold cM at a ⊢;obtain ⟨W,hW⟩:=aA (aM w d A cap 70);rw [hW] at L a o;unfold aM at hW;have J:=aa L;clear hM L
 by_cases U:(az d).2=0
 case neg =>
  rw [Kd U];rw [ak U] at a ⊢;have Q:=aa U;generalize (az d).1=x at a ⊢;generalize (az d).2=c at a Q ⊢;obtain ⟨d0,d1,d2,hqW⟩:=o.out W (zS);clear U
  go_enter Tryz.func137,Tryz.ntmps137
  go_wp2_with fail;refine a.mono ?_;rintro e w1 ⟨rfl,E⟩;go_wp2_with fail;go_returns;exact ⟨⟨none,0,[],rfl,cZ.nil _ _ _,fun e=>absurd e Q.out⟩,ae J.out E⟩
 obtain ⟨hd1,hdn,V,-⟩:=aL U;have HD:=aa U;rw [U,hd1,errV_zero] at a;obtain ⟨i0,hi0,hz0,hz1,hz2⟩:=info_parts Tryz.infoRow;obtain ⟨n,hn⟩:=aA d.n;have q:=aa hn;rw [hn] at a hW o hdn V ⊢;have hmk:∀ w',(Instr.makeSlice 71 (.int .i64 0) (.int .i64 (n:Int))).run Tryz.prog w'=.ok (.slice (some ⟨w'.heap.size,0,none⟩) 0 n) (w'.alloc (.cells (madeCells #[.slice none 0 0] n) 26)):=fun w'=>by
  have h:=run_make (P:=Tryz.prog) w' 71 26 i0 _ Tryz.underlying71 hi0 hz0 .i64 .i64 0 n (Int.le_refl _) (by omega) (by rw [hz2];omega) (by omega)
  simp only [Int.toNat_natCast,hz1,Nat.mul_one] at h;exact h
 have hnI:(n:Int)≤12:=by omega
 obtain ⟨d0,d1,d2,hqW⟩:=o.out W (zS);clear U hn hd1
 go_enter Tryz.func137,Tryz.ntmps137
 go_wp2_with fail;refine a.mono ?_;rintro e w1 ⟨rfl,E⟩;obtain ⟨c0,c1,c2,hq1⟩:=o.out w1 E;have C:=aa E;clear E a c0 c1 d0 d1 d2 hW;obtain ⟨W1,KG⟩:=aA (w1.alloc (.cells (madeCells #[.slice none 0 0] n) 26));have D:Bl w1 W1:=by rw [←KG];exact (zS).alloc (zT) _
 have KK:=aa D;have KO:Hid (W1.ownsRow w1.heap.size 26 1 (.slice (some ⟨w1.heap.size,0,none⟩) 0 n) 0 []):=by
  rw [←KG];exact World.ownsRow_made w1 _ n (zT) (by unfold maxLen;omega) (by simp [madeCells])
 obtain ⟨-,-,b,hq1'⟩:=o.out W1 (ae C.out D);clear D;go_wp2_with fail;clear KG hmk
 go_loopg [7,28] n (fun g s7 s28 wr => ∃ (k:Nat) (xs:List RL),k≤n∧g=n-k∧s28=.int .i64 k∧Hid (lR xs=sz d k∧(∀ j,j<k→mErr d j=0)∧∀ x∈xs,aR wr x.A x.c x.p)∧wr.ownsRow w1.heap.size 26 1 s7 xs.length (cS xs)∧Bl w1 wr)
 case atStart=>exact ⟨0,[],zU,rfl,rfl,(⟨rfl,fun j hj=>absurd hj (Nat.not_lt_zero _),fun x I=>by cases I⟩:_∧_∧_),KO.out,KK.out⟩
 case round =>
  obtain ⟨k,xs,hk,rfl,rfl,S,hO,y⟩:=hrel;have HO:=aa hO;have KM:=aa y;have v:Hid (xs.length=k):=by
   have h:=S.out.1
   show _=_
   rw [←oV,h]
   simp [sz]
  obtain ⟨c0,c1,c2,hq⟩:=o.out wr (ae C.out y)
  by_cases G:k<n
  ·have hki:(k:Int)<(n:Int):=by omega
   have l:=vu d A cap k wr HD.out (by rw [q.out];exact G) (HM.out.later (ae J.out (ae C.out y)))
   unfold cM at l;rw [q.out] at l
   by_cases N:mErr d k=0
   ·rw [E6 N,N,errV_zero] at l
    have Q:=aa N;obtain ⟨r,hr⟩:=aA ((eo d k).length);have HR:=aa hr;rw [hr] at l;clear hO y N hr;go_wp2_with fail;refine l.mono ?_;rintro e w2 ⟨⟨A2,b,rfl,hT⟩,B⟩;have KI:=aa (ae KM.out B);have K:Hid (w2.ownsRow w1.heap.size 26 1 u7 k (cS xs)):=by
     have h:=ao HO.out B;rw [v.out] at h;exact h
    have HT2:=aa hT;have HX2:Hid (∀ x∈xs,aR w2 x.A x.c x.p):=fun x I=>(S.out.2.2 x I).later B
    have hsz:=KI.out.size;clear hT B l c0 c1 c2
    go_wp2_with (at_builtin;refine wpList_append_own _ rfl _ _ 71 rfl w1.heap.size 26 i0 (.slice none 0 0) 1 24 Tryz.underlying71 hi0 hz0 hz1 hz2 rfl (by decide) _ _ _ rfl (K.out.alloc _) ⟨w2.heap.size,0,none⟩ 1 1 [.slice A2 r b] rfl rfl bw (by intro u hu;simp at hu;subst hu;rfl) (by unfold maxLen;omega) (by omega) (by simp;omega) ?_)
    intro v' w3 H f _;have HB3:Hid (Bl w1 w3):=bB KI.out K.out f;have HX3:Hid (lR (xs ++ [(⟨eo d k,A2,b⟩:RL)])=sz d (k+1)∧(∀ j,j<k+1→mErr d j=0)∧∀ x∈xs ++ [(⟨eo d k,A2,b⟩:RL)],aR w3 x.A x.c x.p):=by
     refine ⟨by rw [rh,S.out.1,rp];rfl,fun j hj=>?_,fun x I=>?_⟩
     ·by_cases e:j=k
      ·rw [e];exact Q.out
      exact S.out.2.1 j (by omega)
     rcases List.mem_append.1 I with I | I
     ·exact ((HX2.out x I).later (by go_grown)).row (K.out.alloc _) f
     rw [List.mem_singleton.1 I];exact (HT2.out.later (by go_grown)).row (K.out.alloc _) f
    have HO3:Hid (w3.ownsRow w1.heap.size 26 1 v' (xs ++ [(⟨eo d k,A2,b⟩:RL)]).length (cS (xs ++ [(⟨eo d k,A2,b⟩:RL)]))):=by
     show World.ownsRow ..
     rw [hJ,List.length_append,v.out];have e:cS [(⟨eo d k,A2,b⟩:RL)]=[.slice A2 r b]:=by simp [cS,HR.out]
     rw [e];exact H
    clear H f;go_wp2_with fail
    go_roundg (n-(k+1))
    case measure=>omega
    case rel=>exact ⟨k+1,_,by omega,rfl,by go_num,HX3,HO3.out,HB3.out⟩
   have z:Hid (bu d=((k:Int),mErr d k)):=J7 HD.out (i:=k) (by rw [q.out];exact G) N S.out.2.1
   have Q:=aa N;rw [Hb N,ak N] at l;generalize mErr d k=ec at l Q z;clear hO y N;go_wp2_with fail;refine l.mono ?_;rintro e w2 ⟨⟨A2,b,rfl,-⟩,B⟩;go_wp2_with fail;go_returns;rw [z.out];exact ⟨⟨none,0,[],by rw [ak Q.out];rfl,cZ.nil _ _ _,fun e=>absurd e Q.out⟩,ae J.out (ae C.out (ae KM.out B))⟩
  have hke:k=n:=by omega
  subst hke;have HL:Hid (lR xs=eS d):=by show _=_;rw [S.out.1,←q.out];rfl
  have O:Hid (∀ j,j<d.n→mErr d j=0):=by rw [q.out];exact S.out.2.1
  obtain ⟨Ar,cr,hv,hRv⟩:=pK hO S.out.2.2;subst hv;have KP:=aa hRv;have KL:=aa (ae J.out (ae C.out y));clear hO y hRv c0 c1 c2 o;rw [v.out];obtain ⟨w4,rfl⟩:∃ w4:World,w4=wr:=⟨_,rfl⟩;go_wp2_with fail
  go_loopg [48] k (fun g s48 wi => ∃ (j:Nat),j≤k∧g=k-j∧s48=.int .i64 j∧Hid (∀ t,t<j→cycB (eS d) t=false)∧Bl w4 wi)
  case atStart=>exact ⟨0,zU,rfl,rfl,(fun t ht=>absurd ht (Nat.not_lt_zero _):∀ t,t<0→_),zS⟩
  case round =>
   obtain ⟨j,hj,rfl,rfl,Z,M⟩:=hrel;have Y:=aa M
   by_cases G:j<k
   ·have hji:(j:Int)<(k:Int):=by omega
    have KH:=vG Ar cr xs j wr (by rw [v.out];exact V) (by rw [v.out];exact G) (by rw [HL.out];exact lc d) (fun x I=>by
     have h:=Hg HL.out x I;rw [q.out] at h;exact ⟨h.1,by omega⟩) (KP.out.later M)
    rw [v.out,HL.out] at KH;clear M;go_wp2_with fail;refine KH.mono ?_;rintro e w5 ⟨⟨A5,c5,R,rfl,KQ,T,hRr⟩,hb5⟩;have s:=jZ A5 c5 R j w5 T KQ;have KJ:=aa (ae Y.out hb5);have HIn:Hid (nA R j=cycB (eS d) j):=by
     show _=_
     rw [Bool.eq_iff_iff,cyc_iff,←hRr];unfold nA;exact decide_eq_true_iff
    rw [HIn.out] at s;generalize R.length=m at s;clear KH hb5 KQ hRr T;cases hcy:cycB (eS d) j
    ·rw [hcy] at s
     have KN:Hid (∀ t,t<j+1→cycB (eS d) t=false):=fun t ht=>by
      by_cases e:t=j
      ·rw [e];exact hcy
      exact Z.out t (by omega)
     clear hcy;go_wp2_with fail;refine s.mono ?_;rintro e w6 ⟨rfl,F⟩;have X:=aa (ae KJ.out F);clear F s;go_wp2_with fail
     go_roundg (k-(j+1))
     case measure=>omega
     case rel=>exact ⟨j+1,by omega,rfl,by go_num,KN,X.out⟩
    rw [hcy] at s;have z:Hid (bu d=((j:Int),8)):=Ke HD.out O.out (by rw [q.out];exact G) hcy Z.out
    clear hcy;go_wp2_with fail;refine s.mono ?_;rintro e w6 ⟨rfl,F⟩;have X:=aa (ae KJ.out F);clear F s;go_wp2_with fail;go_returns;rw [z.out];exact ⟨⟨none,0,[],rfl,cZ.nil _ _ _,fun e=>by cases e⟩,ae KL.out X.out⟩
   have hje:j=k:=by omega
   subst hje;have z:Hid (bu d=(-1,0)):=Kf HD.out O.out (by rw [q.out];exact Z.out)
   clear M;go_wp2_with fail;go_returns;rw [z.out];exact ⟨⟨Ar,cr,xs,by rw [v.out];rfl,KP.out.later Y.out,fun _=>HL.out⟩,ae KL.out Y.out⟩
theorem yk (d:Dm) (A:Option Addr) (cap:Nat) (w:World) (h:eg w A cap d.n d.mem):Rt 111 #[cM d A cap] w (.tuple #[.int .i64 (bu d).1,errV (bu d).2]):=by
 have a:=aU w d A cap 70;have c:=pI d A cap (aM w d A cap 70) (h.later a);obtain ⟨j,k,l,g⟩:=fp (w:=w) (d:=d) (A:=A) (cap:=cap) (zS);have b:=aa a;unfold cM at c ⊢;obtain ⟨W,i⟩:=aA (aM w d A cap 70);rw [i] at j k l g b c;unfold aM at i;generalize errV (bu d).2=ev at c ⊢;generalize (bu d).1=x at c ⊢;clear h a
 go_enter Tryz.func111,Tryz.ntmps111
 go_wp2_with fail;refine c.mono ?_;rintro e w1 ⟨⟨A1,c1,xs,rfl,-⟩,f⟩;go_wp2_with fail
 go_ret2
 exact ⟨rfl,ae b.out f⟩
noncomputable def o4 (d:Dm) (i:Int):Int:=if (bu d).2≠0 then (bu d).2 else if i<0∨(d.n:Int)≤i then 1 else 0
noncomputable def sy (d:Dm) (i:Int):List Int:=if o4 d i=0 then eo d i.toNat else []
theorem KC {d:Dm} {i:Int} (h:(bu d).2≠0):o4 d i=(bu d).2∧sy d i=[]:=by
 have e:o4 d i=(bu d).2:=by unfold o4;rw [if_pos h]
 exact ⟨e,by unfold sy;rw [e,if_neg h]⟩
theorem Kv {d:Dm} {i:Int} (h:(bu d).2=0) (a:i<0∨(d.n:Int)≤i):o4 d i=1∧sy d i=[]:=by
 have e:o4 d i=1:=by unfold o4;rw [if_neg (by simpa using h),if_pos a]
 exact ⟨e,by unfold sy;rw [e,if_neg (by decide)]⟩
theorem Kc {d:Dm} {k:Nat} (h:(bu d).2=0) (a:k<d.n):o4 d k=0∧sy d k=eo d k:=by
 have e:o4 d k=0:=by unfold o4;rw [if_neg (by simpa using h),if_neg (by omega)]
 exact ⟨e,by unfold sy;rw [if_pos e,Int.toNat_natCast]⟩
theorem Da (d:Dm) (A:Option Addr) (cap:Nat) (i:Int) (w:World) (T:eg w A cap d.n d.mem):Calls Tryz.prog 168 #[cM d A cap,.int .i64 i] w fun e w'=>(∃ A' c',e=.returned (.tuple #[.slice A' (sy d i).length c',errV (o4 d i)])∧aR w' A' c' (sy d i))∧Bl w w':=by
 have s:=aU w d A cap 70;have l:=pI d A cap (aM w d A cap 70) (T.later s);obtain ⟨P,Q,K,N⟩:=fp (w:=w) (d:=d) (A:=A) (cap:=cap) (zS);have o:=aa s;unfold cM at l ⊢;obtain ⟨W,M⟩:=aA (aM w d A cap 70);rw [M] at P Q K N o l;unfold aM at M;clear T s
 by_cases u:(bu d).2=0
 ·obtain ⟨X,-,-,R⟩:=bH u
  obtain ⟨-,-,B,-⟩:=aL X;rw [u,R,errV_zero] at l;have F:=aa u;obtain ⟨n,v⟩:=aA d.n;have E:=aa v;rw [v] at K B M l ⊢;have KI:(n:Int)≤12:=by omega
  clear u X R v
  go_enter Tryz.func168,Tryz.ntmps168
  go_wp2_with fail;refine l.mono ?_;rintro e w1 ⟨⟨A1,c1,xs,rfl,U,S⟩,m⟩;have t:=S trivial;have a:xs.length=n:=by rw [←oV,t,fF];exact E.out
  have q:=aa (ae o.out m);have H:Hid (cZ w1 A1 c1 xs∧lR xs=eS d∧xs.length=n):=⟨U,t,a⟩;rw [a];clear U S t a m l P Q K
  by_cases L:i<0
  ·obtain ⟨g,h⟩:=Kv F.out (Or.inl L)
   have f:=aa g;have r:=aa h;clear g h;go_wp2_with fail
   go_ret2
   rw [f.out,r.out];exact ⟨⟨none,0,rfl,aR.nil _ _ _ (by omega)⟩,q.out⟩
  have Y:decide (i<0)=false:=decide_eq_false L
  by_cases Z:(n:Int)≤i
  ·obtain ⟨g,h⟩:=Kv F.out (Or.inr (by rw [E.out];exact Z))
   have f:=aa g;have r:=aa h;clear g h;go_wp2_with fail
   go_ret2
   rw [f.out,r.out];exact ⟨⟨none,0,rfl,aR.nil _ _ _ (by omega)⟩,q.out⟩
  obtain ⟨k,rfl⟩:∃ k:Nat,i=k:=⟨i.toNat,by omega⟩
  have C:k<n:=by omega
  have KH:(k:Int)<(n:Int):=by omega
  obtain ⟨g,h⟩:=Kc F.out (k:=k) (by rw [E.out];exact C)
  have f:=aa g;obtain ⟨⟨V,O | ⟨b,rfl,KG,z⟩,D⟩,y,a⟩:=H.out
  ·rw [O] at a;simp at a;omega
  have J:=z k (by omega)
  have j:=D _ (ie (k:=k) (by omega))
  have G:Hid ((xs.getD k ep).p=sy d k):=by
   show _=_
   rw [h,←rj,y,mj (by rw [E.out];exact C)]
  rw [G.out] at J j;generalize (xs.getD k ep).A=Ak at J j;generalize (xs.getD k ep).c=cck at J j;have I:=aa j;clear z D y g h j L;go_wp2_with fail
  go_ret2
  rw [f.out];exact ⟨⟨Ak,cck,rfl,I.out⟩,q.out⟩
 obtain ⟨g,h⟩:=KC (i:=i) u;rw [g,h];rw [ak u] at l ⊢;generalize (bu d).2=ec at l ⊢;generalize (bu d).1=x at l;clear u g h
 go_enter Tryz.func168,Tryz.ntmps168
 go_wp2_with fail;refine l.mono ?_;rintro e w1 ⟨⟨A1,c1,xs,rfl,-⟩,m⟩;go_wp2_with fail
 go_ret2
 exact ⟨⟨none,0,rfl,aR.nil _ _ _ (by omega)⟩,ae o.out m⟩
theorem eN {D:Nat→Dm} {n:Nat} {L:List Int} (h:InO D n L):L.length≤4:=by rw [h.len];exact (au h.right).2.1
theorem JJ {W w':World} {b b' o1 o2 o3:Nat} {u v z:Value} (h:b<W.heap.size∧b'<W.heap.size∧W.cell? ⟨b,o1,none⟩=some u∧W.cell? ⟨b,o2,none⟩=some v∧W.cell? ⟨b',o3,none⟩=some z) (a:Bl W w'):Bl W w'∧w'.cell? ⟨b,o1,none⟩=some u∧w'.cell? ⟨b,o2,none⟩=some v∧w'.cell? ⟨b',o3,none⟩=some z :=
 ⟨a,aD a h.1 h.2.2.1,aD a h.1 h.2.2.2.1,aD a h.2.1 h.2.2.2.2⟩
theorem kv (A0:Option Addr) (cap n:Nat) (D:Nat→Dm) (A:Nat→Option Addr) (C:Nat→Nat) (AE:Option Addr) (ce:Nat) (xs:List EnL) (w:World) (hM:aY w A0 cap n D A C) (hE:b6 w AE ce xs) :
  Rt 50 #[.agg #[.slice A0 n cap],.slice AE xs.length ce] w (errV (entsErr D n (lE xs))):=by
 have R:=aq w A0 n cap 24;have h:=rY A0 cap n D A C (ay w A0 n cap 24) (hM.later R);have M:=aa R;have HM:=aa hM;have HE:=aa hE;generalize (am D n).1=x1 at h;generalize (am D n).2.1=x2 at h;clear hM R
 by_cases K:(am D n).2.2=0
 ·have HR:=aa K
  have HV:Hid (entsErr D n (lE xs)=aW D n (qOf (lE xs) 0) ((lE xs).drop 0)):=zH _ K;rw [K,errV_zero] at h;obtain ⟨N,hN⟩:=aA xs.length;have HN:=aa hN;have hNb:(N:Int)≤9223372036854775807:=by have h1:=hE.1;have h2:=hE.2.1;omega
  rw [hN];clear K hN hE
  go_enter Tryz.func50,Tryz.ntmps50
  go_wp2_with fail;refine h.mono ?_;rintro e w1 ⟨rfl,s⟩;have hB:Bl w w1:=ae M.out s;have hz:w.heap.size<w1.heap.size:=by have:=s.size;rw [aw] at this;omega
  have h2:w1.cell? ⟨w.heap.size,0,none⟩=some (.slice A0 n cap):=aD s (by show w.heap.size<_;rw [aw];omega) (aI ..)
  have HM1:=aa (HM.out.later hB);have HE1:=aa (HE.out.later hB);have HB:=aa hB;clear s h hB HM HE M;go_wp2_with fail
  go_loopg [22] N (fun g s22 wr => ∃ (k:Nat),k≤N∧g=N-k∧s22=.int .i64 k∧Hid (aW D n (qOf (lE xs) k) ((lE xs).drop k)=aW D n (qOf (lE xs) 0) ((lE xs).drop 0))∧Hid (∀ j,j<k→entOne D n ((lE xs).getD j noEn)=0)∧Bl w1 wr)
  case atStart=>exact ⟨0,zU,rfl,rfl,(rfl:aW D n (qOf (lE xs) 0) ((lE xs).drop 0)=aW D n (qOf (lE xs) 0) ((lE xs).drop 0)),fun j V=>absurd V (Nat.not_lt_zero _),zS⟩
  case round =>
   obtain ⟨k,hk,rfl,rfl,HF,HO,m⟩:=hrel;have v:=aa m
   by_cases hlt:k<N
   ·have u:k<xs.length:=by rw [HN.out];exact hlt
    have hki:(k:Int)<(N:Int):=by omega
    have hk1:(k:Int)+1≤9223372036854775807:=by omega
    obtain ⟨-,-,h0 | ⟨b,o,rfl,I⟩⟩:=HE1.out.later m
    ·have:=HN.out;rw [h0] at this;simp at this;omega
    obtain ⟨c1,c2⟩:=I.at u;have T:=I.pl u;have c0:wr.cell? ⟨w.heap.size,0,none⟩=some (.slice A0 n cap):=aD m hz h2;have hzr:w.heap.size<wr.heap.size:=zW hz m.size;have H:=de wr (xs.getD k aJ).A (xs.getD k aJ).e.pl.length (xs.getD k aJ).c (xs.getD k aJ).e.n 83;have a:=mP A0 cap n D A C (xs.getD k aJ).A (xs.getD k aJ).c (xs.getD k aJ).e (dr wr (xs.getD k aJ).A (xs.getD k aJ).e.pl.length (xs.getD k aJ).c (xs.getD k aJ).e.n 83) HR.out ((HM1.out.later m).later H) (T.later H);have d:=aa H;have P:=aa I;have F:=aa T;have r:Hid ((dr wr (xs.getD k aJ).A (xs.getD k aJ).e.pl.length (xs.getD k aJ).c (xs.getD k aJ).e.n 83).cell? ⟨wr.heap.size,0,none⟩=some (.slice (xs.getD k aJ).A (xs.getD k aJ).e.pl.length (xs.getD k aJ).c)):=sK ..;have q:Hid (wr.heap.size<(dr wr (xs.getD k aJ).A (xs.getD k aJ).e.pl.length (xs.getD k aJ).c (xs.getD k aJ).e.n 83).heap.size):=by show _<_;rw [kA];omega
    clear m I T H
    by_cases L:entOne D n (xs.getD k aJ).e=0
    ·have hKO:=dY HR.out L
     have x:Hid (entOne D n ((lE xs).getD k noEn)=0):=by show _=_;rw [lE_at];exact L
     have Q:Hid ((xs.getD k aJ).e.pl.length≤4):=eN hKO.1;rw [L,errV_zero] at a;clear L hKO
     rcases Nat.eq_zero_or_pos k with hk0 | hk0
     ·subst hk0
      have HQ:Hid (aheadOk (qOf (lE xs) 0) ((lE xs).getD 0 noEn).pl=true):=rfl;have y:Hid (aW D n (qOf (lE xs) 0) ((lE xs).drop 0)=aW D n (qOf (lE xs) (0+1)) ((lE xs).drop (0+1))):=wP (by rw [a8];exact u) x.out HQ.out
      generalize (xs.getD 0 aJ).A=A1 at c1 a d r q;generalize (xs.getD 0 aJ).c=k1 at c1 a d r q;generalize (xs.getD 0 aJ).e.n=n1 at c2 a d r q;generalize (xs.getD 0 aJ).e.pl.length=m1 at c1 a d r q;simp only [Nat.zero_mul,Nat.add_zero] at c1 c2;clear F Q;go_wp2_with fail;refine a.mono ?_;rintro e w2 ⟨rfl,f⟩;have l:=aa (ae d.out f);clear f;go_wp2_with fail
      go_quiet (fail)
      go_wp2_with fail
      go_roundg (N-(0+1))
      case measure=>omega
      case rel =>
       refine ⟨0+1,by omega,rfl,by go_num,y.out.symm,fun j V=>?_,ac (ae v.out l.out) _⟩
       have:j=0:=by omega
       subst this;exact x.out
     obtain ⟨j,V⟩:∃ j,k=j+1:=⟨k-1,by omega⟩
     have hjx:j<xs.length:=by omega
     obtain ⟨Z,d2⟩:=P.out.at hjx;have S:=dY HR.out (HO.out j (by omega))
     rw [lE_at] at S;have B:Hid (∀ w',Bl wr w'→Rt 88 #[.agg #[.slice (xs.getD j aJ).A (xs.getD j aJ).e.pl.length (xs.getD j aJ).c,.int .i64 (xs.getD j aJ).e.n],.slice (xs.getD k aJ).A (xs.getD k aJ).e.pl.length (xs.getD k aJ).c] w' (.int .i64 (cmpL (xs.getD j aJ).e.pl (xs.getD k aJ).e.pl))):=fun w' hw'=>rt _ _ _ _ _ _ _ w' (eN S.1) Q.out ((P.out.pl hjx).later hw') (F.out.later hw')
     have O:Hid (decide (0≤cmpL (xs.getD j aJ).e.pl (xs.getD k aJ).e.pl) = !lessL (xs.getD j aJ).e.pl (xs.getD k aJ).e.pl):=tR (xs.getD j aJ).e.pl (xs.getD k aJ).e.pl;have HQ:Hid (aheadOk (qOf (lE xs) k) ((lE xs).getD k noEn).pl=lessL (xs.getD j aJ).e.pl (xs.getD k aJ).e.pl):=by show _=_;rw [←lE_at,←lE_at,V];rfl
     have hwr:IntKind.i64.wrap ((k:Int)-1)=(j:Int):=by rw [IntKind.wrap_i64];omega
     have hj0:(0:Int)<(k:Int):=by omega
     have HKJ:=aa V;have hjN:(j:Int)<(N:Int):=by omega
     generalize (xs.getD k aJ).A=A1 at c1 a d r q B;generalize (xs.getD k aJ).c=k1 at c1 a d r q B;generalize (xs.getD k aJ).e.n=n1 at c2 a d r q;generalize (xs.getD k aJ).e.pl.length=m1 at c1 a d r q B;generalize (xs.getD j aJ).A=A2 at Z B;generalize (xs.getD j aJ).c=k2 at Z B;generalize (xs.getD j aJ).e.n=n2 at d2 B;generalize (xs.getD j aJ).e.pl.length=m2 at Z B;generalize cmpL (xs.getD j aJ).e.pl (xs.getD k aJ).e.pl=cc at B O;have J:=P.out.1;clear F Q S V;go_wp2_with fail;refine a.mono ?_;rintro e w2 ⟨rfl,f⟩;have G:Bl wr w2:=ae d.out f;have l:=aa G;have e1:w2.cell? ⟨b,o+j*2,none⟩=some (.slice A2 m2 k2):=aD G J Z;have e2:w2.cell? ⟨b,o+j*2+1,none⟩=some (.int .i64 n2):=aD G J d2;have e3:w2.cell? ⟨wr.heap.size,0,none⟩=some (.slice A1 m1 k1):=aD f q.out r.out;have hz2:wr.heap.size<w2.heap.size:=zW q.out f.size;clear f G c1 c2 Z d2;have X:Hid (b<w2.heap.size∧wr.heap.size<w2.heap.size∧w2.cell? ⟨b,o+j*2,none⟩=some (.slice A2 m2 k2)∧w2.cell? ⟨b,o+j*2+1,none⟩=some (.int .i64 n2)∧w2.cell? ⟨wr.heap.size,0,none⟩=some (.slice A1 m1 k1)):=⟨zW J l.out.size,hz2,e1,e2,e3⟩;go_wp2_with fail
     go_cut [45] (fun s45 wx=>s45=.bool (decide (0≤cc))∧Bl w2 wx)
     case first =>
      go_region_held3 (fun w'=>Bl w2 w'∧w'.cell? ⟨b,o+j*2,none⟩=some (.slice A2 m2 k2)∧w'.cell? ⟨b,o+j*2+1,none⟩=some (.int .i64 n2)∧w'.cell? ⟨wr.heap.size,0,none⟩=some (.slice A1 m1 k1))
       ((refine JJ X.out ?_;go_grown;done))
       (first | (go_at_call 88;refine (B.out _ (ae l.out (by go_grown))).mono ?_;rintro e w3 ⟨rfl,z⟩;have hN3:=ae (W0:=w2) (by go_grown) z;have hy3:=hN3.size;clear z))
      all_goals go_wp2_with fail
      all_goals go_meet
      all_goals exact ⟨rfl,by go_grown⟩
     case rest =>
      obtain ⟨rfl,z⟩:=hcut;have W:=aa z;clear z e1 e2 e3 X B hz2 hwr hjN;obtain ⟨tC,U⟩:∃ t,decide (0≤cc)=t:=⟨_,rfl⟩;rw [U];have Y:=aa U;clear U hk0 hj0 J hzr c0;cases tC
      case true =>
       have y:Hid (errV (entsErr D n (lE xs))=.iface 63 (.int .i64 7)):=by
        show _=_
        have h3:=O.out;rw [Y.out] at h3;rw [HV.out,←HF.out,qX (by rw [a8];exact u) x.out (by rw [HQ.out];simpa using h3)];rfl
       go_wp2_with fail;go_ret;rw [y.out];exact ⟨rfl,ae HB.out (ae v.out (ae l.out W.out))⟩
      case false =>
       have y:Hid (aW D n (qOf (lE xs) k) ((lE xs).drop k)=aW D n (qOf (lE xs) (k+1)) ((lE xs).drop (k+1))):=by
        show _=_
        have h3:=O.out;rw [Y.out] at h3;exact wP (by rw [a8];exact u) x.out (by rw [HQ.out];simpa using h3)
       go_wp2_with fail
       go_roundg (N-(k+1))
       case measure=>omega
       case rel =>
        refine ⟨k+1,by omega,rfl,by go_num,y.out.symm.trans HF.out,fun i hi=>?_,ae v.out (ae l.out W.out)⟩
        rcases Nat.lt_succ_iff_lt_or_eq.1 hi with h1 | rfl
        ·exact HO.out i h1
        exact x.out
    have p:Hid (errV (entsErr D n (lE xs))=.iface 63 (.int .i64 (entOne D n (xs.getD k aJ).e))):=by
     show _=_
     rw [HV.out,←HF.out,zF (by rw [a8];exact u) (by rw [lE_at];exact L),lE_at,ak L]
    rw [ak L] at a;generalize entOne D n (xs.getD k aJ).e=E at a p;generalize (xs.getD k aJ).A=A1 at c1 a d r q;generalize (xs.getD k aJ).c=k1 at c1 a d r q;generalize (xs.getD k aJ).e.n=n1 at c2 a d r q;generalize (xs.getD k aJ).e.pl.length=m1 at c1 a d r q;clear F L;go_wp2_with fail;refine a.mono ?_;rintro e w2 ⟨rfl,f⟩;have l:=aa (ae d.out f);clear f;go_wp2_with fail;go_ret;rw [p.out];exact ⟨rfl,ae HB.out (ae v.out l.out)⟩
   have hke:k=N:=by omega
   subst hke;have p:Hid (errV (entsErr D n (lE xs))=.nilIface):=by show _=_;rw [HV.out,←HF.out,zG (by rw [a8,HN.out];exact zT)];rfl
   clear m;go_wp2_with fail;go_ret;rw [p.out];exact ⟨rfl,ae HB.out v.out⟩
 have HV:Hid (errV (entsErr D n (lE xs))=.iface 63 (.int .i64 (am D n).2.2)):=by show _=_;rw [tY _ K,ak K]
 rw [ak K] at h;generalize (am D n).2.2=E at h HV;generalize xs.length=N;clear K hE HM HE
 go_enter Tryz.func50,Tryz.ntmps50
 go_wp2_with fail;refine h.mono ?_;rintro e w1 ⟨rfl,s⟩;go_wp2_with fail;go_ret;rw [HV.out];exact ⟨rfl,ae M.out s⟩
theorem pR {D:Nat→Dm} {n:Nat} {xs:List EnL} {p:List Int} (b:Ens D n (lE xs)) (d:InO D n p):mK xs p:=by
 refine ⟨fun k c=>?_,eN d⟩
 have a:(xs.getD k aJ).e∈lE xs:=List.mem_map.2 ⟨_,iT c,rfl⟩;exact eN (b.each _ a).1
theorem ku {D:Nat→Dm} {n:Nat} {xs:List EnL} (a:Ens D n (lE xs)):xs.length≤3000:=by have:=a.few;rw [a8] at this;exact this
def dQ (N:Nat) (xs:List EnL):Prop := ∀ x∈xs,eU N x.A
theorem dQ.le {N M:Nat} {xs:List EnL} (h:dQ N xs) (a:M≤N):dQ M xs:=fun x b=>(h x b).le a
theorem dQ.put {N i:Nat} {xs:List EnL} {x:EnL} (h:dQ N xs) (b:eU N x.A):dQ N (xs.take i ++ x :: xs.drop i):=fun y a=>by
 rcases List.mem_append.1 a with a | a
 ·exact h y (List.mem_of_mem_take a)
 rcases List.mem_cons.1 a with rfl | a
 ·exact b
 exact h y (List.mem_of_mem_drop a)
theorem dQ.cut {N i j:Nat} {xs:List EnL} (h:dQ N xs):dQ N (xs.take i ++ xs.drop j):=fun y a=>by
 rcases List.mem_append.1 a with a | a
 ·exact h y (List.mem_of_mem_take a)
 exact h y (List.mem_of_mem_drop a)
theorem dQ.set {N i:Nat} {xs:List EnL} (h:dQ N xs) (b:i<xs.length) (e:En) (c:Nat):dQ N (xs.set i ⟨e,(xs.getD i aJ).A,c⟩):=fun y a=>by
 rcases List.mem_or_eq_of_mem_set a with a | rfl
 ·exact h y a
 exact h (xs.getD i aJ) (iT b)
theorem FM {w:World} {base:Nat} {v:Value} {L:List Int} (h:w.ownsRow base 3 1 v L.length (L.map (Value.int .i64))):∃ A c,v=.slice A L.length c∧eh w A c L∧eU base A:=by
 obtain ⟨A,c,rfl,f⟩:=FN h;refine ⟨A,c,rfl,f,fun b o e=>?_⟩
 subst e
 rcases h.2 with ⟨a,-⟩ | ⟨g,cap,d,a,i,-⟩
 ·cases a
 cases a;exact i
theorem Bx (A:Option Addr) (c:Nat) (L:List Int) (w:World) (z:L.length≤4) (q:a7 w A c L):Calls Tryz.prog 66 #[.slice A L.length c] w fun e w'=>(∃ v,e=.returned v∧w'.ownsRow w.heap.size 3 1 v L.length (L.map (Value.int .i64)))∧Bl w w':=by
 have J:∀ (w:World) (a:Option Addr) (n c n' p:Nat),(binOp .eql 27 (.slice a n c) (.slice none n' p)).run Tryz.prog w=.ok (.bool a.isNone) w:=fun w a n c n' p=>Lib.run_eql_slice_nil w _ _ a n c n' p Tryz.underlying27
 cases A with
 | none =>
  obtain ⟨-,g | ⟨b,o,g,-⟩⟩:=q
  ·subst g
   simp only [List.length_nil]
   go_enter Tryz.func66,Tryz.ntmps66
   go_wp2_with fail;go_ret;exact ⟨⟨_,rfl,World.ownsRow_nil _ _ _ _⟩,zS⟩
  cases g
 | some a =>
  obtain ⟨i0,r,s,t,y⟩:=info_parts Tryz.infoIntP;have D:Hid (∀ j u,(L.map (Value.int .i64))[j]?=some u→w.cell? (a.add j)=some u):=by
   intro j u l;obtain ⟨-,g | ⟨b,o,g,-,h⟩⟩:=q
   ·subst g;simp at l
   cases g;have i:j<L.length:=by have:=(List.getElem?_eq_some_iff.1 l).1;simpa using this
   rw [aK,h j i];simp only [List.getElem?_map,zX i,Option.map_some,Option.some.injEq] at l;rw [←l,zZ,zX i]
   rfl
  have H:(L.map (Value.int .i64)).length=L.length*1:=by simp
  have F:∀ u∈L.map (Value.int .i64),u.oneCell'=true:=by intro u B;simp at B;obtain ⟨x,-,rfl⟩:=B;rfl
  have I:L.length≤4:=z;clear q z
  go_enter Tryz.func66,Tryz.ntmps66
  go_wp2_with (at_builtin;refine wpList_append_own _ rfl _ _ 27 rfl w.heap.size 3 i0 (.int .i64 0) 1 8 Tryz.underlying27 r s t y rfl (by decide) _ _ _ rfl (World.ownsRow_made w #[] 0 (zT) (zU) (by simp)) a L.length c (L.map (Value.int .i64)) rfl ?qc1 ?qc2 ?qc3 ?qc4 ?qc5 ?qc6 ?_)
  case qc1=>exact H
  case qc2=>exact fun j u l=>Lib.cell?_alloc_some _ (D.out j u l)
  case qc3=>exact F
  case qc4=>simp only [maxLen];omega
  case qc5=>omega
  case qc6=>simp
  intro v' w1 f d m;have E:=aa f;have C:Hid (Bl w w1):=((Below.refl _ w).alloc (zT) _).grown d (by simp) (by intro k G;simp [Value.ownBlock] at G;omega)
  clear f d m;go_wp2_with fail;go_ret;exact ⟨⟨_,rfl,E.out⟩,C.out⟩
theorem qN (A:Option Addr) (c:Nat) (L:List Int) (w:World) (i:L.length≤4) (j:a7 w A c L):Calls Tryz.prog 66 #[.slice A L.length c] w fun e w'=>(∃ A' a,e=.returned (.slice A' L.length a)∧eh w' A' a L∧eU w.heap.size A')∧Bl w w' :=
 (Bx A c L w i j).mono fun _ _ ⟨⟨_,b,d⟩,f⟩=>by
  obtain ⟨A',a,rfl,g,h⟩:=FM d;exact ⟨⟨A',a,b,g,h⟩,f⟩
theorem Tryz.infoEnt:(Tryz.prog.info? 83).map (fun i=>(i.zero,i.size,i.bytes))=some (some (.agg #[.slice none 0 0,.int .i64 0]),2,32):=by kernel_rfl
def vX (w:World) (vb:Nat) (x:EnL):Prop:=w.heap[vb]?=some (.cells #[.slice x.A x.e.pl.length x.c,.int .i64 x.e.n] 83 (0,0))
theorem vX.cells {w:World} {vb:Nat} {x:EnL} (h:vX w vb x):∀ j u,(ah [x])[j]?=some u→w.cell? ⟨vb,j,none⟩=some u:=by
 intro j u a;rw [Lib.cell_of_heap h]
 simpa [ah] using a
def gn (w:World) (g i:Nat) (xs:List EnL) (x:EnL) (e:Ending) (w':World):Prop := ∃ g' cap',e=.returned (.slice (some ⟨g',0,none⟩) (xs.length+1) cap')∧bX w' g' cap' (xs.take i ++ x :: xs.drop i)∧g≤g'∧w.grownBy w' (some g)
theorem xo (g cap vb:Nat) (xs:List EnL) (x:EnL) (w:World) (S:xs.length≤3000) (t:bX w g cap xs) (R:eh w x.A x.c x.e.pl) (Q:vX w vb x) :
  Calls Tryz.prog 129 #[.slice (some ⟨g,0,none⟩) xs.length cap,.int .i64 xs.length,.slice (some ⟨vb,0,none⟩) 1 1] w fun e w'=>gn w g xs.length xs x e w':=by
 obtain ⟨i0,C,D,E,F⟩:=info_parts Tryz.infoEnt;have k:=t.own (Nat.le_refl g);have B:g≤w.heap.size:=Nat.le_of_lt t.lt;have z:=t.2.1;have N:=t.2.2.1;have H:=aa t;have P:=aa R;have HV:=aa Q.cells;have G:Hid (ah (xs ++ [x])=ah xs ++ ah [x]):=cellsE_append ..;have K:Hid ((ah [x]).length=1*2):=cellsE_len [x];have I:Hid (∀ v∈ah [x],v.oneCell'=true):=bE [x];have r:Hid (xs.take xs.length ++ x :: xs.drop xs.length=xs ++ [x]∧(xs ++ [x]).length=xs.length+1):=⟨by simp,by simp⟩
 obtain ⟨n,q⟩:=aA xs.length;have U:=aa q;rw [q] at k S z r;unfold gn;rw [q];generalize hcx:ah xs=CX at k G;generalize hc1:ah [x]=C1 at HV G K I;unfold maxLen at N;clear t R Q q hcx hc1;have T:(n:Int)≤3000:=by omega
 by_cases M:cap=n
 ·subst M
  go_enter Tryz.func129,Tryz.ntmps129
  go_wp2_with (at_builtin;refine wpList_append_own _ rfl _ _ 35 rfl g 83 i0 (.agg #[.slice none 0 0,.int .i64 0]) 2 32 Tryz.underlying35 C D E F rfl (by decide) _ _ _ rfl k ⟨vb,0,none⟩ 1 1 C1 rfl ?qc1 ?qc2 ?qc3 ?qc4 ?qc5 ?qc6 ?_)
  case qc1=>exact K.out
  case qc2=>exact fun j u O=>by rw [aK,Nat.zero_add];exact HV.out j u O
  case qc3=>exact I.out
  case qc4=>simp only [maxLen];omega
  case qc5=>omega
  case qc6=>exact B
  intro v' w1 a d i;rw [←G.out,←r.out.2] at a;have f:w.grownBy w1 (some g):=d;obtain ⟨⟨L,b,-,-⟩,-⟩:=H.out;have o:∀ y∈xs ++ [x],eh w1 y.A y.c y.e.pl:=fun y p=>by
   rcases List.mem_append.1 p with p | p
   ·exact (H.out.2.2.2 y p).grown b f
   rw [List.mem_singleton.1 p];exact P.out.grown b f
  obtain ⟨g',m,rfl,s,h⟩:=AT a (by simpa using i) o
  have l:=aa h;have J:=aa f;rw [r.out.2];clear a d i b o h f;go_wp2_with fail;go_ret;refine ⟨g',m,rfl,?_,s,J.out⟩;rw [r.out.1];exact l.out
 have hce' : ¬ ((cap:Int)=(n:Int)):=by omega
 go_enter Tryz.func129,Tryz.ntmps129
 go_wp2_with (at_builtin;refine wpList_append_own _ rfl _ _ 35 rfl g 83 i0 (.agg #[.slice none 0 0,.int .i64 0]) 2 32 Tryz.underlying35 C D E F rfl (by decide) _ _ _ rfl k ⟨vb,0,none⟩ 1 1 C1 rfl ?qc1 ?qc2 ?qc3 ?qc4 ?qc5 ?qc6 ?_)
 case qc1=>exact K.out
 case qc2=>exact fun j u O=>by rw [aK,Nat.zero_add];exact HV.out j u O
 case qc3=>exact I.out
 case qc4=>simp only [maxLen];omega
 case qc5=>omega
 case qc6=>exact B
 intro v' w1 a d i;rw [←G.out,←r.out.2] at a;have f:w.grownBy w1 (some g):=d;obtain ⟨⟨L,b,-,-⟩,-⟩:=H.out;have o:∀ y∈xs ++ [x],eh w1 y.A y.c y.e.pl:=fun y p=>by
  rcases List.mem_append.1 p with p | p
  ·exact (H.out.2.2.2 y p).grown b f
  rw [List.mem_singleton.1 p];exact P.out.grown b f
 obtain ⟨g',m,rfl,s,h⟩:=AT a (by simpa using i) o
 have l:=aa h;have J:=aa f;rw [r.out.2];clear a d i b o h f;go_wp2_with fail;go_ret;refine ⟨g',m,rfl,?_,s,J.out⟩;rw [r.out.1];exact l.out
theorem EF (w:World) (g vb o lb h f:Nat) (x:EnL) (a:Array Value) (d:vb≠g) (c:vX w vb x) (i:w.heap[g]?=some (.cells a 83 (0,0))) (j:a.size=f) (b:f≠0) :
  (callFunc 156 #[.slice (some ⟨vb,0,none⟩) 1 1,.slice (some ⟨g,o,none⟩) lb h]).run Tryz.prog w=.ok (.value (.bool false)) w:=by
 rw [run_callFunc_extern Tryz.func156 (by kernel_rfl) (by kernel_rfl) (by kernel_rfl) (e:=Extern.SlicesOverlaps.overlaps #[35,35] #[4]) (by kernel_rfl),
  Lib.run_overlaps_apart w 35 4 83 Tryz.underlying35 2 Tryz.sizeOf83 ⟨vb,0,none⟩ ⟨g,o,none⟩ 1 1 lb h d 83 83 2 f (by simp [World.shape?,show w.heap[vb]?=_ from c]) (by simp [World.shape?,i,j]) b (Lib.frozen_of_heap c 0) (Lib.frozen_of_heap c 2)]
 rfl
theorem sr (g cap i vb:Nat) (xs:List EnL) (x:EnL) (w:World) (hn:xs.length≤3000) (hi:i<xs.length) (u:xs.length+1≤cap) (N:vb≠g) (C:bX w g cap xs) (hx:eh w x.A x.c x.e.pl) (X:vX w vb x) :
  Calls Tryz.prog 129 #[.slice (some ⟨g,0,none⟩) xs.length cap,.int .i64 i,.slice (some ⟨vb,0,none⟩) 1 1] w fun e w'=>gn w g i xs x e w':=by
 obtain ⟨i0,T,hz0,Y,Z⟩:=info_parts Tryz.infoEnt;have L:(Tryz.prog.info? 83).map (·.size)=some 2:=by rw [T];simp [Y]
 have E:=C.2.2.1;unfold maxLen at E;obtain ⟨⟨d,b,f,H⟩,-,-,t⟩:=id C;have V:∀ o lb R,(callFunc 156 #[.slice (some ⟨vb,0,none⟩) 1 1,.slice (some ⟨g,o,none⟩) lb R]).run Tryz.prog w=.ok (.value (.bool false)) w:=fun o lb R=>EF w g vb o lb R (cap*2) x d N X b f (by omega)
 obtain ⟨n,s⟩:=aA xs.length;have m:(ah (xs.drop i)).length=(n-i)*2:=by rw [cellsE_len,List.length_drop,s]
 obtain ⟨C1,l⟩:∃ C1,C1=d.toList.take ((i+1)*2) ++ ah (xs.drop i) ++ d.toList.drop ((i+1)*2+(ah (xs.drop i)).length):=⟨_,rfl⟩;obtain ⟨C2,r⟩:∃ C2,C2=C1.take (i*2) ++ ah [x] ++ C1.drop (i*2+(ah [x]).length):=⟨_,rfl⟩;have q:(xs.length+1)*2≤d.toList.length:=by
  have O:d.toList.length=cap*2:=by simpa using f
  omega
 obtain ⟨K,M⟩:=B4 H q (Nat.le_of_lt hi) l r;have J:C1.length=d.size:=by
  rw [l];simp only [List.length_append,List.length_take,List.length_drop,m,Array.length_toList,f]
  omega
 have F:∀ ty dc sc,(Builtin.copy_ #[35,35] ty #[.slice (some ⟨g,(i+1)*2,none⟩) (n-i) dc,.slice (some ⟨g,i*2,none⟩) (n+1-i) sc]).run Tryz.prog w.drew=.ok (goInt (Nat.min (n+1-i) (n-i))) (w.drew.setRow g C1.toArray):=fun ty dc sc=>by
  rw [l];exact i7 2 w.drew _ _ ty 83 g ((i+1)*2) (n-i) dc ⟨g,i*2,none⟩ (n+1-i) sc d 83 (ah (xs.drop i)) Tryz.underlying35 L b (by rw [m];simp only [Nat.min_def];split <;> omega)
   (fun j v Q=>by
    rw [aK];refine C.cells (i*2+j) v ?_;rw [←eL,List.getElem?_drop] at Q;exact Q)
   (by rw [m];omega) (bE _)
 have D:(w.drew.setRow g C1.toArray).heap[g]?=some (.cells C1.toArray 83 (0,0)):=setRow_heap w.drew g d _ _ _ b;have G:∀ (W:World),W.heap=(w.drew.setRow g C1.toArray).heap→∀ ty dc,(Builtin.copy_ #[35,35] ty #[.slice (some ⟨g,i*2,none⟩) (n+1-i) dc,.slice (some ⟨vb,0,none⟩) 1 1]).run Tryz.prog W=.ok (goInt (Nat.min 1 (n+1-i))) (W.setRow g C2.toArray):=fun W hW ty dc=>by
  have h:=i7 (P:=Tryz.prog) 2 W _ 35 ty 83 g (i*2) (n+1-i) dc ⟨vb,0,none⟩ 1 1 C1.toArray 83 (ah [x]) Tryz.underlying35 L (by rw [hW];exact D) (by rw [cellsE_len];simp only [Nat.min_def];split <;> simp <;> omega)
   (fun j v Q=>by
    rw [aK,Nat.zero_add];have hb:W.heap[vb]?=w.heap[vb]?:=by rw [hW,setRow_other _ _ _ _ N];rfl
    exact (World.cell?_of_block (a:=⟨vb,j,none⟩) hb).trans (X.cells j v Q))
   (by rw [cellsE_len];simp [J,f];omega) (bE _)
  rw [h,r]
 have B:Hid (∀ w',w'.heap=((w.drew.setRow g C1.toArray).setRow g C2.toArray).heap→w'.os=w.os→w'.tape=w.tape→w'.output=w.output→bX w' g cap (xs.take i ++ x :: xs.drop i)∧w.grownBy w' (some g)):=by
  intro w' p O S h3;rw [setRow_setRow] at p;have I:w.grownBy w' (some g):=⟨O,S,h3,by rw [p,setRow_size];exact zT,fun k hk U=>by rw [p,setRow_other _ _ _ _ fun e=>U (by rw [e])];rfl⟩
  refine ⟨⟨⟨C2.toArray,by rw [p];exact setRow_heap w.drew g d _ _ _ b,by rw [List.size_toArray,K,Array.length_toList,f],M⟩,by simp;omega,C.2.2.1,fun y z=>?_⟩,I⟩
  refine eh.grown ?_ b I
  rcases List.mem_append.1 z with z | z
  ·exact t y (List.mem_of_mem_take z)
  rcases List.mem_cons.1 z with rfl | z
  ·exact hx
  exact t y (List.mem_of_mem_drop z)
 unfold gn;rw [s] at hn hi u ⊢;have hn':(n:Int)≤3000:=by omega
 have hi':(i:Int)<(n:Int):=by omega
 have hr':(n:Int)+1≤(cap:Int):=by omega
 have Z : ¬ ((i:Int)=(n:Int)):=by omega
 have hb2 : ¬ (cap=i+1):=by omega
 have hb4 : ¬ (cap=i):=by omega
 have hw1:IntKind.i64.wrap ((i:Int)+1)=(i:Int)+1:=by rw [IntKind.wrap_i64];omega
 have hb1:(0:Int)≤(i:Int)+1:=by omega
 have htn:((i:Int)+1).toNat=i+1:=by omega
 have hin:i≤n:=by omega
 have hb3:(i:Int)≤(n:Int)+1:=by omega
 clear E t s J K M l r q m D b f H C hx X
 go_enter Tryz.func129,Tryz.ntmps129
 go_wp2_with (simp only [V])
 go_region_law (refine step_copy_runI rfl _ _ 35 35 rfl _ _ (by simp [Act.eval,Act.put]) (by simp [Act.eval,Act.put]) (F _ _ _) ?_)
 go_wp2_with (at_builtin;refine wpList_copy_runI _ rfl _ _ 35 35 rfl _ _ rfl rfl (G _ rfl _ _) ?_)
 go_ret;obtain ⟨O,S⟩:=B.out _ rfl rfl rfl rfl;exact ⟨g,cap,rfl,O,zT,S⟩
theorem zero_size (k:Nat):(Builtin.zeroCells (Value.agg #[.slice none 0 0,.int .i64 0]).cells k).size=k*2:=by
 simp [Builtin.zeroCells,Value.cells]
theorem uj (g cap i vb:Nat) (xs:List EnL) (x:EnL) (w:World) (hn:xs.length≤3000) (hi:i<xs.length) (l:cap<xs.length+1) (z:bX w g cap xs) (hx:eh w x.A x.c x.e.pl) (hv:vX w vb x) :
  Calls Tryz.prog 129 #[.slice (some ⟨g,0,none⟩) xs.length cap,.int .i64 i,.slice (some ⟨vb,0,none⟩) 1 1] w fun e w'=>gn w g i xs x e w':=by
 obtain ⟨i0,Q,hz0,X,Y⟩:=info_parts Tryz.infoEnt;have U:(Tryz.prog.info? 83).map (·.size)=some 2:=by rw [Q];simp [X]
 have hcm:=z.2.2.1;unfold maxLen at hcm;have hnc:=z.2.1;have F:g<w.heap.size:=z.lt;have hvw:vb<w.heap.size:=(zY hv).1;obtain ⟨n,f⟩:=aA xs.length;rw [f] at hn hi l hnc;have E:(ah (xs.drop i)).length=(n-i)*2:=by rw [cellsE_len,List.length_drop,f]
 have r:(ah (xs.take i)).length=i*2:=by rw [cellsE_len,List.length_take,f,Nat.min_eq_left (by omega)]
 have R:(n:Int)+1-(i:Int)=((n+1-i:Nat):Int):=by omega
 have H:i+(n+1-i)=n+1:=by omega
 have B:(Builtin.firstCells i0.size i (.slice (some ⟨g,0,none⟩) i cap)).run Tryz.prog w.drew=.ok (ah (xs.take i)).toArray w.drew:=by
  rw [X];exact run_firstCells_some w.drew 2 i ⟨g,0,none⟩ i cap (ah (xs.take i)) r (fun j v q=>by
   rw [aK,Nat.zero_add];rw [←fI,List.getElem?_take] at q
   split at q
   ·exact z.cells j v q
   cases q)
 obtain ⟨G,Z⟩:∃ G,G=grownCap w (n+1) cap 83:=⟨_,rfl⟩;obtain ⟨ROW,d⟩:∃ ROW:Array Value,ROW=(ah (xs.take i)).toArray ++ Builtin.zeroCells (Value.agg #[.slice none 0 0,.int .i64 0]).cells (n+1-i) ++ Builtin.zeroCells (Value.agg #[.slice none 0 0,.int .i64 0]).cells (G-(n+1)):=⟨_,rfl⟩;have hrz:∀ ty,(Builtin.append_ #[35,3] ty #[.slice (some ⟨g,0,none⟩) i cap,.int .i64 ((n:Int)+1-(i:Int))]).run Tryz.prog w=.ok (.slice (some ⟨w.heap.size,0,none⟩) (n+1) G) (w.drew.alloc (.cells ROW 83)):=fun ty=>by
  have h:=Lib.run_append_grow_zeros w 35 3 ty 83 i0 _ .i64 .i64 Tryz.underlying35 Tryz.underlying3 Q hz0 (some ⟨g,0,none⟩) i cap (ah (xs.take i)) B (n+1-i) (by omega) (by omega) (by omega) (by omega) (by rw [Y];omega) (by rw [Y,H];exact growslice_fits l (by omega))
  rw [H] at h;rw [R,d,Z];exact h
 have hGn:n+1≤G:=by rw [Z];exact grownCap_ge w _ _ _
 have u:G≤maxLen:=by
  rw [Z];exact grownCap_le_maxLen w (n+1) cap 83 (by unfold maxLen;omega)
 have D:ROW.size=G*2:=by
  rw [d,Array.size_append,Array.size_append,zero_size,zero_size,List.size_toArray,r]
  omega
 obtain ⟨C1,m⟩:∃ C1,C1=ROW.toList.take (i*2) ++ ah [x] ++ ROW.toList.drop (i*2+(ah [x]).length):=⟨_,rfl⟩;obtain ⟨C2,C⟩:∃ C2,C2=C1.take ((i+1)*2) ++ ah (xs.drop i) ++ C1.drop ((i+1)*2+(ah (xs.drop i)).length):=⟨_,rfl⟩;have o:ROW.toList.length=G*2:=by simpa using D
 have K:ROW.toList.take (i*2)=ah (xs.take i):=by
  rw [d,Array.toList_append,Array.toList_append,List.append_assoc];exact fC r
 obtain ⟨T,V⟩:=wX (xs:=xs) (x:=x) (i:=i) K (by rw [o,f];omega) (by omega) m C
 have t:(ah [x]).length=2:=by rw [cellsE_len];rfl
 have S:C1.length=G*2:=by
  rw [m];simp only [List.length_append,List.length_take,List.length_drop,t,o]
  omega
 have p:(w.drew.alloc (.cells ROW 83)).heap[w.heap.size]?=some (.cells ROW 83 (0,0)):=heap_alloc_new w.drew _;have b:∀ k,k<w.heap.size→(w.drew.alloc (.cells ROW 83)).heap[k]?=w.heap[k]?:=fun k hk=>Below.heap_alloc w.drew _ k hk
 have N:∀ (W:World),W.heap=(w.drew.alloc (.cells ROW 83)).heap→∀ ty dc,(Builtin.copy_ #[35,35] ty #[.slice (some ⟨w.heap.size,i*2,none⟩) (n+1-i) dc,.slice (some ⟨vb,0,none⟩) 1 1]).run Tryz.prog W=.ok (goInt (Nat.min 1 (n+1-i))) (W.setRow w.heap.size C1.toArray):=fun W L ty dc=>by
  have h:=i7 (P:=Tryz.prog) 2 W _ 35 ty 83 w.heap.size (i*2) (n+1-i) dc ⟨vb,0,none⟩ 1 1 ROW 83 (ah [x]) Tryz.underlying35 U (by rw [L];exact p) (by rw [t];simp only [Nat.min_def];split <;> omega)
   (fun j v q=>by
    rw [aK,Nat.zero_add];have hb:W.heap[vb]?=w.heap[vb]?:=by rw [L];exact b vb hvw
    exact (World.cell?_of_block (a:=⟨vb,j,none⟩) hb).trans (hv.cells j v q))
   (by rw [t,D];omega) (bE _)
  rw [h,m]
 have M:((w.drew.alloc (.cells ROW 83)).setRow w.heap.size C1.toArray).heap[w.heap.size]?=some (.cells C1.toArray 83 (0,0)):=setRow_heap _ _ ROW _ _ _ p;have O:∀ (W:World),W.heap=((w.drew.alloc (.cells ROW 83)).setRow w.heap.size C1.toArray).heap→∀ ty dc sc,(Builtin.copy_ #[35,35] ty #[.slice (some ⟨w.heap.size,(i+1)*2,none⟩) (n-i) dc,.slice (some ⟨g,i*2,none⟩) (n-i) sc]).run Tryz.prog W=.ok (goInt (Nat.min (n-i) (n-i))) (W.setRow w.heap.size C2.toArray):=fun W L ty dc sc=>by
  have h:=i7 (P:=Tryz.prog) 2 W _ 35 ty 83 w.heap.size ((i+1)*2) (n-i) dc ⟨g,i*2,none⟩ (n-i) sc C1.toArray 83 (ah (xs.drop i)) Tryz.underlying35 U (by rw [L];exact M) (by rw [E];simp only [Nat.min_def];split <;> omega)
   (fun j v q=>by
    rw [aK];have hb:W.heap[g]?=w.heap[g]?:=by rw [L,setRow_other _ _ _ _ (Nat.ne_of_lt F)];exact b g F
    refine (World.cell?_of_block (a:=⟨g,i*2+j,none⟩) hb).trans (z.cells (i*2+j) v ?_);rw [←eL,List.getElem?_drop] at q;exact q)
   (by rw [E,List.size_toArray,S];omega) (bE _)
  rw [h,C]
 have J:Hid (∀ w',w'.heap=(((w.drew.alloc (.cells ROW 83)).setRow w.heap.size C1.toArray).setRow w.heap.size C2.toArray).heap→w'.os=w.os→w'.tape=w.tape→w'.output=w.output→bX w' w.heap.size G (xs.take i ++ x :: xs.drop i)∧w.grownBy w' (some g)):=by
  intro w' s h1 h2 h3;rw [setRow_setRow] at s;have hB:Bl w w':=⟨h1,h2,h3,by rw [s,setRow_size];show w.heap.size≤(w.alloc _).heap.size;simp,fun k hk=>by rw [s,setRow_other _ _ _ _ (Nat.ne_of_lt hk)];exact b k hk⟩
  refine ⟨⟨⟨C2.toArray,by rw [s];exact setRow_heap _ _ ROW _ _ _ p,by rw [List.size_toArray,T,o],V⟩,by simp;omega,u,fun y I=>?_⟩,bI hB⟩
  refine eh.later ?_ hB
  rcases List.mem_append.1 I with I | I
  ·exact z.2.2.2 y (List.mem_of_mem_take I)
  rcases List.mem_cons.1 I with rfl | I
  ·exact hx
  exact z.2.2.2 y (List.mem_of_mem_drop I)
 have hE1:((w.alloc (.cells ROW 83)).drew).heap=(w.drew.alloc (.cells ROW 83)).heap:=rfl;have hF1:(((w.alloc (.cells ROW 83)).drew.setRow w.heap.size C1.toArray).drew).heap=((w.drew.alloc (.cells ROW 83)).setRow w.heap.size C1.toArray).heap:=rfl;unfold gn;rw [f];unfold maxLen at u;have hn':(n:Int)≤3000:=by omega
 have hi':(i:Int)<(n:Int):=by omega
 have hr':(cap:Int)<(n:Int)+1:=by omega
 have hne : ¬ ((i:Int)=(n:Int)):=by omega
 have hGi : ¬ (G=i):=by omega
 have hGim : ¬ (G=i+1):=by omega
 have hci : ¬ (cap=i):=by omega
 have hw1:IntKind.i64.wrap ((i:Int)+1)=(i:Int)+1:=by rw [IntKind.wrap_i64];omega
 have hb1:(0:Int)≤(i:Int)+1:=by omega
 have htn:((i:Int)+1).toNat=i+1:=by omega
 have hin:i≤n:=by omega
 have hb3:(i:Int)≤(n:Int)+1:=by omega
 have hgl:g≤w.heap.size:=Nat.le_of_lt F;clear f S T V m C E r p M z hx hv R H B d Z D o K t b
 go_enter Tryz.func129,Tryz.ntmps129
 go_wp2_with (first
  | (at_builtin;refine Lib.wpList_append_run _ rfl _ _ _ _ rfl _ _ rfl rfl _ _ (hrz _) ?_)
  | (at_builtin;refine wpList_copy_runI _ rfl _ _ 35 35 rfl _ _ rfl rfl (N _ hE1 _ _) ?_))
 go_region_law (refine step_copy_runI rfl _ _ 35 35 rfl (.slice (some ⟨w.heap.size,(i+1)*2,none⟩) (n-i) (G-(i+1))) (.slice (some ⟨g,i*2,none⟩) (n-i) (cap-i)) (by simp [Act.eval,Act.put]) (by simp [Act.eval,Act.put]) (O _ hF1 3 (G-(i+1)) (cap-i)) ?_)
 go_wp2_with fail;go_ret;obtain ⟨h1,h2⟩:=J.out (((w.alloc (.cells ROW 83)).drew.setRow w.heap.size C1.toArray).drew.setRow w.heap.size C2.toArray) rfl rfl rfl rfl;exact ⟨w.heap.size,G,rfl,h1,hgl,h2⟩
theorem xn (g cap i vb:Nat) (xs:List EnL) (x:EnL) (w:World) (b:xs.length≤3000) (j:i≤xs.length) (f:vb≠g) (a:bX w g cap xs) (h:eh w x.A x.c x.e.pl) (d:vX w vb x) :
  Calls Tryz.prog 129 #[.slice (some ⟨g,0,none⟩) xs.length cap,.int .i64 i,.slice (some ⟨vb,0,none⟩) 1 1] w fun e w'=>gn w g i xs x e w':=by
 rcases Nat.eq_or_lt_of_le j with rfl | hlt
 ·exact xo g cap vb xs x w b a h d
 rcases Nat.lt_or_ge cap (xs.length+1) with hc | hc
 ·exact uj g cap i vb xs x w b hlt hc a h d
 exact sr g cap i vb xs x w b hlt hc f a h d
theorem wy (g cap i:Nat) (xs:List EnL) (w:World) (Y:xs.length≤3000) (M:i<xs.length) (o:bX w g cap xs) :
  Calls Tryz.prog 128 #[.slice (some ⟨g,0,none⟩) xs.length cap,.int .i64 i,.int .i64 ((i:Int)+1)] w fun e w'=>e=.returned (.slice (some ⟨g,0,none⟩) (xs.length-1) cap)∧bX w' g cap (xs.take i ++ xs.drop (i+1))∧w.grownBy w' (some g):=by
 obtain ⟨i0,J,hz0,L,hz2⟩:=info_parts Tryz.infoEnt;have I:=o.2.2.1;unfold maxLen at I;have K:=o.2.1;obtain ⟨⟨j,b,v,x⟩,-,-,r⟩:=id o;obtain ⟨n,d⟩:=aA xs.length;obtain ⟨news,a⟩:∃ news,news=ah (xs.drop (i+1)):=⟨_,rfl⟩;have k:news.length=(n-(i+1))*2:=by rw [a,cellsE_len,List.length_drop,d]
 have f:j.toList.length=cap*2:=by simpa using v
 rw [d] at Y M K;obtain ⟨C1,l⟩:∃ C1,C1=j.toList.take (i*2) ++ ah (xs.drop (i+1)) ++ j.toList.drop (i*2+(ah (xs.drop (i+1))).length):=⟨_,rfl⟩;obtain ⟨C2,q⟩:∃ C2,C2=C1.take ((xs.length-1)*2) ++ [.slice none 0 0,.int .i64 0] ++ C1.drop ((xs.length-1)*2+2):=⟨_,rfl⟩;obtain ⟨C,E⟩:=BD x (by rw [f,d];omega) (by rw [d];exact M) l q
 have B:C1.length=cap*2:=by
  rw [l,←a];simp only [List.length_append,List.length_take,List.length_drop,k,f]
  omega
 obtain ⟨A,hA,D⟩:∃ A:Addr,(if cap=i+1 then some (⟨g,0,none⟩:Addr) else some ⟨g,(i+1)*2,none⟩)=some A∧Hid (∀ t u,news[t]?=some u→w.drew.cell? (A.add t)=some u):=by
  by_cases h:cap=i+1
  ·refine ⟨⟨g,0,none⟩,by simp [h],fun t u F=>?_⟩
   have O:news.length=0:=by rw [k];omega
   rw [List.length_eq_zero_iff.1 O] at F
   simp at F
  refine ⟨⟨g,(i+1)*2,none⟩,by simp [h],fun t u F=>?_⟩
  rw [a,←eL,List.getElem?_drop] at F;rw [aK];exact o.cells _ u F
 have s1:=aa k;have s2:Hid (∀ u∈news,u.oneCell'=true):=by rw [a];exact bE _
 have s3:Hid (∀ t,t<news.length→(w.drew.cell? ⟨g,0+i*2+t,none⟩).isSome=true∧w.drew.frozen? ⟨g,0+i*2+t,none⟩=false):=by
  intro t ht;rw [k] at ht;exact ⟨o.full (by omega),o.frozen _⟩
 obtain ⟨W1,m⟩:∃ W1,W1=w.drew.setRow g C1.toArray:=⟨_,rfl⟩;have N:Hid (W1=w.drew.setCells g (0+i*2) news):=by
  show _=_
  rw [ja g 83 news (0+i*2) j w.drew b (by rw [k];omega),m,l,Nat.zero_add,a]
 have p:W1.heap[g]?=some (.cells C1.toArray 83 (0,0)):=by rw [m];exact setRow_heap w.drew g j _ _ _ b
 have U:∀ ty c,(Builtin.clear_ #[35] ty #[.slice (some ⟨g,(i+(n-(i+1)))*2,none⟩) (n-(i+(n-(i+1)))) c]).run Tryz.prog W1=.ok (.tuple #[]) (W1.setRow g C2.toArray):=fun ty c=>by
  rw [show n-(i+(n-(i+1)))=1 by omega,show i+(n-(i+1))=n-1 by omega]
  rw [qu W1 35 83 ty (.agg #[.slice none 0 0,.int .i64 0]) (.slice none 0 0) (.int .i64 0) Tryz.underlying35 Tryz.zeroValue83 rfl rfl rfl g ((n-1)*2) c C1.toArray 83 p (by rw [List.size_toArray,B];omega),q,d]
 have s:Hid (bX (W1.setRow g C2.toArray) g cap (xs.take i ++ xs.drop (i+1))∧w.grownBy (W1.setRow g C2.toArray) (some g)):=by
  rw [m,setRow_setRow];have z:w.grownBy (w.drew.setRow g C2.toArray) (some g):=dy (ft (dg w _)) (eY ..);refine ⟨⟨⟨C2.toArray,setRow_heap w.drew g j _ _ _ b,by rw [List.size_toArray,C,f],E⟩,by simp;omega,o.2.2.1,fun y G=>?_⟩,z⟩
  refine eh.grown ?_ b z
  rcases List.mem_append.1 G with G | G
  ·exact r y (List.mem_of_mem_take G)
  exact r y (List.mem_of_mem_drop G)
 rw [d];have Z:(n:Int)≤3000:=by omega
 have V:(i:Int)<(n:Int):=by omega
 have T:(n:Int)≤(cap:Int):=by omega
 have htn:((i:Int)+1).toNat=i+1:=by omega
 have P:(0:Int)≤(i:Int)+1:=by omega
 have Q:(i:Int)+1≤(n:Int):=by omega
 have R:(i:Int)+1≤(cap:Int):=by omega
 have S:(i:Int)≤(cap:Int):=by omega
 have W:i≤cap:=by omega
 have X:i+1≤cap:=by omega
 have H:Hid (n-1=i+(n-(i+1))):=by show _=_;omega
 clear d B C E l q k m p o b v x f r a
 go_enter Tryz.func128,Tryz.ntmps128
 go_wp2_with fail
 go_region_law (refine step_append_room rfl (.tmp 22) (.tmp 25) 35 rfl 83 i0 2 Tryz.underlying35 J L g 0 i cap (by simp [Act.eval,Act.put]) A (n-(i+1)) (cap-(i+1)) news (by simp [Act.eval,Act.put]) s1.out D.out s2.out (by omega) s3.out ?_;rw [←N.out])
 go_wp2_with fail;go_ret;rw [H.out];exact ⟨rfl,s.out⟩
theorem bX.put {w:World} {g cap:Nat} {zs:List EnL} (h:bX w g cap zs) (q:zs.length<cap) {x:EnL} (m:eh w x.A x.c x.e.pl):bX ((w.setCell ⟨g,zs.length*2,none⟩ (.slice x.A x.e.pl.length x.c)).setCell ⟨g,zs.length*2+1,none⟩ (.int .i64 x.e.n)) g cap (zs ++ [x])∧w.grownBy ((w.setCell ⟨g,zs.length*2,none⟩ (.slice x.A x.e.pl.length x.c)).setCell ⟨g,zs.length*2+1,none⟩ (.int .i64 x.e.n)) (some g):=by
 obtain ⟨⟨a,f,i,j⟩,o,p,k⟩:=id h;have e:(w.setCell ⟨g,zs.length*2,none⟩ (.slice x.A x.e.pl.length x.c)).setCell ⟨g,zs.length*2+1,none⟩ (.int .i64 x.e.n)=w.setCells g (zs.length*2) (ah [x]):=rfl;have b:(ah [x]).length=2:=by rw [cellsE_len];rfl
 have l:a.toList.length=cap*2:=by simpa using i
 rw [e,ja g 83 (ah [x]) (zs.length*2) a w f (by rw [b];omega)]
 refine ⟨h.lay ?_ ?_ (by simp;omega) fun y d=>?_,eY ..⟩
 ·simp only [List.length_append,List.length_take,List.length_drop,b,l]
  omega
 ·rw [cellsE_append,j]
  exact fC (by simp only [List.length_append,cellsE_len,List.length_cons,List.length_nil];omega)
 rcases List.mem_append.1 d with d | d
 ·exact k y d
 rw [List.mem_singleton.1 d];exact m
theorem mb {w w':World} {g:Nat} (h:w.grownBy w' (some g)) (o:Nat) (v:Value):w.grownBy (w'.setCell ⟨g,o,none⟩ v) (some g) :=
 ⟨h.os,h.tape,h.output,by simpa using h.size,fun i b a=>(Below.heap_setCell w' ⟨g,o,none⟩ v i fun e=>a (by rw [e])).trans (h.block i b a)⟩
theorem BX {w w':World} {r:Option Nat} (h:w.grownBy w' r) (o:Obj):w.grownBy (w'.alloc o) r :=
 ⟨h.os,h.tape,h.output,by have:=h.size;simp;omega,fun i a b=>(Below.heap_alloc w' o i (zW a h.size)).trans (h.block i a b)⟩
theorem IF {W w':World} {g q:Nat} {u v:Value} (h:q<W.heap.size∧q≠g∧W.cell? ⟨q,0,none⟩=some u∧W.cell? ⟨q,1,none⟩=some v) (b:W.grownBy w' (some g)):W.grownBy w' (some g)∧w'.cell? ⟨q,0,none⟩=some u∧w'.cell? ⟨q,1,none⟩=some v:=by
 have c:w'.heap[q]?=W.heap[q]?:=b.block q h.1 fun e=>h.2.1 (by simpa using e)
 exact ⟨b,(World.cell?_of_block (a:=⟨q,0,none⟩) c).trans h.2.2.1,(World.cell?_of_block (a:=⟨q,1,none⟩) c).trans h.2.2.2⟩
theorem q6 (AE:Option Addr) (ce:Nat) (xs:List EnL) (w:World) (hn:xs.length≤3000) (hS:∀ k,k<xs.length→(xs.getD k aJ).e.pl.length≤4) (hE:b6 w AE ce xs) :
  Calls Tryz.prog 32 #[.slice AE xs.length ce] w fun e w'=>(∃ ys,e=.returned (.slice (some ⟨w.heap.size,0,none⟩) xs.length xs.length)∧bX w' w.heap.size xs.length ys∧lE ys=lE xs∧dQ w.heap.size ys)∧Bl w w':=by
 obtain ⟨i0,hi0,hz0,hz1,K⟩:=info_parts Tryz.infoEnt;have HE:=aa hE;have HS:=aa hS;obtain ⟨n,J⟩:=aA xs.length;have HN:=aa J;rw [J] at hn ⊢;have hmk:∀ w',(Instr.makeSlice 35 (.int .i64 n) (.int .i64 n)).run Tryz.prog w'=.ok (.slice (some ⟨w'.heap.size,0,none⟩) n n) (w'.alloc (.cells (madeCells (Value.agg #[.slice none 0 0,.int .i64 0]).cells (n*2)) 83)):=fun w'=>by
  have h:=run_make (P:=Tryz.prog) w' 35 83 i0 _ Tryz.underlying35 hi0 hz0 .i64 .i64 n n (by omega) (Int.le_refl _) (by rw [K];omega) (by omega)
  rw [hz1] at h
  simpa using h
 have HR0:Hid (bX (w.alloc (.cells (madeCells (Value.agg #[.slice none 0 0,.int .i64 0]).cells (n*2)) 83)) w.heap.size n []):=⟨⟨_,heap_alloc_new w _,size_madeCells _ _,by simp [ah]⟩,zU,by unfold maxLen;omega,fun x hx=>by cases hx⟩
 have W:(n:Int)≤3000:=by omega
 clear hE hS J
 go_enter Tryz.func32,Tryz.ntmps32
 go_wp2_with fail;clear hmk
 go_loopg [11] n (fun g s11 wr => ∃ (k:Nat) (zs:List EnL),k≤n∧g=n-k∧s11=.int .i64 k∧zs.length=k∧Hid (lE zs=(lE xs).take k∧dQ w.heap.size zs)∧bX wr w.heap.size n zs∧Bl w wr)
 case atStart=>exact ⟨0,[],zU,rfl,rfl,rfl,(⟨by simp [lE],fun _ h=>by cases h⟩:lE []=(lE xs).take 0∧dQ w.heap.size []),HR0.out,by go_grown⟩
 case round =>
  obtain ⟨k,zs,hk,rfl,rfl,L,Z,i,B⟩:=hrel;have C:=aa i;have z:=aa B;have H:=aa L
  by_cases V:k<n
  ·have s:k<xs.length:=by rw [HN.out];exact V
   have hki:(k:Int)<(n:Int):=by omega
   obtain ⟨-,-,h0 | ⟨b,o,rfl,I⟩⟩:=HE.out.later B
   ·have:=HN.out;rw [h0] at this;simp at this;omega
   obtain ⟨c1,c2⟩:=I.at s;have F:Hid (∀ w',Bl wr w'→Calls Tryz.prog 66 #[.slice (xs.getD k aJ).A (xs.getD k aJ).e.pl.length (xs.getD k aJ).c] w' fun e w''=>(∃ A' d,e=.returned (.slice A' (xs.getD k aJ).e.pl.length d)∧eh w'' A' d (xs.getD k aJ).e.pl∧eU w.heap.size A')∧Bl w' w''):=fun w' X=>(qN _ _ _ w' (HS.out k s) ((I.pl s).later X)).mono fun _ _ ⟨⟨A',d,Q,R,h3⟩,h4⟩=>⟨⟨A',d,Q,R,h3.le (zV z.out.size X.size)⟩,h4⟩
   have l:=de wr (xs.getD k aJ).A (xs.getD k aJ).e.pl.length (xs.getD k aJ).c (xs.getD k aJ).e.n 83;have q:=aa l;have v:=kA wr (xs.getD k aJ).A (xs.getD k aJ).e.pl.length (xs.getD k aJ).c (xs.getD k aJ).e.n 83;have t:=sK wr (xs.getD k aJ).A (xs.getD k aJ).e.pl.length (xs.getD k aJ).c (xs.getD k aJ).e.n 83;have u:=AD wr (xs.getD k aJ).A (xs.getD k aJ).e.pl.length (xs.getD k aJ).c (xs.getD k aJ).e.n 83;have G:Hid ((lE xs).take (k+1)=(lE xs).take k ++ [(xs.getD k aJ).e]):=by
    show _=_
    rw [List.take_succ_eq_append_getElem (by rw [a8];exact s),←lE_at,zZ,zX (by rw [a8];exact s)]
    rfl
   have hwg:w.heap.size<wr.heap.size:=i.lt;generalize xs.getD k aJ=x at c1 c2 F q v t u G;clear I l i B L;have r:Hid (∀ (w3:World) (A':Option Addr) (d:Nat),bX w3 w.heap.size n zs→eh w3 A' d x.e.pl→bX ((w3.setCell ⟨w.heap.size,k*2,none⟩ (.slice A' x.e.pl.length d)).setCell ⟨w.heap.size,k*2+1,none⟩ (.int .i64 x.e.n)) w.heap.size n (zs ++ [⟨x.e,A',d⟩])∧w3.grownBy ((w3.setCell ⟨w.heap.size,k*2,none⟩ (.slice A' x.e.pl.length d)).setCell ⟨w.heap.size,k*2+1,none⟩ (.int .i64 x.e.n)) (some w.heap.size)):=fun w3 A' d Q R=>by
    have h3:=Q.put (by rw [H.out];exact V) (x:=⟨x.e,A',d⟩) R
    rw [H.out] at h3;exact h3
   have HLN:Hid (∀ A' d,eU w.heap.size A'→lE (zs ++ [⟨x.e,A',d⟩])=(lE xs).take (k+1)∧dQ w.heap.size (zs ++ [⟨x.e,A',d⟩])):=fun A' d W=>⟨by rw [rg,Z.out.1,G.out];rfl,fun y Y=>by
    rcases List.mem_append.1 Y with Y | Y
    ·exact Z.out.2 y Y
    rw [List.mem_singleton.1 Y];exact W⟩
   generalize hxl:x.e.pl.length=m at c1 F q v t u r;generalize x.e.n=N at c2 q v t u r;clear hxl G;go_wp2_with fail;obtain ⟨W2,p⟩:=aA (wr.alloc (.cells #[.slice x.A m x.c,.int .i64 N] 83));have l:Bl wr W2:=by rw [←p];exact q.out
   have K:wr.heap.size<W2.heap.size:=by rw [←p];show _<(dr wr x.A m x.c N 83).heap.size;rw [v];omega
   have M:Hid (wr.heap.size<W2.heap.size∧wr.heap.size≠w.heap.size∧W2.cell? ⟨wr.heap.size,0,none⟩=some (.slice x.A m x.c)∧W2.cell? ⟨wr.heap.size,1,none⟩=some (.int .i64 N)):=by rw [←p];exact ⟨by rw [p];exact K,by omega,t,u⟩
   have D:=aa l;have a:=aa (C.out.later l);rw [p];clear p l v t u q c1 c2
   go_region_held3 (fun w'=>W2.grownBy w' (some w.heap.size)∧w'.cell? ⟨wr.heap.size,0,none⟩=some (.slice x.A m x.c)∧w'.cell? ⟨wr.heap.size,1,none⟩=some (.int .i64 N))
    ((refine IF M.out ?_;(repeat (first | exact dg _ _ | assumption | refine ft ?_ | refine mb ?_ _ _));done))
    (first | (go_at_call 66;refine (F.out _ (ae D.out (by go_grown))).mono ?_;rintro e w3 ⟨⟨A',d,rfl,T,S⟩,U⟩;have f:=ae (W0:=W2) (by go_grown) U;have HNw:=aa S;clear S;have hG3:W2.grownBy w3 (some w.heap.size):=bI f;have E:=aa f;have HPT:=aa T;obtain ⟨u0,d0⟩:=Option.isSome_iff_exists.1 ((a.out.later f).full (j:=k*2) (by omega));obtain ⟨u1,d1⟩:=Option.isSome_iff_exists.1 ((a.out.later f).full (j:=k*2+1) (by omega));have f0:=(a.out.later f).frozen (k*2);have f1:=(a.out.later f).frozen (k*2+1);clear U f T))
   clear d0 d1 f0 f1 hG3;go_wp2_with fail
   go_roundg (n-(k+1))
   case measure=>omega
   case rel =>
    obtain ⟨Q,R⟩:=r.out w3 A' d (a.out.later E.out) HPT.out;refine ⟨k+1,_,by omega,rfl,by go_num,?_,HLN.out A' d HNw.out,Q,?_⟩
    ·rw [List.length_append,H.out];rfl
    exact jj (ae z.out (ae D.out E.out)) R (ae z.out (ae D.out E.out)).size (zT)
  have hke:k=n:=by omega
  subst hke;have O:Hid (lE zs=lE xs∧dQ w.heap.size zs):=⟨by rw [Z.out.1,List.take_of_length_le (by rw [a8,HN.out];exact zT)],Z.out.2⟩
  clear i B L;go_wp2_with fail;go_ret;exact ⟨⟨zs,rfl,C.out,O.out⟩,z.out⟩
theorem BT (AE:Option Addr) (a:Nat) (xs:List EnL) (w:World) (i:xs.length≤3000) (h:∀ k,k<xs.length→(xs.getD k aJ).e.pl.length≤4) (g:b6 w AE a xs) :
  Calls Tryz.prog 32 #[.slice AE xs.length a] w fun e w'=>(∃ ys,e=.returned (.slice (some ⟨w.heap.size,0,none⟩) xs.length xs.length)∧bX w' w.heap.size xs.length ys∧lE ys=lE xs)∧Bl w w' :=
 (q6 AE a xs w i h g).mono fun _ _ ⟨⟨ys,b,c,d,_⟩,f⟩=>⟨⟨ys,b,c,d⟩,f⟩
def nQ (M:Nat) (w:World) (g:Nat) (E:Int) (l:List En) (e:Ending) (w':World):Prop :=
 (∃ B c ys,e=.returned (.tuple #[.slice B ys.length c,errV E])∧((E≠0∧B=none∧c=0∧ys=[])∨(E=0∧∃ g',B=some ⟨g',0,none⟩∧g≤g'∧bX w' g' c ys∧lE ys=l∧dQ M ys)))∧w.grownBy w' (some g)
theorem ED (D:Nat→Dm) (n:Nat) (l:List En) (p:List Int) (N:Int):editErr D n l ⟨p,N,false⟩=entOne D n ⟨p,N⟩:=by
 unfold editErr entOne
 rfl
theorem B5 {M:Nat} (A0:Option Addr) (cap n:Nat) (D:Nat→Dm) (A:Nat→Option Addr) (C:Nat→Nat) (g K:Nat) (xs:List EnL) (Ap:Option Addr) (l:Nat) (p:List Int) (N:Int) (w:World) (hM:aY w A0 cap n D A C) (hP:a7 w Ap l p) (hR:bX w g K xs) (T:Ens D n (lE xs)) (hMx:dQ M xs) (hMw:M≤w.heap.size) :
  Calls Tryz.prog 90 #[.agg #[.slice A0 n cap],.slice (some ⟨g,0,none⟩) xs.length K,.agg #[.slice Ap p.length l,.int .i64 N]] w fun e w'=>nQ M w g (editErr D n (lE xs) ⟨p,N,false⟩) (setL (lE xs) p N) e w':=by
 rw [ED];have R:=mZ w A0 n cap Ap p.length l N;have h:=mP A0 cap n D A C Ap l ⟨p,N⟩ (lj w A0 n cap Ap p.length l N) T.right (hM.later R) (hP.later R);have y:=aa R;have I:=ps w A0 n cap Ap p.length l N;have r:=H6 w A0 n cap Ap p.length l N;have s:=AF w A0 n cap Ap p.length l N;have HP:=aa hP;have HR:=aa hR;have HEs:=aa T;have hgw:g<w.heap.size:=hR.lt;have o:=ku T;unfold nQ;clear hM hP R hR
 by_cases Y:entOne D n ⟨p,N⟩=0
 ·obtain ⟨hI,-,-⟩:=dY T.right Y
  have HF:Hid (∀ w',Bl w w'→Rt 127 #[.slice (some ⟨g,0,none⟩) xs.length K,.slice Ap p.length l] w' (.tuple #[.int .i64 (cntE (lE xs) p:Nat),.bool (hasE (lE xs) p)])):=fun w' b=>q8 _ _ xs Ap l p w' o ((HR.out.later b).ensV) HEs.out.rise (pR HEs.out hI) (HP.out.later b)
  have L:Hid (∀ w',Bl w w'→Calls Tryz.prog 66 #[.slice Ap p.length l] w' fun e w''=>(∃ A' q,e=.returned (.slice A' p.length q)∧eh w'' A' q p∧eU M A')∧Bl w' w''):=fun w' b=>(qN _ _ _ w' (eN hI) (HP.out.later b)).mono fun _ _ ⟨⟨A',q,Q,W,h3⟩,h4⟩=>⟨⟨A',q,Q,W,h3.le (zV hMw b.size)⟩,h4⟩
  have B:=Em (lE xs) p;rw [a8] at B;rw [Y,errV_zero] at h ⊢;clear Y hI;cases hh:hasE (lE xs) p
  ·-- nothing stood there
   have O:Hid (∀ (w3:World) (A':Option Addr) (q:Nat),Bl w w3→eh w3 A' q p∧eU M A'→Calls Tryz.prog 129 #[.slice (some ⟨g,0,none⟩) xs.length K,.int .i64 (cntE (lE xs) p:Nat),.slice (some ⟨w3.heap.size,0,none⟩) 1 1] (dr w3 A' p.length q N 83) fun e w' => ∃ g' d ys,e=.returned (.slice (some ⟨g',0,none⟩) (xs.length+1) d)∧ys.length=xs.length+1∧bX w' g' d ys∧lE ys=setL (lE xs) p N∧dQ M ys∧g≤g'∧(dr w3 A' p.length q N 83).grownBy w' (some g)):=fun w3 A' q b hT=>by
    have hb:=de w3 A' p.length q N 83;have Q:=xn g K (cntE (lE xs) p) w3.heap.size xs ⟨⟨p,N⟩,A',q⟩ (dr w3 A' p.length q N 83) o B (by have:=b.size;omega) ((HR.out.later b).later hb) (hT.1.later hb) (heap_alloc_new w3 _)
    refine Q.mono ?_;rintro e w' ⟨g',d,rfl,x,Z,U⟩;exact ⟨g',d,_,rfl,by simp;omega,x,by rw [I4,Io hh],hMx.put hT.2,Z,U⟩
   have f:Hid (∀ w',Bl w w'→Rt 127 #[.slice (some ⟨g,0,none⟩) xs.length K,.slice Ap p.length l] w' (.tuple #[.int .i64 (cntE (lE xs) p:Nat),.bool false])):=fun w' b=>by have Q:=HF.out w' b;rw [hh] at Q;exact Q
   clear HF hh;generalize cntE (lE xs) p=i at f O B;obtain ⟨m,hm⟩:=aA p.length;obtain ⟨nx,F⟩:=aA xs.length;rw [hm] at h y I r s L f O ⊢;rw [F] at f O o B ⊢;clear hm F
   go_enter Tryz.func90,Tryz.ntmps90
   go_wp2_with fail;refine h.mono ?_;rintro e w1 ⟨rfl,a⟩;have t:Bl w w1:=ae y.out a;have G:=aa t;have c0:w1.cell? ⟨w.heap.size+1,0,none⟩=some (.slice Ap m l):=aD a (by show w.heap.size+1<_;omega) r
   have c1:w1.cell? ⟨w.heap.size+1,1,none⟩=some (.int .i64 N):=aD a (by show w.heap.size+1<_;omega) s
   have J:w.heap.size+1<w1.heap.size:=by have:=a.size;omega
   have W:=f.out w1 t;clear a h t r s I;go_wp2_with fail;refine W.mono ?_;rintro e w2 ⟨rfl,k⟩;have z:=aa (ae G.out k);have d0:w2.cell? ⟨w.heap.size+1,0,none⟩=some (.slice Ap m l):=aD k J c0;have d1:w2.cell? ⟨w.heap.size+1,1,none⟩=some (.int .i64 N):=aD k J c1;have HBox:Hid (w.heap.size+1<w2.heap.size∧w.heap.size+1≠g∧w2.cell? ⟨w.heap.size+1,0,none⟩=some (.slice Ap m l)∧w2.cell? ⟨w.heap.size+1,1,none⟩=some (.int .i64 N)):=⟨zW J k.size,by omega,d0,d1⟩
   clear k c0 c1 W d0 d1;go_wp2_with fail
   go_region_held3 (fun w'=>w2.grownBy w' (some g)∧w'.cell? ⟨w.heap.size+1,0,none⟩=some (.slice Ap m l)∧w'.cell? ⟨w.heap.size+1,1,none⟩=some (.int .i64 N))
    ((refine IF HBox.out ?_;(repeat (first | exact dg _ _ | assumption | refine ft ?_ | refine mb ?_ _ _ | refine BX ?_ _));done))
    (first | (go_at_call 66;refine (L.out _ (ae z.out (by go_grown))).mono ?_;rintro e w3 ⟨⟨A',q,rfl,hPT,hNw⟩,hb3⟩;have X:=ae (W0:=w2) (by go_grown) hb3;have hG3:w2.grownBy w3 (some g):=bI X;have HB3:=aa X;have HPT:Hid (eh w3 A' q p∧eU M A'):=⟨hPT,hNw⟩;clear hb3 X hPT hNw) | (go_at_call 129;refine (O.out w3 A' q (ae z.out HB3.out) HPT.out).mono ?_;rintro e w4 ⟨g',d,ys,rfl,hyl,x,hle,hnw,Z,U⟩;have hG4:w2.grownBy w4 (some g):=dy (dy hG3 (bI (de ..))) U;have HRow:=aa x;have P:Hid (lE ys=setL (lE xs) p N∧dQ M ys):=⟨hle,hnw⟩;have H:=aa hyl;clear x hle U hyl hnw))
   go_wp2_with fail
   go_ret2
   exact ⟨⟨some ⟨g',0,none⟩,d,ys,by rw [H.out];rfl,Or.inr ⟨by trivial,g',rfl,Z,HRow.out,P.out⟩⟩,dy (bI z.out) hG4⟩
  -- something stood there
  obtain ⟨hso,v,-⟩:=tb hh N;have V:Hid (∀ w',Bl w w'→bX (w'.setCell ⟨g,cntE (lE xs) p*2+1,none⟩ (.int .i64 N)) g K (xs.set (cntE (lE xs) p) ⟨⟨(xs.getD (cntE (lE xs) p) aJ).e.pl,N⟩,(xs.getD (cntE (lE xs) p) aJ).A,(xs.getD (cntE (lE xs) p) aJ).c⟩)∧w'.grownBy (w'.setCell ⟨g,cntE (lE xs) p*2+1,none⟩ (.int .i64 N)) (some g)):=fun w' b=>(HR.out.later b).setN (by rw [a8] at v;exact v) N
  have P:Hid (lE (xs.set (cntE (lE xs) p) ⟨⟨(xs.getD (cntE (lE xs) p) aJ).e.pl,N⟩,(xs.getD (cntE (lE xs) p) aJ).A,(xs.getD (cntE (lE xs) p) aJ).c⟩)=setL (lE xs) p N∧dQ M (xs.set (cntE (lE xs) p) ⟨⟨(xs.getD (cntE (lE xs) p) aJ).e.pl,N⟩,(xs.getD (cntE (lE xs) p) aJ).A,(xs.getD (cntE (lE xs) p) aJ).c⟩)):=⟨by rw [I5,hso,lE_at],hMx.set (by rw [a8] at v;exact v) _ _⟩
  have f:Hid (∀ w',Bl w w'→Rt 127 #[.slice (some ⟨g,0,none⟩) xs.length K,.slice Ap p.length l] w' (.tuple #[.int .i64 (cntE (lE xs) p:Nat),.bool true])):=fun w' b=>by have Q:=HF.out w' b;rw [hh] at Q;exact Q
  have H:Hid ((xs.set (cntE (lE xs) p) ⟨⟨(xs.getD (cntE (lE xs) p) aJ).e.pl,N⟩,(xs.getD (cntE (lE xs) p) aJ).A,(xs.getD (cntE (lE xs) p) aJ).c⟩).length=xs.length):=List.length_set;rw [a8] at v;clear HF hh hso;generalize xs.set (cntE (lE xs) p) ⟨⟨(xs.getD (cntE (lE xs) p) aJ).e.pl,N⟩,(xs.getD (cntE (lE xs) p) aJ).A,(xs.getD (cntE (lE xs) p) aJ).c⟩=ys at V P H;generalize cntE (lE xs) p=i at f V B v;obtain ⟨m,hm⟩:=aA p.length;obtain ⟨nx,F⟩:=aA xs.length;rw [hm] at h y I r s L f ⊢;rw [F] at f o B v H ⊢;have hil':(i:Int)<(nx:Int):=by omega
  have hcg:nx≤K:=by rw [←F];exact HR.out.2.1
  clear hm F L
  go_enter Tryz.func90,Tryz.ntmps90
  go_wp2_with fail;refine h.mono ?_;rintro e w1 ⟨rfl,a⟩;have t:Bl w w1:=ae y.out a;have G:=aa t;have c0:w1.cell? ⟨w.heap.size+1,0,none⟩=some (.slice Ap m l):=aD a (by show w.heap.size+1<_;omega) r
  have c1:w1.cell? ⟨w.heap.size+1,1,none⟩=some (.int .i64 N):=aD a (by show w.heap.size+1<_;omega) s
  have J:w.heap.size+1<w1.heap.size:=by have:=a.size;omega
  have W:=f.out w1 t;clear a h t r s I;go_wp2_with fail;refine W.mono ?_;rintro e w2 ⟨rfl,k⟩;have S:Bl w w2:=ae G.out k;have z:=aa S;have d1:w2.cell? ⟨w.heap.size+1,1,none⟩=some (.int .i64 N):=aD k J c1;obtain ⟨u,hu⟩:=Option.isSome_iff_exists.1 ((HR.out.later S).full (j:=i*2+1) (by omega))
  have hf:=(HR.out.later S).frozen (i*2+1);clear k c0 c1 W S;go_wp2_with fail
  go_ret2
  obtain ⟨r1,r2⟩:=V.out w2 z.out;exact ⟨⟨some ⟨g,0,none⟩,K,ys,by rw [H.out];rfl,Or.inr ⟨by trivial,g,rfl,zT,r1,P.out⟩⟩,dy (bI z.out) r2⟩
 have HV:Hid (errV (entOne D n ⟨p,N⟩)=.iface 63 (.int .i64 (entOne D n ⟨p,N⟩))):=ak Y;rw [ak Y] at h;have HE:=aa Y;generalize entOne D n ⟨p,N⟩=E at h HV HE;generalize p.length=m at h y;generalize xs.length=nx;clear Y I r s o
 go_enter Tryz.func90,Tryz.ntmps90
 go_wp2_with fail;refine h.mono ?_;rintro e w1 ⟨rfl,a⟩;have G:=aa (ae y.out a);clear a;go_wp2_with fail
 go_ret2
 rw [HV.out];exact ⟨⟨none,0,[],rfl,Or.inl ⟨HE.out,rfl,rfl,rfl⟩⟩,bI G.out⟩
theorem EC {D:Nat→Dm} {n:Nat} {l:List En} (a:(am D n).2.2=0) (p:List Int) (N:Int):editErr D n l ⟨p,N,true⟩=if placeErr D n p≠0 then placeErr D n p else if hasE l p=true then 0 else 5:=by
 rw [DM a];unfold editErr
 rfl
theorem sh {l:List En} {p:List Int} (h:hasE l p=true):cntE l p<l.length:=(tb h 0).2.1
theorem vQ {M:Nat} (A0:Option Addr) (cap n:Nat) (D:Nat→Dm) (A:Nat→Option Addr) (C:Nat→Nat) (g r:Nat) (xs:List EnL) (Ap:Option Addr) (G:Nat) (p:List Int) (N:Int) (w:World) (Y:aY w A0 cap n D A C) (U:a7 w Ap G p) (Z:bX w g r xs) (I:Ens D n (lE xs)) (T:dQ M xs) :
  Calls Tryz.prog 89 #[.agg #[.slice A0 n cap],.slice (some ⟨g,0,none⟩) xs.length r,.slice Ap p.length G] w fun e w'=>nQ M w g (editErr D n (lE xs) ⟨p,N,true⟩) (clrL (lE xs) p) e w':=by
 have s:=EC (l:=lE xs) I.right p N;have t:=aq w A0 n cap 24;have h:=kC A0 cap n D A C Ap G p (ay w A0 n cap 24) (Y.later t) (U.later t);have y:=aa t;have HP:=aa U;have V:=aa Z;have J:=aa I;have c:=ku I;unfold nQ;clear Y U t Z
 by_cases v:placeErr D n p=0
 ·rw [if_neg (by simpa using v)] at s
  have X:=fV v;have S:Hid (∀ w',Bl w w'→Rt 127 #[.slice (some ⟨g,0,none⟩) xs.length r,.slice Ap p.length G] w' (.tuple #[.int .i64 (cntE (lE xs) p:Nat),.bool (hasE (lE xs) p)])):=fun w' d=>q8 _ _ xs Ap G p w' c ((V.out.later d).ensV) J.out.rise (pR J.out X) (HP.out.later d)
  rw [v,errV_zero] at h;clear v X;cases hh:hasE (lE xs) p
  ·rw [hh,if_neg (by simp)] at s
   have HV:Hid (errV (editErr D n (lE xs) ⟨p,N,true⟩)=.iface 63 (.int .i64 5)∧editErr D n (lE xs) ⟨p,N,true⟩≠0):=by rw [s];exact ⟨rfl,by decide⟩
   have a:Hid (∀ w',Bl w w'→Rt 127 #[.slice (some ⟨g,0,none⟩) xs.length r,.slice Ap p.length G] w' (.tuple #[.int .i64 (cntE (lE xs) p:Nat),.bool false])):=fun w' d=>by have O:=S.out w' d;rw [hh] at O;exact O
   clear S hh s;generalize cntE (lE xs) p=i at a;generalize editErr D n (lE xs) ⟨p,N,true⟩=E at HV;obtain ⟨m,R⟩:=aA p.length;obtain ⟨nx,q⟩:=aA xs.length;rw [R] at h a ⊢;rw [q] at a c ⊢;clear R q
   go_enter Tryz.func89,Tryz.ntmps89
   go_wp2_with fail;refine h.mono ?_;rintro e w1 ⟨rfl,b⟩;have f:Bl w w1:=ae y.out b;have k:=aa f;have P:=a.out w1 f;clear b h f;go_wp2_with fail;refine P.mono ?_;rintro e w2 ⟨rfl,o⟩;have z:=aa (ae k.out o);clear o P;go_wp2_with fail
   go_ret2
   rw [HV.out.1];exact ⟨⟨none,0,[],rfl,Or.inl ⟨HV.out.2,rfl,rfl,rfl⟩⟩,bI z.out⟩
  rw [hh,if_pos rfl] at s;have u:=sh hh;rw [a8] at u;have j:Hid (∀ w',Bl w w'→Calls Tryz.prog 128 #[.slice (some ⟨g,0,none⟩) xs.length r,.int .i64 (cntE (lE xs) p:Nat),.int .i64 ((cntE (lE xs) p:Int)+1)] w' fun e w''=>e=.returned (.slice (some ⟨g,0,none⟩) (xs.length-1) r)∧bX w'' g r (xs.take (cntE (lE xs) p) ++ xs.drop (cntE (lE xs) p+1))∧w'.grownBy w'' (some g)):=fun w' d=>wy g r (cntE (lE xs) p) xs w' c u (V.out.later d)
  have K:Hid (lE (xs.take (cntE (lE xs) p) ++ xs.drop (cntE (lE xs) p+1))=clrL (lE xs) p∧dQ M (xs.take (cntE (lE xs) p) ++ xs.drop (cntE (lE xs) p+1))):=⟨by unfold clrL;rw [rg,lE_take,Ha],T.cut⟩
  have B:Hid ((xs.take (cntE (lE xs) p) ++ xs.drop (cntE (lE xs) p+1)).length=xs.length-1):=by show _=_;simp;omega
  have a:Hid (∀ w',Bl w w'→Rt 127 #[.slice (some ⟨g,0,none⟩) xs.length r,.slice Ap p.length G] w' (.tuple #[.int .i64 (cntE (lE xs) p:Nat),.bool true])):=fun w' d=>by have O:=S.out w' d;rw [hh] at O;exact O
  rw [s,errV_zero];clear S hh s;generalize hys:xs.take (cntE (lE xs) p) ++ xs.drop (cntE (lE xs) p+1)=ys at j K B;clear hys;generalize cntE (lE xs) p=i at a j u;obtain ⟨m,R⟩:=aA p.length;obtain ⟨nx,q⟩:=aA xs.length;rw [R] at h a ⊢;rw [q] at a j c u B ⊢;have KG:(i:Int)<(nx:Int):=by omega
  clear R q
  go_enter Tryz.func89,Tryz.ntmps89
  go_wp2_with fail;refine h.mono ?_;rintro e w1 ⟨rfl,b⟩;have f:Bl w w1:=ae y.out b;have k:=aa f;have P:=a.out w1 f;clear b h f;go_wp2_with fail;refine P.mono ?_;rintro e w2 ⟨rfl,o⟩;have H:Bl w w2:=ae k.out o;have z:=aa H;have W:=j.out w2 H;clear o P H;go_wp2_with fail;refine W.mono ?_;rintro e w3 ⟨rfl,x,Q⟩;have L:=aa x;have HG:=aa Q;clear x Q W;go_wp2_with fail
  go_ret2
  exact ⟨⟨some ⟨g,0,none⟩,r,ys,by rw [B.out];rfl,Or.inr ⟨by trivial,g,rfl,zT,L.out,K.out⟩⟩,dy (bI z.out) HG.out⟩
 rw [if_pos (by simpa using v)] at s
 have HV:Hid (errV (editErr D n (lE xs) ⟨p,N,true⟩)=.iface 63 (.int .i64 (placeErr D n p))∧editErr D n (lE xs) ⟨p,N,true⟩≠0):=by rw [s];exact ⟨ak v,v⟩
 rw [ak v] at h;clear v s;generalize placeErr D n p=F at h HV;generalize editErr D n (lE xs) ⟨p,N,true⟩=E at HV;generalize p.length=m at h;generalize xs.length=nx;clear c
 go_enter Tryz.func89,Tryz.ntmps89
 go_wp2_with fail;refine h.mono ?_;rintro e w1 ⟨rfl,b⟩;have k:=aa (ae y.out b);clear b;go_wp2_with fail
 go_ret2
 rw [HV.out.1];exact ⟨⟨none,0,[],rfl,Or.inl ⟨HV.out.2,rfl,rfl,rfl⟩⟩,bI k.out⟩
def pw (E:Int) (l:List En):List En:=if E=0 then l else []
theorem CB {E:Int} (h:E≠0) (l:List En):pw E l=[]:=by unfold pw;rw [if_neg h]
theorem px (l:List En):pw 0 l=l:=rfl
theorem oN {D:Nat→Dm} {n:Nat} {xs:List EnL} (a:Ens D n (lE xs)):∀ k,k<xs.length→(xs.getD k aJ).e.pl.length≤4:=fun k c=>by
 have b:(xs.getD k aJ).e∈lE xs:=List.mem_map.2 ⟨_,iT c,rfl⟩;exact eN (a.each _ b).1
theorem I6 {xs ys:List EnL} (h:lE ys=lE xs):ys.length=xs.length:=by rw [←a8,h,a8]
theorem mz (A B:Option Addr) (F G:Nat) (a b:List Int) (w:World) (N:a.length≤4) (P:b.length≤4) (H:a7 w A F a) (I:a7 w B G b):Rt 45 #[.slice A a.length F,.slice B b.length G] w (.bool (lessL a b)):=by
 have L:=aa H;have M:=aa I;have v:Hid (∀ k,k<a.length→k<b.length→lessL (a.drop k) (b.drop k)=if a.getD k 0=b.getD k 0 then lessL (a.drop (k+1)) (b.drop (k+1)) else decide (a.getD k 0<b.getD k 0)):=fun k D s=>E5 D s
 have u:Hid (∀ k,b.length≤k→lessL (a.drop k) (b.drop k)=false):=fun k s=>xv s
 have z:Hid (∀ k,a.length≤k→k<b.length→lessL (a.drop k) (b.drop k)=true):=fun k D s=>ur D s
 obtain ⟨na,l⟩:=aA a.length;obtain ⟨nb,m⟩:=aA b.length;have q:=aa l;have r:=aa m;rw [l] at v z N;rw [m] at v u z P;rw [l,m];have O:(na:Int)≤4:=by omega
 have Q:(nb:Int)≤4:=by omega
 clear H I l m
 go_enter Tryz.func45,Tryz.ntmps45
 go_wp2_with fail
 go_loopg [5] na (fun g s5 wr => ∃ (k:Nat),k≤na∧k≤nb∧g=na-k∧s5=.int .i64 k∧Hid (lessL (a.drop k) (b.drop k)=lessL a b)∧Bl w wr)
 case atStart=>exact ⟨0,zU,zU,rfl,rfl,(rfl:lessL (a.drop 0) (b.drop 0)=lessL a b),zS⟩
 case round =>
  obtain ⟨k,Z,T,rfl,rfl,p,c⟩:=hrel;have f:=aa c
  by_cases t:k<na
  ·have U:(k:Int)<(na:Int):=by omega
   by_cases j:k<nb
   ·obtain ⟨Y,C | ⟨g1,o1,rfl,R,h⟩⟩:=L.out.later c
    ·have:=q.out;rw [C] at this;simp at this;omega
    obtain ⟨S,C | ⟨g2,o2,rfl,J,d⟩⟩:=M.out.later c
    ·have:=r.out;rw [C] at this;simp at this;omega
    have W:=h k (by rw [q.out];exact t)
    have X:=d k (by rw [r.out];exact j)
    have n:(k:Int)<(nb:Int):=by omega
    have e:=v.out k t j;generalize a.getD k 0=x at W e;generalize b.getD k 0=y at X e;clear h d c
    by_cases o:x=y
    ·have i:Hid (lessL (a.drop (k+1)) (b.drop (k+1))=lessL a b):=by show _=_;rw [←p.out,e,if_pos o]
     subst o;clear e;go_wp2_with fail
     go_quiet (fail)
     go_wp2_with fail
     go_roundg (na-(k+1))
     case measure=>omega
     case rel=>exact ⟨k+1,by omega,by omega,rfl,by go_num,i,ac f.out _⟩
    have i:Hid (lessL a b=decide (x<y)):=by show _=_;rw [←p.out,e,if_neg o]
    clear e;go_wp2_with fail
    go_quiet (fail)
    go_wp2_with fail
    go_quiet (fail)
    go_wp2_with fail;go_ret;rw [i.out];exact ⟨rfl,ac (ac f.out _) _⟩
   have i:Hid (lessL a b=false):=by show _=_;rw [←p.out,u.out k (by omega)]
   have n:(nb:Int)≤(k:Int):=by omega
   have V:decide ((na:Int)<(nb:Int))=false:=decide_eq_false (by omega)
   have K:decide (na<nb)=false:=decide_eq_false (by omega)
   clear c;go_wp2_with fail;go_ret;rw [i.out];exact ⟨rfl,f.out⟩
  have E:k=na:=by omega
  subst E
  by_cases j:k<nb
  ·have i:Hid (lessL a b=true):=by show _=_;rw [←p.out,z.out k (zT) j]
   have n:(k:Int)<(nb:Int):=by omega
   clear c;go_wp2_with fail;go_ret;rw [i.out];exact ⟨rfl,f.out⟩
  have i:Hid (lessL a b=false):=by show _=_;rw [←p.out,u.out k (by omega)]
  have n:(nb:Int)≤(k:Int):=by omega
  clear c;go_wp2_with fail;go_ret;rw [i.out];exact ⟨rfl,f.out⟩
theorem rD (A:Option Addr) (cap:Nat) (xs:List EnL) (Ap:Option Addr) (H:Nat) (p:List Int) (w:World) (hn:xs.length≤3000) (O:b6 w A cap xs) (I:mK xs p) (Q:a7 w Ap H p) :
  Rt 46 #[.slice A xs.length cap,.slice Ap p.length H] w (.tuple #[.int .i64 (cntE (lE xs) p:Nat),.bool (hasE (lE xs) p)]):=by
 have V:=aa O;have B:Hid (∀ k w',k<xs.length→Bl w w'→Rt 45 #[.slice (xs.getD k aJ).A (xs.getD k aJ).e.pl.length (xs.getD k aJ).c,.slice Ap p.length H] w' (.bool (lessL (xs.getD k aJ).e.pl p))):=fun k w' m d=>by
  obtain ⟨-,-,D | ⟨b,o,D,x⟩⟩:=O.later d
  ·rw [D] at m;simp at m
  exact mz _ _ _ _ _ _ w' (I.1 k m) I.2 (x.pl m) (Q.later d)
 have z:Hid (∀ k w',k<xs.length→Bl w w'→Rt 45 #[.slice Ap p.length H,.slice (xs.getD k aJ).A (xs.getD k aJ).e.pl.length (xs.getD k aJ).c] w' (.bool (lessL p (xs.getD k aJ).e.pl))):=fun k w' m d=>by
  obtain ⟨-,-,D | ⟨b,o,D,x⟩⟩:=O.later d
  ·rw [D] at m;simp at m
  exact mz _ _ _ _ _ _ w' I.2 (I.1 k m) (Q.later d) (x.pl m)
 have M:Hid (∀ i,i≤xs.length→(∀ t,t<i→lessL (xs.getD t aJ).e.pl p=true)→(i<xs.length→lessL (xs.getD i aJ).e.pl p=false)→cntE (lE xs) p=i):=fun i Y a r=>wm _ _ i (by rw [a8];exact Y) (fun t L=>by rw [lE_at];exact a t L) (fun U=>by rw [a8] at U;rw [lE_at];exact r U)
 have N:Hid (∀ i,cntE (lE xs) p=i→i<xs.length→hasE (lE xs) p = !lessL p (xs.getD i aJ).e.pl):=fun i a r=>by rw [←lE_at];exact (sn a (by rw [a8];exact r)).1
 have s:Hid (∀ i,cntE (lE xs) p=i→xs.length≤i→hasE (lE xs) p=false):=fun i a r=>(nw a (by rw [a8];exact r)).1
 obtain ⟨n,F⟩:=aA xs.length;obtain ⟨np,K⟩:=aA p.length;have T:=aa F;rw [F] at hn B z M N s ⊢;rw [K] at B z ⊢;generalize cntE (lE xs) p=cnt at M N s;generalize hasE (lE xs) p=has at N s;have hn':(n:Int)≤3000:=by omega
 clear O I Q F K
 go_enter Tryz.func46,Tryz.ntmps46
 go_wp2_with fail
 go_loopg [6] n (fun g s6 wr => ∃ (k:Nat),k≤n∧g=n-k∧s6=.int .i64 k∧Hid (∀ t,t<k→lessL (xs.getD t aJ).e.pl p=true)∧Bl w wr)
 case atStart=>exact ⟨0,zU,rfl,rfl,fun t L=>absurd L (Nat.not_lt_zero _),zS⟩
 case round =>
  obtain ⟨k,m,rfl,rfl,C,j⟩:=hrel;have G:=aa j
  by_cases v:k<n
  ·obtain ⟨-,-,D | ⟨b,o,rfl,x⟩⟩:=V.out.later j
   ·have:=T.out;rw [D] at this;simp at this;omega
   obtain ⟨c1,-⟩:=x.at (k:=k) (by rw [T.out];exact v)
   have a:=B.out k wr v j;have f:Hid (∀ w',Bl w w'→Rt 45 #[.slice Ap np H,.slice (xs.getD k aJ).A (xs.getD k aJ).e.pl.length (xs.getD k aJ).c] w' (.bool (lessL p (xs.getD k aJ).e.pl))):=fun w' d=>z.out k w' v d
   have Z:(k:Int)<(n:Int):=by omega
   have R:=x.1;cases hl:lessL (xs.getD k aJ).e.pl p
   ·have q:Hid (cnt=k):=M.out k m C.out (fun _=>hl)
    have u:=aa (N.out k q.out v);rw [hl] at a;generalize lessL p (xs.getD k aJ).e.pl=bk at f u;generalize (xs.getD k aJ).A=A1 at c1 a f;generalize (xs.getD k aJ).c=k1 at c1 a f;generalize (xs.getD k aJ).e.pl.length=m1 at c1 a f;have hne:((k:Int) == (n:Int))=false:=by simp;omega
    clear hl x j;go_wp2_with fail;refine a.mono ?_;rintro e w1 ⟨rfl,l⟩;have E:Bl w w1:=ae G.out l;have y:=aa E;have X:w1.cell? ⟨b,o+k*2,none⟩=some (.slice A1 m1 k1):=aD l R c1;have r:=f.out w1 E;clear l a c1 E;go_wp2_with fail;refine r.mono ?_;rintro e w2 ⟨rfl,J⟩;have P:=aa (ae y.out J);clear J r X;go_wp2_with fail
    go_ret2
    rw [q.out,u.out];exact ⟨rfl,P.out⟩
   have W:Hid (∀ t,t<k+1→lessL (xs.getD t aJ).e.pl p=true):=fun t L=>by
    rcases Nat.lt_succ_iff_lt_or_eq.1 L with r | rfl
    ·exact C.out t r
    exact hl
   rw [hl] at a;generalize (xs.getD k aJ).A=A1 at c1 a;generalize (xs.getD k aJ).c=k1 at c1 a;generalize (xs.getD k aJ).e.pl.length=m1 at c1 a;clear hl x j f;go_wp2_with fail;refine a.mono ?_;rintro e w1 ⟨rfl,l⟩;have y:=aa (ae G.out l);clear l a c1;go_wp2_with fail
   go_roundg (n-(k+1))
   case measure=>omega
   case rel=>exact ⟨k+1,by omega,rfl,by go_num,W,y.out⟩
  have S:k=n:=by omega
  subst S;have q:Hid (cnt=k):=M.out k m C.out (fun h=>absurd h (Nat.lt_irrefl _))
  have u:Hid (has=false):=s.out k q.out (zT);go_wp2_with fail
  go_ret2
  rw [q.out,u.out];exact ⟨rfl,j⟩
structure PL where
 p:List Int
 A:Option Addr
 c:Nat
def ms:PL:=⟨[],none,0⟩
def lP (xs:List PL):List (List Int):=xs.map PL.p
def gt (xs:List PL):List Value:=xs.map fun x=>.slice x.A x.p.length x.c
theorem cellsP_append (a b:List PL):gt (a ++ b)=gt a ++ gt b:=by simp [gt]
theorem Tryz.infoPla:(Tryz.prog.info? 27).map (fun i=>(i.zero,i.size,i.bytes))=some (some (.slice none 0 0),1,24):=by kernel_rfl
theorem map_take {X:List Int} {h:List Int} {j:Nat} (a:j<X.length):(X.take (j+1)).map (fun x=>h ++ [x])=(X.take j).map (fun x=>h ++ [x]) ++ [h ++ [X.getD j 0]]:=by
 rw [List.take_succ_eq_append_getElem a,List.map_append,zZ,zX a]
 rfl
theorem qw (A B:Option Addr) (o p:Nat) (L:List (Int×Int)) (w:World) (t:L.length≤3000) (c:dw w A o L) (d:dw w B p L):Rt 12 #[.slice A L.length o,.slice B L.length p] w (.bool true):=by
 have q:=aa c;have r:=aa d;obtain ⟨N,h⟩:=aA L.length;have n:=aa h;rw [h] at t ⊢;have u:(N:Int)≤3000:=by omega
 have v:((N:Int) != (N:Int))=false:=by simp
 clear c d h
 go_enter Tryz.func12,Tryz.ntmps12
 go_wp2_with fail
 go_loopg [5] N (fun g s5 wr => ∃ (k:Nat),k≤N∧g=N-k∧s5=.int .i64 k∧Bl w wr)
 case atStart=>exact ⟨0,zU,rfl,rfl,zS⟩
 case round =>
  obtain ⟨k,z,rfl,rfl,b⟩:=hrel;have e:=aa b
  by_cases m:k<N
  ·have s:(k:Int)<(N:Int):=by omega
   have a:k<L.length:=by rw [n.out];exact m
   obtain ⟨i,-,f | ⟨b1,o1,rfl,c⟩⟩:=q.out.later b
   ·rw [f] at a;simp at a
   obtain ⟨j,-,f | ⟨b2,o2,rfl,d⟩⟩:=r.out.later b
   ·rw [f] at a;simp at a
   obtain ⟨a1,a2⟩:=c.2 k a;obtain ⟨b1',b2'⟩:=d.2 k a;rw [n.out] at i j;generalize (L.getD k noC).1=x at a1 b1';generalize (L.getD k noC).2=y at a2 b2';clear c d b;go_wp2_with fail
   first | (go_quiet (fail);go_wp2_with fail) | skip
   go_roundg (N-(k+1))
   case measure=>omega
   case rel=>first | exact ⟨k+1,by omega,rfl,by go_num,e.out⟩ | exact ⟨k+1,by omega,rfl,by go_num,ac e.out _⟩
  have l:k=N:=by omega
  subst l;clear b;go_wp2_with fail;go_ret;exact ⟨rfl,e.out⟩
theorem Gq (w:World):Calls Tryz.prog 21 #[.nilIface] w fun e w'=>e=.returned (.int .i64 0)∧w'=w:=by
 go_enter Tryz.func21,Tryz.ntmps21
 go_wp2;go_ret;exact ⟨rfl,rfl⟩
theorem Gn (c:Int) (w:World) (b:gI w):Rt 21 #[.iface 63 (.int .i64 c)] w (.int .i64 c):=by
 have h:=IQ c w.heap.size (w.alloc (.cells #[.int .i64 0] 63)) (b.later ((zS).alloc (zT) _)) (by simp) (by simp) (by simp)
 go_enter Tryz.func21,Tryz.ntmps21
 go_wp2_with fail;refine h.mono ?_;rintro e w1 ⟨rfl,a⟩;have d:Bl w w1:=by rw [a];go_grown
 have f:w1.cell? ⟨w.heap.size,0,none⟩=some (.int .i64 c):=by
  rw [a];refine World.cell?_setCell_same _ _ _ (u:=.int .i64 0) ?_;rw [World.cell?_alloc_lt _ _ ⟨w.heap.size,0,none⟩ (by first | (simp;done) | (simp;omega)),World.cell?_alloc_lt _ _ ⟨w.heap.size,0,none⟩ (by first | (simp;done) | (simp;omega)),World.cell?_alloc_lt _ _ ⟨w.heap.size,0,none⟩ (by first | (simp;done) | (simp;omega)),World.cell?_alloc_lt _ _ ⟨w.heap.size,0,none⟩ (by first | (simp;done) | (simp;omega))]
  simp
 clear a h b;go_wp2_with fail;go_ret;exact ⟨rfl,d⟩
theorem F8 (n:Int) (w:World):Rt 6 #[.nilIface,.int .i64 n] w (.bool (0 == n)):=by
 go_enter Tryz.func6,Tryz.ntmps6
 go_wp2_with (go_at_call 21;refine (Gq _).mono ?_;rintro e w1 ⟨rfl,rfl⟩)
 go_ret;exact ⟨rfl,zS⟩
theorem F7 (c n:Int) (w:World) (b:gI w):Rt 6 #[.iface 63 (.int .i64 c),.int .i64 n] w (.bool (c == n)):=by
 go_enter Tryz.func6,Tryz.ntmps6
 go_wp2_with fail;refine (Gn c _ b).mono ?_;rintro e w1 ⟨rfl,a⟩;go_wp2_with fail;go_ret;exact ⟨rfl,a⟩
end Go.Proofs.YtompdcaikmekkaaGreatDoor
