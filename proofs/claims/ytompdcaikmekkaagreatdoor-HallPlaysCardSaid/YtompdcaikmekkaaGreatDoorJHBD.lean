/- What the document's ow -/
import Derived.Test.YtompdcaikmekkaaGreatDoorShelfH
import Derived.Test.YtompdcaikmekkaaGreatDoorJHBC
namespace Go.Proofs.YtompdcaikmekkaaGreatDoor
open ChangeShapes WideShapes ChangeAt RowKit Go
set_option maxRecDepth 99999
set_option maxHeartbeats 0
theorem ly (A0:Option Addr) (cap n:Nat) (D:Nat→Dm) (A:Nat→Option Addr) (C:Nat→Nat) (w:World) (hR:dH D n) (hE:(am D n).2.2=0) (hM:aY w A0 cap n D A C) :
  Calls Tryz.prog 24 #[.agg #[.slice A0 n cap]] w fun e w'=>(∃ A' a xs,e=.returned (.slice A' (prodN D n) a)∧xs.length=prodN D n∧cZ w' A' a xs∧∀ i,i<prodN D n→eK D n (aj D n i) (xs.getD i ep).p)∧Bl w w':=by
 obtain ⟨i0,hi0,hz0,hz1,hz2⟩:=info_parts Tryz.infoRow;obtain ⟨hn1,KU,hp3,hd⟩:=au hE;have v:=aq w A0 n cap 24;have hS:=aw w A0 n cap 24;have hA:=aI w A0 n cap 24;obtain ⟨W,hW⟩:=aA (ay w A0 n cap 24);rw [hW] at v hS hA;unfold ay at hW;have I:=aa v;have HM:=aa hM;have HA:=aa hA;have HR:=aa hR;have HE:=aa hE;have KV:w.heap.size<W.heap.size:=by omega
 have hnI:(n:Int)≤4:=by omega
 have KS:=tc A0 cap n D A C W KU hR (hM.later v);have KH:Hid (∀ w',Bl W w'→Rt 48 #[.agg #[.slice A0 n cap]] w' (.int .i64 (prodN D n))):=fun w' t=>by
  obtain ⟨hcap,h0 | ⟨b,o,rfl,hMs⟩⟩:=HM.out.later (ae I.out t)
  ·omega
  exact rv b o n cap D A C w' KU (fun j hj=>(hd j hj).2) hMs
 obtain ⟨PN,P⟩:=aA (prodN D n);have HPN:=aa P;rw [P] at KH hp3 ⊢;have hPI:(PN:Int)≤3000:=by omega
 clear hM v hR hS hE hd P
 go_enter Tryz.func24,Tryz.ntmps24
 go_wp2_with fail;refine KS.mono ?_;rintro e w1 ⟨⟨AN,cN,ys,rfl,KW,hY,KX⟩,m⟩;have U:=aa m;have HYl:=aa KW;have HY:=aa hY;have HYn:=aa KX;have KK:w1.cell? ⟨w.heap.size,0,none⟩=some (.slice A0 n cap):=aD m KV HA.out;have E:w.heap.size<w1.heap.size:=zW KV m.size;have G:=KH.out w1 m;clear m KW hY KX KS hW hA;go_wp2_with fail;refine G.mono ?_;rintro e w2 ⟨rfl,y⟩;have J:=aa y;have HA2:Hid (w2.cell? ⟨w.heap.size,0,none⟩=some (.slice A0 n cap)):=aD y E KK;have F:w.heap.size<w2.heap.size:=zW E y.size;clear y G KK;go_wp2_with fail
 go_loopg [4,6] PN (fun g s4 s6 wr => ∃ (k:Nat) (xs:List RL),k≤PN∧g=PN-k∧s6=.int .i64 k∧Hid (xs.length=k∧(∀ i,i<k→eK D n (aj D n i) (xs.getD i ep).p)∧∀ x∈xs,aR wr x.A x.c x.p)∧wr.ownsRow w2.heap.size 26 1 s4 k (cS xs)∧Bl w2 wr)
 case atStart=>exact ⟨0,[],zU,rfl,rfl,(⟨rfl,fun i hi=>absurd hi (Nat.not_lt_zero _),fun x B=>by cases B⟩:_∧_∧_),World.ownsRow_nil _ _ _ _,zS⟩
 case round =>
  obtain ⟨k,xs,hk,rfl,rfl,L,hO,l⟩:=hrel;have HO:=aa hO;have K:=aa l;have cw:wr.cell? ⟨w.heap.size,0,none⟩=some (.slice A0 n cap):=aD l F HA2.out;have H:w.heap.size<wr.heap.size:=zW F l.size
  by_cases hlt:k<PN
  ·have hki:(k:Int)<(PN:Int):=by omega
   have X:=aa (ae I.out (ae U.out (ae J.out l)));have HIk:Hid (InO D n (aj D n k)):=bY HE.out;have Q:=placeL_len D n k;have S:Hid (∀ w',Bl wr w'→Calls Tryz.prog 30 #[.agg #[.slice A0 n cap],.int .i64 k] w' fun e w''=>(∃ A' a,e=.returned (.slice A' n a)∧a7 w'' A' a (aj D n k))∧Bl w' w''):=fun w' t=>by
    have h:=AM A0 cap n D A C k w' HE.out (by rw [HPN.out];exact hlt) (HM.out.later (ae X.out t))
    rw [Q] at h;exact h
   have KJ:Hid (∀ A' a w',Bl wr w'→a7 w' A' a (aj D n k)→Calls Tryz.prog 49 #[.agg #[.slice A0 n cap],.slice AN n cN,.slice A' n a] w' fun e w''=>(∃ A' a T,e=.returned (.slice A' T.length a)∧bU w'' A' a T∧eK D n (aj D n k) T)∧Bl w' w''):=fun A' a w' t hP'=>by
    have h:=Ds A0 cap n D A C AN cN ys A' a (aj D n k) w' HR.out HIk.out (HM.out.later (ae X.out t)) HYl.out (HY.out.later (ae J.out (ae K.out t))) HYn.out hP';rw [Q] at h;exact h
   have Y:Hid (∀ w',Bl wr w'→w'.cell? ⟨w.heap.size,0,none⟩=some (.slice A0 n cap)∧w.heap.size<w'.heap.size):=fun w' t=>⟨aD t H cw,zW H t.size⟩
   clear l hO Q;obtain ⟨q,hq⟩:=aA (aj D n k);have HQ:=aa hq;rw [hq] at S KJ;clear hq
   go_upto_region 7 with fail
   go_cut [7] from 12 to 26 (fun s7 wx => ∃ A' a T,s7=.slice A' T.length a∧bU wx A' a T∧eK D n q T∧Bl wr wx)
   case first =>
    go_region_law ((first
     | (go_simp;refine (S.out _ (by go_grown)).mono ?_;rintro e w3 ⟨⟨A3,c3,rfl,O⟩,KQ⟩;have KL:=ae (W0:=wr) (by go_grown) KQ;obtain ⟨cw3,hw3⟩:=Y.out _ KL;clear KQ)
     | (go_simp;refine (KJ.out _ _ _ (by go_grown) (by first | exact O | exact O.later (by go_grown))).mono ?_;rintro e w4 ⟨⟨A4,c4,T4,rfl,KM,KO⟩,KR⟩;have N:=ae (W0:=wr) (by go_grown) KR;obtain ⟨cw4,hw4⟩:=Y.out _ N;have KG:=aa KM;have KI:=aa KO;have Z:=aa N;clear KR)))
    all_goals clear O KM KO KL N
    all_goals go_wp2_with fail
    all_goals go_meet
    all_goals first
     | exact ⟨A4,c4,T4,rfl,KG.out,KI.out,Z.out⟩
     | exact ⟨A4,c4,T4,rfl,KG.out.later (ac (zS) _),KI.out,ac Z.out _⟩
   case rest =>
    obtain ⟨A7,M,T,rfl,KN,KP,z⟩:=hcut;obtain ⟨wx,rfl⟩:∃ wx:World,wx=wc:=⟨_,rfl⟩;have V:=aa (ae K.out z);have s:Hid (wx.ownsRow w2.heap.size 26 1 u4 k (cS xs)):=ao HO.out z;have HX7:Hid (∀ x∈xs,aR wx x.A x.c x.p):=fun x B=>(L.out.2.2 x B).later z
    have HR7:=aa KN.intT;have HT7:=aa KP;have hs7:=V.out.size;obtain ⟨tl,R⟩:=aA T.length;have HTl:=aa R;rw [R];clear z KN KP R
    go_wp2_with (at_builtin;refine wpList_append_own _ rfl _ _ 71 rfl w2.heap.size 26 i0 (.slice none 0 0) 1 24 Tryz.underlying71 hi0 hz0 hz1 hz2 rfl (by decide) _ _ _ rfl (s.out.alloc _) ⟨wx.heap.size,0,none⟩ 1 1 [.slice A7 tl M] rfl rfl bw (by intro u hu;simp at hu;subst hu;rfl) (by unfold maxLen;omega) (by omega) (by simp;omega) ?_)
    intro v' w5 r d _;have HB5:Hid (Bl w2 w5):=bB V.out s.out d;have HX5:Hid ((xs ++ [(⟨T,A7,M⟩:RL)]).length=k+1∧(∀ i,i<k+1→eK D n (aj D n i) ((xs ++ [(⟨T,A7,M⟩:RL)]).getD i ep).p)∧∀ x∈xs ++ [(⟨T,A7,M⟩:RL)],aR w5 x.A x.c x.p):=by
     have f:=L.out.1;refine ⟨by rw [List.length_append,f];rfl,fun i hi=>?_,fun x B=>?_⟩
     ·by_cases e:i=k
      ·rw [e,zZ,List.getElem?_append_right (by omega),f,Nat.sub_self,HQ.out]
       exact HT7.out
      rw [zZ,List.getElem?_append_left (by omega),←zZ]
      exact L.out.2.1 i (by omega)
     rcases List.mem_append.1 B with B | B
     ·exact ((HX7.out x B).later (by go_grown)).row (s.out.alloc _) d
     rw [List.mem_singleton.1 B];exact (HR7.out.later (by go_grown)).row (s.out.alloc _) d
    have HO5:Hid (w5.ownsRow w2.heap.size 26 1 v' (k+1) (cS (xs ++ [(⟨T,A7,M⟩:RL)]))):=by
     show World.ownsRow ..
     rw [hJ];have e:cS [(⟨T,A7,M⟩:RL)]=[.slice A7 tl M]:=by simp [cS,HTl.out]
     rw [e];exact r
    clear r d;go_wp2_with fail
    go_roundg (PN-(k+1))
    case measure=>omega
    case rel=>exact ⟨k+1,_,by omega,rfl,by go_num,HX5,HO5.out,HB5.out⟩
  have hke:k=PN:=by omega
  subst hke;have HF:Hid (∃ A' a,u4=.slice A' k a∧cZ wr A' a xs):=by
   have f:=L.out.1;have h:=hO;rw [←f] at h;obtain ⟨A',a,e,hv⟩:=pK h L.out.2.2;rw [f] at e;exact ⟨A',a,e,hv⟩
  clear hO l;go_wp2_with fail;go_ret;obtain ⟨A',a,e,hv⟩:=HF.out;exact ⟨⟨A',a,xs,by rw [←e];rfl,L.out.1,hv,L.out.2.1⟩,ae I.out (ae U.out (ae J.out K.out))⟩
section
variable {D:Nat→Dm} {n:Nat}
theorem fD (q:dH D n) (p:(am D n).2.2=0) {i:Nat} {T:List Int} (r:eK D n (aj D n i) T) {z:Int} (t:z∈T):∃ j:Nat,z=(j:Int)∧j<prodN D n∧msrTo D (aj D n j) n<msrTo D (aj D n i) n:=by
 obtain ⟨b,u,x,o,rfl⟩:=(r.2.2 z).1 t;have g:InO D n (aj D n i):=bY p;have a:b<n:=by
  rcases by_in D (aj D n i) n with h | ⟨b',h1,h2⟩
  ·omega
  omega
 have f:=em o;have c:=gN g a f.1 f.2;have l:=g.lo b a;have s:=g.hi b a;have e:=lv (q b a) (i:=((aj D n i).getD b 0).toNat) (by omega) o
 rw [Int.toNat_of_nonneg l] at e;have k:=(jq (by rw [g.len];exact a) e n).2 a
 obtain ⟨j,m⟩:∃ j:Nat,numI D ((aj D n i).set b x) n=(j:Int):=⟨(numI D ((aj D n i).set b x) n).toNat,by have:=(ba c (Nat.le_refl n)).1;omega⟩
 refine ⟨j,m,by have:=(ba c (Nat.le_refl n)).2.1;omega,?_⟩
 have d:=gj c;rw [m,Int.toNat_natCast] at d;rw [d];exact k
theorem xH (e:dH D n) (d:(am D n).2.2=0) (T:Nat→List Int) (f:∀ i,i<prodN D n→eK D n (aj D n i) (T i)) (done:Nat→Bool) (h:∀ i,i<prodN D n→done i=false→∃ z∈T i,done z.toNat=false):∀ i,i<prodN D n→done i=true:=by
 have a:∀ (m i:Nat),i<prodN D n→msrTo D (aj D n i) n<m→done i=true:=by
  intro m
  induction m with
  | zero=>intro i _ k;omega
  | succ m ih =>
   intro i b k;cases hd:done i with
   | true=>rfl
   | false =>
    obtain ⟨z,l,c⟩:=h i b hd;obtain ⟨j,rfl,g,o⟩:=fD e d (f i b) l;rw [Int.toNat_natCast,ih j g (by omega)] at c
    cases c
 exact fun i b=>a _ i b (Nat.lt_succ_self _)
theorem Ji (g:dH D n) (l:(am D n).2.2=0) (inp:List Int→Int×Int) (c:Nat→Int×Int) {i:Nat} {T:List Int} (m:eK D n (aj D n i) T) (o:∀ z∈T,c z.toNat=ey D n inp (aj D n z.toNat)) {b:Nat} (j:byTo D (aj D n i) n=(b:Int)):ey D n inp (aj D n i)=eu (D b) (fun x=>c (numI D ((aj D n i).set b x) n).toNat) ((aj D n i).getD b 0).toNat:=by
 have e:InO D n (aj D n i):=bY l;have a:b<n:=by
  rcases by_in D (aj D n i) n with h | ⟨b',f,h2⟩
  ·omega
  omega
 rw [pV g inp e j];obtain ⟨p,q,-,-⟩:=bH (g b a);have r:=e.lo b a;have s:=e.hi b a;refine iC p (q _ (by omega)) fun x k=>?_
 have d:=em k;have f:=o _ ((m.2.2 _).2 ⟨b,j,x,k,rfl⟩);rw [gj (gN e a d.1 d.2)] at f;exact f.symm
end
section
variable {D:Nat→Dm} {n:Nat}
theorem Gp (b:dH D n) (a:(am D n).2.2=0) {N:List (List Int)} (h:N.length=prodN D n) (c:∀ i,i<prodN D n→eK D n (aj D n i) (N.getD i [])):ni N:=fun i g x d=>by
 obtain ⟨j,e,f,-⟩:=fD b a (c i (by omega)) d
 omega
theorem Dz (j:dH D n) (h:(am D n).2.2=0) {N:List (List Int)} (t:N.length=prodN D n) (k:∀ i,i<prodN D n→eK D n (aj D n i) (N.getD i [])) (i:Nat) (s:i<N.length):cycB N i=false:=by
 rw [zB];intro q;have f:∀ {a b:Int},Rch N a b→∀ x:Nat,a=(x:Int)→x<prodN D n→∃ y:Nat,b=(y:Int)∧y<prodN D n∧msrTo D (aj D n y) n<msrTo D (aj D n x) n:=by
  intro a b e
  induction e with
  | one hx =>
   intro x c d;subst c;unfold fy at hx;rw [Int.toNat_natCast] at hx;exact fD j h (k x d) hx
  | more hx _ ih =>
   intro x c d;subst c;unfold fy at hx;rw [Int.toNat_natCast] at hx;obtain ⟨y,g,l,m⟩:=fD j h (k x d) hx;obtain ⟨z,o,p,r⟩:=ih y g l;exact ⟨z,o,p,by omega⟩
 obtain ⟨y,g,-,m⟩:=f q i rfl (by omega)
 have:y=i:=by omega
 subst this
 omega
end
section
variable {D:Nat→Dm} {n:Nat}
def Bi (D:Nat→Dm) (n i j:Nat):Prop := ∃ b:Nat,byTo D (aj D n i) n=(b:Int)∧∃ x∈eo (D b) ((aj D n i).getD b 0).toNat,(j:Int)=numI D ((aj D n i).set b x) n
theorem jQ {i j:Nat} {T:List Int} (a:eK D n (aj D n i) T):Bi D n i j↔(j:Int)∈T:=(a.2.2 _).symm
inductive Ndd (D:Nat→Dm) (n:Nat):Nat→Nat→Prop
 | refl (i:Nat):Ndd D n i i
 | step {i j k:Nat}:Bi D n i j→Ndd D n j k→Ndd D n i k
theorem BH {N:Nat} {at':List Int} {T:Nat→List Int} {f:Nat→Bool} (t:∀ i,i<N→eK D n (aj D n i) (T i)) (e:∀ i,i<N→∀ z∈T i,∃ j:Nat,z=(j:Int)∧j<N) (p:∀ a:Nat,(a:Int)∈at'→f a=true) (q:∀ j,j<N→f j=true→∃ a:Nat,(a:Int)∈at'∧Ndd D n j a) (r:∀ i,i<N→f i=false→∀ z∈T i,f z.toNat=false):∀ j,j<N→(f j=true↔∃ a:Nat,(a:Int)∈at'∧Ndd D n j a):=by
 intro j m;refine ⟨q j m,fun ⟨a,u,h⟩=>?_⟩
 have l:∀ {x b:Nat},Ndd D n x b→x<N→f b=true→f x=true:=by
  intro x b c
  induction c with
  | refl=>intro _ h;exact h
  | @step x' y' z' hst _ ih =>
   intro g d;have o:=(jQ (t _ g)).1 hst;obtain ⟨k,w,v⟩:=e _ g _ o;have s:=ih (by omega) d
   cases hfx:f x' with
   | true=>rfl
   | false =>
    have:=r _ g hfx _ o;rw [Int.toNat_natCast,s] at this;cases this
 exact l h m (p a u)
noncomputable def GX (D:Nat→Dm) (n:Nat) (at':List Int) (i:Nat):Bool := @decide (∃ a:Nat,(a:Int)∈at'∧Ndd D n i a) (Classical.propDecidable _)
theorem kQ {at':List Int} {i:Nat}:GX D n at' i=true↔∃ a:Nat,(a:Int)∈at'∧Ndd D n i a:=by unfold GX;exact @decide_eq_true_iff _ (Classical.propDecidable _)
noncomputable def drtL (D:Nat→Dm) (n:Nat) (at':List Int):List Int:=selTo (GX D n at') (prodN D n)
end
section
variable {D:Nat→Dm} {n:Nat}
noncomputable def Jk (D:Nat→Dm) (n i j:Nat):Bool := @decide (Bi D n i j) (Classical.propDecidable _)
theorem vL {i j:Nat}:Jk D n i j=true↔Bi D n i j:=by unfold Jk;exact @decide_eq_true_iff _ (Classical.propDecidable _)
noncomputable def Jm (D:Nat→Dm) (n i:Nat):List Int:=selTo (Jk D n i) (prodN D n)
theorem lC (d:dH D n) (c:(am D n).2.2=0) {i:Nat} {T:List Int} (a:eK D n (aj D n i) T):T=Jm D n i :=
 i6 _ _ a.1 (fh _ _) fun x=>⟨fun b=>by
  obtain ⟨j,rfl,e,-⟩:=fD d c a b;exact jO e (vL.2 ((jQ a).2 b)),fun b=>by
  obtain ⟨m,rfl,-,f⟩:=cQ _ b;exact (jQ a).1 (vL.1 f)⟩
noncomputable def rowsL (D:Nat→Dm) (n:Nat):List (List Int):=(List.range (prodN D n)).map (Jm D n)
theorem bL:(rowsL D n).length=prodN D n:=by simp [rowsL]
theorem lx {i:Nat} (a:i<prodN D n):(rowsL D n).getD i []=Jm D n i:=by
 unfold rowsL;rw [zZ,List.getElem?_map,List.getElem?_range a]
 rfl
noncomputable def caL (D:Nat→Dm) (n:Nat) (l:List En):List (Int×Int):=if fj D n l=0 then (List.range (prodN D n)).map (fun j=>ey D n (getE l) (aj D n j)) else []
theorem se {l:List En} (h:fj D n l≠0):caL D n l=[]:=by unfold caL;rw [if_neg h]
theorem gK {l:List En} (h:fj D n l=0):(caL D n l).length=prodN D n:=by unfold caL;rw [if_pos h];simp
theorem v8 {l:List En} (h:fj D n l=0) {j:Nat} (a:j<prodN D n):(caL D n l).getD j noC=ey D n (getE l) (aj D n j):=by
 unfold caL;rw [if_pos h,zZ,List.getElem?_map,List.getElem?_range a]
 rfl
theorem D8 {l:List En} (h:fj D n l=0) {L:List (Int×Int)} (d:L.length=prodN D n) (f:∀ j,j<prodN D n→L.getD j noC=ey D n (getE l) (aj D n j)):L=caL D n l:=by
 refine List.ext_getElem (by rw [d,gK h]) fun i b c=>?_
 have a:i<prodN D n:=by omega
 have e:=(f i a).trans (v8 h a).symm;rw [zZ,zX b,zZ,zX c] at e;exact e
noncomputable def coL (D:Nat→Dm) (n:Nat):List Int:=if (aP D n).2.2=0 then aC (rowsL D n) (prodN D n) else []
end
theorem eQ {g T:Nat} {fr:Nat×Nat}:∀ (vs:List Value) (o:Nat) (a:Array Value) (w:World),w.heap[g]?=some (.cells a T fr)→∃ cur',(w.setCells g o vs).heap[g]?=some (.cells cur' T fr)∧cur'.size=a.size
 | [],_,a,_,h=>⟨a,h,rfl⟩
 | v :: r,o,a,w,h=>by
  obtain ⟨c2,b,c⟩:=eQ r (o+1) _ (w.setCell ⟨g,o,none⟩ v) (cH h);exact ⟨c2,b,by rw [c];simp⟩
theorem ig (g:Nat):∀ (vs:List Value) (o:Nat) (w:World),(w.setCells g o vs).heap.size=w.heap.size
 | [],_,_=>rfl
 | v :: r,o,w=>by
  show ((w.setCell ⟨g,o,none⟩ v).setCells g (o+1) r).heap.size=_
  rw [ig g r];simp
theorem i8 (g:Nat) {b:Nat} (a:b≠g):∀ (vs:List Value) (o:Nat) (w:World),(w.setCells g o vs).heap[b]?=w.heap[b]?
 | [],_,_=>rfl
 | v :: r,o,w=>by
  show ((w.setCell ⟨g,o,none⟩ v).setCells g (o+1) r).heap[b]?=_
  rw [i8 g a r,av _ _ _ _ _ a]
theorem jz (g:Nat):∀ (vs:List Value) (o:Nat) (w:World),(w.setCells g o vs).os=w.os∧(w.setCells g o vs).tape=w.tape∧(w.setCells g o vs).output=w.output
 | [],_,_=>⟨rfl,rfl,rfl⟩
 | v :: r,o,w=>jz g r (o+1) (w.setCell ⟨g,o,none⟩ v)
theorem gz {w w':World} {g:Nat} (h:w.grownBy w' (some g)) (vs:List Value) (o:Nat):w.grownBy (w'.setCells g o vs) (some g):=by
 obtain ⟨b,c,d⟩:=jz g vs o w';refine ⟨b.trans h.os,c.trans h.tape,d.trans h.output,by rw [ig];exact h.size,fun k f a=>?_⟩
 rw [i8 g (fun e=>a (by rw [e]))]
 exact h.block k f a
def g8 (w:World) (g:Nat) (A:Option Addr) (cap:Nat) (L:List Int):Prop:=L.length≤cap∧cap≤9223372036854775807∧∃ o,A=some ⟨g,o,none⟩∧(∃ cur,w.heap[g]?=some (.cells cur 3 (0,0))∧o+cap≤cur.size)∧∀ j,j<L.length→w.cell? ⟨g,o+j,none⟩=some (.int .i64 (L.getD j 0))
theorem g8.lt {w:World} {g cap:Nat} {A:Option Addr} {L:List Int} (h:g8 w g A cap L):g<w.heap.size:=by
 obtain ⟨-,-,o,-,⟨a,b,-⟩,-⟩:=h;exact (zY b).1
theorem g8.same {w w':World} {g cap:Nat} {A:Option Addr} {L:List Int} (h:g8 w g A cap L) (c:w'.heap[g]?=w.heap[g]?):g8 w' g A cap L:=by
 obtain ⟨d,e,o,f,⟨b,l,i⟩,k⟩:=h;exact ⟨d,e,o,f,⟨b,c.trans l,i⟩,fun j m=>(World.cell?_of_block (a:=⟨g,o+j,none⟩) c).trans (k j m)⟩
theorem g8.later {w w':World} {g cap:Nat} {A:Option Addr} {L:List Int} (h:g8 w g A cap L) (a:Bl w w'):g8 w' g A cap L:=h.same (a.block g h.lt)
theorem g8.own {w:World} {base:Nat} {v:Value} {L:List Int} (h:w.ownsRow base 3 1 v L.length (aF L)) (n:0<L.length):∃ g c,v=.slice (some ⟨g,0,none⟩) L.length c∧base≤g∧g8 w g (some ⟨g,0,none⟩) c L:=by
 rcases h.2 with ⟨rfl,m⟩ | ⟨g,cap,b,rfl,e,i,f,l,o,_⟩
 ·omega
 refine ⟨g,cap,rfl,e,f,by unfold maxLen at l;omega,0,rfl,⟨b,i,by omega⟩,fun j k=>?_⟩
 have d:=h.cells (g:=g) rfl j (.int .i64 (L.getD j 0)) (by simp [aF,List.getD,zX k])
 have a:(⟨g,0,none⟩:Addr).add j=⟨g,j,none⟩:=by unfold Addr.add;split <;> simp_all
 rw [a] at d;rw [Nat.zero_add];exact d
theorem Hc {L:List Int} {j:Nat} {v:Value} (h:(aF L)[j]?=some v):j<L.length∧v=.int .i64 (L.getD j 0):=by
 unfold aF at h;rw [List.getElem?_map] at h;have a:j<L.length:=by
  refine Classical.byContradiction fun b=>?_
  rw [List.getElem?_eq_none (by omega)] at h
  cases h
 rw [zX a] at h;refine ⟨a,?_⟩;rw [zZ,zX a]
 simp at h ⊢
 exact h.symm
theorem uz (L:List Int):∀ v∈aF L,v.oneCell'=true:=by intro u a;simp [aF] at a;obtain ⟨x,-,rfl⟩:=a;rfl
theorem mapI_len (L:List Int):(aF L).length=L.length:=by simp [aF]
theorem g8.cells {w:World} {g cap o:Nat} {L:List Int} (h:g8 w g (some ⟨g,o,none⟩) cap L):∀ j v,(aF L)[j]?=some v→w.cell? ⟨g,o+j,none⟩=some v:=fun j v d=>by
 obtain ⟨a,rfl⟩:=Hc d;obtain ⟨-,-,o',b,-,c⟩:=h;cases b;exact c j a
theorem EU {L:List Int} {x:Int} {i:Nat} (b:i≤L.length) (j:Nat):(j<i→(L.take i ++ x :: L.drop i).getD j 0=L.getD j 0)∧(j=i→(L.take i ++ x :: L.drop i).getD j 0=x)∧(i<j→(L.take i ++ x :: L.drop i).getD j 0=L.getD (j-1) 0):=by
 have a:(L.take i).length=i:=by rw [List.length_take];omega
 refine ⟨fun h=>?_,fun h=>?_,fun h=>?_⟩
 ·rw [zZ,List.getElem?_append_left (by omega),List.getElem?_take_of_lt h,zZ]
 ·subst h
  rw [zZ,List.getElem?_append_right (by omega),a,Nat.sub_self]
  rfl
 rw [zZ,List.getElem?_append_right (by omega),a,show j-i=(j-i-1)+1 by omega,List.getElem?_cons_succ,List.getElem?_drop,zZ,show i+(j-i-1)=j-1 by omega]
theorem k7 {L:List Int} {x:Int} {i:Nat} (a:i≤L.length):(L.take i ++ x :: L.drop i).length=L.length+1:=by
 rw [List.length_append,List.length_cons,List.length_take,List.length_drop]
 omega
theorem BO (A:Option Addr) (cap g:Nat) (L:List Int) (x:Int) (w:World) (f:L.length≤3000) (c:g8 w g A cap L) (d:L.Pairwise (· < ·)):Calls Tryz.prog 56 #[.slice A L.length cap,.int .i64 x] w fun e w'=>(∃ b,e=.returned (.tuple #[.int .i64 (L.countP (· < x):Nat),.bool b]))∧Bl w w':=by
 obtain ⟨-,-,o,rfl,-,a⟩:=c;refine Calls.mono (Any.slices_BinarySearch_int Tryz.lays25 g o L.length cap L x w (zT) (by omega) a (by rw [List.take_length];exact d.imp fun h=>by omega)) ?_
 rintro e w' ⟨rfl,q,rfl⟩;rw [List.take_length];exact ⟨⟨_,rfl⟩,ac (zS) _⟩
def Bh (w:World) (g i:Nat) (L:List Int) (x:Int) (e:Ending) (w':World):Prop := ∃ g' A' c',e=.returned (.slice A' (L.length+1) c')∧g8 w' g' A' c' (L.take i ++ x :: L.drop i)∧(g'=g∨w.heap.size≤g')∧w.grownBy w' (some g)
theorem ET (A:Option Addr) (cap g i vb:Nat) (L:List Int) (x:Int) (w:World) (hl:L.length≤3000) (Q:i≤L.length) (hR:g8 w g A cap L) (P:w.heap[vb]?=some (.cells #[.int .i64 x] 3 (0,0))) (hvb:vb≠g):Calls Tryz.prog 114 #[.slice A L.length cap,.int .i64 i,.slice (some ⟨vb,0,none⟩) 1 1] w fun e w'=>Bh w g i L x e w':=by
 obtain ⟨h1,h2,o,rfl,⟨r,W,h4⟩,h5⟩:=id hR;have hgl:=hR.lt;have J:=hR.cells;have D:∀ j v,([Value.int .i64 x]:List Value)[j]?=some v→w.cell? ⟨vb,0+j,none⟩=some v:=fun j v f=>by
  rw [Nat.zero_add,Lib.cell_of_heap P]
  simpa using f
 have n:∀ v∈([Value.int .i64 x]:List Value),v.oneCell'=true:=fun v P=>by simp at P;subst P;rfl
 have z:∀ j,j<cap→(w.cell? ⟨g,o+j,none⟩).isSome=true:=fun j f=>by
  rw [Lib.cell_of_heap W]
  simp [show o+j<r.size by omega]
 have X:∀ j,w.frozen? ⟨g,j,none⟩=false:=fun j=>Lib.frozen_of_heap W j
 have E:∀ w',w.grownBy w' (some g)→(∃ c,w'.heap[g]?=some (.cells c 3 (0,0))∧c.size=r.size)→L.length+1≤cap→(∀ j,j<i→w'.cell? ⟨g,o+j,none⟩=some (.int .i64 (L.getD j 0)))→w'.cell? ⟨g,o+i,none⟩=some (.int .i64 x)→(∀ j,i<j→j<L.length+1→w'.cell? ⟨g,o+j,none⟩=some (.int .i64 (L.getD (j-1) 0)))→Bh w g i L x (.returned (.slice (some ⟨g,o,none⟩) (L.length+1) cap)) w':=fun w' hG O d a1 a2 a3=>by
  obtain ⟨c,H,hsz⟩:=O;refine ⟨g,_,_,rfl,⟨by rw [k7 Q];exact d,h2,o,rfl,⟨c,H,by omega⟩,fun j f=>?_⟩,Or.inl rfl,hG⟩
  rw [k7 Q] at f;obtain ⟨b1,b2,b3⟩:=EU (x:=x) Q j
  by_cases p:j<i
  ·rw [b1 p];exact a1 j p
  by_cases q:j=i
  ·rw [b2 q,q];exact a2
  rw [b3 (by omega)];exact a3 j (by omega) f
 by_cases d:L.length+1≤cap
 ·by_cases M:i<L.length
  ·refine Calls.mono (Any2.slices_Insert_int_shift Tryz.lays21 g o L.length cap i vb 0 1 1 (aF L) [.int .i64 x] w M (by omega) d h2 hvb (mapI_len L) rfl J (fun j f=>z j (by omega)) (fun j _=>X _) D (uz L) n 3 3 1 r.size (by simp [World.shape?,P]) (by simp [World.shape?,W]) (by omega) (Lib.frozen_of_heap P 0) (Lib.frozen_of_heap P 1)) ?_
   rintro e w' ⟨rfl,rfl⟩;have t:((aF L).drop i).length=L.length-i:=by rw [List.length_drop,mapI_len]
   obtain ⟨c1,I,hs1⟩:=eQ ((aF L).drop i) (o+(i+1)) r w.drew W;obtain ⟨c2,s,N⟩:=eQ [.int .i64 x] (o+i) c1 _ I;have Y:∀ j,i<j→j<L.length+1→(w.drew.setCells g (o+(i+1)) ((aF L).drop i)).cell? ⟨g,o+j,none⟩=some (.int .i64 (L.getD (j-1) 0)):=fun j p q=>by
    have h:=World.cell?_setCells_in g ((aF L).drop i) (o+(i+1)) w.drew (fun k B=>by rw [t] at B;have:=z (i+1+k) (by omega);rw [show o+(i+1)+k=o+(i+1+k) by omega];exact this) (j-(i+1)) (by rw [t];omega)
    rw [show o+(i+1)+(j-(i+1))=o+j by omega] at h
    rw [h,List.getElem_drop];simp only [aF,List.getElem_map,Option.some.injEq,Value.int.injEq,true_and];rw [zZ,zX (by omega)]
    simp only [Option.getD_some]
    congr 1
    omega
   refine E _ (gz (gz (ft (dg _ _)) _ _) _ _) ⟨c2,s,by omega⟩ d (fun j f=>?_) ?_ fun j p q=>?_
   ·rw [World.cell?_setCells_out g _ _ _ _ (fun _ _=>Or.inl (by show o+j<o+i;omega)),World.cell?_setCells_out g _ _ _ _ (fun _ _=>Or.inl (by show o+j<o+(i+1);omega))]
    exact h5 j (by omega)
   ·have h:=World.cell?_setCells_in g [.int .i64 x] (o+i) (w.drew.setCells g (o+(i+1)) ((aF L).drop i)) (fun k B=>by
     have u:k=0:=by simpa using B
     subst u;rw [World.cell?_setCells_out g _ _ _ _ (fun _ _=>Or.inl (by show o+i+0<o+(i+1);omega))]
     exact z i (by omega)) 0 (by simp)
    simpa using h
   rw [World.cell?_setCells_out g _ _ _ _ (fun _ _=>Or.inr (by show o+i+1≤o+j;omega))]
   exact Y j p q
  have K:i=L.length:=by omega
  subst K;refine Calls.mono (Any2.slices_Insert_int_end_room Tryz.lays21 g o L.length cap vb 0 1 1 [.int .i64 x] w (by omega) d h2 rfl (fun j f=>by have:=z (L.length+j) (by omega);rw [show o+L.length+j=o+(L.length+j) by omega];exact this) (fun j _=>X _) D n) ?_
  rintro e w' ⟨rfl,rfl⟩;obtain ⟨c2,s,N⟩:=eQ [.int .i64 x] (o+L.length) r w W;refine E _ (gz (dg _ _) _ _) ⟨c2,s,N⟩ d (fun j f=>?_) ?_ fun j p q=>by omega
  ·rw [World.cell?_setCells_out g _ _ _ _ (fun _ _=>Or.inl (by show o+j<o+L.length;omega))]
   exact h5 j f
  have h:=World.cell?_setCells_in g [.int .i64 x] (o+L.length) w (fun k B=>by
   have u:k=0:=by simpa using B
   subst u;exact z L.length (by omega)) 0 (by simp)
  simpa using h
 have F:∀ (G:Nat) (w':World),L.length+1≤G→G≤maxLen→Bl w w'→(∃ c,w'.heap[w.heap.size]?=some (.cells c 3 (0,0))∧c.size=G)→(∀ j,j<i→w'.cell? ⟨w.heap.size,j,none⟩=some (.int .i64 (L.getD j 0)))→w'.cell? ⟨w.heap.size,i,none⟩=some (.int .i64 x)→(∀ j,i<j→j<L.length+1→w'.cell? ⟨w.heap.size,j,none⟩=some (.int .i64 (L.getD (j-1) 0)))→Bh w g i L x (.returned (.slice (some ⟨w.heap.size,0,none⟩) (L.length+1) G)) w':=fun G w' hG C hB O a1 a2 a3=>by
  obtain ⟨c,H,hsz⟩:=O;refine ⟨w.heap.size,_,_,rfl,⟨by rw [k7 Q];exact hG,by unfold maxLen at C;omega,0,rfl,⟨c,H,by omega⟩,fun j f=>?_⟩,Or.inr (zT),bI hB⟩
  rw [k7 Q] at f;obtain ⟨b1,b2,b3⟩:=EU (x:=x) Q j;rw [Nat.zero_add]
  by_cases p:j<i
  ·rw [b1 p];exact a1 j p
  by_cases q:j=i
  ·rw [b2 q,q];exact a2
  rw [b3 (by omega)];exact a3 j (by omega) f
 have S:=grownCap_ge w (L.length+1) cap 3;have C:=grownCap_le_maxLen w (L.length+1) cap 3 (by unfold maxLen;omega)
 by_cases M:i<L.length
 ·refine Calls.mono (Any2.slices_Insert_int_grow Tryz.lays21 g o L.length cap i vb 0 1 1 (aF L) [.int .i64 x] w M (by omega) h1 (by omega) (by omega) (mapI_len L) rfl J D (uz L) n) ?_
  rintro e w' ⟨rfl,rfl⟩;have t:((aF L).drop i).length=L.length-i:=by rw [List.length_drop,mapI_len]
  have Z:((aF L).take i).length=i:=by rw [List.length_take,mapI_len];omega
  obtain ⟨ROW,l⟩:∃ ROW:Array Value,((aF L).take i).toArray ++ Builtin.zeroCells (Value.int .i64 0).cells (L.length+1-i) ++ Builtin.zeroCells (Value.int .i64 0).cells (grownCap w (L.length+1) cap 3-(L.length+1))=ROW:=⟨_,rfl⟩;have T:ROW.size=grownCap w (L.length+1) cap 3:=by
   rw [←l,Array.size_append,Array.size_append,size_zeroCells,size_zeroCells,List.size_toArray,Z];simp only [Value.cells,List.size_toArray,List.length_cons,List.length_nil]
   omega
  have hRt:∀ j,j<i→ROW[j]?=some (.int .i64 (L.getD j 0)):=fun j f=>by
   rw [←l,Array.append_assoc,Array.getElem?_append_left (by rw [List.size_toArray,Z];exact f),List.getElem?_toArray,List.getElem?_take_of_lt f]
   unfold aF;rw [List.getElem?_map,zX (by omega),zZ,zX (by omega)]
   rfl
  show Bh w g i L x (.returned (.slice (some ⟨w.heap.size,0,none⟩) (L.length+1) (grownCap w (L.length+1) cap 3))) ((((w.alloc (.cells (((aF L).take i).toArray ++ Builtin.zeroCells (Value.int .i64 0).cells (L.length+1-i) ++ Builtin.zeroCells (Value.int .i64 0).cells (grownCap w (L.length+1) cap 3-(L.length+1))) 3)).drew.setCells w.heap.size i [.int .i64 x]).drew).setCells w.heap.size (i+1) ((aF L).drop i))
  rw [l];have m:((w.alloc (.cells ROW 3)).drew).heap[w.heap.size]?=some (.cells ROW 3 (0,0)):=heap_alloc_new w _;obtain ⟨c1,I,hs1⟩:=eQ [.int .i64 x] i ROW _ m;obtain ⟨c2,s,N⟩:=eQ ((aF L).drop i) (i+1) c1 ((w.alloc (.cells ROW 3)).drew.setCells w.heap.size i [.int .i64 x]).drew I;have hB0:Bl w (w.alloc (.cells ROW 3)).drew:=by go_grown
  have R:∀ (w1:World) (vs:List Value) (k:Nat),Bl w w1→Bl w (w1.setCells w.heap.size k vs):=fun w1 vs k h=>by
   obtain ⟨p,q,e3⟩:=jz w.heap.size vs k w1;exact ⟨p.trans h.os,q.trans h.tape,e3.trans h.output,by rw [ig];exact h.size,fun b hb=>by rw [i8 _ (Nat.ne_of_lt hb)];exact h.block b hb⟩
  have hB1:=R _ [.int .i64 x] i hB0;have y:∀ (k:Nat),k<grownCap w (L.length+1) cap 3→((w.alloc (.cells ROW 3)).drew.cell? ⟨w.heap.size,k,none⟩).isSome=true:=fun k B=>by
   rw [Lib.cell_of_heap m]
   simp [show k<ROW.size by omega]
  refine F _ _ S C (R _ _ _ (by exact ac hB1 1)) ⟨c2,s,by omega⟩ (fun j f=>?_) ?_ fun j p q=>?_
  ·rw [World.cell?_setCells_out _ _ _ _ _ (fun _ _=>Or.inl (by show j<i+1;omega))]
   show ((w.alloc (.cells ROW 3)).drew.setCells w.heap.size i [.int .i64 x]).cell? _=_
   rw [World.cell?_setCells_out _ _ _ _ _ (fun _ _=>Or.inl (by show j<i;omega)),Lib.cell_of_heap m]
   exact hRt j f
  ·rw [World.cell?_setCells_out _ _ _ _ _ (fun _ _=>Or.inl (by show i<i+1;omega))]
   show ((w.alloc (.cells ROW 3)).drew.setCells w.heap.size i [.int .i64 x]).cell? _=_
   have h:=World.cell?_setCells_in w.heap.size [.int .i64 x] i (w.alloc (.cells ROW 3)).drew (fun k B=>by
    have u:k=0:=by simpa using B
    subst u;exact y _ (by omega)) 0 (by simp)
   simpa using h
  have h:=World.cell?_setCells_in w.heap.size ((aF L).drop i) (i+1) ((w.alloc (.cells ROW 3)).drew.setCells w.heap.size i [.int .i64 x]).drew (fun k B=>by
   rw [t] at B
   show (((w.alloc (.cells ROW 3)).drew.setCells w.heap.size i [.int .i64 x]).cell? _).isSome=true
   rw [World.cell?_setCells_out _ _ _ _ _ (fun _ _=>Or.inr (by show i+1≤i+1+k;omega))]
   exact y _ (by omega)) (j-(i+1)) (by rw [t];omega)
  rw [show i+1+(j-(i+1))=j by omega] at h
  rw [h,List.getElem_drop];simp only [aF,List.getElem_map,Option.some.injEq,Value.int.injEq,true_and];rw [zZ,zX (by omega)]
  simp only [Option.getD_some]
  congr 1
  omega
 have K:i=L.length:=by omega
 subst K;have U:∀ j,(⟨g,o,none⟩:Addr).add j=⟨g,o+j,none⟩:=fun j=>by unfold Addr.add;split <;> simp_all
 refine Calls.mono (Any2.slices_Insert_int_end_grow Tryz.lays21 (some ⟨g,o,none⟩) L.length cap vb 0 1 1 (aF L) [.int .i64 x] w (by omega) h1 (by omega) (by omega) (mapI_len L) rfl (fun h=>by cases h) (fun a ha j v f=>by
  cases ha;rw [U];exact J j v f) D n) ?_
 rintro e w' ⟨rfl,rfl⟩;obtain ⟨ROW,l⟩:∃ ROW:Array Value,(aF L ++ [Value.int .i64 x]).toArray ++ Builtin.zeroCells (Value.int .i64 0).cells (grownCap w (L.length+1) cap 3-(L.length+1))=ROW:=⟨_,rfl⟩;have T:ROW.size=grownCap w (L.length+1) cap 3:=by
  rw [←l,Array.size_append,size_zeroCells,List.size_toArray,List.length_append,mapI_len];simp only [Value.cells,List.size_toArray,List.length_cons,List.length_nil]
  omega
 show Bh w g L.length L x (.returned (.slice (some ⟨w.heap.size,0,none⟩) (L.length+1) (grownCap w (L.length+1) cap 3))) (w.drew.alloc (.cells ((aF L ++ [Value.int .i64 x]).toArray ++ Builtin.zeroCells (Value.int .i64 0).cells (grownCap w (L.length+1) cap 3-(L.length+1))) 3))
 rw [l];have m:(w.drew.alloc (.cells ROW 3)).heap[w.heap.size]?=some (.cells ROW 3 (0,0)):=heap_alloc_new w.drew _;have V:∀ j,j<L.length+1→ROW[j]?=(aF L ++ [Value.int .i64 x])[j]?:=fun j f=>by
  rw [←l,Array.getElem?_append_left (by rw [List.size_toArray,List.length_append,mapI_len];simpa using f),List.getElem?_toArray]
 refine F _ _ S C (by go_grown) ⟨ROW,m,T⟩ (fun j f=>?_) ?_ fun j p q=>by omega
 ·rw [Lib.cell_of_heap m,V j (by omega),List.getElem?_append_left (by rw [mapI_len];exact f)]
  unfold aF;rw [List.getElem?_map,zX f,zZ,zX f]
  rfl
 rw [Lib.cell_of_heap m,V _ (by omega),List.getElem?_append_right (by rw [mapI_len];exact zT),mapI_len,Nat.sub_self]
 rfl
theorem wS (A0:Option Addr) (cap n:Nat) (D:Nat→Dm) (A:Nat→Option Addr) (C:Nat→Nat) (AE:Option Addr) (ce:Nat) (xs:List EnL) (w:World) (hM:aY w A0 cap n D A C) (hE:b6 w AE ce xs) (he:entsErr D n (lE xs)=0) :
  Calls Tryz.prog 37 #[.agg #[.slice A0 n cap],.slice AE xs.length ce] w fun e w'=>(∃ g,e=.returned (.tuple #[.slice (some ⟨g,0,none⟩) (prodN D n) (prodN D n),.nilIface])∧w.heap.size≤g∧bT w' g (wrV D n (lE xs)))∧Bl w w':=by
 have m:=aq w A0 n cap 24;have h:=kv A0 cap n D A C AE ce xs (ay w A0 n cap 24) (hM.later m) (hE.later m);have HB0:=aa m;have HM:=aa hM;have HE:=aa hE;clear hM hE m;have o:=sk he;have HEs:=aa o;have KK:xs.length≤3000:=by have:=o.few;rw [a8] at this;exact this
 have hR:=o.right;have HR:=aa hR;obtain ⟨hn1,hn4,KM,hd⟩:=au hR;rw [he,errV_zero] at h;have F:Hid (w.heap.size<(ay w A0 n cap 24).heap.size∧(ay w A0 n cap 24).cell? ⟨w.heap.size,0,none⟩=some (.slice A0 n cap)):=⟨by rw [aw];omega,aI ..⟩
 obtain ⟨N,hN⟩:=aA xs.length;have HN:=aa hN;rw [hN] at h KK ⊢;have hN':(N:Int)≤3000:=by omega
 obtain ⟨PN,q⟩:=aA (prodN D n);have I:=aa q;rw [q] at KM;have hmk:=jw PN KM;have hPN':(PN:Int)≤3000:=by omega
 have HWE:Hid (((lE xs).take N).foldl (dG D n) (List.replicate PN (0,0))=wrV D n (lE xs)):=by show _=_;rw [List.take_of_length_le (by rw [a8,hN];exact zT),←q];rfl
 clear he o hR hd hN q
 go_enter Tryz.func37,Tryz.ntmps37
 go_wp2_with fail;refine h.mono ?_;rintro e w1 ⟨rfl,r⟩;have hB:Bl w w1:=ae HB0.out r;have HB:=aa hB;have x:Hid (nO w1 w.heap.size (.slice A0 n cap)):=⟨zW F.out.1 r.size,aD r F.out.1 F.out.2⟩;have c1:=x.out.2;have Q:=pu A0 cap n D A C w1 (HM.out.later hB);have KJ:iQ D n=(PN:Int):=by unfold iQ;rw [if_pos HR.out,I.out]
 rw [HR.out,errV_zero,KJ] at Q;clear r h hB KJ;go_wp2_with fail;refine Q.mono ?_;rintro e w2 ⟨rfl,O⟩;have S:=aa (ae HB.out O);have d:=aa (x.out.later O);obtain ⟨v2,R⟩:∃ v,w2.alloc (.cells (madeCells #[.int .i64 0,.int .i64 0] (PN*2)) 52)=v:=⟨_,rfl⟩;have L:Bl w2 v2:=by rw [←R];go_grown
 have T:=aa L;have HCv:Hid (bT v2 w2.heap.size (List.replicate PN (0,0))):=by rw [←R];exact qH w2 PN
 have G:=aa (d.out.later L);have hwz:w.heap.size<w2.heap.size:=d.out.1;clear Q O c1 L;go_wp2_with fail;clear hmk R
 go_loopg [32] N (fun gg s32 wr => ∃ (k:Nat),k≤N∧gg=N-k∧s32=.int .i64 k∧Hid (bT wr w2.heap.size (((lE xs).take k).foldl (dG D n) (List.replicate PN (0,0))))∧Hid (v2.grownBy wr (some w2.heap.size)))
 case atStart=>exact ⟨0,zU,rfl,rfl,HCv,dg v2 _⟩
 case round =>
  obtain ⟨k,hk,rfl,rfl,HC,HG⟩:=hrel;have b:Bl w2 wr:=T.out.grown HG.out T.out.size (fun j hj=>by cases hj;exact zT)
  have HB2r:=aa b;have H:=aa (ae S.out b)
  by_cases hlt:k<N
  ·have s:k<xs.length:=by rw [HN.out];exact hlt
   have hki:(k:Int)<(N:Int):=by omega
   obtain ⟨-,-,h0 | ⟨bb,oo,rfl,hA⟩⟩:=HE.out.later H.out
   ·have:=HN.out;rw [h0] at this;simp at this;omega
   obtain ⟨c1,c2⟩:=hA.at s;have B:(xs.getD k aJ).e∈lE xs:=List.mem_map.2 ⟨_,iT s,rfl⟩;obtain ⟨u,-,E⟩:=HEs.out.each _ B;have hnn : -1000000≤(xs.getD k aJ).e.n∧(xs.getD k aJ).e.n≤1000000:=by simpa [cT] using E
   obtain ⟨hq1,hq2,-⟩:=ba u (Nat.le_refl n);have KN:=hA.pl s;have l:=Iv D n (List.replicate PN (0,0)) xs s;unfold dG at l;obtain ⟨X,hX⟩:∃ X:Nat,numI D (xs.getD k aJ).e.pl n=X:=⟨(numI D (xs.getD k aJ).e.pl n).toNat,by omega⟩
   have KL:numV D n (xs.getD k aJ).e.pl=(X:Int):=by unfold numV;rw [if_pos u.ok,hX]
   have hXN:X<PN:=by have:=I.out;omega
   have f:∀ w',Bl wr w'→_:=fun w' KO=>gS A0 cap n D A C (xs.getD k aJ).A (xs.getD k aJ).c (xs.getD k aJ).e.pl w' (HM.out.later (ae H.out KO)) (KN.later KO)
   rw [KL,u.ok,errV_zero] at f;have a:=aa f;have t:=fun w'=>jr (xs.getD k aJ).e.n w'
   rw [pk (by omega) (by omega)] at t
   rw [hX,show ((X:Int)).toNat=X by omega] at l
   have W:Hid _:=l;obtain ⟨LL,p⟩:=aA (((lE xs).take k).foldl (dG D n) (List.replicate PN (0,0)));have Z:LL.length=PN:=by rw [←p,tj];simp
   have HCL:Hid (bT wr w2.heap.size LL):=by rw [←p];exact HC.out
   have V:Hid (((lE xs).take (k+1)).foldl (dG D n) (List.replicate PN (0,0))=LL.set X (1,(xs.getD k aJ).e.n)):=by
    show _=_
    rw [←p];exact W.out
   have z:Hid (nO wr w.heap.size (.slice A0 n cap)):=n9 G.out (by omega) HG.out
   have KH:X<LL.length:=by omega
   have Y:=aa KH;generalize (xs.getD k aJ).A=A1 at c1 a;generalize (xs.getD k aJ).c=k1 at c1 a;generalize (xs.getD k aJ).e.n=num at c2 hnn t V;generalize (xs.getD k aJ).e.pl.length=m1 at c1 a;have hcr:=z.out.2;have hXi:(X:Int)<(PN:Int):=by omega
   obtain ⟨y,hy⟩:=aA (wr.alloc (.cells #[.slice A1 m1 k1,.int .i64 num] 83));have M:Bl wr y:=by rw [←hy];go_grown
   have U:=aa M;have J:Hid (y.heap[wr.heap.size]?=some (.cells #[.slice A1 m1 k1,.int .i64 num] 83 (0,0))):=by show _=_;rw [←hy];exact heap_alloc_new ..
   obtain ⟨p0,p1,-,-⟩:=cE J.out;have hyo:=(z.out.later M).2;clear b hA B u E KN l f KL p Z hX hq1 hq2 M KH W;go_wp2_with fail;refine (a.out _ U.out).mono ?_;rintro e w5 ⟨rfl,P⟩;have HB5:=aa P;have hwr:wr.heap.size<y.heap.size:=(zY J.out).1;have KG:w5.heap[wr.heap.size]?=some (.cells #[.slice A1 m1 k1,.int .i64 num] 83 (0,0)):=(P.block _ hwr).trans J.out;obtain ⟨-,s1,-,-⟩:=cE KG;clear P KG p0 p1 hyo;go_wp2_with fail;refine (t _).mono ?_;rintro e w6 ⟨rfl,KI⟩;have K:Bl wr w6:=ae (ae U.out HB5.out) KI;have i:=aa (HCL.out.later K);obtain ⟨g1,g2⟩:=i.out.at Y.out;have g3:=i.out.frozen (X*2);have g4:=i.out.frozen (X*2+1);have HC7:Hid (bT ((w6.setCell ⟨w2.heap.size,X*2,none⟩ (.int .i64 1)).setCell ⟨w2.heap.size,X*2+1,none⟩ (.int .i64 num)) w2.heap.size (((lE xs).take (k+1)).foldl (dG D n) (List.replicate PN (0,0)))):=by show bT _ _ _;rw [V.out];exact i.out.set Y.out 1 num
   have HG7:Hid (v2.grownBy ((w6.setCell ⟨w2.heap.size,X*2,none⟩ (.int .i64 1)).setCell ⟨w2.heap.size,X*2+1,none⟩ (.int .i64 num)) (some w2.heap.size)):=Bs (fu HG.out K);clear KI K t s1;go_wp2_with fail
   go_roundg (N-(k+1))
   case measure=>omega
   case rel=>exact ⟨k+1,by omega,rfl,by go_num,HC7,HG7⟩
  have hke:k=N:=by omega
  subst hke;have HV:Hid (bT wr w2.heap.size (wrV D n (lE xs))):=by rw [←HWE.out];exact HC.out
  clear b;go_wp2_with fail
  go_ret2
  exact ⟨⟨w2.heap.size,by rw [I.out];rfl,S.out.size,HV.out⟩,H.out⟩
theorem FP {ka na kb nb:Int} (a:good ka na=true) (b:good kb nb=true):∀ w,Rt 65 #[.agg #[.int .i64 ka,.int .i64 na],.agg #[.int .i64 kb,.int .i64 nb],.int .i64 1] w (.agg #[.int .i64 (m8 ka na kb nb).1,.int .i64 (m8 ka na kb nb).2]):=by
 obtain ⟨c,d⟩:=cB a;obtain ⟨e,f⟩:=cB b;have h:=jL ka na kb nb 1 (na+nb) (by unfold wrap64;omega)
 unfold jc at h;exact h
theorem CE {ka na kb nb:Int} (a:good ka na=true) (b:good kb nb=true):∀ w,Rt 65 #[.agg #[.int .i64 ka,.int .i64 na],.agg #[.int .i64 kb,.int .i64 nb],.int .i64 (-1)] w (.agg #[.int .i64 (jp ka na kb nb).1,.int .i64 (jp ka na kb nb).2]):=by
 obtain ⟨c,d⟩:=cB a;obtain ⟨e,f⟩:=cB b;have h:=jL ka na kb nb (-1) (na-nb) (by unfold wrap64;omega)
 unfold jc at h;exact h
end Go.Proofs.YtompdcaikmekkaaGreatDoor
