/- Statements over frames -/
import Derived.Test.YthlhjjabkgpenaaGreatDoorJTBB
import Derived.Test.YthlhjjabkgpenaaGreatDoorJTBE
import Derived.Test.YthlhjjabkgpenaaGreatDoorJTBF
import Derived.Test.YthlhjjabkgpenaaGreatDoorJTBG
namespace Go.Proofs.YthlhjjabkgpenaaGreatDoor
open Go ChangeShapes WideShapes ChangeAt RowKit
set_option maxRecDepth 99999
set_option maxHeartbeats 0
def II:List Nat→Code→Code
 | [],c=>c
 | 0 :: r,.seq a _=>II r a
 | 1 :: r,.seq _ b=>II r b
 | 2 :: r,.cond _ x _=>II r x
 | 3 :: r,.block _ c=>II r c
 | 4 :: r,.loop c=>II r c
 | _,c=>c
noncomputable def bC (k:Nat) (p:List Nat):Code:=II p (lp k)
theorem xX {P:Program} {id:Nat} {b:Code} {K:Act→World→Prop} {Q:Exit→Act→World→Prop} {a:Act} {w:World} (h:∀ Q',b.wp P (Exit.then K Q') a w):(Code.block id b).wp P (Exit.then K Q) a w :=
 wp_block (wp_mono (h (Exit.inBlock id (Exit.then K Q))) (by intro e a w h;cases e <;> exact h))
theorem gz {P:Program} {id id':Nat} {t b st:Code} {c:Operand} (n:Nat) (tb:Nat→Bool) (x:tb n=false) (I I':Nat→(Nat→Value)→World→Prop)
  (z:∀ k T s w,k≤n→aP T s→I k s w→∀ K Q,(∀ T',aP T' s→Act.eval ⟨T',[]⟩ c=.bool (tb k)→K ⟨T',[]⟩ w)→t.wp P (Exit.then K Q) ⟨T,[]⟩ w)
  (v:∀ k T s w,k<n→tb k=true→aP T s→I k s w→∀ K Q,(∀ T' s' w',aP T' s'→I' k s' w'→K ⟨T',[]⟩ w')→b.wp P (Exit.then K Q) ⟨T,[]⟩ w)
  (y:∀ k T s w,k<n→aP T s→I' k s w→∀ K Q,(∀ T' s' w',aP T' s'→I (k+1) s' w'→K ⟨T',[]⟩ w')→st.wp P (Exit.then K Q) ⟨T,[]⟩ w)
  {T:Array Value} {s:Nat→Value} {w:World} (i:aP T s) (r:I 0 s w) {J:Act→World→Prop} {Q:Exit→Act→World→Prop}
  (u:∀ k T' s' w',k≤n→tb k=false→aP T' s'→I k s' w'→J ⟨T',[]⟩ w') :
  (Code.block id (.loop (.seq (.seq t (.cond c .skip (.exit id))) (.seq (.block id' b) st)))).wp P (Exit.then J Q) ⟨T,[]⟩ w:=by
 refine wp_block (wp_loop_ghost (fun g a w => ∃ k T s,g=n-k∧k≤n∧a=⟨T,[]⟩∧aP T s∧I k s w) n ⟨0,T,s,rfl,zU,rfl,i,r⟩ ?_)
 rintro g a w ⟨k,T,s,rfl,q,rfl,i,m⟩;refine wp_seq (wp_seq (z k T s w q i m _ _ fun T1 d f=>?_))
 cases htb:tb k
 ·rw [htb] at f
  refine wp_cond_false f (wp_exit ?_)
  show (if id=id then _ else _)
  rw [if_pos rfl];exact u k T1 s w q htb d m
 have e:k<n:=by
  rcases Nat.lt_or_eq_of_le q with h | h
  ·exact h
  rw [h,x] at htb;cases htb
 rw [htb] at f;refine wp_cond_true f (wp_skip ?_)
 show Code.wp P (.seq (.block id' b) st) _ _ _
 refine wp_seq (xX fun Q'=>v k T1 s w e htb d m _ Q' fun T2 s2 w2 j o=>y k T2 s2 w2 e j o _ _ fun T3 s3 w3 l p=>?_)
 exact ⟨n-(k+1),by omega,k+1,T3,s3,rfl,by omega,rfl,l,p⟩
def Ag (X:List Nat) (s s':Nat→Value):Prop := ∀ i,i∉X→s' i=s i
theorem Ag.refl (X:List Nat) (s:Nat→Value):Ag X s s:=fun _ _=>rfl
theorem Ag.up {X:List Nat} {s s':Nat→Value} {k:Nat} {v:Value} (h:Ag X s s') (b:k∈X):Ag X s (cJ s' k v):=fun i a=>by
 unfold cJ;rw [if_neg (fun e:i=k=>a (by rw [e];exact b))]
 exact h i a
theorem Ag.trans {X:List Nat} {s s' s'':Nat→Value} (h:Ag X s s') (k:Ag X s' s''):Ag X s s'':=fun i a=>(k i a).trans (h i a)
theorem Ag.wide {X Y:List Nat} {s s':Nat→Value} (h:Ag X s s') (b:∀ i∈X,i∈Y):Ag Y s s':=fun i a=>h i fun e=>a (b i e)
theorem aT (s:Nat→Value) (k:Nat) (v:Value):cJ s k v k=v:=if_pos rfl
theorem mR (s:Nat→Value) {k i:Nat} (v:Value) (h:i≠k):cJ s k v i=s i:=if_neg h
theorem sc (A0:Option Addr) (cap n:Nat) (D:Nat→Dm) (A:Nat→Option Addr) (C:Nat→Nat) (w:World) (hR:dS D n) (hE:(ah D n).2.2=0) (hM:bd w A0 cap n D A C) :
  Calls Tryz.prog 21 #[.agg #[.slice A0 n cap]] w fun e w'=>(∃ A' a l,e=.returned (.slice A' (prodN D n) a)∧l.length=prodN D n∧cT w' A' a l∧∀ i,i<prodN D n→ey D n (ak D n i) (l.getD i ew).p)∧Bl w w':=by
 obtain ⟨i0,hi0,hz0,hz1,hz2⟩:=info_parts Tryz.infoRow;obtain ⟨hn1,LI,hp3,hd⟩:=aw hE;have y:=aA w A0 n cap 24;have hS:=aF w A0 n cap 24;have hA:=aR w A0 n cap 24;obtain ⟨W,hW⟩:=ax (aD w A0 n cap 24);rw [hW] at y hS hA;unfold aD at hW;have J:=aa y;have HM:=aa hM;have HA:=aa hA;have HR:=aa hR;have HE:=aa hE;have LJ:w.heap.size<W.heap.size:=by omega
 have hnI:(n:Int)≤4:=by omega
 have LH:=sh A0 cap n D A C W LI hR (hM.later y);have Lv:Hid (∀ w',Bl W w'→Rt 51 #[.agg #[.slice A0 n cap]] w' (.int .i64 (prodN D n))):=fun w' v=>by
  obtain ⟨hcap,h0 | ⟨b,o,rfl,hMs⟩⟩:=HM.out.later (ae J.out v)
  ·omega
  exact qG b o n cap D A C w' LI (fun j hj=>(hd j hj).2) hMs
 obtain ⟨PN,Q⟩:=ax (prodN D n);have HPN:=aa Q;rw [Q] at Lv hp3 ⊢;have hPI:(PN:Int)≤3000:=by omega
 clear hM y hR hS hE hd Q
 go_enter Tryz.func21,Tryz.ntmps21
 go_wp2_with fail;refine LH.mono ?_;rintro e w1 ⟨⟨AN,cN,ys,rfl,LK,hY,LM⟩,r⟩;have V:=aa r;have HYl:=aa LK;have HY:=aa hY;have HYn:=aa LM;have Lz:w1.cell? ⟨w.heap.size,0,none⟩=some (.slice A0 n cap):=aL r LJ HA.out;have F:w.heap.size<w1.heap.size:=zW LJ r.size;have H:=Lv.out w1 r;clear r LK hY LM LH hW hA;go_wp2_with fail;refine H.mono ?_;rintro e w2 ⟨rfl,z⟩;have K:=aa z;have HA2:Hid (w2.cell? ⟨w.heap.size,0,none⟩=some (.slice A0 n cap)):=aL z F Lz;have G:w.heap.size<w2.heap.size:=zW F z.size;clear z H Lz;go_wp2_with fail
 go_loopg [4,6] PN (fun g s4 s6 wr => ∃ (k:Nat) (l:List RL),k≤PN∧g=PN-k∧s6=.int .i64 k∧Hid (l.length=k∧(∀ i,i<k→ey D n (ak D n i) (l.getD i ew).p)∧∀ x∈l,aY wr x.A x.c x.p)∧wr.ownsRow w2.heap.size 26 1 s4 k (cD l)∧Bl w2 wr)
 case atStart=>exact ⟨0,[],zU,rfl,rfl,(⟨rfl,fun i hi=>absurd hi (Nat.not_lt_zero _),fun x E=>by cases E⟩:_∧_∧_),World.ownsRow_nil _ _ _ _,zS⟩
 case round =>
  obtain ⟨k,l,hk,rfl,rfl,M,hO,m⟩:=hrel;have HO:=aa hO;have L:=aa m;have cw:wr.cell? ⟨w.heap.size,0,none⟩=some (.slice A0 n cap):=aL m G HA2.out;have I:w.heap.size<wr.heap.size:=zW G m.size
  by_cases hlt:k<PN
  ·have hki:(k:Int)<(PN:Int):=by omega
   have Y:=aa (ae J.out (ae V.out (ae K.out m)));have HIk:Hid (InO D n (ak D n k)):=cQ HE.out;have R:=placeL_len D n k;have U:Hid (∀ w',Bl wr w'→Calls Tryz.prog 23 #[.agg #[.slice A0 n cap],.int .i64 k] w' fun e w''=>(∃ A' a,e=.returned (.slice A' n a)∧aO w'' A' a (ak D n k))∧Bl w' w''):=fun w' v=>by
    have h:=zc A0 cap n D A C k w' HE.out (by rw [HPN.out];exact hlt) (HM.out.later (ae Y.out v))
    rw [R] at h;exact h
   have Lx:Hid (∀ A' a w',Bl wr w'→aO w' A' a (ak D n k)→Calls Tryz.prog 52 #[.agg #[.slice A0 n cap],.slice AN n cN,.slice A' n a] w' fun e w''=>(∃ A' a T,e=.returned (.slice A' T.length a)∧bQ w'' A' a T∧ey D n (ak D n k) T)∧Bl w' w''):=fun A' a w' v hP'=>by
    have h:=Cp A0 cap n D A C AN cN ys A' a (ak D n k) w' HR.out HIk.out (HM.out.later (ae Y.out v)) HYl.out (HY.out.later (ae K.out (ae L.out v))) HYn.out hP';rw [R] at h;exact h
   have Z:Hid (∀ w',Bl wr w'→w'.cell? ⟨w.heap.size,0,none⟩=some (.slice A0 n cap)∧w.heap.size<w'.heap.size):=fun w' v=>⟨aL v I cw,zW I v.size⟩
   clear m hO R;obtain ⟨q,hq⟩:=ax (ak D n k);have HQ:=aa hq;rw [hq] at U Lx;clear hq
   go_upto_region 7 with fail
   go_cut [7] from 12 to 26 (fun s7 wx => ∃ A' a T,s7=.slice A' T.length a∧bQ wx A' a T∧ey D n q T∧Bl wr wx)
   case first =>
    go_region_law ((first
     | (go_simp;refine (U.out _ (by go_grown)).mono ?_;rintro e w3 ⟨⟨A3,c3,rfl,P⟩,LF⟩;have LA:=ae (W0:=wr) (by go_grown) LF;obtain ⟨cw3,hw3⟩:=Z.out _ LA;clear LF)
     | (go_simp;refine (Lx.out _ _ _ (by go_grown) (by first | exact P | exact P.later (by go_grown))).mono ?_;rintro e w4 ⟨⟨A4,c4,T4,rfl,LB,LD⟩,LG⟩;have O:=ae (W0:=wr) (by go_grown) LG;obtain ⟨cw4,hw4⟩:=Z.out _ O;have Lu:=aa LB;have Lw:=aa LD;have Lt:=aa O;clear LG)))
    all_goals clear P LB LD LA O
    all_goals go_wp2_with fail
    all_goals go_meet
    all_goals first
     | exact ⟨A4,c4,T4,rfl,Lu.out,Lw.out,Lt.out⟩
     | exact ⟨A4,c4,T4,rfl,Lu.out.later (ac (zS) _),Lw.out,ac Lt.out _⟩
   case rest =>
    obtain ⟨A7,N,T,rfl,LC,LE,B⟩:=hcut;obtain ⟨wx,rfl⟩:∃ wx:World,wx=wc:=⟨_,rfl⟩;have X:=aa (ae L.out B);have t:Hid (wx.ownsRow w2.heap.size 26 1 u4 k (cD l)):=ar HO.out B;have HX7:Hid (∀ x∈l,aY wx x.A x.c x.p):=fun x E=>(M.out.2.2 x E).later B
    have HR7:=aa LC.intT;have HT7:=aa LE;have hs7:=X.out.size;obtain ⟨tl,S⟩:=ax T.length;have HTl:=aa S;rw [S];clear B LC LE S
    go_wp2_with (at_builtin;refine wpList_append_own _ rfl _ _ 59 rfl w2.heap.size 26 i0 (.slice none 0 0) 1 24 Tryz.underlying59 hi0 hz0 hz1 hz2 rfl (by decide) _ _ _ rfl (t.out.alloc _) ⟨wx.heap.size,0,none⟩ 1 1 [.slice A7 tl N] rfl rfl bu (by intro u hu;simp at hu;subst hu;rfl) (by unfold maxLen;omega) (by omega) (by simp;omega) ?_)
    intro v' w5 s d _;have HB5:Hid (Bl w2 w5):=bA X.out t.out d;have HX5:Hid ((l ++ [(⟨T,A7,N⟩:RL)]).length=k+1∧(∀ i,i<k+1→ey D n (ak D n i) ((l ++ [(⟨T,A7,N⟩:RL)]).getD i ew).p)∧∀ x∈l ++ [(⟨T,A7,N⟩:RL)],aY w5 x.A x.c x.p):=by
     have f:=M.out.1;refine ⟨by rw [List.length_append,f];rfl,fun i hi=>?_,fun x E=>?_⟩
     ·by_cases e:i=k
      ·rw [e,zZ,List.getElem?_append_right (by omega),f,Nat.sub_self,HQ.out]
       exact HT7.out
      rw [zZ,List.getElem?_append_left (by omega),←zZ]
      exact M.out.2.1 i (by omega)
     rcases List.mem_append.1 E with E | E
     ·exact ((HX7.out x E).later (by go_grown)).row (t.out.alloc _) d
     rw [List.mem_singleton.1 E];exact (HR7.out.later (by go_grown)).row (t.out.alloc _) d
    have HO5:Hid (w5.ownsRow w2.heap.size 26 1 v' (k+1) (cD (l ++ [(⟨T,A7,N⟩:RL)]))):=by
     show World.ownsRow ..
     rw [gy];have e:cD [(⟨T,A7,N⟩:RL)]=[.slice A7 tl N]:=by simp [cD,HTl.out]
     rw [e];exact s
    clear s d;go_wp2_with fail
    go_roundg (PN-(k+1))
    case measure=>omega
    case rel=>exact ⟨k+1,_,by omega,rfl,by go_num,HX5,HO5.out,HB5.out⟩
  have hke:k=PN:=by omega
  subst hke;have HF:Hid (∃ A' a,u4=.slice A' k a∧cT wr A' a l):=by
   have f:=M.out.1;have h:=hO;rw [←f] at h;obtain ⟨A',a,e,hv⟩:=oP h M.out.2.2;rw [f] at e;exact ⟨A',a,e,hv⟩
  clear hO m;go_wp2_with fail;go_ret;obtain ⟨A',a,e,hv⟩:=HF.out;exact ⟨⟨A',a,l,by rw [←e];rfl,M.out.1,hv,M.out.2.1⟩,ae J.out (ae V.out (ae K.out L.out))⟩
section
variable {D:Nat→Dm} {n:Nat}
theorem fN (q:dS D n) (p:(ah D n).2.2=0) {i:Nat} {T:List Int} (r:ey D n (ak D n i) T) {z:Int} (t:z∈T):∃ j:Nat,z=(j:Int)∧j<prodN D n∧msrTo D (ak D n j) n<msrTo D (ak D n i) n:=by
 obtain ⟨b,u,x,o,rfl⟩:=(r.2.2 z).1 t;have g:InO D n (ak D n i):=cQ p;have a:b<n:=by
  rcases by_in D (ak D n i) n with h | ⟨b',h1,h2⟩
  ·omega
  omega
 have f:=ef o;have c:=fI g a f.1 f.2;have l:=g.lo b a;have s:=g.hi b a;have e:=mH (q b a) (i:=((ak D n i).getD b 0).toNat) (by omega) o
 rw [Int.toNat_of_nonneg l] at e;have k:=(kG (by rw [g.len];exact a) e n).2 a
 obtain ⟨j,m⟩:∃ j:Nat,numI D ((ak D n i).set b x) n=(j:Int):=⟨(numI D ((ak D n i).set b x) n).toNat,by have:=(bJ c (Nat.le_refl n)).1;omega⟩
 refine ⟨j,m,by have:=(bJ c (Nat.le_refl n)).2.1;omega,?_⟩
 have d:=lC c;rw [m,Int.toNat_natCast] at d;rw [d];exact k
theorem wG (e:dS D n) (d:(ah D n).2.2=0) (T:Nat→List Int) (f:∀ i,i<prodN D n→ey D n (ak D n i) (T i)) (done:Nat→Bool) (h:∀ i,i<prodN D n→done i=false→∃ z∈T i,done z.toNat=false):∀ i,i<prodN D n→done i=true:=by
 have a:∀ (m i:Nat),i<prodN D n→msrTo D (ak D n i) n<m→done i=true:=by
  intro m
  induction m with
  | zero=>intro i _ k;omega
  | succ m ih =>
   intro i b k;cases hd:done i with
   | true=>rfl
   | false =>
    obtain ⟨z,l,c⟩:=h i b hd;obtain ⟨j,rfl,g,o⟩:=fN e d (f i b) l;rw [Int.toNat_natCast,ih j g (by omega)] at c
    cases c
 exact fun i b=>a _ i b (Nat.lt_succ_self _)
theorem Ip (g:dS D n) (l:(ah D n).2.2=0) (inp:List Int→Int×Int) (c:Nat→Int×Int) {i:Nat} {T:List Int} (m:ey D n (ak D n i) T) (o:∀ z∈T,c z.toNat=fD D n inp (ak D n z.toNat)) {b:Nat} (j:byTo D (ak D n i) n=(b:Int)):fD D n inp (ak D n i)=dT (D b) (fun x=>c (numI D ((ak D n i).set b x) n).toNat) ((ak D n i).getD b 0).toNat:=by
 have e:InO D n (ak D n i):=cQ l;have a:b<n:=by
  rcases by_in D (ak D n i) n with h | ⟨b',f,h2⟩
  ·omega
  omega
 rw [xB g inp e j];obtain ⟨p,q,-,-⟩:=bK (g b a);have r:=e.lo b a;have s:=e.hi b a;refine jp p (q _ (by omega)) fun x k=>?_
 have d:=ef k;have f:=o _ ((m.2.2 _).2 ⟨b,j,x,k,rfl⟩);rw [lC (fI e a d.1 d.2)] at f;exact f.symm
end
section
variable {D:Nat→Dm} {n:Nat}
theorem Fs (b:dS D n) (a:(ah D n).2.2=0) {N:List (List Int)} (h:N.length=prodN D n) (c:∀ i,i<prodN D n→ey D n (ak D n i) (N.getD i [])):mw N:=fun i g x d=>by
 obtain ⟨j,e,f,-⟩:=fN b a (c i (by omega)) d
 omega
theorem Cw (j:dS D n) (h:(ah D n).2.2=0) {N:List (List Int)} (t:N.length=prodN D n) (k:∀ i,i<prodN D n→ey D n (ak D n i) (N.getD i [])) (i:Nat) (s:i<N.length):cycB N i=false:=by
 rw [yw];intro q;have f:∀ {a b:Int},Rch N a b→∀ x:Nat,a=(x:Int)→x<prodN D n→∃ y:Nat,b=(y:Int)∧y<prodN D n∧msrTo D (ak D n y) n<msrTo D (ak D n x) n:=by
  intro a b e
  induction e with
  | one hx =>
   intro x c d;subst c;unfold e8 at hx;rw [Int.toNat_natCast] at hx;exact fN j h (k x d) hx
  | more hx _ ih =>
   intro x c d;subst c;unfold e8 at hx;rw [Int.toNat_natCast] at hx;obtain ⟨y,g,l,m⟩:=fN j h (k x d) hx;obtain ⟨z,o,p,r⟩:=ih y g l;exact ⟨z,o,p,by omega⟩
 obtain ⟨y,g,-,m⟩:=f q i rfl (by omega)
 have:y=i:=by omega
 subst this
 omega
end
section
variable {D:Nat→Dm} {n:Nat}
def Hg (D:Nat→Dm) (n i j:Nat):Prop := ∃ b:Nat,byTo D (ak D n i) n=(b:Int)∧∃ x∈dQ (D b) ((ak D n i).getD b 0).toNat,(j:Int)=numI D ((ak D n i).set b x) n
theorem zh {i j:Nat} {T:List Int} (a:ey D n (ak D n i) T):Hg D n i j↔(j:Int)∈T:=(a.2.2 _).symm
end
section
variable {D:Nat→Dm} {n:Nat}
noncomputable def Iq (D:Nat→Dm) (n i j:Nat):Bool := @decide (Hg D n i j) (Classical.propDecidable _)
theorem uT {i j:Nat}:Iq D n i j=true↔Hg D n i j:=by unfold Iq;exact @decide_eq_true_iff _ (Classical.propDecidable _)
noncomputable def Is (D:Nat→Dm) (n i:Nat):List Int:=selTo (Iq D n i) (prodN D n)
theorem mO (d:dS D n) (c:(ah D n).2.2=0) {i:Nat} {T:List Int} (a:ey D n (ak D n i) T):T=Is D n i :=
 ju _ _ a.1 (g9 _ _) fun x=>⟨fun b=>by
  obtain ⟨j,rfl,e,-⟩:=fN d c a b;exact mM e (uT.2 ((zh a).2 b)),fun b=>by
  obtain ⟨m,rfl,-,f⟩:=dE _ b;exact (zh a).1 (uT.1 f)⟩
noncomputable def cH (D:Nat→Dm) (n:Nat):List (List Int):=(List.range (prodN D n)).map (Is D n)
theorem dl:(cH D n).length=prodN D n:=by simp [cH]
theorem mJ {i:Nat} (a:i<prodN D n):(cH D n).getD i []=Is D n i:=by
 unfold cH;rw [zZ,List.getElem?_map,List.getElem?_range a]
 rfl
noncomputable def caL (D:Nat→Dm) (n:Nat) (l:List En):List (Int×Int):=if cuErr D n l=0 then (List.range (prodN D n)).map (fun j=>fD D n (getE l) (ak D n j)) else []
theorem yn {l:List En} (h:cuErr D n l≠0):caL D n l=[]:=by unfold caL;rw [if_neg h]
theorem rp {l:List En} (h:cuErr D n l=0):(caL D n l).length=prodN D n:=by unfold caL;rw [if_pos h];simp
theorem C5 {l:List En} (h:cuErr D n l=0) {j:Nat} (a:j<prodN D n):(caL D n l).getD j noC=fD D n (getE l) (ak D n j):=by
 unfold caL;rw [if_pos h,zZ,List.getElem?_map,List.getElem?_range a]
 rfl
theorem IY {l:List En} (h:cuErr D n l=0) {L:List (Int×Int)} (d:L.length=prodN D n) (f:∀ j,j<prodN D n→L.getD j noC=fD D n (getE l) (ak D n j)):L=caL D n l:=by
 refine List.ext_getElem (by rw [d,rp h]) fun i b c=>?_
 have a:i<prodN D n:=by omega
 have e:=(f i a).trans (C5 h a).symm;rw [zZ,zX b,zZ,zX c] at e;exact e
theorem Di {l:List En} (h:cuErr D n l=0):(bM D n).2.2=0∧entsErr D n l=0:=by
 have b:(bM D n).2.2=0:=by
  by_cases a:(bM D n).2.2=0
  ·exact a
  unfold cuErr at h;rw [if_pos a] at h;exact absurd h a
 exact ⟨b,by unfold cuErr at h;rw [b,if_neg (by simp)] at h;exact h⟩
end
theorem vH (A0:Option Addr) (cap n:Nat) (D:Nat→Dm) (A:Nat→Option Addr) (C:Nat→Nat) (AE:Option Addr) (ce:Nat) (a:List EnL) (w:World) (hM:bd w A0 cap n D A C) (hE:ii w AE ce a) (he:entsErr D n (lE a)=0) :
  Calls Tryz.prog 62 #[.agg #[.slice A0 n cap],.slice AE a.length ce] w fun e w'=>(∃ g,e=.returned (.tuple #[.slice (some ⟨g,0,none⟩) (prodN D n) (prodN D n),.nilIface])∧w.heap.size≤g∧da w' g (wrV D n (lE a)))∧Bl w w':=by
 have o:=aA w A0 n cap 24;have h:=nM A0 cap n D A C AE ce a (aD w A0 n cap 24) (hM.later o) (hE.later o);have HB0:=aa o;have HM:=aa hM;have HE:=aa hE;clear hM hE o;have p:=vB he;have HEs:=aa p;have Lz:a.length≤3000:=by have:=p.few;rw [dF] at this;exact this
 have hR:=p.right;have HR:=aa hR;obtain ⟨hn1,hn4,LB,hd⟩:=aw hR;rw [he,errV_zero] at h;have G:Hid (w.heap.size<(aD w A0 n cap 24).heap.size∧(aD w A0 n cap 24).cell? ⟨w.heap.size,0,none⟩=some (.slice A0 n cap)):=⟨by rw [aF];omega,aR ..⟩
 obtain ⟨N,hN⟩:=ax a.length;have HN:=aa hN;rw [hN] at h Lz ⊢;have hN':(N:Int)≤3000:=by omega
 obtain ⟨PN,r⟩:=ax (prodN D n);have J:=aa r;rw [r] at LB;have hmk:=ja PN LB;have hPN':(PN:Int)≤3000:=by omega
 have HWE:Hid (((lE a).take N).foldl (dy D n) (List.replicate PN (0,0))=wrV D n (lE a)):=by show _=_;rw [List.take_of_length_le (by rw [dF,hN];exact zT),←r];rfl
 clear he p hR hd hN r
 go_enter Tryz.func62,Tryz.ntmps62
 go_wp2_with fail;refine h.mono ?_;rintro e w1 ⟨rfl,s⟩;have hB:Bl w w1:=ae HB0.out s;have HB:=aa hB;have z:Hid (mT w1 w.heap.size (.slice A0 n cap)):=⟨zW G.out.1 s.size,aL s G.out.1 G.out.2⟩;have c1:=z.out.2;have R:=oE A0 cap n D A C w1 (HM.out.later hB);have Lx:io D n=(PN:Int):=by unfold io;rw [if_pos HR.out,J.out]
 rw [HR.out,errV_zero,Lx] at R;clear s h hB Lx;go_wp2_with fail;refine R.mono ?_;rintro e w2 ⟨rfl,P⟩;have T:=aa (ae HB.out P);have f:=aa (z.out.later P);obtain ⟨v2,S⟩:∃ v,w2.alloc (.cells (madeCells #[.int .i64 0,.int .i64 0] (PN*2)) 40)=v:=⟨_,rfl⟩;have M:Bl w2 v2:=by rw [←S];go_grown
 have U:=aa M;have HCv:Hid (da v2 w2.heap.size (List.replicate PN (0,0))):=by rw [←S];exact lc w2 PN
 have H:=aa (f.out.later M);have hwz:w.heap.size<w2.heap.size:=f.out.1;clear R P c1 M;go_wp2_with fail;clear hmk S
 go_loopg [32] N (fun gg s32 wr => ∃ (k:Nat),k≤N∧gg=N-k∧s32=.int .i64 k∧Hid (da wr w2.heap.size (((lE a).take k).foldl (dy D n) (List.replicate PN (0,0))))∧Hid (v2.grownBy wr (some w2.heap.size)))
 case atStart=>exact ⟨0,zU,rfl,rfl,HCv,eV v2 _⟩
 case round =>
  obtain ⟨k,hk,rfl,rfl,HC,HG⟩:=hrel;have d:Bl w2 wr:=U.out.grown HG.out U.out.size (fun j hj=>by cases hj;exact zT)
  have HB2r:=aa d;have I:=aa (ae T.out d)
  by_cases hlt:k<N
  ·have t:k<a.length:=by rw [HN.out];exact hlt
   have hki:(k:Int)<(N:Int):=by omega
   obtain ⟨-,-,h0 | ⟨bb,oo,rfl,hA⟩⟩:=HE.out.later I.out
   ·have:=HN.out;rw [h0] at this;simp at this;omega
   obtain ⟨c1,c2⟩:=hA.at t;have E:(a.getD k noL).e∈lE a:=List.mem_map.2 ⟨_,ru t,rfl⟩;obtain ⟨x,-,F⟩:=HEs.out.each _ E;have hnn : -1000000≤(a.getD k noL).e.n∧(a.getD k noL).e.n≤1000000:=by simpa [fk] using F
   obtain ⟨hq1,hq2,-⟩:=bJ x (Nat.le_refl n);have LC:=hA.pl t;have m:=GT D n (List.replicate PN (0,0)) a t;unfold dy at m;obtain ⟨X,hX⟩:∃ X:Nat,numI D (a.getD k noL).e.pl n=X:=⟨(numI D (a.getD k noL).e.pl n).toNat,by omega⟩
   have LA:rJ D n (a.getD k noL).e.pl=(X:Int):=by unfold rJ;rw [if_pos x.ok,hX]
   have hXN:X<PN:=by have:=J.out;omega
   have i:∀ w',Bl wr w'→_:=fun w' LD=>mj A0 cap n D A C (a.getD k noL).A (a.getD k noL).c (a.getD k noL).e.pl w' (HM.out.later (ae I.out LD)) (LC.later LD)
   rw [LA,x.ok,errV_zero] at i;have b:=aa i;have u:=fun w'=>kg (a.getD k noL).e.n w'
   rw [oj (by omega) (by omega)] at u
   rw [hX,show ((X:Int)).toNat=X by omega] at m
   have Y:Hid _:=m;obtain ⟨LL,q⟩:=ax (((lE a).take k).foldl (dy D n) (List.replicate PN (0,0)));have Lt:LL.length=PN:=by rw [←q,sq];simp
   have HCL:Hid (da wr w2.heap.size LL):=by rw [←q];exact HC.out
   have W:Hid (((lE a).take (k+1)).foldl (dy D n) (List.replicate PN (0,0))=LL.set X (1,(a.getD k noL).e.n)):=by
    show _=_
    rw [←q];exact Y.out
   have B:Hid (mT wr w.heap.size (.slice A0 n cap)):=nf H.out (by omega) HG.out
   have Lv:X<LL.length:=by omega
   have Z:=aa Lv;generalize (a.getD k noL).A=A1 at c1 b;generalize (a.getD k noL).c=k1 at c1 b;generalize (a.getD k noL).e.n=num at c2 hnn u W;generalize (a.getD k noL).e.pl.length=m1 at c1 b;have hcr:=B.out.2;have hXi:(X:Int)<(PN:Int):=by omega
   obtain ⟨y,hy⟩:=ax (wr.alloc (.cells #[.slice A1 m1 k1,.int .i64 num] 93));have O:Bl wr y:=by rw [←hy];go_grown
   have V:=aa O;have K:Hid (y.heap[wr.heap.size]?=some (.cells #[.slice A1 m1 k1,.int .i64 num] 93 (0,0))):=by show _=_;rw [←hy];exact heap_alloc_new ..
   obtain ⟨p0,p1,-,-⟩:=bP K.out;have hyo:=(B.out.later O).2;clear d hA E x F LC m i LA q Lt hX hq1 hq2 O Lv Y;go_wp2_with fail;refine (b.out _ V.out).mono ?_;rintro e w5 ⟨rfl,Q⟩;have HB5:=aa Q;have hwr:wr.heap.size<y.heap.size:=(zY K.out).1;have Lu:w5.heap[wr.heap.size]?=some (.cells #[.slice A1 m1 k1,.int .i64 num] 93 (0,0)):=(Q.block _ hwr).trans K.out;obtain ⟨-,s1,-,-⟩:=bP Lu;clear Q Lu p0 p1 hyo;go_wp2_with fail;refine (u _).mono ?_;rintro e w6 ⟨rfl,Lw⟩;have L:Bl wr w6:=ae (ae V.out HB5.out) Lw;have l:=aa (HCL.out.later L);obtain ⟨g1,g2⟩:=l.out.at Z.out;have g3:=l.out.frozen (X*2);have g4:=l.out.frozen (X*2+1);have HC7:Hid (da ((w6.setCell ⟨w2.heap.size,X*2,none⟩ (.int .i64 1)).setCell ⟨w2.heap.size,X*2+1,none⟩ (.int .i64 num)) w2.heap.size (((lE a).take (k+1)).foldl (dy D n) (List.replicate PN (0,0)))):=by show da _ _ _;rw [W.out];exact l.out.set Z.out 1 num
   have HG7:Hid (v2.grownBy ((w6.setCell ⟨w2.heap.size,X*2,none⟩ (.int .i64 1)).setCell ⟨w2.heap.size,X*2+1,none⟩ (.int .i64 num)) (some w2.heap.size)):=zA (eW HG.out L);clear Lw L u s1;go_wp2_with fail
   go_roundg (N-(k+1))
   case measure=>omega
   case rel=>exact ⟨k+1,by omega,rfl,by go_num,HC7,HG7⟩
  have hke:k=N:=by omega
  subst hke;have HV:Hid (da wr w2.heap.size (wrV D n (lE a))):=by rw [←HWE.out];exact HC.out
  clear d;go_wp2_with fail
  go_ret2
  exact ⟨⟨w2.heap.size,by rw [J.out];rfl,T.out.size,HV.out⟩,I.out⟩
theorem kt {w w8:World} {q base e size n m f:Nat} {v v':Value} {x r:List Value} {o:Obj} {cs:Array Value} (p:w.heap[q]?=some (.cells cs 30 (0,0))) (t:w.ownsRow base e size v n x) (y:q<base) (c:w8.ownsRow base e size v' m r) (a:(w.alloc o).grownBy w8 v.ownBlock) :
  (w8.setCell ⟨q,f,none⟩ v').heap[q]?=some (.cells (cs.setIfInBounds f v') 30 (0,0))∧(w8.setCell ⟨q,f,none⟩ v').ownsRow base e size v' m r∧Kept w.heap.size (fun b=>b=q∨v.ownBlock=some b) w (w8.setCell ⟨q,f,none⟩ v'):=by
 have k:=(zY p).1;have l:some q≠v.ownBlock:=fun e=>by have:=(t.lt q e.symm).1;omega
 have s:w8.heap[q]?=w.heap[q]?:=by rw [a.block q (by simp;omega) l,Below.heap_alloc _ _ _ k]
 have d:Kept w.heap.size (fun b=>b=q∨v.ownBlock=some b) w w8:=⟨a.os,a.tape,a.output,by have:=a.size;simp at this;omega,fun i j h=>by rw [a.block i (by simp;omega) (fun e=>h (Or.inr e.symm)),Below.heap_alloc _ _ _ j]⟩
 refine ⟨cI (s.trans p),be c fun g u=>ao _ _ _ _ _ ?_,⟨d.os,d.tape,d.output,by simpa using d.size,fun i j h=>(ao _ _ _ _ _ fun e=>h (Or.inl e)).trans (d.block i j h)⟩⟩
 have:=(c.lt g u).1
 omega
theorem qr {w:World} {N q f:Nat} {v:Value}:Kept N (fun b=>b=q) w (w.setCell ⟨q,f,none⟩ v):=⟨rfl,rfl,rfl,by simp,fun i _ a=>ao _ _ _ _ _ a⟩
theorem BY (k:Nat):eP (k+1)=eP k ++ [(k:Int)]:=by simp [eP,List.range_succ]
theorem tR (k:Nat):aE (eP (k+1))=aE (eP k) ++ [.int .i64 (k:Int)]:=by rw [BY];simp [aE]
theorem ki {w:World} {base e size n g:Nat} {v:Value} {d:List Value} (h:w.ownsRow base e size v n d) (b:v.ownBlock=some g):∃ a,w.heap[g]?=some (.cells a e (0,0)):=by
 rcases h.2 with ⟨rfl,-⟩ | ⟨g',cap,a,rfl,-,c,-⟩
 ·cases b
 simp only [Value.ownBlock,Option.some.injEq] at b;exact ⟨a,b ▸ c⟩
def jX (zz:List CsL):List Value:=zz.map fun x=>.slice x.A x.L.length x.c
def fP (w:World) (base:Nat) (v:Value) (zz:List CsL):Prop:=w.ownsRow base 33 1 v zz.length (jX zz)∧∀ x∈zz,w.ownsRow base 40 2 (.slice x.A x.L.length x.c) x.L.length (bw x.L)
theorem fP.nil (w:World) (base:Nat):fP w base (.slice none 0 0) []:=⟨⟨rfl,Or.inl ⟨rfl,rfl⟩⟩,fun x a=>by cases a⟩
theorem fP.keep {w w':World} {base:Nat} {v:Value} {f:List CsL} (h:fP w base v f) (e:∀ g cs T,base≤g→w.heap[g]?=some (.cells cs T (0,0))→(T=33∨T=40)→w'.heap[g]?=w.heap[g]?):fP w' base v f :=
 ⟨be h.1 fun g b=>by
  obtain ⟨a,c⟩:=ki h.1 b;exact e g a _ (h.1.lt g b).1 c (Or.inl rfl),fun x d=>be (h.2 x d) fun g b=>by
  obtain ⟨a,c⟩:=ki (h.2 x d) b;exact e g a _ ((h.2 x d).lt g b).1 c (Or.inr rfl)⟩
theorem tp:(30:Nat)≠33:=by decide
theorem gb:(30:Nat)≠40:=by decide
theorem nN:(3:Nat)≠33:=by decide
theorem v7:(3:Nat)≠40:=by decide
theorem tw:(3:Nat)≠30:=by decide
theorem jS {w:World} {a b T U:Nat} {cs c:Array Value} {fr gr:Nat×Nat} (h:w.heap[a]?=some (.cells cs T fr)) (k:w.heap[b]?=some (.cells c U gr)) (d:T≠U):a≠b:=fun e=>by
 rw [e,k] at h;simp only [Option.some.injEq,Obj.cells.injEq] at h;exact d h.2.1.symm
theorem fP.other {w w':World} {base b2 q size n:Nat} {v u:Value} {i:List CsL} {k:Array Value} {o:List Value} (h:fP w base v i) (f:w.heap[q]?=some (.cells k 30 (0,0))) (m:w.ownsRow b2 3 size u n o) (l:Kept w.heap.size (fun b=>b=q∨u.ownBlock=some b) w w'):fP w' base v i :=
 h.keep fun g cs T p c e=>l.block g (zY c).1 fun d=>by
  rcases d with rfl | d
  ·rcases e with rfl | rfl
   ·exact jS f c tp rfl
   exact jS f c gb rfl
  obtain ⟨j,a⟩:=ki m d
  rcases e with rfl | rfl
  ·exact jS a c nN rfl
  exact jS a c v7 rfl
theorem fP.later {w w':World} {base:Nat} {v:Value} {a:List CsL} (h:fP w base v a) (b:Bl w w'):fP w' base v a :=
 h.keep fun g _ _ _ c _=>b.block g (zY c).1
theorem fP.push {w w':World} {base q:Nat} {v v':Value} {i:List CsL} {n:Array Value} {x:CsL} (h:fP w base v i) (r:w.heap[q]?=some (.cells n 30 (0,0))) (s:w.ownsRow base 40 2 (.slice x.A x.L.length x.c) x.L.length (bw x.L))
  (e:w'.ownsRow base 33 1 v' (i.length+1) (jX i ++ [.slice x.A x.L.length x.c])) (p:Kept w.heap.size (fun b=>b=q∨v.ownBlock=some b) w w'):fP w' base v' (i ++ [x]):=by
 have f:∀ y:CsL,w.ownsRow base 40 2 (.slice y.A y.L.length y.c) y.L.length (bw y.L)→w'.ownsRow base 40 2 (.slice y.A y.L.length y.c) y.L.length (bw y.L):=fun y a=>be a fun g o=>by
  obtain ⟨m,j⟩:=ki a o;refine p.block g (zY j).1 fun k=>?_
  rcases k with rfl | k
  ·exact jS r j gb rfl
  obtain ⟨l,d⟩:=ki h.1 k;exact jS j d ng rfl
 refine ⟨by simpa [jX] using e,fun y a=>?_⟩
 rcases List.mem_append.1 a with a | a
 ·exact f y (h.2 y a)
 rw [List.mem_singleton.1 a];exact f x s
theorem zE {a:List CsL} {k:Nat} (h:k<a.length):(jX a)[k]?=some (.slice (a.getD k noCs).A (a.getD k noCs).L.length (a.getD k noCs).c):=by
 simp [jX,List.getD,h]
theorem fP.css {w:World} {base:Nat} {v:Value} {a:List CsL} (h:fP w base v a):∃ A c,v=.slice A a.length c∧eQ w A c a:=by
 obtain ⟨i,m⟩:=h
 rcases i.2 with ⟨rfl,l⟩ | ⟨g,cap,j,rfl,s,p,o,q,r⟩
 ·have:a=[]:=List.eq_nil_of_length_eq_zero l
  subst this;exact ⟨none,0,rfl,eQ.nil _ _ _ (by omega)⟩
 refine ⟨_,cap,rfl,o,by unfold maxLen at q;omega,Or.inr ⟨g,0,rfl,(zY p).1,fun k f=>⟨?_,?_⟩⟩⟩
 ·have y:=i.cells (g:=g) rfl k _ (zE f)
  have b:(⟨g,0,none⟩:Addr).add k=⟨g,k,none⟩:=by unfold Addr.add;split <;> simp_all
  rw [b] at y;rw [Nat.zero_add];exact y
 have d:a.getD k noCs∈a:=by
  rw [zZ,zX f];exact List.getElem_mem f
 obtain ⟨A,c,e,n⟩:=rq (m _ d);cases e;exact n
theorem yL (a:List CsL) (x:CsL):lZ (a ++ [x])=lZ a ++ [x.L]:=by simp [lZ]
theorem xH (A0:Option Addr) (cap n:Nat) (D:Nat→Dm) (A:Nat→Option Addr) (C:Nat→Nat) (Ae:Option Addr) (o:Nat) (d:List EnL) (Ap:Option Addr) (l:Nat) (L:List Int) (vc:Value) (w:World) (x:InO D n L) (y:bd w A0 cap n D A C) (s:aO w Ap l L) (B:d.length≤3000) (u:ii w Ae o d) (z:sA d L) (G:byTo D L n<0) :
  Rt 22 #[.agg #[.slice A0 n cap],.slice Ae d.length o,.slice Ap L.length l,vc] w (.agg #[.int .i64 (getE (lE d) L).1,.int .i64 (getE (lE d) L).2]):=by
 have a:byTo D L n = -1:=by
  rcases by_in D L n with h | ⟨b,h1,_⟩
  ·exact h
  omega
 obtain ⟨W,p⟩:=ax ((w.alloc (.cells #[.slice A0 n cap] 24)).alloc (.cells #[.int .i64 0,.int .i64 0] 40));have f:Hid (Bl w W):=by show Bl w W;rw [←p];go_grown
 have E:Hid (W.heap[w.heap.size+1]?=some (.cells #[.int .i64 0,.int .i64 0] 40 (0,0))):=by show _=_;rw [←p];exact jR _ _ _
 have r:W.heap[w.heap.size]?=some (.cells #[.slice A0 n cap] 24 (0,0)):=by rw [←p];exact pk _ _ _
 have F:W.cell? ⟨w.heap.size,0,none⟩=some (.slice A0 n cap):=by simp [World.cell?,r]
 have H:w.heap.size<W.heap.size:=(zY r).1;have i:=mK A0 cap n D A C Ap l L W x (y.later f.out) (s.later f.out);have k:Hid (∀ w',Bl w w'→Rt 54 #[.slice Ae d.length o,.slice Ap L.length l] w' (.agg #[.int .i64 (getE (lE d) L).1,.int .i64 (getE (lE d) L).2])):=fun w' t=>xh Ae o d Ap l L w' B (u.later t) z (s.later t)
 rw [a] at i;generalize getE (lE d) L=c at k ⊢;clear x y s u z G a B r
 go_enter Tryz.func22,Tryz.ntmps22
 go_wp2_with fail;refine i.mono ?_;rintro e w1 ⟨rfl,a⟩;have j:=aa a;have m:=k.out w1 (ae f.out a);clear a i F p;go_wp2_with fail;refine m.mono ?_;rintro e w2 ⟨rfl,g⟩;obtain ⟨K,I,J,rf0,rf1⟩:=jW E.out (ae j.out g);have q:=aa (ae f.out (ae j.out g));clear g m;go_wp2_with fail;refine bodyPost_ret (v:=.agg #[.int .i64 c.1,.int .i64 c.2]) (by simp [results,Tryz.results22,go_sem,I,J]) rfl ⟨rfl,?_⟩
 exact (q.out.setCell (Nat.le_succ _) _).setCell (Nat.le_succ _) _
def rg (w:World) (A0:Option Addr) (cap n qd:Nat) (d:Dm) (Am:Option Addr) (cm:Nat) (w1:World):Prop:=Bl w w1∧mT w1 w.heap.size (.slice A0 n cap)∧w1.heap[w.heap.size+1]?=some (.cells #[.int .i64 0,.int .i64 0] 40 (0,0))∧q7 w1 qd d Am cm
theorem rg.later {w w1 w2:World} {A0 Am:Option Addr} {cap n c b:Nat} {d:Dm} (h:rg w A0 cap n c d Am b w1) (a:Bl w1 w2):rg w A0 cap n c d Am b w2:=⟨ae h.1 a,h.2.1.later a,(a.block _ (zY h.2.2.1).1).trans h.2.2.1,h.2.2.2.later a⟩
theorem rg.grown {w w1 w2:World} {A0 Am:Option Addr} {cap n b c g:Nat} {d:Dm} (h:rg w A0 cap n b d Am c w1) (a:w1.grownBy w2 (some g)) (k:w.heap.size+1<g) (f:b≠g):rg w A0 cap n b d Am c w2 :=
 ⟨h.1.grown a h.1.size (fun j i=>by cases i;omega),nf h.2.1 (by omega) a,(a.block _ (zY h.2.2.1).1 (fun e=>by simp at e;omega)).trans h.2.2.1,vf h.2.2.2 f a⟩
theorem yT {D:Nat→Dm} {n b:Nat} {L:List Int} (h:InO D n L) (c:b<n) {j:Nat} (f:j<(D b).n):∃ y:Nat,numI D (L.set b j) n=(y:Int)∧y<prodN D n∧InO D n (L.set b j):=by
 have a:=fI h c (x:=(j:Int)) (by omega) (by omega)
 obtain ⟨d,e,-⟩:=bJ a (Nat.le_refl n);exact ⟨(numI D (L.set b j) n).toNat,by omega,by omega,a⟩
theorem pA (Ar:Option Addr) (R cr:Nat) (Ac:Option Addr) (K cc:Nat) (Ag:Option Addr) (P:Nat) (a:List CsL) (w:World) (hn:a.length≤1048576) (hx:∀ x∈a,x.L.length≤1048576) (hZ:eQ w Ag P a) :
  Rt 12 #[.agg #[.slice Ar R cr,.slice Ac K cc,.slice Ag a.length P]] w (.int .i64 (bI R K (lZ a))):=by
 have y:=oB w (.slice Ar R cr) (.slice Ac K cc) (.slice Ag a.length P);have hb:=mF w (.slice Ar R cr) (.slice Ac K cc) (.slice Ag a.length P);obtain ⟨W,hW⟩:=ax (iY w (.slice Ar R cr) (.slice Ac K cc) (.slice Ag a.length P));rw [hW] at y hb;unfold iY at hW;have hq:w.heap.size<W.heap.size:=(zY hb).1;have Z:Hid (∀ w',Bl W w'→w'.cell? ⟨w.heap.size,0,none⟩=some (.slice Ar R cr)∧w'.cell? ⟨w.heap.size,1,none⟩=some (.slice Ac K cc)∧w'.cell? ⟨w.heap.size,2,none⟩=some (.slice Ag a.length P)∧w.heap.size<w'.heap.size):=fun w' h=>by
  obtain ⟨x0,x1,x2,-,-,-⟩:=de ((h.block _ hq).trans hb);exact ⟨x0,x1,x2,zW hq h.size⟩
 have t:=aa y;have HZ:=aa (hZ.later y);have HX:=aa hx;have HA:=aa (rB a fun L=>decide (L.length≠K))
 have HL:=aa (eb a);obtain ⟨k0,k1,k2,-⟩:=Z.out W (zS);obtain ⟨N,hN⟩:=ax a.length;rw [hN] at hW k2 hn Z ⊢;have E:=aa hN;have hNI:(N:Int)≤1048576:=by omega
 clear hx hZ y hb hN
 by_cases Q:N=R
 case neg =>
  have t1:((N:Int) != (R:Int))=true:=by simp;omega
  have HE:Hid (bI R K (lZ a)=3):=nH (by rw [HL.out,E.out];exact Q)
  clear Q
  go_enter Tryz.func12,Tryz.ntmps12
  go_wp2_with fail;go_ret;exact ⟨by rw [HE.out];rfl,t.out⟩
 have Lt:Hid ((lZ a).length=R):=by show _=_;rw [HL.out,E.out];exact Q
 have t1:((N:Int) != (R:Int))=false:=by simp [Q]
 have g:Hid (∀ k,k<N→(a.getD k noCs).L.length≠K→bI R K (lZ a)=3):=fun k hk h=>nI Lt.out (by
  rw [HA.out];exact List.any_eq_true.2 ⟨_,kp (by rw [E.out];exact hk),by simpa using h⟩)
 have Y:Hid ((∀ k,k<N→(a.getD k noCs).L.length=K)→bI R K (lZ a)=if (lZ a).any im=true then 1 else 0):=fun h=>nG Lt.out (by
  rw [HA.out];refine List.any_eq_false.2 fun z hz=>?_
  obtain ⟨i,d,rfl⟩:=List.getElem_of_mem hz;have:=h i (by rw [←E.out];exact d)
  rw [zZ,zX d,Option.getD_some] at this
  simp [this])
 have X:=aa (rB a im);clear Q
 go_enter Tryz.func12,Tryz.ntmps12
 go_wp2_with fail
 go_loopg [3] N (fun gg s3 wr => ∃ (k:Nat),k≤N∧gg=N-k∧s3=.int .i64 k∧Hid (∀ i,i<k→(a.getD i noCs).L.length=K)∧Hid (Bl W wr))
 case atStart=>exact ⟨0,zU,rfl,rfl,aa fun i d=>absurd d (Nat.not_lt_zero _),aa (zS)⟩
 case round =>
  obtain ⟨k,hk,rfl,rfl,F,V⟩:=hrel;obtain ⟨p0,p1,p2,p3⟩:=Z.out wr V.out
  by_cases hlt:k<N
  ·have C:k<a.length:=by rw [E.out];exact hlt
   have hki:(k:Int)<(N:Int):=by omega
   obtain ⟨hcg,-,h0 | ⟨b,o,rfl,hbl,hcl⟩⟩:=HZ.out.later V.out
   ·rw [h0] at C;simp at C
   obtain ⟨e1,-⟩:=hcl k C;have hxm:=HX.out _ (kp C);have u:=aa (g.out k hlt);have f:Hid ((a.getD k noCs).L.length=K→∀ i,i<k+1→(a.getD i noCs).L.length=K):=fun h i d=>by
    by_cases e:i=k
    ·subst e;exact h
    exact F.out i (by omega)
   generalize (a.getD k noCs).L.length=m at e1 u f hxm;have hNg:(N:Int)≤(P:Int):=by have:=E.out;omega
   clear hcl F
   by_cases D:m=K
   ·have t2:((m:Int) != (K:Int))=false:=by simp [D]
    have O:=aa (f.out D);clear D f u;go_wp2_with fail
    go_quiet (fail)
    go_wp2_with fail
    go_roundg (N-(k+1))
    case measure=>omega
    case rel=>exact ⟨k+1,by omega,rfl,by go_num,O,aa (ac V.out _)⟩
   have t2:((m:Int) != (K:Int))=true:=by simp;omega
   have q:=aa (u.out D);clear D f u;go_wp2_with fail
   go_quiet (fail)
   go_wp2_with fail;go_ret;exact ⟨by rw [q.out];rfl,ac (ae t.out V.out) _⟩
  have hke:k=N:=by omega
  have HE:=aa (Y.out fun i d=>F.out i (by omega))
  subst hke;obtain ⟨w1,hw1⟩:∃ w1:World,w1=wr:=⟨_,rfl⟩;rw [←hw1] at V p0 p1 p2 p3;clear F Y g;subst hw1;go_wp2_with fail
  go_loopg [4] k (fun gg s4 wi => ∃ (j:Nat),j≤k∧gg=k-j∧s4=.int .i64 j∧Hid (∀ i,i<j→im (a.getD i noCs).L=false)∧Hid (Bl W wi))
  case atStart=>exact ⟨0,zU,rfl,rfl,aa fun i d=>absurd d (Nat.not_lt_zero _),V⟩
  case round =>
   obtain ⟨j,hj,rfl,rfl,F,H⟩:=hrel;obtain ⟨p0,p1,p2,p3⟩:=Z.out wr H.out
   by_cases hjl:j<k
   ·have s:j<a.length:=by rw [E.out];exact hjl
    have hji:(j:Int)<(k:Int):=by omega
    have U:=HX.out _ (kp s);have g:=aa fun (h:im (a.getD j noCs).L=true)=>(HE.out.trans (if_pos (X.out.trans (List.any_eq_true.2 ⟨_,kp s,h⟩))))
    have f:Hid (im (a.getD j noCs).L=false→∀ i,i<j+1→im (a.getD i noCs).L=false):=fun h i d=>by
     by_cases e:i=j
     ·subst e;exact h
     exact F.out i (by omega)
    have v:Hid (∀ w',Bl W w'→∃ b o,Ag=some ⟨b,o,none⟩∧b<w'.heap.size∧w'.cell? ⟨b,o+j,none⟩=some (.slice (a.getD j noCs).A (a.getD j noCs).L.length (a.getD j noCs).c)∧dt w' (a.getD j noCs).A (a.getD j noCs).c (a.getD j noCs).L):=fun w' h=>by
     obtain ⟨-,-,h0 | ⟨b,o,Q,h2,h3⟩⟩:=HZ.out.later h
     ·rw [h0] at s;simp at s
     exact ⟨b,o,Q,h2,h3 j s⟩
    generalize a.getD j noCs=x at U g f v;obtain ⟨l,xA,xc⟩:=x;simp only at U g f v;obtain ⟨m,D⟩:=ax l.length;have M:=aa D;rw [D] at U v;have hmI:(m:Int)≤1048576:=by omega
    clear D F;go_wp2_with fail
    go_loopg [5] m (fun gg s5 wi => ∃ (c:Nat),c≤m∧gg=m-c∧s5=.int .i64 c∧Hid (∀ i,i<c→good (l.getD i noC).1 (l.getD i noC).2=true)∧Hid (Bl W wi))
    case atStart=>exact ⟨0,zU,rfl,rfl,aa fun i d=>absurd d (Nat.not_lt_zero _),H⟩
    case round =>
     obtain ⟨c,hc,rfl,rfl,HG,p⟩:=hrel;obtain ⟨p0,p1,p2,p3⟩:=Z.out wr p.out;obtain ⟨b,o,rfl,hbl,e1,hv⟩:=v.out wr p.out
     by_cases hct2:c<m
     ·have B:c<l.length:=by rw [M.out];exact hct2
      have hci:(c:Int)<(m:Int):=by omega
      obtain ⟨hv1,hv2,h0 | ⟨b2,o2,rfl,S⟩⟩:=hv
      ·rw [h0] at B;simp at B
      obtain ⟨x0,x1⟩:=S.2 c B;have r:=S.1;have G:=ku B;have n:Hid (good (l.getD c noC).1 (l.getD c noC).2=false→bI R K (lZ a)=1):=fun h=>g.out (List.any_eq_true.2 ⟨_,G,by rw [h];rfl⟩)
      have I:Hid (good (l.getD c noC).1 (l.getD c noC).2=true→∀ i,i<c+1→good (l.getD i noC).1 (l.getD i noC).2=true):=fun h i d=>by
       by_cases e:i=c
       ·subst e;exact h
       exact HG.out i (by omega)
      have hmc:(m:Int)≤(xc:Int):=by have:=M.out;omega
      generalize (l.getD c noC).1=va at x0 n I;generalize (l.getD c noC).2=vb at x1 n I;clear S G HG;cases hg:good va vb with
      | true =>
       have T:=BL va vb wr hg;have J:=aa (I.out hg);clear hg;go_wp2_with fail;refine T.mono ?_;rintro e w2 ⟨rfl,r⟩;have HB2:=aa (ae p.out r);clear r;go_wp2_with fail
       go_roundg (m-(c+1))
       case measure=>omega
       case rel=>exact ⟨c+1,by omega,rfl,by go_num,J,HB2⟩
      | false =>
       have T:=EX va vb wr hg;have q:=aa (n.out hg);clear hg;go_wp2_with fail;refine T.mono ?_;rintro e w2 ⟨rfl,r⟩;go_wp2_with fail;go_ret;exact ⟨by rw [q.out];rfl,ae (ae t.out p.out) r⟩
     have hce:c=m:=by omega
     have J:Hid (im l=false):=List.any_eq_false.2 fun z hz=>by
      obtain ⟨i,d,rfl⟩:=List.getElem_of_mem hz;have:=HG.out i (by rw [hce,←M.out];exact d)
      rw [zZ,zX d,Option.getD_some] at this;rw [this]
      decide
     have O:=aa (f.out J.out);subst hce;clear HG hv;go_wp2_with fail
     go_roundg (k-(j+1))
     case measure=>omega
     case rel=>exact ⟨j+1,by omega,rfl,by go_num,O,p⟩
   have hje:j=k:=by omega
   have q:Hid (bI R K (lZ a)=0):=HE.out.trans (if_neg (by
    rw [X.out,Bool.not_eq_true];refine List.any_eq_false.2 fun z hz=>?_
    obtain ⟨i,d,rfl⟩:=List.getElem_of_mem hz;have:=F.out i (by rw [hje,←E.out];exact d)
    rw [zZ,zX d,Option.getD_some] at this;rw [this]
    decide))
   subst hje;go_wp2_with fail;go_ret;exact ⟨by rw [q.out];rfl,ae t.out H.out⟩
end Go.Proofs.YthlhjjabkgpenaaGreatDoor
