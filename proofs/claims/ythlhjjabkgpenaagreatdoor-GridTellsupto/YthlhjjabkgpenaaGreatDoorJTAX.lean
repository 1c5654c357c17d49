/- What reach of package -/
import Derived.Test.YthlhjjabkgpenaaGreatDoorJTAR
namespace Go.Proofs.YthlhjjabkgpenaaGreatDoor
open ChangeShapes WideShapes ChangeAt RowKit
set_option maxRecDepth 99999
set_option maxHeartbeats 0
def kq (N:List (List Int)) (i:Nat) (L:List Int) (k:Nat):Prop:=L.Nodup∧(∀ x∈L,Rch N i x)∧(∀ x∈N.getD i [],x∈L)∧∀ j,j<k→∀ y∈e8 N (L.getD j 0),y∈L
theorem xi {N:List (List Int)} {i:Nat} (h:(N.getD i []).Nodup):kq N i (N.getD i []) 0 :=
 ⟨h,fun x b=>.one (by unfold e8;simpa using b),fun _ h=>h,fun j a=>absurd a (Nat.not_lt_zero _)⟩
theorem zd {N:List (List Int)} {i:Nat} {L:List Int} {k:Nat} (h:kq N i L k) (a:mw N) (c:i<N.length):∀ x∈L,0≤x∧x<(N.length:Int):=fun x b=>(h.2.1 x b).inn a (by omega) (by omega)
theorem uC {N:List (List Int)} {i:Nat} {L:List Int} {k:Nat} (h:kq N i L k) (a:mw N) (b:i<N.length):L.length≤N.length:=few _ _ h.1 (zd h a b)
theorem E6 {N:List (List Int)} {i:Nat} {L:List Int} (h:kq N i L L.length):∀ x,x∈L↔Rch N i x:=fun x=>by
 refine ⟨h.2.1 x,fun c=>c.closed (S:=fun y=>y∈L) (fun y a=>h.2.2.1 y (by unfold e8 at a;simpa using a)) fun y a z d=>?_⟩
 obtain ⟨j,b,rfl⟩:=List.getElem_of_mem a;refine h.2.2.2 j b z ?_;rw [zZ,zX b];exact d
theorem ti {L T:List Int} {j:Nat} (h:j<L.length):(L ++ T).getD j 0=L.getD j 0:=by
 rw [zZ,zZ,List.getElem?_append_left h]
theorem E7 {N:List (List Int)} {i:Nat} {L:List Int} {k:Nat} {x:Int} (h:kq N i L k) (n:k≤L.length) (m:x∉L) (l:Rch N i x):kq N i (L ++ [x]) k:=by
 refine ⟨?_,fun y c=>?_,fun y c=>List.mem_append_left _ (h.2.2.1 y c),fun j g y c=>?_⟩
 ·rw [List.nodup_append]
  refine ⟨h.1,by simp,fun a d b f e=>?_⟩
  rw [List.mem_singleton.1 f] at e;exact m (e ▸ d)
 ·rcases List.mem_append.1 c with c | c
  ·exact h.2.1 y c
  rw [List.mem_singleton.1 c];exact l
 rw [ti (by omega)] at c
 exact List.mem_append_left _ (h.2.2.2 j g y c)
theorem BX {N:List (List Int)} {i:Nat} {L:List Int} {k:Nat} (h:kq N i L k) (b:∀ y∈e8 N (L.getD k 0),y∈L):kq N i L (k+1) :=
 ⟨h.1,h.2.1,h.2.2.1,fun j c y a=>by
  by_cases e:j=k
  ·rw [e] at a;exact b y a
  exact h.2.2.2 j (by omega) y a⟩
theorem gA {L:List Int} {j:Nat} (h:j<L.length):L.getD j 0∈L:=by
 rw [zZ,zX h];exact List.getElem_mem h
theorem uP (A:Option Addr) (cap:Nat) (a:List RL) (i:Nat) (w:World) (hn:a.length≤12) (O:i<a.length) (hN:mw (lR a)) (hnd:∀ x∈a,x.p.Nodup∧x.p.length≤12) (hR:cT w A cap a) :
  Calls Tryz.prog 165 #[.slice A a.length cap,.int .i64 i] w fun e w'=>(∃ A' c' L,e=.returned (.slice A' L.length c')∧bU w' A' c' L∧L.length≤12∧∀ x,x∈L↔Rch (lR a) i x)∧Bl w w':=by
 obtain ⟨i0,hi0,hz0,hz1,hz2⟩:=info_parts Tryz.infoInt;have HR:=aa hR;have HNd:=aa hnd;have V:=aa hN;have f:Hid ((lR a).length=a.length):=nO a;obtain ⟨hcap,h0 | ⟨b,rfl,hbw,q⟩,u⟩:=hR
 ·rw [h0] at O;simp at O
 have M:=q i O;have hri:=u _ (iG O);have hni:=hnd _ (iG O);have HC:=aa q;have HRw:=aa u;have HSt:Hid (kq (lR a) i (a.getD i ew).p 0):=by
  have h:=xi (N:=lR a) (i:=i) (by rw [qt];exact hni.1)
  rw [qt] at h;exact h
 have l:=vS (a.getD i ew).A (a.getD i ew).c (a.getD i ew).p w hni.2 hri;obtain ⟨n,hnn⟩:=ax a.length;have H:=aa hnn;rw [hnn] at hn O hcap ⊢;have hii:(i:Int)<(n:Int):=by omega
 have hnI:(n:Int)≤12:=by omega
 obtain ⟨pi,hpi⟩:=ax ((a.getD i ew).p);rw [hpi] at M l HSt;generalize (a.getD i ew).A=Ai at M l;generalize (a.getD i ew).c=ci at M l;clear q u hnd hN hri hni hpi hnn
 go_enter Tryz.func165,Tryz.ntmps165
 go_wp2_with fail;refine l.mono ?_;rintro e w1 ⟨⟨v1,rfl,hO1⟩,hb1⟩;have HO1:=aa hO1;have HB1:=aa hb1;clear hO1 hb1 l M;go_wp2_with fail
 go_loopg [5,6] n (fun g s5 s6 wr => ∃ (k:Nat) (L:List Int),k≤L.length∧g=n-k∧s6=.int .i64 k∧Hid (kq (lR a) i L k)∧wr.ownsRow w.heap.size 3 1 s5 L.length (aE L)∧Bl w wr)
 case atStart=>exact ⟨0,pi,zU,rfl,rfl,HSt,HO1.out,HB1.out⟩
 case round =>
  obtain ⟨k,L,hk,rfl,rfl,HI,d,J⟩:=hrel;have HBw:=aa J;have HO:=aa d;have hLn:L.length≤n:=by rw [←H.out,←f.out];exact uC HI.out V.out (by rw [f.out,H.out];exact O)
  obtain ⟨AL,cL,rfl,Lu⟩:=cE d;obtain ⟨m,hm⟩:=ax L.length;have Q:=aa hm;have hmI:(m:Int)≤12:=by omega
  rw [hm] at hk hLn;rw [hm]
  by_cases hlt:k<m
  ·have hki:(k:Int)<(m:Int):=by omega
   obtain ⟨hcL,-,hL0 | ⟨bl,cs,fr,rfl,hbl,l⟩⟩:=Lu
   ·rw [hL0] at hm;simp at hm;omega
   have cx:=l k (by omega)
   have hx:=zd HI.out V.out (by rw [f.out,H.out];exact O) _ (gA (L:=L) (j:=k) (by omega))
   rw [f.out,H.out] at hx;obtain ⟨y,hy⟩:∃ y:Nat,L.getD k 0=(y:Int):=⟨(L.getD k 0).toNat,by omega⟩
   have HY:=aa hy;rw [hy] at cx hx;have hyn:y<n:=by omega
   have hyi:(y:Int)<(n:Int):=by omega
   have cy:=aL J hbw (HC.out y (by rw [H.out];exact hyn))
   have G:Hid (aY w (a.getD y ew).A (a.getD y ew).c (a.getD y ew).p):=HRw.out _ (iG (by rw [H.out];exact hyn))
   have hry:=(HNd.out _ (iG (k:=y) (by rw [H.out];exact hyn))).2
   have B:Hid (e8 (lR a) (L.getD k 0)=(a.getD y ew).p):=by
    show _=_
    rw [hy];unfold e8;rw [Int.toNat_natCast,qt]
   have HRk:Hid (Rch (lR a) i (L.getD k 0)):=HI.out.2.1 _ (gA (by omega))
   obtain ⟨R,hRe⟩:=ax ((a.getD y ew).p);rw [hRe] at cy G hry B;generalize (a.getD y ew).A=Ay at cy G;generalize (a.getD y ew).c=cy' at cy G;obtain ⟨r,hr⟩:=ax R.length;have z:=aa hr;rw [hr] at cy hry;have hrI:(r:Int)≤12:=by omega
   have hblt:bl<wr.heap.size:=(zY hbl).1;clear l hx d J hbl hy hRe hr hm;go_wp2_with fail
   go_loopg [5,28] r (fun gg s5 s28 wi => ∃ (j:Nat) (K:List Int),j≤r∧gg=r-j∧s28=.int .i64 j∧Hid (kq (lR a) i K k∧(∃ T,K=L ++ T)∧∀ t,t<j→R.getD t 0∈K)∧wi.ownsRow w.heap.size 3 1 s5 K.length (aE K)∧Bl w wi)
   case atStart=>exact ⟨0,L,zU,rfl,rfl,(⟨HI.out,⟨[],by simp⟩,fun t ht=>absurd ht (Nat.not_lt_zero _)⟩:_∧_∧_),by have h:=HO.out;rw [Q.out] at h;rw [Q.out];exact h,HBw.out⟩
   case round =>
    obtain ⟨wj,rfl⟩:∃ wj:World,wj=wr:=⟨_,rfl⟩;obtain ⟨j,K,hj,rfl,rfl,HK,d,I⟩:=hrel;have U:=aa I;have X:=aa d;have hKn:K.length≤n:=by rw [←H.out,←f.out];exact uC HK.out.1 V.out (by rw [f.out,H.out];exact O)
    obtain ⟨AK,cK,rfl,Lt⟩:=cE d
    by_cases hjl:j<r
    ·have hji:(j:Int)<(r:Int):=by omega
     obtain ⟨hcR,-,hR0 | ⟨br,csr,frr,rfl,hbr,hcr⟩⟩:=G.out.later I
     ·have:=z.out;rw [hR0] at this;simp at this;omega
     have cz:=hcr j (by rw [z.out];exact hjl)
     have hbrl:br<wj.heap.size:=(zY hbr).1;rw [z.out] at hcR;have hcRi:(r:Int)≤(cy':Int):=by omega
     obtain ⟨x,hx⟩:=ax (R.getD j 0);have Y:=aa hx;rw [hx] at cz;have s:=jI AK cK K x wj (by omega) Lt.at
     obtain ⟨mk,P⟩:=ax K.length;have E:=aa P;have HKn:Hid (mk≤n):=by show _≤_;omega
     rw [P] at s hKn;rw [P];clear hcr hbr d I Lt hx P
     by_cases v:x∈K
     ·have hb:FJ K x=true:=by unfold FJ;exact decide_eq_true v
      rw [hb] at s;have W:Hid (kq (lR a) i K k∧(∃ T,K=L ++ T)∧∀ t,t<j+1→R.getD t 0∈K):=⟨HK.out.1,HK.out.2.1,fun t ht=>by
       by_cases e:t=j
       ·rw [e,Y.out];exact v
       exact HK.out.2.2 t (by omega)⟩
      clear hb v;go_wp2_with fail;refine s.mono ?_;rintro e w2 ⟨rfl,o⟩;have S:=aa (ae U.out o);have F:Hid (w2.ownsRow w.heap.size 3 1 (.slice AK mk cK) K.length (aE K)):=by have h:=ar X.out o;rw [E.out] at h;show World.ownsRow ..;rw [E.out];exact h
      clear o s;go_wp2_with fail
      go_roundg (r-(j+1))
      case measure=>omega
      case rel=>exact ⟨j+1,K,by omega,rfl,by go_num,W,F.out,S.out⟩
     have hb:FJ K x=false:=by unfold FJ;exact decide_eq_false v
     rw [hb] at s;have W:Hid (kq (lR a) i (K ++ [x]) k∧(∃ T,K ++ [x]=L ++ T)∧∀ t,t<j+1→R.getD t 0∈K ++ [x]):=by
      obtain ⟨hI,⟨T,hT⟩,hA⟩:=HK.out;refine ⟨E7 hI ?_ v ?_,⟨T ++ [x],by rw [hT,List.append_assoc]⟩,fun t ht=>?_⟩
      ·rw [hT,List.length_append,Q.out];omega
      ·refine HRk.out.snoc ?_
       rw [B.out,←Y.out];exact gA (by rw [z.out];exact hjl)
      by_cases e:t=j
      ·rw [e,Y.out];simp
      exact List.mem_append_left _ (hA t (by omega))
     clear hb v;go_wp2_with fail;refine s.mono ?_;rintro e w2 ⟨rfl,o⟩;have Z:Bl w w2:=ae U.out o;have S:=aa Z;have F:Hid (w2.ownsRow w.heap.size 3 1 (.slice AK mk cK) mk (aE K)):=by have h:=ar X.out o;rw [E.out] at h;exact h
     have hsz:=Z.size;clear o s Z
     go_wp2_with (at_builtin;refine wpList_append_own _ rfl _ _ 26 rfl w.heap.size 3 i0 (.int .i64 0) 1 8 Tryz.underlying26 hi0 hz0 hz1 hz2 rfl (by decide) _ _ _ rfl (F.out.alloc _) ⟨w2.heap.size,0,none⟩ 1 1 [.int .i64 x] rfl rfl bu dY (by have:=HKn.out;unfold maxLen;omega) (by have:=HKn.out;omega) (by simp;omega) ?_)
     intro v' w3 D C _;have HB3:Hid (Bl w w3):=bA S.out F.out C;have HO3:Hid (w3.ownsRow w.heap.size 3 1 v' (K ++ [x]).length (aE (K ++ [x]))):=by
      show World.ownsRow ..
      rw [mapI_snoc,List.length_append,E.out];exact D
     clear D C;go_wp2_with fail
     go_roundg (r-(j+1))
     case measure=>omega
     case rel=>exact ⟨j+1,K ++ [x],by omega,rfl,by go_num,W,HO3.out,HB3.out⟩
    have hje:j=r:=by omega
    subst hje;have HI2:Hid (k+1≤K.length∧kq (lR a) i K (k+1)):=by
     obtain ⟨hI,⟨T,hT⟩,hA⟩:=HK.out;refine ⟨by rw [hT,List.length_append,Q.out];omega,BX hI fun y' hy'=>?_⟩
     rw [hT,ti (by rw [Q.out];exact hlt),B.out] at hy'
     obtain ⟨t,ht,rfl⟩:=List.getElem_of_mem hy';have h:=hA t (by rw [←z.out];exact ht)
     rw [zZ,zX ht] at h;exact h
    clear d I Lt hKn;go_wp2_with fail
    go_roundg (n-(k+1))
    case measure=>omega
    case rel=>exact ⟨k+1,K,HI2.out.1,rfl,by go_num,HI2.out.2,X.out,U.out⟩
  have hke:k=m:=by omega
  subst hke;have HEnd:Hid (∀ x,x∈L↔Rch (lR a) i x):=E6 (by rw [Q.out];exact HI.out)
  have HIL:=aa Lu.at;clear d J Lu hm;go_wp2_with fail;go_ret;exact ⟨⟨AL,cL,L,by rw [Q.out];rfl,HIL.out,by rw [Q.out];omega,HEnd.out⟩,HBw.out⟩
def eN (N:List (List Int)) (out:List Int) (j:Nat):Nat:=((N.getD j []).filter fun x => !(out.contains x)).length
def bL (N:List (List Int)) (m n:Nat):List Int:=selTo (fun j=>(N.getD j []).contains (m:Int)) n
theorem k6 {N:List (List Int)} {m n:Nat} {x:Int}:x∈bL N m n↔∃ j:Nat,x=j∧j<n∧(m:Int)∈N.getD j []:=by
 unfold bL
 constructor
 ·intro h
  obtain ⟨j,c,a,b⟩:=dE x h;exact ⟨j,c,a,List.contains_iff_mem.1 b⟩
 rintro ⟨j,rfl,a,b⟩;exact mM a (List.contains_iff_mem.2 b)
theorem Fy (N:List (List Int)) (m n:Nat):(bL N m n).Pairwise (· < ·):=g9 _ _
theorem tU {N:List (List Int)} {out:List Int} {j:Nat}:eN N out j=0↔∀ x∈N.getD j [],x∈out:=by
 unfold eN;rw [List.length_eq_zero_iff,List.filter_eq_nil_iff];refine forall_congr' fun x=>forall_congr' fun _=>?_
 simp
theorem Bd (N:List (List Int)) (j:Nat):eN N [] j=(N.getD j []).length:=by
 unfold eN;rw [List.filter_eq_self.2 fun x _=>by simp]
theorem Ic (N:List (List Int)) (out:List Int) (j:Nat):eN N out j≤(N.getD j []).length:=List.length_filter_le _ _
theorem tg:∀ (L out:List Int) (m:Int),L.Pairwise (· < ·)→m∉out→(L.filter fun x => !(out.contains x)).length=(L.filter fun x => !((out ++ [m]).contains x)).length+(if m∈L then 1 else 0)
 | [],_,_,_,_=>rfl
 | a :: L,out,m,hL,hm=>by
  obtain ⟨i,j⟩:=List.pairwise_cons.1 hL;have f:=tg L out m j hm;have d:∀ x,(out ++ [m]).contains x=(out.contains x || x == m):=fun x=>by
   rw [Bool.eq_iff_iff,Bool.or_eq_true,List.contains_iff_mem,List.contains_iff_mem,List.mem_append,List.mem_singleton,beq_iff_eq]
  rw [List.filter_cons,List.filter_cons]
  by_cases b:a=m
  ·subst b
   have l:a∉L:=fun h=>by have:=i a h;omega
   have g:out.contains a=false:=by rw [←Bool.not_eq_true,List.contains_iff_mem];exact hm
   rw [d a,g];rw [if_neg l] at f;simp only [Bool.not_false,if_true,beq_self_eq_true,Bool.or_true,Bool.not_true,Bool.false_eq_true,if_false,List.length_cons,List.mem_cons,true_or]
   omega
  have k:(a == m)=false:=by simpa using b
  have c:(m∈a :: L)↔m∈L:=by
   rw [List.mem_cons];exact ⟨fun h=>h.resolve_left (fun e=>b e.symm),Or.inr⟩
  rw [d a,k,Bool.or_false];cases out.contains a
  ·simp only [Bool.not_false,if_true,List.length_cons,c]
   omega
  simp only [Bool.not_true,Bool.false_eq_true,if_false,c];exact f
theorem kE {N:List (List Int)} {out:List Int} {m j:Nat} (b:(N.getD j []).Pairwise (· < ·)) (a:(m:Int)∉out):eN N out j=eN N (out ++ [(m:Int)]) j+(if (m:Int)∈N.getD j [] then 1 else 0):=tg _ _ _ b a
theorem wK (N:List (List Int)) (k:Nat):∀ j:Nat,(j:Int)∈ay N k→∀ x∈N.getD j [],x∈ay N k:=by
 induction k with
 | zero=>intro j a;cases a
 | succ k ih =>
  intro j a x b;rw [ay,List.mem_append] at a ⊢
  rcases a with a | a
  ·exact Or.inl (ih j a x b)
  split at a
  ·rename_i h
   obtain ⟨m,c,-,d,-⟩:=lz h;rw [List.mem_singleton,c] at a;have:j=m:=by omega
   subst this;exact Or.inl ((fA d).2 x b)
  cases a
def re (N:List (List Int)) (out R:List Int):Prop:=R.Pairwise (· < ·)∧∀ x,x∈R↔∃ j:Nat,x=j∧j<N.length∧rK N out j=true
def kr (N:List (List Int)) (out:List Int) (m i:Nat) (R:List Int):Prop:=R.Pairwise (· < ·)∧∀ x,x∈R↔∃ j:Nat,x=j∧j<N.length∧((rK N out j=true∧j≠m)∨((j:Int)∈(bL N m N.length).take i∧eN N out j=1))
def gB (N:List (List Int)) (out:List Int) (m i j:Nat):Nat:=eN N out j-(if (j:Int)∈(bL N m N.length).take i then 1 else 0)
theorem BN {N:List (List Int)} {R:List Int} (f:R=selTo (fun j=>(N.getD j []).isEmpty) N.length):re N [] R:=by
 subst f;refine ⟨g9 _ _,fun x=>?_⟩
 constructor
 ·intro h
  obtain ⟨j,e,c,b⟩:=dE x h;refine ⟨j,e,c,uc (by simp) fun y d=>?_⟩
  rw [List.isEmpty_iff] at b;rw [b] at d;cases d
 rintro ⟨j,rfl,c,b⟩;refine mM c ?_;rw [List.isEmpty_iff];have:=(fA b).2;cases h:N.getD j [] with
 | nil=>rfl
 | cons a r=>exact absurd (this a (by rw [h];simp)) (by simp)
theorem oK {N:List (List Int)} (t:mw N) (v:∀ i:Nat,i<N.length→cycB N i=false) {k:Nat} (w:k<N.length) {R:List Int} (u:re N (ay N k) R):∃ (m:Nat) (R':List Int),R=(m:Int) :: R'∧m<N.length∧rK N (ay N k) m=true∧ay N (k+1)=ay N k ++ [(m:Int)]∧kr N (ay N k) m 0 R':=by
 obtain ⟨m,-,n,o,r,s⟩:=oy t v w;obtain ⟨y,f⟩:=u;have c:=(f m).2 ⟨m,rfl,n,o⟩;cases R with
 | nil=>cases c
 | cons a R' =>
  obtain ⟨q,z⟩:=List.pairwise_cons.1 y;have g:a=(m:Int):=by
   obtain ⟨j,l,d,b⟩:=(f a).1 (by simp)
   rcases List.mem_cons.1 c with h | h
   ·exact h.symm
   have B:=q _ h;rw [r j (by omega)] at b
   cases b
  subst g;refine ⟨m,R',rfl,n,o,s,z,fun x=>?_⟩
  constructor
  ·intro p
   obtain ⟨j,l,d,b⟩:=(f x).1 (List.mem_cons_of_mem _ p);refine ⟨j,l,d,Or.inl ⟨b,fun e=>?_⟩⟩
   have:=q x p
   omega
  rintro ⟨j,rfl,d,(⟨b,A⟩ | ⟨b,-⟩)⟩
  ·rcases List.mem_cons.1 ((f j).2 ⟨j,rfl,d,b⟩) with h | h
   ·omega
   exact h
  simp at b
theorem GJ {N:List (List Int)} (e:mw N) (g:∀ i:Nat,i<N.length→cycB N i=false) {R:List Int} (f:re N (ay N N.length) R):R=[]:=by
 refine List.eq_nil_iff_forall_not_mem.2 fun x k=>?_
 obtain ⟨j,rfl,l,c⟩:=(f.2 x).1 k;have h:=(fA c).1;obtain ⟨b,d⟩:=wL N N.length;have:=few N.length ((j:Int) :: ay N N.length) (List.nodup_cons.2 ⟨h,b⟩) fun y a=>by
  rcases List.mem_cons.1 a with rfl | a
  ·omega
  exact d y a
 rw [List.length_cons,eK e g N.length (zT)] at this
 omega
def rz (R:List Int) (k:Int):List Int:=R.take (R.countP (· < k)) ++ k :: R.drop (R.countP (· < k))
theorem qn:∀ (R:List Int) (k:Int),R.Pairwise (· < ·)→k∉R→(∀ a∈R.take (R.countP (· < k)),a<k)∧∀ b∈R.drop (R.countP (· < k)),k<b
 | [],k,_,_=>⟨fun a h=>by simp at h,fun b h=>by simp at h⟩
 | a :: R,k,hR,hk=>by
  obtain ⟨e,g⟩:=List.pairwise_cons.1 hR;have d:k≠a∧k∉R:=by simpa using hk
  by_cases h:a<k
  ·obtain ⟨i1,i2⟩:=qn R k g d.2
   rw [List.countP_cons_of_pos (by simpa using h),List.take_succ_cons,List.drop_succ_cons]
   refine ⟨fun x c=>?_,i2⟩
   rcases List.mem_cons.1 c with rfl | c
   ·exact h
   exact i1 x c
  have f:(a :: R).countP (· < k)=0:=by
   rw [List.countP_eq_zero];intro x c
   rcases List.mem_cons.1 c with rfl | c
   ·simpa using h
   have:=e x c
   simp;omega
  rw [f];refine ⟨fun x c=>by simp at c,fun x c=>?_⟩
  rcases List.mem_cons.1 (show x∈a :: R from c) with rfl | c
  ·omega
  have:=e x c;omega
theorem DI {R:List Int} {k:Int} (c:R.Pairwise (· < ·)) (j:k∉R):(rz R k).Pairwise (· < ·)∧∀ x,x∈rz R k↔x=k∨x∈R:=by
 obtain ⟨f,g⟩:=qn R k c j;have e:R.take (R.countP (· < k)) ++ R.drop (R.countP (· < k))=R:=List.take_append_drop _ _;refine ⟨?_,fun x=>?_⟩
 ·unfold rz
  rw [List.pairwise_append];refine ⟨c.sublist (List.take_sublist _ _),List.pairwise_cons.2 ⟨g,c.sublist (List.drop_sublist _ _)⟩,fun a i b d=>?_⟩
  rcases List.mem_cons.1 d with rfl | d
  ·exact f a i
  have:=f a i;have:=g b d
  omega
 unfold rz;rw [List.mem_append,List.mem_cons];have:x∈R↔x∈R.take (R.countP (· < k))∨x∈R.drop (R.countP (· < k)):=by rw [←List.mem_append,e]
 rw [this]
 constructor
 ·rintro (h | h | h)
  ·exact Or.inr (Or.inl h)
  ·exact Or.inl h
  exact Or.inr (Or.inr h)
 rintro (h | h | h)
 ·exact Or.inr (Or.inl h)
 ·exact Or.inl h
 exact Or.inr (Or.inr h)
theorem FB {N:List (List Int)} {m i:Nat} (a:i<(bL N m N.length).length) (x:Int):x∈(bL N m N.length).take (i+1)↔x∈(bL N m N.length).take i∨x=(bL N m N.length).getD i 0:=by
 rw [List.take_succ_eq_append_getElem a,List.mem_append,List.mem_singleton,zZ,zX a]
 rfl
theorem G2 {N:List (List Int)} {m i:Nat} (b:i<(bL N m N.length).length):(bL N m N.length).getD i 0∉(bL N m N.length).take i:=by
 intro h;rw [zZ,zX b,Option.getD_some] at h;obtain ⟨j,c,e⟩:=List.getElem_of_mem h;have a:j<i:=by have:=c;rw [List.length_take] at this;omega
 rw [List.getElem_take] at e;have:=List.pairwise_iff_getElem.1 (Fy N m N.length) j i (by omega) b a
 omega
theorem Fz {N:List (List Int)} (w:∀ j,j<N.length→(N.getD j []).Pairwise (· < ·)) {out:List Int} {m i:Nat} (v:rK N out m=true) (o:i<(bL N m N.length).length):∃ u:Nat,(bL N m N.length).getD i 0=(u:Int)∧u<N.length∧gB N out m i u=eN N out u∧1≤eN N out u∧gB N out m (i+1) u+1=eN N out u∧(∀ j,j≠u→gB N out m (i+1) j=gB N out m i j)∧∀ R,kr N out m i R→(u:Int)∉R∧(eN N out u=1→kr N out m (i+1) (rz R u))∧(eN N out u≠1→kr N out m (i+1) R):=by
 have l:=(fA v).1;have k:(bL N m N.length).getD i 0∈bL N m N.length:=by
  rw [zZ,zX o];exact List.getElem_mem o
 obtain ⟨u,p,q,s⟩:=k6.1 k;have c:=G2 o;rw [p] at c;have t:1≤eN N out u:=by
  have:=kE (w u q) l;rw [if_pos s] at this
  omega
 have r:rK N out u=false:=by
  rw [←Bool.not_eq_true];intro h;exact l ((fA h).2 _ s)
 have f:=fun x=>FB (N:=N) (m:=m) o x
 rw [p] at f;refine ⟨u,p,q,by unfold gB;rw [if_neg c];omega,t,?_,fun j y=>?_,fun R g=>?_⟩
 ·unfold gB
  rw [if_pos ((f u).2 (Or.inr rfl))]
  omega
 ·unfold gB
  have:((j:Int)∈(bL N m N.length).take (i+1))↔(j:Int)∈(bL N m N.length).take i:=by
   rw [f];exact ⟨fun h=>h.resolve_right (by omega),Or.inl⟩
  simp only [this]
 have n:(u:Int)∉R:=fun h=>by
  obtain ⟨j,b,d,(⟨a,-⟩ | ⟨a,-⟩)⟩:=(g.2 u).1 h
  ·have:j=u:=by omega
   subst this;rw [r] at a;cases a
  have:j=u:=by omega
  subst this;exact c a
 refine ⟨n,fun h=>?_,fun h=>⟨g.1,fun x=>?_⟩⟩
 ·obtain ⟨i1,i2⟩:=DI g.1 n
  refine ⟨i1,fun x=>?_⟩
  rw [i2,g.2]
  constructor
  ·rintro (rfl | ⟨j,b,d,a⟩)
   ·exact ⟨u,rfl,q,Or.inr ⟨(f u).2 (Or.inr rfl),h⟩⟩
   refine ⟨j,b,d,?_⟩
   rcases a with a | ⟨a,e⟩
   ·exact Or.inl a
   exact Or.inr ⟨(f j).2 (Or.inl a),e⟩
  rintro ⟨j,b,d,(a | ⟨a,e⟩)⟩
  ·exact Or.inr ⟨j,b,d,Or.inl a⟩
  rcases (f j).1 a with f5 | f5
  ·exact Or.inr ⟨j,b,d,Or.inr ⟨f5,e⟩⟩
  exact Or.inl (b.trans f5)
 rw [g.2]
 constructor
 ·rintro ⟨j,b,d,a⟩
  refine ⟨j,b,d,?_⟩
  rcases a with a | ⟨a,e⟩
  ·exact Or.inl a
  exact Or.inr ⟨(f j).2 (Or.inl a),e⟩
 rintro ⟨j,b,d,(a | ⟨a,e⟩)⟩
 ·exact ⟨j,b,d,Or.inl a⟩
 rcases (f j).1 a with f5 | f5
 ·exact ⟨j,b,d,Or.inr ⟨f5,e⟩⟩
 have:j=u:=by omega
 subst this;exact absurd e h
theorem G0 {N:List (List Int)} (q:∀ j,j<N.length→(N.getD j []).Pairwise (· < ·)) {k m:Nat} (u:rK N (ay N k) m=true):(∀ j,j<N.length→gB N (ay N k) m (bL N m N.length).length j=eN N (ay N k ++ [(m:Int)]) j)∧∀ R,kr N (ay N k) m (bL N m N.length).length R→re N (ay N k ++ [(m:Int)]) R:=by
 have a:=(fA u).1;have o:=(fA u).2;refine ⟨fun j t=>?_,fun R s=>⟨s.1,fun x=>?_⟩⟩
 ·unfold gB
  rw [List.take_length];have d:=kE (q j t) a
  by_cases h:(m:Int)∈N.getD j []
  ·rw [if_pos (k6.2 ⟨j,rfl,t,h⟩)]
   rw [if_pos h] at d
   omega
  have p:(j:Int)∉bL N m N.length:=fun e=>by
   obtain ⟨i,v,-,c⟩:=k6.1 e;have l:i=j:=by omega
   rw [l] at c;exact h c
  rw [if_neg p];rw [if_neg h] at d
  omega
 rw [s.2,List.take_length]
 constructor
 ·rintro ⟨j,n,f,b⟩
  refine ⟨j,n,f,?_⟩
  rcases b with ⟨b,r⟩ | ⟨b,r⟩
  ·obtain ⟨g1,g2⟩:=fA b
   refine uc ?_ fun y g=>List.mem_append.2 (Or.inl (g2 y g))
   rw [List.mem_append,List.mem_singleton];rintro (h | h)
   ·exact g1 h
   omega
  obtain ⟨i,v,l,c⟩:=k6.1 b;have:i=j:=by omega
  subst this;have d:=kE (q i l) a;rw [if_pos c,r] at d;refine uc ?_ (tU.1 (by omega))
  rw [List.mem_append,List.mem_singleton];rintro (h | h)
  ·exact a (wK N k i h _ c)
  have:i=m:=by omega
  subst this;exact a (o _ c)
 rintro ⟨j,n,f,b⟩;obtain ⟨g1,g2⟩:=fA b;rw [List.mem_append,List.mem_singleton] at g1;refine ⟨j,n,f,?_⟩
 by_cases h:(m:Int)∈N.getD j []
 ·refine Or.inr ⟨k6.2 ⟨j,rfl,f,h⟩,?_⟩
  have d:=kE (q j f) a;rw [if_pos h,tU.2 g2] at d
  omega
 refine Or.inl ⟨uc (fun e=>g1 (Or.inl e)) fun y g=>?_,fun e=>g1 (Or.inr (by omega))⟩
 rcases List.mem_append.1 (g2 y g) with h2 | h2
 ·exact h2
 rw [List.mem_singleton] at h2;rw [h2] at g;exact absurd g h
end Go.Proofs.YthlhjjabkgpenaaGreatDoor
