/- Numbers put into a lis -/
import Derived.Laws.AppendOwnNone
import Derived.Test.YtompdcaikmekkaaGreatDoorJHAP
import Derived.Test.YtompdcaikmekkaaGreatDoorJHAV
namespace Go.Proofs.YtompdcaikmekkaaGreatDoor
open ChangeShapes WideShapes ChangeAt RowKit
set_option maxRecDepth 99999
set_option maxHeartbeats 0
theorem jI (L:List Int) (n x:Int):x∈cV L n↔x∈L∨x=n:=by
 induction L with
 | nil=>simp [cV]
 | cons y r ih =>
  unfold cV
  split
  ·rw [List.mem_cons,ih,List.mem_cons,or_assoc]
  split
  ·rename_i _ h
   constructor
   ·exact Or.inl
   rintro (a | a)
   ·exact a
   rw [a,←h];simp
  rw [List.mem_cons];exact or_comm
theorem ls (L:List Int) (n:Int) (h:L.Pairwise (· < ·)):(cV L n).Pairwise (· < ·):=by
 induction L with
 | nil=>simp [cV]
 | cons y r ih =>
  have a:=List.pairwise_cons.1 h;unfold cV
  split
  ·refine List.pairwise_cons.2 ⟨fun z b=>?_,ih a.2⟩
   rcases (jI r n z).1 b with e | e
   ·exact a.1 z e
   omega
  split
  ·exact h
  refine List.pairwise_cons.2 ⟨fun z b=>?_,h⟩
  rcases List.mem_cons.1 b with e | e
  ·omega
  have:=a.1 z e;omega
def gV (d:Dm):List Nd→List Int→List Int
 | [],L=>L
 | x :: r,L=>gV d r (if x.op=2 then cV L (whL d x.name.data.toList) else L)
theorem rA (d:Dm):∀ (l:List Nd) (L:List Int),L.Pairwise (· < ·)→(gV d l L).Pairwise (· < ·)
 | [],_,h=>h
 | x :: r,L,h=>by
  unfold gV;refine rA d r _ ?_
  split
  ·exact ls _ _ h
  exact h
theorem vk (d:Dm):∀ (l:List Nd) (L:List Int) (z:Int),z∈gV d l L↔z∈L∨∃ x∈l,x.op=2∧z=whL d x.name.data.toList
 | [],L,z=>by simp [gV]
 | x :: r,L,z=>by
  unfold gV;rw [vk d r]
  by_cases h:x.op=2
  ·rw [if_pos h,jI]
   constructor
   ·rintro ((a | a) | ⟨y,b,a⟩)
    ·exact Or.inl a
    ·exact Or.inr ⟨x,by simp,h,a⟩
    exact Or.inr ⟨y,List.mem_cons_of_mem _ b,a⟩
   rintro (a | ⟨y,b,a,c⟩)
   ·exact Or.inl (Or.inl a)
   rcases List.mem_cons.1 b with rfl | b
   ·exact Or.inl (Or.inr c)
   exact Or.inr ⟨y,b,a,c⟩
  rw [if_neg h]
  constructor
  ·rintro (a | ⟨y,b,a⟩)
   ·exact Or.inl a
   exact Or.inr ⟨y,List.mem_cons_of_mem _ b,a⟩
  rintro (a | ⟨y,b,a,c⟩)
  ·exact Or.inl a
  rcases List.mem_cons.1 b with rfl | b
  ·exact absurd a h
  exact Or.inr ⟨y,b,a,c⟩
theorem CI {d:Dm} (f:(az d).2=0) {i:Nat} (j:(d.mem i).formula.size≠0) (g:mErr d i=0):gV d (bG (d.mem i).formula) []=eo d i:=by
 refine i6 _ _ (rA d _ _ List.Pairwise.nil) (fh _ _) fun z=>?_
 rw [vk,fx f j g]
 constructor
 ·rintro (h | ⟨x,c,a,b⟩)
  ·cases h
  exact ⟨x.name.data.toList,nG c a,b⟩
 rintro ⟨nm,a,b⟩;obtain ⟨x,c,e,rfl⟩:=zL a;exact Or.inr ⟨x,c,e,b⟩
def gW (f:Int→Bool):List Int→List Int→List Int
 | [],L=>L
 | x :: r,L=>gW f r (if f x=true then cV L x else L)
theorem pC (f:Int→Bool):∀ (l:List Int) (L:List Int),L.Pairwise (· < ·)→(gW f l L).Pairwise (· < ·)
 | [],_,h=>h
 | x :: r,L,h=>by
  unfold gW;refine pC f r _ ?_
  split
  ·exact ls _ _ h
  exact h
theorem rz (f:Int→Bool):∀ (l:List Int) (L:List Int) (z:Int),z∈gW f l L↔z∈L∨z∈l∧f z=true
 | [],L,z=>by simp [gW]
 | x :: r,L,z=>by
  unfold gW;rw [rz f r,List.mem_cons]
  by_cases h:f x=true
  ·rw [if_pos h,jI]
   constructor
   ·rintro ((a | a) | ⟨a,b⟩)
    ·exact Or.inl a
    ·exact Or.inr ⟨Or.inl a,by rw [a];exact h⟩
    exact Or.inr ⟨Or.inr a,b⟩
   rintro (a | ⟨a | a,b⟩)
   ·exact Or.inl (Or.inl a)
   ·exact Or.inl (Or.inr a)
   exact Or.inr ⟨a,b⟩
  rw [if_neg h]
  constructor
  ·rintro (a | ⟨a,b⟩)
   ·exact Or.inl a
   exact Or.inr ⟨Or.inr a,b⟩
  rintro (a | ⟨a | a,b⟩)
  ·exact Or.inl a
  ·rw [a] at b;exact absurd b h
  exact Or.inr ⟨a,b⟩
theorem yj {d:Dm} {i:Nat} (a:(d.mem i).formula.size=0):gW (vV d) (bz d.mem d.n i) []=eo d i:=by
 rw [←gE a];refine i6 _ _ (pC _ _ _ List.Pairwise.nil) ((fh _ _).filter _) fun z=>?_
 rw [rz,List.mem_filter]
 simp
theorem rB (d:Dm) (x:Nd):∀ (l:List Nd) (L:List Int),gV d (l ++ [x]) L=if x.op=2 then cV (gV d l L) (whL d x.name.data.toList) else gV d l L
 | [],L=>by simp [gV]
 | y :: r,L=>by
  show gV d (r ++ [x]) _=_
  rw [rB d x r]
  rfl
theorem pD (f:Int→Bool) (x:Int):∀ (l:List Int) (L:List Int),gW f (l ++ [x]) L=if f x=true then cV (gW f l L) x else gW f l L
 | [],L=>by simp [gW]
 | y :: r,L=>by
  show gW f (r ++ [x]) _=_
  rw [pD f x r]
  rfl
theorem sP (L:List Int) (n:Int):(cV L n).length≤L.length+1:=by
 induction L with
 | nil=>simp [cV]
 | cons y r ih =>
  unfold cV
  split
  ·simp only [List.length_cons];omega
  split <;> simp
theorem FQ {L:List Int} {n:Int} (h:n∉L):(cV L n).length=L.length+1:=by
 induction L with
 | nil=>simp [cV]
 | cons y r ih =>
  have a:n∉r:=fun e=>h (List.mem_cons_of_mem _ e)
  unfold cV
  split
  ·simp only [List.length_cons,ih a]
  split
  ·rename_i e
   exact absurd (by rw [e];simp) h
  simp
def f6 (d:Dm) (l:List Nd) (k:Nat):List Int:=gV d (l.take k) []
theorem pB {d:Dm} {l:List Nd} {k:Nat} {x:Nd} (a:k<l.length) (b:l.getD k bN=x):f6 d l (k+1)=if x.op=2 then cV (f6 d l k) (whL d x.name.data.toList) else f6 d l k:=by
 unfold f6;rw [mD l a,b,rB]
theorem CH (d:Dm) (l:List Nd) (k:Nat) (a:k≤l.length):(f6 d l k).length≤k:=by
 induction k with
 | zero=>simp [f6,gV]
 | succ k ih =>
  rw [pB (by omega) rfl]
  have:=ih (by omega)
  split
  ·exact zV (sP _ _) (by omega)
  omega
def eH (d:Dm) (l:List Int) (k:Nat):List Int:=gW (vV d) (l.take k) []
theorem m5 {d:Dm} {l:List Int} {k:Nat} {x:Int} (a:k<l.length) (b:l.getD k 0=x):eH d l (k+1)=if vV d x=true then cV (eH d l k) x else eH d l k:=by
 unfold eH;have e:l.take (k+1)=l.take k ++ [x]:=by
  rw [List.take_succ_eq_append_getElem a,←b,zZ,zX a]
  rfl
 rw [e,pD]
theorem xU (d:Dm) (l:List Int) (k:Nat) (a:k≤l.length):(eH d l k).length≤k:=by
 induction k with
 | zero=>simp [eH,gW]
 | succ k ih =>
  rw [m5 (by omega) rfl]
  have:=ih (by omega)
  split
  ·exact zV (sP _ _) (by omega)
  omega
theorem E9 {d:Dm} {i:Nat} (b:(d.mem i).formula.size≠0) (c:prsE (d.mem i).formula=0) {x:Nd} (f:x∈bG (d.mem i).formula) (a:x.op=2) (e:whL d x.name.data.toList<0):mErr d i=5:=by
 unfold mErr;rw [if_neg b,if_neg (by simpa using c),if_pos]
 rw [List.any_eq_true];exact ⟨_,nG f a,decide_eq_true e⟩
theorem E7 {d:Dm} {i:Nat} (c:(d.mem i).formula.size≠0) (e:prsE (d.mem i).formula=0) (h:∀ x∈bG (d.mem i).formula,x.op=2→0≤whL d x.name.data.toList):mErr d i=0:=by
 unfold mErr;rw [if_neg c,if_neg (by simpa using e),if_neg]
 rw [List.any_eq_true];rintro ⟨nm,a,f⟩;obtain ⟨x,g,b,rfl⟩:=zL a;have:=h x g b;have:=of_decide_eq_true f
 omega
theorem E8 {d:Dm} {i:Nat} (a:(d.mem i).formula.size≠0) (b:prsE (d.mem i).formula≠0):mErr d i=prsE (d.mem i).formula:=by
 unfold mErr;rw [if_neg a,if_pos b]
def bU (w:World) (A:Option Addr) (c:Nat) (L:List Int):Prop:=(L=[]∧A=none∧c=0)∨(L≠[]∧aR w A c L)
theorem bU.later {w w':World} {A:Option Addr} {c:Nat} {L:List Int} (h:bU w A c L) (a:Bl w w'):bU w' A c L:=by
 rcases h with h | ⟨h1,h⟩
 ·exact Or.inl h
 exact Or.inr ⟨h1,h.later a⟩
theorem bU.nil (w:World):bU w none 0 []:=Or.inl ⟨rfl,rfl,rfl⟩
theorem bU.intT {w:World} {A:Option Addr} {c:Nat} {L:List Int} (h:bU w A c L):aR w A c L:=by
 rcases h with ⟨rfl,-,rfl⟩ | ⟨-,h⟩
 ·exact aR.nil _ _ _ (by omega)
 exact h
theorem aR.pl {w:World} {A:Option Addr} {c:Nat} {L:List Int} (h:aR w A c L):a7 w A c L:=by
 obtain ⟨d,-,a | ⟨b,cs,fr,a,e,f⟩⟩:=h
 ·exact ⟨d,Or.inl a⟩
 exact ⟨d,Or.inr ⟨b,0,a,(zY e).1,fun j g=>by rw [Nat.zero_add];exact f j g⟩⟩
theorem mh {L:List Int}:∀ u∈L.map (Value.int .i64),u.oneCell'=true:=by
 intro u a
 simp at a
 obtain ⟨x,-,rfl⟩:=a
 rfl
theorem lr (A:Option Addr) (cap:Nat) (L:List Int) (n:Int) (w:World) (h63:L.length≤1000000) (hL:bU w A cap L):Calls Tryz.prog 69 #[.slice A L.length cap,.int .i64 n] w fun e w'=>(∃ A' c',e=.returned (.slice A' (cV L n).length c')∧bU w' A' c' (cV L n))∧Bl w w':=by
 obtain ⟨i0,p,v,y,z⟩:=info_parts Tryz.infoIntF;have hPl:=hL.intT.pl;have hc63:cap≤9223372036854775807:=hL.intT.2.1;have HRs:=aa hL
 rcases hL with ⟨rfl,rfl,rfl⟩ | ⟨hne,-⟩
 ·show Calls Tryz.prog 69 #[.slice none 0 0,.int .i64 n] w _
  go_enter Tryz.func69,Tryz.ntmps69
  go_wp2_with fail;refine wp_loop_rounds 1 ?_;rw [rounds_succ]
  go_wp2_with (first
   | (at_builtin;refine wpList_append_own_none rfl _ _ 26 rfl w.heap.size 3 i0 1 Tryz.underlying26 p _ 0 _ rfl (World.ownsRow_nil w w.heap.size 3 1) rfl ?_)
   | (at_builtin;refine wpList_append_own_at _ rfl _ _ 26 rfl w.heap.size 3 i0 _ 1 8 Tryz.underlying26 p v y z rfl (by decide) _ 0 [] rfl (World.ownsRow_nil _ w.heap.size 3 1) ⟨w.heap.size,0,none⟩ 1 1 [.int .i64 n] rfl rfl ?qc1 ?qc2 ?qc3 ?qc4 ?qc5 ?_))
  case qc1=>exact cell_one_new _ _ _
  case qc2=>intro u I;simp at I;subst I;rfl
  case qc3=>unfold maxLen;omega
  case qc4=>omega
  case qc5=>simp
  intro v1 w1 c a _ _;have C:Hid (Bl w w1):=((zS).alloc (zT) _).grown a (by simp) (fun j q=>by cases q)
  have d:w1.ownsRow w.heap.size 3 1 v1 1 [.int .i64 n]:=c;have HP1:=aa (bP (L:=[n]) d);clear c a
  go_wp2_with (at_builtin;refine wpList_append_own_none rfl _ _ 26 rfl w.heap.size 3 i0 1 Tryz.underlying26 p _ 1 _ rfl d rfl ?_)
  go_ret;obtain ⟨A1,c1,rfl,Z⟩:=HP1.out;exact ⟨⟨A1,c1,rfl,Or.inr ⟨by simp [cV],Z⟩⟩,C.out⟩
 obtain ⟨hc,h0 | ⟨b,o,rfl,hb,F⟩⟩:=hPl
 ·exact absurd h0 hne
 obtain ⟨m,hm⟩:=aA L.length;have HM:=aa hm;have W:=aa F;rw [hm];have hmi:(m:Int)≤1000000:=by omega
 have hci:(cap:Int)≤9223372036854775807:=by omega
 have hmc:(m:Int)≤(cap:Int):=by omega
 clear F
 go_enter Tryz.func69,Tryz.ntmps69
 go_upto_block 0 with fail
 go_cut [5] from 7 (fun s5 wx=>(∃ k:Nat,k≤m∧s5=.int .i64 k∧(∀ i,i<k→L.getD i 0<n)∧(k=m∨n≤L.getD k 0))∧wx=w)
 case first =>
  go_wp2_with fail
  go_loopg [5] m (fun g s5 wr => ∃ (k:Nat),k≤m∧g=m-k∧s5=.int .i64 k∧(∀ i,i<k→L.getD i 0<n)∧wr=w)
  case atStart=>exact ⟨0,zU,rfl,rfl,fun i hi=>absurd hi (Nat.not_lt_zero i),rfl⟩
  case round =>
   obtain ⟨k,hk,rfl,rfl,hf,rfl⟩:=hrel;have HF:=aa hf;clear hf
   by_cases R:k<m
   ·have hki:(k:Int)<(m:Int):=by omega
    have B:=W.out k (by omega)
    obtain ⟨x,T⟩:=aA (L.getD k 0);have Y:=aa T;rw [T] at B;clear T
    by_cases M:x<n
    ·have V:Hid (∀ i,i<k+1→L.getD i 0<n):=fun i hi=>by
      by_cases e:i=k
      ·rw [e,Y.out];exact M
      exact HF.out i (by omega)
     go_wp2_with fail
     go_roundg (m-(k+1))
     case measure=>omega
     case rel=>exact ⟨k+1,by omega,rfl,by go_num,V.out,rfl⟩
    have hd1:decide (x<n)=false:=decide_eq_false M;have HGe:Hid (n≤L.getD k 0):=by show _≤_;rw [Y.out];omega
    clear M;go_wp2_with fail;go_meet;exact ⟨⟨k,hk,rfl,HF.out,Or.inr HGe.out⟩,rfl⟩
   have Q:k=m:=by omega
   subst Q;go_wp2_with fail;go_meet;exact ⟨⟨k,zT,rfl,HF.out,Or.inl rfl⟩,rfl⟩
 case rest =>
  obtain ⟨⟨k,hk,rfl,hf,K⟩,hwc⟩:=hcut;subst hwc;have hki:(k:Int)≤(m:Int):=by omega
  have N:=aa (AH L n k (by omega) hf (by rw [hm];exact K))
  have HMc:=aa hc;clear hf
  by_cases G:k<m∧L.getD k 0=n
  ·obtain ⟨R,U⟩:=G
   have HE:Hid (cV L n=L):=by show _=_;rw [N.out,if_pos ⟨by omega,U⟩]
   have hki2:(k:Int)<(m:Int):=by omega
   have B:=W.out k (by omega)
   rw [U] at B;clear U K;go_wp2_with fail;go_ret;rw [HE.out];exact ⟨⟨some ⟨b,o,none⟩,cap,by rw [HM.out];rfl,HRs.out⟩,zS⟩
  have HE:Hid (cV L n=L.take k ++ [n] ++ L.drop k):=by show _=_;rw [N.out,if_neg (by rw [hm];exact G)]
  obtain ⟨w0,rfl⟩:∃ wx:World,wx=wc:=⟨_,rfl⟩;have hkn:k≤L.length:=by omega
  have hk63:k≤1000000:=by omega
  have hkc:(k:Int)≤(cap:Int):=by omega
  have X:Hid (∀ w',Bl w0 w'→∀ j u,((L.take k).map (Value.int .i64))[j]?=some u→w'.cell? ((⟨b,o,none⟩:Addr).add j)=some u):=fun w' hB=>by
   have h:=oZ (w:=w') (b:=b) (o:=o) (L:=L) (fun j q=>aD hB hb (W.out j q)) 0 k (by omega)
   exact h
  have HDk:Hid (∀ w',Bl w0 w'→∀ j u,((L.drop k).map (Value.int .i64))[j]?=some u→w'.cell? ((⟨b,o+k,none⟩:Addr).add j)=some u):=fun w' hB=>by
   have h:=oZ (w:=w') (b:=b) (o:=o) (L:=L) (fun j q=>aD hB hb (W.out j q)) k (L.length-k) (by omega)
   rw [List.take_of_length_le (by simp)] at h
   exact h
  rcases Nat.lt_or_ge k m with R | hgek
  ·have hki2:(k:Int)<(m:Int):=by omega
   have B:=W.out k (by omega)
   obtain ⟨x,T⟩:=aA (L.getD k 0);have M:(x == n)=false:=by
    have:x≠n:=fun e=>G ⟨R,T.trans e⟩
    simpa using this
   rw [T] at B;clear T G K
   go_upto_region 7 with fail
   go_wp2_with (at_builtin;refine wpList_append_own_at _ rfl _ _ 26 rfl w0.heap.size 3 i0 _ 1 8 Tryz.underlying26 p v y z rfl (by decide) _ 0 [] rfl (World.ownsRow_nil _ w0.heap.size 3 1) ⟨b,o,none⟩ k cap ((L.take k).map (Value.int .i64)) rfl ?qc0 ?qc1 ?qc2 ?qc3 ?qc4 ?qc5 ?_)
   case qc0=>simp;omega
   case qc1=>exact X.out _ (zS)
   case qc2=>exact mh
   case qc3=>unfold maxLen;omega
   case qc4=>omega
   case qc5=>exact zT
   intro v1 w1 c a _ _;have s:Bl w0 w1:=(zS).grown a (zT) (fun j q=>by cases q)
   have d:w1.ownsRow w0.heap.size 3 1 v1 k ((L.take k).map (Value.int .i64)):=by simpa using c
   have C:=aa s;have D:=aa d;have S:=s.size;clear c a s d B
   go_wp2_with (at_builtin;refine wpList_append_own_at _ rfl _ _ 26 rfl w0.heap.size 3 i0 _ 1 8 Tryz.underlying26 p v y z rfl (by decide) _ k ((L.take k).map (Value.int .i64)) rfl (ao D.out ((zS).alloc (zT) _)) ⟨w1.heap.size,0,none⟩ 1 1 [.int .i64 n] rfl rfl ?qd1 ?qd2 ?qd3 ?qd4 ?qd5 ?_)
   case qd1=>exact cell_one_new _ _ _
   case qd2=>intro u I;simp at I;subst I;rfl
   case qd3=>unfold maxLen;omega
   case qd4=>omega
   case qd5=>simp;omega
   intro v2 w2 c a _ _;have t:Bl w0 w2:=(C.out.alloc S _).grown a (by simp;omega) (fun j q=>(D.out.lt j q).1)
   have J:=aa t;have f:w2.ownsRow w0.heap.size 3 1 v2 (k+1) ((L.take k ++ [n]).map (Value.int .i64)):=by simpa [List.map_append] using c
   have E:=aa f;have H:=t.size;clear c a t f
   go_wp2_with (at_builtin;refine wpList_append_own_at _ rfl _ _ 26 rfl w0.heap.size 3 i0 _ 1 8 Tryz.underlying26 p v y z rfl (by decide) _ (k+1) ((L.take k ++ [n]).map (Value.int .i64)) rfl E.out ⟨b,o+k,none⟩ (m-k) (cap-k) ((L.drop k).map (Value.int .i64)) rfl ?qe0 ?qe1 ?qe2 ?qe3 ?qe4 ?qe5 ?_)
   case qe0=>simp;omega
   case qe1=>exact HDk.out _ J.out
   case qe2=>exact mh
   case qe3=>unfold maxLen;omega
   case qe4=>omega
   case qe5=>exact H
   intro v3 w3 c a _ _;have O:Hid (Bl w0 w3):=J.out.grown a H (fun j q=>(E.out.lt j q).1)
   have r:(L.take k ++ [n] ++ L.drop k).length=k+1+(m-k):=by simp;omega
   have l:w3.ownsRow w0.heap.size 3 1 v3 (L.take k ++ [n] ++ L.drop k).length ((L.take k ++ [n] ++ L.drop k).map (Value.int .i64)):=by
    rw [r]
    simpa [List.map_append] using c
   have P:=aa (bP (L:=L.take k ++ [n] ++ L.drop k) l);clear c a l r;go_wp2_with fail;go_ret;obtain ⟨A3,c3,rfl,Z⟩:=P.out;rw [HE.out];exact ⟨⟨A3,c3,rfl,Or.inr ⟨by simp,Z⟩⟩,O.out⟩
  have Q:k=m:=by omega
  subst Q;clear G K;obtain ⟨ad,KG⟩:∃ ad:Addr,(if cap=k then some (⟨b,o,none⟩:Addr) else some ⟨b,o+k,none⟩)=some ad:=by split <;> exact ⟨_,rfl⟩
  have HAd:=aa KG;clear KG
  go_upto_region 7 with fail
  go_wp2_with (at_builtin;refine wpList_append_own_at _ rfl _ _ 26 rfl w0.heap.size 3 i0 _ 1 8 Tryz.underlying26 p v y z rfl (by decide) _ 0 [] rfl (World.ownsRow_nil _ w0.heap.size 3 1) ⟨b,o,none⟩ k cap ((L.take k).map (Value.int .i64)) rfl ?qc0 ?qc1 ?qc2 ?qc3 ?qc4 ?qc5 ?_)
  case qc0=>simp;omega
  case qc1=>exact X.out _ (zS)
  case qc2=>exact mh
  case qc3=>unfold maxLen;omega
  case qc4=>omega
  case qc5=>exact zT
  intro v1 w1 c a _ _;have s:Bl w0 w1:=(zS).grown a (zT) (fun j q=>by cases q)
  have d:w1.ownsRow w0.heap.size 3 1 v1 k ((L.take k).map (Value.int .i64)):=by simpa using c
  have C:=aa s;have D:=aa d;have S:=s.size;clear c a s d
  go_wp2_with (at_builtin;refine wpList_append_own_at _ rfl _ _ 26 rfl w0.heap.size 3 i0 _ 1 8 Tryz.underlying26 p v y z rfl (by decide) _ k ((L.take k).map (Value.int .i64)) rfl (ao D.out ((zS).alloc (zT) _)) ⟨w1.heap.size,0,none⟩ 1 1 [.int .i64 n] rfl rfl ?qd1 ?qd2 ?qd3 ?qd4 ?qd5 ?_)
  case qd1=>exact cell_one_new _ _ _
  case qd2=>intro u I;simp at I;subst I;rfl
  case qd3=>unfold maxLen;omega
  case qd4=>omega
  case qd5=>simp;omega
  intro v2 w2 c a _ _;have t:Bl w0 w2:=(C.out.alloc S _).grown a (by simp;omega) (fun j q=>(D.out.lt j q).1)
  have J:=aa t;have f:w2.ownsRow w0.heap.size 3 1 v2 (k+1) ((L.take k ++ [n]).map (Value.int .i64)):=by simpa [List.map_append] using c
  have E:=aa f;have H:=t.size;clear c a t f
  go_wp2_with (at_builtin;refine wpList_append_own_at _ rfl _ _ 26 rfl w0.heap.size 3 i0 _ 1 8 Tryz.underlying26 p v y z rfl (by decide) _ (k+1) ((L.take k ++ [n]).map (Value.int .i64)) rfl E.out ad 0 (cap-k) [] (by rw [←HAd.out];rfl) ?qe0 ?qe1 ?qe2 ?qe3 ?qe4 ?qe5 ?_)
  case qe0=>rfl
  case qe1=>intro j u q;simp at q
  case qe2=>intro u I;simp at I
  case qe3=>unfold maxLen;omega
  case qe4=>omega
  case qe5=>exact H
  all_goals
   intro v3 w3 c a _ _;have O:Hid (Bl w0 w3):=J.out.grown a H (fun j q=>(E.out.lt j q).1)
   have KH:L.drop k=[]:=List.drop_of_length_le (by omega)
   have r:(L.take k ++ [n] ++ L.drop k).length=k+1:=by rw [KH];simp;omega
   have l:w3.ownsRow w0.heap.size 3 1 v3 (L.take k ++ [n] ++ L.drop k).length ((L.take k ++ [n] ++ L.drop k).map (Value.int .i64)):=by
    rw [r,KH]
    simpa [List.map_append] using c
   have P:=aa (bP (L:=L.take k ++ [n] ++ L.drop k) l);clear c a l r;go_wp2_with fail;go_ret;obtain ⟨A3,c3,rfl,Z⟩:=P.out;rw [HE.out];exact ⟨⟨A3,c3,rfl,Or.inr ⟨by simp,Z⟩⟩,O.out⟩
def jc (f:Nat) (args:Array Value) (r:Int×Int):Prop := ∀ (w:World),Calls Tryz.prog f args w fun e w'=>e=.returned (.agg #[.int .i64 r.1,.int .i64 r.2])∧Bl w w'
theorem gr {k:Int} (h : ¬ k=2):(k == 2)=false:=by simpa using h
theorem kM {k:Int} (h : ¬ k=0):(k == 0)=false:=by simpa using h
theorem yy (ka na kb nb sg r:Int) (w:World) (j:(ka == 2)=false) (k:(kb == 2)=false) (b:((ka == 0) && (kb == 0))=false) (f:wrap64 (na+wrap64 (sg*nb))=r) :
  Rt 65 #[.agg #[.int .i64 ka,.int .i64 na],.agg #[.int .i64 kb,.int .i64 nb],.int .i64 sg] w (.agg #[.int .i64 (eE r).1,.int .i64 (eE r).2]):=by
 subst f;have c:=jK (wrap64 (na+wrap64 (sg*nb)));cases q4:(ka == 0)
 all_goals
  rw [q4] at b
  try simp only [Bool.true_and,Bool.false_and] at b
  go_enter Tryz.func65,Tryz.ntmps65
  go_wp2_with fail;refine (c _).mono ?_;rintro e w1 ⟨rfl,a⟩;have h:Bl w w1:=Below.trans (by go_grown) (a.mono (by simp;omega))
  obtain ⟨d,i⟩:=dj a;have g:=dk a
  simp at g
  go_wp2_with fail;refine bodyPost_ret (v:=.agg #[.int .i64 (eE (wrap64 (na+wrap64 (sg*nb)))).1,.int .i64 (eE (wrap64 (na+wrap64 (sg*nb)))).2]) (by simp [results,Tryz.results65,go_sem,d]) rfl ⟨rfl,?_⟩
  go_grown
theorem vC (ka na kb nb sg:Int) (w:World) (h:ka=2∨kb=2):Rt 65 #[.agg #[.int .i64 ka,.int .i64 na],.agg #[.int .i64 kb,.int .i64 nb],.int .i64 sg] w (.agg #[.int .i64 2,.int .i64 0]):=by
 by_cases a:ka=2
 ·subst a
  clear h
  go_enter Tryz.func65,Tryz.ntmps65
  go_wp2;go_returns;exact ⟨rfl,by go_grown⟩
 have c:=gr a;have b:kb=2:=by omega
 subst b;clear h a
 go_enter Tryz.func65,Tryz.ntmps65
 go_wp2;go_returns;exact ⟨rfl,by go_grown⟩
theorem vB (na nb sg:Int) (w:World):Rt 65 #[.agg #[.int .i64 0,.int .i64 na],.agg #[.int .i64 0,.int .i64 nb],.int .i64 sg] w (.agg #[.int .i64 0,.int .i64 0]):=by
 go_enter Tryz.func65,Tryz.ntmps65
 go_wp2;go_returns;exact ⟨rfl,by go_grown⟩
theorem jL (ka na kb nb sg r:Int) (c:wrap64 (na+wrap64 (sg*nb))=r):jc 65 #[.agg #[.int .i64 ka,.int .i64 na],.agg #[.int .i64 kb,.int .i64 nb],.int .i64 sg] (gA (!(ka != 0 || kb != 0)) ka kb (eE r)):=by
 intro w;unfold gA
 by_cases a:ka=2∨kb=2
 ·rw [if_pos a]
  exact vC ka na kb nb sg w a
 rw [if_neg a]
 by_cases b:ka=0∧kb=0
 ·obtain ⟨rfl,rfl⟩:=b
  exact vB na nb sg w
 rw [if_neg (by simp;omega)]
 exact yy ka na kb nb sg r w (gr (by omega)) (gr (by omega)) (by simp;omega) c
theorem yz (ka na kb nb:Int) (a:good ka na=true) (b:good kb nb=true):jc 65 #[.agg #[.int .i64 ka,.int .i64 na],.agg #[.int .i64 kb,.int .i64 nb],.int .i64 1] (m8 ka na kb nb):=by
 obtain ⟨a1,a2⟩:=cB a;obtain ⟨b1,b2⟩:=cB b;exact jL ka na kb nb 1 (na+nb) (by unfold wrap64;omega)
theorem vD (ka na kb nb:Int) (a:good ka na=true) (b:good kb nb=true):jc 65 #[.agg #[.int .i64 ka,.int .i64 na],.agg #[.int .i64 kb,.int .i64 nb],.int .i64 (-1)] (jp ka na kb nb):=by
 obtain ⟨a1,a2⟩:=cB a;obtain ⟨b1,b2⟩:=cB b;exact jL ka na kb nb (-1) (na-nb) (by unfold wrap64;omega)
theorem sW (ka na kb nb:Int) (w:World) (h:ka=2∨kb=2):Rt 105 #[.agg #[.int .i64 ka,.int .i64 na],.agg #[.int .i64 kb,.int .i64 nb]] w (.agg #[.int .i64 2,.int .i64 0]):=by
 by_cases a:ka=2
 ·subst a
  clear h
  go_enter Tryz.func105,Tryz.ntmps105
  go_wp2;go_returns;exact ⟨rfl,by go_grown⟩
 have c:=gr a;have b:kb=2:=by omega
 subst b;clear h a
 go_enter Tryz.func105,Tryz.ntmps105
 go_wp2;go_returns;exact ⟨rfl,by go_grown⟩
theorem vw (ka na kb nb:Int) (w:World) (h:ka=2∨kb=2):Rt 106 #[.agg #[.int .i64 ka,.int .i64 na],.agg #[.int .i64 kb,.int .i64 nb]] w (.agg #[.int .i64 2,.int .i64 0]):=by
 by_cases a:ka=2
 ·subst a
  clear h
  go_enter Tryz.func106,Tryz.ntmps106
  go_wp2;go_returns;exact ⟨rfl,by go_grown⟩
 have c:=gr a;have b:kb=2:=by omega
 subst b;clear h a
 go_enter Tryz.func106,Tryz.ntmps106
 go_wp2;go_returns;exact ⟨rfl,by go_grown⟩
theorem sV (ka na kb nb:Int) (w:World) (c:(ka == 2)=false) (d:(kb == 2)=false) (h:ka=0∨kb=0):Rt 105 #[.agg #[.int .i64 ka,.int .i64 na],.agg #[.int .i64 kb,.int .i64 nb]] w (.agg #[.int .i64 0,.int .i64 0]):=by
 by_cases a:ka=0
 ·subst a
  clear h c
  go_enter Tryz.func105,Tryz.ntmps105
  go_wp2;go_returns;exact ⟨rfl,by go_grown⟩
 have e:=kM a;have b:kb=0:=by omega
 subst b;clear h a d
 go_enter Tryz.func105,Tryz.ntmps105
 go_wp2;go_returns;exact ⟨rfl,by go_grown⟩
theorem vv (ka na kb nb:Int) (w:World) (c:(ka == 2)=false) (d:(kb == 2)=false) (h:ka=0∨kb=0):Rt 106 #[.agg #[.int .i64 ka,.int .i64 na],.agg #[.int .i64 kb,.int .i64 nb]] w (.agg #[.int .i64 0,.int .i64 0]):=by
 by_cases a:ka=0
 ·subst a
  clear h c
  go_enter Tryz.func106,Tryz.ntmps106
  go_wp2;go_returns;exact ⟨rfl,by go_grown⟩
 have e:=kM a;have b:kb=0:=by omega
 subst b;clear h a d
 go_enter Tryz.func106,Tryz.ntmps106
 go_wp2;go_returns;exact ⟨rfl,by go_grown⟩
theorem vF (ka na kb nb:Int) (w:World) (t:(ka == 2)=false) (u:(kb == 2)=false) (x:(ka == 0)=false) (y:(kb == 0)=false) (a1 : -1000000000000≤na) (a2:na≤1000000000000) (b1 : -1000000000000≤nb) (b2:nb≤1000000000000) :
  Rt 105 #[.agg #[.int .i64 ka,.int .i64 na],.agg #[.int .i64 kb,.int .i64 nb]] w (.agg #[.int .i64 (eE (na*nb)).1,.int .i64 (eE (na*nb)).2]):=by
 obtain ⟨ax0,ax1⟩:=nX a1 a2;obtain ⟨ay0,ay1⟩:=nX b1 b2;have a:=jM na;have c:=jM nb
 by_cases i:na=0
 ·subst i
  have g:ab 0=0:=rfl;rw [g] at a;have j:=jK (0*nb);rw [Int.zero_mul] at j ⊢;clear g ax0 ax1
  go_enter Tryz.func105,Tryz.ntmps105
  go_wp2_with fail;refine (a _ a1 a2).mono ?_;rintro e w1 ⟨rfl,rfl⟩;go_wp2_with fail;refine (c _ b1 b2).mono ?_;rintro e w1 ⟨rfl,rfl⟩;go_wp2_with fail;refine (j _).mono ?_;rintro e w1 ⟨rfl,b⟩;have o:Bl w w1:=Below.trans (by go_grown) (b.mono (by simp;omega))
  obtain ⟨k,p⟩:=dj b;have l:=dk b
  simp at l
  go_wp2_with fail;refine bodyPost_ret (v:=.agg #[.int .i64 (eE 0).1,.int .i64 (eE 0).2]) (by simp [results,Tryz.results105,go_sem,k]) rfl ⟨rfl,?_⟩
  go_grown
 have s:=vY i
 by_cases n:1000000000000 / ab na<ab nb
 ·have f:eE (na*nb)=(2,0):=by
   refine jF (DV (m:=1000000000000) ?_);rw [rX,Int.mul_comm];exact (Int.ediv_lt_iff_lt_mul (by omega)).mp n
  rw [f]
  go_enter Tryz.func105,Tryz.ntmps105
  go_wp2_with fail;refine (a _ a1 a2).mono ?_;rintro e w1 ⟨rfl,rfl⟩;go_wp2_with fail;refine (c _ b1 b2).mono ?_;rintro e w1 ⟨rfl,rfl⟩;go_wp2;go_returns;exact ⟨rfl,by go_grown⟩
 have d:ab (na*nb)≤1000000000000:=by
  rw [rX,Int.mul_comm];exact Int.not_lt.mp (fun h=>n ((Int.ediv_lt_iff_lt_mul (by omega)).mpr h))
 obtain ⟨q,r⟩:=DU d;have j:=jK (na*nb);clear d
 go_enter Tryz.func105,Tryz.ntmps105
 go_wp2_with fail;refine (a _ a1 a2).mono ?_;rintro e w1 ⟨rfl,rfl⟩;go_wp2_with fail;refine (c _ b1 b2).mono ?_;rintro e w1 ⟨rfl,rfl⟩;go_wp2_with fail;refine (j _).mono ?_;rintro e w1 ⟨rfl,b⟩;have o:Bl w w1:=Below.trans (by go_grown) (b.mono (by simp;omega))
 obtain ⟨k,p⟩:=dj b;have l:=dk b
 simp at l
 go_wp2_with fail;refine bodyPost_ret (v:=.agg #[.int .i64 (eE (na*nb)).1,.int .i64 (eE (na*nb)).2]) (by simp [results,Tryz.results105,go_sem,k]) rfl ⟨rfl,?_⟩
 go_grown
theorem yB (ka na kb nb:Int) (c:good ka na=true) (d:good kb nb=true):jc 105 #[.agg #[.int .i64 ka,.int .i64 na],.agg #[.int .i64 kb,.int .i64 nb]] (p9 ka na kb nb):=by
 obtain ⟨a1,a2⟩:=cB c;obtain ⟨b1,b2⟩:=cB d;intro w;unfold p9 gA
 by_cases a:ka=2∨kb=2
 ·rw [if_pos a]
  exact sW ka na kb nb w a
 rw [if_neg a]
 by_cases b:ka=0∨kb=0
 ·rw [if_pos (by simp;omega)]
  exact sV ka na kb nb w (gr (by omega)) (gr (by omega)) b
 rw [if_neg (by simp;omega)]
 exact vF ka na kb nb w (gr (by omega)) (gr (by omega)) (kM (by omega)) (kM (by omega)) a1 a2 b1 b2
end Go.Proofs.YtompdcaikmekkaaGreatDoor
