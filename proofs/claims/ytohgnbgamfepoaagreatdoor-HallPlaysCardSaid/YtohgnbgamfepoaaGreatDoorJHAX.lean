/- The document's own lis -/
import Derived.Laws.AppendOwnNone
import Derived.Test.YtohgnbgamfepoaaGreatDoorJHAU
namespace Go.Proofs.YtohgnbgamfepoaaGreatDoor
open ChangeShapes WideShapes ChangeAt RowKit
set_option maxRecDepth 99999
set_option maxHeartbeats 0
def bV (w:World) (A:Option Addr) (c:Nat) (L:List Int):Prop:=(L=[]∧A=none∧c=0)∨(L≠[]∧aR w A c L)
theorem bV.later {w w':World} {A:Option Addr} {c:Nat} {L:List Int} (h:bV w A c L) (a:Bl w w'):bV w' A c L:=by
 rcases h with h | ⟨h1,h⟩
 ·exact Or.inl h
 exact Or.inr ⟨h1,h.later a⟩
theorem bV.nil (w:World):bV w none 0 []:=Or.inl ⟨rfl,rfl,rfl⟩
theorem bV.intT {w:World} {A:Option Addr} {c:Nat} {L:List Int} (h:bV w A c L):aR w A c L:=by
 rcases h with ⟨rfl,-,rfl⟩ | ⟨-,h⟩
 ·exact aR.nil _ _ _ (by omega)
 exact h
theorem aR.pl {w:World} {A:Option Addr} {c:Nat} {L:List Int} (h:aR w A c L):aZ w A c L:=by
 obtain ⟨d,-,a | ⟨b,cs,fr,a,e,f⟩⟩:=h
 ·exact ⟨d,Or.inl a⟩
 exact ⟨d,Or.inr ⟨b,0,a,(zY e).1,fun j g=>by rw [Nat.zero_add];exact f j g⟩⟩
theorem ms {L:List Int}:∀ u∈L.map (Value.int .i64),u.oneCell'=true:=by
 intro u a
 simp at a
 obtain ⟨x,-,rfl⟩:=a
 rfl
theorem lA (A:Option Addr) (cap:Nat) (L:List Int) (n:Int) (w:World) (h63:L.length≤1000000) (hL:bV w A cap L):Calls Tryz.prog 70 #[.slice A L.length cap,.int .i64 n] w fun e w'=>(∃ A' c',e=.returned (.slice A' (cY L n).length c')∧bV w' A' c' (cY L n))∧Bl w w':=by
 obtain ⟨i0,p,v,y,z⟩:=info_parts Tryz.infoIntF;have hPl:=hL.intT.pl;have hc63:cap≤9223372036854775807:=hL.intT.2.1;have HRs:=aa hL
 rcases hL with ⟨rfl,rfl,rfl⟩ | ⟨hne,-⟩
 ·show Calls Tryz.prog 70 #[.slice none 0 0,.int .i64 n] w _
  go_enter Tryz.func70,Tryz.ntmps70
  go_wp2_with fail;refine wp_loop_rounds 1 ?_;rw [rounds_succ]
  go_wp2_with (first
   | (at_builtin;refine wpList_append_own_none rfl _ _ 26 rfl w.heap.size 3 i0 1 Tryz.underlying26 p _ 0 _ rfl (World.ownsRow_nil w w.heap.size 3 1) rfl ?_)
   | (at_builtin;refine wpList_append_own_at _ rfl _ _ 26 rfl w.heap.size 3 i0 _ 1 8 Tryz.underlying26 p v y z rfl (by decide) _ 0 [] rfl (World.ownsRow_nil _ w.heap.size 3 1) ⟨w.heap.size,0,none⟩ 1 1 [.int .i64 n] rfl rfl ?qc1 ?qc2 ?qc3 ?qc4 ?qc5 ?_))
  case qc1=>exact cell_one_new _ _ _
  case qc2=>intro u I;simp at I;subst I;rfl
  case qc3=>unfold maxLen;omega
  case qc4=>omega
  case qc5=>simp
  intro v1 w1 c a _ _;have C:Hid (Bl w w1):=((zS).alloc (zT) _).grown a (by simp) (fun j q=>by cases q)
  have d:w1.ownsRow w.heap.size 3 1 v1 1 [.int .i64 n]:=c;have HP1:=aa (bQ (L:=[n]) d);clear c a
  go_wp2_with (at_builtin;refine wpList_append_own_none rfl _ _ 26 rfl w.heap.size 3 i0 1 Tryz.underlying26 p _ 1 _ rfl d rfl ?_)
  go_ret;obtain ⟨A1,c1,rfl,Z⟩:=HP1.out;exact ⟨⟨A1,c1,rfl,Or.inr ⟨by simp [cY],Z⟩⟩,C.out⟩
 obtain ⟨hc,h0 | ⟨b,o,rfl,hb,F⟩⟩:=hPl
 ·exact absurd h0 hne
 obtain ⟨m,hm⟩:=az L.length;have HM:=aa hm;have W:=aa F;rw [hm];have hmi:(m:Int)≤1000000:=by omega
 have hci:(cap:Int)≤9223372036854775807:=by omega
 have hmc:(m:Int)≤(cap:Int):=by omega
 clear F
 go_enter Tryz.func70,Tryz.ntmps70
 go_upto_block 0 with fail
 go_cut [5] from 7 (fun s5 wx=>(∃ k:Nat,k≤m∧s5=.int .i64 k∧(∀ i,i<k→L.getD i 0<n)∧(k=m∨n≤L.getD k 0))∧wx=w)
 case first =>
  go_wp2_with fail
  go_loopg [5] m (fun g s5 wr => ∃ (k:Nat),k≤m∧g=m-k∧s5=.int .i64 k∧(∀ i,i<k→L.getD i 0<n)∧wr=w)
  case atStart=>exact ⟨0,zU,rfl,rfl,fun i hi=>absurd hi (Nat.not_lt_zero i),rfl⟩
  case round =>
   obtain ⟨k,hk,rfl,rfl,hf,rfl⟩:=hrel;have HF:=aa hf;clear hf
   by_cases R:k<m
   ·have hki:(k:Int)<(m:Int):=by omega
    have B:=W.out k (by omega)
    obtain ⟨x,T⟩:=az (L.getD k 0);have Y:=aa T;rw [T] at B;clear T
    by_cases M:x<n
    ·have V:Hid (∀ i,i<k+1→L.getD i 0<n):=fun i hi=>by
      by_cases e:i=k
      ·rw [e,Y.out];exact M
      exact HF.out i (by omega)
     go_wp2_with fail
     go_roundg (m-(k+1))
     case measure=>omega
     case rel=>exact ⟨k+1,by omega,rfl,by go_num,V.out,rfl⟩
    have hd1:decide (x<n)=false:=decide_eq_false M;have HGe:Hid (n≤L.getD k 0):=by show _≤_;rw [Y.out];omega
    clear M;go_wp2_with fail;go_meet;exact ⟨⟨k,hk,rfl,HF.out,Or.inr HGe.out⟩,rfl⟩
   have Q:k=m:=by omega
   subst Q;go_wp2_with fail;go_meet;exact ⟨⟨k,zT,rfl,HF.out,Or.inl rfl⟩,rfl⟩
 case rest =>
  obtain ⟨⟨k,hk,rfl,hf,K⟩,hwc⟩:=hcut;subst hwc;have hki:(k:Int)≤(m:Int):=by omega
  have N:=aa (Bg L n k (by omega) hf (by rw [hm];exact K))
  have HMc:=aa hc;clear hf
  by_cases G:k<m∧L.getD k 0=n
  ·obtain ⟨R,U⟩:=G
   have HE:Hid (cY L n=L):=by show _=_;rw [N.out,if_pos ⟨by omega,U⟩]
   have hki2:(k:Int)<(m:Int):=by omega
   have B:=W.out k (by omega)
   rw [U] at B;clear U K;go_wp2_with fail;go_ret;rw [HE.out];exact ⟨⟨some ⟨b,o,none⟩,cap,by rw [HM.out];rfl,HRs.out⟩,zS⟩
  have HE:Hid (cY L n=L.take k ++ [n] ++ L.drop k):=by show _=_;rw [N.out,if_neg (by rw [hm];exact G)]
  obtain ⟨w0,rfl⟩:∃ wx:World,wx=wc:=⟨_,rfl⟩;have hkn:k≤L.length:=by omega
  have hk63:k≤1000000:=by omega
  have hkc:(k:Int)≤(cap:Int):=by omega
  have X:Hid (∀ w',Bl w0 w'→∀ j u,((L.take k).map (Value.int .i64))[j]?=some u→w'.cell? ((⟨b,o,none⟩:Addr).add j)=some u):=fun w' hB=>by
   have h:=pd (w:=w') (b:=b) (o:=o) (L:=L) (fun j q=>aC hB hb (W.out j q)) 0 k (by omega)
   exact h
  have HDk:Hid (∀ w',Bl w0 w'→∀ j u,((L.drop k).map (Value.int .i64))[j]?=some u→w'.cell? ((⟨b,o+k,none⟩:Addr).add j)=some u):=fun w' hB=>by
   have h:=pd (w:=w') (b:=b) (o:=o) (L:=L) (fun j q=>aC hB hb (W.out j q)) k (L.length-k) (by omega)
   rw [List.take_of_length_le (by simp)] at h
   exact h
  rcases Nat.lt_or_ge k m with R | hgek
  ·have hki2:(k:Int)<(m:Int):=by omega
   have B:=W.out k (by omega)
   obtain ⟨x,T⟩:=az (L.getD k 0);have M:(x == n)=false:=by
    have:x≠n:=fun e=>G ⟨R,T.trans e⟩
    simpa using this
   rw [T] at B;clear T G K
   go_upto_region 7 with fail
   go_wp2_with (at_builtin;refine wpList_append_own_at _ rfl _ _ 26 rfl w0.heap.size 3 i0 _ 1 8 Tryz.underlying26 p v y z rfl (by decide) _ 0 [] rfl (World.ownsRow_nil _ w0.heap.size 3 1) ⟨b,o,none⟩ k cap ((L.take k).map (Value.int .i64)) rfl ?qc0 ?qc1 ?qc2 ?qc3 ?qc4 ?qc5 ?_)
   case qc0=>simp;omega
   case qc1=>exact X.out _ (zS)
   case qc2=>exact ms
   case qc3=>unfold maxLen;omega
   case qc4=>omega
   case qc5=>exact zT
   intro v1 w1 c a _ _;have s:Bl w0 w1:=(zS).grown a (zT) (fun j q=>by cases q)
   have d:w1.ownsRow w0.heap.size 3 1 v1 k ((L.take k).map (Value.int .i64)):=by simpa using c
   have C:=aa s;have D:=aa d;have S:=s.size;clear c a s d B
   go_wp2_with (at_builtin;refine wpList_append_own_at _ rfl _ _ 26 rfl w0.heap.size 3 i0 _ 1 8 Tryz.underlying26 p v y z rfl (by decide) _ k ((L.take k).map (Value.int .i64)) rfl (an D.out ((zS).alloc (zT) _)) ⟨w1.heap.size,0,none⟩ 1 1 [.int .i64 n] rfl rfl ?qd1 ?qd2 ?qd3 ?qd4 ?qd5 ?_)
   case qd1=>exact cell_one_new _ _ _
   case qd2=>intro u I;simp at I;subst I;rfl
   case qd3=>unfold maxLen;omega
   case qd4=>omega
   case qd5=>simp;omega
   intro v2 w2 c a _ _;have t:Bl w0 w2:=(C.out.alloc S _).grown a (by simp;omega) (fun j q=>(D.out.lt j q).1)
   have J:=aa t;have f:w2.ownsRow w0.heap.size 3 1 v2 (k+1) ((L.take k ++ [n]).map (Value.int .i64)):=by simpa [List.map_append] using c
   have E:=aa f;have H:=t.size;clear c a t f
   go_wp2_with (at_builtin;refine wpList_append_own_at _ rfl _ _ 26 rfl w0.heap.size 3 i0 _ 1 8 Tryz.underlying26 p v y z rfl (by decide) _ (k+1) ((L.take k ++ [n]).map (Value.int .i64)) rfl E.out ⟨b,o+k,none⟩ (m-k) (cap-k) ((L.drop k).map (Value.int .i64)) rfl ?qe0 ?qe1 ?qe2 ?qe3 ?qe4 ?qe5 ?_)
   case qe0=>simp;omega
   case qe1=>exact HDk.out _ J.out
   case qe2=>exact ms
   case qe3=>unfold maxLen;omega
   case qe4=>omega
   case qe5=>exact H
   intro v3 w3 c a _ _;have O:Hid (Bl w0 w3):=J.out.grown a H (fun j q=>(E.out.lt j q).1)
   have r:(L.take k ++ [n] ++ L.drop k).length=k+1+(m-k):=by simp;omega
   have l:w3.ownsRow w0.heap.size 3 1 v3 (L.take k ++ [n] ++ L.drop k).length ((L.take k ++ [n] ++ L.drop k).map (Value.int .i64)):=by
    rw [r]
    simpa [List.map_append] using c
   have P:=aa (bQ (L:=L.take k ++ [n] ++ L.drop k) l);clear c a l r;go_wp2_with fail;go_ret;obtain ⟨A3,c3,rfl,Z⟩:=P.out;rw [HE.out];exact ⟨⟨A3,c3,rfl,Or.inr ⟨by simp,Z⟩⟩,O.out⟩
  have Q:k=m:=by omega
  subst Q;clear G K;obtain ⟨ad,u9⟩:∃ ad:Addr,(if cap=k then some (⟨b,o,none⟩:Addr) else some ⟨b,o+k,none⟩)=some ad:=by split <;> exact ⟨_,rfl⟩
  have HAd:=aa u9;clear u9
  go_upto_region 7 with fail
  go_wp2_with (at_builtin;refine wpList_append_own_at _ rfl _ _ 26 rfl w0.heap.size 3 i0 _ 1 8 Tryz.underlying26 p v y z rfl (by decide) _ 0 [] rfl (World.ownsRow_nil _ w0.heap.size 3 1) ⟨b,o,none⟩ k cap ((L.take k).map (Value.int .i64)) rfl ?qc0 ?qc1 ?qc2 ?qc3 ?qc4 ?qc5 ?_)
  case qc0=>simp;omega
  case qc1=>exact X.out _ (zS)
  case qc2=>exact ms
  case qc3=>unfold maxLen;omega
  case qc4=>omega
  case qc5=>exact zT
  intro v1 w1 c a _ _;have s:Bl w0 w1:=(zS).grown a (zT) (fun j q=>by cases q)
  have d:w1.ownsRow w0.heap.size 3 1 v1 k ((L.take k).map (Value.int .i64)):=by simpa using c
  have C:=aa s;have D:=aa d;have S:=s.size;clear c a s d
  go_wp2_with (at_builtin;refine wpList_append_own_at _ rfl _ _ 26 rfl w0.heap.size 3 i0 _ 1 8 Tryz.underlying26 p v y z rfl (by decide) _ k ((L.take k).map (Value.int .i64)) rfl (an D.out ((zS).alloc (zT) _)) ⟨w1.heap.size,0,none⟩ 1 1 [.int .i64 n] rfl rfl ?qd1 ?qd2 ?qd3 ?qd4 ?qd5 ?_)
  case qd1=>exact cell_one_new _ _ _
  case qd2=>intro u I;simp at I;subst I;rfl
  case qd3=>unfold maxLen;omega
  case qd4=>omega
  case qd5=>simp;omega
  intro v2 w2 c a _ _;have t:Bl w0 w2:=(C.out.alloc S _).grown a (by simp;omega) (fun j q=>(D.out.lt j q).1)
  have J:=aa t;have f:w2.ownsRow w0.heap.size 3 1 v2 (k+1) ((L.take k ++ [n]).map (Value.int .i64)):=by simpa [List.map_append] using c
  have E:=aa f;have H:=t.size;clear c a t f
  go_wp2_with (at_builtin;refine wpList_append_own_at _ rfl _ _ 26 rfl w0.heap.size 3 i0 _ 1 8 Tryz.underlying26 p v y z rfl (by decide) _ (k+1) ((L.take k ++ [n]).map (Value.int .i64)) rfl E.out ad 0 (cap-k) [] (by rw [←HAd.out];rfl) ?qe0 ?qe1 ?qe2 ?qe3 ?qe4 ?qe5 ?_)
  case qe0=>rfl
  case qe1=>intro j u q;simp at q
  case qe2=>intro u I;simp at I
  case qe3=>unfold maxLen;omega
  case qe4=>omega
  case qe5=>exact H
  all_goals
   intro v3 w3 c a _ _;have O:Hid (Bl w0 w3):=J.out.grown a H (fun j q=>(E.out.lt j q).1)
   have K0:L.drop k=[]:=List.drop_of_length_le (by omega)
   have r:(L.take k ++ [n] ++ L.drop k).length=k+1:=by rw [K0];simp;omega
   have l:w3.ownsRow w0.heap.size 3 1 v3 (L.take k ++ [n] ++ L.drop k).length ((L.take k ++ [n] ++ L.drop k).map (Value.int .i64)):=by
    rw [r,K0]
    simpa [List.map_append] using c
   have P:=aa (bQ (L:=L.take k ++ [n] ++ L.drop k) l);clear c a l r;go_wp2_with fail;go_ret;obtain ⟨A3,c3,rfl,Z⟩:=P.out;rw [HE.out];exact ⟨⟨A3,c3,rfl,Or.inr ⟨by simp,Z⟩⟩,O.out⟩
def eA (N:List ByteArray) (C:List (Int×Int)) (l:List Nd) (k:Nat):List (Int×Int):=(List.range k).map fun i=>eB N C (aF l i)
section
variable {N:List ByteArray} {C:List (Int×Int)} {l:List Nd} {k i:Nat}
theorem told_len:(eA N C l k).length=k:=by simp [eA]
theorem tn (h:i<k):(eA N C l k).getD i noC=eB N C (aF l i):=by simp [eA,List.getD,h]
theorem DU:eA N C l (k+1)=eA N C l k ++ [eB N C (aF l k)]:=by simp [eA,List.range_succ]
theorem IR (b:∀ c∈C,pu c):∀ c∈eA N C l k,pu c:=by
 intro c a;simp only [eA,List.mem_map] at a;obtain ⟨i,-,rfl⟩:=a;exact zp N b _
theorem FQ (e:oa l) (d:k<l.length) (f:ji N l k=false):qy N C (eA N C l k) (l.getD k bO)=eB N C (aF l k)∧sJ N (l.getD k bO)=0:=by
 have h:=lu (e k d)
 by_cases g:(l.getD k bO).op=1
 ·obtain ⟨a,b⟩:=uW (N:=N) (C:=C) (T:=eA N C l k) g
  rw [a,b,qj g];exact ⟨rfl,rfl⟩
 by_cases c:(l.getD k bO).op=2
 ·obtain ⟨a,b⟩:=sL (N:=N) (C:=C) (T:=eA N C l k) c
  unfold ji at f;rw [decide_eq_true c,Bool.true_and] at f;have i:=of_decide_eq_false f;rw [a,b,lX c];unfold D4 Fh;rw [if_pos (by omega),if_pos (by omega)]
  exact ⟨rfl,rfl⟩
 obtain ⟨a,b⟩:=AY (N:=N) (C:=C) (T:=eA N C l k) (x:=l.getD k bO) (by omega)
 obtain ⟨a1,a2,a3,a4⟩:=fh (e k d) (by omega)
 rw [a,b,lW e d (by omega),tn (by omega),tn (by omega)]
 exact ⟨rfl,rfl⟩
theorem FP (a:ji N l k=true):sJ N (l.getD k bO)=5:=by
 simp only [ji,Bool.and_eq_true,decide_eq_true_eq] at a;rw [(sL (N:=N) (C:=[]) (T:=[]) a.1).2];unfold Fh;rw [if_neg (by omega)]
end
theorem zJ {w:World} {base:Nat} {v:Value} {T:List (Int×Int)} (h:w.ownsRow base 52 2 v T.length (bL T)):∃ A c,v=.slice A T.length c∧dx w A c T:=by
 by_cases b:0<T.length
 ·obtain ⟨g,c,rfl,-,d,e,f⟩:=ou h b
  exact ⟨_,_,rfl,d,e,Or.inr ⟨g,0,rfl,f.celAt⟩⟩
 have j:T=[]:=List.eq_nil_of_length_eq_zero (by omega)
 subst j
 rcases h.2 with ⟨rfl,_⟩ | ⟨g,cap,a,rfl,n,o,k,i,l,m⟩
 ·exact ⟨none,0,rfl,dx.nil _ _ _ (by omega)⟩
 exact ⟨_,_,rfl,dx.nil _ _ _ (by unfold maxLen at i;omega)⟩
theorem J9 {w:World} {n:Nat} (a:w.heap.size=n) (c:Int×Int):∀ j u,(bL [c])[j]?=some u→(w.alloc (.cells #[.int .i64 c.1,.int .i64 c.2] 52)).cell? ((⟨n,0,none⟩:Addr).add j)=some u:=by
 subst a;exact World.news_of_block (cs := #[.int .i64 c.1,.int .i64 c.2]) (t:=52) (fr:=(0,0)) (heap_alloc_new _ _)
theorem D8.later {a q r:Nat} {w w':World} {N:List ByteArray} {C:List (Int×Int)} (h:D8 a q r w N C) (b:Bl w w'):D8 a q r w' N C:=fun x w'' c=>h x w'' (ae b c)
theorem BT (fn q r:Nat) (S:∀ (args:Array Value) (w:World),(callFunc fn args).run Tryz.prog w=.ok (.enter fn args) w) (N:List ByteArray) (C:List (Int×Int)) (A:Option Addr) (cap:Nat) (l:List Nd) (w:World) (hN:gt w A cap l) (hl:aA l=0) (hC:∀ c∈C,pu c) (Q:D8 fn q r w N C) :
  Rt 146 #[.slice A l.length cap,.func (.func fn) #[] #[.pointer (some ⟨q,0,none⟩),.pointer (some ⟨r,0,none⟩)]] w (.tuple #[.agg #[.int .i64 (if missT N (aF l (l.length-1))=true then noC else eB N C (aF l (l.length-1))).1,.int .i64 (if missT N (aF l (l.length-1))=true then noC else eB N C (aF l (l.length-1))).2],errV (if missT N (aF l (l.length-1))=true then 5 else 0)]):=by
 obtain ⟨i0,hi0,hz0,hz1,hz2⟩:=info_parts Tryz.infoCe;obtain ⟨hp,h30,hg,-⟩:=dD hl;obtain ⟨-,-,h1 | ⟨b,o,rfl,hNA⟩⟩:=hN
 ·rw [h1] at hp;simp at hp
 obtain ⟨R,B⟩:=az ((if missT N (aF l (l.length-1))=true then noC else eB N C (aF l (l.length-1))))
 obtain ⟨E,I⟩:∃ E:Int,(if missT N (aF l (l.length-1))=true then 5 else 0)=E:=⟨_,rfl⟩
 have V:Hid (∀ i,i<l.length→ji N l i=true→R=noC∧E=5):=fun i hi t=>by
  rw [←B,←I,if_pos (uM hl hi t),if_pos (uM hl hi t)];exact ⟨rfl,rfl⟩
 have U:Hid ((∀ i,i<l.length→ji N l i=false)→R=eB N C (aF l (l.length-1))∧E=0):=fun t=>by
  rw [←B,←I,Hy hl t];exact ⟨rfl,rfl⟩
 rw [B,I];have HN:=aa hNA;have HL:=aa hg;have HC:=aa hC;have HA:=aa Q;have K0:=aa S;obtain ⟨n,hn⟩:=az l.length;have u:=aa hn;rw [hn] at h30 hp ⊢;have hni:(n:Int)≤30:=by omega
 have hn0:0<(n:Int):=by omega
 clear hl hNA hC Q hg B I hn S
 go_enter Tryz.func146,Tryz.ntmps146
 obtain ⟨W0,K⟩:=az (w.alloc (.cells #[.int .i64 0,.int .i64 0] 52));have hsW:W0.heap.size=w.heap.size+1:=by rw [←K];simp
 have hBW:Bl w W0:=by rw [←K];exact (zS).alloc (zT) _
 have q0:=aa hBW;have hA0:W0.heap[w.heap.size]?=some (.cells #[.int .i64 0,.int .i64 0] 52 (0,0)):=by rw [←K];exact heap_alloc_new _ _
 have Z:=aa hA0;have z:=aa hsW;clear hBW hA0 hsW
 go_wp2_with (at_make;refine wpList_make_own _ rfl _ _ 45 rfl (w.heap.size+1) 52 i0 _ 2 Tryz.underlying45 hi0 hz0 hz1 _ _ _ n rfl rfl rfl ?qb1 ?qb2 ?qb3 ?_)
 case qb1=>rw [hz2];omega
 case qb2=>unfold maxLen;omega
 case qb3=>rw [z.out];exact zT
 intro w1 G d;have hB1:Bl W0 w1:=⟨d.os,d.tape,d.output,d.size,fun k hk=>d.block k hk (by simp)⟩
 have HB1:=aa hB1;have HO1:=aa G;clear G d hB1 K;go_wp2_with fail
 go_loopg [6,16] n (fun g s6 s16 wr => ∃ (k:Nat),k≤n∧g=n-k∧s16=.int .i64 k∧wr.ownsRow (w.heap.size+1) 52 2 s6 (eA N C l k).length (bL (eA N C l k))∧(∀ j,j<k→ji N l j=false)∧Bl W0 wr)
 case atStart=>exact ⟨0,zU,rfl,rfl,HO1.out,fun j hj=>absurd hj (Nat.not_lt_zero j),HB1.out⟩
 case round =>
  obtain ⟨k,hk,rfl,rfl,F,hms,J⟩:=hrel;obtain ⟨At,ct,rfl,P⟩:=zJ F;have HO:=aa F;have K2:=aa hms;have HW:=aa J;have O:=aa P;have T:=aa (ae q0.out J);have hsz:=J.size;clear F hms J P
  by_cases M:k<n
  ·have hki:(k:Int)<(n:Int):=by omega
   obtain ⟨x0,x1,x2,x3,x4⟩:=(HN.out.later T.out).nd (k:=k) (by rw [u.out];exact M)
   have hbl:b<w.heap.size:=HN.out.1;have hgk:=HL.out k (by rw [u.out];exact M)
   have a:=fun w' (hb:Bl wr w')=>Dt fn q r K0.out N C (eA N C l k) At ct (l.getD k bO) w' (by rw [told_len];exact hgk) (by rw [told_len];omega) (O.out.later hb) (IR HC.out) (HA.out.later (ae T.out hb))
   rw [told_len] at a ⊢;obtain ⟨x,hx⟩:=az (l.getD k bO);have HX:=aa hx;rw [hx] at x0 x1 x2 x3 x4 a;rw [ge] at a;clear hx hgk;cases t:ji N l k
   ·obtain ⟨e1,W⟩:=FQ (C:=C) HL.out (by rw [u.out];exact M) t
    rw [HX.out] at e1 W;rw [e1,W,errV_zero] at a;obtain ⟨c,Y⟩:=az (eB N C (aF l k));have HCv:=aa Y;have HM:=aa t;rw [Y] at a;clear e1 W Y t;go_wp2_with fail;refine (a _ (by go_grown)).mono ?_
    rintro e w2 ⟨rfl,D⟩;have f:Bl wr w2:=ae (by go_grown) D
    have p:=aa (ae HW.out f);have K3:Hid (w2.ownsRow (w.heap.size+1) 52 2 (.slice At k ct) k (bL (eA N C l k))):=by have h:=an HO.out f;rw [told_len] at h;exact h
    have hz2':=f.size;clear D f a
    go_wp2_with (at_builtin;refine wpList_append_own _ rfl _ _ 45 rfl (w.heap.size+1) 52 i0 _ 2 16 Tryz.underlying45 hi0 hz0 hz1 hz2 rfl (by decide) _ k _ rfl (an K3.out ?qc0) ⟨w2.heap.size+1,0,none⟩ 1 1 (bL [c]) rfl rfl ?qc1 (oA _) ?qc2 ?qc3 ?qc4 ?_)
    case qc0=>go_grown
    case qc1=>exact J9 (by simp) c
    case qc2=>unfold maxLen;omega
    case qc3=>omega
    case qc4=>have:=z.out;simp;omega
    intro v4 w4 H s _;have HB4:Hid (Bl W0 w4):=((p.out.alloc p.out.size _).alloc (by have:=p.out.size;simp;omega) _).grown s (by have:=p.out.size;simp;omega) (fun j hj=>by have h1:=(K3.out.lt j hj).1;have h2:=z.out;omega)
    have HO4:Hid (w4.ownsRow (w.heap.size+1) 52 2 v4 (eA N C l (k+1)).length (bL (eA N C l (k+1)))):=by
     show World.ownsRow ..
     rw [DU,cellsC_append,List.length_append,told_len,HCv.out];exact H
    clear H s;go_wp2_with fail
    go_roundg (n-(k+1))
    case measure=>omega
    case rel=>exact ⟨k+1,by omega,rfl,by go_num,HO4.out,fun j hj=>by rcases Nat.lt_succ_iff_lt_or_eq.1 hj with h | h;exact K2.out j h;rw [h];exact HM.out,HB4.out⟩
   have W:=FP (N:=N) (l:=l) (k:=k) t;rw [HX.out] at W;rw [W,ak (by decide)] at a
   obtain ⟨B,I⟩:=V.out k (by rw [u.out];exact M) t
   have HR:=aa B;have HE:=aa I;obtain ⟨c,Y⟩:=az (qy N C (eA N C l k) x);rw [Y] at a;clear W Y t B I;go_wp2_with fail;refine (a _ (by go_grown)).mono ?_
   rintro e w2 ⟨rfl,D⟩;have f:Bl wr w2:=ae (by go_grown) D
   have p:=aa (ae HW.out f);have hz2':=f.size;have y:=(p.out.block w.heap.size (by have:=z.out;omega)).trans Z.out
   have r1:w.heap.size<w2.heap.size:=(zY y).1;have r2:w2.cell? ⟨w.heap.size,0,none⟩=some (.int .i64 0):=by simp [World.cell?,y]
   have r3:w2.cell? ⟨w.heap.size,1,none⟩=some (.int .i64 0):=by simp [World.cell?,y]
   have rf0:w2.frozen? ⟨w.heap.size,0,none⟩=false:=by simp [World.frozen?,y]
   have rf1:w2.frozen? ⟨w.heap.size,1,none⟩=false:=by simp [World.frozen?,y]
   clear y;clear D f a;go_wp2_with fail;refine bodyPost_ret (v:=.tuple #[.agg #[.int .i64 R.1,.int .i64 R.2],errV E]) (by rw [HR.out,HE.out];simp [results,Tryz.results146,go_sem,r2,r3,r1,noC,ak]) rfl ⟨rfl,?_⟩
   have hf:=ae q0.out p.out
   first | exact ((hf.setCell (zT) _).setCell (zT) _).alloc (by have:=hf.size;simp;omega) _ | exact (((hf.alloc hf.size _).setCell (zT) _).setCell (zT) _)
  have hke:k=n:=by omega
  subst hke;obtain ⟨B,I⟩:=U.out (fun i hi=>K2.out i (by rw [←u.out];exact hi))
  have HE:=aa I;have L:(eA N C l k).length=k:=told_len;obtain ⟨-,-,h0 | ⟨g,og,rfl,X⟩⟩:=O.out
  ·rw [h0] at L;simp at L;omega
  obtain ⟨y0,y1⟩:=X.2 (k-1) (by rw [told_len];omega)
  have hgl:=X.1;rw [tn (by omega)] at y0 y1
  rw [u.out] at B;rw [←B] at y0 y1;have y:=(HW.out.block w.heap.size (by have:=z.out;omega)).trans Z.out
  have r1:w.heap.size<wr.heap.size:=(zY y).1;have r2:wr.cell? ⟨w.heap.size,0,none⟩=some (.int .i64 0):=by simp [World.cell?,y]
  have r3:wr.cell? ⟨w.heap.size,1,none⟩=some (.int .i64 0):=by simp [World.cell?,y]
  have rf0:wr.frozen? ⟨w.heap.size,0,none⟩=false:=by simp [World.frozen?,y]
  have rf1:wr.frozen? ⟨w.heap.size,1,none⟩=false:=by simp [World.frozen?,y]
  obtain ⟨m,t⟩:=az (k-1);rw [t] at y0 y1;have hsub:(k:Int)-1=(m:Int):=by omega
  have hmk:(m:Int)<(k:Int):=by omega
  rw [L];clear y X B I L t;go_wp2_with fail;refine bodyPost_ret (v:=.tuple #[.agg #[.int .i64 R.1,.int .i64 R.2],errV E]) (by rw [HE.out];simp [results,Tryz.results146,go_sem,r2,r3,errV_zero]) rfl ⟨rfl,?_⟩
  exact (T.out.setCell (zT) _).setCell (zT) _
end Go.Proofs.YtohgnbgamfepoaaGreatDoor
