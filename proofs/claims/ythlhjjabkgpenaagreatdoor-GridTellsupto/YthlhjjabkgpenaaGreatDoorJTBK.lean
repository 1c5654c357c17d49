/- What namesOf, textsOf -/
import Derived.Test.YthlhjjabkgpenaaGreatDoorShelfJ
import Derived.Test.YthlhjjabkgpenaaGreatDoorJTBH
import Derived.Test.YthlhjjabkgpenaaGreatDoorJTBJ
namespace Go.Proofs.YthlhjjabkgpenaaGreatDoor
open ChangeShapes WideShapes ChangeAt RowKit
set_option maxRecDepth 99999
set_option maxHeartbeats 0
def lnB (s:ByteArray) (L:List ByteArray):ByteArray:=⟨(s.data.toList ++ Lib.joinTail [32] (L.map (·.data.toList))).toArray⟩
theorem DR (s:ByteArray) (L:List ByteArray):(⟨(Lib.join ((s :: L).map (·.data.toList)) (ByteArray.mk #[32]).data.toList).toArray⟩:ByteArray)=lnB s L:=by
 unfold lnB;rw [List.map_cons,Lib.join_cons]
theorem yN (s:ByteArray):lnB s []=s:=by simp [lnB,Lib.joinTail]
theorem tJ (s x:ByteArray) (L:List ByteArray):lnB s (L ++ [x])=(lnB s L ++ ⟨#[32]⟩) ++ x:=by
 apply ByteArray.ext
 simp [lnB,Lib.joinTail,ByteArray.data_append]
theorem o9 (m:Nat):∀ L:List ByteArray,(∀ x∈L,x.size≤m)→(Lib.joinTail [32] (L.map (·.data.toList))).length≤L.length*(m+1)
 | [],_=>by simp [Lib.joinTail]
 | x :: r,h=>by
  have a:=o9 m r fun y b=>h y (List.mem_cons_of_mem _ b)
  have c:=h x (List.mem_cons_self ..);have d:x.data.toList.length=x.size:=by simp
  simp only [Lib.joinTail,List.map_cons,List.flatten_cons,List.length_append,List.length_cons,List.length_nil,Nat.add_mul] at a ⊢
  omega
theorem tI (m:Nat) (s:ByteArray) (L:List ByteArray) (h:∀ x∈L,x.size≤m):(lnB s L).size≤s.size+L.length*(m+1):=by
 have a:=o9 m L h;have b:s.data.toList.length=s.size:=by simp
 have e:(lnB s L).size=s.data.toList.length+(Lib.joinTail [32] (L.map (·.data.toList))).length:=by
  unfold lnB
  show (List.toArray _).size=_
  rw [List.size_toArray,List.length_append]
 omega
theorem Tryz.extra156:Builder.Extra Tryz.prog Tryz.lays156_ren:={
 sizeBuilder:=by kernel_rfl
 liesBuilder:=by kernel_rfl
 t5:=Tryz.underlying5
 a5:=Tryz.isAgg5
 z5:=Tryz.sizeOf5
 v5:=Tryz.zeroValue5
 infoByte:=by kernel_rfl
 cellsByte:=by kernel_rfl
 sizeByte:=by kernel_rfl
 neB5:=by decide }
theorem str_cells {w:World} {base n:Nat} {v:Value} {L:List ByteArray} (h:w.ownsRow base 9 1 v n (L.map Value.string)) (m:L.length=n):(v=.slice none 0 0∧L=[])∨∃ g c,v=.slice (some ⟨g,0,none⟩) n c∧n≤c∧c≤9223372036854775807∧g<w.heap.size∧∀ (j:Nat) x,L[j]?=some x→w.cell? ⟨g,0+j,none⟩=some (.string x):=by
 rcases h.2 with ⟨b,k⟩ | ⟨g,cap,a,rfl,l,f,d,e,-,-⟩
 ·exact Or.inl ⟨b,List.eq_nil_of_length_eq_zero (by omega)⟩
 refine Or.inr ⟨g,cap,rfl,d,by unfold maxLen at e;omega,(zY f).1,fun j x i=>?_⟩
 have:=h.cells (g:=g) rfl j (.string x) (by rw [List.getElem?_map,i];rfl)
 rw [bS] at this;exact this
theorem qh (s:ByteArray) (v:Value) (base l:Nat) (L:List ByteArray) (w:World) (hs:s.size≤30) (o:L.length=l) (T:l≤1048576) (G:∀ x∈L,x.size≤30) (E:w.ownsRow base 9 1 v l (L.map Value.string)) :
  Rt 44 #[.string s,v] w (.string (lnB s L)):=by
 obtain ⟨i0,r,H,I,J⟩:=info_parts Tryz.infoStrF;have f:∀ (g c:Nat) (w':World),(∀ (j:Nat) x,(s :: L)[j]?=some x→w'.cell? ⟨g,0+j,none⟩=some (.string x))→g<w'.heap.size→l+1≤c→Rt 78 #[.slice (some ⟨g,0,none⟩) (l+1) c,.string ⟨#[32]⟩] w' (.string (lnB s L)):=fun g c w' A R Y=>by
  have h:=Any.strings_Join Tryz.lays156 Tryz.extra156 g 0 c (s :: L) ⟨#[32]⟩ w' A R (by simp;omega) (by simp;omega) (by
   rw [List.map_cons,Lib.join_cons,List.length_append];have S:=o9 30 L G;have Z:s.data.toList.length=s.size:=by simp
   have h6:(Lib.joinTail (ByteArray.mk #[32]).data.toList (L.map (·.data.toList))).length≤L.length*31:=S
   omega)
  rw [DR,List.length_cons,o] at h;exact h
 have K:=aa f;have M:=aa o;have p:Bl w (w.alloc (.cells #[.string s] 9)):=by go_grown
 rcases str_cells E o with ⟨rfl,rfl⟩ | ⟨g,c,rfl,hc,U,hg,q⟩
 ·have t:l=0:=by simpa using o.symm
  have P:Hid (∀ (w':World),Below (w.alloc (.cells #[.string s] 9)).heap.size (w.alloc (.cells #[.string s] 9)) w'→Rt 78 #[.slice (some ⟨w.heap.size,0,none⟩) 1 1,.string ⟨#[32]⟩] w' (.string (lnB s []))):=fun w' N=>by
   have h:=f w.heap.size 1 w' (fun j x b=>by
    match j,b with
    | 0,b =>
     cases b;exact aL N (by simp) ((Lib.cell_of_heap (heap_alloc_new w _) 0).trans rfl)) (by have:=N.size;simp at this;omega) (by omega)
   rw [t] at h;exact h
  clear G E f o T K M t
  go_enter Tryz.func44,Tryz.ntmps44
  go_wp2_with (at_builtin;refine wpList_append_own_none rfl _ _ 51 rfl w.heap.size 9 i0 1 Tryz.underlying51 r _ 1 [.string s] rfl (World.ownsRow_lit w #[.string s] 1 (zT) (by unfold maxLen;omega) (by simp)) rfl ?_)
  go_wp2_with fail;refine (P.out _ (zS)).mono ?_;rintro e w2 ⟨rfl,n⟩;go_wp2_with fail;go_ret;exact ⟨rfl,ae p n⟩
 have z:∀ j u,(L.map Value.string)[j]?=some u→(w.alloc (.cells #[.string s] 9)).cell? ((⟨g,0,none⟩:Addr).add j)=some u:=fun j u b=>by
  rw [List.getElem?_map] at b;cases h:L[j]? with
  | none=>rw [h] at b;cases b
  | some x =>
   rw [h] at b;cases b;rw [bS];exact Lib.cell?_alloc_some _ (q j x h)
 have D:=aa z;have A:∀ u∈L.map Value.string,u.oneCell'=true:=fun u X=>by obtain ⟨x,-,rfl⟩:=List.mem_map.1 X;rfl
 have O:=aa A;have y:(L.map Value.string).length=l*1:=by simp [o]
 have C:=aa y;clear G E f o q z A y
 go_enter Tryz.func44,Tryz.ntmps44
 go_wp2_with (at_builtin;refine wpList_append_own _ rfl _ _ 51 rfl w.heap.size 9 i0 (.string ⟨#[]⟩) 1 16 Tryz.underlying51 r H I J rfl (by decide) _ 1 [.string s] rfl (World.ownsRow_lit w #[.string s] 1 (zT) (by unfold maxLen;omega) (by simp)) ⟨g,0,none⟩ l c (L.map Value.string) rfl ?q1 ?q2 ?q3 ?q4 ?q5 ?q6 ?_)
 case q1=>exact C.out
 case q2=>exact D.out
 case q3=>exact O.out
 case q4=>unfold maxLen;omega
 case q5=>omega
 case q6=>simp
 intro v' w1 m a _;have B:Hid (Bl w w1):=p.grown a (by simp) (by intro k W;simp [Value.ownBlock] at W;omega)
 have d:w1.ownsRow w.heap.size 9 1 v' (1+l) ((s :: L).map Value.string):=m
 rcases str_cells d (by rw [List.length_cons,M.out];omega) with ⟨-,Q⟩ | ⟨g2,c2,rfl,V,-,F,i⟩
 ·cases Q
 rw [Nat.add_comm 1 l];have b:=K.out g2 c2 w1 i F (by omega)
 clear m d a i;go_wp2_with fail;refine b.mono ?_;rintro e w2 ⟨rfl,n⟩;go_wp2_with fail;go_ret;exact ⟨rfl,ae B.out n⟩
def tj (M:Nat→Mem) (K:List Int):List ByteArray:=K.map fun k=>(M k.toNat).name
def mQ (x:Int×Int):ByteArray:=⟨(iZ x.1 x.2).toArray⟩
theorem pn {x:Int×Int} (h:good x.1 x.2=true):(mQ x).size≤30:=by
 obtain ⟨b1,b2⟩:=bO h;have a:=Lib.itoa_length_le x.2 (by omega) (by omega)
 have e:(mQ x).size=(iZ x.1 x.2).length:=by
  unfold mQ
  show (List.toArray _).size=_
  rw [List.size_toArray]
 rw [e];unfold iZ
 split
 ·decide
 split
 ·decide
 omega
theorem jm {α β:Type} (f:α→β) (L:List α) (d:α) {k:Nat} (h:k<L.length):(L.map f).take (k+1)=(L.map f).take k ++ [f (L.getD k d)]:=by
 rw [List.take_succ_eq_append_getElem (by simpa using h)]
 simp [List.getD,h]
theorem vN (b o m W:Nat) (M:Nat→Mem) (Ac:Option Addr) (O:Nat) (K:List Int) (w:World) (hm:m≤12) (Y:K.length≤1048576) (p:∀ k∈K,∃ j:Nat,k=j∧j<m) (P:b8 w b o m M) (Q:aO w Ac O K) :
  Calls Tryz.prog 45 #[.slice (some ⟨b,o,none⟩) m W,.slice Ac K.length O] w fun e w'=>(∃ v,e=.returned v∧w'.ownsRow w.heap.size 9 1 v K.length ((tj M K).map Value.string))∧Bl w w':=by
 obtain ⟨i0,B,E,F,H⟩:=info_parts Tryz.infoStrF;have I:=aa P;have U:=aa Q;have y:=aa p;obtain ⟨G,s⟩:=ax ((tj M K).map Value.string);have l:Hid (∀ k,k<K.length→G.take (k+1)=G.take k ++ [.string (M (K.getD k 0).toNat).name]):=fun k S=>by
  rw [←s];unfold tj;rw [List.map_map];exact jm _ K 0 S
 have i:Hid (G.length=K.length):=by show _=_;rw [←s];simp [tj]
 rw [s];obtain ⟨N,z⟩:=ax K.length;have J:=aa z;rw [z] at Y l i ⊢;have Z:(N:Int)≤1048576:=by omega
 have Lx:(m:Int)≤12:=by omega
 clear P Q p s z
 go_enter Tryz.func45,Tryz.ntmps45
 go_wp2_with fail
 go_loopg [5,10] N (fun gg s5 s10 wr => ∃ (k:Nat) (v:Value),k≤N∧gg=N-k∧s10=.int .i64 k∧v=s5∧Hid (wr.ownsRow w.heap.size 9 1 v k (G.take k))∧Hid (Bl w wr))
 case atStart=>exact ⟨0,_,zU,rfl,rfl,rfl,aa (by simpa using World.ownsRow_nil _ _ _ _),aa (zS)⟩
 case round =>
  obtain ⟨k,v,S,rfl,rfl,rfl,L,h⟩:=hrel
  by_cases q:k<N
  ·have d:k<K.length:=by rw [J.out];exact q
   have Lw:(k:Int)<(N:Int):=by omega
   obtain ⟨A,X | ⟨bk,ok,rfl,Lt,n⟩⟩:=U.out.later h.out
   ·rw [X] at d;simp at d
   have V:=n k d;obtain ⟨j,R,C⟩:=y.out _ (gK d);have r:=aa (l.out k q);rw [R] at V r;simp only [Int.toNat_natCast] at r;obtain ⟨n0,-,-,-⟩:=(I.out.later h.out).2 j C;have Lu:=(I.out.later h.out).1;have Lv:(j:Int)<(m:Int):=by omega
   rw [J.out] at A;have g:=L.out;have Lz:=h.out.size;generalize (M j).name=x at n0 r;clear n R
   go_wp2_with (at_builtin;refine wpList_append_own _ rfl _ _ 51 rfl w.heap.size 9 i0 (.string ⟨#[]⟩) 1 16 Tryz.underlying51 B E F H rfl (by decide) _ _ _ rfl (g.alloc _) ⟨wr.heap.size,0,none⟩ 1 1 [.string x] rfl rfl bu (by intro u T;simp at T;subst T;rfl) (by unfold maxLen;omega) (by omega) (by simp;omega) ?_)
   intro v' w3 c a _;have t:Hid (Bl w w3):=bA h.out g a;have f:Hid (w3.ownsRow w.heap.size 9 1 v' (k+1) (G.take (k+1))):=by
    show World.ownsRow ..
    rw [r.out];exact c
   clear c a g;go_wp2_with fail
   go_roundg (N-(k+1))
   case measure=>omega
   case rel=>exact ⟨k+1,_,by omega,rfl,by go_num,rfl,f,t⟩
  have D:k=N:=by omega
  subst D;have f:Hid (wr.ownsRow w.heap.size 9 1 v k G):=by
   have:=L.out;rw [List.take_of_length_le (by rw [i.out];exact zT)] at this
   exact this
  go_wp2_with fail;go_ret;exact ⟨⟨v,rfl,f.out⟩,h.out⟩
theorem vQ (A:Option Addr) (c:Nat) (L:List (Int×Int)) (w:World) (hL:L.length≤1048576) (T:jL L) (R:rf w) (S:dt w A c L) :
  Calls Tryz.prog 46 #[.slice A L.length c] w fun e w'=>(∃ v,e=.returned (.tuple #[v,.nilIface])∧w'.ownsRow w.heap.size 9 1 v L.length ((L.map mQ).map Value.string))∧Bl w w':=by
 obtain ⟨i0,I,K,M,O⟩:=info_parts Tryz.infoStrF;have Y:=aa S;have X:=aa R;have D:=aa T;obtain ⟨G,z⟩:=ax ((L.map mQ).map Value.string);have r:Hid (∀ k,k<L.length→G.take (k+1)=G.take k ++ [.string (mQ (L.getD k noC))]):=fun k U=>by
  rw [←z,List.map_map];exact jm _ L noC U
 have p:Hid (G.length=L.length):=by show _=_;rw [←z];simp
 rw [z];obtain ⟨N,F⟩:=ax L.length;have P:=aa F;rw [F] at hL r p ⊢;have hNI:(N:Int)≤1048576:=by omega
 clear S R T z F
 go_enter Tryz.func46,Tryz.ntmps46
 go_wp2_with fail
 go_loopg [4,11] N (fun gg s4 s11 wr => ∃ (k:Nat) (v:Value),k≤N∧gg=N-k∧s11=.int .i64 k∧v=s4∧Hid (wr.ownsRow w.heap.size 9 1 v k (G.take k))∧Hid (Bl w wr))
 case atStart=>exact ⟨0,_,zU,rfl,rfl,rfl,aa (by simpa using World.ownsRow_nil _ _ _ _),aa (zS)⟩
 case round =>
  obtain ⟨k,v,U,rfl,rfl,rfl,Q,B⟩:=hrel
  by_cases s:k<N
  ·have f:k<L.length:=by rw [P.out];exact s
   have hki:(k:Int)<(N:Int):=by omega
   obtain ⟨H,-,Z | ⟨bk,ok,rfl,h⟩⟩:=Y.out.later B.out
   ·rw [Z] at f;simp at f
   obtain ⟨x0,x1⟩:=h.2 k f;have hbk:=h.1;have q:=aa (r.out k s);have d:good (L.getD k noC).1 (L.getD k noC).2=true:=D.out _ (ku f);unfold mQ at q;rw [P.out] at H;generalize (L.getD k noC).1=va at x0 q d;generalize (L.getD k noC).2=vb at x1 q d;obtain ⟨y,W⟩:=ax (wr.alloc (.cells #[.int .i64 va,.int .i64 vb] 40));have i:Bl wr y:=by rw [←W];go_grown
   have t:y.heap[wr.heap.size]?=some (.cells #[.int .i64 va,.int .i64 vb] 40 (0,0)):=by rw [←W];exact heap_alloc_new ..
   obtain ⟨y0,y1,-,-⟩:=bP t;have o:=aa (ae B.out i);have E:=aa (ar Q.out i);have m:=BC va vb y (X.out.later o.out) d;generalize (⟨(iZ va vb).toArray⟩:ByteArray)=x at m q;clear t i h d;go_wp2_with fail;refine m.mono ?_;rintro e w2 ⟨rfl,l⟩;have n:=aa (ae o.out l);have j:=ar E.out l;have hsz:=n.out.size;clear l m
   go_wp2_with (at_builtin;refine wpList_append_own _ rfl _ _ 51 rfl w.heap.size 9 i0 (.string ⟨#[]⟩) 1 16 Tryz.underlying51 I K M O rfl (by decide) _ _ _ rfl (j.alloc _) ⟨w2.heap.size,0,none⟩ 1 1 [.string x] rfl rfl bu (by intro u V;simp at V;subst V;rfl) (by unfold maxLen;omega) (by omega) (by simp;omega) ?_)
   intro v' w3 b a _;have C:Hid (Bl w w3):=bA n.out j a;have g:Hid (w3.ownsRow w.heap.size 9 1 v' (k+1) (G.take (k+1))):=by
    show World.ownsRow ..
    rw [q.out];exact b
   clear b a j;go_wp2_with fail
   go_roundg (N-(k+1))
   case measure=>omega
   case rel=>exact ⟨k+1,_,by omega,rfl,by go_num,rfl,g,C⟩
  have J:k=N:=by omega
  subst J;have g:Hid (wr.ownsRow w.heap.size 9 1 v k G):=by
   have:=Q.out;rw [List.take_of_length_le (by rw [p.out];exact zT)] at this
   exact this
  go_wp2_with fail;go_returns;exact ⟨⟨v,rfl,g.out⟩,B.out⟩
theorem uS (A0:Option Addr) (cap n:Nat) (D:Nat→Dm) (A:Nat→Option Addr) (C:Nat→Nat) (ve:Value) (Ap:Option Addr) (cp:Nat) (L:List Int) (Ac:Option Addr) (cc:Nat) (CL:List (Int×Int)) (b m:Nat) (w:World) (hI:InO D n L) (hM:bd w A0 cap n D A C) (hP:aO w Ap cp L) (hC:dt w Ac cc CL) (hCL:CL.length=prodN D n) (H:jL CL) (hb:byTo D L n=(b:Int)) (hm:(L.getD b 0).toNat=m) (hf:((D b).mem m).formula.size=0) :
  Rt 22 #[.agg #[.slice A0 n cap],ve,.slice Ap L.length cp,.slice Ac CL.length cc] w (.agg #[.int .i64 (dT (D b) (fun z=>CL.getD (numI D (L.set b z) n).toNat noC) m).1,.int .i64 (dT (D b) (fun z=>CL.getD (numI D (L.set b z) n).toNat noC) m).2]):=by
 obtain ⟨hn1,hn4,hp3,hd⟩:=aw hI.right;have t:b<n:=by
  rcases by_in D L n with h | ⟨b',h1,Q⟩ <;> omega
 obtain ⟨hd1,V⟩:=hd b t;have hdk:=(eA hI.right).2 b t;have hp0:=hI.lo b t;have hp1:=hI.hi b t;have hmn:m<(D b).n:=by omega
 have hLb:L.getD b 0=(m:Int):=by omega
 have hl:=hI.len;obtain ⟨W,hW⟩:=ax ((w.alloc (.cells #[.slice A0 n cap] 24)).alloc (.cells #[.int .i64 0,.int .i64 0] 40));have LA:Bl w W:=by rw [←hW];go_grown
 have hk1:W.heap[w.heap.size+1]?=some (.cells #[.int .i64 0,.int .i64 0] 40 (0,0)):=by rw [←hW];exact jR _ _ _
 have LG:W.heap[w.heap.size]?=some (.cells #[.slice A0 n cap] 24 (0,0)):=by rw [←hW];exact pk _ _ _
 have d0:W.cell? ⟨w.heap.size,0,none⟩=some (.slice A0 n cap):=by simp [World.cell?,LG]
 have LI:w.heap.size<W.heap.size:=(zY LG).1;have F:w.heap.size+1<W.heap.size:=(zY hk1).1;have LE:=mK A0 cap n D A C Ap cp L W hI (hM.later LA) (hP.later LA);rw [hb] at LE;have HB0:=aa LA;have HK:Hid (W.heap[w.heap.size]?=some (.cells #[.slice A0 n cap] 24 (0,0))∧W.heap[w.heap.size+1]?=some (.cells #[.int .i64 0,.int .i64 0] 40 (0,0))):=⟨LG,hk1⟩;have HM:=aa hM;have HP:=aa hP;have HC:=aa hC;have HI:=aa hI;have HSg:Hid (Sg (D b).mem (D b).n):=Sg.of hdk;have HTr:Hid (Tr (D b).mem (D b).n):=Tr.of hdk;have HCL:=aa hCL;have HGd:=aa H;obtain ⟨f,hfe⟩:∃ f:Int→Int×Int,f=fun z=>CL.getD (numI D (L.set b z) n).toNat noC:=⟨_,rfl⟩
 have HFe:Hid (∀ z,f z=CL.getD (numI D (L.set b z) n).toNat noC):=fun z=>by rw [hfe]
 rw [←hfe];have J:Hid (dT (D b) f m=(bj (D b).mem (D b).n m).foldl (aX (D b).mem f) (0,0)):=by
  show _=_
  unfold dT;rw [if_pos hf]
 have hf':((D b).mem m).formula.toList.isEmpty=true:=by rw [aN];simpa using hf
 rw [hl] at LE ⊢;obtain ⟨N,hN⟩:=ax CL.length;have HN:=aa hN;rw [hN];have LB:N≤3000:=by omega
 have hbI:(b:Int)<(n:Int):=by omega
 have hb0:decide ((b:Int)<0)=false:=decide_eq_false (by omega)
 have hnI:(n:Int)≤4:=by omega
 have hmI:(m:Int)<((D b).n:Int):=by omega
 have hdI:((D b).n:Int)≤12:=by omega
 have hNI:(N:Int)≤3000:=by omega
 clear hI hM hP hC hCL H hb hm hf hfe LA LG hk1 hdk hd hN hp0 hp1
 go_enter Tryz.func22,Tryz.ntmps22
 go_wp2_with fail;refine LE.mono ?_;rintro e w1 ⟨rfl,q⟩;have HB1:=aa q;have hB1:=ae HB0.out q;obtain ⟨hcap,x | ⟨bo,oo,rfl,hMs⟩⟩:=HM.out.later hB1
 ·omega
 have hcapI:(n:Int)≤(cap:Int):=by omega
 obtain ⟨q0,q1,q2,q3⟩:=hMs.2 b t;obtain ⟨-,x | ⟨bm,om,hAm,hMm⟩⟩:=q3
 ·omega
 rw [hAm] at q2;obtain ⟨hcp,x | ⟨bp,op,rfl,hbp,U⟩⟩:=HP.out
 ·rw [x] at hl;simp at hl;omega
 have hcpI:(n:Int)≤(cp:Int):=by omega
 have HPc:Hid (∀ w',Bl w w'→w'.cell? ⟨bp,op+b,none⟩=some (.int .i64 m)∧bp<w'.heap.size):=fun w' hB=>⟨by rw [←hLb];exact aL hB hbp (U b (by omega)),zW hbp hB.size⟩
 have cw1:=aL q LI d0;have hsw1:w.heap.size<w1.heap.size:=zW LI q.size;have hbo:bo<w1.heap.size:=hMs.1;have HMm:Hid (∀ w',Bl w w'→b8 w' bm om (D b).n (D b).mem):=fun w' hB=>by
  obtain ⟨-,x | ⟨b1,o1,h1,Q⟩⟩:=HM.out.later hB
  ·omega
  cases h1;obtain ⟨-,x | ⟨b2,o2,h3,h4⟩⟩:=(Q.2 b t).2.2.2
  ·omega
  rw [hAm] at h3;cases h3;exact h4
 obtain ⟨y1,u⟩:∃ y,w1.alloc (.cells #[.string (D b).name,.int .i64 (D b).solve,.slice (some ⟨bm,om,none⟩) (D b).n (C b)] 37)=y:=⟨_,rfl⟩;have B:Bl w1 y1:=by rw [←u];go_grown
 have K:Hid (rg w (some ⟨bo,oo,none⟩) cap n w1.heap.size (D b) (some ⟨bm,om,none⟩) (C b) y1):=by
  have x:=(B.block _ hsw1).trans ((q.block _ LI).trans HK.out.1);have Q:y1.heap[w1.heap.size]?=some (.cells #[.string (D b).name,.int .i64 (D b).solve,.slice (some ⟨bm,om,none⟩) (D b).n (C b)] 37 (0,0)):=by rw [←u];exact heap_alloc_new ..
  exact ⟨ae hB1 B,⟨(zY x).1,by simp [World.cell?,x]⟩,(B.block _ (zW F q.size)).trans ((q.block _ F).trans HK.out.2),(zY Q).1,by simp [World.cell?,Q],by simp [World.cell?,Q],by simp [World.cell?,Q]⟩
 obtain ⟨e1,e2,e3,e4⟩:=K.out.2.2.2;obtain ⟨pc,hbpy⟩:=HPc.out y1 K.out.1;have hMy:=HMm.out y1 K.out.1;obtain ⟨-,-,-,m3⟩:=hMy.2 m hmn;have hbmy:bm<y1.heap.size:=hMy.1;have hsb1:w.heap.size+1<w1.heap.size:=zW F q.size;clear q hB1 hMs hMm hAm U LE d0 B hMy;go_wp2_with fail
 go_quiet (fail)
 generalize hwj:y1.drewN nq=wj;have hBj:Bl y1 wj:=by rw [←hwj];exact ac (zS) _
 obtain ⟨y2,Y⟩:∃ y,wj.alloc (.cells #[.int .i64 0,.int .i64 0] 40)=y:=⟨_,rfl⟩;have hBy2:Bl wj y2:=by rw [←Y];go_grown
 have HBx2:Hid (y2.heap[wj.heap.size]?=some (.cells #[.int .i64 0,.int .i64 0] 40 (0,0))):=by show _=_;rw [←Y];exact heap_alloc_new ..
 have Lw:=aa (K.out.later (ae hBj hBy2));have hqk:wj.heap.size<y2.heap.size:=(zY HBx2.out).1;have hqd:w1.heap.size<wj.heap.size:=zW K.out.2.2.2.1 hBj.size;obtain ⟨e1',e2',e3',e4'⟩:=Lw.out.2.2.2;obtain ⟨pc',hbpy'⟩:=HPc.out y2 Lw.out.1;have HPt:Hid (∀ w',Bl y2 w'→Calls Tryz.prog 59 #[.agg #[.string (D b).name,.int .i64 (D b).solve,.slice (some ⟨bm,om,none⟩) (D b).n (C b)],.int .i64 m] w' fun e w''=>(∃ A c,e=.returned (.slice A (bj (D b).mem (D b).n m).length c)∧bU w'' A c (bj (D b).mem (D b).n m)∧∀ b o,A=some ⟨b,o,none⟩→w'.heap.size≤b)∧Bl w' w''):=fun w' hB=>xq (D b) bm om (C b) m w' V (HMm.out w' (ae Lw.out.1 hB))
 obtain ⟨P,LC⟩:=ax (bj (D b).mem (D b).n m);have HPm:Hid (∀ z∈P,∃ j:Nat,z=(j:Int)∧j<(D b).n):=fun z hz=>by
  rw [←LC] at hz;obtain ⟨j,h1,Q,-⟩:=dE z hz;exact ⟨j,h1,Q⟩
 have LD:P.length≤12:=by rw [←LC];exact zV (cS _ _) V
 rw [LC] at HPt J;obtain ⟨NP,hNP⟩:=ax P.length;have HNP:=aa hNP;rw [hNP] at HPt LD;clear hBj hBy2 LC hNP e1 e2 e3 e4 pc m3 hbpy q0 q1 q2 cw1 u;go_wp2_with fail
 go_cut [19] from 92 (fun s19 wx=>(∃ A c,s19=.slice A NP c∧bU wx A c P∧∀ b o,A=some ⟨b,o,none⟩→y2.heap.size≤b)∧Bl y2 wx)
 case first =>
  go_region_law ((go_simp;refine (HPt.out _ (by go_grown)).mono ?_;rintro e w3 ⟨⟨A3,c3,rfl,hI3,LB⟩,hb3⟩;have hB3:=ae (W0:=y2) (by go_grown) hb3;have hN3':∀ b o,A3=some ⟨b,o,none⟩→y2.heap.size≤b:=fun b o e=>zV (by simp) (LB b o e);clear hb3 LB))
  all_goals go_wp2_with fail
  all_goals go_meet
  all_goals exact ⟨⟨A3,c3,rfl,hI3,hN3'⟩,hB3⟩
 case rest =>
 obtain ⟨⟨AP,cP,rfl,hI4,hN4⟩,Lz⟩:=hcut;obtain ⟨w4,rfl⟩:∃ w4:World,w4=wc:=⟨_,rfl⟩;have HI4:=aa hI4;have HN4:=aa hN4;have HT4:=aa (Lw.out.later Lz);have HBx4:Hid (w4.heap[wj.heap.size]?=some (.cells #[.int .i64 0,.int .i64 0] 40 (0,0))):=(Lz.block _ hqk).trans HBx2.out;have hs4:=Lz.size;have hNPI:(NP:Int)≤12:=by omega
 have HFin:Hid ((P.take NP).foldl (aX (D b).mem f) (0,0)=dT (D b) f m):=by show _=_;rw [J.out,←HNP.out,List.take_length]
 clear hI4 hN4 Lz Y e1' e2' e3' e4' pc';go_wp2_with fail
 go_loopg [20] NP (fun gg s20 wr => ∃ (i:Nat) (a b':Int),i≤NP∧gg=NP-i∧s20=.int .i64 i∧Hid ((P.take i).foldl (aX (D b).mem f) (0,0)=(a,b'))∧Hid (wr.heap[wj.heap.size]?=some (.cells #[.int .i64 a,.int .i64 b'] 40 (0,0)))∧Hid (w4.grownBy wr (some wj.heap.size)))
 case atStart=>exact ⟨0,0,0,zU,rfl,rfl,(rfl:(P.take 0).foldl (aX (D b).mem f) (0,0)=(0,0)),HBx4,eV w4 _⟩
 case round =>
  obtain ⟨wi,rfl⟩:∃ wi:World,wi=wr:=⟨_,rfl⟩;obtain ⟨i,a,b',hi,rfl,rfl,Lu,k,G⟩:=hrel;have LH:wj.heap.size<wi.heap.size:=(zY k.out).1;have p:Hid (rg w (some ⟨bo,oo,none⟩) cap n w1.heap.size (D b) (some ⟨bm,om,none⟩) (C b) wi):=HT4.out.grown G.out (by omega) (by omega)
  obtain ⟨s0,s1,f0,f1⟩:=bP k.out
  by_cases hil:i<NP
  ·have hii:(i:Int)<(NP:Int):=by omega
   have r:i<P.length:=by rw [HNP.out];exact hil
   have hIi:bU wi AP cP P:=by
    obtain ⟨h1,x | ⟨bq,Q,h3,h4⟩⟩:=HI4.out
    ·rw [x] at r;simp at r
    subst Q;exact wb ⟨h1,Or.inr ⟨bq,rfl,h3,h4⟩⟩ (by have:=HN4.out bq 0 rfl;omega) G.out
   obtain ⟨hcP,x | ⟨bq,rfl,hbq,E⟩⟩:=hIi
   ·rw [x] at r;simp at r
   have cp1:=E i r;rw [HNP.out] at hcP;have hmem:P.getD i 0∈P:=by rw [zZ,zX r];exact List.getElem_mem r
   obtain ⟨j,hj,LF⟩:=HPm.out _ hmem;have hMi:=HMm.out wi p.out.1;obtain ⟨-,-,m2,-⟩:=hMi.2 j LF;have hbmi:bm<wi.heap.size:=hMi.1;have hsg:=HSg.out j LF;obtain ⟨k1,k2,k3,k4⟩:=p.out.2.2.2;obtain ⟨hswi,cw⟩:=p.out.2.1;obtain ⟨y,u,Y,hy3⟩:=yT HI.out t LF;have hyN:y<N:=by have:=HN.out;have:=HCL.out;omega
   have hyi:(y:Int)<(N:Int):=by omega
   have d:=qV (M:=(D b).mem) (at':=f) r;rw [Lu.out,hj] at d;have hfj:f (j:Int)=CL.getD y noC:=by rw [HFe.out,u];rfl
   unfold aX at d;rw [show ((j:Int)).toNat=j by omega,hfj] at d
   simp only at d;have H:b7 (CL.getD y noC):=yH HGd.out (y:Int);have X:b7 (a,b'):=by rw [←Lu.out];exact jh _ _ _ _ eU
   rw [hj] at cp1;obtain ⟨hcL,-,x | ⟨bc,oc,rfl,R⟩⟩:=HC.out.later p.out.1
   ·have:=HN.out;rw [x] at this;simp at this;omega
   obtain ⟨g1,g2⟩:=R.2 y (by rw [HN.out];exact hyN)
   have hbci:bc<wi.heap.size:=R.1;rw [HN.out] at hcL;have hcLI:(N:Int)≤(cc:Int):=by omega
   have O:Hid (∀ w',Bl wi w'→Calls Tryz.prog 7 #[.slice (some ⟨bp,op,none⟩) n cp,.int .i64 b,.int .i64 j] w' fun e w''=>(∃ A' Z,e=.returned (.slice A' n Z)∧aO w'' A' Z (L.set b (j:Int)))∧Bl w' w''):=fun w' g=>by
    have h:=gZ (some ⟨bp,op,none⟩) cp L b (j:Int) w' (by omega) (by omega) (HP.out.later (ae p.out.1 g))
    rw [hl] at h;exact h
   have HNum:Hid (∀ w' A' Z,Bl wi w'→aO w' A' Z (L.set b (j:Int))→Rt 8 #[.agg #[.slice (some ⟨bo,oo,none⟩) n cap],.slice A' n Z] w' (.int .i64 y)):=fun w' A' Z g hp=>by
    have h:=gm (some ⟨bo,oo,none⟩) cap n D A C A' Z (L.set b (j:Int)) w' hy3 (HM.out.later (ae p.out.1 g)) hp;rw [u,List.length_set,hl] at h;exact h
   have S:=EP (ka:=a) (na:=b') (kb:=(CL.getD y noC).1) (nb:=(CL.getD y noC).2) X H;have T:=BB (ka:=a) (na:=b') (kb:=(CL.getD y noC).1) (nb:=(CL.getD y noC).2) X H;generalize (CL.getD y noC).1=v1 at g1 d S T;generalize (CL.getD y noC).2=v2 at g2 d S T;generalize ((D b).mem j).sign=sg at m2 d hsg;have HKp:Hid ((wj.heap.size<wi.heap.size∧w.heap.size<wi.heap.size∧bq<wi.heap.size∧bc<wi.heap.size)∧wi.cell? ⟨bq,i,none⟩=some (.int .i64 j)∧wi.cell? ⟨w.heap.size,0,none⟩=some (.slice (some ⟨bo,oo,none⟩) n cap)∧wi.cell? ⟨bc,oc+y*2,none⟩=some (.int .i64 v1)∧wi.cell? ⟨bc,oc+y*2+1,none⟩=some (.int .i64 v2)):=⟨⟨LH,hswi,hbq,hbci⟩,cp1,cw,g1,g2⟩;have s:Hid (∀ w',Bl wi w'→w'.cell? ⟨wj.heap.size,0,none⟩=some (.int .i64 a)∧w'.cell? ⟨wj.heap.size,1,none⟩=some (.int .i64 b')∧w'.frozen? ⟨wj.heap.size,0,none⟩=false∧w'.frozen? ⟨wj.heap.size,1,none⟩=false∧w'.cell? ⟨bq,i,none⟩=some (.int .i64 j)∧w'.cell? ⟨w.heap.size,0,none⟩=some (.slice (some ⟨bo,oo,none⟩) n cap)∧w'.cell? ⟨bc,oc+y*2,none⟩=some (.int .i64 v1)∧w'.cell? ⟨bc,oc+y*2+1,none⟩=some (.int .i64 v2)):=fun w' g=>by
    obtain ⟨p0,p1,p2,p3⟩:=bP ((g.block _ LH).trans k.out);obtain ⟨⟨-,z2,z3,z4⟩,z5,z6,z7,z8⟩:=HKp.out;exact ⟨p0,p1,p2,p3,aL g z3 z5,aL g z2 z6,aL g z4 z7,aL g z4 z8⟩
   have hjd:(j:Int)<((D b).n:Int):=by omega
   clear hmem hj hMi E u Y hy3 hfj H X r R k1 k2 k3
   by_cases hs0:sg=0
   ·subst hs0
    rw [if_neg (by decide),if_neg (by decide)] at d
    have I:=aa d;clear d hsg S T;go_wp2_with fail
    first | (go_quiet (fail);go_wp2_with fail) | skip
    go_roundg (NP-(i+1))
    case measure=>omega
    case rel=>first | exact ⟨i+1,a,b',by omega,rfl,by go_num,I,k,G⟩ | exact ⟨i+1,a,b',by omega,rfl,by go_num,I,k.out,eW G.out (ac (zS) _)⟩
   have hsn:(sg != 0)=true:=by simpa using hs0
   have HR:Hid (∃ rk rn:Int,(P.take (i+1)).foldl (aX (D b).mem f) (0,0)=(rk,rn)∧∀ w',Rt 60 #[.agg #[.int .i64 a,.int .i64 b'],.agg #[.int .i64 v1,.int .i64 v2],.int .i64 sg] w' (.agg #[.int .i64 rk,.int .i64 rn])):=by
    by_cases hs1:sg=1
    ·subst hs1
     rw [if_pos rfl] at d;exact ⟨_,_,d,S⟩
    have hs2:sg = -1:=by omega
    subst hs2;rw [if_neg (by decide),if_pos rfl] at d
    exact ⟨_,_,d,T⟩
   obtain ⟨rk,rn,hNi,LD⟩:=HR.out;have I:=aa hNi;have HPlus:=aa LD;clear d hsg S T hs0 hNi LD HR;go_wp2_with fail
   go_quiet (fail)
   go_wp2_with fail;generalize hwk:wi.drewN nq=wk;have hBk:Bl wi wk:=by rw [←hwk];exact ac (zS) _
   have Lt:=aa hBk;have Lx:Hid (∀ w',Bl wk w'→_):=fun w' g=>O.out w' (ae Lt.out g)
   have HNum2:Hid (∀ w' A' Z,Bl wk w'→_):=fun w' A' Z g=>HNum.out w' A' Z (ae Lt.out g)
   have l:Hid (∀ w',Bl wk w'→_):=fun w' g=>s.out w' (ae Lt.out g)
   obtain ⟨j0,j1,j2,j3,j4,j5,j6,j7⟩:=s.out _ hBk;clear hwk hBk O HNum s s0 s1 f0 f1 cp1 m2 k4 g1 g2 cw hsn hmI hdI hsb1 hbo LI F hmn hd1 V hn1 hn4 hl hsw1 hLb LF hjd hbmi LB hf' hp3 HKp Lu J HSg HTr HGd HFe
   go_region_law ((first
    | (go_simp;refine (Lx.out _ (by go_grown)).mono ?_;rintro e w5 ⟨⟨A5,c5,rfl,hP5⟩,hb5⟩;have hN5:=ae (W0:=wk) (by go_grown) hb5;obtain ⟨l0,l1,l2,l3,l4,l5,l6,l7⟩:=l.out _ hN5;have HP5:=aa hP5;clear hb5 hP5 j0 j1 j2 j3 j4 j5 j6 j7)
    | (go_simp;refine (HNum2.out _ _ _ (by go_grown) (HP5.out.later (by go_grown))).mono ?_;rintro e w6 ⟨rfl,hb6⟩;have hN6:=ae (W0:=wk) (by go_grown) hb6;obtain ⟨n0,n1,n2,n3,n4,n5,n6,n7⟩:=l.out _ hN6;clear hb6 l0 l1 l2 l3 l4 l5 l6 l7)
    | (go_simp;refine (HPlus.out _).mono ?_;rintro e w7 ⟨rfl,hb7⟩;have hN7:=ae (W0:=wk) (by go_grown) hb7;obtain ⟨r0,r1,r2,r3,r4,r5,r6,r7⟩:=l.out _ hN7;have Lv:=aa (ae Lt.out hN7);clear hb7 n0 n1 n2 n3 n4 n5 n6 n7)))
   all_goals clear hN5 hN6 hN7
   all_goals go_wp2_with fail
   all_goals go_roundg (NP-(i+1))
   all_goals first
    | omega
    | exact ⟨i+1,rk,rn,by omega,rfl,by go_num,I,gV ((Lv.out.block _ LH).trans k.out),iE (eW G.out Lv.out)⟩
    | exact ⟨i+1,rk,rn,by omega,rfl,by go_num,I,gV ((Lv.out.block _ LH).trans k.out),nK (iE (eW G.out Lv.out))⟩
  have hie:i=NP:=by omega
  subst hie;have HV:Hid (dT (D b) f m=(a,b')):=by show _=_;rw [←HFin.out];exact Lu.out
  obtain ⟨e0,e1,g0,g1⟩:=bP p.out.2.2.1;have hs1i:w.heap.size+1<wi.heap.size:=(zY p.out.2.2.1).1;go_wp2_with fail;refine bodyPost_ret (v:=.agg #[.int .i64 a,.int .i64 b']) (by simp [results,Tryz.results22,go_sem,e0,e1]) rfl ⟨by rw [HV.out],?_⟩
  exact (p.out.1.setCell (Nat.le_succ _) _).setCell (Nat.le_succ _) _
end Go.Proofs.YthlhjjabkgpenaaGreatDoor
