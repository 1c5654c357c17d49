/-
  Names in a row, in memory; what check of package reckon answers: as many cells as names, each cell right, names that rise; where a name is among names that rise.
-/
import Derived.Test.YthlhjjabkgpenaaGreatDoorShelfG
import Derived.Laws.Cover1
import Derived.Test.YthlhjjabkgpenaaGreatDoorJTAS
import Derived.Test.YthlhjjabkgpenaaGreatDoorJTAW
import Derived.Test.YthlhjjabkgpenaaGreatDoorJTAX
namespace Go.Proofs.YthlhjjabkgpenaaGreatDoor
open Go.ChangeShapes Go.WideShapes Go.ChangeAt Go.RowKit
set_option maxRecDepth 20000
def k9 (w:World) (A:Option Addr) (c:Nat) (N:List ByteArray):Prop:=N.length≤c∧N.length<4611686018427387904∧c≤9223372036854775807∧(N=[]∨∃ b o,A=some ⟨b,o,none⟩∧b<w.heap.size∧∀ j,j<N.length→w.cell? ⟨b,o+j,none⟩=some (.string (N.getD j iC)))
theorem k9.later {w w':World} {A:Option Addr} {c:Nat} {N:List ByteArray} (h:k9 w A c N) (i:Bl w w'):k9 w' A c N:=by
 obtain ⟨d,e,f,a | ⟨b,o,a,g,k⟩⟩:=h
 ·exact ⟨d,e,f,Or.inl a⟩
 exact ⟨d,e,f,Or.inr ⟨b,o,a,zW g i.size,fun j l=>aL i g (k j l)⟩⟩
theorem uD (An:Option Addr) (cn:Nat) (N:List ByteArray) (Ac:Option Addr) (cc:Nat) (C:List (Int×Int)) (w:World) (hN:k9 w An cn N) (hC:dt w Ac cc C) :
  Rt 151 #[.slice An N.length cn,.slice Ac C.length cc] w (errV (dH N C)):=by
 by_cases c:C.length=N.length
 case neg =>
  have hb:((C.length:Int) != (N.length:Int))=true:=by simp;omega
  rw [sR c,aj (by decide)]
  clear c hN hC
  go_enter Tryz.func151,Tryz.ntmps151
  go_wp2_with fail;go_ret;exact ⟨rfl,zS⟩
 obtain ⟨-,z,-,I⟩:=hN;obtain ⟨-,-,G⟩:=hC;obtain ⟨n,t⟩:=ax N.length;have l:=aa t;have f:=aa (c.trans t);rw [c,t];rw [t] at z 
 by_cases h0:n=0
 ·subst h0
  rw [rr (N:=N) (C:=C) c (fun j r=>by have:=f.out;omega) (fun j _ r=>by omega),errV_zero]
  clear I G c t z
  go_enter Tryz.func151,Tryz.ntmps151
  go_wp2_with fail;refine wp_loop_rounds 1 ?_;rw [rounds_succ];go_wp2_with fail;refine wp_loop_rounds 1 ?_;rw [rounds_succ];go_wp2_with fail;go_ret;exact ⟨rfl,zS⟩
 obtain ⟨b,o,rfl,H⟩:=G.resolve_left (fun e=>by rw [e] at c;simp at c;omega)
 obtain ⟨bn,on,rfl,K,J⟩:=I.resolve_left (fun e=>by rw [e] at t;simp at t;omega)
 have Y:=aa H;have HN:=aa J;have hni:(n:Int)<4611686018427387904:=by omega
 have hn0:0<(n:Int):=by omega
 clear c t H J z
 go_enter Tryz.func151,Tryz.ntmps151
 go_wp2_with fail
 go_loopg [17] n (fun g s17 wr => ∃ (k:Nat),k≤n∧g=n-k∧s17=.int .i64 k∧(∀ j,j<k→fV C j=false)∧Bl w wr)
 case atStart=>exact ⟨0,zU,rfl,rfl,fun j r=>absurd r (Nat.not_lt_zero j),zS⟩
 case round =>
  obtain ⟨k,hk,rfl,rfl,p,d⟩:=hrel;have D:=aa p;have P:=aa d;have hbl:b<w.heap.size:=Y.out.1;have hsz:=d.size;clear p d
  by_cases M:k<n
  ·have L:(k:Int)<(n:Int):=by omega
   obtain ⟨x0,x1⟩:=(Y.out.later P.out).2 k (by rw [f.out];exact M)
   have a:=ld (C.getD k noC).1 (C.getD k noC).2;obtain ⟨kk,A⟩:=ax ((C.getD k noC).1);obtain ⟨nn,B⟩:=ax ((C.getD k noC).2);have Z:Hid (fV C k = !(good kk nn)):=by show _=_;unfold fV;rw [A,B]
   rw [A] at x0 a;rw [B] at x1 a;clear A B;cases hg:good kk nn
   ·rw [hg] at a
    have F:Hid (dH N C=1):=yq (by rw [f.out,l.out]) (i:=k) (by rw [f.out];exact M) (by rw [Z.out,hg];rfl)
    rw [if_neg (by decide)] at a
    clear hg;go_wp2_with fail;refine (a _).mono ?_;rintro e w1 ⟨rfl,m⟩;have u:Hid (Bl w w1):=ae P.out (ae (by go_grown) m)
    clear m a;go_wp2_with fail;go_ret;exact ⟨by rw [F.out];rfl,u.out⟩
   rw [hg,if_pos rfl] at a;have S:Hid (fV C k=false):=by show _=_;rw [Z.out,hg];rfl
   clear hg;go_wp2_with fail;refine (a _).mono ?_;rintro e w1 ⟨rfl,m⟩;have u:Hid (Bl w w1):=ae P.out (ae (by go_grown) m)
   clear m a;go_wp2_with fail
   go_roundg (n-(k+1))
   case measure=>omega
   case rel=>exact ⟨k+1,by omega,rfl,by go_num,fun j r=>by rcases Nat.lt_succ_iff_lt_or_eq.1 r with h | h;exact D.out j h;rw [h];exact S.out,u.out⟩
  have V:k=n:=by omega
  subst V;have s:Hid (∀ j,j<C.length→fV C j=false):=fun j r=>D.out j (by have:=f.out;omega)
  go_wp2_with fail
  go_loopg [8] k (fun g s8 ws => ∃ (i:Nat),i<k∧g=k-i∧s8=.int .i64 ((i:Int)+1)∧(∀ j,1≤j→j<i+1→fj N j=false)∧Bl w ws)
  case atStart=>exact ⟨0,by omega,rfl,rfl,fun j Q h2=>by omega,P.out⟩
  case round =>
   obtain ⟨i,hi,rfl,rfl,p,d⟩:=hrel;have E:=aa p;have T:=aa d;clear p
   by_cases q:i+1<k
   ·have L:(i:Int)+1<(k:Int):=by omega
    have c1:=aL d K (HN.out (i+1) (by rw [l.out];exact q))
    have c0:=aL d K (HN.out i (by rw [l.out];omega))
    obtain ⟨x,W⟩:=ax (N.getD (i+1) iC);obtain ⟨y,X⟩:=ax (N.getD i iC);have O:Hid (fj N (i+1)=(Op.bytesLess x.toList y.toList || x.toList == y.toList)):=by show _=_;unfold fj;rw [W,Nat.add_sub_cancel,X]
    rw [W] at c1;rw [X] at c0;have hsub:(i:Int)+1-1=(i:Int):=by omega
    have hto:((i:Int)+1).toNat=i+1:=by omega
    clear W X d;cases ht:(Op.bytesLess x.toList y.toList || x.toList == y.toList)
    ·have R:Hid (fj N (i+1)=false):=by show _=_;rw [O.out,ht]
     clear O;go_wp2_with fail
     go_quiet (fail)
     have v:Hid (Bl w (wr.drewN nq)):=ac T.out _;go_wp2_with fail
     go_roundg (k-(i+1))
     case measure=>omega
     case rel=>exact ⟨i+1,q,rfl,by go_num,fun j Q r=>by rcases Nat.lt_succ_iff_lt_or_eq.1 r with h | h;exact E.out j Q h;rw [h];exact R.out,v.out⟩
    have F:Hid (dH N C=7):=yt (by rw [f.out,l.out]) s.out (i:=i+1) (by omega) (by rw [l.out];exact q) (by rw [O.out,ht])
    clear O;go_wp2_with fail
    go_quiet (fail)
    have v:Hid (Bl w (wr.drewN nq)):=ac T.out _;go_wp2_with fail;go_ret;exact ⟨by rw [F.out];rfl,v.out⟩
   have U:k=i+1:=by omega
   have F:Hid (dH N C=0):=rr (by rw [f.out,l.out]) s.out (fun j Q r=>E.out j Q (by have:=l.out;omega))
   have L : ¬ (i:Int)+1<(k:Int):=by omega
   clear U;go_wp2_with fail;go_ret;exact ⟨by rw [F.out];rfl,T.out⟩
end Go.Proofs.YthlhjjabkgpenaaGreatDoor
namespace Go.Proofs.YthlhjjabkgpenaaGreatDoor
open Go.ChangeShapes Go.WideShapes Go.ChangeAt Go.RowKit
open Go.Sort (putRow Holds grow holds_putRow)
set_option maxRecDepth 20000
theorem k7 (d:Dm) (s:ByteArray):findFrom (fun j=>same (d.mem j).name s) d.n 0=whL d s.data.toList:=by
 unfold whL;rw [Array.toArray_toList]
theorem H7:dG 195:=fun args w=>by simp [callFunc,Tryz.func195];rfl
theorem F6 (m:Mem) (s:ByteArray) (q:Nat) (w:World) (a:q<w.heap.size) (h:w.cell? ⟨q,0,none⟩=some (.string s)):Rt 195 #[pC m,.pointer (some ⟨q,0,none⟩)] w (.bool (same m.name s)):=by
 unfold pC
 go_enter Tryz.func195,Tryz.ntmps195
 go_wp2_with fail;go_ret;exact ⟨by simp [same],by go_grown⟩
theorem H9 (d:Dm) (b o cap q:Nat) (s:ByteArray) (w:World) (v:d.n≤12) (p:b8 w b o d.n d.mem) (x:q<w.heap.size) (t:w.cell? ⟨q,2,none⟩=some (.slice (some ⟨b,o,none⟩) d.n cap)) :
  Rt 194 #[.string s,.pointer (some ⟨q,0,none⟩)] w (.int .i64 (whL d s.data.toList)):=by
 obtain ⟨W,k⟩:=ax (w.alloc (.cells #[.string s] 9));have a:Bl w W:=by rw [←k];exact (zS).alloc (zT) _
 have m:W.heap.size=w.heap.size+1:=by rw [←k];simp
 have f:W.cell? ⟨w.heap.size,0,none⟩=some (.string s):=by
  have h:W.heap[w.heap.size]?=some (.cells #[.string s] 9 (0,0)):=by rw [←k];exact heap_alloc_new _ _
  rw [Lib.cell_of_heap h]
  rfl
 have u:=aL a x t;have c:=kd 195 w.heap.size H7 b o d.n cap d.mem (fun j=>same (d.mem j).name s) W v (p.later a) (fun j w' _ g=>F6 (d.mem j) s w.heap.size w' (by have:=g.size;omega) (aL g (by show w.heap.size<_;omega) f))
 rw [k7] at c;generalize whL d s.data.toList=r at c ⊢;have i:=aa a;clear p t a m f
 go_enter Tryz.func194,Tryz.ntmps194
 go_wp2_with fail;refine c.mono ?_;rintro e w1 ⟨rfl,l⟩;go_wp2_with fail;go_ret;exact ⟨rfl,ae i.out l⟩
theorem vX (F:Nat) (cap:Array Value) (p:List UInt8→Bool) (C:∀ (args:Array Value) (w:World),(callFunc F args).run Tryz.prog w=.ok (.enter F args) w) (A:Option Addr) (c:Nat) (L:List (List UInt8)) (w:World) (M:L.length≤200) (I:f9 w A c L)
  (B:∀ (x:List UInt8) (w':World),Bl w w'→Calls Tryz.prog F (#[.string ⟨x.toArray⟩] ++ cap) w' fun e w''=>e=.returned (.bool (p x))∧Bl w' w'') :
  Rt 258 #[.slice A L.length c,.func (.func F) #[] cap] w (.int .i64 (findFrom (fun j=>p (L.getD j [])) L.length 0)):=by
 obtain ⟨J,-,H | ⟨b,o,rfl,t,d⟩⟩:=I
 ·subst H
  simp only [List.length_nil]
  go_enter Tryz.func258,Tryz.ntmps258
  go_wp2_with fail;refine wp_loop_rounds 1 ?_;rw [rounds_succ];go_wp2_with fail;go_ret;exact ⟨rfl,zS⟩
 have z:=aa d;have E:=aa B;obtain ⟨pj,i⟩:∃ pj:Nat→Bool,pj=fun j=>p (L.getD j []):=⟨_,rfl⟩
 have G:Hid (∀ j,pj j=p (L.getD j [])):=fun j=>by rw [i]
 rw [←i];generalize hnn:L.length=n at M J z;clear d i hnn B
 go_enter Tryz.func258,Tryz.ntmps258
 go_wp2_with fail
 go_loopg [8] n (fun g s8 wr => ∃ (k:Nat),k≤n∧g=n-k∧s8=.int .i64 k∧findFrom pj (n-k) k=findFrom pj n 0∧Bl w wr)
 case atStart=>exact ⟨0,zU,rfl,rfl,rfl,zS⟩
 case round =>
  obtain ⟨k,O,rfl,rfl,D,f⟩:=hrel;have r:=aa D;have s:=aa f;clear D
  by_cases y:k<n
  ·have K:(k:Int)<(n:Int):=by omega
   have u:=aL f t (z.out k y);have N:(n:Int)≤200:=by omega
   have m:=G.out k;have l:Hid (n-k=(n-(k+1))+1):=by show _=_;omega
   have a:=E.out (L.getD k []) wr f;rw [←m] at a;generalize (⟨(L.getD k []).toArray⟩:ByteArray)=x at u a;clear f m;cases hb:pj k
   ·rw [hb] at a
    have q:=aa hb;clear hb;go_wp2_with fail;refine a.mono ?_;rintro e w1 ⟨rfl,h⟩;go_wp2_with fail
    go_roundg (n-(k+1))
    case measure=>omega
    case rel=>exact ⟨k+1,by omega,rfl,by go_num,by rw [←r.out,l.out,aU _ q.out],ae s.out h⟩
   rw [hb] at a;have q:=aa hb;clear hb;go_wp2_with fail;refine a.mono ?_;rintro e w1 ⟨rfl,h⟩;go_wp2_with fail;go_ret;exact ⟨by rw [←r.out,l.out,aW _ q.out];rfl,ae s.out h⟩
  have v:k=n:=by omega
  subst v;go_wp2_with fail;go_ret;exact ⟨by rw [←r.out,Nat.sub_self];rfl,s.out⟩
theorem zu (p:List UInt8→Bool) (L:List (List UInt8)):decide (0≤findFrom (fun j=>p (L.getD j [])) L.length 0)=L.any p:=by
 rcases findFrom_cases (fun j=>p (L.getD j [])) L.length 0 with ⟨a,c⟩ | ⟨m,a,_,g,d,_⟩
 ·rw [a,decide_eq_false (by omega)]
  symm
  rw [List.any_eq_false];intro x f;obtain ⟨i,e,rfl⟩:=List.getElem_of_mem f;have:=c i (zU) (by omega)
  simp only [List.getD,zX e,Option.getD_some] at this
  simp [this]
 rw [a,decide_eq_true (by omega)]
 symm
 rw [List.any_eq_true];have b:m<L.length:=by omega
 refine ⟨L[m],List.getElem_mem b,?_⟩
 simpa only [List.getD,zX b,Option.getD_some] using d
theorem xw (F:Nat) (cap:Array Value) (p:List UInt8→Bool) (a:∀ (args:Array Value) (w:World),(callFunc F args).run Tryz.prog w=.ok (.enter F args) w) (A:Option Addr) (c:Nat) (L:List (List UInt8)) (w:World) (g:L.length≤200) (f:f9 w A c L)
  (d:∀ (x:List UInt8) (w':World),Bl w w'→Calls Tryz.prog F (#[.string ⟨x.toArray⟩] ++ cap) w' fun e w''=>e=.returned (.bool (p x))∧Bl w' w'') :
  Rt 232 #[.slice A L.length c,.func (.func F) #[] cap] w (.bool (L.any p)):=by
 have h:=vX F cap p a A c L w g f d;rw [←zu];generalize findFrom (fun j=>p (L.getD j [])) L.length 0=r at *
 clear d f
 go_enter Tryz.func232,Tryz.ntmps232
 go_wp2_with fail;refine h.mono ?_;rintro e w1 ⟨rfl,b⟩;go_wp2_with fail;go_ret;exact ⟨rfl,b⟩
def IH (d:Dm) (q:Nat) (w:World):Prop := ∀ (s:ByteArray) (w':World),Bl w w'→Calls Tryz.prog 194 #[.string s,.pointer (some ⟨q,0,none⟩)] w' fun e w''=>e=.returned (.int .i64 (whL d s.data.toList))∧Bl w' w''
theorem IH.later {d:Dm} {q:Nat} {w w1:World} (h:IH d q w) (b:Bl w w1):IH d q w1:=fun s w' a=>h s w' (ae b a)
def FK (q:Nat):Value:=.func (.func 194) #[] #[.pointer (some ⟨q,0,none⟩)]
theorem Aa (args:Array Value) (w:World):(callFunc 233 args).run Tryz.prog w=.ok (.enter 233 args) w:=by simp [go_sem]
theorem BQ (d:Dm) (q r:Nat) (x:List UInt8) (w:World) (b:IH d q w) (c:w.cell? ⟨r,0,none⟩=some (FK q)):Rt 233 #[.string ⟨x.toArray⟩,.pointer (some ⟨r,0,none⟩)] w (.bool (decide (whL d x<0))):=by
 have h:=b ⟨x.toArray⟩ w (zS);rw [show (⟨x.toArray⟩:ByteArray).data.toList=x by simp] at h
 generalize whL d x=r1 at *;generalize (⟨x.toArray⟩:ByteArray)=s at *;unfold FK at c;clear b
 go_enter Tryz.func233,Tryz.ntmps233
 go_wp2_with fail;refine h.mono ?_;rintro e w1 ⟨rfl,a⟩;go_wp2_with fail;go_ret;exact ⟨rfl,a⟩
def xg (d:Dm) (s:ByteArray):Int:=if prsE s≠0 then prsE s else if (dk (bE s) (bE s).length).any (fun nm=>decide (whL d nm<0))=true then 5 else 0
def rfL (d:Dm) (s:ByteArray):List Int:=if xg d s=0 then ((aQ (bE s)).map (whL d)).mergeSort (fun x y=>decide (x≤y)) else []
theorem rf0 {d:Dm} {s:ByteArray} (h:prsE s≠0):xg d s=prsE s∧rfL d s=[]:=by
 have e:xg d s=prsE s:=by unfold xg;rw [if_pos h]
 exact ⟨e,by unfold rfL;rw [e,if_neg h]⟩
theorem sE {l:List Nd} (h:av l=0) (p:List UInt8→Bool):(aQ l).any p=(dk l l.length).any p:=by
 obtain ⟨-,c⟩:=jt h;rw [Bool.eq_iff_iff,List.any_eq_true,List.any_eq_true]
 constructor
 ·rintro ⟨x,b,a⟩;exact ⟨x,(c x).1 b,a⟩
 rintro ⟨x,b,a⟩;exact ⟨x,(c x).2 b,a⟩
theorem rf1 {d:Dm} {s:ByteArray} (h:prsE s=0) (a:(aQ (bE s)).any (fun nm=>decide (whL d nm<0))=true):xg d s=5∧rfL d s=[]:=by
 rw [sE (dC h)] at a;have e:xg d s=5:=by unfold xg;rw [if_neg (by simpa using h),if_pos a]
 exact ⟨e,by unfold rfL;rw [e,if_neg (by decide)]⟩
theorem Lr {d:Dm} {s:ByteArray} (h:prsE s=0) (a:(aQ (bE s)).any (fun nm=>decide (whL d nm<0))=false):xg d s=0∧rfL d s=((aQ (bE s)).map (whL d)).mergeSort (fun x y=>decide (x≤y)):=by
 rw [sE (dC h)] at a;have e:xg d s=0:=by unfold xg;rw [if_neg (by simpa using h),if_neg (by rw [a];decide)]
 exact ⟨e,by unfold rfL;rw [if_pos e]⟩
theorem oL {l:List Nd} (h:av l=0):(aQ l).length≤30:=by
 obtain ⟨-,a,-⟩:=dw h;unfold aQ;rw [if_pos h];refine zV (lQ _) ?_;rw [List.length_mergeSort];exact zV (yS _ _) a
theorem ER {w:World} {g k:Nat} {d:Array Int} (h:k≠g):(putRow (Value.int .i64) w g 0 d).heap[k]?=w.heap[k]?:=by
 unfold putRow Sort.mapBlock;simp only [Array.getElem?_modify];rw [if_neg (fun e=>h e.symm)]
theorem jQ {w0 w:World} {g n:Nat} {d:Array Int} {os:Array Obj} (h:Bl w0 w) (b:w0.heap.size≤g):Bl w0 (grow (putRow (Value.int .i64) (Sort.ahead w n) g 0 d) os):=by
 refine ⟨h.os,h.tape,h.output,by have:=h.size;simp;omega,fun k a=>?_⟩
 have c:=h.size;rw [Sort.heap_grow_old _ _ (by simp;omega),ER (by omega)]
 exact h.block k a
theorem mr {w:World} {g n c:Nat} {zs b:List Int} {a:Array Value} {fr:Nat×Nat} {os:Array Obj} (l:w.heap[g]?=some (.cells a 3 fr)) (m:Holds (Value.int .i64) w g 0 zs.toArray) (p:b.length=zs.length) (q:zs.length≤c) (f:c≤9223372036854775807) :
  aY (grow (putRow (Value.int .i64) (Sort.ahead w n) g 0 b.toArray) os) (some ⟨g,0,none⟩) c b:=by
 have d:g<w.heap.size:=(zY l).1;have o:(grow (putRow (Value.int .i64) (Sort.ahead w n) g 0 b.toArray) os).heap[g]?=some (.cells (Sort.putCells (Value.int .i64) 0 b.toArray a) 3 fr):=by
  rw [Sort.heap_grow_old _ _ (by simpa using d)]
  unfold putRow Sort.mapBlock;have i:(Sort.ahead w n).heap[g]?=some (.cells a 3 fr):=l;simp only [Array.getElem?_modify,if_true,i,Option.map_some]
  rfl
 have e:=Sort.holds_grow (Value.int .i64) _ os g 0 _ (by simpa using d) (holds_putRow (Value.int .i64) (Sort.ahead w n) g 0 zs.toArray b.toArray m (by simp [p]))
 refine ⟨by omega,f,Or.inr ⟨g,_,_,rfl,o,fun j k=>?_⟩⟩
 have h:=(e j (by simpa using k)).1
 rw [Nat.zero_add] at h;rw [h,getElem!_pos _ j (by simpa using k)]
 simp [List.getD,zX k]
theorem yP (d:Dm) (L:List (List UInt8)) {k:Nat} (h:k<L.length):(L.take (k+1)).map (whL d)=(L.take k).map (whL d) ++ [whL d (L.getD k [])]:=by
 rw [List.take_succ_eq_append_getElem h,List.map_append,zZ,zX h]
 rfl
theorem E4 (d:Dm) (q:Nat) (s:ByteArray) (w:World) (hs:s.size≤100) (hI:IH d q w) :
  Calls Tryz.prog 193 #[.string s,FK q] w fun e w'=>(∃ A' c',e=.returned (.tuple #[.slice A' (rfL d s).length c',errV (xg d s)])∧aY w' A' c' (rfL d s))∧Bl w w':=by
 obtain ⟨i0,hi0,hz0,hz1,hz2⟩:=info_parts Tryz.infoInt;obtain ⟨W,hW⟩:=ax (w.alloc (.cells #[FK q] 181));have P:Bl w W:=by rw [←hW];exact (zS).alloc (zT) _
 have hs0:W.heap.size=w.heap.size+1:=by rw [←hW];simp
 have V:W.cell? ⟨w.heap.size,0,none⟩=some (FK q):=by
  have h:W.heap[w.heap.size]?=some (.cells #[FK q] 181 (0,0)):=by rw [←hW];exact heap_alloc_new _ _
  rw [Lib.cell_of_heap h]
  rfl
 have f:=Dz s W hs;have HI:=aa hI;have t:=aa P;have HC0:=aa V;have HS0:=aa hs0;have HRf:Hid (∀ w',Bl W w'→∀ x,Rt 233 #[.string ⟨x.toArray⟩,.pointer (some ⟨w.heap.size,0,none⟩)] w' (.bool (decide (whL d x<0)))):=fun w' hB x =>
  BQ d q w.heap.size x w' (hI.later (ae P hB)) (aL hB (by show w.heap.size<_;omega) V)
 unfold FK at hW ⊢;clear P hs0 V hI
 by_cases j:prsE s=0
 case neg =>
  obtain ⟨O,F⟩:=rf0 (d:=d) j;rw [O,F];have HE:Hid (errV (prsE s)=.iface 68 (.int .i64 (prsE s))):=aj j;rw [aj j] at f ⊢;generalize (bE s).length=m at f;generalize (i6 s:Int)=at' at f;generalize prsE s=ec at f;clear j O F
  go_enter Tryz.func193,Tryz.ntmps193
  go_wp2_with fail;refine f.mono ?_;rintro e w1 ⟨⟨A1,c1,rfl,-⟩,G⟩;go_wp2_with fail
  go_ret2
  exact ⟨⟨none,0,rfl,aY.nil _ _ _ (by omega)⟩,ae t.out G⟩
 have X:=dC j;have hrl:=oL X;have HPe:=aa j;have p:=fun A c w' hN=>F2 A c (bE s) w' hN
 rw [X,errV_zero] at p;rw [j,errV_zero] at f;obtain ⟨L,hL⟩:=ax (aQ (bE s));have HL:=aa hL;rw [hL] at hrl p;obtain ⟨l,hl⟩:=ax (bE s);rw [hl] at f p;generalize (i6 s:Int)=at' at f;obtain ⟨n,hn⟩:=ax L.length;have I:=aa hn;have J:Hid (∀ A c w',fQ w' A c l→Calls Tryz.prog 167 #[.slice A l.length c] w' fun e w''=>(∃ A' c',e=.returned (.tuple #[.slice A' n c',.nilIface])∧f9 w'' A' c' L)∧Bl w' w''):=fun A c w' h=>by rw [←hn];exact p A c w' h
 generalize l.length=m at f J;rw [hn] at hrl;have hnI:(n:Int)≤30:=by omega
 clear j X hL hl hn p
 go_enter Tryz.func193,Tryz.ntmps193
 go_wp2_with fail;refine f.mono ?_;rintro e w1 ⟨⟨A1,c1,rfl,hN1⟩,G⟩;have p:=J.out A1 c1 w1 hN1;have HB1:=aa G;clear f hN1 G;go_wp2_with fail;refine p.mono ?_;rintro e w2 ⟨⟨A2,c2,rfl,R⟩,hb2⟩;have HB2:=aa (ae HB1.out hb2);have HS2:=aa R;have H:=xw 233 #[.pointer (some ⟨w.heap.size,0,none⟩)] (fun x=>decide (whL d x<0)) Aa A2 c2 L w2 (by have:=I.out;omega) R fun x w' hB=>HRf.out w' (ae HB2.out hB) x
 rw [I.out] at H;obtain ⟨ra,Y⟩:=ax (L.any (fun x=>decide (whL d x<0)))
 have HRa:=aa Y;rw [Y] at H;clear p hb2 R Y;go_wp2_with fail;refine H.mono ?_;rintro e w3 ⟨rfl,T⟩;have u:=aa (ae HB2.out T);have HS3:=aa (HS2.out.later T);clear H T;cases ra
 case true =>
  go_wp2_with fail
  go_ret2
  obtain ⟨O,F⟩:=rf1 (d:=d) HPe.out (by rw [HL.out];exact HRa.out)
  rw [O,F];exact ⟨⟨none,0,rfl,aY.nil _ _ _ (by omega)⟩,ae t.out u.out⟩
 go_wp2_with fail
 go_loopg [10,36] n (fun g s10 s36 wr => ∃ (k:Nat) (v:Value),k≤n∧g=n-k∧s36=.int .i64 k∧v=s10∧wr.ownsRow w3.heap.size 3 1 v k (aE ((L.take k).map (whL d)))∧Bl w3 wr)
 case atStart=>exact ⟨0,_,zU,rfl,rfl,rfl,World.ownsRow_nil _ _ _ _,zS⟩
 case round =>
  obtain ⟨k,v,hk,rfl,rfl,rfl,hO,i⟩:=hrel;have HO:=aa hO;have HBw:=aa i
  by_cases hlt:k<n
  ·have hki:(k:Int)<(n:Int):=by omega
   obtain ⟨hcS,-,hS0 | ⟨b,o,rfl,hbS,hcl⟩⟩:=HS3.out.later i
   ·have:=I.out;rw [hS0] at this;simp at this;omega
   have cx:=hcl k (by rw [I.out];exact hlt)
   rw [I.out] at hcS;have HNx:Hid ((L.take (k+1)).map (whL d)=(L.take k).map (whL d) ++ [whL d (L.getD k [])]):=yP d L (by rw [I.out];exact hlt)
   have a:=HI.out ⟨(L.getD k []).toArray⟩ wr (ae t.out (ae u.out i));rw [show (⟨(L.getD k []).toArray⟩:ByteArray).data.toList=L.getD k [] by simp] at a
   have S:=ae u.out i;have cb:wr.cell? ⟨w.heap.size,0,none⟩=some (FK q):=aL S (by show w.heap.size<_;rw [HS0.out];omega) HC0.out
   have hbz:w.heap.size<wr.heap.size:=by have:=S.size;rw [HS0.out] at this;omega
   unfold FK at cb;generalize whL d (L.getD k [])=y at a HNx;generalize (⟨(L.getD k []).toArray⟩:ByteArray)=x at cx a;clear hcl hO i S;go_wp2_with fail;refine a.mono ?_;rintro e w4 ⟨rfl,U⟩;have Q:Bl w3 w4:=ae HBw.out U;have M:=aa Q;have HO4:Hid (w4.ownsRow w3.heap.size 3 1 v k (aE ((L.take k).map (whL d)))):=ar HO.out U;have hsz:=Q.size;clear U a Q
   go_wp2_with (at_builtin;refine wpList_append_own _ rfl _ _ 26 rfl w3.heap.size 3 i0 (.int .i64 0) 1 8 Tryz.underlying26 hi0 hz0 hz1 hz2 rfl (by decide) _ _ _ rfl (HO4.out.alloc _) ⟨w4.heap.size,0,none⟩ 1 1 [.int .i64 y] rfl rfl bu dY (by unfold maxLen;omega) (by omega) (by simp;omega) ?_)
   intro v' w5 E D _;have HB5:Hid (Bl w3 w5):=bA M.out HO4.out D;have HO5:Hid (w5.ownsRow w3.heap.size 3 1 v' (k+1) (aE ((L.take (k+1)).map (whL d)))):=by
    show World.ownsRow ..
    rw [HNx.out,mapI_snoc,List.map_take];exact E
   clear E D;go_wp2_with fail
   go_roundg (n-(k+1))
   case measure=>omega
   case rel=>exact ⟨k+1,_,by omega,rfl,by go_num,rfl,HO5.out,HB5.out⟩
  have hke:k=n:=by omega
  subst hke;have hL0:L.take k=L:=List.take_of_length_le (by rw [I.out];exact zT)
  obtain ⟨O,F⟩:=Lr (d:=d) HPe.out (by rw [HL.out];exact HRa.out)
  rw [HL.out] at F;have HE1:=aa O;have r:=hO;rw [hL0] at r;obtain ⟨zs,Lt⟩:=ax (L.map (whL d));have B:zs.length=k:=by rw [←Lt,List.length_map];exact I.out
  rw [Lt] at F r;have N:=aa F;have HZl:=aa B;clear hO HO hL0 O F Lt
  by_cases hz:v=.slice none 0 0
  ·subst hz
   have hk0:k=0:=by
    rcases r.2 with ⟨_,h⟩ | ⟨g,c,C,h,_⟩
    ·exact h
    cases h
   subst hk0;have HZ0:Hid (rfL d s=[]):=by
    show _=_
    rw [N.out,List.eq_nil_of_length_eq_zero B,List.mergeSort_nil]
   have z:=Any.slices_Sort_int_none Tryz.lays189 none 0 wr;clear r i B;go_wp2_with fail;refine Calls.mono z ?_;rintro e w4 ⟨rfl,rfl⟩;go_wp2_with fail
   go_ret2
   rw [HE1.out,HZ0.out];exact ⟨⟨none,0,rfl,aY.nil _ _ _ (by omega)⟩,ae t.out (ae u.out HBw.out)⟩
  obtain ⟨g,c,hv,hgb,hgl,hnc,hcm,-,hH⟩:=Lib.holds_of_ownsRow (enc:=Value.int .i64) (zs:=zs) r hz;subst hv;obtain ⟨C,hg⟩:∃ C:Array Value,wr.heap[g]?=some (.cells C 3 (0,0)):=by
   rcases r.2 with ⟨h,_⟩ | ⟨g',c',C,h,_,hg,_⟩
   ·cases h
   cases h;exact ⟨C,hg⟩
  have z:=Any.slices_Sort_int Tryz.lays189 g 0 c zs wr hH hgl (by omega)
  rw [B] at z;have HT:Hid (∀ K os,aY (grow (putRow (Value.int .i64) (Sort.ahead wr K) g 0 (zs.mergeSort fun x y=>decide (x≤y)).toArray) os) (some ⟨g,0,none⟩) c (rfL d s)):=fun K os=>by
   rw [N.out];exact mr hg hH (by rw [List.length_mergeSort]) (by omega) (by unfold maxLen at hcm;omega)
  have HBs:Hid (∀ K os,Bl w (grow (putRow (Value.int .i64) (Sort.ahead wr K) g 0 (zs.mergeSort fun x y=>decide (x≤y)).toArray) os)):=fun K os=>by
   have hBW:=ae u.out i;have h0:=ae t.out hBW;refine jQ h0 ?_;have:=t.out.size;have:=u.out.size
   omega
  have HLl:Hid ((rfL d s).length=k):=by show _=_;rw [N.out,List.length_mergeSort];exact B
  generalize (zs.mergeSort fun x y=>decide (x≤y))=ys at z HT HBs
  clear r i B hH hg;go_wp2_with fail;refine Calls.mono z ?_;rintro e w4 ⟨rfl,K,os,Z⟩;have HT4:Hid (aY w4 (some ⟨g,0,none⟩) c (rfL d s)):=by rw [Z];exact HT.out K os
  have M:Hid (Bl w w4):=by rw [Z];exact HBs.out K os
  clear Z z;go_wp2_with fail
  go_ret2
  rw [HE1.out];exact ⟨⟨_,c,by rw [HLl.out];rfl,HT4.out⟩,M.out⟩
end Go.Proofs.YthlhjjabkgpenaaGreatDoor
namespace Go.Proofs.YthlhjjabkgpenaaGreatDoor
open Go.ChangeShapes Go.WideShapes Go.ChangeAt Go.RowKit
set_option maxRecDepth 20000
theorem b8.grown {w w':World} {b o n:Nat} {M:Nat→Mem} {r:Option Nat} (h:b8 w b o n M) (d:w.grownBy w' r) (p:some b≠r):b8 w' b o n M:=by
 have l:w'.heap[b]?=w.heap[b]?:=d.block b h.1 p;have c:∀ k,w'.cell? ⟨b,k,none⟩=w.cell? ⟨b,k,none⟩:=fun k=>World.cell?_of_block (a:=⟨b,k,none⟩) l
 refine ⟨zW h.1 d.size,fun i m=>?_⟩
 obtain ⟨e,f,g,j⟩:=h.2 i m;exact ⟨(c _).trans e,(c _).trans f,(c _).trans g,(c _).trans j⟩
def Ej (d:Dm) (k:Int):Bool:=decide ((d.mem k.toNat).sign=0)
theorem Gl (d:Dm):(fun x => !Ej d x)=u6 d:=by
 funext x
 unfold Ej u6
 by_cases h:(d.mem x.toNat).sign=0 <;> simp [h]
theorem Dt (args:Array Value) (w:World):(callFunc 198 args).run Tryz.prog w=.ok (.enter 198 args) w:=by simp [go_sem]
theorem Cd (d:Dm) (b o cap q k:Nat) (w:World) (e:k<d.n) (j:d.n≤12) (a:b8 w b o d.n d.mem) (i:w.cell? ⟨q,2,none⟩=some (.slice (some ⟨b,o,none⟩) d.n cap)) :
  Rt 198 #[.int .i64 k,.pointer (some ⟨q,0,none⟩)] w (.bool (Ej d k)):=by
 obtain ⟨-,-,c,-⟩:=a.2 k e;have f:(k:Int)<(d.n:Int):=by omega
 have g:(d.n:Int)≤12:=by omega
 unfold Ej;rw [Int.toNat_natCast];generalize (d.mem k).sign=sg at c ⊢;generalize d.n=n at *;clear a
 go_enter Tryz.func198,Tryz.ntmps198
 go_wp2_with fail;go_ret;exact ⟨by by_cases h:sg=0 <;> simp [h],zS⟩
theorem gd {M:Nat→Mem} {i:Nat} (h:aS M i=0):(M i).formula.size≤100:=by
 unfold aS at h
 split at h
 ·simp at h
 split at h
 ·simp at h
 split at h
 ·simp at h
 split at h
 ·simp at h
 split at h
 ·simp at h
 split at h
 ·simp at h
 omega
theorem Il {d:Dm} (b:(au d).2=0) {i:Nat} (a:(d.mem i).formula.size≠0):xg d (d.mem i).formula=mErr d i∧rfL d (d.mem i).formula=G9 (mErr d i) (dQ d i):=by
 have e:xg d (d.mem i).formula=mErr d i:=by
  unfold xg mErr jN;rw [if_neg a]
 refine ⟨e,?_⟩;unfold rfL G9;rw [e]
 by_cases h:mErr d i=0
 ·rw [if_pos h,if_pos h]
  refine qT b a h ?_;unfold mErr at h;rw [if_neg a] at h
  split at h
  ·rename_i h1;exact absurd h h1
  rename_i h1;simpa using h1
 rw [if_neg h,if_neg h]
theorem uE (d:Dm) (A:Option Addr) (cap i:Nat) (w:World) (Z:(au d).2=0) (hi:i<d.n) (hM:dP w A cap d.n d.mem) :
  Calls Tryz.prog 163 #[cA d A cap,.int .i64 i] w fun e w'=>(∃ A' c',e=.returned (.tuple #[.slice A' (G9 (mErr d i) (dQ d i)).length c',errV (mErr d i)])∧aY w' A' c' (G9 (mErr d i) (dQ d i)))∧Bl w w':=by
 obtain ⟨-,-,v,h⟩:=aG Z;obtain ⟨F,h0 | ⟨b,o,rfl,u⟩⟩:=hM
 ·omega
 have r:=aM w d (some ⟨b,o,none⟩) cap 37;have hS:=aZ w d (some ⟨b,o,none⟩) cap 37;obtain ⟨o0,o1,o2⟩:=dD w d (some ⟨b,o,none⟩) cap 37;unfold cA;obtain ⟨W,hW⟩:=ax (aI w d (some ⟨b,o,none⟩) cap 37);rw [hW] at r hS o0 o1 o2;unfold aI at hW;have g:=u.later r;obtain ⟨-,-,-,c3⟩:=g.2 i hi;have hii:(i:Int)<(d.n:Int):=by omega
 have hni:(d.n:Int)≤12:=by omega
 have M:w.heap.size<W.heap.size:=by omega
 have q:=aa r
 by_cases y:(d.mem i).formula.size=0
 ·have z:(d.mem i).formula.toList.isEmpty=true:=by rw [aN];simpa using y
  have H:mErr d i=0:=by unfold mErr;rw [if_pos y]
  rw [H,DS rfl,errV_zero];have B:=By d (some ⟨b,o,none⟩) cap i W Z hi ⟨F,Or.inr ⟨b,o,rfl,g⟩⟩;unfold cA at B;have P:Hid ((bj d.mem d.n i).filter (u6 d)=dQ d i):=f6 y;have R:Hid ((bj d.mem d.n i).length≤12):=zV (cS _ _) v;have S:Hid (∀ x∈bj d.mem d.n i,∃ k:Nat,x=(k:Int)∧k<d.n):=fun x hx=>by
   obtain ⟨m,V,h2,-⟩:=dE x hx;exact ⟨m,V,h2⟩
  have C:=aa g;have Q:=aa o2;generalize (d.mem i).formula=U at c3 z;clear u h y H
  go_enter Tryz.func163,Tryz.ntmps163
  go_wp2_with fail;refine B.mono ?_;rintro e w1 ⟨⟨v1,rfl,p⟩,c⟩;have HB1:=aa c;have hq1:w.heap.size<w1.heap.size:=by have:=c.size;omega
  have l:=Dj 198 #[.pointer (some ⟨w.heap.size,0,none⟩)] (Ej d) Dt W.heap.size v1 (bj d.mem d.n i) w1 (by have:=R.out;omega) p fun x w' hx t=>by
   obtain ⟨k,rfl,hk⟩:=S.out x hx;have J:∀ j,v1.ownBlock=some j→W.heap.size≤j:=fun j K=>(p.lt j K).1
   have Y:b<W.heap.size:=C.out.1;have I:∀ j,j<W.heap.size→some j≠v1.ownBlock:=fun j K e=>by have:=J j e.symm;omega
   refine Cd d b o cap w.heap.size k w' hk v ((C.out.later c).grown t (I b Y)) ?_;have V:w1.cell? ⟨w.heap.size,2,none⟩=some (.slice (some ⟨b,o,none⟩) d.n cap):=aL c M Q.out;rw [World.cell?_of_block (a:=⟨w.heap.size,2,none⟩) (t.block w.heap.size hq1 (I _ M))];exact V
  rw [Gl,P.out] at l;have O:Hid (∀ w',w1.grownBy w' v1.ownBlock→Bl w w'):=fun w' t=>(ae q.out c).grown t (by have:=q.out.size;have:=c.size;omega) fun j K=>by have:=(p.lt j K).1;omega
  clear p c B;go_wp2_with fail;refine l.mono ?_;rintro e w2 ⟨⟨A2,c2,rfl,E⟩,t⟩;have T:=aa E;have N:=aa (O.out w2 t);clear E t l;go_wp2_with fail
  go_ret2
  exact ⟨⟨A2,c2,rfl,T.out⟩,N.out⟩
 have z:(d.mem i).formula.toList.isEmpty=false:=by rw [aN];simpa using y
 obtain ⟨e1,e2⟩:=Il Z y;have D:IH d w.heap.size W:=fun s w' X=>H9 d b o cap w.heap.size s w' v (g.later X) (zW M X.size) (aL X M o2)
 have f:=E4 d w.heap.size (d.mem i).formula W (gd (h i hi)) D;rw [←e2,←e1];unfold FK at f;obtain ⟨U,G⟩:=ax ((d.mem i).formula);rw [G] at c3 z f ⊢;generalize rfL d U=L at f ⊢;generalize errV (xg d U)=ev at f ⊢;clear u h y D g e1 e2 G
 go_enter Tryz.func163,Tryz.ntmps163
 go_wp2_with fail;refine f.mono ?_;rintro e w1 ⟨⟨A1,c1,rfl,E⟩,c⟩;have T:=aa E;clear E f;go_wp2_with fail
 go_ret2
 exact ⟨⟨A1,c1,rfl,T.out⟩,ae q.out c⟩
def rH (d:Dm) (k:Nat):List (List Int):=(List.range k).map (dQ d)
theorem qA (d:Dm) (k:Nat):rH d (k+1)=rH d k ++ [dQ d k]:=by simp [rH,List.range_succ]
theorem Ge {d:Dm} {a:List RL} (h:lR a=eu d):∀ x∈a,x.p.Nodup∧x.p.length≤d.n:=fun x c=>by
 have b:x.p∈eu d:=by rw [←h];exact List.mem_map.2 ⟨x,c,rfl⟩
 obtain ⟨i,-,e⟩:=List.mem_map.1 b;rw [←e];exact ⟨oM (gN d i),rE d i⟩
theorem eT {w w1:World} {d:Dm} {A:Option Addr} {cap:Nat} (a:Below (aI w d A cap 37).heap.size (aI w d A cap 37) w1):w1.cell? ⟨w.heap.size,0,none⟩=some (.string d.name)∧w1.cell? ⟨w.heap.size,1,none⟩=some (.int .i64 d.solve)∧w1.cell? ⟨w.heap.size,2,none⟩=some (.slice A d.n cap)∧w.heap.size<w1.heap.size:=by
 have c:=aZ w d A cap 37;obtain ⟨o0,o1,o2⟩:=dD w d A cap 37;have b:w.heap.size<(aI w d A cap 37).heap.size:=by omega
 exact ⟨aL a b o0,aL a b o1,aL a b o2,by have:=a.size;omega⟩
theorem oO (d:Dm) (A:Option Addr) (cap:Nat) (w:World) (hM:dP w A cap d.n d.mem) :
  Calls Tryz.prog 140 #[cA d A cap] w fun e w'=>(∃ A' c' o,e=.returned (.tuple #[.slice A' o.length c',.int .i64 (a8 d).1,errV (a8 d).2])∧cT w' A' c' o∧((a8 d).2=0→lR o=eu d))∧Bl w w':=by
 have M:=aM w d A cap 37;have a:=jY d A cap (aI w d A cap 37) (hM.later M);have HM:=aa hM;have q:Hid (∀ w1,Below (aI w d A cap 37).heap.size (aI w d A cap 37) w1→w1.cell? ⟨w.heap.size,0,none⟩=some (.string d.name)∧w1.cell? ⟨w.heap.size,1,none⟩=some (.int .i64 d.solve)∧w1.cell? ⟨w.heap.size,2,none⟩=some (.slice A d.n cap)∧w.heap.size<w1.heap.size):=fun w1 h=>eT h
 unfold cA at a ⊢;obtain ⟨W,hW⟩:=ax (aI w d A cap 37);rw [hW] at M a q;unfold aI at hW;have K:=aa M;clear hM M
 by_cases V:(au d).2=0
 case neg =>
  rw [KV V];rw [aj V] at a ⊢;have S:=aa V;generalize (au d).1=x at a ⊢;generalize (au d).2=c at a S ⊢;obtain ⟨d0,d1,d2,hqW⟩:=q.out W (zS);clear V
  go_enter Tryz.func140,Tryz.ntmps140
  go_wp2_with fail;refine a.mono ?_;rintro e w1 ⟨rfl,F⟩;go_wp2_with fail;go_returns;exact ⟨⟨none,0,[],rfl,cT.nil _ _ _,fun e=>absurd e S.out⟩,ae K.out F⟩
 obtain ⟨hd1,hdn,X,-⟩:=aG V;have HD:=aa V;rw [V,hd1,errV_zero] at a;obtain ⟨i0,hi0,hz0,hz1,hz2⟩:=info_parts Tryz.infoRow;obtain ⟨n,hn⟩:=ax d.n;have s:=aa hn;rw [hn] at a hW q hdn X ⊢;have hmk:∀ w',(Instr.makeSlice 59 (.int .i64 0) (.int .i64 (n:Int))).run Tryz.prog w'=.ok (.slice (some ⟨w'.heap.size,0,none⟩) 0 n) (w'.alloc (.cells (madeCells #[.slice none 0 0] n) 26)):=fun w'=>by
  have h:=run_make (P:=Tryz.prog) w' 59 26 i0 _ Tryz.underlying59 hi0 hz0 .i64 .i64 0 n (Int.le_refl _) (by omega) (by rw [hz2];omega) (by omega)
  simp only [Int.toNat_natCast,hz1,Nat.mul_one] at h;exact h
 have hnI:(n:Int)≤12:=by omega
 obtain ⟨d0,d1,d2,hqW⟩:=q.out W (zS);clear V hn hd1
 go_enter Tryz.func140,Tryz.ntmps140
 go_wp2_with fail;refine a.mono ?_;rintro e w1 ⟨rfl,F⟩;obtain ⟨c0,c1,c2,hq1⟩:=q.out w1 F;have D:=aa F;clear F a c0 c1 d0 d1 d2 hW;obtain ⟨W1,Lu⟩:=ax (w1.alloc (.cells (madeCells #[.slice none 0 0] n) 26));have E:Bl w1 W1:=by rw [←Lu];exact (zS).alloc (zT) _
 have Lz:=aa E;have LD:Hid (W1.ownsRow w1.heap.size 26 1 (.slice (some ⟨w1.heap.size,0,none⟩) 0 n) 0 []):=by
  rw [←Lu];exact World.ownsRow_made w1 _ n (zT) (by unfold maxLen;omega) (by simp [madeCells])
 obtain ⟨-,-,b,hq1'⟩:=q.out W1 (ae D.out E);clear E;go_wp2_with fail;clear Lu hmk
 go_loopg [7,28] n (fun g s7 s28 wr => ∃ (k:Nat) (o:List RL),k≤n∧g=n-k∧s28=.int .i64 k∧Hid (lR o=rH d k∧(∀ j,j<k→mErr d j=0)∧∀ x∈o,aY wr x.A x.c x.p)∧wr.ownsRow w1.heap.size 26 1 s7 o.length (cD o)∧Bl w1 wr)
 case atStart=>exact ⟨0,[],zU,rfl,rfl,(⟨rfl,fun j hj=>absurd hj (Nat.not_lt_zero _),fun x J=>by cases J⟩:_∧_∧_),LD.out,Lz.out⟩
 case round =>
  obtain ⟨k,o,hk,rfl,rfl,T,hO,z⟩:=hrel;have HO:=aa hO;have LB:=aa z;have y:Hid (o.length=k):=by
   have h:=T.out.1
   show _=_
   rw [←nO,h]
   simp [rH]
  obtain ⟨c0,c1,c2,hq⟩:=q.out wr (ae D.out z)
  by_cases H:k<n
  ·have hki:(k:Int)<(n:Int):=by omega
   have l:=uE d A cap k wr HD.out (by rw [s.out];exact H) (HM.out.later (ae K.out (ae D.out z)))
   unfold cA at l;rw [s.out] at l
   by_cases O:mErr d k=0
   ·rw [DS O,O,errV_zero] at l
    have S:=aa O;obtain ⟨r,hr⟩:=ax ((dQ d k).length);have HR:=aa hr;rw [hr] at l;clear hO z O hr;go_wp2_with fail;refine l.mono ?_;rintro e w2 ⟨⟨A2,b,rfl,hT⟩,C⟩;have Lw:=aa (ae LB.out C);have L:Hid (w2.ownsRow w1.heap.size 26 1 u7 k (cD o)):=by
     have h:=ar HO.out C;rw [y.out] at h;exact h
    have HT2:=aa hT;have HX2:Hid (∀ x∈o,aY w2 x.A x.c x.p):=fun x J=>(T.out.2.2 x J).later C
    have hsz:=Lw.out.size;clear hT C l c0 c1 c2
    go_wp2_with (at_builtin;refine wpList_append_own _ rfl _ _ 59 rfl w1.heap.size 26 i0 (.slice none 0 0) 1 24 Tryz.underlying59 hi0 hz0 hz1 hz2 rfl (by decide) _ _ _ rfl (L.out.alloc _) ⟨w2.heap.size,0,none⟩ 1 1 [.slice A2 r b] rfl rfl bu (by intro u hu;simp at hu;subst hu;rfl) (by unfold maxLen;omega) (by omega) (by simp;omega) ?_)
    intro v' w3 I f _;have HB3:Hid (Bl w1 w3):=bA Lw.out L.out f;have HX3:Hid (lR (o ++ [(⟨dQ d k,A2,b⟩:RL)])=rH d (k+1)∧(∀ j,j<k+1→mErr d j=0)∧∀ x∈o ++ [(⟨dQ d k,A2,b⟩:RL)],aY w3 x.A x.c x.p):=by
     refine ⟨by rw [qs,T.out.1,qA];rfl,fun j hj=>?_,fun x J=>?_⟩
     ·by_cases e:j=k
      ·rw [e];exact S.out
      exact T.out.2.1 j (by omega)
     rcases List.mem_append.1 J with J | J
     ·exact ((HX2.out x J).later (by go_grown)).row (L.out.alloc _) f
     rw [List.mem_singleton.1 J];exact (HT2.out.later (by go_grown)).row (L.out.alloc _) f
    have HO3:Hid (w3.ownsRow w1.heap.size 26 1 v' (o ++ [(⟨dQ d k,A2,b⟩:RL)]).length (cD (o ++ [(⟨dQ d k,A2,b⟩:RL)]))):=by
     show World.ownsRow ..
     rw [gy,List.length_append,y.out];have e:cD [(⟨dQ d k,A2,b⟩:RL)]=[.slice A2 r b]:=by simp [cD,HR.out]
     rw [e];exact I
    clear I f;go_wp2_with fail
    go_roundg (n-(k+1))
    case measure=>omega
    case rel=>exact ⟨k+1,_,by omega,rfl,by go_num,HX3,HO3.out,HB3.out⟩
   have B:Hid (a8 d=((k:Int),mErr d k)):=KD HD.out (i:=k) (by rw [s.out];exact H) O T.out.2.1
   have S:=aa O;rw [F8 O,aj O] at l;generalize mErr d k=ec at l S B;clear hO z O;go_wp2_with fail;refine l.mono ?_;rintro e w2 ⟨⟨A2,b,rfl,-⟩,C⟩;go_wp2_with fail;go_returns;rw [B.out];exact ⟨⟨none,0,[],by rw [aj S.out];rfl,cT.nil _ _ _,fun e=>absurd e S.out⟩,ae K.out (ae D.out (ae LB.out C))⟩
  have hke:k=n:=by omega
  subst hke;have HL:Hid (lR o=eu d):=by show _=_;rw [T.out.1,←s.out];rfl
  have Q:Hid (∀ j,j<d.n→mErr d j=0):=by rw [s.out];exact T.out.2.1
  obtain ⟨Ar,cr,hv,hRv⟩:=oP hO T.out.2.2;subst hv;have LE:=aa hRv;have LA:=aa (ae K.out (ae D.out z));clear hO z hRv c0 c1 c2 q;rw [y.out];obtain ⟨w4,rfl⟩:∃ w4:World,w4=wr:=⟨_,rfl⟩;go_wp2_with fail
  go_loopg [48] k (fun g s48 wi => ∃ (j:Nat),j≤k∧g=k-j∧s48=.int .i64 j∧Hid (∀ t,t<j→cycB (eu d) t=false)∧Bl w4 wi)
  case atStart=>exact ⟨0,zU,rfl,rfl,(fun t ht=>absurd ht (Nat.not_lt_zero _):∀ t,t<0→_),zS⟩
  case round =>
   obtain ⟨j,hj,rfl,rfl,Lt,N⟩:=hrel;have Z:=aa N
   by_cases H:j<k
   ·have hji:(j:Int)<(k:Int):=by omega
    have Lv:=uP Ar cr o j wr (by rw [y.out];exact X) (by rw [y.out];exact H) (by rw [HL.out];exact kH d) (fun x J=>by
     have h:=Ge HL.out x J;rw [s.out] at h;exact ⟨h.1,by omega⟩) (LE.out.later N)
    rw [y.out,HL.out] at Lv;clear N;go_wp2_with fail;refine Lv.mono ?_;rintro e w5 ⟨⟨A5,c5,R,rfl,LF,U,hRr⟩,hb5⟩;have v:=jI A5 c5 R j w5 U LF;have Lx:=aa (ae Z.out hb5);have HIn:Hid (FJ R j=cycB (eu d) j):=by
     show _=_
     rw [Bool.eq_iff_iff,cyc_iff,←hRr];unfold FJ;exact decide_eq_true_iff
    rw [HIn.out] at v;generalize R.length=m at v;clear Lv hb5 LF hRr U;cases hcy:cycB (eu d) j
    ·rw [hcy] at v
     have LC:Hid (∀ t,t<j+1→cycB (eu d) t=false):=fun t ht=>by
      by_cases e:t=j
      ·rw [e];exact hcy
      exact Lt.out t (by omega)
     clear hcy;go_wp2_with fail;refine v.mono ?_;rintro e w6 ⟨rfl,G⟩;have Y:=aa (ae Lx.out G);clear G v;go_wp2_with fail
     go_roundg (k-(j+1))
     case measure=>omega
     case rel=>exact ⟨j+1,by omega,rfl,by go_num,LC,Y.out⟩
    rw [hcy] at v;have B:Hid (a8 d=((j:Int),8)):=KW HD.out Q.out (by rw [s.out];exact H) hcy Lt.out
    clear hcy;go_wp2_with fail;refine v.mono ?_;rintro e w6 ⟨rfl,G⟩;have Y:=aa (ae Lx.out G);clear G v;go_wp2_with fail;go_returns;rw [B.out];exact ⟨⟨none,0,[],rfl,cT.nil _ _ _,fun e=>by cases e⟩,ae LA.out Y.out⟩
   have hje:j=k:=by omega
   subst hje;have B:Hid (a8 d=(-1,0)):=KX HD.out Q.out (by rw [s.out];exact Lt.out)
   clear N;go_wp2_with fail;go_returns;rw [B.out];exact ⟨⟨Ar,cr,o,by rw [y.out];rfl,LE.out.later Z.out,fun _=>HL.out⟩,ae LA.out Z.out⟩
theorem wZ (d:Dm) (A:Option Addr) (cap:Nat) (w:World) (h:dP w A cap d.n d.mem):Rt 119 #[cA d A cap] w (.tuple #[.int .i64 (a8 d).1,errV (a8 d).2]):=by
 have a:=aM w d A cap 37;have c:=oO d A cap (aI w d A cap 37) (h.later a);obtain ⟨j,k,l,g⟩:=eT (w:=w) (d:=d) (A:=A) (cap:=cap) (zS);have b:=aa a;unfold cA at c ⊢;obtain ⟨W,i⟩:=ax (aI w d A cap 37);rw [i] at j k l g b c;unfold aI at i;generalize errV (a8 d).2=ev at c ⊢;generalize (a8 d).1=x at c ⊢;clear h a
 go_enter Tryz.func119,Tryz.ntmps119
 go_wp2_with fail;refine c.mono ?_;rintro e w1 ⟨⟨A1,c1,m,rfl,-⟩,f⟩;go_wp2_with fail
 go_ret2
 exact ⟨rfl,ae b.out f⟩
noncomputable def nV (d:Dm) (i:Int):Int:=if (a8 d).2≠0 then (a8 d).2 else if i<0∨(d.n:Int)≤i then 1 else 0
noncomputable def rG (d:Dm) (i:Int):List Int:=if nV d i=0 then dQ d i.toNat else []
theorem Lp {d:Dm} {i:Int} (h:(a8 d).2≠0):nV d i=(a8 d).2∧rG d i=[]:=by
 have e:nV d i=(a8 d).2:=by unfold nV;rw [if_pos h]
 exact ⟨e,by unfold rG;rw [e,if_neg h]⟩
theorem Lf {d:Dm} {i:Int} (h:(a8 d).2=0) (a:i<0∨(d.n:Int)≤i):nV d i=1∧rG d i=[]:=by
 have e:nV d i=1:=by unfold nV;rw [if_neg (by simpa using h),if_pos a]
 exact ⟨e,by unfold rG;rw [e,if_neg (by decide)]⟩
theorem KU {d:Dm} {k:Nat} (h:(a8 d).2=0) (a:k<d.n):nV d k=0∧rG d k=dQ d k:=by
 have e:nV d k=0:=by unfold nV;rw [if_neg (by simpa using h),if_neg (by omega)]
 exact ⟨e,by unfold rG;rw [if_pos e,Int.toNat_natCast]⟩
theorem B5 (d:Dm) (A:Option Addr) (cap:Nat) (i:Int) (w:World) (U:dP w A cap d.n d.mem):Calls Tryz.prog 170 #[cA d A cap,.int .i64 i] w fun e w'=>(∃ A' c',e=.returned (.tuple #[.slice A' (rG d i).length c',errV (nV d i)])∧aY w' A' c' (rG d i))∧Bl w w':=by
 have t:=aM w d A cap 37;have l:=oO d A cap (aI w d A cap 37) (U.later t);obtain ⟨Q,R,L,O⟩:=eT (w:=w) (d:=d) (A:=A) (cap:=cap) (zS);have q:=aa t;unfold cA at l ⊢;obtain ⟨W,N⟩:=ax (aI w d A cap 37);rw [N] at Q R L O q l;unfold aI at N;clear U t
 by_cases v:(a8 d).2=0
 ·obtain ⟨Y,-,-,S⟩:=bK v
  obtain ⟨-,-,C,-⟩:=aG Y;rw [v,S,errV_zero] at l;have G:=aa v;obtain ⟨n,y⟩:=ax d.n;have F:=aa y;rw [y] at L C N l ⊢;have hnI:(n:Int)≤12:=by omega
  clear v Y S y
  go_enter Tryz.func170,Tryz.ntmps170
  go_wp2_with fail;refine l.mono ?_;rintro e w1 ⟨⟨A1,c1,o,rfl,V,T⟩,m⟩;have u:=T trivial;have a:o.length=n:=by rw [←nO,u,fd];exact F.out
  have r:=aa (ae q.out m);have I:Hid (cT w1 A1 c1 o∧lR o=eu d∧o.length=n):=⟨V,u,a⟩;rw [a];clear V T u a m l Q R L
  by_cases M:i<0
  ·obtain ⟨g,h⟩:=Lf G.out (Or.inl M)
   have f:=aa g;have s:=aa h;clear g h;go_wp2_with fail
   go_ret2
   rw [f.out,s.out];exact ⟨⟨none,0,rfl,aY.nil _ _ _ (by omega)⟩,r.out⟩
  have Z:decide (i<0)=false:=decide_eq_false M
  by_cases h2:(n:Int)≤i
  ·obtain ⟨g,h⟩:=Lf G.out (Or.inr (by rw [F.out];exact h2))
   have f:=aa g;have s:=aa h;clear g h;go_wp2_with fail
   go_ret2
   rw [f.out,s.out];exact ⟨⟨none,0,rfl,aY.nil _ _ _ (by omega)⟩,r.out⟩
  obtain ⟨k,rfl⟩:∃ k:Nat,i=k:=⟨i.toNat,by omega⟩
  have D:k<n:=by omega
  have hki:(k:Int)<(n:Int):=by omega
  obtain ⟨g,h⟩:=KU G.out (k:=k) (by rw [F.out];exact D)
  have f:=aa g;obtain ⟨⟨X,P | ⟨b,rfl,hbw,B⟩,E⟩,z,a⟩:=I.out
  ·rw [P] at a;simp at a;omega
  have K:=B k (by omega)
  have j:=E _ (iG (k:=k) (by omega))
  have H:Hid ((o.getD k ew).p=rG d k):=by
   show _=_
   rw [h,←qt,z,lu (by rw [F.out];exact D)]
  rw [H.out] at K j;generalize (o.getD k ew).A=Ak at K j;generalize (o.getD k ew).c=cck at K j;have J:=aa j;clear B E z g h j M;go_wp2_with fail
  go_ret2
  rw [f.out];exact ⟨⟨Ak,cck,rfl,J.out⟩,r.out⟩
 obtain ⟨g,h⟩:=Lp (i:=i) v;rw [g,h];rw [aj v] at l ⊢;generalize (a8 d).2=ec at l ⊢;generalize (a8 d).1=x at l;clear v g h
 go_enter Tryz.func170,Tryz.ntmps170
 go_wp2_with fail;refine l.mono ?_;rintro e w1 ⟨⟨A1,c1,o,rfl,-⟩,m⟩;go_wp2_with fail
 go_ret2
 exact ⟨⟨none,0,rfl,aY.nil _ _ _ (by omega)⟩,ae q.out m⟩
end Go.Proofs.YthlhjjabkgpenaaGreatDoor
