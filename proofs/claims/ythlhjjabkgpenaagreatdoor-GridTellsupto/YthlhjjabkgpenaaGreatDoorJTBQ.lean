/- tallylaw3.GridTells, r -/
import Derived.Test.YthlhjjabkgpenaaGreatDoorJTBK
import Derived.Test.YthlhjjabkgpenaaGreatDoorJTBL
import Derived.Test.YthlhjjabkgpenaaGreatDoorJTBP
namespace Go.Proofs.YthlhjjabkgpenaaGreatDoor
open Go ChangeShapes WideShapes ChangeAt RowKit
set_option maxRecDepth 99999
set_option maxHeartbeats 0
set_option maxHeartbeats 64000000
theorem I3 (T:Array Value) (s:Nat→Value)  (w:World) (a:aP T s)   (J:Act→World→Prop) (Q:Exit→Act→World→Prop)
  (b:∀ T',aP T' (cJ s 16 (.int .i64 0))→J ⟨T',[]⟩ w):Code.wp Tryz.prog (bC 6 [1,2,1,0,0]) (Exit.then J Q) ⟨T,[]⟩ w:=by
 obtain ⟨d,rfl⟩:=am a;unfold a7;have c:=aa b;clear b a 
 conv=>arg 2;whnf
 go_wp2_with fail;refine c.out _ ⟨rfl,?_⟩ 
 rfl
theorem I5 (T:Array Value) (s:Nat→Value) (k:Nat) (w:World) (b:aP T s) (a:s 16=.int .i64 (k:Nat)) (g:k≤1048577) (J:Act→World→Prop) (Q:Exit→Act→World→Prop)
  (c:∀ T',aP T' (cJ s 16 (.int .i64 (k+1:Nat)))→J ⟨T',[]⟩ w):Code.wp Tryz.prog (bC 6 [1,2,1,0,1,3,4,1,1]) (Exit.then J Q) ⟨T,[]⟩ w:=by
 obtain ⟨h,rfl⟩:=am b;unfold a7;rw [a];have e:=aa c;have d:=aa a;clear c b a
 conv=>arg 2;whnf
 have f:(k:Int)+1≤9223372036854775807:=by omega
 go_wp2_with fail;refine e.out _ ⟨rfl,?_⟩ 
 rfl
theorem I4 (T:Array Value) (s:Nat→Value) (b d od n cap h k m q:Nat) (Am:Option Addr) (w:World) (o:aP T s) (f:s 4=.int .i64 (h:Nat)) (g:s 6=.pointer (some ⟨b,0,none⟩)) (a:s 16=.int .i64 (k:Nat)) (t:w.cell? ⟨b,0,none⟩=some (.slice (some ⟨d,od,none⟩) n cap)) (u:w.cell? ⟨d,od+h*3+2,none⟩=some (.slice Am m q)) (v:h<n) (J:Act→World→Prop) (Q:Exit→Act→World→Prop)
  (p:∀ T',aP T' s→Act.eval ⟨T',[]⟩ (.tmp 95)=.bool (decide (k<m))→J ⟨T',[]⟩ w):Code.wp Tryz.prog (bC 6 [1,2,1,0,1,3,4,0,0]) (Exit.then J Q) ⟨T,[]⟩ w:=by
 obtain ⟨x,rfl⟩:=am o;unfold a7;rw [f,g,a];have l:=aa p;have i:=aa f;have j:=aa g;have c:=aa a;clear p o f g a
 conv=>arg 2;whnf
 by_cases e:k<m
 ·have r:(k:Int)<(m:Int):=by omega
  go_wp2_with fail;refine l.out _ ⟨rfl,?_⟩ (by rw [decide_eq_true e];rfl)
  rw [←i.out,←j.out,←c.out]
  rfl
 have r : ¬ (k:Int)<(m:Int):=by omega
 go_wp2_with fail;refine l.out _ ⟨rfl,?_⟩ (by rw [decide_eq_false e];rfl)
 rw [←i.out,←j.out,←c.out]
 rfl
theorem I6 (T:Array Value) (s:Nat→Value) (q base n:Nat) (v0 v1 v2:Value) (E:List Value)  (w:World) (C:aP T s) (d:s 14=.pointer (some ⟨q,0,none⟩)) (g:s 16=.int .i64 (n:Nat)) (t:w.heap[q]?=some (.cells #[v0,v1,v2] 30 (0,0))) (l:w.ownsRow base 3 1 v1 n E) (M:base≤w.heap.size) (v:q<base) (N:n≤1048577)  (J:Act→World→Prop) (Q:Exit→Act→World→Prop)
  (D:∀ T' w' v',aP T' s→w'.heap[q]?=some (.cells #[v0,v',v2] 30 (0,0))→w'.ownsRow base 3 1 v' (n+1) (E ++ [.int .i64 (n:Nat)])→Kept w.heap.size (fun b=>b=q∨v1.ownBlock=some b) w w'→J ⟨T',[]⟩ w'):Code.wp Tryz.prog (bC 6 [1,2,1,0,1,3,4,1,0,3]) (Exit.then J Q) ⟨T,[]⟩ w:=by
 obtain ⟨R,rfl⟩:=am C;unfold a7;rw [d,g];have F:=aa D;have m:=aa d;have o:=aa g;clear D C d g;obtain ⟨i0,r,x,y,z⟩:=info_parts Tryz.infoIntP;obtain ⟨A1,c1,rfl⟩:=bG l;have k:some q≠(Value.slice A1 n c1).ownBlock:=fun e=>by have:=(l.lt q e.symm).1;omega
 have L:w.cell? ⟨q,1,none⟩=some (.slice A1 n c1):=(Lib.cell_of_heap t 1).trans rfl;have I:q<w.heap.size:=by omega
 have A:=aa l;have B:=aa t;clear l t
 conv=>arg 2;whnf
 go_wp2_with (at_builtin;refine wpList_append_own _ rfl _ _ 26 rfl base 3 i0 (.int .i64 0) 1 8 Tryz.underlying26 r x y z rfl (by decide) _ _ _ rfl (A.out.alloc _) ⟨w.heap.size,0,none⟩ 1 1 [.int .i64 (n:Nat)] rfl rfl ?qe2 ?qe3 ?qe4 ?qe5 ?qe6 ?_)
 case qe2 =>
  intro j u H;rw [dd,Lib.cell_of_heap (heap_alloc_new w (.cells #[.int .i64 (n:Nat)] 3))]
  simpa using H
 case qe3=>intro u K;rw [List.mem_singleton.1 K];rfl
 case qe4=>simp only [maxLen];omega
 case qe5=>omega
 case qe6=>simp;omega
 intro v' w8 c a i;have p:=aa (kt (f:=1) B.out A.out v c a);obtain ⟨A8,G,rfl⟩:=bG c;have h:w8.heap[q]?=some (.cells #[v0,.slice A1 n c1,v2] 30 (0,0)):=by
  rw [a.block _ (by simp;omega) k,Below.heap_alloc _ _ _ (by omega)]
  exact B.out
 have O:w8.cell? ⟨q,1,none⟩=some (.slice A1 n c1):=(Lib.cell_of_heap h 1).trans rfl;have P:w8.frozen? ⟨q,1,none⟩=false:=by simp [World.frozen?,h]
 clear c a i h k L;go_wp2_with fail;refine F.out _ _ (.slice A8 (n+1) G) ⟨rfl,?_⟩ p.out.1 p.out.2.1 p.out.2.2;rw [←m.out,←o.out]
 rfl
theorem Ja (T:Array Value) (s:Nat→Value) (q base n:Nat) (v0 v1 v2:Value) (E:List Value)  (w:World) (C:aP T s) (d:s 14=.pointer (some ⟨q,0,none⟩)) (g:s 17=.int .i64 (n:Nat)) (t:w.heap[q]?=some (.cells #[v0,v1,v2] 30 (0,0))) (l:w.ownsRow base 3 1 v0 n E) (M:base≤w.heap.size) (v:q<base) (N:n≤1048577)  (J:Act→World→Prop) (Q:Exit→Act→World→Prop)
  (D:∀ T' w' v',aP T' s→w'.heap[q]?=some (.cells #[v',v1,v2] 30 (0,0))→w'.ownsRow base 3 1 v' (n+1) (E ++ [.int .i64 (n:Nat)])→Kept w.heap.size (fun b=>b=q∨v0.ownBlock=some b) w w'→J ⟨T',[]⟩ w'):Code.wp Tryz.prog (bC 6 [1,2,1,1,1,3,4,1,0,3,0]) (Exit.then J Q) ⟨T,[]⟩ w:=by
 obtain ⟨R,rfl⟩:=am C;unfold a7;rw [d,g];have F:=aa D;have m:=aa d;have o:=aa g;clear D C d g;obtain ⟨i0,r,x,y,z⟩:=info_parts Tryz.infoIntP;obtain ⟨A1,c1,rfl⟩:=bG l;have k:some q≠(Value.slice A1 n c1).ownBlock:=fun e=>by have:=(l.lt q e.symm).1;omega
 have L:w.cell? ⟨q,0,none⟩=some (.slice A1 n c1):=(Lib.cell_of_heap t 0).trans rfl;have I:q<w.heap.size:=by omega
 have A:=aa l;have B:=aa t;clear l t
 conv=>arg 2;whnf
 go_wp2_with (at_builtin;refine wpList_append_own _ rfl _ _ 26 rfl base 3 i0 (.int .i64 0) 1 8 Tryz.underlying26 r x y z rfl (by decide) _ _ _ rfl (A.out.alloc _) ⟨w.heap.size,0,none⟩ 1 1 [.int .i64 (n:Nat)] rfl rfl ?qe2 ?qe3 ?qe4 ?qe5 ?qe6 ?_)
 case qe2 =>
  intro j u H;rw [dd,Lib.cell_of_heap (heap_alloc_new w (.cells #[.int .i64 (n:Nat)] 3))]
  simpa using H
 case qe3=>intro u K;rw [List.mem_singleton.1 K];rfl
 case qe4=>simp only [maxLen];omega
 case qe5=>omega
 case qe6=>simp;omega
 intro v' w8 c a i;have p:=aa (kt (f:=0) B.out A.out v c a);obtain ⟨A8,G,rfl⟩:=bG c;have h:w8.heap[q]?=some (.cells #[.slice A1 n c1,v1,v2] 30 (0,0)):=by
  rw [a.block _ (by simp;omega) k,Below.heap_alloc _ _ _ (by omega)]
  exact B.out
 have O:w8.cell? ⟨q,0,none⟩=some (.slice A1 n c1):=(Lib.cell_of_heap h 0).trans rfl;have P:w8.frozen? ⟨q,0,none⟩=false:=by simp [World.frozen?,h]
 clear c a i h k L;go_wp2_with fail;refine F.out _ _ (.slice A8 (n+1) G) ⟨rfl,?_⟩ p.out.1 p.out.2.1 p.out.2.2;rw [←m.out,←o.out]
 rfl
theorem Jh (T:Array Value) (s:Nat→Value) (q base n:Nat) (v0 v1 v2:Value) (F:List Value) (Al:Option Addr) (ll l:Nat) (w:World) (D:aP T s) (d:s 14=.pointer (some ⟨q,0,none⟩)) (g:s 18=.slice Al ll l) (v:w.heap[q]?=some (.cells #[v0,v1,v2] 30 (0,0))) (m:w.ownsRow base 33 1 v2 n F) (N:base≤w.heap.size) (x:q<base) (O:n≤1048577)  (J:Act→World→Prop) (Q:Exit→Act→World→Prop)
  (E:∀ T' w' v',aP T' s→w'.heap[q]?=some (.cells #[v0,v1,v'] 30 (0,0))→w'.ownsRow base 33 1 v' (n+1) (F ++ [.slice Al ll l])→Kept w.heap.size (fun b=>b=q∨v2.ownBlock=some b) w w'→J ⟨T',[]⟩ w'):Code.wp Tryz.prog (bC 6 [1,2,1,1,1,3,4,1,0,3,1,1,1]) (Exit.then J Q) ⟨T,[]⟩ w:=by
 obtain ⟨S,rfl⟩:=am D;unfold a7;rw [d,g];have G:=aa E;have o:=aa d;have p:=aa g;clear E D d g;obtain ⟨i0,t,y,z,A⟩:=info_parts Tryz.infoCRow;obtain ⟨A1,c1,rfl⟩:=bG m;have k:some q≠(Value.slice A1 n c1).ownBlock:=fun e=>by have:=(m.lt q e.symm).1;omega
 have M:w.cell? ⟨q,2,none⟩=some (.slice A1 n c1):=(Lib.cell_of_heap v 2).trans rfl;have K:q<w.heap.size:=by omega
 have B:=aa m;have C:=aa v;clear m v
 conv=>arg 2;whnf
 go_wp2_with (at_builtin;refine wpList_append_own _ rfl _ _ 28 rfl base 33 i0 (.slice none 0 0) 1 24 Tryz.underlying28 t y z A rfl (by decide) _ _ _ rfl (B.out.alloc _) ⟨w.heap.size,0,none⟩ 1 1 [.slice Al ll l] rfl rfl ?qe2 ?qe3 ?qe4 ?qe5 ?qe6 ?_)
 case qe2 =>
  intro j u I;rw [dd,Lib.cell_of_heap (heap_alloc_new w (.cells #[.slice Al ll l] 33))]
  simpa using I
 case qe3=>intro u L;rw [List.mem_singleton.1 L];rfl
 case qe4=>simp only [maxLen];omega
 case qe5=>omega
 case qe6=>simp;omega
 intro v' w8 c a i;have r:=aa (kt (f:=2) C.out B.out x c a);obtain ⟨A8,H,rfl⟩:=bG c;have h:w8.heap[q]?=some (.cells #[v0,v1,.slice A1 n c1] 30 (0,0)):=by
  rw [a.block _ (by simp;omega) k,Below.heap_alloc _ _ _ (by omega)]
  exact C.out
 have P:w8.cell? ⟨q,2,none⟩=some (.slice A1 n c1):=(Lib.cell_of_heap h 2).trans rfl;have R:w8.frozen? ⟨q,2,none⟩=false:=by simp [World.frozen?,h]
 clear c a i h k M;go_wp2_with fail;refine G.out _ _ (.slice A8 (n+1) H) ⟨rfl,?_⟩ r.out.1 r.out.2.1 r.out.2.2;rw [←o.out,←p.out]
 rfl
theorem I7 (T:Array Value) (s:Nat→Value)  (w:World) (a:aP T s)   (J:Act→World→Prop) (Q:Exit→Act→World→Prop)
  (b:∀ T',aP T' (cJ s 17 (.int .i64 0))→J ⟨T',[]⟩ w):Code.wp Tryz.prog (bC 6 [1,2,1,1,0]) (Exit.then J Q) ⟨T,[]⟩ w:=by
 obtain ⟨d,rfl⟩:=am a;unfold a7;have c:=aa b;clear b a 
 conv=>arg 2;whnf
 go_wp2_with fail;refine c.out _ ⟨rfl,?_⟩ 
 rfl
theorem I9 (T:Array Value) (s:Nat→Value) (k:Nat) (w:World) (b:aP T s) (a:s 17=.int .i64 (k:Nat)) (g:k≤1048577) (J:Act→World→Prop) (Q:Exit→Act→World→Prop)
  (c:∀ T',aP T' (cJ s 17 (.int .i64 (k+1:Nat)))→J ⟨T',[]⟩ w):Code.wp Tryz.prog (bC 6 [1,2,1,1,1,3,4,1,1]) (Exit.then J Q) ⟨T,[]⟩ w:=by
 obtain ⟨h,rfl⟩:=am b;unfold a7;rw [a];have e:=aa c;have d:=aa a;clear c b a
 conv=>arg 2;whnf
 have f:(k:Int)+1≤9223372036854775807:=by omega
 go_wp2_with fail;refine e.out _ ⟨rfl,?_⟩ 
 rfl
theorem I8 (T:Array Value) (s:Nat→Value) (b d od n cap h k m q:Nat) (Am:Option Addr) (w:World) (o:aP T s) (f:s 3=.int .i64 (h:Nat)) (g:s 6=.pointer (some ⟨b,0,none⟩)) (a:s 17=.int .i64 (k:Nat)) (t:w.cell? ⟨b,0,none⟩=some (.slice (some ⟨d,od,none⟩) n cap)) (u:w.cell? ⟨d,od+h*3+2,none⟩=some (.slice Am m q)) (v:h<n) (J:Act→World→Prop) (Q:Exit→Act→World→Prop)
  (p:∀ T',aP T' s→Act.eval ⟨T',[]⟩ (.tmp 112)=.bool (decide (k<m))→J ⟨T',[]⟩ w):Code.wp Tryz.prog (bC 6 [1,2,1,1,1,3,4,0,0]) (Exit.then J Q) ⟨T,[]⟩ w:=by
 obtain ⟨x,rfl⟩:=am o;unfold a7;rw [f,g,a];have l:=aa p;have i:=aa f;have j:=aa g;have c:=aa a;clear p o f g a
 conv=>arg 2;whnf
 by_cases e:k<m
 ·have r:(k:Int)<(m:Int):=by omega
  go_wp2_with fail;refine l.out _ ⟨rfl,?_⟩ (by rw [decide_eq_true e];rfl)
  rw [←i.out,←j.out,←c.out]
  rfl
 have r : ¬ (k:Int)<(m:Int):=by omega
 go_wp2_with fail;refine l.out _ ⟨rfl,?_⟩ (by rw [decide_eq_false e];rfl)
 rw [←i.out,←j.out,←c.out]
 rfl
theorem Jb (T:Array Value) (s:Nat→Value)  (w:World) (a:aP T s)   (J:Act→World→Prop) (Q:Exit→Act→World→Prop)
  (b:∀ T',aP T' (cJ s 18 (.slice none 0 0))→J ⟨T',[]⟩ w):Code.wp Tryz.prog (bC 6 [1,2,1,1,1,3,4,1,0,3,1,0]) (Exit.then J Q) ⟨T,[]⟩ w:=by
 obtain ⟨d,rfl⟩:=am a;unfold a7;have c:=aa b;clear b a 
 conv=>arg 2;whnf
 go_wp2_with fail;refine c.out _ ⟨rfl,?_⟩ 
 rfl
theorem Jc (T:Array Value) (s:Nat→Value)  (w:World) (a:aP T s)   (J:Act→World→Prop) (Q:Exit→Act→World→Prop)
  (b:∀ T',aP T' (cJ s 19 (.int .i64 0))→J ⟨T',[]⟩ w):Code.wp Tryz.prog (bC 6 [1,2,1,1,1,3,4,1,0,3,1,1,0,0]) (Exit.then J Q) ⟨T,[]⟩ w:=by
 obtain ⟨d,rfl⟩:=am a;unfold a7;have c:=aa b;clear b a 
 conv=>arg 2;whnf
 go_wp2_with fail;refine c.out _ ⟨rfl,?_⟩ 
 rfl
theorem Je (T:Array Value) (s:Nat→Value) (k:Nat) (w:World) (b:aP T s) (a:s 19=.int .i64 (k:Nat)) (g:k≤1048577) (J:Act→World→Prop) (Q:Exit→Act→World→Prop)
  (c:∀ T',aP T' (cJ s 19 (.int .i64 (k+1:Nat)))→J ⟨T',[]⟩ w):Code.wp Tryz.prog (bC 6 [1,2,1,1,1,3,4,1,0,3,1,1,0,1,3,4,1,1]) (Exit.then J Q) ⟨T,[]⟩ w:=by
 obtain ⟨h,rfl⟩:=am b;unfold a7;rw [a];have e:=aa c;have d:=aa a;clear c b a
 conv=>arg 2;whnf
 have f:(k:Int)+1≤9223372036854775807:=by omega
 go_wp2_with fail;refine e.out _ ⟨rfl,?_⟩ 
 rfl
theorem Jd (T:Array Value) (s:Nat→Value) (b d od n cap h k m q:Nat) (Am:Option Addr) (w:World) (o:aP T s) (f:s 4=.int .i64 (h:Nat)) (g:s 6=.pointer (some ⟨b,0,none⟩)) (a:s 19=.int .i64 (k:Nat)) (t:w.cell? ⟨b,0,none⟩=some (.slice (some ⟨d,od,none⟩) n cap)) (u:w.cell? ⟨d,od+h*3+2,none⟩=some (.slice Am m q)) (v:h<n) (J:Act→World→Prop) (Q:Exit→Act→World→Prop)
  (p:∀ T',aP T' s→Act.eval ⟨T',[]⟩ (.tmp 129)=.bool (decide (k<m))→J ⟨T',[]⟩ w):Code.wp Tryz.prog (bC 6 [1,2,1,1,1,3,4,1,0,3,1,1,0,1,3,4,0,0]) (Exit.then J Q) ⟨T,[]⟩ w:=by
 obtain ⟨x,rfl⟩:=am o;unfold a7;rw [f,g,a];have l:=aa p;have i:=aa f;have j:=aa g;have c:=aa a;clear p o f g a
 conv=>arg 2;whnf
 by_cases e:k<m
 ·have r:(k:Int)<(m:Int):=by omega
  go_wp2_with fail;refine l.out _ ⟨rfl,?_⟩ (by rw [decide_eq_true e];rfl)
  rw [←i.out,←j.out,←c.out]
  rfl
 have r : ¬ (k:Int)<(m:Int):=by omega
 go_wp2_with fail;refine l.out _ ⟨rfl,?_⟩ (by rw [decide_eq_false e];rfl)
 rw [←i.out,←j.out,←c.out]
 rfl
theorem I2 (T:Array Value) (s:Nat→Value) (b:Nat) (so vl:Value) (X:Value→World→Prop) (w:World) (f:aP T s) (c:s 1=vl) (d:s 6=.pointer (some ⟨b,0,none⟩)) (m:w.cell? ⟨b,0,none⟩=some so) (a:Calls Tryz.prog 6 #[.agg #[so],vl] w fun e w' => ∃ v,e=.returned v∧X v w') (J:Act→World→Prop) (Q:Exit→Act→World→Prop)
  (g:∀ T' v w',aP T' (cJ s 15 v)→X v w'→J ⟨T',[]⟩ w'):Code.wp Tryz.prog (bC 6 [1,2,0]) (Exit.then J Q) ⟨T,[]⟩ w:=by
 obtain ⟨n,rfl⟩:=am f;unfold a7;rw [c,d];have k:=aa g;have i:=aa c;have j:=aa d;clear g f c d
 conv=>arg 2;whnf
 go_wp2_with fail;refine a.mono ?_;rintro e w1 ⟨v,rfl,h⟩;have l:=aa h;clear a h;go_wp2_with fail;refine k.out _ v w1 ⟨rfl,?_⟩ l.out;rw [←i.out,←j.out]
 rfl
theorem Jf (T:Array Value) (s:Nat→Value) (vp vr vi vc vk:Value) (X Y:Value→World→Prop) (w:World) (l:aP T s) (h:s 2=vp) (i:s 3=vr) (j:s 4=vc) (c:s 17=vi) (d:s 19=vk) (a:Calls Tryz.prog 7 #[vp,vr,vi] w fun e w' => ∃ v,e=.returned v∧X v w') (b:∀ u w1,X u w1→Calls Tryz.prog 7 #[u,vc,vk] w1 fun e w' => ∃ v,e=.returned v∧Y v w') (J:Act→World→Prop) (Q:Exit→Act→World→Prop)
  (m:∀ T' v w',aP T' (cJ s 20 v)→Y v w'→J ⟨T',[]⟩ w'):Code.wp Tryz.prog (bC 6 [1,2,1,1,1,3,4,1,0,3,1,1,0,1,3,4,1,0,3,0]) (Exit.then J Q) ⟨T,[]⟩ w:=by
 obtain ⟨z,rfl⟩:=am l;unfold a7;rw [h,i,j,c,d];have x:=aa m;have q:=aa h;have r:=aa i;have t:=aa j;have f:=aa c;have g:=aa d;clear m l h i j c d;have k:=aa b;clear b
 conv=>arg 2;whnf
 go_wp2_with fail;refine a.mono ?_;rintro e w1 ⟨u,rfl,n⟩;have p:=k.out u w1 n;clear a n k;go_wp2_with fail;refine p.mono ?_;rintro e w2 ⟨v,rfl,o⟩;have y:=aa o;clear p o;go_wp2_with fail;refine x.out _ v w2 ⟨rfl,?_⟩ y.out;rw [←q.out,←r.out,←t.out,←f.out,←g.out]
 rfl
theorem Jg (T:Array Value) (s:Nat→Value) (b gc nc U z base n:Nat) (so vq v:Value) (q r:Int) (M:List Value) (w:World) (I:aP T s) (C:s 6=.pointer (some ⟨b,0,none⟩)) (f:s 15=.slice (some ⟨gc,0,none⟩) nc U) (g:s 18=v) (h:s 20=vq) (V:w.cell? ⟨b,0,none⟩=some so) (c:Rt 8 #[.agg #[so],vq] w (.int .i64 (z:Nat))) (hz:z<nc) (l:gc<w.heap.size) (o:w.cell? ⟨gc,z*2,none⟩=some (.int .i64 q)) (p:w.cell? ⟨gc,z*2+1,none⟩=some (.int .i64 r)) (D:w.ownsRow base 40 2 v n M) (Z:base≤w.heap.size) (hn:n≤1048577) (J:Act→World→Prop) (Q:Exit→Act→World→Prop)
  (K:∀ T' v' w',aP T' (cJ s 18 v')→w'.ownsRow base 40 2 v' (n+1) (M ++ [.int .i64 q,.int .i64 r])→Kept w.heap.size (fun b=>v.ownBlock=some b) w w'→J ⟨T',[]⟩ w'):Code.wp Tryz.prog (bC 6 [1,2,1,1,1,3,4,1,0,3,1,1,0,1,3,4,1,0,3,1]) (Exit.then J Q) ⟨T,[]⟩ w:=by
 obtain ⟨xF,rfl⟩:=am I;unfold a7;rw [C,f,g,h];have R:=aa K;have O:=aa C;have x:=aa f;have N:=aa g;have y:=aa h;clear K I C f g h;obtain ⟨i0,E,F,G,H⟩:=info_parts Tryz.infoCe;obtain ⟨A1,c1,rfl⟩:=bG D;have A:=aa D;clear D
 conv=>arg 2;whnf
 go_wp2_with fail;refine c.mono ?_;rintro e w1 ⟨rfl,k⟩;have k1:w1.cell? ⟨gc,z*2,none⟩=some (.int .i64 q):=aL k l o;have k2:w1.cell? ⟨gc,z*2+1,none⟩=some (.int .i64 r):=aL k l p;have S:=aa (ar A.out k);have t:=aa k;have hs:=k.size;clear c k o p V
 go_wp2_with (at_builtin;refine wpList_append_own _ rfl _ _ 33 rfl base 40 i0 (.agg #[.int .i64 0,.int .i64 0]) 2 16 Tryz.underlying33 E F G H rfl (by decide) _ _ _ rfl (S.out.alloc _) ⟨w1.heap.size,0,none⟩ 1 1 [.int .i64 q,.int .i64 r] rfl rfl ?qe2 ?qe3 ?qe4 ?qe5 ?qe6 ?_)
 case qe2 =>
  intro j u X;rw [dd,Lib.cell_of_heap (heap_alloc_new w1 (.cells #[.int .i64 q,.int .i64 r] 40))]
  simpa using X
 case qe3=>intro u L;simp at L;rcases L with rfl | rfl <;> rfl
 case qe4=>simp only [maxLen];omega
 case qe5=>omega
 case qe6=>simp;omega
 intro v' w8 d a m;have P:Hid (Kept w.heap.size (fun b=>(Value.slice A1 n c1).ownBlock=some b) w w8):=⟨(t.out.os ▸ a.os),(t.out.tape ▸ a.tape),(t.out.output ▸ a.output),by have:=a.size;simp at this;omega,fun i W Y=>by rw [a.block i (by simp;omega) (fun e=>Y e.symm),Below.heap_alloc _ _ _ (by omega)];exact t.out.block i W⟩
 have B:=aa d;clear d a m;go_wp2_with fail;refine R.out _ v' w8 ⟨rfl,?_⟩ B.out P.out;rw [←O.out,←x.out,←y.out]
 rfl
def Er (f:Nat→Bool) (R:List Int) (i u:Nat):Bool := !(f i) && (R.take u).all fun z=>f z.toNat
theorem Es {f:Nat→Bool} {R:List Int} {i u:Nat} (h:Er f R i u=true) (a:u<R.length):Er f R i (u+1)=f (R.getD u 0).toNat:=by
 unfold Er at *;rw [Bool.and_eq_true] at h;rw [h.1,Bool.true_and,List.take_succ_eq_append_getElem a,List.all_append,h.2,Bool.true_and,zZ,zX a]
 simp
theorem Gq {f:Nat→Bool} {R:List Int} {i:Nat} (h:Er f R i R.length=true):f i=false∧∀ z∈R,f z.toNat=true:=by
 unfold Er at h;rw [Bool.and_eq_true,List.take_length,List.all_eq_true] at h;exact ⟨by simpa using h.1,h.2⟩
theorem Ig {f:Nat→Bool} {R:List Int} {i u:Nat} (h:Er f R i u=false):f i=false→∃ z∈R,f z.toNat=false:=by
 intro b;unfold Er at h;rw [b] at h;simp only [Bool.not_false,Bool.true_and] at h;rw [List.all_eq_false] at h;obtain ⟨z,c,a⟩:=h;exact ⟨z,List.mem_of_mem_take c,by simpa using a⟩
theorem Co (A0:Option Addr) (cap n:Nat) (D:Nat→Dm) (A:Nat→Option Addr) (C:Nat→Nat) (Ae:Option Addr) (g:Nat) (a:List EnL) (Ap:Option Addr) (d:Nat) (Ac:Option Addr) (c:Nat) (CL:List (Int×Int)) (i:Nat) (T:List Int) (w:World) (p:(ah D n).2.2=0) (q:dS D n) (x:a.length≤3000) (t:sA a (ak D n i)) (l:bd w A0 cap n D A C) (j:ii w Ae g a) (m:aO w Ap d (ak D n i)) (o:dt w Ac c CL) (e:CL.length=prodN D n) (f:jL CL) (u:ey D n (ak D n i) T) (v:∀ z∈T,CL.getD z.toNat noC=fD D n (getE (lE a)) (ak D n z.toNat)) :
  Rt 22 #[.agg #[.slice A0 n cap],.slice Ae a.length g,.slice Ap (ak D n i).length d,.slice Ac CL.length c] w (.agg #[.int .i64 (fD D n (getE (lE a)) (ak D n i)).1,.int .i64 (fD D n (getE (lE a)) (ak D n i)).2]):=by
 have k:InO D n (ak D n i):=cQ p
 rcases by_in D (ak D n i) n with h | ⟨b,hb,hbn⟩
 ·have s:=xH A0 cap n D A C Ae g a Ap d (ak D n i) (.slice Ac CL.length c) w k l m x j t (by omega)
  rw [o5 _ (by omega)]
  exact s
 rw [Ip q p (getE (lE a)) (fun y=>CL.getD y noC) u v hb]
 by_cases r:((D b).mem ((ak D n i).getD b 0).toNat).formula.size=0
 ·exact uS A0 cap n D A C _ Ap d (ak D n i) Ac c CL b _ w k l m o e f hb rfl r
 exact xG A0 cap n D A C _ Ap d (ak D n i) Ac c CL b _ w k l m o e f hb rfl q r
def pr (w1:World) (g gT N:Nat) (v:Nat→Int×Int) (L:List (Int×Int)) (f:Nat→Bool) (w:World):Prop:=da w g L∧L.length=N∧gu w gT N f∧jL L∧(∀ j,j<N→f j=true→L.getD j noC=v j)∧Below g w1 w
theorem pr.later {w1 w w':World} {g gT N:Nat} {v:Nat→Int×Int} {L:List (Int×Int)} {f:Nat→Bool} (h:pr w1 g gT N v L f w) (a:Bl w w'):pr w1 g gT N v L f w':=by
 obtain ⟨c,d,e,j,k,b⟩:=h;have m:=c.lt;exact ⟨c.later a,d,e.later a,j,k,⟨a.os.trans b.os,a.tape.trans b.tape,a.output.trans b.output,zV b.size a.size,fun i l=>(a.block i (by omega)).trans (b.block i l)⟩⟩
theorem pr.put {w1 w:World} {g gT N:Nat} {v:Nat→Int×Int} {L:List (Int×Int)} {f:Nat→Bool} (h:pr w1 g gT N v L f w) (q:g<gT) {i:Nat} {a b:Int} (t:i<N) (s:v i=(a,b)) (c:b7 (a,b)):pr w1 g gT N v (L.set i (a,b)) (mu f i) (((w.setCell ⟨g,i*2,none⟩ (.int .i64 a)).setCell ⟨g,i*2+1,none⟩ (.int .i64 b)).setCell ⟨gT,i,none⟩ (.bool true)):=by
 obtain ⟨k,l,d,m,n,o⟩:=h;refine ⟨(k.set (by omega) a b).same (ao _ _ _ _ _ (by omega)),by rw [List.length_set];exact l,?_,AB m i c,fun j r p=>?_,lb (lb (lb o (zT)) (zT)) (by omega)⟩
 ·refine gu.set (f:=f) ?_ fun j _=>rfl
  unfold gu at d ⊢;rw [ao _ _ _ _ _ (by omega),ao _ _ _ _ _ (by omega)]
  exact d
 by_cases e:j=i
 ·subst e
  rw [zZ,List.getElem?_set_self (by omega)]
  exact s.symm
 rw [zZ,List.getElem?_set_ne (fun h=>e h.symm),←zZ]
 exact n j r (by simpa [mu,e] using p)
def sB (ys:List RL) (f:Nat→Bool) (ag:Bool) (i:Nat):Prop:=ag=false→∀ j,j<i→f j=false→∃ z∈(ys.getD j ew).p,f z.toNat=false
theorem qZ (a:List RL) (f:Nat→Bool) (i:Nat):sB a f true i:=fun h=>by cases h
theorem xE (A0:Option Addr) (cap n:Nat) (D:Nat→Dm) (A:Nat→Option Addr) (C:Nat→Nat) (Ae:Option Addr) (ce:Nat) (o:List EnL) (w:World) (hE:(ah D n).2.2=0) (hR:dS D n) (H:Ens D n (lE o)) (hM:bd w A0 cap n D A C) (hEn:ii w Ae ce o) :
  Calls Tryz.prog 6 #[.agg #[.slice A0 n cap],.slice Ae o.length ce] w fun e w'=>(∃ g L,e=.returned (.slice (some ⟨g,0,none⟩) (prodN D n) (prodN D n))∧L.length=prodN D n∧da w' g L∧∀ j,j<prodN D n→L.getD j noC=fD D n (getE (lE o)) (ak D n j))∧Bl w w':=by
 obtain ⟨hn1,hn4,hp3,hd⟩:=aw hE;have LA:o.length≤3000:=by have:=H.few;rw [dF] at this;exact this
 have HSh:Hid (∀ x,sA o (ak D n x)):=fun x=>⟨fun k hk=>by
  have hmem:(o.getD k noL).e∈lE o:=List.mem_map.2 ⟨_,ru hk,rfl⟩;have:=(H.each _ hmem).1.len
  omega,by rw [placeL_len];omega⟩
 have T:=aA w A0 n cap 24;have hS:=aF w A0 n cap 24;have hA:=aR w A0 n cap 24;obtain ⟨W,hW⟩:=ax (aD w A0 n cap 24);rw [hW] at T hS hA;unfold aD at hW;have J:=sc A0 cap n D A C W hR hE (hM.later T);have HB0:=aa T;have HM:=aa hM;have HEn:=aa hEn;have HR:=aa hR;have HE:=aa hE;have HEs:=aa H;have HA:=aa hA;have hsz:w.heap.size<W.heap.size:=by omega
 have hnI:(n:Int)≤4:=by omega
 obtain ⟨N,hN⟩:=ax (prodN D n);have P:=aa hN;obtain ⟨v,hv⟩:∃ v:Nat→Int×Int,v=fun j=>fD D n (getE (lE o)) (ak D n j):=⟨_,rfl⟩
 have HV:Hid (∀ j,v j=fD D n (getE (lE o)) (ak D n j)):=fun j=>by rw [hv]
 have HVg:Hid (∀ j,b7 (v j)):=fun j=>by rw [hv];exact tm hR (qi H) _ _ (cQ hE) (Nat.lt_succ_self _)
 rw [hN] at J hp3;have hNI:(N:Int)≤3000:=by omega
 have hmk:=ja N hp3;have hmb:=pH N hp3;have HXf:=aa LA;obtain ⟨xl,hxl⟩:=ax o.length;have HXl:=aa hxl;rw [hxl];clear hE hR H hM hEn T hS LA hxl hv hN hd
 go_enter Tryz.func6,Tryz.ntmps6
 go_wp2_with fail;refine J.mono ?_;rintro e w1 ⟨⟨A1,c1,B,rfl,hyl,hY,hT⟩,U⟩;have HB1:=aa (ae HB0.out U);have HY:=aa hY;have HT:=aa hT;have S:=aa hyl;have HCo:Hid (w1.cell? ⟨w.heap.size,0,none⟩=some (.slice A0 n cap)):=aL U hsz HA.out;have LB:w.heap.size<w1.heap.size:=zW hsz U.size;have HIn:Hid (∀ i,i<N→∀ z∈(B.getD i ew).p,∃ j:Nat,z=(j:Int)∧j<N):=fun i hi z hz=>by
  obtain ⟨j,h1,h2,-⟩:=fN HR.out HE.out (hT i hi) hz;exact ⟨j,h1,by rw [←P.out];exact h2⟩
 have LD:Hid (∀ f:Nat→Bool,(∀ i,i<N→f i=false→∃ z∈(B.getD i ew).p,f z.toNat=false)→∀ i,i<N→f i=true):=fun f h i hi=>wG HR.out HE.out (fun i=>(B.getD i ew).p) (fun j t=>hT j (by rw [←P.out];exact t)) f (fun j t hf=>h j (by rw [←P.out];exact t) hf) i (by rw [P.out];exact hi)
 obtain ⟨s,Z⟩:∃ y,w1.alloc (.cells (madeCells #[.int .i64 0,.int .i64 0] (N*2)) 40)=y:=⟨_,rfl⟩;have Lv:Bl w1 s:=by rw [←Z];go_grown
 have Lw:da s w1.heap.size (List.replicate N (0,0)):=by rw [←Z];exact lc w1 N
 have hs1:s.heap.size=w1.heap.size+1:=by rw [←Z];simp
 obtain ⟨y2,hy2⟩:∃ y,s.alloc (.cells (madeCells #[.bool false] N) 4)=y:=⟨_,rfl⟩;have G:Bl s y2:=by rw [←hy2];go_grown
 have Lz:gu y2 s.heap.size N fun _=>false:=by rw [←hy2];exact gu.made s N
 have HI0:Hid (pr w1 w1.heap.size s.heap.size N v (List.replicate N (0,0)) (fun _=>false) y2):=by
  refine ⟨Lw.later G,by simp,Lz,fun c hc=>?_,fun j _ h=>(by cases h),ae Lv G⟩
  rw [(List.mem_replicate.1 hc).2];exact eU
 have hgT:w1.heap.size<s.heap.size:=by omega
 clear J U hyl hY hT Lv Lw G Lz hs1 hA hW;go_wp2_with fail;clear hmk hmb Z hy2
 go_loopg [8] (IM (fun _=>false) true N) (fun gg s8 wr => ∃ (ag:Bool) (L:List (Int×Int)) (f:Nat→Bool),gg=IM f ag N∧s8=.bool ag∧Hid (pr w1 w1.heap.size s.heap.size N v L f wr)∧Hid (sB B f ag N))
 case atStart=>exact ⟨true,_,_,rfl,rfl,HI0,qZ _ _ _⟩
 case round =>
  obtain ⟨ag,L,f,rfl,rfl,HI,HWt⟩:=hrel;cases ag
  ·have HAll:Hid (∀ i,i<N→f i=true):=LD.out f (HWt.out rfl)
   go_wp2_with fail;go_ret;refine ⟨⟨w1.heap.size,L,by rw [P.out];rfl,by rw [P.out];exact HI.out.2.1,HI.out.1,fun j t=>?_⟩,?_⟩
   ·rw [P.out] at t
    rw [HI.out.2.2.2.2.1 j t (HAll.out j t)];exact HV.out j
   exact ae HB1.out HI.out.2.2.2.2.2
  go_wp2_with fail
  go_loopg [8,9] N (fun gg s8 s9 wi => ∃ (i:Nat) (ag:Bool) (L':List (Int×Int)) (f':Nat→Bool),i≤N∧gg=N-i∧s8=.bool ag∧s9=.int .i64 i∧Hid (pr w1 w1.heap.size s.heap.size N v L' f' wi)∧Hid (sB B f' ag i)∧Hid (sy N f f' ag))
  case atStart=>exact ⟨0,false,L,f,zU,rfl,rfl,rfl,HI,(fun _ j t=>absurd t (Nat.not_lt_zero _):sB B f false 0),(⟨fun h=>(by cases h),fun _=>rfl⟩:sy N f f false)⟩
  case round =>
   obtain ⟨wi,rfl⟩:∃ wi:World,wi=wr:=⟨_,rfl⟩;obtain ⟨i,ag,L',f',hi,rfl,rfl,rfl,a,Lu,E⟩:=hrel
   by_cases d:i<N
   ·have hii:(i:Int)<(N:Int):=by omega
    have F:=a.out.2.2.2.2.2;obtain ⟨hcap,h0 | ⟨b,rfl,hbw,hcl⟩,hrw⟩:=HY.out.later F
    ·have:=S.out;rw [h0] at this;simp at this;omega
    have cj:=hcl i (by rw [S.out];exact d)
    have K:=hrw _ (iG (k:=i) (by rw [S.out];exact d))
    rw [S.out] at hcap;have hcapI:(N:Int)≤(c1:Int):=by omega
    have Lx:=(HT.out i d).2.1;have hIz:=HIn.out i d;obtain ⟨R,hRe⟩:=ax ((B.getD i ew).p);have HRe:=aa hRe;rw [hRe] at cj K Lx hIz;have HIz:=aa hIz;generalize (B.getD i ew).A=Aj at cj K;generalize (B.getD i ew).c=cjj at cj K;have HTj:=aa K;obtain ⟨r,hr⟩:=ax R.length;have m:=aa hr;rw [hr] at cj Lx;have hrI:(r:Int)≤12:=by omega
    have cg:=a.out.2.2.1.cell d;have hgl:=a.out.2.2.1.lt;have Lt:Hid (Er f' R i 0 = !f' i):=by show _=_;unfold Er;simp
    generalize f' i=ij at cg Lt;clear hcl hrw K hRe hIz hr F;go_wp2_with fail
    go_loopg [10,11] r (fun gg s10 s11 wk => ∃ (u:Nat) (ok:Bool),u≤r∧gg=r-u∧s10=.bool ok∧s11=.int .i64 u∧Hid (Er f' R i u=ok)∧wk=wi)
    case atStart=>exact ⟨0,_,zU,rfl,rfl,rfl,Lt,rfl⟩
    case round =>
     obtain ⟨u,ok,hu,rfl,rfl,rfl,HU,hwk⟩:=hrel;have hwk2:wi=wr:=hwk.symm;clear hwk;subst hwk2;cases ok
     ·have HNo:Hid (f' i=false→∃ z∈(B.getD i ew).p,f' z.toNat=false):=fun h=>by rw [HRe.out];exact Ig HU.out h
      have HWn:Hid (sB B f' ag (i+1)):=fun ha j t hf=>by
       by_cases e:j=i
       ·subst e;exact HNo.out hf
       exact Lu.out ha j (by omega) hf
      by_cases Y:u<r
      ·have hui:(u:Int)<(r:Int):=by omega
       go_wp2_with fail
       go_roundg (N-(i+1))
       case measure=>omega
       case rel=>exact ⟨i+1,ag,L',f',by omega,rfl,rfl,by go_num,a,HWn,E⟩
      have hue:u=r:=by omega
      subst hue;go_wp2_with fail
      go_roundg (N-(i+1))
      case measure=>omega
      case rel=>exact ⟨i+1,ag,L',f',by omega,rfl,rfl,by go_num,a,HWn,E⟩
     by_cases Y:u<r
     ·have hui:(u:Int)<(r:Int):=by omega
      obtain ⟨hcR,-,hR0 | ⟨br,cs,fr,rfl,hbr,hcr⟩⟩:=HTj.out
      ·have:=m.out;rw [hR0] at this;simp at this;omega
      have cu:=hcr u (by rw [m.out];exact Y)
      rw [m.out] at hcR;have hcRi:(r:Int)≤(cjj:Int):=by omega
      have hbrl:br<wi.heap.size:=(zY hbr).1;have Q:Hid (Er f' R i (u+1)=f' (R.getD u 0).toNat):=Es HU.out (by rw [m.out];exact Y)
      obtain ⟨z,hz,hzn⟩:=HIz.out (R.getD u 0) (gA (by rw [m.out];exact Y))
      rw [hz] at cu Q;rw [Int.toNat_natCast] at Q;have hzI:(z:Int)<(N:Int):=by omega
      have cz:=a.out.2.2.1.cell hzn;generalize f' z=zb at cz Q;clear hcr hbr hz;go_wp2_with fail
      go_roundg (r-(u+1))
      case measure=>omega
      case rel=>exact ⟨u+1,zb,by omega,rfl,rfl,by go_num,Q,rfl⟩
     have hue:u=r:=by omega
     subst hue;have O:f' i=false∧∀ z∈R,f' z.toNat=true:=Gq (by rw [m.out];exact HU.out)
     have HFi:=aa O.1;have HRd:Hid (∀ z∈R,L'.getD z.toNat noC=fD D n (getE (lE o)) (ak D n z.toNat)):=fun z hz=>by
      obtain ⟨j,rfl,t⟩:=HIz.out z hz;rw [Int.toNat_natCast];have h:=a.out.2.2.2.2.1 j t (by have:=O.2 _ hz;rwa [Int.toNat_natCast] at this)
      rw [h];exact HV.out j
     have F:=ae HB1.out a.out.2.2.2.2.2;have LC:=aa F;have HAtc:Hid (∀ w',Bl wi w'→Calls Tryz.prog 23 #[.agg #[.slice A0 n cap],.int .i64 i] w' fun e w''=>(∃ A' c',e=.returned (.slice A' n c')∧aO w'' A' c' (ak D n i))∧Bl w' w''):=fun w' M=>by
      have h:=zc A0 cap n D A C i w' HE.out (by rw [P.out];exact d) (HM.out.later (ae LC.out M))
      rw [placeL_len] at h;exact h
     obtain ⟨⟨ra,rb⟩,hRv⟩:∃ q,v i=q:=⟨_,rfl⟩;have LE:=aa hRv;have HTl:Hid (∀ w' A' c',Bl wi w'→aO w' A' c' (ak D n i)→Rt 22 #[.agg #[.slice A0 n cap],.slice Ae xl ce,.slice A' n c',.slice (some ⟨w1.heap.size,0,none⟩) N N] w' (.agg #[.int .i64 ra,.int .i64 rb])):=fun w' A' c' M hp=>by
      have I:=a.out.later M;have h:=Co A0 cap n D A C Ae ce o A' c' (some ⟨w1.heap.size,0,none⟩) N L' i (B.getD i ew).p w' HE.out HR.out HXf.out (HSh.out i) (HM.out.later (ae LC.out M)) (HEn.out.later (ae LC.out M)) hp ⟨by rw [I.2.1];exact zT,by omega,Or.inr ⟨_,0,rfl,I.1.celAt⟩⟩ (by rw [I.2.1];exact P.out.symm) I.2.2.2.1 (HT.out i d) (by rw [HRe.out];exact HRd.out)
      rw [←HV.out i,LE.out,placeL_len,HXl.out,I.2.1] at h;exact h
     have co:wi.cell? ⟨w.heap.size,0,none⟩=some (.slice A0 n cap):=aL a.out.2.2.2.2.2 LB HCo.out;have hswi:w.heap.size<wi.heap.size:=zW LB a.out.2.2.2.2.2.size;have HKp:Hid (∀ w',Bl wi w'→Bl wi w'∧w'.cell? ⟨w.heap.size,0,none⟩=some (.slice A0 n cap)):=fun w' h=>⟨h,aL h hswi co⟩
     clear O F hRv
     go_upto_region 16 with fail
     go_cut [12] from 22 to 69 (fun s12 wx => ∃ q,s12=.pointer (some ⟨q,0,none⟩)∧At q ra rb wx∧Bl wi wx)
     case first =>
      go_region_held3 (fun w'=>Bl wi w'∧w'.cell? ⟨w.heap.size,0,none⟩=some (.slice A0 n cap))
       ((refine HKp.out _ ?_;go_grown;done))
       (first | (go_at_call 23;refine (HAtc.out _ (by go_grown)).mono ?_;rintro e w6 ⟨⟨A6,c6,rfl,hP6⟩,V⟩;have hN6:=ae (W0:=wi) (by go_grown) V;have HP6:=aa hP6;have hy6:=hN6.size;obtain ⟨hc6,hf6⟩:=cB V;have hz6:=di V;(try simp [Nat.add_one_le_iff] at hz6);clear V hP6) | (go_at_call 22;refine (HTl.out _ _ _ (by go_grown) (HP6.out.later (by go_grown))).mono ?_;rintro e w7 ⟨rfl,X⟩;have hN7:=ae (W0:=wi) (by go_grown) X;have hy7:=hN7.size;obtain ⟨hc7,hf7⟩:=cB X;have hz7:=di X;(try simp [Nat.add_one_le_iff] at hz7);(try have ha7:wi.heap.size<w7.heap.size:=by omega);clear X))
      all_goals go_wp2_with fail
      all_goals go_meet
      all_goals
       refine ⟨_,rfl,?_,by go_grown⟩
       first
        | exact At.new _ _ _ _
        | (refine At.set (u:=.int .i64 0) (v:=.int .i64 0) (by omega) ?_ ?_ <;> (rw [hc7 _ _ (by simp)];simp;done))
        | (refine At.set (u:=.int .i64 0) (v:=.int .i64 0) (by omega) ?_ ?_ <;> (rw [hc7 _ _ (by omega),hc6 _ _ (by simp)];simp;done))
     case rest =>
     obtain ⟨q,rfl,⟨hql,p0,p1⟩,hBc⟩:=hcut;obtain ⟨w9,rfl⟩:∃ w9:World,w9=wc:=⟨_,rfl⟩;have l:=aa (a.out.later hBc);obtain ⟨z0,z1⟩:=l.out.1.at (k:=i) (by rw [l.out.2.1];exact d)
     have z2:=l.out.2.2.1.cell d;have x0:=l.out.1.frozen (i*2);have x1:=l.out.1.frozen (i*2+1);have x2:=l.out.2.2.1.frozen i;have hl1:=l.out.1.lt;have hl2:=l.out.2.2.1.lt;have HIx:Hid (pr w1 w1.heap.size s.heap.size N v (L'.set i (ra,rb)) (mu f' i) (((w9.setCell ⟨w1.heap.size,i*2,none⟩ (.int .i64 ra)).setCell ⟨w1.heap.size,i*2+1,none⟩ (.int .i64 rb)).setCell ⟨s.heap.size,i,none⟩ (.bool true))):=l.out.put hgT d LE.out (by have:=HVg.out i;rw [LE.out] at this;exact this)
     have HPx:Hid (sy N f (mu f' i) true):=EM E.out d HFi.out;clear hBc cj cg;go_wp2_with fail
     go_roundg (N-(i+1))
     case measure=>omega
     case rel=>exact ⟨i+1,true,_,_,by omega,rfl,rfl,by go_num,HIx,qZ _ _ _,HPx⟩
   have hie:i=N:=by omega
   subst hie;have HMu:Hid (IM f' ag i<IM f true i):=by
    show _<_
    unfold IM;cases ag with
    | true=>have:=E.out.1 rfl;simp;omega
    | false=>rw [E.out.2 rfl];simp
   go_wp2_with fail
   go_roundg (IM f' ag i)
   case measure=>exact HMu.out
   case rel=>exact ⟨ag,L',f',rfl,rfl,a,Lu⟩
end Go.Proofs.YthlhjjabkgpenaaGreatDoor
