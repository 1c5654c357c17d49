/- tallylaw3.GridTells, r -/
import Derived.Test.YthlhjjabkgpenaaGreatDoorJTBH
namespace Go.Proofs.YthlhjjabkgpenaaGreatDoor
open Go ChangeShapes WideShapes ChangeAt RowKit
set_option maxRecDepth 99999
set_option maxHeartbeats 0
set_option maxHeartbeats 64000000
theorem KO (T:Array Value) (s:Nat→Value) (E:Int) (w:World) (g:aP T s) (a:s 13=.int .i64 E)  (J:Act→World→Prop) (Q:Exit→Act→World→Prop)
  (h:∀ T',aP T' s→Act.eval ⟨T',[]⟩ (.tmp 83)=.bool (decide (E=0))→J ⟨T',[]⟩ w):Code.wp Tryz.prog (bC 6 [0]) (Exit.then J Q) ⟨T,[]⟩ w:=by
 obtain ⟨i,rfl⟩:=am g;unfold a7;rw [a];have f:=aa h;have c:=aa a;clear h g a
 conv=>arg 2;whnf
 by_cases b:E=0
 ·have e:(E == 0)=true:=by simp [b]
  have d:=aa (decide_eq_true b);clear b;go_wp2_with fail;refine f.out _ ⟨rfl,?_⟩ (by rw [d.out];rfl)
  rw [←c.out]
  rfl
 have e:(E == 0)=false:=by simpa using b
 have d:=aa (decide_eq_false b);clear b;go_wp2_with fail;refine f.out _ ⟨rfl,?_⟩ (by rw [d.out];rfl)
 rw [←c.out]
 rfl
theorem KN (T:Array Value) (s:Nat→Value)  (w:World) (a:aP T s)   (J:Act→World→Prop) (Q:Exit→Act→World→Prop)
  (b:∀ T',aP T' (cJ s 14 (.pointer (some ⟨w.heap.size,0,none⟩)))→J ⟨T',[]⟩ (w.alloc (.cells #[.slice none 0 0,.slice none 0 0,.slice none 0 0] 30))):Code.wp Tryz.prog (bC 5 []) (Exit.then J Q) ⟨T,[]⟩ w:=by
 obtain ⟨d,rfl⟩:=am a;unfold a7;have c:=aa b;clear b a 
 conv=>arg 2;whnf
 go_wp2_with fail;refine c.out _ ⟨rfl,?_⟩ 
 rfl
theorem Jj (T:Array Value) (s:Nat→Value)  (w:World) (a:aP T s)   (J:Act→World→Prop) (Q:Exit→Act→World→Prop)
  (b:∀ T',aP T' (cJ s 27 (.pointer (some ⟨w.heap.size,0,none⟩)))→J ⟨T',[]⟩ (w.alloc (.cells #[.slice none 0 0,.slice none 0 0,.slice none 0 0] 30))):Code.wp Tryz.prog (bC 12 []) (Exit.then J Q) ⟨T,[]⟩ w:=by
 obtain ⟨d,rfl⟩:=am a;unfold a7;have c:=aa b;clear b a 
 conv=>arg 2;whnf
 go_wp2_with fail;refine c.out _ ⟨rfl,?_⟩ 
 rfl
theorem Jk (T:Array Value) (s:Nat→Value) (E:Int) (w:World) (g:aP T s) (a:s 25=.int .i64 E)  (J:Act→World→Prop) (Q:Exit→Act→World→Prop)
  (h:∀ T',aP T' s→Act.eval ⟨T',[]⟩ (.tmp 176)=.bool (decide (E=0))→J ⟨T',[]⟩ w):Code.wp Tryz.prog (bC 13 [0]) (Exit.then J Q) ⟨T,[]⟩ w:=by
 obtain ⟨i,rfl⟩:=am g;unfold a7;rw [a];have f:=aa h;have c:=aa a;clear h g a
 conv=>arg 2;whnf
 by_cases b:E=0
 ·have e:(E == 0)=true:=by simp [b]
  have d:=aa (decide_eq_true b);clear b;go_wp2_with fail;refine f.out _ ⟨rfl,?_⟩ (by rw [d.out];rfl)
  rw [←c.out]
  rfl
 have e:(E == 0)=false:=by simpa using b
 have d:=aa (decide_eq_false b);clear b;go_wp2_with fail;refine f.out _ ⟨rfl,?_⟩ (by rw [d.out];rfl)
 rw [←c.out]
 rfl
theorem Jl (T:Array Value) (s:Nat→Value) (q g n0 c0 n1 c1:Nat) (A0 A1:Option Addr) (v0 v1 v2 u2:Value) (w:World) (i:aP T s) (a:s 11=.pointer (some ⟨g,0,none⟩)) (c:s 27=.pointer (some ⟨q,0,none⟩)) (d:w.heap[q]?=some (.cells #[v0,v1,v2] 30 (0,0))) (h:w.heap[g]?=some (.cells #[.slice A0 n0 c0,.slice A1 n1 c1,u2] 30 (0,0))) (J:Act→World→Prop) (Q:Exit→Act→World→Prop)
  (j:∀ T' w',aP T' s→w'.heap[q]?=some (.cells #[.slice A1 n1 c1,v1,v2] 30 (0,0))→Kept w.heap.size (fun b=>b=q) w w'→J ⟨T',[]⟩ w'):Code.wp Tryz.prog (bC 13 [1,2,0]) (Exit.then J Q) ⟨T,[]⟩ w:=by
 obtain ⟨t,rfl⟩:=am i;unfold a7;rw [a,c];have k:=aa j;have e:=aa a;have f:=aa c;clear j i a c;have o:w.cell? ⟨g,1,none⟩=some (.slice A1 n1 c1):=(Lib.cell_of_heap h 1).trans rfl;have p:w.cell? ⟨q,0,none⟩=some v0:=(Lib.cell_of_heap d 0).trans rfl;have r:w.frozen? ⟨q,0,none⟩=false:=by simp [World.frozen?,d]
 have m:=(zY h).1;have n:=(zY d).1;have l:=aa d;clear d h
 conv=>arg 2;whnf
 go_wp2_with fail;refine k.out _ _ ⟨rfl,?_⟩ (cI l.out) qr;rw [←e.out,←f.out]
 rfl
theorem Jm (T:Array Value) (s:Nat→Value) (q g n0 c0 n1 c1:Nat) (A0 A1:Option Addr) (v0 v1 v2 u2:Value) (w:World) (i:aP T s) (a:s 11=.pointer (some ⟨g,0,none⟩)) (c:s 27=.pointer (some ⟨q,0,none⟩)) (d:w.heap[q]?=some (.cells #[v0,v1,v2] 30 (0,0))) (h:w.heap[g]?=some (.cells #[.slice A0 n0 c0,.slice A1 n1 c1,u2] 30 (0,0))) (J:Act→World→Prop) (Q:Exit→Act→World→Prop)
  (j:∀ T' w',aP T' s→w'.heap[q]?=some (.cells #[v0,.slice A0 n0 c0,v2] 30 (0,0))→Kept w.heap.size (fun b=>b=q) w w'→J ⟨T',[]⟩ w'):Code.wp Tryz.prog (bC 13 [1,2,1,0]) (Exit.then J Q) ⟨T,[]⟩ w:=by
 obtain ⟨t,rfl⟩:=am i;unfold a7;rw [a,c];have k:=aa j;have e:=aa a;have f:=aa c;clear j i a c;have o:w.cell? ⟨g,0,none⟩=some (.slice A0 n0 c0):=(Lib.cell_of_heap h 0).trans rfl;have p:w.cell? ⟨q,1,none⟩=some v1:=(Lib.cell_of_heap d 1).trans rfl;have r:w.frozen? ⟨q,1,none⟩=false:=by simp [World.frozen?,d]
 have m:=(zY h).1;have n:=(zY d).1;have l:=aa d;clear d h
 conv=>arg 2;whnf
 go_wp2_with fail;refine k.out _ _ ⟨rfl,?_⟩ (cI l.out) qr;rw [←e.out,←f.out]
 rfl
theorem Jn (T:Array Value) (s:Nat→Value)  (w:World) (a:aP T s)   (J:Act→World→Prop) (Q:Exit→Act→World→Prop)
  (b:∀ T',aP T' (cJ s 28 (.int .i64 0))→J ⟨T',[]⟩ w):Code.wp Tryz.prog (bC 13 [1,2,1,1,0]) (Exit.then J Q) ⟨T,[]⟩ w:=by
 obtain ⟨d,rfl⟩:=am a;unfold a7;have c:=aa b;clear b a 
 conv=>arg 2;whnf
 go_wp2_with fail;refine c.out _ ⟨rfl,?_⟩ 
 rfl
theorem Jp (T:Array Value) (s:Nat→Value) (k:Nat) (w:World) (b:aP T s) (a:s 28=.int .i64 (k:Nat)) (g:k≤1048577) (J:Act→World→Prop) (Q:Exit→Act→World→Prop)
  (c:∀ T',aP T' (cJ s 28 (.int .i64 (k+1:Nat)))→J ⟨T',[]⟩ w):Code.wp Tryz.prog (bC 13 [1,2,1,1,1,3,4,1,1]) (Exit.then J Q) ⟨T,[]⟩ w:=by
 obtain ⟨h,rfl⟩:=am b;unfold a7;rw [a];have e:=aa c;have d:=aa a;clear c b a
 conv=>arg 2;whnf
 have f:(k:Int)+1≤9223372036854775807:=by omega
 go_wp2_with fail;refine e.out _ ⟨rfl,?_⟩ 
 rfl
theorem Jo (T:Array Value) (s:Nat→Value) (g k m j:Nat) (Am:Option Addr) (w:World) (h:aP T s) (a:s 11=.pointer (some ⟨g,0,none⟩)) (b:s 28=.int .i64 (k:Nat)) (n:w.cell? ⟨g,1,none⟩=some (.slice Am m j)) (J:Act→World→Prop) (Q:Exit→Act→World→Prop)
  (i:∀ T',aP T' s→Act.eval ⟨T',[]⟩ (.tmp 187)=.bool (decide (k<m))→J ⟨T',[]⟩ w):Code.wp Tryz.prog (bC 13 [1,2,1,1,1,3,4,0,0]) (Exit.then J Q) ⟨T,[]⟩ w:=by
 obtain ⟨o,rfl⟩:=am h;unfold a7;rw [a,b];have f:=aa i;have c:=aa a;have d:=aa b;clear i h a b
 conv=>arg 2;whnf
 by_cases e:k<m
 ·have l:(k:Int)<(m:Int):=by omega
  go_wp2_with fail;refine f.out _ ⟨rfl,?_⟩ (by rw [decide_eq_true e];rfl)
  rw [←c.out,←d.out]
  rfl
 have l : ¬ (k:Int)<(m:Int):=by omega
 go_wp2_with fail;refine f.out _ ⟨rfl,?_⟩ (by rw [decide_eq_false e];rfl)
 rw [←c.out,←d.out]
 rfl
theorem Jq (T:Array Value) (s:Nat→Value)  (w:World) (a:aP T s)   (J:Act→World→Prop) (Q:Exit→Act→World→Prop)
  (b:∀ T',aP T' (cJ s 29 (.slice none 0 0))→J ⟨T',[]⟩ w):Code.wp Tryz.prog (bC 13 [1,2,1,1,1,3,4,1,0,3,0]) (Exit.then J Q) ⟨T,[]⟩ w:=by
 obtain ⟨d,rfl⟩:=am a;unfold a7;have c:=aa b;clear b a 
 conv=>arg 2;whnf
 go_wp2_with fail;refine c.out _ ⟨rfl,?_⟩ 
 rfl
theorem Jr (T:Array Value) (s:Nat→Value)  (w:World) (a:aP T s)   (J:Act→World→Prop) (Q:Exit→Act→World→Prop)
  (b:∀ T',aP T' (cJ s 30 (.int .i64 0))→J ⟨T',[]⟩ w):Code.wp Tryz.prog (bC 13 [1,2,1,1,1,3,4,1,0,3,1,0,0]) (Exit.then J Q) ⟨T,[]⟩ w:=by
 obtain ⟨d,rfl⟩:=am a;unfold a7;have c:=aa b;clear b a 
 conv=>arg 2;whnf
 go_wp2_with fail;refine c.out _ ⟨rfl,?_⟩ 
 rfl
theorem Jt (T:Array Value) (s:Nat→Value) (k:Nat) (w:World) (b:aP T s) (a:s 30=.int .i64 (k:Nat)) (g:k≤1048577) (J:Act→World→Prop) (Q:Exit→Act→World→Prop)
  (c:∀ T',aP T' (cJ s 30 (.int .i64 (k+1:Nat)))→J ⟨T',[]⟩ w):Code.wp Tryz.prog (bC 13 [1,2,1,1,1,3,4,1,0,3,1,0,1,3,4,1,1]) (Exit.then J Q) ⟨T,[]⟩ w:=by
 obtain ⟨h,rfl⟩:=am b;unfold a7;rw [a];have e:=aa c;have d:=aa a;clear c b a
 conv=>arg 2;whnf
 have f:(k:Int)+1≤9223372036854775807:=by omega
 go_wp2_with fail;refine e.out _ ⟨rfl,?_⟩ 
 rfl
theorem Js (T:Array Value) (s:Nat→Value) (g k m j:Nat) (Am:Option Addr) (w:World) (h:aP T s) (a:s 11=.pointer (some ⟨g,0,none⟩)) (b:s 30=.int .i64 (k:Nat)) (n:w.cell? ⟨g,0,none⟩=some (.slice Am m j)) (J:Act→World→Prop) (Q:Exit→Act→World→Prop)
  (i:∀ T',aP T' s→Act.eval ⟨T',[]⟩ (.tmp 194)=.bool (decide (k<m))→J ⟨T',[]⟩ w):Code.wp Tryz.prog (bC 13 [1,2,1,1,1,3,4,1,0,3,1,0,1,3,4,0,0]) (Exit.then J Q) ⟨T,[]⟩ w:=by
 obtain ⟨o,rfl⟩:=am h;unfold a7;rw [a,b];have f:=aa i;have c:=aa a;have d:=aa b;clear i h a b
 conv=>arg 2;whnf
 by_cases e:k<m
 ·have l:(k:Int)<(m:Int):=by omega
  go_wp2_with fail;refine f.out _ ⟨rfl,?_⟩ (by rw [decide_eq_true e];rfl)
  rw [←c.out,←d.out]
  rfl
 have l : ¬ (k:Int)<(m:Int):=by omega
 go_wp2_with fail;refine f.out _ ⟨rfl,?_⟩ (by rw [decide_eq_false e];rfl)
 rw [←c.out,←d.out]
 rfl
theorem Ju (T:Array Value) (s:Nat→Value) (g bz oz nz N bl ol nl M i k base n:Nat) (v:Value) (o p:Int) (G:List Value) (w:World) (D:aP T s) (d:s 11=.pointer (some ⟨g,0,none⟩)) (f:s 28=.int .i64 (k:Nat)) (h:s 29=v) (l:s 30=.int .i64 (i:Nat)) (W:w.cell? ⟨g,2,none⟩=some (.slice (some ⟨bz,oz,none⟩) nz N)) (Y:w.cell? ⟨bz,oz+i,none⟩=some (.slice (some ⟨bl,ol,none⟩) nl M)) (S:w.cell? ⟨bl,ol+k*2,none⟩=some (.int .i64 o)) (U:w.cell? ⟨bl,ol+k*2+1,none⟩=some (.int .i64 p)) (O:i<nz) (X:k<nl) (y:w.ownsRow base 40 2 v n G) (V:base≤w.heap.size) (Z:n≤1048577) (J:Act→World→Prop) (Q:Exit→Act→World→Prop)
  (E:∀ T' v' w',aP T' (cJ s 29 v')→w'.ownsRow base 40 2 v' (n+1) (G ++ [.int .i64 o,.int .i64 p])→Kept w.heap.size (fun b=>v.ownBlock=some b) w w'→J ⟨T',[]⟩ w'):Code.wp Tryz.prog (bC 13 [1,2,1,1,1,3,4,1,0,3,1,0,1,3,4,1,0,3]) (Exit.then J Q) ⟨T,[]⟩ w:=by
 obtain ⟨xF,rfl⟩:=am D;unfold a7;rw [d,f,h,l];have K:=aa E;have q:=aa d;have r:=aa f;have H:=aa h;have t:=aa l;clear E D d f h l;obtain ⟨i0,z,A,B,C⟩:=info_parts Tryz.infoCe;obtain ⟨A1,c1,rfl⟩:=bG y;have L:=aa y;clear y
 conv=>arg 2;whnf
 go_wp2_with (at_builtin;refine wpList_append_own _ rfl _ _ 33 rfl base 40 i0 (.agg #[.int .i64 0,.int .i64 0]) 2 16 Tryz.underlying33 z A B C rfl (by decide) _ _ _ rfl (L.out.alloc _) ⟨w.heap.size,0,none⟩ 1 1 [.int .i64 o,.int .i64 p] rfl rfl ?qe2 ?qe3 ?qe4 ?qe5 ?qe6 ?_)
 case qe2 =>
  intro j u P;rw [dd,Lib.cell_of_heap (heap_alloc_new w (.cells #[.int .i64 o,.int .i64 p] 40))]
  simpa using P
 case qe3=>intro u F;simp at F;rcases F with rfl | rfl <;> rfl
 case qe4=>simp only [maxLen];omega
 case qe5=>omega
 case qe6=>simp;omega
 intro v' w8 c a m;have I:Hid (Kept w.heap.size (fun b=>(Value.slice A1 n c1).ownBlock=some b) w w8):=⟨a.os,a.tape,a.output,by have:=a.size;simp at this;omega,fun i O R=>by rw [a.block i (by simp;omega) (fun e=>R e.symm),Below.heap_alloc _ _ _ (by omega)]⟩
 have x:=aa c;clear c a m;go_wp2_with fail;refine K.out _ v' w8 ⟨rfl,?_⟩ x.out I.out;rw [←q.out,←r.out,←t.out]
 rfl
theorem Jv (T:Array Value) (s:Nat→Value) (q base n:Nat) (v0 v1 v2:Value) (F:List Value) (Al:Option Addr) (ll l:Nat) (w:World) (D:aP T s) (d:s 27=.pointer (some ⟨q,0,none⟩)) (g:s 29=.slice Al ll l) (v:w.heap[q]?=some (.cells #[v0,v1,v2] 30 (0,0))) (m:w.ownsRow base 33 1 v2 n F) (N:base≤w.heap.size) (x:q<base) (O:n≤1048577)  (J:Act→World→Prop) (Q:Exit→Act→World→Prop)
  (E:∀ T' w' v',aP T' s→w'.heap[q]?=some (.cells #[v0,v1,v'] 30 (0,0))→w'.ownsRow base 33 1 v' (n+1) (F ++ [.slice Al ll l])→Kept w.heap.size (fun b=>b=q∨v2.ownBlock=some b) w w'→J ⟨T',[]⟩ w'):Code.wp Tryz.prog (bC 13 [1,2,1,1,1,3,4,1,0,3,1,1]) (Exit.then J Q) ⟨T,[]⟩ w:=by
 obtain ⟨S,rfl⟩:=am D;unfold a7;rw [d,g];have G:=aa E;have o:=aa d;have p:=aa g;clear E D d g;obtain ⟨i0,t,y,z,A⟩:=info_parts Tryz.infoCRow;obtain ⟨A1,c1,rfl⟩:=bG m;have k:some q≠(Value.slice A1 n c1).ownBlock:=fun e=>by have:=(m.lt q e.symm).1;omega
 have M:w.cell? ⟨q,2,none⟩=some (.slice A1 n c1):=(Lib.cell_of_heap v 2).trans rfl;have K:q<w.heap.size:=by omega
 have B:=aa m;have C:=aa v;clear m v
 conv=>arg 2;whnf
 go_wp2_with (at_builtin;refine wpList_append_own _ rfl _ _ 28 rfl base 33 i0 (.slice none 0 0) 1 24 Tryz.underlying28 t y z A rfl (by decide) _ _ _ rfl (B.out.alloc _) ⟨w.heap.size,0,none⟩ 1 1 [.slice Al ll l] rfl rfl ?qe2 ?qe3 ?qe4 ?qe5 ?qe6 ?_)
 case qe2 =>
  intro j u I;rw [dd,Lib.cell_of_heap (heap_alloc_new w (.cells #[.slice Al ll l] 33))]
  simpa using I
 case qe3=>intro u L;rw [List.mem_singleton.1 L];rfl
 case qe4=>simp only [maxLen];omega
 case qe5=>omega
 case qe6=>simp;omega
 intro v' w8 c a i;have r:=aa (kt (f:=2) C.out B.out x c a);obtain ⟨A8,H,rfl⟩:=bG c;have h:w8.heap[q]?=some (.cells #[v0,v1,.slice A1 n c1] 30 (0,0)):=by
  rw [a.block _ (by simp;omega) k,Below.heap_alloc _ _ _ (by omega)]
  exact C.out
 have P:w8.cell? ⟨q,2,none⟩=some (.slice A1 n c1):=(Lib.cell_of_heap h 2).trans rfl;have R:w8.frozen? ⟨q,2,none⟩=false:=by simp [World.frozen?,h]
 clear c a i h k M;go_wp2_with fail;refine G.out _ _ (.slice A8 (n+1) H) ⟨rfl,?_⟩ r.out.1 r.out.2.1 r.out.2.2;rw [←o.out,←p.out]
 rfl
theorem Jx (T:Array Value) (s:Nat→Value)  (w:World) (a:aP T s)   (J:Act→World→Prop) (Q:Exit→Act→World→Prop)
  (b:∀ T',aP T' (cJ s 34 (.int .i64 0))→J ⟨T',[]⟩ w):Code.wp Tryz.prog (bC 20 [0]) (Exit.then J Q) ⟨T,[]⟩ w:=by
 obtain ⟨d,rfl⟩:=am a;unfold a7;have c:=aa b;clear b a 
 conv=>arg 2;whnf
 go_wp2_with fail;refine c.out _ ⟨rfl,?_⟩ 
 rfl
theorem Jz (T:Array Value) (s:Nat→Value) (k:Nat) (w:World) (b:aP T s) (a:s 34=.int .i64 (k:Nat)) (g:k≤1048577) (J:Act→World→Prop) (Q:Exit→Act→World→Prop)
  (c:∀ T',aP T' (cJ s 34 (.int .i64 (k+1:Nat)))→J ⟨T',[]⟩ w):Code.wp Tryz.prog (bC 20 [1,3,4,1,1]) (Exit.then J Q) ⟨T,[]⟩ w:=by
 obtain ⟨h,rfl⟩:=am b;unfold a7;rw [a];have e:=aa c;have d:=aa a;clear c b a
 conv=>arg 2;whnf
 have f:(k:Int)+1≤9223372036854775807:=by omega
 go_wp2_with fail;refine e.out _ ⟨rfl,?_⟩ 
 rfl
theorem Jy (T:Array Value) (s:Nat→Value) (g k m r:Nat) (Am:Option Addr) (E:Int) (w:World) (p:aP T s) (e:s 11=.pointer (some ⟨g,0,none⟩)) (f:s 13=.int .i64 E) (h:s 34=.int .i64 (k:Nat)) (u:w.cell? ⟨g,0,none⟩=some (.slice Am m r)) (J:Act→World→Prop) (Q:Exit→Act→World→Prop)
  (q:∀ T',aP T' s→Act.eval ⟨T',[]⟩ (.tmp 262)=.bool (decide (k<m) && decide (E=0))→J ⟨T',[]⟩ w):Code.wp Tryz.prog (bC 20 [1,3,4,0,0]) (Exit.then J Q) ⟨T,[]⟩ w:=by
 obtain ⟨v,rfl⟩:=am p;unfold a7;rw [e,f,h];have l:=aa q;have b:=aa e;have c:=aa f;have d:=aa h;clear q p e f h
 conv=>arg 2;whnf
 by_cases a:k<m
 ·have t:(k:Int)<(m:Int):=by omega
  have j:=aa (decide_eq_true a)
  by_cases i:E=0
  ·have o:(E == 0)=true:=by simp [i]
   have n:=aa (decide_eq_true i);clear i a;go_wp2_with fail;refine l.out _ ⟨rfl,?_⟩ (by rw [j.out,n.out];rfl)
   rw [←b.out,←c.out,←d.out]
   rfl
  have o:(E == 0)=false:=by simpa using i
  have n:=aa (decide_eq_false i);clear i a;go_wp2_with fail;refine l.out _ ⟨rfl,?_⟩ (by rw [j.out,n.out];rfl)
  rw [←b.out,←c.out,←d.out]
  rfl
 have t : ¬ (k:Int)<(m:Int):=by omega
 have j:=aa (decide_eq_false a);clear a;go_wp2_with fail;refine l.out _ ⟨rfl,?_⟩ (by rw [j.out];rfl)
 rw [←b.out,←c.out,←d.out]
 rfl
theorem JA (T:Array Value) (s:Nat→Value) (g b d od n cap t m C br ob nr D k:Nat) (Am:Option Addr) (x E E2:Int) (w:World) (u:aP T s) (q:s 3=.int .i64 (t:Nat)) (r:s 6=.pointer (some ⟨b,0,none⟩)) (f:s 11=.pointer (some ⟨g,0,none⟩)) (h:s 13=.int .i64 E) (i:s 34=.int .i64 (k:Nat)) (F:w.cell? ⟨b,0,none⟩=some (.slice (some ⟨d,od,none⟩) n cap)) (G:w.cell? ⟨d,od+t*3+2,none⟩=some (.slice Am m C)) (I:t<n) (H:w.cell? ⟨g,0,none⟩=some (.slice (some ⟨br,ob,none⟩) nr D)) (L:w.cell? ⟨br,ob+k,none⟩=some (.int .i64 x)) (K:k<nr) (y:(if aH m x=true then 1 else E)=E2) (J:Act→World→Prop) (Q:Exit→Act→World→Prop)
  (v:∀ T' w',aP T' (cJ s 13 (.int .i64 E2))→Bl w w'→J ⟨T',[]⟩ w'):Code.wp Tryz.prog (bC 20 [1,3,4,1,0,3]) (Exit.then J Q) ⟨T,[]⟩ w:=by
 obtain ⟨M,rfl⟩:=am u;unfold a7;rw [q,r,f,h,i];have j:=aa v;have o:=aa q;have p:=aa r;have a:=aa f;have B:=aa h;have c:=aa i;clear v u q r f h i;have e:=aa y;clear y
 conv=>arg 2;whnf
 by_cases z:x<0
 ·have l:Hid (1=E2):=by show _=_;rw [←e.out];simp [aH,z]
  go_wp2_with fail
  go_quiet (fail)
  go_wp2_with fail;rw [←l.out] at j;refine j.out _ _ ⟨rfl,?_⟩ (ac (zS) _);rw [←o.out,←p.out,←a.out,←c.out]
  rfl
 by_cases A:(m:Int)≤x
 ·have l:Hid (1=E2):=by show _=_;rw [←e.out];simp [aH,A]
  go_wp2_with fail
  go_quiet (fail)
  go_wp2_with fail;rw [←l.out] at j;refine j.out _ _ ⟨rfl,?_⟩ (ac (zS) _);rw [←o.out,←p.out,←a.out,←c.out]
  rfl
 have l:Hid (E=E2):=by show _=_;rw [←e.out];simp [aH,z,A]
 go_wp2_with fail
 go_quiet (fail)
 go_wp2_with fail;rw [←l.out] at j;refine j.out _ _ ⟨rfl,?_⟩ (ac (zS) _);rw [←o.out,←p.out,←a.out,←c.out]
 rfl
theorem JB (T:Array Value) (s:Nat→Value)  (w:World) (a:aP T s)   (J:Act→World→Prop) (Q:Exit→Act→World→Prop)
  (b:∀ T',aP T' (cJ s 35 (.int .i64 0))→J ⟨T',[]⟩ w):Code.wp Tryz.prog (bC 21 [0]) (Exit.then J Q) ⟨T,[]⟩ w:=by
 obtain ⟨d,rfl⟩:=am a;unfold a7;have c:=aa b;clear b a 
 conv=>arg 2;whnf
 go_wp2_with fail;refine c.out _ ⟨rfl,?_⟩ 
 rfl
theorem JD (T:Array Value) (s:Nat→Value) (k:Nat) (w:World) (b:aP T s) (a:s 35=.int .i64 (k:Nat)) (g:k≤1048577) (J:Act→World→Prop) (Q:Exit→Act→World→Prop)
  (c:∀ T',aP T' (cJ s 35 (.int .i64 (k+1:Nat)))→J ⟨T',[]⟩ w):Code.wp Tryz.prog (bC 21 [1,3,4,1,1]) (Exit.then J Q) ⟨T,[]⟩ w:=by
 obtain ⟨h,rfl⟩:=am b;unfold a7;rw [a];have e:=aa c;have d:=aa a;clear c b a
 conv=>arg 2;whnf
 have f:(k:Int)+1≤9223372036854775807:=by omega
 go_wp2_with fail;refine e.out _ ⟨rfl,?_⟩ 
 rfl
theorem JC (T:Array Value) (s:Nat→Value) (g k m r:Nat) (Am:Option Addr) (E:Int) (w:World) (p:aP T s) (e:s 11=.pointer (some ⟨g,0,none⟩)) (f:s 13=.int .i64 E) (h:s 35=.int .i64 (k:Nat)) (u:w.cell? ⟨g,1,none⟩=some (.slice Am m r)) (J:Act→World→Prop) (Q:Exit→Act→World→Prop)
  (q:∀ T',aP T' s→Act.eval ⟨T',[]⟩ (.tmp 294)=.bool (decide (k<m) && decide (E=0))→J ⟨T',[]⟩ w):Code.wp Tryz.prog (bC 21 [1,3,4,0,0]) (Exit.then J Q) ⟨T,[]⟩ w:=by
 obtain ⟨v,rfl⟩:=am p;unfold a7;rw [e,f,h];have l:=aa q;have b:=aa e;have c:=aa f;have d:=aa h;clear q p e f h
 conv=>arg 2;whnf
 by_cases a:k<m
 ·have t:(k:Int)<(m:Int):=by omega
  have j:=aa (decide_eq_true a)
  by_cases i:E=0
  ·have o:(E == 0)=true:=by simp [i]
   have n:=aa (decide_eq_true i);clear i a;go_wp2_with fail;refine l.out _ ⟨rfl,?_⟩ (by rw [j.out,n.out];rfl)
   rw [←b.out,←c.out,←d.out]
   rfl
  have o:(E == 0)=false:=by simpa using i
  have n:=aa (decide_eq_false i);clear i a;go_wp2_with fail;refine l.out _ ⟨rfl,?_⟩ (by rw [j.out,n.out];rfl)
  rw [←b.out,←c.out,←d.out]
  rfl
 have t : ¬ (k:Int)<(m:Int):=by omega
 have j:=aa (decide_eq_false a);clear a;go_wp2_with fail;refine l.out _ ⟨rfl,?_⟩ (by rw [j.out];rfl)
 rw [←b.out,←c.out,←d.out]
 rfl
theorem JE (T:Array Value) (s:Nat→Value) (g b d od n cap t m C br ob nr D k:Nat) (Am:Option Addr) (x E E2:Int) (w:World) (u:aP T s) (q:s 4=.int .i64 (t:Nat)) (r:s 6=.pointer (some ⟨b,0,none⟩)) (f:s 11=.pointer (some ⟨g,0,none⟩)) (h:s 13=.int .i64 E) (i:s 35=.int .i64 (k:Nat)) (F:w.cell? ⟨b,0,none⟩=some (.slice (some ⟨d,od,none⟩) n cap)) (G:w.cell? ⟨d,od+t*3+2,none⟩=some (.slice Am m C)) (I:t<n) (H:w.cell? ⟨g,1,none⟩=some (.slice (some ⟨br,ob,none⟩) nr D)) (L:w.cell? ⟨br,ob+k,none⟩=some (.int .i64 x)) (K:k<nr) (y:(if aH m x=true then 1 else E)=E2) (J:Act→World→Prop) (Q:Exit→Act→World→Prop)
  (v:∀ T' w',aP T' (cJ s 13 (.int .i64 E2))→Bl w w'→J ⟨T',[]⟩ w'):Code.wp Tryz.prog (bC 21 [1,3,4,1,0,3]) (Exit.then J Q) ⟨T,[]⟩ w:=by
 obtain ⟨M,rfl⟩:=am u;unfold a7;rw [q,r,f,h,i];have j:=aa v;have o:=aa q;have p:=aa r;have a:=aa f;have B:=aa h;have c:=aa i;clear v u q r f h i;have e:=aa y;clear y
 conv=>arg 2;whnf
 by_cases z:x<0
 ·have l:Hid (1=E2):=by show _=_;rw [←e.out];simp [aH,z]
  go_wp2_with fail
  go_quiet (fail)
  go_wp2_with fail;rw [←l.out] at j;refine j.out _ _ ⟨rfl,?_⟩ (ac (zS) _);rw [←o.out,←p.out,←a.out,←c.out]
  rfl
 by_cases A:(m:Int)≤x
 ·have l:Hid (1=E2):=by show _=_;rw [←e.out];simp [aH,A]
  go_wp2_with fail
  go_quiet (fail)
  go_wp2_with fail;rw [←l.out] at j;refine j.out _ _ ⟨rfl,?_⟩ (ac (zS) _);rw [←o.out,←p.out,←a.out,←c.out]
  rfl
 have l:Hid (E=E2):=by show _=_;rw [←e.out];simp [aH,z,A]
 go_wp2_with fail
 go_quiet (fail)
 go_wp2_with fail;rw [←l.out] at j;refine j.out _ _ ⟨rfl,?_⟩ (ac (zS) _);rw [←o.out,←p.out,←a.out,←c.out]
 rfl
end Go.Proofs.YthlhjjabkgpenaaGreatDoor
