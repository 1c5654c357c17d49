/- What join answers, by -/
import Derived.Test.YtjfampgnhccodaaGreatDoorJTAD
namespace Go.Proofs.YtjfampgnhccodaaGreatDoor
open Tryz ChangeShapes WideShapes ChangeAt RowKit
set_option maxRecDepth 99999
set_option maxHeartbeats 0
theorem gj{k n:Int}(h:good k n=true)(w:World):Rt 211 #[.agg #[.int .i64 k,.int .i64 n]] w .nilIface:=by
 have a:=sQ k n w;rw[if_pos h]at a;exact a
def pG(s:Nat)(ka na kb nb:Int)(w:World):Prop:=s+4<=w.heap.size/\Pa ka na kb nb (s+1+1+1) w
 /\ w.cell? ⟨s,0,none⟩=some (.int .i64 ka)/\w.cell? ⟨s,1,none⟩=some (.int .i64 na)/\w.cell? ⟨s+1,0,none⟩=some (.int .i64 kb)/\w.cell? ⟨s+1,1,none⟩=some (.int .i64 nb)
 /\ w.cell? ⟨s+1+1,0,none⟩=some (.int .i64 0)/\w.cell? ⟨s+1+1,1,none⟩=some (.int .i64 0)/\w.frozen? ⟨s+1+1,0,none⟩=false/\w.frozen? ⟨s+1+1,1,none⟩=false
theorem pG.later{s:Nat}{b na c nb:Int}{w w':World}(h:pG s b na c nb w)(a:Bl w w'):pG s b na c nb w':=by
 obtain⟨m,⟨t0,t1,t2,t3,t4⟩,d,e,f,g,i,j,k,l⟩:=h;have n:=a.size;refine⟨ω,⟨ω,?_,?_,?_,?_⟩,?_,?_,?_,?_,?_,?_,?_,?_⟩
 ·rw[a.cell (p:=⟨s+1+1+1,0,none⟩) (by show s+1+1+1<_;omega)];exact t1
 ·rw[a.cell (p:=⟨s+1+1+1,1,none⟩) (by show s+1+1+1<_;omega)];exact t2
 ·rw[a.cell (p:=⟨s+1+1+1,2,none⟩) (by show s+1+1+1<_;omega)];exact t3
 ·rw[a.cell (p:=⟨s+1+1+1,3,none⟩) (by show s+1+1+1<_;omega)];exact t4
 ·rw[a.cell (p:=⟨s,0,none⟩) (by show s<_;omega)];exact d
 ·rw[a.cell (p:=⟨s,1,none⟩) (by show s<_;omega)];exact e
 ·rw[a.cell (p:=⟨s+1,0,none⟩) (by show s+1<_;omega)];exact f
 ·rw[a.cell (p:=⟨s+1,1,none⟩) (by show s+1<_;omega)];exact g
 ·rw[a.cell (p:=⟨s+1+1,0,none⟩) (by show s+1+1<_;omega)];exact i
 ·rw[a.cell (p:=⟨s+1+1,1,none⟩) (by show s+1+1<_;omega)];exact j
 ·rw[a.frozen (p:=⟨s+1+1,0,none⟩) (by show s+1+1<_;omega)];exact k
 rw[a.frozen (p:=⟨s+1+1,1,none⟩) (by show s+1+1<_;omega)];exact l
theorem pG.first(a na b nb:Int)(w:World):pG w.heap.size a na b nb ((((w.alloc (Obj.cells #[.int .i64 a,.int .i64 na] 61)).alloc (Obj.cells #[.int .i64 b,.int .i64 nb] 61)).alloc (Obj.cells #[.int .i64 0,.int .i64 0] 61)).alloc (Obj.cells #[.int .i64 a,.int .i64 na,.int .i64 b,.int .i64 nb] 61)):=by
 refine⟨by simp,⟨by simp,?_,?_,?_,?_⟩,?_,?_,?_,?_,?_,?_,?_,?_⟩ <;>simp[go_sem]
theorem pG.alloc{s:Nat}{a na b nb:Int}{w:World}(h:pG s a na b nb w)(o:Obj):pG s a na b nb (w.alloc o):=h.later ((zS).alloc zT _)
theorem AY(B C:Value)(i na j nb:Int)(w:World)(z:good i na=true)(g:good j nb=true)(h:((fun k:Int=>k == 2) i||(fun k:Int=>k == 2) j)=true):
  Rt 215 #[.agg #[.int .i64 i,.int .i64 na],.agg #[.int .i64 j,.int .i64 nb],B,C] w (.tuple #[.agg #[.int .i64 2,.int .i64 0],.nilIface]):=by
 have u:=gj z;have x:=gj g;clear g z;have y:=pG.first i na j nb w
 go_enter func215,ntmps215
 go_wp2_with fail;refine wp_loop_rounds 3 ?_;rw[rounds_succ];go_wp2_with fail;refine(u _).mono ?_;rintro e w1⟨rfl,b⟩;have s:=(y.alloc _).later b;have D:Bl w w1:=Below.trans γ (b.mono (by simp;omega))
 clear y b;obtain⟨r,⟨t0,t1,t2,t3,t4⟩,l,m,n,o,c,d,p,q⟩:=id s;go_wp2_with fail;rw[rounds_succ];go_wp2_with fail;refine(x _).mono ?_;rintro e w2⟨rfl,b⟩;have t:=(s.alloc _).later b;have f:Bl w w2:=Below.trans γ (b.mono (by simp;omega))
 clear s b r t0 t1 t2 t3 t4 l m n o c d p q D;obtain⟨r,⟨t0,t1,t2,t3,t4⟩,l,m,n,o,c,d,p,q⟩:=id t;go_wp2_with fail;rw[rounds_succ];go_wp2_with fail;have a:=eX 265 (fun k=>k == 2) mW kZ i na j nb _ w2 t0 t1 t2 t3 t4
 rw[h]at a;refine a.mono ?_;rintro e w3⟨rfl,b⟩;have A:=t.later b;have E:Bl w w3:=Below.trans f (b.mono ω)
 clear t b r t0 t1 t2 t3 t4 l m n o c d p q f a;obtain⟨r,F,l,m,n,o,c,d,p,q⟩:=id A;clear h;go_wp2_with fail;refine bodyPost_ret (v:=.tuple #[.agg #[.int .i64 2,.int .i64 0],.nilIface]) (by simp[results,results215,go_sem,c,d]) rfl ⟨rfl,?_⟩
 go_grown
theorem AV(A:Nat)(p:Int->Int->Bool)(N:dF A)(H:vx A p)(K:Value)(g na h nb:Int)(w:World)(G:good g na=true)(t:good h nb=true)(u:((fun k:Int=>k == 2) g||(fun k:Int=>k == 2) h)=false)(D:p g h=true):
  Rt 215 #[.agg #[.int .i64 g,.int .i64 na],.agg #[.int .i64 h,.int .i64 nb],.func (.func A) #[] #[],K] w (.tuple #[.agg #[.int .i64 0,.int .i64 0],.nilIface]):=by
 have J:=aa H;clear H;unfold dF at N;have B:=gj G;have C:=gj t;clear t G;have F:=pG.first g na h nb w
 go_enter func215,ntmps215
 go_wp2_with fail;refine wp_loop_rounds 3 ?_;rw[rounds_succ];go_wp2_with fail;refine(B _).mono ?_;rintro e w1⟨rfl,a⟩;have x:=(F.alloc _).later a;have L:Bl w w1:=Below.trans γ (a.mono (by simp;omega))
 clear F a;obtain⟨q,⟨t0,t1,t2,t3,t4⟩,i,j,l,m,c,d,n,o⟩:=id x;go_wp2_with fail;rw[rounds_succ];go_wp2_with fail;refine(C _).mono ?_;rintro e w2⟨rfl,a⟩;have y:=(x.alloc _).later a;have r:Bl w w2:=Below.trans γ (a.mono (by simp;omega))
 clear x a q t0 t1 t2 t3 t4 i j l m c d n o L;obtain⟨q,⟨t0,t1,t2,t3,t4⟩,i,j,l,m,c,d,n,o⟩:=id y;go_wp2_with fail;rw[rounds_succ];go_wp2_with fail;have b:=eX 265 (fun k=>k == 2) mW kZ g na h nb _ w2 t0 t1 t2 t3 t4
 rw[u]at b;refine b.mono ?_;rintro e w3⟨rfl,a⟩;have z:=y.later a;have s:Bl w w3:=Below.trans r (a.mono ω)
 clear y a q t0 t1 t2 t3 t4 i j l m c d n o r b;obtain⟨q,E,i,j,l,m,c,d,n,o⟩:=id z;clear u;go_wp2_with fail;have f:=J.o g na h nb _ w3 E;rw[D]at f;refine f.mono ?_;rintro e w4⟨rfl,a⟩;have I:=z.later a;have M:Bl w w4:=Below.trans s (a.mono ω)
 clear z a q E i j l m c d n o s f;obtain⟨q,E,i,j,l,m,c,d,n,o⟩:=id I;go_wp2_with fail;refine bodyPost_ret (v:=.tuple #[.agg #[.int .i64 0,.int .i64 0],.nilIface]) (by simp[results,results215,go_sem,c,d]) rfl ⟨rfl,?_⟩
 go_grown
theorem E5(E F:Nat)(p:Int->Int->Bool)(T:dF E)(N:vx E p)(I:dF F)(o na q nb:Int)(w:World)(L:good o na=true)(x:good q nb=true)(r:Int×Int)(M:pI F na nb r)(y:((fun k:Int=>k == 2) o||(fun k:Int=>k == 2) q)=false)(J:p o q=false):
  Rt 215 #[.agg #[.int .i64 o,.int .i64 na],.agg #[.int .i64 q,.int .i64 nb],.func (.func E) #[] #[],.func (.func F) #[] #[]] w (.tuple #[.agg #[.int .i64 r.1,.int .i64 r.2],.nilIface]):=by
 have Q:=aa N;have P:=aa M;clear N M;unfold dF at T I;have G:=gj L;have H:=gj x;clear x L;have K:=pG.first o na q nb w
 go_enter func215,ntmps215
 go_wp2_with fail;refine wp_loop_rounds 3 ?_;rw[rounds_succ];go_wp2_with fail;refine(G _).mono ?_;rintro e w1⟨rfl,a⟩;have A:=(K.alloc _).later a;have R:Bl w w1:=Below.trans γ (a.mono (by simp;omega))
 clear K a;obtain⟨m,⟨t0,t1,t2,t3,t4⟩,f,g,h,i,c,d,j,l⟩:=id A;go_wp2_with fail;rw[rounds_succ];go_wp2_with fail;refine(H _).mono ?_;rintro e w2⟨rfl,a⟩;have B:=(A.alloc _).later a;have s:Bl w w2:=Below.trans γ (a.mono (by simp;omega))
 clear A a m t0 t1 t2 t3 t4 f g h i c d j l R;obtain⟨m,⟨t0,t1,t2,t3,t4⟩,f,g,h,i,c,d,j,l⟩:=id B;go_wp2_with fail;rw[rounds_succ];go_wp2_with fail;have b:=eX 265 (fun k=>k == 2) mW kZ o na q nb _ w2 t0 t1 t2 t3 t4
 rw[y]at b;refine b.mono ?_;rintro e w3⟨rfl,a⟩;have C:=B.later a;have t:Bl w w3:=Below.trans s (a.mono ω)
 clear B a m t0 t1 t2 t3 t4 f g h i c d j l s b;obtain⟨m,z,f,g,h,i,c,d,j,l⟩:=id C;clear y;go_wp2_with fail;have n:=Q.o o na q nb _ w3 z;rw[J]at n;refine n.mono ?_;rintro e w4⟨rfl,a⟩;have D:=C.later a;have u:Bl w w4:=Below.trans t (a.mono ω)
 clear C a m z f g h i c d j l t n;obtain⟨m,z,f,g,h,i,c,d,j,l⟩:=id D;go_wp2_with fail;refine(P.o _).mono ?_;rintro e w5⟨rfl,a⟩;have O:=D.later a;have S:Bl w w5:=Below.trans u (a.mono ω)
 clear D a m z f g h i c d j l u;obtain⟨m,z,f,g,h,i,c,d,j,l⟩:=id O;go_wp2_with fail;refine bodyPost_ret (v:=.tuple #[.agg #[.int .i64 r.1,.int .i64 r.2],.nilIface]) (by simp[results,results215,go_sem,c,d]) rfl ⟨rfl,?_⟩
 go_grown
end Go.Proofs.YtjfampgnhccodaaGreatDoor
