/- What join answers, by -/
import Derived.Test.YtompdcaikmekkaaGreatDoorJHAD
namespace Go.Proofs.YtompdcaikmekkaaGreatDoor
open ChangeShapes WideShapes ChangeAt RowKit
set_option maxRecDepth 99999
set_option maxHeartbeats 0
theorem gh {k n:Int} (h:good k n=true) (w:World):Rt 174 #[.agg #[.int .i64 k,.int .i64 n]] w .nilIface:=by
 have a:=qL k n w;rw [if_pos h] at a;exact a
def nR (s:Nat) (ka na kb nb:Int) (w:World):Prop:=s+4≤w.heap.size∧Kl ka na kb nb (s+1+1+1) w
 ∧ w.cell? ⟨s,0,none⟩=some (.int .i64 ka)∧w.cell? ⟨s,1,none⟩=some (.int .i64 na)∧w.cell? ⟨s+1,0,none⟩=some (.int .i64 kb)∧w.cell? ⟨s+1,1,none⟩=some (.int .i64 nb)
 ∧ w.cell? ⟨s+1+1,0,none⟩=some (.int .i64 0)∧w.cell? ⟨s+1+1,1,none⟩=some (.int .i64 0)∧w.frozen? ⟨s+1+1,0,none⟩=false∧w.frozen? ⟨s+1+1,1,none⟩=false
theorem nR.later {s:Nat} {ka na kb nb:Int} {w w':World} (h:nR s ka na kb nb w) (a:Bl w w'):nR s ka na kb nb w':=by
 obtain ⟨k,⟨t0,t1,t2,t3,t4⟩,b,c,d,e,f,g,i,j⟩:=h;have l:=a.size;refine ⟨by omega,⟨by omega,?_,?_,?_,?_⟩,?_,?_,?_,?_,?_,?_,?_,?_⟩
 ·rw [a.cell (p:=⟨s+1+1+1,0,none⟩) (by show s+1+1+1<_;omega)];exact t1
 ·rw [a.cell (p:=⟨s+1+1+1,1,none⟩) (by show s+1+1+1<_;omega)];exact t2
 ·rw [a.cell (p:=⟨s+1+1+1,2,none⟩) (by show s+1+1+1<_;omega)];exact t3
 ·rw [a.cell (p:=⟨s+1+1+1,3,none⟩) (by show s+1+1+1<_;omega)];exact t4
 ·rw [a.cell (p:=⟨s,0,none⟩) (by show s<_;omega)];exact b
 ·rw [a.cell (p:=⟨s,1,none⟩) (by show s<_;omega)];exact c
 ·rw [a.cell (p:=⟨s+1,0,none⟩) (by show s+1<_;omega)];exact d
 ·rw [a.cell (p:=⟨s+1,1,none⟩) (by show s+1<_;omega)];exact e
 ·rw [a.cell (p:=⟨s+1+1,0,none⟩) (by show s+1+1<_;omega)];exact f
 ·rw [a.cell (p:=⟨s+1+1,1,none⟩) (by show s+1+1<_;omega)];exact g
 ·rw [a.frozen (p:=⟨s+1+1,0,none⟩) (by show s+1+1<_;omega)];exact i
 rw [a.frozen (p:=⟨s+1+1,1,none⟩) (by show s+1+1<_;omega)];exact j
theorem nR.first (ka na kb nb:Int) (w:World):nR w.heap.size ka na kb nb ((((w.alloc (Obj.cells #[.int .i64 ka,.int .i64 na] 52)).alloc (Obj.cells #[.int .i64 kb,.int .i64 nb] 52)).alloc (Obj.cells #[.int .i64 0,.int .i64 0] 52)).alloc (Obj.cells #[.int .i64 ka,.int .i64 na,.int .i64 kb,.int .i64 nb] 52)):=by
 refine ⟨by simp,⟨by simp,?_,?_,?_,?_⟩,?_,?_,?_,?_,?_,?_,?_,?_⟩ <;> simp [go_sem]
theorem nR.alloc {s:Nat} {ka na kb nb:Int} {w:World} (h:nR s ka na kb nb w) (o:Obj):nR s ka na kb nb (w.alloc o):=h.later ((zS).alloc (zT) _)
theorem xu (z A:Value) (ka na kb nb:Int) (w:World) (x:good ka na=true) (g:good kb nb=true) (h:((fun k:Int=>k == 2) ka || (fun k:Int=>k == 2) kb)=true) :
  Rt 178 #[.agg #[.int .i64 ka,.int .i64 na],.agg #[.int .i64 kb,.int .i64 nb],z,A] w (.tuple #[.agg #[.int .i64 2,.int .i64 0],.nilIface]):=by
 have s:=gh x;have t:=gh g;clear g x;have u:=nR.first ka na kb nb w
 go_enter Tryz.func178,Tryz.ntmps178
 go_wp2_with fail;refine wp_loop_rounds 3 ?_;rw [rounds_succ];go_wp2_with fail;refine (s _).mono ?_;rintro e w1 ⟨rfl,b⟩;have q:=(u.alloc _).later b;have B:Bl w w1:=Below.trans (by go_grown) (b.mono (by simp;omega))
 clear u b;obtain ⟨p,⟨t0,t1,t2,t3,t4⟩,i,j,l,m,c,d,n,o⟩:=id q;go_wp2_with fail;rw [rounds_succ];go_wp2_with fail;refine (t _).mono ?_;rintro e w2 ⟨rfl,b⟩;have r:=(q.alloc _).later b;have f:Bl w w2:=Below.trans (by go_grown) (b.mono (by simp;omega))
 clear q b p t0 t1 t2 t3 t4 i j l m c d n o B;obtain ⟨p,⟨t0,t1,t2,t3,t4⟩,i,j,l,m,c,d,n,o⟩:=id r;go_wp2_with fail;rw [rounds_succ];go_wp2_with fail;have a:=eW 220 (fun k=>k == 2) l8 kt ka na kb nb _ w2 t0 t1 t2 t3 t4
 rw [h] at a;refine a.mono ?_;rintro e w3 ⟨rfl,b⟩;have y:=r.later b;have C:Bl w w3:=Below.trans f (b.mono (by omega))
 clear r b p t0 t1 t2 t3 t4 i j l m c d n o f a;obtain ⟨p,D,i,j,l,m,c,d,n,o⟩:=id y;clear h;go_wp2_with fail;refine bodyPost_ret (v:=.tuple #[.agg #[.int .i64 2,.int .i64 0],.nilIface]) (by simp [results,Tryz.results178,go_sem,c,d]) rfl ⟨rfl,?_⟩
 go_grown
theorem xt (y:Nat) (p:Int→Int→Bool) (L:dB y) (F:tq y p) (I:Value) (ka na kb nb:Int) (w:World) (E:good ka na=true) (r:good kb nb=true) (s:((fun k:Int=>k == 2) ka || (fun k:Int=>k == 2) kb)=false) (B:p ka kb=true) :
  Rt 178 #[.agg #[.int .i64 ka,.int .i64 na],.agg #[.int .i64 kb,.int .i64 nb],.func (.func y) #[] #[],I] w (.tuple #[.agg #[.int .i64 0,.int .i64 0],.nilIface]):=by
 have H:=aa F;clear F;unfold dB at L;have z:=gh E;have A:=gh r;clear r E;have D:=nR.first ka na kb nb w
 go_enter Tryz.func178,Tryz.ntmps178
 go_wp2_with fail;refine wp_loop_rounds 3 ?_;rw [rounds_succ];go_wp2_with fail;refine (z _).mono ?_;rintro e w1 ⟨rfl,a⟩;have t:=(D.alloc _).later a;have J:Bl w w1:=Below.trans (by go_grown) (a.mono (by simp;omega))
 clear D a;obtain ⟨n,⟨t0,t1,t2,t3,t4⟩,g,h,i,j,c,d,l,m⟩:=id t;go_wp2_with fail;rw [rounds_succ];go_wp2_with fail;refine (A _).mono ?_;rintro e w2 ⟨rfl,a⟩;have u:=(t.alloc _).later a;have o:Bl w w2:=Below.trans (by go_grown) (a.mono (by simp;omega))
 clear t a n t0 t1 t2 t3 t4 g h i j c d l m J;obtain ⟨n,⟨t0,t1,t2,t3,t4⟩,g,h,i,j,c,d,l,m⟩:=id u;go_wp2_with fail;rw [rounds_succ];go_wp2_with fail;have b:=eW 220 (fun k=>k == 2) l8 kt ka na kb nb _ w2 t0 t1 t2 t3 t4
 rw [s] at b;refine b.mono ?_;rintro e w3 ⟨rfl,a⟩;have x:=u.later a;have q:Bl w w3:=Below.trans o (a.mono (by omega))
 clear u a n t0 t1 t2 t3 t4 g h i j c d l m o b;obtain ⟨n,C,g,h,i,j,c,d,l,m⟩:=id x;clear s;go_wp2_with fail;have f:=H.out ka na kb nb _ w3 C;rw [B] at f;refine f.mono ?_;rintro e w4 ⟨rfl,a⟩;have G:=x.later a;have K:Bl w w4:=Below.trans q (a.mono (by omega))
 clear x a n C g h i j c d l m q f;obtain ⟨n,C,g,h,i,j,c,d,l,m⟩:=id G;go_wp2_with fail;refine bodyPost_ret (v:=.tuple #[.agg #[.int .i64 0,.int .i64 0],.nilIface]) (by simp [results,Tryz.results178,go_sem,c,d]) rfl ⟨rfl,?_⟩
 go_grown
theorem B6 (C D:Nat) (p:Int→Int→Bool) (R:dB C) (L:tq C p) (G:dB D) (ka na kb nb:Int) (w:World) (J:good ka na=true) (t:good kb nb=true) (r:Int×Int) (K:nT D na nb r) (u:((fun k:Int=>k == 2) ka || (fun k:Int=>k == 2) kb)=false) (H:p ka kb=false) :
  Rt 178 #[.agg #[.int .i64 ka,.int .i64 na],.agg #[.int .i64 kb,.int .i64 nb],.func (.func C) #[] #[],.func (.func D) #[] #[]] w (.tuple #[.agg #[.int .i64 r.1,.int .i64 r.2],.nilIface]):=by
 have O:=aa L;have N:=aa K;clear L K;unfold dB at R G;have E:=gh J;have F:=gh t;clear t J;have I:=nR.first ka na kb nb w
 go_enter Tryz.func178,Tryz.ntmps178
 go_wp2_with fail;refine wp_loop_rounds 3 ?_;rw [rounds_succ];go_wp2_with fail;refine (E _).mono ?_;rintro e w1 ⟨rfl,a⟩;have y:=(I.alloc _).later a;have P:Bl w w1:=Below.trans (by go_grown) (a.mono (by simp;omega))
 clear I a;obtain ⟨m,⟨t0,t1,t2,t3,t4⟩,f,g,h,i,c,d,j,l⟩:=id y;go_wp2_with fail;rw [rounds_succ];go_wp2_with fail;refine (F _).mono ?_;rintro e w2 ⟨rfl,a⟩;have z:=(y.alloc _).later a;have o:Bl w w2:=Below.trans (by go_grown) (a.mono (by simp;omega))
 clear y a m t0 t1 t2 t3 t4 f g h i c d j l P;obtain ⟨m,⟨t0,t1,t2,t3,t4⟩,f,g,h,i,c,d,j,l⟩:=id z;go_wp2_with fail;rw [rounds_succ];go_wp2_with fail;have b:=eW 220 (fun k=>k == 2) l8 kt ka na kb nb _ w2 t0 t1 t2 t3 t4
 rw [u] at b;refine b.mono ?_;rintro e w3 ⟨rfl,a⟩;have A:=z.later a;have q:Bl w w3:=Below.trans o (a.mono (by omega))
 clear z a m t0 t1 t2 t3 t4 f g h i c d j l o b;obtain ⟨m,x,f,g,h,i,c,d,j,l⟩:=id A;clear u;go_wp2_with fail;have n:=O.out ka na kb nb _ w3 x;rw [H] at n;refine n.mono ?_;rintro e w4 ⟨rfl,a⟩;have B:=A.later a;have s:Bl w w4:=Below.trans q (a.mono (by omega))
 clear A a m x f g h i c d j l q n;obtain ⟨m,x,f,g,h,i,c,d,j,l⟩:=id B;go_wp2_with fail;refine (N.out _).mono ?_;rintro e w5 ⟨rfl,a⟩;have M:=B.later a;have Q:Bl w w5:=Below.trans s (a.mono (by omega))
 clear B a m x f g h i c d j l s;obtain ⟨m,x,f,g,h,i,c,d,j,l⟩:=id M;go_wp2_with fail;refine bodyPost_ret (v:=.tuple #[.agg #[.int .i64 r.1,.int .i64 r.2],.nilIface]) (by simp [results,Tryz.results178,go_sem,c,d]) rfl ⟨rfl,?_⟩
 go_grown
end Go.Proofs.YtompdcaikmekkaaGreatDoor
