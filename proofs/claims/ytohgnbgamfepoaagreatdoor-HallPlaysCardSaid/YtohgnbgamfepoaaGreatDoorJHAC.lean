/- Whether anything of a -/
import Derived.Test.YtohgnbgamfepoaaGreatDoorJHAA
namespace Go.Proofs.YtohgnbgamfepoaaGreatDoor
open ChangeShapes WideShapes ChangeAt RowKit
set_option maxRecDepth 99999
set_option maxHeartbeats 0
theorem dk {W w1:World} (a:Bl W w1):(∀ b o,b<W.heap.size→w1.cell? ⟨b,o,none⟩=W.cell? ⟨b,o,none⟩)∧(∀ b o,b<W.heap.size→w1.frozen? ⟨b,o,none⟩=W.frozen? ⟨b,o,none⟩) :=
 ⟨fun b o h=>a.cell (p:=⟨b,o,none⟩) h,fun b o h=>a.frozen (p:=⟨b,o,none⟩) h⟩
def dC (fn:Nat):Prop := ∀ (args:Array Value) (w:World),(callFunc fn args).run Tryz.prog w=.ok (.enter fn args) w
def Eb (fn:Nat) (p:Int→Bool):Prop := ∀ (k n:Int) (w:World),Calls Tryz.prog fn #[.agg #[.int .i64 k,.int .i64 n]] w fun e w'=>e=.returned (.bool (p k))∧Bl w w'
theorem Cl (g:Nat) (p:Int→Bool) (k:dC g) (j:Eb g p) (ka na kb nb:Int) (b:Nat) (w:World) (c:b<w.heap.size)
  (l:w.cell? ⟨b,0,none⟩=some (.int .i64 ka)) (m:w.cell? ⟨b,1,none⟩=some (.int .i64 na)) (h:w.cell? ⟨b,2,none⟩=some (.int .i64 kb)) (i:w.cell? ⟨b,3,none⟩=some (.int .i64 nb)) :
  Rt 269 #[.slice (some ⟨b,0,none⟩) 2 2,.func (.func g) #[] #[]] w (.int .i64 (if p ka then 0 else if p kb then 1 else -1)):=by
 have f:=aa j;clear j;unfold dC at k;cases hpa:p ka
 ·cases hpb:p kb
  ·go_enter Tryz.func269,Tryz.ntmps269
   go_wp2;refine wp_loop_rounds 3 ?_;rw [rounds_succ];go_wp2_with fail;refine (f.out ka na _).mono ?_;rintro e w1 ⟨rfl,a⟩;rw [hpa];have c2:w1.cell? ⟨b,2,none⟩=some (.int .i64 kb):=by rw [a.cell (p:=⟨b,2,none⟩) c];exact h
   have c3:w1.cell? ⟨b,3,none⟩=some (.int .i64 nb):=by rw [a.cell (p:=⟨b,3,none⟩) c];exact i
   go_wp2_with fail;rw [rounds_succ];go_wp2_with fail;refine (f.out kb nb _).mono ?_;rintro e w2 ⟨rfl,d⟩;rw [hpb];go_wp2_with fail;rw [rounds_succ];go_wp2;go_ret;exact ⟨by simp,a.trans (d.mono a.size)⟩
  go_enter Tryz.func269,Tryz.ntmps269
  go_wp2;refine wp_loop_rounds 3 ?_;rw [rounds_succ];go_wp2_with fail;refine (f.out ka na _).mono ?_;rintro e w1 ⟨rfl,a⟩;rw [hpa];have c2:w1.cell? ⟨b,2,none⟩=some (.int .i64 kb):=by rw [a.cell (p:=⟨b,2,none⟩) c];exact h
  have c3:w1.cell? ⟨b,3,none⟩=some (.int .i64 nb):=by rw [a.cell (p:=⟨b,3,none⟩) c];exact i
  go_wp2_with fail;rw [rounds_succ];go_wp2_with fail;refine (f.out kb nb _).mono ?_;rintro e w2 ⟨rfl,d⟩;rw [hpb];go_wp2;go_ret;exact ⟨by simp,a.trans (d.mono a.size)⟩
 go_enter Tryz.func269,Tryz.ntmps269
 go_wp2;refine wp_loop_rounds 3 ?_;rw [rounds_succ];go_wp2_with fail;refine (f.out ka na _).mono ?_;rintro e w1 ⟨rfl,a⟩;rw [hpa];go_wp2;go_ret;exact ⟨by simp,a⟩
theorem e8 (a:Nat) (p:Int→Bool) (i:dC a) (j:Eb a p) (ka na kb nb:Int) (b:Nat) (w:World) (c:b<w.heap.size)
  (d:w.cell? ⟨b,0,none⟩=some (.int .i64 ka)) (f:w.cell? ⟨b,1,none⟩=some (.int .i64 na)) (g:w.cell? ⟨b,2,none⟩=some (.int .i64 kb)) (h:w.cell? ⟨b,3,none⟩=some (.int .i64 nb)) :
  Rt 220 #[.slice (some ⟨b,0,none⟩) 2 2,.func (.func a) #[] #[]] w (.bool (p ka || p kb)):=by
 have k:=Cl a p i j ka na kb nb b w c d f g h;clear d f g h i j;cases hpa:p ka <;> cases hpb:p kb
 all_goals
  simp only [hpa,hpb,Bool.false_eq_true,if_true,if_false] at k
  go_enter Tryz.func220,Tryz.ntmps220
  go_wp2_with (first | (go_at_call 248;go_in) | (go_at_call 269;refine k.mono ?_;rintro e w' ⟨rfl,l⟩))
  go_ret;exact ⟨by simp,by assumption⟩
theorem kz:Eb 221 (fun k=>k == 2):=by
 intro k n w
 go_enter Tryz.func221,Tryz.ntmps221
 go_wp2;go_ret;exact ⟨rfl,by go_grown⟩
theorem mj:dC 221:=fun args w=>by simp [callFunc,Tryz.func221];rfl
theorem DI:Eb 222 (fun k=>k != 0):=by
 intro k n w
 go_enter Tryz.func222,Tryz.ntmps222
 go_wp2;go_ret;exact ⟨rfl,by go_grown⟩
theorem wV:Eb 267 (fun k=>k == 0):=by
 intro k n w
 go_enter Tryz.func267,Tryz.ntmps267
 go_wp2;go_ret;exact ⟨rfl,by go_grown⟩
theorem Gw:dC 222:=fun args w=>by simp [callFunc,Tryz.func222];rfl
theorem B3:dC 267:=fun args w=>by simp [callFunc,Tryz.func267];rfl
theorem zI:dC 181:=fun args w=>by simp [callFunc,Tryz.func181];rfl
theorem FN:dC 245:=fun args w=>by simp [callFunc,Tryz.func245];rfl
theorem Ir:dC 183:=fun args w=>by simp [callFunc,Tryz.func183];rfl
theorem Fu:dC 182:=fun args w=>by simp [callFunc,Tryz.func182];rfl
theorem yx:dC 246:=fun args w=>by simp [callFunc,Tryz.func246];rfl
theorem vw:dC 247:=fun args w=>by simp [callFunc,Tryz.func247];rfl
def KE (ka na kb nb:Int) (b:Nat) (w:World):Prop:=b<w.heap.size∧w.cell? ⟨b,0,none⟩=some (.int .i64 ka)∧w.cell? ⟨b,1,none⟩=some (.int .i64 na)∧w.cell? ⟨b,2,none⟩=some (.int .i64 kb)∧w.cell? ⟨b,3,none⟩=some (.int .i64 nb)
def tx (fn:Nat) (p:Int→Int→Bool):Prop := ∀ (ka na kb nb:Int) (b:Nat) (w:World),KE ka na kb nb b w→Calls Tryz.prog fn #[.slice (some ⟨b,0,none⟩) 2 2] w fun e w'=>e=.returned (.bool (p ka kb))∧Bl w w'
theorem tN:tx 181 (fun ka kb => !(ka != 0 || kb != 0)):=by
 intro ka na kb nb b w h;obtain ⟨a,c,d,f,g⟩:=h;have i:=e8 222 (fun k=>k != 0) Gw DI ka na kb nb b w a c d f g
 clear c d f g
 dsimp only
 generalize (ka != 0 || kb != 0)=v at i ⊢;cases v
 all_goals
  go_enter Tryz.func181,Tryz.ntmps181
  go_wp2_with (go_at_call 220;refine i.mono ?_;rintro e w' ⟨rfl,j⟩)
  go_ret;exact ⟨by simp,by assumption⟩
theorem AV:tx 245 (fun ka kb=>(ka == 0 || kb == 0)):=by
 intro ka na kb nb b w h;obtain ⟨a,c,d,f,g⟩:=h;have i:=e8 267 (fun k=>k == 0) B3 wV ka na kb nb b w a c d f g
 clear c d f g
 dsimp only
 generalize (ka == 0 || kb == 0)=v at i ⊢;cases v
 all_goals
  go_enter Tryz.func245,Tryz.ntmps245
  go_wp2_with (go_at_call 220;refine i.mono ?_;rintro e w' ⟨rfl,j⟩)
  go_ret;exact ⟨by simp,by assumption⟩
end Go.Proofs.YtohgnbgamfepoaaGreatDoor
