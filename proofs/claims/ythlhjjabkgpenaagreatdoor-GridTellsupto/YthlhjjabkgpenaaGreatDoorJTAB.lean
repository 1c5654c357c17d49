/- What the small functio -/
import Derived.Test.YthlhjjabkgpenaaGreatDoorJTAA
import Derived.Test.YthlhjjabkgpenaaGreatDoorProg
import Derived.WalkKit
import Derived.ProofKit
import Derived.OpenShut
import Derived.Handy
import Derived.Outline
namespace Go.Proofs.YthlhjjabkgpenaaGreatDoor
open ChangeShapes WideShapes ChangeAt RowKit
set_option maxRecDepth 99999
set_option maxHeartbeats 0
def eO (n:Int):Int×Int:=if -1000000000000≤n∧n≤1000000000000 then (1,n) else (2,0)
theorem oj {n:Int} (a : -1000000000000≤n) (b:n≤1000000000000):eO n=(1,n):=by unfold eO;rw [if_pos ⟨a,b⟩]
theorem jn {n:Int} (h:n < -1000000000000∨1000000000000<n):eO n=(2,0):=by unfold eO;rw [if_neg (by omega)]
theorem kg (n:Int) (w:World):Rt 94 #[.int .i64 n] w (.agg #[.int .i64 (eO n).1,.int .i64 (eO n).2]):=by
 by_cases h1 : -1000000000000≤n
 ·by_cases a:n≤1000000000000
  ·rw [oj h1 a]
   go_enter Tryz.func94,Tryz.ntmps94
   go_wp2;go_returns;exact ⟨rfl,by go_grown⟩
  rw [jn (by omega)]
  go_enter Tryz.func94,Tryz.ntmps94
  go_wp2;go_returns;exact ⟨rfl,by go_grown⟩
 rw [jn (by omega)]
 go_enter Tryz.func94,Tryz.ntmps94
 go_wp2;go_returns;exact ⟨rfl,by go_grown⟩
def good (k n:Int):Bool:=decide ((k=1∧-1000000000000≤n∧n≤1000000000000)∨((k=0∨k=2)∧n=0))
theorem ld (k n:Int) (w:World):Rt 38 #[.agg #[.int .i64 k,.int .i64 n]] w (if good k n=true then .nilIface else .iface 68 (.int .i64 1)):=by
 by_cases a:k=1
 ·subst a
  by_cases h1 : -1000000000000≤n
  ·by_cases g:n≤1000000000000
   ·rw [if_pos (by simp [good];omega)]
    go_enter Tryz.func38,Tryz.ntmps38
    go_wp2;go_returns;exact ⟨rfl,by go_grown⟩
   rw [if_neg (by simp [good];omega)]
   go_enter Tryz.func38,Tryz.ntmps38
   go_wp2;go_returns;exact ⟨rfl,by go_grown⟩
  rw [if_neg (by simp [good];omega)]
  go_enter Tryz.func38,Tryz.ntmps38
  go_wp2;go_returns;exact ⟨rfl,by go_grown⟩
 by_cases b:k=0∨k=2
 ·by_cases f:n=0
  ·rw [if_pos (by simp [good];omega)]
   subst f
   rcases b with rfl | rfl
   all_goals
    go_enter Tryz.func38,Tryz.ntmps38
    go_wp2;go_returns;exact ⟨rfl,by go_grown⟩
  rw [if_neg (by simp [good];omega)]
  rcases b with rfl | rfl
  all_goals
   go_enter Tryz.func38,Tryz.ntmps38
   go_wp2;go_returns;exact ⟨rfl,by go_grown⟩
 have c:(k == 0)=false:=by simp;omega
 have d:(k == 2)=false:=by simp;omega
 have e:(k == 1)=false:=by simp;omega
 rw [if_neg (by simp [good];omega)]
 clear b a
 go_enter Tryz.func38,Tryz.ntmps38
 go_wp2;go_returns;exact ⟨rfl,by go_grown⟩
theorem cB {W w1:World} (a:Bl W w1):(∀ b o,b<W.heap.size→w1.cell? ⟨b,o,none⟩=W.cell? ⟨b,o,none⟩)∧(∀ b o,b<W.heap.size→w1.frozen? ⟨b,o,none⟩=W.frozen? ⟨b,o,none⟩) :=
 ⟨fun b o h=>a.cell (p:=⟨b,o,none⟩) h,fun b o h=>a.frozen (p:=⟨b,o,none⟩) h⟩
def dv (fn:Nat):Prop := ∀ (args:Array Value) (w:World),(callFunc fn args).run Tryz.prog w=.ok (.enter fn args) w
def CN (fn:Nat) (p:Int→Bool):Prop := ∀ (k n:Int) (w:World),Calls Tryz.prog fn #[.agg #[.int .i64 k,.int .i64 n]] w fun e w'=>e=.returned (.bool (p k))∧Bl w w'
theorem AG (g:Nat) (p:Int→Bool) (k:dv g) (j:CN g p) (ka na kb nb:Int) (b:Nat) (w:World) (c:b<w.heap.size)
  (l:w.cell? ⟨b,0,none⟩=some (.int .i64 ka)) (m:w.cell? ⟨b,1,none⟩=some (.int .i64 na)) (h:w.cell? ⟨b,2,none⟩=some (.int .i64 kb)) (i:w.cell? ⟨b,3,none⟩=some (.int .i64 nb)) :
  Rt 277 #[.slice (some ⟨b,0,none⟩) 2 2,.func (.func g) #[] #[]] w (.int .i64 (if p ka then 0 else if p kb then 1 else -1)):=by
 have f:=aa j;clear j;unfold dv at k;cases hpa:p ka
 ·cases hpb:p kb
  ·go_enter Tryz.func277,Tryz.ntmps277
   go_wp2;refine wp_loop_rounds 3 ?_;rw [rounds_succ];go_wp2_with fail;refine (f.out ka na _).mono ?_;rintro e w1 ⟨rfl,a⟩;rw [hpa];have c2:w1.cell? ⟨b,2,none⟩=some (.int .i64 kb):=by rw [a.cell (p:=⟨b,2,none⟩) c];exact h
   have c3:w1.cell? ⟨b,3,none⟩=some (.int .i64 nb):=by rw [a.cell (p:=⟨b,3,none⟩) c];exact i
   go_wp2_with fail;rw [rounds_succ];go_wp2_with fail;refine (f.out kb nb _).mono ?_;rintro e w2 ⟨rfl,d⟩;rw [hpb];go_wp2_with fail;rw [rounds_succ];go_wp2;go_ret;exact ⟨by simp,a.trans (d.mono a.size)⟩
  go_enter Tryz.func277,Tryz.ntmps277
  go_wp2;refine wp_loop_rounds 3 ?_;rw [rounds_succ];go_wp2_with fail;refine (f.out ka na _).mono ?_;rintro e w1 ⟨rfl,a⟩;rw [hpa];have c2:w1.cell? ⟨b,2,none⟩=some (.int .i64 kb):=by rw [a.cell (p:=⟨b,2,none⟩) c];exact h
  have c3:w1.cell? ⟨b,3,none⟩=some (.int .i64 nb):=by rw [a.cell (p:=⟨b,3,none⟩) c];exact i
  go_wp2_with fail;rw [rounds_succ];go_wp2_with fail;refine (f.out kb nb _).mono ?_;rintro e w2 ⟨rfl,d⟩;rw [hpb];go_wp2;go_ret;exact ⟨by simp,a.trans (d.mono a.size)⟩
 go_enter Tryz.func277,Tryz.ntmps277
 go_wp2;refine wp_loop_rounds 3 ?_;rw [rounds_succ];go_wp2_with fail;refine (f.out ka na _).mono ?_;rintro e w1 ⟨rfl,a⟩;rw [hpa];go_wp2;go_ret;exact ⟨by simp,a⟩
theorem eC (a:Nat) (p:Int→Bool) (i:dv a) (j:CN a p) (ka na kb nb:Int) (b:Nat) (w:World) (c:b<w.heap.size)
  (d:w.cell? ⟨b,0,none⟩=some (.int .i64 ka)) (f:w.cell? ⟨b,1,none⟩=some (.int .i64 na)) (g:w.cell? ⟨b,2,none⟩=some (.int .i64 kb)) (h:w.cell? ⟨b,3,none⟩=some (.int .i64 nb)) :
  Rt 225 #[.slice (some ⟨b,0,none⟩) 2 2,.func (.func a) #[] #[]] w (.bool (p ka || p kb)):=by
 have k:=AG a p i j ka na kb nb b w c d f g h;clear d f g h i j;cases hpa:p ka <;> cases hpb:p kb
 all_goals
  simp only [hpa,hpb,Bool.false_eq_true,if_true,if_false] at k
  go_enter Tryz.func225,Tryz.ntmps225
  go_wp2_with (first | (go_at_call 255;go_in) | (go_at_call 277;refine k.mono ?_;rintro e w' ⟨rfl,l⟩))
  go_ret;exact ⟨by simp,by assumption⟩
theorem j8:CN 226 (fun k=>k == 2):=by
 intro k n w
 go_enter Tryz.func226,Tryz.ntmps226
 go_wp2;go_ret;exact ⟨rfl,by go_grown⟩
theorem lk:dv 226:=fun args w=>by simp [callFunc,Tryz.func226];rfl
theorem Cn:CN 227 (fun k=>k != 0):=by
 intro k n w
 go_enter Tryz.func227,Tryz.ntmps227
 go_wp2;go_ret;exact ⟨rfl,by go_grown⟩
theorem vA:CN 275 (fun k=>k == 0):=by
 intro k n w
 go_enter Tryz.func275,Tryz.ntmps275
 go_wp2;go_ret;exact ⟨rfl,by go_grown⟩
theorem Fh:dv 227:=fun args w=>by simp [callFunc,Tryz.func227];rfl
theorem zQ:dv 275:=fun args w=>by simp [callFunc,Tryz.func275];rfl
theorem yk:dv 185:=fun args w=>by simp [callFunc,Tryz.func185];rfl
theorem Et:dv 252:=fun args w=>by simp [callFunc,Tryz.func252];rfl
theorem GD:dv 187:=fun args w=>by simp [callFunc,Tryz.func187];rfl
theorem DX:dv 186:=fun args w=>by simp [callFunc,Tryz.func186];rfl
theorem wX:dv 253:=fun args w=>by simp [callFunc,Tryz.func253];rfl
theorem uy:dv 254:=fun args w=>by simp [callFunc,Tryz.func254];rfl
def K5 (ka na kb nb:Int) (b:Nat) (w:World):Prop:=b<w.heap.size∧w.cell? ⟨b,0,none⟩=some (.int .i64 ka)∧w.cell? ⟨b,1,none⟩=some (.int .i64 na)∧w.cell? ⟨b,2,none⟩=some (.int .i64 kb)∧w.cell? ⟨b,3,none⟩=some (.int .i64 nb)
def su (fn:Nat) (p:Int→Int→Bool):Prop := ∀ (ka na kb nb:Int) (b:Nat) (w:World),K5 ka na kb nb b w→Calls Tryz.prog fn #[.slice (some ⟨b,0,none⟩) 2 2] w fun e w'=>e=.returned (.bool (p ka kb))∧Bl w w'
theorem sJ:su 185 (fun ka kb => !(ka != 0 || kb != 0)):=by
 intro ka na kb nb b w h;obtain ⟨a,c,d,f,g⟩:=h;have i:=eC 227 (fun k=>k != 0) Fh Cn ka na kb nb b w a c d f g
 clear c d f g
 dsimp only
 generalize (ka != 0 || kb != 0)=v at i ⊢;cases v
 all_goals
  go_enter Tryz.func185,Tryz.ntmps185
  go_wp2_with (go_at_call 225;refine i.mono ?_;rintro e w' ⟨rfl,j⟩)
  go_ret;exact ⟨by simp,by assumption⟩
theorem yU:su 252 (fun ka kb=>(ka == 0 || kb == 0)):=by
 intro ka na kb nb b w h;obtain ⟨a,c,d,f,g⟩:=h;have i:=eC 275 (fun k=>k == 0) zQ vA ka na kb nb b w a c d f g
 clear c d f g
 dsimp only
 generalize (ka == 0 || kb == 0)=v at i ⊢;cases v
 all_goals
  go_enter Tryz.func252,Tryz.ntmps252
  go_wp2_with (go_at_call 225;refine i.mono ?_;rintro e w' ⟨rfl,j⟩)
  go_ret;exact ⟨by simp,by assumption⟩
end Go.Proofs.YthlhjjabkgpenaaGreatDoor
