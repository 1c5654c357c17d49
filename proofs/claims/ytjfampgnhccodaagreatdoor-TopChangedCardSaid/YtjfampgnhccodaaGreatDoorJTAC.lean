/- Whether anything of a -/
import Derived.Test.YtjfampgnhccodaaGreatDoorJTAA
namespace Go.Proofs.YtjfampgnhccodaaGreatDoor
open Tryz ChangeShapes WideShapes ChangeAt RowKit
set_option maxRecDepth 99999
set_option maxHeartbeats 0
theorem fk{W w1:World}(a:Bl W w1):(∀b o,b<W.heap.size->w1.cell? ⟨b,o,none⟩=W.cell? ⟨b,o,none⟩)/\(∀b o,b<W.heap.size->w1.frozen? ⟨b,o,none⟩=W.frozen? ⟨b,o,none⟩):=
 ⟨fun b o h=>a.cell (p:=⟨b,o,none⟩) h,fun b o h=>a.frozen (p:=⟨b,o,none⟩) h⟩
def dF(fn:Nat):Prop := ∀(args:Array Value) (w:World),(callFunc fn args).run prog w=.ok (.enter fn args) w
def GI(fn:Nat)(p:Int->Bool):Prop := ∀(k n:Int) (w:World),Calls prog fn #[.agg #[.int .i64 k,.int .i64 n]] w fun e w'=>e=.returned (.bool (p k))/\Bl w w'
theorem E0(i:Nat)(p:Int->Bool)(m:dF i)(l:GI i p)(g na f nb:Int)(b:Nat)(w:World)(c:b<w.heap.size)
  (n:w.cell? ⟨b,0,none⟩=some (.int .i64 g)) (o:w.cell? ⟨b,1,none⟩=some (.int .i64 na)) (j:w.cell? ⟨b,2,none⟩=some (.int .i64 f)) (k:w.cell? ⟨b,3,none⟩=some (.int .i64 nb)):
  Rt 319 #[.slice (some ⟨b,0,none⟩) 2 2,.func (.func i) #[] #[]] w (.int .i64 (if p g then 0 else if p f then 1 else -1)):=by
 have h:=aa l;clear l;unfold dF at m;cases hpa:p g
 ·cases hpb:p f
  ·go_enter func319,ntmps319
   go_wp2;refine wp_loop_rounds 3 ?_;rw[rounds_succ];go_wp2_with fail;refine(h.o g na _).mono ?_;rintro e w1⟨rfl,a⟩;rw[hpa];have c2:w1.cell? ⟨b,2,none⟩=some (.int .i64 f):=by rw[a.cell (p:=⟨b,2,none⟩) c];exact j
   have c3:w1.cell? ⟨b,3,none⟩=some (.int .i64 nb):=by rw[a.cell (p:=⟨b,3,none⟩) c];exact k
   go_wp2_with fail;rw[rounds_succ];go_wp2_with fail;refine(h.o f nb _).mono ?_;rintro e w2⟨rfl,d⟩;rw[hpb];go_wp2_with fail;rw[rounds_succ];go_wp2;go_ret;exact⟨by simp,a.trans (d.mono a.size)⟩
  go_enter func319,ntmps319
  go_wp2;refine wp_loop_rounds 3 ?_;rw[rounds_succ];go_wp2_with fail;refine(h.o g na _).mono ?_;rintro e w1⟨rfl,a⟩;rw[hpa];have c2:w1.cell? ⟨b,2,none⟩=some (.int .i64 f):=by rw[a.cell (p:=⟨b,2,none⟩) c];exact j
  have c3:w1.cell? ⟨b,3,none⟩=some (.int .i64 nb):=by rw[a.cell (p:=⟨b,3,none⟩) c];exact k
  go_wp2_with fail;rw[rounds_succ];go_wp2_with fail;refine(h.o f nb _).mono ?_;rintro e w2⟨rfl,d⟩;rw[hpb];go_wp2;go_ret;exact⟨by simp,a.trans (d.mono a.size)⟩
 go_enter func319,ntmps319
 go_wp2;refine wp_loop_rounds 3 ?_;rw[rounds_succ];go_wp2_with fail;refine(h.o g na _).mono ?_;rintro e w1⟨rfl,a⟩;rw[hpa];go_wp2;go_ret;exact⟨by simp,a⟩
theorem eX(a:Nat)(p:Int->Bool)(k:dF a)(l:GI a p)(c na d nb:Int)(b:Nat)(w:World)(f:b<w.heap.size)
  (g:w.cell? ⟨b,0,none⟩=some (.int .i64 c)) (h:w.cell? ⟨b,1,none⟩=some (.int .i64 na)) (i:w.cell? ⟨b,2,none⟩=some (.int .i64 d)) (j:w.cell? ⟨b,3,none⟩=some (.int .i64 nb)):
  Rt 264 #[.slice (some ⟨b,0,none⟩) 2 2,.func (.func a) #[] #[]] w (.bool (p c||p d)):=by
 have m:=E0 a p k l c na d nb b w f g h i j;clear g h i j k l;cases hpa:p c<;>cases hpb:p d
 all_goals
  simp only[hpa,hpb,Bool.false_eq_true,if_true,if_false]at m
  go_enter func264,ntmps264
  go_wp2_with (first|(go_at_call 291;go_in)|(go_at_call 319;refine m.mono ?_;rintro e w'⟨rfl,n⟩))
  go_ret;exact⟨by simp,by assumption⟩
theorem kZ:GI 265 (fun k=>k == 2):=by
 intro k n w
 go_enter func265,ntmps265
 go_wp2;go_ret;exact⟨rfl,by go_grown⟩
theorem mW:dF 265:=fun args w=>by simp[callFunc,func265];rfl
theorem Gd:GI 266 (fun k=>k != 0):=by
 intro k n w
 go_enter func266,ntmps266
 go_wp2;go_ret;exact⟨rfl,by go_grown⟩
theorem zG:GI 317 (fun k=>k == 0):=by
 intro k n w
 go_enter func317,ntmps317
 go_wp2;go_ret;exact⟨rfl,by go_grown⟩
theorem J9:dF 266:=fun args w=>by simp[callFunc,func266];rfl
theorem ED:dF 317:=fun args w=>by simp[callFunc,func317];rfl
theorem CV:dF 216:=fun args w=>by simp[callFunc,func216];rfl
theorem Jd:dF 288:=fun args w=>by simp[callFunc,func288];rfl
theorem Mf:dF 218:=fun args w=>by simp[callFunc,func218];rfl
theorem IU:dF 217:=fun args w=>by simp[callFunc,func217];rfl
theorem BM:dF 289:=fun args w=>by simp[callFunc,func289];rfl
theorem yj:dF 290:=fun args w=>by simp[callFunc,func290];rfl
def Pa(ka na kb nb:Int)(b:Nat)(w:World):Prop:=b<w.heap.size/\w.cell? ⟨b,0,none⟩=some (.int .i64 ka)/\w.cell? ⟨b,1,none⟩=some (.int .i64 na)/\w.cell? ⟨b,2,none⟩=some (.int .i64 kb)/\w.cell? ⟨b,3,none⟩=some (.int .i64 nb)
def vx(fn:Nat)(p:Int->Int->Bool):Prop := ∀(ka na kb nb:Int) (b:Nat) (w:World),Pa ka na kb nb b w->Calls prog fn #[.slice (some ⟨b,0,none⟩) 2 2] w fun e w'=>e=.returned (.bool (p ka kb))/\Bl w w'
theorem vL:vx 216 (fun a c => !(a != 0||c != 0)):=by
 intro a na c nb b w h;obtain⟨d,f,g,i,j⟩:=h;have l:=eX 266 (fun k=>k != 0) J9 Gd a na c nb b w d f g i j
 clear f g i j
 dsimp only
 generalize (a != 0||c != 0)=v at l|-;cases v
 all_goals
  go_enter func216,ntmps216
  go_wp2_with (go_at_call 264;refine l.mono ?_;rintro e w'⟨rfl,m⟩)
  go_ret;exact⟨by simp,by assumption⟩
theorem Dw:vx 288 (fun a c=>(a == 0||c == 0)):=by
 intro a na c nb b w h;obtain⟨d,f,g,i,j⟩:=h;have l:=eX 317 (fun k=>k == 0) ED zG a na c nb b w d f g i j
 clear f g i j
 dsimp only
 generalize (a == 0||c == 0)=v at l|-;cases v
 all_goals
  go_enter func288,ntmps288
  go_wp2_with (go_at_call 264;refine l.mono ?_;rintro e w'⟨rfl,m⟩)
  go_ret;exact⟨by simp,by assumption⟩
end Go.Proofs.YtjfampgnhccodaaGreatDoor
