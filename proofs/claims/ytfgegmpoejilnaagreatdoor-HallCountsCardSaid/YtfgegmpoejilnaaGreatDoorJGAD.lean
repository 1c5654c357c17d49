/-
  Whether anything of a list of two cells is so: slices.IndexFunc, slices.ContainsFunc, anyOf at any predicate that is told by a contract; bothEmpty, oneEmpty, and the closures that they ask.
-/
import Derived.Test.YtfgegmpoejilnaaGreatDoorJGAC
namespace Go.Proofs.YtfgegmpoejilnaaGreatDoor
open Go.ChangeShapes Go.WideShapes Go.ChangeAt Go.RowKit
theorem bcell {W w1:World} (hb:Below W.heap.size W w1):(∀ b o,b<W.heap.size→w1.cell? ⟨b,o,none⟩=W.cell? ⟨b,o,none⟩)∧(∀ b o,b<W.heap.size→w1.frozen? ⟨b,o,none⟩=W.frozen? ⟨b,o,none⟩) :=
 ⟨fun b o h=>hb.cell (p:=⟨b,o,none⟩) h,fun b o h=>hb.frozen (p:=⟨b,o,none⟩) h⟩
def Enters (fn:Nat):Prop := ∀ (args:Array Value) (w:World),(callFunc fn args).run Tryz.prog w=.ok (.enter fn args) w
def Pred (fn:Nat) (p:Int→Bool):Prop := ∀ (k n:Int) (w:World),Calls Tryz.prog fn #[.agg #[.int .i64 k,.int .i64 n]] w fun e w'=>e=.returned (.bool (p k))∧Below w.heap.size w w'
theorem index_any (fn:Nat) (p:Int→Bool) (he:Enters fn) (hf:Pred fn p) (ka na kb nb:Int) (b:Nat) (w:World) (hb0:b<w.heap.size)
  (h0:w.cell? ⟨b,0,none⟩=some (.int .i64 ka)) (h1:w.cell? ⟨b,1,none⟩=some (.int .i64 na)) (h2:w.cell? ⟨b,2,none⟩=some (.int .i64 kb)) (h3:w.cell? ⟨b,3,none⟩=some (.int .i64 nb)) :
  Calls Tryz.prog 239 #[.slice (some ⟨b,0,none⟩) 2 2,.func (.func fn) #[] #[]] w fun e w'=>e=.returned (.int .i64 (if p ka then 0 else if p kb then 1 else -1))∧Below w.heap.size w w':=by
 have HF:Hid (Pred fn p):=hf
 clear hf
 unfold Enters at he
 cases hpa:p ka
 ·cases hpb:p kb
  ·go_enter Tryz.func239,Tryz.ntmps239
   go_wp2
   refine wp_loop_rounds 3 ?_
   rw [rounds_succ]
   go_wp2_with fail
   refine (HF.out ka na _).mono ?_
   rintro e w1 ⟨rfl,hb1⟩
   rw [hpa]
   have c2:w1.cell? ⟨b,2,none⟩=some (.int .i64 kb):=by rw [hb1.cell (p:=⟨b,2,none⟩) hb0];exact h2
   have c3:w1.cell? ⟨b,3,none⟩=some (.int .i64 nb):=by rw [hb1.cell (p:=⟨b,3,none⟩) hb0];exact h3
   go_wp2_with fail
   rw [rounds_succ]
   go_wp2_with fail
   refine (HF.out kb nb _).mono ?_
   rintro e w2 ⟨rfl,hb2⟩
   rw [hpb]
   go_wp2_with fail
   rw [rounds_succ]
   go_wp2
   go_ret
   exact ⟨by simp,hb1.trans (hb2.mono hb1.size)⟩
  ·go_enter Tryz.func239,Tryz.ntmps239
   go_wp2
   refine wp_loop_rounds 3 ?_
   rw [rounds_succ]
   go_wp2_with fail
   refine (HF.out ka na _).mono ?_
   rintro e w1 ⟨rfl,hb1⟩
   rw [hpa]
   have c2:w1.cell? ⟨b,2,none⟩=some (.int .i64 kb):=by rw [hb1.cell (p:=⟨b,2,none⟩) hb0];exact h2
   have c3:w1.cell? ⟨b,3,none⟩=some (.int .i64 nb):=by rw [hb1.cell (p:=⟨b,3,none⟩) hb0];exact h3
   go_wp2_with fail
   rw [rounds_succ]
   go_wp2_with fail
   refine (HF.out kb nb _).mono ?_
   rintro e w2 ⟨rfl,hb2⟩
   rw [hpb]
   go_wp2
   go_ret
   exact ⟨by simp,hb1.trans (hb2.mono hb1.size)⟩
 ·go_enter Tryz.func239,Tryz.ntmps239
  go_wp2
  refine wp_loop_rounds 3 ?_
  rw [rounds_succ]
  go_wp2_with fail
  refine (HF.out ka na _).mono ?_
  rintro e w1 ⟨rfl,hb1⟩
  rw [hpa]
  go_wp2
  go_ret
  exact ⟨by simp,hb1⟩
theorem contains_any (fn:Nat) (p:Int→Bool) (he:Enters fn) (hf:Pred fn p) (ka na kb nb:Int) (b:Nat) (w:World) (hb0:b<w.heap.size)
  (h0:w.cell? ⟨b,0,none⟩=some (.int .i64 ka)) (h1:w.cell? ⟨b,1,none⟩=some (.int .i64 na)) (h2:w.cell? ⟨b,2,none⟩=some (.int .i64 kb)) (h3:w.cell? ⟨b,3,none⟩=some (.int .i64 nb)) :
  Calls Tryz.prog 194 #[.slice (some ⟨b,0,none⟩) 2 2,.func (.func fn) #[] #[]] w fun e w'=>e=.returned (.bool (p ka || p kb))∧Below w.heap.size w w':=by
 have hi:=index_any fn p he hf ka na kb nb b w hb0 h0 h1 h2 h3
 clear h0 h1 h2 h3 he hf
 cases hpa:p ka <;> cases hpb:p kb
 all_goals
  simp only [hpa,hpb,Bool.false_eq_true,if_true,if_false] at hi
  go_enter Tryz.func194,Tryz.ntmps194
  go_wp2_with (first | (go_at_call 218;go_in) | (go_at_call 239;refine hi.mono ?_;rintro e w' ⟨rfl,hb⟩))
  go_ret
  exact ⟨by simp,by assumption⟩
theorem fault1_any:Pred 195 (fun k=>k == 2):=by
 intro k n w
 go_enter Tryz.func195,Tryz.ntmps195
 go_wp2
 go_ret
 exact ⟨rfl,by go_grown⟩
theorem fault1_in:Enters 195:=fun args w=>by simp [callFunc,Tryz.func195];rfl
theorem some1_any:Pred 196 (fun k=>k != 0):=by
 intro k n w
 go_enter Tryz.func196,Tryz.ntmps196
 go_wp2
 go_ret
 exact ⟨rfl,by go_grown⟩
theorem empty1_any:Pred 237 (fun k=>k == 0):=by
 intro k n w
 go_enter Tryz.func237,Tryz.ntmps237
 go_wp2
 go_ret
 exact ⟨rfl,by go_grown⟩
theorem some1_in:Enters 196:=fun args w=>by simp [callFunc,Tryz.func196];rfl
theorem empty1_in:Enters 237:=fun args w=>by simp [callFunc,Tryz.func237];rfl
theorem both_in:Enters 160:=fun args w=>by simp [callFunc,Tryz.func160];rfl
theorem one_in:Enters 215:=fun args w=>by simp [callFunc,Tryz.func215];rfl
theorem plus_in:Enters 162:=fun args w=>by simp [callFunc,Tryz.func162];rfl
theorem minus_in:Enters 161:=fun args w=>by simp [callFunc,Tryz.func161];rfl
theorem product_in:Enters 216:=fun args w=>by simp [callFunc,Tryz.func216];rfl
theorem quotient_in:Enters 217:=fun args w=>by simp [callFunc,Tryz.func217];rfl
def Two (ka na kb nb:Int) (b:Nat) (w:World):Prop:=b<w.heap.size∧w.cell? ⟨b,0,none⟩=some (.int .i64 ka)∧w.cell? ⟨b,1,none⟩=some (.int .i64 na)∧w.cell? ⟨b,2,none⟩=some (.int .i64 kb)∧w.cell? ⟨b,3,none⟩=some (.int .i64 nb)
def Blank (fn:Nat) (p:Int→Int→Bool):Prop := ∀ (ka na kb nb:Int) (b:Nat) (w:World),Two ka na kb nb b w→Calls Tryz.prog fn #[.slice (some ⟨b,0,none⟩) 2 2] w fun e w'=>e=.returned (.bool (p ka kb))∧Below w.heap.size w w'
theorem both_any:Blank 160 (fun ka kb => !(ka != 0 || kb != 0)):=by
 intro ka na kb nb b w h
 obtain ⟨hb0,h0,h1,h2,h3⟩:=h
 have hi:=contains_any 196 (fun k=>k != 0) some1_in some1_any ka na kb nb b w hb0 h0 h1 h2 h3
 clear h0 h1 h2 h3
 dsimp only
 generalize (ka != 0 || kb != 0)=v at hi ⊢
 cases v
 all_goals
  go_enter Tryz.func160,Tryz.ntmps160
  go_wp2_with (go_at_call 194;refine hi.mono ?_;rintro e w' ⟨rfl,hb⟩)
  go_ret
  exact ⟨by simp,by assumption⟩
theorem one_any:Blank 215 (fun ka kb=>(ka == 0 || kb == 0)):=by
 intro ka na kb nb b w h
 obtain ⟨hb0,h0,h1,h2,h3⟩:=h
 have hi:=contains_any 237 (fun k=>k == 0) empty1_in empty1_any ka na kb nb b w hb0 h0 h1 h2 h3
 clear h0 h1 h2 h3
 dsimp only
 generalize (ka == 0 || kb == 0)=v at hi ⊢
 cases v
 all_goals
  go_enter Tryz.func215,Tryz.ntmps215
  go_wp2_with (go_at_call 194;refine hi.mono ?_;rintro e w' ⟨rfl,hb⟩)
  go_ret
  exact ⟨by simp,by assumption⟩
end Go.Proofs.YtfgegmpoejilnaaGreatDoor
