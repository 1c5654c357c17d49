/- What Leaf of package p -/
import Derived.LaidEql
import Derived.Stop.Asserts
import Derived.RowKitTokens
import Derived.Test.YtohgnbgamfepoaaGreatDoorJHAM
namespace Go.Proofs.YtohgnbgamfepoaaGreatDoor
open ChangeShapes WideShapes ChangeAt RowKit Extern.Stop Stop Extern
set_option maxRecDepth 99999
set_option maxHeartbeats 0
def eb (D:Nat→Dm) (L:List Int) (i:Nat):Bool := !leafB (D i).mem (D i).n (L.getD i 0).toNat
def leafV (D:Nat→Dm) (n:Nat) (L:List Int):Bool:=if placeErr D n L=0 then !decide (0≤findFrom (eb D L) n 0) else false
theorem CV:du 154:=fun args w=>by simp [callFunc,Tryz.func154];rfl
theorem yt (b o n cap k q r bp op p X:Nat) (D:Nat→Dm) (A:Nat→Option Addr) (C:Nat→Nat) (w:World) (s:k<n) (E:n≤4) (m:(ay (D k)).2=0) (B:X<(D k).n) (l:dV w b o n D A C) (H:w.cell? ⟨bp,op+k,none⟩=some (.int .i64 X)) (F:w.cell? ⟨q,0,none⟩=some (.slice (some ⟨b,o,none⟩) n cap)) (G:w.cell? ⟨r,0,none⟩=some (.slice (some ⟨bp,op,none⟩) n p)) :
  Rt 154 #[.int .i64 k,.pointer (some ⟨q,0,none⟩),.pointer (some ⟨r,0,none⟩)] w (.bool (!leafB (D k).mem (D k).n X)):=by
 obtain ⟨v,x,z,j⟩:=l.2 k s;have t:(k:Int)<(n:Int):=by omega
 have u:(n:Int)≤4:=by omega
 have a:treeErr (D k) [(X:Int)]=0:=by rw [g9 m,if_neg (by omega)]
 have f:sA (D k) (X:Int)=leafB (D k).mem (D k).n X:=by simp [sA,a]
 have c:Hid (∀ w',Bl w w'→Rt 155 #[.agg #[.string (D k).name,.int .i64 (D k).solve,.slice (A k) (D k).n (C k)],.int .i64 X] w' (.tuple #[.bool (leafB (D k).mem (D k).n X),.nilIface])):=fun w' i=>by
  have h:=rQ (D k) (A k) (C k) X w' (j.later i);rw [a,f,errV_zero] at h;exact h
 generalize leafB (D k).mem (D k).n X=y at c;clear l j a f m
 go_enter Tryz.func154,Tryz.ntmps154
 go_wp2_with fail
 go_region_law ((go_simp;refine (c.out _ (by go_grown)).mono ?_;rintro e w2 ⟨rfl,d⟩;have g:=ae (W0:=w) (by go_grown) d;clear d))
 all_goals go_wp2_with fail
 all_goals go_ret
 all_goals exact ⟨rfl,g⟩
theorem CW (A0:Option Addr) (cap n:Nat) (D:Nat→Dm) (A:Nat→Option Addr) (C:Nat→Nat) (Ap:Option Addr) (q:Nat) (L:List Int) (w:World) (E:aW w A0 cap n D A C) (F:aZ w Ap q L):Rt 127 #[.agg #[.slice A0 n cap],.slice Ap L.length q] w (.tuple #[.bool (leafV D n L),errV (placeErr D n L)]):=by
 have g:=nf w A0 n cap Ap L.length q 24 27;have h:=kJ A0 cap n D A C Ap q L (ko w A0 n cap Ap L.length q 24 27) (E.later g) (F.later g);have f:=aa g;have O:=aa E;have P:=aa F;clear E g F
 by_cases i:placeErr D n L=0
 ·have s:Hid (InO D n L):=fY i
  have HV:Hid (leafV D n L = !decide (0≤findFrom (eb D L) n 0)):=by show _=_;unfold leafV;rw [if_pos i]
  have z:Hid (errV (placeErr D n L)=.nilIface):=by show _=_;rw [i];rfl
  rw [i,errV_zero] at h;obtain ⟨U,x,-,-⟩:=au s.out.right;have T:(n:Int)≤4:=by omega
  have v:=s.out.len;obtain ⟨I,J | ⟨bp,op,rfl,H,d⟩⟩:=P.out
  ·rw [J] at v;simp at v;omega
  rw [v] at h f;rw [v];have N:Hid (∀ j,j<n→w.cell? ⟨bp,op+j,none⟩=some (.int .i64 (L.getD j 0))):=fun j r=>d j (by omega)
  clear i v d I
  go_enter Tryz.func127,Tryz.ntmps127
  go_wp2_with fail;refine h.mono ?_;rintro e w1 ⟨rfl,a⟩;have B:Bl w w1:=ae f.out a;have X:w.heap.size+1<w1.heap.size:=by have:=a.size;rw [dX] at this;omega
  have V:w1.cell? ⟨w.heap.size,0,none⟩=some (.slice A0 n cap):=aC a (by show w.heap.size<_;rw [dX];omega) (sR ..)
  have W:w1.cell? ⟨w.heap.size+1,0,none⟩=some (.slice (some ⟨bp,op,none⟩) n q):=aC a (by show w.heap.size+1<_;rw [dX];omega) (sS ..)
  obtain ⟨K,J | ⟨b,o,rfl,t⟩⟩:=O.out.later B
  ·omega
  have l:=oh 154 w.heap.size (w.heap.size+1) CV (some ⟨b,o,none⟩) n cap (eb D L) w1 x (fun j w' r k=>by
   have S:=s.out.lo j r;have R:=s.out.hi j r;have Q:L.getD j 0=((L.getD j 0).toNat:Int):=by omega
   have u:=((ae B k).cell (p:=⟨bp,op+j,none⟩) H).trans (N.out j r);rw [Q] at u;exact yt b o n cap j w.heap.size (w.heap.size+1) bp op q (L.getD j 0).toNat D A C w' r x ((eY s.out.right).2 j r) (by omega) (t.later k) u (aC k (by show w.heap.size<_;omega) V) (aC k X W))
  have M:=aa B;generalize decide (0≤findFrom (eb D L) n 0)=y at l HV;clear a h t B;go_wp2_with fail;refine l.mono ?_;rintro e w2 ⟨rfl,G⟩;go_wp2_with fail
  go_ret2
  rw [HV.out,z.out];exact ⟨rfl,ae M.out G⟩
 have HV:Hid (leafV D n L=false):=by show _=_;unfold leafV;rw [if_neg i]
 have z:Hid (errV (placeErr D n L)=.iface 63 (.int .i64 (placeErr D n L))):=ak i;rw [ak i] at h;clear i;generalize placeErr D n L=c at h z;generalize L.length=m at h f
 go_enter Tryz.func127,Tryz.ntmps127
 go_wp2_with fail;refine h.mono ?_;rintro e w1 ⟨rfl,a⟩;go_wp2_with fail
 go_ret2
 rw [HV.out,z.out];exact ⟨rfl,ae f.out a⟩
theorem GS (t:Addr) (w:World):(ReflectliteValue.unpack (.iface 100 (.pointer (some t)))).run Tryz.prog w
  = .ok (.agg #[.pointer (some ⟨7,100,none⟩),.pointer (some ⟨w.heap.size,0,none⟩),.int .u64 150]) (w.alloc (.cells #[.pointer (some t)] 100)):=by kernel_rfl
theorem Kg (a : Addr) (w : World) : (ReflectliteValue.methodAny (ReflectliteValue.valueError "reflectlite.Value.Type" 0) (fun t _ _ _ => ReflectliteType.toType t) #[.agg #[.pointer (some ⟨7, 100, none⟩), .pointer (some a), .int .u64 150]]).run Tryz.prog w
  = .ok (.iface 201 (.agg #[.pointer (some ⟨7,100,none⟩)])) w:=by kernel_rfl
theorem xL (h : Value) (w : World) : (Go.method 482 201 (.agg #[h]) "Kind").run Tryz.prog w = .ok (318, h) w := by kernel_rfl
theorem J7 (w:World):((ReflectliteType.abiMethod fun t=>Functor.map (fun a:Nat=>Value.int IntKind.u8 (a:Int)) (Rtype.kind t)) #[.pointer (some ⟨7,100,none⟩)]).run Tryz.prog w=.ok (.int .u8 22) w:=by kernel_rfl
theorem J6 (w:World):((ReflectliteType.abiMethod fun t=>Functor.map (fun a:Nat=>Value.int IntKind.u8 (a:Int)) (Rtype.kind t)) #[.pointer (some ⟨7,63,none⟩)]).run Tryz.prog w=.ok (.int .u8 2) w:=by kernel_rfl
theorem Cy (a : Addr) (W : World) : (ReflectliteValue.method (ReflectliteValue.valueError "reflectlite.Value.IsNil" 0) ReflectliteValue.isNil #[.agg #[.pointer (some ⟨7, 100, none⟩), .pointer (some a), .int .u64 150]]).run Tryz.prog W = (ReflectliteValue.isNil 100 a 150 22).run Tryz.prog W := by kernel_rfl
theorem uK (a : Addr) (W : World) : (ReflectliteValue.method (ReflectliteValue.valueError "reflectlite.Value.Elem" 0) ReflectliteValue.elem #[.agg #[.pointer (some ⟨7, 100, none⟩), .pointer (some a), .int .u64 150]]).run Tryz.prog W = (ReflectliteValue.elem 100 a 150 22).run Tryz.prog W := by kernel_rfl
theorem Jz (ta b:Addr) (W:World):(ReflectliteValue.set #[.agg #[.pointer (some ⟨7,63,none⟩),.pointer (some ta),.int .u64 386],.agg #[.pointer (some ⟨7,63,none⟩),.pointer (some b),.int .u64 130]]).run Tryz.prog W=(do let v ←loadVar 63 b;storeVar 63 ta v;pure (Value.tuple #[]):Sem Value).run Tryz.prog W:=by kernel_rfl
theorem Jh (a p:Addr) (W:World) (b:W.cell? a=some (.pointer (some p))) :
  (ReflectliteValue.method (ReflectliteValue.valueError "reflectlite.Value.IsNil" 0) ReflectliteValue.isNil #[.agg #[.pointer (some ⟨7, 100, none⟩), .pointer (some a), .int .u64 150]]).run Tryz.prog W = .ok (.bool false) W := by
 rw [Cy]
 simp [ReflectliteValue.isNil,loadVar,isAgg,underlying,Tryz.underlying100,b,Result.andThen]
theorem xK (h : Value) (w : World) : (Go.method 482 201 (.agg #[h]) "Elem").run Tryz.prog w = .ok (328, .agg #[h]) w := by kernel_rfl
theorem mt (h : Value) (w : World) : (Go.method 482 201 (.agg #[h]) "Implements").run Tryz.prog w = .ok (329, .agg #[h]) w := by kernel_rfl
theorem kE (h : Value) (w : World) : (Go.method 482 201 (.agg #[h]) "AssignableTo").run Tryz.prog w = .ok (326, .agg #[h]) w := by kernel_rfl
theorem J1 (w:World):(ReflectliteType.method ReflectliteType.elem #[.agg #[.pointer (some ⟨7,100,none⟩)]]).run Tryz.prog w=.ok (.iface 201 (.agg #[.pointer (some ⟨7,63,none⟩)])) w:=by kernel_rfl
theorem uq (w : World) : (ReflectliteType.relation "Implements" ReflectliteType.implements_ #[.agg #[.pointer (some ⟨7, 63, none⟩)], .iface 201 (.agg #[.pointer (some ⟨7, 31, none⟩)])]).run Tryz.prog w = .ok (.bool true) w := by kernel_rfl
theorem IS (v:Value) (w:World):(ReflectliteType.typeOf #[.iface 63 v]).run Tryz.prog w=.ok (.iface 201 (.agg #[.pointer (some ⟨7,63,none⟩)])) w:=by kernel_rfl
theorem tL (w : World) : (ReflectliteType.relation "AssignableTo" ReflectliteType.assignableTo #[.agg #[.pointer (some ⟨7, 63, none⟩)], .iface 201 (.agg #[.pointer (some ⟨7, 63, none⟩)])]).run Tryz.prog w = .ok (.bool true) w := by kernel_rfl
theorem GR (c:Int) (w:World):(ReflectliteValue.unpack (.iface 63 (.int .i64 c))).run Tryz.prog w
  = .ok (.agg #[.pointer (some ⟨7,63,none⟩),.pointer (some ⟨w.heap.size,0,none⟩),.int .u64 130]) (w.alloc (.cells #[.int .i64 c] 63)):=by kernel_rfl
theorem elemOfP (w:World):(Rtype.elem? 100).run Tryz.prog w=.ok (some 63) w:=by kernel_rfl
theorem KR (p:Addr) (w:World):(ReflectliteValue.mk 63 p ReflectliteValue.flagAddr).run Tryz.prog w=.ok (.agg #[.pointer (some ⟨7,63,none⟩),.pointer (some p),.int .u64 386]) w:=by kernel_rfl
theorem Jd (a p:Addr) (W:World) (b:W.cell? a=some (.pointer (some p))) :
  (ReflectliteValue.method (ReflectliteValue.valueError "reflectlite.Value.Elem" 0) ReflectliteValue.elem #[.agg #[.pointer (some ⟨7, 100, none⟩), .pointer (some a), .int .u64 150]]).run Tryz.prog W
   = .ok (.agg #[.pointer (some ⟨7,63,none⟩),.pointer (some p),.int .u64 386]) W:=by
 rw [uK]
 simp [ReflectliteValue.elem,loadVar,isAgg,underlying,Tryz.underlying100,b,Result.andThen,elemOfP,KR]
theorem setN (ta b:Addr) (c:Int) (old:Value) (W:World) (a:W.cell? b=some (.int .i64 c)) (e:W.cell? ta=some old) (d:W.frozen? ta=false) :
  (ReflectliteValue.set #[.agg #[.pointer (some ⟨7,63,none⟩),.pointer (some ta),.int .u64 386],.agg #[.pointer (some ⟨7,63,none⟩),.pointer (some b),.int .u64 130]]).run Tryz.prog W
   = .ok (.tuple #[]) (W.setCell ta (.int .i64 c)):=by
 rw [Jz]
 simp [loadVar,isAgg,underlying,Tryz.underlying63,a,Result.andThen,storeVar,Value.cells,storeCells,Addr.add]
 rw [run_store Tryz.prog W ta _ _ (by rfl)]
 simp [e,d]
def gL (w:World):Prop:=w.cell? ⟨0,0,none⟩=some (.iface 201 (.agg #[.pointer (some ⟨7,31,none⟩)]))
theorem gL.lt {w:World} (h:gL w):0<w.heap.size:=by
 rcases Nat.lt_or_ge 0 w.heap.size with h' | h'
 ·exact h'
 unfold gL at h
 simp [World.cell?,Array.getElem?_eq_none h'] at h
theorem gL.later {w w':World} (h:gL w) (a:Bl w w'):gL w':=aC a h.lt h
theorem I8 (c:Int) (b:Nat) (w:World) (e:gL w) (a:b<w.heap.size) (g:w.cell? ⟨b,0,none⟩=some (.int .i64 0)) (d:w.frozen? ⟨b,0,none⟩=false) :
  Calls Tryz.prog 43 #[.iface 63 (.int .i64 c),.iface 100 (.pointer (some ⟨b,0,none⟩))] w fun h w'=>h=.returned (.bool true)∧w'=((((w.alloc (.cells #[.pointer (some ⟨b,0,none⟩)] 100)).alloc (.cells #[.pointer (some ⟨7,100,none⟩),.pointer (some ⟨w.heap.size,0,none⟩),.int .u64 150] 161)).alloc (.cells #[.pointer (some ⟨7,100,none⟩),.pointer (some ⟨w.heap.size,0,none⟩),.int .u64 150] 161)).alloc (.cells #[.int .i64 c] 63)).setCell ⟨b,0,none⟩ (.int .i64 c):=by
 have x1 := @run_callFunc_extern Tryz.prog 83 _ (fun args=>ReflectliteValue.unpack (args.getD 0 (.tuple #[]))) Tryz.func83 (by kernel_rfl) (by kernel_rfl) (by kernel_rfl) (by kernel_rfl)
 have x2 := @run_callFunc_extern Tryz.prog 84 _ (ReflectliteValue.methodAny (ReflectliteValue.valueError "reflectlite.Value.Type" 0) (fun t _ _ _ => ReflectliteType.toType t)) Tryz.func84 (by kernel_rfl) (by kernel_rfl) (by kernel_rfl) (by kernel_rfl)
 have x3 := @run_callFunc_extern Tryz.prog 85 _ (ReflectliteValue.method (ReflectliteValue.valueError "reflectlite.Value.IsNil" 0) ReflectliteValue.isNil) Tryz.func85 (by kernel_rfl) (by kernel_rfl) (by kernel_rfl) (by kernel_rfl)
 have x4 := @run_callFunc_extern Tryz.prog 318 _ (ReflectliteType.abiMethod fun t=>do pure (.int .u8 (←Rtype.kind t))) Tryz.func318 (by kernel_rfl) (by kernel_rfl) (by kernel_rfl) (by kernel_rfl)
 have x5 := @run_callFunc_extern Tryz.prog 328 _ (ReflectliteType.method ReflectliteType.elem) Tryz.func328 (by kernel_rfl) (by kernel_rfl) (by kernel_rfl) (by kernel_rfl)
 have x6 := @run_callFunc_extern Tryz.prog 329 _ (ReflectliteType.relation "Implements" ReflectliteType.implements_) Tryz.func329 (by kernel_rfl) (by kernel_rfl) (by kernel_rfl) (by kernel_rfl)
 have x7 := @run_callFunc_extern Tryz.prog 120 _ ReflectliteType.typeOf Tryz.func120 (by kernel_rfl) (by kernel_rfl) (by kernel_rfl) (by kernel_rfl)
 have x8 := @run_callFunc_extern Tryz.prog 326 _ (ReflectliteType.relation "AssignableTo" ReflectliteType.assignableTo) Tryz.func326 (by kernel_rfl) (by kernel_rfl) (by kernel_rfl) (by kernel_rfl)
 have x9 := @run_callFunc_extern Tryz.prog 121 _ (ReflectliteValue.method (ReflectliteValue.valueError "reflectlite.Value.Elem" 0) ReflectliteValue.elem) Tryz.func121 (by kernel_rfl) (by kernel_rfl) (by kernel_rfl) (by kernel_rfl)
 have xa := @run_callFunc_extern Tryz.prog 122 _ ReflectliteValue.set Tryz.func122 (by kernel_rfl) (by kernel_rfl) (by kernel_rfl) (by kernel_rfl)
 have m:=IS;have n:=kE;have o:=tL;have p:=GR;have q:=GS;have r:=Kg;have s:=xL;have u:=xK;have v:=mt;have x:=J7;have y:=J6;have z:=J1;have A:=uq;have k:=Jh ⟨w.heap.size,0,none⟩ ⟨b,0,none⟩ ((w.alloc (.cells #[.pointer (some ⟨b,0,none⟩)] 100)).alloc (.cells #[.pointer (some ⟨7,100,none⟩),.pointer (some ⟨w.heap.size,0,none⟩),.int .u64 150] 161)) (by simp)
 have f:=e.lt;have i:((w.alloc (.cells #[.pointer (some ⟨b,0,none⟩)] 100)).alloc (.cells #[.pointer (some ⟨7,100,none⟩),.pointer (some ⟨w.heap.size,0,none⟩),.int .u64 150] 161)).cell? ⟨0,0,none⟩=some (.iface 201 (.agg #[.pointer (some ⟨7,31,none⟩)])):=by
  rw [World.cell?_alloc_lt _ _ ⟨0,0,none⟩ (by simp),World.cell?_alloc_lt _ _ ⟨0,0,none⟩ f];exact e
 have j:=Jd ⟨w.heap.size,0,none⟩ ⟨b,0,none⟩ (((w.alloc (.cells #[.pointer (some ⟨b,0,none⟩)] 100)).alloc (.cells #[.pointer (some ⟨7,100,none⟩),.pointer (some ⟨w.heap.size,0,none⟩),.int .u64 150] 161)).alloc (.cells #[.pointer (some ⟨7,100,none⟩),.pointer (some ⟨w.heap.size,0,none⟩),.int .u64 150] 161)) (by rw [World.cell?_alloc_lt _ _ ⟨w.heap.size,0,none⟩ (by simp;omega)];simp)
 have l:=setN ⟨b,0,none⟩ ⟨w.heap.size+1+1+1,0,none⟩ c (.int .i64 0) ((((w.alloc (.cells #[.pointer (some ⟨b,0,none⟩)] 100)).alloc (.cells #[.pointer (some ⟨7,100,none⟩),.pointer (some ⟨w.heap.size,0,none⟩),.int .u64 150] 161)).alloc (.cells #[.pointer (some ⟨7,100,none⟩),.pointer (some ⟨w.heap.size,0,none⟩),.int .u64 150] 161)).alloc (.cells #[.int .i64 c] 63))
  (by rw [World.cell?_alloc_at _ _ _ _ (by simp)];rfl)
  (by rw [World.cell?_alloc_lt _ _ ⟨b,0,none⟩ (by simp;omega),World.cell?_alloc_lt _ _ ⟨b,0,none⟩ (by simp;omega),World.cell?_alloc_lt _ _ ⟨b,0,none⟩ (by simp;omega),World.cell?_alloc_lt _ _ ⟨b,0,none⟩ a];exact g)
  (by rw [World.frozen?_alloc_old _ _ ⟨b,0,none⟩ (by simp;omega),World.frozen?_alloc_old _ _ ⟨b,0,none⟩ (by simp;omega),World.frozen?_alloc_old _ _ ⟨b,0,none⟩ (by simp;omega),World.frozen?_alloc_old _ _ ⟨b,0,none⟩ (Nat.ne_of_lt a)];exact d)
 clear e
 go_enter Tryz.func43,Tryz.ntmps43
 go_wp2;refine wp_loop_rounds 1 ?_;rw [rounds_succ];go_wp2;go_ret;exact ⟨rfl,rfl⟩
end Go.Proofs.YtohgnbgamfepoaaGreatDoor
