/- What is written at a p -/
import Derived.Shelf.Spec.SlicesInsertGrow
import Derived.Laws.OwnMore
import Derived.Lib.AppendZerosOnto
import Derived.Laws.AppendOwnNone
import Derived.OneCell
import Derived.Test.YtohgnbgamfepoaaGreatDoorJHAV
namespace Go.Proofs.YtohgnbgamfepoaaGreatDoor
open ChangeShapes WideShapes ChangeAt RowKit Lib Go
set_option maxRecDepth 99999
set_option maxHeartbeats 0
theorem pX {D:Nat→Dm} {n:Nat} {xs:List EnL} {p:List Int} (b:Ens D n (lE xs)) (d:InO D n p):mR xs p:=by
 refine ⟨fun k c=>?_,eQ d⟩
 have a:(xs.getD k aJ).e∈lE xs:=List.mem_map.2 ⟨_,iX c,rfl⟩;exact eQ (b.each _ a).1
theorem kA {D:Nat→Dm} {n:Nat} {xs:List EnL} (a:Ens D n (lE xs)):xs.length≤3000:=by have:=a.few;rw [a7] at this;exact this
def dS (N:Nat) (xs:List EnL):Prop := ∀ x∈xs,eX N x.A
theorem dS.le {N M:Nat} {xs:List EnL} (h:dS N xs) (a:M≤N):dS M xs:=fun x b=>(h x b).le a
theorem dS.put {N i:Nat} {xs:List EnL} {x:EnL} (h:dS N xs) (b:eX N x.A):dS N (xs.take i ++ x :: xs.drop i):=fun y a=>by
 rcases List.mem_append.1 a with a | a
 ·exact h y (List.mem_of_mem_take a)
 rcases List.mem_cons.1 a with rfl | a
 ·exact b
 exact h y (List.mem_of_mem_drop a)
theorem dS.cut {N i j:Nat} {xs:List EnL} (h:dS N xs):dS N (xs.take i ++ xs.drop j):=fun y a=>by
 rcases List.mem_append.1 a with a | a
 ·exact h y (List.mem_of_mem_take a)
 exact h y (List.mem_of_mem_drop a)
theorem dS.set {N i:Nat} {xs:List EnL} (h:dS N xs) (b:i<xs.length) (e:En) (c:Nat):dS N (xs.set i ⟨e,(xs.getD i aJ).A,c⟩):=fun y a=>by
 rcases List.mem_or_eq_of_mem_set a with a | rfl
 ·exact h y a
 exact h (xs.getD i aJ) (iX b)
theorem F4 {w:World} {base:Nat} {v:Value} {L:List Int} (h:w.ownsRow base 3 1 v L.length (L.map (Value.int .i64))):∃ A c,v=.slice A L.length c∧em w A c L∧eX base A:=by
 obtain ⟨A,c,rfl,f⟩:=F5 h;refine ⟨A,c,rfl,f,fun b o e=>?_⟩
 subst e
 rcases h.2 with ⟨a,-⟩ | ⟨g,cap,d,a,i,-⟩
 ·cases a
 cases a;exact i
theorem BP (A:Option Addr) (c:Nat) (L:List Int) (w:World) (z:L.length≤4) (q:aZ w A c L):Calls Tryz.prog 67 #[.slice A L.length c] w fun e w'=>(∃ v,e=.returned v∧w'.ownsRow w.heap.size 3 1 v L.length (L.map (Value.int .i64)))∧Bl w w':=by
 have J:∀ (w:World) (a:Option Addr) (n c n' p:Nat),(binOp .eql 27 (.slice a n c) (.slice none n' p)).run Tryz.prog w=.ok (.bool a.isNone) w:=fun w a n c n' p=>Lib.run_eql_slice_nil w _ _ a n c n' p Tryz.underlying27
 cases A with
 | none =>
  obtain ⟨-,g | ⟨b,o,g,-⟩⟩:=q
  ·subst g
   simp only [List.length_nil]
   go_enter Tryz.func67,Tryz.ntmps67
   go_wp2_with fail;go_ret;exact ⟨⟨_,rfl,World.ownsRow_nil _ _ _ _⟩,zS⟩
  cases g
 | some a =>
  obtain ⟨i0,r,s,t,y⟩:=info_parts Tryz.infoIntP;have D:Hid (∀ j u,(L.map (Value.int .i64))[j]?=some u→w.cell? (a.add j)=some u):=by
   intro j u l;obtain ⟨-,g | ⟨b,o,g,-,h⟩⟩:=q
   ·subst g;simp at l
   cases g;have i:j<L.length:=by have:=(List.getElem?_eq_some_iff.1 l).1;simpa using this
   rw [aK,h j i];simp only [List.getElem?_map,zX i,Option.map_some,Option.some.injEq] at l;rw [←l,zZ,zX i]
   rfl
  have H:(L.map (Value.int .i64)).length=L.length*1:=by simp
  have F:∀ u∈L.map (Value.int .i64),u.oneCell'=true:=by intro u B;simp at B;obtain ⟨x,-,rfl⟩:=B;rfl
  have I:L.length≤4:=z;clear q z
  go_enter Tryz.func67,Tryz.ntmps67
  go_wp2_with (at_builtin;refine wpList_append_own _ rfl _ _ 27 rfl w.heap.size 3 i0 (.int .i64 0) 1 8 Tryz.underlying27 r s t y rfl (by decide) _ _ _ rfl (World.ownsRow_made w #[] 0 (zT) (zU) (by simp)) a L.length c (L.map (Value.int .i64)) rfl ?qc1 ?qc2 ?qc3 ?qc4 ?qc5 ?qc6 ?_)
  case qc1=>exact H
  case qc2=>exact fun j u l=>Lib.cell?_alloc_some _ (D.out j u l)
  case qc3=>exact F
  case qc4=>simp only [maxLen];omega
  case qc5=>omega
  case qc6=>simp
  intro v' w1 f d m;have E:=aa f;have C:Hid (Bl w w1):=((Below.refl _ w).alloc (zT) _).grown d (by simp) (by intro k G;simp [Value.ownBlock] at G;omega)
  clear f d m;go_wp2_with fail;go_ret;exact ⟨⟨_,rfl,E.out⟩,C.out⟩
theorem qT (A:Option Addr) (c:Nat) (L:List Int) (w:World) (i:L.length≤4) (j:aZ w A c L):Calls Tryz.prog 67 #[.slice A L.length c] w fun e w'=>(∃ A' a,e=.returned (.slice A' L.length a)∧em w' A' a L∧eX w.heap.size A')∧Bl w w' :=
 (BP A c L w i j).mono fun _ _ ⟨⟨_,b,d⟩,f⟩=>by
  obtain ⟨A',a,rfl,g,h⟩:=F4 d;exact ⟨⟨A',a,b,g,h⟩,f⟩
theorem Tryz.infoEnt:(Tryz.prog.info? 83).map (fun i=>(i.zero,i.size,i.bytes))=some (some (.agg #[.slice none 0 0,.int .i64 0]),2,32):=by kernel_rfl
def wl (w:World) (vb:Nat) (x:EnL):Prop:=w.heap[vb]?=some (.cells #[.slice x.A x.e.pl.length x.c,.int .i64 x.e.n] 83 (0,0))
theorem wl.cells {w:World} {vb:Nat} {x:EnL} (h:wl w vb x):∀ j u,(ah [x])[j]?=some u→w.cell? ⟨vb,j,none⟩=some u:=by
 intro j u a;rw [Lib.cell_of_heap h]
 simpa [ah] using a
def gr (w:World) (g i:Nat) (xs:List EnL) (x:EnL) (e:Ending) (w':World):Prop := ∃ g' cap',e=.returned (.slice (some ⟨g',0,none⟩) (xs.length+1) cap')∧bY w' g' cap' (xs.take i ++ x :: xs.drop i)∧g≤g'∧w.grownBy w' (some g)
theorem xA (g cap vb:Nat) (xs:List EnL) (x:EnL) (w:World) (S:xs.length≤3000) (t:bY w g cap xs) (R:em w x.A x.c x.e.pl) (Q:wl w vb x) :
  Calls Tryz.prog 131 #[.slice (some ⟨g,0,none⟩) xs.length cap,.int .i64 xs.length,.slice (some ⟨vb,0,none⟩) 1 1] w fun e w'=>gr w g xs.length xs x e w':=by
 obtain ⟨i0,C,D,E,F⟩:=info_parts Tryz.infoEnt;have k:=t.own (Nat.le_refl g);have B:g≤w.heap.size:=Nat.le_of_lt t.lt;have z:=t.2.1;have N:=t.2.2.1;have H:=aa t;have P:=aa R;have HV:=aa Q.cells;have G:Hid (ah (xs ++ [x])=ah xs ++ ah [x]):=cellsE_append ..;have K:Hid ((ah [x]).length=1*2):=cellsE_len [x];have I:Hid (∀ v∈ah [x],v.oneCell'=true):=bH [x];have r:Hid (xs.take xs.length ++ x :: xs.drop xs.length=xs ++ [x]∧(xs ++ [x]).length=xs.length+1):=⟨by simp,by simp⟩
 obtain ⟨n,q⟩:=az xs.length;have U:=aa q;rw [q] at k S z r;unfold gr;rw [q];generalize hcx:ah xs=CX at k G;generalize hc1:ah [x]=C1 at HV G K I;unfold maxLen at N;clear t R Q q hcx hc1;have T:(n:Int)≤3000:=by omega
 by_cases M:cap=n
 ·subst M
  go_enter Tryz.func131,Tryz.ntmps131
  go_wp2_with (at_builtin;refine wpList_append_own _ rfl _ _ 35 rfl g 83 i0 (.agg #[.slice none 0 0,.int .i64 0]) 2 32 Tryz.underlying35 C D E F rfl (by decide) _ _ _ rfl k ⟨vb,0,none⟩ 1 1 C1 rfl ?qc1 ?qc2 ?qc3 ?qc4 ?qc5 ?qc6 ?_)
  case qc1=>exact K.out
  case qc2=>exact fun j u O=>by rw [aK,Nat.zero_add];exact HV.out j u O
  case qc3=>exact I.out
  case qc4=>simp only [maxLen];omega
  case qc5=>omega
  case qc6=>exact B
  intro v' w1 a d i;rw [←G.out,←r.out.2] at a;have f:w.grownBy w1 (some g):=d;obtain ⟨⟨L,b,-,-⟩,-⟩:=H.out;have o:∀ y∈xs ++ [x],em w1 y.A y.c y.e.pl:=fun y p=>by
   rcases List.mem_append.1 p with p | p
   ·exact (H.out.2.2.2 y p).grown b f
   rw [List.mem_singleton.1 p];exact P.out.grown b f
  obtain ⟨g',m,rfl,s,h⟩:=Bp a (by simpa using i) o
  have l:=aa h;have J:=aa f;rw [r.out.2];clear a d i b o h f;go_wp2_with fail;go_ret;refine ⟨g',m,rfl,?_,s,J.out⟩;rw [r.out.1];exact l.out
 have hce' : ¬ ((cap:Int)=(n:Int)):=by omega
 go_enter Tryz.func131,Tryz.ntmps131
 go_wp2_with (at_builtin;refine wpList_append_own _ rfl _ _ 35 rfl g 83 i0 (.agg #[.slice none 0 0,.int .i64 0]) 2 32 Tryz.underlying35 C D E F rfl (by decide) _ _ _ rfl k ⟨vb,0,none⟩ 1 1 C1 rfl ?qc1 ?qc2 ?qc3 ?qc4 ?qc5 ?qc6 ?_)
 case qc1=>exact K.out
 case qc2=>exact fun j u O=>by rw [aK,Nat.zero_add];exact HV.out j u O
 case qc3=>exact I.out
 case qc4=>simp only [maxLen];omega
 case qc5=>omega
 case qc6=>exact B
 intro v' w1 a d i;rw [←G.out,←r.out.2] at a;have f:w.grownBy w1 (some g):=d;obtain ⟨⟨L,b,-,-⟩,-⟩:=H.out;have o:∀ y∈xs ++ [x],em w1 y.A y.c y.e.pl:=fun y p=>by
  rcases List.mem_append.1 p with p | p
  ·exact (H.out.2.2.2 y p).grown b f
  rw [List.mem_singleton.1 p];exact P.out.grown b f
 obtain ⟨g',m,rfl,s,h⟩:=Bp a (by simpa using i) o
 have l:=aa h;have J:=aa f;rw [r.out.2];clear a d i b o h f;go_wp2_with fail;go_ret;refine ⟨g',m,rfl,?_,s,J.out⟩;rw [r.out.1];exact l.out
theorem EX (w:World) (g vb o lb h f:Nat) (x:EnL) (a:Array Value) (d:vb≠g) (c:wl w vb x) (i:w.heap[g]?=some (.cells a 83 (0,0))) (j:a.size=f) (b:f≠0) :
  (callFunc 158 #[.slice (some ⟨vb,0,none⟩) 1 1,.slice (some ⟨g,o,none⟩) lb h]).run Tryz.prog w=.ok (.value (.bool false)) w:=by
 rw [run_callFunc_extern Tryz.func158 (by kernel_rfl) (by kernel_rfl) (by kernel_rfl) (e:=Extern.SlicesOverlaps.overlaps #[35,35] #[4]) (by kernel_rfl),
  Lib.run_overlaps_apart w 35 4 83 Tryz.underlying35 2 Tryz.sizeOf83 ⟨vb,0,none⟩ ⟨g,o,none⟩ 1 1 lb h d 83 83 2 f (by simp [World.shape?,show w.heap[vb]?=_ from c]) (by simp [World.shape?,i,j]) b (Lib.frozen_of_heap c 0) (Lib.frozen_of_heap c 2)]
 rfl
theorem sx (g cap i vb:Nat) (xs:List EnL) (x:EnL) (w:World) (hn:xs.length≤3000) (hi:i<xs.length) (u:xs.length+1≤cap) (N:vb≠g) (C:bY w g cap xs) (hx:em w x.A x.c x.e.pl) (X:wl w vb x) :
  Calls Tryz.prog 131 #[.slice (some ⟨g,0,none⟩) xs.length cap,.int .i64 i,.slice (some ⟨vb,0,none⟩) 1 1] w fun e w'=>gr w g i xs x e w':=by
 obtain ⟨i0,T,hz0,Y,Z⟩:=info_parts Tryz.infoEnt;have L:(Tryz.prog.info? 83).map (·.size)=some 2:=by rw [T];simp [Y]
 have E:=C.2.2.1;unfold maxLen at E;obtain ⟨⟨d,b,f,H⟩,-,-,t⟩:=id C;have V:∀ o lb R,(callFunc 158 #[.slice (some ⟨vb,0,none⟩) 1 1,.slice (some ⟨g,o,none⟩) lb R]).run Tryz.prog w=.ok (.value (.bool false)) w:=fun o lb R=>EX w g vb o lb R (cap*2) x d N X b f (by omega)
 obtain ⟨n,s⟩:=az xs.length;have m:(ah (xs.drop i)).length=(n-i)*2:=by rw [cellsE_len,List.length_drop,s]
 obtain ⟨C1,l⟩:∃ C1,C1=d.toList.take ((i+1)*2) ++ ah (xs.drop i) ++ d.toList.drop ((i+1)*2+(ah (xs.drop i)).length):=⟨_,rfl⟩;obtain ⟨C2,r⟩:∃ C2,C2=C1.take (i*2) ++ ah [x] ++ C1.drop (i*2+(ah [x]).length):=⟨_,rfl⟩;have q:(xs.length+1)*2≤d.toList.length:=by
  have O:d.toList.length=cap*2:=by simpa using f
  omega
 obtain ⟨K,M⟩:=Cm H q (Nat.le_of_lt hi) l r;have J:C1.length=d.size:=by
  rw [l];simp only [List.length_append,List.length_take,List.length_drop,m,Array.length_toList,f]
  omega
 have F:∀ ty dc sc,(Builtin.copy_ #[35,35] ty #[.slice (some ⟨g,(i+1)*2,none⟩) (n-i) dc,.slice (some ⟨g,i*2,none⟩) (n+1-i) sc]).run Tryz.prog w.drew=.ok (goInt (Nat.min (n+1-i) (n-i))) (w.drew.setRow g C1.toArray):=fun ty dc sc=>by
  rw [l];exact jc 2 w.drew _ _ ty 83 g ((i+1)*2) (n-i) dc ⟨g,i*2,none⟩ (n+1-i) sc d 83 (ah (xs.drop i)) Tryz.underlying35 L b (by rw [m];simp only [Nat.min_def];split <;> omega)
   (fun j v Q=>by
    rw [aK];refine C.cells (i*2+j) v ?_;rw [←eO,List.getElem?_drop] at Q;exact Q)
   (by rw [m];omega) (bH _)
 have D:(w.drew.setRow g C1.toArray).heap[g]?=some (.cells C1.toArray 83 (0,0)):=setRow_heap w.drew g d _ _ _ b;have G:∀ (W:World),W.heap=(w.drew.setRow g C1.toArray).heap→∀ ty dc,(Builtin.copy_ #[35,35] ty #[.slice (some ⟨g,i*2,none⟩) (n+1-i) dc,.slice (some ⟨vb,0,none⟩) 1 1]).run Tryz.prog W=.ok (goInt (Nat.min 1 (n+1-i))) (W.setRow g C2.toArray):=fun W hW ty dc=>by
  have h:=jc (P:=Tryz.prog) 2 W _ 35 ty 83 g (i*2) (n+1-i) dc ⟨vb,0,none⟩ 1 1 C1.toArray 83 (ah [x]) Tryz.underlying35 L (by rw [hW];exact D) (by rw [cellsE_len];simp only [Nat.min_def];split <;> simp <;> omega)
   (fun j v Q=>by
    rw [aK,Nat.zero_add];have hb:W.heap[vb]?=w.heap[vb]?:=by rw [hW,setRow_other _ _ _ _ N];rfl
    exact (World.cell?_of_block (a:=⟨vb,j,none⟩) hb).trans (X.cells j v Q))
   (by rw [cellsE_len];simp [J,f];omega) (bH _)
  rw [h,r]
 have B:Hid (∀ w',w'.heap=((w.drew.setRow g C1.toArray).setRow g C2.toArray).heap→w'.os=w.os→w'.tape=w.tape→w'.output=w.output→bY w' g cap (xs.take i ++ x :: xs.drop i)∧w.grownBy w' (some g)):=by
  intro w' p O S h3;rw [setRow_setRow] at p;have I:w.grownBy w' (some g):=⟨O,S,h3,by rw [p,setRow_size];exact zT,fun k hk U=>by rw [p,setRow_other _ _ _ _ fun e=>U (by rw [e])];rfl⟩
  refine ⟨⟨⟨C2.toArray,by rw [p];exact setRow_heap w.drew g d _ _ _ b,by rw [List.size_toArray,K,Array.length_toList,f],M⟩,by simp;omega,C.2.2.1,fun y z=>?_⟩,I⟩
  refine em.grown ?_ b I
  rcases List.mem_append.1 z with z | z
  ·exact t y (List.mem_of_mem_take z)
  rcases List.mem_cons.1 z with rfl | z
  ·exact hx
  exact t y (List.mem_of_mem_drop z)
 unfold gr;rw [s] at hn hi u ⊢;have hn':(n:Int)≤3000:=by omega
 have hi':(i:Int)<(n:Int):=by omega
 have hr':(n:Int)+1≤(cap:Int):=by omega
 have Z : ¬ ((i:Int)=(n:Int)):=by omega
 have hb2 : ¬ (cap=i+1):=by omega
 have hb4 : ¬ (cap=i):=by omega
 have hw1:IntKind.i64.wrap ((i:Int)+1)=(i:Int)+1:=by rw [IntKind.wrap_i64];omega
 have hb1:(0:Int)≤(i:Int)+1:=by omega
 have htn:((i:Int)+1).toNat=i+1:=by omega
 have hin:i≤n:=by omega
 have hb3:(i:Int)≤(n:Int)+1:=by omega
 clear E t s J K M l r q m D b f H C hx X
 go_enter Tryz.func131,Tryz.ntmps131
 go_wp2_with (simp only [V])
 go_region_law (refine step_copy_runI rfl _ _ 35 35 rfl _ _ (by simp [Act.eval,Act.put]) (by simp [Act.eval,Act.put]) (F _ _ _) ?_)
 go_wp2_with (at_builtin;refine wpList_copy_runI _ rfl _ _ 35 35 rfl _ _ rfl rfl (G _ rfl _ _) ?_)
 go_ret;obtain ⟨O,S⟩:=B.out _ rfl rfl rfl rfl;exact ⟨g,cap,rfl,O,zT,S⟩
theorem zero_size (k:Nat):(Builtin.zeroCells (Value.agg #[.slice none 0 0,.int .i64 0]).cells k).size=k*2:=by
 simp [Builtin.zeroCells,Value.cells]
theorem ut (g cap i vb:Nat) (xs:List EnL) (x:EnL) (w:World) (hn:xs.length≤3000) (hi:i<xs.length) (l:cap<xs.length+1) (z:bY w g cap xs) (hx:em w x.A x.c x.e.pl) (hv:wl w vb x) :
  Calls Tryz.prog 131 #[.slice (some ⟨g,0,none⟩) xs.length cap,.int .i64 i,.slice (some ⟨vb,0,none⟩) 1 1] w fun e w'=>gr w g i xs x e w':=by
 obtain ⟨i0,Q,hz0,X,Y⟩:=info_parts Tryz.infoEnt;have U:(Tryz.prog.info? 83).map (·.size)=some 2:=by rw [Q];simp [X]
 have hcm:=z.2.2.1;unfold maxLen at hcm;have hnc:=z.2.1;have F:g<w.heap.size:=z.lt;have hvw:vb<w.heap.size:=(zY hv).1;obtain ⟨n,f⟩:=az xs.length;rw [f] at hn hi l hnc;have E:(ah (xs.drop i)).length=(n-i)*2:=by rw [cellsE_len,List.length_drop,f]
 have r:(ah (xs.take i)).length=i*2:=by rw [cellsE_len,List.length_take,f,Nat.min_eq_left (by omega)]
 have R:(n:Int)+1-(i:Int)=((n+1-i:Nat):Int):=by omega
 have H:i+(n+1-i)=n+1:=by omega
 have B:(Builtin.firstCells i0.size i (.slice (some ⟨g,0,none⟩) i cap)).run Tryz.prog w.drew=.ok (ah (xs.take i)).toArray w.drew:=by
  rw [X];exact run_firstCells_some w.drew 2 i ⟨g,0,none⟩ i cap (ah (xs.take i)) r (fun j v q=>by
   rw [aK,Nat.zero_add];rw [←fL,List.getElem?_take] at q
   split at q
   ·exact z.cells j v q
   cases q)
 obtain ⟨G,Z⟩:∃ G,G=grownCap w (n+1) cap 83:=⟨_,rfl⟩;obtain ⟨ROW,d⟩:∃ ROW:Array Value,ROW=(ah (xs.take i)).toArray ++ Builtin.zeroCells (Value.agg #[.slice none 0 0,.int .i64 0]).cells (n+1-i) ++ Builtin.zeroCells (Value.agg #[.slice none 0 0,.int .i64 0]).cells (G-(n+1)):=⟨_,rfl⟩;have hrz:∀ ty,(Builtin.append_ #[35,3] ty #[.slice (some ⟨g,0,none⟩) i cap,.int .i64 ((n:Int)+1-(i:Int))]).run Tryz.prog w=.ok (.slice (some ⟨w.heap.size,0,none⟩) (n+1) G) (w.drew.alloc (.cells ROW 83)):=fun ty=>by
  have h:=Lib.run_append_grow_zeros w 35 3 ty 83 i0 _ .i64 .i64 Tryz.underlying35 Tryz.underlying3 Q hz0 (some ⟨g,0,none⟩) i cap (ah (xs.take i)) B (n+1-i) (by omega) (by omega) (by omega) (by omega) (by rw [Y];omega) (by rw [Y,H];exact growslice_fits l (by omega))
  rw [H] at h;rw [R,d,Z];exact h
 have hGn:n+1≤G:=by rw [Z];exact grownCap_ge w _ _ _
 have u:G≤maxLen:=by
  rw [Z];exact grownCap_le_maxLen w (n+1) cap 83 (by unfold maxLen;omega)
 have D:ROW.size=G*2:=by
  rw [d,Array.size_append,Array.size_append,zero_size,zero_size,List.size_toArray,r]
  omega
 obtain ⟨C1,m⟩:∃ C1,C1=ROW.toList.take (i*2) ++ ah [x] ++ ROW.toList.drop (i*2+(ah [x]).length):=⟨_,rfl⟩;obtain ⟨C2,C⟩:∃ C2,C2=C1.take ((i+1)*2) ++ ah (xs.drop i) ++ C1.drop ((i+1)*2+(ah (xs.drop i)).length):=⟨_,rfl⟩;have o:ROW.toList.length=G*2:=by simpa using D
 have K:ROW.toList.take (i*2)=ah (xs.take i):=by
  rw [d,Array.toList_append,Array.toList_append,List.append_assoc];exact fF r
 obtain ⟨T,V⟩:=xn (xs:=xs) (x:=x) (i:=i) K (by rw [o,f];omega) (by omega) m C
 have t:(ah [x]).length=2:=by rw [cellsE_len];rfl
 have S:C1.length=G*2:=by
  rw [m];simp only [List.length_append,List.length_take,List.length_drop,t,o]
  omega
 have p:(w.drew.alloc (.cells ROW 83)).heap[w.heap.size]?=some (.cells ROW 83 (0,0)):=heap_alloc_new w.drew _;have b:∀ k,k<w.heap.size→(w.drew.alloc (.cells ROW 83)).heap[k]?=w.heap[k]?:=fun k hk=>Below.heap_alloc w.drew _ k hk
 have N:∀ (W:World),W.heap=(w.drew.alloc (.cells ROW 83)).heap→∀ ty dc,(Builtin.copy_ #[35,35] ty #[.slice (some ⟨w.heap.size,i*2,none⟩) (n+1-i) dc,.slice (some ⟨vb,0,none⟩) 1 1]).run Tryz.prog W=.ok (goInt (Nat.min 1 (n+1-i))) (W.setRow w.heap.size C1.toArray):=fun W L ty dc=>by
  have h:=jc (P:=Tryz.prog) 2 W _ 35 ty 83 w.heap.size (i*2) (n+1-i) dc ⟨vb,0,none⟩ 1 1 ROW 83 (ah [x]) Tryz.underlying35 U (by rw [L];exact p) (by rw [t];simp only [Nat.min_def];split <;> omega)
   (fun j v q=>by
    rw [aK,Nat.zero_add];have hb:W.heap[vb]?=w.heap[vb]?:=by rw [L];exact b vb hvw
    exact (World.cell?_of_block (a:=⟨vb,j,none⟩) hb).trans (hv.cells j v q))
   (by rw [t,D];omega) (bH _)
  rw [h,m]
 have M:((w.drew.alloc (.cells ROW 83)).setRow w.heap.size C1.toArray).heap[w.heap.size]?=some (.cells C1.toArray 83 (0,0)):=setRow_heap _ _ ROW _ _ _ p;have O:∀ (W:World),W.heap=((w.drew.alloc (.cells ROW 83)).setRow w.heap.size C1.toArray).heap→∀ ty dc sc,(Builtin.copy_ #[35,35] ty #[.slice (some ⟨w.heap.size,(i+1)*2,none⟩) (n-i) dc,.slice (some ⟨g,i*2,none⟩) (n-i) sc]).run Tryz.prog W=.ok (goInt (Nat.min (n-i) (n-i))) (W.setRow w.heap.size C2.toArray):=fun W L ty dc sc=>by
  have h:=jc (P:=Tryz.prog) 2 W _ 35 ty 83 w.heap.size ((i+1)*2) (n-i) dc ⟨g,i*2,none⟩ (n-i) sc C1.toArray 83 (ah (xs.drop i)) Tryz.underlying35 U (by rw [L];exact M) (by rw [E];simp only [Nat.min_def];split <;> omega)
   (fun j v q=>by
    rw [aK];have hb:W.heap[g]?=w.heap[g]?:=by rw [L,setRow_other _ _ _ _ (Nat.ne_of_lt F)];exact b g F
    refine (World.cell?_of_block (a:=⟨g,i*2+j,none⟩) hb).trans (z.cells (i*2+j) v ?_);rw [←eO,List.getElem?_drop] at q;exact q)
   (by rw [E,List.size_toArray,S];omega) (bH _)
  rw [h,C]
 have J:Hid (∀ w',w'.heap=(((w.drew.alloc (.cells ROW 83)).setRow w.heap.size C1.toArray).setRow w.heap.size C2.toArray).heap→w'.os=w.os→w'.tape=w.tape→w'.output=w.output→bY w' w.heap.size G (xs.take i ++ x :: xs.drop i)∧w.grownBy w' (some g)):=by
  intro w' s h1 h2 h3;rw [setRow_setRow] at s;have hB:Bl w w':=⟨h1,h2,h3,by rw [s,setRow_size];show w.heap.size≤(w.alloc _).heap.size;simp,fun k hk=>by rw [s,setRow_other _ _ _ _ (Nat.ne_of_lt hk)];exact b k hk⟩
  refine ⟨⟨⟨C2.toArray,by rw [s];exact setRow_heap _ _ ROW _ _ _ p,by rw [List.size_toArray,T,o],V⟩,by simp;omega,u,fun y I=>?_⟩,bB hB⟩
  refine em.later ?_ hB
  rcases List.mem_append.1 I with I | I
  ·exact z.2.2.2 y (List.mem_of_mem_take I)
  rcases List.mem_cons.1 I with rfl | I
  ·exact hx
  exact z.2.2.2 y (List.mem_of_mem_drop I)
 have hE1:((w.alloc (.cells ROW 83)).drew).heap=(w.drew.alloc (.cells ROW 83)).heap:=rfl;have hF1:(((w.alloc (.cells ROW 83)).drew.setRow w.heap.size C1.toArray).drew).heap=((w.drew.alloc (.cells ROW 83)).setRow w.heap.size C1.toArray).heap:=rfl;unfold gr;rw [f];unfold maxLen at u;have hn':(n:Int)≤3000:=by omega
 have hi':(i:Int)<(n:Int):=by omega
 have hr':(cap:Int)<(n:Int)+1:=by omega
 have hne : ¬ ((i:Int)=(n:Int)):=by omega
 have hGi : ¬ (G=i):=by omega
 have hGim : ¬ (G=i+1):=by omega
 have hci : ¬ (cap=i):=by omega
 have hw1:IntKind.i64.wrap ((i:Int)+1)=(i:Int)+1:=by rw [IntKind.wrap_i64];omega
 have hb1:(0:Int)≤(i:Int)+1:=by omega
 have htn:((i:Int)+1).toNat=i+1:=by omega
 have hin:i≤n:=by omega
 have hb3:(i:Int)≤(n:Int)+1:=by omega
 have hgl:g≤w.heap.size:=Nat.le_of_lt F;clear f S T V m C E r p M z hx hv R H B d Z D o K t b
 go_enter Tryz.func131,Tryz.ntmps131
 go_wp2_with (first
  | (at_builtin;refine Lib.wpList_append_run _ rfl _ _ _ _ rfl _ _ rfl rfl _ _ (hrz _) ?_)
  | (at_builtin;refine wpList_copy_runI _ rfl _ _ 35 35 rfl _ _ rfl rfl (N _ hE1 _ _) ?_))
 go_region_law (refine step_copy_runI rfl _ _ 35 35 rfl (.slice (some ⟨w.heap.size,(i+1)*2,none⟩) (n-i) (G-(i+1))) (.slice (some ⟨g,i*2,none⟩) (n-i) (cap-i)) (by simp [Act.eval,Act.put]) (by simp [Act.eval,Act.put]) (O _ hF1 3 (G-(i+1)) (cap-i)) ?_)
 go_wp2_with fail;go_ret;obtain ⟨h1,h2⟩:=J.out (((w.alloc (.cells ROW 83)).drew.setRow w.heap.size C1.toArray).drew.setRow w.heap.size C2.toArray) rfl rfl rfl rfl;exact ⟨w.heap.size,G,rfl,h1,hgl,h2⟩
theorem xz (g cap i vb:Nat) (xs:List EnL) (x:EnL) (w:World) (b:xs.length≤3000) (j:i≤xs.length) (f:vb≠g) (a:bY w g cap xs) (h:em w x.A x.c x.e.pl) (d:wl w vb x) :
  Calls Tryz.prog 131 #[.slice (some ⟨g,0,none⟩) xs.length cap,.int .i64 i,.slice (some ⟨vb,0,none⟩) 1 1] w fun e w'=>gr w g i xs x e w':=by
 rcases Nat.eq_or_lt_of_le j with rfl | hlt
 ·exact xA g cap vb xs x w b a h d
 rcases Nat.lt_or_ge cap (xs.length+1) with hc | hc
 ·exact ut g cap i vb xs x w b hlt hc a h d
 exact sx g cap i vb xs x w b hlt hc f a h d
theorem wN (g cap i:Nat) (xs:List EnL) (w:World) (Y:xs.length≤3000) (M:i<xs.length) (o:bY w g cap xs) :
  Calls Tryz.prog 130 #[.slice (some ⟨g,0,none⟩) xs.length cap,.int .i64 i,.int .i64 ((i:Int)+1)] w fun e w'=>e=.returned (.slice (some ⟨g,0,none⟩) (xs.length-1) cap)∧bY w' g cap (xs.take i ++ xs.drop (i+1))∧w.grownBy w' (some g):=by
 obtain ⟨i0,J,hz0,L,hz2⟩:=info_parts Tryz.infoEnt;have I:=o.2.2.1;unfold maxLen at I;have K:=o.2.1;obtain ⟨⟨j,b,v,x⟩,-,-,r⟩:=id o;obtain ⟨n,d⟩:=az xs.length;obtain ⟨news,a⟩:∃ news,news=ah (xs.drop (i+1)):=⟨_,rfl⟩;have k:news.length=(n-(i+1))*2:=by rw [a,cellsE_len,List.length_drop,d]
 have f:j.toList.length=cap*2:=by simpa using v
 rw [d] at Y M K;obtain ⟨C1,l⟩:∃ C1,C1=j.toList.take (i*2) ++ ah (xs.drop (i+1)) ++ j.toList.drop (i*2+(ah (xs.drop (i+1))).length):=⟨_,rfl⟩;obtain ⟨C2,q⟩:∃ C2,C2=C1.take ((xs.length-1)*2) ++ [.slice none 0 0,.int .i64 0] ++ C1.drop ((xs.length-1)*2+2):=⟨_,rfl⟩;obtain ⟨C,E⟩:=BV x (by rw [f,d];omega) (by rw [d];exact M) l q
 have B:C1.length=cap*2:=by
  rw [l,←a];simp only [List.length_append,List.length_take,List.length_drop,k,f]
  omega
 obtain ⟨A,hA,D⟩:∃ A:Addr,(if cap=i+1 then some (⟨g,0,none⟩:Addr) else some ⟨g,(i+1)*2,none⟩)=some A∧Hid (∀ t u,news[t]?=some u→w.drew.cell? (A.add t)=some u):=by
  by_cases h:cap=i+1
  ·refine ⟨⟨g,0,none⟩,by simp [h],fun t u F=>?_⟩
   have O:news.length=0:=by rw [k];omega
   rw [List.length_eq_zero_iff.1 O] at F
   simp at F
  refine ⟨⟨g,(i+1)*2,none⟩,by simp [h],fun t u F=>?_⟩
  rw [a,←eO,List.getElem?_drop] at F;rw [aK];exact o.cells _ u F
 have s1:=aa k;have s2:Hid (∀ u∈news,u.oneCell'=true):=by rw [a];exact bH _
 have s3:Hid (∀ t,t<news.length→(w.drew.cell? ⟨g,0+i*2+t,none⟩).isSome=true∧w.drew.frozen? ⟨g,0+i*2+t,none⟩=false):=by
  intro t ht;rw [k] at ht;exact ⟨o.full (by omega),o.frozen _⟩
 obtain ⟨W1,m⟩:∃ W1,W1=w.drew.setRow g C1.toArray:=⟨_,rfl⟩;have N:Hid (W1=w.drew.setCells g (0+i*2) news):=by
  show _=_
  rw [je g 83 news (0+i*2) j w.drew b (by rw [k];omega),m,l,Nat.zero_add,a]
 have p:W1.heap[g]?=some (.cells C1.toArray 83 (0,0)):=by rw [m];exact setRow_heap w.drew g j _ _ _ b
 have U:∀ ty c,(Builtin.clear_ #[35] ty #[.slice (some ⟨g,(i+(n-(i+1)))*2,none⟩) (n-(i+(n-(i+1)))) c]).run Tryz.prog W1=.ok (.tuple #[]) (W1.setRow g C2.toArray):=fun ty c=>by
  rw [show n-(i+(n-(i+1)))=1 by omega,show i+(n-(i+1))=n-1 by omega]
  rw [qA W1 35 83 ty (.agg #[.slice none 0 0,.int .i64 0]) (.slice none 0 0) (.int .i64 0) Tryz.underlying35 Tryz.zeroValue83 rfl rfl rfl g ((n-1)*2) c C1.toArray 83 p (by rw [List.size_toArray,B];omega),q,d]
 have s:Hid (bY (W1.setRow g C2.toArray) g cap (xs.take i ++ xs.drop (i+1))∧w.grownBy (W1.setRow g C2.toArray) (some g)):=by
  rw [m,setRow_setRow];have z:w.grownBy (w.drew.setRow g C2.toArray) (some g):=dA (eD (cV w _)) (fd ..);refine ⟨⟨⟨C2.toArray,setRow_heap w.drew g j _ _ _ b,by rw [List.size_toArray,C,f],E⟩,by simp;omega,o.2.2.1,fun y G=>?_⟩,z⟩
  refine em.grown ?_ b z
  rcases List.mem_append.1 G with G | G
  ·exact r y (List.mem_of_mem_take G)
  exact r y (List.mem_of_mem_drop G)
 rw [d];have Z:(n:Int)≤3000:=by omega
 have V:(i:Int)<(n:Int):=by omega
 have T:(n:Int)≤(cap:Int):=by omega
 have htn:((i:Int)+1).toNat=i+1:=by omega
 have P:(0:Int)≤(i:Int)+1:=by omega
 have Q:(i:Int)+1≤(n:Int):=by omega
 have R:(i:Int)+1≤(cap:Int):=by omega
 have S:(i:Int)≤(cap:Int):=by omega
 have W:i≤cap:=by omega
 have X:i+1≤cap:=by omega
 have H:Hid (n-1=i+(n-(i+1))):=by show _=_;omega
 clear d B C E l q k m p o b v x f r a
 go_enter Tryz.func130,Tryz.ntmps130
 go_wp2_with fail
 go_region_law (refine step_append_room rfl (.tmp 22) (.tmp 25) 35 rfl 83 i0 2 Tryz.underlying35 J L g 0 i cap (by simp [Act.eval,Act.put]) A (n-(i+1)) (cap-(i+1)) news (by simp [Act.eval,Act.put]) s1.out D.out s2.out (by omega) s3.out ?_;rw [←N.out])
 go_wp2_with fail;go_ret;rw [H.out];exact ⟨rfl,s.out⟩
theorem bY.put {w:World} {g cap:Nat} {zs:List EnL} (h:bY w g cap zs) (q:zs.length<cap) {x:EnL} (m:em w x.A x.c x.e.pl):bY ((w.setCell ⟨g,zs.length*2,none⟩ (.slice x.A x.e.pl.length x.c)).setCell ⟨g,zs.length*2+1,none⟩ (.int .i64 x.e.n)) g cap (zs ++ [x])∧w.grownBy ((w.setCell ⟨g,zs.length*2,none⟩ (.slice x.A x.e.pl.length x.c)).setCell ⟨g,zs.length*2+1,none⟩ (.int .i64 x.e.n)) (some g):=by
 obtain ⟨⟨a,f,i,j⟩,o,p,k⟩:=id h;have e:(w.setCell ⟨g,zs.length*2,none⟩ (.slice x.A x.e.pl.length x.c)).setCell ⟨g,zs.length*2+1,none⟩ (.int .i64 x.e.n)=w.setCells g (zs.length*2) (ah [x]):=rfl;have b:(ah [x]).length=2:=by rw [cellsE_len];rfl
 have l:a.toList.length=cap*2:=by simpa using i
 rw [e,je g 83 (ah [x]) (zs.length*2) a w f (by rw [b];omega)]
 refine ⟨h.lay ?_ ?_ (by simp;omega) fun y d=>?_,fd ..⟩
 ·simp only [List.length_append,List.length_take,List.length_drop,b,l]
  omega
 ·rw [cellsE_append,j]
  exact fF (by simp only [List.length_append,cellsE_len,List.length_cons,List.length_nil];omega)
 rcases List.mem_append.1 d with d | d
 ·exact k y d
 rw [List.mem_singleton.1 d];exact m
theorem jJ {w w':World} {g:Nat} (h:w.grownBy w' (some g)) (o:Nat) (v:Value):w.grownBy (w'.setCell ⟨g,o,none⟩ v) (some g) :=
 ⟨h.os,h.tape,h.output,by simpa using h.size,fun i b a=>(Below.heap_setCell w' ⟨g,o,none⟩ v i fun e=>a (by rw [e])).trans (h.block i b a)⟩
theorem Ch {w w':World} {r:Option Nat} (h:w.grownBy w' r) (o:Obj):w.grownBy (w'.alloc o) r :=
 ⟨h.os,h.tape,h.output,by have:=h.size;simp;omega,fun i a b=>(Below.heap_alloc w' o i (zW a h.size)).trans (h.block i a b)⟩
theorem IX {W w':World} {g q:Nat} {u v:Value} (h:q<W.heap.size∧q≠g∧W.cell? ⟨q,0,none⟩=some u∧W.cell? ⟨q,1,none⟩=some v) (b:W.grownBy w' (some g)):W.grownBy w' (some g)∧w'.cell? ⟨q,0,none⟩=some u∧w'.cell? ⟨q,1,none⟩=some v:=by
 have c:w'.heap[q]?=W.heap[q]?:=b.block q h.1 fun e=>h.2.1 (by simpa using e)
 exact ⟨b,(World.cell?_of_block (a:=⟨q,0,none⟩) c).trans h.2.2.1,(World.cell?_of_block (a:=⟨q,1,none⟩) c).trans h.2.2.2⟩
theorem rf (AE:Option Addr) (ce:Nat) (xs:List EnL) (w:World) (hn:xs.length≤3000) (hS:∀ k,k<xs.length→(xs.getD k aJ).e.pl.length≤4) (hE:b7 w AE ce xs) :
  Calls Tryz.prog 32 #[.slice AE xs.length ce] w fun e w'=>(∃ ys,e=.returned (.slice (some ⟨w.heap.size,0,none⟩) xs.length xs.length)∧bY w' w.heap.size xs.length ys∧lE ys=lE xs∧dS w.heap.size ys)∧Bl w w':=by
 obtain ⟨i0,hi0,hz0,hz1,K⟩:=info_parts Tryz.infoEnt;have HE:=aa hE;have HS:=aa hS;obtain ⟨n,J⟩:=az xs.length;have HN:=aa J;rw [J] at hn ⊢;have hmk:∀ w',(Instr.makeSlice 35 (.int .i64 n) (.int .i64 n)).run Tryz.prog w'=.ok (.slice (some ⟨w'.heap.size,0,none⟩) n n) (w'.alloc (.cells (madeCells (Value.agg #[.slice none 0 0,.int .i64 0]).cells (n*2)) 83)):=fun w'=>by
  have h:=run_make (P:=Tryz.prog) w' 35 83 i0 _ Tryz.underlying35 hi0 hz0 .i64 .i64 n n (by omega) (Int.le_refl _) (by rw [K];omega) (by omega)
  rw [hz1] at h
  simpa using h
 have HR0:Hid (bY (w.alloc (.cells (madeCells (Value.agg #[.slice none 0 0,.int .i64 0]).cells (n*2)) 83)) w.heap.size n []):=⟨⟨_,heap_alloc_new w _,size_madeCells _ _,by simp [ah]⟩,zU,by unfold maxLen;omega,fun x hx=>by cases hx⟩
 have W:(n:Int)≤3000:=by omega
 clear hE hS J
 go_enter Tryz.func32,Tryz.ntmps32
 go_wp2_with fail;clear hmk
 go_loopg [11] n (fun g s11 wr => ∃ (k:Nat) (zs:List EnL),k≤n∧g=n-k∧s11=.int .i64 k∧zs.length=k∧Hid (lE zs=(lE xs).take k∧dS w.heap.size zs)∧bY wr w.heap.size n zs∧Bl w wr)
 case atStart=>exact ⟨0,[],zU,rfl,rfl,rfl,(⟨by simp [lE],fun _ h=>by cases h⟩:lE []=(lE xs).take 0∧dS w.heap.size []),HR0.out,by go_grown⟩
 case round =>
  obtain ⟨k,zs,hk,rfl,rfl,L,Z,i,B⟩:=hrel;have C:=aa i;have z:=aa B;have H:=aa L
  by_cases V:k<n
  ·have s:k<xs.length:=by rw [HN.out];exact V
   have hki:(k:Int)<(n:Int):=by omega
   obtain ⟨-,-,h0 | ⟨b,o,rfl,I⟩⟩:=HE.out.later B
   ·have:=HN.out;rw [h0] at this;simp at this;omega
   obtain ⟨c1,c2⟩:=I.at s;have F:Hid (∀ w',Bl wr w'→Calls Tryz.prog 67 #[.slice (xs.getD k aJ).A (xs.getD k aJ).e.pl.length (xs.getD k aJ).c] w' fun e w''=>(∃ A' d,e=.returned (.slice A' (xs.getD k aJ).e.pl.length d)∧em w'' A' d (xs.getD k aJ).e.pl∧eX w.heap.size A')∧Bl w' w''):=fun w' X=>(qT _ _ _ w' (HS.out k s) ((I.pl s).later X)).mono fun _ _ ⟨⟨A',d,Q,R,h3⟩,h4⟩=>⟨⟨A',d,Q,R,h3.le (zV z.out.size X.size)⟩,h4⟩
   have l:=dh wr (xs.getD k aJ).A (xs.getD k aJ).e.pl.length (xs.getD k aJ).c (xs.getD k aJ).e.n 83;have q:=aa l;have v:=kI wr (xs.getD k aJ).A (xs.getD k aJ).e.pl.length (xs.getD k aJ).c (xs.getD k aJ).e.n 83;have t:=sQ wr (xs.getD k aJ).A (xs.getD k aJ).e.pl.length (xs.getD k aJ).c (xs.getD k aJ).e.n 83;have u:=Bd wr (xs.getD k aJ).A (xs.getD k aJ).e.pl.length (xs.getD k aJ).c (xs.getD k aJ).e.n 83;have G:Hid ((lE xs).take (k+1)=(lE xs).take k ++ [(xs.getD k aJ).e]):=by
    show _=_
    rw [List.take_succ_eq_append_getElem (by rw [a7];exact s),←lE_at,zZ,zX (by rw [a7];exact s)]
    rfl
   have hwg:w.heap.size<wr.heap.size:=i.lt;generalize xs.getD k aJ=x at c1 c2 F q v t u G;clear I l i B L;have r:Hid (∀ (w3:World) (A':Option Addr) (d:Nat),bY w3 w.heap.size n zs→em w3 A' d x.e.pl→bY ((w3.setCell ⟨w.heap.size,k*2,none⟩ (.slice A' x.e.pl.length d)).setCell ⟨w.heap.size,k*2+1,none⟩ (.int .i64 x.e.n)) w.heap.size n (zs ++ [⟨x.e,A',d⟩])∧w3.grownBy ((w3.setCell ⟨w.heap.size,k*2,none⟩ (.slice A' x.e.pl.length d)).setCell ⟨w.heap.size,k*2+1,none⟩ (.int .i64 x.e.n)) (some w.heap.size)):=fun w3 A' d Q R=>by
    have h3:=Q.put (by rw [H.out];exact V) (x:=⟨x.e,A',d⟩) R
    rw [H.out] at h3;exact h3
   have HLN:Hid (∀ A' d,eX w.heap.size A'→lE (zs ++ [⟨x.e,A',d⟩])=(lE xs).take (k+1)∧dS w.heap.size (zs ++ [⟨x.e,A',d⟩])):=fun A' d W=>⟨by rw [rq,Z.out.1,G.out];rfl,fun y Y=>by
    rcases List.mem_append.1 Y with Y | Y
    ·exact Z.out.2 y Y
    rw [List.mem_singleton.1 Y];exact W⟩
   generalize hxl:x.e.pl.length=m at c1 F q v t u r;generalize x.e.n=N at c2 q v t u r;clear hxl G;go_wp2_with fail;obtain ⟨W2,p⟩:=az (wr.alloc (.cells #[.slice x.A m x.c,.int .i64 N] 83));have l:Bl wr W2:=by rw [←p];exact q.out
   have K:wr.heap.size<W2.heap.size:=by rw [←p];show _<(dt wr x.A m x.c N 83).heap.size;rw [v];omega
   have M:Hid (wr.heap.size<W2.heap.size∧wr.heap.size≠w.heap.size∧W2.cell? ⟨wr.heap.size,0,none⟩=some (.slice x.A m x.c)∧W2.cell? ⟨wr.heap.size,1,none⟩=some (.int .i64 N)):=by rw [←p];exact ⟨by rw [p];exact K,by omega,t,u⟩
   have D:=aa l;have a:=aa (C.out.later l);rw [p];clear p l v t u q c1 c2
   go_region_held3 (fun w'=>W2.grownBy w' (some w.heap.size)∧w'.cell? ⟨wr.heap.size,0,none⟩=some (.slice x.A m x.c)∧w'.cell? ⟨wr.heap.size,1,none⟩=some (.int .i64 N))
    ((refine IX M.out ?_;(repeat (first | exact cV _ _ | assumption | refine eD ?_ | refine jJ ?_ _ _));done))
    (first | (go_at_call 67;refine (F.out _ (ae D.out (by go_grown))).mono ?_;rintro e w3 ⟨⟨A',d,rfl,T,S⟩,U⟩;have f:=ae (W0:=W2) (by go_grown) U;have HNw:=aa S;clear S;have hG3:W2.grownBy w3 (some w.heap.size):=bB f;have E:=aa f;have HPT:=aa T;obtain ⟨u0,d0⟩:=Option.isSome_iff_exists.1 ((a.out.later f).full (j:=k*2) (by omega));obtain ⟨u1,d1⟩:=Option.isSome_iff_exists.1 ((a.out.later f).full (j:=k*2+1) (by omega));have f0:=(a.out.later f).frozen (k*2);have f1:=(a.out.later f).frozen (k*2+1);clear U f T))
   clear d0 d1 f0 f1 hG3;go_wp2_with fail
   go_roundg (n-(k+1))
   case measure=>omega
   case rel =>
    obtain ⟨Q,R⟩:=r.out w3 A' d (a.out.later E.out) HPT.out;refine ⟨k+1,_,by omega,rfl,by go_num,?_,HLN.out A' d HNw.out,Q,?_⟩
    ·rw [List.length_append,H.out];rfl
    exact jm (ae z.out (ae D.out E.out)) R (ae z.out (ae D.out E.out)).size (zT)
  have hke:k=n:=by omega
  subst hke;have O:Hid (lE zs=lE xs∧dS w.heap.size zs):=⟨by rw [Z.out.1,List.take_of_length_le (by rw [a7,HN.out];exact zT)],Z.out.2⟩
  clear i B L;go_wp2_with fail;go_ret;exact ⟨⟨zs,rfl,C.out,O.out⟩,z.out⟩
theorem Cd (AE:Option Addr) (a:Nat) (xs:List EnL) (w:World) (i:xs.length≤3000) (h:∀ k,k<xs.length→(xs.getD k aJ).e.pl.length≤4) (g:b7 w AE a xs) :
  Calls Tryz.prog 32 #[.slice AE xs.length a] w fun e w'=>(∃ ys,e=.returned (.slice (some ⟨w.heap.size,0,none⟩) xs.length xs.length)∧bY w' w.heap.size xs.length ys∧lE ys=lE xs)∧Bl w w' :=
 (rf AE a xs w i h g).mono fun _ _ ⟨⟨ys,b,c,d,_⟩,f⟩=>⟨⟨ys,b,c,d⟩,f⟩
def nW (M:Nat) (w:World) (g:Nat) (E:Int) (l:List En) (e:Ending) (w':World):Prop :=
 (∃ B c ys,e=.returned (.tuple #[.slice B ys.length c,errV E])∧((E≠0∧B=none∧c=0∧ys=[])∨(E=0∧∃ g',B=some ⟨g',0,none⟩∧g≤g'∧bY w' g' c ys∧lE ys=l∧dS M ys)))∧w.grownBy w' (some g)
theorem EV (D:Nat→Dm) (n:Nat) (l:List En) (p:List Int) (N:Int):editErr D n l ⟨p,N,false⟩=entOne D n ⟨p,N⟩:=by
 unfold editErr entOne
 rfl
theorem Cn {M:Nat} (A0:Option Addr) (cap n:Nat) (D:Nat→Dm) (A:Nat→Option Addr) (C:Nat→Nat) (g K:Nat) (xs:List EnL) (Ap:Option Addr) (l:Nat) (p:List Int) (N:Int) (w:World) (hM:aW w A0 cap n D A C) (hP:aZ w Ap l p) (hR:bY w g K xs) (T:Ens D n (lE xs)) (hMx:dS M xs) (hMw:M≤w.heap.size) :
  Calls Tryz.prog 92 #[.agg #[.slice A0 n cap],.slice (some ⟨g,0,none⟩) xs.length K,.agg #[.slice Ap p.length l,.int .i64 N]] w fun e w'=>nW M w g (editErr D n (lE xs) ⟨p,N,false⟩) (setL (lE xs) p N) e w':=by
 rw [EV];have R:=nc w A0 n cap Ap p.length l N;have h:=mW A0 cap n D A C Ap l ⟨p,N⟩ (lw w A0 n cap Ap p.length l N) T.right (hM.later R) (hP.later R);have y:=aa R;have I:=pC w A0 n cap Ap p.length l N;have r:=Ip w A0 n cap Ap p.length l N;have s:=Be w A0 n cap Ap p.length l N;have HP:=aa hP;have HR:=aa hR;have HEs:=aa T;have hgw:g<w.heap.size:=hR.lt;have o:=kA T;unfold nW;clear hM hP R hR
 by_cases Y:entOne D n ⟨p,N⟩=0
 ·obtain ⟨hI,-,-⟩:=dZ T.right Y
  have HF:Hid (∀ w',Bl w w'→Rt 129 #[.slice (some ⟨g,0,none⟩) xs.length K,.slice Ap p.length l] w' (.tuple #[.int .i64 (cntE (lE xs) p:Nat),.bool (hasE (lE xs) p)])):=fun w' b=>rh _ _ xs Ap l p w' o ((HR.out.later b).ensV) HEs.out.rise (pX HEs.out hI) (HP.out.later b)
  have L:Hid (∀ w',Bl w w'→Calls Tryz.prog 67 #[.slice Ap p.length l] w' fun e w''=>(∃ A' q,e=.returned (.slice A' p.length q)∧em w'' A' q p∧eX M A')∧Bl w' w''):=fun w' b=>(qT _ _ _ w' (eQ hI) (HP.out.later b)).mono fun _ _ ⟨⟨A',q,Q,W,h3⟩,h4⟩=>⟨⟨A',q,Q,W,h3.le (zV hMw b.size)⟩,h4⟩
  have B:=EF (lE xs) p;rw [a7] at B;rw [Y,errV_zero] at h ⊢;clear Y hI;cases hh:hasE (lE xs) p
  ·-- nothing stood there
   have O:Hid (∀ (w3:World) (A':Option Addr) (q:Nat),Bl w w3→em w3 A' q p∧eX M A'→Calls Tryz.prog 131 #[.slice (some ⟨g,0,none⟩) xs.length K,.int .i64 (cntE (lE xs) p:Nat),.slice (some ⟨w3.heap.size,0,none⟩) 1 1] (dt w3 A' p.length q N 83) fun e w' => ∃ g' d ys,e=.returned (.slice (some ⟨g',0,none⟩) (xs.length+1) d)∧ys.length=xs.length+1∧bY w' g' d ys∧lE ys=setL (lE xs) p N∧dS M ys∧g≤g'∧(dt w3 A' p.length q N 83).grownBy w' (some g)):=fun w3 A' q b hT=>by
    have hb:=dh w3 A' p.length q N 83;have Q:=xz g K (cntE (lE xs) p) w3.heap.size xs ⟨⟨p,N⟩,A',q⟩ (dt w3 A' p.length q N 83) o B (by have:=b.size;omega) ((HR.out.later b).later hb) (hT.1.later hb) (heap_alloc_new w3 _)
    refine Q.mono ?_;rintro e w' ⟨g',d,rfl,x,Z,U⟩;exact ⟨g',d,_,rfl,by simp;omega,x,by rw [Jn,IG hh],hMx.put hT.2,Z,U⟩
   have f:Hid (∀ w',Bl w w'→Rt 129 #[.slice (some ⟨g,0,none⟩) xs.length K,.slice Ap p.length l] w' (.tuple #[.int .i64 (cntE (lE xs) p:Nat),.bool false])):=fun w' b=>by have Q:=HF.out w' b;rw [hh] at Q;exact Q
   clear HF hh;generalize cntE (lE xs) p=i at f O B;obtain ⟨m,hm⟩:=az p.length;obtain ⟨nx,F⟩:=az xs.length;rw [hm] at h y I r s L f O ⊢;rw [F] at f O o B ⊢;clear hm F
   go_enter Tryz.func92,Tryz.ntmps92
   go_wp2_with fail;refine h.mono ?_;rintro e w1 ⟨rfl,a⟩;have t:Bl w w1:=ae y.out a;have G:=aa t;have c0:w1.cell? ⟨w.heap.size+1,0,none⟩=some (.slice Ap m l):=aC a (by show w.heap.size+1<_;omega) r
   have c1:w1.cell? ⟨w.heap.size+1,1,none⟩=some (.int .i64 N):=aC a (by show w.heap.size+1<_;omega) s
   have J:w.heap.size+1<w1.heap.size:=by have:=a.size;omega
   have W:=f.out w1 t;clear a h t r s I;go_wp2_with fail;refine W.mono ?_;rintro e w2 ⟨rfl,k⟩;have z:=aa (ae G.out k);have d0:w2.cell? ⟨w.heap.size+1,0,none⟩=some (.slice Ap m l):=aC k J c0;have d1:w2.cell? ⟨w.heap.size+1,1,none⟩=some (.int .i64 N):=aC k J c1;have HBox:Hid (w.heap.size+1<w2.heap.size∧w.heap.size+1≠g∧w2.cell? ⟨w.heap.size+1,0,none⟩=some (.slice Ap m l)∧w2.cell? ⟨w.heap.size+1,1,none⟩=some (.int .i64 N)):=⟨zW J k.size,by omega,d0,d1⟩
   clear k c0 c1 W d0 d1;go_wp2_with fail
   go_region_held3 (fun w'=>w2.grownBy w' (some g)∧w'.cell? ⟨w.heap.size+1,0,none⟩=some (.slice Ap m l)∧w'.cell? ⟨w.heap.size+1,1,none⟩=some (.int .i64 N))
    ((refine IX HBox.out ?_;(repeat (first | exact cV _ _ | assumption | refine eD ?_ | refine jJ ?_ _ _ | refine Ch ?_ _));done))
    (first | (go_at_call 67;refine (L.out _ (ae z.out (by go_grown))).mono ?_;rintro e w3 ⟨⟨A',q,rfl,hPT,hNw⟩,hb3⟩;have X:=ae (W0:=w2) (by go_grown) hb3;have hG3:w2.grownBy w3 (some g):=bB X;have HB3:=aa X;have HPT:Hid (em w3 A' q p∧eX M A'):=⟨hPT,hNw⟩;clear hb3 X hPT hNw) | (go_at_call 131;refine (O.out w3 A' q (ae z.out HB3.out) HPT.out).mono ?_;rintro e w4 ⟨g',d,ys,rfl,hyl,x,hle,hnw,Z,U⟩;have hG4:w2.grownBy w4 (some g):=dA (dA hG3 (bB (dh ..))) U;have HRow:=aa x;have P:Hid (lE ys=setL (lE xs) p N∧dS M ys):=⟨hle,hnw⟩;have H:=aa hyl;clear x hle U hyl hnw))
   go_wp2_with fail
   go_ret2
   exact ⟨⟨some ⟨g',0,none⟩,d,ys,by rw [H.out];rfl,Or.inr ⟨by trivial,g',rfl,Z,HRow.out,P.out⟩⟩,dA (bB z.out) hG4⟩
  -- something stood there
  obtain ⟨hso,v,-⟩:=th hh N;have V:Hid (∀ w',Bl w w'→bY (w'.setCell ⟨g,cntE (lE xs) p*2+1,none⟩ (.int .i64 N)) g K (xs.set (cntE (lE xs) p) ⟨⟨(xs.getD (cntE (lE xs) p) aJ).e.pl,N⟩,(xs.getD (cntE (lE xs) p) aJ).A,(xs.getD (cntE (lE xs) p) aJ).c⟩)∧w'.grownBy (w'.setCell ⟨g,cntE (lE xs) p*2+1,none⟩ (.int .i64 N)) (some g)):=fun w' b=>(HR.out.later b).setN (by rw [a7] at v;exact v) N
  have P:Hid (lE (xs.set (cntE (lE xs) p) ⟨⟨(xs.getD (cntE (lE xs) p) aJ).e.pl,N⟩,(xs.getD (cntE (lE xs) p) aJ).A,(xs.getD (cntE (lE xs) p) aJ).c⟩)=setL (lE xs) p N∧dS M (xs.set (cntE (lE xs) p) ⟨⟨(xs.getD (cntE (lE xs) p) aJ).e.pl,N⟩,(xs.getD (cntE (lE xs) p) aJ).A,(xs.getD (cntE (lE xs) p) aJ).c⟩)):=⟨by rw [Jo,hso,lE_at],hMx.set (by rw [a7] at v;exact v) _ _⟩
  have f:Hid (∀ w',Bl w w'→Rt 129 #[.slice (some ⟨g,0,none⟩) xs.length K,.slice Ap p.length l] w' (.tuple #[.int .i64 (cntE (lE xs) p:Nat),.bool true])):=fun w' b=>by have Q:=HF.out w' b;rw [hh] at Q;exact Q
  have H:Hid ((xs.set (cntE (lE xs) p) ⟨⟨(xs.getD (cntE (lE xs) p) aJ).e.pl,N⟩,(xs.getD (cntE (lE xs) p) aJ).A,(xs.getD (cntE (lE xs) p) aJ).c⟩).length=xs.length):=List.length_set;rw [a7] at v;clear HF hh hso;generalize xs.set (cntE (lE xs) p) ⟨⟨(xs.getD (cntE (lE xs) p) aJ).e.pl,N⟩,(xs.getD (cntE (lE xs) p) aJ).A,(xs.getD (cntE (lE xs) p) aJ).c⟩=ys at V P H;generalize cntE (lE xs) p=i at f V B v;obtain ⟨m,hm⟩:=az p.length;obtain ⟨nx,F⟩:=az xs.length;rw [hm] at h y I r s L f ⊢;rw [F] at f o B v H ⊢;have hil':(i:Int)<(nx:Int):=by omega
  have hcg:nx≤K:=by rw [←F];exact HR.out.2.1
  clear hm F L
  go_enter Tryz.func92,Tryz.ntmps92
  go_wp2_with fail;refine h.mono ?_;rintro e w1 ⟨rfl,a⟩;have t:Bl w w1:=ae y.out a;have G:=aa t;have c0:w1.cell? ⟨w.heap.size+1,0,none⟩=some (.slice Ap m l):=aC a (by show w.heap.size+1<_;omega) r
  have c1:w1.cell? ⟨w.heap.size+1,1,none⟩=some (.int .i64 N):=aC a (by show w.heap.size+1<_;omega) s
  have J:w.heap.size+1<w1.heap.size:=by have:=a.size;omega
  have W:=f.out w1 t;clear a h t r s I;go_wp2_with fail;refine W.mono ?_;rintro e w2 ⟨rfl,k⟩;have S:Bl w w2:=ae G.out k;have z:=aa S;have d1:w2.cell? ⟨w.heap.size+1,1,none⟩=some (.int .i64 N):=aC k J c1;obtain ⟨u,hu⟩:=Option.isSome_iff_exists.1 ((HR.out.later S).full (j:=i*2+1) (by omega))
  have hf:=(HR.out.later S).frozen (i*2+1);clear k c0 c1 W S;go_wp2_with fail
  go_ret2
  obtain ⟨r1,r2⟩:=V.out w2 z.out;exact ⟨⟨some ⟨g,0,none⟩,K,ys,by rw [H.out];rfl,Or.inr ⟨by trivial,g,rfl,zT,r1,P.out⟩⟩,dA (bB z.out) r2⟩
 have HV:Hid (errV (entOne D n ⟨p,N⟩)=.iface 63 (.int .i64 (entOne D n ⟨p,N⟩))):=ak Y;rw [ak Y] at h;have HE:=aa Y;generalize entOne D n ⟨p,N⟩=E at h HV HE;generalize p.length=m at h y;generalize xs.length=nx;clear Y I r s o
 go_enter Tryz.func92,Tryz.ntmps92
 go_wp2_with fail;refine h.mono ?_;rintro e w1 ⟨rfl,a⟩;have G:=aa (ae y.out a);clear a;go_wp2_with fail
 go_ret2
 rw [HV.out];exact ⟨⟨none,0,[],rfl,Or.inl ⟨HE.out,rfl,rfl,rfl⟩⟩,bB G.out⟩
theorem EU {D:Nat→Dm} {n:Nat} {l:List En} (a:(am D n).2.2=0) (p:List Int) (N:Int):editErr D n l ⟨p,N,true⟩=if placeErr D n p≠0 then placeErr D n p else if hasE l p=true then 0 else 5:=by
 rw [D6 a];unfold editErr
 rfl
theorem so {l:List En} {p:List Int} (h:hasE l p=true):cntE l p<l.length:=(th h 0).2.1
theorem v6 {M:Nat} (A0:Option Addr) (cap n:Nat) (D:Nat→Dm) (A:Nat→Option Addr) (C:Nat→Nat) (g r:Nat) (xs:List EnL) (Ap:Option Addr) (G:Nat) (p:List Int) (N:Int) (w:World) (Y:aW w A0 cap n D A C) (U:aZ w Ap G p) (Z:bY w g r xs) (I:Ens D n (lE xs)) (T:dS M xs) :
  Calls Tryz.prog 91 #[.agg #[.slice A0 n cap],.slice (some ⟨g,0,none⟩) xs.length r,.slice Ap p.length G] w fun e w'=>nW M w g (editErr D n (lE xs) ⟨p,N,true⟩) (clrL (lE xs) p) e w':=by
 have s:=EU (l:=lE xs) I.right p N;have t:=ao w A0 n cap 24;have h:=kJ A0 cap n D A C Ap G p (ax w A0 n cap 24) (Y.later t) (U.later t);have y:=aa t;have HP:=aa U;have V:=aa Z;have J:=aa I;have c:=kA I;unfold nW;clear Y U t Z
 by_cases v:placeErr D n p=0
 ·rw [if_neg (by simpa using v)] at s
  have X:=fY v;have S:Hid (∀ w',Bl w w'→Rt 129 #[.slice (some ⟨g,0,none⟩) xs.length r,.slice Ap p.length G] w' (.tuple #[.int .i64 (cntE (lE xs) p:Nat),.bool (hasE (lE xs) p)])):=fun w' d=>rh _ _ xs Ap G p w' c ((V.out.later d).ensV) J.out.rise (pX J.out X) (HP.out.later d)
  rw [v,errV_zero] at h;clear v X;cases hh:hasE (lE xs) p
  ·rw [hh,if_neg (by simp)] at s
   have HV:Hid (errV (editErr D n (lE xs) ⟨p,N,true⟩)=.iface 63 (.int .i64 5)∧editErr D n (lE xs) ⟨p,N,true⟩≠0):=by rw [s];exact ⟨rfl,by decide⟩
   have a:Hid (∀ w',Bl w w'→Rt 129 #[.slice (some ⟨g,0,none⟩) xs.length r,.slice Ap p.length G] w' (.tuple #[.int .i64 (cntE (lE xs) p:Nat),.bool false])):=fun w' d=>by have O:=S.out w' d;rw [hh] at O;exact O
   clear S hh s;generalize cntE (lE xs) p=i at a;generalize editErr D n (lE xs) ⟨p,N,true⟩=E at HV;obtain ⟨m,R⟩:=az p.length;obtain ⟨nx,q⟩:=az xs.length;rw [R] at h a ⊢;rw [q] at a c ⊢;clear R q
   go_enter Tryz.func91,Tryz.ntmps91
   go_wp2_with fail;refine h.mono ?_;rintro e w1 ⟨rfl,b⟩;have f:Bl w w1:=ae y.out b;have k:=aa f;have P:=a.out w1 f;clear b h f;go_wp2_with fail;refine P.mono ?_;rintro e w2 ⟨rfl,o⟩;have z:=aa (ae k.out o);clear o P;go_wp2_with fail
   go_ret2
   rw [HV.out.1];exact ⟨⟨none,0,[],rfl,Or.inl ⟨HV.out.2,rfl,rfl,rfl⟩⟩,bB z.out⟩
  rw [hh,if_pos rfl] at s;have u:=so hh;rw [a7] at u;have j:Hid (∀ w',Bl w w'→Calls Tryz.prog 130 #[.slice (some ⟨g,0,none⟩) xs.length r,.int .i64 (cntE (lE xs) p:Nat),.int .i64 ((cntE (lE xs) p:Int)+1)] w' fun e w''=>e=.returned (.slice (some ⟨g,0,none⟩) (xs.length-1) r)∧bY w'' g r (xs.take (cntE (lE xs) p) ++ xs.drop (cntE (lE xs) p+1))∧w'.grownBy w'' (some g)):=fun w' d=>wN g r (cntE (lE xs) p) xs w' c u (V.out.later d)
  have K:Hid (lE (xs.take (cntE (lE xs) p) ++ xs.drop (cntE (lE xs) p+1))=clrL (lE xs) p∧dS M (xs.take (cntE (lE xs) p) ++ xs.drop (cntE (lE xs) p+1))):=⟨by unfold clrL;rw [rq,lE_take,Hu],T.cut⟩
  have B:Hid ((xs.take (cntE (lE xs) p) ++ xs.drop (cntE (lE xs) p+1)).length=xs.length-1):=by show _=_;simp;omega
  have a:Hid (∀ w',Bl w w'→Rt 129 #[.slice (some ⟨g,0,none⟩) xs.length r,.slice Ap p.length G] w' (.tuple #[.int .i64 (cntE (lE xs) p:Nat),.bool true])):=fun w' d=>by have O:=S.out w' d;rw [hh] at O;exact O
  rw [s,errV_zero];clear S hh s;generalize hys:xs.take (cntE (lE xs) p) ++ xs.drop (cntE (lE xs) p+1)=ys at j K B;clear hys;generalize cntE (lE xs) p=i at a j u;obtain ⟨m,R⟩:=az p.length;obtain ⟨nx,q⟩:=az xs.length;rw [R] at h a ⊢;rw [q] at a j c u B ⊢;have u9:(i:Int)<(nx:Int):=by omega
  clear R q
  go_enter Tryz.func91,Tryz.ntmps91
  go_wp2_with fail;refine h.mono ?_;rintro e w1 ⟨rfl,b⟩;have f:Bl w w1:=ae y.out b;have k:=aa f;have P:=a.out w1 f;clear b h f;go_wp2_with fail;refine P.mono ?_;rintro e w2 ⟨rfl,o⟩;have H:Bl w w2:=ae k.out o;have z:=aa H;have W:=j.out w2 H;clear o P H;go_wp2_with fail;refine W.mono ?_;rintro e w3 ⟨rfl,x,Q⟩;have L:=aa x;have HG:=aa Q;clear x Q W;go_wp2_with fail
  go_ret2
  exact ⟨⟨some ⟨g,0,none⟩,r,ys,by rw [B.out];rfl,Or.inr ⟨by trivial,g,rfl,zT,L.out,K.out⟩⟩,dA (bB z.out) HG.out⟩
 rw [if_pos (by simpa using v)] at s
 have HV:Hid (errV (editErr D n (lE xs) ⟨p,N,true⟩)=.iface 63 (.int .i64 (placeErr D n p))∧editErr D n (lE xs) ⟨p,N,true⟩≠0):=by rw [s];exact ⟨ak v,v⟩
 rw [ak v] at h;clear v s;generalize placeErr D n p=F at h HV;generalize editErr D n (lE xs) ⟨p,N,true⟩=E at HV;generalize p.length=m at h;generalize xs.length=nx;clear c
 go_enter Tryz.func91,Tryz.ntmps91
 go_wp2_with fail;refine h.mono ?_;rintro e w1 ⟨rfl,b⟩;have k:=aa (ae y.out b);clear b;go_wp2_with fail
 go_ret2
 rw [HV.out.1];exact ⟨⟨none,0,[],rfl,Or.inl ⟨HV.out.2,rfl,rfl,rfl⟩⟩,bB k.out⟩
def pF (E:Int) (l:List En):List En:=if E=0 then l else []
theorem CU {E:Int} (h:E≠0) (l:List En):pF E l=[]:=by unfold pF;rw [if_neg h]
theorem pG (l:List En):pF 0 l=l:=rfl
theorem oV {D:Nat→Dm} {n:Nat} {xs:List EnL} (a:Ens D n (lE xs)):∀ k,k<xs.length→(xs.getD k aJ).e.pl.length≤4:=fun k c=>by
 have b:(xs.getD k aJ).e∈lE xs:=List.mem_map.2 ⟨_,iX c,rfl⟩;exact eQ (a.each _ b).1
theorem Jp {xs ys:List EnL} (h:lE ys=lE xs):ys.length=xs.length:=by rw [←a7,h,a7]
theorem mG (A B:Option Addr) (F G:Nat) (a b:List Int) (w:World) (N:a.length≤4) (P:b.length≤4) (H:aZ w A F a) (I:aZ w B G b):Rt 46 #[.slice A a.length F,.slice B b.length G] w (.bool (lessL a b)):=by
 have L:=aa H;have M:=aa I;have v:Hid (∀ k,k<a.length→k<b.length→lessL (a.drop k) (b.drop k)=if a.getD k 0=b.getD k 0 then lessL (a.drop (k+1)) (b.drop (k+1)) else decide (a.getD k 0<b.getD k 0)):=fun k D s=>Fo D s
 have u:Hid (∀ k,b.length≤k→lessL (a.drop k) (b.drop k)=false):=fun k s=>xG s
 have z:Hid (∀ k,a.length≤k→k<b.length→lessL (a.drop k) (b.drop k)=true):=fun k D s=>uz D s
 obtain ⟨na,l⟩:=az a.length;obtain ⟨nb,m⟩:=az b.length;have q:=aa l;have r:=aa m;rw [l] at v z N;rw [m] at v u z P;rw [l,m];have O:(na:Int)≤4:=by omega
 have Q:(nb:Int)≤4:=by omega
 clear H I l m
 go_enter Tryz.func46,Tryz.ntmps46
 go_wp2_with fail
 go_loopg [5] na (fun g s5 wr => ∃ (k:Nat),k≤na∧k≤nb∧g=na-k∧s5=.int .i64 k∧Hid (lessL (a.drop k) (b.drop k)=lessL a b)∧Bl w wr)
 case atStart=>exact ⟨0,zU,zU,rfl,rfl,(rfl:lessL (a.drop 0) (b.drop 0)=lessL a b),zS⟩
 case round =>
  obtain ⟨k,Z,T,rfl,rfl,p,c⟩:=hrel;have f:=aa c
  by_cases t:k<na
  ·have U:(k:Int)<(na:Int):=by omega
   by_cases j:k<nb
   ·obtain ⟨Y,C | ⟨g1,o1,rfl,R,h⟩⟩:=L.out.later c
    ·have:=q.out;rw [C] at this;simp at this;omega
    obtain ⟨S,C | ⟨g2,o2,rfl,J,d⟩⟩:=M.out.later c
    ·have:=r.out;rw [C] at this;simp at this;omega
    have W:=h k (by rw [q.out];exact t)
    have X:=d k (by rw [r.out];exact j)
    have n:(k:Int)<(nb:Int):=by omega
    have e:=v.out k t j;generalize a.getD k 0=x at W e;generalize b.getD k 0=y at X e;clear h d c
    by_cases o:x=y
    ·have i:Hid (lessL (a.drop (k+1)) (b.drop (k+1))=lessL a b):=by show _=_;rw [←p.out,e,if_pos o]
     subst o;clear e;go_wp2_with fail
     go_quiet (fail)
     go_wp2_with fail
     go_roundg (na-(k+1))
     case measure=>omega
     case rel=>exact ⟨k+1,by omega,by omega,rfl,by go_num,i,ac f.out _⟩
    have i:Hid (lessL a b=decide (x<y)):=by show _=_;rw [←p.out,e,if_neg o]
    clear e;go_wp2_with fail
    go_quiet (fail)
    go_wp2_with fail
    go_quiet (fail)
    go_wp2_with fail;go_ret;rw [i.out];exact ⟨rfl,ac (ac f.out _) _⟩
   have i:Hid (lessL a b=false):=by show _=_;rw [←p.out,u.out k (by omega)]
   have n:(nb:Int)≤(k:Int):=by omega
   have V:decide ((na:Int)<(nb:Int))=false:=decide_eq_false (by omega)
   have K:decide (na<nb)=false:=decide_eq_false (by omega)
   clear c;go_wp2_with fail;go_ret;rw [i.out];exact ⟨rfl,f.out⟩
  have E:k=na:=by omega
  subst E
  by_cases j:k<nb
  ·have i:Hid (lessL a b=true):=by show _=_;rw [←p.out,z.out k (zT) j]
   have n:(k:Int)<(nb:Int):=by omega
   clear c;go_wp2_with fail;go_ret;rw [i.out];exact ⟨rfl,f.out⟩
  have i:Hid (lessL a b=false):=by show _=_;rw [←p.out,u.out k (by omega)]
  have n:(nb:Int)≤(k:Int):=by omega
  clear c;go_wp2_with fail;go_ret;rw [i.out];exact ⟨rfl,f.out⟩
theorem rJ (A:Option Addr) (cap:Nat) (xs:List EnL) (Ap:Option Addr) (H:Nat) (p:List Int) (w:World) (hn:xs.length≤3000) (O:b7 w A cap xs) (I:mR xs p) (Q:aZ w Ap H p) :
  Rt 47 #[.slice A xs.length cap,.slice Ap p.length H] w (.tuple #[.int .i64 (cntE (lE xs) p:Nat),.bool (hasE (lE xs) p)]):=by
 have V:=aa O;have B:Hid (∀ k w',k<xs.length→Bl w w'→Rt 46 #[.slice (xs.getD k aJ).A (xs.getD k aJ).e.pl.length (xs.getD k aJ).c,.slice Ap p.length H] w' (.bool (lessL (xs.getD k aJ).e.pl p))):=fun k w' m d=>by
  obtain ⟨-,-,D | ⟨b,o,D,x⟩⟩:=O.later d
  ·rw [D] at m;simp at m
  exact mG _ _ _ _ _ _ w' (I.1 k m) I.2 (x.pl m) (Q.later d)
 have z:Hid (∀ k w',k<xs.length→Bl w w'→Rt 46 #[.slice Ap p.length H,.slice (xs.getD k aJ).A (xs.getD k aJ).e.pl.length (xs.getD k aJ).c] w' (.bool (lessL p (xs.getD k aJ).e.pl))):=fun k w' m d=>by
  obtain ⟨-,-,D | ⟨b,o,D,x⟩⟩:=O.later d
  ·rw [D] at m;simp at m
  exact mG _ _ _ _ _ _ w' I.2 (I.1 k m) (Q.later d) (x.pl m)
 have M:Hid (∀ i,i≤xs.length→(∀ t,t<i→lessL (xs.getD t aJ).e.pl p=true)→(i<xs.length→lessL (xs.getD i aJ).e.pl p=false)→cntE (lE xs) p=i):=fun i Y a r=>wJ _ _ i (by rw [a7];exact Y) (fun t L=>by rw [lE_at];exact a t L) (fun U=>by rw [a7] at U;rw [lE_at];exact r U)
 have N:Hid (∀ i,cntE (lE xs) p=i→i<xs.length→hasE (lE xs) p = !lessL p (xs.getD i aJ).e.pl):=fun i a r=>by rw [←lE_at];exact (sv a (by rw [a7];exact r)).1
 have s:Hid (∀ i,cntE (lE xs) p=i→xs.length≤i→hasE (lE xs) p=false):=fun i a r=>(nG a (by rw [a7];exact r)).1
 obtain ⟨n,F⟩:=az xs.length;obtain ⟨np,K⟩:=az p.length;have T:=aa F;rw [F] at hn B z M N s ⊢;rw [K] at B z ⊢;generalize cntE (lE xs) p=cnt at M N s;generalize hasE (lE xs) p=has at N s;have hn':(n:Int)≤3000:=by omega
 clear O I Q F K
 go_enter Tryz.func47,Tryz.ntmps47
 go_wp2_with fail
 go_loopg [6] n (fun g s6 wr => ∃ (k:Nat),k≤n∧g=n-k∧s6=.int .i64 k∧Hid (∀ t,t<k→lessL (xs.getD t aJ).e.pl p=true)∧Bl w wr)
 case atStart=>exact ⟨0,zU,rfl,rfl,fun t L=>absurd L (Nat.not_lt_zero _),zS⟩
 case round =>
  obtain ⟨k,m,rfl,rfl,C,j⟩:=hrel;have G:=aa j
  by_cases v:k<n
  ·obtain ⟨-,-,D | ⟨b,o,rfl,x⟩⟩:=V.out.later j
   ·have:=T.out;rw [D] at this;simp at this;omega
   obtain ⟨c1,-⟩:=x.at (k:=k) (by rw [T.out];exact v)
   have a:=B.out k wr v j;have f:Hid (∀ w',Bl w w'→Rt 46 #[.slice Ap np H,.slice (xs.getD k aJ).A (xs.getD k aJ).e.pl.length (xs.getD k aJ).c] w' (.bool (lessL p (xs.getD k aJ).e.pl))):=fun w' d=>z.out k w' v d
   have Z:(k:Int)<(n:Int):=by omega
   have R:=x.1;cases hl:lessL (xs.getD k aJ).e.pl p
   ·have q:Hid (cnt=k):=M.out k m C.out (fun _=>hl)
    have u:=aa (N.out k q.out v);rw [hl] at a;generalize lessL p (xs.getD k aJ).e.pl=bk at f u;generalize (xs.getD k aJ).A=A1 at c1 a f;generalize (xs.getD k aJ).c=k1 at c1 a f;generalize (xs.getD k aJ).e.pl.length=m1 at c1 a f;have hne:((k:Int) == (n:Int))=false:=by simp;omega
    clear hl x j;go_wp2_with fail;refine a.mono ?_;rintro e w1 ⟨rfl,l⟩;have E:Bl w w1:=ae G.out l;have y:=aa E;have X:w1.cell? ⟨b,o+k*2,none⟩=some (.slice A1 m1 k1):=aC l R c1;have r:=f.out w1 E;clear l a c1 E;go_wp2_with fail;refine r.mono ?_;rintro e w2 ⟨rfl,J⟩;have P:=aa (ae y.out J);clear J r X;go_wp2_with fail
    go_ret2
    rw [q.out,u.out];exact ⟨rfl,P.out⟩
   have W:Hid (∀ t,t<k+1→lessL (xs.getD t aJ).e.pl p=true):=fun t L=>by
    rcases Nat.lt_succ_iff_lt_or_eq.1 L with r | rfl
    ·exact C.out t r
    exact hl
   rw [hl] at a;generalize (xs.getD k aJ).A=A1 at c1 a;generalize (xs.getD k aJ).c=k1 at c1 a;generalize (xs.getD k aJ).e.pl.length=m1 at c1 a;clear hl x j f;go_wp2_with fail;refine a.mono ?_;rintro e w1 ⟨rfl,l⟩;have y:=aa (ae G.out l);clear l a c1;go_wp2_with fail
   go_roundg (n-(k+1))
   case measure=>omega
   case rel=>exact ⟨k+1,by omega,rfl,by go_num,W,y.out⟩
  have S:k=n:=by omega
  subst S;have q:Hid (cnt=k):=M.out k m C.out (fun h=>absurd h (Nat.lt_irrefl _))
  have u:Hid (has=false):=s.out k q.out (zT);go_wp2_with fail
  go_ret2
  rw [q.out,u.out];exact ⟨rfl,j⟩
structure PL where
 p:List Int
 A:Option Addr
 c:Nat
def mA:PL:=⟨[],none,0⟩
def lP (xs:List PL):List (List Int):=xs.map PL.p
def gw (xs:List PL):List Value:=xs.map fun x=>.slice x.A x.p.length x.c
theorem cellsP_append (a b:List PL):gw (a ++ b)=gw a ++ gw b:=by simp [gw]
theorem Tryz.infoPla:(Tryz.prog.info? 27).map (fun i=>(i.zero,i.size,i.bytes))=some (some (.slice none 0 0),1,24):=by kernel_rfl
theorem map_take {X:List Int} {h:List Int} {j:Nat} (a:j<X.length):(X.take (j+1)).map (fun x=>h ++ [x])=(X.take j).map (fun x=>h ++ [x]) ++ [h ++ [X.getD j 0]]:=by
 rw [List.take_succ_eq_append_getElem a,List.map_append,zZ,zX a]
 rfl
def eU (w:World) (g n T:Nat) (f:Nat→Value):Prop:=w.heap[g]?=some (.cells ((List.range n).map f).toArray T (0,0))
theorem eU.lt {w:World} {g n T:Nat} {f:Nat→Value} (h:eU w g n T f):g<w.heap.size:=(zY h).1
theorem eU.cell {w:World} {g n T:Nat} {f:Nat→Value} (h:eU w g n T f) {j:Nat} (a:j<n):w.cell? ⟨g,j,none⟩=some (f j):=by
 rw [Lib.cell_of_heap h]
 simp [a]
theorem eU.frozen {w:World} {g n T:Nat} {f:Nat→Value} (h:eU w g n T f) (j:Nat):w.frozen? ⟨g,j,none⟩=false:=Lib.frozen_of_heap h j
theorem eU.same {w w':World} {g n T:Nat} {f:Nat→Value} (h:eU w g n T f) (a:w'.heap[g]?=w.heap[g]?):eU w' g n T f:=a.trans h
theorem eU.set {w:World} {g n T:Nat} {f f':Nat→Value} {v:Value} (h:eU w g n T f) {m:Nat} (b:∀ j,j<n→f' j=if j=m then v else f j):eU (w.setCell ⟨g,m,none⟩ v) g n T f':=by
 unfold eU at *;simp only [World.setCell,Array.getElem?_modify,if_true,h,Option.map_some,Option.some.injEq,Obj.cells.injEq,and_true,Option.isSome_none,Bool.false_eq_true,if_false];apply Array.ext_getElem?;intro j;rw [Array.getElem?_setIfInBounds]
 by_cases a:j<n
 ·by_cases e:m=j
  ·rw [if_pos e,if_pos (by simp;omega)]
   simp [a,b j a,e]
  have c:j≠m:=fun x=>e x.symm
  rw [if_neg e];simp only [List.getElem?_toArray,List.getElem?_map,List.getElem?_range a,Option.map_some,b j a,if_neg c]
 by_cases e:m=j
 ·rw [if_pos e,if_neg (by simp;omega),Array.getElem?_eq_none (by simp;omega)]
 rw [if_neg e,Array.getElem?_eq_none (by simp;omega),Array.getElem?_eq_none (by simp;omega)]
theorem eU.made (w:World) (n T:Nat) (z:Value):eU (w.alloc (.cells (madeCells #[z] n) T)) w.heap.size n T fun _=>z:=by
 unfold eU;have e:madeCells #[z] n=((List.range n).map fun _=>z).toArray:=by
  apply Array.ext
  ·simp [madeCells]
  intro i a b
  simp [madeCells,Nat.mod_one]
 rw [e];exact heap_alloc_new w _
theorem eU.off {w:World} {g n T b:Nat} {f:Nat→Value} {cs:Array Value} {t:Nat} {fr:Nat×Nat} (h:eU w g n T f) (a:w.heap[b]?=some (.cells cs t fr)) (c:t≠T):b≠g:=fun e=>by
 rw [e,h] at a;simp only [Option.some.injEq,Obj.cells.injEq] at a;exact c a.2.1.symm
theorem g7:(3:Nat)≠26:=by decide
theorem iI {w w':World} {base e size n:Nat} {v:Value} {xs:List Value} {r:Option Nat} (h:w.ownsRow base e size v n xs) (a:w.grownBy w' r) (c:∀ b,v.ownBlock=some b→r≠some b):w'.ownsRow base e size v n xs:=by
 refine ⟨h.1,?_⟩
 rcases h.2 with h0 | ⟨g,cap,cur,rfl,h2,h3,h4⟩
 ·exact Or.inl h0
 exact Or.inr ⟨g,cap,cur,rfl,h2,(a.block g (zY h3).1 (fun e=>c g rfl e.symm)).trans h3,h4⟩
theorem bP {w:World} {base e size n b:Nat} {v:Value} {xs:List Value} (h:w.ownsRow base e size v n xs) (d:v.ownBlock=some b):base≤b∧b<w.heap.size∧∃ a,w.heap[b]?=some (.cells a e (0,0)):=by
 rcases h.2 with ⟨rfl,-⟩ | ⟨g,cap,a,rfl,f,c,i⟩
 ·cases d
 cases d;exact ⟨f,(zY c).1,a,c⟩
theorem fj {w:World} {base e size n g j:Nat} {v x:Value} {xs:List Value} (h:w.ownsRow base e size v n xs) (a:v.ownBlock≠some g):(w.setCell ⟨g,j,none⟩ x).ownsRow base e size v n xs:=by
 refine ⟨h.1,?_⟩
 rcases h.2 with h0 | ⟨g',cap,cur,rfl,h2,h3,h4⟩
 ·exact Or.inl h0
 exact Or.inr ⟨g',cap,cur,rfl,h2,by rw [ar _ _ _ _ _ (fun e=>a (by rw [←e];rfl))];exact h3,h4⟩
theorem aR.one {w w':World} {A:Option Addr} {c:Nat} {L:List Int} (h:aR w A c L) (l:∀ a,A=some a→w'.heap[a.block]?=w.heap[a.block]?):aR w' A c L:=by
 obtain ⟨f,d,g | ⟨b,cs,fr,rfl,i,k⟩⟩:=h
 ·exact ⟨f,d,Or.inl g⟩
 have e:=l _ rfl;exact ⟨f,d,Or.inr ⟨b,cs,fr,rfl,e.trans i,fun j m=>(World.cell?_of_block (a:=⟨b,j,none⟩) e).trans (k j m)⟩⟩
def fT (w:World) (g n:Nat) (f:Nat→Bool):Prop:=w.heap[g]?=some (.cells ((List.range n).map fun j=>Value.bool (f j)).toArray 4 (0,0))
theorem fT.lt {w:World} {g n:Nat} {f:Nat→Bool} (h:fT w g n f):g<w.heap.size:=(zY h).1
theorem fT.cell {w:World} {g n:Nat} {f:Nat→Bool} (h:fT w g n f) {j:Nat} (a:j<n):w.cell? ⟨g,j,none⟩=some (.bool (f j)):=by
 rw [Lib.cell_of_heap h]
 simp [a]
theorem fT.frozen {w:World} {g n:Nat} {f:Nat→Bool} (h:fT w g n f) (j:Nat):w.frozen? ⟨g,j,none⟩=false:=Lib.frozen_of_heap h j
theorem fT.later {w w':World} {g n:Nat} {f:Nat→Bool} (h:fT w g n f) (a:Bl w w'):fT w' g n f:=(a.block g h.lt).trans h
theorem fT.set {w:World} {g n:Nat} {f f':Nat→Bool} (h:fT w g n f) {m:Nat} (b:∀ j,j<n→f' j=if j=m then true else f j):fT (w.setCell ⟨g,m,none⟩ (.bool true)) g n f':=by
 unfold fT at *;simp only [World.setCell,Array.getElem?_modify,if_true,h,Option.map_some,Option.some.injEq,Obj.cells.injEq,and_true,Option.isSome_none,Bool.false_eq_true,if_false];apply Array.ext_getElem?;intro j;rw [Array.getElem?_setIfInBounds]
 by_cases a:j<n
 ·by_cases e:m=j
  ·rw [if_pos e,if_pos (by simp;omega)]
   simp [a,b j a,e]
  have c:j≠m:=fun x=>e x.symm
  rw [if_neg e];simp only [List.getElem?_toArray,List.getElem?_map,List.getElem?_range a,Option.map_some,b j a,if_neg c]
 by_cases e:m=j
 ·rw [if_pos e,if_neg (by simp;omega),Array.getElem?_eq_none (by simp;omega)]
 rw [if_neg e,Array.getElem?_eq_none (by simp;omega),Array.getElem?_eq_none (by simp;omega)]
theorem fT.made (w:World) (n:Nat):fT (w.alloc (.cells (madeCells #[.bool false] n) 4)) w.heap.size n fun _=>false:=by
 unfold fT;have e:madeCells #[.bool false] n=((List.range n).map fun _=>Value.bool false).toArray:=by
  apply Array.ext
  ·simp [madeCells]
  intro i a b
  simp [madeCells,Nat.mod_one]
 rw [e];exact heap_alloc_new w _
theorem iw {B:Nat} {w0 w:World} {g j:Nat} {v:Value} (h:Below B w0 w) (b:B≤g):Below B w0 (w.setCell ⟨g,j,none⟩ v):=by
 refine ⟨h.os,h.tape,h.output,by simpa [World.setCell] using h.size,fun k a=>?_⟩
 rw [←h.block k a];simp only [World.setCell,Array.getElem?_modify];rw [if_neg (by omega)]
theorem Tryz.infoBol:(Tryz.prog.info? 4).map (fun i=>(i.zero,i.size,i.bytes))=some (some (.bool false),1,1):=by kernel_rfl
def Fb (L:List Int) (j:Nat):Bool:=L.contains (j:Int)
theorem Fc {L:List Int} {m:Nat} (j:Nat):Fb (L ++ [(m:Int)]) j=if j=m then true else Fb L j:=by
 unfold Fb
 by_cases e:j=m
 ·subst e
  rw [if_pos rfl,List.contains_iff_mem]
  simp
 rw [if_neg e,Bool.eq_iff_iff,List.contains_iff_mem,List.contains_iff_mem,List.mem_append,List.mem_singleton];exact ⟨fun h=>h.resolve_right (by omega),Or.inl⟩
theorem ym {w:World} {B e T size:Nat} {v:Value} {n:Nat} {xs:List Value} {b:Nat} {cs:Array Value} {fr:Nat×Nat} (a:w.ownsRow B e size v n xs) (d:w.heap[b]?=some (.cells cs T fr)) (c:T≠e):v.ownBlock≠some b:=by
 rcases a.2 with ⟨rfl,_⟩ | ⟨g,cap,f,rfl,_,i,_⟩
 ·simp [Value.ownBlock]
 intro h;simp only [Value.ownBlock,Option.some.injEq] at h;subst h;rw [i] at d;simp only [Option.some.injEq,Obj.cells.injEq] at d;exact c d.2.1.symm
theorem GI (w:World):Calls Tryz.prog 21 #[.nilIface] w fun e w'=>e=.returned (.int .i64 0)∧w'=w:=by
 go_enter Tryz.func21,Tryz.ntmps21
 go_wp2;go_ret;exact ⟨rfl,rfl⟩
theorem GG (c:Int) (w:World) (b:gL w):Rt 21 #[.iface 63 (.int .i64 c)] w (.int .i64 c):=by
 have h:=I8 c w.heap.size (w.alloc (.cells #[.int .i64 0] 63)) (b.later ((zS).alloc (zT) _)) (by simp) (by simp) (by simp)
 go_enter Tryz.func21,Tryz.ntmps21
 go_wp2_with fail;refine h.mono ?_;rintro e w1 ⟨rfl,a⟩;have d:Bl w w1:=by rw [a];go_grown
 have f:w1.cell? ⟨w.heap.size,0,none⟩=some (.int .i64 c):=by
  rw [a];refine World.cell?_setCell_same _ _ _ (u:=.int .i64 0) ?_;rw [World.cell?_alloc_lt _ _ ⟨w.heap.size,0,none⟩ (by first | (simp;done) | (simp;omega)),World.cell?_alloc_lt _ _ ⟨w.heap.size,0,none⟩ (by first | (simp;done) | (simp;omega)),World.cell?_alloc_lt _ _ ⟨w.heap.size,0,none⟩ (by first | (simp;done) | (simp;omega)),World.cell?_alloc_lt _ _ ⟨w.heap.size,0,none⟩ (by first | (simp;done) | (simp;omega))]
  simp
 clear a h b;go_wp2_with fail;go_ret;exact ⟨rfl,d⟩
theorem Gr (n:Int) (w:World):Rt 6 #[.nilIface,.int .i64 n] w (.bool (0 == n)):=by
 go_enter Tryz.func6,Tryz.ntmps6
 go_wp2_with (go_at_call 21;refine (GI _).mono ?_;rintro e w1 ⟨rfl,rfl⟩)
 go_ret;exact ⟨rfl,zS⟩
theorem Gq (c n:Int) (w:World) (b:gL w):Rt 6 #[.iface 63 (.int .i64 c),.int .i64 n] w (.bool (c == n)):=by
 go_enter Tryz.func6,Tryz.ntmps6
 go_wp2_with fail;refine (GG c _ b).mono ?_;rintro e w1 ⟨rfl,a⟩;go_wp2_with fail;go_ret;exact ⟨rfl,a⟩
end Go.Proofs.YtohgnbgamfepoaaGreatDoor
