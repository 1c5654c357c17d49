/- What Parse of package -/
import Derived.Lib.ItoaLen
import Derived.Lib.AppendIntMem
import Derived.Test.YthlhjjabkgpenaaGreatDoorJTAL
namespace Go.Proofs.YthlhjjabkgpenaaGreatDoor
open ChangeShapes WideShapes ChangeAt RowKit
set_option maxRecDepth 99999
set_option maxHeartbeats 0
def Ls:Unit→ByteArray→Unit:=fun _ _=>()
def DD (s:ByteArray):Rd Unit×Bool:=gI s Ls ⟨0,0,()⟩
def dz (s:ByteArray):Rd Bld×Bool:=gI s takeB ⟨0,0,noB⟩
def eg (s:ByteArray):List Nd:=(settleB 0 (dz s).1.st).nodes
def prsE (s:ByteArray):Int:=if 100<s.size then (if (DD s).2=true then 4 else 2) else if (dz s).2=true then av (eg s) else 2
def i6 (s:ByteArray):Nat:=if 100<s.size then (if (DD s).2=true then 0 else (DD s).1.at') else if (dz s).2=true then 0 else (dz s).1.at'
def bE (s:ByteArray):List Nd:=if prsE s=0 then eg s else []
theorem Ec {w:World} {N:Nat} {A:Option Addr} {c:Nat} {l:List Nd} (h:w.ownsRow N 142 5 (.slice A l.length c) l.length (aK l)):fQ w A c l:=by
 rcases h.2 with ⟨d,i⟩ | ⟨g,cap,f,d,r,n,m,p,s,t⟩
 ·simp only [Value.slice.injEq] at d
  obtain ⟨rfl,-,rfl⟩:=d;exact ⟨by omega,by omega,Or.inl (List.eq_nil_of_length_eq_zero i)⟩
 cases d;refine ⟨m,by unfold maxLen at p;omega,Or.inr ⟨g,0,rfl,(zY n).1,fun k o=>?_⟩⟩
 have a:∀ j u,(aK l)[j]?=some u→w.cell? ⟨g,j,none⟩=some u:=fun j u q=>by
  have e:=h.cells (g:=g) rfl j u q;have b:(⟨g,0,none⟩:Addr).add j=⟨g,j,none⟩:=by unfold Addr.add;split <;> simp_all
  rw [b] at e;exact e
 obtain ⟨a0,a1,a2,a3,a4⟩:=pV l k o;simp only [Nat.zero_add];exact ⟨a _ _ a0,a _ _ a1,a _ _ a2,a _ _ a3,a _ _ a4⟩
def pD (w:World):World:=w.alloc (.cells #[.slice none 0 0,.slice none 0 0,.slice none 0 0] 270)
theorem Gg (w:World):dh (w.heap.size+4) w.heap.size noB (pD w):=by
 refine ⟨none,0,none,0,none,0,by omega,heap_alloc_new w _,World.ownsRow_nil _ _ _ _,World.ownsRow_nil _ _ _ _,World.ownsRow_nil _ _ _ _,?_⟩
 intro g a;cases a
theorem ly (w:World):(pD w).heap.size=w.heap.size+1:=by unfold pD;simp
theorem wE (w:World):Bl w (pD w):=by unfold pD;go_grown
theorem gw {w w1 w2:World} {p:Nat} (h:Bl w w1) (a:Kept w1.heap.size (fun k=>k=p) w1 w2) (c:w.heap.size≤p):Bl w w2 :=
 ⟨a.os.trans h.os,a.tape.trans h.tape,a.output.trans h.output,zV h.size a.size,fun k b=>by
  rw [a.block k (zW b h.size) (by omega)]
  exact h.block k b⟩
theorem F1:FitB 0 0 false noB:=⟨rfl,by decide,zT,zT,zT⟩
theorem ot {S:Type} {s:ByteArray} {tk:S→ByteArray→S}:∀ (f:Nat) (r:Rd S),r.at'≤s.size→(opensR s tk f r).at'≤s.size
 | 0,r,h=>h
 | f+1,r,h=>by
  rw [opensR]
  split
  ·rename_i h40
   exact ot f _ (gQ (o:=0) h h40).1
  exact h
theorem li {S:Type} {s:ByteArray} {tk:S→ByteArray→S}:∀ (f:Nat) (r:Rd S),r.at'≤s.size→(bh s tk f r).at'≤s.size
 | 0,r,h=>h
 | f+1,r,h=>by
  rw [bh]
  split
  ·rename_i h41
   exact li f _ (fT (o:=0) h h41.2).1
  exact h
theorem eh {S:Type} {s:ByteArray} {tk:S→ByteArray→S} (r:Rd S) (h:r.at'≤s.size):(az s tk r).1.at'≤s.size:=by
 have a:(bF s tk r).at'≤s.size:=ot _ r h;unfold az
 split
 ·rename_i hd
  exact li _ _ (kw (o:=0) a hd).1
 split
 ·rename_i hl
  exact li _ _ (nR (o:=0) a hl).1
 exact a
theorem rD {S:Type} {s:ByteArray} {tk:S→ByteArray→S}:∀ (f:Nat) (r:Rd S),r.at'≤s.size→(dj s tk f r).1.at'≤s.size
 | 0,r,h=>h
 | f+1,r,h=>by
  have a:(b9 s tk r).1.at'≤s.size:=by
   unfold b9
   split
   ·exact h
   rename_i hs
   exact (zg (o:=0) h hs).1
  rw [dj]
  split
  ·split
   ·split
    ·exact rD f _ (eh _ a)
    exact eh _ a
   exact a
  exact h
theorem Hj {S:Type} {s:ByteArray} {tk:S→ByteArray→S} (r:Rd S) (h:r.at'≤s.size):(gI s tk r).1.at'≤s.size:=by
 unfold gI
 split
 ·split
  ·exact rD _ _ (eh _ h)
  exact rD _ _ (eh _ h)
 exact eh _ h
def noT:ByteArray:=⟨#[]⟩
def GQ (op:Int):ByteArray:=if op=3 then ⟨#[43]⟩ else if op=4 then ⟨#[45]⟩ else if op=5 then ⟨#[42]⟩ else ⟨#[47]⟩
theorem Tryz.infoStrF:(Tryz.prog.info? 9).map (fun i=>(i.zero,i.size,i.bytes))=some (some (.string ⟨#[]⟩),1,16):=by kernel_rfl
def rf (w : World) : Prop := Lib.TabIs Tryz.prog w "internal/strconv.uint64pow10" .u64 Lib.pow10Tab
theorem rf.later {w w':World} (h:rf w) (a:Bl w w'):rf w':=Lib.tabBelow_of_tabIs h w' a
theorem Ke (n:Int) (w:World) (a : -9223372036854775808≤n) (b:n≤9223372036854775807) (c:rf w):Rt 114 #[.int .i64 n] w (.string ⟨(Lib.itoa n).toArray⟩) :=
 (Any.strconv_Itoa Tryz.laysM171 n a b w c).mono fun e w' ⟨d,k,os,f⟩=>⟨d,by rw [f];exact Lib.below_grow _ _ (zT) _ _⟩
theorem lI (l:List Nd) {k:Nat} (a:k<l.length):l.take (k+1)=l.take k ++ [l.getD k bH]:=by
 rw [List.take_add_one,zX a]
 simp [List.getD,zX a]
def iZ (k n:Int):List UInt8:=if k=0 then [45] else if k=2 then [35] else Lib.itoa n
theorem BC (k n:Int) (w:World) (j:rf w) (h:good k n=true):Rt 79 #[.agg #[.int .i64 k,.int .i64 n]] w (.tuple #[.string ⟨(iZ k n).toArray⟩,.nilIface]):=by
 have b:=ep h;unfold iZ
 by_cases d:k=0
 ·subst d
  rw [if_pos rfl]
  go_enter Tryz.func79,Tryz.ntmps79
  go_wp2_with fail;refine (b _).mono ?_;rintro e w1 ⟨rfl,a⟩;have c:Bl w w1:=Below.trans (by go_grown) (a.mono (by simp))
  obtain ⟨m,o⟩:=cB a;go_wp2_with fail
  go_ret2
  exact ⟨rfl,c⟩
 rw [if_neg d]
 by_cases f:k=2
 ·subst f
  rw [if_pos rfl]
  go_enter Tryz.func79,Tryz.ntmps79
  go_wp2_with fail;refine (b _).mono ?_;rintro e w1 ⟨rfl,a⟩;have c:Bl w w1:=Below.trans (by go_grown) (a.mono (by simp))
  obtain ⟨m,o⟩:=cB a;go_wp2_with fail
  go_ret2
  exact ⟨rfl,c⟩
 rw [if_neg f];obtain ⟨b1,b2⟩:=bO h;have p:=fun w j=>Ke n w (by omega) (by omega) j
 generalize Lib.itoa n=t at p ⊢;have q:(k == 0)=false:=by simpa using d
 have r:(k == 2)=false:=by simpa using f
 clear h d f
 go_enter Tryz.func79,Tryz.ntmps79
 go_wp2_with fail;refine (b _).mono ?_;rintro e w1 ⟨rfl,a⟩;have c:Bl w w1:=Below.trans (by go_grown) (a.mono (by simp))
 have l:=j.later c;obtain ⟨m,o⟩:=cB a;go_wp2_with fail;refine (p _ l).mono ?_;rintro e w2 ⟨rfl,i⟩;have g:=Below.next c i;go_wp2_with fail
 go_ret2
 exact ⟨rfl,g⟩
theorem Fd (k n:Int) (h:good k n=true) (w:World):Rt 16 #[.agg #[.int .i64 k,.int .i64 n]] w (.string ⟨(iZ k n).toArray⟩):=by
 obtain ⟨b1,b2⟩:=bO h;have c:=vx n b1 b2;clear h;unfold iZ
 by_cases a:k=0
 ·subst a
  rw [if_pos rfl]
  go_enter Tryz.func16,Tryz.ntmps16
  go_wp2_with fail;go_ret;exact ⟨rfl,by go_grown⟩
 rw [if_neg a];have d:(k == 0)=false:=by simpa using a
 by_cases b:k=2
 ·subst b
  rw [if_pos rfl]
  go_enter Tryz.func16,Tryz.ntmps16
  go_wp2_with fail;go_ret;exact ⟨rfl,by go_grown⟩
 rw [if_neg b];have f:(k == 2)=false:=by simpa using b
 clear a b;generalize Lib.itoa n=l at c ⊢
 go_enter Tryz.func16,Tryz.ntmps16
 go_wp2_with fail;refine (c _).mono ?_;rintro e w1 ⟨rfl,rfl⟩;go_wp2_with fail;go_ret;exact ⟨rfl,by go_grown⟩
inductive Tre where
 | num (n:Int)
 | ref (s:ByteArray)
 | bin (o:Int) (a b:Tre)
def sizT:Tre→Nat
 | .num _=>1
 | .ref _=>1
 | .bin _ a b=>sizT a+sizT b+1
theorem kV:∀ t:Tre,1≤sizT t
 | .num _=>zT
 | .ref _=>zT
 | .bin _ a b=>by show 1≤sizT a+sizT b+1;omega
def post:Tre→Nat→List Nd
 | .num n,_=>[⟨1,n,noT,0,0⟩]
 | .ref s,_=>[⟨2,0,s,0,0⟩]
 | .bin o a b,k=>post a k ++ post b (k+sizT a) ++ [⟨o,0,noT,((k+sizT a-1:Nat):Int),((k+sizT a+sizT b-1:Nat):Int)⟩]
theorem gX:∀ (t:Tre) (k:Nat),(post t k).length=sizT t
 | .num _,_=>rfl
 | .ref _,_=>rfl
 | .bin o a b,k=>by simp [post,sizT,gX a,gX b];omega
def IX (l:List ByteArray) (c:Bool):List ByteArray:=if c then [⟨#[40]⟩] ++ l ++ [⟨#[41]⟩] else l
def dA (t:Tre) (b:Bld):Bld:=⟨b.nodes ++ post t b.nodes.length,b.ready ++ [((b.nodes.length+sizT t-1:Nat):Int)],b.waiting⟩
def G4 (b:Bld) (k:Int):Prop:=b.waiting=[]∨∃ w x,b.waiting=w ++ [x]∧(x=0∨bindN x<k)
theorem G4.up {b:Bld} {k m:Int} (h:G4 b k) (a:k≤m):G4 b m:=by
 rcases h with h | ⟨w,x,h,h0 | h0⟩
 ·exact Or.inl h
 ·exact Or.inr ⟨w,x,h,Or.inl h0⟩
 exact Or.inr ⟨w,x,h,Or.inr (by omega)⟩
theorem ko {b:Bld} {k:Int} (h:G4 b k):settleB k b=b:=by
 unfold settleB
 rcases h with h | ⟨w,x,h,h0⟩
 ·rw [h];rfl
 rw [h,List.length_append,List.length_singleton];have e:b.waiting.getD w.length 0=x:=by rw [h];simp [List.getD]
 exact fq (by rw [e];exact h0)
theorem xy {n:List Nd} {r w:List Int} {o least:Int} (d:o≠0) (h:least≤bindN o):settleB least ⟨n,r,w ++ [o]⟩=settleB least (db o ⟨n,r,w⟩):=by
 unfold settleB;have b:(w ++ [o]).length=w.length+1:=by simp
 have a:(w ++ [o]).getD w.length 0=o:=by simp [List.getD]
 have c:(w ++ [o]).take w.length=w:=by simp
 show a6 least (w ++ [o]).length _=_
 rw [b,jA (by show ¬ ((w ++ [o]).getD w.length 0=0∨bindN ((w ++ [o]).getD w.length 0)<least);rw [a];omega)]
 show a6 least w.length (db ((w ++ [o]).getD w.length 0) ⟨n,r,(w ++ [o]).take w.length⟩)=a6 least (db o ⟨n,r,w⟩).waiting.length _
 rw [a,c]
 rfl
theorem AJ (o:Int) (a c:Tre) (b:Bld) (w:List Int):db o ⟨(dA c ⟨(dA a b).nodes,(dA a b).ready,w⟩).nodes,(dA c ⟨(dA a b).nodes,(dA a b).ready,w⟩).ready,b.waiting⟩=dA (.bin o a c) b:=by
 have h:(b.nodes ++ post a b.nodes.length).length=b.nodes.length+sizT a:=by simp [gX]
 have pa:=kV a;have i:=kV c;unfold db dA jC;simp only [post,sizT,h,List.length_append,List.length_singleton,gX];have d:b.ready.length+1+1-2=b.ready.length:=by omega
 rw [d];have e:(b.ready ++ [((b.nodes.length+sizT a-1:Nat):Int)] ++ [((b.nodes.length+sizT a+sizT c-1:Nat):Int)]).getD b.ready.length 0=((b.nodes.length+sizT a-1:Nat):Int):=by simp [List.getD]
 have f:(b.ready ++ [((b.nodes.length+sizT a-1:Nat):Int)] ++ [((b.nodes.length+sizT a+sizT c-1:Nat):Int)]).getD (b.ready.length+1) 0=((b.nodes.length+sizT a+sizT c-1:Nat):Int):=by simp [List.getD]
 have g:(b.ready ++ [((b.nodes.length+sizT a-1:Nat):Int)] ++ [((b.nodes.length+sizT a+sizT c-1:Nat):Int)]).take b.ready.length=b.ready:=by simp
 rw [e,f,g]
 congr 1
 ·simp [noT]
 congr 2
 omega
theorem Cr (b:Bld):takeB b ⟨#[40]⟩=⟨b.nodes,b.ready,b.waiting ++ [0]⟩:=by
 rw [takeB,if_pos (by decide)]
theorem take_close (b:Bld):takeB b ⟨#[41]⟩=⟨(settleB 0 b).nodes,(settleB 0 b).ready,(settleB 0 b).waiting.take ((settleB 0 b).waiting.length-1)⟩:=by
 rw [takeB,if_neg (by decide),if_pos (by decide)]
theorem Cs (b:Bld) {o:Int} (h:3≤o∧o≤6):takeB b (GQ o)=⟨(settleB (bindN o) b).nodes,(settleB (bindN o) b).ready,(settleB (bindN o) b).waiting ++ [o]⟩:=by
 have a:o=3∨o=4∨o=5∨o=6:=by omega
 rcases a with rfl | rfl | rfl | rfl
 ·rw [takeB,if_neg (by decide),if_neg (by decide),if_pos (by decide)];rfl
 ·rw [takeB,if_neg (by decide),if_neg (by decide),if_pos (by decide)];rfl
 ·rw [takeB,if_neg (by decide),if_neg (by decide),if_pos (by decide)];rfl
 rw [takeB,if_neg (by decide),if_neg (by decide),if_pos (by decide)];rfl
theorem tO (n:List Nd) (r w:List Int) (k:Int):G4 ⟨n,r,w ++ [0]⟩ k:=Or.inr ⟨w,0,rfl,Or.inl rfl⟩
theorem tP {b:Bld} {k:Int} (t:Tre) (h:G4 b k):G4 (dA t b) k:=h
theorem Fl {l:List ByteArray} {t:Tre} {b:Bld} (ih:settleB 0 (l.foldl takeB ⟨b.nodes,b.ready,b.waiting ++ [0]⟩)=settleB 0 (dA t ⟨b.nodes,b.ready,b.waiting ++ [0]⟩)):(IX l true).foldl takeB b=dA t b:=by
 show ([ByteArray.mk #[40]] ++ l ++ [ByteArray.mk #[41]]).foldl takeB b=_
 rw [List.foldl_append,List.foldl_append]
 show takeB (l.foldl takeB (takeB b ⟨#[40]⟩)) ⟨#[41]⟩=_
 rw [Cr,take_close,ih,ko (tP t (tO _ _ _ _))]
 simp [dA]
section
variable {S:Type} (s:ByteArray) (tk:S→ByteArray→S)
def f8:Nat→Bool→Rd S→Rd S×Bool
 | 0,_,r=>(r,false)
 | f+1,false,r =>
  if nextB s r.at'=40 then f8 f false (wordR s tk 1 ⟨r.at',r.opn+1,r.st⟩)
  else if bV (nextB s r.at') then f8 f true (wordR s tk (digitsN s r.at') r)
  else if bD (nextB s r.at') then f8 f true (wordR s tk (leadN bD (s.extract r.at' s.size)) r)
  else (r,false)
 | f+1,true,r =>
  if 0<r.opn∧nextB s r.at'=41 then f8 f true (wordR s tk 1 ⟨r.at',r.opn-1,r.st⟩)
  else if r.at'<s.size then (if signI (nextB s r.at')<0 then (r,false) else f8 f false (wordR s tk 1 r))
  else (r,decide (r.opn=0))
end
section
variable {S:Type} {s:ByteArray} {tk:S→ByteArray→S}
theorem kv {a:Nat} (c:a≤s.size) (h:bV (nextB s a)=true):1≤digitsN s a∧a+digitsN s a≤s.size:=by
 have b:a<s.size:=bY (fun e=>by rw [e] at h;revert h;decide) c
 have d:=(gL (n:=0) b h (zU)).1;refine ⟨?_,(kw (o:=0) c h).1⟩;unfold digitsN
 split <;> omega
theorem kC {a:Nat} (c:a≤s.size) (h:bD (nextB s a)=true):1≤leadN bD (s.extract a s.size)∧a+leadN bD (s.extract a s.size)≤s.size:=by
 have b:a<s.size:=bY (fun e=>by rw [e] at h;revert h;decide) c
 exact ⟨(gL (n:=0) b h (zU)).1,(nR (o:=0) c h).1⟩
theorem dV:∀ (f g:Nat) (ph:Bool) (r:Rd S),r.at'≤s.size→s.size-r.at'<f→s.size-r.at'<g→f8 s tk f ph r=f8 s tk g ph r
 | 0,_,_,_,_,h,_=>by omega
 | _+1,0,_,_,_,_,h=>by omega
 | f+1,g+1,false,r,hr,hf,hg=>by
  rw [f8,f8]
  by_cases a:nextB s r.at'=40
  ·rw [if_pos a,if_pos a]
   have h:=(gQ (o:=0) hr a).1;exact dV f g false _ h (by show s.size-(r.at'+1)<f;omega) (by show s.size-(r.at'+1)<g;omega)
  rw [if_neg a,if_neg a]
  by_cases b:bV (nextB s r.at')=true
  ·rw [if_pos b,if_pos b]
   have h:=kv hr b;exact dV f g true _ h.2 (by show s.size-(r.at'+digitsN s r.at')<f;omega) (by show s.size-(r.at'+digitsN s r.at')<g;omega)
  rw [if_neg b,if_neg b]
  by_cases c:bD (nextB s r.at')=true
  ·rw [if_pos c,if_pos c]
   have h:=kC hr c;exact dV f g true _ h.2 (by show s.size-(r.at'+leadN bD (s.extract r.at' s.size))<f;omega) (by show s.size-(r.at'+leadN bD (s.extract r.at' s.size))<g;omega)
  rw [if_neg c,if_neg c]
 | f+1,g+1,true,r,hr,hf,hg=>by
  rw [f8,f8]
  by_cases a:0<r.opn∧nextB s r.at'=41
  ·rw [if_pos a,if_pos a]
   have h:=(fT (o:=0) hr a.2).1;exact dV f g true _ h (by show s.size-(r.at'+1)<f;omega) (by show s.size-(r.at'+1)<g;omega)
  rw [if_neg a,if_neg a]
  by_cases b:r.at'<s.size
  ·rw [if_pos b,if_pos b]
   by_cases c:signI (nextB s r.at')<0
   ·rw [if_pos c,if_pos c]
   rw [if_neg c,if_neg c];exact dV f g false _ b (by show s.size-(r.at'+1)<f;omega) (by show s.size-(r.at'+1)<g;omega)
  rw [if_neg b,if_neg b]
end
def bX {S:Type} (s:ByteArray) (tk:S→ByteArray→S) (ph:Bool) (r:Rd S):Rd S×Bool:=f8 s tk (s.size+1) ph r
section
variable {S:Type} {s:ByteArray} {tk:S→ByteArray→S} {r:Rd S}
theorem kx (b:r.at'≤s.size) (h:nextB s r.at'=40):bX s tk false r=bX s tk false (wordR s tk 1 ⟨r.at',r.opn+1,r.st⟩):=by
 have a:=(gQ (o:=0) b h).1;unfold bX;rw [f8,if_pos h];exact dV _ _ _ _ a (by show s.size-(r.at'+1)<_;omega) (by show s.size-(r.at'+1)<_;omega)
theorem yB (c:r.at'≤s.size) (h:bV (nextB s r.at')=true):bX s tk false r=bX s tk true (wordR s tk (digitsN s r.at') r):=by
 have b:=kv c h;have a:nextB s r.at'≠40:=fun e=>by rw [e] at h;revert h;decide
 unfold bX;rw [f8,if_neg a,if_pos h];exact dV _ _ _ _ b.2 (by show s.size-(r.at'+digitsN s r.at')<_;omega) (by show s.size-(r.at'+digitsN s r.at')<_;omega)
theorem yC (c:r.at'≤s.size) (h:bD (nextB s r.at')=true):bX s tk false r=bX s tk true (wordR s tk (leadN bD (s.extract r.at' s.size)) r):=by
 have b:=kC c h;have a:nextB s r.at'≠40:=fun e=>by rw [e] at h;revert h;decide
 have hd : ¬ bV (nextB s r.at')=true:=fun e=>by unfold bV at e;unfold bD at h;simp at e h;omega
 unfold bX;rw [f8,if_neg a,if_neg hd,if_pos h];exact dV _ _ _ _ b.2 (by show s.size-(r.at'+leadN bD (s.extract r.at' s.size))<_;omega) (by show s.size-(r.at'+leadN bD (s.extract r.at' s.size))<_;omega)
theorem td (h:nextB s r.at'≠40) (a:bV (nextB s r.at')=false) (b:bD (nextB s r.at')=false):bX s tk false r=(r,false):=by
 unfold bX;rw [f8,if_neg h,if_neg (by rw [a];decide),if_neg (by rw [b];decide)]
theorem qa (b:r.at'≤s.size) (h:0<r.opn∧nextB s r.at'=41):bX s tk true r=bX s tk true (wordR s tk 1 ⟨r.at',r.opn-1,r.st⟩):=by
 have a:=(fT (o:=0) b h.2).1;unfold bX;rw [f8,if_pos h];exact dV _ _ _ _ a (by show s.size-(r.at'+1)<_;omega) (by show s.size-(r.at'+1)<_;omega)
theorem ny (h : ¬ (0<r.opn∧nextB s r.at'=41)) (a:r.at'<s.size) (b : ¬ signI (nextB s r.at')<0):bX s tk true r=bX s tk false (wordR s tk 1 r):=by
 have e:f8 s tk (s.size+1) true r=f8 s tk s.size false (wordR s tk 1 r):=by rw [f8,if_neg h,if_pos a,if_neg b]
 unfold bX;rw [e];exact dV _ _ _ _ a (by show s.size-(r.at'+1)<_;omega) (by show s.size-(r.at'+1)<_;omega)
theorem rt (h : ¬ (0<r.opn∧nextB s r.at'=41)) (a:r.at'<s.size) (b:signI (nextB s r.at')<0):bX s tk true r=(r,false):=by
 unfold bX;rw [f8,if_neg h,if_pos a,if_pos b]
theorem mA (h : ¬ (0<r.opn∧nextB s r.at'=41)) (a : ¬ r.at'<s.size):bX s tk true r=(r,decide (r.opn=0)):=by
 unfold bX;rw [f8,if_neg h,if_neg a]
theorem qb:∀ (f:Nat) (r:Rd S),r.at'≤s.size→bX s tk false r=bX s tk false (opensR s tk f r)
 | 0,_,_=>rfl
 | f+1,r,hr=>by
  rw [opensR]
  split
  ·rename_i h
   rw [kx hr h];exact qb f _ (gQ (o:=0) hr h).1
  rfl
theorem qF:∀ (f:Nat) (r:Rd S),r.at'≤s.size→s.size-r.at'≤f→nextB s (opensR s tk f r).at'≠40
 | 0,r,hr,hf=>by
  have e:r.at'=s.size:=by omega
  rw [opensR,e,nextB,if_pos rfl]
  decide
 | f+1,r,hr,hf=>by
  rw [opensR]
  split
  ·rename_i h
   have a:=(gQ (o:=0) hr h).1;exact qF f _ a (by show s.size-(r.at'+1)≤f;omega)
  rename_i h;exact h
theorem jZ:∀ (f:Nat) (r:Rd S),r.at'≤s.size→bX s tk true r=bX s tk true (bh s tk f r)
 | 0,_,_=>rfl
 | f+1,r,hr=>by
  rw [bh]
  split
  ·rename_i h
   rw [qa hr h];exact jZ f _ (fT (o:=0) hr h.2).1
  rfl
theorem lg:∀ (f:Nat) (r:Rd S),r.at'≤s.size→s.size-r.at'≤f→¬ (0<(bh s tk f r).opn∧nextB s (bh s tk f r).at'=41)
 | 0,r,hr,hf=>by
  have e:r.at'=s.size:=by omega
  rw [bh,e,nextB,if_pos rfl];intro h;exact absurd h.2 (by decide)
 | f+1,r,hr,hf=>by
  rw [bh]
  split
  ·rename_i h
   have a:=(fT (o:=0) hr h.2).1;exact lg f _ a (by show s.size-(r.at'+1)≤f;omega)
  rename_i h;exact h
theorem end_operand (f:r.at'≤s.size):((az s tk r).2=true∧bX s tk false r=bX s tk true (az s tk r).1∧¬ (0<(az s tk r).1.opn∧nextB s (az s tk r).1.at'=41))∨((az s tk r).2=false∧bX s tk false r=((az s tk r).1,false)):=by
 have b:(bF s tk r).at'≤s.size:=ot _ r f;have c:bX s tk false r=bX s tk false (bF s tk r):=qb _ r f;have d:nextB s (bF s tk r).at'≠40:=qF _ r f (zT);cases hd:bV (nextB s (bF s tk r).at')
 ·cases hl:bD (nextB s (bF s tk r).at')
  ·right
   have e:=yW (s:=s) (tk:=tk) (r:=r) hd hl;rw [e];exact ⟨rfl,by rw [c];exact td d hd hl⟩
  left
  have e:=ui (s:=s) (tk:=tk) (r:=r) hd hl;rw [e];have a:=kC b hl;refine ⟨rfl,?_,lg _ _ a.2 (by omega)⟩
  rw [c,yC b hl];exact jZ _ _ a.2
 left
 have e:=uh (s:=s) (tk:=tk) (r:=r) hd;rw [e];have a:=kv b hd;refine ⟨rfl,?_,lg _ _ a.2 (by omega)⟩
 rw [c,yB b hd];exact jZ _ _ a.2
theorem tc:∀ (f:Nat) (r:Rd S),r.at'≤s.size→s.size-r.at'≤f→¬ (0<r.opn∧nextB s r.at'=41)→bX s tk true r=if (dj s tk f r).2 then ((dj s tk f r).1,decide ((dj s tk f r).1.opn=0)) else ((dj s tk f r).1,false)
 | 0,r,hr,hf,hc=>by
  rw [dj,if_pos rfl];exact mA hc (by omega)
 | f+1,r,hr,hf,hc=>by
  by_cases a:r.at'<s.size
  ·by_cases b:signI (nextB s r.at')<0
   ·have e:b9 s tk r=(r,false):=by rw [b9,if_pos b]
    rw [tN a (by rw [e]),e,if_neg (fun e=>Bool.noConfusion e)]
    exact rt hc a b
   have e:b9 s tk r=(wordR s tk 1 r,true):=by rw [b9,if_neg b]
   have c:(wordR s tk 1 r).at'≤s.size:=a;rw [ny hc a b]
   rcases end_operand (tk:=tk) c with ⟨g1,g2,g3⟩ | ⟨g1,g2⟩
   ·rw [yO a (by rw [e]) (by rw [e];exact g1),e,g2]
    have d:=ou (s:=s) (tk:=tk) (wordR s tk 1 r);have g:(wordR s tk 1 r).at'=r.at'+1:=rfl;exact tc f _ (eh _ c) (by omega) g3
   rw [tM a (by rw [e]) (by rw [e];exact g1),e,if_neg (fun e=>Bool.noConfusion e)]
   exact g2
  rw [tL a,if_pos rfl];exact mA hc a
theorem jV (a:r.at'≤s.size):gI s tk r=bX s tk false r:=by
 rcases end_operand (tk:=tk) a with ⟨g1,g2,g3⟩ | ⟨g1,g2⟩
 ·rw [g2,tc s.size _ (eh _ a) (by omega) g3]
  unfold gI;rw [if_pos g1]
 rw [g2,CR g1]
end
end Go.Proofs.YthlhjjabkgpenaaGreatDoor
