/-
  What Parse of package formula answers, in whatever memory: of any text its nodes, or what is wrong with it, and where.
-/
import Derived.Lib.ItoaLen
import Derived.Lib.AppendIntMem
import Derived.Lib.OwnBridge
import Derived.Shelf.Slices.In.SortNone
import Derived.Maps.AppendAt
import Derived.Laws.CopyRow
import Derived.Laws.CopyOwn
import Derived.Laws.IdiomCopy
import Derived.Deep.RegionWith
import Derived.Test.YtohgnbgamfepoaaGreatDoorJHAK
import Derived.Test.YtohgnbgamfepoaaGreatDoorJHAN
namespace Go.Proofs.YtohgnbgamfepoaaGreatDoor
open Go.ChangeShapes Go.WideShapes Go.ChangeAt Go.RowKit
set_option maxRecDepth 20000
def KZ:Unit→ByteArray→Unit:=fun _ _=>()
def E7 (s:ByteArray):Rd Unit×Bool:=iv s KZ ⟨0,0,()⟩
def dJ (s:ByteArray):Rd Bld×Bool:=iv s takeB ⟨0,0,noB⟩
def eF (s:ByteArray):List Nd:=(settleB 0 (dJ s).1.st).nodes
def prsE (s:ByteArray):Int:=if 100<s.size then (if (E7 s).2=true then 4 else 2) else if (dJ s).2=true then aA (eF s) else 2
def jx (s:ByteArray):Nat:=if 100<s.size then (if (E7 s).2=true then 0 else (E7 s).1.at') else if (dJ s).2=true then 0 else (dJ s).1.at'
def bI (s:ByteArray):List Nd:=if prsE s=0 then eF s else []
theorem Fy {w:World} {N:Nat} {A:Option Addr} {c:Nat} {l:List Nd} (h:w.ownsRow N 132 5 (.slice A l.length c) l.length (aS l)):gt w A c l:=by
 rcases h.2 with ⟨d,i⟩ | ⟨g,cap,f,d,r,n,m,p,s,t⟩
 ·simp only [Value.slice.injEq] at d
  obtain ⟨rfl,-,rfl⟩:=d;exact ⟨by omega,by omega,Or.inl (List.eq_nil_of_length_eq_zero i)⟩
 cases d;refine ⟨m,by unfold maxLen at p;omega,Or.inr ⟨g,0,rfl,(zY n).1,fun k o=>?_⟩⟩
 have a:∀ j u,(aS l)[j]?=some u→w.cell? ⟨g,j,none⟩=some u:=fun j u q=>by
  have e:=h.cells (g:=g) rfl j u q;have b:(⟨g,0,none⟩:Addr).add j=⟨g,j,none⟩:=by unfold Addr.add;split <;> simp_all
  rw [b] at e;exact e
 obtain ⟨a0,a1,a2,a3,a4⟩:=qP l k o;simp only [Nat.zero_add];exact ⟨a _ _ a0,a _ _ a1,a _ _ a2,a _ _ a3,a _ _ a4⟩
def qx (w:World):World:=w.alloc (.cells #[.slice none 0 0,.slice none 0 0,.slice none 0 0] 284)
theorem H8 (w:World):dj (w.heap.size+4) w.heap.size noB (qx w):=by
 refine ⟨none,0,none,0,none,0,by omega,heap_alloc_new w _,World.ownsRow_nil _ _ _ _,World.ownsRow_nil _ _ _ _,World.ownsRow_nil _ _ _ _,?_⟩
 intro g a;cases a
theorem my (w:World):(qx w).heap.size=w.heap.size+1:=by unfold qx;simp
theorem xP (w:World):Bl w (qx w):=by unfold qx;go_grown
theorem ib {w w1 w2:World} {p:Nat} (h:Bl w w1) (a:Kept w1.heap.size (fun k=>k=p) w1 w2) (c:w.heap.size≤p):Bl w w2 :=
 ⟨a.os.trans h.os,a.tape.trans h.tape,a.output.trans h.output,zV h.size a.size,fun k b=>by
  rw [a.block k (zW b h.size) (by omega)]
  exact h.block k b⟩
theorem Hl:FitB 0 0 false noB:=⟨rfl,by decide,zT,zT,zT⟩
theorem pw {S:Type} {s:ByteArray} {tk:S→ByteArray→S}:∀ (f:Nat) (r:Rd S),r.at'≤s.size→(opensR s tk f r).at'≤s.size
 | 0,r,h=>h
 | f+1,r,h=>by
  rw [opensR]
  split
  ·rename_i h40
   exact pw f _ (iG (o:=0) h h40).1
  exact h
theorem md {S:Type} {s:ByteArray} {tk:S→ByteArray→S}:∀ (f:Nat) (r:Rd S),r.at'≤s.size→(bw s tk f r).at'≤s.size
 | 0,r,h=>h
 | f+1,r,h=>by
  rw [bw]
  split
  ·rename_i h41
   exact md f _ (gy (o:=0) h h41.2).1
  exact h
theorem eI {S:Type} {s:ByteArray} {tk:S→ByteArray→S} (r:Rd S) (h:r.at'≤s.size):(aD s tk r).1.at'≤s.size:=by
 have a:(bK s tk r).at'≤s.size:=pw _ r h;unfold aD
 split
 ·rename_i hd
  exact md _ _ (kZ (o:=0) a hd).1
 split
 ·rename_i hl
  exact md _ _ (pb (o:=0) a hl).1
 exact a
theorem sB {S:Type} {s:ByteArray} {tk:S→ByteArray→S}:∀ (f:Nat) (r:Rd S),r.at'≤s.size→(dq s tk f r).1.at'≤s.size
 | 0,r,h=>h
 | f+1,r,h=>by
  have a:(cM s tk r).1.at'≤s.size:=by
   unfold cM
   split
   ·exact h
   rename_i hs
   exact (Bq (o:=0) h hs).1
  rw [dq]
  split
  ·split
   ·split
    ·exact sB f _ (eI _ a)
    exact eI _ a
   exact a
  exact h
theorem I7 {S:Type} {s:ByteArray} {tk:S→ByteArray→S} (r:Rd S) (h:r.at'≤s.size):(iv s tk r).1.at'≤s.size:=by
 unfold iv
 split
 ·split
  ·exact sB _ _ (eI _ h)
  exact sB _ _ (eI _ h)
 exact eI _ h
def noT:ByteArray:=⟨#[]⟩
def IJ (op:Int):ByteArray:=if op=3 then ⟨#[43]⟩ else if op=4 then ⟨#[45]⟩ else if op=5 then ⟨#[42]⟩ else ⟨#[47]⟩
theorem Tryz.infoStrF:(Tryz.prog.info? 9).map (fun i=>(i.zero,i.size,i.bytes))=some (some (.string ⟨#[]⟩),1,16):=by kernel_rfl
theorem mL (l:List Nd) {k:Nat} (a:k<l.length):l.take (k+1)=l.take k ++ [l.getD k bO]:=by
 rw [List.take_add_one,zX a]
 simp [List.getD,zX a]
end Go.Proofs.YtohgnbgamfepoaaGreatDoor
namespace Go.Proofs.YtohgnbgamfepoaaGreatDoor
open Go.ChangeShapes Go.WideShapes Go.ChangeAt Go.RowKit
open Go.Sort (putRow Holds grow holds_putRow)
set_option maxRecDepth 20000
def dr (l:List Nd) (k:Nat):List (List UInt8):=((l.take k).filter fun x=>decide (x.op=2)).map fun x=>x.name.data.toList
def aX (l:List Nd):List (List UInt8):=if aA l=0 then Lib.compact ((dr l l.length).mergeSort fun x y=>decide (x≤y)) else []
theorem Ia {l:List Nd} {k:Nat} {x:Nd} (a:k<l.length) (b:l.getD k bO=x) (h:x.op=2):dr l (k+1)=dr l k ++ [x.name.data.toList]:=by
 unfold dr;rw [mL l a,b,List.filter_append,List.map_append]
 simp [h]
theorem FD {l:List Nd} {k:Nat} {x:Nd} (a:k<l.length) (b:l.getD k bO=x) (h:x.op≠2):dr l (k+1)=dr l k:=by
 unfold dr;rw [mL l a,b,List.filter_append,List.map_append]
 simp [h]
theorem AT (l:List Nd) (k:Nat):(dr l k).length≤k:=by
 unfold dr;rw [List.length_map];exact zV (List.length_filter_le _ _) (by rw [List.length_take];omega)
def gN (w:World) (A:Option Addr) (c:Nat) (L:List (List UInt8)):Prop:=L.length≤c∧c≤9223372036854775807∧(L=[]∨∃ b o,A=some ⟨b,o,none⟩∧b<w.heap.size∧∀ j,j<L.length→w.cell? ⟨b,o+j,none⟩=some (.string ⟨(L.getD j []).toArray⟩))
theorem gN.nil (w:World) (A:Option Addr) (c:Nat) (h:c≤9223372036854775807):gN w A c []:=⟨zU,h,Or.inl rfl⟩
theorem gN.later {w w':World} {A:Option Addr} {c:Nat} {L:List (List UInt8)} (h:gN w A c L) (g:Bl w w'):gN w' A c L:=by
 obtain ⟨d,e,a | ⟨b,o,a,f,i⟩⟩:=h
 ·exact ⟨d,e,Or.inl a⟩
 exact ⟨d,e,Or.inr ⟨b,o,a,zW f g.size,fun j k=>aC g f (i j k)⟩⟩
theorem Bh {w:World} {g k:Nat} {d:Array (List UInt8)} (h:k≠g):(putRow encStr w g 0 d).heap[k]?=w.heap[k]?:=by
 unfold putRow Sort.mapBlock;simp only [Array.getElem?_modify];rw [if_neg (fun e=>h e.symm)]
theorem tj {w0 w:World} {g n:Nat} {d:Array (List UInt8)} {os:Array Obj} (h:Bl w0 w) (b:w0.heap.size≤g):Bl w0 (grow (putRow encStr (Sort.ahead w n) g 0 d) os):=by
 refine ⟨h.os,h.tape,h.output,by have:=h.size;simp;omega,fun k a=>?_⟩
 have c:=h.size;rw [Sort.heap_grow_old _ _ (by simp;omega),Bh (by omega)]
 exact h.block k a
theorem sU {w0 w:World} {g n:Nat} {d:Array (List UInt8)} (h:Bl w0 w) (b:w0.heap.size≤g):Bl w0 (putRow encStr (Sort.ahead w n) g 0 d):=by
 refine ⟨h.os,h.tape,h.output,by have:=h.size;simp;omega,fun k a=>?_⟩
 rw [Bh (by omega)]
 exact h.block k a
theorem mT (zs:List (List UInt8)):(Lib.compact zs).length≤zs.length:=by
 unfold Lib.compact Lib.compactUpTo;rw [List.length_map];exact zV (List.length_filter_le _ _) (by simp)
theorem vl {w:World} {g n cap:Nat} {zs:List (List UInt8)} (d:Holds encStr w g 0 zs.toArray) (i:zs.length≤cap) (h:cap≤maxLen) (f:g<w.heap.size) :
  gN (putRow encStr (Sort.ahead w n) g 0 (Lib.compact zs ++ List.replicate (zs.length-(Lib.compact zs).length) []).toArray) (some ⟨g,0,none⟩) cap (Lib.compact zs):=by
 have k:=mT zs;refine ⟨by omega,by unfold maxLen at h;omega,Or.inr ⟨g,0,rfl,by simpa using f,fun j b=>?_⟩⟩
 have a:(Lib.compact zs ++ List.replicate (zs.length-(Lib.compact zs).length) []).toArray.size=zs.toArray.size:=by simp;omega
 have c:=(holds_putRow encStr (Sort.ahead w n) g 0 zs.toArray _ d a j (by rw [a];simp;omega)).1
 rw [c];have e:(Lib.compact zs ++ List.replicate (zs.length-(Lib.compact zs).length) ([]:List UInt8)).toArray[j]! = (Lib.compact zs).getD j []:=by
  rw [getElem!_pos _ j (by rw [a];simp;omega)]
  simp [List.getD,zX b,List.getElem_append_left b]
 rw [e]
end Go.Proofs.YtohgnbgamfepoaaGreatDoor
namespace Go.Proofs.YtohgnbgamfepoaaGreatDoor
inductive Tre where
 | num (n:Int)
 | ref (s:ByteArray)
 | bin (o:Int) (a b:Tre)
def sizT:Tre→Nat
 | .num _=>1
 | .ref _=>1
 | .bin _ a b=>sizT a+sizT b+1
theorem lL:∀ t:Tre,1≤sizT t
 | .num _=>zT
 | .ref _=>zT
 | .bin _ a b=>by show 1≤sizT a+sizT b+1;omega
def post:Tre→Nat→List Nd
 | .num n,_=>[⟨1,n,noT,0,0⟩]
 | .ref s,_=>[⟨2,0,s,0,0⟩]
 | .bin o a b,k=>post a k ++ post b (k+sizT a) ++ [⟨o,0,noT,((k+sizT a-1:Nat):Int),((k+sizT a+sizT b-1:Nat):Int)⟩]
theorem iK:∀ (t:Tre) (k:Nat),(post t k).length=sizT t
 | .num _,_=>rfl
 | .ref _,_=>rfl
 | .bin o a b,k=>by simp [post,sizT,iK a,iK b];omega
def JZ (l:List ByteArray) (c:Bool):List ByteArray:=if c then [⟨#[40]⟩] ++ l ++ [⟨#[41]⟩] else l
def dK (t:Tre) (b:Bld):Bld:=⟨b.nodes ++ post t b.nodes.length,b.ready ++ [((b.nodes.length+sizT t-1:Nat):Int)],b.waiting⟩
def IW (b:Bld) (k:Int):Prop:=b.waiting=[]∨∃ w x,b.waiting=w ++ [x]∧(x=0∨bindN x<k)
theorem IW.up {b:Bld} {k m:Int} (h:IW b k) (a:k≤m):IW b m:=by
 rcases h with h | ⟨w,x,h,h0 | h0⟩
 ·exact Or.inl h
 ·exact Or.inr ⟨w,x,h,Or.inl h0⟩
 exact Or.inr ⟨w,x,h,Or.inr (by omega)⟩
theorem kO {b:Bld} {k:Int} (h:IW b k):settleB k b=b:=by
 unfold settleB
 rcases h with h | ⟨w,x,h,h0⟩
 ·rw [h];rfl
 rw [h,List.length_append,List.length_singleton];have e:b.waiting.getD w.length 0=x:=by rw [h];simp [List.getD]
 exact fQ (by rw [e];exact h0)
theorem yX {n:List Nd} {r w:List Int} {o least:Int} (d:o≠0) (h:least≤bindN o):settleB least ⟨n,r,w ++ [o]⟩=settleB least (di o ⟨n,r,w⟩):=by
 unfold settleB;have b:(w ++ [o]).length=w.length+1:=by simp
 have a:(w ++ [o]).getD w.length 0=o:=by simp [List.getD]
 have c:(w ++ [o]).take w.length=w:=by simp
 show bh least (w ++ [o]).length _=_
 rw [b,jV (by show ¬ ((w ++ [o]).getD w.length 0=0∨bindN ((w ++ [o]).getD w.length 0)<least);rw [a];omega)]
 show bh least w.length (di ((w ++ [o]).getD w.length 0) ⟨n,r,(w ++ [o]).take w.length⟩)=bh least (di o ⟨n,r,w⟩).waiting.length _
 rw [a,c]
 rfl
theorem Cp (o:Int) (a c:Tre) (b:Bld) (w:List Int):di o ⟨(dK c ⟨(dK a b).nodes,(dK a b).ready,w⟩).nodes,(dK c ⟨(dK a b).nodes,(dK a b).ready,w⟩).ready,b.waiting⟩=dK (.bin o a c) b:=by
 have h:(b.nodes ++ post a b.nodes.length).length=b.nodes.length+sizT a:=by simp [iK]
 have pa:=lL a;have i:=lL c;unfold di dK jZ;simp only [post,sizT,h,List.length_append,List.length_singleton,iK];have d:b.ready.length+1+1-2=b.ready.length:=by omega
 rw [d];have e:(b.ready ++ [((b.nodes.length+sizT a-1:Nat):Int)] ++ [((b.nodes.length+sizT a+sizT c-1:Nat):Int)]).getD b.ready.length 0=((b.nodes.length+sizT a-1:Nat):Int):=by simp [List.getD]
 have f:(b.ready ++ [((b.nodes.length+sizT a-1:Nat):Int)] ++ [((b.nodes.length+sizT a+sizT c-1:Nat):Int)]).getD (b.ready.length+1) 0=((b.nodes.length+sizT a+sizT c-1:Nat):Int):=by simp [List.getD]
 have g:(b.ready ++ [((b.nodes.length+sizT a-1:Nat):Int)] ++ [((b.nodes.length+sizT a+sizT c-1:Nat):Int)]).take b.ready.length=b.ready:=by simp
 rw [e,f,g]
 congr 1
 ·simp [noT]
 congr 2
 omega
theorem DN (b:Bld):takeB b ⟨#[40]⟩=⟨b.nodes,b.ready,b.waiting ++ [0]⟩:=by
 rw [takeB,if_pos (by decide)]
theorem take_close (b:Bld):takeB b ⟨#[41]⟩=⟨(settleB 0 b).nodes,(settleB 0 b).ready,(settleB 0 b).waiting.take ((settleB 0 b).waiting.length-1)⟩:=by
 rw [takeB,if_neg (by decide),if_pos (by decide)]
theorem DO (b:Bld) {o:Int} (h:3≤o∧o≤6):takeB b (IJ o)=⟨(settleB (bindN o) b).nodes,(settleB (bindN o) b).ready,(settleB (bindN o) b).waiting ++ [o]⟩:=by
 have a:o=3∨o=4∨o=5∨o=6:=by omega
 rcases a with rfl | rfl | rfl | rfl
 ·rw [takeB,if_neg (by decide),if_neg (by decide),if_pos (by decide)];rfl
 ·rw [takeB,if_neg (by decide),if_neg (by decide),if_pos (by decide)];rfl
 ·rw [takeB,if_neg (by decide),if_neg (by decide),if_pos (by decide)];rfl
 rw [takeB,if_neg (by decide),if_neg (by decide),if_pos (by decide)];rfl
theorem uE (n:List Nd) (r w:List Int) (k:Int):IW ⟨n,r,w ++ [0]⟩ k:=Or.inr ⟨w,0,rfl,Or.inl rfl⟩
theorem uF {b:Bld} {k:Int} (t:Tre) (h:IW b k):IW (dK t b) k:=h
theorem GA {l:List ByteArray} {t:Tre} {b:Bld} (ih:settleB 0 (l.foldl takeB ⟨b.nodes,b.ready,b.waiting ++ [0]⟩)=settleB 0 (dK t ⟨b.nodes,b.ready,b.waiting ++ [0]⟩)):(JZ l true).foldl takeB b=dK t b:=by
 show ([ByteArray.mk #[40]] ++ l ++ [ByteArray.mk #[41]]).foldl takeB b=_
 rw [List.foldl_append,List.foldl_append]
 show takeB (l.foldl takeB (takeB b ⟨#[40]⟩)) ⟨#[41]⟩=_
 rw [DN,take_close,ih,kO (uF t (uE _ _ _ _))]
 simp [dK]
section
variable {S:Type} (s:ByteArray) (tk:S→ByteArray→S)
def gK:Nat→Bool→Rd S→Rd S×Bool
 | 0,_,r=>(r,false)
 | f+1,false,r =>
  if nextB s r.at'=40 then gK f false (wordR s tk 1 ⟨r.at',r.opn+1,r.st⟩)
  else if b9 (nextB s r.at') then gK f true (wordR s tk (digitsN s r.at') r)
  else if bG (nextB s r.at') then gK f true (wordR s tk (leadN bG (s.extract r.at' s.size)) r)
  else (r,false)
 | f+1,true,r =>
  if 0<r.opn∧nextB s r.at'=41 then gK f true (wordR s tk 1 ⟨r.at',r.opn-1,r.st⟩)
  else if r.at'<s.size then (if signI (nextB s r.at')<0 then (r,false) else gK f false (wordR s tk 1 r))
  else (r,decide (r.opn=0))
end
section
variable {S:Type} {s:ByteArray} {tk:S→ByteArray→S}
theorem kY {a:Nat} (c:a≤s.size) (h:b9 (nextB s a)=true):1≤digitsN s a∧a+digitsN s a≤s.size:=by
 have b:a<s.size:=cE (fun e=>by rw [e] at h;revert h;decide) c
 have d:=(iA (n:=0) b h (zU)).1;refine ⟨?_,(kZ (o:=0) c h).1⟩;unfold digitsN
 split <;> omega
theorem lk {a:Nat} (c:a≤s.size) (h:bG (nextB s a)=true):1≤leadN bG (s.extract a s.size)∧a+leadN bG (s.extract a s.size)≤s.size:=by
 have b:a<s.size:=cE (fun e=>by rw [e] at h;revert h;decide) c
 exact ⟨(iA (n:=0) b h (zU)).1,(pb (o:=0) c h).1⟩
theorem ey:∀ (f g:Nat) (ph:Bool) (r:Rd S),r.at'≤s.size→s.size-r.at'<f→s.size-r.at'<g→gK s tk f ph r=gK s tk g ph r
 | 0,_,_,_,_,h,_=>by omega
 | _+1,0,_,_,_,_,h=>by omega
 | f+1,g+1,false,r,hr,hf,hg=>by
  rw [gK,gK]
  by_cases a:nextB s r.at'=40
  ·rw [if_pos a,if_pos a]
   have h:=(iG (o:=0) hr a).1;exact ey f g false _ h (by show s.size-(r.at'+1)<f;omega) (by show s.size-(r.at'+1)<g;omega)
  rw [if_neg a,if_neg a]
  by_cases b:b9 (nextB s r.at')=true
  ·rw [if_pos b,if_pos b]
   have h:=kY hr b;exact ey f g true _ h.2 (by show s.size-(r.at'+digitsN s r.at')<f;omega) (by show s.size-(r.at'+digitsN s r.at')<g;omega)
  rw [if_neg b,if_neg b]
  by_cases c:bG (nextB s r.at')=true
  ·rw [if_pos c,if_pos c]
   have h:=lk hr c;exact ey f g true _ h.2 (by show s.size-(r.at'+leadN bG (s.extract r.at' s.size))<f;omega) (by show s.size-(r.at'+leadN bG (s.extract r.at' s.size))<g;omega)
  rw [if_neg c,if_neg c]
 | f+1,g+1,true,r,hr,hf,hg=>by
  rw [gK,gK]
  by_cases a:0<r.opn∧nextB s r.at'=41
  ·rw [if_pos a,if_pos a]
   have h:=(gy (o:=0) hr a.2).1;exact ey f g true _ h (by show s.size-(r.at'+1)<f;omega) (by show s.size-(r.at'+1)<g;omega)
  rw [if_neg a,if_neg a]
  by_cases b:r.at'<s.size
  ·rw [if_pos b,if_pos b]
   by_cases c:signI (nextB s r.at')<0
   ·rw [if_pos c,if_pos c]
   rw [if_neg c,if_neg c];exact ey f g false _ b (by show s.size-(r.at'+1)<f;omega) (by show s.size-(r.at'+1)<g;omega)
  rw [if_neg b,if_neg b]
end
def cB {S:Type} (s:ByteArray) (tk:S→ByteArray→S) (ph:Bool) (r:Rd S):Rd S×Bool:=gK s tk (s.size+1) ph r
section
variable {S:Type} {s:ByteArray} {tk:S→ByteArray→S} {r:Rd S}
theorem la (b:r.at'≤s.size) (h:nextB s r.at'=40):cB s tk false r=cB s tk false (wordR s tk 1 ⟨r.at',r.opn+1,r.st⟩):=by
 have a:=(iG (o:=0) b h).1;unfold cB;rw [gK,if_pos h];exact ey _ _ _ _ a (by show s.size-(r.at'+1)<_;omega) (by show s.size-(r.at'+1)<_;omega)
theorem zR (c:r.at'≤s.size) (h:b9 (nextB s r.at')=true):cB s tk false r=cB s tk true (wordR s tk (digitsN s r.at') r):=by
 have b:=kY c h;have a:nextB s r.at'≠40:=fun e=>by rw [e] at h;revert h;decide
 unfold cB;rw [gK,if_neg a,if_pos h];exact ey _ _ _ _ b.2 (by show s.size-(r.at'+digitsN s r.at')<_;omega) (by show s.size-(r.at'+digitsN s r.at')<_;omega)
theorem Af (c:r.at'≤s.size) (h:bG (nextB s r.at')=true):cB s tk false r=cB s tk true (wordR s tk (leadN bG (s.extract r.at' s.size)) r):=by
 have b:=lk c h;have a:nextB s r.at'≠40:=fun e=>by rw [e] at h;revert h;decide
 have hd : ¬ b9 (nextB s r.at')=true:=fun e=>by unfold b9 at e;unfold bG at h;simp at e h;omega
 unfold cB;rw [gK,if_neg a,if_neg hd,if_pos h];exact ey _ _ _ _ b.2 (by show s.size-(r.at'+leadN bG (s.extract r.at' s.size))<_;omega) (by show s.size-(r.at'+leadN bG (s.extract r.at' s.size))<_;omega)
theorem ud (h:nextB s r.at'≠40) (a:b9 (nextB s r.at')=false) (b:bG (nextB s r.at')=false):cB s tk false r=(r,false):=by
 unfold cB;rw [gK,if_neg h,if_neg (by rw [a];decide),if_neg (by rw [b];decide)]
theorem q7 (b:r.at'≤s.size) (h:0<r.opn∧nextB s r.at'=41):cB s tk true r=cB s tk true (wordR s tk 1 ⟨r.at',r.opn-1,r.st⟩):=by
 have a:=(gy (o:=0) b h.2).1;unfold cB;rw [gK,if_pos h];exact ey _ _ _ _ a (by show s.size-(r.at'+1)<_;omega) (by show s.size-(r.at'+1)<_;omega)
theorem oN (h : ¬ (0<r.opn∧nextB s r.at'=41)) (a:r.at'<s.size) (b : ¬ signI (nextB s r.at')<0):cB s tk true r=cB s tk false (wordR s tk 1 r):=by
 have e:gK s tk (s.size+1) true r=gK s tk s.size false (wordR s tk 1 r):=by rw [gK,if_neg h,if_pos a,if_neg b]
 unfold cB;rw [e];exact ey _ _ _ _ a (by show s.size-(r.at'+1)<_;omega) (by show s.size-(r.at'+1)<_;omega)
theorem sr (h : ¬ (0<r.opn∧nextB s r.at'=41)) (a:r.at'<s.size) (b:signI (nextB s r.at')<0):cB s tk true r=(r,false):=by
 unfold cB;rw [gK,if_neg h,if_pos a,if_pos b]
theorem nD (h : ¬ (0<r.opn∧nextB s r.at'=41)) (a : ¬ r.at'<s.size):cB s tk true r=(r,decide (r.opn=0)):=by
 unfold cB;rw [gK,if_neg h,if_neg a]
theorem q8:∀ (f:Nat) (r:Rd S),r.at'≤s.size→cB s tk false r=cB s tk false (opensR s tk f r)
 | 0,_,_=>rfl
 | f+1,r,hr=>by
  rw [opensR]
  split
  ·rename_i h
   rw [la hr h];exact q8 f _ (iG (o:=0) hr h).1
  rfl
theorem rA:∀ (f:Nat) (r:Rd S),r.at'≤s.size→s.size-r.at'≤f→nextB s (opensR s tk f r).at'≠40
 | 0,r,hr,hf=>by
  have e:r.at'=s.size:=by omega
  rw [opensR,e,nextB,if_pos rfl]
  decide
 | f+1,r,hr,hf=>by
  rw [opensR]
  split
  ·rename_i h
   have a:=(iG (o:=0) hr h).1;exact rA f _ a (by show s.size-(r.at'+1)≤f;omega)
  rename_i h;exact h
theorem ky:∀ (f:Nat) (r:Rd S),r.at'≤s.size→cB s tk true r=cB s tk true (bw s tk f r)
 | 0,_,_=>rfl
 | f+1,r,hr=>by
  rw [bw]
  split
  ·rename_i h
   rw [q7 hr h];exact ky f _ (gy (o:=0) hr h.2).1
  rfl
theorem ma:∀ (f:Nat) (r:Rd S),r.at'≤s.size→s.size-r.at'≤f→¬ (0<(bw s tk f r).opn∧nextB s (bw s tk f r).at'=41)
 | 0,r,hr,hf=>by
  have e:r.at'=s.size:=by omega
  rw [bw,e,nextB,if_pos rfl];intro h;exact absurd h.2 (by decide)
 | f+1,r,hr,hf=>by
  rw [bw]
  split
  ·rename_i h
   have a:=(gy (o:=0) hr h.2).1;exact ma f _ a (by show s.size-(r.at'+1)≤f;omega)
  rename_i h;exact h
theorem end_operand (f:r.at'≤s.size):((aD s tk r).2=true∧cB s tk false r=cB s tk true (aD s tk r).1∧¬ (0<(aD s tk r).1.opn∧nextB s (aD s tk r).1.at'=41))∨((aD s tk r).2=false∧cB s tk false r=((aD s tk r).1,false)):=by
 have b:(bK s tk r).at'≤s.size:=pw _ r f;have c:cB s tk false r=cB s tk false (bK s tk r):=q8 _ r f;have d:nextB s (bK s tk r).at'≠40:=rA _ r f (zT);cases hd:b9 (nextB s (bK s tk r).at')
 ·cases hl:bG (nextB s (bK s tk r).at')
  ·right
   have e:=AZ (s:=s) (tk:=tk) (r:=r) hd hl;rw [e];exact ⟨rfl,by rw [c];exact ud d hd hl⟩
  left
  have e:=vd (s:=s) (tk:=tk) (r:=r) hd hl;rw [e];have a:=lk b hl;refine ⟨rfl,?_,ma _ _ a.2 (by omega)⟩
  rw [c,Af b hl];exact ky _ _ a.2
 left
 have e:=va (s:=s) (tk:=tk) (r:=r) hd;rw [e];have a:=kY b hd;refine ⟨rfl,?_,ma _ _ a.2 (by omega)⟩
 rw [c,zR b hd];exact ky _ _ a.2
theorem uc:∀ (f:Nat) (r:Rd S),r.at'≤s.size→s.size-r.at'≤f→¬ (0<r.opn∧nextB s r.at'=41)→cB s tk true r=if (dq s tk f r).2 then ((dq s tk f r).1,decide ((dq s tk f r).1.opn=0)) else ((dq s tk f r).1,false)
 | 0,r,hr,hf,hc=>by
  rw [dq,if_pos rfl];exact nD hc (by omega)
 | f+1,r,hr,hf,hc=>by
  by_cases a:r.at'<s.size
  ·by_cases b:signI (nextB s r.at')<0
   ·have e:cM s tk r=(r,false):=by rw [cM,if_pos b]
    rw [uD a (by rw [e]),e,if_neg (fun e=>Bool.noConfusion e)]
    exact sr hc a b
   have e:cM s tk r=(wordR s tk 1 r,true):=by rw [cM,if_neg b]
   have c:(wordR s tk 1 r).at'≤s.size:=a;rw [oN hc a b]
   rcases end_operand (tk:=tk) c with ⟨g1,g2,g3⟩ | ⟨g1,g2⟩
   ·rw [AM a (by rw [e]) (by rw [e];exact g1),e,g2]
    have d:=px (s:=s) (tk:=tk) (wordR s tk 1 r);have g:(wordR s tk 1 r).at'=r.at'+1:=rfl;exact uc f _ (eI _ c) (by omega) g3
   rw [uC a (by rw [e]) (by rw [e];exact g1),e,if_neg (fun e=>Bool.noConfusion e)]
   exact g2
  rw [uB a,if_pos rfl];exact nD hc a
theorem kv (a:r.at'≤s.size):iv s tk r=cB s tk false r:=by
 rcases end_operand (tk:=tk) a with ⟨g1,g2,g3⟩ | ⟨g1,g2⟩
 ·rw [g2,uc s.size _ (eI _ a) (by omega) g3]
  unfold iv;rw [if_pos g1]
 rw [g2,Ei g1]
end
theorem i7 {q:Int→Bool} {t:ByteArray} {m:Nat} (b:∀ i,i<m→q (byteN t i)=true) (a:m=t.size∨q (byteN t m)=false):∀ (f i:Nat),i≤m→i+f=t.size→leadTo q t f i=m
 | 0,i,hi,hf=>by
  rcases a with a | a
  ·show i=m;omega
  by_cases e:i=m
  ·exact e
  have:=b i (by omega)
  show i=m
  exfalso
  have g:byteN t i=0:=by
   unfold byteN;have d:t.size=t.data.toList.length:=Array.length_toList.symm;rw [List.getD,List.getElem?_eq_none (by omega)]
   rfl
  have c:byteN t m=0:=by
   unfold byteN;have d:t.size=t.data.toList.length:=Array.length_toList.symm;rw [List.getD,List.getElem?_eq_none (by omega)]
   rfl
  rw [g] at this;rw [c,this] at a;cases a
 | f+1,i,hi,hf=>by
  by_cases e:i=m
  ·rcases a with a | a
   ·omega
   rw [leadTo,e,if_neg (by rw [a];decide)]
  rw [leadTo,if_pos (b i (by omega))]
  exact i7 b a f (i+1) (by omega) (by omega)
def G0 (l:List Nd):Nat→Nat→Tre
 | 0,_=>.num 0
 | f+1,i=>if (l.getD i bO).op=1 then .num (l.getD i bO).n else if (l.getD i bO).op=2 then .ref (l.getD i bO).name else .bin (l.getD i bO).op (G0 l f (l.getD i bO).left.toNat) (G0 l f (l.getD i bO).right.toNat)
def aF (l:List Nd) (i:Nat):Tre:=G0 l (i+1) i
def oa (l:List Nd):Prop := ∀ j,j<l.length→ndErr (l.getD j bO) j=0
theorem lu {x:Nd} {i:Nat} (h:ndErr x i=0):1≤x.op∧x.op≤6:=by
 unfold ndErr at h
 split at h
 ·cases h
 omega
theorem lV {l:List Nd} (c:oa l):∀ (f g i:Nat),i<l.length→i<f→i<g→G0 l f i=G0 l g i
 | 0,_,_,_,h,_=>by omega
 | _+1,0,_,_,_,h=>by omega
 | f+1,g+1,i,hi,hf,hg=>by
  rw [G0,G0]
  by_cases a:(l.getD i bO).op=1
  ·rw [if_pos a,if_pos a]
  rw [if_neg a,if_neg a]
  by_cases b:(l.getD i bO).op=2
  ·rw [if_pos b,if_pos b]
  rw [if_neg b,if_neg b];have d:=lu (c i hi);obtain ⟨a1,a2,a3,a4⟩:=fh (c i hi) (by omega)
  rw [lV c f g _ (by omega) (by omega) (by omega),lV c f g (l.getD i bO).right.toNat (by omega) (by omega) (by omega)]
section
variable {l:List Nd} {i:Nat}
theorem qj (h:(l.getD i bO).op=1):aF l i=.num (l.getD i bO).n:=by unfold aF;rw [G0,if_pos h]
theorem lX (h:(l.getD i bO).op=2):aF l i=.ref (l.getD i bO).name:=by unfold aF;rw [G0,if_neg (by omega),if_pos h]
theorem lW (a:oa l) (b:i<l.length) (h:2<(l.getD i bO).op):aF l i=.bin (l.getD i bO).op (aF l (l.getD i bO).left.toNat) (aF l (l.getD i bO).right.toNat):=by
 obtain ⟨a1,a2,a3,a4⟩:=fh (a i b) h;unfold aF;rw [G0,if_neg (by omega),if_neg (by omega),lV a i _ _ (by omega) (by omega) (Nat.lt_succ_self _),lV a i _ (l.getD i bO).right.toNat (by omega) (by omega) (Nat.lt_succ_self _)]
end
section
variable (N:List ByteArray) (C:List (Int×Int))
def refC (s:ByteArray):Int×Int:=C.getD (b5 N s).toNat noC
def eB:Tre→Int×Int
 | .num n=>eG n
 | .ref s=>refC N C s
 | .bin o a b=>qz o (eB a) (eB b)
end
def refsT:Tre→List ByteArray
 | .num _=>[]
 | .ref s=>[s]
 | .bin _ a b=>refsT a ++ refsT b
def missT (N:List ByteArray) (t:Tre):Bool:=(refsT t).any fun s=>decide (b5 N s<0)
theorem zp (N:List ByteArray) {C:List (Int×Int)} (d:∀ c∈C,pu c):∀ t:Tre,pu (eB N C t)
 | .num n=>ls n
 | .ref s=>by
  rw [eB,refC,zZ];cases h:C[(b5 N s).toNat]? with
  | none=>exact FK
  | some c=>exact d c (List.mem_of_getElem? h)
 | .bin o a b=>FW o _ _
/-! the names of a tree are those of the nodes -/
theorem Dl {l:List Nd} (c:oa l) (s:ByteArray):∀ i,i<l.length→s∈refsT (aF l i)→∃ j,j<l.length∧(l.getD j bO).op=2∧(l.getD j bO).name=s:=by
 intro i
 induction i using Nat.strongRecOn with
 | _ i ih =>
  intro b a;have f:=lu (c i b)
  by_cases e:(l.getD i bO).op=1
  ·rw [qj e] at a;cases a
  by_cases d:(l.getD i bO).op=2
  ·rw [lX d,refsT,List.mem_singleton] at a
   exact ⟨i,b,d,a.symm⟩
  obtain ⟨a1,a2,a3,a4⟩:=fh (c i b) (by omega)
  rw [lW c b (by omega),refsT,List.mem_append] at a
  rcases a with a | a
  ·exact ih _ (by omega) (by omega) a
  exact ih _ (by omega) (by omega) a
theorem vZ {l:List Nd} (j:Nat):∀ k,1≤usedTo l k j→∃ i,i<k∧1≤uses (l.getD i bO) j
 | 0,h=>by cases h
 | k+1,h=>by
  by_cases a:1≤uses (l.getD k bO) j
  ·exact ⟨k,Nat.lt_succ_self _,a⟩
  have c:1≤usedTo l k j+uses (l.getD k bO) j:=h;obtain ⟨i,d,b⟩:=vZ (l:=l) j k (by omega)
  exact ⟨i,by omega,b⟩
theorem Iy {l:List Nd} (h:aA l=0) (s:ByteArray):∀ n j,l.length-j=n→j<l.length→s∈refsT (aF l j)→s∈refsT (aF l (l.length-1)):=by
 obtain ⟨p,q,k,m⟩:=dD h;intro n
 induction n using Nat.strongRecOn with
 | _ n ih =>
  intro j t r f
  by_cases e:j=l.length-1
  ·rw [←e];exact f
  obtain ⟨i,d,c⟩:=vZ (l:=l) j l.length (by rw [m j (by omega)];exact zT)
  unfold uses at c
  split at c
  ·rename_i hop
   obtain ⟨a1,a2,a3,a4⟩:=fh (k i d) hop;have g:s∈refsT (aF l i):=by
    rw [lW k d hop,refsT,List.mem_append]
    by_cases a:(l.getD i bO).left=(j:Int)
    ·left;rw [a];exact f
    by_cases b:(l.getD i bO).right=(j:Int)
    ·right;rw [b];exact f
    rw [if_neg a,if_neg b] at c;omega
   have o:j<i:=by
    by_cases a:(l.getD i bO).left=(j:Int)
    ·omega
    by_cases b:(l.getD i bO).right=(j:Int)
    ·omega
    rw [if_neg a,if_neg b] at c;omega
   exact ih (l.length-i) (by omega) i rfl d g
  omega
theorem jz {l:List Nd} (h:aA l=0) (s:ByteArray):s∈refsT (aF l (l.length-1))↔∃ j,j<l.length∧(l.getD j bO).op=2∧(l.getD j bO).name=s:=by
 obtain ⟨e,a,d,f⟩:=dD h;refine ⟨Dl d s _ (by omega),fun ⟨j,c,a,b⟩=>?_⟩
 refine Iy h s _ j rfl c ?_;rw [lX a,b,refsT];exact List.mem_singleton.2 rfl
def ji (N:List ByteArray) (l:List Nd) (i:Nat):Bool:=decide ((l.getD i bO).op=2) && decide (b5 N (l.getD i bO).name<0)
theorem uM {N:List ByteArray} {l:List Nd} (h:aA l=0) {i:Nat} (b:i<l.length) (a:ji N l i=true):missT N (aF l (l.length-1))=true:=by
 simp only [ji,Bool.and_eq_true,decide_eq_true_eq] at a;unfold missT;rw [List.any_eq_true];exact ⟨_,(jz h _).2 ⟨i,b,a.1,rfl⟩,decide_eq_true a.2⟩
theorem Hy {N:List ByteArray} {l:List Nd} (h:aA l=0) (g:∀ i,i<l.length→ji N l i=false):missT N (aF l (l.length-1))=false:=by
 rw [Bool.eq_false_iff];intro e;unfold missT at e;rw [List.any_eq_true] at e;obtain ⟨s,a,b⟩:=e;obtain ⟨j,f,c,d⟩:=(jz h s).1 a;have:=g j f;unfold ji at this;rw [d,c] at this
 simp at this b
 omega
def mN (l:List Nd) (N:List ByteArray) (C:List (Int×Int)):Int:=if aA l≠0 then aA l else if dP N C≠0 then dP N C else if missT N (aF l (l.length-1))=true then 5 else 0
def qG (l:List Nd) (N:List ByteArray) (C:List (Int×Int)):Int×Int:=if mN l N C=0 then eB N C (aF l (l.length-1)) else noC
end Go.Proofs.YtohgnbgamfepoaaGreatDoor
namespace Go.Proofs.YtohgnbgamfepoaaGreatDoor
open Go.ChangeShapes Go.WideShapes Go.ChangeAt Go.RowKit
set_option maxRecDepth 20000
theorem Fg {w:World} {base e:Nat} {v:Value} {L:List Int} (h:w.ownsRow base e 1 v L.length (aE L)):∃ A cap,v=.slice A L.length cap∧bX w A cap L∧∀ b o,A=some ⟨b,o,none⟩→base≤b:=by
 obtain ⟨A,cap,a,c⟩:=sy h;refine ⟨A,cap,a,c,fun b o e=>?_⟩
 subst a;exact (h.lt b (by simp [Value.ownBlock,e])).1
theorem Cj (A:Option Addr) (c:Nat) (L:List Int) (w:World) (H:L.length≤1048576) (q:aZ w A c L):Calls Tryz.prog 207 #[.slice A L.length c] w fun e w'=>(∃ v,e=.returned v∧w'.ownsRow w.heap.size 3 1 v L.length (aE L))∧Bl w w':=by
 have I:∀ (w:World) (a:Option Addr) (n c n' p:Nat),(binOp .eql 26 (.slice a n c) (.slice none n' p)).run Tryz.prog w=.ok (.bool a.isNone) w:=fun w a n c n' p=>Lib.run_eql_slice_nil w _ _ a n c n' p Tryz.underlying26
 cases A with
 | none =>
  obtain ⟨-,g | ⟨b,o,g,-⟩⟩:=q
  ·subst g
   simp only [List.length_nil]
   go_enter Tryz.func207,Tryz.ntmps207
   go_wp2_with fail;go_ret;exact ⟨⟨_,rfl,World.ownsRow_nil _ _ _ _⟩,zS⟩
  cases g
 | some a =>
  obtain ⟨i0,r,s,t,y⟩:=info_parts Tryz.infoInt;have C:Hid (∀ j u,(aE L)[j]?=some u→w.cell? (a.add j)=some u):=by
   intro j u l;obtain ⟨-,g | ⟨b,o,g,-,h⟩⟩:=q
   ·subst g;simp [aE] at l
   cases g;have i:j<L.length:=by have:=(List.getElem?_eq_some_iff.1 l).1;simpa [aE] using this
   rw [aK,h j i];simp only [aE,List.getElem?_map,zX i,Option.map_some,Option.some.injEq] at l;rw [←l,zZ,zX i]
   rfl
  have G:(aE L).length=L.length*1:=by simp [aE]
  have E:∀ u∈aE L,u.oneCell'=true:=by intro u z;simp [aE] at z;obtain ⟨x,-,rfl⟩:=z;rfl
  clear q
  go_enter Tryz.func207,Tryz.ntmps207
  go_wp2_with (at_builtin;refine wpList_append_own _ rfl _ _ 26 rfl w.heap.size 3 i0 (.int .i64 0) 1 8 Tryz.underlying26 r s t y rfl (by decide) _ _ _ rfl (World.ownsRow_made w #[] 0 (zT) (zU) (by simp)) a L.length c (aE L) rfl ?qc1 ?qc2 ?qc3 ?qc4 ?qc5 ?qc6 ?_)
  case qc1=>exact G
  case qc2=>exact fun j u l=>Lib.cell?_alloc_some _ (C.out j u l)
  case qc3=>exact E
  case qc4=>simp only [maxLen];omega
  case qc5=>omega
  case qc6=>simp
  intro v' w1 f d m;have D:=aa f;have B:Hid (Bl w w1):=((Below.refl _ w).alloc (zT) _).grown d (by simp) (by intro k F;simp [Value.ownBlock] at F;omega)
  clear f d m;go_wp2_with fail;go_ret;exact ⟨⟨_,rfl,D.out⟩,B.out⟩
def aR (w:World) (A:Option Addr) (c:Nat) (L:List Int):Prop:=L.length≤c∧c≤9223372036854775807∧(L=[]∨∃ b cs fr,A=some ⟨b,0,none⟩∧w.heap[b]?=some (.cells cs 3 fr)∧∀ j,j<L.length→w.cell? ⟨b,j,none⟩=some (.int .i64 (L.getD j 0)))
theorem aR.at {w:World} {A:Option Addr} {c:Nat} {L:List Int} (h:aR w A c L):bX w A c L:=by
 obtain ⟨d,-,a | ⟨b,cs,fr,a,e,f⟩⟩:=h
 ·exact ⟨d,Or.inl a⟩
 exact ⟨d,Or.inr ⟨b,a,(zY e).1,f⟩⟩
theorem aR.nil (w:World) (A:Option Addr) (c:Nat) (h:c≤9223372036854775807):aR w A c []:=⟨zU,h,Or.inl rfl⟩
theorem aR.keep {w w':World} {A:Option Addr} {c:Nat} {L:List Int} (h:aR w A c L) (l:∀ (b:Nat) (cs:Array Value) (fr:Nat×Nat),w.heap[b]?=some (Obj.cells cs 3 fr)→w'.heap[b]?=w.heap[b]?):aR w' A c L:=by
 obtain ⟨f,e,d | ⟨b,cs,fr,d,g,k⟩⟩:=h
 ·exact ⟨f,e,Or.inl d⟩
 have i:=l b cs fr g;exact ⟨f,e,Or.inr ⟨b,cs,fr,d,i.trans g,fun j m=>(World.cell?_of_block (a:=⟨b,j,none⟩) i).trans (k j m)⟩⟩
theorem aR.later {w w':World} {A:Option Addr} {c:Nat} {L:List Int} (h:aR w A c L) (a:Bl w w'):aR w' A c L :=
 h.keep fun b _ _ d=>a.block b (zY d).1
theorem bQ {w:World} {base:Nat} {v:Value} {L:List Int} (h:w.ownsRow base 3 1 v L.length (aE L)):∃ A c,v=.slice A L.length c∧aR w A c L:=by
 rcases h.2 with ⟨rfl,e⟩ | ⟨g,cap,b,rfl,m,i,f,l,_,_⟩
 ·have:L=[]:=List.eq_nil_of_length_eq_zero e
  subst this;exact ⟨none,0,rfl,aR.nil _ _ _ (by omega)⟩
 refine ⟨_,cap,rfl,f,by unfold maxLen at l;omega,Or.inr ⟨g,b,_,rfl,i,fun j k=>?_⟩⟩
 have d:=h.cells (g:=g) rfl j (.int .i64 (L.getD j 0)) (by simp [aE,List.getD,zX k])
 have a:(⟨g,0,none⟩:Addr).add j=⟨g,j,none⟩:=by unfold Addr.add;split <;> simp_all
 rw [a] at d;exact d
theorem yJ:(3:Nat)≠26:=by decide
theorem aR.row {w w':World} {base:Nat} {v:Value} {n:Nat} {zs:List Value} {A:Option Addr} {c:Nat} {L:List Int} (h:aR w A c L) (a:w.ownsRow base 26 1 v n zs) (i:w.grownBy w' v.ownBlock):aR w' A c L:=by
 refine h.keep fun b cs fr d=>i.block b (zY d).1 fun e=>?_
 rcases a.2 with ⟨rfl,-⟩ | ⟨g,cap,f,rfl,-,j,-⟩
 ·cases e
 simp only [Value.ownBlock,Option.some.injEq] at e;rw [e,j] at d;simp only [Option.some.injEq,Obj.cells.injEq] at d;exact yJ d.2.1.symm
structure RL where
 p:List Int
 A:Option Addr
 c:Nat
def eq:RL:=⟨[],none,0⟩
def lR (xs:List RL):List (List Int):=xs.map RL.p
theorem o7 (xs:List RL):(lR xs).length=xs.length:=by simp [lR]
theorem rr (a b:List RL):lR (a ++ b)=lR a ++ lR b:=by simp [lR]
def cT (xs:List RL):List Value:=xs.map fun x=>.slice x.A x.p.length x.c
theorem ic (a b:List RL):cT (a ++ b)=cT a ++ cT b:=by simp [cT]
theorem il {xs:List RL} {k:Nat} (h:k<xs.length):xs.getD k eq∈xs:=by
 rw [zZ,zX h];exact List.getElem_mem h
theorem rs (xs:List RL) (k:Nat):(lR xs).getD k []=(xs.getD k eq).p:=by
 rw [zZ,zZ,lR,List.getElem?_map];cases xs[k]? <;> rfl
theorem BN {xs:List RL} {k:Nat} (h:k<xs.length):(cT xs)[k]?=some (.slice (xs.getD k eq).A (xs.getD k eq).p.length (xs.getD k eq).c):=by
 simp [cT,List.getD,h]
def db (w:World) (A:Option Addr) (cap:Nat) (xs:List RL):Prop:=xs.length≤cap∧(xs=[]∨∃ b,A=some ⟨b,0,none⟩∧b<w.heap.size∧∀ k,k<xs.length→w.cell? ⟨b,k,none⟩=some (.slice (xs.getD k eq).A (xs.getD k eq).p.length (xs.getD k eq).c))∧∀ x∈xs,aR w x.A x.c x.p
theorem db.later {w w':World} {A:Option Addr} {cap:Nat} {xs:List RL} (h:db w A cap xs) (c:Bl w w'):db w' A cap xs:=by
 obtain ⟨d,a,e⟩:=h;refine ⟨d,?_,fun x g=>(e x g).later c⟩
 rcases a with a | ⟨b,a,h4,h5⟩
 ·exact Or.inl a
 exact Or.inr ⟨b,a,zW h4 c.size,fun k f=>aC c h4 (h5 k f)⟩
theorem db.nil (w:World) (A:Option Addr) (cap:Nat):db w A cap []:=⟨zU,Or.inl rfl,fun x a=>by cases a⟩
theorem pR {w:World} {base:Nat} {v:Value} {xs:List RL} (h:w.ownsRow base 26 1 v xs.length (cT xs)) (j:∀ x∈xs,aR w x.A x.c x.p):∃ A c,v=.slice A xs.length c∧db w A c xs:=by
 rcases h.2 with ⟨rfl,d⟩ | ⟨g,cap,b,rfl,l,f,e,_,_,_⟩
 ·have:xs=[]:=List.eq_nil_of_length_eq_zero d
  subst this;exact ⟨none,0,rfl,db.nil _ _ _⟩
 refine ⟨_,cap,rfl,e,Or.inr ⟨g,rfl,(zY f).1,fun k i=>?_⟩,j⟩
 have y:=h.cells (g:=g) rfl k _ (BN i);have a:(⟨g,0,none⟩:Addr).add k=⟨g,k,none⟩:=by unfold Addr.add;split <;> simp_all
 rw [a] at y;exact y
theorem Tryz.infoRow:(Tryz.prog.info? 26).map (fun i=>(i.zero,i.size,i.bytes))=some (some (.slice none 0 0),1,24):=by kernel_rfl
theorem xt (A:Option Addr) (c:Nat) (L:List Int) (w:World) (b:L.length≤12) (a:aR w A c L):Calls Tryz.prog 207 #[.slice A L.length c] w fun e w'=>(∃ v,e=.returned v∧w'.ownsRow w.heap.size 3 1 v L.length (aE L))∧Bl w w' :=
 Cj A c L w (by omega) (ly a.at)
theorem I0 {w:World} {x:Nd} {n:Nat} (a:w.heap.size=n):∀ j u,(de x)[j]?=some u→(w.alloc (.cells #[.int .i64 x.op,.int .i64 x.n,.string x.name,.int .i64 x.left,.int .i64 x.right] 132)).cell? ((⟨n,0,none⟩:Addr).add j)=some u:=by
 subst a;exact World.news_of_block (cs := #[.int .i64 x.op,.int .i64 x.n,.string x.name,.int .i64 x.left,.int .i64 x.right]) (t:=132) (fr:=(0,0)) (heap_alloc_new _ _)
theorem FS {x:Nd}:∀ u∈de x,u.oneCell'=true:=by intro u a;simp [de] at a;rcases a with rfl | rfl | rfl | rfl | rfl <;> rfl
theorem xM {s:ByteArray} (h:s.size=0):s=noT:=by
 obtain ⟨d⟩:=s;have:d=#[]:=Array.eq_empty_of_size_eq_zero h;subst this
 rfl
end Go.Proofs.YtohgnbgamfepoaaGreatDoor
namespace Go.Proofs.YtohgnbgamfepoaaGreatDoor
def lessL:List Int→List Int→Bool
 | [],[]=>false
 | [],_ :: _=>true
 | _ :: _,[]=>false
 | a :: r,b :: t=>if a=b then lessL r t else decide (a<b)
theorem dW (a:List Int):lessL a a=false:=by
 induction a with
 | nil=>rfl
 | cons x r ih=>simp [lessL,ih]
theorem eR:∀ (a b c:List Int),lessL a b=true→lessL b c=true→lessL a c=true
 | [],[],_,h,_=>by simp [lessL] at h
 | [],_ :: _,[],_,h=>by simp [lessL] at h
 | [],_ :: _,_ :: _,_,_=>rfl
 | _ :: _,[],_,h,_=>by simp [lessL] at h
 | _ :: _,_ :: _,[],_,h=>by simp [lessL] at h
 | x :: r,y :: t,z :: u,h1,h2=>by
  simp only [lessL] at h1 h2 ⊢
  by_cases e:x=y
  ·by_cases d:y=z
   ·rw [if_pos e] at h1
    rw [if_pos d] at h2;rw [if_pos (e.trans d)];exact eR r t u h1 h2
   rw [if_neg d] at h2;rw [if_neg (by rw [e];exact d),e]
   exact h2
  rw [if_neg e] at h1;have f:=of_decide_eq_true h1
  by_cases d:y=z
  ·rw [if_neg (by rw [←d];exact e),←d]
   exact h1
  rw [if_neg d] at h2;have g:=of_decide_eq_true h2;rw [if_neg (by omega)]
  exact decide_eq_true (by omega)
theorem lessL_total:∀ (a b:List Int),a≠b→lessL a b=true∨lessL b a=true
 | [],[],h=>absurd rfl h
 | [],_ :: _,_=>Or.inl rfl
 | _ :: _,[],_=>Or.inr rfl
 | x :: r,y :: t,h=>by
  simp only [lessL]
  by_cases e:x=y
  ·rw [if_pos e,if_pos e.symm]
   exact lessL_total r t fun c=>h (by rw [e,c])
  rw [if_neg e,if_neg fun c=>e c.symm]
  rcases Int.lt_or_gt_of_ne e with c | c
  ·exact Or.inl (decide_eq_true c)
  exact Or.inr (decide_eq_true c)
theorem iB {a b:List Int} (h:lessL a b=true):a≠b:=fun e=>by rw [e,dW] at h;cases h
theorem Fm {a b:List Int} (c:lessL a b=false) (d:lessL b a=false):a=b :=
 Decidable.byContradiction fun e=>by
  rcases lessL_total a b e with h | h
  ·rw [h] at c;cases c
  rw [h] at d;cases d
theorem o9:∀ (a b:List Int),a.length=b.length→lessL a b=true→∃ j,j<a.length∧(∀ i,i<j→a.getD i 0=b.getD i 0)∧a.getD j 0<b.getD j 0
 | [],[],_,h=>by simp [lessL] at h
 | [],_ :: _,h,_=>by simp at h
 | _ :: _,[],h,_=>by simp at h
 | x :: r,y :: t,hl,h=>by
  simp only [lessL] at h
  by_cases e:x=y
  ·rw [if_pos e] at h
   obtain ⟨j,c,d,f⟩:=o9 r t (by simpa using hl) h
   refine ⟨j+1,by simpa using c,fun i g=>?_,by simpa using f⟩
   cases i with
   | zero=>simpa using e
   | succ i=>simpa using d i (by omega)
  rw [if_neg e] at h;exact ⟨0,by simp,fun i g=>by omega,by simpa using of_decide_eq_true h⟩
theorem uA {D:Nat→Dm} {n:Nat} {a b:List Int} (c:InO D n a) (d:InO D n b) (h:lessL a b=true):numI D a n<numI D b n:=by
 obtain ⟨j,f,o,r⟩:=o9 a b (by rw [c.len,d.len]) h
 rw [c.len] at f;have g:∀ k,k≤j→numI D a k=numI D b k:=by
  intro k
  induction k with
  | zero=>intro _;rfl
  | succ k ih=>intro q;rw [numI,numI,ih (by omega),o k (by omega)]
 have i:∀ k,j<k→k≤n→numI D a k+1≤numI D b k:=by
  intro k
  induction k with
  | zero=>intro h;omega
  | succ k ih =>
   intro p q;rw [numI,numI];have s:=c.hi k (by omega)
   have t:=d.lo k (by omega)
   by_cases e:k=j
   ·rw [g k (by omega),e];omega
   have l:=ih (by omega) (by omega)
   have m:(numI D a k+1)*((D k).n:Int)≤numI D b k*((D k).n:Int):=Int.mul_le_mul_of_nonneg_right l (by omega)
   rw [Int.add_mul,Int.one_mul] at m
   omega
 exact i n f (zT)
structure En where
 pl:List Int
 n:Int
def cX (x:Int):Bool:=decide (-1000000≤x) && decide (x≤1000000)
def entOne (D:Nat→Dm) (n:Nat) (e:En):Int:=if shapeErr D n e.pl≠0 then shapeErr D n e.pl else if leafV D n e.pl=false then 6 else if cX e.n=false then 1 else 0
def aheadOk:Option (List Int)→List Int→Bool
 | none,_=>true
 | some a,b=>lessL a b
def aV (D:Nat→Dm) (n:Nat):Option (List Int)→List En→Int
 | _,[]=>0
 | q,e :: r=>if entOne D n e≠0 then entOne D n e else if aheadOk q e.pl=true then aV D n (some e.pl) r else 7
def entsErr (D:Nat→Dm) (n:Nat) (l:List En):Int:=if (am D n).2.2≠0 then (am D n).2.2 else aV D n none l
structure Ens (D:Nat→Dm) (n:Nat) (l:List En):Prop where
 right:(am D n).2.2=0
 each:∀ e∈l,InO D n e.pl∧leafV D n e.pl=true∧cX e.n=true
 rise:l.Pairwise fun a b=>lessL a.pl b.pl=true
theorem dZ {D:Nat→Dm} {n:Nat} {e:En} (a:(am D n).2.2=0) (h:entOne D n e=0):InO D n e.pl∧leafV D n e.pl=true∧cX e.n=true:=by
 unfold entOne at h
 split at h
 ·rename_i h1;exact absurd h h1
 split at h
 ·cases h
 split at h
 ·cases h
 rename_i h1 h2 h3
 exact ⟨fY (by rw [D6 a];simpa using h1),by simpa using h2,by simpa using h3⟩
theorem B4 {D:Nat→Dm} {n:Nat} {e:En} (h:InO D n e.pl∧leafV D n e.pl=true∧cX e.n=true):entOne D n e=0:=by
 have a:shapeErr D n e.pl=0:=by rw [←D6 h.1.right];exact h.1.ok
 unfold entOne;rw [if_neg (by simpa using a),if_neg (by simp [h.2.1]),if_neg (by simp [h.2.2])]
theorem kj {D:Nat→Dm} {n:Nat} (i:(am D n).2.2=0):∀ (l:List En) (q:Option (List Int)),aV D n q l=0→(∀ e∈l,InO D n e.pl∧leafV D n e.pl=true∧cX e.n=true)∧(∀ a,q=some a→∀ e∈l,lessL a e.pl=true)∧l.Pairwise fun a b=>lessL a.pl b.pl=true
 | [],_,_=>⟨fun _ h=>(by cases h),fun _ _ _ h=>(by cases h),List.Pairwise.nil⟩
 | e :: r,q,h=>by
  rw [aV] at h
  by_cases d:entOne D n e=0
  ·rw [if_neg (by simpa using d)] at h
   have k:∀ (g:aV D n (some e.pl) r=0) (f:∀ a,q=some a→lessL a e.pl=true),(∀ x∈e :: r,InO D n x.pl∧leafV D n x.pl=true∧cX x.n=true)∧(∀ a,q=some a→∀ x∈e :: r,lessL a x.pl=true)∧(e :: r).Pairwise fun a b=>lessL a.pl b.pl=true:=fun g f=>by
    obtain ⟨g1,g2,g3⟩:=kj i r _ g;refine ⟨fun x c=>?_,fun a j x c=>?_,List.Pairwise.cons (fun x c=>g2 _ rfl x c) g3⟩
    ·rcases List.mem_cons.1 c with rfl | c
     ·exact dZ i d
     exact g1 x c
    rcases List.mem_cons.1 c with rfl | c
    ·exact f a j
    exact eR _ _ _ (f a j) (g2 _ rfl x c)
   split at h
   ·rename_i h4
    exact k h fun b m=>by rw [m] at h4;exact h4
   cases h
  rw [if_pos (by simpa using d)] at h
  exact absurd h d
theorem ss {D:Nat→Dm} {n:Nat} {l:List En} (h:entsErr D n l=0):Ens D n l:=by
 unfold entsErr at h
 split at h
 ·rename_i h1;exact absurd h h1
 rename_i h1
 have a:(am D n).2.2=0:=by simpa using h1
 obtain ⟨g1,_,g3⟩:=kj a l none h;exact ⟨a,g1,g3⟩
theorem oO {D:Nat→Dm} {n:Nat}:∀ (l:List En) (q:Option (List Int)),(∀ e∈l,InO D n e.pl∧leafV D n e.pl=true∧cX e.n=true)→(∀ a,q=some a→∀ e∈l,lessL a e.pl=true)→(l.Pairwise fun a b=>lessL a.pl b.pl=true)→aV D n q l=0
 | [],_,_,_,_=>rfl
 | e :: r,q,h1,h2,h3=>by
  obtain ⟨d,f⟩:=List.pairwise_cons.1 h3;have g:=oO r (some e.pl) (fun x c=>h1 x (List.mem_cons_of_mem _ c)) (fun a h x c=>by cases h;exact d x c) f
  rw [aV,if_neg (by simpa using B4 (h1 e (List.mem_cons_self ..)))]
  rw [if_pos]
  ·exact g
  cases q with
  | none=>rfl
  | some a=>exact h2 a rfl e (List.mem_cons_self ..)
theorem Ens.ok {D:Nat→Dm} {n:Nat} {l:List En} (h:Ens D n l):entsErr D n l=0:=by
 unfold entsErr;rw [if_neg (by simpa using h.right)]
 exact oO l none h.each (fun a b=>by cases b) h.rise
theorem Ens.few {D:Nat→Dm} {n:Nat} {l:List En} (h:Ens D n l):l.length≤3000:=by
 have u:=(au h.right).2.2.1;have g:∀ (m:List En) (lo:Int),(∀ e∈m,InO D n e.pl)→(m.Pairwise fun a b=>lessL a.pl b.pl=true)→(∀ e∈m,lo≤numI D e.pl n)→0≤lo→lo≤(prodN D n:Int)→lo+(m.length:Int)≤(prodN D n:Int):=by
  intro m
  induction m with
  | nil=>intro lo _ _ _ _ i;simpa using i
  | cons e r ih =>
   intro lo f j k q i;obtain ⟨o,p⟩:=List.pairwise_cons.1 j;have c:=f e (List.mem_cons_self ..);have s:=k e (List.mem_cons_self ..);have t:=(a8 c (Nat.le_refl n)).2.1;have:=ih (numI D e.pl n+1) (fun x d=>f x (List.mem_cons_of_mem _ d)) p (fun x d=>by have:=uA c (f x (List.mem_cons_of_mem _ d)) (o x d);omega) (by omega) (by omega)
   rw [List.length_cons]
   omega
 have:=g l 0 (fun e c=>(h.each e c).1) h.rise (fun e c=>(a8 (h.each e c).1 (Nat.le_refl n)).1) (Int.le_refl _) (by omega)
 omega
def cntE (l:List En) (p:List Int):Nat:=(l.takeWhile fun e=>lessL e.pl p).length
def hasE (l:List En) (p:List Int):Bool:=match l.drop (cntE l p) with
 | []=>false
 | e :: _ => !lessL p e.pl
def getE (l:List En) (p:List Int):Int×Int:=match l.drop (cntE l p) with
 | []=>(0,0)
 | e :: _=>if lessL p e.pl=true then (0,0) else (1,e.n)
def setL (l:List En) (p:List Int) (x:Int):List En:=l.take (cntE l p) ++ ⟨p,x⟩ :: l.drop (cntE l p+(if hasE l p=true then 1 else 0))
def clrL (l:List En) (p:List Int):List En:=l.take (cntE l p) ++ l.drop (cntE l p+1)
theorem oK {α:Type} (q:α→Bool) (l:List α):l.drop (l.takeWhile q).length=l.dropWhile q:=by
 induction l with
 | nil=>rfl
 | cons x r ih =>
  by_cases h:q x=true
  ·rw [List.takeWhile_cons,List.dropWhile_cons,if_pos h,if_pos h,List.length_cons,List.drop_succ_cons,ih]
  rw [List.takeWhile_cons,List.dropWhile_cons,if_neg h,if_neg h];rfl
theorem zh {α:Type} (q:α→Bool) (l:List α):l.take (l.takeWhile q).length=l.takeWhile q:=by
 induction l with
 | nil=>rfl
 | cons x r ih =>
  by_cases h:q x=true
  ·rw [List.takeWhile_cons,if_pos h,List.length_cons,List.take_succ_cons,ih]
  rw [List.takeWhile_cons,if_neg h];rfl
theorem Cx {α:Type} {q:α→Bool} {l:List α} {x:α} (h:x∈l.takeWhile q):q x=true:=by
 induction l with
 | nil=>cases h
 | cons y r ih =>
  by_cases a:q y=true
  ·rw [List.takeWhile_cons,if_pos a] at h
   rcases List.mem_cons.1 h with rfl | h
   ·exact a
   exact ih h
  rw [List.takeWhile_cons,if_neg a] at h;cases h
theorem o5 {α:Type} {q:α→Bool} {l r:List α} {x:α} (h:l.dropWhile q=x :: r):q x=false:=by
 induction l with
 | nil=>cases h
 | cons y t ih =>
  by_cases a:q y=true
  ·rw [List.dropWhile_cons,if_pos a] at h;exact ih h
  rw [List.dropWhile_cons,if_neg a] at h;cases h
  simpa using a
theorem jo {l:List En} (h:l.Pairwise fun a b=>lessL a.pl b.pl=true) (p:List Int) :
  ∃ A B,l.take (cntE l p)=A∧(∀ e∈A,lessL e.pl p=true)∧(∀ e∈B,lessL p e.pl=true) ∧
   ((hasE l p=false∧l.drop (cntE l p)=B∧l=A ++ B∧getE l p=(0,0))∨∃ x,hasE l p=true∧l.drop (cntE l p)=⟨p,x⟩ :: B∧l=A ++ ⟨p,x⟩ :: B∧getE l p=(1,x)):=by
 have s:l.take (cntE l p)=l.takeWhile fun e=>lessL e.pl p:=zh _ _
 have t:l.drop (cntE l p)=l.dropWhile fun e=>lessL e.pl p:=oK _ _
 have i:l.take (cntE l p) ++ l.drop (cntE l p)=l:=List.take_append_drop _ _;have j:∀ e∈l.take (cntE l p),lessL e.pl p=true:=fun e c=>by rw [s] at c;exact Cx (q:=fun e:En=>lessL e.pl p) c
 cases hd:l.drop (cntE l p) with
 | nil =>
  refine ⟨_,[],rfl,j,fun _ h=>(by cases h),Or.inl ⟨?_,rfl,?_,?_⟩⟩
  ·unfold hasE;rw [hd]
  ·conv=>lhs;rw [←i,hd]
  unfold getE;rw [hd]
 | cons x r =>
  have u:lessL x.pl p=false:=by rw [t] at hd;exact o5 (q:=fun e:En=>lessL e.pl p) hd
  have m:(x :: r).Pairwise fun a b=>lessL a.pl b.pl=true:=by rw [←hd];exact h.sublist (List.drop_sublist _ _)
  obtain ⟨o,_⟩:=List.pairwise_cons.1 m
  by_cases f:lessL p x.pl=true
  ·refine ⟨_,x :: r,rfl,j,fun e c=>?_,Or.inl ⟨?_,rfl,?_,?_⟩⟩
   ·rcases List.mem_cons.1 c with rfl | c
    ·exact f
    exact eR _ _ _ f (o e c)
   ·unfold hasE;rw [hd];simp [f]
   ·conv=>lhs;rw [←i,hd]
   unfold getE;rw [hd];simp [f]
  have d:lessL p x.pl=false:=by simpa using f
  have k:x.pl=p:=Fm u d;have g:x=⟨p,x.n⟩:=by cases x;simp at k ⊢;exact k
  refine ⟨_,r,rfl,j,fun e c=>by rw [←k];exact o e c,Or.inr ⟨x.n,?_,?_,?_,?_⟩⟩
  ·unfold hasE;rw [hd];simp [d]
  ·rw [←g]
  ·conv=>lhs;rw [←i,hd]
   rw [←g]
  unfold getE;rw [hd];simp [d]
theorem nE {l:List En} (h:l.Pairwise fun a b=>lessL a.pl b.pl=true) {e:En} (d:e∈l):getE l e.pl=(1,e.n):=by
 obtain ⟨A,B,_,g,i,⟨_,_,f,_⟩ | ⟨x,_,_,f,j⟩⟩:=jo h e.pl
 ·rw [f] at d
  rcases List.mem_append.1 d with c | c
  ·have:=g e c;rw [dW] at this;cases this
  have:=i e c;rw [dW] at this;cases this
 rw [j];have c:e=⟨e.pl,x⟩:=by
  rw [f] at d
  rcases List.mem_append.1 d with c | c
  ·have:=g e c;rw [dW] at this;cases this
  rcases List.mem_cons.1 c with h5 | h5
  ·exact h5
  have:=i e h5;rw [dW] at this;cases this
 rw [c]
theorem lg {l:List En} (h:l.Pairwise fun a b=>lessL a.pl b.pl=true) {p:List Int} (g:∀ e∈l,e.pl≠p):getE l p=(0,0)∧hasE l p=false:=by
 obtain ⟨A,B,_,_,_,⟨c,_,_,f⟩ | ⟨x,_,_,d,_⟩⟩:=jo h p
 ·exact ⟨f,c⟩
 exact absurd rfl (g ⟨p,x⟩ (by rw [d];simp))
theorem uj {l m:List En} (i:l.Pairwise fun a b=>lessL a.pl b.pl=true) (j:m.Pairwise fun a b=>lessL a.pl b.pl=true) {q:List Int} (h:∀ e,e.pl=q→(e∈l↔e∈m)):getE l q=getE m q:=by
 by_cases g:∃ e∈l,e.pl=q
 ·obtain ⟨e,c,rfl⟩:=g
  rw [nE i c,nE j ((h e rfl).1 c)]
 have c:∀ e∈l,e.pl≠q:=fun e c d=>g ⟨e,c,d⟩
 have d:∀ e∈m,e.pl≠q:=fun e d f=>c e ((h e f).2 d) f
 rw [(lg i c).1,(lg j d).1]
theorem rK {A B:List En} {p:List Int} {x:Int} (d:∀ e∈A,lessL e.pl p=true) (f:∀ e∈B,lessL p e.pl=true) (h:A.Pairwise fun a b=>lessL a.pl b.pl=true) (i:B.Pairwise fun a b=>lessL a.pl b.pl=true):(A ++ ⟨p,x⟩ :: B).Pairwise fun a b=>lessL a.pl b.pl=true:=by
 refine List.pairwise_append.2 ⟨h,List.Pairwise.cons (fun e j=>f e j) i,fun a g b c=>?_⟩
 rcases List.mem_cons.1 c with rfl | c
 ·exact d a g
 exact eR _ _ _ (d a g) (f b c)
theorem mK {l:List En} (h:l.Pairwise fun a b=>lessL a.pl b.pl=true) (p:List Int) (x:Int) :
  (setL l p x).Pairwise (fun a b=>lessL a.pl b.pl=true)∧(∀ e,e∈setL l p x↔e=⟨p,x⟩∨(e∈l∧e.pl≠p))∧(setL l p x).length=l.length+(if hasE l p=true then 0 else 1):=by
 obtain ⟨A,B,i,j,k,⟨g,m,f,_⟩ | ⟨y,g,m,f,_⟩⟩:=jo h p
 ·have e:setL l p x=A ++ ⟨p,x⟩ :: B:=by unfold setL;rw [i,g,if_neg (by simp),Nat.add_zero,m]
  rw [e,g];have d:=h;rw [f] at d;obtain ⟨p1,p2,_⟩:=List.pairwise_append.1 d;refine ⟨rK j k p1 p2,fun z=>?_,by rw [f];simp;omega⟩
  rw [f]
  constructor
  ·intro c
   rcases List.mem_append.1 c with c | c
   ·exact Or.inr ⟨List.mem_append.2 (Or.inl c),iB (j z c)⟩
   rcases List.mem_cons.1 c with c | c
   ·exact Or.inl c
   exact Or.inr ⟨List.mem_append.2 (Or.inr c),fun e=>iB (k z c) e.symm⟩
  rintro (c | ⟨c,_⟩)
  ·rw [c];simp
  rcases List.mem_append.1 c with c | c
  ·exact List.mem_append.2 (Or.inl c)
  exact List.mem_append.2 (Or.inr (List.mem_cons_of_mem _ c))
 have e:setL l p x=A ++ ⟨p,x⟩ :: B:=by
  unfold setL;rw [i,g,if_pos rfl,←List.drop_drop,m]
  rfl
 rw [e,g];have d:=h;rw [f] at d;obtain ⟨p1,p2,_⟩:=List.pairwise_append.1 d;refine ⟨rK j k p1 (List.pairwise_cons.1 p2).2,fun z=>?_,by rw [f];simp⟩
 rw [f]
 constructor
 ·intro c
  rcases List.mem_append.1 c with c | c
  ·exact Or.inr ⟨List.mem_append.2 (Or.inl c),iB (j z c)⟩
  rcases List.mem_cons.1 c with c | c
  ·exact Or.inl c
  exact Or.inr ⟨List.mem_append.2 (Or.inr (List.mem_cons_of_mem _ c)),fun e=>iB (k z c) e.symm⟩
 rintro (c | ⟨c,n⟩)
 ·rw [c];simp
 rcases List.mem_append.1 c with c | c
 ·exact List.mem_append.2 (Or.inl c)
 rcases List.mem_cons.1 c with c | c
 ·exact absurd (by rw [c]) n
 exact List.mem_append.2 (Or.inr (List.mem_cons_of_mem _ c))
theorem me {l:List En} (h:l.Pairwise fun a b=>lessL a.pl b.pl=true) (p:List Int) (n:hasE l p=true) :
  (clrL l p).Pairwise (fun a b=>lessL a.pl b.pl=true)∧(∀ e,e∈clrL l p↔e∈l∧e.pl≠p)∧(clrL l p).length+1=l.length:=by
 obtain ⟨A,B,g,k,m,⟨j,_⟩ | ⟨y,j,r,f,_⟩⟩:=jo h p
 ·rw [j] at n;cases n
 have e:clrL l p=A ++ B:=by
  unfold clrL;rw [g,←List.drop_drop,r]
  rfl
 rw [e];have d:=h;rw [f] at d;obtain ⟨p1,p2,_⟩:=List.pairwise_append.1 d;refine ⟨List.pairwise_append.2 ⟨p1,(List.pairwise_cons.1 p2).2,fun a o b q=>eR _ _ _ (k a o) (m b q)⟩,fun z=>?_,by rw [f];simp;omega⟩
 rw [f]
 constructor
 ·intro c
  rcases List.mem_append.1 c with c | c
  ·exact ⟨List.mem_append.2 (Or.inl c),iB (k z c)⟩
  exact ⟨List.mem_append.2 (Or.inr (List.mem_cons_of_mem _ c)),fun e=>iB (m z c) e.symm⟩
 rintro ⟨c,i⟩
 rcases List.mem_append.1 c with c | c
 ·exact List.mem_append.2 (Or.inl c)
 rcases List.mem_cons.1 c with c | c
 ·exact absurd (by rw [c]) i
 exact List.mem_append.2 (Or.inr c)
theorem Ens.set {D:Nat→Dm} {n:Nat} {l:List En} (h:Ens D n l) {p:List Int} {x:Int} (f:InO D n p) (d:leafV D n p=true) (g:cX x=true):Ens D n (setL l p x):=by
 obtain ⟨a,b,_⟩:=mK h.rise p x;refine ⟨h.right,fun e c=>?_,a⟩
 rcases (b e).1 c with rfl | ⟨h3,_⟩
 ·exact ⟨f,d,g⟩
 exact h.each e h3
theorem Ens.clr {D:Nat→Dm} {n:Nat} {l:List En} (h:Ens D n l) {p:List Int} (d:hasE l p=true):Ens D n (clrL l p):=by
 obtain ⟨a,b,_⟩:=me h.rise p d;exact ⟨h.right,fun e c=>h.each e ((b e).1 c).1,a⟩
theorem Ens.there {D:Nat→Dm} {n:Nat} {l:List En} (h:Ens D n l) (p:List Int) (x:Int):getE (setL l p x) p=(1,x)∧hasE (setL l p x) p=true:=by
 obtain ⟨c,d,_⟩:=mK h.rise p x;have b:(⟨p,x⟩:En)∈setL l p x:=(d _).2 (Or.inl rfl);refine ⟨nE c b,?_⟩;obtain ⟨A,B,_,e,f,⟨_,_,a,_⟩ | ⟨y,a,_⟩⟩:=jo c p
 ·rw [a] at b
  rcases List.mem_append.1 b with h4 | h4
  ·have:=e _ h4;rw [dW] at this;cases this
  have:=f _ h4;rw [dW] at this;cases this
 exact a
theorem Ens.else {D:Nat→Dm} {n:Nat} {l:List En} (h:Ens D n l) {p q:List Int} (c:q≠p) (x:Int):getE (setL l p x) q=getE l q:=by
 obtain ⟨d,f,_⟩:=mK h.rise p x;refine uj d h.rise fun e b=>?_
 rw [f]
 constructor
 ·rintro (a | a)
  ·exact absurd (by rw [←b,a]) c
  exact a.1
 exact fun a=>Or.inr ⟨a,by rw [b];exact c⟩
theorem Ens.gone {D:Nat→Dm} {n:Nat} {l:List En} (h:Ens D n l) {p:List Int} (f:hasE l p=true):getE (clrL l p) p=(0,0)∧(clrL l p).length+1=l.length:=by
 obtain ⟨a,b,c⟩:=me h.rise p f;exact ⟨(lg a fun e d=>((b e).1 d).2).1,c⟩
structure Ed where
 pl:List Int
 n:Int
 clear:Bool
def editErr (D:Nat→Dm) (n:Nat) (l:List En) (x:Ed):Int :=
 if shapeErr D n x.pl≠0 then shapeErr D n x.pl
 else if x.clear=true then (if hasE l x.pl=true then 0 else 5)
 else if leafV D n x.pl=false then 6
 else if cX x.n=false then 1
 else 0
def editV (l:List En) (x:Ed):List En:=if x.clear=true then clrL l x.pl else setL l x.pl x.n
def aN (D:Nat→Dm) (n:Nat):List En→Nat→List Ed→List En×Int×Int
 | l,_,[]=>(l,0,0)
 | l,i,x :: r=>if editErr D n l x=0 then aN D n (editV l x) (i+1) r else ([],(i:Int),editErr D n l x)
def editsV (D:Nat→Dm) (n:Nat) (l:List En) (xs:List Ed):List En×Int×Int :=
 if 60<xs.length then ([],0,4) else if entsErr D n l≠0 then ([],0,entsErr D n l) else aN D n l 0 xs
theorem k9 {D:Nat→Dm} {n i:Nat} {l:List En} {x:Ed} (r:List Ed) (h:editErr D n l x=0):aN D n l i (x :: r)=aN D n (editV l x) (i+1) r:=by rw [aN,if_pos h]
theorem ki {D:Nat→Dm} {n i:Nat} {l:List En} {x:Ed} (r:List Ed) (h:editErr D n l x≠0):aN D n l i (x :: r)=([],(i:Int),editErr D n l x):=by rw [aN,if_neg h]
theorem Ens.edit {D:Nat→Dm} {n:Nat} {l:List En} (h:Ens D n l) {x:Ed} (a:editErr D n l x=0):InO D n x.pl∧Ens D n (editV l x):=by
 unfold editErr at a
 split at a
 ·rename_i h1;exact absurd a h1
 rename_i h1
 have b:InO D n x.pl:=fY (by rw [D6 h.right];simpa using h1)
 refine ⟨b,?_⟩;unfold editV
 split at a
 ·rename_i h2
  split at a
  ·rename_i h3
   rw [if_pos h2];exact h.clr h3
  cases a
 rename_i h2
 rw [if_neg h2]
 split at a
 ·cases a
 split at a
 ·cases a
 rename_i h3 h4
 exact h.set b (by simpa using h3) (by simpa using h4)
end Go.Proofs.YtohgnbgamfepoaaGreatDoor
namespace Go.Proofs.YtohgnbgamfepoaaGreatDoor
open Go Go.ChangeShapes Go.WideShapes Go.ChangeAt Go.RowKit Go.Deep
set_option maxRecDepth 100000
theorem xY {H:Type} {enc:TypeId×Value→H} {w:World} {held:Bool} {r:Reach} {b0:Nat} {v:Value} {d:DataW H} {p:List MemPlace} (s:Value.okWide Tryz.prog w r b0 27 v) (h:DataW.Trod enc Tryz.prog w 0 (fun _=>true) held 27 v d p) :
  ∃ (Ap:Option Addr) (i:Nat) (L:List Int),v=.slice Ap L.length i∧aZ w Ap i L:=by
 obtain ⟨a,len,cap,rfl⟩:=okWide_slice Tryz.underlying27 s;obtain ⟨fuel,o⟩:=h;have c:DataW.trod enc Tryz.prog w 0 (fun _=>true) held fuel 27 [.slice a len cap]=some (d,p):=o
 rcases open_ints Tryz.underlying27 Tryz.underlying3 (by kernel_rfl) c with ⟨e,_⟩ | ⟨a',len',g,zs,e,_,q,_,f,_,k,_⟩
 ·simp at e
  obtain ⟨rfl,rfl,rfl⟩:=e;exact ⟨none,0,[],rfl,aZ.nil _ _ _⟩
 simp at e f
 obtain ⟨rfl,rfl,rfl⟩:=e;have b:(zs.take len).length=len:=by simp;omega
 refine ⟨some a',cap,zs.take len,by rw [b],by rw [b];exact q,?_⟩
 rcases Nat.eq_zero_or_pos len with h0 | h0
 ·left
  subst h0
  simp
 right
 have c0:=k 0 (by omega)
 have m:=ft c0 rfl;have n:=World.block_lt_of_cell? _ _ c0;refine ⟨a'.block,a'.off,by rw [←m],by simpa [Addr.add] using n,fun j l=>?_⟩
 rw [b] at l;have:=k j (by omega)
 rw [m,aK] at this;rw [this]
 simp [List.getD,l]
structure EnL where
 e:En
 A:Option Addr
 c:Nat
def noEn:En:=⟨[],0⟩
def aJ:EnL:=⟨noEn,none,0⟩
def lE (xs:List EnL):List En:=xs.map EnL.e
theorem a7 (xs:List EnL):(lE xs).length=xs.length:=by simp [lE]
theorem lE_at (xs:List EnL) (k:Nat):(lE xs).getD k noEn=(xs.getD k aJ).e:=by
 rw [zZ,zZ,lE,List.getElem?_map];cases xs[k]? <;> rfl
def ah:List EnL→List Value
 | []=>[]
 | x :: r=>.slice x.A x.e.pl.length x.c :: .int .i64 x.e.n :: ah r
theorem cellsE_len (xs:List EnL):(ah xs).length=xs.length*2:=by
 induction xs with
 | nil=>rfl
 | cons x r ih=>simp [ah,ih];omega
theorem cellsE_append (a b:List EnL):ah (a ++ b)=ah a ++ ah b:=by
 induction a with
 | nil=>rfl
 | cons x r ih=>simp [ah,ih]
theorem fL (xs:List EnL):∀ k,(ah xs).take (k*2)=ah (xs.take k):=by
 induction xs with
 | nil=>intro k;simp [ah]
 | cons x r ih =>
  intro k;cases k with
  | zero=>simp [ah]
  | succ k=>rw [show (k+1)*2=k*2+1+1 by omega];simp [ah,ih]
theorem eO (xs:List EnL):∀ k,(ah xs).drop (k*2)=ah (xs.drop k):=by
 induction xs with
 | nil=>intro k;simp [ah]
 | cons x r ih =>
  intro k;cases k with
  | zero=>simp
  | succ k=>rw [show (k+1)*2=k*2+1+1 by omega];simp [ah,ih]
theorem bH (xs:List EnL):∀ v∈ah xs,v.oneCell'=true:=by
 induction xs with
 | nil=>intro v a;cases a
 | cons x r ih =>
  intro v a;simp only [ah,List.mem_cons] at a
  rcases a with rfl | rfl | a
  ·rfl
  ·rfl
  exact ih v a
theorem BM (xs:List EnL):∀ k,k<xs.length→(ah xs)[k*2]?=some (.slice (xs.getD k aJ).A (xs.getD k aJ).e.pl.length (xs.getD k aJ).c)∧(ah xs)[k*2+1]?=some (.int .i64 (xs.getD k aJ).e.n):=by
 induction xs with
 | nil=>intro k a;cases a
 | cons x r ih =>
  intro k a;cases k with
  | zero=>simp [ah]
  | succ k =>
   rw [show (k+1)*2=k*2+1+1 by omega]
   simp only [ah,List.getElem?_cons_succ,List.getD_cons_succ];exact ih k (by simpa using a)
theorem iX {xs:List EnL} {k:Nat} (h:k<xs.length):xs.getD k aJ∈xs:=by
 rw [zZ,zX h];exact List.getElem_mem h
def ke (w:World) (b o:Nat) (xs:List EnL):Prop:=b<w.heap.size∧(∀ j u,(ah xs)[j]?=some u→w.cell? ⟨b,o+j,none⟩=some u)∧∀ x∈xs,aZ w x.A x.c x.e.pl
theorem ke.later {w w':World} {b o:Nat} {xs:List EnL} (h:ke w b o xs) (a:Bl w w'):ke w' b o xs :=
 ⟨zW h.1 a.size,fun j u c=>aC a h.1 (h.2.1 j u c),fun x d=>(h.2.2 x d).later a⟩
theorem ke.pl {w:World} {b o:Nat} {xs:List EnL} (h:ke w b o xs) {k:Nat} (a:k<xs.length):aZ w (xs.getD k aJ).A (xs.getD k aJ).c (xs.getD k aJ).e.pl:=h.2.2 _ (iX a)
theorem ke.at {w:World} {b o:Nat} {xs:List EnL} (h:ke w b o xs) {k:Nat} (f:k<xs.length):w.cell? ⟨b,o+k*2,none⟩=some (.slice (xs.getD k aJ).A (xs.getD k aJ).e.pl.length (xs.getD k aJ).c)∧w.cell? ⟨b,o+k*2+1,none⟩=some (.int .i64 (xs.getD k aJ).e.n):=by
 obtain ⟨a,d⟩:=BM xs k f;exact ⟨h.2.1 _ _ a,by rw [Nat.add_assoc];exact h.2.1 _ _ d⟩
def b7 (w:World) (A:Option Addr) (cap:Nat) (xs:List EnL):Prop:=xs.length≤cap∧cap≤9223372036854775807∧(xs=[]∨∃ b o,A=some ⟨b,o,none⟩∧ke w b o xs)
theorem b7.later {w w':World} {A:Option Addr} {cap:Nat} {xs:List EnL} (h:b7 w A cap xs) (f:Bl w w'):b7 w' A cap xs:=by
 obtain ⟨d,c,a | ⟨b,o,a,e⟩⟩:=h
 ·exact ⟨d,c,Or.inl a⟩
 exact ⟨d,c,Or.inr ⟨b,o,a,e.later f⟩⟩
theorem b7.nil (w:World) (A:Option Addr) (cap:Nat) (h:cap≤9223372036854775807):b7 w A cap []:=⟨zU,h,Or.inl rfl⟩
structure EdL where
 x:Ed
 A:Option Addr
 c:Nat
def noD:EdL:=⟨⟨[],0,false⟩,none,0⟩
def lD (ys:List EdL):List Ed:=ys.map EdL.x
theorem lD_len (ys:List EdL):(lD ys).length=ys.length:=by simp [lD]
def zy (w:World) (b o:Nat) (ys:List EdL):Prop:=b<w.heap.size∧∀ k,k<ys.length→w.cell? ⟨b,o+k*3,none⟩=some (.slice (ys.getD k noD).A (ys.getD k noD).x.pl.length (ys.getD k noD).c)∧w.cell? ⟨b,o+k*3+1,none⟩=some (.int .i64 (ys.getD k noD).x.n)∧w.cell? ⟨b,o+k*3+2,none⟩=some (.bool (ys.getD k noD).x.clear)∧aZ w (ys.getD k noD).A (ys.getD k noD).c (ys.getD k noD).x.pl
theorem zy.later {w w':World} {b o:Nat} {ys:List EdL} (h:zy w b o ys) (a:Bl w w'):zy w' b o ys:=by
 refine ⟨zW h.1 a.size,fun k g=>?_⟩
 obtain ⟨c,d,e,f⟩:=h.2 k g;exact ⟨aC a h.1 c,aC a h.1 d,aC a h.1 e,f.later a⟩
def ks (w:World) (A:Option Addr) (cap:Nat) (ys:List EdL):Prop:=ys.length≤cap∧cap≤9223372036854775807∧(ys=[]∨∃ b o,A=some ⟨b,o,none⟩∧zy w b o ys)
theorem ks.later {w w':World} {A:Option Addr} {cap:Nat} {ys:List EdL} (h:ks w A cap ys) (f:Bl w w'):ks w' A cap ys:=by
 obtain ⟨d,c,a | ⟨b,o,a,e⟩⟩:=h
 ·exact ⟨d,c,Or.inl a⟩
 exact ⟨d,c,Or.inr ⟨b,o,a,e.later f⟩⟩
section
variable {H:Type} {enc:TypeId×Value→H} {w:World} {held:Bool}
theorem Im {fuel:Nat} {cs:List Value} {x:DataW H×List MemPlace} (h:DataW.trod enc Tryz.prog w 0 (fun _=>true) held fuel 27 cs=some x) :
  ∃ (Ap:Option Addr) (c:Nat) (L:List Int),cs=[.slice Ap L.length c]∧aZ w Ap c L:=by
 rcases open_ints Tryz.underlying27 Tryz.underlying3 (by kernel_rfl) h with ⟨rfl,_⟩ | ⟨a',len,cap,zs,rfl,_,i,_,b,_,d,_⟩
 ·exact ⟨none,0,[],rfl,aZ.nil _ _ _⟩
 simp at b
 have a:(zs.take len).length=len:=by simp;omega
 refine ⟨some a',cap,zs.take len,by rw [a],by rw [a];exact i,?_⟩
 rcases Nat.eq_zero_or_pos len with h0 | h0
 ·left
  subst h0
  simp
 right
 have c0:=d 0 (by omega)
 have f:=ft c0 rfl;have g:=World.block_lt_of_cell? _ _ c0;refine ⟨a'.block,a'.off,by rw [←f],by simpa [Addr.add] using g,fun j e=>?_⟩
 rw [a] at e;have:=d j (by omega)
 rw [f,aK] at this;rw [this]
 simp [List.getD,e]
end
end Go.Proofs.YtohgnbgamfepoaaGreatDoor
namespace Go.Proofs.YtohgnbgamfepoaaGreatDoor
def cmpL:List Int→List Int→Int
 | [],[]=>0
 | [],_ :: _ => -1
 | _ :: _,[]=>1
 | a :: r,b :: t=>if a<b then -1 else if b<a then 1 else cmpL r t
theorem cmpL_three:∀ a b:List Int,(cmpL a b = -1∧lessL a b=true∧a≠b)∨(cmpL a b=0∧lessL a b=false∧a=b)∨(cmpL a b=1∧lessL a b=false∧a≠b)
 | [],[]=>Or.inr (Or.inl ⟨rfl,rfl,rfl⟩)
 | [],_ :: _=>Or.inl ⟨rfl,rfl,by simp⟩
 | _ :: _,[]=>Or.inr (Or.inr ⟨rfl,rfl,by simp⟩)
 | a :: r,b :: t=>by
  simp only [cmpL,lessL]
  by_cases f:a<b
  ·rw [if_pos f,if_neg (by omega)]
   exact Or.inl ⟨rfl,decide_eq_true f,by simp;omega⟩
  rw [if_neg f]
  by_cases g:b<a
  ·rw [if_pos g,if_neg (by omega)]
   exact Or.inr (Or.inr ⟨rfl,decide_eq_false f,by simp;omega⟩)
  have h:a=b:=by omega
  rw [if_neg g,if_pos h];subst h
  rcases cmpL_three r t with ⟨c,d,e⟩ | ⟨c,d,e⟩ | ⟨c,d,e⟩
  ·exact Or.inl ⟨c,d,by simpa using e⟩
  ·exact Or.inr (Or.inl ⟨c,d,by rw [e]⟩)
  exact Or.inr (Or.inr ⟨c,d,by simpa using e⟩)
theorem kX (a b:List Int):decide (cmpL a b<0)=lessL a b:=by
 rcases cmpL_three a b with ⟨c,d,_⟩ | ⟨c,d,_⟩ | ⟨c,d,_⟩ <;> rw [c,d] <;> rfl
theorem tY (a b:List Int):decide (0≤cmpL a b) = !lessL a b:=by
 rcases cmpL_three a b with ⟨c,d,_⟩ | ⟨c,d,_⟩ | ⟨c,d,_⟩ <;> rw [c,d] <;> rfl
theorem gA (l:List Int) {k:Nat} (h:k<l.length):l.drop k=l.getD k 0 :: l.drop (k+1):=by
 rw [List.drop_eq_getElem_cons h,zZ,zX h]
 rfl
theorem Hb {a b:List Int} {k:Nat} (c:k<a.length) (d:k<b.length):cmpL (a.drop k) (b.drop k)=if a.getD k 0<b.getD k 0 then -1 else if b.getD k 0<a.getD k 0 then 1 else cmpL (a.drop (k+1)) (b.drop (k+1)):=by
 rw [gA a c,gA b d,cmpL]
theorem BQ {a b:List Int} {k:Nat} (c:k<a.length) (d:b.length≤k):cmpL (a.drop k) (b.drop k)=1:=by
 rw [gA a c,List.drop_eq_nil_of_le d];rfl
theorem wI {a b:List Int} {k:Nat} (c:a.length≤k) (d:k<b.length):cmpL (a.drop k) (b.drop k) = -1:=by
 rw [gA b d,List.drop_eq_nil_of_le c];rfl
theorem ED {a b:List Int} {k:Nat} (c:a.length≤k) (d:b.length≤k):cmpL (a.drop k) (b.drop k)=0:=by
 rw [List.drop_eq_nil_of_le c,List.drop_eq_nil_of_le d];rfl
theorem Fo {a b:List Int} {k:Nat} (c:k<a.length) (d:k<b.length):lessL (a.drop k) (b.drop k)=if a.getD k 0=b.getD k 0 then lessL (a.drop (k+1)) (b.drop (k+1)) else decide (a.getD k 0<b.getD k 0):=by
 rw [gA a c,gA b d,lessL]
theorem xG {a b:List Int} {k:Nat} (c:b.length≤k):lessL (a.drop k) (b.drop k)=false:=by
 rw [List.drop_eq_nil_of_le c];cases a.drop k <;> rfl
theorem uz {a b:List Int} {k:Nat} (c:a.length≤k) (d:k<b.length):lessL (a.drop k) (b.drop k)=true:=by
 rw [gA b d,List.drop_eq_nil_of_le c];rfl
theorem sq (l:List En) {k:Nat} (h:k<l.length):l.drop k=l.getD k noEn :: l.drop (k+1):=by
 rw [List.drop_eq_getElem_cons h,zZ,zX h]
 rfl
theorem wJ:∀ (l:List En) (p:List Int) (i:Nat),i≤l.length→(∀ t,t<i→lessL (l.getD t noEn).pl p=true)→(i<l.length→lessL (l.getD i noEn).pl p=false)→cntE l p=i
 | [],p,i,hi,_,_=>by simp at hi;subst hi;rfl
 | e :: r,p,0,_,_,h2=>by
  have a:=h2 (by simp)
  simp at a
  simp [cntE,a]
 | e :: r,p,i+1,hi,h1,h2=>by
  have a:=h1 0 (by omega)
  simp at a
  have b:=wJ r p i (by simpa using hi) (fun t c=>by simpa using h1 (t+1) (by omega)) (fun c=>by simpa using h2 (by simpa using c))
  unfold cntE at b ⊢;rw [List.takeWhile_cons,if_pos a,List.length_cons,b]
theorem EF (l:List En) (p:List Int):cntE l p≤l.length:=by
 unfold cntE;exact (List.takeWhile_sublist _).length_le
theorem sv {l:List En} {p:List Int} {i:Nat} (h:cntE l p=i) (a:i<l.length):hasE l p = !lessL p (l.getD i noEn).pl∧getE l p=if lessL p (l.getD i noEn).pl=true then (0,0) else (1,(l.getD i noEn).n):=by
 have e:l.drop (cntE l p)=l.getD i noEn :: l.drop (i+1):=by rw [h,sq l a]
 unfold hasE getE;rw [e];exact ⟨rfl,rfl⟩
theorem nG {l:List En} {p:List Int} {i:Nat} (h:cntE l p=i) (a:l.length≤i):hasE l p=false∧getE l p=(0,0):=by
 have e:l.drop (cntE l p)=[]:=by rw [h,List.drop_eq_nil_of_le a]
 unfold hasE getE;rw [e];exact ⟨rfl,rfl⟩
theorem Iz {l:List En} (h:l.Pairwise fun a b=>lessL a.pl b.pl=true) {a b:Nat} (c:a<b) (d:b<l.length):lessL (l.getD a noEn).pl (l.getD b noEn).pl=true:=by
 have:=List.pairwise_iff_getElem.1 h a b (by omega) d c
 rw [zZ,zZ,zX d,zX (by omega:a<l.length)]
 exact this
theorem Cu {l:List En} (h:l.Pairwise fun a b=>lessL a.pl b.pl=true) {p:List Int} {a b:Nat} (c:a≤b) (e:b<l.length) (d:lessL (l.getD b noEn).pl p=true):lessL (l.getD a noEn).pl p=true:=by
 rcases Nat.eq_or_lt_of_le c with rfl | h1
 ·exact d
 exact eR _ _ _ (Iz h h1 e) d
theorem AB {l:List En} {p:List Int} {i:Nat} (h:cntE l p=i) (d:i<l.length):decide (cmpL (l.getD i noEn).pl p=0)=hasE l p:=by
 have a:lessL (l.getD i noEn).pl p=false:=by
  have e:l.dropWhile (fun e=>lessL e.pl p)=l.getD i noEn :: l.drop (i+1):=by rw [←oK];show l.drop (cntE l p)=_;rw [h,sq l d]
  exact o5 (q:=fun e:En=>lessL e.pl p) e
 rw [(sv h d).1]
 rcases cmpL_three (l.getD i noEn).pl p with ⟨_,f,_⟩ | ⟨b,_,c⟩ | ⟨b,_,c⟩
 ·rw [f] at a;cases a
 ·rw [b,c,dW];rfl
 rw [b]
 rcases lessL_total _ _ c with h2 | h2
 ·rw [h2] at a;cases a
 rw [h2];rfl
def qOf (l:List En):Nat→Option (List Int)
 | 0=>none
 | k+1=>some (l.getD k noEn).pl
theorem oP {D:Nat→Dm} {n:Nat} {l:List En} {k:Nat} (h:k<l.length):aV D n (qOf l k) (l.drop k)=if entOne D n (l.getD k noEn)≠0 then entOne D n (l.getD k noEn) else if aheadOk (qOf l k) (l.getD k noEn).pl=true then aV D n (qOf l (k+1)) (l.drop (k+1)) else 7:=by
 rw [sq l h,aV]
 rfl
theorem Ah {D:Nat→Dm} {n:Nat} {l:List En} {k:Nat} (h:k<l.length) (a:entOne D n (l.getD k noEn)≠0):aV D n (qOf l k) (l.drop k)=entOne D n (l.getD k noEn):=by rw [oP h,if_pos a]
theorem q9 {D:Nat→Dm} {n:Nat} {l:List En} {k:Nat} (h:k<l.length) (a:entOne D n (l.getD k noEn)=0) (b:aheadOk (qOf l k) (l.getD k noEn).pl=false):aV D n (qOf l k) (l.drop k)=7:=by rw [oP h,if_neg (by simpa using a),if_neg (by rw [b];decide)]
theorem xb {D:Nat→Dm} {n:Nat} {l:List En} {k:Nat} (h:k<l.length) (a:entOne D n (l.getD k noEn)=0) (b:aheadOk (qOf l k) (l.getD k noEn).pl=true):aV D n (qOf l k) (l.drop k)=aV D n (qOf l (k+1)) (l.drop (k+1)):=by rw [oP h,if_neg (by simpa using a),if_pos b]
theorem Av {D:Nat→Dm} {n:Nat} {l:List En} {k:Nat} (h:l.length≤k):aV D n (qOf l k) (l.drop k)=0:=by
 rw [List.drop_eq_nil_of_le h];cases qOf l k <;> rfl
theorem ue {D:Nat→Dm} {n:Nat} (l:List En) (h:(am D n).2.2≠0):entsErr D n l=(am D n).2.2:=by unfold entsErr;rw [if_pos h]
theorem Aw {D:Nat→Dm} {n:Nat} (l:List En) (h:(am D n).2.2=0):entsErr D n l=aV D n (qOf l 0) (l.drop 0):=by unfold entsErr;rw [if_neg (by simpa using h)];rfl
theorem CJ {D:Nat→Dm} {n:Nat} {e:En} (a:(am D n).2.2=0) (h:placeErr D n e.pl≠0):entOne D n e=placeErr D n e.pl:=by
 rw [D6 a] at h ⊢;unfold entOne;rw [if_pos h]
theorem FO {D:Nat→Dm} {n:Nat} {e:En} (a:(am D n).2.2=0) (h:placeErr D n e.pl=0) (b:leafV D n e.pl=false):entOne D n e=6:=by
 rw [D6 a] at h;unfold entOne;rw [if_neg (by simpa using h),if_pos b]
theorem Ij {D:Nat→Dm} {n:Nat} {e:En} (a:(am D n).2.2=0) (h:placeErr D n e.pl=0) (b:leafV D n e.pl=true):entOne D n e=if cX e.n=false then 1 else 0:=by
 rw [D6 a] at h;unfold entOne;rw [if_neg (by simpa using h),if_neg (by simp [b])]
end Go.Proofs.YtohgnbgamfepoaaGreatDoor
namespace Go.Proofs.YtohgnbgamfepoaaGreatDoor
open Go Go.ChangeShapes Go.WideShapes Go.ChangeAt Go.RowKit
set_option maxRecDepth 20000
theorem wZ:(3:Nat)≠83:=by decide
theorem dA {w w1 w2:World} {r:Option Nat} (h:w.grownBy w1 r) (k:w1.grownBy w2 r):w.grownBy w2 r :=
 ⟨k.os.trans h.os,k.tape.trans h.tape,k.output.trans h.output,zV h.size k.size,fun i a b=>(k.block i (zW a h.size) b).trans (h.block i a b)⟩
theorem bB {w w':World} {r:Option Nat} (h:Bl w w'):w.grownBy w' r:=⟨h.os,h.tape,h.output,h.size,fun i a _=>h.block i a⟩
theorem eD {w w':World} {r:Option Nat} (h:w.grownBy w' r):w.grownBy w'.drew r:=⟨h.os,h.tape,h.output,h.size,h.block⟩
theorem cV (w:World) (r:Option Nat):w.grownBy w r:=⟨rfl,rfl,rfl,zT,fun _ _ _=>rfl⟩
theorem fd (w:World) (g:Nat) (cs:Array Value):w.grownBy (w.setRow g cs) (some g) :=
 ⟨rfl,rfl,rfl,by rw [setRow_size];exact zT,fun i _ a=>setRow_other w g i cs fun e=>a (by rw [e])⟩
theorem jm {B:Nat} {w0 w w':World} {g:Nat} (h:Below B w0 w) (b:w.grownBy w' (some g)) (a:B≤w.heap.size) (d:B≤g):Below B w0 w' :=
 h.grown b a fun k c=>by cases c;exact d
def em (w:World) (A:Option Addr) (c:Nat) (L:List Int):Prop:=L.length≤c∧(L=[]∨∃ b o cs fr,A=some ⟨b,o,none⟩∧w.heap[b]?=some (.cells cs 3 fr)∧∀ j,j<L.length→w.cell? ⟨b,o+j,none⟩=some (.int .i64 (L.getD j 0)))
theorem em.pl {w:World} {A:Option Addr} {c:Nat} {L:List Int} (h:em w A c L):aZ w A c L:=by
 obtain ⟨d,a | ⟨b,o,cs,fr,a,e,f⟩⟩:=h
 ·exact ⟨d,Or.inl a⟩
 exact ⟨d,Or.inr ⟨b,o,a,(zY e).1,f⟩⟩
theorem em.nil (w:World) (A:Option Addr) (c:Nat):em w A c []:=⟨zU,Or.inl rfl⟩
theorem em.grown {w w':World} {A:Option Addr} {c g:Nat} {L:List Int} {f:Array Value} {fr:Nat×Nat} (h:em w A c L) (r:w.heap[g]?=some (.cells f 83 fr)) (q:w.grownBy w' (some g)):em w' A c L:=by
 obtain ⟨m,k | ⟨b,o,cs,i,k,d,p⟩⟩:=h
 ·exact ⟨m,Or.inl k⟩
 have l:b≠g:=fun e=>by
  rw [e,r] at d;simp only [Option.some.injEq,Obj.cells.injEq] at d;exact wZ d.2.1.symm
 have n:w'.heap[b]?=w.heap[b]?:=q.block b (zY d).1 fun e=>l (by simpa using e)
 exact ⟨m,Or.inr ⟨b,o,cs,i,k,n.trans d,fun j s=>(World.cell?_of_block (a:=⟨b,o+j,none⟩) n).trans (p j s)⟩⟩
theorem em.later {w w':World} {A:Option Addr} {c:Nat} {L:List Int} (h:em w A c L) (l:Bl w w'):em w' A c L:=by
 obtain ⟨f,e | ⟨b,o,cs,d,e,g,k⟩⟩:=h
 ·exact ⟨f,Or.inl e⟩
 have i:w'.heap[b]?=w.heap[b]?:=l.block b (zY g).1;exact ⟨f,Or.inr ⟨b,o,cs,d,e,i.trans g,fun j m=>(World.cell?_of_block (a:=⟨b,o+j,none⟩) i).trans (k j m)⟩⟩
theorem F5 {w:World} {base:Nat} {v:Value} {L:List Int} (h:w.ownsRow base 3 1 v L.length (L.map (Value.int .i64))):∃ A c,v=.slice A L.length c∧em w A c L:=by
 rcases h.2 with ⟨rfl,e⟩ | ⟨g,cap,b,rfl,l,i,f,_,_,_⟩
 ·have:L=[]:=List.eq_nil_of_length_eq_zero e
  subst this;exact ⟨none,0,rfl,em.nil _ _ _⟩
 refine ⟨_,cap,rfl,f,Or.inr ⟨g,0,b,_,rfl,i,fun j k=>?_⟩⟩
 have d:=h.cells (g:=g) rfl j (.int .i64 (L.getD j 0)) (by simp [List.getD,zX k])
 have a:(⟨g,0,none⟩:Addr).add j=⟨g,j,none⟩:=by unfold Addr.add;split <;> simp_all
 rw [a] at d;rw [Nat.zero_add];exact d
def bY (w:World) (g cap:Nat) (xs:List EnL):Prop:=(∃ cur:Array Value,w.heap[g]?=some (.cells cur 83 (0,0))∧cur.size=cap*2∧cur.toList.take (xs.length*2)=ah xs)∧xs.length≤cap∧cap≤maxLen∧∀ x∈xs,em w x.A x.c x.e.pl
section
variable {w w':World} {g cap:Nat} {xs:List EnL}
theorem bY.lt (h:bY w g cap xs):g<w.heap.size:=by
 obtain ⟨⟨a,b,_⟩,_⟩:=h;exact (zY b).1
theorem bY.cells (h:bY w g cap xs):∀ j u,(ah xs)[j]?=some u→w.cell? ⟨g,j,none⟩=some u:=by
 obtain ⟨⟨c,d,f,e⟩,_⟩:=h;intro j u b;have a:=(List.getElem?_eq_some_iff.1 b).1;rw [cellsE_len] at a;rw [←e,List.getElem?_take,if_pos a,Array.getElem?_toList] at b
 simp [World.cell?,d,b]
theorem bY.full (h:bY w g cap xs) {j:Nat} (d:j<cap*2):(w.cell? ⟨g,j,none⟩).isSome=true:=by
 obtain ⟨⟨a,b,c,e⟩,_⟩:=h
 simp [World.cell?,b,c,d]
theorem bY.frozen (h:bY w g cap xs) (j:Nat):w.frozen? ⟨g,j,none⟩=false:=by
 obtain ⟨⟨a,b,_⟩,_⟩:=h
 simp [World.frozen?,b]
theorem bY.ens (h:bY w g cap xs):ke w g 0 xs:=⟨h.lt,fun j u a=>by rw [Nat.zero_add];exact h.cells j u a,fun x b=>(h.2.2.2 x b).pl⟩
theorem bY.ensV (h:bY w g cap xs):b7 w (some ⟨g,0,none⟩) cap xs:=⟨h.2.1,by have:=h.2.2.1;unfold maxLen at this;omega,Or.inr ⟨g,0,rfl,h.ens⟩⟩
theorem bY.later (h:bY w g cap xs) (c:Bl w w'):bY w' g cap xs:=by
 have b:=h.lt;obtain ⟨⟨a,d,e,f⟩,i,j,k⟩:=h;exact ⟨⟨a,(c.block g b).trans d,e,f⟩,i,j,fun x l=>(k x l).later c⟩
theorem bY.own (h:bY w g cap xs) {base:Nat} (i:base≤g):w.ownsRow base 83 2 (.slice (some ⟨g,0,none⟩) xs.length cap) xs.length (ah xs):=by
 obtain ⟨⟨a,b,c,d⟩,e,f,j⟩:=h;exact ⟨cellsE_len xs,Or.inr ⟨g,cap,a,rfl,i,b,e,f,c,d⟩⟩
theorem Bp {base:Nat} {v:Value} (h:w.ownsRow base 83 2 v xs.length (ah xs)) (n:v≠.slice none 0 0) (m:∀ x∈xs,em w x.A x.c x.e.pl):∃ g cap,v=.slice (some ⟨g,0,none⟩) xs.length cap∧base≤g∧bY w g cap xs:=by
 rcases h.2 with ⟨b,_⟩ | ⟨g,cap,a,rfl,k,l,i,j,d,f⟩
 ·exact absurd b n
 exact ⟨g,cap,rfl,k,⟨a,l,d,f⟩,i,j,m⟩
theorem bY.lay (h:bY w g cap xs) {cs:List Value} {ys:List EnL} (j:cs.length=cap*2) (k:cs.take (ys.length*2)=ah ys) (f:ys.length≤cap) (i:∀ y∈ys,em w y.A y.c y.e.pl):bY (w.setRow g cs.toArray) g cap ys:=by
 obtain ⟨⟨a,b,m,n⟩,o,d,p⟩:=h;exact ⟨⟨cs.toArray,setRow_heap w g a _ _ _ b,by simpa using j,by simpa using k⟩,f,d,fun y l=>(i y l).grown b (fd ..)⟩
end
theorem je (g:Nat) (t:TypeId):∀ (vs:List Value) (o:Nat) (a:Array Value) (w:World),w.heap[g]?=some (.cells a t (0,0))→o+vs.length≤a.size→w.setCells g o vs=w.setRow g (a.toList.take o ++ vs ++ a.toList.drop (o+vs.length)).toArray
 | [],o,a,w,hg,_=>by
  simp only [World.setCells,List.append_nil,List.length_nil,Nat.add_zero,List.take_append_drop,Array.toArray_toList];rw [setRow_self w g a t (0,0) hg]
 | v :: r,o,a,w,hg,hl=>by
  simp only [List.length_cons] at hl;rw [World.setCells,setCell_eq_setRow w g o a t (0,0) v hg,je g t r (o+1) (a.setIfInBounds o v) _ (setRow_heap w g a _ t _ hg) (by simp;omega),setRow_setRow]
  have e:=list_seg_step a.toList o v r (by simp;omega)
  congr 2
  simpa [Array.toList_setIfInBounds,Nat.add_assoc] using e
variable {P:Program}
theorem jc (k:Nat) (w:World) (m sT ty d:TypeId) (g o c e:Nat) (a:Addr) (sLen sCap:Nat) (b:Array Value) (t:TypeId) (cs:List Value)
  (x:P.underlying m=some (.slice d)) (p:(P.info? d).map (·.size)=some k)
  (r:w.heap[g]?=some (.cells b t (0,0))) (u:cs.length=Nat.min sLen c*k)
  (h:∀ j v,cs[j]?=some v→w.cell? (a.add j)=some v) (f:o+cs.length≤b.size) (q:∀ v∈cs,v.oneCell'=true) :
  (Builtin.copy_ #[m,sT] ty #[.slice (some ⟨g,o,none⟩) c e,.slice (some a) sLen sCap]).run P w =
   .ok (goInt (Nat.min sLen c)) (w.setRow g (b.toList.take o ++ cs ++ b.toList.drop (o+cs.length)).toArray):=by
 have n:=run_loadCells_list (P:=P) w a cs h;have l:=run_storeCells_at P g o t cs 0 b w r (by simpa using f) q
 rw [u] at n;cases hq:P.info? d with
 | none=>simp [hq] at p
 | some i =>
  have s:i.size=k:=by simpa [hq] using p
  simp [Builtin.copy_,run_underlying x,Builtin.lenOf,Builtin.firstCells,sizeOf,typeInfo,hq,s,n,l]
theorem qA (w:World) (t e ty:TypeId) (z x y:Value) (m:P.underlying t=some (.slice e)) (n:∀ w,(zeroValue e).run P w=.ok z w) (p:z.cells=#[x,y]) (r:x.oneCell'=true) (s:y.oneCell'=true) (g o c:Nat) (a:Array Value) (u:TypeId) (l:w.heap[g]?=some (.cells a u (0,0))) (b:o+2≤a.size) :
  (Builtin.clear_ #[t] ty #[.slice (some ⟨g,o,none⟩) 1 c]).run P w=.ok (.tuple #[]) (w.setRow g (a.toList.take o ++ [x,y] ++ a.toList.drop (o+2)).toArray):=by
 have h:(Builtin.zeroCells z.cells 1).toList=[x,y]:=by
  rw [p];apply List.ext_getElem
  ·simp [Builtin.zeroCells]
  intro i q j;have k:i=0∨i=1:=by simp at j;omega
  rcases k with rfl | rfl <;> simp [Builtin.zeroCells]
 have d:=run_storeCells_at P g o u [x,y] 0 a w l (by simpa using b) (by intro v f;simp at f;rcases f with rfl | rfl <;> assumption)
 simp only [Nat.add_zero] at d
 simp [Builtin.clear_,run_underlying m,n,h,d]
theorem fF {α:Type} {a b:List α} {k:Nat} (h:a.length=k):(a ++ b).take k=a:=by subst h;simp
theorem B0 {α:Type} {a b:List α} {k:Nat} (h:a.length=k):(a ++ b).drop k=b:=by subst h;simp
theorem o4 {C:List Value} {xs:List EnL} (a:C.take (xs.length*2)=ah xs) {i:Nat} (b:i≤xs.length):C.take (i*2)=ah (xs.take i):=by
 rw [←fL,←a,List.take_take,Nat.min_eq_left (by omega)]
theorem Cm {C C1 C2:List Value} {xs:List EnL} {x:EnL} {i:Nat} (f:C.take (xs.length*2)=ah xs) (b:(xs.length+1)*2≤C.length) (g:i≤xs.length)
  (a:C1=C.take ((i+1)*2) ++ ah (xs.drop i) ++ C.drop ((i+1)*2+(ah (xs.drop i)).length)) (e:C2=C1.take (i*2) ++ ah [x] ++ C1.drop (i*2+(ah [x]).length)) :
  C2.length=C.length∧C2.take ((xs.take i ++ x :: xs.drop i).length*2)=ah (xs.take i ++ x :: xs.drop i):=by
 have k:(ah (xs.drop i)).length=(xs.length-i)*2:=by rw [cellsE_len,List.length_drop]
 have j:(ah [x]).length=2:=by rw [cellsE_len];rfl
 have c:C1.take (i*2)=ah (xs.take i):=by
  rw [a,List.append_assoc,List.take_append_of_le_length (by rw [List.length_take];omega),List.take_take,Nat.min_eq_left (by omega)]
  exact o4 f g
 have d:C1.drop (i*2+(ah [x]).length)=ah (xs.drop i) ++ C.drop ((i+1)*2+(ah (xs.drop i)).length):=by
  rw [a,List.append_assoc,j];exact B0 (by rw [List.length_take];omega)
 rw [e,c,d];refine ⟨?_,?_⟩
 ·simp only [List.length_append,cellsE_len,List.length_take,List.length_drop,List.length_cons,List.length_nil]
  omega
 have h:(xs.take i ++ x :: xs.drop i).length=xs.length+1:=by simp;omega
 rw [h,←List.append_assoc];rw [show ah (xs.take i ++ x :: xs.drop i)=ah (xs.take i) ++ ah [x] ++ ah (xs.drop i) by rw [show x :: xs.drop i=[x] ++ xs.drop i from rfl,cellsE_append,cellsE_append,List.append_assoc]]
 exact fF (by simp only [List.length_append,cellsE_len,List.length_take,List.length_drop,List.length_cons,List.length_nil];omega)
theorem xn {C C1 C2:List Value} {xs:List EnL} {x:EnL} {i:Nat} (c:C.take (i*2)=ah (xs.take i)) (d:(xs.length+1)*2≤C.length) (j:i≤xs.length)
  (b:C1=C.take (i*2) ++ ah [x] ++ C.drop (i*2+(ah [x]).length)) (f:C2=C1.take ((i+1)*2) ++ ah (xs.drop i) ++ C1.drop ((i+1)*2+(ah (xs.drop i)).length)) :
  C2.length=C.length∧C2.take ((xs.take i ++ x :: xs.drop i).length*2)=ah (xs.take i ++ x :: xs.drop i):=by
 have h:(ah (xs.drop i)).length=(xs.length-i)*2:=by rw [cellsE_len,List.length_drop]
 have k:(ah [x]).length=2:=by rw [cellsE_len];rfl
 have a:C1.length=C.length:=by
  rw [b,c];simp only [List.length_append,cellsE_len,List.length_take,List.length_drop,List.length_cons,List.length_nil]
  omega
 have e:C1.take ((i+1)*2)=ah (xs.take i) ++ ah [x]:=by
  rw [b,c];exact fF (by simp only [List.length_append,cellsE_len,List.length_take,List.length_cons,List.length_nil];omega)
 rw [f,e];refine ⟨?_,?_⟩
 ·simp only [List.length_append,cellsE_len,List.length_take,List.length_drop,List.length_cons,List.length_nil,a]
  omega
 have g:(xs.take i ++ x :: xs.drop i).length=xs.length+1:=by simp;omega
 rw [g];rw [show ah (xs.take i ++ x :: xs.drop i)=ah (xs.take i) ++ ah [x] ++ ah (xs.drop i) by rw [show x :: xs.drop i=[x] ++ xs.drop i from rfl,cellsE_append,cellsE_append,List.append_assoc]]
 exact fF (by simp only [List.length_append,cellsE_len,List.length_take,List.length_drop,List.length_cons,List.length_nil];omega)
theorem BV {C C1 C2:List Value} {xs:List EnL} {h j:Value} {i:Nat} (f:C.take (xs.length*2)=ah xs) (c:xs.length*2≤C.length) (l:i<xs.length)
  (b:C1=C.take (i*2) ++ ah (xs.drop (i+1)) ++ C.drop (i*2+(ah (xs.drop (i+1))).length)) (e:C2=C1.take ((xs.length-1)*2) ++ [h,j] ++ C1.drop ((xs.length-1)*2+2)) :
  C2.length=C.length∧C2.take ((xs.take i ++ xs.drop (i+1)).length*2)=ah (xs.take i ++ xs.drop (i+1)):=by
 have k:(ah (xs.drop (i+1))).length=(xs.length-(i+1))*2:=by rw [cellsE_len,List.length_drop]
 have a:C1.length=C.length:=by
  rw [b];simp only [List.length_append,cellsE_len,List.length_take,List.length_drop]
  omega
 have d:C1.take ((xs.length-1)*2)=ah (xs.take i) ++ ah (xs.drop (i+1)):=by
  rw [b,o4 f (by omega)]
  exact fF (by simp only [List.length_append,cellsE_len,List.length_take,List.length_drop];omega)
 have g:(xs.take i ++ xs.drop (i+1)).length=xs.length-1:=by simp;omega
 rw [e,g,cellsE_append,d];refine ⟨?_,?_⟩
 ·simp only [List.length_append,cellsE_len,List.length_take,List.length_drop,List.length_cons,List.length_nil,a]
  omega
 rw [List.append_assoc _ _ (C1.drop _)];exact fF (by simp only [List.length_append,cellsE_len,List.length_take,List.length_drop];omega)
theorem wF {xs:List EnL}:∀ {i:Nat} (n:Int),i<xs.length→(ah xs).set (i*2+1) (.int .i64 n)=ah (xs.set i ⟨⟨(xs.getD i aJ).e.pl,n⟩,(xs.getD i aJ).A,(xs.getD i aJ).c⟩):=by
 induction xs with
 | nil=>intro i n h;cases h
 | cons x r ih =>
  intro i n h;cases i with
  | zero=>simp [ah]
  | succ i =>
   rw [show (i+1)*2+1=(i*2+1)+1+1 by omega]
   simp only [ah,List.set_cons_succ,List.getD_cons_succ];rw [ih n (by simpa using h)]
theorem bY.setN {w:World} {g cap:Nat} {xs:List EnL} (h:bY w g cap xs) {i:Nat} (j:i<xs.length) (n:Int):bY (w.setCell ⟨g,i*2+1,none⟩ (.int .i64 n)) g cap (xs.set i ⟨⟨(xs.getD i aJ).e.pl,n⟩,(xs.getD i aJ).A,(xs.getD i aJ).c⟩)∧w.grownBy (w.setCell ⟨g,i*2+1,none⟩ (.int .i64 n)) (some g):=by
 obtain ⟨⟨a,b,k,l⟩,m,o,f⟩:=h;rw [setCell_eq_setRow w g (i*2+1) a _ (0,0) _ b];refine ⟨?_,fd ..⟩;refine ⟨⟨_,setRow_heap w g a _ _ _ b,by simpa using k,?_⟩,by simpa using m,o,fun y d=>?_⟩
 ·rw [Array.toList_setIfInBounds,List.length_set,←wF n j,←l,List.take_set]
 refine em.grown (g:=g) ?_ b (fd ..)
 rcases List.mem_or_eq_of_mem_set d with d | rfl
 ·exact f y d
 exact f (xs.getD i aJ) (iX j)
theorem rq (a b:List EnL):lE (a ++ b)=lE a ++ lE b:=by simp [lE]
theorem lE_take (a:List EnL) (k:Nat):lE (a.take k)=(lE a).take k:=by simp [lE]
theorem Hu (a:List EnL) (k:Nat):lE (a.drop k)=(lE a).drop k:=by simp [lE]
theorem Jn (xs:List EnL) (x:EnL) (i:Nat):lE (xs.take i ++ x :: xs.drop i)=(lE xs).take i ++ x.e :: (lE xs).drop i:=by simp [lE]
theorem IG {l:List En} {p:List Int} (h:hasE l p=false) (n:Int):setL l p n=l.take (cntE l p) ++ ⟨p,n⟩ :: l.drop (cntE l p):=by unfold setL;rw [h];rfl
theorem th {l:List En} {p:List Int} (h:hasE l p=true) (n:Int):setL l p n=l.set (cntE l p) ⟨(l.getD (cntE l p) noEn).pl,n⟩∧cntE l p<l.length∧(l.getD (cntE l p) noEn).pl=p:=by
 have c:cntE l p<l.length:=by
  rcases Nat.lt_or_ge (cntE l p) l.length with h1 | h1
  ·exact h1
  rw [(nG rfl h1).1] at h;cases h
 have a:=AB rfl c;rw [h] at a;have d:(l.getD (cntE l p) noEn).pl=p:=by
  rcases cmpL_three (l.getD (cntE l p) noEn).pl p with ⟨b,_⟩ | ⟨_,_,e⟩ | ⟨b,_⟩
  ·rw [b] at a;cases a
  ·exact e
  rw [b] at a;cases a
 refine ⟨?_,c,d⟩;unfold setL;rw [h,d,if_pos rfl,List.set_eq_take_append_cons_drop,if_pos c]
theorem Jo (xs:List EnL) (i:Nat) (y:EnL):lE (xs.set i y)=(lE xs).set i y.e:=by simp [lE,List.map_set]
end Go.Proofs.YtohgnbgamfepoaaGreatDoor
namespace Go.Proofs.YtohgnbgamfepoaaGreatDoor
open Go.ChangeShapes Go.WideShapes Go.ChangeAt Go.RowKit
set_option maxRecDepth 20000
theorem ot (b o c:Nat) (L:List (Int×Int)) (w:World) (q:0<L.length) (G:L.length≤3000) (x:ir w b o L):Calls Tryz.prog 26 #[.slice (some ⟨b,o,none⟩) L.length c] w fun e w'=>(∃ g d,e=.returned (.slice (some ⟨g,0,none⟩) L.length d)∧w.heap.size≤g∧L.length≤d∧d≤9223372036854775807∧bU w' g L)∧Bl w w':=by
 have H:∀ (w:World) (a:Option Addr) (n c n' d:Nat),(binOp .eql 45 (.slice a n c) (.slice none n' d)).run Tryz.prog w=.ok (.bool a.isNone) w:=fun w a n c n' d=>Lib.run_eql_slice_nil w _ _ a n c n' d Tryz.underlying45
 obtain ⟨i0,m,r,s,t⟩:=info_parts Tryz.infoCe;have A:Hid (∀ j u,(bL L)[j]?=some u→w.cell? ((⟨b,o,none⟩:Addr).add j)=some u):=fun j u p=>by rw [aK];exact x.cells j u p
 have B:Hid (∀ (w':World) (v:Value),w'.ownsRow w.heap.size 52 2 v L.length (bL L)→∃ g d,v=.slice (some ⟨g,0,none⟩) L.length d∧w.heap.size≤g∧L.length≤d∧d≤9223372036854775807∧bU w' g L):=fun w' v h=>ou h q
 have F:(bL L).length=L.length*2:=oz L;have D:=oA L;clear x
 go_enter Tryz.func26,Tryz.ntmps26
 go_wp2_with (at_builtin;refine wpList_append_own _ rfl _ _ 45 rfl w.heap.size 52 i0 (.agg #[.int .i64 0,.int .i64 0]) 2 16 Tryz.underlying45 m r s t rfl (by decide) _ _ _ rfl (World.ownsRow_made w #[] 0 (zT) (zU) (by simp)) ⟨b,o,none⟩ L.length c (bL L) rfl ?qc1 ?qc2 ?qc3 ?qc4 ?qc5 ?qc6 ?_)
 case qc1=>exact F
 case qc2=>exact fun j u p=>Lib.cell?_alloc_some _ (A.out j u p)
 case qc3=>exact D
 case qc4=>simp only [maxLen];omega
 case qc5=>omega
 case qc6=>simp
 intro v' w1 i f l;obtain ⟨g,d,rfl,y⟩:=B.out _ _ i;have C:=aa y;have z:Hid (Bl w w1):=((Below.refl _ w).alloc (zT) _).grown f (by simp) (by intro k E;simp [Value.ownBlock] at E;omega)
 clear i f l y;go_wp2_with fail;go_ret;exact ⟨⟨g,d,rfl,C.out⟩,z.out⟩
theorem lx {w:World} {q:Nat} {x y a b:Value} {T:Nat} (h:w.heap[q]?=some (.cells #[x,y] T)):((w.setCell ⟨q,0,none⟩ a).setCell ⟨q,1,none⟩ b).heap[q]?=some (.cells #[a,b] T):=by
 simp [World.setCell,Array.getElem?_modify,h]
theorem ja {w w':World} {q:Nat} {a b:Value} (h:w.grownBy w' (some q)):w.grownBy ((w'.setCell ⟨q,0,none⟩ a).setCell ⟨q,1,none⟩ b) (some q) :=
 ⟨h.os,h.tape,h.output,by simpa [World.setCell] using h.size,fun i d c=>(Below.heap_setCell _ ⟨q,1,none⟩ b i fun e=>c (by rw [e])).trans ((Below.heap_setCell w' ⟨q,0,none⟩ a i fun e=>c (by rw [e])).trans (h.block i d c))⟩
theorem fy {w w1 w2:World} {r:Option Nat} (h:w.grownBy w1 r) (k:Bl w1 w2):w.grownBy w2 r :=
 ⟨k.os.trans h.os,k.tape.trans h.tape,k.output.trans h.output,zV h.size k.size,fun i a b=>(k.block i (zW a h.size)).trans (h.block i a b)⟩
theorem cF {w:World} {q:Nat} {x y:Value} {T:Nat} (h:w.heap[q]?=some (.cells #[x,y] T)):w.cell? ⟨q,0,none⟩=some x∧w.cell? ⟨q,1,none⟩=some y∧w.frozen? ⟨q,0,none⟩=false∧w.frozen? ⟨q,1,none⟩=false :=
 ⟨by rw [Lib.cell_of_heap h];rfl,by rw [Lib.cell_of_heap h];rfl,Lib.frozen_of_heap h 0,Lib.frozen_of_heap h 1⟩
theorem rP {M:Nat→Mem} {at':Int→Int×Int} {P:List Int} {k:Nat} (h:k<P.length):(P.take (k+1)).foldl (ba M at') (0,0)=ba M at' ((P.take k).foldl (ba M at') (0,0)) (P.getD k 0):=by
 rw [List.take_succ_eq_append_getElem h,List.foldl_append,zZ,zX h]
 rfl
def rW (w:World) (q:Nat) (d:Dm) (A:Option Addr) (c:Nat):Prop:=q<w.heap.size∧w.cell? ⟨q,0,none⟩=some (.string d.name)∧w.cell? ⟨q,1,none⟩=some (.int .i64 d.solve)∧w.cell? ⟨q,2,none⟩=some (.slice A d.n c)
def nU (w:World) (q:Nat) (v:Value):Prop:=q<w.heap.size∧w.cell? ⟨q,0,none⟩=some v
theorem rW.same {w w':World} {q:Nat} {d:Dm} {A:Option Addr} {c:Nat} (h:rW w q d A c) (e:w.heap.size≤w'.heap.size) (b:w'.heap[q]?=w.heap[q]?):rW w' q d A c :=
 ⟨zW h.1 e,(World.cell?_of_block (a:=⟨q,0,none⟩) b).trans h.2.1,(World.cell?_of_block (a:=⟨q,1,none⟩) b).trans h.2.2.1,(World.cell?_of_block (a:=⟨q,2,none⟩) b).trans h.2.2.2⟩
theorem nU.same {w w':World} {q:Nat} {v:Value} (h:nU w q v) (c:w.heap.size≤w'.heap.size) (b:w'.heap[q]?=w.heap[q]?):nU w' q v :=
 ⟨zW h.1 c,(World.cell?_of_block (a:=⟨q,0,none⟩) b).trans h.2⟩
theorem rW.later {w w':World} {q:Nat} {d:Dm} {A:Option Addr} {c:Nat} (h:rW w q d A c) (a:Bl w w'):rW w' q d A c:=h.same a.size (a.block q h.1)
theorem nU.later {w w':World} {q:Nat} {v:Value} (h:nU w q v) (a:Bl w w'):nU w' q v:=h.same a.size (a.block q h.1)
theorem BK {w w':World} {g i j:Nat} {a b:Value} (h:w.grownBy w' (some g)):w.grownBy ((w'.setCell ⟨g,i,none⟩ a).setCell ⟨g,j,none⟩ b) (some g) :=
 ⟨h.os,h.tape,h.output,by simpa [World.setCell] using h.size,fun k d c=>(Below.heap_setCell _ ⟨g,j,none⟩ b k fun e=>c (by rw [e])).trans ((Below.heap_setCell w' ⟨g,i,none⟩ a k fun e=>c (by rw [e])).trans (h.block k d c))⟩
theorem xB {w w':World} {b g c:Nat} {X:List Int} (h:bX w (some ⟨b,0,none⟩) c X) (f:b≠g) (l:w.grownBy w' (some g)):bX w' (some ⟨b,0,none⟩) c X:=by
 obtain ⟨i,d | ⟨b',d,k,m⟩⟩:=h
 ·exact ⟨i,Or.inl d⟩
 cases d;exact ⟨i,Or.inr ⟨b,rfl,zW k l.size,fun j n=>(World.cell?_of_block (a:=⟨b,j,none⟩) (l.block b k fun e=>f (by simpa using e))).trans (m j n)⟩⟩
theorem oj {w w':World} {q g:Nat} {v:Value} (h:nU w q v) (a:q≠g) (b:w.grownBy w' (some g)):nU w' q v:=h.same b.size (b.block q h.1 fun e=>a (by simpa using e))
theorem ww {w w':World} {q g:Nat} {d:Dm} {A:Option Addr} {c:Nat} (h:rW w q d A c) (a:q≠g) (b:w.grownBy w' (some g)):rW w' q d A c:=h.same b.size (b.block q h.1 fun e=>a (by simpa using e))
end Go.Proofs.YtohgnbgamfepoaaGreatDoor
namespace Go.Proofs.YtohgnbgamfepoaaGreatDoor
open Go.ChangeShapes Go.WideShapes Go.ChangeAt Go.RowKit
def At (s:Nat) (k n:Int) (w:World):Prop:=s<w.heap.size∧w.cell? ⟨s,0,none⟩=some (.int .i64 k)∧w.cell? ⟨s,1,none⟩=some (.int .i64 n)
theorem At.new (k n:Int) (w:World) (T:Nat):At w.heap.size k n (w.alloc (.cells #[.int .i64 k,.int .i64 n] T)):=⟨by simp,by simp,by simp⟩
theorem At.set {s:Nat} {k n:Int} {w:World} {u v:Value} (c:s<w.heap.size) (a:w.cell? ⟨s,0,none⟩=some u) (b:w.cell? ⟨s,1,none⟩=some v):At s k n ((w.setCell ⟨s,0,none⟩ (.int .i64 k)).setCell ⟨s,1,none⟩ (.int .i64 n)):=by
 refine ⟨by simpa using c,?_,?_⟩ <;> simp [go_sem,a,b]
end Go.Proofs.YtohgnbgamfepoaaGreatDoor
namespace Go.Proofs.YtohgnbgamfepoaaGreatDoor
open Go Go.ChangeShapes Go.WideShapes Go.ChangeAt Go.RowKit Go.Deep
set_option maxRecDepth 100000
section
variable {H:Type} {enc:TypeId×Value→H} {w:World} {held:Bool}
theorem zK:Tryz.prog.cellsOf 41=3:=by kernel_rfl
theorem Il {fuel:Nat} {cs:List Value} {x:DataW H×List MemPlace} (h:DataW.trod enc Tryz.prog w 0 (fun _=>true) held fuel 41 cs=some x) :
  ∃ (e:Ed) (A:Option Addr) (c:Nat),cs=[.slice A e.pl.length c,.int .i64 e.n,.bool e.clear]∧aZ w A c e.pl:=by
 obtain ⟨g,n,a⟩:=lY Tryz.underlying41 (by kernel_rfl) h
 rw [zK] at g
 match cs,g with
 | [v0,v1,v2],_ =>
  obtain ⟨m,i⟩:=a 0 _ v0 rfl rfl;obtain ⟨o,j⟩:=a 1 _ v1 rfl rfl;obtain ⟨p,k⟩:=a 2 _ v2 rfl rfl;obtain ⟨A,c,L,b,l⟩:=Im i;obtain ⟨n1,d,-,-⟩:=DataW.trod_int Tryz.underlying3 j;obtain ⟨b2,f,-⟩:=DataW.trod_bool Tryz.underlying4 k
  simp at b d f
  exact ⟨⟨L,n1,b2⟩,A,c,by rw [b,d,f],l⟩
theorem FY {fuel:Nat} {cs:List Value} {x:DataW H×List MemPlace} (h:DataW.trod enc Tryz.prog w 0 (fun _=>true) held fuel 38 cs=some x) :
  ∃ (A:Option Addr) (cap:Nat) (ys:List EdL),cs=[.slice A ys.length cap]∧ks w A cap ys:=by
 rcases open_slice Tryz.underlying38 h with ⟨rfl,-⟩ | ⟨a,len0,o,m,n,D,Pl,rfl,-,z,l,p,-,q⟩
 ·exact ⟨none,0,[],rfl,zT,zU,Or.inl rfl⟩
 rw [zK] at q
 simp at p
 subst p
 haveI:Inhabited EdL:=⟨noD⟩
 have f:∀ i,i<len0→∃ y:EdL,w.cells? 0 (a.add (i*3)) 3=some [.slice y.A y.x.pl.length y.c,.int .i64 y.x.n,.bool y.x.clear]∧aZ w y.A y.c y.x.pl:=fun i d=>by
  obtain ⟨r,s,t⟩:=q i (by omega)
  obtain ⟨e,A,c,rfl,j⟩:=Il t;exact ⟨⟨e,A,c⟩,s,j⟩
 obtain ⟨Y,k⟩:=choose_lt f;have b:((List.range len0).map Y).length=len0:=by simp
 have v:∀ i,i<len0→((List.range len0).map Y).getD i noD=Y i:=fun i d=>by simp [List.getD,d]
 refine ⟨some a,_,(List.range len0).map Y,by rw [b],by rw [b];exact z,l,?_⟩
 rcases Nat.eq_zero_or_pos len0 with h0 | h0
 ·left;subst h0;rfl
 right
 have c0:=(World.cells?_some (k 0 h0).1).2.2 0 (by omega)
 rw [add_add] at c0;have j:=ft c0 (by omega)
 have u:=World.block_lt_of_cell? _ _ c0;refine ⟨a.block,a.off,by rw [←j],by simpa [Addr.add] using u,fun i d=>?_⟩
 rw [b] at d;have g:=(World.cells?_some (k i d).1).2.2;rw [j] at g;simp only [aK,Nat.add_assoc] at g;rw [v i d];refine ⟨?_,?_,?_,(k i d).2⟩
 ·have:=g 0 (by omega);simpa using this
 ·have:=g 1 (by omega);simpa [Nat.add_assoc] using this
 have:=g 2 (by omega);simpa [Nat.add_assoc] using this
end
structure EsL where
 ys:List EdL
 A:Option Addr
 c:Nat
def noE:EsL:=⟨[],none,0⟩
def D9 (w:World) (A:Option Addr) (cap:Nat) (zz:List EsL):Prop:=zz.length≤cap∧cap≤9223372036854775807∧(zz=[]∨∃ b o,A=some ⟨b,o,none⟩∧b<w.heap.size∧∀ k,k<zz.length→w.cell? ⟨b,o+k,none⟩=some (.slice (zz.getD k noE).A (zz.getD k noE).ys.length (zz.getD k noE).c)∧ks w (zz.getD k noE).A (zz.getD k noE).c (zz.getD k noE).ys)
theorem D9.later {w w':World} {A:Option Addr} {cap:Nat} {j:List EsL} (h:D9 w A cap j) (c:Bl w w'):D9 w' A cap j:=by
 obtain ⟨e,d,a | ⟨b,o,a,f,g⟩⟩:=h
 ·exact ⟨e,d,Or.inl a⟩
 exact ⟨e,d,Or.inr ⟨b,o,a,zW f c.size,fun k i=>⟨(c.cell (p:=⟨b,o+k,none⟩) f).trans (g k i).1,(g k i).2.later c⟩⟩⟩
section
variable {H:Type} {enc:TypeId×Value→H} {w:World} {held:Bool}
theorem Ez:Tryz.prog.cellsOf 38=1:=by kernel_rfl
theorem CM {r:Reach} {b0:Nat} {v:Value} {d:DataW H} {p:List MemPlace} (J:Value.okWide Tryz.prog w r b0 25 v) (h:DataW.Trod enc Tryz.prog w 0 (fun _=>true) held 25 v d p) :
  ∃ (A:Option Addr) (cap:Nat) (x:List EsL),v=.slice A x.length cap∧D9 w A cap x:=by
 obtain ⟨a0,len0,g,rfl⟩:=okWide_slice Tryz.underlying25 J;obtain ⟨fuel,F⟩:=h;have s:DataW.trod enc Tryz.prog w 0 (fun _=>true) held fuel 25 [.slice a0 len0 g]=some (d,p):=F
 rcases open_slice Tryz.underlying25 s with ⟨e,-⟩ | ⟨a,len,cap,m,n,D,Pl,e,-,I,q,t,-,u⟩
 ·simp at e
  obtain ⟨rfl,rfl,rfl⟩:=e;exact ⟨none,0,[],rfl,zT,zU,Or.inl rfl⟩
 simp at e
 obtain ⟨rfl,rfl,rfl⟩:=e;rw [Ez] at u
 simp at t
 subst t
 haveI:Inhabited EsL:=⟨noE⟩
 have j:∀ i,i<len0→∃ y:EsL,w.cells? 0 (a.add (i*1)) 1=some [.slice y.A y.ys.length y.c]∧ks w y.A y.c y.ys:=fun i f=>by
  obtain ⟨z,B,C⟩:=u i (by omega)
  obtain ⟨A,c,ys,rfl,k⟩:=FY C;exact ⟨⟨ys,A,c⟩,B,k⟩
 obtain ⟨Y,l⟩:=choose_lt j;have b:((List.range len0).map Y).length=len0:=by simp
 have G:∀ i,i<len0→((List.range len0).map Y).getD i noE=Y i:=fun i f=>by simp [List.getD,f]
 refine ⟨some a,_,(List.range len0).map Y,by rw [b],by rw [b];exact I,q,?_⟩
 rcases Nat.eq_zero_or_pos len0 with h0 | h0
 ·left;subst h0;rfl
 right
 have c0:=(World.cells?_some (l 0 h0).1).2.2 0 (by omega)
 rw [add_add] at c0;have k:=ft c0 (by omega)
 have E:=World.block_lt_of_cell? _ _ c0;refine ⟨a.block,a.off,by rw [←k],by simpa [Addr.add] using E,fun i f=>?_⟩
 rw [b] at f;have o:=(World.cells?_some (l i f).1).2.2;rw [k] at o;simp only [aK,Nat.add_assoc,Nat.mul_one] at o;rw [G i f];refine ⟨?_,(l i f).2⟩;have:=o 0 (by omega)
 simpa using this
end
end Go.Proofs.YtohgnbgamfepoaaGreatDoor
namespace Go.Proofs.YtohgnbgamfepoaaGreatDoor
open Go.ChangeShapes Go.WideShapes Go.ChangeAt Go.RowKit
theorem jQ (n:Int) (w:World):Rt 105 #[.int .i64 n] w (.agg #[.int .i64 (eG n).1,.int .i64 (eG n).2]):=by
 by_cases a:n < -1000000000000
 ·rw [jL (by omega)]
  go_enter Tryz.func105,Tryz.ntmps105
  go_wp2;go_returns;exact ⟨rfl,by go_grown⟩
 by_cases b:1000000000000<n
 ·rw [jL (by omega)]
  go_enter Tryz.func105,Tryz.ntmps105
  go_wp2;go_returns;exact ⟨rfl,by go_grown⟩
 rw [pt (by omega) (by omega)]
 go_enter Tryz.func105,Tryz.ntmps105
 go_wp2;go_returns;exact ⟨rfl,by go_grown⟩
theorem jS (n:Int) (w:World) (a : -1000000000000≤n) (b:n≤1000000000000):Calls Tryz.prog 138 #[.int .i64 n] w fun e w'=>e=.returned (.int .i64 (ab n))∧w'=w:=by
 unfold ab
 by_cases h:n<0
 ·rw [if_pos h]
  go_enter Tryz.func138,Tryz.ntmps138
  go_wp2;go_ret;exact ⟨rfl,rfl⟩
 rw [if_neg h]
 go_enter Tryz.func138,Tryz.ntmps138
 go_wp2;go_ret;exact ⟨rfl,rfl⟩
end Go.Proofs.YtohgnbgamfepoaaGreatDoor
namespace Go.Proofs.YtohgnbgamfepoaaGreatDoor
open Go.ChangeShapes Go.WideShapes Go.ChangeAt Go.RowKit
set_option maxRecDepth 20000
theorem qC (A B:Option Addr) (o p:Nat) (L:List (Int×Int)) (w:World) (t:L.length≤3000) (c:dx w A o L) (d:dx w B p L):Rt 12 #[.slice A L.length o,.slice B L.length p] w (.bool true):=by
 have q:=aa c;have r:=aa d;obtain ⟨N,h⟩:=az L.length;have n:=aa h;rw [h] at t ⊢;have u:(N:Int)≤3000:=by omega
 have v:((N:Int) != (N:Int))=false:=by simp
 clear c d h
 go_enter Tryz.func12,Tryz.ntmps12
 go_wp2_with fail
 go_loopg [5] N (fun g s5 wr => ∃ (k:Nat),k≤N∧g=N-k∧s5=.int .i64 k∧Bl w wr)
 case atStart=>exact ⟨0,zU,rfl,rfl,zS⟩
 case round =>
  obtain ⟨k,z,rfl,rfl,b⟩:=hrel;have e:=aa b
  by_cases m:k<N
  ·have s:(k:Int)<(N:Int):=by omega
   have a:k<L.length:=by rw [n.out];exact m
   obtain ⟨i,-,f | ⟨b1,o1,rfl,c⟩⟩:=q.out.later b
   ·rw [f] at a;simp at a
   obtain ⟨j,-,f | ⟨b2,o2,rfl,d⟩⟩:=r.out.later b
   ·rw [f] at a;simp at a
   obtain ⟨a1,a2⟩:=c.2 k a;obtain ⟨b1',b2'⟩:=d.2 k a;rw [n.out] at i j;generalize (L.getD k noC).1=x at a1 b1';generalize (L.getD k noC).2=y at a2 b2';clear c d b;go_wp2_with fail
   first | (go_quiet (fail);go_wp2_with fail) | skip
   go_roundg (N-(k+1))
   case measure=>omega
   case rel=>first | exact ⟨k+1,by omega,rfl,by go_num,e.out⟩ | exact ⟨k+1,by omega,rfl,by go_num,ac e.out _⟩
  have l:k=N:=by omega
  subst l;clear b;go_wp2_with fail;go_ret;exact ⟨rfl,e.out⟩
end Go.Proofs.YtohgnbgamfepoaaGreatDoor
