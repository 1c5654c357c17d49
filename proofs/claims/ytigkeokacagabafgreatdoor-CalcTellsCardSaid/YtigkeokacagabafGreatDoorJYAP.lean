/-
  What Parse of package formula answers, in whatever memory: of any text its nodes, or what is wrong with it, and where.
-/
import Derived.Lib.ItoaLen
import Derived.Lib.AppendIntMem
import Derived.Maps.AppendAt
import Derived.Laws.CopyRow
import Derived.Laws.CopyOwn
import Derived.Laws.IdiomCopy
import Derived.Test.YtigkeokacagabafGreatDoorJYAL
import Derived.Test.YtigkeokacagabafGreatDoorJYAN
import Derived.Test.YtigkeokacagabafGreatDoorJYAO
namespace Go.Proofs.YtigkeokacagabafGreatDoor
open Go.ChangeShapes Go.WideShapes Go.ChangeAt Go.RowKit
set_option maxRecDepth 20000
def tkU:Unit→ByteArray→Unit:=fun _ _=>()
def goneU (s:ByteArray):Rd Unit×Bool:=allR s tkU ⟨0,0,()⟩
def goneB (s:ByteArray):Rd Bld×Bool:=allR s takeB ⟨0,0,noB⟩
def nodesP (s:ByteArray):List Nd:=(settleB 0 (goneB s).1.st).nodes
def prsE (s:ByteArray):Int:=if 100<s.size then (if (goneU s).2=true then 4 else 2) else if (goneB s).2=true then formErr (nodesP s) else 2
def prsA (s:ByteArray):Nat:=if 100<s.size then (if (goneU s).2=true then 0 else (goneU s).1.at') else if (goneB s).2=true then 0 else (goneB s).1.at'
def prsL (s:ByteArray):List Nd:=if prsE s=0 then nodesP s else []
theorem nds_of {w:World} {N:Nat} {A:Option Addr} {c:Nat} {l:List Nd} (h:w.ownsRow N 181 5 (.slice A l.length c) l.length (cellsN l)):NdsV w A c l:=by
 rcases h.2 with ⟨h0,h1⟩ | ⟨g,cap,cur,h0,hb,hg,hc,hm,hs,ht⟩
 ·simp only [Value.slice.injEq] at h0
  obtain ⟨rfl,-,rfl⟩:=h0
  exact ⟨by omega,by omega,Or.inl (List.eq_nil_of_length_eq_zero h1)⟩
 ·cases h0
  refine ⟨hc,by unfold maxLen at hm;omega,Or.inr ⟨g,0,rfl,(Array.getElem?_eq_some_iff.1 hg).1,fun k hk=>?_⟩⟩
  have hcell:∀ j u,(cellsN l)[j]?=some u→w.cell? ⟨g,j,none⟩=some u:=fun j u hu=>by
   have hx:=h.cells (g:=g) rfl j u hu
   have hadd:(⟨g,0,none⟩:Addr).add j=⟨g,j,none⟩:=by unfold Addr.add;split <;> simp_all
   rw [hadd] at hx
   exact hx
  obtain ⟨a0,a1,a2,a3,a4⟩:=cellsN_at l k hk
  simp only [Nat.zero_add]
  exact ⟨hcell _ _ a0,hcell _ _ a1,hcell _ _ a2,hcell _ _ a3,hcell _ _ a4⟩
set_option maxHeartbeats 1000000 in
theorem ball_any (N p:Nat) (b:Bld) (w:World) (hN:N≤w.heap.size) (h1:b.nodes.length+opsN b.waiting≤200) (h2:b.ready.length≤200) (h3:opsN b.waiting+1≤b.ready.length) (h4:b.waiting.length≤200) (hB:BldAt N p b w) :
  Calls Tryz.prog 182 #[.pointer (some ⟨p,0,none⟩)] w fun e w'=>(∃ A c,e=.returned (.slice A (settleB 0 b).nodes.length c)∧NdsV w' A c (settleB 0 b).nodes)∧Kept N (fun k=>k=p) w w':=by
 have h:=settle_any N p b 0 w hN h1 h2 h3 h4 hB
 generalize settleB 0 b=b1 at *
 clear hB
 go_enter Tryz.func182,Tryz.ntmps182
 go_wp2_with fail
 refine h.mono ?_
 rintro e w1 ⟨rfl,⟨AN,cN,AR,cR,AW,cW,hV⟩,hK⟩
 have c0:=hV.c0
 have HN:Hid (NdsV w1 AN cN b1.nodes):=nds_of hV.nod
 have HK:Hid (Kept N (fun k=>k=p) w w1):=hK
 clear hV hK h
 go_wp2_with fail
 go_ret
 exact ⟨⟨_,_,rfl,HN.out⟩,HK.out⟩
def newB (w:World):World:=w.alloc (.cells #[.slice none 0 0,.slice none 0 0,.slice none 0 0] 246)
theorem newB_at (w:World):BldAt (w.heap.size+4) w.heap.size noB (newB w):=by
 refine ⟨none,0,none,0,none,0,by omega,heap_alloc_new w _,World.ownsRow_nil _ _ _ _,World.ownsRow_nil _ _ _ _,World.ownsRow_nil _ _ _ _,?_⟩
 intro g hg
 cases hg
theorem newB_size (w:World):(newB w).heap.size=w.heap.size+1:=by unfold newB;simp
theorem newB_below (w:World):Below w.heap.size w (newB w):=by unfold newB;go_grown
theorem below_of_kept {w w1 w2:World} {p:Nat} (h:Below w.heap.size w w1) (hk:Kept w1.heap.size (fun k=>k=p) w1 w2) (hp:w.heap.size≤p):Below w.heap.size w w2 :=
 ⟨hk.os.trans h.os,hk.tape.trans h.tape,hk.output.trans h.output,Nat.le_trans h.size hk.size,fun k hk'=>by
  rw [hk.block k (Nat.lt_of_lt_of_le hk' h.size) (by omega)]
  exact h.block k hk'⟩
theorem fit_new:FitB 0 0 false noB:=⟨rfl,by decide,Nat.le_refl _,Nat.le_refl _,Nat.le_refl _⟩
theorem opens_in {S:Type} {s:ByteArray} {tk:S→ByteArray→S}:∀ (f:Nat) (r:Rd S),r.at'≤s.size→(opensR s tk f r).at'≤s.size
 | 0,r,h=>h
 | f+1,r,h=>by
  rw [opensR]
  split
  ·rename_i h40
   exact opens_in f _ (opn_word (o:=0) h h40).1
  ·exact h
theorem closes_in {S:Type} {s:ByteArray} {tk:S→ByteArray→S}:∀ (f:Nat) (r:Rd S),r.at'≤s.size→(closesR s tk f r).at'≤s.size
 | 0,r,h=>h
 | f+1,r,h=>by
  rw [closesR]
  split
  ·rename_i h41
   exact closes_in f _ (cls_word (o:=0) h h41.2).1
  ·exact h
theorem operand_in {S:Type} {s:ByteArray} {tk:S→ByteArray→S} (r:Rd S) (h:r.at'≤s.size):(operandR s tk r).1.at'≤s.size:=by
 have h1:(openedR s tk r).at'≤s.size:=opens_in _ r h
 unfold operandR
 split
 ·rename_i hd
  exact closes_in _ _ (dig_word (o:=0) h1 hd).1
 ·split
  ·rename_i hl
   exact closes_in _ _ (let_word (o:=0) h1 hl).1
  ·exact h1
theorem loop_in {S:Type} {s:ByteArray} {tk:S→ByteArray→S}:∀ (f:Nat) (r:Rd S),r.at'≤s.size→(loopR s tk f r).1.at'≤s.size
 | 0,r,h=>h
 | f+1,r,h=>by
  have hsg:(signR s tk r).1.at'≤s.size:=by
   unfold signR
   split
   ·exact h
   ·rename_i hs
    exact (sgn_stp (o:=0) h hs).1
  rw [loopR]
  split
  ·split
   ·split
    ·exact loop_in f _ (operand_in _ hsg)
    ·exact operand_in _ hsg
   ·exact hsg
  ·exact h
theorem all_in {S:Type} {s:ByteArray} {tk:S→ByteArray→S} (r:Rd S) (h:r.at'≤s.size):(allR s tk r).1.at'≤s.size:=by
 unfold allR
 split
 ·split
  ·exact loop_in _ _ (operand_in _ h)
  ·exact loop_in _ _ (operand_in _ h)
 ·exact operand_in _ h
set_option maxHeartbeats 4000000 in
theorem parse_long (s:ByteArray) (w:World) (hs:s.size≤4611686018427387904) (h100:100<s.size):Calls Tryz.prog 141 #[.string s] w fun e w'=>(∃ A c,e=.returned (.tuple #[.slice A (prsL s).length c,.int .i64 (prsA s:Int),errV (prsE s)])∧NdsV w' A c (prsL s))∧Below w.heap.size w w':=by
 have hmf:∀ (fn:Fn) (first cap:Array Value) (w:World),(Instr.makeFunc fn first cap).run Tryz.prog w=.ok (.func fn first cap) w:=fun _ _ _ _=>rfl
 have h100':100<(s.size:Int):=by omega
 have hrd:=fread_any (tkN (w.heap.size+4) w.heap.size) (tkN_ok _ _) s () (newB w) hs (by rw [newB_size];rfl) (by rw [newB_size];exact Nat.lt_succ_self _) trivial trivial (goneU s) rfl
 have HB:Hid (Below w.heap.size w (newB w)):=newB_below w
 obtain ⟨W,hW⟩:∃ W,newB w=W:=⟨_,rfl⟩
 have HZ:Hid ((newB w).heap.size=w.heap.size+1):=newB_size w
 rw [hW] at hrd HB HZ
 unfold newB at hW
 have hfv:(tkN (w.heap.size+4) w.heap.size).fv=.func (.func 180) #[] #[]:=rfl
 rw [hfv] at hrd
 have HP:Hid ((tkN (w.heap.size+4) w.heap.size).p=w.heap.size):=rfl
 generalize tkN (w.heap.size+4) w.heap.size=T at *
 cases hx:(goneU s).2
 ·have hE:prsE s=2:=by unfold prsE;rw [if_pos h100,if_neg (by rw [hx];decide)]
  have hA:prsA s=(goneU s).1.at':=by unfold prsA;rw [if_pos h100,if_neg (by rw [hx];decide)]
  have hL:prsL s=[]:=by unfold prsL;rw [if_neg (by rw [hE];decide)]
  rw [hE,hA,hL,errV_some (by decide)]
  have HX:Hid ((goneU s).2=false):=hx
  clear hE hA hL hx
  go_enter Tryz.func141,Tryz.ntmps141
  go_wp2_with fail
  refine hrd.mono ?_
  rintro e w1 ⟨⟨hk,-⟩,⟨h1,-⟩ | ⟨-,rfl⟩⟩
  ·exact absurd (HX.out.symm.trans h1) (by decide)
  have HB1:Hid (Below w.heap.size w w1):=below_of_kept HB.out hk (by rw [HP.out];exact Nat.le_refl _)
  rw [errV_some (by decide)]
  clear hk hrd
  go_wp2_with fail
  go_returns
  exact ⟨⟨none,0,rfl,NdsV.nil _ _ _ (by omega)⟩,HB1.out⟩
 ·have hE:prsE s=4:=by unfold prsE;rw [if_pos h100,if_pos hx]
  have hA:prsA s=0:=by unfold prsA;rw [if_pos h100,if_pos hx]
  have hL:prsL s=[]:=by unfold prsL;rw [if_neg (by rw [hE];decide)]
  rw [hE,hA,hL,errV_some (by decide)]
  have HX:Hid ((goneU s).2=true):=hx
  clear hE hA hL hx
  go_enter Tryz.func141,Tryz.ntmps141
  go_wp2_with fail
  refine hrd.mono ?_
  rintro e w1 ⟨⟨hk,-⟩,⟨-,rfl,-⟩ | ⟨h1,-⟩⟩
  case inr=>exact absurd (HX.out.symm.trans h1) (by decide)
  have HB1:Hid (Below w.heap.size w w1):=below_of_kept HB.out hk (by rw [HP.out];exact Nat.le_refl _)
  clear hk hrd
  go_wp2_with fail
  go_returns
  exact ⟨⟨none,0,rfl,NdsV.nil _ _ _ (by omega)⟩,HB1.out⟩
set_option maxHeartbeats 4000000 in
theorem parse_short (s:ByteArray) (w:World) (h100:s.size≤100):Calls Tryz.prog 141 #[.string s] w fun e w'=>(∃ A c,e=.returned (.tuple #[.slice A (prsL s).length c,.int .i64 (prsA s:Int),errV (prsE s)])∧NdsV w' A c (prsL s))∧Below w.heap.size w w':=by
 have hmf:∀ (fn:Fn) (first cap:Array Value) (w:World),(Instr.makeFunc fn first cap).run Tryz.prog w=.ok (.func fn first cap) w:=fun _ _ _ _=>rfl
 have h100':(s.size:Int)≤100:=by omega
 have HAt:Hid ((goneB s).1.at'≤s.size):=all_in _ (Nat.zero_le _)
 have hrd:=fread_any (tkB (w.heap.size+4) w.heap.size) (tkB_ok _ _) s noB (newB w) (by show s.size≤100;exact h100) (by rw [newB_size];rfl) (by rw [newB_size];exact Nat.lt_succ_self _) (newB_at w) fit_new (goneB s) rfl
 have HB:Hid (Below w.heap.size w (newB w)):=newB_below w
 obtain ⟨W,hW⟩:∃ W,newB w=W:=⟨_,rfl⟩
 have HZ:Hid ((newB w).heap.size=w.heap.size+1):=newB_size w
 rw [hW] at hrd HB HZ
 unfold newB at hW
 have hfv:(tkB (w.heap.size+4) w.heap.size).fv=.func (.func 179) #[.pointer (some ⟨w.heap.size,0,none⟩)] #[]:=rfl
 rw [hfv] at hrd
 have HI:Hid (∀ st w',(tkB (w.heap.size+4) w.heap.size).I st w'→BldAt (w.heap.size+4) w.heap.size st w'):=fun _ _ h=>h
 have HG:Hid (∀ a o ph st,(tkB (w.heap.size+4) w.heap.size).G a o ph st→FitB a o ph st):=fun _ _ _ _ h=>h
 have HP:Hid ((tkB (w.heap.size+4) w.heap.size).p=w.heap.size∧(tkB (w.heap.size+4) w.heap.size).N=w.heap.size+4):=⟨rfl,rfl⟩
 generalize tkB (w.heap.size+4) w.heap.size=T at *
 cases hx:(goneB s).2
 ·have hE:prsE s=2:=by unfold prsE;rw [if_neg (by omega),if_neg (by rw [hx];decide)]
  have hA:prsA s=(goneB s).1.at':=by unfold prsA;rw [if_neg (by omega),if_neg (by rw [hx];decide)]
  have hL:prsL s=[]:=by unfold prsL;rw [if_neg (by rw [hE];decide)]
  rw [hE,hA,hL,errV_some (by decide)]
  have HX:Hid ((goneB s).2=false):=hx
  clear hE hA hL hx
  go_enter Tryz.func141,Tryz.ntmps141
  go_wp2_with fail
  refine hrd.mono ?_
  rintro e w1 ⟨⟨hk,-⟩,⟨h1,-⟩ | ⟨-,rfl⟩⟩
  ·exact absurd (HX.out.symm.trans h1) (by decide)
  have HB1:Hid (Below w.heap.size w w1):=below_of_kept HB.out hk (by rw [HP.out.1];exact Nat.le_refl _)
  rw [errV_some (by decide)]
  clear hk hrd
  go_wp2_with fail
  go_returns
  exact ⟨⟨none,0,rfl,NdsV.nil _ _ _ (by omega)⟩,HB1.out⟩
 ·have hE:prsE s=formErr (nodesP s):=by unfold prsE;rw [if_neg (by omega),if_pos hx]
  have hA:prsA s=0:=by unfold prsA;rw [if_neg (by omega),if_pos hx]
  have HX:Hid ((goneB s).2=true):=hx
  have HE:Hid (prsE s=formErr (nodesP s)):=hE
  have HLd:Hid (prsL s=if prsE s=0 then nodesP s else []):=rfl
  have HNd:Hid (nodesP s=(settleB 0 (goneB s).1.st).nodes):=rfl
  rw [hE,hA]
  clear hE hA hx
  go_enter Tryz.func141,Tryz.ntmps141
  go_wp2_with fail
  refine hrd.mono ?_
  rintro e w1 ⟨⟨hk,hz1⟩,⟨-,rfl,hI,hG⟩ | ⟨h1,-⟩⟩
  case inr=>exact absurd (HX.out.symm.trans h1) (by decide)
  have HB1:Hid (Below w.heap.size w w1):=below_of_kept HB.out hk (by rw [HP.out.1];exact Nat.le_refl _)
  obtain ⟨f1,f2,f3,f4,f5⟩:=HG.out _ _ _ _ hG
  simp only [if_true] at f2
  rw [HP.out.2] at hz1
  have hat:(goneB s).1.at'≤200:=by have:=HAt.out;omega
  have hal:=ball_any (w.heap.size+4) w.heap.size (goneB s).1.st w1 hz1 (by omega) (by omega) f2 (by omega) (HI.out _ _ hI)
  clear hk hrd hI hG f1 f2 f3 f4 f5
  rw [←HNd.out] at hal
  obtain ⟨L,hLn⟩:∃ L,nodesP s=L:=⟨_,rfl⟩
  have HLn:Hid (nodesP s=L):=hLn
  rw [hLn] at hal HE HLd
  clear hLn
  go_wp2_with fail
  refine hal.mono ?_
  rintro e w2 ⟨⟨A,c,rfl,hN2⟩,hk2⟩
  have HB2:Hid (Below w.heap.size w w2):=⟨hk2.os.trans HB1.out.os,hk2.tape.trans HB1.out.tape,hk2.output.trans HB1.out.output,Nat.le_trans HB1.out.size hk2.size,fun k hk'=>by rw [hk2.block k (by omega) (by omega)];exact HB1.out.block k hk'⟩
  have HN2:Hid (NdsV w2 A c L):=hN2
  have hck:=fchk_any A c L w2 hN2
  clear hk2 hN2 hal
  by_cases h0:formErr L=0
  ·have HL:Hid (prsL s=L):=by show _=_;rw [HLd.out,HE.out,if_pos h0]
   rw [h0,errV_zero] at hck
   have HF:Hid (formErr L=0):=h0
   clear h0
   go_wp2_with fail
   refine hck.mono ?_
   rintro e w3 ⟨rfl,hb3⟩
   have HB3:Hid (Below w.heap.size w w3):=onB HB2.out hb3
   have HN3:Hid (NdsV w3 A c L):=HN2.out.later hb3
   clear hb3 hck
   go_wp2_with fail
   go_returns
   exact ⟨⟨A,c,by rw [HL.out,HLn.out,HF.out];rfl,by rw [HL.out];exact HN3.out⟩,HB3.out⟩
  ·have HL:Hid (prsL s=[]):=by show _=_;rw [HLd.out,HE.out,if_neg h0]
   rw [errV_some h0] at hck
   have HF:Hid (errV (formErr L)=.iface 77 (.int .i64 (formErr L))):=errV_some h0
   clear h0
   go_wp2_with fail
   refine hck.mono ?_
   rintro e w3 ⟨rfl,hb3⟩
   have HB3:Hid (Below w.heap.size w w3):=onB HB2.out hb3
   clear hb3 hck
   go_wp2_with fail
   go_returns
   exact ⟨⟨none,0,by rw [HL.out,HLn.out,HF.out];rfl,by rw [HL.out];exact NdsV.nil _ _ _ (by omega)⟩,HB3.out⟩
theorem fparse_any (s:ByteArray) (w:World) (hs:s.size≤4611686018427387904):Calls Tryz.prog 141 #[.string s] w fun e w'=>(∃ A c,e=.returned (.tuple #[.slice A (prsL s).length c,.int .i64 (prsA s:Int),errV (prsE s)])∧NdsV w' A c (prsL s))∧Below w.heap.size w w':=by
 by_cases h:100<s.size
 ·exact parse_long s w hs h
 ·exact parse_short s w (by omega)
def noT:ByteArray:=⟨#[]⟩
def sgnT (op:Int):ByteArray:=if op=3 then ⟨#[43]⟩ else if op=4 then ⟨#[45]⟩ else if op=5 then ⟨#[42]⟩ else ⟨#[47]⟩
theorem Tryz.infoStrF:(Tryz.prog.info? 9).map (fun i=>(i.zero,i.size,i.bytes))=some (some (.string ⟨#[]⟩),1,16):=by kernel_rfl
theorem take_snoc (l:List Nd) {k:Nat} (hk:k<l.length):l.take (k+1)=l.take k ++ [l.getD k noN]:=by
 rw [List.take_add_one,List.getElem?_eq_getElem hk]
 simp [List.getD,List.getElem?_eq_getElem hk]
end Go.Proofs.YtigkeokacagabafGreatDoor
namespace Go.Proofs.YtigkeokacagabafGreatDoor
inductive Tre where
 | num (n:Int)
 | ref (s:ByteArray)
 | bin (o:Int) (a b:Tre)
def sizT:Tre→Nat
 | .num _=>1
 | .ref _=>1
 | .bin _ a b=>sizT a+sizT b+1
theorem siz_pos:∀ t:Tre,1≤sizT t
 | .num _=>Nat.le_refl _
 | .ref _=>Nat.le_refl _
 | .bin _ a b=>by show 1≤sizT a+sizT b+1;omega
def post:Tre→Nat→List Nd
 | .num n,_=>[⟨1,n,noT,0,0⟩]
 | .ref s,_=>[⟨2,0,s,0,0⟩]
 | .bin o a b,k=>post a k ++ post b (k+sizT a) ++ [⟨o,0,noT,((k+sizT a-1:Nat):Int),((k+sizT a+sizT b-1:Nat):Int)⟩]
theorem post_len:∀ (t:Tre) (k:Nat),(post t k).length=sizT t
 | .num _,_=>rfl
 | .ref _,_=>rfl
 | .bin o a b,k=>by simp [post,sizT,post_len a,post_len b];omega
def brkL (l:List ByteArray) (c:Bool):List ByteArray:=if c then [⟨#[40]⟩] ++ l ++ [⟨#[41]⟩] else l
def pushT (t:Tre) (b:Bld):Bld:=⟨b.nodes ++ post t b.nodes.length,b.ready ++ [((b.nodes.length+sizT t-1:Nat):Int)],b.waiting⟩
def Low (b:Bld) (k:Int):Prop:=b.waiting=[]∨∃ w x,b.waiting=w ++ [x]∧(x=0∨bindN x<k)
theorem Low.up {b:Bld} {k m:Int} (h:Low b k) (hm:k≤m):Low b m:=by
 rcases h with h | ⟨w,x,h,h0 | h0⟩
 ·exact Or.inl h
 ·exact Or.inr ⟨w,x,h,Or.inl h0⟩
 ·exact Or.inr ⟨w,x,h,Or.inr (by omega)⟩
theorem settle_low {b:Bld} {k:Int} (h:Low b k):settleB k b=b:=by
 unfold settleB
 rcases h with h | ⟨w,x,h,h0⟩
 ·rw [h];rfl
 ·rw [h,List.length_append,List.length_singleton]
  have e:b.waiting.getD w.length 0=x:=by rw [h];simp [List.getD]
  exact settle_stop (by rw [e];exact h0)
theorem settle_pop {n:List Nd} {r w:List Int} {o least:Int} (h0:o≠0) (h:least≤bindN o):settleB least ⟨n,r,w ++ [o]⟩=settleB least (joinBd o ⟨n,r,w⟩):=by
 unfold settleB
 have e1:(w ++ [o]).length=w.length+1:=by simp
 have e2:(w ++ [o]).getD w.length 0=o:=by simp [List.getD]
 have e3:(w ++ [o]).take w.length=w:=by simp
 show settleTo least (w ++ [o]).length _=_
 rw [e1,settle_on (by show ¬ ((w ++ [o]).getD w.length 0=0∨bindN ((w ++ [o]).getD w.length 0)<least);rw [e2];omega)]
 show settleTo least w.length (joinBd ((w ++ [o]).getD w.length 0) ⟨n,r,(w ++ [o]).take w.length⟩)=settleTo least (joinBd o ⟨n,r,w⟩).waiting.length _
 rw [e2,e3]
 rfl
theorem join_push (o:Int) (a c:Tre) (b:Bld) (w:List Int):joinBd o ⟨(pushT c ⟨(pushT a b).nodes,(pushT a b).ready,w⟩).nodes,(pushT c ⟨(pushT a b).nodes,(pushT a b).ready,w⟩).ready,b.waiting⟩=pushT (.bin o a c) b:=by
 have l1:(b.nodes ++ post a b.nodes.length).length=b.nodes.length+sizT a:=by simp [post_len]
 have pa:=siz_pos a
 have pc:=siz_pos c
 unfold joinBd pushT addB
 simp only [post,sizT,l1,List.length_append,List.length_singleton,post_len]
 have e1:b.ready.length+1+1-2=b.ready.length:=by omega
 rw [e1]
 have g1:(b.ready ++ [((b.nodes.length+sizT a-1:Nat):Int)] ++ [((b.nodes.length+sizT a+sizT c-1:Nat):Int)]).getD b.ready.length 0=((b.nodes.length+sizT a-1:Nat):Int):=by simp [List.getD]
 have g2:(b.ready ++ [((b.nodes.length+sizT a-1:Nat):Int)] ++ [((b.nodes.length+sizT a+sizT c-1:Nat):Int)]).getD (b.ready.length+1) 0=((b.nodes.length+sizT a+sizT c-1:Nat):Int):=by simp [List.getD]
 have g3:(b.ready ++ [((b.nodes.length+sizT a-1:Nat):Int)] ++ [((b.nodes.length+sizT a+sizT c-1:Nat):Int)]).take b.ready.length=b.ready:=by simp
 rw [g1,g2,g3]
 congr 1
 ·simp [noT]
 ·congr 2
  omega
theorem take_open (b:Bld):takeB b ⟨#[40]⟩=⟨b.nodes,b.ready,b.waiting ++ [0]⟩:=by
 rw [takeB,if_pos (by decide)]
theorem take_close (b:Bld):takeB b ⟨#[41]⟩=⟨(settleB 0 b).nodes,(settleB 0 b).ready,(settleB 0 b).waiting.take ((settleB 0 b).waiting.length-1)⟩:=by
 rw [takeB,if_neg (by decide),if_pos (by decide)]
theorem take_sign (b:Bld) {o:Int} (h:3≤o∧o≤6):takeB b (sgnT o)=⟨(settleB (bindN o) b).nodes,(settleB (bindN o) b).ready,(settleB (bindN o) b).waiting ++ [o]⟩:=by
 have hc:o=3∨o=4∨o=5∨o=6:=by omega
 rcases hc with rfl | rfl | rfl | rfl
 ·rw [takeB,if_neg (by decide),if_neg (by decide),if_pos (by decide)];rfl
 ·rw [takeB,if_neg (by decide),if_neg (by decide),if_pos (by decide)];rfl
 ·rw [takeB,if_neg (by decide),if_neg (by decide),if_pos (by decide)];rfl
 ·rw [takeB,if_neg (by decide),if_neg (by decide),if_pos (by decide)];rfl
theorem low_open (n:List Nd) (r w:List Int) (k:Int):Low ⟨n,r,w ++ [0]⟩ k:=Or.inr ⟨w,0,rfl,Or.inl rfl⟩
theorem low_push {b:Bld} {k:Int} (t:Tre) (h:Low b k):Low (pushT t b) k:=h
theorem take_brk {l:List ByteArray} {t:Tre} {b:Bld} (ih:settleB 0 (l.foldl takeB ⟨b.nodes,b.ready,b.waiting ++ [0]⟩)=settleB 0 (pushT t ⟨b.nodes,b.ready,b.waiting ++ [0]⟩)):(brkL l true).foldl takeB b=pushT t b:=by
 show ([ByteArray.mk #[40]] ++ l ++ [ByteArray.mk #[41]]).foldl takeB b=_
 rw [List.foldl_append,List.foldl_append]
 show takeB (l.foldl takeB (takeB b ⟨#[40]⟩)) ⟨#[41]⟩=_
 rw [take_open,take_close,ih,settle_low (low_push t (low_open _ _ _ _))]
 simp [pushT]
section
variable {S:Type} (s:ByteArray) (tk:S→ByteArray→S)
def runR:Nat→Bool→Rd S→Rd S×Bool
 | 0,_,r=>(r,false)
 | f+1,false,r =>
  if nextB s r.at'=40 then runR f false (wordR s tk 1 ⟨r.at',r.opn+1,r.st⟩)
  else if digB (nextB s r.at') then runR f true (wordR s tk (digitsN s r.at') r)
  else if letB (nextB s r.at') then runR f true (wordR s tk (leadN letB (s.extract r.at' s.size)) r)
  else (r,false)
 | f+1,true,r =>
  if 0<r.opn∧nextB s r.at'=41 then runR f true (wordR s tk 1 ⟨r.at',r.opn-1,r.st⟩)
  else if r.at'<s.size then (if signI (nextB s r.at')<0 then (r,false) else runR f false (wordR s tk 1 r))
  else (r,decide (r.opn=0))
end
section
variable {S:Type} {s:ByteArray} {tk:S→ByteArray→S}
theorem dig_pos {a:Nat} (ha:a≤s.size) (h:digB (nextB s a)=true):1≤digitsN s a∧a+digitsN s a≤s.size:=by
 have hlt:a<s.size:=next_zero (fun e=>by rw [e] at h;revert h;decide) ha
 have h1:=(lead_word (n:=0) hlt h (Nat.zero_le _)).1
 refine ⟨?_,(dig_word (o:=0) ha h).1⟩
 unfold digitsN
 split <;> omega
theorem let_pos {a:Nat} (ha:a≤s.size) (h:letB (nextB s a)=true):1≤leadN letB (s.extract a s.size)∧a+leadN letB (s.extract a s.size)≤s.size:=by
 have hlt:a<s.size:=next_zero (fun e=>by rw [e] at h;revert h;decide) ha
 exact ⟨(lead_word (n:=0) hlt h (Nat.zero_le _)).1,(let_word (o:=0) ha h).1⟩
theorem run_fuel:∀ (f g:Nat) (ph:Bool) (r:Rd S),r.at'≤s.size→s.size-r.at'<f→s.size-r.at'<g→runR s tk f ph r=runR s tk g ph r
 | 0,_,_,_,_,h,_=>by omega
 | _+1,0,_,_,_,_,h=>by omega
 | f+1,g+1,false,r,hr,hf,hg=>by
  rw [runR,runR]
  by_cases h1:nextB s r.at'=40
  ·rw [if_pos h1,if_pos h1]
   have h:=(opn_word (o:=0) hr h1).1
   exact run_fuel f g false _ h (by show s.size-(r.at'+1)<f;omega) (by show s.size-(r.at'+1)<g;omega)
  rw [if_neg h1,if_neg h1]
  by_cases h2:digB (nextB s r.at')=true
  ·rw [if_pos h2,if_pos h2]
   have h:=dig_pos hr h2
   exact run_fuel f g true _ h.2 (by show s.size-(r.at'+digitsN s r.at')<f;omega) (by show s.size-(r.at'+digitsN s r.at')<g;omega)
  rw [if_neg h2,if_neg h2]
  by_cases h3:letB (nextB s r.at')=true
  ·rw [if_pos h3,if_pos h3]
   have h:=let_pos hr h3
   exact run_fuel f g true _ h.2 (by show s.size-(r.at'+leadN letB (s.extract r.at' s.size))<f;omega) (by show s.size-(r.at'+leadN letB (s.extract r.at' s.size))<g;omega)
  rw [if_neg h3,if_neg h3]
 | f+1,g+1,true,r,hr,hf,hg=>by
  rw [runR,runR]
  by_cases h1:0<r.opn∧nextB s r.at'=41
  ·rw [if_pos h1,if_pos h1]
   have h:=(cls_word (o:=0) hr h1.2).1
   exact run_fuel f g true _ h (by show s.size-(r.at'+1)<f;omega) (by show s.size-(r.at'+1)<g;omega)
  rw [if_neg h1,if_neg h1]
  by_cases h2:r.at'<s.size
  ·rw [if_pos h2,if_pos h2]
   by_cases h3:signI (nextB s r.at')<0
   ·rw [if_pos h3,if_pos h3]
   ·rw [if_neg h3,if_neg h3]
    exact run_fuel f g false _ h2 (by show s.size-(r.at'+1)<f;omega) (by show s.size-(r.at'+1)<g;omega)
  ·rw [if_neg h2,if_neg h2]
end
def toEnd {S:Type} (s:ByteArray) (tk:S→ByteArray→S) (ph:Bool) (r:Rd S):Rd S×Bool:=runR s tk (s.size+1) ph r
section
variable {S:Type} {s:ByteArray} {tk:S→ByteArray→S} {r:Rd S}
theorem end_open (hr:r.at'≤s.size) (h:nextB s r.at'=40):toEnd s tk false r=toEnd s tk false (wordR s tk 1 ⟨r.at',r.opn+1,r.st⟩):=by
 have h1:=(opn_word (o:=0) hr h).1
 unfold toEnd
 rw [runR,if_pos h]
 exact run_fuel _ _ _ _ h1 (by show s.size-(r.at'+1)<_;omega) (by show s.size-(r.at'+1)<_;omega)
theorem end_dig (hr:r.at'≤s.size) (h:digB (nextB s r.at')=true):toEnd s tk false r=toEnd s tk true (wordR s tk (digitsN s r.at') r):=by
 have h1:=dig_pos hr h
 have h40:nextB s r.at'≠40:=fun e=>by rw [e] at h;revert h;decide
 unfold toEnd
 rw [runR,if_neg h40,if_pos h]
 exact run_fuel _ _ _ _ h1.2 (by show s.size-(r.at'+digitsN s r.at')<_;omega) (by show s.size-(r.at'+digitsN s r.at')<_;omega)
theorem end_let (hr:r.at'≤s.size) (h:letB (nextB s r.at')=true):toEnd s tk false r=toEnd s tk true (wordR s tk (leadN letB (s.extract r.at' s.size)) r):=by
 have h1:=let_pos hr h
 have h40:nextB s r.at'≠40:=fun e=>by rw [e] at h;revert h;decide
 have hd : ¬ digB (nextB s r.at')=true:=fun e=>by unfold digB at e;unfold letB at h;simp at e h;omega
 unfold toEnd
 rw [runR,if_neg h40,if_neg hd,if_pos h]
 exact run_fuel _ _ _ _ h1.2 (by show s.size-(r.at'+leadN letB (s.extract r.at' s.size))<_;omega) (by show s.size-(r.at'+leadN letB (s.extract r.at' s.size))<_;omega)
theorem end_none (h:nextB s r.at'≠40) (h1:digB (nextB s r.at')=false) (h2:letB (nextB s r.at')=false):toEnd s tk false r=(r,false):=by
 unfold toEnd
 rw [runR,if_neg h,if_neg (by rw [h1];decide),if_neg (by rw [h2];decide)]
theorem end_close (hr:r.at'≤s.size) (h:0<r.opn∧nextB s r.at'=41):toEnd s tk true r=toEnd s tk true (wordR s tk 1 ⟨r.at',r.opn-1,r.st⟩):=by
 have h1:=(cls_word (o:=0) hr h.2).1
 unfold toEnd
 rw [runR,if_pos h]
 exact run_fuel _ _ _ _ h1 (by show s.size-(r.at'+1)<_;omega) (by show s.size-(r.at'+1)<_;omega)
theorem end_sign (h : ¬ (0<r.opn∧nextB s r.at'=41)) (hlt:r.at'<s.size) (hs : ¬ signI (nextB s r.at')<0):toEnd s tk true r=toEnd s tk false (wordR s tk 1 r):=by
 have e:runR s tk (s.size+1) true r=runR s tk s.size false (wordR s tk 1 r):=by rw [runR,if_neg h,if_pos hlt,if_neg hs]
 unfold toEnd
 rw [e]
 exact run_fuel _ _ _ _ hlt (by show s.size-(r.at'+1)<_;omega) (by show s.size-(r.at'+1)<_;omega)
theorem end_bad (h : ¬ (0<r.opn∧nextB s r.at'=41)) (hlt:r.at'<s.size) (hs:signI (nextB s r.at')<0):toEnd s tk true r=(r,false):=by
 unfold toEnd
 rw [runR,if_neg h,if_pos hlt,if_pos hs]
theorem end_end (h : ¬ (0<r.opn∧nextB s r.at'=41)) (hlt : ¬ r.at'<s.size):toEnd s tk true r=(r,decide (r.opn=0)):=by
 unfold toEnd
 rw [runR,if_neg h,if_neg hlt]
theorem end_opens:∀ (f:Nat) (r:Rd S),r.at'≤s.size→toEnd s tk false r=toEnd s tk false (opensR s tk f r)
 | 0,_,_=>rfl
 | f+1,r,hr=>by
  rw [opensR]
  split
  ·rename_i h
   rw [end_open hr h]
   exact end_opens f _ (opn_word (o:=0) hr h).1
  ·rfl
theorem opened_ne:∀ (f:Nat) (r:Rd S),r.at'≤s.size→s.size-r.at'≤f→nextB s (opensR s tk f r).at'≠40
 | 0,r,hr,hf=>by
  have e:r.at'=s.size:=by omega
  rw [opensR,e,nextB,if_pos rfl]
  decide
 | f+1,r,hr,hf=>by
  rw [opensR]
  split
  ·rename_i h
   have h1:=(opn_word (o:=0) hr h).1
   exact opened_ne f _ h1 (by show s.size-(r.at'+1)≤f;omega)
  ·rename_i h;exact h
theorem end_closes:∀ (f:Nat) (r:Rd S),r.at'≤s.size→toEnd s tk true r=toEnd s tk true (closesR s tk f r)
 | 0,_,_=>rfl
 | f+1,r,hr=>by
  rw [closesR]
  split
  ·rename_i h
   rw [end_close hr h]
   exact end_closes f _ (cls_word (o:=0) hr h.2).1
  ·rfl
theorem closed_ne:∀ (f:Nat) (r:Rd S),r.at'≤s.size→s.size-r.at'≤f→¬ (0<(closesR s tk f r).opn∧nextB s (closesR s tk f r).at'=41)
 | 0,r,hr,hf=>by
  have e:r.at'=s.size:=by omega
  rw [closesR,e,nextB,if_pos rfl]
  intro h
  exact absurd h.2 (by decide)
 | f+1,r,hr,hf=>by
  rw [closesR]
  split
  ·rename_i h
   have h1:=(cls_word (o:=0) hr h.2).1
   exact closed_ne f _ h1 (by show s.size-(r.at'+1)≤f;omega)
  ·rename_i h;exact h
theorem end_operand (hr:r.at'≤s.size):((operandR s tk r).2=true∧toEnd s tk false r=toEnd s tk true (operandR s tk r).1∧¬ (0<(operandR s tk r).1.opn∧nextB s (operandR s tk r).1.at'=41))∨((operandR s tk r).2=false∧toEnd s tk false r=((operandR s tk r).1,false)):=by
 have ho:(openedR s tk r).at'≤s.size:=opens_in _ r hr
 have e0:toEnd s tk false r=toEnd s tk false (openedR s tk r):=end_opens _ r hr
 have hne:nextB s (openedR s tk r).at'≠40:=opened_ne _ r hr (Nat.le_refl _)
 cases hd:digB (nextB s (openedR s tk r).at')
 ·cases hl:letB (nextB s (openedR s tk r).at')
  ·right
   have e:=opnd_no (s:=s) (tk:=tk) (r:=r) hd hl
   rw [e]
   exact ⟨rfl,by rw [e0];exact end_none hne hd hl⟩
  ·left
   have e:=opnd_let (s:=s) (tk:=tk) (r:=r) hd hl
   rw [e]
   have h1:=let_pos ho hl
   refine ⟨rfl,?_,closed_ne _ _ h1.2 (by omega)⟩
   rw [e0,end_let ho hl]
   exact end_closes _ _ h1.2
 ·left
  have e:=opnd_dig (s:=s) (tk:=tk) (r:=r) hd
  rw [e]
  have h1:=dig_pos ho hd
  refine ⟨rfl,?_,closed_ne _ _ h1.2 (by omega)⟩
  rw [e0,end_dig ho hd]
  exact end_closes _ _ h1.2
theorem end_loop:∀ (f:Nat) (r:Rd S),r.at'≤s.size→s.size-r.at'≤f→¬ (0<r.opn∧nextB s r.at'=41)→toEnd s tk true r=if (loopR s tk f r).2 then ((loopR s tk f r).1,decide ((loopR s tk f r).1.opn=0)) else ((loopR s tk f r).1,false)
 | 0,r,hr,hf,hc=>by
  rw [loopR,if_pos rfl]
  exact end_end hc (by omega)
 | f+1,r,hr,hf,hc=>by
  by_cases hlt:r.at'<s.size
  ·by_cases hs:signI (nextB s r.at')<0
   ·have e:signR s tk r=(r,false):=by rw [signR,if_pos hs]
    rw [loop_sgn hlt (by rw [e]),e,if_neg (fun e=>Bool.noConfusion e)]
    exact end_bad hc hlt hs
   ·have e:signR s tk r=(wordR s tk 1 r,true):=by rw [signR,if_neg hs]
    have h1:(wordR s tk 1 r).at'≤s.size:=hlt
    rw [end_sign hc hlt hs]
    rcases end_operand (tk:=tk) h1 with ⟨g1,g2,g3⟩ | ⟨g1,g2⟩
    ·rw [loop_on hlt (by rw [e]) (by rw [e];exact g1),e,g2]
     have hat:=operand_at (s:=s) (tk:=tk) (wordR s tk 1 r)
     have hw:(wordR s tk 1 r).at'=r.at'+1:=rfl
     exact end_loop f _ (operand_in _ h1) (by omega) g3
    ·rw [loop_opd hlt (by rw [e]) (by rw [e];exact g1),e,if_neg (fun e=>Bool.noConfusion e)]
     exact g2
  ·rw [loop_end hlt,if_pos rfl]
   exact end_end hc hlt
theorem all_end_eq (hr:r.at'≤s.size):allR s tk r=toEnd s tk false r:=by
 rcases end_operand (tk:=tk) hr with ⟨g1,g2,g3⟩ | ⟨g1,g2⟩
 ·rw [g2,end_loop s.size _ (operand_in _ hr) (by omega) g3]
  unfold allR
  rw [if_pos g1]
 ·rw [g2,all_no g1]
end
theorem leadTo_exact {q:Int→Bool} {t:ByteArray} {m:Nat} (h1:∀ i,i<m→q (byteN t i)=true) (h2:m=t.size∨q (byteN t m)=false):∀ (f i:Nat),i≤m→i+f=t.size→leadTo q t f i=m
 | 0,i,hi,hf=>by
  rcases h2 with h2 | h2
  ·show i=m;omega
  ·by_cases e:i=m
   ·exact e
   ·have:=h1 i (by omega)
    show i=m
    exfalso
    have hz:byteN t i=0:=by
     unfold byteN
     have e2:t.size=t.data.toList.length:=Array.length_toList.symm
     rw [List.getD,List.getElem?_eq_none (by omega)]
     rfl
    have hz2:byteN t m=0:=by
     unfold byteN
     have e2:t.size=t.data.toList.length:=Array.length_toList.symm
     rw [List.getD,List.getElem?_eq_none (by omega)]
     rfl
    rw [hz] at this
    rw [hz2,this] at h2
    cases h2
 | f+1,i,hi,hf=>by
  by_cases e:i=m
  ·rcases h2 with h2 | h2
   ·omega
   ·rw [leadTo,e,if_neg (by rw [h2];decide)]
  ·rw [leadTo,if_pos (h1 i (by omega))]
   exact leadTo_exact h1 h2 f (i+1) (by omega) (by omega)
def trF (l:List Nd):Nat→Nat→Tre
 | 0,_=>.num 0
 | f+1,i=>if (l.getD i noN).op=1 then .num (l.getD i noN).n else if (l.getD i noN).op=2 then .ref (l.getD i noN).name else .bin (l.getD i noN).op (trF l f (l.getD i noN).left.toNat) (trF l f (l.getD i noN).right.toNat)
def treeOf (l:List Nd) (i:Nat):Tre:=trF l (i+1) i
def RightL (l:List Nd):Prop := ∀ j,j<l.length→ndErr (l.getD j noN) j=0
theorem op_range {x:Nd} {i:Nat} (h:ndErr x i=0):1≤x.op∧x.op≤6:=by
 unfold ndErr at h
 split at h
 ·cases h
 ·omega
theorem trF_fuel {l:List Nd} (hl:RightL l):∀ (f g i:Nat),i<l.length→i<f→i<g→trF l f i=trF l g i
 | 0,_,_,_,h,_=>by omega
 | _+1,0,_,_,_,h=>by omega
 | f+1,g+1,i,hi,hf,hg=>by
  rw [trF,trF]
  by_cases h1:(l.getD i noN).op=1
  ·rw [if_pos h1,if_pos h1]
  rw [if_neg h1,if_neg h1]
  by_cases h2:(l.getD i noN).op=2
  ·rw [if_pos h2,if_pos h2]
  rw [if_neg h2,if_neg h2]
  have ho:=op_range (hl i hi)
  obtain ⟨a1,a2,a3,a4⟩:=nd_sides (hl i hi) (by omega)
  rw [trF_fuel hl f g _ (by omega) (by omega) (by omega),trF_fuel hl f g (l.getD i noN).right.toNat (by omega) (by omega) (by omega)]
section
variable {l:List Nd} {i:Nat}
theorem tree_num (h:(l.getD i noN).op=1):treeOf l i=.num (l.getD i noN).n:=by unfold treeOf;rw [trF,if_pos h]
theorem tree_ref (h:(l.getD i noN).op=2):treeOf l i=.ref (l.getD i noN).name:=by unfold treeOf;rw [trF,if_neg (by omega),if_pos h]
theorem tree_bin (hl:RightL l) (hi:i<l.length) (h:2<(l.getD i noN).op):treeOf l i=.bin (l.getD i noN).op (treeOf l (l.getD i noN).left.toNat) (treeOf l (l.getD i noN).right.toNat):=by
 obtain ⟨a1,a2,a3,a4⟩:=nd_sides (hl i hi) h
 unfold treeOf
 rw [trF,if_neg (by omega),if_neg (by omega),trF_fuel hl i _ _ (by omega) (by omega) (Nat.lt_succ_self _),trF_fuel hl i _ (l.getD i noN).right.toNat (by omega) (by omega) (Nat.lt_succ_self _)]
end
section
variable (N:List ByteArray) (C:List (Int×Int))
def refC (s:ByteArray):Int×Int:=C.getD (whereS N s).toNat noC
def valT:Tre→Int×Int
 | .num n=>ofP n
 | .ref s=>refC N C s
 | .bin o a b=>opP o (valT a) (valT b)
end
def refsT:Tre→List ByteArray
 | .num _=>[]
 | .ref s=>[s]
 | .bin _ a b=>refsT a ++ refsT b
def missT (N:List ByteArray) (t:Tre):Bool:=(refsT t).any fun s=>decide (whereS N s<0)
theorem val_ok (N:List ByteArray) {C:List (Int×Int)} (hC:∀ c∈C,okC c):∀ t:Tre,okC (valT N C t)
 | .num n=>okC_ofP n
 | .ref s=>by
  rw [valT,refC,List.getD_eq_getElem?_getD]
  cases h:C[(whereS N s).toNat]? with
  | none=>exact okC_no
  | some c=>exact hC c (List.mem_of_getElem? h)
 | .bin o a b=>opP_ok o _ _
/-! the names of a tree are those of the nodes -/
theorem refs_down {l:List Nd} (hl:RightL l) (s:ByteArray):∀ i,i<l.length→s∈refsT (treeOf l i)→∃ j,j<l.length∧(l.getD j noN).op=2∧(l.getD j noN).name=s:=by
 intro i
 induction i using Nat.strongRecOn with
 | _ i ih =>
  intro hi hs
  have ho:=op_range (hl i hi)
  by_cases h1:(l.getD i noN).op=1
  ·rw [tree_num h1] at hs;cases hs
  by_cases h2:(l.getD i noN).op=2
  ·rw [tree_ref h2,refsT,List.mem_singleton] at hs
   exact ⟨i,hi,h2,hs.symm⟩
  ·obtain ⟨a1,a2,a3,a4⟩:=nd_sides (hl i hi) (by omega)
   rw [tree_bin hl hi (by omega),refsT,List.mem_append] at hs
   rcases hs with hs | hs
   ·exact ih _ (by omega) (by omega) hs
   ·exact ih _ (by omega) (by omega) hs
theorem used_who {l:List Nd} (j:Nat):∀ k,1≤usedTo l k j→∃ i,i<k∧1≤uses (l.getD i noN) j
 | 0,h=>by cases h
 | k+1,h=>by
  by_cases h1:1≤uses (l.getD k noN) j
  ·exact ⟨k,Nat.lt_succ_self _,h1⟩
  ·have h2:1≤usedTo l k j+uses (l.getD k noN) j:=h
   obtain ⟨i,hi,h3⟩:=used_who (l:=l) j k (by omega)
   exact ⟨i,by omega,h3⟩
theorem refs_up {l:List Nd} (h:formErr l=0) (s:ByteArray):∀ n j,l.length-j=n→j<l.length→s∈refsT (treeOf l j)→s∈refsT (treeOf l (l.length-1)):=by
 obtain ⟨h1,h2,hl,h4⟩:=form_right h
 intro n
 induction n using Nat.strongRecOn with
 | _ n ih =>
  intro j hn hj hs
  by_cases e:j=l.length-1
  ·rw [←e];exact hs
  obtain ⟨i,hi,hu⟩:=used_who (l:=l) j l.length (by rw [h4 j (by omega)];exact Nat.le_refl _)
  unfold uses at hu
  split at hu
  ·rename_i hop
   obtain ⟨a1,a2,a3,a4⟩:=nd_sides (hl i hi) hop
   have hsi:s∈refsT (treeOf l i):=by
    rw [tree_bin hl hi hop,refsT,List.mem_append]
    by_cases e1:(l.getD i noN).left=(j:Int)
    ·left;rw [e1];exact hs
    ·by_cases e2:(l.getD i noN).right=(j:Int)
     ·right;rw [e2];exact hs
     ·rw [if_neg e1,if_neg e2] at hu;omega
   have hij:j<i:=by
    by_cases e1:(l.getD i noN).left=(j:Int)
    ·omega
    ·by_cases e2:(l.getD i noN).right=(j:Int)
     ·omega
     ·rw [if_neg e1,if_neg e2] at hu;omega
   exact ih (l.length-i) (by omega) i rfl hi hsi
  ·omega
theorem refs_mem {l:List Nd} (h:formErr l=0) (s:ByteArray):s∈refsT (treeOf l (l.length-1))↔∃ j,j<l.length∧(l.getD j noN).op=2∧(l.getD j noN).name=s:=by
 obtain ⟨h1,h2,hl,h4⟩:=form_right h
 refine ⟨refs_down hl s _ (by omega),fun ⟨j,hj,h2,h3⟩=>?_⟩
 refine refs_up h s _ j rfl hj ?_
 rw [tree_ref h2,h3,refsT]
 exact List.mem_singleton.2 rfl
def missR (N:List ByteArray) (l:List Nd) (i:Nat):Bool:=decide ((l.getD i noN).op=2) && decide (whereS N (l.getD i noN).name<0)
theorem miss_yes {N:List ByteArray} {l:List Nd} (h:formErr l=0) {i:Nat} (hi:i<l.length) (hm:missR N l i=true):missT N (treeOf l (l.length-1))=true:=by
 simp only [missR,Bool.and_eq_true,decide_eq_true_eq] at hm
 unfold missT
 rw [List.any_eq_true]
 exact ⟨_,(refs_mem h _).2 ⟨i,hi,hm.1,rfl⟩,decide_eq_true hm.2⟩
theorem miss_no {N:List ByteArray} {l:List Nd} (h:formErr l=0) (hm:∀ i,i<l.length→missR N l i=false):missT N (treeOf l (l.length-1))=false:=by
 rw [Bool.eq_false_iff]
 intro e
 unfold missT at e
 rw [List.any_eq_true] at e
 obtain ⟨s,h1,h2⟩:=e
 obtain ⟨j,hj,h3,h4⟩:=(refs_mem h s).1 h1
 have:=hm j hj
 unfold missR at this
 rw [h4,h3] at this
 simp at this h2
 omega
def valE (l:List Nd) (N:List ByteArray) (C:List (Int×Int)):Int:=if formErr l≠0 then formErr l else if ckErr N C≠0 then ckErr N C else if missT N (treeOf l (l.length-1))=true then 5 else 0
def valC (l:List Nd) (N:List ByteArray) (C:List (Int×Int)):Int×Int:=if valE l N C=0 then valT N C (treeOf l (l.length-1)) else noC
end Go.Proofs.YtigkeokacagabafGreatDoor
namespace Go.Proofs.YtigkeokacagabafGreatDoor
open Go.ChangeShapes Go.WideShapes Go.ChangeAt Go.RowKit
set_option maxRecDepth 20000
theorem ints_new {w:World} {base e:Nat} {v:Value} {L:List Int} (h:w.ownsRow base e 1 v L.length (mapI L)):∃ A cap,v=.slice A L.length cap∧IntsAt w A cap L∧∀ b o,A=some ⟨b,o,none⟩→base≤b:=by
 obtain ⟨A,cap,h1,h2⟩:=ints_of h
 refine ⟨A,cap,h1,h2,fun b o e=>?_⟩
 subst h1
 exact (h.lt b (by simp [Value.ownBlock,e])).1
def IntT (w:World) (A:Option Addr) (c:Nat) (L:List Int):Prop:=L.length≤c∧c≤9223372036854775807∧(L=[]∨∃ b cs fr,A=some ⟨b,0,none⟩∧w.heap[b]?=some (.cells cs 3 fr)∧∀ j,j<L.length→w.cell? ⟨b,j,none⟩=some (.int .i64 (L.getD j 0)))
theorem IntT.at {w:World} {A:Option Addr} {c:Nat} {L:List Int} (h:IntT w A c L):IntsAt w A c L:=by
 obtain ⟨h1,-,h2 | ⟨b,cs,fr,h2,h3,h4⟩⟩:=h
 ·exact ⟨h1,Or.inl h2⟩
 ·exact ⟨h1,Or.inr ⟨b,h2,(Array.getElem?_eq_some_iff.1 h3).1,h4⟩⟩
theorem IntT.nil (w:World) (A:Option Addr) (c:Nat) (h:c≤9223372036854775807):IntT w A c []:=⟨Nat.zero_le _,h,Or.inl rfl⟩
theorem IntT.keep {w w':World} {A:Option Addr} {c:Nat} {L:List Int} (h:IntT w A c L) (hB:∀ (b:Nat) (cs:Array Value) (fr:Nat×Nat),w.heap[b]?=some (Obj.cells cs 3 fr)→w'.heap[b]?=w.heap[b]?):IntT w' A c L:=by
 obtain ⟨h1,h0,h2 | ⟨b,cs,fr,h2,h3,h4⟩⟩:=h
 ·exact ⟨h1,h0,Or.inl h2⟩
 ·have hb:=hB b cs fr h3
  exact ⟨h1,h0,Or.inr ⟨b,cs,fr,h2,hb.trans h3,fun j hj=>(World.cell?_of_block (a:=⟨b,j,none⟩) hb).trans (h4 j hj)⟩⟩
theorem IntT.later {w w':World} {A:Option Addr} {c:Nat} {L:List Int} (h:IntT w A c L) (hB:Below w.heap.size w w'):IntT w' A c L :=
 h.keep fun b _ _ hb=>hB.block b (Array.getElem?_eq_some_iff.1 hb).1
theorem intT_own {w:World} {base:Nat} {v:Value} {L:List Int} (h:w.ownsRow base 3 1 v L.length (mapI L)):∃ A c,v=.slice A L.length c∧IntT w A c L:=by
 rcases h.2 with ⟨rfl,h0⟩ | ⟨g,cap,cur,rfl,hb,hg,hc,hm,_,_⟩
 ·have:L=[]:=List.eq_nil_of_length_eq_zero h0
  subst this
  exact ⟨none,0,rfl,IntT.nil _ _ _ (by omega)⟩
 ·refine ⟨_,cap,rfl,hc,by unfold maxLen at hm;omega,Or.inr ⟨g,cur,_,rfl,hg,fun j hj=>?_⟩⟩
  have hx:=h.cells (g:=g) rfl j (.int .i64 (L.getD j 0)) (by simp [mapI,List.getD,List.getElem?_eq_getElem hj])
  have hadd:(⟨g,0,none⟩:Addr).add j=⟨g,j,none⟩:=by unfold Addr.add;split <;> simp_all
  rw [hadd] at hx
  exact hx
theorem row_ne_int:(3:Nat)≠27:=by decide
theorem IntT.row {w w':World} {base:Nat} {v:Value} {n:Nat} {zs:List Value} {A:Option Addr} {c:Nat} {L:List Int} (h:IntT w A c L) (hown:w.ownsRow base 27 1 v n zs) (hG:w.grownBy w' v.ownBlock):IntT w' A c L:=by
 refine h.keep fun b cs fr hb=>hG.block b (Array.getElem?_eq_some_iff.1 hb).1 fun e=>?_
 rcases hown.2 with ⟨rfl,-⟩ | ⟨g,cap,cur,rfl,-,hg,-⟩
 ·cases e
 ·simp only [Value.ownBlock,Option.some.injEq] at e
  rw [e,hg] at hb
  simp only [Option.some.injEq,Obj.cells.injEq] at hb
  exact row_ne_int hb.2.1.symm
structure RL where
 p:List Int
 A:Option Addr
 c:Nat
def noR:RL:=⟨[],none,0⟩
def lR (xs:List RL):List (List Int):=xs.map RL.p
theorem lR_len (xs:List RL):(lR xs).length=xs.length:=by simp [lR]
theorem lR_append (a b:List RL):lR (a ++ b)=lR a ++ lR b:=by simp [lR]
def cellsR (xs:List RL):List Value:=xs.map fun x=>.slice x.A x.p.length x.c
theorem cellsR_append (a b:List RL):cellsR (a ++ b)=cellsR a ++ cellsR b:=by simp [cellsR]
theorem rl_mem {xs:List RL} {k:Nat} (h:k<xs.length):xs.getD k noR∈xs:=by
 rw [List.getD_eq_getElem?_getD,List.getElem?_eq_getElem h]
 exact List.getElem_mem h
theorem lR_at (xs:List RL) (k:Nat):(lR xs).getD k []=(xs.getD k noR).p:=by
 rw [List.getD_eq_getElem?_getD,List.getD_eq_getElem?_getD,lR,List.getElem?_map]
 cases xs[k]? <;> rfl
theorem cellsR_at {xs:List RL} {k:Nat} (h:k<xs.length):(cellsR xs)[k]?=some (.slice (xs.getD k noR).A (xs.getD k noR).p.length (xs.getD k noR).c):=by
 simp [cellsR,List.getD,h]
def RowsV (w:World) (A:Option Addr) (cap:Nat) (xs:List RL):Prop:=xs.length≤cap∧(xs=[]∨∃ b,A=some ⟨b,0,none⟩∧b<w.heap.size∧∀ k,k<xs.length→w.cell? ⟨b,k,none⟩=some (.slice (xs.getD k noR).A (xs.getD k noR).p.length (xs.getD k noR).c))∧∀ x∈xs,IntT w x.A x.c x.p
theorem RowsV.later {w w':World} {A:Option Addr} {cap:Nat} {xs:List RL} (h:RowsV w A cap xs) (hB:Below w.heap.size w w'):RowsV w' A cap xs:=by
 obtain ⟨h1,h2,h3⟩:=h
 refine ⟨h1,?_,fun x hx=>(h3 x hx).later hB⟩
 rcases h2 with h2 | ⟨b,h2,h4,h5⟩
 ·exact Or.inl h2
 ·exact Or.inr ⟨b,h2,Nat.lt_of_lt_of_le h4 hB.size,fun k hk=>(hB.cell (p:=⟨b,k,none⟩) h4).trans (h5 k hk)⟩
theorem RowsV.nil (w:World) (A:Option Addr) (cap:Nat):RowsV w A cap []:=⟨Nat.zero_le _,Or.inl rfl,fun x hx=>by cases hx⟩
theorem rows_own {w:World} {base:Nat} {v:Value} {xs:List RL} (h:w.ownsRow base 27 1 v xs.length (cellsR xs)) (hp:∀ x∈xs,IntT w x.A x.c x.p):∃ A c,v=.slice A xs.length c∧RowsV w A c xs:=by
 rcases h.2 with ⟨rfl,h0⟩ | ⟨g,cap,cur,rfl,hb,hg,hc,_,_,_⟩
 ·have:xs=[]:=List.eq_nil_of_length_eq_zero h0
  subst this
  exact ⟨none,0,rfl,RowsV.nil _ _ _⟩
 ·refine ⟨_,cap,rfl,hc,Or.inr ⟨g,rfl,(Array.getElem?_eq_some_iff.1 hg).1,fun k hk=>?_⟩,hp⟩
  have y:=h.cells (g:=g) rfl k _ (cellsR_at hk)
  have hadd:(⟨g,0,none⟩:Addr).add k=⟨g,k,none⟩:=by unfold Addr.add;split <;> simp_all
  rw [hadd] at y
  exact y
theorem Tryz.infoRow:(Tryz.prog.info? 27).map (fun i=>(i.zero,i.size,i.bytes))=some (some (.slice none 0 0),1,24):=by kernel_rfl
set_option maxHeartbeats 2000000 in
theorem iclone_any (A:Option Addr) (c:Nat) (L:List Int) (w:World) (hL:L.length≤12) (hP:IntT w A c L):Calls Tryz.prog 103 #[.slice A L.length c] w fun e w'=>(∃ v,e=.returned v∧w'.ownsRow w.heap.size 3 1 v L.length (mapI L))∧Below w.heap.size w w':=by
 have hq:∀ (w:World) (a:Option Addr) (n c n' c':Nat),(binOp .eql 27 (.slice a n c) (.slice none n' c')).run Tryz.prog w=.ok (.bool a.isNone) w:=fun w a n c n' c'=>Lib.run_eql_slice_nil w _ _ a n c n' c' Tryz.underlying27
 cases A with
 | none =>
  obtain ⟨-,-,h0 | ⟨b,cs,fr,h0,-⟩⟩:=hP
  ·subst h0
   simp only [List.length_nil]
   go_enter Tryz.func103,Tryz.ntmps103
   go_wp2_with fail
   go_ret
   exact ⟨⟨_,rfl,World.ownsRow_nil _ _ _ _⟩,Below.refl _ _⟩
  ·cases h0
 | some a =>
  obtain ⟨i0,hi0,hz0,hz1,hz2⟩:=info_parts Tryz.infoInt
  have HC:Hid (∀ j u,(mapI L)[j]?=some u→w.cell? (a.add j)=some u):=by
   intro j u hj
   obtain ⟨-,-,h0 | ⟨b,cs,fr,h0,-,hcell⟩⟩:=hP
   ·subst h0;simp [mapI] at hj
   ·cases h0
    have hlt:j<L.length:=by have:=(List.getElem?_eq_some_iff.1 hj).1;simpa [mapI] using this
    have hadd:(⟨b,0,none⟩:Addr).add j=⟨b,j,none⟩:=by unfold Addr.add;split <;> simp_all
    rw [hadd,hcell j hlt]
    simp only [mapI,List.getElem?_map,List.getElem?_eq_getElem hlt,Option.map_some,Option.some.injEq] at hj
    rw [←hj,List.getD_eq_getElem?_getD,List.getElem?_eq_getElem hlt]
    rfl
  have hl:(mapI L).length=L.length*1:=by simp [mapI]
  have h1:∀ u∈mapI L,u.oneCell'=true:=by intro u hu;simp [mapI] at hu;obtain ⟨x,-,rfl⟩:=hu;rfl
  clear hP
  go_enter Tryz.func103,Tryz.ntmps103
  go_wp2_with (at_builtin;refine wpList_append_own _ rfl _ _ 27 rfl w.heap.size 3 i0 (.int .i64 0) 1 8 Tryz.underlying27 hi0 hz0 hz1 hz2 rfl (by decide) _ _ _ rfl (World.ownsRow_made w #[] 0 (Nat.le_refl _) (Nat.zero_le _) (by simp)) a L.length c (mapI L) rfl ?qc1 ?qc2 ?qc3 ?qc4 ?qc5 ?qc6 ?_)
  case qc1=>exact hl
  case qc2=>exact fun j u hj=>Lib.cell?_alloc_some _ (HC.out j u hj)
  case qc3=>exact h1
  case qc4=>simp only [maxLen];omega
  case qc5=>omega
  case qc6=>simp
  intro v' w1 hown hgrow hnil
  have HO:Hid (w1.ownsRow w.heap.size 3 1 v' L.length (mapI L)):=hown
  have HB:Hid (Below w.heap.size w w1):=((Below.refl _ w).alloc (Nat.le_refl _) _).grown hgrow (by simp) (by intro k hk;simp [Value.ownBlock] at hk;omega)
  clear hown hgrow hnil
  go_wp2_with fail
  go_ret
  exact ⟨⟨_,rfl,HO.out⟩,HB.out⟩
theorem news5 {w:World} {x:Nd} {n:Nat} (hn:w.heap.size=n):∀ j u,(cellsNd1 x)[j]?=some u→(w.alloc (.cells #[.int .i64 x.op,.int .i64 x.n,.string x.name,.int .i64 x.left,.int .i64 x.right] 181)).cell? ((⟨n,0,none⟩:Addr).add j)=some u:=by
 subst hn
 exact World.news_of_block (cs := #[.int .i64 x.op,.int .i64 x.n,.string x.name,.int .i64 x.left,.int .i64 x.right]) (t:=181) (fr:=(0,0)) (heap_alloc_new _ _)
theorem ones5 {x:Nd}:∀ u∈cellsNd1 x,u.oneCell'=true:=by intro u hu;simp [cellsNd1] at hu;rcases hu with rfl | rfl | rfl | rfl | rfl <;> rfl
theorem name_empty {s:ByteArray} (h:s.size=0):s=noT:=by
 obtain ⟨d⟩:=s
 have:d=#[]:=Array.eq_empty_of_size_eq_zero h
 subst this
 rfl
end Go.Proofs.YtigkeokacagabafGreatDoor
namespace Go.Proofs.YtigkeokacagabafGreatDoor
def lessL:List Int→List Int→Bool
 | [],[]=>false
 | [],_ :: _=>true
 | _ :: _,[]=>false
 | a :: r,b :: t=>if a=b then lessL r t else decide (a<b)
theorem lessL_self (a:List Int):lessL a a=false:=by
 induction a with
 | nil=>rfl
 | cons x r ih=>simp [lessL,ih]
theorem lessL_trans:∀ (a b c:List Int),lessL a b=true→lessL b c=true→lessL a c=true
 | [],[],_,h,_=>by simp [lessL] at h
 | [],_ :: _,[],_,h=>by simp [lessL] at h
 | [],_ :: _,_ :: _,_,_=>rfl
 | _ :: _,[],_,h,_=>by simp [lessL] at h
 | _ :: _,_ :: _,[],_,h=>by simp [lessL] at h
 | x :: r,y :: t,z :: u,h1,h2=>by
  simp only [lessL] at h1 h2 ⊢
  by_cases e1:x=y
  ·by_cases e2:y=z
   ·rw [if_pos e1] at h1
    rw [if_pos e2] at h2
    rw [if_pos (e1.trans e2)]
    exact lessL_trans r t u h1 h2
   ·rw [if_neg e2] at h2
    rw [if_neg (by rw [e1];exact e2),e1]
    exact h2
  ·rw [if_neg e1] at h1
   have h3:=of_decide_eq_true h1
   by_cases e2:y=z
   ·rw [if_neg (by rw [←e2];exact e1),←e2]
    exact h1
   ·rw [if_neg e2] at h2
    have h4:=of_decide_eq_true h2
    rw [if_neg (by omega)]
    exact decide_eq_true (by omega)
theorem lessL_total:∀ (a b:List Int),a≠b→lessL a b=true∨lessL b a=true
 | [],[],h=>absurd rfl h
 | [],_ :: _,_=>Or.inl rfl
 | _ :: _,[],_=>Or.inr rfl
 | x :: r,y :: t,h=>by
  simp only [lessL]
  by_cases e:x=y
  ·rw [if_pos e,if_pos e.symm]
   exact lessL_total r t fun h1=>h (by rw [e,h1])
  ·rw [if_neg e,if_neg fun h1=>e h1.symm]
   rcases Int.lt_or_gt_of_ne e with h1 | h1
   ·exact Or.inl (decide_eq_true h1)
   ·exact Or.inr (decide_eq_true h1)
theorem lessL_eq {a b:List Int} (h1:lessL a b=false) (h2:lessL b a=false):a=b :=
 Decidable.byContradiction fun e=>by
  rcases lessL_total a b e with h | h
  ·rw [h] at h1;cases h1
  ·rw [h] at h2;cases h2
theorem lessL_part:∀ (a b:List Int),a.length=b.length→lessL a b=true→∃ j,j<a.length∧(∀ i,i<j→a.getD i 0=b.getD i 0)∧a.getD j 0<b.getD j 0
 | [],[],_,h=>by simp [lessL] at h
 | [],_ :: _,h,_=>by simp at h
 | _ :: _,[],h,_=>by simp at h
 | x :: r,y :: t,hl,h=>by
  simp only [lessL] at h
  by_cases e:x=y
  ·rw [if_pos e] at h
   obtain ⟨j,h1,h2,h3⟩:=lessL_part r t (by simpa using hl) h
   refine ⟨j+1,by simpa using h1,fun i hi=>?_,by simpa using h3⟩
   cases i with
   | zero=>simpa using e
   | succ i=>simpa using h2 i (by omega)
  ·rw [if_neg e] at h
   exact ⟨0,by simp,fun i hi=>by omega,by simpa using of_decide_eq_true h⟩
theorem less_num {D:Nat→Dm} {n:Nat} {a b:List Int} (ha:InO D n a) (hb:InO D n b) (h:lessL a b=true):numI D a n<numI D b n:=by
 obtain ⟨j,hj,he,hlt⟩:=lessL_part a b (by rw [ha.len,hb.len]) h
 rw [ha.len] at hj
 have h1:∀ k,k≤j→numI D a k=numI D b k:=by
  intro k
  induction k with
  | zero=>intro _;rfl
  | succ k ih=>intro hk;rw [numI,numI,ih (by omega),he k (by omega)]
 have h2:∀ k,j<k→k≤n→numI D a k+1≤numI D b k:=by
  intro k
  induction k with
  | zero=>intro h;omega
  | succ k ih =>
   intro hjk hk
   rw [numI,numI]
   have a2:=ha.hi k (by omega)
   have b1:=hb.lo k (by omega)
   by_cases e:k=j
   ·rw [h1 k (by omega),e];omega
   ·have h3:=ih (by omega) (by omega)
    have h4:(numI D a k+1)*((D k).n:Int)≤numI D b k*((D k).n:Int):=Int.mul_le_mul_of_nonneg_right h3 (by omega)
    rw [Int.add_mul,Int.one_mul] at h4
    omega
 exact h2 n hj (Nat.le_refl _)
structure En where
 pl:List Int
 n:Int
def numOk (x:Int):Bool:=decide (-1000000≤x) && decide (x≤1000000)
def entOne (D:Nat→Dm) (n:Nat) (e:En):Int:=if shapeErr D n e.pl≠0 then shapeErr D n e.pl else if leafV D n e.pl=false then 6 else if numOk e.n=false then 1 else 0
def aheadOk:Option (List Int)→List Int→Bool
 | none,_=>true
 | some a,b=>lessL a b
def entFrom (D:Nat→Dm) (n:Nat):Option (List Int)→List En→Int
 | _,[]=>0
 | q,e :: r=>if entOne D n e≠0 then entOne D n e else if aheadOk q e.pl=true then entFrom D n (some e.pl) r else 7
def entsErr (D:Nat→Dm) (n:Nat) (l:List En):Int:=if (allErr D n).2.2≠0 then (allErr D n).2.2 else entFrom D n none l
structure Ens (D:Nat→Dm) (n:Nat) (l:List En):Prop where
 right:(allErr D n).2.2=0
 each:∀ e∈l,InO D n e.pl∧leafV D n e.pl=true∧numOk e.n=true
 rise:l.Pairwise fun a b=>lessL a.pl b.pl=true
theorem entOne_right {D:Nat→Dm} {n:Nat} {e:En} (hR:(allErr D n).2.2=0) (h:entOne D n e=0):InO D n e.pl∧leafV D n e.pl=true∧numOk e.n=true:=by
 unfold entOne at h
 split at h
 ·rename_i h1;exact absurd h h1
 ·split at h
  ·cases h
  ·split at h
   ·cases h
   ·rename_i h1 h2 h3
    exact ⟨inO_of (by rw [pe1 hR];simpa using h1),by simpa using h2,by simpa using h3⟩
theorem entFrom_right {D:Nat→Dm} {n:Nat} (hR:(allErr D n).2.2=0):∀ (l:List En) (q:Option (List Int)),entFrom D n q l=0→(∀ e∈l,InO D n e.pl∧leafV D n e.pl=true∧numOk e.n=true)∧(∀ a,q=some a→∀ e∈l,lessL a e.pl=true)∧l.Pairwise fun a b=>lessL a.pl b.pl=true
 | [],_,_=>⟨fun _ h=>(by cases h),fun _ _ _ h=>(by cases h),List.Pairwise.nil⟩
 | e :: r,q,h=>by
  rw [entFrom] at h
  by_cases h1:entOne D n e=0
  ·rw [if_neg (by simpa using h1)] at h
   have go:∀ (h2:entFrom D n (some e.pl) r=0) (h3:∀ a,q=some a→lessL a e.pl=true),(∀ x∈e :: r,InO D n x.pl∧leafV D n x.pl=true∧numOk x.n=true)∧(∀ a,q=some a→∀ x∈e :: r,lessL a x.pl=true)∧(e :: r).Pairwise fun a b=>lessL a.pl b.pl=true:=fun h2 h3=>by
    obtain ⟨g1,g2,g3⟩:=entFrom_right hR r _ h2
    refine ⟨fun x hx=>?_,fun a ha x hx=>?_,List.Pairwise.cons (fun x hx=>g2 _ rfl x hx) g3⟩
    ·rcases List.mem_cons.1 hx with rfl | hx
     ·exact entOne_right hR h1
     ·exact g1 x hx
    ·rcases List.mem_cons.1 hx with rfl | hx
     ·exact h3 a ha
     ·exact lessL_trans _ _ _ (h3 a ha) (g2 _ rfl x hx)
   split at h
   ·rename_i h4
    exact go h fun b hb=>by rw [hb] at h4;exact h4
   ·cases h
  ·rw [if_pos (by simpa using h1)] at h
   exact absurd h h1
theorem ens_of {D:Nat→Dm} {n:Nat} {l:List En} (h:entsErr D n l=0):Ens D n l:=by
 unfold entsErr at h
 split at h
 ·rename_i h1;exact absurd h h1
 ·rename_i h1
  have hR:(allErr D n).2.2=0:=by simpa using h1
  obtain ⟨g1,_,g3⟩:=entFrom_right hR l none h
  exact ⟨hR,g1,g3⟩
theorem Ens.few {D:Nat→Dm} {n:Nat} {l:List En} (h:Ens D n l):l.length≤3000:=by
 have hp:=(allErr_some h.right).2.2.1
 have key:∀ (m:List En) (lo:Int),(∀ e∈m,InO D n e.pl)→(m.Pairwise fun a b=>lessL a.pl b.pl=true)→(∀ e∈m,lo≤numI D e.pl n)→0≤lo→lo≤(prodN D n:Int)→lo+(m.length:Int)≤(prodN D n:Int):=by
  intro m
  induction m with
  | nil=>intro lo _ _ _ _ h5;simpa using h5
  | cons e r ih =>
   intro lo h1 h2 h3 h4 h5
   obtain ⟨h6,h7⟩:=List.pairwise_cons.1 h2
   have he:=h1 e (List.mem_cons_self ..)
   have h8:=h3 e (List.mem_cons_self ..)
   have h9:=(numI_bound he (Nat.le_refl n)).2.1
   have:=ih (numI D e.pl n+1) (fun x hx=>h1 x (List.mem_cons_of_mem _ hx)) h7 (fun x hx=>by have:=less_num he (h1 x (List.mem_cons_of_mem _ hx)) (h6 x hx);omega) (by omega) (by omega)
   rw [List.length_cons]
   omega
 have:=key l 0 (fun e he=>(h.each e he).1) h.rise (fun e he=>(numI_bound (h.each e he).1 (Nat.le_refl n)).1) (Int.le_refl _) (by omega)
 omega
def cntE (l:List En) (p:List Int):Nat:=(l.takeWhile fun e=>lessL e.pl p).length
def hasE (l:List En) (p:List Int):Bool:=match l.drop (cntE l p) with
 | []=>false
 | e :: _ => !lessL p e.pl
def getE (l:List En) (p:List Int):Int×Int:=match l.drop (cntE l p) with
 | []=>(0,0)
 | e :: _=>if lessL p e.pl=true then (0,0) else (1,e.n)
def setL (l:List En) (p:List Int) (x:Int):List En:=l.take (cntE l p) ++ ⟨p,x⟩ :: l.drop (cntE l p+(if hasE l p=true then 1 else 0))
theorem drop_while {α:Type} (q:α→Bool) (l:List α):l.drop (l.takeWhile q).length=l.dropWhile q:=by
 induction l with
 | nil=>rfl
 | cons x r ih =>
  by_cases h:q x=true
  ·rw [List.takeWhile_cons,List.dropWhile_cons,if_pos h,if_pos h,List.length_cons,List.drop_succ_cons,ih]
  ·rw [List.takeWhile_cons,List.dropWhile_cons,if_neg h,if_neg h];rfl
theorem take_while {α:Type} (q:α→Bool) (l:List α):l.take (l.takeWhile q).length=l.takeWhile q:=by
 induction l with
 | nil=>rfl
 | cons x r ih =>
  by_cases h:q x=true
  ·rw [List.takeWhile_cons,if_pos h,List.length_cons,List.take_succ_cons,ih]
  ·rw [List.takeWhile_cons,if_neg h];rfl
theorem mem_while {α:Type} {q:α→Bool} {l:List α} {x:α} (h:x∈l.takeWhile q):q x=true:=by
 induction l with
 | nil=>cases h
 | cons y r ih =>
  by_cases hy:q y=true
  ·rw [List.takeWhile_cons,if_pos hy] at h
   rcases List.mem_cons.1 h with rfl | h
   ·exact hy
   ·exact ih h
  ·rw [List.takeWhile_cons,if_neg hy] at h
   cases h
theorem head_while {α:Type} {q:α→Bool} {l r:List α} {x:α} (h:l.dropWhile q=x :: r):q x=false:=by
 induction l with
 | nil=>cases h
 | cons y t ih =>
  by_cases hy:q y=true
  ·rw [List.dropWhile_cons,if_pos hy] at h;exact ih h
  ·rw [List.dropWhile_cons,if_neg hy] at h
   cases h
   simpa using hy
theorem cut_rise {l:List En} (h:l.Pairwise fun a b=>lessL a.pl b.pl=true) (p:List Int) :
  ∃ A B,l.take (cntE l p)=A∧(∀ e∈A,lessL e.pl p=true)∧(∀ e∈B,lessL p e.pl=true) ∧
   ((hasE l p=false∧l.drop (cntE l p)=B∧l=A ++ B∧getE l p=(0,0))∨∃ x,hasE l p=true∧l.drop (cntE l p)=⟨p,x⟩ :: B∧l=A ++ ⟨p,x⟩ :: B∧getE l p=(1,x)):=by
 have e1:l.take (cntE l p)=l.takeWhile fun e=>lessL e.pl p:=take_while _ _
 have e2:l.drop (cntE l p)=l.dropWhile fun e=>lessL e.pl p:=drop_while _ _
 have e3:l.take (cntE l p) ++ l.drop (cntE l p)=l:=List.take_append_drop _ _
 have hA:∀ e∈l.take (cntE l p),lessL e.pl p=true:=fun e he=>by rw [e1] at he;exact mem_while (q:=fun e:En=>lessL e.pl p) he
 cases hd:l.drop (cntE l p) with
 | nil =>
  refine ⟨_,[],rfl,hA,fun _ h=>(by cases h),Or.inl ⟨?_,rfl,?_,?_⟩⟩
  ·unfold hasE;rw [hd]
  ·conv=>lhs;rw [←e3,hd]
  ·unfold getE;rw [hd]
 | cons x r =>
  have hx:lessL x.pl p=false:=by rw [e2] at hd;exact head_while (q:=fun e:En=>lessL e.pl p) hd
  have hpw:(x :: r).Pairwise fun a b=>lessL a.pl b.pl=true:=by rw [←hd];exact h.sublist (List.drop_sublist _ _)
  obtain ⟨h4,_⟩:=List.pairwise_cons.1 hpw
  by_cases hl:lessL p x.pl=true
  ·refine ⟨_,x :: r,rfl,hA,fun e he=>?_,Or.inl ⟨?_,rfl,?_,?_⟩⟩
   ·rcases List.mem_cons.1 he with rfl | he
    ·exact hl
    ·exact lessL_trans _ _ _ hl (h4 e he)
   ·unfold hasE;rw [hd];simp [hl]
   ·conv=>lhs;rw [←e3,hd]
   ·unfold getE;rw [hd];simp [hl]
  ·have hl':lessL p x.pl=false:=by simpa using hl
   have hp:x.pl=p:=lessL_eq hx hl'
   have hxe:x=⟨p,x.n⟩:=by cases x;simp at hp ⊢;exact hp
   refine ⟨_,r,rfl,hA,fun e he=>by rw [←hp];exact h4 e he,Or.inr ⟨x.n,?_,?_,?_,?_⟩⟩
   ·unfold hasE;rw [hd];simp [hl']
   ·rw [←hxe]
   ·conv=>lhs;rw [←e3,hd]
    rw [←hxe]
   ·unfold getE;rw [hd];simp [hl']
theorem get_mem {l:List En} (h:l.Pairwise fun a b=>lessL a.pl b.pl=true) {e:En} (he:e∈l):getE l e.pl=(1,e.n):=by
 obtain ⟨A,B,_,hA,hB,⟨_,_,h2,_⟩ | ⟨x,_,_,h2,h3⟩⟩:=cut_rise h e.pl
 ·rw [h2] at he
  rcases List.mem_append.1 he with h4 | h4
  ·have:=hA e h4;rw [lessL_self] at this;cases this
  ·have:=hB e h4;rw [lessL_self] at this;cases this
 ·rw [h3]
  have h4:e=⟨e.pl,x⟩:=by
   rw [h2] at he
   rcases List.mem_append.1 he with h4 | h4
   ·have:=hA e h4;rw [lessL_self] at this;cases this
   ·rcases List.mem_cons.1 h4 with h5 | h5
    ·exact h5
    ·have:=hB e h5;rw [lessL_self] at this;cases this
  rw [h4]
theorem get_none {l:List En} (h:l.Pairwise fun a b=>lessL a.pl b.pl=true) {p:List Int} (hp:∀ e∈l,e.pl≠p):getE l p=(0,0)∧hasE l p=false:=by
 obtain ⟨A,B,_,_,_,⟨h1,_,_,h3⟩ | ⟨x,_,_,h2,_⟩⟩:=cut_rise h p
 ·exact ⟨h3,h1⟩
 ·exact absurd rfl (hp ⟨p,x⟩ (by rw [h2];simp))
end Go.Proofs.YtigkeokacagabafGreatDoor
namespace Go.Proofs.YtigkeokacagabafGreatDoor
open Go Go.ChangeShapes Go.WideShapes Go.ChangeAt Go.RowKit Go.Deep
set_option maxRecDepth 100000
structure EnL where
 e:En
 A:Option Addr
 c:Nat
def noEn:En:=⟨[],0⟩
def noL:EnL:=⟨noEn,none,0⟩
def lE (xs:List EnL):List En:=xs.map EnL.e
theorem lE_len (xs:List EnL):(lE xs).length=xs.length:=by simp [lE]
theorem lE_at (xs:List EnL) (k:Nat):(lE xs).getD k noEn=(xs.getD k noL).e:=by
 rw [List.getD_eq_getElem?_getD,List.getD_eq_getElem?_getD,lE,List.getElem?_map]
 cases xs[k]? <;> rfl
def cellsE:List EnL→List Value
 | []=>[]
 | x :: r=>.slice x.A x.e.pl.length x.c :: .int .i64 x.e.n :: cellsE r
theorem cellsE_len (xs:List EnL):(cellsE xs).length=xs.length*2:=by
 induction xs with
 | nil=>rfl
 | cons x r ih=>simp [cellsE,ih];omega
theorem cellsE_at (xs:List EnL):∀ k,k<xs.length→(cellsE xs)[k*2]?=some (.slice (xs.getD k noL).A (xs.getD k noL).e.pl.length (xs.getD k noL).c)∧(cellsE xs)[k*2+1]?=some (.int .i64 (xs.getD k noL).e.n):=by
 induction xs with
 | nil=>intro k hk;cases hk
 | cons x r ih =>
  intro k hk
  cases k with
  | zero=>simp [cellsE]
  | succ k =>
   rw [show (k+1)*2=k*2+1+1 by omega]
   simp only [cellsE,List.getElem?_cons_succ,List.getD_cons_succ]
   exact ih k (by simpa using hk)
theorem enl_mem {xs:List EnL} {k:Nat} (h:k<xs.length):xs.getD k noL∈xs:=by
 rw [List.getD_eq_getElem?_getD,List.getElem?_eq_getElem h]
 exact List.getElem_mem h
def EnsAt (w:World) (b o:Nat) (xs:List EnL):Prop:=b<w.heap.size∧(∀ j u,(cellsE xs)[j]?=some u→w.cell? ⟨b,o+j,none⟩=some u)∧∀ x∈xs,PlAt w x.A x.c x.e.pl
theorem EnsAt.later {w w':World} {b o:Nat} {xs:List EnL} (h:EnsAt w b o xs) (hB:Below w.heap.size w w'):EnsAt w' b o xs :=
 ⟨Nat.lt_of_lt_of_le h.1 hB.size,fun j u hj=>(hB.cell (p:=⟨b,o+j,none⟩) h.1).trans (h.2.1 j u hj),fun x hx=>(h.2.2 x hx).later hB⟩
theorem EnsAt.pl {w:World} {b o:Nat} {xs:List EnL} (h:EnsAt w b o xs) {k:Nat} (hk:k<xs.length):PlAt w (xs.getD k noL).A (xs.getD k noL).c (xs.getD k noL).e.pl:=h.2.2 _ (enl_mem hk)
theorem EnsAt.at {w:World} {b o:Nat} {xs:List EnL} (h:EnsAt w b o xs) {k:Nat} (hk:k<xs.length):w.cell? ⟨b,o+k*2,none⟩=some (.slice (xs.getD k noL).A (xs.getD k noL).e.pl.length (xs.getD k noL).c)∧w.cell? ⟨b,o+k*2+1,none⟩=some (.int .i64 (xs.getD k noL).e.n):=by
 obtain ⟨h1,h2⟩:=cellsE_at xs k hk
 exact ⟨h.2.1 _ _ h1,by rw [Nat.add_assoc];exact h.2.1 _ _ h2⟩
def EnsV (w:World) (A:Option Addr) (cap:Nat) (xs:List EnL):Prop:=xs.length≤cap∧cap≤9223372036854775807∧(xs=[]∨∃ b o,A=some ⟨b,o,none⟩∧EnsAt w b o xs)
theorem EnsV.later {w w':World} {A:Option Addr} {cap:Nat} {xs:List EnL} (h:EnsV w A cap xs) (hB:Below w.heap.size w w'):EnsV w' A cap xs:=by
 obtain ⟨h1,h0,h2 | ⟨b,o,h2,h3⟩⟩:=h
 ·exact ⟨h1,h0,Or.inl h2⟩
 ·exact ⟨h1,h0,Or.inr ⟨b,o,h2,h3.later hB⟩⟩
section
variable {H:Type} {enc:TypeId×Value→H} {w:World} {held:Bool}
theorem cellsEn:Tryz.prog.cellsOf 57=2:=by kernel_rfl
theorem open_pl {fuel:Nat} {cs:List Value} {x:DataW H×List MemPlace} (h:DataW.trod enc Tryz.prog w 0 (fun _=>true) held fuel 44 cs=some x) :
  ∃ (Ap:Option Addr) (cp:Nat) (L:List Int),cs=[.slice Ap L.length cp]∧PlAt w Ap cp L:=by
 rcases open_ints Tryz.underlying44 Tryz.underlying3 (by kernel_rfl) h with ⟨rfl,_⟩ | ⟨a',len,cap,zs,rfl,_,hl,_,hzl,_,hc,_⟩
 ·exact ⟨none,0,[],rfl,PlAt.nil _ _ _⟩
 ·simp at hzl
  have hlen:(zs.take len).length=len:=by simp;omega
  refine ⟨some a',cap,zs.take len,by rw [hlen],by rw [hlen];exact hl,?_⟩
  rcases Nat.eq_zero_or_pos len with h0 | h0
  ·left
   subst h0
   simp
  right
  have c0:=hc 0 (by omega)
  have hp:=addr_plain c0 rfl
  have hb:=World.block_lt_of_cell? _ _ c0
  refine ⟨a'.block,a'.off,by rw [←hp],by simpa [Addr.add] using hb,fun j hj=>?_⟩
  rw [hlen] at hj
  have:=hc j (by omega)
  rw [hp,plain_add] at this
  rw [this]
  simp [List.getD,hj]
theorem open_en {fuel:Nat} {cs:List Value} {x:DataW H×List MemPlace} (h:DataW.trod enc Tryz.prog w 0 (fun _=>true) held fuel 57 cs=some x) :
  ∃ (e:En) (A:Option Addr) (c:Nat),cs=[.slice A e.pl.length c,.int .i64 e.n]∧PlAt w A c e.pl:=by
 obtain ⟨hl,n,hf⟩:=trod_one Tryz.underlying57 (by kernel_rfl) h
 rw [cellsEn] at hl
 match cs,hl with
 | [v0,v1],_ =>
  obtain ⟨y0,h0⟩:=hf 0 _ v0 rfl rfl
  obtain ⟨y1,h1⟩:=hf 1 _ v1 rfl rfl
  obtain ⟨A,c,L,e0,hP⟩:=open_pl h0
  obtain ⟨n1,e1,-,-⟩:=DataW.trod_int Tryz.underlying3 h1
  simp at e0 e1
  exact ⟨⟨L,n1⟩,A,c,by rw [e0,e1],hP⟩
theorem cells_of_each {b o:Nat} {xs:List EnL} (h:∀ i,i<xs.length→w.cell? ⟨b,o+i*2,none⟩=some (.slice (xs.getD i noL).A (xs.getD i noL).e.pl.length (xs.getD i noL).c)∧w.cell? ⟨b,o+i*2+1,none⟩=some (.int .i64 (xs.getD i noL).e.n)):∀ j u,(cellsE xs)[j]?=some u→w.cell? ⟨b,o+j,none⟩=some u:=by
 intro j u hj
 have hlt:j<(cellsE xs).length:=(List.getElem?_eq_some_iff.1 hj).1
 rw [cellsE_len] at hlt
 have hk:j / 2<xs.length:=by omega
 obtain ⟨h1,h2⟩:=cellsE_at xs _ hk
 obtain ⟨c1,c2⟩:=h _ hk
 rcases Nat.mod_two_eq_zero_or_one j with hm | hm
 ·have e:j=j / 2*2:=by omega
  rw [e] at hj ⊢
  rw [h1] at hj
  rw [c1]
  exact hj
 ·have e:j=j / 2*2+1:=by omega
  rw [e] at hj ⊢
  rw [h2] at hj
  rw [←Nat.add_assoc,c2]
  exact hj
theorem open_ens {r:Reach} {b0:Nat} {v:Value} {d:DataW H} {p:List MemPlace} (hv:Value.okWide Tryz.prog w r b0 43 v) (h:DataW.Trod enc Tryz.prog w 0 (fun _=>true) held 43 v d p) :
  ∃ (A:Option Addr) (cap:Nat) (xs:List EnL),v=.slice A xs.length cap∧EnsV w A cap xs:=by
 obtain ⟨a0,len0,cap0,rfl⟩:=okWide_slice Tryz.underlying43 hv
 obtain ⟨fuel,hf⟩:=h
 have hf':DataW.trod enc Tryz.prog w 0 (fun _=>true) held fuel 43 [.slice a0 len0 cap0]=some (d,p):=hf
 rcases open_slice Tryz.underlying43 hf' with ⟨e,-⟩ | ⟨a,len,cap,m,n,D,Pl,e,-,hl,hcm,hm,-,hx⟩
 ·simp at e
  obtain ⟨rfl,rfl,rfl⟩:=e
  exact ⟨none,0,[],rfl,Nat.le_refl _,Nat.zero_le _,Or.inl rfl⟩
 simp at e
 obtain ⟨rfl,rfl,rfl⟩:=e
 rw [cellsEn] at hx
 simp at hm
 subst hm
 haveI:Inhabited EnL:=⟨noL⟩
 have each:∀ i,i<len0→∃ y:EnL,w.cells? 0 (a.add (i*2)) 2=some [.slice y.A y.e.pl.length y.c,.int .i64 y.e.n]∧PlAt w y.A y.c y.e.pl:=fun i hi=>by
  obtain ⟨cs',h1,h2⟩:=hx i (by omega)
  obtain ⟨e,A,c,rfl,hp⟩:=open_en h2
  exact ⟨⟨e,A,c⟩,h1,hp⟩
 obtain ⟨Y,hY⟩:=choose_lt each
 have hlen:((List.range len0).map Y).length=len0:=by simp
 have hg:∀ i,i<len0→((List.range len0).map Y).getD i noL=Y i:=fun i hi=>by simp [List.getD,hi]
 refine ⟨some a,_,(List.range len0).map Y,by rw [hlen],by rw [hlen];exact hl,hcm,?_⟩
 rcases Nat.eq_zero_or_pos len0 with h0 | h0
 ·left;subst h0;rfl
 right
 have c0:=(World.cells?_some (hY 0 h0).1).2.2 0 (by omega)
 rw [add_add] at c0
 have hp:=addr_plain c0 (by omega)
 have hb:=World.block_lt_of_cell? _ _ c0
 refine ⟨a.block,a.off,by rw [←hp],by simpa [Addr.add] using hb,cells_of_each fun i hi=>?_,fun x hx=>?_⟩
 ·rw [hlen] at hi
  have hc:=(World.cells?_some (hY i hi).1).2.2
  rw [hp] at hc
  simp only [plain_add,Nat.add_assoc] at hc
  rw [hg i hi]
  refine ⟨?_,?_⟩
  ·have:=hc 0 (by omega);simpa using this
  ·have:=hc 1 (by omega);simpa [Nat.add_assoc] using this
 ·simp only [List.mem_map,List.mem_range] at hx
  obtain ⟨i,hi,rfl⟩:=hx
  exact (hY i hi).2
end
end Go.Proofs.YtigkeokacagabafGreatDoor
namespace Go.Proofs.YtigkeokacagabafGreatDoor
def cmpL:List Int→List Int→Int
 | [],[]=>0
 | [],_ :: _ => -1
 | _ :: _,[]=>1
 | a :: r,b :: t=>if a<b then -1 else if b<a then 1 else cmpL r t
theorem cmpL_three:∀ a b:List Int,(cmpL a b = -1∧lessL a b=true∧a≠b)∨(cmpL a b=0∧lessL a b=false∧a=b)∨(cmpL a b=1∧lessL a b=false∧a≠b)
 | [],[]=>Or.inr (Or.inl ⟨rfl,rfl,rfl⟩)
 | [],_ :: _=>Or.inl ⟨rfl,rfl,by simp⟩
 | _ :: _,[]=>Or.inr (Or.inr ⟨rfl,rfl,by simp⟩)
 | a :: r,b :: t=>by
  simp only [cmpL,lessL]
  by_cases h1:a<b
  ·rw [if_pos h1,if_neg (by omega)]
   exact Or.inl ⟨rfl,decide_eq_true h1,by simp;omega⟩
  ·rw [if_neg h1]
   by_cases h2:b<a
   ·rw [if_pos h2,if_neg (by omega)]
    exact Or.inr (Or.inr ⟨rfl,decide_eq_false h1,by simp;omega⟩)
   ·have h3:a=b:=by omega
    rw [if_neg h2,if_pos h3]
    subst h3
    rcases cmpL_three r t with ⟨e1,e2,e3⟩ | ⟨e1,e2,e3⟩ | ⟨e1,e2,e3⟩
    ·exact Or.inl ⟨e1,e2,by simpa using e3⟩
    ·exact Or.inr (Or.inl ⟨e1,e2,by rw [e3]⟩)
    ·exact Or.inr (Or.inr ⟨e1,e2,by simpa using e3⟩)
theorem cmpL_nonneg (a b:List Int):decide (0≤cmpL a b) = !lessL a b:=by
 rcases cmpL_three a b with ⟨e1,e2,_⟩ | ⟨e1,e2,_⟩ | ⟨e1,e2,_⟩ <;> rw [e1,e2] <;> rfl
theorem dropI_at (l:List Int) {k:Nat} (h:k<l.length):l.drop k=l.getD k 0 :: l.drop (k+1):=by
 rw [List.drop_eq_getElem_cons h,List.getD_eq_getElem?_getD,List.getElem?_eq_getElem h]
 rfl
theorem cmpL_in {a b:List Int} {k:Nat} (h1:k<a.length) (h2:k<b.length):cmpL (a.drop k) (b.drop k)=if a.getD k 0<b.getD k 0 then -1 else if b.getD k 0<a.getD k 0 then 1 else cmpL (a.drop (k+1)) (b.drop (k+1)):=by
 rw [dropI_at a h1,dropI_at b h2,cmpL]
theorem cmpL_long {a b:List Int} {k:Nat} (h1:k<a.length) (h2:b.length≤k):cmpL (a.drop k) (b.drop k)=1:=by
 rw [dropI_at a h1,List.drop_eq_nil_of_le h2];rfl
theorem cmpL_short {a b:List Int} {k:Nat} (h1:a.length≤k) (h2:k<b.length):cmpL (a.drop k) (b.drop k) = -1:=by
 rw [dropI_at b h2,List.drop_eq_nil_of_le h1];rfl
theorem cmpL_end {a b:List Int} {k:Nat} (h1:a.length≤k) (h2:b.length≤k):cmpL (a.drop k) (b.drop k)=0:=by
 rw [List.drop_eq_nil_of_le h1,List.drop_eq_nil_of_le h2];rfl
theorem lessL_in {a b:List Int} {k:Nat} (h1:k<a.length) (h2:k<b.length):lessL (a.drop k) (b.drop k)=if a.getD k 0=b.getD k 0 then lessL (a.drop (k+1)) (b.drop (k+1)) else decide (a.getD k 0<b.getD k 0):=by
 rw [dropI_at a h1,dropI_at b h2,lessL]
theorem lessL_long {a b:List Int} {k:Nat} (h2:b.length≤k):lessL (a.drop k) (b.drop k)=false:=by
 rw [List.drop_eq_nil_of_le h2]
 cases a.drop k <;> rfl
theorem lessL_short {a b:List Int} {k:Nat} (h1:a.length≤k) (h2:k<b.length):lessL (a.drop k) (b.drop k)=true:=by
 rw [dropI_at b h2,List.drop_eq_nil_of_le h1];rfl
theorem drop_en (l:List En) {k:Nat} (h:k<l.length):l.drop k=l.getD k noEn :: l.drop (k+1):=by
 rw [List.drop_eq_getElem_cons h,List.getD_eq_getElem?_getD,List.getElem?_eq_getElem h]
 rfl
theorem cnt_at:∀ (l:List En) (p:List Int) (i:Nat),i≤l.length→(∀ t,t<i→lessL (l.getD t noEn).pl p=true)→(i<l.length→lessL (l.getD i noEn).pl p=false)→cntE l p=i
 | [],p,i,hi,_,_=>by simp at hi;subst hi;rfl
 | e :: r,p,0,_,_,h2=>by
  have h3:=h2 (by simp)
  simp at h3
  simp [cntE,h3]
 | e :: r,p,i+1,hi,h1,h2=>by
  have h3:=h1 0 (by omega)
  simp at h3
  have h4:=cnt_at r p i (by simpa using hi) (fun t ht=>by simpa using h1 (t+1) (by omega)) (fun ht=>by simpa using h2 (by simpa using ht))
  unfold cntE at h4 ⊢
  rw [List.takeWhile_cons,if_pos h3,List.length_cons,h4]
theorem has_in {l:List En} {p:List Int} {i:Nat} (h:cntE l p=i) (hi:i<l.length):hasE l p = !lessL p (l.getD i noEn).pl∧getE l p=if lessL p (l.getD i noEn).pl=true then (0,0) else (1,(l.getD i noEn).n):=by
 have e:l.drop (cntE l p)=l.getD i noEn :: l.drop (i+1):=by rw [h,drop_en l hi]
 unfold hasE getE
 rw [e]
 exact ⟨rfl,rfl⟩
theorem has_out {l:List En} {p:List Int} {i:Nat} (h:cntE l p=i) (hi:l.length≤i):hasE l p=false∧getE l p=(0,0):=by
 have e:l.drop (cntE l p)=[]:=by rw [h,List.drop_eq_nil_of_le hi]
 unfold hasE getE
 rw [e]
 exact ⟨rfl,rfl⟩
theorem has_cmp {l:List En} {p:List Int} {i:Nat} (h:cntE l p=i) (hi:i<l.length):decide (cmpL (l.getD i noEn).pl p=0)=hasE l p:=by
 have h1:lessL (l.getD i noEn).pl p=false:=by
  have e:l.dropWhile (fun e=>lessL e.pl p)=l.getD i noEn :: l.drop (i+1):=by rw [←drop_while];show l.drop (cntE l p)=_;rw [h,drop_en l hi]
  exact head_while (q:=fun e:En=>lessL e.pl p) e
 rw [(has_in h hi).1]
 rcases cmpL_three (l.getD i noEn).pl p with ⟨_,e2,_⟩ | ⟨e1,_,e3⟩ | ⟨e1,_,e3⟩
 ·rw [e2] at h1;cases h1
 ·rw [e1,e3,lessL_self];rfl
 ·rw [e1]
  rcases lessL_total _ _ e3 with h2 | h2
  ·rw [h2] at h1;cases h1
  ·rw [h2];rfl
def qOf (l:List En):Nat→Option (List Int)
 | 0=>none
 | k+1=>some (l.getD k noEn).pl
theorem ent_step {D:Nat→Dm} {n:Nat} {l:List En} {k:Nat} (h:k<l.length):entFrom D n (qOf l k) (l.drop k)=if entOne D n (l.getD k noEn)≠0 then entOne D n (l.getD k noEn) else if aheadOk (qOf l k) (l.getD k noEn).pl=true then entFrom D n (qOf l (k+1)) (l.drop (k+1)) else 7:=by
 rw [drop_en l h,entFrom]
 rfl
theorem ent_bad {D:Nat→Dm} {n:Nat} {l:List En} {k:Nat} (h:k<l.length) (he:entOne D n (l.getD k noEn)≠0):entFrom D n (qOf l k) (l.drop k)=entOne D n (l.getD k noEn):=by rw [ent_step h,if_pos he]
theorem ent_clash {D:Nat→Dm} {n:Nat} {l:List En} {k:Nat} (h:k<l.length) (he:entOne D n (l.getD k noEn)=0) (hq:aheadOk (qOf l k) (l.getD k noEn).pl=false):entFrom D n (qOf l k) (l.drop k)=7:=by rw [ent_step h,if_neg (by simpa using he),if_neg (by rw [hq];decide)]
theorem ent_on {D:Nat→Dm} {n:Nat} {l:List En} {k:Nat} (h:k<l.length) (he:entOne D n (l.getD k noEn)=0) (hq:aheadOk (qOf l k) (l.getD k noEn).pl=true):entFrom D n (qOf l k) (l.drop k)=entFrom D n (qOf l (k+1)) (l.drop (k+1)):=by rw [ent_step h,if_neg (by simpa using he),if_pos hq]
theorem ent_end {D:Nat→Dm} {n:Nat} {l:List En} {k:Nat} (h:l.length≤k):entFrom D n (qOf l k) (l.drop k)=0:=by
 rw [List.drop_eq_nil_of_le h]
 cases qOf l k <;> rfl
theorem ents_bad {D:Nat→Dm} {n:Nat} (l:List En) (h:(allErr D n).2.2≠0):entsErr D n l=(allErr D n).2.2:=by unfold entsErr;rw [if_pos h]
theorem ents_in {D:Nat→Dm} {n:Nat} (l:List En) (h:(allErr D n).2.2=0):entsErr D n l=entFrom D n (qOf l 0) (l.drop 0):=by unfold entsErr;rw [if_neg (by simpa using h)];rfl
theorem one_place {D:Nat→Dm} {n:Nat} {e:En} (hR:(allErr D n).2.2=0) (h:placeErr D n e.pl≠0):entOne D n e=placeErr D n e.pl:=by
 rw [pe1 hR] at h ⊢
 unfold entOne
 rw [if_pos h]
theorem one_leaf {D:Nat→Dm} {n:Nat} {e:En} (hR:(allErr D n).2.2=0) (h:placeErr D n e.pl=0) (hf:leafV D n e.pl=false):entOne D n e=6:=by
 rw [pe1 hR] at h
 unfold entOne
 rw [if_neg (by simpa using h),if_pos hf]
theorem one_num {D:Nat→Dm} {n:Nat} {e:En} (hR:(allErr D n).2.2=0) (h:placeErr D n e.pl=0) (hf:leafV D n e.pl=true):entOne D n e=if numOk e.n=false then 1 else 0:=by
 rw [pe1 hR] at h
 unfold entOne
 rw [if_neg (by simpa using h),if_neg (by simp [hf])]
end Go.Proofs.YtigkeokacagabafGreatDoor
namespace Go.Proofs.YtigkeokacagabafGreatDoor
open Go Go.ChangeShapes Go.WideShapes Go.ChangeAt Go.RowKit
set_option maxRecDepth 20000
theorem grown_below {w w':World} {r:Option Nat} (h:Below w.heap.size w w'):w.grownBy w' r:=⟨h.os,h.tape,h.output,h.size,fun i hi _=>h.block i hi⟩
theorem grown_drew {w w':World} {r:Option Nat} (h:w.grownBy w' r):w.grownBy w'.drew r:=⟨h.os,h.tape,h.output,h.size,h.block⟩
theorem grown_refl (w:World) (r:Option Nat):w.grownBy w r:=⟨rfl,rfl,rfl,Nat.le_refl _,fun _ _ _=>rfl⟩
def PlTy (w:World) (A:Option Addr) (c:Nat) (L:List Int):Prop:=L.length≤c∧(L=[]∨∃ b o cs fr,A=some ⟨b,o,none⟩∧w.heap[b]?=some (.cells cs 3 fr)∧∀ j,j<L.length→w.cell? ⟨b,o+j,none⟩=some (.int .i64 (L.getD j 0)))
theorem PlTy.pl {w:World} {A:Option Addr} {c:Nat} {L:List Int} (h:PlTy w A c L):PlAt w A c L:=by
 obtain ⟨h1,h2 | ⟨b,o,cs,fr,h2,h3,h4⟩⟩:=h
 ·exact ⟨h1,Or.inl h2⟩
 ·exact ⟨h1,Or.inr ⟨b,o,h2,(Array.getElem?_eq_some_iff.1 h3).1,h4⟩⟩
theorem PlTy.later {w w':World} {A:Option Addr} {c:Nat} {L:List Int} (h:PlTy w A c L) (hB:Below w.heap.size w w'):PlTy w' A c L:=by
 obtain ⟨h1,h2 | ⟨b,o,cs,fr',h2,h3,h4⟩⟩:=h
 ·exact ⟨h1,Or.inl h2⟩
 ·have hb:w'.heap[b]?=w.heap[b]?:=hB.block b (Array.getElem?_eq_some_iff.1 h3).1
  exact ⟨h1,Or.inr ⟨b,o,cs,fr',h2,hb.trans h3,fun j hj=>(World.cell?_of_block (a:=⟨b,o+j,none⟩) hb).trans (h4 j hj)⟩⟩
variable {P:Program}
end Go.Proofs.YtigkeokacagabafGreatDoor
namespace Go.Proofs.YtigkeokacagabafGreatDoor
open Go.ChangeShapes Go.WideShapes Go.ChangeAt Go.RowKit
set_option maxRecDepth 20000
theorem pair_set {w:World} {q:Nat} {x y a b:Value} {T:Nat} (h:w.heap[q]?=some (.cells #[x,y] T)):((w.setCell ⟨q,0,none⟩ a).setCell ⟨q,1,none⟩ b).heap[q]?=some (.cells #[a,b] T):=by
 simp [World.setCell,Array.getElem?_modify,h]
theorem pair_grown {w w':World} {q:Nat} {a b:Value} (h:w.grownBy w' (some q)):w.grownBy ((w'.setCell ⟨q,0,none⟩ a).setCell ⟨q,1,none⟩ b) (some q) :=
 ⟨h.os,h.tape,h.output,by simpa [World.setCell] using h.size,fun i hi hr=>(Below.heap_setCell _ ⟨q,1,none⟩ b i fun e=>hr (by rw [e])).trans ((Below.heap_setCell w' ⟨q,0,none⟩ a i fun e=>hr (by rw [e])).trans (h.block i hi hr))⟩
theorem grown_then {w w1 w2:World} {r:Option Nat} (h:w.grownBy w1 r) (k:Below w1.heap.size w1 w2):w.grownBy w2 r :=
 ⟨k.os.trans h.os,k.tape.trans h.tape,k.output.trans h.output,Nat.le_trans h.size k.size,fun i hi hr=>(k.block i (Nat.lt_of_lt_of_le hi h.size)).trans (h.block i hi hr)⟩
theorem pair_at {w:World} {q:Nat} {x y:Value} {T:Nat} (h:w.heap[q]?=some (.cells #[x,y] T)):w.cell? ⟨q,0,none⟩=some x∧w.cell? ⟨q,1,none⟩=some y∧w.frozen? ⟨q,0,none⟩=false∧w.frozen? ⟨q,1,none⟩=false :=
 ⟨by rw [Lib.cell_of_heap h];rfl,by rw [Lib.cell_of_heap h];rfl,Lib.frozen_of_heap h 0,Lib.frozen_of_heap h 1⟩
theorem take_part {M:Nat→Mem} {at':Int→Int×Int} {P:List Int} {k:Nat} (h:k<P.length):(P.take (k+1)).foldl (partStep M at') (0,0)=partStep M at' ((P.take k).foldl (partStep M at') (0,0)) (P.getD k 0):=by
 rw [List.take_succ_eq_append_getElem h,List.foldl_append,List.getD_eq_getElem?_getD,List.getElem?_eq_getElem h]
 rfl
def BoxD (w:World) (q:Nat) (d:Dm) (A:Option Addr) (c:Nat):Prop:=q<w.heap.size∧w.cell? ⟨q,0,none⟩=some (.string d.name)∧w.cell? ⟨q,1,none⟩=some (.int .i64 d.solve)∧w.cell? ⟨q,2,none⟩=some (.slice A d.n c)
def BoxN (w:World) (q:Nat) (v:Value):Prop:=q<w.heap.size∧w.cell? ⟨q,0,none⟩=some v
theorem BoxD.same {w w':World} {q:Nat} {d:Dm} {A:Option Addr} {c:Nat} (h:BoxD w q d A c) (hz:w.heap.size≤w'.heap.size) (hb:w'.heap[q]?=w.heap[q]?):BoxD w' q d A c :=
 ⟨Nat.lt_of_lt_of_le h.1 hz,(World.cell?_of_block (a:=⟨q,0,none⟩) hb).trans h.2.1,(World.cell?_of_block (a:=⟨q,1,none⟩) hb).trans h.2.2.1,(World.cell?_of_block (a:=⟨q,2,none⟩) hb).trans h.2.2.2⟩
theorem BoxN.same {w w':World} {q:Nat} {v:Value} (h:BoxN w q v) (hz:w.heap.size≤w'.heap.size) (hb:w'.heap[q]?=w.heap[q]?):BoxN w' q v :=
 ⟨Nat.lt_of_lt_of_le h.1 hz,(World.cell?_of_block (a:=⟨q,0,none⟩) hb).trans h.2⟩
theorem BoxD.later {w w':World} {q:Nat} {d:Dm} {A:Option Addr} {c:Nat} (h:BoxD w q d A c) (hB:Below w.heap.size w w'):BoxD w' q d A c:=h.same hB.size (hB.block q h.1)
theorem BoxN.later {w w':World} {q:Nat} {v:Value} (h:BoxN w q v) (hB:Below w.heap.size w w'):BoxN w' q v:=h.same hB.size (hB.block q h.1)
theorem cel_grown {w w':World} {g i j:Nat} {a b:Value} (h:w.grownBy w' (some g)):w.grownBy ((w'.setCell ⟨g,i,none⟩ a).setCell ⟨g,j,none⟩ b) (some g) :=
 ⟨h.os,h.tape,h.output,by simpa [World.setCell] using h.size,fun k hk hr=>(Below.heap_setCell _ ⟨g,j,none⟩ b k fun e=>hr (by rw [e])).trans ((Below.heap_setCell w' ⟨g,i,none⟩ a k fun e=>hr (by rw [e])).trans (h.block k hk hr))⟩
theorem ints_other {w w':World} {b g c:Nat} {X:List Int} (h:IntsAt w (some ⟨b,0,none⟩) c X) (hne:b≠g) (hG:w.grownBy w' (some g)):IntsAt w' (some ⟨b,0,none⟩) c X:=by
 obtain ⟨h1,h2 | ⟨b',h2,h3,h4⟩⟩:=h
 ·exact ⟨h1,Or.inl h2⟩
 ·cases h2
  exact ⟨h1,Or.inr ⟨b,rfl,Nat.lt_of_lt_of_le h3 hG.size,fun j hj=>(World.cell?_of_block (a:=⟨b,j,none⟩) (hG.block b h3 fun e=>hne (by simpa using e))).trans (h4 j hj)⟩⟩
theorem boxn_other {w w':World} {q g:Nat} {v:Value} (h:BoxN w q v) (hne:q≠g) (hG:w.grownBy w' (some g)):BoxN w' q v:=h.same hG.size (hG.block q h.1 fun e=>hne (by simpa using e))
theorem boxd_other {w w':World} {q g:Nat} {d:Dm} {A:Option Addr} {c:Nat} (h:BoxD w q d A c) (hne:q≠g) (hG:w.grownBy w' (some g)):BoxD w' q d A c:=h.same hG.size (hG.block q h.1 fun e=>hne (by simpa using e))
set_option maxHeartbeats 4000000 in
theorem samecells_any (A B:Option Addr) (ca cb:Nat) (L:List (Int×Int)) (w:World) (hn:L.length≤3000) (hA:CelV w A ca L) (hB:CelV w B cb L):Calls Tryz.prog 26 #[.slice A L.length ca,.slice B L.length cb] w fun e w'=>e=.returned (.bool true)∧Below w.heap.size w w':=by
 have HA:Hid (CelV w A ca L):=hA
 have HB:Hid (CelV w B cb L):=hB
 obtain ⟨N,hN⟩:∃ N,L.length=N:=⟨_,rfl⟩
 have HN:Hid (L.length=N):=hN
 rw [hN] at hn ⊢
 have hn':(N:Int)≤3000:=by omega
 have hne:((N:Int) != (N:Int))=false:=by simp
 clear hA hB hN
 go_enter Tryz.func26,Tryz.ntmps26
 go_wp2_with fail
 go_loopg [5] N (fun g s5 wr => ∃ (k:Nat),k≤N∧g=N-k∧s5=.int .i64 k∧Below w.heap.size w wr)
 case atStart=>exact ⟨0,Nat.zero_le _,rfl,rfl,Below.refl _ _⟩
 case round =>
  obtain ⟨k,hk,rfl,rfl,hBw⟩:=hrel
  have HW:Hid (Below w.heap.size w wr):=hBw
  by_cases hlt:k<N
  ·have hki:(k:Int)<(N:Int):=by omega
   have hkL:k<L.length:=by rw [HN.out];exact hlt
   obtain ⟨hca,-,h0 | ⟨b1,o1,rfl,hA⟩⟩:=HA.out.later hBw
   ·rw [h0] at hkL;simp at hkL
   obtain ⟨hcb,-,h0 | ⟨b2,o2,rfl,hB⟩⟩:=HB.out.later hBw
   ·rw [h0] at hkL;simp at hkL
   obtain ⟨a1,a2⟩:=hA.2 k hkL
   obtain ⟨b1',b2'⟩:=hB.2 k hkL
   rw [HN.out] at hca hcb
   generalize (L.getD k noC).1=x at a1 b1'
   generalize (L.getD k noC).2=y at a2 b2'
   clear hA hB hBw
   go_wp2_with fail
   first | (go_quiet (fail);go_wp2_with fail) | skip
   go_roundg (N-(k+1))
   case measure=>omega
   case rel=>first | exact ⟨k+1,by omega,rfl,by go_num,HW.out⟩ | exact ⟨k+1,by omega,rfl,by go_num,below_drewN HW.out _⟩
  ·have hke:k=N:=by omega
   subst hke
   clear hBw
   go_wp2_with fail
   go_ret
   exact ⟨rfl,HW.out⟩
end Go.Proofs.YtigkeokacagabafGreatDoor
