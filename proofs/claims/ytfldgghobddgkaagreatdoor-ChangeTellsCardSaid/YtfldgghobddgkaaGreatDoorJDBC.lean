/-
  A text read from the outside in, on plain data: words that spell a tree at a level (1: a sum, 2: a product, 3: an operand); a builder that takes them comes to the tree's nodes; what is so read is what word by word is read.
-/
import Derived.Test.YtfldgghobddgkaaGreatDoorJDAU
namespace Go.Proofs.YtfldgghobddgkaaGreatDoor
def leafT (w:ByteArray):Tre:=if 97≤byteN w 0∧byteN w 0≤122 then .ref w else .num (numW w)
theorem leaf_opnd (w:ByteArray) (k:Nat):post (leafT w) k=[opndN w]∧sizT (leafT w)=1:=by
 unfold leafT opndN
 split
 ·exact ⟨rfl,rfl⟩
 ·exact ⟨rfl,rfl⟩
inductive Spl:Nat→Tre→List ByteArray→Prop
 | word (w:ByteArray):48≤byteN w 0→Spl 3 (leafT w) [w]
 | brk (t:Tre) (ws:List ByteArray):Spl 1 t ws→Spl 3 t ([⟨#[40]⟩] ++ ws ++ [⟨#[41]⟩])
 | up (k:Nat) (t:Tre) (ws:List ByteArray):1≤k→k≤2→Spl (k+1) t ws→Spl k t ws
 | bin (k:Nat) (o:Int) (a c:Tre) (wa wc:List ByteArray):3≤o→o≤6→bindN o=(k:Int)→Spl k a wa→Spl (k+1) c wc→Spl k (.bin o a c) (wa ++ [sgnT o] ++ wc)
theorem spl_take {k:Nat} {t:Tre} {ws:List ByteArray} (h:Spl k t ws):∀ (b:Bld),Low b (k:Int)→∀ least:Int,least≤k→settleB least (ws.foldl takeB b)=settleB least (pushT t b):=by
 induction h with
 | word w hw =>
  intro b _ least _
  show settleB least (takeB b w)=_
  rw [take_is_opd hw]
  obtain ⟨e1,e2⟩:=leaf_opnd w b.nodes.length
  unfold pushT addB
  rw [e1,e2]
  rfl
 | brk t ws _ ih =>
  intro b _ least _
  have:=take_brk (l:=ws) (t:=t) (b:=b) (ih _ (low_open _ _ _ _) 0 (by omega))
  rw [brkL,if_pos rfl] at this
  rw [this]
 | up k t ws h1 h2 _ ih =>
  intro b hl least hle
  exact ih b (hl.up (by omega)) least (by omega)
 | bin k o a c wa wc h1 h2 h3 _ _ iha ihc =>
  intro b hl least hle
  have e1:settleB (bindN o) (wa.foldl takeB b)=pushT a b:=by
   rw [h3,iha b hl k (Int.le_refl _)]
   exact settle_low (low_push a hl)
  rw [List.foldl_append,List.foldl_append]
  show settleB least (wc.foldl takeB (takeB (wa.foldl takeB b) (sgnT o)))=_
  rw [take_sign _ ⟨h1,h2⟩,e1,ihc ⟨(pushT a b).nodes,(pushT a b).ready,(pushT a b).waiting ++ [o]⟩ (Or.inr ⟨_,o,rfl,Or.inr (by rw [h3];omega)⟩) least (by omega)]
  show settleB least ⟨(pushT c ⟨(pushT a b).nodes,(pushT a b).ready,b.waiting ++ [o]⟩).nodes,(pushT c ⟨(pushT a b).nodes,(pushT a b).ready,b.waiting ++ [o]⟩).ready,b.waiting ++ [o]⟩=_
  rw [settle_pop (by omega) (by rw [h3];exact hle),join_push]
def Rds (s:ByteArray) (k a a':Nat) (t:Tre):Prop:=a<a'∧a'≤s.size∧∃ ws,Spl k t ws∧∀ r:Rd Bld,r.at'=a→toEnd s takeB false r=toEnd s takeB true ⟨a',r.opn,ws.foldl takeB r.st⟩
def Fls (s:ByteArray) (a a':Nat):Prop:=a≤a'∧a'≤s.size∧∀ r:Rd Bld,r.at'=a→∃ o st,toEnd s takeB false r=(⟨a',o,st⟩,false)
def NoSg (s:ByteArray) (k a:Nat):Prop:=a<s.size→signI (nextB s a)<0∨bindN (3+signI (nextB s a))<(k:Int)
section
variable {s:ByteArray} {k a a1 a2 a':Nat} {t u:Tre}
theorem word_first {n:Nat} (ha:a<s.size) (hn:1≤n):byteN (s.extract a (a+n)) 0=nextB s a:=by
 rw [byteN_ext (by omega),nextB,if_neg (by omega),Nat.add_zero]
theorem rds_dig (ha:a≤s.size) (h:digB (nextB s a)=true):Rds s 3 a (a+digitsN s a) (leafT (s.extract a (a+digitsN s a))):=by
 obtain ⟨h1,h2⟩:=dig_pos ha h
 obtain ⟨h3,h4⟩:=dig_word (o:=0) ha h
 refine ⟨by omega,h2,[s.extract a (a+digitsN s a)],Spl.word _ ?_,fun r hr=>?_⟩
 ·have hd:=word_first (by omega:a<s.size) h1
  rw [hd]
  unfold digB at h
  simp at h
  omega
 ·have he:=end_dig (tk:=takeB) (r:=r) (by rw [hr];exact ha) (by rw [hr];exact h)
  rw [he,wordR,hr]
  rfl
theorem rds_let (ha:a≤s.size) (h:letB (nextB s a)=true):Rds s 3 a (a+leadN letB (s.extract a s.size)) (leafT (s.extract a (a+leadN letB (s.extract a s.size)))):=by
 obtain ⟨h1,h2⟩:=let_pos ha h
 refine ⟨by omega,h2,[s.extract a (a+leadN letB (s.extract a s.size))],Spl.word _ ?_,fun r hr=>?_⟩
 ·have hd:=word_first (by omega:a<s.size) h1
  rw [hd]
  unfold letB at h
  simp at h
  omega
 ·have he:=end_let (tk:=takeB) (r:=r) (by rw [hr];exact ha) (by rw [hr];exact h)
  rw [he,wordR,hr]
  rfl
theorem byte_one (ha:a<s.size) (c:UInt8) (h:nextB s a=(c.toNat:Int)):s.extract a (a+1)=⟨#[c]⟩:=by
 have hz:=slice_ok (s:=s) (a:=a) (n:=1) (by omega)
 have hb:=word_first (n:=1) ha (by omega)
 rw [h] at hb
 apply ByteArray.ext
 apply Array.ext
 ·exact hz
 ·intro i h1 h2
  have hi:i=0:=by simp at h2;omega
  subst hi
  have e:byteN (s.extract a (a+1)) 0=(((s.extract a (a+1)).data[0]'h1).toNat:Int):=by
   unfold byteN
   rw [List.getD,List.getElem?_eq_getElem (by rw [Array.length_toList];exact h1)]
   rfl
  rw [e] at hb
  have:((s.extract a (a+1)).data[0]'h1).toNat=c.toNat:=by omega
  simpa using UInt8.toNat_inj.1 this
theorem rds_brk (ha:a≤s.size) (h40:nextB s a=40) (h:Rds s 1 (a+1) a1 t) (h41:nextB s a1=41):Rds s 3 a (a1+1) t:=by
 obtain ⟨h1,h2,ws,h3,h4⟩:=h
 have hlt:a<s.size:=next_zero (by rw [h40];decide) ha
 have hlt1:a1<s.size:=next_zero (by rw [h41];decide) h2
 refine ⟨by omega,by omega,_,Spl.brk t ws h3,fun r hr=>?_⟩
 have e1:=end_open (tk:=takeB) (r:=r) (by rw [hr];exact ha) (by rw [hr];exact h40)
 have e2:=h4 (wordR s takeB 1 ⟨r.at',r.opn+1,r.st⟩) (by rw [wordR,hr])
 have e3:=end_close (tk:=takeB) (r:=⟨a1,(wordR s takeB 1 ⟨r.at',r.opn+1,r.st⟩).opn,ws.foldl takeB (wordR s takeB 1 ⟨r.at',r.opn+1,r.st⟩).st⟩) h2 ⟨by show 0<r.opn+1;omega,h41⟩
 rw [e1,e2,e3]
 unfold wordR
 simp only
 rw [hr,byte_one hlt 40 (by rw [h40];rfl),byte_one hlt1 41 (by rw [h41];rfl),List.foldl_append,List.foldl_append]
 rfl
theorem rds_up (h1:1≤k) (h2:k≤2) (h:Rds s (k+1) a a' t):Rds s k a a' t:=by
 obtain ⟨g1,g2,ws,g3,g4⟩:=h
 exact ⟨g1,g2,ws,Spl.up k t ws h1 h2 g3,g4⟩
theorem sgn_four {c:Int} (h : ¬ signI c<0):(c=43∧signI c=0)∨(c=45∧signI c=1)∨(c=42∧signI c=2)∨(c=47∧signI c=3):=by
 unfold signI at *
 by_cases h1:c=43
 ·left;exact ⟨h1,by rw [if_pos h1]⟩
 by_cases h2:c=45
 ·right;left;exact ⟨h2,by rw [if_neg h1,if_pos h2]⟩
 by_cases h3:c=42
 ·right;right;left;exact ⟨h3,by rw [if_neg h1,if_neg h2,if_pos h3]⟩
 by_cases h4:c=47
 ·right;right;right;exact ⟨h4,by rw [if_neg h1,if_neg h2,if_neg h3,if_pos h4]⟩
 ·rw [if_neg h1,if_neg h2,if_neg h3,if_neg h4] at h;omega
theorem sign_word (hlt:a<s.size) (h : ¬ signI (nextB s a)<0):s.extract a (a+1)=sgnT (3+signI (nextB s a))∧3≤3+signI (nextB s a)∧3+signI (nextB s a)≤6∧nextB s a≠41:=by
 rcases sgn_four h with ⟨e,e2⟩ | ⟨e,e2⟩ | ⟨e,e2⟩ | ⟨e,e2⟩
 ·rw [e2,byte_one hlt 43 (by rw [e];rfl),e];exact ⟨rfl,by omega,by omega,by omega⟩
 ·rw [e2,byte_one hlt 45 (by rw [e];rfl),e];exact ⟨rfl,by omega,by omega,by omega⟩
 ·rw [e2,byte_one hlt 42 (by rw [e];rfl),e];exact ⟨rfl,by omega,by omega,by omega⟩
 ·rw [e2,byte_one hlt 47 (by rw [e];rfl),e];exact ⟨rfl,by omega,by omega,by omega⟩
theorem rds_bin (h:Rds s k a a1 t) (hlt:a1<s.size) (hs : ¬ signI (nextB s a1)<0) (hk:bindN (3+signI (nextB s a1))=(k:Int)) (h2:Rds s (k+1) (a1+1) a2 u):Rds s k a a2 (.bin (3+signI (nextB s a1)) t u):=by
 obtain ⟨g1,g2,ws,g3,g4⟩:=h
 obtain ⟨f1,f2,vs,f3,f4⟩:=h2
 obtain ⟨w1,w2,w3,w4⟩:=sign_word hlt hs
 refine ⟨by omega,f2,_,Spl.bin k _ t u ws vs w2 w3 hk g3 f3,fun r hr=>?_⟩
 have e2:=end_sign (tk:=takeB) (r:=⟨a1,r.opn,ws.foldl takeB r.st⟩) (fun e=>w4 e.2) hlt hs
 have e3:=f4 (wordR s takeB 1 ⟨a1,r.opn,ws.foldl takeB r.st⟩) rfl
 rw [g4 r hr,e2,e3]
 unfold wordR
 simp only
 rw [w1,List.foldl_append,List.foldl_append]
 rfl
/-! where it goes wrong -/
theorem fls_none (ha:a≤s.size) (h:nextB s a≠40) (h1:digB (nextB s a)=false) (h2:letB (nextB s a)=false):Fls s a a :=
 ⟨Nat.le_refl _,ha,fun r hr=>⟨r.opn,r.st,by rw [end_none (by rw [hr];exact h) (by rw [hr];exact h1) (by rw [hr];exact h2),←hr]⟩⟩
theorem fls_open (ha:a≤s.size) (h40:nextB s a=40) (h:Fls s (a+1) a'):Fls s a a':=by
 obtain ⟨h1,h2,h3⟩:=h
 refine ⟨by omega,h2,fun r hr=>?_⟩
 rw [end_open (by rw [hr];exact ha) (by rw [hr];exact h40)]
 exact h3 _ (by rw [wordR,hr])
theorem fls_shut (ha:a≤s.size) (h40:nextB s a=40) (h:Rds s 1 (a+1) a1 t) (hn:NoSg s 1 a1) (h41:nextB s a1≠41):Fls s a a1:=by
 obtain ⟨h1,h2,ws,h3,h4⟩:=h
 refine ⟨by omega,h2,fun r hr=>?_⟩
 rw [end_open (tk:=takeB) (r:=r) (by rw [hr];exact ha) (by rw [hr];exact h40),h4 _ (by rw [wordR,hr])]
 by_cases hlt:a1<s.size
 ·have hs:signI (nextB s a1)<0:=by
   rcases hn hlt with h | h
   ·exact h
   ·have:=bindN_ge (3+signI (nextB s a1));omega
  rw [end_bad (fun e=>h41 e.2) hlt hs]
  exact ⟨_,_,rfl⟩
 ·rw [end_end (fun e=>h41 e.2) hlt]
  refine ⟨(wordR s takeB 1 ⟨r.at',r.opn+1,r.st⟩).opn,ws.foldl takeB (wordR s takeB 1 ⟨r.at',r.opn+1,r.st⟩).st,?_⟩
  rw [decide_eq_false (show ¬ (wordR s takeB 1 ⟨r.at',r.opn+1,r.st⟩).opn=0 by show ¬ r.opn+1=0;omega)]
theorem fls_sign (h:Rds s k a a1 t) (hlt:a1<s.size) (hs : ¬ signI (nextB s a1)<0) (h2:Fls s (a1+1) a2):Fls s a a2:=by
 obtain ⟨g1,g2,ws,g3,g4⟩:=h
 obtain ⟨f1,f2,f3⟩:=h2
 obtain ⟨w1,w2,w3,w4⟩:=sign_word hlt hs
 refine ⟨by omega,f2,fun r hr=>?_⟩
 rw [g4 r hr,end_sign (tk:=takeB) (r:=⟨a1,r.opn,ws.foldl takeB r.st⟩) (fun e=>w4 e.2) hlt hs]
 exact f3 _ rfl
end
/-! all of a text -/
section
variable {s:ByteArray} {a':Nat} {t:Tre}
theorem read_all (h:Rds s 1 0 s.size t):(goneB s).2=true∧nodesP s=post t 0:=by
 obtain ⟨h1,h2,ws,h3,h4⟩:=h
 have e:goneB s=(⟨s.size,0,ws.foldl takeB noB⟩,true):=by
  unfold goneB
  rw [all_end_eq (r:=⟨0,0,noB⟩) (Nat.zero_le _),h4 ⟨0,0,noB⟩ rfl,end_end (fun e=>absurd e.1 (Nat.lt_irrefl 0)) (Nat.lt_irrefl _)]
  rfl
 refine ⟨by rw [e],?_⟩
 unfold nodesP
 rw [e]
 show (settleB 0 (ws.foldl takeB noB)).nodes=_
 rw [spl_take h3 noB (Or.inl rfl) 0 (by omega)]
 rw [settle_low (b:=pushT t noB) (Or.inl rfl)]
 show [] ++ post t 0=_
 rfl
theorem read_part (h:Rds s 1 0 a' t) (hn:NoSg s 1 a') (hlt:a'<s.size):(goneB s).2=false∧(goneB s).1.at'=a':=by
 obtain ⟨h1,h2,ws,h3,h4⟩:=h
 have hs:signI (nextB s a')<0:=by
  rcases hn hlt with h | h
  ·exact h
  ·have:=bindN_ge (3+signI (nextB s a'));omega
 have e:goneB s=(⟨a',0,ws.foldl takeB noB⟩,false):=by
  unfold goneB
  rw [all_end_eq (r:=⟨0,0,noB⟩) (Nat.zero_le _),h4 ⟨0,0,noB⟩ rfl,end_bad (fun e=>absurd e.1 (Nat.lt_irrefl 0)) hlt hs]
 rw [e]
 exact ⟨rfl,rfl⟩
theorem read_not (h:Fls s 0 a'):(goneB s).2=false∧(goneB s).1.at'=a':=by
 obtain ⟨h1,h2,h3⟩:=h
 obtain ⟨o,st,e⟩:=h3 ⟨0,0,noB⟩ rfl
 have e2:goneB s=(⟨a',o,st⟩,false):=by
  unfold goneB
  rw [all_end_eq (r:=⟨0,0,noB⟩) (Nat.zero_le _),e]
 rw [e2]
 exact ⟨rfl,rfl⟩
end
end Go.Proofs.YtfldgghobddgkaaGreatDoor
namespace Go.Proofs.YtfldgghobddgkaaGreatDoor
open Go.ChangeShapes Go.WideShapes Go.ChangeAt Go.RowKit
set_option maxRecDepth 20000
def InV (w:World) (q:Nat) (s:ByteArray) (a:Nat) (bad:Bool) (v:Value):Prop:=w.heap[q]?=some (.cells #[.string s,.int .i64 a,.bool bad,v] 82 (0,0))
section
variable {w w':World} {q a:Nat} {s:ByteArray} {bad:Bool} {v:Value}
theorem InV.lt (h:InV w q s a bad v):q<w.heap.size:=(Array.getElem?_eq_some_iff.1 h).1
theorem InV.c0 (h:InV w q s a bad v):w.cell? ⟨q,0,none⟩=some (.string s):=by unfold InV at h;simp [World.cell?,h]
theorem InV.c1 (h:InV w q s a bad v):w.cell? ⟨q,1,none⟩=some (.int .i64 a):=by unfold InV at h;simp [World.cell?,h]
theorem InV.c2 (h:InV w q s a bad v):w.cell? ⟨q,2,none⟩=some (.bool bad):=by unfold InV at h;simp [World.cell?,h]
theorem InV.c3 (h:InV w q s a bad v):w.cell? ⟨q,3,none⟩=some v:=by unfold InV at h;simp [World.cell?,h]
theorem InV.fr (h:InV w q s a bad v) (j:Nat):w.frozen? ⟨q,j,none⟩=false:=by unfold InV at h;simp [World.frozen?,h]
theorem InV.later (h:InV w q s a bad v) (hB:Below w.heap.size w w'):InV w' q s a bad v:=(hB.block q h.lt).trans h
theorem InV.same (h:InV w q s a bad v) (hB:w'.heap[q]?=w.heap[q]?):InV w' q s a bad v:=hB.trans h
theorem InV.set1 (h:InV w q s a bad v) (n:Nat):InV (w.setCell ⟨q,1,none⟩ (.int .i64 n)) q s n bad v:=by
 unfold InV at *
 rw [setCell_eq_setRow w q 1 _ _ (0,0) _ h,setRow_heap w q _ _ _ _ h]
 rfl
theorem InV.set2 (h:InV w q s a bad v) (b:Bool):InV (w.setCell ⟨q,2,none⟩ (.bool b)) q s a b v:=by
 unfold InV at *
 rw [setCell_eq_setRow w q 2 _ _ (0,0) _ h,setRow_heap w q _ _ _ _ h]
 rfl
theorem InV.set3 (h:InV w q s a bad v) (u:Value):InV (w.setCell ⟨q,3,none⟩ u) q s a bad u:=by
 unfold InV at *
 rw [setCell_eq_setRow w q 3 _ _ (0,0) _ h,setRow_heap w q _ _ _ _ h]
 rfl
end
set_option maxHeartbeats 1000000 in
theorem in_bad (q a:Nat) (s:ByteArray) (v:Value) (lo hi:Int) (w:World) (hI:InV w q s a true v):Calls Tryz.prog 80 #[.pointer (some ⟨q,0,none⟩),.int .u8 lo,.int .u8 hi] w fun e w'=>e=.returned (.bool false)∧Below w.heap.size w w':=by
 have c0:=hI.c0
 have c1:=hI.c1
 have c2:=hI.c2
 have hq:=hI.lt
 clear hI
 go_enter Tryz.func80,Tryz.ntmps80
 go_wp2_with fail
 go_quiet (fail)
 go_wp2_with fail
 go_ret
 exact ⟨rfl,below_drewN (Below.refl _ _) _⟩
set_option maxHeartbeats 1000000 in
theorem in_any (q a:Nat) (s:ByteArray) (v:Value) (lo hi:Int) (w:World) (hl:0<lo) (ha:a≤s.size) (hI:InV w q s a false v):Calls Tryz.prog 80 #[.pointer (some ⟨q,0,none⟩),.int .u8 lo,.int .u8 hi] w fun e w'=>e=.returned (.bool (decide (lo≤nextB s a) && decide (nextB s a≤hi)))∧Below w.heap.size w w':=by
 have c0:=hI.c0
 have c1:=hI.c1
 have c2:=hI.c2
 have hq:=hI.lt
 clear hI
 by_cases he:a=s.size
 ·subst he
  have h0:nextB s s.size=0:=by simp [nextB]
  rw [h0,decide_eq_false (by omega),Bool.false_and]
  go_enter Tryz.func80,Tryz.ntmps80
  go_wp2_with fail
  go_quiet (fail)
  go_wp2_with fail
  go_ret
  exact ⟨rfl,below_drewN (Below.refl _ _) _⟩
 ·have hlt:a<s.size:=by omega
  have hai:(a:Int)<(s.size:Int):=by omega
  have h0:nextB s a=byteN s a:=by simp [nextB,he]
  have hby:=byteN_get s a hlt
  rw [h0]
  by_cases h1:lo≤byteN s a
  ·rw [decide_eq_true h1,Bool.true_and]
   go_enter Tryz.func80,Tryz.ntmps80
   go_wp2_with fail
   go_quiet (fail)
   go_wp2_with fail
   go_ret
   exact ⟨by first | rfl | simp,below_drewN (Below.refl _ _) _⟩
  ·rw [decide_eq_false h1,Bool.false_and]
   have h1':byteN s a<lo:=by omega
   have hd1:decide (lo≤byteN s a)=false:=decide_eq_false h1
   have hd2:decide (byteN s a<lo)=true:=decide_eq_true h1'
   clear h1
   go_enter Tryz.func80,Tryz.ntmps80
   go_wp2_with fail
   go_quiet (fail)
   go_wp2_with fail
   go_ret
   exact ⟨rfl,below_drewN (Below.refl _ _) _⟩
theorem rank_any (op:Int) (w:World):Calls Tryz.prog 34 #[.int .i64 op] w fun e w'=>e=.returned (.int .i64 (bindN op))∧Below w.heap.size w w':=by
 unfold bindN
 by_cases h3:op=3
 ·subst h3
  go_enter Tryz.func34,Tryz.ntmps34
  go_wp2
  go_ret
  exact ⟨by simp,by go_grown⟩
 by_cases h4:op=4
 ·subst h4
  go_enter Tryz.func34,Tryz.ntmps34
  go_wp2
  go_ret
  exact ⟨by simp,by go_grown⟩
 by_cases h5:op=5
 ·subst h5
  go_enter Tryz.func34,Tryz.ntmps34
  go_wp2
  go_ret
  exact ⟨by simp,by go_grown⟩
 by_cases h6:op=6
 ·subst h6
  go_enter Tryz.func34,Tryz.ntmps34
  go_wp2
  go_ret
  exact ⟨by simp,by go_grown⟩
 rw [if_neg (by omega),if_neg (by omega)]
 have e3:(op == 3)=false:=by simpa using h3
 have e4:(op == 4)=false:=by simpa using h4
 have e5:(op == 5)=false:=by simpa using h5
 have e6:(op == 6)=false:=by simpa using h6
 clear h3 h4 h5 h6
 go_enter Tryz.func34,Tryz.ntmps34
 go_wp2
 go_ret
 exact ⟨rfl,by go_grown⟩
def OutS (s:ByteArray) (q base k a:Nat) (L:List Nd) (w:World) (e:Ending) (w':World):Prop :=
 Kept base (fun j=>j=q) w w'∧((∃ (a':Nat) (t:Tre) (v':Value),e=.returned (.int .i64 ((L.length+sizT t-1:Nat):Int))∧Rds s k a a' t∧NoSg s k a'∧InV w' q s a' false v'∧w'.ownsRow base 62 5 v' (L ++ post t L.length).length (cellsN (L ++ post t L.length))∧a+sizT t≤a')
  ∨ (∃ (i:Int) (a':Nat) (v':Value) (L':List Nd),e=.returned (.int .i64 i)∧Fls s a a'∧InV w' q s a' true v'∧w'.ownsRow base 62 5 v' L'.length (cellsN L')))
def SumC (s:ByteArray) (q base k a:Nat):Prop := ∀ (v:Value) (L:List Nd) (w:World),InV w q s a false v→q<base→base≤w.heap.size→w.ownsRow base 62 5 v L.length (cellsN L)→L.length≤a→Calls Tryz.prog 31 #[.pointer (some ⟨q,0,none⟩),.int .i64 k] w fun e w'=>OutS s q base k a L w e w'
def OneC (s:ByteArray) (q base a:Nat):Prop := ∀ (v:Value) (L:List Nd) (w:World),InV w q s a false v→q<base→base≤w.heap.size→w.ownsRow base 62 5 v L.length (cellsN L)→L.length≤a→Calls Tryz.prog 54 #[.pointer (some ⟨q,0,none⟩)] w fun e w'=>OutS s q base 3 a L w e w'
theorem nosg3 (s:ByteArray) (a:Nat):NoSg s 3 a:=fun _=>by
 by_cases h:signI (nextB s a)<0
 ·exact Or.inl h
 ·right
  rcases sgn_four h with ⟨-,e⟩ | ⟨-,e⟩ | ⟨-,e⟩ | ⟨-,e⟩ <;> rw [e] <;> decide
theorem kept_set {N:Nat} {q j:Nat} {w:World} {v:Value}:Kept N (fun i=>i=q) w (w.setCell ⟨q,j,none⟩ v) :=
 ⟨rfl,rfl,rfl,by simp,fun k _ hk=>setCell_off w q j k v hk⟩
theorem own_off {w:World} {base q j:Nat} {v u:Value} {n:Nat} {xs:List Value} {e size:Nat} (h:w.ownsRow base e size v n xs) (hq:q<base):(w.setCell ⟨q,j,none⟩ u).ownsRow base e size v n xs :=
 own_keep h fun g hg=>setCell_off _ _ _ _ _ (by have:=(own_block h hg).1;omega)
theorem lead_ge {p:Int→Bool} {t:ByteArray} {m:Nat} (h1:∀ i,i<m→p (byteN t i)=true) (hm:m≤t.size):∀ (f i:Nat),i≤m→i+f=t.size→m≤leadTo p t f i
 | 0,i,hi,hf=>by rw [leadTo];omega
 | f+1,i,hi,hf=>by
  by_cases e:i=m
  ·subst e
   exact (leadTo_all p t (f+1) i).1
  ·rw [lead_hit (h1 i (by omega))]
   exact lead_ge h1 hm f (i+1) (by omega) (by omega)
section
variable {s:ByteArray} {a k:Nat}
theorem ext_byte {i:Nat} (h:a+i<s.size):byteN (s.extract a s.size) i=nextB s (a+i):=by
 rw [byteN_ext (by omega),nextB,if_neg (by omega)]
theorem digs_stop (hk1:1≤k) (hak:a+k≤s.size) (hall:∀ i,i<k→digB (nextB s (a+i))=true) (hz:nextB s a≠48) (hst:k=7∨digB (nextB s (a+k))=false) (hk7:k≤7):digitsN s a=k:=by
 have hsz:=tail_size s a
 have h1:∀ i,i<k→digB (byteN (s.extract a s.size) i)=true:=fun i hi=>by rw [ext_byte (by omega)];exact hall i hi
 unfold digitsN
 rw [if_neg hz]
 by_cases e:k=7
 ·have:=lead_ge h1 (by rw [hsz];omega) (s.extract a s.size).size 0 (Nat.zero_le _) (Nat.zero_add _)
  unfold leadN
  omega
 ·have hst':=hst.resolve_left e
  have:leadN digB (s.extract a s.size)=k:=by
   refine leadTo_exact h1 ?_ _ 0 (Nat.zero_le _) (Nat.zero_add _)
   by_cases e2:a+k=s.size
   ·left;rw [hsz];omega
   ·right;rw [ext_byte (by omega)];exact hst'
  omega
theorem digs_zero (hz:nextB s a=48):digitsN s a=1:=by unfold digitsN;rw [if_pos hz]
theorem lets_stop (hak:a+k≤s.size) (hall:∀ i,i<k→letB (nextB s (a+i))=true) (hst:letB (nextB s (a+k))=false):leadN letB (s.extract a s.size)=k:=by
 have hsz:=tail_size s a
 refine leadTo_exact (fun i hi=>by rw [ext_byte (by omega)];exact hall i hi) ?_ _ 0 (Nat.zero_le _) (Nat.zero_add _)
 by_cases e2:a+k=s.size
 ·left;rw [hsz];omega
 ·right;rw [ext_byte (by omega)];exact hst
theorem ten_small:∀ k,k<7→(10:Int) ^ k≤1000000:=by decide
theorem numW_none:numW (s.extract a (a+0))=0:=by
 have:(s.extract a (a+0)).size=0:=by rw [ByteArray.size_extract];omega
 rw [name_empty this]
 rfl
theorem numW_more (h:a+k<s.size):numW (s.extract a (a+(k+1)))=numW (s.extract a (a+k))*10+(nextB s (a+k)-48):=by
 have e:(s.extract a (a+(k+1))).data.toList=(s.extract a (a+k)).data.toList ++ [s[a+k]]:=by
  apply List.ext_getElem?
  intro i
  rw [List.getElem?_append]
  simp only [ByteArray.data_extract,Array.toList_extract,List.extract_eq_take_drop,List.getElem?_take,List.getElem?_drop,List.length_take,List.length_drop,Array.length_toList]
  have hsz:s.data.size=s.size:=rfl
  by_cases h1:i<k
  ·rw [if_pos (by omega),if_pos (by omega),if_pos (by omega)]
  ·by_cases h2:i=k
   ·subst h2
    rw [if_pos (by omega),if_neg (by omega)]
    have h3:i-min (a+i-a) (s.data.size-a)=0:=by omega
    rw [h3]
    simp [List.getElem?_eq_getElem (show a+i<s.data.toList.length by simpa using h)]
    rfl
   ·rw [if_neg (by omega),if_neg (by omega)]
    rw [List.getElem?_eq_none (by simp;omega)]
 unfold numW
 rw [e,List.foldl_append]
 have hb:=byteN_get s (a+k) h
 rw [nextB,if_neg (by omega),←hb]
 rfl
end
section
variable {w w4 W w6:World} {base q a a1 m:Nat} {v v':Value} {s wd:ByteArray} {L:List Nd} {x:Nd}
theorem app_at (hI:InV w q s a1 false v) (hO:w.ownsRow base 62 5 v m (cellsN L)) (hqb:q<base) (hb:Below w.heap.size w W) (hg:W.grownBy w6 v.ownBlock):InV w6 q s a1 false v :=
 hI.same ((hg.block q (Nat.lt_of_lt_of_le hI.lt hb.size) (fun e=>by have:=(own_block hO e.symm).1;omega)).trans (hb.block q hI.lt))
theorem app_out (hI:InV w q s a1 false v) (hO:w.ownsRow base 62 5 v m (cellsN L)) (hqb:q<base) (hbw:base≤w.heap.size) (hb:Below w.heap.size w W) (hg:W.grownBy w6 v.ownBlock) (ho:w6.ownsRow base 62 5 v' (m+1) (cellsN L ++ cellsNd1 x)) :
  InV (w6.setCell ⟨q,3,none⟩ v') q s a1 false v'∧(w6.setCell ⟨q,3,none⟩ v').ownsRow base 62 5 v' (m+1) (cellsN (L ++ [x]))∧Kept base (fun j=>j=q) w (w6.setCell ⟨q,3,none⟩ v'):=by
 refine ⟨(app_at hI hO hqb hb hg).set3 _,own_off (by rw [cellsN_snoc];exact ho) hqb,?_⟩
 have hk1:Kept base (fun j=>j=q) w w6:=⟨hg.os.trans hb.os,hg.tape.trans hb.tape,hg.output.trans hb.output,Nat.le_trans hb.size hg.size,fun k hk _=>(hg.block k (by have:=hb.size;omega) (fun e=>by have:=(own_block hO e.symm).1;omega)).trans (hb.block k (by omega))⟩
 exact hk1.trans kept_set
theorem out_leaf (hL:L.length=m) (hR:Rds s 3 a a1 (leafT wd)) (hK:Kept base (fun j=>j=q) w w4) (hI:InV w4 q s a1 false v) (hO:w4.ownsRow base 62 5 v m (cellsN L)) (hqb:q<base) (hbw:base≤w4.heap.size) (hb:Below w4.heap.size w4 W) (hg:W.grownBy w6 v.ownBlock) (ho:w6.ownsRow base 62 5 v' (m+1) (cellsN L ++ cellsNd1 (opndN wd))) :
  OutS s q base 3 a L w (.returned (.int .i64 (m:Int))) (w6.setCell ⟨q,3,none⟩ v'):=by
 obtain ⟨h1,h2,h3⟩:=app_out hI hO hqb hbw hb hg ho
 obtain ⟨p1,p2⟩:=leaf_opnd wd L.length
 refine ⟨hK.trans h3,Or.inl ⟨a1,leafT wd,_,by rw [p2,Nat.add_sub_cancel,hL],hR,nosg3 _ _,h1,?_,by rw [p2];have:=hR.1;omega⟩⟩
 rw [p1,List.length_append,hL]
 exact h2
end
end Go.Proofs.YtfldgghobddgkaaGreatDoor
