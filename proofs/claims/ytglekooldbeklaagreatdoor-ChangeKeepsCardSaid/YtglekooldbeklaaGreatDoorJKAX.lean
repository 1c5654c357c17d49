/-
  Formulas as trees, on plain data: their nodes one behind the other, their words; a builder that takes the words of a tree comes to its nodes.
-/
import Derived.Test.YtglekooldbeklaaGreatDoorJKAW
namespace Go.Proofs.YtglekooldbeklaaGreatDoor
inductive Tre where
 | num (n:Int)
 | ref (s:ByteArray)
 | bin (o:Int) (a b:Tre)
def bindT:Tre→Int
 | .num _=>3
 | .ref _=>3
 | .bin o _ _=>bindN o
def sizT:Tre→Nat
 | .num _=>1
 | .ref _=>1
 | .bin _ a b=>sizT a+sizT b+1
theorem siz_pos:∀ t:Tre,1≤sizT t
 | .num _=>Nat.le_refl _
 | .ref _=>Nat.le_refl _
 | .bin _ a b=>by show 1≤sizT a+sizT b+1;omega
def post:Tre→Nat→List Nd
 | .num n,_=>[⟨1,n,noT,0,0⟩]
 | .ref s,_=>[⟨2,0,s,0,0⟩]
 | .bin o a b,k=>post a k ++ post b (k+sizT a) ++ [⟨o,0,noT,((k+sizT a-1:Nat):Int),((k+sizT a+sizT b-1:Nat):Int)⟩]
theorem post_len:∀ (t:Tre) (k:Nat),(post t k).length=sizT t
 | .num _,_=>rfl
 | .ref _,_=>rfl
 | .bin o a b,k=>by simp [post,sizT,post_len a,post_len b];omega
def numB (n:Int):ByteArray:=⟨(Lib.itoa n).toArray⟩
def okT:Tre→Prop
 | .num n=>0≤n∧n≤1000000
 | .ref s=>nameErr s=0
 | .bin o a b=>(3≤o∧o≤6)∧okT a∧okT b
def brkL (l:List ByteArray) (c:Bool):List ByteArray:=if c then [⟨#[40]⟩] ++ l ++ [⟨#[41]⟩] else l
def tokT:Tre→List ByteArray
 | .num n=>[numB n]
 | .ref s=>[s]
 | .bin o a b=>brkL (tokT a) (decide (bindT a<bindN o)) ++ [sgnT o] ++ brkL (tokT b) (decide (bindT b≤bindN o))
def pushT (t:Tre) (b:Bld):Bld:=⟨b.nodes ++ post t b.nodes.length,b.ready ++ [((b.nodes.length+sizT t-1:Nat):Int)],b.waiting⟩
def Low (b:Bld) (k:Int):Prop:=b.waiting=[]∨∃ w x,b.waiting=w ++ [x]∧(x=0∨bindN x<k)
theorem Low.up {b:Bld} {k m:Int} (h:Low b k) (hm:k≤m):Low b m:=by
 rcases h with h | ⟨w,x,h,h0 | h0⟩
 ·exact Or.inl h
 ·exact Or.inr ⟨w,x,h,Or.inl h0⟩
 ·exact Or.inr ⟨w,x,h,Or.inr (by omega)⟩
theorem settle_low {b:Bld} {k:Int} (h:Low b k):settleB k b=b:=by
 unfold settleB
 rcases h with h | ⟨w,x,h,h0⟩
 ·rw [h];rfl
 ·rw [h,List.length_append,List.length_singleton]
  have e:b.waiting.getD w.length 0=x:=by rw [h];simp [List.getD]
  exact settle_stop (by rw [e];exact h0)
theorem settle_pop {n:List Nd} {r w:List Int} {o least:Int} (h0:o≠0) (h:least≤bindN o):settleB least ⟨n,r,w ++ [o]⟩=settleB least (joinBd o ⟨n,r,w⟩):=by
 unfold settleB
 have e1:(w ++ [o]).length=w.length+1:=by simp
 have e2:(w ++ [o]).getD w.length 0=o:=by simp [List.getD]
 have e3:(w ++ [o]).take w.length=w:=by simp
 show settleTo least (w ++ [o]).length _=_
 rw [e1,settle_on (by show ¬ ((w ++ [o]).getD w.length 0=0∨bindN ((w ++ [o]).getD w.length 0)<least);rw [e2];omega)]
 show settleTo least w.length (joinBd ((w ++ [o]).getD w.length 0) ⟨n,r,(w ++ [o]).take w.length⟩)=settleTo least (joinBd o ⟨n,r,w⟩).waiting.length _
 rw [e2,e3]
 rfl
theorem join_push (o:Int) (a c:Tre) (b:Bld) (w:List Int):joinBd o ⟨(pushT c ⟨(pushT a b).nodes,(pushT a b).ready,w⟩).nodes,(pushT c ⟨(pushT a b).nodes,(pushT a b).ready,w⟩).ready,b.waiting⟩=pushT (.bin o a c) b:=by
 have l1:(b.nodes ++ post a b.nodes.length).length=b.nodes.length+sizT a:=by simp [post_len]
 have pa:=siz_pos a
 have pc:=siz_pos c
 unfold joinBd pushT addB
 simp only [post,sizT,l1,List.length_append,List.length_singleton,post_len]
 have e1:b.ready.length+1+1-2=b.ready.length:=by omega
 rw [e1]
 have g1:(b.ready ++ [((b.nodes.length+sizT a-1:Nat):Int)] ++ [((b.nodes.length+sizT a+sizT c-1:Nat):Int)]).getD b.ready.length 0=((b.nodes.length+sizT a-1:Nat):Int):=by simp [List.getD]
 have g2:(b.ready ++ [((b.nodes.length+sizT a-1:Nat):Int)] ++ [((b.nodes.length+sizT a+sizT c-1:Nat):Int)]).getD (b.ready.length+1) 0=((b.nodes.length+sizT a+sizT c-1:Nat):Int):=by simp [List.getD]
 have g3:(b.ready ++ [((b.nodes.length+sizT a-1:Nat):Int)] ++ [((b.nodes.length+sizT a+sizT c-1:Nat):Int)]).take b.ready.length=b.ready:=by simp
 rw [g1,g2,g3]
 congr 1
 ·simp [noT]
 ·congr 2
  omega
theorem take_open (b:Bld):takeB b ⟨#[40]⟩=⟨b.nodes,b.ready,b.waiting ++ [0]⟩:=by
 rw [takeB,if_pos (by decide)]
theorem take_close (b:Bld):takeB b ⟨#[41]⟩=⟨(settleB 0 b).nodes,(settleB 0 b).ready,(settleB 0 b).waiting.take ((settleB 0 b).waiting.length-1)⟩:=by
 rw [takeB,if_neg (by decide),if_pos (by decide)]
theorem take_sign (b:Bld) {o:Int} (h:3≤o∧o≤6):takeB b (sgnT o)=⟨(settleB (bindN o) b).nodes,(settleB (bindN o) b).ready,(settleB (bindN o) b).waiting ++ [o]⟩:=by
 have hc:o=3∨o=4∨o=5∨o=6:=by omega
 rcases hc with rfl | rfl | rfl | rfl
 ·rw [takeB,if_neg (by decide),if_neg (by decide),if_pos (by decide)];rfl
 ·rw [takeB,if_neg (by decide),if_neg (by decide),if_pos (by decide)];rfl
 ·rw [takeB,if_neg (by decide),if_neg (by decide),if_pos (by decide)];rfl
 ·rw [takeB,if_neg (by decide),if_neg (by decide),if_pos (by decide)];rfl
theorem low_open (n:List Nd) (r w:List Int) (k:Int):Low ⟨n,r,w ++ [0]⟩ k:=Or.inr ⟨w,0,rfl,Or.inl rfl⟩
theorem low_push {b:Bld} {k:Int} (t:Tre) (h:Low b k):Low (pushT t b) k:=h
theorem take_brk {l:List ByteArray} {t:Tre} {b:Bld} (ih:settleB 0 (l.foldl takeB ⟨b.nodes,b.ready,b.waiting ++ [0]⟩)=settleB 0 (pushT t ⟨b.nodes,b.ready,b.waiting ++ [0]⟩)):(brkL l true).foldl takeB b=pushT t b:=by
 show ([ByteArray.mk #[40]] ++ l ++ [ByteArray.mk #[41]]).foldl takeB b=_
 rw [List.foldl_append,List.foldl_append]
 show takeB (l.foldl takeB (takeB b ⟨#[40]⟩)) ⟨#[41]⟩=_
 rw [take_open,take_close,ih,settle_low (low_push t (low_open _ _ _ _))]
 simp [pushT]
theorem first_byte (l:List UInt8) (x:UInt8):byteN ⟨(x :: l).toArray⟩ 0=(x.toNat:Int):=by simp [byteN,List.getD]
theorem num_digits (n:Int) (h0:0≤n):∃ d r,Lib.itoa n=UInt8.ofNat (48+d) :: r∧d<10:=by
 obtain ⟨u,rfl⟩:∃ u:Nat,n=u:=⟨n.toNat,by omega⟩
 obtain ⟨d,r,h,hd,-,-⟩:=head_decDigits u
 exact ⟨d,r,by rw [Lib.itoa_nonneg];exact h,hd⟩
theorem num_all (u:Nat):∀ b∈Lib.decDigits u,48≤b.toNat∧b.toNat≤57:=by
 induction u using Nat.strongRecOn with
 | _ u ih =>
  intro b hb
  by_cases h:u<10
  ·rw [Lib.decDigits_one h,List.mem_singleton] at hb
   subst hb
   have e:(UInt8.ofNat (48+u)).toNat=48+u:=by simp;omega
   omega
  ·rw [Lib.decDigits,dif_neg h,List.mem_append,List.mem_singleton] at hb
   rcases hb with hb | hb
   ·exact ih (u / 10) (by omega) b hb
   ·subst hb
    have e:(UInt8.ofNat (48+u % 10)).toNat=48+u % 10:=by simp;omega
    omega
theorem numW_B (n:Int) (h0:0≤n):numW (numB n)=n:=by
 obtain ⟨u,rfl⟩:∃ u:Nat,n=u:=⟨n.toNat,by omega⟩
 unfold numW numB
 rw [Lib.itoa_nonneg]
 obtain ⟨m,h1,h2⟩:=dec_fold (Lib.decDigits u) 0 (num_all u)
 have h3:=decFrom_decDigits u 0
 rw [h1] at h3
 have h4:m=u:=by simpa using h3
 have hz:((0:Nat):Int)=0:=rfl
 rw [hz] at h2
 simp only [h2,h4]
theorem opnd_num (n:Int) (h0:0≤n):opndN (numB n)=⟨1,n,noT,0,0⟩∧48≤byteN (numB n) 0:=by
 obtain ⟨d,r,hd,h10⟩:=num_digits n h0
 have hb:byteN (numB n) 0=((48+d:Nat):Int):=by
  unfold numB
  rw [hd,first_byte]
  have:(UInt8.ofNat (48+d)).toNat=48+d:=by simp;omega
  rw [this]
 refine ⟨?_,by omega⟩
 unfold opndN
 rw [if_neg (by omega),numW_B n h0]
 rfl
theorem name_first {s:ByteArray} (h:nameErr s=0):1≤s.size∧s.size≤8∧∀ i,i<s.size→letB (byteN s i)=true:=by
 unfold nameErr at h
 split at h
 ·cases h
 ·rename_i h1
  split at h
  ·cases h
  ·rename_i h2
   refine ⟨by omega,by omega,fun i hi=>?_⟩
   rcases findFrom_cases (badByte s) s.size 0 with ⟨_,h3⟩ | ⟨m,e,_⟩
   ·have:=h3 i (Nat.zero_le _) (by omega)
    unfold badByte badB at this
    unfold letB
    simp at this ⊢
    omega
   ·omega
theorem opnd_ref {s:ByteArray} (h:nameErr s=0):opndN s=⟨2,0,s,0,0⟩∧48≤byteN s 0:=by
 obtain ⟨h1,_,h3⟩:=name_first h
 have h0:=h3 0 (by omega)
 unfold letB at h0
 simp at h0
 refine ⟨?_,by omega⟩
 unfold opndN
 rw [if_pos (by omega)]
theorem take_tree:∀ (t:Tre) (b:Bld),okT t→Low b (bindT t)→∀ least,least≤bindT t→settleB least ((tokT t).foldl takeB b)=settleB least (pushT t b)
 | .num n,b,hk,_,least,_=>by
  have h:=opnd_num n hk.1
  show settleB least (takeB b (numB n))=_
  rw [take_is_opd h.2,h.1]
  rfl
 | .ref s,b,hk,_,least,_=>by
  have h:=opnd_ref hk
  show settleB least (takeB b s)=_
  rw [take_is_opd h.2,h.1]
  rfl
 | .bin o a c,b,⟨ho,ha,hc⟩,hl,least,hle=>by
  have hb1:bindN o≤2:=by unfold bindN;split <;> (try split) <;> omega
  have hl':Low b (bindN o):=hl
  have hle':least≤bindN o:=hle
  have e1:settleB (bindN o) ((brkL (tokT a) (decide (bindT a<bindN o))).foldl takeB b)=pushT a b:=by
   by_cases h:bindT a<bindN o
   ·rw [decide_eq_true h,take_brk (t:=a) (take_tree a _ ha (low_open _ _ _ _) 0 (by cases a <;> simp [bindT,bindN] <;> (try split) <;> (try split) <;> omega))]
    exact settle_low (low_push a hl')
   ·rw [decide_eq_false h]
    show settleB (bindN o) ((tokT a).foldl takeB b)=_
    rw [take_tree a b ha (hl'.up (by omega)) (bindN o) (by omega)]
    exact settle_low (low_push a hl')
  show settleB least ((brkL (tokT a) (decide (bindT a<bindN o)) ++ [sgnT o] ++ brkL (tokT c) (decide (bindT c≤bindN o))).foldl takeB b)=_
  rw [List.foldl_append,List.foldl_append]
  show settleB least ((brkL (tokT c) (decide (bindT c≤bindN o))).foldl takeB (takeB ((brkL (tokT a) (decide (bindT a<bindN o))).foldl takeB b) (sgnT o)))=_
  rw [take_sign _ ho,e1]
  have e2:settleB least ((brkL (tokT c) (decide (bindT c≤bindN o))).foldl takeB ⟨(pushT a b).nodes,(pushT a b).ready,(pushT a b).waiting ++ [o]⟩)=settleB least (pushT c ⟨(pushT a b).nodes,(pushT a b).ready,(pushT a b).waiting ++ [o]⟩):=by
   by_cases h:bindT c≤bindN o
   ·rw [decide_eq_true h,take_brk (t:=c) (take_tree c _ hc (low_open _ _ _ _) 0 (by cases c <;> simp [bindT,bindN] <;> (try split) <;> (try split) <;> omega))]
   ·rw [decide_eq_false h]
    exact take_tree c _ hc (Or.inr ⟨_,o,rfl,Or.inr (by omega)⟩) least (by omega)
  rw [e2]
  show settleB least ⟨(pushT c ⟨(pushT a b).nodes,(pushT a b).ready,b.waiting ++ [o]⟩).nodes,(pushT c ⟨(pushT a b).nodes,(pushT a b).ready,b.waiting ++ [o]⟩).ready,b.waiting ++ [o]⟩=_
  rw [settle_pop (by omega) hle',join_push]
section
variable {S:Type} (s:ByteArray) (tk:S→ByteArray→S)
def runR:Nat→Bool→Rd S→Rd S×Bool
 | 0,_,r=>(r,false)
 | f+1,false,r =>
  if nextB s r.at'=40 then runR f false (wordR s tk 1 ⟨r.at',r.opn+1,r.st⟩)
  else if digB (nextB s r.at') then runR f true (wordR s tk (digitsN s r.at') r)
  else if letB (nextB s r.at') then runR f true (wordR s tk (leadN letB (s.extract r.at' s.size)) r)
  else (r,false)
 | f+1,true,r =>
  if 0<r.opn∧nextB s r.at'=41 then runR f true (wordR s tk 1 ⟨r.at',r.opn-1,r.st⟩)
  else if r.at'<s.size then (if signI (nextB s r.at')<0 then (r,false) else runR f false (wordR s tk 1 r))
  else (r,decide (r.opn=0))
end
section
variable {S:Type} {s:ByteArray} {tk:S→ByteArray→S}
theorem dig_pos {a:Nat} (ha:a≤s.size) (h:digB (nextB s a)=true):1≤digitsN s a∧a+digitsN s a≤s.size:=by
 have hlt:a<s.size:=next_zero (fun e=>by rw [e] at h;revert h;decide) ha
 have h1:=(lead_word (n:=0) hlt h (Nat.zero_le _)).1
 refine ⟨?_,(dig_word (o:=0) ha h).1⟩
 unfold digitsN
 split <;> omega
theorem let_pos {a:Nat} (ha:a≤s.size) (h:letB (nextB s a)=true):1≤leadN letB (s.extract a s.size)∧a+leadN letB (s.extract a s.size)≤s.size:=by
 have hlt:a<s.size:=next_zero (fun e=>by rw [e] at h;revert h;decide) ha
 exact ⟨(lead_word (n:=0) hlt h (Nat.zero_le _)).1,(let_word (o:=0) ha h).1⟩
theorem run_fuel:∀ (f g:Nat) (ph:Bool) (r:Rd S),r.at'≤s.size→s.size-r.at'<f→s.size-r.at'<g→runR s tk f ph r=runR s tk g ph r
 | 0,_,_,_,_,h,_=>by omega
 | _+1,0,_,_,_,_,h=>by omega
 | f+1,g+1,false,r,hr,hf,hg=>by
  rw [runR,runR]
  by_cases h1:nextB s r.at'=40
  ·rw [if_pos h1,if_pos h1]
   have h:=(opn_word (o:=0) hr h1).1
   exact run_fuel f g false _ h (by show s.size-(r.at'+1)<f;omega) (by show s.size-(r.at'+1)<g;omega)
  rw [if_neg h1,if_neg h1]
  by_cases h2:digB (nextB s r.at')=true
  ·rw [if_pos h2,if_pos h2]
   have h:=dig_pos hr h2
   exact run_fuel f g true _ h.2 (by show s.size-(r.at'+digitsN s r.at')<f;omega) (by show s.size-(r.at'+digitsN s r.at')<g;omega)
  rw [if_neg h2,if_neg h2]
  by_cases h3:letB (nextB s r.at')=true
  ·rw [if_pos h3,if_pos h3]
   have h:=let_pos hr h3
   exact run_fuel f g true _ h.2 (by show s.size-(r.at'+leadN letB (s.extract r.at' s.size))<f;omega) (by show s.size-(r.at'+leadN letB (s.extract r.at' s.size))<g;omega)
  rw [if_neg h3,if_neg h3]
 | f+1,g+1,true,r,hr,hf,hg=>by
  rw [runR,runR]
  by_cases h1:0<r.opn∧nextB s r.at'=41
  ·rw [if_pos h1,if_pos h1]
   have h:=(cls_word (o:=0) hr h1.2).1
   exact run_fuel f g true _ h (by show s.size-(r.at'+1)<f;omega) (by show s.size-(r.at'+1)<g;omega)
  rw [if_neg h1,if_neg h1]
  by_cases h2:r.at'<s.size
  ·rw [if_pos h2,if_pos h2]
   by_cases h3:signI (nextB s r.at')<0
   ·rw [if_pos h3,if_pos h3]
   ·rw [if_neg h3,if_neg h3]
    exact run_fuel f g false _ h2 (by show s.size-(r.at'+1)<f;omega) (by show s.size-(r.at'+1)<g;omega)
  ·rw [if_neg h2,if_neg h2]
end
def toEnd {S:Type} (s:ByteArray) (tk:S→ByteArray→S) (ph:Bool) (r:Rd S):Rd S×Bool:=runR s tk (s.size+1) ph r
section
variable {S:Type} {s:ByteArray} {tk:S→ByteArray→S} {r:Rd S}
theorem end_open (hr:r.at'≤s.size) (h:nextB s r.at'=40):toEnd s tk false r=toEnd s tk false (wordR s tk 1 ⟨r.at',r.opn+1,r.st⟩):=by
 have h1:=(opn_word (o:=0) hr h).1
 unfold toEnd
 rw [runR,if_pos h]
 exact run_fuel _ _ _ _ h1 (by show s.size-(r.at'+1)<_;omega) (by show s.size-(r.at'+1)<_;omega)
theorem end_dig (hr:r.at'≤s.size) (h:digB (nextB s r.at')=true):toEnd s tk false r=toEnd s tk true (wordR s tk (digitsN s r.at') r):=by
 have h1:=dig_pos hr h
 have h40:nextB s r.at'≠40:=fun e=>by rw [e] at h;revert h;decide
 unfold toEnd
 rw [runR,if_neg h40,if_pos h]
 exact run_fuel _ _ _ _ h1.2 (by show s.size-(r.at'+digitsN s r.at')<_;omega) (by show s.size-(r.at'+digitsN s r.at')<_;omega)
theorem end_let (hr:r.at'≤s.size) (h:letB (nextB s r.at')=true):toEnd s tk false r=toEnd s tk true (wordR s tk (leadN letB (s.extract r.at' s.size)) r):=by
 have h1:=let_pos hr h
 have h40:nextB s r.at'≠40:=fun e=>by rw [e] at h;revert h;decide
 have hd : ¬ digB (nextB s r.at')=true:=fun e=>by unfold digB at e;unfold letB at h;simp at e h;omega
 unfold toEnd
 rw [runR,if_neg h40,if_neg hd,if_pos h]
 exact run_fuel _ _ _ _ h1.2 (by show s.size-(r.at'+leadN letB (s.extract r.at' s.size))<_;omega) (by show s.size-(r.at'+leadN letB (s.extract r.at' s.size))<_;omega)
theorem end_none (h:nextB s r.at'≠40) (h1:digB (nextB s r.at')=false) (h2:letB (nextB s r.at')=false):toEnd s tk false r=(r,false):=by
 unfold toEnd
 rw [runR,if_neg h,if_neg (by rw [h1];decide),if_neg (by rw [h2];decide)]
theorem end_close (hr:r.at'≤s.size) (h:0<r.opn∧nextB s r.at'=41):toEnd s tk true r=toEnd s tk true (wordR s tk 1 ⟨r.at',r.opn-1,r.st⟩):=by
 have h1:=(cls_word (o:=0) hr h.2).1
 unfold toEnd
 rw [runR,if_pos h]
 exact run_fuel _ _ _ _ h1 (by show s.size-(r.at'+1)<_;omega) (by show s.size-(r.at'+1)<_;omega)
theorem end_sign (h : ¬ (0<r.opn∧nextB s r.at'=41)) (hlt:r.at'<s.size) (hs : ¬ signI (nextB s r.at')<0):toEnd s tk true r=toEnd s tk false (wordR s tk 1 r):=by
 have e:runR s tk (s.size+1) true r=runR s tk s.size false (wordR s tk 1 r):=by rw [runR,if_neg h,if_pos hlt,if_neg hs]
 unfold toEnd
 rw [e]
 exact run_fuel _ _ _ _ hlt (by show s.size-(r.at'+1)<_;omega) (by show s.size-(r.at'+1)<_;omega)
theorem end_bad (h : ¬ (0<r.opn∧nextB s r.at'=41)) (hlt:r.at'<s.size) (hs:signI (nextB s r.at')<0):toEnd s tk true r=(r,false):=by
 unfold toEnd
 rw [runR,if_neg h,if_pos hlt,if_pos hs]
theorem end_end (h : ¬ (0<r.opn∧nextB s r.at'=41)) (hlt : ¬ r.at'<s.size):toEnd s tk true r=(r,decide (r.opn=0)):=by
 unfold toEnd
 rw [runR,if_neg h,if_neg hlt]
theorem end_opens:∀ (f:Nat) (r:Rd S),r.at'≤s.size→toEnd s tk false r=toEnd s tk false (opensR s tk f r)
 | 0,_,_=>rfl
 | f+1,r,hr=>by
  rw [opensR]
  split
  ·rename_i h
   rw [end_open hr h]
   exact end_opens f _ (opn_word (o:=0) hr h).1
  ·rfl
theorem opened_ne:∀ (f:Nat) (r:Rd S),r.at'≤s.size→s.size-r.at'≤f→nextB s (opensR s tk f r).at'≠40
 | 0,r,hr,hf=>by
  have e:r.at'=s.size:=by omega
  rw [opensR,e,nextB,if_pos rfl]
  decide
 | f+1,r,hr,hf=>by
  rw [opensR]
  split
  ·rename_i h
   have h1:=(opn_word (o:=0) hr h).1
   exact opened_ne f _ h1 (by show s.size-(r.at'+1)≤f;omega)
  ·rename_i h;exact h
theorem end_closes:∀ (f:Nat) (r:Rd S),r.at'≤s.size→toEnd s tk true r=toEnd s tk true (closesR s tk f r)
 | 0,_,_=>rfl
 | f+1,r,hr=>by
  rw [closesR]
  split
  ·rename_i h
   rw [end_close hr h]
   exact end_closes f _ (cls_word (o:=0) hr h.2).1
  ·rfl
theorem closed_ne:∀ (f:Nat) (r:Rd S),r.at'≤s.size→s.size-r.at'≤f→¬ (0<(closesR s tk f r).opn∧nextB s (closesR s tk f r).at'=41)
 | 0,r,hr,hf=>by
  have e:r.at'=s.size:=by omega
  rw [closesR,e,nextB,if_pos rfl]
  intro h
  exact absurd h.2 (by decide)
 | f+1,r,hr,hf=>by
  rw [closesR]
  split
  ·rename_i h
   have h1:=(cls_word (o:=0) hr h.2).1
   exact closed_ne f _ h1 (by show s.size-(r.at'+1)≤f;omega)
  ·rename_i h;exact h
theorem end_operand (hr:r.at'≤s.size):((operandR s tk r).2=true∧toEnd s tk false r=toEnd s tk true (operandR s tk r).1∧¬ (0<(operandR s tk r).1.opn∧nextB s (operandR s tk r).1.at'=41))∨((operandR s tk r).2=false∧toEnd s tk false r=((operandR s tk r).1,false)):=by
 have ho:(openedR s tk r).at'≤s.size:=opens_in _ r hr
 have e0:toEnd s tk false r=toEnd s tk false (openedR s tk r):=end_opens _ r hr
 have hne:nextB s (openedR s tk r).at'≠40:=opened_ne _ r hr (Nat.le_refl _)
 cases hd:digB (nextB s (openedR s tk r).at')
 ·cases hl:letB (nextB s (openedR s tk r).at')
  ·right
   have e:=opnd_no (s:=s) (tk:=tk) (r:=r) hd hl
   rw [e]
   exact ⟨rfl,by rw [e0];exact end_none hne hd hl⟩
  ·left
   have e:=opnd_let (s:=s) (tk:=tk) (r:=r) hd hl
   rw [e]
   have h1:=let_pos ho hl
   refine ⟨rfl,?_,closed_ne _ _ h1.2 (by omega)⟩
   rw [e0,end_let ho hl]
   exact end_closes _ _ h1.2
 ·left
  have e:=opnd_dig (s:=s) (tk:=tk) (r:=r) hd
  rw [e]
  have h1:=dig_pos ho hd
  refine ⟨rfl,?_,closed_ne _ _ h1.2 (by omega)⟩
  rw [e0,end_dig ho hd]
  exact end_closes _ _ h1.2
theorem end_loop:∀ (f:Nat) (r:Rd S),r.at'≤s.size→s.size-r.at'≤f→¬ (0<r.opn∧nextB s r.at'=41)→toEnd s tk true r=if (loopR s tk f r).2 then ((loopR s tk f r).1,decide ((loopR s tk f r).1.opn=0)) else ((loopR s tk f r).1,false)
 | 0,r,hr,hf,hc=>by
  rw [loopR,if_pos rfl]
  exact end_end hc (by omega)
 | f+1,r,hr,hf,hc=>by
  by_cases hlt:r.at'<s.size
  ·by_cases hs:signI (nextB s r.at')<0
   ·have e:signR s tk r=(r,false):=by rw [signR,if_pos hs]
    rw [loop_sgn hlt (by rw [e]),e,if_neg (fun e=>Bool.noConfusion e)]
    exact end_bad hc hlt hs
   ·have e:signR s tk r=(wordR s tk 1 r,true):=by rw [signR,if_neg hs]
    have h1:(wordR s tk 1 r).at'≤s.size:=hlt
    rw [end_sign hc hlt hs]
    rcases end_operand (tk:=tk) h1 with ⟨g1,g2,g3⟩ | ⟨g1,g2⟩
    ·rw [loop_on hlt (by rw [e]) (by rw [e];exact g1),e,g2]
     have hat:=operand_at (s:=s) (tk:=tk) (wordR s tk 1 r)
     have hw:(wordR s tk 1 r).at'=r.at'+1:=rfl
     exact end_loop f _ (operand_in _ h1) (by omega) g3
    ·rw [loop_opd hlt (by rw [e]) (by rw [e];exact g1),e,if_neg (fun e=>Bool.noConfusion e)]
     exact g2
  ·rw [loop_end hlt,if_pos rfl]
   exact end_end hc hlt
theorem all_end_eq (hr:r.at'≤s.size):allR s tk r=toEnd s tk false r:=by
 rcases end_operand (tk:=tk) hr with ⟨g1,g2,g3⟩ | ⟨g1,g2⟩
 ·rw [g2,end_loop s.size _ (operand_in _ hr) (by omega) g3]
  unfold allR
  rw [if_pos g1]
 ·rw [g2,all_no g1]
end
end Go.Proofs.YtglekooldbeklaaGreatDoor
