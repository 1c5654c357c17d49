/- A text read from the o -/
import Derived.Test.YthlhjjabkgpenaaGreatDoorJTAQ
namespace Go.Proofs.YthlhjjabkgpenaaGreatDoor
open ChangeShapes WideShapes ChangeAt RowKit
set_option maxRecDepth 99999
set_option maxHeartbeats 0
def kB (w:ByteArray):Tre:=if 97≤byteN w 0∧byteN w 0≤122 then .ref w else .num (numW w)
theorem qu (w:ByteArray) (k:Nat):post (kB w) k=[opndN w]∧sizT (kB w)=1:=by
 unfold kB opndN
 split
 ·exact ⟨rfl,rfl⟩
 exact ⟨rfl,rfl⟩
inductive Spl:Nat→Tre→List ByteArray→Prop
 | word (w:ByteArray):48≤byteN w 0→Spl 3 (kB w) [w]
 | brk (t:Tre) (ws:List ByteArray):Spl 1 t ws→Spl 3 t ([⟨#[40]⟩] ++ ws ++ [⟨#[41]⟩])
 | up (k:Nat) (t:Tre) (ws:List ByteArray):1≤k→k≤2→Spl (k+1) t ws→Spl k t ws
 | bin (k:Nat) (o:Int) (a c:Tre) (wa wc:List ByteArray):3≤o→o≤6→bindN o=(k:Int)→Spl k a wa→Spl (k+1) c wc→Spl k (.bin o a c) (wa ++ [GQ o] ++ wc)
theorem Fi {k:Nat} {t:Tre} {ws:List ByteArray} (h:Spl k t ws):∀ (b:Bld),G4 b (k:Int)→∀ least:Int,least≤k→settleB least (ws.foldl takeB b)=settleB least (dA t b):=by
 induction h with
 | word w hw =>
  intro b _ least _
  show settleB least (takeB b w)=_
  rw [ft hw];obtain ⟨f,g⟩:=qu w b.nodes.length;unfold dA jC;rw [f,g]
  rfl
 | brk t ws _ ih =>
  intro b _ least _;have:=Fl (l:=ws) (t:=t) (b:=b) (ih _ (tO _ _ _ _) 0 (by omega))
  rw [IX,if_pos rfl] at this;rw [this]
 | up k t ws h1 h2 _ ih =>
  intro b e least d;exact ih b (e.up (by omega)) least (by omega)
 | bin k o a c wa wc h1 h2 h3 _ _ iha ihc =>
  intro b e least d;have f:settleB (bindN o) (wa.foldl takeB b)=dA a b:=by
   rw [h3,iha b e k (Int.le_refl _)];exact ko (tP a e)
  rw [List.foldl_append,List.foldl_append]
  show settleB least (wc.foldl takeB (takeB (wa.foldl takeB b) (GQ o)))=_
  rw [Cs _ ⟨h1,h2⟩,f,ihc ⟨(dA a b).nodes,(dA a b).ready,(dA a b).waiting ++ [o]⟩ (Or.inr ⟨_,o,rfl,Or.inr (by rw [h3];omega)⟩) least (by omega)]
  show settleB least ⟨(dA c ⟨(dA a b).nodes,(dA a b).ready,b.waiting ++ [o]⟩).nodes,(dA c ⟨(dA a b).nodes,(dA a b).ready,b.waiting ++ [o]⟩).ready,b.waiting ++ [o]⟩=_
  rw [xy (by omega) (by rw [h3];exact d),AJ]
def rc (s:ByteArray) (k a a':Nat) (t:Tre):Prop:=a<a'∧a'≤s.size∧∃ ws,Spl k t ws∧∀ r:Rd Bld,r.at'=a→bX s takeB false r=bX s takeB true ⟨a',r.opn,ws.foldl takeB r.st⟩
def CM (s:ByteArray) (a a':Nat):Prop:=a≤a'∧a'≤s.size∧∀ r:Rd Bld,r.at'=a→∃ o st,bX s takeB false r=(⟨a',o,st⟩,false)
def pq (s:ByteArray) (k a:Nat):Prop:=a<s.size→signI (nextB s a)<0∨bindN (3+signI (nextB s a))<(k:Int)
section
variable {s:ByteArray} {k a a1 a2 a':Nat} {t u:Tre}
theorem f7 {n:Nat} (b:a<s.size) (c:1≤n):byteN (s.extract a (a+n)) 0=nextB s a:=by
 rw [eS (by omega),nextB,if_neg (by omega),Nat.add_zero]
theorem GH (b:a≤s.size) (h:bV (nextB s a)=true):rc s 3 a (a+digitsN s a) (kB (s.extract a (a+digitsN s a))):=by
 obtain ⟨d,e⟩:=kv b h;obtain ⟨i,j⟩:=kw (o:=0) b h;refine ⟨by omega,e,[s.extract a (a+digitsN s a)],Spl.word _ ?_,fun r c=>?_⟩
 ·have f:=f7 (by omega:a<s.size) d
  rw [f];unfold bV at h
  simp at h
  omega
 have g:=yB (tk:=takeB) (r:=r) (by rw [c];exact b) (by rw [c];exact h)
 rw [g,wordR,c]
 rfl
theorem GI (c:a≤s.size) (h:bD (nextB s a)=true):rc s 3 a (a+leadN bD (s.extract a s.size)) (kB (s.extract a (a+leadN bD (s.extract a s.size)))):=by
 obtain ⟨d,e⟩:=kC c h;refine ⟨by omega,e,[s.extract a (a+leadN bD (s.extract a s.size))],Spl.word _ ?_,fun r b=>?_⟩
 ·have f:=f7 (by omega:a<s.size) d
  rw [f];unfold bD at h
  simp at h
  omega
 have g:=yC (tk:=takeB) (r:=r) (by rw [b];exact c) (by rw [b];exact h)
 rw [g,wordR,b]
 rfl
theorem gJ (g:a<s.size) (c:UInt8) (h:nextB s a=(c.toNat:Int)):s.extract a (a+1)=⟨#[c]⟩:=by
 have k:=dB (s:=s) (a:=a) (n:=1) (by omega)
 have d:=f7 (n:=1) g (by omega)
 rw [h] at d;apply ByteArray.ext;apply Array.ext
 ·exact k
 intro i b f;have j:i=0:=by simp at f;omega
 subst j;have e:byteN (s.extract a (a+1)) 0=(((s.extract a (a+1)).data[0]'b).toNat:Int):=by
  unfold byteN;rw [List.getD,zX (by rw [Array.length_toList];exact b)]
  rfl
 rw [e] at d;have:((s.extract a (a+1)).data[0]'b).toNat=c.toNat:=by omega
 simpa using UInt8.toNat_inj.1 this
theorem GG (i:a≤s.size) (b:nextB s a=40) (h:rc s 1 (a+1) a1 t) (c:nextB s a1=41):rc s 3 a (a1+1) t:=by
 obtain ⟨o,g,ws,m,n⟩:=h;have f:a<s.size:=bY (by rw [b];decide) i
 have d:a1<s.size:=bY (by rw [c];decide) g
 refine ⟨by omega,by omega,_,Spl.brk t ws m,fun r e=>?_⟩
 have j:=kx (tk:=takeB) (r:=r) (by rw [e];exact i) (by rw [e];exact b)
 have k:=n (wordR s takeB 1 ⟨r.at',r.opn+1,r.st⟩) (by rw [wordR,e])
 have l:=qa (tk:=takeB) (r:=⟨a1,(wordR s takeB 1 ⟨r.at',r.opn+1,r.st⟩).opn,ws.foldl takeB (wordR s takeB 1 ⟨r.at',r.opn+1,r.st⟩).st⟩) g ⟨by show 0<r.opn+1;omega,c⟩
 rw [j,k,l];unfold wordR;simp only;rw [e,gJ f 40 (by rw [b];rfl),gJ d 41 (by rw [c];rfl),List.foldl_append,List.foldl_append]
 rfl
theorem Ik (b:1≤k) (c:k≤2) (h:rc s (k+1) a a' t):rc s k a a' t:=by
 obtain ⟨g1,g2,ws,g3,g4⟩:=h;exact ⟨g1,g2,ws,Spl.up k t ws b c g3,g4⟩
theorem sgn_four {c:Int} (h : ¬ signI c<0):(c=43∧signI c=0)∨(c=45∧signI c=1)∨(c=42∧signI c=2)∨(c=47∧signI c=3):=by
 unfold signI at *
 by_cases a:c=43
 ·left;exact ⟨a,by rw [if_pos a]⟩
 by_cases b:c=45
 ·right;left;exact ⟨b,by rw [if_neg a,if_pos b]⟩
 by_cases d:c=42
 ·right;right;left;exact ⟨d,by rw [if_neg a,if_neg b,if_pos d]⟩
 by_cases e:c=47
 ·right;right;right;exact ⟨e,by rw [if_neg a,if_neg b,if_neg d,if_pos e]⟩
 rw [if_neg a,if_neg b,if_neg d,if_neg e] at h;omega
theorem qS (b:a<s.size) (h : ¬ signI (nextB s a)<0):s.extract a (a+1)=GQ (3+signI (nextB s a))∧3≤3+signI (nextB s a)∧3+signI (nextB s a)≤6∧nextB s a≠41:=by
 rcases sgn_four h with ⟨e,c⟩ | ⟨e,c⟩ | ⟨e,c⟩ | ⟨e,c⟩
 ·rw [c,gJ b 43 (by rw [e];rfl),e];exact ⟨rfl,by omega,by omega,by omega⟩
 ·rw [c,gJ b 45 (by rw [e];rfl),e];exact ⟨rfl,by omega,by omega,by omega⟩
 ·rw [c,gJ b 42 (by rw [e];rfl),e];exact ⟨rfl,by omega,by omega,by omega⟩
 rw [c,gJ b 47 (by rw [e];rfl),e];exact ⟨rfl,by omega,by omega,by omega⟩
theorem GF (h:rc s k a a1 t) (b:a1<s.size) (c : ¬ signI (nextB s a1)<0) (m:bindN (3+signI (nextB s a1))=(k:Int)) (l:rc s (k+1) (a1+1) a2 u):rc s k a a2 (.bin (3+signI (nextB s a1)) t u):=by
 obtain ⟨g1,g2,ws,g3,g4⟩:=h;obtain ⟨o,g,vs,i,j⟩:=l;obtain ⟨w1,w2,w3,w4⟩:=qS b c;refine ⟨by omega,g,_,Spl.bin k _ t u ws vs w2 w3 m g3 i,fun r n=>?_⟩
 have d:=ny (tk:=takeB) (r:=⟨a1,r.opn,ws.foldl takeB r.st⟩) (fun e=>w4 e.2) b c
 have f:=j (wordR s takeB 1 ⟨a1,r.opn,ws.foldl takeB r.st⟩) rfl;rw [g4 r n,d,f];unfold wordR;simp only;rw [w1,List.foldl_append,List.foldl_append]
 rfl
/-! where it goes wrong -/
theorem Dv (e:a≤s.size) (h:nextB s a≠40) (c:bV (nextB s a)=false) (d:bD (nextB s a)=false):CM s a a :=
 ⟨zT,e,fun r b=>⟨r.opn,r.st,by rw [td (by rw [b];exact h) (by rw [b];exact c) (by rw [b];exact d),←b]⟩⟩
theorem Dw (f:a≤s.size) (b:nextB s a=40) (h:CM s (a+1) a'):CM s a a':=by
 obtain ⟨g,d,e⟩:=h;refine ⟨by omega,d,fun r c=>?_⟩
 rw [kx (by rw [c];exact f) (by rw [c];exact b)]
 exact e _ (by rw [wordR,c])
theorem Dx (j:a≤s.size) (d:nextB s a=40) (h:rc s 1 (a+1) a1 t) (k:pq s 1 a1) (c:nextB s a1≠41):CM s a a1:=by
 obtain ⟨m,g,ws,n,i⟩:=h;refine ⟨by omega,g,fun r f=>?_⟩
 rw [kx (tk:=takeB) (r:=r) (by rw [f];exact j) (by rw [f];exact d),i _ (by rw [wordR,f])]
 by_cases b:a1<s.size
 ·have l:signI (nextB s a1)<0:=by
   rcases k b with h | h
   ·exact h
   have:=m9 (3+signI (nextB s a1));omega
  rw [rt (fun e=>c e.2) b l]
  exact ⟨_,_,rfl⟩
 rw [mA (fun e=>c e.2) b]
 refine ⟨(wordR s takeB 1 ⟨r.at',r.opn+1,r.st⟩).opn,ws.foldl takeB (wordR s takeB 1 ⟨r.at',r.opn+1,r.st⟩).st,?_⟩;rw [decide_eq_false (show ¬ (wordR s takeB 1 ⟨r.at',r.opn+1,r.st⟩).opn=0 by show ¬ r.opn+1=0;omega)]
theorem Dy (h:rc s k a a1 t) (b:a1<s.size) (c : ¬ signI (nextB s a1)<0) (g:CM s (a1+1) a2):CM s a a2:=by
 obtain ⟨g1,g2,ws,g3,g4⟩:=h;obtain ⟨j,d,f⟩:=g;obtain ⟨w1,w2,w3,w4⟩:=qS b c;refine ⟨by omega,d,fun r i=>?_⟩
 rw [g4 r i,ny (tk:=takeB) (r:=⟨a1,r.opn,ws.foldl takeB r.st⟩) (fun e=>w4 e.2) b c]
 exact f _ rfl
end
/-! all of a text -/
section
variable {s:ByteArray} {a':Nat} {t:Tre}
theorem E0 (h:rc s 1 0 s.size t):(dz s).2=true∧eg s=post t 0:=by
 obtain ⟨d,f,ws,a,c⟩:=h;have e:dz s=(⟨s.size,0,ws.foldl takeB noB⟩,true):=by
  unfold dz;rw [jV (r:=⟨0,0,noB⟩) (zU),c ⟨0,0,noB⟩ rfl,mA (fun e=>absurd e.1 (Nat.lt_irrefl 0)) (Nat.lt_irrefl _)]
  rfl
 refine ⟨by rw [e],?_⟩
 unfold eg;rw [e]
 show (settleB 0 (ws.foldl takeB noB)).nodes=_
 rw [Fi a noB (Or.inl rfl) 0 (by omega)]
 rw [ko (b:=dA t noB) (Or.inl rfl)]
 show [] ++ post t 0=_
 rfl
theorem BP (h:rc s 1 0 a' t) (c:pq s 1 a') (a:a'<s.size):(dz s).2=false∧(dz s).1.at'=a':=by
 obtain ⟨f,g,ws,i,b⟩:=h;have d:signI (nextB s a')<0:=by
  rcases c a with h | h
  ·exact h
  have:=m9 (3+signI (nextB s a'));omega
 have e:dz s=(⟨a',0,ws.foldl takeB noB⟩,false):=by
  unfold dz;rw [jV (r:=⟨0,0,noB⟩) (zU),b ⟨0,0,noB⟩ rfl,rt (fun e=>absurd e.1 (Nat.lt_irrefl 0)) a d]
 rw [e];exact ⟨rfl,rfl⟩
theorem E3 (h:CM s 0 a'):(dz s).2=false∧(dz s).1.at'=a':=by
 obtain ⟨c,d,b⟩:=h;obtain ⟨o,st,e⟩:=b ⟨0,0,noB⟩ rfl;have a:dz s=(⟨a',o,st⟩,false):=by
  unfold dz;rw [jV (r:=⟨0,0,noB⟩) (zU),e]
 rw [a];exact ⟨rfl,rfl⟩
end
def eo (w:World) (q:Nat) (s:ByteArray) (a:Nat) (bad:Bool) (v:Value):Prop:=w.heap[q]?=some (.cells #[.string s,.int .i64 a,.bool bad,v] 138 (0,0))
section
variable {w w':World} {q a:Nat} {s:ByteArray} {bad:Bool} {v:Value}
theorem eo.lt (h:eo w q s a bad v):q<w.heap.size:=(zY h).1
theorem eo.c0 (h:eo w q s a bad v):w.cell? ⟨q,0,none⟩=some (.string s):=by unfold eo at h;simp [World.cell?,h]
theorem eo.c1 (h:eo w q s a bad v):w.cell? ⟨q,1,none⟩=some (.int .i64 a):=by unfold eo at h;simp [World.cell?,h]
theorem eo.c2 (h:eo w q s a bad v):w.cell? ⟨q,2,none⟩=some (.bool bad):=by unfold eo at h;simp [World.cell?,h]
theorem eo.c3 (h:eo w q s a bad v):w.cell? ⟨q,3,none⟩=some v:=by unfold eo at h;simp [World.cell?,h]
theorem eo.fr (h:eo w q s a bad v) (j:Nat):w.frozen? ⟨q,j,none⟩=false:=by unfold eo at h;simp [World.frozen?,h]
theorem eo.later (h:eo w q s a bad v) (b:Bl w w'):eo w' q s a bad v:=(b.block q h.lt).trans h
theorem eo.same (h:eo w q s a bad v) (b:w'.heap[q]?=w.heap[q]?):eo w' q s a bad v:=b.trans h
theorem eo.set1 (h:eo w q s a bad v) (n:Nat):eo (w.setCell ⟨q,1,none⟩ (.int .i64 n)) q s n bad v:=by
 unfold eo at *;rw [setCell_eq_setRow w q 1 _ _ (0,0) _ h,setRow_heap w q _ _ _ _ h]
 rfl
theorem eo.set2 (h:eo w q s a bad v) (b:Bool):eo (w.setCell ⟨q,2,none⟩ (.bool b)) q s a b v:=by
 unfold eo at *;rw [setCell_eq_setRow w q 2 _ _ (0,0) _ h,setRow_heap w q _ _ _ _ h]
 rfl
theorem eo.set3 (h:eo w q s a bad v) (u:Value):eo (w.setCell ⟨q,3,none⟩ u) q s a bad u:=by
 unfold eo at *;rw [setCell_eq_setRow w q 3 _ _ (0,0) _ h,setRow_heap w q _ _ _ _ h]
 rfl
end
theorem Hz (q a:Nat) (s:ByteArray) (v:Value) (lo c:Int) (w:World) (b:eo w q s a true v):Rt 139 #[.pointer (some ⟨q,0,none⟩),.int .u8 lo,.int .u8 c] w (.bool false):=by
 have c0:=b.c0;have c1:=b.c1;have c2:=b.c2;have d:=b.lt;clear b
 go_enter Tryz.func139,Tryz.ntmps139
 go_wp2_with fail
 go_quiet (fail)
 go_wp2_with fail;go_ret;exact ⟨rfl,ac (zS) _⟩
theorem fz (q a:Nat) (s:ByteArray) (v:Value) (lo h:Int) (w:World) (n:0<lo) (m:a≤s.size) (b:eo w q s a false v):Rt 139 #[.pointer (some ⟨q,0,none⟩),.int .u8 lo,.int .u8 h] w (.bool (decide (lo≤nextB s a) && decide (nextB s a≤h))):=by
 have c0:=b.c0;have c1:=b.c1;have c2:=b.c2;have o:=b.lt;clear b
 by_cases g:a=s.size
 ·subst g
  have d:nextB s s.size=0:=by simp [nextB]
  rw [d,decide_eq_false (by omega),Bool.false_and]
  go_enter Tryz.func139,Tryz.ntmps139
  go_wp2_with fail
  go_quiet (fail)
  go_wp2_with fail;go_ret;exact ⟨rfl,ac (zS) _⟩
 have f:a<s.size:=by omega
 have i:(a:Int)<(s.size:Int):=by omega
 have d:nextB s a=byteN s a:=by simp [nextB,g]
 have j:=cM s a f;rw [d]
 by_cases c:lo≤byteN s a
 ·rw [decide_eq_true c,Bool.true_and]
  go_enter Tryz.func139,Tryz.ntmps139
  go_wp2_with fail
  go_quiet (fail)
  go_wp2_with fail;go_ret;exact ⟨by first | rfl | simp,ac (zS) _⟩
 rw [decide_eq_false c,Bool.false_and];have e:byteN s a<lo:=by omega
 have k:decide (lo≤byteN s a)=false:=decide_eq_false c;have l:decide (byteN s a<lo)=true:=decide_eq_true e;clear c
 go_enter Tryz.func139,Tryz.ntmps139
 go_wp2_with fail
 go_quiet (fail)
 go_wp2_with fail;go_ret;exact ⟨rfl,ac (zS) _⟩
theorem EW (op:Int) (w:World):Rt 117 #[.int .i64 op] w (.int .i64 (bindN op)):=by
 unfold bindN
 by_cases a:op=3
 ·subst a
  go_enter Tryz.func117,Tryz.ntmps117
  go_wp2;go_ret;exact ⟨by simp,by go_grown⟩
 by_cases b:op=4
 ·subst b
  go_enter Tryz.func117,Tryz.ntmps117
  go_wp2;go_ret;exact ⟨by simp,by go_grown⟩
 by_cases c:op=5
 ·subst c
  go_enter Tryz.func117,Tryz.ntmps117
  go_wp2;go_ret;exact ⟨by simp,by go_grown⟩
 by_cases d:op=6
 ·subst d
  go_enter Tryz.func117,Tryz.ntmps117
  go_wp2;go_ret;exact ⟨by simp,by go_grown⟩
 rw [if_neg (by omega),if_neg (by omega)]
 have e:(op == 3)=false:=by simpa using a
 have f:(op == 4)=false:=by simpa using b
 have g:(op == 5)=false:=by simpa using c
 have h:(op == 6)=false:=by simpa using d
 clear a b c d
 go_enter Tryz.func117,Tryz.ntmps117
 go_wp2;go_ret;exact ⟨rfl,by go_grown⟩
def sx (s:ByteArray) (q base k a:Nat) (L:List Nd) (w:World) (e:Ending) (w':World):Prop :=
 Kept base (fun j=>j=q) w w'∧((∃ (a':Nat) (t:Tre) (v':Value),e=.returned (.int .i64 ((L.length+sizT t-1:Nat):Int))∧rc s k a a' t∧pq s k a'∧eo w' q s a' false v'∧w'.ownsRow base 142 5 v' (L ++ post t L.length).length (aK (L ++ post t L.length))∧a+sizT t≤a')
  ∨ (∃ (i:Int) (a':Nat) (v':Value) (L':List Nd),e=.returned (.int .i64 i)∧CM s a a'∧eo w' q s a' true v'∧w'.ownsRow base 142 5 v' L'.length (aK L')))
def m5 (s:ByteArray) (q base k a:Nat):Prop := ∀ (v:Value) (L:List Nd) (w:World),eo w q s a false v→q<base→base≤w.heap.size→w.ownsRow base 142 5 v L.length (aK L)→L.length≤a→Calls Tryz.prog 84 #[.pointer (some ⟨q,0,none⟩),.int .i64 k] w fun e w'=>sx s q base k a L w e w'
def FM (s:ByteArray) (q base a:Nat):Prop := ∀ (v:Value) (L:List Nd) (w:World),eo w q s a false v→q<base→base≤w.heap.size→w.ownsRow base 142 5 v L.length (aK L)→L.length≤a→Calls Tryz.prog 116 #[.pointer (some ⟨q,0,none⟩)] w fun e w'=>sx s q base 3 a L w e w'
theorem Hc (s:ByteArray) (a:Nat):pq s 3 a:=fun _=>by
 by_cases h:signI (nextB s a)<0
 ·exact Or.inl h
 right
 rcases sgn_four h with ⟨-,e⟩ | ⟨-,e⟩ | ⟨-,e⟩ | ⟨-,e⟩ <;> rw [e] <;> decide
theorem eH {N:Nat} {q j:Nat} {w:World} {v:Value}:Kept N (fun i=>i=q) w (w.setCell ⟨q,j,none⟩ v) :=
 ⟨rfl,rfl,rfl,by simp,fun k _ a=>ao w q j k v a⟩
theorem fL {w:World} {base q j:Nat} {v u:Value} {n:Nat} {a:List Value} {e size:Nat} (h:w.ownsRow base e size v n a) (c:q<base):(w.setCell ⟨q,j,none⟩ u).ownsRow base e size v n a :=
 be h fun g b=>ao _ _ _ _ _ (by have:=(aC h b).1;omega)
theorem yM {p:Int→Bool} {t:ByteArray} {m:Nat} (a:∀ i,i<m→p (byteN t i)=true) (b:m≤t.size):∀ (f i:Nat),i≤m→i+f=t.size→m≤leadTo p t f i
 | 0,i,hi,hf=>by rw [leadTo];omega
 | f+1,i,hi,hf=>by
  by_cases e:i=m
  ·subst e
   exact (iz p t (f+1) i).1
  rw [tF (a i (by omega))]
  exact yM a b f (i+1) (by omega) (by omega)
section
variable {s:ByteArray} {a k:Nat}
theorem ky {i:Nat} (h:a+i<s.size):byteN (s.extract a s.size) i=nextB s (a+i):=by
 rw [eS (by omega),nextB,if_neg (by omega)]
theorem pZ (l:1≤k) (h:a+k≤s.size) (b:∀ i,i<k→bV (nextB s (a+i))=true) (n:nextB s a≠48) (f:k=7∨bV (nextB s (a+k))=false) (m:k≤7):digitsN s a=k:=by
 have d:=ic s a;have g:∀ i,i<k→bV (byteN (s.extract a s.size) i)=true:=fun i j=>by rw [ky (by omega)];exact b i j
 unfold digitsN;rw [if_neg n]
 by_cases e:k=7
 ·have:=yM g (by rw [d];omega) (s.extract a s.size).size 0 (zU) (Nat.zero_add _)
  unfold leadN
  omega
 have c:=f.resolve_left e;have:leadN bV (s.extract a s.size)=k:=by
  refine iA g ?_ _ 0 (zU) (Nat.zero_add _)
  by_cases o:a+k=s.size
  ·left;rw [d];omega
  right;rw [ky (by omega)];exact c
 omega
theorem p8 (b:nextB s a=48):digitsN s a=1:=by unfold digitsN;rw [if_pos b]
theorem AU (e:a+k≤s.size) (b:∀ i,i<k→bD (nextB s (a+i))=true) (c:bD (nextB s (a+k))=false):leadN bD (s.extract a s.size)=k:=by
 have d:=ic s a;refine iA (fun i f=>by rw [ky (by omega)];exact b i f) ?_ _ 0 (zU) (Nat.zero_add _)
 by_cases g:a+k=s.size
 ·left;rw [d];omega
 right;rw [ky (by omega)];exact c
theorem Cu:∀ k,k<7→(10:Int) ^ k≤1000000:=by decide
theorem qC:numW (s.extract a (a+0))=0:=by
 have:(s.extract a (a+0)).size=0:=by rw [ByteArray.size_extract];omega
 rw [wy this]
 rfl
theorem Bm (h:a+k<s.size):numW (s.extract a (a+(k+1)))=numW (s.extract a (a+k))*10+(nextB s (a+k)-48):=by
 have e:(s.extract a (a+(k+1))).data.toList=(s.extract a (a+k)).data.toList ++ [s[a+k]]:=by
  apply List.ext_getElem?;intro i;rw [List.getElem?_append];simp only [ByteArray.data_extract,Array.toList_extract,List.extract_eq_take_drop,List.getElem?_take,List.getElem?_drop,List.length_take,List.length_drop,Array.length_toList];have f:s.data.size=s.size:=rfl
  by_cases g:i<k
  ·rw [if_pos (by omega),if_pos (by omega),if_pos (by omega)]
  by_cases b:i=k
  ·subst b
   rw [if_pos (by omega),if_neg (by omega)]
   have c:i-min (a+i-a) (s.data.size-a)=0:=by omega
   rw [c]
   simp [zX (show a+i<s.data.toList.length by simpa using h)]
   rfl
  rw [if_neg (by omega),if_neg (by omega)]
  rw [List.getElem?_eq_none (by simp;omega)]
 unfold numW;rw [e,List.foldl_append];have d:=cM s (a+k) h;rw [nextB,if_neg (by omega),←d]
 rfl
end
section
variable {w w4 W w6:World} {base q a a1 m:Nat} {v v':Value} {s wd:ByteArray} {L:List Nd} {x:Nd}
theorem rj (a:eo w q s a1 false v) (c:w.ownsRow base 142 5 v m (aK L)) (f:q<base) (b:Bl w W) (d:W.grownBy w6 v.ownBlock):eo w6 q s a1 false v :=
 a.same ((d.block q (zW a.lt b.size) (fun e=>by have:=(aC c e.symm).1;omega)).trans (b.block q a.lt))
theorem yj (g:eo w q s a1 false v) (f:w.ownsRow base 142 5 v m (aK L)) (c:q<base) (h:base≤w.heap.size) (a:Bl w W) (b:W.grownBy w6 v.ownBlock) (i:w6.ownsRow base 142 5 v' (m+1) (aK L ++ cY x)) :
  eo (w6.setCell ⟨q,3,none⟩ v') q s a1 false v'∧(w6.setCell ⟨q,3,none⟩ v').ownsRow base 142 5 v' (m+1) (aK (L ++ [x]))∧Kept base (fun j=>j=q) w (w6.setCell ⟨q,3,none⟩ v'):=by
 refine ⟨(rj g f c a b).set3 _,fL (by rw [lP];exact i) c,?_⟩
 have d:Kept base (fun j=>j=q) w w6:=⟨b.os.trans a.os,b.tape.trans a.tape,b.output.trans a.output,zV a.size b.size,fun k l _=>(b.block k (by have:=a.size;omega) (fun e=>by have:=(aC f e.symm).1;omega)).trans (a.block k (by omega))⟩
 exact d.trans eH
theorem um (d:L.length=m) (e:rc s 3 a a1 (kB wd)) (k:Kept base (fun j=>j=q) w w4) (i:eo w4 q s a1 false v) (l:w4.ownsRow base 142 5 v m (aK L)) (c:q<base) (b:base≤w4.heap.size) (n:Bl w4 W) (o:W.grownBy w6 v.ownBlock) (p:w6.ownsRow base 142 5 v' (m+1) (aK L ++ cY (opndN wd))) :
  sx s q base 3 a L w (.returned (.int .i64 (m:Int))) (w6.setCell ⟨q,3,none⟩ v'):=by
 obtain ⟨f,g,h⟩:=yj i l c b n o p;obtain ⟨p1,p2⟩:=qu wd L.length;refine ⟨k.trans h,Or.inl ⟨a1,kB wd,_,by rw [p2,Nat.add_sub_cancel,d],e,Hc _ _,f,?_,by rw [p2];have:=e.1;omega⟩⟩
 rw [p1,List.length_append,d];exact g
end
theorem Gr (s:ByteArray) (q base a:Nat) (hs:s.size≤100) (ha:a≤s.size) (P:bV (nextB s a)=true):FM s q base a:=by
 intro v L w K LE O T hLa;have HI:=aa K;have HOw:=aa T;have c0:=K.c0;have c1:=K.c1;have c2:=K.c2;have hq:=K.lt;have i1:=fun w' (F:Bl w w')=>fz q a s v 48 57 w' (by omega) ha (K.later F)
 have i2:=fun w' (F:Bl w w')=>fz q a s v 97 122 w' (by omega) ha (K.later F)
 have i3:=fun w' (F:Bl w w')=>fz q a s v 40 40 w' (by omega) ha (K.later F)
 have e1:(decide (48≤nextB s a) && decide (nextB s a≤57))=bV (nextB s a):=rfl;have e2:(decide (97≤nextB s a) && decide (nextB s a≤122))=bD (nextB s a):=rfl;rw [e1] at i1;rw [e2] at i2;have hsi:(s.size:Int)≤100:=by omega
 have hai:(a:Int)≤(s.size:Int):=by omega
 clear K T e1 e2;have hle:bD (nextB s a)=false:=by unfold bV at P;unfold bD;simp at P ⊢;omega
 have h40:nextB s a≠40:=by intro e;rw [e] at P;revert P;decide
 have e3:(decide (40≤nextB s a) && decide (nextB s a≤40))=false:=by simp;omega
 have hlt:a<s.size:=bY (fun e=>by rw [e] at P;revert P;decide) ha
 rw [P] at i1;rw [hle] at i2;rw [e3] at i3;have HD:=aa P;clear P hle h40 e3
 go_enter Tryz.func116,Tryz.ntmps116
 go_wp2_with fail;refine (i1 _ (zS)).mono ?_;rintro e w1 ⟨rfl,hb1⟩;have HB1:=aa hb1;clear hb1;go_wp2_with fail;refine (i2 _ HB1.out).mono ?_;rintro e w2 ⟨rfl,hb2⟩;have HB2:=aa (ae HB1.out hb2);clear hb2;go_wp2_with fail;refine (i3 _ HB2.out).mono ?_;rintro e w3 ⟨rfl,hb3⟩;have G:=aa (ae HB2.out hb3);have X:=aa (HI.out.later G.out);have HO3:=aa (ar HOw.out G.out);have HS3:=aa (zV O G.out.size);clear hb3 i1 i2 i3 c0 c1 c2;have d0:=X.out.c0;have d1:=X.out.c1;have hby:=cM s a hlt;have hnx:nextB s a=byteN s a:=by rw [nextB,if_neg (by omega)]
 obtain ⟨AL,C,hv⟩:=bG HO3.out;subst hv;go_wp2_with fail
 go_quiet (fail)
 obtain ⟨W3,Lx⟩:=ax (w3.drewN nq);have N:Bl w3 W3:=by rw [←Lx];exact ac (zS) _
 have HIW:=aa (X.out.later N);have HOW:=aa (ar HO3.out N);have HKW:Hid (Kept base (fun j=>j=q) w W3):=aq (ae G.out N) O
 rw [Lx];obtain ⟨z,hz⟩:=ax ((byteN s a == 48));have HZ:Hid ((nextB s a == 48)=z):=by show _=_;rw [hnx];exact hz
 have HZ0:=aa hz;clear Lx N d0 d1 hz
 go_upto_block 0 with fail
 rw [HZ0.out]
 go_cut [8,9] from 12 (fun s8 s9 wx=>s8=.int .i64 (numW (s.extract a (a+digitsN s a)))∧eo wx q s (a+digitsN s a) false (.slice AL L.length C)∧wx.ownsRow base 142 5 (.slice AL L.length C) L.length (aK L)∧Kept base (fun j=>j=q) w wx)
 case first=>as_aux_lemma =>
  go_wp2_with fail
  go_loopg [8,9] 7 (fun g s8 s9 wr => ∃ (k:Nat),k≤7∧g=7-k∧a+k≤s.size∧s8=.int .i64 (numW (s.extract a (a+k)))∧s9=.int .i64 k∧(0≤numW (s.extract a (a+k))∧numW (s.extract a (a+k))+1≤10 ^ k)∧(z=true→k≤1)∧(∀ i,i<k→bV (nextB s (a+i))=true)∧eo wr q s (a+k) false (.slice AL L.length C)∧wr.ownsRow base 142 5 (.slice AL L.length C) L.length (aK L)∧Kept base (fun j=>j=q) w wr)
  case atStart=>exact ⟨0,by omega,rfl,by omega,by rw [qC],rfl,by rw [qC];decide,fun _=>by omega,fun i hi=>absurd hi (Nat.not_lt_zero i),HIW.out,HOW.out,HKW.out⟩
  case round =>
   obtain ⟨k,hk7,rfl,M,rfl,rfl,hnb,hzk,S,Lu,hOr,Lw⟩:=hrel;have Y:=aa hnb;have Z:=aa hzk;have U:=aa S;have B:=aa Lu;have I:=aa hOr;have H:=aa Lw;have LA:base≤wr.heap.size:=zV O Lw.size;obtain ⟨nk,LD⟩:=ax (numW (s.extract a (a+k)));have o:=aa LD;rw [LD];have A:=fz q (a+k) s (.slice AL L.length C) 48 57 wr (by omega) M Lu
   have e5:(decide (48≤nextB s (a+k)) && decide (nextB s (a+k)≤57))=bV (nextB s (a+k)):=rfl;rw [e5] at A;clear hnb hzk S Lu hOr Lw LD e5
   by_cases hk:k<7
   ·have hki:(k:Int)<7:=by omega
    cases hdk:bV (nextB s (a+k))
    ·have V:=aa hdk
     have n:Hid (digitsN s a=k):=by
      show _=_
      have hk1:1≤k:=by
       apply Nat.pos_of_ne_zero;intro e;subst e;rw [Nat.add_zero] at hdk;rw [HD.out] at hdk;cases hdk
      by_cases f:nextB s a=48
      ·have LF:z=true:=by rw [←HZ.out];simpa using f
       have:=Z.out LF;rw [p8 f];omega
      exact pZ hk1 M U.out f (Or.inr hdk) hk7
     rw [hdk] at A;clear hdk;go_wp2_with fail;refine A.mono ?_;rintro e w4 ⟨rfl,b⟩;have c:=aa b;clear b A;go_wp2_with fail;go_meet;rw [n.out];exact ⟨by rw [o.out],B.out.later c.out,ar I.out c.out,H.out.trans (aq c.out LA)⟩
    have V:=aa hdk;have hlk:a+k<s.size:=bY (fun e=>by rw [e] at hdk;revert hdk;decide) M
    rw [hdk] at A;clear hdk
    by_cases hzb:z=true∧0<k
    ·obtain ⟨f,hk0⟩:=hzb
     have hki0:0<(k:Int):=by omega
     have n:Hid (digitsN s a=k):=by
      show _=_
      have:=Z.out f;have h48:nextB s a=48:=by have:=HZ.out;rw [f] at this;simpa using this
      rw [p8 h48];omega
     subst f;go_wp2_with fail;refine A.mono ?_;rintro e w4 ⟨rfl,b⟩;have c:=aa b;clear b A;go_wp2_with fail;go_meet;rw [n.out];exact ⟨by rw [o.out],B.out.later c.out,ar I.out c.out,H.out.trans (aq c.out LA)⟩
    have J:Hid (z=true→k+1≤1):=fun e=>by
     have : ¬ 0<k:=fun h=>hzb ⟨e,h⟩
     omega
    obtain ⟨p,hp⟩:=ax (a+k);have HP:=aa hp;have hlp:p<s.size:=by omega
    have hlpi:(p:Int)<(s.size:Int):=by omega
    have hby2:=cM s p hlp;have HNx:Hid (nextB s (a+k)=byteN s p):=by show _=_;rw [nextB,if_neg (by omega),hp]
    have hdr:48≤byteN s p∧byteN s p≤57:=by have h:=V.out;rw [HNx.out] at h;unfold bV at h;simpa using h
    obtain ⟨ch,LB⟩:=ax (byteN s p);have HCh:=aa LB;rw [LB] at hby2 hdr;obtain ⟨d1,d2⟩:=hdr;have h10:(10:Int) ^ k≤1000000:=Cu k hk;have n0:0≤nk:=by have:=Y.out.1;rw [o.out] at this;exact this
    have n1:nk+1≤1000000:=by have:=Y.out.2;rw [o.out] at this;omega
    have r:Hid (numW (s.extract a (a+(k+1)))=nk*10+ch-48):=by show _=_;rw [Bm hlk,o.out,HNx.out,HCh.out];omega
    have d:Hid (eo wr q s p false (.slice AL L.length C)):=by show eo _ _ _ _ _ _;rw [←hp];exact B.out
    have hzf:z=true→(k:Int)=0:=fun e=>by have:=J.out e;omega
    clear LB;have hqr:=B.out.lt;have HIn:Hid (numW (s.extract a (a+(k+1)))+1≤10 ^ (k+1)∧0≤numW (s.extract a (a+(k+1)))):=by
     have h1:=r.out;have h2:=Y.out.2;rw [o.out] at h2;have h3:(10:Int) ^ (k+1)=10 ^ k*10:=Int.pow_succ ..
     show _∧_
     rw [h1,h3]
     omega
    have fin:∀ (w5:World),Bl wr w5→eo (w5.setCell ⟨q,1,none⟩ (.int .i64 ((p:Int)+1))) q s (a+(k+1)) false (.slice AL L.length C)∧(w5.setCell ⟨q,1,none⟩ (.int .i64 ((p:Int)+1))).ownsRow base 142 5 (.slice AL L.length C) L.length (aK L)∧Kept base (fun j=>j=q) w (w5.setCell ⟨q,1,none⟩ (.int .i64 ((p:Int)+1))):=fun w5 Lz=>by
     refine ⟨?_,fL (ar I.out Lz) LE,(H.out.trans (aq Lz LA)).trans eH⟩;rw [show a+(k+1)=p+1 by omega]
     exact (d.out.later Lz).set1 (p+1)
    have R:=aa fin;have Q:Hid (∀ i,i<k+1→bV (nextB s (a+i))=true):=fun i hi=>by
     by_cases e:i=k
     ·rw [e];exact V.out
     exact U.out i (by omega)
    clear fin;cases hzc:z
    ·have HZc:=aa hzc
     subst hzc;go_wp2_with fail;refine A.mono ?_;rintro e w4 ⟨rfl,b⟩;have c:=aa b;have d0:=(d.out.later b).c0;have Lt:=(d.out.later b).c1;clear b A;go_wp2_with fail
     go_quiet (fail)
     obtain ⟨W5,u⟩:=ax (w4.drewN nq);have l:Hid (Bl wr W5):=by show Below _ _ _;rw [←u];exact ac c.out _
     rw [u];have d3:=(d.out.later l.out).c1;have d4:=(d.out.later l.out).fr 1;have d5:=(d.out.later l.out).lt;clear u d0 Lt;go_wp2_with fail
     go_roundg (7-(k+1))
     case measure=>omega
     case rel =>
      obtain ⟨x1,x2,x3⟩:=R.out _ l.out;exact ⟨k+1,by omega,rfl,by omega,by rw [r.out],by go_num,HIn.out.symm,J.out,Q.out,x1,x2,x3⟩
    have hk0:k=0:=by have:=J.out hzc;omega
    have hk0i:decide (0<(k:Int))=false:=by rw [hk0];rfl
    subst hzc;go_wp2_with fail;refine A.mono ?_;rintro e w4 ⟨rfl,b⟩;have c:=aa b;have d0:=(d.out.later b).c0;have Lt:=(d.out.later b).c1;clear b A;go_wp2_with fail
    go_quiet (fail)
    obtain ⟨W5,u⟩:=ax (w4.drewN nq);have l:Hid (Bl wr W5):=by show Below _ _ _;rw [←u];exact ac c.out _
    rw [u];have d3:=(d.out.later l.out).c1;have d4:=(d.out.later l.out).fr 1;have d5:=(d.out.later l.out).lt;clear u d0 Lt;go_wp2_with fail
    go_roundg (7-(k+1))
    case measure=>omega
    case rel =>
     obtain ⟨x1,x2,x3⟩:=R.out _ l.out;exact ⟨k+1,by omega,rfl,by omega,by rw [r.out],by go_num,HIn.out.symm,J.out,Q.out,x1,x2,x3⟩
   have hk7':k=7:=by omega
   subst hk7';have n:Hid (digitsN s a=7):=by
    show _=_
    by_cases f:nextB s a=48
    ·have LF:z=true:=by rw [←HZ.out];simpa using f
     have:=Z.out LF
     omega
    exact pZ (by omega) M U.out f (Or.inl rfl) hk7
   clear A;go_wp2_with fail;go_meet;rw [n.out];exact ⟨by rw [o.out],B.out,I.out,H.out⟩
 case rest =>
  obtain ⟨rfl,t,D,Lv⟩:=hcut;obtain ⟨w4,rfl⟩:∃ wx:World,wx=wc:=⟨_,rfl⟩;obtain ⟨i1,hj0,hj1,hj2,hj3⟩:=info_parts Tryz.infoNdF;have HR:=aa (GH ha HD.out);have LC:opndN (s.extract a (a+digitsN s a))=⟨1,numW (s.extract a (a+digitsN s a)),⟨#[]⟩,0,0⟩:=by
   have h1:=f7 hlt (kv ha HD.out).1;have h2:=HD.out;unfold bV at h2;unfold opndN;rw [h1,if_neg (by simp at h2;omega)]
  obtain ⟨m,hm⟩:=ax L.length;obtain ⟨nn,hnn⟩:=ax (numW (s.extract a (a+digitsN s a)));have HM:=aa hm;have hm1:(m:Int)≤100:=by omega
  rw [hm] at t D;rw [hnn] at LC ⊢;have b:base≤w4.heap.size:=zV O Lv.size;have HSt:Hid (∀ (W w6:World) (v':Value),Bl w4 W→W.grownBy w6 (Value.slice AL m C).ownBlock→w6.ownsRow base 142 5 v' (m+1) (aK L ++ cY ⟨1,nn,⟨#[]⟩,0,0⟩)→sx s q base 3 a L w (.returned (.int .i64 (m:Int))) (w6.setCell ⟨q,3,none⟩ v')∧(w6.cell? ⟨q,3,none⟩=some (.slice AL m C)∧w6.frozen? ⟨q,3,none⟩=false)∧q<w6.heap.size):=by
   intro W w6 v' F hg ho;have h:=rj t D LE F hg;exact ⟨um HM.out HR.out Lv t D LE b F hg (by rw [LC];exact ho),⟨h.c3,h.fr 3⟩,h.lt⟩
  have HO1:Hid (∀ w',Bl w4 w'→w'.ownsRow base 142 5 (.slice AL m C) m (aK L)):=fun w' F=>ar D F
  have d3:=t.c3;have d4:=t.fr 3;have d5:=t.lt;clear t D Lv LC hnn hm
  go_wp2_with (at_builtin;refine wpList_append_own_at _ rfl _ _ 100 rfl base 142 i1 _ 5 48 Tryz.underlying100 hj0 hj1 hj2 hj3 rfl (by decide) _ m (aK L) rfl (HO1.out _ ?qc0) ⟨w4.heap.size,0,none⟩ 1 1 (cY ⟨1,nn,⟨#[]⟩,0,0⟩) rfl rfl ?qc1 Ey ?qc2 ?qc3 ?qc4 ?_)
  case qc0=>exact (zS).alloc (zT) _
  case qc1=>exact Hb (w:=w4) (x:=⟨1,nn,⟨#[]⟩,0,0⟩) (by simp)
  case qc2=>unfold maxLen;omega
  case qc3=>omega
  case qc4=>simp;omega
  intro v' w6 y E _ _;obtain ⟨HS,⟨y1,y2⟩,y3⟩:=HSt.out _ _ _ ((zS).alloc (zT) _) E y;obtain ⟨A6,c6,hv'⟩:=bG y;subst hv';have HSo:=aa HS;clear y E HS;go_wp2_with fail;go_ret;exact HSo.out
theorem Gs (s:ByteArray) (q base a:Nat) (hs:s.size≤100) (M:a≤s.size) (d:bD (nextB s a)=true):FM s q base a:=by
 intro v L w z J A C hLa;have HI:=aa z;have HOw:=aa C;have c0:=z.c0;have c1:=z.c1;have c2:=z.c2;have hq:=z.lt;have O:=fun w' (u:Bl w w')=>fz q a s v 48 57 w' (by omega) M (z.later u)
 have i2:=fun w' (u:Bl w w')=>fz q a s v 97 122 w' (by omega) M (z.later u)
 have i3:=fun w' (u:Bl w w')=>fz q a s v 40 40 w' (by omega) M (z.later u)
 have e1:(decide (48≤nextB s a) && decide (nextB s a≤57))=bV (nextB s a):=rfl;have e2:(decide (97≤nextB s a) && decide (nextB s a≤122))=bD (nextB s a):=rfl;rw [e1] at O;rw [e2] at i2;have hsi:(s.size:Int)≤100:=by omega
 have hai:(a:Int)≤(s.size:Int):=by omega
 clear z C e1 e2;have hd:bV (nextB s a)=false:=by unfold bD at d;unfold bV;simp at d ⊢;omega
 have h40:nextB s a≠40:=by intro e;rw [e] at d;revert d;decide
 have e3:(decide (40≤nextB s a) && decide (nextB s a≤40))=false:=by simp;omega
 have hlt:a<s.size:=bY (fun e=>by rw [e] at d;revert d;decide) M
 rw [hd] at O;rw [d] at i2;rw [e3] at i3;have HD:=aa d;clear hd d h40 e3
 go_enter Tryz.func116,Tryz.ntmps116
 go_wp2_with fail;refine (O _ (zS)).mono ?_;rintro e w1 ⟨rfl,Lv⟩;have R:=aa Lv;clear Lv;go_wp2_with fail;refine (i2 _ R.out).mono ?_;rintro e w2 ⟨rfl,Lw⟩;have S:=aa (ae R.out Lw);clear Lw;go_wp2_with fail;refine (i3 _ S.out).mono ?_;rintro e w3 ⟨rfl,Lx⟩;have x:=aa (ae S.out Lx);have HI3:=aa (HI.out.later x.out);have Y:=aa (ar HOw.out x.out);have HS3:=aa (zV A x.out.size);clear Lx O i2 i3 c0 c1 c2;obtain ⟨AL,f,hv⟩:=bG Y.out;subst hv;have HKW:Hid (Kept base (fun j=>j=q) w w3):=aq x.out A
 go_upto_block 2 with fail
 go_cut [] from 12 (fun wx=>eo wx q s (a+leadN bD (s.extract a s.size)) false (.slice AL L.length f)∧wx.ownsRow base 142 5 (.slice AL L.length f) L.length (aK L)∧Kept base (fun j=>j=q) w wx)
 case first=>as_aux_lemma =>
  go_wp2_with fail
  go_loopg [] s.size (fun g wr => ∃ (k:Nat),g=s.size-k∧a+k≤s.size∧(∀ i,i<k→bD (nextB s (a+i))=true)∧eo wr q s (a+k) false (.slice AL L.length f)∧wr.ownsRow base 142 5 (.slice AL L.length f) L.length (aK L)∧Kept base (fun j=>j=q) w wr)
  case atStart=>exact ⟨0,rfl,by omega,fun i hi=>absurd hi (Nat.not_lt_zero i),HI3.out,Y.out,HKW.out⟩
  case round =>
   obtain ⟨k,rfl,G,B,D,Lu,F⟩:=hrel;have P:=aa B;have V:=aa D;have Z:=aa Lu;have X:=aa F;have Lz:base≤wr.heap.size:=zV A F.size;have K:=fz q (a+k) s (.slice AL L.length f) 97 122 wr (by omega) G D
   have e5:(decide (97≤nextB s (a+k)) && decide (nextB s (a+k)≤122))=bD (nextB s (a+k)):=rfl;rw [e5] at K;clear B D Lu F e5;cases hdk:bD (nextB s (a+k))
   ·have T:Hid (leadN bD (s.extract a s.size)=k):=AU G P.out hdk
    rw [hdk] at K;clear hdk;go_wp2_with fail;refine K.mono ?_;rintro e w4 ⟨rfl,c⟩;have l:=aa c;clear c K;go_wp2_with fail;go_meet;rw [T.out];exact ⟨V.out.later l.out,ar Z.out l.out,X.out.trans (aq l.out Lz)⟩
   have HDk:=aa hdk;have hlk:a+k<s.size:=bY (fun e=>by rw [e] at hdk;revert hdk;decide) G
   rw [hdk] at K;clear hdk;obtain ⟨p,N⟩:=ax (a+k);have HP:=aa N;have hlpi:(p:Int)<(s.size:Int):=by omega
   have y:Hid (eo wr q s p false (.slice AL L.length f)):=by show eo _ _ _ _ _ _;rw [←N];exact V.out
   have Lt:∀ (w5:World),Bl wr w5→eo (w5.setCell ⟨q,1,none⟩ (.int .i64 ((p:Int)+1))) q s (a+(k+1)) false (.slice AL L.length f)∧(w5.setCell ⟨q,1,none⟩ (.int .i64 ((p:Int)+1))).ownsRow base 142 5 (.slice AL L.length f) L.length (aK L)∧Kept base (fun j=>j=q) w (w5.setCell ⟨q,1,none⟩ (.int .i64 ((p:Int)+1))):=fun w5 H=>by
    refine ⟨?_,fL (ar Z.out H) J,(X.out.trans (aq H Lz)).trans eH⟩;rw [show a+(k+1)=p+1 by omega]
    exact (y.out.later H).set1 (p+1)
   have U:=aa Lt;have Q:Hid (∀ i,i<k+1→bD (nextB s (a+i))=true):=fun i hi=>by
    by_cases e:i=k
    ·rw [e];exact HDk.out
    exact P.out i (by omega)
   clear Lt;go_wp2_with fail;refine K.mono ?_;rintro e w4 ⟨rfl,c⟩;have l:=aa c;have d3:=(y.out.later c).c1;have d4:=(y.out.later c).fr 1;have d5:=(y.out.later c).lt;clear c K;go_wp2_with fail
   go_roundg (s.size-(k+1))
   case measure=>omega
   case rel =>
    obtain ⟨x1,x2,x3⟩:=U.out _ l.out;exact ⟨k+1,rfl,by omega,Q.out,x1,x2,x3⟩
 case rest =>
  obtain ⟨b,n,E⟩:=hcut;obtain ⟨w4,rfl⟩:∃ wx:World,wx=wc:=⟨_,rfl⟩;obtain ⟨O,hj0,hj1,hj2,hj3⟩:=info_parts Tryz.infoNdF;have HR:=aa (GI M HD.out);obtain ⟨LA,hn2⟩:=kC M HD.out;have I:opndN (s.extract a (a+leadN bD (s.extract a s.size)))=⟨2,0,s.extract a (a+leadN bD (s.extract a s.size)),0,0⟩:=by
   have h1:=f7 hlt LA;have h2:=HD.out;unfold bD at h2;unfold opndN;rw [h1,if_pos (by simpa using h2)]
  obtain ⟨m,hm⟩:=ax L.length;obtain ⟨p,N⟩:=ax (a+leadN bD (s.extract a s.size));have HM:=aa hm;have hm1:(m:Int)≤100:=by omega
  rw [hm] at b n;rw [N] at b I;have hpi:(p:Int)≤(s.size:Int):=by omega
  have hapi:(a:Int)≤(p:Int):=by omega
  have HRp:Hid (rc s 3 a p (kB (s.extract a p))):=by show rc _ _ _ _ _;rw [←N];exact HR.out
  have c:base≤w4.heap.size:=zV A E.size;have HSt:Hid (∀ (W w6:World) (v':Value),Bl w4 W→W.grownBy w6 (Value.slice AL m f).ownBlock→w6.ownsRow base 142 5 v' (m+1) (aK L ++ cY ⟨2,0,s.extract a p,0,0⟩)→sx s q base 3 a L w (.returned (.int .i64 (m:Int))) (w6.setCell ⟨q,3,none⟩ v')∧(w6.cell? ⟨q,3,none⟩=some (.slice AL m f)∧w6.frozen? ⟨q,3,none⟩=false)∧q<w6.heap.size):=by
   intro W w6 v' u hg ho;have h:=rj b n J u hg;exact ⟨um HM.out HRp.out E b n J c u hg (by rw [I];exact ho),⟨h.c3,h.fr 3⟩,h.lt⟩
  have HO1:Hid (∀ w',Bl w4 w'→w'.ownsRow base 142 5 (.slice AL m f) m (aK L)):=fun w' u=>ar n u
  have d0:=b.c0;have d1:=b.c1;have d3:=b.c3;have d4:=b.fr 3;have d5:=b.lt;clear b n E I hm N LA hn2 HR;go_wp2_with fail
  go_region_law (refine step_append_lies _ (by rfl) _ _ _ (by rfl) base 142 O _ 5 48 Tryz.underlying100 hj0 hj1 hj2 hj3 rfl (by omega) (.slice AL m f) m (aK L) (by rfl) (HO1.out _ (by go_grown)) ⟨w4.heap.size,0,none⟩ 1 1 (cY ⟨2,0,s.extract a p,0,0⟩) (by rfl) (by rfl) (World.news_of_block (cs := #[.int .i64 2,.int .i64 0,.string (s.extract a p),.int .i64 0,.int .i64 0]) (t:=142) (fr:=(0,0)) (Hf w4 _)) Ey (by omega) (by unfold maxLen;omega) (by omega) (by simp;omega) (w4.heap.size+1) (by simp) ?_;intro gg cg w6 r o hat hlt6;obtain ⟨HS,⟨y1,y2⟩,y3⟩:=HSt.out _ _ _ (by go_grown) o r;have HSo:=aa HS;clear HS r o hat)
  all_goals (go_wp2_with fail;go_ret;exact HSo.out)
theorem Ex (s:ByteArray) (q base a:Nat) (hs:s.size≤100) (C:a≤s.size) (ih:∀ a1,a<a1→a1≤s.size→m5 s q base 1 a1):FM s q base a:=by
 intro v L w I h l K Y;have HI:=aa I;have H:=aa K;have HIH:=aa ih;have c0:=I.c0;have c1:=I.c1;have c2:=I.c2;have hq:=I.lt;have Q:=fun w' (hb:Bl w w')=>fz q a s v 48 57 w' (by omega) C (I.later hb)
 have R:=fun w' (hb:Bl w w')=>fz q a s v 97 122 w' (by omega) C (I.later hb)
 have S:=fun w' (hb:Bl w w')=>fz q a s v 40 40 w' (by omega) C (I.later hb)
 have e1:(decide (48≤nextB s a) && decide (nextB s a≤57))=bV (nextB s a):=rfl;have e2:(decide (97≤nextB s a) && decide (nextB s a≤122))=bD (nextB s a):=rfl;rw [e1] at Q;rw [e2] at R;have hsi:(s.size:Int)≤100:=by omega
 have hai:(a:Int)≤(s.size:Int):=by omega
 clear I K ih e1 e2;cases hd:bV (nextB s a)
 case true=>exact Gr s q base a hs C hd v L w HI.out h l H.out Y
 cases hle:bD (nextB s a)
 case true=>exact Gs s q base a hs C hle v L w HI.out h l H.out Y
 rw [hd] at Q;rw [hle] at R
 by_cases n:nextB s a=40
 ·have T:(decide (40≤nextB s a) && decide (nextB s a≤40))=true:=by rw [n];rfl
  rw [T] at S;have hlt:a<s.size:=bY (by rw [n];decide) C
  have M:=aa n;clear hd hle n T
  go_enter Tryz.func116,Tryz.ntmps116
  go_wp2_with fail;refine (Q _ (zS)).mono ?_;rintro e w1 ⟨rfl,z⟩;have r:=aa z;clear z;go_wp2_with fail;refine (R _ r.out).mono ?_;rintro e w2 ⟨rfl,A⟩;have u:=aa (ae r.out A);clear A;go_wp2_with fail;refine (S _ u.out).mono ?_;rintro e w3 ⟨rfl,B⟩;have d:=aa (ae u.out B);have g:=aa (HI.out.later d.out);have HO3:=aa (ar H.out d.out);have HS3:=aa (zV l d.out.size);have d1:=g.out.c1;have g1:=g.out.fr 1;have hq3:=g.out.lt;obtain ⟨V3,p⟩:=ax (w3.setCell ⟨q,1,none⟩ (.int .i64 ((a:Int)+1)));have V:eo V3 q s (a+1) false v:=by rw [←p];exact g.out.set1 (a+1)
  have Z:V3.ownsRow base 142 5 v L.length (aK L):=by rw [←p];exact fL HO3.out h
  have W:Kept base (fun j=>j=q) w V3:=by rw [←p];exact (aq d.out l).trans eH
  have P:=HIH.out (a+1) (by omega) (by omega) v L V3 V h (by rw [←p];simpa using HS3.out) Z (by omega)
  have F:=aa W;clear B Q R S c0 c1 c2 V Z W;go_wp2_with fail;refine P.mono ?_;rintro e w4 ⟨o,⟨a1,t,v1,rfl,hR,hN,k,y,X⟩ | ⟨i,a1,v1,L1,rfl,hF,k,y⟩⟩
  ·have E:=aa (F.out.trans o)
   have HR:=aa hR;have HNs:=aa hN;have D:=aa k;have G:=aa y;have HL4:=aa X;have m:base≤w4.heap.size:=zV l (zV F.out.size o.size);have J:=fz q a1 s v1 41 41 w4 (by omega) hR.2.1 k
   have hp:=kV t;obtain ⟨ix,O⟩:=ax (L.length+sizT t-1);have HIx:=aa O;rw [O];have ha1:(a1:Int)≤100:=by have:=hR.2.1;omega
   clear o hR hN k y X O p P d1 g1
   by_cases x:nextB s a1=41
   ·have U:(decide (41≤nextB s a1) && decide (nextB s a1≤41))=true:=by rw [x];rfl
    rw [U] at J;have N:=aa x;clear x U;go_wp2_with fail;refine J.mono ?_;rintro e w5 ⟨rfl,c⟩;have f:=aa c;have b:=aa (D.out.later c);have f1:=b.out.c1;have k1:=b.out.fr 1;clear c J;go_wp2_with fail;go_ret;refine ⟨(E.out.trans (aq f.out m)).trans eH,Or.inl ⟨a1+1,t,v1,by rw [HIx.out];rfl,GG C M.out HR.out N.out,Hc _ _,?_,fL (ar G.out f.out) h,by have:=HL4.out;omega⟩⟩
    exact b.out.set1 (a1+1)
   have U:(decide (41≤nextB s a1) && decide (nextB s a1≤41))=false:=by simp;omega
   rw [U] at J;have N:=aa x;clear x U;go_wp2_with fail;refine J.mono ?_;rintro e w5 ⟨rfl,c⟩;have f:=aa c;have b:=aa (D.out.later c);have f1:=b.out.c2;have k1:=b.out.fr 2;clear c J;go_wp2_with fail;go_ret;exact ⟨(E.out.trans (aq f.out m)).trans eH,Or.inr ⟨0,a1,v1,_,rfl,Dx C M.out HR.out HNs.out N.out,b.out.set2 true,fL (ar G.out f.out) h⟩⟩
  have E:=aa (F.out.trans o);have HF:=aa hF;have D:=aa k;have G:=aa y;have m:base≤w4.heap.size:=zV l (zV F.out.size o.size);have J:=Hz q a1 s v1 41 41 w4 k;clear o hF k y p P d1 g1;go_wp2_with fail;refine J.mono ?_;rintro e w5 ⟨rfl,c⟩;have f:=aa c;have b:=aa (D.out.later c);have f1:=b.out.c2;have k1:=b.out.fr 2;clear c J;go_wp2_with fail;go_ret;exact ⟨(E.out.trans (aq f.out m)).trans eH,Or.inr ⟨0,a1,v1,L1,rfl,Dw C M.out HF.out,b.out.set2 true,fL (ar G.out f.out) h⟩⟩
 have T:(decide (40≤nextB s a) && decide (nextB s a≤40))=false:=by simp;omega
 rw [T] at S;have HF:Hid (CM s a a):=Dv C n hd hle;clear hd hle n T
 go_enter Tryz.func116,Tryz.ntmps116
 go_wp2_with fail;refine (Q _ (zS)).mono ?_;rintro e w1 ⟨rfl,z⟩;have r:=aa z;clear z;go_wp2_with fail;refine (R _ r.out).mono ?_;rintro e w2 ⟨rfl,A⟩;have u:=aa (ae r.out A);clear A;go_wp2_with fail;refine (S _ u.out).mono ?_;rintro e w3 ⟨rfl,B⟩;have d:=aa (ae u.out B);have g:=aa (HI.out.later d.out);have d2:=g.out.c2;have g2:=g.out.fr 2;clear B Q R S c0 c1 c2;go_wp2_with fail;go_ret;refine ⟨(aq d.out l).trans eH,Or.inr ⟨0,a,v,L,rfl,HF.out,g.out.set2 true,fL (ar H.out d.out) h⟩⟩
end Go.Proofs.YthlhjjabkgpenaaGreatDoor
