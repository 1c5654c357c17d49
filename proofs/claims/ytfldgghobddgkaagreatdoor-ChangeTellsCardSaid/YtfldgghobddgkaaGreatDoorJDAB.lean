/-
  What is wrong with a formula, as a plain function on plain data: of a node at its place, of all nodes in order, of who uses whom; small facts on them.
-/
import Derived.Deep.Slices
import Derived.Deep.Strs
import Derived.Deep.Fields
import Derived.OwnWalk
import Derived.BigQuiet
import Derived.WalkSpells
import Derived.WalkLawsBesides
import Derived.Test.YtfldgghobddgkaaGreatDoorJDAA
namespace Go.Proofs.YtfldgghobddgkaaGreatDoor
structure Nd where
 op:Int
 n:Int
 name:ByteArray
 left:Int
 right:Int
def noN:Nd:=⟨0,0,⟨#[]⟩,0,0⟩
def ndErr (x:Nd) (i:Nat):Int :=
 if x.op<1∨6<x.op then 1
 else if x.op=1 then (if x.n<0∨1000000<x.n then 1 else if x.name.size≠0∨x.left≠0∨x.right≠0 then 3 else 0)
 else if x.op=2 then (if nameErr x.name≠0 then 2 else if x.n≠0∨x.left≠0∨x.right≠0 then 3 else 0)
 else if x.left<0∨(i:Int)≤x.left∨x.right<0∨(i:Int)≤x.right then 1
 else if x.n≠0∨x.name.size≠0 then 3 else 0
def uses (x:Nd) (k:Nat):Nat:=if 2<x.op then (if x.left=(k:Int) then 1 else 0)+(if x.right=(k:Int) then 1 else 0) else 0
def usedTo (l:List Nd):Nat→Nat→Nat
 | 0,_=>0
 | i+1,k=>usedTo l i k+uses (l.getD i noN) k
def badN (l:List Nd) (i:Nat):Bool:=decide (ndErr (l.getD i noN) i≠0)
def oddN (l:List Nd) (i:Nat):Bool:=decide (usedTo l l.length i≠1)
def formErr (l:List Nd):Int :=
 if l.length=0 then 5
 else if 30<l.length then 4
 else if 0≤findFrom (badN l) l.length 0 then ndErr (l.getD (findFrom (badN l) l.length 0).toNat noN) (findFrom (badN l) l.length 0).toNat
 else if 0≤findFrom (oddN l) (l.length-1) 0 then 3 else 0
section
variable {l:List Nd} {i:Nat}
theorem form_none (h:l.length=0):formErr l=5:=by simp [formErr,h]
theorem form_full (h:30<l.length):formErr l=4:=by
 have h1:l.length≠0:=by omega
 rw [formErr,if_neg h1,if_pos h]
theorem form_bad (h:l.length≤30) (hi:i<l.length) (hb:badN l i=true) (ha:∀ j,j<i→badN l j=false):formErr l=ndErr (l.getD i noN) i:=by
 have h1 : ¬ l.length=0:=by omega
 have h2 : ¬ 30<l.length:=by omega
 have h3:findFrom (badN l) l.length 0=(i:Int):=findFrom_at (Nat.zero_le _) (by omega) hb (fun j _ hj=>ha j hj)
 rw [formErr,if_neg h1,if_neg h2,h3,if_pos (by omega)]
 simp
theorem form_odd (h0:l.length≠0) (h:l.length≤30) (hb:∀ j,j<l.length→badN l j=false) (hi:i<l.length-1) (ho:oddN l i=true):formErr l=3:=by
 have h2 : ¬ 30<l.length:=by omega
 have h3:findFrom (badN l) l.length 0 = -1:=findFrom_none (fun j _ hj=>hb j (by omega))
 rw [formErr,if_neg h0,if_neg h2,h3,if_neg (by omega)]
 rcases findFrom_cases (oddN l) (l.length-1) 0 with ⟨_,h5⟩ | ⟨m,e,_⟩
 ·rw [h5 i (Nat.zero_le _) (by omega)] at ho;cases ho
 ·rw [e,if_pos (by omega)]
theorem form_good (h0:l.length≠0) (h:l.length≤30) (hb:∀ j,j<l.length→badN l j=false) (ho:∀ j,j<l.length-1→oddN l j=false):formErr l=0:=by
 have h2 : ¬ 30<l.length:=by omega
 have h3:findFrom (badN l) l.length 0 = -1:=findFrom_none (fun j _ hj=>hb j (by omega))
 have h4:findFrom (oddN l) (l.length-1) 0 = -1:=findFrom_none (fun j _ hj=>ho j (by omega))
 rw [formErr,if_neg h0,if_neg h2,h3,if_neg (by omega),h4,if_neg (by omega)]
theorem form_right (h:formErr l=0):0<l.length∧l.length≤30∧(∀ j,j<l.length→ndErr (l.getD j noN) j=0)∧∀ j,j<l.length-1→usedTo l l.length j=1:=by
 by_cases h0:l.length=0
 ·rw [form_none h0] at h;cases h
 by_cases h1:30<l.length
 ·rw [form_full h1] at h;cases h
 refine ⟨by omega,by omega,?_⟩
 rcases findFrom_cases (badN l) l.length 0 with ⟨_,h5⟩ | ⟨m,_,_,h6,h7,h8⟩
 ·have hb:∀ j,j<l.length→badN l j=false:=fun j hj=>h5 j (Nat.zero_le _) (by omega)
  refine ⟨fun j hj=>by simpa [badN] using hb j hj,fun j hj=>?_⟩
  rcases Bool.eq_false_or_eq_true (oddN l j) with ho | ho
  ·rw [form_odd h0 (by omega) hb hj ho] at h;cases h
  ·simpa [oddN] using ho
 ·rw [form_bad (by omega) (by omega) h7 (fun j hj=>h8 j (Nat.zero_le _) hj)] at h
  exact absurd h (of_decide_eq_true h7)
end
def bindN (op:Int):Int:=if op=3∨op=4 then 1 else if op=5∨op=6 then 2 else 3
theorem bindN_ge (op:Int):1≤bindN op:=by unfold bindN;split <;> (try split) <;> omega
structure Bld where
 nodes:List Nd
 ready:List Int
 waiting:List Int
def noB:Bld:=⟨[],[],[]⟩
def addB (x:Nd) (b:Bld):Bld:=⟨b.nodes ++ [x],b.ready ++ [(b.nodes.length:Int)],b.waiting⟩
def joinBd (op:Int) (b:Bld):Bld:=addB ⟨op,0,⟨#[]⟩,b.ready.getD (b.ready.length-2) 0,b.ready.getD (b.ready.length-2+1) 0⟩ ⟨b.nodes,b.ready.take (b.ready.length-2),b.waiting⟩
def settleTo (least:Int):Nat→Bld→Bld
 | 0,b=>b
 | k+1,b=>if b.waiting.getD k 0=0∨bindN (b.waiting.getD k 0)<least then b else settleTo least k (joinBd (b.waiting.getD k 0) ⟨b.nodes,b.ready,b.waiting.take k⟩)
def settleB (least:Int) (b:Bld):Bld:=settleTo least b.waiting.length b
def numW (t:ByteArray):Int:=t.data.toList.foldl (fun n c=>n*10+((c.toNat:Int)-48)) 0
def opndN (t:ByteArray):Nd:=if 97≤byteN t 0∧byteN t 0≤122 then ⟨2,0,t,0,0⟩ else ⟨1,numW t,⟨#[]⟩,0,0⟩
def signI (c:Int):Int:=if c=43 then 0 else if c=45 then 1 else if c=42 then 2 else if c=47 then 3 else -1
def takeB (b:Bld) (t:ByteArray):Bld :=
 if byteN t 0=40 then ⟨b.nodes,b.ready,b.waiting ++ [0]⟩
 else if byteN t 0=41 then ⟨(settleB 0 b).nodes,(settleB 0 b).ready,(settleB 0 b).waiting.take ((settleB 0 b).waiting.length-1)⟩
 else if 0≤signI (byteN t 0) then ⟨(settleB (bindN (3+signI (byteN t 0))) b).nodes,(settleB (bindN (3+signI (byteN t 0))) b).ready,(settleB (bindN (3+signI (byteN t 0))) b).waiting ++ [3+signI (byteN t 0)]⟩
 else addB (opndN t) b
def zerosN (l:List Int):Nat:=l.countP (fun x=>decide (x=0))
def opsN (l:List Int):Nat:=l.countP (fun x=>decide (x≠0))
theorem zo_len (l:List Int):zerosN l+opsN l=l.length:=by
 induction l with
 | nil=>rfl
 | cons x r ih =>
  simp only [zerosN,opsN,List.countP_cons,List.length_cons] at *
  by_cases h:x=0
  ·rw [if_pos (by simpa using h),if_neg (by simpa using h)];omega
  ·rw [if_neg (by simpa using h),if_pos (by simpa using h)];omega
def digB (c:Int):Bool:=decide (48≤c) && decide (c≤57)
def letB (c:Int):Bool:=decide (97≤c) && decide (c≤122)
def leadTo (p:Int→Bool) (t:ByteArray):Nat→Nat→Nat
 | 0,i=>i
 | f+1,i=>if p (byteN t i) then leadTo p t f (i+1) else i
def leadN (p:Int→Bool) (t:ByteArray):Nat:=leadTo p t t.size 0
def nextB (s:ByteArray) (a:Nat):Int:=if a=s.size then 0 else byteN s a
structure Rd (S:Type) where
 at':Nat
 opn:Nat
 st:S
section
variable {S:Type} (s:ByteArray) (tk:S→ByteArray→S)
def wordR (n:Nat) (r:Rd S):Rd S:=⟨r.at'+n,r.opn,tk r.st (s.extract r.at' (r.at'+n))⟩
def opensR:Nat→Rd S→Rd S
 | 0,r=>r
 | f+1,r=>if nextB s r.at'=40 then opensR f (wordR s tk 1 ⟨r.at',r.opn+1,r.st⟩) else r
def closesR:Nat→Rd S→Rd S
 | 0,r=>r
 | f+1,r=>if 0<r.opn∧nextB s r.at'=41 then closesR f (wordR s tk 1 ⟨r.at',r.opn-1,r.st⟩) else r
def digitsN (a:Nat):Nat:=if nextB s a=48 then 1 else min (leadN digB (s.extract a s.size)) 7
def openedR (r:Rd S):Rd S:=opensR s tk (s.size-r.at') r
def operandR (r:Rd S):Rd S×Bool :=
 if digB (nextB s (openedR s tk r).at') then (closesR s tk s.size (wordR s tk (digitsN s (openedR s tk r).at') (openedR s tk r)),true)
 else if letB (nextB s (openedR s tk r).at') then (closesR s tk s.size (wordR s tk (leadN letB (s.extract (openedR s tk r).at' s.size)) (openedR s tk r)),true)
 else (openedR s tk r,false)
def signR (r:Rd S):Rd S×Bool:=if signI (nextB s r.at')<0 then (r,false) else (wordR s tk 1 r,true)
def loopR:Nat→Rd S→Rd S×Bool
 | 0,r=>(r,true)
 | f+1,r=>if r.at'<s.size then
   (if (signR s tk r).2 then (if (operandR s tk (signR s tk r).1).2 then loopR f (operandR s tk (signR s tk r).1).1 else ((operandR s tk (signR s tk r).1).1,false)) else ((signR s tk r).1,false))
  else (r,true)
def allR (r:Rd S):Rd S×Bool :=
 if (operandR s tk r).2 then (if (loopR s tk s.size (operandR s tk r).1).2 then ((loopR s tk s.size (operandR s tk r).1).1,decide ((loopR s tk s.size (operandR s tk r).1).1.opn=0)) else ((loopR s tk s.size (operandR s tk r).1).1,false))
 else ((operandR s tk r).1,false)
end
end Go.Proofs.YtfldgghobddgkaaGreatDoor
namespace Go.Proofs.YtfldgghobddgkaaGreatDoor
open Go.ChangeShapes Go.WideShapes Go.ChangeAt Go.RowKit
set_option maxRecDepth 20000
def MemsV (w:World) (A:Option Addr) (cap n:Nat) (M:Nat→Mem):Prop:=n≤cap∧(n=0∨∃ b o,A=some ⟨b,o,none⟩∧MemsAt w b o n M)
theorem MemsV.later {w w':World} {A:Option Addr} {cap n:Nat} {M:Nat→Mem} (h:MemsV w A cap n M) (hB:Below w.heap.size w w'):MemsV w' A cap n M:=by
 obtain ⟨h1,h2 | ⟨b,o,h2,h3⟩⟩:=h
 ·exact ⟨h1,Or.inl h2⟩
 ·exact ⟨h1,Or.inr ⟨b,o,h2,h3.later hB⟩⟩
theorem dimErr_frame {d:Dm} (h:frameErr d≠0):dimErr d=(-1,frameErr d):=by
 unfold frameErr at h ⊢
 unfold dimErr
 split
 ·rfl
 ·split
  ·rfl
  ·split
   ·rfl
   ·split
    ·rfl
    ·rename_i h1 h2 h3 h4
     rw [if_neg h1,if_neg h2,if_neg h3,if_neg h4] at h
     exact absurd rfl h
theorem dimErr_scan {d:Dm} (h:frameErr d=0):dimErr d=scan d.mem d.n 0∧1≤d.n∧d.n≤12:=by
 unfold frameErr at h
 unfold dimErr
 split at h
 ·simp at h
 ·split at h
  ·simp at h
  ·split at h
   ·simp at h
   ·split at h
    ·simp at h
    ·rename_i h1 h2 h3 h4
     rw [if_neg h1,if_neg h2,if_neg h3,if_neg h4]
     exact ⟨rfl,by omega,by omega⟩
def ownDim (w:World) (d:Dm) (A:Option Addr) (cap T:Nat):World:=w.alloc (.cells #[.string d.name,.int .i64 d.solve,.slice A d.n cap] T)
theorem ownDim_at (w:World) (d:Dm) (A:Option Addr) (cap T:Nat):(ownDim w d A cap T).cell? ⟨w.heap.size,0,none⟩=some (.string d.name)∧(ownDim w d A cap T).cell? ⟨w.heap.size,1,none⟩=some (.int .i64 d.solve)∧(ownDim w d A cap T).cell? ⟨w.heap.size,2,none⟩=some (.slice A d.n cap):=by unfold ownDim;exact ⟨by simp,by simp,by simp⟩
theorem ownDim_size (w:World) (d:Dm) (A:Option Addr) (cap T:Nat):(ownDim w d A cap T).heap.size=w.heap.size+1:=by unfold ownDim;simp
theorem ownDim_below (w:World) (d:Dm) (A:Option Addr) (cap T:Nat):Below w.heap.size w (ownDim w d A cap T):=by unfold ownDim;go_grown
set_option maxHeartbeats 2000000 in
theorem dcheck_any (d:Dm) (A:Option Addr) (cap:Nat) (w:World) (hM:MemsV w A cap d.n d.mem):Calls Tryz.prog 56 #[dimV d A cap] w fun e w'=>e=.returned (.tuple #[.int .i64 (dimErr d).1,errV (dimErr d).2])∧Below w.heap.size w w':=by
 have hfr:=frame_any d A cap
 unfold dimV at hfr ⊢
 have HM:Hid (MemsV w A cap d.n d.mem):=hM
 clear hM
 by_cases hf:frameErr d=0
 ·rw [hf,errV_zero] at hfr
  obtain ⟨hds,hd1,hd2⟩:=dimErr_scan hf
  have HD:Hid (dimErr d=scan d.mem d.n 0):=hds
  clear hds hf
  go_enter Tryz.func56,Tryz.ntmps56
  go_wp2_with fail
  refine (hfr _).mono ?_
  rintro e w1 ⟨rfl,hb1⟩
  have hS:=ownDim_size w d A cap 41
  have hB:Below w.heap.size w w1:=onB (ownDim_below w d A cap 41) hb1
  have hz:w.heap.size<w1.heap.size:=by
   have:=hb1.size
   change (ownDim w d A cap 41).heap.size≤_ at this
   omega
  have h2:w1.cell? ⟨w.heap.size,2,none⟩=some (.slice A d.n cap):=(hb1.cell (p:=⟨w.heap.size,2,none⟩) (by show w.heap.size<(ownDim w d A cap 41).heap.size;rw [hS];omega)).trans (ownDim_at w d A cap 41).2.2
  obtain ⟨hcap,h0 | ⟨b,o,rfl,hMs⟩⟩:=HM.out.later hB
  ·omega
  have HMs:Hid (MemsAt w1 b o d.n d.mem):=hMs
  have hd2':(d.n:Int)≤12:=by omega
  clear hb1 hS hMs hfr
  go_wp2_with fail
  go_loopg [15] d.n (fun g s15 wr => ∃ (k:Nat),k≤d.n∧g=d.n-k∧s15=.int .i64 k∧scan d.mem (d.n-k) k=scan d.mem d.n 0∧Below w1.heap.size w1 wr)
  case atStart=>exact ⟨0,Nat.zero_le _,rfl,rfl,rfl,Below.refl _ _⟩
  case round =>
   obtain ⟨k,hk,rfl,rfl,hsc,hBw⟩:=hrel
   by_cases hlt:k<d.n
   ·have hmem:=member_any b o d.n cap k d.mem wr hd2 hcap hlt (HMs.out.later hBw)
    have hki:(k:Int)<(d.n:Int):=by omega
    have HF:Hid (scan d.mem (d.n-k) k=scan d.mem d.n 0):=hsc
    have HW:Hid (Below w1.heap.size w1 wr):=hBw
    have hsk:d.n-k=(d.n-(k+1))+1:=by omega
    have c2:wr.cell? ⟨w.heap.size,2,none⟩=some (.slice (some ⟨b,o,none⟩) d.n cap):=(hBw.cell (p:=⟨w.heap.size,2,none⟩) hz).trans h2
    clear hsc hBw
    by_cases hm:memErr d.mem k=0
    ·rw [hm,errV_zero] at hmem
     have HK:Hid (memErr d.mem k=0):=hm
     clear hm
     go_wp2_with fail
     refine hmem.mono ?_
     rintro e w2 ⟨rfl,hb2⟩
     go_wp2_with fail
     go_roundg (d.n-(k+1))
     case measure=>omega
     case rel=>exact ⟨k+1,by omega,rfl,by go_num,by rw [←HF.out,hsk,scan_ok _ HK.out],onB HW.out hb2⟩
    ·rw [errV_some hm] at hmem
     have HK:Hid (memErr d.mem k≠0):=hm
     clear hm
     go_wp2_with fail
     refine hmem.mono ?_
     rintro e w2 ⟨rfl,hb2⟩
     go_wp2_with fail
     go_ret2
     refine ⟨?_,onB hB (onB HW.out hb2)⟩
     rw [HD.out,←HF.out,hsk,scan_bad _ HK.out]
     simp [errV,HK.out]
   ·have hke:k=d.n:=by omega
    have HF:Hid (scan d.mem (d.n-k) k=scan d.mem d.n 0):=hsc
    clear hsc
    subst hke
    go_wp2_with fail
    go_ret2
    refine ⟨?_,onB hB hBw⟩
    rw [HD.out,←HF.out,Nat.sub_self]
    rfl
 ·rw [errV_some hf] at hfr
  have HD:Hid (dimErr d=(-1,frameErr d)):=dimErr_frame hf
  have HE:Hid (frameErr d≠0):=hf
  clear hf
  go_enter Tryz.func56,Tryz.ntmps56
  go_wp2_with fail
  refine (hfr _).mono ?_
  rintro e w1 ⟨rfl,hb1⟩
  have hB:Below w.heap.size w w1:=onB (ownDim_below w d A cap 41) hb1
  clear hb1
  go_wp2_with fail
  go_ret2
  refine ⟨?_,hB⟩
  rw [HD.out]
  simp [errV,HE.out]
def DimAt (w:World) (b o:Nat) (d:Dm) (A:Option Addr) (c:Nat):Prop:=w.cell? ⟨b,o,none⟩=some (.string d.name)∧w.cell? ⟨b,o+1,none⟩=some (.int .i64 d.solve)∧w.cell? ⟨b,o+2,none⟩=some (.slice A d.n c)∧MemsV w A c d.n d.mem
def DimsAt (w:World) (b o n:Nat) (D:Nat→Dm) (A:Nat→Option Addr) (C:Nat→Nat):Prop:=b<w.heap.size∧∀ i,i<n→DimAt w b (o+i*3) (D i) (A i) (C i)
theorem DimAt.later {w w':World} {b o:Nat} {d:Dm} {A:Option Addr} {c:Nat} (h:DimAt w b o d A c) (hb:b<w.heap.size) (hB:Below w.heap.size w w'):DimAt w' b o d A c :=
 ⟨(hB.cell (p:=⟨b,o,none⟩) hb).trans h.1,(hB.cell (p:=⟨b,o+1,none⟩) hb).trans h.2.1,(hB.cell (p:=⟨b,o+2,none⟩) hb).trans h.2.2.1,h.2.2.2.later hB⟩
theorem DimsAt.later {w w':World} {b o n:Nat} {D:Nat→Dm} {A:Nat→Option Addr} {C:Nat→Nat} (h:DimsAt w b o n D A C) (hB:Below w.heap.size w w'):DimsAt w' b o n D A C :=
 ⟨Nat.lt_of_lt_of_le h.1 hB.size,fun i hi=>(h.2 i hi).later h.1 hB⟩
theorem DimsAt.less {w:World} {b o n m:Nat} {D:Nat→Dm} {A:Nat→Option Addr} {C:Nat→Nat} (h:DimsAt w b o n D A C) (hm:m≤n):DimsAt w b o m D A C:=⟨h.1,fun i hi=>h.2 i (by omega)⟩
def AskD (q:Nat) (w:World) (n:Nat) (D:Nat→Dm) (A:Nat→Option Addr) (C:Nat→Nat) (p:Nat→Bool):Prop := ∀ (i:Nat) (w':World),i<n→Below w.heap.size w w'→Calls Tryz.prog 58 #[dimV (D i) (A i) (C i),.pointer (some ⟨q,0,none⟩)] w' fun e w''=>e=.returned (.bool (p i))∧Below w'.heap.size w' w''
set_option maxHeartbeats 1000000 in
theorem index_dims (q b o n cap:Nat) (D:Nat→Dm) (A:Nat→Option Addr) (C:Nat→Nat) (p:Nat→Bool) (w:World) (hn:n≤4) (hM:DimsAt w b o n D A C) (hp:AskD q w n D A C p) :
  Calls Tryz.prog 84 #[.slice (some ⟨b,o,none⟩) n cap,.func (.func 58) #[] #[.pointer (some ⟨q,0,none⟩)]] w fun e w'=>e=.returned (.int .i64 (findFrom p n 0))∧Below w.heap.size w w':=by
 have HB:Hid (DimsAt w b o n D A C):=hM
 have HP:Hid (AskD q w n D A C p):=hp
 clear hM hp
 go_enter Tryz.func84,Tryz.ntmps84
 go_wp2_with fail
 go_loopg [8] n (fun g s8 wr => ∃ (k:Nat),k≤n∧g=n-k∧s8=.int .i64 k∧findFrom p (n-k) k=findFrom p n 0∧Below w.heap.size w wr)
 case atStart=>exact ⟨0,Nat.zero_le _,rfl,rfl,rfl,Below.refl _ _⟩
 case round =>
  obtain ⟨k,hk,rfl,rfl,hf,hBw⟩:=hrel
  by_cases hlt:k<n
  ·obtain ⟨h0,h1,h2,-⟩:=(HB.out.later hBw).2 k hlt
   have hki:(k:Int)<(n:Int):=by omega
   have HF:Hid (findFrom p (n-k) k=findFrom p n 0):=hf
   have HW:Hid (Below w.heap.size w wr):=hBw
   have hsk:n-k=(n-(k+1))+1:=by omega
   have hbd:=HP.out k wr hlt hBw
   unfold dimV at hbd
   have hs8:(n:Int)≤4:=by omega
   clear hf hBw
   cases hb:p k
   ·rw [hb] at hbd
    have HK:Hid (p k=false):=hb
    clear hb
    go_wp2_with fail
    refine hbd.mono ?_
    rintro e w1 ⟨rfl,hb1⟩
    go_wp2_with fail
    go_roundg (n-(k+1))
    case measure=>omega
    case rel=>exact ⟨k+1,by omega,rfl,by go_num,by rw [←HF.out,hsk,findFrom_miss _ HK.out],onB HW.out hb1⟩
   ·rw [hb] at hbd
    have HK:Hid (p k=true):=hb
    clear hb
    go_wp2_with fail
    refine hbd.mono ?_
    rintro e w1 ⟨rfl,hb1⟩
    go_wp2_with fail
    go_ret
    exact ⟨by rw [←HF.out,hsk,findFrom_hit _ HK.out];rfl,onB HW.out hb1⟩
  ·have hke:k=n:=by omega
   subst hke
   go_wp2_with fail
   go_ret
   exact ⟨by rw [←hf,Nat.sub_self];rfl,hBw⟩
theorem contains_dims (q b o n cap:Nat) (D:Nat→Dm) (A:Nat→Option Addr) (C:Nat→Nat) (p:Nat→Bool) (w:World) (hn:n≤4) (hM:DimsAt w b o n D A C) (hp:AskD q w n D A C p) :
  Calls Tryz.prog 57 #[.slice (some ⟨b,o,none⟩) n cap,.func (.func 58) #[] #[.pointer (some ⟨q,0,none⟩)]] w fun e w'=>e=.returned (.bool (decide (0≤findFrom p n 0)))∧Below w.heap.size w w':=by
 have h:=index_dims q b o n cap D A C p w hn hM hp
 clear hM hp
 go_enter Tryz.func57,Tryz.ntmps57
 go_wp2_with fail
 refine h.mono ?_
 rintro e w1 ⟨rfl,hb1⟩
 go_wp2_with fail
 go_ret
 exact ⟨rfl,hb1⟩
theorem all1_any (d:Dm) (A:Option Addr) (c:Nat) (s:ByteArray) (q:Nat) (w:World) (hq:q<w.heap.size) (h:w.cell? ⟨q,0,none⟩=some (.string s)):Calls Tryz.prog 58 #[dimV d A c,.pointer (some ⟨q,0,none⟩)] w fun e w'=>e=.returned (.bool (same d.name s))∧Below w.heap.size w w':=by
 unfold dimV
 go_enter Tryz.func58,Tryz.ntmps58
 go_wp2_with fail
 go_ret
 exact ⟨by simp [same],by go_grown⟩
theorem prod_small {D:Nat→Dm} {k:Nat} (h:∀ j,j<k→(D j).n≤12) (hk:k≤4):prodN D k≤20736:=by
 refine Nat.le_trans (prodN_le h) ?_
 exact Nat.le_trans (Nat.pow_le_pow_right (by omega) hk) (by decide)
set_option maxHeartbeats 1000000 in
theorem cells_any (b o n cap:Nat) (D:Nat→Dm) (A:Nat→Option Addr) (C:Nat→Nat) (w:World) (hn:n≤4) (hd:∀ j,j<n→(D j).n≤12) (hM:DimsAt w b o n D A C):Calls Tryz.prog 59 #[.agg #[.slice (some ⟨b,o,none⟩) n cap]] w fun e w'=>e=.returned (.int .i64 (prodN D n))∧Below w.heap.size w w':=by
 have HB:Hid (DimsAt w b o n D A C):=hM
 have HD:Hid (∀ j,j<n→(D j).n≤12):=hd
 clear hM hd
 go_enter Tryz.func59,Tryz.ntmps59
 go_wp2_with fail
 go_loopg [3,9] n (fun g s3 s9 wr => ∃ (k:Nat),k≤n∧g=n-k∧s9=.int .i64 k∧s3=.int .i64 (prodN D k)∧Below w.heap.size w wr)
 case atStart=>exact ⟨0,Nat.zero_le _,rfl,rfl,rfl,by go_grown⟩
 case round =>
  obtain ⟨k,hk,rfl,rfl,rfl,hBw⟩:=hrel
  by_cases hlt:k<n
  ·obtain ⟨h0,h1,h2,-⟩:=(HB.out.later hBw).2 k hlt
   have hki:(k:Int)<(n:Int):=by omega
   have hs8:(n:Int)≤4:=by omega
   have hp1:prodN D (k+1)≤20736:=prod_small (fun j hj=>HD.out j (by omega)) (by omega)
   have hp2:(prodN D (k+1):Int)=(prodN D k:Int)*((D k).n:Int):=by rw [prodN];exact Int.natCast_mul _ _
   have hp3:0≤(prodN D k:Int)*((D k).n:Int):=by omega
   have hp4:(prodN D k:Int)*((D k).n:Int)≤20736:=by omega
   have HW:Hid (Below w.heap.size w wr):=hBw
   have HP:Hid ((prodN D (k+1):Int)=(prodN D k:Int)*((D k).n:Int)):=hp2
   clear hBw hp1 hp2
   go_wp2_with fail
   go_roundg (n-(k+1))
   case measure=>omega
   case rel=>exact ⟨k+1,by omega,rfl,by go_num,by rw [HP.out],onB HW.out (by go_grown)⟩
  ·have hke:k=n:=by omega
   subst hke
   go_wp2_with fail
   go_ret
   exact ⟨rfl,hBw⟩
def DimsV (w:World) (A0:Option Addr) (cap n:Nat) (D:Nat→Dm) (A:Nat→Option Addr) (C:Nat→Nat):Prop:=n≤cap∧(n=0∨∃ b o,A0=some ⟨b,o,none⟩∧DimsAt w b o n D A C)
theorem DimsV.later {w w':World} {A0:Option Addr} {cap n:Nat} {D:Nat→Dm} {A:Nat→Option Addr} {C:Nat→Nat} (h:DimsV w A0 cap n D A C) (hB:Below w.heap.size w w'):DimsV w' A0 cap n D A C:=by
 obtain ⟨h1,h2 | ⟨b,o,h2,h3⟩⟩:=h
 ·exact ⟨h1,Or.inl h2⟩
 ·exact ⟨h1,Or.inr ⟨b,o,h2,h3.later hB⟩⟩
theorem al0 {D:Nat→Dm} {n:Nat} (h:4<n):allErr D n=(-1,-1,4):=by unfold allErr;rw [if_pos h]
theorem al1 {D:Nat→Dm} {n:Nat} (h:n=0):allErr D n=(-1,-1,5):=by unfold allErr;rw [if_neg (by omega),if_pos h]
theorem al2 {D:Nat→Dm} {n:Nat} (h : ¬ 4<n) (h1 : ¬ n=0) (h2:(scanD D n 0).2.2≠0):allErr D n=scanD D n 0:=by unfold allErr;rw [if_neg h,if_neg h1,if_pos h2]
theorem al3 {D:Nat→Dm} {n:Nat} (h : ¬ 4<n) (h1 : ¬ n=0) (h2:(scanD D n 0).2.2=0) (h3:3000<prodN D n):allErr D n=(-1,-1,4):=by unfold allErr;rw [if_neg h,if_neg h1,if_neg (by simpa using h2),if_pos h3]
theorem al4 {D:Nat→Dm} {n:Nat} (h : ¬ 4<n) (h1 : ¬ n=0) (h2:(scanD D n 0).2.2=0) (h3 : ¬ 3000<prodN D n):allErr D n=(-1,-1,0):=by unfold allErr;rw [if_neg h,if_neg h1,if_neg (by simpa using h2),if_neg h3]
theorem one0 {D:Nat→Dm} {i:Nat} (h:(dimErr (D i)).2≠0):oneD D i=dimErr (D i):=by unfold oneD;rw [if_pos h]
theorem one1 {D:Nat→Dm} {i:Nat} (h:(dimErr (D i)).2=0) (h1:clashD D i=true):oneD D i=(-1,7):=by unfold oneD;rw [if_neg (by simpa using h),if_pos h1]
theorem one2 {D:Nat→Dm} {i:Nat} (h:(dimErr (D i)).2=0) (h1:clashD D i=false):oneD D i=(-1,0):=by unfold oneD;rw [if_neg (by simpa using h),if_neg (by simp [h1])]
def ownOut (w:World) (A0:Option Addr) (n cap T:Nat):World:=w.alloc (.cells #[.slice A0 n cap] T)
theorem ownOut_at (w:World) (A0:Option Addr) (n cap T:Nat):(ownOut w A0 n cap T).cell? ⟨w.heap.size,0,none⟩=some (.slice A0 n cap):=by unfold ownOut;simp
theorem ownOut_size (w:World) (A0:Option Addr) (n cap T:Nat):(ownOut w A0 n cap T).heap.size=w.heap.size+1:=by unfold ownOut;simp
theorem ownOut_below (w:World) (A0:Option Addr) (n cap T:Nat):Below w.heap.size w (ownOut w A0 n cap T):=by unfold ownOut;go_grown
set_option maxHeartbeats 4000000 in
theorem all_any (A0:Option Addr) (cap n:Nat) (D:Nat→Dm) (A:Nat→Option Addr) (C:Nat→Nat) (w:World) (hM:DimsV w A0 cap n D A C):Calls Tryz.prog 36 #[.agg #[.slice A0 n cap]] w fun e w'=>e=.returned (.tuple #[.int .i64 (allErr D n).1,.int .i64 (allErr D n).2.1,errV (allErr D n).2.2])∧Below w.heap.size w w':=by
 by_cases hn4:4<n
 ·have hn':4<(n:Int):=by omega
  have HR:Hid (allErr D n=(-1,-1,4)):=al0 hn4
  clear hn4 hM
  go_enter Tryz.func36,Tryz.ntmps36
  go_wp2_with fail
  refine bodyPost_ret (v:=.tuple #[.int .i64 (-1),.int .i64 (-1),.iface 69 (.int .i64 4)]) (by simp [results,Tryz.results36,go_sem]) rfl ⟨by rw [HR.out];rfl,?_⟩
  go_grown
 have hn':(n:Int)≤4:=by omega
 by_cases hn0:n=0
 ·have HR:Hid (allErr D n=(-1,-1,5)):=al1 hn0
  have hz:((n:Int) == 0)=true:=by simp [hn0]
  clear hn0 hM hn4
  go_enter Tryz.func36,Tryz.ntmps36
  go_wp2_with fail
  refine bodyPost_ret (v:=.tuple #[.int .i64 (-1),.int .i64 (-1),.iface 69 (.int .i64 5)]) (by simp [results,Tryz.results36,go_sem]) rfl ⟨by rw [HR.out];rfl,?_⟩
  go_grown
 have hz:((n:Int) == 0)=false:=by simp;omega
 obtain ⟨hcap,h0 | ⟨b,o,rfl,hMs⟩⟩:=hM
 ·omega
 have hcap':(n:Int)≤(cap:Int):=by omega
 have hB0:=ownOut_below w (some ⟨b,o,none⟩) n cap 24
 have hS:=ownOut_size w (some ⟨b,o,none⟩) n cap 24
 have hA:=ownOut_at w (some ⟨b,o,none⟩) n cap 24
 obtain ⟨W,hW⟩:∃ W,W=ownOut w (some ⟨b,o,none⟩) n cap 24:=⟨_,rfl⟩
 rw [←hW] at hB0 hS hA
 have HMs:Hid (DimsAt W b o n D A C):=hMs.later hB0
 have hsz:w.heap.size<W.heap.size:=by omega
 clear hMs
 have HW:Hid (W=ownOut w (some ⟨b,o,none⟩) n cap 24):=hW
 have HA:Hid (W.cell? ⟨w.heap.size,0,none⟩=some (.slice (some ⟨b,o,none⟩) n cap)):=hA
 have HB0:Hid (Below w.heap.size w W):=hB0
 clear hW hA hB0 hS
 go_enter Tryz.func36,Tryz.ntmps36
 go_wp2_with fail
 go_loopg [22] n (fun g s22 wr => ∃ (k:Nat),k≤n∧g=n-k∧s22=.int .i64 k∧scanD D (n-k) k=scanD D n 0∧Below W.heap.size W wr)
 case atStart=>exact ⟨0,Nat.zero_le _,rfl,rfl,rfl,by rw [HW.out];exact Below.refl _ _⟩
 case round =>
  obtain ⟨k,hk,rfl,rfl,hsc,hBw⟩:=hrel
  have HBr:Hid (Below W.heap.size W wr):=hBw
  have HF:Hid (scanD D (n-k) k=scanD D n 0):=hsc
  have c0:wr.cell? ⟨w.heap.size,0,none⟩=some (.slice (some ⟨b,o,none⟩) n cap):=(hBw.cell (p:=⟨w.heap.size,0,none⟩) hsz).trans HA.out
  have hMr:=HMs.out.later hBw
  have hszr:w.heap.size<wr.heap.size:=Nat.lt_of_lt_of_le hsz hBw.size
  clear hsc hBw
  by_cases hlt:k<n
  ·obtain ⟨h0,h1,h2,h3⟩:=hMr.2 k hlt
   have hki:(k:Int)<(n:Int):=by omega
   have hsk:n-k=(n-(k+1))+1:=by omega
   have hBo:=ownDim_below wr (D k) (A k) (C k) 41
   have hck:=dcheck_any (D k) (A k) (C k) (ownDim wr (D k) (A k) (C k) 41) (h3.later hBo)
   unfold dimV at hck
   have HMr:Hid (DimsAt wr b o n D A C):=hMr
   clear h3 hMr hBo
   by_cases he:(dimErr (D k)).2=0
   ·obtain ⟨e1,hd1,hd2,-⟩:=dimErr_right he
    rw [he,e1,errV_zero] at hck
    have HE:Hid ((dimErr (D k)).2=0):=he
    clear he e1
    go_wp2_with fail
    refine hck.mono ?_
    rintro e w1 ⟨rfl,hb1⟩
    have hB1:Below wr.heap.size wr w1:=onB (ownDim_below wr (D k) (A k) (C k) 41) hb1
    have hz1:wr.heap.size<w1.heap.size:=by
     have:=hb1.size
     rw [ownDim_size] at this
     omega
    have q0:w1.cell? ⟨wr.heap.size,0,none⟩=some (.string (D k).name):=(hb1.cell (p:=⟨wr.heap.size,0,none⟩) (by show wr.heap.size<_;rw [ownDim_size];omega)).trans (ownDim_at wr (D k) (A k) (C k) 41).1
    have c1:w1.cell? ⟨w.heap.size,0,none⟩=some (.slice (some ⟨b,o,none⟩) n cap):=(hB1.cell (p:=⟨w.heap.size,0,none⟩) hszr).trans c0
    have hM1:=HMr.out.later hB1
    have hcl:=contains_dims wr.heap.size b o k cap D A C (fun j=>same (D j).name (D k).name) w1 (by omega) (hM1.less (by omega)) (fun j w' _ hw'=>all1_any (D j) (A j) (C j) (D k).name wr.heap.size w' (Nat.lt_of_lt_of_le hz1 hw'.size) ((hw'.cell (p:=⟨wr.heap.size,0,none⟩) hz1).trans q0))
    change Calls _ _ _ _ (fun e w'=>e=.returned (.bool (clashD D k))∧_) at hcl
    clear hb1 hck hM1 q0 c0 h0 h1 h2 HMr
    cases hc:clashD D k
    ·rw [hc] at hcl
     have HK:Hid (oneD D k=(-1,0)):=one2 HE.out hc
     clear hc
     go_wp2_with fail
     refine hcl.mono ?_
     rintro e w2 ⟨rfl,hb2⟩
     go_wp2_with fail
     go_roundg (n-(k+1))
     case measure=>omega
     case rel=>exact ⟨k+1,by omega,rfl,by go_num,by rw [←HF.out,hsk,scanD_ok _ (by rw [HK.out])],onB (onB HBr.out hB1) hb2⟩
    ·rw [hc] at hcl
     have HK:Hid (oneD D k=(-1,7)):=one1 HE.out hc
     clear hc
     go_wp2_with fail
     refine hcl.mono ?_
     rintro e w2 ⟨rfl,hb2⟩
     go_wp2_with fail
     have hsb:scanD D n 0=((k:Int),-1,7):=by rw [←HF.out,hsk,scanD_bad _ (by rw [HK.out];decide),HK.out]
     have HR:allErr D n=((k:Int),-1,7):=by rw [al2 (by omega) (by omega) (by rw [hsb];show (7:Int)≠0;decide),hsb]
     refine bodyPost_ret (v:=.tuple #[.int .i64 k,.int .i64 (-1),.iface 69 (.int .i64 7)]) (by simp [results,Tryz.results36,go_sem]) rfl ⟨by rw [HR];rfl,?_⟩
     exact onB HB0.out (onB (onB HBr.out hB1) hb2)
   ·rw [errV_some he] at hck
    have HK:Hid (oneD D k=dimErr (D k)):=one0 he
    have HE:Hid ((dimErr (D k)).2≠0):=he
    clear he
    go_wp2_with fail
    refine hck.mono ?_
    rintro e w1 ⟨rfl,hb1⟩
    have hB1:Below wr.heap.size wr w1:=onB (ownDim_below wr (D k) (A k) (C k) 41) hb1
    clear hb1 hck
    go_wp2_with fail
    have hsb:scanD D n 0=((k:Int),(dimErr (D k)).1,(dimErr (D k)).2):=by rw [←HF.out,hsk,scanD_bad _ (by rw [HK.out];exact HE.out),HK.out]
    have HR:allErr D n=((k:Int),(dimErr (D k)).1,(dimErr (D k)).2):=by rw [al2 (by omega) (by omega) (by rw [hsb];exact HE.out),hsb]
    refine bodyPost_ret (v:=.tuple #[.int .i64 k,.int .i64 (dimErr (D k)).1,.iface 69 (.int .i64 (dimErr (D k)).2)]) (by simp [results,Tryz.results36,go_sem]) rfl ⟨by rw [HR,errV_some HE.out],?_⟩
    exact onB HB0.out (onB HBr.out hB1)
  ·have hke:k=n:=by omega
   subst hke
   have hs0:(scanD D k 0).2.2=0:=by rw [←HF.out,Nat.sub_self];rfl
   have hone:=(scanD_right k 0 hs0).2
   have hcs:=cells_any b o k cap D A C wr (by omega) (fun j hj=>(dimErr_right (oneD_right (hone j (Nat.zero_le _) (by omega)))).2.2.1) hMr
   clear hone hMr
   by_cases hp:3000<prodN D k
   ·have hp':3000<(prodN D k:Int):=by omega
    have HR:Hid (allErr D k=(-1,-1,4)):=al3 (by omega) (by omega) hs0 hp
    clear hs0 hp
    go_wp2_with fail
    refine hcs.mono ?_
    rintro e w2 ⟨rfl,hb2⟩
    go_wp2_with fail
    refine bodyPost_ret (v:=.tuple #[.int .i64 (-1),.int .i64 (-1),.iface 69 (.int .i64 4)]) (by simp [results,Tryz.results36,go_sem]) rfl ⟨by rw [HR.out];rfl,?_⟩
    exact onB HB0.out (onB HBr.out hb2)
   ·have hp':(prodN D k:Int)≤3000:=by omega
    have HR:Hid (allErr D k=(-1,-1,0)):=al4 (by omega) (by omega) hs0 hp
    clear hs0 hp
    go_wp2_with fail
    refine hcs.mono ?_
    rintro e w2 ⟨rfl,hb2⟩
    go_wp2_with fail
    refine bodyPost_ret (v:=.tuple #[.int .i64 (-1),.int .i64 (-1),.nilIface]) (by simp [results,Tryz.results36,go_sem]) rfl ⟨by rw [HR.out];rfl,?_⟩
    exact onB HB0.out (onB HBr.out hb2)
end Go.Proofs.YtfldgghobddgkaaGreatDoor
namespace Go.Proofs.YtfldgghobddgkaaGreatDoor
open Go Go.ChangeShapes Go.WideShapes Go.ChangeAt Go.RowKit Go.Deep
set_option maxRecDepth 100000
section
variable {H:Type} {enc:TypeId×Value→H} {w:World} {held:Bool}
theorem trod_one {P:Program} {base:Nat} {sp:Nat→Bool} {t:TypeId} {fs:Array Field} {fuel:Nat} {cs:List Value} {x:DataW H×List MemPlace} (ht:P.underlying t=some (.struct fs)) (hone:oneCellFields P fs=true) (h:DataW.trod enc P w base sp held fuel t cs=some x) :
  cs.length=P.cellsOf t∧∃ n,∀ (i:Nat) (f:Field) (v:Value),fs[i]?=some f→cs[i]?=some v→∃ y,DataW.trod enc P w base sp held n f.type [v]=some y:=by
 obtain ⟨xs,n,_,_,hl,hxs,hf⟩:=DataW.trod_struct ht h
 refine ⟨hl,n,fun i f v hi hv=>?_⟩
 obtain ⟨ho,hc⟩:=hone_of hone i f hi
 have hlt:i<fs.size:=(Array.getElem?_eq_some_iff.1 hi).1
 have e:=hf i f hi
 rw [ho,hc] at e
 obtain ⟨hi',hv'⟩:=List.getElem?_eq_some_iff.1 hv
 have ed:(cs.drop i).take 1=[v]:=by rw [List.drop_eq_getElem_cons hi',hv'];rfl
 rw [ed,List.getElem?_eq_getElem (by omega)] at e
 exact ⟨_,e⟩
theorem cellsM:Tryz.prog.cellsOf 43=4:=by kernel_rfl
theorem cellsD:Tryz.prog.cellsOf 41=3:=by kernel_rfl
theorem cellsO:Tryz.prog.cellsOf 24=1:=by kernel_rfl
theorem open_member {base:Nat} {sp:Nat→Bool} {fuel:Nat} {cs:List Value} {x:DataW H×List MemPlace} (h:DataW.trod enc Tryz.prog w base sp held fuel 43 cs=some x) :
  ∃ m:Mem,cs=[.string m.name,.int .i64 m.parent,.int .i64 m.sign,.string m.formula]:=by
 obtain ⟨hl,n,hf⟩:=trod_one Tryz.underlying43 (by kernel_rfl) h
 rw [cellsM] at hl
 match cs,hl with
 | [v0,v1,v2,v3],_ =>
  obtain ⟨y0,h0⟩:=hf 0 _ v0 rfl rfl
  obtain ⟨y1,h1⟩:=hf 1 _ v1 rfl rfl
  obtain ⟨y2,h2⟩:=hf 2 _ v2 rfl rfl
  obtain ⟨y3,h3⟩:=hf 3 _ v3 rfl rfl
  obtain ⟨s0,e0,-,-⟩:=DataW.trod_string Tryz.underlying9 h0
  obtain ⟨n1,e1,-,-⟩:=DataW.trod_int Tryz.underlying3 h1
  obtain ⟨n2,e2,-,-⟩:=DataW.trod_int Tryz.underlying3 h2
  obtain ⟨s3,e3,-,-⟩:=DataW.trod_string Tryz.underlying9 h3
  simp at e0 e1 e2 e3
  exact ⟨⟨s0,n1,n2,s3⟩,by rw [e0,e1,e2,e3]⟩
theorem addr_plain {a:Addr} {k:Nat} {v:Value} (h:w.cell? (a.add k)=some v) (hk:k=0):a=⟨a.block,a.off,none⟩:=by
 subst hk
 have e:(a.add 0)=a:=by simp [Addr.add]
 rw [e] at h
 have:=World.cell?_spot h
 cases a
 simp_all
theorem plain_add (b o k:Nat):(⟨b,o,none⟩:Addr).add k=⟨b,o+k,none⟩:=by
 unfold Addr.add
 by_cases hk:k=0
 ·subst hk;simp
 ·rw [if_neg hk]
theorem open_members {fuel:Nat} {cs:List Value} {x:DataW H×List MemPlace} (h:DataW.trod enc Tryz.prog w 0 (fun _=>true) held fuel 39 cs=some x) :
  ∃ (A:Option Addr) (cap n:Nat) (M:Nat→Mem),cs=[.slice A n cap]∧MemsV w A cap n M:=by
 rcases open_slice Tryz.underlying39 h with ⟨rfl,-⟩ | ⟨a,len,cap,m,n,D,Pl,rfl,-,hl,-,hm,-,hx⟩
 ·exact ⟨none,0,0,fun _=>⟨default,0,0,default⟩,rfl,Nat.le_refl _,Or.inl rfl⟩
 rw [cellsM] at hx
 simp at hm
 subst hm
 haveI:Inhabited Mem:=⟨⟨default,0,0,default⟩⟩
 have each:∀ i,i<len→∃ y:Mem,w.cells? 0 (a.add (i*4)) 4=some [.string y.name,.int .i64 y.parent,.int .i64 y.sign,.string y.formula]:=fun i hi=>by
  obtain ⟨cs',h1,h2⟩:=hx i (by omega)
  obtain ⟨y,rfl⟩:=open_member h2
  exact ⟨y,h1⟩
 obtain ⟨M,hM⟩:=choose_lt each
 refine ⟨some a,_,len,M,rfl,hl,?_⟩
 rcases Nat.eq_zero_or_pos len with h0 | h0
 ·exact Or.inl h0
 right
 have c0:=(World.cells?_some (hM 0 h0)).2.2 0 (by omega)
 rw [add_add] at c0
 have hp:=addr_plain c0 (by omega)
 have hb:=World.block_lt_of_cell? _ _ c0
 refine ⟨a.block,a.off,by rw [←hp],by simpa [Addr.add] using hb,fun i hi=>?_⟩
 have hc:=(World.cells?_some (hM i hi)).2.2
 rw [hp] at hc
 simp only [plain_add,Nat.add_assoc] at hc
 refine ⟨?_,?_,?_,?_⟩
 ·have:=hc 0 (by omega);simpa using this
 ·have:=hc 1 (by omega);simpa [Nat.add_assoc] using this
 ·have:=hc 2 (by omega);simpa [Nat.add_assoc] using this
 ·have:=hc 3 (by omega);simpa [Nat.add_assoc] using this
theorem open_dim {fuel:Nat} {cs:List Value} {x:DataW H×List MemPlace} (h:DataW.trod enc Tryz.prog w 0 (fun _=>true) held fuel 41 cs=some x) :
  ∃ (d:Dm) (A:Option Addr) (c:Nat),cs=[.string d.name,.int .i64 d.solve,.slice A d.n c]∧MemsV w A c d.n d.mem:=by
 obtain ⟨hl,n,hf⟩:=trod_one Tryz.underlying41 (by kernel_rfl) h
 rw [cellsD] at hl
 match cs,hl with
 | [v0,v1,v2],_ =>
  obtain ⟨y0,h0⟩:=hf 0 _ v0 rfl rfl
  obtain ⟨y1,h1⟩:=hf 1 _ v1 rfl rfl
  obtain ⟨y2,h2⟩:=hf 2 _ v2 rfl rfl
  obtain ⟨s0,e0,-,-⟩:=DataW.trod_string Tryz.underlying9 h0
  obtain ⟨n1,e1,-,-⟩:=DataW.trod_int Tryz.underlying3 h1
  obtain ⟨A,cap,k,M,e2,hM⟩:=open_members h2
  simp at e0 e1 e2
  exact ⟨⟨s0,n1,k,M⟩,A,cap,by rw [e0,e1,e2],hM⟩
theorem open_dims {fuel:Nat} {cs:List Value} {x:DataW H×List MemPlace} (h:DataW.trod enc Tryz.prog w 0 (fun _=>true) held fuel 22 cs=some x) :
  ∃ (A0:Option Addr) (cap n:Nat) (D:Nat→Dm) (A:Nat→Option Addr) (C:Nat→Nat),cs=[.slice A0 n cap]∧DimsV w A0 cap n D A C:=by
 rcases open_slice Tryz.underlying22 h with ⟨rfl,-⟩ | ⟨a,len,cap,m,n,D,Pl,rfl,-,hl,-,hm,-,hx⟩
 ·exact ⟨none,0,0,fun _=>⟨default,0,0,fun _=>⟨default,0,0,default⟩⟩,fun _=>none,fun _=>0,rfl,Nat.le_refl _,Or.inl rfl⟩
 rw [cellsD] at hx
 simp at hm
 subst hm
 haveI:Inhabited Dm:=⟨⟨default,0,0,fun _=>⟨default,0,0,default⟩⟩⟩
 have each:∀ i,i<len→∃ y:Dm×Option Addr×Nat,w.cells? 0 (a.add (i*3)) 3=some [.string y.1.name,.int .i64 y.1.solve,.slice y.2.1 y.1.n y.2.2]∧MemsV w y.2.1 y.2.2 y.1.n y.1.mem:=fun i hi=>by
  obtain ⟨cs',h1,h2⟩:=hx i (by omega)
  obtain ⟨d,A,c,rfl,hm⟩:=open_dim h2
  exact ⟨(d,A,c),h1,hm⟩
 obtain ⟨Y,hY⟩:=choose_lt each
 refine ⟨some a,_,len,fun i=>(Y i).1,fun i=>(Y i).2.1,fun i=>(Y i).2.2,rfl,hl,?_⟩
 rcases Nat.eq_zero_or_pos len with h0 | h0
 ·exact Or.inl h0
 right
 have c0:=(World.cells?_some (hY 0 h0).1).2.2 0 (by omega)
 rw [add_add] at c0
 have hp:=addr_plain c0 (by omega)
 have hb:=World.block_lt_of_cell? _ _ c0
 refine ⟨a.block,a.off,by rw [←hp],by simpa [Addr.add] using hb,fun i hi=>?_⟩
 have hc:=(World.cells?_some (hY i hi).1).2.2
 rw [hp] at hc
 simp only [plain_add,Nat.add_assoc] at hc
 refine ⟨?_,?_,?_,(hY i hi).2⟩
 ·have:=hc 0 (by omega);simpa using this
 ·have:=hc 1 (by omega);simpa [Nat.add_assoc] using this
 ·have:=hc 2 (by omega);simpa [Nat.add_assoc] using this
theorem arr1 {α:Type} {a:Array α} (h:a.size=1):∃ x,a=#[x]:=by
 rcases a with ⟨l⟩
 match l,h with
 | [x],_=>exact ⟨x,rfl⟩
theorem open_outline {r:Reach} {b0:Nat} {v:Value} {d:DataW H} {p:List MemPlace} (hv:Value.okWide Tryz.prog w r b0 24 v) (h:DataW.Trod enc Tryz.prog w 0 (fun _=>true) held 24 v d p) :
  ∃ (A0:Option Addr) (cap n:Nat) (D:Nat→Dm) (A:Nat→Option Addr) (C:Nat→Nat),v=.agg #[.slice A0 n cap]∧DimsV w A0 cap n D A C:=by
 obtain ⟨cs,rfl,hsz⟩:=okWide_struct Tryz.underlying24 hv
 obtain ⟨c0,rfl⟩:=arr1 (hsz.trans cellsO)
 obtain ⟨fuel,hf⟩:=h
 obtain ⟨-,n,hy⟩:=trod_one Tryz.underlying24 (by kernel_rfl) hf
 obtain ⟨y0,h0⟩:=hy 0 _ c0 rfl rfl
 obtain ⟨A0,cap,k,D,A,C,e,hD⟩:=open_dims h0
 simp at e
 exact ⟨A0,cap,k,D,A,C,by rw [e],hD⟩
end
def NdsAt (w:World) (b o:Nat) (l:List Nd):Prop:=b<w.heap.size∧∀ k,k<l.length→w.cell? ⟨b,o+k*5,none⟩=some (.int .i64 (l.getD k noN).op)∧w.cell? ⟨b,o+k*5+1,none⟩=some (.int .i64 (l.getD k noN).n)∧w.cell? ⟨b,o+k*5+2,none⟩=some (.string (l.getD k noN).name)∧w.cell? ⟨b,o+k*5+3,none⟩=some (.int .i64 (l.getD k noN).left)∧w.cell? ⟨b,o+k*5+4,none⟩=some (.int .i64 (l.getD k noN).right)
theorem NdsAt.later {w w':World} {b o:Nat} {l:List Nd} (h:NdsAt w b o l) (hB:Below w.heap.size w w'):NdsAt w' b o l:=by
 refine ⟨Nat.lt_of_lt_of_le h.1 hB.size,fun k hk=>?_⟩
 obtain ⟨h1,h2,h3,h4,h5⟩:=h.2 k hk
 exact ⟨(hB.cell (p:=⟨b,o+k*5,none⟩) h.1).trans h1,(hB.cell (p:=⟨b,o+k*5+1,none⟩) h.1).trans h2,(hB.cell (p:=⟨b,o+k*5+2,none⟩) h.1).trans h3,(hB.cell (p:=⟨b,o+k*5+3,none⟩) h.1).trans h4,(hB.cell (p:=⟨b,o+k*5+4,none⟩) h.1).trans h5⟩
def NdsV (w:World) (A:Option Addr) (cap:Nat) (l:List Nd):Prop:=l.length≤cap∧cap≤9223372036854775807∧(l=[]∨∃ b o,A=some ⟨b,o,none⟩∧NdsAt w b o l)
theorem NdsV.later {w w':World} {A:Option Addr} {cap:Nat} {l:List Nd} (h:NdsV w A cap l) (hB:Below w.heap.size w w'):NdsV w' A cap l:=by
 obtain ⟨h1,h0,h2 | ⟨b,o,h2,h3⟩⟩:=h
 ·exact ⟨h1,h0,Or.inl h2⟩
 ·exact ⟨h1,h0,Or.inr ⟨b,o,h2,h3.later hB⟩⟩
theorem NdsV.nil (w:World) (A:Option Addr) (cap:Nat) (h:cap≤9223372036854775807):NdsV w A cap []:=⟨Nat.zero_le _,h,Or.inl rfl⟩
end Go.Proofs.YtfldgghobddgkaaGreatDoor
namespace Go.Proofs.YtfldgghobddgkaaGreatDoor
def Tr (M:Nat→Mem) (n:Nat):Prop := ∀ k,k<n→-1≤(M k).parent∧(M k).parent<(k:Int)
theorem memErr_tree {M:Nat→Mem} {i:Nat} (h:memErr M i=0):(-1≤(M i).parent∧(M i).parent<(i:Int))∧(-1≤(M i).sign∧(M i).sign≤1)∧(0≤(M i).parent→(M (M i).parent.toNat).formula.size=0):=by
 unfold memErr at h
 split at h
 ·simp at h
 ·split at h
  ·simp at h
  ·split at h
   ·simp at h
   ·split at h
    ·simp at h
    ·split at h
     ·simp at h
     ·rename_i h1 h2 h3 h4 h5
      refine ⟨by omega,by omega,fun h6=>?_⟩
      exact Decidable.byContradiction fun h7=>h4 ⟨h6,h7⟩
theorem Tr.of {d:Dm} (h:(dimErr d).2=0):Tr d.mem d.n:=fun k hk=>(memErr_tree ((dimErr_right h).2.2.2 k hk)).1
def selTo (p:Nat→Bool):Nat→List Int
 | 0=>[]
 | k+1=>selTo p k ++ (if p k=true then [(k:Int)] else [])
theorem selTo_hit {p:Nat→Bool} {k:Nat} (h:p k=true):selTo p (k+1)=selTo p k ++ [(k:Int)]:=by simp [selTo,h]
theorem selTo_miss {p:Nat→Bool} {k:Nat} (h:p k=false):selTo p (k+1)=selTo p k:=by simp [selTo,h]
theorem selTo_len (p:Nat→Bool) (k:Nat):(selTo p k).length≤k:=by
 induction k with
 | zero=>exact Nat.le_refl _
 | succ k ih=>rw [selTo,List.length_append];split <;> simp <;> omega
theorem selTo_mem {p:Nat→Bool} {k:Nat}:∀ j∈selTo p k,∃ m:Nat,j=m∧m<k∧p m=true:=by
 induction k with
 | zero=>intro j hj;cases hj
 | succ k ih =>
  intro j hj
  rw [selTo,List.mem_append] at hj
  rcases hj with hj | hj
  ·obtain ⟨m,h1,h2,h3⟩:=ih j hj;exact ⟨m,h1,by omega,h3⟩
  ·split at hj
   ·rename_i hp;simp at hj;exact ⟨k,hj,by omega,hp⟩
   ·cases hj
theorem selTo_none {p:Nat→Bool} {k:Nat} (h:∀ j,j<k→p j=false):selTo p k=[]:=by
 induction k with
 | zero=>rfl
 | succ k ih=>rw [selTo_miss (h k (by omega)),ih fun j hj=>h j (by omega)]
def partB (M:Nat→Mem) (i:Int) (k:Nat):Bool:=(M k).parent == i
def leafB (M:Nat→Mem) (n k:Nat):Bool:=decide ((M k).formula.size=0) && !decide (0≤findFrom (partB M k) n 0)
def inB (L:List Int) (i:Int):Bool:=decide (i∈L)
def partsOf (M:Nat→Mem) (n:Nat) (i:Int):List Int:=selTo (partB M i) n
theorem find_in (L:List Int) (i:Int):decide (0≤findFrom (fun j=>L.getD j 0 == i) L.length 0)=inB L i:=by
 unfold inB
 rw [decide_eq_decide]
 rcases findFrom_cases (fun j=>L.getD j 0 == i) L.length 0 with ⟨h1,h2⟩ | ⟨k,h1,_,h3,h4,_⟩
 ·rw [h1]
  constructor
  ·intro h;omega
  ·intro h
   obtain ⟨j,hj,e⟩:=List.getElem_of_mem h
   have:=h2 j (Nat.zero_le _) (by omega)
   simp [List.getD,List.getElem?_eq_getElem hj,e] at this
 ·rw [h1]
  constructor
  ·intro _
   have hk:k<L.length:=by omega
   simp [List.getD,List.getElem?_eq_getElem hk] at h4
   rw [←h4];exact List.getElem_mem hk
  ·intro _;omega
def rangeErr (n:Nat) (L:List Int):Int:=if 0≤findFrom (fun j=>decide (L.getD j 0<0) || decide ((n:Int)≤L.getD j 0)) L.length 0 then 1 else 0
def treeErr (d:Dm) (L:List Int):Int:=if (dimErr d).2≠0 then (dimErr d).2 else rangeErr d.n L
theorem treeErr_dim {d:Dm} {L:List Int} (h:(dimErr d).2≠0):treeErr d L=(dimErr d).2:=by unfold treeErr;rw [if_pos h]
theorem treeErr_one {d:Dm} {i:Int} (h:(dimErr d).2=0):treeErr d [i]=if i<0∨(d.n:Int)≤i then 1 else 0:=by
 unfold treeErr rangeErr;rw [if_neg (by simpa using h)]
 by_cases h1:i<0∨(d.n:Int)≤i
 ·rw [if_pos h1];simp [findFrom,h1]
 ·rw [if_neg h1];simp [findFrom,h1]
end Go.Proofs.YtfldgghobddgkaaGreatDoor
namespace Go.Proofs.YtfldgghobddgkaaGreatDoor
open Go.ChangeShapes Go.WideShapes Go.ChangeAt Go.RowKit
set_option maxRecDepth 20000
theorem isleaf1_in:EntersO 137:=fun args w=>by simp [callFunc,Tryz.func137];rfl
theorem isleaf1_any (m:Mem) (i:Int) (q:Nat) (w:World) (hq:q<w.heap.size) (h:w.cell? ⟨q,0,none⟩=some (.int .i64 i)):Calls Tryz.prog 137 #[memV m,.pointer (some ⟨q,0,none⟩)] w fun e w'=>e=.returned (.bool (m.parent == i))∧Below w.heap.size w w':=by
 unfold memV
 go_enter Tryz.func137,Tryz.ntmps137
 go_wp2_with fail
 go_ret
 exact ⟨by simp,by go_grown⟩
def ownInt (w:World) (i:Int) (T:Nat):World:=w.alloc (.cells #[.int .i64 i] T)
theorem ownInt_at (w:World) (i:Int) (T:Nat):(ownInt w i T).cell? ⟨w.heap.size,0,none⟩=some (.int .i64 i):=by unfold ownInt;simp
theorem ownInt_size (w:World) (i:Int) (T:Nat):(ownInt w i T).heap.size=w.heap.size+1:=by unfold ownInt;simp
theorem ownInt_below (w:World) (i:Int) (T:Nat):Below w.heap.size w (ownInt w i T):=by unfold ownInt;go_grown
theorem leafB_told {M:Nat→Mem} {n k:Nat} (h:(M k).formula.size≠0):leafB M n k=false:=by simp [leafB,h]
theorem leafB_parts {M:Nat→Mem} {n k:Nat} (h:(M k).formula.size=0):leafB M n k = !decide (0≤findFrom (partB M k) n 0):=by simp [leafB,h]
set_option maxHeartbeats 2000000 in
theorem isleaf_any (b o n cap i:Nat) (M:Nat→Mem) (w:World) (hn:n≤12) (hi:i<n) (hM:MemsAt w b o n M):Calls Tryz.prog 117 #[.slice (some ⟨b,o,none⟩) n cap,.int .i64 i] w fun e w'=>e=.returned (.bool (leafB M n i))∧Below w.heap.size w w':=by
 have hS:=ownInt_size w i 3
 have hB0:=ownInt_below w i 3
 have hA:=ownInt_at w i 3
 have hM0:=hM.later hB0
 have hcl:=contains_mems 137 w.heap.size isleaf1_in b o n cap M (partB M i) (ownInt w i 3) hn hM0 (fun j w' _ hw'=>isleaf1_any (M j) i w.heap.size w' (by have:=hw'.size;omega) ((hw'.cell (p:=⟨w.heap.size,0,none⟩) (by show w.heap.size<_;omega)).trans hA))
 have HB0:Hid (Below w.heap.size w (ownInt w i 3)):=hB0
 obtain ⟨-,-,-,h3⟩:=hM.2 i hi
 have hbw:=hM.1
 have hii:(i:Int)<(n:Int):=by omega
 have hn':(n:Int)≤12:=by omega
 clear hM hS hB0 hA hM0
 by_cases hf:(M i).formula.size=0
 ·have hf':(M i).formula.toList.isEmpty=true:=by rw [empty_same];simpa using hf
  have HR:Hid (leafB M n i = !decide (0≤findFrom (partB M i) n 0)):=leafB_parts hf
  clear hf
  generalize decide (0≤findFrom (partB M i) n 0)=f at hcl HR
  go_enter Tryz.func117,Tryz.ntmps117
  go_wp2_with fail
  refine hcl.mono ?_
  rintro e w1 ⟨rfl,hb1⟩
  go_wp2_with fail
  go_ret
  exact ⟨by rw [HR.out];rfl,onB HB0.out hb1⟩
 ·have hf':(M i).formula.toList.isEmpty=false:=by rw [empty_same];simpa using hf
  have HR:Hid (leafB M n i=false):=leafB_told hf
  clear hf hcl
  go_enter Tryz.func117,Tryz.ntmps117
  go_wp2_with fail
  go_ret
  exact ⟨by rw [HR.out];rfl,by go_grown⟩
def IntsAt (w:World) (A:Option Addr) (cap:Nat) (L:List Int):Prop:=L.length≤cap∧(L=[]∨∃ b,A=some ⟨b,0,none⟩∧b<w.heap.size∧∀ j,j<L.length→w.cell? ⟨b,j,none⟩=some (.int .i64 (L.getD j 0)))
theorem IntsAt.later {w w':World} {A:Option Addr} {cap:Nat} {L:List Int} (h:IntsAt w A cap L) (hB:Below w.heap.size w w'):IntsAt w' A cap L:=by
 obtain ⟨h1,h2 | ⟨b,h2,h3,h4⟩⟩:=h
 ·exact ⟨h1,Or.inl h2⟩
 ·exact ⟨h1,Or.inr ⟨b,h2,Nat.lt_of_lt_of_le h3 hB.size,fun j hj=>(hB.cell (p:=⟨b,j,none⟩) h3).trans (h4 j hj)⟩⟩
def mapI (L:List Int):List Value:=L.map (Value.int .i64)
theorem mapI_snoc (L:List Int) (x:Int):mapI (L ++ [x])=mapI L ++ [Value.int .i64 x]:=by simp [mapI]
theorem ints_of {w:World} {base e:Nat} {v:Value} {L:List Int} (h:w.ownsRow base e 1 v L.length (mapI L)):∃ A cap,v=.slice A L.length cap∧IntsAt w A cap L:=by
 rcases h.2 with ⟨rfl,h0⟩ | ⟨g,cap,cur,rfl,hb,hg,hc,_,_,_⟩
 ·exact ⟨none,0,by rw [h0],by omega,Or.inl (List.eq_nil_of_length_eq_zero h0)⟩
 ·refine ⟨_,cap,rfl,hc,Or.inr ⟨g,rfl,(Array.getElem?_eq_some_iff.1 hg).1,fun j hj=>?_⟩⟩
  have hx:=h.cells (g:=g) rfl j (.int .i64 (L.getD j 0)) (by simp [mapI,List.getD,List.getElem?_eq_getElem hj])
  have hadd:(⟨g,0,none⟩:Addr).add j=⟨g,j,none⟩:=by unfold Addr.add;split <;> simp_all
  rw [hadd] at hx
  exact hx
theorem own_later {w w':World} {base e size:Nat} {v:Value} {n:Nat} {xs:List Value} (h:w.ownsRow base e size v n xs) (hB:Below w.heap.size w w'):w'.ownsRow base e size v n xs:=by
 refine ⟨h.1,?_⟩
 rcases h.2 with h0 | ⟨g,cap,cur,rfl,hb,hg,h1⟩
 ·exact Or.inl h0
 ·exact Or.inr ⟨g,cap,cur,rfl,hb,(hB.block g (Array.getElem?_eq_some_iff.1 hg).1).trans hg,h1⟩
theorem grown_own {w wr w1:World} {e size n:Nat} {v:Value} {xs:List Value} {o:Obj} (hB:Below w.heap.size w wr) (hown:wr.ownsRow w.heap.size e size v n xs) (hgrow:(wr.alloc o).grownBy w1 v.ownBlock):Below w.heap.size w w1 :=
 (hB.alloc hB.size o).grown hgrow (by have:=hB.size;simp;omega) (fun j hj=>(hown.lt j hj).1)
theorem one_cell {wr:World} {x:Value} {T:Nat}:∀ j u,[x][j]?=some u→(wr.alloc (.cells #[x] T)).cell? ((⟨wr.heap.size,0,none⟩:Addr).add j)=some u:=by
 intro j u hj
 match j,hj with
 | 0,hj=>simp at hj;subst hj;simp [Addr.add]
theorem one_one {x:Int}:∀ u∈[Value.int .i64 x],u.oneCell'=true:=by intro u hu;simp at hu;subst hu;rfl
theorem Tryz.infoInt:(Tryz.prog.info? 3).map (fun i=>(i.zero,i.size,i.bytes))=some (some (.int .i64 0),1,8):=by kernel_rfl
theorem isdig_any (c:Int) (w:World):Calls Tryz.prog 181 #[.int .u8 c] w fun e w'=>e=.returned (.bool (digB c))∧Below w.heap.size w w':=by
 unfold digB
 by_cases h1:48≤c
 ·go_enter Tryz.func181,Tryz.ntmps181
  go_wp2
  go_ret
  exact ⟨by simp <;> omega,by go_grown⟩
 ·go_enter Tryz.func181,Tryz.ntmps181
  go_wp2
  go_ret
  exact ⟨by simp <;> omega,by go_grown⟩
theorem islet_any (c:Int) (w:World):Calls Tryz.prog 156 #[.int .u8 c] w fun e w'=>e=.returned (.bool (letB c))∧Below w.heap.size w w':=by
 unfold letB
 by_cases h1:97≤c
 ·go_enter Tryz.func156,Tryz.ntmps156
  go_wp2
  go_ret
  exact ⟨by simp <;> omega,by go_grown⟩
 ·go_enter Tryz.func156,Tryz.ntmps156
  go_wp2
  go_ret
  exact ⟨by simp <;> omega,by go_grown⟩
theorem binds_any (op:Int) (w:World):Calls Tryz.prog 127 #[.int .i64 op] w fun e w'=>e=.returned (.int .i64 (bindN op))∧Below w.heap.size w w':=by
 unfold bindN
 by_cases h3:op=3
 ·subst h3
  go_enter Tryz.func127,Tryz.ntmps127
  go_wp2
  go_ret
  exact ⟨by simp,by go_grown⟩
 by_cases h4:op=4
 ·subst h4
  go_enter Tryz.func127,Tryz.ntmps127
  go_wp2
  go_ret
  exact ⟨by simp,by go_grown⟩
 by_cases h5:op=5
 ·subst h5
  go_enter Tryz.func127,Tryz.ntmps127
  go_wp2
  go_ret
  exact ⟨by simp,by go_grown⟩
 by_cases h6:op=6
 ·subst h6
  go_enter Tryz.func127,Tryz.ntmps127
  go_wp2
  go_ret
  exact ⟨by simp,by go_grown⟩
 rw [if_neg (by omega),if_neg (by omega)]
 go_enter Tryz.func127,Tryz.ntmps127
 go_wp2
 go_ret
 exact ⟨rfl,by go_grown⟩
theorem joins_any (op:Int) (w:World):Calls Tryz.prog 162 #[.int .i64 op] w fun e w'=>e=.returned (.bool (decide (op≠1∧op≠2)))∧Below w.heap.size w w':=by
 by_cases h1:op=1
 ·subst h1
  go_enter Tryz.func162,Tryz.ntmps162
  go_wp2
  go_ret
  exact ⟨by simp,by go_grown⟩
 by_cases h2:op=2
 ·subst h2
  go_enter Tryz.func162,Tryz.ntmps162
  go_wp2
  go_ret
  exact ⟨by simp,by go_grown⟩
 go_enter Tryz.func162,Tryz.ntmps162
 go_wp2
 go_ret
 exact ⟨by simp [h1,h2],by go_grown⟩
def brk (t:ByteArray) (b:Bool):ByteArray:=if b then ⟨#[40]⟩ ++ t ++ ⟨#[41]⟩ else t
theorem byteN_get (s:ByteArray) (k:Nat) (h:k<s.size):((s[k]'h).toNat:Int)=byteN s k:=by
 unfold byteN
 rw [List.getD,List.getElem?_eq_getElem (by simpa using h)]
 rfl
theorem lead_miss {p:Int→Bool} {t:ByteArray} {f i:Nat} (h:p (byteN t i)=false):leadTo p t (f+1) i=i:=by simp [leadTo,h]
theorem lead_hit {p:Int→Bool} {t:ByteArray} {f i:Nat} (h:p (byteN t i)=true):leadTo p t (f+1) i=leadTo p t f (i+1):=by simp [leadTo,h]
set_option maxHeartbeats 1000000 in
theorem lead_any (p:Int→Bool) (F:Nat) (hent:∀ (args:Array Value) (w:World),(callFunc F args).run Tryz.prog w=.ok (.enter F args) w) (hF:∀ (c:Int) (w:World),Calls Tryz.prog F #[.int .u8 c] w fun e w'=>e=.returned (.bool (p c))∧Below w.heap.size w w') (t:ByteArray) (w:World) (hs:t.size≤4611686018427387904):Calls Tryz.prog 183 #[.string t,.func (.func F) #[] #[]] w fun e w'=>e=.returned (.int .i64 (leadN p t))∧Below w.heap.size w w':=by
 have HF:Hid (∀ (c:Int) (w:World),Calls Tryz.prog F #[.int .u8 c] w fun e w'=>e=.returned (.bool (p c))∧Below w.heap.size w w'):=hF
 unfold leadN
 clear hF
 go_enter Tryz.func183,Tryz.ntmps183
 go_wp2_with fail
 go_loopg [8] t.size (fun g s8 wr => ∃ (k:Nat),k≤t.size∧g=t.size-k∧s8=.int .i64 k∧leadTo p t (t.size-k) k=leadTo p t t.size 0∧Below w.heap.size w wr)
 case atStart=>exact ⟨0,Nat.zero_le _,rfl,rfl,rfl,Below.refl _ _⟩
 case round =>
  obtain ⟨k,hk,rfl,rfl,hf,hBw⟩:=hrel
  have HQ:Hid (leadTo p t (t.size-k) k=leadTo p t t.size 0):=hf
  have HW:Hid (Below w.heap.size w wr):=hBw
  clear hf hBw
  by_cases hlt:k<t.size
  ·have hki:(k:Int)<(t.size:Int):=by omega
   have hs':(t.size:Int)≤4611686018427387904:=by omega
   have HSK:Hid (t.size-k=(t.size-(k+1))+1):=by show _=_;omega
   have hbd:=HF.out (byteN t k)
   have hby:=byteN_get t k hlt
   cases hb:p (byteN t k)
   ·rw [hb] at hbd
    have HK:Hid (p (byteN t k)=false):=hb
    clear hb
    generalize byteN t k=c at hbd hby
    go_wp2_with fail
    refine (hbd _).mono ?_
    rintro e w1 ⟨rfl,hb1⟩
    go_wp2_with fail
    go_ret
    exact ⟨by rw [←HQ.out,HSK.out,lead_miss HK.out];rfl,onB HW.out hb1⟩
   ·rw [hb] at hbd
    have HK:Hid (p (byteN t k)=true):=hb
    clear hb
    generalize byteN t k=c at hbd hby
    go_wp2_with fail
    refine (hbd _).mono ?_
    rintro e w1 ⟨rfl,hb1⟩
    go_wp2_with fail
    go_roundg (t.size-(k+1))
    case measure=>omega
    case rel=>exact ⟨k+1,by omega,rfl,by go_num,by rw [←HQ.out,HSK.out,lead_hit HK.out],onB HW.out hb1⟩
  ·have hke:k=t.size:=by omega
   subst hke
   go_wp2_with fail
   go_ret
   exact ⟨by rw [←HQ.out,Nat.sub_self];rfl,HW.out⟩
theorem ent_dig (args:Array Value) (w:World):(callFunc 181 args).run Tryz.prog w=.ok (.enter 181 args) w:=by simp [go_sem]
theorem ent_let (args:Array Value) (w:World):(callFunc 156 args).run Tryz.prog w=.ok (.enter 156 args) w:=by simp [go_sem]
theorem leadd_any (t:ByteArray) (w:World) (hs:t.size≤4611686018427387904):Calls Tryz.prog 183 #[.string t,.func (.func 181) #[] #[]] w fun e w'=>e=.returned (.int .i64 (leadN digB t))∧Below w.heap.size w w':=lead_any digB 181 ent_dig isdig_any t w hs
theorem leadl_any (t:ByteArray) (w:World) (hs:t.size≤4611686018427387904):Calls Tryz.prog 183 #[.string t,.func (.func 156) #[] #[]] w fun e w'=>e=.returned (.int .i64 (leadN letB t))∧Below w.heap.size w w':=lead_any letB 156 ent_let islet_any t w hs
end Go.Proofs.YtfldgghobddgkaaGreatDoor
namespace Go.Proofs.YtfldgghobddgkaaGreatDoor
def rowN (N:List (List Int)) (i:Int):List Int:=N.getD i.toNat []
def Inn (N:List (List Int)):Prop := ∀ (i:Nat),i<N.length→∀ x∈N.getD i [],0≤x∧x<(N.length:Int)
theorem Inn.at {N:List (List Int)} (h:Inn N) {a:Int} (h0:0≤a) (h1:a<(N.length:Int)) {x:Int} (hx:x∈rowN N a):0≤x∧x<(N.length:Int):=h a.toNat (by omega) x hx
inductive Rch (N:List (List Int)):Int→Int→Prop
 | one {a b:Int}:b∈rowN N a→Rch N a b
 | more {a b c:Int}:b∈rowN N a→Rch N b c→Rch N a c
theorem Rch.trans {N:List (List Int)} {a b c:Int} (h:Rch N a b) (k:Rch N b c):Rch N a c:=by
 induction h with
 | one h=>exact .more h k
 | more h _ ih=>exact .more h (ih k)
theorem Rch.snoc {N:List (List Int)} {a b c:Int} (h:Rch N a b) (k:c∈rowN N b):Rch N a c:=h.trans (.one k)
theorem Rch.inn {N:List (List Int)} (hN:Inn N) {a b:Int} (h:Rch N a b):0≤a→a<(N.length:Int)→0≤b∧b<(N.length:Int):=by
 induction h with
 | one h=>exact fun h0 h1=>hN.at h0 h1 h
 | more h _ ih=>exact fun h0 h1=>let ⟨x,y⟩:=hN.at h0 h1 h;ih x y
theorem Rch.closed {N:List (List Int)} {S:Int→Prop} {a b:Int} (h:Rch N a b):(∀ x∈rowN N a,S x)→(∀ x,S x→∀ y∈rowN N x,S y)→S b:=by
 induction h with
 | one h=>exact fun h1 _=>h1 _ h
 | more h _ ih=>exact fun h1 h2=>ih (fun x hx=>h2 _ (h1 _ h) x hx) h2
noncomputable def cycB (N:List (List Int)) (i:Nat):Bool := @decide (Rch N i i) (Classical.propDecidable _)
theorem cyc_iff {N:List (List Int)} {i:Nat}:cycB N i=true↔Rch N i i:=by
 unfold cycB
 exact @decide_eq_true_iff _ (Classical.propDecidable _)
theorem few (n:Nat):∀ (L:List Int),L.Nodup→(∀ x∈L,0≤x∧x<(n:Int))→L.length≤n:=by
 induction n with
 | zero =>
  intro L _ h
  cases L with
  | nil=>exact Nat.le_refl _
  | cons x r=>have:=h x (by simp);omega
 | succ n ih =>
  intro L hL h
  have h1:=ih (L.erase (n:Int)) (hL.erase _) fun x hx=>by
   have h2:=(hL.mem_erase_iff.1 hx)
   have:=h x h2.2
   have:=h2.1
   omega
  have h3:L.length≤(L.erase (n:Int)).length+1:=by
   by_cases hm:(n:Int)∈L
   ·rw [List.length_erase_of_mem hm];omega
   ·rw [List.erase_of_not_mem hm];omega
  omega
theorem rise_eq:∀ (L K:List Int),L.Pairwise (· < ·)→K.Pairwise (· < ·)→(∀ x,x∈L↔x∈K)→L=K
 | [],[],_,_,_=>rfl
 | [],y :: K,_,_,h=>by have:=(h y).2 (by simp);cases this
 | x :: L,[],_,_,h=>by have:=(h x).1 (by simp);cases this
 | x :: L,y :: K,hL,hK,h=>by
  have hL1:=List.pairwise_cons.1 hL
  have hK1:=List.pairwise_cons.1 hK
  have e:x=y:=by
   rcases List.mem_cons.1 ((h x).1 (by simp)) with e | e
   ·exact e
   ·rcases List.mem_cons.1 ((h y).2 (by simp)) with e2 | e2
    ·exact e2.symm
    ·have:=hL1.1 _ e2
     have:=hK1.1 _ e
     omega
  subst e
  congr 1
  refine rise_eq L K hL1.2 hK1.2 fun z=>⟨fun hz=>?_,fun hz=>?_⟩
  ·rcases List.mem_cons.1 ((h z).1 (List.mem_cons_of_mem _ hz)) with e | e
   ·have:=hL1.1 z hz;omega
   ·exact e
  ·rcases List.mem_cons.1 ((h z).2 (List.mem_cons_of_mem _ hz)) with e | e
   ·have:=hK1.1 z hz;omega
   ·exact e
theorem sel_rise (p:Nat→Bool) (k:Nat):(selTo p k).Pairwise (· < ·):=by
 induction k with
 | zero=>exact List.Pairwise.nil
 | succ k ih =>
  rw [selTo,List.pairwise_append]
  refine ⟨ih,?_,fun a ha b hb=>?_⟩
  ·split <;> simp
  ·obtain ⟨m,h1,h2,-⟩:=selTo_mem a ha
   split at hb
   ·rw [List.mem_singleton.1 hb];omega
   ·cases hb
theorem sel_has {p:Nat→Bool} {k m:Nat} (h:m<k) (hp:p m=true):(m:Int)∈selTo p k:=by
 induction k with
 | zero=>omega
 | succ k ih =>
  rw [selTo,List.mem_append]
  by_cases e:m=k
  ·subst e;exact Or.inr (by rw [if_pos hp];simp)
  ·exact Or.inl (ih (by omega))
theorem selru_filter (p q:Nat→Bool) (f:Int→Bool) (k:Nat) (h:∀ j,j<k→(q j=true↔p j=true∧f (j:Int)=true)):(selTo p k).filter f=selTo q k:=by
 induction k with
 | zero=>rfl
 | succ k ih =>
  rw [selTo,selTo,List.filter_append,ih fun j hj=>h j (by omega)]
  congr 1
  have hk:=h k (by omega)
  by_cases h1:p k=true
  ·by_cases h2:f (k:Int)=true
   ·rw [if_pos h1,if_pos (hk.2 ⟨h1,h2⟩)];simp [h2]
   ·rw [if_pos h1,if_neg fun e=>h2 (hk.1 e).2];simp [h2]
  ·rw [if_neg h1,if_neg fun e=>h1 (hk.1 e).1];rfl
theorem rise_nodup {L:List Int} (h:L.Pairwise (· < ·)):L.Nodup:=h.imp fun h e=>by omega
end Go.Proofs.YtfldgghobddgkaaGreatDoor
namespace Go.Proofs.YtfldgghobddgkaaGreatDoor
open Go.ChangeShapes Go.WideShapes Go.ChangeAt Go.RowKit
set_option maxRecDepth 20000
theorem byteN_eq (s:ByteArray) (k:Nat) (h:k<s.size):byteN s k=(s[k].toNat:Int):=by
 unfold byteN
 rw [List.getD,List.getElem?_eq_getElem (by simpa using h)]
 rfl
set_option maxHeartbeats 1000000 in
theorem rname_any (s:ByteArray) (w:World):Calls Tryz.prog 15 #[.string s] w fun e w'=>e=.returned (.int .i64 (nameErr s))∧w'=w:=by
 by_cases h1:s.size<1
 ·rw [nameErr_short (Or.inl h1)]
  have h2:s.toList.isEmpty=true:=by rw [empty_same];simpa using (by omega:s.size=0)
  clear h1
  go_enter Tryz.func15,Tryz.ntmps15
  go_wp2
  go_ret
  exact ⟨rfl,rfl⟩
 ·have h0:s.toList.isEmpty=false:=by rw [empty_same];simpa using (by omega : ¬ s.size=0)
  by_cases h2:8<s.size
  ·rw [nameErr_short (Or.inr h2)]
   have h2':8<(s.size:Int):=by omega
   clear h1
   go_enter Tryz.func15,Tryz.ntmps15
   go_wp2
   go_ret
   exact ⟨rfl,rfl⟩
  ·have h2':(s.size:Int)≤8:=by omega
   have HN:Hid (nameErr s=if 0≤findFrom (badByte s) s.size 0 then 2 else 0):=nameErr_bytes (by omega) (by omega)
   clear h1
   go_enter Tryz.func15,Tryz.ntmps15
   go_wp2
   go_loopg [3] s.size (fun g s3 wr => ∃ k:Nat,k≤s.size∧g=s.size-k∧s3=.int .i64 k∧findFrom (badByte s) (s.size-k) k=findFrom (badByte s) s.size 0∧wr=w)
   case atStart=>exact ⟨0,Nat.zero_le _,rfl,rfl,rfl,rfl⟩
   case round =>
    obtain ⟨k,hk,rfl,rfl,hf,rfl⟩:=hrel
    by_cases hlt:k<s.size
    ·have HF:Hid (findFrom (badByte s) (s.size-k) k=findFrom (badByte s) s.size 0):=hf
     have hsk:s.size-k=(s.size-(k+1))+1:=by omega
     have hki:(k:Int)<(s.size:Int):=by omega
     have HY:=byteN_eq s k hlt
     have HZ:Hid (byteN s k=(s[k].toNat:Int)):=HY
     clear hf HY
     by_cases b1:(s[k].toNat:Int)<97
     ·go_wp2
      go_ret
      have hb:badByte s k=true:=by unfold badByte badB;rw [HZ.out];simp [b1]
      exact ⟨by rw [HN.out,←HF.out,hsk,findFrom_hit _ hb,if_pos (by omega)];rfl,rfl⟩
     ·by_cases b2:122<(s[k].toNat:Int)
      ·go_wp2
       go_ret
       have hb:badByte s k=true:=by unfold badByte badB;rw [HZ.out];simp [b2]
       exact ⟨by rw [HN.out,←HF.out,hsk,findFrom_hit _ hb,if_pos (by omega)];rfl,rfl⟩
      ·have HB:Hid (badByte s k=false):=by show badByte s k=false;unfold badByte badB;rw [HZ.out];simp;omega
       go_wp2
       go_roundg (s.size-(k+1))
       case measure=>omega
       case rel=>exact ⟨k+1,by omega,rfl,by go_num,by rw [←HF.out,hsk,findFrom_miss _ HB.out],rfl⟩
    ·have hke:k=s.size:=by omega
     have HF:Hid (findFrom (badByte s) (s.size-k) k=findFrom (badByte s) s.size 0):=hf
     have hki:(s.size:Int)≤(k:Int):=by omega
     clear hf
     go_wp2
     go_ret
     exact ⟨by rw [HN.out,←HF.out,hke,Nat.sub_self];rfl,rfl⟩
set_option maxHeartbeats 1000000 in
theorem where_any (d:Dm) (A:Option Addr) (cap:Nat) (s:ByteArray) (w:World) (hn:d.n≤12) (hM:MemsV w A cap d.n d.mem):Calls Tryz.prog 16 #[dimV d A cap,.string s] w fun e w'=>e=.returned (.int .i64 (findFrom (fun j=>same (d.mem j).name s) d.n 0))∧Below w.heap.size w w':=by
 have HM:Hid (MemsV w A cap d.n d.mem):=hM
 clear hM
 unfold dimV
 have hn':(d.n:Int)≤12:=by omega
 have hS:=ownDim_size w d A cap 41
 have hB0:=ownDim_below w d A cap 41
 have hA2:=(ownDim_at w d A cap 41).2.2
 obtain ⟨W,hW⟩:∃ W,W=ownDim w d A cap 41:=⟨_,rfl⟩
 rw [←hW] at hB0 hS hA2
 have HW:Hid (W=ownDim w d A cap 41):=hW
 have HA:Hid (W.cell? ⟨w.heap.size,2,none⟩=some (.slice A d.n cap)):=hA2
 have HB0:Hid (Below w.heap.size w W):=hB0
 have hsz:w.heap.size<W.heap.size:=by omega
 clear hW hA2 hB0 hS
 go_enter Tryz.func16,Tryz.ntmps16
 go_wp2_with fail
 go_loopg [5] d.n (fun g s5 wr => ∃ k:Nat,k≤d.n∧g=d.n-k∧s5=.int .i64 k∧findFrom (fun j=>same (d.mem j).name s) (d.n-k) k=findFrom (fun j=>same (d.mem j).name s) d.n 0∧wr=W)
 case atStart=>exact ⟨0,Nat.zero_le _,rfl,rfl,rfl,by rw [HW.out];rfl⟩
 case round =>
  obtain ⟨k,hk,rfl,rfl,hf,rfl⟩:=hrel
  have HF:Hid (findFrom (fun j=>same (d.mem j).name s) (d.n-k) k=findFrom (fun j=>same (d.mem j).name s) d.n 0):=hf
  have c2:=HA.out
  clear hf
  by_cases hlt:k<d.n
  ·obtain ⟨hcap,h0 | ⟨b,o,rfl,hMs⟩⟩:=HM.out.later HB0.out
   ·omega
   obtain ⟨n0,-,-,-⟩:=hMs.2 k hlt
   have hki:(k:Int)<(d.n:Int):=by omega
   have hsk:d.n-k=(d.n-(k+1))+1:=by omega
   clear hMs
   cases hq:((d.mem k).name.toList == s.toList)
   ·have HQ:Hid ((fun j=>same (d.mem j).name s) k=false):=hq
    go_wp2_with fail
    go_roundg (d.n-(k+1))
    case measure=>omega
    case rel=>exact ⟨k+1,by omega,rfl,by go_num,by rw [←HF.out,hsk,findFrom_miss _ HQ.out],rfl⟩
   ·have HQ:Hid ((fun j=>same (d.mem j).name s) k=true):=hq
    go_wp2_with fail
    go_ret
    exact ⟨by rw [←HF.out,hsk,findFrom_hit _ HQ.out];rfl,HB0.out⟩
  ·have hke:k=d.n:=by omega
   have hki:(d.n:Int)≤(k:Int):=by omega
   go_wp2_with fail
   go_ret
   exact ⟨by rw [←HF.out,hke,Nat.sub_self];rfl,HB0.out⟩
end Go.Proofs.YtfldgghobddgkaaGreatDoor
