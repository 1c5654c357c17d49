/-
  What package outline tells, as plain functions on plain data: of a name, a member, a dim, an outline; and small facts on the first of a row that is so.
-/
import Derived.Test.YtfgegmpoejilnaaGreatDoorProg
import Derived.WalkKit
import Derived.ProofKit
import Derived.OpenShut
import Derived.Handy
import Derived.Outline
import Derived.Laws.IdiomStrings
import Derived.Deep.LoopGhost
namespace Go.Proofs.YtfgegmpoejilnaaGreatDoor
structure Mem where
 name:ByteArray
 parent:Int
 sign:Int
 formula:ByteArray
structure Dm where
 name:ByteArray
 solve:Int
 n:Nat
 mem:Nat→Mem
def findFrom (p:Nat→Bool):Nat→Nat→Int
 | 0,_ => -1
 | r+1,i=>if p i then (i:Int) else findFrom p r (i+1)
theorem findFrom_hit {p:Nat→Bool} {i:Nat} (r:Nat) (h:p i=true):findFrom p (r+1) i=(i:Int):=by simp [findFrom,h]
theorem findFrom_miss {p:Nat→Bool} {i:Nat} (r:Nat) (h:p i=false):findFrom p (r+1) i=findFrom p r (i+1):=by simp [findFrom,h]
theorem findFrom_cases (p:Nat→Bool) (r:Nat):∀ i,(findFrom p r i = -1∧∀ j,i≤j→j<i+r→p j=false)∨∃ k:Nat,findFrom p r i=(k:Int)∧i≤k∧k<i+r∧p k=true∧∀ j,i≤j→j<k→p j=false:=by
 induction r with
 | zero=>exact fun i=>Or.inl ⟨rfl,fun j h1 h2=>by omega⟩
 | succ r ih =>
  intro i
  cases hp:p i with
  | true=>exact Or.inr ⟨i,findFrom_hit r hp,Nat.le_refl _,by omega,hp,fun j h1 h2=>by omega⟩
  | false =>
   rw [findFrom_miss r hp]
   rcases ih (i+1) with ⟨h1,h2⟩ | ⟨k,h1,h2,h3,h4,h5⟩
   ·refine Or.inl ⟨h1,fun j h3 h4=>?_⟩
    rcases Nat.lt_or_ge i j with h | h
    ·exact h2 j h (by omega)
    ·rw [show j=i by omega];exact hp
   ·refine Or.inr ⟨k,h1,by omega,by omega,h4,fun j h6 h7=>?_⟩
    rcases Nat.lt_or_ge i j with h | h
    ·exact h5 j h h7
    ·rw [show j=i by omega];exact hp
theorem findFrom_none {p:Nat→Bool} {r i:Nat} (h:∀ j,i≤j→j<i+r→p j=false):findFrom p r i = -1:=by
 rcases findFrom_cases p r i with ⟨h1,_⟩ | ⟨k,_,h2,h3,h4,_⟩
 ·exact h1
 ·rw [h k h2 h3] at h4;cases h4
theorem findFrom_at {p:Nat→Bool} {r i k:Nat} (h1:i≤k) (h2:k<i+r) (h3:p k=true) (h4:∀ j,i≤j→j<k→p j=false):findFrom p r i=(k:Int):=by
 rcases findFrom_cases p r i with ⟨_,h5⟩ | ⟨m,e,h5,h6,h7,h8⟩
 ·rw [h5 k h1 h2] at h3;cases h3
 ·rcases Nat.lt_trichotomy k m with h | h | h
  ·rw [h8 k h1 h] at h3;cases h3
  ·rw [e,h]
  ·rw [h4 m h5 h] at h7;cases h7
theorem findFrom_nonneg {q:Nat→Bool} {n i:Nat} (hi:i<n) (hq:q i=true):0≤findFrom q n 0:=by
 rcases findFrom_cases q n 0 with ⟨_,h2⟩ | ⟨k,h1,_⟩
 ·rw [h2 i (Nat.zero_le _) (by omega)] at hq;cases hq
 ·rw [h1];omega
def same (s t:ByteArray):Bool:=s.toList == t.toList
def byteN (s:ByteArray) (i:Nat):Int:=((s.data.toList.getD i 0).toNat:Int)
def badB (c:Int):Bool:=decide (c<97) || decide (122<c)
def badByte (s:ByteArray) (i:Nat):Bool:=badB (byteN s i)
def nameErr (s:ByteArray):Int:=if s.size<1∨8<s.size then 2 else if 0≤findFrom (badByte s) s.size 0 then 2 else 0
def clash (M:Nat→Mem) (i:Nat):Bool:=decide (0≤findFrom (fun j=>same (M j).name (M i).name) i 0)
def memErr (M:Nat→Mem) (i:Nat):Int :=
 if nameErr (M i).name≠0 then 2
 else if clash M i=true then 7
 else if (M i).parent < -1∨(i:Int)≤(M i).parent then 1
 else if 0≤(M i).parent∧(M (M i).parent.toNat).formula.size≠0 then 6
 else if (M i).sign < -1∨1<(M i).sign then 1
 else if 100<(M i).formula.size then 4
 else 0
def scan (M:Nat→Mem):Nat→Nat→Int×Int
 | 0,_=>(-1,0)
 | r+1,i=>if memErr M i=0 then scan M r (i+1) else ((i:Int),memErr M i)
theorem scan_ok {M:Nat→Mem} {i:Nat} (r:Nat) (h:memErr M i=0):scan M (r+1) i=scan M r (i+1):=by simp [scan,h]
theorem scan_bad {M:Nat→Mem} {i:Nat} (r:Nat) (h:memErr M i≠0):scan M (r+1) i=((i:Int),memErr M i):=by simp [scan,h]
theorem scan_right {M:Nat→Mem} (r:Nat):∀ i,(scan M r i).2=0→(scan M r i).1 = -1∧∀ j,i≤j→j<i+r→memErr M j=0:=by
 induction r with
 | zero=>exact fun i _=>⟨rfl,fun j h1 h2=>by omega⟩
 | succ r ih =>
  intro i h
  by_cases hm:memErr M i=0
  ·rw [scan_ok r hm] at h ⊢
   obtain ⟨h1,h2⟩:=ih (i+1) h
   refine ⟨h1,fun j h3 h4=>?_⟩
   rcases Nat.lt_or_ge i j with h5 | h5
   ·exact h2 j h5 (by omega)
   ·rw [show j=i by omega];exact hm
  ·rw [scan_bad r hm] at h
   exact absurd h hm
def dimErr (d:Dm):Int×Int :=
 if nameErr d.name≠0 then (-1,2)
 else if d.solve<0∨9<d.solve then (-1,1)
 else if 12<d.n then (-1,4)
 else if d.n=0 then (-1,5)
 else scan d.mem d.n 0
theorem dimErr_right {d:Dm} (h:(dimErr d).2=0):(dimErr d).1 = -1∧1≤d.n∧d.n≤12∧∀ j,j<d.n→memErr d.mem j=0:=by
 unfold dimErr at h ⊢
 split at h
 ·simp at h
 ·split at h
  ·simp at h
  ·split at h
   ·simp at h
   ·split at h
    ·simp at h
    ·rename_i h1 h2 h3 h4
     obtain ⟨h5,h6⟩:=scan_right d.n 0 h
     rw [if_neg h1,if_neg h2,if_neg h3,if_neg h4]
     exact ⟨h5,by omega,by omega,fun j hj=>h6 j (Nat.zero_le _) (by omega)⟩
theorem memErr_noclash {M:Nat→Mem} {i:Nat} (h:memErr M i=0):findFrom (fun j=>same (M j).name (M i).name) i 0<0:=by
 unfold memErr at h
 split at h
 ·simp at h
 ·split at h
  ·simp at h
  ·rename_i h2
   simp [clash] at h2
   exact h2
def clashD (D:Nat→Dm) (i:Nat):Bool:=decide (0≤findFrom (fun j=>same (D j).name (D i).name) i 0)
def oneD (D:Nat→Dm) (i:Nat):Int×Int:=if (dimErr (D i)).2≠0 then dimErr (D i) else if clashD D i=true then (-1,7) else (-1,0)
def scanD (D:Nat→Dm):Nat→Nat→Int×Int×Int
 | 0,_=>(-1,-1,0)
 | r+1,i=>if (oneD D i).2=0 then scanD D r (i+1) else ((i:Int),(oneD D i).1,(oneD D i).2)
theorem scanD_ok {D:Nat→Dm} {i:Nat} (r:Nat) (h:(oneD D i).2=0):scanD D (r+1) i=scanD D r (i+1):=by simp [scanD,h]
theorem scanD_bad {D:Nat→Dm} {i:Nat} (r:Nat) (h:(oneD D i).2≠0):scanD D (r+1) i=((i:Int),(oneD D i).1,(oneD D i).2):=by simp [scanD,h]
theorem oneD_right {D:Nat→Dm} {i:Nat} (h:(oneD D i).2=0):(dimErr (D i)).2=0:=by
 unfold oneD at h
 split at h
 ·rename_i h1;exact absurd h h1
 ·rename_i h1;simpa using h1
theorem scanD_right {D:Nat→Dm} (r:Nat):∀ i,(scanD D r i).2.2=0→(scanD D r i)=(-1,-1,0)∧∀ j,i≤j→j<i+r→(oneD D j).2=0:=by
 induction r with
 | zero=>exact fun i _=>⟨rfl,fun j h1 h2=>by omega⟩
 | succ r ih =>
  intro i h
  by_cases hm:(oneD D i).2=0
  ·rw [scanD_ok r hm] at h ⊢
   obtain ⟨h1,h2⟩:=ih (i+1) h
   refine ⟨h1,fun j h3 h4=>?_⟩
   rcases Nat.lt_or_ge i j with h5 | h5
   ·exact h2 j h5 (by omega)
   ·rw [show j=i by omega];exact hm
  ·rw [scanD_bad r hm] at h
   exact absurd h hm
def prodN (D:Nat→Dm):Nat→Nat
 | 0=>1
 | k+1=>prodN D k*(D k).n
theorem prodN_le {D:Nat→Dm} {k:Nat} (h:∀ j,j<k→(D j).n≤12):prodN D k≤12 ^ k:=by
 induction k with
 | zero=>exact Nat.le_refl _
 | succ k ih =>
  rw [prodN,Nat.pow_succ]
  exact Nat.mul_le_mul (ih fun j hj=>h j (by omega)) (h k (by omega))
def allErr (D:Nat→Dm) (n:Nat):Int×Int×Int :=
 if 4<n then (-1,-1,4)
 else if n=0 then (-1,-1,5)
 else if (scanD D n 0).2.2≠0 then scanD D n 0
 else if 3000<prodN D n then (-1,-1,4)
 else (-1,-1,0)
theorem allErr_right {D:Nat→Dm} {n:Nat} (h:(allErr D n).2.2=0):n≤4∧∀ i,i<n→(dimErr (D i)).2=0:=by
 unfold allErr at h
 split at h
 ·simp at h
 ·split at h
  ·simp at h
  ·split at h
   ·rename_i h3;exact absurd h h3
   ·rename_i h1 h2 h3
    have h4:=scanD_right n 0 (by simpa using h3)
    exact ⟨by omega,fun i hi=>oneD_right (h4.2 i (Nat.zero_le _) (by omega))⟩
end Go.Proofs.YtfgegmpoejilnaaGreatDoor
namespace Go.Proofs.YtfgegmpoejilnaaGreatDoor
open Go.ChangeShapes Go.WideShapes Go.ChangeAt Go.RowKit
set_option maxRecDepth 20000
def errV (c:Int):Value:=if c=0 then .nilIface else .iface 95 (.int .i64 c)
theorem errV_zero:errV 0=.nilIface:=rfl
theorem errV_some {c:Int} (h:c≠0):errV c=.iface 95 (.int .i64 c):=by simp [errV,h]
theorem bad_any (c:Int) (w:World):Calls Tryz.prog 198 #[.int .u8 c] w fun e w'=>e=.returned (.bool (badB c))∧Below w.heap.size w w':=by
 unfold badB
 by_cases h1:c<97
 ·go_enter Tryz.func198,Tryz.ntmps198
  go_wp2
  go_ret
  exact ⟨by simp <;> omega,by go_grown⟩
 ·go_enter Tryz.func198,Tryz.ntmps198
  go_wp2
  go_ret
  exact ⟨by simp <;> omega,by go_grown⟩
def BytesAt (w:World) (b:Nat) (s:ByteArray):Prop:=b<w.heap.size∧∀ i,i<s.size→w.cell? ⟨b,i,none⟩=some (.int .u8 (byteN s i))
theorem BytesAt.later {w w':World} {b:Nat} {s:ByteArray} (h:BytesAt w b s) (hb:Below w.heap.size w w'):BytesAt w' b s :=
 ⟨Nat.lt_of_lt_of_le h.1 hb.size,fun i hi=>(hb.cell (p:=⟨b,i,none⟩) h.1).trans (h.2 i hi)⟩
theorem onB {W0 W w4:World} (h:Below W0.heap.size W0 W) (hb:Below W.heap.size W w4):Below W0.heap.size W0 w4:=h.trans (hb.mono h.size)
set_option maxHeartbeats 1000000 in
theorem index_bytes (s:ByteArray) (b cap:Nat) (w:World) (hs:s.size≤8) (hB:BytesAt w b s):Calls Tryz.prog 219 #[.slice (some ⟨b,0,none⟩) s.size cap,.func (.func 198) #[] #[]] w fun e w'=>e=.returned (.int .i64 (findFrom (badByte s) s.size 0))∧Below w.heap.size w w':=by
 have HB:Hid (BytesAt w b s):=hB
 clear hB
 go_enter Tryz.func219,Tryz.ntmps219
 go_wp2_with fail
 go_loopg [8] s.size (fun g s8 wr => ∃ (k:Nat),k≤s.size∧g=s.size-k∧s8=.int .i64 k∧findFrom (badByte s) (s.size-k) k=findFrom (badByte s) s.size 0∧Below w.heap.size w wr)
 case atStart=>exact ⟨0,Nat.zero_le _,rfl,rfl,rfl,Below.refl _ _⟩
 case round =>
  obtain ⟨k,hk,rfl,rfl,hf,hBw⟩:=hrel
  by_cases hlt:k<s.size
  ·have hc:wr.cell? ⟨b,k,none⟩=some (.int .u8 (byteN s k)):=(HB.out.later hBw).2 k hlt
   have hki:(k:Int)<(s.size:Int):=by omega
   have HF:Hid (findFrom (badByte s) (s.size-k) k=findFrom (badByte s) s.size 0):=hf
   have HW:Hid (Below w.heap.size w wr):=hBw
   have hsk:s.size-k=(s.size-(k+1))+1:=by omega
   have hbd:=bad_any (byteN s k)
   have hs8:(s.size:Int)≤8:=by omega
   clear hf hBw
   cases hb:badB (byteN s k)
   ·rw [hb] at hbd
    have HK:Hid (badByte s k=false):=hb
    clear hb
    go_wp2_with fail
    refine (hbd _).mono ?_
    rintro e w1 ⟨rfl,hb1⟩
    go_wp2_with fail
    go_roundg (s.size-(k+1))
    case measure=>omega
    case rel=>exact ⟨k+1,by omega,rfl,by go_num,by rw [←HF.out,hsk,findFrom_miss _ HK.out],onB HW.out hb1⟩
   ·rw [hb] at hbd
    have HK:Hid (badByte s k=true):=hb
    clear hb
    go_wp2_with fail
    refine (hbd _).mono ?_
    rintro e w1 ⟨rfl,hb1⟩
    go_wp2_with fail
    go_ret
    exact ⟨by rw [←HF.out,hsk,findFrom_hit _ HK.out];rfl,onB HW.out hb1⟩
  ·have hke:k=s.size:=by omega
   subst hke
   go_wp2_with fail
   go_ret
   exact ⟨by rw [←hf,Nat.sub_self];rfl,hBw⟩
theorem contains_bytes (s:ByteArray) (b cap:Nat) (w:World) (hs:s.size≤8) (hB:BytesAt w b s):Calls Tryz.prog 197 #[.slice (some ⟨b,0,none⟩) s.size cap,.func (.func 198) #[] #[]] w fun e w'=>e=.returned (.bool (decide (0≤findFrom (badByte s) s.size 0)))∧Below w.heap.size w w':=by
 have h:=index_bytes s b cap w hs hB
 clear hB
 go_enter Tryz.func197,Tryz.ntmps197
 go_wp2_with fail
 refine h.mono ?_
 rintro e w1 ⟨rfl,hb1⟩
 go_wp2_with fail
 go_ret
 exact ⟨rfl,hb1⟩
theorem conv_bytes (s:ByteArray) (w:World):∃ cap w1,(convert 9 172 (.string s)).run Tryz.prog w=.ok (.slice (some ⟨w.heap.size,0,none⟩) s.size cap) w1∧Below w.heap.size w w1∧BytesAt w1 w.heap.size s:=by
 refine ⟨_,_,run_bytes_of_string w 9 172 5 s Tryz.underlying9 Tryz.underlying172 Tryz.underlying5,by go_grown,by simp [go_sem],fun i hi=>?_⟩
 have h:=World.cell?_alloc_mark w.drew (bytesRow s (grownCap w s.size 0 5)) 5 ((bytesRow s (grownCap w s.size 0 5)).size,(bytesRow s (grownCap w s.size 0 5)).size+1) i
 rw [bytesRow_at s _ i hi] at h
 rw [show w.drew.heap.size=w.heap.size from rfl] at h
 rw [h]
 unfold byteN
 rw [List.getD,List.getElem?_eq_getElem (by simpa using hi)]
 rfl
theorem nameErr_short {s:ByteArray} (h:s.size<1∨8<s.size):nameErr s=2:=by unfold nameErr;rw [if_pos h]
theorem nameErr_bytes {s:ByteArray} (h:1≤s.size) (h':s.size≤8):nameErr s=if 0≤findFrom (badByte s) s.size 0 then 2 else 0:=by
 unfold nameErr;rw [if_neg (by omega)]
theorem name_any (s:ByteArray) (w:World):Calls Tryz.prog 163 #[.string s] w fun e w'=>e=.returned (errV (nameErr s))∧Below w.heap.size w w':=by
 by_cases h1:s.size<1
 ·rw [nameErr_short (Or.inl h1),errV_some (by decide)]
  have h1':(s.size:Int)<1:=by omega
  go_enter Tryz.func163,Tryz.ntmps163
  go_wp2
  go_ret
  exact ⟨rfl,by go_grown⟩
 ·by_cases h2:8<s.size
  ·rw [nameErr_short (Or.inr h2),errV_some (by decide)]
   have h1':1≤(s.size:Int):=by omega
   have h2':8<(s.size:Int):=by omega
   go_enter Tryz.func163,Tryz.ntmps163
   go_wp2
   go_ret
   exact ⟨rfl,by go_grown⟩
  ·rw [nameErr_bytes (by omega) (by omega)]
   have h1':1≤(s.size:Int):=by omega
   have h2':(s.size:Int)≤8:=by omega
   obtain ⟨cap,w1,hconv,hb0,hB⟩:=conv_bytes s w
   have hc:=contains_bytes s w.heap.size cap w1 (by omega) hB
   clear hB
   by_cases hf:0≤findFrom (badByte s) s.size 0
   ·rw [decide_eq_true hf] at hc
    rw [if_pos hf,errV_some (by decide)]
    clear hf
    go_enter Tryz.func163,Tryz.ntmps163
    go_wp2_with fail
    refine hc.mono ?_
    rintro e w2 ⟨rfl,hb2⟩
    go_wp2_with fail
    go_ret
    exact ⟨rfl,onB hb0 hb2⟩
   ·rw [decide_eq_false hf] at hc
    rw [if_neg hf,errV_zero]
    clear hf
    go_enter Tryz.func163,Tryz.ntmps163
    go_wp2_with fail
    refine hc.mono ?_
    rintro e w2 ⟨rfl,hb2⟩
    go_wp2_with fail
    go_ret
    exact ⟨rfl,onB hb0 hb2⟩
def memV (m:Mem):Value:=.agg #[.string m.name,.int .i64 m.parent,.int .i64 m.sign,.string m.formula]
def MemAt (w:World) (b o:Nat) (m:Mem):Prop:=w.cell? ⟨b,o,none⟩=some (.string m.name)∧w.cell? ⟨b,o+1,none⟩=some (.int .i64 m.parent)∧w.cell? ⟨b,o+2,none⟩=some (.int .i64 m.sign)∧w.cell? ⟨b,o+3,none⟩=some (.string m.formula)
def MemsAt (w:World) (b o n:Nat) (M:Nat→Mem):Prop:=b<w.heap.size∧∀ i,i<n→MemAt w b (o+i*4) (M i)
theorem MemAt.later {w w':World} {b o:Nat} {m:Mem} (h:MemAt w b o m) (hb:b<w.heap.size) (hB:Below w.heap.size w w'):MemAt w' b o m :=
 ⟨(hB.cell (p:=⟨b,o,none⟩) hb).trans h.1,(hB.cell (p:=⟨b,o+1,none⟩) hb).trans h.2.1,(hB.cell (p:=⟨b,o+2,none⟩) hb).trans h.2.2.1,(hB.cell (p:=⟨b,o+3,none⟩) hb).trans h.2.2.2⟩
theorem MemsAt.later {w w':World} {b o n:Nat} {M:Nat→Mem} (h:MemsAt w b o n M) (hB:Below w.heap.size w w'):MemsAt w' b o n M :=
 ⟨Nat.lt_of_lt_of_le h.1 hB.size,fun i hi=>(h.2 i hi).later h.1 hB⟩
theorem MemsAt.less {w:World} {b o n m:Nat} {M:Nat→Mem} (h:MemsAt w b o n M) (hm:m≤n):MemsAt w b o m M:=⟨h.1,fun i hi=>h.2 i (by omega)⟩
def EntersO (fn:Nat):Prop := ∀ (args:Array Value) (w:World),(callFunc fn args).run Tryz.prog w=.ok (.enter fn args) w
theorem member1_in:EntersO 164:=fun args w=>by simp [callFunc,Tryz.func164];rfl
def AskM (fn q:Nat) (w:World) (n:Nat) (M:Nat→Mem) (p:Nat→Bool):Prop := ∀ (i:Nat) (w':World),i<n→Below w.heap.size w w'→Calls Tryz.prog fn #[memV (M i),.pointer (some ⟨q,0,none⟩)] w' fun e w''=>e=.returned (.bool (p i))∧Below w'.heap.size w' w''
set_option maxHeartbeats 1000000 in
theorem index_mems (fn q:Nat) (he:EntersO fn) (b o n cap:Nat) (M:Nat→Mem) (p:Nat→Bool) (w:World) (hn:n≤12) (hM:MemsAt w b o n M) (hp:AskM fn q w n M p) :
  Calls Tryz.prog 148 #[.slice (some ⟨b,o,none⟩) n cap,.func (.func fn) #[] #[.pointer (some ⟨q,0,none⟩)]] w fun e w'=>e=.returned (.int .i64 (findFrom p n 0))∧Below w.heap.size w w':=by
 have HB:Hid (MemsAt w b o n M):=hM
 have HP:Hid (AskM fn q w n M p):=hp
 clear hM hp
 unfold EntersO at he
 go_enter Tryz.func148,Tryz.ntmps148
 go_wp2_with fail
 go_loopg [8] n (fun g s8 wr => ∃ (k:Nat),k≤n∧g=n-k∧s8=.int .i64 k∧findFrom p (n-k) k=findFrom p n 0∧Below w.heap.size w wr)
 case atStart=>exact ⟨0,Nat.zero_le _,rfl,rfl,rfl,Below.refl _ _⟩
 case round =>
  obtain ⟨k,hk,rfl,rfl,hf,hBw⟩:=hrel
  by_cases hlt:k<n
  ·obtain ⟨h0,h1,h2,h3⟩:=(HB.out.later hBw).2 k hlt
   have hki:(k:Int)<(n:Int):=by omega
   have HF:Hid (findFrom p (n-k) k=findFrom p n 0):=hf
   have HW:Hid (Below w.heap.size w wr):=hBw
   have hsk:n-k=(n-(k+1))+1:=by omega
   have hbd:=HP.out k wr hlt hBw
   unfold memV at hbd
   have hs8:(n:Int)≤12:=by omega
   clear hf hBw
   cases hb:p k
   ·rw [hb] at hbd
    have HK:Hid (p k=false):=hb
    clear hb
    go_wp2_with fail
    refine hbd.mono ?_
    rintro e w1 ⟨rfl,hb1⟩
    go_wp2_with fail
    go_roundg (n-(k+1))
    case measure=>omega
    case rel=>exact ⟨k+1,by omega,rfl,by go_num,by rw [←HF.out,hsk,findFrom_miss _ HK.out],onB HW.out hb1⟩
   ·rw [hb] at hbd
    have HK:Hid (p k=true):=hb
    clear hb
    go_wp2_with fail
    refine hbd.mono ?_
    rintro e w1 ⟨rfl,hb1⟩
    go_wp2_with fail
    go_ret
    exact ⟨by rw [←HF.out,hsk,findFrom_hit _ HK.out];rfl,onB HW.out hb1⟩
  ·have hke:k=n:=by omega
   subst hke
   go_wp2_with fail
   go_ret
   exact ⟨by rw [←hf,Nat.sub_self];rfl,hBw⟩
theorem contains_mems (fn q:Nat) (he:EntersO fn) (b o n cap:Nat) (M:Nat→Mem) (p:Nat→Bool) (w:World) (hn:n≤12) (hM:MemsAt w b o n M) (hp:AskM fn q w n M p) :
  Calls Tryz.prog 136 #[.slice (some ⟨b,o,none⟩) n cap,.func (.func fn) #[] #[.pointer (some ⟨q,0,none⟩)]] w fun e w'=>e=.returned (.bool (decide (0≤findFrom p n 0)))∧Below w.heap.size w w':=by
 have h:=index_mems fn q he b o n cap M p w hn hM hp
 clear hM hp he
 go_enter Tryz.func136,Tryz.ntmps136
 go_wp2_with fail
 refine h.mono ?_
 rintro e w1 ⟨rfl,hb1⟩
 go_wp2_with fail
 go_ret
 exact ⟨rfl,hb1⟩
theorem member1_any (m x:Mem) (q:Nat) (w:World) (hq:q<w.heap.size) (h:w.cell? ⟨q,0,none⟩=some (.string x.name)):Calls Tryz.prog 164 #[memV m,.pointer (some ⟨q,0,none⟩)] w fun e w'=>e=.returned (.bool (same m.name x.name))∧Below w.heap.size w w':=by
 unfold memV
 go_enter Tryz.func164,Tryz.ntmps164
 go_wp2_with fail
 go_ret
 exact ⟨by simp [same],by go_grown⟩
def dimV (d:Dm) (A:Option Addr) (cap:Nat):Value:=.agg #[.string d.name,.int .i64 d.solve,.slice A d.n cap]
def frameErr (d:Dm):Int:=if nameErr d.name≠0 then 2 else if d.solve<0∨9<d.solve then 1 else if 12<d.n then 4 else if d.n=0 then 5 else 0
theorem nameErr_two {s:ByteArray} (h:nameErr s≠0):nameErr s=2:=by
 unfold nameErr at h ⊢
 split
 ·rfl
 ·split
  ·rfl
  ·rename_i h1 h2;rw [if_neg h1,if_neg h2] at h;exact absurd rfl h
theorem fr0 {d:Dm} (h:nameErr d.name≠0):frameErr d=2:=by unfold frameErr;rw [if_pos h]
theorem fr1 {d:Dm} (h:nameErr d.name=0) (h1:d.solve<0∨9<d.solve):frameErr d=1:=by unfold frameErr;rw [if_neg (by simpa using h),if_pos h1]
theorem fr2 {d:Dm} (h:nameErr d.name=0) (h1 : ¬ (d.solve<0∨9<d.solve)) (h2:12<d.n):frameErr d=4:=by unfold frameErr;rw [if_neg (by simpa using h),if_neg h1,if_pos h2]
theorem fr3 {d:Dm} (h:nameErr d.name=0) (h1 : ¬ (d.solve<0∨9<d.solve)) (h2 : ¬ 12<d.n) (h3:d.n=0):frameErr d=5:=by unfold frameErr;rw [if_neg (by simpa using h),if_neg h1,if_neg h2,if_pos h3]
theorem fr4 {d:Dm} (h:nameErr d.name=0) (h1 : ¬ (d.solve<0∨9<d.solve)) (h2 : ¬ 12<d.n) (h3 : ¬ d.n=0):frameErr d=0:=by unfold frameErr;rw [if_neg (by simpa using h),if_neg h1,if_neg h2,if_neg h3]
set_option maxHeartbeats 1000000 in
theorem frame_any (d:Dm) (A:Option Addr) (cap:Nat) (w:World):Calls Tryz.prog 126 #[dimV d A cap] w fun e w'=>e=.returned (errV (frameErr d))∧Below w.heap.size w w':=by
 have hnm:=name_any d.name
 unfold dimV
 by_cases hn:nameErr d.name=0
 ·rw [hn,errV_zero] at hnm
  have HN:Hid (nameErr d.name=0):=hn
  clear hn
  go_enter Tryz.func126,Tryz.ntmps126
  go_wp2_with fail
  refine (hnm _).mono ?_
  rintro e w1 ⟨rfl,hb1⟩
  have hB:Below w.heap.size w w1:=onB (by go_grown) hb1
  have h1:w1.cell? ⟨w.heap.size,1,none⟩=some (.int .i64 d.solve):=by rw [hb1.cell (p:=⟨w.heap.size,1,none⟩) (by simp)];simp [go_sem]
  have h2:w1.cell? ⟨w.heap.size,2,none⟩=some (.slice A d.n cap):=by rw [hb1.cell (p:=⟨w.heap.size,2,none⟩) (by simp)];simp [go_sem]
  clear hb1 hnm
  by_cases c1:d.solve<0
  ·go_wp2_with fail
   go_ret
   exact ⟨by rw [fr1 HN.out (Or.inl c1)];rfl,hB⟩
  ·by_cases c2:9<d.solve
   ·go_wp2_with fail
    go_ret
    exact ⟨by rw [fr1 HN.out (Or.inr c2)];rfl,hB⟩
   ·by_cases c3:12<d.n
    ·have c3':12<(d.n:Int):=by omega
     go_wp2_with fail
     go_ret
     exact ⟨by rw [fr2 HN.out (by omega) c3];rfl,hB⟩
    ·have c3':(d.n:Int)≤12:=by omega
     by_cases c4:d.n=0
     ·have c4':((d.n:Int) == 0)=true:=by simp [c4]
      have C4:Hid (d.n=0):=c4
      clear c4
      go_wp2_with fail
      go_ret
      exact ⟨by rw [fr3 HN.out (by omega) (by omega) C4.out];rfl,hB⟩
     ·have c4':((d.n:Int) == 0)=false:=by simp;omega
      have C4:Hid (¬ d.n=0):=c4
      clear c4
      go_wp2_with fail
      go_ret
      exact ⟨by rw [fr4 HN.out (by omega) (by omega) C4.out];rfl,hB⟩
 ·rw [nameErr_two hn,errV_some (by decide)] at hnm
  have HN:Hid (nameErr d.name≠0):=hn
  clear hn
  go_enter Tryz.func126,Tryz.ntmps126
  go_wp2_with fail
  refine (hnm _).mono ?_
  rintro e w1 ⟨rfl,hb1⟩
  have hB:Below w.heap.size w w1:=onB (by go_grown) hb1
  clear hb1
  go_wp2_with fail
  go_ret
  exact ⟨by rw [fr0 HN.out];rfl,hB⟩
end Go.Proofs.YtfgegmpoejilnaaGreatDoor
