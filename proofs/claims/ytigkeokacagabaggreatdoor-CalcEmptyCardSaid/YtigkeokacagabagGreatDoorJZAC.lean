/-
  What package tree tells, as plain functions on plain data: the path of a member, its parts, its leafs, how a leaf counts in a member, how long paths are; and small facts on them.
-/
import Derived.OwnWalk
import Derived.Test.YtigkeokacagabagGreatDoorJZAB
namespace Go.Proofs.YtigkeokacagabagGreatDoor
def selTo (p:Nat→Bool):Nat→List Int
 | 0=>[]
 | k+1=>selTo p k ++ (if p k=true then [(k:Int)] else [])
theorem selTo_hit {p:Nat→Bool} {k:Nat} (h:p k=true):selTo p (k+1)=selTo p k ++ [(k:Int)]:=by simp [selTo,h]
theorem selTo_miss {p:Nat→Bool} {k:Nat} (h:p k=false):selTo p (k+1)=selTo p k:=by simp [selTo,h]
theorem selTo_len (p:Nat→Bool) (k:Nat):(selTo p k).length≤k:=by
 induction k with
 | zero=>exact Nat.le_refl _
 | succ k ih=>rw [selTo,List.length_append];split <;> simp <;> omega
theorem selTo_mem {p:Nat→Bool} {k:Nat}:∀ j∈selTo p k,∃ m:Nat,j=m∧m<k∧p m=true:=by
 induction k with
 | zero=>intro j hj;cases hj
 | succ k ih =>
  intro j hj
  rw [selTo,List.mem_append] at hj
  rcases hj with hj | hj
  ·obtain ⟨m,h1,h2,h3⟩:=ih j hj;exact ⟨m,h1,by omega,h3⟩
  ·split at hj
   ·rename_i hp;simp at hj;exact ⟨k,hj,by omega,hp⟩
   ·cases hj
def partB (M:Nat→Mem) (i:Int) (k:Nat):Bool:=(M k).parent == i
def leafB (M:Nat→Mem) (n k:Nat):Bool:=decide ((M k).formula.size=0) && !decide (0≤findFrom (partB M k) n 0)
def inB (L:List Int) (i:Int):Bool:=decide (i∈L)
def partsOf (M:Nat→Mem) (n:Nat) (i:Int):List Int:=selTo (partB M i) n
theorem find_in (L:List Int) (i:Int):decide (0≤findFrom (fun j=>L.getD j 0 == i) L.length 0)=inB L i:=by
 unfold inB
 rw [decide_eq_decide]
 rcases findFrom_cases (fun j=>L.getD j 0 == i) L.length 0 with ⟨h1,h2⟩ | ⟨k,h1,_,h3,h4,_⟩
 ·rw [h1]
  constructor
  ·intro h;omega
  ·intro h
   obtain ⟨j,hj,e⟩:=List.getElem_of_mem h
   have:=h2 j (Nat.zero_le _) (by omega)
   simp [List.getD,List.getElem?_eq_getElem hj,e] at this
 ·rw [h1]
  constructor
  ·intro _
   have hk:k<L.length:=by omega
   simp [List.getD,List.getElem?_eq_getElem hk] at h4
   rw [←h4];exact List.getElem_mem hk
  ·intro _;omega
def rangeErr (n:Nat) (L:List Int):Int:=if 0≤findFrom (fun j=>decide (L.getD j 0<0) || decide ((n:Int)≤L.getD j 0)) L.length 0 then 1 else 0
def treeErr (d:Dm) (L:List Int):Int:=if (dimErr d).2≠0 then (dimErr d).2 else rangeErr d.n L
theorem treeErr_dim {d:Dm} {L:List Int} (h:(dimErr d).2≠0):treeErr d L=(dimErr d).2:=by unfold treeErr;rw [if_pos h]
theorem treeErr_one {d:Dm} {i:Int} (h:(dimErr d).2=0):treeErr d [i]=if i<0∨(d.n:Int)≤i then 1 else 0:=by
 unfold treeErr rangeErr;rw [if_neg (by simpa using h)]
 by_cases h1:i<0∨(d.n:Int)≤i
 ·rw [if_pos h1];simp [findFrom,h1]
 ·rw [if_neg h1];simp [findFrom,h1]
end Go.Proofs.YtigkeokacagabagGreatDoor
namespace Go.Proofs.YtigkeokacagabagGreatDoor
open Go.ChangeShapes Go.WideShapes Go.ChangeAt Go.RowKit
set_option maxRecDepth 20000
theorem isleaf1_in:EntersO 215:=fun args w=>by simp [callFunc,Tryz.func215];rfl
theorem isleaf1_any (m:Mem) (i:Int) (q:Nat) (w:World) (hq:q<w.heap.size) (h:w.cell? ⟨q,0,none⟩=some (.int .i64 i)):Calls Tryz.prog 215 #[memV m,.pointer (some ⟨q,0,none⟩)] w fun e w'=>e=.returned (.bool (m.parent == i))∧Below w.heap.size w w':=by
 unfold memV
 go_enter Tryz.func215,Tryz.ntmps215
 go_wp2_with fail
 go_ret
 exact ⟨by simp,by go_grown⟩
def ownInt (w:World) (i:Int) (T:Nat):World:=w.alloc (.cells #[.int .i64 i] T)
theorem ownInt_at (w:World) (i:Int) (T:Nat):(ownInt w i T).cell? ⟨w.heap.size,0,none⟩=some (.int .i64 i):=by unfold ownInt;simp
theorem ownInt_size (w:World) (i:Int) (T:Nat):(ownInt w i T).heap.size=w.heap.size+1:=by unfold ownInt;simp
theorem ownInt_below (w:World) (i:Int) (T:Nat):Below w.heap.size w (ownInt w i T):=by unfold ownInt;go_grown
theorem leafB_told {M:Nat→Mem} {n k:Nat} (h:(M k).formula.size≠0):leafB M n k=false:=by simp [leafB,h]
theorem leafB_parts {M:Nat→Mem} {n k:Nat} (h:(M k).formula.size=0):leafB M n k = !decide (0≤findFrom (partB M k) n 0):=by simp [leafB,h]
set_option maxHeartbeats 2000000 in
theorem isleaf_any (b o n cap i:Nat) (M:Nat→Mem) (w:World) (hn:n≤12) (hi:i<n) (hM:MemsAt w b o n M):Calls Tryz.prog 186 #[.slice (some ⟨b,o,none⟩) n cap,.int .i64 i] w fun e w'=>e=.returned (.bool (leafB M n i))∧Below w.heap.size w w':=by
 have hS:=ownInt_size w i 3
 have hB0:=ownInt_below w i 3
 have hA:=ownInt_at w i 3
 have hM0:=hM.later hB0
 have hcl:=contains_mems 215 w.heap.size isleaf1_in b o n cap M (partB M i) (ownInt w i 3) hn hM0 (fun j w' _ hw'=>isleaf1_any (M j) i w.heap.size w' (by have:=hw'.size;omega) ((hw'.cell (p:=⟨w.heap.size,0,none⟩) (by show w.heap.size<_;omega)).trans hA))
 have HB0:Hid (Below w.heap.size w (ownInt w i 3)):=hB0
 obtain ⟨-,-,-,h3⟩:=hM.2 i hi
 have hbw:=hM.1
 have hii:(i:Int)<(n:Int):=by omega
 have hn':(n:Int)≤12:=by omega
 clear hM hS hB0 hA hM0
 by_cases hf:(M i).formula.size=0
 ·have hf':(M i).formula.toList.isEmpty=true:=by rw [empty_same];simpa using hf
  have HR:Hid (leafB M n i = !decide (0≤findFrom (partB M i) n 0)):=leafB_parts hf
  clear hf
  generalize decide (0≤findFrom (partB M i) n 0)=f at hcl HR
  go_enter Tryz.func186,Tryz.ntmps186
  go_wp2_with fail
  refine hcl.mono ?_
  rintro e w1 ⟨rfl,hb1⟩
  go_wp2_with fail
  go_ret
  exact ⟨by rw [HR.out];rfl,onB HB0.out hb1⟩
 ·have hf':(M i).formula.toList.isEmpty=false:=by rw [empty_same];simpa using hf
  have HR:Hid (leafB M n i=false):=leafB_told hf
  clear hf hcl
  go_enter Tryz.func186,Tryz.ntmps186
  go_wp2_with fail
  go_ret
  exact ⟨by rw [HR.out];rfl,by go_grown⟩
def IntsAt (w:World) (A:Option Addr) (cap:Nat) (L:List Int):Prop:=L.length≤cap∧(L=[]∨∃ b,A=some ⟨b,0,none⟩∧b<w.heap.size∧∀ j,j<L.length→w.cell? ⟨b,j,none⟩=some (.int .i64 (L.getD j 0)))
theorem IntsAt.later {w w':World} {A:Option Addr} {cap:Nat} {L:List Int} (h:IntsAt w A cap L) (hB:Below w.heap.size w w'):IntsAt w' A cap L:=by
 obtain ⟨h1,h2 | ⟨b,h2,h3,h4⟩⟩:=h
 ·exact ⟨h1,Or.inl h2⟩
 ·exact ⟨h1,Or.inr ⟨b,h2,Nat.lt_of_lt_of_le h3 hB.size,fun j hj=>(hB.cell (p:=⟨b,j,none⟩) h3).trans (h4 j hj)⟩⟩
def mapI (L:List Int):List Value:=L.map (Value.int .i64)
theorem mapI_snoc (L:List Int) (x:Int):mapI (L ++ [x])=mapI L ++ [Value.int .i64 x]:=by simp [mapI]
theorem ints_of {w:World} {base e:Nat} {v:Value} {L:List Int} (h:w.ownsRow base e 1 v L.length (mapI L)):∃ A cap,v=.slice A L.length cap∧IntsAt w A cap L:=by
 rcases h.2 with ⟨rfl,h0⟩ | ⟨g,cap,cur,rfl,hb,hg,hc,_,_,_⟩
 ·exact ⟨none,0,by rw [h0],by omega,Or.inl (List.eq_nil_of_length_eq_zero h0)⟩
 ·refine ⟨_,cap,rfl,hc,Or.inr ⟨g,rfl,(Array.getElem?_eq_some_iff.1 hg).1,fun j hj=>?_⟩⟩
  have hx:=h.cells (g:=g) rfl j (.int .i64 (L.getD j 0)) (by simp [mapI,List.getD,List.getElem?_eq_getElem hj])
  have hadd:(⟨g,0,none⟩:Addr).add j=⟨g,j,none⟩:=by unfold Addr.add;split <;> simp_all
  rw [hadd] at hx
  exact hx
theorem own_later {w w':World} {base e size:Nat} {v:Value} {n:Nat} {xs:List Value} (h:w.ownsRow base e size v n xs) (hB:Below w.heap.size w w'):w'.ownsRow base e size v n xs:=by
 refine ⟨h.1,?_⟩
 rcases h.2 with h0 | ⟨g,cap,cur,rfl,hb,hg,h1⟩
 ·exact Or.inl h0
 ·exact Or.inr ⟨g,cap,cur,rfl,hb,(hB.block g (Array.getElem?_eq_some_iff.1 hg).1).trans hg,h1⟩
theorem grown_own {w wr w1:World} {e size n:Nat} {v:Value} {xs:List Value} {o:Obj} (hB:Below w.heap.size w wr) (hown:wr.ownsRow w.heap.size e size v n xs) (hgrow:(wr.alloc o).grownBy w1 v.ownBlock):Below w.heap.size w w1 :=
 (hB.alloc hB.size o).grown hgrow (by have:=hB.size;simp;omega) (fun j hj=>(hown.lt j hj).1)
theorem one_cell {wr:World} {x:Value} {T:Nat}:∀ j u,[x][j]?=some u→(wr.alloc (.cells #[x] T)).cell? ((⟨wr.heap.size,0,none⟩:Addr).add j)=some u:=by
 intro j u hj
 match j,hj with
 | 0,hj=>simp at hj;subst hj;simp [Addr.add]
theorem one_one {x:Int}:∀ u∈[Value.int .i64 x],u.oneCell'=true:=by intro u hu;simp at hu;subst hu;rfl
theorem Tryz.infoInt:(Tryz.prog.info? 3).map (fun i=>(i.zero,i.size,i.bytes))=some (some (.int .i64 0),1,8):=by kernel_rfl
end Go.Proofs.YtigkeokacagabagGreatDoor
namespace Go.Proofs.YtigkeokacagabagGreatDoor
open Go.ChangeShapes Go.WideShapes Go.ChangeAt Go.RowKit
def good (k n:Int):Bool:=decide ((k=1∧-1000000000000≤n∧n≤1000000000000)∨((k=0∨k=2)∧n=0))
end Go.Proofs.YtigkeokacagabagGreatDoor
namespace Go.Proofs.YtigkeokacagabagGreatDoor
open Go.ChangeShapes Go.WideShapes Go.ChangeAt Go.RowKit
set_option maxRecDepth 20000
def AskP (fn q r:Nat) (w:World) (n:Nat) (p:Nat→Bool):Prop := ∀ (i:Nat) (w':World),i<n→Below w.heap.size w w'→Calls Tryz.prog fn #[.int .i64 i,.pointer (some ⟨q,0,none⟩),.pointer (some ⟨r,0,none⟩)] w' fun e w''=>e=.returned (.bool (p i))∧Below w'.heap.size w' w''
set_option maxHeartbeats 1000000 in
theorem index_ints (A:Option Addr) (cap:Nat) (L:List Int) (i:Int) (w:World) (hn:L.length≤12) (hL:IntsAt w A cap L):Calls Tryz.prog 193 #[.slice A L.length cap,.int .i64 i] w fun e w'=>e=.returned (.int .i64 (findFrom (fun j=>L.getD j 0 == i) L.length 0))∧Below w.heap.size w w':=by
 obtain ⟨hc,h0 | ⟨b,rfl,hbw,hcell⟩⟩:=hL
 ·subst h0
  simp only [List.length_nil]
  go_enter Tryz.func193,Tryz.ntmps193
  go_wp2_with fail
  refine wp_loop_rounds 1 ?_
  rw [rounds_succ]
  go_wp2_with fail
  go_ret
  exact ⟨rfl,Below.refl _ _⟩
 ·have HC:Hid (∀ j,j<L.length→w.cell? ⟨b,j,none⟩=some (.int .i64 (L.getD j 0))):=hcell
  obtain ⟨p,hp⟩:∃ p:Nat→Bool,p=fun j=>L.getD j 0 == i:=⟨_,rfl⟩
  have HP:Hid (∀ j,p j=(L.getD j 0 == i)):=fun j=>by rw [hp]
  rw [←hp]
  generalize hnn:L.length=n at hn hc HC
  clear hcell hp hnn
  go_enter Tryz.func193,Tryz.ntmps193
  go_wp2_with fail
  go_loopg [8] n (fun g s8 wr => ∃ (k:Nat),k≤n∧g=n-k∧s8=.int .i64 k∧findFrom p (n-k) k=findFrom p n 0∧wr=w)
  case atStart=>exact ⟨0,Nat.zero_le _,rfl,rfl,rfl,rfl⟩
  case round =>
   obtain ⟨k,hk,rfl,rfl,hf,rfl⟩:=hrel
   have HF:Hid (findFrom p (n-k) k=findFrom p n 0):=hf
   clear hf
   by_cases hlt:k<n
   ·have hki:(k:Int)<(n:Int):=by omega
    have hcx:=HC.out k hlt
    have hsk:n-k=(n-(k+1))+1:=by omega
    have hn':(n:Int)≤12:=by omega
    have hpk:=HP.out k
    have HSK:Hid (n-k=(n-(k+1))+1):=hsk
    generalize L.getD k 0=x at hcx hpk
    clear hsk
    cases hb:p k
    ·have HK:Hid (p k=false):=hb
     rw [hb] at hpk
     have hx:(i == x)=false:=by
      have h1:x≠i:=by simpa using hpk.symm
      simpa using fun h:i=x=>h1 h.symm
     clear hb hpk
     go_wp2_with fail
     go_roundg (n-(k+1))
     case measure=>omega
     case rel=>exact ⟨k+1,by omega,rfl,by go_num,by rw [←HF.out,HSK.out,findFrom_miss _ HK.out],rfl⟩
    ·have HK:Hid (p k=true):=hb
     rw [hb] at hpk
     have hx:(i == x)=true:=by
      have h1:x=i:=by simpa using hpk.symm
      simpa using h1.symm
     clear hb hpk
     go_wp2_with fail
     go_ret
     exact ⟨by rw [←HF.out,HSK.out,findFrom_hit _ HK.out];rfl,Below.refl _ _⟩
   ·have hke:k=n:=by omega
    subst hke
    go_wp2_with fail
    go_ret
    exact ⟨by rw [←HF.out,Nat.sub_self];rfl,Below.refl _ _⟩
theorem contains_ints (A:Option Addr) (cap:Nat) (L:List Int) (i:Int) (w:World) (hn:L.length≤12) (hL:IntsAt w A cap L):Calls Tryz.prog 155 #[.slice A L.length cap,.int .i64 i] w fun e w'=>e=.returned (.bool (inB L i))∧Below w.heap.size w w':=by
 have h:=index_ints A cap L i w hn hL
 have HI:Hid (decide (0≤findFrom (fun j=>L.getD j 0 == i) L.length 0)=inB L i):=find_in L i
 generalize findFrom (fun j=>L.getD j 0 == i) L.length 0=f at h HI
 generalize L.length=n at h
 clear hL hn
 go_enter Tryz.func155,Tryz.ntmps155
 go_wp2_with fail
 refine h.mono ?_
 rintro e w1 ⟨rfl,hb1⟩
 go_wp2_with fail
 go_ret
 exact ⟨by rw [←HI.out];rfl,hb1⟩
def outB (n:Nat) (i:Int):Bool:=decide (i<0) || decide ((n:Int)≤i)
theorem check1_any (i:Int) (A:Option Addr) (n cap q:Nat) (w:World) (h:w.cell? ⟨q,2,none⟩=some (.slice A n cap)):Calls Tryz.prog 214 #[.int .i64 i,.pointer (some ⟨q,0,none⟩)] w fun e w'=>e=.returned (.bool (outB n i))∧Below w.heap.size w w':=by
 unfold outB
 by_cases h1:i<0
 ·go_enter Tryz.func214,Tryz.ntmps214
  go_wp2
  go_ret
  exact ⟨by simp <;> omega,by go_grown⟩
 ·go_enter Tryz.func214,Tryz.ntmps214
  go_wp2
  go_ret
  exact ⟨by simp <;> omega,by go_grown⟩
set_option maxHeartbeats 1000000 in
theorem indexf_ints (A:Option Addr) (cap:Nat) (L:List Int) (Am:Option Addr) (nm cm q:Nat) (w:World) (hn:L.length≤2) (hL:IntsAt w A cap L) (hq:q<w.heap.size) (hqc:w.cell? ⟨q,2,none⟩=some (.slice Am nm cm)) :
  Calls Tryz.prog 86 #[.slice A L.length cap,.func (.func 214) #[] #[.pointer (some ⟨q,0,none⟩)]] w fun e w'=>e=.returned (.int .i64 (findFrom (fun j=>outB nm (L.getD j 0)) L.length 0))∧Below w.heap.size w w':=by
 obtain ⟨hc,h0 | ⟨b,rfl,hbw,hcell⟩⟩:=hL
 ·subst h0
  simp only [List.length_nil]
  go_enter Tryz.func86,Tryz.ntmps86
  go_wp2_with fail
  refine wp_loop_rounds 1 ?_
  rw [rounds_succ]
  go_wp2_with fail
  go_ret
  exact ⟨rfl,Below.refl _ _⟩
 ·have HC:Hid (∀ j,j<L.length→w.cell? ⟨b,j,none⟩=some (.int .i64 (L.getD j 0))):=hcell
  have HQ:Hid (w.cell? ⟨q,2,none⟩=some (.slice Am nm cm)):=hqc
  obtain ⟨p,hp⟩:∃ p:Nat→Bool,p=fun j=>outB nm (L.getD j 0):=⟨_,rfl⟩
  have HP:Hid (∀ j,p j=outB nm (L.getD j 0)):=fun j=>by rw [hp]
  rw [←hp]
  generalize hnn:L.length=n at hn hc HC
  clear hcell hp hnn hqc
  go_enter Tryz.func86,Tryz.ntmps86
  go_wp2_with fail
  go_loopg [8] n (fun g s8 wr => ∃ (k:Nat),k≤n∧g=n-k∧s8=.int .i64 k∧findFrom p (n-k) k=findFrom p n 0∧Below w.heap.size w wr)
  case atStart=>exact ⟨0,Nat.zero_le _,rfl,rfl,rfl,Below.refl _ _⟩
  case round =>
   obtain ⟨k,hk,rfl,rfl,hf,hBw⟩:=hrel
   have HF:Hid (findFrom p (n-k) k=findFrom p n 0):=hf
   have HW:Hid (Below w.heap.size w wr):=hBw
   clear hf
   by_cases hlt:k<n
   ·have hki:(k:Int)<(n:Int):=by omega
    have hcx:=(hBw.cell (p:=⟨b,k,none⟩) hbw).trans (HC.out k hlt)
    have hn':(n:Int)≤2:=by omega
    have hpk:=HP.out k
    have HSK:Hid (n-k=(n-(k+1))+1):=by show _=_;omega
    have hbd:=check1_any (L.getD k 0) Am nm cm q wr ((hBw.cell (p:=⟨q,2,none⟩) hq).trans HQ.out)
    rw [←hpk] at hbd
    generalize L.getD k 0=x at hcx hpk hbd
    clear hBw hpk
    cases hb:p k
    ·have HK:Hid (p k=false):=hb
     rw [hb] at hbd
     clear hb
     go_wp2_with fail
     refine hbd.mono ?_
     rintro e w1 ⟨rfl,hb1⟩
     go_wp2_with fail
     go_roundg (n-(k+1))
     case measure=>omega
     case rel=>exact ⟨k+1,by omega,rfl,by go_num,by rw [←HF.out,HSK.out,findFrom_miss _ HK.out],onB HW.out hb1⟩
    ·have HK:Hid (p k=true):=hb
     rw [hb] at hbd
     clear hb
     go_wp2_with fail
     refine hbd.mono ?_
     rintro e w1 ⟨rfl,hb1⟩
     go_wp2_with fail
     go_ret
     exact ⟨by rw [←HF.out,HSK.out,findFrom_hit _ HK.out];rfl,onB HW.out hb1⟩
   ·have hke:k=n:=by omega
    subst hke
    clear hBw
    go_wp2_with fail
    go_ret
    exact ⟨by rw [←HF.out,Nat.sub_self];rfl,HW.out⟩
theorem containsf_ints (A:Option Addr) (cap:Nat) (L:List Int) (Am:Option Addr) (nm cm q:Nat) (w:World) (hn:L.length≤2) (hL:IntsAt w A cap L) (hq:q<w.heap.size) (hqc:w.cell? ⟨q,2,none⟩=some (.slice Am nm cm)) :
  Calls Tryz.prog 56 #[.slice A L.length cap,.func (.func 214) #[] #[.pointer (some ⟨q,0,none⟩)]] w fun e w'=>e=.returned (.bool (decide (0≤findFrom (fun j=>outB nm (L.getD j 0)) L.length 0)))∧Below w.heap.size w w':=by
 have h:=indexf_ints A cap L Am nm cm q w hn hL hq hqc
 generalize findFrom (fun j=>outB nm (L.getD j 0)) L.length 0=f at h
 generalize L.length=n at h
 clear hL hn hq hqc
 go_enter Tryz.func56,Tryz.ntmps56
 go_wp2_with fail
 refine h.mono ?_
 rintro e w1 ⟨rfl,hb1⟩
 go_wp2_with fail
 go_ret
 exact ⟨rfl,hb1⟩
theorem treeErr_range {d:Dm} {L:List Int} (h:(dimErr d).2=0):treeErr d L=if 0≤findFrom (fun j=>outB d.n (L.getD j 0)) L.length 0 then 1 else 0:=by
 unfold treeErr rangeErr;rw [if_neg (by simpa using h)];rfl
set_option maxHeartbeats 2000000 in
theorem tcheck_any (d:Dm) (A:Option Addr) (cap:Nat) (Ai:Option Addr) (ci:Nat) (L:List Int) (w:World) (hM:MemsV w A cap d.n d.mem) (hn:L.length≤2) (hL:IntsAt w Ai ci L):Calls Tryz.prog 185 #[dimV d A cap,.slice Ai L.length ci] w fun e w'=>e=.returned (errV (treeErr d L))∧Below w.heap.size w w':=by
 have hS:=ownDim_size w d A cap 43
 have hB0:=ownDim_below w d A cap 43
 have hA:=(ownDim_at w d A cap 43).2.2
 have hck:=dcheck_any d A cap (ownDim w d A cap 43) (hM.later hB0)
 unfold dimV at hck ⊢
 have HB0:Hid (Below w.heap.size w (ownDim w d A cap 43)):=hB0
 have HS:Hid ((ownDim w d A cap 43).heap.size=w.heap.size+1):=hS
 have HA:Hid ((ownDim w d A cap 43).cell? ⟨w.heap.size,2,none⟩=some (.slice A d.n cap)):=hA
 have HL:Hid (IntsAt w Ai ci L):=hL
 clear hM hS hB0 hA hL
 by_cases he:(dimErr d).2=0
 ·obtain ⟨e1,hd1,hd2,-⟩:=dimErr_right he
  rw [he,e1,errV_zero] at hck
  have HE:Hid ((dimErr d).2=0):=he
  clear he e1
  go_enter Tryz.func185,Tryz.ntmps185
  go_wp2_with fail
  refine hck.mono ?_
  rintro e w1 ⟨rfl,hb1⟩
  have hB:Below w.heap.size w w1:=onB HB0.out hb1
  have hz:w.heap.size<w1.heap.size:=by
   have:=hb1.size
   rw [HS.out] at this
   omega
  have h2:w1.cell? ⟨w.heap.size,2,none⟩=some (.slice A d.n cap):=(hb1.cell (p:=⟨w.heap.size,2,none⟩) (by show w.heap.size<_;rw [HS.out];omega)).trans HA.out
  have hcf:=containsf_ints Ai ci L A d.n cap w.heap.size w1 hn (HL.out.later hB) hz h2
  have HR:Hid (treeErr d L=if 0≤findFrom (fun j=>outB d.n (L.getD j 0)) L.length 0 then 1 else 0):=treeErr_range HE.out
  have HB:Hid (Below w.heap.size w w1):=hB
  generalize findFrom (fun j=>outB d.n (L.getD j 0)) L.length 0=f at hcf HR
  generalize L.length=n at hcf
  clear hb1 hck h2 hB
  by_cases hf:0≤f
  ·rw [decide_eq_true hf] at hcf
   have HR1:Hid (treeErr d L=1):=by show _=_;rw [HR.out,if_pos hf]
   clear hf HR
   go_wp2_with fail
   refine hcf.mono ?_
   rintro e w2 ⟨rfl,hb2⟩
   go_wp2_with fail
   go_ret
   exact ⟨by rw [HR1.out];rfl,onB HB.out hb2⟩
  ·rw [decide_eq_false hf] at hcf
   have HR1:Hid (treeErr d L=0):=by show _=_;rw [HR.out,if_neg hf]
   clear hf HR
   go_wp2_with fail
   refine hcf.mono ?_
   rintro e w2 ⟨rfl,hb2⟩
   go_wp2_with fail
   go_ret
   exact ⟨by rw [HR1.out];rfl,onB HB.out hb2⟩
 ·have HK:Hid (errV (treeErr d L)=.iface 83 (.int .i64 (dimErr d).2)):=by show _=_;rw [treeErr_dim he,errV_some he]
  rw [errV_some he] at hck
  clear he
  generalize (dimErr d).2=c at hck HK
  go_enter Tryz.func185,Tryz.ntmps185
  go_wp2_with fail
  refine hck.mono ?_
  rintro e w1 ⟨rfl,hb1⟩
  go_wp2_with fail
  go_ret
  exact ⟨by rw [HK.out];rfl,onB HB0.out hb1⟩
end Go.Proofs.YtigkeokacagabagGreatDoor
namespace Go.Proofs.YtigkeokacagabagGreatDoor
open Go Go.ChangeShapes Go.WideShapes Go.ChangeAt Go.RowKit
theorem post_below {H:Type} {enc:TypeId×Value→H} {P:Program} {f:Func} {s:ChangeSpec} {apart fresh handsOn:Bool} {W W':World} {args:Array Value} {v:Value} {ds gs:List (DataW H)} {before pa pv:List MemPlace}
  (hW:DataW.Whole enc P f.params.toList s.vars apart W args.toList ds gs before)
  (hres:∀ (b:Nat) (sp:Nat→Bool) (hd:Bool),DataW.TrodAll enc P W' b sp hd f.resultTypes.toList (v.resultList f.resultTypes.size) (s.fn H (ds ++ gs)).results [])
  (hargs:∀ sp:Nat→Bool,(∀ p∈before,sp p.block=true)→DataW.TrodAll enc P W' 0 sp true f.params.toList args.toList (s.fn H (ds ++ gs)).args pa)
  (hvars:∀ sp:Nat→Bool,(∀ p∈before,sp p.block=true)→DataW.TrodVars enc P W' sp s.vars (s.fn H (ds ++ gs)).vars pv)
  (hps:before=pa ++ pv) (hk:W.keptBut W' (·∈before)) :
  s.post enc P f apart fresh handsOn false W args v W':=by
 have hold:∀ p∈before,(fun b=>decide (b<W.heap.size)) p.block=true:=fun p hp=>by simpa using hW.lt p hp
 refine ⟨ds,gs,before,[],pa,pv,hW,hres _ _ _,hargs _ hold,hvars _ hold,World.keptBut_mono (fun p hp=>⟨hp,?_⟩) hk,fun h=>by cases h⟩
 rw [hps,List.mem_append] at hp
 exact Or.inr hp
end Go.Proofs.YtigkeokacagabagGreatDoor
