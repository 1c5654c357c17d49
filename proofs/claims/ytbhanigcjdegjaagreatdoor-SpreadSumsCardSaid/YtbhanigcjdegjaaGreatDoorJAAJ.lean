/-
  What checkOutline, Cells and Of of package place answer, called in whatever memory: how many places an outline has; the place of a number, in new memory.
-/
import Derived.Deep.OwnRows
import Derived.Lib.Builder
import Derived.Test.YtbhanigcjdegjaaGreatDoorJAAH
namespace Go.Proofs.YtbhanigcjdegjaaGreatDoor
open Go.ChangeShapes Go.WideShapes Go.ChangeAt Go.RowKit
set_option maxRecDepth 20000
def PlAt (w:World) (A:Option Addr) (cap:Nat) (L:List Int):Prop:=L.length≤cap∧(L=[]∨∃ b o,A=some ⟨b,o,none⟩∧b<w.heap.size∧∀ j,j<L.length→w.cell? ⟨b,o+j,none⟩=some (.int .i64 (L.getD j 0)))
theorem PlAt.later {w w':World} {A:Option Addr} {cap:Nat} {L:List Int} (h:PlAt w A cap L) (hB:Below w.heap.size w w'):PlAt w' A cap L:=by
 obtain ⟨h1,h2 | ⟨b,o,h2,h3,h4⟩⟩:=h
 ·exact ⟨h1,Or.inl h2⟩
 ·exact ⟨h1,Or.inr ⟨b,o,h2,Nat.lt_of_lt_of_le h3 hB.size,fun j hj=>(hB.cell (p:=⟨b,o+j,none⟩) h3).trans (h4 j hj)⟩⟩
theorem PlAt.nil (w:World) (A:Option Addr) (cap:Nat):PlAt w A cap []:=⟨Nat.zero_le _,Or.inl rfl⟩
def NewA (N:Nat) (A:Option Addr):Prop := ∀ b o,A=some ⟨b,o,none⟩→N≤b
theorem NewA.none (N:Nat):NewA N none:=fun _ _ h=>by cases h
theorem NewA.le {N M:Nat} {A:Option Addr} (h:NewA N A) (hm:M≤N):NewA M A:=fun b o e=>Nat.le_trans hm (h b o e)
def IntB (w:World) (g:Nat) (L:List Int):Prop:=w.heap[g]?=some (.cells (L.map (Value.int .i64)).toArray 3 (0,0))
theorem IntB.lt {w:World} {g:Nat} {L:List Int} (h:IntB w g L):g<w.heap.size:=(Array.getElem?_eq_some_iff.1 h).1
theorem IntB.cell {w:World} {g:Nat} {L:List Int} (h:IntB w g L) {j:Nat} (hj:j<L.length):w.cell? ⟨g,j,none⟩=some (.int .i64 (L.getD j 0)):=by
 rw [Lib.cell_of_heap h]
 simp [List.getD,hj]
theorem IntB.frozen {w:World} {g:Nat} {L:List Int} (h:IntB w g L) (j:Nat):w.frozen? ⟨g,j,none⟩=false:=Lib.frozen_of_heap h j
theorem IntB.later {w w':World} {g:Nat} {L:List Int} (h:IntB w g L) (hB:Below w.heap.size w w'):IntB w' g L:=(hB.block g h.lt).trans h
theorem IntB.set {w:World} {g:Nat} {L:List Int} (h:IntB w g L) (j:Nat) (x:Int):IntB (w.setCell ⟨g,j,none⟩ (.int .i64 x)) g (L.set j x):=by
 unfold IntB at *
 have e:(L.set j x).map (Value.int .i64)=(L.map (Value.int .i64)).set j (.int .i64 x):=by rw [List.map_set]
 simp [World.setCell,Array.getElem?_modify,h,e]
theorem IntB.pl {w:World} {g:Nat} {L:List Int} (h:IntB w g L):PlAt w (some ⟨g,0,none⟩) L.length L :=
 ⟨Nat.le_refl _,Or.inr ⟨g,0,rfl,h.lt,fun j hj=>by rw [Nat.zero_add];exact h.cell hj⟩⟩
theorem made_ints (n:Nat):madeCells #[.int .i64 0] n=((List.replicate n (0:Int)).map (Value.int .i64)).toArray:=by
 apply Array.ext
 ·simp [madeCells]
 ·intro i h1 h2
  simp [madeCells,Nat.mod_one]
theorem IntB.made (w:World) (n:Nat):IntB (w.alloc (.cells (madeCells #[.int .i64 0] n) 3)) w.heap.size (List.replicate n 0):=by
 unfold IntB
 rw [made_ints]
 exact heap_alloc_new w _
theorem Tryz.infoIntP:(Tryz.prog.info? 3).map (fun i=>(i.zero,i.size,i.bytes))=some (some (.int .i64 0),1,8):=by kernel_rfl
theorem checko_any (A0:Option Addr) (cap n:Nat) (D:Nat→Dm) (A:Nat→Option Addr) (C:Nat→Nat) (w:World) (hM:DimsV w A0 cap n D A C):Calls Tryz.prog 53 #[.agg #[.slice A0 n cap]] w fun e w'=>e=.returned (errV (allErr D n).2.2)∧Below w.heap.size w w':=by
 have hB0:=ownOut_below w A0 n cap 25
 have h:=all_any A0 cap n D A C (ownOut w A0 n cap 25) (hM.later hB0)
 have HB0:Hid (Below w.heap.size w (ownOut w A0 n cap 25)):=hB0
 clear hM hB0
 generalize errV (allErr D n).2.2=v at h
 generalize (allErr D n).1=x at h
 generalize (allErr D n).2.1=y at h
 go_enter Tryz.func53,Tryz.ntmps53
 go_wp2_with fail
 refine h.mono ?_
 rintro e w1 ⟨rfl,hb1⟩
 go_wp2_with fail
 go_ret
 exact ⟨rfl,onB HB0.out hb1⟩
def cellsV (D:Nat→Dm) (n:Nat):Int:=if (allErr D n).2.2=0 then (prodN D n:Int) else 0
set_option maxHeartbeats 2000000 in
theorem pcells_any (A0:Option Addr) (cap n:Nat) (D:Nat→Dm) (A:Nat→Option Addr) (C:Nat→Nat) (w:World) (hM:DimsV w A0 cap n D A C):Calls Tryz.prog 33 #[.agg #[.slice A0 n cap]] w fun e w'=>e=.returned (.tuple #[.int .i64 (cellsV D n),errV (allErr D n).2.2])∧Below w.heap.size w w':=by
 have hB0:=ownOut_below w A0 n cap 25
 have h:=checko_any A0 cap n D A C (ownOut w A0 n cap 25) (hM.later hB0)
 have HB0:Hid (Below w.heap.size w (ownOut w A0 n cap 25)):=hB0
 have HM:Hid (DimsV w A0 cap n D A C):=hM
 clear hM hB0
 by_cases he:(allErr D n).2.2=0
 ·obtain ⟨hn1,hn4,-,hd⟩:=allErr_some he
  have HV:Hid (cellsV D n=(prodN D n:Int)):=by show _=_;unfold cellsV;rw [if_pos he]
  have HE:Hid (errV (allErr D n).2.2=.nilIface):=by show _=_;rw [he];rfl
  rw [he,errV_zero] at h
  have HD:Hid (∀ i,i<n→1≤(D i).n∧(D i).n≤12):=hd
  have hn':(n:Int)≤4:=by omega
  clear he hd
  go_enter Tryz.func33,Tryz.ntmps33
  go_wp2_with fail
  refine h.mono ?_
  rintro e w1 ⟨rfl,hb1⟩
  have hB:Below w.heap.size w w1:=onB HB0.out hb1
  have h2:w1.cell? ⟨w.heap.size,0,none⟩=some (.slice A0 n cap):=(hb1.cell (p:=⟨w.heap.size,0,none⟩) (by show w.heap.size<_;rw [ownOut_size];omega)).trans (ownOut_at ..)
  obtain ⟨hcap,h0 | ⟨b,o,rfl,hMs⟩⟩:=HM.out.later hB
  ·omega
  have HMs:Hid (DimsAt w1 b o n D A C):=hMs
  have HB:Hid (Below w.heap.size w w1):=hB
  clear hb1 h hMs hB
  go_wp2_with fail
  go_loopg [5,16] n (fun g s5 s16 wr => ∃ (k:Nat),k≤n∧g=n-k∧s16=.int .i64 k∧s5=.int .i64 (prodN D k)∧Below w1.heap.size w1 wr)
  case atStart=>exact ⟨0,Nat.zero_le _,rfl,rfl,rfl,Below.refl _ _⟩
  case round =>
   obtain ⟨k,hk,rfl,rfl,rfl,hBw⟩:=hrel
   by_cases hlt:k<n
   ·obtain ⟨h0,h1,h3,-⟩:=(HMs.out.later hBw).2 k hlt
    have hki:(k:Int)<(n:Int):=by omega
    have hp1:prodN D (k+1)≤20736:=prod_small (fun j hj=>(HD.out j (by omega)).2) (by omega)
    have hp2:(prodN D (k+1):Int)=(prodN D k:Int)*((D k).n:Int):=by rw [prodN];exact Int.natCast_mul _ _
    have hp3:0≤(prodN D k:Int)*((D k).n:Int):=by omega
    have hp4:(prodN D k:Int)*((D k).n:Int)≤20736:=by omega
    have HW:Hid (Below w1.heap.size w1 wr):=hBw
    have HP:Hid ((prodN D (k+1):Int)=(prodN D k:Int)*((D k).n:Int)):=hp2
    clear hBw hp1 hp2
    go_wp2_with fail
    go_roundg (n-(k+1))
    case measure=>omega
    case rel=>exact ⟨k+1,by omega,rfl,by go_num,by rw [HP.out],onB HW.out (by go_grown)⟩
   ·have hke:k=n:=by omega
    subst hke
    go_wp2_with fail
    go_ret2
    rw [HV.out,HE.out]
    exact ⟨rfl,onB HB.out hBw⟩
 ·have HV:Hid (cellsV D n=0):=by show _=_;unfold cellsV;rw [if_neg he]
  have HE:Hid (errV (allErr D n).2.2=.iface 45 (.int .i64 (allErr D n).2.2)):=errV_some he
  rw [errV_some he] at h
  clear he
  generalize (allErr D n).2.2=c at h HE
  go_enter Tryz.func33,Tryz.ntmps33
  go_wp2_with fail
  refine h.mono ?_
  rintro e w1 ⟨rfl,hb1⟩
  go_wp2_with fail
  go_ret2
  rw [HV.out,HE.out]
  exact ⟨rfl,onB HB0.out hb1⟩
theorem pl_ints {w:World} {A:Option Addr} {cap:Nat} {L:List Int} (h:IntsAt w A cap L):PlAt w A cap L:=by
 obtain ⟨h1,h2 | ⟨b,h2,h3,h4⟩⟩:=h
 ·exact ⟨h1,Or.inl h2⟩
 ·exact ⟨h1,Or.inr ⟨b,0,h2,h3,fun j hj=>by rw [Nat.zero_add];exact h4 j hj⟩⟩
set_option maxHeartbeats 1000000 in
theorem indexm_pl (F:Nat) (cap:Array Value) (p:Int→Bool) (hent:∀ (args:Array Value) (w:World),(callFunc F args).run Tryz.prog w=.ok (.enter F args) w) (A:Option Addr) (c:Nat) (L:List Int) (w:World) (hn:L.length≤1048576) (hL:PlAt w A c L)
  (hF:∀ (x:Int) (w':World),x∈L→Below w.heap.size w w'→Calls Tryz.prog F (#[.int .i64 x] ++ cap) w' fun e w''=>e=.returned (.bool (p x))∧Below w'.heap.size w' w'') :
  Calls Tryz.prog 26 #[.slice A L.length c,.func (.func F) #[] cap] w fun e w'=>e=.returned (.int .i64 (findFrom (fun j=>p (L.getD j 0)) L.length 0))∧Below w.heap.size w w':=by
 obtain ⟨hc,h0 | ⟨b,o,rfl,hbw,hcell⟩⟩:=hL
 ·subst h0
  simp only [List.length_nil]
  go_enter Tryz.func26,Tryz.ntmps26
  go_wp2_with fail
  refine wp_loop_rounds 1 ?_
  rw [rounds_succ]
  go_wp2_with fail
  go_ret
  exact ⟨rfl,Below.refl _ _⟩
 ·have HC:Hid (∀ j,j<L.length→w.cell? ⟨b,o+j,none⟩=some (.int .i64 (L.getD j 0))):=hcell
  have HF:Hid (∀ (x:Int) (w':World),x∈L→Below w.heap.size w w'→Calls Tryz.prog F (#[.int .i64 x] ++ cap) w' fun e w''=>e=.returned (.bool (p x))∧Below w'.heap.size w' w''):=hF
  obtain ⟨pj,hpj⟩:∃ pj:Nat→Bool,pj=fun j=>p (L.getD j 0):=⟨_,rfl⟩
  have HP:Hid (∀ j,pj j=p (L.getD j 0)):=fun j=>by rw [hpj]
  rw [←hpj]
  obtain ⟨n,hnn⟩:∃ n,L.length=n:=⟨_,rfl⟩
  have HNn:Hid (L.length=n):=hnn
  rw [hnn] at hn hc HC ⊢
  clear hcell hpj hnn hF
  go_enter Tryz.func26,Tryz.ntmps26
  go_wp2_with fail
  go_loopg [8] n (fun g s8 wr => ∃ (k:Nat),k≤n∧g=n-k∧s8=.int .i64 k∧findFrom pj (n-k) k=findFrom pj n 0∧Below w.heap.size w wr)
  case atStart=>exact ⟨0,Nat.zero_le _,rfl,rfl,rfl,Below.refl _ _⟩
  case round =>
   obtain ⟨k,hk,rfl,rfl,hf,hBw⟩:=hrel
   have HQ:Hid (findFrom pj (n-k) k=findFrom pj n 0):=hf
   have HW:Hid (Below w.heap.size w wr):=hBw
   clear hf
   by_cases hlt:k<n
   ·have hki:(k:Int)<(n:Int):=by omega
    have hcx:=(hBw.cell (p:=⟨b,o+k,none⟩) hbw).trans (HC.out k hlt)
    have hn':(n:Int)≤1048576:=by omega
    have hpk:=HP.out k
    have HSK:Hid (n-k=(n-(k+1))+1):=by show _=_;omega
    have hbd:=HF.out (L.getD k 0) wr (by rw [List.getD_eq_getElem?_getD,List.getElem?_eq_getElem (by rw [HNn.out];exact hlt)];exact List.getElem_mem _) hBw
    rw [←hpk] at hbd
    generalize L.getD k 0=x at hcx hpk hbd
    clear hBw hpk
    cases hb:pj k
    ·rw [hb] at hbd
     have HK:Hid (pj k=false):=hb
     clear hb
     go_wp2_with fail
     refine hbd.mono ?_
     rintro e w1 ⟨rfl,hb1⟩
     go_wp2_with fail
     go_roundg (n-(k+1))
     case measure=>omega
     case rel=>exact ⟨k+1,by omega,rfl,by go_num,by rw [←HQ.out,HSK.out,findFrom_miss _ HK.out],onB HW.out hb1⟩
    ·rw [hb] at hbd
     have HK:Hid (pj k=true):=hb
     clear hb
     go_wp2_with fail
     refine hbd.mono ?_
     rintro e w1 ⟨rfl,hb1⟩
     go_wp2_with fail
     go_ret
     exact ⟨by rw [←HQ.out,HSK.out,findFrom_hit _ HK.out];rfl,onB HW.out hb1⟩
   ·have hke:k=n:=by omega
    subst hke
    go_wp2_with fail
    go_ret
    exact ⟨by rw [←HQ.out,Nat.sub_self];rfl,HW.out⟩
theorem contm_pl (F:Nat) (cap:Array Value) (p:Int→Bool) (hent:∀ (args:Array Value) (w:World),(callFunc F args).run Tryz.prog w=.ok (.enter F args) w) (A:Option Addr) (c:Nat) (L:List Int) (w:World) (hn:L.length≤1048576) (hL:PlAt w A c L)
  (hF:∀ (x:Int) (w':World),x∈L→Below w.heap.size w w'→Calls Tryz.prog F (#[.int .i64 x] ++ cap) w' fun e w''=>e=.returned (.bool (p x))∧Below w'.heap.size w' w'') :
  Calls Tryz.prog 11 #[.slice A L.length c,.func (.func F) #[] cap] w fun e w'=>e=.returned (.bool (decide (0≤findFrom (fun j=>p (L.getD j 0)) L.length 0)))∧Below w.heap.size w w':=by
 have h:=indexm_pl F cap p hent A c L w hn hL hF
 generalize findFrom (fun j=>p (L.getD j 0)) L.length 0=r at *
 clear hF hL
 go_enter Tryz.func11,Tryz.ntmps11
 go_wp2_with fail
 refine h.mono ?_
 rintro e w1 ⟨rfl,hb1⟩
 go_wp2_with fail
 go_ret
 exact ⟨rfl,hb1⟩
def outB (n:Nat) (i:Int):Bool:=decide (i<0) || decide ((n:Int)≤i)
theorem check1_any (i:Int) (A:Option Addr) (n cap q:Nat) (w:World) (h:w.cell? ⟨q,2,none⟩=some (.slice A n cap)):Calls Tryz.prog 87 #[.int .i64 i,.pointer (some ⟨q,0,none⟩)] w fun e w'=>e=.returned (.bool (outB n i))∧Below w.heap.size w w':=by
 unfold outB
 by_cases h1:i<0
 ·go_enter Tryz.func87,Tryz.ntmps87
  go_wp2
  go_ret
  exact ⟨by simp <;> omega,by go_grown⟩
 ·go_enter Tryz.func87,Tryz.ntmps87
  go_wp2
  go_ret
  exact ⟨by simp <;> omega,by go_grown⟩
theorem containsf_ints (A:Option Addr) (cap:Nat) (L:List Int) (Am:Option Addr) (nm cm q:Nat) (w:World) (hn:L.length≤2) (hL:IntsAt w A cap L) (hq:q<w.heap.size) (hqc:w.cell? ⟨q,2,none⟩=some (.slice Am nm cm)) :
  Calls Tryz.prog 11 #[.slice A L.length cap,.func (.func 87) #[] #[.pointer (some ⟨q,0,none⟩)]] w fun e w'=>e=.returned (.bool (decide (0≤findFrom (fun j=>outB nm (L.getD j 0)) L.length 0)))∧Below w.heap.size w w' :=
 contm_pl 87 #[.pointer (some ⟨q,0,none⟩)] (outB nm) (fun args w=>by simp [callFunc,Tryz.func87];rfl) A cap L w (by omega) (pl_ints hL) fun x w' _ hB=>check1_any x Am nm cm q w' ((hB.cell (p:=⟨q,2,none⟩) hq).trans hqc)
theorem treeErr_range {d:Dm} {L:List Int} (h:(dimErr d).2=0):treeErr d L=if 0≤findFrom (fun j=>outB d.n (L.getD j 0)) L.length 0 then 1 else 0:=by
 unfold treeErr rangeErr;rw [if_neg (by simpa using h)];rfl
set_option maxHeartbeats 2000000 in
theorem tcheck_any (d:Dm) (A:Option Addr) (cap:Nat) (Ai:Option Addr) (ci:Nat) (L:List Int) (w:World) (hM:MemsV w A cap d.n d.mem) (hn:L.length≤2) (hL:IntsAt w Ai ci L):Calls Tryz.prog 65 #[dimV d A cap,.slice Ai L.length ci] w fun e w'=>e=.returned (errV (treeErr d L))∧Below w.heap.size w w':=by
 have hS:=ownDim_size w d A cap 76
 have hB0:=ownDim_below w d A cap 76
 have hA:=(ownDim_at w d A cap 76).2.2
 have hck:=dcheck_any d A cap (ownDim w d A cap 76) (hM.later hB0)
 unfold dimV at hck ⊢
 have HB0:Hid (Below w.heap.size w (ownDim w d A cap 76)):=hB0
 have HS:Hid ((ownDim w d A cap 76).heap.size=w.heap.size+1):=hS
 have HA:Hid ((ownDim w d A cap 76).cell? ⟨w.heap.size,2,none⟩=some (.slice A d.n cap)):=hA
 have HL:Hid (IntsAt w Ai ci L):=hL
 clear hM hS hB0 hA hL
 by_cases he:(dimErr d).2=0
 ·obtain ⟨e1,hd1,hd2,-⟩:=dimErr_right he
  rw [he,e1,errV_zero] at hck
  have HE:Hid ((dimErr d).2=0):=he
  clear he e1
  go_enter Tryz.func65,Tryz.ntmps65
  go_wp2_with fail
  refine hck.mono ?_
  rintro e w1 ⟨rfl,hb1⟩
  have hB:Below w.heap.size w w1:=onB HB0.out hb1
  have hz:w.heap.size<w1.heap.size:=by
   have:=hb1.size
   rw [HS.out] at this
   omega
  have h2:w1.cell? ⟨w.heap.size,2,none⟩=some (.slice A d.n cap):=(hb1.cell (p:=⟨w.heap.size,2,none⟩) (by show w.heap.size<_;rw [HS.out];omega)).trans HA.out
  have hcf:=containsf_ints Ai ci L A d.n cap w.heap.size w1 hn (HL.out.later hB) hz h2
  have HR:Hid (treeErr d L=if 0≤findFrom (fun j=>outB d.n (L.getD j 0)) L.length 0 then 1 else 0):=treeErr_range HE.out
  have HB:Hid (Below w.heap.size w w1):=hB
  generalize findFrom (fun j=>outB d.n (L.getD j 0)) L.length 0=f at hcf HR
  generalize L.length=n at hcf
  clear hb1 hck h2 hB
  by_cases hf:0≤f
  ·rw [decide_eq_true hf] at hcf
   have HR1:Hid (treeErr d L=1):=by show _=_;rw [HR.out,if_pos hf]
   clear hf HR
   go_wp2_with fail
   refine hcf.mono ?_
   rintro e w2 ⟨rfl,hb2⟩
   go_wp2_with fail
   go_ret
   exact ⟨by rw [HR1.out];rfl,onB HB.out hb2⟩
  ·rw [decide_eq_false hf] at hcf
   have HR1:Hid (treeErr d L=0):=by show _=_;rw [HR.out,if_neg hf]
   clear hf HR
   go_wp2_with fail
   refine hcf.mono ?_
   rintro e w2 ⟨rfl,hb2⟩
   go_wp2_with fail
   go_ret
   exact ⟨by rw [HR1.out];rfl,onB HB.out hb2⟩
 ·have HK:Hid (errV (treeErr d L)=.iface 45 (.int .i64 (dimErr d).2)):=by show _=_;rw [treeErr_dim he,errV_some he]
  rw [errV_some he] at hck
  clear he
  generalize (dimErr d).2=c at hck HK
  go_enter Tryz.func65,Tryz.ntmps65
  go_wp2_with fail
  refine hck.mono ?_
  rintro e w1 ⟨rfl,hb1⟩
  go_wp2_with fail
  go_ret
  exact ⟨by rw [HK.out];rfl,onB HB0.out hb1⟩
end Go.Proofs.YtbhanigcjdegjaaGreatDoor
