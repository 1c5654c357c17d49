/-
  Cells joined by an op; names, and where one of them is; what is wrong with names and cells: plain data.
-/
import Derived.Sort.Walk0
import Derived.Test.YtfngmnhkhfgmjagGreatDoorJDAQ
namespace Go.Proofs.YtfngmnhkhfgmjagGreatDoor
def noS:ByteArray:=⟨#[]⟩
def okC (c:Int×Int):Prop:=good c.1 c.2=true
theorem okC_no:okC noC:=rfl
theorem okC_ofP (n:Int):okC (ofP n):=by
 unfold okC ofP good
 split
 ·rename_i h;simp [h.1,h.2]
 ·simp
theorem okC_quo (x y:Int):okC (quoP x y):=by
 unfold quoP
 split
 ·rfl
 ·exact okC_ofP _
theorem okC_join (b:Bool) (ka kb:Int) {r:Int×Int} (h:okC r):okC (joinP b ka kb r):=by
 unfold joinP
 split
 ·rfl
 ·split
  ·rfl
  ·exact h
def opP (o:Int) (a b:Int×Int):Int×Int:=if o=3 then plusP a.1 a.2 b.1 b.2 else if o=4 then minusP a.1 a.2 b.1 b.2 else if o=5 then timesP a.1 a.2 b.1 b.2 else overP a.1 a.2 b.1 b.2
theorem opP_ok (o:Int) (a b:Int×Int):okC (opP o a b):=by
 unfold opP
 split
 ·exact okC_join _ _ _ (okC_ofP _)
 ·split
  ·exact okC_join _ _ _ (okC_ofP _)
  ·split
   ·exact okC_join _ _ _ (okC_ofP _)
   ·exact okC_join _ _ _ (okC_quo _ _)
def isS (N:List ByteArray) (s:ByteArray) (i:Nat):Bool:=decide (N.getD i noS=s)
def whereS (N:List ByteArray) (s:ByteArray):Int:=findFrom (isS N s) N.length 0
theorem where_cases (N:List ByteArray) (s:ByteArray):(whereS N s = -1∧∀ j,j<N.length→N.getD j noS≠s)∨∃ i:Nat,whereS N s=(i:Int)∧i<N.length∧N.getD i noS=s:=by
 unfold whereS
 rcases findFrom_cases (isS N s) N.length 0 with ⟨h1,h2⟩ | ⟨m,h1,h2,h3,h4,h5⟩
 ·left
  refine ⟨h1,fun j hj=>?_⟩
  have:=h2 j (Nat.zero_le _) (by omega)
  simpa [isS] using this
 ·right
  exact ⟨m,h1,by omega,of_decide_eq_true h4⟩
def downS (N:List ByteArray) (i:Nat):Bool:=Op.bytesLess (N.getD i noS).toList (N.getD (i-1) noS).toList || (N.getD i noS).toList == (N.getD (i-1) noS).toList
def ckErr (N:List ByteArray) (C:List (Int×Int)):Int:=if C.length≠N.length then 3 else if 0≤findFrom (goodB C) C.length 0 then 1 else if 0≤findFrom (downS N) (N.length-1) 1 then 7 else 0
theorem ck_shape {N:List ByteArray} {C:List (Int×Int)} (h:C.length≠N.length):ckErr N C=3:=by unfold ckErr;rw [if_pos h]
theorem ck_cell {N:List ByteArray} {C:List (Int×Int)} (h:C.length=N.length) {i:Nat} (hi:i<C.length) (hb:goodB C i=true):ckErr N C=1:=by
 unfold ckErr
 rw [if_neg (by simpa using h)]
 rcases findFrom_cases (goodB C) C.length 0 with ⟨_,h5⟩ | ⟨m,e,_⟩
 ·rw [h5 i (Nat.zero_le _) (by omega)] at hb;cases hb
 ·rw [e,if_pos (by omega)]
theorem ck_down {N:List ByteArray} {C:List (Int×Int)} (h:C.length=N.length) (hg:∀ j,j<C.length→goodB C j=false) {i:Nat} (h1:1≤i) (hi:i<N.length) (hb:downS N i=true):ckErr N C=7:=by
 unfold ckErr
 rw [if_neg (by simpa using h),findFrom_none (fun j _ hj=>hg j (by omega)),if_neg (by omega)]
 rcases findFrom_cases (downS N) (N.length-1) 1 with ⟨_,h5⟩ | ⟨m,e,_⟩
 ·rw [h5 i h1 (by omega)] at hb;cases hb
 ·rw [e,if_pos (by omega)]
theorem ck_good {N:List ByteArray} {C:List (Int×Int)} (h:C.length=N.length) (hg:∀ j,j<C.length→goodB C j=false) (hd:∀ j,1≤j→j<N.length→downS N j=false):ckErr N C=0:=by
 unfold ckErr
 rw [if_neg (by simpa using h),findFrom_none (fun j _ hj=>hg j (by omega)),if_neg (by omega),findFrom_none (fun j h1 hj=>hd j h1 (by omega)),if_neg (by omega)]
theorem ck_right {N:List ByteArray} {C:List (Int×Int)} (h:ckErr N C=0):C.length=N.length∧(∀ j,j<C.length→goodB C j=false)∧∀ j,1≤j→j<N.length→downS N j=false:=by
 by_cases h1:C.length=N.length
 ·refine ⟨h1,?_⟩
  by_cases h2:∀ j,j<C.length→goodB C j=false
  ·refine ⟨h2,fun j hj1 hj=>?_⟩
   cases hd:downS N j
   ·rfl
   ·rw [ck_down h1 h2 hj1 hj hd] at h;cases h
  ·exfalso
   apply h2
   intro j hj
   cases hd:goodB C j
   ·rfl
   ·rw [ck_cell h1 hj hd] at h;cases h
 ·rw [ck_shape h1] at h;cases h
theorem ck_ok {N:List ByteArray} {C:List (Int×Int)} (h:ckErr N C=0):∀ c∈C,okC c:=by
 intro c hc
 obtain ⟨j,hj,rfl⟩:=List.getElem_of_mem hc
 have:=(ck_right h).2.1 j hj
 unfold goodB at this
 rw [List.getD_eq_getElem?_getD,List.getElem?_eq_getElem hj] at this
 simpa [okC] using this
/-! names that rise -/
theorem down_not {N:List ByteArray} {i:Nat} (h:downS N i=false):(N.getD (i-1) noS).toList<(N.getD i noS).toList:=by
 unfold downS at h
 rw [Bool.or_eq_false_iff,bytesLess_eq] at h
 have h1:=of_decide_eq_false h.1
 have h2:(N.getD i noS).toList≠(N.getD (i-1) noS).toList:=by simpa using h.2
 rcases Std.lt_trichotomy (N.getD i noS).toList (N.getD (i-1) noS).toList with h3 | h3 | h3
 ·exact absurd h3 h1
 ·exact absurd h3 h2
 ·exact h3
theorem rise_all {N:List ByteArray} (h:∀ j,1≤j→j<N.length→downS N j=false):∀ i j,i<j→j<N.length→(N.getD i noS).toList<(N.getD j noS).toList:=by
 intro i j hij
 induction j with
 | zero=>omega
 | succ j ih =>
  intro hj
  have h1:=down_not (h (j+1) (by omega) hj)
  by_cases e:i=j
  ·subst e;exact h1
  ·exact List.lt_trans (ih (by omega) (by omega)) h1
end Go.Proofs.YtfngmnhkhfgmjagGreatDoor
namespace Go.Proofs.YtfngmnhkhfgmjagGreatDoor
open Go.ChangeShapes Go.WideShapes Go.ChangeAt Go.RowKit
set_option maxRecDepth 20000
def notLeaf (D:Nat→Dm) (L:List Int) (i:Nat):Bool := !leafB (D i).mem (D i).n (L.getD i 0).toNat
def leafV (D:Nat→Dm) (n:Nat) (L:List Int):Bool:=if placeErr D n L=0 then !decide (0≤findFrom (notLeaf D L) n 0) else false
theorem pleaf1_in:EntersO 168:=fun args w=>by simp [callFunc,Tryz.func168];rfl
set_option maxHeartbeats 2000000 in
theorem pleaf1_any (b o n cap k q r bp op cp X:Nat) (D:Nat→Dm) (A:Nat→Option Addr) (C:Nat→Nat) (w:World) (hk:k<n) (hn:n≤4) (hd:(dimErr (D k)).2=0) (hX:X<(D k).n) (hM:DimsAt w b o n D A C) (hx:w.cell? ⟨bp,op+k,none⟩=some (.int .i64 X)) (hq:w.cell? ⟨q,0,none⟩=some (.slice (some ⟨b,o,none⟩) n cap)) (hr:w.cell? ⟨r,0,none⟩=some (.slice (some ⟨bp,op,none⟩) n cp)) :
  Calls Tryz.prog 168 #[.int .i64 k,.pointer (some ⟨q,0,none⟩),.pointer (some ⟨r,0,none⟩)] w fun e w'=>e=.returned (.bool (!leafB (D k).mem (D k).n X))∧Below w.heap.size w w':=by
 obtain ⟨h0,h1,h3,h4⟩:=hM.2 k hk
 have hki:(k:Int)<(n:Int):=by omega
 have hn':(n:Int)≤4:=by omega
 have hte:treeErr (D k) [(X:Int)]=0:=by rw [treeErr_one hd,if_neg (by omega)]
 have hlf:lfOf (D k) (X:Int)=leafB (D k).mem (D k).n X:=by simp [lfOf,hte]
 have HLf:Hid (∀ w',Below w.heap.size w w'→Calls Tryz.prog 169 #[.agg #[.string (D k).name,.int .i64 (D k).solve,.slice (A k) (D k).n (C k)],.int .i64 X] w' fun e w''=>e=.returned (.tuple #[.bool (leafB (D k).mem (D k).n X),.nilIface])∧Below w'.heap.size w' w''):=fun w' hw'=>by
  have h:=tleaf_any (D k) (A k) (C k) X w' (h4.later hw')
  rw [hte,hlf,errV_zero] at h
  exact h
 generalize leafB (D k).mem (D k).n X=y at HLf
 clear hM h4 hte hlf hd
 go_enter Tryz.func168,Tryz.ntmps168
 go_wp2_with fail
 go_region_law ((go_simp;refine (HLf.out _ (by go_grown)).mono ?_;rintro e w2 ⟨rfl,hb2⟩;have hN2:=onB (W0:=w) (by go_grown) hb2;clear hb2))
 all_goals go_wp2_with fail
 all_goals go_ret
 all_goals exact ⟨rfl,hN2⟩
set_option maxHeartbeats 4000000 in
theorem pleaf_any (A0:Option Addr) (cap n:Nat) (D:Nat→Dm) (A:Nat→Option Addr) (C:Nat→Nat) (Ap:Option Addr) (cp:Nat) (L:List Int) (w:World) (hM:DimsV w A0 cap n D A C) (hP:PlAt w Ap cp L):Calls Tryz.prog 130 #[.agg #[.slice A0 n cap],.slice Ap L.length cp] w fun e w'=>e=.returned (.tuple #[.bool (leafV D n L),errV (placeErr D n L)])∧Below w.heap.size w w':=by
 have hB0:=ownOP_below w A0 n cap Ap L.length cp 29 44
 have h:=pcheck_any A0 cap n D A C Ap cp L (ownOP w A0 n cap Ap L.length cp 29 44) (hM.later hB0) (hP.later hB0)
 have HB0:Hid (Below w.heap.size w (ownOP w A0 n cap Ap L.length cp 29 44)):=hB0
 have HM:Hid (DimsV w A0 cap n D A C):=hM
 have HP:Hid (PlAt w Ap cp L):=hP
 clear hM hB0 hP
 by_cases he:placeErr D n L=0
 ·have HI:Hid (InO D n L):=inO_of he
  have HV:Hid (leafV D n L = !decide (0≤findFrom (notLeaf D L) n 0)):=by show _=_;unfold leafV;rw [if_pos he]
  have HE:Hid (errV (placeErr D n L)=.nilIface):=by show _=_;rw [he];rfl
  rw [he,errV_zero] at h
  obtain ⟨hn1,hn4,-,-⟩:=allErr_some HI.out.right
  have hn':(n:Int)≤4:=by omega
  have hl:=HI.out.len
  obtain ⟨hcp,h0 | ⟨bp,op,rfl,hbp,hcell⟩⟩:=HP.out
  ·rw [h0] at hl;simp at hl;omega
  rw [hl] at h HB0
  rw [hl]
  have HC:Hid (∀ j,j<n→w.cell? ⟨bp,op+j,none⟩=some (.int .i64 (L.getD j 0))):=fun j hj=>hcell j (by omega)
  clear he hl hcell hcp
  go_enter Tryz.func130,Tryz.ntmps130
  go_wp2_with fail
  refine h.mono ?_
  rintro e w1 ⟨rfl,hb1⟩
  have hB:Below w.heap.size w w1:=onB HB0.out hb1
  have hz:w.heap.size+1<w1.heap.size:=by have:=hb1.size;rw [ownOP_size] at this;omega
  have ho:w1.cell? ⟨w.heap.size,0,none⟩=some (.slice A0 n cap):=(hb1.cell (p:=⟨w.heap.size,0,none⟩) (by show w.heap.size<_;rw [ownOP_size];omega)).trans (ownOP_o ..)
  have hp:w1.cell? ⟨w.heap.size+1,0,none⟩=some (.slice (some ⟨bp,op,none⟩) n cp):=(hb1.cell (p:=⟨w.heap.size+1,0,none⟩) (by show w.heap.size+1<_;rw [ownOP_size];omega)).trans (ownOP_p ..)
  obtain ⟨hcap,h0 | ⟨b,o,rfl,hMs⟩⟩:=HM.out.later hB
  ·omega
  have hany:=anydim_any 168 w.heap.size (w.heap.size+1) pleaf1_in (some ⟨b,o,none⟩) n cap (notLeaf D L) w1 hn4 (fun j w' hj hw'=>by
   have hlo:=HI.out.lo j hj
   have hhi:=HI.out.hi j hj
   have e1:L.getD j 0=((L.getD j 0).toNat:Int):=by omega
   have hcj:=((onB hB hw').cell (p:=⟨bp,op+j,none⟩) hbp).trans (HC.out j hj)
   rw [e1] at hcj
   exact pleaf1_any b o n cap j w.heap.size (w.heap.size+1) bp op cp (L.getD j 0).toNat D A C w' hj hn4 ((allErr_right HI.out.right).2 j hj) (by omega) (hMs.later hw') hcj ((hw'.cell (p:=⟨w.heap.size,0,none⟩) (by show w.heap.size<_;omega)).trans ho) ((hw'.cell (p:=⟨w.heap.size+1,0,none⟩) hz).trans hp))
  have HB:Hid (Below w.heap.size w w1):=hB
  generalize decide (0≤findFrom (notLeaf D L) n 0)=y at hany HV
  clear hb1 h hMs hB
  go_wp2_with fail
  refine hany.mono ?_
  rintro e w2 ⟨rfl,hb2⟩
  go_wp2_with fail
  go_ret2
  rw [HV.out,HE.out]
  exact ⟨rfl,onB HB.out hb2⟩
 ·have HV:Hid (leafV D n L=false):=by show _=_;unfold leafV;rw [if_neg he]
  have HE:Hid (errV (placeErr D n L)=.iface 95 (.int .i64 (placeErr D n L))):=errV_some he
  rw [errV_some he] at h
  clear he
  generalize placeErr D n L=c at h HE
  generalize L.length=m at h HB0
  go_enter Tryz.func130,Tryz.ntmps130
  go_wp2_with fail
  refine h.mono ?_
  rintro e w1 ⟨rfl,hb1⟩
  go_wp2_with fail
  go_ret2
  rw [HV.out,HE.out]
  exact ⟨rfl,onB HB0.out hb1⟩
theorem own_low {w:World} {b b' e size n:Nat} {v:Value} {xs:List Value} (h:w.ownsRow b e size v n xs) (hb:b'≤b):w.ownsRow b' e size v n xs:=by
 refine ⟨h.1,?_⟩
 rcases h.2 with h0 | ⟨g,cap,cur,h1,h2,h3⟩
 ·exact Or.inl h0
 ·exact Or.inr ⟨g,cap,cur,h1,Nat.le_trans hb h2,h3⟩
set_option maxHeartbeats 2000000 in
theorem places_own (fn q r:Nat) (he:EntersO fn) (A:Option Addr) (n cap:Nat) (p:Nat→Bool) (w:World) (hn:n≤12) (hp:AskP fn q r w n p):Calls Tryz.prog 237 #[.slice A n cap,.func (.func fn) #[] #[.pointer (some ⟨q,0,none⟩),.pointer (some ⟨r,0,none⟩)]] w fun e w'=>(∃ v,e=.returned v∧w'.ownsRow w.heap.size 3 1 v (selTo p n).length (mapI (selTo p n)))∧Below w.heap.size w w':=by
 obtain ⟨i0,hi0,hz0,hz1,hz2⟩:=info_parts Tryz.infoInt
 have HP:Hid (AskP fn q r w n p):=hp
 have hn':(n:Int)≤12:=by omega
 clear hp
 unfold EntersO at he
 go_enter Tryz.func237,Tryz.ntmps237
 go_wp2_with fail
 go_loopg [5,9] n (fun g s5 s9 wr => ∃ (k:Nat),k≤n∧g=n-k∧s9=.int .i64 k∧wr.ownsRow w.heap.size 3 1 s5 (selTo p k).length (mapI (selTo p k))∧Below w.heap.size w wr)
 case atStart=>exact ⟨0,Nat.zero_le _,rfl,rfl,World.ownsRow_nil _ _ _ _,Below.refl _ _⟩
 case round =>
  obtain ⟨k,hk,rfl,rfl,hown,hBw⟩:=hrel
  have HW:Hid (Below w.heap.size w wr):=hBw
  have HO:Hid (wr.ownsRow w.heap.size 3 1 _ (selTo p k).length (mapI (selTo p k))):=hown
  by_cases hlt:k<n
  ·have hki:(k:Int)<(n:Int):=by omega
   have hbd:=HP.out k wr hlt hBw
   clear hBw hown
   cases hb:p k
   ·rw [hb] at hbd
    have HK:Hid (p k=false):=hb
    clear hb
    go_wp2_with fail
    refine hbd.mono ?_
    rintro e w1 ⟨rfl,hb1⟩
    go_wp2_with fail
    go_roundg (n-(k+1))
    case measure=>omega
    case rel=>exact ⟨k+1,by omega,rfl,by go_num,by rw [selTo_miss HK.out];exact own_later HO.out hb1,onB HW.out hb1⟩
   ·rw [hb] at hbd
    have HK:Hid (p k=true):=hb
    have hlen:=selTo_len p k
    clear hb
    go_wp2_with fail
    refine hbd.mono ?_
    rintro e w1 ⟨rfl,hb1⟩
    have hown:=own_later HO.out hb1
    have hB1:=onB HW.out hb1
    have hsz:=hB1.size
    have HB1:Hid (Below w.heap.size w w1):=hB1
    clear hb1 hB1
    go_wp2_with (at_builtin;refine wpList_append_own _ rfl _ _ 38 rfl w.heap.size 3 i0 (.int .i64 0) 1 8 Tryz.underlying38 hi0 hz0 hz1 hz2 rfl (by decide) _ _ _ rfl (hown.alloc _) ⟨w1.heap.size,0,none⟩ 1 1 [.int .i64 k] rfl rfl one_cell one_one (by unfold maxLen;omega) (by omega) (by simp;omega) ?_)
    intro v' w2 hown' hgrow _
    have HB2:Hid (Below w.heap.size w w2):=grown_own HB1.out hown hgrow
    have HO2:Hid (w2.ownsRow w.heap.size 3 1 v' (selTo p (k+1)).length (mapI (selTo p (k+1)))):=by
     show World.ownsRow ..
     rw [selTo_hit HK.out,mapI_snoc,List.length_append];exact hown'
    clear hown' hgrow hown
    go_wp2_with fail
    go_roundg (n-(k+1))
    case measure=>omega
    case rel=>exact ⟨k+1,by omega,rfl,by go_num,HO2.out,HB2.out⟩
  ·have hke:k=n:=by omega
   subst hke
   clear hBw hown
   go_wp2_with fail
   go_ret
   exact ⟨⟨_,rfl,HO.out⟩,HW.out⟩
set_option maxHeartbeats 2000000 in
theorem parts_own (d:Dm) (A:Option Addr) (cap:Nat) (k:Nat) (w:World) (hd:(dimErr d).2=0) (hk:k<d.n) (hM:MemsV w A cap d.n d.mem):Calls Tryz.prog 210 #[dimV d A cap,.int .i64 k] w fun e w'=>(∃ v,e=.returned (.tuple #[v,.nilIface])∧w'.ownsRow w.heap.size 3 1 v (partsOf d.mem d.n k).length (mapI (partsOf d.mem d.n k)))∧Below w.heap.size w w':=by
 have hB0:=ownQ_below w d A cap k 43 3
 have hck:=tcheck_any d A cap _ 1 [(k:Int)] (ownQ w d A cap k 43 3) (hM.later hB0) (by simp) (ownQ_ints ..)
 have HB0:Hid (Below w.heap.size w (ownQ w d A cap k 43 3)):=hB0
 have HM:Hid (MemsV w A cap d.n d.mem):=hM
 unfold dimV at hck ⊢
 simp only [List.length_singleton] at hck
 clear hM hB0
 have he:treeErr d [(k:Int)]=0:=by rw [treeErr_one hd,if_neg (by omega)]
 ·rw [he,errV_zero] at hck
  obtain ⟨-,-,hd2,-⟩:=dimErr_right hd
  clear he hd
  go_enter Tryz.func210,Tryz.ntmps210
  go_wp2_with fail
  refine hck.mono ?_
  rintro e w1 ⟨rfl,hb1⟩
  have hB:Below w.heap.size w w1:=onB HB0.out hb1
  have hz:w.heap.size+1<w1.heap.size:=by have:=hb1.size;rw [ownQ_size] at this;omega
  have h2:w1.cell? ⟨w.heap.size,2,none⟩=some (.slice A d.n cap):=(hb1.cell (p:=⟨w.heap.size,2,none⟩) (by show w.heap.size<_;rw [ownQ_size];omega)).trans (ownQ_dim ..)
  have h3:w1.cell? ⟨w.heap.size+1,0,none⟩=some (.int .i64 k):=(hb1.cell (p:=⟨w.heap.size+1,0,none⟩) (by show w.heap.size+1<_;rw [ownQ_size];omega)).trans (ownQ_int ..)
  obtain ⟨hcap,h0 | ⟨b,o,rfl,hMs⟩⟩:=HM.out.later hB
  ·omega
  have hpl:=places_own 238 w.heap.size (w.heap.size+1) parts1_in (some ⟨b,o,none⟩) d.n cap (partB d.mem k) w1 hd2 (fun j w' hj hw'=>parts1_any b o d.n cap j w.heap.size (w.heap.size+1) d.mem k w' hj hd2 (hMs.later hw') ((hw'.cell (p:=⟨w.heap.size,2,none⟩) (by show w.heap.size<_;omega)).trans h2) ((hw'.cell (p:=⟨w.heap.size+1,0,none⟩) hz).trans h3))
  have HB:Hid (Below w.heap.size w w1):=hB
  clear hb1 hck hMs h3 hB
  go_wp2_with fail
  refine hpl.mono ?_
  rintro e w2 ⟨⟨v2,rfl,hO2⟩,hb2⟩
  have HO2:Hid (w2.ownsRow w1.heap.size 3 1 v2 (selTo (partB d.mem k) d.n).length (mapI (selTo (partB d.mem k) d.n))):=hO2
  have HB2:Hid (Below w.heap.size w w2):=onB HB.out hb2
  clear hO2 hb2 hpl
  go_wp2_with fail
  go_ret2
  exact ⟨⟨v2,rfl,own_low HO2.out HB.out.size⟩,HB2.out⟩
end Go.Proofs.YtfngmnhkhfgmjagGreatDoor
namespace Go.Proofs.YtfngmnhkhfgmjagGreatDoor
def lessL:List Int→List Int→Bool
 | [],[]=>false
 | [],_ :: _=>true
 | _ :: _,[]=>false
 | a :: r,b :: t=>if a=b then lessL r t else decide (a<b)
theorem lessL_self (a:List Int):lessL a a=false:=by
 induction a with
 | nil=>rfl
 | cons x r ih=>simp [lessL,ih]
theorem lessL_trans:∀ (a b c:List Int),lessL a b=true→lessL b c=true→lessL a c=true
 | [],[],_,h,_=>by simp [lessL] at h
 | [],_ :: _,[],_,h=>by simp [lessL] at h
 | [],_ :: _,_ :: _,_,_=>rfl
 | _ :: _,[],_,h,_=>by simp [lessL] at h
 | _ :: _,_ :: _,[],_,h=>by simp [lessL] at h
 | x :: r,y :: t,z :: u,h1,h2=>by
  simp only [lessL] at h1 h2 ⊢
  by_cases e1:x=y
  ·by_cases e2:y=z
   ·rw [if_pos e1] at h1
    rw [if_pos e2] at h2
    rw [if_pos (e1.trans e2)]
    exact lessL_trans r t u h1 h2
   ·rw [if_neg e2] at h2
    rw [if_neg (by rw [e1];exact e2),e1]
    exact h2
  ·rw [if_neg e1] at h1
   have h3:=of_decide_eq_true h1
   by_cases e2:y=z
   ·rw [if_neg (by rw [←e2];exact e1),←e2]
    exact h1
   ·rw [if_neg e2] at h2
    have h4:=of_decide_eq_true h2
    rw [if_neg (by omega)]
    exact decide_eq_true (by omega)
theorem lessL_total:∀ (a b:List Int),a≠b→lessL a b=true∨lessL b a=true
 | [],[],h=>absurd rfl h
 | [],_ :: _,_=>Or.inl rfl
 | _ :: _,[],_=>Or.inr rfl
 | x :: r,y :: t,h=>by
  simp only [lessL]
  by_cases e:x=y
  ·rw [if_pos e,if_pos e.symm]
   exact lessL_total r t fun h1=>h (by rw [e,h1])
  ·rw [if_neg e,if_neg fun h1=>e h1.symm]
   rcases Int.lt_or_gt_of_ne e with h1 | h1
   ·exact Or.inl (decide_eq_true h1)
   ·exact Or.inr (decide_eq_true h1)
theorem lessL_ne {a b:List Int} (h:lessL a b=true):a≠b:=fun e=>by rw [e,lessL_self] at h;cases h
theorem lessL_eq {a b:List Int} (h1:lessL a b=false) (h2:lessL b a=false):a=b :=
 Decidable.byContradiction fun e=>by
  rcases lessL_total a b e with h | h
  ·rw [h] at h1;cases h1
  ·rw [h] at h2;cases h2
theorem lessL_part:∀ (a b:List Int),a.length=b.length→lessL a b=true→∃ j,j<a.length∧(∀ i,i<j→a.getD i 0=b.getD i 0)∧a.getD j 0<b.getD j 0
 | [],[],_,h=>by simp [lessL] at h
 | [],_ :: _,h,_=>by simp at h
 | _ :: _,[],h,_=>by simp at h
 | x :: r,y :: t,hl,h=>by
  simp only [lessL] at h
  by_cases e:x=y
  ·rw [if_pos e] at h
   obtain ⟨j,h1,h2,h3⟩:=lessL_part r t (by simpa using hl) h
   refine ⟨j+1,by simpa using h1,fun i hi=>?_,by simpa using h3⟩
   cases i with
   | zero=>simpa using e
   | succ i=>simpa using h2 i (by omega)
  ·rw [if_neg e] at h
   exact ⟨0,by simp,fun i hi=>by omega,by simpa using of_decide_eq_true h⟩
theorem less_num {D:Nat→Dm} {n:Nat} {a b:List Int} (ha:InO D n a) (hb:InO D n b) (h:lessL a b=true):numI D a n<numI D b n:=by
 obtain ⟨j,hj,he,hlt⟩:=lessL_part a b (by rw [ha.len,hb.len]) h
 rw [ha.len] at hj
 have h1:∀ k,k≤j→numI D a k=numI D b k:=by
  intro k
  induction k with
  | zero=>intro _;rfl
  | succ k ih=>intro hk;rw [numI,numI,ih (by omega),he k (by omega)]
 have h2:∀ k,j<k→k≤n→numI D a k+1≤numI D b k:=by
  intro k
  induction k with
  | zero=>intro h;omega
  | succ k ih =>
   intro hjk hk
   rw [numI,numI]
   have a2:=ha.hi k (by omega)
   have b1:=hb.lo k (by omega)
   by_cases e:k=j
   ·rw [h1 k (by omega),e];omega
   ·have h3:=ih (by omega) (by omega)
    have h4:(numI D a k+1)*((D k).n:Int)≤numI D b k*((D k).n:Int):=Int.mul_le_mul_of_nonneg_right h3 (by omega)
    rw [Int.add_mul,Int.one_mul] at h4
    omega
 exact h2 n hj (Nat.le_refl _)
structure En where
 pl:List Int
 n:Int
def numOk (x:Int):Bool:=decide (-1000000≤x) && decide (x≤1000000)
def entOne (D:Nat→Dm) (n:Nat) (e:En):Int:=if shapeErr D n e.pl≠0 then shapeErr D n e.pl else if leafV D n e.pl=false then 6 else if numOk e.n=false then 1 else 0
def aheadOk:Option (List Int)→List Int→Bool
 | none,_=>true
 | some a,b=>lessL a b
def entFrom (D:Nat→Dm) (n:Nat):Option (List Int)→List En→Int
 | _,[]=>0
 | q,e :: r=>if entOne D n e≠0 then entOne D n e else if aheadOk q e.pl=true then entFrom D n (some e.pl) r else 7
def entsErr (D:Nat→Dm) (n:Nat) (l:List En):Int:=if (allErr D n).2.2≠0 then (allErr D n).2.2 else entFrom D n none l
structure Ens (D:Nat→Dm) (n:Nat) (l:List En):Prop where
 right:(allErr D n).2.2=0
 each:∀ e∈l,InO D n e.pl∧leafV D n e.pl=true∧numOk e.n=true
 rise:l.Pairwise fun a b=>lessL a.pl b.pl=true
theorem entOne_right {D:Nat→Dm} {n:Nat} {e:En} (hR:(allErr D n).2.2=0) (h:entOne D n e=0):InO D n e.pl∧leafV D n e.pl=true∧numOk e.n=true:=by
 unfold entOne at h
 split at h
 ·rename_i h1;exact absurd h h1
 ·split at h
  ·cases h
  ·split at h
   ·cases h
   ·rename_i h1 h2 h3
    exact ⟨inO_of (by rw [pe1 hR];simpa using h1),by simpa using h2,by simpa using h3⟩
theorem entOne_ok {D:Nat→Dm} {n:Nat} {e:En} (h:InO D n e.pl∧leafV D n e.pl=true∧numOk e.n=true):entOne D n e=0:=by
 have h1:shapeErr D n e.pl=0:=by rw [←pe1 h.1.right];exact h.1.ok
 unfold entOne
 rw [if_neg (by simpa using h1),if_neg (by simp [h.2.1]),if_neg (by simp [h.2.2])]
theorem entFrom_right {D:Nat→Dm} {n:Nat} (hR:(allErr D n).2.2=0):∀ (l:List En) (q:Option (List Int)),entFrom D n q l=0→(∀ e∈l,InO D n e.pl∧leafV D n e.pl=true∧numOk e.n=true)∧(∀ a,q=some a→∀ e∈l,lessL a e.pl=true)∧l.Pairwise fun a b=>lessL a.pl b.pl=true
 | [],_,_=>⟨fun _ h=>(by cases h),fun _ _ _ h=>(by cases h),List.Pairwise.nil⟩
 | e :: r,q,h=>by
  rw [entFrom] at h
  by_cases h1:entOne D n e=0
  ·rw [if_neg (by simpa using h1)] at h
   have go:∀ (h2:entFrom D n (some e.pl) r=0) (h3:∀ a,q=some a→lessL a e.pl=true),(∀ x∈e :: r,InO D n x.pl∧leafV D n x.pl=true∧numOk x.n=true)∧(∀ a,q=some a→∀ x∈e :: r,lessL a x.pl=true)∧(e :: r).Pairwise fun a b=>lessL a.pl b.pl=true:=fun h2 h3=>by
    obtain ⟨g1,g2,g3⟩:=entFrom_right hR r _ h2
    refine ⟨fun x hx=>?_,fun a ha x hx=>?_,List.Pairwise.cons (fun x hx=>g2 _ rfl x hx) g3⟩
    ·rcases List.mem_cons.1 hx with rfl | hx
     ·exact entOne_right hR h1
     ·exact g1 x hx
    ·rcases List.mem_cons.1 hx with rfl | hx
     ·exact h3 a ha
     ·exact lessL_trans _ _ _ (h3 a ha) (g2 _ rfl x hx)
   split at h
   ·rename_i h4
    exact go h fun b hb=>by rw [hb] at h4;exact h4
   ·cases h
  ·rw [if_pos (by simpa using h1)] at h
   exact absurd h h1
theorem ens_of {D:Nat→Dm} {n:Nat} {l:List En} (h:entsErr D n l=0):Ens D n l:=by
 unfold entsErr at h
 split at h
 ·rename_i h1;exact absurd h h1
 ·rename_i h1
  have hR:(allErr D n).2.2=0:=by simpa using h1
  obtain ⟨g1,_,g3⟩:=entFrom_right hR l none h
  exact ⟨hR,g1,g3⟩
theorem entFrom_ok {D:Nat→Dm} {n:Nat}:∀ (l:List En) (q:Option (List Int)),(∀ e∈l,InO D n e.pl∧leafV D n e.pl=true∧numOk e.n=true)→(∀ a,q=some a→∀ e∈l,lessL a e.pl=true)→(l.Pairwise fun a b=>lessL a.pl b.pl=true)→entFrom D n q l=0
 | [],_,_,_,_=>rfl
 | e :: r,q,h1,h2,h3=>by
  obtain ⟨h4,h5⟩:=List.pairwise_cons.1 h3
  have h6:=entFrom_ok r (some e.pl) (fun x hx=>h1 x (List.mem_cons_of_mem _ hx)) (fun a ha x hx=>by cases ha;exact h4 x hx) h5
  rw [entFrom,if_neg (by simpa using entOne_ok (h1 e (List.mem_cons_self ..)))]
  rw [if_pos]
  ·exact h6
  ·cases q with
   | none=>rfl
   | some a=>exact h2 a rfl e (List.mem_cons_self ..)
theorem Ens.ok {D:Nat→Dm} {n:Nat} {l:List En} (h:Ens D n l):entsErr D n l=0:=by
 unfold entsErr
 rw [if_neg (by simpa using h.right)]
 exact entFrom_ok l none h.each (fun a ha=>by cases ha) h.rise
theorem Ens.few {D:Nat→Dm} {n:Nat} {l:List En} (h:Ens D n l):l.length≤3000:=by
 have hp:=(allErr_some h.right).2.2.1
 have key:∀ (m:List En) (lo:Int),(∀ e∈m,InO D n e.pl)→(m.Pairwise fun a b=>lessL a.pl b.pl=true)→(∀ e∈m,lo≤numI D e.pl n)→0≤lo→lo≤(prodN D n:Int)→lo+(m.length:Int)≤(prodN D n:Int):=by
  intro m
  induction m with
  | nil=>intro lo _ _ _ _ h5;simpa using h5
  | cons e r ih =>
   intro lo h1 h2 h3 h4 h5
   obtain ⟨h6,h7⟩:=List.pairwise_cons.1 h2
   have he:=h1 e (List.mem_cons_self ..)
   have h8:=h3 e (List.mem_cons_self ..)
   have h9:=(numI_bound he (Nat.le_refl n)).2.1
   have:=ih (numI D e.pl n+1) (fun x hx=>h1 x (List.mem_cons_of_mem _ hx)) h7 (fun x hx=>by have:=less_num he (h1 x (List.mem_cons_of_mem _ hx)) (h6 x hx);omega) (by omega) (by omega)
   rw [List.length_cons]
   omega
 have:=key l 0 (fun e he=>(h.each e he).1) h.rise (fun e he=>(numI_bound (h.each e he).1 (Nat.le_refl n)).1) (Int.le_refl _) (by omega)
 omega
def cntE (l:List En) (p:List Int):Nat:=(l.takeWhile fun e=>lessL e.pl p).length
def hasE (l:List En) (p:List Int):Bool:=match l.drop (cntE l p) with
 | []=>false
 | e :: _ => !lessL p e.pl
def getE (l:List En) (p:List Int):Int×Int:=match l.drop (cntE l p) with
 | []=>(0,0)
 | e :: _=>if lessL p e.pl=true then (0,0) else (1,e.n)
def setL (l:List En) (p:List Int) (x:Int):List En:=l.take (cntE l p) ++ ⟨p,x⟩ :: l.drop (cntE l p+(if hasE l p=true then 1 else 0))
def clrL (l:List En) (p:List Int):List En:=l.take (cntE l p) ++ l.drop (cntE l p+1)
theorem drop_while {α:Type} (q:α→Bool) (l:List α):l.drop (l.takeWhile q).length=l.dropWhile q:=by
 induction l with
 | nil=>rfl
 | cons x r ih =>
  by_cases h:q x=true
  ·rw [List.takeWhile_cons,List.dropWhile_cons,if_pos h,if_pos h,List.length_cons,List.drop_succ_cons,ih]
  ·rw [List.takeWhile_cons,List.dropWhile_cons,if_neg h,if_neg h];rfl
theorem take_while {α:Type} (q:α→Bool) (l:List α):l.take (l.takeWhile q).length=l.takeWhile q:=by
 induction l with
 | nil=>rfl
 | cons x r ih =>
  by_cases h:q x=true
  ·rw [List.takeWhile_cons,if_pos h,List.length_cons,List.take_succ_cons,ih]
  ·rw [List.takeWhile_cons,if_neg h];rfl
theorem mem_while {α:Type} {q:α→Bool} {l:List α} {x:α} (h:x∈l.takeWhile q):q x=true:=by
 induction l with
 | nil=>cases h
 | cons y r ih =>
  by_cases hy:q y=true
  ·rw [List.takeWhile_cons,if_pos hy] at h
   rcases List.mem_cons.1 h with rfl | h
   ·exact hy
   ·exact ih h
  ·rw [List.takeWhile_cons,if_neg hy] at h
   cases h
theorem head_while {α:Type} {q:α→Bool} {l r:List α} {x:α} (h:l.dropWhile q=x :: r):q x=false:=by
 induction l with
 | nil=>cases h
 | cons y t ih =>
  by_cases hy:q y=true
  ·rw [List.dropWhile_cons,if_pos hy] at h;exact ih h
  ·rw [List.dropWhile_cons,if_neg hy] at h
   cases h
   simpa using hy
theorem cut_rise {l:List En} (h:l.Pairwise fun a b=>lessL a.pl b.pl=true) (p:List Int) :
  ∃ A B,l.take (cntE l p)=A∧(∀ e∈A,lessL e.pl p=true)∧(∀ e∈B,lessL p e.pl=true) ∧
   ((hasE l p=false∧l.drop (cntE l p)=B∧l=A ++ B∧getE l p=(0,0))∨∃ x,hasE l p=true∧l.drop (cntE l p)=⟨p,x⟩ :: B∧l=A ++ ⟨p,x⟩ :: B∧getE l p=(1,x)):=by
 have e1:l.take (cntE l p)=l.takeWhile fun e=>lessL e.pl p:=take_while _ _
 have e2:l.drop (cntE l p)=l.dropWhile fun e=>lessL e.pl p:=drop_while _ _
 have e3:l.take (cntE l p) ++ l.drop (cntE l p)=l:=List.take_append_drop _ _
 have hA:∀ e∈l.take (cntE l p),lessL e.pl p=true:=fun e he=>by rw [e1] at he;exact mem_while (q:=fun e:En=>lessL e.pl p) he
 cases hd:l.drop (cntE l p) with
 | nil =>
  refine ⟨_,[],rfl,hA,fun _ h=>(by cases h),Or.inl ⟨?_,rfl,?_,?_⟩⟩
  ·unfold hasE;rw [hd]
  ·conv=>lhs;rw [←e3,hd]
  ·unfold getE;rw [hd]
 | cons x r =>
  have hx:lessL x.pl p=false:=by rw [e2] at hd;exact head_while (q:=fun e:En=>lessL e.pl p) hd
  have hpw:(x :: r).Pairwise fun a b=>lessL a.pl b.pl=true:=by rw [←hd];exact h.sublist (List.drop_sublist _ _)
  obtain ⟨h4,_⟩:=List.pairwise_cons.1 hpw
  by_cases hl:lessL p x.pl=true
  ·refine ⟨_,x :: r,rfl,hA,fun e he=>?_,Or.inl ⟨?_,rfl,?_,?_⟩⟩
   ·rcases List.mem_cons.1 he with rfl | he
    ·exact hl
    ·exact lessL_trans _ _ _ hl (h4 e he)
   ·unfold hasE;rw [hd];simp [hl]
   ·conv=>lhs;rw [←e3,hd]
   ·unfold getE;rw [hd];simp [hl]
  ·have hl':lessL p x.pl=false:=by simpa using hl
   have hp:x.pl=p:=lessL_eq hx hl'
   have hxe:x=⟨p,x.n⟩:=by cases x;simp at hp ⊢;exact hp
   refine ⟨_,r,rfl,hA,fun e he=>by rw [←hp];exact h4 e he,Or.inr ⟨x.n,?_,?_,?_,?_⟩⟩
   ·unfold hasE;rw [hd];simp [hl']
   ·rw [←hxe]
   ·conv=>lhs;rw [←e3,hd]
    rw [←hxe]
   ·unfold getE;rw [hd];simp [hl']
theorem get_mem {l:List En} (h:l.Pairwise fun a b=>lessL a.pl b.pl=true) {e:En} (he:e∈l):getE l e.pl=(1,e.n):=by
 obtain ⟨A,B,_,hA,hB,⟨_,_,h2,_⟩ | ⟨x,_,_,h2,h3⟩⟩:=cut_rise h e.pl
 ·rw [h2] at he
  rcases List.mem_append.1 he with h4 | h4
  ·have:=hA e h4;rw [lessL_self] at this;cases this
  ·have:=hB e h4;rw [lessL_self] at this;cases this
 ·rw [h3]
  have h4:e=⟨e.pl,x⟩:=by
   rw [h2] at he
   rcases List.mem_append.1 he with h4 | h4
   ·have:=hA e h4;rw [lessL_self] at this;cases this
   ·rcases List.mem_cons.1 h4 with h5 | h5
    ·exact h5
    ·have:=hB e h5;rw [lessL_self] at this;cases this
  rw [h4]
theorem get_none {l:List En} (h:l.Pairwise fun a b=>lessL a.pl b.pl=true) {p:List Int} (hp:∀ e∈l,e.pl≠p):getE l p=(0,0)∧hasE l p=false:=by
 obtain ⟨A,B,_,_,_,⟨h1,_,_,h3⟩ | ⟨x,_,_,h2,_⟩⟩:=cut_rise h p
 ·exact ⟨h3,h1⟩
 ·exact absurd rfl (hp ⟨p,x⟩ (by rw [h2];simp))
theorem get_same {l m:List En} (hl:l.Pairwise fun a b=>lessL a.pl b.pl=true) (hm:m.Pairwise fun a b=>lessL a.pl b.pl=true) {q:List Int} (h:∀ e,e.pl=q→(e∈l↔e∈m)):getE l q=getE m q:=by
 by_cases he:∃ e∈l,e.pl=q
 ·obtain ⟨e,h1,rfl⟩:=he
  rw [get_mem hl h1,get_mem hm ((h e rfl).1 h1)]
 ·have h1:∀ e∈l,e.pl≠q:=fun e h1 h2=>he ⟨e,h1,h2⟩
  have h2:∀ e∈m,e.pl≠q:=fun e h2 h3=>h1 e ((h e h3).2 h2) h3
  rw [(get_none hl h1).1,(get_none hm h2).1]
theorem rise_join {A B:List En} {p:List Int} {x:Int} (hA:∀ e∈A,lessL e.pl p=true) (hB:∀ e∈B,lessL p e.pl=true) (h1:A.Pairwise fun a b=>lessL a.pl b.pl=true) (h2:B.Pairwise fun a b=>lessL a.pl b.pl=true):(A ++ ⟨p,x⟩ :: B).Pairwise fun a b=>lessL a.pl b.pl=true:=by
 refine List.pairwise_append.2 ⟨h1,List.Pairwise.cons (fun e he=>hB e he) h2,fun a ha b hb=>?_⟩
 rcases List.mem_cons.1 hb with rfl | hb
 ·exact hA a ha
 ·exact lessL_trans _ _ _ (hA a ha) (hB b hb)
theorem set_parts {l:List En} (h:l.Pairwise fun a b=>lessL a.pl b.pl=true) (p:List Int) (x:Int) :
  (setL l p x).Pairwise (fun a b=>lessL a.pl b.pl=true)∧(∀ e,e∈setL l p x↔e=⟨p,x⟩∨(e∈l∧e.pl≠p))∧(setL l p x).length=l.length+(if hasE l p=true then 0 else 1):=by
 obtain ⟨A,B,hTA,hA,hB,⟨h1,hd,h2,_⟩ | ⟨y,h1,hd,h2,_⟩⟩:=cut_rise h p
 ·have e:setL l p x=A ++ ⟨p,x⟩ :: B:=by unfold setL;rw [hTA,h1,if_neg (by simp),Nat.add_zero,hd]
  rw [e,h1]
  have hpw:=h
  rw [h2] at hpw
  obtain ⟨p1,p2,_⟩:=List.pairwise_append.1 hpw
  refine ⟨rise_join hA hB p1 p2,fun z=>?_,by rw [h2];simp;omega⟩
  rw [h2]
  constructor
  ·intro hz
   rcases List.mem_append.1 hz with hz | hz
   ·exact Or.inr ⟨List.mem_append.2 (Or.inl hz),lessL_ne (hA z hz)⟩
   ·rcases List.mem_cons.1 hz with hz | hz
    ·exact Or.inl hz
    ·exact Or.inr ⟨List.mem_append.2 (Or.inr hz),fun e=>lessL_ne (hB z hz) e.symm⟩
  ·rintro (hz | ⟨hz,_⟩)
   ·rw [hz];simp
   ·rcases List.mem_append.1 hz with hz | hz
    ·exact List.mem_append.2 (Or.inl hz)
    ·exact List.mem_append.2 (Or.inr (List.mem_cons_of_mem _ hz))
 ·have e:setL l p x=A ++ ⟨p,x⟩ :: B:=by
   unfold setL
   rw [hTA,h1,if_pos rfl,←List.drop_drop,hd]
   rfl
  rw [e,h1]
  have hpw:=h
  rw [h2] at hpw
  obtain ⟨p1,p2,_⟩:=List.pairwise_append.1 hpw
  refine ⟨rise_join hA hB p1 (List.pairwise_cons.1 p2).2,fun z=>?_,by rw [h2];simp⟩
  rw [h2]
  constructor
  ·intro hz
   rcases List.mem_append.1 hz with hz | hz
   ·exact Or.inr ⟨List.mem_append.2 (Or.inl hz),lessL_ne (hA z hz)⟩
   ·rcases List.mem_cons.1 hz with hz | hz
    ·exact Or.inl hz
    ·exact Or.inr ⟨List.mem_append.2 (Or.inr (List.mem_cons_of_mem _ hz)),fun e=>lessL_ne (hB z hz) e.symm⟩
  ·rintro (hz | ⟨hz,hne⟩)
   ·rw [hz];simp
   ·rcases List.mem_append.1 hz with hz | hz
    ·exact List.mem_append.2 (Or.inl hz)
    ·rcases List.mem_cons.1 hz with hz | hz
     ·exact absurd (by rw [hz]) hne
     ·exact List.mem_append.2 (Or.inr (List.mem_cons_of_mem _ hz))
theorem clr_parts {l:List En} (h:l.Pairwise fun a b=>lessL a.pl b.pl=true) (p:List Int) (hh:hasE l p=true) :
  (clrL l p).Pairwise (fun a b=>lessL a.pl b.pl=true)∧(∀ e,e∈clrL l p↔e∈l∧e.pl≠p)∧(clrL l p).length+1=l.length:=by
 obtain ⟨A,B,hTA,hA,hB,⟨h1,_⟩ | ⟨y,h1,hd,h2,_⟩⟩:=cut_rise h p
 ·rw [h1] at hh;cases hh
 ·have e:clrL l p=A ++ B:=by
   unfold clrL
   rw [hTA,←List.drop_drop,hd]
   rfl
  rw [e]
  have hpw:=h
  rw [h2] at hpw
  obtain ⟨p1,p2,_⟩:=List.pairwise_append.1 hpw
  refine ⟨List.pairwise_append.2 ⟨p1,(List.pairwise_cons.1 p2).2,fun a ha b hb=>lessL_trans _ _ _ (hA a ha) (hB b hb)⟩,fun z=>?_,by rw [h2];simp;omega⟩
  rw [h2]
  constructor
  ·intro hz
   rcases List.mem_append.1 hz with hz | hz
   ·exact ⟨List.mem_append.2 (Or.inl hz),lessL_ne (hA z hz)⟩
   ·exact ⟨List.mem_append.2 (Or.inr (List.mem_cons_of_mem _ hz)),fun e=>lessL_ne (hB z hz) e.symm⟩
  ·rintro ⟨hz,hne⟩
   rcases List.mem_append.1 hz with hz | hz
   ·exact List.mem_append.2 (Or.inl hz)
   ·rcases List.mem_cons.1 hz with hz | hz
    ·exact absurd (by rw [hz]) hne
    ·exact List.mem_append.2 (Or.inr hz)
theorem Ens.set {D:Nat→Dm} {n:Nat} {l:List En} (h:Ens D n l) {p:List Int} {x:Int} (hp:InO D n p) (hf:leafV D n p=true) (hx:numOk x=true):Ens D n (setL l p x):=by
 obtain ⟨h1,h2,_⟩:=set_parts h.rise p x
 refine ⟨h.right,fun e he=>?_,h1⟩
 rcases (h2 e).1 he with rfl | ⟨h3,_⟩
 ·exact ⟨hp,hf,hx⟩
 ·exact h.each e h3
theorem Ens.clr {D:Nat→Dm} {n:Nat} {l:List En} (h:Ens D n l) {p:List Int} (hh:hasE l p=true):Ens D n (clrL l p):=by
 obtain ⟨h1,h2,_⟩:=clr_parts h.rise p hh
 exact ⟨h.right,fun e he=>h.each e ((h2 e).1 he).1,h1⟩
theorem Ens.else {D:Nat→Dm} {n:Nat} {l:List En} (h:Ens D n l) {p q:List Int} (hq:q≠p) (x:Int):getE (setL l p x) q=getE l q:=by
 obtain ⟨h1,h2,_⟩:=set_parts h.rise p x
 refine get_same h1 h.rise fun e he=>?_
 rw [h2]
 constructor
 ·rintro (h3 | h3)
  ·exact absurd (by rw [←he,h3]) hq
  ·exact h3.1
 ·exact fun h3=>Or.inr ⟨h3,by rw [he];exact hq⟩
structure Ed where
 pl:List Int
 n:Int
 clear:Bool
def editErr (D:Nat→Dm) (n:Nat) (l:List En) (x:Ed):Int :=
 if shapeErr D n x.pl≠0 then shapeErr D n x.pl
 else if x.clear=true then (if hasE l x.pl=true then 0 else 5)
 else if leafV D n x.pl=false then 6
 else if numOk x.n=false then 1
 else 0
def editV (l:List En) (x:Ed):List En:=if x.clear=true then clrL l x.pl else setL l x.pl x.n
theorem Ens.edit {D:Nat→Dm} {n:Nat} {l:List En} (h:Ens D n l) {x:Ed} (hx:editErr D n l x=0):InO D n x.pl∧Ens D n (editV l x):=by
 unfold editErr at hx
 split at hx
 ·rename_i h1;exact absurd hx h1
 ·rename_i h1
  have hI:InO D n x.pl:=inO_of (by rw [pe1 h.right];simpa using h1)
  refine ⟨hI,?_⟩
  unfold editV
  split at hx
  ·rename_i h2
   split at hx
   ·rename_i h3
    rw [if_pos h2]
    exact h.clr h3
   ·cases hx
  ·rename_i h2
   rw [if_neg h2]
   split at hx
   ·cases hx
   ·split at hx
    ·cases hx
    ·rename_i h3 h4
     exact h.set hI (by simpa using h3) (by simpa using h4)
end Go.Proofs.YtfngmnhkhfgmjagGreatDoor
