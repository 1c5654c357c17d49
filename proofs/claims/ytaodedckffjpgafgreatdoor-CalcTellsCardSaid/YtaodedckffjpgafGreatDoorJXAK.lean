/-
  Cells joined by an op; names, and where one of them is; what is wrong with names and cells: plain data.
-/
import Derived.Sort.Walk0
import Derived.Laws.CopyRow
import Derived.Laws.CopyOwn
import Derived.Laws.IdiomCopy
import Derived.Deep.CutBlock
import Derived.Test.YtaodedckffjpgafGreatDoorJXAJ
namespace Go.Proofs.YtaodedckffjpgafGreatDoor
def noS:ByteArray:=⟨#[]⟩
def okC (c:Int×Int):Prop:=good c.1 c.2=true
theorem okC_no:okC noC:=rfl
theorem okC_ofP (n:Int):okC (ofP n):=by
 unfold okC ofP good
 split
 ·rename_i h;simp [h.1,h.2]
 ·simp
theorem okC_quo (x y:Int):okC (quoP x y):=by
 unfold quoP
 split
 ·rfl
 ·exact okC_ofP _
theorem okC_join (b:Bool) (ka kb:Int) {r:Int×Int} (h:okC r):okC (joinP b ka kb r):=by
 unfold joinP
 split
 ·rfl
 ·split
  ·rfl
  ·exact h
def opP (o:Int) (a b:Int×Int):Int×Int:=if o=3 then plusP a.1 a.2 b.1 b.2 else if o=4 then minusP a.1 a.2 b.1 b.2 else if o=5 then timesP a.1 a.2 b.1 b.2 else overP a.1 a.2 b.1 b.2
theorem opP_ok (o:Int) (a b:Int×Int):okC (opP o a b):=by
 unfold opP
 split
 ·exact okC_join _ _ _ (okC_ofP _)
 ·split
  ·exact okC_join _ _ _ (okC_ofP _)
  ·split
   ·exact okC_join _ _ _ (okC_ofP _)
   ·exact okC_join _ _ _ (okC_quo _ _)
def isS (N:List ByteArray) (s:ByteArray) (i:Nat):Bool:=decide (N.getD i noS=s)
def whereS (N:List ByteArray) (s:ByteArray):Int:=findFrom (isS N s) N.length 0
theorem where_cases (N:List ByteArray) (s:ByteArray):(whereS N s = -1∧∀ j,j<N.length→N.getD j noS≠s)∨∃ i:Nat,whereS N s=(i:Int)∧i<N.length∧N.getD i noS=s:=by
 unfold whereS
 rcases findFrom_cases (isS N s) N.length 0 with ⟨h1,h2⟩ | ⟨m,h1,h2,h3,h4,h5⟩
 ·left
  refine ⟨h1,fun j hj=>?_⟩
  have:=h2 j (Nat.zero_le _) (by omega)
  simpa [isS] using this
 ·right
  exact ⟨m,h1,by omega,of_decide_eq_true h4⟩
def downS (N:List ByteArray) (i:Nat):Bool:=Op.bytesLess (N.getD i noS).toList (N.getD (i-1) noS).toList || (N.getD i noS).toList == (N.getD (i-1) noS).toList
def ckErr (N:List ByteArray) (C:List (Int×Int)):Int:=if C.length≠N.length then 3 else if 0≤findFrom (goodB C) C.length 0 then 1 else if 0≤findFrom (downS N) (N.length-1) 1 then 7 else 0
theorem ck_shape {N:List ByteArray} {C:List (Int×Int)} (h:C.length≠N.length):ckErr N C=3:=by unfold ckErr;rw [if_pos h]
theorem ck_cell {N:List ByteArray} {C:List (Int×Int)} (h:C.length=N.length) {i:Nat} (hi:i<C.length) (hb:goodB C i=true):ckErr N C=1:=by
 unfold ckErr
 rw [if_neg (by simpa using h)]
 rcases findFrom_cases (goodB C) C.length 0 with ⟨_,h5⟩ | ⟨m,e,_⟩
 ·rw [h5 i (Nat.zero_le _) (by omega)] at hb;cases hb
 ·rw [e,if_pos (by omega)]
theorem ck_down {N:List ByteArray} {C:List (Int×Int)} (h:C.length=N.length) (hg:∀ j,j<C.length→goodB C j=false) {i:Nat} (h1:1≤i) (hi:i<N.length) (hb:downS N i=true):ckErr N C=7:=by
 unfold ckErr
 rw [if_neg (by simpa using h),findFrom_none (fun j _ hj=>hg j (by omega)),if_neg (by omega)]
 rcases findFrom_cases (downS N) (N.length-1) 1 with ⟨_,h5⟩ | ⟨m,e,_⟩
 ·rw [h5 i h1 (by omega)] at hb;cases hb
 ·rw [e,if_pos (by omega)]
theorem ck_good {N:List ByteArray} {C:List (Int×Int)} (h:C.length=N.length) (hg:∀ j,j<C.length→goodB C j=false) (hd:∀ j,1≤j→j<N.length→downS N j=false):ckErr N C=0:=by
 unfold ckErr
 rw [if_neg (by simpa using h),findFrom_none (fun j _ hj=>hg j (by omega)),if_neg (by omega),findFrom_none (fun j h1 hj=>hd j h1 (by omega)),if_neg (by omega)]
theorem ck_right {N:List ByteArray} {C:List (Int×Int)} (h:ckErr N C=0):C.length=N.length∧(∀ j,j<C.length→goodB C j=false)∧∀ j,1≤j→j<N.length→downS N j=false:=by
 by_cases h1:C.length=N.length
 ·refine ⟨h1,?_⟩
  by_cases h2:∀ j,j<C.length→goodB C j=false
  ·refine ⟨h2,fun j hj1 hj=>?_⟩
   cases hd:downS N j
   ·rfl
   ·rw [ck_down h1 h2 hj1 hj hd] at h;cases h
  ·exfalso
   apply h2
   intro j hj
   cases hd:goodB C j
   ·rfl
   ·rw [ck_cell h1 hj hd] at h;cases h
 ·rw [ck_shape h1] at h;cases h
theorem ck_ok {N:List ByteArray} {C:List (Int×Int)} (h:ckErr N C=0):∀ c∈C,okC c:=by
 intro c hc
 obtain ⟨j,hj,rfl⟩:=List.getElem_of_mem hc
 have:=(ck_right h).2.1 j hj
 unfold goodB at this
 rw [List.getD_eq_getElem?_getD,List.getElem?_eq_getElem hj] at this
 simpa [okC] using this
/-! names that rise -/
theorem down_not {N:List ByteArray} {i:Nat} (h:downS N i=false):(N.getD (i-1) noS).toList<(N.getD i noS).toList:=by
 unfold downS at h
 rw [Bool.or_eq_false_iff,bytesLess_eq] at h
 have h1:=of_decide_eq_false h.1
 have h2:(N.getD i noS).toList≠(N.getD (i-1) noS).toList:=by simpa using h.2
 rcases Std.lt_trichotomy (N.getD i noS).toList (N.getD (i-1) noS).toList with h3 | h3 | h3
 ·exact absurd h3 h1
 ·exact absurd h3 h2
 ·exact h3
theorem rise_all {N:List ByteArray} (h:∀ j,1≤j→j<N.length→downS N j=false):∀ i j,i<j→j<N.length→(N.getD i noS).toList<(N.getD j noS).toList:=by
 intro i j hij
 induction j with
 | zero=>omega
 | succ j ih =>
  intro hj
  have h1:=down_not (h (j+1) (by omega) hj)
  by_cases e:i=j
  ·subst e;exact h1
  ·exact List.lt_trans (ih (by omega) (by omega)) h1
end Go.Proofs.YtaodedckffjpgafGreatDoor
namespace Go.Proofs.YtaodedckffjpgafGreatDoor
open Go.ChangeShapes Go.WideShapes Go.ChangeAt Go.RowKit
set_option maxRecDepth 20000
theorem own_low {w:World} {b b' e size n:Nat} {v:Value} {xs:List Value} (h:w.ownsRow b e size v n xs) (hb:b'≤b):w.ownsRow b' e size v n xs:=by
 refine ⟨h.1,?_⟩
 rcases h.2 with h0 | ⟨g,cap,cur,h1,h2,h3⟩
 ·exact Or.inl h0
 ·exact Or.inr ⟨g,cap,cur,h1,Nat.le_trans hb h2,h3⟩
set_option maxHeartbeats 2000000 in
theorem places_own (fn q r:Nat) (he:EntersO fn) (A:Option Addr) (n cap:Nat) (p:Nat→Bool) (w:World) (hn:n≤12) (hp:AskP fn q r w n p):Calls Tryz.prog 144 #[.slice A n cap,.func (.func fn) #[] #[.pointer (some ⟨q,0,none⟩),.pointer (some ⟨r,0,none⟩)]] w fun e w'=>(∃ v,e=.returned v∧w'.ownsRow w.heap.size 3 1 v (selTo p n).length (mapI (selTo p n)))∧Below w.heap.size w w':=by
 obtain ⟨i0,hi0,hz0,hz1,hz2⟩:=info_parts Tryz.infoInt
 have HP:Hid (AskP fn q r w n p):=hp
 have hn':(n:Int)≤12:=by omega
 clear hp
 unfold EntersO at he
 go_enter Tryz.func144,Tryz.ntmps144
 go_wp2_with fail
 go_loopg [5,9] n (fun g s5 s9 wr => ∃ (k:Nat),k≤n∧g=n-k∧s9=.int .i64 k∧wr.ownsRow w.heap.size 3 1 s5 (selTo p k).length (mapI (selTo p k))∧Below w.heap.size w wr)
 case atStart=>exact ⟨0,Nat.zero_le _,rfl,rfl,World.ownsRow_nil _ _ _ _,Below.refl _ _⟩
 case round =>
  obtain ⟨k,hk,rfl,rfl,hown,hBw⟩:=hrel
  have HW:Hid (Below w.heap.size w wr):=hBw
  have HO:Hid (wr.ownsRow w.heap.size 3 1 _ (selTo p k).length (mapI (selTo p k))):=hown
  by_cases hlt:k<n
  ·have hki:(k:Int)<(n:Int):=by omega
   have hbd:=HP.out k wr hlt hBw
   clear hBw hown
   cases hb:p k
   ·rw [hb] at hbd
    have HK:Hid (p k=false):=hb
    clear hb
    go_wp2_with fail
    refine hbd.mono ?_
    rintro e w1 ⟨rfl,hb1⟩
    go_wp2_with fail
    go_roundg (n-(k+1))
    case measure=>omega
    case rel=>exact ⟨k+1,by omega,rfl,by go_num,by rw [selTo_miss HK.out];exact own_later HO.out hb1,onB HW.out hb1⟩
   ·rw [hb] at hbd
    have HK:Hid (p k=true):=hb
    have hlen:=selTo_len p k
    clear hb
    go_wp2_with fail
    refine hbd.mono ?_
    rintro e w1 ⟨rfl,hb1⟩
    have hown:=own_later HO.out hb1
    have hB1:=onB HW.out hb1
    have hsz:=hB1.size
    have HB1:Hid (Below w.heap.size w w1):=hB1
    clear hb1 hB1
    go_wp2_with (at_builtin;refine wpList_append_own _ rfl _ _ 27 rfl w.heap.size 3 i0 (.int .i64 0) 1 8 Tryz.underlying27 hi0 hz0 hz1 hz2 rfl (by decide) _ _ _ rfl (hown.alloc _) ⟨w1.heap.size,0,none⟩ 1 1 [.int .i64 k] rfl rfl one_cell one_one (by unfold maxLen;omega) (by omega) (by simp;omega) ?_)
    intro v' w2 hown' hgrow _
    have HB2:Hid (Below w.heap.size w w2):=grown_own HB1.out hown hgrow
    have HO2:Hid (w2.ownsRow w.heap.size 3 1 v' (selTo p (k+1)).length (mapI (selTo p (k+1)))):=by
     show World.ownsRow ..
     rw [selTo_hit HK.out,mapI_snoc,List.length_append];exact hown'
    clear hown' hgrow hown
    go_wp2_with fail
    go_roundg (n-(k+1))
    case measure=>omega
    case rel=>exact ⟨k+1,by omega,rfl,by go_num,HO2.out,HB2.out⟩
  ·have hke:k=n:=by omega
   subst hke
   clear hBw hown
   go_wp2_with fail
   go_ret
   exact ⟨⟨_,rfl,HO.out⟩,HW.out⟩
set_option maxHeartbeats 2000000 in
theorem parts_own (d:Dm) (A:Option Addr) (cap:Nat) (k:Nat) (w:World) (hd:(dimErr d).2=0) (hk:k<d.n) (hM:MemsV w A cap d.n d.mem):Calls Tryz.prog 99 #[dimV d A cap,.int .i64 k] w fun e w'=>(∃ v,e=.returned (.tuple #[v,.nilIface])∧w'.ownsRow w.heap.size 3 1 v (partsOf d.mem d.n k).length (mapI (partsOf d.mem d.n k)))∧Below w.heap.size w w':=by
 have hB0:=ownQ_below w d A cap k 24 3
 have hck:=tcheck_any d A cap _ 1 [(k:Int)] (ownQ w d A cap k 24 3) (hM.later hB0) (by simp) (ownQ_ints ..)
 have HB0:Hid (Below w.heap.size w (ownQ w d A cap k 24 3)):=hB0
 have HM:Hid (MemsV w A cap d.n d.mem):=hM
 unfold dimV at hck ⊢
 simp only [List.length_singleton] at hck
 clear hM hB0
 have he:treeErr d [(k:Int)]=0:=by rw [treeErr_one hd,if_neg (by omega)]
 ·rw [he,errV_zero] at hck
  obtain ⟨-,-,hd2,-⟩:=dimErr_right hd
  clear he hd
  go_enter Tryz.func99,Tryz.ntmps99
  go_wp2_with fail
  refine hck.mono ?_
  rintro e w1 ⟨rfl,hb1⟩
  have hB:Below w.heap.size w w1:=onB HB0.out hb1
  have hz:w.heap.size+1<w1.heap.size:=by have:=hb1.size;rw [ownQ_size] at this;omega
  have h2:w1.cell? ⟨w.heap.size,2,none⟩=some (.slice A d.n cap):=(hb1.cell (p:=⟨w.heap.size,2,none⟩) (by show w.heap.size<_;rw [ownQ_size];omega)).trans (ownQ_dim ..)
  have h3:w1.cell? ⟨w.heap.size+1,0,none⟩=some (.int .i64 k):=(hb1.cell (p:=⟨w.heap.size+1,0,none⟩) (by show w.heap.size+1<_;rw [ownQ_size];omega)).trans (ownQ_int ..)
  obtain ⟨hcap,h0 | ⟨b,o,rfl,hMs⟩⟩:=HM.out.later hB
  ·omega
  have hpl:=places_own 145 w.heap.size (w.heap.size+1) parts1_in (some ⟨b,o,none⟩) d.n cap (partB d.mem k) w1 hd2 (fun j w' hj hw'=>parts1_any b o d.n cap j w.heap.size (w.heap.size+1) d.mem k w' hj hd2 (hMs.later hw') ((hw'.cell (p:=⟨w.heap.size,2,none⟩) (by show w.heap.size<_;omega)).trans h2) ((hw'.cell (p:=⟨w.heap.size+1,0,none⟩) hz).trans h3))
  have HB:Hid (Below w.heap.size w w1):=hB
  clear hb1 hck hMs h3 hB
  go_wp2_with fail
  refine hpl.mono ?_
  rintro e w2 ⟨⟨v2,rfl,hO2⟩,hb2⟩
  have HO2:Hid (w2.ownsRow w1.heap.size 3 1 v2 (selTo (partB d.mem k) d.n).length (mapI (selTo (partB d.mem k) d.n))):=hO2
  have HB2:Hid (Below w.heap.size w w2):=onB HB.out hb2
  clear hO2 hb2 hpl
  go_wp2_with fail
  go_ret2
  exact ⟨⟨v2,rfl,own_low HO2.out HB.out.size⟩,HB2.out⟩
end Go.Proofs.YtaodedckffjpgafGreatDoor
namespace Go.Proofs.YtaodedckffjpgafGreatDoor
def lessL:List Int→List Int→Bool
 | [],[]=>false
 | [],_ :: _=>true
 | _ :: _,[]=>false
 | a :: r,b :: t=>if a=b then lessL r t else decide (a<b)
theorem lessL_self (a:List Int):lessL a a=false:=by
 induction a with
 | nil=>rfl
 | cons x r ih=>simp [lessL,ih]
theorem lessL_trans:∀ (a b c:List Int),lessL a b=true→lessL b c=true→lessL a c=true
 | [],[],_,h,_=>by simp [lessL] at h
 | [],_ :: _,[],_,h=>by simp [lessL] at h
 | [],_ :: _,_ :: _,_,_=>rfl
 | _ :: _,[],_,h,_=>by simp [lessL] at h
 | _ :: _,_ :: _,[],_,h=>by simp [lessL] at h
 | x :: r,y :: t,z :: u,h1,h2=>by
  simp only [lessL] at h1 h2 ⊢
  by_cases e1:x=y
  ·by_cases e2:y=z
   ·rw [if_pos e1] at h1
    rw [if_pos e2] at h2
    rw [if_pos (e1.trans e2)]
    exact lessL_trans r t u h1 h2
   ·rw [if_neg e2] at h2
    rw [if_neg (by rw [e1];exact e2),e1]
    exact h2
  ·rw [if_neg e1] at h1
   have h3:=of_decide_eq_true h1
   by_cases e2:y=z
   ·rw [if_neg (by rw [←e2];exact e1),←e2]
    exact h1
   ·rw [if_neg e2] at h2
    have h4:=of_decide_eq_true h2
    rw [if_neg (by omega)]
    exact decide_eq_true (by omega)
theorem lessL_total:∀ (a b:List Int),a≠b→lessL a b=true∨lessL b a=true
 | [],[],h=>absurd rfl h
 | [],_ :: _,_=>Or.inl rfl
 | _ :: _,[],_=>Or.inr rfl
 | x :: r,y :: t,h=>by
  simp only [lessL]
  by_cases e:x=y
  ·rw [if_pos e,if_pos e.symm]
   exact lessL_total r t fun h1=>h (by rw [e,h1])
  ·rw [if_neg e,if_neg fun h1=>e h1.symm]
   rcases Int.lt_or_gt_of_ne e with h1 | h1
   ·exact Or.inl (decide_eq_true h1)
   ·exact Or.inr (decide_eq_true h1)
theorem lessL_eq {a b:List Int} (h1:lessL a b=false) (h2:lessL b a=false):a=b :=
 Decidable.byContradiction fun e=>by
  rcases lessL_total a b e with h | h
  ·rw [h] at h1;cases h1
  ·rw [h] at h2;cases h2
theorem lessL_part:∀ (a b:List Int),a.length=b.length→lessL a b=true→∃ j,j<a.length∧(∀ i,i<j→a.getD i 0=b.getD i 0)∧a.getD j 0<b.getD j 0
 | [],[],_,h=>by simp [lessL] at h
 | [],_ :: _,h,_=>by simp at h
 | _ :: _,[],h,_=>by simp at h
 | x :: r,y :: t,hl,h=>by
  simp only [lessL] at h
  by_cases e:x=y
  ·rw [if_pos e] at h
   obtain ⟨j,h1,h2,h3⟩:=lessL_part r t (by simpa using hl) h
   refine ⟨j+1,by simpa using h1,fun i hi=>?_,by simpa using h3⟩
   cases i with
   | zero=>simpa using e
   | succ i=>simpa using h2 i (by omega)
  ·rw [if_neg e] at h
   exact ⟨0,by simp,fun i hi=>by omega,by simpa using of_decide_eq_true h⟩
theorem less_num {D:Nat→Dm} {n:Nat} {a b:List Int} (ha:InO D n a) (hb:InO D n b) (h:lessL a b=true):numI D a n<numI D b n:=by
 obtain ⟨j,hj,he,hlt⟩:=lessL_part a b (by rw [ha.len,hb.len]) h
 rw [ha.len] at hj
 have h1:∀ k,k≤j→numI D a k=numI D b k:=by
  intro k
  induction k with
  | zero=>intro _;rfl
  | succ k ih=>intro hk;rw [numI,numI,ih (by omega),he k (by omega)]
 have h2:∀ k,j<k→k≤n→numI D a k+1≤numI D b k:=by
  intro k
  induction k with
  | zero=>intro h;omega
  | succ k ih =>
   intro hjk hk
   rw [numI,numI]
   have a2:=ha.hi k (by omega)
   have b1:=hb.lo k (by omega)
   by_cases e:k=j
   ·rw [h1 k (by omega),e];omega
   ·have h3:=ih (by omega) (by omega)
    have h4:(numI D a k+1)*((D k).n:Int)≤numI D b k*((D k).n:Int):=Int.mul_le_mul_of_nonneg_right h3 (by omega)
    rw [Int.add_mul,Int.one_mul] at h4
    omega
 exact h2 n hj (Nat.le_refl _)
structure En where
 pl:List Int
 n:Int
def numOk (x:Int):Bool:=decide (-1000000≤x) && decide (x≤1000000)
def entOne (D:Nat→Dm) (n:Nat) (e:En):Int:=if shapeErr D n e.pl≠0 then shapeErr D n e.pl else if leafV D n e.pl=false then 6 else if numOk e.n=false then 1 else 0
def aheadOk:Option (List Int)→List Int→Bool
 | none,_=>true
 | some a,b=>lessL a b
def entFrom (D:Nat→Dm) (n:Nat):Option (List Int)→List En→Int
 | _,[]=>0
 | q,e :: r=>if entOne D n e≠0 then entOne D n e else if aheadOk q e.pl=true then entFrom D n (some e.pl) r else 7
def entsErr (D:Nat→Dm) (n:Nat) (l:List En):Int:=if (allErr D n).2.2≠0 then (allErr D n).2.2 else entFrom D n none l
structure Ens (D:Nat→Dm) (n:Nat) (l:List En):Prop where
 right:(allErr D n).2.2=0
 each:∀ e∈l,InO D n e.pl∧leafV D n e.pl=true∧numOk e.n=true
 rise:l.Pairwise fun a b=>lessL a.pl b.pl=true
theorem entOne_right {D:Nat→Dm} {n:Nat} {e:En} (hR:(allErr D n).2.2=0) (h:entOne D n e=0):InO D n e.pl∧leafV D n e.pl=true∧numOk e.n=true:=by
 unfold entOne at h
 split at h
 ·rename_i h1;exact absurd h h1
 ·split at h
  ·cases h
  ·split at h
   ·cases h
   ·rename_i h1 h2 h3
    exact ⟨inO_of (by rw [pe1 hR];simpa using h1),by simpa using h2,by simpa using h3⟩
theorem entFrom_right {D:Nat→Dm} {n:Nat} (hR:(allErr D n).2.2=0):∀ (l:List En) (q:Option (List Int)),entFrom D n q l=0→(∀ e∈l,InO D n e.pl∧leafV D n e.pl=true∧numOk e.n=true)∧(∀ a,q=some a→∀ e∈l,lessL a e.pl=true)∧l.Pairwise fun a b=>lessL a.pl b.pl=true
 | [],_,_=>⟨fun _ h=>(by cases h),fun _ _ _ h=>(by cases h),List.Pairwise.nil⟩
 | e :: r,q,h=>by
  rw [entFrom] at h
  by_cases h1:entOne D n e=0
  ·rw [if_neg (by simpa using h1)] at h
   have go:∀ (h2:entFrom D n (some e.pl) r=0) (h3:∀ a,q=some a→lessL a e.pl=true),(∀ x∈e :: r,InO D n x.pl∧leafV D n x.pl=true∧numOk x.n=true)∧(∀ a,q=some a→∀ x∈e :: r,lessL a x.pl=true)∧(e :: r).Pairwise fun a b=>lessL a.pl b.pl=true:=fun h2 h3=>by
    obtain ⟨g1,g2,g3⟩:=entFrom_right hR r _ h2
    refine ⟨fun x hx=>?_,fun a ha x hx=>?_,List.Pairwise.cons (fun x hx=>g2 _ rfl x hx) g3⟩
    ·rcases List.mem_cons.1 hx with rfl | hx
     ·exact entOne_right hR h1
     ·exact g1 x hx
    ·rcases List.mem_cons.1 hx with rfl | hx
     ·exact h3 a ha
     ·exact lessL_trans _ _ _ (h3 a ha) (g2 _ rfl x hx)
   split at h
   ·rename_i h4
    exact go h fun b hb=>by rw [hb] at h4;exact h4
   ·cases h
  ·rw [if_pos (by simpa using h1)] at h
   exact absurd h h1
theorem ens_of {D:Nat→Dm} {n:Nat} {l:List En} (h:entsErr D n l=0):Ens D n l:=by
 unfold entsErr at h
 split at h
 ·rename_i h1;exact absurd h h1
 ·rename_i h1
  have hR:(allErr D n).2.2=0:=by simpa using h1
  obtain ⟨g1,_,g3⟩:=entFrom_right hR l none h
  exact ⟨hR,g1,g3⟩
theorem Ens.few {D:Nat→Dm} {n:Nat} {l:List En} (h:Ens D n l):l.length≤3000:=by
 have hp:=(allErr_some h.right).2.2.1
 have key:∀ (m:List En) (lo:Int),(∀ e∈m,InO D n e.pl)→(m.Pairwise fun a b=>lessL a.pl b.pl=true)→(∀ e∈m,lo≤numI D e.pl n)→0≤lo→lo≤(prodN D n:Int)→lo+(m.length:Int)≤(prodN D n:Int):=by
  intro m
  induction m with
  | nil=>intro lo _ _ _ _ h5;simpa using h5
  | cons e r ih =>
   intro lo h1 h2 h3 h4 h5
   obtain ⟨h6,h7⟩:=List.pairwise_cons.1 h2
   have he:=h1 e (List.mem_cons_self ..)
   have h8:=h3 e (List.mem_cons_self ..)
   have h9:=(numI_bound he (Nat.le_refl n)).2.1
   have:=ih (numI D e.pl n+1) (fun x hx=>h1 x (List.mem_cons_of_mem _ hx)) h7 (fun x hx=>by have:=less_num he (h1 x (List.mem_cons_of_mem _ hx)) (h6 x hx);omega) (by omega) (by omega)
   rw [List.length_cons]
   omega
 have:=key l 0 (fun e he=>(h.each e he).1) h.rise (fun e he=>(numI_bound (h.each e he).1 (Nat.le_refl n)).1) (Int.le_refl _) (by omega)
 omega
def cntE (l:List En) (p:List Int):Nat:=(l.takeWhile fun e=>lessL e.pl p).length
def hasE (l:List En) (p:List Int):Bool:=match l.drop (cntE l p) with
 | []=>false
 | e :: _ => !lessL p e.pl
def getE (l:List En) (p:List Int):Int×Int:=match l.drop (cntE l p) with
 | []=>(0,0)
 | e :: _=>if lessL p e.pl=true then (0,0) else (1,e.n)
theorem drop_while {α:Type} (q:α→Bool) (l:List α):l.drop (l.takeWhile q).length=l.dropWhile q:=by
 induction l with
 | nil=>rfl
 | cons x r ih =>
  by_cases h:q x=true
  ·rw [List.takeWhile_cons,List.dropWhile_cons,if_pos h,if_pos h,List.length_cons,List.drop_succ_cons,ih]
  ·rw [List.takeWhile_cons,List.dropWhile_cons,if_neg h,if_neg h];rfl
theorem take_while {α:Type} (q:α→Bool) (l:List α):l.take (l.takeWhile q).length=l.takeWhile q:=by
 induction l with
 | nil=>rfl
 | cons x r ih =>
  by_cases h:q x=true
  ·rw [List.takeWhile_cons,if_pos h,List.length_cons,List.take_succ_cons,ih]
  ·rw [List.takeWhile_cons,if_neg h];rfl
theorem mem_while {α:Type} {q:α→Bool} {l:List α} {x:α} (h:x∈l.takeWhile q):q x=true:=by
 induction l with
 | nil=>cases h
 | cons y r ih =>
  by_cases hy:q y=true
  ·rw [List.takeWhile_cons,if_pos hy] at h
   rcases List.mem_cons.1 h with rfl | h
   ·exact hy
   ·exact ih h
  ·rw [List.takeWhile_cons,if_neg hy] at h
   cases h
theorem head_while {α:Type} {q:α→Bool} {l r:List α} {x:α} (h:l.dropWhile q=x :: r):q x=false:=by
 induction l with
 | nil=>cases h
 | cons y t ih =>
  by_cases hy:q y=true
  ·rw [List.dropWhile_cons,if_pos hy] at h;exact ih h
  ·rw [List.dropWhile_cons,if_neg hy] at h
   cases h
   simpa using hy
theorem cut_rise {l:List En} (h:l.Pairwise fun a b=>lessL a.pl b.pl=true) (p:List Int) :
  ∃ A B,l.take (cntE l p)=A∧(∀ e∈A,lessL e.pl p=true)∧(∀ e∈B,lessL p e.pl=true) ∧
   ((hasE l p=false∧l.drop (cntE l p)=B∧l=A ++ B∧getE l p=(0,0))∨∃ x,hasE l p=true∧l.drop (cntE l p)=⟨p,x⟩ :: B∧l=A ++ ⟨p,x⟩ :: B∧getE l p=(1,x)):=by
 have e1:l.take (cntE l p)=l.takeWhile fun e=>lessL e.pl p:=take_while _ _
 have e2:l.drop (cntE l p)=l.dropWhile fun e=>lessL e.pl p:=drop_while _ _
 have e3:l.take (cntE l p) ++ l.drop (cntE l p)=l:=List.take_append_drop _ _
 have hA:∀ e∈l.take (cntE l p),lessL e.pl p=true:=fun e he=>by rw [e1] at he;exact mem_while (q:=fun e:En=>lessL e.pl p) he
 cases hd:l.drop (cntE l p) with
 | nil =>
  refine ⟨_,[],rfl,hA,fun _ h=>(by cases h),Or.inl ⟨?_,rfl,?_,?_⟩⟩
  ·unfold hasE;rw [hd]
  ·conv=>lhs;rw [←e3,hd]
  ·unfold getE;rw [hd]
 | cons x r =>
  have hx:lessL x.pl p=false:=by rw [e2] at hd;exact head_while (q:=fun e:En=>lessL e.pl p) hd
  have hpw:(x :: r).Pairwise fun a b=>lessL a.pl b.pl=true:=by rw [←hd];exact h.sublist (List.drop_sublist _ _)
  obtain ⟨h4,_⟩:=List.pairwise_cons.1 hpw
  by_cases hl:lessL p x.pl=true
  ·refine ⟨_,x :: r,rfl,hA,fun e he=>?_,Or.inl ⟨?_,rfl,?_,?_⟩⟩
   ·rcases List.mem_cons.1 he with rfl | he
    ·exact hl
    ·exact lessL_trans _ _ _ hl (h4 e he)
   ·unfold hasE;rw [hd];simp [hl]
   ·conv=>lhs;rw [←e3,hd]
   ·unfold getE;rw [hd];simp [hl]
  ·have hl':lessL p x.pl=false:=by simpa using hl
   have hp:x.pl=p:=lessL_eq hx hl'
   have hxe:x=⟨p,x.n⟩:=by cases x;simp at hp ⊢;exact hp
   refine ⟨_,r,rfl,hA,fun e he=>by rw [←hp];exact h4 e he,Or.inr ⟨x.n,?_,?_,?_,?_⟩⟩
   ·unfold hasE;rw [hd];simp [hl']
   ·rw [←hxe]
   ·conv=>lhs;rw [←e3,hd]
    rw [←hxe]
   ·unfold getE;rw [hd];simp [hl']
theorem get_mem {l:List En} (h:l.Pairwise fun a b=>lessL a.pl b.pl=true) {e:En} (he:e∈l):getE l e.pl=(1,e.n):=by
 obtain ⟨A,B,_,hA,hB,⟨_,_,h2,_⟩ | ⟨x,_,_,h2,h3⟩⟩:=cut_rise h e.pl
 ·rw [h2] at he
  rcases List.mem_append.1 he with h4 | h4
  ·have:=hA e h4;rw [lessL_self] at this;cases this
  ·have:=hB e h4;rw [lessL_self] at this;cases this
 ·rw [h3]
  have h4:e=⟨e.pl,x⟩:=by
   rw [h2] at he
   rcases List.mem_append.1 he with h4 | h4
   ·have:=hA e h4;rw [lessL_self] at this;cases this
   ·rcases List.mem_cons.1 h4 with h5 | h5
    ·exact h5
    ·have:=hB e h5;rw [lessL_self] at this;cases this
  rw [h4]
theorem get_none {l:List En} (h:l.Pairwise fun a b=>lessL a.pl b.pl=true) {p:List Int} (hp:∀ e∈l,e.pl≠p):getE l p=(0,0)∧hasE l p=false:=by
 obtain ⟨A,B,_,_,_,⟨h1,_,_,h3⟩ | ⟨x,_,_,h2,_⟩⟩:=cut_rise h p
 ·exact ⟨h3,h1⟩
 ·exact absurd rfl (hp ⟨p,x⟩ (by rw [h2];simp))
end Go.Proofs.YtaodedckffjpgafGreatDoor
namespace Go.Proofs.YtaodedckffjpgafGreatDoor
open Go Go.ChangeShapes Go.WideShapes Go.ChangeAt Go.RowKit Go.Deep
set_option maxRecDepth 100000
structure EnL where
 e:En
 A:Option Addr
 c:Nat
def noEn:En:=⟨[],0⟩
def noL:EnL:=⟨noEn,none,0⟩
def lE (xs:List EnL):List En:=xs.map EnL.e
theorem lE_len (xs:List EnL):(lE xs).length=xs.length:=by simp [lE]
theorem lE_at (xs:List EnL) (k:Nat):(lE xs).getD k noEn=(xs.getD k noL).e:=by
 rw [List.getD_eq_getElem?_getD,List.getD_eq_getElem?_getD,lE,List.getElem?_map]
 cases xs[k]? <;> rfl
def cellsE:List EnL→List Value
 | []=>[]
 | x :: r=>.slice x.A x.e.pl.length x.c :: .int .i64 x.e.n :: cellsE r
theorem cellsE_at (xs:List EnL):∀ k,k<xs.length→(cellsE xs)[k*2]?=some (.slice (xs.getD k noL).A (xs.getD k noL).e.pl.length (xs.getD k noL).c)∧(cellsE xs)[k*2+1]?=some (.int .i64 (xs.getD k noL).e.n):=by
 induction xs with
 | nil=>intro k hk;cases hk
 | cons x r ih =>
  intro k hk
  cases k with
  | zero=>simp [cellsE]
  | succ k =>
   rw [show (k+1)*2=k*2+1+1 by omega]
   simp only [cellsE,List.getElem?_cons_succ,List.getD_cons_succ]
   exact ih k (by simpa using hk)
theorem enl_mem {xs:List EnL} {k:Nat} (h:k<xs.length):xs.getD k noL∈xs:=by
 rw [List.getD_eq_getElem?_getD,List.getElem?_eq_getElem h]
 exact List.getElem_mem h
def EnsAt (w:World) (b o:Nat) (xs:List EnL):Prop:=b<w.heap.size∧(∀ j u,(cellsE xs)[j]?=some u→w.cell? ⟨b,o+j,none⟩=some u)∧∀ x∈xs,PlAt w x.A x.c x.e.pl
theorem EnsAt.later {w w':World} {b o:Nat} {xs:List EnL} (h:EnsAt w b o xs) (hB:Below w.heap.size w w'):EnsAt w' b o xs :=
 ⟨Nat.lt_of_lt_of_le h.1 hB.size,fun j u hj=>(hB.cell (p:=⟨b,o+j,none⟩) h.1).trans (h.2.1 j u hj),fun x hx=>(h.2.2 x hx).later hB⟩
theorem EnsAt.pl {w:World} {b o:Nat} {xs:List EnL} (h:EnsAt w b o xs) {k:Nat} (hk:k<xs.length):PlAt w (xs.getD k noL).A (xs.getD k noL).c (xs.getD k noL).e.pl:=h.2.2 _ (enl_mem hk)
theorem EnsAt.at {w:World} {b o:Nat} {xs:List EnL} (h:EnsAt w b o xs) {k:Nat} (hk:k<xs.length):w.cell? ⟨b,o+k*2,none⟩=some (.slice (xs.getD k noL).A (xs.getD k noL).e.pl.length (xs.getD k noL).c)∧w.cell? ⟨b,o+k*2+1,none⟩=some (.int .i64 (xs.getD k noL).e.n):=by
 obtain ⟨h1,h2⟩:=cellsE_at xs k hk
 exact ⟨h.2.1 _ _ h1,by rw [Nat.add_assoc];exact h.2.1 _ _ h2⟩
def EnsV (w:World) (A:Option Addr) (cap:Nat) (xs:List EnL):Prop:=xs.length≤cap∧cap≤9223372036854775807∧(xs=[]∨∃ b o,A=some ⟨b,o,none⟩∧EnsAt w b o xs)
theorem EnsV.later {w w':World} {A:Option Addr} {cap:Nat} {xs:List EnL} (h:EnsV w A cap xs) (hB:Below w.heap.size w w'):EnsV w' A cap xs:=by
 obtain ⟨h1,h0,h2 | ⟨b,o,h2,h3⟩⟩:=h
 ·exact ⟨h1,h0,Or.inl h2⟩
 ·exact ⟨h1,h0,Or.inr ⟨b,o,h2,h3.later hB⟩⟩
end Go.Proofs.YtaodedckffjpgafGreatDoor
namespace Go.Proofs.YtaodedckffjpgafGreatDoor
def cmpL:List Int→List Int→Int
 | [],[]=>0
 | [],_ :: _ => -1
 | _ :: _,[]=>1
 | a :: r,b :: t=>if a<b then -1 else if b<a then 1 else cmpL r t
theorem cmpL_three:∀ a b:List Int,(cmpL a b = -1∧lessL a b=true∧a≠b)∨(cmpL a b=0∧lessL a b=false∧a=b)∨(cmpL a b=1∧lessL a b=false∧a≠b)
 | [],[]=>Or.inr (Or.inl ⟨rfl,rfl,rfl⟩)
 | [],_ :: _=>Or.inl ⟨rfl,rfl,by simp⟩
 | _ :: _,[]=>Or.inr (Or.inr ⟨rfl,rfl,by simp⟩)
 | a :: r,b :: t=>by
  simp only [cmpL,lessL]
  by_cases h1:a<b
  ·rw [if_pos h1,if_neg (by omega)]
   exact Or.inl ⟨rfl,decide_eq_true h1,by simp;omega⟩
  ·rw [if_neg h1]
   by_cases h2:b<a
   ·rw [if_pos h2,if_neg (by omega)]
    exact Or.inr (Or.inr ⟨rfl,decide_eq_false h1,by simp;omega⟩)
   ·have h3:a=b:=by omega
    rw [if_neg h2,if_pos h3]
    subst h3
    rcases cmpL_three r t with ⟨e1,e2,e3⟩ | ⟨e1,e2,e3⟩ | ⟨e1,e2,e3⟩
    ·exact Or.inl ⟨e1,e2,by simpa using e3⟩
    ·exact Or.inr (Or.inl ⟨e1,e2,by rw [e3]⟩)
    ·exact Or.inr (Or.inr ⟨e1,e2,by simpa using e3⟩)
theorem cmpL_nonneg (a b:List Int):decide (0≤cmpL a b) = !lessL a b:=by
 rcases cmpL_three a b with ⟨e1,e2,_⟩ | ⟨e1,e2,_⟩ | ⟨e1,e2,_⟩ <;> rw [e1,e2] <;> rfl
theorem dropI_at (l:List Int) {k:Nat} (h:k<l.length):l.drop k=l.getD k 0 :: l.drop (k+1):=by
 rw [List.drop_eq_getElem_cons h,List.getD_eq_getElem?_getD,List.getElem?_eq_getElem h]
 rfl
theorem cmpL_in {a b:List Int} {k:Nat} (h1:k<a.length) (h2:k<b.length):cmpL (a.drop k) (b.drop k)=if a.getD k 0<b.getD k 0 then -1 else if b.getD k 0<a.getD k 0 then 1 else cmpL (a.drop (k+1)) (b.drop (k+1)):=by
 rw [dropI_at a h1,dropI_at b h2,cmpL]
theorem cmpL_long {a b:List Int} {k:Nat} (h1:k<a.length) (h2:b.length≤k):cmpL (a.drop k) (b.drop k)=1:=by
 rw [dropI_at a h1,List.drop_eq_nil_of_le h2];rfl
theorem cmpL_short {a b:List Int} {k:Nat} (h1:a.length≤k) (h2:k<b.length):cmpL (a.drop k) (b.drop k) = -1:=by
 rw [dropI_at b h2,List.drop_eq_nil_of_le h1];rfl
theorem cmpL_end {a b:List Int} {k:Nat} (h1:a.length≤k) (h2:b.length≤k):cmpL (a.drop k) (b.drop k)=0:=by
 rw [List.drop_eq_nil_of_le h1,List.drop_eq_nil_of_le h2];rfl
theorem drop_en (l:List En) {k:Nat} (h:k<l.length):l.drop k=l.getD k noEn :: l.drop (k+1):=by
 rw [List.drop_eq_getElem_cons h,List.getD_eq_getElem?_getD,List.getElem?_eq_getElem h]
 rfl
def qOf (l:List En):Nat→Option (List Int)
 | 0=>none
 | k+1=>some (l.getD k noEn).pl
theorem ent_step {D:Nat→Dm} {n:Nat} {l:List En} {k:Nat} (h:k<l.length):entFrom D n (qOf l k) (l.drop k)=if entOne D n (l.getD k noEn)≠0 then entOne D n (l.getD k noEn) else if aheadOk (qOf l k) (l.getD k noEn).pl=true then entFrom D n (qOf l (k+1)) (l.drop (k+1)) else 7:=by
 rw [drop_en l h,entFrom]
 rfl
theorem ent_bad {D:Nat→Dm} {n:Nat} {l:List En} {k:Nat} (h:k<l.length) (he:entOne D n (l.getD k noEn)≠0):entFrom D n (qOf l k) (l.drop k)=entOne D n (l.getD k noEn):=by rw [ent_step h,if_pos he]
theorem ent_clash {D:Nat→Dm} {n:Nat} {l:List En} {k:Nat} (h:k<l.length) (he:entOne D n (l.getD k noEn)=0) (hq:aheadOk (qOf l k) (l.getD k noEn).pl=false):entFrom D n (qOf l k) (l.drop k)=7:=by rw [ent_step h,if_neg (by simpa using he),if_neg (by rw [hq];decide)]
theorem ent_on {D:Nat→Dm} {n:Nat} {l:List En} {k:Nat} (h:k<l.length) (he:entOne D n (l.getD k noEn)=0) (hq:aheadOk (qOf l k) (l.getD k noEn).pl=true):entFrom D n (qOf l k) (l.drop k)=entFrom D n (qOf l (k+1)) (l.drop (k+1)):=by rw [ent_step h,if_neg (by simpa using he),if_pos hq]
theorem ent_end {D:Nat→Dm} {n:Nat} {l:List En} {k:Nat} (h:l.length≤k):entFrom D n (qOf l k) (l.drop k)=0:=by
 rw [List.drop_eq_nil_of_le h]
 cases qOf l k <;> rfl
theorem ents_bad {D:Nat→Dm} {n:Nat} (l:List En) (h:(allErr D n).2.2≠0):entsErr D n l=(allErr D n).2.2:=by unfold entsErr;rw [if_pos h]
theorem ents_in {D:Nat→Dm} {n:Nat} (l:List En) (h:(allErr D n).2.2=0):entsErr D n l=entFrom D n (qOf l 0) (l.drop 0):=by unfold entsErr;rw [if_neg (by simpa using h)];rfl
theorem one_place {D:Nat→Dm} {n:Nat} {e:En} (hR:(allErr D n).2.2=0) (h:placeErr D n e.pl≠0):entOne D n e=placeErr D n e.pl:=by
 rw [pe1 hR] at h ⊢
 unfold entOne
 rw [if_pos h]
theorem one_leaf {D:Nat→Dm} {n:Nat} {e:En} (hR:(allErr D n).2.2=0) (h:placeErr D n e.pl=0) (hf:leafV D n e.pl=false):entOne D n e=6:=by
 rw [pe1 hR] at h
 unfold entOne
 rw [if_neg (by simpa using h),if_pos hf]
theorem one_num {D:Nat→Dm} {n:Nat} {e:En} (hR:(allErr D n).2.2=0) (h:placeErr D n e.pl=0) (hf:leafV D n e.pl=true):entOne D n e=if numOk e.n=false then 1 else 0:=by
 rw [pe1 hR] at h
 unfold entOne
 rw [if_neg (by simpa using h),if_neg (by simp [hf])]
end Go.Proofs.YtaodedckffjpgafGreatDoor
namespace Go.Proofs.YtaodedckffjpgafGreatDoor
open Go Go.ChangeShapes Go.WideShapes Go.ChangeAt Go.RowKit
set_option maxRecDepth 20000
theorem grown_refl (w:World) (r:Option Nat):w.grownBy w r:=⟨rfl,rfl,rfl,Nat.le_refl _,fun _ _ _=>rfl⟩
variable {P:Program}
end Go.Proofs.YtaodedckffjpgafGreatDoor
namespace Go.Proofs.YtaodedckffjpgafGreatDoor
open Go.ChangeShapes Go.WideShapes Go.ChangeAt Go.RowKit
set_option maxRecDepth 20000
theorem isnan_any (x:Int) (w:World):Calls Tryz.prog 198 #[.int .i64 x] w fun e w'=>e=.returned (.bool false)∧w'=w:=by
 go_enter Tryz.func198,Tryz.ntmps198
 go_wp2_with fail
 go_ret
 exact ⟨rfl,rfl⟩
def cmpI (x y:Int):Int:=if x<y then -1 else if y<x then 1 else 0
set_option maxHeartbeats 1000000 in
theorem compare_any (x y:Int) (w:World):Calls Tryz.prog 160 #[.int .i64 x,.int .i64 y] w fun e w'=>e=.returned (.int .i64 (cmpI x y))∧w'=w:=by
 have h1:=isnan_any x
 have h2:=isnan_any y
 by_cases hxy:x<y
 ·have HV:Hid (cmpI x y = -1):=by show _=_;unfold cmpI;rw [if_pos hxy]
  go_enter Tryz.func160,Tryz.ntmps160
  go_wp2_with fail
  refine (h1 _).mono ?_
  rintro e w1 ⟨rfl,rfl⟩
  go_wp2_with fail
  refine (h2 _).mono ?_
  rintro e w2 ⟨rfl,rfl⟩
  go_wp2_with fail
  go_ret
  rw [HV.out]
  exact ⟨rfl,rfl⟩
 ·by_cases hyx:y<x
  ·have HV:Hid (cmpI x y=1):=by show _=_;unfold cmpI;rw [if_neg hxy,if_pos hyx]
   go_enter Tryz.func160,Tryz.ntmps160
   go_wp2_with fail
   refine (h1 _).mono ?_
   rintro e w1 ⟨rfl,rfl⟩
   go_wp2_with fail
   refine (h2 _).mono ?_
   rintro e w2 ⟨rfl,rfl⟩
   go_wp2_with fail
   go_ret
   rw [HV.out]
   exact ⟨rfl,rfl⟩
  ·have HV:Hid (cmpI x y=0):=by show _=_;unfold cmpI;rw [if_neg hxy,if_neg hyx]
   have e:x=y:=by omega
   subst e
   go_enter Tryz.func160,Tryz.ntmps160
   go_wp2_with fail
   refine (h1 _).mono ?_
   rintro e w1 ⟨rfl,rfl⟩
   go_wp2_with fail
   refine (h2 _).mono ?_
   rintro e w2 ⟨rfl,rfl⟩
   go_wp2_with fail
   go_ret
   rw [HV.out]
   exact ⟨rfl,rfl⟩
set_option maxHeartbeats 2000000 in
theorem scompare_any (A B:Option Addr) (ca cb:Nat) (a b:List Int) (w:World) (ha:a.length≤4) (hb:b.length≤4) (hA:PlAt w A ca a) (hB:PlAt w B cb b):Calls Tryz.prog 128 #[.slice A a.length ca,.slice B b.length cb] w fun e w'=>e=.returned (.int .i64 (cmpL a b))∧w'=w:=by
 have HA:Hid (PlAt w A ca a):=hA
 have HB:Hid (PlAt w B cb b):=hB
 have HN:Hid (∀ k,k<a.length→k<b.length→cmpL (a.drop k) (b.drop k)=if a.getD k 0<b.getD k 0 then -1 else if b.getD k 0<a.getD k 0 then 1 else cmpL (a.drop (k+1)) (b.drop (k+1))):=fun k h1 h2=>cmpL_in h1 h2
 have HL:Hid (∀ k,k<a.length→b.length≤k→cmpL (a.drop k) (b.drop k)=1):=fun k h1 h2=>cmpL_long h1 h2
 have HS:Hid (∀ k,a.length≤k→k<b.length→cmpL (a.drop k) (b.drop k) = -1):=fun k h1 h2=>cmpL_short h1 h2
 have HE:Hid (∀ k,a.length≤k→b.length≤k→cmpL (a.drop k) (b.drop k)=0):=fun k h1 h2=>cmpL_end h1 h2
 obtain ⟨na,hna⟩:∃ na,a.length=na:=⟨_,rfl⟩
 obtain ⟨nb,hnb⟩:∃ nb,b.length=nb:=⟨_,rfl⟩
 have HNA:Hid (a.length=na):=hna
 have HNB:Hid (b.length=nb):=hnb
 rw [hna] at HN HL HS HE ha
 rw [hnb] at HN HL HS HE hb
 rw [hna,hnb]
 have ha':(na:Int)≤4:=by omega
 have hb':(nb:Int)≤4:=by omega
 clear hA hB hna hnb
 go_enter Tryz.func128,Tryz.ntmps128
 go_wp2_with fail
 go_loopg [11] na (fun g s11 wr => ∃ (k:Nat),k≤na∧k≤nb∧g=na-k∧s11=.int .i64 k∧Hid (cmpL (a.drop k) (b.drop k)=cmpL a b)∧wr=w)
 case atStart=>exact ⟨0,Nat.zero_le _,Nat.zero_le _,rfl,rfl,(rfl:cmpL (a.drop 0) (b.drop 0)=cmpL a b),rfl⟩
 case round =>
  obtain ⟨k,hk,hk2,rfl,rfl,HF,hw⟩:=hrel
  subst hw
  by_cases hlt:k<na
  ·obtain ⟨hc,h0 | ⟨g1,o1,rfl,hbw,hcell⟩⟩:=HA.out
   ·have:=HNA.out;rw [h0] at this;simp at this;omega
   have x1:=hcell k (by rw [HNA.out];exact hlt)
   have hki:(k:Int)<(na:Int):=by omega
   by_cases hlb:k<nb
   ·obtain ⟨hc',h0 | ⟨g2,o2,rfl,hbw2,hcell2⟩⟩:=HB.out
    ·have:=HNB.out;rw [h0] at this;simp at this;omega
    have x2:=hcell2 k (by rw [HNB.out];exact hlb)
    have hkb:(k:Int)<(nb:Int):=by omega
    have hst:=HN.out k hlt hlb
    have hcmp:=compare_any (a.getD k 0) (b.getD k 0) wr
    generalize a.getD k 0=x at x1 hst hcmp
    generalize b.getD k 0=y at x2 hst hcmp
    have HST:Hid (cmpL (a.drop k) (b.drop k)=if x<y then -1 else if y<x then 1 else cmpL (a.drop (k+1)) (b.drop (k+1))):=hst
    clear hcell hcell2 hst
    by_cases hxy:x<y
    ·have hv:cmpI x y = -1:=by unfold cmpI;rw [if_pos hxy]
     rw [hv] at hcmp
     have HR:Hid (cmpL a b = -1):=by show _=_;rw [←HF.out,HST.out,if_pos hxy]
     clear hv hxy
     go_wp2_with fail
     refine hcmp.mono ?_
     rintro e w1 ⟨rfl,rfl⟩
     go_wp2_with fail
     go_ret
     rw [HR.out]
     exact ⟨rfl,rfl⟩
    ·by_cases hyx:y<x
     ·have hv:cmpI x y=1:=by unfold cmpI;rw [if_neg hxy,if_pos hyx]
      rw [hv] at hcmp
      have HR:Hid (cmpL a b=1):=by show _=_;rw [←HF.out,HST.out,if_neg hxy,if_pos hyx]
      clear hv hxy hyx
      go_wp2_with fail
      refine hcmp.mono ?_
      rintro e w1 ⟨rfl,rfl⟩
      go_wp2_with fail
      go_ret
      rw [HR.out]
      exact ⟨rfl,rfl⟩
     ·have hv:cmpI x y=0:=by unfold cmpI;rw [if_neg hxy,if_neg hyx]
      rw [hv] at hcmp
      have HR:Hid (cmpL (a.drop (k+1)) (b.drop (k+1))=cmpL a b):=by show _=_;rw [←HF.out,HST.out,if_neg hxy,if_neg hyx]
      clear hv hxy hyx
      go_wp2_with fail
      refine hcmp.mono ?_
      rintro e w1 ⟨rfl,rfl⟩
      go_wp2_with fail
      go_roundg (na-(k+1))
      case measure=>omega
      case rel=>exact ⟨k+1,by omega,by omega,rfl,by go_num,HR,rfl⟩
   ·have HR:Hid (cmpL a b=1):=by show _=_;rw [←HF.out,HL.out k hlt (by omega)]
    have hkb:(nb:Int)≤(k:Int):=by omega
    clear hcell
    generalize a.getD k 0=x at x1
    go_wp2_with fail
    go_ret
    rw [HR.out]
    exact ⟨rfl,rfl⟩
  ·have hke:k=na:=by omega
   subst hke
   by_cases hlb:k<nb
   ·have HR:Hid (cmpL a b = -1):=by show _=_;rw [←HF.out,HS.out k (Nat.le_refl _) hlb]
    have hkb:(k:Int)<(nb:Int):=by omega
    go_wp2_with fail
    go_ret
    rw [HR.out]
    exact ⟨rfl,rfl⟩
   ·have HR:Hid (cmpL a b=0):=by show _=_;rw [←HF.out,HE.out k (Nat.le_refl _) (by omega)]
    have hkb:(nb:Int)≤(k:Int):=by omega
    go_wp2_with fail
    go_ret
    rw [HR.out]
    exact ⟨rfl,rfl⟩
theorem order_any (A B:Option Addr) (ca cb:Nat) (a b:List Int) (N:Int) (w:World) (ha:a.length≤4) (hb:b.length≤4) (hA:PlAt w A ca a) (hB:PlAt w B cb b):Calls Tryz.prog 84 #[.agg #[.slice A a.length ca,.int .i64 N],.slice B b.length cb] w fun e w'=>e=.returned (.int .i64 (cmpL a b))∧Below w.heap.size w w':=by
 have h0:∀ w',Below w.heap.size w w'→Calls Tryz.prog 128 #[.slice A a.length ca,.slice B b.length cb] w' fun e w''=>e=.returned (.int .i64 (cmpL a b))∧w''=w':=fun w' hw'=>scompare_any A B ca cb a b w' ha hb (hA.later hw') (hB.later hw')
 have H:Hid (∀ w',Below w.heap.size w w'→Calls Tryz.prog 128 #[.slice A a.length ca,.slice B b.length cb] w' fun e w''=>e=.returned (.int .i64 (cmpL a b))∧w''=w'):=h0
 generalize cmpL a b=c at H
 generalize a.length=na at H
 generalize b.length=nb at H
 clear hA hB h0 ha hb
 go_enter Tryz.func84,Tryz.ntmps84
 go_wp2_with fail
 refine (H.out _ (by go_grown)).mono ?_
 rintro e w1 ⟨rfl,rfl⟩
 go_wp2_with fail
 go_ret
 exact ⟨rfl,by go_grown⟩
theorem pair_set {w:World} {q:Nat} {x y a b:Value} {T:Nat} (h:w.heap[q]?=some (.cells #[x,y] T)):((w.setCell ⟨q,0,none⟩ a).setCell ⟨q,1,none⟩ b).heap[q]?=some (.cells #[a,b] T):=by
 simp [World.setCell,Array.getElem?_modify,h]
theorem pair_grown {w w':World} {q:Nat} {a b:Value} (h:w.grownBy w' (some q)):w.grownBy ((w'.setCell ⟨q,0,none⟩ a).setCell ⟨q,1,none⟩ b) (some q) :=
 ⟨h.os,h.tape,h.output,by simpa [World.setCell] using h.size,fun i hi hr=>(Below.heap_setCell _ ⟨q,1,none⟩ b i fun e=>hr (by rw [e])).trans ((Below.heap_setCell w' ⟨q,0,none⟩ a i fun e=>hr (by rw [e])).trans (h.block i hi hr))⟩
theorem grown_then {w w1 w2:World} {r:Option Nat} (h:w.grownBy w1 r) (k:Below w1.heap.size w1 w2):w.grownBy w2 r :=
 ⟨k.os.trans h.os,k.tape.trans h.tape,k.output.trans h.output,Nat.le_trans h.size k.size,fun i hi hr=>(k.block i (Nat.lt_of_lt_of_le hi h.size)).trans (h.block i hi hr)⟩
theorem pair_at {w:World} {q:Nat} {x y:Value} {T:Nat} (h:w.heap[q]?=some (.cells #[x,y] T)):w.cell? ⟨q,0,none⟩=some x∧w.cell? ⟨q,1,none⟩=some y∧w.frozen? ⟨q,0,none⟩=false∧w.frozen? ⟨q,1,none⟩=false :=
 ⟨by rw [Lib.cell_of_heap h];rfl,by rw [Lib.cell_of_heap h];rfl,Lib.frozen_of_heap h 0,Lib.frozen_of_heap h 1⟩
theorem take_part {M:Nat→Mem} {at':Int→Int×Int} {P:List Int} {k:Nat} (h:k<P.length):(P.take (k+1)).foldl (partStep M at') (0,0)=partStep M at' ((P.take k).foldl (partStep M at') (0,0)) (P.getD k 0):=by
 rw [List.take_succ_eq_append_getElem h,List.foldl_append,List.getD_eq_getElem?_getD,List.getElem?_eq_getElem h]
 rfl
def BoxN (w:World) (q:Nat) (v:Value):Prop:=q<w.heap.size∧w.cell? ⟨q,0,none⟩=some v
theorem BoxN.same {w w':World} {q:Nat} {v:Value} (h:BoxN w q v) (hz:w.heap.size≤w'.heap.size) (hb:w'.heap[q]?=w.heap[q]?):BoxN w' q v :=
 ⟨Nat.lt_of_lt_of_le h.1 hz,(World.cell?_of_block (a:=⟨q,0,none⟩) hb).trans h.2⟩
theorem BoxN.later {w w':World} {q:Nat} {v:Value} (h:BoxN w q v) (hB:Below w.heap.size w w'):BoxN w' q v:=h.same hB.size (hB.block q h.1)
theorem cel_grown {w w':World} {g i j:Nat} {a b:Value} (h:w.grownBy w' (some g)):w.grownBy ((w'.setCell ⟨g,i,none⟩ a).setCell ⟨g,j,none⟩ b) (some g) :=
 ⟨h.os,h.tape,h.output,by simpa [World.setCell] using h.size,fun k hk hr=>(Below.heap_setCell _ ⟨g,j,none⟩ b k fun e=>hr (by rw [e])).trans ((Below.heap_setCell w' ⟨g,i,none⟩ a k fun e=>hr (by rw [e])).trans (h.block k hk hr))⟩
theorem boxn_other {w w':World} {q g:Nat} {v:Value} (h:BoxN w q v) (hne:q≠g) (hG:w.grownBy w' (some g)):BoxN w' q v:=h.same hG.size (hG.block q h.1 fun e=>hne (by simpa using e))
end Go.Proofs.YtaodedckffjpgafGreatDoor
namespace Go.Proofs.YtaodedckffjpgafGreatDoor
open Go.ChangeShapes Go.WideShapes Go.ChangeAt Go.RowKit
def At (s:Nat) (k n:Int) (w:World):Prop:=s<w.heap.size∧w.cell? ⟨s,0,none⟩=some (.int .i64 k)∧w.cell? ⟨s,1,none⟩=some (.int .i64 n)
theorem At.new (k n:Int) (w:World) (T:Nat):At w.heap.size k n (w.alloc (.cells #[.int .i64 k,.int .i64 n] T)):=⟨by simp,by simp,by simp⟩
theorem At.set {s:Nat} {k n:Int} {w:World} {u v:Value} (hs:s<w.heap.size) (h0:w.cell? ⟨s,0,none⟩=some u) (h1:w.cell? ⟨s,1,none⟩=some v):At s k n ((w.setCell ⟨s,0,none⟩ (.int .i64 k)).setCell ⟨s,1,none⟩ (.int .i64 n)):=by
 refine ⟨by simpa using hs,?_,?_⟩ <;> simp [go_sem,h0,h1]
end Go.Proofs.YtaodedckffjpgafGreatDoor
