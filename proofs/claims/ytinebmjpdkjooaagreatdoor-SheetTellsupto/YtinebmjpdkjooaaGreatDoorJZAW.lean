/-
  The document's own reader of formulas (tallyref2.Input) in memory: where it is, whether it went wrong, its nodes in a row of its own; what in and rank tell.
-/
import Derived.Deep.CutBlock
import Derived.Test.YtinebmjpdkjooaaGreatDoorJZAS
import Derived.Test.YtinebmjpdkjooaaGreatDoorJZAU
namespace Go.Proofs.YtinebmjpdkjooaaGreatDoor
open Go.ChangeShapes Go.WideShapes Go.ChangeAt Go.RowKit
set_option maxRecDepth 20000
def InV (w:World) (q:Nat) (s:ByteArray) (a:Nat) (bad:Bool) (v:Value):Prop:=w.heap[q]?=some (.cells #[.string s,.int .i64 a,.bool bad,v] 189 (0,0))
section
variable {w w':World} {q a:Nat} {s:ByteArray} {bad:Bool} {v:Value}
theorem InV.lt (h:InV w q s a bad v):q<w.heap.size:=(Array.getElem?_eq_some_iff.1 h).1
theorem InV.c0 (h:InV w q s a bad v):w.cell? ⟨q,0,none⟩=some (.string s):=by unfold InV at h;simp [World.cell?,h]
theorem InV.c1 (h:InV w q s a bad v):w.cell? ⟨q,1,none⟩=some (.int .i64 a):=by unfold InV at h;simp [World.cell?,h]
theorem InV.c2 (h:InV w q s a bad v):w.cell? ⟨q,2,none⟩=some (.bool bad):=by unfold InV at h;simp [World.cell?,h]
theorem InV.c3 (h:InV w q s a bad v):w.cell? ⟨q,3,none⟩=some v:=by unfold InV at h;simp [World.cell?,h]
theorem InV.fr (h:InV w q s a bad v) (j:Nat):w.frozen? ⟨q,j,none⟩=false:=by unfold InV at h;simp [World.frozen?,h]
theorem InV.later (h:InV w q s a bad v) (hB:Below w.heap.size w w'):InV w' q s a bad v:=(hB.block q h.lt).trans h
theorem InV.same (h:InV w q s a bad v) (hB:w'.heap[q]?=w.heap[q]?):InV w' q s a bad v:=hB.trans h
theorem InV.set1 (h:InV w q s a bad v) (n:Nat):InV (w.setCell ⟨q,1,none⟩ (.int .i64 n)) q s n bad v:=by
 unfold InV at *
 rw [setCell_eq_setRow w q 1 _ _ (0,0) _ h,setRow_heap w q _ _ _ _ h]
 rfl
theorem InV.set2 (h:InV w q s a bad v) (b:Bool):InV (w.setCell ⟨q,2,none⟩ (.bool b)) q s a b v:=by
 unfold InV at *
 rw [setCell_eq_setRow w q 2 _ _ (0,0) _ h,setRow_heap w q _ _ _ _ h]
 rfl
theorem InV.set3 (h:InV w q s a bad v) (u:Value):InV (w.setCell ⟨q,3,none⟩ u) q s a bad u:=by
 unfold InV at *
 rw [setCell_eq_setRow w q 3 _ _ (0,0) _ h,setRow_heap w q _ _ _ _ h]
 rfl
end
set_option maxHeartbeats 1000000 in
theorem in_bad (q a:Nat) (s:ByteArray) (v:Value) (lo hi:Int) (w:World) (hI:InV w q s a true v):Calls Tryz.prog 173 #[.pointer (some ⟨q,0,none⟩),.int .u8 lo,.int .u8 hi] w fun e w'=>e=.returned (.bool false)∧Below w.heap.size w w':=by
 have c0:=hI.c0
 have c1:=hI.c1
 have c2:=hI.c2
 have hq:=hI.lt
 clear hI
 go_enter Tryz.func173,Tryz.ntmps173
 go_wp2_with fail
 go_quiet (fail)
 go_wp2_with fail
 go_ret
 exact ⟨rfl,below_drewN (Below.refl _ _) _⟩
set_option maxHeartbeats 1000000 in
theorem in_any (q a:Nat) (s:ByteArray) (v:Value) (lo hi:Int) (w:World) (hl:0<lo) (ha:a≤s.size) (hI:InV w q s a false v):Calls Tryz.prog 173 #[.pointer (some ⟨q,0,none⟩),.int .u8 lo,.int .u8 hi] w fun e w'=>e=.returned (.bool (decide (lo≤nextB s a) && decide (nextB s a≤hi)))∧Below w.heap.size w w':=by
 have c0:=hI.c0
 have c1:=hI.c1
 have c2:=hI.c2
 have hq:=hI.lt
 clear hI
 by_cases he:a=s.size
 ·subst he
  have h0:nextB s s.size=0:=by simp [nextB]
  rw [h0,decide_eq_false (by omega),Bool.false_and]
  go_enter Tryz.func173,Tryz.ntmps173
  go_wp2_with fail
  go_quiet (fail)
  go_wp2_with fail
  go_ret
  exact ⟨rfl,below_drewN (Below.refl _ _) _⟩
 ·have hlt:a<s.size:=by omega
  have hai:(a:Int)<(s.size:Int):=by omega
  have h0:nextB s a=byteN s a:=by simp [nextB,he]
  have hby:=byteN_get s a hlt
  rw [h0]
  by_cases h1:lo≤byteN s a
  ·rw [decide_eq_true h1,Bool.true_and]
   go_enter Tryz.func173,Tryz.ntmps173
   go_wp2_with fail
   go_quiet (fail)
   go_wp2_with fail
   go_ret
   exact ⟨by first | rfl | simp,below_drewN (Below.refl _ _) _⟩
  ·rw [decide_eq_false h1,Bool.false_and]
   have h1':byteN s a<lo:=by omega
   have hd1:decide (lo≤byteN s a)=false:=decide_eq_false h1
   have hd2:decide (byteN s a<lo)=true:=decide_eq_true h1'
   clear h1
   go_enter Tryz.func173,Tryz.ntmps173
   go_wp2_with fail
   go_quiet (fail)
   go_wp2_with fail
   go_ret
   exact ⟨rfl,below_drewN (Below.refl _ _) _⟩
theorem rank_any (op:Int) (w:World):Calls Tryz.prog 151 #[.int .i64 op] w fun e w'=>e=.returned (.int .i64 (bindN op))∧Below w.heap.size w w':=by
 unfold bindN
 by_cases h3:op=3
 ·subst h3
  go_enter Tryz.func151,Tryz.ntmps151
  go_wp2
  go_ret
  exact ⟨by simp,by go_grown⟩
 by_cases h4:op=4
 ·subst h4
  go_enter Tryz.func151,Tryz.ntmps151
  go_wp2
  go_ret
  exact ⟨by simp,by go_grown⟩
 by_cases h5:op=5
 ·subst h5
  go_enter Tryz.func151,Tryz.ntmps151
  go_wp2
  go_ret
  exact ⟨by simp,by go_grown⟩
 by_cases h6:op=6
 ·subst h6
  go_enter Tryz.func151,Tryz.ntmps151
  go_wp2
  go_ret
  exact ⟨by simp,by go_grown⟩
 rw [if_neg (by omega),if_neg (by omega)]
 have e3:(op == 3)=false:=by simpa using h3
 have e4:(op == 4)=false:=by simpa using h4
 have e5:(op == 5)=false:=by simpa using h5
 have e6:(op == 6)=false:=by simpa using h6
 clear h3 h4 h5 h6
 go_enter Tryz.func151,Tryz.ntmps151
 go_wp2
 go_ret
 exact ⟨rfl,by go_grown⟩
def OutS (s:ByteArray) (q base k a:Nat) (L:List Nd) (w:World) (e:Ending) (w':World):Prop :=
 Kept base (fun j=>j=q) w w'∧((∃ (a':Nat) (t:Tre) (v':Value),e=.returned (.int .i64 ((L.length+sizT t-1:Nat):Int))∧Rds s k a a' t∧NoSg s k a'∧InV w' q s a' false v'∧w'.ownsRow base 146 5 v' (L ++ post t L.length).length (cellsN (L ++ post t L.length))∧a+sizT t≤a')
  ∨ (∃ (i:Int) (a':Nat) (v':Value) (L':List Nd),e=.returned (.int .i64 i)∧Fls s a a'∧InV w' q s a' true v'∧w'.ownsRow base 146 5 v' L'.length (cellsN L')))
def SumC (s:ByteArray) (q base k a:Nat):Prop := ∀ (v:Value) (L:List Nd) (w:World),InV w q s a false v→q<base→base≤w.heap.size→w.ownsRow base 146 5 v L.length (cellsN L)→L.length≤a→Calls Tryz.prog 118 #[.pointer (some ⟨q,0,none⟩),.int .i64 k] w fun e w'=>OutS s q base k a L w e w'
def OneC (s:ByteArray) (q base a:Nat):Prop := ∀ (v:Value) (L:List Nd) (w:World),InV w q s a false v→q<base→base≤w.heap.size→w.ownsRow base 146 5 v L.length (cellsN L)→L.length≤a→Calls Tryz.prog 150 #[.pointer (some ⟨q,0,none⟩)] w fun e w'=>OutS s q base 3 a L w e w'
theorem nosg3 (s:ByteArray) (a:Nat):NoSg s 3 a:=fun _=>by
 by_cases h:signI (nextB s a)<0
 ·exact Or.inl h
 ·right
  rcases sgn_four h with ⟨-,e⟩ | ⟨-,e⟩ | ⟨-,e⟩ | ⟨-,e⟩ <;> rw [e] <;> decide
theorem kept_set {N:Nat} {q j:Nat} {w:World} {v:Value}:Kept N (fun i=>i=q) w (w.setCell ⟨q,j,none⟩ v) :=
 ⟨rfl,rfl,rfl,by simp,fun k _ hk=>setCell_off w q j k v hk⟩
theorem own_off {w:World} {base q j:Nat} {v u:Value} {n:Nat} {xs:List Value} {e size:Nat} (h:w.ownsRow base e size v n xs) (hq:q<base):(w.setCell ⟨q,j,none⟩ u).ownsRow base e size v n xs :=
 own_keep h fun g hg=>setCell_off _ _ _ _ _ (by have:=(own_block h hg).1;omega)
theorem lead_ge {p:Int→Bool} {t:ByteArray} {m:Nat} (h1:∀ i,i<m→p (byteN t i)=true) (hm:m≤t.size):∀ (f i:Nat),i≤m→i+f=t.size→m≤leadTo p t f i
 | 0,i,hi,hf=>by rw [leadTo];omega
 | f+1,i,hi,hf=>by
  by_cases e:i=m
  ·subst e
   exact (leadTo_all p t (f+1) i).1
  ·rw [lead_hit (h1 i (by omega))]
   exact lead_ge h1 hm f (i+1) (by omega) (by omega)
section
variable {s:ByteArray} {a k:Nat}
theorem ext_byte {i:Nat} (h:a+i<s.size):byteN (s.extract a s.size) i=nextB s (a+i):=by
 rw [byteN_ext (by omega),nextB,if_neg (by omega)]
theorem digs_stop (hk1:1≤k) (hak:a+k≤s.size) (hall:∀ i,i<k→digB (nextB s (a+i))=true) (hz:nextB s a≠48) (hst:k=7∨digB (nextB s (a+k))=false) (hk7:k≤7):digitsN s a=k:=by
 have hsz:=tail_size s a
 have h1:∀ i,i<k→digB (byteN (s.extract a s.size) i)=true:=fun i hi=>by rw [ext_byte (by omega)];exact hall i hi
 unfold digitsN
 rw [if_neg hz]
 by_cases e:k=7
 ·have:=lead_ge h1 (by rw [hsz];omega) (s.extract a s.size).size 0 (Nat.zero_le _) (Nat.zero_add _)
  unfold leadN
  omega
 ·have hst':=hst.resolve_left e
  have:leadN digB (s.extract a s.size)=k:=by
   refine leadTo_exact h1 ?_ _ 0 (Nat.zero_le _) (Nat.zero_add _)
   by_cases e2:a+k=s.size
   ·left;rw [hsz];omega
   ·right;rw [ext_byte (by omega)];exact hst'
  omega
theorem digs_zero (hz:nextB s a=48):digitsN s a=1:=by unfold digitsN;rw [if_pos hz]
theorem lets_stop (hak:a+k≤s.size) (hall:∀ i,i<k→letB (nextB s (a+i))=true) (hst:letB (nextB s (a+k))=false):leadN letB (s.extract a s.size)=k:=by
 have hsz:=tail_size s a
 refine leadTo_exact (fun i hi=>by rw [ext_byte (by omega)];exact hall i hi) ?_ _ 0 (Nat.zero_le _) (Nat.zero_add _)
 by_cases e2:a+k=s.size
 ·left;rw [hsz];omega
 ·right;rw [ext_byte (by omega)];exact hst
theorem ten_small:∀ k,k<7→(10:Int) ^ k≤1000000:=by decide
theorem numW_none:numW (s.extract a (a+0))=0:=by
 have:(s.extract a (a+0)).size=0:=by rw [ByteArray.size_extract];omega
 rw [name_empty this]
 rfl
theorem numW_more (h:a+k<s.size):numW (s.extract a (a+(k+1)))=numW (s.extract a (a+k))*10+(nextB s (a+k)-48):=by
 have e:(s.extract a (a+(k+1))).data.toList=(s.extract a (a+k)).data.toList ++ [s[a+k]]:=by
  apply List.ext_getElem?
  intro i
  rw [List.getElem?_append]
  simp only [ByteArray.data_extract,Array.toList_extract,List.extract_eq_take_drop,List.getElem?_take,List.getElem?_drop,List.length_take,List.length_drop,Array.length_toList]
  have hsz:s.data.size=s.size:=rfl
  by_cases h1:i<k
  ·rw [if_pos (by omega),if_pos (by omega),if_pos (by omega)]
  ·by_cases h2:i=k
   ·subst h2
    rw [if_pos (by omega),if_neg (by omega)]
    have h3:i-min (a+i-a) (s.data.size-a)=0:=by omega
    rw [h3]
    simp [List.getElem?_eq_getElem (show a+i<s.data.toList.length by simpa using h)]
    rfl
   ·rw [if_neg (by omega),if_neg (by omega)]
    rw [List.getElem?_eq_none (by simp;omega)]
 unfold numW
 rw [e,List.foldl_append]
 have hb:=byteN_get s (a+k) h
 rw [nextB,if_neg (by omega),←hb]
 rfl
end
section
variable {w w4 W w6:World} {base q a a1 m:Nat} {v v':Value} {s wd:ByteArray} {L:List Nd} {x:Nd}
theorem app_at (hI:InV w q s a1 false v) (hO:w.ownsRow base 146 5 v m (cellsN L)) (hqb:q<base) (hb:Below w.heap.size w W) (hg:W.grownBy w6 v.ownBlock):InV w6 q s a1 false v :=
 hI.same ((hg.block q (Nat.lt_of_lt_of_le hI.lt hb.size) (fun e=>by have:=(own_block hO e.symm).1;omega)).trans (hb.block q hI.lt))
theorem app_out (hI:InV w q s a1 false v) (hO:w.ownsRow base 146 5 v m (cellsN L)) (hqb:q<base) (hbw:base≤w.heap.size) (hb:Below w.heap.size w W) (hg:W.grownBy w6 v.ownBlock) (ho:w6.ownsRow base 146 5 v' (m+1) (cellsN L ++ cellsNd1 x)) :
  InV (w6.setCell ⟨q,3,none⟩ v') q s a1 false v'∧(w6.setCell ⟨q,3,none⟩ v').ownsRow base 146 5 v' (m+1) (cellsN (L ++ [x]))∧Kept base (fun j=>j=q) w (w6.setCell ⟨q,3,none⟩ v'):=by
 refine ⟨(app_at hI hO hqb hb hg).set3 _,own_off (by rw [cellsN_snoc];exact ho) hqb,?_⟩
 have hk1:Kept base (fun j=>j=q) w w6:=⟨hg.os.trans hb.os,hg.tape.trans hb.tape,hg.output.trans hb.output,Nat.le_trans hb.size hg.size,fun k hk _=>(hg.block k (by have:=hb.size;omega) (fun e=>by have:=(own_block hO e.symm).1;omega)).trans (hb.block k (by omega))⟩
 exact hk1.trans kept_set
theorem out_leaf (hL:L.length=m) (hR:Rds s 3 a a1 (leafT wd)) (hK:Kept base (fun j=>j=q) w w4) (hI:InV w4 q s a1 false v) (hO:w4.ownsRow base 146 5 v m (cellsN L)) (hqb:q<base) (hbw:base≤w4.heap.size) (hb:Below w4.heap.size w4 W) (hg:W.grownBy w6 v.ownBlock) (ho:w6.ownsRow base 146 5 v' (m+1) (cellsN L ++ cellsNd1 (opndN wd))) :
  OutS s q base 3 a L w (.returned (.int .i64 (m:Int))) (w6.setCell ⟨q,3,none⟩ v'):=by
 obtain ⟨h1,h2,h3⟩:=app_out hI hO hqb hbw hb hg ho
 obtain ⟨p1,p2⟩:=leaf_opnd wd L.length
 refine ⟨hK.trans h3,Or.inl ⟨a1,leafT wd,_,by rw [p2,Nat.add_sub_cancel,hL],hR,nosg3 _ _,h1,?_,by rw [p2];have:=hR.1;omega⟩⟩
 rw [p1,List.length_append,hL]
 exact h2
end
set_option maxHeartbeats 4000000 in
theorem one_dig (s:ByteArray) (q base a:Nat) (hs:s.size≤100) (ha:a≤s.size) (hd:digB (nextB s a)=true):OneC s q base a:=by
 intro v L w hI hqb hbw hown hLa
 have HI:Hid (InV w q s a false v):=hI
 have HOw:=hid_of hown
 have c0:=hI.c0
 have c1:=hI.c1
 have c2:=hI.c2
 have hq:=hI.lt
 have i1:=fun w' (hb:Below w.heap.size w w')=>in_any q a s v 48 57 w' (by omega) ha (hI.later hb)
 have i2:=fun w' (hb:Below w.heap.size w w')=>in_any q a s v 97 122 w' (by omega) ha (hI.later hb)
 have i3:=fun w' (hb:Below w.heap.size w w')=>in_any q a s v 40 40 w' (by omega) ha (hI.later hb)
 have e1:(decide (48≤nextB s a) && decide (nextB s a≤57))=digB (nextB s a):=rfl
 have e2:(decide (97≤nextB s a) && decide (nextB s a≤122))=letB (nextB s a):=rfl
 rw [e1] at i1
 rw [e2] at i2
 have hsi:(s.size:Int)≤100:=by omega
 have hai:(a:Int)≤(s.size:Int):=by omega
 clear hI hown e1 e2
 have hle:letB (nextB s a)=false:=by unfold digB at hd;unfold letB;simp at hd ⊢;omega
 have h40:nextB s a≠40:=by intro e;rw [e] at hd;revert hd;decide
 have e3:(decide (40≤nextB s a) && decide (nextB s a≤40))=false:=by simp;omega
 have hlt:a<s.size:=next_zero (fun e=>by rw [e] at hd;revert hd;decide) ha
 rw [hd] at i1
 rw [hle] at i2
 rw [e3] at i3
 have HD:=hid_of hd
 clear hd hle h40 e3
 go_enter Tryz.func150,Tryz.ntmps150
 go_wp2_with fail
 refine (i1 _ (Below.refl _ _)).mono ?_
 rintro e w1 ⟨rfl,hb1⟩
 have HB1:=hid_of hb1
 clear hb1
 go_wp2_with fail
 refine (i2 _ HB1.out).mono ?_
 rintro e w2 ⟨rfl,hb2⟩
 have HB2:=hid_of (onB HB1.out hb2)
 clear hb2
 go_wp2_with fail
 refine (i3 _ HB2.out).mono ?_
 rintro e w3 ⟨rfl,hb3⟩
 have HB3:=hid_of (onB HB2.out hb3)
 have HI3:=hid_of (HI.out.later HB3.out)
 have HO3:=hid_of (own_later HOw.out HB3.out)
 have HS3:=hid_of (Nat.le_trans hbw HB3.out.size)
 clear hb3 i1 i2 i3 c0 c1 c2
 have d0:=HI3.out.c0
 have d1:=HI3.out.c1
 have hby:=byteN_get s a hlt
 have hnx:nextB s a=byteN s a:=by rw [nextB,if_neg (by omega)]
 obtain ⟨AL,cL,hv⟩:=own_form HO3.out
 subst hv
 go_wp2_with fail
 go_quiet (fail)
 obtain ⟨W3,hW3⟩:∃ W3,w3.drewN nq=W3:=⟨_,rfl⟩
 have hbW:Below w3.heap.size w3 W3:=by rw [←hW3];exact below_drewN (Below.refl _ _) _
 have HIW:=hid_of (HI3.out.later hbW)
 have HOW:=hid_of (own_later HO3.out hbW)
 have HKW:Hid (Kept base (fun j=>j=q) w W3):=kept_below (onB HB3.out hbW) hbw
 rw [hW3]
 obtain ⟨z,hz⟩:∃ z,(byteN s a == 48)=z:=⟨_,rfl⟩
 have HZ:Hid ((nextB s a == 48)=z):=by show _=_;rw [hnx];exact hz
 have HZ0:=hid_of hz
 clear hW3 hbW d0 d1 hz
 go_upto_block 0 with fail
 rw [HZ0.out]
 go_cut [8,9] from 12 (fun s8 s9 wx=>s8=.int .i64 (numW (s.extract a (a+digitsN s a)))∧InV wx q s (a+digitsN s a) false (.slice AL L.length cL)∧wx.ownsRow base 146 5 (.slice AL L.length cL) L.length (cellsN L)∧Kept base (fun j=>j=q) w wx)
 case first=>as_aux_lemma =>
  go_wp2_with fail
  go_loopg [8,9] 7 (fun g s8 s9 wr => ∃ (k:Nat),k≤7∧g=7-k∧a+k≤s.size∧s8=.int .i64 (numW (s.extract a (a+k)))∧s9=.int .i64 k∧(0≤numW (s.extract a (a+k))∧numW (s.extract a (a+k))+1≤10 ^ k)∧(z=true→k≤1)∧(∀ i,i<k→digB (nextB s (a+i))=true)∧InV wr q s (a+k) false (.slice AL L.length cL)∧wr.ownsRow base 146 5 (.slice AL L.length cL) L.length (cellsN L)∧Kept base (fun j=>j=q) w wr)
  case atStart=>exact ⟨0,by omega,rfl,by omega,by rw [numW_none],rfl,by rw [numW_none];decide,fun _=>by omega,fun i hi=>absurd hi (Nat.not_lt_zero i),HIW.out,HOW.out,HKW.out⟩
  case round =>
   obtain ⟨k,hk7,rfl,hak,rfl,rfl,hnb,hzk,hall,hIr,hOr,hKr⟩:=hrel
   have HNb:=hid_of hnb
   have HZk:=hid_of hzk
   have HAl:=hid_of hall
   have HIr:=hid_of hIr
   have HOr:=hid_of hOr
   have HKr:=hid_of hKr
   have hbr:base≤wr.heap.size:=Nat.le_trans hbw hKr.size
   obtain ⟨nk,hnk⟩:∃ nk,numW (s.extract a (a+k))=nk:=⟨_,rfl⟩
   have HNk:=hid_of hnk
   rw [hnk]
   have i5:=in_any q (a+k) s (.slice AL L.length cL) 48 57 wr (by omega) hak hIr
   have e5:(decide (48≤nextB s (a+k)) && decide (nextB s (a+k)≤57))=digB (nextB s (a+k)):=rfl
   rw [e5] at i5
   clear hnb hzk hall hIr hOr hKr hnk e5
   by_cases hk:k<7
   ·have hki:(k:Int)<7:=by omega
    cases hdk:digB (nextB s (a+k))
    ·have HDk:=hid_of hdk
     have HEnd:Hid (digitsN s a=k):=by
      show _=_
      have hk1:1≤k:=by
       apply Nat.pos_of_ne_zero
       intro e
       subst e
       rw [Nat.add_zero] at hdk
       rw [HD.out] at hdk
       cases hdk
      by_cases hz1:nextB s a=48
      ·have hzt:z=true:=by rw [←HZ.out];simpa using hz1
       have:=HZk.out hzt
       rw [digs_zero hz1];omega
      ·exact digs_stop hk1 hak HAl.out hz1 (Or.inr hdk) hk7
     rw [hdk] at i5
     clear hdk
     go_wp2_with fail
     refine i5.mono ?_
     rintro e w4 ⟨rfl,hb4⟩
     have HB4:=hid_of hb4
     clear hb4 i5
     go_wp2_with fail
     go_meet
     rw [HEnd.out]
     exact ⟨by rw [HNk.out],HIr.out.later HB4.out,own_later HOr.out HB4.out,HKr.out.trans (kept_below HB4.out hbr)⟩
    ·have HDk:=hid_of hdk
     have hlk:a+k<s.size:=next_zero (fun e=>by rw [e] at hdk;revert hdk;decide) hak
     rw [hdk] at i5
     clear hdk
     by_cases hzb:z=true∧0<k
     ·obtain ⟨hz1,hk0⟩:=hzb
      have hki0:0<(k:Int):=by omega
      have HEnd:Hid (digitsN s a=k):=by
       show _=_
       have:=HZk.out hz1
       have h48:nextB s a=48:=by have:=HZ.out;rw [hz1] at this;simpa using this
       rw [digs_zero h48];omega
      subst hz1
      go_wp2_with fail
      refine i5.mono ?_
      rintro e w4 ⟨rfl,hb4⟩
      have HB4:=hid_of hb4
      clear hb4 i5
      go_wp2_with fail
      go_meet
      rw [HEnd.out]
      exact ⟨by rw [HNk.out],HIr.out.later HB4.out,own_later HOr.out HB4.out,HKr.out.trans (kept_below HB4.out hbr)⟩
     ·have HZ1:Hid (z=true→k+1≤1):=fun e=>by
       have : ¬ 0<k:=fun h=>hzb ⟨e,h⟩
       omega
      obtain ⟨p,hp⟩:∃ p,a+k=p:=⟨_,rfl⟩
      have HP:=hid_of hp
      have hlp:p<s.size:=by omega
      have hlpi:(p:Int)<(s.size:Int):=by omega
      have hby2:=byteN_get s p hlp
      have HNx:Hid (nextB s (a+k)=byteN s p):=by show _=_;rw [nextB,if_neg (by omega),hp]
      have hdr:48≤byteN s p∧byteN s p≤57:=by have h:=HDk.out;rw [HNx.out] at h;unfold digB at h;simpa using h
      obtain ⟨ch,hch⟩:∃ ch,byteN s p=ch:=⟨_,rfl⟩
      have HCh:=hid_of hch
      rw [hch] at hby2 hdr
      obtain ⟨d1,d2⟩:=hdr
      have h10:(10:Int) ^ k≤1000000:=ten_small k hk
      have n0:0≤nk:=by have:=HNb.out.1;rw [HNk.out] at this;exact this
      have n1:nk+1≤1000000:=by have:=HNb.out.2;rw [HNk.out] at this;omega
      have HStep:Hid (numW (s.extract a (a+(k+1)))=nk*10+ch-48):=by show _=_;rw [numW_more hlk,HNk.out,HNx.out,HCh.out];omega
      have HIp:Hid (InV wr q s p false (.slice AL L.length cL)):=by show InV _ _ _ _ _ _;rw [←hp];exact HIr.out
      have hzf:z=true→(k:Int)=0:=fun e=>by have:=HZ1.out e;omega
      clear hch
      have hqr:=HIr.out.lt
      have HIn:Hid (numW (s.extract a (a+(k+1)))+1≤10 ^ (k+1)∧0≤numW (s.extract a (a+(k+1)))):=by
       have h1:=HStep.out
       have h2:=HNb.out.2
       rw [HNk.out] at h2
       have h3:(10:Int) ^ (k+1)=10 ^ k*10:=Int.pow_succ ..
       show _∧_
       rw [h1,h3]
       omega
      have fin:∀ (w5:World),Below wr.heap.size wr w5→InV (w5.setCell ⟨q,1,none⟩ (.int .i64 ((p:Int)+1))) q s (a+(k+1)) false (.slice AL L.length cL)∧(w5.setCell ⟨q,1,none⟩ (.int .i64 ((p:Int)+1))).ownsRow base 146 5 (.slice AL L.length cL) L.length (cellsN L)∧Kept base (fun j=>j=q) w (w5.setCell ⟨q,1,none⟩ (.int .i64 ((p:Int)+1))):=fun w5 hb5=>by
       refine ⟨?_,own_off (own_later HOr.out hb5) hqb,(HKr.out.trans (kept_below hb5 hbr)).trans kept_set⟩
       rw [show a+(k+1)=p+1 by omega]
       exact (HIp.out.later hb5).set1 (p+1)
      have HFin:=hid_of fin
      have HAll:Hid (∀ i,i<k+1→digB (nextB s (a+i))=true):=fun i hi=>by
       by_cases e:i=k
       ·rw [e];exact HDk.out
       ·exact HAl.out i (by omega)
      clear fin
      cases hzc:z
      ·have HZc:=hid_of hzc
       subst hzc
       go_wp2_with fail
       refine i5.mono ?_
       rintro e w4 ⟨rfl,hb4⟩
       have HB4:=hid_of hb4
       have d0:=(HIp.out.later hb4).c0
       have d1':=(HIp.out.later hb4).c1
       clear hb4 i5
       go_wp2_with fail
       go_quiet (fail)
       obtain ⟨W5,hW5⟩:∃ W5,w4.drewN nq=W5:=⟨_,rfl⟩
       have HB5:Hid (Below wr.heap.size wr W5):=by show Below _ _ _;rw [←hW5];exact below_drewN HB4.out _
       rw [hW5]
       have d3:=(HIp.out.later HB5.out).c1
       have d4:=(HIp.out.later HB5.out).fr 1
       have d5:=(HIp.out.later HB5.out).lt
       clear hW5 d0 d1'
       go_wp2_with fail
       go_roundg (7-(k+1))
       case measure=>omega
       case rel =>
        obtain ⟨x1,x2,x3⟩:=HFin.out _ HB5.out
        exact ⟨k+1,by omega,rfl,by omega,by rw [HStep.out],by go_num,HIn.out.symm,HZ1.out,HAll.out,x1,x2,x3⟩
      ·have hk0:k=0:=by have:=HZ1.out hzc;omega
       have hk0i:decide (0<(k:Int))=false:=by rw [hk0];rfl
       subst hzc
       go_wp2_with fail
       refine i5.mono ?_
       rintro e w4 ⟨rfl,hb4⟩
       have HB4:=hid_of hb4
       have d0:=(HIp.out.later hb4).c0
       have d1':=(HIp.out.later hb4).c1
       clear hb4 i5
       go_wp2_with fail
       go_quiet (fail)
       obtain ⟨W5,hW5⟩:∃ W5,w4.drewN nq=W5:=⟨_,rfl⟩
       have HB5:Hid (Below wr.heap.size wr W5):=by show Below _ _ _;rw [←hW5];exact below_drewN HB4.out _
       rw [hW5]
       have d3:=(HIp.out.later HB5.out).c1
       have d4:=(HIp.out.later HB5.out).fr 1
       have d5:=(HIp.out.later HB5.out).lt
       clear hW5 d0 d1'
       go_wp2_with fail
       go_roundg (7-(k+1))
       case measure=>omega
       case rel =>
        obtain ⟨x1,x2,x3⟩:=HFin.out _ HB5.out
        exact ⟨k+1,by omega,rfl,by omega,by rw [HStep.out],by go_num,HIn.out.symm,HZ1.out,HAll.out,x1,x2,x3⟩
   ·have hk7':k=7:=by omega
    subst hk7'
    have HEnd:Hid (digitsN s a=7):=by
     show _=_
     by_cases hz1:nextB s a=48
     ·have hzt:z=true:=by rw [←HZ.out];simpa using hz1
      have:=HZk.out hzt
      omega
     ·exact digs_stop (by omega) hak HAl.out hz1 (Or.inl rfl) hk7
    clear i5
    go_wp2_with fail
    go_meet
    rw [HEnd.out]
    exact ⟨by rw [HNk.out],HIr.out,HOr.out,HKr.out⟩
 case rest =>
  obtain ⟨rfl,hIc,hOc,hKc⟩:=hcut
  obtain ⟨w4,rfl⟩:∃ wx:World,wx=wc:=⟨_,rfl⟩
  obtain ⟨i1,hj0,hj1,hj2,hj3⟩:=info_parts Tryz.infoNdF
  have HR:=hid_of (rds_dig ha HD.out)
  have hnd:opndN (s.extract a (a+digitsN s a))=⟨1,numW (s.extract a (a+digitsN s a)),⟨#[]⟩,0,0⟩:=by
   have h1:=word_first hlt (dig_pos ha HD.out).1
   have h2:=HD.out
   unfold digB at h2
   unfold opndN
   rw [h1,if_neg (by simp at h2;omega)]
  obtain ⟨m,hm⟩:∃ m,L.length=m:=⟨_,rfl⟩
  obtain ⟨nn,hnn⟩:∃ nn,numW (s.extract a (a+digitsN s a))=nn:=⟨_,rfl⟩
  have HM:=hid_of hm
  have hm1:(m:Int)≤100:=by omega
  rw [hm] at hIc hOc
  rw [hnn] at hnd ⊢
  have hb4:base≤w4.heap.size:=Nat.le_trans hbw hKc.size
  have HSt:Hid (∀ (W w6:World) (v':Value),Below w4.heap.size w4 W→W.grownBy w6 (Value.slice AL m cL).ownBlock→w6.ownsRow base 146 5 v' (m+1) (cellsN L ++ cellsNd1 ⟨1,nn,⟨#[]⟩,0,0⟩)→OutS s q base 3 a L w (.returned (.int .i64 (m:Int))) (w6.setCell ⟨q,3,none⟩ v')∧(w6.cell? ⟨q,3,none⟩=some (.slice AL m cL)∧w6.frozen? ⟨q,3,none⟩=false)∧q<w6.heap.size):=by
   intro W w6 v' hb hg ho
   have h:=app_at hIc hOc hqb hb hg
   exact ⟨out_leaf HM.out HR.out hKc hIc hOc hqb hb4 hb hg (by rw [hnd];exact ho),⟨h.c3,h.fr 3⟩,h.lt⟩
  have HO1:Hid (∀ w',Below w4.heap.size w4 w'→w'.ownsRow base 146 5 (.slice AL m cL) m (cellsN L)):=fun w' hb=>own_later hOc hb
  have d3:=hIc.c3
  have d4:=hIc.fr 3
  have d5:=hIc.lt
  clear hIc hOc hKc hnd hnn hm
  go_wp2_with (at_builtin;refine wpList_append_own_at _ rfl _ _ 142 rfl base 146 i1 _ 5 48 Tryz.underlying142 hj0 hj1 hj2 hj3 rfl (by decide) _ m (cellsN L) rfl (HO1.out _ ?qc0) ⟨w4.heap.size,0,none⟩ 1 1 (cellsNd1 ⟨1,nn,⟨#[]⟩,0,0⟩) rfl rfl ?qc1 ones5 ?qc2 ?qc3 ?qc4 ?_)
  case qc0=>exact (Below.refl _ _).alloc (Nat.le_refl _) _
  case qc1=>exact news5 (w:=w4) (x:=⟨1,nn,⟨#[]⟩,0,0⟩) (by simp)
  case qc2=>unfold maxLen;omega
  case qc3=>omega
  case qc4=>simp;omega
  intro v' w6 hown' hgrow _ _
  obtain ⟨HS,⟨y1,y2⟩,y3⟩:=HSt.out _ _ _ ((Below.refl _ _).alloc (Nat.le_refl _) _) hgrow hown'
  obtain ⟨A6,c6,hv'⟩:=own_form hown'
  subst hv'
  have HSo:=hid_of HS
  clear hown' hgrow HS
  go_wp2_with fail
  go_ret
  exact HSo.out
end Go.Proofs.YtinebmjpdkjooaaGreatDoor
