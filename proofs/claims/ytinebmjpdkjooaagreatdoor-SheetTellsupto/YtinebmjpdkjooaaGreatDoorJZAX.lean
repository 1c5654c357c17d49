/-
  The document's own reader of formulas: an operand that is a name, in whatever memory.
-/
import Derived.Test.YtinebmjpdkjooaaGreatDoorJZAW
namespace Go.Proofs.YtinebmjpdkjooaaGreatDoor
open Go.ChangeShapes Go.WideShapes Go.ChangeAt Go.RowKit
set_option maxRecDepth 20000
set_option maxHeartbeats 4000000 in
theorem one_let (s:ByteArray) (q base a:Nat) (hs:s.size≤100) (ha:a≤s.size) (hle:letB (nextB s a)=true):OneC s q base a:=by
 intro v L w hI hqb hbw hown hLa
 have HI:Hid (InV w q s a false v):=hI
 have HOw:=hid_of hown
 have c0:=hI.c0
 have c1:=hI.c1
 have c2:=hI.c2
 have hq:=hI.lt
 have i1:=fun w' (hb:Below w.heap.size w w')=>in_any q a s v 48 57 w' (by omega) ha (hI.later hb)
 have i2:=fun w' (hb:Below w.heap.size w w')=>in_any q a s v 97 122 w' (by omega) ha (hI.later hb)
 have i3:=fun w' (hb:Below w.heap.size w w')=>in_any q a s v 40 40 w' (by omega) ha (hI.later hb)
 have e1:(decide (48≤nextB s a) && decide (nextB s a≤57))=digB (nextB s a):=rfl
 have e2:(decide (97≤nextB s a) && decide (nextB s a≤122))=letB (nextB s a):=rfl
 rw [e1] at i1
 rw [e2] at i2
 have hsi:(s.size:Int)≤100:=by omega
 have hai:(a:Int)≤(s.size:Int):=by omega
 clear hI hown e1 e2
 have hd:digB (nextB s a)=false:=by unfold letB at hle;unfold digB;simp at hle ⊢;omega
 have h40:nextB s a≠40:=by intro e;rw [e] at hle;revert hle;decide
 have e3:(decide (40≤nextB s a) && decide (nextB s a≤40))=false:=by simp;omega
 have hlt:a<s.size:=next_zero (fun e=>by rw [e] at hle;revert hle;decide) ha
 rw [hd] at i1
 rw [hle] at i2
 rw [e3] at i3
 have HD:=hid_of hle
 clear hd hle h40 e3
 go_enter Tryz.func150,Tryz.ntmps150
 go_wp2_with fail
 refine (i1 _ (Below.refl _ _)).mono ?_
 rintro e w1 ⟨rfl,hb1⟩
 have HB1:=hid_of hb1
 clear hb1
 go_wp2_with fail
 refine (i2 _ HB1.out).mono ?_
 rintro e w2 ⟨rfl,hb2⟩
 have HB2:=hid_of (onB HB1.out hb2)
 clear hb2
 go_wp2_with fail
 refine (i3 _ HB2.out).mono ?_
 rintro e w3 ⟨rfl,hb3⟩
 have HB3:=hid_of (onB HB2.out hb3)
 have HI3:=hid_of (HI.out.later HB3.out)
 have HO3:=hid_of (own_later HOw.out HB3.out)
 have HS3:=hid_of (Nat.le_trans hbw HB3.out.size)
 clear hb3 i1 i2 i3 c0 c1 c2
 obtain ⟨AL,cL,hv⟩:=own_form HO3.out
 subst hv
 have HKW:Hid (Kept base (fun j=>j=q) w w3):=kept_below HB3.out hbw
 go_upto_block 2 with fail
 go_cut [] from 12 (fun wx=>InV wx q s (a+leadN letB (s.extract a s.size)) false (.slice AL L.length cL)∧wx.ownsRow base 146 5 (.slice AL L.length cL) L.length (cellsN L)∧Kept base (fun j=>j=q) w wx)
 case first=>as_aux_lemma =>
  go_wp2_with fail
  go_loopg [] s.size (fun g wr => ∃ (k:Nat),g=s.size-k∧a+k≤s.size∧(∀ i,i<k→letB (nextB s (a+i))=true)∧InV wr q s (a+k) false (.slice AL L.length cL)∧wr.ownsRow base 146 5 (.slice AL L.length cL) L.length (cellsN L)∧Kept base (fun j=>j=q) w wr)
  case atStart=>exact ⟨0,rfl,by omega,fun i hi=>absurd hi (Nat.not_lt_zero i),HI3.out,HO3.out,HKW.out⟩
  case round =>
   obtain ⟨k,rfl,hak,hall,hIr,hOr,hKr⟩:=hrel
   have HAl:=hid_of hall
   have HIr:=hid_of hIr
   have HOr:=hid_of hOr
   have HKr:=hid_of hKr
   have hbr:base≤wr.heap.size:=Nat.le_trans hbw hKr.size
   have i5:=in_any q (a+k) s (.slice AL L.length cL) 97 122 wr (by omega) hak hIr
   have e5:(decide (97≤nextB s (a+k)) && decide (nextB s (a+k)≤122))=letB (nextB s (a+k)):=rfl
   rw [e5] at i5
   clear hall hIr hOr hKr e5
   cases hdk:letB (nextB s (a+k))
   ·have HEnd:Hid (leadN letB (s.extract a s.size)=k):=lets_stop hak HAl.out hdk
    rw [hdk] at i5
    clear hdk
    go_wp2_with fail
    refine i5.mono ?_
    rintro e w4 ⟨rfl,hb4⟩
    have HB4:=hid_of hb4
    clear hb4 i5
    go_wp2_with fail
    go_meet
    rw [HEnd.out]
    exact ⟨HIr.out.later HB4.out,own_later HOr.out HB4.out,HKr.out.trans (kept_below HB4.out hbr)⟩
   ·have HDk:=hid_of hdk
    have hlk:a+k<s.size:=next_zero (fun e=>by rw [e] at hdk;revert hdk;decide) hak
    rw [hdk] at i5
    clear hdk
    obtain ⟨p,hp⟩:∃ p,a+k=p:=⟨_,rfl⟩
    have HP:=hid_of hp
    have hlpi:(p:Int)<(s.size:Int):=by omega
    have HIp:Hid (InV wr q s p false (.slice AL L.length cL)):=by show InV _ _ _ _ _ _;rw [←hp];exact HIr.out
    have fin:∀ (w5:World),Below wr.heap.size wr w5→InV (w5.setCell ⟨q,1,none⟩ (.int .i64 ((p:Int)+1))) q s (a+(k+1)) false (.slice AL L.length cL)∧(w5.setCell ⟨q,1,none⟩ (.int .i64 ((p:Int)+1))).ownsRow base 146 5 (.slice AL L.length cL) L.length (cellsN L)∧Kept base (fun j=>j=q) w (w5.setCell ⟨q,1,none⟩ (.int .i64 ((p:Int)+1))):=fun w5 hb5=>by
     refine ⟨?_,own_off (own_later HOr.out hb5) hqb,(HKr.out.trans (kept_below hb5 hbr)).trans kept_set⟩
     rw [show a+(k+1)=p+1 by omega]
     exact (HIp.out.later hb5).set1 (p+1)
    have HFin:=hid_of fin
    have HAll:Hid (∀ i,i<k+1→letB (nextB s (a+i))=true):=fun i hi=>by
     by_cases e:i=k
     ·rw [e];exact HDk.out
     ·exact HAl.out i (by omega)
    clear fin
    go_wp2_with fail
    refine i5.mono ?_
    rintro e w4 ⟨rfl,hb4⟩
    have HB4:=hid_of hb4
    have d3:=(HIp.out.later hb4).c1
    have d4:=(HIp.out.later hb4).fr 1
    have d5:=(HIp.out.later hb4).lt
    clear hb4 i5
    go_wp2_with fail
    go_roundg (s.size-(k+1))
    case measure=>omega
    case rel =>
     obtain ⟨x1,x2,x3⟩:=HFin.out _ HB4.out
     exact ⟨k+1,rfl,by omega,HAll.out,x1,x2,x3⟩
 case rest =>
  obtain ⟨hIc,hOc,hKc⟩:=hcut
  obtain ⟨w4,rfl⟩:∃ wx:World,wx=wc:=⟨_,rfl⟩
  obtain ⟨i1,hj0,hj1,hj2,hj3⟩:=info_parts Tryz.infoNdF
  have HR:=hid_of (rds_let ha HD.out)
  obtain ⟨hn1,hn2⟩:=let_pos ha HD.out
  have hnd:opndN (s.extract a (a+leadN letB (s.extract a s.size)))=⟨2,0,s.extract a (a+leadN letB (s.extract a s.size)),0,0⟩:=by
   have h1:=word_first hlt hn1
   have h2:=HD.out
   unfold letB at h2
   unfold opndN
   rw [h1,if_pos (by simpa using h2)]
  obtain ⟨m,hm⟩:∃ m,L.length=m:=⟨_,rfl⟩
  obtain ⟨p,hp⟩:∃ p,a+leadN letB (s.extract a s.size)=p:=⟨_,rfl⟩
  have HM:=hid_of hm
  have hm1:(m:Int)≤100:=by omega
  rw [hm] at hIc hOc
  rw [hp] at hIc hnd
  have hpi:(p:Int)≤(s.size:Int):=by omega
  have hapi:(a:Int)≤(p:Int):=by omega
  have HRp:Hid (Rds s 3 a p (leafT (s.extract a p))):=by show Rds _ _ _ _ _;rw [←hp];exact HR.out
  have hb4:base≤w4.heap.size:=Nat.le_trans hbw hKc.size
  have HSt:Hid (∀ (W w6:World) (v':Value),Below w4.heap.size w4 W→W.grownBy w6 (Value.slice AL m cL).ownBlock→w6.ownsRow base 146 5 v' (m+1) (cellsN L ++ cellsNd1 ⟨2,0,s.extract a p,0,0⟩)→OutS s q base 3 a L w (.returned (.int .i64 (m:Int))) (w6.setCell ⟨q,3,none⟩ v')∧(w6.cell? ⟨q,3,none⟩=some (.slice AL m cL)∧w6.frozen? ⟨q,3,none⟩=false)∧q<w6.heap.size):=by
   intro W w6 v' hb hg ho
   have h:=app_at hIc hOc hqb hb hg
   exact ⟨out_leaf HM.out HRp.out hKc hIc hOc hqb hb4 hb hg (by rw [hnd];exact ho),⟨h.c3,h.fr 3⟩,h.lt⟩
  have HO1:Hid (∀ w',Below w4.heap.size w4 w'→w'.ownsRow base 146 5 (.slice AL m cL) m (cellsN L)):=fun w' hb=>own_later hOc hb
  have d0:=hIc.c0
  have d1:=hIc.c1
  have d3:=hIc.c3
  have d4:=hIc.fr 3
  have d5:=hIc.lt
  clear hIc hOc hKc hnd hm hp hn1 hn2 HR
  go_wp2_with fail
  go_region_law (refine step_append_lies _ (by rfl) _ _ _ (by rfl) base 146 i1 _ 5 48 Tryz.underlying142 hj0 hj1 hj2 hj3 rfl (by omega) (.slice AL m cL) m (cellsN L) (by rfl) (HO1.out _ (by go_grown)) ⟨w4.heap.size,0,none⟩ 1 1 (cellsNd1 ⟨2,0,s.extract a p,0,0⟩) (by rfl) (by rfl) (World.news_of_block (cs := #[.int .i64 2,.int .i64 0,.string (s.extract a p),.int .i64 0,.int .i64 0]) (t:=146) (fr:=(0,0)) (topFd w4 _)) ones5 (by omega) (by unfold maxLen;omega) (by omega) (by simp;omega) (w4.heap.size+1) (by simp) ?_;intro gg cg w6 hown6 hgrow hat hlt6;obtain ⟨HS,⟨y1,y2⟩,y3⟩:=HSt.out _ _ _ (by go_grown) hgrow hown6;have HSo:=hid_of HS;clear HS hown6 hgrow hat)
  all_goals (go_wp2_with fail;go_ret;exact HSo.out)
end Go.Proofs.YtinebmjpdkjooaaGreatDoor
namespace Go.Proofs.YtinebmjpdkjooaaGreatDoor
def whL (d:Dm) (nm:List UInt8):Int:=findFrom (fun j=>same (d.mem j).name ⟨nm.toArray⟩) d.n 0
theorem same_bytesL (s:ByteArray) (nm:List UInt8):same s ⟨nm.toArray⟩=decide (s.data.toList=nm):=by
 unfold same
 rw [ByteArray.toList_eq,ByteArray.toList_eq]
 by_cases h:s.data.toList=nm
 ·simp [h]
 ·simp [h]
theorem whL_cases (d:Dm) (nm:List UInt8):(whL d nm = -1∧∀ j,j<d.n→(d.mem j).name.data.toList≠nm)∨∃ k:Nat,whL d nm=(k:Int)∧k<d.n∧(d.mem k).name.data.toList=nm:=by
 unfold whL
 rcases findFrom_cases (fun j=>same (d.mem j).name ⟨nm.toArray⟩) d.n 0 with ⟨h1,h2⟩ | ⟨k,h1,_,h3,h4,_⟩
 ·refine Or.inl ⟨h1,fun j hj=>?_⟩
  have:=h2 j (Nat.zero_le _) (by omega)
  rw [same_bytesL] at this
  exact of_decide_eq_false this
 ·refine Or.inr ⟨k,h1,by omega,?_⟩
  rw [same_bytesL] at h4
  exact of_decide_eq_true h4
theorem name_once {d:Dm} (h:(dimErr d).2=0) {j k:Nat} (hj:j<d.n) (hk:k<d.n) (e:(d.mem j).name.data.toList=(d.mem k).name.data.toList):j=k:=by
 obtain ⟨_,_,_,hall⟩:=dimErr_right h
 have hs:∀ {a b:Nat},(d.mem a).name.data.toList=(d.mem b).name.data.toList→same (d.mem a).name (d.mem b).name=true:=fun {a b} e=>by
  unfold same
  rw [ByteArray.toList_eq,ByteArray.toList_eq,e]
  simp
 rcases Nat.lt_trichotomy j k with h1 | h1 | h1
 ·have:=memErr_noclash (hall k hk)
  have:=findFrom_nonneg (q:=fun i=>same (d.mem i).name (d.mem k).name) h1 (hs e)
  omega
 ·exact h1
 ·have:=memErr_noclash (hall j hj)
  have:=findFrom_nonneg (q:=fun i=>same (d.mem i).name (d.mem j).name) h1 (hs e.symm)
  omega
theorem whL_own {d:Dm} (h:(dimErr d).2=0) {k:Nat} (hk:k<d.n):whL d (d.mem k).name.data.toList=(k:Int):=by
 rcases whL_cases d (d.mem k).name.data.toList with ⟨_,h2⟩ | ⟨m,h1,h2,h3⟩
 ·exact absurd rfl (h2 k hk)
 ·rw [h1,name_once h h2 hk h3]
def nmsOf (d:Dm) (i:Nat):List (List UInt8):=nmsTo (prsL (d.mem i).formula) (prsL (d.mem i).formula).length
theorem nms_has {l:List Nd} {x:Nd} (hx:x∈l) (h:x.op=2):x.name.data.toList∈nmsTo l l.length:=by
 unfold nmsTo
 rw [List.take_length]
 exact List.mem_map.2 ⟨x,List.mem_filter.2 ⟨hx,by simp [h]⟩,rfl⟩
theorem has_nms {l:List Nd} {nm:List UInt8} (h:nm∈nmsTo l l.length):∃ x∈l,x.op=2∧x.name.data.toList=nm:=by
 unfold nmsTo at h
 rw [List.take_length] at h
 obtain ⟨x,hx,rfl⟩:=List.mem_map.1 h
 obtain ⟨h1,h2⟩:=List.mem_filter.1 hx
 exact ⟨x,h1,by simpa using h2,rfl⟩
def mErr (d:Dm) (i:Nat):Int:=if (d.mem i).formula.size=0 then 0 else if prsE (d.mem i).formula≠0 then prsE (d.mem i).formula else if (nmsOf d i).any (fun nm=>decide (whL d nm<0))=true then 5 else 0
def sgB (d:Dm) (k:Int):Bool:=decide ((d.mem k.toNat).sign≠0)
def needB (d:Dm) (i k:Nat):Bool:=if (d.mem i).formula.size=0 then partB d.mem i k && sgB d k else (nmsOf d i).contains (d.mem k).name.data.toList
def mNd (d:Dm) (i:Nat):List Int:=selTo (needB d i) d.n
theorem mNd_rise (d:Dm) (i:Nat):(mNd d i).Pairwise (· < ·):=sel_rise _ _
theorem mNd_in {d:Dm} {i:Nat} {x:Int} (h:x∈mNd d i):0≤x∧x<(d.n:Int):=by
 obtain ⟨m,rfl,h2,-⟩:=selTo_mem x h
 omega
theorem mNd_len (d:Dm) (i:Nat):(mNd d i).length≤d.n:=selTo_len _ _
def ndL (d:Dm):List (List Int):=(List.range d.n).map (mNd d)
theorem ndL_len (d:Dm):(ndL d).length=d.n:=by simp [ndL]
theorem ndL_at {d:Dm} {i:Nat} (h:i<d.n):(ndL d).getD i []=mNd d i:=by
 unfold ndL
 simp [List.getD,h]
theorem ndL_inn (d:Dm):Inn (ndL d):=fun i hi x hx=>by
 rw [ndL_len] at hi ⊢
 rw [ndL_at hi] at hx
 exact mNd_in hx
def badM (d:Dm) (i:Nat):Bool:=decide (mErr d i≠0)
noncomputable def rErr (d:Dm):Int×Int :=
 if (dimErr d).2≠0 then dimErr d
 else if 0≤findFrom (badM d) d.n 0 then (findFrom (badM d) d.n 0,mErr d (findFrom (badM d) d.n 0).toNat)
 else if 0≤findFrom (cycB (ndL d)) d.n 0 then (findFrom (cycB (ndL d)) d.n 0,8)
 else (-1,0)
theorem re0 {d:Dm} (h:(dimErr d).2≠0):rErr d=dimErr d:=by unfold rErr;rw [if_pos h]
theorem re1 {d:Dm} (h:(dimErr d).2=0) {i:Nat} (hi:i<d.n) (he:mErr d i≠0) (hf:∀ j,j<i→mErr d j=0):rErr d=((i:Int),mErr d i):=by
 have e:findFrom (badM d) d.n 0=(i:Int):=findFrom_at (Nat.zero_le _) (by omega) (decide_eq_true he) fun j _ hj=>decide_eq_false (by simpa using hf j hj)
 unfold rErr
 rw [if_neg (by simpa using h),e,if_pos (by omega),Int.toNat_natCast]
theorem re2a {d:Dm} (hf:∀ j,j<d.n→mErr d j=0):findFrom (badM d) d.n 0 = -1:=findFrom_none fun j _ hj=>decide_eq_false (by simpa using hf j (by omega))
theorem re2 {d:Dm} (h:(dimErr d).2=0) (hf:∀ j,j<d.n→mErr d j=0) {i:Nat} (hi:i<d.n) (hc:cycB (ndL d) i=true) (hn:∀ j,j<i→cycB (ndL d) j=false):rErr d=((i:Int),8):=by
 unfold rErr
 rw [if_neg (by simpa using h),re2a hf,if_neg (by omega),findFrom_at (Nat.zero_le _) (by omega) hc fun j _ hj=>hn j hj,if_pos (by omega)]
theorem re3 {d:Dm} (h:(dimErr d).2=0) (hf:∀ j,j<d.n→mErr d j=0) (hn:∀ j,j<d.n→cycB (ndL d) j=false):rErr d=(-1,0):=by
 unfold rErr
 rw [if_neg (by simpa using h),re2a hf,if_neg (by omega),findFrom_none fun j _ hj=>hn j (by omega),if_neg (by omega)]
theorem need_names {d:Dm} (hd:(dimErr d).2=0) {i:Nat} (hf:(d.mem i).formula.size≠0) (he:mErr d i=0) (z:Int):z∈mNd d i↔∃ nm∈nmsOf d i,z=whL d nm:=by
 have hall:∀ nm∈nmsOf d i,0≤whL d nm:=fun nm hnm=>by
  unfold mErr at he
  rw [if_neg hf] at he
  split at he
  ·rename_i h1;exact absurd he h1
  ·split at he
   ·cases he
   ·rename_i h2
    rw [List.any_eq_true] at h2
    exact Decidable.byContradiction fun h3=>h2 ⟨nm,hnm,decide_eq_true (by omega)⟩
 constructor
 ·intro h
  obtain ⟨m,rfl,h2,h3⟩:=selTo_mem z h
  unfold needB at h3
  rw [if_neg hf,List.contains_iff_mem] at h3
  exact ⟨_,h3,(whL_own hd h2).symm⟩
 ·rintro ⟨nm,h1,rfl⟩
  rcases whL_cases d nm with ⟨h2,_⟩ | ⟨k,h2,h3,h4⟩
  ·have:=hall nm h1;omega
  ·rw [h2]
   refine sel_has h3 ?_
   unfold needB
   rw [if_neg hf,List.contains_iff_mem,h4]
   exact h1
theorem parts_need {d:Dm} {i:Nat} (hf:(d.mem i).formula.size=0):(partsOf d.mem d.n i).filter (sgB d)=mNd d i:=by
 refine selru_filter _ _ _ _ fun j _=>?_
 unfold needB
 rw [if_pos hf,Bool.and_eq_true]
/-! sorted, each once -/
theorem srt_le (zs:List (List UInt8)):(zs.mergeSort fun x y=>decide (x≤y)).Pairwise (fun a b=>a≤b):=by
 have h:=List.pairwise_mergeSort (le:=fun x y:List UInt8=>decide (x≤y)) (fun a b c h k=>by simp at *;exact List.le_trans h k) (fun a b=>by simp;exact List.le_total a b) zs
 exact h.imp fun h=>by simpa using h
theorem srt_ints (zs:List Int):(zs.mergeSort fun x y=>decide (x≤y)).Pairwise (fun a b=>a≤b):=by
 have h:=List.pairwise_mergeSort (le:=fun x y:Int=>decide (x≤y)) (fun a b c h k=>by simp at *;omega) (fun a b=>by simp;omega) zs
 exact h.imp fun h=>by simpa using h
theorem comp_mem (zs:List (List UInt8)) (x:List UInt8):x∈Lib.compact zs↔x∈zs:=by
 unfold Lib.compact
 have h:∀ m,m≤zs.length→∀ x,x∈Lib.compactUpTo zs.toArray m↔∃ j,j<m∧zs.toArray[j]! = x:=by
  intro m
  induction m with
  | zero=>intro _ x;simp [Lib.compactUpTo]
  | succ m ih =>
   intro hm x
   rw [Lib.compactUpTo_succ,List.mem_append,ih (by omega)]
   constructor
   ·rintro (⟨j,h1,h2⟩ | h1)
    ·exact ⟨j,by omega,h2⟩
    ·split at h1
     ·exact ⟨m,by omega,(List.mem_singleton.1 h1).symm⟩
     ·cases h1
   ·rintro ⟨j,h1,h2⟩
    by_cases e:j<m
    ·exact Or.inl ⟨j,e,h2⟩
    ·have e:j=m:=by omega
     subst e
     by_cases hk:Lib.keeps zs.toArray j=true
     ·exact Or.inr (by rw [if_pos hk,←h2];simp)
     ·unfold Lib.keeps at hk
      rw [decide_eq_true_iff] at hk
      have h3:j≠0:=fun e=>hk (Or.inl e)
      have h4:zs.toArray[j]! = zs.toArray[j-1]! := Decidable.byContradiction fun e=>hk (Or.inr e)
      exact Or.inl ⟨j-1,by omega,by rw [←h4];exact h2⟩
 rw [h _ (Nat.le_refl _)]
 constructor
 ·rintro ⟨j,h1,rfl⟩
  rw [getElem!_pos _ j (by simpa using h1)]
  simp
 ·intro hx
  obtain ⟨j,hj,rfl⟩:=List.getElem_of_mem hx
  exact ⟨j,hj,by rw [getElem!_pos _ j (by simpa using hj)];simp⟩
theorem comp_nodup (zs:List (List UInt8)) (hs:zs.Pairwise (fun a b=>a≤b)):(Lib.compact zs).Nodup:=by
 unfold Lib.compact
 have hle:∀ i j,i≤j→j<zs.length→zs.toArray[i]!≤zs.toArray[j]! := fun i j hij hj=>by
  rw [getElem!_pos _ i (by simp;omega),getElem!_pos _ j (by simpa using hj)]
  by_cases e:i=j
  ·subst e;exact List.le_refl _
  ·have:=List.pairwise_iff_getElem.1 hs i j (by omega) hj (by omega)
   simpa using this
 have h:∀ m,m≤zs.length→(Lib.compactUpTo zs.toArray m).Nodup∧∀ x∈Lib.compactUpTo zs.toArray m,∃ j,j<m∧zs.toArray[j]! = x:=by
  intro m
  induction m with
  | zero=>intro _;exact ⟨by simp [Lib.compactUpTo],fun x hx=>by simp [Lib.compactUpTo] at hx⟩
  | succ m ih =>
   intro hm
   obtain ⟨h1,h2⟩:=ih (by omega)
   rw [Lib.compactUpTo_succ]
   refine ⟨?_,fun x hx=>?_⟩
   ·rw [List.nodup_append]
    refine ⟨h1,by split <;> simp,fun a ha b hb e=>?_⟩
    split at hb
    ·rename_i hk
     rw [List.mem_singleton.1 hb] at e
     obtain ⟨j,h3,h4⟩:=h2 a ha
     unfold Lib.keeps at hk
     rcases of_decide_eq_true hk with h5 | h5
     ·omega
     ·refine h5 (List.le_antisymm ?_ (hle (m-1) m (by omega) (by omega)))
      rw [←e,←h4]
      exact hle j (m-1) (by omega) (by omega)
    ·cases hb
   ·rcases List.mem_append.1 hx with hx | hx
    ·obtain ⟨j,h3,h4⟩:=h2 x hx
     exact ⟨j,by omega,h4⟩
    ·split at hx
     ·exact ⟨m,by omega,(List.mem_singleton.1 hx).symm⟩
     ·cases hx
 exact (h _ (Nat.le_refl _)).1
theorem form_read {s:ByteArray} (h:prsE s=0):formErr (prsL s)=0:=by
 have hL:prsL s=nodesP s:=by unfold prsL;rw [if_pos h]
 rw [hL]
 unfold prsE at h
 split at h
 ·split at h <;> cases h
 ·split at h
  ·exact h
  ·cases h
theorem refs_once {l:List Nd} (h:formErr l=0):(refsP l).Nodup∧∀ x,x∈refsP l↔x∈nmsTo l l.length:=by
 unfold refsP
 rw [if_pos h]
 refine ⟨comp_nodup _ (srt_le _),fun x=>?_⟩
 rw [comp_mem]
 exact (List.mergeSort_perm _ _).mem_iff
theorem sort_need {d:Dm} (hd:(dimErr d).2=0) {i:Nat} (hf:(d.mem i).formula.size≠0) (he:mErr d i=0) (hp:prsE (d.mem i).formula=0):(((refsP (prsL (d.mem i).formula)).map (whL d)).mergeSort fun x y=>decide (x≤y))=mNd d i:=by
 obtain ⟨h1,h2⟩:=refs_once (form_read hp)
 have hm:∀ z,z∈(refsP (prsL (d.mem i).formula)).map (whL d)↔z∈mNd d i:=fun z=>by
  rw [need_names hd hf he,List.mem_map]
  constructor
  ·rintro ⟨nm,h3,rfl⟩;exact ⟨nm,(h2 nm).1 h3,rfl⟩
  ·rintro ⟨nm,h3,rfl⟩;exact ⟨nm,(h2 nm).2 h3,rfl⟩
 have hnd:((refsP (prsL (d.mem i).formula)).map (whL d)).Pairwise (fun a b=>a≠b):=by
  rw [List.pairwise_map]
  have hin:∀ nm∈refsP (prsL (d.mem i).formula),0≤whL d nm:=fun nm h=>(mNd_in ((hm _).1 (List.mem_map.2 ⟨nm,h,rfl⟩))).1
  refine List.Pairwise.imp_of_mem (R:=fun a b=>a≠b) (fun {a b} ha hb hab e=>?_) h1
  rcases whL_cases d a with ⟨h3,_⟩ | ⟨k,h3,_,h4⟩
  ·have:=hin a ha;omega
  ·rcases whL_cases d b with ⟨h5,_⟩ | ⟨m,h5,_,h6⟩
   ·have:=hin b hb;omega
   ·have:k=m:=by omega
    exact hab (by rw [←h4,←h6,this])
 refine rise_eq _ _ ?_ (mNd_rise d i) fun z=>?_
 ·have hp2:=(List.mergeSort_perm ((refsP (prsL (d.mem i).formula)).map (whL d)) (fun x y=>decide (x≤y)))
  have hn2:List.Pairwise (fun a b=>a≠b) (((refsP (prsL (d.mem i).formula)).map (whL d)).mergeSort fun x y=>decide (x≤y)):=hp2.symm.pairwise hnd fun {a b} h e=>h e.symm
  exact ((srt_ints _).and hn2).imp fun h=>by omega
 ·rw [(List.mergeSort_perm _ _).mem_iff,hm]
end Go.Proofs.YtinebmjpdkjooaaGreatDoor
namespace Go.Proofs.YtinebmjpdkjooaaGreatDoor
open Go.ChangeShapes Go.WideShapes Go.ChangeAt Go.RowKit
set_option maxRecDepth 20000
set_option maxHeartbeats 4000000 in
theorem one_step (s:ByteArray) (q base a:Nat) (hs:s.size≤100) (ha:a≤s.size) (ih:∀ a1,a<a1→a1≤s.size→SumC s q base 1 a1):OneC s q base a:=by
 intro v L w hI hqb hbw hown hLa
 have HI:Hid (InV w q s a false v):=hI
 have HOw:=hid_of hown
 have HIH:=hid_of ih
 have c0:=hI.c0
 have c1:=hI.c1
 have c2:=hI.c2
 have hq:=hI.lt
 have i1:=fun w' (hb:Below w.heap.size w w')=>in_any q a s v 48 57 w' (by omega) ha (hI.later hb)
 have i2:=fun w' (hb:Below w.heap.size w w')=>in_any q a s v 97 122 w' (by omega) ha (hI.later hb)
 have i3:=fun w' (hb:Below w.heap.size w w')=>in_any q a s v 40 40 w' (by omega) ha (hI.later hb)
 have e1:(decide (48≤nextB s a) && decide (nextB s a≤57))=digB (nextB s a):=rfl
 have e2:(decide (97≤nextB s a) && decide (nextB s a≤122))=letB (nextB s a):=rfl
 rw [e1] at i1
 rw [e2] at i2
 have hsi:(s.size:Int)≤100:=by omega
 have hai:(a:Int)≤(s.size:Int):=by omega
 clear hI hown ih e1 e2
 cases hd:digB (nextB s a)
 case true=>exact one_dig s q base a hs ha hd v L w HI.out hqb hbw HOw.out hLa
 cases hle:letB (nextB s a)
 case true=>exact one_let s q base a hs ha hle v L w HI.out hqb hbw HOw.out hLa
 rw [hd] at i1
 rw [hle] at i2
 by_cases h40:nextB s a=40
 ·have e3:(decide (40≤nextB s a) && decide (nextB s a≤40))=true:=by rw [h40];rfl
  rw [e3] at i3
  have hlt:a<s.size:=next_zero (by rw [h40];decide) ha
  have H40:=hid_of h40
  clear hd hle h40 e3
  go_enter Tryz.func150,Tryz.ntmps150
  go_wp2_with fail
  refine (i1 _ (Below.refl _ _)).mono ?_
  rintro e w1 ⟨rfl,hb1⟩
  have HB1:=hid_of hb1
  clear hb1
  go_wp2_with fail
  refine (i2 _ HB1.out).mono ?_
  rintro e w2 ⟨rfl,hb2⟩
  have HB2:=hid_of (onB HB1.out hb2)
  clear hb2
  go_wp2_with fail
  refine (i3 _ HB2.out).mono ?_
  rintro e w3 ⟨rfl,hb3⟩
  have HB3:=hid_of (onB HB2.out hb3)
  have HI3:=hid_of (HI.out.later HB3.out)
  have HO3:=hid_of (own_later HOw.out HB3.out)
  have HS3:=hid_of (Nat.le_trans hbw HB3.out.size)
  have d1:=HI3.out.c1
  have g1:=HI3.out.fr 1
  have hq3:=HI3.out.lt
  obtain ⟨V3,hV3⟩:∃ V3,w3.setCell ⟨q,1,none⟩ (.int .i64 ((a:Int)+1))=V3:=⟨_,rfl⟩
  have hIV:InV V3 q s (a+1) false v:=by rw [←hV3];exact HI3.out.set1 (a+1)
  have hOV:V3.ownsRow base 146 5 v L.length (cellsN L):=by rw [←hV3];exact own_off HO3.out hqb
  have hKV:Kept base (fun j=>j=q) w V3:=by rw [←hV3];exact (kept_below HB3.out hbw).trans kept_set
  have hsm:=HIH.out (a+1) (by omega) (by omega) v L V3 hIV hqb (by rw [←hV3];simpa using HS3.out) hOV (by omega)
  have HKV:=hid_of hKV
  clear hb3 i1 i2 i3 c0 c1 c2 hIV hOV hKV
  go_wp2_with fail
  refine hsm.mono ?_
  rintro e w4 ⟨hK4,⟨a1,t,v1,rfl,hR,hN,hI4,hO4,hL4⟩ | ⟨i,a1,v1,L1,rfl,hF,hI4,hO4⟩⟩
  ·have HK4:=hid_of (HKV.out.trans hK4)
   have HR:=hid_of hR
   have HNs:=hid_of hN
   have HI4:=hid_of hI4
   have HO4:=hid_of hO4
   have HL4:=hid_of hL4
   have hbs4:base≤w4.heap.size:=Nat.le_trans hbw (Nat.le_trans HKV.out.size hK4.size)
   have i4:=in_any q a1 s v1 41 41 w4 (by omega) hR.2.1 hI4
   have hp:=siz_pos t
   obtain ⟨ix,hix⟩:∃ ix,L.length+sizT t-1=ix:=⟨_,rfl⟩
   have HIx:=hid_of hix
   rw [hix]
   have ha1:(a1:Int)≤100:=by have:=hR.2.1;omega
   clear hK4 hR hN hI4 hO4 hL4 hix hV3 hsm d1 g1
   by_cases h41:nextB s a1=41
   ·have e4:(decide (41≤nextB s a1) && decide (nextB s a1≤41))=true:=by rw [h41];rfl
    rw [e4] at i4
    have H41:=hid_of h41
    clear h41 e4
    go_wp2_with fail
    refine i4.mono ?_
    rintro e w5 ⟨rfl,hb5⟩
    have HB5:=hid_of hb5
    have HI5:=hid_of (HI4.out.later hb5)
    have f1:=HI5.out.c1
    have k1:=HI5.out.fr 1
    clear hb5 i4
    go_wp2_with fail
    go_ret
    refine ⟨(HK4.out.trans (kept_below HB5.out hbs4)).trans kept_set,Or.inl ⟨a1+1,t,v1,by rw [HIx.out];rfl,rds_brk ha H40.out HR.out H41.out,nosg3 _ _,?_,own_off (own_later HO4.out HB5.out) hqb,by have:=HL4.out;omega⟩⟩
    exact HI5.out.set1 (a1+1)
   ·have e4:(decide (41≤nextB s a1) && decide (nextB s a1≤41))=false:=by simp;omega
    rw [e4] at i4
    have H41:=hid_of h41
    clear h41 e4
    go_wp2_with fail
    refine i4.mono ?_
    rintro e w5 ⟨rfl,hb5⟩
    have HB5:=hid_of hb5
    have HI5:=hid_of (HI4.out.later hb5)
    have f1:=HI5.out.c2
    have k1:=HI5.out.fr 2
    clear hb5 i4
    go_wp2_with fail
    go_ret
    exact ⟨(HK4.out.trans (kept_below HB5.out hbs4)).trans kept_set,Or.inr ⟨0,a1,v1,_,rfl,fls_shut ha H40.out HR.out HNs.out H41.out,HI5.out.set2 true,own_off (own_later HO4.out HB5.out) hqb⟩⟩
  ·have HK4:=hid_of (HKV.out.trans hK4)
   have HF:=hid_of hF
   have HI4:=hid_of hI4
   have HO4:=hid_of hO4
   have hbs4:base≤w4.heap.size:=Nat.le_trans hbw (Nat.le_trans HKV.out.size hK4.size)
   have i4:=in_bad q a1 s v1 41 41 w4 hI4
   clear hK4 hF hI4 hO4 hV3 hsm d1 g1
   go_wp2_with fail
   refine i4.mono ?_
   rintro e w5 ⟨rfl,hb5⟩
   have HB5:=hid_of hb5
   have HI5:=hid_of (HI4.out.later hb5)
   have f1:=HI5.out.c2
   have k1:=HI5.out.fr 2
   clear hb5 i4
   go_wp2_with fail
   go_ret
   exact ⟨(HK4.out.trans (kept_below HB5.out hbs4)).trans kept_set,Or.inr ⟨0,a1,v1,L1,rfl,fls_open ha H40.out HF.out,HI5.out.set2 true,own_off (own_later HO4.out HB5.out) hqb⟩⟩
 ·have e3:(decide (40≤nextB s a) && decide (nextB s a≤40))=false:=by simp;omega
  rw [e3] at i3
  have HF:Hid (Fls s a a):=fls_none ha h40 hd hle
  clear hd hle h40 e3
  go_enter Tryz.func150,Tryz.ntmps150
  go_wp2_with fail
  refine (i1 _ (Below.refl _ _)).mono ?_
  rintro e w1 ⟨rfl,hb1⟩
  have HB1:=hid_of hb1
  clear hb1
  go_wp2_with fail
  refine (i2 _ HB1.out).mono ?_
  rintro e w2 ⟨rfl,hb2⟩
  have HB2:=hid_of (onB HB1.out hb2)
  clear hb2
  go_wp2_with fail
  refine (i3 _ HB2.out).mono ?_
  rintro e w3 ⟨rfl,hb3⟩
  have HB3:=hid_of (onB HB2.out hb3)
  have HI3:=hid_of (HI.out.later HB3.out)
  have d2:=HI3.out.c2
  have g2:=HI3.out.fr 2
  clear hb3 i1 i2 i3 c0 c1 c2
  go_wp2_with fail
  go_ret
  refine ⟨(kept_below HB3.out hbw).trans kept_set,Or.inr ⟨0,a,v,L,rfl,HF.out,HI3.out.set2 true,own_off (own_later HOw.out HB3.out) hqb⟩⟩
end Go.Proofs.YtinebmjpdkjooaaGreatDoor
