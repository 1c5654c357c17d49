/-
  Places compared, entries found and entries checked, step by step as the program does it: on plain data.
-/
import Derived.Test.YtinebmjpdkjooaaGreatDoorJZBC
namespace Go.Proofs.YtinebmjpdkjooaaGreatDoor
def cmpL:List Int→List Int→Int
 | [],[]=>0
 | [],_ :: _ => -1
 | _ :: _,[]=>1
 | a :: r,b :: t=>if a<b then -1 else if b<a then 1 else cmpL r t
theorem cmpL_three:∀ a b:List Int,(cmpL a b = -1∧lessL a b=true∧a≠b)∨(cmpL a b=0∧lessL a b=false∧a=b)∨(cmpL a b=1∧lessL a b=false∧a≠b)
 | [],[]=>Or.inr (Or.inl ⟨rfl,rfl,rfl⟩)
 | [],_ :: _=>Or.inl ⟨rfl,rfl,by simp⟩
 | _ :: _,[]=>Or.inr (Or.inr ⟨rfl,rfl,by simp⟩)
 | a :: r,b :: t=>by
  simp only [cmpL,lessL]
  by_cases h1:a<b
  ·rw [if_pos h1,if_neg (by omega)]
   exact Or.inl ⟨rfl,decide_eq_true h1,by simp;omega⟩
  ·rw [if_neg h1]
   by_cases h2:b<a
   ·rw [if_pos h2,if_neg (by omega)]
    exact Or.inr (Or.inr ⟨rfl,decide_eq_false h1,by simp;omega⟩)
   ·have h3:a=b:=by omega
    rw [if_neg h2,if_pos h3]
    subst h3
    rcases cmpL_three r t with ⟨e1,e2,e3⟩ | ⟨e1,e2,e3⟩ | ⟨e1,e2,e3⟩
    ·exact Or.inl ⟨e1,e2,by simpa using e3⟩
    ·exact Or.inr (Or.inl ⟨e1,e2,by rw [e3]⟩)
    ·exact Or.inr (Or.inr ⟨e1,e2,by simpa using e3⟩)
theorem cmpL_nonneg (a b:List Int):decide (0≤cmpL a b) = !lessL a b:=by
 rcases cmpL_three a b with ⟨e1,e2,_⟩ | ⟨e1,e2,_⟩ | ⟨e1,e2,_⟩ <;> rw [e1,e2] <;> rfl
theorem dropI_at (l:List Int) {k:Nat} (h:k<l.length):l.drop k=l.getD k 0 :: l.drop (k+1):=by
 rw [List.drop_eq_getElem_cons h,List.getD_eq_getElem?_getD,List.getElem?_eq_getElem h]
 rfl
theorem cmpL_in {a b:List Int} {k:Nat} (h1:k<a.length) (h2:k<b.length):cmpL (a.drop k) (b.drop k)=if a.getD k 0<b.getD k 0 then -1 else if b.getD k 0<a.getD k 0 then 1 else cmpL (a.drop (k+1)) (b.drop (k+1)):=by
 rw [dropI_at a h1,dropI_at b h2,cmpL]
theorem cmpL_long {a b:List Int} {k:Nat} (h1:k<a.length) (h2:b.length≤k):cmpL (a.drop k) (b.drop k)=1:=by
 rw [dropI_at a h1,List.drop_eq_nil_of_le h2];rfl
theorem cmpL_short {a b:List Int} {k:Nat} (h1:a.length≤k) (h2:k<b.length):cmpL (a.drop k) (b.drop k) = -1:=by
 rw [dropI_at b h2,List.drop_eq_nil_of_le h1];rfl
theorem cmpL_end {a b:List Int} {k:Nat} (h1:a.length≤k) (h2:b.length≤k):cmpL (a.drop k) (b.drop k)=0:=by
 rw [List.drop_eq_nil_of_le h1,List.drop_eq_nil_of_le h2];rfl
theorem lessL_in {a b:List Int} {k:Nat} (h1:k<a.length) (h2:k<b.length):lessL (a.drop k) (b.drop k)=if a.getD k 0=b.getD k 0 then lessL (a.drop (k+1)) (b.drop (k+1)) else decide (a.getD k 0<b.getD k 0):=by
 rw [dropI_at a h1,dropI_at b h2,lessL]
theorem lessL_long {a b:List Int} {k:Nat} (h2:b.length≤k):lessL (a.drop k) (b.drop k)=false:=by
 rw [List.drop_eq_nil_of_le h2]
 cases a.drop k <;> rfl
theorem lessL_short {a b:List Int} {k:Nat} (h1:a.length≤k) (h2:k<b.length):lessL (a.drop k) (b.drop k)=true:=by
 rw [dropI_at b h2,List.drop_eq_nil_of_le h1];rfl
theorem drop_en (l:List En) {k:Nat} (h:k<l.length):l.drop k=l.getD k noEn :: l.drop (k+1):=by
 rw [List.drop_eq_getElem_cons h,List.getD_eq_getElem?_getD,List.getElem?_eq_getElem h]
 rfl
def qOf (l:List En):Nat→Option (List Int)
 | 0=>none
 | k+1=>some (l.getD k noEn).pl
theorem ent_step {D:Nat→Dm} {n:Nat} {l:List En} {k:Nat} (h:k<l.length):entFrom D n (qOf l k) (l.drop k)=if entOne D n (l.getD k noEn)≠0 then entOne D n (l.getD k noEn) else if aheadOk (qOf l k) (l.getD k noEn).pl=true then entFrom D n (qOf l (k+1)) (l.drop (k+1)) else 7:=by
 rw [drop_en l h,entFrom]
 rfl
theorem ent_bad {D:Nat→Dm} {n:Nat} {l:List En} {k:Nat} (h:k<l.length) (he:entOne D n (l.getD k noEn)≠0):entFrom D n (qOf l k) (l.drop k)=entOne D n (l.getD k noEn):=by rw [ent_step h,if_pos he]
theorem ent_clash {D:Nat→Dm} {n:Nat} {l:List En} {k:Nat} (h:k<l.length) (he:entOne D n (l.getD k noEn)=0) (hq:aheadOk (qOf l k) (l.getD k noEn).pl=false):entFrom D n (qOf l k) (l.drop k)=7:=by rw [ent_step h,if_neg (by simpa using he),if_neg (by rw [hq];decide)]
theorem ent_on {D:Nat→Dm} {n:Nat} {l:List En} {k:Nat} (h:k<l.length) (he:entOne D n (l.getD k noEn)=0) (hq:aheadOk (qOf l k) (l.getD k noEn).pl=true):entFrom D n (qOf l k) (l.drop k)=entFrom D n (qOf l (k+1)) (l.drop (k+1)):=by rw [ent_step h,if_neg (by simpa using he),if_pos hq]
theorem ent_end {D:Nat→Dm} {n:Nat} {l:List En} {k:Nat} (h:l.length≤k):entFrom D n (qOf l k) (l.drop k)=0:=by
 rw [List.drop_eq_nil_of_le h]
 cases qOf l k <;> rfl
theorem ents_bad {D:Nat→Dm} {n:Nat} (l:List En) (h:(allErr D n).2.2≠0):entsErr D n l=(allErr D n).2.2:=by unfold entsErr;rw [if_pos h]
theorem ents_in {D:Nat→Dm} {n:Nat} (l:List En) (h:(allErr D n).2.2=0):entsErr D n l=entFrom D n (qOf l 0) (l.drop 0):=by unfold entsErr;rw [if_neg (by simpa using h)];rfl
theorem one_place {D:Nat→Dm} {n:Nat} {e:En} (hR:(allErr D n).2.2=0) (h:placeErr D n e.pl≠0):entOne D n e=placeErr D n e.pl:=by
 rw [pe1 hR] at h ⊢
 unfold entOne
 rw [if_pos h]
theorem one_leaf {D:Nat→Dm} {n:Nat} {e:En} (hR:(allErr D n).2.2=0) (h:placeErr D n e.pl=0) (hf:leafV D n e.pl=false):entOne D n e=6:=by
 rw [pe1 hR] at h
 unfold entOne
 rw [if_neg (by simpa using h),if_pos hf]
theorem one_num {D:Nat→Dm} {n:Nat} {e:En} (hR:(allErr D n).2.2=0) (h:placeErr D n e.pl=0) (hf:leafV D n e.pl=true):entOne D n e=if numOk e.n=false then 1 else 0:=by
 rw [pe1 hR] at h
 unfold entOne
 rw [if_neg (by simpa using h),if_neg (by simp [hf])]
end Go.Proofs.YtinebmjpdkjooaaGreatDoor
namespace Go.Proofs.YtinebmjpdkjooaaGreatDoor
open Go Go.ChangeShapes Go.WideShapes Go.ChangeAt Go.RowKit
set_option maxRecDepth 20000
theorem ent_ne_int:(3:Nat)≠51:=by decide
def PlTy (w:World) (A:Option Addr) (c:Nat) (L:List Int):Prop:=L.length≤c∧(L=[]∨∃ b o cs fr,A=some ⟨b,o,none⟩∧w.heap[b]?=some (.cells cs 3 fr)∧∀ j,j<L.length→w.cell? ⟨b,o+j,none⟩=some (.int .i64 (L.getD j 0)))
theorem PlTy.pl {w:World} {A:Option Addr} {c:Nat} {L:List Int} (h:PlTy w A c L):PlAt w A c L:=by
 obtain ⟨h1,h2 | ⟨b,o,cs,fr,h2,h3,h4⟩⟩:=h
 ·exact ⟨h1,Or.inl h2⟩
 ·exact ⟨h1,Or.inr ⟨b,o,h2,(Array.getElem?_eq_some_iff.1 h3).1,h4⟩⟩
theorem PlTy.nil (w:World) (A:Option Addr) (c:Nat):PlTy w A c []:=⟨Nat.zero_le _,Or.inl rfl⟩
theorem PlTy.later {w w':World} {A:Option Addr} {c:Nat} {L:List Int} (h:PlTy w A c L) (hB:Below w.heap.size w w'):PlTy w' A c L:=by
 obtain ⟨h1,h2 | ⟨b,o,cs,fr',h2,h3,h4⟩⟩:=h
 ·exact ⟨h1,Or.inl h2⟩
 ·have hb:w'.heap[b]?=w.heap[b]?:=hB.block b (Array.getElem?_eq_some_iff.1 h3).1
  exact ⟨h1,Or.inr ⟨b,o,cs,fr',h2,hb.trans h3,fun j hj=>(World.cell?_of_block (a:=⟨b,o+j,none⟩) hb).trans (h4 j hj)⟩⟩
theorem plty_own {w:World} {base:Nat} {v:Value} {L:List Int} (h:w.ownsRow base 3 1 v L.length (L.map (Value.int .i64))):∃ A c,v=.slice A L.length c∧PlTy w A c L:=by
 rcases h.2 with ⟨rfl,h0⟩ | ⟨g,cap,cur,rfl,hb,hg,hc,_,_,_⟩
 ·have:L=[]:=List.eq_nil_of_length_eq_zero h0
  subst this
  exact ⟨none,0,rfl,PlTy.nil _ _ _⟩
 ·refine ⟨_,cap,rfl,hc,Or.inr ⟨g,0,cur,_,rfl,hg,fun j hj=>?_⟩⟩
  have hx:=h.cells (g:=g) rfl j (.int .i64 (L.getD j 0)) (by simp [List.getD,List.getElem?_eq_getElem hj])
  have hadd:(⟨g,0,none⟩:Addr).add j=⟨g,j,none⟩:=by unfold Addr.add;split <;> simp_all
  rw [hadd] at hx
  rw [Nat.zero_add]
  exact hx
variable {P:Program}
end Go.Proofs.YtinebmjpdkjooaaGreatDoor
namespace Go.Proofs.YtinebmjpdkjooaaGreatDoor
open Go.ChangeShapes Go.WideShapes Go.ChangeAt Go.RowKit
set_option maxRecDepth 20000
def readTo (D:Nat→Dm) (s:ByteArray) (n k:Nat):List Int:=readL D s k ++ List.replicate (n-k) 0
theorem readTo_len (D:Nat→Dm) (s:ByteArray) {n k:Nat} (h:k≤n):(readTo D s n k).length=n:=by simp [readTo,readL];omega
theorem readTo_set (D:Nat→Dm) (s:ByteArray) {n k:Nat} (h:k<n):(readTo D s n k).set k (pk D s k)=readTo D s n (k+1):=by
 unfold readTo readL
 rw [List.range_succ,List.map_append,List.map_singleton,List.append_assoc,List.set_append_right _ _ (by simp),List.length_map,List.length_range,Nat.sub_self,show n-k=(n-(k+1))+1 by omega,List.replicate_succ]
 rfl
theorem readTo_all (D:Nat→Dm) (s:ByteArray) (n:Nat):readTo D s n n=readL D s n:=by simp [readTo]
theorem pieceB_cell {s:ByteArray} {w:World} {g k:Nat} {T:Nat} (h:w.heap[g]?=some (.cells ((pieces s).map Value.string).toArray T (0,0))) (hk:k<(pieces s).length):w.cell? ⟨g,k,none⟩=some (.string (pieceB s k)):=by
 rw [Lib.cell_of_heap h]
 simp [pieceB,List.getD,hk]
theorem IntB.ty {w:World} {g:Nat} {L:List Int} (h:IntB w g L):PlTy w (some ⟨g,0,none⟩) L.length L :=
 ⟨Nat.le_refl _,Or.inr ⟨g,0,_,_,rfl,h,fun j hj=>by rw [Nat.zero_add];exact h.cell hj⟩⟩
set_option maxHeartbeats 4000000 in
theorem pparse_ty (A0:Option Addr) (cap n:Nat) (D:Nat→Dm) (A:Nat→Option Addr) (C:Nat→Nat) (s:ByteArray) (w:World) (hs:s.size≤4611686018427387904) (hM:DimsV w A0 cap n D A C):Calls Tryz.prog 51 #[.agg #[.slice A0 n cap],.string s] w fun e w'=>(∃ A' c',e=.returned (.tuple #[.slice A' (parseL D n s).length c',errV (parseErr D n s)])∧PlTy w' A' c' (parseL D n s))∧Below w.heap.size w w':=by
 have hB0:=ownOut_below w A0 n cap 24
 have h:=checko_any A0 cap n D A C (ownOut w A0 n cap 24) (hM.later hB0)
 have HB0:Hid (Below w.heap.size w (ownOut w A0 n cap 24)):=hB0
 have HM:Hid (DimsV w A0 cap n D A C):=hM
 clear hM hB0
 by_cases he:(allErr D n).2.2=0
 ·obtain ⟨hn1,hn4,-,hd⟩:=allErr_some he
  have HA:Hid ((allErr D n).2.2=0):=he
  have HPE:Hid (parseErr D n s=readErr D n s):=pa1 he
  rw [he,errV_zero] at h
  have hn':(n:Int)≤4:=by omega
  have hpz:=pieces_pos s
  have hple:=pieces_le s
  have HCT:Hid (∀ w,Calls Tryz.prog 77 #[.string s,.string ⟨#[46]⟩] w fun e w'=>e=.returned (.int .i64 (((pieces s).length:Int)-1))∧w'=w):=count_dot s
  have HSP:Hid ((pieces s).length=n→∀ w,Calls Tryz.prog 78 #[.string s,.string ⟨#[46]⟩] w fun e w'=>e=.returned (.slice (some ⟨w.heap.size,0,none⟩) (pieces s).length (pieces s).length)∧w'=w.alloc (.cells ((pieces s).map Value.string).toArray 9)):=fun hp w=>split_any s w (by omega) hs
  obtain ⟨m,hm⟩:∃ m,(pieces s).length=m:=⟨_,rfl⟩
  have Hm:Hid ((pieces s).length=m):=hm
  rw [hm] at hpz hple HCT HSP
  have hmb:(m:Int)≤4611686018427387905:=by omega
  have hmp:(1:Int)≤(m:Int):=by omega
  have hwm:IntKind.i64.wrap (m:Int)=(m:Int):=IntWalk.i64_in _ (by omega)
  clear he hd hm hple
  go_enter Tryz.func51,Tryz.ntmps51
  go_wp2_with fail
  refine h.mono ?_
  rintro e w1 ⟨rfl,hb1⟩
  have hB:Below w.heap.size w w1:=onB HB0.out hb1
  have hz:w.heap.size<w1.heap.size:=by have:=hb1.size;rw [ownOut_size] at this;omega
  have h2:w1.cell? ⟨w.heap.size,0,none⟩=some (.slice A0 n cap):=(hb1.cell (p:=⟨w.heap.size,0,none⟩) (by show w.heap.size<_;rw [ownOut_size];omega)).trans (ownOut_at ..)
  obtain ⟨hcap,h0 | ⟨b,o,rfl,hMs⟩⟩:=HM.out.later hB
  ·omega
  have HMs:Hid (DimsAt w1 b o n D A C):=hMs
  have HB:Hid (Below w.heap.size w w1):=hB
  have HC:Hid (∀ w',Below w1.heap.size w1 w'→w'.cell? ⟨w.heap.size,0,none⟩=some (.slice (some ⟨b,o,none⟩) n cap)):=fun w' hw'=>(hw'.cell (p:=⟨w.heap.size,0,none⟩) hz).trans h2
  clear hb1 h hMs hB
  go_wp2_with fail
  go_quiet ((go_at_call 77;exact Calls.quiet_of_same (HCT.out _)))
  have HBq:Hid (Below w1.heap.size w1 (w1.drewN nq)):=below_drewN (Below.refl _ _) nq
  have hcq:=HC.out _ HBq.out
  generalize w1.drewN nq=w2 at HBq hcq ⊢
  have hz2:w.heap.size<w2.heap.size:=Nat.lt_of_lt_of_le hz HBq.out.size
  have HB2:Hid (Below w.heap.size w w2):=onB HB.out HBq.out
  have HM2:Hid (DimsAt w2 b o n D A C):=HMs.out.later HBq.out
  have HC2:Hid (∀ w',Below w2.heap.size w2 w'→w'.cell? ⟨w.heap.size,0,none⟩=some (.slice (some ⟨b,o,none⟩) n cap)):=fun w' hw'=>HC.out w' (onB HBq.out hw')
  clear HBq HC HB HMs h2 hz HCT
  by_cases hmn:m=n
  ·have HS0:Hid (∀ w,Calls Tryz.prog 78 #[.string s,.string ⟨#[46]⟩] w fun e w'=>e=.returned (.slice (some ⟨w.heap.size,0,none⟩) m m)∧w'=w.alloc (.cells ((pieces s).map Value.string).toArray 9)):=HSP.out hmn
   have hmb':((m:Int) != (n:Int))=false:=by simp;omega
   subst hmn
   have hmk:=run_make_row' (P:=Tryz.prog) 49 3 (.int .i64 0) 8 Tryz.underlying49 Tryz.infoIntP rfl .i64 .i64 m (by omega) (by omega)
   have hsp:=HS0.out
   have HFD:Hid (∀ i,i<m→(dimErr (D i)).2=0):=(allErr_right HA.out).2
   generalize hps:((pieces s).map Value.string).toArray=ps at hsp
   have HPS:Hid (ps=((pieces s).map Value.string).toArray):=hps.symm
   clear HSP HS0 hps
   go_wp2_with fail
   refine (hsp _).mono ?_
   rintro e w3 ⟨rfl,hw3⟩
   have hg3:w3.heap[w2.heap.size]?=some (.cells ((List.replicate m (0:Int)).map (Value.int .i64)).toArray 3 (0,0)):=by
    rw [hw3,Below.heap_alloc _ _ _ (by simp)]
    exact IntB.made w2 m
   have hs3:w3.heap[w2.heap.size+1]?=some (.cells ps 9 (0,0)):=by
    rw [hw3]
    have:=heap_alloc_new (w2.alloc (.cells (madeCells #[.int .i64 0] m) 3)) (.cells ps 9)
    simpa using this
   have hB3:Below w2.heap.size w2 w3:=by rw [hw3];go_grown
   have HI3:Hid (IntB w3 w2.heap.size (readTo D s m 0)):=by
    show IntB _ _ _
    have e0:readTo D s m 0=List.replicate m 0:=by simp [readTo,readL]
    rw [e0]
    exact hg3
   have HS3:Hid (w3.heap[w2.heap.size+1]?=some (.cells ((pieces s).map Value.string).toArray 9 (0,0))):=by rw [HPS.out] at hs3;exact hs3
   have HB3:Hid (Below w2.heap.size w2 w3):=hB3
   clear hmk hsp hw3 hg3 hs3 hB3
   go_wp2_with fail
   go_loopg [32] m (fun g s32 wr => ∃ (k:Nat),k≤m∧g=m-k∧s32=.int .i64 k∧findFrom (noneB D s) (m-k) k=findFrom (noneB D s) m 0∧IntB wr w2.heap.size (readTo D s m k)∧wr.heap[w2.heap.size+1]?=some (.cells ((pieces s).map Value.string).toArray 9 (0,0))∧Below w2.heap.size w2 wr)
   case atStart=>exact ⟨0,Nat.zero_le _,rfl,rfl,rfl,HI3.out,HS3.out,HB3.out⟩
   case round =>
    obtain ⟨k,hk,rfl,rfl,hf,hI,hS,hBw⟩:=hrel
    have HF:Hid (findFrom (noneB D s) (m-k) k=findFrom (noneB D s) m 0):=hf
    have HI:Hid (IntB wr w2.heap.size (readTo D s m k)):=hI
    have HS:Hid (wr.heap[w2.heap.size+1]?=some (.cells ((pieces s).map Value.string).toArray 9 (0,0))):=hS
    have HW:Hid (Below w2.heap.size w2 wr):=hBw
    by_cases hlt:k<m
    ·obtain ⟨h0,h1,h3,h4⟩:=(HM2.out.later hBw).2 k hlt
     have hki:(k:Int)<(m:Int):=by omega
     have c0:=HC2.out wr hBw
     have cs:=pieceB_cell hS (k:=k) (by rw [Hm.out];exact hlt)
     have HSK:Hid (m-k=(m-(k+1))+1):=by show _=_;omega
     have hfd:=find_any (D k) (A k) (C k) (pieceB s k) wr h4
     unfold dimV at hfd
     have hIz:=hI.lt
     clear hf hI hS hBw h4
     by_cases hpk:pk D s k<0
     ·have HN:Hid (noneB D s k=true):=by show _=_;simp [noneB,hpk]
      rw [findErr_none (HFD.out k hlt) hpk,errV_some (by decide)] at hfd
      have HR:Hid (parseErr D m s=5):=by
       show _=_
       rw [HPE.out,rd1 Hm.out]
       rw [←HF.out,HSK.out,findFrom_hit _ HN.out]
       omega
      have HL:Hid (parseL D m s=[]):=by show _=_;unfold parseL;rw [HR.out];rfl
      clear hpk
      go_wp2_with fail
      refine hfd.mono ?_
      rintro e w4 ⟨rfl,hb4⟩
      go_wp2_with fail
      go_ret2
      rw [HL.out,HR.out]
      exact ⟨⟨none,0,rfl,PlTy.nil _ _ _⟩,onB HB2.out (HW.out.trans (hb4.mono HW.out.size))⟩
     ·have HN:Hid (noneB D s k=false):=by show _=_;simp [noneB];omega
      rw [findErr_some (HFD.out k hlt) hpk,errV_zero] at hfd
      change Calls _ _ _ _ (fun e w'=>e=.returned (.tuple #[.int .i64 (pk D s k),.nilIface])∧_) at hfd
      have HT:Hid ((readTo D s m k).set k (pk D s k)=readTo D s m (k+1)):=readTo_set D s hlt
      have HLn:Hid ((readTo D s m k).length=m):=readTo_len D s hk
      generalize pk D s k=x at hfd hpk HT
      clear hpk
      go_wp2_with fail
      refine hfd.mono ?_
      rintro e w4 ⟨rfl,hb4⟩
      have hI4:=HI.out.later hb4
      have c4:=hI4.cell (j:=k) (by rw [HLn.out];exact hlt)
      have c5:=hI4.frozen k
      have HI4:Hid (IntB w4 w2.heap.size (readTo D s m k)):=hI4
      have HS4:Hid (w4.heap[w2.heap.size+1]?=some (.cells ((pieces s).map Value.string).toArray 9 (0,0))):=(hb4.block _ (Array.getElem?_eq_some_iff.1 HS.out).1).trans HS.out
      have HW4:Hid (Below w2.heap.size w2 w4):=HW.out.trans (hb4.mono HW.out.size)
      generalize (readTo D s m k).getD k 0=old at c4
      clear hfd hb4 hI4 c0 cs h0 h1 h3
      go_wp2_with fail
      go_roundg (m-(k+1))
      case measure=>omega
      case rel =>
       refine ⟨k+1,by omega,rfl,by go_num,by rw [←HF.out,HSK.out,findFrom_miss _ HN.out],?_,?_,HW4.out.setCell (Nat.le_refl _) _⟩
       ·rw [←HT.out];exact HI4.out.set k x
       ·rw [Below.heap_setCell _ _ _ _ (by show w2.heap.size+1≠w2.heap.size;omega)];exact HS4.out
    ·have hke:k=m:=by omega
     subst hke
     have HR:Hid (parseErr D k s=0):=by
      show _=_
      rw [HPE.out,rd2 Hm.out]
      rw [←HF.out,Nat.sub_self]
      show ¬ (0:Int)≤-1
      decide
     have HL:Hid (parseL D k s=readL D s k):=by show _=_;unfold parseL;rw [if_pos HR.out]
     clear hf hI hS hBw
     go_wp2_with fail
     go_ret2
     rw [HL.out,HR.out]
     have hp:=HI.out.ty
     rw [readTo_all] at hp
     rw [readL_len] at hp ⊢
     exact ⟨⟨_,_,rfl,hp⟩,onB HB2.out HW.out⟩
  ·have hmb':((m:Int) != (n:Int))=true:=by simp;omega
   have HR:Hid (parseErr D n s=2):=by show _=_;rw [HPE.out,rd0 (by rw [Hm.out];exact hmn)]
   have HL:Hid (parseL D n s=[]):=by show _=_;unfold parseL;rw [HR.out];rfl
   go_wp2_with fail
   go_ret2
   rw [HL.out,HR.out]
   exact ⟨⟨none,0,rfl,PlTy.nil _ _ _⟩,HB2.out⟩
 ·have HE:Hid (parseErr D n s=(allErr D n).2.2):=pa0 he
  have HL:Hid (parseL D n s=[]):=by show _=_;unfold parseL;rw [HE.out,if_neg he]
  have HV:Hid (errV (allErr D n).2.2=.iface 65 (.int .i64 (allErr D n).2.2)):=errV_some he
  rw [errV_some he] at h
  clear he
  generalize (allErr D n).2.2=c at h HE HV
  go_enter Tryz.func51,Tryz.ntmps51
  go_wp2_with fail
  refine h.mono ?_
  rintro e w1 ⟨rfl,hb1⟩
  go_wp2_with fail
  go_ret2
  rw [HL.out,HE.out,HV.out]
  exact ⟨⟨none,0,rfl,PlTy.nil _ _ _⟩,onB HB0.out hb1⟩
theorem rcheck_any (d:Dm) (A:Option Addr) (cap:Nat) (w:World) (hM:MemsV w A cap d.n d.mem):Calls Tryz.prog 40 #[dimV d A cap] w fun e w'=>e=.returned (.tuple #[.int .i64 (rErr d).1,errV (rErr d).2])∧Below w.heap.size w w':=by
 have hB0:=ownDim_below w d A cap 43
 have hn:=rneeds_any d A cap (ownDim w d A cap 43) (hM.later hB0)
 obtain ⟨d0,d1,d2,hqW⟩:=dim_cells (w:=w) (d:=d) (A:=A) (cap:=cap) (Below.refl _ _)
 have HB0:Hid (Below w.heap.size w (ownDim w d A cap 43)):=hB0
 unfold dimV at hn ⊢
 obtain ⟨W,hW⟩:∃ W,ownDim w d A cap 43=W:=⟨_,rfl⟩
 rw [hW] at d0 d1 d2 hqW HB0 hn
 unfold ownDim at hW
 generalize errV (rErr d).2=ev at hn ⊢
 generalize (rErr d).1=x at hn ⊢
 clear hM hB0
 go_enter Tryz.func40,Tryz.ntmps40
 go_wp2_with fail
 refine hn.mono ?_
 rintro e w1 ⟨⟨A1,c1,xs,rfl,-⟩,hb1⟩
 go_wp2_with fail
 go_ret2
 exact ⟨rfl,onB HB0.out hb1⟩
theorem isnan_any (x:Int) (w:World):Calls Tryz.prog 133 #[.int .i64 x] w fun e w'=>e=.returned (.bool false)∧w'=w:=by
 go_enter Tryz.func133,Tryz.ntmps133
 go_wp2_with fail
 go_ret
 exact ⟨rfl,rfl⟩
def cmpI (x y:Int):Int:=if x<y then -1 else if y<x then 1 else 0
set_option maxHeartbeats 1000000 in
theorem compare_any (x y:Int) (w:World):Calls Tryz.prog 94 #[.int .i64 x,.int .i64 y] w fun e w'=>e=.returned (.int .i64 (cmpI x y))∧w'=w:=by
 have h1:=isnan_any x
 have h2:=isnan_any y
 by_cases hxy:x<y
 ·have HV:Hid (cmpI x y = -1):=by show _=_;unfold cmpI;rw [if_pos hxy]
  go_enter Tryz.func94,Tryz.ntmps94
  go_wp2_with fail
  refine (h1 _).mono ?_
  rintro e w1 ⟨rfl,rfl⟩
  go_wp2_with fail
  refine (h2 _).mono ?_
  rintro e w2 ⟨rfl,rfl⟩
  go_wp2_with fail
  go_ret
  rw [HV.out]
  exact ⟨rfl,rfl⟩
 ·by_cases hyx:y<x
  ·have HV:Hid (cmpI x y=1):=by show _=_;unfold cmpI;rw [if_neg hxy,if_pos hyx]
   go_enter Tryz.func94,Tryz.ntmps94
   go_wp2_with fail
   refine (h1 _).mono ?_
   rintro e w1 ⟨rfl,rfl⟩
   go_wp2_with fail
   refine (h2 _).mono ?_
   rintro e w2 ⟨rfl,rfl⟩
   go_wp2_with fail
   go_ret
   rw [HV.out]
   exact ⟨rfl,rfl⟩
  ·have HV:Hid (cmpI x y=0):=by show _=_;unfold cmpI;rw [if_neg hxy,if_neg hyx]
   have e:x=y:=by omega
   subst e
   go_enter Tryz.func94,Tryz.ntmps94
   go_wp2_with fail
   refine (h1 _).mono ?_
   rintro e w1 ⟨rfl,rfl⟩
   go_wp2_with fail
   refine (h2 _).mono ?_
   rintro e w2 ⟨rfl,rfl⟩
   go_wp2_with fail
   go_ret
   rw [HV.out]
   exact ⟨rfl,rfl⟩
set_option maxHeartbeats 2000000 in
theorem scompare_any (A B:Option Addr) (ca cb:Nat) (a b:List Int) (w:World) (ha:a.length≤4) (hb:b.length≤4) (hA:PlAt w A ca a) (hB:PlAt w B cb b):Calls Tryz.prog 61 #[.slice A a.length ca,.slice B b.length cb] w fun e w'=>e=.returned (.int .i64 (cmpL a b))∧w'=w:=by
 have HA:Hid (PlAt w A ca a):=hA
 have HB:Hid (PlAt w B cb b):=hB
 have HN:Hid (∀ k,k<a.length→k<b.length→cmpL (a.drop k) (b.drop k)=if a.getD k 0<b.getD k 0 then -1 else if b.getD k 0<a.getD k 0 then 1 else cmpL (a.drop (k+1)) (b.drop (k+1))):=fun k h1 h2=>cmpL_in h1 h2
 have HL:Hid (∀ k,k<a.length→b.length≤k→cmpL (a.drop k) (b.drop k)=1):=fun k h1 h2=>cmpL_long h1 h2
 have HS:Hid (∀ k,a.length≤k→k<b.length→cmpL (a.drop k) (b.drop k) = -1):=fun k h1 h2=>cmpL_short h1 h2
 have HE:Hid (∀ k,a.length≤k→b.length≤k→cmpL (a.drop k) (b.drop k)=0):=fun k h1 h2=>cmpL_end h1 h2
 obtain ⟨na,hna⟩:∃ na,a.length=na:=⟨_,rfl⟩
 obtain ⟨nb,hnb⟩:∃ nb,b.length=nb:=⟨_,rfl⟩
 have HNA:Hid (a.length=na):=hna
 have HNB:Hid (b.length=nb):=hnb
 rw [hna] at HN HL HS HE ha
 rw [hnb] at HN HL HS HE hb
 rw [hna,hnb]
 have ha':(na:Int)≤4:=by omega
 have hb':(nb:Int)≤4:=by omega
 clear hA hB hna hnb
 go_enter Tryz.func61,Tryz.ntmps61
 go_wp2_with fail
 go_loopg [11] na (fun g s11 wr => ∃ (k:Nat),k≤na∧k≤nb∧g=na-k∧s11=.int .i64 k∧Hid (cmpL (a.drop k) (b.drop k)=cmpL a b)∧wr=w)
 case atStart=>exact ⟨0,Nat.zero_le _,Nat.zero_le _,rfl,rfl,(rfl:cmpL (a.drop 0) (b.drop 0)=cmpL a b),rfl⟩
 case round =>
  obtain ⟨k,hk,hk2,rfl,rfl,HF,hw⟩:=hrel
  subst hw
  by_cases hlt:k<na
  ·obtain ⟨hc,h0 | ⟨g1,o1,rfl,hbw,hcell⟩⟩:=HA.out
   ·have:=HNA.out;rw [h0] at this;simp at this;omega
   have x1:=hcell k (by rw [HNA.out];exact hlt)
   have hki:(k:Int)<(na:Int):=by omega
   by_cases hlb:k<nb
   ·obtain ⟨hc',h0 | ⟨g2,o2,rfl,hbw2,hcell2⟩⟩:=HB.out
    ·have:=HNB.out;rw [h0] at this;simp at this;omega
    have x2:=hcell2 k (by rw [HNB.out];exact hlb)
    have hkb:(k:Int)<(nb:Int):=by omega
    have hst:=HN.out k hlt hlb
    have hcmp:=compare_any (a.getD k 0) (b.getD k 0) wr
    generalize a.getD k 0=x at x1 hst hcmp
    generalize b.getD k 0=y at x2 hst hcmp
    have HST:Hid (cmpL (a.drop k) (b.drop k)=if x<y then -1 else if y<x then 1 else cmpL (a.drop (k+1)) (b.drop (k+1))):=hst
    clear hcell hcell2 hst
    by_cases hxy:x<y
    ·have hv:cmpI x y = -1:=by unfold cmpI;rw [if_pos hxy]
     rw [hv] at hcmp
     have HR:Hid (cmpL a b = -1):=by show _=_;rw [←HF.out,HST.out,if_pos hxy]
     clear hv hxy
     go_wp2_with fail
     refine hcmp.mono ?_
     rintro e w1 ⟨rfl,rfl⟩
     go_wp2_with fail
     go_ret
     rw [HR.out]
     exact ⟨rfl,rfl⟩
    ·by_cases hyx:y<x
     ·have hv:cmpI x y=1:=by unfold cmpI;rw [if_neg hxy,if_pos hyx]
      rw [hv] at hcmp
      have HR:Hid (cmpL a b=1):=by show _=_;rw [←HF.out,HST.out,if_neg hxy,if_pos hyx]
      clear hv hxy hyx
      go_wp2_with fail
      refine hcmp.mono ?_
      rintro e w1 ⟨rfl,rfl⟩
      go_wp2_with fail
      go_ret
      rw [HR.out]
      exact ⟨rfl,rfl⟩
     ·have hv:cmpI x y=0:=by unfold cmpI;rw [if_neg hxy,if_neg hyx]
      rw [hv] at hcmp
      have HR:Hid (cmpL (a.drop (k+1)) (b.drop (k+1))=cmpL a b):=by show _=_;rw [←HF.out,HST.out,if_neg hxy,if_neg hyx]
      clear hv hxy hyx
      go_wp2_with fail
      refine hcmp.mono ?_
      rintro e w1 ⟨rfl,rfl⟩
      go_wp2_with fail
      go_roundg (na-(k+1))
      case measure=>omega
      case rel=>exact ⟨k+1,by omega,by omega,rfl,by go_num,HR,rfl⟩
   ·have HR:Hid (cmpL a b=1):=by show _=_;rw [←HF.out,HL.out k hlt (by omega)]
    have hkb:(nb:Int)≤(k:Int):=by omega
    clear hcell
    generalize a.getD k 0=x at x1
    go_wp2_with fail
    go_ret
    rw [HR.out]
    exact ⟨rfl,rfl⟩
  ·have hke:k=na:=by omega
   subst hke
   by_cases hlb:k<nb
   ·have HR:Hid (cmpL a b = -1):=by show _=_;rw [←HF.out,HS.out k (Nat.le_refl _) hlb]
    have hkb:(k:Int)<(nb:Int):=by omega
    go_wp2_with fail
    go_ret
    rw [HR.out]
    exact ⟨rfl,rfl⟩
   ·have HR:Hid (cmpL a b=0):=by show _=_;rw [←HF.out,HE.out k (Nat.le_refl _) (by omega)]
    have hkb:(nb:Int)≤(k:Int):=by omega
    go_wp2_with fail
    go_ret
    rw [HR.out]
    exact ⟨rfl,rfl⟩
theorem order_any (A B:Option Addr) (ca cb:Nat) (a b:List Int) (N:Int) (w:World) (ha:a.length≤4) (hb:b.length≤4) (hA:PlAt w A ca a) (hB:PlAt w B cb b):Calls Tryz.prog 42 #[.agg #[.slice A a.length ca,.int .i64 N],.slice B b.length cb] w fun e w'=>e=.returned (.int .i64 (cmpL a b))∧Below w.heap.size w w':=by
 have h0:∀ w',Below w.heap.size w w'→Calls Tryz.prog 61 #[.slice A a.length ca,.slice B b.length cb] w' fun e w''=>e=.returned (.int .i64 (cmpL a b))∧w''=w':=fun w' hw'=>scompare_any A B ca cb a b w' ha hb (hA.later hw') (hB.later hw')
 have H:Hid (∀ w',Below w.heap.size w w'→Calls Tryz.prog 61 #[.slice A a.length ca,.slice B b.length cb] w' fun e w''=>e=.returned (.int .i64 (cmpL a b))∧w''=w'):=h0
 generalize cmpL a b=c at H
 generalize a.length=na at H
 generalize b.length=nb at H
 clear hA hB h0 ha hb
 go_enter Tryz.func42,Tryz.ntmps42
 go_wp2_with fail
 refine (H.out _ (by go_grown)).mono ?_
 rintro e w1 ⟨rfl,rfl⟩
 go_wp2_with fail
 go_ret
 exact ⟨rfl,by go_grown⟩
end Go.Proofs.YtinebmjpdkjooaaGreatDoor
namespace Go.Proofs.YtinebmjpdkjooaaGreatDoor
open Go.ChangeShapes Go.WideShapes Go.ChangeAt Go.RowKit
theorem dig_fin:∀ p:Fin 10,(ByteArray.mk #[48,49,50,51,52,53,54,55,56,57]).extract p.val (p.val+1)=⟨#[UInt8.ofNat (48+p.val)]⟩:=by decide +kernel
theorem dig_piece (d:Nat) (h:d<10):(ByteArray.mk #[48,49,50,51,52,53,54,55,56,57]).extract d (d+1)=⟨#[UInt8.ofNat (48+d)]⟩:=dig_fin ⟨d,h⟩
theorem digits_one (u:Nat) (h:u<10) (w:World):Calls Tryz.prog 14 #[.int .i64 u] w fun e w'=>e=.returned (.string ⟨(Lib.decDigits u).toArray⟩)∧w'=w:=by
 have h1:(u:Int)<10:=by omega
 go_enter Tryz.func14,Tryz.ntmps14
 go_wp2
 go_ret
 exact ⟨by rw [dig_piece u h,Lib.decDigits_one h];rfl,rfl⟩
theorem digits_more (u:Nat) (h:10≤u) (hu:u≤1000000000000) (w:World) (ih:∀ w:World,Calls Tryz.prog 14 #[.int .i64 ((u / 10:Nat):Int)] w fun e w'=>e=.returned (.string ⟨(Lib.decDigits (u / 10)).toArray⟩)∧w'=w):Calls Tryz.prog 14 #[.int .i64 u] w fun e w'=>e=.returned (.string ⟨(Lib.decDigits u).toArray⟩)∧w'=w:=by
 have h1:(10:Int)≤u:=by omega
 have h2:(u:Int)≤1000000000000:=by omega
 have ih':∀ w:World,Calls Tryz.prog 14 #[.int .i64 ((u:Int) / 10)] w fun e w'=>e=.returned (.string ⟨(Lib.decDigits (u / 10)).toArray⟩)∧w'=w:=by
  rw [show ((u:Int) / 10)=((u / 10:Nat):Int) from by omega]
  exact ih
 have hsz:(Lib.decDigits (u / 10)).length≤15:=nDigits_le _ 15 (by omega) (by omega)
 have hfin:(ByteArray.mk (Lib.decDigits (u / 10)).toArray) ++ (ByteArray.mk #[UInt8.ofNat (48+u % 10)])=⟨(Lib.decDigits u).toArray⟩:=by
  rw [Lib.decDigits.eq_1 u,dif_neg (by omega)]
  apply ByteArray.ext
  simp
 have HF:Hid ((ByteArray.mk (Lib.decDigits (u / 10)).toArray) ++ (ByteArray.mk #[UInt8.ofNat (48+u % 10)])=⟨(Lib.decDigits u).toArray⟩):=hfin
 have hs1:(ByteArray.mk (Lib.decDigits (u / 10)).toArray).size≤15:=by
  show (Lib.decDigits (u / 10)).toArray.size≤15
  simpa using hsz
 clear hfin ih hsz
 generalize ByteArray.mk (Lib.decDigits (u / 10)).toArray=s0 at ih' HF hs1
 generalize ByteArray.mk (Lib.decDigits u).toArray=s1 at HF ⊢
 obtain ⟨d,hd0⟩:∃ d:Nat,u % 10=d:=⟨_,rfl⟩
 have hd:(u:Int) % 10=(d:Int):=by omega
 have hd1:(d:Int)<10:=by omega
 have hd2:d<10:=by omega
 rw [hd0] at HF
 go_enter Tryz.func14,Tryz.ntmps14
 go_wp2_with fail
 refine (ih' _).mono ?_
 rintro e w1 ⟨rfl,rfl⟩
 go_wp2_with fail
 go_ret
 exact ⟨by rw [dig_piece d hd2,HF.out];rfl,rfl⟩
theorem digits_nat (u:Nat) (hu:u≤1000000000000):∀ w:World,Calls Tryz.prog 14 #[.int .i64 u] w fun e w'=>e=.returned (.string ⟨(Lib.decDigits u).toArray⟩)∧w'=w:=by
 induction u using Nat.strongRecOn with
 | _ u ih =>
  intro w
  by_cases h:u<10
  ·exact digits_one u h w
  ·exact digits_more u (by omega) hu w (ih (u / 10) (by omega) (by omega))
theorem digits_any (n:Int) (h1 : -1000000000000≤n) (h2:n≤1000000000000) (w:World):Calls Tryz.prog 14 #[.int .i64 n] w fun e w'=>e=.returned (.string ⟨(Lib.itoa n).toArray⟩)∧w'=w:=by
 unfold Lib.itoa
 by_cases h:n<0
 ·rw [if_pos h]
  have hd:=digits_nat n.natAbs (by omega)
  rw [show ((n.natAbs:Nat):Int) = -n from by omega] at hd
  have hsz:(Lib.decDigits n.natAbs).length≤15:=nDigits_le _ 15 (by omega) (by omega)
  have hfin:(ByteArray.mk #[45]) ++ (ByteArray.mk (Lib.decDigits n.natAbs).toArray)=⟨(45 :: Lib.decDigits n.natAbs).toArray⟩:=by
   apply ByteArray.ext
   simp
  have HF:Hid ((ByteArray.mk #[45]) ++ (ByteArray.mk (Lib.decDigits n.natAbs).toArray)=⟨(45 :: Lib.decDigits n.natAbs).toArray⟩):=hfin
  have hs1:(ByteArray.mk (Lib.decDigits n.natAbs).toArray).size≤15:=by
   show (Lib.decDigits n.natAbs).toArray.size≤15
   simpa using hsz
  clear hfin hsz
  generalize ByteArray.mk (Lib.decDigits n.natAbs).toArray=s0 at hd HF hs1
  generalize ByteArray.mk (45 :: Lib.decDigits n.natAbs).toArray=s1 at HF ⊢
  go_enter Tryz.func14,Tryz.ntmps14
  go_wp2_with fail
  refine (hd _).mono ?_
  rintro e w1 ⟨rfl,rfl⟩
  go_wp2_with fail
  go_ret
  exact ⟨by rw [HF.out];rfl,rfl⟩
 ·rw [if_neg h]
  obtain ⟨u,rfl⟩:∃ u:Nat,n=(u:Int):=⟨n.toNat,by omega⟩
  exact digits_nat u (by omega) w
end Go.Proofs.YtinebmjpdkjooaaGreatDoor
namespace Go.Proofs.YtinebmjpdkjooaaGreatDoor
open Go Go.ChangeShapes Go.WideShapes Go.ChangeAt Go.RowKit
theorem post_below {H:Type} {enc:TypeId×Value→H} {P:Program} {f:Func} {s:ChangeSpec} {apart fresh handsOn:Bool} {W W':World} {args:Array Value} {v:Value} {ds gs:List (DataW H)} {before pa pv:List MemPlace}
  (hW:DataW.Whole enc P f.params.toList s.vars apart W args.toList ds gs before)
  (hres:∀ (b:Nat) (sp:Nat→Bool) (hd:Bool),DataW.TrodAll enc P W' b sp hd f.resultTypes.toList (v.resultList f.resultTypes.size) (s.fn H (ds ++ gs)).results [])
  (hargs:∀ sp:Nat→Bool,(∀ p∈before,sp p.block=true)→DataW.TrodAll enc P W' 0 sp true f.params.toList args.toList (s.fn H (ds ++ gs)).args pa)
  (hvars:∀ sp:Nat→Bool,(∀ p∈before,sp p.block=true)→DataW.TrodVars enc P W' sp s.vars (s.fn H (ds ++ gs)).vars pv)
  (hps:before=pa ++ pv) (hk:W.keptBut W' (·∈before)) :
  s.post enc P f apart fresh handsOn false W args v W':=by
 have hold:∀ p∈before,(fun b=>decide (b<W.heap.size)) p.block=true:=fun p hp=>by simpa using hW.lt p hp
 refine ⟨ds,gs,before,[],pa,pv,hW,hres _ _ _,hargs _ hold,hvars _ hold,World.keptBut_mono (fun p hp=>⟨hp,?_⟩) hk,fun h=>by cases h⟩
 rw [hps,List.mem_append] at hp
 exact Or.inr hp
end Go.Proofs.YtinebmjpdkjooaaGreatDoor
