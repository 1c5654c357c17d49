/-
  What Print of package sheet answers, in whatever memory: the cube as text, or its error.
-/
import Derived.Shelf.Spec.SlicesInsertGrow
import Derived.Test.YtpoklbfffgpbiaaGreatDoorJYBM
namespace Go.Proofs.YtpoklbfffgpbiaaGreatDoor
open Go Go.ChangeShapes Go.WideShapes Go.ChangeAt Go.RowKit
set_option maxRecDepth 20000
set_option maxHeartbeats 4000000
theorem sprint_any (A0:Option Addr) (cap n:Nat) (D:Nat→Dm) (A:Nat→Option Addr) (C:Nat→Nat) (AE:Option Addr) (ce:Nat) (xs:List EnL) (w:World) (hT:TabE w) (hM:DimsV w A0 cap n D A C) (hEn:EnsV w AE ce xs) :
  Calls Tryz.prog 6 #[.agg #[.slice A0 n cap],.slice AE xs.length ce] w fun e w'=>e=.returned (.tuple #[.string (shV D n (lE xs)),errV (shE D n (lE xs))])∧Below w.heap.size w w':=by
 by_cases hok:shE D n (lE xs)=0
 ·have h:=sprint_right A0 cap n D A C AE ce xs w hok hT hM hEn
  unfold shV
  rw [if_pos hok,hok,errV_zero]
  exact h
 ·have HV:Hid (shV D n (lE xs)=⟨#[]⟩):=by show _=_;unfold shV;rw [if_neg hok]
  have HE:Hid (errV (shE D n (lE xs))=.iface 70 (.int .i64 (shE D n (lE xs)))):=errV_some hok
  have hB0:=ownOut_below w A0 n cap 24
  have h1:=rulall_any A0 cap n D A C (ownOut w A0 n cap 24) (hM.later hB0)
  have HB0:=hid_of hB0
  obtain ⟨f1,f2,hf⟩:∃ f1 f2,(ruErr D n).1=f1∧(ruErr D n).2.1=f2:=⟨_,_,rfl,rfl⟩
  rw [hf.1,hf.2] at h1
  by_cases hr:(ruErr D n).2.2=0
  ·have hs:shE D n (lE xs)=entsErr D n (lE xs):=by unfold shE;rw [if_neg (by simpa using hr)]
   rw [hs] at hok
   rw [hr,errV_zero] at h1
   have HR1:Hid (∀ w',Below (ownOut w A0 n cap 24).heap.size (ownOut w A0 n cap 24) w'→Calls Tryz.prog 12 #[.agg #[.slice A0 n cap],.slice AE xs.length ce] w' fun r w''=>r=.returned (.iface 70 (.int .i64 (shE D n (lE xs))))∧Below w'.heap.size w' w''):=fun w' hb=>by
    have h:=icheck_any A0 cap n D A C AE ce xs w' (hM.later (onB hB0 hb)) (hEn.later (onB hB0 hb))
    rw [errV_some hok,←hs] at h
    exact h
   have hat:=ownOut_at w A0 n cap 24
   have hsz:=ownOut_size w A0 n cap 24
   generalize shE D n (lE xs)=c at HR1 HE
   generalize xs.length=xl at HR1
   clear hok hr hM hEn hT hB0 hf hs
   go_enter Tryz.func6,Tryz.ntmps6
   go_wp2_with fail
   refine h1.mono ?_
   rintro e w1 ⟨rfl,hb1⟩
   have hc1:w1.cell? ⟨w.heap.size,0,none⟩=some (.slice A0 n cap):=(hb1.cell (p:=⟨w.heap.size,0,none⟩) (by show w.heap.size<_;omega)).trans hat
   have h2:=HR1.out w1 hb1
   have HB1:=hid_of (onB HB0.out hb1)
   clear h1 hb1
   go_wp2_with fail
   refine h2.mono ?_
   rintro e w2 ⟨rfl,hb2⟩
   go_wp2_with fail
   go_ret2
   rw [HV.out,HE.out]
   exact ⟨rfl,onB HB1.out hb2⟩
  ·have hs:shE D n (lE xs)=(ruErr D n).2.2:=by unfold shE;rw [if_pos hr]
   rw [errV_some hr,←hs] at h1
   generalize shE D n (lE xs)=c at h1 HE
   generalize xs.length=xl
   clear hok hr hM hEn hT hB0 hf hs
   go_enter Tryz.func6,Tryz.ntmps6
   go_wp2_with fail
   refine h1.mono ?_
   rintro e w1 ⟨rfl,hb1⟩
   go_wp2_with fail
   go_ret2
   rw [HV.out,HE.out]
   exact ⟨rfl,onB HB0.out hb1⟩
end Go.Proofs.YtpoklbfffgpbiaaGreatDoor
namespace Go.Proofs.YtpoklbfffgpbiaaGreatDoor
def AllR (D:Nat→Dm) (n:Nat):Prop := ∀ i,i<n→(rErr (D i)).2=0
end Go.Proofs.YtpoklbfffgpbiaaGreatDoor
namespace Go.Proofs.YtpoklbfffgpbiaaGreatDoor
open Go.ChangeShapes Go.WideShapes Go.ChangeAt Go.RowKit
set_option maxRecDepth 20000
theorem ru_right {D:Nat→Dm} {n:Nat} (h:(ruErr D n).2.2=0):(allErr D n).2.2=0∧AllR D n:=by
 by_cases h1:(allErr D n).2.2=0
 ·refine ⟨h1,Classical.byContradiction fun hn=>?_⟩
  have hex:∃ i,i<n∧(rErr (D i)).2≠0:=Classical.byContradiction fun he=>hn fun i hi=>Classical.byContradiction fun hb=>he ⟨i,hi,hb⟩
  have hleast:∀ m,(∃ i,i<m∧i<n∧(rErr (D i)).2≠0)→∃ i,i<n∧(rErr (D i)).2≠0∧∀ j,j<i→(rErr (D j)).2=0:=by
   intro m
   induction m with
   | zero=>rintro ⟨i,h,-⟩;omega
   | succ m ih =>
    rintro ⟨i,h3,h4,h5⟩
    by_cases hm:∃ i,i<m∧i<n∧(rErr (D i)).2≠0
    ·exact ih hm
    ·exact ⟨i,h4,h5,fun j hj=>Classical.byContradiction fun hb=>hm ⟨j,by omega,by omega,hb⟩⟩
  obtain ⟨i0,hi0,hb0⟩:=hex
  obtain ⟨i,hi,hb,hf⟩:=hleast n ⟨i0,hi0,hi0,hb0⟩
  rw [ru1 h1 hi hb hf] at h
  exact hb h
 ·rw [ru0 h1] at h
  exact absurd h h1
theorem ru_zero {D:Nat→Dm} {n:Nat} (h1:(allErr D n).2.2=0) (h2:AllR D n):(ruErr D n).2.2=0:=by rw [ru2 h1 h2]
end Go.Proofs.YtpoklbfffgpbiaaGreatDoor
namespace Go.Proofs.YtpoklbfffgpbiaaGreatDoor
def okF (c:Int):Prop:=c=40∨c=41∨digB c=true∨letB c=true∨0≤signI c
theorem next_here {s:ByteArray} {a:Nat} (h:a<s.size):nextB s a=byteN s a:=by unfold nextB;rw [if_neg (by omega)]
theorem byte_ext_at {s:ByteArray} {a n i:Nat} (hi:i<n):byteN (s.extract a (a+n)) i=byteN s (a+i):=by
 unfold byteN
 rw [ByteArray.data_extract,Array.toList_extract,List.extract_eq_take_drop,List.getD_eq_getElem?_getD,List.getD_eq_getElem?_getD,List.getElem?_take_of_lt (by omega),List.getElem?_drop]
theorem run_good {S:Type} (s:ByteArray) (tk:S→ByteArray→S):∀ (f:Nat) (ph:Bool) (r:Rd S),r.at'≤s.size→(runR s tk f ph r).2=true→∀ i,r.at'≤i→i<s.size→okF (byteN s i)
 | 0,_,_,_,h,_,_,_=>by simp [runR] at h
 | f+1,false,r,hr,h,i,h1,h2=>by
  rw [runR] at h
  have hn:=next_here (s:=s) (a:=r.at') (by omega)
  by_cases c1:nextB s r.at'=40
  ·rw [if_pos c1] at h
   by_cases e:i=r.at'
   ·subst e;rw [←hn];exact Or.inl c1
   ·exact run_good s tk f false _ (show r.at'+1≤s.size by omega) h i (show r.at'+1≤i by omega) h2
  rw [if_neg c1] at h
  by_cases c2:digB (nextB s r.at')=true
  ·rw [if_pos c2] at h
   have hd:=dig_pos hr c2
   by_cases e:i<r.at'+digitsN s r.at'
   ·by_cases c0:nextB s r.at'=48
    ·have e1:i=r.at':=by unfold digitsN at e;rw [if_pos c0] at e;omega
     subst e1;rw [←hn];exact Or.inr (Or.inr (Or.inl c2))
    ·have hm:digitsN s r.at'≤leadN digB (s.extract r.at' s.size):=by unfold digitsN;rw [if_neg c0];exact Nat.min_le_left _ _
     have hw:=(lead_word (by omega) c2 hm).2.2 (i-r.at') (by omega)
     rw [byte_ext_at (by omega),show r.at'+(i-r.at')=i by omega] at hw
     exact Or.inr (Or.inr (Or.inl hw))
   ·exact run_good s tk f true _ hd.2 h i (show r.at'+digitsN s r.at'≤i by omega) h2
  rw [if_neg c2] at h
  by_cases c3:letB (nextB s r.at')=true
  ·rw [if_pos c3] at h
   have hd:=let_pos hr c3
   by_cases e:i<r.at'+leadN letB (s.extract r.at' s.size)
   ·have hw:=(lead_word (by omega) c3 (Nat.le_refl _)).2.2 (i-r.at') (by omega)
    rw [byte_ext_at (by omega),show r.at'+(i-r.at')=i by omega] at hw
    exact Or.inr (Or.inr (Or.inr (Or.inl hw)))
   ·exact run_good s tk f true _ hd.2 h i (show r.at'+leadN letB (s.extract r.at' s.size)≤i by omega) h2
  rw [if_neg c3] at h
  cases h
 | f+1,true,r,hr,h,i,h1,h2=>by
  rw [runR] at h
  have hn:=next_here (s:=s) (a:=r.at') (by omega)
  by_cases c1:0<r.opn∧nextB s r.at'=41
  ·rw [if_pos c1] at h
   by_cases e:i=r.at'
   ·subst e;rw [←hn];exact Or.inr (Or.inl c1.2)
   ·exact run_good s tk f true _ (show r.at'+1≤s.size by omega) h i (show r.at'+1≤i by omega) h2
  rw [if_neg c1,if_pos (by omega)] at h
  by_cases c3:signI (nextB s r.at')<0
  ·rw [if_pos c3] at h;cases h
  ·rw [if_neg c3] at h
   by_cases e:i=r.at'
   ·subst e;rw [←hn];exact Or.inr (Or.inr (Or.inr (Or.inr (by omega))))
   ·exact run_good s tk f false _ (show r.at'+1≤s.size by omega) h i (show r.at'+1≤i by omega) h2
theorem prs_good {s:ByteArray} (h:prsE s=0):∀ i,i<s.size→okF (byteN s i):=by
 unfold prsE at h
 split at h
 ·split at h <;> cases h
 ·split at h
  ·rename_i h1
   unfold goneB at h1
   rw [all_end_eq (Nat.zero_le _)] at h1
   exact fun i hi=>run_good s takeB _ false ⟨0,0,noB⟩ (Nat.zero_le _) h1 i (Nat.zero_le _) hi
  ·cases h
theorem okF_not {c:Int} (h:okF c):c≠10∧c≠32:=by
 refine ⟨fun e=>?_,fun e=>?_⟩ <;> subst e <;> rcases h with h | h | h | h | h <;> revert h <;> decide
theorem fo_good {D:Nat→Dm} {n i k:Nat} (h:(ruErr D n).2.2=0) (hi:i<n) (hk:k<(D i).n):∀ c∈((D i).mem k).formula.data.toList,c≠10∧c≠32:=by
 have hm:mErr (D i) k=0:=(rErr_right ((ru_right h).2 i hi)).2.1 k hk
 intro c hc
 obtain ⟨j,hj,he⟩:=List.getElem_of_mem hc
 unfold mErr at hm
 split at hm
 ·rename_i h0
  simp at hj
  omega
 ·split at hm
  ·rename_i h1;exact absurd hm h1
  ·rename_i h1
   have h2:=okF_not (prs_good (by simpa using h1) j (by simpa using hj))
   unfold byteN at h2
   rw [List.getD_eq_getElem?_getD,List.getElem?_eq_getElem hj,he] at h2
   exact ⟨fun e=>h2.1 (by rw [e];rfl),fun e=>h2.2 (by rw [e];rfl)⟩
end Go.Proofs.YtpoklbfffgpbiaaGreatDoor
namespace Go.Proofs.YtpoklbfffgpbiaaGreatDoor
open Go.ChangeShapes Go.WideShapes Go.ChangeAt Go.RowKit
set_option maxRecDepth 20000
theorem bare_rule {d:Dm} (hd:(dimErr d).2=0) (hf:∀ k,k<d.n→(d.mem k).formula.size=0):(rErr d).2=0:=by
 have ht:=Tr.of hd
 rw [re3 hd (fun j hj=>by unfold mErr;rw [if_pos (hf j hj)]) fun j _=>by
  refine up_acyc (fun a x hx=>?_) j
  unfold rowN at hx
  by_cases ha:a.toNat<d.n
  ·rw [ndL_at ha] at hx
   unfold mNd at hx
   obtain ⟨m,rfl,hm,hb⟩:=selTo_mem x hx
   unfold needB at hb
   rw [if_pos (hf _ ha),Bool.and_eq_true] at hb
   have h1:(d.mem m).parent=((a.toNat:Nat):Int):=by have:=hb.1;unfold partB at this;simpa using this
   have h2:=(ht m hm).2
   omega
  ·rw [List.getD_eq_getElem?_getD,List.getElem?_eq_none (by rw [ndL_len];omega)] at hx
   cases hx]
theorem bare_right {D:Nat→Dm} {n:Nat} (hE:(allErr D n).2.2=0) (hf:∀ i,i<n→∀ k,k<(D i).n→((D i).mem k).formula.size=0):(ruErr D n).2.2=0:=ru_zero hE fun i hi=>bare_rule ((allErr_right hE).2 i hi) (hf i hi)
end Go.Proofs.YtpoklbfffgpbiaaGreatDoor
namespace Go.Proofs.YtpoklbfffgpbiaaGreatDoor
open Go Go.ChangeShapes Go.WideShapes Go.ChangeAt Go.RowKit
set_option maxRecDepth 20000
theorem itoa_no (x:Int):∀ c∈Lib.itoa x,c≠10∧c≠32:=by
 intro c hc
 have key:∀ u,c∈Lib.decDigits u→c≠10∧c≠32:=by
  intro u h
  obtain ⟨h1,-⟩:=num_all u c h
  refine ⟨fun e=>?_,fun e=>?_⟩ <;> subst e <;> revert h1 <;> decide
 unfold Lib.itoa at hc
 split at hc
 ·rcases List.mem_cons.1 hc with rfl | h
  ·decide
  ·exact key _ h
 ·exact key _ hc
theorem name_no {s:ByteArray} (h:nameErr s=0):∀ c∈s.data.toList,c≠10∧c≠32:=by
 intro c hc
 obtain ⟨j,hj,he⟩:=List.getElem_of_mem hc
 have h2:=(name_first h).2.2 j (by simpa using hj)
 unfold byteN at h2
 rw [List.getD_eq_getElem?_getD,List.getElem?_eq_getElem hj,he] at h2
 refine ⟨fun e=>?_,fun e=>?_⟩ <;> subst e <;> revert h2 <;> decide
theorem paB_no (x:Int):∀ c∈paB x,c≠10∧c≠32:=by
 intro c hc
 unfold paB at hc
 split at hc
 ·exact itoa_no _ _ hc
 ·rw [List.mem_singleton] at hc;subst hc;decide
theorem sgT_no (x:Int):∀ c∈sgT x,c≠10∧c≠32:=by
 intro c hc
 unfold sgT at hc
 split at hc
 ·rw [List.mem_singleton] at hc;subst hc;decide
 ·split at hc <;> (rw [List.mem_singleton] at hc;subst hc;decide)
theorem foB_no {s:ByteArray} (h:∀ c∈s.data.toList,c≠10∧c≠32):∀ c∈foB s,c≠10∧c≠32:=by
 intro c hc
 unfold foB at hc
 split at hc
 ·cases hc
 ·rcases List.mem_cons.1 hc with rfl | hc
  ·decide
  ·exact h c hc
theorem mem_named {M:Nat→Mem} {k:Nat} (h1:memErr M k=0):nameErr (M k).name=0:=by
 unfold memErr at h1
 split at h1
 ·cases h1
 ·rename_i h3;simpa using h3
theorem dim_named {d:Dm} (h:(dimErr d).2=0):nameErr d.name=0:=by
 unfold dimErr at h
 split at h
 ·simp at h
 ·rename_i h1;simpa using h1
theorem textTo_no {D:Nat→Dm} {n:Nat} {L:List Int} (h:∀ k,k<n→∀ c∈(nameB D L k).data.toList,c≠10∧c≠32):∀ k,k≤n→∀ c∈textTo D L k,c≠10∧c≠32
 | 0,_,c,hc=>by simp [textTo] at hc
 | k+1,hk,c,hc=>by
  rw [textTo,List.mem_append,List.mem_append] at hc
  rcases hc with hc | hc | hc
  ·exact textTo_no h k (by omega) c hc
  ·split at hc
   ·cases hc
   ·rw [List.mem_singleton] at hc;subst hc;decide
  ·exact h k (by omega) c hc
end Go.Proofs.YtpoklbfffgpbiaaGreatDoor
namespace Go.Proofs.YtpoklbfffgpbiaaGreatDoor
open Go Go.ChangeShapes Go.WideShapes Go.ChangeAt Go.RowKit
theorem post_below {H:Type} {enc:TypeId×Value→H} {P:Program} {f:Func} {s:ChangeSpec} {apart fresh handsOn:Bool} {W W':World} {args:Array Value} {v:Value} {ds gs:List (DataW H)} {before pa pv:List MemPlace}
  (hW:DataW.Whole enc P f.params.toList s.vars apart W args.toList ds gs before)
  (hres:∀ (b:Nat) (sp:Nat→Bool) (hd:Bool),DataW.TrodAll enc P W' b sp hd f.resultTypes.toList (v.resultList f.resultTypes.size) (s.fn H (ds ++ gs)).results [])
  (hargs:∀ sp:Nat→Bool,(∀ p∈before,sp p.block=true)→DataW.TrodAll enc P W' 0 sp true f.params.toList args.toList (s.fn H (ds ++ gs)).args pa)
  (hvars:∀ sp:Nat→Bool,(∀ p∈before,sp p.block=true)→DataW.TrodVars enc P W' sp s.vars (s.fn H (ds ++ gs)).vars pv)
  (hps:before=pa ++ pv) (hk:W.keptBut W' (·∈before)) :
  s.post enc P f apart fresh handsOn false W args v W':=by
 have hold:∀ p∈before,(fun b=>decide (b<W.heap.size)) p.block=true:=fun p hp=>by simpa using hW.lt p hp
 refine ⟨ds,gs,before,[],pa,pv,hW,hres _ _ _,hargs _ hold,hvars _ hold,World.keptBut_mono (fun p hp=>⟨hp,?_⟩) hk,fun h=>by cases h⟩
 rw [hps,List.mem_append] at hp
 exact Or.inr hp
end Go.Proofs.YtpoklbfffgpbiaaGreatDoor
