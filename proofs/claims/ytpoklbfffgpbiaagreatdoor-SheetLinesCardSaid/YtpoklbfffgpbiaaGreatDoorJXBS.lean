/-
  What Print of package sheet answers, in whatever memory: the cube as text, or its error.
-/
import Derived.Test.YtpoklbfffgpbiaaGreatDoorJXBQ
import Derived.Test.YtpoklbfffgpbiaaGreatDoorJXBR
namespace Go.Proofs.YtpoklbfffgpbiaaGreatDoor
open Go Go.ChangeShapes Go.WideShapes Go.ChangeAt Go.RowKit
set_option maxRecDepth 20000
set_option maxHeartbeats 4000000
theorem sprint_any (A0:Option Addr) (cap n:Nat) (D:Nat→Dm) (A:Nat→Option Addr) (C:Nat→Nat) (AE:Option Addr) (ce:Nat) (xs:List EnL) (w:World) (hT:TabE w) (hM:DimsV w A0 cap n D A C) (hEn:EnsV w AE ce xs) :
  Calls Tryz.prog 6 #[.agg #[.slice A0 n cap],.slice AE xs.length ce] w fun e w'=>e=.returned (.tuple #[.string (shV D n (lE xs)),errV (shE D n (lE xs))])∧Below w.heap.size w w':=by
 by_cases hok:shE D n (lE xs)=0
 ·have h:=sprint_right A0 cap n D A C AE ce xs w hok hT hM hEn
  unfold shV
  rw [if_pos hok,hok,errV_zero]
  exact h
 ·have HV:Hid (shV D n (lE xs)=⟨#[]⟩):=by show _=_;unfold shV;rw [if_neg hok]
  have HE:Hid (errV (shE D n (lE xs))=.iface 70 (.int .i64 (shE D n (lE xs)))):=errV_some hok
  have hB0:=ownOut_below w A0 n cap 24
  have h1:=rulall_any A0 cap n D A C (ownOut w A0 n cap 24) (hM.later hB0)
  have HB0:=hid_of hB0
  obtain ⟨f1,f2,hf⟩:∃ f1 f2,(ruErr D n).1=f1∧(ruErr D n).2.1=f2:=⟨_,_,rfl,rfl⟩
  rw [hf.1,hf.2] at h1
  by_cases hr:(ruErr D n).2.2=0
  ·have hs:shE D n (lE xs)=entsErr D n (lE xs):=by unfold shE;rw [if_neg (by simpa using hr)]
   rw [hs] at hok
   rw [hr,errV_zero] at h1
   have HR1:Hid (∀ w',Below (ownOut w A0 n cap 24).heap.size (ownOut w A0 n cap 24) w'→Calls Tryz.prog 12 #[.agg #[.slice A0 n cap],.slice AE xs.length ce] w' fun r w''=>r=.returned (.iface 70 (.int .i64 (shE D n (lE xs))))∧Below w'.heap.size w' w''):=fun w' hb=>by
    have h:=icheck_any A0 cap n D A C AE ce xs w' (hM.later (onB hB0 hb)) (hEn.later (onB hB0 hb))
    rw [errV_some hok,←hs] at h
    exact h
   have hat:=ownOut_at w A0 n cap 24
   have hsz:=ownOut_size w A0 n cap 24
   generalize shE D n (lE xs)=c at HR1 HE
   generalize xs.length=xl at HR1
   clear hok hr hM hEn hT hB0 hf hs
   go_enter Tryz.func6,Tryz.ntmps6
   go_wp2_with fail
   refine h1.mono ?_
   rintro e w1 ⟨rfl,hb1⟩
   have hc1:w1.cell? ⟨w.heap.size,0,none⟩=some (.slice A0 n cap):=(hb1.cell (p:=⟨w.heap.size,0,none⟩) (by show w.heap.size<_;omega)).trans hat
   have h2:=HR1.out w1 hb1
   have HB1:=hid_of (onB HB0.out hb1)
   clear h1 hb1
   go_wp2_with fail
   refine h2.mono ?_
   rintro e w2 ⟨rfl,hb2⟩
   go_wp2_with fail
   go_ret2
   rw [HV.out,HE.out]
   exact ⟨rfl,onB HB1.out hb2⟩
  ·have hs:shE D n (lE xs)=(ruErr D n).2.2:=by unfold shE;rw [if_pos hr]
   rw [errV_some hr,←hs] at h1
   generalize shE D n (lE xs)=c at h1 HE
   generalize xs.length=xl
   clear hok hr hM hEn hT hB0 hf hs
   go_enter Tryz.func6,Tryz.ntmps6
   go_wp2_with fail
   refine h1.mono ?_
   rintro e w1 ⟨rfl,hb1⟩
   go_wp2_with fail
   go_ret2
   rw [HV.out,HE.out]
   exact ⟨rfl,onB HB0.out hb1⟩
end Go.Proofs.YtpoklbfffgpbiaaGreatDoor
namespace Go.Proofs.YtpoklbfffgpbiaaGreatDoor
open Go Go.ChangeShapes Go.WideShapes Go.ChangeAt Go.RowKit
set_option maxRecDepth 20000
def endN (l:List UInt8):Nat:=(l.filter fun c=>c == 10).length
theorem endN_app (a b:List UInt8):endN (a ++ b)=endN a+endN b:=by simp [endN]
theorem endN_none {l:List UInt8} (h:∀ c∈l,c≠10):endN l=0:=by
 unfold endN
 rw [List.length_eq_zero_iff,List.filter_eq_nil_iff]
 intro c hc
 simpa using h c hc
def memN (D:Nat→Dm):Nat→Nat
 | 0=>0
 | k+1=>memN D k+(D k).n
theorem itoa_no (x:Int):∀ c∈Lib.itoa x,c≠10∧c≠32:=by
 intro c hc
 have key:∀ u,c∈Lib.decDigits u→c≠10∧c≠32:=by
  intro u h
  obtain ⟨h1,-⟩:=num_all u c h
  refine ⟨fun e=>?_,fun e=>?_⟩ <;> subst e <;> revert h1 <;> decide
 unfold Lib.itoa at hc
 split at hc
 ·rcases List.mem_cons.1 hc with rfl | h
  ·decide
  ·exact key _ h
 ·exact key _ hc
theorem name_no {s:ByteArray} (h:nameErr s=0):∀ c∈s.data.toList,c≠10∧c≠32:=by
 intro c hc
 obtain ⟨j,hj,he⟩:=List.getElem_of_mem hc
 have h2:=(name_first h).2.2 j (by simpa using hj)
 unfold byteN at h2
 rw [List.getD_eq_getElem?_getD,List.getElem?_eq_getElem hj,he] at h2
 refine ⟨fun e=>?_,fun e=>?_⟩ <;> subst e <;> revert h2 <;> decide
theorem paB_no (x:Int):∀ c∈paB x,c≠10∧c≠32:=by
 intro c hc
 unfold paB at hc
 split at hc
 ·exact itoa_no _ _ hc
 ·rw [List.mem_singleton] at hc;subst hc;decide
theorem sgT_no (x:Int):∀ c∈sgT x,c≠10∧c≠32:=by
 intro c hc
 unfold sgT at hc
 split at hc
 ·rw [List.mem_singleton] at hc;subst hc;decide
 ·split at hc <;> (rw [List.mem_singleton] at hc;subst hc;decide)
theorem foB_no {s:ByteArray} (h:∀ c∈s.data.toList,c≠10∧c≠32):∀ c∈foB s,c≠10∧c≠32:=by
 intro c hc
 unfold foB at hc
 split at hc
 ·cases hc
 ·rcases List.mem_cons.1 hc with rfl | hc
  ·decide
  ·exact h c hc
theorem mem_named {M:Nat→Mem} {k:Nat} (h1:memErr M k=0):nameErr (M k).name=0:=by
 unfold memErr at h1
 split at h1
 ·cases h1
 ·rename_i h3;simpa using h3
theorem dim_named {d:Dm} (h:(dimErr d).2=0):nameErr d.name=0:=by
 unfold dimErr at h
 split at h
 ·simp at h
 ·rename_i h1;simpa using h1
theorem textTo_no {D:Nat→Dm} {n:Nat} {L:List Int} (h:∀ k,k<n→∀ c∈(nameB D L k).data.toList,c≠10∧c≠32):∀ k,k≤n→∀ c∈textTo D L k,c≠10∧c≠32
 | 0,_,c,hc=>by simp [textTo] at hc
 | k+1,hk,c,hc=>by
  rw [textTo,List.mem_append,List.mem_append] at hc
  rcases hc with hc | hc | hc
  ·exact textTo_no h k (by omega) c hc
  ·split at hc
   ·cases hc
   ·rw [List.mem_singleton] at hc;subst hc;decide
  ·exact h k (by omega) c hc
theorem memT_end {m:Mem} (h1:nameErr m.name=0) (h2:∀ c∈m.formula.data.toList,c≠10∧c≠32):endN (memT m)=1:=by
 unfold memT
 simp only [endN_app]
 rw [endN_none (l:=m.name.data.toList) fun c hc=>(name_no h1 c hc).1,endN_none (l:=paB m.parent) fun c hc=>(paB_no _ c hc).1,endN_none (l:=sgT m.sign) fun c hc=>(sgT_no _ c hc).1,endN_none (l:=foB m.formula) fun c hc=>(foB_no h2 c hc).1]
 decide
theorem hdT_end {d:Dm} (h1:nameErr d.name=0):endN (hdT d)=1:=by
 unfold hdT
 simp only [endN_app]
 rw [endN_none (l:=d.name.data.toList) fun c hc=>(name_no h1 c hc).1,endN_none (l:=Lib.itoa d.solve) fun c hc=>(itoa_no _ c hc).1]
 decide
theorem celT_end {D:Nat→Dm} {n:Nat} {e:En} (h:∀ k,k<n→nameErr (nameB D e.pl k)=0):endN (celT D n e)=1:=by
 unfold celT
 simp only [endN_app]
 rw [endN_none (l:=textTo D e.pl n) fun c hc=>(textTo_no (fun k hk=>name_no (h k hk)) n (Nat.le_refl _) c hc).1,endN_none (l:=Lib.itoa e.n) fun c hc=>(itoa_no _ c hc).1]
 decide
theorem memsT_end {M:Nat→Mem}:∀ k,(∀ j,j<k→endN (memT (M j))=1)→endN (memsT M k)=k
 | 0,_=>rfl
 | k+1,h=>by rw [memsT_succ,endN_app,memsT_end k fun j hj=>h j (by omega),h k (by omega)]
theorem dimsT_end {D:Nat→Dm} {n:Nat} (h:(ruErr D n).2.2=0):∀ k,k≤n→endN (dimsT D k)=k+memN D k
 | 0,_=>rfl
 | k+1,hk=>by
  have hd:=(allErr_right (ru_right h).1).2 k (by omega)
  rw [dimsT_succ,endN_app,endN_app,dimsT_end h k (by omega),hdT_end (dim_named hd),memsT_end _ fun j hj=>memT_end (mem_named ((dimErr_right hd).2.2.2 j hj)) (fo_good h (by omega) hj),memN]
  omega
theorem celsT_end {D:Nat→Dm} {n:Nat}:∀ l:List En,(∀ e∈l,endN (celT D n e)=1)→endN (celsT D n l)=l.length
 | [],_=>rfl
 | e :: r,h=>by
  have h1:=celsT_end r fun x hx=>h x (List.mem_cons_of_mem _ hx)
  unfold celsT at h1 ⊢
  rw [List.flatMap_cons,endN_app,h1,h e (List.mem_cons_self ..),List.length_cons]
  omega
theorem shT_end {D:Nat→Dm} {n:Nat} {l:List En} (h:shE D n l=0):endN (shT D n l)=n+l.length+memN D n:=by
 obtain ⟨hr,hl⟩:=she_ok h
 unfold shT
 rw [endN_app,dimsT_end hr n (Nat.le_refl _),celsT_end l fun e he=>celT_end fun k hk=>?_]
 ·omega
 ·obtain ⟨hI,-,-⟩:=hl.each e he
  have h1:=hI.lo k hk
  have h2:=hI.hi k hk
  unfold nameB
  exact mem_named ((dimErr_right ((allErr_right hI.right).2 k hk)).2.2.2 _ (by omega))
end Go.Proofs.YtpoklbfffgpbiaaGreatDoor
