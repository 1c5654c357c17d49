/-
  What the document's own tell answers at a place that no rule tells: the input there.
-/
import Derived.Test.YtaodedckffjpgafGreatDoorJXBM
import Derived.Test.YtaodedckffjpgafGreatDoorJXBR
import Derived.Test.YtaodedckffjpgafGreatDoorJXBV
namespace Go.Proofs.YtaodedckffjpgafGreatDoor
open Go.ChangeShapes Go.WideShapes Go.ChangeAt Go.RowKit
set_option maxRecDepth 20000
set_option maxHeartbeats 4000000 in
theorem stell_leaf (A0:Option Addr) (cap n:Nat) (D:Nat→Dm) (A:Nat→Option Addr) (C:Nat→Nat) (Ae:Option Addr) (ce:Nat) (xs:List EnL) (Ap:Option Addr) (cp:Nat) (L:List Int) (vc:Value) (w:World) (hI:InO D n L) (hM:DimsV w A0 cap n D A C) (hP:PlAt w Ap cp L) (hx:xs.length≤3000) (hE:EnsV w Ae ce xs) (hS:Short xs L) (hb:byTo D L n<0) :
  Calls Tryz.prog 37 #[.agg #[.slice A0 n cap],.slice Ae xs.length ce,.slice Ap L.length cp,vc] w fun e w'=>e=.returned (.agg #[.int .i64 (getE (lE xs) L).1,.int .i64 (getE (lE xs) L).2])∧Below w.heap.size w w':=by
 have hb1:byTo D L n = -1:=by
  rcases by_in D L n with h | ⟨b,h1,_⟩
  ·exact h
  ·omega
 obtain ⟨W,hW⟩:∃ W,(w.alloc (.cells #[.slice A0 n cap] 42)).alloc (.cells #[.int .i64 0,.int .i64 0] 48)=W:=⟨_,rfl⟩
 have HBW:Hid (Below w.heap.size w W):=by show Below w.heap.size w W;rw [←hW];go_grown
 have HR:Hid (W.heap[w.heap.size+1]?=some (.cells #[.int .i64 0,.int .i64 0] 48 (0,0))):=by show _=_;rw [←hW];exact topF1 _ _ _
 have hO:W.heap[w.heap.size]?=some (.cells #[.slice A0 n cap] 42 (0,0)):=by rw [←hW];exact topF0 _ _ _
 have d0:W.cell? ⟨w.heap.size,0,none⟩=some (.slice A0 n cap):=by simp [World.cell?,hO]
 have hsz:w.heap.size<W.heap.size:=(Array.getElem?_eq_some_iff.1 hO).1
 have hby:=sby_any A0 cap n D A C Ap cp L W hI (hM.later HBW.out) (hP.later HBW.out)
 have HIn:Hid (∀ w',Below w.heap.size w w'→Calls Tryz.prog 66 #[.slice Ae xs.length ce,.slice Ap L.length cp] w' fun e w''=>e=.returned (.agg #[.int .i64 (getE (lE xs) L).1,.int .i64 (getE (lE xs) L).2])∧Below w'.heap.size w' w''):=fun w' hB=>rinput_any Ae ce xs Ap cp L w' hx (hE.later hB) hS (hP.later hB)
 rw [hb1] at hby
 generalize getE (lE xs) L=c at HIn ⊢
 clear hI hM hP hE hS hb hb1 hx hO
 go_enter Tryz.func37,Tryz.ntmps37
 go_wp2_with fail
 refine hby.mono ?_
 rintro e w1 ⟨rfl,hb1⟩
 have HB1:Hid (Below W.heap.size W w1):=hb1
 have hin:=HIn.out w1 (onB HBW.out hb1)
 clear hb1 hby d0 hW
 go_wp2_with fail
 refine hin.mono ?_
 rintro e w2 ⟨rfl,hb2⟩
 obtain ⟨r1,r2,r3,rf0,rf1⟩:=box2 HR.out (onB HB1.out hb2)
 have HB2:=hid_of (onB HBW.out (onB HB1.out hb2))
 clear hb2 hin
 go_wp2_with fail
 refine bodyPost_ret (v:=.agg #[.int .i64 c.1,.int .i64 c.2]) (by simp [results,Tryz.results37,go_sem,r2,r3]) rfl ⟨rfl,?_⟩
 exact (HB2.out.setCell (Nat.le_succ _) _).setCell (Nat.le_succ _) _
end Go.Proofs.YtaodedckffjpgafGreatDoor
namespace Go.Proofs.YtaodedckffjpgafGreatDoor
open Go Go.ChangeShapes Go.WideShapes Go.ChangeAt Go.RowKit
set_option maxRecDepth 20000
theorem plus_one {ka na kb nb:Int} (ha:good ka na=true) (hb:good kb nb=true):∀ w,Calls Tryz.prog 73 #[.agg #[.int .i64 ka,.int .i64 na],.agg #[.int .i64 kb,.int .i64 nb],.int .i64 1] w fun e w'=>e=.returned (.agg #[.int .i64 (plusP ka na kb nb).1,.int .i64 (plusP ka na kb nb).2])∧Below w.heap.size w w':=by
 obtain ⟨h1,h2⟩:=good_bd ha
 obtain ⟨h3,h4⟩:=good_bd hb
 have h:=rplus_any ka na kb nb 1 (na+nb) (by unfold wrap64;omega)
 unfold RefTo at h
 exact h
theorem plus_less {ka na kb nb:Int} (ha:good ka na=true) (hb:good kb nb=true):∀ w,Calls Tryz.prog 73 #[.agg #[.int .i64 ka,.int .i64 na],.agg #[.int .i64 kb,.int .i64 nb],.int .i64 (-1)] w fun e w'=>e=.returned (.agg #[.int .i64 (minusP ka na kb nb).1,.int .i64 (minusP ka na kb nb).2])∧Below w.heap.size w w':=by
 obtain ⟨h1,h2⟩:=good_bd ha
 obtain ⟨h3,h4⟩:=good_bd hb
 have h:=rplus_any ka na kb nb (-1) (na-nb) (by unfold wrap64;omega)
 unfold RefTo at h
 exact h
end Go.Proofs.YtaodedckffjpgafGreatDoor
namespace Go.Proofs.YtaodedckffjpgafGreatDoor
open Go.ChangeShapes Go.WideShapes Go.ChangeAt Go.RowKit
set_option maxRecDepth 20000
def TelB (w:World) (A0:Option Addr) (cap n qd:Nat) (d:Dm) (Am:Option Addr) (cm:Nat) (w1:World):Prop:=Below w.heap.size w w1∧BoxN w1 w.heap.size (.slice A0 n cap)∧w1.heap[w.heap.size+1]?=some (.cells #[.int .i64 0,.int .i64 0] 48 (0,0))∧BoxD w1 qd d Am cm
theorem TelB.later {w w1 w2:World} {A0 Am:Option Addr} {cap n qd cm:Nat} {d:Dm} (h:TelB w A0 cap n qd d Am cm w1) (hB:Below w1.heap.size w1 w2):TelB w A0 cap n qd d Am cm w2:=⟨onB h.1 hB,h.2.1.later hB,(hB.block _ (Array.getElem?_eq_some_iff.1 h.2.2.1).1).trans h.2.2.1,h.2.2.2.later hB⟩
theorem TelB.grown {w w1 w2:World} {A0 Am:Option Addr} {cap n qd cm g:Nat} {d:Dm} (h:TelB w A0 cap n qd d Am cm w1) (hG:w1.grownBy w2 (some g)) (h0:w.heap.size+1<g) (h1:qd≠g):TelB w A0 cap n qd d Am cm w2 :=
 ⟨h.1.grown hG h.1.size (fun j hj=>by cases hj;omega),boxn_other h.2.1 (by omega) hG,(hG.block _ (Array.getElem?_eq_some_iff.1 h.2.2.1).1 (fun e=>by simp at e;omega)).trans h.2.2.1,boxd_other h.2.2.2 h1 hG⟩
theorem num_set {D:Nat→Dm} {n b:Nat} {L:List Int} (h:InO D n L) (hb:b<n) {j:Nat} (hj:j<(D b).n):∃ y:Nat,numI D (L.set b j) n=(y:Int)∧y<prodN D n∧InO D n (L.set b j):=by
 have hI:=inO_set h hb (x:=(j:Int)) (by omega) (by omega)
 obtain ⟨h1,h2,-⟩:=numI_bound hI (Nat.le_refl n)
 exact ⟨(numI D (L.set b j) n).toNat,by omega,by omega,hI⟩
def cntF (f:Nat→Bool):Nat→Nat
 | 0=>0
 | k+1=>cntF f k+(if f k=true then 0 else 1)
def putF (f:Nat→Bool) (x j:Nat):Bool:=if j=x then true else f j
theorem cnt_put {f:Nat→Bool} {x:Nat} (hf:f x=false):∀ N,(x<N→cntF (putF f x) N+1=cntF f N)∧(N≤x→cntF (putF f x) N=cntF f N)
 | 0=>⟨fun h=>by omega,fun _=>rfl⟩
 | k+1=>by
  obtain ⟨h1,h2⟩:=cnt_put hf k
  refine ⟨fun h=>?_,fun h=>?_⟩
  ·rw [cntF,cntF]
   by_cases e:k=x
   ·rw [h2 (by omega)]
    subst e
    simp [putF,hf]
   ·have h3:=h1 (by omega)
    have h4:putF f x k=f k:=by simp [putF,e]
    rw [h4]
    omega
  ·rw [cntF,cntF,h2 (by omega)]
   have h4:putF f x k=f k:=by simp [putF,show k≠x by omega]
   rw [h4]
def PassP (N:Nat) (f0 f:Nat→Bool) (ag:Bool):Prop:=(ag=true→cntF f N<cntF f0 N)∧(ag=false→f=f0)
theorem pass_put {N i:Nat} {f0 f:Nat→Bool} {ag:Bool} (h:PassP N f0 f ag) (hi:i<N) (hf:f i=false):PassP N f0 (putF f i) true:=by
 refine ⟨fun _=>?_,fun e=>by cases e⟩
 have h1:=(cnt_put hf N).1 hi
 cases ag with
 | true=>have:=h.1 rfl;omega
 | false=>rw [h.2 rfl] at h1 ⊢;omega
def muF (f:Nat→Bool) (ag:Bool) (N:Nat):Nat:=cntF f N+(if ag=true then 1 else 0)
end Go.Proofs.YtaodedckffjpgafGreatDoor
