/-
  What is written at a place: what Get of package input answers, called in whatever memory.
-/
import Derived.Test.YtaodedckffjpgafGreatDoorJXAV
namespace Go.Proofs.YtaodedckffjpgafGreatDoor
open Go.ChangeShapes Go.WideShapes Go.ChangeAt Go.RowKit
set_option maxRecDepth 20000
def ownOC (w:World) (A0:Option Addr) (n cap:Nat):World:=(ownOut w A0 n cap 42).alloc (.cells #[.int .i64 0,.int .i64 0] 48)
theorem ownOC_size (w:World) (A0:Option Addr) (n cap:Nat):(ownOC w A0 n cap).heap.size=w.heap.size+2:=by unfold ownOC;simp [ownOut_size]
theorem ownOC_below (w:World) (A0:Option Addr) (n cap:Nat):Below w.heap.size w (ownOC w A0 n cap):=by unfold ownOC ownOut;go_grown
theorem ownOC_o (w:World) (A0:Option Addr) (n cap:Nat):(ownOC w A0 n cap).cell? ⟨w.heap.size,0,none⟩=some (.slice A0 n cap):=by
 unfold ownOC
 rw [World.cell?_alloc_lt _ _ ⟨w.heap.size,0,none⟩ (by simp [ownOut_size])]
 exact ownOut_at ..
theorem ownOC_b (w:World) (A0:Option Addr) (n cap:Nat):(ownOC w A0 n cap).heap[w.heap.size+1]?=some (.cells #[.int .i64 0,.int .i64 0] 48):=by
 have h:=heap_alloc_new (ownOut w A0 n cap 42) (.cells #[.int .i64 0,.int .i64 0] 48)
 rw [ownOut_size] at h
 exact h
theorem num_lt {D:Nat→Dm} {n:Nat} {p:List Int} (h:InO D n p):∃ x:Nat,numI D p n=(x:Int)∧x<prodN D n∧placeL D n x=p:=by
 obtain ⟨h1,h2,-⟩:=numI_bound h (Nat.le_refl n)
 have h3:=place_num h
 exact ⟨(numI D p n).toNat,by omega,by omega,h3⟩
end Go.Proofs.YtaodedckffjpgafGreatDoor
