/-
  slices.IndexFunc and slices.ContainsFunc over ints, at the question of package tree's check; what check answers: what is wrong with a dim, or else with places in it.
-/
import Derived.Test.YtpoklbfffgpbiaaGreatDoorJXAK
namespace Go.Proofs.YtpoklbfffgpbiaaGreatDoor
open Go.ChangeShapes Go.WideShapes Go.ChangeAt Go.RowKit
set_option maxRecDepth 20000
def outB (n:Nat) (i:Int):Bool:=decide (i<0) || decide ((n:Int)≤i)
theorem check1_any (i:Int) (A:Option Addr) (n cap q:Nat) (w:World) (h:w.cell? ⟨q,2,none⟩=some (.slice A n cap)):Calls Tryz.prog 129 #[.int .i64 i,.pointer (some ⟨q,0,none⟩)] w fun e w'=>e=.returned (.bool (outB n i))∧Below w.heap.size w w':=by
 unfold outB
 by_cases h1:i<0
 ·go_enter Tryz.func129,Tryz.ntmps129
  go_wp2
  go_ret
  exact ⟨by simp <;> omega,by go_grown⟩
 ·go_enter Tryz.func129,Tryz.ntmps129
  go_wp2
  go_ret
  exact ⟨by simp <;> omega,by go_grown⟩
theorem containsf_ints (A:Option Addr) (cap:Nat) (L:List Int) (Am:Option Addr) (nm cm q:Nat) (w:World) (hn:L.length≤2) (hL:IntsAt w A cap L) (hq:q<w.heap.size) (hqc:w.cell? ⟨q,2,none⟩=some (.slice Am nm cm)) :
  Calls Tryz.prog 128 #[.slice A L.length cap,.func (.func 129) #[] #[.pointer (some ⟨q,0,none⟩)]] w fun e w'=>e=.returned (.bool (decide (0≤findFrom (fun j=>outB nm (L.getD j 0)) L.length 0)))∧Below w.heap.size w w' :=
 contm_pl 129 #[.pointer (some ⟨q,0,none⟩)] (outB nm) (fun args w=>by simp [callFunc,Tryz.func129];rfl) A cap L w (by omega) (pl_ints hL) fun x w' _ hB=>check1_any x Am nm cm q w' ((hB.cell (p:=⟨q,2,none⟩) hq).trans hqc)
theorem treeErr_range {d:Dm} {L:List Int} (h:(dimErr d).2=0):treeErr d L=if 0≤findFrom (fun j=>outB d.n (L.getD j 0)) L.length 0 then 1 else 0:=by
 unfold treeErr rangeErr;rw [if_neg (by simpa using h)];rfl
set_option maxHeartbeats 2000000 in
theorem tcheck_any (d:Dm) (A:Option Addr) (cap:Nat) (Ai:Option Addr) (ci:Nat) (L:List Int) (w:World) (hM:MemsV w A cap d.n d.mem) (hn:L.length≤2) (hL:IntsAt w Ai ci L):Calls Tryz.prog 103 #[dimV d A cap,.slice Ai L.length ci] w fun e w'=>e=.returned (errV (treeErr d L))∧Below w.heap.size w w':=by
 have hS:=ownDim_size w d A cap 32
 have hB0:=ownDim_below w d A cap 32
 have hA:=(ownDim_at w d A cap 32).2.2
 have hck:=dcheck_any d A cap (ownDim w d A cap 32) (hM.later hB0)
 unfold dimV at hck ⊢
 have HB0:Hid (Below w.heap.size w (ownDim w d A cap 32)):=hB0
 have HS:Hid ((ownDim w d A cap 32).heap.size=w.heap.size+1):=hS
 have HA:Hid ((ownDim w d A cap 32).cell? ⟨w.heap.size,2,none⟩=some (.slice A d.n cap)):=hA
 have HL:Hid (IntsAt w Ai ci L):=hL
 clear hM hS hB0 hA hL
 by_cases he:(dimErr d).2=0
 ·obtain ⟨e1,hd1,hd2,-⟩:=dimErr_right he
  rw [he,e1,errV_zero] at hck
  have HE:Hid ((dimErr d).2=0):=he
  clear he e1
  go_enter Tryz.func103,Tryz.ntmps103
  go_wp2_with fail
  refine hck.mono ?_
  rintro e w1 ⟨rfl,hb1⟩
  have hB:Below w.heap.size w w1:=onB HB0.out hb1
  have hz:w.heap.size<w1.heap.size:=by
   have:=hb1.size
   rw [HS.out] at this
   omega
  have h2:w1.cell? ⟨w.heap.size,2,none⟩=some (.slice A d.n cap):=(hb1.cell (p:=⟨w.heap.size,2,none⟩) (by show w.heap.size<_;rw [HS.out];omega)).trans HA.out
  have hcf:=containsf_ints Ai ci L A d.n cap w.heap.size w1 hn (HL.out.later hB) hz h2
  have HR:Hid (treeErr d L=if 0≤findFrom (fun j=>outB d.n (L.getD j 0)) L.length 0 then 1 else 0):=treeErr_range HE.out
  have HB:Hid (Below w.heap.size w w1):=hB
  generalize findFrom (fun j=>outB d.n (L.getD j 0)) L.length 0=f at hcf HR
  generalize L.length=n at hcf
  clear hb1 hck h2 hB
  by_cases hf:0≤f
  ·rw [decide_eq_true hf] at hcf
   have HR1:Hid (treeErr d L=1):=by show _=_;rw [HR.out,if_pos hf]
   clear hf HR
   go_wp2_with fail
   refine hcf.mono ?_
   rintro e w2 ⟨rfl,hb2⟩
   go_wp2_with fail
   go_ret
   exact ⟨by rw [HR1.out];rfl,onB HB.out hb2⟩
  ·rw [decide_eq_false hf] at hcf
   have HR1:Hid (treeErr d L=0):=by show _=_;rw [HR.out,if_neg hf]
   clear hf HR
   go_wp2_with fail
   refine hcf.mono ?_
   rintro e w2 ⟨rfl,hb2⟩
   go_wp2_with fail
   go_ret
   exact ⟨by rw [HR1.out];rfl,onB HB.out hb2⟩
 ·have HK:Hid (errV (treeErr d L)=.iface 70 (.int .i64 (dimErr d).2)):=by show _=_;rw [treeErr_dim he,errV_some he]
  rw [errV_some he] at hck
  clear he
  generalize (dimErr d).2=c at hck HK
  go_enter Tryz.func103,Tryz.ntmps103
  go_wp2_with fail
  refine hck.mono ?_
  rintro e w1 ⟨rfl,hb1⟩
  go_wp2_with fail
  go_ret
  exact ⟨by rw [HK.out];rfl,onB HB0.out hb1⟩
end Go.Proofs.YtpoklbfffgpbiaaGreatDoor
