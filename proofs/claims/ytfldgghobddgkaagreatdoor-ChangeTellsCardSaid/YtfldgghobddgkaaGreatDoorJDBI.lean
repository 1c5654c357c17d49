/-
  A change of a cube: what Do of package change answers.
-/
import Derived.Test.YtfldgghobddgkaaGreatDoorJDBB
import Derived.Test.YtfldgghobddgkaaGreatDoorJDBH
namespace Go.Proofs.YtfldgghobddgkaaGreatDoor
open Go.ChangeShapes Go.WideShapes Go.ChangeAt Go.RowKit Go.Lib
set_option maxRecDepth 100000
noncomputable def chE (D:Nat→Dm) (n:Nat) (l:List En) (c:Chg):Int :=
 if cuErr D n l≠0 then cuErr D n l
 else if c.dim<0∨(n:Int)≤c.dim then 1
 else if cgE (D c.dim.toNat) l c.dim.toNat c≠0 then cgE (D c.dim.toNat) l c.dim.toNat c
 else (ruErr (putD D c.dim.toNat (cgD (D c.dim.toNat) c)) n).2.2
def chD (D:Nat→Dm) (c:Chg):Nat→Dm:=putD D c.dim.toNat (cgD (D c.dim.toNat) c)
noncomputable def chN (D:Nat→Dm) (n:Nat) (l:List En) (c:Chg):Nat:=if chE D n l c=0 then n else 0
noncomputable def chL (D:Nat→Dm) (n:Nat) (l:List En) (c:Chg):List En:=if chE D n l c=0 then cgL l c.dim.toNat c else []
theorem ru_parts {D:Nat→Dm} {n:Nat} (h:(ruErr D n).2.2=0):(allErr D n).2.2=0∧∀ i,i<n→(rErr (D i)).2=0:=by
 unfold ruErr at h
 split at h
 ·rename_i h1;exact absurd h h1
 ·rename_i h1
  refine ⟨by simpa using h1,fun i hi=>?_⟩
  rcases findFrom_cases (badD D) n 0 with ⟨_,h2⟩ | ⟨k,e,_,_,hb,_⟩
  ·have:=h2 i (Nat.zero_le _) (by omega)
   unfold badD at this
   simpa using this
  ·rw [e,if_pos (by omega),Int.toNat_natCast] at h
   unfold badD at hb
   exact absurd h (of_decide_eq_true hb)
theorem cu_parts {D:Nat→Dm} {n:Nat} {l:List En} (h:cuErr D n l=0):(ruErr D n).2.2=0∧Ens D n l:=by
 unfold cuErr at h
 split at h
 ·rename_i h1;exact absurd h h1
 ·rename_i h1;exact ⟨by simpa using h1,ens_of h⟩
theorem form_of {d:Dm} (h:(rErr d).2=0) {j:Nat} (hj:j<d.n):(d.mem j).formula.size=0∨((d.mem j).formula.size≤100∧prsE (d.mem j).formula=0):=by
 obtain ⟨h1,h2,-,-⟩:=rErr_right h
 by_cases h0:(d.mem j).formula.size=0
 ·exact Or.inl h0
 ·refine Or.inr ⟨?_,?_⟩
  ·have hm:=(dimErr_right h1).2.2.2 j hj
   unfold memErr at hm
   split at hm
   ·cases hm
   ·split at hm
    ·cases hm
    ·split at hm
     ·cases hm
     ·split at hm
      ·cases hm
      ·split at hm
       ·cases hm
       ·split at hm
        ·cases hm
        ·omega
  ·have:=h2 j hj
   unfold mErr at this
   rw [if_neg h0] at this
   split at this
   ·rename_i h3;exact absurd this h3
   ·rename_i h3;simpa using h3
def ChV (N:Nat) (D:Nat→Dm) (n:Nat) (l:List En) (E:Int) (w0:World) (e:Ending) (w':World):Prop:=(∃ A' c' Am Cm AE' ce' ys,e=.returned (.tuple #[.agg #[.slice A' n c'],.slice AE' ys.length ce',errV E])∧DimsV w' A' c' n D Am Cm∧EnsV w' AE' ce' ys∧lE ys=l)∧Below N w0 w'
theorem ChV.bad {N:Nat} {D:Nat→Dm} {n:Nat} {l:List En} {E:Int} {w0 w':World} (hn:n=0) (hl:l=[]) (hB:Below N w0 w'):ChV N D n l E w0 (.returned (.tuple #[.agg #[.slice none 0 0],.slice none 0 0,errV E])) w':=by
 subst hn hl
 exact ⟨⟨none,0,fun _=>none,fun _=>0,none,0,[],rfl,⟨Nat.le_refl _,Or.inl rfl⟩,EnsV.nil _ _ _ (by omega),rfl⟩,hB⟩
theorem OwD.base {w:World} {B B' g cd n:Nat} {D:Nat→Dm} {G C:Nat→Nat} (h:OwD w B g cd n D G C) (hB:B'≤B):OwD w B' g cd n D G C:=⟨ow_base h.dims hB,fun i hi=>ow_base (h.mems i hi) hB,h.apart⟩
theorem OwE.base {w:World} {B B' g cap:Nat} {ys:List EnL} (h:OwE w B g cap ys) (hB:B'≤B):OwE w B' g cap ys:=⟨h.row,Nat.le_trans hB h.low,fun y hy=>(h.each y hy).base hB,h.apart⟩
set_option maxHeartbeats 16000000 in
theorem do_any (A0:Option Addr) (cap n:Nat) (D:Nat→Dm) (A:Nat→Option Addr) (C:Nat→Nat) (AE:Option Addr) (ce:Nat) (xs:List EnL) (c:Chg) (w:World) (hM:DimsV w A0 cap n D A C) (hEn:EnsV w AE ce xs) (hT:TabE w) :
  Calls Tryz.prog 5 #[.agg #[.slice A0 n cap],.slice AE xs.length ce,chgV c] w (ChV w.heap.size (chD D c) (chN D n (lE xs) c) (chL D n (lE xs) c) (chE D n (lE xs) c) w):=by
 obtain ⟨W,hW⟩:∃ W,((w.alloc (.cells #[.slice A0 n cap] 24)).alloc (.cells #[.int .i64 c.what,.int .i64 c.dim,.int .i64 c.mb,.string c.name,.int .i64 c.tgt,.int .i64 c.sign] 27)).alloc (.cells #[.slice none 0 0] 24)=W:=⟨_,rfl⟩
 have hBW:Below w.heap.size w W:=by rw [←hW];go_grown
 have hWs:W.heap.size=w.heap.size+3:=by rw [←hW];simp
 have k0:W.heap[w.heap.size]?=some (.cells #[.slice A0 n cap] 24 (0,0)):=by
  rw [←hW,Below.heap_alloc _ _ _ (by simp;omega),Below.heap_alloc _ _ _ (by simp)]
  exact heap_alloc_new ..
 have k1:W.heap[w.heap.size+1]?=some (.cells #[.int .i64 c.what,.int .i64 c.dim,.int .i64 c.mb,.string c.name,.int .i64 c.tgt,.int .i64 c.sign] 27 (0,0)):=by
  have:=heap_alloc_new (w.alloc (.cells #[.slice A0 n cap] 24)) (.cells #[.int .i64 c.what,.int .i64 c.dim,.int .i64 c.mb,.string c.name,.int .i64 c.tgt,.int .i64 c.sign] 27)
  rw [show (w.alloc (.cells #[.slice A0 n cap] 24)).heap.size=w.heap.size+1 by simp] at this
  rw [←hW,Below.heap_alloc _ _ _ (by simp)]
  exact this
 have k2:W.heap[w.heap.size+2]?=some (.cells #[.slice none 0 0] 24 (0,0)):=by
  have:=heap_alloc_new ((w.alloc (.cells #[.slice A0 n cap] 24)).alloc (.cells #[.int .i64 c.what,.int .i64 c.dim,.int .i64 c.mb,.string c.name,.int .i64 c.tgt,.int .i64 c.sign] 27)) (.cells #[.slice none 0 0] 24)
  rw [show ((w.alloc (.cells #[.slice A0 n cap] 24)).alloc (.cells #[.int .i64 c.what,.int .i64 c.dim,.int .i64 c.mb,.string c.name,.int .i64 c.tgt,.int .i64 c.sign] 27)).heap.size=w.heap.size+2 by simp] at this
  rw [←hW]
  exact this
 have HCl:Hid (∀ w1,Below W.heap.size W w1→w1.cell? ⟨w.heap.size,0,none⟩=some (.slice A0 n cap)∧w1.cell? ⟨w.heap.size+1,1,none⟩=some (.int .i64 c.dim)∧w1.cell? ⟨w.heap.size+2,0,none⟩=some (.slice none 0 0)∧w1.frozen? ⟨w.heap.size+2,0,none⟩=false∧w1.heap[w.heap.size+1]?=some (.cells #[.int .i64 c.what,.int .i64 c.dim,.int .i64 c.mb,.string c.name,.int .i64 c.tgt,.int .i64 c.sign] 27 (0,0))∧w1.heap[w.heap.size+2]?=some (.cells #[.slice none 0 0] 24 (0,0))):=fun w1 hb=>by
  have h0:=(hb.block w.heap.size (by omega)).trans k0
  have h1:=(hb.block (w.heap.size+1) (by omega)).trans k1
  have h2:=(hb.block (w.heap.size+2) (by omega)).trans k2
  exact ⟨(Lib.cell_of_heap h0 0).trans rfl,(Lib.cell_of_heap h1 1).trans rfl,(Lib.cell_of_heap h2 0).trans rfl,Lib.frozen_of_heap h2 0,h1,h2⟩
 have HBad:Hid (∀ w1 E,chE D n (lE xs) c=E→E≠0→Below W.heap.size W w1→ChV w.heap.size (chD D c) (chN D n (lE xs) c) (chL D n (lE xs) c) (chE D n (lE xs) c) w (.returned (.tuple #[.agg #[.slice none 0 0],.slice none 0 0,errV E])) (w1.setCell ⟨w.heap.size+2,0,none⟩ (.slice none 0 0))):=fun w1 E hE h0 hb=>by
  rw [hE]
  exact ChV.bad (by unfold chN;rw [hE,if_neg h0]) (by unfold chL;rw [hE,if_neg h0]) ((onB hBW hb).setCell (by show _≤w.heap.size+2;omega) _)
 have HRu:Hid (∀ w1,Below W.heap.size W w1→Calls Tryz.prog 21 #[.agg #[.slice A0 n cap]] w1 fun e w'=>e=.returned (.tuple #[.int .i64 (ruErr D n).1,.int .i64 (ruErr D n).2.1,errV (ruErr D n).2.2])∧Below w1.heap.size w1 w'):=fun w1 hb=>rulall_any A0 cap n D A C w1 (hM.later (onB hBW hb))
 have HIc:Hid (∀ w1,Below W.heap.size W w1→Calls Tryz.prog 22 #[.agg #[.slice A0 n cap],.slice AE xs.length ce] w1 fun r w'=>r=.returned (errV (entsErr D n (lE xs)))∧Below w1.heap.size w1 w'):=fun w1 hb=>icheck_any A0 cap n D A C AE ce xs w1 (hM.later (onB hBW hb)) (hEn.later (onB hBW hb))
 obtain ⟨z1,z2,z3,z4,-,-⟩:=HCl.out W (Below.refl _ W)
 have hru:=HRu.out W (Below.refl _ W)
 generalize (ruErr D n).1=r1 at hru HRu
 generalize (ruErr D n).2.1=r2 at hru HRu
 have hq:(ruErr D n).2.2≠0→chE D n (lE xs) c=(ruErr D n).2.2:=fun h=>by
  have:cuErr D n (lE xs)=(ruErr D n).2.2:=if_pos h
  unfold chE
  rw [this,if_pos h]
 by_cases hE1:(ruErr D n).2.2=0
 case neg =>
  have HC:=hid_of (hq hE1)
  have HV:=hid_of (errV_some hE1)
  have HN:=hid_of hE1
  rw [errV_some hE1] at hru
  generalize (ruErr D n).2.2=E at hru HC HV HN
  clear hE1 hq HRu HIc hM hEn hT hBW k0 k1 k2
  unfold chgV
  go_enter Tryz.func5,Tryz.ntmps5
  go_wp2_with fail
  refine hru.mono ?_
  rintro e w1 ⟨rfl,hb1⟩
  obtain ⟨y1,y2,y3,y4,-,-⟩:=HCl.out w1 hb1
  have hF:=hid_of (HBad.out w1 E HC.out HN.out hb1)
  rw [HV.out] at hF
  clear hb1
  go_wp2_with fail
  have hq:=World.cell?_setCell_same w1 ⟨w.heap.size+2,0,none⟩ (.slice none 0 0) y3
  refine bodyPost_ret (v:=.tuple #[.agg #[.slice none 0 0],.slice none 0 0,.iface 69 (.int .i64 E)]) (by simp [results,Tryz.results5,go_sem,hq]) rfl hF.out
 rw [hE1,errV_zero] at hru
 have hcu:cuErr D n (lE xs)=entsErr D n (lE xs):=by unfold cuErr;rw [if_neg (by simpa using hE1)]
 by_cases hE2:entsErr D n (lE xs)=0
 case neg =>
  have HC:Hid (chE D n (lE xs) c=entsErr D n (lE xs)):=by
   show _=_
   unfold chE
   rw [hcu,if_pos hE2]
  have HV:=hid_of (errV_some hE2)
  have HN:=hid_of hE2
  rw [errV_some hE2] at HIc
  generalize entsErr D n (lE xs)=E at HIc HC HV HN
  clear hE1 hE2 hq HRu hM hEn hT hBW k0 k1 k2 hcu
  unfold chgV
  go_enter Tryz.func5,Tryz.ntmps5
  go_wp2_with fail
  refine hru.mono ?_
  rintro e w1 ⟨rfl,hb1⟩
  obtain ⟨y1,y2,y3,y4,-,-⟩:=HCl.out w1 hb1
  have hic:=HIc.out w1 hb1
  have HB1:=hid_of hb1
  clear hb1
  go_wp2_with fail
  refine hic.mono ?_
  rintro e w2 ⟨rfl,hb2⟩
  obtain ⟨x1,x2,x3,x4,-,-⟩:=HCl.out w2 (onB HB1.out hb2)
  have hF:=hid_of (HBad.out w2 E HC.out HN.out (onB HB1.out hb2))
  rw [HV.out] at hF
  clear hb2 hic y1 y2 y3 y4
  go_wp2_with fail
  have hq:=World.cell?_setCell_same w2 ⟨w.heap.size+2,0,none⟩ (.slice none 0 0) x3
  refine bodyPost_ret (v:=.tuple #[.agg #[.slice none 0 0],.slice none 0 0,.iface 69 (.int .i64 E)]) (by simp [results,Tryz.results5,go_sem,hq]) rfl hF.out
 rw [hE2,errV_zero] at HIc
 have hcu0:cuErr D n (lE xs)=0:=hcu.trans hE2
 by_cases hdm:c.dim<0∨(n:Int)≤c.dim
 ·have HC:Hid (chE D n (lE xs) c=1):=by
   show _=_
   unfold chE
   rw [if_neg (by simpa using hcu0),if_pos hdm]
  clear hE1 hE2 hq HRu hM hEn hT hBW k0 k1 k2 hcu hcu0
  unfold chgV
  by_cases hd0:c.dim<0
  ·clear hdm
   go_enter Tryz.func5,Tryz.ntmps5
   go_wp2_with fail
   refine hru.mono ?_
   rintro e w1 ⟨rfl,hb1⟩
   obtain ⟨y1,y2,y3,y4,-,-⟩:=HCl.out w1 hb1
   have hic:=HIc.out w1 hb1
   have HB1:=hid_of hb1
   clear hb1
   go_wp2_with fail
   refine hic.mono ?_
   rintro e w2 ⟨rfl,hb2⟩
   obtain ⟨x1,x2,x3,x4,-,-⟩:=HCl.out w2 (onB HB1.out hb2)
   have hF:=hid_of (HBad.out w2 1 HC.out (by decide) (onB HB1.out hb2))
   clear hb2 hic y1 y2 y3 y4
   go_wp2_with fail
   have hq:=World.cell?_setCell_same w2 ⟨w.heap.size+2,0,none⟩ (.slice none 0 0) x3
   refine bodyPost_ret (v:=.tuple #[.agg #[.slice none 0 0],.slice none 0 0,.iface 69 (.int .i64 1)]) (by simp [results,Tryz.results5,go_sem,hq]) rfl hF.out
  ·have hd1:0≤c.dim:=by omega
   have hd2:(n:Int)≤c.dim:=by omega
   clear hdm hd0
   go_enter Tryz.func5,Tryz.ntmps5
   go_wp2_with fail
   refine hru.mono ?_
   rintro e w1 ⟨rfl,hb1⟩
   obtain ⟨y1,y2,y3,y4,-,-⟩:=HCl.out w1 hb1
   have hic:=HIc.out w1 hb1
   have HB1:=hid_of hb1
   clear hb1
   go_wp2_with fail
   refine hic.mono ?_
   rintro e w2 ⟨rfl,hb2⟩
   obtain ⟨x1,x2,x3,x4,-,-⟩:=HCl.out w2 (onB HB1.out hb2)
   have hF:=hid_of (HBad.out w2 1 HC.out (by decide) (onB HB1.out hb2))
   clear hb2 hic y1 y2 y3 y4
   go_wp2_with fail
   have hq:=World.cell?_setCell_same w2 ⟨w.heap.size+2,0,none⟩ (.slice none 0 0) x3
   refine bodyPost_ret (v:=.tuple #[.agg #[.slice none 0 0],.slice none 0 0,.iface 69 (.int .i64 1)]) (by simp [results,Tryz.results5,go_sem,hq]) rfl hF.out
 obtain ⟨k,hk⟩:∃ k:Nat,c.dim=k:=⟨c.dim.toNat,by omega⟩
 have hkn:k<n:=by omega
 obtain ⟨hrp,hens⟩:=cu_parts hcu0
 obtain ⟨hall,hre⟩:=ru_parts hrp
 obtain ⟨hn1,hn4,-,hd12⟩:=allErr_some hall
 have hC3:chE D n (lE xs) c=if cgE (D k) (lE xs) k c≠0 then cgE (D k) (lE xs) k c else (ruErr (putD D k (cgD (D k) c)) n).2.2:=by
  unfold chE
  rw [if_neg (by simpa using hcu0),if_neg hdm,hk,Int.toNat_natCast]
 have hpl0:∀ y∈lE xs,y.pl.length=n∧0≤y.pl.getD k 0∧y.pl.getD k 0≤12:=fun y hy=>by
  have h1:=(hens.each y hy).1
  have h2:=h1.lo k hkn
  have h3:=h1.hi k hkn
  have:=(hd12 k hkn).2
  exact ⟨h1.len,h2,by omega⟩
 have hfew:xs.length≤3000:=by have:=hens.few;rwa [lE_len] at this
 have HFr:Hid (∀ w1,Below W.heap.size W w1→Calls Tryz.prog 23 #[.agg #[.slice A0 n cap]] w1 fun e w'=>(∃ g c G C',e=.returned (.agg #[.slice (some ⟨g,0,none⟩) n c])∧OwD w' w1.heap.size g c n D G C')∧Below w1.heap.size w1 w'):=fun w1 hb=>ofresh_own A0 cap n D A C w1 hall (hM.later (onB hBW hb))
 have HFi:Hid (∀ w1,Below W.heap.size W w1→Calls Tryz.prog 24 #[.slice AE xs.length ce] w1 fun e w'=>(∃ ys,e=.returned (.slice (some ⟨w1.heap.size,0,none⟩) xs.length xs.length)∧OwE w' w1.heap.size w1.heap.size xs.length ys∧lE ys=lE xs)∧Below w1.heap.size w1 w'):=fun w1 hb=>fresh_own AE ce xs w1 hfew (fun j hj=>by
  have h1:=(hpl0 _ (List.mem_map.2 ⟨_,enl_mem hj,rfl⟩)).1
  omega) (hEn.later (onB hBW hb))
 have HTb:Hid (TabE W):=hT.later hBW
 have HPl:=hid_of hpl0
 have HC3:=hid_of hC3
 have HDk:Hid ((D k).n≤12∧Tr (D k).mem (D k).n∧(∀ j,j<(D k).n→((D k).mem j).formula.size=0∨(((D k).mem j).formula.size≤100∧prsE ((D k).mem j).formula=0))):=⟨(hd12 k hkn).2,Tr.of ((allErr_right hall).2 k hkn),fun j hj=>form_of (hre k hkn) hj⟩
 have HBW:=hid_of hBW
 have HWs:=hid_of hWs
 have hkI:(k:Int)<(n:Int):=by omega
 have hnI:(n:Int)≤4:=by omega
 have HKn:=hid_of hkn
 have HN4:=hid_of hn4
 have hk0:(0:Int)≤(k:Int):=by omega
 have HKd:=hid_of hk
 have HFw:=hid_of hfew
 unfold chgV
 rw [hk] at z2 hW ⊢
 clear hM hEn hT hBW hWs k0 k1 k2 hq hE1 hcu hE2 hcu0 hdm hrp hens hall hre hn1 hn4 hd12 hC3 hpl0 hfew hkn HRu
 go_enter Tryz.func5,Tryz.ntmps5
 go_wp2_with fail
 refine hru.mono ?_
 rintro e w1 ⟨rfl,hb1⟩
 obtain ⟨y1,y2,y3,y4,-,-⟩:=HCl.out w1 hb1
 have hic:=HIc.out w1 hb1
 have HB1:=hid_of hb1
 clear hb1
 go_wp2_with fail
 refine hic.mono ?_
 rintro e w2 ⟨rfl,hb2⟩
 obtain ⟨x1,x2,x3,x4,-,-⟩:=HCl.out w2 (onB HB1.out hb2)
 rw [hk] at x2
 have hfr:=HFr.out w2 (onB HB1.out hb2)
 have HB2:=hid_of (onB HB1.out hb2)
 clear hb2 hic y1 y2 y3 y4
 go_wp2_with fail
 refine hfr.mono ?_
 rintro e w3 ⟨⟨g,cd,G,C',rfl,hOw⟩,hb3⟩
 obtain ⟨W4,hW4⟩:∃ W4,w3.alloc (.cells #[.slice (some ⟨g,0,none⟩) n cd] 24)=W4:=⟨_,rfl⟩
 have hb4:Below w3.heap.size w3 W4:=by rw [←hW4];go_grown
 have hk4:W4.heap[w3.heap.size]?=some (.cells #[.slice (some ⟨g,0,none⟩) n cd] 24 (0,0)):=by rw [←hW4];exact heap_alloc_new ..
 have hz4:w3.heap.size<W4.heap.size:=by rw [←hW4];simp
 have HB4:=hid_of (onB HB2.out (onB hb3 hb4))
 have hb13:W.heap.size≤w3.heap.size:=Nat.le_trans HB2.out.size hb3.size
 have HO4:=hid_of ((hOw.later hb4).base HB2.out.size)
 have HK4:=hid_of hk4
 have hncd:(n:Int)≤(cd:Int):=by have:=(ow_blk hOw.dims).2.2.1;omega
 obtain ⟨u1,u2,u3,u4,-,-⟩:=HCl.out W4 HB4.out
 rw [hk] at u2
 have HS4:Hid (∀ w',Below W4.heap.size W4 w'→w'.cell? ⟨w3.heap.size,0,none⟩=some (.slice (some ⟨g,0,none⟩) n cd)∧w'.cell? ⟨w.heap.size+1,1,none⟩=some (.int .i64 (k:Int))):=fun w' hb=>by
  have h1:=(hb.block _ hz4).trans hk4
  refine ⟨(Lib.cell_of_heap h1 0).trans rfl,?_⟩
  have:=(HCl.out w' (onB HB4.out hb)).2.1
  rwa [hk] at this
 have l4:W4.cell? ⟨w3.heap.size,0,none⟩=some (.slice (some ⟨g,0,none⟩) n cd):=(HS4.out W4 (Below.refl _ _)).1
 have HFi4:Hid (∀ w',Below W4.heap.size W4 w'→Calls Tryz.prog 24 #[.slice AE xs.length ce] w' fun e w''=>(∃ ys,e=.returned (.slice (some ⟨w'.heap.size,0,none⟩) xs.length xs.length)∧OwE w'' w'.heap.size w'.heap.size xs.length ys∧lE ys=lE xs)∧Below w'.heap.size w' w''):=fun w' hb=>HFi.out w' (onB HB4.out hb)
 generalize hxl:xs.length=xl at *
 clear hb3 hb4 hk4 hOw hfr x1 x2 x3 x4
 go_upto_region 10 with fail
 clear hW4
 generalize w3.heap.size=b13 at HK4 HS4 l4 hz4 hb13
 go_cut [14] from 51 (fun s14 wx => ∃ q ge ys,s14=.pointer (some ⟨q,0,none⟩)∧Hid (wx.heap[q]?=some (.cells (boxD g k (some ⟨ge,0,none⟩) xl xl) 74 (0,0))∧OwE wx W4.heap.size ge xl ys∧lE ys=lE xs∧W4.heap.size≤q∧Below W4.heap.size W4 wx))
 case first =>
  refine wp_region_held_drew (S:=(fun w'=>Below W4.heap.size W4 w'∧w'.cell? ⟨b13,0,none⟩=some (.slice (some ⟨g,0,none⟩) n cd)∧w'.cell? ⟨w.heap.size+1,1,none⟩=some (.int .i64 (k:Int)))) (by kernel_rfl) (by (refine (fun hB=>⟨hB,HS4.out _ hB⟩) ?_;go_grown)) (fun hHeld=>?_)
  refine wpAnyH_take (i := 0) (oi := { dst := some 51, op := Go.Op.fieldAddr 24 (Go.Operand.tmp 13) 0, type := 0, pos := "change.go:30", after := #[], guard := none }) (v := ?vq8x10x0) rfl (by kernel_rfl) (by kernel_rfl) (by kernel_rfl) (fun _ _ _ h => h) (Or.inl ⟨by rfl, ?yq8x10x0⟩) hHeld ?rq8x10x0
  case yq8x10x0=>(intro w hSw;(try dsimp only at hSw);go_simp;(try with_reducible rfl))
  (try simp only [Act.put,List.setIfInBounds_toArray,List.set_cons_zero,List.set_cons_succ])
  refine wpAnyH_take (i := 1) (oi := { dst := some 52, op := Go.Op.load 22 (Go.Operand.tmp 51), type := 22, pos := "change.go:30", after := #[{ on := 0, ground := Go.Ground.data }], guard := none }) (v := ?vq8x10x1) rfl (by kernel_rfl) (by kernel_rfl) (by kernel_rfl) (fun _ _ _ h => h) (Or.inl ⟨by rfl, ?yq8x10x1⟩) hHeld ?rq8x10x1
  case yq8x10x1=>(intro w hSw;(try dsimp only at hSw);go_simp;(try with_reducible rfl))
  (try simp only [Act.put,List.setIfInBounds_toArray,List.set_cons_zero,List.set_cons_succ])
  refine wpAnyH_take (i := 2) (oi := { dst := some 53, op := Go.Op.fieldAddr 27 (Go.Operand.tmp 5) 1, type := 0, pos := "change.go:30", after := #[], guard := none }) (v := ?vq8x10x2) rfl (by kernel_rfl) (by kernel_rfl) (by kernel_rfl) (fun _ _ _ h => h) (Or.inl ⟨by rfl, ?yq8x10x2⟩) hHeld ?rq8x10x2
  case yq8x10x2=>(intro w hSw;(try dsimp only at hSw);go_simp;(try with_reducible rfl))
  (try simp only [Act.put,List.setIfInBounds_toArray,List.set_cons_zero,List.set_cons_succ])
  refine wpAnyH_take (i := 3) (oi := { dst := some 54, op := Go.Op.load 3 (Go.Operand.tmp 53), type := 3, pos := "change.go:30", after := #[{ on := 2, ground := Go.Ground.data }], guard := none }) (v := ?vq8x10x3) rfl (by kernel_rfl) (by kernel_rfl) (by kernel_rfl) (fun _ _ _ h => h) (Or.inl ⟨by rfl, ?yq8x10x3⟩) hHeld ?rq8x10x3
  case yq8x10x3=>(intro w hSw;(try dsimp only at hSw);go_simp;(try with_reducible rfl))
  (try simp only [Act.put,List.setIfInBounds_toArray,List.set_cons_zero,List.set_cons_succ])
  refine wpAnyH_take (i := 4) (oi := { dst := some 55, op := Go.Op.indexAddr 22 (Go.Operand.tmp 52) (Go.Operand.tmp 54), type := 0, pos := "change.go:30", after := #[{ on := 1, ground := Go.Ground.data }, { on := 3, ground := Go.Ground.data }], guard := none }) (v := ?vq8x10x4) rfl (by kernel_rfl) (by kernel_rfl) (by kernel_rfl) (fun _ _ _ h => h) (Or.inl ⟨by rfl, ?yq8x10x4⟩) hHeld ?rq8x10x4
  case yq8x10x4=>(intro w hSw;(try dsimp only at hSw);go_simp;(try with_reducible rfl))
  (try simp only [Act.put,List.setIfInBounds_toArray,List.set_cons_zero,List.set_cons_succ])
  refine wpAnyH_take (i := 5) (oi := { dst := some 56, op := Go.Op.fieldAddr 27 (Go.Operand.tmp 5) 1, type := 0, pos := "change.go:30", after := #[], guard := none }) (v := ?vq8x10x5) rfl (by kernel_rfl) (by kernel_rfl) (by kernel_rfl) (fun _ _ _ h => h) (Or.inl ⟨by rfl, ?yq8x10x5⟩) hHeld ?rq8x10x5
  case yq8x10x5=>(intro w hSw;(try dsimp only at hSw);go_simp;(try with_reducible rfl))
  (try simp only [Act.put,List.setIfInBounds_toArray,List.set_cons_zero,List.set_cons_succ])
  refine wpAnyH_take (i := 6) (oi := { dst := some 57, op := Go.Op.load 3 (Go.Operand.tmp 56), type := 3, pos := "change.go:30", after := #[{ on := 5, ground := Go.Ground.data }], guard := none }) (v := ?vq8x10x6) rfl (by kernel_rfl) (by kernel_rfl) (by kernel_rfl) (fun _ _ _ h => h) (Or.inl ⟨by rfl, ?yq8x10x6⟩) hHeld ?rq8x10x6
  case yq8x10x6=>(intro w hSw;(try dsimp only at hSw);go_simp;(try with_reducible rfl))
  (try simp only [Act.put,List.setIfInBounds_toArray,List.set_cons_zero,List.set_cons_succ])
  refine wpAnyH_take (i := 7) (oi := { dst := some 58, op := Go.Op.move (Go.Operand.tmp 1), type := 25, pos := "change.go:30", after := #[], guard := none }) (v := ?vq8x10x7) rfl (by kernel_rfl) (by kernel_rfl) (by kernel_rfl) (fun _ _ _ h => h) (Or.inl ⟨by rfl, ?yq8x10x7⟩) hHeld ?rq8x10x7
  case yq8x10x7=>(intro w hSw;(try dsimp only at hSw);go_simp;(try with_reducible rfl))
  (try simp only [Act.put,List.setIfInBounds_toArray,List.set_cons_zero,List.set_cons_succ])
  refine wpAnyH_ready (rs:=[8,10]) (by kernel_rfl) (by simp) ?_
  refine AllReadyH.cons (o := { dst := some 59, op := Go.Op.call { callee := Go.Callee.value (Go.Operand.func 24), args := #[Go.Operand.tmp 58], argTypes := #[25] }, type := 25, pos := "change.go:30", after := #[{ on := 7, ground := Go.Ground.data }], guard := none }) rfl (fun K hK => ?_) (AllReadyH.cons (o := { dst := some 14, op := Go.Op.alloc 74, type := 0, pos := "change.go:30", after := #[], guard := none }) rfl (fun K hK => ?_) AllReadyH.nil)
  ·go_simp
   refine (HFi4.out _ (by go_grown)).mono ?_
   rintro e w6 ⟨⟨ys,rfl,hOe,hle⟩,hb6⟩
   have hN6:=onB (W0:=W4) (by go_grown) hb6
   have hs6:=hN6.size
   dsimp only
   refine hK.out _ _ (⟨hN6,HS4.out _ hN6⟩) (fun hHeld=>?_)
   clear hK K
   (try simp only [Act.put,List.setIfInBounds_toArray,List.set_cons_zero,List.set_cons_succ])
   refine wpAnyH_take (i := 9) (oi := { dst := some 60, op := Go.Op.build 74 #[(0, Go.Operand.tmp 55), (1, Go.Operand.tmp 57), (2, Go.Operand.tmp 59)], type := 74, pos := "change.go:30", after := #[{ on := 4, ground := Go.Ground.data }, { on := 6, ground := Go.Ground.data }, { on := 8, ground := Go.Ground.data }], guard := none }) (v := ?vqA9) rfl (by kernel_rfl) (by kernel_rfl) (by kernel_rfl) (fun _ _ _ h => h) (Or.inl ⟨by rfl, ?yqA9⟩) hHeld ?rqA9
   case yqA9=>(intro w hSw;(try dsimp only at hSw);go_simp;(try with_reducible rfl))
   (try simp only [Act.put,List.setIfInBounds_toArray,List.set_cons_zero,List.set_cons_succ])
   refine wpAnyH_ready (rs:=[10]) (by kernel_rfl) (by simp) ?_
   refine AllReadyH.cons (o := { dst := some 14, op := Go.Op.alloc 74, type := 0, pos := "change.go:30", after := #[], guard := none }) rfl (fun K hK => ?_) AllReadyH.nil
   go_simp
   have hN7:Below W4.heap.size W4 (w6.alloc (.cells #[.pointer none,.int .i64 0,.slice none 0 0] 74)):=by go_grown
   refine hK.out _ _ (⟨hN7,HS4.out _ hN7⟩) (fun hHeld=>?_)
   clear hK K
   (try simp only [Act.put,List.setIfInBounds_toArray,List.set_cons_zero,List.set_cons_succ])
   refine wpAnyH_ready (rs:=[11]) (by kernel_rfl) (by simp) ?_
   refine AllReadyH.cons (o := { dst := none, op := Go.Op.store 74 (Go.Operand.tmp 14) (Go.Operand.tmp 60), type := 0, pos := "change.go:30", after := #[{ on := 10, ground := Go.Ground.data }, { on := 9, ground := Go.Ground.data }, { on := 8, ground := Go.Ground.chain }, { on := 0, ground := Go.Ground.phase }, { on := 1, ground := Go.Ground.phase }, { on := 2, ground := Go.Ground.phase }, { on := 3, ground := Go.Ground.phase }, { on := 4, ground := Go.Ground.phase }, { on := 5, ground := Go.Ground.phase }, { on := 6, ground := Go.Ground.phase }, { on := 7, ground := Go.Ground.phase }, { on := 8, ground := Go.Ground.phase }, { on := 9, ground := Go.Ground.phase }, { on := 10, ground := Go.Ground.phase }], guard := none }) rfl (fun K hK => ?_) AllReadyH.nil
   go_simp
   have hN8:Below W4.heap.size W4 (w6.alloc (.cells #[.pointer (some ⟨g,k*3,none⟩),.int .i64 (k:Int),.slice (some ⟨W4.heap.size,0,none⟩) xl xl] 74)):=by go_grown
   have HF:Hid ((w6.alloc (.cells #[.pointer (some ⟨g,k*3,none⟩),.int .i64 (k:Int),.slice (some ⟨W4.heap.size,0,none⟩) xl xl] 74)).heap[w6.heap.size]?=some (.cells (boxD g k (some ⟨W4.heap.size,0,none⟩) xl xl) 74 (0,0))∧OwE (w6.alloc (.cells #[.pointer (some ⟨g,k*3,none⟩),.int .i64 (k:Int),.slice (some ⟨W4.heap.size,0,none⟩) xl xl] 74)) W4.heap.size W4.heap.size xl ys∧lE ys=lE xs∧W4.heap.size≤w6.heap.size∧Below W4.heap.size W4 (w6.alloc (.cells #[.pointer (some ⟨g,k*3,none⟩),.int .i64 (k:Int),.slice (some ⟨W4.heap.size,0,none⟩) xl xl] 74))):=⟨heap_alloc_new ..,hOe.later (by go_grown),hle,hs6,hN8⟩
   refine hK.out _ _ (⟨hN8,HS4.out _ hN8⟩) (fun hHeld=>?_)
   clear hK K
   (try simp only [Act.put,List.setIfInBounds_toArray,List.set_cons_zero,List.set_cons_succ])
   refine wpAnyH_done (by kernel_rfl) ?_ _
   clear hOe hb6
   go_wp2_with fail
   go_meet
   exact ⟨_,_,ys,rfl,HF⟩
  ·go_simp
   have hN5:Below W4.heap.size W4 (W4.alloc (.cells #[.pointer none,.int .i64 0,.slice none 0 0] 74)).drew:=by go_grown
   refine hK.out _ _ (⟨hN5,HS4.out _ hN5⟩) (fun hHeld=>?_)
   clear hK K
   (try simp only [Act.put,List.setIfInBounds_toArray,List.set_cons_zero,List.set_cons_succ])
   refine wpAnyH_ready (rs:=[8]) (by kernel_rfl) (by simp) ?_
   refine AllReadyH.cons (o := { dst := some 59, op := Go.Op.call { callee := Go.Callee.value (Go.Operand.func 24), args := #[Go.Operand.tmp 58], argTypes := #[25] }, type := 25, pos := "change.go:30", after := #[{ on := 7, ground := Go.Ground.data }], guard := none }) rfl (fun K hK => ?_) AllReadyH.nil
   go_simp
   refine (HFi4.out _ (by go_grown)).mono ?_
   rintro e w6 ⟨⟨ys,rfl,hOe,hle⟩,hb6⟩
   have hN6:=onB (W0:=W4) hN5 hb6
   have hs6:=hN6.size
   have hX6:(W4.alloc (.cells #[.pointer none,.int .i64 0,.slice none 0 0] 74)).drew.heap.size=W4.heap.size+1:=by simp
   rw [hX6] at hOe
   dsimp only
   have hq6:w6.heap[W4.heap.size]?=some (.cells #[.pointer none,.int .i64 0,.slice none 0 0] 74 (0,0)):=(hb6.block W4.heap.size (by simp)).trans (heap_alloc_new W4 (.cells #[.pointer none,.int .i64 0,.slice none 0 0] 74))
   have l0:=(Lib.cell_of_heap hq6 0)
   have l1:=(Lib.cell_of_heap hq6 1)
   have l2:=(Lib.cell_of_heap hq6 2)
   have f0:=fun j=>(Lib.frozen_of_heap hq6 j)
   simp at l0 l1 l2
   have f1:=f0 0
   have f2:=f0 1
   have f3:=f0 2
   clear f0
   refine hK.out _ _ (⟨hN6,HS4.out _ hN6⟩) (fun hHeld=>?_)
   clear hK K
   (try simp only [Act.put,List.setIfInBounds_toArray,List.set_cons_zero,List.set_cons_succ])
   refine wpAnyH_take (i := 9) (oi := { dst := some 60, op := Go.Op.build 74 #[(0, Go.Operand.tmp 55), (1, Go.Operand.tmp 57), (2, Go.Operand.tmp 59)], type := 74, pos := "change.go:30", after := #[{ on := 4, ground := Go.Ground.data }, { on := 6, ground := Go.Ground.data }, { on := 8, ground := Go.Ground.data }], guard := none }) (v := ?vqB9) rfl (by kernel_rfl) (by kernel_rfl) (by kernel_rfl) (fun _ _ _ h => h) (Or.inl ⟨by rfl, ?yqB9⟩) hHeld ?rqB9
   case yqB9=>(intro w hSw;(try dsimp only at hSw);go_simp;(try with_reducible rfl))
   (try simp only [Act.put,List.setIfInBounds_toArray,List.set_cons_zero,List.set_cons_succ])
   refine wpAnyH_ready (rs:=[11]) (by kernel_rfl) (by simp) ?_
   refine AllReadyH.cons (o := { dst := none, op := Go.Op.store 74 (Go.Operand.tmp 14) (Go.Operand.tmp 60), type := 0, pos := "change.go:30", after := #[{ on := 10, ground := Go.Ground.data }, { on := 9, ground := Go.Ground.data }, { on := 8, ground := Go.Ground.chain }, { on := 0, ground := Go.Ground.phase }, { on := 1, ground := Go.Ground.phase }, { on := 2, ground := Go.Ground.phase }, { on := 3, ground := Go.Ground.phase }, { on := 4, ground := Go.Ground.phase }, { on := 5, ground := Go.Ground.phase }, { on := 6, ground := Go.Ground.phase }, { on := 7, ground := Go.Ground.phase }, { on := 8, ground := Go.Ground.phase }, { on := 9, ground := Go.Ground.phase }, { on := 10, ground := Go.Ground.phase }], guard := none }) rfl (fun K hK => ?_) AllReadyH.nil
   go_simp
   have hx1:=set_tyD (k:=0) (v:=.pointer (some ⟨g,k*3,none⟩)) hq6
   have hx2:=set_tyD (k:=1) (v:=.int .i64 (k:Int)) hx1
   have hx3:=set_tyD (k:=2) (v:=.slice (some ⟨W4.heap.size+1,0,none⟩) xl xl) hx2
   have hN8:Below W4.heap.size W4 (((w6.setCell ⟨W4.heap.size,0,none⟩ (.pointer (some ⟨g,k*3,none⟩))).setCell ⟨W4.heap.size,1,none⟩ (.int .i64 (k:Int))).setCell ⟨W4.heap.size,2,none⟩ (.slice (some ⟨W4.heap.size+1,0,none⟩) xl xl)):=((hN6.setCell (Nat.le_refl _) _).setCell (Nat.le_refl _) _).setCell (Nat.le_refl _) _
   have hE8:OwE (((w6.setCell ⟨W4.heap.size,0,none⟩ (.pointer (some ⟨g,k*3,none⟩))).setCell ⟨W4.heap.size,1,none⟩ (.int .i64 (k:Int))).setCell ⟨W4.heap.size,2,none⟩ (.slice (some ⟨W4.heap.size+1,0,none⟩) xl xl)) W4.heap.size (W4.heap.size+1) xl ys:=OwE.base (B:=W4.heap.size+1) (hOe.keep fun b cs e hb _ _=>(setCell_off _ _ _ _ _ (by have:W4.heap.size+1≤b:=hb;omega)).trans ((setCell_off _ _ _ _ _ (by have:W4.heap.size+1≤b:=hb;omega)).trans (setCell_off _ _ _ _ _ (by have:W4.heap.size+1≤b:=hb;omega)))) (by omega)
   have HF:Hid ((((w6.setCell ⟨W4.heap.size,0,none⟩ (.pointer (some ⟨g,k*3,none⟩))).setCell ⟨W4.heap.size,1,none⟩ (.int .i64 (k:Int))).setCell ⟨W4.heap.size,2,none⟩ (.slice (some ⟨W4.heap.size+1,0,none⟩) xl xl)).heap[W4.heap.size]?=some (.cells (boxD g k (some ⟨W4.heap.size+1,0,none⟩) xl xl) 74 (0,0))∧OwE (((w6.setCell ⟨W4.heap.size,0,none⟩ (.pointer (some ⟨g,k*3,none⟩))).setCell ⟨W4.heap.size,1,none⟩ (.int .i64 (k:Int))).setCell ⟨W4.heap.size,2,none⟩ (.slice (some ⟨W4.heap.size+1,0,none⟩) xl xl)) W4.heap.size (W4.heap.size+1) xl ys∧lE ys=lE xs∧W4.heap.size≤W4.heap.size∧Below W4.heap.size W4 (((w6.setCell ⟨W4.heap.size,0,none⟩ (.pointer (some ⟨g,k*3,none⟩))).setCell ⟨W4.heap.size,1,none⟩ (.int .i64 (k:Int))).setCell ⟨W4.heap.size,2,none⟩ (.slice (some ⟨W4.heap.size+1,0,none⟩) xl xl))):=⟨hx3,hE8,hle,Nat.le_refl _,hN8⟩
   clear hx1 hx2 hx3 hE8 hq6 l0 l1 l2 f1 f2 f3
   refine hK.out _ _ (⟨hN8,HS4.out _ hN8⟩) (fun hHeld=>?_)
   clear hK K
   (try simp only [Act.put,List.setIfInBounds_toArray,List.set_cons_zero,List.set_cons_succ])
   refine wpAnyH_done (by kernel_rfl) ?_ _
   clear hOe hb6
   go_wp2_with fail
   go_meet
   exact ⟨_,_,ys,rfl,HF⟩
 case rest =>
  obtain ⟨q,ge,ys,rfl,hcx⟩:=hcut
  obtain ⟨wx,rfl⟩:∃ wx:World,wx=wc:=⟨_,rfl⟩
  obtain ⟨hqb,hOe,hle,hq4,hbx⟩:=hcx.out
  have hyl:ys.length=xl:=by
   have:=congrArg List.length hle
   rw [lE_len,lE_len] at this
   rw [this,←hxl]
  have hB4s:=HB4.out.size
  have hqW:W.heap.size≤q:=by omega
  have hD:DrA wx W.heap.size q g cd n k ge xl D G C' ys:=⟨by rw [hyl];exact hqb,by omega,HO4.out.later hbx,hOe.base (by omega),HKn.out,HN4.out,by rw [hyl];exact HFw.out,fun y hy=>(HPl.out _ (by rw [←hle];exact List.mem_map.2 ⟨y,hy,rfl⟩)).1⟩
  have hbWx:Below W.heap.size W wx:=onB HB4.out hbx
  have hcon:=change_any W.heap.size q g cd n k ge xl D G C' ys c W wx rfl HTb.out hbWx hbWx.size HDk.out.1 HDk.out.2.1 HDk.out.2.2 (fun y hy=>(HPl.out _ (by rw [←hle];exact List.mem_map.2 ⟨y,hy,rfl⟩)).2) hD
  rw [hle] at hcon
  have hck:chgV c=.agg #[.int .i64 c.what,.int .i64 (k:Int),.int .i64 c.mb,.string c.name,.int .i64 c.tgt,.int .i64 c.sign]:=by unfold chgV;rw [HKd.out]
  rw [hck] at hcon
  obtain ⟨v1,v2,v3,v4,v5,v6⟩:=HCl.out wx hbWx
  rw [HKd.out] at v5
  have p0:wx.cell? ⟨w.heap.size+1,0,none⟩=some (.int .i64 c.what):=(Lib.cell_of_heap v5 0).trans rfl
  have p1:wx.cell? ⟨w.heap.size+1,1,none⟩=some (.int .i64 (k:Int)):=(Lib.cell_of_heap v5 1).trans rfl
  have p2:wx.cell? ⟨w.heap.size+1,2,none⟩=some (.int .i64 c.mb):=(Lib.cell_of_heap v5 2).trans rfl
  have p3:wx.cell? ⟨w.heap.size+1,3,none⟩=some (.string c.name):=(Lib.cell_of_heap v5 3).trans rfl
  have p4:wx.cell? ⟨w.heap.size+1,4,none⟩=some (.int .i64 c.tgt):=(Lib.cell_of_heap v5 4).trans rfl
  have p5:wx.cell? ⟨w.heap.size+1,5,none⟩=some (.int .i64 c.sign):=(Lib.cell_of_heap v5 5).trans rfl
  have hk4x:wx.heap[b13]?=some (.cells #[.slice (some ⟨g,0,none⟩) n cd] 24 (0,0)):=(hbx.block b13 hz4).trans HK4.out
  have HKx:=hid_of hk4x
  have HBx:=hid_of hbWx
  have HCh:Hid (chD D c=putD D k (cgD (D k) c)∧(chE D n (lE xs) c=0→chN D n (lE xs) c=n∧chL D n (lE xs) c=cgL (lE xs) k c)):=⟨by unfold chD;rw [HKd.out,Int.toNat_natCast],fun h=>⟨if_pos h,by unfold chL;rw [if_pos h,HKd.out,Int.toNat_natCast]⟩⟩
  have HWs2:=HWs.out
  clear hqb hOe hle hq4 hbx hcx hyl hD hck v1 v2 v5 v6 hk4x hbWx u1 u2 u3 u4 hB4s l4 HK4 HFi4
  by_cases hg:cgE (D k) (lE xs) k c=0
  case neg =>
   have HE:Hid (chE D n (lE xs) c=cgE (D k) (lE xs) k c):=by show _=_;rw [HC3.out,if_pos hg]
   have HV:=hid_of (errV_some hg)
   have HN:=hid_of hg
   generalize cgE (D k) (lE xs) k c=E at hcon HE HV HN
   clear hg
   go_wp2_with fail
   refine hcon.mono ?_
   rintro e w5 ⟨rfl,-,hLw⟩
   rw [HV.out]
   have hb5:=hLw.1 W HBx.out
   obtain ⟨-,-,y3,y4,-,-⟩:=HCl.out w5 hb5
   have hF:=hid_of (HBad.out w5 E HE.out HN.out hb5)
   rw [HV.out] at hF
   clear hLw hb5 v3 v4 p0 p1 p2 p3 p4 p5
   go_wp2_with fail
   have hq:=World.cell?_setCell_same w5 ⟨w.heap.size+2,0,none⟩ (.slice none 0 0) y3
   refine bodyPost_ret (v:=.tuple #[.agg #[.slice none 0 0],.slice none 0 0,.iface 69 (.int .i64 E)]) (by simp [results,Tryz.results5,go_sem,hq]) rfl hF.out
  have hC4:=HC3.out
  rw [if_neg (by simpa using hg)] at hC4
  have HC4:=hid_of hC4
  rw [hg] at hcon
  clear hg hC4
  go_wp2_with fail
  refine hcon.mono ?_
  rintro e w5 ⟨rfl,hdr,hLw⟩
  rw [errV_zero]
  obtain ⟨G5,C5,zs,hD5,hzl⟩:=hdr rfl
  have hb5:=hLw.1 W HBx.out
  have hk5:=hLw.2 b13 _ _ HKx.out
  have hzb5:b13<w5.heap.size:=(Array.getElem?_eq_some_iff.1 hk5).1
  have hrl:Calls Tryz.prog 21 #[.agg #[.slice (some ⟨g,0,none⟩) n cd]] w5 fun e w'=>e=.returned (.tuple #[.int .i64 (ruErr (putD D k (cgD (D k) c)) n).1,.int .i64 (ruErr (putD D k (cgD (D k) c)) n).2.1,errV (ruErr (putD D k (cgD (D k) c)) n).2.2])∧Below w5.heap.size w5 w':=rulall_any (some ⟨g,0,none⟩) cd n (putD D k (cgD (D k) c)) (fun i=>some ⟨G5 i,0,none⟩) C5 w5 hD5.own.toV
  have l5:w5.cell? ⟨b13,0,none⟩=some (.slice (some ⟨g,0,none⟩) n cd):=(Lib.cell_of_heap hk5 0).trans rfl
  have HL5:Hid (∀ w',Below w5.heap.size w5 w'→w'.cell? ⟨b13,0,none⟩=some (.slice (some ⟨g,0,none⟩) n cd)∧w'.cell? ⟨q,2,none⟩=some (.slice (some ⟨ge,0,none⟩) zs.length xl)∧w'.cell? ⟨w.heap.size+2,0,none⟩=some (.slice none 0 0)∧w'.frozen? ⟨w.heap.size+2,0,none⟩=false):=fun w' hb=>by
   obtain ⟨-,-,y3,y4,-,-⟩:=HCl.out w' (onB hb5 hb)
   exact ⟨(hb.cell (p:=⟨b13,0,none⟩) hzb5).trans l5,(hD5.later hb).cells.2.2.1,y3,y4⟩
  have HB5:=hid_of hb5
  have HEnd:Hid (chE D n (lE xs) c=0→∀ w' u,Below w5.heap.size w5 w'→ChV w.heap.size (chD D c) (chN D n (lE xs) c) (chL D n (lE xs) c) (chE D n (lE xs) c) w (.returned (.tuple #[.agg #[.slice (some ⟨g,0,none⟩) n cd],.slice (some ⟨ge,0,none⟩) zs.length xl,.nilIface])) (w'.setCell ⟨w.heap.size+2,0,none⟩ u)):=fun h0 w' u hb=>by
   obtain ⟨e1,e2⟩:=HCh.out
   obtain ⟨e2,e3⟩:=e2 h0
   have h6:=hD5.later hb
   have hoff:∀ b:Nat,W.heap.size≤b→(w'.setCell ⟨w.heap.size+2,0,none⟩ u).heap[b]?=w'.heap[b]?:=fun b hbb=>setCell_off _ _ _ _ _ (by omega)
   rw [h0,e1,e2,e3,←hzl,←errV_zero]
   exact ⟨⟨_,_,_,_,_,_,zs,rfl,(h6.own.keep fun b cs e hbb _ _=>hoff b hbb).toV,(h6.ents.keep fun b cs e hbb _ _=>hoff b hbb).row.ensV,rfl⟩,(onB HBW.out (onB HB5.out hb)).setCell (by show _≤w.heap.size+2;omega) _⟩
  generalize zs.length=zl at HL5 HEnd
  generalize (ruErr (putD D k (cgD (D k) c)) n).1=t1 at hrl
  generalize (ruErr (putD D k (cgD (D k) c)) n).2.1=t2 at hrl
  clear hdr hLw hb5 hk5 hD5 hzl v3 v4 p0 p1 p2 p3 p4 p5 hcon
  by_cases hru2:(ruErr (putD D k (cgD (D k) c)) n).2.2=0
  case neg =>
   have HV:=hid_of (errV_some hru2)
   have HN:=hid_of hru2
   generalize (ruErr (putD D k (cgD (D k) c)) n).2.2=E at hrl HC4 HV HN
   rw [HV.out] at hrl
   clear hru2
   go_wp2_with fail
   refine hrl.mono ?_
   rintro e w6 ⟨rfl,hb6⟩
   obtain ⟨-,-,y3,y4⟩:=HL5.out w6 hb6
   have hF:=hid_of (HBad.out w6 E HC4.out HN.out (onB HB5.out hb6))
   rw [HV.out] at hF
   clear hb6 l5
   go_wp2_with fail
   have hq:=World.cell?_setCell_same w6 ⟨w.heap.size+2,0,none⟩ (.slice none 0 0) y3
   refine bodyPost_ret (v:=.tuple #[.agg #[.slice none 0 0],.slice none 0 0,.iface 69 (.int .i64 E)]) (by simp [results,Tryz.results5,go_sem,hq]) rfl hF.out
  rw [hru2] at hrl HC4
  rw [errV_zero] at hrl
  have HE0:=hid_of (HEnd.out HC4.out)
  clear hru2
  go_wp2_with fail
  refine hrl.mono ?_
  rintro e w6 ⟨rfl,hb6⟩
  obtain ⟨y1,y2,y3,y4⟩:=HL5.out w6 hb6
  have HE1:=hid_of (fun w' u (hb:Below w6.heap.size w6 w')=>HE0.out w' u (onB hb6 hb))
  clear hb6 l5
  have hne:b13≠w.heap.size+2∧q≠w.heap.size+2:=⟨by omega,by omega⟩
  have HNe:=hid_of hne
  obtain ⟨hne1,hne2⟩:=hne
  clear HWs2 hqW hb13
  go_upto_region 17 with fail
  go_region_held3 (fun w'=>w'.cell? ⟨b13,0,none⟩=some (.slice (some ⟨g,0,none⟩) n cd)∧w'.cell? ⟨q,2,none⟩=some (.slice (some ⟨ge,0,none⟩) zl xl))
   (first | exact ⟨y1,y2⟩ | exact ⟨(World.cell?_setCell_far _ _ _ _ HNe.out.1.symm).trans y1,(World.cell?_setCell_far _ _ _ _ HNe.out.2.symm).trans y2⟩)
   (fail)
  have hF:=hid_of (HE1.out w6.drew (.slice (some ⟨g,0,none⟩) n cd) (by go_grown))
  go_wp2_with fail
  refine bodyPost_ret (v:=.tuple #[.agg #[.slice (some ⟨g,0,none⟩) n cd],.slice (some ⟨ge,0,none⟩) zl xl,.nilIface]) (by
   have hq2:((w6.setCell ⟨w.heap.size+1+1,0,none⟩ (.slice (some ⟨g,0,none⟩) n cd)).drew.cell? ⟨w.heap.size+1+1,0,none⟩)=some (.slice (some ⟨g,0,none⟩) n cd):=World.cell?_setCell_same w6.drew ⟨w.heap.size+2,0,none⟩ (.slice (some ⟨g,0,none⟩) n cd) y3
   simp [results,Tryz.results5,go_sem,hq2]) rfl hF.out
end Go.Proofs.YtfldgghobddgkaaGreatDoor
