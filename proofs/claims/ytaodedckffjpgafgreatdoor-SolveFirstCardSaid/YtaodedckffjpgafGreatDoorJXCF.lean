/-
  What tallylaw4.SolveFirst answers, called in whatever memory: true.
-/
import Derived.Test.YtaodedckffjpgafGreatDoorJXBU
namespace Go.Proofs.YtaodedckffjpgafGreatDoor
open Go.ChangeShapes Go.WideShapes Go.ChangeAt Go.RowKit
set_option maxRecDepth 20000
set_option maxHeartbeats 8000000 in
theorem sfirst_yes (a b c d:Int) (w:World) (ha:0≤a∧a≤1000) (hb:1≤b∧b≤1000) (hc:0≤c∧c≤1000) (hd:1≤d∧d≤1000):Calls Tryz.prog 7 #[.int .i64 a,.int .i64 b,.int .i64 c,.int .i64 d,.bool true] w fun e w'=>e=.returned (.bool true)∧Below w.heap.size w w':=by
 have hV:=fsW1_V w
 have h0:=fsW0_V w
 obtain ⟨V0,hV0⟩:∃ V0,fsW0 w=V0:=⟨_,rfl⟩
 rw [hV0] at hV h0
 have o1:V0.cell? ⟨w.heap.size+1,1,none⟩=some (.int .i64 0):=(Lib.cell_of_heap h0.b1 1).trans rfl
 have o2:V0.frozen? ⟨w.heap.size+1,1,none⟩=false:=by simp [World.frozen?,h0.b1]
 obtain ⟨V,hVe⟩:∃ V,V0.setCell ⟨w.heap.size+1,1,none⟩ (.int .i64 9)=V:=⟨_,rfl⟩
 rw [hVe] at hV
 unfold fsW0 at hV0
 rw [show w.heap.size+2=w.heap.size+1+1 from rfl] at hV0
 clear h0
 have hb1:=hV.b1
 have hb3:=hV.b3
 rw [show fsS true=9 from rfl] at hb1
 rw [show w.heap.size+3=w.heap.size+1+1+1 from rfl,show w.heap.size+2=w.heap.size+1+1 from rfl] at hb3
 have m0:V.cell? ⟨w.heap.size+1,0,none⟩=some (.string ⟨#[109]⟩):=(Lib.cell_of_heap hb1 0).trans rfl
 have m1:V.cell? ⟨w.heap.size+1,1,none⟩=some (.int .i64 9):=(Lib.cell_of_heap hb1 1).trans rfl
 have m2:V.cell? ⟨w.heap.size+1,2,none⟩=some (.slice (some ⟨w.heap.size,0,none⟩) 3 3):=(Lib.cell_of_heap hb1 2).trans rfl
 have t0:V.cell? ⟨w.heap.size+1+1+1,0,none⟩=some (.string ⟨#[116]⟩):=(Lib.cell_of_heap hb3 0).trans rfl
 have t1:V.cell? ⟨w.heap.size+1+1+1,1,none⟩=some (.int .i64 5):=(Lib.cell_of_heap hb3 1).trans rfl
 have t2:V.cell? ⟨w.heap.size+1+1+1,2,none⟩=some (.slice (some ⟨w.heap.size+1+1,0,none⟩) 3 3):=(Lib.cell_of_heap hb3 2).trans rfl
 have hUd:=fsU_dims hV a b c d
 have hUe:=fsU_ents w V (fsS true) a b c d
 have hUp:=fsU_place w V (fsS true) a b c d
 have hUo:=fsU_out w V (fsS true) a b c d
 have hUb:=fsU_below w V (fsS true) a b c d
 have hUs:=fsU_size w V (fsS true) a b c d
 obtain ⟨U,hU⟩:∃ U,fsU w V (fsS true) a b c d=U:=⟨_,rfl⟩
 rw [hU] at hUd hUe hUp hUo hUb hUs
 unfold fsU at hU
 rw [show fsS true=9 from rfl] at hU
 have hcl:=pvalue_any (some ⟨V.heap.size,0,none⟩) 2 2 (fstD true) (fun i=>if i=0 then some ⟨w.heap.size,0,none⟩ else some ⟨w.heap.size+2,0,none⟩) (fun _=>3) (some ⟨V.heap.size+6,0,none⟩) 4 (fsX V a b c d) (some ⟨V.heap.size+7,0,none⟩) 2 [0,0] U hUd hUe hUp
 rw [fsX_l,fs_so true (fs_ens true ha hb hc hd),fs_val true ha hb hc hd,errV_zero,show (fsX V a b c d).length=4 from rfl,show ([0,0]:List Int).length=2 from rfl] at hcl
 rw [show w.heap.size+2=w.heap.size+1+1 from rfl,show V.heap.size+5=V.heap.size+1+1+1+1+1 from rfl,show V.heap.size+4=V.heap.size+1+1+1+1 from rfl,show V.heap.size+3=V.heap.size+1+1+1 from rfl,show V.heap.size+2=V.heap.size+1+1 from rfl] at hU
 rw [show V.heap.size+6=V.heap.size+1+1+1+1+1+1 from rfl,show V.heap.size+7=V.heap.size+1+1+1+1+1+1+1 from rfl] at hcl
 have u0:U.cell? ⟨V.heap.size+1,0,none⟩=some (.slice (some ⟨V.heap.size,0,none⟩) 2 2):=(Lib.cell_of_heap hUo 0).trans rfl
 have HUd:=hid_of hUd
 have HUo:=hid_of hUo
 have HUs:=hid_of hUs
 have HUb:Hid (Below w.heap.size w U):=onB hV.below hUb
 have HV:=hid_of hV
 obtain ⟨Q,hQ⟩:∃ Q,(a+c).tdiv (b+d)=Q:=⟨_,rfl⟩
 have hQv:fsV true a b c d=Q:=by
  show (a+c) / (b+d)=Q
  rw [←hQ,Int.tdiv_eq_ediv_of_nonneg (by omega)]
 have q1:0≤(a+c) / (b+d):=Int.ediv_nonneg (by omega) (by omega)
 have q2:(a+c) / (b+d)≤a+c:=Int.ediv_le_self _ (by omega)
 have hQe:(a+c) / (b+d)=Q:=hQv
 rw [hQe] at q1 q2
 have hw1:IntKind.i64.wrap (a+c)=a+c:=by rw [IntKind.wrap_i64];omega
 have hw2:IntKind.i64.wrap (b+d)=b+d:=by rw [IntKind.wrap_i64];omega
 have hw3:IntKind.i64.wrap Q=Q:=by rw [IntKind.wrap_i64];omega
 have hn : ¬ b+d=0:=by omega
 rw [hQv] at hcl
 have hof:=of_in (n:=Q) (by omega) (by omega)
 have i1:0≤a:=ha.1
 have i2:a≤1000:=ha.2
 have i3:1≤b:=hb.1
 have i4:b≤1000:=hb.2
 have i5:0≤c:=hc.1
 have i6:c≤1000:=hc.2
 have i7:1≤d:=hd.1
 have i8:d≤1000:=hd.2
 clear hV hUd hUe hUp hUo hUb hUs hb1 hb3 hQv ha hb hc hd hQe 
 go_enter Tryz.func7,Tryz.ntmps7
 go_wp2_with fail
 refine hcl.mono ?_
 rintro e w2 ⟨rfl,hb2⟩
 obtain ⟨y,hy⟩:∃ y,w2.alloc (.cells #[.int .i64 1,.int .i64 Q] 48)=y:=⟨_,rfl⟩
 have hBy:Below w2.heap.size w2 y:=by rw [←hy];go_grown
 have hyA:y.heap[w2.heap.size]?=some (.cells #[.int .i64 1,.int .i64 Q] 48 (0,0)):=by rw [←hy];exact heap_alloc_new ..
 have hyO:y.heap[V.heap.size+1]?=some (.cells #[.slice (some ⟨V.heap.size,0,none⟩) 2 2] 42 (0,0)):=((onB hb2 hBy).block _ (Array.getElem?_eq_some_iff.1 HUo.out).1).trans HUo.out
 have y0:y.cell? ⟨V.heap.size+1,0,none⟩=some (.slice (some ⟨V.heap.size,0,none⟩) 2 2):=(Lib.cell_of_heap hyO 0).trans rfl
 obtain ⟨z,hz⟩:∃ z,y.alloc (.cells #[.int .i64 0,.int .i64 0] 3)=z:=⟨_,rfl⟩
 have hBz:Below y.heap.size y z:=by rw [←hz];go_grown
 have hzp:PlAt z (some ⟨y.heap.size,0,none⟩) 2 [0,0]:=by rw [←hz];exact pl_two (blk_new rfl)
 have hby:=pby_any (some ⟨V.heap.size,0,none⟩) 2 2 (fstD true) (fun i=>if i=0 then some ⟨w.heap.size,0,none⟩ else some ⟨w.heap.size+2,0,none⟩) (fun _=>3) (some ⟨y.heap.size,0,none⟩) 2 [0,0] z (HUd.out.later (onB hb2 (onB hBy hBz))) hzp
 rw [fs_be,fs_by,errV_zero,show ([0,0]:List Int).length=2 from rfl] at hby
 rw [show (if true=true then (0:Int) else 1)=0 from rfl] at hby
 have HBz:Hid (Below w.heap.size w z):=onB HUb.out (onB hb2 (onB hBy hBz))
 have HZa:Hid (z.heap[w2.heap.size]?=some (.cells #[.int .i64 1,.int .i64 Q] 48 (0,0))):=(hBz.block _ (Array.getElem?_eq_some_iff.1 hyA).1).trans hyA
 clear hcl hb2 hBy hyA hyO hBz hzp hU hVe hV0 o1 o2 m0 m1 m2 t0 t1 t2 u0
 go_wp2_with fail
 refine hby.mono ?_
 rintro e w3 ⟨rfl,hb3⟩
 have HB3:Hid (Below w.heap.size w w3):=onB HBz.out hb3
 have h3:w3.heap[w2.heap.size]?=some (.cells #[.int .i64 1,.int .i64 Q] 48 (0,0)):=(hb3.block _ (Array.getElem?_eq_some_iff.1 HZa.out).1).trans HZa.out
 have hA:At w2.heap.size 1 Q w3:=⟨(Array.getElem?_eq_some_iff.1 h3).1,(Lib.cell_of_heap h3 0).trans rfl,(Lib.cell_of_heap h3 1).trans rfl⟩
 clear hby hb3 hy hz y0 h3
 go_wp2_with fail
 go_region_held3 (fun w'=>Below w3.heap.size w3 w'∧w'.cell? ⟨w2.heap.size,0,none⟩=some (.int .i64 1)∧w'.cell? ⟨w2.heap.size,1,none⟩=some (.int .i64 Q))
  ((refine held_of hA ?_;go_grown;done))
  ((go_at_call 23;refine (hof _).mono ?_;rintro e w7 ⟨rfl,hb7⟩;have hN7:=Below.next (W0:=w3) (by go_grown) hb7;clear hb7))
 all_goals go_wp2_with fail
 all_goals go_ret
 all_goals exact ⟨rfl,onB HB3.out hN7⟩
set_option maxHeartbeats 8000000 in
theorem sfirst_no (a b c d:Int) (w:World) (ha:0≤a∧a≤1000) (hb:1≤b∧b≤1000) (hc:0≤c∧c≤1000) (hd:1≤d∧d≤1000):Calls Tryz.prog 7 #[.int .i64 a,.int .i64 b,.int .i64 c,.int .i64 d,.bool false] w fun e w'=>e=.returned (.bool true)∧Below w.heap.size w w':=by
 have hV:=fsW0_V w
 obtain ⟨V,hVe⟩:∃ V,fsW0 w=V:=⟨_,rfl⟩
 rw [hVe] at hV
 unfold fsW0 at hVe
 rw [show w.heap.size+2=w.heap.size+1+1 from rfl] at hVe
 have hb1:=hV.b1
 have hb3:=hV.b3
 rw [show fsS false=0 from rfl] at hb1
 rw [show w.heap.size+3=w.heap.size+1+1+1 from rfl,show w.heap.size+2=w.heap.size+1+1 from rfl] at hb3
 have m0:V.cell? ⟨w.heap.size+1,0,none⟩=some (.string ⟨#[109]⟩):=(Lib.cell_of_heap hb1 0).trans rfl
 have m1:V.cell? ⟨w.heap.size+1,1,none⟩=some (.int .i64 0):=(Lib.cell_of_heap hb1 1).trans rfl
 have m2:V.cell? ⟨w.heap.size+1,2,none⟩=some (.slice (some ⟨w.heap.size,0,none⟩) 3 3):=(Lib.cell_of_heap hb1 2).trans rfl
 have t0:V.cell? ⟨w.heap.size+1+1+1,0,none⟩=some (.string ⟨#[116]⟩):=(Lib.cell_of_heap hb3 0).trans rfl
 have t1:V.cell? ⟨w.heap.size+1+1+1,1,none⟩=some (.int .i64 5):=(Lib.cell_of_heap hb3 1).trans rfl
 have t2:V.cell? ⟨w.heap.size+1+1+1,2,none⟩=some (.slice (some ⟨w.heap.size+1+1,0,none⟩) 3 3):=(Lib.cell_of_heap hb3 2).trans rfl
 have hUd:=fsU_dims hV a b c d
 have hUe:=fsU_ents w V (fsS false) a b c d
 have hUp:=fsU_place w V (fsS false) a b c d
 have hUo:=fsU_out w V (fsS false) a b c d
 have hUb:=fsU_below w V (fsS false) a b c d
 have hUs:=fsU_size w V (fsS false) a b c d
 obtain ⟨U,hU⟩:∃ U,fsU w V (fsS false) a b c d=U:=⟨_,rfl⟩
 rw [hU] at hUd hUe hUp hUo hUb hUs
 unfold fsU at hU
 rw [show fsS false=0 from rfl] at hU
 have hcl:=pvalue_any (some ⟨V.heap.size,0,none⟩) 2 2 (fstD false) (fun i=>if i=0 then some ⟨w.heap.size,0,none⟩ else some ⟨w.heap.size+2,0,none⟩) (fun _=>3) (some ⟨V.heap.size+6,0,none⟩) 4 (fsX V a b c d) (some ⟨V.heap.size+7,0,none⟩) 2 [0,0] U hUd hUe hUp
 rw [fsX_l,fs_so false (fs_ens false ha hb hc hd),fs_val false ha hb hc hd,errV_zero,show (fsX V a b c d).length=4 from rfl,show ([0,0]:List Int).length=2 from rfl] at hcl
 rw [show w.heap.size+2=w.heap.size+1+1 from rfl,show V.heap.size+5=V.heap.size+1+1+1+1+1 from rfl,show V.heap.size+4=V.heap.size+1+1+1+1 from rfl,show V.heap.size+3=V.heap.size+1+1+1 from rfl,show V.heap.size+2=V.heap.size+1+1 from rfl] at hU
 rw [show V.heap.size+6=V.heap.size+1+1+1+1+1+1 from rfl,show V.heap.size+7=V.heap.size+1+1+1+1+1+1+1 from rfl] at hcl
 have u0:U.cell? ⟨V.heap.size+1,0,none⟩=some (.slice (some ⟨V.heap.size,0,none⟩) 2 2):=(Lib.cell_of_heap hUo 0).trans rfl
 have HUd:=hid_of hUd
 have HUo:=hid_of hUo
 have HUs:=hid_of hUs
 have HUb:Hid (Below w.heap.size w U):=onB hV.below hUb
 have HV:=hid_of hV
 obtain ⟨Q1,hQ1⟩:∃ Q,a.tdiv b=Q:=⟨_,rfl⟩
 obtain ⟨Q2,hQ2⟩:∃ Q,c.tdiv d=Q:=⟨_,rfl⟩
 have hQa:a / b=Q1:=by rw [←hQ1,Int.tdiv_eq_ediv_of_nonneg (by omega)]
 have hQc:c / d=Q2:=by rw [←hQ2,Int.tdiv_eq_ediv_of_nonneg (by omega)]
 have q1:0≤a / b:=Int.ediv_nonneg (by omega) (by omega)
 have q2:a / b≤a:=Int.ediv_le_self _ (by omega)
 have q3:0≤c / d:=Int.ediv_nonneg (by omega) (by omega)
 have q4:c / d≤c:=Int.ediv_le_self _ (by omega)
 rw [hQa] at q1 q2
 rw [hQc] at q3 q4
 have hw1:IntKind.i64.wrap Q1=Q1:=by rw [IntKind.wrap_i64];omega
 have hw2:IntKind.i64.wrap Q2=Q2:=by rw [IntKind.wrap_i64];omega
 have hn : ¬ b=0:=by omega
 have hn2 : ¬ d=0:=by omega
 obtain ⟨Q,hQ⟩:∃ Q,Q1+Q2=Q:=⟨_,rfl⟩
 have hQv:fsV false a b c d=Q:=by
  show a / b+c / d=Q
  rw [hQa,hQc,hQ]
 have hw3:IntKind.i64.wrap Q=Q:=by rw [IntKind.wrap_i64];omega
 rw [hQv] at hcl
 have hof:=of_in (n:=Q) (by omega) (by omega)
 have i1:0≤a:=ha.1
 have i2:a≤1000:=ha.2
 have i3:1≤b:=hb.1
 have i4:b≤1000:=hb.2
 have i5:0≤c:=hc.1
 have i6:c≤1000:=hc.2
 have i7:1≤d:=hd.1
 have i8:d≤1000:=hd.2
 clear hV hUd hUe hUp hUo hUb hUs hb1 hb3 hQv ha hb hc hd hQa hQc 
 go_enter Tryz.func7,Tryz.ntmps7
 go_wp2_with fail
 refine hcl.mono ?_
 rintro e w2 ⟨rfl,hb2⟩
 obtain ⟨y,hy⟩:∃ y,w2.alloc (.cells #[.int .i64 1,.int .i64 Q] 48)=y:=⟨_,rfl⟩
 have hBy:Below w2.heap.size w2 y:=by rw [←hy];go_grown
 have hyA:y.heap[w2.heap.size]?=some (.cells #[.int .i64 1,.int .i64 Q] 48 (0,0)):=by rw [←hy];exact heap_alloc_new ..
 have hyO:y.heap[V.heap.size+1]?=some (.cells #[.slice (some ⟨V.heap.size,0,none⟩) 2 2] 42 (0,0)):=((onB hb2 hBy).block _ (Array.getElem?_eq_some_iff.1 HUo.out).1).trans HUo.out
 have y0:y.cell? ⟨V.heap.size+1,0,none⟩=some (.slice (some ⟨V.heap.size,0,none⟩) 2 2):=(Lib.cell_of_heap hyO 0).trans rfl
 obtain ⟨z,hz⟩:∃ z,y.alloc (.cells #[.int .i64 0,.int .i64 0] 3)=z:=⟨_,rfl⟩
 have hBz:Below y.heap.size y z:=by rw [←hz];go_grown
 have hzp:PlAt z (some ⟨y.heap.size,0,none⟩) 2 [0,0]:=by rw [←hz];exact pl_two (blk_new rfl)
 have hby:=pby_any (some ⟨V.heap.size,0,none⟩) 2 2 (fstD false) (fun i=>if i=0 then some ⟨w.heap.size,0,none⟩ else some ⟨w.heap.size+2,0,none⟩) (fun _=>3) (some ⟨y.heap.size,0,none⟩) 2 [0,0] z (HUd.out.later (onB hb2 (onB hBy hBz))) hzp
 rw [fs_be,fs_by,errV_zero,show ([0,0]:List Int).length=2 from rfl] at hby
 rw [show (if false=true then (0:Int) else 1)=1 from rfl] at hby
 have HBz:Hid (Below w.heap.size w z):=onB HUb.out (onB hb2 (onB hBy hBz))
 have HZa:Hid (z.heap[w2.heap.size]?=some (.cells #[.int .i64 1,.int .i64 Q] 48 (0,0))):=(hBz.block _ (Array.getElem?_eq_some_iff.1 hyA).1).trans hyA
 clear hcl hb2 hBy hyA hyO hBz hzp hU hVe m0 m1 m2 t0 t1 t2 u0
 go_wp2_with fail
 refine hby.mono ?_
 rintro e w3 ⟨rfl,hb3⟩
 have HB3:Hid (Below w.heap.size w w3):=onB HBz.out hb3
 have h3:w3.heap[w2.heap.size]?=some (.cells #[.int .i64 1,.int .i64 Q] 48 (0,0)):=(hb3.block _ (Array.getElem?_eq_some_iff.1 HZa.out).1).trans HZa.out
 have hA:At w2.heap.size 1 Q w3:=⟨(Array.getElem?_eq_some_iff.1 h3).1,(Lib.cell_of_heap h3 0).trans rfl,(Lib.cell_of_heap h3 1).trans rfl⟩
 clear hby hb3 hy hz y0 h3
 go_wp2_with fail
 go_region_held3 (fun w'=>Below w3.heap.size w3 w'∧w'.cell? ⟨w2.heap.size,0,none⟩=some (.int .i64 1)∧w'.cell? ⟨w2.heap.size,1,none⟩=some (.int .i64 Q))
  ((refine held_of hA ?_;go_grown;done))
  ((go_at_call 23;refine (hof _).mono ?_;rintro e w7 ⟨rfl,hb7⟩;have hN7:=Below.next (W0:=w3) (by go_grown) hb7;clear hb7))
 all_goals go_wp2_with fail
 all_goals go_ret
 all_goals exact ⟨rfl,onB HB3.out hN7⟩
set_option maxHeartbeats 8000000 in
theorem sfirst_law (a b c d:Int) (t:Bool) (w:World):Calls Tryz.prog 7 #[.int .i64 a,.int .i64 b,.int .i64 c,.int .i64 d,.bool t] w fun e w'=>e=.returned (.bool true)∧Below w.heap.size w w':=by
 by_cases h0:a<0
 ·go_enter Tryz.func7,Tryz.ntmps7
  go_wp2_with fail
  go_ret
  exact ⟨rfl,by go_grown⟩
 by_cases h1:1000<a
 ·go_enter Tryz.func7,Tryz.ntmps7
  go_wp2_with fail
  go_ret
  exact ⟨rfl,by go_grown⟩
 by_cases h2:b<1
 ·go_enter Tryz.func7,Tryz.ntmps7
  go_wp2_with fail
  go_ret
  exact ⟨rfl,by go_grown⟩
 by_cases h3:1000<b
 ·go_enter Tryz.func7,Tryz.ntmps7
  go_wp2_with fail
  go_ret
  exact ⟨rfl,by go_grown⟩
 by_cases h4:c<0
 ·go_enter Tryz.func7,Tryz.ntmps7
  go_wp2_with fail
  go_ret
  exact ⟨rfl,by go_grown⟩
 by_cases h5:1000<c
 ·go_enter Tryz.func7,Tryz.ntmps7
  go_wp2_with fail
  go_ret
  exact ⟨rfl,by go_grown⟩
 by_cases h6:d<1
 ·go_enter Tryz.func7,Tryz.ntmps7
  go_wp2_with fail
  go_ret
  exact ⟨rfl,by go_grown⟩
 by_cases h7:1000<d
 ·go_enter Tryz.func7,Tryz.ntmps7
  go_wp2_with fail
  go_ret
  exact ⟨rfl,by go_grown⟩
 cases t with
 | true=>exact sfirst_yes a b c d w (by omega) (by omega) (by omega) (by omega)
 | false=>exact sfirst_no a b c d w (by omega) (by omega) (by omega) (by omega)
end Go.Proofs.YtaodedckffjpgafGreatDoor
