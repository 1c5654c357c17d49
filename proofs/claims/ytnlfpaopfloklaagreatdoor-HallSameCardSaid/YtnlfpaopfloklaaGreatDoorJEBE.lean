/-
  Which member a number has in a dim, how that is told, and by which dim its place is told, as package solve tells it, in whatever memory.
-/
import Derived.Test.YtnlfpaopfloklaaGreatDoorJEBB
import Derived.Test.YtnlfpaopfloklaaGreatDoorJEBD
namespace Go.Proofs.YtnlfpaopfloklaaGreatDoor
open Go.ChangeShapes Go.WideShapes Go.ChangeAt Go.RowKit
set_option maxRecDepth 20000
def axV (d:Dm) (ap:Nat) (x:AL):Value:=.agg #[.int .i64 d.solve,.int .i64 ap,.slice x.A d.n x.c]
set_option maxHeartbeats 2000000 in
theorem member_any2 (d:Dm) (S:Nat) (al:AL) (x m:Nat) (w:World) (hS:1≤S) (hd:1≤d.n) (hd2:d.n≤12) (hx:x≤20736) (hm:x / S % d.n=m):Calls Tryz.prog 66 #[axV d S al,.int .i64 x] w fun e w'=>e=.returned (.int .i64 m)∧Below w.heap.size w w':=by
 unfold axV
 obtain ⟨Q,hQ⟩:∃ Q:Nat,x / S=Q:=⟨_,rfl⟩
 rw [hQ] at hm
 have hqi:(x:Int) / (S:Int)=(Q:Int):=by rw [←hQ];exact (Int.natCast_ediv _ _).symm
 have hqt:(x:Int).tdiv (S:Int)=(Q:Int):=by rw [←hQ];rfl
 have hri:(Q:Int).tmod (d.n:Int)=(m:Int):=by rw [←hm];rfl
 have hQ3:Q≤20736:=by rw [←hQ];exact Nat.le_trans (Nat.div_le_self _ _) (by omega)
 have hR3:m<d.n:=by rw [←hm];exact Nat.mod_lt _ (by omega)
 have hwQ:IntKind.i64.wrap (Q:Int)=(Q:Int):=IntWalk.i64_in _ (by omega)
 have hwR:IntKind.i64.wrap (m:Int)=(m:Int):=IntWalk.i64_in _ (by omega)
 have hS0:((S:Int) == 0)=false:=by simp;omega
 have hS0' : ¬ S=0:=by omega
 have hdn0:((d.n:Int) == 0)=false:=by simp;omega
 have hdn0' : ¬ d.n=0:=by omega
 have hdI:(d.n:Int)≤12:=by omega
 obtain ⟨y,hy⟩:∃ y,w.alloc (.cells #[.int .i64 d.solve,.int .i64 S,.slice al.A d.n al.c] 95)=y:=⟨_,rfl⟩
 have hyb:y.heap[w.heap.size]?=some (.cells #[.int .i64 d.solve,.int .i64 S,.slice al.A d.n al.c] 95 (0,0)):=by rw [←hy];exact heap_alloc_new ..
 have y3:y.cell? ⟨w.heap.size,1,none⟩=some (.int .i64 S):=by simp [World.cell?,hyb]
 have y4:y.cell? ⟨w.heap.size,2,none⟩=some (.slice al.A d.n al.c):=by simp [World.cell?,hyb]
 have HBy:Hid (Below w.heap.size w y):=by show Below ..;rw [←hy];go_grown
 clear hyb hQ hm
 go_enter Tryz.func66,Tryz.ntmps66
 go_wp2_with fail
 first | (go_quiet (fail);go_wp2_with fail) | skip
 go_ret
 exact ⟨rfl,by first | exact HBy.out | exact below_drewN HBy.out _⟩
theorem way_leaf {d:Dm} {i:Nat} {x:WL} (h:WayOf d i x):x.lf=leafB d.mem d.n i:=by
 by_cases hf:(d.mem i).formula.size=0
 ·exact (h.1 hf).1
 ·rw [(h.2 hf).1]
  unfold leafB
  rw [decide_eq_false hf]
  rfl
theorem LInv.one {w:World} {g n:Nat} {D:Nat→Dm} {X:Nat→AL} (h:LInv w g n n D X) {i:Nat} (hi:i<n):g<w.heap.size∧(w.cell? ⟨g,i*3,none⟩=some (.int .i64 (D i).solve)∧w.cell? ⟨g,i*3+1,none⟩=some (.int .i64 (stepD D n i))∧w.cell? ⟨g,i*3+2,none⟩=some (.slice (X i).A (D i).n (X i).c))∧AxOne w (D i) (X i):=by
 obtain ⟨cur,h1,-,h3⟩:=h
 obtain ⟨⟨c0,c1,c2⟩,hA⟩:=h3 i (by omega) hi
 exact ⟨(Array.getElem?_eq_some_iff.1 h1).1,⟨by simp [World.cell?,h1,c0],by simp [World.cell?,h1,c1],by simp [World.cell?,h1,c2]⟩,hA⟩
theorem AxOne.way {w:World} {d:Dm} {x:AL} (h:AxOne w d x) {m:Nat} (hm:m<d.n):∃ b,x.A=some ⟨b,0,none⟩∧d.n≤x.c∧b<w.heap.size∧(w.cell? ⟨b,m*5,none⟩=some (.bool (x.xs.getD m noW).lf)∧w.cell? ⟨b,m*5+1,none⟩=some (.slice (x.xs.getD m noW).An (x.xs.getD m noW).nd.length (x.xs.getD m noW).cn)∧w.cell? ⟨b,m*5+2,none⟩=some (.slice (x.xs.getD m noW).As (x.xs.getD m noW).nm.length (x.xs.getD m noW).cs)∧w.cell? ⟨b,m*5+3,none⟩=some (.slice (x.xs.getD m noW).Ai (x.xs.getD m noW).ne.length (x.xs.getD m noW).ci)∧w.cell? ⟨b,m*5+4,none⟩=some (.slice (x.xs.getD m noW).Ag (x.xs.getD m noW).sg.length (x.xs.getD m noW).cg))∧WayT w (x.xs.getD m noW):=by
 obtain ⟨hl,⟨h1,h2,h3⟩,-⟩:=h
 rcases h2 with h2 | ⟨b,cs,fr,h2,h4,h5⟩
 ·rw [h2] at hl;simp at hl;omega
 ·obtain ⟨a0,a1,a2,a3,a4⟩:=h5 m (by omega)
  refine ⟨b,h2,by omega,(Array.getElem?_eq_some_iff.1 h4).1,⟨by simp [World.cell?,h4,a0],by simp [World.cell?,h4,a1],by simp [World.cell?,h4,a2],by simp [World.cell?,h4,a3],by simp [World.cell?,h4,a4]⟩,h3 _ ?_⟩
  rw [List.getD_eq_getElem?_getD,List.getElem?_eq_getElem (by omega)]
  exact List.getElem_mem _
theorem digit_at {D:Nat→Dm} {n x k:Nat} (hk:k<n):((placeL D n x).getD k 0).toNat=x / stepD D n k % (D k).n:=by
 rw [placeL_at hk,Int.toNat_natCast,digit_step hk]
def wayX (w:World) (d:Dm) (S:Nat) (al:AL):World:=(w.alloc (.cells #[.int .i64 d.solve,.int .i64 S,.slice al.A d.n al.c] 95)).alloc (.cells #[.bool false,.slice none 0 0,.slice none 0 0,.slice none 0 0,.slice none 0 0] 110)
theorem wayX_size (w:World) (d:Dm) (S:Nat) (al:AL):(wayX w d S al).heap.size=w.heap.size+2:=by unfold wayX;simp
theorem wayX_below (w:World) (d:Dm) (S:Nat) (al:AL):Below w.heap.size w (wayX w d S al):=by unfold wayX;go_grown
theorem wayX_0 (w:World) (d:Dm) (S:Nat) (al:AL):(wayX w d S al).heap[w.heap.size]?=some (.cells #[.int .i64 d.solve,.int .i64 S,.slice al.A d.n al.c] 95 (0,0)):=by
 unfold wayX
 rw [heap_alloc_old _ _ (by simp)]
 exact heap_alloc_new ..
theorem wayX_1 (w:World) (d:Dm) (S:Nat) (al:AL):(wayX w d S al).heap[w.heap.size+1]?=some (.cells #[.bool false,.slice none 0 0,.slice none 0 0,.slice none 0 0,.slice none 0 0] 110 (0,0)):=by
 unfold wayX
 exact topF1 ..
set_option maxHeartbeats 8000000 in
theorem way_any (d:Dm) (S:Nat) (al:AL) (x m:Nat) (w:World) (hS:1≤S) (hd:1≤d.n) (hd2:d.n≤12) (hx:x≤20736) (hm:x / S % d.n=m) (hA:AxOne w d al):Calls Tryz.prog 41 #[axV d S al,.int .i64 x] w fun e w'=>e=.returned (wayV (al.xs.getD m noW))∧Below w.heap.size w w':=by
 have hmn:m<d.n:=by rw [←hm];exact Nat.mod_lt _ hd
 obtain ⟨b,hAb,hbc,hbl,⟨y0,y1,y2,y3,y4⟩,-⟩:=hA.way hmn
 obtain ⟨z,hz⟩:∃ z,al.xs.getD m noW=z:=⟨_,rfl⟩
 rw [hz] at y0 y1 y2 y3 y4 ⊢
 have HMb:Hid (∀ w',Calls Tryz.prog 66 #[.agg #[.int .i64 d.solve,.int .i64 S,.slice (some ⟨b,0,none⟩) d.n al.c],.int .i64 x] w' fun e w''=>e=.returned (.int .i64 m)∧Below w'.heap.size w' w''):=fun w'=>by
  have h:=member_any2 d S al x m w' hS hd hd2 hx hm
  unfold axV at h
  rw [hAb] at h
  exact h
 have hB0:=wayX_below w d S al
 have hSz:=wayX_size w d S al
 have hk0:=wayX_0 w d S al
 have hk1:=wayX_1 w d S al
 obtain ⟨W,hW⟩:∃ W,wayX w d S al=W:=⟨_,rfl⟩
 rw [hW] at hB0 hSz hk0 hk1
 unfold wayX at hW
 unfold axV
 rw [hAb] at hW hk0 ⊢
 have hblW:b<W.heap.size:=Nat.lt_of_lt_of_le hbl hB0.size
 have hl0:w.heap.size<W.heap.size:=by omega
 have hl1:w.heap.size+1<W.heap.size:=by omega
 have HK:Hid (∀ w',Below W.heap.size W w'→(w'.cell? ⟨w.heap.size,0,none⟩=some (.int .i64 d.solve)∧w'.cell? ⟨w.heap.size,1,none⟩=some (.int .i64 S)∧w'.cell? ⟨w.heap.size,2,none⟩=some (.slice (some ⟨b,0,none⟩) d.n al.c))∧(w'.cell? ⟨b,m*5,none⟩=some (.bool z.lf)∧w'.cell? ⟨b,m*5+1,none⟩=some (.slice z.An z.nd.length z.cn)∧w'.cell? ⟨b,m*5+2,none⟩=some (.slice z.As z.nm.length z.cs)∧w'.cell? ⟨b,m*5+3,none⟩=some (.slice z.Ai z.ne.length z.ci)∧w'.cell? ⟨b,m*5+4,none⟩=some (.slice z.Ag z.sg.length z.cg))∧w'.heap[w.heap.size+1]?=some (.cells #[.bool false,.slice none 0 0,.slice none 0 0,.slice none 0 0,.slice none 0 0] 110 (0,0))∧W.heap.size≤w'.heap.size):=fun w' hB=>by
  have k0:=(hB.block w.heap.size hl0).trans hk0
  have hw:=onB hB0 hB
  exact ⟨⟨by simp [World.cell?,k0],by simp [World.cell?,k0],by simp [World.cell?,k0]⟩,⟨(hw.cell (p:=⟨b,m*5,none⟩) hbl).trans y0,(hw.cell (p:=⟨b,m*5+1,none⟩) hbl).trans y1,(hw.cell (p:=⟨b,m*5+2,none⟩) hbl).trans y2,(hw.cell (p:=⟨b,m*5+3,none⟩) hbl).trans y3,(hw.cell (p:=⟨b,m*5+4,none⟩) hbl).trans y4⟩,(hB.block _ hl1).trans hk1,hB.size⟩
 obtain ⟨⟨a0,a1,a2⟩,-,hr0,-⟩:=HK.out W (Below.refl _ _)
 have HB0:Hid (Below w.heap.size w W):=hB0
 have hmI:(m:Int)<(d.n:Int):=by omega
 have hdI:(d.n:Int)≤12:=by omega
 clear hB0 hSz hk0 hk1 hA hz hAb hm hx hS y0 y1 y2 y3 y4 hr0
 go_enter Tryz.func41,Tryz.ntmps41
 go_wp2_with fail
 go_region_law ((go_simp;refine (HMb.out _).mono ?_;rintro e w3 ⟨rfl,hb3⟩;have hN3:=onB (W0:=W) (by go_grown) hb3;obtain ⟨⟨n0,n1,n2⟩,⟨u0,u1,u2,u3,u4⟩,hr,hz3⟩:=HK.out _ hN3;obtain ⟨hg,⟨r0,r1,r2,r3,r4⟩,hfr⟩:=way_block hr;have f0:=hfr 0;have f1:=hfr 1;have f2:=hfr 2;have f3:=hfr 3;have f4:=hfr 4;have HN3:Hid (Below W.heap.size W _):=hN3;clear hb3 hfr hr))
 all_goals clear hN3
 all_goals go_wp2_with fail
 all_goals refine bodyPost_ret (v:=wayV z) (by simp [results,Tryz.results41,go_sem,r0,r1,r2,r3,r4,wayV]) rfl ⟨rfl,?_⟩
 all_goals first
  | exact (((((onB HB0.out HN3.out).setCell (by simp) _).setCell (by simp) _).setCell (by simp) _).setCell (by simp) _).setCell (by simp) _
  | exact below_drewN ((((((onB HB0.out HN3.out).setCell (by simp) _).setCell (by simp) _).setCell (by simp) _).setCell (by simp) _).setCell (by simp) _) 1
theorem field_way0 (z:WL) (w:World):(Instr.field 110 (wayV z) 0).run Tryz.prog w=.ok (.bool z.lf) w:=by kernel_rfl
theorem field_way3 (z:WL) (w:World):(Instr.field 110 (wayV z) 3).run Tryz.prog w=.ok (.slice z.Ai z.ne.length z.ci) w:=by kernel_rfl
set_option maxHeartbeats 4000000 in
theorem by_any2 (q g n:Nat) (D:Nat→Dm) (X:Nat→AL) (x:Nat) (w:World) (hE:(allErr D n).2.2=0) (hx:x<prodN D n) (hA:PlanV w q g n D X):Calls Tryz.prog 39 #[.pointer (some ⟨q,0,none⟩),.int .i64 x] w fun e w'=>e=.returned (.int .i64 (byTo D (placeL D n x) n))∧Below w.heap.size w w':=by
 obtain ⟨hn1,hn4,hp3,hd⟩:=allErr_some hE
 have hn':(n:Int)≤4:=by omega
 have HD:Hid (∀ i,i<n→1≤(D i).n∧(D i).n≤12):=hd
 have HA:Hid (PlanV w q g n D X):=hA
 obtain ⟨hq,q0,q1⟩:=hA.cells
 obtain ⟨L,hL⟩:∃ L,placeL D n x=L:=⟨_,rfl⟩
 have HDg:Hid (∀ k,k<n→(L.getD k 0).toNat=x / stepD D n k % (D k).n):=fun k hk=>by rw [←hL];exact digit_at hk
 rw [hL]
 have hxs:x≤20736:=by omega
 clear hL hA hd
 go_enter Tryz.func39,Tryz.ntmps39
 go_wp2_with fail
 clear q0 q1
 go_loopg [5,13] n (fun gg s5 s13 wr => ∃ (k:Nat),k≤n∧gg=n-k∧s5=.int .i64 (byTo D L k)∧s13=.int .i64 k∧Below w.heap.size w wr)
 case atStart=>exact ⟨0,Nat.zero_le _,rfl,rfl,rfl,Below.refl _ _⟩
 case round =>
  obtain ⟨k,hk,rfl,rfl,rfl,hBw⟩:=hrel
  have HBw:Hid (Below w.heap.size w wr):=hBw
  by_cases hlt:k<n
  ·have hki:(k:Int)<(n:Int):=by omega
   have hAr:=HA.out.later hBw
   obtain ⟨hg,⟨c0,c1,c2⟩,hOne⟩:=hAr.2.one hlt
   obtain ⟨m,hm⟩:∃ m,x / stepD D n k % (D k).n=m:=⟨_,rfl⟩
   have hd1:=(HD.out k hlt).1
   have hmn:m<(D k).n:=by rw [←hm];exact Nat.mod_lt _ hd1
   have hlf:=way_leaf (hOne.2.2 m hmn)
   have hdg:(L.getD k 0).toNat=m:=by rw [HDg.out k hlt,hm]
   have HWy:Hid (∀ w',Below wr.heap.size wr w'→Calls Tryz.prog 41 #[.agg #[.int .i64 (D k).solve,.int .i64 (stepD D n k:Nat),.slice (X k).A (D k).n (X k).c],.int .i64 x] w' fun e w''=>e=.returned (wayV ((X k).xs.getD m noW))∧Below w'.heap.size w' w''):=fun w' hB=>way_any (D k) (stepD D n k) (X k) x m w' (stepD_pos (fun i hi=>(HD.out i hi).1) hlt) hd1 (HD.out k hlt).2 hxs hm (hOne.later hB)
   have HB:Hid (∀ h,leafB (D k).mem (D k).n m=h→(h=true→byTo D L (k+1)=byTo D L k)∧(h=false→(byTo D L k<0→byTo D L (k+1)=(k:Int))∧∀ j:Nat,byTo D L k=(j:Int)→byTo D L (k+1)=if (D j).solve<(D k).solve then (k:Int) else (j:Int))):=fun h e=>by
    refine ⟨fun e2=>?_,fun e2=>⟨fun e3=>?_,fun j hj=>?_⟩⟩
    ·refine by_miss fun ⟨h1,_⟩=>?_
     rw [hdg,e,e2] at h1
     cases h1
    ·exact by_hit (by rw [hdg,e,e2]) (Or.inl e3)
    ·by_cases hs:(D j).solve<(D k).solve
     ·rw [if_pos hs]
      exact by_hit (by rw [hdg,e,e2]) (Or.inr (by rw [hj,Int.toNat_natCast];exact hs))
     ·rw [if_neg hs,←hj]
      refine by_miss fun ⟨_,h2⟩=>?_
      rw [hj,Int.toNat_natCast] at h2
      omega
   obtain ⟨lf,hlf2⟩:∃ lf,leafB (D k).mem (D k).n m=lf:=⟨_,rfl⟩
   have HB2:=hid_of (HB.out lf hlf2)
   have hfl:∀ w',(Instr.field 110 (wayV ((X k).xs.getD m noW)) 0).run Tryz.prog w'=.ok (.bool lf) w':=fun w'=>by rw [field_way0,hlf,hlf2]
   have HSv:Hid (∀ w',Below wr.heap.size wr w'→w'.cell? ⟨q,0,none⟩=some (.slice (some ⟨g,0,none⟩) n n)∧q<w'.heap.size∧g<w'.heap.size∧∀ j,j<n→w'.cell? ⟨g,j*3,none⟩=some (.int .i64 (D j).solve)):=fun w' hB=>⟨(hAr.later hB).cells.2.1,(hAr.later hB).cells.1,Nat.lt_of_lt_of_le hg hB.size,fun j hj=>((hAr.later hB).2.one hj).2.1.1⟩
   have HBi:=hid_of (by_in D L k)
   obtain ⟨v,hv⟩:∃ v,wr.alloc (.cells #[.int .i64 (D k).solve,.int .i64 (stepD D n k:Nat),.slice (X k).A (D k).n (X k).c] 95)=v:=⟨_,rfl⟩
   have hvb:v.heap[wr.heap.size]?=some (.cells #[.int .i64 (D k).solve,.int .i64 (stepD D n k:Nat),.slice (X k).A (D k).n (X k).c] 95 (0,0)):=by rw [←hv];exact heap_alloc_new ..
   have hBv:Below wr.heap.size wr v:=by rw [←hv];go_grown
   have HBv:Hid (Below wr.heap.size wr v):=hBv
   have v0:v.cell? ⟨wr.heap.size,0,none⟩=some (.int .i64 (D k).solve):=by simp [World.cell?,hvb]
   have v1:v.cell? ⟨wr.heap.size,1,none⟩=some (.int .i64 (stepD D n k:Nat)):=by simp [World.cell?,hvb]
   have v2:v.cell? ⟨wr.heap.size,2,none⟩=some (.slice (X k).A (D k).n (X k).c):=by simp [World.cell?,hvb]
   have hvs:wr.heap.size<v.heap.size:=(Array.getElem?_eq_some_iff.1 hvb).1
   have hwy:=HWy.out v hBv
   generalize wayV ((X k).xs.getD m noW)=wv at hwy hfl
   clear hAr hOne hm hmn hlf hdg hlf2 hvb hBv hBw HWy HB
   go_wp2_with fail
   refine hwy.mono ?_
   rintro e w3 ⟨rfl,hb3⟩
   have HB3:Hid (Below w.heap.size w w3):=onB HBw.out (onB HBv.out hb3)
   have hBr3:=onB HBv.out hb3
   obtain ⟨p0,hq3,hg3,hcj⟩:=HSv.out w3 hBr3
   have t1:w3.cell? ⟨wr.heap.size,0,none⟩=some (.int .i64 (D k).solve):=(hb3.cell (p:=⟨wr.heap.size,0,none⟩) hvs).trans v0
   have ht3:wr.heap.size<w3.heap.size:=Nat.lt_of_lt_of_le hvs hb3.size
   clear hwy v0 v1 v2 hv c0 c1 c2
   cases lf
   ·rcases HBi.out with hneg | ⟨j,hj,hjk⟩
    ·have HNx:Hid (byTo D L (k+1)=(k:Int)):=(HB2.out.2 rfl).1 (by omega)
     rw [hneg]
     clear hneg hb3 hBr3 hcj
     go_wp2_with fail
     go_quiet (fail)
     go_wp2_with fail
     go_roundg (n-(k+1))
     case measure=>omega
     case rel=>exact ⟨k+1,by omega,rfl,by rw [HNx.out],by go_num,below_drewN HB3.out _⟩
    ·have HNx:Hid (byTo D L (k+1)=if (D j).solve<(D k).solve then (k:Int) else (j:Int)):=(HB2.out.2 rfl).2 j hj
     have cj3:=hcj j (by omega)
     have hjn:(j:Int)<(n:Int):=by omega
     have hj0:((j:Int) == -1)=false:=by simp
     rw [hj]
     clear hj hb3 hBr3 hcj
     by_cases hs:(D j).solve<(D k).solve
     ·rw [if_pos hs] at HNx
      have hsb:decide ((D j).solve<(D k).solve)=true:=decide_eq_true hs
      go_wp2_with fail
      go_quiet (fail)
      go_wp2_with fail
      go_roundg (n-(k+1))
      case measure=>omega
      case rel=>exact ⟨k+1,by omega,rfl,by rw [HNx.out],by go_num,below_drewN HB3.out _⟩
     ·rw [if_neg hs] at HNx
      have hsb:decide ((D j).solve<(D k).solve)=false:=decide_eq_false hs
      go_wp2_with fail
      go_quiet (fail)
      go_wp2_with fail
      go_roundg (n-(k+1))
      case measure=>omega
      case rel=>exact ⟨k+1,by omega,rfl,by rw [HNx.out],by go_num,below_drewN HB3.out _⟩
   ·have HNx:Hid (byTo D L (k+1)=byTo D L k):=HB2.out.1 rfl
    generalize byTo D L k=bk at HNx
    clear hb3 hBr3 hcj
    go_wp2_with fail
    go_roundg (n-(k+1))
    case measure=>omega
    case rel=>exact ⟨k+1,by omega,rfl,by rw [HNx.out],by go_num,HB3.out⟩
  ·have hke:k=n:=by omega
   subst hke
   clear hBw
   go_wp2_with fail
   go_ret
   exact ⟨rfl,HBw.out⟩
end Go.Proofs.YtnlfpaopfloklaaGreatDoor
