/-
  What the four closures that reckon answer (the sum, the difference, the product, the quotient of two numbers of cells): Of what comes of it.
-/
import Derived.Test.YtigkeokacagabagGreatDoorJZAO
namespace Go.Proofs.YtigkeokacagabagGreatDoor
open Go.ChangeShapes Go.WideShapes Go.ChangeAt Go.RowKit
def Makes (fn:Nat) (x y:Int) (r:Int×Int):Prop := ∀ (w:World),Calls Tryz.prog fn #[.int .i64 x,.int .i64 y] w fun e w'=>e=.returned (.agg #[.int .i64 r.1,.int .i64 r.2])∧Below w.heap.size w w'
theorem bsize {W w1:World} {n:Nat} (hb:Below n W w1):W.heap.size≤w1.heap.size:=hb.size
theorem plus_any (x y:Int) (hx1 : -1000000000000≤x) (hx2:x≤1000000000000) (hy1 : -1000000000000≤y) (hy2:y≤1000000000000):Makes 175 x y (ofP (x+y)):=by
 intro w
 go_enter Tryz.func175,Tryz.ntmps175
 go_wp2_with (go_at_call 11;refine (of_any _ _).mono ?_;rintro e w1 ⟨rfl,hb⟩;obtain ⟨hc,hf⟩:=bcell hb;have hz:=bsize hb;simp at hz)
 refine bodyPost_ret (v:=.agg #[.int .i64 (ofP (x+y)).1,.int .i64 (ofP (x+y)).2]) (by simp [results,Tryz.results175,go_sem,hc]) rfl ⟨rfl,?_⟩
 exact (((((Below.refl _ _).alloc (Nat.le_refl _) _).trans (hb.mono (by simp))).setCell (by simp) _).setCell (by simp) _)
theorem minus_any (x y:Int) (hx1 : -1000000000000≤x) (hx2:x≤1000000000000) (hy1 : -1000000000000≤y) (hy2:y≤1000000000000):Makes 174 x y (ofP (x-y)):=by
 intro w
 go_enter Tryz.func174,Tryz.ntmps174
 go_wp2_with (go_at_call 11;refine (of_any _ _).mono ?_;rintro e w1 ⟨rfl,hb⟩;obtain ⟨hc,hf⟩:=bcell hb;have hz:=bsize hb;simp at hz)
 refine bodyPost_ret (v:=.agg #[.int .i64 (ofP (x-y)).1,.int .i64 (ofP (x-y)).2]) (by simp [results,Tryz.results174,go_sem,hc]) rfl ⟨rfl,?_⟩
 exact (((((Below.refl _ _).alloc (Nat.le_refl _) _).trans (hb.mono (by simp))).setCell (by simp) _).setCell (by simp) _)
def ab (n:Int):Int:=if n<0 then -n else n
theorem ab_mul (x y:Int):ab (x*y)=ab x*ab y:=by
 unfold ab
 by_cases hx:x<0 <;> by_cases hy:y<0
 ·rw [if_neg (Int.not_lt.mpr (Int.le_of_lt (Int.mul_pos_of_neg_of_neg hx hy))),if_pos hx,if_pos hy,Int.neg_mul_neg]
 ·by_cases h0:y=0
  ·subst h0;simp
  ·rw [if_pos (Int.mul_neg_of_neg_of_pos hx (by omega)),if_pos hx,if_neg hy,Int.neg_mul]
 ·by_cases h0:x=0
  ·subst h0;simp
  ·rw [if_pos (Int.mul_neg_of_pos_of_neg (by omega) hy),if_neg hx,if_pos hy,Int.mul_neg]
 ·rw [if_neg (Int.not_lt.mpr (Int.mul_nonneg (by omega) (by omega))),if_neg hx,if_neg hy]
theorem ab_bd {n m:Int} (h:ab n≤m) : -m≤n∧n≤m:=by unfold ab at h;split at h <;> omega
theorem ab_out {n m:Int} (h:m<ab n):n < -m∨m<n:=by unfold ab at h;split at h <;> omega
theorem ab_in {n m:Int} (h1 : -m≤n) (h2:n≤m):0≤ab n∧ab n≤m:=by unfold ab;split <;> omega
theorem ab_pos {n:Int} (h : ¬ n=0):1≤ab n:=by unfold ab;split <;> omega
theorem size_any (n:Int) (w:World) (h1 : -1000000000000≤n) (h2:n≤1000000000000):Calls Tryz.prog 251 #[.int .i64 n] w fun e w'=>e=.returned (.int .i64 (ab n))∧w'=w:=by
 unfold ab
 by_cases h:n<0
 ·rw [if_pos h]
  go_enter Tryz.func251,Tryz.ntmps251
  go_wp2
  go_ret
  exact ⟨by first | rfl | (show Ending.returned (Value.int .i64 (max n (-n)))=_;congr 2;omega) | (congr 2;omega),rfl⟩
 ·rw [if_neg h]
  go_enter Tryz.func251,Tryz.ntmps251
  go_wp2
  go_ret
  exact ⟨by first | rfl | (show Ending.returned (Value.int .i64 (max n (-n)))=_;congr 2;omega) | (congr 2;omega),rfl⟩
def quoP (x y:Int):Int×Int:=if y=0 then (2,0) else ofP (x.tdiv y)
theorem tdiv_bd (x y:Int):ab (x.tdiv y)≤ab x:=by
 have h:=Int.natAbs_tdiv_le_natAbs x y
 unfold ab
 split <;> split <;> omega
theorem quo_wrap (x y:Int) (hy : ¬ y=0):Makes 231 x y (ofP (wrap64 (x.tdiv y))):=by
 intro w
 have hy0:(y == 0)=false:=by simp;omega
 go_enter Tryz.func231,Tryz.ntmps231
 go_wp2_with (go_at_call 11;refine (of_any _ _).mono ?_;rintro e w1 ⟨rfl,hb⟩;obtain ⟨hc,hf⟩:=bcell hb;have hz:=bsize hb;simp at hz)
 refine bodyPost_ret (v:=.agg #[.int .i64 (ofP (wrap64 (x.tdiv y))).1,.int .i64 (ofP (wrap64 (x.tdiv y))).2]) (by simp [results,Tryz.results231,go_sem,hc]) rfl ⟨rfl,?_⟩
 exact (((((Below.refl _ _).alloc (Nat.le_refl _) _).trans (hb.mono (by simp))).setCell (by simp) _).setCell (by simp) _)
theorem quotient_any (x y:Int) (hx1 : -1000000000000≤x) (hx2:x≤1000000000000):Makes 231 x y (quoP x y):=by
 unfold quoP
 by_cases hy:y=0
 ·subst hy
  rw [if_pos rfl]
  intro w
  go_enter Tryz.func231,Tryz.ntmps231
  go_wp2
  go_returns
  exact ⟨rfl,by go_grown⟩
 ·rw [if_neg hy]
  have hq:=quo_wrap x y hy
  have hb:=ab_bd (Int.le_trans (tdiv_bd x y) (ab_in hx1 hx2).2)
  have hw:wrap64 (x.tdiv y)=x.tdiv y:=by unfold wrap64;omega
  rw [hw] at hq
  exact hq
theorem product_any (x y:Int) (hx1 : -1000000000000≤x) (hx2:x≤1000000000000) (hy1 : -1000000000000≤y) (hy2:y≤1000000000000):Makes 230 x y (ofP (x*y)):=by
 intro w
 by_cases hy:y=0
 ·subst hy
  have hb0:ofP (x*0)=(1,0):=by rw [Int.mul_zero];exact ofP_in (by omega) (by omega)
  rw [hb0]
  have ho:=of_any 0
  rw [ofP_in (by omega) (by omega)] at ho
  go_enter Tryz.func230,Tryz.ntmps230
  go_wp2_with (go_at_call 11;refine (ho _).mono ?_;rintro e w1 ⟨rfl,hb⟩;obtain ⟨hc,hf⟩:=bcell hb;have hz:=bsize hb;simp at hz)
  refine bodyPost_ret (v:=.agg #[.int .i64 1,.int .i64 0]) (by simp [results,Tryz.results230,go_sem,hc]) rfl ⟨rfl,?_⟩
  exact (((((Below.refl _ _).alloc (Nat.le_refl _) _).trans (hb.mono (by simp))).setCell (by simp) _).setCell (by simp) _)
 ·have hy0:(y != 0)=true:=by simp;omega
  obtain ⟨ax0,ax1⟩:=ab_in hx1 hx2
  obtain ⟨_,ay1⟩:=ab_in hy1 hy2
  have ay0:=ab_pos hy
  have hsx:=size_any x
  have hsy:=size_any y
  by_cases hg:1000000000000 / ab y<ab x
  ·have hout:ofP (x*y)=(2,0):=by
    refine ofP_out (ab_out (m:=1000000000000) ?_)
    rw [ab_mul]
    exact (Int.ediv_lt_iff_lt_mul (by omega)).mp hg
   rw [hout]
   go_enter Tryz.func230,Tryz.ntmps230
   go_wp2_with fail
   refine (hsx _ hx1 hx2).mono ?_
   rintro e w1 ⟨rfl,rfl⟩
   go_wp2_with fail
   refine (hsy _ hy1 hy2).mono ?_
   rintro e w1 ⟨rfl,rfl⟩
   go_wp2
   go_returns
   exact ⟨rfl,by go_grown⟩
  ·have hin:ab (x*y)≤1000000000000:=by
    rw [ab_mul]
    exact Int.not_lt.mp (fun h=>hg ((Int.ediv_lt_iff_lt_mul (by omega)).mpr h))
   obtain ⟨hp1,hp2⟩:=ab_bd hin
   have ho:=of_any (x*y)
   clear hin
   go_enter Tryz.func230,Tryz.ntmps230
   go_wp2_with fail
   refine (hsx _ hx1 hx2).mono ?_
   rintro e w1 ⟨rfl,rfl⟩
   go_wp2_with fail
   refine (hsy _ hy1 hy2).mono ?_
   rintro e w1 ⟨rfl,rfl⟩
   go_wp2_with fail
   refine (ho _).mono ?_
   rintro e w1 ⟨rfl,hb⟩
   obtain ⟨hc,hf⟩:=bcell hb
   have hz:=bsize hb
   simp at hz
   go_wp2_with fail
   refine bodyPost_ret (v:=.agg #[.int .i64 (ofP (x*y)).1,.int .i64 (ofP (x*y)).2]) (by simp [results,Tryz.results230,go_sem,hc]) rfl ⟨rfl,?_⟩
   exact (((((Below.refl _ _).alloc (Nat.le_refl _) _).trans (hb.mono (by simp))).setCell (by simp) _).setCell (by simp) _)
theorem check_yes {k n:Int} (h:good k n=true) (w:World):Calls Tryz.prog 168 #[.agg #[.int .i64 k,.int .i64 n]] w fun e w'=>e=.returned .nilIface∧Below w.heap.size w w':=by
 have hc:=check_any k n w
 rw [if_pos h] at hc
 exact hc
def Held (s:Nat) (ka na kb nb:Int) (w:World):Prop:=s+4≤w.heap.size∧Two ka na kb nb (s+1+1+1) w
 ∧ w.cell? ⟨s,0,none⟩=some (.int .i64 ka)∧w.cell? ⟨s,1,none⟩=some (.int .i64 na)∧w.cell? ⟨s+1,0,none⟩=some (.int .i64 kb)∧w.cell? ⟨s+1,1,none⟩=some (.int .i64 nb)
 ∧ w.cell? ⟨s+1+1,0,none⟩=some (.int .i64 0)∧w.cell? ⟨s+1+1,1,none⟩=some (.int .i64 0)∧w.frozen? ⟨s+1+1,0,none⟩=false∧w.frozen? ⟨s+1+1,1,none⟩=false
theorem Held.later {s:Nat} {ka na kb nb:Int} {w w':World} (h:Held s ka na kb nb w) (hb:Below w.heap.size w w'):Held s ka na kb nb w':=by
 obtain ⟨hs,⟨t0,t1,t2,t3,t4⟩,h1,h2,h3,h4,h5,h6,h7,h8⟩:=h
 have hz:=hb.size
 refine ⟨by omega,⟨by omega,?_,?_,?_,?_⟩,?_,?_,?_,?_,?_,?_,?_,?_⟩
 ·rw [hb.cell (p:=⟨s+1+1+1,0,none⟩) (by show s+1+1+1<_;omega)];exact t1
 ·rw [hb.cell (p:=⟨s+1+1+1,1,none⟩) (by show s+1+1+1<_;omega)];exact t2
 ·rw [hb.cell (p:=⟨s+1+1+1,2,none⟩) (by show s+1+1+1<_;omega)];exact t3
 ·rw [hb.cell (p:=⟨s+1+1+1,3,none⟩) (by show s+1+1+1<_;omega)];exact t4
 ·rw [hb.cell (p:=⟨s,0,none⟩) (by show s<_;omega)];exact h1
 ·rw [hb.cell (p:=⟨s,1,none⟩) (by show s<_;omega)];exact h2
 ·rw [hb.cell (p:=⟨s+1,0,none⟩) (by show s+1<_;omega)];exact h3
 ·rw [hb.cell (p:=⟨s+1,1,none⟩) (by show s+1<_;omega)];exact h4
 ·rw [hb.cell (p:=⟨s+1+1,0,none⟩) (by show s+1+1<_;omega)];exact h5
 ·rw [hb.cell (p:=⟨s+1+1,1,none⟩) (by show s+1+1<_;omega)];exact h6
 ·rw [hb.frozen (p:=⟨s+1+1,0,none⟩) (by show s+1+1<_;omega)];exact h7
 ·rw [hb.frozen (p:=⟨s+1+1,1,none⟩) (by show s+1+1<_;omega)];exact h8
theorem Held.first (ka na kb nb:Int) (w:World):Held w.heap.size ka na kb nb ((((w.alloc (Obj.cells #[.int .i64 ka,.int .i64 na] 32)).alloc (Obj.cells #[.int .i64 kb,.int .i64 nb] 32)).alloc (Obj.cells #[.int .i64 0,.int .i64 0] 32)).alloc (Obj.cells #[.int .i64 ka,.int .i64 na,.int .i64 kb,.int .i64 nb] 32)):=by
 refine ⟨by simp,⟨by simp,?_,?_,?_,?_⟩,?_,?_,?_,?_,?_,?_,?_,?_⟩ <;> simp [go_sem]
theorem Held.alloc {s:Nat} {ka na kb nb:Int} {w:World} (h:Held s ka na kb nb w) (o:Obj):Held s ka na kb nb (w.alloc o):=h.later ((Below.refl _ _).alloc (Nat.le_refl _) _)
theorem join_fault (f1 f2:Value) (ka na kb nb:Int) (w:World) (ha:good ka na=true) (hb0:good kb nb=true) (hfa:((fun k:Int=>k == 2) ka || (fun k:Int=>k == 2) kb)=true) :
  Calls Tryz.prog 172 #[.agg #[.int .i64 ka,.int .i64 na],.agg #[.int .i64 kb,.int .i64 nb],f1,f2] w fun e w'=>e=.returned (.tuple #[.agg #[.int .i64 2,.int .i64 0],.nilIface])∧Below w.heap.size w w':=by
 have hca:=check_yes ha
 have hcb:=check_yes hb0
 clear hb0 ha
 have H0:=Held.first ka na kb nb w
 go_enter Tryz.func172,Tryz.ntmps172
 go_wp2_with fail
 refine wp_loop_rounds 3 ?_
 rw [rounds_succ]
 go_wp2_with fail
 refine (hca _).mono ?_
 rintro e w1 ⟨rfl,hb⟩
 have H1:=(H0.alloc _).later hb
 have hB:Below w.heap.size w w1:=Below.trans (by go_grown) (hb.mono (by simp;omega))
 clear H0 hb
 obtain ⟨hs,⟨t0,t1,t2,t3,t4⟩,h1,h2,h3,h4,h5,h6,h7,h8⟩:=id H1
 go_wp2_with fail
 rw [rounds_succ]
 go_wp2_with fail
 refine (hcb _).mono ?_
 rintro e w2 ⟨rfl,hb⟩
 have H2:=(H1.alloc _).later hb
 have hB2:Below w.heap.size w w2:=Below.trans (by go_grown) (hb.mono (by simp;omega))
 clear H1 hb hs t0 t1 t2 t3 t4 h1 h2 h3 h4 h5 h6 h7 h8 hB
 obtain ⟨hs,⟨t0,t1,t2,t3,t4⟩,h1,h2,h3,h4,h5,h6,h7,h8⟩:=id H2
 go_wp2_with fail
 rw [rounds_succ]
 go_wp2_with fail
 have hany:=contains_any 209 (fun k=>k == 2) fault1_in fault1_any ka na kb nb _ w2 t0 t1 t2 t3 t4
 rw [hfa] at hany
 refine hany.mono ?_
 rintro e w3 ⟨rfl,hb⟩
 have H3:=H2.later hb
 have hB3:Below w.heap.size w w3:=Below.trans hB2 (hb.mono (by omega))
 clear H2 hb hs t0 t1 t2 t3 t4 h1 h2 h3 h4 h5 h6 h7 h8 hB2 hany
 obtain ⟨hs,ht,h1,h2,h3,h4,h5,h6,h7,h8⟩:=id H3
 clear hfa
 go_wp2_with fail
 refine bodyPost_ret (v:=.tuple #[.agg #[.int .i64 2,.int .i64 0],.nilIface]) (by simp [results,Tryz.results172,go_sem,h5,h6]) rfl ⟨rfl,?_⟩
 go_grown
theorem join_blank (fb:Nat) (p:Int→Int→Bool) (he:Enters fb) (hp:Blank fb p) (f2:Value) (ka na kb nb:Int) (w:World) (ha:good ka na=true) (hb0:good kb nb=true) (hfa:((fun k:Int=>k == 2) ka || (fun k:Int=>k == 2) kb)=false) (hpp:p ka kb=true) :
  Calls Tryz.prog 172 #[.agg #[.int .i64 ka,.int .i64 na],.agg #[.int .i64 kb,.int .i64 nb],.func (.func fb) #[] #[],f2] w fun e w'=>e=.returned (.tuple #[.agg #[.int .i64 0,.int .i64 0],.nilIface])∧Below w.heap.size w w':=by
 have HP:Hid (Blank fb p):=hp
 clear hp
 unfold Enters at he
 have hca:=check_yes ha
 have hcb:=check_yes hb0
 clear hb0 ha
 have H0:=Held.first ka na kb nb w
 go_enter Tryz.func172,Tryz.ntmps172
 go_wp2_with fail
 refine wp_loop_rounds 3 ?_
 rw [rounds_succ]
 go_wp2_with fail
 refine (hca _).mono ?_
 rintro e w1 ⟨rfl,hb⟩
 have H1:=(H0.alloc _).later hb
 have hB:Below w.heap.size w w1:=Below.trans (by go_grown) (hb.mono (by simp;omega))
 clear H0 hb
 obtain ⟨hs,⟨t0,t1,t2,t3,t4⟩,h1,h2,h3,h4,h5,h6,h7,h8⟩:=id H1
 go_wp2_with fail
 rw [rounds_succ]
 go_wp2_with fail
 refine (hcb _).mono ?_
 rintro e w2 ⟨rfl,hb⟩
 have H2:=(H1.alloc _).later hb
 have hB2:Below w.heap.size w w2:=Below.trans (by go_grown) (hb.mono (by simp;omega))
 clear H1 hb hs t0 t1 t2 t3 t4 h1 h2 h3 h4 h5 h6 h7 h8 hB
 obtain ⟨hs,⟨t0,t1,t2,t3,t4⟩,h1,h2,h3,h4,h5,h6,h7,h8⟩:=id H2
 go_wp2_with fail
 rw [rounds_succ]
 go_wp2_with fail
 have hany:=contains_any 209 (fun k=>k == 2) fault1_in fault1_any ka na kb nb _ w2 t0 t1 t2 t3 t4
 rw [hfa] at hany
 refine hany.mono ?_
 rintro e w3 ⟨rfl,hb⟩
 have H3:=H2.later hb
 have hB3:Below w.heap.size w w3:=Below.trans hB2 (hb.mono (by omega))
 clear H2 hb hs t0 t1 t2 t3 t4 h1 h2 h3 h4 h5 h6 h7 h8 hB2 hany
 obtain ⟨hs,ht,h1,h2,h3,h4,h5,h6,h7,h8⟩:=id H3
 clear hfa
 go_wp2_with fail
 have hbl:=HP.out ka na kb nb _ w3 ht
 rw [hpp] at hbl
 refine hbl.mono ?_
 rintro e w4 ⟨rfl,hb⟩
 have H4:=H3.later hb
 have hB4:Below w.heap.size w w4:=Below.trans hB3 (hb.mono (by omega))
 clear H3 hb hs ht h1 h2 h3 h4 h5 h6 h7 h8 hB3 hbl
 obtain ⟨hs,ht,h1,h2,h3,h4,h5,h6,h7,h8⟩:=id H4
 go_wp2_with fail
 refine bodyPost_ret (v:=.tuple #[.agg #[.int .i64 0,.int .i64 0],.nilIface]) (by simp [results,Tryz.results172,go_sem,h5,h6]) rfl ⟨rfl,?_⟩
 go_grown
theorem join_made (fb fo:Nat) (p:Int→Int→Bool) (he:Enters fb) (hp:Blank fb p) (heo:Enters fo) (ka na kb nb:Int) (w:World) (ha:good ka na=true) (hb0:good kb nb=true) (r:Int×Int) (ho:Makes fo na nb r) (hfa:((fun k:Int=>k == 2) ka || (fun k:Int=>k == 2) kb)=false) (hpp:p ka kb=false) :
  Calls Tryz.prog 172 #[.agg #[.int .i64 ka,.int .i64 na],.agg #[.int .i64 kb,.int .i64 nb],.func (.func fb) #[] #[],.func (.func fo) #[] #[]] w fun e w'=>e=.returned (.tuple #[.agg #[.int .i64 r.1,.int .i64 r.2],.nilIface])∧Below w.heap.size w w':=by
 have HP:Hid (Blank fb p):=hp
 have HO:Hid (Makes fo na nb r):=ho
 clear hp ho
 unfold Enters at he heo
 have hca:=check_yes ha
 have hcb:=check_yes hb0
 clear hb0 ha
 have H0:=Held.first ka na kb nb w
 go_enter Tryz.func172,Tryz.ntmps172
 go_wp2_with fail
 refine wp_loop_rounds 3 ?_
 rw [rounds_succ]
 go_wp2_with fail
 refine (hca _).mono ?_
 rintro e w1 ⟨rfl,hb⟩
 have H1:=(H0.alloc _).later hb
 have hB:Below w.heap.size w w1:=Below.trans (by go_grown) (hb.mono (by simp;omega))
 clear H0 hb
 obtain ⟨hs,⟨t0,t1,t2,t3,t4⟩,h1,h2,h3,h4,h5,h6,h7,h8⟩:=id H1
 go_wp2_with fail
 rw [rounds_succ]
 go_wp2_with fail
 refine (hcb _).mono ?_
 rintro e w2 ⟨rfl,hb⟩
 have H2:=(H1.alloc _).later hb
 have hB2:Below w.heap.size w w2:=Below.trans (by go_grown) (hb.mono (by simp;omega))
 clear H1 hb hs t0 t1 t2 t3 t4 h1 h2 h3 h4 h5 h6 h7 h8 hB
 obtain ⟨hs,⟨t0,t1,t2,t3,t4⟩,h1,h2,h3,h4,h5,h6,h7,h8⟩:=id H2
 go_wp2_with fail
 rw [rounds_succ]
 go_wp2_with fail
 have hany:=contains_any 209 (fun k=>k == 2) fault1_in fault1_any ka na kb nb _ w2 t0 t1 t2 t3 t4
 rw [hfa] at hany
 refine hany.mono ?_
 rintro e w3 ⟨rfl,hb⟩
 have H3:=H2.later hb
 have hB3:Below w.heap.size w w3:=Below.trans hB2 (hb.mono (by omega))
 clear H2 hb hs t0 t1 t2 t3 t4 h1 h2 h3 h4 h5 h6 h7 h8 hB2 hany
 obtain ⟨hs,ht,h1,h2,h3,h4,h5,h6,h7,h8⟩:=id H3
 clear hfa
 go_wp2_with fail
 have hbl:=HP.out ka na kb nb _ w3 ht
 rw [hpp] at hbl
 refine hbl.mono ?_
 rintro e w4 ⟨rfl,hb⟩
 have H4:=H3.later hb
 have hB4:Below w.heap.size w w4:=Below.trans hB3 (hb.mono (by omega))
 clear H3 hb hs ht h1 h2 h3 h4 h5 h6 h7 h8 hB3 hbl
 obtain ⟨hs,ht,h1,h2,h3,h4,h5,h6,h7,h8⟩:=id H4
 go_wp2_with fail
 refine (HO.out _).mono ?_
 rintro e w5 ⟨rfl,hb⟩
 have H5:=H4.later hb
 have hB5:Below w.heap.size w w5:=Below.trans hB4 (hb.mono (by omega))
 clear H4 hb hs ht h1 h2 h3 h4 h5 h6 h7 h8 hB4
 obtain ⟨hs,ht,h1,h2,h3,h4,h5,h6,h7,h8⟩:=id H5
 go_wp2_with fail
 refine bodyPost_ret (v:=.tuple #[.agg #[.int .i64 r.1,.int .i64 r.2],.nilIface]) (by simp [results,Tryz.results172,go_sem,h5,h6]) rfl ⟨rfl,?_⟩
 go_grown
end Go.Proofs.YtigkeokacagabagGreatDoor
