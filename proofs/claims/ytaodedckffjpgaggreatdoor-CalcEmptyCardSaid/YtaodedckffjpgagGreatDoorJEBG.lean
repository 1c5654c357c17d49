/-
  By which dim a place is told, as the document tells it, in whatever memory.
-/
import Derived.Test.YtaodedckffjpgagGreatDoorJEBA
import Derived.Test.YtaodedckffjpgagGreatDoorJEBF
namespace Go.Proofs.YtaodedckffjpgagGreatDoor
open Go.ChangeShapes Go.WideShapes Go.ChangeAt Go.RowKit
set_option maxRecDepth 20000
theorem by_hit {D:Nat→Dm} {p:List Int} {k:Nat} (h1:leafB (D k).mem (D k).n (p.getD k 0).toNat=false) (h2:byTo D p k<0∨(D (byTo D p k).toNat).solve<(D k).solve):byTo D p (k+1)=(k:Int):=by rw [byTo,if_pos ⟨h1,h2⟩]
theorem by_miss {D:Nat→Dm} {p:List Int} {k:Nat} (h : ¬ (leafB (D k).mem (D k).n (p.getD k 0).toNat=false∧(byTo D p k<0∨(D (byTo D p k).toNat).solve<(D k).solve))):byTo D p (k+1)=byTo D p k:=by rw [byTo,if_neg h]
noncomputable def cuErr (D:Nat→Dm) (n:Nat) (l:List En):Int:=if (ruErr D n).2.2≠0 then (ruErr D n).2.2 else entsErr D n l
def ToldP (D:Nat→Dm) (n:Nat) (p:List Int) (T:List Int):Prop:=T.Pairwise (· < ·)∧T.length≤12∧∀ z,z∈T↔∃ b:Nat,byTo D p n=(b:Int)∧∃ x∈mNd (D b) (p.getD b 0).toNat,z=numI D (p.set b x) n
end Go.Proofs.YtaodedckffjpgagGreatDoor
namespace Go.Proofs.YtaodedckffjpgagGreatDoor
section
variable {D:Nat→Dm} {n:Nat}
theorem told_less (hR:AllR D n) (hE:(allErr D n).2.2=0) {i:Nat} {T:List Int} (hT:ToldP D n (placeL D n i) T) {z:Int} (hz:z∈T):∃ j:Nat,z=(j:Int)∧j<prodN D n∧msrTo D (placeL D n j) n<msrTo D (placeL D n i) n:=by
 obtain ⟨b,hb,x,hx,rfl⟩:=(hT.2.2 z).1 hz
 have hI:InO D n (placeL D n i):=placeL_in hE
 have hbn:b<n:=by
  rcases by_in D (placeL D n i) n with h | ⟨b',h1,h2⟩
  ·omega
  ·omega
 have hxi:=mNd_in hx
 have hI2:=inO_set hI hbn hxi.1 hxi.2
 have hp0:=hI.lo b hbn
 have hp1:=hI.hi b hbn
 have hrk:=rk_less (hR b hbn) (i:=((placeL D n i).getD b 0).toNat) (by omega) hx
 rw [Int.toNat_of_nonneg hp0] at hrk
 have hms:=(msr_less (by rw [hI.len];exact hbn) hrk n).2 hbn
 obtain ⟨j,hj⟩:∃ j:Nat,numI D ((placeL D n i).set b x) n=(j:Int):=⟨(numI D ((placeL D n i).set b x) n).toNat,by have:=(numI_bound hI2 (Nat.le_refl n)).1;omega⟩
 refine ⟨j,hj,by have:=(numI_bound hI2 (Nat.le_refl n)).2.1;omega,?_⟩
 have hpn:=place_num hI2
 rw [hj,Int.toNat_natCast] at hpn
 rw [hpn]
 exact hms
end
end Go.Proofs.YtaodedckffjpgagGreatDoor
namespace Go.Proofs.YtaodedckffjpgagGreatDoor
open Go.ChangeShapes Go.WideShapes Go.ChangeAt Go.RowKit
section
variable {D:Nat→Dm} {n:Nat}
theorem told_inn (hR:AllR D n) (hE:(allErr D n).2.2=0) {N:List (List Int)} (hl:N.length=prodN D n) (hT:∀ i,i<prodN D n→ToldP D n (placeL D n i) (N.getD i [])):Inn N:=fun i hi x hx=>by
 obtain ⟨j,h1,h2,-⟩:=told_less hR hE (hT i (by omega)) hx
 omega
theorem told_acyc (hR:AllR D n) (hE:(allErr D n).2.2=0) {N:List (List Int)} (hl:N.length=prodN D n) (hT:∀ i,i<prodN D n→ToldP D n (placeL D n i) (N.getD i [])) (i:Nat) (hi:i<N.length):cycB N i=false:=by
 rw [cyc_not]
 intro hr
 have key:∀ {a b:Int},Rch N a b→∀ x:Nat,a=(x:Int)→x<prodN D n→∃ y:Nat,b=(y:Int)∧y<prodN D n∧msrTo D (placeL D n y) n<msrTo D (placeL D n x) n:=by
  intro a b hab
  induction hab with
  | one hx =>
   intro x hax hxn
   subst hax
   unfold rowN at hx
   rw [Int.toNat_natCast] at hx
   exact told_less hR hE (hT x hxn) hx
  | more hx _ ih =>
   intro x hax hxn
   subst hax
   unfold rowN at hx
   rw [Int.toNat_natCast] at hx
   obtain ⟨y,h1,h2,h3⟩:=told_less hR hE (hT x hxn) hx
   obtain ⟨z,h4,h5,h6⟩:=ih y h1 h2
   exact ⟨z,h4,h5,by omega⟩
 obtain ⟨y,h1,-,h3⟩:=key hr i rfl (by omega)
 have:y=i:=by omega
 subst this
 omega
end
section
variable {D:Nat→Dm} {n:Nat}
def StpN (D:Nat→Dm) (n i j:Nat):Prop := ∃ b:Nat,byTo D (placeL D n i) n=(b:Int)∧∃ x∈mNd (D b) ((placeL D n i).getD b 0).toNat,(j:Int)=numI D ((placeL D n i).set b x) n
theorem stp_iff {i j:Nat} {T:List Int} (hT:ToldP D n (placeL D n i) T):StpN D n i j↔(j:Int)∈T:=(hT.2.2 _).symm
end
section
variable {D:Nat→Dm} {n:Nat}
noncomputable def stpB (D:Nat→Dm) (n i j:Nat):Bool := @decide (StpN D n i j) (Classical.propDecidable _)
theorem stpB_iff {i j:Nat}:stpB D n i j=true↔StpN D n i j:=by unfold stpB;exact @decide_eq_true_iff _ (Classical.propDecidable _)
noncomputable def telL (D:Nat→Dm) (n i:Nat):List Int:=selTo (stpB D n i) (prodN D n)
theorem told_eq (hR:AllR D n) (hE:(allErr D n).2.2=0) {i:Nat} {T:List Int} (hT:ToldP D n (placeL D n i) T):T=telL D n i :=
 rise_eq _ _ hT.1 (sel_rise _ _) fun x=>⟨fun hx=>by
  obtain ⟨j,rfl,hj,-⟩:=told_less hR hE hT hx
  exact sel_has hj (stpB_iff.2 ((stp_iff hT).2 hx)),fun hx=>by
  obtain ⟨m,rfl,-,hp⟩:=selTo_mem _ hx
  exact (stp_iff hT).1 (stpB_iff.1 hp)⟩
noncomputable def rowsL (D:Nat→Dm) (n:Nat):List (List Int):=(List.range (prodN D n)).map (telL D n)
theorem rows_len:(rowsL D n).length=prodN D n:=by simp [rowsL]
theorem rows_at {i:Nat} (hi:i<prodN D n):(rowsL D n).getD i []=telL D n i:=by
 unfold rowsL
 rw [List.getD_eq_getElem?_getD,List.getElem?_map,List.getElem?_range hi]
 rfl
noncomputable def caL (D:Nat→Dm) (n:Nat) (l:List En):List (Int×Int):=if cuErr D n l=0 then (List.range (prodN D n)).map (fun j=>solV D n (getE l) (placeL D n j)) else []
theorem caL_bad {l:List En} (h:cuErr D n l≠0):caL D n l=[]:=by unfold caL;rw [if_neg h]
theorem caL_len {l:List En} (h:cuErr D n l=0):(caL D n l).length=prodN D n:=by unfold caL;rw [if_pos h];simp
theorem caL_at {l:List En} (h:cuErr D n l=0) {j:Nat} (hj:j<prodN D n):(caL D n l).getD j noC=solV D n (getE l) (placeL D n j):=by
 unfold caL
 rw [if_pos h,List.getD_eq_getElem?_getD,List.getElem?_map,List.getElem?_range hj]
 rfl
theorem ca_eq {l:List En} (h:cuErr D n l=0) {L:List (Int×Int)} (hl:L.length=prodN D n) (hv:∀ j,j<prodN D n→L.getD j noC=solV D n (getE l) (placeL D n j)):L=caL D n l:=by
 refine List.ext_getElem (by rw [hl,caL_len h]) fun i h1 h2=>?_
 have h3:i<prodN D n:=by omega
 have e:=(hv i h3).trans (caL_at h h3).symm
 rw [List.getD_eq_getElem?_getD,List.getElem?_eq_getElem h1,List.getD_eq_getElem?_getD,List.getElem?_eq_getElem h2] at e
 exact e
def cfK (L:List (Int×Int)) (P:Nat→List Int):Nat→List (List Int)
 | 0=>[]
 | k+1=>cfK L P k ++ (if (L.getD k noC).1=2 then [P k] else [])
noncomputable def cfL (D:Nat→Dm) (n:Nat) (l:List En):List (List Int):=cfK (caL D n l) (placeL D n) (caL D n l).length
theorem cu_ru {l:List En} (h:cuErr D n l=0):(ruErr D n).2.2=0∧entsErr D n l=0:=by
 have h4:(ruErr D n).2.2=0:=by
  by_cases h2:(ruErr D n).2.2=0
  ·exact h2
  ·unfold cuErr at h;rw [if_pos h2] at h;exact absurd h h2
 exact ⟨h4,by unfold cuErr at h;rw [h4,if_neg (by simp)] at h;exact h⟩
end
def At (s:Nat) (k n:Int) (w:World):Prop:=s<w.heap.size∧w.cell? ⟨s,0,none⟩=some (.int .i64 k)∧w.cell? ⟨s,1,none⟩=some (.int .i64 n)
end Go.Proofs.YtaodedckffjpgagGreatDoor
namespace Go.Proofs.YtaodedckffjpgagGreatDoor
open Go.ChangeShapes Go.WideShapes Go.ChangeAt Go.RowKit
set_option maxRecDepth 20000
def AskN (fn q r:Nat) (w:World) (N:List ByteArray) (C:List (Int×Int)):Prop := ∀ (x:ByteArray) (w':World),Below w.heap.size w w'→Calls Tryz.prog fn #[.string x,.pointer (some ⟨q,0,none⟩),.pointer (some ⟨r,0,none⟩)] w' fun e w''=>e=.returned (.tuple #[.agg #[.int .i64 (isC N C x).1,.int .i64 (isC N C x).2],errV (isE N x)])∧Below w'.heap.size w' w''
def oneC (N:List ByteArray) (C T:List (Int×Int)) (x:Nd):Int×Int:=if x.op=1 then ofP x.n else if x.op=2 then isC N C x.name else opP x.op (T.getD x.left.toNat noC) (T.getD x.right.toNat noC)
def oneE (N:List ByteArray) (x:Nd):Int:=if x.op=2 then isE N x.name else 0
theorem one_numK {N:List ByteArray} {C T:List (Int×Int)} {x:Nd} (h:x.op=1):oneC N C T x=ofP x.n∧oneE N x=0:=by unfold oneC oneE;rw [if_pos h,if_neg (by omega)];exact ⟨rfl,rfl⟩
theorem one_ref {N:List ByteArray} {C T:List (Int×Int)} {x:Nd} (h:x.op=2):oneC N C T x=isC N C x.name∧oneE N x=isE N x.name:=by unfold oneC oneE;rw [if_neg (by omega),if_pos h,if_pos h];exact ⟨rfl,rfl⟩
theorem one_bin {N:List ByteArray} {C T:List (Int×Int)} {x:Nd} (h:2<x.op):oneC N C T x=opP x.op (T.getD x.left.toNat noC) (T.getD x.right.toNat noC)∧oneE N x=0:=by unfold oneC oneE;rw [if_neg (by omega),if_neg (by omega),if_neg (by omega)];exact ⟨rfl,rfl⟩
theorem op_yes {o:Int} {a b:Int×Int} (ha:okC a) (hb:okC b):(o=3→OpTo 68 a.1 a.2 b.1 b.2 (opP o a b).1 (opP o a b).2 .nilIface)∧(o=4→OpTo 67 a.1 a.2 b.1 b.2 (opP o a b).1 (opP o a b).2 .nilIface)∧(o=5→OpTo 133 a.1 a.2 b.1 b.2 (opP o a b).1 (opP o a b).2 .nilIface)∧(o=6→OpTo 134 a.1 a.2 b.1 b.2 (opP o a b).1 (opP o a b).2 .nilIface):=by
 refine ⟨?_,?_,?_,?_⟩ <;> rintro rfl
 ·exact add_yes _ _ _ _ ha hb
 ·exact sub_yes _ _ _ _ ha hb
 ·exact mul_yes _ _ _ _ ha hb
 ·exact div_yes _ _ _ _ ha hb
theorem cel_ok {T:List (Int×Int)} (hT:∀ c∈T,okC c) (i:Nat):okC (T.getD i noC):=by
 rw [List.getD_eq_getElem?_getD]
 cases h:T[i]? with
 | none=>exact okC_no
 | some c=>exact hT c (List.mem_of_getElem? h)
set_option maxHeartbeats 4000000 in
theorem rkone_any (fn q r:Nat) (hent:∀ (args:Array Value) (w:World),(callFunc fn args).run Tryz.prog w=.ok (.enter fn args) w) (N:List ByteArray) (C T:List (Int×Int)) (At:Option Addr) (ct:Nat) (x:Nd) (w:World) (hx:ndErr x T.length=0) (hn:T.length≤30) (hT:CelV w At ct T) (hok:∀ c∈T,okC c) (hask:AskN fn q r w N C) :
  Calls Tryz.prog 92 #[ndV x,.slice At T.length ct,.func (.func fn) #[] #[.pointer (some ⟨q,0,none⟩),.pointer (some ⟨r,0,none⟩)]] w fun e w'=>e=.returned (.tuple #[.agg #[.int .i64 (oneC N C T x).1,.int .i64 (oneC N C T x).2],errV (oneE N x)])∧Below w.heap.size w w':=by
 rw [ndV_def]
 have ho:1≤x.op∧x.op≤6:=by
  unfold ndErr at hx
  split at hx
  ·cases hx
  ·omega
 by_cases h1:x.op=1
 ·obtain ⟨e1,e2⟩:=one_numK (N:=N) (C:=C) (T:=T) h1
  rw [e1,e2,errV_zero,h1]
  have hof:=of_any x.n
  clear hx hT hask e1 e2 h1
  go_enter Tryz.func92,Tryz.ntmps92
  go_wp2_with fail
  refine (hof _).mono ?_
  rintro e w1 ⟨rfl,hb⟩
  obtain ⟨hbc,hbf⟩:=bcell hb
  have hz:=bsize hb
  simp at hz
  have hb1:Below w.heap.size w w1:=onB (by go_grown) hb
  have HB1:Hid (Below w.heap.size w w1):=hb1
  clear hb hb1 hof
  go_wp2_with fail
  refine bodyPost_ret (v:=.tuple #[.agg #[.int .i64 (ofP x.n).1,.int .i64 (ofP x.n).2],.nilIface]) (by simp [results,Tryz.results92,go_sem,hbc]) rfl ⟨rfl,?_⟩
  exact ((HB1.out.setCell (by simp) _).setCell (by simp) _)
 by_cases h2:x.op=2
 ·obtain ⟨e1,e2⟩:=one_ref (N:=N) (C:=C) (T:=T) h2
  rw [e1,e2,h2]
  have has:=hask x.name
  obtain ⟨c,hc⟩:∃ c,isC N C x.name=c:=⟨_,rfl⟩
  obtain ⟨er,her⟩:∃ er,errV (isE N x.name)=er:=⟨_,rfl⟩
  rw [hc,her] at has
  rw [hc,her]
  clear hx hT hask e1 e2 h2 hc her
  go_enter Tryz.func92,Tryz.ntmps92
  go_wp2_with fail
  refine (has _ (by go_grown)).mono ?_
  rintro e w1 ⟨rfl,hb⟩
  obtain ⟨hbc,hbf⟩:=bcell hb
  have hz:=bsize hb
  simp at hz
  have hb1:Below w.heap.size w w1:=onB (by go_grown) hb
  have HB1:Hid (Below w.heap.size w w1):=hb1
  clear hb hb1 has
  go_wp2_with fail
  refine bodyPost_ret (v:=.tuple #[.agg #[.int .i64 c.1,.int .i64 c.2],er]) (by simp [results,Tryz.results92,go_sem,hbc]) rfl ⟨rfl,?_⟩
  exact ((HB1.out.setCell (by simp) _).setCell (by simp) _)
 obtain ⟨e1,e2⟩:=one_bin (N:=N) (C:=C) (T:=T) (x:=x) (by omega)
 obtain ⟨a1,a2,a3,a4⟩:=nd_sides hx (by omega)
 obtain ⟨a,ha⟩:∃ a:Nat,x.left=a:=⟨x.left.toNat,by omega⟩
 obtain ⟨c,hc⟩:∃ c:Nat,x.right=c:=⟨x.right.toNat,by omega⟩
 rw [e1,e2,errV_zero,ha,hc,Int.toNat_natCast,Int.toNat_natCast]
 obtain ⟨-,-,hT3⟩:=hT
 obtain ⟨b,o,rfl,hTA⟩:=hT3.resolve_left (fun e=>by rw [e] at a2;simp at a2;omega)
 obtain ⟨p3,p4,p5,p6⟩:=op_yes (o:=x.op) (cel_ok hok a) (cel_ok hok c)
 obtain ⟨y0,y1⟩:=hTA.2 a (by omega)
 obtain ⟨z0,z1⟩:=hTA.2 c (by omega)
 have hbl:=hTA.1
 obtain ⟨u,hu⟩:∃ u,T.getD a noC=u:=⟨_,rfl⟩
 obtain ⟨v,hv⟩:∃ v,T.getD c noC=v:=⟨_,rfl⟩
 rw [hu] at y0 y1 p3 p4 p5 p6 ⊢
 rw [hv] at z0 z1 p3 p4 p5 p6 ⊢
 obtain ⟨ov,hov⟩:∃ ov,x.op=ov:=⟨_,rfl⟩
 rw [hov] at p3 p4 p5 p6 ho h1 h2 ⊢
 obtain ⟨t,ht⟩:∃ t,opP ov u v=t:=⟨_,rfl⟩
 rw [ht] at p3 p4 p5 p6 ⊢
 unfold OpTo at p3 p4 p5 p6
 obtain ⟨m,hm⟩:∃ m,T.length=m:=⟨_,rfl⟩
 rw [hm] at hn a2 a4 ⊢
 have hai:(a:Int)<(m:Int):=by omega
 have hci:(c:Int)<(m:Int):=by omega
 have hmi:(m:Int)≤30:=by omega
 have hovc:ov=3∨ov=4∨ov=5∨ov=6:=by omega
 clear hx hask e1 e2 h1 h2 hu hv ht hTA hT3 hok ho hov a1 a3
 rcases hovc with rfl | rfl | rfl | rfl
 ·have hp:=p3 rfl
  clear p3 p4 p5 p6
  go_enter Tryz.func92,Tryz.ntmps92
  go_wp2_with fail
  go_region_law ((go_simp;refine (hp _).mono ?_;rintro e w1 ⟨rfl,hb⟩;obtain ⟨hbc,hbf⟩:=bcell hb;have hz:=bsize hb;simp at hz;have HB1:Hid (Below w.heap.size w w1):=(onB (by go_grown) hb);clear hb))
  all_goals
   go_wp2_with fail
   refine bodyPost_ret (v:=.tuple #[.agg #[.int .i64 t.1,.int .i64 t.2],.nilIface]) (by simp [results,Tryz.results92,go_sem,hbc]) rfl ⟨rfl,?_⟩
   exact ((HB1.out.setCell (by simp) _).setCell (by simp) _)
 ·have hp:=p4 rfl
  clear p3 p4 p5 p6
  go_enter Tryz.func92,Tryz.ntmps92
  go_wp2_with fail
  go_region_law ((go_simp;refine (hp _).mono ?_;rintro e w1 ⟨rfl,hb⟩;obtain ⟨hbc,hbf⟩:=bcell hb;have hz:=bsize hb;simp at hz;have HB1:Hid (Below w.heap.size w w1):=(onB (by go_grown) hb);clear hb))
  all_goals
   go_wp2_with fail
   refine bodyPost_ret (v:=.tuple #[.agg #[.int .i64 t.1,.int .i64 t.2],.nilIface]) (by simp [results,Tryz.results92,go_sem,hbc]) rfl ⟨rfl,?_⟩
   exact ((HB1.out.setCell (by simp) _).setCell (by simp) _)
 ·have hp:=p5 rfl
  clear p3 p4 p5 p6
  go_enter Tryz.func92,Tryz.ntmps92
  go_wp2_with fail
  go_region_law ((go_simp;refine (hp _).mono ?_;rintro e w1 ⟨rfl,hb⟩;obtain ⟨hbc,hbf⟩:=bcell hb;have hz:=bsize hb;simp at hz;have HB1:Hid (Below w.heap.size w w1):=(onB (by go_grown) hb);clear hb))
  all_goals
   go_wp2_with fail
   refine bodyPost_ret (v:=.tuple #[.agg #[.int .i64 t.1,.int .i64 t.2],.nilIface]) (by simp [results,Tryz.results92,go_sem,hbc]) rfl ⟨rfl,?_⟩
   exact ((HB1.out.setCell (by simp) _).setCell (by simp) _)
 ·have hp:=p6 rfl
  clear p3 p4 p5 p6
  go_enter Tryz.func92,Tryz.ntmps92
  go_wp2_with fail
  go_region_law ((go_simp;refine (hp _).mono ?_;rintro e w1 ⟨rfl,hb⟩;obtain ⟨hbc,hbf⟩:=bcell hb;have hz:=bsize hb;simp at hz;have HB1:Hid (Below w.heap.size w w1):=(onB (by go_grown) hb);clear hb))
  all_goals
   go_wp2_with fail
   refine bodyPost_ret (v:=.tuple #[.agg #[.int .i64 t.1,.int .i64 t.2],.nilIface]) (by simp [results,Tryz.results92,go_sem,hbc]) rfl ⟨rfl,?_⟩
   exact ((HB1.out.setCell (by simp) _).setCell (by simp) _)
theorem up_acyc {N:List (List Int)} (h:∀ (a:Int),∀ x∈rowN N a,a<x) (i:Nat):cycB N i=false:=by
 rw [cyc_not]
 intro hr
 have hlt:∀ {a b:Int},Rch N a b→a<b:=by
  intro a b hab
  induction hab with
  | one hx=>exact h _ _ hx
  | more hx _ ih=>have:=h _ _ hx;omega
 have:=hlt hr
 omega
end Go.Proofs.YtaodedckffjpgagGreatDoor
