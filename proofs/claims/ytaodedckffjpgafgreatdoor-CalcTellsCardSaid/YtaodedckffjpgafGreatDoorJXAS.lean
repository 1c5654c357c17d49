/-
  What is told at a place of a cube, as a plain function: by which dim, of which other places; it ends, for each needs only what stands ahead of it in its dim's order.
-/
import Derived.Test.YtaodedckffjpgafGreatDoorJXAQ
import Derived.Test.YtaodedckffjpgafGreatDoorJXAR
namespace Go.Proofs.YtaodedckffjpgafGreatDoor
def valG (E:ByteArray→Int×Int):Tre→Int×Int
 | .num n=>ofP n
 | .ref s=>E s
 | .bin o a b=>opP o (valG E a) (valG E b)
theorem valG_names (N:List ByteArray) (C:List (Int×Int)) (E:ByteArray→Int×Int):∀ t:Tre,(∀ s∈refsT t,refC N C s=E s)→valT N C t=valG E t
 | .num _,_=>rfl
 | .ref s,h=>h s (by simp [refsT])
 | .bin o a b,h=>by
  rw [valT,valG,valG_names N C E a fun s hs=>h s (by simp [refsT,hs]),valG_names N C E b fun s hs=>h s (by simp [refsT,hs])]
theorem valG_same (E F:ByteArray→Int×Int):∀ t:Tre,(∀ s∈refsT t,E s=F s)→valG E t=valG F t
 | .num _,_=>rfl
 | .ref s,h=>h s (by simp [refsT])
 | .bin o a b,h=>by
  rw [valG,valG,valG_same E F a fun s hs=>h s (by simp [refsT,hs]),valG_same E F b fun s hs=>h s (by simp [refsT,hs])]
def treF (d:Dm) (i:Nat):Tre:=treeOf (prsL (d.mem i).formula) ((prsL (d.mem i).formula).length-1)
def oneV (d:Dm) (at':Int→Int×Int) (i:Nat):Int×Int:=if (d.mem i).formula.size=0 then (partsOf d.mem d.n i).foldl (partStep d.mem at') (0,0) else valG (fun s=>at' (whL d s.data.toList)) (treF d i)
theorem tre_names {d:Dm} {i:Nat} (hp:prsE (d.mem i).formula=0) {s:ByteArray} (hs:s∈refsT (treF d i)):s.data.toList∈nmsOf d i:=by
 unfold treF at hs
 obtain ⟨j,hj,h2,h3⟩:=(refs_mem (form_read hp) s).1 hs
 rw [←h3]
 refine nms_has ?_ h2
 rw [List.getD_eq_getElem?_getD,List.getElem?_eq_getElem hj]
 exact List.getElem_mem hj
theorem mErr_prsE {d:Dm} {i:Nat} (hf:(d.mem i).formula.size≠0) (h:mErr d i=0):prsE (d.mem i).formula=0:=by
 unfold mErr at h
 rw [if_neg hf] at h
 split at h
 ·rename_i h1;exact absurd h h1
 ·rename_i h1;simpa using h1
theorem oneV_same {d:Dm} (hd:(dimErr d).2=0) {i:Nat} (hm:mErr d i=0) {a b:Int→Int×Int} (h:∀ x∈mNd d i,a x=b x):oneV d a i=oneV d b i:=by
 unfold oneV
 by_cases hf:(d.mem i).formula.size=0
 ·rw [if_pos hf,if_pos hf]
  have hall:∀ (P:List Int) (c:Int×Int),(∀ x∈P,x∈partsOf d.mem d.n i)→P.foldl (partStep d.mem a) c=P.foldl (partStep d.mem b) c:=by
   intro P
   induction P with
   | nil=>intro c _;rfl
   | cons x r ih =>
    intro c hP
    have hx:=hP x (by simp)
    rw [List.foldl_cons,List.foldl_cons]
    have e:partStep d.mem a c x=partStep d.mem b c x:=by
     unfold partStep
     by_cases hs:(d.mem x.toNat).sign=0
     ·rw [if_neg (by omega),if_neg (by omega),if_neg (by omega),if_neg (by omega)]
     ·have hn:x∈mNd d i:=by
       rw [←parts_need hf,List.mem_filter]
       exact ⟨hx,by unfold sgB;exact decide_eq_true hs⟩
      rw [h x hn]
    rw [e]
    exact ih _ fun y hy=>hP y (List.mem_cons_of_mem _ hy)
  exact hall _ _ fun x hx=>hx
 ·rw [if_neg hf,if_neg hf]
  refine valG_same _ _ _ fun s hs=>h _ ?_
  exact (need_names hd hf hm _).2 ⟨_,tre_names (mErr_prsE hf hm) hs,rfl⟩
def byTo (D:Nat→Dm) (p:List Int):Nat→Int
 | 0 => -1
 | k+1=>if leafB (D k).mem (D k).n (p.getD k 0).toNat=false∧(byTo D p k<0∨(D (byTo D p k).toNat).solve<(D k).solve) then (k:Int) else byTo D p k
theorem by_in (D:Nat→Dm) (p:List Int) (k:Nat):byTo D p k = -1∨∃ b:Nat,byTo D p k=(b:Int)∧b<k:=by
 induction k with
 | zero=>exact Or.inl rfl
 | succ k ih =>
  unfold byTo
  split
  ·exact Or.inr ⟨k,rfl,by omega⟩
  ·rcases ih with h | ⟨b,h1,h2⟩
   ·exact Or.inl h
   ·exact Or.inr ⟨b,h1,by omega⟩
def rkD (d:Dm) (i:Int):Nat:=(ordTo (ndL d) d.n).idxOf i
theorem ord_all {d:Dm} (h:(rErr d).2=0) {i:Nat} (hi:i<d.n):(i:Int)∈ordTo (ndL d) d.n:=by
 refine Classical.byContradiction fun hn=>?_
 obtain ⟨h1,h2⟩:=ord_in (ndL d) d.n
 rw [ndL_len] at h2
 have:=few d.n ((i:Int) :: ordTo (ndL d) d.n) (List.nodup_cons.2 ⟨hn,h1⟩) fun x hx=>by
  rcases List.mem_cons.1 hx with rfl | hx
  ·omega
  ·exact h2 x hx
 rw [List.length_cons,ord_len (ndL_inn d) (rErr_acyc h) d.n (by rw [ndL_len];exact Nat.le_refl _)] at this
 omega
theorem rk_less {d:Dm} (h:(rErr d).2=0) {i:Nat} (hi:i<d.n) {x:Int} (hx:x∈mNd d i):rkD d x<rkD d i:=by
 obtain ⟨k,hk,e⟩:=List.getElem_of_mem (ord_all h hi)
 have hl:=ord_len (ndL_inn d) (rErr_acyc h) d.n (by rw [ndL_len];exact Nat.le_refl _)
 have hk2:k<(ndL d).length:=by rw [ndL_len];omega
 obtain ⟨m,h1,h2,h3,h4,-⟩:=ord_at (ndL_inn d) (rErr_acyc h) hk2
 rw [ndL_len] at h1 h3 h4
 have hm:m=i:=by
  rw [List.getD_eq_getElem?_getD,List.getElem?_eq_getElem hk,e] at h1
  have:(i:Int)=(m:Int):=by simpa using h1
  omega
 subst hm
 rw [ndL_at hi] at h4
 have hx2:=h4 x hx
 unfold rkD
 have hsp:ordTo (ndL d) d.n=(ordTo (ndL d) d.n).take k ++ (ordTo (ndL d) d.n).drop k:=(List.take_append_drop _ _).symm
 have hkl:((ordTo (ndL d) d.n).take k).length=k:=by rw [List.length_take];omega
 have a1:(ordTo (ndL d) d.n).idxOf x<k:=by
  rw [hsp,List.idxOf_append,if_pos hx2]
  have:=List.idxOf_lt_length_of_mem hx2
  omega
 have a2:k≤(ordTo (ndL d) d.n).idxOf (m:Int):=by
  rw [hsp,List.idxOf_append,if_neg h3]
  omega
 omega
def msrTo (D:Nat→Dm) (p:List Int):Nat→Nat
 | 0=>0
 | k+1=>msrTo D p k+rkD (D k) (p.getD k 0)
theorem getD_set_at {p:List Int} {b:Nat} {x:Int} (h:b<p.length):(p.set b x).getD b 0=x:=by
 simp [List.getD,h]
theorem getD_set_off {p:List Int} {b k:Nat} {x:Int} (h:k≠b):(p.set b x).getD k 0=p.getD k 0:=by
 simp [List.getD,List.getElem?_set_ne (fun e=>h e.symm)]
theorem msr_less {D:Nat→Dm} {p:List Int} {b:Nat} {x:Int} (hb:b<p.length) (hr:rkD (D b) x<rkD (D b) (p.getD b 0)) (k:Nat):(k≤b→msrTo D (p.set b x) k=msrTo D p k)∧(b<k→msrTo D (p.set b x) k<msrTo D p k):=by
 induction k with
 | zero=>exact ⟨fun _=>rfl,fun h=>by omega⟩
 | succ k ih =>
  refine ⟨fun h=>?_,fun h=>?_⟩
  ·rw [msrTo,msrTo,ih.1 (by omega),getD_set_off (by omega)]
  ·rw [msrTo,msrTo]
   by_cases e:k=b
   ·subst e
    rw [ih.1 (Nat.le_refl _),getD_set_at hb]
    omega
   ·have:=ih.2 (by omega)
    rw [getD_set_off e]
    omega
def solF (D:Nat→Dm) (n:Nat) (inp:List Int→Int×Int):Nat→List Int→Int×Int
 | 0,_=>(0,0)
 | f+1,p=>if byTo D p n<0 then inp p else oneV (D (byTo D p n).toNat) (fun x=>solF D n inp f (p.set (byTo D p n).toNat x)) (p.getD (byTo D p n).toNat 0).toNat
def AllR (D:Nat→Dm) (n:Nat):Prop := ∀ i,i<n→(rErr (D i)).2=0
theorem inO_set {D:Nat→Dm} {n:Nat} {p:List Int} (h:InO D n p) {b:Nat} (hb:b<n) {x:Int} (h0:0≤x) (h1:x<((D b).n:Int)):InO D n (p.set b x):=by
 refine ⟨h.right,by rw [List.length_set];exact h.len,fun i hi=>?_,fun i hi=>?_⟩
 ·by_cases e:i=b
  ·subst e
   rw [getD_set_at (by rw [h.len];exact hb)]
   exact h0
  ·rw [getD_set_off e]
   exact h.lo i hi
 ·by_cases e:i=b
  ·subst e
   rw [getD_set_at (by rw [h.len];exact hb)]
   exact h1
  ·rw [getD_set_off e]
   exact h.hi i hi
theorem sol_same {D:Nat→Dm} {n:Nat} (hR:AllR D n) (inp:List Int→Int×Int):∀ (f g:Nat) (p:List Int),InO D n p→msrTo D p n<f→msrTo D p n<g→solF D n inp f p=solF D n inp g p:=by
 intro f
 induction f with
 | zero=>intro g p _ h;omega
 | succ f ih =>
  intro g p hp hf hg
  obtain ⟨g,rfl⟩:∃ g',g=g'+1:=⟨g-1,by omega⟩
  unfold solF
  rcases by_in D p n with h | ⟨b,h1,h2⟩
  ·rw [h,if_pos (by omega),if_pos (by omega)]
  ·rw [h1,if_neg (by omega),if_neg (by omega),Int.toNat_natCast]
   obtain ⟨hd,hm,-,-⟩:=rErr_right (hR b h2)
   obtain ⟨hp0,hp1⟩:0≤p.getD b 0∧p.getD b 0<((D b).n:Int):=⟨hp.lo b h2,hp.hi b h2⟩
   refine oneV_same hd (hm _ (by omega)) fun x hx=>?_
   have hxi:=mNd_in hx
   have hi2:(p.getD b 0).toNat<(D b).n:=by omega
   have hrk:=rk_less (hR b h2) hi2 hx
   rw [Int.toNat_of_nonneg hp0] at hrk
   have hms:=(msr_less (by rw [hp.len];exact h2) hrk n).2 h2
   exact ih g _ (inO_set hp h2 hxi.1 hxi.2) (by omega) (by omega)
def solV (D:Nat→Dm) (n:Nat) (inp:List Int→Int×Int) (p:List Int):Int×Int:=solF D n inp (msrTo D p n+1) p
theorem sol_leaf {D:Nat→Dm} {n:Nat} (inp:List Int→Int×Int) {p:List Int} (h:byTo D p n<0):solV D n inp p=inp p:=by
 unfold solV solF
 rw [if_pos h]
theorem sol_by {D:Nat→Dm} {n:Nat} (hR:AllR D n) (inp:List Int→Int×Int) {p:List Int} (hp:InO D n p) {b:Nat} (hb:byTo D p n=(b:Int)):solV D n inp p=oneV (D b) (fun x=>solV D n inp (p.set b x)) (p.getD b 0).toNat:=by
 have h2:b<n:=by
  rcases by_in D p n with h | ⟨b',h1,h2⟩
  ·omega
  ·omega
 show solF D n inp (msrTo D p n+1) p=_
 unfold solF
 rw [hb,if_neg (by omega),Int.toNat_natCast]
 obtain ⟨hd,hm,-,-⟩:=rErr_right (hR b h2)
 obtain ⟨hp0,hp1⟩:0≤p.getD b 0∧p.getD b 0<((D b).n:Int):=⟨hp.lo b h2,hp.hi b h2⟩
 refine oneV_same hd (hm _ (by omega)) fun x hx=>?_
 have hxi:=mNd_in hx
 have hi2:(p.getD b 0).toNat<(D b).n:=by omega
 have hrk:=rk_less (hR b h2) hi2 hx
 rw [Int.toNat_of_nonneg hp0] at hrk
 have hms:=(msr_less (by rw [hp.len];exact h2) hrk n).2 h2
 exact sol_same hR inp _ _ _ (inO_set hp h2 hxi.1 hxi.2) (by omega) (by omega)
end Go.Proofs.YtaodedckffjpgafGreatDoor
namespace Go.Proofs.YtaodedckffjpgafGreatDoor
open Go.ChangeShapes Go.WideShapes Go.ChangeAt Go.RowKit
set_option maxRecDepth 20000
def wrStep (D:Nat→Dm) (n:Nat) (L:List (Int×Int)) (e:En):List (Int×Int):=L.set (numI D e.pl n).toNat (1,e.n)
def wrV (D:Nat→Dm) (n:Nat) (l:List En):List (Int×Int):=l.foldl (wrStep D n) (List.replicate (prodN D n) (0,0))
theorem wrs_len (D:Nat→Dm) (n:Nat):∀ (l:List En) (L:List (Int×Int)),(l.foldl (wrStep D n) L).length=L.length
 | [],_=>rfl
 | e :: r,L=>by rw [List.foldl_cons,wrs_len D n r];unfold wrStep;rw [List.length_set]
theorem wrV_len (D:Nat→Dm) (n:Nat) (l:List En):(wrV D n l).length=prodN D n:=by unfold wrV;rw [wrs_len];simp
theorem take_wr (D:Nat→Dm) (n:Nat) (L:List (Int×Int)) (xs:List EnL) {k:Nat} (h:k<xs.length):((lE xs).take (k+1)).foldl (wrStep D n) L=wrStep D n (((lE xs).take k).foldl (wrStep D n) L) (xs.getD k noL).e:=by
 have hk:k<(lE xs).length:=by rw [lE_len];exact h
 rw [List.take_succ_eq_append_getElem hk,List.foldl_append]
 have e:(lE xs)[k]=(xs.getD k noL).e:=by rw [←lE_at,List.getD_eq_getElem?_getD,List.getElem?_eq_getElem hk];rfl
 rw [e]
 rfl
theorem goodC_num {x:Int} (h:numOk x=true):goodC (1,x):=by
 have hn : -1000000≤x∧x≤1000000:=by simpa [numOk] using h
 exact decide_eq_true (Or.inl ⟨rfl,by omega,by omega⟩)
theorem run_make_cells (n:Nat) (hn:n≤3000) (w:World):(Instr.makeSlice 49 (.int .i64 (n:Int)) (.int .i64 (n:Int))).run Tryz.prog w=.ok (.slice (some ⟨w.heap.size,0,none⟩) n n) (w.alloc (.cells (madeCells #[.int .i64 0,.int .i64 0] (n*2)) 48)):=by
 obtain ⟨i0,hi0,hz0,hz1,hz2⟩:=info_parts Tryz.infoCe
 have hr:=run_make (P:=Tryz.prog) w 49 48 i0 _ Tryz.underlying49 hi0 hz0 .i64 .i64 n n (by omega) (Int.le_refl _) (by rw [hz2];omega) (by omega)
 simp only [Int.toNat_natCast,hz1] at hr
 exact hr
theorem celB_made (w:World) (n:Nat):CelB (w.alloc (.cells (madeCells #[.int .i64 0,.int .i64 0] (n*2)) 48)) w.heap.size (List.replicate n (0,0)):=by
 refine ⟨_,heap_alloc_new w _,fun k hk=>?_⟩
 have hk':k<n:=by simpa using hk
 have e1:(List.replicate n ((0:Int),(0:Int))).getD k noC=(0,0):=by simp [List.getD,hk']
 rw [e1]
 constructor
 ·simp [madeCells,show k*2<n*2 by omega]
 ·simp [madeCells,show k*2+1<n*2 by omega,show (k*2+1) % 2=1 by omega]
def fcL (D:Nat→Dm) (n:Nat) (l:List En):List (Int×Int):=if entsErr D n l=0 then wrV D n l else []
theorem fc_ok {D:Nat→Dm} {n:Nat} {l:List En} (h:entsErr D n l=0):fcL D n l=wrV D n l:=by unfold fcL;rw [if_pos h]
theorem fc_bad {D:Nat→Dm} {n:Nat} {l:List En} (h:entsErr D n l≠0):fcL D n l=[]:=by unfold fcL;rw [if_neg h]
set_option maxHeartbeats 8000000 in
theorem fcells_any (A0:Option Addr) (cap n:Nat) (D:Nat→Dm) (A:Nat→Option Addr) (C:Nat→Nat) (AE:Option Addr) (ce:Nat) (xs:List EnL) (w:World) (hM:DimsV w A0 cap n D A C) (hE:EnsV w AE ce xs) :
  Calls Tryz.prog 39 #[.agg #[.slice A0 n cap],.slice AE xs.length ce] w fun e w'=>(∃ A' c',e=.returned (.tuple #[.slice A' (fcL D n (lE xs)).length c',errV (entsErr D n (lE xs))])∧CelV w' A' c' (fcL D n (lE xs)))∧Below w.heap.size w w':=by
 have hB0:=ownOut_below w A0 n cap 42
 have h:=icheck_any A0 cap n D A C AE ce xs (ownOut w A0 n cap 42) (hM.later hB0) (hE.later hB0)
 have HB0:Hid (Below w.heap.size w (ownOut w A0 n cap 42)):=hB0
 have HM:Hid (DimsV w A0 cap n D A C):=hM
 have HE:Hid (EnsV w AE ce xs):=hE
 clear hM hE hB0
 by_cases he:entsErr D n (lE xs)=0
 ·have hEs:=ens_of he
  have HEs:Hid (Ens D n (lE xs)):=hEs
  have hfew:xs.length≤3000:=by have:=hEs.few;rw [lE_len] at this;exact this
  have hR:=hEs.right
  have HR:Hid ((allErr D n).2.2=0):=hR
  obtain ⟨hn1,hn4,hp3,hd⟩:=allErr_some hR
  have HF:Hid (fcL D n (lE xs)=wrV D n (lE xs)∧errV (entsErr D n (lE xs))=.nilIface):=⟨fc_ok he,by rw [he];rfl⟩
  rw [he,errV_zero] at h
  have HBo:Hid (w.heap.size<(ownOut w A0 n cap 42).heap.size∧(ownOut w A0 n cap 42).cell? ⟨w.heap.size,0,none⟩=some (.slice A0 n cap)):=⟨by rw [ownOut_size];omega,ownOut_at ..⟩
  obtain ⟨N,hN⟩:∃ N,xs.length=N:=⟨_,rfl⟩
  have HN:Hid (xs.length=N):=hN
  rw [hN] at h hfew ⊢
  have hN':(N:Int)≤3000:=by omega
  obtain ⟨PN,hPN⟩:∃ PN,prodN D n=PN:=⟨_,rfl⟩
  have HPN:Hid (prodN D n=PN):=hPN
  rw [hPN] at hp3
  have hmk:=run_make_cells PN hp3
  have hPN':(PN:Int)≤3000:=by omega
  have HWE:Hid (((lE xs).take N).foldl (wrStep D n) (List.replicate PN (0,0))=wrV D n (lE xs)):=by show _=_;rw [List.take_of_length_le (by rw [lE_len,hN];exact Nat.le_refl _),←hPN];rfl
  clear he hEs hR hd hN hPN
  go_enter Tryz.func39,Tryz.ntmps39
  go_wp2_with fail
  refine h.mono ?_
  rintro e w1 ⟨rfl,hb1⟩
  have hB:Below w.heap.size w w1:=onB HB0.out hb1
  have HB:Hid (Below w.heap.size w w1):=hB
  have HBox:Hid (BoxN w1 w.heap.size (.slice A0 n cap)):=⟨Nat.lt_of_lt_of_le HBo.out.1 hb1.size,(hb1.cell (p:=⟨w.heap.size,0,none⟩) HBo.out.1).trans HBo.out.2⟩
  have c1:=HBox.out.2
  have hpc:=pcells_any A0 cap n D A C w1 (HM.out.later hB)
  have hcv:cellsV D n=(PN:Int):=by unfold cellsV;rw [if_pos HR.out,HPN.out]
  rw [HR.out,errV_zero,hcv] at hpc
  clear hb1 h hB hcv
  go_wp2_with fail
  refine hpc.mono ?_
  rintro e w2 ⟨rfl,hb2⟩
  have HB2:Hid (Below w.heap.size w w2):=onB HB.out hb2
  have HBox2:Hid (BoxN w2 w.heap.size (.slice A0 n cap)):=HBox.out.later hb2
  obtain ⟨v2,hv2⟩:∃ v,w2.alloc (.cells (madeCells #[.int .i64 0,.int .i64 0] (PN*2)) 48)=v:=⟨_,rfl⟩
  have hBv:Below w2.heap.size w2 v2:=by rw [←hv2];go_grown
  have HBv:Hid (Below w2.heap.size w2 v2):=hBv
  have HCv:Hid (CelB v2 w2.heap.size (List.replicate PN (0,0))):=by rw [←hv2];exact celB_made w2 PN
  have HBoxv:Hid (BoxN v2 w.heap.size (.slice A0 n cap)):=HBox2.out.later hBv
  have hwz:w.heap.size<w2.heap.size:=HBox2.out.1
  clear hpc hb2 c1 hBv
  go_wp2_with fail
  clear hmk hv2
  go_loopg [32] N (fun gg s32 wr => ∃ (k:Nat),k≤N∧gg=N-k∧s32=.int .i64 k∧Hid (CelB wr w2.heap.size (((lE xs).take k).foldl (wrStep D n) (List.replicate PN (0,0))))∧Hid (v2.grownBy wr (some w2.heap.size)))
  case atStart=>exact ⟨0,Nat.zero_le _,rfl,rfl,HCv,grown_refl v2 _⟩
  case round =>
   obtain ⟨k,hk,rfl,rfl,HC,HG⟩:=hrel
   have hB2r:Below w2.heap.size w2 wr:=HBv.out.grown HG.out HBv.out.size (fun j hj=>by cases hj;exact Nat.le_refl _)
   have HB2r:Hid (Below w2.heap.size w2 wr):=hB2r
   have HBr:Hid (Below w.heap.size w wr):=onB HB2.out hB2r
   by_cases hlt:k<N
   ·have hkx:k<xs.length:=by rw [HN.out];exact hlt
    have hki:(k:Int)<(N:Int):=by omega
    obtain ⟨-,-,h0 | ⟨bb,oo,rfl,hA⟩⟩:=HE.out.later HBr.out
    ·have:=HN.out;rw [h0] at this;simp at this;omega
    obtain ⟨c1,c2⟩:=hA.at hkx
    have hmem:(xs.getD k noL).e∈lE xs:=List.mem_map.2 ⟨_,enl_mem hkx,rfl⟩
    obtain ⟨hqI,-,hnum⟩:=HEs.out.each _ hmem
    have hnn : -1000000≤(xs.getD k noL).e.n∧(xs.getD k noL).e.n≤1000000:=by simpa [numOk] using hnum
    obtain ⟨hq1,hq2,-⟩:=numI_bound hqI (Nat.le_refl n)
    have hpl:=hA.pl hkx
    have HWr:=take_wr D n (List.replicate PN (0,0)) xs hkx
    unfold wrStep at HWr
    obtain ⟨X,hX⟩:∃ X:Nat,numI D (xs.getD k noL).e.pl n=X:=⟨(numI D (xs.getD k noL).e.pl n).toNat,by omega⟩
    have hnv:numV D n (xs.getD k noL).e.pl=(X:Int):=by unfold numV;rw [if_pos hqI.ok,hX]
    have hXN:X<PN:=by have:=HPN.out;omega
    have hNum:∀ w',Below wr.heap.size wr w'→_:=fun w' hw'=>pnumber_any A0 cap n D A C (xs.getD k noL).A (xs.getD k noL).c (xs.getD k noL).e.pl w' (HM.out.later (onB HBr.out hw')) (hpl.later hw')
    rw [hnv,hqI.ok,errV_zero] at hNum
    have HNum:Hid (∀ w',Below wr.heap.size wr w'→_):=hNum
    have hof:=fun w'=>of_any (xs.getD k noL).e.n w'
    rw [ofP_in (by omega) (by omega)] at hof
    rw [hX,show ((X:Int)).toNat=X by omega] at HWr
    have HWR:Hid _:=HWr
    obtain ⟨LL,hLL⟩:∃ LL,((lE xs).take k).foldl (wrStep D n) (List.replicate PN (0,0))=LL:=⟨_,rfl⟩
    have hLLn:LL.length=PN:=by rw [←hLL,wrs_len];simp
    have HCL:Hid (CelB wr w2.heap.size LL):=by rw [←hLL];exact HC.out
    have HNx:Hid (((lE xs).take (k+1)).foldl (wrStep D n) (List.replicate PN (0,0))=LL.set X (1,(xs.getD k noL).e.n)):=by
     show _=_
     rw [←hLL]
     exact HWR.out
    have HBxr:Hid (BoxN wr w.heap.size (.slice A0 n cap)):=boxn_other HBoxv.out (by omega) HG.out
    have hXL:X<LL.length:=by omega
    have HXL:Hid (X<LL.length):=hXL
    generalize (xs.getD k noL).A=A1 at c1 HNum
    generalize (xs.getD k noL).c=k1 at c1 HNum
    generalize (xs.getD k noL).e.n=num at c2 hnn hof HNx
    generalize (xs.getD k noL).e.pl.length=m1 at c1 HNum
    have hcr:=HBxr.out.2
    have hXi:(X:Int)<(PN:Int):=by omega
    obtain ⟨y,hy⟩:∃ y,wr.alloc (.cells #[.slice A1 m1 k1,.int .i64 num] 57)=y:=⟨_,rfl⟩
    have hBy:Below wr.heap.size wr y:=by rw [←hy];go_grown
    have HBy:Hid (Below wr.heap.size wr y):=hBy
    have HPy:Hid (y.heap[wr.heap.size]?=some (.cells #[.slice A1 m1 k1,.int .i64 num] 57 (0,0))):=by show _=_;rw [←hy];exact heap_alloc_new ..
    obtain ⟨p0,p1,-,-⟩:=pair_at HPy.out
    have hyo:=(HBxr.out.later hBy).2
    clear hB2r hA hmem hqI hnum hpl HWr hNum hnv hLL hLLn hX hq1 hq2 hBy hXL HWR
    go_wp2_with fail
    refine (HNum.out _ HBy.out).mono ?_
    rintro e w5 ⟨rfl,hb5⟩
    have HB5:Hid (Below y.heap.size y w5):=hb5
    have hwr:wr.heap.size<y.heap.size:=(Array.getElem?_eq_some_iff.1 HPy.out).1
    have hP5:w5.heap[wr.heap.size]?=some (.cells #[.slice A1 m1 k1,.int .i64 num] 57 (0,0)):=(hb5.block _ hwr).trans HPy.out
    obtain ⟨-,s1,-,-⟩:=pair_at hP5
    clear hb5 hP5 p0 p1 hyo
    go_wp2_with fail
    refine (hof _).mono ?_
    rintro e w6 ⟨rfl,hb6⟩
    have hB6:Below wr.heap.size wr w6:=onB (onB HBy.out HB5.out) hb6
    have HC6:Hid (CelB w6 w2.heap.size LL):=HCL.out.later hB6
    obtain ⟨g1,g2⟩:=HC6.out.at HXL.out
    have g3:=HC6.out.frozen (X*2)
    have g4:=HC6.out.frozen (X*2+1)
    have HC7:Hid (CelB ((w6.setCell ⟨w2.heap.size,X*2,none⟩ (.int .i64 1)).setCell ⟨w2.heap.size,X*2+1,none⟩ (.int .i64 num)) w2.heap.size (((lE xs).take (k+1)).foldl (wrStep D n) (List.replicate PN (0,0)))):=by show CelB _ _ _;rw [HNx.out];exact HC6.out.set HXL.out 1 num
    have HG7:Hid (v2.grownBy ((w6.setCell ⟨w2.heap.size,X*2,none⟩ (.int .i64 1)).setCell ⟨w2.heap.size,X*2+1,none⟩ (.int .i64 num)) (some w2.heap.size)):=cel_grown (grown_then HG.out hB6)
    clear hb6 hB6 hof s1
    go_wp2_with fail
    go_roundg (N-(k+1))
    case measure=>omega
    case rel=>exact ⟨k+1,by omega,rfl,by go_num,HC7,HG7⟩
   ·have hke:k=N:=by omega
    subst hke
    have HV:Hid (CelB wr w2.heap.size (wrV D n (lE xs))):=by rw [←HWE.out];exact HC.out
    have HVL:Hid ((wrV D n (lE xs)).length=PN):=by show _=_;rw [wrV_len];exact HPN.out
    clear hB2r
    go_wp2_with fail
    go_ret2
    rw [HF.out.1,HF.out.2,HVL.out]
    exact ⟨⟨_,PN,rfl,by rw [HVL.out];exact Nat.le_refl _,by omega,Or.inr ⟨_,0,rfl,HV.out.celAt⟩⟩,HBr.out⟩
 ·have HF:Hid (fcL D n (lE xs)=[]):=fc_bad he
  have HEr:Hid (errV (entsErr D n (lE xs))=.iface 77 (.int .i64 (entsErr D n (lE xs)))):=errV_some he
  rw [errV_some he] at h
  clear he
  generalize entsErr D n (lE xs)=ee at h HEr
  generalize xs.length=N at h
  go_enter Tryz.func39,Tryz.ntmps39
  go_wp2_with fail
  refine h.mono ?_
  rintro e w1 ⟨rfl,hb1⟩
  have HB:Hid (Below w.heap.size w w1):=onB HB0.out hb1
  clear hb1 h
  go_wp2_with fail
  go_ret2
  rw [HF.out,HEr.out]
  exact ⟨⟨none,0,rfl,CelV.nil _ _ _ (by decide)⟩,HB.out⟩
end Go.Proofs.YtaodedckffjpgafGreatDoor
namespace Go.Proofs.YtaodedckffjpgafGreatDoor
open Go.ChangeShapes Go.WideShapes Go.ChangeAt Go.RowKit
open Go.Sort (putRow Holds grow holds_putRow)
set_option maxRecDepth 20000
def NdsT (w:World) (A:Option Addr) (c:Nat) (L:List Nd):Prop:=NdsV w A c L∧(L=[]∨∃ b o cs fr,A=some ⟨b,o,none⟩∧w.heap[b]?=some (.cells cs 181 fr))
theorem NdsT.nil (w:World) (A:Option Addr) (c:Nat) (h:c≤9223372036854775807):NdsT w A c []:=⟨NdsV.nil w A c h,Or.inl rfl⟩
theorem NdsT.keep {w w':World} {A:Option Addr} {c:Nat} {L:List Nd} (h:NdsT w A c L) (hB:∀ (b:Nat) (cs:Array Value) (fr:Nat×Nat),w.heap[b]?=some (Obj.cells cs 181 fr)→w'.heap[b]?=w.heap[b]?):NdsT w' A c L:=by
 obtain ⟨⟨h1,h2,h3⟩,h4⟩:=h
 rcases h4 with h4 | ⟨b,o,cs,fr,hA,hb⟩
 ·exact ⟨⟨h1,h2,Or.inl h4⟩,Or.inl h4⟩
 ·have he:=hB b cs fr hb
  refine ⟨⟨h1,h2,?_⟩,Or.inr ⟨b,o,cs,fr,hA,he.trans hb⟩⟩
  rcases h3 with h3 | ⟨b',o',hA',h5,h6⟩
  ·exact Or.inl h3
  ·rw [hA] at hA'
   cases hA'
   refine Or.inr ⟨b,o,hA,(Array.getElem?_eq_some_iff.1 (he.trans hb)).1,fun k hk=>?_⟩
   obtain ⟨x0,x1,x2,x3,x4⟩:=h6 k hk
   exact ⟨(World.cell?_of_block (a:=⟨b,_,none⟩) he).trans x0,(World.cell?_of_block (a:=⟨b,_,none⟩) he).trans x1,(World.cell?_of_block (a:=⟨b,_,none⟩) he).trans x2,(World.cell?_of_block (a:=⟨b,_,none⟩) he).trans x3,(World.cell?_of_block (a:=⟨b,_,none⟩) he).trans x4⟩
theorem NdsT.later {w w':World} {A:Option Addr} {c:Nat} {L:List Nd} (h:NdsT w A c L) (hB:Below w.heap.size w w'):NdsT w' A c L :=
 h.keep fun b _ _ hb=>hB.block b (Array.getElem?_eq_some_iff.1 hb).1
theorem ndsT_of {w:World} {N:Nat} {A:Option Addr} {c:Nat} {l:List Nd} (h:w.ownsRow N 181 5 (.slice A l.length c) l.length (cellsN l)):NdsT w A c l:=by
 refine ⟨nds_of h,?_⟩
 rcases h.2 with ⟨h0,h1⟩ | ⟨g,cap,cur,h0,hb,hg,-⟩
 ·exact Or.inl (List.eq_nil_of_length_eq_zero h1)
 ·cases h0
  exact Or.inr ⟨g,0,_,_,rfl,hg⟩
def StrT (w:World) (A:Option Addr) (c:Nat) (L:List (List UInt8)):Prop:=StrsV w A c L∧(L=[]∨∃ b o cs fr,A=some ⟨b,o,none⟩∧w.heap[b]?=some (.cells cs 9 fr))
theorem StrT.nil (w:World) (A:Option Addr) (c:Nat) (h:c≤9223372036854775807):StrT w A c []:=⟨StrsV.nil w A c h,Or.inl rfl⟩
theorem StrT.keep {w w':World} {A:Option Addr} {c:Nat} {L:List (List UInt8)} (h:StrT w A c L) (hB:∀ (b:Nat) (cs:Array Value) (fr:Nat×Nat),w.heap[b]?=some (Obj.cells cs 9 fr)→w'.heap[b]?=w.heap[b]?):StrT w' A c L:=by
 obtain ⟨⟨h1,h2,h3⟩,h4⟩:=h
 rcases h4 with h4 | ⟨b,o,cs,fr,hA,hb⟩
 ·exact ⟨⟨h1,h2,Or.inl h4⟩,Or.inl h4⟩
 ·have he:=hB b cs fr hb
  refine ⟨⟨h1,h2,?_⟩,Or.inr ⟨b,o,cs,fr,hA,he.trans hb⟩⟩
  rcases h3 with h3 | ⟨b',o',hA',h5,h6⟩
  ·exact Or.inl h3
  ·rw [hA] at hA'
   cases hA'
   exact Or.inr ⟨b,o,hA,(Array.getElem?_eq_some_iff.1 (he.trans hb)).1,fun k hk=>(World.cell?_of_block (a:=⟨b,_,none⟩) he).trans (h6 k hk)⟩
theorem StrT.later {w w':World} {A:Option Addr} {c:Nat} {L:List (List UInt8)} (h:StrT w A c L) (hB:Below w.heap.size w w'):StrT w' A c L :=
 h.keep fun b _ _ hb=>hB.block b (Array.getElem?_eq_some_iff.1 hb).1
theorem put_ty {w:World} {g n:Nat} {d:Array (List UInt8)} {cs:Array Value} {T:Nat} {fr:Nat×Nat} (h:w.heap[g]?=some (.cells cs T fr)):∃ cs' fr',(putRow encStr (Sort.ahead w n) g 0 d).heap[g]?=some (.cells cs' T fr'):=by
 unfold putRow Sort.mapBlock
 have h':(Sort.ahead w n).heap[g]?=some (.cells cs T fr):=h
 simp only [Array.getElem?_modify,if_true,h',Option.map_some]
 exact ⟨_,_,rfl⟩
theorem grown_ty {w:World} {g T:Nat} {os:Array Obj} (h:∃ cs fr,w.heap[g]?=some (.cells cs T fr)):∃ cs fr,(grow w os).heap[g]?=some (.cells cs T fr):=by
 obtain ⟨cs,fr,h⟩:=h
 exact ⟨cs,fr,by rw [Sort.heap_grow_old _ _ (Array.getElem?_eq_some_iff.1 h).1];exact h⟩
set_option maxHeartbeats 1000000 in
theorem ball_typ (N p:Nat) (b:Bld) (w:World) (hN:N≤w.heap.size) (h1:b.nodes.length+opsN b.waiting≤200) (h2:b.ready.length≤200) (h3:opsN b.waiting+1≤b.ready.length) (h4:b.waiting.length≤200) (hB:BldAt N p b w) :
  Calls Tryz.prog 181 #[.pointer (some ⟨p,0,none⟩)] w fun e w'=>(∃ A c,e=.returned (.slice A (settleB 0 b).nodes.length c)∧NdsT w' A c (settleB 0 b).nodes)∧Kept N (fun k=>k=p) w w':=by
 have h:=settle_any N p b 0 w hN h1 h2 h3 h4 hB
 generalize settleB 0 b=b1 at *
 clear hB
 go_enter Tryz.func181,Tryz.ntmps181
 go_wp2_with fail
 refine h.mono ?_
 rintro e w1 ⟨rfl,⟨AN,cN,AR,cR,AW,cW,hV⟩,hK⟩
 have c0:=hV.c0
 have HN:Hid (NdsT w1 AN cN b1.nodes):=ndsT_of hV.nod
 have HK:Hid (Kept N (fun k=>k=p) w w1):=hK
 clear hV hK h
 go_wp2_with fail
 go_ret
 exact ⟨⟨_,_,rfl,HN.out⟩,HK.out⟩
set_option maxHeartbeats 4000000 in
theorem fparse_typ (s:ByteArray) (w:World) (h100:s.size≤100):Calls Tryz.prog 140 #[.string s] w fun e w'=>(∃ A c,e=.returned (.tuple #[.slice A (prsL s).length c,.int .i64 (prsA s:Int),errV (prsE s)])∧NdsT w' A c (prsL s))∧Below w.heap.size w w':=by
 have hmf:∀ (fn:Fn) (first cap:Array Value) (w:World),(Instr.makeFunc fn first cap).run Tryz.prog w=.ok (.func fn first cap) w:=fun _ _ _ _=>rfl
 have h100':(s.size:Int)≤100:=by omega
 have HAt:Hid ((goneB s).1.at'≤s.size):=all_in _ (Nat.zero_le _)
 have hrd:=fread_any (tkB (w.heap.size+4) w.heap.size) (tkB_ok _ _) s noB (newB w) (by show s.size≤100;exact h100) (by rw [newB_size];rfl) (by rw [newB_size];exact Nat.lt_succ_self _) (newB_at w) fit_new (goneB s) rfl
 have HB:Hid (Below w.heap.size w (newB w)):=newB_below w
 obtain ⟨W,hW⟩:∃ W,newB w=W:=⟨_,rfl⟩
 have HZ:Hid ((newB w).heap.size=w.heap.size+1):=newB_size w
 rw [hW] at hrd HB HZ
 unfold newB at hW
 have hfv:(tkB (w.heap.size+4) w.heap.size).fv=.func (.func 178) #[.pointer (some ⟨w.heap.size,0,none⟩)] #[]:=rfl
 rw [hfv] at hrd
 have HI:Hid (∀ st w',(tkB (w.heap.size+4) w.heap.size).I st w'→BldAt (w.heap.size+4) w.heap.size st w'):=fun _ _ h=>h
 have HG:Hid (∀ a o ph st,(tkB (w.heap.size+4) w.heap.size).G a o ph st→FitB a o ph st):=fun _ _ _ _ h=>h
 have HP:Hid ((tkB (w.heap.size+4) w.heap.size).p=w.heap.size∧(tkB (w.heap.size+4) w.heap.size).N=w.heap.size+4):=⟨rfl,rfl⟩
 generalize tkB (w.heap.size+4) w.heap.size=T at *
 cases hx:(goneB s).2
 ·have hE:prsE s=2:=by unfold prsE;rw [if_neg (by omega),if_neg (by rw [hx];decide)]
  have hA:prsA s=(goneB s).1.at':=by unfold prsA;rw [if_neg (by omega),if_neg (by rw [hx];decide)]
  have hL:prsL s=[]:=by unfold prsL;rw [if_neg (by rw [hE];decide)]
  rw [hE,hA,hL,errV_some (by decide)]
  have HX:Hid ((goneB s).2=false):=hx
  clear hE hA hL hx
  go_enter Tryz.func140,Tryz.ntmps140
  go_wp2_with fail
  refine hrd.mono ?_
  rintro e w1 ⟨⟨hk,-⟩,⟨h1,-⟩ | ⟨-,rfl⟩⟩
  ·exact absurd (HX.out.symm.trans h1) (by decide)
  have HB1:Hid (Below w.heap.size w w1):=below_of_kept HB.out hk (by rw [HP.out.1];exact Nat.le_refl _)
  rw [errV_some (by decide)]
  clear hk hrd
  go_wp2_with fail
  go_returns
  exact ⟨⟨none,0,rfl,NdsT.nil _ _ _ (by omega)⟩,HB1.out⟩
 ·have hE:prsE s=formErr (nodesP s):=by unfold prsE;rw [if_neg (by omega),if_pos hx]
  have hA:prsA s=0:=by unfold prsA;rw [if_neg (by omega),if_pos hx]
  have HX:Hid ((goneB s).2=true):=hx
  have HE:Hid (prsE s=formErr (nodesP s)):=hE
  have HLd:Hid (prsL s=if prsE s=0 then nodesP s else []):=rfl
  have HNd:Hid (nodesP s=(settleB 0 (goneB s).1.st).nodes):=rfl
  rw [hE,hA]
  clear hE hA hx
  go_enter Tryz.func140,Tryz.ntmps140
  go_wp2_with fail
  refine hrd.mono ?_
  rintro e w1 ⟨⟨hk,hz1⟩,⟨-,rfl,hI,hG⟩ | ⟨h1,-⟩⟩
  case inr=>exact absurd (HX.out.symm.trans h1) (by decide)
  have HB1:Hid (Below w.heap.size w w1):=below_of_kept HB.out hk (by rw [HP.out.1];exact Nat.le_refl _)
  obtain ⟨f1,f2,f3,f4,f5⟩:=HG.out _ _ _ _ hG
  simp only [if_true] at f2
  rw [HP.out.2] at hz1
  have hat:(goneB s).1.at'≤200:=by have:=HAt.out;omega
  have hal:=ball_typ (w.heap.size+4) w.heap.size (goneB s).1.st w1 hz1 (by omega) (by omega) f2 (by omega) (HI.out _ _ hI)
  clear hk hrd hI hG f1 f2 f3 f4 f5
  rw [←HNd.out] at hal
  obtain ⟨L,hLn⟩:∃ L,nodesP s=L:=⟨_,rfl⟩
  have HLn:Hid (nodesP s=L):=hLn
  rw [hLn] at hal HE HLd
  clear hLn
  go_wp2_with fail
  refine hal.mono ?_
  rintro e w2 ⟨⟨A,c,rfl,hN2⟩,hk2⟩
  have HB2:Hid (Below w.heap.size w w2):=⟨hk2.os.trans HB1.out.os,hk2.tape.trans HB1.out.tape,hk2.output.trans HB1.out.output,Nat.le_trans HB1.out.size hk2.size,fun k hk'=>by rw [hk2.block k (by omega) (by omega)];exact HB1.out.block k hk'⟩
  have HN2:Hid (NdsT w2 A c L):=hN2
  have hck:=fchk_any A c L w2 hN2.1
  clear hk2 hN2 hal
  by_cases h0:formErr L=0
  ·have HL:Hid (prsL s=L):=by show _=_;rw [HLd.out,HE.out,if_pos h0]
   rw [h0,errV_zero] at hck
   have HF:Hid (formErr L=0):=h0
   clear h0
   go_wp2_with fail
   refine hck.mono ?_
   rintro e w3 ⟨rfl,hb3⟩
   have HB3:Hid (Below w.heap.size w w3):=onB HB2.out hb3
   have HN3:Hid (NdsT w3 A c L):=HN2.out.later hb3
   clear hb3 hck
   go_wp2_with fail
   go_returns
   exact ⟨⟨A,c,by rw [HL.out,HLn.out,HF.out];rfl,by rw [HL.out];exact HN3.out⟩,HB3.out⟩
  ·have HL:Hid (prsL s=[]):=by show _=_;rw [HLd.out,HE.out,if_neg h0]
   rw [errV_some h0] at hck
   have HF:Hid (errV (formErr L)=.iface 77 (.int .i64 (formErr L))):=errV_some h0
   clear h0
   go_wp2_with fail
   refine hck.mono ?_
   rintro e w3 ⟨rfl,hb3⟩
   have HB3:Hid (Below w.heap.size w w3):=onB HB2.out hb3
   clear hb3 hck
   go_wp2_with fail
   go_returns
   exact ⟨⟨none,0,by rw [HL.out,HLn.out,HF.out];rfl,by rw [HL.out];exact NdsT.nil _ _ _ (by omega)⟩,HB3.out⟩
set_option maxHeartbeats 4000000 in
theorem frefs_typ (A:Option Addr) (cap:Nat) (l:List Nd) (w:World) (hN:NdsV w A cap l):Calls Tryz.prog 141 #[.slice A l.length cap] w fun e w'=>(∃ A' c',e=.returned (.tuple #[.slice A' (refsP l).length c',errV (formErr l)])∧StrT w' A' c' (refsP l))∧Below w.heap.size w w':=by
 have hck:=fchk_any A cap l w hN
 obtain ⟨i0,hi0,hz0,hz1,hz2⟩:=info_parts Tryz.infoStrF
 by_cases h0:formErr l=0
 case neg =>
  have hP:refsP l=[]:=by unfold refsP;rw [if_neg h0]
  rw [hP]
  rw [errV_some h0] at hck ⊢
  clear h0 hP
  go_enter Tryz.func141,Tryz.ntmps141
  go_wp2_with fail
  refine hck.mono ?_
  rintro e w1 ⟨rfl,hb1⟩
  go_wp2_with fail
  go_returns
  exact ⟨⟨none,0,rfl,StrT.nil _ _ _ (by omega)⟩,hb1⟩
 obtain ⟨hl0,hl30,hg,-⟩:=form_right h0
 have hP:refsP l=Lib.compact ((nmsTo l l.length).mergeSort fun x y=>decide (x≤y)):=by unfold refsP;rw [if_pos h0]
 rw [h0,errV_zero] at hck ⊢
 obtain ⟨-,-,h1 | ⟨b,o,rfl,hN⟩⟩:=hN
 ·rw [h1] at hl0;simp at hl0
 have HG:Hid (∀ j,j<l.length→ndErr (l.getD j noN) j=0):=hg
 have HN:Hid (NdsAt w b o l):=hN
 have HP:Hid (refsP l=Lib.compact ((nmsTo l l.length).mergeSort fun x y=>decide (x≤y))):=hP
 obtain ⟨n,hn⟩:∃ n,l.length=n:=⟨_,rfl⟩
 have HL:Hid (l.length=n):=hn
 rw [hn] at hck ⊢
 have hni:(n:Int)≤30:=by omega
 clear h0 hP hg hN
 go_enter Tryz.func141,Tryz.ntmps141
 go_wp2_with fail
 refine hck.mono ?_
 rintro e w1 ⟨rfl,hb1⟩
 have HB1:Hid (Below w.heap.size w w1):=hb1
 clear hb1 hck
 go_wp2_with fail
 go_loopg [5,15] n (fun g s5 s15 wr => ∃ (k:Nat) (v:Value),k≤n∧g=n-k∧s15=.int .i64 k∧v=s5∧wr.ownsRow w.heap.size 9 1 v (nmsTo l k).length ((nmsTo l k).map encStr)∧Below w.heap.size w wr)
 case atStart=>exact ⟨0,_,Nat.zero_le _,rfl,rfl,rfl,World.ownsRow_nil _ _ _ _,HB1.out⟩
 case round =>
  obtain ⟨k,v,hk,rfl,rfl,rfl,hO,hBw⟩:=hrel
  have HO:Hid (wr.ownsRow w.heap.size 9 1 v (nmsTo l k).length ((nmsTo l k).map encStr)):=hO
  have HW:Hid (Below w.heap.size w wr):=hBw
  have hln:=nms_len l k
  clear hO hBw
  by_cases hlt:k<n
  ·have hki:(k:Int)<(n:Int):=by omega
   obtain ⟨x0,x1,x2,x3,x4⟩:=(HN.out.later HW.out).nd (k:=k) (by omega)
   have hbl:b<w.heap.size:=HN.out.1
   have hsz:=HW.out.size
   have hgk:=HG.out k (by omega)
   obtain ⟨x,hx⟩:∃ x,l.getD k noN=x:=⟨_,rfl⟩
   have HX:Hid (l.getD k noN=x):=hx
   rw [hx] at x0 x1 x2 x3 x4 hgk
   clear hx
   obtain ⟨m,hm⟩:∃ m,(nmsTo l k).length=m:=⟨_,rfl⟩
   by_cases h2:x.op=2
   ·have HT:Hid (nmsTo l (k+1)=nmsTo l k ++ [x.name.data.toList]):=nms_hit (by omega) HX.out h2
    have hnm:nameErr x.name=0:=by
     unfold ndErr at hgk
     rw [if_neg (by omega),if_neg (by omega),if_pos h2] at hgk
     split at hgk
     ·cases hgk
     ·rename_i h;simpa using h
    have hns:x.name.size≤8:=by
     unfold nameErr at hnm
     split at hnm
     ·cases hnm
     ·omega
    have hcl:=fun w=>sclone_any x.name w (by omega)
    rw [h2] at x0
    rw [hm] at HO
    clear hgk hnm
    go_wp2_with fail
    refine (hcl _).mono ?_
    rintro e w2 ⟨rfl,hb2⟩
    have HB2:Hid (Below w.heap.size w w2):=onB HW.out (onB (by go_grown) hb2)
    have hO2:=own_later HO.out (onB (by go_grown) hb2)
    have hsz2:=HB2.out.size
    clear hb2 hcl
    go_wp2_with (at_builtin;refine wpList_append_own _ rfl _ _ 113 rfl w.heap.size 9 i0 (.string ⟨#[]⟩) 1 16 Tryz.underlying113 hi0 hz0 hz1 hz2 rfl (by decide) _ _ _ rfl (hO2.alloc _) ⟨w2.heap.size,0,none⟩ 1 1 [.string x.name] rfl rfl one_cell (by intro u hu;simp at hu;subst hu;rfl) (by unfold maxLen;omega) (by omega) (by simp;omega) ?_)
    intro v' w3 hown' hgrow _
    have HB3:Hid (Below w.heap.size w w3):=grown_own HB2.out hO2 hgrow
    have HO3:Hid (w3.ownsRow w.heap.size 9 1 v' (nmsTo l (k+1)).length ((nmsTo l (k+1)).map encStr)):=by
     show World.ownsRow ..
     rw [HT.out,List.length_append,List.map_append,hm]
     exact hown'
    clear hown' hgrow hO2
    go_wp2_with fail
    go_roundg (n-(k+1))
    case measure=>omega
    case rel=>exact ⟨k+1,_,by omega,rfl,by go_num,rfl,HO3.out,HB3.out⟩
   ·have HT:Hid (nmsTo l (k+1)=nmsTo l k):=nms_miss (by omega) HX.out h2
    have e2:(x.op == 2)=false:=by simpa using h2
    clear hgk h2
    go_wp2_with fail
    go_roundg (n-(k+1))
    case measure=>omega
    case rel=>exact ⟨k+1,_,by omega,rfl,by go_num,rfl,by rw [HT.out];exact own_later HO.out (by go_grown),onB HW.out (by go_grown)⟩
  ·have hke:k=n:=by omega
   subst hke
   obtain ⟨zs,hzs⟩:∃ zs,nmsTo l k=zs:=⟨_,rfl⟩
   have HZ:Hid (refsP l=Lib.compact (zs.mergeSort fun x y=>decide (x≤y))):=by show _=_;rw [HP.out,HL.out,hzs]
   rw [hzs] at HO hln
   clear hzs
   by_cases hz:zs=[]
   ·subst hz
    have hv:v=.slice none 0 0∨∃ g c,v=.slice (some ⟨g,0,none⟩) 0 c∧c≤maxLen:=by
     rcases HO.out.2 with ⟨h,_⟩ | ⟨g,c,cur,h,_,_,_,hm,_⟩
     ·exact Or.inl h
     ·exact Or.inr ⟨g,c,h,hm⟩
    have HZ2:Hid (refsP l=[]):=by show _=_;rw [HZ.out,List.mergeSort_nil];rfl
    rcases hv with rfl | ⟨g,c,rfl,hcm⟩
    ·have hso:=Any.slices_Sort_string_none Tryz.lays190 none 0 wr
     have hco:=Any.slices_Compact_string_empty Tryz.lays194 none 0 wr
     clear HO
     go_wp2_with fail
     refine Calls.mono hso ?_
     rintro e w2 ⟨rfl,rfl⟩
     go_wp2_with fail
     refine Calls.mono hco ?_
     rintro e w3 ⟨rfl,rfl⟩
     go_wp2_with fail
     go_returns
     exact ⟨⟨none,0,by rw [HZ2.out];rfl,by rw [HZ2.out];exact StrT.nil _ _ _ (by omega)⟩,HW.out⟩
    ·have hso:=Any.slices_Sort_string_none Tryz.lays190 (some ⟨g,0,none⟩) c wr
     have hco:=Any.slices_Compact_string_empty Tryz.lays194 (some ⟨g,0,none⟩) c wr
     clear HO
     go_wp2_with fail
     refine Calls.mono hso ?_
     rintro e w2 ⟨rfl,rfl⟩
     go_wp2_with fail
     refine Calls.mono hco ?_
     rintro e w3 ⟨rfl,rfl⟩
     go_wp2_with fail
     go_returns
     exact ⟨⟨some ⟨g,0,none⟩,c,by rw [HZ2.out];rfl,by rw [HZ2.out];exact StrT.nil _ _ _ (by unfold maxLen at hcm;omega)⟩,HW.out⟩
   ·have hpos:0<zs.length:=List.length_pos_iff.2 hz
    obtain ⟨g,c,rfl,hgb,hgl,hnc,hcm,-,hH⟩:=Lib.holds_of_ownsRow HO.out (by intro e;have:=HO.out.2;rcases this with ⟨_,h⟩ | ⟨g,c,cur,h,_⟩;omega;rw [e] at h;cases h)
    have HTy:Hid (∃ cs fr,wr.heap[g]?=some (.cells cs 9 fr)):=by
     rcases HO.out.2 with ⟨h,-⟩ | ⟨g',c',cur,h,-,hg',-⟩
     ·cases h
     ·cases h;exact ⟨_,_,hg'⟩
    have hso:=Any.slices_Sort_string Tryz.lays190 g 0 c zs wr hH hgl (by omega)
    clear HO
    go_wp2_with fail
    refine Calls.mono hso ?_
    rintro e w2 ⟨rfl,q,os,hw2⟩
    obtain ⟨ys,hys⟩:∃ ys,(zs.mergeSort fun x y=>decide (x≤y))=ys:=⟨_,rfl⟩
    have hyl:ys.length=zs.length:=by rw [←hys];exact List.length_mergeSort zs
    rw [hys] at HZ hw2
    have HB2:Hid (Below w.heap.size w w2):=by rw [hw2];exact sorted_below HW.out hgb
    have hg2:g<w2.heap.size:=by rw [hw2];simp;omega
    have hH2:Holds encStr w2 g 0 ys.toArray:=by
     rw [hw2]
     exact Sort.holds_grow encStr _ _ _ _ _ (by simpa using hgl) (holds_putRow encStr (Sort.ahead wr q) g 0 zs.toArray _ hH (by simp [hyl]))
    have hco:=Any.slices_Compact_string Tryz.lays194 g 0 c ys w2 hH2 (by omega) (by omega)
    rw [hyl] at hco
    have HT2:Hid (∃ cs fr,w2.heap[g]?=some (.cells cs 9 fr)):=by
     obtain ⟨cs,fr,hty⟩:=HTy.out
     rw [hw2]
     exact grown_ty (put_ty (n:=q) hty)
    have HPk:Hid (∀ q2,StrsV (putRow encStr (Sort.ahead w2 q2) g 0 (Lib.compact ys ++ List.replicate (ys.length-(Lib.compact ys).length) []).toArray) (some ⟨g,0,none⟩) c (Lib.compact ys)):=fun q2=>packed_strs hH2 (by omega) hcm hg2
    rw [hyl] at HPk
    clear hw2 hys hso hH hH2
    go_wp2_with fail
    refine Calls.mono hco ?_
    rintro e w3 ⟨rfl,q2,hw3⟩
    have HB3:Hid (Below w.heap.size w w3):=by rw [hw3];exact packed_below HB2.out hgb
    have HS3:Hid (StrT w3 (some ⟨g,0,none⟩) c (Lib.compact ys)):=by
     rw [hw3]
     obtain ⟨cs,fr,hty⟩:=HT2.out
     obtain ⟨cs',fr',hty'⟩:=put_ty (n:=q2) hty
     exact ⟨HPk.out q2,Or.inr ⟨g,0,_,_,rfl,hty'⟩⟩
    clear hw3 hco HPk
    go_wp2_with fail
    go_returns
    exact ⟨⟨some ⟨g,0,none⟩,c,by rw [HZ.out];rfl,by rw [HZ.out];exact HS3.out⟩,HB3.out⟩
end Go.Proofs.YtaodedckffjpgafGreatDoor
