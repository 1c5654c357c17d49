/-
  What is written, by number, and all dims folded in an order: what Cells, eachOnce and All of package fold answer, called in whatever memory.
-/
import Derived.Test.YtmmpanbkmpdnkahGreatDoorJGAW
import Derived.Test.YtmmpanbkmpdnkahGreatDoorJGAX
namespace Go.Proofs.YtmmpanbkmpdnkahGreatDoor
open Go.ChangeShapes Go.WideShapes Go.ChangeAt Go.RowKit
set_option maxRecDepth 20000
def wrStep (D:Nat→Dm) (n:Nat) (L:List (Int×Int)) (e:En):List (Int×Int):=L.set (numI D e.pl n).toNat (1,e.n)
def wrV (D:Nat→Dm) (n:Nat) (l:List En):List (Int×Int):=l.foldl (wrStep D n) (List.replicate (prodN D n) (0,0))
theorem wrs_len (D:Nat→Dm) (n:Nat):∀ (l:List En) (L:List (Int×Int)),(l.foldl (wrStep D n) L).length=L.length
 | [],_=>rfl
 | e :: r,L=>by rw [List.foldl_cons,wrs_len D n r];unfold wrStep;rw [List.length_set]
theorem wrV_len (D:Nat→Dm) (n:Nat) (l:List En):(wrV D n l).length=prodN D n:=by unfold wrV;rw [wrs_len];simp
theorem take_wr (D:Nat→Dm) (n:Nat) (L:List (Int×Int)) (xs:List EnL) {k:Nat} (h:k<xs.length):((lE xs).take (k+1)).foldl (wrStep D n) L=wrStep D n (((lE xs).take k).foldl (wrStep D n) L) (xs.getD k noL).e:=by
 have hk:k<(lE xs).length:=by rw [lE_len];exact h
 rw [List.take_succ_eq_append_getElem hk,List.foldl_append]
 have e:(lE xs)[k]=(xs.getD k noL).e:=by rw [←lE_at,List.getD_eq_getElem?_getD,List.getElem?_eq_getElem hk];rfl
 rw [e]
 rfl
theorem goodC_num {x:Int} (h:numOk x=true):goodC (1,x):=by
 have hn : -1000000≤x∧x≤1000000:=by simpa [numOk] using h
 exact decide_eq_true (Or.inl ⟨rfl,by omega,by omega⟩)
theorem run_make_cells (n:Nat) (hn:n≤3000) (w:World):(Instr.makeSlice 53 (.int .i64 (n:Int)) (.int .i64 (n:Int))).run Tryz.prog w=.ok (.slice (some ⟨w.heap.size,0,none⟩) n n) (w.alloc (.cells (madeCells #[.int .i64 0,.int .i64 0] (n*2)) 40)):=by
 obtain ⟨i0,hi0,hz0,hz1,hz2⟩:=info_parts Tryz.infoCe
 have hr:=run_make (P:=Tryz.prog) w 53 40 i0 _ Tryz.underlying53 hi0 hz0 .i64 .i64 n n (by omega) (Int.le_refl _) (by rw [hz2];omega) (by omega)
 simp only [Int.toNat_natCast,hz1] at hr
 exact hr
theorem celB_made (w:World) (n:Nat):CelB (w.alloc (.cells (madeCells #[.int .i64 0,.int .i64 0] (n*2)) 40)) w.heap.size (List.replicate n (0,0)):=by
 refine ⟨_,heap_alloc_new w _,fun k hk=>?_⟩
 have hk':k<n:=by simpa using hk
 have e1:(List.replicate n ((0:Int),(0:Int))).getD k noC=(0,0):=by simp [List.getD,hk']
 rw [e1]
 constructor
 ·simp [madeCells,show k*2<n*2 by omega]
 ·simp [madeCells,show k*2+1<n*2 by omega,show (k*2+1) % 2=1 by omega]
def fcL (D:Nat→Dm) (n:Nat) (l:List En):List (Int×Int):=if entsErr D n l=0 then wrV D n l else []
theorem fc_ok {D:Nat→Dm} {n:Nat} {l:List En} (h:entsErr D n l=0):fcL D n l=wrV D n l:=by unfold fcL;rw [if_pos h]
theorem fc_bad {D:Nat→Dm} {n:Nat} {l:List En} (h:entsErr D n l≠0):fcL D n l=[]:=by unfold fcL;rw [if_neg h]
set_option maxHeartbeats 8000000 in
theorem fcells_any (A0:Option Addr) (cap n:Nat) (D:Nat→Dm) (A:Nat→Option Addr) (C:Nat→Nat) (AE:Option Addr) (ce:Nat) (xs:List EnL) (w:World) (hM:DimsV w A0 cap n D A C) (hE:EnsV w AE ce xs) :
  Calls Tryz.prog 62 #[.agg #[.slice A0 n cap],.slice AE xs.length ce] w fun e w'=>(∃ A' c',e=.returned (.tuple #[.slice A' (fcL D n (lE xs)).length c',errV (entsErr D n (lE xs))])∧CelV w' A' c' (fcL D n (lE xs)))∧Below w.heap.size w w':=by
 have hB0:=ownOut_below w A0 n cap 30
 have h:=icheck_any A0 cap n D A C AE ce xs (ownOut w A0 n cap 30) (hM.later hB0) (hE.later hB0)
 have HB0:Hid (Below w.heap.size w (ownOut w A0 n cap 30)):=hB0
 have HM:Hid (DimsV w A0 cap n D A C):=hM
 have HE:Hid (EnsV w AE ce xs):=hE
 clear hM hE hB0
 by_cases he:entsErr D n (lE xs)=0
 ·have hEs:=ens_of he
  have HEs:Hid (Ens D n (lE xs)):=hEs
  have hfew:xs.length≤3000:=by have:=hEs.few;rw [lE_len] at this;exact this
  have hR:=hEs.right
  have HR:Hid ((allErr D n).2.2=0):=hR
  obtain ⟨hn1,hn4,hp3,hd⟩:=allErr_some hR
  have HF:Hid (fcL D n (lE xs)=wrV D n (lE xs)∧errV (entsErr D n (lE xs))=.nilIface):=⟨fc_ok he,by rw [he];rfl⟩
  rw [he,errV_zero] at h
  have HBo:Hid (w.heap.size<(ownOut w A0 n cap 30).heap.size∧(ownOut w A0 n cap 30).cell? ⟨w.heap.size,0,none⟩=some (.slice A0 n cap)):=⟨by rw [ownOut_size];omega,ownOut_at ..⟩
  obtain ⟨N,hN⟩:∃ N,xs.length=N:=⟨_,rfl⟩
  have HN:Hid (xs.length=N):=hN
  rw [hN] at h hfew ⊢
  have hN':(N:Int)≤3000:=by omega
  obtain ⟨PN,hPN⟩:∃ PN,prodN D n=PN:=⟨_,rfl⟩
  have HPN:Hid (prodN D n=PN):=hPN
  rw [hPN] at hp3
  have hmk:=run_make_cells PN hp3
  have hPN':(PN:Int)≤3000:=by omega
  have HWE:Hid (((lE xs).take N).foldl (wrStep D n) (List.replicate PN (0,0))=wrV D n (lE xs)):=by show _=_;rw [List.take_of_length_le (by rw [lE_len,hN];exact Nat.le_refl _),←hPN];rfl
  clear he hEs hR hd hN hPN
  go_enter Tryz.func62,Tryz.ntmps62
  go_wp2_with fail
  refine h.mono ?_
  rintro e w1 ⟨rfl,hb1⟩
  have hB:Below w.heap.size w w1:=onB HB0.out hb1
  have HB:Hid (Below w.heap.size w w1):=hB
  have HBox:Hid (BoxN w1 w.heap.size (.slice A0 n cap)):=⟨Nat.lt_of_lt_of_le HBo.out.1 hb1.size,(hb1.cell (p:=⟨w.heap.size,0,none⟩) HBo.out.1).trans HBo.out.2⟩
  have c1:=HBox.out.2
  have hpc:=pcells_any A0 cap n D A C w1 (HM.out.later hB)
  have hcv:cellsV D n=(PN:Int):=by unfold cellsV;rw [if_pos HR.out,HPN.out]
  rw [HR.out,errV_zero,hcv] at hpc
  clear hb1 h hB hcv
  go_wp2_with fail
  refine hpc.mono ?_
  rintro e w2 ⟨rfl,hb2⟩
  have HB2:Hid (Below w.heap.size w w2):=onB HB.out hb2
  have HBox2:Hid (BoxN w2 w.heap.size (.slice A0 n cap)):=HBox.out.later hb2
  obtain ⟨v2,hv2⟩:∃ v,w2.alloc (.cells (madeCells #[.int .i64 0,.int .i64 0] (PN*2)) 40)=v:=⟨_,rfl⟩
  have hBv:Below w2.heap.size w2 v2:=by rw [←hv2];go_grown
  have HBv:Hid (Below w2.heap.size w2 v2):=hBv
  have HCv:Hid (CelB v2 w2.heap.size (List.replicate PN (0,0))):=by rw [←hv2];exact celB_made w2 PN
  have HBoxv:Hid (BoxN v2 w.heap.size (.slice A0 n cap)):=HBox2.out.later hBv
  have hwz:w.heap.size<w2.heap.size:=HBox2.out.1
  clear hpc hb2 c1 hBv
  go_wp2_with fail
  clear hmk hv2
  go_loopg [32] N (fun gg s32 wr => ∃ (k:Nat),k≤N∧gg=N-k∧s32=.int .i64 k∧Hid (CelB wr w2.heap.size (((lE xs).take k).foldl (wrStep D n) (List.replicate PN (0,0))))∧Hid (v2.grownBy wr (some w2.heap.size)))
  case atStart=>exact ⟨0,Nat.zero_le _,rfl,rfl,HCv,grown_refl v2 _⟩
  case round =>
   obtain ⟨k,hk,rfl,rfl,HC,HG⟩:=hrel
   have hB2r:Below w2.heap.size w2 wr:=HBv.out.grown HG.out HBv.out.size (fun j hj=>by cases hj;exact Nat.le_refl _)
   have HB2r:Hid (Below w2.heap.size w2 wr):=hB2r
   have HBr:Hid (Below w.heap.size w wr):=onB HB2.out hB2r
   by_cases hlt:k<N
   ·have hkx:k<xs.length:=by rw [HN.out];exact hlt
    have hki:(k:Int)<(N:Int):=by omega
    obtain ⟨-,-,h0 | ⟨bb,oo,rfl,hA⟩⟩:=HE.out.later HBr.out
    ·have:=HN.out;rw [h0] at this;simp at this;omega
    obtain ⟨c1,c2⟩:=hA.at hkx
    have hmem:(xs.getD k noL).e∈lE xs:=List.mem_map.2 ⟨_,enl_mem hkx,rfl⟩
    obtain ⟨hqI,-,hnum⟩:=HEs.out.each _ hmem
    have hnn : -1000000≤(xs.getD k noL).e.n∧(xs.getD k noL).e.n≤1000000:=by simpa [numOk] using hnum
    obtain ⟨hq1,hq2,-⟩:=numI_bound hqI (Nat.le_refl n)
    have hpl:=hA.pl hkx
    have HWr:=take_wr D n (List.replicate PN (0,0)) xs hkx
    unfold wrStep at HWr
    obtain ⟨X,hX⟩:∃ X:Nat,numI D (xs.getD k noL).e.pl n=X:=⟨(numI D (xs.getD k noL).e.pl n).toNat,by omega⟩
    have hnv:numV D n (xs.getD k noL).e.pl=(X:Int):=by unfold numV;rw [if_pos hqI.ok,hX]
    have hXN:X<PN:=by have:=HPN.out;omega
    have hNum:∀ w',Below wr.heap.size wr w'→_:=fun w' hw'=>pnumber_any A0 cap n D A C (xs.getD k noL).A (xs.getD k noL).c (xs.getD k noL).e.pl w' (HM.out.later (onB HBr.out hw')) (hpl.later hw')
    rw [hnv,hqI.ok,errV_zero] at hNum
    have HNum:Hid (∀ w',Below wr.heap.size wr w'→_):=hNum
    have hof:=fun w'=>of_any (xs.getD k noL).e.n w'
    rw [ofP_in (by omega) (by omega)] at hof
    rw [hX,show ((X:Int)).toNat=X by omega] at HWr
    have HWR:Hid _:=HWr
    obtain ⟨LL,hLL⟩:∃ LL,((lE xs).take k).foldl (wrStep D n) (List.replicate PN (0,0))=LL:=⟨_,rfl⟩
    have hLLn:LL.length=PN:=by rw [←hLL,wrs_len];simp
    have HCL:Hid (CelB wr w2.heap.size LL):=by rw [←hLL];exact HC.out
    have HNx:Hid (((lE xs).take (k+1)).foldl (wrStep D n) (List.replicate PN (0,0))=LL.set X (1,(xs.getD k noL).e.n)):=by
     show _=_
     rw [←hLL]
     exact HWR.out
    have HBxr:Hid (BoxN wr w.heap.size (.slice A0 n cap)):=boxn_other HBoxv.out (by omega) HG.out
    have hXL:X<LL.length:=by omega
    have HXL:Hid (X<LL.length):=hXL
    generalize (xs.getD k noL).A=A1 at c1 HNum
    generalize (xs.getD k noL).c=k1 at c1 HNum
    generalize (xs.getD k noL).e.n=num at c2 hnn hof HNx
    generalize (xs.getD k noL).e.pl.length=m1 at c1 HNum
    have hcr:=HBxr.out.2
    have hXi:(X:Int)<(PN:Int):=by omega
    obtain ⟨y,hy⟩:∃ y,wr.alloc (.cells #[.slice A1 m1 k1,.int .i64 num] 69)=y:=⟨_,rfl⟩
    have hBy:Below wr.heap.size wr y:=by rw [←hy];go_grown
    have HBy:Hid (Below wr.heap.size wr y):=hBy
    have HPy:Hid (y.heap[wr.heap.size]?=some (.cells #[.slice A1 m1 k1,.int .i64 num] 69 (0,0))):=by show _=_;rw [←hy];exact heap_alloc_new ..
    obtain ⟨p0,p1,-,-⟩:=pair_at HPy.out
    have hyo:=(HBxr.out.later hBy).2
    clear hB2r hA hmem hqI hnum hpl HWr hNum hnv hLL hLLn hX hq1 hq2 hBy hXL HWR
    go_wp2_with fail
    refine (HNum.out _ HBy.out).mono ?_
    rintro e w5 ⟨rfl,hb5⟩
    have HB5:Hid (Below y.heap.size y w5):=hb5
    have hwr:wr.heap.size<y.heap.size:=(Array.getElem?_eq_some_iff.1 HPy.out).1
    have hP5:w5.heap[wr.heap.size]?=some (.cells #[.slice A1 m1 k1,.int .i64 num] 69 (0,0)):=(hb5.block _ hwr).trans HPy.out
    obtain ⟨-,s1,-,-⟩:=pair_at hP5
    clear hb5 hP5 p0 p1 hyo
    go_wp2_with fail
    refine (hof _).mono ?_
    rintro e w6 ⟨rfl,hb6⟩
    have hB6:Below wr.heap.size wr w6:=onB (onB HBy.out HB5.out) hb6
    have HC6:Hid (CelB w6 w2.heap.size LL):=HCL.out.later hB6
    obtain ⟨g1,g2⟩:=HC6.out.at HXL.out
    have g3:=HC6.out.frozen (X*2)
    have g4:=HC6.out.frozen (X*2+1)
    have HC7:Hid (CelB ((w6.setCell ⟨w2.heap.size,X*2,none⟩ (.int .i64 1)).setCell ⟨w2.heap.size,X*2+1,none⟩ (.int .i64 num)) w2.heap.size (((lE xs).take (k+1)).foldl (wrStep D n) (List.replicate PN (0,0)))):=by show CelB _ _ _;rw [HNx.out];exact HC6.out.set HXL.out 1 num
    have HG7:Hid (v2.grownBy ((w6.setCell ⟨w2.heap.size,X*2,none⟩ (.int .i64 1)).setCell ⟨w2.heap.size,X*2+1,none⟩ (.int .i64 num)) (some w2.heap.size)):=cel_grown (grown_then HG.out hB6)
    clear hb6 hB6 hof s1
    go_wp2_with fail
    go_roundg (N-(k+1))
    case measure=>omega
    case rel=>exact ⟨k+1,by omega,rfl,by go_num,HC7,HG7⟩
   ·have hke:k=N:=by omega
    subst hke
    have HV:Hid (CelB wr w2.heap.size (wrV D n (lE xs))):=by rw [←HWE.out];exact HC.out
    have HVL:Hid ((wrV D n (lE xs)).length=PN):=by show _=_;rw [wrV_len];exact HPN.out
    clear hB2r
    go_wp2_with fail
    go_ret2
    rw [HF.out.1,HF.out.2,HVL.out]
    exact ⟨⟨_,PN,rfl,by rw [HVL.out];exact Nat.le_refl _,by omega,Or.inr ⟨_,0,rfl,HV.out.celAt⟩⟩,HBr.out⟩
 ·have HF:Hid (fcL D n (lE xs)=[]):=fc_bad he
  have HEr:Hid (errV (entsErr D n (lE xs))=.iface 104 (.int .i64 (entsErr D n (lE xs)))):=errV_some he
  rw [errV_some he] at h
  clear he
  generalize entsErr D n (lE xs)=ee at h HEr
  generalize xs.length=N at h
  go_enter Tryz.func62,Tryz.ntmps62
  go_wp2_with fail
  refine h.mono ?_
  rintro e w1 ⟨rfl,hb1⟩
  have HB:Hid (Below w.heap.size w w1):=onB HB0.out hb1
  clear hb1 h
  go_wp2_with fail
  go_ret2
  rw [HF.out,HEr.out]
  exact ⟨⟨none,0,rfl,CelV.nil _ _ _ (by decide)⟩,HB.out⟩
end Go.Proofs.YtmmpanbkmpdnkahGreatDoor
namespace Go.Proofs.YtmmpanbkmpdnkahGreatDoor
def valG (E:ByteArray→Int×Int):Tre→Int×Int
 | .num n=>ofP n
 | .ref s=>E s
 | .bin o a b=>opP o (valG E a) (valG E b)
theorem valG_names (N:List ByteArray) (C:List (Int×Int)) (E:ByteArray→Int×Int):∀ t:Tre,(∀ s∈refsT t,refC N C s=E s)→valT N C t=valG E t
 | .num _,_=>rfl
 | .ref s,h=>h s (by simp [refsT])
 | .bin o a b,h=>by
  rw [valT,valG,valG_names N C E a fun s hs=>h s (by simp [refsT,hs]),valG_names N C E b fun s hs=>h s (by simp [refsT,hs])]
theorem valG_same (E F:ByteArray→Int×Int):∀ t:Tre,(∀ s∈refsT t,E s=F s)→valG E t=valG F t
 | .num _,_=>rfl
 | .ref s,h=>h s (by simp [refsT])
 | .bin o a b,h=>by
  rw [valG,valG,valG_same E F a fun s hs=>h s (by simp [refsT,hs]),valG_same E F b fun s hs=>h s (by simp [refsT,hs])]
def treF (d:Dm) (i:Nat):Tre:=treeOf (prsL (d.mem i).formula) ((prsL (d.mem i).formula).length-1)
def oneV (d:Dm) (at':Int→Int×Int) (i:Nat):Int×Int:=if (d.mem i).formula.size=0 then (partsOf d.mem d.n i).foldl (partStep d.mem at') (0,0) else valG (fun s=>at' (whL d s.data.toList)) (treF d i)
theorem tre_names {d:Dm} {i:Nat} (hp:prsE (d.mem i).formula=0) {s:ByteArray} (hs:s∈refsT (treF d i)):s.data.toList∈nmsOf d i:=by
 unfold treF at hs
 obtain ⟨j,hj,h2,h3⟩:=(refs_mem (form_read hp) s).1 hs
 rw [←h3]
 refine nms_has ?_ h2
 rw [List.getD_eq_getElem?_getD,List.getElem?_eq_getElem hj]
 exact List.getElem_mem hj
theorem mErr_prsE {d:Dm} {i:Nat} (hf:(d.mem i).formula.size≠0) (h:mErr d i=0):prsE (d.mem i).formula=0:=by
 unfold mErr at h
 rw [if_neg hf] at h
 split at h
 ·rename_i h1;exact absurd h h1
 ·rename_i h1;simpa using h1
theorem oneV_same {d:Dm} (hd:(dimErr d).2=0) {i:Nat} (hm:mErr d i=0) {a b:Int→Int×Int} (h:∀ x∈mNd d i,a x=b x):oneV d a i=oneV d b i:=by
 unfold oneV
 by_cases hf:(d.mem i).formula.size=0
 ·rw [if_pos hf,if_pos hf]
  have hall:∀ (P:List Int) (c:Int×Int),(∀ x∈P,x∈partsOf d.mem d.n i)→P.foldl (partStep d.mem a) c=P.foldl (partStep d.mem b) c:=by
   intro P
   induction P with
   | nil=>intro c _;rfl
   | cons x r ih =>
    intro c hP
    have hx:=hP x (by simp)
    rw [List.foldl_cons,List.foldl_cons]
    have e:partStep d.mem a c x=partStep d.mem b c x:=by
     unfold partStep
     by_cases hs:(d.mem x.toNat).sign=0
     ·rw [if_neg (by omega),if_neg (by omega),if_neg (by omega),if_neg (by omega)]
     ·have hn:x∈mNd d i:=by
       rw [←parts_need hf,List.mem_filter]
       exact ⟨hx,by unfold sgB;exact decide_eq_true hs⟩
      rw [h x hn]
    rw [e]
    exact ih _ fun y hy=>hP y (List.mem_cons_of_mem _ hy)
  exact hall _ _ fun x hx=>hx
 ·rw [if_neg hf,if_neg hf]
  refine valG_same _ _ _ fun s hs=>h _ ?_
  exact (need_names hd hf hm _).2 ⟨_,tre_names (mErr_prsE hf hm) hs,rfl⟩
def byTo (D:Nat→Dm) (p:List Int):Nat→Int
 | 0 => -1
 | k+1=>if leafB (D k).mem (D k).n (p.getD k 0).toNat=false∧(byTo D p k<0∨(D (byTo D p k).toNat).solve<(D k).solve) then (k:Int) else byTo D p k
theorem by_in (D:Nat→Dm) (p:List Int) (k:Nat):byTo D p k = -1∨∃ b:Nat,byTo D p k=(b:Int)∧b<k:=by
 induction k with
 | zero=>exact Or.inl rfl
 | succ k ih =>
  unfold byTo
  split
  ·exact Or.inr ⟨k,rfl,by omega⟩
  ·rcases ih with h | ⟨b,h1,h2⟩
   ·exact Or.inl h
   ·exact Or.inr ⟨b,h1,by omega⟩
def rkD (d:Dm) (i:Int):Nat:=(ordTo (ndL d) d.n).idxOf i
theorem ord_all {d:Dm} (h:(rErr d).2=0) {i:Nat} (hi:i<d.n):(i:Int)∈ordTo (ndL d) d.n:=by
 refine Classical.byContradiction fun hn=>?_
 obtain ⟨h1,h2⟩:=ord_in (ndL d) d.n
 rw [ndL_len] at h2
 have:=few d.n ((i:Int) :: ordTo (ndL d) d.n) (List.nodup_cons.2 ⟨hn,h1⟩) fun x hx=>by
  rcases List.mem_cons.1 hx with rfl | hx
  ·omega
  ·exact h2 x hx
 rw [List.length_cons,ord_len (ndL_inn d) (rErr_acyc h) d.n (by rw [ndL_len];exact Nat.le_refl _)] at this
 omega
theorem rk_less {d:Dm} (h:(rErr d).2=0) {i:Nat} (hi:i<d.n) {x:Int} (hx:x∈mNd d i):rkD d x<rkD d i:=by
 obtain ⟨k,hk,e⟩:=List.getElem_of_mem (ord_all h hi)
 have hl:=ord_len (ndL_inn d) (rErr_acyc h) d.n (by rw [ndL_len];exact Nat.le_refl _)
 have hk2:k<(ndL d).length:=by rw [ndL_len];omega
 obtain ⟨m,h1,h2,h3,h4,-⟩:=ord_at (ndL_inn d) (rErr_acyc h) hk2
 rw [ndL_len] at h1 h3 h4
 have hm:m=i:=by
  rw [List.getD_eq_getElem?_getD,List.getElem?_eq_getElem hk,e] at h1
  have:(i:Int)=(m:Int):=by simpa using h1
  omega
 subst hm
 rw [ndL_at hi] at h4
 have hx2:=h4 x hx
 unfold rkD
 have hsp:ordTo (ndL d) d.n=(ordTo (ndL d) d.n).take k ++ (ordTo (ndL d) d.n).drop k:=(List.take_append_drop _ _).symm
 have hkl:((ordTo (ndL d) d.n).take k).length=k:=by rw [List.length_take];omega
 have a1:(ordTo (ndL d) d.n).idxOf x<k:=by
  rw [hsp,List.idxOf_append,if_pos hx2]
  have:=List.idxOf_lt_length_of_mem hx2
  omega
 have a2:k≤(ordTo (ndL d) d.n).idxOf (m:Int):=by
  rw [hsp,List.idxOf_append,if_neg h3]
  omega
 omega
def msrTo (D:Nat→Dm) (p:List Int):Nat→Nat
 | 0=>0
 | k+1=>msrTo D p k+rkD (D k) (p.getD k 0)
theorem getD_set_at {p:List Int} {b:Nat} {x:Int} (h:b<p.length):(p.set b x).getD b 0=x:=by
 simp [List.getD,h]
theorem getD_set_off {p:List Int} {b k:Nat} {x:Int} (h:k≠b):(p.set b x).getD k 0=p.getD k 0:=by
 simp [List.getD,List.getElem?_set_ne (fun e=>h e.symm)]
theorem msr_less {D:Nat→Dm} {p:List Int} {b:Nat} {x:Int} (hb:b<p.length) (hr:rkD (D b) x<rkD (D b) (p.getD b 0)) (k:Nat):(k≤b→msrTo D (p.set b x) k=msrTo D p k)∧(b<k→msrTo D (p.set b x) k<msrTo D p k):=by
 induction k with
 | zero=>exact ⟨fun _=>rfl,fun h=>by omega⟩
 | succ k ih =>
  refine ⟨fun h=>?_,fun h=>?_⟩
  ·rw [msrTo,msrTo,ih.1 (by omega),getD_set_off (by omega)]
  ·rw [msrTo,msrTo]
   by_cases e:k=b
   ·subst e
    rw [ih.1 (Nat.le_refl _),getD_set_at hb]
    omega
   ·have:=ih.2 (by omega)
    rw [getD_set_off e]
    omega
def solF (D:Nat→Dm) (n:Nat) (inp:List Int→Int×Int):Nat→List Int→Int×Int
 | 0,_=>(0,0)
 | f+1,p=>if byTo D p n<0 then inp p else oneV (D (byTo D p n).toNat) (fun x=>solF D n inp f (p.set (byTo D p n).toNat x)) (p.getD (byTo D p n).toNat 0).toNat
def AllR (D:Nat→Dm) (n:Nat):Prop := ∀ i,i<n→(rErr (D i)).2=0
theorem inO_set {D:Nat→Dm} {n:Nat} {p:List Int} (h:InO D n p) {b:Nat} (hb:b<n) {x:Int} (h0:0≤x) (h1:x<((D b).n:Int)):InO D n (p.set b x):=by
 refine ⟨h.right,by rw [List.length_set];exact h.len,fun i hi=>?_,fun i hi=>?_⟩
 ·by_cases e:i=b
  ·subst e
   rw [getD_set_at (by rw [h.len];exact hb)]
   exact h0
  ·rw [getD_set_off e]
   exact h.lo i hi
 ·by_cases e:i=b
  ·subst e
   rw [getD_set_at (by rw [h.len];exact hb)]
   exact h1
  ·rw [getD_set_off e]
   exact h.hi i hi
theorem sol_same {D:Nat→Dm} {n:Nat} (hR:AllR D n) (inp:List Int→Int×Int):∀ (f g:Nat) (p:List Int),InO D n p→msrTo D p n<f→msrTo D p n<g→solF D n inp f p=solF D n inp g p:=by
 intro f
 induction f with
 | zero=>intro g p _ h;omega
 | succ f ih =>
  intro g p hp hf hg
  obtain ⟨g,rfl⟩:∃ g',g=g'+1:=⟨g-1,by omega⟩
  unfold solF
  rcases by_in D p n with h | ⟨b,h1,h2⟩
  ·rw [h,if_pos (by omega),if_pos (by omega)]
  ·rw [h1,if_neg (by omega),if_neg (by omega),Int.toNat_natCast]
   obtain ⟨hd,hm,-,-⟩:=rErr_right (hR b h2)
   obtain ⟨hp0,hp1⟩:0≤p.getD b 0∧p.getD b 0<((D b).n:Int):=⟨hp.lo b h2,hp.hi b h2⟩
   refine oneV_same hd (hm _ (by omega)) fun x hx=>?_
   have hxi:=mNd_in hx
   have hi2:(p.getD b 0).toNat<(D b).n:=by omega
   have hrk:=rk_less (hR b h2) hi2 hx
   rw [Int.toNat_of_nonneg hp0] at hrk
   have hms:=(msr_less (by rw [hp.len];exact h2) hrk n).2 h2
   exact ih g _ (inO_set hp h2 hxi.1 hxi.2) (by omega) (by omega)
def solV (D:Nat→Dm) (n:Nat) (inp:List Int→Int×Int) (p:List Int):Int×Int:=solF D n inp (msrTo D p n+1) p
theorem sol_leaf {D:Nat→Dm} {n:Nat} (inp:List Int→Int×Int) {p:List Int} (h:byTo D p n<0):solV D n inp p=inp p:=by
 unfold solV solF
 rw [if_pos h]
theorem sol_by {D:Nat→Dm} {n:Nat} (hR:AllR D n) (inp:List Int→Int×Int) {p:List Int} (hp:InO D n p) {b:Nat} (hb:byTo D p n=(b:Int)):solV D n inp p=oneV (D b) (fun x=>solV D n inp (p.set b x)) (p.getD b 0).toNat:=by
 have h2:b<n:=by
  rcases by_in D p n with h | ⟨b',h1,h2⟩
  ·omega
  ·omega
 show solF D n inp (msrTo D p n+1) p=_
 unfold solF
 rw [hb,if_neg (by omega),Int.toNat_natCast]
 obtain ⟨hd,hm,-,-⟩:=rErr_right (hR b h2)
 obtain ⟨hp0,hp1⟩:0≤p.getD b 0∧p.getD b 0<((D b).n:Int):=⟨hp.lo b h2,hp.hi b h2⟩
 refine oneV_same hd (hm _ (by omega)) fun x hx=>?_
 have hxi:=mNd_in hx
 have hi2:(p.getD b 0).toNat<(D b).n:=by omega
 have hrk:=rk_less (hR b h2) hi2 hx
 rw [Int.toNat_of_nonneg hp0] at hrk
 have hms:=(msr_less (by rw [hp.len];exact h2) hrk n).2 h2
 exact sol_same hR inp _ _ _ (inO_set hp h2 hxi.1 hxi.2) (by omega) (by omega)
end Go.Proofs.YtmmpanbkmpdnkahGreatDoor
