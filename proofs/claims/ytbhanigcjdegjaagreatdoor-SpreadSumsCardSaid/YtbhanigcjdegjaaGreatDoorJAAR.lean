/-
  Cells in a row, in memory: a slice of them, a block of a call's own that holds them.
-/
import Derived.Laws.OwnMore
import Derived.Test.YtbhanigcjdegjaaGreatDoorJAAQ
namespace Go.Proofs.YtbhanigcjdegjaaGreatDoor
open Go.ChangeShapes Go.WideShapes Go.ChangeAt Go.RowKit
set_option maxRecDepth 20000
def noC:Int×Int:=(0,0)
def CelAt (w:World) (b o:Nat) (L:List (Int×Int)):Prop:=b<w.heap.size∧∀ k,k<L.length→w.cell? ⟨b,o+k*2,none⟩=some (.int .i64 (L.getD k noC).1)∧w.cell? ⟨b,o+k*2+1,none⟩=some (.int .i64 (L.getD k noC).2)
theorem CelAt.later {w w':World} {b o:Nat} {L:List (Int×Int)} (h:CelAt w b o L) (hB:Below w.heap.size w w'):CelAt w' b o L :=
 ⟨Nat.lt_of_lt_of_le h.1 hB.size,fun k hk=>⟨(hB.cell (p:=⟨b,o+k*2,none⟩) h.1).trans (h.2 k hk).1,(hB.cell (p:=⟨b,o+k*2+1,none⟩) h.1).trans (h.2 k hk).2⟩⟩
def CelV (w:World) (A:Option Addr) (cap:Nat) (L:List (Int×Int)):Prop:=L.length≤cap∧cap≤9223372036854775807∧(L=[]∨∃ b o,A=some ⟨b,o,none⟩∧CelAt w b o L)
theorem CelV.later {w w':World} {A:Option Addr} {cap:Nat} {L:List (Int×Int)} (h:CelV w A cap L) (hB:Below w.heap.size w w'):CelV w' A cap L:=by
 obtain ⟨h1,h0,h2 | ⟨b,o,h2,h3⟩⟩:=h
 ·exact ⟨h1,h0,Or.inl h2⟩
 ·exact ⟨h1,h0,Or.inr ⟨b,o,h2,h3.later hB⟩⟩
theorem CelV.nil (w:World) (A:Option Addr) (cap:Nat) (h:cap≤9223372036854775807):CelV w A cap []:=⟨Nat.zero_le _,h,Or.inl rfl⟩
def CelB (w:World) (g:Nat) (L:List (Int×Int)):Prop := ∃ cur:Array Value,w.heap[g]?=some (.cells cur 39 (0,0))∧∀ k,k<L.length→cur[k*2]?=some (.int .i64 (L.getD k noC).1)∧cur[k*2+1]?=some (.int .i64 (L.getD k noC).2)
section
variable {w w':World} {g:Nat} {L:List (Int×Int)}
theorem CelB.lt (h:CelB w g L):g<w.heap.size:=by
 obtain ⟨cur,h1,_⟩:=h
 exact (Array.getElem?_eq_some_iff.1 h1).1
theorem CelB.same (h:CelB w g L) (hb:w'.heap[g]?=w.heap[g]?):CelB w' g L:=by
 obtain ⟨cur,h1,h2⟩:=h
 exact ⟨cur,hb.trans h1,h2⟩
theorem CelB.later (h:CelB w g L) (hB:Below w.heap.size w w'):CelB w' g L:=h.same (hB.block g h.lt)
theorem CelB.at (h:CelB w g L) {k:Nat} (hk:k<L.length):w.cell? ⟨g,k*2,none⟩=some (.int .i64 (L.getD k noC).1)∧w.cell? ⟨g,k*2+1,none⟩=some (.int .i64 (L.getD k noC).2):=by
 obtain ⟨cur,h1,h2⟩:=h
 obtain ⟨h3,h4⟩:=h2 k hk
 exact ⟨by simp [World.cell?,h1,h3],by simp [World.cell?,h1,h4]⟩
theorem CelB.frozen (h:CelB w g L) (j:Nat):w.frozen? ⟨g,j,none⟩=false:=by
 obtain ⟨cur,h1,_⟩:=h
 exact Lib.frozen_of_heap h1 j
theorem CelB.celAt (h:CelB w g L):CelAt w g 0 L:=⟨h.lt,fun k hk=>by rw [Nat.zero_add];exact h.at hk⟩
theorem CelB.set (h:CelB w g L) {x:Nat} (hx:x<L.length) (a b:Int):CelB ((w.setCell ⟨g,x*2,none⟩ (.int .i64 a)).setCell ⟨g,x*2+1,none⟩ (.int .i64 b)) g (L.set x (a,b)):=by
 obtain ⟨cur,h1,h2⟩:=h
 refine ⟨(cur.setIfInBounds (x*2) (.int .i64 a)).setIfInBounds (x*2+1) (.int .i64 b),by simp [World.setCell,Array.getElem?_modify,h1],fun k hk=>?_⟩
 rw [List.length_set] at hk
 obtain ⟨h3,h4⟩:=h2 k hk
 obtain ⟨h5,h6⟩:=h2 x hx
 have z0:=(Array.getElem?_eq_some_iff.1 h5).1
 have z1:=(Array.getElem?_eq_some_iff.1 h6).1
 by_cases e:k=x
 ·subst e
  constructor
  ·rw [Array.getElem?_setIfInBounds_ne (by omega),Array.getElem?_setIfInBounds_self_of_lt z0]
   simp [List.getD,hk]
  ·rw [Array.getElem?_setIfInBounds_self_of_lt (by simpa using z1)]
   simp [List.getD,hk]
 ·have e1:(L.set x (a,b)).getD k noC=L.getD k noC:=by simp [List.getD,List.getElem?_set_ne (fun h=>e h.symm)]
  rw [e1]
  constructor
  ·rw [Array.getElem?_setIfInBounds_ne (by omega),Array.getElem?_setIfInBounds_ne (by omega)];exact h3
  ·rw [Array.getElem?_setIfInBounds_ne (by omega),Array.getElem?_setIfInBounds_ne (by omega)];exact h4
end
theorem Tryz.infoCe:(Tryz.prog.info? 39).map (fun i=>(i.zero,i.size,i.bytes))=some (some (.agg #[.int .i64 0,.int .i64 0]),2,16):=by kernel_rfl
theorem grown_then {w w1 w2:World} {r:Option Nat} (h:w.grownBy w1 r) (k:Below w1.heap.size w1 w2):w.grownBy w2 r :=
 ⟨k.os.trans h.os,k.tape.trans h.tape,k.output.trans h.output,Nat.le_trans h.size k.size,fun i hi hr=>(k.block i (Nat.lt_of_lt_of_le hi h.size)).trans (h.block i hi hr)⟩
theorem pair_at {w:World} {q:Nat} {x y:Value} {T:Nat} (h:w.heap[q]?=some (.cells #[x,y] T)):w.cell? ⟨q,0,none⟩=some x∧w.cell? ⟨q,1,none⟩=some y∧w.frozen? ⟨q,0,none⟩=false∧w.frozen? ⟨q,1,none⟩=false :=
 ⟨by rw [Lib.cell_of_heap h];rfl,by rw [Lib.cell_of_heap h];rfl,Lib.frozen_of_heap h 0,Lib.frozen_of_heap h 1⟩
def BoxN (w:World) (q:Nat) (v:Value):Prop:=q<w.heap.size∧w.cell? ⟨q,0,none⟩=some v
theorem BoxN.same {w w':World} {q:Nat} {v:Value} (h:BoxN w q v) (hz:w.heap.size≤w'.heap.size) (hb:w'.heap[q]?=w.heap[q]?):BoxN w' q v :=
 ⟨Nat.lt_of_lt_of_le h.1 hz,(World.cell?_of_block (a:=⟨q,0,none⟩) hb).trans h.2⟩
theorem BoxN.later {w w':World} {q:Nat} {v:Value} (h:BoxN w q v) (hB:Below w.heap.size w w'):BoxN w' q v:=h.same hB.size (hB.block q h.1)
theorem cel_grown {w w':World} {g i j:Nat} {a b:Value} (h:w.grownBy w' (some g)):w.grownBy ((w'.setCell ⟨g,i,none⟩ a).setCell ⟨g,j,none⟩ b) (some g) :=
 ⟨h.os,h.tape,h.output,by simpa [World.setCell] using h.size,fun k hk hr=>(Below.heap_setCell _ ⟨g,j,none⟩ b k fun e=>hr (by rw [e])).trans ((Below.heap_setCell w' ⟨g,i,none⟩ a k fun e=>hr (by rw [e])).trans (h.block k hk hr))⟩
theorem boxn_other {w w':World} {q g:Nat} {v:Value} (h:BoxN w q v) (hne:q≠g) (hG:w.grownBy w' (some g)):BoxN w' q v:=h.same hG.size (hG.block q h.1 fun e=>hne (by simpa using e))
def wrStep (D:Nat→Dm) (n:Nat) (L:List (Int×Int)) (e:En):List (Int×Int):=L.set (numI D e.pl n).toNat (1,e.n)
def wrV (D:Nat→Dm) (n:Nat) (l:List En):List (Int×Int):=l.foldl (wrStep D n) (List.replicate (prodN D n) (0,0))
theorem wrs_len (D:Nat→Dm) (n:Nat):∀ (l:List En) (L:List (Int×Int)),(l.foldl (wrStep D n) L).length=L.length
 | [],_=>rfl
 | e :: r,L=>by rw [List.foldl_cons,wrs_len D n r];unfold wrStep;rw [List.length_set]
theorem wrV_len (D:Nat→Dm) (n:Nat) (l:List En):(wrV D n l).length=prodN D n:=by unfold wrV;rw [wrs_len];simp
theorem take_wr (D:Nat→Dm) (n:Nat) (L:List (Int×Int)) (xs:List EnL) {k:Nat} (h:k<xs.length):((lE xs).take (k+1)).foldl (wrStep D n) L=wrStep D n (((lE xs).take k).foldl (wrStep D n) L) (xs.getD k noL).e:=by
 have hk:k<(lE xs).length:=by rw [lE_len];exact h
 rw [List.take_succ_eq_append_getElem hk,List.foldl_append]
 have e:(lE xs)[k]=(xs.getD k noL).e:=by rw [←lE_at,List.getD_eq_getElem?_getD,List.getElem?_eq_getElem hk];rfl
 rw [e]
 rfl
theorem run_make_cells (n:Nat) (hn:n≤3000) (w:World):(Instr.makeSlice 50 (.int .i64 (n:Int)) (.int .i64 (n:Int))).run Tryz.prog w=.ok (.slice (some ⟨w.heap.size,0,none⟩) n n) (w.alloc (.cells (madeCells #[.int .i64 0,.int .i64 0] (n*2)) 39)):=by
 obtain ⟨i0,hi0,hz0,hz1,hz2⟩:=info_parts Tryz.infoCe
 have hr:=run_make (P:=Tryz.prog) w 50 39 i0 _ Tryz.underlying50 hi0 hz0 .i64 .i64 n n (by omega) (Int.le_refl _) (by rw [hz2];omega) (by omega)
 simp only [Int.toNat_natCast,hz1] at hr
 exact hr
theorem celB_made (w:World) (n:Nat):CelB (w.alloc (.cells (madeCells #[.int .i64 0,.int .i64 0] (n*2)) 39)) w.heap.size (List.replicate n (0,0)):=by
 refine ⟨_,heap_alloc_new w _,fun k hk=>?_⟩
 have hk':k<n:=by simpa using hk
 have e1:(List.replicate n ((0:Int),(0:Int))).getD k noC=(0,0):=by simp [List.getD,hk']
 rw [e1]
 constructor
 ·simp [madeCells,show k*2<n*2 by omega]
 ·simp [madeCells,show k*2+1<n*2 by omega,show (k*2+1) % 2=1 by omega]
def fcL (D:Nat→Dm) (n:Nat) (l:List En):List (Int×Int):=if entsErr D n l=0 then wrV D n l else []
theorem fc_ok {D:Nat→Dm} {n:Nat} {l:List En} (h:entsErr D n l=0):fcL D n l=wrV D n l:=by unfold fcL;rw [if_pos h]
theorem fc_bad {D:Nat→Dm} {n:Nat} {l:List En} (h:entsErr D n l≠0):fcL D n l=[]:=by unfold fcL;rw [if_neg h]
set_option maxHeartbeats 8000000 in
theorem fcells_any (A0:Option Addr) (cap n:Nat) (D:Nat→Dm) (A:Nat→Option Addr) (C:Nat→Nat) (AE:Option Addr) (ce:Nat) (xs:List EnL) (w:World) (hM:DimsV w A0 cap n D A C) (hE:EnsV w AE ce xs) :
  Calls Tryz.prog 15 #[.agg #[.slice A0 n cap],.slice AE xs.length ce] w fun e w'=>(∃ A' c',e=.returned (.tuple #[.slice A' (fcL D n (lE xs)).length c',errV (entsErr D n (lE xs))])∧CelV w' A' c' (fcL D n (lE xs)))∧Below w.heap.size w w':=by
 have hB0:=ownOut_below w A0 n cap 25
 have h:=icheck_any A0 cap n D A C AE ce xs (ownOut w A0 n cap 25) (hM.later hB0) (hE.later hB0)
 have HB0:Hid (Below w.heap.size w (ownOut w A0 n cap 25)):=hB0
 have HM:Hid (DimsV w A0 cap n D A C):=hM
 have HE:Hid (EnsV w AE ce xs):=hE
 clear hM hE hB0
 by_cases he:entsErr D n (lE xs)=0
 ·have hEs:=ens_of he
  have HEs:Hid (Ens D n (lE xs)):=hEs
  have hfew:xs.length≤3000:=by have:=hEs.few;rw [lE_len] at this;exact this
  have hR:=hEs.right
  have HR:Hid ((allErr D n).2.2=0):=hR
  obtain ⟨hn1,hn4,hp3,hd⟩:=allErr_some hR
  have HF:Hid (fcL D n (lE xs)=wrV D n (lE xs)∧errV (entsErr D n (lE xs))=.nilIface):=⟨fc_ok he,by rw [he];rfl⟩
  rw [he,errV_zero] at h
  have HBo:Hid (w.heap.size<(ownOut w A0 n cap 25).heap.size∧(ownOut w A0 n cap 25).cell? ⟨w.heap.size,0,none⟩=some (.slice A0 n cap)):=⟨by rw [ownOut_size];omega,ownOut_at ..⟩
  obtain ⟨N,hN⟩:∃ N,xs.length=N:=⟨_,rfl⟩
  have HN:Hid (xs.length=N):=hN
  rw [hN] at h hfew ⊢
  have hN':(N:Int)≤3000:=by omega
  obtain ⟨PN,hPN⟩:∃ PN,prodN D n=PN:=⟨_,rfl⟩
  have HPN:Hid (prodN D n=PN):=hPN
  rw [hPN] at hp3
  have hmk:=run_make_cells PN hp3
  have hPN':(PN:Int)≤3000:=by omega
  have HWE:Hid (((lE xs).take N).foldl (wrStep D n) (List.replicate PN (0,0))=wrV D n (lE xs)):=by show _=_;rw [List.take_of_length_le (by rw [lE_len,hN];exact Nat.le_refl _),←hPN];rfl
  clear he hEs hR hd hN hPN
  go_enter Tryz.func15,Tryz.ntmps15
  go_wp2_with fail
  refine h.mono ?_
  rintro e w1 ⟨rfl,hb1⟩
  have hB:Below w.heap.size w w1:=onB HB0.out hb1
  have HB:Hid (Below w.heap.size w w1):=hB
  have HBox:Hid (BoxN w1 w.heap.size (.slice A0 n cap)):=⟨Nat.lt_of_lt_of_le HBo.out.1 hb1.size,(hb1.cell (p:=⟨w.heap.size,0,none⟩) HBo.out.1).trans HBo.out.2⟩
  have c1:=HBox.out.2
  have hpc:=pcells_any A0 cap n D A C w1 (HM.out.later hB)
  have hcv:cellsV D n=(PN:Int):=by unfold cellsV;rw [if_pos HR.out,HPN.out]
  rw [HR.out,errV_zero,hcv] at hpc
  clear hb1 h hB hcv
  go_wp2_with fail
  refine hpc.mono ?_
  rintro e w2 ⟨rfl,hb2⟩
  have HB2:Hid (Below w.heap.size w w2):=onB HB.out hb2
  have HBox2:Hid (BoxN w2 w.heap.size (.slice A0 n cap)):=HBox.out.later hb2
  obtain ⟨v2,hv2⟩:∃ v,w2.alloc (.cells (madeCells #[.int .i64 0,.int .i64 0] (PN*2)) 39)=v:=⟨_,rfl⟩
  have hBv:Below w2.heap.size w2 v2:=by rw [←hv2];go_grown
  have HBv:Hid (Below w2.heap.size w2 v2):=hBv
  have HCv:Hid (CelB v2 w2.heap.size (List.replicate PN (0,0))):=by rw [←hv2];exact celB_made w2 PN
  have HBoxv:Hid (BoxN v2 w.heap.size (.slice A0 n cap)):=HBox2.out.later hBv
  have hwz:w.heap.size<w2.heap.size:=HBox2.out.1
  clear hpc hb2 c1 hBv
  go_wp2_with fail
  clear hmk hv2
  go_loopg [32] N (fun gg s32 wr => ∃ (k:Nat),k≤N∧gg=N-k∧s32=.int .i64 k∧Hid (CelB wr w2.heap.size (((lE xs).take k).foldl (wrStep D n) (List.replicate PN (0,0))))∧Hid (v2.grownBy wr (some w2.heap.size)))
  case atStart=>exact ⟨0,Nat.zero_le _,rfl,rfl,HCv,grown_refl v2 _⟩
  case round =>
   obtain ⟨k,hk,rfl,rfl,HC,HG⟩:=hrel
   have hB2r:Below w2.heap.size w2 wr:=HBv.out.grown HG.out HBv.out.size (fun j hj=>by cases hj;exact Nat.le_refl _)
   have HB2r:Hid (Below w2.heap.size w2 wr):=hB2r
   have HBr:Hid (Below w.heap.size w wr):=onB HB2.out hB2r
   by_cases hlt:k<N
   ·have hkx:k<xs.length:=by rw [HN.out];exact hlt
    have hki:(k:Int)<(N:Int):=by omega
    obtain ⟨-,-,h0 | ⟨bb,oo,rfl,hA⟩⟩:=HE.out.later HBr.out
    ·have:=HN.out;rw [h0] at this;simp at this;omega
    obtain ⟨c1,c2⟩:=hA.at hkx
    have hmem:(xs.getD k noL).e∈lE xs:=List.mem_map.2 ⟨_,enl_mem hkx,rfl⟩
    obtain ⟨hqI,-,hnum⟩:=HEs.out.each _ hmem
    have hnn : -1000000≤(xs.getD k noL).e.n∧(xs.getD k noL).e.n≤1000000:=by simpa [numOk] using hnum
    obtain ⟨hq1,hq2,-⟩:=numI_bound hqI (Nat.le_refl n)
    have hpl:=hA.pl hkx
    have HWr:=take_wr D n (List.replicate PN (0,0)) xs hkx
    unfold wrStep at HWr
    obtain ⟨X,hX⟩:∃ X:Nat,numI D (xs.getD k noL).e.pl n=X:=⟨(numI D (xs.getD k noL).e.pl n).toNat,by omega⟩
    have hnv:numV D n (xs.getD k noL).e.pl=(X:Int):=by unfold numV;rw [if_pos hqI.ok,hX]
    have hXN:X<PN:=by have:=HPN.out;omega
    have hNum:∀ w',Below wr.heap.size wr w'→_:=fun w' hw'=>pnumber_any A0 cap n D A C (xs.getD k noL).A (xs.getD k noL).c (xs.getD k noL).e.pl w' (HM.out.later (onB HBr.out hw')) (hpl.later hw')
    rw [hnv,hqI.ok,errV_zero] at hNum
    have HNum:Hid (∀ w',Below wr.heap.size wr w'→_):=hNum
    have hof:=fun w'=>of_any (xs.getD k noL).e.n w'
    rw [ofP_in (by omega) (by omega)] at hof
    rw [hX,show ((X:Int)).toNat=X by omega] at HWr
    have HWR:Hid _:=HWr
    obtain ⟨LL,hLL⟩:∃ LL,((lE xs).take k).foldl (wrStep D n) (List.replicate PN (0,0))=LL:=⟨_,rfl⟩
    have hLLn:LL.length=PN:=by rw [←hLL,wrs_len];simp
    have HCL:Hid (CelB wr w2.heap.size LL):=by rw [←hLL];exact HC.out
    have HNx:Hid (((lE xs).take (k+1)).foldl (wrStep D n) (List.replicate PN (0,0))=LL.set X (1,(xs.getD k noL).e.n)):=by
     show _=_
     rw [←hLL]
     exact HWR.out
    have HBxr:Hid (BoxN wr w.heap.size (.slice A0 n cap)):=boxn_other HBoxv.out (by omega) HG.out
    have hXL:X<LL.length:=by omega
    have HXL:Hid (X<LL.length):=hXL
    generalize (xs.getD k noL).A=A1 at c1 HNum
    generalize (xs.getD k noL).c=k1 at c1 HNum
    generalize (xs.getD k noL).e.n=num at c2 hnn hof HNx
    generalize (xs.getD k noL).e.pl.length=m1 at c1 HNum
    have hcr:=HBxr.out.2
    have hXi:(X:Int)<(PN:Int):=by omega
    obtain ⟨y,hy⟩:∃ y,wr.alloc (.cells #[.slice A1 m1 k1,.int .i64 num] 68)=y:=⟨_,rfl⟩
    have hBy:Below wr.heap.size wr y:=by rw [←hy];go_grown
    have HBy:Hid (Below wr.heap.size wr y):=hBy
    have HPy:Hid (y.heap[wr.heap.size]?=some (.cells #[.slice A1 m1 k1,.int .i64 num] 68 (0,0))):=by show _=_;rw [←hy];exact heap_alloc_new ..
    obtain ⟨p0,p1,-,-⟩:=pair_at HPy.out
    have hyo:=(HBxr.out.later hBy).2
    clear hB2r hA hmem hqI hnum hpl HWr hNum hnv hLL hLLn hX hq1 hq2 hBy hXL HWR
    go_wp2_with fail
    refine (HNum.out _ HBy.out).mono ?_
    rintro e w5 ⟨rfl,hb5⟩
    have HB5:Hid (Below y.heap.size y w5):=hb5
    have hwr:wr.heap.size<y.heap.size:=(Array.getElem?_eq_some_iff.1 HPy.out).1
    have hP5:w5.heap[wr.heap.size]?=some (.cells #[.slice A1 m1 k1,.int .i64 num] 68 (0,0)):=(hb5.block _ hwr).trans HPy.out
    obtain ⟨-,s1,-,-⟩:=pair_at hP5
    clear hb5 hP5 p0 p1 hyo
    go_wp2_with fail
    refine (hof _).mono ?_
    rintro e w6 ⟨rfl,hb6⟩
    have hB6:Below wr.heap.size wr w6:=onB (onB HBy.out HB5.out) hb6
    have HC6:Hid (CelB w6 w2.heap.size LL):=HCL.out.later hB6
    obtain ⟨g1,g2⟩:=HC6.out.at HXL.out
    have g3:=HC6.out.frozen (X*2)
    have g4:=HC6.out.frozen (X*2+1)
    have HC7:Hid (CelB ((w6.setCell ⟨w2.heap.size,X*2,none⟩ (.int .i64 1)).setCell ⟨w2.heap.size,X*2+1,none⟩ (.int .i64 num)) w2.heap.size (((lE xs).take (k+1)).foldl (wrStep D n) (List.replicate PN (0,0)))):=by show CelB _ _ _;rw [HNx.out];exact HC6.out.set HXL.out 1 num
    have HG7:Hid (v2.grownBy ((w6.setCell ⟨w2.heap.size,X*2,none⟩ (.int .i64 1)).setCell ⟨w2.heap.size,X*2+1,none⟩ (.int .i64 num)) (some w2.heap.size)):=cel_grown (grown_then HG.out hB6)
    clear hb6 hB6 hof s1
    go_wp2_with fail
    go_roundg (N-(k+1))
    case measure=>omega
    case rel=>exact ⟨k+1,by omega,rfl,by go_num,HC7,HG7⟩
   ·have hke:k=N:=by omega
    subst hke
    have HV:Hid (CelB wr w2.heap.size (wrV D n (lE xs))):=by rw [←HWE.out];exact HC.out
    have HVL:Hid ((wrV D n (lE xs)).length=PN):=by show _=_;rw [wrV_len];exact HPN.out
    clear hB2r
    go_wp2_with fail
    go_ret2
    rw [HF.out.1,HF.out.2,HVL.out]
    exact ⟨⟨_,PN,rfl,by rw [HVL.out];exact Nat.le_refl _,by omega,Or.inr ⟨_,0,rfl,HV.out.celAt⟩⟩,HBr.out⟩
 ·have HF:Hid (fcL D n (lE xs)=[]):=fc_bad he
  have HEr:Hid (errV (entsErr D n (lE xs))=.iface 45 (.int .i64 (entsErr D n (lE xs)))):=errV_some he
  rw [errV_some he] at h
  clear he
  generalize entsErr D n (lE xs)=ee at h HEr
  generalize xs.length=N at h
  go_enter Tryz.func15,Tryz.ntmps15
  go_wp2_with fail
  refine h.mono ?_
  rintro e w1 ⟨rfl,hb1⟩
  have HB:Hid (Below w.heap.size w w1):=onB HB0.out hb1
  clear hb1 h
  go_wp2_with fail
  go_ret2
  rw [HF.out,HEr.out]
  exact ⟨⟨none,0,rfl,CelV.nil _ _ _ (by decide)⟩,HB.out⟩
end Go.Proofs.YtbhanigcjdegjaaGreatDoor
namespace Go.Proofs.YtbhanigcjdegjaaGreatDoor
def inTo (D:Nat→Dm) (p q:List Int):Nat→Bool
 | 0=>true
 | k+1=>inTo D p q k && inB (pathOf (D k).mem (q.getD k 0)) (p.getD k 0)
def pwTo (D:Nat→Dm) (p q:List Int):Nat→Int
 | 0=>1
 | k+1=>pwTo D p q k*weightOf (D k).mem (p.getD k 0) (q.getD k 0)
theorem pwTo_out {D:Nat→Dm} {p q:List Int} {k:Nat} (h:inTo D p q k=false):pwTo D p q k=0:=by
 induction k with
 | zero=>simp [inTo] at h
 | succ k ih =>
  simp only [inTo,Bool.and_eq_false_iff] at h
  rcases h with h | h
  ·rw [pwTo,ih h,Int.zero_mul]
  ·have h1:p.getD k 0∉pathOf (D k).mem (q.getD k 0):=by unfold inB at h;exact of_decide_eq_false h
   rw [pwTo,weightOf,wgt_out _ h1,Int.mul_zero]
theorem weight_small {D:Nat→Dm} {n:Nat} {q:List Int} (hq:InO D n q) {k:Nat} (hk:k<n) (i:Int) : -1≤weightOf (D k).mem i (q.getD k 0)∧weightOf (D k).mem i (q.getD k 0)≤1:=by
 have hd:=(allErr_right hq.right).2 k hk
 have hlo:=hq.lo k hk
 have hhi:=hq.hi k hk
 have ht:Tr (D k).mem (D k).n:=Tr.of hd
 refine wgt_small (Sg.of hd) i _ (fun j hj=>?_) 1 (by omega)
 have:=pathOf_mem ht (D k).n (q.getD k 0) hhi hhi j hj
 omega
theorem pwTo_small {D:Nat→Dm} {n:Nat} {q:List Int} (hq:InO D n q) (p:List Int):∀ k,k≤n→-1≤pwTo D p q k∧pwTo D p q k≤1
 | 0,_=>by simp [pwTo]
 | k+1,hk=>by
  rw [pwTo]
  exact small_mul (pwTo_small hq p k (by omega)) (weight_small hq (by omega) _)
def cntR (D:Nat→Dm) (n:Nat) (p:List Int) (e:En):Bool:=inTo D p e.pl n && !(pwTo D p e.pl n == 0)
def valR (D:Nat→Dm) (n:Nat) (p:List Int) (e:En):Int:=pwTo D p e.pl n*e.n
def rollN (D:Nat→Dm) (n:Nat) (p:List Int):List En→Int
 | []=>0
 | e :: r=>(if cntR D n p e=true then valR D n p e else 0)+rollN D n p r
def rollK (D:Nat→Dm) (n:Nat) (p:List Int) (l:List En):Int:=if l.any (cntR D n p)=true then 1 else 0
def rollV (D:Nat→Dm) (n:Nat) (l:List En) (p:List Int):Int×Int:=(rollK D n p l,rollN D n p l)
def rollStep (D:Nat→Dm) (n:Nat) (p:List Int) (c:Int×Int) (e:En):Int×Int:=if cntR D n p e=true then (1,c.2+valR D n p e) else c
theorem roll_steps (D:Nat→Dm) (n:Nat) (p:List Int) (l:List En):∀ c:Int×Int,l.foldl (rollStep D n p) c=(if l.any (cntR D n p)=true then 1 else c.1,c.2+rollN D n p l):=by
 induction l with
 | nil=>intro c;simp [rollN]
 | cons e r ih =>
  intro c
  rw [List.foldl_cons,ih,rollStep,rollN,List.any_cons]
  by_cases h:cntR D n p e=true
  ·simp only [h,Bool.true_or,if_true]
   refine Prod.ext ?_ (by simp only;omega)
   simp only
   split <;> rfl
  ·simp only [h,Bool.false_eq_true,if_false] at *
   simp
theorem roll_fold (D:Nat→Dm) (n:Nat) (l:List En) (p:List Int):l.foldl (rollStep D n p) (0,0)=rollV D n l p:=by
 rw [roll_steps]
 unfold rollV rollK
 simp
theorem rollN_append (D:Nat→Dm) (n:Nat) (p:List Int) (a b:List En):rollN D n p (a ++ b)=rollN D n p a+rollN D n p b:=by
 induction a with
 | nil=>simp [rollN]
 | cons e r ih=>rw [List.cons_append,rollN,rollN,ih];omega
theorem roll_more {D:Nat→Dm} {n:Nat} {l:List En} {q:List Int} (h:hasE l q=false) (p:List Int) (x:Int) :
  (cntR D n p ⟨q,x⟩=true→rollV D n (setL l q x) p=(1,(rollV D n l p).2+pwTo D p q n*x))∧(cntR D n p ⟨q,x⟩=false→rollV D n (setL l q x) p=rollV D n l p):=by
 have e1:setL l q x=l.take (cntE l q) ++ ⟨q,x⟩ :: l.drop (cntE l q):=by unfold setL;rw [h];rfl
 have e2:l=l.take (cntE l q) ++ l.drop (cntE l q):=(List.take_append_drop _ _).symm
 have n1:rollN D n p (setL l q x)=rollN D n p l+(if cntR D n p ⟨q,x⟩=true then valR D n p ⟨q,x⟩ else 0):=by
  rw [e1,rollN_append,rollN]
  conv=>rhs;rw [e2,rollN_append]
  omega
 have k1:(setL l q x).any (cntR D n p)=(l.any (cntR D n p) || cntR D n p ⟨q,x⟩):=by
  rw [e1,List.any_append,List.any_cons]
  conv=>rhs;rw [e2,List.any_append]
  cases (l.take (cntE l q)).any (cntR D n p) <;> cases (l.drop (cntE l q)).any (cntR D n p) <;> cases cntR D n p ⟨q,x⟩ <;> rfl
 unfold rollV rollK
 refine ⟨fun hc=>?_,fun hc=>?_⟩
 ·rw [n1,k1,hc]
  simp [valR]
 ·rw [n1,k1,hc]
  simp
theorem roll_bound {D:Nat→Dm} {n:Nat} (p:List Int):∀ l:List En,(∀ e∈l,InO D n e.pl∧leafV D n e.pl=true∧numOk e.n=true)→-1000000*(l.length:Int)≤rollN D n p l∧rollN D n p l≤1000000*(l.length:Int)
 | [],_=>by simp [rollN]
 | e :: r,h=>by
  obtain ⟨h1,-,h2⟩:=h e (List.mem_cons_self ..)
  have ih:=roll_bound p r fun x hx=>h x (List.mem_cons_of_mem _ hx)
  have hw:=pwTo_small h1 p n (Nat.le_refl _)
  have hn : -1000000≤e.n∧e.n≤1000000:=by simpa [numOk] using h2
  have hv : -1000000≤valR D n p e∧valR D n p e≤1000000:=by
   unfold valR
   have h3:pwTo D p e.pl n = -1∨pwTo D p e.pl n=0∨pwTo D p e.pl n=1:=by omega
   rcases h3 with h3 | h3 | h3 <;> rw [h3] <;> omega
  rw [rollN,List.length_cons]
  split <;> omega
def lfs (D:Nat→Dm) (p:List Int) (i:Nat):List Int:=leafsOf (D i).mem (D i).n (p.getD i 0)
def cnts (d:Dm) (i:Int) (X:List Int):List Int:=(List.range d.n).map fun (k:Nat)=>if (k:Int)∈X then weightOf d.mem i (k:Int) else 0
theorem cnts_len (d:Dm) (i:Int) (X:List Int):(cnts d i X).length=d.n:=by simp [cnts]
theorem cnts_nil (d:Dm) (i:Int):cnts d i []=List.replicate d.n 0:=by
 apply List.ext_getElem
 ·simp [cnts]
 ·intro j h1 h2;simp [cnts]
theorem cnts_at {d:Dm} {i:Int} {X:List Int} {k:Nat} (hk:k<d.n):(cnts d i X).getD k 0=if (k:Int)∈X then weightOf d.mem i k else 0:=by
 simp [cnts,List.getD,hk]
theorem cnts_set {d:Dm} {i:Int} {X:List Int} {k:Nat}:(cnts d i X).set k (weightOf d.mem i k)=cnts d i (X ++ [(k:Int)]):=by
 apply List.ext_getElem
 ·simp [cnts]
 ·intro j h1 h2
  rw [List.getElem_set]
  by_cases e:k=j
  ·subst e;simp [cnts]
  ·have e' : ¬ ((j:Int)=(k:Int)):=by omega
   rw [if_neg e];simp [cnts,e']
theorem sel_in {p:Nat→Bool} {k m:Nat} (hm:m<k) (hp:p m=true):(m:Int)∈selTo p k:=by
 induction k with
 | zero=>omega
 | succ k ih =>
  by_cases e:m=k
  ·subst e;rw [selTo_hit hp];simp
  ·have h1:=ih (by omega)
   cases hk:p k
   ·rw [selTo_miss hk];exact h1
   ·rw [selTo_hit hk];simp [h1]
theorem lfs_mem {D:Nat→Dm} {p:List Int} {i:Nat}:∀ j∈lfs D p i,∃ m:Nat,j=m∧m<(D i).n∧leafIn (D i).mem (D i).n (p.getD i 0) m=true:=selTo_mem
theorem lfs_len (D:Nat→Dm) (p:List Int) (i:Nat):(lfs D p i).length≤(D i).n:=selTo_len _ _
def wts (D:Nat→Dm) (p:List Int) (i:Nat):List Int:=cnts (D i) (p.getD i 0) (lfs D p i)
theorem wts_at {D:Nat→Dm} {p:List Int} {i k:Nat} (hk:k<(D i).n) (hl:leafB (D i).mem (D i).n k=true):(wts D p i).getD k 0=weightOf (D i).mem (p.getD i 0) k:=by
 unfold wts
 rw [cnts_at hk]
 by_cases h:(k:Int)∈lfs D p i
 ·rw [if_pos h]
 ·rw [if_neg h]
  have h1:inB (pathOf (D i).mem k) (p.getD i 0)=false:=by
   cases hb:inB (pathOf (D i).mem k) (p.getD i 0)
   ·rfl
   ·exact absurd (sel_in hk (by unfold leafIn;rw [hl,hb];rfl)) h
  have h2:p.getD i 0∉pathOf (D i).mem k:=by unfold inB at h1;exact of_decide_eq_false h1
  rw [weightOf,wgt_out _ h2]
theorem wts_small {D:Nat→Dm} {n:Nat} (hR:(allErr D n).2.2=0) (p:List Int) {i:Nat} (hi:i<n) (k:Nat) : -1≤(wts D p i).getD k 0∧(wts D p i).getD k 0≤1:=by
 by_cases hk:k<(D i).n
 ·unfold wts
  rw [cnts_at hk]
  split
  ·have hd:=(allErr_right hR).2 i hi
   refine wgt_small (Sg.of hd) _ _ (fun j hj=>?_) 1 (by omega)
   have:=pathOf_mem (Tr.of hd) (D i).n k (by omega) (by omega) j hj
   omega
  ·omega
 ·have:(wts D p i).getD k 0=0:=by unfold wts;rw [List.getD_eq_getElem?_getD,List.getElem?_eq_none (by rw [cnts_len];omega)];rfl
  rw [this];omega
def prTo (R:Nat→List Int) (q:List Int):Nat→Int
 | 0=>1
 | k+1=>prTo R q k*(R k).getD (q.getD k 0).toNat 0
theorem leaf_each {D:Nat→Dm} {n:Nat} {q:List Int} (h:leafV D n q=true):∀ k,k<n→leafB (D k).mem (D k).n (q.getD k 0).toNat=true:=by
 unfold leafV at h
 split at h
 ·intro k hk
  cases hb:leafB (D k).mem (D k).n (q.getD k 0).toNat
  ·have h1:∀ m i,i≤k→k<i+m→0≤findFrom (notLeaf D q) m i:=by
    intro m
    induction m with
    | zero=>intro i h1 h2;omega
    | succ m ih =>
     intro i h1 h2
     cases hn:notLeaf D q i
     ·rw [findFrom_miss _ hn]
      refine ih (i+1) ?_ (by omega)
      rcases Nat.lt_or_ge i k with h3 | h3
      ·omega
      ·have:i=k:=by omega
       subst this
       unfold notLeaf at hn
       rw [hb] at hn
       cases hn
     ·rw [findFrom_hit _ hn];omega
   have:=h1 n 0 (by omega) (by omega)
   rw [decide_eq_true this] at h
   cases h
  ·rfl
 ·cases h
theorem leaf_all {D:Nat→Dm} {n:Nat} {q:List Int} (hq:InO D n q) (h:∀ k,k<n→leafB (D k).mem (D k).n (q.getD k 0).toNat=true):leafV D n q=true:=by
 unfold leafV
 rw [if_pos hq.ok]
 have h1:∀ m i,i+m≤n→findFrom (notLeaf D q) m i<0:=by
  intro m
  induction m with
  | zero=>intro i _;simp [findFrom]
  | succ m ih =>
   intro i hi
   have hn:notLeaf D q i=false:=by unfold notLeaf;rw [h i (by omega)];rfl
   rw [findFrom_miss _ hn]
   exact ih (i+1) (by omega)
 have:=h1 n 0 (by omega)
 rw [decide_eq_false (by omega)]
 rfl
theorem pr_wts {D:Nat→Dm} {n:Nat} {q:List Int} (hq:InO D n q) (hl:leafV D n q=true) (p:List Int):∀ k,k≤n→prTo (wts D p) q k=pwTo D p q k
 | 0,_=>rfl
 | k+1,hk=>by
  have hlo:=hq.lo k (by omega)
  have hhi:=hq.hi k (by omega)
  rw [prTo,pwTo,pr_wts hq hl p k (by omega),wts_at (by omega) (leaf_each hl k (by omega)),show ((q.getD k 0).toNat:Int)=q.getD k 0 by omega]
theorem prTo_small {D:Nat→Dm} {n:Nat} (hR:(allErr D n).2.2=0) (p q:List Int):∀ k,k≤n→-1≤prTo (wts D p) q k∧prTo (wts D p) q k≤1
 | 0,_=>by simp [prTo]
 | k+1,hk=>by
  rw [prTo]
  exact small_mul (prTo_small hR p q k (by omega)) (wts_small hR p (by omega) _)
theorem cnt_pw {D:Nat→Dm} {n:Nat} {p:List Int} {e:En}:cntR D n p e = !(pwTo D p e.pl n == 0):=by
 unfold cntR
 cases h:inTo D p e.pl n
 ·rw [pwTo_out h];rfl
 ·rfl
theorem roll_none {D:Nat→Dm} {n:Nat} {p:List Int}:∀ {l:List En},l.any (cntR D n p)=false→rollN D n p l=0
 | [],_=>rfl
 | e :: r,h=>by
  rw [List.any_cons,Bool.or_eq_false_iff] at h
  rw [rollN,roll_none h.2,if_neg (by rw [h.1];simp)]
  rfl
def longL (Ps:List (List Int)) (X:List Int):List (List Int):=Ps.flatMap fun h=>X.map fun k=>h ++ [k]
theorem longL_cons (h:List Int) (Ps:List (List Int)) (X:List Int):longL (h :: Ps) X=(X.map fun k=>h ++ [k]) ++ longL Ps X:=by simp [longL]
theorem longL_len (Ps:List (List Int)) (X:List Int):(longL Ps X).length=Ps.length*X.length:=by
 induction Ps with
 | nil=>simp [longL]
 | cons h r ih=>rw [longL_cons,List.length_append,ih,List.length_map,List.length_cons,Nat.succ_mul];omega
theorem longL_snoc (Ps:List (List Int)) (h:List Int) (X:List Int):longL (Ps ++ [h]) X=longL Ps X ++ X.map fun k=>h ++ [k]:=by simp [longL]
def lfTo (D:Nat→Dm) (p:List Int):Nat→List (List Int)
 | 0=>[[]]
 | k+1=>longL (lfTo D p k) (lfs D p k)
theorem lfTo_len {D:Nat→Dm} (p:List Int):∀ k,(lfTo D p k).length≤prodN D k
 | 0=>by simp [lfTo,prodN]
 | k+1=>by
  rw [lfTo,longL_len,prodN]
  exact Nat.mul_le_mul (lfTo_len p k) (lfs_len D p k)
theorem lfTo_each {D:Nat→Dm} (p:List Int):∀ k,∀ q∈lfTo D p k,q.length=k
 | 0,q,h=>by simp [lfTo] at h;simp [h]
 | k+1,q,h=>by
  simp only [lfTo,longL,List.mem_flatMap,List.mem_map] at h
  obtain ⟨h1,h2,x,h3,rfl⟩:=h
  simp [lfTo_each p k h1 h2]
def allTo (D:Nat→Dm):Nat→List (List Int)
 | 0=>[[]]
 | k+1=>longL (allTo D k) ((List.range (D k).n).map fun j=>((j:Nat):Int))
theorem allTo_each {D:Nat→Dm}:∀ k,∀ q∈allTo D k,q.length=k
 | 0,q,h=>by simp [allTo] at h;simp [h]
 | k+1,q,h=>by
  simp only [allTo,longL,List.mem_flatMap,List.mem_map] at h
  obtain ⟨h1,h2,x,h3,rfl⟩:=h
  simp [allTo_each k h1 h2]
theorem rest_next (D:Nat→Dm) (k x:Nat):∀ r,restAt D (k+1) x (r+1)=restAt D k (x / (D k).n) r
 | 0=>by simp [restAt]
 | r+1=>by
  rw [restAt,rest_next D k x r]
  conv=>rhs;rw [restAt]
  rw [show k+1-1-(r+1)=k-1-r by omega]
theorem place_next (D:Nat→Dm) (k x:Nat):placeL D (k+1) x=placeL D k (x / (D k).n) ++ [((x % (D k).n:Nat):Int)]:=by
 unfold placeL
 rw [List.range_succ,List.map_append]
 congr 1
 ·apply List.map_congr_left
  intro j hj
  have hj':j<k:=by simpa using hj
  unfold digitAt
  rw [show k+1-1-j=(k-1-j)+1 by omega,rest_next]
 ·simp [digitAt,restAt]
theorem range_mul {α:Type} (f:Nat→α) (a b:Nat):(List.range (a*b)).map f=(List.range a).flatMap fun i=>(List.range b).map fun j=>f (i*b+j):=by
 induction a with
 | zero=>simp
 | succ a ih =>
  rw [Nat.succ_mul,List.range_add,List.map_append,ih,List.range_succ,List.flatMap_append]
  simp [Function.comp_def]
theorem all_range (D:Nat→Dm):∀ k,(∀ j,j<k→1≤(D j).n)→(List.range (prodN D k)).map (placeL D k)=allTo D k
 | 0,_=>by simp [prodN,allTo,placeL]
 | k+1,h=>by
  have hk:=h k (by omega)
  rw [prodN,range_mul,allTo,←all_range D k fun j hj=>h j (by omega)]
  unfold longL
  rw [List.flatMap_map]
  congr 1
  funext i
  rw [List.map_map]
  apply List.map_congr_left
  intro j hj
  have hj':j<(D k).n:=by simpa using hj
  rw [place_next,show i*(D k).n+j=j+(D k).n*i by rw [Nat.mul_comm];omega,Nat.add_mul_div_left _ _ hk,Nat.add_mul_mod_self_left,Nat.div_eq_of_lt hj',Nat.mod_eq_of_lt hj',Nat.zero_add]
  rfl
def okTo (D:Nat→Dm) (p q:List Int):Nat→Bool
 | 0=>true
 | k+1=>okTo D p q k && leafIn (D k).mem (D k).n (p.getD k 0) (q.getD k 0).toNat
theorem okTo_head {D:Nat→Dm} {p h:List Int} {x:Int}:∀ k,k≤h.length→okTo D p (h ++ [x]) k=okTo D p h k
 | 0,_=>rfl
 | k+1,hk=>by
  rw [okTo,okTo,okTo_head k (by omega)]
  congr 3
  simp only [List.getD_eq_getElem?_getD]
  rw [List.getElem?_append_left (by omega)]
theorem filter_long {P:List Int→Bool} {p1:List Int→Bool} {p2:Int→Bool} {X:List Int}:∀ Ps:List (List Int),(∀ h∈Ps,∀ x,P (h ++ [x])=(p1 h && p2 x))→(longL Ps X).filter P=longL (Ps.filter p1) (X.filter p2)
 | [],_=>rfl
 | h :: r,hh=>by
  rw [longL_cons,List.filter_append,filter_long r fun a ha=>hh a (List.mem_cons_of_mem _ ha),List.filter_map]
  have e:(P ∘ fun k=>h ++ [k])=fun x=>(p1 h && p2 x):=funext fun x=>hh h (List.mem_cons_self ..) x
  rw [e,List.filter_cons]
  cases h1:p1 h
  ·simp
  ·simp only [Bool.true_and,if_true]
   rw [longL_cons]
theorem sel_filter (f:Nat→Bool):∀ n,((List.range n).map fun j=>((j:Nat):Int)).filter (fun x=>f x.toNat)=selTo f n
 | 0=>rfl
 | n+1=>by
  rw [List.range_succ,List.map_append,List.filter_append,sel_filter f n]
  cases h:f n
  ·rw [selTo_miss h];simp [h]
  ·rw [selTo_hit h];simp [h]
theorem all_filter (D:Nat→Dm) (p:List Int):∀ k,(allTo D k).filter (fun q=>okTo D p q k)=lfTo D p k
 | 0=>rfl
 | k+1=>by
  rw [allTo,filter_long (p1:=fun q=>okTo D p q k) (p2:=fun x=>leafIn (D k).mem (D k).n (p.getD k 0) x.toNat),all_filter D p k,lfTo,sel_filter]
  ·rfl
  ·intro h hh x
   have hl:=allTo_each k h hh
   rw [okTo,okTo_head k (by omega)]
   congr 2
   rw [List.getD_eq_getElem?_getD,List.getElem?_append_right (by omega),hl,Nat.sub_self]
   rfl
theorem ok_is {D:Nat→Dm} {n:Nat} {p q:List Int} (hq:InO D n q):okTo D p q n=(leafV D n q && inTo D p q n):=by
 have h1:∀ k,k≤n→(okTo D p q k=true↔(∀ j,j<k→leafB (D j).mem (D j).n (q.getD j 0).toNat=true)∧inTo D p q k=true):=by
  intro k
  induction k with
  | zero=>intro _;simp [okTo,inTo]
  | succ k ih =>
   intro hk
   have hlo:=hq.lo k (by omega)
   have e:((q.getD k 0).toNat:Int)=q.getD k 0:=by omega
   have ih':=ih (by omega)
   simp only [okTo,inTo,leafIn,Bool.and_eq_true,e]
   rw [ih']
   constructor
   ·rintro ⟨⟨a,b⟩,c,d⟩
    refine ⟨fun j hj=>?_,b,d⟩
    rcases Nat.lt_succ_iff_lt_or_eq.1 hj with h | rfl
    ·exact a j h
    ·exact c
   ·rintro ⟨a,b,d⟩
    exact ⟨⟨fun j hj=>a j (by omega),b⟩,a k (by omega),d⟩
 have h2:=h1 n (Nat.le_refl _)
 cases hl:leafV D n q
 ·rw [Bool.false_and]
  cases ho:okTo D p q n
  ·rfl
  ·rw [leaf_all hq (h2.1 ho).1] at hl
   cases hl
 ·rw [Bool.true_and]
  cases hi:inTo D p q n
  ·cases ho:okTo D p q n
   ·rfl
   ·rw [(h2.1 ho).2] at hi
    cases hi
  ·exact h2.2 ⟨leaf_each hl,hi⟩
def docL (D:Nat→Dm) (n:Nat) (p:List Int) (m:Nat):List (List Int):=((List.range m).map (placeL D n)).filter fun q=>leafV D n q && inTo D p q n
theorem docL_all {D:Nat→Dm} {n:Nat} (hR:(allErr D n).2.2=0) (p:List Int):docL D n p (prodN D n)=lfTo D p n:=by
 obtain ⟨-,-,-,hd⟩:=allErr_some hR
 rw [←all_filter,←all_range D n fun j hj=>(hd j hj).1]
 unfold docL
 apply List.filter_congr
 intro q hq
 simp only [List.mem_map] at hq
 obtain ⟨x,-,rfl⟩:=hq
 exact (ok_is (placeL_in hR)).symm
end Go.Proofs.YtbhanigcjdegjaaGreatDoor
namespace Go.Proofs.YtbhanigcjdegjaaGreatDoor
open Go.ChangeShapes Go.WideShapes Go.ChangeAt Go.RowKit Go.Lib
set_option maxRecDepth 100000
set_option maxHeartbeats 4000000 in
theorem delete_any (g cap i:Nat) (xs:List EnL) (w:World) (hn:xs.length≤3000) (hi:i<xs.length) (hR:RowE w g cap xs) :
  Calls Tryz.prog 63 #[.slice (some ⟨g,0,none⟩) xs.length cap,.int .i64 i,.int .i64 ((i:Int)+1)] w fun e w'=>e=.returned (.slice (some ⟨g,0,none⟩) (xs.length-1) cap)∧RowE w' g cap (xs.take i ++ xs.drop (i+1))∧w.grownBy w' (some g):=by
 obtain ⟨i0,hi0,hz0,hz1,hz2⟩:=info_parts Tryz.infoEnt
 have hcm:=hR.2.2.1
 unfold maxLen at hcm
 have hnc:=hR.2.1
 obtain ⟨⟨cur,hcur,hcs,hct⟩,-,-,hpl⟩:=id hR
 obtain ⟨n,hnn⟩:∃ n,xs.length=n:=⟨_,rfl⟩
 obtain ⟨news,hnews⟩:∃ news,news=cellsE (xs.drop (i+1)):=⟨_,rfl⟩
 have hdl:news.length=(n-(i+1))*2:=by rw [hnews,cellsE_len,List.length_drop,hnn]
 have hcl0:cur.toList.length=cap*2:=by simpa using hcs
 rw [hnn] at hn hi hnc
 obtain ⟨C1,hC1⟩:∃ C1,C1=cur.toList.take (i*2) ++ cellsE (xs.drop (i+1)) ++ cur.toList.drop (i*2+(cellsE (xs.drop (i+1))).length):=⟨_,rfl⟩
 obtain ⟨C2,hC2⟩:∃ C2,C2=C1.take ((xs.length-1)*2) ++ [.slice none 0 0,.int .i64 0] ++ C1.drop ((xs.length-1)*2+2):=⟨_,rfl⟩
 obtain ⟨hl2,ht2⟩:=del_cells hct (by rw [hcl0,hnn];omega) (by rw [hnn];exact hi) hC1 hC2
 have hl1:C1.length=cap*2:=by
  rw [hC1,←hnews]
  simp only [List.length_append,List.length_take,List.length_drop,hdl,hcl0]
  omega
 obtain ⟨A,hA,hsrc⟩:∃ A:Addr,(if cap=i+1 then some (⟨g,0,none⟩:Addr) else some ⟨g,(i+1)*2,none⟩)=some A∧Hid (∀ t u,news[t]?=some u→w.drew.cell? (A.add t)=some u):=by
  by_cases h:cap=i+1
  ·refine ⟨⟨g,0,none⟩,by simp [h],fun t u hu=>?_⟩
   have h0:news.length=0:=by rw [hdl];omega
   rw [List.length_eq_zero_iff.1 h0] at hu
   simp at hu
  ·refine ⟨⟨g,(i+1)*2,none⟩,by simp [h],fun t u hu=>?_⟩
   rw [hnews,←cellsE_drop,List.getElem?_drop] at hu
   rw [plain_add]
   exact hR.cells _ u hu
 have s1:Hid (news.length=(n-(i+1))*2):=hdl
 have s2:Hid (∀ u∈news,u.oneCell'=true):=by rw [hnews];exact cellsE_one _
 have s3:Hid (∀ t,t<news.length→(w.drew.cell? ⟨g,0+i*2+t,none⟩).isSome=true∧w.drew.frozen? ⟨g,0+i*2+t,none⟩=false):=by
  intro t ht
  rw [hdl] at ht
  exact ⟨hR.full (by omega),hR.frozen _⟩
 obtain ⟨W1,hW1⟩:∃ W1,W1=w.drew.setRow g C1.toArray:=⟨_,rfl⟩
 have HW:Hid (W1=w.drew.setCells g (0+i*2) news):=by
  show _=_
  rw [setCells_row g 68 news (0+i*2) cur w.drew hcur (by rw [hdl];omega),hW1,hC1,Nat.zero_add,hnews]
 have hW1h:W1.heap[g]?=some (.cells C1.toArray 68 (0,0)):=by rw [hW1];exact setRow_heap w.drew g cur _ _ _ hcur
 have hcl:∀ ty c,(Builtin.clear_ #[26] ty #[.slice (some ⟨g,(i+(n-(i+1)))*2,none⟩) (n-(i+(n-(i+1)))) c]).run Tryz.prog W1=.ok (.tuple #[]) (W1.setRow g C2.toArray):=fun ty c=>by
  rw [show n-(i+(n-(i+1)))=1 by omega,show i+(n-(i+1))=n-1 by omega]
  rw [run_clear_one W1 26 68 ty (.agg #[.slice none 0 0,.int .i64 0]) (.slice none 0 0) (.int .i64 0) Tryz.underlying26 Tryz.zeroValue68 rfl rfl rfl g ((n-1)*2) c C1.toArray 68 hW1h (by rw [List.size_toArray,hl1];omega),hC2,hnn]
 have HFin:Hid (RowE (W1.setRow g C2.toArray) g cap (xs.take i ++ xs.drop (i+1))∧w.grownBy (W1.setRow g C2.toArray) (some g)):=by
  rw [hW1,setRow_setRow]
  have hg':w.grownBy (w.drew.setRow g C2.toArray) (some g):=grown_trans (grown_drew (grown_refl w _)) (grown_setRow ..)
  refine ⟨⟨⟨C2.toArray,setRow_heap w.drew g cur _ _ _ hcur,by rw [List.size_toArray,hl2,hcl0],ht2⟩,by simp;omega,hR.2.2.1,fun y hy=>?_⟩,hg'⟩
  refine PlTy.grown ?_ hcur hg'
  rcases List.mem_append.1 hy with hy | hy
  ·exact hpl y (List.mem_of_mem_take hy)
  ·exact hpl y (List.mem_of_mem_drop hy)
 rw [hnn]
 have hn':(n:Int)≤3000:=by omega
 have hi':(i:Int)<(n:Int):=by omega
 have hc':(n:Int)≤(cap:Int):=by omega
 have htn:((i:Int)+1).toNat=i+1:=by omega
 have hb1:(0:Int)≤(i:Int)+1:=by omega
 have hb2:(i:Int)+1≤(n:Int):=by omega
 have hb3:(i:Int)+1≤(cap:Int):=by omega
 have hb4:(i:Int)≤(cap:Int):=by omega
 have hic:i≤cap:=by omega
 have hjc:i+1≤cap:=by omega
 have hRn:Hid (n-1=i+(n-(i+1))):=by show _=_;omega
 clear hnn hl1 hl2 ht2 hC1 hC2 hdl hW1 hW1h hR hcur hcs hct hcl0 hpl hnews
 go_enter Tryz.func63,Tryz.ntmps63
 go_wp2_with fail
 go_region_law (refine step_append_room rfl (.tmp 22) (.tmp 25) 26 rfl 68 i0 2 Tryz.underlying26 hi0 hz1 g 0 i cap (by simp [Act.eval,Act.put]) A (n-(i+1)) (cap-(i+1)) news (by simp [Act.eval,Act.put]) s1.out hsrc.out s2.out (by omega) s3.out ?_;rw [←HW.out])
 go_wp2_with fail
 go_ret
 rw [hRn.out]
 exact ⟨rfl,HFin.out⟩
end Go.Proofs.YtbhanigcjdegjaaGreatDoor
namespace Go.Proofs.YtbhanigcjdegjaaGreatDoor
open Go.ChangeShapes Go.WideShapes Go.ChangeAt Go.RowKit Go.Lib
set_option maxRecDepth 20000
theorem RowE.put {w:World} {g cap:Nat} {zs:List EnL} (h:RowE w g cap zs) (hk:zs.length<cap) {x:EnL} (hx:PlTy w x.A x.c x.e.pl):RowE ((w.setCell ⟨g,zs.length*2,none⟩ (.slice x.A x.e.pl.length x.c)).setCell ⟨g,zs.length*2+1,none⟩ (.int .i64 x.e.n)) g cap (zs ++ [x])∧w.grownBy ((w.setCell ⟨g,zs.length*2,none⟩ (.slice x.A x.e.pl.length x.c)).setCell ⟨g,zs.length*2+1,none⟩ (.int .i64 x.e.n)) (some g):=by
 obtain ⟨⟨cur,h1,h2,h3⟩,h4,h5,h6⟩:=id h
 have e:(w.setCell ⟨g,zs.length*2,none⟩ (.slice x.A x.e.pl.length x.c)).setCell ⟨g,zs.length*2+1,none⟩ (.int .i64 x.e.n)=w.setCells g (zs.length*2) (cellsE [x]):=rfl
 have hx2:(cellsE [x]).length=2:=by rw [cellsE_len];rfl
 have hl:cur.toList.length=cap*2:=by simpa using h2
 rw [e,setCells_row g 68 (cellsE [x]) (zs.length*2) cur w h1 (by rw [hx2];omega)]
 refine ⟨h.lay ?_ ?_ (by simp;omega) fun y hy=>?_,grown_setRow ..⟩
 ·simp only [List.length_append,List.length_take,List.length_drop,hx2,hl]
  omega
 ·rw [cellsE_append,h3]
  exact take_join (by simp only [List.length_append,cellsE_len,List.length_cons,List.length_nil];omega)
 ·rcases List.mem_append.1 hy with hy | hy
  ·exact h6 y hy
  ·rw [List.mem_singleton.1 hy];exact hx
theorem grown_set {w w':World} {g:Nat} (h:w.grownBy w' (some g)) (o:Nat) (v:Value):w.grownBy (w'.setCell ⟨g,o,none⟩ v) (some g) :=
 ⟨h.os,h.tape,h.output,by simpa using h.size,fun i hi hr=>(Below.heap_setCell w' ⟨g,o,none⟩ v i fun e=>hr (by rw [e])).trans (h.block i hi hr)⟩
theorem grown_new {w w':World} {r:Option Nat} (h:w.grownBy w' r) (o:Obj):w.grownBy (w'.alloc o) r :=
 ⟨h.os,h.tape,h.output,by have:=h.size;simp;omega,fun i hi hr=>(Below.heap_alloc w' o i (Nat.lt_of_lt_of_le hi h.size)).trans (h.block i hi hr)⟩
theorem keepG {W w':World} {g q:Nat} {u v:Value} (h:q<W.heap.size∧q≠g∧W.cell? ⟨q,0,none⟩=some u∧W.cell? ⟨q,1,none⟩=some v) (hG:W.grownBy w' (some g)):W.grownBy w' (some g)∧w'.cell? ⟨q,0,none⟩=some u∧w'.cell? ⟨q,1,none⟩=some v:=by
 have hb:w'.heap[q]?=W.heap[q]?:=hG.block q h.1 fun e=>h.2.1 (by simpa using e)
 exact ⟨hG,(World.cell?_of_block (a:=⟨q,0,none⟩) hb).trans h.2.2.1,(World.cell?_of_block (a:=⟨q,1,none⟩) hb).trans h.2.2.2⟩
set_option maxHeartbeats 8000000 in
theorem fresh_new (AE:Option Addr) (ce:Nat) (xs:List EnL) (w:World) (hn:xs.length≤3000) (hS:∀ k,k<xs.length→(xs.getD k noL).e.pl.length≤4) (hE:EnsV w AE ce xs) :
  Calls Tryz.prog 21 #[.slice AE xs.length ce] w fun e w'=>(∃ ys,e=.returned (.slice (some ⟨w.heap.size,0,none⟩) xs.length xs.length)∧RowE w' w.heap.size xs.length ys∧lE ys=lE xs∧NewE w.heap.size ys)∧Below w.heap.size w w':=by
 obtain ⟨i0,hi0,hz0,hz1,hz2⟩:=info_parts Tryz.infoEnt
 have HE:Hid (EnsV w AE ce xs):=hE
 have HS:Hid (∀ k,k<xs.length→(xs.getD k noL).e.pl.length≤4):=hS
 obtain ⟨n,hnn⟩:∃ n,xs.length=n:=⟨_,rfl⟩
 have HN:Hid (xs.length=n):=hnn
 rw [hnn] at hn ⊢
 have hmk:∀ w',(Instr.makeSlice 26 (.int .i64 n) (.int .i64 n)).run Tryz.prog w'=.ok (.slice (some ⟨w'.heap.size,0,none⟩) n n) (w'.alloc (.cells (madeCells (Value.agg #[.slice none 0 0,.int .i64 0]).cells (n*2)) 68)):=fun w'=>by
  have h:=run_make (P:=Tryz.prog) w' 26 68 i0 _ Tryz.underlying26 hi0 hz0 .i64 .i64 n n (by omega) (Int.le_refl _) (by rw [hz2];omega) (by omega)
  rw [hz1] at h
  simpa using h
 have HR0:Hid (RowE (w.alloc (.cells (madeCells (Value.agg #[.slice none 0 0,.int .i64 0]).cells (n*2)) 68)) w.heap.size n []):=⟨⟨_,heap_alloc_new w _,size_madeCells _ _,by simp [cellsE]⟩,Nat.zero_le _,by unfold maxLen;omega,fun x hx=>by cases hx⟩
 have hn':(n:Int)≤3000:=by omega
 clear hE hS hnn
 go_enter Tryz.func21,Tryz.ntmps21
 go_wp2_with fail
 clear hmk
 go_loopg [11] n (fun g s11 wr => ∃ (k:Nat) (zs:List EnL),k≤n∧g=n-k∧s11=.int .i64 k∧zs.length=k∧Hid (lE zs=(lE xs).take k∧NewE w.heap.size zs)∧RowE wr w.heap.size n zs∧Below w.heap.size w wr)
 case atStart=>exact ⟨0,[],Nat.zero_le _,rfl,rfl,rfl,(⟨by simp [lE],fun _ h=>by cases h⟩:lE []=(lE xs).take 0∧NewE w.heap.size []),HR0.out,by go_grown⟩
 case round =>
  obtain ⟨k,zs,hk,rfl,rfl,hzl,HZ,hRow,hBw⟩:=hrel
  have HRow:Hid (RowE wr w.heap.size n zs):=hRow
  have HBw:Hid (Below w.heap.size w wr):=hBw
  have HZL:Hid (zs.length=k):=hzl
  by_cases hlt:k<n
  ·have hkx:k<xs.length:=by rw [HN.out];exact hlt
   have hki:(k:Int)<(n:Int):=by omega
   obtain ⟨-,-,h0 | ⟨b,o,rfl,hEs⟩⟩:=HE.out.later hBw
   ·have:=HN.out;rw [h0] at this;simp at this;omega
   obtain ⟨c1,c2⟩:=hEs.at hkx
   have HCl:Hid (∀ w',Below wr.heap.size wr w'→Calls Tryz.prog 42 #[.slice (xs.getD k noL).A (xs.getD k noL).e.pl.length (xs.getD k noL).c] w' fun e w''=>(∃ A' c',e=.returned (.slice A' (xs.getD k noL).e.pl.length c')∧PlTy w'' A' c' (xs.getD k noL).e.pl∧NewA w.heap.size A')∧Below w'.heap.size w' w''):=fun w' hw'=>(clone_new _ _ _ w' (HS.out k hkx) ((hEs.pl hkx).later hw')).mono fun _ _ ⟨⟨A',c',h1,h2,h3⟩,h4⟩=>⟨⟨A',c',h1,h2,h3.le (Nat.le_trans HBw.out.size hw'.size)⟩,h4⟩
   have hBo:=ownEn_below wr (xs.getD k noL).A (xs.getD k noL).e.pl.length (xs.getD k noL).c (xs.getD k noL).e.n 68
   have HBo:Hid (Below wr.heap.size wr (ownEn wr (xs.getD k noL).A (xs.getD k noL).e.pl.length (xs.getD k noL).c (xs.getD k noL).e.n 68)):=hBo
   have hzo:=ownEn_size wr (xs.getD k noL).A (xs.getD k noL).e.pl.length (xs.getD k noL).c (xs.getD k noL).e.n 68
   have ho0:=ownEn_0 wr (xs.getD k noL).A (xs.getD k noL).e.pl.length (xs.getD k noL).c (xs.getD k noL).e.n 68
   have ho1:=ownEn_1 wr (xs.getD k noL).A (xs.getD k noL).e.pl.length (xs.getD k noL).c (xs.getD k noL).e.n 68
   have HLE:Hid ((lE xs).take (k+1)=(lE xs).take k ++ [(xs.getD k noL).e]):=by
    show _=_
    rw [List.take_succ_eq_append_getElem (by rw [lE_len];exact hkx),←lE_at,List.getD_eq_getElem?_getD,List.getElem?_eq_getElem (by rw [lE_len];exact hkx)]
    rfl
   have hwg:w.heap.size<wr.heap.size:=hRow.lt
   generalize xs.getD k noL=x at c1 c2 HCl HBo hzo ho0 ho1 HLE
   clear hEs hBo hRow hBw hzl
   have HPut:Hid (∀ (w3:World) (A':Option Addr) (c':Nat),RowE w3 w.heap.size n zs→PlTy w3 A' c' x.e.pl→RowE ((w3.setCell ⟨w.heap.size,k*2,none⟩ (.slice A' x.e.pl.length c')).setCell ⟨w.heap.size,k*2+1,none⟩ (.int .i64 x.e.n)) w.heap.size n (zs ++ [⟨x.e,A',c'⟩])∧w3.grownBy ((w3.setCell ⟨w.heap.size,k*2,none⟩ (.slice A' x.e.pl.length c')).setCell ⟨w.heap.size,k*2+1,none⟩ (.int .i64 x.e.n)) (some w.heap.size)):=fun w3 A' c' h1 h2=>by
    have h3:=h1.put (by rw [HZL.out];exact hlt) (x:=⟨x.e,A',c'⟩) h2
    rw [HZL.out] at h3
    exact h3
   have HLN:Hid (∀ A' c',NewA w.heap.size A'→lE (zs ++ [⟨x.e,A',c'⟩])=(lE xs).take (k+1)∧NewE w.heap.size (zs ++ [⟨x.e,A',c'⟩])):=fun A' c' hn'=>⟨by rw [lE_append,HZ.out.1,HLE.out];rfl,fun y hy=>by
    rcases List.mem_append.1 hy with hy | hy
    ·exact HZ.out.2 y hy
    ·rw [List.mem_singleton.1 hy];exact hn'⟩
   generalize hxl:x.e.pl.length=m at c1 HCl HBo hzo ho0 ho1 HPut
   generalize x.e.n=N at c2 HBo hzo ho0 ho1 HPut
   clear hxl HLE
   go_wp2_with fail
   obtain ⟨W2,hW2⟩:∃ W2,wr.alloc (.cells #[.slice x.A m x.c,.int .i64 N] 68)=W2:=⟨_,rfl⟩
   have hBo:Below wr.heap.size wr W2:=by rw [←hW2];exact HBo.out
   have hz2:wr.heap.size<W2.heap.size:=by rw [←hW2];show _<(ownEn wr x.A m x.c N 68).heap.size;rw [hzo];omega
   have HBox:Hid (wr.heap.size<W2.heap.size∧wr.heap.size≠w.heap.size∧W2.cell? ⟨wr.heap.size,0,none⟩=some (.slice x.A m x.c)∧W2.cell? ⟨wr.heap.size,1,none⟩=some (.int .i64 N)):=by rw [←hW2];exact ⟨by rw [hW2];exact hz2,by omega,ho0,ho1⟩
   have HB2:Hid (Below wr.heap.size wr W2):=hBo
   have HRow2:Hid (RowE W2 w.heap.size n zs):=HRow.out.later hBo
   rw [hW2]
   clear hW2 hBo hzo ho0 ho1 HBo c1 c2
   go_region_held3 (fun w'=>W2.grownBy w' (some w.heap.size)∧w'.cell? ⟨wr.heap.size,0,none⟩=some (.slice x.A m x.c)∧w'.cell? ⟨wr.heap.size,1,none⟩=some (.int .i64 N))
    ((refine keepG HBox.out ?_;(repeat (first | exact grown_refl _ _ | assumption | refine grown_drew ?_ | refine grown_set ?_ _ _));done))
    (first | (go_at_call 42;refine (HCl.out _ (onB HB2.out (by go_grown))).mono ?_;rintro e w3 ⟨⟨A',c',rfl,hPT,hNw⟩,hb3⟩;have hN3:=onB (W0:=W2) (by go_grown) hb3;have HNw:Hid (NewA w.heap.size A'):=hNw;clear hNw;have hG3:W2.grownBy w3 (some w.heap.size):=grown_below hN3;have HB3:Hid (Below W2.heap.size W2 w3):=hN3;have HPT:Hid (PlTy w3 A' c' x.e.pl):=hPT;obtain ⟨u0,d0⟩:=Option.isSome_iff_exists.1 ((HRow2.out.later hN3).full (j:=k*2) (by omega));obtain ⟨u1,d1⟩:=Option.isSome_iff_exists.1 ((HRow2.out.later hN3).full (j:=k*2+1) (by omega));have f0:=(HRow2.out.later hN3).frozen (k*2);have f1:=(HRow2.out.later hN3).frozen (k*2+1);clear hb3 hN3 hPT))
   clear d0 d1 f0 f1 hG3
   go_wp2_with fail
   go_roundg (n-(k+1))
   case measure=>omega
   case rel =>
    obtain ⟨h1,h2⟩:=HPut.out w3 A' c' (HRow2.out.later HB3.out) HPT.out
    refine ⟨k+1,_,by omega,rfl,by go_num,?_,HLN.out A' c' HNw.out,h1,?_⟩
    ·rw [List.length_append,HZL.out];rfl
    ·exact below_grown (onB HBw.out (onB HB2.out HB3.out)) h2 (onB HBw.out (onB HB2.out HB3.out)).size (Nat.le_refl _)
  ·have hke:k=n:=by omega
   subst hke
   have HFin:Hid (lE zs=lE xs∧NewE w.heap.size zs):=⟨by rw [HZ.out.1,List.take_of_length_le (by rw [lE_len,HN.out];exact Nat.le_refl _)],HZ.out.2⟩
   clear hRow hBw hzl
   go_wp2_with fail
   go_ret
   exact ⟨⟨zs,rfl,HRow.out,HFin.out⟩,HBw.out⟩
def Edited (M:Nat) (w:World) (g:Nat) (E:Int) (l:List En) (e:Ending) (w':World):Prop :=
 (∃ B c ys,e=.returned (.tuple #[.slice B ys.length c,errV E])∧((E≠0∧B=none∧c=0∧ys=[])∨(E=0∧∃ g',B=some ⟨g',0,none⟩∧g≤g'∧RowE w' g' c ys∧lE ys=l∧NewE M ys)))∧w.grownBy w' (some g)
theorem edit_set (D:Nat→Dm) (n:Nat) (l:List En) (p:List Int) (N:Int):editErr D n l ⟨p,N,false⟩=entOne D n ⟨p,N⟩:=by
 unfold editErr entOne
 rfl
set_option maxHeartbeats 8000000 in
theorem iset1_any {M:Nat} (A0:Option Addr) (cap n:Nat) (D:Nat→Dm) (A:Nat→Option Addr) (C:Nat→Nat) (g cg:Nat) (xs:List EnL) (Ap:Option Addr) (cp:Nat) (p:List Int) (N:Int) (w:World) (hM:DimsV w A0 cap n D A C) (hP:PlAt w Ap cp p) (hR:RowE w g cg xs) (hEs:Ens D n (lE xs)) (hMx:NewE M xs) (hMw:M≤w.heap.size) :
  Calls Tryz.prog 44 #[.agg #[.slice A0 n cap],.slice (some ⟨g,0,none⟩) xs.length cg,.agg #[.slice Ap p.length cp,.int .i64 N]] w fun e w'=>Edited M w g (editErr D n (lE xs) ⟨p,N,false⟩) (setL (lE xs) p N) e w':=by
 rw [edit_set]
 have hB0:=ownOE_below w A0 n cap Ap p.length cp N
 have h:=icheck1_any A0 cap n D A C Ap cp ⟨p,N⟩ (ownOE w A0 n cap Ap p.length cp N) hEs.right (hM.later hB0) (hP.later hB0)
 have HB0:Hid (Below w.heap.size w (ownOE w A0 n cap Ap p.length cp N)):=hB0
 have hS0:=ownOE_size w A0 n cap Ap p.length cp N
 have h00:=ownOE_0 w A0 n cap Ap p.length cp N
 have h01:=ownOE_1 w A0 n cap Ap p.length cp N
 have HP:Hid (PlAt w Ap cp p):=hP
 have HR:Hid (RowE w g cg xs):=hR
 have HEs:Hid (Ens D n (lE xs)):=hEs
 have hgw:g<w.heap.size:=hR.lt
 have hfew:=few_of hEs
 unfold Edited
 clear hM hP hB0 hR
 by_cases he:entOne D n ⟨p,N⟩=0
 ·obtain ⟨hI,-,-⟩:=entOne_right hEs.right he
  have HF:Hid (∀ w',Below w.heap.size w w'→Calls Tryz.prog 62 #[.slice (some ⟨g,0,none⟩) xs.length cg,.slice Ap p.length cp] w' fun e w''=>e=.returned (.tuple #[.int .i64 (cntE (lE xs) p:Nat),.bool (hasE (lE xs) p)])∧Below w'.heap.size w' w''):=fun w' hw'=>ifind_any _ _ xs Ap cp p w' hfew ((HR.out.later hw').ensV) HEs.out.rise (short_of HEs.out hI) (HP.out.later hw')
  have HCl:Hid (∀ w',Below w.heap.size w w'→Calls Tryz.prog 42 #[.slice Ap p.length cp] w' fun e w''=>(∃ A' c',e=.returned (.slice A' p.length c')∧PlTy w'' A' c' p∧NewA M A')∧Below w'.heap.size w' w''):=fun w' hw'=>(clone_new _ _ _ w' (inO_short hI) (HP.out.later hw')).mono fun _ _ ⟨⟨A',c',h1,h2,h3⟩,h4⟩=>⟨⟨A',c',h1,h2,h3.le (Nat.le_trans hMw hw'.size)⟩,h4⟩
  have hcl:=cnt_le (lE xs) p
  rw [lE_len] at hcl
  rw [he,errV_zero] at h ⊢
  clear he hI
  cases hh:hasE (lE xs) p
  ·-- nothing stood there
   have HIn:Hid (∀ (w3:World) (A':Option Addr) (c':Nat),Below w.heap.size w w3→PlTy w3 A' c' p∧NewA M A'→Calls Tryz.prog 64 #[.slice (some ⟨g,0,none⟩) xs.length cg,.int .i64 (cntE (lE xs) p:Nat),.slice (some ⟨w3.heap.size,0,none⟩) 1 1] (ownEn w3 A' p.length c' N 68) fun e w' => ∃ g' cap' ys,e=.returned (.slice (some ⟨g',0,none⟩) (xs.length+1) cap')∧ys.length=xs.length+1∧RowE w' g' cap' ys∧lE ys=setL (lE xs) p N∧NewE M ys∧g≤g'∧(ownEn w3 A' p.length c' N 68).grownBy w' (some g)):=fun w3 A' c' hw' hT=>by
    have hb:=ownEn_below w3 A' p.length c' N 68
    have h1:=insert_any g cg (cntE (lE xs) p) w3.heap.size xs ⟨⟨p,N⟩,A',c'⟩ (ownEn w3 A' p.length c' N 68) hfew hcl (by have:=hw'.size;omega) ((HR.out.later hw').later hb) (hT.1.later hb) (heap_alloc_new w3 _)
    refine h1.mono ?_
    rintro e w' ⟨g',cap',rfl,hRow,hgg,hgr⟩
    exact ⟨g',cap',_,rfl,by simp;omega,hRow,by rw [lE_ins,set_new hh],hMx.put hT.2,hgg,hgr⟩
   have HFF:Hid (∀ w',Below w.heap.size w w'→Calls Tryz.prog 62 #[.slice (some ⟨g,0,none⟩) xs.length cg,.slice Ap p.length cp] w' fun e w''=>e=.returned (.tuple #[.int .i64 (cntE (lE xs) p:Nat),.bool false])∧Below w'.heap.size w' w''):=fun w' hw'=>by have h1:=HF.out w' hw';rw [hh] at h1;exact h1
   clear HF hh
   generalize cntE (lE xs) p=i at HFF HIn hcl
   obtain ⟨m,hm⟩:∃ m,p.length=m:=⟨_,rfl⟩
   obtain ⟨nx,hnx⟩:∃ nx,xs.length=nx:=⟨_,rfl⟩
   rw [hm] at h HB0 hS0 h00 h01 HCl HFF HIn ⊢
   rw [hnx] at HFF HIn hfew hcl ⊢
   clear hm hnx
   go_enter Tryz.func44,Tryz.ntmps44
   go_wp2_with fail
   refine h.mono ?_
   rintro e w1 ⟨rfl,hb1⟩
   have hB1:Below w.heap.size w w1:=onB HB0.out hb1
   have HB1:Hid (Below w.heap.size w w1):=hB1
   have c0:w1.cell? ⟨w.heap.size+1,0,none⟩=some (.slice Ap m cp):=(hb1.cell (p:=⟨w.heap.size+1,0,none⟩) (by show w.heap.size+1<_;omega)).trans h00
   have c1:w1.cell? ⟨w.heap.size+1,1,none⟩=some (.int .i64 N):=(hb1.cell (p:=⟨w.heap.size+1,1,none⟩) (by show w.heap.size+1<_;omega)).trans h01
   have hz1:w.heap.size+1<w1.heap.size:=by have:=hb1.size;omega
   have h2:=HFF.out w1 hB1
   clear hb1 h hB1 h00 h01 hS0
   go_wp2_with fail
   refine h2.mono ?_
   rintro e w2 ⟨rfl,hb2⟩
   have HB2:Hid (Below w.heap.size w w2):=onB HB1.out hb2
   have d0:w2.cell? ⟨w.heap.size+1,0,none⟩=some (.slice Ap m cp):=(hb2.cell (p:=⟨w.heap.size+1,0,none⟩) hz1).trans c0
   have d1:w2.cell? ⟨w.heap.size+1,1,none⟩=some (.int .i64 N):=(hb2.cell (p:=⟨w.heap.size+1,1,none⟩) hz1).trans c1
   have HBox:Hid (w.heap.size+1<w2.heap.size∧w.heap.size+1≠g∧w2.cell? ⟨w.heap.size+1,0,none⟩=some (.slice Ap m cp)∧w2.cell? ⟨w.heap.size+1,1,none⟩=some (.int .i64 N)):=⟨Nat.lt_of_lt_of_le hz1 hb2.size,by omega,d0,d1⟩
   clear hb2 c0 c1 h2 d0 d1
   go_wp2_with fail
   go_region_held3 (fun w'=>w2.grownBy w' (some g)∧w'.cell? ⟨w.heap.size+1,0,none⟩=some (.slice Ap m cp)∧w'.cell? ⟨w.heap.size+1,1,none⟩=some (.int .i64 N))
    ((refine keepG HBox.out ?_;(repeat (first | exact grown_refl _ _ | assumption | refine grown_drew ?_ | refine grown_set ?_ _ _ | refine grown_new ?_ _));done))
    (first | (go_at_call 42;refine (HCl.out _ (onB HB2.out (by go_grown))).mono ?_;rintro e w3 ⟨⟨A',c',rfl,hPT,hNw⟩,hb3⟩;have hN3:=onB (W0:=w2) (by go_grown) hb3;have hG3:w2.grownBy w3 (some g):=grown_below hN3;have HB3:Hid (Below w2.heap.size w2 w3):=hN3;have HPT:Hid (PlTy w3 A' c' p∧NewA M A'):=⟨hPT,hNw⟩;clear hb3 hN3 hPT hNw) | (go_at_call 64;refine (HIn.out w3 A' c' (onB HB2.out HB3.out) HPT.out).mono ?_;rintro e w4 ⟨g',cap',ys,rfl,hyl,hRow,hle,hnw,hgg,hgr⟩;have hG4:w2.grownBy w4 (some g):=grown_trans (grown_trans hG3 (grown_below (ownEn_below ..))) hgr;have HRow:Hid (RowE w4 g' cap' ys):=hRow;have HLE:Hid (lE ys=setL (lE xs) p N∧NewE M ys):=⟨hle,hnw⟩;have HYL:Hid (ys.length=nx+1):=hyl;clear hRow hle hgr hyl hnw))
   go_wp2_with fail
   go_ret2
   exact ⟨⟨some ⟨g',0,none⟩,cap',ys,by rw [HYL.out];rfl,Or.inr ⟨by trivial,g',rfl,hgg,HRow.out,HLE.out⟩⟩,grown_trans (grown_below HB2.out) hG4⟩
  ·-- something stood there
   obtain ⟨hso,hil,-⟩:=set_old hh N
   have HSN:Hid (∀ w',Below w.heap.size w w'→RowE (w'.setCell ⟨g,cntE (lE xs) p*2+1,none⟩ (.int .i64 N)) g cg (xs.set (cntE (lE xs) p) ⟨⟨(xs.getD (cntE (lE xs) p) noL).e.pl,N⟩,(xs.getD (cntE (lE xs) p) noL).A,(xs.getD (cntE (lE xs) p) noL).c⟩)∧w'.grownBy (w'.setCell ⟨g,cntE (lE xs) p*2+1,none⟩ (.int .i64 N)) (some g)):=fun w' hw'=>(HR.out.later hw').setN (by rw [lE_len] at hil;exact hil) N
   have HLE:Hid (lE (xs.set (cntE (lE xs) p) ⟨⟨(xs.getD (cntE (lE xs) p) noL).e.pl,N⟩,(xs.getD (cntE (lE xs) p) noL).A,(xs.getD (cntE (lE xs) p) noL).c⟩)=setL (lE xs) p N∧NewE M (xs.set (cntE (lE xs) p) ⟨⟨(xs.getD (cntE (lE xs) p) noL).e.pl,N⟩,(xs.getD (cntE (lE xs) p) noL).A,(xs.getD (cntE (lE xs) p) noL).c⟩)):=⟨by rw [lE_set,hso,lE_at],hMx.set (by rw [lE_len] at hil;exact hil) _ _⟩
   have HFF:Hid (∀ w',Below w.heap.size w w'→Calls Tryz.prog 62 #[.slice (some ⟨g,0,none⟩) xs.length cg,.slice Ap p.length cp] w' fun e w''=>e=.returned (.tuple #[.int .i64 (cntE (lE xs) p:Nat),.bool true])∧Below w'.heap.size w' w''):=fun w' hw'=>by have h1:=HF.out w' hw';rw [hh] at h1;exact h1
   have HYL:Hid ((xs.set (cntE (lE xs) p) ⟨⟨(xs.getD (cntE (lE xs) p) noL).e.pl,N⟩,(xs.getD (cntE (lE xs) p) noL).A,(xs.getD (cntE (lE xs) p) noL).c⟩).length=xs.length):=List.length_set
   rw [lE_len] at hil
   clear HF hh hso
   generalize xs.set (cntE (lE xs) p) ⟨⟨(xs.getD (cntE (lE xs) p) noL).e.pl,N⟩,(xs.getD (cntE (lE xs) p) noL).A,(xs.getD (cntE (lE xs) p) noL).c⟩=ys at HSN HLE HYL
   generalize cntE (lE xs) p=i at HFF HSN hcl hil
   obtain ⟨m,hm⟩:∃ m,p.length=m:=⟨_,rfl⟩
   obtain ⟨nx,hnx⟩:∃ nx,xs.length=nx:=⟨_,rfl⟩
   rw [hm] at h HB0 hS0 h00 h01 HCl HFF ⊢
   rw [hnx] at HFF hfew hcl hil HYL ⊢
   have hil':(i:Int)<(nx:Int):=by omega
   have hcg:nx≤cg:=by rw [←hnx];exact HR.out.2.1
   clear hm hnx HCl
   go_enter Tryz.func44,Tryz.ntmps44
   go_wp2_with fail
   refine h.mono ?_
   rintro e w1 ⟨rfl,hb1⟩
   have hB1:Below w.heap.size w w1:=onB HB0.out hb1
   have HB1:Hid (Below w.heap.size w w1):=hB1
   have c0:w1.cell? ⟨w.heap.size+1,0,none⟩=some (.slice Ap m cp):=(hb1.cell (p:=⟨w.heap.size+1,0,none⟩) (by show w.heap.size+1<_;omega)).trans h00
   have c1:w1.cell? ⟨w.heap.size+1,1,none⟩=some (.int .i64 N):=(hb1.cell (p:=⟨w.heap.size+1,1,none⟩) (by show w.heap.size+1<_;omega)).trans h01
   have hz1:w.heap.size+1<w1.heap.size:=by have:=hb1.size;omega
   have h2:=HFF.out w1 hB1
   clear hb1 h hB1 h00 h01 hS0
   go_wp2_with fail
   refine h2.mono ?_
   rintro e w2 ⟨rfl,hb2⟩
   have hB2:Below w.heap.size w w2:=onB HB1.out hb2
   have HB2:Hid (Below w.heap.size w w2):=hB2
   have d1:w2.cell? ⟨w.heap.size+1,1,none⟩=some (.int .i64 N):=(hb2.cell (p:=⟨w.heap.size+1,1,none⟩) hz1).trans c1
   obtain ⟨u,hu⟩:=Option.isSome_iff_exists.1 ((HR.out.later hB2).full (j:=i*2+1) (by omega))
   have hf:=(HR.out.later hB2).frozen (i*2+1)
   clear hb2 c0 c1 h2 hB2
   go_wp2_with fail
   go_ret2
   obtain ⟨r1,r2⟩:=HSN.out w2 HB2.out
   exact ⟨⟨some ⟨g,0,none⟩,cg,ys,by rw [HYL.out];rfl,Or.inr ⟨by trivial,g,rfl,Nat.le_refl _,r1,HLE.out⟩⟩,grown_trans (grown_below HB2.out) r2⟩
 ·have HV:Hid (errV (entOne D n ⟨p,N⟩)=.iface 45 (.int .i64 (entOne D n ⟨p,N⟩))):=errV_some he
  rw [errV_some he] at h
  have HE:Hid (entOne D n ⟨p,N⟩≠0):=he
  generalize entOne D n ⟨p,N⟩=E at h HV HE
  generalize p.length=m at h HB0
  generalize xs.length=nx
  clear he hS0 h00 h01 hfew
  go_enter Tryz.func44,Tryz.ntmps44
  go_wp2_with fail
  refine h.mono ?_
  rintro e w1 ⟨rfl,hb1⟩
  have HB1:Hid (Below w.heap.size w w1):=onB HB0.out hb1
  clear hb1
  go_wp2_with fail
  go_ret2
  rw [HV.out]
  exact ⟨⟨none,0,[],rfl,Or.inl ⟨HE.out,rfl,rfl,rfl⟩⟩,grown_below HB1.out⟩
theorem edit_clr {D:Nat→Dm} {n:Nat} {l:List En} (hR:(allErr D n).2.2=0) (p:List Int) (N:Int):editErr D n l ⟨p,N,true⟩=if placeErr D n p≠0 then placeErr D n p else if hasE l p=true then 0 else 5:=by
 rw [pe1 hR]
 unfold editErr
 rfl
theorem clr_in {l:List En} {p:List Int} (h:hasE l p=true):cntE l p<l.length:=(set_old h 0).2.1
set_option maxHeartbeats 8000000 in
theorem without_any {M:Nat} (A0:Option Addr) (cap n:Nat) (D:Nat→Dm) (A:Nat→Option Addr) (C:Nat→Nat) (g cg:Nat) (xs:List EnL) (Ap:Option Addr) (cp:Nat) (p:List Int) (N:Int) (w:World) (hM:DimsV w A0 cap n D A C) (hP:PlAt w Ap cp p) (hR:RowE w g cg xs) (hEs:Ens D n (lE xs)) (hMx:NewE M xs) :
  Calls Tryz.prog 43 #[.agg #[.slice A0 n cap],.slice (some ⟨g,0,none⟩) xs.length cg,.slice Ap p.length cp] w fun e w'=>Edited M w g (editErr D n (lE xs) ⟨p,N,true⟩) (clrL (lE xs) p) e w':=by
 have hV:=edit_clr (l:=lE xs) hEs.right p N
 have hB0:=ownOut_below w A0 n cap 25
 have h:=pcheck_any A0 cap n D A C Ap cp p (ownOut w A0 n cap 25) (hM.later hB0) (hP.later hB0)
 have HB0:Hid (Below w.heap.size w (ownOut w A0 n cap 25)):=hB0
 have HP:Hid (PlAt w Ap cp p):=hP
 have HR:Hid (RowE w g cg xs):=hR
 have HEs:Hid (Ens D n (lE xs)):=hEs
 have hfew:=few_of hEs
 unfold Edited
 clear hM hP hB0 hR
 by_cases hp:placeErr D n p=0
 ·rw [if_neg (by simpa using hp)] at hV
  have hI:=inO_of hp
  have HF:Hid (∀ w',Below w.heap.size w w'→Calls Tryz.prog 62 #[.slice (some ⟨g,0,none⟩) xs.length cg,.slice Ap p.length cp] w' fun e w''=>e=.returned (.tuple #[.int .i64 (cntE (lE xs) p:Nat),.bool (hasE (lE xs) p)])∧Below w'.heap.size w' w''):=fun w' hw'=>ifind_any _ _ xs Ap cp p w' hfew ((HR.out.later hw').ensV) HEs.out.rise (short_of HEs.out hI) (HP.out.later hw')
  rw [hp,errV_zero] at h
  clear hp hI
  cases hh:hasE (lE xs) p
  ·rw [hh,if_neg (by simp)] at hV
   have HV:Hid (errV (editErr D n (lE xs) ⟨p,N,true⟩)=.iface 45 (.int .i64 5)∧editErr D n (lE xs) ⟨p,N,true⟩≠0):=by rw [hV];exact ⟨rfl,by decide⟩
   have HFF:Hid (∀ w',Below w.heap.size w w'→Calls Tryz.prog 62 #[.slice (some ⟨g,0,none⟩) xs.length cg,.slice Ap p.length cp] w' fun e w''=>e=.returned (.tuple #[.int .i64 (cntE (lE xs) p:Nat),.bool false])∧Below w'.heap.size w' w''):=fun w' hw'=>by have h1:=HF.out w' hw';rw [hh] at h1;exact h1
   clear HF hh hV
   generalize cntE (lE xs) p=i at HFF
   generalize editErr D n (lE xs) ⟨p,N,true⟩=E at HV
   obtain ⟨m,hm⟩:∃ m,p.length=m:=⟨_,rfl⟩
   obtain ⟨nx,hnx⟩:∃ nx,xs.length=nx:=⟨_,rfl⟩
   rw [hm] at h HFF ⊢
   rw [hnx] at HFF hfew ⊢
   clear hm hnx
   go_enter Tryz.func43,Tryz.ntmps43
   go_wp2_with fail
   refine h.mono ?_
   rintro e w1 ⟨rfl,hb1⟩
   have hB1:Below w.heap.size w w1:=onB HB0.out hb1
   have HB1:Hid (Below w.heap.size w w1):=hB1
   have h2:=HFF.out w1 hB1
   clear hb1 h hB1
   go_wp2_with fail
   refine h2.mono ?_
   rintro e w2 ⟨rfl,hb2⟩
   have HB2:Hid (Below w.heap.size w w2):=onB HB1.out hb2
   clear hb2 h2
   go_wp2_with fail
   go_ret2
   rw [HV.out.1]
   exact ⟨⟨none,0,[],rfl,Or.inl ⟨HV.out.2,rfl,rfl,rfl⟩⟩,grown_below HB2.out⟩
  ·rw [hh,if_pos rfl] at hV
   have hil:=clr_in hh
   rw [lE_len] at hil
   have HDel:Hid (∀ w',Below w.heap.size w w'→Calls Tryz.prog 63 #[.slice (some ⟨g,0,none⟩) xs.length cg,.int .i64 (cntE (lE xs) p:Nat),.int .i64 ((cntE (lE xs) p:Int)+1)] w' fun e w''=>e=.returned (.slice (some ⟨g,0,none⟩) (xs.length-1) cg)∧RowE w'' g cg (xs.take (cntE (lE xs) p) ++ xs.drop (cntE (lE xs) p+1))∧w'.grownBy w'' (some g)):=fun w' hw'=>delete_any g cg (cntE (lE xs) p) xs w' hfew hil (HR.out.later hw')
   have HLE:Hid (lE (xs.take (cntE (lE xs) p) ++ xs.drop (cntE (lE xs) p+1))=clrL (lE xs) p∧NewE M (xs.take (cntE (lE xs) p) ++ xs.drop (cntE (lE xs) p+1))):=⟨by unfold clrL;rw [lE_append,lE_take,lE_drop],hMx.cut⟩
   have HYL:Hid ((xs.take (cntE (lE xs) p) ++ xs.drop (cntE (lE xs) p+1)).length=xs.length-1):=by show _=_;simp;omega
   have HFF:Hid (∀ w',Below w.heap.size w w'→Calls Tryz.prog 62 #[.slice (some ⟨g,0,none⟩) xs.length cg,.slice Ap p.length cp] w' fun e w''=>e=.returned (.tuple #[.int .i64 (cntE (lE xs) p:Nat),.bool true])∧Below w'.heap.size w' w''):=fun w' hw'=>by have h1:=HF.out w' hw';rw [hh] at h1;exact h1
   rw [hV,errV_zero]
   clear HF hh hV
   generalize hys:xs.take (cntE (lE xs) p) ++ xs.drop (cntE (lE xs) p+1)=ys at HDel HLE HYL
   clear hys
   generalize cntE (lE xs) p=i at HFF HDel hil
   obtain ⟨m,hm⟩:∃ m,p.length=m:=⟨_,rfl⟩
   obtain ⟨nx,hnx⟩:∃ nx,xs.length=nx:=⟨_,rfl⟩
   rw [hm] at h HFF ⊢
   rw [hnx] at HFF HDel hfew hil HYL ⊢
   have hil':(i:Int)<(nx:Int):=by omega
   clear hm hnx
   go_enter Tryz.func43,Tryz.ntmps43
   go_wp2_with fail
   refine h.mono ?_
   rintro e w1 ⟨rfl,hb1⟩
   have hB1:Below w.heap.size w w1:=onB HB0.out hb1
   have HB1:Hid (Below w.heap.size w w1):=hB1
   have h2:=HFF.out w1 hB1
   clear hb1 h hB1
   go_wp2_with fail
   refine h2.mono ?_
   rintro e w2 ⟨rfl,hb2⟩
   have hB2:Below w.heap.size w w2:=onB HB1.out hb2
   have HB2:Hid (Below w.heap.size w w2):=hB2
   have h3:=HDel.out w2 hB2
   clear hb2 h2 hB2
   go_wp2_with fail
   refine h3.mono ?_
   rintro e w3 ⟨rfl,hRow,hgr⟩
   have HRow:Hid (RowE w3 g cg ys):=hRow
   have HG:Hid (w2.grownBy w3 (some g)):=hgr
   clear hRow hgr h3
   go_wp2_with fail
   go_ret2
   exact ⟨⟨some ⟨g,0,none⟩,cg,ys,by rw [HYL.out];rfl,Or.inr ⟨by trivial,g,rfl,Nat.le_refl _,HRow.out,HLE.out⟩⟩,grown_trans (grown_below HB2.out) HG.out⟩
 ·rw [if_pos (by simpa using hp)] at hV
  have HV:Hid (errV (editErr D n (lE xs) ⟨p,N,true⟩)=.iface 45 (.int .i64 (placeErr D n p))∧editErr D n (lE xs) ⟨p,N,true⟩≠0):=by rw [hV];exact ⟨errV_some hp,hp⟩
  rw [errV_some hp] at h
  clear hp hV
  generalize placeErr D n p=F at h HV
  generalize editErr D n (lE xs) ⟨p,N,true⟩=E at HV
  generalize p.length=m at h
  generalize xs.length=nx
  clear hfew
  go_enter Tryz.func43,Tryz.ntmps43
  go_wp2_with fail
  refine h.mono ?_
  rintro e w1 ⟨rfl,hb1⟩
  have HB1:Hid (Below w.heap.size w w1):=onB HB0.out hb1
  clear hb1
  go_wp2_with fail
  go_ret2
  rw [HV.out.1]
  exact ⟨⟨none,0,[],rfl,Or.inl ⟨HV.out.2,rfl,rfl,rfl⟩⟩,grown_below HB1.out⟩
end Go.Proofs.YtbhanigcjdegjaaGreatDoor
