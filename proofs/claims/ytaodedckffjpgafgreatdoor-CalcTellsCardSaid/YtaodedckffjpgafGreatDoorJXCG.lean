/-
  The places that tell each place, as rows of numbers: all are places, and none needs itself at last (plain).
-/
import Derived.Test.YtaodedckffjpgafGreatDoorJXBE
import Derived.Test.YtaodedckffjpgafGreatDoorJXBM
import Derived.Test.YtaodedckffjpgafGreatDoorJXBR
namespace Go.Proofs.YtaodedckffjpgafGreatDoor
open Go.ChangeShapes Go.WideShapes Go.ChangeAt Go.RowKit
section
variable {D:Nat→Dm} {n:Nat}
theorem told_inn (hR:AllR D n) (hE:(allErr D n).2.2=0) {N:List (List Int)} (hl:N.length=prodN D n) (hT:∀ i,i<prodN D n→ToldP D n (placeL D n i) (N.getD i [])):Inn N:=fun i hi x hx=>by
 obtain ⟨j,h1,h2,-⟩:=told_less hR hE (hT i (by omega)) hx
 omega
theorem told_acyc (hR:AllR D n) (hE:(allErr D n).2.2=0) {N:List (List Int)} (hl:N.length=prodN D n) (hT:∀ i,i<prodN D n→ToldP D n (placeL D n i) (N.getD i [])) (i:Nat) (hi:i<N.length):cycB N i=false:=by
 rw [cyc_not]
 intro hr
 have key:∀ {a b:Int},Rch N a b→∀ x:Nat,a=(x:Int)→x<prodN D n→∃ y:Nat,b=(y:Int)∧y<prodN D n∧msrTo D (placeL D n y) n<msrTo D (placeL D n x) n:=by
  intro a b hab
  induction hab with
  | one hx =>
   intro x hax hxn
   subst hax
   unfold rowN at hx
   rw [Int.toNat_natCast] at hx
   exact told_less hR hE (hT x hxn) hx
  | more hx _ ih =>
   intro x hax hxn
   subst hax
   unfold rowN at hx
   rw [Int.toNat_natCast] at hx
   obtain ⟨y,h1,h2,h3⟩:=told_less hR hE (hT x hxn) hx
   obtain ⟨z,h4,h5,h6⟩:=ih y h1 h2
   exact ⟨z,h4,h5,by omega⟩
 obtain ⟨y,h1,-,h3⟩:=key hr i rfl (by omega)
 have:y=i:=by omega
 subst this
 omega
end
section
variable {D:Nat→Dm} {n:Nat}
def StpN (D:Nat→Dm) (n i j:Nat):Prop := ∃ b:Nat,byTo D (placeL D n i) n=(b:Int)∧∃ x∈mNd (D b) ((placeL D n i).getD b 0).toNat,(j:Int)=numI D ((placeL D n i).set b x) n
theorem stp_iff {i j:Nat} {T:List Int} (hT:ToldP D n (placeL D n i) T):StpN D n i j↔(j:Int)∈T:=(hT.2.2 _).symm
end
section
variable {D:Nat→Dm} {n:Nat}
noncomputable def stpB (D:Nat→Dm) (n i j:Nat):Bool := @decide (StpN D n i j) (Classical.propDecidable _)
theorem stpB_iff {i j:Nat}:stpB D n i j=true↔StpN D n i j:=by unfold stpB;exact @decide_eq_true_iff _ (Classical.propDecidable _)
noncomputable def telL (D:Nat→Dm) (n i:Nat):List Int:=selTo (stpB D n i) (prodN D n)
theorem told_eq (hR:AllR D n) (hE:(allErr D n).2.2=0) {i:Nat} {T:List Int} (hT:ToldP D n (placeL D n i) T):T=telL D n i :=
 rise_eq _ _ hT.1 (sel_rise _ _) fun x=>⟨fun hx=>by
  obtain ⟨j,rfl,hj,-⟩:=told_less hR hE hT hx
  exact sel_has hj (stpB_iff.2 ((stp_iff hT).2 hx)),fun hx=>by
  obtain ⟨m,rfl,-,hp⟩:=selTo_mem _ hx
  exact (stp_iff hT).1 (stpB_iff.1 hp)⟩
noncomputable def rowsL (D:Nat→Dm) (n:Nat):List (List Int):=(List.range (prodN D n)).map (telL D n)
theorem rows_len:(rowsL D n).length=prodN D n:=by simp [rowsL]
theorem rows_at {i:Nat} (hi:i<prodN D n):(rowsL D n).getD i []=telL D n i:=by
 unfold rowsL
 rw [List.getD_eq_getElem?_getD,List.getElem?_map,List.getElem?_range hi]
 rfl
theorem rows_eq (hR:AllR D n) (hE:(allErr D n).2.2=0) {N:List (List Int)} (hl:N.length=prodN D n) (hT:∀ i,i<prodN D n→ToldP D n (placeL D n i) (N.getD i [])):N=rowsL D n:=by
 refine List.ext_getElem (by rw [hl,rows_len]) fun i h1 h2=>?_
 have h3:i<prodN D n:=by omega
 have e:=told_eq hR hE (hT i h3)
 rw [List.getD_eq_getElem?_getD,List.getElem?_eq_getElem h1] at e
 have e2:=rows_at (D:=D) (n:=n) h3
 rw [List.getD_eq_getElem?_getD,List.getElem?_eq_getElem h2] at e2
 exact e.trans e2.symm
noncomputable def caL (D:Nat→Dm) (n:Nat) (l:List En):List (Int×Int):=if cuErr D n l=0 then (List.range (prodN D n)).map (fun j=>solV D n (getE l) (placeL D n j)) else []
theorem caL_bad {l:List En} (h:cuErr D n l≠0):caL D n l=[]:=by unfold caL;rw [if_neg h]
theorem caL_len {l:List En} (h:cuErr D n l=0):(caL D n l).length=prodN D n:=by unfold caL;rw [if_pos h];simp
theorem caL_at {l:List En} (h:cuErr D n l=0) {j:Nat} (hj:j<prodN D n):(caL D n l).getD j noC=solV D n (getE l) (placeL D n j):=by
 unfold caL
 rw [if_pos h,List.getD_eq_getElem?_getD,List.getElem?_map,List.getElem?_range hj]
 rfl
theorem ca_eq {l:List En} (h:cuErr D n l=0) {L:List (Int×Int)} (hl:L.length=prodN D n) (hv:∀ j,j<prodN D n→L.getD j noC=solV D n (getE l) (placeL D n j)):L=caL D n l:=by
 refine List.ext_getElem (by rw [hl,caL_len h]) fun i h1 h2=>?_
 have h3:i<prodN D n:=by omega
 have e:=(hv i h3).trans (caL_at h h3).symm
 rw [List.getD_eq_getElem?_getD,List.getElem?_eq_getElem h1,List.getD_eq_getElem?_getD,List.getElem?_eq_getElem h2] at e
 exact e
def cfK (L:List (Int×Int)) (P:Nat→List Int):Nat→List (List Int)
 | 0=>[]
 | k+1=>cfK L P k ++ (if (L.getD k noC).1=2 then [P k] else [])
theorem cfK_len (L:List (Int×Int)) (P:Nat→List Int):∀ k,(cfK L P k).length≤k
 | 0=>Nat.le_refl _
 | k+1=>by
  rw [cfK,List.length_append]
  have:=cfK_len L P k
  split <;> simp <;> omega
noncomputable def cfL (D:Nat→Dm) (n:Nat) (l:List En):List (List Int):=cfK (caL D n l) (placeL D n) (caL D n l).length
theorem ordTo_le (N:List (List Int)):∀ k,(ordTo N k).length≤k
 | 0=>Nat.le_refl _
 | k+1=>by
  have:=ordTo_le N k
  rw [ordTo]
  split <;> simp <;> omega
noncomputable def coL (D:Nat→Dm) (n:Nat):List Int:=if (ruErr D n).2.2=0 then ordTo (rowsL D n) (prodN D n) else []
theorem cu_ru {l:List En} (h:cuErr D n l=0):(ruErr D n).2.2=0∧entsErr D n l=0:=by
 have h4:(ruErr D n).2.2=0:=by
  by_cases h2:(ruErr D n).2.2=0
  ·exact h2
  ·unfold cuErr at h;rw [if_pos h2] at h;exact absurd h h2
 exact ⟨h4,by unfold cuErr at h;rw [h4,if_neg (by simp)] at h;exact h⟩
end
end Go.Proofs.YtaodedckffjpgafGreatDoor
namespace Go.Proofs.YtaodedckffjpgafGreatDoor
open Go.ChangeShapes Go.WideShapes Go.ChangeAt Go.RowKit
set_option maxRecDepth 20000
set_option maxHeartbeats 4000000 in
theorem rat_blk (A0:Option Addr) (cap n:Nat) (D:Nat→Dm) (A:Nat→Option Addr) (C:Nat→Nat) (X:Nat) (w:World) (hR:(allErr D n).2.2=0) (hX:X<prodN D n) (hM:DimsV w A0 cap n D A C):Calls Tryz.prog 24 #[.agg #[.slice A0 n cap],.int .i64 X] w fun e w'=>(∃ g,e=.returned (.slice (some ⟨g,0,none⟩) n n)∧w.heap.size<g∧IntB w' g (placeL D n X))∧Below w.heap.size w w':=by
 obtain ⟨hn1,hn4,hp3,hd⟩:=allErr_some hR
 have HD:Hid (∀ i,i<n→1≤(D i).n∧(D i).n≤12):=hd
 have hn':(n:Int)≤4:=by omega
 have hn1':(1:Int)≤(n:Int):=by omega
 have hX3:X≤3000:=by omega
 have hmk:=run_make_row' (P:=Tryz.prog) 44 3 (.int .i64 0) 8 Tryz.underlying44 Tryz.infoIntP rfl .i64 .i64 n (by omega) (by omega)
 obtain ⟨hcap,h0 | ⟨b,o,rfl,hMs⟩⟩:=hM
 ·omega
 obtain ⟨w1,hw1⟩:∃ w1,w1=ownOut w (some ⟨b,o,none⟩) n cap 42:=⟨_,rfl⟩
 have hB1:Below w.heap.size w w1:=by rw [hw1];exact ownOut_below ..
 have h2:w1.cell? ⟨w.heap.size,0,none⟩=some (.slice (some ⟨b,o,none⟩) n cap):=by rw [hw1];exact ownOut_at ..
 have hz1:w1.heap.size=w.heap.size+1:=by rw [hw1];exact ownOut_size ..
 have HMs:Hid (DimsAt w1 b o n D A C):=hMs.later hB1
 have HB1:Hid (Below w.heap.size w w1):=hB1
 have H2:Hid (w1.cell? ⟨w.heap.size,0,none⟩=some (.slice (some ⟨b,o,none⟩) n cap)):=h2
 have HZ1:Hid (w1.heap.size=w.heap.size+1):=hz1
 have HW1:Hid (w1=ownOut w (some ⟨b,o,none⟩) n cap 42):=hw1
 have HI0:Hid (IntB (w1.alloc (.cells (madeCells #[.int .i64 0] n) 3)) w1.heap.size (digL D n X 0)):=by show IntB _ _ _;rw [digL_zero];exact IntB.made w1 n
 have HBm:Hid (Below w1.heap.size w1 (w1.alloc (.cells (madeCells #[.int .i64 0] n) 3))):=by show Below _ _ _;go_grown
 rw [hw1] at HI0 HBm
 unfold ownOut at HI0 HBm
 clear hd hMs hB1 h2 hz1 hw1 hX hp3 hR
 go_enter Tryz.func24,Tryz.ntmps24
 go_wp2_with fail
 clear hmk
 go_loopg [1,6,7] n (fun g s1 s6 s7 wr => ∃ (r:Nat),r≤n∧g=n-r∧s6=.int .i64 ((n:Int)-1-r)∧s1=.int .i64 (restAt D n X r)∧IntB wr w1.heap.size (digL D n X r)∧Below w1.heap.size w1 wr)
 case atStart=>exact ⟨0,Nat.zero_le _,rfl,by simp,rfl,by rw [HW1.out];exact HI0.out,by rw [HW1.out];exact HBm.out⟩
 case round =>
  obtain ⟨r,hr,rfl,rfl,rfl,hI,hBw⟩:=hrel
  have HI:Hid (IntB wr w1.heap.size (digL D n X r)):=hI
  have HBw:Hid (Below w1.heap.size w1 wr):=hBw
  by_cases hlt:r<n
  ·obtain ⟨k,hk⟩:∃ k:Nat,k=n-1-r:=⟨_,rfl⟩
   have hki:(n:Int)-1-(r:Int)=(k:Int):=by omega
   rw [hki]
   have HK:Hid (k=n-1-r):=hk
   have hkn:k<n:=by omega
   obtain ⟨-,-,h3,-⟩:=(HMs.out.later hBw).2 k hkn
   have c2:wr.cell? ⟨w.heap.size,0,none⟩=some (.slice (some ⟨b,o,none⟩) n cap):=(hBw.cell (p:=⟨w.heap.size,0,none⟩) (by show w.heap.size<_;rw [HZ1.out];omega)).trans H2.out
   have hkn':(k:Int)<(n:Int):=by omega
   have c4:=hI.cell (j:=k) (by rw [digL_len];exact hkn)
   have c5:=hI.frozen k
   rw [HZ1.out] at c4 c5
   obtain ⟨hd1,hd2⟩:=HD.out k hkn
   have hre:=restAt_le D n X r
   have HR1:Hid (restAt D n X (r+1)=restAt D n X r / (D k).n):=by show _=_;rw [restAt,hk]
   have HR2:Hid (digitAt D n X k=restAt D n X r % (D k).n):=by show _=_;rw [digitAt,show n-1-k=r by omega]
   have HS:Hid ((digL D n X r).set k (digitAt D n X k:Int)=digL D n X (r+1)):=by show _=_;rw [hk];exact digL_set D n X r hlt
   generalize (digL D n X r).getD k 0=old at c4
   generalize restAt D n X r=R at HR1 HR2 hre
   generalize hm:(D k).n=m at h3 hd1 hd2 HR1 HR2
   have hm1:(1:Int)≤(m:Int):=by omega
   have hm2:(m:Int)≤12:=by omega
   have hRR:(R:Int)≤3000:=by omega
   have hR0:(0:Int)≤(R:Int):=by omega
   have hm0:((m:Int) == 0)=false:=by simp;omega
   clear hI hBw hk hki hm
   go_wp2_with fail
   go_roundg (n-(r+1))
   case measure=>omega
   case rel =>
    have hdm:=Nat.div_le_self R m
    have hw:wrap64 ((R:Int) / (m:Int))=((R / m:Nat):Int):=by
     rw [←Int.natCast_ediv]
     exact wrap_small (Nat.le_trans hdm (by omega))
    refine ⟨r+1,by omega,rfl,?_,?_,?_,HBw.out.setCell (by show w1.heap.size≤w.heap.size+1;rw [HZ1.out];exact Nat.le_refl _) _⟩
    ·have:=HK.out
     congr 1
     omega
    ·rw [hw,HR1.out]
    ·have hs:=HI.out.set k (digitAt D n X k:Int)
     rw [HS.out,HR2.out,Int.natCast_emod] at hs
     rw [HZ1.out] at hs ⊢
     exact hs
  ·have hre:r=n:=by omega
   subst hre
   have hk0:(r:Int)-1-(r:Int) = -1:=by omega
   rw [hk0]
   clear hI hBw
   go_wp2_with fail
   go_ret
   have hp:=HI.out
   rw [digL_all] at hp
   rw [HZ1.out] at hp
   exact ⟨⟨_,rfl,Nat.lt_succ_self _,hp⟩,onB HB1.out HBw.out⟩
end Go.Proofs.YtaodedckffjpgafGreatDoor
namespace Go.Proofs.YtaodedckffjpgafGreatDoor
open Go Go.ChangeShapes Go.WideShapes Go.ChangeAt Go.RowKit
set_option maxRecDepth 20000
structure PL where
 p:List Int
 A:Option Addr
 c:Nat
def noP:PL:=⟨[],none,0⟩
def lP (xs:List PL):List (List Int):=xs.map PL.p
theorem lP_len (xs:List PL):(lP xs).length=xs.length:=by simp [lP]
theorem lP_append (a b:List PL):lP (a ++ b)=lP a ++ lP b:=by simp [lP]
def cellsP (xs:List PL):List Value:=xs.map fun x=>.slice x.A x.p.length x.c
theorem cellsP_append (a b:List PL):cellsP (a ++ b)=cellsP a ++ cellsP b:=by simp [cellsP]
theorem pl_mem {xs:List PL} {k:Nat} (h:k<xs.length):xs.getD k noP∈xs:=by
 rw [List.getD_eq_getElem?_getD,List.getElem?_eq_getElem h]
 exact List.getElem_mem h
theorem lP_at (xs:List PL) (k:Nat):(lP xs).getD k []=(xs.getD k noP).p:=by
 rw [List.getD_eq_getElem?_getD,List.getD_eq_getElem?_getD,lP,List.getElem?_map]
 cases xs[k]? <;> rfl
theorem cellsP_at {xs:List PL} {k:Nat} (h:k<xs.length):(cellsP xs)[k]?=some (.slice (xs.getD k noP).A (xs.getD k noP).p.length (xs.getD k noP).c):=by
 simp [cellsP,List.getD,h]
def PlsV (w:World) (A:Option Addr) (cap:Nat) (xs:List PL):Prop:=xs.length≤cap∧(xs=[]∨∃ b o,A=some ⟨b,o,none⟩∧b<w.heap.size∧∀ k,k<xs.length→w.cell? ⟨b,o+k,none⟩=some (.slice (xs.getD k noP).A (xs.getD k noP).p.length (xs.getD k noP).c))∧∀ x∈xs,HeadV w x.A x.c x.p
theorem PlsV.later {w w':World} {A:Option Addr} {cap:Nat} {xs:List PL} (h:PlsV w A cap xs) (hB:Below w.heap.size w w'):PlsV w' A cap xs:=by
 obtain ⟨h1,h2,h3⟩:=h
 refine ⟨h1,?_,fun x hx=>(h3 x hx).later hB⟩
 rcases h2 with h2 | ⟨b,o,h2,h4,h5⟩
 ·exact Or.inl h2
 ·exact Or.inr ⟨b,o,h2,Nat.lt_of_lt_of_le h4 hB.size,fun k hk=>(hB.cell (p:=⟨b,o+k,none⟩) h4).trans (h5 k hk)⟩
theorem PlsV.nil (w:World) (A:Option Addr) (cap:Nat):PlsV w A cap []:=⟨Nat.zero_le _,Or.inl rfl,fun x hx=>by cases hx⟩
theorem pls_own {w:World} {base:Nat} {v:Value} {xs:List PL} (h:w.ownsRow base 44 1 v xs.length (cellsP xs)) (hp:∀ x∈xs,x.p≠[]∧PlTy w x.A x.c x.p):∃ A c,v=.slice A xs.length c∧PlsV w A c xs:=by
 rcases h.2 with ⟨rfl,h0⟩ | ⟨g,cap,cur,rfl,hb,hg,hc,_,_,_⟩
 ·have:xs=[]:=List.eq_nil_of_length_eq_zero h0
  subst this
  exact ⟨none,0,rfl,PlsV.nil _ _ _⟩
 ·refine ⟨_,cap,rfl,hc,Or.inr ⟨g,0,rfl,(Array.getElem?_eq_some_iff.1 hg).1,fun k hk=>?_⟩,fun x hx=>Or.inr (hp x hx)⟩
  have y:=h.cells (g:=g) rfl k _ (cellsP_at hk)
  rw [plain_add] at y
  exact y
theorem place_ne_int:(3:Nat)≠44:=by decide
theorem plty_row {w w':World} {base:Nat} {v:Value} {n:Nat} {zs:List Value} {A:Option Addr} {c:Nat} {L:List Int} (h:PlTy w A c L) (hown:w.ownsRow base 44 1 v n zs) (hG:w.grownBy w' v.ownBlock):PlTy w' A c L:=by
 obtain ⟨h1,h2 | ⟨b,o,cs,fr',h2,h3,h4⟩⟩:=h
 ·exact ⟨h1,Or.inl h2⟩
 ·have hne:some b≠v.ownBlock:=by
   intro e
   rcases hown.2 with ⟨rfl,-⟩ | ⟨g,cap,cur,rfl,-,hg,-⟩
   ·cases e
   ·simp only [Value.ownBlock,Option.some.injEq] at e
    rw [e,hg] at h3
    simp only [Option.some.injEq,Obj.cells.injEq] at h3
    exact place_ne_int h3.2.1.symm
  have hb:w'.heap[b]?=w.heap[b]?:=hG.block b (Array.getElem?_eq_some_iff.1 h3).1 hne
  exact ⟨h1,Or.inr ⟨b,o,cs,fr',h2,hb.trans h3,fun j hj=>(World.cell?_of_block (a:=⟨b,o+j,none⟩) hb).trans (h4 j hj)⟩⟩
theorem Tryz.infoPla:(Tryz.prog.info? 44).map (fun i=>(i.zero,i.size,i.bytes))=some (some (.slice none 0 0),1,24):=by kernel_rfl
end Go.Proofs.YtaodedckffjpgafGreatDoor
