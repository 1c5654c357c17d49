/-
  All cells of a cube, its faults, the order of its places (plain): what is told of them, and nothing where something is wrong.
-/
import Derived.Test.YtigkeokacagabagGreatDoorJZBC
import Derived.Test.YtigkeokacagabagGreatDoorJZBS
import Derived.Test.YtigkeokacagabagGreatDoorJZBV
import Derived.Test.YtigkeokacagabagGreatDoorJZBY
namespace Go.Proofs.YtigkeokacagabagGreatDoor
open Go.ChangeShapes Go.WideShapes Go.ChangeAt Go.RowKit
section
variable {D:Nat→Dm} {n:Nat}
def cfK (L:List (Int×Int)) (P:Nat→List Int):Nat→List (List Int)
 | 0=>[]
 | k+1=>cfK L P k ++ (if (L.getD k noC).1=2 then [P k] else [])
noncomputable def cfL (D:Nat→Dm) (n:Nat) (l:List En):List (List Int):=cfK (caL D n l) (placeL D n) (caL D n l).length
end
end Go.Proofs.YtigkeokacagabagGreatDoor
namespace Go.Proofs.YtigkeokacagabagGreatDoor
open Go.ChangeShapes Go.WideShapes Go.ChangeAt Go.RowKit
set_option maxRecDepth 20000
theorem parts_none (M:Nat→Mem) {f:Int→Int×Int} (hf:∀ x,f x=(0,0)):∀ (L:List Int),L.foldl (partStep M f) (0,0)=(0,0)
 | []=>rfl
 | k :: L=>by
  have h:partStep M f (0,0) k=(0,0):=by
   unfold partStep
   rw [hf k]
   split
   ·decide
   ·split
    ·decide
    ·rfl
  rw [List.foldl_cons,h]
  exact parts_none M hf L
theorem sol_none {D:Nat→Dm} {n:Nat} (hR:AllR D n) (hf:∀ i,i<n→∀ k,k<(D i).n→((D i).mem k).formula.size=0) {inp:List Int→Int×Int} (hi:∀ p,inp p=(0,0)):∀ (m:Nat) (p:List Int),InO D n p→msrTo D p n<m→solV D n inp p=(0,0):=by
 intro m
 induction m with
 | zero=>intro p _ h;omega
 | succ m ih =>
  intro p hp hm
  rcases by_in D p n with h | ⟨b,hb,hbn⟩
  ·rw [sol_leaf _ (by omega),hi]
  ·have hp0:=hp.lo b hbn
   have hp1:=hp.hi b hbn
   rw [sol_by hR inp hp hb]
   obtain ⟨hd,hmm,-,-⟩:=rErr_right (hR b hbn)
   have hsame:oneV (D b) (fun x=>solV D n inp (p.set b x)) (p.getD b 0).toNat=oneV (D b) (fun _=>(0,0)) (p.getD b 0).toNat:=by
    refine oneV_same hd (hmm _ (by omega)) fun x hx=>?_
    have hxi:=mNd_in hx
    have hrk:=rk_less (hR b hbn) (i:=(p.getD b 0).toNat) (by omega) hx
    rw [Int.toNat_of_nonneg hp0] at hrk
    have hms:=(msr_less (by rw [hp.len];exact hbn) hrk n).2 hbn
    exact ih _ (inO_set hp hbn hxi.1 hxi.2) (by omega)
   rw [hsame]
   unfold oneV
   rw [if_pos (hf b hbn _ (by omega))]
   exact parts_none _ (fun _=>rfl) _
theorem sq_empty {n:Nat} (hn:n≤9):(caL (squareD n) 2 []).length=(n+1)*(n+1)∧(∀ j,j<(n+1)*(n+1)→(caL (squareD n) 2 []).getD j noC=(0,0))∧cfL (squareD n) 2 []=[]:=by
 obtain ⟨hr,hc⟩:=sq_cube hn
 obtain ⟨h1,h2⟩:=square_all ⟨n,by omega⟩
 have h2':prodN (squareD n) 2=(n+1)*(n+1):=h2
 have hl:=caL_len hc
 rw [h2'] at hl
 have hv:∀ j,j<(n+1)*(n+1)→(caL (squareD n) 2 []).getD j noC=(0,0):=fun j hj=>by
  rw [caL_at hc (by rw [h2'];exact hj)]
  refine sol_none (ru_right hr).2 (fun i _ k _=>?_) (fun p=>rfl) _ _ (placeL_in h1) (Nat.lt_succ_self _)
  cases k <;> rfl
 refine ⟨hl,hv,?_⟩
 unfold cfL
 rw [hl]
 have:∀ k,k≤(n+1)*(n+1)→cfK (caL (squareD n) 2 []) (placeL (squareD n) 2) k=[]:=by
  intro k
  induction k with
  | zero=>intro _;rfl
  | succ k ih =>
   intro hk
   rw [cfK,ih (by omega),hv k (by omega)]
   rfl
 exact this _ (Nat.le_refl _)
end Go.Proofs.YtigkeokacagabagGreatDoor
namespace Go.Proofs.YtigkeokacagabagGreatDoor
open Go Go.ChangeShapes Go.WideShapes Go.ChangeAt Go.RowKit
set_option maxRecDepth 20000
def HeadV (w:World) (A:Option Addr) (c:Nat) (L:List Int):Prop:=(A=none∧c=0∧L=[])∨(L≠[]∧PlTy w A c L)
theorem lP_len (xs:List PL):(lP xs).length=xs.length:=by simp [lP]
theorem lP_append (a b:List PL):lP (a ++ b)=lP a ++ lP b:=by simp [lP]
def cellsP (xs:List PL):List Value:=xs.map fun x=>.slice x.A x.p.length x.c
theorem cellsP_append (a b:List PL):cellsP (a ++ b)=cellsP a ++ cellsP b:=by simp [cellsP]
theorem cellsP_at {xs:List PL} {k:Nat} (h:k<xs.length):(cellsP xs)[k]?=some (.slice (xs.getD k noP).A (xs.getD k noP).p.length (xs.getD k noP).c):=by
 simp [cellsP,List.getD,h]
def PlsV (w:World) (A:Option Addr) (cap:Nat) (xs:List PL):Prop:=xs.length≤cap∧(xs=[]∨∃ b o,A=some ⟨b,o,none⟩∧b<w.heap.size∧∀ k,k<xs.length→w.cell? ⟨b,o+k,none⟩=some (.slice (xs.getD k noP).A (xs.getD k noP).p.length (xs.getD k noP).c))∧∀ x∈xs,HeadV w x.A x.c x.p
theorem PlsV.nil (w:World) (A:Option Addr) (cap:Nat):PlsV w A cap []:=⟨Nat.zero_le _,Or.inl rfl,fun x hx=>by cases hx⟩
theorem pls_own {w:World} {base:Nat} {v:Value} {xs:List PL} (h:w.ownsRow base 44 1 v xs.length (cellsP xs)) (hp:∀ x∈xs,x.p≠[]∧PlTy w x.A x.c x.p):∃ A c,v=.slice A xs.length c∧PlsV w A c xs:=by
 rcases h.2 with ⟨rfl,h0⟩ | ⟨g,cap,cur,rfl,hb,hg,hc,_,_,_⟩
 ·have:xs=[]:=List.eq_nil_of_length_eq_zero h0
  subst this
  exact ⟨none,0,rfl,PlsV.nil _ _ _⟩
 ·refine ⟨_,cap,rfl,hc,Or.inr ⟨g,0,rfl,(Array.getElem?_eq_some_iff.1 hg).1,fun k hk=>?_⟩,fun x hx=>Or.inr (hp x hx)⟩
  have y:=h.cells (g:=g) rfl k _ (cellsP_at hk)
  rw [plain_add] at y
  exact y
theorem place_ne_int:(3:Nat)≠44:=by decide
theorem plty_row {w w':World} {base:Nat} {v:Value} {n:Nat} {zs:List Value} {A:Option Addr} {c:Nat} {L:List Int} (h:PlTy w A c L) (hown:w.ownsRow base 44 1 v n zs) (hG:w.grownBy w' v.ownBlock):PlTy w' A c L:=by
 obtain ⟨h1,h2 | ⟨b,o,cs,fr',h2,h3,h4⟩⟩:=h
 ·exact ⟨h1,Or.inl h2⟩
 ·have hne:some b≠v.ownBlock:=by
   intro e
   rcases hown.2 with ⟨rfl,-⟩ | ⟨g,cap,cur,rfl,-,hg,-⟩
   ·cases e
   ·simp only [Value.ownBlock,Option.some.injEq] at e
    rw [e,hg] at h3
    simp only [Option.some.injEq,Obj.cells.injEq] at h3
    exact place_ne_int h3.2.1.symm
  have hb:w'.heap[b]?=w.heap[b]?:=hG.block b (Array.getElem?_eq_some_iff.1 h3).1 hne
  exact ⟨h1,Or.inr ⟨b,o,cs,fr',h2,hb.trans h3,fun j hj=>(World.cell?_of_block (a:=⟨b,o+j,none⟩) hb).trans (h4 j hj)⟩⟩
theorem Tryz.infoPla:(Tryz.prog.info? 44).map (fun i=>(i.zero,i.size,i.bytes))=some (some (.slice none 0 0),1,24):=by kernel_rfl
end Go.Proofs.YtigkeokacagabagGreatDoor
namespace Go.Proofs.YtigkeokacagabagGreatDoor
open Go.ChangeShapes Go.WideShapes Go.ChangeAt Go.RowKit
set_option maxRecDepth 20000
set_option maxHeartbeats 8000000 in
theorem cempty_core (n:Nat) (w:World) (hn1:1≤n) (hn9:n≤9)
  (hAll:∀ w' A0 A C,DimsV w' A0 2 2 (squareD n) A C→Calls Tryz.prog 8 #[.agg #[.slice A0 2 2],.slice none 0 0] w' fun e w''=>(∃ A' c',e=.returned (.tuple #[.slice A' (caL (squareD n) 2 []).length c',errV (cuErr (squareD n) 2 [])])∧CelV w'' A' c' (caL (squareD n) 2 []))∧Below w'.heap.size w' w'')
  (hFau:∀ w' A0 A C,DimsV w' A0 2 2 (squareD n) A C→Calls Tryz.prog 10 #[.agg #[.slice A0 2 2],.slice none 0 0] w' fun e w''=>(∃ A' c' ps,e=.returned (.tuple #[.slice A' ps.length c',errV (cuErr (squareD n) 2 [])])∧lP ps=cfL (squareD n) 2 []∧PlsV w'' A' c' ps)∧Below w'.heap.size w' w'') :
  Calls Tryz.prog 3 #[.int .i64 n] w fun e w'=>e=.returned (.bool true)∧Below w.heap.size w w':=by
 obtain ⟨hl,hv,hf⟩:=sq_empty hn9
 rw [(sq_cube hn9).2,errV_zero] at hAll hFau
 rw [hf] at hFau
 obtain ⟨CL,hCL⟩:∃ CL,caL (squareD n) 2 []=CL:=⟨_,rfl⟩
 rw [hCL] at hAll hl hv
 obtain ⟨N,hN⟩:∃ N,(n+1)*(n+1)=N:=⟨_,rfl⟩
 rw [hN] at hl hv
 have hN100:N≤100:=by rw [←hN];exact Nat.mul_le_mul (by omega:n+1≤10) (by omega:n+1≤10)
 have hNI:((n:Int)+1)*((n:Int)+1)=(N:Int):=by rw [←hN];simp
 have HAll:=hid_of hAll
 have HFau:=hid_of hFau
 have HV:=hid_of hv
 have HL:=hid_of hl
 have hw1:IntKind.i64.wrap ((n:Int)+1)=(n:Int)+1:=by rw [IntKind.wrap_i64];omega
 have hw2:IntKind.i64.wrap (((n:Int)+1)*((n:Int)+1))=(N:Int):=by rw [hNI,IntKind.wrap_i64];omega
 have hn1I:(1:Int)≤(n:Int):=by omega
 have hn9I:(n:Int)≤9:=by omega
 have hsq:=square_any n w (by omega)
 clear hAll hFau hv hl hN hCL hNI
 go_enter Tryz.func3,Tryz.ntmps3
 go_wp2_with fail
 refine hsq.mono ?_
 rintro e w1 ⟨⟨A0,AA,CC,rfl,hD⟩,hb1⟩
 have hc:=HAll.out w1 A0 AA CC hD
 have HB1:=hid_of hb1
 rw [HL.out] at hc
 clear hsq hD hb1
 go_wp2_with fail
 refine hc.mono ?_
 rintro e w2 ⟨⟨A2,c2,rfl,hC2⟩,hb2⟩
 have HB2:Hid (Below w.heap.size w w2):=onB HB1.out hb2
 have HC2:=hid_of hC2
 clear hc hC2 hb2
 go_wp2_with fail
 go_loopg [5] N (fun gg s5 wr => ∃ (k:Nat),k≤N∧gg=N-k∧s5=.int .i64 k∧wr=w2)
 case atStart=>exact ⟨0,Nat.zero_le _,rfl,rfl,rfl⟩
 case round =>
  obtain ⟨k,hk,rfl,rfl,hwr⟩:=hrel
  have hwr2:w2=wr:=hwr.symm
  clear hwr
  subst hwr2
  by_cases hlt:k<N
  ·have hki:(k:Int)<(N:Int):=by omega
   obtain ⟨hcc,-,h0 | ⟨b,o,rfl,hbw,hcl⟩⟩:=HC2.out
   ·have:=HL.out;rw [h0] at this;simp at this;omega
   obtain ⟨c0,-⟩:=hcl k (by rw [HL.out];exact hlt)
   rw [HV.out k hlt] at c0
   rw [HL.out] at hcc
   have hccI:(N:Int)≤(c2:Int):=by omega
   clear hcl
   go_wp2_with fail
   go_roundg (N-(k+1))
   case measure=>omega
   case rel=>exact ⟨k+1,by omega,rfl,by go_num,rfl⟩
  ·have hke:k=N:=by omega
   subst hke
   have hsq:=square_any n w2 (by omega)
   go_wp2_with fail
   refine hsq.mono ?_
   rintro e w3 ⟨⟨A3,AA3,CC3,rfl,hD⟩,hb3⟩
   have hc:=HFau.out w3 A3 AA3 CC3 hD
   have HB3:Hid (Below w.heap.size w w3):=onB HB2.out hb3
   clear hsq hD hb3
   go_wp2_with fail
   refine hc.mono ?_
   rintro e w4 ⟨⟨A4,c4,ps,rfl,hps,-⟩,hb4⟩
   have HB4:Hid (Below w.heap.size w w4):=onB HB3.out hb4
   have hp0:ps.length=0:=by
    have h:=congrArg List.length hps
    rw [lP_len] at h
    exact h
   rw [hp0]
   clear hc hb4 hps hp0
   go_wp2_with fail
   go_ret
   exact ⟨by simp,HB4.out⟩
set_option maxHeartbeats 4000000 in
theorem cempty_law (n:Int) (w:World)
  (hAll:∀ m:Nat,m≤9→∀ w' A0 A C,DimsV w' A0 2 2 (squareD m) A C→Calls Tryz.prog 8 #[.agg #[.slice A0 2 2],.slice none 0 0] w' fun e w''=>(∃ A' c',e=.returned (.tuple #[.slice A' (caL (squareD m) 2 []).length c',errV (cuErr (squareD m) 2 [])])∧CelV w'' A' c' (caL (squareD m) 2 []))∧Below w'.heap.size w' w'')
  (hFau:∀ m:Nat,m≤9→∀ w' A0 A C,DimsV w' A0 2 2 (squareD m) A C→Calls Tryz.prog 10 #[.agg #[.slice A0 2 2],.slice none 0 0] w' fun e w''=>(∃ A' c' ps,e=.returned (.tuple #[.slice A' ps.length c',errV (cuErr (squareD m) 2 [])])∧lP ps=cfL (squareD m) 2 []∧PlsV w'' A' c' ps)∧Below w'.heap.size w' w'') :
  Calls Tryz.prog 3 #[.int .i64 n] w fun e w'=>e=.returned (.bool true)∧Below w.heap.size w w':=by
 by_cases h1:n<1
 ·clear hAll hFau
  go_enter Tryz.func3,Tryz.ntmps3
  go_wp2_with fail
  go_ret
  exact ⟨rfl,Below.refl _ _⟩
 by_cases h2:9<n
 ·clear hAll hFau
  go_enter Tryz.func3,Tryz.ntmps3
  go_wp2_with fail
  go_ret
  exact ⟨rfl,Below.refl _ _⟩
 obtain ⟨m,rfl⟩:∃ m:Nat,n=(m:Int):=⟨n.toNat,by omega⟩
 exact cempty_core m w (by omega) (by omega) (hAll m (by omega)) (hFau m (by omega))
set_option maxHeartbeats 4000000 in
theorem pof_blk (A0:Option Addr) (cap n:Nat) (D:Nat→Dm) (A:Nat→Option Addr) (C:Nat→Nat) (X:Nat) (w:World) (he:(allErr D n).2.2=0) (hXp:X<prodN D n) (hM:DimsV w A0 cap n D A C):Calls Tryz.prog 12 #[.agg #[.slice A0 n cap],.int .i64 X] w fun e w'=>(∃ g,e=.returned (.tuple #[.slice (some ⟨g,0,none⟩) n n,.nilIface])∧w.heap.size≤g∧IntB w' g (placeL D n X))∧Below w.heap.size w w':=by
 have hB0:=ownOut_below w A0 n cap 29
 have h:=pcells_any A0 cap n D A C (ownOut w A0 n cap 29) (hM.later hB0)
 have HB0:Hid (Below w.heap.size w (ownOut w A0 n cap 29)):=hB0
 have HM:Hid (DimsV w A0 cap n D A C):=hM
 clear hM hB0
 obtain ⟨hn1,hn4,hp3,hd⟩:=allErr_some he
 have hcv:cellsV D n=(prodN D n:Int):=by unfold cellsV;rw [if_pos he]
 rw [he,errV_zero,hcv] at h
 clear he hcv
 have hX:X≤3000:=by omega
 have HD:Hid (∀ i,i<n→1≤(D i).n∧(D i).n≤12):=hd
 have hn':(n:Int)≤4:=by omega
 have hn1':(1:Int)≤(n:Int):=by omega
 have hxp:(X:Int)<(prodN D n:Int):=by omega
 have hmk:=run_make_row' (P:=Tryz.prog) 44 3 (.int .i64 0) 8 Tryz.underlying44 Tryz.infoIntP rfl .i64 .i64 n (by omega) (by omega)
 have hbx:decide ((X:Int)<0)=false:=decide_eq_false (by omega)
 have hbp:decide ((prodN D n:Int)≤(X:Int))=false:=decide_eq_false (by omega)
 have hbp':decide (prodN D n≤X)=false:=decide_eq_false (by omega)
 generalize hpn:prodN D n=pn at h hXp hp3 hxp hbp hbp'
 clear hd hpn hXp
 go_enter Tryz.func12,Tryz.ntmps12
 go_wp2_with fail
 refine h.mono ?_
 rintro e w1 ⟨rfl,hb1⟩
 have hB:Below w.heap.size w w1:=onB HB0.out hb1
 have hz:w.heap.size<w1.heap.size:=by have:=hb1.size;rw [ownOut_size] at this;omega
 have h2:w1.cell? ⟨w.heap.size,0,none⟩=some (.slice A0 n cap):=(hb1.cell (p:=⟨w.heap.size,0,none⟩) (by show w.heap.size<_;rw [ownOut_size];omega)).trans (ownOut_at ..)
 obtain ⟨hcap,h0 | ⟨b,o,rfl,hMs⟩⟩:=HM.out.later hB
 ·omega
 have HMs:Hid (DimsAt w1 b o n D A C):=hMs
 have HB:Hid (Below w.heap.size w w1):=hB
 have HSz:Hid (w.heap.size≤w1.heap.size):=Nat.le_of_lt hz
 clear hb1 h hMs hB
 go_wp2_with fail
 clear hmk
 go_loopg [1,9,10] n (fun g s1 s9 s10 wr => ∃ (r:Nat),r≤n∧g=n-r∧s9=.int .i64 ((n:Int)-1-r)∧s1=.int .i64 (restAt D n X r)∧IntB wr w1.heap.size (digL D n X r)∧Below w1.heap.size w1 wr)
 case atStart=>exact ⟨0,Nat.zero_le _,rfl,by simp,rfl,by rw [digL_zero];exact IntB.made w1 n,by go_grown⟩
 case round =>
  obtain ⟨r,hr,rfl,rfl,rfl,hI,hBw⟩:=hrel
  have HI:Hid (IntB wr w1.heap.size (digL D n X r)):=hI
  have HBw:Hid (Below w1.heap.size w1 wr):=hBw
  by_cases hlt:r<n
  ·obtain ⟨k,hk⟩:∃ k:Nat,k=n-1-r:=⟨_,rfl⟩
   have hki:(n:Int)-1-(r:Int)=(k:Int):=by omega
   rw [hki]
   have HK:Hid (k=n-1-r):=hk
   have hkn:k<n:=by omega
   obtain ⟨-,-,h3,-⟩:=(HMs.out.later hBw).2 k hkn
   have c2:wr.cell? ⟨w.heap.size,0,none⟩=some (.slice (some ⟨b,o,none⟩) n cap):=(hBw.cell (p:=⟨w.heap.size,0,none⟩) hz).trans h2
   have hkn':(k:Int)<(n:Int):=by omega
   have c4:=hI.cell (j:=k) (by rw [digL_len];exact hkn)
   have c5:=hI.frozen k
   obtain ⟨hd1,hd2⟩:=HD.out k hkn
   have hre:=restAt_le D n X r
   have HR1:Hid (restAt D n X (r+1)=restAt D n X r / (D k).n):=by show _=_;rw [restAt,hk]
   have HR2:Hid (digitAt D n X k=restAt D n X r % (D k).n):=by show _=_;rw [digitAt,show n-1-k=r by omega]
   have HS:Hid ((digL D n X r).set k (digitAt D n X k:Int)=digL D n X (r+1)):=by show _=_;rw [hk];exact digL_set D n X r hlt
   generalize (digL D n X r).getD k 0=old at c4
   generalize restAt D n X r=R at HR1 HR2 hre
   generalize hm:(D k).n=m at h3 hd1 hd2 HR1 HR2
   have hm1:(1:Int)≤(m:Int):=by omega
   have hm2:(m:Int)≤12:=by omega
   have hR:(R:Int)≤3000:=by omega
   have hR0:(0:Int)≤(R:Int):=by omega
   have hm0:((m:Int) == 0)=false:=by simp;omega
   clear hI hBw hk hki hm
   go_wp2_with fail
   go_roundg (n-(r+1))
   case measure=>omega
   case rel =>
    have hdm:=Nat.div_le_self R m
    have hw:wrap64 ((R:Int) / (m:Int))=((R / m:Nat):Int):=by
     rw [←Int.natCast_ediv]
     exact wrap_small (Nat.le_trans hdm (by omega))
    refine ⟨r+1,by omega,rfl,?_,?_,?_,HBw.out.setCell (by show w1.heap.size≤w1.heap.size;omega) _⟩
    ·have:=HK.out
     congr 1
     omega
    ·rw [hw,HR1.out]
    ·have hs:=HI.out.set k (digitAt D n X k:Int)
     rw [HS.out,HR2.out,Int.natCast_emod] at hs
     exact hs
  ·have hre:r=n:=by omega
   subst hre
   have hk0:(r:Int)-1-(r:Int) = -1:=by omega
   rw [hk0]
   clear hI hBw
   go_wp2_with fail
   go_ret2
   have hp:=HI.out
   rw [digL_all] at hp
   exact ⟨⟨_,rfl,HSz.out,hp⟩,onB HB.out HBw.out⟩
theorem intB_plty {w:World} {g:Nat} {L:List Int} (h:IntB w g L):PlTy w (some ⟨g,0,none⟩) L.length L:=⟨Nat.le_refl _,Or.inr ⟨g,0,_,_,rfl,h,fun j hj=>by rw [Nat.zero_add];exact h.cell hj⟩⟩
theorem PlTy.laterB {w w':World} {A:Option Addr} {c:Nat} {L:List Int} (h:PlTy w A c L) (hB:Below w.heap.size w w'):PlTy w' A c L:=by
 obtain ⟨h1,h2 | ⟨b,o,cs,fr,h2,h3,h4⟩⟩:=h
 ·exact ⟨h1,Or.inl h2⟩
 ·have hb:=(Array.getElem?_eq_some_iff.1 h3).1
  exact ⟨h1,Or.inr ⟨b,o,cs,fr,h2,(hB.block b hb).trans h3,fun j hj=>(hB.cell (p:=⟨b,o+j,none⟩) hb).trans (h4 j hj)⟩⟩
set_option maxHeartbeats 16000000 in
theorem cfaults_any (A0:Option Addr) (cap n:Nat) (D:Nat→Dm) (A:Nat→Option Addr) (C:Nat→Nat) (AE:Option Addr) (ce:Nat) (xs:List EnL) (w:World) (hM:DimsV w A0 cap n D A C) (hEn:EnsV w AE ce xs) :
  Calls Tryz.prog 10 #[.agg #[.slice A0 n cap],.slice AE xs.length ce] w fun e w'=>(∃ A' c' ps,e=.returned (.tuple #[.slice A' ps.length c',errV (cuErr D n (lE xs))])∧lP ps=cfL D n (lE xs)∧PlsV w' A' c' ps)∧Below w.heap.size w w':=by
 obtain ⟨i0,hi0,hz0,hz1,hz2⟩:=info_parts Tryz.infoPla
 have hB0:=ownOut_below w A0 n cap 29
 have hS:=ownOut_size w A0 n cap 29
 have hA:=ownOut_at w A0 n cap 29
 have hal:=call_any A0 cap n D A C AE ce xs (ownOut w A0 n cap 29) (hM.later hB0) (hEn.later hB0)
 obtain ⟨W,hW⟩:∃ W,ownOut w A0 n cap 29=W:=⟨_,rfl⟩
 rw [hW] at hB0 hS hA hal
 unfold ownOut at hW
 have HB0:Hid (Below w.heap.size w W):=hB0
 have hsz:w.heap.size<W.heap.size:=by omega
 have HA:Hid (W.cell? ⟨w.heap.size,0,none⟩=some (.slice A0 n cap)):=hA
 by_cases he:cuErr D n (lE xs)=0
 case neg =>
  have HF:Hid (cfL D n (lE xs)=[]):=by show _=_;unfold cfL;rw [caL_bad he];rfl
  have HEr:Hid (errV (cuErr D n (lE xs))=.iface 83 (.int .i64 (cuErr D n (lE xs)))):=errV_some he
  rw [caL_bad he,errV_some he] at hal
  simp only [List.length_nil] at hal
  generalize xs.length=xl at hal ⊢
  generalize cuErr D n (lE xs)=z at hal HEr
  clear hM hB0 hS hEn he
  go_enter Tryz.func10,Tryz.ntmps10
  go_wp2_with fail
  refine hal.mono ?_
  rintro e w1 ⟨⟨A1,c1,rfl,-⟩,hb1⟩
  have HB1:Hid (Below w.heap.size w w1):=onB HB0.out hb1
  clear hb1 hal hA hW
  go_wp2_with fail
  go_returns
  refine ⟨⟨none,0,[],by rw [HEr.out];rfl,by rw [HF.out];rfl,PlsV.nil _ _ _⟩,HB1.out⟩
 obtain ⟨hru,-⟩:=cu_ru he
 obtain ⟨hE,-⟩:=ru_right hru
 obtain ⟨hn1,hn4,hp3,-⟩:=allErr_some hE
 have HOf:Hid (∀ k w',k<prodN D n→Below w.heap.size w w'→Calls Tryz.prog 12 #[.agg #[.slice A0 n cap],.int .i64 k] w' fun e w''=>(∃ g,e=.returned (.tuple #[.slice (some ⟨g,0,none⟩) n n,.nilIface])∧w'.heap.size≤g∧IntB w'' g (placeL D n k))∧Below w'.heap.size w' w''):=fun k w' hk hB=>pof_blk A0 cap n D A C k w' hE hk (hM.later hB)
 have hcl:=caL_len he
 have HF:Hid (cfL D n (lE xs)=cfK (caL D n (lE xs)) (placeL D n) (prodN D n)):=by show _=_;unfold cfL;rw [hcl]
 rw [he,errV_zero,hcl] at hal
 rw [he,errV_zero]
 generalize caL D n (lE xs)=CL at hal HF hcl
 have HCl:Hid (CL.length=prodN D n):=hcl
 have HPl:Hid (∀ k,(placeL D n k).length=n∧placeL D n k≠[]):=fun k=>⟨placeL_len ..,fun h=>by have:=placeL_len (D:=D) (n:=n) (x:=k);rw [h] at this;simp at this;omega⟩
 generalize placeL D n=PK at HF HOf HPl
 generalize xs.length=xl at hal ⊢
 obtain ⟨N,hN⟩:∃ N,prodN D n=N:=⟨_,rfl⟩
 rw [hN] at hal HOf hp3 HF HCl
 have hNI:(N:Int)≤3000:=by omega
 have hnI:(n:Int)≤4:=by omega
 have HN3:Hid (N≤3000):=hp3
 clear hM hB0 hS hEn he hru hE hcl hN
 go_enter Tryz.func10,Tryz.ntmps10
 go_wp2_with fail
 refine hal.mono ?_
 rintro e w1 ⟨⟨A1,c1,rfl,hC1⟩,hb1⟩
 have HC1:Hid (CelV w1 A1 c1 CL):=hC1
 have HB1:Hid (Below W.heap.size W w1):=hb1
 clear hb1 hal hA hW hC1
 go_wp2_with fail
 go_loopg [8,24] N (fun gg s8 s24 wr => ∃ (k:Nat) (v:Value) (ps:List PL),k≤N∧gg=N-k∧s24=.int .i64 k∧v=s8∧Hid (lP ps=cfK CL PK k∧ps.length≤k∧∀ x∈ps,x.p≠[]∧PlTy wr x.A x.c x.p)∧Hid (wr.ownsRow w1.heap.size 44 1 v ps.length (cellsP ps))∧Hid (Below w1.heap.size w1 wr))
 case atStart=>exact ⟨0,_,[],Nat.zero_le _,rfl,rfl,rfl,hid_of ⟨rfl,Nat.le_refl _,fun x hx=>by cases hx⟩,World.ownsRow_nil _ _ _ _,Below.refl _ _⟩
 case round =>
  obtain ⟨k,v,ps,hk,rfl,rfl,rfl,HP,HO,HBw⟩:=hrel
  by_cases hlt:k<N
  ·have hki:(k:Int)<(N:Int):=by omega
   obtain ⟨hcL,-,h0 | ⟨bc,oc,rfl,hCat⟩⟩:=HC1.out.later HBw.out
   ·have:=HCl.out;rw [h0] at this;simp at this;omega
   obtain ⟨x0,x1⟩:=hCat.2 k (by rw [HCl.out];exact hlt)
   have hbcl:bc<wr.heap.size:=hCat.1
   rw [HCl.out] at hcL
   have hcLI:(N:Int)≤(c1:Int):=by omega
   have HCf:Hid (cfK CL PK (k+1)=cfK CL PK k ++ (if (CL.getD k noC).1=2 then [PK k] else [])):=rfl
   generalize CL.getD k noC=r at x0 x1 HCf
   obtain ⟨ka,na⟩:=r
   simp only at x0 x1 HCf
   obtain ⟨y,hy⟩:∃ y,wr.alloc (.cells #[.int .i64 ka,.int .i64 na] 32)=y:=⟨_,rfl⟩
   have hBy:Below wr.heap.size wr y:=by rw [←hy];go_grown
   obtain ⟨y0,y1,-,-⟩:=pair_at (show y.heap[wr.heap.size]?=some (.cells #[.int .i64 ka,.int .i64 na] 32 (0,0)) from by rw [←hy];exact heap_alloc_new ..)
   have HBy:Hid (Below w1.heap.size w1 y):=onB HBw.out hBy
   have HOy:Hid (y.ownsRow w1.heap.size 44 1 v ps.length (cellsP ps)):=own_later HO.out hBy
   have HPy:Hid (∀ x∈ps,x.p≠[]∧PlTy y x.A x.c x.p):=fun x hx=>⟨(HP.out.2.2 x hx).1,(HP.out.2.2 x hx).2.laterB hBy⟩
   have co:y.cell? ⟨w.heap.size,0,none⟩=some (.slice A0 n cap):=((onB HB1.out HBy.out).cell (p:=⟨w.heap.size,0,none⟩) hsz).trans HA.out
   have hsy:w.heap.size<y.heap.size:=Nat.lt_of_lt_of_le hsz (onB HB1.out HBy.out).size
   have hsry:wr.heap.size<y.heap.size:=by rw [←hy];simp
   clear hCat hBy
   by_cases hf:ka=2
   ·subst hf
    rw [if_pos rfl] at HCf
    have hof:=HOf.out k y hlt (onB HB0.out (onB HB1.out HBy.out))
    go_wp2_with fail
    refine hof.mono ?_
    rintro e w3 ⟨⟨g3,rfl,hg3,hI3⟩,hb3⟩
    have HB3:Hid (Below w1.heap.size w1 w3):=onB HBy.out hb3
    have HO3:Hid (w3.ownsRow w1.heap.size 44 1 v ps.length (cellsP ps)):=own_later HOy.out hb3
    have HP3:Hid (∀ x∈ps ++ [(⟨PK k,some ⟨g3,0,none⟩,n⟩:PL)],x.p≠[]∧PlTy w3 x.A x.c x.p):=fun x hx=>by
     rcases List.mem_append.1 hx with hx | hx
     ·exact ⟨(HPy.out x hx).1,(HPy.out x hx).2.laterB hb3⟩
     ·rw [List.mem_singleton.1 hx]
      have h:=intB_plty hI3
      rw [(HPl.out k).1] at h
      exact ⟨(HPl.out k).2,h⟩
    have hs3:=HB3.out.size
    have hpl:=HP.out.2.1
    obtain ⟨pl,hpl2⟩:∃ pl,ps.length=pl:=⟨_,rfl⟩
    have HPL:Hid (ps.length=pl):=hpl2
    rw [hpl2] at HO3 hpl
    clear hb3 hof hI3 y0 y1 x0 x1 hy hpl2 co
    go_wp2_with (at_builtin;refine wpList_append_own _ rfl _ _ 33 rfl w1.heap.size 44 i0 (.slice none 0 0) 1 24 Tryz.underlying33 hi0 hz0 hz1 hz2 rfl (by decide) _ _ _ rfl (HO3.out.alloc _) ⟨w3.heap.size,0,none⟩ 1 1 [.slice (some ⟨g3,0,none⟩) n n] rfl rfl one_cell (by intro u hu;simp at hu;subst hu;rfl) (by unfold maxLen;omega) (by omega) (by simp;omega) ?_)
    intro v' w4 hown' hgrow _
    have HB4:Hid (Below w1.heap.size w1 w4):=grown_own HB3.out HO3.out hgrow
    have HLn:Hid ((ps ++ [(⟨PK k,some ⟨g3,0,none⟩,n⟩:PL)]).length=pl+1):=by show _=_;rw [List.length_append,HPL.out];rfl
    have HO4:Hid (w4.ownsRow w1.heap.size 44 1 v' (ps ++ [(⟨PK k,some ⟨g3,0,none⟩,n⟩:PL)]).length (cellsP (ps ++ [(⟨PK k,some ⟨g3,0,none⟩,n⟩:PL)]))):=by
     show World.ownsRow ..
     have e:cellsP [(⟨PK k,some ⟨g3,0,none⟩,n⟩:PL)]=[.slice (some ⟨g3,0,none⟩) n n]:=by simp [cellsP,(HPl.out k).1]
     rw [HLn.out,cellsP_append,e]
     exact hown'
    have HP4:Hid (lP (ps ++ [(⟨PK k,some ⟨g3,0,none⟩,n⟩:PL)])=cfK CL PK (k+1)∧(ps ++ [(⟨PK k,some ⟨g3,0,none⟩,n⟩:PL)]).length≤k+1∧∀ x∈ps ++ [(⟨PK k,some ⟨g3,0,none⟩,n⟩:PL)],x.p≠[]∧PlTy w4 x.A x.c x.p):=by
     refine ⟨by rw [lP_append,HP.out.1,HCf.out];rfl,by rw [HLn.out];omega,fun x hx=>⟨(HP3.out x hx).1,?_⟩⟩
     exact plty_row ((HP3.out x hx).2.laterB (by go_grown)) (HO3.out.alloc _) hgrow
    clear hown' hgrow
    go_wp2_with fail
    go_roundg (N-(k+1))
    case measure=>omega
    case rel=>exact ⟨k+1,_,_,by omega,rfl,by go_num,rfl,HP4,HO4,HB4⟩
   ·have hfb:(ka != 2)=true:=by simpa using hf
    rw [if_neg hf,List.append_nil] at HCf
    have HP4:Hid (lP ps=cfK CL PK (k+1)∧ps.length≤k+1∧∀ x∈ps,x.p≠[]∧PlTy y x.A x.c x.p):=⟨by rw [HP.out.1,HCf.out],Nat.le_succ_of_le HP.out.2.1,HPy.out⟩
    clear hf
    go_wp2_with fail
    go_roundg (N-(k+1))
    case measure=>omega
    case rel=>exact ⟨k+1,_,_,by omega,rfl,by go_num,rfl,HP4,HOy,HBy⟩
  ·have hke:k=N:=by omega
   subst hke
   have HF2:Hid (∃ A' c',v=.slice A' ps.length c'∧PlsV wr A' c' ps):=pls_own HO.out HP.out.2.2
   obtain ⟨A',c',rfl,hV⟩:=HF2.out
   have HV:Hid (PlsV wr A' c' ps):=hV
   have HL:Hid (lP ps=cfL D n (lE xs)):=by show _=_;rw [HF.out];exact HP.out.1
   clear hV HF2
   go_wp2_with fail
   go_returns
   exact ⟨⟨A',c',ps,rfl,HL.out,HV.out⟩,onB HB0.out (onB HB1.out HBw.out)⟩
end Go.Proofs.YtigkeokacagabagGreatDoor
namespace Go.Proofs.YtigkeokacagabagGreatDoor
open Go.ChangeShapes Go.WideShapes Go.ChangeAt Go.RowKit
theorem ens_none (w:World):EnsV w none 0 []:=EnsV.nil w none 0 (Nat.zero_le _)
theorem cempty_full (n:Int) (w:World):Calls Tryz.prog 3 #[.int .i64 n] w fun e w'=>e=.returned (.bool true)∧Below w.heap.size w w' :=
 cempty_law n w (fun m _ w' A0 A C hD=>call_any A0 2 2 (squareD m) A C none 0 [] w' hD (ens_none w')) (fun m _ w' A0 A C hD=>cfaults_any A0 2 2 (squareD m) A C none 0 [] w' hD (ens_none w'))
end Go.Proofs.YtigkeokacagabagGreatDoor
