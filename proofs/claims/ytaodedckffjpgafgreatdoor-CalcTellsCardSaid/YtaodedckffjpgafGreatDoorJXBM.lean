/-
  What All of package rules, and the document's own Rules, answer, in whatever memory: which dim of an outline is wrong, in which member, and how.
-/
import Derived.Test.YtaodedckffjpgafGreatDoorJXBI
import Derived.Test.YtaodedckffjpgafGreatDoorJXBL
namespace Go.Proofs.YtaodedckffjpgafGreatDoor
open Go.ChangeShapes Go.WideShapes Go.ChangeAt Go.RowKit
set_option maxRecDepth 20000
set_option maxHeartbeats 4000000 in
theorem srules_any (A0:Option Addr) (cap n:Nat) (D:Nat→Dm) (A:Nat→Option Addr) (C:Nat→Nat) (w:World) (hM:DimsV w A0 cap n D A C):Calls Tryz.prog 42 #[.agg #[.slice A0 n cap]] w fun e w'=>e=.returned (.tuple #[.int .i64 (ruErr D n).1,.int .i64 (ruErr D n).2.1,.int .i64 (ruErr D n).2.2])∧Below w.heap.size w w':=by
 have hB0:=ownOut_below w A0 n cap 42
 have hS:=ownOut_size w A0 n cap 42
 have hA:=ownOut_at w A0 n cap 42
 have hal:=routline_any A0 cap n D A C (ownOut w A0 n cap 42) (hM.later hB0)
 obtain ⟨W,hW⟩:∃ W,ownOut w A0 n cap 42=W:=⟨_,rfl⟩
 rw [hW] at hB0 hS hA hal
 unfold ownOut at hW
 have HB0:Hid (Below w.heap.size w W):=hB0
 have HM:Hid (DimsV w A0 cap n D A C):=hM
 have hsz:w.heap.size<W.heap.size:=by omega
 clear hM hB0
 by_cases he:(allErr D n).2.2=0
 case neg =>
  rw [ru0 he]
  have hne:((allErr D n).2.2 != 0)=true:=by simpa using he
  generalize (allErr D n).1=x at hal ⊢
  generalize (allErr D n).2.1=y at hal ⊢
  generalize (allErr D n).2.2=c at hal hne ⊢
  clear he
  go_enter Tryz.func42,Tryz.ntmps42
  go_wp2_with fail
  refine hal.mono ?_
  rintro e w1 ⟨rfl,hb1⟩
  go_wp2_with fail
  go_returns
  exact ⟨rfl,onB HB0.out hb1⟩
 obtain ⟨hn1,hn4,-,-⟩:=allErr_some he
 have HE:Hid ((allErr D n).2.2=0):=he
 rw [he] at hal
 generalize (allErr D n).1=x at hal
 generalize (allErr D n).2.1=y at hal
 have hnI:(n:Int)≤4:=by omega
 have HA:Hid (W.cell? ⟨w.heap.size,0,none⟩=some (.slice A0 n cap)):=hA
 clear he
 go_enter Tryz.func42,Tryz.ntmps42
 go_wp2_with fail
 refine hal.mono ?_
 rintro e w1 ⟨rfl,hb1⟩
 have HB1:Hid (Below W.heap.size W w1):=hb1
 clear hb1 hal hA hW
 go_wp2_with fail
 go_loopg [8] n (fun g s8 wr => ∃ (k:Nat),k≤n∧g=n-k∧s8=.int .i64 k∧Hid (∀ j,j<k→(rErr (D j)).2=0)∧Below W.heap.size W wr)
 case atStart=>exact ⟨0,Nat.zero_le _,rfl,rfl,(fun j hj=>absurd hj (Nat.not_lt_zero _):∀ j,j<0→_),HB1.out⟩
 case round =>
  obtain ⟨k,hk,rfl,rfl,HK,hBw⟩:=hrel
  have HBw:Hid (Below W.heap.size W wr):=hBw
  have cw:wr.cell? ⟨w.heap.size,0,none⟩=some (.slice A0 n cap):=(hBw.cell (p:=⟨w.heap.size,0,none⟩) hsz).trans HA.out
  have hszr:w.heap.size<wr.heap.size:=Nat.lt_of_lt_of_le hsz hBw.size
  by_cases hlt:k<n
  ·have hki:(k:Int)<(n:Int):=by omega
   obtain ⟨hcap,h0 | ⟨b,o,rfl,hMs⟩⟩:=HM.out.later (onB HB0.out hBw)
   ·omega
   have hcapI:(n:Int)≤(cap:Int):=by omega
   obtain ⟨h0,h1,h2,h3⟩:=hMs.2 k hlt
   have hbl:b<wr.heap.size:=hMs.1
   have hck:=sneeds_any (D k) (A k) (C k) wr h3
   unfold dimV at hck
   clear h3 hMs hBw
   by_cases he:(rErr (D k)).2=0
   ·have HK2:Hid (∀ j,j<k+1→(rErr (D j)).2=0):=fun j hj=>by
     by_cases e:j=k
     ·rw [e];exact he
     ·exact HK.out j (by omega)
    rw [he] at hck
    generalize (rErr (D k)).1=z at hck
    clear he
    go_wp2_with fail
    refine hck.mono ?_
    rintro e w2 ⟨⟨A2,c2,xs,rfl,-⟩,hb2⟩
    have HB2:Hid (Below W.heap.size W w2):=onB HBw.out hb2
    clear hb2 hck
    go_wp2_with fail
    go_roundg (n-(k+1))
    case measure=>omega
    case rel=>exact ⟨k+1,by omega,rfl,by go_num,HK2,HB2.out⟩
   ·have HRu:Hid (ruErr D n=((k:Int),(rErr (D k)).1,(rErr (D k)).2)):=ru1 HE.out hlt he HK.out
    have hne:((rErr (D k)).2 != 0)=true:=by simpa using he
    generalize (rErr (D k)).1=z at hck HRu
    generalize (rErr (D k)).2=c at hck HRu hne
    clear he
    go_wp2_with fail
    refine hck.mono ?_
    rintro e w2 ⟨⟨A2,c2,xs,rfl,-⟩,hb2⟩
    have HB2:Hid (Below W.heap.size W w2):=onB HBw.out hb2
    clear hb2 hck
    go_wp2_with fail
    go_returns
    rw [HRu.out]
    exact ⟨rfl,onB HB0.out HB2.out⟩
  ·have hke:k=n:=by omega
   subst hke
   have HRu:Hid (ruErr D k=(-1,-1,0)):=ru2 HE.out HK.out
   clear hBw
   go_wp2_with fail
   go_returns
   rw [HRu.out]
   exact ⟨rfl,onB HB0.out HBw.out⟩
theorem sright_any (A0:Option Addr) (cap n:Nat) (D:Nat→Dm) (A:Nat→Option Addr) (C:Nat→Nat) (w:World) (hM:DimsV w A0 cap n D A C):Calls Tryz.prog 19 #[.agg #[.slice A0 n cap]] w fun e w'=>e=.returned (.int .i64 (ruErr D n).2.2)∧Below w.heap.size w w':=by
 have hB0:=ownOut_below w A0 n cap 42
 have hA:=ownOut_at w A0 n cap 42
 have h:=srules_any A0 cap n D A C (ownOut w A0 n cap 42) (hM.later hB0)
 obtain ⟨W,hW⟩:∃ W,ownOut w A0 n cap 42=W:=⟨_,rfl⟩
 rw [hW] at hB0 hA h
 unfold ownOut at hW
 have HB0:Hid (Below w.heap.size w W):=hB0
 generalize (ruErr D n).1=x at h
 generalize (ruErr D n).2.1=y at h
 generalize (ruErr D n).2.2=z at h ⊢
 clear hM hB0
 go_enter Tryz.func19,Tryz.ntmps19
 go_wp2_with fail
 refine h.mono ?_
 rintro e w1 ⟨rfl,hb1⟩
 go_wp2_with fail
 go_ret
 exact ⟨rfl,onB HB0.out hb1⟩
set_option maxHeartbeats 2000000 in
theorem scube_any (A0:Option Addr) (cap n:Nat) (D:Nat→Dm) (A:Nat→Option Addr) (C:Nat→Nat) (AE:Option Addr) (ce:Nat) (xs:List EnL) (w:World) (hM:DimsV w A0 cap n D A C) (hE:EnsV w AE ce xs):Calls Tryz.prog 14 #[.agg #[.slice A0 n cap],.slice AE xs.length ce] w fun e w'=>e=.returned (.int .i64 (cuErr D n (lE xs)))∧Below w.heap.size w w':=by
 have hB0:=ownOut_below w A0 n cap 42
 have hS:=ownOut_size w A0 n cap 42
 have hA:=ownOut_at w A0 n cap 42
 have h:=sright_any A0 cap n D A C (ownOut w A0 n cap 42) (hM.later hB0)
 obtain ⟨W,hW⟩:∃ W,ownOut w A0 n cap 42=W:=⟨_,rfl⟩
 rw [hW] at hB0 hS hA h
 unfold ownOut at hW
 have HB0:Hid (Below w.heap.size w W):=hB0
 have HM:Hid (DimsV w A0 cap n D A C):=hM
 have HE:Hid (EnsV w AE ce xs):=hE
 have hsz:w.heap.size<W.heap.size:=by omega
 have HEn:Hid (∀ w',Below w.heap.size w w'→Calls Tryz.prog 36 #[.agg #[.slice A0 n cap],.slice AE xs.length ce] w' fun r w''=>r=.returned (.int .i64 (entsErr D n (lE xs)))∧Below w'.heap.size w' w''):=fun w' hB=>rentries_any A0 cap n D A C AE ce xs w' (hM.later hB) (hE.later hB)
 generalize xs.length=xl at HEn ⊢
 clear hM hB0 hE
 by_cases he:(ruErr D n).2.2=0
 ·have HC:Hid (cuErr D n (lE xs)=entsErr D n (lE xs)):=by show _=_;unfold cuErr;rw [if_neg (by simpa using he)]
  rw [he] at h
  clear he
  go_enter Tryz.func14,Tryz.ntmps14
  go_wp2_with fail
  refine h.mono ?_
  rintro e w1 ⟨rfl,hb1⟩
  have cw:=(hb1.cell (p:=⟨w.heap.size,0,none⟩) hsz).trans hA
  have hsz1:w.heap.size<w1.heap.size:=Nat.lt_of_lt_of_le hsz hb1.size
  have hen:=HEn.out w1 (onB HB0.out hb1)
  have HB1:Hid (Below w.heap.size w w1):=onB HB0.out hb1
  clear hb1 h hA
  go_wp2_with fail
  refine hen.mono ?_
  rintro e w2 ⟨rfl,hb2⟩
  go_wp2_with fail
  go_ret
  exact ⟨by rw [HC.out];rfl,onB HB1.out hb2⟩
 ·have HC:Hid (cuErr D n (lE xs)=(ruErr D n).2.2):=by show _=_;unfold cuErr;rw [if_pos he]
  have hb:((ruErr D n).2.2 == 0)=false:=by simpa using he
  generalize (ruErr D n).2.2=c at h HC hb
  clear he
  go_enter Tryz.func14,Tryz.ntmps14
  go_wp2_with fail
  refine h.mono ?_
  rintro e w1 ⟨rfl,hb1⟩
  go_wp2_with fail
  go_ret
  exact ⟨by rw [HC.out];rfl,onB HB0.out hb1⟩
structure R2 where
 xs:List RL
 A:Option Addr
 c:Nat
def noR2:R2:=⟨[],none,0⟩
def cells2 (ys:List R2):List Value:=ys.map fun y=>.slice y.A y.xs.length y.c
theorem cells2_append (a b:List R2):cells2 (a ++ b)=cells2 a ++ cells2 b:=by simp [cells2]
theorem r2_mem {ys:List R2} {k:Nat} (h:k<ys.length):ys.getD k noR2∈ys:=by
 rw [List.getD_eq_getElem?_getD,List.getElem?_eq_getElem h]
 exact List.getElem_mem h
theorem cells2_at {ys:List R2} {k:Nat} (h:k<ys.length):(cells2 ys)[k]?=some (.slice (ys.getD k noR2).A (ys.getD k noR2).xs.length (ys.getD k noR2).c):=by
 simp [cells2,List.getD,h]
def Rows2V (w:World) (A:Option Addr) (cap:Nat) (ys:List R2):Prop:=ys.length≤cap∧(ys=[]∨∃ b,A=some ⟨b,0,none⟩∧b<w.heap.size∧∀ k,k<ys.length→w.cell? ⟨b,k,none⟩=some (.slice (ys.getD k noR2).A (ys.getD k noR2).xs.length (ys.getD k noR2).c))∧∀ y∈ys,RowsV w y.A y.c y.xs
theorem Rows2V.later {w w':World} {A:Option Addr} {cap:Nat} {ys:List R2} (h:Rows2V w A cap ys) (hB:Below w.heap.size w w'):Rows2V w' A cap ys:=by
 obtain ⟨h1,h2,h3⟩:=h
 refine ⟨h1,?_,fun x hx=>(h3 x hx).later hB⟩
 rcases h2 with h2 | ⟨b,h2,h4,h5⟩
 ·exact Or.inl h2
 ·exact Or.inr ⟨b,h2,Nat.lt_of_lt_of_le h4 hB.size,fun k hk=>(hB.cell (p:=⟨b,k,none⟩) h4).trans (h5 k hk)⟩
theorem rows2_own {w:World} {base:Nat} {v:Value} {ys:List R2} (h:w.ownsRow base 70 1 v ys.length (cells2 ys)) (hp:∀ y∈ys,RowsV w y.A y.c y.xs):∃ A c,v=.slice A ys.length c∧Rows2V w A c ys:=by
 rcases h.2 with ⟨rfl,h0⟩ | ⟨g,cap,cur,rfl,hb,hg,hc,_,_,_⟩
 ·have:ys=[]:=List.eq_nil_of_length_eq_zero h0
  subst this
  exact ⟨none,0,rfl,Nat.zero_le _,Or.inl rfl,fun x hx=>by cases hx⟩
 ·refine ⟨_,cap,rfl,hc,Or.inr ⟨g,rfl,(Array.getElem?_eq_some_iff.1 hg).1,fun k hk=>?_⟩,hp⟩
  have y:=h.cells (g:=g) rfl k _ (cells2_at hk)
  have hadd:(⟨g,0,none⟩:Addr).add k=⟨g,k,none⟩:=by unfold Addr.add;split <;> simp_all
  rw [hadd] at y
  exact y
theorem row2_ne_int:(3:Nat)≠70:=by decide
theorem row2_ne_row:(27:Nat)≠70:=by decide
theorem off_row2 {w w':World} {base:Nat} {v:Value} {n b T:Nat} {zs:List Value} {cs:Array Value} {fr:Nat×Nat} (hown:w.ownsRow base 70 1 v n zs) (hG:w.grownBy w' v.ownBlock) (hb:w.heap[b]?=some (.cells cs T fr)) (hT:T≠70):w'.heap[b]?=w.heap[b]?:=by
 refine hG.block b (Array.getElem?_eq_some_iff.1 hb).1 fun e=>?_
 rcases hown.2 with ⟨rfl,-⟩ | ⟨g,cap,cur,rfl,-,hg,-⟩
 ·cases e
 ·simp only [Value.ownBlock,Option.some.injEq] at e
  rw [e,hg] at hb
  simp only [Option.some.injEq,Obj.cells.injEq] at hb
  exact hT hb.2.1.symm
theorem RowsV.row2 {w w':World} {base:Nat} {v:Value} {n:Nat} {zs:List Value} {A:Option Addr} {c:Nat} {xs:List RL} (h:RowsV w A c xs) (hT:RowsT w A xs) (hown:w.ownsRow base 70 1 v n zs) (hG:w.grownBy w' v.ownBlock):RowsV w' A c xs∧RowsT w' A xs:=by
 obtain ⟨h1,h2,h3⟩:=h
 have h3':∀ x∈xs,IntT w' x.A x.c x.p:=fun x hx=>(h3 x hx).keep fun b cs fr hb=>off_row2 hown hG hb row2_ne_int
 rcases hT with hT | ⟨b,cs,fr,hA,hb⟩
 ·subst hT
  exact ⟨⟨h1,Or.inl rfl,h3'⟩,Or.inl rfl⟩
 ·have he:=off_row2 hown hG hb row2_ne_row
  refine ⟨⟨h1,?_,h3'⟩,Or.inr ⟨b,cs,fr,hA,he.trans hb⟩⟩
  rcases h2 with h2 | ⟨b',h2,h4,h5⟩
  ·exact Or.inl h2
  ·rw [hA] at h2
   cases h2
   exact Or.inr ⟨b,hA,Nat.lt_of_lt_of_le h4 hG.size,fun k hk=>(World.cell?_of_block (a:=⟨b,k,none⟩) he).trans (h5 k hk)⟩
theorem Tryz.infoRow2:(Tryz.prog.info? 70).map (fun i=>(i.zero,i.size,i.bytes))=some (some (.slice none 0 0),1,24):=by kernel_rfl
set_option maxHeartbeats 4000000 in
theorem smembers_any (A0:Option Addr) (cap n:Nat) (D:Nat→Dm) (A:Nat→Option Addr) (C:Nat→Nat) (w:World) (hn4:n≤4) (hR:AllR D n) (hM:DimsV w A0 cap n D A C):Calls Tryz.prog 53 #[.agg #[.slice A0 n cap]] w fun e w'=>(∃ A' c' ys,e=.returned (.slice A' n c')∧ys.length=n∧Rows2V w' A' c' ys∧∀ i,i<n→lR (ys.getD i noR2).xs=ndL (D i))∧Below w.heap.size w w':=by
 obtain ⟨i0,hi0,hz0,hz1,hz2⟩:=info_parts Tryz.infoRow2
 have hB0:=ownOut_below w A0 n cap 42
 have hS:=ownOut_size w A0 n cap 42
 have hA:=ownOut_at w A0 n cap 42
 obtain ⟨W,hW⟩:∃ W,ownOut w A0 n cap 42=W:=⟨_,rfl⟩
 rw [hW] at hB0 hS hA
 unfold ownOut at hW
 have HB0:Hid (Below w.heap.size w W):=hB0
 have HM:Hid (DimsV w A0 cap n D A C):=hM
 have HA:Hid (W.cell? ⟨w.heap.size,0,none⟩=some (.slice A0 n cap)):=hA
 have HR:Hid (AllR D n):=hR
 have hsz:w.heap.size<W.heap.size:=by omega
 have hnI:(n:Int)≤4:=by omega
 clear hM hB0 hA hR hS
 go_enter Tryz.func53,Tryz.ntmps53
 go_wp2_with fail
 clear hW
 go_loopg [3,4] n (fun g s3 s4 wr => ∃ (k:Nat) (ys:List R2),k≤n∧g=n-k∧s4=.int .i64 k∧Hid (ys.length=k∧(∀ i,i<k→lR (ys.getD i noR2).xs=ndL (D i))∧∀ y∈ys,RowsV wr y.A y.c y.xs∧RowsT wr y.A y.xs)∧wr.ownsRow W.heap.size 70 1 s3 k (cells2 ys)∧Below W.heap.size W wr)
 case atStart=>exact ⟨0,[],Nat.zero_le _,rfl,rfl,(⟨rfl,fun i hi=>absurd hi (Nat.not_lt_zero _),fun y hy=>by cases hy⟩:_∧_∧_),World.ownsRow_nil _ _ _ _,Below.refl _ _⟩
 case round =>
  obtain ⟨k,ys,hk,rfl,rfl,HY,hO,hBw⟩:=hrel
  have HO:Hid (wr.ownsRow W.heap.size 70 1 u3 k (cells2 ys)):=hO
  have HBw:Hid (Below W.heap.size W wr):=hBw
  have cw:wr.cell? ⟨w.heap.size,0,none⟩=some (.slice A0 n cap):=(hBw.cell (p:=⟨w.heap.size,0,none⟩) hsz).trans HA.out
  have hszr:w.heap.size<wr.heap.size:=Nat.lt_of_lt_of_le hsz hBw.size
  by_cases hlt:k<n
  ·have hki:(k:Int)<(n:Int):=by omega
   obtain ⟨hcap,h0 | ⟨b,o,rfl,hMs⟩⟩:=HM.out.later (onB HB0.out hBw)
   ·omega
   have hcapI:(n:Int)≤(cap:Int):=by omega
   obtain ⟨h0,h1,h2,h3⟩:=hMs.2 k hlt
   have hbl:b<wr.heap.size:=hMs.1
   have hnd:=sneeds_any (D k) (A k) (C k) wr h3
   unfold dimV at hnd
   have hek:=HR.out k hlt
   rw [hek] at hnd
   generalize (rErr (D k)).1=z at hnd
   clear h3 hMs hBw hO hek
   go_wp2_with fail
   refine hnd.mono ?_
   rintro e w2 ⟨⟨A2,c2,xs,rfl,hV,hL,hT⟩,hb2⟩
   have HB2:Hid (Below W.heap.size W w2):=onB HBw.out hb2
   have HO2:Hid (w2.ownsRow W.heap.size 70 1 u3 k (cells2 ys)):=own_later HO.out hb2
   have HY2:Hid (∀ y∈ys,RowsV w2 y.A y.c y.xs∧RowsT w2 y.A y.xs):=fun y hy=>⟨(HY.out.2.2 y hy).1.later hb2,(HY.out.2.2 y hy).2.later hb2⟩
   have HV2:Hid (RowsV w2 A2 c2 xs∧RowsT w2 A2 xs∧lR xs=ndL (D k)):=⟨hV,hT,hL trivial⟩
   have hs2:=HB2.out.size
   obtain ⟨xl,hxl⟩:∃ xl,xs.length=xl:=⟨_,rfl⟩
   have HXl:Hid (xs.length=xl):=hxl
   rw [hxl]
   clear hb2 hnd hV hL hT hxl h0 h1 h2
   go_wp2_with (at_builtin;refine wpList_append_own _ rfl _ _ 100 rfl W.heap.size 70 i0 (.slice none 0 0) 1 24 Tryz.underlying100 hi0 hz0 hz1 hz2 rfl (by decide) _ _ _ rfl (HO2.out.alloc _) ⟨w2.heap.size,0,none⟩ 1 1 [.slice A2 xl c2] rfl rfl one_cell (by intro u hu;simp at hu;subst hu;rfl) (by unfold maxLen;omega) (by omega) (by simp;omega) ?_)
   intro v' w3 hown' hgrow _
   have HB3:Hid (Below W.heap.size W w3):=grown_own HB2.out HO2.out hgrow
   have HY3:Hid ((ys ++ [(⟨xs,A2,c2⟩:R2)]).length=k+1∧(∀ i,i<k+1→lR ((ys ++ [(⟨xs,A2,c2⟩:R2)]).getD i noR2).xs=ndL (D i))∧∀ y∈ys ++ [(⟨xs,A2,c2⟩:R2)],RowsV w3 y.A y.c y.xs∧RowsT w3 y.A y.xs):=by
    have hlen:=HY.out.1
    refine ⟨by rw [List.length_append,hlen];rfl,fun i hi=>?_,fun y hy=>?_⟩
    ·by_cases e:i=k
     ·rw [e,List.getD_eq_getElem?_getD,List.getElem?_append_right (by omega),hlen,Nat.sub_self]
      exact HV2.out.2.2
     ·rw [List.getD_eq_getElem?_getD,List.getElem?_append_left (by omega),←List.getD_eq_getElem?_getD]
      exact HY.out.2.1 i (by omega)
    ·rcases List.mem_append.1 hy with hy | hy
     ·exact ((HY2.out y hy).1.later (by go_grown)).row2 ((HY2.out y hy).2.later (by go_grown)) (HO2.out.alloc _) hgrow
     ·rw [List.mem_singleton.1 hy]
      exact (HV2.out.1.later (by go_grown)).row2 (HV2.out.2.1.later (by go_grown)) (HO2.out.alloc _) hgrow
   have HO3:Hid (w3.ownsRow W.heap.size 70 1 v' (k+1) (cells2 (ys ++ [(⟨xs,A2,c2⟩:R2)]))):=by
    show World.ownsRow ..
    rw [cells2_append]
    have e:cells2 [(⟨xs,A2,c2⟩:R2)]=[.slice A2 xl c2]:=by simp [cells2,HXl.out]
    rw [e]
    exact hown'
   clear hown' hgrow
   go_wp2_with fail
   go_roundg (n-(k+1))
   case measure=>omega
   case rel=>exact ⟨k+1,_,by omega,rfl,by go_num,HY3,HO3.out,HB3.out⟩
  ·have hke:k=n:=by omega
   subst hke
   have HF:Hid (∃ A' c',u3=.slice A' k c'∧Rows2V wr A' c' ys):=by
    have hlen:=HY.out.1
    have h:=hO
    rw [←hlen] at h
    obtain ⟨A',c',e,hv⟩:=rows2_own h fun y hy=>(HY.out.2.2 y hy).1
    rw [hlen] at e
    exact ⟨A',c',e,hv⟩
   clear hO hBw
   go_wp2_with fail
   go_ret
   obtain ⟨A',c',e,hv⟩:=HF.out
   exact ⟨⟨A',c',ys,by rw [←e];rfl,HY.out.1,hv,HY.out.2.1⟩,onB HB0.out HBw.out⟩
set_option maxHeartbeats 8000000 in
theorem stold_any (A0:Option Addr) (cap n:Nat) (D:Nat→Dm) (A:Nat→Option Addr) (C:Nat→Nat) (AN:Option Addr) (cN:Nat) (ys:List R2) (Ap:Option Addr) (cp:Nat) (L:List Int) (w:World) (hR:AllR D n) (hI:InO D n L) (hM:DimsV w A0 cap n D A C) (hyl:ys.length=n) (hY:Rows2V w AN cN ys) (hyn:∀ i,i<n→lR (ys.getD i noR2).xs=ndL (D i)) (hP:PlAt w Ap cp L) :
  Calls Tryz.prog 55 #[.agg #[.slice A0 n cap],.slice AN n cN,.slice Ap L.length cp] w fun e w'=>(∃ A' c' T,e=.returned (.slice A' T.length c')∧RiseV w' A' c' T∧ToldP D n L T)∧Below w.heap.size w w':=by
 obtain ⟨hn1,hn4,-,hd⟩:=allErr_some hI.right
 have hnI:(n:Int)≤4:=by omega
 have hl:=hI.len
 have hB0:=ownOut_below w A0 n cap 42
 have hS:=ownOut_size w A0 n cap 42
 have hA:=ownOut_at w A0 n cap 42
 have hby:=sby_any A0 cap n D A C Ap cp L (ownOut w A0 n cap 42) hI (hM.later hB0) (hP.later hB0)
 obtain ⟨W,hW⟩:∃ W,ownOut w A0 n cap 42=W:=⟨_,rfl⟩
 rw [hW] at hB0 hS hA hby
 unfold ownOut at hW
 have HB0:Hid (Below w.heap.size w W):=hB0
 have HM:Hid (DimsV w A0 cap n D A C):=hM
 have HA:Hid (W.cell? ⟨w.heap.size,0,none⟩=some (.slice A0 n cap)):=hA
 have HR:Hid (AllR D n):=hR
 have HI:Hid (InO D n L):=hI
 have HP:Hid (PlAt w Ap cp L):=hP
 have HY:Hid (Rows2V w AN cN ys):=hY
 have HYn:Hid (∀ i,i<n→lR (ys.getD i noR2).xs=ndL (D i)):=hyn
 have HYl:Hid (ys.length=n):=hyl
 have HLn:Hid (L.length=n):=hl
 have HD12:Hid (∀ i,i<n→(D i).n≤12):=fun i hi=>(hd i hi).2
 have hsz:w.heap.size<W.heap.size:=by omega
 rw [hl] at hby ⊢
 clear hM hB0 hR hI hP hY hyn hyl hl hd hS
 rcases by_in D L n with hneg | ⟨b,hb,hbn⟩
 ·have HT:Hid (ToldP D n L []):=⟨List.Pairwise.nil,Nat.zero_le _,fun z=>⟨fun h=>(by cases h),fun ⟨b,h1,_⟩=>(by rw [hneg] at h1;omega)⟩⟩
  rw [hneg] at hby
  clear hneg
  go_enter Tryz.func55,Tryz.ntmps55
  go_wp2_with fail
  refine hby.mono ?_
  rintro e w1 ⟨rfl,hb1⟩
  go_wp2_with fail
  go_ret
  exact ⟨⟨none,0,[],rfl,RiseV.nil _,HT.out⟩,onB HB0.out hb1⟩
 ·rw [hb] at hby
  have HBy:Hid (byTo D L n=(b:Int)):=hb
  have hbI:(b:Int)<(n:Int):=by omega
  have hb0:decide ((b:Int)<0)=false:=decide_eq_false (by omega)
  have hp0:=HI.out.lo b hbn
  have hp1:=HI.out.hi b hbn
  obtain ⟨x,hx⟩:∃ x:Nat,L.getD b 0=(x:Int):=⟨(L.getD b 0).toNat,by omega⟩
  have HX:Hid (L.getD b 0=(x:Int)):=hx
  have hxn:x<(D b).n:=by omega
  clear hb
  go_enter Tryz.func55,Tryz.ntmps55
  go_wp2_with fail
  refine hby.mono ?_
  rintro e w1 ⟨rfl,hb1⟩
  have HB1:Hid (Below W.heap.size W w1):=hb1
  have hBw1:=onB HB0.out hb1
  have HBw1:Hid (Below w.heap.size w w1):=hBw1
  obtain ⟨hcN,hy0 | ⟨g2,rfl,hg2,hc2⟩,hr2⟩:=HY.out.later hBw1
  ·have:=HYl.out;rw [hy0] at this;simp at this;omega
  have cy:=hc2 b (by rw [HYl.out];exact hbn)
  have hry:=hr2 _ (r2_mem (k:=b) (by rw [HYl.out];exact hbn))
  have hrn:=HYn.out b hbn
  rw [HYl.out] at hcN
  have hcNi:(n:Int)≤(cN:Int):=by omega
  have hxl:(ys.getD b noR2).xs.length=(D b).n:=by rw [←lR_len,hrn,ndL_len]
  rw [hxl] at cy
  obtain ⟨hcx,hx0 | ⟨g1,hg1,hgl1,hc1⟩,hr1⟩:=hry
  ·rw [hx0] at hxl;simp at hxl;omega
  have cx:=hc1 x (by omega)
  have hTx:=hr1 _ (rl_mem (k:=x) (by omega))
  have HMx:Hid (((ys.getD b noR2).xs.getD x noR).p=mNd (D b) x):=by show _=_;rw [←lR_at,hrn,ndL_at hxn]
  rw [HMx.out] at cx hTx
  rw [hg1] at cy
  rw [hxl] at hcx
  generalize ((ys.getD b noR2).xs.getD x noR).A=Ax at cx hTx
  generalize ((ys.getD b noR2).xs.getD x noR).c=ccx at cx hTx
  generalize (ys.getD b noR2).c=ccy at cy hcx
  obtain ⟨hcP,hP0 | ⟨bp,op,rfl,hbp,hcp⟩⟩:=HP.out.later hBw1
  ·have:=HLn.out;rw [hP0] at this;simp at this;omega
  have cpb:=hcp b (by rw [HLn.out];exact hbn)
  rw [HX.out] at cpb
  rw [HLn.out] at hcP
  have hcPi:(n:Int)≤(cp:Int):=by omega
  have hxI:(x:Int)<((D b).n:Int):=by omega
  have hcxi:((D b).n:Int)≤(ccy:Int):=by omega
  have hd12:=HD12.out b hbn
  have HTx:Hid (IntT w1 Ax ccx (mNd (D b) x)):=hTx
  have HMl:Hid ((mNd (D b) x).length≤12):=Nat.le_trans (mNd_len (D b) x) hd12
  obtain ⟨m,hm⟩:∃ m,(mNd (D b) x).length=m:=⟨_,rfl⟩
  have HMm:Hid ((mNd (D b) x).length=m):=hm
  rw [hm] at cx HMl
  have hmI:(m:Int)≤12:=by have:=HMl.out;omega
  generalize (D b).n=dn at cy hcx hxI hcxi hd12
  clear hb1 hBw1 hby hc2 hr2 hc1 hr1 hTx hrn hxl hm hW hA
  go_wp2_with fail
  go_quiet (fail)
  obtain ⟨w2,hw2⟩:∃ w2,w1.drewN nq=w2:=⟨_,rfl⟩
  have HB2:Hid (Below w1.heap.size w1 w2):=by rw [←hw2];exact below_drewN (Below.refl _ _) _
  rw [hw2]
  clear hw2 cy cx cpb
  obtain ⟨M,hM⟩:∃ M,mNd (D b) x=M:=⟨_,rfl⟩
  have HMe:Hid (mNd (D b) x=M):=hM
  rw [hM] at HTx HMm
  clear hM
  go_wp2_with fail
  go_loopg [8,10] m (fun g s8 s10 wi => ∃ (t:Nat) (T:List Int) (A8:Option Addr) (c8:Nat),t≤m∧g=m-t∧s10=.int .i64 t∧s8=.slice A8 T.length c8∧RiseV wi A8 c8 T∧Hid (T.Pairwise (· < ·)∧T.length≤t∧∀ z,z∈T↔∃ j,j<t∧z=numI D (L.set b (M.getD j 0)) n)∧Below w2.heap.size w2 wi)
  case atStart=>exact ⟨0,[],none,0,Nat.zero_le _,rfl,rfl,rfl,RiseV.nil _,(⟨List.Pairwise.nil,Nat.le_refl _,fun z=>⟨fun h=>(by cases h),fun ⟨j,hj,_⟩=>absurd hj (Nat.not_lt_zero _)⟩⟩:_∧_∧_),Below.refl _ _⟩
  case round =>
   obtain ⟨t,T,A8,c8,ht,rfl,rfl,rfl,hR8,HT,hBt⟩:=hrel
   have HR8:Hid (RiseV wr A8 c8 T):=hR8
   have HBt:Hid (Below w2.heap.size w2 wr):=hBt
   by_cases htl:t<m
   ·have hti:(t:Int)<(m:Int):=by omega
    have hBW:Below w.heap.size w wr:=onB HBw1.out (onB HB2.out hBt)
    have cw:wr.cell? ⟨w.heap.size,0,none⟩=some (.slice A0 n cap):=((onB HB1.out (onB HB2.out hBt)).cell (p:=⟨w.heap.size,0,none⟩) hsz).trans HA.out
    have hszr:w.heap.size<wr.heap.size:=Nat.lt_of_lt_of_le hsz (onB HB1.out (onB HB2.out hBt)).size
    obtain ⟨hcT,-,hT0 | ⟨bt,cs,fr,rfl,hbt,hct⟩⟩:=(HTx.out.later HB2.out).later hBt
    ·have:=HMm.out;rw [hT0] at this;simp at this;omega
    have ct:=hct t (by rw [HMm.out];exact htl)
    have hbtl:bt<wr.heap.size:=(Array.getElem?_eq_some_iff.1 hbt).1
    rw [HMm.out] at hcT
    have hcTi:(m:Int)≤(ccx:Int):=by omega
    have hyi:=mNd_in (d:=D b) (i:=x) (by rw [HMe.out];exact mem_at (L:=M) (j:=t) (by rw [HMm.out];exact htl))
    have HNx:Hid (∀ z,(z∈T∨z=numI D (L.set b (M.getD t 0)) n)↔∃ j,j<t+1∧z=numI D (L.set b (M.getD j 0)) n):=fun z=>by
     rw [HT.out.2.2 z]
     constructor
     ·rintro (⟨j,hj,e⟩ | e)
      ·exact ⟨j,by omega,e⟩
      ·exact ⟨t,by omega,e⟩
     ·rintro ⟨j,hj,e⟩
      by_cases ej:j=t
      ·rw [ej] at e;exact Or.inr e
      ·exact Or.inl ⟨j,by omega,e⟩
    obtain ⟨y,hy⟩:∃ y,M.getD t 0=y:=⟨_,rfl⟩
    rw [hy] at ct hyi HNx
    have hIn:=inO_set HI.out hbn hyi.1 hyi.2
    have hll:(L.set b y).length=n:=by rw [List.length_set];exact HLn.out
    have HWt:Hid (∀ w',Below wr.heap.size wr w'→Calls Tryz.prog 69 #[.slice (some ⟨bp,op,none⟩) n cp,.int .i64 b,.int .i64 y] w' fun e w''=>(∃ A' c',e=.returned (.slice A' n c')∧PlAt w'' A' c' (L.set b y))∧Below w'.heap.size w' w''):=fun w' hB=>by
     have h:=rwith_any (some ⟨bp,op,none⟩) cp L b y w' (by rw [HLn.out];exact hbn) (by rw [HLn.out];exact hn4) (HP.out.later (onB hBW hB))
     rw [HLn.out] at h
     exact h
    have HNu:Hid (∀ A' c' w',Below wr.heap.size wr w'→PlAt w' A' c' (L.set b y)→Calls Tryz.prog 17 #[.agg #[.slice A0 n cap],.slice A' n c'] w' fun e w''=>e=.returned (.int .i64 (numI D (L.set b y) n))∧Below w'.heap.size w' w''):=fun A' c' w' hB hP'=>by
     have h:=rnumber_any A0 cap n D A C A' c' (L.set b y) w' hIn (HM.out.later (onB hBW hB)) hP'
     rw [hll] at h
     exact h
    obtain ⟨Z,hZ⟩:∃ Z,numI D (L.set b y) n=Z:=⟨_,rfl⟩
    rw [hZ] at HNx HNu
    obtain ⟨tl,htl2⟩:∃ tl,T.length=tl:=⟨_,rfl⟩
    have HPu:Hid (∀ w',Below wr.heap.size wr w'→Calls Tryz.prog 92 #[.slice A8 tl c8,.int .i64 Z] w' fun e w''=>(∃ A' c',e=.returned (.slice A' (putL T Z).length c')∧RiseV w'' A' c' (putL T Z))∧Below w'.heap.size w' w''):=fun w' hB=>by
     rw [←htl2]
     exact put_any A8 c8 T Z w' (by have:=HT.out.2.1;omega) (HR8.out.later hB)
    have HT2:Hid ((putL T Z).Pairwise (· < ·)∧(putL T Z).length≤t+1∧∀ z,z∈putL T Z↔∃ j,j<t+1∧z=numI D (L.set b (M.getD j 0)) n):=⟨put_rise _ _ HT.out.1,Nat.le_trans (put_len _ _) (by have:=HT.out.2.1;omega),fun z=>by rw [put_mem];exact HNx.out z⟩
    rw [htl2]
    clear hR8 hBt hct hbt hy hIn hll hZ htl2 hBW hyi
    have HCw:Hid (∀ w',Below wr.heap.size wr w'→w'.cell? ⟨w.heap.size,0,none⟩=some (.slice A0 n cap)∧w.heap.size<w'.heap.size∧w'.cell? ⟨bt,t,none⟩=some (.int .i64 y)∧bt<w'.heap.size):=fun w' hB=>⟨(hB.cell (p:=⟨w.heap.size,0,none⟩) hszr).trans cw,Nat.lt_of_lt_of_le hszr hB.size,(hB.cell (p:=⟨bt,t,none⟩) hbtl).trans ct,Nat.lt_of_lt_of_le hbtl hB.size⟩
    go_upto_region 9 with fail
    go_region_law ((first
     | (go_simp;refine (HWt.out _ (by go_grown)).mono ?_;rintro e w3 ⟨⟨A3,c3,rfl,hP3⟩,hb3⟩;have hN3:=onB (W0:=wr) (by go_grown) hb3;obtain ⟨cw3,hw3,ct3,ht3⟩:=HCw.out _ hN3;clear hb3)
     | (go_simp;refine (HNu.out _ _ _ (by go_grown) (by first | exact hP3 | exact hP3.later (by go_grown))).mono ?_;rintro e w4 ⟨rfl,hb4⟩;have hN4:=onB (W0:=wr) (by go_grown) hb4;obtain ⟨cw4,hw4,ct4,ht4⟩:=HCw.out _ hN4;clear hb4)
     | (go_simp;refine (HPu.out _ (by go_grown)).mono ?_;rintro e w5 ⟨⟨A5,c5,rfl,hR5⟩,hb5⟩;have hN5:=onB (W0:=wr) (by go_grown) hb5;obtain ⟨cw5,hw5,ct5,ht5⟩:=HCw.out _ hN5;have HR5:=hid_of hR5;have HN5:=hid_of hN5;clear hb5)))
    all_goals clear hP3 hR5 hN3 hN4 hN5
    all_goals go_wp2_with fail
    all_goals go_roundg (m-(t+1))
    all_goals first
     | omega
     | exact ⟨t+1,putL T Z,A5,c5,by omega,rfl,by go_num,rfl,HR5.out,HT2,onB HBt.out HN5.out⟩
     | exact ⟨t+1,putL T Z,A5,c5,by omega,rfl,by go_num,rfl,HR5.out.later (below_drewN (Below.refl _ _) _),HT2,below_drewN (onB HBt.out HN5.out) _⟩
   ·have hte:t=m:=by omega
    subst hte
    have HFin:Hid (ToldP D n L T):=by
     refine ⟨HT.out.1,Nat.le_trans HT.out.2.1 HMl.out,fun z=>?_⟩
     rw [HT.out.2.2 z]
     constructor
     ·rintro ⟨j,hj,e⟩
      refine ⟨b,HBy.out,M.getD j 0,?_,e⟩
      rw [HX.out,Int.toNat_natCast,HMe.out]
      exact mem_at (by rw [HMm.out];exact hj)
     ·rintro ⟨b',h1,y,hy,e⟩
      have hbb:b'=b:=by have:=HBy.out;omega
      subst hbb
      rw [HX.out,Int.toNat_natCast,HMe.out] at hy
      obtain ⟨j,hj,rfl⟩:=List.getElem_of_mem hy
      refine ⟨j,by rw [←HMm.out];exact hj,?_⟩
      rw [List.getD_eq_getElem?_getD,List.getElem?_eq_getElem hj]
      exact e
    clear hR8 hBt
    go_wp2_with fail
    go_ret
    exact ⟨⟨A8,c8,T,rfl,HR8.out,HFin.out⟩,onB HBw1.out (onB HB2.out HBt.out)⟩
set_option maxHeartbeats 8000000 in
theorem salltold_any (A0:Option Addr) (cap n:Nat) (D:Nat→Dm) (A:Nat→Option Addr) (C:Nat→Nat) (w:World) (hR:AllR D n) (hE:(allErr D n).2.2=0) (hM:DimsV w A0 cap n D A C) :
  Calls Tryz.prog 30 #[.agg #[.slice A0 n cap]] w fun e w'=>(∃ A' c' xs,e=.returned (.slice A' (prodN D n) c')∧xs.length=prodN D n∧RowsV w' A' c' xs∧∀ i,i<prodN D n→ToldP D n (placeL D n i) (xs.getD i noR).p)∧Below w.heap.size w w':=by
 obtain ⟨i0,hi0,hz0,hz1,hz2⟩:=info_parts Tryz.infoRow
 obtain ⟨hn1,hn4,hp3,hd⟩:=allErr_some hE
 have hB0:=ownOut_below w A0 n cap 42
 have hS:=ownOut_size w A0 n cap 42
 have hA:=ownOut_at w A0 n cap 42
 obtain ⟨W,hW⟩:∃ W,ownOut w A0 n cap 42=W:=⟨_,rfl⟩
 rw [hW] at hB0 hS hA
 unfold ownOut at hW
 have HB0:Hid (Below w.heap.size w W):=hB0
 have HM:Hid (DimsV w A0 cap n D A C):=hM
 have HA:Hid (W.cell? ⟨w.heap.size,0,none⟩=some (.slice A0 n cap)):=hA
 have HR:Hid (AllR D n):=hR
 have HE:Hid ((allErr D n).2.2=0):=hE
 have hsz:w.heap.size<W.heap.size:=by omega
 have hnI:(n:Int)≤4:=by omega
 have hmb:=smembers_any A0 cap n D A C W hn4 hR (hM.later hB0)
 have HSz:Hid (∀ w',Below W.heap.size W w'→Calls Tryz.prog 54 #[.agg #[.slice A0 n cap]] w' fun e w''=>e=.returned (.int .i64 (prodN D n))∧Below w'.heap.size w' w''):=fun w' hB=>by
  obtain ⟨hcap,h0 | ⟨b,o,rfl,hMs⟩⟩:=HM.out.later (onB HB0.out hB)
  ·omega
  exact osize_any b o n cap D A C w' hn4 (fun j hj=>(hd j hj).2) hMs
 obtain ⟨PN,hPN⟩:∃ PN,prodN D n=PN:=⟨_,rfl⟩
 have HPN:Hid (prodN D n=PN):=hPN
 rw [hPN] at HSz hp3 ⊢
 have hPI:(PN:Int)≤3000:=by omega
 clear hM hB0 hR hS hE hd hPN
 go_enter Tryz.func30,Tryz.ntmps30
 go_wp2_with fail
 refine hmb.mono ?_
 rintro e w1 ⟨⟨AN,cN,ys,rfl,hyl,hY,hyn⟩,hb1⟩
 have HB1:Hid (Below W.heap.size W w1):=hb1
 have HYl:Hid (ys.length=n):=hyl
 have HY:Hid (Rows2V w1 AN cN ys):=hY
 have HYn:Hid (∀ i,i<n→lR (ys.getD i noR2).xs=ndL (D i)):=hyn
 have cw1:w1.cell? ⟨w.heap.size,0,none⟩=some (.slice A0 n cap):=(hb1.cell (p:=⟨w.heap.size,0,none⟩) hsz).trans HA.out
 have hsz1:w.heap.size<w1.heap.size:=Nat.lt_of_lt_of_le hsz hb1.size
 have hszc:=HSz.out w1 hb1
 clear hb1 hyl hY hyn hmb hW hA
 go_wp2_with fail
 refine hszc.mono ?_
 rintro e w2 ⟨rfl,hb2⟩
 have HB2:Hid (Below w1.heap.size w1 w2):=hb2
 have HA2:Hid (w2.cell? ⟨w.heap.size,0,none⟩=some (.slice A0 n cap)):=(hb2.cell (p:=⟨w.heap.size,0,none⟩) hsz1).trans cw1
 have hsz2:w.heap.size<w2.heap.size:=Nat.lt_of_lt_of_le hsz1 hb2.size
 clear hb2 hszc cw1
 go_wp2_with fail
 go_loopg [4,6] PN (fun g s4 s6 wr => ∃ (k:Nat) (xs:List RL),k≤PN∧g=PN-k∧s6=.int .i64 k∧Hid (xs.length=k∧(∀ i,i<k→ToldP D n (placeL D n i) (xs.getD i noR).p)∧∀ x∈xs,IntT wr x.A x.c x.p)∧wr.ownsRow w2.heap.size 27 1 s4 k (cellsR xs)∧Below w2.heap.size w2 wr)
 case atStart=>exact ⟨0,[],Nat.zero_le _,rfl,rfl,(⟨rfl,fun i hi=>absurd hi (Nat.not_lt_zero _),fun x hx=>by cases hx⟩:_∧_∧_),World.ownsRow_nil _ _ _ _,Below.refl _ _⟩
 case round =>
  obtain ⟨k,xs,hk,rfl,rfl,HX,hO,hBw⟩:=hrel
  have HO:Hid (wr.ownsRow w2.heap.size 27 1 u4 k (cellsR xs)):=hO
  have HBw:Hid (Below w2.heap.size w2 wr):=hBw
  have cw:wr.cell? ⟨w.heap.size,0,none⟩=some (.slice A0 n cap):=(hBw.cell (p:=⟨w.heap.size,0,none⟩) hsz2).trans HA2.out
  have hszr:w.heap.size<wr.heap.size:=Nat.lt_of_lt_of_le hsz2 hBw.size
  by_cases hlt:k<PN
  ·have hki:(k:Int)<(PN:Int):=by omega
   have HBa:Hid (Below w.heap.size w wr):=onB HB0.out (onB HB1.out (onB HB2.out hBw))
   have HIk:Hid (InO D n (placeL D n k)):=placeL_in HE.out
   have hpl:=placeL_len D n k
   have HAt:Hid (∀ w',Below wr.heap.size wr w'→Calls Tryz.prog 24 #[.agg #[.slice A0 n cap],.int .i64 k] w' fun e w''=>(∃ A' c',e=.returned (.slice A' n c')∧PlAt w'' A' c' (placeL D n k))∧Below w'.heap.size w' w''):=fun w' hB=>by
    have h:=rat_any A0 cap n D A C k w' HE.out (by rw [HPN.out];exact hlt) (HM.out.later (onB HBa.out hB))
    rw [hpl] at h
    exact h
   have HTo:Hid (∀ A' c' w',Below wr.heap.size wr w'→PlAt w' A' c' (placeL D n k)→Calls Tryz.prog 55 #[.agg #[.slice A0 n cap],.slice AN n cN,.slice A' n c'] w' fun e w''=>(∃ A' c' T,e=.returned (.slice A' T.length c')∧RiseV w'' A' c' T∧ToldP D n (placeL D n k) T)∧Below w'.heap.size w' w''):=fun A' c' w' hB hP'=>by
    have h:=stold_any A0 cap n D A C AN cN ys A' c' (placeL D n k) w' HR.out HIk.out (HM.out.later (onB HBa.out hB)) HYl.out (HY.out.later (onB HB2.out (onB HBw.out hB))) HYn.out hP'
    rw [hpl] at h
    exact h
   have HCw:Hid (∀ w',Below wr.heap.size wr w'→w'.cell? ⟨w.heap.size,0,none⟩=some (.slice A0 n cap)∧w.heap.size<w'.heap.size):=fun w' hB=>⟨(hB.cell (p:=⟨w.heap.size,0,none⟩) hszr).trans cw,Nat.lt_of_lt_of_le hszr hB.size⟩
   clear hBw hO hpl
   obtain ⟨q,hq⟩:∃ q,placeL D n k=q:=⟨_,rfl⟩
   have HQ:Hid (placeL D n k=q):=hq
   rw [hq] at HAt HTo
   clear hq
   go_upto_region 7 with fail
   go_cut [7] from 12 to 26 (fun s7 wx => ∃ A' c' T,s7=.slice A' T.length c'∧RiseV wx A' c' T∧ToldP D n q T∧Below wr.heap.size wr wx)
   case first =>
    go_region_law ((first
     | (go_simp;refine (HAt.out _ (by go_grown)).mono ?_;rintro e w3 ⟨⟨A3,c3,rfl,hP3⟩,hb3⟩;have hN3:=onB (W0:=wr) (by go_grown) hb3;obtain ⟨cw3,hw3⟩:=HCw.out _ hN3;clear hb3)
     | (go_simp;refine (HTo.out _ _ _ (by go_grown) (by first | exact hP3 | exact hP3.later (by go_grown))).mono ?_;rintro e w4 ⟨⟨A4,c4,T4,rfl,hR4,hT4⟩,hb4⟩;have hN4:=onB (W0:=wr) (by go_grown) hb4;obtain ⟨cw4,hw4⟩:=HCw.out _ hN4;have HR4:=hid_of hR4;have HT4:=hid_of hT4;have HN4:=hid_of hN4;clear hb4)))
    all_goals clear hP3 hR4 hT4 hN3 hN4
    all_goals go_wp2_with fail
    all_goals go_meet
    all_goals first
     | exact ⟨A4,c4,T4,rfl,HR4.out,HT4.out,HN4.out⟩
     | exact ⟨A4,c4,T4,rfl,HR4.out.later (below_drewN (Below.refl _ _) _),HT4.out,below_drewN HN4.out _⟩
   case rest =>
    obtain ⟨A7,c7,T,rfl,hR7,hT7,hb7⟩:=hcut
    obtain ⟨wx,rfl⟩:∃ wx:World,wx=wc:=⟨_,rfl⟩
    have HB7:Hid (Below w2.heap.size w2 wx):=onB HBw.out hb7
    have HO7:Hid (wx.ownsRow w2.heap.size 27 1 u4 k (cellsR xs)):=own_later HO.out hb7
    have HX7:Hid (∀ x∈xs,IntT wx x.A x.c x.p):=fun x hx=>(HX.out.2.2 x hx).later hb7
    have HR7:Hid (IntT wx A7 c7 T):=hR7.intT
    have HT7:Hid (ToldP D n q T):=hT7
    have hs7:=HB7.out.size
    obtain ⟨tl,htl⟩:∃ tl,T.length=tl:=⟨_,rfl⟩
    have HTl:Hid (T.length=tl):=htl
    rw [htl]
    clear hb7 hR7 hT7 htl
    go_wp2_with (at_builtin;refine wpList_append_own _ rfl _ _ 70 rfl w2.heap.size 27 i0 (.slice none 0 0) 1 24 Tryz.underlying70 hi0 hz0 hz1 hz2 rfl (by decide) _ _ _ rfl (HO7.out.alloc _) ⟨wx.heap.size,0,none⟩ 1 1 [.slice A7 tl c7] rfl rfl one_cell (by intro u hu;simp at hu;subst hu;rfl) (by unfold maxLen;omega) (by omega) (by simp;omega) ?_)
    intro v' w5 hown' hgrow _
    have HB5:Hid (Below w2.heap.size w2 w5):=grown_own HB7.out HO7.out hgrow
    have HX5:Hid ((xs ++ [(⟨T,A7,c7⟩:RL)]).length=k+1∧(∀ i,i<k+1→ToldP D n (placeL D n i) ((xs ++ [(⟨T,A7,c7⟩:RL)]).getD i noR).p)∧∀ x∈xs ++ [(⟨T,A7,c7⟩:RL)],IntT w5 x.A x.c x.p):=by
     have hlen:=HX.out.1
     refine ⟨by rw [List.length_append,hlen];rfl,fun i hi=>?_,fun x hx=>?_⟩
     ·by_cases e:i=k
      ·rw [e,List.getD_eq_getElem?_getD,List.getElem?_append_right (by omega),hlen,Nat.sub_self,HQ.out]
       exact HT7.out
      ·rw [List.getD_eq_getElem?_getD,List.getElem?_append_left (by omega),←List.getD_eq_getElem?_getD]
       exact HX.out.2.1 i (by omega)
     ·rcases List.mem_append.1 hx with hx | hx
      ·exact ((HX7.out x hx).later (by go_grown)).row (HO7.out.alloc _) hgrow
      ·rw [List.mem_singleton.1 hx]
       exact (HR7.out.later (by go_grown)).row (HO7.out.alloc _) hgrow
    have HO5:Hid (w5.ownsRow w2.heap.size 27 1 v' (k+1) (cellsR (xs ++ [(⟨T,A7,c7⟩:RL)]))):=by
     show World.ownsRow ..
     rw [cellsR_append]
     have e:cellsR [(⟨T,A7,c7⟩:RL)]=[.slice A7 tl c7]:=by simp [cellsR,HTl.out]
     rw [e]
     exact hown'
    clear hown' hgrow
    go_wp2_with fail
    go_roundg (PN-(k+1))
    case measure=>omega
    case rel=>exact ⟨k+1,_,by omega,rfl,by go_num,HX5,HO5.out,HB5.out⟩
  ·have hke:k=PN:=by omega
   subst hke
   have HF:Hid (∃ A' c',u4=.slice A' k c'∧RowsV wr A' c' xs):=by
    have hlen:=HX.out.1
    have h:=hO
    rw [←hlen] at h
    obtain ⟨A',c',e,hv⟩:=rows_own h HX.out.2.2
    rw [hlen] at e
    exact ⟨A',c',e,hv⟩
   clear hO hBw
   go_wp2_with fail
   go_ret
   obtain ⟨A',c',e,hv⟩:=HF.out
   exact ⟨⟨A',c',xs,by rw [←e];rfl,HX.out.1,hv,HX.out.2.1⟩,onB HB0.out (onB HB1.out (onB HB2.out HBw.out))⟩
end Go.Proofs.YtaodedckffjpgafGreatDoor
namespace Go.Proofs.YtaodedckffjpgafGreatDoor
section
variable {D:Nat→Dm} {n:Nat}
theorem told_less (hR:AllR D n) (hE:(allErr D n).2.2=0) {i:Nat} {T:List Int} (hT:ToldP D n (placeL D n i) T) {z:Int} (hz:z∈T):∃ j:Nat,z=(j:Int)∧j<prodN D n∧msrTo D (placeL D n j) n<msrTo D (placeL D n i) n:=by
 obtain ⟨b,hb,x,hx,rfl⟩:=(hT.2.2 z).1 hz
 have hI:InO D n (placeL D n i):=placeL_in hE
 have hbn:b<n:=by
  rcases by_in D (placeL D n i) n with h | ⟨b',h1,h2⟩
  ·omega
  ·omega
 have hxi:=mNd_in hx
 have hI2:=inO_set hI hbn hxi.1 hxi.2
 have hp0:=hI.lo b hbn
 have hp1:=hI.hi b hbn
 have hrk:=rk_less (hR b hbn) (i:=((placeL D n i).getD b 0).toNat) (by omega) hx
 rw [Int.toNat_of_nonneg hp0] at hrk
 have hms:=(msr_less (by rw [hI.len];exact hbn) hrk n).2 hbn
 obtain ⟨j,hj⟩:∃ j:Nat,numI D ((placeL D n i).set b x) n=(j:Int):=⟨(numI D ((placeL D n i).set b x) n).toNat,by have:=(numI_bound hI2 (Nat.le_refl n)).1;omega⟩
 refine ⟨j,hj,by have:=(numI_bound hI2 (Nat.le_refl n)).2.1;omega,?_⟩
 have hpn:=place_num hI2
 rw [hj,Int.toNat_natCast] at hpn
 rw [hpn]
 exact hms
theorem none_waits (hR:AllR D n) (hE:(allErr D n).2.2=0) (T:Nat→List Int) (hT:∀ i,i<prodN D n→ToldP D n (placeL D n i) (T i)) (done:Nat→Bool) (h:∀ i,i<prodN D n→done i=false→∃ z∈T i,done z.toNat=false):∀ i,i<prodN D n→done i=true:=by
 have hall:∀ (m i:Nat),i<prodN D n→msrTo D (placeL D n i) n<m→done i=true:=by
  intro m
  induction m with
  | zero=>intro i _ hm;omega
  | succ m ih =>
   intro i hi hm
   cases hd:done i with
   | true=>rfl
   | false =>
    obtain ⟨z,hz,hn⟩:=h i hi hd
    obtain ⟨j,rfl,hj,hl⟩:=told_less hR hE (hT i hi) hz
    rw [Int.toNat_natCast,ih j hj (by omega)] at hn
    cases hn
 exact fun i hi=>hall _ i hi (Nat.lt_succ_self _)
theorem sol_at (hR:AllR D n) (hE:(allErr D n).2.2=0) (inp:List Int→Int×Int) (c:Nat→Int×Int) {i:Nat} {T:List Int} (hT:ToldP D n (placeL D n i) T) (hc:∀ z∈T,c z.toNat=solV D n inp (placeL D n z.toNat)) {b:Nat} (hb:byTo D (placeL D n i) n=(b:Int)):solV D n inp (placeL D n i)=oneV (D b) (fun x=>c (numI D ((placeL D n i).set b x) n).toNat) ((placeL D n i).getD b 0).toNat:=by
 have hI:InO D n (placeL D n i):=placeL_in hE
 have hbn:b<n:=by
  rcases by_in D (placeL D n i) n with h | ⟨b',h1,h2⟩
  ·omega
  ·omega
 rw [sol_by hR inp hI hb]
 obtain ⟨hd,hm,-,-⟩:=rErr_right (hR b hbn)
 have hp0:=hI.lo b hbn
 have hp1:=hI.hi b hbn
 refine oneV_same hd (hm _ (by omega)) fun x hx=>?_
 have hxi:=mNd_in hx
 have h1:=hc _ ((hT.2.2 _).2 ⟨b,hb,x,hx,rfl⟩)
 rw [place_num (inO_set hI hbn hxi.1 hxi.2)] at h1
 exact h1.symm
end
end Go.Proofs.YtaodedckffjpgafGreatDoor
