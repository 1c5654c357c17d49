/-
  What Leafs of package need answers, in whatever memory: the leafs on which a place hangs at last, or what is wrong.
-/
import Derived.Test.YtfngmnhkhfgmjagGreatDoorJDBN
import Derived.Test.YtfngmnhkhfgmjagGreatDoorJDBQ
namespace Go.Proofs.YtfngmnhkhfgmjagGreatDoor
open Go.ChangeShapes Go.WideShapes Go.ChangeAt Go.RowKit
set_option maxRecDepth 20000
section
variable {D:Nat→Dm} {n:Nat}
theorem rows_in (hR:AllR D n) (hE:(allErr D n).2.2=0) (y:Nat) (hy:y<prodN D n):InN (prodN D n) ((rowsL D n).getD y []):=fun z hz=>by
 have:=rows_inn hR hE y (by rw [rows_len];exact hy) z hz
 rw [rows_len] at this
 exact ⟨z.toNat,by omega,by omega⟩
theorem rea_need (hR:AllR D n) (hE:(allErr D n).2.2=0) {x:Nat} (hx:x<prodN D n) (j:Nat):Rea (fun y=>(rowsL D n).getD y []) [(x:Int)] (j:Int)↔Ndd D n x j:=by
 have hS:InN (prodN D n) [(x:Int)]:=fun z hz=>⟨x,by simpa using hz,hx⟩
 constructor
 ·intro h
  have key:∀ z,Rea (fun y=>(rowsL D n).getD y []) [(x:Int)] z→∀ j:Nat,z=(j:Int)→Ndd D n x j:=by
   intro z hz
   induction hz with
   | base h =>
    intro j e
    have:j=x:=by simp at h;omega
    subst this
    exact .refl _
   | @step y x' hy hm ih =>
    intro j e
    subst e
    obtain ⟨y',e',hy'⟩:=rea_in hS (rows_in hR hE) hy
    have:y=y':=by omega
    subst this
    exact (ih y rfl).snoc ((stp_iff (rows_told hR hE hy')).2 hm)
  exact key _ h j rfl
 ·intro h
  have key:∀ {a b:Nat},Ndd D n a b→a<prodN D n→Rea (fun y=>(rowsL D n).getD y []) [(x:Int)] (a:Int)→Rea (fun y=>(rowsL D n).getD y []) [(x:Int)] (b:Int):=by
   intro a b hab
   induction hab with
   | refl=>intro _ h;exact h
   | @step a' b' c' hst _ ih =>
    intro ha hr
    have hm:=(stp_iff (rows_told hR hE ha)).1 hst
    obtain ⟨b2,e,hb⟩:=rows_in hR hE a' ha _ hm
    exact ih (by omega) (.step hr hm)
  exact key h hx (.base (by simp))
theorem leafs_eq (hR:AllR D n) (hE:(allErr D n).2.2=0) {x:Nat} (hx:x<prodN D n) {L:List Int} (hL:L.Pairwise (· < ·)) (hm:∀ z,z∈L↔Rea (fun y=>(rowsL D n).getD y []) [(x:Int)] z):(L.filter fun z => !(!leafV D n (placeL D n z.toNat)))=blwL D n x:=by
 have hS:InN (prodN D n) [(x:Int)]:=fun z hz=>⟨x,by simpa using hz,hx⟩
 refine rise_eq _ _ (hL.filter _) (sel_rise _ _) fun z=>?_
 rw [List.mem_filter,hm z,Bool.not_not]
 unfold blwL
 constructor
 ·rintro ⟨h1,h2⟩
  obtain ⟨j,rfl,hj⟩:=rea_in hS (rows_in hR hE) h1
  rw [Int.toNat_natCast] at h2
  refine sel_has hj ?_
  unfold blwB
  rw [h2,ndB_iff.2 ((rea_need hR hE hx j).1 h1)]
  rfl
 ·intro h
  obtain ⟨j,rfl,hj,h2⟩:=selTo_mem _ h
  unfold blwB at h2
  rw [Bool.and_eq_true] at h2
  rw [Int.toNat_natCast]
  exact ⟨(rea_need hR hE hx j).2 (ndB_iff.1 h2.1),h2.2⟩
end
theorem ent_needs (args:Array Value) (w:World):(callFunc 48 args).run Tryz.prog w=.ok (.enter 48 args) w:=by simp [go_sem]
theorem ent_leafs1 (args:Array Value) (w:World):(callFunc 59 args).run Tryz.prog w=.ok (.enter 59 args) w:=by simp [go_sem]
set_option maxHeartbeats 2000000 in
theorem leafs1n_any (q g n b:Nat) (D:Nat→Dm) (X:Nat→AL) (x:Nat) (w:World) (hE:(allErr D n).2.2=0) (hx:x<prodN D n) (hA:PlanV w q g n D X) (hb:w.cell? ⟨b,0,none⟩=some (.pointer (some ⟨q,0,none⟩))) :
  Calls Tryz.prog 59 #[.int .i64 x,.pointer (some ⟨b,0,none⟩)] w fun e w'=>e=.returned (.bool (!leafV D n (placeL D n x)))∧Below w.heap.size w w':=by
 have h:=pleafn_any q g n D X x w hE hx hA
 generalize leafV D n (placeL D n x)=r at h
 clear hA hE hx
 go_enter Tryz.func59,Tryz.ntmps59
 go_wp2_with fail
 refine h.mono ?_
 rintro e w1 ⟨rfl,hb1⟩
 go_wp2_with fail
 go_ret
 exact ⟨rfl,hb1⟩
set_option maxHeartbeats 8000000 in
theorem nleafs_any (A0:Option Addr) (cap n:Nat) (D:Nat→Dm) (A:Nat→Option Addr) (C:Nat→Nat) (Ap:Option Addr) (cp:Nat) (p:List Int) (w:World) (hM:DimsV w A0 cap n D A C) (hP:PlAt w Ap cp p) :
  Calls Tryz.prog 24 #[.agg #[.slice A0 n cap],.slice Ap p.length cp] w fun e w'=>(∃ A' c',e=.returned (.tuple #[.slice A' (nlL D n p).length c',errV (neE D n p)])∧IntsAt w' A' c' (nlL D n p))∧Below w.heap.size w w':=by
 have hB0:=ownOut_below w A0 n cap 29
 have hS:=ownOut_size w A0 n cap 29
 have hA:=ownOut_at w A0 n cap 29
 obtain ⟨W,hW⟩:∃ W,ownOut w A0 n cap 29=W:=⟨_,rfl⟩
 rw [hW] at hB0 hS hA
 unfold ownOut at hW
 have HB0:Hid (Below w.heap.size w W):=hB0
 have hsz:w.heap.size<W.heap.size:=by omega
 by_cases he:neE D n p=0
 case neg =>
  have hf:=find_bad A0 cap n D A C Ap cp p W he (hM.later hB0) (hP.later hB0)
  have HL:Hid (nlL D n p=[]):=by show _=_;unfold nlL;rw [if_neg he]
  have HEr:Hid (errV (neE D n p)=.iface 95 (.int .i64 (neE D n p))):=errV_some he
  rw [errV_some he] at hf
  generalize p.length=pl at hf ⊢
  generalize neE D n p=z at hf HEr ⊢
  clear hM hP hB0 he hS
  go_enter Tryz.func24,Tryz.ntmps24
  go_wp2_with fail
  refine hf.mono ?_
  rintro e w1 ⟨rfl,hb1⟩
  have HB1:Hid (Below w.heap.size w w1):=onB HB0.out hb1
  clear hb1 hf
  go_wp2_with fail
  go_returns
  exact ⟨⟨none,0,by rw [HL.out,HEr.out];rfl,by rw [HL.out];exact (IntT.nil _ _ _ (by omega)).at⟩,onB HB1.out (by go_grown)⟩
 obtain ⟨-,hE,hR,-,x,hx,hxN,-⟩:=ne_right he
 have hf:=find_any' A0 cap n D A C Ap cp p x W he hx (hM.later hB0) (hP.later hB0)
 have HL:Hid (nlL D n p=blwL D n x):=by show _=_;unfold nlL;rw [if_pos he,hx,Int.toNat_natCast]
 have hp3:=(allErr_some hE).2.2.1
 have HRe:Hid (∀ q g X w',PlanV w' q g n D X→∀ b,b<w'.heap.size→w'.heap[b]?=some (.cells #[.int .i64 (x:Int)] 3 (0,0))→Calls Tryz.prog 57 #[.slice (some ⟨b,0,none⟩) 1 1,.func (.func 48) #[.pointer (some ⟨q,0,none⟩)] #[]] w' fun e w''=>(∃ v L,e=.returned (.tuple #[v,.nilIface])∧w''.ownsRow w'.heap.size 3 1 v L.length (mapI L)∧L.length≤prodN D n∧InN (prodN D n) L∧(L.filter fun z => !(!leafV D n (placeL D n z.toNat)))=blwL D n x)∧Below w'.heap.size w' w''):=fun q g X w' hA b hb hbx=>by
  have h:=nreach_any 48 #[.pointer (some ⟨q,0,none⟩)] #[] (fun y=>(rowsL D n).getD y []) (prodN D n) ent_needs (some ⟨b,0,none⟩) 1 [(x:Int)] w' hp3 (by simp) ⟨by simp,by omega,Or.inr ⟨b,_,_,rfl,hbx,fun j hj=>by
   have:j=0:=by simp at hj;omega
   subst this
   simp [World.cell?,hbx]⟩⟩ (fun z hz=>⟨x,by simpa using hz,hxN⟩) (rows_in hR hE) (fun y hy=>by have:=(rows_told hR hE hy).2.1;omega) fun y w2 hy hB2=>by
    refine (pneeds_any q g n D X y w2 hR hE hy (hA.later hB2)).mono ?_
    rintro e w3 ⟨⟨A',c',T,rfl,hI,hT,-,hA'⟩,hb3⟩
    have hTe:T=(rowsL D n).getD y []:=by rw [told_eq hR hE hT,rows_at hy]
    rw [←hTe]
    exact ⟨⟨A',c',rfl,hI,fun a ha=>Or.inr (hA' a ha)⟩,hb3⟩
  refine Calls.mono h ?_
  rintro e w'' ⟨⟨v,L,rfl,hO,hLt,hLm⟩,hb2⟩
  have hin:InN (prodN D n) L:=fun z hz=>rea_in (S:=[(x:Int)]) (fun z hz=>⟨x,by simpa using hz,hxN⟩) (rows_in hR hE) ((hLm z).1 hz)
  exact ⟨⟨v,L,rfl,hO,inN_few hin (hLt.imp fun h=>by omega),hin,leafs_eq hR hE hxN hLt hLm⟩,hb2⟩
 have HDe:Hid (∀ q g X w' v L b,PlanV w' q g n D X→∀ w2,Below w'.heap.size w' w2→b<w'.heap.size→w'.cell? ⟨b,0,none⟩=some (.pointer (some ⟨q,0,none⟩))→w2.ownsRow w'.heap.size 3 1 v L.length (mapI L)→L.length≤prodN D n→InN (prodN D n) L→Calls Tryz.prog 58 #[v,.func (.func 59) #[] #[.pointer (some ⟨b,0,none⟩)]] w2 fun e w3=>(∃ A' c',e=.returned (.slice A' (L.filter fun z => !(!leafV D n (placeL D n z.toNat))).length c')∧IntT w3 A' c' (L.filter fun z => !(!leafV D n (placeL D n z.toNat))))∧Below w'.heap.size w' w3):=fun q g X w' v L b hA w2 hb2 hb hc hO hl hin=>by
  have h:=delf_any 59 #[.pointer (some ⟨b,0,none⟩)] (fun z => !leafV D n (placeL D n z.toNat)) ent_leafs1 w'.heap.size v L w2 (by omega) hO fun z w4 hz hG=>by
   obtain ⟨j,rfl,hj⟩:=hin z hz
   have hB4:Below w'.heap.size w' w4:=below_grownW hb2 hG fun b' e=>(own_blk hO e).1
   rw [Int.toNat_natCast]
   exact leafs1n_any q g n b D X j w4 hE hj (hA.later hB4) ((hB4.cell (p:=⟨b,0,none⟩) hb).trans hc)
  refine h.mono ?_
  rintro e w3 ⟨hI,hG⟩
  exact ⟨hI,below_grownW hb2 hG fun b' e=>(own_blk hO e).1⟩
 have HE:Hid (neE D n p=0):=he
 generalize p.length=pl at hf ⊢
 clear hM hP hB0 he hE hR hx hxN hS hp3
 go_enter Tryz.func24,Tryz.ntmps24
 go_wp2_with fail
 refine hf.mono ?_
 rintro e w1 ⟨⟨q,g,X,rfl,hPl⟩,hb1⟩
 have HB1:Hid (Below w.heap.size w w1):=onB HB0.out hb1
 obtain ⟨w2,hw2⟩:∃ w2,w1.alloc (.cells #[.pointer (some ⟨q,0,none⟩)] 88)=w2:=⟨_,rfl⟩
 have hb2:Below w1.heap.size w1 w2:=by rw [←hw2];go_grown
 have c2:w2.cell? ⟨w1.heap.size,0,none⟩=some (.pointer (some ⟨q,0,none⟩)):=by rw [←hw2];exact (Lib.cell_of_heap (heap_alloc_new w1 _) 0).trans rfl
 have hs2:w1.heap.size<w2.heap.size:=by rw [←hw2];simp
 obtain ⟨w3,hw3⟩:∃ w3,w2.alloc (.cells #[.int .i64 (x:Int)] 3)=w3:=⟨_,rfl⟩
 have hb3:Below w2.heap.size w2 w3:=by rw [←hw3];go_grown
 have c3:w3.cell? ⟨w1.heap.size,0,none⟩=some (.pointer (some ⟨q,0,none⟩)):=(hb3.cell (p:=⟨w1.heap.size,0,none⟩) hs2).trans c2
 have hs3:w2.heap.size<w3.heap.size:=by rw [←hw3];simp
 have hA3:PlanV w3 q g n D X:=(hPl.later hb2).later hb3
 have hx3:w3.heap[w2.heap.size]?=some (.cells #[.int .i64 (x:Int)] 3 (0,0)):=by rw [←hw3];exact heap_alloc_new ..
 have hre:=HRe.out q g X w3 hA3 w2.heap.size hs3 hx3
 have HA3:Hid (PlanV w3 q g n D X):=hA3
 have HB3:Hid (Below w.heap.size w w3):=onB HB1.out (onB hb2 hb3)
 have HC3:Hid (w3.cell? ⟨w1.heap.size,0,none⟩=some (.pointer (some ⟨q,0,none⟩))):=c3
 have hs13:w1.heap.size<w3.heap.size:=by omega
 clear hPl hf hb1 hb2 hb3 hA3 hx3
 go_wp2_with fail
 refine hre.mono ?_
 rintro e w4 ⟨⟨v,L,rfl,hO,hl,hin,hfl⟩,hb4⟩
 have hde:=HDe.out q g X w3 v L w1.heap.size HA3.out w4 hb4 hs13 HC3.out hO hl hin
 rw [hfl] at hde
 obtain ⟨AO,cO,hv⟩:∃ AO cO,v=.slice AO L.length cO:=by
  rcases hO.2 with ⟨h1,h2⟩ | ⟨g,cap,cur,h1,-⟩
  ·exact ⟨none,0,by rw [h1,h2]⟩
  ·exact ⟨_,_,h1⟩
 subst hv
 clear hO hl hin hfl hb4 hre hw3 hw2 c2 c3
 go_wp2_with fail
 refine hde.mono ?_
 rintro e w5 ⟨⟨A',c',rfl,hI⟩,hb5⟩
 have HI:Hid (IntT w5 A' c' (blwL D n x)):=hI
 have HB5:Hid (Below w.heap.size w w5):=onB HB3.out hb5
 clear hI hb5 hde
 go_wp2_with fail
 go_returns
 exact ⟨⟨A',c',by rw [HL.out,HE.out];rfl,by rw [HL.out];exact HI.out.at⟩,HB5.out⟩
section
variable {D:Nat→Dm} {n:Nat}
def nuL (D:Nat→Dm) (n:Nat) (Q:List (List Int)):List Int:=if shTo D n Q=0 then drN D n Q else []
theorem sh_all {Q:List (List Int)} (h:shTo D n Q=0):∀ q∈Q,shapeErr D n q=0:=by
 induction Q with
 | nil=>intro q hq;cases hq
 | cons a r ih =>
  unfold shTo at h
  by_cases h1:shapeErr D n a=0
  ·rw [if_neg (by simpa using h1)] at h
   intro q hq
   rcases List.mem_cons.1 hq with rfl | h2
   ·exact h1
   ·exact ih h q h2
  ·rw [if_pos h1] at h
   exact absurd h h1
theorem sh_drop (Q:List (List Int)) {k:Nat} (hk:k<Q.length):shTo D n (Q.drop k)=if shapeErr D n (Q.getD k [])≠0 then shapeErr D n (Q.getD k []) else shTo D n (Q.drop (k+1)):=by
 rw [List.drop_eq_getElem_cons hk,shTo,List.getD_eq_getElem?_getD,List.getElem?_eq_getElem hk]
 rfl
theorem drN_in (hE:(allErr D n).2.2=0) {Q:List (List Int)} (h:shTo D n Q=0):InN (prodN D n) (drN D n Q)∧((drN D n Q).any fun z => !leafV D n (placeL D n z.toNat))=Q.any fun q => !leafV D n q:=by
 have hnum:∀ q∈Q,∃ x:Nat,numI D q n=(x:Int)∧x<prodN D n∧placeL D n x=q:=fun q hq=>num_lt (inO_of (by rw [place_shapeN hE];exact sh_all h q hq))
 constructor
 ·intro z hz
  unfold drN at hz
  obtain ⟨q,hq,rfl⟩:=List.mem_map.1 hz
  obtain ⟨x,h1,h2,-⟩:=hnum q hq
  exact ⟨x,h1,h2⟩
 ·unfold drN
  rw [List.any_map]
  rw [Bool.eq_iff_iff,List.any_eq_true,List.any_eq_true]
  constructor
  ·rintro ⟨q,hq,h1⟩
   refine ⟨q,hq,?_⟩
   obtain ⟨x,h2,-,h3⟩:=hnum q hq
   rw [Function.comp_apply,h2,Int.toNat_natCast,h3] at h1
   exact h1
  ·rintro ⟨q,hq,h1⟩
   refine ⟨q,hq,?_⟩
   obtain ⟨x,h2,-,h3⟩:=hnum q hq
   rw [Function.comp_apply,h2,Int.toNat_natCast,h3]
   exact h1
theorem usr_in (y:Nat):InN (prodN D n) (usrL (rowsL D n) y (prodN D n)):=fun z hz=>by
 obtain ⟨j,rfl,hj,-⟩:=usr_mem.1 hz
 exact ⟨j,rfl,hj⟩
theorem rea_user (hR:AllR D n) (hE:(allErr D n).2.2=0) {S:List Int} {j:Nat} (hj:j<prodN D n):Rea (fun y=>usrL (rowsL D n) y (prodN D n)) S (j:Int)↔∃ a:Nat,(a:Int)∈S∧Ndd D n j a:=by
 constructor
 ·intro h
  have key:∀ z,Rea (fun y=>usrL (rowsL D n) y (prodN D n)) S z→∀ j:Nat,z=(j:Int)→∃ a:Nat,(a:Int)∈S∧Ndd D n j a:=by
   intro z hz
   induction hz with
   | base h =>
    intro j e
    subst e
    exact ⟨j,h,.refl _⟩
   | @step y x' hy hm ih =>
    intro j e
    subst e
    obtain ⟨a,ha,hn⟩:=ih y rfl
    obtain ⟨j',e',hj',hm'⟩:=usr_mem.1 hm
    have:j=j':=by omega
    subst this
    exact ⟨a,ha,.step ((stp_iff (rows_told hR hE hj')).2 hm') hn⟩
  exact key _ h j rfl
 ·rintro ⟨a,ha,h⟩
  have key:∀ {x b:Nat},Ndd D n x b→x<prodN D n→(b:Int)∈S→Rea (fun y=>usrL (rowsL D n) y (prodN D n)) S (x:Int):=by
   intro x b hab
   induction hab with
   | refl=>intro _ h;exact .base h
   | @step x' y' z' hst _ ih =>
    intro hx hb
    have hm:=(stp_iff (rows_told hR hE hx)).1 hst
    obtain ⟨k,hk,hkN⟩:=rows_in hR hE x' hx _ hm
    have:y'=k:=by omega
    subst this
    exact .step (ih hkN hb) (usr_mem.2 ⟨x',rfl,hx,hm⟩)
  exact key h hj ha
theorem dirty_eq (hR:AllR D n) (hE:(allErr D n).2.2=0) {S L:List Int} (hS:InN (prodN D n) S) (hL:L.Pairwise (· < ·)) (hm:∀ z,z∈L↔Rea (fun y=>usrL (rowsL D n) y (prodN D n)) S z):L=drtL D n S:=by
 refine rise_eq _ _ hL (sel_rise _ _) fun z=>?_
 rw [hm z]
 unfold drtL
 constructor
 ·intro h1
  obtain ⟨j,rfl,hj⟩:=rea_in hS (fun y _=>usr_in y) h1
  exact sel_has hj (dirB_iff.2 ((rea_user hR hE hj).1 h1))
 ·intro h
  obtain ⟨j,rfl,hj,h2⟩:=selTo_mem _ h
  exact (rea_user hR hE hj).2 (dirB_iff.1 h2)
end
theorem icontm_any (F:Nat) (cap:Array Value) (p:Int→Bool) (hent:∀ (args:Array Value) (w:World),(callFunc F args).run Tryz.prog w=.ok (.enter F args) w) (A:Option Addr) (c:Nat) (L:List Int) (w:World) (hn:L.length≤3000) (hL:IntsAt w A c L)
  (hF:∀ (x:Int) (w':World),x∈L→Below w.heap.size w w'→Calls Tryz.prog F (#[.int .i64 x] ++ cap) w' fun e w''=>e=.returned (.bool (p x))∧Below w'.heap.size w' w'') :
  Calls Tryz.prog 63 #[.slice A L.length c,.func (.func F) #[] cap] w fun e w'=>e=.returned (.bool (anyL p L))∧Below w.heap.size w w':=by
 have h:=indexm_any F cap p hent A c L w hn hL hF
 rw [←any_find]
 generalize findFrom (fun j=>p (L.getD j 0)) L.length 0=r at *
 clear hF hL
 go_enter Tryz.func63,Tryz.ntmps63
 go_wp2_with fail
 refine h.mono ?_
 rintro e w1 ⟨rfl,hb1⟩
 go_wp2_with fail
 go_ret
 exact ⟨rfl,hb1⟩
theorem ent_dirty1 (args:Array Value) (w:World):(callFunc 64 args).run Tryz.prog w=.ok (.enter 64 args) w:=by simp [go_sem]
set_option maxHeartbeats 2000000 in
theorem dirty1_any (q g n b:Nat) (D:Nat→Dm) (X:Nat→AL) (x:Nat) (w:World) (hE:(allErr D n).2.2=0) (hx:x<prodN D n) (hA:PlanV w q g n D X) (hb:w.cell? ⟨b,0,none⟩=some (.pointer (some ⟨q,0,none⟩))) :
  Calls Tryz.prog 64 #[.int .i64 x,.pointer (some ⟨b,0,none⟩)] w fun e w'=>e=.returned (.bool (!leafV D n (placeL D n x)))∧Below w.heap.size w w':=by
 have h:=pleafn_any q g n D X x w hE hx hA
 generalize leafV D n (placeL D n x)=r at h
 clear hA hE hx
 go_enter Tryz.func64,Tryz.ntmps64
 go_wp2_with fail
 refine h.mono ?_
 rintro e w1 ⟨rfl,hb1⟩
 go_wp2_with fail
 go_ret
 exact ⟨rfl,hb1⟩
theorem ent_dirty2 (args:Array Value) (w:World):(callFunc 66 args).run Tryz.prog w=.ok (.enter 66 args) w:=by simp [go_sem]
set_option maxHeartbeats 2000000 in
theorem dirty2_any (b gU N y:Nat) (v:Value) (w:World) (hN:N≤3000) (hy:y<N) (hb:w.cell? ⟨b,0,none⟩=some (.slice (some ⟨gU,0,none⟩) N N)) (hc:w.cell? ⟨gU,y,none⟩=some v) :
  Calls Tryz.prog 66 #[.int .i64 y,.pointer (some ⟨b,0,none⟩)] w fun e w'=>e=.returned (.tuple #[v,.nilIface])∧Below w.heap.size w w':=by
 have hyI:(y:Int)<(N:Int):=by omega
 have hNI:(N:Int)≤3000:=by omega
 go_enter Tryz.func66,Tryz.ntmps66
 go_wp2_with fail
 go_returns
 exact ⟨rfl,by go_grown⟩
set_option maxHeartbeats 8000000 in
theorem numbers_any (A0:Option Addr) (cap n:Nat) (D:Nat→Dm) (A:Nat→Option Addr) (C:Nat→Nat) (Aq:Option Addr) (cq:Nat) (xs:List PL) (w:World) (hE:(allErr D n).2.2=0) (hM:DimsV w A0 cap n D A C) (hX:PlsA w Aq cq xs) (hl:xs.length≤200) :
  Calls Tryz.prog 62 #[.agg #[.slice A0 n cap],.slice Aq xs.length cq] w fun e w'=>(∃ v,e=.returned (.tuple #[v,errV (shTo D n (lP xs))])∧w'.ownsRow w.heap.size 3 1 v (nuL D n (lP xs)).length (mapI (nuL D n (lP xs))))∧Below w.heap.size w w':=by
 obtain ⟨i0,hi0,hz0,hz1,hz2⟩:=info_parts Tryz.infoInt
 have hB0:=ownOut_below w A0 n cap 29
 have hS:=ownOut_size w A0 n cap 29
 have hA:=ownOut_at w A0 n cap 29
 obtain ⟨W,hW⟩:∃ W,ownOut w A0 n cap 29=W:=⟨_,rfl⟩
 rw [hW] at hB0 hS hA
 unfold ownOut at hW
 have HB0:Hid (Below w.heap.size w W):=hB0
 have HC0:Hid (∀ w',Below W.heap.size W w'→w'.cell? ⟨w.heap.size,0,none⟩=some (.slice A0 n cap)∧w.heap.size<w'.heap.size):=fun w' hB=>⟨(hB.cell (p:=⟨w.heap.size,0,none⟩) (show w.heap.size<W.heap.size by omega)).trans hA,by have:=hB.size;omega⟩
 have HX:Hid (∀ w' k,Below W.heap.size W w'→k<xs.length→∃ b o,Aq=some ⟨b,o,none⟩∧b<w'.heap.size∧w'.cell? ⟨b,o+k,none⟩=some (.slice (xs.getD k noP).A (xs.getD k noP).p.length (xs.getD k noP).c)):=fun w' k hB hk=>by
  obtain ⟨-,h0 | ⟨b,o,h1,h2,h3⟩,-⟩:=(hX.later hB0).later hB
  ·rw [h0] at hk;simp at hk
  ·exact ⟨b,o,h1,h2,h3 k hk⟩
 have HNum:Hid (∀ w' k,Below W.heap.size W w'→k<xs.length→Calls Tryz.prog 15 #[.agg #[.slice A0 n cap],.slice (xs.getD k noP).A (xs.getD k noP).p.length (xs.getD k noP).c] w' fun e w''=>e=.returned (.tuple #[.int .i64 (numV D n (xs.getD k noP).p),errV (shapeErr D n (xs.getD k noP).p)])∧Below w'.heap.size w' w''):=fun w' k hB hk=>by
  have h:=pnumber_any A0 cap n D A C (xs.getD k noP).A (xs.getD k noP).c (xs.getD k noP).p w' ((hM.later hB0).later hB) (((hX.later hB0).later hB).2.2 _ (by rw [List.getD_eq_getElem?_getD,List.getElem?_eq_getElem hk];exact List.getElem_mem hk))
  rw [place_shapeN hE] at h
  exact h
 have HSt:Hid (∀ k,k<xs.length→shTo D n ((lP xs).drop k)=if shapeErr D n (xs.getD k noP).p≠0 then shapeErr D n (xs.getD k noP).p else shTo D n ((lP xs).drop (k+1))):=fun k hk=>by
  have h:=sh_drop (D:=D) (n:=n) (lP xs) (k:=k) (by unfold lP;rw [List.length_map];exact hk)
  have e:(lP xs).getD k []=(xs.getD k noP).p:=by
   unfold lP
   rw [List.getD_eq_getElem?_getD,List.getD_eq_getElem?_getD,List.getElem?_map,List.getElem?_eq_getElem hk]
   rfl
  rw [e] at h
  exact h
 have HTk:Hid (∀ k,k<xs.length→drN D n ((lP xs).take (k+1))=drN D n ((lP xs).take k) ++ [numI D (xs.getD k noP).p n]):=fun k hk=>by
  have hk':k<(lP xs).length:=by unfold lP;rw [List.length_map];exact hk
  rw [List.take_succ_eq_append_getElem hk']
  unfold drN
  rw [List.map_append,List.map_singleton]
  have e:(lP xs)[k]=(xs.getD k noP).p:=by
   rw [List.getD_eq_getElem?_getD,List.getElem?_eq_getElem hk]
   simp [lP]
  rw [e]
 have HNv:Hid (∀ k,k<xs.length→shapeErr D n (xs.getD k noP).p=0→∃ y:Nat,numV D n (xs.getD k noP).p=(y:Int)∧numI D (xs.getD k noP).p n=(y:Int)∧y≤3000):=fun k hk h=>by
  have hp:placeErr D n (xs.getD k noP).p=0:=by rw [place_shapeN hE];exact h
  obtain ⟨y,h1,h2,-⟩:=num_lt (inO_of hp)
  have:=(allErr_some hE).2.2.1
  exact ⟨y,by unfold numV;rw [if_pos hp,h1],h1,by omega⟩
 have HEnd:Hid (shTo D n ((lP xs).drop xs.length)=0∧(lP xs).take xs.length=lP xs):=by
  have e:(lP xs).length=xs.length:=by unfold lP;rw [List.length_map]
  exact ⟨by rw [List.drop_of_length_le (by omega)];rfl,List.take_of_length_le (by omega)⟩
 have hcq:xs.length≤cq:=hX.1
 obtain ⟨m,hm⟩:∃ m,xs.length=m:=⟨_,rfl⟩
 rw [hm] at HX HNum HSt HTk HNv HEnd hcq hl ⊢
 have hmI:(m:Int)≤200:=by omega
 have hcI:(m:Int)≤(cq:Int):=by omega
 clear hM hX hE hB0 hS hA hm
 go_enter Tryz.func62,Tryz.ntmps62
 go_wp2_with fail
 go_loopg [6,13] m (fun gg s6 s13 wr => ∃ (k:Nat) (AO:Option Addr) (cO:Nat),k≤m∧gg=m-k∧s13=.int .i64 k∧s6=.slice AO k cO∧Hid (wr.ownsRow W.heap.size 3 1 (.slice AO k cO) k (mapI (drN D n ((lP xs).take k))))∧Hid (shTo D n (lP xs)=shTo D n ((lP xs).drop k))∧Hid (Below W.heap.size W wr))
 case atStart=>exact ⟨0,none,0,Nat.zero_le _,rfl,rfl,rfl,World.ownsRow_nil _ _ _ _,rfl,Below.refl _ _⟩
 case round =>
  obtain ⟨k,AO,cO,hk,rfl,rfl,rfl,HO,HSh,HBw⟩:=hrel
  by_cases hlt:k<m
  ·have hki:(k:Int)<(m:Int):=by omega
   obtain ⟨bq,oq,hAq,hbq,cx⟩:=HX.out wr k HBw.out hlt
   obtain ⟨c0,hs0⟩:=HC0.out wr HBw.out
   have hnum:=HNum.out wr k HBw.out hlt
   have hst:=HSt.out k hlt
   have htk:=HTk.out k hlt
   have hnv:=HNv.out k hlt
   obtain ⟨z,hz⟩:∃ z,xs.getD k noP=z:=⟨_,rfl⟩
   rw [hz] at cx hnum hst htk hnv
   obtain ⟨E,hEq⟩:∃ E,shapeErr D n z.p=E:=⟨_,rfl⟩
   rw [hEq] at hnum hst hnv
   subst hAq
   obtain ⟨zl,hzl⟩:∃ zl,z.p.length=zl:=⟨_,rfl⟩
   rw [hzl] at cx hnum
   obtain ⟨zA,hzA⟩:∃ zA,z.A=zA:=⟨_,rfl⟩
   obtain ⟨zc,hzc⟩:∃ zc,z.c=zc:=⟨_,rfl⟩
   rw [hzA,hzc] at cx hnum
   by_cases h0:E=0
   ·obtain ⟨y,e1,e2,hy3⟩:=hnv h0
    rw [h0,e1,errV_zero] at hnum
    have HS1:Hid (shTo D n (lP xs)=shTo D n ((lP xs).drop (k+1))):=by
     show _=_
     rw [HSh.out,hst,if_neg (by simpa using h0)]
    have HNx:Hid (drN D n ((lP xs).take (k+1))=drN D n ((lP xs).take k) ++ [(y:Int)]):=by
     show _=_
     rw [htk,e2]
    have HBs:Hid (∀ w1:World,Below wr.heap.size wr w1→w1.ownsRow W.heap.size 3 1 (.slice AO k cO) k (mapI (drN D n ((lP xs).take k)))∧W.heap.size≤w1.heap.size):=fun w1 hb1=>⟨own_later HO.out hb1,Nat.le_trans HBw.out.size hb1.size⟩
    have HFin:Hid (∀ (w4 w6:World) (o':Obj) (A6:Option Addr) (c6:Nat),Below wr.heap.size wr w4→w6.ownsRow W.heap.size 3 1 (.slice A6 (k+1) c6) (k+1) (mapI (drN D n ((lP xs).take k)) ++ [.int .i64 (y:Int)])→(w4.alloc o').grownBy w6 (Value.slice AO k cO).ownBlock→Hid (w6.ownsRow W.heap.size 3 1 (.slice A6 (k+1) c6) (k+1) (mapI (drN D n ((lP xs).take (k+1)))))∧Hid (Below W.heap.size W w6)):=fun w4 w6 o' A6 c6 h4 h6 hg=>by
     refine ⟨?_,grown_own (onB HBw.out h4) (own_later HO.out h4) hg⟩
     show World.ownsRow ..
     rw [HNx.out,mapI_snoc]
     exact h6
    have hyI:(y:Int)≤3000:=by omega
    clear hst htk hnv hz hEq h0 e1 e2 hzl hzA hzc
    go_wp2_with fail
    refine hnum.mono ?_
    rintro e w1 ⟨rfl,hb1⟩
    obtain ⟨hO1,hs1⟩:=HBs.out w1 hb1
    have HO1:=hid_of hO1
    have HB1:=hid_of hb1
    clear hb1 hnum cx c0 hO1
    go_wp2_with (at_builtin;refine wpList_append_own _ rfl _ _ 38 rfl W.heap.size 3 i0 (.int .i64 0) 1 8 Tryz.underlying38 hi0 hz0 hz1 hz2 rfl (by decide) _ _ _ rfl (HO1.out.alloc _) ⟨w1.heap.size,0,none⟩ 1 1 [.int .i64 y] rfl rfl one_cell one_one (by unfold maxLen;omega) (by omega) (by simp;omega) ?_)
    intro v' w6 hown' hgrow _
    obtain ⟨A',c',rfl⟩:∃ A' c',v'=.slice A' (k+1) c':=by
     rcases hown'.2 with ⟨-,h⟩ | ⟨g',c',cur,h,-⟩
     ·omega
     ·exact ⟨_,_,h⟩
    obtain ⟨HO6,HB6⟩:=HFin.out _ _ _ _ _ HB1.out hown' hgrow
    clear hown' hgrow
    go_wp2_with fail
    go_roundg (m-(k+1))
    case measure=>omega
    case rel=>exact ⟨k+1,_,_,by omega,rfl,by go_num,rfl,HO6,HS1,HB6⟩
   ·have HEr:Hid (errV (shTo D n (lP xs))=.iface 95 (.int .i64 E)∧nuL D n (lP xs)=[]):=by
     have e:shTo D n (lP xs)=E:=by rw [HSh.out,hst,if_pos h0]
     refine ⟨by rw [e,errV_some h0],?_⟩
     unfold nuL
     rw [if_neg (by rw [e];exact h0)]
    rw [errV_some h0] at hnum
    generalize numV D n z.p=nv at hnum
    clear hst htk hnv hz hEq h0 hzl hzA hzc
    go_wp2_with fail
    refine hnum.mono ?_
    rintro e w1 ⟨rfl,hb1⟩
    have HB1:Hid (Below w.heap.size w w1):=onB HB0.out (onB HBw.out hb1)
    clear hb1 hnum cx c0
    go_wp2_with fail
    go_returns
    exact ⟨⟨.slice none 0 0,by rw [HEr.out.1];rfl,by rw [HEr.out.2];exact World.ownsRow_nil _ _ _ _⟩,HB1.out⟩
  ·have hke:k=m:=by omega
   subst hke
   have HF:Hid (shTo D n (lP xs)=0∧wr.ownsRow w.heap.size 3 1 (.slice AO k cO) (nuL D n (lP xs)).length (mapI (nuL D n (lP xs)))):=by
    have e:shTo D n (lP xs)=0:=by rw [HSh.out];exact HEnd.out.1
    refine ⟨e,?_⟩
    unfold nuL
    rw [if_pos e]
    have h:=HO.out
    rw [HEnd.out.2] at h
    have hl:(drN D n (lP xs)).length=k:=by have:=h.1;unfold mapI at this;rw [List.length_map] at this;omega
    rw [hl]
    exact own_low h HB0.out.size
   have HB2:Hid (Below w.heap.size w wr):=onB HB0.out HBw.out
   go_wp2_with fail
   go_returns
   exact ⟨⟨_,by rw [HF.out.1];rfl,HF.out.2⟩,HB2.out⟩
end Go.Proofs.YtfngmnhkhfgmjagGreatDoor
