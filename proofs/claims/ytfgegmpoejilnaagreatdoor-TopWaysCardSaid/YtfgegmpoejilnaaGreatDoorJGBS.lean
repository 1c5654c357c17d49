/-
  What Dirty of package need answers, in whatever memory: the places that hang on some of leafs, or what is wrong.
-/
import Derived.Test.YtfgegmpoejilnaaGreatDoorJGBH
namespace Go.Proofs.YtfgegmpoejilnaaGreatDoor
open Go.ChangeShapes Go.WideShapes Go.ChangeAt Go.RowKit
set_option maxRecDepth 20000
section
variable {D:Nat→Dm} {n:Nat}
def nuL (D:Nat→Dm) (n:Nat) (Q:List (List Int)):List Int:=if shTo D n Q=0 then drN D n Q else []
theorem sh_all {Q:List (List Int)} (h:shTo D n Q=0):∀ q∈Q,shapeErr D n q=0:=by
 induction Q with
 | nil=>intro q hq;cases hq
 | cons a r ih =>
  unfold shTo at h
  by_cases h1:shapeErr D n a=0
  ·rw [if_neg (by simpa using h1)] at h
   intro q hq
   rcases List.mem_cons.1 hq with rfl | h2
   ·exact h1
   ·exact ih h q h2
  ·rw [if_pos h1] at h
   exact absurd h h1
theorem sh_drop (Q:List (List Int)) {k:Nat} (hk:k<Q.length):shTo D n (Q.drop k)=if shapeErr D n (Q.getD k [])≠0 then shapeErr D n (Q.getD k []) else shTo D n (Q.drop (k+1)):=by
 rw [List.drop_eq_getElem_cons hk,shTo,List.getD_eq_getElem?_getD,List.getElem?_eq_getElem hk]
 rfl
theorem drN_in (hE:(allErr D n).2.2=0) {Q:List (List Int)} (h:shTo D n Q=0):InN (prodN D n) (drN D n Q)∧((drN D n Q).any fun z => !leafV D n (placeL D n z.toNat))=Q.any fun q => !leafV D n q:=by
 have hnum:∀ q∈Q,∃ x:Nat,numI D q n=(x:Int)∧x<prodN D n∧placeL D n x=q:=fun q hq=>num_lt (inO_of (by rw [place_shapeN hE];exact sh_all h q hq))
 constructor
 ·intro z hz
  unfold drN at hz
  obtain ⟨q,hq,rfl⟩:=List.mem_map.1 hz
  obtain ⟨x,h1,h2,-⟩:=hnum q hq
  exact ⟨x,h1,h2⟩
 ·unfold drN
  rw [List.any_map]
  rw [Bool.eq_iff_iff,List.any_eq_true,List.any_eq_true]
  constructor
  ·rintro ⟨q,hq,h1⟩
   refine ⟨q,hq,?_⟩
   obtain ⟨x,h2,-,h3⟩:=hnum q hq
   rw [Function.comp_apply,h2,Int.toNat_natCast,h3] at h1
   exact h1
  ·rintro ⟨q,hq,h1⟩
   refine ⟨q,hq,?_⟩
   obtain ⟨x,h2,-,h3⟩:=hnum q hq
   rw [Function.comp_apply,h2,Int.toNat_natCast,h3]
   exact h1
theorem usr_in (y:Nat):InN (prodN D n) (usrL (rowsL D n) y (prodN D n)):=fun z hz=>by
 obtain ⟨j,rfl,hj,-⟩:=usr_mem.1 hz
 exact ⟨j,rfl,hj⟩
theorem rea_user (hR:AllR D n) (hE:(allErr D n).2.2=0) {S:List Int} {j:Nat} (hj:j<prodN D n):Rea (fun y=>usrL (rowsL D n) y (prodN D n)) S (j:Int)↔∃ a:Nat,(a:Int)∈S∧Ndd D n j a:=by
 constructor
 ·intro h
  have key:∀ z,Rea (fun y=>usrL (rowsL D n) y (prodN D n)) S z→∀ j:Nat,z=(j:Int)→∃ a:Nat,(a:Int)∈S∧Ndd D n j a:=by
   intro z hz
   induction hz with
   | base h =>
    intro j e
    subst e
    exact ⟨j,h,.refl _⟩
   | @step y x' hy hm ih =>
    intro j e
    subst e
    obtain ⟨a,ha,hn⟩:=ih y rfl
    obtain ⟨j',e',hj',hm'⟩:=usr_mem.1 hm
    have:j=j':=by omega
    subst this
    exact ⟨a,ha,.step ((stp_iff (rows_told hR hE hj')).2 hm') hn⟩
  exact key _ h j rfl
 ·rintro ⟨a,ha,h⟩
  have key:∀ {x b:Nat},Ndd D n x b→x<prodN D n→(b:Int)∈S→Rea (fun y=>usrL (rowsL D n) y (prodN D n)) S (x:Int):=by
   intro x b hab
   induction hab with
   | refl=>intro _ h;exact .base h
   | @step x' y' z' hst _ ih =>
    intro hx hb
    have hm:=(stp_iff (rows_told hR hE hx)).1 hst
    obtain ⟨k,hk,hkN⟩:=rows_in hR hE x' hx _ hm
    have:y'=k:=by omega
    subst this
    exact .step (ih hkN hb) (usr_mem.2 ⟨x',rfl,hx,hm⟩)
  exact key h hj ha
theorem dirty_eq (hR:AllR D n) (hE:(allErr D n).2.2=0) {S L:List Int} (hS:InN (prodN D n) S) (hL:L.Pairwise (· < ·)) (hm:∀ z,z∈L↔Rea (fun y=>usrL (rowsL D n) y (prodN D n)) S z):L=drtL D n S:=by
 refine rise_eq _ _ hL (sel_rise _ _) fun z=>?_
 rw [hm z]
 unfold drtL
 constructor
 ·intro h1
  obtain ⟨j,rfl,hj⟩:=rea_in hS (fun y _=>usr_in y) h1
  exact sel_has hj (dirB_iff.2 ((rea_user hR hE hj).1 h1))
 ·intro h
  obtain ⟨j,rfl,hj,h2⟩:=selTo_mem _ h
  exact (rea_user hR hE hj).2 (dirB_iff.1 h2)
end
theorem icontm_any (F:Nat) (cap:Array Value) (p:Int→Bool) (hent:∀ (args:Array Value) (w:World),(callFunc F args).run Tryz.prog w=.ok (.enter F args) w) (A:Option Addr) (c:Nat) (L:List Int) (w:World) (hn:L.length≤3000) (hL:IntsAt w A c L)
  (hF:∀ (x:Int) (w':World),x∈L→Below w.heap.size w w'→Calls Tryz.prog F (#[.int .i64 x] ++ cap) w' fun e w''=>e=.returned (.bool (p x))∧Below w'.heap.size w' w'') :
  Calls Tryz.prog 77 #[.slice A L.length c,.func (.func F) #[] cap] w fun e w'=>e=.returned (.bool (anyL p L))∧Below w.heap.size w w':=by
 rw [←any_find]
 exact contm_pl F cap p hent A c L w (by omega) (pl_ints hL) hF
theorem ent_dirty1 (args:Array Value) (w:World):(callFunc 78 args).run Tryz.prog w=.ok (.enter 78 args) w:=by simp [go_sem]
set_option maxHeartbeats 2000000 in
theorem dirty1_any (q g n b:Nat) (D:Nat→Dm) (X:Nat→AL) (x:Nat) (w:World) (hE:(allErr D n).2.2=0) (hx:x<prodN D n) (hA:PlanV w q g n D X) (hb:w.cell? ⟨b,0,none⟩=some (.pointer (some ⟨q,0,none⟩))) :
  Calls Tryz.prog 78 #[.int .i64 x,.pointer (some ⟨b,0,none⟩)] w fun e w'=>e=.returned (.bool (!leafV D n (placeL D n x)))∧Below w.heap.size w w':=by
 have h:=pleafn_any q g n D X x w hE hx hA
 generalize leafV D n (placeL D n x)=r at h
 clear hA hE hx
 go_enter Tryz.func78,Tryz.ntmps78
 go_wp2_with fail
 refine h.mono ?_
 rintro e w1 ⟨rfl,hb1⟩
 go_wp2_with fail
 go_ret
 exact ⟨rfl,hb1⟩
theorem ent_dirty2 (args:Array Value) (w:World):(callFunc 82 args).run Tryz.prog w=.ok (.enter 82 args) w:=by simp [go_sem]
set_option maxHeartbeats 2000000 in
theorem dirty2_any (b gU N y:Nat) (v:Value) (w:World) (hN:N≤3000) (hy:y<N) (hb:w.cell? ⟨b,0,none⟩=some (.slice (some ⟨gU,0,none⟩) N N)) (hc:w.cell? ⟨gU,y,none⟩=some v) :
  Calls Tryz.prog 82 #[.int .i64 y,.pointer (some ⟨b,0,none⟩)] w fun e w'=>e=.returned (.tuple #[v,.nilIface])∧Below w.heap.size w w':=by
 have hyI:(y:Int)<(N:Int):=by omega
 have hNI:(N:Int)≤3000:=by omega
 go_enter Tryz.func82,Tryz.ntmps82
 go_wp2_with fail
 go_returns
 exact ⟨rfl,by go_grown⟩
set_option maxHeartbeats 8000000 in
theorem numbers_any (A0:Option Addr) (cap n:Nat) (D:Nat→Dm) (A:Nat→Option Addr) (C:Nat→Nat) (Aq:Option Addr) (cq:Nat) (xs:List PL) (w:World) (hE:(allErr D n).2.2=0) (hM:DimsV w A0 cap n D A C) (hX:PlsA w Aq cq xs) (hl:xs.length≤200) :
  Calls Tryz.prog 76 #[.agg #[.slice A0 n cap],.slice Aq xs.length cq] w fun e w'=>(∃ v,e=.returned (.tuple #[v,errV (shTo D n (lP xs))])∧w'.ownsRow w.heap.size 3 1 v (nuL D n (lP xs)).length (mapI (nuL D n (lP xs))))∧Below w.heap.size w w':=by
 obtain ⟨i0,hi0,hz0,hz1,hz2⟩:=info_parts Tryz.infoInt
 have hB0:=ownOut_below w A0 n cap 24
 have hS:=ownOut_size w A0 n cap 24
 have hA:=ownOut_at w A0 n cap 24
 obtain ⟨W,hW⟩:∃ W,ownOut w A0 n cap 24=W:=⟨_,rfl⟩
 rw [hW] at hB0 hS hA
 unfold ownOut at hW
 have HB0:Hid (Below w.heap.size w W):=hB0
 have HC0:Hid (∀ w',Below W.heap.size W w'→w'.cell? ⟨w.heap.size,0,none⟩=some (.slice A0 n cap)∧w.heap.size<w'.heap.size):=fun w' hB=>⟨(hB.cell (p:=⟨w.heap.size,0,none⟩) (show w.heap.size<W.heap.size by omega)).trans hA,by have:=hB.size;omega⟩
 have HX:Hid (∀ w' k,Below W.heap.size W w'→k<xs.length→∃ b o,Aq=some ⟨b,o,none⟩∧b<w'.heap.size∧w'.cell? ⟨b,o+k,none⟩=some (.slice (xs.getD k noP).A (xs.getD k noP).p.length (xs.getD k noP).c)):=fun w' k hB hk=>by
  obtain ⟨-,h0 | ⟨b,o,h1,h2,h3⟩,-⟩:=(hX.later hB0).later hB
  ·rw [h0] at hk;simp at hk
  ·exact ⟨b,o,h1,h2,h3 k hk⟩
 have HNum:Hid (∀ w' k,Below W.heap.size W w'→k<xs.length→Calls Tryz.prog 19 #[.agg #[.slice A0 n cap],.slice (xs.getD k noP).A (xs.getD k noP).p.length (xs.getD k noP).c] w' fun e w''=>e=.returned (.tuple #[.int .i64 (numV D n (xs.getD k noP).p),errV (shapeErr D n (xs.getD k noP).p)])∧Below w'.heap.size w' w''):=fun w' k hB hk=>by
  have h:=pnumber_any A0 cap n D A C (xs.getD k noP).A (xs.getD k noP).c (xs.getD k noP).p w' ((hM.later hB0).later hB) (((hX.later hB0).later hB).2.2 _ (by rw [List.getD_eq_getElem?_getD,List.getElem?_eq_getElem hk];exact List.getElem_mem hk))
  rw [place_shapeN hE] at h
  exact h
 have HSt:Hid (∀ k,k<xs.length→shTo D n ((lP xs).drop k)=if shapeErr D n (xs.getD k noP).p≠0 then shapeErr D n (xs.getD k noP).p else shTo D n ((lP xs).drop (k+1))):=fun k hk=>by
  have h:=sh_drop (D:=D) (n:=n) (lP xs) (k:=k) (by unfold lP;rw [List.length_map];exact hk)
  have e:(lP xs).getD k []=(xs.getD k noP).p:=by
   unfold lP
   rw [List.getD_eq_getElem?_getD,List.getD_eq_getElem?_getD,List.getElem?_map,List.getElem?_eq_getElem hk]
   rfl
  rw [e] at h
  exact h
 have HTk:Hid (∀ k,k<xs.length→drN D n ((lP xs).take (k+1))=drN D n ((lP xs).take k) ++ [numI D (xs.getD k noP).p n]):=fun k hk=>by
  have hk':k<(lP xs).length:=by unfold lP;rw [List.length_map];exact hk
  rw [List.take_succ_eq_append_getElem hk']
  unfold drN
  rw [List.map_append,List.map_singleton]
  have e:(lP xs)[k]=(xs.getD k noP).p:=by
   rw [List.getD_eq_getElem?_getD,List.getElem?_eq_getElem hk]
   simp [lP]
  rw [e]
 have HNv:Hid (∀ k,k<xs.length→shapeErr D n (xs.getD k noP).p=0→∃ y:Nat,numV D n (xs.getD k noP).p=(y:Int)∧numI D (xs.getD k noP).p n=(y:Int)∧y≤3000):=fun k hk h=>by
  have hp:placeErr D n (xs.getD k noP).p=0:=by rw [place_shapeN hE];exact h
  obtain ⟨y,h1,h2,-⟩:=num_lt (inO_of hp)
  have:=(allErr_some hE).2.2.1
  exact ⟨y,by unfold numV;rw [if_pos hp,h1],h1,by omega⟩
 have HEnd:Hid (shTo D n ((lP xs).drop xs.length)=0∧(lP xs).take xs.length=lP xs):=by
  have e:(lP xs).length=xs.length:=by unfold lP;rw [List.length_map]
  exact ⟨by rw [List.drop_of_length_le (by omega)];rfl,List.take_of_length_le (by omega)⟩
 have hcq:xs.length≤cq:=hX.1
 obtain ⟨m,hm⟩:∃ m,xs.length=m:=⟨_,rfl⟩
 rw [hm] at HX HNum HSt HTk HNv HEnd hcq hl ⊢
 have hmI:(m:Int)≤200:=by omega
 have hcI:(m:Int)≤(cq:Int):=by omega
 clear hM hX hE hB0 hS hA hm
 go_enter Tryz.func76,Tryz.ntmps76
 go_wp2_with fail
 go_loopg [6,13] m (fun gg s6 s13 wr => ∃ (k:Nat) (AO:Option Addr) (cO:Nat),k≤m∧gg=m-k∧s13=.int .i64 k∧s6=.slice AO k cO∧Hid (wr.ownsRow W.heap.size 3 1 (.slice AO k cO) k (mapI (drN D n ((lP xs).take k))))∧Hid (shTo D n (lP xs)=shTo D n ((lP xs).drop k))∧Hid (Below W.heap.size W wr))
 case atStart=>exact ⟨0,none,0,Nat.zero_le _,rfl,rfl,rfl,World.ownsRow_nil _ _ _ _,rfl,Below.refl _ _⟩
 case round =>
  obtain ⟨k,AO,cO,hk,rfl,rfl,rfl,HO,HSh,HBw⟩:=hrel
  by_cases hlt:k<m
  ·have hki:(k:Int)<(m:Int):=by omega
   obtain ⟨bq,oq,hAq,hbq,cx⟩:=HX.out wr k HBw.out hlt
   obtain ⟨c0,hs0⟩:=HC0.out wr HBw.out
   have hnum:=HNum.out wr k HBw.out hlt
   have hst:=HSt.out k hlt
   have htk:=HTk.out k hlt
   have hnv:=HNv.out k hlt
   obtain ⟨z,hz⟩:∃ z,xs.getD k noP=z:=⟨_,rfl⟩
   rw [hz] at cx hnum hst htk hnv
   obtain ⟨E,hEq⟩:∃ E,shapeErr D n z.p=E:=⟨_,rfl⟩
   rw [hEq] at hnum hst hnv
   subst hAq
   obtain ⟨zl,hzl⟩:∃ zl,z.p.length=zl:=⟨_,rfl⟩
   rw [hzl] at cx hnum
   obtain ⟨zA,hzA⟩:∃ zA,z.A=zA:=⟨_,rfl⟩
   obtain ⟨zc,hzc⟩:∃ zc,z.c=zc:=⟨_,rfl⟩
   rw [hzA,hzc] at cx hnum
   by_cases h0:E=0
   ·obtain ⟨y,e1,e2,hy3⟩:=hnv h0
    rw [h0,e1,errV_zero] at hnum
    have HS1:Hid (shTo D n (lP xs)=shTo D n ((lP xs).drop (k+1))):=by
     show _=_
     rw [HSh.out,hst,if_neg (by simpa using h0)]
    have HNx:Hid (drN D n ((lP xs).take (k+1))=drN D n ((lP xs).take k) ++ [(y:Int)]):=by
     show _=_
     rw [htk,e2]
    have HBs:Hid (∀ w1:World,Below wr.heap.size wr w1→w1.ownsRow W.heap.size 3 1 (.slice AO k cO) k (mapI (drN D n ((lP xs).take k)))∧W.heap.size≤w1.heap.size):=fun w1 hb1=>⟨own_later HO.out hb1,Nat.le_trans HBw.out.size hb1.size⟩
    have HFin:Hid (∀ (w4 w6:World) (o':Obj) (A6:Option Addr) (c6:Nat),Below wr.heap.size wr w4→w6.ownsRow W.heap.size 3 1 (.slice A6 (k+1) c6) (k+1) (mapI (drN D n ((lP xs).take k)) ++ [.int .i64 (y:Int)])→(w4.alloc o').grownBy w6 (Value.slice AO k cO).ownBlock→Hid (w6.ownsRow W.heap.size 3 1 (.slice A6 (k+1) c6) (k+1) (mapI (drN D n ((lP xs).take (k+1)))))∧Hid (Below W.heap.size W w6)):=fun w4 w6 o' A6 c6 h4 h6 hg=>by
     refine ⟨?_,grown_own (onB HBw.out h4) (own_later HO.out h4) hg⟩
     show World.ownsRow ..
     rw [HNx.out,mapI_snoc]
     exact h6
    have hyI:(y:Int)≤3000:=by omega
    clear hst htk hnv hz hEq h0 e1 e2 hzl hzA hzc
    go_wp2_with fail
    refine hnum.mono ?_
    rintro e w1 ⟨rfl,hb1⟩
    obtain ⟨hO1,hs1⟩:=HBs.out w1 hb1
    have HO1:=hid_of hO1
    have HB1:=hid_of hb1
    clear hb1 hnum cx c0 hO1
    go_wp2_with (at_builtin;refine wpList_append_own _ rfl _ _ 38 rfl W.heap.size 3 i0 (.int .i64 0) 1 8 Tryz.underlying38 hi0 hz0 hz1 hz2 rfl (by decide) _ _ _ rfl (HO1.out.alloc _) ⟨w1.heap.size,0,none⟩ 1 1 [.int .i64 y] rfl rfl one_cell one_one (by unfold maxLen;omega) (by omega) (by simp;omega) ?_)
    intro v' w6 hown' hgrow _
    obtain ⟨A',c',rfl⟩:∃ A' c',v'=.slice A' (k+1) c':=by
     rcases hown'.2 with ⟨-,h⟩ | ⟨g',c',cur,h,-⟩
     ·omega
     ·exact ⟨_,_,h⟩
    obtain ⟨HO6,HB6⟩:=HFin.out _ _ _ _ _ HB1.out hown' hgrow
    clear hown' hgrow
    go_wp2_with fail
    go_roundg (m-(k+1))
    case measure=>omega
    case rel=>exact ⟨k+1,_,_,by omega,rfl,by go_num,rfl,HO6,HS1,HB6⟩
   ·have HEr:Hid (errV (shTo D n (lP xs))=.iface 95 (.int .i64 E)∧nuL D n (lP xs)=[]):=by
     have e:shTo D n (lP xs)=E:=by rw [HSh.out,hst,if_pos h0]
     refine ⟨by rw [e,errV_some h0],?_⟩
     unfold nuL
     rw [if_neg (by rw [e];exact h0)]
    rw [errV_some h0] at hnum
    generalize numV D n z.p=nv at hnum
    clear hst htk hnv hz hEq h0 hzl hzA hzc
    go_wp2_with fail
    refine hnum.mono ?_
    rintro e w1 ⟨rfl,hb1⟩
    have HB1:Hid (Below w.heap.size w w1):=onB HB0.out (onB HBw.out hb1)
    clear hb1 hnum cx c0
    go_wp2_with fail
    go_returns
    exact ⟨⟨.slice none 0 0,by rw [HEr.out.1];rfl,by rw [HEr.out.2];exact World.ownsRow_nil _ _ _ _⟩,HB1.out⟩
  ·have hke:k=m:=by omega
   subst hke
   have HF:Hid (shTo D n (lP xs)=0∧wr.ownsRow w.heap.size 3 1 (.slice AO k cO) (nuL D n (lP xs)).length (mapI (nuL D n (lP xs)))):=by
    have e:shTo D n (lP xs)=0:=by rw [HSh.out];exact HEnd.out.1
    refine ⟨e,?_⟩
    unfold nuL
    rw [if_pos e]
    have h:=HO.out
    rw [HEnd.out.2] at h
    have hl:(drN D n (lP xs)).length=k:=by have:=h.1;unfold mapI at this;rw [List.length_map] at this;omega
    rw [hl]
    exact own_low h HB0.out.size
   have HB2:Hid (Below w.heap.size w wr):=onB HB0.out HBw.out
   go_wp2_with fail
   go_returns
   exact ⟨⟨_,by rw [HF.out.1];rfl,HF.out.2⟩,HB2.out⟩
set_option maxHeartbeats 8000000 in
theorem ndirty_t (A0:Option Addr) (cap n:Nat) (D:Nat→Dm) (A:Nat→Option Addr) (C:Nat→Nat) (Aq:Option Addr) (cq:Nat) (xs:List PL) (w:World) (hM:DimsV w A0 cap n D A C) (hX:PlsA w Aq cq xs) (hl:xs.length≤200) :
  Calls Tryz.prog 45 #[.agg #[.slice A0 n cap],.slice Aq xs.length cq] w fun e w'=>(∃ A' c',e=.returned (.tuple #[.slice A' (ddL D n (lP xs)).length c',errV (drE D n (lP xs))])∧IntT w' A' c' (ddL D n (lP xs)))∧Below w.heap.size w w':=by
 have hB0:=ownOut_below w A0 n cap 24
 have hS:=ownOut_size w A0 n cap 24
 have hA:=ownOut_at w A0 n cap 24
 obtain ⟨W,hW⟩:∃ W,ownOut w A0 n cap 24=W:=⟨_,rfl⟩
 rw [hW] at hB0 hS hA
 unfold ownOut at hW
 have HB0:Hid (Below w.heap.size w W):=hB0
 have hsz:w.heap.size<W.heap.size:=by omega
 have HA:Hid (W.cell? ⟨w.heap.size,0,none⟩=some (.slice A0 n cap)):=hA
 by_cases hr:(ruErr D n).2.2=0
 case neg =>
  have hn:=new_bad A0 cap n D A C W hr (hM.later hB0)
  have hz:drE D n (lP xs)=(ruErr D n).2.2:=by unfold drE;rw [if_pos hr]
  have HL:Hid (ddL D n (lP xs)=[]):=by show _=_;unfold ddL;rw [if_neg (by rw [hz];exact hr)]
  have HEr:Hid (errV (drE D n (lP xs))=.iface 95 (.int .i64 (ruErr D n).2.2)):=by show _=_;rw [hz,errV_some hr]
  rw [errV_some hr] at hn
  generalize (ruErr D n).2.2=z at hn HEr
  generalize xs.length=xl
  clear hM hX hB0 hr hS hz hl
  go_enter Tryz.func45,Tryz.ntmps45
  go_wp2_with fail
  refine hn.mono ?_
  rintro e w1 ⟨rfl,hb1⟩
  have HB1:Hid (Below w.heap.size w w1):=onB HB0.out hb1
  clear hb1 hn
  go_wp2_with fail
  go_returns
  exact ⟨⟨none,0,by rw [HL.out,HEr.out];rfl,by rw [HL.out];exact IntT.nil _ _ _ (by omega)⟩,onB HB1.out (by go_grown)⟩
 obtain ⟨hE,hR⟩:=ru_right hr
 have hn:=new_any A0 cap n D A C W hE hR (hM.later hB0)
 have hde:drE D n (lP xs)=drTo D n (lP xs):=by unfold drE;rw [if_neg (by simpa using hr)]
 have HNm:Hid (∀ w',Below w.heap.size w w'→Calls Tryz.prog 76 #[.agg #[.slice A0 n cap],.slice Aq xs.length cq] w' fun e w''=>(∃ v,e=.returned (.tuple #[v,errV (shTo D n (lP xs))])∧w''.ownsRow w'.heap.size 3 1 v (nuL D n (lP xs)).length (mapI (nuL D n (lP xs))))∧Below w'.heap.size w' w''):=fun w' hB=>numbers_any A0 cap n D A C Aq cq xs w' hE (hM.later hB) (hX.later hB) hl
 have HBox:Hid (∀ w1,Below W.heap.size W w1→∀ (v:Value) (T:Nat),(w1.alloc (.cells #[v] T)).cell? ⟨w.heap.size,0,none⟩=some (.slice A0 n cap)∧w.heap.size<(w1.alloc (.cells #[v] T)).heap.size∧Below w.heap.size w (w1.alloc (.cells #[v] T))):=fun w1 hb1 v T=>by
  have hb2:Below w1.heap.size w1 (w1.alloc (.cells #[v] T)):=by go_grown
  have hb:=onB hb1 hb2
  exact ⟨(hb.cell (p:=⟨w.heap.size,0,none⟩) hsz).trans HA.out,Nat.lt_of_lt_of_le hsz hb.size,onB HB0.out hb⟩
 by_cases hs:shTo D n (lP xs)=0
 case neg =>
  have hz:drE D n (lP xs)=shTo D n (lP xs):=by rw [hde];unfold drTo;rw [if_pos hs]
  have HL:Hid (ddL D n (lP xs)=[]):=by show _=_;unfold ddL;rw [if_neg (by rw [hz];exact hs)]
  have HEr:Hid (errV (drE D n (lP xs))=.iface 95 (.int .i64 (shTo D n (lP xs)))):=by show _=_;rw [hz,errV_some hs]
  have hnu:nuL D n (lP xs)=[]:=by unfold nuL;rw [if_neg hs]
  rw [errV_some hs,hnu] at HNm
  generalize shTo D n (lP xs)=z at HNm HEr
  generalize xs.length=xl at HNm ⊢
  clear hM hX hB0 hr hS hz hl hE hR hde hs hnu
  go_enter Tryz.func45,Tryz.ntmps45
  go_wp2_with fail
  refine hn.mono ?_
  rintro e w1 ⟨⟨qp,g,X,rfl,-,-,-⟩,hb1⟩
  obtain ⟨x1,x2,x3⟩:=HBox.out w1 hb1 (.pointer (some ⟨qp,0,none⟩)) 74
  obtain ⟨w2,hw2⟩:∃ w2,w1.alloc (.cells #[.pointer (some ⟨qp,0,none⟩)] 74)=w2:=⟨_,rfl⟩
  rw [hw2] at x1 x2 x3
  have HB2:Hid (Below w.heap.size w w2):=x3
  clear hb1 hn hA hW x3
  go_wp2_with fail
  refine (HNm.out w2 HB2.out).mono ?_
  rintro e w3 ⟨⟨v,rfl,hO⟩,hb3⟩
  have HB3:Hid (Below w.heap.size w w3):=onB HB2.out hb3
  obtain ⟨AO,lO,cO,hv⟩:∃ AO lO cO,v=.slice AO lO cO:=by
   rcases hO.2 with ⟨h1,h2⟩ | ⟨g,cap,cur,h1,-⟩
   ·exact ⟨none,0,0,h1⟩
   ·exact ⟨_,_,_,h1⟩
  subst hv
  clear hb3 hO
  go_wp2_with fail
  go_returns
  exact ⟨⟨none,0,by rw [HL.out,HEr.out];rfl,by rw [HL.out];exact IntT.nil _ _ _ (by omega)⟩,HB3.out⟩
 obtain ⟨hin,hany⟩:=drN_in hE hs
 have hnu:nuL D n (lP xs)=drN D n (lP xs):=by unfold nuL;rw [if_pos hs]
 have hdl:(drN D n (lP xs)).length=xs.length:=by unfold drN lP;rw [List.length_map,List.length_map]
 rw [hs,hnu,errV_zero] at HNm
 have hp3:=(allErr_some hE).2.2.1
 have HCf:Hid (∀ q g X b w' A' c',PlanV w' q g n D X→w'.cell? ⟨b,0,none⟩=some (.pointer (some ⟨q,0,none⟩))→b<w'.heap.size→IntT w' A' c' (drN D n (lP xs))→Calls Tryz.prog 77 #[.slice A' (drN D n (lP xs)).length c',.func (.func 78) #[] #[.pointer (some ⟨b,0,none⟩)]] w' fun e w''=>e=.returned (.bool ((lP xs).any fun q => !leafV D n q))∧Below w'.heap.size w' w''):=fun q g X b w' A' c' hA hc hb hI=>by
  rw [←hany]
  refine icontm_any 78 #[.pointer (some ⟨b,0,none⟩)] (fun z => !leafV D n (placeL D n z.toNat)) ent_dirty1 A' c' (drN D n (lP xs)) w' (by omega) hI.at fun z w2 hz hB2=>?_
  obtain ⟨j,rfl,hj⟩:=hin z hz
  rw [Int.toNat_natCast]
  exact dirty1_any q g n b D X j w2 hE hj (hA.later hB2) ((hB2.cell (p:=⟨b,0,none⟩) hb).trans hc)
 have HUs:Hid (∀ q g X w',PlanV w' q g n D X→Calls Tryz.prog 80 #[.pointer (some ⟨q,0,none⟩)] w' fun e w''=>(∃ gU,e=.returned (.slice (some ⟨gU,0,none⟩) (prodN D n) (prodN D n))∧UMk w'' gU (prodN D n) (prodN D n) (rowsL D n) w')∧Below w'.heap.size w' w''):=fun q g X w' hA=>by
  refine (users_any q g n D X w' hR hE hA).mono ?_
  rintro e w'' ⟨gU,rfl,hU⟩
  exact ⟨⟨gU,rfl,hU⟩,hU.choose_spec.2⟩
 have HRe:Hid (∀ gU w0 w1 b w' A' c',UMk w1 gU (prodN D n) (prodN D n) (rowsL D n) w0→Below w1.heap.size w1 w'→w'.cell? ⟨b,0,none⟩=some (.slice (some ⟨gU,0,none⟩) (prodN D n) (prodN D n))→b<w'.heap.size→IntT w' A' c' (drN D n (lP xs))→Calls Tryz.prog 81 #[.slice A' (drN D n (lP xs)).length c',.func (.func 82) #[] #[.pointer (some ⟨b,0,none⟩)]] w' fun e w''=>(∃ A' c',e=.returned (.tuple #[.slice A' (drtL D n (drN D n (lP xs))).length c',.nilIface])∧IntT w'' A' c' (drtL D n (drN D n (lP xs))))∧Below w'.heap.size w' w''):=fun gU w0 w1 b w' A' c' hU hB1 hc hb hI=>by
  obtain ⟨UV,hU,-⟩:=hU
  have h:=nreach_any 82 #[] #[.pointer (some ⟨b,0,none⟩)] (fun y=>usrL (rowsL D n) y (prodN D n)) (prodN D n) ent_dirty2 A' c' (drN D n (lP xs)) w' hp3 (by omega) hI hin (fun y _=>usr_in y) (fun y hy=>by have:=usr_len (rowsL D n) y (prodN D n);omega) fun y w2 hy hB2=>by
   have hU2:=(hU.later hB1).later hB2
   refine (dirty2_any b gU (prodN D n) y (UV y) w2 hp3 hy ((hB2.cell (p:=⟨b,0,none⟩) hb).trans hc) (hU2.hU.cell hy)).mono ?_
   rintro e w3 ⟨rfl,hb3⟩
   obtain ⟨A2,c2,hv,hI2⟩:=intT_own (hU2.own y hy)
   refine ⟨⟨A2,c2,by rw [hv],hI2.later hb3,fun a ha=>Or.inl ?_⟩,hb3⟩
   exact (own_blk ((hU.later hB1).own y hy) (by rw [hv,ha];rfl)).2.1
  refine Calls.mono h ?_
  rintro e w'' ⟨⟨v,L,rfl,hO,hLt,hLm⟩,hb2⟩
  obtain ⟨A2,c2,rfl,hI2⟩:=intT_own hO
  rw [←dirty_eq hR hE hin hLt hLm]
  exact ⟨⟨A2,c2,rfl,hI2⟩,hb2⟩
 obtain ⟨LN,hLN⟩:∃ LN,drN D n (lP xs)=LN:=⟨_,rfl⟩
 have HLN:Hid (drN D n (lP xs)=LN):=hLN
 rw [hLN] at HNm HCf HRe hdl
 obtain ⟨N,hN⟩:∃ N,prodN D n=N:=⟨_,rfl⟩
 rw [hN] at HUs HRe hp3
 have hNI:(N:Int)≤3000:=by omega
 by_cases hlf:((lP xs).any fun q => !leafV D n q)=true
 case pos =>
  have hz:drE D n (lP xs)=6:=by rw [hde];unfold drTo;rw [if_neg (by simpa using hs),if_pos hlf]
  have HL:Hid (ddL D n (lP xs)=[]):=by show _=_;unfold ddL;rw [if_neg (by rw [hz];decide)]
  have HEr:Hid (errV (drE D n (lP xs))=.iface 95 (.int .i64 6)):=by show _=_;rw [hz,errV_some (by decide)]
  rw [hlf] at HCf
  generalize rowsL D n=Nn at HUs HRe
  generalize xs.length=xl at HNm hl hdl ⊢
  have hxl:LN.length≤3000:=by omega
  clear hM hX hB0 hr hS hz hE hR hde hs hnu hany hin hlf hLN hN HRe hdl
  go_enter Tryz.func45,Tryz.ntmps45
  go_wp2_with fail
  refine hn.mono ?_
  rintro e w1 ⟨⟨qp,g,X,rfl,-,-,hPl⟩,hb1⟩
  obtain ⟨x1,x2,x3⟩:=HBox.out w1 hb1 (.pointer (some ⟨qp,0,none⟩)) 74
  obtain ⟨w2,hw2⟩:∃ w2,w1.alloc (.cells #[.pointer (some ⟨qp,0,none⟩)] 74)=w2:=⟨_,rfl⟩
  have hb2:Below w1.heap.size w1 w2:=by rw [←hw2];go_grown
  have c2:w2.cell? ⟨w1.heap.size,0,none⟩=some (.pointer (some ⟨qp,0,none⟩)):=by rw [←hw2];exact (Lib.cell_of_heap (heap_alloc_new w1 _) 0).trans rfl
  have hs2:w1.heap.size<w2.heap.size:=by rw [←hw2];simp
  rw [hw2] at x1 x2 x3
  have HB2:Hid (Below w.heap.size w w2):=x3
  have HP2:Hid (PlanV w2 qp g n D X):=hPl.later hb2
  have HC2:Hid (w2.cell? ⟨w1.heap.size,0,none⟩=some (.pointer (some ⟨qp,0,none⟩))):=c2
  clear hb1 hn hA hW x3 hPl hb2
  go_wp2_with fail
  refine (HNm.out w2 HB2.out).mono ?_
  rintro e w3 ⟨⟨v,rfl,hO⟩,hb3⟩
  obtain ⟨A3,c3,hv,hI3⟩:=intT_own hO
  have HB3:Hid (Below w.heap.size w w3):=onB HB2.out hb3
  have hcf:=HCf.out qp g X w1.heap.size w3 A3 c3 (HP2.out.later hb3) ((hb3.cell (p:=⟨w1.heap.size,0,none⟩) hs2).trans HC2.out) (Nat.lt_of_lt_of_le hs2 hb3.size) hI3
  subst hv
  clear hb3 hO hI3 hw2 c2
  go_wp2_with fail
  refine hcf.mono ?_
  rintro e w4 ⟨rfl,hb4⟩
  have HB4:Hid (Below w.heap.size w w4):=onB HB3.out hb4
  clear hb4 hcf
  go_wp2_with fail
  go_returns
  exact ⟨⟨none,0,by rw [HL.out,HEr.out];rfl,by rw [HL.out];exact IntT.nil _ _ _ (by omega)⟩,HB4.out⟩
 have hlf':((lP xs).any fun q => !leafV D n q)=false:=by simpa using hlf
 have hz:drE D n (lP xs)=0:=by rw [hde];unfold drTo;rw [if_neg (by simpa using hs),if_neg hlf]
 have HL:Hid (ddL D n (lP xs)=drtL D n LN):=by show _=_;unfold ddL;rw [if_pos hz,hLN]
 have HEr:Hid (errV (drE D n (lP xs))=.nilIface):=by show _=_;rw [hz,errV_zero]
 rw [hlf'] at HCf
 generalize rowsL D n=Nn at HUs HRe
 generalize xs.length=xl at HNm hl hdl ⊢
 have hxl:LN.length≤3000:=by omega
 generalize drtL D n LN=DL at HL HRe
 clear hM hX hB0 hr hS hz hE hR hde hs hnu hany hin hlf hlf' hLN hN hdl
 go_enter Tryz.func45,Tryz.ntmps45
 go_wp2_with fail
 refine hn.mono ?_
 rintro e w1 ⟨⟨qp,g,X,rfl,-,-,hPl⟩,hb1⟩
 obtain ⟨x1,x2,x3⟩:=HBox.out w1 hb1 (.pointer (some ⟨qp,0,none⟩)) 74
 obtain ⟨w2,hw2⟩:∃ w2,w1.alloc (.cells #[.pointer (some ⟨qp,0,none⟩)] 74)=w2:=⟨_,rfl⟩
 have hb2:Below w1.heap.size w1 w2:=by rw [←hw2];go_grown
 have c2:w2.cell? ⟨w1.heap.size,0,none⟩=some (.pointer (some ⟨qp,0,none⟩)):=by rw [←hw2];exact (Lib.cell_of_heap (heap_alloc_new w1 _) 0).trans rfl
 have hs2:w1.heap.size<w2.heap.size:=by rw [←hw2];simp
 rw [hw2] at x1 x2 x3
 have HB2:Hid (Below w.heap.size w w2):=x3
 have HP2:Hid (PlanV w2 qp g n D X):=hPl.later hb2
 have HC2:Hid (w2.cell? ⟨w1.heap.size,0,none⟩=some (.pointer (some ⟨qp,0,none⟩))):=c2
 clear hb1 hn hA hW x3 hPl hb2
 go_wp2_with fail
 refine (HNm.out w2 HB2.out).mono ?_
 rintro e w3 ⟨⟨v,rfl,hO⟩,hb3⟩
 obtain ⟨A3,c3,hv,hI3⟩:=intT_own hO
 have HB3:Hid (Below w.heap.size w w3):=onB HB2.out hb3
 have HP3:Hid (PlanV w3 qp g n D X):=HP2.out.later hb3
 have HC3:Hid (w3.cell? ⟨w1.heap.size,0,none⟩=some (.pointer (some ⟨qp,0,none⟩))):=(hb3.cell (p:=⟨w1.heap.size,0,none⟩) hs2).trans HC2.out
 have hs3:w1.heap.size<w3.heap.size:=Nat.lt_of_lt_of_le hs2 hb3.size
 have hcf:=HCf.out qp g X w1.heap.size w3 A3 c3 HP3.out HC3.out hs3 hI3
 have HI3:Hid (IntT w3 A3 c3 LN):=hI3
 subst hv
 clear hb3 hO hI3 hw2 c2
 go_wp2_with fail
 refine hcf.mono ?_
 rintro e w4 ⟨rfl,hb4⟩
 have HB4:Hid (Below w.heap.size w w4):=onB HB3.out hb4
 have c4:w4.cell? ⟨w1.heap.size,0,none⟩=some (.pointer (some ⟨qp,0,none⟩)):=(hb4.cell (p:=⟨w1.heap.size,0,none⟩) hs3).trans HC3.out
 have hs4:w1.heap.size<w4.heap.size:=Nat.lt_of_lt_of_le hs3 hb4.size
 have hus:=HUs.out qp g X w4 (HP3.out.later hb4)
 have HI4:Hid (IntT w4 A3 c3 LN):=HI3.out.later hb4
 clear hb4 hcf
 go_wp2_with fail
 refine hus.mono ?_
 rintro e w5 ⟨⟨gU,rfl,hU5⟩,hb5⟩
 obtain ⟨w6,hw6⟩:∃ w6,w5.alloc (.cells #[.slice (some ⟨gU,0,none⟩) N N] 85)=w6:=⟨_,rfl⟩
 have hb6:Below w5.heap.size w5 w6:=by rw [←hw6];go_grown
 have c6:w6.cell? ⟨w5.heap.size,0,none⟩=some (.slice (some ⟨gU,0,none⟩) N N):=by rw [←hw6];exact (Lib.cell_of_heap (heap_alloc_new w5 _) 0).trans rfl
 have hs6:w5.heap.size<w6.heap.size:=by rw [←hw6];simp
 have HB6:Hid (Below w.heap.size w w6):=onB HB4.out (onB hb5 hb6)
 have hre:=HRe.out gU w4 w5 w5.heap.size w6 A3 c3 hU5 hb6 c6 hs6 (HI4.out.later (onB hb5 hb6))
 clear hU5 hb5 hb6 hus c4 c6
 go_wp2_with fail
 refine hre.mono ?_
 rintro e w7 ⟨⟨A7,c7,rfl,hI7⟩,hb7⟩
 have HI7:Hid (IntT w7 A7 c7 DL):=hI7
 have HB7:Hid (Below w.heap.size w w7):=onB HB6.out hb7
 clear hI7 hb7 hre
 go_wp2_with fail
 go_returns
 exact ⟨⟨A7,c7,by rw [HL.out,HEr.out];rfl,by rw [HL.out];exact HI7.out⟩,HB7.out⟩
end Go.Proofs.YtfgegmpoejilnaaGreatDoor
