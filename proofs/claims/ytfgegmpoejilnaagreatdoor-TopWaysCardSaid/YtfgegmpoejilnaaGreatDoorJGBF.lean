/-
  What Users and Leaf of a plan answer, in whatever memory: the places that need each place, each list in a block of its own; whether a place is one of leafs.
-/
import Derived.Test.YtfgegmpoejilnaaGreatDoorJGAX
import Derived.Test.YtfgegmpoejilnaaGreatDoorJGBC
namespace Go.Proofs.YtfgegmpoejilnaaGreatDoor
open Go.ChangeShapes Go.WideShapes Go.ChangeAt Go.RowKit
set_option maxRecDepth 20000
section
variable {D:Nat→Dm} {n:Nat}
theorem rows_told (hR:AllR D n) (hE:(allErr D n).2.2=0) {i:Nat} (hi:i<prodN D n):ToldP D n (placeL D n i) ((rowsL D n).getD i []):=by
 have h:=nds_told hR hE hi
 rw [rows_at hi,←told_eq hR hE h]
 exact h
theorem rows_inn (hR:AllR D n) (hE:(allErr D n).2.2=0):Inn (rowsL D n):=told_inn hR hE rows_len fun _ hi=>rows_told hR hE hi
theorem rows_acyc (hR:AllR D n) (hE:(allErr D n).2.2=0) (i:Nat) (hi:i<(rowsL D n).length):cycB (rowsL D n) i=false:=told_acyc hR hE rows_len (fun _ hi=>rows_told hR hE hi) i hi
theorem rows_rise (hR:AllR D n) (hE:(allErr D n).2.2=0) (j:Nat) (hj:j<(rowsL D n).length):((rowsL D n).getD j []).Pairwise (· < ·):=(rows_told hR hE (by rw [rows_len] at hj;exact hj)).1
theorem nds_rows (hR:AllR D n) (hE:(allErr D n).2.2=0) {i:Nat} (hi:i<prodN D n):(∀ z,z∈ndsX D n i↔z∈(rowsL D n).getD i [])∧(ndsX D n i).Nodup:=by
 have h:=nds_told hR hE hi
 have e:((ndsX D n i).mergeSort fun a b=>decide (a≤b))=(rowsL D n).getD i []:=by rw [rows_at hi,told_eq hR hE h]
 refine ⟨fun z=>by rw [←e];exact (List.mergeSort_perm _ _).mem_iff.symm,?_⟩
 have hn:((ndsX D n i).mergeSort fun a b=>decide (a≤b)).Nodup:=h.1.imp fun h=>by omega
 exact (List.mergeSort_perm _ _).nodup_iff.1 hn
theorem leaf_by {p:List Int} (hp:placeErr D n p=0):leafV D n p=decide (byTo D p n = -1):=by
 have key:∀ k,k≤n→(byTo D p k = -1↔∀ i,i<k→notLeaf D p i=false):=by
  intro k
  induction k with
  | zero=>intro _;exact ⟨fun _ i hi=>absurd hi (Nat.not_lt_zero _),fun _=>rfl⟩
  | succ k ih =>
   intro hk
   have ih':=ih (by omega)
   constructor
   ·intro h i hi
    have hc : ¬ (leafB (D k).mem (D k).n (p.getD k 0).toNat=false∧(byTo D p k<0∨(D (byTo D p k).toNat).solve<(D k).solve)):=fun hc=>by
     unfold byTo at h
     rw [if_pos hc] at h
     omega
    have hb:byTo D p k = -1:=by
     unfold byTo at h
     rw [if_neg hc] at h
     exact h
    by_cases e:i=k
    ·subst e
     unfold notLeaf
     cases hl:leafB (D i).mem (D i).n (p.getD i 0).toNat with
     | true=>rfl
     | false=>exact absurd ⟨hl,Or.inl (by rw [hb];omega)⟩ hc
    ·exact ih'.1 hb i (by omega)
   ·intro h
    have h2:=h k (by omega)
    unfold byTo
    rw [if_neg fun h1=>by
     unfold notLeaf at h2
     rw [h1.1] at h2
     exact absurd h2 (by decide)]
    exact ih'.2 fun i hi=>h i (by omega)
 unfold leafV
 rw [if_pos hp]
 rcases findFrom_cases (notLeaf D p) n 0 with ⟨h1,h2⟩ | ⟨k,h1,-,h3,h4,-⟩
 ·rw [h1,decide_eq_true ((key n (Nat.le_refl _)).2 fun i hi=>h2 i (Nat.zero_le _) (by omega))]
  decide
 ·have hne : ¬ byTo D p n = -1:=fun e=>by
   have:=(key n (Nat.le_refl _)).1 e k (by omega)
   rw [this] at h4
   cases h4
  rw [h1,decide_eq_false hne,decide_eq_true (by omega)]
  rfl
end
theorem usr_succ (Nn:List (List Int)) (m k:Nat):usrL Nn m (k+1)=usrL Nn m k ++ (if (m:Int)∈Nn.getD k [] then [(k:Int)] else []):=by
 unfold usrL
 rw [selTo]
 simp only [List.contains_iff_mem]
theorem usr_len (Nn:List (List Int)) (m k:Nat):(usrL Nn m k).length≤k:=by unfold usrL;exact selTo_len _ _
theorem sel_len (p:Nat→Bool) (k:Nat):(selTo p k).length≤k:=selTo_len _ _
structure UM (w:World) (B gU N:Nat) (UV:Nat→Value) (UL:Nat→List Int):Prop where
 hU:ValB w gU N 38 UV
 own:∀ j,j<N→w.ownsRow B 3 1 (UV j) (UL j).length (mapI (UL j))
 dU:∀ i j,i<N→j<N→i≠j→∀ b,(UV i).ownBlock=some b→(UV j).ownBlock≠some b
 lU:B≤gU
section
variable {w w':World} {B gU N:Nat} {UV:Nat→Value} {UL:Nat→List Int}
theorem UM.later (h:UM w B gU N UV UL) (hB:Below w.heap.size w w'):UM w' B gU N UV UL :=
 ⟨h.hU.same (hB.block _ h.hU.lt),fun j hj=>own_later (h.own j hj) hB,h.dU,h.lU⟩
theorem UM.off (h:UM w B gU N UV UL) {b:Nat} {cur:Array Value} (hb:w.heap[b]?=some (.cells cur 3 (0,0))):b≠gU:=h.hU.off hb row_ne_int'
theorem UM.made (w:World) (N:Nat):UM (w.alloc (.cells (madeCells #[.slice none 0 0] N) 38)) w.heap.size w.heap.size N (fun _=>.slice none 0 0) (fun _=>[]) :=
 ⟨ValB.made w N 38 (.slice none 0 0),fun _ _=>World.ownsRow_nil _ _ _ _,fun _ _ _ _ _ _ h=>(by cases h),Nat.le_refl _⟩
theorem UM.pushU (h:UM w B gU N UV UL) {w4 w6:World} {k:Nat} {L:List Int} {v:Value} {H:Nat} (hk:k<N) (h4:Below w.heap.size w w4) (hG:w4.grownBy w6 (UV k).ownBlock) (hO:w6.ownsRow B 3 1 v L.length (mapI L)) (hat:v.ownBlock=(UV k).ownBlock∨v.ownBlock=some H) (hH:w.heap.size≤H) :
  UM (w6.setCell ⟨gU,k,none⟩ v) B gU N (fun j=>if j=k then v else UV j) (fun j=>if j=k then L else UL j):=by
 have hr:=fun b (e:(UV k).ownBlock=some b)=>own_blk (h.own k hk) e
 have hkeep:∀ b,b<w.heap.size→(UV k).ownBlock≠some b→w6.heap[b]?=w.heap[b]?:=fun b hb hne=>(hG.block b (Nat.lt_of_lt_of_le hb h4.size) (fun e=>hne e.symm)).trans (h4.block b hb)
 have q2:(UV k).ownBlock≠some gU:=fun e=>by obtain ⟨-,-,cur,hc⟩:=hr gU e;exact (h.off hc) rfl
 have vU:v.ownBlock≠some gU:=fun e=>by
  rcases hat with h1 | h1
  ·exact q2 (h1.symm.trans e)
  ·rw [h1] at e;have:=h.hU.lt;simp at e;omega
 have oth:∀ (v1:Value) (L1:List Int),w.ownsRow B 3 1 v1 L1.length (mapI L1)→(∀ b,v1.ownBlock=some b→(UV k).ownBlock≠some b)→w6.ownsRow B 3 1 v1 L1.length (mapI L1):=fun v1 L1 h1 h2=>own_grown (own_later h1 h4) hG h2
 have far:∀ (v1:Value) (L1:List Int),w.ownsRow B 3 1 v1 L1.length (mapI L1)→(∀ b,v1.ownBlock=some b→(UV k).ownBlock≠some b)→∀ b,v1.ownBlock=some b→v.ownBlock≠some b:=fun v1 L1 h1 h2 b hb e=>by
  rcases hat with h3 | h3
  ·exact h2 b hb (h3.symm.trans e)
  ·rw [h3] at e
   have:=(own_blk h1 hb).2.1
   simp at e
   omega
 have dist:∀ j,j<N→j≠k→∀ b,(UV j).ownBlock=some b→(UV k).ownBlock≠some b:=fun j hj hne b hb=>h.dU j k hj hk hne b hb
 refine ⟨?_,fun j hj=>?_,fun i j hi hj hne b hb=>?_,h.lU⟩
 ·exact (h.hU.same (hkeep _ h.hU.lt q2)).set fun j _=>rfl
 ·by_cases e:j=k
  ·simp only [if_pos e]
   exact own_setc hO vU
  ·simp only [if_neg e]
   refine own_setc (oth _ _ (h.own j hj) (dist j hj e)) fun e2=>?_
   obtain ⟨-,-,cur,hc⟩:=own_blk (h.own j hj) e2
   exact (h.off hc) rfl
 ·by_cases ei:i=k
  ·simp only [if_pos ei] at hb
   have ej:j≠k:=fun e=>hne (ei.trans e.symm)
   simp only [if_neg ej]
   intro e2
   exact far _ _ (h.own j hj) (dist j hj ej) b e2 hb
  ·simp only [if_neg ei] at hb
   by_cases ej:j=k
   ·simp only [if_pos ej]
    exact far _ _ (h.own i hi) (dist i hi ei) b hb
   ·simp only [if_neg ej]
    exact h.dU i j hi hj hne b hb
end
def UMk (w:World) (gU N k:Nat) (Nn:List (List Int)) (w1:World):Prop := ∃ UV,UM w w1.heap.size gU N UV (fun j=>usrL Nn j k)∧Below w1.heap.size w1 w
def UMi (w:World) (gU N k i:Nat) (Nn:List (List Int)) (T:List Int) (A2:Option Addr) (c2:Nat) (w1:World):Prop := ∃ UV,UM w w1.heap.size gU N UV (fun j=>usrL Nn j k ++ (if (j:Int)∈T.take i then [(k:Int)] else []))∧(∀ j,j<N→∀ a,A2=some a→(UV j).ownBlock≠some a.block)∧IntT w A2 c2 T∧Below w1.heap.size w1 w
section
variable {w w2 w1:World} {gU N k i:Nat} {Nn:List (List Int)} {T:List Int} {A2:Option Addr} {c2:Nat}
theorem UMk.next (h:UMk w gU N k Nn w1) (hb:Below w.heap.size w w2) (hI:IntT w2 A2 c2 T) (hA:∀ a,A2=some a→w.heap.size≤a.block):UMi w2 gU N k 0 Nn T A2 c2 w1:=by
 obtain ⟨UV,hQ,hB⟩:=h
 refine ⟨UV,?_,fun j hj a ha e=>?_,hI,onB hB hb⟩
 ·have e:(fun j:Nat=>usrL Nn j k ++ (if (j:Int)∈T.take 0 then [(k:Int)] else []))=fun j=>usrL Nn j k:=by
   funext j
   simp
  rw [e]
  exact hQ.later hb
 ·have h1:=(own_blk (hQ.own j hj) e).2.1
  have h2:=hA a ha
  omega
theorem UMi.push (h:UMi w gU N k i Nn T A2 c2 w1) (hr:T.Nodup) (hi:i<T.length) {y:Nat} (hy:T.getD i 0=(y:Int)) (hyN:y<N) :
  ∃ AO ln cO Ly,w.cell? ⟨gU,y,none⟩=some (.slice AO ln cO)∧gU<w.heap.size∧ln≤k∧w.ownsRow w1.heap.size 3 1 (.slice AO ln cO) ln (mapI Ly)∧(∀ (w5 w6:World),Below w.heap.size w w5→w5.grownBy w6 (Value.slice AO ln cO).ownBlock→w6.cell? ⟨gU,y,none⟩=some (.slice AO ln cO)∧w6.frozen? ⟨gU,y,none⟩=false∧gU<w6.heap.size) ∧
  ∀ (w5 w6:World) (v:Value),Below w.heap.size w w5→w6.ownsRow w1.heap.size 3 1 v (ln+1) (mapI Ly ++ [.int .i64 (k:Int)])→w5.grownBy w6 (Value.slice AO ln cO).ownBlock→(v.ownBlock=(Value.slice AO ln cO).ownBlock∨v.ownBlock=some w5.heap.size)→UMi (w6.setCell ⟨gU,y,none⟩ v) gU N k (i+1) Nn T A2 c2 w1:=by
 obtain ⟨UV,hQ,hd,hI,hB⟩:=h
 have hnew:(y:Int)∉T.take i:=by
  intro h
  obtain ⟨j,hj,e⟩:=List.getElem_of_mem h
  have hj2:j<i:=by have:=hj;rw [List.length_take] at this;omega
  rw [List.getElem_take] at e
  have:=List.pairwise_iff_getElem.1 hr j i (by omega) hi hj2
  rw [List.getD_eq_getElem?_getD,List.getElem?_eq_getElem hi,Option.getD_some] at hy
  omega
 have hO:w.ownsRow w1.heap.size 3 1 (UV y) (usrL Nn y k).length (mapI (usrL Nn y k)):=by
  have h:=hQ.own y hyN
  simp only [if_neg hnew,List.append_nil] at h
  exact h
 obtain ⟨AO,cO,hv⟩:∃ AO cO,UV y=.slice AO (usrL Nn y k).length cO:=by
  rcases hO.2 with ⟨h1,h2⟩ | ⟨g,cap,cur,h1,-⟩
  ·exact ⟨none,0,by rw [h1,h2]⟩
  ·exact ⟨_,_,h1⟩
 have hqo:∀ b,(UV y).ownBlock=some b→b≠gU:=fun b hb=>by
  obtain ⟨-,-,cur,hc⟩:=own_blk hO hb
  exact hQ.off hc
 have hkp:∀ (w5 w6:World) (b:Nat),Below w.heap.size w w5→w5.grownBy w6 (UV y).ownBlock→b<w.heap.size→(UV y).ownBlock≠some b→w6.heap[b]?=w.heap[b]?:=fun w5 w6 b h5 hG hb hne=>(hG.block b (Nat.lt_of_lt_of_le hb h5.size) (fun e=>hne e.symm)).trans (h5.block b hb)
 refine ⟨AO,(usrL Nn y k).length,cO,usrL Nn y k,by rw [←hv];exact hQ.hU.cell hyN,hQ.hU.lt,usr_len _ _ _,by rw [←hv];exact hO,fun w5 w6 h5 hG=>?_,fun w5 w6 v h5 h6 hG hat=>?_⟩
 ·rw [←hv] at hG ⊢
  have e2:=hkp w5 w6 gU h5 hG hQ.hU.lt (fun e=>(hqo gU e) rfl)
  have hU6:=hQ.hU.same e2
  exact ⟨hU6.cell hyN,hU6.frozen y,hU6.lt⟩
 ·rw [←hv] at hG hat
  have hl1:((usrL Nn y k ++ [(k:Int)]).length)=(usrL Nn y k).length+1:=by rw [List.length_append];rfl
  have hP:=hQ.pushU (L:=usrL Nn y k ++ [(k:Int)]) (v:=v) (H:=w5.heap.size) hyN h5 hG (by rw [hl1,mapI_snoc];exact h6) hat h5.size
  have hB6:Below w1.heap.size w1 w6:=⟨hG.os.trans (onB hB h5).os,hG.tape.trans (onB hB h5).tape,hG.output.trans (onB hB h5).output,Nat.le_trans (onB hB h5).size hG.size,fun b hb=>(hG.block b (Nat.lt_of_lt_of_le hb (onB hB h5).size) (fun e=>by have:=(own_blk hO e.symm).1;omega)).trans ((onB hB h5).block b hb)⟩
  refine ⟨fun j=>if j=y then v else UV j,?_,fun j hj a ha=>?_,?_,hB6.setCell hQ.lU _⟩
  ·have e:(fun j:Nat=>usrL Nn j k ++ (if (j:Int)∈T.take (i+1) then [(k:Int)] else []))=fun j:Nat=>if j=y then usrL Nn y k ++ [(k:Int)] else usrL Nn j k ++ (if (j:Int)∈T.take i then [(k:Int)] else []):=by
    funext j
    have ht:(j:Int)∈T.take (i+1)↔(j:Int)∈T.take i∨j=y:=by
     rw [List.take_succ_eq_append_getElem hi,List.mem_append,List.mem_singleton]
     rw [List.getD_eq_getElem?_getD,List.getElem?_eq_getElem hi,Option.getD_some] at hy
     rw [hy]
     exact ⟨fun h=>h.imp id (by omega),fun h=>h.imp id (by omega)⟩
    by_cases ej:j=y
    ·rw [if_pos ej,if_pos (ht.2 (Or.inr ej)),ej]
    ·rw [if_neg ej]
     congr 1
     by_cases e2:(j:Int)∈T.take i
     ·rw [if_pos e2,if_pos (ht.2 (Or.inl e2))]
     ·rw [if_neg e2,if_neg (fun h=>(ht.1 h).elim e2 ej)]
   rw [e]
   exact hP
  ·by_cases ej:j=y
   ·simp only [if_pos ej]
    intro e
    rcases hat with h | h
    ·exact hd y hyN a ha (h.symm.trans e)
    ·obtain ⟨-,-,h2 | ⟨b,cs,fr,h2,h3,-⟩⟩:=hI
     ·rw [h2] at hi;simp at hi
     ·rw [ha] at h2
      cases h2
      have:=(Array.getElem?_eq_some_iff.1 h3).1
      have h5s:=h5.size
      rw [h] at e
      simp at e
      omega
   ·simp only [if_neg ej]
    exact hd j hj a ha
  ·have hI6:IntT w6 A2 c2 T:=by
    refine hI.one fun a ha=>?_
    obtain ⟨-,-,h2 | ⟨b,cs,fr,h2,h3,-⟩⟩:=id hI
    ·rw [h2] at hi;simp at hi
    ·rw [ha] at h2
     cases h2
     exact hkp w5 w6 b h5 hG (Array.getElem?_eq_some_iff.1 h3).1 (hd y hyN _ ha)
   refine hI6.one fun a ha=>setCell_off _ _ _ _ _ fun e=>?_
   obtain ⟨-,-,h2 | ⟨b,cs,fr,h2,h3,-⟩⟩:=id hI
   ·rw [h2] at hi;simp at hi
   ·rw [ha] at h2
    cases h2
    exact hQ.hU.off h3 row_ne_int' e
theorem UMi.done (h:UMi w gU N k T.length Nn T A2 c2 w1) (hT:∀ z,z∈T↔z∈Nn.getD k []):UMk w gU N (k+1) Nn w1:=by
 obtain ⟨UV,hQ,-,-,hB⟩:=h
 refine ⟨UV,?_,hB⟩
 have e:(fun j=>usrL Nn j (k+1))=fun j:Nat=>usrL Nn j k ++ (if (j:Int)∈T.take T.length then [(k:Int)] else []):=by
  funext j
  rw [usr_succ,List.take_length]
  congr 1
  by_cases h:(j:Int)∈T
  ·rw [if_pos h,if_pos ((hT _).1 h)]
  ·rw [if_neg h,if_neg fun h2=>h ((hT _).2 h2)]
 rw [e]
 exact hQ
end
set_option maxHeartbeats 16000000 in
theorem users_any (qp g n:Nat) (D:Nat→Dm) (X:Nat→AL) (w:World) (hR:AllR D n) (hE:(allErr D n).2.2=0) (hA:PlanV w qp g n D X) :
  Calls Tryz.prog 80 #[.pointer (some ⟨qp,0,none⟩)] w fun e w' => ∃ gU,e=.returned (.slice (some ⟨gU,0,none⟩) (prodN D n) (prodN D n))∧UMk w' gU (prodN D n) (prodN D n) (rowsL D n) w:=by
 obtain ⟨i0,hi0,hz0,hz1,hz2⟩:=info_parts Tryz.infoInt
 obtain ⟨hn1,hn4,hp3,hd⟩:=allErr_some hE
 have HNd:Hid (∀ k w',k<prodN D n→Below w.heap.size w w'→Calls Tryz.prog 56 #[.pointer (some ⟨qp,0,none⟩),.int .i64 k] w' fun e w''=>(∃ A' c',e=.returned (.slice A' (ndsX D n k).length c')∧IntT w'' A' c' (ndsX D n k)∧∀ a,A'=some a→w'.heap.size≤a.block)∧Below w'.heap.size w' w''):=fun k w' hk hB=>by
  refine (needs_any qp g n D X k w' hR hE hk (hA.later hB)).mono ?_
  rintro e w'' ⟨⟨v,rfl,hO⟩,hb⟩
  obtain ⟨A',c',rfl,hI⟩:=intT_own hO
  exact ⟨⟨A',c',rfl,hI,fun a ha=>(own_blk hO (by rw [ha];rfl)).1⟩,hb⟩
 have HRw:Hid (∀ k,k<prodN D n→(ndsX D n k).length≤12∧(∀ z∈ndsX D n k,∃ y:Nat,z=(y:Int)∧y<prodN D n)∧(ndsX D n k).Nodup∧∀ z,z∈ndsX D n k↔z∈(rowsL D n).getD k []):=fun k hk=>by
  obtain ⟨h1,h2⟩:=nds_rows hR hE hk
  refine ⟨nds_len hR hE hk,fun z hz=>?_,h2,h1⟩
  have:=rows_inn hR hE k (by rw [rows_len];exact hk) z ((h1 z).1 hz)
  rw [rows_len] at this
  exact ⟨z.toNat,by omega,by omega⟩
 obtain ⟨hq,-,q1⟩:=hA.cells
 obtain ⟨Nn,hNn⟩:∃ Nn,rowsL D n=Nn:=⟨_,rfl⟩
 rw [hNn] at HRw ⊢
 obtain ⟨N,hN⟩:∃ N,prodN D n=N:=⟨_,rfl⟩
 rw [hN] at HNd HRw hp3 q1 ⊢
 have hNI:(N:Int)≤3000:=by omega
 have hmkR:=run_make_row' (P:=Tryz.prog) 85 38 (.slice none 0 0) 24 Tryz.underlying85 Tryz.infoRow rfl .i64 .i64 N (by omega) (by omega)
 have HK1:Hid (UMk (w.alloc (.cells (madeCells #[.slice none 0 0] N) 38)) w.heap.size N 0 Nn w):=⟨_,UM.made w N,by go_grown⟩
 generalize ndsX D n=nx at HNd HRw
 clear hA hE hR hd hNn hN
 go_enter Tryz.func80,Tryz.ntmps80
 go_wp2_with fail
 go_loopg [16] N (fun gg s16 wr => ∃ (k:Nat),k≤N∧gg=N-k∧s16=.int .i64 k∧Hid (UMk wr w.heap.size N k Nn w))
 case atStart=>exact ⟨0,Nat.zero_le _,rfl,rfl,HK1⟩
 case round =>
  obtain ⟨k,hk,rfl,rfl,HK⟩:=hrel
  by_cases hlt:k<N
  ·have hki:(k:Int)<(N:Int):=by omega
   have HBr:Hid (Below w.heap.size w wr):=by obtain ⟨-,-,h⟩:=HK.out;exact h
   have hnd:=HNd.out k wr hlt HBr.out
   obtain ⟨h12,hin,hri,hme⟩:=HRw.out k hlt
   obtain ⟨T,hT⟩:∃ T,nx k=T:=⟨_,rfl⟩
   rw [hT] at hnd h12 hin hri hme
   have HIn:Hid (∀ z∈T,∃ y:Nat,z=(y:Int)∧y<N):=hin
   have HRi:Hid T.Nodup:=hri
   have HMe:Hid (∀ z,z∈T↔z∈Nn.getD k []):=hme
   obtain ⟨tl,htl⟩:∃ tl,T.length=tl:=⟨_,rfl⟩
   have HTl:Hid (T.length=tl):=htl
   rw [htl] at hnd h12
   have htI:(tl:Int)≤12:=by omega
   clear hin hri hme hT htl
   go_wp2_with fail
   refine hnd.mono ?_
   rintro e w3 ⟨⟨A2,c2,rfl,hI2,hA2⟩,hb2⟩
   have HI3:Hid (UMi w3 w.heap.size N k 0 Nn T A2 c2 w):=HK.out.next hb2 hI2 hA2
   clear hnd hI2 hA2 hb2
   go_wp2_with fail
   go_loopg [23] tl (fun gg s23 wi => ∃ (i:Nat),i≤tl∧gg=tl-i∧s23=.int .i64 i∧Hid (UMi wi w.heap.size N k i Nn T A2 c2 w))
   case atStart=>exact ⟨0,Nat.zero_le _,rfl,rfl,HI3⟩
   case round =>
    obtain ⟨i,hi,rfl,rfl,HQ⟩:=hrel
    by_cases hilt:i<tl
    ·have hii:(i:Int)<(tl:Int):=by omega
     have hiT:i<T.length:=by rw [HTl.out];exact hilt
     obtain ⟨y,hy,hyN⟩:=HIn.out _ (getD_memI hiT)
     have hyI:(y:Int)<(N:Int):=by omega
     obtain ⟨AO,ln,cO,Ly,cU,hgl,hln,hO,hRc,hFi⟩:=HQ.out.push HRi.out hiT hy hyN
     have HO:Hid (wr.ownsRow w.heap.size 3 1 (.slice AO ln cO) ln (mapI Ly)):=hO
     have HRch:=hid_of hRc
     have HFin:=hid_of hFi
     obtain ⟨hcT,hBs⟩:IntT wr A2 c2 T∧w.heap.size≤wr.heap.size:=by
      obtain ⟨UV,-,-,hI,hB⟩:=HQ.out
      exact ⟨hI,hB.size⟩
     obtain ⟨hcS,-,hS0 | ⟨bs,cs,fr,rfl,hbS,hcl⟩⟩:=hcT
     ·rw [hS0] at hiT;simp at hiT
     have cx:=hcl i hiT
     have hbs:bs<wr.heap.size:=(Array.getElem?_eq_some_iff.1 hbS).1
     rw [HTl.out] at hcS
     rw [hy] at cx
     have hcSI:(tl:Int)≤(c2:Int):=by omega
     have hlnI:ln≤3000:=by omega
     clear hcl hbS hO hRc hFi hy
     go_wp2_with (at_builtin;refine wpList_append_own_at _ rfl _ _ 38 rfl w.heap.size 3 i0 (.int .i64 0) 1 8 Tryz.underlying38 hi0 hz0 hz1 hz2 rfl (by decide) _ _ _ rfl (HO.out.alloc _) ⟨wr.heap.size,0,none⟩ 1 1 [.int .i64 k] rfl rfl one_cell one_one (by unfold maxLen;omega) (by omega) (by simp;omega) ?_)
     intro v' w6 hown' hgrow _ hat
     obtain ⟨y1,y2,y3⟩:=HRch.out _ _ (by go_grown) hgrow
     obtain ⟨A',c',rfl⟩:∃ A' c',v'=.slice A' (ln+1) c':=by
      rcases hown'.2 with ⟨-,h⟩ | ⟨g',c',cur,h,-⟩
      ·omega
      ·exact ⟨_,_,h⟩
     have HF6:=hid_of (HFin.out _ _ _ (by go_grown) hown' hgrow (hat.imp id fun h=>by rw [h];simp))
     clear hown' hgrow hat
     go_wp2_with fail
     go_roundg (tl-(i+1))
     case measure=>omega
     case rel=>exact ⟨i+1,by omega,rfl,by go_num,HF6⟩
    ·have hie:i=tl:=by omega
     have HF6:Hid (UMk wr w.heap.size N (k+1) Nn w):=by
      have h:=HQ.out
      rw [hie,←HTl.out] at h
      exact h.done HMe.out
     subst hie
     clear HQ HI3
     go_wp2_with fail
     go_roundg (N-(k+1))
     case measure=>omega
     case rel=>exact ⟨k+1,by omega,rfl,by go_num,HF6⟩
  ·have hke:k=N:=by omega
   subst hke
   go_wp2_with fail
   go_ret
   exact ⟨_,rfl,HK.out⟩
set_option maxHeartbeats 2000000 in
theorem pleafn_any (q g n:Nat) (D:Nat→Dm) (X:Nat→AL) (x:Nat) (w:World) (hE:(allErr D n).2.2=0) (hx:x<prodN D n) (hA:PlanV w q g n D X) :
  Calls Tryz.prog 79 #[.pointer (some ⟨q,0,none⟩),.int .i64 x] w fun e w'=>e=.returned (.bool (leafV D n (placeL D n x)))∧Below w.heap.size w w':=by
 obtain ⟨hq,-,q1⟩:=hA.cells
 have hby:=by_any2 q g n D X x w hE hx hA
 obtain ⟨hn1,hn4,hp3,hd⟩:=allErr_some hE
 have hP:=placeL_in (D:=D) (n:=n) (x:=x) hE
 rw [leaf_by hP.ok]
 obtain ⟨r,hr⟩:∃ r,byTo D (placeL D n x) n=r:=⟨_,rfl⟩
 rw [hr] at hby ⊢
 have HV:Hid ((r == -1)=decide (r = -1)):=by
  show _=_
  by_cases h:r = -1
  ·rw [h];rfl
  ·rw [decide_eq_false h];simpa using h
 obtain ⟨N,hN⟩:∃ N,prodN D n=N:=⟨_,rfl⟩
 rw [hN] at q1 hx hp3
 have hxI:(x:Int)<(N:Int):=by omega
 obtain ⟨t,ht⟩:∃ t,(r == -1)=t:=⟨_,rfl⟩
 rw [←HV.out,ht]
 clear hA hE hd hP hr hN HV
 go_enter Tryz.func79,Tryz.ntmps79
 go_wp2_with fail
 refine hby.mono ?_
 rintro e w1 ⟨rfl,hb1⟩
 have HB1:Hid (Below w.heap.size w w1):=hb1
 clear hb1 hby
 go_wp2_with fail
 go_ret
 exact ⟨rfl,HB1.out⟩
end Go.Proofs.YtfgegmpoejilnaaGreatDoor
