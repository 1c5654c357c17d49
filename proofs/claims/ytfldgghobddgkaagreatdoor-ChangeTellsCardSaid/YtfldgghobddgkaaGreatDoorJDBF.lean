/-
  The document's own reader of formulas, over all of a text of at most 100 bytes: what ReadFormula tells is what Parse tells.
-/
import Derived.Laws.AppendOwnNone
import Derived.Test.YtfldgghobddgkaaGreatDoorJDAW
import Derived.Test.YtfldgghobddgkaaGreatDoorJDBE
namespace Go.Proofs.YtfldgghobddgkaaGreatDoor
open Go.ChangeShapes Go.WideShapes Go.ChangeAt Go.RowKit
set_option maxRecDepth 20000
theorem sum_all (s:ByteArray) (q base:Nat) (hs:s.size≤100):∀ (d a:Nat),s.size-a=d→a≤s.size→SumC s q base 1 a∧SumC s q base 2 a∧SumC s q base 3 a:=by
 intro d
 induction d using Nat.strongRecOn with
 | _ d ih =>
  intro a hd ha
  have ih':∀ a1,a<a1→a1≤s.size→SumC s q base 1 a1∧SumC s q base 2 a1∧SumC s q base 3 a1:=fun a1 h1 h2=>ih (s.size-a1) (by omega) a1 rfl h2
  have h3:=sum_three s q base a (one_step s q base a hs ha fun a1 h1 h2=>(ih' a1 h1 h2).1)
  have h2:=sum_step s q base a 2 hs (by omega) (by omega) h3 fun a1 x y=>(ih' a1 x y).2.2
  exact ⟨sum_step s q base a 1 hs (by omega) (by omega) h2 fun a1 x y=>(ih' a1 x y).2.1,h2,h3⟩
def newI (s:ByteArray) (w:World):World:=w.alloc (.cells #[.string s,.int .i64 0,.bool false,.slice none 0 0] 82)
theorem newI_size (s:ByteArray) (w:World):(newI s w).heap.size=w.heap.size+1:=by simp [newI]
theorem newI_at (s:ByteArray) (w:World):InV (newI s w) w.heap.size s 0 false (.slice none 0 0):=heap_alloc_new _ _
theorem newI_below (s:ByteArray) (w:World):Below w.heap.size w (newI s w):=(Below.refl _ _).alloc (Nat.le_refl _) _
theorem own_nds {w:World} {N:Nat} {v:Value} {l:List Nd} (h:w.ownsRow N 62 5 v l.length (cellsN l)):∃ A c,v=.slice A l.length c∧NdsV w A c l:=by
 obtain ⟨A,c,hv⟩:=own_form h
 subst hv
 exact ⟨A,c,rfl,nds_of h⟩
set_option maxHeartbeats 4000000 in
theorem rread_any (s:ByteArray) (w:World) (h100:s.size≤100):Calls Tryz.prog 17 #[.string s] w fun e w'=>(∃ A c,e=.returned (.tuple #[.slice A (prsL s).length c,.int .i64 (prsA s:Int),.int .i64 (prsE s)])∧NdsV w' A c (prsL s))∧Below w.heap.size w w':=by
 have h100':(s.size:Int)≤100:=by omega
 have hc:Calls Tryz.prog 31 #[.pointer (some ⟨w.heap.size,0,none⟩),.int .i64 1] (newI s w) fun e w'=>OutS s w.heap.size (w.heap.size+1) 1 0 [] (newI s w) e w' :=
  (sum_all s w.heap.size (w.heap.size+1) h100 s.size 0 rfl (Nat.zero_le _)).1 (.slice none 0 0) [] (newI s w) (newI_at s w) (Nat.lt_succ_self _) (by rw [newI_size];exact Nat.le_refl _) (World.ownsRow_nil _ _ _ _) (Nat.zero_le _)
 obtain ⟨W,hW⟩:∃ W,newI s w=W:=⟨_,rfl⟩
 have HB0:Hid (∀ w1,Kept (w.heap.size+1) (fun j=>j=w.heap.size) W w1→Below w.heap.size w w1):=fun w1 hk=>by
  rw [←newI_size s w,hW] at hk
  exact below_of_kept (by rw [←hW];exact newI_below s w) hk (Nat.le_refl _)
 rw [hW] at hc
 unfold newI at hW
 have hEn:(goneB s).2=false→prsE s=2∧prsA s=(goneB s).1.at'∧prsL s=[]:=fun hx=>by
  have hE:prsE s=2:=by unfold prsE;rw [if_neg (by omega),if_neg (by rw [hx];decide)]
  exact ⟨hE,by unfold prsA;rw [if_neg (by omega),if_neg (by rw [hx];decide)],by unfold prsL;rw [if_neg (by rw [hE];decide)]⟩
 have hEy:(goneB s).2=true→prsE s=formErr (nodesP s)∧prsA s=0:=fun hx =>
  ⟨by unfold prsE;rw [if_neg (by omega),if_pos hx],by unfold prsA;rw [if_neg (by omega),if_pos hx]⟩
 have HEn:=hid_of hEn
 have HEy:=hid_of hEy
 have HLd:Hid (prsL s=if prsE s=0 then nodesP s else []):=rfl
 clear hEn hEy
 go_enter Tryz.func17,Tryz.ntmps17
 go_wp2_with fail
 refine hc.mono ?_
 rintro e w1 ⟨hK,⟨a1,t,v1,rfl,hR,hN,hI1,hO1,-⟩ | ⟨i,a1,v1,L1,rfl,hF,hI1,hO1⟩⟩
 ·have HB1:=hid_of (HB0.out w1 hK)
  have d1:=hI1.c1
  have d2:=hI1.c2
  have d3:=hI1.c3
  have d5:=hI1.lt
  have ha1:a1≤s.size:=hR.2.1
  by_cases hlt:a1<s.size
  ·obtain ⟨hx,hat⟩:=read_part hR hN hlt
   obtain ⟨hE,hA,hL⟩:=HEn.out hx
   rw [hat] at hA
   have HE:=hid_of hE
   have HA:=hid_of hA
   have HL:=hid_of hL
   have HI1:=hid_of hI1
   have hlti:(a1:Int)<(s.size:Int):=by omega
   clear hK hR hN hI1 hO1 hW hc hx hat hE hA hL d3
   go_wp2_with fail
   go_quiet (fail)
   have HBq:Hid (Below w.heap.size w (w1.drewN nq)):=below_drewN HB1.out _
   have f1:=(HI1.out.later (below_drewN (Below.refl _ _) nq)).c1
   have f5:=(HI1.out.later (below_drewN (Below.refl _ _) nq)).lt
   clear d1 d2
   go_wp2_with fail
   go_returns
   rw [HE.out,HA.out,HL.out]
   exact ⟨⟨none,0,rfl,NdsV.nil _ _ _ (by omega)⟩,HBq.out⟩
  ·have he:a1=s.size:=by omega
   subst he
   obtain ⟨hx,hnd⟩:=read_all hR
   obtain ⟨hE,hA⟩:=HEy.out hx
   have hll:([] ++ post t ([]:List Nd).length)=nodesP s:=by rw [hnd];rfl
   rw [hll] at hO1
   obtain ⟨A,c,hv,hNd⟩:=own_nds hO1
   subst hv
   obtain ⟨fe,hfe⟩:∃ fe,formErr (nodesP s)=fe:=⟨_,rfl⟩
   have HE:Hid (prsE s=fe):=hE.trans hfe
   have HA:=hid_of hA
   have hfm:=fun w' hN'=>rform_any A c (nodesP s) w' hN'
   rw [hfe] at hfm
   obtain ⟨l,hl⟩:∃ l,nodesP s=l:=⟨_,rfl⟩
   have HLn:=hid_of hl
   rw [hl] at hfm hNd d3 hI1
   have HI1:=hid_of hI1
   have HNd:=hid_of hNd
   clear hK hR hN hI1 hO1 hW hc hx hE hA hnd hll hlt hNd hl hfe
   go_wp2_with fail
   refine (hfm _ HNd.out).mono ?_
   rintro e w2 ⟨rfl,hb2⟩
   have HB2:=hid_of (onB HB1.out hb2)
   have HN2:=hid_of (HNd.out.later hb2)
   have HI2:=hid_of (HI1.out.later hb2)
   have f3:=HI2.out.c3
   have f5:=HI2.out.lt
   clear hb2 hfm d1 d2 d3 d5
   by_cases h0:fe=0
   ·subst h0
    have HL:Hid (prsL s=l):=by show _=_;rw [HLd.out,HE.out,if_pos rfl];exact HLn.out
    go_wp2_with fail
    go_returns
    rw [HE.out,HA.out,HL.out]
    exact ⟨⟨A,c,rfl,HN2.out⟩,HB2.out⟩
   ·have HL:Hid (prsL s=[]):=by show _=_;rw [HLd.out,HE.out,if_neg h0]
    have h0b:(fe == 0)=false:=by simpa using h0
    have h0c:(fe != 0)=true:=by simpa using h0
    clear h0
    go_wp2_with fail
    go_returns
    rw [HE.out,HA.out,HL.out]
    exact ⟨⟨none,0,rfl,NdsV.nil _ _ _ (by omega)⟩,HB2.out⟩
 ·have HB1:=hid_of (HB0.out w1 hK)
  have d1:=hI1.c1
  have d2:=hI1.c2
  have d5:=hI1.lt
  obtain ⟨hx,hat⟩:=read_not hF
  obtain ⟨hE,hA,hL⟩:=HEn.out hx
  rw [hat] at hA
  have HE:=hid_of hE
  have HA:=hid_of hA
  have HL:=hid_of hL
  have HI1:=hid_of hI1
  clear hK hF hI1 hO1 hW hc hx hat hE hA hL
  go_wp2_with fail
  go_quiet (fail)
  have HBq:Hid (Below w.heap.size w (w1.drewN nq)):=below_drewN HB1.out _
  have f1:=(HI1.out.later (below_drewN (Below.refl _ _) nq)).c1
  have f5:=(HI1.out.later (below_drewN (Below.refl _ _) nq)).lt
  clear d1 d2
  go_wp2_with fail
  go_returns
  rw [HE.out,HA.out,HL.out]
  exact ⟨⟨none,0,rfl,NdsV.nil _ _ _ (by omega)⟩,HBq.out⟩
def putL:List Int→Int→List Int
 | [],n=>[n]
 | x :: r,n=>if x<n then x :: putL r n else if x=n then x :: r else n :: x :: r
theorem putL_at:∀ (L:List Int) (n:Int) (k:Nat),k≤L.length→(∀ i,i<k→L.getD i 0<n)→(k=L.length∨n≤L.getD k 0)→putL L n=if k<L.length∧L.getD k 0=n then L else L.take k ++ [n] ++ L.drop k
 | [],n,k,hk,_,_=>by
  have:k=0:=by simpa using hk
  subst this
  rfl
 | x :: r,n,0,_,_,h=>by
  have hx:n≤x:=by simpa using h
  unfold putL
  rw [if_neg (by omega)]
  by_cases e:x=n
  ·rw [if_pos e,if_pos (by simp [e])]
  ·rw [if_neg e,if_neg (by simp [e])]
   rfl
 | x :: r,n,k+1,hk,h1,h2=>by
  have hx:x<n:=by simpa using h1 0 (by omega)
  have ih:=putL_at r n k (by simpa using hk) (fun i hi=>by simpa using h1 (i+1) (by omega)) (by simpa using h2)
  unfold putL
  rw [if_pos hx,ih]
  by_cases e:k<r.length∧r.getD k 0=n
  ·rw [if_pos e,if_pos (by simpa using e)]
  ·rw [if_neg e,if_neg (by simpa using e)]
   rfl
theorem has_at {L:List Int} {n:Int} {k:Nat} (hk:k<L.length) (h:L.getD k 0=n):L.contains n=true:=by
 rw [List.contains_iff_mem,←h,List.getD_eq_getElem?_getD,List.getElem?_eq_getElem hk]
 exact List.getElem_mem hk
theorem has_not {L:List Int} {n:Int} (h:∀ i,i<L.length→L.getD i 0≠n):L.contains n=false:=by
 rw [Bool.eq_false_iff]
 intro hc
 rw [List.contains_iff_mem] at hc
 obtain ⟨i,hi,e⟩:=List.getElem_of_mem hc
 refine h i hi ?_
 rw [List.getD_eq_getElem?_getD,List.getElem?_eq_getElem hi]
 exact e
set_option maxHeartbeats 2000000 in
theorem in2_any (A:Option Addr) (cap:Nat) (L:List Int) (n:Int) (w:World) (h63:L.length≤1000000) (hL:PlAt w A cap L):Calls Tryz.prog 30 #[.slice A L.length cap,.int .i64 n] w fun e w'=>e=.returned (.bool (L.contains n))∧Below w.heap.size w w':=by
 obtain ⟨hc,h0 | ⟨b,o,rfl,hb,hcell⟩⟩:=hL
 ·subst h0
  show Calls Tryz.prog 30 #[.slice A 0 cap,.int .i64 n] w _
  go_enter Tryz.func30,Tryz.ntmps30
  go_wp2_with fail
  refine wp_loop_rounds 1 ?_
  rw [rounds_succ]
  go_wp2_with fail
  go_ret
  exact ⟨rfl,Below.refl _ _⟩
 ·obtain ⟨m,hm⟩:∃ m,L.length=m:=⟨_,rfl⟩
  have HM:=hid_of hm
  have HC:=hid_of hcell
  rw [hm]
  have hmi:(m:Int)≤1000000:=by omega
  clear hcell
  go_enter Tryz.func30,Tryz.ntmps30
  go_wp2_with fail
  go_loopg [5] m (fun g s5 wr => ∃ (k:Nat),k≤m∧g=m-k∧s5=.int .i64 k∧(∀ i,i<k→L.getD i 0≠n)∧wr=w)
  case atStart=>exact ⟨0,Nat.zero_le _,rfl,rfl,fun i hi=>absurd hi (Nat.not_lt_zero i),rfl⟩
  case round =>
   obtain ⟨k,hk,rfl,rfl,hf,rfl⟩:=hrel
   have HF:=hid_of hf
   clear hf
   by_cases hlt:k<m
   ·have hki:(k:Int)<(m:Int):=by omega
    have hcx:=HC.out k (by omega)
    have HX:Hid (L.getD k 0=L.getD k 0):=rfl
    obtain ⟨x,hx⟩:∃ x,L.getD k 0=x:=⟨_,rfl⟩
    have HXx:=hid_of hx
    rw [hx] at hcx
    clear hx HX
    by_cases hxn:x=n
    ·have HR:=hid_of (has_at (L:=L) (n:=n) (k:=k) (by omega) (HXx.out.trans hxn))
     have hb1:(x == n)=true:=by simpa using hxn
     clear hxn
     go_wp2_with fail
     go_ret
     exact ⟨by rw [HR.out];rfl,Below.refl _ _⟩
    ·have hb1:(x == n)=false:=by simpa using hxn
     have HAll:Hid (∀ i,i<k+1→L.getD i 0≠n):=fun i hi=>by
      by_cases e:i=k
      ·rw [e,HXx.out];exact hxn
      ·exact HF.out i (by omega)
     clear hxn
     go_wp2_with fail
     go_roundg (m-(k+1))
     case measure=>omega
     case rel=>exact ⟨k+1,by omega,rfl,by go_num,HAll.out,rfl⟩
   ·have hke:k=m:=by omega
    subst hke
    have HR:=hid_of (has_not (L:=L) (n:=n) fun i hi=>HF.out i (by omega))
    go_wp2_with fail
    go_ret
    exact ⟨by rw [HR.out];rfl,Below.refl _ _⟩
theorem mapI_cells {w:World} {b o:Nat} {L:List Int} (h:∀ j,j<L.length→w.cell? ⟨b,o+j,none⟩=some (.int .i64 (L.getD j 0))) (k m:Nat) (hk:k+m≤L.length):∀ j u,(((L.drop k).take m).map (Value.int .i64))[j]?=some u→w.cell? ((⟨b,o+k,none⟩:Addr).add j)=some u:=by
 intro j u hj
 have hlt:j<m:=by
  have:=(List.getElem?_eq_some_iff.1 hj).1
  simp at this
  omega
 rw [plain_add]
 show w.cell? ⟨b,o+k+j,none⟩=_
 rw [Nat.add_assoc,h (k+j) (by omega)]
 rw [List.getElem?_map,List.getElem?_take_of_lt hlt,List.getElem?_drop,List.getElem?_eq_getElem (by omega)] at hj
 rw [List.getD_eq_getElem?_getD,List.getElem?_eq_getElem (by omega)]
 exact hj
end Go.Proofs.YtfldgghobddgkaaGreatDoor
namespace Go.Proofs.YtfldgghobddgkaaGreatDoor
theorem put_mem (L:List Int) (n x:Int):x∈putL L n↔x∈L∨x=n:=by
 induction L with
 | nil=>simp [putL]
 | cons y r ih =>
  unfold putL
  split
  ·rw [List.mem_cons,ih,List.mem_cons,or_assoc]
  ·split
   ·rename_i _ h
    constructor
    ·exact Or.inl
    ·rintro (h' | h')
     ·exact h'
     ·rw [h',←h];simp
   ·rw [List.mem_cons]
    exact or_comm
theorem put_rise (L:List Int) (n:Int) (h:L.Pairwise (· < ·)):(putL L n).Pairwise (· < ·):=by
 induction L with
 | nil=>simp [putL]
 | cons y r ih =>
  have h1:=List.pairwise_cons.1 h
  unfold putL
  split
  ·refine List.pairwise_cons.2 ⟨fun z hz=>?_,ih h1.2⟩
   rcases (put_mem r n z).1 hz with e | e
   ·exact h1.1 z e
   ·omega
  ·split
   ·exact h
   ·refine List.pairwise_cons.2 ⟨fun z hz=>?_,h⟩
    rcases List.mem_cons.1 hz with e | e
    ·omega
    ·have:=h1.1 z e;omega
def putsL (d:Dm):List Nd→List Int→List Int
 | [],L=>L
 | x :: r,L=>putsL d r (if x.op=2 then putL L (whL d x.name.data.toList) else L)
theorem puts_rise (d:Dm):∀ (l:List Nd) (L:List Int),L.Pairwise (· < ·)→(putsL d l L).Pairwise (· < ·)
 | [],_,h=>h
 | x :: r,L,h=>by
  unfold putsL
  refine puts_rise d r _ ?_
  split
  ·exact put_rise _ _ h
  ·exact h
theorem puts_mem (d:Dm):∀ (l:List Nd) (L:List Int) (z:Int),z∈putsL d l L↔z∈L∨∃ x∈l,x.op=2∧z=whL d x.name.data.toList
 | [],L,z=>by simp [putsL]
 | x :: r,L,z=>by
  unfold putsL
  rw [puts_mem d r]
  by_cases h:x.op=2
  ·rw [if_pos h,put_mem]
   constructor
   ·rintro ((h1 | h1) | ⟨y,hy,h1⟩)
    ·exact Or.inl h1
    ·exact Or.inr ⟨x,by simp,h,h1⟩
    ·exact Or.inr ⟨y,List.mem_cons_of_mem _ hy,h1⟩
   ·rintro (h1 | ⟨y,hy,h1,h2⟩)
    ·exact Or.inl (Or.inl h1)
    ·rcases List.mem_cons.1 hy with rfl | hy
     ·exact Or.inl (Or.inr h2)
     ·exact Or.inr ⟨y,hy,h1,h2⟩
  ·rw [if_neg h]
   constructor
   ·rintro (h1 | ⟨y,hy,h1⟩)
    ·exact Or.inl h1
    ·exact Or.inr ⟨y,List.mem_cons_of_mem _ hy,h1⟩
   ·rintro (h1 | ⟨y,hy,h1,h2⟩)
    ·exact Or.inl h1
    ·rcases List.mem_cons.1 hy with rfl | hy
     ·exact absurd h1 h
     ·exact Or.inr ⟨y,hy,h1,h2⟩
theorem puts_need {d:Dm} (hd:(dimErr d).2=0) {i:Nat} (hf:(d.mem i).formula.size≠0) (he:mErr d i=0):putsL d (prsL (d.mem i).formula) []=mNd d i:=by
 refine rise_eq _ _ (puts_rise d _ _ List.Pairwise.nil) (sel_rise _ _) fun z=>?_
 rw [puts_mem,need_names hd hf he]
 constructor
 ·rintro (h | ⟨x,hx,h1,h2⟩)
  ·cases h
  ·exact ⟨x.name.data.toList,nms_has hx h1,h2⟩
 ·rintro ⟨nm,h1,h2⟩
  obtain ⟨x,hx,h3,rfl⟩:=has_nms h1
  exact Or.inr ⟨x,hx,h3,h2⟩
def putsP (f:Int→Bool):List Int→List Int→List Int
 | [],L=>L
 | x :: r,L=>putsP f r (if f x=true then putL L x else L)
theorem putsP_rise (f:Int→Bool):∀ (l:List Int) (L:List Int),L.Pairwise (· < ·)→(putsP f l L).Pairwise (· < ·)
 | [],_,h=>h
 | x :: r,L,h=>by
  unfold putsP
  refine putsP_rise f r _ ?_
  split
  ·exact put_rise _ _ h
  ·exact h
theorem putsP_mem (f:Int→Bool):∀ (l:List Int) (L:List Int) (z:Int),z∈putsP f l L↔z∈L∨z∈l∧f z=true
 | [],L,z=>by simp [putsP]
 | x :: r,L,z=>by
  unfold putsP
  rw [putsP_mem f r,List.mem_cons]
  by_cases h:f x=true
  ·rw [if_pos h,put_mem]
   constructor
   ·rintro ((h1 | h1) | ⟨h1,h2⟩)
    ·exact Or.inl h1
    ·exact Or.inr ⟨Or.inl h1,by rw [h1];exact h⟩
    ·exact Or.inr ⟨Or.inr h1,h2⟩
   ·rintro (h1 | ⟨h1 | h1,h2⟩)
    ·exact Or.inl (Or.inl h1)
    ·exact Or.inl (Or.inr h1)
    ·exact Or.inr ⟨h1,h2⟩
  ·rw [if_neg h]
   constructor
   ·rintro (h1 | ⟨h1,h2⟩)
    ·exact Or.inl h1
    ·exact Or.inr ⟨Or.inr h1,h2⟩
   ·rintro (h1 | ⟨h1 | h1,h2⟩)
    ·exact Or.inl h1
    ·rw [h1] at h2;exact absurd h2 h
    ·exact Or.inr ⟨h1,h2⟩
theorem putsP_need {d:Dm} {i:Nat} (hf:(d.mem i).formula.size=0):putsP (sgB d) (partsOf d.mem d.n i) []=mNd d i:=by
 rw [←parts_need hf]
 refine rise_eq _ _ (putsP_rise _ _ _ List.Pairwise.nil) ((sel_rise _ _).filter _) fun z=>?_
 rw [putsP_mem,List.mem_filter]
 simp
theorem puts_snoc (d:Dm) (x:Nd):∀ (l:List Nd) (L:List Int),putsL d (l ++ [x]) L=if x.op=2 then putL (putsL d l L) (whL d x.name.data.toList) else putsL d l L
 | [],L=>by simp [putsL]
 | y :: r,L=>by
  show putsL d (r ++ [x]) _=_
  rw [puts_snoc d x r]
  rfl
theorem putsP_snoc (f:Int→Bool) (x:Int):∀ (l:List Int) (L:List Int),putsP f (l ++ [x]) L=if f x=true then putL (putsP f l L) x else putsP f l L
 | [],L=>by simp [putsP]
 | y :: r,L=>by
  show putsP f (r ++ [x]) _=_
  rw [putsP_snoc f x r]
  rfl
theorem put_len (L:List Int) (n:Int):(putL L n).length≤L.length+1:=by
 induction L with
 | nil=>simp [putL]
 | cons y r ih =>
  unfold putL
  split
  ·simp only [List.length_cons];omega
  ·split <;> simp
theorem put_more {L:List Int} {n:Int} (h:n∉L):(putL L n).length=L.length+1:=by
 induction L with
 | nil=>simp [putL]
 | cons y r ih =>
  have h1:n∉r:=fun e=>h (List.mem_cons_of_mem _ e)
  unfold putL
  split
  ·simp only [List.length_cons,ih h1]
  ·split
   ·rename_i e
    exact absurd (by rw [e];simp) h
   ·simp
def putTo (d:Dm) (l:List Nd) (k:Nat):List Int:=putsL d (l.take k) []
theorem putTo_next {d:Dm} {l:List Nd} {k:Nat} {x:Nd} (hk:k<l.length) (hx:l.getD k noN=x):putTo d l (k+1)=if x.op=2 then putL (putTo d l k) (whL d x.name.data.toList) else putTo d l k:=by
 unfold putTo
 rw [take_snoc l hk,hx,puts_snoc]
theorem putTo_len (d:Dm) (l:List Nd) (k:Nat) (hk:k≤l.length):(putTo d l k).length≤k:=by
 induction k with
 | zero=>simp [putTo,putsL]
 | succ k ih =>
  rw [putTo_next (by omega) rfl]
  have:=ih (by omega)
  split
  ·exact Nat.le_trans (put_len _ _) (by omega)
  ·omega
def partTo (d:Dm) (l:List Int) (k:Nat):List Int:=putsP (sgB d) (l.take k) []
theorem partTo_next {d:Dm} {l:List Int} {k:Nat} {x:Int} (hk:k<l.length) (hx:l.getD k 0=x):partTo d l (k+1)=if sgB d x=true then putL (partTo d l k) x else partTo d l k:=by
 unfold partTo
 have e:l.take (k+1)=l.take k ++ [x]:=by
  rw [List.take_succ_eq_append_getElem hk,←hx,List.getD_eq_getElem?_getD,List.getElem?_eq_getElem hk]
  rfl
 rw [e,putsP_snoc]
theorem partTo_len (d:Dm) (l:List Int) (k:Nat) (hk:k≤l.length):(partTo d l k).length≤k:=by
 induction k with
 | zero=>simp [partTo,putsP]
 | succ k ih =>
  rw [partTo_next (by omega) rfl]
  have:=ih (by omega)
  split
  ·exact Nat.le_trans (put_len _ _) (by omega)
  ·omega
theorem mErr_ref {d:Dm} {i:Nat} (hf:(d.mem i).formula.size≠0) (hp:prsE (d.mem i).formula=0) {x:Nd} (hx:x∈prsL (d.mem i).formula) (h2:x.op=2) (hw:whL d x.name.data.toList<0):mErr d i=5:=by
 unfold mErr
 rw [if_neg hf,if_neg (by simpa using hp),if_pos]
 rw [List.any_eq_true]
 exact ⟨_,nms_has hx h2,decide_eq_true hw⟩
theorem mErr_all {d:Dm} {i:Nat} (hf:(d.mem i).formula.size≠0) (hp:prsE (d.mem i).formula=0) (h:∀ x∈prsL (d.mem i).formula,x.op=2→0≤whL d x.name.data.toList):mErr d i=0:=by
 unfold mErr
 rw [if_neg hf,if_neg (by simpa using hp),if_neg]
 rw [List.any_eq_true]
 rintro ⟨nm,hnm,hw⟩
 obtain ⟨x,hx,h2,rfl⟩:=has_nms hnm
 have:=h x hx h2
 have:=of_decide_eq_true hw
 omega
theorem mErr_prs {d:Dm} {i:Nat} (hf:(d.mem i).formula.size≠0) (hp:prsE (d.mem i).formula≠0):mErr d i=prsE (d.mem i).formula:=by
 unfold mErr
 rw [if_neg hf,if_pos hp]
end Go.Proofs.YtfldgghobddgkaaGreatDoor
namespace Go.Proofs.YtfldgghobddgkaaGreatDoor
open Go.ChangeShapes Go.WideShapes Go.ChangeAt Go.RowKit
set_option maxRecDepth 20000
def RiseV (w:World) (A:Option Addr) (c:Nat) (L:List Int):Prop:=(L=[]∧A=none∧c=0)∨(L≠[]∧IntT w A c L)
theorem RiseV.later {w w':World} {A:Option Addr} {c:Nat} {L:List Int} (h:RiseV w A c L) (hB:Below w.heap.size w w'):RiseV w' A c L:=by
 rcases h with h | ⟨h1,h⟩
 ·exact Or.inl h
 ·exact Or.inr ⟨h1,h.later hB⟩
theorem RiseV.nil (w:World):RiseV w none 0 []:=Or.inl ⟨rfl,rfl,rfl⟩
theorem RiseV.intT {w:World} {A:Option Addr} {c:Nat} {L:List Int} (h:RiseV w A c L):IntT w A c L:=by
 rcases h with ⟨rfl,-,rfl⟩ | ⟨-,h⟩
 ·exact IntT.nil _ _ _ (by omega)
 ·exact h
theorem IntT.pl {w:World} {A:Option Addr} {c:Nat} {L:List Int} (h:IntT w A c L):PlAt w A c L:=by
 obtain ⟨h1,-,h2 | ⟨b,cs,fr,h2,h3,h4⟩⟩:=h
 ·exact ⟨h1,Or.inl h2⟩
 ·exact ⟨h1,Or.inr ⟨b,0,h2,(Array.getElem?_eq_some_iff.1 h3).1,fun j hj=>by rw [Nat.zero_add];exact h4 j hj⟩⟩
theorem ints_ones {L:List Int}:∀ u∈L.map (Value.int .i64),u.oneCell'=true:=by
 intro u hu
 simp at hu
 obtain ⟨x,-,rfl⟩:=hu
 rfl
set_option maxHeartbeats 4000000 in
theorem put_any (A:Option Addr) (cap:Nat) (L:List Int) (n:Int) (w:World) (h63:L.length≤1000000) (hL:RiseV w A cap L):Calls Tryz.prog 29 #[.slice A L.length cap,.int .i64 n] w fun e w'=>(∃ A' c',e=.returned (.slice A' (putL L n).length c')∧RiseV w' A' c' (putL L n))∧Below w.heap.size w w':=by
 obtain ⟨i0,hi0,hz0,hz1,hz2⟩:=info_parts Tryz.infoIntF
 have hPl:=hL.intT.pl
 have hc63:cap≤9223372036854775807:=hL.intT.2.1
 have HRs:Hid (RiseV w A cap L):=hL
 rcases hL with ⟨rfl,rfl,rfl⟩ | ⟨hne,-⟩
 ·show Calls Tryz.prog 29 #[.slice none 0 0,.int .i64 n] w _
  go_enter Tryz.func29,Tryz.ntmps29
  go_wp2_with fail
  refine wp_loop_rounds 1 ?_
  rw [rounds_succ]
  go_wp2_with (first
   | (at_builtin;refine wpList_append_own_none rfl _ _ 47 rfl w.heap.size 3 i0 1 Tryz.underlying47 hi0 _ 0 _ rfl (World.ownsRow_nil w w.heap.size 3 1) rfl ?_)
   | (at_builtin;refine wpList_append_own_at _ rfl _ _ 47 rfl w.heap.size 3 i0 _ 1 8 Tryz.underlying47 hi0 hz0 hz1 hz2 rfl (by decide) _ 0 [] rfl (World.ownsRow_nil _ w.heap.size 3 1) ⟨w.heap.size,0,none⟩ 1 1 [.int .i64 n] rfl rfl ?qc1 ?qc2 ?qc3 ?qc4 ?qc5 ?_))
  case qc1=>exact cell_one_new _ _ _
  case qc2=>intro u hu;simp at hu;subst hu;rfl
  case qc3=>unfold maxLen;omega
  case qc4=>omega
  case qc5=>simp
  intro v1 w1 hown hgrow _ _
  have HB1:Hid (Below w.heap.size w w1):=((Below.refl _ _).alloc (Nat.le_refl _) _).grown hgrow (by simp) (fun j hj=>by cases hj)
  have hown1:w1.ownsRow w.heap.size 3 1 v1 1 [.int .i64 n]:=hown
  have HP1:=hid_of (intT_own (L:=[n]) hown1)
  clear hown hgrow
  go_wp2_with (at_builtin;refine wpList_append_own_none rfl _ _ 47 rfl w.heap.size 3 i0 1 Tryz.underlying47 hi0 _ 1 _ rfl hown1 rfl ?_)
  go_ret
  obtain ⟨A1,c1,rfl,hP⟩:=HP1.out
  exact ⟨⟨A1,c1,rfl,Or.inr ⟨by simp [putL],hP⟩⟩,HB1.out⟩
 ·obtain ⟨hc,h0 | ⟨b,o,rfl,hb,hcell⟩⟩:=hPl
  ·exact absurd h0 hne
  obtain ⟨m,hm⟩:∃ m,L.length=m:=⟨_,rfl⟩
  have HM:=hid_of hm
  have HC:=hid_of hcell
  rw [hm]
  have hmi:(m:Int)≤1000000:=by omega
  have hci:(cap:Int)≤9223372036854775807:=by omega
  have hmc:(m:Int)≤(cap:Int):=by omega
  clear hcell
  go_enter Tryz.func29,Tryz.ntmps29
  go_upto_block 0 with fail
  go_cut [5] from 7 (fun s5 wx=>(∃ k:Nat,k≤m∧s5=.int .i64 k∧(∀ i,i<k→L.getD i 0<n)∧(k=m∨n≤L.getD k 0))∧wx=w)
  case first =>
   go_wp2_with fail
   go_loopg [5] m (fun g s5 wr => ∃ (k:Nat),k≤m∧g=m-k∧s5=.int .i64 k∧(∀ i,i<k→L.getD i 0<n)∧wr=w)
   case atStart=>exact ⟨0,Nat.zero_le _,rfl,rfl,fun i hi=>absurd hi (Nat.not_lt_zero i),rfl⟩
   case round =>
    obtain ⟨k,hk,rfl,rfl,hf,rfl⟩:=hrel
    have HF:=hid_of hf
    clear hf
    by_cases hlt:k<m
    ·have hki:(k:Int)<(m:Int):=by omega
     have hcx:=HC.out k (by omega)
     obtain ⟨x,hx⟩:∃ x,L.getD k 0=x:=⟨_,rfl⟩
     have HXx:=hid_of hx
     rw [hx] at hcx
     clear hx
     by_cases hxn:x<n
     ·have HAll:Hid (∀ i,i<k+1→L.getD i 0<n):=fun i hi=>by
       by_cases e:i=k
       ·rw [e,HXx.out];exact hxn
       ·exact HF.out i (by omega)
      go_wp2_with fail
      go_roundg (m-(k+1))
      case measure=>omega
      case rel=>exact ⟨k+1,by omega,rfl,by go_num,HAll.out,rfl⟩
     ·have hd1:decide (x<n)=false:=decide_eq_false hxn
      have HGe:Hid (n≤L.getD k 0):=by show _≤_;rw [HXx.out];omega
      clear hxn
      go_wp2_with fail
      go_meet
      exact ⟨⟨k,hk,rfl,HF.out,Or.inr HGe.out⟩,rfl⟩
    ·have hke:k=m:=by omega
     subst hke
     go_wp2_with fail
     go_meet
     exact ⟨⟨k,Nat.le_refl _,rfl,HF.out,Or.inl rfl⟩,rfl⟩
  case rest =>
   obtain ⟨⟨k,hk,rfl,hf,hge⟩,hwc⟩:=hcut
   subst hwc
   have hki:(k:Int)≤(m:Int):=by omega
   have HPut:=hid_of (putL_at L n k (by omega) hf (by rw [hm];exact hge))
   have HMc:=hid_of hc
   clear hf
   by_cases heq:k<m∧L.getD k 0=n
   ·obtain ⟨hlt,hxe⟩:=heq
    have HE:Hid (putL L n=L):=by show _=_;rw [HPut.out,if_pos ⟨by omega,hxe⟩]
    have hki2:(k:Int)<(m:Int):=by omega
    have hcx:=HC.out k (by omega)
    rw [hxe] at hcx
    clear hxe hge
    go_wp2_with fail
    go_ret
    rw [HE.out]
    exact ⟨⟨some ⟨b,o,none⟩,cap,by rw [HM.out];rfl,HRs.out⟩,Below.refl _ _⟩
   ·have HE:Hid (putL L n=L.take k ++ [n] ++ L.drop k):=by show _=_;rw [HPut.out,if_neg (by rw [hm];exact heq)]
    obtain ⟨w0,rfl⟩:∃ wx:World,wx=wc:=⟨_,rfl⟩
    have hkn:k≤L.length:=by omega
    have hk63:k≤1000000:=by omega
    have hkc:(k:Int)≤(cap:Int):=by omega
    have HTk:Hid (∀ w',Below w0.heap.size w0 w'→∀ j u,((L.take k).map (Value.int .i64))[j]?=some u→w'.cell? ((⟨b,o,none⟩:Addr).add j)=some u):=fun w' hB=>by
     have h:=mapI_cells (w:=w') (b:=b) (o:=o) (L:=L) (fun j hj=>(hB.cell (p:=⟨b,o+j,none⟩) hb).trans (HC.out j hj)) 0 k (by omega)
     exact h
    have HDk:Hid (∀ w',Below w0.heap.size w0 w'→∀ j u,((L.drop k).map (Value.int .i64))[j]?=some u→w'.cell? ((⟨b,o+k,none⟩:Addr).add j)=some u):=fun w' hB=>by
     have h:=mapI_cells (w:=w') (b:=b) (o:=o) (L:=L) (fun j hj=>(hB.cell (p:=⟨b,o+j,none⟩) hb).trans (HC.out j hj)) k (L.length-k) (by omega)
     rw [List.take_of_length_le (by simp)] at h
     exact h
    rcases Nat.lt_or_ge k m with hlt | hgek
    ·have hki2:(k:Int)<(m:Int):=by omega
     have hcx:=HC.out k (by omega)
     obtain ⟨x,hx⟩:∃ x,L.getD k 0=x:=⟨_,rfl⟩
     have hxn:(x == n)=false:=by
      have:x≠n:=fun e=>heq ⟨hlt,hx.trans e⟩
      simpa using this
     rw [hx] at hcx
     clear hx heq hge
     go_upto_region 7 with fail
     go_wp2_with (at_builtin;refine wpList_append_own_at _ rfl _ _ 47 rfl w0.heap.size 3 i0 _ 1 8 Tryz.underlying47 hi0 hz0 hz1 hz2 rfl (by decide) _ 0 [] rfl (World.ownsRow_nil _ w0.heap.size 3 1) ⟨b,o,none⟩ k cap ((L.take k).map (Value.int .i64)) rfl ?qc0 ?qc1 ?qc2 ?qc3 ?qc4 ?qc5 ?_)
     case qc0=>simp;omega
     case qc1=>exact HTk.out _ (Below.refl _ _)
     case qc2=>exact ints_ones
     case qc3=>unfold maxLen;omega
     case qc4=>omega
     case qc5=>exact Nat.le_refl _
     intro v1 w1 hown hgrow _ _
     have hb1:Below w0.heap.size w0 w1:=(Below.refl _ _).grown hgrow (Nat.le_refl _) (fun j hj=>by cases hj)
     have hown1:w1.ownsRow w0.heap.size 3 1 v1 k ((L.take k).map (Value.int .i64)):=by simpa using hown
     have HB1:=hid_of hb1
     have HO1:=hid_of hown1
     have hs1:=hb1.size
     clear hown hgrow hb1 hown1 hcx
     go_wp2_with (at_builtin;refine wpList_append_own_at _ rfl _ _ 47 rfl w0.heap.size 3 i0 _ 1 8 Tryz.underlying47 hi0 hz0 hz1 hz2 rfl (by decide) _ k ((L.take k).map (Value.int .i64)) rfl (own_later HO1.out ((Below.refl _ _).alloc (Nat.le_refl _) _)) ⟨w1.heap.size,0,none⟩ 1 1 [.int .i64 n] rfl rfl ?qd1 ?qd2 ?qd3 ?qd4 ?qd5 ?_)
     case qd1=>exact cell_one_new _ _ _
     case qd2=>intro u hu;simp at hu;subst hu;rfl
     case qd3=>unfold maxLen;omega
     case qd4=>omega
     case qd5=>simp;omega
     intro v2 w2 hown hgrow _ _
     have hb2:Below w0.heap.size w0 w2:=(HB1.out.alloc hs1 _).grown hgrow (by simp;omega) (fun j hj=>(HO1.out.lt j hj).1)
     have HB2:=hid_of hb2
     have hown2:w2.ownsRow w0.heap.size 3 1 v2 (k+1) ((L.take k ++ [n]).map (Value.int .i64)):=by simpa [List.map_append] using hown
     have HO2:=hid_of hown2
     have hs2:=hb2.size
     clear hown hgrow hb2 hown2
     go_wp2_with (at_builtin;refine wpList_append_own_at _ rfl _ _ 47 rfl w0.heap.size 3 i0 _ 1 8 Tryz.underlying47 hi0 hz0 hz1 hz2 rfl (by decide) _ (k+1) ((L.take k ++ [n]).map (Value.int .i64)) rfl HO2.out ⟨b,o+k,none⟩ (m-k) (cap-k) ((L.drop k).map (Value.int .i64)) rfl ?qe0 ?qe1 ?qe2 ?qe3 ?qe4 ?qe5 ?_)
     case qe0=>simp;omega
     case qe1=>exact HDk.out _ HB2.out
     case qe2=>exact ints_ones
     case qe3=>unfold maxLen;omega
     case qe4=>omega
     case qe5=>exact hs2
     intro v3 w3 hown hgrow _ _
     have HB3:Hid (Below w0.heap.size w0 w3):=HB2.out.grown hgrow hs2 (fun j hj=>(HO2.out.lt j hj).1)
     have hlen:(L.take k ++ [n] ++ L.drop k).length=k+1+(m-k):=by simp;omega
     have hown3:w3.ownsRow w0.heap.size 3 1 v3 (L.take k ++ [n] ++ L.drop k).length ((L.take k ++ [n] ++ L.drop k).map (Value.int .i64)):=by
      rw [hlen]
      simpa [List.map_append] using hown
     have HP3:=hid_of (intT_own (L:=L.take k ++ [n] ++ L.drop k) hown3)
     clear hown hgrow hown3 hlen
     go_wp2_with fail
     go_ret
     obtain ⟨A3,c3,rfl,hP⟩:=HP3.out
     rw [HE.out]
     exact ⟨⟨A3,c3,rfl,Or.inr ⟨by simp,hP⟩⟩,HB3.out⟩
    ·have hke:k=m:=by omega
     subst hke
     clear heq hge
     obtain ⟨ad,had⟩:∃ ad:Addr,(if cap=k then some (⟨b,o,none⟩:Addr) else some ⟨b,o+k,none⟩)=some ad:=by split <;> exact ⟨_,rfl⟩
     have HAd:=hid_of had
     clear had
     go_upto_region 7 with fail
     go_wp2_with (at_builtin;refine wpList_append_own_at _ rfl _ _ 47 rfl w0.heap.size 3 i0 _ 1 8 Tryz.underlying47 hi0 hz0 hz1 hz2 rfl (by decide) _ 0 [] rfl (World.ownsRow_nil _ w0.heap.size 3 1) ⟨b,o,none⟩ k cap ((L.take k).map (Value.int .i64)) rfl ?qc0 ?qc1 ?qc2 ?qc3 ?qc4 ?qc5 ?_)
     case qc0=>simp;omega
     case qc1=>exact HTk.out _ (Below.refl _ _)
     case qc2=>exact ints_ones
     case qc3=>unfold maxLen;omega
     case qc4=>omega
     case qc5=>exact Nat.le_refl _
     intro v1 w1 hown hgrow _ _
     have hb1:Below w0.heap.size w0 w1:=(Below.refl _ _).grown hgrow (Nat.le_refl _) (fun j hj=>by cases hj)
     have hown1:w1.ownsRow w0.heap.size 3 1 v1 k ((L.take k).map (Value.int .i64)):=by simpa using hown
     have HB1:=hid_of hb1
     have HO1:=hid_of hown1
     have hs1:=hb1.size
     clear hown hgrow hb1 hown1
     go_wp2_with (at_builtin;refine wpList_append_own_at _ rfl _ _ 47 rfl w0.heap.size 3 i0 _ 1 8 Tryz.underlying47 hi0 hz0 hz1 hz2 rfl (by decide) _ k ((L.take k).map (Value.int .i64)) rfl (own_later HO1.out ((Below.refl _ _).alloc (Nat.le_refl _) _)) ⟨w1.heap.size,0,none⟩ 1 1 [.int .i64 n] rfl rfl ?qd1 ?qd2 ?qd3 ?qd4 ?qd5 ?_)
     case qd1=>exact cell_one_new _ _ _
     case qd2=>intro u hu;simp at hu;subst hu;rfl
     case qd3=>unfold maxLen;omega
     case qd4=>omega
     case qd5=>simp;omega
     intro v2 w2 hown hgrow _ _
     have hb2:Below w0.heap.size w0 w2:=(HB1.out.alloc hs1 _).grown hgrow (by simp;omega) (fun j hj=>(HO1.out.lt j hj).1)
     have HB2:=hid_of hb2
     have hown2:w2.ownsRow w0.heap.size 3 1 v2 (k+1) ((L.take k ++ [n]).map (Value.int .i64)):=by simpa [List.map_append] using hown
     have HO2:=hid_of hown2
     have hs2:=hb2.size
     clear hown hgrow hb2 hown2
     go_wp2_with (at_builtin;refine wpList_append_own_at _ rfl _ _ 47 rfl w0.heap.size 3 i0 _ 1 8 Tryz.underlying47 hi0 hz0 hz1 hz2 rfl (by decide) _ (k+1) ((L.take k ++ [n]).map (Value.int .i64)) rfl HO2.out ad 0 (cap-k) [] (by rw [←HAd.out];rfl) ?qe0 ?qe1 ?qe2 ?qe3 ?qe4 ?qe5 ?_)
     case qe0=>rfl
     case qe1=>intro j u hj;simp at hj
     case qe2=>intro u hu;simp at hu
     case qe3=>unfold maxLen;omega
     case qe4=>omega
     case qe5=>exact hs2
     all_goals
      intro v3 w3 hown hgrow _ _
      have HB3:Hid (Below w0.heap.size w0 w3):=HB2.out.grown hgrow hs2 (fun j hj=>(HO2.out.lt j hj).1)
      have hdr:L.drop k=[]:=List.drop_of_length_le (by omega)
      have hlen:(L.take k ++ [n] ++ L.drop k).length=k+1:=by rw [hdr];simp;omega
      have hown3:w3.ownsRow w0.heap.size 3 1 v3 (L.take k ++ [n] ++ L.drop k).length ((L.take k ++ [n] ++ L.drop k).map (Value.int .i64)):=by
       rw [hlen,hdr]
       simpa [List.map_append] using hown
      have HP3:=hid_of (intT_own (L:=L.take k ++ [n] ++ L.drop k) hown3)
      clear hown hgrow hown3 hlen
      go_wp2_with fail
      go_ret
      obtain ⟨A3,c3,rfl,hP⟩:=HP3.out
      rw [HE.out]
      exact ⟨⟨A3,c3,rfl,Or.inr ⟨by simp,hP⟩⟩,HB3.out⟩
end Go.Proofs.YtfldgghobddgkaaGreatDoor
