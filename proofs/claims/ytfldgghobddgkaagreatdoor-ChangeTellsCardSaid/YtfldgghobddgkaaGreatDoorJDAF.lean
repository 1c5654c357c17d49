/-
  What Leaf of package place answers, called in whatever memory: whether a place is of leafs, or what is wrong.
-/
import Derived.Laws.CopyRow
import Derived.Laws.CopyOwn
import Derived.Laws.IdiomCopy
import Derived.Lib.ItoaMem
import Derived.Lib.AtoiTie
import Derived.Test.YtfldgghobddgkaaGreatDoorJDAE
namespace Go.Proofs.YtfldgghobddgkaaGreatDoor
open Go.ChangeShapes Go.WideShapes Go.ChangeAt Go.RowKit
set_option maxRecDepth 20000
def notLeaf (D:Nat→Dm) (L:List Int) (i:Nat):Bool := !leafB (D i).mem (D i).n (L.getD i 0).toNat
def leafV (D:Nat→Dm) (n:Nat) (L:List Int):Bool:=if placeErr D n L=0 then !decide (0≤findFrom (notLeaf D L) n 0) else false
theorem pleaf1_in:EntersO 90:=fun args w=>by simp [callFunc,Tryz.func90];rfl
set_option maxHeartbeats 2000000 in
theorem pleaf1_any (b o n cap k q r bp op cp X:Nat) (D:Nat→Dm) (A:Nat→Option Addr) (C:Nat→Nat) (w:World) (hk:k<n) (hn:n≤4) (hd:(dimErr (D k)).2=0) (hX:X<(D k).n) (hM:DimsAt w b o n D A C) (hx:w.cell? ⟨bp,op+k,none⟩=some (.int .i64 X)) (hq:w.cell? ⟨q,0,none⟩=some (.slice (some ⟨b,o,none⟩) n cap)) (hr:w.cell? ⟨r,0,none⟩=some (.slice (some ⟨bp,op,none⟩) n cp)) :
  Calls Tryz.prog 90 #[.int .i64 k,.pointer (some ⟨q,0,none⟩),.pointer (some ⟨r,0,none⟩)] w fun e w'=>e=.returned (.bool (!leafB (D k).mem (D k).n X))∧Below w.heap.size w w':=by
 obtain ⟨h0,h1,h3,h4⟩:=hM.2 k hk
 have hki:(k:Int)<(n:Int):=by omega
 have hn':(n:Int)≤4:=by omega
 have hte:treeErr (D k) [(X:Int)]=0:=by rw [treeErr_one hd,if_neg (by omega)]
 have hlf:lfOf (D k) (X:Int)=leafB (D k).mem (D k).n X:=by simp [lfOf,hte]
 have HLf:Hid (∀ w',Below w.heap.size w w'→Calls Tryz.prog 91 #[.agg #[.string (D k).name,.int .i64 (D k).solve,.slice (A k) (D k).n (C k)],.int .i64 X] w' fun e w''=>e=.returned (.tuple #[.bool (leafB (D k).mem (D k).n X),.nilIface])∧Below w'.heap.size w' w''):=fun w' hw'=>by
  have h:=tleaf_any (D k) (A k) (C k) X w' (h4.later hw')
  rw [hte,hlf,errV_zero] at h
  exact h
 generalize leafB (D k).mem (D k).n X=y at HLf
 clear hM h4 hte hlf hd
 go_enter Tryz.func90,Tryz.ntmps90
 go_wp2_with fail
 go_region_law ((go_simp;refine (HLf.out _ (by go_grown)).mono ?_;rintro e w2 ⟨rfl,hb2⟩;have hN2:=onB (W0:=w) (by go_grown) hb2;clear hb2))
 all_goals go_wp2_with fail
 all_goals go_ret
 all_goals exact ⟨rfl,hN2⟩
set_option maxHeartbeats 4000000 in
theorem pleaf_any (A0:Option Addr) (cap n:Nat) (D:Nat→Dm) (A:Nat→Option Addr) (C:Nat→Nat) (Ap:Option Addr) (cp:Nat) (L:List Int) (w:World) (hM:DimsV w A0 cap n D A C) (hP:PlAt w Ap cp L):Calls Tryz.prog 61 #[.agg #[.slice A0 n cap],.slice Ap L.length cp] w fun e w'=>e=.returned (.tuple #[.bool (leafV D n L),errV (placeErr D n L)])∧Below w.heap.size w w':=by
 have hB0:=ownOP_below w A0 n cap Ap L.length cp 24 49
 have h:=pcheck_any A0 cap n D A C Ap cp L (ownOP w A0 n cap Ap L.length cp 24 49) (hM.later hB0) (hP.later hB0)
 have HB0:Hid (Below w.heap.size w (ownOP w A0 n cap Ap L.length cp 24 49)):=hB0
 have HM:Hid (DimsV w A0 cap n D A C):=hM
 have HP:Hid (PlAt w Ap cp L):=hP
 clear hM hB0 hP
 by_cases he:placeErr D n L=0
 ·have HI:Hid (InO D n L):=inO_of he
  have HV:Hid (leafV D n L = !decide (0≤findFrom (notLeaf D L) n 0)):=by show _=_;unfold leafV;rw [if_pos he]
  have HE:Hid (errV (placeErr D n L)=.nilIface):=by show _=_;rw [he];rfl
  rw [he,errV_zero] at h
  obtain ⟨hn1,hn4,-,-⟩:=allErr_some HI.out.right
  have hn':(n:Int)≤4:=by omega
  have hl:=HI.out.len
  obtain ⟨hcp,h0 | ⟨bp,op,rfl,hbp,hcell⟩⟩:=HP.out
  ·rw [h0] at hl;simp at hl;omega
  rw [hl] at h HB0
  rw [hl]
  have HC:Hid (∀ j,j<n→w.cell? ⟨bp,op+j,none⟩=some (.int .i64 (L.getD j 0))):=fun j hj=>hcell j (by omega)
  clear he hl hcell hcp
  go_enter Tryz.func61,Tryz.ntmps61
  go_wp2_with fail
  refine h.mono ?_
  rintro e w1 ⟨rfl,hb1⟩
  have hB:Below w.heap.size w w1:=onB HB0.out hb1
  have hz:w.heap.size+1<w1.heap.size:=by have:=hb1.size;rw [ownOP_size] at this;omega
  have ho:w1.cell? ⟨w.heap.size,0,none⟩=some (.slice A0 n cap):=(hb1.cell (p:=⟨w.heap.size,0,none⟩) (by show w.heap.size<_;rw [ownOP_size];omega)).trans (ownOP_o ..)
  have hp:w1.cell? ⟨w.heap.size+1,0,none⟩=some (.slice (some ⟨bp,op,none⟩) n cp):=(hb1.cell (p:=⟨w.heap.size+1,0,none⟩) (by show w.heap.size+1<_;rw [ownOP_size];omega)).trans (ownOP_p ..)
  obtain ⟨hcap,h0 | ⟨b,o,rfl,hMs⟩⟩:=HM.out.later hB
  ·omega
  have hany:=anydim_any 90 w.heap.size (w.heap.size+1) pleaf1_in (some ⟨b,o,none⟩) n cap (notLeaf D L) w1 hn4 (fun j w' hj hw'=>by
   have hlo:=HI.out.lo j hj
   have hhi:=HI.out.hi j hj
   have e1:L.getD j 0=((L.getD j 0).toNat:Int):=by omega
   have hcj:=((onB hB hw').cell (p:=⟨bp,op+j,none⟩) hbp).trans (HC.out j hj)
   rw [e1] at hcj
   exact pleaf1_any b o n cap j w.heap.size (w.heap.size+1) bp op cp (L.getD j 0).toNat D A C w' hj hn4 ((allErr_right HI.out.right).2 j hj) (by omega) (hMs.later hw') hcj ((hw'.cell (p:=⟨w.heap.size,0,none⟩) (by show w.heap.size<_;omega)).trans ho) ((hw'.cell (p:=⟨w.heap.size+1,0,none⟩) hz).trans hp))
  have HB:Hid (Below w.heap.size w w1):=hB
  generalize decide (0≤findFrom (notLeaf D L) n 0)=y at hany HV
  clear hb1 h hMs hB
  go_wp2_with fail
  refine hany.mono ?_
  rintro e w2 ⟨rfl,hb2⟩
  go_wp2_with fail
  go_ret2
  rw [HV.out,HE.out]
  exact ⟨rfl,onB HB.out hb2⟩
 ·have HV:Hid (leafV D n L=false):=by show _=_;unfold leafV;rw [if_neg he]
  have HE:Hid (errV (placeErr D n L)=.iface 69 (.int .i64 (placeErr D n L))):=errV_some he
  rw [errV_some he] at h
  clear he
  generalize placeErr D n L=c at h HE
  generalize L.length=m at h HB0
  go_enter Tryz.func61,Tryz.ntmps61
  go_wp2_with fail
  refine h.mono ?_
  rintro e w1 ⟨rfl,hb1⟩
  go_wp2_with fail
  go_ret2
  rw [HV.out,HE.out]
  exact ⟨rfl,onB HB0.out hb1⟩
end Go.Proofs.YtfldgghobddgkaaGreatDoor
namespace Go.Proofs.YtfldgghobddgkaaGreatDoor
def lessL:List Int→List Int→Bool
 | [],[]=>false
 | [],_ :: _=>true
 | _ :: _,[]=>false
 | a :: r,b :: t=>if a=b then lessL r t else decide (a<b)
theorem lessL_trans:∀ (a b c:List Int),lessL a b=true→lessL b c=true→lessL a c=true
 | [],[],_,h,_=>by simp [lessL] at h
 | [],_ :: _,[],_,h=>by simp [lessL] at h
 | [],_ :: _,_ :: _,_,_=>rfl
 | _ :: _,[],_,h,_=>by simp [lessL] at h
 | _ :: _,_ :: _,[],_,h=>by simp [lessL] at h
 | x :: r,y :: t,z :: u,h1,h2=>by
  simp only [lessL] at h1 h2 ⊢
  by_cases e1:x=y
  ·by_cases e2:y=z
   ·rw [if_pos e1] at h1
    rw [if_pos e2] at h2
    rw [if_pos (e1.trans e2)]
    exact lessL_trans r t u h1 h2
   ·rw [if_neg e2] at h2
    rw [if_neg (by rw [e1];exact e2),e1]
    exact h2
  ·rw [if_neg e1] at h1
   have h3:=of_decide_eq_true h1
   by_cases e2:y=z
   ·rw [if_neg (by rw [←e2];exact e1),←e2]
    exact h1
   ·rw [if_neg e2] at h2
    have h4:=of_decide_eq_true h2
    rw [if_neg (by omega)]
    exact decide_eq_true (by omega)
theorem lessL_part:∀ (a b:List Int),a.length=b.length→lessL a b=true→∃ j,j<a.length∧(∀ i,i<j→a.getD i 0=b.getD i 0)∧a.getD j 0<b.getD j 0
 | [],[],_,h=>by simp [lessL] at h
 | [],_ :: _,h,_=>by simp at h
 | _ :: _,[],h,_=>by simp at h
 | x :: r,y :: t,hl,h=>by
  simp only [lessL] at h
  by_cases e:x=y
  ·rw [if_pos e] at h
   obtain ⟨j,h1,h2,h3⟩:=lessL_part r t (by simpa using hl) h
   refine ⟨j+1,by simpa using h1,fun i hi=>?_,by simpa using h3⟩
   cases i with
   | zero=>simpa using e
   | succ i=>simpa using h2 i (by omega)
  ·rw [if_neg e] at h
   exact ⟨0,by simp,fun i hi=>by omega,by simpa using of_decide_eq_true h⟩
theorem less_num {D:Nat→Dm} {n:Nat} {a b:List Int} (ha:InO D n a) (hb:InO D n b) (h:lessL a b=true):numI D a n<numI D b n:=by
 obtain ⟨j,hj,he,hlt⟩:=lessL_part a b (by rw [ha.len,hb.len]) h
 rw [ha.len] at hj
 have h1:∀ k,k≤j→numI D a k=numI D b k:=by
  intro k
  induction k with
  | zero=>intro _;rfl
  | succ k ih=>intro hk;rw [numI,numI,ih (by omega),he k (by omega)]
 have h2:∀ k,j<k→k≤n→numI D a k+1≤numI D b k:=by
  intro k
  induction k with
  | zero=>intro h;omega
  | succ k ih =>
   intro hjk hk
   rw [numI,numI]
   have a2:=ha.hi k (by omega)
   have b1:=hb.lo k (by omega)
   by_cases e:k=j
   ·rw [h1 k (by omega),e];omega
   ·have h3:=ih (by omega) (by omega)
    have h4:(numI D a k+1)*((D k).n:Int)≤numI D b k*((D k).n:Int):=Int.mul_le_mul_of_nonneg_right h3 (by omega)
    rw [Int.add_mul,Int.one_mul] at h4
    omega
 exact h2 n hj (Nat.le_refl _)
structure En where
 pl:List Int
 n:Int
def numOk (x:Int):Bool:=decide (-1000000≤x) && decide (x≤1000000)
def entOne (D:Nat→Dm) (n:Nat) (e:En):Int:=if shapeErr D n e.pl≠0 then shapeErr D n e.pl else if leafV D n e.pl=false then 6 else if numOk e.n=false then 1 else 0
def aheadOk:Option (List Int)→List Int→Bool
 | none,_=>true
 | some a,b=>lessL a b
def entFrom (D:Nat→Dm) (n:Nat):Option (List Int)→List En→Int
 | _,[]=>0
 | q,e :: r=>if entOne D n e≠0 then entOne D n e else if aheadOk q e.pl=true then entFrom D n (some e.pl) r else 7
def entsErr (D:Nat→Dm) (n:Nat) (l:List En):Int:=if (allErr D n).2.2≠0 then (allErr D n).2.2 else entFrom D n none l
structure Ens (D:Nat→Dm) (n:Nat) (l:List En):Prop where
 right:(allErr D n).2.2=0
 each:∀ e∈l,InO D n e.pl∧leafV D n e.pl=true∧numOk e.n=true
 rise:l.Pairwise fun a b=>lessL a.pl b.pl=true
theorem entOne_right {D:Nat→Dm} {n:Nat} {e:En} (hR:(allErr D n).2.2=0) (h:entOne D n e=0):InO D n e.pl∧leafV D n e.pl=true∧numOk e.n=true:=by
 unfold entOne at h
 split at h
 ·rename_i h1;exact absurd h h1
 ·split at h
  ·cases h
  ·split at h
   ·cases h
   ·rename_i h1 h2 h3
    exact ⟨inO_of (by rw [pe1 hR];simpa using h1),by simpa using h2,by simpa using h3⟩
theorem entFrom_right {D:Nat→Dm} {n:Nat} (hR:(allErr D n).2.2=0):∀ (l:List En) (q:Option (List Int)),entFrom D n q l=0→(∀ e∈l,InO D n e.pl∧leafV D n e.pl=true∧numOk e.n=true)∧(∀ a,q=some a→∀ e∈l,lessL a e.pl=true)∧l.Pairwise fun a b=>lessL a.pl b.pl=true
 | [],_,_=>⟨fun _ h=>(by cases h),fun _ _ _ h=>(by cases h),List.Pairwise.nil⟩
 | e :: r,q,h=>by
  rw [entFrom] at h
  by_cases h1:entOne D n e=0
  ·rw [if_neg (by simpa using h1)] at h
   have go:∀ (h2:entFrom D n (some e.pl) r=0) (h3:∀ a,q=some a→lessL a e.pl=true),(∀ x∈e :: r,InO D n x.pl∧leafV D n x.pl=true∧numOk x.n=true)∧(∀ a,q=some a→∀ x∈e :: r,lessL a x.pl=true)∧(e :: r).Pairwise fun a b=>lessL a.pl b.pl=true:=fun h2 h3=>by
    obtain ⟨g1,g2,g3⟩:=entFrom_right hR r _ h2
    refine ⟨fun x hx=>?_,fun a ha x hx=>?_,List.Pairwise.cons (fun x hx=>g2 _ rfl x hx) g3⟩
    ·rcases List.mem_cons.1 hx with rfl | hx
     ·exact entOne_right hR h1
     ·exact g1 x hx
    ·rcases List.mem_cons.1 hx with rfl | hx
     ·exact h3 a ha
     ·exact lessL_trans _ _ _ (h3 a ha) (g2 _ rfl x hx)
   split at h
   ·rename_i h4
    exact go h fun b hb=>by rw [hb] at h4;exact h4
   ·cases h
  ·rw [if_pos (by simpa using h1)] at h
   exact absurd h h1
theorem ens_of {D:Nat→Dm} {n:Nat} {l:List En} (h:entsErr D n l=0):Ens D n l:=by
 unfold entsErr at h
 split at h
 ·rename_i h1;exact absurd h h1
 ·rename_i h1
  have hR:(allErr D n).2.2=0:=by simpa using h1
  obtain ⟨g1,_,g3⟩:=entFrom_right hR l none h
  exact ⟨hR,g1,g3⟩
theorem Ens.few {D:Nat→Dm} {n:Nat} {l:List En} (h:Ens D n l):l.length≤3000:=by
 have hp:=(allErr_some h.right).2.2.1
 have key:∀ (m:List En) (lo:Int),(∀ e∈m,InO D n e.pl)→(m.Pairwise fun a b=>lessL a.pl b.pl=true)→(∀ e∈m,lo≤numI D e.pl n)→0≤lo→lo≤(prodN D n:Int)→lo+(m.length:Int)≤(prodN D n:Int):=by
  intro m
  induction m with
  | nil=>intro lo _ _ _ _ h5;simpa using h5
  | cons e r ih =>
   intro lo h1 h2 h3 h4 h5
   obtain ⟨h6,h7⟩:=List.pairwise_cons.1 h2
   have he:=h1 e (List.mem_cons_self ..)
   have h8:=h3 e (List.mem_cons_self ..)
   have h9:=(numI_bound he (Nat.le_refl n)).2.1
   have:=ih (numI D e.pl n+1) (fun x hx=>h1 x (List.mem_cons_of_mem _ hx)) h7 (fun x hx=>by have:=less_num he (h1 x (List.mem_cons_of_mem _ hx)) (h6 x hx);omega) (by omega) (by omega)
   rw [List.length_cons]
   omega
 have:=key l 0 (fun e he=>(h.each e he).1) h.rise (fun e he=>(numI_bound (h.each e he).1 (Nat.le_refl n)).1) (Int.le_refl _) (by omega)
 omega
end Go.Proofs.YtfldgghobddgkaaGreatDoor
namespace Go.Proofs.YtfldgghobddgkaaGreatDoor
open Go Go.ChangeShapes Go.WideShapes Go.ChangeAt Go.RowKit Go.Deep
set_option maxRecDepth 100000
structure EnL where
 e:En
 A:Option Addr
 c:Nat
def noEn:En:=⟨[],0⟩
def noL:EnL:=⟨noEn,none,0⟩
def lE (xs:List EnL):List En:=xs.map EnL.e
theorem lE_len (xs:List EnL):(lE xs).length=xs.length:=by simp [lE]
theorem lE_at (xs:List EnL) (k:Nat):(lE xs).getD k noEn=(xs.getD k noL).e:=by
 rw [List.getD_eq_getElem?_getD,List.getD_eq_getElem?_getD,lE,List.getElem?_map]
 cases xs[k]? <;> rfl
def cellsE:List EnL→List Value
 | []=>[]
 | x :: r=>.slice x.A x.e.pl.length x.c :: .int .i64 x.e.n :: cellsE r
theorem cellsE_len (xs:List EnL):(cellsE xs).length=xs.length*2:=by
 induction xs with
 | nil=>rfl
 | cons x r ih=>simp [cellsE,ih];omega
theorem cellsE_append (a b:List EnL):cellsE (a ++ b)=cellsE a ++ cellsE b:=by
 induction a with
 | nil=>rfl
 | cons x r ih=>simp [cellsE,ih]
theorem cellsE_take (xs:List EnL):∀ k,(cellsE xs).take (k*2)=cellsE (xs.take k):=by
 induction xs with
 | nil=>intro k;simp [cellsE]
 | cons x r ih =>
  intro k
  cases k with
  | zero=>simp [cellsE]
  | succ k=>rw [show (k+1)*2=k*2+1+1 by omega];simp [cellsE,ih]
theorem cellsE_at (xs:List EnL):∀ k,k<xs.length→(cellsE xs)[k*2]?=some (.slice (xs.getD k noL).A (xs.getD k noL).e.pl.length (xs.getD k noL).c)∧(cellsE xs)[k*2+1]?=some (.int .i64 (xs.getD k noL).e.n):=by
 induction xs with
 | nil=>intro k hk;cases hk
 | cons x r ih =>
  intro k hk
  cases k with
  | zero=>simp [cellsE]
  | succ k =>
   rw [show (k+1)*2=k*2+1+1 by omega]
   simp only [cellsE,List.getElem?_cons_succ,List.getD_cons_succ]
   exact ih k (by simpa using hk)
theorem enl_mem {xs:List EnL} {k:Nat} (h:k<xs.length):xs.getD k noL∈xs:=by
 rw [List.getD_eq_getElem?_getD,List.getElem?_eq_getElem h]
 exact List.getElem_mem h
def EnsAt (w:World) (b o:Nat) (xs:List EnL):Prop:=b<w.heap.size∧(∀ j u,(cellsE xs)[j]?=some u→w.cell? ⟨b,o+j,none⟩=some u)∧∀ x∈xs,PlAt w x.A x.c x.e.pl
theorem EnsAt.later {w w':World} {b o:Nat} {xs:List EnL} (h:EnsAt w b o xs) (hB:Below w.heap.size w w'):EnsAt w' b o xs :=
 ⟨Nat.lt_of_lt_of_le h.1 hB.size,fun j u hj=>(hB.cell (p:=⟨b,o+j,none⟩) h.1).trans (h.2.1 j u hj),fun x hx=>(h.2.2 x hx).later hB⟩
theorem EnsAt.pl {w:World} {b o:Nat} {xs:List EnL} (h:EnsAt w b o xs) {k:Nat} (hk:k<xs.length):PlAt w (xs.getD k noL).A (xs.getD k noL).c (xs.getD k noL).e.pl:=h.2.2 _ (enl_mem hk)
theorem EnsAt.at {w:World} {b o:Nat} {xs:List EnL} (h:EnsAt w b o xs) {k:Nat} (hk:k<xs.length):w.cell? ⟨b,o+k*2,none⟩=some (.slice (xs.getD k noL).A (xs.getD k noL).e.pl.length (xs.getD k noL).c)∧w.cell? ⟨b,o+k*2+1,none⟩=some (.int .i64 (xs.getD k noL).e.n):=by
 obtain ⟨h1,h2⟩:=cellsE_at xs k hk
 exact ⟨h.2.1 _ _ h1,by rw [Nat.add_assoc];exact h.2.1 _ _ h2⟩
def EnsV (w:World) (A:Option Addr) (cap:Nat) (xs:List EnL):Prop:=xs.length≤cap∧cap≤9223372036854775807∧(xs=[]∨∃ b o,A=some ⟨b,o,none⟩∧EnsAt w b o xs)
theorem EnsV.later {w w':World} {A:Option Addr} {cap:Nat} {xs:List EnL} (h:EnsV w A cap xs) (hB:Below w.heap.size w w'):EnsV w' A cap xs:=by
 obtain ⟨h1,h0,h2 | ⟨b,o,h2,h3⟩⟩:=h
 ·exact ⟨h1,h0,Or.inl h2⟩
 ·exact ⟨h1,h0,Or.inr ⟨b,o,h2,h3.later hB⟩⟩
theorem EnsV.nil (w:World) (A:Option Addr) (cap:Nat) (h:cap≤9223372036854775807):EnsV w A cap []:=⟨Nat.zero_le _,h,Or.inl rfl⟩
section
variable {H:Type} {enc:TypeId×Value→H} {w:World} {held:Bool}
theorem cellsEn:Tryz.prog.cellsOf 51=2:=by kernel_rfl
theorem open_pl {fuel:Nat} {cs:List Value} {x:DataW H×List MemPlace} (h:DataW.trod enc Tryz.prog w 0 (fun _=>true) held fuel 49 cs=some x) :
  ∃ (Ap:Option Addr) (cp:Nat) (L:List Int),cs=[.slice Ap L.length cp]∧PlAt w Ap cp L:=by
 rcases open_ints Tryz.underlying49 Tryz.underlying3 (by kernel_rfl) h with ⟨rfl,_⟩ | ⟨a',len,cap,zs,rfl,_,hl,_,hzl,_,hc,_⟩
 ·exact ⟨none,0,[],rfl,PlAt.nil _ _ _⟩
 ·simp at hzl
  have hlen:(zs.take len).length=len:=by simp;omega
  refine ⟨some a',cap,zs.take len,by rw [hlen],by rw [hlen];exact hl,?_⟩
  rcases Nat.eq_zero_or_pos len with h0 | h0
  ·left
   subst h0
   simp
  right
  have c0:=hc 0 (by omega)
  have hp:=addr_plain c0 rfl
  have hb:=World.block_lt_of_cell? _ _ c0
  refine ⟨a'.block,a'.off,by rw [←hp],by simpa [Addr.add] using hb,fun j hj=>?_⟩
  rw [hlen] at hj
  have:=hc j (by omega)
  rw [hp,plain_add] at this
  rw [this]
  simp [List.getD,hj]
theorem open_en {fuel:Nat} {cs:List Value} {x:DataW H×List MemPlace} (h:DataW.trod enc Tryz.prog w 0 (fun _=>true) held fuel 51 cs=some x) :
  ∃ (e:En) (A:Option Addr) (c:Nat),cs=[.slice A e.pl.length c,.int .i64 e.n]∧PlAt w A c e.pl:=by
 obtain ⟨hl,n,hf⟩:=trod_one Tryz.underlying51 (by kernel_rfl) h
 rw [cellsEn] at hl
 match cs,hl with
 | [v0,v1],_ =>
  obtain ⟨y0,h0⟩:=hf 0 _ v0 rfl rfl
  obtain ⟨y1,h1⟩:=hf 1 _ v1 rfl rfl
  obtain ⟨A,c,L,e0,hP⟩:=open_pl h0
  obtain ⟨n1,e1,-,-⟩:=DataW.trod_int Tryz.underlying3 h1
  simp at e0 e1
  exact ⟨⟨L,n1⟩,A,c,by rw [e0,e1],hP⟩
theorem cells_of_each {b o:Nat} {xs:List EnL} (h:∀ i,i<xs.length→w.cell? ⟨b,o+i*2,none⟩=some (.slice (xs.getD i noL).A (xs.getD i noL).e.pl.length (xs.getD i noL).c)∧w.cell? ⟨b,o+i*2+1,none⟩=some (.int .i64 (xs.getD i noL).e.n)):∀ j u,(cellsE xs)[j]?=some u→w.cell? ⟨b,o+j,none⟩=some u:=by
 intro j u hj
 have hlt:j<(cellsE xs).length:=(List.getElem?_eq_some_iff.1 hj).1
 rw [cellsE_len] at hlt
 have hk:j / 2<xs.length:=by omega
 obtain ⟨h1,h2⟩:=cellsE_at xs _ hk
 obtain ⟨c1,c2⟩:=h _ hk
 rcases Nat.mod_two_eq_zero_or_one j with hm | hm
 ·have e:j=j / 2*2:=by omega
  rw [e] at hj ⊢
  rw [h1] at hj
  rw [c1]
  exact hj
 ·have e:j=j / 2*2+1:=by omega
  rw [e] at hj ⊢
  rw [h2] at hj
  rw [←Nat.add_assoc,c2]
  exact hj
theorem open_ens {r:Reach} {b0:Nat} {v:Value} {d:DataW H} {p:List MemPlace} (hv:Value.okWide Tryz.prog w r b0 25 v) (h:DataW.Trod enc Tryz.prog w 0 (fun _=>true) held 25 v d p) :
  ∃ (A:Option Addr) (cap:Nat) (xs:List EnL),v=.slice A xs.length cap∧EnsV w A cap xs:=by
 obtain ⟨a0,len0,cap0,rfl⟩:=okWide_slice Tryz.underlying25 hv
 obtain ⟨fuel,hf⟩:=h
 have hf':DataW.trod enc Tryz.prog w 0 (fun _=>true) held fuel 25 [.slice a0 len0 cap0]=some (d,p):=hf
 rcases open_slice Tryz.underlying25 hf' with ⟨e,-⟩ | ⟨a,len,cap,m,n,D,Pl,e,-,hl,hcm,hm,-,hx⟩
 ·simp at e
  obtain ⟨rfl,rfl,rfl⟩:=e
  exact ⟨none,0,[],rfl,Nat.le_refl _,Nat.zero_le _,Or.inl rfl⟩
 simp at e
 obtain ⟨rfl,rfl,rfl⟩:=e
 rw [cellsEn] at hx
 simp at hm
 subst hm
 haveI:Inhabited EnL:=⟨noL⟩
 have each:∀ i,i<len0→∃ y:EnL,w.cells? 0 (a.add (i*2)) 2=some [.slice y.A y.e.pl.length y.c,.int .i64 y.e.n]∧PlAt w y.A y.c y.e.pl:=fun i hi=>by
  obtain ⟨cs',h1,h2⟩:=hx i (by omega)
  obtain ⟨e,A,c,rfl,hp⟩:=open_en h2
  exact ⟨⟨e,A,c⟩,h1,hp⟩
 obtain ⟨Y,hY⟩:=choose_lt each
 have hlen:((List.range len0).map Y).length=len0:=by simp
 have hg:∀ i,i<len0→((List.range len0).map Y).getD i noL=Y i:=fun i hi=>by simp [List.getD,hi]
 refine ⟨some a,_,(List.range len0).map Y,by rw [hlen],by rw [hlen];exact hl,hcm,?_⟩
 rcases Nat.eq_zero_or_pos len0 with h0 | h0
 ·left;subst h0;rfl
 right
 have c0:=(World.cells?_some (hY 0 h0).1).2.2 0 (by omega)
 rw [add_add] at c0
 have hp:=addr_plain c0 (by omega)
 have hb:=World.block_lt_of_cell? _ _ c0
 refine ⟨a.block,a.off,by rw [←hp],by simpa [Addr.add] using hb,cells_of_each fun i hi=>?_,fun x hx=>?_⟩
 ·rw [hlen] at hi
  have hc:=(World.cells?_some (hY i hi).1).2.2
  rw [hp] at hc
  simp only [plain_add,Nat.add_assoc] at hc
  rw [hg i hi]
  refine ⟨?_,?_⟩
  ·have:=hc 0 (by omega);simpa using this
  ·have:=hc 1 (by omega);simpa [Nat.add_assoc] using this
 ·simp only [List.mem_map,List.mem_range] at hx
  obtain ⟨i,hi,rfl⟩:=hx
  exact (hY i hi).2
end
end Go.Proofs.YtfldgghobddgkaaGreatDoor
namespace Go.Proofs.YtfldgghobddgkaaGreatDoor
def cmpL:List Int→List Int→Int
 | [],[]=>0
 | [],_ :: _ => -1
 | _ :: _,[]=>1
 | a :: r,b :: t=>if a<b then -1 else if b<a then 1 else cmpL r t
theorem cmpL_three:∀ a b:List Int,(cmpL a b = -1∧lessL a b=true∧a≠b)∨(cmpL a b=0∧lessL a b=false∧a=b)∨(cmpL a b=1∧lessL a b=false∧a≠b)
 | [],[]=>Or.inr (Or.inl ⟨rfl,rfl,rfl⟩)
 | [],_ :: _=>Or.inl ⟨rfl,rfl,by simp⟩
 | _ :: _,[]=>Or.inr (Or.inr ⟨rfl,rfl,by simp⟩)
 | a :: r,b :: t=>by
  simp only [cmpL,lessL]
  by_cases h1:a<b
  ·rw [if_pos h1,if_neg (by omega)]
   exact Or.inl ⟨rfl,decide_eq_true h1,by simp;omega⟩
  ·rw [if_neg h1]
   by_cases h2:b<a
   ·rw [if_pos h2,if_neg (by omega)]
    exact Or.inr (Or.inr ⟨rfl,decide_eq_false h1,by simp;omega⟩)
   ·have h3:a=b:=by omega
    rw [if_neg h2,if_pos h3]
    subst h3
    rcases cmpL_three r t with ⟨e1,e2,e3⟩ | ⟨e1,e2,e3⟩ | ⟨e1,e2,e3⟩
    ·exact Or.inl ⟨e1,e2,by simpa using e3⟩
    ·exact Or.inr (Or.inl ⟨e1,e2,by rw [e3]⟩)
    ·exact Or.inr (Or.inr ⟨e1,e2,by simpa using e3⟩)
theorem cmpL_nonneg (a b:List Int):decide (0≤cmpL a b) = !lessL a b:=by
 rcases cmpL_three a b with ⟨e1,e2,_⟩ | ⟨e1,e2,_⟩ | ⟨e1,e2,_⟩ <;> rw [e1,e2] <;> rfl
theorem dropI_at (l:List Int) {k:Nat} (h:k<l.length):l.drop k=l.getD k 0 :: l.drop (k+1):=by
 rw [List.drop_eq_getElem_cons h,List.getD_eq_getElem?_getD,List.getElem?_eq_getElem h]
 rfl
theorem cmpL_in {a b:List Int} {k:Nat} (h1:k<a.length) (h2:k<b.length):cmpL (a.drop k) (b.drop k)=if a.getD k 0<b.getD k 0 then -1 else if b.getD k 0<a.getD k 0 then 1 else cmpL (a.drop (k+1)) (b.drop (k+1)):=by
 rw [dropI_at a h1,dropI_at b h2,cmpL]
theorem cmpL_long {a b:List Int} {k:Nat} (h1:k<a.length) (h2:b.length≤k):cmpL (a.drop k) (b.drop k)=1:=by
 rw [dropI_at a h1,List.drop_eq_nil_of_le h2];rfl
theorem cmpL_short {a b:List Int} {k:Nat} (h1:a.length≤k) (h2:k<b.length):cmpL (a.drop k) (b.drop k) = -1:=by
 rw [dropI_at b h2,List.drop_eq_nil_of_le h1];rfl
theorem cmpL_end {a b:List Int} {k:Nat} (h1:a.length≤k) (h2:b.length≤k):cmpL (a.drop k) (b.drop k)=0:=by
 rw [List.drop_eq_nil_of_le h1,List.drop_eq_nil_of_le h2];rfl
theorem lessL_in {a b:List Int} {k:Nat} (h1:k<a.length) (h2:k<b.length):lessL (a.drop k) (b.drop k)=if a.getD k 0=b.getD k 0 then lessL (a.drop (k+1)) (b.drop (k+1)) else decide (a.getD k 0<b.getD k 0):=by
 rw [dropI_at a h1,dropI_at b h2,lessL]
theorem lessL_long {a b:List Int} {k:Nat} (h2:b.length≤k):lessL (a.drop k) (b.drop k)=false:=by
 rw [List.drop_eq_nil_of_le h2]
 cases a.drop k <;> rfl
theorem lessL_short {a b:List Int} {k:Nat} (h1:a.length≤k) (h2:k<b.length):lessL (a.drop k) (b.drop k)=true:=by
 rw [dropI_at b h2,List.drop_eq_nil_of_le h1];rfl
theorem drop_en (l:List En) {k:Nat} (h:k<l.length):l.drop k=l.getD k noEn :: l.drop (k+1):=by
 rw [List.drop_eq_getElem_cons h,List.getD_eq_getElem?_getD,List.getElem?_eq_getElem h]
 rfl
def qOf (l:List En):Nat→Option (List Int)
 | 0=>none
 | k+1=>some (l.getD k noEn).pl
theorem ent_step {D:Nat→Dm} {n:Nat} {l:List En} {k:Nat} (h:k<l.length):entFrom D n (qOf l k) (l.drop k)=if entOne D n (l.getD k noEn)≠0 then entOne D n (l.getD k noEn) else if aheadOk (qOf l k) (l.getD k noEn).pl=true then entFrom D n (qOf l (k+1)) (l.drop (k+1)) else 7:=by
 rw [drop_en l h,entFrom]
 rfl
theorem ent_bad {D:Nat→Dm} {n:Nat} {l:List En} {k:Nat} (h:k<l.length) (he:entOne D n (l.getD k noEn)≠0):entFrom D n (qOf l k) (l.drop k)=entOne D n (l.getD k noEn):=by rw [ent_step h,if_pos he]
theorem ent_clash {D:Nat→Dm} {n:Nat} {l:List En} {k:Nat} (h:k<l.length) (he:entOne D n (l.getD k noEn)=0) (hq:aheadOk (qOf l k) (l.getD k noEn).pl=false):entFrom D n (qOf l k) (l.drop k)=7:=by rw [ent_step h,if_neg (by simpa using he),if_neg (by rw [hq];decide)]
theorem ent_on {D:Nat→Dm} {n:Nat} {l:List En} {k:Nat} (h:k<l.length) (he:entOne D n (l.getD k noEn)=0) (hq:aheadOk (qOf l k) (l.getD k noEn).pl=true):entFrom D n (qOf l k) (l.drop k)=entFrom D n (qOf l (k+1)) (l.drop (k+1)):=by rw [ent_step h,if_neg (by simpa using he),if_pos hq]
theorem ent_end {D:Nat→Dm} {n:Nat} {l:List En} {k:Nat} (h:l.length≤k):entFrom D n (qOf l k) (l.drop k)=0:=by
 rw [List.drop_eq_nil_of_le h]
 cases qOf l k <;> rfl
theorem ents_bad {D:Nat→Dm} {n:Nat} (l:List En) (h:(allErr D n).2.2≠0):entsErr D n l=(allErr D n).2.2:=by unfold entsErr;rw [if_pos h]
theorem ents_in {D:Nat→Dm} {n:Nat} (l:List En) (h:(allErr D n).2.2=0):entsErr D n l=entFrom D n (qOf l 0) (l.drop 0):=by unfold entsErr;rw [if_neg (by simpa using h)];rfl
theorem one_place {D:Nat→Dm} {n:Nat} {e:En} (hR:(allErr D n).2.2=0) (h:placeErr D n e.pl≠0):entOne D n e=placeErr D n e.pl:=by
 rw [pe1 hR] at h ⊢
 unfold entOne
 rw [if_pos h]
theorem one_leaf {D:Nat→Dm} {n:Nat} {e:En} (hR:(allErr D n).2.2=0) (h:placeErr D n e.pl=0) (hf:leafV D n e.pl=false):entOne D n e=6:=by
 rw [pe1 hR] at h
 unfold entOne
 rw [if_neg (by simpa using h),if_pos hf]
theorem one_num {D:Nat→Dm} {n:Nat} {e:En} (hR:(allErr D n).2.2=0) (h:placeErr D n e.pl=0) (hf:leafV D n e.pl=true):entOne D n e=if numOk e.n=false then 1 else 0:=by
 rw [pe1 hR] at h
 unfold entOne
 rw [if_neg (by simpa using h),if_neg (by simp [hf])]
end Go.Proofs.YtfldgghobddgkaaGreatDoor
namespace Go.Proofs.YtfldgghobddgkaaGreatDoor
open Go Go.ChangeShapes Go.WideShapes Go.ChangeAt Go.RowKit
set_option maxRecDepth 20000
theorem ent_ne_int:(3:Nat)≠51:=by decide
theorem grown_trans {w w1 w2:World} {r:Option Nat} (h:w.grownBy w1 r) (k:w1.grownBy w2 r):w.grownBy w2 r :=
 ⟨k.os.trans h.os,k.tape.trans h.tape,k.output.trans h.output,Nat.le_trans h.size k.size,fun i hi hr=>(k.block i (Nat.lt_of_lt_of_le hi h.size) hr).trans (h.block i hi hr)⟩
theorem grown_below {w w':World} {r:Option Nat} (h:Below w.heap.size w w'):w.grownBy w' r:=⟨h.os,h.tape,h.output,h.size,fun i hi _=>h.block i hi⟩
theorem grown_drew {w w':World} {r:Option Nat} (h:w.grownBy w' r):w.grownBy w'.drew r:=⟨h.os,h.tape,h.output,h.size,h.block⟩
theorem grown_refl (w:World) (r:Option Nat):w.grownBy w r:=⟨rfl,rfl,rfl,Nat.le_refl _,fun _ _ _=>rfl⟩
theorem grown_setRow (w:World) (g:Nat) (cs:Array Value):w.grownBy (w.setRow g cs) (some g) :=
 ⟨rfl,rfl,rfl,by rw [setRow_size];exact Nat.le_refl _,fun i _ hr=>setRow_other w g i cs fun e=>hr (by rw [e])⟩
theorem below_grown {B:Nat} {w0 w w':World} {g:Nat} (h:Below B w0 w) (hg:w.grownBy w' (some g)) (hB:B≤w.heap.size) (hr:B≤g):Below B w0 w' :=
 h.grown hg hB fun k hk=>by cases hk;exact hr
def PlTy (w:World) (A:Option Addr) (c:Nat) (L:List Int):Prop:=L.length≤c∧(L=[]∨∃ b o cs fr,A=some ⟨b,o,none⟩∧w.heap[b]?=some (.cells cs 3 fr)∧∀ j,j<L.length→w.cell? ⟨b,o+j,none⟩=some (.int .i64 (L.getD j 0)))
theorem PlTy.pl {w:World} {A:Option Addr} {c:Nat} {L:List Int} (h:PlTy w A c L):PlAt w A c L:=by
 obtain ⟨h1,h2 | ⟨b,o,cs,fr,h2,h3,h4⟩⟩:=h
 ·exact ⟨h1,Or.inl h2⟩
 ·exact ⟨h1,Or.inr ⟨b,o,h2,(Array.getElem?_eq_some_iff.1 h3).1,h4⟩⟩
theorem PlTy.nil (w:World) (A:Option Addr) (c:Nat):PlTy w A c []:=⟨Nat.zero_le _,Or.inl rfl⟩
theorem PlTy.grown {w w':World} {A:Option Addr} {c g:Nat} {L:List Int} {cur:Array Value} {fr:Nat×Nat} (h:PlTy w A c L) (hg:w.heap[g]?=some (.cells cur 51 fr)) (hG:w.grownBy w' (some g)):PlTy w' A c L:=by
 obtain ⟨h1,h2 | ⟨b,o,cs,fr',h2,h3,h4⟩⟩:=h
 ·exact ⟨h1,Or.inl h2⟩
 ·have hne:b≠g:=fun e=>by
   rw [e,hg] at h3
   simp only [Option.some.injEq,Obj.cells.injEq] at h3
   exact ent_ne_int h3.2.1.symm
  have hb:w'.heap[b]?=w.heap[b]?:=hG.block b (Array.getElem?_eq_some_iff.1 h3).1 fun e=>hne (by simpa using e)
  exact ⟨h1,Or.inr ⟨b,o,cs,fr',h2,hb.trans h3,fun j hj=>(World.cell?_of_block (a:=⟨b,o+j,none⟩) hb).trans (h4 j hj)⟩⟩
theorem PlTy.later {w w':World} {A:Option Addr} {c:Nat} {L:List Int} (h:PlTy w A c L) (hB:Below w.heap.size w w'):PlTy w' A c L:=by
 obtain ⟨h1,h2 | ⟨b,o,cs,fr',h2,h3,h4⟩⟩:=h
 ·exact ⟨h1,Or.inl h2⟩
 ·have hb:w'.heap[b]?=w.heap[b]?:=hB.block b (Array.getElem?_eq_some_iff.1 h3).1
  exact ⟨h1,Or.inr ⟨b,o,cs,fr',h2,hb.trans h3,fun j hj=>(World.cell?_of_block (a:=⟨b,o+j,none⟩) hb).trans (h4 j hj)⟩⟩
theorem plty_own {w:World} {base:Nat} {v:Value} {L:List Int} (h:w.ownsRow base 3 1 v L.length (L.map (Value.int .i64))):∃ A c,v=.slice A L.length c∧PlTy w A c L:=by
 rcases h.2 with ⟨rfl,h0⟩ | ⟨g,cap,cur,rfl,hb,hg,hc,_,_,_⟩
 ·have:L=[]:=List.eq_nil_of_length_eq_zero h0
  subst this
  exact ⟨none,0,rfl,PlTy.nil _ _ _⟩
 ·refine ⟨_,cap,rfl,hc,Or.inr ⟨g,0,cur,_,rfl,hg,fun j hj=>?_⟩⟩
  have hx:=h.cells (g:=g) rfl j (.int .i64 (L.getD j 0)) (by simp [List.getD,List.getElem?_eq_getElem hj])
  have hadd:(⟨g,0,none⟩:Addr).add j=⟨g,j,none⟩:=by unfold Addr.add;split <;> simp_all
  rw [hadd] at hx
  rw [Nat.zero_add]
  exact hx
def RowE (w:World) (g cap:Nat) (xs:List EnL):Prop:=(∃ cur:Array Value,w.heap[g]?=some (.cells cur 51 (0,0))∧cur.size=cap*2∧cur.toList.take (xs.length*2)=cellsE xs)∧xs.length≤cap∧cap≤maxLen∧∀ x∈xs,PlTy w x.A x.c x.e.pl
section
variable {w w':World} {g cap:Nat} {xs:List EnL}
theorem RowE.lt (h:RowE w g cap xs):g<w.heap.size:=by
 obtain ⟨⟨cur,h1,_⟩,_⟩:=h
 exact (Array.getElem?_eq_some_iff.1 h1).1
theorem RowE.cells (h:RowE w g cap xs):∀ j u,(cellsE xs)[j]?=some u→w.cell? ⟨g,j,none⟩=some u:=by
 obtain ⟨⟨cur,h1,h2,h3⟩,_⟩:=h
 intro j u hj
 have hlt:=(List.getElem?_eq_some_iff.1 hj).1
 rw [cellsE_len] at hlt
 rw [←h3,List.getElem?_take,if_pos hlt,Array.getElem?_toList] at hj
 simp [World.cell?,h1,hj]
theorem RowE.full (h:RowE w g cap xs) {j:Nat} (hj:j<cap*2):(w.cell? ⟨g,j,none⟩).isSome=true:=by
 obtain ⟨⟨cur,h1,h2,h3⟩,_⟩:=h
 simp [World.cell?,h1,h2,hj]
theorem RowE.frozen (h:RowE w g cap xs) (j:Nat):w.frozen? ⟨g,j,none⟩=false:=by
 obtain ⟨⟨cur,h1,_⟩,_⟩:=h
 simp [World.frozen?,h1]
theorem RowE.ens (h:RowE w g cap xs):EnsAt w g 0 xs:=⟨h.lt,fun j u hj=>by rw [Nat.zero_add];exact h.cells j u hj,fun x hx=>(h.2.2.2 x hx).pl⟩
theorem RowE.ensV (h:RowE w g cap xs):EnsV w (some ⟨g,0,none⟩) cap xs:=⟨h.2.1,by have:=h.2.2.1;unfold maxLen at this;omega,Or.inr ⟨g,0,rfl,h.ens⟩⟩
theorem RowE.later (h:RowE w g cap xs) (hB:Below w.heap.size w w'):RowE w' g cap xs:=by
 have hlt:=h.lt
 obtain ⟨⟨cur,h1,h2,h3⟩,h4,h5,h6⟩:=h
 exact ⟨⟨cur,(hB.block g hlt).trans h1,h2,h3⟩,h4,h5,fun x hx=>(h6 x hx).later hB⟩
theorem RowE.own (h:RowE w g cap xs) {base:Nat} (hb:base≤g):w.ownsRow base 51 2 (.slice (some ⟨g,0,none⟩) xs.length cap) xs.length (cellsE xs):=by
 obtain ⟨⟨cur,h1,h2,h3⟩,h4,h5,h6⟩:=h
 exact ⟨cellsE_len xs,Or.inr ⟨g,cap,cur,rfl,hb,h1,h4,h5,h2,h3⟩⟩
theorem row_own {base:Nat} {v:Value} (h:w.ownsRow base 51 2 v xs.length (cellsE xs)) (hv:v≠.slice none 0 0) (hp:∀ x∈xs,PlTy w x.A x.c x.e.pl):∃ g cap,v=.slice (some ⟨g,0,none⟩) xs.length cap∧base≤g∧RowE w g cap xs:=by
 rcases h.2 with ⟨h0,_⟩ | ⟨g,cap,cur,rfl,hb,hg,h4,h5,h2,h3⟩
 ·exact absurd h0 hv
 ·exact ⟨g,cap,rfl,hb,⟨cur,hg,h2,h3⟩,h4,h5,hp⟩
theorem RowE.lay (h:RowE w g cap xs) {cs:List Value} {ys:List EnL} (hs:cs.length=cap*2) (ht:cs.take (ys.length*2)=cellsE ys) (hl:ys.length≤cap) (hp:∀ y∈ys,PlTy w y.A y.c y.e.pl):RowE (w.setRow g cs.toArray) g cap ys:=by
 obtain ⟨⟨cur,h1,h2,h3⟩,h4,h5,h6⟩:=h
 exact ⟨⟨cs.toArray,setRow_heap w g cur _ _ _ h1,by simpa using hs,by simpa using ht⟩,hl,h5,fun y hy=>(hp y hy).grown h1 (grown_setRow ..)⟩
end
theorem setCells_row (g:Nat) (t:TypeId):∀ (vs:List Value) (o:Nat) (cur:Array Value) (w:World),w.heap[g]?=some (.cells cur t (0,0))→o+vs.length≤cur.size→w.setCells g o vs=w.setRow g (cur.toList.take o ++ vs ++ cur.toList.drop (o+vs.length)).toArray
 | [],o,cur,w,hg,_=>by
  simp only [World.setCells,List.append_nil,List.length_nil,Nat.add_zero,List.take_append_drop,Array.toArray_toList]
  rw [setRow_self w g cur t (0,0) hg]
 | v :: r,o,cur,w,hg,hl=>by
  simp only [List.length_cons] at hl
  rw [World.setCells,setCell_eq_setRow w g o cur t (0,0) v hg,setCells_row g t r (o+1) (cur.setIfInBounds o v) _ (setRow_heap w g cur _ t _ hg) (by simp;omega),setRow_setRow]
  have e:=list_seg_step cur.toList o v r (by simp;omega)
  congr 2
  simpa [Array.toList_setIfInBounds,Nat.add_assoc] using e
variable {P:Program}
end Go.Proofs.YtfldgghobddgkaaGreatDoor
namespace Go.Proofs.YtfldgghobddgkaaGreatDoor
open Go.ChangeShapes Go.WideShapes Go.ChangeAt Go.RowKit
set_option maxRecDepth 20000
theorem isnan_any (x:Int) (w:World):Calls Tryz.prog 118 #[.int .i64 x] w fun e w'=>e=.returned (.bool false)∧w'=w:=by
 go_enter Tryz.func118,Tryz.ntmps118
 go_wp2_with fail
 go_ret
 exact ⟨rfl,rfl⟩
def cmpI (x y:Int):Int:=if x<y then -1 else if y<x then 1 else 0
set_option maxHeartbeats 1000000 in
theorem compare_any (x y:Int) (w:World):Calls Tryz.prog 92 #[.int .i64 x,.int .i64 y] w fun e w'=>e=.returned (.int .i64 (cmpI x y))∧w'=w:=by
 have h1:=isnan_any x
 have h2:=isnan_any y
 by_cases hxy:x<y
 ·have HV:Hid (cmpI x y = -1):=by show _=_;unfold cmpI;rw [if_pos hxy]
  go_enter Tryz.func92,Tryz.ntmps92
  go_wp2_with fail
  refine (h1 _).mono ?_
  rintro e w1 ⟨rfl,rfl⟩
  go_wp2_with fail
  refine (h2 _).mono ?_
  rintro e w2 ⟨rfl,rfl⟩
  go_wp2_with fail
  go_ret
  rw [HV.out]
  exact ⟨rfl,rfl⟩
 ·by_cases hyx:y<x
  ·have HV:Hid (cmpI x y=1):=by show _=_;unfold cmpI;rw [if_neg hxy,if_pos hyx]
   go_enter Tryz.func92,Tryz.ntmps92
   go_wp2_with fail
   refine (h1 _).mono ?_
   rintro e w1 ⟨rfl,rfl⟩
   go_wp2_with fail
   refine (h2 _).mono ?_
   rintro e w2 ⟨rfl,rfl⟩
   go_wp2_with fail
   go_ret
   rw [HV.out]
   exact ⟨rfl,rfl⟩
  ·have HV:Hid (cmpI x y=0):=by show _=_;unfold cmpI;rw [if_neg hxy,if_neg hyx]
   have e:x=y:=by omega
   subst e
   go_enter Tryz.func92,Tryz.ntmps92
   go_wp2_with fail
   refine (h1 _).mono ?_
   rintro e w1 ⟨rfl,rfl⟩
   go_wp2_with fail
   refine (h2 _).mono ?_
   rintro e w2 ⟨rfl,rfl⟩
   go_wp2_with fail
   go_ret
   rw [HV.out]
   exact ⟨rfl,rfl⟩
set_option maxHeartbeats 2000000 in
theorem scompare_any (A B:Option Addr) (ca cb:Nat) (a b:List Int) (w:World) (ha:a.length≤4) (hb:b.length≤4) (hA:PlAt w A ca a) (hB:PlAt w B cb b):Calls Tryz.prog 62 #[.slice A a.length ca,.slice B b.length cb] w fun e w'=>e=.returned (.int .i64 (cmpL a b))∧w'=w:=by
 have HA:Hid (PlAt w A ca a):=hA
 have HB:Hid (PlAt w B cb b):=hB
 have HN:Hid (∀ k,k<a.length→k<b.length→cmpL (a.drop k) (b.drop k)=if a.getD k 0<b.getD k 0 then -1 else if b.getD k 0<a.getD k 0 then 1 else cmpL (a.drop (k+1)) (b.drop (k+1))):=fun k h1 h2=>cmpL_in h1 h2
 have HL:Hid (∀ k,k<a.length→b.length≤k→cmpL (a.drop k) (b.drop k)=1):=fun k h1 h2=>cmpL_long h1 h2
 have HS:Hid (∀ k,a.length≤k→k<b.length→cmpL (a.drop k) (b.drop k) = -1):=fun k h1 h2=>cmpL_short h1 h2
 have HE:Hid (∀ k,a.length≤k→b.length≤k→cmpL (a.drop k) (b.drop k)=0):=fun k h1 h2=>cmpL_end h1 h2
 obtain ⟨na,hna⟩:∃ na,a.length=na:=⟨_,rfl⟩
 obtain ⟨nb,hnb⟩:∃ nb,b.length=nb:=⟨_,rfl⟩
 have HNA:Hid (a.length=na):=hna
 have HNB:Hid (b.length=nb):=hnb
 rw [hna] at HN HL HS HE ha
 rw [hnb] at HN HL HS HE hb
 rw [hna,hnb]
 have ha':(na:Int)≤4:=by omega
 have hb':(nb:Int)≤4:=by omega
 clear hA hB hna hnb
 go_enter Tryz.func62,Tryz.ntmps62
 go_wp2_with fail
 go_loopg [11] na (fun g s11 wr => ∃ (k:Nat),k≤na∧k≤nb∧g=na-k∧s11=.int .i64 k∧Hid (cmpL (a.drop k) (b.drop k)=cmpL a b)∧wr=w)
 case atStart=>exact ⟨0,Nat.zero_le _,Nat.zero_le _,rfl,rfl,(rfl:cmpL (a.drop 0) (b.drop 0)=cmpL a b),rfl⟩
 case round =>
  obtain ⟨k,hk,hk2,rfl,rfl,HF,hw⟩:=hrel
  subst hw
  by_cases hlt:k<na
  ·obtain ⟨hc,h0 | ⟨g1,o1,rfl,hbw,hcell⟩⟩:=HA.out
   ·have:=HNA.out;rw [h0] at this;simp at this;omega
   have x1:=hcell k (by rw [HNA.out];exact hlt)
   have hki:(k:Int)<(na:Int):=by omega
   by_cases hlb:k<nb
   ·obtain ⟨hc',h0 | ⟨g2,o2,rfl,hbw2,hcell2⟩⟩:=HB.out
    ·have:=HNB.out;rw [h0] at this;simp at this;omega
    have x2:=hcell2 k (by rw [HNB.out];exact hlb)
    have hkb:(k:Int)<(nb:Int):=by omega
    have hst:=HN.out k hlt hlb
    have hcmp:=compare_any (a.getD k 0) (b.getD k 0) wr
    generalize a.getD k 0=x at x1 hst hcmp
    generalize b.getD k 0=y at x2 hst hcmp
    have HST:Hid (cmpL (a.drop k) (b.drop k)=if x<y then -1 else if y<x then 1 else cmpL (a.drop (k+1)) (b.drop (k+1))):=hst
    clear hcell hcell2 hst
    by_cases hxy:x<y
    ·have hv:cmpI x y = -1:=by unfold cmpI;rw [if_pos hxy]
     rw [hv] at hcmp
     have HR:Hid (cmpL a b = -1):=by show _=_;rw [←HF.out,HST.out,if_pos hxy]
     clear hv hxy
     go_wp2_with fail
     refine hcmp.mono ?_
     rintro e w1 ⟨rfl,rfl⟩
     go_wp2_with fail
     go_ret
     rw [HR.out]
     exact ⟨rfl,rfl⟩
    ·by_cases hyx:y<x
     ·have hv:cmpI x y=1:=by unfold cmpI;rw [if_neg hxy,if_pos hyx]
      rw [hv] at hcmp
      have HR:Hid (cmpL a b=1):=by show _=_;rw [←HF.out,HST.out,if_neg hxy,if_pos hyx]
      clear hv hxy hyx
      go_wp2_with fail
      refine hcmp.mono ?_
      rintro e w1 ⟨rfl,rfl⟩
      go_wp2_with fail
      go_ret
      rw [HR.out]
      exact ⟨rfl,rfl⟩
     ·have hv:cmpI x y=0:=by unfold cmpI;rw [if_neg hxy,if_neg hyx]
      rw [hv] at hcmp
      have HR:Hid (cmpL (a.drop (k+1)) (b.drop (k+1))=cmpL a b):=by show _=_;rw [←HF.out,HST.out,if_neg hxy,if_neg hyx]
      clear hv hxy hyx
      go_wp2_with fail
      refine hcmp.mono ?_
      rintro e w1 ⟨rfl,rfl⟩
      go_wp2_with fail
      go_roundg (na-(k+1))
      case measure=>omega
      case rel=>exact ⟨k+1,by omega,by omega,rfl,by go_num,HR,rfl⟩
   ·have HR:Hid (cmpL a b=1):=by show _=_;rw [←HF.out,HL.out k hlt (by omega)]
    have hkb:(nb:Int)≤(k:Int):=by omega
    clear hcell
    generalize a.getD k 0=x at x1
    go_wp2_with fail
    go_ret
    rw [HR.out]
    exact ⟨rfl,rfl⟩
  ·have hke:k=na:=by omega
   subst hke
   by_cases hlb:k<nb
   ·have HR:Hid (cmpL a b = -1):=by show _=_;rw [←HF.out,HS.out k (Nat.le_refl _) hlb]
    have hkb:(k:Int)<(nb:Int):=by omega
    go_wp2_with fail
    go_ret
    rw [HR.out]
    exact ⟨rfl,rfl⟩
   ·have HR:Hid (cmpL a b=0):=by show _=_;rw [←HF.out,HE.out k (Nat.le_refl _) (by omega)]
    have hkb:(nb:Int)≤(k:Int):=by omega
    go_wp2_with fail
    go_ret
    rw [HR.out]
    exact ⟨rfl,rfl⟩
theorem order_any (A B:Option Addr) (ca cb:Nat) (a b:List Int) (N:Int) (w:World) (ha:a.length≤4) (hb:b.length≤4) (hA:PlAt w A ca a) (hB:PlAt w B cb b):Calls Tryz.prog 39 #[.agg #[.slice A a.length ca,.int .i64 N],.slice B b.length cb] w fun e w'=>e=.returned (.int .i64 (cmpL a b))∧Below w.heap.size w w':=by
 have h0:∀ w',Below w.heap.size w w'→Calls Tryz.prog 62 #[.slice A a.length ca,.slice B b.length cb] w' fun e w''=>e=.returned (.int .i64 (cmpL a b))∧w''=w':=fun w' hw'=>scompare_any A B ca cb a b w' ha hb (hA.later hw') (hB.later hw')
 have H:Hid (∀ w',Below w.heap.size w w'→Calls Tryz.prog 62 #[.slice A a.length ca,.slice B b.length cb] w' fun e w''=>e=.returned (.int .i64 (cmpL a b))∧w''=w'):=h0
 generalize cmpL a b=c at H
 generalize a.length=na at H
 generalize b.length=nb at H
 clear hA hB h0 ha hb
 go_enter Tryz.func39,Tryz.ntmps39
 go_wp2_with fail
 refine (H.out _ (by go_grown)).mono ?_
 rintro e w1 ⟨rfl,rfl⟩
 go_wp2_with fail
 go_ret
 exact ⟨rfl,by go_grown⟩
end Go.Proofs.YtfldgghobddgkaaGreatDoor
namespace Go.Proofs.YtfldgghobddgkaaGreatDoor
open Go.Lib
theorem nDigits_le (u k:Nat) (hk:1≤k) (h:u<10 ^ k):(decDigits u).length≤k:=by
 induction k generalizing u with
 | zero=>omega
 | succ k ih =>
  by_cases hu:u<10
  ·rw [decDigits_one hu];simp
  ·rw [decDigits,dif_neg hu,List.length_append,List.length_singleton]
   have hk1:1≤k:=by
    rcases Nat.eq_zero_or_pos k with rfl | h0
    ·omega
    ·exact h0
   have:=ih (u / 10) hk1 (by rw [Nat.pow_succ] at h;omega)
   omega
end Go.Proofs.YtfldgghobddgkaaGreatDoor
namespace Go.Proofs.YtfldgghobddgkaaGreatDoor
open Go.ChangeShapes Go.WideShapes Go.ChangeAt Go.RowKit
set_option maxRecDepth 20000
theorem own_setc {w:World} {base e size n g j:Nat} {v x:Value} {xs:List Value} (h:w.ownsRow base e size v n xs) (hg:v.ownBlock≠some g):(w.setCell ⟨g,j,none⟩ x).ownsRow base e size v n xs:=by
 refine ⟨h.1,?_⟩
 rcases h.2 with h0 | ⟨g',cap,cur,rfl,h2,h3,h4⟩
 ·exact Or.inl h0
 ·exact Or.inr ⟨g',cap,cur,rfl,h2,by rw [setCell_off _ _ _ _ _ (fun e=>hg (by rw [←e];rfl))];exact h3,h4⟩
end Go.Proofs.YtfldgghobddgkaaGreatDoor
