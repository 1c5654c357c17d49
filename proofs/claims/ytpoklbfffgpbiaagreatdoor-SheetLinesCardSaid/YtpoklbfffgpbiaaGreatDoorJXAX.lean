/-
  What was written, on plain data: places in order, entries that rise, what stands at a place, with a number there, without; that what is written is there, and all else as it was.
-/
import Derived.Shelf.Pu.Clone
import Derived.Lib.SliceRun
import Derived.WalkSpells
import Derived.WalkLawsBesides
import Derived.Lib.SplitLaws
import Derived.Lib.IndexLaws
import Derived.Test.YtpoklbfffgpbiaaGreatDoorJXAO
namespace Go.Proofs.YtpoklbfffgpbiaaGreatDoor
def lessL:List Int→List Int→Bool
 | [],[]=>false
 | [],_ :: _=>true
 | _ :: _,[]=>false
 | a :: r,b :: t=>if a=b then lessL r t else decide (a<b)
theorem lessL_trans:∀ (a b c:List Int),lessL a b=true→lessL b c=true→lessL a c=true
 | [],[],_,h,_=>by simp [lessL] at h
 | [],_ :: _,[],_,h=>by simp [lessL] at h
 | [],_ :: _,_ :: _,_,_=>rfl
 | _ :: _,[],_,h,_=>by simp [lessL] at h
 | _ :: _,_ :: _,[],_,h=>by simp [lessL] at h
 | x :: r,y :: t,z :: u,h1,h2=>by
  simp only [lessL] at h1 h2 ⊢
  by_cases e1:x=y
  ·by_cases e2:y=z
   ·rw [if_pos e1] at h1
    rw [if_pos e2] at h2
    rw [if_pos (e1.trans e2)]
    exact lessL_trans r t u h1 h2
   ·rw [if_neg e2] at h2
    rw [if_neg (by rw [e1];exact e2),e1]
    exact h2
  ·rw [if_neg e1] at h1
   have h3:=of_decide_eq_true h1
   by_cases e2:y=z
   ·rw [if_neg (by rw [←e2];exact e1),←e2]
    exact h1
   ·rw [if_neg e2] at h2
    have h4:=of_decide_eq_true h2
    rw [if_neg (by omega)]
    exact decide_eq_true (by omega)
theorem lessL_part:∀ (a b:List Int),a.length=b.length→lessL a b=true→∃ j,j<a.length∧(∀ i,i<j→a.getD i 0=b.getD i 0)∧a.getD j 0<b.getD j 0
 | [],[],_,h=>by simp [lessL] at h
 | [],_ :: _,h,_=>by simp at h
 | _ :: _,[],h,_=>by simp at h
 | x :: r,y :: t,hl,h=>by
  simp only [lessL] at h
  by_cases e:x=y
  ·rw [if_pos e] at h
   obtain ⟨j,h1,h2,h3⟩:=lessL_part r t (by simpa using hl) h
   refine ⟨j+1,by simpa using h1,fun i hi=>?_,by simpa using h3⟩
   cases i with
   | zero=>simpa using e
   | succ i=>simpa using h2 i (by omega)
  ·rw [if_neg e] at h
   exact ⟨0,by simp,fun i hi=>by omega,by simpa using of_decide_eq_true h⟩
theorem less_num {D:Nat→Dm} {n:Nat} {a b:List Int} (ha:InO D n a) (hb:InO D n b) (h:lessL a b=true):numI D a n<numI D b n:=by
 obtain ⟨j,hj,he,hlt⟩:=lessL_part a b (by rw [ha.len,hb.len]) h
 rw [ha.len] at hj
 have h1:∀ k,k≤j→numI D a k=numI D b k:=by
  intro k
  induction k with
  | zero=>intro _;rfl
  | succ k ih=>intro hk;rw [numI,numI,ih (by omega),he k (by omega)]
 have h2:∀ k,j<k→k≤n→numI D a k+1≤numI D b k:=by
  intro k
  induction k with
  | zero=>intro h;omega
  | succ k ih =>
   intro hjk hk
   rw [numI,numI]
   have a2:=ha.hi k (by omega)
   have b1:=hb.lo k (by omega)
   by_cases e:k=j
   ·rw [h1 k (by omega),e];omega
   ·have h3:=ih (by omega) (by omega)
    have h4:(numI D a k+1)*((D k).n:Int)≤numI D b k*((D k).n:Int):=Int.mul_le_mul_of_nonneg_right h3 (by omega)
    rw [Int.add_mul,Int.one_mul] at h4
    omega
 exact h2 n hj (Nat.le_refl _)
structure En where
 pl:List Int
 n:Int
def numOk (x:Int):Bool:=decide (-1000000≤x) && decide (x≤1000000)
def entOne (D:Nat→Dm) (n:Nat) (e:En):Int:=if shapeErr D n e.pl≠0 then shapeErr D n e.pl else if leafV D n e.pl=false then 6 else if numOk e.n=false then 1 else 0
def aheadOk:Option (List Int)→List Int→Bool
 | none,_=>true
 | some a,b=>lessL a b
def entFrom (D:Nat→Dm) (n:Nat):Option (List Int)→List En→Int
 | _,[]=>0
 | q,e :: r=>if entOne D n e≠0 then entOne D n e else if aheadOk q e.pl=true then entFrom D n (some e.pl) r else 7
def entsErr (D:Nat→Dm) (n:Nat) (l:List En):Int:=if (allErr D n).2.2≠0 then (allErr D n).2.2 else entFrom D n none l
structure Ens (D:Nat→Dm) (n:Nat) (l:List En):Prop where
 right:(allErr D n).2.2=0
 each:∀ e∈l,InO D n e.pl∧leafV D n e.pl=true∧numOk e.n=true
 rise:l.Pairwise fun a b=>lessL a.pl b.pl=true
theorem entOne_right {D:Nat→Dm} {n:Nat} {e:En} (hR:(allErr D n).2.2=0) (h:entOne D n e=0):InO D n e.pl∧leafV D n e.pl=true∧numOk e.n=true:=by
 unfold entOne at h
 split at h
 ·rename_i h1;exact absurd h h1
 ·split at h
  ·cases h
  ·split at h
   ·cases h
   ·rename_i h1 h2 h3
    exact ⟨inO_of (by rw [pe1 hR];simpa using h1),by simpa using h2,by simpa using h3⟩
theorem entOne_ok {D:Nat→Dm} {n:Nat} {e:En} (h:InO D n e.pl∧leafV D n e.pl=true∧numOk e.n=true):entOne D n e=0:=by
 have h1:shapeErr D n e.pl=0:=by rw [←pe1 h.1.right];exact h.1.ok
 unfold entOne
 rw [if_neg (by simpa using h1),if_neg (by simp [h.2.1]),if_neg (by simp [h.2.2])]
theorem entFrom_right {D:Nat→Dm} {n:Nat} (hR:(allErr D n).2.2=0):∀ (l:List En) (q:Option (List Int)),entFrom D n q l=0→(∀ e∈l,InO D n e.pl∧leafV D n e.pl=true∧numOk e.n=true)∧(∀ a,q=some a→∀ e∈l,lessL a e.pl=true)∧l.Pairwise fun a b=>lessL a.pl b.pl=true
 | [],_,_=>⟨fun _ h=>(by cases h),fun _ _ _ h=>(by cases h),List.Pairwise.nil⟩
 | e :: r,q,h=>by
  rw [entFrom] at h
  by_cases h1:entOne D n e=0
  ·rw [if_neg (by simpa using h1)] at h
   have go:∀ (h2:entFrom D n (some e.pl) r=0) (h3:∀ a,q=some a→lessL a e.pl=true),(∀ x∈e :: r,InO D n x.pl∧leafV D n x.pl=true∧numOk x.n=true)∧(∀ a,q=some a→∀ x∈e :: r,lessL a x.pl=true)∧(e :: r).Pairwise fun a b=>lessL a.pl b.pl=true:=fun h2 h3=>by
    obtain ⟨g1,g2,g3⟩:=entFrom_right hR r _ h2
    refine ⟨fun x hx=>?_,fun a ha x hx=>?_,List.Pairwise.cons (fun x hx=>g2 _ rfl x hx) g3⟩
    ·rcases List.mem_cons.1 hx with rfl | hx
     ·exact entOne_right hR h1
     ·exact g1 x hx
    ·rcases List.mem_cons.1 hx with rfl | hx
     ·exact h3 a ha
     ·exact lessL_trans _ _ _ (h3 a ha) (g2 _ rfl x hx)
   split at h
   ·rename_i h4
    exact go h fun b hb=>by rw [hb] at h4;exact h4
   ·cases h
  ·rw [if_pos (by simpa using h1)] at h
   exact absurd h h1
theorem ens_of {D:Nat→Dm} {n:Nat} {l:List En} (h:entsErr D n l=0):Ens D n l:=by
 unfold entsErr at h
 split at h
 ·rename_i h1;exact absurd h h1
 ·rename_i h1
  have hR:(allErr D n).2.2=0:=by simpa using h1
  obtain ⟨g1,_,g3⟩:=entFrom_right hR l none h
  exact ⟨hR,g1,g3⟩
theorem entFrom_ok {D:Nat→Dm} {n:Nat}:∀ (l:List En) (q:Option (List Int)),(∀ e∈l,InO D n e.pl∧leafV D n e.pl=true∧numOk e.n=true)→(∀ a,q=some a→∀ e∈l,lessL a e.pl=true)→(l.Pairwise fun a b=>lessL a.pl b.pl=true)→entFrom D n q l=0
 | [],_,_,_,_=>rfl
 | e :: r,q,h1,h2,h3=>by
  obtain ⟨h4,h5⟩:=List.pairwise_cons.1 h3
  have h6:=entFrom_ok r (some e.pl) (fun x hx=>h1 x (List.mem_cons_of_mem _ hx)) (fun a ha x hx=>by cases ha;exact h4 x hx) h5
  rw [entFrom,if_neg (by simpa using entOne_ok (h1 e (List.mem_cons_self ..)))]
  rw [if_pos]
  ·exact h6
  ·cases q with
   | none=>rfl
   | some a=>exact h2 a rfl e (List.mem_cons_self ..)
theorem Ens.ok {D:Nat→Dm} {n:Nat} {l:List En} (h:Ens D n l):entsErr D n l=0:=by
 unfold entsErr
 rw [if_neg (by simpa using h.right)]
 exact entFrom_ok l none h.each (fun a ha=>by cases ha) h.rise
theorem Ens.few {D:Nat→Dm} {n:Nat} {l:List En} (h:Ens D n l):l.length≤3000:=by
 have hp:=(allErr_some h.right).2.2.1
 have key:∀ (m:List En) (lo:Int),(∀ e∈m,InO D n e.pl)→(m.Pairwise fun a b=>lessL a.pl b.pl=true)→(∀ e∈m,lo≤numI D e.pl n)→0≤lo→lo≤(prodN D n:Int)→lo+(m.length:Int)≤(prodN D n:Int):=by
  intro m
  induction m with
  | nil=>intro lo _ _ _ _ h5;simpa using h5
  | cons e r ih =>
   intro lo h1 h2 h3 h4 h5
   obtain ⟨h6,h7⟩:=List.pairwise_cons.1 h2
   have he:=h1 e (List.mem_cons_self ..)
   have h8:=h3 e (List.mem_cons_self ..)
   have h9:=(numI_bound he (Nat.le_refl n)).2.1
   have:=ih (numI D e.pl n+1) (fun x hx=>h1 x (List.mem_cons_of_mem _ hx)) h7 (fun x hx=>by have:=less_num he (h1 x (List.mem_cons_of_mem _ hx)) (h6 x hx);omega) (by omega) (by omega)
   rw [List.length_cons]
   omega
 have:=key l 0 (fun e he=>(h.each e he).1) h.rise (fun e he=>(numI_bound (h.each e he).1 (Nat.le_refl n)).1) (Int.le_refl _) (by omega)
 omega
end Go.Proofs.YtpoklbfffgpbiaaGreatDoor
namespace Go.Proofs.YtpoklbfffgpbiaaGreatDoor
open Go Go.ChangeShapes Go.WideShapes Go.ChangeAt Go.RowKit Go.Deep
set_option maxRecDepth 100000
structure EnL where
 e:En
 A:Option Addr
 c:Nat
def noEn:En:=⟨[],0⟩
def noL:EnL:=⟨noEn,none,0⟩
def lE (xs:List EnL):List En:=xs.map EnL.e
theorem lE_len (xs:List EnL):(lE xs).length=xs.length:=by simp [lE]
theorem lE_at (xs:List EnL) (k:Nat):(lE xs).getD k noEn=(xs.getD k noL).e:=by
 rw [List.getD_eq_getElem?_getD,List.getD_eq_getElem?_getD,lE,List.getElem?_map]
 cases xs[k]? <;> rfl
def cellsE:List EnL→List Value
 | []=>[]
 | x :: r=>.slice x.A x.e.pl.length x.c :: .int .i64 x.e.n :: cellsE r
theorem cellsE_len (xs:List EnL):(cellsE xs).length=xs.length*2:=by
 induction xs with
 | nil=>rfl
 | cons x r ih=>simp [cellsE,ih];omega
theorem cellsE_at (xs:List EnL):∀ k,k<xs.length→(cellsE xs)[k*2]?=some (.slice (xs.getD k noL).A (xs.getD k noL).e.pl.length (xs.getD k noL).c)∧(cellsE xs)[k*2+1]?=some (.int .i64 (xs.getD k noL).e.n):=by
 induction xs with
 | nil=>intro k hk;cases hk
 | cons x r ih =>
  intro k hk
  cases k with
  | zero=>simp [cellsE]
  | succ k =>
   rw [show (k+1)*2=k*2+1+1 by omega]
   simp only [cellsE,List.getElem?_cons_succ,List.getD_cons_succ]
   exact ih k (by simpa using hk)
theorem enl_mem {xs:List EnL} {k:Nat} (h:k<xs.length):xs.getD k noL∈xs:=by
 rw [List.getD_eq_getElem?_getD,List.getElem?_eq_getElem h]
 exact List.getElem_mem h
def EnsAt (w:World) (b o:Nat) (xs:List EnL):Prop:=b<w.heap.size∧(∀ j u,(cellsE xs)[j]?=some u→w.cell? ⟨b,o+j,none⟩=some u)∧∀ x∈xs,PlAt w x.A x.c x.e.pl
theorem EnsAt.later {w w':World} {b o:Nat} {xs:List EnL} (h:EnsAt w b o xs) (hB:Below w.heap.size w w'):EnsAt w' b o xs :=
 ⟨Nat.lt_of_lt_of_le h.1 hB.size,fun j u hj=>(hB.cell (p:=⟨b,o+j,none⟩) h.1).trans (h.2.1 j u hj),fun x hx=>(h.2.2 x hx).later hB⟩
theorem EnsAt.pl {w:World} {b o:Nat} {xs:List EnL} (h:EnsAt w b o xs) {k:Nat} (hk:k<xs.length):PlAt w (xs.getD k noL).A (xs.getD k noL).c (xs.getD k noL).e.pl:=h.2.2 _ (enl_mem hk)
theorem EnsAt.at {w:World} {b o:Nat} {xs:List EnL} (h:EnsAt w b o xs) {k:Nat} (hk:k<xs.length):w.cell? ⟨b,o+k*2,none⟩=some (.slice (xs.getD k noL).A (xs.getD k noL).e.pl.length (xs.getD k noL).c)∧w.cell? ⟨b,o+k*2+1,none⟩=some (.int .i64 (xs.getD k noL).e.n):=by
 obtain ⟨h1,h2⟩:=cellsE_at xs k hk
 exact ⟨h.2.1 _ _ h1,by rw [Nat.add_assoc];exact h.2.1 _ _ h2⟩
def EnsV (w:World) (A:Option Addr) (cap:Nat) (xs:List EnL):Prop:=xs.length≤cap∧cap≤9223372036854775807∧(xs=[]∨∃ b o,A=some ⟨b,o,none⟩∧EnsAt w b o xs)
theorem EnsV.later {w w':World} {A:Option Addr} {cap:Nat} {xs:List EnL} (h:EnsV w A cap xs) (hB:Below w.heap.size w w'):EnsV w' A cap xs:=by
 obtain ⟨h1,h0,h2 | ⟨b,o,h2,h3⟩⟩:=h
 ·exact ⟨h1,h0,Or.inl h2⟩
 ·exact ⟨h1,h0,Or.inr ⟨b,o,h2,h3.later hB⟩⟩
theorem EnsV.nil (w:World) (A:Option Addr) (cap:Nat) (h:cap≤9223372036854775807):EnsV w A cap []:=⟨Nat.zero_le _,h,Or.inl rfl⟩
section
variable {H:Type} {enc:TypeId×Value→H} {w:World} {held:Bool}
theorem cellsEn:Tryz.prog.cellsOf 36=2:=by kernel_rfl
theorem open_pl {fuel:Nat} {cs:List Value} {x:DataW H×List MemPlace} (h:DataW.trod enc Tryz.prog w 0 (fun _=>true) held fuel 34 cs=some x) :
  ∃ (Ap:Option Addr) (cp:Nat) (L:List Int),cs=[.slice Ap L.length cp]∧PlAt w Ap cp L:=by
 rcases open_ints Tryz.underlying34 Tryz.underlying3 (by kernel_rfl) h with ⟨rfl,_⟩ | ⟨a',len,cap,zs,rfl,_,hl,_,hzl,_,hc,_⟩
 ·exact ⟨none,0,[],rfl,PlAt.nil _ _ _⟩
 ·simp at hzl
  have hlen:(zs.take len).length=len:=by simp;omega
  refine ⟨some a',cap,zs.take len,by rw [hlen],by rw [hlen];exact hl,?_⟩
  rcases Nat.eq_zero_or_pos len with h0 | h0
  ·left
   subst h0
   simp
  right
  have c0:=hc 0 (by omega)
  have hp:=addr_plain c0 rfl
  have hb:=World.block_lt_of_cell? _ _ c0
  refine ⟨a'.block,a'.off,by rw [←hp],by simpa [Addr.add] using hb,fun j hj=>?_⟩
  rw [hlen] at hj
  have:=hc j (by omega)
  rw [hp,plain_add] at this
  rw [this]
  simp [List.getD,hj]
theorem open_en {fuel:Nat} {cs:List Value} {x:DataW H×List MemPlace} (h:DataW.trod enc Tryz.prog w 0 (fun _=>true) held fuel 36 cs=some x) :
  ∃ (e:En) (A:Option Addr) (c:Nat),cs=[.slice A e.pl.length c,.int .i64 e.n]∧PlAt w A c e.pl:=by
 obtain ⟨hl,n,hf⟩:=trod_one Tryz.underlying36 (by kernel_rfl) h
 rw [cellsEn] at hl
 match cs,hl with
 | [v0,v1],_ =>
  obtain ⟨y0,h0⟩:=hf 0 _ v0 rfl rfl
  obtain ⟨y1,h1⟩:=hf 1 _ v1 rfl rfl
  obtain ⟨A,c,L,e0,hP⟩:=open_pl h0
  obtain ⟨n1,e1,-,-⟩:=DataW.trod_int Tryz.underlying3 h1
  simp at e0 e1
  exact ⟨⟨L,n1⟩,A,c,by rw [e0,e1],hP⟩
theorem cells_of_each {b o:Nat} {xs:List EnL} (h:∀ i,i<xs.length→w.cell? ⟨b,o+i*2,none⟩=some (.slice (xs.getD i noL).A (xs.getD i noL).e.pl.length (xs.getD i noL).c)∧w.cell? ⟨b,o+i*2+1,none⟩=some (.int .i64 (xs.getD i noL).e.n)):∀ j u,(cellsE xs)[j]?=some u→w.cell? ⟨b,o+j,none⟩=some u:=by
 intro j u hj
 have hlt:j<(cellsE xs).length:=(List.getElem?_eq_some_iff.1 hj).1
 rw [cellsE_len] at hlt
 have hk:j / 2<xs.length:=by omega
 obtain ⟨h1,h2⟩:=cellsE_at xs _ hk
 obtain ⟨c1,c2⟩:=h _ hk
 rcases Nat.mod_two_eq_zero_or_one j with hm | hm
 ·have e:j=j / 2*2:=by omega
  rw [e] at hj ⊢
  rw [h1] at hj
  rw [c1]
  exact hj
 ·have e:j=j / 2*2+1:=by omega
  rw [e] at hj ⊢
  rw [h2] at hj
  rw [←Nat.add_assoc,c2]
  exact hj
theorem open_ens {r:Reach} {b0:Nat} {v:Value} {d:DataW H} {p:List MemPlace} (hv:Value.okWide Tryz.prog w r b0 25 v) (h:DataW.Trod enc Tryz.prog w 0 (fun _=>true) held 25 v d p) :
  ∃ (A:Option Addr) (cap:Nat) (xs:List EnL),v=.slice A xs.length cap∧EnsV w A cap xs:=by
 obtain ⟨a0,len0,cap0,rfl⟩:=okWide_slice Tryz.underlying25 hv
 obtain ⟨fuel,hf⟩:=h
 have hf':DataW.trod enc Tryz.prog w 0 (fun _=>true) held fuel 25 [.slice a0 len0 cap0]=some (d,p):=hf
 rcases open_slice Tryz.underlying25 hf' with ⟨e,-⟩ | ⟨a,len,cap,m,n,D,Pl,e,-,hl,hcm,hm,-,hx⟩
 ·simp at e
  obtain ⟨rfl,rfl,rfl⟩:=e
  exact ⟨none,0,[],rfl,Nat.le_refl _,Nat.zero_le _,Or.inl rfl⟩
 simp at e
 obtain ⟨rfl,rfl,rfl⟩:=e
 rw [cellsEn] at hx
 simp at hm
 subst hm
 haveI:Inhabited EnL:=⟨noL⟩
 have each:∀ i,i<len0→∃ y:EnL,w.cells? 0 (a.add (i*2)) 2=some [.slice y.A y.e.pl.length y.c,.int .i64 y.e.n]∧PlAt w y.A y.c y.e.pl:=fun i hi=>by
  obtain ⟨cs',h1,h2⟩:=hx i (by omega)
  obtain ⟨e,A,c,rfl,hp⟩:=open_en h2
  exact ⟨⟨e,A,c⟩,h1,hp⟩
 obtain ⟨Y,hY⟩:=choose_lt each
 have hlen:((List.range len0).map Y).length=len0:=by simp
 have hg:∀ i,i<len0→((List.range len0).map Y).getD i noL=Y i:=fun i hi=>by simp [List.getD,hi]
 refine ⟨some a,_,(List.range len0).map Y,by rw [hlen],by rw [hlen];exact hl,hcm,?_⟩
 rcases Nat.eq_zero_or_pos len0 with h0 | h0
 ·left;subst h0;rfl
 right
 have c0:=(World.cells?_some (hY 0 h0).1).2.2 0 (by omega)
 rw [add_add] at c0
 have hp:=addr_plain c0 (by omega)
 have hb:=World.block_lt_of_cell? _ _ c0
 refine ⟨a.block,a.off,by rw [←hp],by simpa [Addr.add] using hb,cells_of_each fun i hi=>?_,fun x hx=>?_⟩
 ·rw [hlen] at hi
  have hc:=(World.cells?_some (hY i hi).1).2.2
  rw [hp] at hc
  simp only [plain_add,Nat.add_assoc] at hc
  rw [hg i hi]
  refine ⟨?_,?_⟩
  ·have:=hc 0 (by omega);simpa using this
  ·have:=hc 1 (by omega);simpa [Nat.add_assoc] using this
 ·simp only [List.mem_map,List.mem_range] at hx
  obtain ⟨i,hi,rfl⟩:=hx
  exact (hY i hi).2
end
end Go.Proofs.YtpoklbfffgpbiaaGreatDoor
namespace Go.Proofs
open Go.Shelf
def Tryz.laysK_ren:Go.Shelf.Ren:=⟨fun | 25=>88 | n=>n,fun | 0=>0 | 3=>3 | 4=>4 | 5=>5 | 9=>9 | 37=>56 | 47=>81 | n=>n,fun | n=>n⟩
theorem Tryz.laysK:Go.Proofs.LaysPu.n25 Tryz.prog Tryz.laysK_ren:={
 mixed:=by kernel_rfl
 f25:=Tryz.func88.trans (congrArg some (by kernel_rfl))
 t0:=Tryz.underlying0
 a0:=Tryz.isAgg0
 z0:=Tryz.sizeOf0
 v0:=Tryz.zeroValue0
 i0:=by kernel_rfl
 t3:=Tryz.underlying3
 a3:=Tryz.isAgg3
 z3:=Tryz.sizeOf3
 v3:=Tryz.zeroValue3
 i3:=by kernel_rfl
 t4:=Tryz.underlying4
 a4:=Tryz.isAgg4
 z4:=Tryz.sizeOf4
 v4:=Tryz.zeroValue4
 i4:=by kernel_rfl
 t5:=Tryz.underlying5
 a5:=Tryz.isAgg5
 z5:=Tryz.sizeOf5
 v5:=Tryz.zeroValue5
 i5:=by kernel_rfl
 t9:=Tryz.underlying9
 a9:=Tryz.isAgg9
 z9:=Tryz.sizeOf9
 v9:=Tryz.zeroValue9
 i9:=by kernel_rfl
 t37:=Tryz.underlying56
 a37:=Tryz.isAgg56
 z37:=Tryz.sizeOf56
 v37:=Tryz.zeroValue56
 i37:=by kernel_rfl
 t47:=Tryz.underlying81
 a47:=Tryz.isAgg81
 z47:=Tryz.sizeOf81
 v47:=Tryz.zeroValue81
 i47:=by kernel_rfl }
namespace YtpoklbfffgpbiaaGreatDoor
open Go.ChangeShapes Go.WideShapes Go.ChangeAt Go.RowKit
theorem sclone_any (s:ByteArray) (w:World) (hs:s.size≤281474976710656):Calls Tryz.prog 58 #[.string s] w fun e w'=>e=.returned (.string s)∧Below w.heap.size w w':=by
 have h:=AnyPu.stringslite_Clone Tryz.laysK s w hs
 go_enter Tryz.func58,Tryz.ntmps58
 go_wp2_with fail
 refine Calls.mono h ?_
 rintro e w1 ⟨rfl,hb1⟩
 go_wp2_with fail
 go_ret
 exact ⟨rfl,hb1⟩
end YtpoklbfffgpbiaaGreatDoor
end Go.Proofs
namespace Go.Proofs.YtpoklbfffgpbiaaGreatDoor
open Go.ChangeShapes Go.WideShapes Go.ChangeAt Go.RowKit
set_option maxRecDepth 20000
set_option maxHeartbeats 2000000 in
theorem iclone_pl (A:Option Addr) (c:Nat) (L:List Int) (w:World) (hL:L.length≤1048576) (hP:PlAt w A c L):Calls Tryz.prog 102 #[.slice A L.length c] w fun e w'=>(∃ v,e=.returned v∧w'.ownsRow w.heap.size 3 1 v L.length (mapI L))∧Below w.heap.size w w':=by
 have hq:∀ (w:World) (a:Option Addr) (n c n' c':Nat),(binOp .eql 33 (.slice a n c) (.slice none n' c')).run Tryz.prog w=.ok (.bool a.isNone) w:=fun w a n c n' c'=>Lib.run_eql_slice_nil w _ _ a n c n' c' Tryz.underlying33
 cases A with
 | none =>
  obtain ⟨-,h0 | ⟨b,o,h0,-⟩⟩:=hP
  ·subst h0
   simp only [List.length_nil]
   go_enter Tryz.func102,Tryz.ntmps102
   go_wp2_with fail
   go_ret
   exact ⟨⟨_,rfl,World.ownsRow_nil _ _ _ _⟩,Below.refl _ _⟩
  ·cases h0
 | some a =>
  obtain ⟨i0,hi0,hz0,hz1,hz2⟩:=info_parts Tryz.infoInt
  have HC:Hid (∀ j u,(mapI L)[j]?=some u→w.cell? (a.add j)=some u):=by
   intro j u hj
   obtain ⟨-,h0 | ⟨b,o,h0,-,hcell⟩⟩:=hP
   ·subst h0;simp [mapI] at hj
   ·cases h0
    have hlt:j<L.length:=by have:=(List.getElem?_eq_some_iff.1 hj).1;simpa [mapI] using this
    rw [plain_add,hcell j hlt]
    simp only [mapI,List.getElem?_map,List.getElem?_eq_getElem hlt,Option.map_some,Option.some.injEq] at hj
    rw [←hj,List.getD_eq_getElem?_getD,List.getElem?_eq_getElem hlt]
    rfl
  have hl:(mapI L).length=L.length*1:=by simp [mapI]
  have h1:∀ u∈mapI L,u.oneCell'=true:=by intro u hu;simp [mapI] at hu;obtain ⟨x,-,rfl⟩:=hu;rfl
  clear hP
  go_enter Tryz.func102,Tryz.ntmps102
  go_wp2_with (at_builtin;refine wpList_append_own _ rfl _ _ 33 rfl w.heap.size 3 i0 (.int .i64 0) 1 8 Tryz.underlying33 hi0 hz0 hz1 hz2 rfl (by decide) _ _ _ rfl (World.ownsRow_made w #[] 0 (Nat.le_refl _) (Nat.zero_le _) (by simp)) a L.length c (mapI L) rfl ?qc1 ?qc2 ?qc3 ?qc4 ?qc5 ?qc6 ?_)
  case qc1=>exact hl
  case qc2=>exact fun j u hj=>Lib.cell?_alloc_some _ (HC.out j u hj)
  case qc3=>exact h1
  case qc4=>simp only [maxLen];omega
  case qc5=>omega
  case qc6=>simp
  intro v' w1 hown hgrow hnil
  have HO:Hid (w1.ownsRow w.heap.size 3 1 v' L.length (mapI L)):=hown
  have HB:Hid (Below w.heap.size w w1):=((Below.refl _ w).alloc (Nat.le_refl _) _).grown hgrow (by simp) (by intro k hk;simp [Value.ownBlock] at hk;omega)
  clear hown hgrow hnil
  go_wp2_with fail
  go_ret
  exact ⟨⟨_,rfl,HO.out⟩,HB.out⟩
def IntT (w:World) (A:Option Addr) (c:Nat) (L:List Int):Prop:=L.length≤c∧c≤9223372036854775807∧(L=[]∨∃ b cs fr,A=some ⟨b,0,none⟩∧w.heap[b]?=some (.cells cs 3 fr)∧∀ j,j<L.length→w.cell? ⟨b,j,none⟩=some (.int .i64 (L.getD j 0)))
theorem IntT.at {w:World} {A:Option Addr} {c:Nat} {L:List Int} (h:IntT w A c L):IntsAt w A c L:=by
 obtain ⟨h1,-,h2 | ⟨b,cs,fr,h2,h3,h4⟩⟩:=h
 ·exact ⟨h1,Or.inl h2⟩
 ·exact ⟨h1,Or.inr ⟨b,h2,(Array.getElem?_eq_some_iff.1 h3).1,h4⟩⟩
theorem IntT.nil (w:World) (A:Option Addr) (c:Nat) (h:c≤9223372036854775807):IntT w A c []:=⟨Nat.zero_le _,h,Or.inl rfl⟩
theorem IntT.keep {w w':World} {A:Option Addr} {c:Nat} {L:List Int} (h:IntT w A c L) (hB:∀ (b:Nat) (cs:Array Value) (fr:Nat×Nat),w.heap[b]?=some (Obj.cells cs 3 fr)→w'.heap[b]?=w.heap[b]?):IntT w' A c L:=by
 obtain ⟨h1,h0,h2 | ⟨b,cs,fr,h2,h3,h4⟩⟩:=h
 ·exact ⟨h1,h0,Or.inl h2⟩
 ·have hb:=hB b cs fr h3
  exact ⟨h1,h0,Or.inr ⟨b,cs,fr,h2,hb.trans h3,fun j hj=>(World.cell?_of_block (a:=⟨b,j,none⟩) hb).trans (h4 j hj)⟩⟩
theorem IntT.later {w w':World} {A:Option Addr} {c:Nat} {L:List Int} (h:IntT w A c L) (hB:Below w.heap.size w w'):IntT w' A c L :=
 h.keep fun b _ _ hb=>hB.block b (Array.getElem?_eq_some_iff.1 hb).1
theorem intT_own {w:World} {base:Nat} {v:Value} {L:List Int} (h:w.ownsRow base 3 1 v L.length (mapI L)):∃ A c,v=.slice A L.length c∧IntT w A c L:=by
 rcases h.2 with ⟨rfl,h0⟩ | ⟨g,cap,cur,rfl,hb,hg,hc,hm,_,_⟩
 ·have:L=[]:=List.eq_nil_of_length_eq_zero h0
  subst this
  exact ⟨none,0,rfl,IntT.nil _ _ _ (by omega)⟩
 ·refine ⟨_,cap,rfl,hc,by unfold maxLen at hm;omega,Or.inr ⟨g,cur,_,rfl,hg,fun j hj=>?_⟩⟩
  have hx:=h.cells (g:=g) rfl j (.int .i64 (L.getD j 0)) (by simp [mapI,List.getD,List.getElem?_eq_getElem hj])
  have hadd:(⟨g,0,none⟩:Addr).add j=⟨g,j,none⟩:=by unfold Addr.add;split <;> simp_all
  rw [hadd] at hx
  exact hx
theorem row_ne_int:(3:Nat)≠33:=by decide
theorem IntT.row {w w':World} {base:Nat} {v:Value} {n:Nat} {zs:List Value} {A:Option Addr} {c:Nat} {L:List Int} (h:IntT w A c L) (hown:w.ownsRow base 33 1 v n zs) (hG:w.grownBy w' v.ownBlock):IntT w' A c L:=by
 refine h.keep fun b cs fr hb=>hG.block b (Array.getElem?_eq_some_iff.1 hb).1 fun e=>?_
 rcases hown.2 with ⟨rfl,-⟩ | ⟨g,cap,cur,rfl,-,hg,-⟩
 ·cases e
 ·simp only [Value.ownBlock,Option.some.injEq] at e
  rw [e,hg] at hb
  simp only [Option.some.injEq,Obj.cells.injEq] at hb
  exact row_ne_int hb.2.1.symm
structure RL where
 p:List Int
 A:Option Addr
 c:Nat
def noR:RL:=⟨[],none,0⟩
def lR (xs:List RL):List (List Int):=xs.map RL.p
theorem lR_len (xs:List RL):(lR xs).length=xs.length:=by simp [lR]
theorem lR_append (a b:List RL):lR (a ++ b)=lR a ++ lR b:=by simp [lR]
def cellsR (xs:List RL):List Value:=xs.map fun x=>.slice x.A x.p.length x.c
theorem cellsR_append (a b:List RL):cellsR (a ++ b)=cellsR a ++ cellsR b:=by simp [cellsR]
theorem rl_mem {xs:List RL} {k:Nat} (h:k<xs.length):xs.getD k noR∈xs:=by
 rw [List.getD_eq_getElem?_getD,List.getElem?_eq_getElem h]
 exact List.getElem_mem h
theorem lR_at (xs:List RL) (k:Nat):(lR xs).getD k []=(xs.getD k noR).p:=by
 rw [List.getD_eq_getElem?_getD,List.getD_eq_getElem?_getD,lR,List.getElem?_map]
 cases xs[k]? <;> rfl
theorem cellsR_at {xs:List RL} {k:Nat} (h:k<xs.length):(cellsR xs)[k]?=some (.slice (xs.getD k noR).A (xs.getD k noR).p.length (xs.getD k noR).c):=by
 simp [cellsR,List.getD,h]
def RowsV (w:World) (A:Option Addr) (cap:Nat) (xs:List RL):Prop:=xs.length≤cap∧(xs=[]∨∃ b,A=some ⟨b,0,none⟩∧b<w.heap.size∧∀ k,k<xs.length→w.cell? ⟨b,k,none⟩=some (.slice (xs.getD k noR).A (xs.getD k noR).p.length (xs.getD k noR).c))∧∀ x∈xs,IntT w x.A x.c x.p
theorem RowsV.later {w w':World} {A:Option Addr} {cap:Nat} {xs:List RL} (h:RowsV w A cap xs) (hB:Below w.heap.size w w'):RowsV w' A cap xs:=by
 obtain ⟨h1,h2,h3⟩:=h
 refine ⟨h1,?_,fun x hx=>(h3 x hx).later hB⟩
 rcases h2 with h2 | ⟨b,h2,h4,h5⟩
 ·exact Or.inl h2
 ·exact Or.inr ⟨b,h2,Nat.lt_of_lt_of_le h4 hB.size,fun k hk=>(hB.cell (p:=⟨b,k,none⟩) h4).trans (h5 k hk)⟩
theorem RowsV.nil (w:World) (A:Option Addr) (cap:Nat):RowsV w A cap []:=⟨Nat.zero_le _,Or.inl rfl,fun x hx=>by cases hx⟩
theorem rows_own {w:World} {base:Nat} {v:Value} {xs:List RL} (h:w.ownsRow base 33 1 v xs.length (cellsR xs)) (hp:∀ x∈xs,IntT w x.A x.c x.p):∃ A c,v=.slice A xs.length c∧RowsV w A c xs:=by
 rcases h.2 with ⟨rfl,h0⟩ | ⟨g,cap,cur,rfl,hb,hg,hc,_,_,_⟩
 ·have:xs=[]:=List.eq_nil_of_length_eq_zero h0
  subst this
  exact ⟨none,0,rfl,RowsV.nil _ _ _⟩
 ·refine ⟨_,cap,rfl,hc,Or.inr ⟨g,rfl,(Array.getElem?_eq_some_iff.1 hg).1,fun k hk=>?_⟩,hp⟩
  have y:=h.cells (g:=g) rfl k _ (cellsR_at hk)
  have hadd:(⟨g,0,none⟩:Addr).add k=⟨g,k,none⟩:=by unfold Addr.add;split <;> simp_all
  rw [hadd] at y
  exact y
theorem Tryz.infoRow:(Tryz.prog.info? 33).map (fun i=>(i.zero,i.size,i.bytes))=some (some (.slice none 0 0),1,24):=by kernel_rfl
theorem iclone_any (A:Option Addr) (c:Nat) (L:List Int) (w:World) (hL:L.length≤12) (hP:IntT w A c L):Calls Tryz.prog 102 #[.slice A L.length c] w fun e w'=>(∃ v,e=.returned v∧w'.ownsRow w.heap.size 3 1 v L.length (mapI L))∧Below w.heap.size w w' :=
 iclone_pl A c L w (by omega) (pl_ints hP.at)
end Go.Proofs.YtpoklbfffgpbiaaGreatDoor
namespace Go.Proofs.YtpoklbfffgpbiaaGreatDoor
open Go.ChangeShapes Go.WideShapes Go.ChangeAt Go.RowKit
theorem eachO {w:World} {o:Obj} {k:Nat} {x:Obj} (h:w.heap[k]?=some x):(w.alloc o).heap[k]?=some x:=by
 rw [heap_alloc_old _ _ (Array.getElem?_eq_some_iff.1 h).1]
 exact h
theorem eachN {w:World} {cs:Array Value} {t k:Nat} (h:w.heap.size=k):(w.alloc (.cells cs t)).heap[k]?=some (.cells cs t (0,0)):=by
 subst h
 exact heap_alloc_new ..
end Go.Proofs.YtpoklbfffgpbiaaGreatDoor
namespace Go.Proofs.YtpoklbfffgpbiaaGreatDoor
open Go.ChangeShapes Go.WideShapes Go.ChangeAt Go.RowKit
set_option maxRecDepth 20000
theorem byte_at {s:ByteArray} {k:Nat} (hk:k<s.size):s.data.toList[k]?=some s[k]:=by
 rw [List.getElem?_eq_getElem (by simpa using hk)]
 rfl
end Go.Proofs.YtpoklbfffgpbiaaGreatDoor
