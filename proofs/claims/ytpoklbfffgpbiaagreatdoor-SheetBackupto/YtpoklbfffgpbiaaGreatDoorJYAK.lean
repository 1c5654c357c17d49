/-
  What was written, on plain data: places in order, entries that rise, what stands at a place, with a number there, without; that what is written is there, and all else as it was.
-/
import Derived.Shelf.Pu.Clone
import Derived.Shelf.Strings.BuilderK
import Derived.Test.YtpoklbfffgpbiaaGreatDoorJYAJ
namespace Go.Proofs.YtpoklbfffgpbiaaGreatDoor
def lessL:List Int→List Int→Bool
 | [],[]=>false
 | [],_ :: _=>true
 | _ :: _,[]=>false
 | a :: r,b :: t=>if a=b then lessL r t else decide (a<b)
theorem lessL_trans:∀ (a b c:List Int),lessL a b=true→lessL b c=true→lessL a c=true
 | [],[],_,h,_=>by simp [lessL] at h
 | [],_ :: _,[],_,h=>by simp [lessL] at h
 | [],_ :: _,_ :: _,_,_=>rfl
 | _ :: _,[],_,h,_=>by simp [lessL] at h
 | _ :: _,_ :: _,[],_,h=>by simp [lessL] at h
 | x :: r,y :: t,z :: u,h1,h2=>by
  simp only [lessL] at h1 h2 ⊢
  by_cases e1:x=y
  ·by_cases e2:y=z
   ·rw [if_pos e1] at h1
    rw [if_pos e2] at h2
    rw [if_pos (e1.trans e2)]
    exact lessL_trans r t u h1 h2
   ·rw [if_neg e2] at h2
    rw [if_neg (by rw [e1];exact e2),e1]
    exact h2
  ·rw [if_neg e1] at h1
   have h3:=of_decide_eq_true h1
   by_cases e2:y=z
   ·rw [if_neg (by rw [←e2];exact e1),←e2]
    exact h1
   ·rw [if_neg e2] at h2
    have h4:=of_decide_eq_true h2
    rw [if_neg (by omega)]
    exact decide_eq_true (by omega)
theorem lessL_part:∀ (a b:List Int),a.length=b.length→lessL a b=true→∃ j,j<a.length∧(∀ i,i<j→a.getD i 0=b.getD i 0)∧a.getD j 0<b.getD j 0
 | [],[],_,h=>by simp [lessL] at h
 | [],_ :: _,h,_=>by simp at h
 | _ :: _,[],h,_=>by simp at h
 | x :: r,y :: t,hl,h=>by
  simp only [lessL] at h
  by_cases e:x=y
  ·rw [if_pos e] at h
   obtain ⟨j,h1,h2,h3⟩:=lessL_part r t (by simpa using hl) h
   refine ⟨j+1,by simpa using h1,fun i hi=>?_,by simpa using h3⟩
   cases i with
   | zero=>simpa using e
   | succ i=>simpa using h2 i (by omega)
  ·rw [if_neg e] at h
   exact ⟨0,by simp,fun i hi=>by omega,by simpa using of_decide_eq_true h⟩
theorem less_num {D:Nat→Dm} {n:Nat} {a b:List Int} (ha:InO D n a) (hb:InO D n b) (h:lessL a b=true):numI D a n<numI D b n:=by
 obtain ⟨j,hj,he,hlt⟩:=lessL_part a b (by rw [ha.len,hb.len]) h
 rw [ha.len] at hj
 have h1:∀ k,k≤j→numI D a k=numI D b k:=by
  intro k
  induction k with
  | zero=>intro _;rfl
  | succ k ih=>intro hk;rw [numI,numI,ih (by omega),he k (by omega)]
 have h2:∀ k,j<k→k≤n→numI D a k+1≤numI D b k:=by
  intro k
  induction k with
  | zero=>intro h;omega
  | succ k ih =>
   intro hjk hk
   rw [numI,numI]
   have a2:=ha.hi k (by omega)
   have b1:=hb.lo k (by omega)
   by_cases e:k=j
   ·rw [h1 k (by omega),e];omega
   ·have h3:=ih (by omega) (by omega)
    have h4:(numI D a k+1)*((D k).n:Int)≤numI D b k*((D k).n:Int):=Int.mul_le_mul_of_nonneg_right h3 (by omega)
    rw [Int.add_mul,Int.one_mul] at h4
    omega
 exact h2 n hj (Nat.le_refl _)
structure En where
 pl:List Int
 n:Int
def numOk (x:Int):Bool:=decide (-1000000≤x) && decide (x≤1000000)
def entOne (D:Nat→Dm) (n:Nat) (e:En):Int:=if shapeErr D n e.pl≠0 then shapeErr D n e.pl else if leafV D n e.pl=false then 6 else if numOk e.n=false then 1 else 0
def aheadOk:Option (List Int)→List Int→Bool
 | none,_=>true
 | some a,b=>lessL a b
def entFrom (D:Nat→Dm) (n:Nat):Option (List Int)→List En→Int
 | _,[]=>0
 | q,e :: r=>if entOne D n e≠0 then entOne D n e else if aheadOk q e.pl=true then entFrom D n (some e.pl) r else 7
def entsErr (D:Nat→Dm) (n:Nat) (l:List En):Int:=if (allErr D n).2.2≠0 then (allErr D n).2.2 else entFrom D n none l
structure Ens (D:Nat→Dm) (n:Nat) (l:List En):Prop where
 right:(allErr D n).2.2=0
 each:∀ e∈l,InO D n e.pl∧leafV D n e.pl=true∧numOk e.n=true
 rise:l.Pairwise fun a b=>lessL a.pl b.pl=true
theorem entOne_right {D:Nat→Dm} {n:Nat} {e:En} (hR:(allErr D n).2.2=0) (h:entOne D n e=0):InO D n e.pl∧leafV D n e.pl=true∧numOk e.n=true:=by
 unfold entOne at h
 split at h
 ·rename_i h1;exact absurd h h1
 ·split at h
  ·cases h
  ·split at h
   ·cases h
   ·rename_i h1 h2 h3
    exact ⟨inO_of (by rw [pe1 hR];simpa using h1),by simpa using h2,by simpa using h3⟩
theorem entOne_ok {D:Nat→Dm} {n:Nat} {e:En} (h:InO D n e.pl∧leafV D n e.pl=true∧numOk e.n=true):entOne D n e=0:=by
 have h1:shapeErr D n e.pl=0:=by rw [←pe1 h.1.right];exact h.1.ok
 unfold entOne
 rw [if_neg (by simpa using h1),if_neg (by simp [h.2.1]),if_neg (by simp [h.2.2])]
theorem entFrom_right {D:Nat→Dm} {n:Nat} (hR:(allErr D n).2.2=0):∀ (l:List En) (q:Option (List Int)),entFrom D n q l=0→(∀ e∈l,InO D n e.pl∧leafV D n e.pl=true∧numOk e.n=true)∧(∀ a,q=some a→∀ e∈l,lessL a e.pl=true)∧l.Pairwise fun a b=>lessL a.pl b.pl=true
 | [],_,_=>⟨fun _ h=>(by cases h),fun _ _ _ h=>(by cases h),List.Pairwise.nil⟩
 | e :: r,q,h=>by
  rw [entFrom] at h
  by_cases h1:entOne D n e=0
  ·rw [if_neg (by simpa using h1)] at h
   have go:∀ (h2:entFrom D n (some e.pl) r=0) (h3:∀ a,q=some a→lessL a e.pl=true),(∀ x∈e :: r,InO D n x.pl∧leafV D n x.pl=true∧numOk x.n=true)∧(∀ a,q=some a→∀ x∈e :: r,lessL a x.pl=true)∧(e :: r).Pairwise fun a b=>lessL a.pl b.pl=true:=fun h2 h3=>by
    obtain ⟨g1,g2,g3⟩:=entFrom_right hR r _ h2
    refine ⟨fun x hx=>?_,fun a ha x hx=>?_,List.Pairwise.cons (fun x hx=>g2 _ rfl x hx) g3⟩
    ·rcases List.mem_cons.1 hx with rfl | hx
     ·exact entOne_right hR h1
     ·exact g1 x hx
    ·rcases List.mem_cons.1 hx with rfl | hx
     ·exact h3 a ha
     ·exact lessL_trans _ _ _ (h3 a ha) (g2 _ rfl x hx)
   split at h
   ·rename_i h4
    exact go h fun b hb=>by rw [hb] at h4;exact h4
   ·cases h
  ·rw [if_pos (by simpa using h1)] at h
   exact absurd h h1
theorem ens_of {D:Nat→Dm} {n:Nat} {l:List En} (h:entsErr D n l=0):Ens D n l:=by
 unfold entsErr at h
 split at h
 ·rename_i h1;exact absurd h h1
 ·rename_i h1
  have hR:(allErr D n).2.2=0:=by simpa using h1
  obtain ⟨g1,_,g3⟩:=entFrom_right hR l none h
  exact ⟨hR,g1,g3⟩
theorem entFrom_ok {D:Nat→Dm} {n:Nat}:∀ (l:List En) (q:Option (List Int)),(∀ e∈l,InO D n e.pl∧leafV D n e.pl=true∧numOk e.n=true)→(∀ a,q=some a→∀ e∈l,lessL a e.pl=true)→(l.Pairwise fun a b=>lessL a.pl b.pl=true)→entFrom D n q l=0
 | [],_,_,_,_=>rfl
 | e :: r,q,h1,h2,h3=>by
  obtain ⟨h4,h5⟩:=List.pairwise_cons.1 h3
  have h6:=entFrom_ok r (some e.pl) (fun x hx=>h1 x (List.mem_cons_of_mem _ hx)) (fun a ha x hx=>by cases ha;exact h4 x hx) h5
  rw [entFrom,if_neg (by simpa using entOne_ok (h1 e (List.mem_cons_self ..)))]
  rw [if_pos]
  ·exact h6
  ·cases q with
   | none=>rfl
   | some a=>exact h2 a rfl e (List.mem_cons_self ..)
theorem Ens.ok {D:Nat→Dm} {n:Nat} {l:List En} (h:Ens D n l):entsErr D n l=0:=by
 unfold entsErr
 rw [if_neg (by simpa using h.right)]
 exact entFrom_ok l none h.each (fun a ha=>by cases ha) h.rise
theorem Ens.few {D:Nat→Dm} {n:Nat} {l:List En} (h:Ens D n l):l.length≤3000:=by
 have hp:=(allErr_some h.right).2.2.1
 have key:∀ (m:List En) (lo:Int),(∀ e∈m,InO D n e.pl)→(m.Pairwise fun a b=>lessL a.pl b.pl=true)→(∀ e∈m,lo≤numI D e.pl n)→0≤lo→lo≤(prodN D n:Int)→lo+(m.length:Int)≤(prodN D n:Int):=by
  intro m
  induction m with
  | nil=>intro lo _ _ _ _ h5;simpa using h5
  | cons e r ih =>
   intro lo h1 h2 h3 h4 h5
   obtain ⟨h6,h7⟩:=List.pairwise_cons.1 h2
   have he:=h1 e (List.mem_cons_self ..)
   have h8:=h3 e (List.mem_cons_self ..)
   have h9:=(numI_bound he (Nat.le_refl n)).2.1
   have:=ih (numI D e.pl n+1) (fun x hx=>h1 x (List.mem_cons_of_mem _ hx)) h7 (fun x hx=>by have:=less_num he (h1 x (List.mem_cons_of_mem _ hx)) (h6 x hx);omega) (by omega) (by omega)
   rw [List.length_cons]
   omega
 have:=key l 0 (fun e he=>(h.each e he).1) h.rise (fun e he=>(numI_bound (h.each e he).1 (Nat.le_refl n)).1) (Int.le_refl _) (by omega)
 omega
end Go.Proofs.YtpoklbfffgpbiaaGreatDoor
namespace Go.Proofs.YtpoklbfffgpbiaaGreatDoor
open Go Go.ChangeShapes Go.WideShapes Go.ChangeAt Go.RowKit Go.Deep
set_option maxRecDepth 100000
structure EnL where
 e:En
 A:Option Addr
 c:Nat
def noEn:En:=⟨[],0⟩
def noL:EnL:=⟨noEn,none,0⟩
def lE (xs:List EnL):List En:=xs.map EnL.e
theorem lE_len (xs:List EnL):(lE xs).length=xs.length:=by simp [lE]
theorem lE_at (xs:List EnL) (k:Nat):(lE xs).getD k noEn=(xs.getD k noL).e:=by
 rw [List.getD_eq_getElem?_getD,List.getD_eq_getElem?_getD,lE,List.getElem?_map]
 cases xs[k]? <;> rfl
def cellsE:List EnL→List Value
 | []=>[]
 | x :: r=>.slice x.A x.e.pl.length x.c :: .int .i64 x.e.n :: cellsE r
theorem cellsE_len (xs:List EnL):(cellsE xs).length=xs.length*2:=by
 induction xs with
 | nil=>rfl
 | cons x r ih=>simp [cellsE,ih];omega
theorem cellsE_append (a b:List EnL):cellsE (a ++ b)=cellsE a ++ cellsE b:=by
 induction a with
 | nil=>rfl
 | cons x r ih=>simp [cellsE,ih]
theorem cellsE_at (xs:List EnL):∀ k,k<xs.length→(cellsE xs)[k*2]?=some (.slice (xs.getD k noL).A (xs.getD k noL).e.pl.length (xs.getD k noL).c)∧(cellsE xs)[k*2+1]?=some (.int .i64 (xs.getD k noL).e.n):=by
 induction xs with
 | nil=>intro k hk;cases hk
 | cons x r ih =>
  intro k hk
  cases k with
  | zero=>simp [cellsE]
  | succ k =>
   rw [show (k+1)*2=k*2+1+1 by omega]
   simp only [cellsE,List.getElem?_cons_succ,List.getD_cons_succ]
   exact ih k (by simpa using hk)
theorem enl_mem {xs:List EnL} {k:Nat} (h:k<xs.length):xs.getD k noL∈xs:=by
 rw [List.getD_eq_getElem?_getD,List.getElem?_eq_getElem h]
 exact List.getElem_mem h
def EnsAt (w:World) (b o:Nat) (xs:List EnL):Prop:=b<w.heap.size∧(∀ j u,(cellsE xs)[j]?=some u→w.cell? ⟨b,o+j,none⟩=some u)∧∀ x∈xs,PlAt w x.A x.c x.e.pl
theorem EnsAt.later {w w':World} {b o:Nat} {xs:List EnL} (h:EnsAt w b o xs) (hB:Below w.heap.size w w'):EnsAt w' b o xs :=
 ⟨Nat.lt_of_lt_of_le h.1 hB.size,fun j u hj=>(hB.cell (p:=⟨b,o+j,none⟩) h.1).trans (h.2.1 j u hj),fun x hx=>(h.2.2 x hx).later hB⟩
theorem EnsAt.pl {w:World} {b o:Nat} {xs:List EnL} (h:EnsAt w b o xs) {k:Nat} (hk:k<xs.length):PlAt w (xs.getD k noL).A (xs.getD k noL).c (xs.getD k noL).e.pl:=h.2.2 _ (enl_mem hk)
theorem EnsAt.at {w:World} {b o:Nat} {xs:List EnL} (h:EnsAt w b o xs) {k:Nat} (hk:k<xs.length):w.cell? ⟨b,o+k*2,none⟩=some (.slice (xs.getD k noL).A (xs.getD k noL).e.pl.length (xs.getD k noL).c)∧w.cell? ⟨b,o+k*2+1,none⟩=some (.int .i64 (xs.getD k noL).e.n):=by
 obtain ⟨h1,h2⟩:=cellsE_at xs k hk
 exact ⟨h.2.1 _ _ h1,by rw [Nat.add_assoc];exact h.2.1 _ _ h2⟩
def EnsV (w:World) (A:Option Addr) (cap:Nat) (xs:List EnL):Prop:=xs.length≤cap∧cap≤9223372036854775807∧(xs=[]∨∃ b o,A=some ⟨b,o,none⟩∧EnsAt w b o xs)
theorem EnsV.later {w w':World} {A:Option Addr} {cap:Nat} {xs:List EnL} (h:EnsV w A cap xs) (hB:Below w.heap.size w w'):EnsV w' A cap xs:=by
 obtain ⟨h1,h0,h2 | ⟨b,o,h2,h3⟩⟩:=h
 ·exact ⟨h1,h0,Or.inl h2⟩
 ·exact ⟨h1,h0,Or.inr ⟨b,o,h2,h3.later hB⟩⟩
section
variable {H:Type} {enc:TypeId×Value→H} {w:World} {held:Bool}
theorem cellsEn:Tryz.prog.cellsOf 36=2:=by kernel_rfl
theorem open_pl {fuel:Nat} {cs:List Value} {x:DataW H×List MemPlace} (h:DataW.trod enc Tryz.prog w 0 (fun _=>true) held fuel 34 cs=some x) :
  ∃ (Ap:Option Addr) (cp:Nat) (L:List Int),cs=[.slice Ap L.length cp]∧PlAt w Ap cp L:=by
 rcases open_ints Tryz.underlying34 Tryz.underlying3 (by kernel_rfl) h with ⟨rfl,_⟩ | ⟨a',len,cap,zs,rfl,_,hl,_,hzl,_,hc,_⟩
 ·exact ⟨none,0,[],rfl,PlAt.nil _ _ _⟩
 ·simp at hzl
  have hlen:(zs.take len).length=len:=by simp;omega
  refine ⟨some a',cap,zs.take len,by rw [hlen],by rw [hlen];exact hl,?_⟩
  rcases Nat.eq_zero_or_pos len with h0 | h0
  ·left
   subst h0
   simp
  right
  have c0:=hc 0 (by omega)
  have hp:=addr_plain c0 rfl
  have hb:=World.block_lt_of_cell? _ _ c0
  refine ⟨a'.block,a'.off,by rw [←hp],by simpa [Addr.add] using hb,fun j hj=>?_⟩
  rw [hlen] at hj
  have:=hc j (by omega)
  rw [hp,plain_add] at this
  rw [this]
  simp [List.getD,hj]
theorem open_en {fuel:Nat} {cs:List Value} {x:DataW H×List MemPlace} (h:DataW.trod enc Tryz.prog w 0 (fun _=>true) held fuel 36 cs=some x) :
  ∃ (e:En) (A:Option Addr) (c:Nat),cs=[.slice A e.pl.length c,.int .i64 e.n]∧PlAt w A c e.pl:=by
 obtain ⟨hl,n,hf⟩:=trod_one Tryz.underlying36 (by kernel_rfl) h
 rw [cellsEn] at hl
 match cs,hl with
 | [v0,v1],_ =>
  obtain ⟨y0,h0⟩:=hf 0 _ v0 rfl rfl
  obtain ⟨y1,h1⟩:=hf 1 _ v1 rfl rfl
  obtain ⟨A,c,L,e0,hP⟩:=open_pl h0
  obtain ⟨n1,e1,-,-⟩:=DataW.trod_int Tryz.underlying3 h1
  simp at e0 e1
  exact ⟨⟨L,n1⟩,A,c,by rw [e0,e1],hP⟩
theorem cells_of_each {b o:Nat} {xs:List EnL} (h:∀ i,i<xs.length→w.cell? ⟨b,o+i*2,none⟩=some (.slice (xs.getD i noL).A (xs.getD i noL).e.pl.length (xs.getD i noL).c)∧w.cell? ⟨b,o+i*2+1,none⟩=some (.int .i64 (xs.getD i noL).e.n)):∀ j u,(cellsE xs)[j]?=some u→w.cell? ⟨b,o+j,none⟩=some u:=by
 intro j u hj
 have hlt:j<(cellsE xs).length:=(List.getElem?_eq_some_iff.1 hj).1
 rw [cellsE_len] at hlt
 have hk:j / 2<xs.length:=by omega
 obtain ⟨h1,h2⟩:=cellsE_at xs _ hk
 obtain ⟨c1,c2⟩:=h _ hk
 rcases Nat.mod_two_eq_zero_or_one j with hm | hm
 ·have e:j=j / 2*2:=by omega
  rw [e] at hj ⊢
  rw [h1] at hj
  rw [c1]
  exact hj
 ·have e:j=j / 2*2+1:=by omega
  rw [e] at hj ⊢
  rw [h2] at hj
  rw [←Nat.add_assoc,c2]
  exact hj
theorem open_ens {r:Reach} {b0:Nat} {v:Value} {d:DataW H} {p:List MemPlace} (hv:Value.okWide Tryz.prog w r b0 25 v) (h:DataW.Trod enc Tryz.prog w 0 (fun _=>true) held 25 v d p) :
  ∃ (A:Option Addr) (cap:Nat) (xs:List EnL),v=.slice A xs.length cap∧EnsV w A cap xs:=by
 obtain ⟨a0,len0,cap0,rfl⟩:=okWide_slice Tryz.underlying25 hv
 obtain ⟨fuel,hf⟩:=h
 have hf':DataW.trod enc Tryz.prog w 0 (fun _=>true) held fuel 25 [.slice a0 len0 cap0]=some (d,p):=hf
 rcases open_slice Tryz.underlying25 hf' with ⟨e,-⟩ | ⟨a,len,cap,m,n,D,Pl,e,-,hl,hcm,hm,-,hx⟩
 ·simp at e
  obtain ⟨rfl,rfl,rfl⟩:=e
  exact ⟨none,0,[],rfl,Nat.le_refl _,Nat.zero_le _,Or.inl rfl⟩
 simp at e
 obtain ⟨rfl,rfl,rfl⟩:=e
 rw [cellsEn] at hx
 simp at hm
 subst hm
 haveI:Inhabited EnL:=⟨noL⟩
 have each:∀ i,i<len0→∃ y:EnL,w.cells? 0 (a.add (i*2)) 2=some [.slice y.A y.e.pl.length y.c,.int .i64 y.e.n]∧PlAt w y.A y.c y.e.pl:=fun i hi=>by
  obtain ⟨cs',h1,h2⟩:=hx i (by omega)
  obtain ⟨e,A,c,rfl,hp⟩:=open_en h2
  exact ⟨⟨e,A,c⟩,h1,hp⟩
 obtain ⟨Y,hY⟩:=choose_lt each
 have hlen:((List.range len0).map Y).length=len0:=by simp
 have hg:∀ i,i<len0→((List.range len0).map Y).getD i noL=Y i:=fun i hi=>by simp [List.getD,hi]
 refine ⟨some a,_,(List.range len0).map Y,by rw [hlen],by rw [hlen];exact hl,hcm,?_⟩
 rcases Nat.eq_zero_or_pos len0 with h0 | h0
 ·left;subst h0;rfl
 right
 have c0:=(World.cells?_some (hY 0 h0).1).2.2 0 (by omega)
 rw [add_add] at c0
 have hp:=addr_plain c0 (by omega)
 have hb:=World.block_lt_of_cell? _ _ c0
 refine ⟨a.block,a.off,by rw [←hp],by simpa [Addr.add] using hb,cells_of_each fun i hi=>?_,fun x hx=>?_⟩
 ·rw [hlen] at hi
  have hc:=(World.cells?_some (hY i hi).1).2.2
  rw [hp] at hc
  simp only [plain_add,Nat.add_assoc] at hc
  rw [hg i hi]
  refine ⟨?_,?_⟩
  ·have:=hc 0 (by omega);simpa using this
  ·have:=hc 1 (by omega);simpa [Nat.add_assoc] using this
 ·simp only [List.mem_map,List.mem_range] at hx
  obtain ⟨i,hi,rfl⟩:=hx
  exact (hY i hi).2
end
end Go.Proofs.YtpoklbfffgpbiaaGreatDoor
namespace Go.Proofs.YtpoklbfffgpbiaaGreatDoor
open Go.ChangeShapes Go.WideShapes Go.ChangeAt Go.RowKit
structure RDm where
 name:ByteArray
 solve:Int
 mem:List Mem
structure RdQ where
 dims:List RDm
 pl:List ByteArray
 num:List Int
 first:Nat
def noWd:ByteArray:=⟨#[]⟩
def noM:Mem:=⟨noWd,0,0,noWd⟩
def noRD:RDm:=⟨noWd,0,[]⟩
def toDm (d:RDm):Dm:=⟨d.name,d.solve,d.mem.length,fun k=>d.mem.getD k noM⟩
def rd0S:RdQ:=⟨[],[],[],0⟩
def isB (s:ByteArray) (l:List UInt8):Bool:=s.toList == l
def wdsB (line:ByteArray):List ByteArray:=piecesC 32 line
def wdB (w:List ByteArray) (i:Nat):ByteArray:=w.getD i noWd
def intI (s:ByteArray):Int:=(numK 7 s.data.toList).getD 0
def intB (s:ByteArray):Bool:=(numK 7 s.data.toList).isSome
def dimB (S:RdQ) (w:List ByteArray):Bool:=isB (wdB w 0) [100,105,109] && decide (w.length=3) && decide (S.pl.length=0)
def memB (S:RdQ) (w:List ByteArray):Bool:=isB (wdB w 0) [109,101,109] && decide (w.length=4) && decide (S.pl.length=0) && decide (0<S.dims.length)
def celB (w:List ByteArray):Bool:=isB (wdB w 0) [99,101,108,108] && decide (w.length=3)
def sgOk (x:ByteArray):Bool := !(decide (x.size=0) || decide (x.size=2) || (decide (2<x.size) && !decide ((x.data.toList.getD 1 0)=61))) && (decide (x.data.toList.getD 0 0=45) || decide (x.data.toList.getD 0 0=126) || decide (x.data.toList.getD 0 0=43))
def sgIn (x:ByteArray):Bool := !(decide (x.size=0) || decide (x.size=2) || (decide (2<x.size) && !decide ((x.data.toList.getD 1 0)=61)))
def sgI (x:ByteArray):Int:=if sgIn x=true then (if x.data.toList.getD 0 0=45 then -1 else if x.data.toList.getD 0 0=126 then 0 else if x.data.toList.getD 0 0=43 then 1 else 0) else 0
def foS (x:ByteArray):ByteArray:=if sgIn x=true∧2<x.size then x.extract 2 x.size else noWd
def paOk (s:ByteArray):Bool:=isB s [45] || (intB s && decide (0≤intI s))
def paI (s:ByteArray):Int:=if isB s [45]=true then -1 else intI s
def memR (w:List ByteArray):Mem:=⟨wdB w 1,paI (wdB w 2),sgI (wdB w 3),foS (wdB w 3)⟩
def addM (l:List RDm) (m:Mem):List RDm:=l.set (l.length-1) ⟨(l.getD (l.length-1) noRD).name,(l.getD (l.length-1) noRD).solve,(l.getD (l.length-1) noRD).mem ++ [m]⟩
def rdLine (S:RdQ) (i:Nat) (w:List ByteArray):RdQ×Bool :=
 if dimB S w=true then (⟨S.dims ++ [⟨wdB w 1,intI (wdB w 2),[]⟩],S.pl,S.num,S.first⟩,intB (wdB w 2) && decide (0≤intI (wdB w 2)) && nmW (wdB w 1))
 else if memB S w=true then (⟨addM S.dims (memR w),S.pl,S.num,S.first⟩,nmW (wdB w 1) && paOk (wdB w 2) && sgOk (wdB w 3))
 else if celB w=true then (⟨S.dims,S.pl ++ [wdB w 1],S.num ++ [intI (wdB w 2)],if S.pl.length=0 then i else S.first⟩,intB (wdB w 2) && (piecesC 46 (wdB w 1)).all nmW)
 else (S,false)
def rdTo (L:List ByteArray):Nat→RdQ
 | 0=>rd0S
 | k+1=>(rdLine (rdTo L k) k (wdsB (L.getD k noWd))).1
def rdOk (L:List ByteArray) (k:Nat):Bool:=(rdLine (rdTo L k) k (wdsB (L.getD k noWd))).2
theorem rdTo_succ (L:List ByteArray) (k:Nat):rdTo L (k+1)=(rdLine (rdTo L k) k (wdsB (L.getD k noWd))).1:=rfl
theorem addM_len (l:List RDm) (m:Mem):(addM l m).length=l.length:=by simp [addM]
theorem rdTo_dims (L:List ByteArray):∀ k,(rdTo L k).dims.length≤k∧(rdTo L k).pl.length≤k∧(rdTo L k).num.length=(rdTo L k).pl.length
 | 0=>by simp [rdTo,rd0S]
 | k+1=>by
  obtain ⟨h1,h2,h3⟩:=rdTo_dims L k
  rw [rdTo_succ]
  unfold rdLine
  split
  ·simp;omega
  ·split
   ·simp only [addM_len];omega
   ·split
    ·simp;omega
    ·exact ⟨Nat.le_succ_of_le h1,Nat.le_succ_of_le h2,h3⟩
end Go.Proofs.YtpoklbfffgpbiaaGreatDoor
namespace Go.Proofs
open Go.Shelf
def Tryz.laysK_ren:Go.Shelf.Ren:=⟨fun | 25=>88 | n=>n,fun | 0=>0 | 3=>3 | 4=>4 | 5=>5 | 9=>9 | 37=>56 | 47=>81 | n=>n,fun | n=>n⟩
theorem Tryz.laysK:Go.Proofs.LaysPu.n25 Tryz.prog Tryz.laysK_ren:={
 mixed:=by kernel_rfl
 f25:=Tryz.func88.trans (congrArg some (by kernel_rfl))
 t0:=Tryz.underlying0
 a0:=Tryz.isAgg0
 z0:=Tryz.sizeOf0
 v0:=Tryz.zeroValue0
 i0:=by kernel_rfl
 t3:=Tryz.underlying3
 a3:=Tryz.isAgg3
 z3:=Tryz.sizeOf3
 v3:=Tryz.zeroValue3
 i3:=by kernel_rfl
 t4:=Tryz.underlying4
 a4:=Tryz.isAgg4
 z4:=Tryz.sizeOf4
 v4:=Tryz.zeroValue4
 i4:=by kernel_rfl
 t5:=Tryz.underlying5
 a5:=Tryz.isAgg5
 z5:=Tryz.sizeOf5
 v5:=Tryz.zeroValue5
 i5:=by kernel_rfl
 t9:=Tryz.underlying9
 a9:=Tryz.isAgg9
 z9:=Tryz.sizeOf9
 v9:=Tryz.zeroValue9
 i9:=by kernel_rfl
 t37:=Tryz.underlying56
 a37:=Tryz.isAgg56
 z37:=Tryz.sizeOf56
 v37:=Tryz.zeroValue56
 i37:=by kernel_rfl
 t47:=Tryz.underlying81
 a47:=Tryz.isAgg81
 z47:=Tryz.sizeOf81
 v47:=Tryz.zeroValue81
 i47:=by kernel_rfl }
namespace YtpoklbfffgpbiaaGreatDoor
open Go.ChangeShapes Go.WideShapes Go.ChangeAt Go.RowKit
theorem sclone_any (s:ByteArray) (w:World) (hs:s.size≤281474976710656):Calls Tryz.prog 58 #[.string s] w fun e w'=>e=.returned (.string s)∧Below w.heap.size w w':=by
 have h:=AnyPu.stringslite_Clone Tryz.laysK s w hs
 go_enter Tryz.func58,Tryz.ntmps58
 go_wp2_with fail
 refine Calls.mono h ?_
 rintro e w1 ⟨rfl,hb1⟩
 go_wp2_with fail
 go_ret
 exact ⟨rfl,hb1⟩
end YtpoklbfffgpbiaaGreatDoor
end Go.Proofs
namespace Go.Proofs.YtpoklbfffgpbiaaGreatDoor
open Go.ChangeShapes Go.WideShapes Go.ChangeAt Go.RowKit
set_option maxRecDepth 20000
theorem own_low {w:World} {b b' e size n:Nat} {v:Value} {xs:List Value} (h:w.ownsRow b e size v n xs) (hb:b'≤b):w.ownsRow b' e size v n xs:=by
 refine ⟨h.1,?_⟩
 rcases h.2 with h0 | ⟨g,cap,cur,h1,h2,h3⟩
 ·exact Or.inl h0
 ·exact Or.inr ⟨g,cap,cur,h1,Nat.le_trans hb h2,h3⟩
set_option maxHeartbeats 2000000 in
theorem places_own (fn q r:Nat) (he:EntersO fn) (A:Option Addr) (n cap:Nat) (p:Nat→Bool) (w:World) (hn:n≤12) (hp:AskP fn q r w n p):Calls Tryz.prog 125 #[.slice A n cap,.func (.func fn) #[] #[.pointer (some ⟨q,0,none⟩),.pointer (some ⟨r,0,none⟩)]] w fun e w'=>(∃ v,e=.returned v∧w'.ownsRow w.heap.size 3 1 v (selTo p n).length (mapI (selTo p n)))∧Below w.heap.size w w':=by
 obtain ⟨i0,hi0,hz0,hz1,hz2⟩:=info_parts Tryz.infoInt
 have HP:Hid (AskP fn q r w n p):=hp
 have hn':(n:Int)≤12:=by omega
 clear hp
 unfold EntersO at he
 go_enter Tryz.func125,Tryz.ntmps125
 go_wp2_with fail
 go_loopg [5,9] n (fun g s5 s9 wr => ∃ (k:Nat),k≤n∧g=n-k∧s9=.int .i64 k∧wr.ownsRow w.heap.size 3 1 s5 (selTo p k).length (mapI (selTo p k))∧Below w.heap.size w wr)
 case atStart=>exact ⟨0,Nat.zero_le _,rfl,rfl,World.ownsRow_nil _ _ _ _,Below.refl _ _⟩
 case round =>
  obtain ⟨k,hk,rfl,rfl,hown,hBw⟩:=hrel
  have HW:Hid (Below w.heap.size w wr):=hBw
  have HO:Hid (wr.ownsRow w.heap.size 3 1 _ (selTo p k).length (mapI (selTo p k))):=hown
  by_cases hlt:k<n
  ·have hki:(k:Int)<(n:Int):=by omega
   have hbd:=HP.out k wr hlt hBw
   clear hBw hown
   cases hb:p k
   ·rw [hb] at hbd
    have HK:Hid (p k=false):=hb
    clear hb
    go_wp2_with fail
    refine hbd.mono ?_
    rintro e w1 ⟨rfl,hb1⟩
    go_wp2_with fail
    go_roundg (n-(k+1))
    case measure=>omega
    case rel=>exact ⟨k+1,by omega,rfl,by go_num,by rw [selTo_miss HK.out];exact own_later HO.out hb1,onB HW.out hb1⟩
   ·rw [hb] at hbd
    have HK:Hid (p k=true):=hb
    have hlen:=selTo_len p k
    clear hb
    go_wp2_with fail
    refine hbd.mono ?_
    rintro e w1 ⟨rfl,hb1⟩
    have hown:=own_later HO.out hb1
    have hB1:=onB HW.out hb1
    have hsz:=hB1.size
    have HB1:Hid (Below w.heap.size w w1):=hB1
    clear hb1 hB1
    go_wp2_with (at_builtin;refine wpList_append_own _ rfl _ _ 33 rfl w.heap.size 3 i0 (.int .i64 0) 1 8 Tryz.underlying33 hi0 hz0 hz1 hz2 rfl (by decide) _ _ _ rfl (hown.alloc _) ⟨w1.heap.size,0,none⟩ 1 1 [.int .i64 k] rfl rfl one_cell one_one (by unfold maxLen;omega) (by omega) (by simp;omega) ?_)
    intro v' w2 hown' hgrow _
    have HB2:Hid (Below w.heap.size w w2):=grown_own HB1.out hown hgrow
    have HO2:Hid (w2.ownsRow w.heap.size 3 1 v' (selTo p (k+1)).length (mapI (selTo p (k+1)))):=by
     show World.ownsRow ..
     rw [selTo_hit HK.out,mapI_snoc,List.length_append];exact hown'
    clear hown' hgrow hown
    go_wp2_with fail
    go_roundg (n-(k+1))
    case measure=>omega
    case rel=>exact ⟨k+1,by omega,rfl,by go_num,HO2.out,HB2.out⟩
  ·have hke:k=n:=by omega
   subst hke
   clear hBw hown
   go_wp2_with fail
   go_ret
   exact ⟨⟨_,rfl,HO.out⟩,HW.out⟩
set_option maxHeartbeats 2000000 in
theorem parts_own (d:Dm) (A:Option Addr) (cap:Nat) (k:Nat) (w:World) (hd:(dimErr d).2=0) (hk:k<d.n) (hM:MemsV w A cap d.n d.mem):Calls Tryz.prog 98 #[dimV d A cap,.int .i64 k] w fun e w'=>(∃ v,e=.returned (.tuple #[v,.nilIface])∧w'.ownsRow w.heap.size 3 1 v (partsOf d.mem d.n k).length (mapI (partsOf d.mem d.n k)))∧Below w.heap.size w w':=by
 have hB0:=ownQ_below w d A cap k 32 3
 have hck:=tcheck_any d A cap _ 1 [(k:Int)] (ownQ w d A cap k 32 3) (hM.later hB0) (by simp) (ownQ_ints ..)
 have HB0:Hid (Below w.heap.size w (ownQ w d A cap k 32 3)):=hB0
 have HM:Hid (MemsV w A cap d.n d.mem):=hM
 unfold dimV at hck ⊢
 simp only [List.length_singleton] at hck
 clear hM hB0
 have he:treeErr d [(k:Int)]=0:=by rw [treeErr_one hd,if_neg (by omega)]
 ·rw [he,errV_zero] at hck
  obtain ⟨-,-,hd2,-⟩:=dimErr_right hd
  clear he hd
  go_enter Tryz.func98,Tryz.ntmps98
  go_wp2_with fail
  refine hck.mono ?_
  rintro e w1 ⟨rfl,hb1⟩
  have hB:Below w.heap.size w w1:=onB HB0.out hb1
  have hz:w.heap.size+1<w1.heap.size:=by have:=hb1.size;rw [ownQ_size] at this;omega
  have h2:w1.cell? ⟨w.heap.size,2,none⟩=some (.slice A d.n cap):=(hb1.cell (p:=⟨w.heap.size,2,none⟩) (by show w.heap.size<_;rw [ownQ_size];omega)).trans (ownQ_dim ..)
  have h3:w1.cell? ⟨w.heap.size+1,0,none⟩=some (.int .i64 k):=(hb1.cell (p:=⟨w.heap.size+1,0,none⟩) (by show w.heap.size+1<_;rw [ownQ_size];omega)).trans (ownQ_int ..)
  obtain ⟨hcap,h0 | ⟨b,o,rfl,hMs⟩⟩:=HM.out.later hB
  ·omega
  have hpl:=places_own 126 w.heap.size (w.heap.size+1) parts1_in (some ⟨b,o,none⟩) d.n cap (partB d.mem k) w1 hd2 (fun j w' hj hw'=>parts1_any b o d.n cap j w.heap.size (w.heap.size+1) d.mem k w' hj hd2 (hMs.later hw') ((hw'.cell (p:=⟨w.heap.size,2,none⟩) (by show w.heap.size<_;omega)).trans h2) ((hw'.cell (p:=⟨w.heap.size+1,0,none⟩) hz).trans h3))
  have HB:Hid (Below w.heap.size w w1):=hB
  clear hb1 hck hMs h3 hB
  go_wp2_with fail
  refine hpl.mono ?_
  rintro e w2 ⟨⟨v2,rfl,hO2⟩,hb2⟩
  have HO2:Hid (w2.ownsRow w1.heap.size 3 1 v2 (selTo (partB d.mem k) d.n).length (mapI (selTo (partB d.mem k) d.n))):=hO2
  have HB2:Hid (Below w.heap.size w w2):=onB HB.out hb2
  clear hO2 hb2 hpl
  go_wp2_with fail
  go_ret2
  exact ⟨⟨v2,rfl,own_low HO2.out HB.out.size⟩,HB2.out⟩
def Buil (B b:Nat) (l:List UInt8) (w:World):Prop:=Lib.IsBuilderF 58 5 B b (Lib.byteCells l) w
theorem ownF_stays {w w':World} {base e size:Nat} {v:Value} {n:Nat} {xs:List Value} (h:w.ownsRowF base e size v n xs) (hB:Below w.heap.size w w'):w'.ownsRowF base e size v n xs:=by
 refine ⟨h.1,?_⟩
 rcases h.2 with h0 | ⟨g,cap,cur,fz,rfl,hb,hg,h1⟩
 ·exact Or.inl h0
 ·exact Or.inr ⟨g,cap,cur,fz,rfl,hb,(hB.block g (Array.getElem?_eq_some_iff.1 hg).1).trans hg,h1⟩
theorem builF_later {T e B b:Nat} {p:Value} {bs:List Value} {w w':World} (h:Lib.BuilderAtF T e B b p bs w) (hB:Below w.heap.size w w'):Lib.BuilderAtF T e B b p bs w':=by
 obtain ⟨h1,v,h2,h3,h4⟩:=h
 exact ⟨h1,v,(hB.block b (Array.getElem?_eq_some_iff.1 h2).1).trans h2,ownF_stays h3 hB,h4⟩
theorem Buil.later {B b:Nat} {l:List UInt8} {w w':World} (h:Buil B b l w) (hB:Below w.heap.size w w'):Buil B b l w':=by
 rcases h with h | h
 ·exact Or.inl (builF_later h hB)
 ·exact Or.inr (builF_later h hB)
theorem Buil.fresh (w:World):Buil w.heap.size w.heap.size [] (w.alloc (.cells #[.pointer none,.slice none 0 0] 58)):=Lib.IsBuilderF.of (Lib.fresh_isBuilder 58 5 w)
theorem Buil.lt {B b:Nat} {l:List UInt8} {w:World} (h:Buil B b l w):b<w.heap.size:=by
 rcases h with ⟨_,v,h2,_⟩ | ⟨_,v,h2,_⟩ <;> exact (Array.getElem?_eq_some_iff.1 h2).1
theorem wstring_any (B b:Nat) (l:List UInt8) (s:ByteArray) (w:World) (h:Buil B b l w) (hlen:l.length+s.size≤1000) (hBw:B≤w.heap.size) :
  Calls Tryz.prog 13 #[.pointer (some ⟨b,0,none⟩),.string s] w fun e w'=>e=.returned (.tuple #[.int .i64 s.size,.nilIface])∧Buil B b (l ++ s.data.toList) w'∧Below B w w'∧Lib.OthersKept 5 (some b) w w':=by
 refine (Any.Builder_WriteString_k Tryz.lays166 Tryz.extra166 B b (Lib.byteCells l) s w h (by rw [Lib.byteCells_length];omega) hBw).mono fun e w' ⟨h1,h2,h3,h4⟩=>⟨h1,?_,h3,h4⟩
 unfold Buil
 rw [Lib.byteCells_append]
 exact Or.inr h2
theorem bstring_any (B b:Nat) (l:List UInt8) (w:World) (h:Buil B b l w) (hBw:B≤w.heap.size) :
  Calls Tryz.prog 20 #[.pointer (some ⟨b,0,none⟩)] w fun e w'=>e=.returned (.string ⟨l.toArray⟩)∧Below B w w' :=
 (Any.Builder_String_any_k Tryz.lays169 Tryz.extra169 B b l w h hBw).mono fun _ _ ⟨h1,_,h3,_⟩=>⟨h1,h3⟩
theorem kept_dim {b c:Nat} {w w':World} {cs:Array Value} {T:Nat} (h:Lib.OthersKept 5 (some b) w w') (hc:w.heap[c]?=some (.cells cs T (0,0))) (hne:c≠b) (hT:T≠5):w'.heap[c]?=some (.cells cs T (0,0)) :=
 h c _ hc (fun e=>hne (Option.some.inj e)) (fun _ _ e=>by simp only [Obj.cells.injEq] at e;exact hT e.2.1)
set_option maxHeartbeats 4000000 in
theorem pprint_any (A0:Option Addr) (cap n:Nat) (D:Nat→Dm) (A:Nat→Option Addr) (C:Nat→Nat) (Ap:Option Addr) (cp:Nat) (L:List Int) (w:World) (hM:DimsV w A0 cap n D A C) (hP:PlAt w Ap cp L):Calls Tryz.prog 19 #[.agg #[.slice A0 n cap],.slice Ap L.length cp] w fun e w'=>e=.returned (.tuple #[.string (textV D n L),errV (placeErr D n L)])∧Below w.heap.size w w':=by
 have hB0:=ownOut_below w A0 n cap 24
 have h:=pcheck_any A0 cap n D A C Ap cp L (ownOut w A0 n cap 24) (hM.later hB0) (hP.later hB0)
 have HB0:Hid (Below w.heap.size w (ownOut w A0 n cap 24)):=hB0
 have HM:Hid (DimsV w A0 cap n D A C):=hM
 have HP:Hid (PlAt w Ap cp L):=hP
 clear hM hB0 hP
 by_cases he:placeErr D n L=0
 ·have HI:Hid (InO D n L):=inO_of he
  have HV:Hid (textV D n L=⟨(textTo D L n).toArray⟩):=by show _=_;unfold textV;rw [if_pos he]
  have HE:Hid (errV (placeErr D n L)=.nilIface):=by show _=_;rw [he];rfl
  rw [he,errV_zero] at h
  obtain ⟨hn1,hn4,-,hd⟩:=allErr_some HI.out.right
  have HD:Hid (∀ i,i<n→1≤(D i).n∧(D i).n≤12):=hd
  have hn':(n:Int)≤4:=by omega
  have hl:=HI.out.len
  obtain ⟨hcp,h0 | ⟨bp,op,rfl,hbp,hcell⟩⟩:=HP.out
  ·rw [h0] at hl;simp at hl;omega
  rw [hl] at h hcp
  rw [hl]
  have HC:Hid (∀ j,j<n→w.cell? ⟨bp,op+j,none⟩=some (.int .i64 (L.getD j 0))):=fun j hj=>hcell j (by omega)
  clear he hd hl hcell
  go_enter Tryz.func19,Tryz.ntmps19
  go_wp2_with fail
  refine h.mono ?_
  rintro e w1 ⟨rfl,hb1⟩
  have hB:Below w.heap.size w w1:=onB HB0.out hb1
  have h2:w1.cell? ⟨w.heap.size,0,none⟩=some (.slice A0 n cap):=(hb1.cell (p:=⟨w.heap.size,0,none⟩) (by show w.heap.size<_;rw [ownOut_size];omega)).trans (ownOut_at ..)
  obtain ⟨hcap,h0 | ⟨b,o,rfl,hMs⟩⟩:=HM.out.later hB
  ·omega
  have HMs:Hid (DimsAt w1 b o n D A C):=hMs
  have HB:Hid (Below w.heap.size w w1):=hB
  have hz:w.heap.size<w1.heap.size:=by have:=hb1.size;rw [ownOut_size] at this;omega
  have HBu:Hid (Buil w1.heap.size w1.heap.size [] (w1.alloc (.cells #[.pointer none,.slice none 0 0] 58))):=Buil.fresh w1
  clear hb1 h hMs hB
  go_wp2_with fail
  go_loopg [19] n (fun g s19 wr => ∃ (k:Nat),k≤n∧g=n-k∧s19=.int .i64 k∧Buil w1.heap.size w1.heap.size (textTo D L k) wr∧Below w1.heap.size w1 wr)
  case atStart=>exact ⟨0,Nat.zero_le _,rfl,rfl,HBu.out,by go_grown⟩
  case round =>
   obtain ⟨k,hk,rfl,rfl,hBu,hBw⟩:=hrel
   have HW:Hid (Below w1.heap.size w1 wr):=hBw
   have HU:Hid (Buil w1.heap.size w1.heap.size (textTo D L k) wr):=hBu
   by_cases hlt:k<n
   ·obtain ⟨h0,h1,h3,-⟩:=(HMs.out.later hBw).2 k hlt
    obtain ⟨-,-,-,h4⟩:=HMs.out.2 k hlt
    have hki:(k:Int)<(n:Int):=by omega
    obtain ⟨hd1,hd2⟩:=HD.out k hlt
    have hx0:=HI.out.lo k hlt
    have hx1:=HI.out.hi k hlt
    have hnm:=(HI.out.name hlt).2
    have htx:=HI.out.short (k:=k) (by omega)
    have hcx:wr.cell? ⟨bp,op+k,none⟩=some (.int .i64 (L.getD k 0)):=((onB HB.out hBw).cell (p:=⟨bp,op+k,none⟩) hbp).trans (HC.out k hlt)
    have hbpz:bp<wr.heap.size:=World.block_lt_of_cell? _ _ hcx
    obtain ⟨X,hX⟩:∃ X:Nat,L.getD k 0=X:=⟨(L.getD k 0).toNat,by omega⟩
    have HNB:Hid (nameB D L k=((D k).mem X).name):=by show _=_;unfold nameB;rw [hX];rfl
    rw [hX] at hx0 hx1 hcx
    rw [HNB.out] at hnm
    have hXn:X<(D k).n:=by omega
    obtain ⟨hcm,h5 | ⟨b',o',hA,hMm⟩⟩:=h4
    ·omega
    have hb'1:b'<w1.heap.size:=hMm.1
    have hb'z:b'<wr.heap.size:=Nat.lt_of_lt_of_le hb'1 hBw.size
    have hn0:=(hBw.cell (p:=⟨b',o'+X*4,none⟩) hb'1).trans (hMm.2 X hXn).1
    have hbp1:bp<w1.heap.size:=Nat.lt_of_lt_of_le hbp HB.out.size
    rw [hA] at h3
    have HT:Hid (textTo D L (k+1)=textTo D L k ++ ((if k=0 then [] else [46]) ++ ((D k).mem X).name.data.toList)):=by show _=_;rw [textTo,HNB.out]
    generalize ((D k).mem X).name=nm at hn0 hnm HT
    generalize (D k).name=dn at h0
    generalize (D k).solve=ds at h1
    generalize (D k).n=m at h3 hx1 hXn hd1 hd2 hcm
    have hXi:(X:Int)<(m:Int):=by omega
    have hm12:(m:Int)≤12:=by omega
    have hBz:=hBw.size
    have hbu:=hBu.lt
    clear hBw hBu hX hMm hA
    by_cases hk0:k=0
    ·have hkd:decide ((0:Int)<(k:Int))=false:=decide_eq_false (by omega)
     have hkd':decide (0<k)=false:=decide_eq_false (by omega)
     obtain ⟨w2,hw2⟩:∃ w2,w2=wr.alloc (.cells #[.string dn,.int .i64 ds,.slice (some ⟨b',o',none⟩) m (C k)] 32):=⟨_,rfl⟩
     have hBo:Below wr.heap.size wr w2:=by rw [hw2];go_grown
     have HWs:Hid (∀ w',Below w2.heap.size w2 w'→Calls Tryz.prog 13 #[.pointer (some ⟨w1.heap.size,0,none⟩),.string nm] w' fun e w''=>e=.returned (.tuple #[.int .i64 nm.size,.nilIface])∧Buil w1.heap.size w1.heap.size (textTo D L (k+1)) w''∧Below w1.heap.size w1 w''):=fun w' hw'=>by
      have hB':=onB hBo hw'
      refine (wstring_any _ _ _ nm w' (HU.out.later hB') (by omega) (by have:=hB'.size;omega)).mono fun e w'' ⟨a1,a2,a3,_⟩=>⟨a1,?_,(onB HW.out hB').trans a3⟩
      rw [HT.out,if_pos hk0,List.nil_append]
      exact a2
     have HW2:Hid (w2=wr.alloc (.cells #[.string dn,.int .i64 ds,.slice (some ⟨b',o',none⟩) m (C k)] 32)):=hw2
     clear hBo hw2 hk0
     go_wp2_with fail
     go_region_law ((go_simp;refine (HWs.out _ (by rw [HW2.out];go_grown)).mono ?_;rintro e w3 ⟨rfl,hB3,hb3⟩))
     all_goals go_wp2_with fail
     all_goals go_roundg (n-(k+1))
     all_goals first | omega | exact ⟨k+1,by omega,rfl,by go_num,hB3,hb3⟩
    ·have hkd:(0:Int)<(k:Int):=by omega
     obtain ⟨wc,hwc⟩:∃ wc,wc=wr.alloc (.cells #[.string dn,.int .i64 ds,.slice (some ⟨b',o',none⟩) m (C k)] 32):=⟨_,rfl⟩
     have hBo:Below wr.heap.size wr wc:=by rw [hwc];go_grown
     have hcz:wc.heap[wr.heap.size]?=some (.cells #[.string dn,.int .i64 ds,.slice (some ⟨b',o',none⟩) m (C k)] 32 (0,0)):=by rw [hwc];exact heap_alloc_new wr _
     have hws:=wstring_any w1.heap.size w1.heap.size (textTo D L k) ⟨#[46]⟩ wc (HU.out.later hBo) (by show _+1≤1000;omega) (by have:=hBo.size;omega)
     have HBo:Hid (Below w1.heap.size w1 wc):=onB HW.out hBo
     have HK0:Hid (¬ k=0):=hk0
     rw [hwc] at hws
     have HWC:Hid (wc=wr.alloc (.cells #[.string dn,.int .i64 ds,.slice (some ⟨b',o',none⟩) m (C k)] 32)):=hwc
     clear hBo hk0 hwc
     go_wp2_with fail
     refine hws.mono ?_
     rintro e w2 ⟨rfl,hB2,hb2,hK2⟩
     rw [←HWC.out] at hb2 hK2
     have hB12:Below w1.heap.size w1 w2:=HBo.out.trans hb2
     have hc2:=kept_dim hK2 hcz (by omega) (by decide)
     have e2:w2.cell? ⟨wr.heap.size,2,none⟩=some (.slice (some ⟨b',o',none⟩) m (C k)):=by rw [Lib.cell_of_heap hc2];rfl
     have hwz:wr.heap.size<w2.heap.size:=(Array.getElem?_eq_some_iff.1 hc2).1
     have ex:w2.cell? ⟨bp,op+k,none⟩=some (.int .i64 X):=by
      rw [hb2.cell (p:=⟨bp,op+k,none⟩) hbp1,HWC.out,World.cell?_alloc_lt _ _ ⟨bp,op+k,none⟩ hbpz];exact hcx
     have en:w2.cell? ⟨b',o'+X*4,none⟩=some (.string nm):=by
      rw [hb2.cell (p:=⟨b',o'+X*4,none⟩) hb'1,HWC.out,World.cell?_alloc_lt _ _ ⟨b',o'+X*4,none⟩ hb'z];exact hn0
     have HWs:Hid (∀ w',Below w2.heap.size w2 w'→Calls Tryz.prog 13 #[.pointer (some ⟨w1.heap.size,0,none⟩),.string nm] w' fun e w''=>e=.returned (.tuple #[.int .i64 nm.size,.nilIface])∧Buil w1.heap.size w1.heap.size (textTo D L (k+1)) w''∧Below w1.heap.size w1 w''):=fun w' hw'=>by
      refine (wstring_any _ _ _ nm w' (hB2.later hw') (by rw [List.length_append];show _+1+_≤1000;omega) (by have:=hw'.size;omega)).mono fun e w'' ⟨a1,a2,a3,_⟩=>⟨a1,?_,(onB hB12 hw').trans a3⟩
      rw [HT.out,if_neg HK0.out,←List.append_assoc]
      exact a2
     clear hws hB2 hb2 hK2 hc2 hcz hcx hn0 h0 h1 h3 hB12
     go_wp2_with fail
     go_region_law ((go_simp;refine (HWs.out _ (by go_grown)).mono ?_;rintro e w3 ⟨rfl,hB3,hb3⟩))
     all_goals go_wp2_with fail
     all_goals go_roundg (n-(k+1))
     all_goals first | omega | exact ⟨k+1,by omega,rfl,by go_num,hB3,hb3⟩
   ·have hke:k=n:=by omega
    subst hke
    have hst:=bstring_any w1.heap.size w1.heap.size (textTo D L k) wr hBu (by have:=hBw.size;omega)
    clear hBu hBw
    go_wp2_with fail
    refine hst.mono ?_
    rintro e w2 ⟨rfl,hb2⟩
    go_wp2_with fail
    go_ret2
    rw [HV.out,HE.out]
    exact ⟨rfl,onB HB.out (HW.out.trans hb2)⟩
 ·have HV:Hid (textV D n L=⟨#[]⟩):=by show _=_;unfold textV;rw [if_neg he]
  have HE:Hid (errV (placeErr D n L)=.iface 70 (.int .i64 (placeErr D n L))):=errV_some he
  rw [errV_some he] at h
  clear he
  generalize placeErr D n L=c at h HE
  generalize L.length=m at h
  go_enter Tryz.func19,Tryz.ntmps19
  go_wp2_with fail
  refine h.mono ?_
  rintro e w1 ⟨rfl,hb1⟩
  go_wp2_with fail
  go_ret2
  rw [HV.out,HE.out]
  exact ⟨rfl,onB HB0.out hb1⟩
end Go.Proofs.YtpoklbfffgpbiaaGreatDoor
