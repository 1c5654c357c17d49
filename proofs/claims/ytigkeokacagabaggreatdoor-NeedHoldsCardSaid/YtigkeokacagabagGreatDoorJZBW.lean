/-
  What was written, on plain data: places in order, entries that rise, what stands at a place, with a number there, without; that what is written is there, and all else as it was.
-/
import Derived.Test.YtigkeokacagabagGreatDoorJZBF
import Derived.Test.YtigkeokacagabagGreatDoorJZBR
import Derived.Test.YtigkeokacagabagGreatDoorJZBV
namespace Go.Proofs.YtigkeokacagabagGreatDoor
theorem lessL_ne {a b:List Int} (h:lessL a b=true):a≠b:=fun e=>by rw [e,lessL_self] at h;cases h
def setL (l:List En) (p:List Int) (x:Int):List En:=l.take (cntE l p) ++ ⟨p,x⟩ :: l.drop (cntE l p+(if hasE l p=true then 1 else 0))
def clrL (l:List En) (p:List Int):List En:=l.take (cntE l p) ++ l.drop (cntE l p+1)
theorem get_same {l m:List En} (hl:l.Pairwise fun a b=>lessL a.pl b.pl=true) (hm:m.Pairwise fun a b=>lessL a.pl b.pl=true) {q:List Int} (h:∀ e,e.pl=q→(e∈l↔e∈m)):getE l q=getE m q:=by
 by_cases he:∃ e∈l,e.pl=q
 ·obtain ⟨e,h1,rfl⟩:=he
  rw [get_mem hl h1,get_mem hm ((h e rfl).1 h1)]
 ·have h1:∀ e∈l,e.pl≠q:=fun e h1 h2=>he ⟨e,h1,h2⟩
  have h2:∀ e∈m,e.pl≠q:=fun e h2 h3=>h1 e ((h e h3).2 h2) h3
  rw [(get_none hl h1).1,(get_none hm h2).1]
theorem rise_join {A B:List En} {p:List Int} {x:Int} (hA:∀ e∈A,lessL e.pl p=true) (hB:∀ e∈B,lessL p e.pl=true) (h1:A.Pairwise fun a b=>lessL a.pl b.pl=true) (h2:B.Pairwise fun a b=>lessL a.pl b.pl=true):(A ++ ⟨p,x⟩ :: B).Pairwise fun a b=>lessL a.pl b.pl=true:=by
 refine List.pairwise_append.2 ⟨h1,List.Pairwise.cons (fun e he=>hB e he) h2,fun a ha b hb=>?_⟩
 rcases List.mem_cons.1 hb with rfl | hb
 ·exact hA a ha
 ·exact lessL_trans _ _ _ (hA a ha) (hB b hb)
theorem set_parts {l:List En} (h:l.Pairwise fun a b=>lessL a.pl b.pl=true) (p:List Int) (x:Int) :
  (setL l p x).Pairwise (fun a b=>lessL a.pl b.pl=true)∧(∀ e,e∈setL l p x↔e=⟨p,x⟩∨(e∈l∧e.pl≠p))∧(setL l p x).length=l.length+(if hasE l p=true then 0 else 1):=by
 obtain ⟨A,B,hTA,hA,hB,⟨h1,hd,h2,_⟩ | ⟨y,h1,hd,h2,_⟩⟩:=cut_rise h p
 ·have e:setL l p x=A ++ ⟨p,x⟩ :: B:=by unfold setL;rw [hTA,h1,if_neg (by simp),Nat.add_zero,hd]
  rw [e,h1]
  have hpw:=h
  rw [h2] at hpw
  obtain ⟨p1,p2,_⟩:=List.pairwise_append.1 hpw
  refine ⟨rise_join hA hB p1 p2,fun z=>?_,by rw [h2];simp;omega⟩
  rw [h2]
  constructor
  ·intro hz
   rcases List.mem_append.1 hz with hz | hz
   ·exact Or.inr ⟨List.mem_append.2 (Or.inl hz),lessL_ne (hA z hz)⟩
   ·rcases List.mem_cons.1 hz with hz | hz
    ·exact Or.inl hz
    ·exact Or.inr ⟨List.mem_append.2 (Or.inr hz),fun e=>lessL_ne (hB z hz) e.symm⟩
  ·rintro (hz | ⟨hz,_⟩)
   ·rw [hz];simp
   ·rcases List.mem_append.1 hz with hz | hz
    ·exact List.mem_append.2 (Or.inl hz)
    ·exact List.mem_append.2 (Or.inr (List.mem_cons_of_mem _ hz))
 ·have e:setL l p x=A ++ ⟨p,x⟩ :: B:=by
   unfold setL
   rw [hTA,h1,if_pos rfl,←List.drop_drop,hd]
   rfl
  rw [e,h1]
  have hpw:=h
  rw [h2] at hpw
  obtain ⟨p1,p2,_⟩:=List.pairwise_append.1 hpw
  refine ⟨rise_join hA hB p1 (List.pairwise_cons.1 p2).2,fun z=>?_,by rw [h2];simp⟩
  rw [h2]
  constructor
  ·intro hz
   rcases List.mem_append.1 hz with hz | hz
   ·exact Or.inr ⟨List.mem_append.2 (Or.inl hz),lessL_ne (hA z hz)⟩
   ·rcases List.mem_cons.1 hz with hz | hz
    ·exact Or.inl hz
    ·exact Or.inr ⟨List.mem_append.2 (Or.inr (List.mem_cons_of_mem _ hz)),fun e=>lessL_ne (hB z hz) e.symm⟩
  ·rintro (hz | ⟨hz,hne⟩)
   ·rw [hz];simp
   ·rcases List.mem_append.1 hz with hz | hz
    ·exact List.mem_append.2 (Or.inl hz)
    ·rcases List.mem_cons.1 hz with hz | hz
     ·exact absurd (by rw [hz]) hne
     ·exact List.mem_append.2 (Or.inr (List.mem_cons_of_mem _ hz))
theorem clr_parts {l:List En} (h:l.Pairwise fun a b=>lessL a.pl b.pl=true) (p:List Int) (hh:hasE l p=true) :
  (clrL l p).Pairwise (fun a b=>lessL a.pl b.pl=true)∧(∀ e,e∈clrL l p↔e∈l∧e.pl≠p)∧(clrL l p).length+1=l.length:=by
 obtain ⟨A,B,hTA,hA,hB,⟨h1,_⟩ | ⟨y,h1,hd,h2,_⟩⟩:=cut_rise h p
 ·rw [h1] at hh;cases hh
 ·have e:clrL l p=A ++ B:=by
   unfold clrL
   rw [hTA,←List.drop_drop,hd]
   rfl
  rw [e]
  have hpw:=h
  rw [h2] at hpw
  obtain ⟨p1,p2,_⟩:=List.pairwise_append.1 hpw
  refine ⟨List.pairwise_append.2 ⟨p1,(List.pairwise_cons.1 p2).2,fun a ha b hb=>lessL_trans _ _ _ (hA a ha) (hB b hb)⟩,fun z=>?_,by rw [h2];simp;omega⟩
  rw [h2]
  constructor
  ·intro hz
   rcases List.mem_append.1 hz with hz | hz
   ·exact ⟨List.mem_append.2 (Or.inl hz),lessL_ne (hA z hz)⟩
   ·exact ⟨List.mem_append.2 (Or.inr (List.mem_cons_of_mem _ hz)),fun e=>lessL_ne (hB z hz) e.symm⟩
  ·rintro ⟨hz,hne⟩
   rcases List.mem_append.1 hz with hz | hz
   ·exact List.mem_append.2 (Or.inl hz)
   ·rcases List.mem_cons.1 hz with hz | hz
    ·exact absurd (by rw [hz]) hne
    ·exact List.mem_append.2 (Or.inr hz)
theorem Ens.set {D:Nat→Dm} {n:Nat} {l:List En} (h:Ens D n l) {p:List Int} {x:Int} (hp:InO D n p) (hf:leafV D n p=true) (hx:numOk x=true):Ens D n (setL l p x):=by
 obtain ⟨h1,h2,_⟩:=set_parts h.rise p x
 refine ⟨h.right,fun e he=>?_,h1⟩
 rcases (h2 e).1 he with rfl | ⟨h3,_⟩
 ·exact ⟨hp,hf,hx⟩
 ·exact h.each e h3
theorem Ens.clr {D:Nat→Dm} {n:Nat} {l:List En} (h:Ens D n l) {p:List Int} (hh:hasE l p=true):Ens D n (clrL l p):=by
 obtain ⟨h1,h2,_⟩:=clr_parts h.rise p hh
 exact ⟨h.right,fun e he=>h.each e ((h2 e).1 he).1,h1⟩
theorem Ens.else {D:Nat→Dm} {n:Nat} {l:List En} (h:Ens D n l) {p q:List Int} (hq:q≠p) (x:Int):getE (setL l p x) q=getE l q:=by
 obtain ⟨h1,h2,_⟩:=set_parts h.rise p x
 refine get_same h1 h.rise fun e he=>?_
 rw [h2]
 constructor
 ·rintro (h3 | h3)
  ·exact absurd (by rw [←he,h3]) hq
  ·exact h3.1
 ·exact fun h3=>Or.inr ⟨h3,by rw [he];exact hq⟩
structure Ed where
 pl:List Int
 n:Int
 clear:Bool
def editErr (D:Nat→Dm) (n:Nat) (l:List En) (x:Ed):Int :=
 if shapeErr D n x.pl≠0 then shapeErr D n x.pl
 else if x.clear=true then (if hasE l x.pl=true then 0 else 5)
 else if leafV D n x.pl=false then 6
 else if numOk x.n=false then 1
 else 0
def editV (l:List En) (x:Ed):List En:=if x.clear=true then clrL l x.pl else setL l x.pl x.n
theorem Ens.edit {D:Nat→Dm} {n:Nat} {l:List En} (h:Ens D n l) {x:Ed} (hx:editErr D n l x=0):InO D n x.pl∧Ens D n (editV l x):=by
 unfold editErr at hx
 split at hx
 ·rename_i h1;exact absurd hx h1
 ·rename_i h1
  have hI:InO D n x.pl:=inO_of (by rw [pe1 h.right];simpa using h1)
  refine ⟨hI,?_⟩
  unfold editV
  split at hx
  ·rename_i h2
   split at hx
   ·rename_i h3
    rw [if_pos h2]
    exact h.clr h3
   ·cases hx
  ·rename_i h2
   rw [if_neg h2]
   split at hx
   ·cases hx
   ·split at hx
    ·cases hx
    ·rename_i h3 h4
     exact h.set hI (by simpa using h3) (by simpa using h4)
end Go.Proofs.YtigkeokacagabagGreatDoor
namespace Go.Proofs.YtigkeokacagabagGreatDoor
open Go Go.ChangeShapes Go.WideShapes Go.ChangeAt Go.RowKit Go.Deep
set_option maxRecDepth 100000
theorem open_place {H:Type} {enc:TypeId×Value→H} {w:World} {held:Bool} {r:Reach} {b0:Nat} {v:Value} {d:DataW H} {p:List MemPlace} (hv:Value.okWide Tryz.prog w r b0 44 v) (h:DataW.Trod enc Tryz.prog w 0 (fun _=>true) held 44 v d p) :
  ∃ (Ap:Option Addr) (cp:Nat) (L:List Int),v=.slice Ap L.length cp∧PlAt w Ap cp L:=by
 obtain ⟨a,len,cap,rfl⟩:=okWide_slice Tryz.underlying44 hv
 obtain ⟨fuel,hf⟩:=h
 have hf':DataW.trod enc Tryz.prog w 0 (fun _=>true) held fuel 44 [.slice a len cap]=some (d,p):=hf
 rcases open_ints Tryz.underlying44 Tryz.underlying3 (by kernel_rfl) hf' with ⟨e,_⟩ | ⟨a',len',cap',zs,e,_,hl,_,hzl,_,hc,_⟩
 ·simp at e
  obtain ⟨rfl,rfl,rfl⟩:=e
  exact ⟨none,0,[],rfl,PlAt.nil _ _ _⟩
 ·simp at e hzl
  obtain ⟨rfl,rfl,rfl⟩:=e
  have hlen:(zs.take len).length=len:=by simp;omega
  refine ⟨some a',cap,zs.take len,by rw [hlen],by rw [hlen];exact hl,?_⟩
  rcases Nat.eq_zero_or_pos len with h0 | h0
  ·left
   subst h0
   simp
  right
  have c0:=hc 0 (by omega)
  have hp:=addr_plain c0 rfl
  have hb:=World.block_lt_of_cell? _ _ c0
  refine ⟨a'.block,a'.off,by rw [←hp],by simpa [Addr.add] using hb,fun j hj=>?_⟩
  rw [hlen] at hj
  have:=hc j (by omega)
  rw [hp,plain_add] at this
  rw [this]
  simp [List.getD,hj]
theorem cellsE_append (a b:List EnL):cellsE (a ++ b)=cellsE a ++ cellsE b:=by
 induction a with
 | nil=>rfl
 | cons x r ih=>simp [cellsE,ih]
theorem cellsE_take (xs:List EnL):∀ k,(cellsE xs).take (k*2)=cellsE (xs.take k):=by
 induction xs with
 | nil=>intro k;simp [cellsE]
 | cons x r ih =>
  intro k
  cases k with
  | zero=>simp [cellsE]
  | succ k=>rw [show (k+1)*2=k*2+1+1 by omega];simp [cellsE,ih]
theorem cellsE_drop (xs:List EnL):∀ k,(cellsE xs).drop (k*2)=cellsE (xs.drop k):=by
 induction xs with
 | nil=>intro k;simp [cellsE]
 | cons x r ih =>
  intro k
  cases k with
  | zero=>simp
  | succ k=>rw [show (k+1)*2=k*2+1+1 by omega];simp [cellsE,ih]
theorem cellsE_one (xs:List EnL):∀ v∈cellsE xs,v.oneCell'=true:=by
 induction xs with
 | nil=>intro v hv;cases hv
 | cons x r ih =>
  intro v hv
  simp only [cellsE,List.mem_cons] at hv
  rcases hv with rfl | rfl | hv
  ·rfl
  ·rfl
  ·exact ih v hv
end Go.Proofs.YtigkeokacagabagGreatDoor
namespace Go.Proofs.YtigkeokacagabagGreatDoor
theorem cmpL_neg (a b:List Int):decide (cmpL a b<0)=lessL a b:=by
 rcases cmpL_three a b with ⟨e1,e2,_⟩ | ⟨e1,e2,_⟩ | ⟨e1,e2,_⟩ <;> rw [e1,e2] <;> rfl
theorem cnt_at:∀ (l:List En) (p:List Int) (i:Nat),i≤l.length→(∀ t,t<i→lessL (l.getD t noEn).pl p=true)→(i<l.length→lessL (l.getD i noEn).pl p=false)→cntE l p=i
 | [],p,i,hi,_,_=>by simp at hi;subst hi;rfl
 | e :: r,p,0,_,_,h2=>by
  have h3:=h2 (by simp)
  simp at h3
  simp [cntE,h3]
 | e :: r,p,i+1,hi,h1,h2=>by
  have h3:=h1 0 (by omega)
  simp at h3
  have h4:=cnt_at r p i (by simpa using hi) (fun t ht=>by simpa using h1 (t+1) (by omega)) (fun ht=>by simpa using h2 (by simpa using ht))
  unfold cntE at h4 ⊢
  rw [List.takeWhile_cons,if_pos h3,List.length_cons,h4]
theorem cnt_le (l:List En) (p:List Int):cntE l p≤l.length:=by
 unfold cntE
 exact (List.takeWhile_sublist _).length_le
theorem has_in {l:List En} {p:List Int} {i:Nat} (h:cntE l p=i) (hi:i<l.length):hasE l p = !lessL p (l.getD i noEn).pl∧getE l p=if lessL p (l.getD i noEn).pl=true then (0,0) else (1,(l.getD i noEn).n):=by
 have e:l.drop (cntE l p)=l.getD i noEn :: l.drop (i+1):=by rw [h,drop_en l hi]
 unfold hasE getE
 rw [e]
 exact ⟨rfl,rfl⟩
theorem has_out {l:List En} {p:List Int} {i:Nat} (h:cntE l p=i) (hi:l.length≤i):hasE l p=false∧getE l p=(0,0):=by
 have e:l.drop (cntE l p)=[]:=by rw [h,List.drop_eq_nil_of_le hi]
 unfold hasE getE
 rw [e]
 exact ⟨rfl,rfl⟩
theorem rise_at {l:List En} (h:l.Pairwise fun a b=>lessL a.pl b.pl=true) {a b:Nat} (hab:a<b) (hb:b<l.length):lessL (l.getD a noEn).pl (l.getD b noEn).pl=true:=by
 have:=List.pairwise_iff_getElem.1 h a b (by omega) hb hab
 rw [List.getD_eq_getElem?_getD,List.getD_eq_getElem?_getD,List.getElem?_eq_getElem hb,List.getElem?_eq_getElem (by omega:a<l.length)]
 exact this
theorem less_mono {l:List En} (h:l.Pairwise fun a b=>lessL a.pl b.pl=true) {p:List Int} {a b:Nat} (hab:a≤b) (hb:b<l.length) (hl:lessL (l.getD b noEn).pl p=true):lessL (l.getD a noEn).pl p=true:=by
 rcases Nat.eq_or_lt_of_le hab with rfl | h1
 ·exact hl
 ·exact lessL_trans _ _ _ (rise_at h h1 hb) hl
theorem has_cmp {l:List En} {p:List Int} {i:Nat} (h:cntE l p=i) (hi:i<l.length):decide (cmpL (l.getD i noEn).pl p=0)=hasE l p:=by
 have h1:lessL (l.getD i noEn).pl p=false:=by
  have e:l.dropWhile (fun e=>lessL e.pl p)=l.getD i noEn :: l.drop (i+1):=by rw [←drop_while];show l.drop (cntE l p)=_;rw [h,drop_en l hi]
  exact head_while (q:=fun e:En=>lessL e.pl p) e
 rw [(has_in h hi).1]
 rcases cmpL_three (l.getD i noEn).pl p with ⟨_,e2,_⟩ | ⟨e1,_,e3⟩ | ⟨e1,_,e3⟩
 ·rw [e2] at h1;cases h1
 ·rw [e1,e3,lessL_self];rfl
 ·rw [e1]
  rcases lessL_total _ _ e3 with h2 | h2
  ·rw [h2] at h1;cases h1
  ·rw [h2];rfl
end Go.Proofs.YtigkeokacagabagGreatDoor
namespace Go.Proofs.YtigkeokacagabagGreatDoor
open Go Go.ChangeShapes Go.WideShapes Go.ChangeAt Go.RowKit
set_option maxRecDepth 20000
theorem ent_ne_int:(3:Nat)≠46:=by decide
theorem grown_trans {w w1 w2:World} {r:Option Nat} (h:w.grownBy w1 r) (k:w1.grownBy w2 r):w.grownBy w2 r :=
 ⟨k.os.trans h.os,k.tape.trans h.tape,k.output.trans h.output,Nat.le_trans h.size k.size,fun i hi hr=>(k.block i (Nat.lt_of_lt_of_le hi h.size) hr).trans (h.block i hi hr)⟩
theorem grown_setRow (w:World) (g:Nat) (cs:Array Value):w.grownBy (w.setRow g cs) (some g) :=
 ⟨rfl,rfl,rfl,by rw [setRow_size];exact Nat.le_refl _,fun i _ hr=>setRow_other w g i cs fun e=>hr (by rw [e])⟩
theorem below_grown {B:Nat} {w0 w w':World} {g:Nat} (h:Below B w0 w) (hg:w.grownBy w' (some g)) (hB:B≤w.heap.size) (hr:B≤g):Below B w0 w' :=
 h.grown hg hB fun k hk=>by cases hk;exact hr
theorem PlTy.pl {w:World} {A:Option Addr} {c:Nat} {L:List Int} (h:PlTy w A c L):PlAt w A c L:=by
 obtain ⟨h1,h2 | ⟨b,o,cs,fr,h2,h3,h4⟩⟩:=h
 ·exact ⟨h1,Or.inl h2⟩
 ·exact ⟨h1,Or.inr ⟨b,o,h2,(Array.getElem?_eq_some_iff.1 h3).1,h4⟩⟩
theorem PlTy.nil (w:World) (A:Option Addr) (c:Nat):PlTy w A c []:=⟨Nat.zero_le _,Or.inl rfl⟩
theorem PlTy.grown {w w':World} {A:Option Addr} {c g:Nat} {L:List Int} {cur:Array Value} {fr:Nat×Nat} (h:PlTy w A c L) (hg:w.heap[g]?=some (.cells cur 46 fr)) (hG:w.grownBy w' (some g)):PlTy w' A c L:=by
 obtain ⟨h1,h2 | ⟨b,o,cs,fr',h2,h3,h4⟩⟩:=h
 ·exact ⟨h1,Or.inl h2⟩
 ·have hne:b≠g:=fun e=>by
   rw [e,hg] at h3
   simp only [Option.some.injEq,Obj.cells.injEq] at h3
   exact ent_ne_int h3.2.1.symm
  have hb:w'.heap[b]?=w.heap[b]?:=hG.block b (Array.getElem?_eq_some_iff.1 h3).1 fun e=>hne (by simpa using e)
  exact ⟨h1,Or.inr ⟨b,o,cs,fr',h2,hb.trans h3,fun j hj=>(World.cell?_of_block (a:=⟨b,o+j,none⟩) hb).trans (h4 j hj)⟩⟩
theorem PlTy.later {w w':World} {A:Option Addr} {c:Nat} {L:List Int} (h:PlTy w A c L) (hB:Below w.heap.size w w'):PlTy w' A c L:=by
 obtain ⟨h1,h2 | ⟨b,o,cs,fr',h2,h3,h4⟩⟩:=h
 ·exact ⟨h1,Or.inl h2⟩
 ·have hb:w'.heap[b]?=w.heap[b]?:=hB.block b (Array.getElem?_eq_some_iff.1 h3).1
  exact ⟨h1,Or.inr ⟨b,o,cs,fr',h2,hb.trans h3,fun j hj=>(World.cell?_of_block (a:=⟨b,o+j,none⟩) hb).trans (h4 j hj)⟩⟩
theorem plty_own {w:World} {base:Nat} {v:Value} {L:List Int} (h:w.ownsRow base 3 1 v L.length (L.map (Value.int .i64))):∃ A c,v=.slice A L.length c∧PlTy w A c L:=by
 rcases h.2 with ⟨rfl,h0⟩ | ⟨g,cap,cur,rfl,hb,hg,hc,_,_,_⟩
 ·have:L=[]:=List.eq_nil_of_length_eq_zero h0
  subst this
  exact ⟨none,0,rfl,PlTy.nil _ _ _⟩
 ·refine ⟨_,cap,rfl,hc,Or.inr ⟨g,0,cur,_,rfl,hg,fun j hj=>?_⟩⟩
  have hx:=h.cells (g:=g) rfl j (.int .i64 (L.getD j 0)) (by simp [List.getD,List.getElem?_eq_getElem hj])
  have hadd:(⟨g,0,none⟩:Addr).add j=⟨g,j,none⟩:=by unfold Addr.add;split <;> simp_all
  rw [hadd] at hx
  rw [Nat.zero_add]
  exact hx
def RowE (w:World) (g cap:Nat) (xs:List EnL):Prop:=(∃ cur:Array Value,w.heap[g]?=some (.cells cur 46 (0,0))∧cur.size=cap*2∧cur.toList.take (xs.length*2)=cellsE xs)∧xs.length≤cap∧cap≤maxLen∧∀ x∈xs,PlTy w x.A x.c x.e.pl
section
variable {w w':World} {g cap:Nat} {xs:List EnL}
theorem RowE.lt (h:RowE w g cap xs):g<w.heap.size:=by
 obtain ⟨⟨cur,h1,_⟩,_⟩:=h
 exact (Array.getElem?_eq_some_iff.1 h1).1
theorem RowE.cells (h:RowE w g cap xs):∀ j u,(cellsE xs)[j]?=some u→w.cell? ⟨g,j,none⟩=some u:=by
 obtain ⟨⟨cur,h1,h2,h3⟩,_⟩:=h
 intro j u hj
 have hlt:=(List.getElem?_eq_some_iff.1 hj).1
 rw [cellsE_len] at hlt
 rw [←h3,List.getElem?_take,if_pos hlt,Array.getElem?_toList] at hj
 simp [World.cell?,h1,hj]
theorem RowE.full (h:RowE w g cap xs) {j:Nat} (hj:j<cap*2):(w.cell? ⟨g,j,none⟩).isSome=true:=by
 obtain ⟨⟨cur,h1,h2,h3⟩,_⟩:=h
 simp [World.cell?,h1,h2,hj]
theorem RowE.frozen (h:RowE w g cap xs) (j:Nat):w.frozen? ⟨g,j,none⟩=false:=by
 obtain ⟨⟨cur,h1,_⟩,_⟩:=h
 simp [World.frozen?,h1]
theorem RowE.ens (h:RowE w g cap xs):EnsAt w g 0 xs:=⟨h.lt,fun j u hj=>by rw [Nat.zero_add];exact h.cells j u hj,fun x hx=>(h.2.2.2 x hx).pl⟩
theorem RowE.ensV (h:RowE w g cap xs):EnsV w (some ⟨g,0,none⟩) cap xs:=⟨h.2.1,by have:=h.2.2.1;unfold maxLen at this;omega,Or.inr ⟨g,0,rfl,h.ens⟩⟩
theorem RowE.later (h:RowE w g cap xs) (hB:Below w.heap.size w w'):RowE w' g cap xs:=by
 have hlt:=h.lt
 obtain ⟨⟨cur,h1,h2,h3⟩,h4,h5,h6⟩:=h
 exact ⟨⟨cur,(hB.block g hlt).trans h1,h2,h3⟩,h4,h5,fun x hx=>(h6 x hx).later hB⟩
theorem RowE.own (h:RowE w g cap xs) {base:Nat} (hb:base≤g):w.ownsRow base 46 2 (.slice (some ⟨g,0,none⟩) xs.length cap) xs.length (cellsE xs):=by
 obtain ⟨⟨cur,h1,h2,h3⟩,h4,h5,h6⟩:=h
 exact ⟨cellsE_len xs,Or.inr ⟨g,cap,cur,rfl,hb,h1,h4,h5,h2,h3⟩⟩
theorem row_own {base:Nat} {v:Value} (h:w.ownsRow base 46 2 v xs.length (cellsE xs)) (hv:v≠.slice none 0 0) (hp:∀ x∈xs,PlTy w x.A x.c x.e.pl):∃ g cap,v=.slice (some ⟨g,0,none⟩) xs.length cap∧base≤g∧RowE w g cap xs:=by
 rcases h.2 with ⟨h0,_⟩ | ⟨g,cap,cur,rfl,hb,hg,h4,h5,h2,h3⟩
 ·exact absurd h0 hv
 ·exact ⟨g,cap,rfl,hb,⟨cur,hg,h2,h3⟩,h4,h5,hp⟩
theorem RowE.lay (h:RowE w g cap xs) {cs:List Value} {ys:List EnL} (hs:cs.length=cap*2) (ht:cs.take (ys.length*2)=cellsE ys) (hl:ys.length≤cap) (hp:∀ y∈ys,PlTy w y.A y.c y.e.pl):RowE (w.setRow g cs.toArray) g cap ys:=by
 obtain ⟨⟨cur,h1,h2,h3⟩,h4,h5,h6⟩:=h
 exact ⟨⟨cs.toArray,setRow_heap w g cur _ _ _ h1,by simpa using hs,by simpa using ht⟩,hl,h5,fun y hy=>(hp y hy).grown h1 (grown_setRow ..)⟩
end
theorem setCells_row (g:Nat) (t:TypeId):∀ (vs:List Value) (o:Nat) (cur:Array Value) (w:World),w.heap[g]?=some (.cells cur t (0,0))→o+vs.length≤cur.size→w.setCells g o vs=w.setRow g (cur.toList.take o ++ vs ++ cur.toList.drop (o+vs.length)).toArray
 | [],o,cur,w,hg,_=>by
  simp only [World.setCells,List.append_nil,List.length_nil,Nat.add_zero,List.take_append_drop,Array.toArray_toList]
  rw [setRow_self w g cur t (0,0) hg]
 | v :: r,o,cur,w,hg,hl=>by
  simp only [List.length_cons] at hl
  rw [World.setCells,setCell_eq_setRow w g o cur t (0,0) v hg,setCells_row g t r (o+1) (cur.setIfInBounds o v) _ (setRow_heap w g cur _ t _ hg) (by simp;omega),setRow_setRow]
  have e:=list_seg_step cur.toList o v r (by simp;omega)
  congr 2
  simpa [Array.toList_setIfInBounds,Nat.add_assoc] using e
variable {P:Program}
theorem run_copy_k (k:Nat) (w:World) (dT sT ty elem:TypeId) (g o dLen dCap:Nat) (a:Addr) (sLen sCap:Nat) (cur:Array Value) (t:TypeId) (cs:List Value)
  (hu:P.underlying dT=some (.slice elem)) (hs:(P.info? elem).map (·.size)=some k)
  (hg:w.heap[g]?=some (.cells cur t (0,0))) (hn:cs.length=Nat.min sLen dLen*k)
  (hsrc:∀ j v,cs[j]?=some v→w.cell? (a.add j)=some v) (hfit:o+cs.length≤cur.size) (h1:∀ v∈cs,v.oneCell'=true) :
  (Builtin.copy_ #[dT,sT] ty #[.slice (some ⟨g,o,none⟩) dLen dCap,.slice (some a) sLen sCap]).run P w =
   .ok (goInt (Nat.min sLen dLen)) (w.setRow g (cur.toList.take o ++ cs ++ cur.toList.drop (o+cs.length)).toArray):=by
 have hl:=run_loadCells_list (P:=P) w a cs hsrc
 have hst:=run_storeCells_at P g o t cs 0 cur w hg (by simpa using hfit) h1
 rw [hn] at hl
 cases hq:P.info? elem with
 | none=>simp [hq] at hs
 | some i =>
  have hi:i.size=k:=by simpa [hq] using hs
  simp [Builtin.copy_,run_underlying hu,Builtin.lenOf,Builtin.firstCells,sizeOf,typeInfo,hq,hi,hl,hst]
theorem take_join {α:Type} {a b:List α} {k:Nat} (h:a.length=k):(a ++ b).take k=a:=by subst h;simp
theorem drop_join {α:Type} {a b:List α} {k:Nat} (h:a.length=k):(a ++ b).drop k=b:=by subst h;simp
theorem head_cells {C:List Value} {xs:List EnL} (hC:C.take (xs.length*2)=cellsE xs) {i:Nat} (hi:i≤xs.length):C.take (i*2)=cellsE (xs.take i):=by
 rw [←cellsE_take,←hC,List.take_take,Nat.min_eq_left (by omega)]
theorem ins_cells {C C1 C2:List Value} {xs:List EnL} {x:EnL} {i:Nat} (hC:C.take (xs.length*2)=cellsE xs) (hlen:(xs.length+1)*2≤C.length) (hi:i≤xs.length)
  (h1:C1=C.take ((i+1)*2) ++ cellsE (xs.drop i) ++ C.drop ((i+1)*2+(cellsE (xs.drop i)).length)) (h2:C2=C1.take (i*2) ++ cellsE [x] ++ C1.drop (i*2+(cellsE [x]).length)) :
  C2.length=C.length∧C2.take ((xs.take i ++ x :: xs.drop i).length*2)=cellsE (xs.take i ++ x :: xs.drop i):=by
 have hd:(cellsE (xs.drop i)).length=(xs.length-i)*2:=by rw [cellsE_len,List.length_drop]
 have hx:(cellsE [x]).length=2:=by rw [cellsE_len];rfl
 have e1:C1.take (i*2)=cellsE (xs.take i):=by
  rw [h1,List.append_assoc,List.take_append_of_le_length (by rw [List.length_take];omega),List.take_take,Nat.min_eq_left (by omega)]
  exact head_cells hC hi
 have e2:C1.drop (i*2+(cellsE [x]).length)=cellsE (xs.drop i) ++ C.drop ((i+1)*2+(cellsE (xs.drop i)).length):=by
  rw [h1,List.append_assoc,hx]
  exact drop_join (by rw [List.length_take];omega)
 rw [h2,e1,e2]
 refine ⟨?_,?_⟩
 ·simp only [List.length_append,cellsE_len,List.length_take,List.length_drop,List.length_cons,List.length_nil]
  omega
 ·have hl:(xs.take i ++ x :: xs.drop i).length=xs.length+1:=by simp;omega
  rw [hl,←List.append_assoc]
  rw [show cellsE (xs.take i ++ x :: xs.drop i)=cellsE (xs.take i) ++ cellsE [x] ++ cellsE (xs.drop i) by rw [show x :: xs.drop i=[x] ++ xs.drop i from rfl,cellsE_append,cellsE_append,List.append_assoc]]
  exact take_join (by simp only [List.length_append,cellsE_len,List.length_take,List.length_drop,List.length_cons,List.length_nil];omega)
theorem grow_cells {C C1 C2:List Value} {xs:List EnL} {x:EnL} {i:Nat} (hC:C.take (i*2)=cellsE (xs.take i)) (hlen:(xs.length+1)*2≤C.length) (hi:i≤xs.length)
  (h1:C1=C.take (i*2) ++ cellsE [x] ++ C.drop (i*2+(cellsE [x]).length)) (h2:C2=C1.take ((i+1)*2) ++ cellsE (xs.drop i) ++ C1.drop ((i+1)*2+(cellsE (xs.drop i)).length)) :
  C2.length=C.length∧C2.take ((xs.take i ++ x :: xs.drop i).length*2)=cellsE (xs.take i ++ x :: xs.drop i):=by
 have hd:(cellsE (xs.drop i)).length=(xs.length-i)*2:=by rw [cellsE_len,List.length_drop]
 have hx:(cellsE [x]).length=2:=by rw [cellsE_len];rfl
 have hc1:C1.length=C.length:=by
  rw [h1,hC]
  simp only [List.length_append,cellsE_len,List.length_take,List.length_drop,List.length_cons,List.length_nil]
  omega
 have e1:C1.take ((i+1)*2)=cellsE (xs.take i) ++ cellsE [x]:=by
  rw [h1,hC]
  exact take_join (by simp only [List.length_append,cellsE_len,List.length_take,List.length_cons,List.length_nil];omega)
 rw [h2,e1]
 refine ⟨?_,?_⟩
 ·simp only [List.length_append,cellsE_len,List.length_take,List.length_drop,List.length_cons,List.length_nil,hc1]
  omega
 ·have hl:(xs.take i ++ x :: xs.drop i).length=xs.length+1:=by simp;omega
  rw [hl]
  rw [show cellsE (xs.take i ++ x :: xs.drop i)=cellsE (xs.take i) ++ cellsE [x] ++ cellsE (xs.drop i) by rw [show x :: xs.drop i=[x] ++ xs.drop i from rfl,cellsE_append,cellsE_append,List.append_assoc]]
  exact take_join (by simp only [List.length_append,cellsE_len,List.length_take,List.length_drop,List.length_cons,List.length_nil];omega)
theorem cellsE_set {xs:List EnL}:∀ {i:Nat} (n:Int),i<xs.length→(cellsE xs).set (i*2+1) (.int .i64 n)=cellsE (xs.set i ⟨⟨(xs.getD i noL).e.pl,n⟩,(xs.getD i noL).A,(xs.getD i noL).c⟩):=by
 induction xs with
 | nil=>intro i n h;cases h
 | cons x r ih =>
  intro i n h
  cases i with
  | zero=>simp [cellsE]
  | succ i =>
   rw [show (i+1)*2+1=(i*2+1)+1+1 by omega]
   simp only [cellsE,List.set_cons_succ,List.getD_cons_succ]
   rw [ih n (by simpa using h)]
theorem RowE.setN {w:World} {g cap:Nat} {xs:List EnL} (h:RowE w g cap xs) {i:Nat} (hi:i<xs.length) (n:Int):RowE (w.setCell ⟨g,i*2+1,none⟩ (.int .i64 n)) g cap (xs.set i ⟨⟨(xs.getD i noL).e.pl,n⟩,(xs.getD i noL).A,(xs.getD i noL).c⟩)∧w.grownBy (w.setCell ⟨g,i*2+1,none⟩ (.int .i64 n)) (some g):=by
 obtain ⟨⟨cur,h1,h2,h3⟩,h4,h5,h6⟩:=h
 rw [setCell_eq_setRow w g (i*2+1) cur _ (0,0) _ h1]
 refine ⟨?_,grown_setRow ..⟩
 refine ⟨⟨_,setRow_heap w g cur _ _ _ h1,by simpa using h2,?_⟩,by simpa using h4,h5,fun y hy=>?_⟩
 ·rw [Array.toList_setIfInBounds,List.length_set,←cellsE_set n hi,←h3,List.take_set]
 ·refine PlTy.grown (g:=g) ?_ h1 (grown_setRow ..)
  rcases List.mem_or_eq_of_mem_set hy with hy | rfl
  ·exact h6 y hy
  ·exact h6 (xs.getD i noL) (enl_mem hi)
theorem lE_append (a b:List EnL):lE (a ++ b)=lE a ++ lE b:=by simp [lE]
theorem lE_ins (xs:List EnL) (x:EnL) (i:Nat):lE (xs.take i ++ x :: xs.drop i)=(lE xs).take i ++ x.e :: (lE xs).drop i:=by simp [lE]
theorem set_new {l:List En} {p:List Int} (h:hasE l p=false) (n:Int):setL l p n=l.take (cntE l p) ++ ⟨p,n⟩ :: l.drop (cntE l p):=by unfold setL;rw [h];rfl
theorem set_old {l:List En} {p:List Int} (h:hasE l p=true) (n:Int):setL l p n=l.set (cntE l p) ⟨(l.getD (cntE l p) noEn).pl,n⟩∧cntE l p<l.length∧(l.getD (cntE l p) noEn).pl=p:=by
 have hi:cntE l p<l.length:=by
  rcases Nat.lt_or_ge (cntE l p) l.length with h1 | h1
  ·exact h1
  ·rw [(has_out rfl h1).1] at h;cases h
 have h2:=has_cmp rfl hi
 rw [h] at h2
 have h3:(l.getD (cntE l p) noEn).pl=p:=by
  rcases cmpL_three (l.getD (cntE l p) noEn).pl p with ⟨e1,_⟩ | ⟨_,_,e3⟩ | ⟨e1,_⟩
  ·rw [e1] at h2;cases h2
  ·exact e3
  ·rw [e1] at h2;cases h2
 refine ⟨?_,hi,h3⟩
 unfold setL
 rw [h,h3,if_pos rfl,List.set_eq_take_append_cons_drop,if_pos hi]
theorem lE_set (xs:List EnL) (i:Nat) (y:EnL):lE (xs.set i y)=(lE xs).set i y.e:=by simp [lE,List.map_set]
end Go.Proofs.YtigkeokacagabagGreatDoor
namespace Go.Proofs.YtigkeokacagabagGreatDoor
open Go.ChangeShapes Go.WideShapes Go.ChangeAt Go.RowKit
set_option maxRecDepth 20000
theorem order_in:EntersO 89:=fun args w=>by simp [callFunc,Tryz.func89];rfl
def Short (xs:List EnL) (p:List Int):Prop:=(∀ k,k<xs.length→(xs.getD k noL).e.pl.length≤4)∧p.length≤4
set_option maxHeartbeats 4000000 in
theorem bsf_any (b o cap:Nat) (xs:List EnL) (Ap:Option Addr) (cp:Nat) (p:List Int) (w:World) (hn:xs.length≤3000) (hE:EnsAt w b o xs) (hr:(lE xs).Pairwise fun a b=>lessL a.pl b.pl=true) (hS:Short xs p) (hP:PlAt w Ap cp p) :
  Calls Tryz.prog 115 #[.slice (some ⟨b,o,none⟩) xs.length cap,.slice Ap p.length cp,.func (.func 89) #[] #[]] w fun e w'=>e=.returned (.tuple #[.int .i64 (cntE (lE xs) p:Nat),.bool (hasE (lE xs) p)])∧Below w.heap.size w w':=by
 have he:=order_in
 unfold EntersO at he
 have HO:Hid (∀ k wr,k<xs.length→Below w.heap.size w wr→Calls Tryz.prog 89 #[.agg #[.slice (xs.getD k noL).A (xs.getD k noL).e.pl.length (xs.getD k noL).c,.int .i64 (xs.getD k noL).e.n],.slice Ap p.length cp] wr fun e w'=>e=.returned (.int .i64 (cmpL (xs.getD k noL).e.pl p))∧Below wr.heap.size wr w'):=fun k wr hk hB=>order_any _ _ _ _ _ _ _ wr (hS.1 k hk) hS.2 ((hE.pl hk).later hB) (hP.later hB)
 have HE:Hid (EnsAt w b o xs):=hE
 have HM:Hid (∀ j k,j≤k→k<xs.length→cmpL (xs.getD k noL).e.pl p<0→cmpL (xs.getD j noL).e.pl p<0):=fun j k hjk hk h=>by
  have h1:lessL ((lE xs).getD k noEn).pl p=true:=by rw [lE_at,←cmpL_neg];exact decide_eq_true h
  have h2:=less_mono hr hjk (by rw [lE_len];exact hk) h1
  rw [lE_at,←cmpL_neg] at h2
  exact of_decide_eq_true h2
 have HC:Hid (∀ i,i≤xs.length→(∀ t,t<i→cmpL (xs.getD t noL).e.pl p<0)→(i<xs.length→¬ cmpL (xs.getD i noL).e.pl p<0)→cntE (lE xs) p=i):=fun i hi h1 h2=>cnt_at _ _ i (by rw [lE_len];exact hi) (fun t ht=>by rw [lE_at,←cmpL_neg];exact decide_eq_true (h1 t ht)) (fun h3=>by rw [lE_len] at h3;rw [lE_at,←cmpL_neg];exact decide_eq_false (h2 h3))
 have HH:Hid (∀ i,cntE (lE xs) p=i→i<xs.length→hasE (lE xs) p=decide (cmpL (xs.getD i noL).e.pl p=0)):=fun i h1 h2=>by rw [←lE_at];exact (has_cmp h1 (by rw [lE_len];exact h2)).symm
 have HH2:Hid (∀ i,cntE (lE xs) p=i→xs.length≤i→hasE (lE xs) p=false):=fun i h1 h2=>(has_out h1 (by rw [lE_len];exact h2)).1
 obtain ⟨n,hnn⟩:∃ n,xs.length=n:=⟨_,rfl⟩
 obtain ⟨np,hnp⟩:∃ np,p.length=np:=⟨_,rfl⟩
 have HN:Hid (xs.length=n):=hnn
 rw [hnn] at hn HO HM HC HH HH2 ⊢
 rw [hnp] at HO ⊢
 generalize cntE (lE xs) p=cnt at HC HH HH2
 generalize hasE (lE xs) p=has at HH HH2
 have hn':(n:Int)≤3000:=by omega
 clear hE hr hS hP hnn hnp
 go_enter Tryz.func115,Tryz.ntmps115
 go_wp2_with fail
 go_loopg [9,10] n (fun g s9 s10 wr => ∃ (lo hi:Nat),lo≤hi∧hi≤n∧g=hi-lo∧s9=.int .i64 lo∧s10=.int .i64 hi∧Hid (∀ t,t<lo→cmpL (xs.getD t noL).e.pl p<0)∧Hid (∀ t,hi≤t→t<n→¬ cmpL (xs.getD t noL).e.pl p<0)∧Below w.heap.size w wr)
 case atStart=>exact ⟨0,n,Nat.zero_le _,Nat.le_refl _,rfl,rfl,rfl,fun t ht=>absurd ht (Nat.not_lt_zero _),fun t h1 h2=>absurd h2 (Nat.not_lt.2 h1),Below.refl _ _⟩
 case round =>
  obtain ⟨lo,hi,hlh,hhn,rfl,rfl,rfl,HL,HU,hBw⟩:=hrel
  have HBw:Hid (Below w.heap.size w wr):=hBw
  have hhn':(hi:Int)≤(n:Int):=by omega
  by_cases hlt:lo<hi
  ·obtain ⟨c1,c2⟩:=(HE.out.later hBw).at (k:=(lo+hi) / 2) (by rw [HN.out];omega)
   have hc:=HO.out ((lo+hi) / 2) wr (by omega) hBw
   have hlt':(lo:Int)<(hi:Int):=by omega
   obtain ⟨c,hcc⟩:∃ c,cmpL (xs.getD ((lo+hi) / 2) noL).e.pl p=c:=⟨_,rfl⟩
   have HCC:Hid (cmpL (xs.getD ((lo+hi) / 2) noL).e.pl p=c):=hcc
   rw [hcc] at hc
   generalize (xs.getD ((lo+hi) / 2) noL).A=A1 at c1 hc
   generalize (xs.getD ((lo+hi) / 2) noL).c=k1 at c1 hc
   generalize (xs.getD ((lo+hi) / 2) noL).e.pl.length=m1 at c1 hc
   generalize (xs.getD ((lo+hi) / 2) noL).e.n=n1 at c2 hc
   clear hcc hBw
   by_cases hneg:c<0
   ·go_wp2_with fail
    refine hc.mono ?_
    rintro e w1 ⟨rfl,hb1⟩
    go_wp2_with fail
    go_roundg (hi-((lo+hi) / 2+1))
    case measure=>omega
    case rel=>exact ⟨(lo+hi) / 2+1,hi,by omega,hhn,rfl,by congr 1,rfl,fun t ht=>HM.out t ((lo+hi) / 2) (by omega) (by omega) (by rw [HCC.out];exact hneg),HU,onB HBw.out hb1⟩
   ·go_wp2_with fail
    refine hc.mono ?_
    rintro e w1 ⟨rfl,hb1⟩
    go_wp2_with fail
    go_roundg ((lo+hi) / 2-lo)
    case measure=>omega
    case rel=>exact ⟨lo,(lo+hi) / 2,by omega,by omega,rfl,rfl,by congr 1,HL,fun t h1 h2=>Int.not_lt.1 fun h3=>by have h4:=HM.out ((lo+hi) / 2) t h1 h2 h3;rw [HCC.out] at h4;omega,onB HBw.out hb1⟩
  ·have hle:hi=lo:=by omega
   subst hle
   have HCN:Hid (cnt=hi):=HC.out hi hhn (fun t ht=>HL.out t ht) (fun h=>by have h4:=HU.out hi (Nat.le_refl _) h;omega)
   by_cases hln:hi<n
   ·obtain ⟨c1,c2⟩:=(HE.out.later hBw).at (k:=hi) (by rw [HN.out];exact hln)
    have hc:=HO.out hi wr hln hBw
    have HHI:Hid (has=decide (cmpL (xs.getD hi noL).e.pl p=0)):=HH.out hi HCN.out hln
    generalize cmpL (xs.getD hi noL).e.pl p=c at hc HHI
    generalize (xs.getD hi noL).A=A1 at c1 hc
    generalize (xs.getD hi noL).c=k1 at c1 hc
    generalize (xs.getD hi noL).e.pl.length=m1 at c1 hc
    generalize (xs.getD hi noL).e.n=n1 at c2 hc
    have hln':(hi:Int)<(n:Int):=by omega
    clear hBw
    go_wp2_with fail
    refine hc.mono ?_
    rintro e w1 ⟨rfl,hb1⟩
    go_wp2_with fail
    go_ret2
    rw [HCN.out,HHI.out]
    exact ⟨rfl,onB HBw.out hb1⟩
   ·have HHI:Hid (has=false):=HH2.out hi HCN.out (by omega)
    have hln':(n:Int)≤(hi:Int):=by omega
    go_wp2_with fail
    go_ret2
    rw [HCN.out,HHI.out]
    exact ⟨rfl,hBw⟩
theorem bsf_none (A:Option Addr) (cap:Nat) (Ap:Option Addr) (cp np:Nat) (w:World):Calls Tryz.prog 115 #[.slice A 0 cap,.slice Ap np cp,.func (.func 89) #[] #[]] w fun e w'=>e=.returned (.tuple #[.int .i64 0,.bool false])∧Below w.heap.size w w':=by
 go_enter Tryz.func115,Tryz.ntmps115
 go_wp2_with fail
 refine wp_loop_rounds 1 ?_
 rw [rounds_succ]
 go_wp2_with fail
 go_ret2
 exact ⟨rfl,Below.refl _ _⟩
theorem ifind_any (A:Option Addr) (cap:Nat) (xs:List EnL) (Ap:Option Addr) (cp:Nat) (p:List Int) (w:World) (hn:xs.length≤3000) (hE:EnsV w A cap xs) (hr:(lE xs).Pairwise fun a b=>lessL a.pl b.pl=true) (hS:Short xs p) (hP:PlAt w Ap cp p) :
  Calls Tryz.prog 90 #[.slice A xs.length cap,.slice Ap p.length cp] w fun e w'=>e=.returned (.tuple #[.int .i64 (cntE (lE xs) p:Nat),.bool (hasE (lE xs) p)])∧Below w.heap.size w w':=by
 have h:Calls Tryz.prog 115 #[.slice A xs.length cap,.slice Ap p.length cp,.func (.func 89) #[] #[]] w fun e w'=>e=.returned (.tuple #[.int .i64 (cntE (lE xs) p:Nat),.bool (hasE (lE xs) p)])∧Below w.heap.size w w':=by
  obtain ⟨-,-,rfl | ⟨b,o,rfl,hA⟩⟩:=hE
  ·exact bsf_none A cap Ap cp p.length w
  ·exact bsf_any b o cap xs Ap cp p w hn hA hr hS hP
 generalize cntE (lE xs) p=cnt at h
 generalize hasE (lE xs) p=has at h
 generalize xs.length=n at h
 generalize p.length=np at h
 clear hE hr hS hP hn
 go_enter Tryz.func90,Tryz.ntmps90
 go_wp2_with fail
 refine h.mono ?_
 rintro e w1 ⟨rfl,hb1⟩
 go_wp2_with fail
 go_ret2
 exact ⟨rfl,hb1⟩
theorem ownOE_0 (w:World) (A0:Option Addr) (n cap:Nat) (A:Option Addr) (m c:Nat) (N:Int):(ownOE w A0 n cap A m c N).cell? ⟨w.heap.size+1,0,none⟩=some (.slice A m c):=by
 have h:=ownEn_0 (ownOut w A0 n cap 29) A m c N 46
 rw [ownOut_size] at h
 exact h
theorem short_of {D:Nat→Dm} {n:Nat} {xs:List EnL} {p:List Int} (hE:Ens D n (lE xs)) (hp:InO D n p):Short xs p:=by
 refine ⟨fun k hk=>?_,inO_short hp⟩
 have h1:(xs.getD k noL).e∈lE xs:=List.mem_map.2 ⟨_,enl_mem hk,rfl⟩
 exact inO_short (hE.each _ h1).1
theorem few_of {D:Nat→Dm} {n:Nat} {xs:List EnL} (hE:Ens D n (lE xs)):xs.length≤3000:=by have:=hE.few;rw [lE_len] at this;exact this
set_option maxHeartbeats 2000000 in
theorem clone_any (A:Option Addr) (c:Nat) (L:List Int) (w:World) (hL:L.length≤4) (hP:PlAt w A c L):Calls Tryz.prog 92 #[.slice A L.length c] w fun e w'=>(∃ A' c',e=.returned (.slice A' L.length c')∧PlTy w' A' c' L)∧Below w.heap.size w w':=by
 have hq:∀ (w:World) (a:Option Addr) (n c n' c':Nat),(binOp .eql 44 (.slice a n c) (.slice none n' c')).run Tryz.prog w=.ok (.bool a.isNone) w:=fun w a n c n' c'=>Lib.run_eql_slice_nil w _ _ a n c n' c' Tryz.underlying44
 cases A with
 | none =>
  obtain ⟨-,h0 | ⟨b,o,h0,-⟩⟩:=hP
  ·subst h0
   simp only [List.length_nil]
   go_enter Tryz.func92,Tryz.ntmps92
   go_wp2_with fail
   go_ret
   exact ⟨⟨none,0,rfl,PlTy.nil _ _ _⟩,Below.refl _ _⟩
  ·cases h0
 | some a =>
  obtain ⟨i0,hi0,hz0,hz1,hz2⟩:=info_parts Tryz.infoIntP
  have HC:Hid (∀ j u,(L.map (Value.int .i64))[j]?=some u→w.cell? (a.add j)=some u):=by
   intro j u hj
   obtain ⟨-,h0 | ⟨b,o,h0,-,hcell⟩⟩:=hP
   ·subst h0;simp at hj
   ·cases h0
    have hlt:j<L.length:=by have:=(List.getElem?_eq_some_iff.1 hj).1;simpa using this
    rw [plain_add,hcell j hlt]
    simp only [List.getElem?_map,List.getElem?_eq_getElem hlt,Option.map_some,Option.some.injEq] at hj
    rw [←hj,List.getD_eq_getElem?_getD,List.getElem?_eq_getElem hlt]
    rfl
  have HF:Hid (∀ (w':World) (v:Value),w'.ownsRow w.heap.size 3 1 v L.length (L.map (Value.int .i64))→∃ A' c',v=.slice A' L.length c'∧PlTy w' A' c' L):=fun w' v h=>plty_own h
  have hl:(L.map (Value.int .i64)).length=L.length*1:=by simp
  have h1:∀ u∈L.map (Value.int .i64),u.oneCell'=true:=by intro u hu;simp at hu;obtain ⟨x,-,rfl⟩:=hu;rfl
  have hm:L.length≤4:=hL
  clear hP hL
  go_enter Tryz.func92,Tryz.ntmps92
  go_wp2_with (at_builtin;refine wpList_append_own _ rfl _ _ 44 rfl w.heap.size 3 i0 (.int .i64 0) 1 8 Tryz.underlying44 hi0 hz0 hz1 hz2 rfl (by decide) _ _ _ rfl (World.ownsRow_made w #[] 0 (Nat.le_refl _) (Nat.zero_le _) (by simp)) a L.length c (L.map (Value.int .i64)) rfl ?qc1 ?qc2 ?qc3 ?qc4 ?qc5 ?qc6 ?_)
  case qc1=>exact hl
  case qc2=>exact fun j u hj=>Lib.cell?_alloc_some _ (HC.out j u hj)
  case qc3=>exact h1
  case qc4=>simp only [maxLen];omega
  case qc5=>omega
  case qc6=>simp
  intro v' w1 hown hgrow hnil
  obtain ⟨A',c',rfl,hT⟩:=HF.out _ _ hown
  have HT:Hid (PlTy w1 A' c' L):=hT
  have HB:Hid (Below w.heap.size w w1):=((Below.refl _ w).alloc (Nat.le_refl _) _).grown hgrow (by simp) (by intro k hk;simp [Value.ownBlock] at hk;omega)
  clear hown hgrow hnil hT
  go_wp2_with fail
  go_ret
  exact ⟨⟨A',c',rfl,HT.out⟩,HB.out⟩
end Go.Proofs.YtigkeokacagabagGreatDoor
namespace Go.Proofs.YtigkeokacagabagGreatDoor
open Go.ChangeShapes Go.WideShapes Go.ChangeAt Go.RowKit Go.Lib
set_option maxRecDepth 100000
theorem Tryz.infoEnt:(Tryz.prog.info? 46).map (fun i=>(i.zero,i.size,i.bytes))=some (some (.agg #[.slice none 0 0,.int .i64 0]),2,32):=by kernel_rfl
def OneE (w:World) (vb:Nat) (x:EnL):Prop:=w.heap[vb]?=some (.cells #[.slice x.A x.e.pl.length x.c,.int .i64 x.e.n] 46 (0,0))
theorem OneE.cells {w:World} {vb:Nat} {x:EnL} (h:OneE w vb x):∀ j u,(cellsE [x])[j]?=some u→w.cell? ⟨vb,j,none⟩=some u:=by
 intro j u hj
 rw [Lib.cell_of_heap h]
 simpa [cellsE] using hj
def Inserted (w:World) (g i:Nat) (xs:List EnL) (x:EnL) (e:Ending) (w':World):Prop := ∃ g' cap',e=.returned (.slice (some ⟨g',0,none⟩) (xs.length+1) cap')∧RowE w' g' cap' (xs.take i ++ x :: xs.drop i)∧g≤g'∧w.grownBy w' (some g)
set_option maxHeartbeats 4000000 in
theorem insert_end (g cap vb:Nat) (xs:List EnL) (x:EnL) (w:World) (hn:xs.length≤3000) (hR:RowE w g cap xs) (hx:PlTy w x.A x.c x.e.pl) (hv:OneE w vb x) :
  Calls Tryz.prog 91 #[.slice (some ⟨g,0,none⟩) xs.length cap,.int .i64 xs.length,.slice (some ⟨vb,0,none⟩) 1 1] w fun e w'=>Inserted w g xs.length xs x e w':=by
 obtain ⟨i0,hi0,hz0,hz1,hz2⟩:=info_parts Tryz.infoEnt
 have hown:=hR.own (Nat.le_refl g)
 have hgs:g≤w.heap.size:=Nat.le_of_lt hR.lt
 have hcap:=hR.2.1
 have hcm:=hR.2.2.1
 have HR:Hid (RowE w g cap xs):=hR
 have HX:Hid (PlTy w x.A x.c x.e.pl):=hx
 have HV:Hid (∀ j u,(cellsE [x])[j]?=some u→w.cell? ⟨vb,j,none⟩=some u):=hv.cells
 have HE:Hid (cellsE (xs ++ [x])=cellsE xs ++ cellsE [x]):=cellsE_append ..
 have HL:Hid ((cellsE [x]).length=1*2):=cellsE_len [x]
 have H1:Hid (∀ v∈cellsE [x],v.oneCell'=true):=cellsE_one [x]
 have HT:Hid (xs.take xs.length ++ x :: xs.drop xs.length=xs ++ [x]∧(xs ++ [x]).length=xs.length+1):=⟨by simp,by simp⟩
 obtain ⟨n,hnn⟩:∃ n,xs.length=n:=⟨_,rfl⟩
 have HN:Hid (xs.length=n):=hnn
 rw [hnn] at hown hn hcap HT
 unfold Inserted
 rw [hnn]
 generalize hcx:cellsE xs=CX at hown HE
 generalize hc1:cellsE [x]=C1 at HV HE HL H1
 unfold maxLen at hcm
 clear hR hx hv hnn hcx hc1
 have hn':(n:Int)≤3000:=by omega
 by_cases hce:cap=n
 ·subst hce
  go_enter Tryz.func91,Tryz.ntmps91
  go_wp2_with (at_builtin;refine wpList_append_own _ rfl _ _ 37 rfl g 46 i0 (.agg #[.slice none 0 0,.int .i64 0]) 2 32 Tryz.underlying37 hi0 hz0 hz1 hz2 rfl (by decide) _ _ _ rfl hown ⟨vb,0,none⟩ 1 1 C1 rfl ?qc1 ?qc2 ?qc3 ?qc4 ?qc5 ?qc6 ?_)
  case qc1=>exact HL.out
  case qc2=>exact fun j u hj=>by rw [plain_add,Nat.zero_add];exact HV.out j u hj
  case qc3=>exact H1.out
  case qc4=>simp only [maxLen];omega
  case qc5=>omega
  case qc6=>exact hgs
  intro v' w1 hown1 hgrow hnil
  rw [←HE.out,←HT.out.2] at hown1
  have hg1:w.grownBy w1 (some g):=hgrow
  obtain ⟨⟨cur,hcur,-,-⟩,-⟩:=HR.out
  have hpl:∀ y∈xs ++ [x],PlTy w1 y.A y.c y.e.pl:=fun y hy=>by
   rcases List.mem_append.1 hy with hy | hy
   ·exact (HR.out.2.2.2 y hy).grown hcur hg1
   ·rw [List.mem_singleton.1 hy];exact HX.out.grown hcur hg1
  obtain ⟨g',cap',rfl,hgg,hRow⟩:=row_own hown1 (by simpa using hnil) hpl
  have HRow:Hid (RowE w1 g' cap' (xs ++ [x])):=hRow
  have HG:Hid (w.grownBy w1 (some g)):=hg1
  rw [HT.out.2]
  clear hown1 hgrow hnil hcur hpl hRow hg1
  go_wp2_with fail
  go_ret
  refine ⟨g',cap',rfl,?_,hgg,HG.out⟩
  rw [HT.out.1]
  exact HRow.out
 ·have hce' : ¬ ((cap:Int)=(n:Int)):=by omega
  go_enter Tryz.func91,Tryz.ntmps91
  go_wp2_with (at_builtin;refine wpList_append_own _ rfl _ _ 37 rfl g 46 i0 (.agg #[.slice none 0 0,.int .i64 0]) 2 32 Tryz.underlying37 hi0 hz0 hz1 hz2 rfl (by decide) _ _ _ rfl hown ⟨vb,0,none⟩ 1 1 C1 rfl ?qc1 ?qc2 ?qc3 ?qc4 ?qc5 ?qc6 ?_)
  case qc1=>exact HL.out
  case qc2=>exact fun j u hj=>by rw [plain_add,Nat.zero_add];exact HV.out j u hj
  case qc3=>exact H1.out
  case qc4=>simp only [maxLen];omega
  case qc5=>omega
  case qc6=>exact hgs
  intro v' w1 hown1 hgrow hnil
  rw [←HE.out,←HT.out.2] at hown1
  have hg1:w.grownBy w1 (some g):=hgrow
  obtain ⟨⟨cur,hcur,-,-⟩,-⟩:=HR.out
  have hpl:∀ y∈xs ++ [x],PlTy w1 y.A y.c y.e.pl:=fun y hy=>by
   rcases List.mem_append.1 hy with hy | hy
   ·exact (HR.out.2.2.2 y hy).grown hcur hg1
   ·rw [List.mem_singleton.1 hy];exact HX.out.grown hcur hg1
  obtain ⟨g',cap',rfl,hgg,hRow⟩:=row_own hown1 (by simpa using hnil) hpl
  have HRow:Hid (RowE w1 g' cap' (xs ++ [x])):=hRow
  have HG:Hid (w.grownBy w1 (some g)):=hg1
  rw [HT.out.2]
  clear hown1 hgrow hnil hcur hpl hRow hg1
  go_wp2_with fail
  go_ret
  refine ⟨g',cap',rfl,?_,hgg,HG.out⟩
  rw [HT.out.1]
  exact HRow.out
theorem ent_over (w:World) (g vb o lb cb kB:Nat) (x:EnL) (cur:Array Value) (hvb:vb≠g) (hv:OneE w vb x) (hg:w.heap[g]?=some (.cells cur 46 (0,0))) (hk:cur.size=kB) (hk0:kB≠0) :
  (callFunc 116 #[.slice (some ⟨vb,0,none⟩) 1 1,.slice (some ⟨g,o,none⟩) lb cb]).run Tryz.prog w=.ok (.value (.bool false)) w:=by
 rw [run_callFunc_extern Tryz.func116 (by kernel_rfl) (by kernel_rfl) (by kernel_rfl) (e:=Extern.SlicesOverlaps.overlaps #[37,37] #[4]) (by kernel_rfl),
  Lib.run_overlaps_apart w 37 4 46 Tryz.underlying37 2 Tryz.sizeOf46 ⟨vb,0,none⟩ ⟨g,o,none⟩ 1 1 lb cb hvb 46 46 2 kB (by simp [World.shape?,show w.heap[vb]?=_ from hv]) (by simp [World.shape?,hg,hk]) hk0 (Lib.frozen_of_heap hv 0) (Lib.frozen_of_heap hv 2)]
 rfl
set_option maxHeartbeats 4000000 in
theorem insert_shift (g cap i vb:Nat) (xs:List EnL) (x:EnL) (w:World) (hn:xs.length≤3000) (hi:i<xs.length) (hroom:xs.length+1≤cap) (hvb:vb≠g) (hR:RowE w g cap xs) (hx:PlTy w x.A x.c x.e.pl) (hv:OneE w vb x) :
  Calls Tryz.prog 91 #[.slice (some ⟨g,0,none⟩) xs.length cap,.int .i64 i,.slice (some ⟨vb,0,none⟩) 1 1] w fun e w'=>Inserted w g i xs x e w':=by
 obtain ⟨i0,hi0,hz0,hz1,hz2⟩:=info_parts Tryz.infoEnt
 have hsz:(Tryz.prog.info? 46).map (·.size)=some 2:=by rw [hi0];simp [hz1]
 have hcm:=hR.2.2.1
 unfold maxLen at hcm
 obtain ⟨⟨cur,hcur,hcs,hct⟩,-,-,hpl⟩:=id hR
 have hov:∀ o lb cb,(callFunc 116 #[.slice (some ⟨vb,0,none⟩) 1 1,.slice (some ⟨g,o,none⟩) lb cb]).run Tryz.prog w=.ok (.value (.bool false)) w:=fun o lb cb=>ent_over w g vb o lb cb (cap*2) x cur hvb hv hcur hcs (by omega)
 obtain ⟨n,hnn⟩:∃ n,xs.length=n:=⟨_,rfl⟩
 have hdl:(cellsE (xs.drop i)).length=(n-i)*2:=by rw [cellsE_len,List.length_drop,hnn]
 obtain ⟨C1,hC1⟩:∃ C1,C1=cur.toList.take ((i+1)*2) ++ cellsE (xs.drop i) ++ cur.toList.drop ((i+1)*2+(cellsE (xs.drop i)).length):=⟨_,rfl⟩
 obtain ⟨C2,hC2⟩:∃ C2,C2=C1.take (i*2) ++ cellsE [x] ++ C1.drop (i*2+(cellsE [x]).length):=⟨_,rfl⟩
 have hlen:(xs.length+1)*2≤cur.toList.length:=by
  have h1:cur.toList.length=cap*2:=by simpa using hcs
  omega
 obtain ⟨hl2,ht2⟩:=ins_cells hct hlen (Nat.le_of_lt hi) hC1 hC2
 have hl1:C1.length=cur.size:=by
  rw [hC1]
  simp only [List.length_append,List.length_take,List.length_drop,hdl,Array.length_toList,hcs]
  omega
 have hcp1:∀ ty dc sc,(Builtin.copy_ #[37,37] ty #[.slice (some ⟨g,(i+1)*2,none⟩) (n-i) dc,.slice (some ⟨g,i*2,none⟩) (n+1-i) sc]).run Tryz.prog w.drew=.ok (goInt (Nat.min (n+1-i) (n-i))) (w.drew.setRow g C1.toArray):=fun ty dc sc=>by
  rw [hC1]
  exact run_copy_k 2 w.drew _ _ ty 46 g ((i+1)*2) (n-i) dc ⟨g,i*2,none⟩ (n+1-i) sc cur 46 (cellsE (xs.drop i)) Tryz.underlying37 hsz hcur (by rw [hdl];simp only [Nat.min_def];split <;> omega)
   (fun j v hj=>by
    rw [plain_add]
    refine hR.cells (i*2+j) v ?_
    rw [←cellsE_drop,List.getElem?_drop] at hj
    exact hj)
   (by rw [hdl];omega) (cellsE_one _)
 have hW1:(w.drew.setRow g C1.toArray).heap[g]?=some (.cells C1.toArray 46 (0,0)):=setRow_heap w.drew g cur _ _ _ hcur
 have hcp2:∀ (W:World),W.heap=(w.drew.setRow g C1.toArray).heap→∀ ty dc,(Builtin.copy_ #[37,37] ty #[.slice (some ⟨g,i*2,none⟩) (n+1-i) dc,.slice (some ⟨vb,0,none⟩) 1 1]).run Tryz.prog W=.ok (goInt (Nat.min 1 (n+1-i))) (W.setRow g C2.toArray):=fun W hW ty dc=>by
  have h:=run_copy_k (P:=Tryz.prog) 2 W _ 37 ty 46 g (i*2) (n+1-i) dc ⟨vb,0,none⟩ 1 1 C1.toArray 46 (cellsE [x]) Tryz.underlying37 hsz (by rw [hW];exact hW1) (by rw [cellsE_len];simp only [Nat.min_def];split <;> simp <;> omega)
   (fun j v hj=>by
    rw [plain_add,Nat.zero_add]
    have hb:W.heap[vb]?=w.heap[vb]?:=by rw [hW,setRow_other _ _ _ _ hvb];rfl
    exact (World.cell?_of_block (a:=⟨vb,j,none⟩) hb).trans (hv.cells j v hj))
   (by rw [cellsE_len];simp [hl1,hcs];omega) (cellsE_one _)
  rw [h,hC2]
 have HFin:Hid (∀ w',w'.heap=((w.drew.setRow g C1.toArray).setRow g C2.toArray).heap→w'.os=w.os→w'.tape=w.tape→w'.output=w.output→RowE w' g cap (xs.take i ++ x :: xs.drop i)∧w.grownBy w' (some g)):=by
  intro w' hw' h1 h2 h3
  rw [setRow_setRow] at hw'
  have hg':w.grownBy w' (some g):=⟨h1,h2,h3,by rw [hw',setRow_size];exact Nat.le_refl _,fun k hk hne=>by rw [hw',setRow_other _ _ _ _ fun e=>hne (by rw [e])];rfl⟩
  refine ⟨⟨⟨C2.toArray,by rw [hw'];exact setRow_heap w.drew g cur _ _ _ hcur,by rw [List.size_toArray,hl2,Array.length_toList,hcs],ht2⟩,by simp;omega,hR.2.2.1,fun y hy=>?_⟩,hg'⟩
  refine PlTy.grown ?_ hcur hg'
  rcases List.mem_append.1 hy with hy | hy
  ·exact hpl y (List.mem_of_mem_take hy)
  ·rcases List.mem_cons.1 hy with rfl | hy
   ·exact hx
   ·exact hpl y (List.mem_of_mem_drop hy)
 unfold Inserted
 rw [hnn] at hn hi hroom ⊢
 have hn':(n:Int)≤3000:=by omega
 have hi':(i:Int)<(n:Int):=by omega
 have hr':(n:Int)+1≤(cap:Int):=by omega
 have hz2 : ¬ ((i:Int)=(n:Int)):=by omega
 have hb2 : ¬ (cap=i+1):=by omega
 have hb4 : ¬ (cap=i):=by omega
 have hw1:IntKind.i64.wrap ((i:Int)+1)=(i:Int)+1:=by rw [IntKind.wrap_i64];omega
 have hb1:(0:Int)≤(i:Int)+1:=by omega
 have htn:((i:Int)+1).toNat=i+1:=by omega
 have hin:i≤n:=by omega
 have hb3:(i:Int)≤(n:Int)+1:=by omega
 clear hcm hpl hnn hl1 hl2 ht2 hC1 hC2 hlen hdl hW1 hcur hcs hct hR hx hv
 go_enter Tryz.func91,Tryz.ntmps91
 go_wp2_with (simp only [hov])
 go_region_law (refine step_copy_runI rfl _ _ 37 37 rfl _ _ (by simp [Act.eval,Act.put]) (by simp [Act.eval,Act.put]) (hcp1 _ _ _) ?_)
 go_wp2_with (at_builtin;refine wpList_copy_runI _ rfl _ _ 37 37 rfl _ _ rfl rfl (hcp2 _ rfl _ _) ?_)
 go_ret
 obtain ⟨h1,h2⟩:=HFin.out _ rfl rfl rfl rfl
 exact ⟨g,cap,rfl,h1,Nat.le_refl _,h2⟩
theorem zero_size (k:Nat):(Builtin.zeroCells (Value.agg #[.slice none 0 0,.int .i64 0]).cells k).size=k*2:=by
 simp [Builtin.zeroCells,Value.cells]
set_option maxHeartbeats 4000000 in
theorem insert_grow (g cap i vb:Nat) (xs:List EnL) (x:EnL) (w:World) (hn:xs.length≤3000) (hi:i<xs.length) (hroom:cap<xs.length+1) (hR:RowE w g cap xs) (hx:PlTy w x.A x.c x.e.pl) (hv:OneE w vb x) :
  Calls Tryz.prog 91 #[.slice (some ⟨g,0,none⟩) xs.length cap,.int .i64 i,.slice (some ⟨vb,0,none⟩) 1 1] w fun e w'=>Inserted w g i xs x e w':=by
 obtain ⟨i0,hi0,hz0,hz1,hz2⟩:=info_parts Tryz.infoEnt
 have hsz:(Tryz.prog.info? 46).map (·.size)=some 2:=by rw [hi0];simp [hz1]
 have hcm:=hR.2.2.1
 unfold maxLen at hcm
 have hnc:=hR.2.1
 have hgw:g<w.heap.size:=hR.lt
 have hvw:vb<w.heap.size:=(Array.getElem?_eq_some_iff.1 hv).1
 obtain ⟨n,hnn⟩:∃ n,xs.length=n:=⟨_,rfl⟩
 rw [hnn] at hn hi hroom hnc
 have hdl:(cellsE (xs.drop i)).length=(n-i)*2:=by rw [cellsE_len,List.length_drop,hnn]
 have htl:(cellsE (xs.take i)).length=i*2:=by rw [cellsE_len,List.length_take,hnn,Nat.min_eq_left (by omega)]
 have hkk:(n:Int)+1-(i:Int)=((n+1-i:Nat):Int):=by omega
 have hik:i+(n+1-i)=n+1:=by omega
 have hold:(Builtin.firstCells i0.size i (.slice (some ⟨g,0,none⟩) i cap)).run Tryz.prog w.drew=.ok (cellsE (xs.take i)).toArray w.drew:=by
  rw [hz1]
  exact run_firstCells_some w.drew 2 i ⟨g,0,none⟩ i cap (cellsE (xs.take i)) htl (fun j v hj=>by
   rw [plain_add,Nat.zero_add]
   rw [←cellsE_take,List.getElem?_take] at hj
   split at hj
   ·exact hR.cells j v hj
   ·cases hj)
 obtain ⟨G,hG⟩:∃ G,G=grownCap w (n+1) cap 46:=⟨_,rfl⟩
 obtain ⟨ROW,hROW⟩:∃ ROW:Array Value,ROW=(cellsE (xs.take i)).toArray ++ Builtin.zeroCells (Value.agg #[.slice none 0 0,.int .i64 0]).cells (n+1-i) ++ Builtin.zeroCells (Value.agg #[.slice none 0 0,.int .i64 0]).cells (G-(n+1)):=⟨_,rfl⟩
 have hrz:∀ ty,(Builtin.append_ #[37,3] ty #[.slice (some ⟨g,0,none⟩) i cap,.int .i64 ((n:Int)+1-(i:Int))]).run Tryz.prog w=.ok (.slice (some ⟨w.heap.size,0,none⟩) (n+1) G) (w.drew.alloc (.cells ROW 46)):=fun ty=>by
  have h:=Lib.run_append_grow_zeros w 37 3 ty 46 i0 _ .i64 .i64 Tryz.underlying37 Tryz.underlying3 hi0 hz0 (some ⟨g,0,none⟩) i cap (cellsE (xs.take i)) hold (n+1-i) (by omega) (by omega) (by omega) (by omega) (by rw [hz2];omega) (by rw [hz2,hik];exact growslice_fits hroom (by omega))
  rw [hik] at h
  rw [hkk,hROW,hG]
  exact h
 have hGn:n+1≤G:=by rw [hG];exact grownCap_ge w _ _ _
 have hG63:G≤maxLen:=by
  rw [hG]
  exact grownCap_le_maxLen w (n+1) cap 46 (by unfold maxLen;omega)
 have hRs:ROW.size=G*2:=by
  rw [hROW,Array.size_append,Array.size_append,zero_size,zero_size,List.size_toArray,htl]
  omega
 obtain ⟨C1,hC1⟩:∃ C1,C1=ROW.toList.take (i*2) ++ cellsE [x] ++ ROW.toList.drop (i*2+(cellsE [x]).length):=⟨_,rfl⟩
 obtain ⟨C2,hC2⟩:∃ C2,C2=C1.take ((i+1)*2) ++ cellsE (xs.drop i) ++ C1.drop ((i+1)*2+(cellsE (xs.drop i)).length):=⟨_,rfl⟩
 have hRl:ROW.toList.length=G*2:=by simpa using hRs
 have hRt:ROW.toList.take (i*2)=cellsE (xs.take i):=by
  rw [hROW,Array.toList_append,Array.toList_append,List.append_assoc]
  exact take_join htl
 obtain ⟨hl2,ht2⟩:=grow_cells (xs:=xs) (x:=x) (i:=i) hRt (by rw [hRl,hnn];omega) (by omega) hC1 hC2
 have hx2:(cellsE [x]).length=2:=by rw [cellsE_len];rfl
 have hl1:C1.length=G*2:=by
  rw [hC1]
  simp only [List.length_append,List.length_take,List.length_drop,hx2,hRl]
  omega
 have hW1:(w.drew.alloc (.cells ROW 46)).heap[w.heap.size]?=some (.cells ROW 46 (0,0)):=heap_alloc_new w.drew _
 have hOld:∀ k,k<w.heap.size→(w.drew.alloc (.cells ROW 46)).heap[k]?=w.heap[k]?:=fun k hk=>Below.heap_alloc w.drew _ k hk
 have hcpA:∀ (W:World),W.heap=(w.drew.alloc (.cells ROW 46)).heap→∀ ty dc,(Builtin.copy_ #[37,37] ty #[.slice (some ⟨w.heap.size,i*2,none⟩) (n+1-i) dc,.slice (some ⟨vb,0,none⟩) 1 1]).run Tryz.prog W=.ok (goInt (Nat.min 1 (n+1-i))) (W.setRow w.heap.size C1.toArray):=fun W hW ty dc=>by
  have h:=run_copy_k (P:=Tryz.prog) 2 W _ 37 ty 46 w.heap.size (i*2) (n+1-i) dc ⟨vb,0,none⟩ 1 1 ROW 46 (cellsE [x]) Tryz.underlying37 hsz (by rw [hW];exact hW1) (by rw [hx2];simp only [Nat.min_def];split <;> omega)
   (fun j v hj=>by
    rw [plain_add,Nat.zero_add]
    have hb:W.heap[vb]?=w.heap[vb]?:=by rw [hW];exact hOld vb hvw
    exact (World.cell?_of_block (a:=⟨vb,j,none⟩) hb).trans (hv.cells j v hj))
   (by rw [hx2,hRs];omega) (cellsE_one _)
  rw [h,hC1]
 have hW2:((w.drew.alloc (.cells ROW 46)).setRow w.heap.size C1.toArray).heap[w.heap.size]?=some (.cells C1.toArray 46 (0,0)):=setRow_heap _ _ ROW _ _ _ hW1
 have hcpB:∀ (W:World),W.heap=((w.drew.alloc (.cells ROW 46)).setRow w.heap.size C1.toArray).heap→∀ ty dc sc,(Builtin.copy_ #[37,37] ty #[.slice (some ⟨w.heap.size,(i+1)*2,none⟩) (n-i) dc,.slice (some ⟨g,i*2,none⟩) (n-i) sc]).run Tryz.prog W=.ok (goInt (Nat.min (n-i) (n-i))) (W.setRow w.heap.size C2.toArray):=fun W hW ty dc sc=>by
  have h:=run_copy_k (P:=Tryz.prog) 2 W _ 37 ty 46 w.heap.size ((i+1)*2) (n-i) dc ⟨g,i*2,none⟩ (n-i) sc C1.toArray 46 (cellsE (xs.drop i)) Tryz.underlying37 hsz (by rw [hW];exact hW2) (by rw [hdl];simp only [Nat.min_def];split <;> omega)
   (fun j v hj=>by
    rw [plain_add]
    have hb:W.heap[g]?=w.heap[g]?:=by rw [hW,setRow_other _ _ _ _ (Nat.ne_of_lt hgw)];exact hOld g hgw
    refine (World.cell?_of_block (a:=⟨g,i*2+j,none⟩) hb).trans (hR.cells (i*2+j) v ?_)
    rw [←cellsE_drop,List.getElem?_drop] at hj
    exact hj)
   (by rw [hdl,List.size_toArray,hl1];omega) (cellsE_one _)
  rw [h,hC2]
 have HFin:Hid (∀ w',w'.heap=(((w.drew.alloc (.cells ROW 46)).setRow w.heap.size C1.toArray).setRow w.heap.size C2.toArray).heap→w'.os=w.os→w'.tape=w.tape→w'.output=w.output→RowE w' w.heap.size G (xs.take i ++ x :: xs.drop i)∧w.grownBy w' (some g)):=by
  intro w' hw' h1 h2 h3
  rw [setRow_setRow] at hw'
  have hB:Below w.heap.size w w':=⟨h1,h2,h3,by rw [hw',setRow_size];show w.heap.size≤(w.alloc _).heap.size;simp,fun k hk=>by rw [hw',setRow_other _ _ _ _ (Nat.ne_of_lt hk)];exact hOld k hk⟩
  refine ⟨⟨⟨C2.toArray,by rw [hw'];exact setRow_heap _ _ ROW _ _ _ hW1,by rw [List.size_toArray,hl2,hRl],ht2⟩,by simp;omega,hG63,fun y hy=>?_⟩,grown_below hB⟩
  refine PlTy.later ?_ hB
  rcases List.mem_append.1 hy with hy | hy
  ·exact hR.2.2.2 y (List.mem_of_mem_take hy)
  ·rcases List.mem_cons.1 hy with rfl | hy
   ·exact hx
   ·exact hR.2.2.2 y (List.mem_of_mem_drop hy)
 have hE1:((w.alloc (.cells ROW 46)).drew).heap=(w.drew.alloc (.cells ROW 46)).heap:=rfl
 have hF1:(((w.alloc (.cells ROW 46)).drew.setRow w.heap.size C1.toArray).drew).heap=((w.drew.alloc (.cells ROW 46)).setRow w.heap.size C1.toArray).heap:=rfl
 unfold Inserted
 rw [hnn]
 unfold maxLen at hG63
 have hn':(n:Int)≤3000:=by omega
 have hi':(i:Int)<(n:Int):=by omega
 have hr':(cap:Int)<(n:Int)+1:=by omega
 have hne : ¬ ((i:Int)=(n:Int)):=by omega
 have hGi : ¬ (G=i):=by omega
 have hGim : ¬ (G=i+1):=by omega
 have hci : ¬ (cap=i):=by omega
 have hw1:IntKind.i64.wrap ((i:Int)+1)=(i:Int)+1:=by rw [IntKind.wrap_i64];omega
 have hb1:(0:Int)≤(i:Int)+1:=by omega
 have htn:((i:Int)+1).toNat=i+1:=by omega
 have hin:i≤n:=by omega
 have hb3:(i:Int)≤(n:Int)+1:=by omega
 have hgl:g≤w.heap.size:=Nat.le_of_lt hgw
 clear hnn hl1 hl2 ht2 hC1 hC2 hdl htl hW1 hW2 hR hx hv hkk hik hold hROW hG hRs hRl hRt hx2 hOld
 go_enter Tryz.func91,Tryz.ntmps91
 go_wp2_with (first
  | (at_builtin;refine Lib.wpList_append_run _ rfl _ _ _ _ rfl _ _ rfl rfl _ _ (hrz _) ?_)
  | (at_builtin;refine wpList_copy_runI _ rfl _ _ 37 37 rfl _ _ rfl rfl (hcpA _ hE1 _ _) ?_))
 go_region_law (refine step_copy_runI rfl _ _ 37 37 rfl (.slice (some ⟨w.heap.size,(i+1)*2,none⟩) (n-i) (G-(i+1))) (.slice (some ⟨g,i*2,none⟩) (n-i) (cap-i)) (by simp [Act.eval,Act.put]) (by simp [Act.eval,Act.put]) (hcpB _ hF1 3 (G-(i+1)) (cap-i)) ?_)
 go_wp2_with fail
 go_ret
 obtain ⟨h1,h2⟩:=HFin.out (((w.alloc (.cells ROW 46)).drew.setRow w.heap.size C1.toArray).drew.setRow w.heap.size C2.toArray) rfl rfl rfl rfl
 exact ⟨w.heap.size,G,rfl,h1,hgl,h2⟩
theorem insert_any (g cap i vb:Nat) (xs:List EnL) (x:EnL) (w:World) (hn:xs.length≤3000) (hi:i≤xs.length) (hvb:vb≠g) (hR:RowE w g cap xs) (hx:PlTy w x.A x.c x.e.pl) (hv:OneE w vb x) :
  Calls Tryz.prog 91 #[.slice (some ⟨g,0,none⟩) xs.length cap,.int .i64 i,.slice (some ⟨vb,0,none⟩) 1 1] w fun e w'=>Inserted w g i xs x e w':=by
 rcases Nat.eq_or_lt_of_le hi with rfl | hlt
 ·exact insert_end g cap vb xs x w hn hR hx hv
 ·rcases Nat.lt_or_ge cap (xs.length+1) with hc | hc
  ·exact insert_grow g cap i vb xs x w hn hlt hc hR hx hv
  ·exact insert_shift g cap i vb xs x w hn hlt hc hvb hR hx hv
end Go.Proofs.YtigkeokacagabagGreatDoor
namespace Go.Proofs.YtigkeokacagabagGreatDoor
open Go.ChangeShapes Go.WideShapes Go.ChangeAt Go.RowKit Go.Lib
set_option maxRecDepth 20000
theorem RowE.put {w:World} {g cap:Nat} {zs:List EnL} (h:RowE w g cap zs) (hk:zs.length<cap) {x:EnL} (hx:PlTy w x.A x.c x.e.pl):RowE ((w.setCell ⟨g,zs.length*2,none⟩ (.slice x.A x.e.pl.length x.c)).setCell ⟨g,zs.length*2+1,none⟩ (.int .i64 x.e.n)) g cap (zs ++ [x])∧w.grownBy ((w.setCell ⟨g,zs.length*2,none⟩ (.slice x.A x.e.pl.length x.c)).setCell ⟨g,zs.length*2+1,none⟩ (.int .i64 x.e.n)) (some g):=by
 obtain ⟨⟨cur,h1,h2,h3⟩,h4,h5,h6⟩:=id h
 have e:(w.setCell ⟨g,zs.length*2,none⟩ (.slice x.A x.e.pl.length x.c)).setCell ⟨g,zs.length*2+1,none⟩ (.int .i64 x.e.n)=w.setCells g (zs.length*2) (cellsE [x]):=rfl
 have hx2:(cellsE [x]).length=2:=by rw [cellsE_len];rfl
 have hl:cur.toList.length=cap*2:=by simpa using h2
 rw [e,setCells_row g 46 (cellsE [x]) (zs.length*2) cur w h1 (by rw [hx2];omega)]
 refine ⟨h.lay ?_ ?_ (by simp;omega) fun y hy=>?_,grown_setRow ..⟩
 ·simp only [List.length_append,List.length_take,List.length_drop,hx2,hl]
  omega
 ·rw [cellsE_append,h3]
  exact take_join (by simp only [List.length_append,cellsE_len,List.length_cons,List.length_nil];omega)
 ·rcases List.mem_append.1 hy with hy | hy
  ·exact h6 y hy
  ·rw [List.mem_singleton.1 hy];exact hx
theorem grown_set {w w':World} {g:Nat} (h:w.grownBy w' (some g)) (o:Nat) (v:Value):w.grownBy (w'.setCell ⟨g,o,none⟩ v) (some g) :=
 ⟨h.os,h.tape,h.output,by simpa using h.size,fun i hi hr=>(Below.heap_setCell w' ⟨g,o,none⟩ v i fun e=>hr (by rw [e])).trans (h.block i hi hr)⟩
theorem grown_new {w w':World} {r:Option Nat} (h:w.grownBy w' r) (o:Obj):w.grownBy (w'.alloc o) r :=
 ⟨h.os,h.tape,h.output,by have:=h.size;simp;omega,fun i hi hr=>(Below.heap_alloc w' o i (Nat.lt_of_lt_of_le hi h.size)).trans (h.block i hi hr)⟩
theorem keepG {W w':World} {g q:Nat} {u v:Value} (h:q<W.heap.size∧q≠g∧W.cell? ⟨q,0,none⟩=some u∧W.cell? ⟨q,1,none⟩=some v) (hG:W.grownBy w' (some g)):W.grownBy w' (some g)∧w'.cell? ⟨q,0,none⟩=some u∧w'.cell? ⟨q,1,none⟩=some v:=by
 have hb:w'.heap[q]?=W.heap[q]?:=hG.block q h.1 fun e=>h.2.1 (by simpa using e)
 exact ⟨hG,(World.cell?_of_block (a:=⟨q,0,none⟩) hb).trans h.2.2.1,(World.cell?_of_block (a:=⟨q,1,none⟩) hb).trans h.2.2.2⟩
set_option maxHeartbeats 8000000 in
theorem fresh_any (AE:Option Addr) (ce:Nat) (xs:List EnL) (w:World) (hn:xs.length≤3000) (hS:∀ k,k<xs.length→(xs.getD k noL).e.pl.length≤4) (hE:EnsV w AE ce xs) :
  Calls Tryz.prog 62 #[.slice AE xs.length ce] w fun e w'=>(∃ ys,e=.returned (.slice (some ⟨w.heap.size,0,none⟩) xs.length xs.length)∧RowE w' w.heap.size xs.length ys∧lE ys=lE xs)∧Below w.heap.size w w':=by
 obtain ⟨i0,hi0,hz0,hz1,hz2⟩:=info_parts Tryz.infoEnt
 have HE:Hid (EnsV w AE ce xs):=hE
 have HS:Hid (∀ k,k<xs.length→(xs.getD k noL).e.pl.length≤4):=hS
 obtain ⟨n,hnn⟩:∃ n,xs.length=n:=⟨_,rfl⟩
 have HN:Hid (xs.length=n):=hnn
 rw [hnn] at hn ⊢
 have hmk:∀ w',(Instr.makeSlice 37 (.int .i64 n) (.int .i64 n)).run Tryz.prog w'=.ok (.slice (some ⟨w'.heap.size,0,none⟩) n n) (w'.alloc (.cells (madeCells (Value.agg #[.slice none 0 0,.int .i64 0]).cells (n*2)) 46)):=fun w'=>by
  have h:=run_make (P:=Tryz.prog) w' 37 46 i0 _ Tryz.underlying37 hi0 hz0 .i64 .i64 n n (by omega) (Int.le_refl _) (by rw [hz2];omega) (by omega)
  rw [hz1] at h
  simpa using h
 have HR0:Hid (RowE (w.alloc (.cells (madeCells (Value.agg #[.slice none 0 0,.int .i64 0]).cells (n*2)) 46)) w.heap.size n []):=⟨⟨_,heap_alloc_new w _,size_madeCells _ _,by simp [cellsE]⟩,Nat.zero_le _,by unfold maxLen;omega,fun x hx=>by cases hx⟩
 have hn':(n:Int)≤3000:=by omega
 clear hE hS hnn
 go_enter Tryz.func62,Tryz.ntmps62
 go_wp2_with fail
 clear hmk
 go_loopg [11] n (fun g s11 wr => ∃ (k:Nat) (zs:List EnL),k≤n∧g=n-k∧s11=.int .i64 k∧zs.length=k∧Hid (lE zs=(lE xs).take k)∧RowE wr w.heap.size n zs∧Below w.heap.size w wr)
 case atStart=>exact ⟨0,[],Nat.zero_le _,rfl,rfl,rfl,(by simp [lE]:lE []=(lE xs).take 0),HR0.out,by go_grown⟩
 case round =>
  obtain ⟨k,zs,hk,rfl,rfl,hzl,HZ,hRow,hBw⟩:=hrel
  have HRow:Hid (RowE wr w.heap.size n zs):=hRow
  have HBw:Hid (Below w.heap.size w wr):=hBw
  have HZL:Hid (zs.length=k):=hzl
  by_cases hlt:k<n
  ·have hkx:k<xs.length:=by rw [HN.out];exact hlt
   have hki:(k:Int)<(n:Int):=by omega
   obtain ⟨-,-,h0 | ⟨b,o,rfl,hEs⟩⟩:=HE.out.later hBw
   ·have:=HN.out;rw [h0] at this;simp at this;omega
   obtain ⟨c1,c2⟩:=hEs.at hkx
   have HCl:Hid (∀ w',Below wr.heap.size wr w'→Calls Tryz.prog 92 #[.slice (xs.getD k noL).A (xs.getD k noL).e.pl.length (xs.getD k noL).c] w' fun e w''=>(∃ A' c',e=.returned (.slice A' (xs.getD k noL).e.pl.length c')∧PlTy w'' A' c' (xs.getD k noL).e.pl)∧Below w'.heap.size w' w''):=fun w' hw'=>clone_any _ _ _ w' (HS.out k hkx) ((hEs.pl hkx).later hw')
   have hBo:=ownEn_below wr (xs.getD k noL).A (xs.getD k noL).e.pl.length (xs.getD k noL).c (xs.getD k noL).e.n 46
   have HBo:Hid (Below wr.heap.size wr (ownEn wr (xs.getD k noL).A (xs.getD k noL).e.pl.length (xs.getD k noL).c (xs.getD k noL).e.n 46)):=hBo
   have hzo:=ownEn_size wr (xs.getD k noL).A (xs.getD k noL).e.pl.length (xs.getD k noL).c (xs.getD k noL).e.n 46
   have ho0:=ownEn_0 wr (xs.getD k noL).A (xs.getD k noL).e.pl.length (xs.getD k noL).c (xs.getD k noL).e.n 46
   have ho1:=ownEn_1 wr (xs.getD k noL).A (xs.getD k noL).e.pl.length (xs.getD k noL).c (xs.getD k noL).e.n 46
   have HLE:Hid ((lE xs).take (k+1)=(lE xs).take k ++ [(xs.getD k noL).e]):=by
    show _=_
    rw [List.take_succ_eq_append_getElem (by rw [lE_len];exact hkx),←lE_at,List.getD_eq_getElem?_getD,List.getElem?_eq_getElem (by rw [lE_len];exact hkx)]
    rfl
   have hwg:w.heap.size<wr.heap.size:=hRow.lt
   generalize xs.getD k noL=x at c1 c2 HCl HBo hzo ho0 ho1 HLE
   clear hEs hBo hRow hBw hzl
   have HPut:Hid (∀ (w3:World) (A':Option Addr) (c':Nat),RowE w3 w.heap.size n zs→PlTy w3 A' c' x.e.pl→RowE ((w3.setCell ⟨w.heap.size,k*2,none⟩ (.slice A' x.e.pl.length c')).setCell ⟨w.heap.size,k*2+1,none⟩ (.int .i64 x.e.n)) w.heap.size n (zs ++ [⟨x.e,A',c'⟩])∧w3.grownBy ((w3.setCell ⟨w.heap.size,k*2,none⟩ (.slice A' x.e.pl.length c')).setCell ⟨w.heap.size,k*2+1,none⟩ (.int .i64 x.e.n)) (some w.heap.size)):=fun w3 A' c' h1 h2=>by
    have h3:=h1.put (by rw [HZL.out];exact hlt) (x:=⟨x.e,A',c'⟩) h2
    rw [HZL.out] at h3
    exact h3
   have HLN:Hid (∀ A' c',lE (zs ++ [⟨x.e,A',c'⟩])=(lE xs).take (k+1)):=fun A' c'=>by rw [lE_append,HZ.out,HLE.out];rfl
   generalize hxl:x.e.pl.length=m at c1 HCl HBo hzo ho0 ho1 HPut
   generalize x.e.n=N at c2 HBo hzo ho0 ho1 HPut
   clear hxl HLE
   go_wp2_with fail
   obtain ⟨W2,hW2⟩:∃ W2,wr.alloc (.cells #[.slice x.A m x.c,.int .i64 N] 46)=W2:=⟨_,rfl⟩
   have hBo:Below wr.heap.size wr W2:=by rw [←hW2];exact HBo.out
   have hz2:wr.heap.size<W2.heap.size:=by rw [←hW2];show _<(ownEn wr x.A m x.c N 46).heap.size;rw [hzo];omega
   have HBox:Hid (wr.heap.size<W2.heap.size∧wr.heap.size≠w.heap.size∧W2.cell? ⟨wr.heap.size,0,none⟩=some (.slice x.A m x.c)∧W2.cell? ⟨wr.heap.size,1,none⟩=some (.int .i64 N)):=by rw [←hW2];exact ⟨by rw [hW2];exact hz2,by omega,ho0,ho1⟩
   have HB2:Hid (Below wr.heap.size wr W2):=hBo
   have HRow2:Hid (RowE W2 w.heap.size n zs):=HRow.out.later hBo
   rw [hW2]
   clear hW2 hBo hzo ho0 ho1 HBo c1 c2
   go_region_held3 (fun w'=>W2.grownBy w' (some w.heap.size)∧w'.cell? ⟨wr.heap.size,0,none⟩=some (.slice x.A m x.c)∧w'.cell? ⟨wr.heap.size,1,none⟩=some (.int .i64 N))
    ((refine keepG HBox.out ?_;(repeat (first | exact grown_refl _ _ | assumption | refine grown_drew ?_ | refine grown_set ?_ _ _));done))
    (first | (go_at_call 92;refine (HCl.out _ (onB HB2.out (by go_grown))).mono ?_;rintro e w3 ⟨⟨A',c',rfl,hPT⟩,hb3⟩;have hN3:=onB (W0:=W2) (by go_grown) hb3;have hG3:W2.grownBy w3 (some w.heap.size):=grown_below hN3;have HB3:Hid (Below W2.heap.size W2 w3):=hN3;have HPT:Hid (PlTy w3 A' c' x.e.pl):=hPT;obtain ⟨u0,d0⟩:=Option.isSome_iff_exists.1 ((HRow2.out.later hN3).full (j:=k*2) (by omega));obtain ⟨u1,d1⟩:=Option.isSome_iff_exists.1 ((HRow2.out.later hN3).full (j:=k*2+1) (by omega));have f0:=(HRow2.out.later hN3).frozen (k*2);have f1:=(HRow2.out.later hN3).frozen (k*2+1);clear hb3 hN3 hPT))
   clear d0 d1 f0 f1 hG3
   go_wp2_with fail
   go_roundg (n-(k+1))
   case measure=>omega
   case rel =>
    obtain ⟨h1,h2⟩:=HPut.out w3 A' c' (HRow2.out.later HB3.out) HPT.out
    refine ⟨k+1,_,by omega,rfl,by go_num,?_,HLN.out A' c',h1,?_⟩
    ·rw [List.length_append,HZL.out];rfl
    ·exact below_grown (onB HBw.out (onB HB2.out HB3.out)) h2 (onB HBw.out (onB HB2.out HB3.out)).size (Nat.le_refl _)
  ·have hke:k=n:=by omega
   subst hke
   have HFin:Hid (lE zs=lE xs):=by show _=_;rw [HZ.out,List.take_of_length_le (by rw [lE_len,HN.out];exact Nat.le_refl _)]
   clear hRow hBw hzl
   go_wp2_with fail
   go_ret
   exact ⟨⟨zs,rfl,HRow.out,HFin.out⟩,HBw.out⟩
def Edited (w:World) (g:Nat) (E:Int) (l:List En) (e:Ending) (w':World):Prop :=
 (∃ B c ys,e=.returned (.tuple #[.slice B ys.length c,errV E])∧((E≠0∧B=none∧c=0∧ys=[])∨(E=0∧∃ g',B=some ⟨g',0,none⟩∧g≤g'∧RowE w' g' c ys∧lE ys=l)))∧w.grownBy w' (some g)
theorem edit_set (D:Nat→Dm) (n:Nat) (l:List En) (p:List Int) (N:Int):editErr D n l ⟨p,N,false⟩=entOne D n ⟨p,N⟩:=by
 unfold editErr entOne
 rfl
set_option maxHeartbeats 8000000 in
theorem iset1_any (A0:Option Addr) (cap n:Nat) (D:Nat→Dm) (A:Nat→Option Addr) (C:Nat→Nat) (g cg:Nat) (xs:List EnL) (Ap:Option Addr) (cp:Nat) (p:List Int) (N:Int) (w:World) (hM:DimsV w A0 cap n D A C) (hP:PlAt w Ap cp p) (hR:RowE w g cg xs) (hEs:Ens D n (lE xs)) :
  Calls Tryz.prog 61 #[.agg #[.slice A0 n cap],.slice (some ⟨g,0,none⟩) xs.length cg,.agg #[.slice Ap p.length cp,.int .i64 N]] w fun e w'=>Edited w g (editErr D n (lE xs) ⟨p,N,false⟩) (setL (lE xs) p N) e w':=by
 rw [edit_set]
 have hB0:=ownOE_below w A0 n cap Ap p.length cp N
 have h:=icheck1_any A0 cap n D A C Ap cp ⟨p,N⟩ (ownOE w A0 n cap Ap p.length cp N) hEs.right (hM.later hB0) (hP.later hB0)
 have HB0:Hid (Below w.heap.size w (ownOE w A0 n cap Ap p.length cp N)):=hB0
 have hS0:=ownOE_size w A0 n cap Ap p.length cp N
 have h00:=ownOE_0 w A0 n cap Ap p.length cp N
 have h01:=ownOE_1 w A0 n cap Ap p.length cp N
 have HP:Hid (PlAt w Ap cp p):=hP
 have HR:Hid (RowE w g cg xs):=hR
 have HEs:Hid (Ens D n (lE xs)):=hEs
 have hgw:g<w.heap.size:=hR.lt
 have hfew:=few_of hEs
 unfold Edited
 clear hM hP hB0 hR
 by_cases he:entOne D n ⟨p,N⟩=0
 ·obtain ⟨hI,-,-⟩:=entOne_right hEs.right he
  have HF:Hid (∀ w',Below w.heap.size w w'→Calls Tryz.prog 90 #[.slice (some ⟨g,0,none⟩) xs.length cg,.slice Ap p.length cp] w' fun e w''=>e=.returned (.tuple #[.int .i64 (cntE (lE xs) p:Nat),.bool (hasE (lE xs) p)])∧Below w'.heap.size w' w''):=fun w' hw'=>ifind_any _ _ xs Ap cp p w' hfew ((HR.out.later hw').ensV) HEs.out.rise (short_of HEs.out hI) (HP.out.later hw')
  have HCl:Hid (∀ w',Below w.heap.size w w'→Calls Tryz.prog 92 #[.slice Ap p.length cp] w' fun e w''=>(∃ A' c',e=.returned (.slice A' p.length c')∧PlTy w'' A' c' p)∧Below w'.heap.size w' w''):=fun w' hw'=>clone_any _ _ _ w' (inO_short hI) (HP.out.later hw')
  have hcl:=cnt_le (lE xs) p
  rw [lE_len] at hcl
  rw [he,errV_zero] at h ⊢
  clear he hI
  cases hh:hasE (lE xs) p
  ·-- nothing stood there
   have HIn:Hid (∀ (w3:World) (A':Option Addr) (c':Nat),Below w.heap.size w w3→PlTy w3 A' c' p→Calls Tryz.prog 91 #[.slice (some ⟨g,0,none⟩) xs.length cg,.int .i64 (cntE (lE xs) p:Nat),.slice (some ⟨w3.heap.size,0,none⟩) 1 1] (ownEn w3 A' p.length c' N 46) fun e w' => ∃ g' cap' ys,e=.returned (.slice (some ⟨g',0,none⟩) (xs.length+1) cap')∧ys.length=xs.length+1∧RowE w' g' cap' ys∧lE ys=setL (lE xs) p N∧g≤g'∧(ownEn w3 A' p.length c' N 46).grownBy w' (some g)):=fun w3 A' c' hw' hT=>by
    have hb:=ownEn_below w3 A' p.length c' N 46
    have h1:=insert_any g cg (cntE (lE xs) p) w3.heap.size xs ⟨⟨p,N⟩,A',c'⟩ (ownEn w3 A' p.length c' N 46) hfew hcl (by have:=hw'.size;omega) ((HR.out.later hw').later hb) (hT.later hb) (heap_alloc_new w3 _)
    refine h1.mono ?_
    rintro e w' ⟨g',cap',rfl,hRow,hgg,hgr⟩
    exact ⟨g',cap',_,rfl,by simp;omega,hRow,by rw [lE_ins,set_new hh],hgg,hgr⟩
   have HFF:Hid (∀ w',Below w.heap.size w w'→Calls Tryz.prog 90 #[.slice (some ⟨g,0,none⟩) xs.length cg,.slice Ap p.length cp] w' fun e w''=>e=.returned (.tuple #[.int .i64 (cntE (lE xs) p:Nat),.bool false])∧Below w'.heap.size w' w''):=fun w' hw'=>by have h1:=HF.out w' hw';rw [hh] at h1;exact h1
   clear HF hh
   generalize cntE (lE xs) p=i at HFF HIn hcl
   obtain ⟨m,hm⟩:∃ m,p.length=m:=⟨_,rfl⟩
   obtain ⟨nx,hnx⟩:∃ nx,xs.length=nx:=⟨_,rfl⟩
   rw [hm] at h HB0 hS0 h00 h01 HCl HFF HIn ⊢
   rw [hnx] at HFF HIn hfew hcl ⊢
   clear hm hnx
   go_enter Tryz.func61,Tryz.ntmps61
   go_wp2_with fail
   refine h.mono ?_
   rintro e w1 ⟨rfl,hb1⟩
   have hB1:Below w.heap.size w w1:=onB HB0.out hb1
   have HB1:Hid (Below w.heap.size w w1):=hB1
   have c0:w1.cell? ⟨w.heap.size+1,0,none⟩=some (.slice Ap m cp):=(hb1.cell (p:=⟨w.heap.size+1,0,none⟩) (by show w.heap.size+1<_;omega)).trans h00
   have c1:w1.cell? ⟨w.heap.size+1,1,none⟩=some (.int .i64 N):=(hb1.cell (p:=⟨w.heap.size+1,1,none⟩) (by show w.heap.size+1<_;omega)).trans h01
   have hz1:w.heap.size+1<w1.heap.size:=by have:=hb1.size;omega
   have h2:=HFF.out w1 hB1
   clear hb1 h hB1 h00 h01 hS0
   go_wp2_with fail
   refine h2.mono ?_
   rintro e w2 ⟨rfl,hb2⟩
   have HB2:Hid (Below w.heap.size w w2):=onB HB1.out hb2
   have d0:w2.cell? ⟨w.heap.size+1,0,none⟩=some (.slice Ap m cp):=(hb2.cell (p:=⟨w.heap.size+1,0,none⟩) hz1).trans c0
   have d1:w2.cell? ⟨w.heap.size+1,1,none⟩=some (.int .i64 N):=(hb2.cell (p:=⟨w.heap.size+1,1,none⟩) hz1).trans c1
   have HBox:Hid (w.heap.size+1<w2.heap.size∧w.heap.size+1≠g∧w2.cell? ⟨w.heap.size+1,0,none⟩=some (.slice Ap m cp)∧w2.cell? ⟨w.heap.size+1,1,none⟩=some (.int .i64 N)):=⟨Nat.lt_of_lt_of_le hz1 hb2.size,by omega,d0,d1⟩
   clear hb2 c0 c1 h2 d0 d1
   go_wp2_with fail
   go_region_held3 (fun w'=>w2.grownBy w' (some g)∧w'.cell? ⟨w.heap.size+1,0,none⟩=some (.slice Ap m cp)∧w'.cell? ⟨w.heap.size+1,1,none⟩=some (.int .i64 N))
    ((refine keepG HBox.out ?_;(repeat (first | exact grown_refl _ _ | assumption | refine grown_drew ?_ | refine grown_set ?_ _ _ | refine grown_new ?_ _));done))
    (first | (go_at_call 92;refine (HCl.out _ (onB HB2.out (by go_grown))).mono ?_;rintro e w3 ⟨⟨A',c',rfl,hPT⟩,hb3⟩;have hN3:=onB (W0:=w2) (by go_grown) hb3;have hG3:w2.grownBy w3 (some g):=grown_below hN3;have HB3:Hid (Below w2.heap.size w2 w3):=hN3;have HPT:Hid (PlTy w3 A' c' p):=hPT;clear hb3 hN3 hPT) | (go_at_call 91;refine (HIn.out w3 A' c' (onB HB2.out HB3.out) HPT.out).mono ?_;rintro e w4 ⟨g',cap',ys,rfl,hyl,hRow,hle,hgg,hgr⟩;have hG4:w2.grownBy w4 (some g):=grown_trans (grown_trans hG3 (grown_below (ownEn_below ..))) hgr;have HRow:Hid (RowE w4 g' cap' ys):=hRow;have HLE:Hid (lE ys=setL (lE xs) p N):=hle;have HYL:Hid (ys.length=nx+1):=hyl;clear hRow hle hgr hyl))
   go_wp2_with fail
   go_ret2
   exact ⟨⟨some ⟨g',0,none⟩,cap',ys,by rw [HYL.out];rfl,Or.inr ⟨by trivial,g',rfl,hgg,HRow.out,HLE.out⟩⟩,grown_trans (grown_below HB2.out) hG4⟩
  ·-- something stood there
   obtain ⟨hso,hil,-⟩:=set_old hh N
   have HSN:Hid (∀ w',Below w.heap.size w w'→RowE (w'.setCell ⟨g,cntE (lE xs) p*2+1,none⟩ (.int .i64 N)) g cg (xs.set (cntE (lE xs) p) ⟨⟨(xs.getD (cntE (lE xs) p) noL).e.pl,N⟩,(xs.getD (cntE (lE xs) p) noL).A,(xs.getD (cntE (lE xs) p) noL).c⟩)∧w'.grownBy (w'.setCell ⟨g,cntE (lE xs) p*2+1,none⟩ (.int .i64 N)) (some g)):=fun w' hw'=>(HR.out.later hw').setN (by rw [lE_len] at hil;exact hil) N
   have HLE:Hid (lE (xs.set (cntE (lE xs) p) ⟨⟨(xs.getD (cntE (lE xs) p) noL).e.pl,N⟩,(xs.getD (cntE (lE xs) p) noL).A,(xs.getD (cntE (lE xs) p) noL).c⟩)=setL (lE xs) p N):=by show _=_;rw [lE_set,hso,lE_at]
   have HFF:Hid (∀ w',Below w.heap.size w w'→Calls Tryz.prog 90 #[.slice (some ⟨g,0,none⟩) xs.length cg,.slice Ap p.length cp] w' fun e w''=>e=.returned (.tuple #[.int .i64 (cntE (lE xs) p:Nat),.bool true])∧Below w'.heap.size w' w''):=fun w' hw'=>by have h1:=HF.out w' hw';rw [hh] at h1;exact h1
   have HYL:Hid ((xs.set (cntE (lE xs) p) ⟨⟨(xs.getD (cntE (lE xs) p) noL).e.pl,N⟩,(xs.getD (cntE (lE xs) p) noL).A,(xs.getD (cntE (lE xs) p) noL).c⟩).length=xs.length):=List.length_set
   rw [lE_len] at hil
   clear HF hh hso
   generalize xs.set (cntE (lE xs) p) ⟨⟨(xs.getD (cntE (lE xs) p) noL).e.pl,N⟩,(xs.getD (cntE (lE xs) p) noL).A,(xs.getD (cntE (lE xs) p) noL).c⟩=ys at HSN HLE HYL
   generalize cntE (lE xs) p=i at HFF HSN hcl hil
   obtain ⟨m,hm⟩:∃ m,p.length=m:=⟨_,rfl⟩
   obtain ⟨nx,hnx⟩:∃ nx,xs.length=nx:=⟨_,rfl⟩
   rw [hm] at h HB0 hS0 h00 h01 HCl HFF ⊢
   rw [hnx] at HFF hfew hcl hil HYL ⊢
   have hil':(i:Int)<(nx:Int):=by omega
   have hcg:nx≤cg:=by rw [←hnx];exact HR.out.2.1
   clear hm hnx HCl
   go_enter Tryz.func61,Tryz.ntmps61
   go_wp2_with fail
   refine h.mono ?_
   rintro e w1 ⟨rfl,hb1⟩
   have hB1:Below w.heap.size w w1:=onB HB0.out hb1
   have HB1:Hid (Below w.heap.size w w1):=hB1
   have c0:w1.cell? ⟨w.heap.size+1,0,none⟩=some (.slice Ap m cp):=(hb1.cell (p:=⟨w.heap.size+1,0,none⟩) (by show w.heap.size+1<_;omega)).trans h00
   have c1:w1.cell? ⟨w.heap.size+1,1,none⟩=some (.int .i64 N):=(hb1.cell (p:=⟨w.heap.size+1,1,none⟩) (by show w.heap.size+1<_;omega)).trans h01
   have hz1:w.heap.size+1<w1.heap.size:=by have:=hb1.size;omega
   have h2:=HFF.out w1 hB1
   clear hb1 h hB1 h00 h01 hS0
   go_wp2_with fail
   refine h2.mono ?_
   rintro e w2 ⟨rfl,hb2⟩
   have hB2:Below w.heap.size w w2:=onB HB1.out hb2
   have HB2:Hid (Below w.heap.size w w2):=hB2
   have d1:w2.cell? ⟨w.heap.size+1,1,none⟩=some (.int .i64 N):=(hb2.cell (p:=⟨w.heap.size+1,1,none⟩) hz1).trans c1
   obtain ⟨u,hu⟩:=Option.isSome_iff_exists.1 ((HR.out.later hB2).full (j:=i*2+1) (by omega))
   have hf:=(HR.out.later hB2).frozen (i*2+1)
   clear hb2 c0 c1 h2 hB2
   go_wp2_with fail
   go_ret2
   obtain ⟨r1,r2⟩:=HSN.out w2 HB2.out
   exact ⟨⟨some ⟨g,0,none⟩,cg,ys,by rw [HYL.out];rfl,Or.inr ⟨by trivial,g,rfl,Nat.le_refl _,r1,HLE.out⟩⟩,grown_trans (grown_below HB2.out) r2⟩
 ·have HV:Hid (errV (entOne D n ⟨p,N⟩)=.iface 83 (.int .i64 (entOne D n ⟨p,N⟩))):=errV_some he
  rw [errV_some he] at h
  have HE:Hid (entOne D n ⟨p,N⟩≠0):=he
  generalize entOne D n ⟨p,N⟩=E at h HV HE
  generalize p.length=m at h HB0
  generalize xs.length=nx
  clear he hS0 h00 h01 hfew
  go_enter Tryz.func61,Tryz.ntmps61
  go_wp2_with fail
  refine h.mono ?_
  rintro e w1 ⟨rfl,hb1⟩
  have HB1:Hid (Below w.heap.size w w1):=onB HB0.out hb1
  clear hb1
  go_wp2_with fail
  go_ret2
  rw [HV.out]
  exact ⟨⟨none,0,[],rfl,Or.inl ⟨HE.out,rfl,rfl,rfl⟩⟩,grown_below HB1.out⟩
def pickL (E:Int) (l:List En):List En:=if E=0 then l else []
theorem pickL_bad {E:Int} (h:E≠0) (l:List En):pickL E l=[]:=by unfold pickL;rw [if_neg h]
theorem pickL_in (l:List En):pickL 0 l=l:=rfl
def Answer (w:World) (E:Int) (l:List En) (e:Ending) (w':World):Prop:=(∃ B c zs,e=.returned (.tuple #[.slice B zs.length c,errV E])∧EnsV w' B c zs∧lE zs=pickL E l)∧Below w.heap.size w w'
theorem edited_ens {w':World} {g c:Nat} {E:Int} {l:List En} {B:Option Addr} {ys:List EnL} (h:(E≠0∧B=none∧c=0∧ys=[])∨(E=0∧∃ g',B=some ⟨g',0,none⟩∧g≤g'∧RowE w' g' c ys∧lE ys=l)):EnsV w' B c ys∧lE ys=pickL E l:=by
 rcases h with ⟨h1,rfl,rfl,rfl⟩ | ⟨h1,g',rfl,_,h2,h3⟩
 ·exact ⟨EnsV.nil _ _ _ (by decide),by rw [pickL_bad h1];rfl⟩
 ·exact ⟨h2.ensV,by rw [h1,pickL_in,h3]⟩
def changeErr (D:Nat→Dm) (n:Nat) (l:List En) (x:Ed):Int:=if entsErr D n l≠0 then entsErr D n l else editErr D n l x
theorem change_bad {D:Nat→Dm} {n:Nat} {l:List En} (x:Ed) (h:entsErr D n l≠0):changeErr D n l x=entsErr D n l:=by unfold changeErr;rw [if_pos h]
theorem change_in {D:Nat→Dm} {n:Nat} {l:List En} (x:Ed) (h:entsErr D n l=0):changeErr D n l x=editErr D n l x:=by unfold changeErr;rw [if_neg (by simpa using h)]
theorem keepO {W w':World} {q:Nat} {u:Value} (h:q<W.heap.size∧W.cell? ⟨q,0,none⟩=some u) (hB:Below W.heap.size W w'):Below W.heap.size W w'∧w'.cell? ⟨q,0,none⟩=some u:=⟨hB,(hB.cell (p:=⟨q,0,none⟩) h.1).trans h.2⟩
theorem fresh_of {D:Nat→Dm} {n:Nat} {xs:List EnL} (hEs:Ens D n (lE xs)):∀ k,k<xs.length→(xs.getD k noL).e.pl.length≤4:=fun k hk=>by
 have h1:(xs.getD k noL).e∈lE xs:=List.mem_map.2 ⟨_,enl_mem hk,rfl⟩
 exact inO_short (hEs.each _ h1).1
theorem len_eq {xs ys:List EnL} (h:lE ys=lE xs):ys.length=xs.length:=by rw [←lE_len,h,lE_len]
set_option maxHeartbeats 8000000 in
theorem iset_any (A0:Option Addr) (cap n:Nat) (D:Nat→Dm) (A:Nat→Option Addr) (C:Nat→Nat) (AE:Option Addr) (ce:Nat) (xs:List EnL) (Ap:Option Addr) (cp:Nat) (p:List Int) (N:Int) (w:World) (hM:DimsV w A0 cap n D A C) (hE:EnsV w AE ce xs) (hP:PlAt w Ap cp p) :
  Calls Tryz.prog 29 #[.agg #[.slice A0 n cap],.slice AE xs.length ce,.slice Ap p.length cp,.int .i64 N] w fun e w'=>Answer w (changeErr D n (lE xs) ⟨p,N,false⟩) (setL (lE xs) p N) e w':=by
 have hB0:=ownOut_below w A0 n cap 29
 have h:=icheck_any A0 cap n D A C AE ce xs (ownOut w A0 n cap 29) (hM.later hB0) (hE.later hB0)
 have HB0:Hid (Below w.heap.size w (ownOut w A0 n cap 29)):=hB0
 have HM:Hid (DimsV w A0 cap n D A C):=hM
 have HE:Hid (EnsV w AE ce xs):=hE
 have HP:Hid (PlAt w Ap cp p):=hP
 unfold Answer
 clear hM hE hP hB0
 by_cases he:entsErr D n (lE xs)=0
 ·have hEs:=ens_of he
  have HFr:Hid (∀ w',Below w.heap.size w w'→Calls Tryz.prog 62 #[.slice AE xs.length ce] w' fun e w'' => ∃ g ys,e=.returned (.slice (some ⟨g,0,none⟩) xs.length xs.length)∧w'.heap.size≤g∧RowE w'' g xs.length ys∧lE ys=lE xs∧Below w'.heap.size w' w''):=fun w' hw'=>by
   refine (fresh_any AE ce xs w' (few_of hEs) (fresh_of hEs) (HE.out.later hw')).mono ?_
   rintro e w'' ⟨⟨ys,rfl,hRow,hle⟩,hb⟩
   exact ⟨w'.heap.size,ys,rfl,Nat.le_refl _,hRow,hle,hb⟩
  have HSt:Hid (∀ (w3:World) (g:Nat) (ys:List EnL),Below w.heap.size w w3→RowE w3 g xs.length ys→lE ys=lE xs→Calls Tryz.prog 61 #[.agg #[.slice A0 n cap],.slice (some ⟨g,0,none⟩) xs.length xs.length,.agg #[.slice Ap p.length cp,.int .i64 N]] w3 fun e w'=>(∃ B c zs,e=.returned (.tuple #[.slice B zs.length c,errV (changeErr D n (lE xs) ⟨p,N,false⟩)])∧EnsV w' B c zs∧lE zs=pickL (changeErr D n (lE xs) ⟨p,N,false⟩) (setL (lE xs) p N))∧w3.grownBy w' (some g)):=fun w3 g ys hw3 hRow hle=>by
   have h1:=iset1_any A0 cap n D A C g xs.length ys Ap cp p N w3 (HM.out.later hw3) (HP.out.later hw3) hRow (by rw [hle];exact hEs)
   rw [hle,len_eq hle,←change_in _ he] at h1
   refine h1.mono ?_
   rintro e w' ⟨⟨B,c,zs,rfl,hc⟩,hg⟩
   obtain ⟨h2,h3⟩:=edited_ens hc
   exact ⟨⟨B,c,zs,rfl,h2,h3⟩,hg⟩
  rw [he,errV_zero] at h
  generalize changeErr D n (lE xs) ⟨p,N,false⟩=E at HSt
  obtain ⟨m,hm⟩:∃ m,p.length=m:=⟨_,rfl⟩
  obtain ⟨nx,hnx⟩:∃ nx,xs.length=nx:=⟨_,rfl⟩
  rw [hm] at HSt ⊢
  rw [hnx] at h HFr HSt ⊢
  clear he hEs hm hnx
  go_enter Tryz.func29,Tryz.ntmps29
  go_wp2_with fail
  refine h.mono ?_
  rintro e w1 ⟨rfl,hb1⟩
  have HB1:Hid (Below w.heap.size w w1):=onB HB0.out hb1
  have c0:w1.cell? ⟨w.heap.size,0,none⟩=some (.slice A0 n cap):=(hb1.cell (p:=⟨w.heap.size,0,none⟩) (by show w.heap.size<_;rw [ownOut_size];omega)).trans (ownOut_at ..)
  have HBox:Hid (w.heap.size<w1.heap.size∧w1.cell? ⟨w.heap.size,0,none⟩=some (.slice A0 n cap)):=⟨by have:=hb1.size;rw [ownOut_size] at this;omega,c0⟩
  clear hb1 h c0
  go_wp2_with fail
  go_region_held3 (fun w'=>Below w1.heap.size w1 w'∧w'.cell? ⟨w.heap.size,0,none⟩=some (.slice A0 n cap))
   ((refine keepO HBox.out ?_;go_grown;done))
   (first | (go_at_call 62;refine (HFr.out _ (onB HB1.out (by go_grown))).mono ?_;rintro e w3 ⟨g,ys,rfl,hgg,hRow,hle,hb3⟩;have hN3:=onB (W0:=w1) (by go_grown) hb3;have hy3:=hN3.size;have HG3:Hid (w1.heap.size≤g):=hgg;have HB3:Hid (Below w1.heap.size w1 w3):=hN3;have HRow:Hid (RowE w3 g nx ys):=hRow;have HLE:Hid (lE ys=lE xs):=hle;clear hb3 hgg hRow hle) | (go_at_call 61;refine (HSt.out w3 g ys (onB HB1.out HB3.out) HRow.out HLE.out).mono ?_;rintro e w4 ⟨⟨B,c,zs,rfl,hV,hl⟩,hgr⟩;have hN4:Below w1.heap.size w1 w4:=below_grown HB3.out hgr HB3.out.size HG3.out;have hy4:=hN4.size;have HV:Hid (EnsV w4 B c zs):=hV;have HL:Hid (lE zs=pickL E (setL (lE xs) p N)):=hl;clear hgr hV hl))
  have HB4:Hid (Below w.heap.size w w4):=onB HB1.out hN4
  clear hN3 hN4 hy3 hy4
  go_wp2_with fail
  go_ret2
  exact ⟨⟨B,c,zs,rfl,HV.out,HL.out⟩,HB4.out⟩
 ·have hc:=change_bad (⟨p,N,false⟩:Ed) he
  have HV:Hid (errV (changeErr D n (lE xs) ⟨p,N,false⟩)=.iface 83 (.int .i64 (entsErr D n (lE xs)))∧changeErr D n (lE xs) ⟨p,N,false⟩≠0):=by rw [hc];exact ⟨errV_some he,he⟩
  rw [errV_some he] at h
  clear hc he
  generalize entsErr D n (lE xs)=F at h HV
  generalize changeErr D n (lE xs) ⟨p,N,false⟩=E at HV
  generalize xs.length=nx at h
  generalize p.length=m
  go_enter Tryz.func29,Tryz.ntmps29
  go_wp2_with fail
  refine h.mono ?_
  rintro e w1 ⟨rfl,hb1⟩
  have HB1:Hid (Below w.heap.size w w1):=onB HB0.out hb1
  clear hb1
  go_wp2_with fail
  go_ret2
  rw [HV.out.1,pickL_bad HV.out.2]
  exact ⟨⟨none,0,[],rfl,EnsV.nil _ _ _ (by decide),rfl⟩,HB1.out⟩
end Go.Proofs.YtigkeokacagabagGreatDoor
namespace Go.Proofs.YtigkeokacagabagGreatDoor
open Go.ChangeShapes Go.WideShapes Go.ChangeAt Go.RowKit
theorem sel_3000 {D:Nat→Dm} {n:Nat} (h:(allErr D n).2.2=0) (f:Nat→Bool):(selTo f (prodN D n)).length≤3000:=by
 obtain ⟨-,-,hp3,-⟩:=allErr_some h
 exact Nat.le_trans (selTo_len _ _) hp3
section
variable {D:Nat→Dm} {n:Nat}
theorem sol_clean (hR:AllR D n) (hE:(allErr D n).2.2=0) {inp inp':List Int→Int×Int} {m:Nat} (hin:∀ i:Nat,i<prodN D n→i≠m→inp (placeL D n i)=inp' (placeL D n i)):∀ (k i:Nat),i<prodN D n→msrTo D (placeL D n i) n<k→¬ Ndd D n i m→solV D n inp (placeL D n i)=solV D n inp' (placeL D n i):=by
 intro k
 induction k with
 | zero=>intro i _ h;omega
 | succ k ih =>
  intro i hi hk hn
  have hI:InO D n (placeL D n i):=placeL_in hE
  rcases by_in D (placeL D n i) n with h | ⟨b,hb,hbn⟩
  ·rw [sol_leaf _ (by omega),sol_leaf _ (by omega)]
   exact hin i hi fun e=>hn (e ▸ .refl _)
  ·rw [sol_by hR inp hI hb,sol_by hR inp' hI hb]
   have hp0:=hI.lo b hbn
   have hp1:=hI.hi b hbn
   have hrb:=hR b hbn
   obtain ⟨hd,hm,-,-⟩:=rErr_right hrb
   refine oneV_same hd (hm _ (by omega)) fun x hx=>?_
   have hxi:=mNd_in hx
   have hI2:=inO_set hI hbn hxi.1 hxi.2
   have hbd:=numI_bound hI2 (Nat.le_refl n)
   obtain ⟨j,hj⟩:∃ j:Nat,numI D ((placeL D n i).set b x) n=(j:Int):=⟨(numI D ((placeL D n i).set b x) n).toNat,by have:=hbd.1;omega⟩
   have hpn:=place_num hI2
   rw [hj,Int.toNat_natCast] at hpn
   have hrk:=rk_less hrb (i:=((placeL D n i).getD b 0).toNat) (by omega) hx
   rw [Int.toNat_of_nonneg hp0] at hrk
   have hms:=(msr_less (by rw [hI.len];exact hbn) hrk n).2 hbn
   rw [←hpn] at hms ⊢
   exact ih j (by have:=hbd.2.1;omega) (by omega) fun h=>hn (.step ⟨b,hb,x,hx,hj.symm⟩ h)
end
end Go.Proofs.YtigkeokacagabagGreatDoor
namespace Go.Proofs.YtigkeokacagabagGreatDoor
open Go.ChangeShapes Go.WideShapes Go.ChangeAt Go.RowKit
set_option maxRecDepth 20000
theorem sel_iff {p:Nat→Bool} {N m:Nat} (hm:m<N):(m:Int)∈selTo p N↔p m=true :=
 ⟨fun h=>by obtain ⟨j,hj,-,hp⟩:=selTo_mem _ h;have e:m=j:=(by omega);rw [e];exact hp,fun h=>sel_has hm h⟩
theorem set_right {D:Nat→Dm} {n:Nat} {l:List En} {q:List Int} {N:Int} (h:changeErr D n l ⟨q,N,false⟩=0):Ens D n l∧InO D n q∧leafV D n q=true∧Ens D n (setL l q N):=by
 have h1:entsErr D n l=0:=by
  by_cases h1:entsErr D n l=0
  ·exact h1
  ·rw [change_bad _ h1] at h;exact absurd h h1
 rw [change_in _ h1] at h
 have hE:=ens_of h1
 obtain ⟨g1,g2⟩:=hE.edit h
 refine ⟨hE,g1,?_,g2⟩
 unfold editErr at h
 split at h
 ·rename_i h2;exact absurd h h2
 ·split at h
  ·rename_i h2;cases h2
  ·split at h
   ·cases h
   ·rename_i h3;simpa using h3
theorem need_swap {D:Nat→Dm} {n k m:Nat} (hk:k<prodN D n) (hm:m<prodN D n) (hl:leafV D n (placeL D n m)=true):inB (blwL D n k) (m:Int)=inB (drtL D n [(m:Int)]) (k:Int):=by
 unfold inB
 rw [Bool.eq_iff_iff,decide_eq_true_iff,decide_eq_true_iff]
 unfold blwL drtL
 rw [sel_iff hm,sel_iff hk]
 unfold blwB
 rw [hl,Bool.and_true,ndB_iff,dirB_iff]
 constructor
 ·intro h
  exact ⟨m,List.mem_singleton.2 rfl,h⟩
 ·rintro ⟨a,ha,h⟩
  have:a=m:=by rw [List.mem_singleton] at ha;omega
  rw [←this]
  exact h
theorem clean_cell {D:Nat→Dm} {n i m:Nat} {l:List En} {q:List Int} {N:Int} (hr:(ruErr D n).2.2=0) (hEs:Ens D n l) (h1:cuErr D n l=0) (h2:cuErr D n (setL l q N)=0) (hi:i<prodN D n) (hm:m<prodN D n) (hq:placeL D n m=q) (hn:inB (drtL D n [(m:Int)]) (i:Int)=false):(caL D n l).getD i noC=(caL D n (setL l q N)).getD i noC:=by
 obtain ⟨hE,hR⟩:=ru_right hr
 rw [caL_at h1 hi,caL_at h2 hi]
 refine sol_clean hR hE (m:=m) (fun j hj hne=>?_) _ i hi (Nat.lt_succ_self _) fun h=>?_
 ·refine (hEs.else (fun e=>hne ?_) N).symm
  have h3:=num_place hE hj
  rw [e,←hq] at h3
  rw [num_place hE hm] at h3
  omega
 ·unfold inB at hn
  rw [decide_eq_false_iff_not] at hn
  refine hn ?_
  unfold drtL
  rw [sel_iff hi,dirB_iff]
  exact ⟨m,List.mem_singleton.2 rfl,h⟩
set_option maxHeartbeats 2000000 in
theorem has_any (A:Option Addr) (c:Nat) (L:List Int) (x:Int) (w:World) (hl:L.length≤3000) (hI:IntsAt w A c L):Calls Tryz.prog 30 #[.slice A L.length c,.int .i64 x] w fun e w'=>e=.returned (.bool (inB L x))∧Below w.heap.size w w':=by
 have HI:=hid_of hI
 obtain ⟨N,hN⟩:∃ N,L.length=N:=⟨_,rfl⟩
 have HN:=hid_of hN
 rw [hN] at hl ⊢
 have hNI:(N:Int)≤3000:=by omega
 clear hI hN
 go_enter Tryz.func30,Tryz.ntmps30
 go_wp2_with fail
 go_loopg [5] N (fun gg s5 wr => ∃ (k:Nat),k≤N∧gg=N-k∧s5=.int .i64 k∧Hid (∀ j,j<k→L.getD j 0≠x)∧Hid (Below w.heap.size w wr))
 case atStart=>exact ⟨0,Nat.zero_le _,rfl,rfl,(fun j hj=>absurd hj (Nat.not_lt_zero _):∀ j,j<0→L.getD j 0≠x),Below.refl _ _⟩
 case round =>
  obtain ⟨k,hk,rfl,rfl,HK,HB⟩:=hrel
  by_cases hlt:k<N
  ·have hki:(k:Int)<(N:Int):=by omega
   obtain ⟨hcc,h0 | ⟨b,rfl,hbw,hcl⟩⟩:=HI.out.later HB.out
   ·have:=HN.out;rw [h0] at this;simp at this;omega
   have ck:=hcl k (by rw [HN.out];exact hlt)
   rw [HN.out] at hcc
   have hccI:(N:Int)≤(c:Int):=by omega
   have hmem:L.getD k 0∈L:=mem_at (by rw [HN.out];exact hlt)
   obtain ⟨y,hy⟩:∃ y,L.getD k 0=y:=⟨_,rfl⟩
   have HY:=hid_of hy
   rw [hy] at ck hmem
   clear hcl hy
   by_cases hyx:y=x
   ·have HR:Hid (inB L x=true):=by show _=_;unfold inB;rw [decide_eq_true_iff,←hyx];exact hmem
    have hyt:(y == x)=true:=by simpa using hyx
    clear hyx hmem
    go_wp2_with fail
    first | (go_quiet (fail);go_wp2_with fail) | skip
    go_ret
    exact ⟨by rw [HR.out];rfl,by first | exact HB.out | exact below_drewN HB.out _⟩
   ·have hyt:(y == x)=false:=by simpa using hyx
    have HK2:Hid (∀ j,j<k+1→L.getD j 0≠x):=fun j hj=>by
     by_cases e:j=k
     ·rw [e,HY.out];exact hyx
     ·exact HK.out j (by omega)
    clear hyx hmem
    go_wp2_with fail
    first | (go_quiet (fail);go_wp2_with fail) | skip
    go_roundg (N-(k+1))
    case measure=>omega
    case rel=>exact ⟨k+1,by omega,rfl,by go_num,HK2,by first | exact HB | exact hid_of (below_drewN HB.out _)⟩
  ·have hke:k=N:=by omega
   subst hke
   have HR:Hid (inB L x=false):=by
    show _=_
    unfold inB
    rw [decide_eq_false_iff_not]
    intro h
    obtain ⟨j,hj,e⟩:=List.mem_iff_getElem.1 h
    refine HK.out j (by rw [←HN.out];exact hj) ?_
    rw [List.getD_eq_getElem?_getD,List.getElem?_eq_getElem hj]
    exact e
   go_wp2_with fail
   go_ret
   exact ⟨by rw [HR.out];rfl,HB.out⟩
theorem ndm_sh:shapeErr ndmO 1 [1]=0∧leafV ndmO 1 [1]=true∧numI ndmO [1] 1=1∧byTo ndmO [0] 1=0∧mNd ndmD 0=[1]∧placeL ndmO 1 0=[0]:=by decide +kernel
theorem ndm_dirty:drE ndmO 1 [[1]]=0∧(ddL ndmO 1 [[1]]).length=2:=by
 obtain ⟨h1,h2,h3,h4,h5,h6⟩:=ndm_sh
 have he:drE ndmO 1 [[1]]=0:=by
  unfold drE
  rw [ndm_ru,if_neg (by simp),drTo_one h1 h2]
 refine ⟨he,?_⟩
 unfold ddL
 rw [if_pos he]
 have e:drN ndmO 1 [[1]]=[((1:Nat):Int)]:=by
  unfold drN
  rw [List.map_cons,List.map_nil,h3]
  rfl
 rw [e]
 unfold drtL
 rw [ndm_prod]
 have p1:dirB ndmO 1 [((1:Nat):Int)] 1=true:=dirB_iff.2 ⟨1,List.mem_singleton.2 rfl,.refl _⟩
 have p0:dirB ndmO 1 [((1:Nat):Int)] 0=true:=by
  refine dirB_iff.2 ⟨1,List.mem_singleton.2 rfl,.step ⟨0,?_,1,?_,?_⟩ (.refl _)⟩
  ·rw [h6,h4];rfl
  ·rw [h6]
   show (1:Int)∈mNd ndmD 0
   rw [h5]
   exact List.mem_singleton.2 rfl
  ·rw [h6]
   show ((1:Nat):Int)=numI ndmO [1] 1
   rw [h3]
   rfl
 rw [selTo_hit p1,selTo_hit p0]
 rfl
end Go.Proofs.YtigkeokacagabagGreatDoor
