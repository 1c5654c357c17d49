/-
  What package tree tells, as plain functions on plain data: the path of a member, its parts, its leafs, how a leaf counts in a member, how long paths are; and small facts on them.
-/
import Derived.Test.YtmmpanbkmpdnkahGreatDoorJGBN
namespace Go.Proofs.YtmmpanbkmpdnkahGreatDoor
def Tr (M:Nat→Mem) (n:Nat):Prop := ∀ k,k<n→-1≤(M k).parent∧(M k).parent<(k:Int)
end Go.Proofs.YtmmpanbkmpdnkahGreatDoor
namespace Go.Proofs.YtmmpanbkmpdnkahGreatDoor
open Go Go.ChangeShapes Go.WideShapes Go.ChangeAt Go.RowKit Go.Deep
set_option maxRecDepth 100000
section
variable {H:Type} {enc:TypeId×Value→H} {w:World} {held:Bool}
theorem trod_one {P:Program} {base:Nat} {sp:Nat→Bool} {t:TypeId} {fs:Array Field} {fuel:Nat} {cs:List Value} {x:DataW H×List MemPlace} (ht:P.underlying t=some (.struct fs)) (hone:oneCellFields P fs=true) (h:DataW.trod enc P w base sp held fuel t cs=some x) :
  cs.length=P.cellsOf t∧∃ n,∀ (i:Nat) (f:Field) (v:Value),fs[i]?=some f→cs[i]?=some v→∃ y,DataW.trod enc P w base sp held n f.type [v]=some y:=by
 obtain ⟨xs,n,_,_,hl,hxs,hf⟩:=DataW.trod_struct ht h
 refine ⟨hl,n,fun i f v hi hv=>?_⟩
 obtain ⟨ho,hc⟩:=hone_of hone i f hi
 have hlt:i<fs.size:=(Array.getElem?_eq_some_iff.1 hi).1
 have e:=hf i f hi
 rw [ho,hc] at e
 obtain ⟨hi',hv'⟩:=List.getElem?_eq_some_iff.1 hv
 have ed:(cs.drop i).take 1=[v]:=by rw [List.drop_eq_getElem_cons hi',hv'];rfl
 rw [ed,List.getElem?_eq_getElem (by omega)] at e
 exact ⟨_,e⟩
theorem cellsM:Tryz.prog.cellsOf 65=4:=by kernel_rfl
theorem cellsD:Tryz.prog.cellsOf 63=3:=by kernel_rfl
theorem cellsO:Tryz.prog.cellsOf 30=1:=by kernel_rfl
theorem open_member {base:Nat} {sp:Nat→Bool} {fuel:Nat} {cs:List Value} {x:DataW H×List MemPlace} (h:DataW.trod enc Tryz.prog w base sp held fuel 65 cs=some x) :
  ∃ m:Mem,cs=[.string m.name,.int .i64 m.parent,.int .i64 m.sign,.string m.formula]:=by
 obtain ⟨hl,n,hf⟩:=trod_one Tryz.underlying65 (by kernel_rfl) h
 rw [cellsM] at hl
 match cs,hl with
 | [v0,v1,v2,v3],_ =>
  obtain ⟨y0,h0⟩:=hf 0 _ v0 rfl rfl
  obtain ⟨y1,h1⟩:=hf 1 _ v1 rfl rfl
  obtain ⟨y2,h2⟩:=hf 2 _ v2 rfl rfl
  obtain ⟨y3,h3⟩:=hf 3 _ v3 rfl rfl
  obtain ⟨s0,e0,-,-⟩:=DataW.trod_string Tryz.underlying9 h0
  obtain ⟨n1,e1,-,-⟩:=DataW.trod_int Tryz.underlying3 h1
  obtain ⟨n2,e2,-,-⟩:=DataW.trod_int Tryz.underlying3 h2
  obtain ⟨s3,e3,-,-⟩:=DataW.trod_string Tryz.underlying9 h3
  simp at e0 e1 e2 e3
  exact ⟨⟨s0,n1,n2,s3⟩,by rw [e0,e1,e2,e3]⟩
theorem addr_plain {a:Addr} {k:Nat} {v:Value} (h:w.cell? (a.add k)=some v) (hk:k=0):a=⟨a.block,a.off,none⟩:=by
 subst hk
 have e:(a.add 0)=a:=by simp [Addr.add]
 rw [e] at h
 have:=World.cell?_spot h
 cases a
 simp_all
theorem open_members {fuel:Nat} {cs:List Value} {x:DataW H×List MemPlace} (h:DataW.trod enc Tryz.prog w 0 (fun _=>true) held fuel 61 cs=some x) :
  ∃ (A:Option Addr) (cap n:Nat) (M:Nat→Mem),cs=[.slice A n cap]∧MemsV w A cap n M:=by
 rcases open_slice Tryz.underlying61 h with ⟨rfl,-⟩ | ⟨a,len,cap,m,n,D,Pl,rfl,-,hl,-,hm,-,hx⟩
 ·exact ⟨none,0,0,fun _=>⟨default,0,0,default⟩,rfl,Nat.le_refl _,Or.inl rfl⟩
 rw [cellsM] at hx
 simp at hm
 subst hm
 haveI:Inhabited Mem:=⟨⟨default,0,0,default⟩⟩
 have each:∀ i,i<len→∃ y:Mem,w.cells? 0 (a.add (i*4)) 4=some [.string y.name,.int .i64 y.parent,.int .i64 y.sign,.string y.formula]:=fun i hi=>by
  obtain ⟨cs',h1,h2⟩:=hx i (by omega)
  obtain ⟨y,rfl⟩:=open_member h2
  exact ⟨y,h1⟩
 obtain ⟨M,hM⟩:=choose_lt each
 refine ⟨some a,_,len,M,rfl,hl,?_⟩
 rcases Nat.eq_zero_or_pos len with h0 | h0
 ·exact Or.inl h0
 right
 have c0:=(World.cells?_some (hM 0 h0)).2.2 0 (by omega)
 rw [add_add] at c0
 have hp:=addr_plain c0 (by omega)
 have hb:=World.block_lt_of_cell? _ _ c0
 refine ⟨a.block,a.off,by rw [←hp],by simpa [Addr.add] using hb,fun i hi=>?_⟩
 have hc:=(World.cells?_some (hM i hi)).2.2
 rw [hp] at hc
 simp only [plain_add,Nat.add_assoc] at hc
 refine ⟨?_,?_,?_,?_⟩
 ·have:=hc 0 (by omega);simpa using this
 ·have:=hc 1 (by omega);simpa [Nat.add_assoc] using this
 ·have:=hc 2 (by omega);simpa [Nat.add_assoc] using this
 ·have:=hc 3 (by omega);simpa [Nat.add_assoc] using this
theorem open_dim {fuel:Nat} {cs:List Value} {x:DataW H×List MemPlace} (h:DataW.trod enc Tryz.prog w 0 (fun _=>true) held fuel 63 cs=some x) :
  ∃ (d:Dm) (A:Option Addr) (c:Nat),cs=[.string d.name,.int .i64 d.solve,.slice A d.n c]∧MemsV w A c d.n d.mem:=by
 obtain ⟨hl,n,hf⟩:=trod_one Tryz.underlying63 (by kernel_rfl) h
 rw [cellsD] at hl
 match cs,hl with
 | [v0,v1,v2],_ =>
  obtain ⟨y0,h0⟩:=hf 0 _ v0 rfl rfl
  obtain ⟨y1,h1⟩:=hf 1 _ v1 rfl rfl
  obtain ⟨y2,h2⟩:=hf 2 _ v2 rfl rfl
  obtain ⟨s0,e0,-,-⟩:=DataW.trod_string Tryz.underlying9 h0
  obtain ⟨n1,e1,-,-⟩:=DataW.trod_int Tryz.underlying3 h1
  obtain ⟨A,cap,k,M,e2,hM⟩:=open_members h2
  simp at e0 e1 e2
  exact ⟨⟨s0,n1,k,M⟩,A,cap,by rw [e0,e1,e2],hM⟩
theorem open_dims {fuel:Nat} {cs:List Value} {x:DataW H×List MemPlace} (h:DataW.trod enc Tryz.prog w 0 (fun _=>true) held fuel 28 cs=some x) :
  ∃ (A0:Option Addr) (cap n:Nat) (D:Nat→Dm) (A:Nat→Option Addr) (C:Nat→Nat),cs=[.slice A0 n cap]∧DimsV w A0 cap n D A C:=by
 rcases open_slice Tryz.underlying28 h with ⟨rfl,-⟩ | ⟨a,len,cap,m,n,D,Pl,rfl,-,hl,-,hm,-,hx⟩
 ·exact ⟨none,0,0,fun _=>⟨default,0,0,fun _=>⟨default,0,0,default⟩⟩,fun _=>none,fun _=>0,rfl,Nat.le_refl _,Or.inl rfl⟩
 rw [cellsD] at hx
 simp at hm
 subst hm
 haveI:Inhabited Dm:=⟨⟨default,0,0,fun _=>⟨default,0,0,default⟩⟩⟩
 have each:∀ i,i<len→∃ y:Dm×Option Addr×Nat,w.cells? 0 (a.add (i*3)) 3=some [.string y.1.name,.int .i64 y.1.solve,.slice y.2.1 y.1.n y.2.2]∧MemsV w y.2.1 y.2.2 y.1.n y.1.mem:=fun i hi=>by
  obtain ⟨cs',h1,h2⟩:=hx i (by omega)
  obtain ⟨d,A,c,rfl,hm⟩:=open_dim h2
  exact ⟨(d,A,c),h1,hm⟩
 obtain ⟨Y,hY⟩:=choose_lt each
 refine ⟨some a,_,len,fun i=>(Y i).1,fun i=>(Y i).2.1,fun i=>(Y i).2.2,rfl,hl,?_⟩
 rcases Nat.eq_zero_or_pos len with h0 | h0
 ·exact Or.inl h0
 right
 have c0:=(World.cells?_some (hY 0 h0).1).2.2 0 (by omega)
 rw [add_add] at c0
 have hp:=addr_plain c0 (by omega)
 have hb:=World.block_lt_of_cell? _ _ c0
 refine ⟨a.block,a.off,by rw [←hp],by simpa [Addr.add] using hb,fun i hi=>?_⟩
 have hc:=(World.cells?_some (hY i hi).1).2.2
 rw [hp] at hc
 simp only [plain_add,Nat.add_assoc] at hc
 refine ⟨?_,?_,?_,(hY i hi).2⟩
 ·have:=hc 0 (by omega);simpa using this
 ·have:=hc 1 (by omega);simpa [Nat.add_assoc] using this
 ·have:=hc 2 (by omega);simpa [Nat.add_assoc] using this
theorem arr1 {α:Type} {a:Array α} (h:a.size=1):∃ x,a=#[x]:=by
 rcases a with ⟨l⟩
 match l,h with
 | [x],_=>exact ⟨x,rfl⟩
theorem open_outline {r:Reach} {b0:Nat} {v:Value} {d:DataW H} {p:List MemPlace} (hv:Value.okWide Tryz.prog w r b0 30 v) (h:DataW.Trod enc Tryz.prog w 0 (fun _=>true) held 30 v d p) :
  ∃ (A0:Option Addr) (cap n:Nat) (D:Nat→Dm) (A:Nat→Option Addr) (C:Nat→Nat),v=.agg #[.slice A0 n cap]∧DimsV w A0 cap n D A C:=by
 obtain ⟨cs,rfl,hsz⟩:=okWide_struct Tryz.underlying30 hv
 obtain ⟨c0,rfl⟩:=arr1 (hsz.trans cellsO)
 obtain ⟨fuel,hf⟩:=h
 obtain ⟨-,n,hy⟩:=trod_one Tryz.underlying30 (by kernel_rfl) hf
 obtain ⟨y0,h0⟩:=hy 0 _ c0 rfl rfl
 obtain ⟨A0,cap,k,D,A,C,e,hD⟩:=open_dims h0
 simp at e
 exact ⟨A0,cap,k,D,A,C,by rw [e],hD⟩
end
theorem open_place {H:Type} {enc:TypeId×Value→H} {w:World} {held:Bool} {r:Reach} {b0:Nat} {v:Value} {d:DataW H} {p:List MemPlace} (hv:Value.okWide Tryz.prog w r b0 35 v) (h:DataW.Trod enc Tryz.prog w 0 (fun _=>true) held 35 v d p) :
  ∃ (Ap:Option Addr) (cp:Nat) (L:List Int),v=.slice Ap L.length cp∧PlAt w Ap cp L:=by
 obtain ⟨a,len,cap,rfl⟩:=okWide_slice Tryz.underlying35 hv
 obtain ⟨fuel,hf⟩:=h
 have hf':DataW.trod enc Tryz.prog w 0 (fun _=>true) held fuel 35 [.slice a len cap]=some (d,p):=hf
 rcases open_ints Tryz.underlying35 Tryz.underlying3 (by kernel_rfl) hf' with ⟨e,_⟩ | ⟨a',len',cap',zs,e,_,hl,_,hzl,_,hc,_⟩
 ·simp at e
  obtain ⟨rfl,rfl,rfl⟩:=e
  exact ⟨none,0,[],rfl,PlAt.nil _ _ _⟩
 ·simp at e hzl
  obtain ⟨rfl,rfl,rfl⟩:=e
  have hlen:(zs.take len).length=len:=by simp;omega
  refine ⟨some a',cap,zs.take len,by rw [hlen],by rw [hlen];exact hl,?_⟩
  rcases Nat.eq_zero_or_pos len with h0 | h0
  ·left
   subst h0
   simp
  right
  have c0:=hc 0 (by omega)
  have hp:=addr_plain c0 rfl
  have hb:=World.block_lt_of_cell? _ _ c0
  refine ⟨a'.block,a'.off,by rw [←hp],by simpa [Addr.add] using hb,fun j hj=>?_⟩
  rw [hlen] at hj
  have:=hc j (by omega)
  rw [hp,plain_add] at this
  rw [this]
  simp [List.getD,hj]
theorem cellsE_len (xs:List EnL):(cellsE xs).length=xs.length*2:=by
 induction xs with
 | nil=>rfl
 | cons x r ih=>simp [cellsE,ih];omega
section
variable {H:Type} {enc:TypeId×Value→H} {w:World} {held:Bool}
theorem cellsEn:Tryz.prog.cellsOf 69=2:=by kernel_rfl
theorem open_pl {fuel:Nat} {cs:List Value} {x:DataW H×List MemPlace} (h:DataW.trod enc Tryz.prog w 0 (fun _=>true) held fuel 35 cs=some x) :
  ∃ (Ap:Option Addr) (cp:Nat) (L:List Int),cs=[.slice Ap L.length cp]∧PlAt w Ap cp L:=by
 rcases open_ints Tryz.underlying35 Tryz.underlying3 (by kernel_rfl) h with ⟨rfl,_⟩ | ⟨a',len,cap,zs,rfl,_,hl,_,hzl,_,hc,_⟩
 ·exact ⟨none,0,[],rfl,PlAt.nil _ _ _⟩
 ·simp at hzl
  have hlen:(zs.take len).length=len:=by simp;omega
  refine ⟨some a',cap,zs.take len,by rw [hlen],by rw [hlen];exact hl,?_⟩
  rcases Nat.eq_zero_or_pos len with h0 | h0
  ·left
   subst h0
   simp
  right
  have c0:=hc 0 (by omega)
  have hp:=addr_plain c0 rfl
  have hb:=World.block_lt_of_cell? _ _ c0
  refine ⟨a'.block,a'.off,by rw [←hp],by simpa [Addr.add] using hb,fun j hj=>?_⟩
  rw [hlen] at hj
  have:=hc j (by omega)
  rw [hp,plain_add] at this
  rw [this]
  simp [List.getD,hj]
theorem open_en {fuel:Nat} {cs:List Value} {x:DataW H×List MemPlace} (h:DataW.trod enc Tryz.prog w 0 (fun _=>true) held fuel 69 cs=some x) :
  ∃ (e:En) (A:Option Addr) (c:Nat),cs=[.slice A e.pl.length c,.int .i64 e.n]∧PlAt w A c e.pl:=by
 obtain ⟨hl,n,hf⟩:=trod_one Tryz.underlying69 (by kernel_rfl) h
 rw [cellsEn] at hl
 match cs,hl with
 | [v0,v1],_ =>
  obtain ⟨y0,h0⟩:=hf 0 _ v0 rfl rfl
  obtain ⟨y1,h1⟩:=hf 1 _ v1 rfl rfl
  obtain ⟨A,c,L,e0,hP⟩:=open_pl h0
  obtain ⟨n1,e1,-,-⟩:=DataW.trod_int Tryz.underlying3 h1
  simp at e0 e1
  exact ⟨⟨L,n1⟩,A,c,by rw [e0,e1],hP⟩
theorem cells_of_each {b o:Nat} {xs:List EnL} (h:∀ i,i<xs.length→w.cell? ⟨b,o+i*2,none⟩=some (.slice (xs.getD i noL).A (xs.getD i noL).e.pl.length (xs.getD i noL).c)∧w.cell? ⟨b,o+i*2+1,none⟩=some (.int .i64 (xs.getD i noL).e.n)):∀ j u,(cellsE xs)[j]?=some u→w.cell? ⟨b,o+j,none⟩=some u:=by
 intro j u hj
 have hlt:j<(cellsE xs).length:=(List.getElem?_eq_some_iff.1 hj).1
 rw [cellsE_len] at hlt
 have hk:j / 2<xs.length:=by omega
 obtain ⟨h1,h2⟩:=cellsE_at xs _ hk
 obtain ⟨c1,c2⟩:=h _ hk
 rcases Nat.mod_two_eq_zero_or_one j with hm | hm
 ·have e:j=j / 2*2:=by omega
  rw [e] at hj ⊢
  rw [h1] at hj
  rw [c1]
  exact hj
 ·have e:j=j / 2*2+1:=by omega
  rw [e] at hj ⊢
  rw [h2] at hj
  rw [←Nat.add_assoc,c2]
  exact hj
theorem open_ens {r:Reach} {b0:Nat} {v:Value} {d:DataW H} {p:List MemPlace} (hv:Value.okWide Tryz.prog w r b0 48 v) (h:DataW.Trod enc Tryz.prog w 0 (fun _=>true) held 48 v d p) :
  ∃ (A:Option Addr) (cap:Nat) (xs:List EnL),v=.slice A xs.length cap∧EnsV w A cap xs:=by
 obtain ⟨a0,len0,cap0,rfl⟩:=okWide_slice Tryz.underlying48 hv
 obtain ⟨fuel,hf⟩:=h
 have hf':DataW.trod enc Tryz.prog w 0 (fun _=>true) held fuel 48 [.slice a0 len0 cap0]=some (d,p):=hf
 rcases open_slice Tryz.underlying48 hf' with ⟨e,-⟩ | ⟨a,len,cap,m,n,D,Pl,e,-,hl,hcm,hm,-,hx⟩
 ·simp at e
  obtain ⟨rfl,rfl,rfl⟩:=e
  exact ⟨none,0,[],rfl,Nat.le_refl _,Nat.zero_le _,Or.inl rfl⟩
 simp at e
 obtain ⟨rfl,rfl,rfl⟩:=e
 rw [cellsEn] at hx
 simp at hm
 subst hm
 haveI:Inhabited EnL:=⟨noL⟩
 have each:∀ i,i<len0→∃ y:EnL,w.cells? 0 (a.add (i*2)) 2=some [.slice y.A y.e.pl.length y.c,.int .i64 y.e.n]∧PlAt w y.A y.c y.e.pl:=fun i hi=>by
  obtain ⟨cs',h1,h2⟩:=hx i (by omega)
  obtain ⟨e,A,c,rfl,hp⟩:=open_en h2
  exact ⟨⟨e,A,c⟩,h1,hp⟩
 obtain ⟨Y,hY⟩:=choose_lt each
 have hlen:((List.range len0).map Y).length=len0:=by simp
 have hg:∀ i,i<len0→((List.range len0).map Y).getD i noL=Y i:=fun i hi=>by simp [List.getD,hi]
 refine ⟨some a,_,(List.range len0).map Y,by rw [hlen],by rw [hlen];exact hl,hcm,?_⟩
 rcases Nat.eq_zero_or_pos len0 with h0 | h0
 ·left;subst h0;rfl
 right
 have c0:=(World.cells?_some (hY 0 h0).1).2.2 0 (by omega)
 rw [add_add] at c0
 have hp:=addr_plain c0 (by omega)
 have hb:=World.block_lt_of_cell? _ _ c0
 refine ⟨a.block,a.off,by rw [←hp],by simpa [Addr.add] using hb,cells_of_each fun i hi=>?_,fun x hx=>?_⟩
 ·rw [hlen] at hi
  have hc:=(World.cells?_some (hY i hi).1).2.2
  rw [hp] at hc
  simp only [plain_add,Nat.add_assoc] at hc
  rw [hg i hi]
  refine ⟨?_,?_⟩
  ·have:=hc 0 (by omega);simpa using this
  ·have:=hc 1 (by omega);simpa [Nat.add_assoc] using this
 ·simp only [List.mem_map,List.mem_range] at hx
  obtain ⟨i,hi,rfl⟩:=hx
  exact (hY i hi).2
end
end Go.Proofs.YtmmpanbkmpdnkahGreatDoor
namespace Go.Proofs.YtmmpanbkmpdnkahGreatDoor
open Go.ChangeShapes Go.WideShapes Go.ChangeAt Go.RowKit
set_option maxRecDepth 20000
theorem tab_row (f:Nat→Nat→Int×Int) {R C r:Nat} (h:r<R):(tab f R C).getD r []=(List.range C).map (f r):=by simp [tab,List.getD,h]
theorem tab_at (f:Nat→Nat→Int×Int) {R C r c:Nat} (h:r<R) (h2:c<C):((tab f R C).getD r []).getD c noC=f r c:=by rw [tab_row f h];simp [List.getD,h2]
theorem tab_ext {Z:List (List (Int×Int))} {f:Nat→Nat→Int×Int} {R C:Nat} (h:Z.length=R) (h1:∀ r,r<R→(Z.getD r []).length=C) (h2:∀ r c,r<R→c<C→(Z.getD r []).getD c noC=f r c):Z=tab f R C:=by
 refine List.ext_getElem (by rw [h,tab_len]) fun r h3 h4=>?_
 have hr:r<R:=by omega
 have e1:Z.getD r []=Z[r]:=by simp [List.getD,h3]
 have e2:(tab f R C)[r]=(List.range C).map (f r):=by simp [tab]
 rw [e2]
 refine List.ext_getElem (by have:=h1 r hr;rw [e1] at this;simpa using this) fun c h5 h6=>?_
 have hc:c<C:=by simpa using h6
 have:=h2 r c hr hc
 rw [e1] at this
 simpa [List.getD,h5] using this
def trZ (Z:List (List (Int×Int))) (r c:Nat):List (List (Int×Int)):=tab (fun k i=>(Z.getD i []).getD k noC) c r
theorem trZ_tab {f:Nat→Nat→Int×Int} {R C:Nat}:trZ (tab f R C) R C=tab (fun k i=>f i k) C R:=by
 refine tab_ext (tab_len ..) (fun r hr=>by unfold trZ;rw [tab_row _ hr];simp) fun r c hr hc=>?_
 unfold trZ
 rw [tab_at _ hr hc,tab_at f hc hr]
theorem trZ_twice {Z:List (List (Int×Int))} {r c:Nat} (h:gErr r c Z=0):trZ (trZ Z r c) c r=Z:=by
 obtain ⟨h1,h2,-⟩:=gErr_right h
 symm
 refine tab_ext h1 (fun i hi=>h2 _ (rowD_mem (by omega))) fun i k hi hk=>?_
 unfold trZ
 rw [tab_at _ hk hi]
theorem trZ_right {Z:List (List (Int×Int))} {r c:Nat} (h:gErr r c Z=0):gErr c r (trZ Z r c)=0:=by
 obtain ⟨h1,h2,h3⟩:=gErr_right h
 refine gErr_tab fun k i hk hi=>?_
 have hm:=rowD_mem (Z:=Z) (i:=i) (by omega)
 exact h3 _ hm _ (celD_mem (by rw [h2 _ hm];exact hk))
def ownOC (w:World) (A0:Option Addr) (n cap:Nat):World:=(ownOut w A0 n cap 30).alloc (.cells #[.int .i64 0,.int .i64 0] 40)
theorem ownOC_size (w:World) (A0:Option Addr) (n cap:Nat):(ownOC w A0 n cap).heap.size=w.heap.size+2:=by unfold ownOC;simp [ownOut_size]
theorem ownOC_below (w:World) (A0:Option Addr) (n cap:Nat):Below w.heap.size w (ownOC w A0 n cap):=by unfold ownOC ownOut;go_grown
theorem ownOC_o (w:World) (A0:Option Addr) (n cap:Nat):(ownOC w A0 n cap).cell? ⟨w.heap.size,0,none⟩=some (.slice A0 n cap):=by
 unfold ownOC
 rw [World.cell?_alloc_lt _ _ ⟨w.heap.size,0,none⟩ (by simp [ownOut_size])]
 exact ownOut_at ..
theorem ownOC_b (w:World) (A0:Option Addr) (n cap:Nat):(ownOC w A0 n cap).heap[w.heap.size+1]?=some (.cells #[.int .i64 0,.int .i64 0] 40):=by
 have h:=heap_alloc_new (ownOut w A0 n cap 30) (.cells #[.int .i64 0,.int .i64 0] 40)
 rw [ownOut_size] at h
 exact h
end Go.Proofs.YtmmpanbkmpdnkahGreatDoor
namespace Go.Proofs.YtmmpanbkmpdnkahGreatDoor
open Go.ChangeShapes Go.WideShapes Go.ChangeAt Go.RowKit
theorem At.new (k n:Int) (w:World) (T:Nat):At w.heap.size k n (w.alloc (.cells #[.int .i64 k,.int .i64 n] T)):=⟨by simp,by simp,by simp⟩
theorem At.set {s:Nat} {k n:Int} {w:World} {u v:Value} (hs:s<w.heap.size) (h0:w.cell? ⟨s,0,none⟩=some u) (h1:w.cell? ⟨s,1,none⟩=some v):At s k n ((w.setCell ⟨s,0,none⟩ (.int .i64 k)).setCell ⟨s,1,none⟩ (.int .i64 n)):=by
 refine ⟨by simpa using hs,?_,?_⟩ <;> simp [go_sem,h0,h1]
end Go.Proofs.YtmmpanbkmpdnkahGreatDoor
namespace Go.Proofs.YtmmpanbkmpdnkahGreatDoor
open Go.ChangeShapes Go.WideShapes Go.ChangeAt Go.RowKit
set_option maxRecDepth 20000
def BolB (w:World) (g n:Nat) (f:Nat→Bool):Prop:=w.heap[g]?=some (.cells ((List.range n).map fun j=>Value.bool (f j)).toArray 4 (0,0))
theorem BolB.lt {w:World} {g n:Nat} {f:Nat→Bool} (h:BolB w g n f):g<w.heap.size:=(Array.getElem?_eq_some_iff.1 h).1
theorem BolB.cell {w:World} {g n:Nat} {f:Nat→Bool} (h:BolB w g n f) {j:Nat} (hj:j<n):w.cell? ⟨g,j,none⟩=some (.bool (f j)):=by
 rw [Lib.cell_of_heap h]
 simp [hj]
theorem BolB.frozen {w:World} {g n:Nat} {f:Nat→Bool} (h:BolB w g n f) (j:Nat):w.frozen? ⟨g,j,none⟩=false:=Lib.frozen_of_heap h j
theorem BolB.later {w w':World} {g n:Nat} {f:Nat→Bool} (h:BolB w g n f) (hB:Below w.heap.size w w'):BolB w' g n f:=(hB.block g h.lt).trans h
theorem BolB.set {w:World} {g n:Nat} {f f':Nat→Bool} (h:BolB w g n f) {m:Nat} (hf:∀ j,j<n→f' j=if j=m then true else f j):BolB (w.setCell ⟨g,m,none⟩ (.bool true)) g n f':=by
 unfold BolB at *
 simp only [World.setCell,Array.getElem?_modify,if_true,h,Option.map_some,Option.some.injEq,Obj.cells.injEq,and_true,Option.isSome_none,Bool.false_eq_true,if_false]
 apply Array.ext_getElem?
 intro j
 rw [Array.getElem?_setIfInBounds]
 by_cases hj:j<n
 ·by_cases e:m=j
  ·rw [if_pos e,if_pos (by simp;omega)]
   simp [hj,hf j hj,e]
  ·have e':j≠m:=fun x=>e x.symm
   rw [if_neg e]
   simp only [List.getElem?_toArray,List.getElem?_map,List.getElem?_range hj,Option.map_some,hf j hj,if_neg e']
 ·by_cases e:m=j
  ·rw [if_pos e,if_neg (by simp;omega),Array.getElem?_eq_none (by simp;omega)]
  ·rw [if_neg e,Array.getElem?_eq_none (by simp;omega),Array.getElem?_eq_none (by simp;omega)]
theorem BolB.made (w:World) (n:Nat):BolB (w.alloc (.cells (madeCells #[.bool false] n) 4)) w.heap.size n fun _=>false:=by
 unfold BolB
 have e:madeCells #[.bool false] n=((List.range n).map fun _=>Value.bool false).toArray:=by
  apply Array.ext
  ·simp [madeCells]
  ·intro i h1 h2
   simp [madeCells,Nat.mod_one]
 rw [e]
 exact heap_alloc_new w _
theorem below_set {B:Nat} {w0 w:World} {g j:Nat} {v:Value} (h:Below B w0 w) (hg:B≤g):Below B w0 (w.setCell ⟨g,j,none⟩ v):=by
 refine ⟨h.os,h.tape,h.output,by simpa [World.setCell] using h.size,fun k hk=>?_⟩
 rw [←h.block k hk]
 simp only [World.setCell,Array.getElem?_modify]
 rw [if_neg (by omega)]
theorem Tryz.infoBol:(Tryz.prog.info? 4).map (fun i=>(i.zero,i.size,i.bytes))=some (some (.bool false),1,1):=by kernel_rfl
def FrC (gC gT:Nat) (w w':World):Prop:=Kept w.heap.size (fun k=>k=gC∨k=gT) w w'
theorem FrC.refl (gC gT:Nat) (w:World):FrC gC gT w w:=Kept.refl _ _ _
theorem FrC.trans {gC gT:Nat} {w w1 w2:World} (h:FrC gC gT w w1) (k:FrC gC gT w1 w2):FrC gC gT w w2:=⟨k.os.trans h.os,k.tape.trans h.tape,k.output.trans h.output,Nat.le_trans h.size k.size,fun i hi hx=>(k.block i (Nat.lt_of_lt_of_le hi h.size) hx).trans (h.block i hi hx)⟩
theorem frC_below {gC gT:Nat} {w w':World} (h:Below w.heap.size w w'):FrC gC gT w w':=kept_below h (Nat.le_refl _)
theorem frC_drew {gC gT:Nat} {w w':World} (h:FrC gC gT w w'):FrC gC gT w w'.drew:=⟨h.os,h.tape,h.output,h.size,h.block⟩
theorem intT_frC {gC gT:Nat} {w w':World} {A:Option Addr} {c:Nat} {L:List Int} (h:IntT w A c L) (k:FrC gC gT w w') (h1:∀ cs fr,w.heap[gC]?≠some (.cells cs 3 fr)) (h2:∀ cs fr,w.heap[gT]?≠some (.cells cs 3 fr)):IntT w' A c L :=
 h.keep fun b cs fr hb=>k.block b (Array.getElem?_eq_some_iff.1 hb).1 (by
  rintro (e | e)
  ·exact h1 cs fr (by rw [←e];exact hb)
  ·exact h2 cs fr (by rw [←e];exact hb))
def StC (wB:World) (qc qp n gC cC gT:Nat) (D:Nat→Dm) (inp:List Int→Int×Int) (f:Nat→Bool) (w:World):Prop :=
 Below wB.heap.size wB w∧w.heap[qc]?=some (.cells #[.pointer (some ⟨qp,0,none⟩),.slice (some ⟨gC,0,none⟩) (prodN D n) cC,.slice (some ⟨gT,0,none⟩) (prodN D n) (prodN D n)] 123 (0,0))∧∃ L,CelB w gC L∧L.length=prodN D n∧BolB w gT (prodN D n) f∧∀ j,j<prodN D n→(f j=true→L.getD j noC=solV D n inp (placeL D n j))∧(f j=false→L.getD j noC=inp (placeL D n j))
structure CtxA (wB:World) (qc qp g n gC cC gT:Nat) (D:Nat→Dm) (X:Nat→AL) (inp:List Int→Int×Int):Prop where
 hE:(allErr D n).2.2=0
 hR:AllR D n
 hA:PlanV wB qp g n D X
 hg:∀ p,goodC (inp p)
 hq:wB.heap.size≤qc
 hC:wB.heap.size≤gC
 hT:wB.heap.size≤gT
 hcc:prodN D n≤cC
 hc63:cC≤3000
section
variable {wB:World} {qc qp g n gC cC gT:Nat} {D:Nat→Dm} {X:Nat→AL} {inp:List Int→Int×Int} {f:Nat→Bool}
theorem StC.lts {w:World} (h:StC wB qc qp n gC cC gT D inp f w):qc<w.heap.size∧gC<w.heap.size∧gT<w.heap.size∧wB.heap.size≤w.heap.size:=by
 obtain ⟨h1,h2,L,h3,-,h4,-⟩:=h
 exact ⟨(Array.getElem?_eq_some_iff.1 h2).1,h3.lt,h4.lt,h1.size⟩
theorem StC.ne {w:World} (h:StC wB qc qp n gC cC gT D inp f w):qc≠gC∧qc≠gT∧gC≠gT:=by
 obtain ⟨-,h2,L,⟨cur,h3,-⟩,-,h4,-⟩:=h
 unfold BolB at h4
 refine ⟨fun e=>?_,fun e=>?_,fun e=>?_⟩
 ·rw [e,h3] at h2;simp at h2
 ·rw [e,h4] at h2;simp at h2
 ·rw [e,h4] at h3;simp at h3
theorem StC.offI {w:World} (h:StC wB qc qp n gC cC gT D inp f w):(∀ cs fr,w.heap[gC]?≠some (.cells cs 3 fr))∧∀ cs fr,w.heap[gT]?≠some (.cells cs 3 fr):=by
 obtain ⟨-,-,L,⟨cur,h3,-⟩,-,h4,-⟩:=h
 unfold BolB at h4
 refine ⟨fun cs fr e=>?_,fun cs fr e=>?_⟩
 ·rw [h3] at e;simp at e
 ·rw [h4] at e;simp at e
theorem StC.next {w0 w1 w2:World} {f0:Nat→Bool} (h0:StC wB qc qp n gC cC gT D inp f0 w0) (h:StC wB qc qp n gC cC gT D inp f w1) (hB:Below w0.heap.size w1 w2):StC wB qc qp n gC cC gT D inp f w2:=by
 obtain ⟨l1,l2,l3,l4⟩:=h0.lts
 obtain ⟨h1,h2,L,h3,h5,h4,h6⟩:=h
 exact ⟨⟨hB.os.trans h1.os,hB.tape.trans h1.tape,hB.output.trans h1.output,Nat.le_trans h1.size hB.size,fun i hi=>(hB.block i (by omega)).trans (h1.block i hi)⟩,(hB.block qc l1).trans h2,L,h3.same (hB.block gC l2),h5,(hB.block gT l3).trans h4,h6⟩
theorem StC.drew {w:World} (h:StC wB qc qp n gC cC gT D inp f w):StC wB qc qp n gC cC gT D inp f w.drew:=h.next h (below_drewN (Below.refl _ _) 1)
theorem StC.cells {w:World} (h:StC wB qc qp n gC cC gT D inp f w):w.cell? ⟨qc,0,none⟩=some (.pointer (some ⟨qp,0,none⟩))∧w.cell? ⟨qc,1,none⟩=some (.slice (some ⟨gC,0,none⟩) (prodN D n) cC)∧w.cell? ⟨qc,2,none⟩=some (.slice (some ⟨gT,0,none⟩) (prodN D n) (prodN D n)):=by
 obtain ⟨-,hq,-⟩:=h
 exact ⟨by simp [World.cell?,hq],by simp [World.cell?,hq],by simp [World.cell?,hq]⟩
theorem StC.put {w:World} (h:StC wB qc qp n gC cC gT D inp f w) {x:Nat} (hx:x<prodN D n) {ra rb:Int} (hv:solV D n inp (placeL D n x)=(ra,rb)) (h1:wB.heap.size≤gC) (h2:wB.heap.size≤gT):StC wB qc qp n gC cC gT D inp (fun j=>if j=x then true else f j) (((w.setCell ⟨gC,x*2,none⟩ (.int .i64 ra)).setCell ⟨gC,x*2+1,none⟩ (.int .i64 rb)).setCell ⟨gT,x,none⟩ (.bool true)):=by
 obtain ⟨n1,n2,n3⟩:=h.ne
 obtain ⟨hB,hq,L,hC,hL,hT,hI⟩:=h
 refine ⟨below_set (below_set (below_set hB h1) h1) h2,?_,L.set x (ra,rb),?_,by rw [List.length_set];exact hL,?_,fun j hj=>?_⟩
 ·rw [setCell_off _ _ _ _ _ n2,setCell_off _ _ _ _ _ n1,setCell_off _ _ _ _ _ n1]
  exact hq
 ·exact (hC.set (by omega) ra rb).same (setCell_off _ _ _ _ _ n3)
 ·refine BolB.set (f:=f) ?_ fun j _=>rfl
  unfold BolB at hT ⊢
  rw [setCell_off _ _ _ _ _ n3.symm,setCell_off _ _ _ _ _ n3.symm]
  exact hT
 ·by_cases e:j=x
  ·subst e
   refine ⟨fun _=>?_,fun h=>by simp at h⟩
   rw [List.getD_eq_getElem?_getD,List.getElem?_set_self (by omega)]
   exact hv.symm
  ·simp only [if_neg e]
   rw [List.getD_eq_getElem?_getD,List.getElem?_set_ne (fun h=>e h.symm),←List.getD_eq_getElem?_getD]
   exact hI j hj
theorem frC_put {w y:World} {x:Nat} {a b c:Value} (h:FrC gC gT w y):FrC gC gT w (((y.setCell ⟨gC,x*2,none⟩ a).setCell ⟨gC,x*2+1,none⟩ b).setCell ⟨gT,x,none⟩ c):=⟨h.os,h.tape,h.output,by simp only [World.size_setCell];exact h.size,fun i hi hx=>by
 rw [setCell_off _ _ _ _ _ (fun e=>hx (Or.inr e)),setCell_off _ _ _ _ _ (fun e=>hx (Or.inl e)),setCell_off _ _ _ _ _ (fun e=>hx (Or.inl e))]
 exact h.block i hi hx⟩
theorem nds_near (hX:CtxA wB qc qp g n gC cC gT D X inp) {x:Nat} (hx:x<prodN D n) {z:Int} (hz:z∈ndsX D n x):∃ y:Nat,z=(y:Int)∧y<prodN D n∧msrTo D (placeL D n y) n<msrTo D (placeL D n x) n:=by
 have hP:=placeL_in (D:=D) (n:=n) (x:=x) hX.hE
 rcases by_in D (placeL D n x) n with h | ⟨b,h,hb⟩
 ·rw [nds_leaf (by omega)] at hz;cases hz
 ·have hp0:=hP.lo b hb
  have hp1:=hP.hi b hb
  have hm:((placeL D n x).getD b 0).toNat<(D b).n:=by omega
  rw [nds_by h,List.mem_map] at hz
  obtain ⟨k,hk,rfl⟩:=hz
  have hk1:=(neW_mem (hX.hR b hb) hm k).1 hk
  have hk2:=mNd_in hk1
  obtain ⟨y,e1,e2,e3,-⟩:=putN_at hX.hE hb hx hk2.1 hk2.2
  refine ⟨y,e1,e2,?_⟩
  rw [e3]
  have hrk:=rk_less (hX.hR b hb) hm hk1
  rw [Int.toNat_of_nonneg hp0] at hrk
  exact (msr_less (by rw [hP.len];exact hb) hrk n).2 hb
end
theorem run_make_bols (n:Nat) (hn:n≤3000) (w:World):(Instr.makeSlice 110 (.int .i64 (n:Int)) (.int .i64 (n:Int))).run Tryz.prog w=.ok (.slice (some ⟨w.heap.size,0,none⟩) n n) (w.alloc (.cells (madeCells #[.bool false] n) 4)):=by
 obtain ⟨i0,hi0,hz0,hz1,hz2⟩:=info_parts Tryz.infoBol
 have hr:=run_make (P:=Tryz.prog) w 110 4 i0 _ Tryz.underlying110 hi0 hz0 .i64 .i64 n n (by omega) (Int.le_refl _) (by rw [hz2];omega) (by omega)
 simp only [Int.toNat_natCast,hz1,Nat.mul_one] at hr
 exact hr
theorem num_lt {D:Nat→Dm} {n:Nat} {p:List Int} (h:InO D n p):∃ x:Nat,numI D p n=(x:Int)∧x<prodN D n∧placeL D n x=p:=by
 obtain ⟨h1,h2,-⟩:=numI_bound h (Nat.le_refl n)
 have h3:=place_num h
 exact ⟨(numI D p n).toNat,by omega,by omega,h3⟩
end Go.Proofs.YtmmpanbkmpdnkahGreatDoor
